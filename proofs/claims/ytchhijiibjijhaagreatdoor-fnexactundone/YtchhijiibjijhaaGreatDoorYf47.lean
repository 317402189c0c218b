import Derived.Test.YtchhijiibjijhaaGreatDoorYf44
import Derived.RangeFuncNested
import Derived.RangeFuncBound
import Derived.RangeFuncCalls
import Derived.RangeFuncLeaves
import Derived.Shelf.Abstract
import Derived.OwnWalkIn
import Derived.TacticsInMore
import Derived.LoopNIn
import Derived.LoopIn
namespace Go.Proofs.YtchhijiibjijhaaGreatDoor
set_option maxRecDepth 100000
set_option maxHeartbeats 4000000
open Go.ChangeShapes Go.WideShapes Go.ChangeAt Go.RowKit Go.Deep
theorem kndN:Kind 47 3 1 8:=by
 refine ⟨Tryz.underlying47,?_,by omega,by omega⟩
 have h:(Tryz.prog.info? 3).map (fun i=>(i.zero.map (·.cells.size),i.size,i.bytes))=some (some 1,1,8):=by kernel_rfl
 cases hi:Tryz.prog.info? 3 with
 | none=>rw [hi] at h;cases h
 | some i=>
  rw [hi] at h
  simp only [Option.map_some,Option.some.injEq,Prod.mk.injEq] at h
  cases hz:i.zero with
  | none=>rw [hz] at h;simp at h
  | some z=>
   rw [hz] at h
   simp only [Option.map_some,Option.some.injEq] at h
   exact ⟨i,z,rfl,hz,h.2.1,h.2.2,by omega⟩
def udT (y Y:Sy) (n:Nat):List Int:=(List.range n).map fun q=>(y.hL q:Int) - (Y.hL q:Int)
theorem qwz (y Y:Sy) (n:Nat):udT y Y (n+1)=udT y Y n ++ [(y.hL n:Int) - (Y.hL n:Int)]:=by
 unfold udT
 rw [List.range_succ,List.map_append]
 rfl
theorem qqj (y Y:Sy) (n:Nat):(udT y Y n).length=n:=by simp [udT]
noncomputable def udS (y:Sy) (p k:Int):List Int:=if bkC y p k=0 then udT y (bkY y p k) y.hn else []
theorem qh5 {y:Sy} {p k:Int} (h:bkC y p k=0):y.Ok/\(bkY y p k).hn=y.pn/\∀ q,q<y.pn->(bkY y p k).hL q<=y.hL q:=by
 unfold bkC at h
 by_cases ho:y.okB=true
 ·rw [if_pos ho] at h
  by_cases hb:bkIn y p k=true
  ·rw [if_pos hb] at h
   by_cases hw:wfB (y.ah (cN (bkE y p k)))=true
   ·have hO:=Sy.ok_of ho
    have hc:=qin (qgp hO hb)
    unfold bkY
    rw [if_pos ho,if_pos hb,if_pos hw]
    exact ⟨hO,rfl,fun q hq=>hc.leN hq⟩
   ·rw [if_neg hw] at h
    cases h
  ·rw [if_neg hb] at h
   cases h
 ·rw [if_neg ho] at h
  cases h
theorem qj0 (x:SysIn) (p k:Int) (w:World) (hG:SysG w x) (hL:x.Len) (hcap:∀ i,i<x.hn->x.hL i<=x.hC i):
  Calls Tryz.prog 29 #[x.v,.int .i64 p,.int .i64 k] w fun e w'=>∃ u,e=.returned u/\OwnI w' w.heap.size u (udS x.y p k)/\Below w.heap.size w w':=by
 have HG:Hid (SysG w x):=hG
 have HB:Hid (∀ wx,Below w.heap.size w wx->Calls Tryz.prog 25 #[x.v,.int .i64 p,.int .i64 k] wx fun e w'=>∃ v,e=.returned (.tuple #[v,.int .i64 (bkC x.y p k)])/\qag false w' wx.heap.size (bkY x.y p k) v/\Below wx.heap.size wx w'):=fun wx hb=>qep x p k wx (hG.below hb) hL hcap
 have HD:Hid (bkC x.y p k=0->x.y.Ok/\(bkY x.y p k).hn=x.y.pn/\∀ q,q<x.y.pn->(bkY x.y p k).hL q<=x.y.hL q):=qh5
 have HU:Hid (udS x.y p k=if bkC x.y p k=0 then udT x.y (bkY x.y p k) x.y.hn else []):=rfl
 have hl':(x.hn:Int)<=1048576:=by have:=hL.h.1;omega
 have BW:Hid (Below w.heap.size w ((w.alloc (oQ4 x.pa x.pn x.pc x.sa x.sn x.sc x.wa x.wn x.wc x.ha x.hn x.hc)).alloc (.cells #[] 3))):=(zT _ _).trans ((zT _ _).mono (by simp))
 have NB:Hid (BoxC ((w.alloc (oQ4 x.pa x.pn x.pc x.sa x.sn x.sc x.wa x.wn x.wc x.ha x.hn x.hc)).alloc (.cells #[] 3)) w.heap.size (.slice x.pa x.pn x.pc) (.slice x.sa x.sn x.sc) (.slice x.wa x.wn x.wc) (.slice x.ha x.hn x.hc)):=(BoxC.new w _ _ _ _ _).below (zT _ _)
 have NO:Hid (OwnI ((w.alloc (oQ4 x.pa x.pn x.pc x.sa x.sn x.sc x.wa x.wn x.wc x.ha x.hn x.hc)).alloc (.cells #[] 3)) (w.heap.size+1) (.slice (some ⟨w.heap.size+1,0,none⟩) 0 0) []):=qe2 (w.alloc (oQ4 x.pa x.pn x.pc x.sa x.sn x.sc x.wa x.wn x.wc x.ha x.hn x.hc)) (by simp)
 have LZ:Hid (((w.alloc (oQ4 x.pa x.pn x.pc x.sa x.sn x.sc x.wa x.wn x.wc x.ha x.hn x.hc)).alloc (.cells #[] 3)).heap.size=w.heap.size+2):=by show _=_;simp
 obtain ⟨C,hC⟩:∃ C,bkC x.y p k=C:=⟨_,rfl⟩
 obtain ⟨Y,hY⟩:∃ Y,bkY x.y p k=Y:=⟨_,rfl⟩
 rw [hC,hY] at HB HD HU
 generalize udS x.y p k=U at *
 clear hC hY hG hL hcap
 go_enter Tryz.func29,Tryz.ntmps29
 go_wp2_with fail
 generalize (w.alloc (oQ4 x.pa x.pn x.pc x.sa x.sn x.sc x.wa x.wn x.wc x.ha x.hn x.hc)).alloc (.cells #[] 3)=W2 at *
 refine (HB.out W2 BW.out).mono ?_
 rintro e w3 ⟨v3,rfl,o3,q3⟩
 obtain ⟨cl,vp,vs,vw,vh,up,us,uw,uh,rfl,o3⟩:=o3
 obtain ⟨pa,pc,rfl⟩:=zU o3.p.row
 obtain ⟨sa,sc,rfl⟩:=zU o3.s.row
 obtain ⟨wa,wc,rfl⟩:=zU o3.t.row
 obtain ⟨ha,hc,rfl⟩:=zU o3.h.row
 have ba:=zQ w3 (oQ4 pa Y.pn pc sa Y.sn sc wa Y.wn wc ha Y.hn hc)
 have F4:Hid (OwnS false (w3.alloc (oQ4 pa Y.pn pc sa Y.sn sc wa Y.wn wc ha Y.hn hc)) W2.heap.size cl Y (.slice pa Y.pn pc) (.slice sa Y.sn sc) (.slice wa Y.wn wc) (.slice ha Y.hn hc) up us uw uh/\Below W2.heap.size W2 (w3.alloc (oQ4 pa Y.pn pc sa Y.sn sc wa Y.wn wc ha Y.hn hc))/\BoxC (w3.alloc (oQ4 pa Y.pn pc sa Y.sn sc wa Y.wn wc ha Y.hn hc)) w3.heap.size (.slice pa Y.pn pc) (.slice sa Y.sn sc) (.slice wa Y.wn wc) (.slice ha Y.hn hc)/\W2.heap.size<=w3.heap.size):=⟨o3.below ba,q3.trans (ba.mono q3.size),BoxC.new w3 _ _ _ _ _,q3.size⟩
 go_upto_region 3 with fail
 clear o3 q3 ba HB
 generalize hN:w3.heap.size=N at *
 clear hN
 generalize w3.alloc (oQ4 pa Y.pn pc sa Y.sn sc wa Y.wn wc ha Y.hn hc)=w4 at *
 clear w3
 have B4:Hid (Below w.heap.size w w4/\OwnI w4 (w.heap.size+1) (.slice (some ⟨w.heap.size+1,0,none⟩) 0 0) []/\BoxC w4 w.heap.size (.slice x.pa x.pn x.pc) (.slice x.sa x.sn x.sc) (.slice x.wa x.wn x.wc) (.slice x.ha x.hn x.hc)):=⟨BW.out.trans (F4.out.2.1.mono BW.out.size),NO.out.below F4.out.2.1,NB.out.below F4.out.2.1⟩
 by_cases h0:C=0
 case neg=>
  have HV:Hid (U=[]):=by show U=[];rw [HU.out,if_neg h0]
  clear HU HD F4
  go_wp2
  go_ret
  rw [HV.out]
  exact ⟨_,rfl,B4.out.2.1.mono (Nat.le_succ _),B4.out.1⟩
 subst h0
 obtain ⟨hO,hyn,hyl⟩:=HD.out rfl
 have HV:Hid (U=udT x.y Y x.hn):=by show U=_;rw [HU.out,if_pos rfl];rfl
 have HN:Hid (x.hn=x.pn/\Y.hn=x.pn/\(∀ q,q<x.pn->Y.hL q<=x.hL q/\x.hL q<=200)/\1<=x.pn):=⟨hO.cn.2.2.1,hyn,fun q hq=>⟨hyl q hq,hO.hl200 hq⟩,hO.cn.1.1⟩
 clear HU HD hO hyn hyl
 obtain ⟨gh,gcap,egh,-⟩:=F4.out.1.h.cell (i:=0) (by have:=HN.out;omega)
 simp only [Value.slice.injEq] at egh
 obtain ⟨rfl,-,-⟩:=egh
 go_wp2_with fail
 go_loopw [7,10] (fun o i wr=>∃ k:Nat,k<=x.hn/\i=.int .i64 k/\Hid (OwnI wr (w.heap.size+1) o (udT x.y Y k)/\(∀ b,o.ownBlock=some b->b=w.heap.size+1\/w4.heap.size<=b)/\Below w.heap.size w wr/\w4.heap.size<=wr.heap.size/\∀ b,b<w4.heap.size->b≠w.heap.size+1->wr.heap[b]? = w4.heap[b]?)) (fun _ i _=>x.hn - (intOf i).toNat)
 case atStart=>exact ⟨0,Nat.zero_le _,rfl,B4.out.2.1,fun b hb=>by cases hb;exact .inl rfl,B4.out.1,Nat.le_refl _,fun _ _ _=>rfl⟩
 case round=>
  obtain ⟨j,hj,rfl,HI⟩:=hrel
  have lz:=LZ.out
  have s4:=F4.out.2.1.size
  have hNl:N<w4.heap.size:=zJ _ _ F4.out.2.2.1.1
  have hNl2:W2.heap.size<=N:=F4.out.2.2.2
  have kp:=HI.out.2.2.2.2
  have b3:wr.cell? ⟨w.heap.size,3,none⟩=some (.slice x.ha x.hn x.hc):=(zH (kp w.heap.size (by omega) (by omega))).trans B4.out.2.2.2.2.2
  by_cases hlt:j<x.hn
  ·have hlt':(j:Int)<(x.hn:Int):=by omega
   have hltp:j<x.pn:=by have:=HN.out;omega
   have hlY:j<Y.hn:=by have:=HN.out;omega
   have hlY':(j:Int)<(Y.hn:Int):=by omega
   have hb1:=(HN.out.2.2.1 j hltp).1
   have hb2:=(HN.out.2.2.1 j hltp).2
   obtain ⟨bh,oh,eh,ch0⟩:=HG.out.h.at hlt
   have lbh:bh<w.heap.size:=zJ _ _ ch0
   have ch:wr.cell? ⟨bh,oh+j,none⟩=some (.slice (x.hA j) (x.hL j) (x.hC j)):=(HI.out.2.2.1.cell (p:=⟨bh,oh+j,none⟩) lbh).trans ch0
   rw [eh] at b3
   clear eh ch0
   have hcg:=F4.out.1.h.cellG (i:=j) hlY
   obtain ⟨ga,gc,eg,-⟩:=qk0 (F4.out.1.h.own j hlY)
   rw [eg] at hcg
   have hghB:W2.heap.size<=gh:=hcg.2.1.1
   have lgh:gh<w4.heap.size:=hcg.2.2.1
   have cg:wr.cell? ⟨gh,j,none⟩=some (.slice ga (Y.hL j) gc):=(zH (kp gh lgh (by omega))).trans hcg.1
   have n3:wr.cell? ⟨N,3,none⟩=some (.slice (some ⟨gh,0,none⟩) Y.hn hc):=(zH (kp N hNl (by omega))).trans F4.out.2.2.1.2.2.2
   have lw:w.heap.size<wr.heap.size:=zJ _ _ b3
   have lb:bh<wr.heap.size:=zJ _ _ ch
   have lg:gh<wr.heap.size:=zJ _ _ cg
   have ln:N<wr.heap.size:=zJ _ _ n3
   obtain ⟨dd,hdd⟩:∃ dd:Int,(x.hL j:Int) - (Y.hL j:Int)=dd:=⟨_,rfl⟩
   have hd0:0<=dd/\dd<=200:=by omega
   have HF:Hid (udT x.y Y (j+1)=udT x.y Y j ++ [dd]):=by show _=_;rw [qwz,<- hdd];rfl
   have HFl:Hid ((udT x.y Y j).length=j):=qqj _ _ _
   clear hcg eg kp hb1 hb2
   go_upto_region 8 with fail
   have q0:Below wr.heap.size wr wr.drew:=(Below.refl wr.heap.size wr).drew
   refine qa7 (fun w'=>w'.cell? ⟨w.heap.size,3,none⟩=some (.slice (some ⟨bh,oh,none⟩) x.hn x.hc)/\w'.cell? ⟨bh,oh+j,none⟩=some (.slice (x.hA j) (x.hL j) (x.hC j))/\w'.cell? ⟨N,3,none⟩=some (.slice (some ⟨gh,0,none⟩) Y.hn hc)/\w'.cell? ⟨gh,j,none⟩=some (.slice ga (Y.hL j) gc)) (fun _=>false) (by kernel_rfl) ?_
   have hS:∀ wx:World,(∀ b,b<wr.heap.size->u7.ownBlock≠some b->wx.heap[b]? = wr.heap[b]?)->wx.cell? ⟨w.heap.size,3,none⟩=some (.slice (some ⟨bh,oh,none⟩) x.hn x.hc)/\wx.cell? ⟨bh,oh+j,none⟩=some (.slice (x.hA j) (x.hL j) (x.hC j))/\wx.cell? ⟨N,3,none⟩=some (.slice (some ⟨gh,0,none⟩) Y.hn hc)/\wx.cell? ⟨gh,j,none⟩=some (.slice ga (Y.hL j) gc):=fun wx hx=>by
    have ho:∀ b,u7.ownBlock=some b->b=w.heap.size+1\/w4.heap.size<=b:=HI.out.2.1
    refine ⟨(zH (a:=⟨w.heap.size,3,none⟩) (hx w.heap.size lw fun e=>?_)).trans b3,(zH (a:=⟨bh,oh+j,none⟩) (hx bh lb fun e=>?_)).trans ch,(zH (a:=⟨N,3,none⟩) (hx N ln fun e=>?_)).trans n3,(zH (a:=⟨gh,j,none⟩) (hx gh lg fun e=>?_)).trans cg⟩
    ·rcases ho _ e with h | h <;> omega
    ·rcases ho _ e with h | h <;> omega
    ·rcases ho _ e with h | h <;> omega
    ·rcases ho _ e with h | h <;> omega
   have hHeld:(fun w':World=>w'.cell? ⟨w.heap.size,3,none⟩=some (.slice (some ⟨bh,oh,none⟩) x.hn x.hc)/\w'.cell? ⟨bh,oh+j,none⟩=some (.slice (x.hA j) (x.hL j) (x.hC j))/\w'.cell? ⟨N,3,none⟩=some (.slice (some ⟨gh,0,none⟩) Y.hn hc)/\w'.cell? ⟨gh,j,none⟩=some (.slice ga (Y.hL j) gc)) wr.drew:=hS _ fun b hb _=>q0.block b hb
   refine qbr [0,1,2,3,4,5,6,7,8,9,10,11,12] ?_
   iterate 13 (refine qa3 rfl hHeld ?_;apply Exists.intro;refine ⟨fun wq hSw=>?_,?_⟩;(· ((try dsimp only at hSw);go_simp;try with_reducible rfl));(try simp only [Act.put,zD,zE,zF]))
   refine qbe ?_
   refine qan 13 rfl hHeld ⟨.int .i64 dd,fun wq _=>?_,?_⟩
   ·go_simp
    try (rw [IntKind.wrap_i64];omega)
   (try simp only [Act.put,zD,zE,zF])
   refine qao 14 rfl (by kernel_rfl) (fun K hK=>?_)
   go_simp
   have qa:Below wr.heap.size wr (wr.drew.alloc (.cells #[.int .i64 dd] 3)):=q0.trans ((zQ _ _).mono q0.size)
   refine hK.out _ _ (fun _=>hS _ fun b hb _=>qa.block b hb) ?_
   clear hK K hHeld qa
   (try simp only [Act.put,zD,zE,zF])
   refine qao 15 rfl (by kernel_rfl) (fun K hK=>?_)
   refine qbt kndN wr.drew rfl rfl _ _ rfl (w.heap.size+1) u7 j _ rfl (by have h:=HI.out.1;unfold OwnI at h;rw [HFl.out] at h;exact qas h fun b hb=>q0.block b (h.lt b hb).2) #[.int .i64 dd] rfl rfl (by intro u hu;simp at hu;subst hu;rfl) (by omega) (by have:=HI.out.2.2.2.1;have:=q0.size;omega) ?_
   intro v15 w15 o15 g15 p15 n15
   have hx:∀ b,b<wr.heap.size->u7.ownBlock≠some b->w15.heap[b]? = wr.heap[b]?:=fun b hb hne=>(g15.block b (zL hb q0.size) (Ne.symm hne)).trans (q0.block b hb)
   have s15:wr.heap.size<=w15.heap.size:=zP q0.size g15.size
   have F15:Hid (OwnI w15 (w.heap.size+1) v15 (udT x.y Y (j+1))/\(∀ b,v15.ownBlock=some b->b=w.heap.size+1\/w4.heap.size<=b)/\Below w.heap.size w w15/\w4.heap.size<=w15.heap.size/\∀ b,b<w4.heap.size->b≠w.heap.size+1->w15.heap[b]? = w4.heap[b]?):=by
    have h4:=HI.out.2.2.2.1
    refine ⟨?_,fun b hb=>?_,?_,by omega,fun b h1 h2=>?_⟩
    ·unfold OwnI
     rw [qqj,HF.out,List.map_append]
     exact o15
    ·rcases p15 b hb with h | h
     ·exact HI.out.2.1 b h
     ·exact .inr (zP h4 h)
    ·exact Below.grown (HI.out.2.2.1.trans (q0.mono HI.out.2.2.1.size)) g15 (zP HI.out.2.2.1.size q0.size) (fun b hb=>by rcases HI.out.2.1 b hb with h | h <;> omega)
    ·refine (hx b (by omega) fun e=>?_).trans (HI.out.2.2.2.2 b h1 h2)
     rcases HI.out.2.1 b e with h | h <;> omega
   have hHeld:(fun w':World=>w'.cell? ⟨w.heap.size,3,none⟩=some (.slice (some ⟨bh,oh,none⟩) x.hn x.hc)/\w'.cell? ⟨bh,oh+j,none⟩=some (.slice (x.hA j) (x.hL j) (x.hC j))/\w'.cell? ⟨N,3,none⟩=some (.slice (some ⟨gh,0,none⟩) Y.hn hc)/\w'.cell? ⟨gh,j,none⟩=some (.slice ga (Y.hL j) gc)) w15:=hS _ hx
   refine hK.out _ _ (fun _=>hHeld) ?_
   clear hK K o15 g15 p15 n15 hx s15 q0
   (try simp only [Act.put,zD,zE,zF])
   refine qan 16 rfl hHeld ?_
   apply Exists.intro
   refine ⟨fun wq hSw=>?_,?_⟩
   ·(try dsimp only at hSw)
    go_simp
    try with_reducible rfl
   (try simp only [Act.put,zD,zE,zF])
   refine qbf (by kernel_rfl) ?_ _
   clear hHeld hS b3 ch cg n3 lw lb lg ln hdd hd0 HF HFl
   go_wp2
   go_roundw
   case rel=>exact ⟨j+1,by omega,by go_num,F15.out⟩
   case measure=>simp [intOf];omega
  ·have hjn:j=x.hn:=by omega
   subst hjn
   have O:Hid (OwnI wr (w.heap.size+1) u7 (udT x.y Y x.hn)/\Below w.heap.size w wr):=⟨HI.out.1,HI.out.2.2.1⟩
   clear HI kp
   go_wp2
   go_ret
   rw [HV.out]
   exact ⟨_,rfl,O.out.1.mono (Nat.le_succ _),O.out.2⟩
theorem EvAt.put {w:World} {g n:Nat} {E:Nat->E3} (h:EvAt w g 0 n E) (t:Nat) (z:Int):∃ E',EvAt (w.setCell ⟨g,t,none⟩ (.int .i64 z)) g 0 n E':=by
 have key:∀ (o:Nat) (x:Int),w.cell? ⟨g,o,none⟩=some (.int .i64 x)->(w.setCell ⟨g,t,none⟩ (.int .i64 z)).cell? ⟨g,o,none⟩=some (.int .i64 (if o=t then z else x)):=by
  intro o x hx
  by_cases e:o=t
  ·subst e
   rw [if_pos rfl]
   exact World.cell?_setCell_same _ _ _ hx
  ·rw [if_neg e]
   exact (World.cell?_setCell_other _ _ _ _ fun e'=>e (by injection e' with _ e2;exact e2.symm)).trans hx
 refine ⟨fun i=>⟨if 0+i*3=t then z else (E i).k,if 0+i*3+1=t then z else (E i).q,if 0+i*3+2=t then z else (E i).v⟩,fun i hi=>?_⟩
 obtain ⟨h0,h1,h2⟩:=h i hi
 exact ⟨key _ _ h0,key _ _ h1,key _ _ h2⟩
def qhv (E:Nat->E3):Nat->List Value
 | 0=>[]
 | n+1=>qhv E n ++ [.int .i64 (E n).k,.int .i64 (E n).q,.int .i64 (E n).v]
theorem qd9 (E:Nat->E3):∀ n,(qhv E n).length=n*3
 | 0=>rfl
 | n+1=>by
  rw [qhv,List.length_append,qd9 E n]
  simp
  omega
theorem qqt (E:Nat->E3):∀ n i,i<n->(qhv E n)[i*3]? = some (.int .i64 (E i).k)/\(qhv E n)[i*3+1]? = some (.int .i64 (E i).q)/\(qhv E n)[i*3+2]? = some (.int .i64 (E i).v)
 | 0,i,hi=>by omega
 | n+1,i,hi=>by
  have hl:=qd9 E n
  by_cases e:i=n
  ·subst e
   rw [qhv,List.getElem?_append_right (by omega),List.getElem?_append_right (by omega),List.getElem?_append_right (by omega),hl]
   simp
  ·obtain ⟨h0,h1,h2⟩:=qqt E n i (by omega)
   rw [qhv,List.getElem?_append_left (by omega),List.getElem?_append_left (by omega),List.getElem?_append_left (by omega)]
   exact ⟨h0,h1,h2⟩
theorem EvAt.cut {w:World} {g k j:Nat} {E:Nat->E3} (h:EvAt w g 0 k E) (hj:j<k):EvAt (w.setCells g (j*3) (qhv (fun i=>E (j+1+i)) (k - (j+1)))) g 0 (j+(k - (j+1))) (fun i=>if i<j then E i else E (i+1)):=by
 intro i hi
 have hl:=qd9 (fun i=>E (j+1+i)) (k - (j+1))
 by_cases e:i<j
 ·have hout:∀ t,t<j*3->(w.setCells g (j*3) (qhv (fun i=>E (j+1+i)) (k - (j+1)))).cell? ⟨g,t,none⟩=w.cell? ⟨g,t,none⟩:=fun t ht=>World.cell?_setCells_out g _ _ _ _ fun _ _=>.inl ht
  obtain ⟨h0,h1,h2⟩:=h i (by omega)
  simp only [if_pos e]
  exact ⟨(hout _ (by omega)).trans h0,(hout _ (by omega)).trans h1,(hout _ (by omega)).trans h2⟩
 ·simp only [if_neg e]
  have hall:∀ t,t<(qhv (fun i=>E (j+1+i)) (k - (j+1))).length->(w.cell? ⟨g,j*3+t,none⟩).isSome=true:=by
   intro t ht
   rw [hl] at ht
   obtain ⟨h0,h1,h2⟩:=h (j+t / 3) (by omega)
   have he:t=t / 3*3\/t=t / 3*3+1\/t=t / 3*3+2:=by omega
   rcases he with e | e | e
   ·rw [show j*3+t=0+(j+t / 3)*3 from by omega,h0];rfl
   ·rw [show j*3+t=0+(j+t / 3)*3+1 from by omega,h1];rfl
   ·rw [show j*3+t=0+(j+t / 3)*3+2 from by omega,h2];rfl
  have hin:=fun t ht=>World.cell?_setCells_in g (qhv (fun i=>E (j+1+i)) (k - (j+1))) (j*3) w hall t ht
  obtain ⟨f0,f1,f2⟩:=qqt (fun i=>E (j+1+i)) (k - (j+1)) (i - j) (by omega)
  have hE:E (j+1+(i - j))=E (i+1):=by rw [show j+1+(i - j)=i+1 from by omega]
  rw [hE] at f0 f1 f2
  refine ⟨?_,?_,?_⟩
  ·rw [show 0+i*3=j*3+(i - j)*3 from by omega,hin _ (by omega),<- f0,List.getElem?_eq_getElem (by omega)]
  ·rw [show 0+i*3+1=j*3+((i - j)*3+1) from by omega,hin _ (by omega),<- f1,List.getElem?_eq_getElem (by omega)]
  ·rw [show 0+i*3+2=j*3+((i - j)*3+2) from by omega,hin _ (by omega),<- f2,List.getElem?_eq_getElem (by omega)]
open Go.Sort
structure Al (g h:Nat->E3) (m r:Nat):Prop where
 le:r<=m
 eq:∀ i,i<r->g i=h i
 ne:r<m->g r≠h r
theorem Al.one {g h:Nat->E3} {m r r':Nat} (a:Al g h m r) (b:Al g h m r'):r=r':=by
 rcases Nat.lt_trichotomy r r' with h1 | h1 | h1
 ·exact absurd (b.eq r h1) (a.ne (zL h1 b.le))
 ·exact h1
 ·exact absurd (a.eq r' h1) (b.ne (zL h1 a.le))
theorem qtn (a b:E3):qdm a.k a.q a.v b.k b.q b.v=true ↔ a=b:=by
 cases a
 cases b
 simp [qdm]
theorem qth (ea fa:Option Addr) (n m c d:Nat) (g u:Nat->E3) (w:World) (hn:n<=1048576) (hm:m<=1048576) (h0:EvL w ea n g) (h1:EvL w fa m u):
  Calls Tryz.prog 140 #[.slice ea n c,.slice fa m d] w fun e w'=>∃ r,e=.returned (.int .i64 (r:Nat))/\Al g u (min n m) r/\Below w.heap.size w w':=by
 have H0:Hid (EvL w ea n g):=h0
 have H1:Hid (EvL w fa m u):=h1
 have hn':(n:Int)<=1048576:=by omega
 have hm':(m:Int)<=1048576:=by omega
 obtain ⟨mm,hmm⟩:∃ mm,mm=min n m:=⟨_,rfl⟩
 have hmi:min (n:Int) (m:Int)=(mm:Int):=by omega
 have HM:Hid (mm=min n m):=hmm
 have hmb:(mm:Int)<=1048576:=by omega
 clear h0 h1 hmm
 go_enter Tryz.func140,Tryz.ntmps140
 go_wp2_with fail
 all_goals
  go_loopw [11] (fun i wr=>∃ k:Nat,k<=mm/\i=.int .i64 k/\Hid (Below w.heap.size w wr/\∀ i,i<k->g i=u i)) (fun i _=>mm - (intOf i).toNat)
  case atStart=>exact ⟨0,Nat.zero_le _,rfl,Below.refl _ _,fun i hi=>by omega⟩
  case round=>
   obtain ⟨k,hk,rfl,HK⟩:=hrel
   by_cases hlt:k<mm
   ·have hlt':(k:Int)<(mm:Int):=by omega
    have hkn:k<n:=by have:=HM.out;omega
    have hkm:k<m:=by have:=HM.out;omega
    have hkn':(k:Int)<(n:Int):=by omega
    have hkm':(k:Int)<(m:Int):=by omega
    obtain ⟨b,off,rfl,hbl,ck0,ck1,ck2⟩:=(H0.out.below HK.out.1).at hkn
    obtain ⟨b',off',rfl,hbl',dk0,dk1,dk2⟩:=(H1.out.below HK.out.1).at hkm
    obtain ⟨T,hT⟩:∃ T,qdm (g k).k (g k).q (g k).v (u k).k (u k).q (u k).v=T:=⟨_,rfl⟩
    have HT:Hid (qdm (g k).k (g k).q (g k).v (u k).k (u k).q (u k).v=T):=hT
    clear hT
    go_upto_region 4 with fail
    have q0:Below wr.heap.size wr wr.drew:=(Below.refl wr.heap.size wr).drew
    refine qa7 (fun w'=>w'.cell? ⟨b,off+k*3,none⟩=some (.int .i64 (g k).k)/\w'.cell? ⟨b,off+k*3+1,none⟩=some (.int .i64 (g k).q)/\w'.cell? ⟨b,off+k*3+2,none⟩=some (.int .i64 (g k).v)/\w'.cell? ⟨b',off'+k*3,none⟩=some (.int .i64 (u k).k)/\w'.cell? ⟨b',off'+k*3+1,none⟩=some (.int .i64 (u k).q)/\w'.cell? ⟨b',off'+k*3+2,none⟩=some (.int .i64 (u k).v)) (fun _=>false) (by kernel_rfl) ?_
    have hHeld:(fun w':World=>w'.cell? ⟨b,off+k*3,none⟩=some (.int .i64 (g k).k)/\w'.cell? ⟨b,off+k*3+1,none⟩=some (.int .i64 (g k).q)/\w'.cell? ⟨b,off+k*3+2,none⟩=some (.int .i64 (g k).v)/\w'.cell? ⟨b',off'+k*3,none⟩=some (.int .i64 (u k).k)/\w'.cell? ⟨b',off'+k*3+1,none⟩=some (.int .i64 (u k).q)/\w'.cell? ⟨b',off'+k*3+2,none⟩=some (.int .i64 (u k).v)) wr.drew:=⟨(q0.cell (p:=⟨b,_,none⟩) hbl).trans ck0,(q0.cell (p:=⟨b,_,none⟩) hbl).trans ck1,(q0.cell (p:=⟨b,_,none⟩) hbl).trans ck2,(q0.cell (p:=⟨b',_,none⟩) hbl').trans dk0,(q0.cell (p:=⟨b',_,none⟩) hbl').trans dk1,(q0.cell (p:=⟨b',_,none⟩) hbl').trans dk2⟩
    refine qbr [0,1,2,3,4,5,6,7] ?_
    iterate 8 (refine qa3 rfl hHeld ?_;apply Exists.intro;refine ⟨fun wq hSw=>?_,?_⟩;(· ((try dsimp only at hSw);go_simp;try with_reducible rfl));(try simp only [Act.put,zD,zE,zF]))
    refine qbe ?_
    have hne:=qxg (g k).k (g k).q (g k).v (u k).k (u k).q (u k).v
    rw [HT.out] at hne
    refine qan 8 rfl hHeld ⟨.bool (!T),fun wq _=>?_,?_⟩
    ·go_simp
    (try simp only [Act.put,zD,zE,zF])
    refine qbf (by kernel_rfl) ?_ _
    have HK':Hid (Below w.heap.size w wr.drew):=HK.out.1.trans (q0.mono HK.out.1.size)
    clear hHeld hne q0 ck0 ck1 ck2 dk0 dk1 dk2 hbl hbl'
    cases T with
    | false=>
     have HR : Hid (Al g u (min n m) k) := ⟨by have := HM.out; omega, HK.out.2, fun _ e => by
      have:=(qtn _ _).2 e
      rw [HT.out] at this
      cases this⟩
     go_wp2
     go_ret
     exact ⟨k,rfl,HR.out,HK'.out⟩
    | true=>
     have HE:Hid (∀ i,i<k+1->g i=u i):=fun i hi=>by
      by_cases e:i=k
      ·subst e
       exact (qtn _ _).1 HT.out
      ·exact HK.out.2 i (by omega)
     go_wp2
     go_roundw
     case rel=>exact ⟨k+1,by omega,by go_num,HK'.out,HE.out⟩
     case measure=>simp [intOf];omega
   ·have hkm:k=mm:=by omega
    have HR:Hid (Al g u (min n m) k):=⟨by have:=HM.out;omega,HK.out.2,fun hh=>by have:=HM.out;omega⟩
    have hg1:(mm:Int)<=(k:Int):=by omega
    first | have hg2:(m:Int)<=(k:Int):=by omega | have hg2:(n:Int)<=(k:Int):=by omega
    clear hkm hlt
    go_wp2
    go_ret
    first | exact ⟨k,congrArg (fun z:Int=>Ending.returned (.int .i64 z)) (show (m:Int)=k by omega),HR.out,HK.out.1⟩ | exact ⟨k,congrArg (fun z:Int=>Ending.returned (.int .i64 z)) (show (n:Int)=k by omega),HR.out,HK.out.1⟩
open Go.Shelf
def gnL (n:Nat) (d:Nat->Nat):(k:Nat)->k<=n->List (Fin n × Nat)
 | 0,_=>[]
 | k+1,h=>if 0<d k then gnL n d k (Nat.le_of_succ_le h) ++ [(⟨k,h⟩,d k)] else gnL n d k (Nat.le_of_succ_le h)
theorem qtu (n:Nat) (d:Nat->Nat):∀ (k:Nat) (h:k<=n),(gnL n d k h).length<=k
 | 0,_=>Nat.le_refl _
 | k+1,h=>by
  have:=qtu n d k (Nat.le_of_succ_le h)
  rw [gnL]
  split
  ·simp;omega
  ·omega
theorem qpf {n:Nat} {d:Nat->Nat} {k:Nat} (h:k<n) (hd:0<d k):gnL n d (k+1) h=gnL n d k (Nat.le_of_lt h) ++ [(⟨k,h⟩,d k)]:=by rw [gnL,if_pos hd]
theorem qqu {n:Nat} {d:Nat->Nat} {k:Nat} (h:k<n) (hd:¬ 0<d k):gnL n d (k+1) h=gnL n d k (Nat.le_of_lt h):=by rw [gnL,if_neg hd]
structure Kq (m c:Nat) (W W':World):Prop where
 lo:Below c W W'
 hi:∀ b,c<b->b<m->W'.heap[b]? = W.heap[b]?
theorem Kq.refl (m c:Nat) (W:World):Kq m c W W:=⟨Below.refl _ _,fun _ _ _=>rfl⟩
theorem Kq.trans {m c:Nat} {A B C:World} (h:Kq m c A B) (k:Kq m c B C):Kq m c A C:=⟨h.lo.trans k.lo,fun b h1 h2=>(k.hi b h1 h2).trans (h.hi b h1 h2)⟩
theorem Kq.of {m c:Nat} {A B:World} (h:Below A.heap.size A B) (hm:m<=A.heap.size) (hc:c<=m):Kq m c A B:=⟨h.mono (zP hc hm),fun b _ h1=>h.block b (zL h1 hm)⟩
theorem Kq.b {m c:Nat} {w:World} (hm:m<=w.heap.size) (hc:c<=m) (W:World) (l:Nat) (o o':Obj) (hl:w.heap.size<=l) (h:W.heap[l]? = some o) (h1:o.isCells=false) (h2:o.isWalk=false):Kq m c W (W.putObj l o'):=
 ⟨belowK_b (zP hc hm) W l o o' hl h h1 h2,fun b _ hb=>(belowK_b hm W l o o' hl h h1 h2).block b hb⟩
theorem Al.ex (g h:Nat->E3):∀ m:Nat,∃ r,Al g h m r
 | 0=>⟨0,Nat.le_refl _,fun _ hi=>absurd hi (Nat.not_lt_zero _),fun h=>absurd h (Nat.not_lt_zero _)⟩
 | m+1=>by
  obtain ⟨r,a⟩:=Al.ex g h m
  by_cases hr:r<m
  ·exact ⟨r,by omega,a.eq,fun _=>a.ne hr⟩
  ·obtain rfl:r=m:=by have:=a.le;omega
   by_cases e:g r=h r
   ·exact ⟨r + 1, Nat.le_refl _, fun i hi => by
     by_cases e':i=r
     ·rw [e'];exact e
     ·exact a.eq i (by omega),fun h'=>absurd h' (Nat.lt_irrefl _)⟩
   ·exact ⟨r,by omega,a.eq,fun _=>e⟩
structure Hv where
 a:Option Addr
 n:Nat
 c:Nat
 A:Nat->Option Addr
 L:Nat->Nat
 C:Nat->Nat
 g:Nat->Nat->E3
structure Hv.In (h:Hv) (W:World) (B:Nat):Prop where
 b:W.cell? ⟨B,3,none⟩=some (.slice h.a h.n h.c)
 r:RowS W h.a h.n fun i=>.slice (h.A i) (h.L i) (h.C i)
 e:∀ i,i<h.n->EvL W (h.A i) (h.L i) (h.g i)
theorem qvz (dp:Nat) (hdp:1<=dp) (l Bs Bo m c:Nat) (x y:Hv) (hxy:x.n<=y.n) (hn:x.n<=1048576) (hl:∀ i,i<x.n->x.L i<=1048576/\y.L i<=1048576) (d:Nat->Nat)
  (hd:∀ i,i<x.n->∀ r,Al (x.g i) (y.g i) (min (x.L i) (y.L i)) r->x.L i - r=d i) (W:World) (hm:m<=W.heap.size) (hcm:c<=m) (hF:∀ W',Kq m c W W'->x.In W' Bs/\y.In W' Bo)
  (J Jx:List (Fin x.n × Nat)->World->Prop) (hJ:AbidesFrom W.heap.size J)
  (hY : ∀ pre z W1, J pre W1 → pre.length < x.n → YieldAt Fence.wide (dp - 1) Tryz.prog l #[.int .i64 (z.1.val : Nat), .int .i64 (z.2 : Nat)] W1 fun e W' =>
   (e=.returned (.bool true)/\J (pre ++ [z]) W'/\Kq m c W1 W')\/(e=.returned (.bool false)/\Jx (pre ++ [z]) W'))
  (h0:J [] W):
  CallsIn Fence.wide dp Tryz.prog 139 #[.func (.yield l) #[] #[],.pointer (some ⟨Bs,0,none⟩),.pointer (some ⟨Bo,0,none⟩)] W fun e W'=>(∃ v,e=.returned v)/\
   ((∃ ys,ys=gnL x.n d x.n (Nat.le_refl _)/\J ys W')\/(∃ pre,(∃ k,∃ h:k<x.n,0<d k/\pre=gnL x.n d (k+1) h)/\Jx pre W')):=by
 obtain ⟨xa,xn,xc,xA,xL,xC,xg⟩:=x
 obtain ⟨ya,yn,yc,yA,yL,yC,yg⟩:=y
 dsimp only at *
 have HF:Hid (∀ W',Kq m c W W'->Hv.In ⟨xa,xn,xc,xA,xL,xC,xg⟩ W' Bs/\Hv.In ⟨ya,yn,yc,yA,yL,yC,yg⟩ W' Bo):=hF
 have bs:=(hF W (Kq.refl _ _ _)).1.b
 have HD:Hid (∀ i,i<xn->∀ r,Al (xg i) (yg i) (min (xL i) (yL i)) r->xL i - r=d i):=hd
 have hn':(xn:Int)<=1048576:=by omega
 clear hF hd
 refine callsIn_of_wp Tryz.func139 rfl trivial ?_ rfl
 simp only [Tryz.ntmps139,List.size_toArray,List.length_cons,List.length_nil,Nat.reduceAdd,Nat.reduceSub,Array.replicate_succ,Array.replicate_zero,List.push_toArray,List.append_toArray,List.nil_append,List.cons_append]
 gi_wp2
 gi_loopw [10] (fun i wr=>∃ k:Nat,∃ h:k<=xn,i=.int .i64 k/\J (gnL xn d k h) wr/\Kq m c W wr) (fun i _=>xn - (intOf i).toNat)
 case atStart=>exact ⟨0,Nat.zero_le _,rfl,h0,Kq.refl _ _ _⟩
 case round=>
  obtain ⟨k,hk,rfl,hJs,hq⟩:=hrel
  by_cases hlt:k<xn
  ·have hlt':(k:Int)<(xn:Int):=by omega
   obtain ⟨hxI,hyI⟩:=HF.out wr hq
   obtain ⟨b,o,eb,cb⟩:=hxI.r.at hlt
   obtain ⟨b',o',eb',cb'⟩:=hyI.r.at (zL hlt hxy)
   have hex:=hxI.e k hlt
   have hey:=hyI.e k (zL hlt hxy)
   have bo:=hyI.b
   dsimp only at eb eb' cb cb' hex hey bo
   subst eb eb'
   have hly:(k:Int)<(yn:Int):=by omega
   obtain ⟨hl1,hl2⟩:=hl k hlt
   have HA:Hid (Calls Tryz.prog 140 #[.slice (xA k) (xL k) (xC k),.slice (yA k) (yL k) (yC k)] wr fun e w'=>∃ r:Nat,e=.returned (.int .i64 r)/\(xL k:Int) - (r:Int)=(d k:Int)/\Below wr.heap.size wr w'):=
    (qth (xA k) (yA k) (xL k) (yL k) (xC k) (yC k) (xg k) (yg k) wr hl1 hl2 hex hey).mono fun e w' ⟨r,e1,a1,b1⟩=>⟨r,e1,by have h1:=HD.out k hlt r a1;have h2:=a1.le;omega,b1⟩
   have hdl:d k<=xL k:=by
    obtain ⟨r,hr⟩:=Al.ex (xg k) (yg k) (min (xL k) (yL k))
    have:=HD.out k hlt r hr
    omega
   have hdk:(d k:Int)<=1048576:=by omega
   have BQ:∀ w1,Below wr.heap.size wr w1->J (gnL xn d k hk) w1/\Kq m c W w1:=fun w1 b1=>⟨hJ _ _ _ none hJs (zZ b1) (fun r e=>by cases e),hq.trans (Kq.of b1 (zP hm hq.lo.size) hcm)⟩
   clear hxI hyI hex hey hl1 hl2 hl hJs
   by_cases hp:0<d k
   ·have hp':(0:Int)<(d k:Int):=by omega
    gi_wp2_with (refine ⟨trivial,?_⟩;gi_at_call 140;refine (callsIn_wide.2 HA.out).mono ?_;clear HA;rintro e w1 ⟨r,rfl,hr,b1⟩;obtain ⟨fn,tmps,assign,body,hy,hR⟩:=hY (gnL xn d k hk) (⟨k,hlt⟩,d k) w1 (BQ w1 b1).1 (Nat.lt_of_le_of_lt (qtu _ _ _ _) hlt);dsimp only at hy)
    refine hR.mono ?_
    rintro e W3 (⟨rfl,hJ3,hk3⟩ | ⟨rfl,hJx3⟩)
    ·gi_wp2
     go_roundw
     case rel=>exact ⟨k+1,hlt,by go_num,by rw [qpf hlt hp];exact hJ3,(BQ w1 b1).2.trans hk3⟩
     case measure=>simp [intOf];omega
    ·gi_wp2
     refine bodyPost_ret (results_none rfl _ _ _) rfl ?_
     exact ⟨⟨_,rfl⟩,.inr ⟨_,⟨k,hlt,hp,(qpf hlt hp).symm⟩,hJx3⟩⟩
   ·have hp':(d k:Int)=0:=by omega
    gi_wp2_with (refine ⟨trivial,?_⟩;gi_at_call 140;refine (callsIn_wide.2 HA.out).mono ?_;clear HA;rintro e w1 ⟨r,rfl,hr,b1⟩)
    refine ⟨fun _ h=>(by cases h),?_⟩
    gi_wp2
    go_roundw
    case rel=>exact ⟨k+1,hlt,by go_num,by rw [qqu hlt hp];exact (BQ w1 b1).1,(BQ w1 b1).2⟩
    case measure=>simp [intOf];omega
  ·obtain rfl:k=xn:=by omega
   gi_wp2
   go_end0
   exact ⟨⟨_,rfl⟩,.inl ⟨_,rfl,hJs⟩⟩
def upN (n:Nat) (pre:List (Fin n × Nat)):List Int:=pre.foldl (fun l z=>l.set z.1.val (z.2:Int)) (List.replicate n 0)
theorem qri {n:Nat} (pre:List (Fin n × Nat)) (z:Fin n × Nat):upN n (pre ++ [z])=(upN n pre).set z.1.val (z.2:Int):=by simp [upN]
theorem qjk {n:Nat} (pre:List (Fin n × Nat)):(upN n pre).length=n:=by
 have:∀ (pre:List (Fin n × Nat)) (l:List Int),(pre.foldl (fun l z=>l.set z.1.val (z.2:Int)) l).length=l.length:=by
  intro pre
  induction pre with
  | nil=>exact fun l=>rfl
  | cons z pre ih=>exact fun l=>(ih _).trans (by simp)
 rw [upN,this]
 simp
theorem qxp (n:Nat) (d:Nat->Nat):∀ (k:Nat) (h:k<=n),upN n (gnL n d k h)=(List.range n).map fun q=>if q<k then (d q:Int) else 0
 | 0,_=>by
  apply List.ext_getElem
  ·simp [gnL,upN]
  ·intro i h1 h2
   simp [gnL,upN]
 | k+1,h=>by
  have ih:=qxp n d k (Nat.le_of_succ_le h)
  by_cases hd:0<d k
  ·rw [qpf h hd,qri,ih]
   apply List.ext_getElem
   ·simp
   ·intro i h1 h2
    simp only [List.getElem_set,List.getElem_map,List.getElem_range]
    by_cases e:k=i
    ·subst e
     rw [if_pos rfl,if_pos (Nat.lt_succ_self _)]
    ·rw [if_neg e]
     by_cases h3:i<k
     ·rw [if_pos h3,if_pos (by omega)]
     ·rw [if_neg h3,if_neg (by omega)]
  ·rw [qqu h hd,ih]
   apply List.map_congr_left
   intro q _
   by_cases e:q=k
   ·subst e
    rw [if_neg (Nat.lt_irrefl _),if_pos (Nat.lt_succ_self _)]
    omega
   ·by_cases h3:q<k
    ·rw [if_pos h3,if_pos (by omega)]
    ·rw [if_neg h3,if_neg (by omega)]
theorem qsc (dp:Nat) (hdp:1<=dp) (Bs Bo m c:Nat) (x y:Hv) (hxy:x.n<=y.n) (hn:x.n<=1048576) (hl:∀ i,i<x.n->x.L i<=1048576/\y.L i<=1048576) (d:Nat->Nat)
  (hd:∀ i,i<x.n->∀ r,Al (x.g i) (y.g i) (min (x.L i) (y.L i)) r->x.L i - r=d i) (w:World) (hm:m<=w.heap.size) (hcm:c<=m) (hF:∀ W',Kq m c w W'->x.In W' Bs/\y.In W' Bo):
  SeqStopsK Fence.wide dp Tryz.prog 139 #[.pointer (some ⟨Bs,0,none⟩),.pointer (some ⟨Bo,0,none⟩)] (fun z:Fin x.n × Nat=>#[Value.int .i64 (z.1.val:Nat),Value.int .i64 (z.2:Nat)]) (Kq m c)
   (fun ys=>ys=gnL x.n d x.n (Nat.le_refl _)) (fun pre=>∃ k,∃ h:k<x.n,0<d k/\pre=gnL x.n d (k+1) h) x.n w:=fun l J Jx W hW hJ _ hY h0=>
 qvz dp hdp l Bs Bo m c x y hxy hn hl d hd W (zP hm hW.size) hcm (fun W' hk=>hF W' ((Kq.of hW hm hcm).trans hk)) J Jx hJ hY h0
theorem qv0 (v1 v2 v3 v4 u1 u2 u3 u4:Value) (w:World):
  Calls Tryz.prog 80 #[.agg #[v1,v2,v3,v4],.agg #[u1,u2,u3,u4]] w fun e w'=>e=.returned (.func (.func 139) #[] #[.pointer (some ⟨w.heap.size,0,none⟩),.pointer (some ⟨w.heap.size+1,0,none⟩)])/\w'=(w.alloc (.cells #[v1,v2,v3,v4] 36)).alloc (.cells #[u1,u2,u3,u4] 36):=by
 go_enter Tryz.func80,Tryz.ntmps80
 go_wp2
 go_ret
 exact ⟨rfl,rfl⟩
