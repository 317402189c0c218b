import Derived.Test.YthgpldgkabcopaaGreatDoorYh40
import Derived.Test.YthgpldgkabcopaaGreatDoorYh39
import Derived.Test.YthgpldgkabcopaaGreatDoorYh44
import Derived.Test.YthgpldgkabcopaaGreatDoorYh41
import Derived.Test.YthgpldgkabcopaaGreatDoorCards
import Derived.SevenTiedAt
namespace Go.Proofs.YthgpldgkabcopaaGreatDoor
set_option maxRecDepth 100000
set_option maxHeartbeats 4000000
open Go.ChangeShapes Go.WideShapes Go.ChangeAt Go.RowKit Go.Deep
theorem kndN:Kind 40 3 1 8:=by
 refine ⟨Tryz.underlying40,?_,by omega,by omega⟩
 have h:(Tryz.prog.info? 3).map (fun i=>(i.zero.map (·.cells.size),i.size,i.bytes))=some (some 1,1,8):=by kernel_rfl
 cases hi:Tryz.prog.info? 3 with
 | none=>rw [hi] at h;cases h
 | some i=>
  rw [hi] at h
  simp only [Option.map_some,Option.some.injEq,Prod.mk.injEq] at h
  cases hz:i.zero with
  | none=>rw [hz] at h;simp at h
  | some z=>
   rw [hz] at h
   simp only [Option.map_some,Option.some.injEq] at h
   exact ⟨i,z,rfl,hz,h.2.1,h.2.2,by omega⟩
def udT (y Y:Sy) (n:Nat):List Int:=(List.range n).map fun q=>(y.hL q:Int) - (Y.hL q:Int)
theorem qu5 (y Y:Sy) (n:Nat):udT y Y (n+1)=udT y Y n ++ [(y.hL n:Int) - (Y.hL n:Int)]:=by
 unfold udT
 rw [List.range_succ,List.map_append]
 rfl
theorem qky (y Y:Sy) (n:Nat):(udT y Y n).length=n:=by simp [udT]
noncomputable def udS (y:Sy) (p k:Int):List Int:=if bkC y p k=0 then udT y (bkY y p k) y.hn else []
theorem qfk {y:Sy} {p k:Int} (h:bkC y p k=0):y.Ok/\(bkY y p k).hn=y.pn/\∀ q,q<y.pn->(bkY y p k).hL q<=y.hL q:=by
 unfold bkC at h
 by_cases ho:y.okB=true
 ·rw [if_pos ho] at h
  by_cases hb:bkIn y p k=true
  ·rw [if_pos hb] at h
   by_cases hw:wfB (y.ah (cN (bkE y p k)))=true
   ·have hO:=Sy.ok_of ho
    have hc:=qf9 (qde hO hb)
    unfold bkY
    rw [if_pos ho,if_pos hb,if_pos hw]
    exact ⟨hO,rfl,fun q hq=>hc.leN hq⟩
   ·rw [if_neg hw] at h
    cases h
  ·rw [if_neg hb] at h
   cases h
 ·rw [if_neg ho] at h
  cases h
theorem qis (x:SysIn) (p k:Int) (w:World) (hG:SysG w x) (hL:x.Len) (hcap:∀ i,i<x.hn->x.hL i<=x.hC i):
  Calls Tryz.prog 21 #[x.v,.int .i64 p,.int .i64 k] w fun e w'=>∃ u,e=.returned u/\OwnI w' w.heap.size u (udS x.y p k)/\Below w.heap.size w w':=by
 have HG:Hid (SysG w x):=hG
 have HB:Hid (∀ wx,Below w.heap.size w wx->Calls Tryz.prog 10 #[x.v,.int .i64 p,.int .i64 k] wx fun e w'=>∃ v,e=.returned (.tuple #[v,.int .i64 (bkC x.y p k)])/\qaj false w' wx.heap.size (bkY x.y p k) v/\Below wx.heap.size wx w'):=fun wx hb=>qen x p k wx (hG.below hb) hL hcap
 have HD:Hid (bkC x.y p k=0->x.y.Ok/\(bkY x.y p k).hn=x.y.pn/\∀ q,q<x.y.pn->(bkY x.y p k).hL q<=x.y.hL q):=qfk
 have HU:Hid (udS x.y p k=if bkC x.y p k=0 then udT x.y (bkY x.y p k) x.y.hn else []):=rfl
 have hl':(x.hn:Int)<=1048576:=by have:=hL.h.1;omega
 have BW:Hid (Below w.heap.size w ((w.alloc (oQ4 x.pa x.pn x.pc x.sa x.sn x.sc x.wa x.wn x.wc x.ha x.hn x.hc)).alloc (.cells #[] 3))):=(zT _ _).trans ((zT _ _).mono (by simp))
 have NB:Hid (BoxC ((w.alloc (oQ4 x.pa x.pn x.pc x.sa x.sn x.sc x.wa x.wn x.wc x.ha x.hn x.hc)).alloc (.cells #[] 3)) w.heap.size (.slice x.pa x.pn x.pc) (.slice x.sa x.sn x.sc) (.slice x.wa x.wn x.wc) (.slice x.ha x.hn x.hc)):=(BoxC.new w _ _ _ _ _).below (zT _ _)
 have NO:Hid (OwnI ((w.alloc (oQ4 x.pa x.pn x.pc x.sa x.sn x.sc x.wa x.wn x.wc x.ha x.hn x.hc)).alloc (.cells #[] 3)) (w.heap.size+1) (.slice (some ⟨w.heap.size+1,0,none⟩) 0 0) []):=qcv (w.alloc (oQ4 x.pa x.pn x.pc x.sa x.sn x.sc x.wa x.wn x.wc x.ha x.hn x.hc)) (by simp)
 have LZ:Hid (((w.alloc (oQ4 x.pa x.pn x.pc x.sa x.sn x.sc x.wa x.wn x.wc x.ha x.hn x.hc)).alloc (.cells #[] 3)).heap.size=w.heap.size+2):=by show _=_;simp
 obtain ⟨C,hC⟩:∃ C,bkC x.y p k=C:=⟨_,rfl⟩
 obtain ⟨Y,hY⟩:∃ Y,bkY x.y p k=Y:=⟨_,rfl⟩
 rw [hC,hY] at HB HD HU
 generalize udS x.y p k=U at *
 clear hC hY hG hL hcap
 go_enter Tryz.func21,Tryz.ntmps21
 go_wp2_with fail
 generalize (w.alloc (oQ4 x.pa x.pn x.pc x.sa x.sn x.sc x.wa x.wn x.wc x.ha x.hn x.hc)).alloc (.cells #[] 3)=W2 at *
 refine (HB.out W2 BW.out).mono ?_
 rintro e w3 ⟨v3,rfl,o3,q3⟩
 obtain ⟨cl,vp,vs,vw,vh,up,us,uw,uh,rfl,o3⟩:=o3
 obtain ⟨pa,pc,rfl⟩:=zU o3.p.row
 obtain ⟨sa,sc,rfl⟩:=zU o3.s.row
 obtain ⟨wa,wc,rfl⟩:=zU o3.t.row
 obtain ⟨ha,hc,rfl⟩:=zU o3.h.row
 have ba:=zQ w3 (oQ4 pa Y.pn pc sa Y.sn sc wa Y.wn wc ha Y.hn hc)
 have F4:Hid (OwnS false (w3.alloc (oQ4 pa Y.pn pc sa Y.sn sc wa Y.wn wc ha Y.hn hc)) W2.heap.size cl Y (.slice pa Y.pn pc) (.slice sa Y.sn sc) (.slice wa Y.wn wc) (.slice ha Y.hn hc) up us uw uh/\Below W2.heap.size W2 (w3.alloc (oQ4 pa Y.pn pc sa Y.sn sc wa Y.wn wc ha Y.hn hc))/\BoxC (w3.alloc (oQ4 pa Y.pn pc sa Y.sn sc wa Y.wn wc ha Y.hn hc)) w3.heap.size (.slice pa Y.pn pc) (.slice sa Y.sn sc) (.slice wa Y.wn wc) (.slice ha Y.hn hc)/\W2.heap.size<=w3.heap.size):=⟨o3.below ba,q3.trans (ba.mono q3.size),BoxC.new w3 _ _ _ _ _,q3.size⟩
 go_upto_region 3 with fail
 clear o3 q3 ba HB
 generalize hN:w3.heap.size=N at *
 clear hN
 generalize w3.alloc (oQ4 pa Y.pn pc sa Y.sn sc wa Y.wn wc ha Y.hn hc)=w4 at *
 clear w3
 have B4:Hid (Below w.heap.size w w4/\OwnI w4 (w.heap.size+1) (.slice (some ⟨w.heap.size+1,0,none⟩) 0 0) []/\BoxC w4 w.heap.size (.slice x.pa x.pn x.pc) (.slice x.sa x.sn x.sc) (.slice x.wa x.wn x.wc) (.slice x.ha x.hn x.hc)):=⟨BW.out.trans (F4.out.2.1.mono BW.out.size),NO.out.below F4.out.2.1,NB.out.below F4.out.2.1⟩
 by_cases h0:C=0
 case neg=>
  have HV:Hid (U=[]):=by show U=[];rw [HU.out,if_neg h0]
  clear HU HD F4
  go_wp2
  go_ret
  rw [HV.out]
  exact ⟨_,rfl,B4.out.2.1.mono (Nat.le_succ _),B4.out.1⟩
 subst h0
 obtain ⟨hO,hyn,hyl⟩:=HD.out rfl
 have HV:Hid (U=udT x.y Y x.hn):=by show U=_;rw [HU.out,if_pos rfl];rfl
 have HN:Hid (x.hn=x.pn/\Y.hn=x.pn/\(∀ q,q<x.pn->Y.hL q<=x.hL q/\x.hL q<=200)/\1<=x.pn):=⟨hO.cn.2.2.1,hyn,fun q hq=>⟨hyl q hq,hO.hl200 hq⟩,hO.cn.1.1⟩
 clear HU HD hO hyn hyl
 obtain ⟨gh,gcap,egh,-⟩:=F4.out.1.h.cell (i:=0) (by have:=HN.out;omega)
 simp only [Value.slice.injEq] at egh
 obtain ⟨rfl,-,-⟩:=egh
 go_wp2_with fail
 go_loopw [7,10] (fun o i wr=>∃ k:Nat,k<=x.hn/\i=.int .i64 k/\Hid (OwnI wr (w.heap.size+1) o (udT x.y Y k)/\(∀ b,o.ownBlock=some b->b=w.heap.size+1\/w4.heap.size<=b)/\Below w.heap.size w wr/\w4.heap.size<=wr.heap.size/\∀ b,b<w4.heap.size->b≠w.heap.size+1->wr.heap[b]? = w4.heap[b]?)) (fun _ i _=>x.hn - (intOf i).toNat)
 case atStart=>exact ⟨0,Nat.zero_le _,rfl,B4.out.2.1,fun b hb=>by cases hb;exact .inl rfl,B4.out.1,Nat.le_refl _,fun _ _ _=>rfl⟩
 case round=>
  obtain ⟨j,hj,rfl,HI⟩:=hrel
  have lz:=LZ.out
  have s4:=F4.out.2.1.size
  have hNl:N<w4.heap.size:=zJ _ _ F4.out.2.2.1.1
  have hNl2:W2.heap.size<=N:=F4.out.2.2.2
  have kp:=HI.out.2.2.2.2
  have b3:wr.cell? ⟨w.heap.size,3,none⟩=some (.slice x.ha x.hn x.hc):=(zH (kp w.heap.size (by omega) (by omega))).trans B4.out.2.2.2.2.2
  by_cases hlt:j<x.hn
  ·have hlt':(j:Int)<(x.hn:Int):=by omega
   have hltp:j<x.pn:=by have:=HN.out;omega
   have hlY:j<Y.hn:=by have:=HN.out;omega
   have hlY':(j:Int)<(Y.hn:Int):=by omega
   have hb1:=(HN.out.2.2.1 j hltp).1
   have hb2:=(HN.out.2.2.1 j hltp).2
   obtain ⟨bh,oh,eh,ch0⟩:=HG.out.h.at hlt
   have lbh:bh<w.heap.size:=zJ _ _ ch0
   have ch:wr.cell? ⟨bh,oh+j,none⟩=some (.slice (x.hA j) (x.hL j) (x.hC j)):=(HI.out.2.2.1.cell (p:=⟨bh,oh+j,none⟩) lbh).trans ch0
   rw [eh] at b3
   clear eh ch0
   have hcg:=F4.out.1.h.cellG (i:=j) hlY
   obtain ⟨ga,gc,eg,-⟩:=qjm (F4.out.1.h.own j hlY)
   rw [eg] at hcg
   have hghB:W2.heap.size<=gh:=hcg.2.1.1
   have lgh:gh<w4.heap.size:=hcg.2.2.1
   have cg:wr.cell? ⟨gh,j,none⟩=some (.slice ga (Y.hL j) gc):=(zH (kp gh lgh (by omega))).trans hcg.1
   have n3:wr.cell? ⟨N,3,none⟩=some (.slice (some ⟨gh,0,none⟩) Y.hn hc):=(zH (kp N hNl (by omega))).trans F4.out.2.2.1.2.2.2
   have lw:w.heap.size<wr.heap.size:=zJ _ _ b3
   have lb:bh<wr.heap.size:=zJ _ _ ch
   have lg:gh<wr.heap.size:=zJ _ _ cg
   have ln:N<wr.heap.size:=zJ _ _ n3
   obtain ⟨dd,hdd⟩:∃ dd:Int,(x.hL j:Int) - (Y.hL j:Int)=dd:=⟨_,rfl⟩
   have hd0:0<=dd/\dd<=200:=by omega
   have HF:Hid (udT x.y Y (j+1)=udT x.y Y j ++ [dd]):=by show _=_;rw [qu5,<- hdd];rfl
   have HFl:Hid ((udT x.y Y j).length=j):=qky _ _ _
   clear hcg eg kp hb1 hb2
   go_upto_region 8 with fail
   have q0:Below wr.heap.size wr wr.drew:=(Below.refl wr.heap.size wr).drew
   refine qae (fun w'=>w'.cell? ⟨w.heap.size,3,none⟩=some (.slice (some ⟨bh,oh,none⟩) x.hn x.hc)/\w'.cell? ⟨bh,oh+j,none⟩=some (.slice (x.hA j) (x.hL j) (x.hC j))/\w'.cell? ⟨N,3,none⟩=some (.slice (some ⟨gh,0,none⟩) Y.hn hc)/\w'.cell? ⟨gh,j,none⟩=some (.slice ga (Y.hL j) gc)) (fun _=>false) (by kernel_rfl) ?_
   have hS:∀ wx:World,(∀ b,b<wr.heap.size->u7.ownBlock≠some b->wx.heap[b]? = wr.heap[b]?)->wx.cell? ⟨w.heap.size,3,none⟩=some (.slice (some ⟨bh,oh,none⟩) x.hn x.hc)/\wx.cell? ⟨bh,oh+j,none⟩=some (.slice (x.hA j) (x.hL j) (x.hC j))/\wx.cell? ⟨N,3,none⟩=some (.slice (some ⟨gh,0,none⟩) Y.hn hc)/\wx.cell? ⟨gh,j,none⟩=some (.slice ga (Y.hL j) gc):=fun wx hx=>by
    have ho:∀ b,u7.ownBlock=some b->b=w.heap.size+1\/w4.heap.size<=b:=HI.out.2.1
    refine ⟨(zH (a:=⟨w.heap.size,3,none⟩) (hx w.heap.size lw fun e=>?_)).trans b3,(zH (a:=⟨bh,oh+j,none⟩) (hx bh lb fun e=>?_)).trans ch,(zH (a:=⟨N,3,none⟩) (hx N ln fun e=>?_)).trans n3,(zH (a:=⟨gh,j,none⟩) (hx gh lg fun e=>?_)).trans cg⟩
    ·rcases ho _ e with h | h <;> omega
    ·rcases ho _ e with h | h <;> omega
    ·rcases ho _ e with h | h <;> omega
    ·rcases ho _ e with h | h <;> omega
   have hHeld:(fun w':World=>w'.cell? ⟨w.heap.size,3,none⟩=some (.slice (some ⟨bh,oh,none⟩) x.hn x.hc)/\w'.cell? ⟨bh,oh+j,none⟩=some (.slice (x.hA j) (x.hL j) (x.hC j))/\w'.cell? ⟨N,3,none⟩=some (.slice (some ⟨gh,0,none⟩) Y.hn hc)/\w'.cell? ⟨gh,j,none⟩=some (.slice ga (Y.hL j) gc)) wr.drew:=hS _ fun b hb _=>q0.block b hb
   refine qau [0,1,2,3,4,5,6,7,8,9,10,11,12] ?_
   iterate 13 (refine qaf rfl hHeld ?_;apply Exists.intro;refine ⟨fun wq hSw=>?_,?_⟩;(· ((try dsimp only at hSw);go_simp;try with_reducible rfl));(try simp only [Act.put,zD,zE,zF]))
   refine qao ?_
   refine qad 13 rfl hHeld ⟨.int .i64 dd,fun wq _=>?_,?_⟩
   ·go_simp
    try (rw [IntKind.wrap_i64];omega)
   (try simp only [Act.put,zD,zE,zF])
   refine qaa 14 rfl (by kernel_rfl) (fun K hK=>?_)
   go_simp
   have qa:Below wr.heap.size wr (wr.drew.alloc (.cells #[.int .i64 dd] 3)):=q0.trans ((zQ _ _).mono q0.size)
   refine hK.out _ _ (fun _=>hS _ fun b hb _=>qa.block b hb) ?_
   clear hK K hHeld qa
   (try simp only [Act.put,zD,zE,zF])
   refine qaa 15 rfl (by kernel_rfl) (fun K hK=>?_)
   refine qa2 kndN wr.drew rfl rfl _ _ rfl (w.heap.size+1) u7 j _ rfl (by have h:=HI.out.1;unfold OwnI at h;rw [HFl.out] at h;exact qaw h fun b hb=>q0.block b (h.lt b hb).2) #[.int .i64 dd] rfl rfl (by intro u hu;simp at hu;subst hu;rfl) (by omega) (by have:=HI.out.2.2.2.1;have:=q0.size;omega) ?_
   intro v15 w15 o15 g15 p15 n15
   have hx:∀ b,b<wr.heap.size->u7.ownBlock≠some b->w15.heap[b]? = wr.heap[b]?:=fun b hb hne=>(g15.block b (zL hb q0.size) (Ne.symm hne)).trans (q0.block b hb)
   have s15:wr.heap.size<=w15.heap.size:=zP q0.size g15.size
   have F15:Hid (OwnI w15 (w.heap.size+1) v15 (udT x.y Y (j+1))/\(∀ b,v15.ownBlock=some b->b=w.heap.size+1\/w4.heap.size<=b)/\Below w.heap.size w w15/\w4.heap.size<=w15.heap.size/\∀ b,b<w4.heap.size->b≠w.heap.size+1->w15.heap[b]? = w4.heap[b]?):=by
    have h4:=HI.out.2.2.2.1
    refine ⟨?_,fun b hb=>?_,?_,by omega,fun b h1 h2=>?_⟩
    ·unfold OwnI
     rw [qky,HF.out,List.map_append]
     exact o15
    ·rcases p15 b hb with h | h
     ·exact HI.out.2.1 b h
     ·exact .inr (zP h4 h)
    ·exact Below.grown (HI.out.2.2.1.trans (q0.mono HI.out.2.2.1.size)) g15 (zP HI.out.2.2.1.size q0.size) (fun b hb=>by rcases HI.out.2.1 b hb with h | h <;> omega)
    ·refine (hx b (by omega) fun e=>?_).trans (HI.out.2.2.2.2 b h1 h2)
     rcases HI.out.2.1 b e with h | h <;> omega
   have hHeld:(fun w':World=>w'.cell? ⟨w.heap.size,3,none⟩=some (.slice (some ⟨bh,oh,none⟩) x.hn x.hc)/\w'.cell? ⟨bh,oh+j,none⟩=some (.slice (x.hA j) (x.hL j) (x.hC j))/\w'.cell? ⟨N,3,none⟩=some (.slice (some ⟨gh,0,none⟩) Y.hn hc)/\w'.cell? ⟨gh,j,none⟩=some (.slice ga (Y.hL j) gc)) w15:=hS _ hx
   refine hK.out _ _ (fun _=>hHeld) ?_
   clear hK K o15 g15 p15 n15 hx s15 q0
   (try simp only [Act.put,zD,zE,zF])
   refine qad 16 rfl hHeld ?_
   apply Exists.intro
   refine ⟨fun wq hSw=>?_,?_⟩
   ·(try dsimp only at hSw)
    go_simp
    try with_reducible rfl
   (try simp only [Act.put,zD,zE,zF])
   refine qap (by kernel_rfl) ?_ _
   clear hHeld hS b3 ch cg n3 lw lb lg ln hdd hd0 HF HFl
   go_wp2
   go_roundw
   case rel=>exact ⟨j+1,by omega,by go_num,F15.out⟩
   case measure=>simp [intOf];omega
  ·have hjn:j=x.hn:=by omega
   subst hjn
   have O:Hid (OwnI wr (w.heap.size+1) u7 (udT x.y Y x.hn)/\Below w.heap.size w wr):=⟨HI.out.1,HI.out.2.2.1⟩
   clear HI kp
   go_wp2
   go_ret
   rw [HV.out]
   exact ⟨_,rfl,O.out.1.mono (Nat.le_succ _),O.out.2⟩
open Go.Shelf
attribute [local go_sem] Oper.semAt_some
theorem qwp {y:Sy} {p k:Int} (h:bkC y p k=0):(bkY y p k).hH=y.hH:=by
 unfold bkC at h
 by_cases ho:y.okB=true
 ·rw [if_pos ho] at h
  by_cases hb:bkIn y p k=true
  ·rw [if_pos hb] at h
   by_cases hw:wfB (y.ah (cN (bkE y p k)))=true
   ·unfold bkY
    rw [if_pos ho,if_pos hb,if_pos hw]
    rfl
   ·rw [if_neg hw] at h
    cases h
  ·rw [if_neg hb] at h
   cases h
 ·rw [if_neg ho] at h
  cases h
theorem qre (w:World) (v:Value) (t:TypeId):(w.alloc (.cells #[v] t)).cell? ⟨w.heap.size,0,none⟩=some v:=by simp
theorem leHv {z:Bool} {w:World} {P:Nat->Prop} {a:Option Addr} {n cap:Nat} {u:Nat->Value} {L:Nat->Nat} {H:Nat->Nat->E3} (o:LE z w P (.slice a n cap) n u L H):∃ (A:Nat->Option Addr) (C:Nat->Nat),RowS w a n (fun i=>.slice (A i) (L i) (C i))/\∀ i,i<n->EvL w (A i) (L i) (H i):=by
 have h:∀ i,i<n->∃ t:Option Addr × Nat,u i=.slice t.1 (L i) t.2/\EvL w t.1 (L i) (H i):=fun i hi=>by
  obtain ⟨a,c,e,h⟩:=qjm (o.own i hi)
  exact ⟨(a,c),e,h⟩
 have inh:Inhabited (Option Addr × Nat):=⟨(none,0)⟩
 obtain ⟨t,ht⟩:=Go.Deep.choose_lt h
 refine ⟨fun i=>(t i).1,fun i=>(t i).2,?_,fun i hi=>(ht i hi).2⟩
 by_cases h0:n=0
 ·exact .inl h0
 ·obtain ⟨g,c,e,-,hl,-⟩:=o.cell (i:=0) (by omega)
  simp only [Value.slice.injEq] at e
  obtain ⟨rfl,-,rfl⟩:=e
  exact .inr ⟨g,0,rfl,hl,fun i hi=>by rw [Nat.zero_add,(o.cellG hi).1,(ht i hi).1]⟩
theorem qim {zb:Bool} (x:SysIn) (p k:Int) (w:World) (hG:SysG w x) (hL:x.Len) (hcap:∀ i,i<x.hn->x.hL i<=x.hC i) (hN:x.Nn zb) (hV:w.cell? ⟨0,0,none⟩=some (.iface 167 (.agg #[.pointer (some ⟨1,120,none⟩)]))):
  Calls Tryz.prog 19 #[x.v,.int .i64 p,.int .i64 k] w fun e w'=>∃ u,e=.returned u/\OwnI w' w.heap.size u (udS x.y p k)/\Below w.heap.size w w':=by
 have HG:Hid (SysG w x):=hG
 have HB:Hid (∀ wx,Below w.heap.size w wx->Calls Tryz.prog 9 #[x.v,.int .i64 p,.int .i64 k] wx fun e w'=>∃ v,e=.returned (.tuple #[v,.int .i64 (bkC x.y p k)])/\qaj zb w' wx.heap.size (bkY x.y p k) v/\Below wx.heap.size wx w'):=fun wx hb=>qcm x p k wx (hG.below hb) hL hcap hN ((hb.cell (p:=⟨0,0,none⟩) (zJ w _ hV)).trans hV)
 have HD:Hid (bkC x.y p k=0->x.y.Ok/\(bkY x.y p k).hn=x.y.pn/\(∀ q,q<x.y.pn->(bkY x.y p k).hL q<=x.y.hL q)/\(bkY x.y p k).hH=x.y.hH):=fun h=>⟨(qfk h).1,(qfk h).2.1,(qfk h).2.2,qwp h⟩
 have HU:Hid (udS x.y p k=if bkC x.y p k=0 then udT x.y (bkY x.y p k) x.y.hn else []):=rfl
 have hl':(x.hn:Int)<=1048576:=by have:=hL.h.1;omega
 have BW:Hid (Below w.heap.size w (w.alloc (oQ4 x.pa x.pn x.pc x.sa x.sn x.sc x.wa x.wn x.wc x.ha x.hn x.hc))):=zT _ _
 have NB:Hid (BoxC (w.alloc (oQ4 x.pa x.pn x.pc x.sa x.sn x.sc x.wa x.wn x.wc x.ha x.hn x.hc)) w.heap.size (.slice x.pa x.pn x.pc) (.slice x.sa x.sn x.sc) (.slice x.wa x.wn x.wc) (.slice x.ha x.hn x.hc)):=BoxC.new w _ _ _ _ _
 obtain ⟨C,hC⟩:∃ C,bkC x.y p k=C:=⟨_,rfl⟩
 obtain ⟨Y,hY⟩:∃ Y,bkY x.y p k=Y:=⟨_,rfl⟩
 rw [hC,hY] at HB HD HU
 generalize udS x.y p k=U at *
 clear hC hY hG hL hcap hN hV
 refine (callsIn_wide (n:=3)).1 ?_
 refine callsIn_of_wp_marks Tryz.func19 rfl trivial ?_ rfl
 simp only [Tryz.ntmps19,List.size_toArray,List.length_cons,List.length_nil,Nat.reduceAdd,Nat.reduceSub,Array.replicate_succ,Array.replicate_zero,List.push_toArray,List.append_toArray,List.nil_append,List.cons_append]
 by_cases h0:C=0
 case neg=>
  have HV:Hid (U=[]):=by show U=[];rw [HU.out,if_neg h0]
  clear HU HD
  gi_wp2_with (refine ⟨trivial,?_⟩;gi_at_call 9;refine (callsIn_wide.2 (HB.out _ BW.out)).mono ?_;rintro e w3 ⟨v3,rfl,o3,q3⟩;obtain ⟨cl,vp,vs,vw,vh,up,us,uw,uh,rfl,o3⟩:=o3;obtain ⟨pa,pc,rfl⟩:=zU o3.p.row;obtain ⟨sa,sc,rfl⟩:=zU o3.s.row;obtain ⟨wa,wc,rfl⟩:=zU o3.t.row;obtain ⟨ha,hc,rfl⟩:=zU o3.h.row)
  have b3:Below w.heap.size w w3:=BW.out.trans (q3.mono BW.out.size)
  have b4:=b3.trans ((zT w3 (oQ4 pa Y.pn pc sa Y.sn sc wa Y.wn wc ha Y.hn hc)).mono b3.size)
  have b5:=b4.trans ((zT _ (.cells #[] 3)).mono b4.size)
  exact ⟨_,results_tmp rfl _ _ _,_,rfl,by rw [HV.out];exact (qcv (w3.alloc _) (by simp)).mono (by have:=b3.size;omega),b5⟩
 subst h0
 obtain ⟨hO,hyn,hyl,hyH⟩:=HD.out rfl
 have HV:Hid (U=udT x.y Y x.hn):=by show U=_;rw [HU.out,if_pos rfl];rfl
 have HN:Hid (x.hn=x.pn/\Y.hn=x.pn/\(∀ q,q<x.pn->Y.hL q<=x.hL q/\x.hL q<=200)/\1<=x.pn):=⟨hO.cn.2.2.1,hyn,fun q hq=>⟨hyl q hq,hO.hl200 hq⟩,hO.cn.1.1⟩
 have HH:Hid (Y.hH=x.hH):=hyH
 clear HU HD hO hyn hyl hyH
 have hmk:=qcp x.hn (by omega)
 gi_wp2_with (first|(refine ⟨trivial,?_⟩;gi_at_call 9;refine (callsIn_wide.2 (HB.out _ BW.out)).mono ?_;rintro e w3 ⟨v3,rfl,o3,q3⟩;obtain ⟨cl,vp,vs,vw,vh,up,us,uw,uh,rfl,o3⟩:=o3;obtain ⟨pa,pc,rfl⟩:=zU o3.p.row;obtain ⟨sa,sc,rfl⟩:=zU o3.s.row;obtain ⟨wa,wc,rfl⟩:=zU o3.t.row;obtain ⟨ha,hc,rfl⟩:=zU o3.h.row;obtain ⟨c0,c1,c2,c3⟩:=NB.out.below q3;have ln:=zJ w3 _ c0;have ln1:w.heap.size<w3.heap.size+1:=Nat.lt_succ_of_lt ln;have ln2:w.heap.size<w3.heap.size+1+1:=Nat.lt_succ_of_lt ln1;have le1:w.heap.size≠w3.heap.size+1:=Nat.ne_of_lt ln1;have le2:w.heap.size≠w3.heap.size+1+1:=Nat.ne_of_lt ln2;have le0:w.heap.size≠w3.heap.size:=Nat.ne_of_lt ln;clear HB)|(refine ⟨trivial,?_⟩;gi_at_call 40;refine (callsIn_wide.2 (qo0 _ _ _ _ _ _ _ _ _)).mono ?_;rintro e w' ⟨rfl,rfl⟩))
 clear c0 c1 c2 c3 ln1 ln2 le0 le1 le2 hmk
 have b3:Below w.heap.size w w3:=BW.out.trans (q3.mono BW.out.size)
 have a4:=zT w3 (oQ4 pa Y.pn pc sa Y.sn sc wa Y.wn wc ha Y.hn hc)
 have a5:=zT (w3.alloc (oQ4 pa Y.pn pc sa Y.sn sc wa Y.wn wc ha Y.hn hc)) (.cells (madeCells #[.int .i64 0] x.hn) 3)
 have a6:=zT ((w3.alloc (oQ4 pa Y.pn pc sa Y.sn sc wa Y.wn wc ha Y.hn hc)).alloc (.cells (madeCells #[.int .i64 0] x.hn) 3)) (.cells #[.slice (some ⟨w3.heap.size+1,0,none⟩) x.hn x.hn] 40)
 have a7:=zT (((w3.alloc (oQ4 pa Y.pn pc sa Y.sn sc wa Y.wn wc ha Y.hn hc)).alloc (.cells (madeCells #[.int .i64 0] x.hn) 3)).alloc (.cells #[.slice (some ⟨w3.heap.size+1,0,none⟩) x.hn x.hn] 40)) (oQ4 x.pa x.pn x.pc x.sa x.sn x.sc x.wa x.wn x.wc x.ha x.hn x.hc)
 have a8:=zT ((((w3.alloc (oQ4 pa Y.pn pc sa Y.sn sc wa Y.wn wc ha Y.hn hc)).alloc (.cells (madeCells #[.int .i64 0] x.hn) 3)).alloc (.cells #[.slice (some ⟨w3.heap.size+1,0,none⟩) x.hn x.hn] 40)).alloc (oQ4 x.pa x.pn x.pc x.sa x.sn x.sc x.wa x.wn x.wc x.ha x.hn x.hc)) (oQ4 pa Y.pn pc sa Y.sn sc wa Y.wn wc ha Y.hn hc)
 have z4:(w3.alloc (oQ4 pa Y.pn pc sa Y.sn sc wa Y.wn wc ha Y.hn hc)).heap.size=w3.heap.size+1:=by simp
 have z5:((w3.alloc (oQ4 pa Y.pn pc sa Y.sn sc wa Y.wn wc ha Y.hn hc)).alloc (.cells (madeCells #[.int .i64 0] x.hn) 3)).heap.size=w3.heap.size+2:=by simp
 have z6:(((w3.alloc (oQ4 pa Y.pn pc sa Y.sn sc wa Y.wn wc ha Y.hn hc)).alloc (.cells (madeCells #[.int .i64 0] x.hn) 3)).alloc (.cells #[.slice (some ⟨w3.heap.size+1,0,none⟩) x.hn x.hn] 40)).heap.size=w3.heap.size+3:=by simp
 have z7:((((w3.alloc (oQ4 pa Y.pn pc sa Y.sn sc wa Y.wn wc ha Y.hn hc)).alloc (.cells (madeCells #[.int .i64 0] x.hn) 3)).alloc (.cells #[.slice (some ⟨w3.heap.size+1,0,none⟩) x.hn x.hn] 40)).alloc (oQ4 x.pa x.pn x.pc x.sa x.sn x.sc x.wa x.wn x.wc x.ha x.hn x.hc)).heap.size=w3.heap.size+4:=by simp
 have z8:(((((w3.alloc (oQ4 pa Y.pn pc sa Y.sn sc wa Y.wn wc ha Y.hn hc)).alloc (.cells (madeCells #[.int .i64 0] x.hn) 3)).alloc (.cells #[.slice (some ⟨w3.heap.size+1,0,none⟩) x.hn x.hn] 40)).alloc (oQ4 x.pa x.pn x.pc x.sa x.sn x.sc x.wa x.wn x.wc x.ha x.hn x.hc)).alloc (oQ4 pa Y.pn pc sa Y.sn sc wa Y.wn wc ha Y.hn hc)).heap.size=w3.heap.size+5:=by simp
 have n5:=qj8 (w3.alloc (oQ4 pa Y.pn pc sa Y.sn sc wa Y.wn wc ha Y.hn hc)) x.hn (by omega)
 have n6:=qre ((w3.alloc (oQ4 pa Y.pn pc sa Y.sn sc wa Y.wn wc ha Y.hn hc)).alloc (.cells (madeCells #[.int .i64 0] x.hn) 3)) (.slice (some ⟨w3.heap.size+1,0,none⟩) x.hn x.hn) 40
 have n7:=(BoxC.new (((w3.alloc (oQ4 pa Y.pn pc sa Y.sn sc wa Y.wn wc ha Y.hn hc)).alloc (.cells (madeCells #[.int .i64 0] x.hn) 3)).alloc (.cells #[.slice (some ⟨w3.heap.size+1,0,none⟩) x.hn x.hn] 40)) (.slice x.pa x.pn x.pc) (.slice x.sa x.sn x.sc) (.slice x.wa x.wn x.wc) (.slice x.ha x.hn x.hc) 29).2.2.2
 have n8:=(BoxC.new ((((w3.alloc (oQ4 pa Y.pn pc sa Y.sn sc wa Y.wn wc ha Y.hn hc)).alloc (.cells (madeCells #[.int .i64 0] x.hn) 3)).alloc (.cells #[.slice (some ⟨w3.heap.size+1,0,none⟩) x.hn x.hn] 40)).alloc (oQ4 x.pa x.pn x.pc x.sa x.sn x.sc x.wa x.wn x.wc x.ha x.hn x.hc)) (.slice pa Y.pn pc) (.slice sa Y.sn sc) (.slice wa Y.wn wc) (.slice ha Y.hn hc) 29).2.2.2
 unfold Bw at a5 a6 a7 a8
 rw [z4] at n5 a5
 rw [z5] at a6 n6
 rw [z6] at a7 n7
 rw [z7] at a8 n8
 obtain ⟨A,C,hrA,hrE⟩:=leHv o3.h
 have m38:Below w3.heap.size w3 (((((w3.alloc (oQ4 pa Y.pn pc sa Y.sn sc wa Y.wn wc ha Y.hn hc)).alloc (.cells (madeCells #[.int .i64 0] x.hn) 3)).alloc (.cells #[.slice (some ⟨w3.heap.size+1,0,none⟩) x.hn x.hn] 40)).alloc (oQ4 x.pa x.pn x.pc x.sa x.sn x.sc x.wa x.wn x.wc x.ha x.hn x.hc)).alloc (oQ4 pa Y.pn pc sa Y.sn sc wa Y.wn wc ha Y.hn hc)):=a4.trans ((a5.mono (by omega)).trans ((a6.mono (by omega)).trans ((a7.mono (by omega)).trans (a8.mono (by omega)))))
 have m58:Below (w3.heap.size+2) ((w3.alloc (oQ4 pa Y.pn pc sa Y.sn sc wa Y.wn wc ha Y.hn hc)).alloc (.cells (madeCells #[.int .i64 0] x.hn) 3)) (((((w3.alloc (oQ4 pa Y.pn pc sa Y.sn sc wa Y.wn wc ha Y.hn hc)).alloc (.cells (madeCells #[.int .i64 0] x.hn) 3)).alloc (.cells #[.slice (some ⟨w3.heap.size+1,0,none⟩) x.hn x.hn] 40)).alloc (oQ4 x.pa x.pn x.pc x.sa x.sn x.sc x.wa x.wn x.wc x.ha x.hn x.hc)).alloc (oQ4 pa Y.pn pc sa Y.sn sc wa Y.wn wc ha Y.hn hc)):=a6.trans ((a7.mono (by omega)).trans (a8.mono (by omega)))
 have m68:Below (w3.heap.size+3) (((w3.alloc (oQ4 pa Y.pn pc sa Y.sn sc wa Y.wn wc ha Y.hn hc)).alloc (.cells (madeCells #[.int .i64 0] x.hn) 3)).alloc (.cells #[.slice (some ⟨w3.heap.size+1,0,none⟩) x.hn x.hn] 40)) (((((w3.alloc (oQ4 pa Y.pn pc sa Y.sn sc wa Y.wn wc ha Y.hn hc)).alloc (.cells (madeCells #[.int .i64 0] x.hn) 3)).alloc (.cells #[.slice (some ⟨w3.heap.size+1,0,none⟩) x.hn x.hn] 40)).alloc (oQ4 x.pa x.pn x.pc x.sa x.sn x.sc x.wa x.wn x.wc x.ha x.hn x.hc)).alloc (oQ4 pa Y.pn pc sa Y.sn sc wa Y.wn wc ha Y.hn hc)):=a7.trans (a8.mono (by omega))
 have F8:Hid (Below w.heap.size w (((((w3.alloc (oQ4 pa Y.pn pc sa Y.sn sc wa Y.wn wc ha Y.hn hc)).alloc (.cells (madeCells #[.int .i64 0] x.hn) 3)).alloc (.cells #[.slice (some ⟨w3.heap.size+1,0,none⟩) x.hn x.hn] 40)).alloc (oQ4 x.pa x.pn x.pc x.sa x.sn x.sc x.wa x.wn x.wc x.ha x.hn x.hc)).alloc (oQ4 pa Y.pn pc sa Y.sn sc wa Y.wn wc ha Y.hn hc))/\OwnI (((((w3.alloc (oQ4 pa Y.pn pc sa Y.sn sc wa Y.wn wc ha Y.hn hc)).alloc (.cells (madeCells #[.int .i64 0] x.hn) 3)).alloc (.cells #[.slice (some ⟨w3.heap.size+1,0,none⟩) x.hn x.hn] 40)).alloc (oQ4 x.pa x.pn x.pc x.sa x.sn x.sc x.wa x.wn x.wc x.ha x.hn x.hc)).alloc (oQ4 pa Y.pn pc sa Y.sn sc wa Y.wn wc ha Y.hn hc)) (w3.heap.size+1) (.slice (some ⟨w3.heap.size+1,0,none⟩) x.hn x.hn) (List.replicate x.hn 0)/\(((((w3.alloc (oQ4 pa Y.pn pc sa Y.sn sc wa Y.wn wc ha Y.hn hc)).alloc (.cells (madeCells #[.int .i64 0] x.hn) 3)).alloc (.cells #[.slice (some ⟨w3.heap.size+1,0,none⟩) x.hn x.hn] 40)).alloc (oQ4 x.pa x.pn x.pc x.sa x.sn x.sc x.wa x.wn x.wc x.ha x.hn x.hc)).alloc (oQ4 pa Y.pn pc sa Y.sn sc wa Y.wn wc ha Y.hn hc)).cell? ⟨w3.heap.size+2,0,none⟩=some (.slice (some ⟨w3.heap.size+1,0,none⟩) x.hn x.hn)/\(((((w3.alloc (oQ4 pa Y.pn pc sa Y.sn sc wa Y.wn wc ha Y.hn hc)).alloc (.cells (madeCells #[.int .i64 0] x.hn) 3)).alloc (.cells #[.slice (some ⟨w3.heap.size+1,0,none⟩) x.hn x.hn] 40)).alloc (oQ4 x.pa x.pn x.pc x.sa x.sn x.sc x.wa x.wn x.wc x.ha x.hn x.hc)).alloc (oQ4 pa Y.pn pc sa Y.sn sc wa Y.wn wc ha Y.hn hc)).cell? ⟨w3.heap.size+3,3,none⟩=some (.slice x.ha x.hn x.hc)/\(((((w3.alloc (oQ4 pa Y.pn pc sa Y.sn sc wa Y.wn wc ha Y.hn hc)).alloc (.cells (madeCells #[.int .i64 0] x.hn) 3)).alloc (.cells #[.slice (some ⟨w3.heap.size+1,0,none⟩) x.hn x.hn] 40)).alloc (oQ4 x.pa x.pn x.pc x.sa x.sn x.sc x.wa x.wn x.wc x.ha x.hn x.hc)).alloc (oQ4 pa Y.pn pc sa Y.sn sc wa Y.wn wc ha Y.hn hc)).cell? ⟨w3.heap.size+4,3,none⟩=some (.slice ha Y.hn hc)):=
  ⟨b3.trans (m38.mono b3.size),n5.below (by unfold Bw;rw [z5];exact m58),(m68.cell (p:=⟨w3.heap.size+2,0,none⟩) (by show w3.heap.size+2<w3.heap.size+3;omega)).trans n6,(a8.cell (p:=⟨w3.heap.size+3,3,none⟩) (by show w3.heap.size+3<w3.heap.size+4;omega)).trans n7,n8⟩
 have hF:Hid (∀ W',Kq (w3.heap.size+5) (w3.heap.size+1) (((((w3.alloc (oQ4 pa Y.pn pc sa Y.sn sc wa Y.wn wc ha Y.hn hc)).alloc (.cells (madeCells #[.int .i64 0] x.hn) 3)).alloc (.cells #[.slice (some ⟨w3.heap.size+1,0,none⟩) x.hn x.hn] 40)).alloc (oQ4 x.pa x.pn x.pc x.sa x.sn x.sc x.wa x.wn x.wc x.ha x.hn x.hc)).alloc (oQ4 pa Y.pn pc sa Y.sn sc wa Y.wn wc ha Y.hn hc)) W'->Hv.In ⟨x.ha,x.hn,x.hc,x.hA,x.hL,x.hC,x.hH⟩ W' (w3.heap.size+3)/\Hv.In ⟨ha,Y.hn,hc,A,Y.hL,C,Y.hH⟩ W' (w3.heap.size+4)):=fun W' hk=>by
  have hg:=HG.out.below (b3.trans ((m38.trans (hk.lo.mono (Nat.le_succ _))).mono b3.size))
  have h3:=m38.trans (hk.lo.mono (Nat.le_succ _))
  exact ⟨⟨(zH (hk.hi (w3.heap.size+3) (by omega) (by omega))).trans F8.out.2.2.2.1,hg.h,hg.hi⟩,⟨(zH (hk.hi (w3.heap.size+4) (by omega) (by omega))).trans F8.out.2.2.2.2,hrA.below h3,fun i hi=>(hrE i hi).below h3⟩⟩
 have hz:(((((w3.alloc (oQ4 pa Y.pn pc sa Y.sn sc wa Y.wn wc ha Y.hn hc)).alloc (.cells (madeCells #[.int .i64 0] x.hn) 3)).alloc (.cells #[.slice (some ⟨w3.heap.size+1,0,none⟩) x.hn x.hn] 40)).alloc (oQ4 x.pa x.pn x.pc x.sa x.sn x.sc x.wa x.wn x.wc x.ha x.hn x.hc)).alloc (oQ4 pa Y.pn pc sa Y.sn sc wa Y.wn wc ha Y.hn hc)).heap.size=w3.heap.size+5:=z8
 have hwN:w.heap.size<w3.heap.size:=ln
 clear a4 a5 a6 a7 a8 z4 z5 z6 z7 z8 n5 n6 n7 n8 hrA hrE m38 m58 m68 o3 q3 b3 ln
 generalize (((((w3.alloc (oQ4 pa Y.pn pc sa Y.sn sc wa Y.wn wc ha Y.hn hc)).alloc (.cells (madeCells #[.int .i64 0] x.hn) 3)).alloc (.cells #[.slice (some ⟨w3.heap.size+1,0,none⟩) x.hn x.hn] 40)).alloc (oQ4 x.pa x.pn x.pc x.sa x.sn x.sc x.wa x.wn x.wc x.ha x.hn x.hc)).alloc (oQ4 pa Y.pn pc sa Y.sn sc wa Y.wn wc ha Y.hn hc))=W8 at *
 generalize w3.heap.size=N at *
 clear w3
 have hdd:∀ i,i<x.hn->∀ r,Al (x.hH i) (Y.hH i) (min (x.hL i) (Y.hL i)) r->x.hL i - r=x.hL i - Y.hL i:=fun i hi r a=>by
  obtain ⟨h1,h2,h3,-⟩:=HN.out
  have h4:=(h3 i (by omega)).1
  have h5:=a.le
  by_cases h6:r<min (x.hL i) (Y.hL i)
  ·exact absurd (by rw [HH.out]) (a.ne h6)
  ·omega
 have hll:∀ i,i<x.hn->x.hL i<=1048576/\Y.hL i<=1048576:=fun i hi=>by
  obtain ⟨h1,h2,h3,-⟩:=HN.out
  have h4:=h3 i (by omega)
  omega
 refine wpIn_rangeFunc_ownG (F:=Fence.wide) (n:=3) rfl (by omega) (gf:=80) (lb:=#[.pointer (some ⟨N+1+1+1,0,none⟩),.pointer (some ⟨N+1+1+1+1,0,none⟩)]) rfl trivial (enters_of Tryz.func80 (by kernel_rfl) rfl)
  (qix 2 (by omega) (N+3) (N+4) (N+5) (N+1) ⟨x.ha,x.hn,x.hc,x.hA,x.hL,x.hC,x.hH⟩ ⟨ha,Y.hn,hc,A,Y.hL,C,Y.hH⟩ (by have:=HN.out;show x.hn<=Y.hn;omega) (by show x.hn<=1048576;omega) hll (fun i=>x.hL i - Y.hL i) hdd W8 (by omega) (by omega) hF.out) (fun h k=>h.trans k) (Kq.b (by omega) (by omega)) (Below.refl _ _) (fun _=>rfl)
  (fun pre W=>OwnI W (N+1) (.slice (some ⟨N+1,0,none⟩) x.hn x.hn) (upN x.hn pre)/\W.cell? ⟨N+1+1,0,none⟩=some (.slice (some ⟨N+1,0,none⟩) x.hn x.hn)/\Below w.heap.size w W)
  (fun _ _ _=>False) ?hI (fun _ _ _ _ _ hs _ _=>hs) ⟨F8.out.2.1,F8.out.2.2.1,F8.out.1⟩
  (fun z=>{ tmps:=#[x.v,.int .i64 p,.int .i64 k,.pointer (some ⟨w.heap.size,0,none⟩),undef,undef,.slice none 0 0,.pointer (some ⟨N,0,none⟩),.int .i64 0,.pointer (some ⟨N+1+1,0,none⟩),.int .i64 (z.1.val:Nat),.int .i64 (z.2:Nat),.tuple #[.agg #[.slice pa Y.pn pc,.slice sa Y.sn sc,.slice wa Y.wn wc,.slice ha Y.hn hc],.int .i64 0],.agg #[.slice x.pa x.pn x.pc,.slice x.sa x.sn x.sc,.slice x.wa x.wn x.wc,.slice x.ha x.hn x.hc],.int .i64 p,.int .i64 k,.tuple #[.agg #[.slice pa Y.pn pc,.slice sa Y.sn sc,.slice wa Y.wn wc,.slice ha Y.hn hc],.int .i64 0],.agg #[.slice pa Y.pn pc,.slice sa Y.sn sc,.slice wa Y.wn wc,.slice ha Y.hn hc],.int .i64 0,.int .i64 0,.bool false,undef,.pointer (some ⟨w.heap.size,3,none⟩),.slice x.ha x.hn x.hc,.int .i64 x.hn,.slice (some ⟨N+1,0,none⟩) x.hn x.hn,.agg #[.slice x.pa x.pn x.pc,.slice x.sa x.sn x.sc,.slice x.wa x.wn x.wc,.slice x.ha x.hn x.hc],.agg #[.slice pa Y.pn pc,.slice sa Y.sn sc,.slice wa Y.wn wc,.slice ha Y.hn hc],.func (.func 80) #[] #[.pointer (some ⟨N+1+1+1,0,none⟩),.pointer (some ⟨N+1+1+1+1,0,none⟩)],.int .i64 (z.1.val:Nat),.int .i64 (z.2:Nat),undef,undef,undef,undef,undef],defers:=[] }) ?assign ?body ?done ?stop
 case hI=>
  intro s A' B' row hs hg hr
  have hne:∀ j,j<W8.heap.size->some j≠row:=fun j hj e=>by
   have:=(hr j e.symm).1
   omega
  exact ⟨hs.1.kept hg (.inr (hne (N+1) (by omega))),(zH (hg.block (N+1+1) (zJ A' _ hs.2.1) (hne _ (by omega)))).trans hs.2.1,ownFrom_below (β:=Unit) (Nat.le_refl _) (by omega) () A' B' row hs.2.2 hg hr⟩
 case assign=>
  intro l z W K hK
  gi_wp2
  exact hK
 case body=>
  rintro l pre z W ⟨ho,hc9,hBw⟩ _
  have hz2:z.1.val<x.hn:=z.1.isLt
  have hz1:((z.1.val:Nat):Int)<(x.hn:Int):=by omega
  have fr:∀ j,W.frozen? ⟨N+1,j,none⟩=false:=fun j=>by
   have h:=ho
   unfold OwnI at h
   rw [qig] at h
   exact h.frozenAt j
  have ce:W.cell? ⟨N+1,z.1.val,none⟩=some (.int .i64 ((upN x.hn pre)[z.1.val]'(by rw [qig];exact hz2))):=by
   have h:=ho
   unfold OwnI at h
   rw [qig] at h
   rw [h.cellAt z.1.val (by omega)]
   simp [qig]
  have lw:N+1<W.heap.size:=zJ W _ ce
  have fz:=fr z.1.val
  gi_wp2
  have hs:∀ b,b≠N+1->(W.setCell ⟨N+1,z.1.val,none⟩ (.int .i64 (z.2:Nat))).heap[b]? = W.heap[b]?:=fun b hb=>zO W _ _ b hb
  exact ⟨(KeepsOthers.setCell _ _ _).from _,⟨(Below.refl (N+1) W).setCell (p:=⟨N+1,z.1.val,none⟩) (Nat.le_refl _) _,fun b h1 _=>hs b (by omega)⟩,⟨by rw [qpt];exact (ho.set (qig pre).symm z.1.val (z.2:Int)).1,(zH (hs (N+1+1) (by omega))).trans hc9,hBw.setCell (p:=⟨N+1,z.1.val,none⟩) (by show w.heap.size<=N+1;omega) _⟩⟩
 case done=>
  rintro D ys W hD rfl ⟨ho,hc9,hBw⟩ hK
  gi_wp2
  refine ⟨by simp,.inl ⟨_,_,rfl,run_takeDeferred hK,?_⟩⟩
  have hu:upN x.hn (gnL x.hn (fun i=>x.hL i - Y.hL i) x.hn (Nat.le_refl _))=U:=by
   rw [qvr,HV.out]
   unfold udT
   refine List.map_congr_left fun q hq=>?_
   have hq':q<x.hn:=List.mem_range.1 hq
   obtain ⟨h1,h2,h3,-⟩:=HN.out
   have h4:=(h3 q (by omega)).1
   rw [if_pos hq']
   show ((x.hL q - Y.hL q:Nat):Int)=(x.hL q:Int) - (Y.hL q:Int)
   omega
  rw [<- hu]
  have hO:OwnI (W.putObj D (.deferred none)) (N+1) (.slice (some ⟨N+1,0,none⟩) x.hn x.hn) (upN x.hn (gnL x.hn (fun i=>x.hL i - Y.hL i) x.hn (Nat.le_refl _))):=ownsRow_putObj ho _ hK rfl
  refine ⟨_,results_tmp rfl _ _ _,_,rfl,?_,hBw.trans (belowK_b (w:=w) (Nat.le_refl _) W D _ _ (by omega) hK rfl rfl)⟩
  exact hO.mono (show w.heap.size<=N+1 by omega)
 case stop=>
  rintro D c pre W _ _ h _
  exact h.elim
theorem qw7 {x:SysIn} (hm:x.y.Sm) (p k:Int):(udS x.y p k).length<=16:=by
 unfold udS
 split
 ·rw [qky]
  exact hm.n.2.2.2
 ·simp
theorem qhb (a0:Option Addr) (len cap:Nat) (w:World) (hl:len<=1048576) (hB:qbg w w.heap.size a0 len) (hV:w.cell? ⟨0,0,none⟩=some (.iface 167 (.agg #[.pointer (some ⟨1,120,none⟩)]))):
  Calls Tryz.prog 5 #[.slice a0 len cap] w fun e w'=>e=.returned (.bool true)/\Below w.heap.size w w':=by
 have HB:Hid (qbg w w.heap.size a0 len):=hB
 have HV:Hid (∀ wx,Below w.heap.size w wx->wx.cell? ⟨0,0,none⟩=some (.iface 167 (.agg #[.pointer (some ⟨1,120,none⟩)]))):=fun wx hb=>(hb.cell (p:=⟨0,0,none⟩) (zJ w _ hV)).trans hV
 have hlt:¬ (1048576:Int)<(len:Int):=by omega
 clear hB hV
 go_enter Tryz.func5,Tryz.ntmps5
 go_wp2_with fail
 refine (qf8 a0 len cap w).mono ?_
 rintro e w1 ⟨rfl,rfl⟩
 rw [decide_eq_false (show ¬ (1048576:Int)<(len:Int) by omega)]
 go_wp2_with fail
 refine (qih w1.heap.size len cap a0 w1 HB.out (Nat.le_refl _) hl).mono ?_
 rintro e w2 ⟨x,p,k,B,T,rfl,hm,hX,-,-,b2,hp,hk⟩
 have HM:Hid (x.Len/\(∀ i,i<x.hn->x.hL i<=x.hC i)/\x.Nn false):=⟨hm.inLen,hX.cap,hX.nn⟩
 have K2:Hid (WJ w1 (w2.alloc (oQ4 x.pa x.pn x.pc x.sa x.sn x.sc x.wa x.wn x.wc x.ha x.hn x.hc)) w2.heap.size x):=⟨hX.self.below (zQ _ _),BoxC.new _ _ _ _ _ _,b2.trans ((zQ _ _).mono b2.size)⟩
 have h16:=qw7 hm p k
 have HSm:Hid (x.hn<=16/\∀ i,i<x.hn->x.hL i<=1000):=⟨hm.n.2.2.2,hm.h⟩
 clear hX b2 hm HB
 obtain ⟨L,hL⟩:∃ L,udS x.y p k=L:=⟨_,rfl⟩
 rw [hL] at h16
 have HD:Hid (udS x.y p k=L):=hL
 clear hL
 have hL16:(L.length:Int)<=16:=by omega
 go_wp2_with fail
 generalize w2.alloc (oQ4 x.pa x.pn x.pc x.sa x.sn x.sc x.wa x.wn x.wc x.ha x.hn x.hc)=W2 at *
 generalize w2.heap.size=X at *
 clear w2
 refine (qim x p k W2 K2.out.g HM.out.1 HM.out.2.1 HM.out.2.2 (HV.out _ K2.out.be)).mono ?_
 rintro e w3 ⟨u3,rfl,o3,d3⟩
 rw [HD.out] at o3
 obtain ⟨ag,cg,rfl,-⟩:=o3.form
 have K3:Hid (WJ w1 w3 X x/\Sl w3 ag L):=⟨K2.out.below d3,OwnI.slOf o3⟩
 clear o3 d3 K2
 obtain ⟨k0,k1,k2,k3⟩:=K3.out.1.bx
 go_wp2_with fail
 clear k0 k1 k2 k3
 refine (qis x p k w3 K3.out.1.g HM.out.1 HM.out.2.1).mono ?_
 rintro e w4 ⟨u4,rfl,o4,d4⟩
 rw [HD.out] at o4
 obtain ⟨aw,cw,rfl,-⟩:=o4.form
 have K4:Hid (WJ w1 w4 X x/\Sl w4 ag L/\Sl w4 aw L):=⟨K3.out.1.below d4,K3.out.2.below d4,OwnI.slOf o4⟩
 clear o4 d4 K3
 go_wp2_with fail
 refine (qd5 ag aw cg cw L w4 (by omega) K4.out.2.1 K4.out.2.2).mono ?_
 rintro e w5 ⟨rfl,d5⟩
 have K5:Hid (WJ w1 w5 X x/\Sl w5 ag L):=⟨K4.out.1.below d5,K4.out.2.1.below d5⟩
 clear d5 K4
 obtain ⟨k0,k1,k2,k3⟩:=K5.out.1.bx
 go_wp2_with fail
 clear k0 k1 k2 k3
 refine (qcm x p k w5 K5.out.1.g HM.out.1 HM.out.2.1 HM.out.2.2 (HV.out _ K5.out.1.be)).mono ?_
 rintro e w6 ⟨v6,rfl,o6,d6⟩
 obtain ⟨x',rfl,ey,g6,-,-⟩:=o6.inJ
 have K6:Hid (WJ w1 (w6.alloc (oQ4 x'.pa x'.pn x'.pc x'.sa x'.sn x'.sc x'.wa x'.wn x'.wc x'.ha x'.hn x'.hc)) X x/\WJ w1 (w6.alloc (oQ4 x'.pa x'.pn x'.pc x'.sa x'.sn x'.sc x'.wa x'.wn x'.wc x'.ha x'.hn x'.hc)) w6.heap.size x'/\Sl (w6.alloc (oQ4 x'.pa x'.pn x'.pc x'.sa x'.sn x'.sc x'.wa x'.wn x'.wc x'.ha x'.hn x'.hc)) ag L/\x'.y=bkY x.y p k):=⟨(K5.out.1.below d6).below (zQ _ _),⟨g6.below (zQ _ _),BoxC.new _ _ _ _ _ _,((K5.out.1.below d6).below (zQ _ _)).be⟩,(K5.out.2.below d6).below (zQ _ _),ey⟩
 clear o6 ey g6 d6 K5
 obtain ⟨C,hC⟩:∃ C,bkC x.y p k=C:=⟨_,rfl⟩
 rw [hC]
 by_cases h0:C=0
 case neg=>
  have hL0:L=[]:=by
   rw [<- HD.out,udS,if_neg (by rw [hC];exact h0)]
  subst hL0
  have h0':(C != 0)=true:=by simpa using h0
  have KB:Hid (Below w1.heap.size w1 (w6.alloc (oQ4 x'.pa x'.pn x'.pc x'.sa x'.sn x'.sc x'.wa x'.wn x'.wc x'.ha x'.hn x'.hc))):=K6.out.1.be
  clear K6 HD HM hC
  go_wp2
  go_ret
  exact ⟨rfl,KB.out⟩
 subst h0
 have HT:Hid (L.length=x.hn/\x'.hn=x.hn/\∀ q,q<x.hn->x'.hL q<=x.hL q/\zi L q=(x.hL q:Int) - (x'.hL q:Int)):=by
  obtain ⟨hO,h1,h2⟩:=qfk hC
  have e:L=udT x.y (bkY x.y p k) x.y.hn:=by rw [<- HD.out,udS,if_pos hC]
  have hn:x.y.hn=x.y.pn:=hO.cn.2.2.1
  have ey:=K6.out.2.2.2
  refine ⟨by rw [e,qky];rfl,by show x'.y.hn=x.y.hn;rw [ey,h1,hn],fun q hq=>⟨by show x'.y.hL q<=x.y.hL q;rw [ey];exact h2 q (by rw [<- hn];exact hq),?_⟩⟩
  rw [e,<- ey]
  unfold zi udT
  have hq':q<x.y.hn:=hq
  simp [List.getD_eq_getElem?_getD,hq']
  rfl
 clear HD HM hC
 go_upto_region 10 with fail
 generalize w6.alloc (oQ4 x'.pa x'.pn x'.pc x'.sa x'.sn x'.sc x'.wa x'.wn x'.wc x'.ha x'.hn x'.hc)=W6 at *
 generalize w6.heap.size=Y at *
 clear w6
 have K7:Hid (WJ w1 W6 X x/\WJ w1 W6 Y x'/\Sl W6 ag L):=⟨K6.out.1,K6.out.2.1,K6.out.2.2.1⟩
 clear K6
 go_wp2_with fail
 go_loopw [9] (fun i wr=>∃ q:Nat,q<=L.length/\i=.int .i64 q/\Hid (WJ w1 wr X x/\WJ w1 wr Y x'/\Sl wr ag L)) (fun i _=>L.length - (intOf i).toNat)
 case atStart=>exact ⟨0,Nat.zero_le _,rfl,K7.out⟩
 case round=>
  obtain ⟨q,hq,rfl,HK⟩:=hrel
  by_cases hlt:q<L.length
  ·have hlt':(q:Int)<(L.length:Int):=by omega
   have hqx:q<x.hn:=by have:=HT.out.1;omega
   have hqx':(q:Int)<(x.hn:Int):=by omega
   have hqy:q<x'.hn:=by have:=HT.out.2.1;omega
   have hqy':(q:Int)<(x'.hn:Int):=by omega
   obtain ⟨c,o,rfl,lc,cc⟩:=HK.out.2.2.at hlt
   obtain ⟨b,off,ea,cb⟩:=HK.out.1.g.h.at hqx
   obtain ⟨b',off',ea',cb'⟩:=HK.out.2.1.g.h.at hqy
   have cb:wr.cell? ⟨b,off+q,none⟩=some (.slice (x.hA q) (x.hL q) (x.hC q)):=cb
   have cb':wr.cell? ⟨b',off'+q,none⟩=some (.slice (x'.hA q) (x'.hL q) (x'.hC q)):=cb'
   obtain ⟨k0,k1,k2,k3⟩:=HK.out.1.bx
   obtain ⟨y0,y1,y2,y3⟩:=HK.out.2.1.bx
   rw [ea] at k3
   rw [ea'] at y3
   obtain ⟨t1,t2⟩:=HT.out.2.2 q hqx
   have t3:=HSm.out.2 q hqx
   rw [t2] at cc
   generalize x'.hL q=a at *
   generalize x.hL q=d at *
   have n0:¬ ((d:Int) - (a:Int)<0):=by omega
   have n1:(d:Int) - (a:Int)+(a:Int)=(d:Int):=by omega
   have hd:(d:Int)<=1000:=by omega
   have ha:(a:Int)<=(d:Int):=by omega
   clear ea ea' t1 t2 t3
   have hwd:(IntKind.i64.wrap (d:Int) != (d:Int))=false:=by
    have e1:IntKind.i64.wrap (d:Int)=d:=by rw [IntKind.wrap_i64];omega
    rw [e1]
    simp
   go_wp2_with fail
   go_quiet (fail)
   go_wp2
   go_roundw
   case rel=>exact ⟨q+1,by omega,by go_num,HK.out.1.below (yE (Below.refl _ _) _),HK.out.2.1.below (yE (Below.refl _ _) _),HK.out.2.2.below (yE (Below.refl _ _) _)⟩
   case measure=>simp [intOf];omega
  ·obtain ⟨k0,k1,k2,k3⟩:=HK.out.1.bx
   have hel:(L.length:Int)=(x.hn:Int):=by have:=HT.out.1;omega
   go_wp2
   go_ret
   exact ⟨rfl,HK.out.1.be⟩
theorem qha (a0:Option Addr) (len cap:Nat) (w:World) (_hm:len<=maxLen) (hl:1048576<len):
  Calls Tryz.prog 5 #[.slice a0 len cap] w fun e w'=>e=.returned (.bool true)/\Below w.heap.size w w':=by
 go_enter Tryz.func5,Tryz.ntmps5
 go_wp2_with fail
 refine (qf8 a0 len cap w).mono ?_
 rintro e w1 ⟨rfl,rfl⟩
 rw [decide_eq_true (show (1048576:Int)<(len:Int) by omega)]
 go_wp2
 go_ret
 exact ⟨rfl,Below.refl _ _⟩
theorem qkz (os:Os) (started:os.Started) (H:Type) (enc:TypeId × Value->H):
  ReturnsInHanded {} Tryz.checked os 5 .any (fun w args => (Rows.fnUndoneSpec.pre enc Tryz.prog Tryz.f5 [] false w args /\ laidMetH Tryz.prog [("errors.errorType", Rows.laid_errors_errorType)] w) /\ sizedMet enc Tryz.prog Tryz.f5 (OpenSpec.ofChange Rows.fnUndoneSpec) false w args)
   (Rows.fnUndoneSpec.post enc Tryz.prog Tryz.f5 false true false false):=by
 refine returnsInHanded_of_change_and (C := Tryz.checked) (X := fun w _ => laidMetH Tryz.prog [("errors.errorType", Rows.laid_errors_errorType)] w) (fun _ _ _ hh h => h.of_heap hh) Tryz.own started (by kernel_rfl) Tryz.func5
  (ChangeSpec.witness_at (enc := enc) (C := Tryz.checked) (os := os) (X := fun w _ => laidMetH Tryz.prog [("errors.errorType", Rows.laid_errors_errorType)] w) false (qfv os) #[.slice none 0 0] 8 rfl (by kernel_rfl) (by kernel_rfl) (by kernel_rfl) (by kernel_rfl) (by kernel_rfl) (qd0 os _)) ?_
 intro W base args ds gs before hval0 hW _ _ hL _
 have hval:∀ (j:Nat) t v,Tryz.f5.params[j]? = some t->args[j]? = some v->Value.okWide Tryz.prog W .any base t v:=hval0
 have hW':=hW
 obtain ⟨p,q,hA0,hV,rfl,hfz,hnd⟩:=hW
 have hA:DataW.TrodAll enc Tryz.prog W 0 (fun _=>true) true Tryz.f5.params.toList args.toList ds p:=hA0
 rw [Tryz.params5] at hA hval
 obtain ⟨v0,d0,rfl,rfl,h0⟩:=trodAll_one hA
 obtain ⟨rfl,rfl⟩:=trodVars_none hV
 have lt0:∀ x ∈ p,x.block<W.heap.size:=by obtain ⟨m,hm⟩:=h0;exact DataW.trod_lt m _ _ _ hm
 have hg:=qdf hL
 clear hA0 hval0
 have hlaw:Calls Tryz.prog 5 #[v0] W fun e w'=>e=.returned (.bool true)/\Below W.heap.size W w':=by
  obtain ⟨a0,len,cap,rfl⟩:=okWide_slice Tryz.underlying22 (hval 0 22 v0 rfl rfl)
  obtain ⟨hm,hB⟩:=qgk h0
  by_cases hs:len<=1048576
  ·exact qhb a0 len cap W hs hB hg
  ·exact qha a0 len cap W hm (by omega)
 refine hlaw.mono fun e W' ⟨he,bel⟩=>?_
 subst he
 exact ⟨_,rfl,_,_,_,[],_,[],hW',trodAll_mk1 (shut_bool Tryz.underlying4 _),trodAll_mk1 (Below.trod Tryz.laidOut (by kernel_rfl) (of_decide_eq_true (by kernel_rfl)) h0 bel lt0),rfl,bel.frame _,fun h=>by cases h⟩
theorem qor:Rows.FnUndoneSaid:=
 OpenClaim.holds_of_wide 5 Tryz.f5 rfl rfl rfl rfl rfl rfl rfl ⟨rfl,rfl,rfl,rfl,rfl⟩ rfl rfl rfl rfl rfl (by kernel_rfl) Tryz.func5 (by kernel_rfl)
  (of_decide_eq_true (by kernel_rfl)) (by unfold Func.isWrapper;first|(rw [if_pos (by decide +kernel)];kernel_rfl)|(rw [if_neg (by decide +kernel)];exact ⟨rfl,rfl⟩))
  (fun os started H enc _=>qkz os started H enc)
theorem qmw (f : FuncId) (fn : Func) (hf : Tryz.pinned.checked.prog.funcNamed "loop.example/g00196/laws.FnUndone" = some f) (hfn : Tryz.pinned.checked.prog.funcs[f]? = some fn) :
  true=Tryz.pinned.checked.prog.looks []/\∀ (j:Nat) t,fn.params[j]? = some t->Tryz.pinned.checked.prog.wantsStandIn t=false:=by
 obtain rfl : f = 5 := Option.some.inj ((show Tryz.prog.funcNamed "loop.example/g00196/laws.FnUndone" = some 5 by kernel_rfl).symm.trans hf) |>.symm
 obtain rfl:fn=Tryz.f5:=(Option.some.inj (Tryz.func5.symm.trans hfn)).symm
 refine ⟨by kernel_rfl,fun j t ht=>?_⟩
 rw [Tryz.params5] at ht
 have hm:=Array.mem_of_getElem? ht
 simp at hm
 obtain rfl:=hm
 exact (show Tryz.prog.wantsStandIn 22=false by kernel_rfl)
theorem undoneD_card:Rows.FnUndoneCardSaid:=
 Claim7.holds_tied_plain_at .later [] _ _ _ _ qor (fun _ h=>by cases h) (by kernel_rfl) (fun _ h=>by cases h) fnUndone_row_tie rfl ⟨rfl,rfl⟩ (by kernel_rfl) rfl qmw (by kernel_rfl)
