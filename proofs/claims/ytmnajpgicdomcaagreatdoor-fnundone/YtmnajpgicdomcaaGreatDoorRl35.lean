import Derived.Test.YtmnajpgicdomcaaGreatDoorRl32
namespace Go.Proofs.YtmnajpgicdomcaaGreatDoor
set_option maxRecDepth 100000
set_option maxHeartbeats 4000000
open Go.ChangeShapes Go.WideShapes Go.ChangeAt Go.RowKit Go.Deep
theorem kndN:Kind 32 3 1 8:=by
 refine ⟨Tryz.underlying32,?_,by omega,by omega⟩;have h:(Tryz.prog.info? 3).map (fun i=>(i.zero.map (·.cells.size),i.size,i.bytes))=some (some 1,1,8):=by kernel_rfl
 cases hi:Tryz.prog.info? 3 with
 | none=>rw [hi] at h;cases h
 | some i=>
  rw [hi] at h;simp only [Option.map_some,Option.some.injEq,Prod.mk.injEq] at h;cases hz:i.zero with
  | none=>rw [hz] at h;simp at h
  | some z=>
   rw [hz] at h;simp only [Option.map_some,Option.some.injEq] at h;exact ⟨i,z,rfl,hz,h.2.1,h.2.2,by omega⟩
def udT (y Y:Sy) (n:Nat):List Int:=(List.range n).map fun q=>(y.hL q:Int) - (Y.hL q:Int)
theorem qug (y Y:Sy) (n:Nat):udT y Y (n+1)=udT y Y n ++ [(y.hL n:Int) - (Y.hL n:Int)]:=by
 unfold udT;rw [List.range_succ,List.map_append];rfl
theorem qkp (y Y:Sy) (n:Nat):(udT y Y n).length=n:=by simp [udT]
noncomputable def udS (y:Sy) (p k:Int):List Int:=if bkC y p k=0 then udT y (bkY y p k) y.hn else []
theorem qfk {y:Sy} {p k:Int} (h:bkC y p k=0):y.Ok/\(bkY y p k).hn=y.pn/\∀ q,q<y.pn->(bkY y p k).hL q<=y.hL q:=by
 unfold bkC at h;by_cases ho:y.okB=true
 ·rw [if_pos ho] at h
  by_cases hb:bkIn y p k=true
  ·rw [if_pos hb] at h
   by_cases hw:wfB (y.ah (cN (bkE y p k)))=true
   ·have hO:=Sy.ok_of ho
    have hc:=qge (qcz hO hb);unfold bkY;rw [if_pos ho,if_pos hb,if_pos hw];exact ⟨hO,rfl,fun q hq=>hc.leN hq⟩
   ·rw [if_neg hw] at h
    cases h
  ·rw [if_neg hb] at h
   cases h
 ·rw [if_neg ho] at h
  cases h
theorem qiy (x:SysIn) (p k:Int) (w:World) (hG:SysG w x) (hL:x.Len) (hcap:∀ i,i<x.hn->x.hL i<=x.hC i):
  Calls Tryz.prog 10 #[x.v,.int .i64 p,.int .i64 k] w fun e w'=>∃ u,e=.returned u/\OwnI w' w.heap.size u (udS x.y p k)/\Below w.heap.size w w':=by
 have HG:Hid (SysG w x):=hG;have HB:Hid (∀ wx,Below w.heap.size w wx->Calls Tryz.prog 19 #[x.v,.int .i64 p,.int .i64 k] wx fun e w'=>∃ v,e=.returned (.tuple #[v,.int .i64 (bkC x.y p k)])/\qac false w' wx.heap.size (bkY x.y p k) v/\Below wx.heap.size wx w'):=fun wx hb=>qel x p k wx (hG.below hb) hL hcap;have HD:Hid (bkC x.y p k=0->x.y.Ok/\(bkY x.y p k).hn=x.y.pn/\∀ q,q<x.y.pn->(bkY x.y p k).hL q<=x.y.hL q):=qfk;have HU:Hid (udS x.y p k=if bkC x.y p k=0 then udT x.y (bkY x.y p k) x.y.hn else []):=rfl;have hl':(x.hn:Int)<=1048576:=by have:=hL.h.1;omega
 have BW:Hid (Below w.heap.size w ((w.alloc (oQ4 x.pa x.pn x.pc x.sa x.sn x.sc x.wa x.wn x.wc x.ha x.hn x.hc)).alloc (.cells #[] 3))):=(zT _ _).trans ((zT _ _).mono (by simp));have NB:Hid (BoxC ((w.alloc (oQ4 x.pa x.pn x.pc x.sa x.sn x.sc x.wa x.wn x.wc x.ha x.hn x.hc)).alloc (.cells #[] 3)) w.heap.size (.slice x.pa x.pn x.pc) (.slice x.sa x.sn x.sc) (.slice x.wa x.wn x.wc) (.slice x.ha x.hn x.hc)):=(BoxC.new w _ _ _ _ _).below (zT _ _);have NO:Hid (OwnI ((w.alloc (oQ4 x.pa x.pn x.pc x.sa x.sn x.sc x.wa x.wn x.wc x.ha x.hn x.hc)).alloc (.cells #[] 3)) (w.heap.size+1) (.slice (some ⟨w.heap.size+1,0,none⟩) 0 0) []):=qcx (w.alloc (oQ4 x.pa x.pn x.pc x.sa x.sn x.sc x.wa x.wn x.wc x.ha x.hn x.hc)) (by simp);have LZ:Hid (((w.alloc (oQ4 x.pa x.pn x.pc x.sa x.sn x.sc x.wa x.wn x.wc x.ha x.hn x.hc)).alloc (.cells #[] 3)).heap.size=w.heap.size+2):=by show _=_;simp
 obtain ⟨C,hC⟩:∃ C,bkC x.y p k=C:=⟨_,rfl⟩
 obtain ⟨Y,hY⟩:∃ Y,bkY x.y p k=Y:=⟨_,rfl⟩
 rw [hC,hY] at HB HD HU;generalize udS x.y p k=U at *;clear hC hY hG hL hcap
 go_enter Tryz.func10,Tryz.ntmps10
 go_wp2_with fail
 generalize (w.alloc (oQ4 x.pa x.pn x.pc x.sa x.sn x.sc x.wa x.wn x.wc x.ha x.hn x.hc)).alloc (.cells #[] 3)=W2 at *;refine (HB.out W2 BW.out).mono ?_;rintro e w3 ⟨v3,rfl,o3,q3⟩;obtain ⟨cl,vp,vs,vw,vh,up,us,uw,uh,rfl,o3⟩:=o3;obtain ⟨pa,pc,rfl⟩:=zU o3.p.row;obtain ⟨sa,sc,rfl⟩:=zU o3.s.row;obtain ⟨wa,wc,rfl⟩:=zU o3.t.row;obtain ⟨ha,hc,rfl⟩:=zU o3.h.row;have ba:=zQ w3 (oQ4 pa Y.pn pc sa Y.sn sc wa Y.wn wc ha Y.hn hc);have F4:Hid (OwnS false (w3.alloc (oQ4 pa Y.pn pc sa Y.sn sc wa Y.wn wc ha Y.hn hc)) W2.heap.size cl Y (.slice pa Y.pn pc) (.slice sa Y.sn sc) (.slice wa Y.wn wc) (.slice ha Y.hn hc) up us uw uh/\Below W2.heap.size W2 (w3.alloc (oQ4 pa Y.pn pc sa Y.sn sc wa Y.wn wc ha Y.hn hc))/\BoxC (w3.alloc (oQ4 pa Y.pn pc sa Y.sn sc wa Y.wn wc ha Y.hn hc)) w3.heap.size (.slice pa Y.pn pc) (.slice sa Y.sn sc) (.slice wa Y.wn wc) (.slice ha Y.hn hc)/\W2.heap.size<=w3.heap.size):=⟨o3.below ba,q3.trans (ba.mono q3.size),BoxC.new w3 _ _ _ _ _,q3.size⟩
 go_upto_region 3 with fail
 clear o3 q3 ba HB;generalize hN:w3.heap.size=N at *;clear hN;generalize w3.alloc (oQ4 pa Y.pn pc sa Y.sn sc wa Y.wn wc ha Y.hn hc)=w4 at *;clear w3;have B4:Hid (Below w.heap.size w w4/\OwnI w4 (w.heap.size+1) (.slice (some ⟨w.heap.size+1,0,none⟩) 0 0) []/\BoxC w4 w.heap.size (.slice x.pa x.pn x.pc) (.slice x.sa x.sn x.sc) (.slice x.wa x.wn x.wc) (.slice x.ha x.hn x.hc)):=⟨BW.out.trans (F4.2.1.mono BW.out.size),NO.out.below F4.2.1,NB.out.below F4.2.1⟩
 by_cases h0:C=0
 case neg=>
  have HV:Hid (U=[]):=by show U=[];rw [HU.out,if_neg h0]
  clear HU HD F4;go_wp2;go_ret;rw [HV.out];exact ⟨_,rfl,B4.2.1.mono (Nat.le_succ _),B4.1⟩
 subst h0;obtain ⟨hO,hyn,hyl⟩:=HD.out rfl;have HV:Hid (U=udT x.y Y x.hn):=by show U=_;rw [HU.out,if_pos rfl];rfl
 have HN:Hid (x.hn=x.pn/\Y.hn=x.pn/\(∀ q,q<x.pn->Y.hL q<=x.hL q/\x.hL q<=200)/\1<=x.pn):=⟨hO.cn.2.2.1,hyn,fun q hq=>⟨hyl q hq,hO.hl200 hq⟩,hO.cn.1.1⟩
 clear HU HD hO hyn hyl;obtain ⟨gh,gcap,egh,-⟩:=F4.1.h.cell (i:=0) (by have:=HN.out;omega);simp only [Value.slice.injEq] at egh;obtain ⟨rfl,-,-⟩:=egh;go_wp2_with fail
 go_loopw [7,10] (fun o i wr=>∃ k:Nat,k<=x.hn/\i=.int .i64 k/\Hid (OwnI wr (w.heap.size+1) o (udT x.y Y k)/\(∀ b,o.ownBlock=some b->b=w.heap.size+1\/w4.heap.size<=b)/\Below w.heap.size w wr/\w4.heap.size<=wr.heap.size/\∀ b,b<w4.heap.size->b≠w.heap.size+1->wr.heap[b]? = w4.heap[b]?)) (fun _ i _=>x.hn - (intOf i).toNat)
 case atStart=>exact ⟨0,Nat.zero_le _,rfl,B4.2.1,fun b hb=>by cases hb;exact .inl rfl,B4.1,Nat.le_refl _,fun _ _ _=>rfl⟩
 case round=>
  obtain ⟨j,hj,rfl,HI⟩:=hrel;have lz:=LZ.out;have s4:=F4.2.1.size;have hNl:N<w4.heap.size:=zJ _ _ F4.2.2.1.1;have hNl2:W2.heap.size<=N:=F4.2.2.2;have kp:=HI.2.2.2.2;have b3:wr.cell? ⟨w.heap.size,3,none⟩=some (.slice x.ha x.hn x.hc):=(zH (kp w.heap.size (by omega) (by omega))).trans B4.2.2.2.2.2;by_cases hlt:j<x.hn
  ·have hlt':(j:Int)<(x.hn:Int):=by omega
   have hltp:j<x.pn:=by have:=HN.out;omega
   have hlY:j<Y.hn:=by have:=HN.out;omega
   have hlY':(j:Int)<(Y.hn:Int):=by omega
   have hb1:=(HN.2.2.1 j hltp).1;have hb2:=(HN.2.2.1 j hltp).2;obtain ⟨bh,oh,eh,ch0⟩:=HG.out.h.at hlt;have lbh:bh<w.heap.size:=zJ _ _ ch0;have ch:wr.cell? ⟨bh,oh+j,none⟩=some (.slice (x.hA j) (x.hL j) (x.hC j)):=(HI.2.2.1.cell (p:=⟨bh,oh+j,none⟩) lbh).trans ch0;rw [eh] at b3;clear eh ch0;have hcg:=F4.1.h.cellG (i:=j) hlY;obtain ⟨ga,gc,eg,-⟩:=qjm (F4.1.h.own j hlY);rw [eg] at hcg;have hghB:W2.heap.size<=gh:=hcg.2.1.1;have lgh:gh<w4.heap.size:=hcg.2.2.1;have cg:wr.cell? ⟨gh,j,none⟩=some (.slice ga (Y.hL j) gc):=(zH (kp gh lgh (by omega))).trans hcg.1;have n3:wr.cell? ⟨N,3,none⟩=some (.slice (some ⟨gh,0,none⟩) Y.hn hc):=(zH (kp N hNl (by omega))).trans F4.2.2.1.2.2.2;have lw:w.heap.size<wr.heap.size:=zJ _ _ b3;have lb:bh<wr.heap.size:=zJ _ _ ch;have lg:gh<wr.heap.size:=zJ _ _ cg;have ln:N<wr.heap.size:=zJ _ _ n3;obtain ⟨dd,hdd⟩:∃ dd:Int,(x.hL j:Int) - (Y.hL j:Int)=dd:=⟨_,rfl⟩
   have hd0:0<=dd/\dd<=200:=by omega
   have HF:Hid (udT x.y Y (j+1)=udT x.y Y j ++ [dd]):=by show _=_;rw [qug,<- hdd];rfl
   have HFl:Hid ((udT x.y Y j).length=j):=qkp _ _ _;clear hcg eg kp hb1 hb2;go_upto_region 8 with fail
   have q0:Below wr.heap.size wr wr.drew:=(Below.refl wr.heap.size wr).drew;refine qaj (fun w'=>w'.cell? ⟨w.heap.size,3,none⟩=some (.slice (some ⟨bh,oh,none⟩) x.hn x.hc)/\w'.cell? ⟨bh,oh+j,none⟩=some (.slice (x.hA j) (x.hL j) (x.hC j))/\w'.cell? ⟨N,3,none⟩=some (.slice (some ⟨gh,0,none⟩) Y.hn hc)/\w'.cell? ⟨gh,j,none⟩=some (.slice ga (Y.hL j) gc)) (fun _=>false) (by kernel_rfl) ?_
   have hS:∀ wx:World,(∀ b,b<wr.heap.size->u7.ownBlock≠some b->wx.heap[b]? = wr.heap[b]?)->wx.cell? ⟨w.heap.size,3,none⟩=some (.slice (some ⟨bh,oh,none⟩) x.hn x.hc)/\wx.cell? ⟨bh,oh+j,none⟩=some (.slice (x.hA j) (x.hL j) (x.hC j))/\wx.cell? ⟨N,3,none⟩=some (.slice (some ⟨gh,0,none⟩) Y.hn hc)/\wx.cell? ⟨gh,j,none⟩=some (.slice ga (Y.hL j) gc):=fun wx hx=>by
    have ho:∀ b,u7.ownBlock=some b->b=w.heap.size+1\/w4.heap.size<=b:=HI.2.1;refine ⟨(zH (a:=⟨w.heap.size,3,none⟩) (hx w.heap.size lw fun e=>?_)).trans b3,(zH (a:=⟨bh,oh+j,none⟩) (hx bh lb fun e=>?_)).trans ch,(zH (a:=⟨N,3,none⟩) (hx N ln fun e=>?_)).trans n3,(zH (a:=⟨gh,j,none⟩) (hx gh lg fun e=>?_)).trans cg⟩
    ·rcases ho _ e with h | h <;> omega
    ·rcases ho _ e with h | h <;> omega
    ·rcases ho _ e with h | h <;> omega
    ·rcases ho _ e with h | h <;> omega
   have hHeld:(fun w':World=>w'.cell? ⟨w.heap.size,3,none⟩=some (.slice (some ⟨bh,oh,none⟩) x.hn x.hc)/\w'.cell? ⟨bh,oh+j,none⟩=some (.slice (x.hA j) (x.hL j) (x.hC j))/\w'.cell? ⟨N,3,none⟩=some (.slice (some ⟨gh,0,none⟩) Y.hn hc)/\w'.cell? ⟨gh,j,none⟩=some (.slice ga (Y.hL j) gc)) wr.drew:=hS _ fun b hb _=>q0.block b hb;refine qax [0,1,2,3,4,5,6,7,8,9,10,11,12] ?_;iterate 13 (refine qa8 rfl hHeld ?_)
   refine qao ?_;refine qch 13 rfl hHeld ⟨.int .i64 dd,fun wq _=>?_,?_⟩
   ·go_simp
    try (rw [IntKind.wrap_i64];omega)
   (try simp only [Act.put,zD,zE,zF])
   refine qaa 14 rfl (by kernel_rfl) (fun K hK=>?_);go_simp;have qa:Below wr.heap.size wr (wr.drew.alloc (.cells #[.int .i64 dd] 3)):=q0.trans ((zQ _ _).mono q0.size);refine hK.out _ _ (fun _=>hS _ fun b hb _=>qa.block b hb) ?_;clear hK K hHeld qa
   (try simp only [Act.put,zD,zE,zF])
   refine qaa 15 rfl (by kernel_rfl) (fun K hK=>?_);refine qaz kndN wr.drew rfl rfl _ _ rfl (w.heap.size+1) u7 j _ rfl (by have h:=HI.1;unfold OwnI at h;rw [HFl.out] at h;exact qat h fun b hb=>q0.block b (h.lt b hb).2) #[.int .i64 dd] rfl rfl (by intro u hu;simp at hu;subst hu;rfl) (by omega) (by have:=HI.2.2.2.1;have:=q0.size;omega) ?_;intro v15 w15 o15 g15 p15 n15;have hx:∀ b,b<wr.heap.size->u7.ownBlock≠some b->w15.heap[b]? = wr.heap[b]?:=fun b hb hne=>(g15.block b (zL hb q0.size) (Ne.symm hne)).trans (q0.block b hb);have s15:wr.heap.size<=w15.heap.size:=zP q0.size g15.size
   have F15:Hid (OwnI w15 (w.heap.size+1) v15 (udT x.y Y (j+1))/\(∀ b,v15.ownBlock=some b->b=w.heap.size+1\/w4.heap.size<=b)/\Below w.heap.size w w15/\w4.heap.size<=w15.heap.size/\∀ b,b<w4.heap.size->b≠w.heap.size+1->w15.heap[b]? = w4.heap[b]?):=by
    have h4:=HI.2.2.2.1;refine ⟨?_,fun b hb=>?_,?_,by omega,fun b h1 h2=>?_⟩
    ·unfold OwnI
     rw [qkp,HF.out,List.map_append];exact o15
    ·rcases p15 b hb with h | h
     ·exact HI.2.1 b h
     ·exact .inr (zP h4 h)
    ·exact Below.grown (HI.2.2.1.trans (q0.mono HI.2.2.1.size)) g15 (zP HI.2.2.1.size q0.size) (fun b hb=>by rcases HI.2.1 b hb with h | h <;> omega)
    ·refine (hx b (by omega) fun e=>?_).trans (HI.2.2.2.2 b h1 h2)
     rcases HI.2.1 b e with h | h <;> omega
   have hHeld:(fun w':World=>w'.cell? ⟨w.heap.size,3,none⟩=some (.slice (some ⟨bh,oh,none⟩) x.hn x.hc)/\w'.cell? ⟨bh,oh+j,none⟩=some (.slice (x.hA j) (x.hL j) (x.hC j))/\w'.cell? ⟨N,3,none⟩=some (.slice (some ⟨gh,0,none⟩) Y.hn hc)/\w'.cell? ⟨gh,j,none⟩=some (.slice ga (Y.hL j) gc)) w15:=hS _ hx;refine hK.out _ _ (fun _=>hHeld) ?_;clear hK K o15 g15 p15 n15 hx s15 q0
   (try simp only [Act.put,zD,zE,zF])
   refine qbl 16 rfl hHeld ?_;refine qar (by kernel_rfl) ?_ _;clear hHeld hS b3 ch cg n3 lw lb lg ln hdd hd0 HF HFl;go_wp2;go_roundw
   case rel=>exact ⟨j+1,by omega,by go_num,F15.out⟩
   case measure=>simp [intOf];omega
  ·have hjn:j=x.hn:=by omega
   subst hjn;have O:Hid (OwnI wr (w.heap.size+1) u7 (udT x.y Y x.hn)/\Below w.heap.size w wr):=⟨HI.1,HI.2.2.1⟩
   clear HI kp;go_wp2;go_ret;rw [HV.out];exact ⟨_,rfl,O.1.mono (Nat.le_succ _),O.2⟩
