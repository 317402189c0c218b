import Derived.Test.YtpnlfccaggfgpaaGreatDoorEh0
import Derived.Test.YtpnlfccaggfgpaaGreatDoorEh29
import Derived.Test.YtpnlfccaggfgpaaGreatDoorEh30
import Derived.Test.YtpnlfccaggfgpaaGreatDoorEh24
import Derived.Test.YtpnlfccaggfgpaaGreatDoorEh31
import Derived.Deep.RegionLaw
import Derived.Laws.IdiomCopy
import Derived.Test.YtpnlfccaggfgpaaGreatDoorEh8
import Derived.Test.YtpnlfccaggfgpaaGreatDoorEh9
import Derived.Lib.QuietBelow
namespace Go.Proofs.YtpnlfccaggfgpaaGreatDoor
set_option maxRecDepth 100000
set_option maxHeartbeats 8000000
open Go.RowKit Go.Deep
theorem rdL_mem {c:Nat->Int} {i:Int}:∀ {n:Nat},i ∈ rdL c n ↔ ∃ j,j<n/\i=(j:Int)/\c j=0
 | 0=>by simp [rdL]
 | n+1=>by
  by_cases h:c n=0
  ·rw [rdL_hit h,List.mem_append,rdL_mem (n:=n)]
   constructor
   ·rintro (⟨j,h1,h2,h3⟩ | h1)
    ·exact ⟨j,by omega,h2,h3⟩
    ·simp only [List.mem_singleton] at h1
     exact ⟨n,by omega,h1,h⟩
   ·rintro ⟨j,h1,h2,h3⟩
    by_cases hj:j=n
    ·subst hj
     exact .inr (by simp [h2])
    ·exact .inl ⟨j,by omega,h2,h3⟩
  ·rw [rdL_not h,rdL_mem (n:=n)]
   constructor
   ·rintro ⟨j,h1,h2,h3⟩
    exact ⟨j,by omega,h2,h3⟩
   ·rintro ⟨j,h1,h2,h3⟩
    refine ⟨j,?_,h2,h3⟩
    have:j≠n:=fun e=>h (by rw [<- e];exact h3)
    omega
theorem cmS_any {y:Sy} {p:Nat} (h:¬ (y.nk p=3/\y.nq p=9)) (f g:Int):cmS y p f=cmS y p g:=by
 unfold cmS
 by_cases h3:y.nk p=3
 ·have h9:¬ y.nq p=9:=fun e=>h ⟨h3,e⟩
  rw [if_neg h9,if_neg h9]
 ·rw [if_neg h3,if_neg h3]
theorem cmS_bel {y:Sy} {p:Nat} (h3:y.nk p=3) (h9:y.nq p=9) {f:Int} (h:cmS y p f=0):belB f y.pn=true:=by
 unfold cmS at h
 rw [if_pos h3,if_pos h9] at h
 split at h
 ·cases h
 ·split at h
  ·cases h
  ·unfold tkS at h
   split at h
   ·assumption
   ·cases h
theorem rdQ_stC (y:Sy) (p:Int):(∀ f,f ∈ rdQ y p->stC y p f=0)/\(∀ f,stC y p f=0->rdQ y p≠[]):=by
 unfold rdQ stC
 by_cases ho:y.okB=true
 ·by_cases hb:belB p y.pn=true
  ·rw [if_pos ⟨ho,hb⟩]
   constructor
   ·intro f hf
    rw [if_pos ho,if_pos hb]
    unfold rdS at hf
    obtain ⟨j,-,rfl,h3⟩:=rdL_mem.1 hf
    exact h3
   ·intro f hf he
    rw [if_pos ho,if_pos hb] at hf
    have key:∃ j,j<chS y p.toNat/\cmS y p.toNat (j:Nat)=0:=by
     unfold chS
     have hp:0<y.pn:=by
      have:=of_decide_eq_true hb
      omega
     by_cases h:y.nk p.toNat=3/\y.nq p.toNat=9
     ·have h1:=of_decide_eq_true (cmS_bel h.1 h.2 hf)
      refine ⟨f.toNat,?_,?_⟩
      ·rw [if_pos h.2]
       omega
      ·rw [show ((f.toNat:Nat):Int)=f by omega]
       exact hf
     ·refine ⟨0,?_,(cmS_any h _ f).trans hf⟩
      split <;> omega
    obtain ⟨j,h1,h2⟩:=key
    have hm:(j:Int) ∈ rdS y p.toNat:=rdL_mem.2 ⟨j,h1,rfl,h2⟩
    rw [he] at hm
    cases hm
  ·rw [if_neg (fun h=>hb h.2)]
   refine ⟨fun f hf=>(by cases hf),fun f hf=>?_⟩
   rw [if_pos ho,if_neg hb] at hf
   cases hf
 ·rw [if_neg (fun h=>ho h.1)]
  refine ⟨fun f hf=>(by cases hf),fun f hf=>?_⟩
  rw [if_neg ho] at hf
  cases hf
theorem rdQ_mem4 {y:Sy} {p f:Int} (h:f ∈ rdQ y p):∃ j:Nat,j<4/\f=j:=by
 unfold rdQ at h
 split at h
 ·rename_i hb
  unfold rdS at h
  obtain ⟨j,h1,h2,-⟩:=rdL_mem.1 h
  have h4:=(Sy.ok_of hb.1).cn.1.2
  refine ⟨j,?_,h2⟩
  unfold chS at h1
  split at h1 <;> omega
 ·cases h
theorem hlt_rdQ {y:Sy} (h:hltS y=true) (p:Int):rdQ y p=[]:=by
 unfold rdQ
 split
 ·rename_i hb
  unfold hltS at h
  simp only [Bool.and_eq_true,List.all_eq_true,List.mem_range] at h
  have h1:=of_decide_eq_true hb.2
  have h2:=h.2 p.toNat (by omega)
  simpa using h2
 ·rfl
def DrwRd (w:World) (e:Ending) (w':World):Prop:=∃ (x:SysIn) (p:Int) (B T:Nat),e=.returned (.tuple #[x.v,.int .i64 p])/\x.y.Sm/\SysX w' B T x/\Below w.heap.size w w'
def DrwHd (w:World) (e:Ending) (w':World):Prop:=∃ (x:SysIn),e=.returned x.v/\x.y.Sm/\SysG w' x/\(∀ i,i<x.hn->x.hL i<=x.hC i)/\Below w.heap.size w w'
theorem DrawReady_any (W0 len cap:Nat) (a0:Option Addr) (w:World) (hB:BytesAt w W0 a0 len) (hW:W0<=w.heap.size) (ln:len<=1048576):
  Calls Tryz.prog 5 #[.slice a0 len cap] w (DrwRd w):=by
 have C0:Hid (BytesAt (w.alloc (zQ3)) W0 a0 len/\W0<=(w.alloc (zQ3)).heap.size/\Below w.heap.size w (w.alloc (zQ3))/\Bx (w.alloc (zQ3)) w.heap.size (.slice none 0 0) (.slice none 0 0) (.slice none 0 0) (.slice none 0 0)/\(w.alloc (zQ3)).heap.size=w.heap.size+1):=⟨hB.kept (fun k hk=>(zQ w (zQ3)).block k (by omega)),by simp;omega,zQ _ _,Bx.new w _ _ _ _ _,by simp⟩
 clear hB
 go_enter Tryz.func5,Tryz.ntmps5
 go_wp2_with fail
 generalize w.alloc (zQ3)=W2 at *
 refine (l1New_any W0 len cap a0 W2 C0.out.1 C0.out.2.1 ln).mono ?_
 rintro e w1 ⟨rfl,hc1,hg1⟩
 have C1:Hid (Cur w1 W0 W2.heap.size a0 len cap/\Below w.heap.size w w1/\Bx w1 w.heap.size (.slice none 0 0) (.slice none 0 0) (.slice none 0 0) (.slice none 0 0)/\W2.heap.size=w.heap.size+1/\W2.heap.size<w1.heap.size):=⟨hc1,C0.out.2.2.1.trans ((below_of_grown hg1).mono C0.out.2.2.1.size),C0.out.2.2.2.1.below (below_of_grown hg1),C0.out.2.2.2.2,hc1.lt⟩
 clear hc1 hg1 C0
 generalize W2.heap.size=c at *
 go_wp2_with fail
 refine (l6Draw_any W0 c len cap a0 w1 C1.out.1).mono ?_
 rintro e w2 ⟨x,B,T,rfl,hm,hX,hc2,hg2,hcB,hT⟩
 have DA:Hid (DW w (w2.alloc (oQ4 x.pa x.pn x.pc x.sa x.sn x.sc x.wa x.wn x.wc x.ha x.hn x.hc)) W0 c a0 len cap w.heap.size w2.heap.size B T x):=by
  have hs:=hg2.size
  have h1:=C1.out.2.2.2.1
  have h2:=C1.out.2.2.2.2
  refine ⟨hc2.alloc _,(Below.grown C1.out.2.1 hg2 C1.out.2.1.size (fun k hk=>by cases hk;omega)).trans ((zQ _ _).mono (by have:=C1.out.2.1.size;omega)),hX.keep (by simp) fun b _ _ hl=>(zQ w2 _).block b hl,(C1.out.2.2.1.grown hg2 (by simp;omega)).below (zQ _ _),Bx.new _ _ _ _ _ _,Nat.le_refl _,by omega,hcB,by omega,hT⟩
 have HM:Hid x.y.Sm:=hm
 clear hX hc2 hg2 hcB hT C1 hm
 go_wp2_with fail
 generalize w2.alloc (oQ4 x.pa x.pn x.pc x.sa x.sn x.sc x.wa x.wn x.wc x.ha x.hn x.hc)=wA at *
 generalize w2.heap.size=M at *
 obtain ⟨⟨x0,x1,x2,x3⟩,xf⟩:=DA.out.b2
 obtain ⟨⟨z0,z1,z2,z3⟩,-⟩:=DA.out.b6
 go_region_law (first
  | (refine step_call rfl 16 _ _ rfl #[.pointer (some ⟨c,0,none⟩),.int .i64 5] (by simp [Act.eval,Act.put]) (yA Tryz.func16 (by kernel_rfl) rfl) (zY W0 c len cap a0 5 wA.drew DA.out.cu.drew (by omega) (by omega)) ?_;rintro e w5 ⟨k3,rfl,⟨k30,k31⟩,hc5,hg5⟩;refine ⟨_,rfl,?_⟩;have D5:Hid (DW w w5 W0 c a0 len cap w.heap.size M B T x):=DA.out.draw hc5 ⟨hg5.os,hg5.tape,hg5.output,hg5.size,hg5.block⟩;obtain ⟨⟨p0,p1,p2,p3⟩,pf⟩:=D5.out.b2;obtain ⟨⟨s0,s1,s2,s3⟩,-⟩:=D5.out.b6;clear hc5 hg5)
  | (refine step_call rfl 16 _ _ rfl #[.pointer (some ⟨c,0,none⟩),.int .i64 20] (by simp [Act.eval]) (yA Tryz.func16 (by kernel_rfl) rfl) (zY W0 c len cap a0 20 w5 D5.out.cu (by omega) (by omega)) ?_;rintro e w6 ⟨k4,rfl,⟨k40,k41⟩,hc6,hg6⟩;refine ⟨_,rfl,?_⟩;have D6:Hid (DW w w6 W0 c a0 len cap w.heap.size M B T x):=D5.out.draw hc6 hg6;obtain ⟨⟨m0,m1,m2,m3⟩,mf⟩:=D6.out.b2;obtain ⟨⟨o0,o1,o2,o3⟩,-⟩:=D6.out.b6;clear hc6 hg6))
 all_goals
  obtain ⟨q4, hq4, q40, q41⟩ : ∃ q4 : Int, Int.tdiv k4 19 = q4 ∧ 0 ≤ q4 ∧ q4 ≤ 1 := ⟨_, rfl, by
   rw [Int.tdiv_eq_ediv_of_nonneg k40];omega,by
   rw [Int.tdiv_eq_ediv_of_nonneg k40];omega⟩
  have e1:IntKind.i64.wrap q4=q4:=by
   have:=q40
   have:=q41
   rw [IntKind.wrap_i64]
   omega
  have e2:IntKind.i64.wrap (k3 - q4)=k3 - q4:=by
   have:=q40
   have:=q41
   rw [IntKind.wrap_i64]
   omega
  rw [hq4,e1,e2]
  clear e1 e2 hq4 x0 x1 x2 x3 xf z0 z1 z2 z3 p0 p1 p2 p3 pf s0 s1 s2 s3 o0 o1 o2 o3
  go_wp2
  refine bodyPost_ret (v:=.tuple #[x.v,.int .i64 (k3 - q4)]) (by simp [results,Tryz.results5,go_sem,m0,m1,m2,m3]) rfl ⟨x,k3 - q4,B,T,rfl,HM.out,?_,?_⟩
  ·exact D6.out.set4 _ _ _ _
  ·exact (((D6.out.be.setCell (Nat.le_refl _) _).setCell (Nat.le_refl _) _).setCell (Nat.le_refl _) _).setCell (Nat.le_refl _) _
theorem DrawHalted_any (W0 len cap:Nat) (a0:Option Addr) (w:World) (hB:BytesAt w W0 a0 len) (hW:W0<=w.heap.size) (ln:len<=1048576):
  Calls Tryz.prog 10 #[.slice a0 len cap] w (DrwHd w):=by
 have C0:Hid (BytesAt (w.alloc (zQ3)) W0 a0 len/\W0<=(w.alloc (zQ3)).heap.size/\Below w.heap.size w (w.alloc (zQ3))/\Bx (w.alloc (zQ3)) w.heap.size (.slice none 0 0) (.slice none 0 0) (.slice none 0 0) (.slice none 0 0)/\(w.alloc (zQ3)).heap.size=w.heap.size+1):=⟨hB.kept (fun k hk=>(zQ w (zQ3)).block k (by omega)),by simp;omega,zQ _ _,Bx.new w _ _ _ _ _,by simp⟩
 clear hB
 go_enter Tryz.func10,Tryz.ntmps10
 go_wp2_with fail
 generalize w.alloc (zQ3)=W2 at *
 refine (l1New_any W0 len cap a0 W2 C0.out.1 C0.out.2.1 ln).mono ?_
 rintro e w1 ⟨rfl,hc1,hg1⟩
 have C1:Hid (Cur w1 W0 W2.heap.size a0 len cap/\Below w.heap.size w w1/\Bx w1 w.heap.size (.slice none 0 0) (.slice none 0 0) (.slice none 0 0) (.slice none 0 0)/\W2.heap.size=w.heap.size+1/\W2.heap.size<w1.heap.size):=⟨hc1,C0.out.2.2.1.trans ((below_of_grown hg1).mono C0.out.2.2.1.size),C0.out.2.2.2.1.below (below_of_grown hg1),C0.out.2.2.2.2,hc1.lt⟩
 clear hc1 hg1 C0
 generalize W2.heap.size=c at *
 go_wp2_with fail
 refine (l6Draw_any W0 c len cap a0 w1 C1.out.1).mono ?_
 rintro e w2 ⟨x,B,T,rfl,hm,hX,hc2,hg2,hcB,hT⟩
 have DA:Hid (DW w (w2.alloc (oQ4 x.pa x.pn x.pc x.sa x.sn x.sc x.wa x.wn x.wc x.ha x.hn x.hc)) W0 c a0 len cap w.heap.size w2.heap.size B T x):=by
  have hs:=hg2.size
  have h1:=C1.out.2.2.2.1
  have h2:=C1.out.2.2.2.2
  refine ⟨hc2.alloc _,(Below.grown C1.out.2.1 hg2 C1.out.2.1.size (fun k hk=>by cases hk;omega)).trans ((zQ _ _).mono (by have:=C1.out.2.1.size;omega)),hX.keep (by simp) fun b _ _ hl=>(zQ w2 _).block b hl,(C1.out.2.2.1.grown hg2 (by simp;omega)).below (zQ _ _),Bx.new _ _ _ _ _ _,Nat.le_refl _,by omega,hcB,by omega,hT⟩
 have HM:Hid x.y.Sm:=hm
 clear hX hc2 hg2 hcB hT C1 hm
 go_wp2_with fail
 generalize w2.alloc (oQ4 x.pa x.pn x.pc x.sa x.sn x.sc x.wa x.wn x.wc x.ha x.hn x.hc)=wA at *
 generalize w2.heap.size=M at *
 refine (l1Once_any W0 c len cap a0 2 wA DA.out.cu (by omega) (by omega)).mono ?_
 rintro e w3 ⟨tt,rfl,hc3,hg3⟩
 have D3:Hid (DW w w3 W0 c a0 len cap w.heap.size M B T x):=DA.out.draw hc3 hg3
 clear hc3 hg3 DA
 rcases tt with _ | _
 ·obtain ⟨⟨z0,z1,z2,z3⟩,-⟩:=D3.out.b6
  obtain ⟨⟨x0,x1,x2,x3⟩,xf⟩:=D3.out.b2
  have HE:Hid (SysG ((((w3.setCell ⟨w.heap.size,0,none⟩ (.slice x.pa x.pn x.pc)).setCell ⟨w.heap.size,1,none⟩ (.slice x.sa x.sn x.sc)).setCell ⟨w.heap.size,2,none⟩ (.slice x.wa x.wn x.wc)).setCell ⟨w.heap.size,3,none⟩ (.slice x.ha x.hn x.hc)) x/\(∀ i,i<x.hn->x.hL i<=x.hC i)/\Below w.heap.size w ((((w3.setCell ⟨w.heap.size,0,none⟩ (.slice x.pa x.pn x.pc)).setCell ⟨w.heap.size,1,none⟩ (.slice x.sa x.sn x.sc)).setCell ⟨w.heap.size,2,none⟩ (.slice x.wa x.wn x.wc)).setCell ⟨w.heap.size,3,none⟩ (.slice x.ha x.hn x.hc))):=⟨(D3.out.set4 _ _ _ _).self,D3.out.sx.cap,(((D3.out.be.setCell (Nat.le_refl _) _).setCell (Nat.le_refl _) _).setCell (Nat.le_refl _) _).setCell (Nat.le_refl _) _⟩
  clear D3
  go_wp2
  exact bodyPost_ret (v:=x.v) (by simp [results,Tryz.results10,go_sem,x0,x1,x2,x3,SysIn.v]) rfl ⟨x,rfl,HM.out,HE.out.1,HE.out.2.1,HE.out.2.2⟩
 obtain ⟨z0,z1,z2,z3⟩:=D3.out.b6.bx
 go_wp2_with fail
 clear z0 z1 z2 z3
 refine (specSysOk_any x w3 D3.out.sx.self HM.out.inLen D3.out.sx.cap).mono ?_
 rintro e w4 ⟨rfl,b4⟩
 have D4:Hid (DW w w4 W0 c a0 len cap w.heap.size M B T x):=D3.out.draw (D3.out.cu.kept (zZ b4) (by simp) (fun k hk=>by cases hk)) ⟨b4.os,b4.tape,b4.output,b4.size,fun k hk _=>b4.block k hk⟩
 clear b4 D3
 by_cases ho:x.y.okB=true
 case neg=>
  have ho':x.y.okB=false:=by simpa using ho
  rw [ho']
  clear ho ho'
  obtain ⟨⟨z0,z1,z2,z3⟩,-⟩:=D4.out.b6
  obtain ⟨⟨x0,x1,x2,x3⟩,xf⟩:=D4.out.b2
  have HE:Hid (SysG ((((w4.setCell ⟨w.heap.size,0,none⟩ (.slice x.pa x.pn x.pc)).setCell ⟨w.heap.size,1,none⟩ (.slice x.sa x.sn x.sc)).setCell ⟨w.heap.size,2,none⟩ (.slice x.wa x.wn x.wc)).setCell ⟨w.heap.size,3,none⟩ (.slice x.ha x.hn x.hc)) x/\(∀ i,i<x.hn->x.hL i<=x.hC i)/\Below w.heap.size w ((((w4.setCell ⟨w.heap.size,0,none⟩ (.slice x.pa x.pn x.pc)).setCell ⟨w.heap.size,1,none⟩ (.slice x.sa x.sn x.sc)).setCell ⟨w.heap.size,2,none⟩ (.slice x.wa x.wn x.wc)).setCell ⟨w.heap.size,3,none⟩ (.slice x.ha x.hn x.hc))):=⟨(D4.out.set4 _ _ _ _).self,D4.out.sx.cap,(((D4.out.be.setCell (Nat.le_refl _) _).setCell (Nat.le_refl _) _).setCell (Nat.le_refl _) _).setCell (Nat.le_refl _) _⟩
  clear D4
  go_wp2
  exact bodyPost_ret (v:=x.v) (by simp [results,Tryz.results10,go_sem,x0,x1,x2,x3,SysIn.v]) rfl ⟨x,rfl,HM.out,HE.out.1,HE.out.2.1,HE.out.2.2⟩
 rw [ho]
 have HOk:Hid x.y.Ok:=Sy.ok_of ho
 clear ho
 obtain ⟨z0,z1,z2,z3⟩:=D4.out.b6.bx
 go_wp2_with fail
 clear z0 z1 z2 z3
 refine (specFair_ok x w4 D4.out.sx.self HM.out.inLen D4.out.sx.cap HOk.out).mono ?_
 rintro e w5 ⟨v5,m5,Y,rfl,hY,o5,b5⟩
 obtain ⟨x',rfl,ey,hX5⟩:=o5.sysT.x
 have D5:Hid (DW w w5 W0 c a0 len cap w.heap.size M B T x/\M<w4.heap.size):=⟨D4.out.draw (D4.out.cu.kept (zZ b5) (by simp) (fun k hk=>by cases hk)) ⟨b5.os,b5.tape,b5.output,b5.size,fun k hk _=>b5.block k hk⟩,D4.out.b6.lt⟩
 have HM6:Hid x'.y.Sm:=by
  show x'.y.Sm
  rw [ey]
  exact hY.sm
 have H6:Hid (SysX ((((w5.setCell ⟨M,0,none⟩ (.slice x'.pa x'.pn x'.pc)).setCell ⟨M,1,none⟩ (.slice x'.sa x'.sn x'.sc)).setCell ⟨M,2,none⟩ (.slice x'.wa x'.wn x'.wc)).setCell ⟨M,3,none⟩ (.slice x'.ha x'.hn x'.hc)) w4.heap.size w5.heap.size x'/\Bx ((((w5.setCell ⟨M,0,none⟩ (.slice x'.pa x'.pn x'.pc)).setCell ⟨M,1,none⟩ (.slice x'.sa x'.sn x'.sc)).setCell ⟨M,2,none⟩ (.slice x'.wa x'.wn x'.wc)).setCell ⟨M,3,none⟩ (.slice x'.ha x'.hn x'.hc)) M (.slice x'.pa x'.pn x'.pc) (.slice x'.sa x'.sn x'.sc) (.slice x'.wa x'.wn x'.wc) (.slice x'.ha x'.hn x'.hc)/\Bx ((((w5.setCell ⟨M,0,none⟩ (.slice x'.pa x'.pn x'.pc)).setCell ⟨M,1,none⟩ (.slice x'.sa x'.sn x'.sc)).setCell ⟨M,2,none⟩ (.slice x'.wa x'.wn x'.wc)).setCell ⟨M,3,none⟩ (.slice x'.ha x'.hn x'.hc)) w.heap.size (.slice none 0 0) (.slice none 0 0) (.slice none 0 0) (.slice none 0 0)/\Below w.heap.size w ((((w5.setCell ⟨M,0,none⟩ (.slice x'.pa x'.pn x'.pc)).setCell ⟨M,1,none⟩ (.slice x'.sa x'.sn x'.sc)).setCell ⟨M,2,none⟩ (.slice x'.wa x'.wn x'.wc)).setCell ⟨M,3,none⟩ (.slice x'.ha x'.hn x'.hc))/\w.heap.size<M/\M<w4.heap.size):=by
  have hz:=D5.out.1.sz
  have hM:=D5.out.2
  have hl:w.heap.size<=M:=by omega
  have kk:∀ b,b≠M->((((w5.setCell ⟨M,0,none⟩ (.slice x'.pa x'.pn x'.pc)).setCell ⟨M,1,none⟩ (.slice x'.sa x'.sn x'.sc)).setCell ⟨M,2,none⟩ (.slice x'.wa x'.wn x'.wc)).setCell ⟨M,3,none⟩ (.slice x'.ha x'.hn x'.hc)).heap[b]? = w5.heap[b]?:=fun b hb=>by rw [zO _ _ _ _ hb,zO _ _ _ _ hb,zO _ _ _ _ hb,zO _ _ _ _ hb]
  have k3:SysX ((((w5.setCell ⟨M,0,none⟩ (.slice x'.pa x'.pn x'.pc)).setCell ⟨M,1,none⟩ (.slice x'.sa x'.sn x'.sc)).setCell ⟨M,2,none⟩ (.slice x'.wa x'.wn x'.wc)).setCell ⟨M,3,none⟩ (.slice x'.ha x'.hn x'.hc)) w4.heap.size w5.heap.size x':=hX5.keep (by simp) fun b h1 _ _=>kk b (by omega)
  have k6:=D5.out.1.b6.put (.slice x'.pa x'.pn x'.pc) (.slice x'.sa x'.sn x'.sc) (.slice x'.wa x'.wn x'.wc) (.slice x'.ha x'.hn x'.hc)
  have k2:=D5.out.1.b2.blk (kk w.heap.size (by omega))
  have k4:Below w.heap.size w ((((w5.setCell ⟨M,0,none⟩ (.slice x'.pa x'.pn x'.pc)).setCell ⟨M,1,none⟩ (.slice x'.sa x'.sn x'.sc)).setCell ⟨M,2,none⟩ (.slice x'.wa x'.wn x'.wc)).setCell ⟨M,3,none⟩ (.slice x'.ha x'.hn x'.hc)):=(((D5.out.1.be.setCell hl _).setCell hl _).setCell hl _).setCell hl _
  exact ⟨k3,k6,k2,k4,by omega,hM⟩
 obtain ⟨⟨m0,m1,m2,m3⟩,mf⟩:=D5.out.1.b6
 have g0:=mf 0
 have g1:=mf 1
 have g2:=mf 2
 have g3:=mf 3
 clear hY o5 b5 ey hX5 D4 HM HOk
 go_upto_region 5 with fail
 generalize ((((w5.setCell ⟨M,0,none⟩ (.slice x'.pa x'.pn x'.pc)).setCell ⟨M,1,none⟩ (.slice x'.sa x'.sn x'.sc)).setCell ⟨M,2,none⟩ (.slice x'.wa x'.wn x'.wc)).setCell ⟨M,3,none⟩ (.slice x'.ha x'.hn x'.hc))=w6 at *
 clear m0 m1 m2 m3 mf g0 g1 g2 g3 D5
 obtain ⟨⟨z0,z1,z2,z3⟩,-⟩:=H6.out.2.1
 obtain ⟨⟨x0,x1,x2,x3⟩,xf⟩:=H6.out.2.2.1
 have HE:Hid (SysG ((((w6.setCell ⟨w.heap.size,0,none⟩ (.slice x'.pa x'.pn x'.pc)).setCell ⟨w.heap.size,1,none⟩ (.slice x'.sa x'.sn x'.sc)).setCell ⟨w.heap.size,2,none⟩ (.slice x'.wa x'.wn x'.wc)).setCell ⟨w.heap.size,3,none⟩ (.slice x'.ha x'.hn x'.hc)) x'/\(∀ i,i<x'.hn->x'.hL i<=x'.hC i)/\Below w.heap.size w ((((w6.setCell ⟨w.heap.size,0,none⟩ (.slice x'.pa x'.pn x'.pc)).setCell ⟨w.heap.size,1,none⟩ (.slice x'.sa x'.sn x'.sc)).setCell ⟨w.heap.size,2,none⟩ (.slice x'.wa x'.wn x'.wc)).setCell ⟨w.heap.size,3,none⟩ (.slice x'.ha x'.hn x'.hc))):=by
  have hz:=H6.out.2.2.2.2
  refine ⟨(H6.out.1.keep (by simp) fun b h1 _ _=>?_).self,H6.out.1.cap,(((H6.out.2.2.2.1.setCell (Nat.le_refl _) _).setCell (Nat.le_refl _) _).setCell (Nat.le_refl _) _).setCell (Nat.le_refl _) _⟩
  have hb:b≠w.heap.size:=by omega
  rw [zO _ _ _ _ hb,zO _ _ _ _ hb,zO _ _ _ _ hb,zO _ _ _ _ hb]
 clear H6
 go_wp2
 exact bodyPost_ret (v:=x'.v) (by simp [results,Tryz.results10,go_sem,x0,x1,x2,x3,SysIn.v]) rfl ⟨x',rfl,HM6.out,HE.out.1,HE.out.2.1,HE.out.2.2⟩
theorem EvAt.put {w:World} {g n:Nat} {E:Nat->E3} (h:EvAt w g 0 n E) (t:Nat) (z:Int):∃ E',EvAt (w.setCell ⟨g,t,none⟩ (.int .i64 z)) g 0 n E':=by
 have key:∀ (o:Nat) (x:Int),w.cell? ⟨g,o,none⟩=some (.int .i64 x)->(w.setCell ⟨g,t,none⟩ (.int .i64 z)).cell? ⟨g,o,none⟩=some (.int .i64 (if o=t then z else x)):=by
  intro o x hx
  by_cases e:o=t
  ·subst e
   rw [if_pos rfl]
   exact World.cell?_setCell_same _ _ _ hx
  ·rw [if_neg e]
   exact (World.cell?_setCell_other _ _ _ _ fun e'=>e (by injection e' with _ e2;exact e2.symm)).trans hx
 refine ⟨fun i=>⟨if 0+i*3=t then z else (E i).k,if 0+i*3+1=t then z else (E i).q,if 0+i*3+2=t then z else (E i).v⟩,fun i hi=>?_⟩
 obtain ⟨h0,h1,h2⟩:=h i hi
 exact ⟨key _ _ h0,key _ _ h1,key _ _ h2⟩
def flatE (E:Nat->E3):Nat->List Value
 | 0=>[]
 | n+1=>flatE E n ++ [.int .i64 (E n).k,.int .i64 (E n).q,.int .i64 (E n).v]
theorem flatE_length (E:Nat->E3):∀ n,(flatE E n).length=n*3
 | 0=>rfl
 | n+1=>by
  rw [flatE,List.length_append,flatE_length E n]
  simp
  omega
theorem flatE_at (E:Nat->E3):∀ n i,i<n->(flatE E n)[i*3]? = some (.int .i64 (E i).k)/\(flatE E n)[i*3+1]? = some (.int .i64 (E i).q)/\(flatE E n)[i*3+2]? = some (.int .i64 (E i).v)
 | 0,i,hi=>by omega
 | n+1,i,hi=>by
  have hl:=flatE_length E n
  by_cases e:i=n
  ·subst e
   rw [flatE,List.getElem?_append_right (by omega),List.getElem?_append_right (by omega),List.getElem?_append_right (by omega),hl]
   simp
  ·obtain ⟨h0,h1,h2⟩:=flatE_at E n i (by omega)
   rw [flatE,List.getElem?_append_left (by omega),List.getElem?_append_left (by omega),List.getElem?_append_left (by omega)]
   exact ⟨h0,h1,h2⟩
theorem EvAt.cut {w:World} {g k j:Nat} {E:Nat->E3} (h:EvAt w g 0 k E) (hj:j<k):EvAt (w.setCells g (j*3) (flatE (fun i=>E (j+1+i)) (k - (j+1)))) g 0 (j+(k - (j+1))) (fun i=>if i<j then E i else E (i+1)):=by
 intro i hi
 have hl:=flatE_length (fun i=>E (j+1+i)) (k - (j+1))
 by_cases e:i<j
 ·have hout:∀ t,t<j*3->(w.setCells g (j*3) (flatE (fun i=>E (j+1+i)) (k - (j+1)))).cell? ⟨g,t,none⟩=w.cell? ⟨g,t,none⟩:=fun t ht=>World.cell?_setCells_out g _ _ _ _ fun _ _=>.inl ht
  obtain ⟨h0,h1,h2⟩:=h i (by omega)
  simp only [if_pos e]
  exact ⟨(hout _ (by omega)).trans h0,(hout _ (by omega)).trans h1,(hout _ (by omega)).trans h2⟩
 ·simp only [if_neg e]
  have hall:∀ t,t<(flatE (fun i=>E (j+1+i)) (k - (j+1))).length->(w.cell? ⟨g,j*3+t,none⟩).isSome=true:=by
   intro t ht
   rw [hl] at ht
   obtain ⟨h0,h1,h2⟩:=h (j+t / 3) (by omega)
   have he:t=t / 3*3\/t=t / 3*3+1\/t=t / 3*3+2:=by omega
   rcases he with e | e | e
   ·rw [show j*3+t=0+(j+t / 3)*3 from by omega,h0];rfl
   ·rw [show j*3+t=0+(j+t / 3)*3+1 from by omega,h1];rfl
   ·rw [show j*3+t=0+(j+t / 3)*3+2 from by omega,h2];rfl
  have hin:=fun t ht=>World.cell?_setCells_in g (flatE (fun i=>E (j+1+i)) (k - (j+1))) (j*3) w hall t ht
  obtain ⟨f0,f1,f2⟩:=flatE_at (fun i=>E (j+1+i)) (k - (j+1)) (i - j) (by omega)
  have hE:E (j+1+(i - j))=E (i+1):=by rw [show j+1+(i - j)=i+1 from by omega]
  rw [hE] at f0 f1 f2
  refine ⟨?_,?_,?_⟩
  ·rw [show 0+i*3=j*3+(i - j)*3 from by omega,hin _ (by omega),<- f0,List.getElem?_eq_getElem (by omega)]
  ·rw [show 0+i*3+1=j*3+((i - j)*3+1) from by omega,hin _ (by omega),<- f1,List.getElem?_eq_getElem (by omega)]
  ·rw [show 0+i*3+2=j*3+((i - j)*3+2) from by omega,hin _ (by omega),<- f2,List.getElem?_eq_getElem (by omega)]
open Go.ChangeShapes Go.WideShapes Go.ChangeAt Go.Sort
theorem sameInts_same (a0 a1:Option Addr) (c0 c1:Nat) (xs:List Int) (w:World) (hlen:xs.length<=1048576) (h0:Sl w a0 xs) (h1:Sl w a1 xs):
  Calls Tryz.prog 7 #[.slice a0 xs.length c0,.slice a1 xs.length c1] w fun e w'=>e=.returned (.bool true)/\Below w.heap.size w w':=by
 have hl':(xs.length:Int)<=1048576:=by omega
 have H0:Hid (Sl w a0 xs):=h0
 have H1:Hid (Sl w a1 xs):=h1
 clear h0 h1
 go_enter Tryz.func7,Tryz.ntmps7
 go_wp2_with fail
 go_loopw [5] (fun i wr=>∃ k:Nat,k<=xs.length/\i=.int .i64 k/\Below w.heap.size w wr) (fun i _=>xs.length - (intOf i).toNat)
 case atStart=>exact ⟨0,Nat.zero_le _,rfl,Below.refl _ _⟩
 case round=>
  obtain ⟨k,hk,rfl,hbw⟩:=hrel
  by_cases hlt:k<xs.length
  ·obtain ⟨b,off,rfl,hbl,ck⟩:=(H0.out.below hbw).at hlt
   obtain ⟨b',off',rfl,hbl',ck'⟩:=(H1.out.below hbw).at hlt
   have hlt':(k:Int)<(xs.length:Int):=by omega
   go_wp2_with fail
   go_quiet (fail)
   go_wp2
   go_roundw
   case rel=>exact ⟨k+1,by omega,by go_num,yC hbw _⟩
   case measure=>simp [intOf];omega
  ·go_wp2
   go_ret
   exact ⟨rfl,hbw⟩
theorem big_any (a0:Option Addr) (len cap:Nat) (w:World):
  Calls Tryz.prog 4 #[.slice a0 len cap] w fun e w'=>e=.returned (.bool (decide ((1048576:Int)<len)))/\w'=w:=by
 go_enter Tryz.func4,Tryz.ntmps4
 go_wp2
 go_ret
 exact ⟨rfl,rfl⟩
theorem open_bytes {H:Type} {enc:TypeId × Value->H} {w:World} {a0:Option Addr} {len cap:Nat} {d:DataW H} {p:List MemPlace}
  (h:DataW.Trod enc Tryz.prog w 0 (fun _=>true) true 22 (.slice a0 len cap) d p):len<=maxLen/\BytesAt w w.heap.size a0 len:=by
 obtain ⟨fuel,hf⟩:=h
 rcases open_ints Tryz.underlying22 Tryz.underlying5 (by kernel_rfl) hf with ⟨hcs,_⟩ | ⟨x,l,c,zs,hcs,_,hl,hm,hz,_,hcell,hwz⟩
 ·simp [Value.cells] at hcs
  obtain ⟨_,rfl,_⟩:=hcs
  exact ⟨Nat.zero_le _,.inl rfl⟩
 ·simp [Value.cells] at hcs
  obtain ⟨rfl,rfl,rfl⟩:=hcs
  refine ⟨zP hl hm,?_⟩
  by_cases h0:len=0
  ·exact .inl h0
  right
  have hz':zs.length=cap:=by simpa using hz
  obtain ⟨b,off,rfl,hc⟩:=ints_at hcell (by omega)
  refine ⟨b,off,rfl,cell_lt (hc 0 (by omega)),fun j hj=>⟨zs.getD j 0,hc j (by omega),?_⟩⟩
  have hmem:zs.getD j 0 ∈ zs:=by
   rw [List.getD_eq_getElem?_getD,List.getElem?_eq_getElem (by omega)]
   exact List.getElem_mem _
  exact bounds_u8 (hwz _ hmem)
theorem within_any (a:Option Addr) (cap:Nat) (xs:List Int) (z:Int) (w:World) (hl:xs.length<=1048576) (h:Sl w a xs):
  Calls Tryz.prog 13 #[.slice a xs.length cap,.int .i64 z] w fun e w'=>e=.returned (.bool (decide (z ∈ xs)))/\Below w.heap.size w w':=by
 have hl':(xs.length:Int)<=1048576:=by omega
 have HS:Hid (Sl w a xs):=h
 clear h
 go_enter Tryz.func13,Tryz.ntmps13
 go_wp2_with fail
 go_loopw [5] (fun i wr=>∃ k:Nat,k<=xs.length/\i=.int .i64 (k:Nat)/\Hid (wr=w/\∀ j,j<k->zi xs j≠z)) (fun i _=>xs.length - (intOf i).toNat)
 case atStart=>exact ⟨0,Nat.zero_le _,rfl,rfl,fun j hj=>absurd hj (Nat.not_lt_zero _)⟩
 case round=>
  rename World=>wr
  obtain ⟨k,hk,rfl,HK⟩:=hrel
  obtain ⟨hw,hn⟩:=HK.out
  subst hw
  by_cases hlt:k<xs.length
  ·have hlt':(k:Int)<(xs.length:Int):=by omega
   obtain ⟨b,off,ea,-,hc⟩:=HS.out.at hlt
   subst ea
   by_cases he:zi xs k=z
   ·have hb:(zi xs k == z)=true:=by simpa using he
    have hm:decide (z ∈ xs)=true:=by
     refine decide_eq_true ?_
     rw [<- he]
     unfold zi
     rw [List.getD_eq_getElem?_getD,List.getElem?_eq_getElem hlt]
     exact List.getElem_mem hlt
    have HM:Hid (decide (z ∈ xs)=true):=hm
    clear hm he hn HK
    go_wp2
    go_ret
    exact ⟨by rw [HM.out];rfl,Below.refl _ _⟩
   ·have hb:(zi xs k == z)=false:=by simpa using he
    have HN:Hid (∀ j,j<k+1->zi xs j≠z):=fun j hj=>by
     by_cases e:j=k
     ·rw [e]
      exact he
     ·exact hn j (by omega)
    clear he hn HK
    go_wp2
    go_roundw
    case rel=>exact ⟨k+1,by omega,by go_num,trivial,HN.out⟩
    case measure=>simp [intOf];omega
  ·have hkl:k=xs.length:=by omega
   have hm:decide (z ∈ xs)=false:=by
    refine decide_eq_false fun hin=>?_
    obtain ⟨j,hj,e⟩:=List.getElem_of_mem hin
    refine hn j (by omega) ?_
    unfold zi
    rw [List.getD_eq_getElem?_getD,List.getElem?_eq_getElem hj]
    exact e
   have HM:Hid (decide (z ∈ xs)=false):=hm
   clear hm hn HK hkl
   go_wp2
   go_ret
   exact ⟨by rw [HM.out];rfl,Below.refl _ _⟩
