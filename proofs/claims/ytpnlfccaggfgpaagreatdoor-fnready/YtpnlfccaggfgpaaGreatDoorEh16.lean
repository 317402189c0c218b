import Derived.Test.YtpnlfccaggfgpaaGreatDoorEh0
import Derived.Test.YtpnlfccaggfgpaaGreatDoorEh15
import Derived.Test.YtpnlfccaggfgpaaGreatDoorEh7
import Derived.Maps.Range
import Derived.Deep.Onto
import Derived.Deep.Slices
import Derived.Deep.RegionWith
namespace Go.Proofs.YtpnlfccaggfgpaaGreatDoor
set_option maxRecDepth 100000
set_option maxHeartbeats 4000000
open Go.RowKit
def isI:Value->Bool
 | .int .i64 _=>true
 | _=>false
theorem isI_int {v:Value} (h:isI v=true):∃ x:Int,v=.int .i64 x:=by
 unfold isI at h
 split at h
 ·exact ⟨_,rfl⟩
 ·cases h
def Lst (w:World) (B:Nat) (v:Value) (n:Nat):Prop:=∃ xs,w.ownsRow B 84 5 v n xs/\xs.all isI=true
theorem Lst.kept {w w':World} {B n:Nat} {v:Value} {row:Option Nat} (h:Lst w B v n) (hg:w.grownBy w' row) (hr:∀ k,row=some k->k<B):Lst w' B v n:=by
 obtain ⟨xs,ho,hx⟩:=h
 refine ⟨xs,ho.kept hg ?_,hx⟩
 cases hv:v.ownBlock with
 | none=>exact .inl rfl
 | some k=>
  right
  intro e
  have h1:=(ho.lt k hv).1
  have h2:=hr k e.symm
  omega
theorem Lst.mono {w:World} {B B' n:Nat} {v:Value} (h:Lst w B v n) (hb:B'<=B):Lst w B' v n:=by
 obtain ⟨xs,ho,hx⟩:=h
 exact ⟨xs,ho.mono hb,hx⟩
theorem Lst.form {w:World} {B n:Nat} {v:Value} (h:Lst w B v n) (hn:0<n):∃ g cap,v=.slice (some ⟨g,0,none⟩) n cap/\B<=g/\g<w.heap.size:=by
 obtain ⟨xs,ho,hx⟩:=h
 rcases ho.2 with ⟨_,h0⟩ | ⟨g,cap,cur,rfl,hb,_⟩
 ·omega
 ·exact ⟨g,cap,rfl,hb,(ho.lt g rfl).2⟩
theorem Lst.at {w:World} {B n g cap:Nat} (h:Lst w B (.slice (some ⟨g,0,none⟩) n cap) n):∃ G,InsAt w g 0 n G:=by
 obtain ⟨xs,ho,hx⟩:=h
 have hall:=List.all_eq_true.1 hx
 have key:∀ j,j<n*5->∃ x:Int,w.cell? ⟨g,j,none⟩=some (.int .i64 x):=by
  intro j hj
  have hl:j<xs.length:=by rw [ho.1];exact hj
  obtain ⟨x,hxx⟩:=isI_int (hall xs[j] (List.getElem_mem hl))
  exact ⟨x,by rw [ho.cellAt j hj,List.getElem?_eq_getElem hl,hxx]⟩
 have inh:Inhabited Int:=⟨0⟩
 obtain ⟨f,hf⟩:=Go.Deep.choose_lt (α:=Int) key
 refine ⟨fun i=>⟨f (i*5),f (i*5+1),f (i*5+2),f (i*5+3),f (i*5+4)⟩,fun i hi=>?_⟩
 simp only [Nat.zero_add]
 exact ⟨hf _ (by omega),hf _ (by omega),hf _ (by omega),hf _ (by omega),hf _ (by omega)⟩
theorem Lst.lit {w:World} {B n:Nat} (cs:Array Value) (hB:B<=w.heap.size) (hn:n<=1000) (hs:cs.size=n*5) (hc:cs.toList.all isI=true):Lst (w.alloc (.cells cs 84)) B (.slice (some ⟨w.heap.size,0,none⟩) n n) n:=
 ⟨cs.toList,World.ownsRow_lit w cs n hB (by unfold maxLen;omega) hs,hc⟩
theorem all_set {xs:List Value} {u:Value} (h:xs.all isI=true) (hu:isI u=true) (j:Nat):(xs.set j u).all isI=true:=by
 rw [List.all_eq_true] at h ⊢
 intro v hv
 rcases List.mem_or_eq_of_mem_set hv with h1 | h1
 ·exact h v h1
 ·rw [h1];exact hu
theorem Lst.set {w:World} {B n g cap:Nat} (h:Lst w B (.slice (some ⟨g,0,none⟩) n cap) n) (j:Nat) (x:Int):Lst (w.setCell ⟨g,j,none⟩ (.int .i64 x)) B (.slice (some ⟨g,0,none⟩) n cap) n:=by
 obtain ⟨xs,ho,hx⟩:=h
 exact ⟨_,(ho.stored j _).1,all_set hx rfl j⟩
theorem infoI:(Tryz.prog.info? 84).map (fun i=>(i.zero,i.size,i.bytes))=some (some (insV 0 0 0 0 0),5,40):=by kernel_rfl
theorem cell_five_new (w:World) (a b c d e:Value) (t:TypeId):∀ j u,[a,b,c,d,e][j]? = some u->(w.alloc (.cells #[a,b,c,d,e] t)).cell? ((⟨w.heap.size,0,none⟩:Addr).add j)=some u:=by
 intro j u hj
 match j,hj with
 | 0,hj=>simp at hj;subst hj;simp [Addr.add]
 | 1,hj=>simp at hj;subst hj;simp [Addr.add]
 | 2,hj=>simp at hj;subst hj;simp [Addr.add]
 | 3,hj=>simp at hj;subst hj;simp [Addr.add]
 | 4,hj=>simp at hj;subst hj;simp [Addr.add]
 | j+5,hj=>simp at hj
theorem append_ins {ops:Array Oper} {rest:List Oper} {op:Oper} {act:Act} {Q:Exit->Act->World->Prop} (w:World) (hgd:op.guard=none) (s x:Operand)
  (ho:op.op=.call { callee:=.builtin .append,args:=#[s,x],argTypes:=#[60,60] })
  (B:Nat) (v:Value) (n:Nat) (hs:act.eval s=v) (hl:Lst w B v n) (o r a b k:Int) (hx:act.eval x=.slice (some ⟨w.heap.size,0,none⟩) 1 1) (hn:n<=1000) (hB:B<=w.heap.size)
  (h:∀ v' w',Lst w' B v' (n+1)->(w.alloc (oQ3 o r a b k)).grownBy w' v.ownBlock->wpList Tryz.prog ops Q rest (act.put op.dst v') w'):
  wpList Tryz.prog ops Q (op :: rest) act (w.alloc (oQ3 o r a b k)):=by
 obtain ⟨i0,hi,hz0,hz1,hz2⟩:=info_parts infoI
 obtain ⟨xs,how,hxs⟩:=hl
 refine wpList_append_own _ hgd s x 60 ho B 84 i0 (insV 0 0 0 0 0) 5 40 Tryz.underlying60 hi hz0 hz1 hz2 rfl (by decide) v n xs hs (how.alloc _) ⟨w.heap.size,0,none⟩ 1 1
  [.int .i64 o,.int .i64 r,.int .i64 a,.int .i64 b,.int .i64 k] hx rfl (cell_five_new _ _ _ _ _ _ _) (fun u hu=>?_) (by unfold maxLen;omega) (by omega) (by simp;omega) ?_
 ·simp at hu
  rcases hu with rfl | rfl | rfl | rfl | rfl <;> rfl
 ·intro v' w' h1 h2 _
  refine h v' w' ⟨_,h1,?_⟩ h2
  rw [List.all_append,hxs]
  rfl
def pick2 (j:Nat):Int:=[(11:Int),9].getD j 0
theorem pick2_at (w:World):IntsAt (w.alloc (.cells #[.int .i64 11,.int .i64 9] 3)) w.heap.size 2 pick2:=by
 intro j hj
 match j,hj with
 | 0,_=>simp [pick2]
 | 1,_=>simp [pick2]
theorem Lst.own {w:World} {B n:Nat} {v:Value} (h:Lst w B v n):∀ j,v.ownBlock=some j->B<=j:=by
 obtain ⟨xs,ho,hx⟩:=h
 exact fun j hj=>(ho.lt j hj).1
theorem Lst.cur {w w':World} {B W0 c len cap n:Nat} {a0:Option Addr} {v:Value} {o:Obj} (h:Lst w B v n) (hc:Cur w W0 c a0 len cap) (hg:(w.alloc o).grownBy w' v.ownBlock) (hB:c<B) (hW:W0<=c):Cur w' W0 c a0 len cap:=
 (hc.alloc o).kept hg (fun e=>by have:=h.own c e.symm;omega) (fun k hk=>by have:=h.own k hk;omega)
theorem l1DrawProg_gen (W0 c len cap:Nat) (a0:Option Addr) (P me:Int) (w:World) (hc:Cur w W0 c a0 len cap) (m1:0<=me) (m2:me<P) (P4:P<=4):
  Calls Tryz.prog 66 #[.pointer (some ⟨c,0,none⟩),.int .i64 P,.int .i64 me] w fun e w'=>∃ (v:Value) (n:Nat),e=.returned v/\(1<=n/\n<=11)/\Lst w' w.heap.size v n/\Cur w' W0 c a0 len cap/\w.grownBy w' (some c):=by
 have HC0:Hid (Cur w W0 c a0 len cap):=hc
 have hcl:=hc.lt
 have hcg:=hc.ge
 clear hc
 have cNone:∀ k:Nat,(none:Option Nat)=some k->W0<=k:=fun k h=>by cases h
 have n3:(P == 0)=false:=by simp;omega
 have n5:(1:Int)<=P:=by omega
 go_enter Tryz.func66,Tryz.ntmps66
 go_wp2_with fail
 refine (zY W0 c len cap a0 _ _ HC0.out (by omega) (by omega)).mono ?_
 rintro e w1 ⟨x,rfl,⟨xL,xH⟩,hc1,hg1⟩
 have HC1:Hid (Cur w1 W0 c a0 len cap):=hc1
 have HG1:Hid (w.grownBy w1 (some c)):=hg1
 have hs1:=hg1.size
 clear hc1 hg1 HC0 cNone
 have hx:x=0\/x=1\/x=2\/x=3:=by omega
 clear xL xH
 rcases hx with rfl | rfl | rfl | rfl
 ·go_wp2
  go_ret
  exact ⟨_,6,rfl,by omega,Lst.lit _ hs1 (by omega) rfl rfl,HC1.out.alloc _,HG1.out.trans (World.grownBy_alloc _ _ _)⟩
 ·go_wp2
  go_ret
  exact ⟨_,6,rfl,by omega,Lst.lit _ hs1 (by omega) rfl rfl,HC1.out.alloc _,HG1.out.trans (World.grownBy_alloc _ _ _)⟩
 ·go_wp2_with fail
  refine (zY W0 c len cap a0 _ _ HC1.out (by omega) (by omega)).mono ?_
  rintro e w2 ⟨y,rfl,⟨yL,yH⟩,hc2,hg2⟩
  have HC2:Hid (Cur w2 W0 c a0 len cap):=hc2
  have HG2:Hid (w.grownBy w2 (some c)):=HG1.out.trans hg2
  have hs2:=HG2.out.size
  clear hc2 hg2 HC1 HG1
  go_wp2
  go_ret
  exact ⟨_,9,rfl,by omega,Lst.lit _ hs2 (by omega) rfl rfl,HC2.out.alloc _,HG2.out.trans (World.grownBy_alloc _ _ _)⟩
 ·go_wp2_with fail
  refine (zY W0 c len cap a0 _ _ HC1.out (by omega) (by omega)).mono ?_
  rintro e w2 ⟨y,rfl,⟨yL,yH⟩,hc2,hg2⟩
  have HC2:Hid (Cur w2 W0 c a0 len cap):=hc2
  have HG2:Hid (w.grownBy w2 (some c)):=HG1.out.trans hg2
  have hs2:=HG2.out.size
  obtain ⟨m,rfl⟩:=Int.eq_ofNat_of_zero_le yL
  have hm:m<8:=by omega
  clear hc2 hg2 HC1 HG1 yL yH
  go_wp2_with fail
  go_loopw [9,10] (fun out i wr=>∃ k:Nat,k<=3+m/\i=.int .i64 k/\Hid (Lst wr w.heap.size out k/\Cur wr W0 c a0 len cap/\w.grownBy wr (some c))) (fun _ i _=>3+m - (intOf i).toNat)
  case atStart=>exact ⟨0,Nat.zero_le _,rfl,Lst.lit #[] hs2 (by omega) rfl rfl,HC2.out.alloc _,HG2.out.trans (World.grownBy_alloc _ _ _)⟩
  case round=>
   obtain ⟨k,hk,rfl,HR⟩:=hrel
   by_cases hlt:k<3+m
   ·have hlt':(k:Int)<3+(m:Int):=by omega
    go_wp2_with fail
    refine (l1DrawIns_any W0 c len cap a0 _ _ _ HR.out.2.1 (by omega) (by omega) (by omega) (by omega)).mono ?_
    rintro e w3 ⟨o,r,a,b,n,rfl,hc3,hg3⟩
    have HL3:Hid (Lst w3 w.heap.size u9 k):=HR.out.1.kept hg3 (fun j hj=>by cases hj;exact hcl)
    have HC3:Hid (Cur w3 W0 c a0 len cap):=hc3
    have HG3:Hid (w.grownBy w3 (some c)):=HR.out.2.2.trans hg3
    have hs3:=HG3.out.size
    clear hc3 hg3 HR
    go_wp2_with (at_builtin;refine append_ins w3 rfl _ _ rfl w.heap.size u9 k rfl HL3.out o r a b n rfl (by omega) hs3 ?_;intro v' w4 hl4 hg4;have HR4:Hid (Lst w4 w.heap.size v' (k+1)/\Cur w4 W0 c a0 len cap/\w.grownBy w4 (some c)):=⟨hl4,Lst.cur HL3.out HC3.out hg4 hcl hcg,(HG3.out.trans (World.grownBy_alloc _ _ _)).andThen hg4 (fun j hj=>.inl (HL3.out.own j hj))⟩;clear hl4 hg4 HL3 HC3 HG3)
    go_roundw
    case rel=>exact ⟨k+1,by omega,by go_num,HR4⟩
    case measure=>simp [intOf];omega
   ·have hlt':¬ (k:Int)<3+(m:Int):=by omega
    have hs3:=HR.out.2.2.size
    have hcw:=HR.out.2.1.lt
    go_wp2_with fail
    refine (l1PickInt_any W0 c len cap wr.heap.size 2 2 a0 pick2 _ (HR.out.2.1.alloc _) (by omega) (by omega) (by simp) (by omega) (pick2_at wr)).mono ?_
    rintro e w3 ⟨y,rfl,hc3,hg3⟩
    have HL3:Hid (Lst w3 w.heap.size u9 k):=(HR.out.1.kept (World.grownBy_alloc _ _ none) (fun j hj=>by cases hj)).kept hg3 (fun j hj=>by cases hj;exact hcl)
    have HC3:Hid (Cur w3 W0 c a0 len cap):=hc3
    have HG3:Hid (w.grownBy w3 (some c)):=(HR.out.2.2.trans (World.grownBy_alloc _ _ _)).trans hg3
    have hs4:=HG3.out.size
    clear hc3 hg3 HR
    go_wp2_with (at_builtin;refine append_ins w3 rfl _ _ rfl w.heap.size u9 k rfl HL3.out y 0 0 0 0 rfl (by omega) hs4 ?_;intro v' w4 hl4 hg4;have HR4:Hid (Lst w4 w.heap.size v' (k+1)/\Cur w4 W0 c a0 len cap/\w.grownBy w4 (some c)):=⟨hl4,Lst.cur HL3.out HC3.out hg4 hcl hcg,(HG3.out.trans (World.grownBy_alloc _ _ _)).andThen hg4 (fun j hj=>.inl (HL3.out.own j hj))⟩;clear hl4 hg4 HL3 HC3 HG3)
    go_ret
    exact ⟨_,k+1,rfl,by omega,HR4.out⟩
theorem l1DrawProg_any (W0 c len cap:Nat) (a0:Option Addr) (me:Int) (w:World) (hc:Cur w W0 c a0 len cap) (m1:0<=me) (m2:me<3):
  Calls Tryz.prog 66 #[.pointer (some ⟨c,0,none⟩),.int .i64 3,.int .i64 me] w fun e w'=>∃ (v:Value) (n:Nat),e=.returned v/\(1<=n/\n<=11)/\Lst w' w.heap.size v n/\Cur w' W0 c a0 len cap/\w.grownBy w' (some c):=
 l1DrawProg_gen W0 c len cap a0 3 me w hc m1 m2 (by omega)
def lenV:Value->Nat
 | .slice _ n _=>n
 | _=>0
theorem Lst.frozen {w:World} {B n g cap:Nat} (h:Lst w B (.slice (some ⟨g,0,none⟩) n cap) n) (j:Nat):w.frozen? ⟨g,j,none⟩=false:=by
 obtain ⟨xs,ho,hx⟩:=h
 exact ho.frozenAt j
def Way (w wr:World) (W0 c len cap:Nat) (a0:Option Addr) (g n gc:Nat):Prop:=
 Lst wr w.heap.size (.slice (some ⟨g,0,none⟩) n gc) n/\Cur wr W0 c a0 len cap/\w.grownBy wr (some c)
theorem Way.step {w wr w':World} {W0 c len cap g n gc:Nat} {a0:Option Addr} (h:Way w wr W0 c len cap a0 g n gc) (hcl:c<w.heap.size) (hc:Cur w' W0 c a0 len cap) (hg:wr.grownBy w' (some c)):Way w w' W0 c len cap a0 g n gc:=
 ⟨h.1.kept hg (fun j hj=>by cases hj;exact hcl),hc,h.2.2.trans hg⟩
theorem Way.set {w wr:World} {W0 c len cap g n gc:Nat} {a0:Option Addr} (h:Way w wr W0 c len cap a0 g n gc) (hcl:c<w.heap.size) (hcg:W0<=c) (j:Nat) (x:Int):Way w (wr.setCell ⟨g,j,none⟩ (.int .i64 x)) W0 c len cap a0 g n gc:=by
 have hg:=h.1.own g rfl
 exact ⟨h.1.set j x,h.2.1.setOther (p:=⟨g,j,none⟩) (by simp;omega) (by simp;omega) _,zV (p:=⟨g,j,none⟩) h.2.2 (.inr hg) _⟩
theorem l1DrawAny_any (W0 c len cap:Nat) (a0:Option Addr) (w:World) (hc:Cur w W0 c a0 len cap):
  Calls Tryz.prog 28 #[.pointer (some ⟨c,0,none⟩)] w fun e w'=>∃ g n gc:Nat,e=.returned (.slice (some ⟨g,0,none⟩) n gc)/\n<=31/\Way w w' W0 c len cap a0 g n gc:=by
 have HC0:Hid (Cur w W0 c a0 len cap):=hc
 have hcl:=hc.lt
 have hcg:=hc.ge
 clear hc
 go_enter Tryz.func28,Tryz.ntmps28
 go_wp2_with fail
 refine (zY W0 c len cap a0 _ _ HC0.out (by omega) (by omega)).mono ?_
 rintro e w1 ⟨me,rfl,⟨m0,m1⟩,hc1,hg1⟩
 have HC1:Hid (Cur w1 W0 c a0 len cap):=hc1
 have HG1:Hid (w.grownBy w1 (some c)):=hg1
 have hs1:=hg1.size
 clear hc1 hg1 HC0
 go_wp2_with fail
 refine (l1DrawProg_any W0 c len cap a0 _ _ HC1.out m0 m1).mono ?_
 rintro e w2 ⟨v,n,rfl,⟨n0,n1⟩,hl2,hc2,hg2⟩
 have hvf:∃ g gc,v=.slice (some ⟨g,0,none⟩) n gc/\w1.heap.size<=g/\g<w2.heap.size:=hl2.form (by omega)
 obtain ⟨g,gc,hv,hgB,hgl⟩:=hvf
 rw [hv]
 rw [hv] at hl2
 have HW2:Hid (Way w w2 W0 c len cap a0 g n gc):=⟨hl2.mono hs1,hc2,HG1.out.trans hg2⟩
 have n0':(1:Int)<=(n:Int):=by omega
 have n1':(n:Int)<=11:=by omega
 clear hl2 hc2 hg2 HC1 HG1 hv hs1
 go_wp2_with fail
 refine (l1Once_any W0 c len cap a0 _ _ HW2.out.2.1 (by omega) (by omega)).mono ?_
 rintro e w3 ⟨t,rfl,hc3,hg3⟩
 have HW3:Hid (Way w w3 W0 c len cap a0 g n gc):=HW2.out.step hcl hc3 hg3
 clear hc3 hg3 HW2
 cases t
 case true=>
  go_wp2_with fail
  refine (zY W0 c len cap a0 _ _ HW3.out.2.1 n0' (by omega)).mono ?_
  rintro e w4 ⟨x,rfl,⟨x0,x1⟩,hc4,hg4⟩
  obtain ⟨k,rfl⟩:=Int.eq_ofNat_of_zero_le x0
  have hk:k<n:=by omega
  have HW4:Hid (Way w w4 W0 c len cap a0 g n gc):=HW3.out.step hcl hc4 hg4
  obtain ⟨G,hG⟩:=HW4.out.1.at
  obtain ⟨c0,c1,c2,c3,c4⟩:=hG k hk
  rw [Nat.zero_add] at c0 c1 c2 c3 c4
  clear hc4 hg4 HW3 hG
  go_wp2_with fail
  refine (l1Spoil_any W0 c len cap a0 _ _ _ _ _ _ HW4.out.2.1).mono ?_
  rintro e w5 ⟨o,r,a,b,nn,rfl,hc5,hg5⟩
  have HW5:Hid (Way w w5 W0 c len cap a0 g n gc):=HW4.out.step hcl hc5 hg5
  obtain ⟨G5,hG5⟩:=HW5.out.1.at
  obtain ⟨d0,d1,d2,d3,d4⟩:=hG5 k hk
  rw [Nat.zero_add] at d0 d1 d2 d3 d4
  have f0:=HW5.out.1.frozen (k*5)
  have f1:=HW5.out.1.frozen (k*5+1)
  have f2:=HW5.out.1.frozen (k*5+2)
  have f3:=HW5.out.1.frozen (k*5+3)
  have f4:=HW5.out.1.frozen (k*5+4)
  clear hc5 hg5 HW4 hG5 c0 c1 c2 c3 c4
  have HW6:Hid (Way w (((((w5.setCell ⟨g,k*5,none⟩ (.int .i64 o)).setCell ⟨g,k*5+1,none⟩ (.int .i64 r)).setCell ⟨g,k*5+2,none⟩ (.int .i64 a)).setCell ⟨g,k*5+3,none⟩ (.int .i64 b)).setCell ⟨g,k*5+4,none⟩ (.int .i64 nn)) W0 c len cap a0 g n gc):=
   ((((HW5.out.set hcl hcg _ _).set hcl hcg _ _).set hcl hcg _ _).set hcl hcg _ _).set hcl hcg _ _
  go_wp2_with fail
  refine (l1Once_any W0 c len cap a0 _ _ HW6.out.2.1 (by omega) (by omega)).mono ?_
  rintro e w7 ⟨t,rfl,hc7,hg7⟩
  have HW7:Hid (Way w w7 W0 c len cap a0 g n gc):=HW6.out.step hcl hc7 hg7
  clear hc7 hg7 HW6 HW5 d0 d1 d2 d3 d4 f0 f1 f2 f3 f4
  cases t
  case false=>
   go_wp2
   go_ret
   exact ⟨g,n,gc,rfl,by omega,HW7.out⟩
  case true=>
   go_wp2_with fail
   go_loopw [3] (fun l wr=>∃ m g' gc':Nat,(1<=m/\m<=31)/\l=.slice (some ⟨g',0,none⟩) m gc'/\Hid (Way w wr W0 c len cap a0 g' m gc')) (fun l _=>32 - lenV l)
   case atStart=>exact ⟨n,g,gc,by omega,rfl,HW7⟩
   case round=>
    obtain ⟨m,g',gc',⟨m0,m1⟩,rfl,HR⟩:=hrel
    go_wp2_with fail
    refine (zY W0 c len cap a0 _ _ HR.out.2.1 (by omega) (by omega)).mono ?_
    rintro e w8 ⟨y,rfl,⟨y0,y1⟩,hc8,hg8⟩
    have HW8:Hid (Way w w8 W0 c len cap a0 g' m gc'):=HR.out.step hcl hc8 hg8
    have hs8:=HW8.out.2.2.size
    clear hc8 hg8 HR
    by_cases hlt:(m:Int)<30+y
    ·go_wp2_with (at_builtin;refine append_ins w8 rfl _ _ rfl w.heap.size (.slice (some ⟨g',0,none⟩) m gc') m rfl HW8.out.1 11 0 0 0 0 rfl (by omega) hs8 ?_;intro v' w9 hl9 hg9;have HC9:Hid (Cur w9 W0 c a0 len cap/\w.grownBy w9 (some c)):=⟨Lst.cur HW8.out.1 HW8.out.2.1 hg9 hcl hcg,(HW8.out.2.2.trans (World.grownBy_alloc _ _ _)).andThen hg9 (fun j hj=>.inl (HW8.out.1.own j hj))⟩;obtain ⟨g9,c9,hv9,_,_⟩:=hl9.form (by omega);rw [hv9];rw [hv9] at hl9;have HL9:Hid (Lst w9 w.heap.size (.slice (some ⟨g9,0,none⟩) (m+1) c9) (m+1)):=hl9;clear hl9 hg9 HW8 hv9 v')
     go_roundw
     case rel=>exact ⟨m+1,g9,c9,by omega,rfl,HL9.out,HC9.out⟩
     case measure=>simp [lenV];omega
    ·go_wp2
     go_ret
     exact ⟨g',m,gc',rfl,by omega,HW8.out⟩
 case false=>
  go_wp2_with fail
  refine (l1Once_any W0 c len cap a0 _ _ HW3.out.2.1 (by omega) (by omega)).mono ?_
  rintro e w7 ⟨t,rfl,hc7,hg7⟩
  have HW7:Hid (Way w w7 W0 c len cap a0 g n gc):=HW3.out.step hcl hc7 hg7
  clear hc7 hg7 HW3
  cases t
  case false=>
   go_wp2
   go_ret
   exact ⟨g,n,gc,rfl,by omega,HW7.out⟩
  case true=>
   go_wp2_with fail
   go_loopw [3] (fun l wr=>∃ m g' gc':Nat,(1<=m/\m<=31)/\l=.slice (some ⟨g',0,none⟩) m gc'/\Hid (Way w wr W0 c len cap a0 g' m gc')) (fun l _=>32 - lenV l)
   case atStart=>exact ⟨n,g,gc,by omega,rfl,HW7⟩
   case round=>
    obtain ⟨m,g',gc',⟨m0,m1⟩,rfl,HR⟩:=hrel
    go_wp2_with fail
    refine (zY W0 c len cap a0 _ _ HR.out.2.1 (by omega) (by omega)).mono ?_
    rintro e w8 ⟨y,rfl,⟨y0,y1⟩,hc8,hg8⟩
    have HW8:Hid (Way w w8 W0 c len cap a0 g' m gc'):=HR.out.step hcl hc8 hg8
    have hs8:=HW8.out.2.2.size
    clear hc8 hg8 HR
    by_cases hlt:(m:Int)<30+y
    ·go_wp2_with (at_builtin;refine append_ins w8 rfl _ _ rfl w.heap.size (.slice (some ⟨g',0,none⟩) m gc') m rfl HW8.out.1 11 0 0 0 0 rfl (by omega) hs8 ?_;intro v' w9 hl9 hg9;have HC9:Hid (Cur w9 W0 c a0 len cap/\w.grownBy w9 (some c)):=⟨Lst.cur HW8.out.1 HW8.out.2.1 hg9 hcl hcg,(HW8.out.2.2.trans (World.grownBy_alloc _ _ _)).andThen hg9 (fun j hj=>.inl (HW8.out.1.own j hj))⟩;obtain ⟨g9,c9,hv9,_,_⟩:=hl9.form (by omega);rw [hv9];rw [hv9] at hl9;have HL9:Hid (Lst w9 w.heap.size (.slice (some ⟨g9,0,none⟩) (m+1) c9) (m+1)):=hl9;clear hl9 hg9 HW8 hv9 v')
     go_roundw
     case rel=>exact ⟨m+1,g9,c9,by omega,rfl,HL9.out,HC9.out⟩
     case measure=>simp [lenV];omega
    ·go_wp2
     go_ret
     exact ⟨g',m,gc',rfl,by omega,HW8.out⟩
