import Derived.Test.YtnfdnnmddadmkaaGreatDoorOg17
namespace Go.Proofs.YtnfdnnmddadmkaaGreatDoor
set_option maxRecDepth 100000
set_option maxHeartbeats 4000000
open Go.RowKit
def isI:Value->Bool
 | .int .i64 _=>true
 | _=>false
theorem qqc {v:Value} (h:isI v=true):∃ x:Int,v=.int .i64 x:=by
 unfold isI at h
 split at h
 ·exact ⟨_,rfl⟩
 ·cases h
def Lst (w:World) (B:Nat) (v:Value) (n:Nat):Prop:=∃ xs,w.ownsRow B 123 5 v n xs/\xs.all isI=true
theorem Lst.kept {w w':World} {B n:Nat} {v:Value} {row:Option Nat} (h:Lst w B v n) (hg:w.grownBy w' row) (hr:∀ k,row=some k->k<B):Lst w' B v n:=by
 obtain ⟨xs,ho,hx⟩:=h
 refine ⟨xs,ho.kept hg ?_,hx⟩
 cases hv:v.ownBlock with
 | none=>exact .inl rfl
 | some k=>
  right
  intro e
  have h1:=(ho.lt k hv).1
  have h2:=hr k e.symm
  omega
theorem Lst.mono {w:World} {B B' n:Nat} {v:Value} (h:Lst w B v n) (hb:B'<=B):Lst w B' v n:=by
 obtain ⟨xs,ho,hx⟩:=h
 exact ⟨xs,ho.mono hb,hx⟩
theorem Lst.form {w:World} {B n:Nat} {v:Value} (h:Lst w B v n) (hn:0<n):∃ g cap,v=.slice (some ⟨g,0,none⟩) n cap/\B<=g/\g<w.heap.size:=by
 obtain ⟨xs,ho,hx⟩:=h
 rcases ho.2 with ⟨_,h0⟩ | ⟨g,cap,cur,rfl,hb,_⟩
 ·omega
 ·exact ⟨g,cap,rfl,hb,(ho.lt g rfl).2⟩
theorem Lst.at {w:World} {B n g cap:Nat} (h:Lst w B (.slice (some ⟨g,0,none⟩) n cap) n):∃ G,qan w g 0 n G:=by
 obtain ⟨xs,ho,hx⟩:=h
 have hall:=List.all_eq_true.1 hx
 have key:∀ j,j<n*5->∃ x:Int,w.cell? ⟨g,j,none⟩=some (.int .i64 x):=by
  intro j hj
  have hl:j<xs.length:=by rw [ho.1];exact hj
  obtain ⟨x,hxx⟩:=qqc (hall xs[j] (List.getElem_mem hl))
  exact ⟨x,by rw [ho.cellAt j hj,List.getElem?_eq_getElem hl,hxx]⟩
 have inh:Inhabited Int:=⟨0⟩
 obtain ⟨f,hf⟩:=Go.Deep.choose_lt (α:=Int) key
 refine ⟨fun i=>⟨f (i*5),f (i*5+1),f (i*5+2),f (i*5+3),f (i*5+4)⟩,fun i hi=>?_⟩
 simp only [Nat.zero_add]
 exact ⟨hf _ (by omega),hf _ (by omega),hf _ (by omega),hf _ (by omega),hf _ (by omega)⟩
theorem Lst.lit {w:World} {B n:Nat} (cs:Array Value) (hB:B<=w.heap.size) (hn:n<=1000) (hs:cs.size=n*5) (hc:cs.toList.all isI=true):Lst (w.alloc (.cells cs 123)) B (.slice (some ⟨w.heap.size,0,none⟩) n n) n:=
 ⟨cs.toList,World.ownsRow_lit w cs n hB (by unfold maxLen;omega) hs,hc⟩
theorem qt9 {xs:List Value} {u:Value} (h:xs.all isI=true) (hu:isI u=true) (j:Nat):(xs.set j u).all isI=true:=by
 rw [List.all_eq_true] at h ⊢
 intro v hv
 rcases List.mem_or_eq_of_mem_set hv with h1 | h1
 ·exact h v h1
 ·rw [h1];exact hu
theorem Lst.set {w:World} {B n g cap:Nat} (h:Lst w B (.slice (some ⟨g,0,none⟩) n cap) n) (j:Nat) (x:Int):Lst (w.setCell ⟨g,j,none⟩ (.int .i64 x)) B (.slice (some ⟨g,0,none⟩) n cap) n:=by
 obtain ⟨xs,ho,hx⟩:=h
 exact ⟨_,(ho.stored j _).1,qt9 hx rfl j⟩
theorem qv7:(Tryz.prog.info? 123).map (fun i=>(i.zero,i.size,i.bytes))=some (some (insV 0 0 0 0 0),5,40):=by kernel_rfl
theorem qim (w:World) (a b c d e:Value) (t:TypeId):∀ j u,[a,b,c,d,e][j]? = some u->(w.alloc (.cells #[a,b,c,d,e] t)).cell? ((⟨w.heap.size,0,none⟩:Addr).add j)=some u:=by
 intro j u hj
 match j,hj with
 | 0,hj=>simp at hj;subst hj;simp [Addr.add]
 | 1,hj=>simp at hj;subst hj;simp [Addr.add]
 | 2,hj=>simp at hj;subst hj;simp [Addr.add]
 | 3,hj=>simp at hj;subst hj;simp [Addr.add]
 | 4,hj=>simp at hj;subst hj;simp [Addr.add]
 | j+5,hj=>simp at hj
theorem qd9 {ops:Array Oper} {rest:List Oper} {op:Oper} {act:Act} {Q:Exit->Act->World->Prop} (w:World) (hgd:op.guard=none) (s x:Operand)
  (ho:op.op=.call { callee:=.builtin .append,args:=#[s,x],argTypes:=#[121,121] })
  (B:Nat) (v:Value) (n:Nat) (hs:act.eval s=v) (hl:Lst w B v n) (o r a b k:Int) (hx:act.eval x=.slice (some ⟨w.heap.size,0,none⟩) 1 1) (hn:n<=1000) (hB:B<=w.heap.size)
  (h:∀ v' w',Lst w' B v' (n+1)->(w.alloc (oQ3 o r a b k)).grownBy w' v.ownBlock->wpList Tryz.prog ops Q rest (act.put op.dst v') w'):
  wpList Tryz.prog ops Q (op :: rest) act (w.alloc (oQ3 o r a b k)):=by
 obtain ⟨i0,hi,hz0,hz1,hz2⟩:=info_parts qv7
 obtain ⟨xs,how,hxs⟩:=hl
 refine wpList_append_own _ hgd s x 121 ho B 123 i0 (insV 0 0 0 0 0) 5 40 Tryz.underlying121 hi hz0 hz1 hz2 rfl (by decide) v n xs hs (how.alloc _) ⟨w.heap.size,0,none⟩ 1 1
  [.int .i64 o,.int .i64 r,.int .i64 a,.int .i64 b,.int .i64 k] hx rfl (qim _ _ _ _ _ _ _) (fun u hu=>?_) (by unfold maxLen;omega) (by omega) (by simp;omega) ?_
 ·simp at hu
  rcases hu with rfl | rfl | rfl | rfl | rfl <;> rfl
 ·intro v' w' h1 h2 _
  refine h v' w' ⟨_,h1,?_⟩ h2
  rw [List.all_append,hxs]
  rfl
def qsp (j:Nat):Int:=[(11:Int),9].getD j 0
theorem qsq (w:World):qjx (w.alloc (.cells #[.int .i64 11,.int .i64 9] 3)) w.heap.size 2 qsp:=by
 intro j hj
 match j,hj with
 | 0,_=>simp [qsp]
 | 1,_=>simp [qsp]
theorem Lst.own {w:World} {B n:Nat} {v:Value} (h:Lst w B v n):∀ j,v.ownBlock=some j->B<=j:=by
 obtain ⟨xs,ho,hx⟩:=h
 exact fun j hj=>(ho.lt j hj).1
theorem Lst.cur {w w':World} {B W0 c len cap n:Nat} {a0:Option Addr} {v:Value} {o:Obj} (h:Lst w B v n) (hc:Cur w W0 c a0 len cap) (hg:(w.alloc o).grownBy w' v.ownBlock) (hB:c<B) (hW:W0<=c):Cur w' W0 c a0 len cap:=
 (hc.alloc o).kept hg (fun e=>by have:=h.own c e.symm;omega) (fun k hk=>by have:=h.own k hk;omega)
theorem qem (W0 c len cap:Nat) (a0:Option Addr) (P me:Int) (w:World) (hc:Cur w W0 c a0 len cap) (m1:0<=me) (m2:me<P) (P4:P<=4):
  Calls Tryz.prog 197 #[.pointer (some ⟨c,0,none⟩),.int .i64 P,.int .i64 me] w fun e w'=>∃ (v:Value) (n:Nat),e=.returned v/\(1<=n/\n<=11)/\Lst w' w.heap.size v n/\Cur w' W0 c a0 len cap/\w.grownBy w' (some c):=by
 have HC0:Hid (Cur w W0 c a0 len cap):=hc
 have hcl:=hc.lt
 have hcg:=hc.ge
 clear hc
 have cNone:∀ k:Nat,(none:Option Nat)=some k->W0<=k:=fun k h=>by cases h
 have n3:(P == 0)=false:=by simp;omega
 have n5:(1:Int)<=P:=by omega
 go_enter Tryz.func197,Tryz.ntmps197
 go_wp2_with fail
 refine (zY W0 c len cap a0 _ _ HC0.out (by omega) (by omega)).mono ?_
 rintro e w1 ⟨x,rfl,⟨xL,xH⟩,hc1,hg1⟩
 have HC1:Hid (Cur w1 W0 c a0 len cap):=hc1
 have HG1:Hid (w.grownBy w1 (some c)):=hg1
 have hs1:=hg1.size
 clear hc1 hg1 HC0 cNone
 have hx:x=0\/x=1\/x=2\/x=3:=by omega
 clear xL xH
 rcases hx with rfl | rfl | rfl | rfl
 ·go_wp2
  go_ret
  exact ⟨_,6,rfl,by omega,Lst.lit _ hs1 (by omega) rfl rfl,HC1.out.alloc _,HG1.out.trans (World.grownBy_alloc _ _ _)⟩
 ·go_wp2
  go_ret
  exact ⟨_,6,rfl,by omega,Lst.lit _ hs1 (by omega) rfl rfl,HC1.out.alloc _,HG1.out.trans (World.grownBy_alloc _ _ _)⟩
 ·go_wp2_with fail
  refine (zY W0 c len cap a0 _ _ HC1.out (by omega) (by omega)).mono ?_
  rintro e w2 ⟨y,rfl,⟨yL,yH⟩,hc2,hg2⟩
  have HC2:Hid (Cur w2 W0 c a0 len cap):=hc2
  have HG2:Hid (w.grownBy w2 (some c)):=HG1.out.trans hg2
  have hs2:=HG2.out.size
  clear hc2 hg2 HC1 HG1
  go_wp2
  go_ret
  exact ⟨_,9,rfl,by omega,Lst.lit _ hs2 (by omega) rfl rfl,HC2.out.alloc _,HG2.out.trans (World.grownBy_alloc _ _ _)⟩
 ·go_wp2_with fail
  refine (zY W0 c len cap a0 _ _ HC1.out (by omega) (by omega)).mono ?_
  rintro e w2 ⟨y,rfl,⟨yL,yH⟩,hc2,hg2⟩
  have HC2:Hid (Cur w2 W0 c a0 len cap):=hc2
  have HG2:Hid (w.grownBy w2 (some c)):=HG1.out.trans hg2
  have hs2:=HG2.out.size
  obtain ⟨m,rfl⟩:=Int.eq_ofNat_of_zero_le yL
  have hm:m<8:=by omega
  clear hc2 hg2 HC1 HG1 yL yH
  go_wp2_with fail
  go_loopw [9,10] (fun out i wr=>∃ k:Nat,k<=3+m/\i=.int .i64 k/\Hid (Lst wr w.heap.size out k/\Cur wr W0 c a0 len cap/\w.grownBy wr (some c))) (fun _ i _=>3+m - (intOf i).toNat)
  case atStart=>exact ⟨0,Nat.zero_le _,rfl,Lst.lit #[] hs2 (by omega) rfl rfl,HC2.out.alloc _,HG2.out.trans (World.grownBy_alloc _ _ _)⟩
  case round=>
   obtain ⟨k,hk,rfl,HR⟩:=hrel
   by_cases hlt:k<3+m
   ·have hlt':(k:Int)<3+(m:Int):=by omega
    go_wp2_with fail
    refine (qi3 W0 c len cap a0 _ _ _ HR.out.2.1 (by omega) (by omega) (by omega) (by omega)).mono ?_
    rintro e w3 ⟨o,r,a,b,n,rfl,hc3,hg3⟩
    have HL3:Hid (Lst w3 w.heap.size u9 k):=HR.out.1.kept hg3 (fun j hj=>by cases hj;exact hcl)
    have HC3:Hid (Cur w3 W0 c a0 len cap):=hc3
    have HG3:Hid (w.grownBy w3 (some c)):=HR.out.2.2.trans hg3
    have hs3:=HG3.out.size
    clear hc3 hg3 HR
    go_wp2_with (at_builtin;refine qd9 w3 rfl _ _ rfl w.heap.size u9 k rfl HL3.out o r a b n rfl (by omega) hs3 ?_;intro v' w4 hl4 hg4;have HR4:Hid (Lst w4 w.heap.size v' (k+1)/\Cur w4 W0 c a0 len cap/\w.grownBy w4 (some c)):=⟨hl4,Lst.cur HL3.out HC3.out hg4 hcl hcg,(HG3.out.trans (World.grownBy_alloc _ _ _)).andThen hg4 (fun j hj=>.inl (HL3.out.own j hj))⟩;clear hl4 hg4 HL3 HC3 HG3)
    go_roundw
    case rel=>exact ⟨k+1,by omega,by go_num,HR4⟩
    case measure=>simp [intOf];omega
   ·have hlt':¬ (k:Int)<3+(m:Int):=by omega
    have hs3:=HR.out.2.2.size
    have hcw:=HR.out.2.1.lt
    go_wp2_with fail
    refine (qfb W0 c len cap wr.heap.size 2 2 a0 qsp _ (HR.out.2.1.alloc _) (by omega) (by omega) (by simp) (by omega) (qsq wr)).mono ?_
    rintro e w3 ⟨y,rfl,hc3,hg3⟩
    have HL3:Hid (Lst w3 w.heap.size u9 k):=(HR.out.1.kept (World.grownBy_alloc _ _ none) (fun j hj=>by cases hj)).kept hg3 (fun j hj=>by cases hj;exact hcl)
    have HC3:Hid (Cur w3 W0 c a0 len cap):=hc3
    have HG3:Hid (w.grownBy w3 (some c)):=(HR.out.2.2.trans (World.grownBy_alloc _ _ _)).trans hg3
    have hs4:=HG3.out.size
    clear hc3 hg3 HR
    go_wp2_with (at_builtin;refine qd9 w3 rfl _ _ rfl w.heap.size u9 k rfl HL3.out y 0 0 0 0 rfl (by omega) hs4 ?_;intro v' w4 hl4 hg4;have HR4:Hid (Lst w4 w.heap.size v' (k+1)/\Cur w4 W0 c a0 len cap/\w.grownBy w4 (some c)):=⟨hl4,Lst.cur HL3.out HC3.out hg4 hcl hcg,(HG3.out.trans (World.grownBy_alloc _ _ _)).andThen hg4 (fun j hj=>.inl (HL3.out.own j hj))⟩;clear hl4 hg4 HL3 HC3 HG3)
    go_ret
    exact ⟨_,k+1,rfl,by omega,HR4.out⟩
theorem qhw (W0 c len cap:Nat) (a0:Option Addr) (me:Int) (w:World) (hc:Cur w W0 c a0 len cap) (m1:0<=me) (m2:me<3):
  Calls Tryz.prog 197 #[.pointer (some ⟨c,0,none⟩),.int .i64 3,.int .i64 me] w fun e w'=>∃ (v:Value) (n:Nat),e=.returned v/\(1<=n/\n<=11)/\Lst w' w.heap.size v n/\Cur w' W0 c a0 len cap/\w.grownBy w' (some c):=
 qem W0 c len cap a0 3 me w hc m1 m2 (by omega)
