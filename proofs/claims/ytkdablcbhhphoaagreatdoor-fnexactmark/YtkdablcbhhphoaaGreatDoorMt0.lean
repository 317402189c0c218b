import Derived.Test.YtkdablcbhhphoaaGreatDoorRows
import Derived.Below
namespace Go.Proofs.YtkdablcbhhphoaaGreatDoor
open Go Go.RowKit
abbrev aQ (b o:Nat):Addr:=⟨b,o,none⟩
abbrev Bw (w w1:World):Prop:=Below w.heap.size w w1
abbrev vT:Value:=.iface 300 (.agg #[.pointer (some (aQ 1 269))])
abbrev iV (k:Int):Value:=.int .i64 k
abbrev aW (w:World) (k:Nat):Addr:=⟨w.heap.size,k,none⟩
abbrev nS:Value:=.slice none 0 0
abbrev sG (g n c:Nat):Value:=.slice (some ⟨g,0,none⟩) n c
abbrev rB (w:World) (v:Value) (e:Ending) (w':World):Prop:=e=.returned v/\Below w.heap.size w w'
theorem zD {α:Type} (l:List α) (i:Nat) (a:α):l.toArray.setIfInBounds i a=(l.set i a).toArray:=List.setIfInBounds_toArray ..
theorem zE {α:Type} (x:α) (l:List α) (a:α):(x :: l).set 0 a=a :: l:=rfl
theorem zF {α:Type} (x:α) (l:List α) (i:Nat) (a:α):(x :: l).set (i+1) a=x :: l.set i a:=rfl
theorem zH {w w':World} {a:Addr} (h:w'.heap[a.block]? = w.heap[a.block]?):w'.cell? a=w.cell? a:=World.cell?_of_block h
theorem zI {w w':World} {a:Addr} (h:w'.heap[a.block]? = w.heap[a.block]?):w'.frozen? a=w.frozen? a:=World.frozen?_of_block h
theorem zJ (w:World) (a:Addr) {u:Value} (h:w.cell? a=some u):a.block<w.heap.size:=World.block_lt_of_cell? w a h
theorem zK (b:Bool):b=true ∨ b=false:=Bool.eq_false_or_eq_true b
theorem zL {n m k:Nat} (h:n<m) (g:m ≤ k):n<k:=Nat.lt_of_lt_of_le h g
theorem zN (w:World) (a:Addr) (u:Value) (k:Nat) (h:k≠a.block):(w.setCell a u).heap[k]? = w.heap[k]?:=Below.heap_setCell w a u k h
theorem zO {n m k:Nat} (h:n ≤ m) (g:m ≤ k):n ≤ k:=Nat.le_trans h g
abbrev oQ0 (x0:Int) (x1:Int) (x2:Int):Obj:=.cells #[.int .i64 x0,.int .i64 x1,.int .i64 x2] 86
abbrev oQ1 (x0:Int) (x1:Option Addr) (x2:Nat) (x3:Nat) (x4:Option Addr) (x5:Nat) (x6:Nat) (x7:Int):Obj:=.cells #[.int .i64 x0,.slice x1 x2 x3,.slice x4 x5 x6,.int .i64 x7] 142
abbrev oQ2 (x0:Int) (x1:Int) (x2:Int) (x3:Int) (x4:Int):Obj:=.cells #[.int .i64 x0,.int .i64 x1,.int .i64 x2,.int .i64 x3,.int .i64 x4] 184
abbrev oQ3 (x0:Int) (x1:Int) (x2:Int) (x3:Int) (x4:Int) (x5:Option Addr) (x6:Nat) (x7:Nat) (x8:Int):Obj:=.cells #[.int .i64 x0,.int .i64 x1,.int .i64 x2,.int .i64 x3,.int .i64 x4,.slice x5 x6 x7,.int .i64 x8] 212
abbrev oQ4 (x0:Option Addr) (x1:Nat) (x2:Nat) (x3:Option Addr) (x4:Nat) (x5:Nat) (x6:Option Addr) (x7:Nat) (x8:Nat) (x9:Option Addr) (x10:Nat) (x11:Nat):Obj:=.cells #[.slice x0 x1 x2,.slice x3 x4 x5,.slice x6 x7 x8,.slice x9 x10 x11] 41
abbrev oQ5 (x0:Option Addr) (x1:Nat) (x2:Nat) (x3:Option Addr) (x4:Nat) (x5:Nat) (x6:Option Addr) (x7:Nat) (x8:Nat) (x9:Option Addr) (x10:Nat) (x11:Nat) (x12:Bool) (x13:Option Addr) (x14:Nat) (x15:Nat) (x16:Option Addr) (x17:Nat) (x18:Nat) (x19:Option Addr) (x20:Nat) (x21:Nat):Obj:=.cells #[.slice x0 x1 x2,.slice x3 x4 x5,.slice x6 x7 x8,.slice x9 x10 x11,.bool x12,.slice x13 x14 x15,.slice x16 x17 x18,.slice x19 x20 x21] 34
abbrev oQ6 (x0:Bool) (x1:Option Addr) (x2:Nat) (x3:Nat) (x4:Option Addr) (x5:Nat) (x6:Nat) (x7:Option Addr) (x8:Nat) (x9:Nat):Obj:=.cells #[.bool x0,.slice x1 x2 x3,.slice x4 x5 x6,.slice x7 x8 x9] 42
abbrev oQ7 (x0:Option Addr) (x1:Nat) (x2:Nat) (x3:Option Addr) (x4:Nat) (x5:Nat) (x6:Option Addr) (x7:Nat) (x8:Nat) (x9:Option Addr) (x10:Nat) (x11:Nat) (x12:Bool) (x13:Option Addr) (x14:Nat) (x15:Nat) (x16:Option Addr) (x17:Nat) (x18:Nat) (x19:Option Addr) (x20:Nat) (x21:Nat):Obj:=.cells #[.slice x0 x1 x2,.slice x3 x4 x5,.slice x6 x7 x8,.slice x9 x10 x11,.bool x12,.slice x13 x14 x15,.slice x16 x17 x18,.slice x19 x20 x21] 44
abbrev zQ0:Obj:=.cells #[.int .i64 0,.slice none 0 0,.slice none 0 0,.int .i64 0] 142
abbrev zQ1:Obj:=.cells #[.int .i64 0,.int .i64 0,.int .i64 0,.int .i64 0,.int .i64 0,.slice none 0 0,.int .i64 0] 212
abbrev zQ2:Obj:=.cells #[.slice none 0 0,.slice none 0 0,.slice none 0 0,.slice none 0 0] 41
abbrev zQ3:Obj:=.cells #[.slice none 0 0,.int .i64 0,.int .i64 0,.int .i64 0,.int .i64 0,.int .i64 0,.int .i64 0,.int .i64 0,.int .i64 0,.int .i64 0,.int .i64 0,.int .i64 0,.int .i64 0,.int .i64 0,.int .i64 0,.int .i64 0,.int .i64 0,.int .i64 0,.int .i64 0,.int .i64 0,.int .i64 0] 176
abbrev zQ4:Obj:=.cells #[.bool false,.slice none 0 0,.slice none 0 0,.slice none 0 0] 42
abbrev zQ5:Obj:=.cells #[.slice none 0 0,.slice none 0 0,.slice none 0 0,.slice none 0 0,.bool false,.slice none 0 0,.slice none 0 0,.slice none 0 0] 44
abbrev zQ6:Obj:=.cells #[.slice none 0 0,.slice none 0 0,.slice none 0 0,.slice none 0 0,.slice none 0 0,.int .i64 0,.int .i64 0,.int .i64 0,.int .i64 0,.int .i64 0,.int .i64 0,.int .i64 0,.int .i64 0,.int .i64 0,.int .i64 0,.int .i64 0,.int .i64 0,.int .i64 0,.int .i64 0,.int .i64 0,.int .i64 0,.int .i64 0,.int .i64 0,.int .i64 0,.int .i64 0] 178
theorem nA (n:Nat):n<=n:=Nat.le_refl n
theorem nB {c:Prop} {h:Decidable c} (g:¬c) {α:Sort _} {t e:α}:ite c t e=e:=if_neg g
theorem nC {c:Prop} {h:Decidable c} (g:c) {α:Sort _} {t e:α}:ite c t e=t:=if_pos g
theorem nD (n:Nat):0<=n:=Nat.zero_le n
theorem nE (n:Nat) (w:World):Below n w w:=Below.refl n w
theorem nF (n:Nat):(n:Int).toNat=n:=Int.toNat_natCast n
theorem nG {α:Type _} (a b:α):(some a=some b)=(a=b):=Option.some.injEq a b
theorem nH (a b:Bool):((a && b)=true)=(a=true/\b=true):=Bool.and_eq_true a b
theorem nI {p:Prop} [Decidable p]:(decide p=true)=p:=decide_eq_true_eq
theorem nJ {n m:Nat} (h:n<m):n<=m:=Nat.le_of_lt h
theorem nK (n:Nat):n<=n.succ:=Nat.le_succ n
theorem nL (n:Nat):0+n=n:=Nat.zero_add n
theorem nP (n:Nat):n+0=n:=Nat.add_zero n
theorem nQ {α:Sort _} {h:Decidable True} (t e:α):ite True t e=t:=if_true t e
