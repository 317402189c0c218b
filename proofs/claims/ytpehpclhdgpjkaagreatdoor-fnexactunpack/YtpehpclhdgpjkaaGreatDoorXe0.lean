import Derived.Test.YtpehpclhdgpjkaaGreatDoorRows
import Derived.Laws.AppendOwn
import Derived.Below
namespace Go.Proofs.YtpehpclhdgpjkaaGreatDoor
open Go Go.RowKit
theorem zD {α:Type} (l:List α) (i:Nat) (a:α):l.toArray.setIfInBounds i a=(l.set i a).toArray:=List.setIfInBounds_toArray ..
theorem zE {α:Type} (x:α) (l:List α) (a:α):(x :: l).set 0 a=a :: l:=rfl
theorem zF {α:Type} (x:α) (l:List α) (i:Nat) (a:α):(x :: l).set (i+1) a=x :: l.set i a:=rfl
theorem zH {w w':World} {a:Addr} (h:w'.heap[a.block]? = w.heap[a.block]?):w'.cell? a=w.cell? a:=World.cell?_of_block h
theorem zI {w w':World} {a:Addr} (h:w'.heap[a.block]? = w.heap[a.block]?):w'.frozen? a=w.frozen? a:=World.frozen?_of_block h
theorem zJ (w:World) (a:Addr) {u:Value} (h:w.cell? a=some u):a.block<w.heap.size:=World.block_lt_of_cell? w a h
theorem zK (b:Bool):b=true ∨ b=false:=Bool.eq_false_or_eq_true b
theorem zL {n m k:Nat} (h:n<m) (g:m ≤ k):n<k:=Nat.lt_of_lt_of_le h g
theorem zN (w:World) (a:Addr) (u:Value) (k:Nat) (h:k≠a.block):(w.setCell a u).heap[k]? = w.heap[k]?:=Below.heap_setCell w a u k h
theorem zO {n m k:Nat} (h:n ≤ m) (g:m ≤ k):n ≤ k:=Nat.le_trans h g
abbrev oQ0 (x0:Int) (x1:Int) (x2:Int):Obj:=.cells #[.int .i64 x0,.int .i64 x1,.int .i64 x2] 46
abbrev oQ1 (x0:Int) (x1:Option Addr) (x2:Nat) (x3:Nat) (x4:Option Addr) (x5:Nat) (x6:Nat) (x7:Int):Obj:=.cells #[.int .i64 x0,.slice x1 x2 x3,.slice x4 x5 x6,.int .i64 x7] 73
abbrev oQ2 (x0:Int) (x1:Int) (x2:Int) (x3:Int) (x4:Int):Obj:=.cells #[.int .i64 x0,.int .i64 x1,.int .i64 x2,.int .i64 x3,.int .i64 x4] 43
abbrev oQ3 (x0:Int) (x1:Int) (x2:Int) (x3:Int) (x4:Int) (x5:Option Addr) (x6:Nat) (x7:Nat) (x8:Int):Obj:=.cells #[.int .i64 x0,.int .i64 x1,.int .i64 x2,.int .i64 x3,.int .i64 x4,.slice x5 x6 x7,.int .i64 x8] 189
abbrev oQ4 (x0:Option Addr) (x1:Nat) (x2:Nat) (x3:Option Addr) (x4:Nat) (x5:Nat) (x6:Option Addr) (x7:Nat) (x8:Nat) (x9:Option Addr) (x10:Nat) (x11:Nat):Obj:=.cells #[.slice x0 x1 x2,.slice x3 x4 x5,.slice x6 x7 x8,.slice x9 x10 x11] 28
abbrev zQ0:Obj:=.cells #[.int .i64 0,.slice none 0 0,.slice none 0 0,.int .i64 0] 73
abbrev zQ1:Obj:=.cells #[.int .i64 0,.int .i64 0,.int .i64 0,.int .i64 0,.int .i64 0,.slice none 0 0,.int .i64 0] 189
abbrev zQ2:Obj:=.cells #[.slice none 0 0,.int .i64 0,.int .i64 0,.int .i64 0,.int .i64 0,.int .i64 0,.int .i64 0,.int .i64 0,.int .i64 0,.int .i64 0,.int .i64 0,.int .i64 0,.int .i64 0,.int .i64 0,.int .i64 0,.int .i64 0,.int .i64 0,.int .i64 0,.int .i64 0,.int .i64 0,.int .i64 0] 59
abbrev zQ3:Obj:=.cells #[.slice none 0 0,.slice none 0 0,.slice none 0 0,.slice none 0 0] 28
abbrev zQ4:Obj:=.cells #[.slice none 0 0,.slice none 0 0,.slice none 0 0,.slice none 0 0,.slice none 0 0,.int .i64 0,.int .i64 0,.int .i64 0,.int .i64 0,.int .i64 0,.int .i64 0,.int .i64 0,.int .i64 0,.int .i64 0,.int .i64 0,.int .i64 0,.int .i64 0,.int .i64 0,.int .i64 0,.int .i64 0,.int .i64 0,.int .i64 0,.int .i64 0,.int .i64 0,.int .i64 0] 96
abbrev zQ5:Obj:=.cells #[.int .i64 0,.int .i64 0,.int .i64 0,.int .i64 0,.int .i64 0] 43
abbrev zQ6:Obj:=.cells #[.int .i64 0,.int .i64 0,.int .i64 0] 46
