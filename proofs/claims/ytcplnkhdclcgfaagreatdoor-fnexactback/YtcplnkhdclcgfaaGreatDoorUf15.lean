import Derived.Test.YtcplnkhdclcgfaaGreatDoorUf0
import Derived.Test.YtcplnkhdclcgfaaGreatDoorUf7
import Derived.Test.YtcplnkhdclcgfaaGreatDoorUf1
namespace Go.Proofs.YtcplnkhdclcgfaaGreatDoor
open Go.RowKit
abbrev put5 (w:World) (N:Nat) (o r a b n:Int):World:=
 ((((w.setCell ⟨N,0,none⟩ (.int .i64 o)).setCell ⟨N,1,none⟩ (.int .i64 r)).setCell ⟨N,2,none⟩ (.int .i64 a)).setCell ⟨N,3,none⟩ (.int .i64 b)).setCell ⟨N,4,none⟩ (.int .i64 n)
def Five (w:World) (N:Nat) (o r a b n:Int):Prop:=w.heap[N]? = some (.cells #[.int .i64 o,.int .i64 r,.int .i64 a,.int .i64 b,.int .i64 n] 99 (0,0))
def pick9 (j:Nat):Int:=[(-1:Int),0,3,4,9,29,30,1000000000,1000000001].getD j 0
