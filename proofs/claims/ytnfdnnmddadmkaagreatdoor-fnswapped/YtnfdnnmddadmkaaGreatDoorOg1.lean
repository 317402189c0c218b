import Derived.Test.YtnfdnnmddadmkaaGreatDoorOg0
import Derived.WalkKit
import Derived.WalkSpells
import Derived.WalkLawsBesides
import Derived.Handy
namespace Go.Proofs.YtnfdnnmddadmkaaGreatDoor
set_option maxHeartbeats 400000
open Go.RowKit
def inB (x lo hi:Int):Bool:=decide (lo<=x/\x<=hi)
def belB (x n:Int):Bool:=decide (0<=x/\x<n)
theorem l1In_any (x lo hi:Int) (w:World):
  Calls Tryz.prog 41 #[.int .i64 x,.int .i64 lo,.int .i64 hi] w fun e w'=>e=.returned (.bool (inB x lo hi))/\w'=w:=by
 by_cases h1:lo<=x
 ·by_cases h2:x<=hi
  ·go_enter Tryz.func41,Tryz.ntmps41
   go_wp2
   go_ret
   exact ⟨by simp [inB,h1,h2],rfl⟩
  ·go_enter Tryz.func41,Tryz.ntmps41
   go_wp2
   go_ret
   exact ⟨by simp [inB,h1,h2],rfl⟩
 ·go_enter Tryz.func41,Tryz.ntmps41
  go_wp2
  go_ret
  exact ⟨by simp [inB];omega,rfl⟩
theorem isBelow_any (x n:Int) (w:World):
  Calls Tryz.prog 38 #[.int .i64 x,.int .i64 n] w fun e w'=>e=.returned (.bool (belB x n))/\w'=w:=by
 by_cases h1:0<=x
 ·by_cases h2:x<n
  ·go_enter Tryz.func38,Tryz.ntmps38
   go_wp2
   go_ret
   exact ⟨by simp [belB,h1,h2],rfl⟩
  ·go_enter Tryz.func38,Tryz.ntmps38
   go_wp2
   go_ret
   exact ⟨by simp [belB,h1,h2],rfl⟩
 ·go_enter Tryz.func38,Tryz.ntmps38
  go_wp2
  go_ret
  exact ⟨by simp [belB];omega,rfl⟩
theorem qcr (x:Int) (w:World):
  Calls Tryz.prog 248 #[.int .i64 x] w fun e w'=>e=.returned (.bool (belB x 4))/\w'=w:=by
 go_enter Tryz.func248,Tryz.ntmps248
 go_wp2_with (go_at_call 38;refine (isBelow_any _ _ _).mono ?_;rintro e w' ⟨rfl,rfl⟩)
 go_ret
 exact ⟨rfl,rfl⟩
theorem isNum_any (x:Int) (w:World):
  Calls Tryz.prog 224 #[.int .i64 x] w fun e w'=>e=.returned (.bool (inB x (-1000000000) 1000000000))/\w'=w:=by
 by_cases h1:-1000000000<=x
 ·by_cases h2:x<=1000000000
  ·go_enter Tryz.func224,Tryz.ntmps224
   go_wp2
   go_ret
   exact ⟨by simp [inB,h1,h2],rfl⟩
  ·go_enter Tryz.func224,Tryz.ntmps224
   go_wp2
   go_ret
   exact ⟨by simp [inB,h1,h2],rfl⟩
 ·go_enter Tryz.func224,Tryz.ntmps224
  go_wp2
  go_ret
  exact ⟨by simp [inB];omega,rfl⟩
theorem l1Num_any (x:Int) (w:World):
  Calls Tryz.prog 170 #[.int .i64 x] w fun e w'=>e=.returned (.bool (inB x (-1000000000) 1000000000))/\w'=w:=by
 go_enter Tryz.func170,Tryz.ntmps170
 go_wp2_with (go_at_call 41;refine (l1In_any _ _ _ _).mono ?_;rintro e w' ⟨rfl,rfl⟩)
 go_ret
 exact ⟨rfl,rfl⟩
