import Derived.Test.YtchhijiibjijhaaGreatDoorYf16
import Derived.Laws.EntriesVeiled
import Derived.Test.YtchhijiibjijhaaGreatDoorYf17
namespace Go.Proofs.YtchhijiibjijhaaGreatDoor
set_option maxHeartbeats 1000000
open Go.RowKit
theorem qwl (w:World):
  Calls Tryz.prog 211 #[.int .i64 1] w fun e w'=>e=.returned (.func (.func 234) #[] #[])/\Below w.heap.size w w':=by
 go_enter Tryz.func211,Tryz.ntmps211
 go_wp2_with fail
 refine bodyPost_ret (v:=.func (.func 234) #[] #[]) (by simp [results,Tryz.results211,go_sem]) rfl ⟨rfl,?_⟩
 go_grown
theorem qwm (w:World):
  Calls Tryz.prog 211 #[.int .i64 2] w fun e w'=>e=.returned (.func (.func 235) #[] #[])/\Below w.heap.size w w':=by
 go_enter Tryz.func211,Tryz.ntmps211
 go_wp2_with fail
 refine bodyPost_ret (v:=.func (.func 235) #[] #[]) (by simp [results,Tryz.results211,go_sem]) rfl ⟨rfl,?_⟩
 go_grown
theorem qwn (w:World):
  Calls Tryz.prog 211 #[.int .i64 3] w fun e w'=>e=.returned (.func (.func 236) #[] #[])/\Below w.heap.size w w':=by
 go_enter Tryz.func211,Tryz.ntmps211
 go_wp2_with fail
 refine bodyPost_ret (v:=.func (.func 236) #[] #[]) (by simp [results,Tryz.results211,go_sem]) rfl ⟨rfl,?_⟩
 go_grown
theorem qwo (w:World):
  Calls Tryz.prog 211 #[.int .i64 4] w fun e w'=>e=.returned (.func (.func 237) #[] #[])/\Below w.heap.size w w':=by
 go_enter Tryz.func211,Tryz.ntmps211
 go_wp2_with fail
 refine bodyPost_ret (v:=.func (.func 237) #[] #[]) (by simp [results,Tryz.results211,go_sem]) rfl ⟨rfl,?_⟩
 go_grown
theorem qrf (w:World):
  Calls Tryz.prog 211 #[.int .i64 5] w fun e w'=>e=.returned (.func (.func 238) #[] #[])/\Below w.heap.size w w':=by
 go_enter Tryz.func211,Tryz.ntmps211
 go_wp2_with fail
 refine bodyPost_ret (v:=.func (.func 238) #[] #[]) (by simp [results,Tryz.results211,go_sem]) rfl ⟨rfl,?_⟩
 go_grown
theorem qwp (w:World):
  Calls Tryz.prog 211 #[.int .i64 6] w fun e w'=>e=.returned (.func (.func 239) #[] #[])/\Below w.heap.size w w':=by
 go_enter Tryz.func211,Tryz.ntmps211
 go_wp2_with fail
 refine bodyPost_ret (v:=.func (.func 239) #[] #[]) (by simp [results,Tryz.results211,go_sem]) rfl ⟨rfl,?_⟩
 go_grown
theorem qwq (w:World):
  Calls Tryz.prog 211 #[.int .i64 7] w fun e w'=>e=.returned (.func (.func 240) #[] #[])/\Below w.heap.size w w':=by
 go_enter Tryz.func211,Tryz.ntmps211
 go_wp2_with fail
 refine bodyPost_ret (v:=.func (.func 240) #[] #[]) (by simp [results,Tryz.results211,go_sem]) rfl ⟨rfl,?_⟩
 go_grown
theorem qwr (w:World):
  Calls Tryz.prog 211 #[.int .i64 8] w fun e w'=>e=.returned (.func (.func 241) #[] #[])/\Below w.heap.size w w':=by
 go_enter Tryz.func211,Tryz.ntmps211
 go_wp2_with fail
 refine bodyPost_ret (v:=.func (.func 241) #[] #[]) (by simp [results,Tryz.results211,go_sem]) rfl ⟨rfl,?_⟩
 go_grown
theorem qws (w:World):
  Calls Tryz.prog 211 #[.int .i64 9] w fun e w'=>e=.returned (.func (.func 242) #[] #[])/\Below w.heap.size w w':=by
 go_enter Tryz.func211,Tryz.ntmps211
 go_wp2_with fail
 refine bodyPost_ret (v:=.func (.func 242) #[] #[]) (by simp [results,Tryz.results211,go_sem]) rfl ⟨rfl,?_⟩
 go_grown
theorem qn3 (w:World):
  Calls Tryz.prog 211 #[.int .i64 10] w fun e w'=>e=.returned (.func (.func 243) #[] #[])/\Below w.heap.size w w':=by
 go_enter Tryz.func211,Tryz.ntmps211
 go_wp2_with fail
 refine bodyPost_ret (v:=.func (.func 243) #[] #[]) (by simp [results,Tryz.results211,go_sem]) rfl ⟨rfl,?_⟩
 go_grown
theorem qu1 (w:World):
  Calls Tryz.prog 211 #[.int .i64 11] w fun e w'=>e=.returned (.func (.func 244) #[] #[])/\Below w.heap.size w w':=by
 go_enter Tryz.func211,Tryz.ntmps211
 go_wp2_with fail
 refine bodyPost_ret (v:=.func (.func 244) #[] #[]) (by simp [results,Tryz.results211,go_sem]) rfl ⟨rfl,?_⟩
 go_grown
