import Derived.Test.YtcplnkhdclcgfaaGreatDoorUf0
import Derived.Test.YtcplnkhdclcgfaaGreatDoorUf13
import Derived.Laws.EntriesVeiled
namespace Go.Proofs.YtcplnkhdclcgfaaGreatDoor
set_option maxHeartbeats 1000000
open Go.RowKit
theorem stepOf_1 (w:World):
  Calls Tryz.prog 186 #[.int .i64 1] w fun e w'=>e=.returned (.func (.func 224) #[] #[])/\Below w.heap.size w w':=by
 go_enter Tryz.func186,Tryz.ntmps186
 go_wp2_with fail
 refine bodyPost_ret (v:=.func (.func 224) #[] #[]) (by simp [results,Tryz.results186,go_sem]) rfl ⟨rfl,?_⟩
 go_grown
theorem stepOf_2 (w:World):
  Calls Tryz.prog 186 #[.int .i64 2] w fun e w'=>e=.returned (.func (.func 225) #[] #[])/\Below w.heap.size w w':=by
 go_enter Tryz.func186,Tryz.ntmps186
 go_wp2_with fail
 refine bodyPost_ret (v:=.func (.func 225) #[] #[]) (by simp [results,Tryz.results186,go_sem]) rfl ⟨rfl,?_⟩
 go_grown
theorem stepOf_3 (w:World):
  Calls Tryz.prog 186 #[.int .i64 3] w fun e w'=>e=.returned (.func (.func 226) #[] #[])/\Below w.heap.size w w':=by
 go_enter Tryz.func186,Tryz.ntmps186
 go_wp2_with fail
 refine bodyPost_ret (v:=.func (.func 226) #[] #[]) (by simp [results,Tryz.results186,go_sem]) rfl ⟨rfl,?_⟩
 go_grown
theorem stepOf_4 (w:World):
  Calls Tryz.prog 186 #[.int .i64 4] w fun e w'=>e=.returned (.func (.func 227) #[] #[])/\Below w.heap.size w w':=by
 go_enter Tryz.func186,Tryz.ntmps186
 go_wp2_with fail
 refine bodyPost_ret (v:=.func (.func 227) #[] #[]) (by simp [results,Tryz.results186,go_sem]) rfl ⟨rfl,?_⟩
 go_grown
theorem stepOf_5 (w:World):
  Calls Tryz.prog 186 #[.int .i64 5] w fun e w'=>e=.returned (.func (.func 228) #[] #[])/\Below w.heap.size w w':=by
 go_enter Tryz.func186,Tryz.ntmps186
 go_wp2_with fail
 refine bodyPost_ret (v:=.func (.func 228) #[] #[]) (by simp [results,Tryz.results186,go_sem]) rfl ⟨rfl,?_⟩
 go_grown
theorem stepOf_6 (w:World):
  Calls Tryz.prog 186 #[.int .i64 6] w fun e w'=>e=.returned (.func (.func 229) #[] #[])/\Below w.heap.size w w':=by
 go_enter Tryz.func186,Tryz.ntmps186
 go_wp2_with fail
 refine bodyPost_ret (v:=.func (.func 229) #[] #[]) (by simp [results,Tryz.results186,go_sem]) rfl ⟨rfl,?_⟩
 go_grown
theorem stepOf_7 (w:World):
  Calls Tryz.prog 186 #[.int .i64 7] w fun e w'=>e=.returned (.func (.func 230) #[] #[])/\Below w.heap.size w w':=by
 go_enter Tryz.func186,Tryz.ntmps186
 go_wp2_with fail
 refine bodyPost_ret (v:=.func (.func 230) #[] #[]) (by simp [results,Tryz.results186,go_sem]) rfl ⟨rfl,?_⟩
 go_grown
theorem stepOf_8 (w:World):
  Calls Tryz.prog 186 #[.int .i64 8] w fun e w'=>e=.returned (.func (.func 231) #[] #[])/\Below w.heap.size w w':=by
 go_enter Tryz.func186,Tryz.ntmps186
 go_wp2_with fail
 refine bodyPost_ret (v:=.func (.func 231) #[] #[]) (by simp [results,Tryz.results186,go_sem]) rfl ⟨rfl,?_⟩
 go_grown
theorem stepOf_9 (w:World):
  Calls Tryz.prog 186 #[.int .i64 9] w fun e w'=>e=.returned (.func (.func 232) #[] #[])/\Below w.heap.size w w':=by
 go_enter Tryz.func186,Tryz.ntmps186
 go_wp2_with fail
 refine bodyPost_ret (v:=.func (.func 232) #[] #[]) (by simp [results,Tryz.results186,go_sem]) rfl ⟨rfl,?_⟩
 go_grown
theorem stepOf_10 (w:World):
  Calls Tryz.prog 186 #[.int .i64 10] w fun e w'=>e=.returned (.func (.func 233) #[] #[])/\Below w.heap.size w w':=by
 go_enter Tryz.func186,Tryz.ntmps186
 go_wp2_with fail
 refine bodyPost_ret (v:=.func (.func 233) #[] #[]) (by simp [results,Tryz.results186,go_sem]) rfl ⟨rfl,?_⟩
 go_grown
theorem stepOf_11 (w:World):
  Calls Tryz.prog 186 #[.int .i64 11] w fun e w'=>e=.returned (.func (.func 234) #[] #[])/\Below w.heap.size w w':=by
 go_enter Tryz.func186,Tryz.ntmps186
 go_wp2_with fail
 refine bodyPost_ret (v:=.func (.func 234) #[] #[]) (by simp [results,Tryz.results186,go_sem]) rfl ⟨rfl,?_⟩
 go_grown
