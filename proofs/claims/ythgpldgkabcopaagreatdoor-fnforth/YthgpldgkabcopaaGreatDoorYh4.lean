import Derived.Test.YthgpldgkabcopaaGreatDoorYh1
import Derived.Deep.RegionWith
namespace Go.Proofs.YthgpldgkabcopaaGreatDoor
set_option maxRecDepth 100000
set_option maxHeartbeats 1000000
open Go.RowKit
theorem qgd (a n places procs:Int) (w:World) (h5:1<=procs) (h6:procs<=4):
  Calls Tryz.prog 117 #[insV 6 0 a 0 n,.int .i64 places,.int .i64 procs] w fun e w'=>e=.returned (.bool (belB a 4 && belB n procs))/\Bw w w':=by
 have he:∀ wx,(binOp .eql 87 (insV 6 0 a 0 n) (insV 6 0 a 0 n)).run Tryz.prog wx=.ok (.bool true) wx:=fun wx=>by rw [qb5];simp [qa6]
 go_enter Tryz.func117,Tryz.ntmps117
 go_wp2_with (go_at_call 136;refine (qeh _ _ _ _ _).mono ?_;rintro e w1 ⟨rfl,hb1⟩)
 have hz1:w.heap.size<w1.heap.size:=by have:=hb1.size;simp at this;omega
 have c0:w1.cell? (aQ w.heap.size 0)=some (.int .i64 6):=by rw [hb1.cell (by simp)];simp
 have c1:w1.cell? (aQ w.heap.size 1)=some (.int .i64 0):=by rw [hb1.cell (by simp)];simp
 have c2:w1.cell? (aQ w.heap.size 2)=some (.int .i64 a):=by rw [hb1.cell (by simp)];simp
 have c3:w1.cell? (aQ w.heap.size 3)=some (.int .i64 0):=by rw [hb1.cell (by simp)];simp
 have c4:w1.cell? (aQ w.heap.size 4)=some (.int .i64 n):=by rw [hb1.cell (by simp)];simp
 first|(go_region_with (first|(go_at_call 208;refine (qo4 _ _ _).mono ?_;rintro e w2 ⟨rfl,hb2⟩;have d0:=hb2.cell (p:=(aQ w.heap.size 0)) (by simpa using hz1);have d1:=hb2.cell (p:=(aQ w.heap.size 1)) (by simpa using hz1);have d2:=hb2.cell (p:=(aQ w.heap.size 2)) (by simpa using hz1);have d3:=hb2.cell (p:=(aQ w.heap.size 3)) (by simpa using hz1);have d4:=hb2.cell (p:=(aQ w.heap.size 4)) (by simpa using hz1))|(go_at_call 137;refine (qrm _ _ _ _ _).mono ?_;rintro e w3 ⟨rfl,hb3⟩))) | fail
 all_goals
  go_wp2
  go_ret
  exact ⟨rfl,qbh hb1 hb2 hb3⟩
theorem qdk (r a b n places procs:Int) (w:World) (h5:1<=procs) (h6:procs<=4) (hne:qa6 6 0 a 0 n 6 r a b n=false):
  Calls Tryz.prog 117 #[insV 6 r a b n,.int .i64 places,.int .i64 procs] w fun e w'=>e=.returned (.bool (false))/\Bw w w':=by
 have he:∀ wx,(binOp .eql 87 (insV 6 0 a 0 n) (insV 6 r a b n)).run Tryz.prog wx=.ok (.bool false) wx:=fun wx=>by rw [qb5,hne]
 clear hne
 go_enter Tryz.func117,Tryz.ntmps117
 go_wp2_with (go_at_call 136;refine (qeh _ _ _ _ _).mono ?_;rintro e w1 ⟨rfl,hb1⟩)
 have hz1:w.heap.size<w1.heap.size:=by have:=hb1.size;simp at this;omega
 have c0:w1.cell? (aQ w.heap.size 0)=some (.int .i64 6):=by rw [hb1.cell (by simp)];simp
 have c1:w1.cell? (aQ w.heap.size 1)=some (.int .i64 r):=by rw [hb1.cell (by simp)];simp
 have c2:w1.cell? (aQ w.heap.size 2)=some (.int .i64 a):=by rw [hb1.cell (by simp)];simp
 have c3:w1.cell? (aQ w.heap.size 3)=some (.int .i64 b):=by rw [hb1.cell (by simp)];simp
 have c4:w1.cell? (aQ w.heap.size 4)=some (.int .i64 n):=by rw [hb1.cell (by simp)];simp
 first|(go_region_with (go_at_call 208;refine (qo4 _ _ _).mono ?_;rintro e w2 ⟨rfl,hb2⟩;have d0:=hb2.cell (p:=(aQ w.heap.size 0)) (by simpa using hz1);have d1:=hb2.cell (p:=(aQ w.heap.size 1)) (by simpa using hz1);have d2:=hb2.cell (p:=(aQ w.heap.size 2)) (by simpa using hz1);have d3:=hb2.cell (p:=(aQ w.heap.size 3)) (by simpa using hz1);have d4:=hb2.cell (p:=(aQ w.heap.size 4)) (by simpa using hz1))) | fail
 all_goals
  go_wp2
  go_ret
  exact ⟨rfl,qbb hb1 hb2⟩
theorem qge (r n places procs:Int) (w:World) (h5:1<=procs) (h6:procs<=4):
  Calls Tryz.prog 117 #[insV 7 r 0 0 n,.int .i64 places,.int .i64 procs] w fun e w'=>e=.returned (.bool (belB r 4 && ((n == 9) || belB n procs)))/\Bw w w':=by
 have he:∀ wx,(binOp .eql 87 (insV 7 r 0 0 n) (insV 7 r 0 0 n)).run Tryz.prog wx=.ok (.bool true) wx:=fun wx=>by rw [qb5];simp [qa6]
 go_enter Tryz.func117,Tryz.ntmps117
 go_wp2_with (go_at_call 136;refine (qei _ _ _ _ _).mono ?_;rintro e w1 ⟨rfl,hb1⟩)
 have hz1:w.heap.size<w1.heap.size:=by have:=hb1.size;simp at this;omega
 have c0:w1.cell? (aQ w.heap.size 0)=some (.int .i64 7):=by rw [hb1.cell (by simp)];simp
 have c1:w1.cell? (aQ w.heap.size 1)=some (.int .i64 r):=by rw [hb1.cell (by simp)];simp
 have c2:w1.cell? (aQ w.heap.size 2)=some (.int .i64 0):=by rw [hb1.cell (by simp)];simp
 have c3:w1.cell? (aQ w.heap.size 3)=some (.int .i64 0):=by rw [hb1.cell (by simp)];simp
 have c4:w1.cell? (aQ w.heap.size 4)=some (.int .i64 n):=by rw [hb1.cell (by simp)];simp
 first|(go_region_with (first|(go_at_call 209;refine (qo5 _ _ _).mono ?_;rintro e w2 ⟨rfl,hb2⟩;have d0:=hb2.cell (p:=(aQ w.heap.size 0)) (by simpa using hz1);have d1:=hb2.cell (p:=(aQ w.heap.size 1)) (by simpa using hz1);have d2:=hb2.cell (p:=(aQ w.heap.size 2)) (by simpa using hz1);have d3:=hb2.cell (p:=(aQ w.heap.size 3)) (by simpa using hz1);have d4:=hb2.cell (p:=(aQ w.heap.size 4)) (by simpa using hz1))|(go_at_call 137;refine (qro _ _ _ _ _).mono ?_;rintro e w3 ⟨rfl,hb3⟩))) | fail
 all_goals
  go_wp2
  go_ret
  exact ⟨rfl,qbh hb1 hb2 hb3⟩
theorem qdl (r a b n places procs:Int) (w:World) (h5:1<=procs) (h6:procs<=4) (hne:qa6 7 r 0 0 n 7 r a b n=false):
  Calls Tryz.prog 117 #[insV 7 r a b n,.int .i64 places,.int .i64 procs] w fun e w'=>e=.returned (.bool (false))/\Bw w w':=by
 have he:∀ wx,(binOp .eql 87 (insV 7 r 0 0 n) (insV 7 r a b n)).run Tryz.prog wx=.ok (.bool false) wx:=fun wx=>by rw [qb5,hne]
 clear hne
 go_enter Tryz.func117,Tryz.ntmps117
 go_wp2_with (go_at_call 136;refine (qei _ _ _ _ _).mono ?_;rintro e w1 ⟨rfl,hb1⟩)
 have hz1:w.heap.size<w1.heap.size:=by have:=hb1.size;simp at this;omega
 have c0:w1.cell? (aQ w.heap.size 0)=some (.int .i64 7):=by rw [hb1.cell (by simp)];simp
 have c1:w1.cell? (aQ w.heap.size 1)=some (.int .i64 r):=by rw [hb1.cell (by simp)];simp
 have c2:w1.cell? (aQ w.heap.size 2)=some (.int .i64 a):=by rw [hb1.cell (by simp)];simp
 have c3:w1.cell? (aQ w.heap.size 3)=some (.int .i64 b):=by rw [hb1.cell (by simp)];simp
 have c4:w1.cell? (aQ w.heap.size 4)=some (.int .i64 n):=by rw [hb1.cell (by simp)];simp
 first|(go_region_with (go_at_call 209;refine (qo5 _ _ _).mono ?_;rintro e w2 ⟨rfl,hb2⟩;have d0:=hb2.cell (p:=(aQ w.heap.size 0)) (by simpa using hz1);have d1:=hb2.cell (p:=(aQ w.heap.size 1)) (by simpa using hz1);have d2:=hb2.cell (p:=(aQ w.heap.size 2)) (by simpa using hz1);have d3:=hb2.cell (p:=(aQ w.heap.size 3)) (by simpa using hz1);have d4:=hb2.cell (p:=(aQ w.heap.size 4)) (by simpa using hz1))) | fail
 all_goals
  go_wp2
  go_ret
  exact ⟨rfl,qbb hb1 hb2⟩
theorem qfs (a places procs:Int) (w:World) (h5:1<=procs) (h6:procs<=4):
  Calls Tryz.prog 117 #[insV 8 0 a 0 0,.int .i64 places,.int .i64 procs] w fun e w'=>e=.returned (.bool (belB a 4))/\Bw w w':=by
 have he:∀ wx,(binOp .eql 87 (insV 8 0 a 0 0) (insV 8 0 a 0 0)).run Tryz.prog wx=.ok (.bool true) wx:=fun wx=>by rw [qb5];simp [qa6]
 go_enter Tryz.func117,Tryz.ntmps117
 go_wp2_with (go_at_call 136;refine (qd3 _ _ _ _ _).mono ?_;rintro e w1 ⟨rfl,hb1⟩)
 have hz1:w.heap.size<w1.heap.size:=by have:=hb1.size;simp at this;omega
 have c0:w1.cell? (aQ w.heap.size 0)=some (.int .i64 8):=by rw [hb1.cell (by simp)];simp
 have c1:w1.cell? (aQ w.heap.size 1)=some (.int .i64 0):=by rw [hb1.cell (by simp)];simp
 have c2:w1.cell? (aQ w.heap.size 2)=some (.int .i64 a):=by rw [hb1.cell (by simp)];simp
 have c3:w1.cell? (aQ w.heap.size 3)=some (.int .i64 0):=by rw [hb1.cell (by simp)];simp
 have c4:w1.cell? (aQ w.heap.size 4)=some (.int .i64 0):=by rw [hb1.cell (by simp)];simp
 first|(go_region_with (first|(go_at_call 210;refine (ql5 _ _).mono ?_;rintro e w2 ⟨rfl,hb2⟩;have d0:=hb2.cell (p:=(aQ w.heap.size 0)) (by simpa using hz1);have d1:=hb2.cell (p:=(aQ w.heap.size 1)) (by simpa using hz1);have d2:=hb2.cell (p:=(aQ w.heap.size 2)) (by simpa using hz1);have d3:=hb2.cell (p:=(aQ w.heap.size 3)) (by simpa using hz1);have d4:=hb2.cell (p:=(aQ w.heap.size 4)) (by simpa using hz1))|(go_at_call 137;refine (qqb _ _ _ _).mono ?_;rintro e w3 ⟨rfl,hb3⟩))) | fail
 all_goals
  go_wp2
  go_ret
  exact ⟨rfl,qbh hb1 hb2 hb3⟩
theorem qcd (r a b n places procs:Int) (w:World) (h5:1<=procs) (h6:procs<=4) (hne:qa6 8 0 a 0 0 8 r a b n=false):
  Calls Tryz.prog 117 #[insV 8 r a b n,.int .i64 places,.int .i64 procs] w fun e w'=>e=.returned (.bool (false))/\Bw w w':=by
 have he:∀ wx,(binOp .eql 87 (insV 8 0 a 0 0) (insV 8 r a b n)).run Tryz.prog wx=.ok (.bool false) wx:=fun wx=>by rw [qb5,hne]
 clear hne
 go_enter Tryz.func117,Tryz.ntmps117
 go_wp2_with (go_at_call 136;refine (qd3 _ _ _ _ _).mono ?_;rintro e w1 ⟨rfl,hb1⟩)
 have hz1:w.heap.size<w1.heap.size:=by have:=hb1.size;simp at this;omega
 have c0:w1.cell? (aQ w.heap.size 0)=some (.int .i64 8):=by rw [hb1.cell (by simp)];simp
 have c1:w1.cell? (aQ w.heap.size 1)=some (.int .i64 r):=by rw [hb1.cell (by simp)];simp
 have c2:w1.cell? (aQ w.heap.size 2)=some (.int .i64 a):=by rw [hb1.cell (by simp)];simp
 have c3:w1.cell? (aQ w.heap.size 3)=some (.int .i64 b):=by rw [hb1.cell (by simp)];simp
 have c4:w1.cell? (aQ w.heap.size 4)=some (.int .i64 n):=by rw [hb1.cell (by simp)];simp
 first|(go_region_with (go_at_call 210;refine (ql5 _ _).mono ?_;rintro e w2 ⟨rfl,hb2⟩;have d0:=hb2.cell (p:=(aQ w.heap.size 0)) (by simpa using hz1);have d1:=hb2.cell (p:=(aQ w.heap.size 1)) (by simpa using hz1);have d2:=hb2.cell (p:=(aQ w.heap.size 2)) (by simpa using hz1);have d3:=hb2.cell (p:=(aQ w.heap.size 3)) (by simpa using hz1);have d4:=hb2.cell (p:=(aQ w.heap.size 4)) (by simpa using hz1))) | fail
 all_goals
  go_wp2
  go_ret
  exact ⟨rfl,qbb hb1 hb2⟩
