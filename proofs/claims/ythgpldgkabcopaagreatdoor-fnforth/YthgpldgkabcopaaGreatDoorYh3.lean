import Derived.Test.YthgpldgkabcopaaGreatDoorYh1
import Derived.Deep.RegionWith
namespace Go.Proofs.YthgpldgkabcopaaGreatDoor
set_option maxRecDepth 100000
set_option maxHeartbeats 1000000
open Go.RowKit
theorem qg6 (r n places procs:Int) (w:World) (h5:1<=procs) (h6:procs<=4):
  Calls Tryz.prog 117 #[insV 1 r 0 0 n,.int .i64 places,.int .i64 procs] w fun e w'=>e=.returned (.bool (belB r 4 && inB n (-1000000000) 1000000000))/\Bw w w':=by
 have he:∀ wx,(binOp .eql 87 (insV 1 r 0 0 n) (insV 1 r 0 0 n)).run Tryz.prog wx=.ok (.bool true) wx:=fun wx=>by rw [qb5];simp [qa6]
 go_enter Tryz.func117,Tryz.ntmps117
 go_wp2_with (go_at_call 136;refine (qfd _ _ _ _ _).mono ?_;rintro e w1 ⟨rfl,hb1⟩)
 have hz1:w.heap.size<w1.heap.size:=by have:=hb1.size;simp at this;omega
 have c0:w1.cell? (aQ w.heap.size 0)=some (.int .i64 1):=by rw [hb1.cell (by simp)];simp
 have c1:w1.cell? (aQ w.heap.size 1)=some (.int .i64 r):=by rw [hb1.cell (by simp)];simp
 have c2:w1.cell? (aQ w.heap.size 2)=some (.int .i64 0):=by rw [hb1.cell (by simp)];simp
 have c3:w1.cell? (aQ w.heap.size 3)=some (.int .i64 0):=by rw [hb1.cell (by simp)];simp
 have c4:w1.cell? (aQ w.heap.size 4)=some (.int .i64 n):=by rw [hb1.cell (by simp)];simp
 first|(go_region_with (first|(go_at_call 206;refine (qrx _ _ _).mono ?_;rintro e w2 ⟨rfl,hb2⟩;have d0:=hb2.cell (p:=(aQ w.heap.size 0)) (by simpa using hz1);have d1:=hb2.cell (p:=(aQ w.heap.size 1)) (by simpa using hz1);have d2:=hb2.cell (p:=(aQ w.heap.size 2)) (by simpa using hz1);have d3:=hb2.cell (p:=(aQ w.heap.size 3)) (by simpa using hz1);have d4:=hb2.cell (p:=(aQ w.heap.size 4)) (by simpa using hz1))|(go_at_call 137;refine (qtx _ _ _ _ _).mono ?_;rintro e w3 ⟨rfl,hb3⟩))) | fail
 all_goals
  go_wp2
  go_ret
  exact ⟨rfl,qbh hb1 hb2 hb3⟩
theorem qd7 (r a b n places procs:Int) (w:World) (h5:1<=procs) (h6:procs<=4) (hne:qa6 1 r 0 0 n 1 r a b n=false):
  Calls Tryz.prog 117 #[insV 1 r a b n,.int .i64 places,.int .i64 procs] w fun e w'=>e=.returned (.bool (false))/\Bw w w':=by
 have he:∀ wx,(binOp .eql 87 (insV 1 r 0 0 n) (insV 1 r a b n)).run Tryz.prog wx=.ok (.bool false) wx:=fun wx=>by rw [qb5,hne]
 clear hne
 go_enter Tryz.func117,Tryz.ntmps117
 go_wp2_with (go_at_call 136;refine (qfd _ _ _ _ _).mono ?_;rintro e w1 ⟨rfl,hb1⟩)
 have hz1:w.heap.size<w1.heap.size:=by have:=hb1.size;simp at this;omega
 have c0:w1.cell? (aQ w.heap.size 0)=some (.int .i64 1):=by rw [hb1.cell (by simp)];simp
 have c1:w1.cell? (aQ w.heap.size 1)=some (.int .i64 r):=by rw [hb1.cell (by simp)];simp
 have c2:w1.cell? (aQ w.heap.size 2)=some (.int .i64 a):=by rw [hb1.cell (by simp)];simp
 have c3:w1.cell? (aQ w.heap.size 3)=some (.int .i64 b):=by rw [hb1.cell (by simp)];simp
 have c4:w1.cell? (aQ w.heap.size 4)=some (.int .i64 n):=by rw [hb1.cell (by simp)];simp
 first|(go_region_with (go_at_call 206;refine (qrx _ _ _).mono ?_;rintro e w2 ⟨rfl,hb2⟩;have d0:=hb2.cell (p:=(aQ w.heap.size 0)) (by simpa using hz1);have d1:=hb2.cell (p:=(aQ w.heap.size 1)) (by simpa using hz1);have d2:=hb2.cell (p:=(aQ w.heap.size 2)) (by simpa using hz1);have d3:=hb2.cell (p:=(aQ w.heap.size 3)) (by simpa using hz1);have d4:=hb2.cell (p:=(aQ w.heap.size 4)) (by simpa using hz1))) | fail
 all_goals
  go_wp2
  go_ret
  exact ⟨rfl,qbb hb1 hb2⟩
theorem qbz (op r a b places procs:Int) (w:World) (h5:1<=procs) (h6:procs<=4) (q1:2<=op) (q2:op<=5):
  Calls Tryz.prog 117 #[insV op r a b 0,.int .i64 places,.int .i64 procs] w fun e w'=>e=.returned (.bool (belB r 4 && belB a 4 && belB b 4))/\Bw w w':=by
 have he:∀ wx,(binOp .eql 87 (insV op r a b 0) (insV op r a b 0)).run Tryz.prog wx=.ok (.bool true) wx:=fun wx=>by rw [qb5];simp [qa6]
 go_enter Tryz.func117,Tryz.ntmps117
 go_wp2_with (go_at_call 136;refine (qg3 _ _ _ _ _ _ q1 q2).mono ?_;rintro e w1 ⟨rfl,hb1⟩)
 have hz1:w.heap.size<w1.heap.size:=by have:=hb1.size;simp at this;omega
 have c0:w1.cell? (aQ w.heap.size 0)=some (.int .i64 op):=by rw [hb1.cell (by simp)];simp
 have c1:w1.cell? (aQ w.heap.size 1)=some (.int .i64 r):=by rw [hb1.cell (by simp)];simp
 have c2:w1.cell? (aQ w.heap.size 2)=some (.int .i64 a):=by rw [hb1.cell (by simp)];simp
 have c3:w1.cell? (aQ w.heap.size 3)=some (.int .i64 b):=by rw [hb1.cell (by simp)];simp
 have c4:w1.cell? (aQ w.heap.size 4)=some (.int .i64 0):=by rw [hb1.cell (by simp)];simp
 first|(go_region_with (first|(go_at_call 207;refine (qo2 _ _ _ _ _).mono ?_;rintro e w2 ⟨rfl,hb2⟩;have d0:=hb2.cell (p:=(aQ w.heap.size 0)) (by simpa using hz1);have d1:=hb2.cell (p:=(aQ w.heap.size 1)) (by simpa using hz1);have d2:=hb2.cell (p:=(aQ w.heap.size 2)) (by simpa using hz1);have d3:=hb2.cell (p:=(aQ w.heap.size 3)) (by simpa using hz1);have d4:=hb2.cell (p:=(aQ w.heap.size 4)) (by simpa using hz1))|(go_at_call 137;refine (qrk _ _ _ _ _ _ _).mono ?_;rintro e w3 ⟨rfl,hb3⟩))) | fail
 all_goals
  go_wp2
  go_ret
  exact ⟨rfl,qbh hb1 hb2 hb3⟩
theorem qb0 (op r a b n places procs:Int) (w:World) (h5:1<=procs) (h6:procs<=4) (q1:2<=op) (q2:op<=5) (hne:qa6 op r a b 0 op r a b n=false):
  Calls Tryz.prog 117 #[insV op r a b n,.int .i64 places,.int .i64 procs] w fun e w'=>e=.returned (.bool (false))/\Bw w w':=by
 have he:∀ wx,(binOp .eql 87 (insV op r a b 0) (insV op r a b n)).run Tryz.prog wx=.ok (.bool false) wx:=fun wx=>by rw [qb5,hne]
 clear hne
 go_enter Tryz.func117,Tryz.ntmps117
 go_wp2_with (go_at_call 136;refine (qg3 _ _ _ _ _ _ q1 q2).mono ?_;rintro e w1 ⟨rfl,hb1⟩)
 have hz1:w.heap.size<w1.heap.size:=by have:=hb1.size;simp at this;omega
 have c0:w1.cell? (aQ w.heap.size 0)=some (.int .i64 op):=by rw [hb1.cell (by simp)];simp
 have c1:w1.cell? (aQ w.heap.size 1)=some (.int .i64 r):=by rw [hb1.cell (by simp)];simp
 have c2:w1.cell? (aQ w.heap.size 2)=some (.int .i64 a):=by rw [hb1.cell (by simp)];simp
 have c3:w1.cell? (aQ w.heap.size 3)=some (.int .i64 b):=by rw [hb1.cell (by simp)];simp
 have c4:w1.cell? (aQ w.heap.size 4)=some (.int .i64 n):=by rw [hb1.cell (by simp)];simp
 first|(go_region_with (go_at_call 207;refine (qo2 _ _ _ _ _).mono ?_;rintro e w2 ⟨rfl,hb2⟩;have d0:=hb2.cell (p:=(aQ w.heap.size 0)) (by simpa using hz1);have d1:=hb2.cell (p:=(aQ w.heap.size 1)) (by simpa using hz1);have d2:=hb2.cell (p:=(aQ w.heap.size 2)) (by simpa using hz1);have d3:=hb2.cell (p:=(aQ w.heap.size 3)) (by simpa using hz1);have d4:=hb2.cell (p:=(aQ w.heap.size 4)) (by simpa using hz1))) | fail
 all_goals
  go_wp2
  go_ret
  exact ⟨rfl,qbb hb1 hb2⟩
theorem qg5 (places procs:Int) (w:World) (h5:1<=procs) (h6:procs<=4):
  Calls Tryz.prog 117 #[insV 11 0 0 0 0,.int .i64 places,.int .i64 procs] w fun e w'=>e=.returned (.bool (true))/\Bw w w':=by
 have he:∀ wx,(binOp .eql 87 (insV 11 0 0 0 0) (insV 11 0 0 0 0)).run Tryz.prog wx=.ok (.bool true) wx:=fun wx=>by rw [qb5];simp [qa6]
 go_enter Tryz.func117,Tryz.ntmps117
 go_wp2_with (go_at_call 136;refine (qfc _ _ _ _ _).mono ?_;rintro e w1 ⟨rfl,hb1⟩)
 have hz1:w.heap.size<w1.heap.size:=by have:=hb1.size;simp at this;omega
 have c0:w1.cell? (aQ w.heap.size 0)=some (.int .i64 11):=by rw [hb1.cell (by simp)];simp
 have c1:w1.cell? (aQ w.heap.size 1)=some (.int .i64 0):=by rw [hb1.cell (by simp)];simp
 have c2:w1.cell? (aQ w.heap.size 2)=some (.int .i64 0):=by rw [hb1.cell (by simp)];simp
 have c3:w1.cell? (aQ w.heap.size 3)=some (.int .i64 0):=by rw [hb1.cell (by simp)];simp
 have c4:w1.cell? (aQ w.heap.size 4)=some (.int .i64 0):=by rw [hb1.cell (by simp)];simp
 first|(go_region_with (first|(go_at_call 213;refine (qrw _).mono ?_;rintro e w2 ⟨rfl,hb2⟩;have d0:=hb2.cell (p:=(aQ w.heap.size 0)) (by simpa using hz1);have d1:=hb2.cell (p:=(aQ w.heap.size 1)) (by simpa using hz1);have d2:=hb2.cell (p:=(aQ w.heap.size 2)) (by simpa using hz1);have d3:=hb2.cell (p:=(aQ w.heap.size 3)) (by simpa using hz1);have d4:=hb2.cell (p:=(aQ w.heap.size 4)) (by simpa using hz1))|(go_at_call 137;refine (qtw _ _ _).mono ?_;rintro e w3 ⟨rfl,hb3⟩))) | fail
 all_goals
  go_wp2
  go_ret
  exact ⟨rfl,qbh hb1 hb2 hb3⟩
theorem qb6 (r a b n places procs:Int) (w:World) (h5:1<=procs) (h6:procs<=4) (hne:qa6 11 0 0 0 0 11 r a b n=false):
  Calls Tryz.prog 117 #[insV 11 r a b n,.int .i64 places,.int .i64 procs] w fun e w'=>e=.returned (.bool (false))/\Bw w w':=by
 have he:∀ wx,(binOp .eql 87 (insV 11 0 0 0 0) (insV 11 r a b n)).run Tryz.prog wx=.ok (.bool false) wx:=fun wx=>by rw [qb5,hne]
 clear hne
 go_enter Tryz.func117,Tryz.ntmps117
 go_wp2_with (go_at_call 136;refine (qfc _ _ _ _ _).mono ?_;rintro e w1 ⟨rfl,hb1⟩)
 have hz1:w.heap.size<w1.heap.size:=by have:=hb1.size;simp at this;omega
 have c0:w1.cell? (aQ w.heap.size 0)=some (.int .i64 11):=by rw [hb1.cell (by simp)];simp
 have c1:w1.cell? (aQ w.heap.size 1)=some (.int .i64 r):=by rw [hb1.cell (by simp)];simp
 have c2:w1.cell? (aQ w.heap.size 2)=some (.int .i64 a):=by rw [hb1.cell (by simp)];simp
 have c3:w1.cell? (aQ w.heap.size 3)=some (.int .i64 b):=by rw [hb1.cell (by simp)];simp
 have c4:w1.cell? (aQ w.heap.size 4)=some (.int .i64 n):=by rw [hb1.cell (by simp)];simp
 first|(go_region_with (go_at_call 213;refine (qrw _).mono ?_;rintro e w2 ⟨rfl,hb2⟩;have d0:=hb2.cell (p:=(aQ w.heap.size 0)) (by simpa using hz1);have d1:=hb2.cell (p:=(aQ w.heap.size 1)) (by simpa using hz1);have d2:=hb2.cell (p:=(aQ w.heap.size 2)) (by simpa using hz1);have d3:=hb2.cell (p:=(aQ w.heap.size 3)) (by simpa using hz1);have d4:=hb2.cell (p:=(aQ w.heap.size 4)) (by simpa using hz1))) | fail
 all_goals
  go_wp2
  go_ret
  exact ⟨rfl,qbb hb1 hb2⟩
