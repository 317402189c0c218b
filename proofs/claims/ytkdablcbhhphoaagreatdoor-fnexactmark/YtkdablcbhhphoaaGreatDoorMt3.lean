import Derived.Test.YtkdablcbhhphoaaGreatDoorMt1
namespace Go.Proofs.YtkdablcbhhphoaaGreatDoor
open Go.Proofs.Tryz
set_option maxRecDepth 100000
set_option maxHeartbeats 1000000
open Go.RowKit
theorem qhp (r n places procs:Int) (w:World) (h5:1<=procs) (h6:procs<=4):
  Calls prog 225 #[insV 1 r 0 0 n,.int .i64 places,.int .i64 procs] w (rB w (.bool (belB r 4 && inB n (-1000000000) 1000000000))):=by
 have he:∀ wx,(binOp .eql 184 (insV 1 r 0 0 n) (insV 1 r 0 0 n)).run prog wx=.ok (.bool true) wx:=fun wx=>by rw [qb2];simp [qaz]
 go_enter func225,ntmps225
 go_wp2_with (go_at_call 165;refine (qfa _ _ _ _ _).mono ?_;rintro e w1 ⟨rfl,hb1⟩)
 have hz1:w.heap.size<w1.heap.size:=by have:=hb1.size;simp at this;omega
 have c0:w1.cell? ⟨w.heap.size,0,none⟩=some (.int .i64 1):=by rw [hb1.cell (by simp)];simp
 have c1:w1.cell? ⟨w.heap.size,1,none⟩=some (.int .i64 r):=by rw [hb1.cell (by simp)];simp
 have c2:w1.cell? ⟨w.heap.size,2,none⟩=some (.int .i64 0):=by rw [hb1.cell (by simp)];simp
 have c3:w1.cell? ⟨w.heap.size,3,none⟩=some (.int .i64 0):=by rw [hb1.cell (by simp)];simp
 have c4:w1.cell? ⟨w.heap.size,4,none⟩=some (.int .i64 n):=by rw [hb1.cell (by simp)];simp
 first|(go_region_with (first|(go_at_call 276;refine (qu3 _ _ _).mono ?_;rintro e w2 ⟨rfl,hb2⟩;have d0:=hb2.cell (p:=⟨w.heap.size,0,none⟩) (by simpa using hz1);have d1:=hb2.cell (p:=⟨w.heap.size,1,none⟩) (by simpa using hz1);have d2:=hb2.cell (p:=⟨w.heap.size,2,none⟩) (by simpa using hz1);have d3:=hb2.cell (p:=⟨w.heap.size,3,none⟩) (by simpa using hz1);have d4:=hb2.cell (p:=⟨w.heap.size,4,none⟩) (by simpa using hz1))|(go_at_call 240;refine (qwn _ _ _ _ _).mono ?_;rintro e w3 ⟨rfl,hb3⟩))) | fail
 all_goals
  go_wp2;go_ret;exact ⟨rfl,qa8 hb1 hb2 hb3⟩
theorem qdt (r a b n places procs:Int) (w:World) (h5:1<=procs) (h6:procs<=4) (hne:qaz 1 r 0 0 n 1 r a b n=false):
  Calls prog 225 #[insV 1 r a b n,.int .i64 places,.int .i64 procs] w (rB w (.bool (false))):=by
 have he:∀ wx,(binOp .eql 184 (insV 1 r 0 0 n) (insV 1 r a b n)).run prog wx=.ok (.bool false) wx:=fun wx=>by rw [qb2,hne]
 clear hne
 go_enter func225,ntmps225
 go_wp2_with (go_at_call 165;refine (qfa _ _ _ _ _).mono ?_;rintro e w1 ⟨rfl,hb1⟩)
 have hz1:w.heap.size<w1.heap.size:=by have:=hb1.size;simp at this;omega
 have c0:w1.cell? ⟨w.heap.size,0,none⟩=some (.int .i64 1):=by rw [hb1.cell (by simp)];simp
 have c1:w1.cell? ⟨w.heap.size,1,none⟩=some (.int .i64 r):=by rw [hb1.cell (by simp)];simp
 have c2:w1.cell? ⟨w.heap.size,2,none⟩=some (.int .i64 a):=by rw [hb1.cell (by simp)];simp
 have c3:w1.cell? ⟨w.heap.size,3,none⟩=some (.int .i64 b):=by rw [hb1.cell (by simp)];simp
 have c4:w1.cell? ⟨w.heap.size,4,none⟩=some (.int .i64 n):=by rw [hb1.cell (by simp)];simp
 first|(go_region_with (go_at_call 276;refine (qu3 _ _ _).mono ?_;rintro e w2 ⟨rfl,hb2⟩;have d0:=hb2.cell (p:=⟨w.heap.size,0,none⟩) (by simpa using hz1);have d1:=hb2.cell (p:=⟨w.heap.size,1,none⟩) (by simpa using hz1);have d2:=hb2.cell (p:=⟨w.heap.size,2,none⟩) (by simpa using hz1);have d3:=hb2.cell (p:=⟨w.heap.size,3,none⟩) (by simpa using hz1);have d4:=hb2.cell (p:=⟨w.heap.size,4,none⟩) (by simpa using hz1))) | fail
 all_goals
  go_wp2;go_ret;exact ⟨rfl,qa3 hb1 hb2⟩
theorem qbx (op r a b places procs:Int) (w:World) (h5:1<=procs) (h6:procs<=4) (q1:2<=op) (q2:op<=5):
  Calls prog 225 #[insV op r a b 0,.int .i64 places,.int .i64 procs] w (rB w (.bool (belB r 4 && belB a 4 && belB b 4))):=by
 have he:∀ wx,(binOp .eql 184 (insV op r a b 0) (insV op r a b 0)).run prog wx=.ok (.bool true) wx:=fun wx=>by rw [qb2];simp [qaz]
 go_enter func225,ntmps225
 go_wp2_with (go_at_call 165;refine (qhd _ _ _ _ _ _ q1 q2).mono ?_;rintro e w1 ⟨rfl,hb1⟩)
 have hz1:w.heap.size<w1.heap.size:=by have:=hb1.size;simp at this;omega
 have c0:w1.cell? ⟨w.heap.size,0,none⟩=some (.int .i64 op):=by rw [hb1.cell (by simp)];simp
 have c1:w1.cell? ⟨w.heap.size,1,none⟩=some (.int .i64 r):=by rw [hb1.cell (by simp)];simp
 have c2:w1.cell? ⟨w.heap.size,2,none⟩=some (.int .i64 a):=by rw [hb1.cell (by simp)];simp
 have c3:w1.cell? ⟨w.heap.size,3,none⟩=some (.int .i64 b):=by rw [hb1.cell (by simp)];simp
 have c4:w1.cell? ⟨w.heap.size,4,none⟩=some (.int .i64 0):=by rw [hb1.cell (by simp)];simp
 first|(go_region_with (first|(go_at_call 277;refine (qrt _ _ _ _ _).mono ?_;rintro e w2 ⟨rfl,hb2⟩;have d0:=hb2.cell (p:=⟨w.heap.size,0,none⟩) (by simpa using hz1);have d1:=hb2.cell (p:=⟨w.heap.size,1,none⟩) (by simpa using hz1);have d2:=hb2.cell (p:=⟨w.heap.size,2,none⟩) (by simpa using hz1);have d3:=hb2.cell (p:=⟨w.heap.size,3,none⟩) (by simpa using hz1);have d4:=hb2.cell (p:=⟨w.heap.size,4,none⟩) (by simpa using hz1))|(go_at_call 240;refine (qur _ _ _ _ _ _ _).mono ?_;rintro e w3 ⟨rfl,hb3⟩))) | fail
 all_goals
  go_wp2;go_ret;exact ⟨rfl,qa8 hb1 hb2 hb3⟩
theorem qby (op r a b n places procs:Int) (w:World) (h5:1<=procs) (h6:procs<=4) (q1:2<=op) (q2:op<=5) (hne:qaz op r a b 0 op r a b n=false):
  Calls prog 225 #[insV op r a b n,.int .i64 places,.int .i64 procs] w (rB w (.bool (false))):=by
 have he:∀ wx,(binOp .eql 184 (insV op r a b 0) (insV op r a b n)).run prog wx=.ok (.bool false) wx:=fun wx=>by rw [qb2,hne]
 clear hne
 go_enter func225,ntmps225
 go_wp2_with (go_at_call 165;refine (qhd _ _ _ _ _ _ q1 q2).mono ?_;rintro e w1 ⟨rfl,hb1⟩)
 have hz1:w.heap.size<w1.heap.size:=by have:=hb1.size;simp at this;omega
 have c0:w1.cell? ⟨w.heap.size,0,none⟩=some (.int .i64 op):=by rw [hb1.cell (by simp)];simp
 have c1:w1.cell? ⟨w.heap.size,1,none⟩=some (.int .i64 r):=by rw [hb1.cell (by simp)];simp
 have c2:w1.cell? ⟨w.heap.size,2,none⟩=some (.int .i64 a):=by rw [hb1.cell (by simp)];simp
 have c3:w1.cell? ⟨w.heap.size,3,none⟩=some (.int .i64 b):=by rw [hb1.cell (by simp)];simp
 have c4:w1.cell? ⟨w.heap.size,4,none⟩=some (.int .i64 n):=by rw [hb1.cell (by simp)];simp
 first|(go_region_with (go_at_call 277;refine (qrt _ _ _ _ _).mono ?_;rintro e w2 ⟨rfl,hb2⟩;have d0:=hb2.cell (p:=⟨w.heap.size,0,none⟩) (by simpa using hz1);have d1:=hb2.cell (p:=⟨w.heap.size,1,none⟩) (by simpa using hz1);have d2:=hb2.cell (p:=⟨w.heap.size,2,none⟩) (by simpa using hz1);have d3:=hb2.cell (p:=⟨w.heap.size,3,none⟩) (by simpa using hz1);have d4:=hb2.cell (p:=⟨w.heap.size,4,none⟩) (by simpa using hz1))) | fail
 all_goals
  go_wp2;go_ret;exact ⟨rfl,qa3 hb1 hb2⟩
theorem qho (places procs:Int) (w:World) (h5:1<=procs) (h6:procs<=4):
  Calls prog 225 #[insV 11 0 0 0 0,.int .i64 places,.int .i64 procs] w (rB w (.bool (true))):=by
 have he:∀ wx,(binOp .eql 184 (insV 11 0 0 0 0) (insV 11 0 0 0 0)).run prog wx=.ok (.bool true) wx:=fun wx=>by rw [qb2];simp [qaz]
 go_enter func225,ntmps225
 go_wp2_with (go_at_call 165;refine (qe9 _ _ _ _ _).mono ?_;rintro e w1 ⟨rfl,hb1⟩)
 have hz1:w.heap.size<w1.heap.size:=by have:=hb1.size;simp at this;omega
 have c0:w1.cell? ⟨w.heap.size,0,none⟩=some (.int .i64 11):=by rw [hb1.cell (by simp)];simp
 have c1:w1.cell? ⟨w.heap.size,1,none⟩=some (.int .i64 0):=by rw [hb1.cell (by simp)];simp
 have c2:w1.cell? ⟨w.heap.size,2,none⟩=some (.int .i64 0):=by rw [hb1.cell (by simp)];simp
 have c3:w1.cell? ⟨w.heap.size,3,none⟩=some (.int .i64 0):=by rw [hb1.cell (by simp)];simp
 have c4:w1.cell? ⟨w.heap.size,4,none⟩=some (.int .i64 0):=by rw [hb1.cell (by simp)];simp
 first|(go_region_with (first|(go_at_call 280;refine (qu2 _).mono ?_;rintro e w2 ⟨rfl,hb2⟩;have d0:=hb2.cell (p:=⟨w.heap.size,0,none⟩) (by simpa using hz1);have d1:=hb2.cell (p:=⟨w.heap.size,1,none⟩) (by simpa using hz1);have d2:=hb2.cell (p:=⟨w.heap.size,2,none⟩) (by simpa using hz1);have d3:=hb2.cell (p:=⟨w.heap.size,3,none⟩) (by simpa using hz1);have d4:=hb2.cell (p:=⟨w.heap.size,4,none⟩) (by simpa using hz1))|(go_at_call 240;refine (qwm _ _ _).mono ?_;rintro e w3 ⟨rfl,hb3⟩))) | fail
 all_goals
  go_wp2;go_ret;exact ⟨rfl,qa8 hb1 hb2 hb3⟩
theorem qb5 (r a b n places procs:Int) (w:World) (h5:1<=procs) (h6:procs<=4) (hne:qaz 11 0 0 0 0 11 r a b n=false):
  Calls prog 225 #[insV 11 r a b n,.int .i64 places,.int .i64 procs] w (rB w (.bool (false))):=by
 have he:∀ wx,(binOp .eql 184 (insV 11 0 0 0 0) (insV 11 r a b n)).run prog wx=.ok (.bool false) wx:=fun wx=>by rw [qb2,hne]
 clear hne
 go_enter func225,ntmps225
 go_wp2_with (go_at_call 165;refine (qe9 _ _ _ _ _).mono ?_;rintro e w1 ⟨rfl,hb1⟩)
 have hz1:w.heap.size<w1.heap.size:=by have:=hb1.size;simp at this;omega
 have c0:w1.cell? ⟨w.heap.size,0,none⟩=some (.int .i64 11):=by rw [hb1.cell (by simp)];simp
 have c1:w1.cell? ⟨w.heap.size,1,none⟩=some (.int .i64 r):=by rw [hb1.cell (by simp)];simp
 have c2:w1.cell? ⟨w.heap.size,2,none⟩=some (.int .i64 a):=by rw [hb1.cell (by simp)];simp
 have c3:w1.cell? ⟨w.heap.size,3,none⟩=some (.int .i64 b):=by rw [hb1.cell (by simp)];simp
 have c4:w1.cell? ⟨w.heap.size,4,none⟩=some (.int .i64 n):=by rw [hb1.cell (by simp)];simp
 first|(go_region_with (go_at_call 280;refine (qu2 _).mono ?_;rintro e w2 ⟨rfl,hb2⟩;have d0:=hb2.cell (p:=⟨w.heap.size,0,none⟩) (by simpa using hz1);have d1:=hb2.cell (p:=⟨w.heap.size,1,none⟩) (by simpa using hz1);have d2:=hb2.cell (p:=⟨w.heap.size,2,none⟩) (by simpa using hz1);have d3:=hb2.cell (p:=⟨w.heap.size,3,none⟩) (by simpa using hz1);have d4:=hb2.cell (p:=⟨w.heap.size,4,none⟩) (by simpa using hz1))) | fail
 all_goals
  go_wp2;go_ret;exact ⟨rfl,qa3 hb1 hb2⟩
