import Derived.Test.YtkdablcbhhphoaaGreatDoorMt1
namespace Go.Proofs.YtkdablcbhhphoaaGreatDoor
open Go.Proofs.Tryz
set_option maxRecDepth 100000
set_option maxHeartbeats 1000000
open Go.RowKit
theorem qgi (a n places procs:Int) (w:World) (h5:1<=procs) (h6:procs<=4):
  Calls prog 225 #[insV 6 0 a 0 n,.int .i64 places,.int .i64 procs] w (rB w (.bool (belB a 4 && belB n procs))):=by
 have he:∀ wx,(binOp .eql 184 (insV 6 0 a 0 n) (insV 6 0 a 0 n)).run prog wx=.ok (.bool true) wx:=fun wx=>by rw [qb2];simp [qaz]
 go_enter func225,ntmps225
 go_wp2_with (go_at_call 165;refine (qd4 _ _ _ _ _).mono ?_;rintro e w1 ⟨rfl,hb1⟩)
 have hz1:w.heap.size<w1.heap.size:=by have:=hb1.size;simp at this;omega
 have c0:w1.cell? ⟨w.heap.size,0,none⟩=some (.int .i64 6):=by rw [hb1.cell (by simp)];simp
 have c1:w1.cell? ⟨w.heap.size,1,none⟩=some (.int .i64 0):=by rw [hb1.cell (by simp)];simp
 have c2:w1.cell? ⟨w.heap.size,2,none⟩=some (.int .i64 a):=by rw [hb1.cell (by simp)];simp
 have c3:w1.cell? ⟨w.heap.size,3,none⟩=some (.int .i64 0):=by rw [hb1.cell (by simp)];simp
 have c4:w1.cell? ⟨w.heap.size,4,none⟩=some (.int .i64 n):=by rw [hb1.cell (by simp)];simp
 first|(go_region_with (first|(go_at_call 273;refine (qrv _ _ _).mono ?_;rintro e w2 ⟨rfl,hb2⟩;have d0:=hb2.cell (p:=⟨w.heap.size,0,none⟩) (by simpa using hz1);have d1:=hb2.cell (p:=⟨w.heap.size,1,none⟩) (by simpa using hz1);have d2:=hb2.cell (p:=⟨w.heap.size,2,none⟩) (by simpa using hz1);have d3:=hb2.cell (p:=⟨w.heap.size,3,none⟩) (by simpa using hz1);have d4:=hb2.cell (p:=⟨w.heap.size,4,none⟩) (by simpa using hz1))|(go_at_call 240;refine (qut _ _ _ _ _).mono ?_;rintro e w3 ⟨rfl,hb3⟩))) | fail
 all_goals
  go_wp2;go_ret;exact ⟨rfl,qa8 hb1 hb2 hb3⟩
theorem qdg (r a b n places procs:Int) (w:World) (h5:1<=procs) (h6:procs<=4) (hne:qaz 6 0 a 0 n 6 r a b n=false):
  Calls prog 225 #[insV 6 r a b n,.int .i64 places,.int .i64 procs] w (rB w (.bool (false))):=by
 have he:∀ wx,(binOp .eql 184 (insV 6 0 a 0 n) (insV 6 r a b n)).run prog wx=.ok (.bool false) wx:=fun wx=>by rw [qb2,hne]
 clear hne
 go_enter func225,ntmps225
 go_wp2_with (go_at_call 165;refine (qd4 _ _ _ _ _).mono ?_;rintro e w1 ⟨rfl,hb1⟩)
 have hz1:w.heap.size<w1.heap.size:=by have:=hb1.size;simp at this;omega
 have c0:w1.cell? ⟨w.heap.size,0,none⟩=some (.int .i64 6):=by rw [hb1.cell (by simp)];simp
 have c1:w1.cell? ⟨w.heap.size,1,none⟩=some (.int .i64 r):=by rw [hb1.cell (by simp)];simp
 have c2:w1.cell? ⟨w.heap.size,2,none⟩=some (.int .i64 a):=by rw [hb1.cell (by simp)];simp
 have c3:w1.cell? ⟨w.heap.size,3,none⟩=some (.int .i64 b):=by rw [hb1.cell (by simp)];simp
 have c4:w1.cell? ⟨w.heap.size,4,none⟩=some (.int .i64 n):=by rw [hb1.cell (by simp)];simp
 first|(go_region_with (go_at_call 273;refine (qrv _ _ _).mono ?_;rintro e w2 ⟨rfl,hb2⟩;have d0:=hb2.cell (p:=⟨w.heap.size,0,none⟩) (by simpa using hz1);have d1:=hb2.cell (p:=⟨w.heap.size,1,none⟩) (by simpa using hz1);have d2:=hb2.cell (p:=⟨w.heap.size,2,none⟩) (by simpa using hz1);have d3:=hb2.cell (p:=⟨w.heap.size,3,none⟩) (by simpa using hz1);have d4:=hb2.cell (p:=⟨w.heap.size,4,none⟩) (by simpa using hz1))) | fail
 all_goals
  go_wp2;go_ret;exact ⟨rfl,qa3 hb1 hb2⟩
theorem qgj (r n places procs:Int) (w:World) (h5:1<=procs) (h6:procs<=4):
  Calls prog 225 #[insV 7 r 0 0 n,.int .i64 places,.int .i64 procs] w (rB w (.bool (belB r 4 && ((n == 9) || belB n procs)))):=by
 have he:∀ wx,(binOp .eql 184 (insV 7 r 0 0 n) (insV 7 r 0 0 n)).run prog wx=.ok (.bool true) wx:=fun wx=>by rw [qb2];simp [qaz]
 go_enter func225,ntmps225
 go_wp2_with (go_at_call 165;refine (qd5 _ _ _ _ _).mono ?_;rintro e w1 ⟨rfl,hb1⟩)
 have hz1:w.heap.size<w1.heap.size:=by have:=hb1.size;simp at this;omega
 have c0:w1.cell? ⟨w.heap.size,0,none⟩=some (.int .i64 7):=by rw [hb1.cell (by simp)];simp
 have c1:w1.cell? ⟨w.heap.size,1,none⟩=some (.int .i64 r):=by rw [hb1.cell (by simp)];simp
 have c2:w1.cell? ⟨w.heap.size,2,none⟩=some (.int .i64 0):=by rw [hb1.cell (by simp)];simp
 have c3:w1.cell? ⟨w.heap.size,3,none⟩=some (.int .i64 0):=by rw [hb1.cell (by simp)];simp
 have c4:w1.cell? ⟨w.heap.size,4,none⟩=some (.int .i64 n):=by rw [hb1.cell (by simp)];simp
 first|(go_region_with (first|(go_at_call 274;refine (qrw _ _ _).mono ?_;rintro e w2 ⟨rfl,hb2⟩;have d0:=hb2.cell (p:=⟨w.heap.size,0,none⟩) (by simpa using hz1);have d1:=hb2.cell (p:=⟨w.heap.size,1,none⟩) (by simpa using hz1);have d2:=hb2.cell (p:=⟨w.heap.size,2,none⟩) (by simpa using hz1);have d3:=hb2.cell (p:=⟨w.heap.size,3,none⟩) (by simpa using hz1);have d4:=hb2.cell (p:=⟨w.heap.size,4,none⟩) (by simpa using hz1))|(go_at_call 240;refine (quu _ _ _ _ _).mono ?_;rintro e w3 ⟨rfl,hb3⟩))) | fail
 all_goals
  go_wp2;go_ret;exact ⟨rfl,qa8 hb1 hb2 hb3⟩
theorem qdh (r a b n places procs:Int) (w:World) (h5:1<=procs) (h6:procs<=4) (hne:qaz 7 r 0 0 n 7 r a b n=false):
  Calls prog 225 #[insV 7 r a b n,.int .i64 places,.int .i64 procs] w (rB w (.bool (false))):=by
 have he:∀ wx,(binOp .eql 184 (insV 7 r 0 0 n) (insV 7 r a b n)).run prog wx=.ok (.bool false) wx:=fun wx=>by rw [qb2,hne]
 clear hne
 go_enter func225,ntmps225
 go_wp2_with (go_at_call 165;refine (qd5 _ _ _ _ _).mono ?_;rintro e w1 ⟨rfl,hb1⟩)
 have hz1:w.heap.size<w1.heap.size:=by have:=hb1.size;simp at this;omega
 have c0:w1.cell? ⟨w.heap.size,0,none⟩=some (.int .i64 7):=by rw [hb1.cell (by simp)];simp
 have c1:w1.cell? ⟨w.heap.size,1,none⟩=some (.int .i64 r):=by rw [hb1.cell (by simp)];simp
 have c2:w1.cell? ⟨w.heap.size,2,none⟩=some (.int .i64 a):=by rw [hb1.cell (by simp)];simp
 have c3:w1.cell? ⟨w.heap.size,3,none⟩=some (.int .i64 b):=by rw [hb1.cell (by simp)];simp
 have c4:w1.cell? ⟨w.heap.size,4,none⟩=some (.int .i64 n):=by rw [hb1.cell (by simp)];simp
 first|(go_region_with (go_at_call 274;refine (qrw _ _ _).mono ?_;rintro e w2 ⟨rfl,hb2⟩;have d0:=hb2.cell (p:=⟨w.heap.size,0,none⟩) (by simpa using hz1);have d1:=hb2.cell (p:=⟨w.heap.size,1,none⟩) (by simpa using hz1);have d2:=hb2.cell (p:=⟨w.heap.size,2,none⟩) (by simpa using hz1);have d3:=hb2.cell (p:=⟨w.heap.size,3,none⟩) (by simpa using hz1);have d4:=hb2.cell (p:=⟨w.heap.size,4,none⟩) (by simpa using hz1))) | fail
 all_goals
  go_wp2;go_ret;exact ⟨rfl,qa3 hb1 hb2⟩
theorem qfq (a places procs:Int) (w:World) (h5:1<=procs) (h6:procs<=4):
  Calls prog 225 #[insV 8 0 a 0 0,.int .i64 places,.int .i64 procs] w (rB w (.bool (belB a 4))):=by
 have he:∀ wx,(binOp .eql 184 (insV 8 0 a 0 0) (insV 8 0 a 0 0)).run prog wx=.ok (.bool true) wx:=fun wx=>by rw [qb2];simp [qaz]
 go_enter func225,ntmps225
 go_wp2_with (go_at_call 165;refine (qdr _ _ _ _ _).mono ?_;rintro e w1 ⟨rfl,hb1⟩)
 have hz1:w.heap.size<w1.heap.size:=by have:=hb1.size;simp at this;omega
 have c0:w1.cell? ⟨w.heap.size,0,none⟩=some (.int .i64 8):=by rw [hb1.cell (by simp)];simp
 have c1:w1.cell? ⟨w.heap.size,1,none⟩=some (.int .i64 0):=by rw [hb1.cell (by simp)];simp
 have c2:w1.cell? ⟨w.heap.size,2,none⟩=some (.int .i64 a):=by rw [hb1.cell (by simp)];simp
 have c3:w1.cell? ⟨w.heap.size,3,none⟩=some (.int .i64 0):=by rw [hb1.cell (by simp)];simp
 have c4:w1.cell? ⟨w.heap.size,4,none⟩=some (.int .i64 0):=by rw [hb1.cell (by simp)];simp
 first|(go_region_with (first|(go_at_call 275;refine (qno _ _).mono ?_;rintro e w2 ⟨rfl,hb2⟩;have d0:=hb2.cell (p:=⟨w.heap.size,0,none⟩) (by simpa using hz1);have d1:=hb2.cell (p:=⟨w.heap.size,1,none⟩) (by simpa using hz1);have d2:=hb2.cell (p:=⟨w.heap.size,2,none⟩) (by simpa using hz1);have d3:=hb2.cell (p:=⟨w.heap.size,3,none⟩) (by simpa using hz1);have d4:=hb2.cell (p:=⟨w.heap.size,4,none⟩) (by simpa using hz1))|(go_at_call 240;refine (qs2 _ _ _ _).mono ?_;rintro e w3 ⟨rfl,hb3⟩))) | fail
 all_goals
  go_wp2;go_ret;exact ⟨rfl,qa8 hb1 hb2 hb3⟩
theorem qcd (r a b n places procs:Int) (w:World) (h5:1<=procs) (h6:procs<=4) (hne:qaz 8 0 a 0 0 8 r a b n=false):
  Calls prog 225 #[insV 8 r a b n,.int .i64 places,.int .i64 procs] w (rB w (.bool (false))):=by
 have he:∀ wx,(binOp .eql 184 (insV 8 0 a 0 0) (insV 8 r a b n)).run prog wx=.ok (.bool false) wx:=fun wx=>by rw [qb2,hne]
 clear hne
 go_enter func225,ntmps225
 go_wp2_with (go_at_call 165;refine (qdr _ _ _ _ _).mono ?_;rintro e w1 ⟨rfl,hb1⟩)
 have hz1:w.heap.size<w1.heap.size:=by have:=hb1.size;simp at this;omega
 have c0:w1.cell? ⟨w.heap.size,0,none⟩=some (.int .i64 8):=by rw [hb1.cell (by simp)];simp
 have c1:w1.cell? ⟨w.heap.size,1,none⟩=some (.int .i64 r):=by rw [hb1.cell (by simp)];simp
 have c2:w1.cell? ⟨w.heap.size,2,none⟩=some (.int .i64 a):=by rw [hb1.cell (by simp)];simp
 have c3:w1.cell? ⟨w.heap.size,3,none⟩=some (.int .i64 b):=by rw [hb1.cell (by simp)];simp
 have c4:w1.cell? ⟨w.heap.size,4,none⟩=some (.int .i64 n):=by rw [hb1.cell (by simp)];simp
 first|(go_region_with (go_at_call 275;refine (qno _ _).mono ?_;rintro e w2 ⟨rfl,hb2⟩;have d0:=hb2.cell (p:=⟨w.heap.size,0,none⟩) (by simpa using hz1);have d1:=hb2.cell (p:=⟨w.heap.size,1,none⟩) (by simpa using hz1);have d2:=hb2.cell (p:=⟨w.heap.size,2,none⟩) (by simpa using hz1);have d3:=hb2.cell (p:=⟨w.heap.size,3,none⟩) (by simpa using hz1);have d4:=hb2.cell (p:=⟨w.heap.size,4,none⟩) (by simpa using hz1))) | fail
 all_goals
  go_wp2;go_ret;exact ⟨rfl,qa3 hb1 hb2⟩
