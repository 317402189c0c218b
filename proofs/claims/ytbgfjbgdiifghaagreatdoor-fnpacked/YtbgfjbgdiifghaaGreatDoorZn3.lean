import Derived.Test.YtbgfjbgdiifghaaGreatDoorZn1
namespace Go.Proofs.YtbgfjbgdiifghaaGreatDoor
open Go.Proofs.Tryz
set_option maxRecDepth 100000
set_option maxHeartbeats 1000000
open Go.RowKit
theorem qhk (r n places procs:Int) (w:World) (h5:1<=procs) (h6:procs<=4):
  Calls prog 106 #[insV 1 r 0 0 n,iV places,iV procs] w (rB w (.bool (belB r 4 && inB n (-1000000000) 1000000000))):=by
 have he:∀ wx,(binOp .eql 45 (insV 1 r 0 0 n) (insV 1 r 0 0 n)).run prog wx=.ok (.bool true) wx:=fun wx=>by rw [qby];simp [qa3]
 go_enter func106,ntmps106
 go_wp2_with (go_at_call 125;refine (qfi _ _ _ _ _).mono ?_;rintro e w1 ⟨rfl,hb1⟩)
 have hz1:w.heap.size<w1.heap.size:=by have:=hb1.size;simp at this;omega
 have c0:w1.cell? (aQ w.heap.size 0)=some (iV 1):=by rw [hb1.cell (by simp)];simp
 have c1:w1.cell? (aQ w.heap.size 1)=some (iV r):=by rw [hb1.cell (by simp)];simp
 have c2:w1.cell? (aQ w.heap.size 2)=some (iV 0):=by rw [hb1.cell (by simp)];simp
 have c3:w1.cell? (aQ w.heap.size 3)=some (iV 0):=by rw [hb1.cell (by simp)];simp
 have c4:w1.cell? (aQ w.heap.size 4)=some (iV n):=by rw [hb1.cell (by simp)];simp
 first|(go_region_with (first|(go_at_call 201;refine (qsd _ _ _).mono ?_;rintro e w2 ⟨rfl,hb2⟩;have d0:=hb2.cell (p:=(aQ w.heap.size 0)) (by simpa using hz1);have d1:=hb2.cell (p:=(aQ w.heap.size 1)) (by simpa using hz1);have d2:=hb2.cell (p:=(aQ w.heap.size 2)) (by simpa using hz1);have d3:=hb2.cell (p:=(aQ w.heap.size 3)) (by simpa using hz1);have d4:=hb2.cell (p:=(aQ w.heap.size 4)) (by simpa using hz1))|(go_at_call 126;refine (quu _ _ _ _ _).mono ?_;rintro e w3 ⟨rfl,hb3⟩))) | fail
 all_goals
  go_wp2;go_ret;exact ⟨rfl,qbc hb1 hb2 hb3⟩
theorem qdx (r a b n places procs:Int) (w:World) (h5:1<=procs) (h6:procs<=4) (hne:qa3 1 r 0 0 n 1 r a b n=false):
  Calls prog 106 #[insV 1 r a b n,iV places,iV procs] w (rB w (.bool (false))):=by
 have he:∀ wx,(binOp .eql 45 (insV 1 r 0 0 n) (insV 1 r a b n)).run prog wx=.ok (.bool false) wx:=fun wx=>by rw [qby,hne]
 clear hne
 go_enter func106,ntmps106
 go_wp2_with (go_at_call 125;refine (qfi _ _ _ _ _).mono ?_;rintro e w1 ⟨rfl,hb1⟩)
 have hz1:w.heap.size<w1.heap.size:=by have:=hb1.size;simp at this;omega
 have c0:w1.cell? (aQ w.heap.size 0)=some (iV 1):=by rw [hb1.cell (by simp)];simp
 have c1:w1.cell? (aQ w.heap.size 1)=some (iV r):=by rw [hb1.cell (by simp)];simp
 have c2:w1.cell? (aQ w.heap.size 2)=some (iV a):=by rw [hb1.cell (by simp)];simp
 have c3:w1.cell? (aQ w.heap.size 3)=some (iV b):=by rw [hb1.cell (by simp)];simp
 have c4:w1.cell? (aQ w.heap.size 4)=some (iV n):=by rw [hb1.cell (by simp)];simp
 first|(go_region_with (go_at_call 201;refine (qsd _ _ _).mono ?_;rintro e w2 ⟨rfl,hb2⟩;have d0:=hb2.cell (p:=(aQ w.heap.size 0)) (by simpa using hz1);have d1:=hb2.cell (p:=(aQ w.heap.size 1)) (by simpa using hz1);have d2:=hb2.cell (p:=(aQ w.heap.size 2)) (by simpa using hz1);have d3:=hb2.cell (p:=(aQ w.heap.size 3)) (by simpa using hz1);have d4:=hb2.cell (p:=(aQ w.heap.size 4)) (by simpa using hz1))) | fail
 all_goals
  go_wp2;go_ret;exact ⟨rfl,qa8 hb1 hb2⟩
theorem qbu (op r a b places procs:Int) (w:World) (h5:1<=procs) (h6:procs<=4) (q1:2<=op) (q2:op<=5):
  Calls prog 106 #[insV op r a b 0,iV places,iV procs] w (rB w (.bool (belB r 4 && belB a 4 && belB b 4))):=by
 have he:∀ wx,(binOp .eql 45 (insV op r a b 0) (insV op r a b 0)).run prog wx=.ok (.bool true) wx:=fun wx=>by rw [qby];simp [qa3]
 go_enter func106,ntmps106
 go_wp2_with (go_at_call 125;refine (qhc _ _ _ _ _ _ q1 q2).mono ?_;rintro e w1 ⟨rfl,hb1⟩)
 have hz1:w.heap.size<w1.heap.size:=by have:=hb1.size;simp at this;omega
 have c0:w1.cell? (aQ w.heap.size 0)=some (iV op):=by rw [hb1.cell (by simp)];simp
 have c1:w1.cell? (aQ w.heap.size 1)=some (iV r):=by rw [hb1.cell (by simp)];simp
 have c2:w1.cell? (aQ w.heap.size 2)=some (iV a):=by rw [hb1.cell (by simp)];simp
 have c3:w1.cell? (aQ w.heap.size 3)=some (iV b):=by rw [hb1.cell (by simp)];simp
 have c4:w1.cell? (aQ w.heap.size 4)=some (iV 0):=by rw [hb1.cell (by simp)];simp
 first|(go_region_with (first|(go_at_call 202;refine (qo9 _ _ _ _ _).mono ?_;rintro e w2 ⟨rfl,hb2⟩;have d0:=hb2.cell (p:=(aQ w.heap.size 0)) (by simpa using hz1);have d1:=hb2.cell (p:=(aQ w.heap.size 1)) (by simpa using hz1);have d2:=hb2.cell (p:=(aQ w.heap.size 2)) (by simpa using hz1);have d3:=hb2.cell (p:=(aQ w.heap.size 3)) (by simpa using hz1);have d4:=hb2.cell (p:=(aQ w.heap.size 4)) (by simpa using hz1))|(go_at_call 126;refine (qr2 _ _ _ _ _ _ _).mono ?_;rintro e w3 ⟨rfl,hb3⟩))) | fail
 all_goals
  go_wp2;go_ret;exact ⟨rfl,qbc hb1 hb2 hb3⟩
theorem qbv (op r a b n places procs:Int) (w:World) (h5:1<=procs) (h6:procs<=4) (q1:2<=op) (q2:op<=5) (hne:qa3 op r a b 0 op r a b n=false):
  Calls prog 106 #[insV op r a b n,iV places,iV procs] w (rB w (.bool (false))):=by
 have he:∀ wx,(binOp .eql 45 (insV op r a b 0) (insV op r a b n)).run prog wx=.ok (.bool false) wx:=fun wx=>by rw [qby,hne]
 clear hne
 go_enter func106,ntmps106
 go_wp2_with (go_at_call 125;refine (qhc _ _ _ _ _ _ q1 q2).mono ?_;rintro e w1 ⟨rfl,hb1⟩)
 have hz1:w.heap.size<w1.heap.size:=by have:=hb1.size;simp at this;omega
 have c0:w1.cell? (aQ w.heap.size 0)=some (iV op):=by rw [hb1.cell (by simp)];simp
 have c1:w1.cell? (aQ w.heap.size 1)=some (iV r):=by rw [hb1.cell (by simp)];simp
 have c2:w1.cell? (aQ w.heap.size 2)=some (iV a):=by rw [hb1.cell (by simp)];simp
 have c3:w1.cell? (aQ w.heap.size 3)=some (iV b):=by rw [hb1.cell (by simp)];simp
 have c4:w1.cell? (aQ w.heap.size 4)=some (iV n):=by rw [hb1.cell (by simp)];simp
 first|(go_region_with (go_at_call 202;refine (qo9 _ _ _ _ _).mono ?_;rintro e w2 ⟨rfl,hb2⟩;have d0:=hb2.cell (p:=(aQ w.heap.size 0)) (by simpa using hz1);have d1:=hb2.cell (p:=(aQ w.heap.size 1)) (by simpa using hz1);have d2:=hb2.cell (p:=(aQ w.heap.size 2)) (by simpa using hz1);have d3:=hb2.cell (p:=(aQ w.heap.size 3)) (by simpa using hz1);have d4:=hb2.cell (p:=(aQ w.heap.size 4)) (by simpa using hz1))) | fail
 all_goals
  go_wp2;go_ret;exact ⟨rfl,qa8 hb1 hb2⟩
theorem qhj (places procs:Int) (w:World) (h5:1<=procs) (h6:procs<=4):
  Calls prog 106 #[insV 11 0 0 0 0,iV places,iV procs] w (rB w (.bool (true))):=by
 have he:∀ wx,(binOp .eql 45 (insV 11 0 0 0 0) (insV 11 0 0 0 0)).run prog wx=.ok (.bool true) wx:=fun wx=>by rw [qby];simp [qa3]
 go_enter func106,ntmps106
 go_wp2_with (go_at_call 125;refine (qfh _ _ _ _ _).mono ?_;rintro e w1 ⟨rfl,hb1⟩)
 have hz1:w.heap.size<w1.heap.size:=by have:=hb1.size;simp at this;omega
 have c0:w1.cell? (aQ w.heap.size 0)=some (iV 11):=by rw [hb1.cell (by simp)];simp
 have c1:w1.cell? (aQ w.heap.size 1)=some (iV 0):=by rw [hb1.cell (by simp)];simp
 have c2:w1.cell? (aQ w.heap.size 2)=some (iV 0):=by rw [hb1.cell (by simp)];simp
 have c3:w1.cell? (aQ w.heap.size 3)=some (iV 0):=by rw [hb1.cell (by simp)];simp
 have c4:w1.cell? (aQ w.heap.size 4)=some (iV 0):=by rw [hb1.cell (by simp)];simp
 first|(go_region_with (first|(go_at_call 208;refine (qsc _).mono ?_;rintro e w2 ⟨rfl,hb2⟩;have d0:=hb2.cell (p:=(aQ w.heap.size 0)) (by simpa using hz1);have d1:=hb2.cell (p:=(aQ w.heap.size 1)) (by simpa using hz1);have d2:=hb2.cell (p:=(aQ w.heap.size 2)) (by simpa using hz1);have d3:=hb2.cell (p:=(aQ w.heap.size 3)) (by simpa using hz1);have d4:=hb2.cell (p:=(aQ w.heap.size 4)) (by simpa using hz1))|(go_at_call 126;refine (qut _ _ _).mono ?_;rintro e w3 ⟨rfl,hb3⟩))) | fail
 all_goals
  go_wp2;go_ret;exact ⟨rfl,qbc hb1 hb2 hb3⟩
theorem qbz (r a b n places procs:Int) (w:World) (h5:1<=procs) (h6:procs<=4) (hne:qa3 11 0 0 0 0 11 r a b n=false):
  Calls prog 106 #[insV 11 r a b n,iV places,iV procs] w (rB w (.bool (false))):=by
 have he:∀ wx,(binOp .eql 45 (insV 11 0 0 0 0) (insV 11 r a b n)).run prog wx=.ok (.bool false) wx:=fun wx=>by rw [qby,hne]
 clear hne
 go_enter func106,ntmps106
 go_wp2_with (go_at_call 125;refine (qfh _ _ _ _ _).mono ?_;rintro e w1 ⟨rfl,hb1⟩)
 have hz1:w.heap.size<w1.heap.size:=by have:=hb1.size;simp at this;omega
 have c0:w1.cell? (aQ w.heap.size 0)=some (iV 11):=by rw [hb1.cell (by simp)];simp
 have c1:w1.cell? (aQ w.heap.size 1)=some (iV r):=by rw [hb1.cell (by simp)];simp
 have c2:w1.cell? (aQ w.heap.size 2)=some (iV a):=by rw [hb1.cell (by simp)];simp
 have c3:w1.cell? (aQ w.heap.size 3)=some (iV b):=by rw [hb1.cell (by simp)];simp
 have c4:w1.cell? (aQ w.heap.size 4)=some (iV n):=by rw [hb1.cell (by simp)];simp
 first|(go_region_with (go_at_call 208;refine (qsc _).mono ?_;rintro e w2 ⟨rfl,hb2⟩;have d0:=hb2.cell (p:=(aQ w.heap.size 0)) (by simpa using hz1);have d1:=hb2.cell (p:=(aQ w.heap.size 1)) (by simpa using hz1);have d2:=hb2.cell (p:=(aQ w.heap.size 2)) (by simpa using hz1);have d3:=hb2.cell (p:=(aQ w.heap.size 3)) (by simpa using hz1);have d4:=hb2.cell (p:=(aQ w.heap.size 4)) (by simpa using hz1))) | fail
 all_goals
  go_wp2;go_ret;exact ⟨rfl,qa8 hb1 hb2⟩
