import Derived.Test.YtbgfjbgdiifghaaGreatDoorZn1
namespace Go.Proofs.YtbgfjbgdiifghaaGreatDoor
open Go.Proofs.Tryz
set_option maxRecDepth 100000
set_option maxHeartbeats 1000000
open Go.RowKit
theorem qgf (n places procs:Int) (w:World) (h5:1<=procs) (h6:procs<=4):
  Calls prog 106 #[insV 9 0 0 0 n,iV places,iV procs] w (rB w (.bool (belB n places))):=by
 have he:∀ wx,(binOp .eql 45 (insV 9 0 0 0 n) (insV 9 0 0 0 n)).run prog wx=.ok (.bool true) wx:=fun wx=>by rw [qby];simp [qa3]
 go_enter func106,ntmps106
 go_wp2_with (go_at_call 125;refine (qd9 _ _ _ _ _).mono ?_;rintro e w1 ⟨rfl,hb1⟩)
 have hz1:w.heap.size<w1.heap.size:=by have:=hb1.size;simp at this;omega
 have c0:w1.cell? (aQ w.heap.size 0)=some (iV 9):=by rw [hb1.cell (by simp)];simp
 have c1:w1.cell? (aQ w.heap.size 1)=some (iV 0):=by rw [hb1.cell (by simp)];simp
 have c2:w1.cell? (aQ w.heap.size 2)=some (iV 0):=by rw [hb1.cell (by simp)];simp
 have c3:w1.cell? (aQ w.heap.size 3)=some (iV 0):=by rw [hb1.cell (by simp)];simp
 have c4:w1.cell? (aQ w.heap.size 4)=some (iV n):=by rw [hb1.cell (by simp)];simp
 first|(go_region_with (first|(go_at_call 206;refine (qpa _ _).mono ?_;rintro e w2 ⟨rfl,hb2⟩;have d0:=hb2.cell (p:=(aQ w.heap.size 0)) (by simpa using hz1);have d1:=hb2.cell (p:=(aQ w.heap.size 1)) (by simpa using hz1);have d2:=hb2.cell (p:=(aQ w.heap.size 2)) (by simpa using hz1);have d3:=hb2.cell (p:=(aQ w.heap.size 3)) (by simpa using hz1);have d4:=hb2.cell (p:=(aQ w.heap.size 4)) (by simpa using hz1))|(go_at_call 126;refine (qr3 _ _ _ _).mono ?_;rintro e w3 ⟨rfl,hb3⟩))) | fail
 all_goals
  go_wp2;go_ret;exact ⟨rfl,qbc hb1 hb2 hb3⟩
theorem qcb (r a b n places procs:Int) (w:World) (h5:1<=procs) (h6:procs<=4) (hne:qa3 9 0 0 0 n 9 r a b n=false):
  Calls prog 106 #[insV 9 r a b n,iV places,iV procs] w (rB w (.bool (false))):=by
 have he:∀ wx,(binOp .eql 45 (insV 9 0 0 0 n) (insV 9 r a b n)).run prog wx=.ok (.bool false) wx:=fun wx=>by rw [qby,hne]
 clear hne
 go_enter func106,ntmps106
 go_wp2_with (go_at_call 125;refine (qd9 _ _ _ _ _).mono ?_;rintro e w1 ⟨rfl,hb1⟩)
 have hz1:w.heap.size<w1.heap.size:=by have:=hb1.size;simp at this;omega
 have c0:w1.cell? (aQ w.heap.size 0)=some (iV 9):=by rw [hb1.cell (by simp)];simp
 have c1:w1.cell? (aQ w.heap.size 1)=some (iV r):=by rw [hb1.cell (by simp)];simp
 have c2:w1.cell? (aQ w.heap.size 2)=some (iV a):=by rw [hb1.cell (by simp)];simp
 have c3:w1.cell? (aQ w.heap.size 3)=some (iV b):=by rw [hb1.cell (by simp)];simp
 have c4:w1.cell? (aQ w.heap.size 4)=some (iV n):=by rw [hb1.cell (by simp)];simp
 first|(go_region_with (go_at_call 206;refine (qpa _ _).mono ?_;rintro e w2 ⟨rfl,hb2⟩;have d0:=hb2.cell (p:=(aQ w.heap.size 0)) (by simpa using hz1);have d1:=hb2.cell (p:=(aQ w.heap.size 1)) (by simpa using hz1);have d2:=hb2.cell (p:=(aQ w.heap.size 2)) (by simpa using hz1);have d3:=hb2.cell (p:=(aQ w.heap.size 3)) (by simpa using hz1);have d4:=hb2.cell (p:=(aQ w.heap.size 4)) (by simpa using hz1))) | fail
 all_goals
  go_wp2;go_ret;exact ⟨rfl,qa8 hb1 hb2⟩
theorem qgi (a n places procs:Int) (w:World) (h5:1<=procs) (h6:procs<=4):
  Calls prog 106 #[insV 10 0 a 0 n,iV places,iV procs] w (rB w (.bool (belB a 4 && belB n places))):=by
 have he:∀ wx,(binOp .eql 45 (insV 10 0 a 0 n) (insV 10 0 a 0 n)).run prog wx=.ok (.bool true) wx:=fun wx=>by rw [qby];simp [qa3]
 go_enter func106,ntmps106
 go_wp2_with (go_at_call 125;refine (qec _ _ _ _ _).mono ?_;rintro e w1 ⟨rfl,hb1⟩)
 have hz1:w.heap.size<w1.heap.size:=by have:=hb1.size;simp at this;omega
 have c0:w1.cell? (aQ w.heap.size 0)=some (iV 10):=by rw [hb1.cell (by simp)];simp
 have c1:w1.cell? (aQ w.heap.size 1)=some (iV 0):=by rw [hb1.cell (by simp)];simp
 have c2:w1.cell? (aQ w.heap.size 2)=some (iV a):=by rw [hb1.cell (by simp)];simp
 have c3:w1.cell? (aQ w.heap.size 3)=some (iV 0):=by rw [hb1.cell (by simp)];simp
 have c4:w1.cell? (aQ w.heap.size 4)=some (iV n):=by rw [hb1.cell (by simp)];simp
 first|(go_region_with (first|(go_at_call 207;refine (qpd _ _ _).mono ?_;rintro e w2 ⟨rfl,hb2⟩;have d0:=hb2.cell (p:=(aQ w.heap.size 0)) (by simpa using hz1);have d1:=hb2.cell (p:=(aQ w.heap.size 1)) (by simpa using hz1);have d2:=hb2.cell (p:=(aQ w.heap.size 2)) (by simpa using hz1);have d3:=hb2.cell (p:=(aQ w.heap.size 3)) (by simpa using hz1);have d4:=hb2.cell (p:=(aQ w.heap.size 4)) (by simpa using hz1))|(go_at_call 126;refine (qr6 _ _ _ _ _).mono ?_;rintro e w3 ⟨rfl,hb3⟩))) | fail
 all_goals
  go_wp2;go_ret;exact ⟨rfl,qbc hb1 hb2 hb3⟩
theorem qdi (r a b n places procs:Int) (w:World) (h5:1<=procs) (h6:procs<=4) (hne:qa3 10 0 a 0 n 10 r a b n=false):
  Calls prog 106 #[insV 10 r a b n,iV places,iV procs] w (rB w (.bool (false))):=by
 have he:∀ wx,(binOp .eql 45 (insV 10 0 a 0 n) (insV 10 r a b n)).run prog wx=.ok (.bool false) wx:=fun wx=>by rw [qby,hne]
 clear hne
 go_enter func106,ntmps106
 go_wp2_with (go_at_call 125;refine (qec _ _ _ _ _).mono ?_;rintro e w1 ⟨rfl,hb1⟩)
 have hz1:w.heap.size<w1.heap.size:=by have:=hb1.size;simp at this;omega
 have c0:w1.cell? (aQ w.heap.size 0)=some (iV 10):=by rw [hb1.cell (by simp)];simp
 have c1:w1.cell? (aQ w.heap.size 1)=some (iV r):=by rw [hb1.cell (by simp)];simp
 have c2:w1.cell? (aQ w.heap.size 2)=some (iV a):=by rw [hb1.cell (by simp)];simp
 have c3:w1.cell? (aQ w.heap.size 3)=some (iV b):=by rw [hb1.cell (by simp)];simp
 have c4:w1.cell? (aQ w.heap.size 4)=some (iV n):=by rw [hb1.cell (by simp)];simp
 first|(go_region_with (go_at_call 207;refine (qpd _ _ _).mono ?_;rintro e w2 ⟨rfl,hb2⟩;have d0:=hb2.cell (p:=(aQ w.heap.size 0)) (by simpa using hz1);have d1:=hb2.cell (p:=(aQ w.heap.size 1)) (by simpa using hz1);have d2:=hb2.cell (p:=(aQ w.heap.size 2)) (by simpa using hz1);have d3:=hb2.cell (p:=(aQ w.heap.size 3)) (by simpa using hz1);have d4:=hb2.cell (p:=(aQ w.heap.size 4)) (by simpa using hz1))) | fail
 all_goals
  go_wp2;go_ret;exact ⟨rfl,qa8 hb1 hb2⟩
