import Derived.Test.YtbgfjbgdiifghaaGreatDoorZn1
namespace Go.Proofs.YtbgfjbgdiifghaaGreatDoor
open Go.Proofs.Tryz
set_option maxRecDepth 100000
set_option maxHeartbeats 1000000
open Go.RowKit
theorem qgg (a n places procs:Int) (w:World) (h5:1<=procs) (h6:procs<=4):
  Calls prog 106 #[insV 6 0 a 0 n,iV places,iV procs] w (rB w (.bool (belB a 4 && belB n procs))):=by
 have he:∀ wx,(binOp .eql 45 (insV 6 0 a 0 n) (insV 6 0 a 0 n)).run prog wx=.ok (.bool true) wx:=fun wx=>by rw [qby];simp [qa3]
 go_enter func106,ntmps106
 go_wp2_with (go_at_call 125;refine (qea _ _ _ _ _).mono ?_;rintro e w1 ⟨rfl,hb1⟩)
 have hz1:w.heap.size<w1.heap.size:=by have:=hb1.size;simp at this;omega
 have c0:w1.cell? (aQ w.heap.size 0)=some (iV 6):=by rw [hb1.cell (by simp)];simp
 have c1:w1.cell? (aQ w.heap.size 1)=some (iV 0):=by rw [hb1.cell (by simp)];simp
 have c2:w1.cell? (aQ w.heap.size 2)=some (iV a):=by rw [hb1.cell (by simp)];simp
 have c3:w1.cell? (aQ w.heap.size 3)=some (iV 0):=by rw [hb1.cell (by simp)];simp
 have c4:w1.cell? (aQ w.heap.size 4)=some (iV n):=by rw [hb1.cell (by simp)];simp
 first|(go_region_with (first|(go_at_call 203;refine (qpb _ _ _).mono ?_;rintro e w2 ⟨rfl,hb2⟩;have d0:=hb2.cell (p:=(aQ w.heap.size 0)) (by simpa using hz1);have d1:=hb2.cell (p:=(aQ w.heap.size 1)) (by simpa using hz1);have d2:=hb2.cell (p:=(aQ w.heap.size 2)) (by simpa using hz1);have d3:=hb2.cell (p:=(aQ w.heap.size 3)) (by simpa using hz1);have d4:=hb2.cell (p:=(aQ w.heap.size 4)) (by simpa using hz1))|(go_at_call 126;refine (qr4 _ _ _ _ _).mono ?_;rintro e w3 ⟨rfl,hb3⟩))) | fail
 all_goals
  go_wp2;go_ret;exact ⟨rfl,qbc hb1 hb2 hb3⟩
theorem qdg (r a b n places procs:Int) (w:World) (h5:1<=procs) (h6:procs<=4) (hne:qa3 6 0 a 0 n 6 r a b n=false):
  Calls prog 106 #[insV 6 r a b n,iV places,iV procs] w (rB w (.bool (false))):=by
 have he:∀ wx,(binOp .eql 45 (insV 6 0 a 0 n) (insV 6 r a b n)).run prog wx=.ok (.bool false) wx:=fun wx=>by rw [qby,hne]
 clear hne
 go_enter func106,ntmps106
 go_wp2_with (go_at_call 125;refine (qea _ _ _ _ _).mono ?_;rintro e w1 ⟨rfl,hb1⟩)
 have hz1:w.heap.size<w1.heap.size:=by have:=hb1.size;simp at this;omega
 have c0:w1.cell? (aQ w.heap.size 0)=some (iV 6):=by rw [hb1.cell (by simp)];simp
 have c1:w1.cell? (aQ w.heap.size 1)=some (iV r):=by rw [hb1.cell (by simp)];simp
 have c2:w1.cell? (aQ w.heap.size 2)=some (iV a):=by rw [hb1.cell (by simp)];simp
 have c3:w1.cell? (aQ w.heap.size 3)=some (iV b):=by rw [hb1.cell (by simp)];simp
 have c4:w1.cell? (aQ w.heap.size 4)=some (iV n):=by rw [hb1.cell (by simp)];simp
 first|(go_region_with (go_at_call 203;refine (qpb _ _ _).mono ?_;rintro e w2 ⟨rfl,hb2⟩;have d0:=hb2.cell (p:=(aQ w.heap.size 0)) (by simpa using hz1);have d1:=hb2.cell (p:=(aQ w.heap.size 1)) (by simpa using hz1);have d2:=hb2.cell (p:=(aQ w.heap.size 2)) (by simpa using hz1);have d3:=hb2.cell (p:=(aQ w.heap.size 3)) (by simpa using hz1);have d4:=hb2.cell (p:=(aQ w.heap.size 4)) (by simpa using hz1))) | fail
 all_goals
  go_wp2;go_ret;exact ⟨rfl,qa8 hb1 hb2⟩
theorem qgh (r n places procs:Int) (w:World) (h5:1<=procs) (h6:procs<=4):
  Calls prog 106 #[insV 7 r 0 0 n,iV places,iV procs] w (rB w (.bool (belB r 4 && ((n == 9) || belB n procs)))):=by
 have he:∀ wx,(binOp .eql 45 (insV 7 r 0 0 n) (insV 7 r 0 0 n)).run prog wx=.ok (.bool true) wx:=fun wx=>by rw [qby];simp [qa3]
 go_enter func106,ntmps106
 go_wp2_with (go_at_call 125;refine (qeb _ _ _ _ _).mono ?_;rintro e w1 ⟨rfl,hb1⟩)
 have hz1:w.heap.size<w1.heap.size:=by have:=hb1.size;simp at this;omega
 have c0:w1.cell? (aQ w.heap.size 0)=some (iV 7):=by rw [hb1.cell (by simp)];simp
 have c1:w1.cell? (aQ w.heap.size 1)=some (iV r):=by rw [hb1.cell (by simp)];simp
 have c2:w1.cell? (aQ w.heap.size 2)=some (iV 0):=by rw [hb1.cell (by simp)];simp
 have c3:w1.cell? (aQ w.heap.size 3)=some (iV 0):=by rw [hb1.cell (by simp)];simp
 have c4:w1.cell? (aQ w.heap.size 4)=some (iV n):=by rw [hb1.cell (by simp)];simp
 first|(go_region_with (first|(go_at_call 204;refine (qpc _ _ _).mono ?_;rintro e w2 ⟨rfl,hb2⟩;have d0:=hb2.cell (p:=(aQ w.heap.size 0)) (by simpa using hz1);have d1:=hb2.cell (p:=(aQ w.heap.size 1)) (by simpa using hz1);have d2:=hb2.cell (p:=(aQ w.heap.size 2)) (by simpa using hz1);have d3:=hb2.cell (p:=(aQ w.heap.size 3)) (by simpa using hz1);have d4:=hb2.cell (p:=(aQ w.heap.size 4)) (by simpa using hz1))|(go_at_call 126;refine (qr5 _ _ _ _ _).mono ?_;rintro e w3 ⟨rfl,hb3⟩))) | fail
 all_goals
  go_wp2;go_ret;exact ⟨rfl,qbc hb1 hb2 hb3⟩
theorem qdh (r a b n places procs:Int) (w:World) (h5:1<=procs) (h6:procs<=4) (hne:qa3 7 r 0 0 n 7 r a b n=false):
  Calls prog 106 #[insV 7 r a b n,iV places,iV procs] w (rB w (.bool (false))):=by
 have he:∀ wx,(binOp .eql 45 (insV 7 r 0 0 n) (insV 7 r a b n)).run prog wx=.ok (.bool false) wx:=fun wx=>by rw [qby,hne]
 clear hne
 go_enter func106,ntmps106
 go_wp2_with (go_at_call 125;refine (qeb _ _ _ _ _).mono ?_;rintro e w1 ⟨rfl,hb1⟩)
 have hz1:w.heap.size<w1.heap.size:=by have:=hb1.size;simp at this;omega
 have c0:w1.cell? (aQ w.heap.size 0)=some (iV 7):=by rw [hb1.cell (by simp)];simp
 have c1:w1.cell? (aQ w.heap.size 1)=some (iV r):=by rw [hb1.cell (by simp)];simp
 have c2:w1.cell? (aQ w.heap.size 2)=some (iV a):=by rw [hb1.cell (by simp)];simp
 have c3:w1.cell? (aQ w.heap.size 3)=some (iV b):=by rw [hb1.cell (by simp)];simp
 have c4:w1.cell? (aQ w.heap.size 4)=some (iV n):=by rw [hb1.cell (by simp)];simp
 first|(go_region_with (go_at_call 204;refine (qpc _ _ _).mono ?_;rintro e w2 ⟨rfl,hb2⟩;have d0:=hb2.cell (p:=(aQ w.heap.size 0)) (by simpa using hz1);have d1:=hb2.cell (p:=(aQ w.heap.size 1)) (by simpa using hz1);have d2:=hb2.cell (p:=(aQ w.heap.size 2)) (by simpa using hz1);have d3:=hb2.cell (p:=(aQ w.heap.size 3)) (by simpa using hz1);have d4:=hb2.cell (p:=(aQ w.heap.size 4)) (by simpa using hz1))) | fail
 all_goals
  go_wp2;go_ret;exact ⟨rfl,qa8 hb1 hb2⟩
theorem qfu (a places procs:Int) (w:World) (h5:1<=procs) (h6:procs<=4):
  Calls prog 106 #[insV 8 0 a 0 0,iV places,iV procs] w (rB w (.bool (belB a 4))):=by
 have he:∀ wx,(binOp .eql 45 (insV 8 0 a 0 0) (insV 8 0 a 0 0)).run prog wx=.ok (.bool true) wx:=fun wx=>by rw [qby];simp [qa3]
 go_enter func106,ntmps106
 go_wp2_with (go_at_call 125;refine (qdv _ _ _ _ _).mono ?_;rintro e w1 ⟨rfl,hb1⟩)
 have hz1:w.heap.size<w1.heap.size:=by have:=hb1.size;simp at this;omega
 have c0:w1.cell? (aQ w.heap.size 0)=some (iV 8):=by rw [hb1.cell (by simp)];simp
 have c1:w1.cell? (aQ w.heap.size 1)=some (iV 0):=by rw [hb1.cell (by simp)];simp
 have c2:w1.cell? (aQ w.heap.size 2)=some (iV a):=by rw [hb1.cell (by simp)];simp
 have c3:w1.cell? (aQ w.heap.size 3)=some (iV 0):=by rw [hb1.cell (by simp)];simp
 have c4:w1.cell? (aQ w.heap.size 4)=some (iV 0):=by rw [hb1.cell (by simp)];simp
 first|(go_region_with (first|(go_at_call 205;refine (ql4 _ _).mono ?_;rintro e w2 ⟨rfl,hb2⟩;have d0:=hb2.cell (p:=(aQ w.heap.size 0)) (by simpa using hz1);have d1:=hb2.cell (p:=(aQ w.heap.size 1)) (by simpa using hz1);have d2:=hb2.cell (p:=(aQ w.heap.size 2)) (by simpa using hz1);have d3:=hb2.cell (p:=(aQ w.heap.size 3)) (by simpa using hz1);have d4:=hb2.cell (p:=(aQ w.heap.size 4)) (by simpa using hz1))|(go_at_call 126;refine (qqe _ _ _ _).mono ?_;rintro e w3 ⟨rfl,hb3⟩))) | fail
 all_goals
  go_wp2;go_ret;exact ⟨rfl,qbc hb1 hb2 hb3⟩
theorem qb5 (r a b n places procs:Int) (w:World) (h5:1<=procs) (h6:procs<=4) (hne:qa3 8 0 a 0 0 8 r a b n=false):
  Calls prog 106 #[insV 8 r a b n,iV places,iV procs] w (rB w (.bool (false))):=by
 have he:∀ wx,(binOp .eql 45 (insV 8 0 a 0 0) (insV 8 r a b n)).run prog wx=.ok (.bool false) wx:=fun wx=>by rw [qby,hne]
 clear hne
 go_enter func106,ntmps106
 go_wp2_with (go_at_call 125;refine (qdv _ _ _ _ _).mono ?_;rintro e w1 ⟨rfl,hb1⟩)
 have hz1:w.heap.size<w1.heap.size:=by have:=hb1.size;simp at this;omega
 have c0:w1.cell? (aQ w.heap.size 0)=some (iV 8):=by rw [hb1.cell (by simp)];simp
 have c1:w1.cell? (aQ w.heap.size 1)=some (iV r):=by rw [hb1.cell (by simp)];simp
 have c2:w1.cell? (aQ w.heap.size 2)=some (iV a):=by rw [hb1.cell (by simp)];simp
 have c3:w1.cell? (aQ w.heap.size 3)=some (iV b):=by rw [hb1.cell (by simp)];simp
 have c4:w1.cell? (aQ w.heap.size 4)=some (iV n):=by rw [hb1.cell (by simp)];simp
 first|(go_region_with (go_at_call 205;refine (ql4 _ _).mono ?_;rintro e w2 ⟨rfl,hb2⟩;have d0:=hb2.cell (p:=(aQ w.heap.size 0)) (by simpa using hz1);have d1:=hb2.cell (p:=(aQ w.heap.size 1)) (by simpa using hz1);have d2:=hb2.cell (p:=(aQ w.heap.size 2)) (by simpa using hz1);have d3:=hb2.cell (p:=(aQ w.heap.size 3)) (by simpa using hz1);have d4:=hb2.cell (p:=(aQ w.heap.size 4)) (by simpa using hz1))) | fail
 all_goals
  go_wp2;go_ret;exact ⟨rfl,qa8 hb1 hb2⟩
