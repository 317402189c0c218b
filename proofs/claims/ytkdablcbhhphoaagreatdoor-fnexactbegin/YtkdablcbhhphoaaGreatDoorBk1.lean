import Derived.Test.YtkdablcbhhphoaaGreatDoorBk0
import Derived.WalkKit
import Derived.WalkSpells
import Derived.WalkLawsBesides
import Derived.Handy
namespace Go.Proofs.YtkdablcbhhphoaaGreatDoor
set_option maxHeartbeats 1000000
open Go.RowKit
def inB (x lo hi:Int):Bool:=decide (lo<=x/\x<=hi)
def belB (x n:Int):Bool:=decide (0<=x/\x<n)
theorem l1In_any (x lo hi:Int) (w:World):
  Calls Tryz.prog 20 #[.int .i64 x,.int .i64 lo,.int .i64 hi] w fun e w'=>e=.returned (.bool (inB x lo hi))/\w'=w:=by
 by_cases h1:lo<=x
 ·by_cases h2:x<=hi
  ·go_enter Tryz.func20,Tryz.ntmps20
   go_wp2;go_ret;exact ⟨by simp [inB,h1,h2],rfl⟩
  ·go_enter Tryz.func20,Tryz.ntmps20
   go_wp2;go_ret;exact ⟨by simp [inB,h1,h2],rfl⟩
 ·go_enter Tryz.func20,Tryz.ntmps20
  go_wp2;go_ret;exact ⟨by simp [inB];omega,rfl⟩
theorem isBelow_any (x n:Int) (w:World):
  Calls Tryz.prog 27 #[.int .i64 x,.int .i64 n] w fun e w'=>e=.returned (.bool (belB x n))/\w'=w:=by
 by_cases h1:0<=x
 ·by_cases h2:x<n
  ·go_enter Tryz.func27,Tryz.ntmps27
   go_wp2;go_ret;exact ⟨by simp [belB,h1,h2],rfl⟩
  ·go_enter Tryz.func27,Tryz.ntmps27
   go_wp2;go_ret;exact ⟨by simp [belB,h1,h2],rfl⟩
 ·go_enter Tryz.func27,Tryz.ntmps27
  go_wp2;go_ret;exact ⟨by simp [belB];omega,rfl⟩
theorem qcn (x:Int) (w:World):
  Calls Tryz.prog 248 #[.int .i64 x] w fun e w'=>e=.returned (.bool (belB x 4))/\w'=w:=by
 go_enter Tryz.func248,Tryz.ntmps248
 go_wp2_with (go_at_call 27;refine (isBelow_any _ _ _).mono ?_;rintro e w' ⟨rfl,rfl⟩)
 go_ret;exact ⟨rfl,rfl⟩
theorem isNum_any (x:Int) (w:World):
  Calls Tryz.prog 211 #[.int .i64 x] w fun e w'=>e=.returned (.bool (inB x (-1000000000) 1000000000))/\w'=w:=by
 by_cases h1:-1000000000<=x
 ·by_cases h2:x<=1000000000
  ·go_enter Tryz.func211,Tryz.ntmps211
   go_wp2;go_ret;exact ⟨by simp [inB,h1,h2],rfl⟩
  ·go_enter Tryz.func211,Tryz.ntmps211
   go_wp2;go_ret;exact ⟨by simp [inB,h1,h2],rfl⟩
 ·go_enter Tryz.func211,Tryz.ntmps211
  go_wp2;go_ret;exact ⟨by simp [inB];omega,rfl⟩
theorem l1Num_any (x:Int) (w:World):
  Calls Tryz.prog 158 #[.int .i64 x] w fun e w'=>e=.returned (.bool (inB x (-1000000000) 1000000000))/\w'=w:=by
 go_enter Tryz.func158,Tryz.ntmps158
 go_wp2_with (go_at_call 20;refine (l1In_any _ _ _ _).mono ?_;rintro e w' ⟨rfl,rfl⟩)
 go_ret;exact ⟨rfl,rfl⟩
abbrev insV (op r a b n:Int):Value:=.agg #[.int .i64 op,.int .i64 r,.int .i64 a,.int .i64 b,.int .i64 n]
theorem qvt (op r a b n:Int) (w:World):
  Calls Tryz.prog 177 #[insV op r a b n] w fun e w'=>e=.returned (insV op r a b n)/\Below w.heap.size w w':=by
 go_enter Tryz.func177,Tryz.ntmps177
 go_wp2;refine bodyPost_ret (v:=insV op r a b n) (by simp [results,Tryz.results177,go_sem]) rfl ⟨rfl,?_⟩
 go_grown
abbrev setV (r n:Int):Value:=.agg #[.int .i64 r,.int .i64 n]
theorem qe5 (r a b n:Int) (w:World):
  Calls Tryz.prog 165 #[insV 1 r a b n] w fun e w'=>e=.returned (.iface 257 (setV r n))/\Below w.heap.size w w':=by
 go_enter Tryz.func165,Tryz.ntmps165
 go_wp2;go_ret;exact ⟨rfl,by go_grown⟩
theorem quv (r n:Int) (w:World):
  Calls Tryz.prog 276 #[setV r n] w fun e w'=>e=.returned (insV 1 r 0 0 n)/\Below w.heap.size w w':=by
 go_enter Tryz.func276,Tryz.ntmps276
 go_wp2;refine bodyPost_ret (v:=insV 1 r 0 0 n) (by simp [results,Tryz.results276,go_sem]) rfl ⟨rfl,?_⟩
 go_grown
abbrev qki (op r a b:Int):Value:=.agg #[.int .i64 op,.int .i64 r,.int .i64 a,.int .i64 b]
theorem qfq (r a b n:Int) (w:World):
  Calls Tryz.prog 165 #[insV 2 r a b n] w fun e w'=>e=.returned (.iface 259 (qki 2 r a b))/\Below w.heap.size w w':=by
 go_enter Tryz.func165,Tryz.ntmps165
 go_wp2;go_ret;exact ⟨rfl,by go_grown⟩
theorem qfr (r a b n:Int) (w:World):
  Calls Tryz.prog 165 #[insV 3 r a b n] w fun e w'=>e=.returned (.iface 259 (qki 3 r a b))/\Below w.heap.size w w':=by
 go_enter Tryz.func165,Tryz.ntmps165
 go_wp2;go_ret;exact ⟨rfl,by go_grown⟩
theorem qfs (r a b n:Int) (w:World):
  Calls Tryz.prog 165 #[insV 4 r a b n] w fun e w'=>e=.returned (.iface 259 (qki 4 r a b))/\Below w.heap.size w w':=by
 go_enter Tryz.func165,Tryz.ntmps165
 go_wp2;go_ret;exact ⟨rfl,by go_grown⟩
theorem qft (r a b n:Int) (w:World):
  Calls Tryz.prog 165 #[insV 5 r a b n] w fun e w'=>e=.returned (.iface 259 (qki 5 r a b))/\Below w.heap.size w w':=by
 go_enter Tryz.func165,Tryz.ntmps165
 go_wp2;go_ret;exact ⟨rfl,by go_grown⟩
theorem qrj (op r a b:Int) (w:World):
  Calls Tryz.prog 277 #[qki op r a b] w fun e w'=>e=.returned (insV op r a b 0)/\Below w.heap.size w w':=by
 go_enter Tryz.func277,Tryz.ntmps277
 go_wp2;refine bodyPost_ret (v:=insV op r a b 0) (by simp [results,Tryz.results277,go_sem]) rfl ⟨rfl,?_⟩
 go_grown
abbrev qvi (n a:Int):Value:=.agg #[.int .i64 n,.int .i64 a]
theorem qdy (r a b n:Int) (w:World):
  Calls Tryz.prog 165 #[insV 6 r a b n] w fun e w'=>e=.returned (.iface 251 (qvi n a))/\Below w.heap.size w w':=by
 go_enter Tryz.func165,Tryz.ntmps165
 go_wp2;go_ret;exact ⟨rfl,by go_grown⟩
theorem qrl (n a:Int) (w:World):
  Calls Tryz.prog 273 #[qvi n a] w fun e w'=>e=.returned (insV 6 0 a 0 n)/\Below w.heap.size w w':=by
 go_enter Tryz.func273,Tryz.ntmps273
 go_wp2;refine bodyPost_ret (v:=insV 6 0 a 0 n) (by simp [results,Tryz.results273,go_sem]) rfl ⟨rfl,?_⟩
 go_grown
abbrev qvq (r n:Int):Value:=.agg #[.int .i64 r,.int .i64 n]
theorem qdz (r a b n:Int) (w:World):
  Calls Tryz.prog 165 #[insV 7 r a b n] w fun e w'=>e=.returned (.iface 253 (qvq r n))/\Below w.heap.size w w':=by
 go_enter Tryz.func165,Tryz.ntmps165
 go_wp2;go_ret;exact ⟨rfl,by go_grown⟩
theorem qrm (r n:Int) (w:World):
  Calls Tryz.prog 274 #[qvq r n] w fun e w'=>e=.returned (insV 7 r 0 0 n)/\Below w.heap.size w w':=by
 go_enter Tryz.func274,Tryz.ntmps274
 go_wp2;refine bodyPost_ret (v:=insV 7 r 0 0 n) (by simp [results,Tryz.results274,go_sem]) rfl ⟨rfl,?_⟩
 go_grown
abbrev qn7 (a:Int):Value:=.agg #[.int .i64 a]
theorem qdm (r a b n:Int) (w:World):
  Calls Tryz.prog 165 #[insV 8 r a b n] w fun e w'=>e=.returned (.iface 255 (qn7 a))/\Below w.heap.size w w':=by
 go_enter Tryz.func165,Tryz.ntmps165
 go_wp2;go_ret;exact ⟨rfl,by go_grown⟩
theorem qnk (a:Int) (w:World):
  Calls Tryz.prog 275 #[qn7 a] w fun e w'=>e=.returned (insV 8 0 a 0 0)/\Below w.heap.size w w':=by
 go_enter Tryz.func275,Tryz.ntmps275
 go_wp2;refine bodyPost_ret (v:=insV 8 0 a 0 0) (by simp [results,Tryz.results275,go_sem]) rfl ⟨rfl,?_⟩
 go_grown
abbrev qux (n:Int):Value:=.agg #[.int .i64 n]
theorem qdx (r a b n:Int) (w:World):
  Calls Tryz.prog 165 #[insV 9 r a b n] w fun e w'=>e=.returned (.iface 261 (qux n))/\Below w.heap.size w w':=by
 go_enter Tryz.func165,Tryz.ntmps165
 go_wp2;go_ret;exact ⟨rfl,by go_grown⟩
theorem qrk (n:Int) (w:World):
  Calls Tryz.prog 278 #[qux n] w fun e w'=>e=.returned (insV 9 0 0 0 n)/\Below w.heap.size w w':=by
 go_enter Tryz.func278,Tryz.ntmps278
 go_wp2;refine bodyPost_ret (v:=insV 9 0 0 0 n) (by simp [results,Tryz.results278,go_sem]) rfl ⟨rfl,?_⟩
 go_grown
abbrev qv1 (a n:Int):Value:=.agg #[.int .i64 a,.int .i64 n]
theorem qd0 (r a b n:Int) (w:World):
  Calls Tryz.prog 165 #[insV 10 r a b n] w fun e w'=>e=.returned (.iface 263 (qv1 a n))/\Below w.heap.size w w':=by
 go_enter Tryz.func165,Tryz.ntmps165
 go_wp2;go_ret;exact ⟨rfl,by go_grown⟩
theorem qro (a n:Int) (w:World):
  Calls Tryz.prog 279 #[qv1 a n] w fun e w'=>e=.returned (insV 10 0 a 0 n)/\Below w.heap.size w w':=by
 go_enter Tryz.func279,Tryz.ntmps279
 go_wp2;refine bodyPost_ret (v:=insV 10 0 a 0 n) (by simp [results,Tryz.results279,go_sem]) rfl ⟨rfl,?_⟩
 go_grown
abbrev endV:Value:=.agg #[]
theorem qe4 (r a b n:Int) (w:World):
  Calls Tryz.prog 165 #[insV 11 r a b n] w fun e w'=>e=.returned (.iface 264 endV)/\Below w.heap.size w w':=by
 go_enter Tryz.func165,Tryz.ntmps165
 go_wp2;go_ret;exact ⟨rfl,by go_grown⟩
theorem quu (w:World):
  Calls Tryz.prog 280 #[endV] w fun e w'=>e=.returned (insV 11 0 0 0 0)/\Below w.heap.size w w':=by
 go_enter Tryz.func280,Tryz.ntmps280
 go_wp2;refine bodyPost_ret (v:=insV 11 0 0 0 0) (by simp [results,Tryz.results280,go_sem]) rfl ⟨rfl,?_⟩
 go_grown
theorem qg8 (op r a b n:Int) (w:World) (h1:2<=op) (h2:op<=5):
  Calls Tryz.prog 165 #[insV op r a b n] w fun e w'=>e=.returned (.iface 259 (qki op r a b))/\Below w.heap.size w w':=by
 have h:op=2\/op=3\/op=4\/op=5:=by omega
 rcases h with rfl | rfl | rfl | rfl
 ·exact qfq r a b n w
 ·exact qfr r a b n w
 ·exact qfs r a b n w
 ·exact qft r a b n w
theorem qn6 (op r a b n:Int) (w:World) (h:op<1\/11<op):
  Calls Tryz.prog 165 #[insV op r a b n] w fun e w'=>e=.returned .nilIface/\Below w.heap.size w w':=by
 have h1:(op == 1)=false:=by simp;omega
 have h2:(op == 2)=false:=by simp;omega
 have h3:(op == 3)=false:=by simp;omega
 have h4:(op == 4)=false:=by simp;omega
 have h5:(op == 5)=false:=by simp;omega
 have h6:(op == 6)=false:=by simp;omega
 have h7:(op == 7)=false:=by simp;omega
 have h8:(op == 8)=false:=by simp;omega
 have h9:(op == 9)=false:=by simp;omega
 have h10:(op == 10)=false:=by simp;omega
 have h11:(op == 11)=false:=by simp;omega
 clear h
 go_enter Tryz.func165,Tryz.ntmps165
 go_wp2;go_ret;exact ⟨rfl,by go_grown⟩
theorem qsa (v:Value) (w:World):(Instr.typeAssert (.iface 257 v) 208 257 true).run Tryz.prog w=.ok (.tuple #[v,.bool true]) w:=by kernel_rfl
theorem qo7 (v:Value) (w:World):(Instr.typeAssert (.iface 257 v) 208 259 true).run Tryz.prog w=.ok (.tuple #[.agg #[.int .i64 0,.int .i64 0,.int .i64 0,.int .i64 0],.bool false]) w:=by kernel_rfl
theorem qh8 (v:Value) (w:World):(Instr.typeAssert (.iface 257 v) 208 251 true).run Tryz.prog w=.ok (.tuple #[.agg #[.int .i64 0,.int .i64 0],.bool false]) w:=by kernel_rfl
theorem qh9 (v:Value) (w:World):(Instr.typeAssert (.iface 257 v) 208 253 true).run Tryz.prog w=.ok (.tuple #[.agg #[.int .i64 0,.int .i64 0],.bool false]) w:=by kernel_rfl
theorem qgx (v:Value) (w:World):(Instr.typeAssert (.iface 257 v) 208 255 true).run Tryz.prog w=.ok (.tuple #[.agg #[.int .i64 0],.bool false]) w:=by kernel_rfl
theorem qo8 (v:Value) (w:World):(Instr.typeAssert (.iface 257 v) 208 261 true).run Tryz.prog w=.ok (.tuple #[.agg #[.int .i64 0],.bool false]) w:=by kernel_rfl
theorem qo9 (v:Value) (w:World):(Instr.typeAssert (.iface 257 v) 208 263 true).run Tryz.prog w=.ok (.tuple #[.agg #[.int .i64 0,.int .i64 0],.bool false]) w:=by kernel_rfl
theorem qr9 (v:Value) (w:World):(Instr.typeAssert (.iface 257 v) 208 264 true).run Tryz.prog w=.ok (.tuple #[.agg #[],.bool false]) w:=by kernel_rfl
theorem qoz (v:Value) (w:World):(Instr.typeAssert (.iface 259 v) 208 257 true).run Tryz.prog w=.ok (.tuple #[.agg #[.int .i64 0,.int .i64 0],.bool false]) w:=by kernel_rfl
theorem qmc (v:Value) (w:World):(Instr.typeAssert (.iface 259 v) 208 259 true).run Tryz.prog w=.ok (.tuple #[v,.bool true]) w:=by kernel_rfl
theorem qgr (v:Value) (w:World):(Instr.typeAssert (.iface 259 v) 208 251 true).run Tryz.prog w=.ok (.tuple #[.agg #[.int .i64 0,.int .i64 0],.bool false]) w:=by kernel_rfl
theorem qgs (v:Value) (w:World):(Instr.typeAssert (.iface 259 v) 208 253 true).run Tryz.prog w=.ok (.tuple #[.agg #[.int .i64 0,.int .i64 0],.bool false]) w:=by kernel_rfl
theorem qe9 (v:Value) (w:World):(Instr.typeAssert (.iface 259 v) 208 255 true).run Tryz.prog w=.ok (.tuple #[.agg #[.int .i64 0],.bool false]) w:=by kernel_rfl
theorem qmd (v:Value) (w:World):(Instr.typeAssert (.iface 259 v) 208 261 true).run Tryz.prog w=.ok (.tuple #[.agg #[.int .i64 0],.bool false]) w:=by kernel_rfl
theorem qme (v:Value) (w:World):(Instr.typeAssert (.iface 259 v) 208 263 true).run Tryz.prog w=.ok (.tuple #[.agg #[.int .i64 0,.int .i64 0],.bool false]) w:=by kernel_rfl
theorem qoy (v:Value) (w:World):(Instr.typeAssert (.iface 259 v) 208 264 true).run Tryz.prog w=.ok (.tuple #[.agg #[],.bool false]) w:=by kernel_rfl
theorem qo6 (v:Value) (w:World):(Instr.typeAssert (.iface 251 v) 208 257 true).run Tryz.prog w=.ok (.tuple #[.agg #[.int .i64 0,.int .i64 0],.bool false]) w:=by kernel_rfl
theorem qmk (v:Value) (w:World):(Instr.typeAssert (.iface 251 v) 208 259 true).run Tryz.prog w=.ok (.tuple #[.agg #[.int .i64 0,.int .i64 0,.int .i64 0,.int .i64 0],.bool false]) w:=by kernel_rfl
theorem qgw (v:Value) (w:World):(Instr.typeAssert (.iface 251 v) 208 251 true).run Tryz.prog w=.ok (.tuple #[v,.bool true]) w:=by kernel_rfl
theorem qmm (v:Value) (w:World):(Instr.typeAssert (.iface 251 v) 208 253 true).run Tryz.prog w=.ok (.tuple #[.agg #[.int .i64 0,.int .i64 0],.bool false]) w:=by kernel_rfl
theorem qkf (v:Value) (w:World):(Instr.typeAssert (.iface 251 v) 208 255 true).run Tryz.prog w=.ok (.tuple #[.agg #[.int .i64 0],.bool false]) w:=by kernel_rfl
theorem qml (v:Value) (w:World):(Instr.typeAssert (.iface 251 v) 208 261 true).run Tryz.prog w=.ok (.tuple #[.agg #[.int .i64 0],.bool false]) w:=by kernel_rfl
theorem qmn (v:Value) (w:World):(Instr.typeAssert (.iface 251 v) 208 263 true).run Tryz.prog w=.ok (.tuple #[.agg #[.int .i64 0,.int .i64 0],.bool false]) w:=by kernel_rfl
theorem qo5 (v:Value) (w:World):(Instr.typeAssert (.iface 251 v) 208 264 true).run Tryz.prog w=.ok (.tuple #[.agg #[],.bool false]) w:=by kernel_rfl
theorem qpb (v:Value) (w:World):(Instr.typeAssert (.iface 253 v) 208 257 true).run Tryz.prog w=.ok (.tuple #[.agg #[.int .i64 0,.int .i64 0],.bool false]) w:=by kernel_rfl
theorem qmo (v:Value) (w:World):(Instr.typeAssert (.iface 253 v) 208 259 true).run Tryz.prog w=.ok (.tuple #[.agg #[.int .i64 0,.int .i64 0,.int .i64 0,.int .i64 0],.bool false]) w:=by kernel_rfl
theorem qgy (v:Value) (w:World):(Instr.typeAssert (.iface 253 v) 208 251 true).run Tryz.prog w=.ok (.tuple #[.agg #[.int .i64 0,.int .i64 0],.bool false]) w:=by kernel_rfl
theorem qgz (v:Value) (w:World):(Instr.typeAssert (.iface 253 v) 208 253 true).run Tryz.prog w=.ok (.tuple #[v,.bool true]) w:=by kernel_rfl
theorem qkg (v:Value) (w:World):(Instr.typeAssert (.iface 253 v) 208 255 true).run Tryz.prog w=.ok (.tuple #[.agg #[.int .i64 0],.bool false]) w:=by kernel_rfl
theorem qmp (v:Value) (w:World):(Instr.typeAssert (.iface 253 v) 208 261 true).run Tryz.prog w=.ok (.tuple #[.agg #[.int .i64 0],.bool false]) w:=by kernel_rfl
theorem qmq (v:Value) (w:World):(Instr.typeAssert (.iface 253 v) 208 263 true).run Tryz.prog w=.ok (.tuple #[.agg #[.int .i64 0,.int .i64 0],.bool false]) w:=by kernel_rfl
theorem qpa (v:Value) (w:World):(Instr.typeAssert (.iface 253 v) 208 264 true).run Tryz.prog w=.ok (.tuple #[.agg #[],.bool false]) w:=by kernel_rfl
theorem qmj (v:Value) (w:World):(Instr.typeAssert (.iface 255 v) 208 257 true).run Tryz.prog w=.ok (.tuple #[.agg #[.int .i64 0,.int .i64 0],.bool false]) w:=by kernel_rfl
theorem qkc (v:Value) (w:World):(Instr.typeAssert (.iface 255 v) 208 259 true).run Tryz.prog w=.ok (.tuple #[.agg #[.int .i64 0,.int .i64 0,.int .i64 0,.int .i64 0],.bool false]) w:=by kernel_rfl
theorem qfb (v:Value) (w:World):(Instr.typeAssert (.iface 255 v) 208 251 true).run Tryz.prog w=.ok (.tuple #[.agg #[.int .i64 0,.int .i64 0],.bool false]) w:=by kernel_rfl
theorem qfc (v:Value) (w:World):(Instr.typeAssert (.iface 255 v) 208 253 true).run Tryz.prog w=.ok (.tuple #[.agg #[.int .i64 0,.int .i64 0],.bool false]) w:=by kernel_rfl
theorem qem (v:Value) (w:World):(Instr.typeAssert (.iface 255 v) 208 255 true).run Tryz.prog w=.ok (.tuple #[v,.bool true]) w:=by kernel_rfl
theorem qkd (v:Value) (w:World):(Instr.typeAssert (.iface 255 v) 208 261 true).run Tryz.prog w=.ok (.tuple #[.agg #[.int .i64 0],.bool false]) w:=by kernel_rfl
theorem qke (v:Value) (w:World):(Instr.typeAssert (.iface 255 v) 208 263 true).run Tryz.prog w=.ok (.tuple #[.agg #[.int .i64 0,.int .i64 0],.bool false]) w:=by kernel_rfl
theorem qmi (v:Value) (w:World):(Instr.typeAssert (.iface 255 v) 208 264 true).run Tryz.prog w=.ok (.tuple #[.agg #[],.bool false]) w:=by kernel_rfl
theorem qo4 (v:Value) (w:World):(Instr.typeAssert (.iface 261 v) 208 257 true).run Tryz.prog w=.ok (.tuple #[.agg #[.int .i64 0,.int .i64 0],.bool false]) w:=by kernel_rfl
theorem qmf (v:Value) (w:World):(Instr.typeAssert (.iface 261 v) 208 259 true).run Tryz.prog w=.ok (.tuple #[.agg #[.int .i64 0,.int .i64 0,.int .i64 0,.int .i64 0],.bool false]) w:=by kernel_rfl
theorem qgu (v:Value) (w:World):(Instr.typeAssert (.iface 261 v) 208 251 true).run Tryz.prog w=.ok (.tuple #[.agg #[.int .i64 0,.int .i64 0],.bool false]) w:=by kernel_rfl
theorem qgv (v:Value) (w:World):(Instr.typeAssert (.iface 261 v) 208 253 true).run Tryz.prog w=.ok (.tuple #[.agg #[.int .i64 0,.int .i64 0],.bool false]) w:=by kernel_rfl
theorem qfa (v:Value) (w:World):(Instr.typeAssert (.iface 261 v) 208 255 true).run Tryz.prog w=.ok (.tuple #[.agg #[.int .i64 0],.bool false]) w:=by kernel_rfl
theorem qmg (v:Value) (w:World):(Instr.typeAssert (.iface 261 v) 208 261 true).run Tryz.prog w=.ok (.tuple #[v,.bool true]) w:=by kernel_rfl
theorem qmh (v:Value) (w:World):(Instr.typeAssert (.iface 261 v) 208 263 true).run Tryz.prog w=.ok (.tuple #[.agg #[.int .i64 0,.int .i64 0],.bool false]) w:=by kernel_rfl
theorem qo3 (v:Value) (w:World):(Instr.typeAssert (.iface 261 v) 208 264 true).run Tryz.prog w=.ok (.tuple #[.agg #[],.bool false]) w:=by kernel_rfl
theorem qpd (v:Value) (w:World):(Instr.typeAssert (.iface 263 v) 208 257 true).run Tryz.prog w=.ok (.tuple #[.agg #[.int .i64 0,.int .i64 0],.bool false]) w:=by kernel_rfl
theorem qmr (v:Value) (w:World):(Instr.typeAssert (.iface 263 v) 208 259 true).run Tryz.prog w=.ok (.tuple #[.agg #[.int .i64 0,.int .i64 0,.int .i64 0,.int .i64 0],.bool false]) w:=by kernel_rfl
theorem qg0 (v:Value) (w:World):(Instr.typeAssert (.iface 263 v) 208 251 true).run Tryz.prog w=.ok (.tuple #[.agg #[.int .i64 0,.int .i64 0],.bool false]) w:=by kernel_rfl
theorem qg1 (v:Value) (w:World):(Instr.typeAssert (.iface 263 v) 208 253 true).run Tryz.prog w=.ok (.tuple #[.agg #[.int .i64 0,.int .i64 0],.bool false]) w:=by kernel_rfl
theorem qfd (v:Value) (w:World):(Instr.typeAssert (.iface 263 v) 208 255 true).run Tryz.prog w=.ok (.tuple #[.agg #[.int .i64 0],.bool false]) w:=by kernel_rfl
theorem qms (v:Value) (w:World):(Instr.typeAssert (.iface 263 v) 208 261 true).run Tryz.prog w=.ok (.tuple #[.agg #[.int .i64 0],.bool false]) w:=by kernel_rfl
theorem qmt (v:Value) (w:World):(Instr.typeAssert (.iface 263 v) 208 263 true).run Tryz.prog w=.ok (.tuple #[v,.bool true]) w:=by kernel_rfl
theorem qpc (v:Value) (w:World):(Instr.typeAssert (.iface 263 v) 208 264 true).run Tryz.prog w=.ok (.tuple #[.agg #[],.bool false]) w:=by kernel_rfl
theorem qr8 (v:Value) (w:World):(Instr.typeAssert (.iface 264 v) 208 257 true).run Tryz.prog w=.ok (.tuple #[.agg #[.int .i64 0,.int .i64 0],.bool false]) w:=by kernel_rfl
theorem qo0 (v:Value) (w:World):(Instr.typeAssert (.iface 264 v) 208 259 true).run Tryz.prog w=.ok (.tuple #[.agg #[.int .i64 0,.int .i64 0,.int .i64 0,.int .i64 0],.bool false]) w:=by kernel_rfl
theorem qh6 (v:Value) (w:World):(Instr.typeAssert (.iface 264 v) 208 251 true).run Tryz.prog w=.ok (.tuple #[.agg #[.int .i64 0,.int .i64 0],.bool false]) w:=by kernel_rfl
theorem qh7 (v:Value) (w:World):(Instr.typeAssert (.iface 264 v) 208 253 true).run Tryz.prog w=.ok (.tuple #[.agg #[.int .i64 0,.int .i64 0],.bool false]) w:=by kernel_rfl
theorem qgt (v:Value) (w:World):(Instr.typeAssert (.iface 264 v) 208 255 true).run Tryz.prog w=.ok (.tuple #[.agg #[.int .i64 0],.bool false]) w:=by kernel_rfl
theorem qo1 (v:Value) (w:World):(Instr.typeAssert (.iface 264 v) 208 261 true).run Tryz.prog w=.ok (.tuple #[.agg #[.int .i64 0],.bool false]) w:=by kernel_rfl
theorem qo2 (v:Value) (w:World):(Instr.typeAssert (.iface 264 v) 208 263 true).run Tryz.prog w=.ok (.tuple #[.agg #[.int .i64 0,.int .i64 0],.bool false]) w:=by kernel_rfl
theorem qr7 (v:Value) (w:World):(Instr.typeAssert (.iface 264 v) 208 264 true).run Tryz.prog w=.ok (.tuple #[v,.bool true]) w:=by kernel_rfl
attribute [local go_sem] qsa qo7 qh8 qh9 qgx qo8 qo9 qr9 qoz qmc qgr qgs qe9 qmd qme qoy qo6 qmk qgw qmm qkf qml qmn qo5 qpb qmo qgy qgz qkg qmp qmq qpa qmj qkc qfb qfc qem qkd qke qmi qo4 qmf qgu qgv qfa qmg qmh qo3 qpd qmr qg0 qg1 qfd qms qmt qpc qr8 qo0 qh6 qh7 qgt qo1 qo2 qr7
theorem qwe (r n places procs:Int) (w:World):
  Calls Tryz.prog 240 #[.iface 257 (setV r n),.int .i64 places,.int .i64 procs] w fun e w'=>e=.returned (.bool (belB r 4 && inB n (-1000000000) 1000000000))/\Below w.heap.size w w':=by
 rcases zK (belB r 4) with t0 | t0 <;> rcases zK (inB n (-1000000000) 1000000000) with t1 | t1
 all_goals
  go_enter Tryz.func240,Tryz.ntmps240
  go_wp2_with (first|(go_at_call 248;refine (qcn _ _).mono ?_;rintro e w' ⟨rfl,rfl⟩)|(go_at_call 211;refine (isNum_any _ _).mono ?_;rintro e w' ⟨rfl,rfl⟩)|(go_at_call 27;refine (isBelow_any _ _ _).mono ?_;rintro e w' ⟨rfl,rfl⟩))
  go_ret;exact ⟨by rw [t0,t1] <;> rfl,by go_grown⟩
theorem quj (op r a b places procs:Int) (w:World):
  Calls Tryz.prog 240 #[.iface 259 (qki op r a b),.int .i64 places,.int .i64 procs] w fun e w'=>e=.returned (.bool (belB r 4 && belB a 4 && belB b 4))/\Below w.heap.size w w':=by
 rcases zK (belB r 4) with t0 | t0 <;> rcases zK (belB a 4) with t1 | t1 <;> rcases zK (belB b 4) with t2 | t2
 all_goals
  go_enter Tryz.func240,Tryz.ntmps240
  go_wp2_with (first|(go_at_call 248;refine (qcn _ _).mono ?_;rintro e w' ⟨rfl,rfl⟩)|(go_at_call 211;refine (isNum_any _ _).mono ?_;rintro e w' ⟨rfl,rfl⟩)|(go_at_call 27;refine (isBelow_any _ _ _).mono ?_;rintro e w' ⟨rfl,rfl⟩))
  go_ret;exact ⟨by rw [t0,t1,t2] <;> rfl,by go_grown⟩
theorem qul (n a places procs:Int) (w:World):
  Calls Tryz.prog 240 #[.iface 251 (qvi n a),.int .i64 places,.int .i64 procs] w fun e w'=>e=.returned (.bool (belB a 4 && belB n procs))/\Below w.heap.size w w':=by
 rcases zK (belB a 4) with t0 | t0 <;> rcases zK (belB n procs) with t1 | t1
 all_goals
  go_enter Tryz.func240,Tryz.ntmps240
  go_wp2_with (first|(go_at_call 248;refine (qcn _ _).mono ?_;rintro e w' ⟨rfl,rfl⟩)|(go_at_call 211;refine (isNum_any _ _).mono ?_;rintro e w' ⟨rfl,rfl⟩)|(go_at_call 27;refine (isBelow_any _ _ _).mono ?_;rintro e w' ⟨rfl,rfl⟩))
  go_ret;exact ⟨by rw [t0,t1] <;> rfl,by go_grown⟩
theorem qum (r n places procs:Int) (w:World):
  Calls Tryz.prog 240 #[.iface 253 (qvq r n),.int .i64 places,.int .i64 procs] w fun e w'=>e=.returned (.bool (belB r 4 && ((n == 9) || belB n procs)))/\Below w.heap.size w w':=by
 rcases zK (belB r 4) with t0 | t0 <;> rcases zK ((n == 9)) with t1 | t1 <;> rcases zK (belB n procs) with t2 | t2
 all_goals
  go_enter Tryz.func240,Tryz.ntmps240
  go_wp2_with (first|(go_at_call 248;refine (qcn _ _).mono ?_;rintro e w' ⟨rfl,rfl⟩)|(go_at_call 211;refine (isNum_any _ _).mono ?_;rintro e w' ⟨rfl,rfl⟩)|(go_at_call 27;refine (isBelow_any _ _ _).mono ?_;rintro e w' ⟨rfl,rfl⟩))
  go_ret;exact ⟨by rw [t0,t1,t2] <;> rfl,by go_grown⟩
theorem qsv (a places procs:Int) (w:World):
  Calls Tryz.prog 240 #[.iface 255 (qn7 a),.int .i64 places,.int .i64 procs] w fun e w'=>e=.returned (.bool (belB a 4))/\Below w.heap.size w w':=by
 go_enter Tryz.func240,Tryz.ntmps240
 go_wp2_with (first|(go_at_call 248;refine (qcn _ _).mono ?_;rintro e w' ⟨rfl,rfl⟩)|(go_at_call 211;refine (isNum_any _ _).mono ?_;rintro e w' ⟨rfl,rfl⟩)|(go_at_call 27;refine (isBelow_any _ _ _).mono ?_;rintro e w' ⟨rfl,rfl⟩))
 go_ret;exact ⟨rfl,by go_grown⟩
theorem quk (n places procs:Int) (w:World):
  Calls Tryz.prog 240 #[.iface 261 (qux n),.int .i64 places,.int .i64 procs] w fun e w'=>e=.returned (.bool (belB n places))/\Below w.heap.size w w':=by
 go_enter Tryz.func240,Tryz.ntmps240
 go_wp2_with (first|(go_at_call 248;refine (qcn _ _).mono ?_;rintro e w' ⟨rfl,rfl⟩)|(go_at_call 211;refine (isNum_any _ _).mono ?_;rintro e w' ⟨rfl,rfl⟩)|(go_at_call 27;refine (isBelow_any _ _ _).mono ?_;rintro e w' ⟨rfl,rfl⟩))
 go_ret;exact ⟨rfl,by go_grown⟩
theorem qun (a n places procs:Int) (w:World):
  Calls Tryz.prog 240 #[.iface 263 (qv1 a n),.int .i64 places,.int .i64 procs] w fun e w'=>e=.returned (.bool (belB a 4 && belB n places))/\Below w.heap.size w w':=by
 rcases zK (belB a 4) with t0 | t0 <;> rcases zK (belB n places) with t1 | t1
 all_goals
  go_enter Tryz.func240,Tryz.ntmps240
  go_wp2_with (first|(go_at_call 248;refine (qcn _ _).mono ?_;rintro e w' ⟨rfl,rfl⟩)|(go_at_call 211;refine (isNum_any _ _).mono ?_;rintro e w' ⟨rfl,rfl⟩)|(go_at_call 27;refine (isBelow_any _ _ _).mono ?_;rintro e w' ⟨rfl,rfl⟩))
  go_ret;exact ⟨by rw [t0,t1] <;> rfl,by go_grown⟩
theorem qwd (places procs:Int) (w:World):
  Calls Tryz.prog 240 #[.iface 264 endV,.int .i64 places,.int .i64 procs] w fun e w'=>e=.returned (.bool (true))/\Below w.heap.size w w':=by
 go_enter Tryz.func240,Tryz.ntmps240
 go_wp2_with (first|(go_at_call 248;refine (qcn _ _).mono ?_;rintro e w' ⟨rfl,rfl⟩)|(go_at_call 211;refine (isNum_any _ _).mono ?_;rintro e w' ⟨rfl,rfl⟩)|(go_at_call 27;refine (isBelow_any _ _ _).mono ?_;rintro e w' ⟨rfl,rfl⟩))
 go_ret;exact ⟨rfl,by go_grown⟩
def qax (o1 r1 a1 b1 n1 o2 r2 a2 b2 n2:Int):Bool:=o1 == o2 && (r1 == r2 && (a1 == a2 && (b1 == b2 && n1 == n2)))
theorem qby (o1 r1 a1 b1 n1 o2 r2 a2 b2 n2:Int) (w:World):(binOp .eql 184 (insV o1 r1 a1 b1 n1) (insV o2 r2 a2 b2 n2)).run Tryz.prog w=.ok (.bool (qax o1 r1 a1 b1 n1 o2 r2 a2 b2 n2)) w:=by
 rw [run_eql_struct,show (10000:Nat)=9998+1+1 from rfl,run_equalIn_agg w (9998+1) 184 _ _ (by kernel_rfl) (by kernel_rfl)];simp only [qax];by_cases h1:o1=o2 <;> by_cases h2:r1=r2 <;> by_cases h3:a1=a2 <;> by_cases h4:b1=b2 <;> by_cases h5:n1=n2 <;> simp [go_sem,h1,h2,h3,h4,h5]
theorem qjg {w w1:World} {o:Obj} (h1:Below (w.alloc o).heap.size (w.alloc o) w1):Below w.heap.size w w1.drew:=by
 have h0:Below w.heap.size w (w.alloc o):=(Below.refl _ _).alloc (Nat.le_refl _) _;have hs:w.heap.size<=(w.alloc o).heap.size:=by simp
 exact (h0.trans (h1.mono hs)).drew
theorem qa0 {w w1 w2:World} {o:Obj} (h1:Below (w.alloc o).heap.size (w.alloc o) w1) (h2:Below w1.drew.heap.size w1.drew w2):Below w.heap.size w w2:=by
 have h0:Below w.heap.size w (w.alloc o):=(Below.refl _ _).alloc (Nat.le_refl _) _;have hs:w.heap.size<=(w.alloc o).heap.size:=by simp
 exact (h0.trans (h1.mono hs)).drew.trans (h2.mono (zO hs h1.size))
theorem qa5 {w w1 w2 w3:World} {o:Obj} (h1:Below (w.alloc o).heap.size (w.alloc o) w1) (h2:Below w1.drew.heap.size w1.drew w2) (h3:Below w2.heap.size w2 w3):Below w.heap.size w w3:=
 qa0 h1 (h2.trans (h3.mono h2.size))
