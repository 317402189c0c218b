import Derived.Test.YtegogmbfhddeoaaGreatDoorJk0
import Derived.WalkKit
import Derived.WalkSpells
import Derived.WalkLawsBesides
import Derived.Handy
namespace Go.Proofs.YtegogmbfhddeoaaGreatDoor
set_option maxHeartbeats 1000000
open Go.RowKit
def inB (x lo hi:Int):Bool:=decide (lo<=x/\x<=hi)
def belB (x n:Int):Bool:=decide (0<=x/\x<n)
theorem l1In_any (x lo hi:Int) (w:World):
  Calls Tryz.prog 47 #[.int .i64 x,.int .i64 lo,.int .i64 hi] w fun e w'=>e=.returned (.bool (inB x lo hi))/\w'=w:=by
 by_cases h1:lo<=x
 ·by_cases h2:x<=hi
  ·go_enter Tryz.func47,Tryz.ntmps47
   go_wp2;go_ret;exact ⟨by simp [inB,h1,h2],rfl⟩
  ·go_enter Tryz.func47,Tryz.ntmps47
   go_wp2;go_ret;exact ⟨by simp [inB,h1,h2],rfl⟩
 ·go_enter Tryz.func47,Tryz.ntmps47
  go_wp2;go_ret;exact ⟨by simp [inB];omega,rfl⟩
theorem isBelow_any (x n:Int) (w:World):
  Calls Tryz.prog 58 #[.int .i64 x,.int .i64 n] w fun e w'=>e=.returned (.bool (belB x n))/\w'=w:=by
 by_cases h1:0<=x
 ·by_cases h2:x<n
  ·go_enter Tryz.func58,Tryz.ntmps58
   go_wp2;go_ret;exact ⟨by simp [belB,h1,h2],rfl⟩
  ·go_enter Tryz.func58,Tryz.ntmps58
   go_wp2;go_ret;exact ⟨by simp [belB,h1,h2],rfl⟩
 ·go_enter Tryz.func58,Tryz.ntmps58
  go_wp2;go_ret;exact ⟨by simp [belB];omega,rfl⟩
theorem qcn (x:Int) (w:World):
  Calls Tryz.prog 214 #[.int .i64 x] w fun e w'=>e=.returned (.bool (belB x 4))/\w'=w:=by
 go_enter Tryz.func214,Tryz.ntmps214
 go_wp2_with (go_at_call 58;refine (isBelow_any _ _ _).mono ?_;rintro e w' ⟨rfl,rfl⟩)
 go_ret;exact ⟨rfl,rfl⟩
theorem isNum_any (x:Int) (w:World):
  Calls Tryz.prog 192 #[.int .i64 x] w fun e w'=>e=.returned (.bool (inB x (-1000000000) 1000000000))/\w'=w:=by
 by_cases h1:-1000000000<=x
 ·by_cases h2:x<=1000000000
  ·go_enter Tryz.func192,Tryz.ntmps192
   go_wp2;go_ret;exact ⟨by simp [inB,h1,h2],rfl⟩
  ·go_enter Tryz.func192,Tryz.ntmps192
   go_wp2;go_ret;exact ⟨by simp [inB,h1,h2],rfl⟩
 ·go_enter Tryz.func192,Tryz.ntmps192
  go_wp2;go_ret;exact ⟨by simp [inB];omega,rfl⟩
theorem l1Num_any (x:Int) (w:World):
  Calls Tryz.prog 147 #[.int .i64 x] w fun e w'=>e=.returned (.bool (inB x (-1000000000) 1000000000))/\w'=w:=by
 go_enter Tryz.func147,Tryz.ntmps147
 go_wp2_with (go_at_call 47;refine (l1In_any _ _ _ _).mono ?_;rintro e w' ⟨rfl,rfl⟩)
 go_ret;exact ⟨rfl,rfl⟩
abbrev insV (op r a b n:Int):Value:=.agg #[.int .i64 op,.int .i64 r,.int .i64 a,.int .i64 b,.int .i64 n]
abbrev setV (r n:Int):Value:=.agg #[.int .i64 r,.int .i64 n]
theorem qev (r a b n:Int) (w:World):
  Calls Tryz.prog 171 #[insV 1 r a b n] w fun e w'=>e=.returned (.iface 236 (setV r n))/\Below w.heap.size w w':=by
 go_enter Tryz.func171,Tryz.ntmps171
 go_wp2;go_ret;exact ⟨rfl,by go_grown⟩
theorem qp5 (r n:Int) (w:World):
  Calls Tryz.prog 249 #[setV r n] w fun e w'=>e=.returned (insV 1 r 0 0 n)/\Below w.heap.size w w':=by
 go_enter Tryz.func249,Tryz.ntmps249
 go_wp2;refine bodyPost_ret (v:=insV 1 r 0 0 n) (by simp [results,Tryz.results249,go_sem]) rfl ⟨rfl,?_⟩
 go_grown
abbrev qik (op r a b:Int):Value:=.agg #[.int .i64 op,.int .i64 r,.int .i64 a,.int .i64 b]
theorem qfe (r a b n:Int) (w:World):
  Calls Tryz.prog 171 #[insV 2 r a b n] w fun e w'=>e=.returned (.iface 238 (qik 2 r a b))/\Below w.heap.size w w':=by
 go_enter Tryz.func171,Tryz.ntmps171
 go_wp2;go_ret;exact ⟨rfl,by go_grown⟩
theorem qff (r a b n:Int) (w:World):
  Calls Tryz.prog 171 #[insV 3 r a b n] w fun e w'=>e=.returned (.iface 238 (qik 3 r a b))/\Below w.heap.size w w':=by
 go_enter Tryz.func171,Tryz.ntmps171
 go_wp2;go_ret;exact ⟨rfl,by go_grown⟩
theorem qfg (r a b n:Int) (w:World):
  Calls Tryz.prog 171 #[insV 4 r a b n] w fun e w'=>e=.returned (.iface 238 (qik 4 r a b))/\Below w.heap.size w w':=by
 go_enter Tryz.func171,Tryz.ntmps171
 go_wp2;go_ret;exact ⟨rfl,by go_grown⟩
theorem qfh (r a b n:Int) (w:World):
  Calls Tryz.prog 171 #[insV 5 r a b n] w fun e w'=>e=.returned (.iface 238 (qik 5 r a b))/\Below w.heap.size w w':=by
 go_enter Tryz.func171,Tryz.ntmps171
 go_wp2;go_ret;exact ⟨rfl,by go_grown⟩
theorem qno (op r a b:Int) (w:World):
  Calls Tryz.prog 250 #[qik op r a b] w fun e w'=>e=.returned (insV op r a b 0)/\Below w.heap.size w w':=by
 go_enter Tryz.func250,Tryz.ntmps250
 go_wp2;refine bodyPost_ret (v:=insV op r a b 0) (by simp [results,Tryz.results250,go_sem]) rfl ⟨rfl,?_⟩
 go_grown
abbrev qq4 (n a:Int):Value:=.agg #[.int .i64 n,.int .i64 a]
theorem qdz (r a b n:Int) (w:World):
  Calls Tryz.prog 171 #[insV 6 r a b n] w fun e w'=>e=.returned (.iface 230 (qq4 n a))/\Below w.heap.size w w':=by
 go_enter Tryz.func171,Tryz.ntmps171
 go_wp2;go_ret;exact ⟨rfl,by go_grown⟩
theorem qnq (n a:Int) (w:World):
  Calls Tryz.prog 246 #[qq4 n a] w fun e w'=>e=.returned (insV 6 0 a 0 n)/\Below w.heap.size w w':=by
 go_enter Tryz.func246,Tryz.ntmps246
 go_wp2;refine bodyPost_ret (v:=insV 6 0 a 0 n) (by simp [results,Tryz.results246,go_sem]) rfl ⟨rfl,?_⟩
 go_grown
abbrev qre (r n:Int):Value:=.agg #[.int .i64 r,.int .i64 n]
theorem qd0 (r a b n:Int) (w:World):
  Calls Tryz.prog 171 #[insV 7 r a b n] w fun e w'=>e=.returned (.iface 232 (qre r n))/\Below w.heap.size w w':=by
 go_enter Tryz.func171,Tryz.ntmps171
 go_wp2;go_ret;exact ⟨rfl,by go_grown⟩
theorem qnr (r n:Int) (w:World):
  Calls Tryz.prog 247 #[qre r n] w fun e w'=>e=.returned (insV 7 r 0 0 n)/\Below w.heap.size w w':=by
 go_enter Tryz.func247,Tryz.ntmps247
 go_wp2;refine bodyPost_ret (v:=insV 7 r 0 0 n) (by simp [results,Tryz.results247,go_sem]) rfl ⟨rfl,?_⟩
 go_grown
abbrev qla (a:Int):Value:=.agg #[.int .i64 a]
theorem qdn (r a b n:Int) (w:World):
  Calls Tryz.prog 171 #[insV 8 r a b n] w fun e w'=>e=.returned (.iface 234 (qla a))/\Below w.heap.size w w':=by
 go_enter Tryz.func171,Tryz.ntmps171
 go_wp2;go_ret;exact ⟨rfl,by go_grown⟩
theorem qkx (a:Int) (w:World):
  Calls Tryz.prog 248 #[qla a] w fun e w'=>e=.returned (insV 8 0 a 0 0)/\Below w.heap.size w w':=by
 go_enter Tryz.func248,Tryz.ntmps248
 go_wp2;refine bodyPost_ret (v:=insV 8 0 a 0 0) (by simp [results,Tryz.results248,go_sem]) rfl ⟨rfl,?_⟩
 go_grown
abbrev qp8 (n:Int):Value:=.agg #[.int .i64 n]
theorem qdy (r a b n:Int) (w:World):
  Calls Tryz.prog 171 #[insV 9 r a b n] w fun e w'=>e=.returned (.iface 240 (qp8 n))/\Below w.heap.size w w':=by
 go_enter Tryz.func171,Tryz.ntmps171
 go_wp2;go_ret;exact ⟨rfl,by go_grown⟩
theorem qnp (n:Int) (w:World):
  Calls Tryz.prog 251 #[qp8 n] w fun e w'=>e=.returned (insV 9 0 0 0 n)/\Below w.heap.size w w':=by
 go_enter Tryz.func251,Tryz.ntmps251
 go_wp2;refine bodyPost_ret (v:=insV 9 0 0 0 n) (by simp [results,Tryz.results251,go_sem]) rfl ⟨rfl,?_⟩
 go_grown
abbrev qro (a n:Int):Value:=.agg #[.int .i64 a,.int .i64 n]
theorem qd1 (r a b n:Int) (w:World):
  Calls Tryz.prog 171 #[insV 10 r a b n] w fun e w'=>e=.returned (.iface 242 (qro a n))/\Below w.heap.size w w':=by
 go_enter Tryz.func171,Tryz.ntmps171
 go_wp2;go_ret;exact ⟨rfl,by go_grown⟩
theorem qns (a n:Int) (w:World):
  Calls Tryz.prog 252 #[qro a n] w fun e w'=>e=.returned (insV 10 0 a 0 n)/\Below w.heap.size w w':=by
 go_enter Tryz.func252,Tryz.ntmps252
 go_wp2;refine bodyPost_ret (v:=insV 10 0 a 0 n) (by simp [results,Tryz.results252,go_sem]) rfl ⟨rfl,?_⟩
 go_grown
abbrev endV:Value:=.agg #[]
theorem qeu (r a b n:Int) (w:World):
  Calls Tryz.prog 171 #[insV 11 r a b n] w fun e w'=>e=.returned (.iface 244 endV)/\Below w.heap.size w w':=by
 go_enter Tryz.func171,Tryz.ntmps171
 go_wp2;go_ret;exact ⟨rfl,by go_grown⟩
theorem qp4 (w:World):
  Calls Tryz.prog 253 #[endV] w fun e w'=>e=.returned (insV 11 0 0 0 0)/\Below w.heap.size w w':=by
 go_enter Tryz.func253,Tryz.ntmps253
 go_wp2;refine bodyPost_ret (v:=insV 11 0 0 0 0) (by simp [results,Tryz.results253,go_sem]) rfl ⟨rfl,?_⟩
 go_grown
theorem qgd (op r a b n:Int) (w:World) (h1:2<=op) (h2:op<=5):
  Calls Tryz.prog 171 #[insV op r a b n] w fun e w'=>e=.returned (.iface 238 (qik op r a b))/\Below w.heap.size w w':=by
 have h:op=2\/op=3\/op=4\/op=5:=by omega
 rcases h with rfl | rfl | rfl | rfl
 ·exact qfe r a b n w
 ·exact qff r a b n w
 ·exact qfg r a b n w
 ·exact qfh r a b n w
theorem qk9 (op r a b n:Int) (w:World) (h:op<1\/11<op):
  Calls Tryz.prog 171 #[insV op r a b n] w fun e w'=>e=.returned .nilIface/\Below w.heap.size w w':=by
 have h1:(op == 1)=false:=by simp;omega
 have h2:(op == 2)=false:=by simp;omega
 have h3:(op == 3)=false:=by simp;omega
 have h4:(op == 4)=false:=by simp;omega
 have h5:(op == 5)=false:=by simp;omega
 have h6:(op == 6)=false:=by simp;omega
 have h7:(op == 7)=false:=by simp;omega
 have h8:(op == 8)=false:=by simp;omega
 have h9:(op == 9)=false:=by simp;omega
 have h10:(op == 10)=false:=by simp;omega
 have h11:(op == 11)=false:=by simp;omega
 clear h
 go_enter Tryz.func171,Tryz.ntmps171
 go_wp2;go_ret;exact ⟨rfl,by go_grown⟩
theorem qoh (v:Value) (w:World):(Instr.typeAssert (.iface 236 v) 188 236 true).run Tryz.prog w=.ok (.tuple #[v,.bool true]) w:=by kernel_rfl
theorem ql4 (v:Value) (w:World):(Instr.typeAssert (.iface 236 v) 188 238 true).run Tryz.prog w=.ok (.tuple #[.agg #[.int .i64 0,.int .i64 0,.int .i64 0,.int .i64 0],.bool false]) w:=by kernel_rfl
theorem qgx (v:Value) (w:World):(Instr.typeAssert (.iface 236 v) 188 230 true).run Tryz.prog w=.ok (.tuple #[.agg #[.int .i64 0,.int .i64 0],.bool false]) w:=by kernel_rfl
theorem qgy (v:Value) (w:World):(Instr.typeAssert (.iface 236 v) 188 232 true).run Tryz.prog w=.ok (.tuple #[.agg #[.int .i64 0,.int .i64 0],.bool false]) w:=by kernel_rfl
theorem qf7 (v:Value) (w:World):(Instr.typeAssert (.iface 236 v) 188 234 true).run Tryz.prog w=.ok (.tuple #[.agg #[.int .i64 0],.bool false]) w:=by kernel_rfl
theorem ql5 (v:Value) (w:World):(Instr.typeAssert (.iface 236 v) 188 240 true).run Tryz.prog w=.ok (.tuple #[.agg #[.int .i64 0],.bool false]) w:=by kernel_rfl
theorem ql6 (v:Value) (w:World):(Instr.typeAssert (.iface 236 v) 188 242 true).run Tryz.prog w=.ok (.tuple #[.agg #[.int .i64 0,.int .i64 0],.bool false]) w:=by kernel_rfl
theorem qog (v:Value) (w:World):(Instr.typeAssert (.iface 236 v) 188 244 true).run Tryz.prog w=.ok (.tuple #[.agg #[],.bool false]) w:=by kernel_rfl
theorem qlw (v:Value) (w:World):(Instr.typeAssert (.iface 238 v) 188 236 true).run Tryz.prog w=.ok (.tuple #[.agg #[.int .i64 0,.int .i64 0],.bool false]) w:=by kernel_rfl
theorem qjz (v:Value) (w:World):(Instr.typeAssert (.iface 238 v) 188 238 true).run Tryz.prog w=.ok (.tuple #[v,.bool true]) w:=by kernel_rfl
theorem qf1 (v:Value) (w:World):(Instr.typeAssert (.iface 238 v) 188 230 true).run Tryz.prog w=.ok (.tuple #[.agg #[.int .i64 0,.int .i64 0],.bool false]) w:=by kernel_rfl
theorem qf2 (v:Value) (w:World):(Instr.typeAssert (.iface 238 v) 188 232 true).run Tryz.prog w=.ok (.tuple #[.agg #[.int .i64 0,.int .i64 0],.bool false]) w:=by kernel_rfl
theorem qez (v:Value) (w:World):(Instr.typeAssert (.iface 238 v) 188 234 true).run Tryz.prog w=.ok (.tuple #[.agg #[.int .i64 0],.bool false]) w:=by kernel_rfl
theorem qj0 (v:Value) (w:World):(Instr.typeAssert (.iface 238 v) 188 240 true).run Tryz.prog w=.ok (.tuple #[.agg #[.int .i64 0],.bool false]) w:=by kernel_rfl
theorem qj1 (v:Value) (w:World):(Instr.typeAssert (.iface 238 v) 188 242 true).run Tryz.prog w=.ok (.tuple #[.agg #[.int .i64 0,.int .i64 0],.bool false]) w:=by kernel_rfl
theorem qlv (v:Value) (w:World):(Instr.typeAssert (.iface 238 v) 188 244 true).run Tryz.prog w=.ok (.tuple #[.agg #[],.bool false]) w:=by kernel_rfl
theorem ql3 (v:Value) (w:World):(Instr.typeAssert (.iface 230 v) 188 236 true).run Tryz.prog w=.ok (.tuple #[.agg #[.int .i64 0,.int .i64 0],.bool false]) w:=by kernel_rfl
theorem qj7 (v:Value) (w:World):(Instr.typeAssert (.iface 230 v) 188 238 true).run Tryz.prog w=.ok (.tuple #[.agg #[.int .i64 0,.int .i64 0,.int .i64 0,.int .i64 0],.bool false]) w:=by kernel_rfl
theorem qf6 (v:Value) (w:World):(Instr.typeAssert (.iface 230 v) 188 230 true).run Tryz.prog w=.ok (.tuple #[v,.bool true]) w:=by kernel_rfl
theorem qj9 (v:Value) (w:World):(Instr.typeAssert (.iface 230 v) 188 232 true).run Tryz.prog w=.ok (.tuple #[.agg #[.int .i64 0,.int .i64 0],.bool false]) w:=by kernel_rfl
theorem qii (v:Value) (w:World):(Instr.typeAssert (.iface 230 v) 188 234 true).run Tryz.prog w=.ok (.tuple #[.agg #[.int .i64 0],.bool false]) w:=by kernel_rfl
theorem qj8 (v:Value) (w:World):(Instr.typeAssert (.iface 230 v) 188 240 true).run Tryz.prog w=.ok (.tuple #[.agg #[.int .i64 0],.bool false]) w:=by kernel_rfl
theorem qka (v:Value) (w:World):(Instr.typeAssert (.iface 230 v) 188 242 true).run Tryz.prog w=.ok (.tuple #[.agg #[.int .i64 0,.int .i64 0],.bool false]) w:=by kernel_rfl
theorem ql2 (v:Value) (w:World):(Instr.typeAssert (.iface 230 v) 188 244 true).run Tryz.prog w=.ok (.tuple #[.agg #[],.bool false]) w:=by kernel_rfl
theorem ql8 (v:Value) (w:World):(Instr.typeAssert (.iface 232 v) 188 236 true).run Tryz.prog w=.ok (.tuple #[.agg #[.int .i64 0,.int .i64 0],.bool false]) w:=by kernel_rfl
theorem qkb (v:Value) (w:World):(Instr.typeAssert (.iface 232 v) 188 238 true).run Tryz.prog w=.ok (.tuple #[.agg #[.int .i64 0,.int .i64 0,.int .i64 0,.int .i64 0],.bool false]) w:=by kernel_rfl
theorem qf8 (v:Value) (w:World):(Instr.typeAssert (.iface 232 v) 188 230 true).run Tryz.prog w=.ok (.tuple #[.agg #[.int .i64 0,.int .i64 0],.bool false]) w:=by kernel_rfl
theorem qf9 (v:Value) (w:World):(Instr.typeAssert (.iface 232 v) 188 232 true).run Tryz.prog w=.ok (.tuple #[v,.bool true]) w:=by kernel_rfl
theorem qij (v:Value) (w:World):(Instr.typeAssert (.iface 232 v) 188 234 true).run Tryz.prog w=.ok (.tuple #[.agg #[.int .i64 0],.bool false]) w:=by kernel_rfl
theorem qkc (v:Value) (w:World):(Instr.typeAssert (.iface 232 v) 188 240 true).run Tryz.prog w=.ok (.tuple #[.agg #[.int .i64 0],.bool false]) w:=by kernel_rfl
theorem qkd (v:Value) (w:World):(Instr.typeAssert (.iface 232 v) 188 242 true).run Tryz.prog w=.ok (.tuple #[.agg #[.int .i64 0,.int .i64 0],.bool false]) w:=by kernel_rfl
theorem ql7 (v:Value) (w:World):(Instr.typeAssert (.iface 232 v) 188 244 true).run Tryz.prog w=.ok (.tuple #[.agg #[],.bool false]) w:=by kernel_rfl
theorem qj6 (v:Value) (w:World):(Instr.typeAssert (.iface 234 v) 188 236 true).run Tryz.prog w=.ok (.tuple #[.agg #[.int .i64 0,.int .i64 0],.bool false]) w:=by kernel_rfl
theorem qif (v:Value) (w:World):(Instr.typeAssert (.iface 234 v) 188 238 true).run Tryz.prog w=.ok (.tuple #[.agg #[.int .i64 0,.int .i64 0,.int .i64 0,.int .i64 0],.bool false]) w:=by kernel_rfl
theorem qe1 (v:Value) (w:World):(Instr.typeAssert (.iface 234 v) 188 230 true).run Tryz.prog w=.ok (.tuple #[.agg #[.int .i64 0,.int .i64 0],.bool false]) w:=by kernel_rfl
theorem qe2 (v:Value) (w:World):(Instr.typeAssert (.iface 234 v) 188 232 true).run Tryz.prog w=.ok (.tuple #[.agg #[.int .i64 0,.int .i64 0],.bool false]) w:=by kernel_rfl
theorem qej (v:Value) (w:World):(Instr.typeAssert (.iface 234 v) 188 234 true).run Tryz.prog w=.ok (.tuple #[v,.bool true]) w:=by kernel_rfl
theorem qig (v:Value) (w:World):(Instr.typeAssert (.iface 234 v) 188 240 true).run Tryz.prog w=.ok (.tuple #[.agg #[.int .i64 0],.bool false]) w:=by kernel_rfl
theorem qih (v:Value) (w:World):(Instr.typeAssert (.iface 234 v) 188 242 true).run Tryz.prog w=.ok (.tuple #[.agg #[.int .i64 0,.int .i64 0],.bool false]) w:=by kernel_rfl
theorem qj5 (v:Value) (w:World):(Instr.typeAssert (.iface 234 v) 188 244 true).run Tryz.prog w=.ok (.tuple #[.agg #[],.bool false]) w:=by kernel_rfl
theorem ql1 (v:Value) (w:World):(Instr.typeAssert (.iface 240 v) 188 236 true).run Tryz.prog w=.ok (.tuple #[.agg #[.int .i64 0,.int .i64 0],.bool false]) w:=by kernel_rfl
theorem qj2 (v:Value) (w:World):(Instr.typeAssert (.iface 240 v) 188 238 true).run Tryz.prog w=.ok (.tuple #[.agg #[.int .i64 0,.int .i64 0,.int .i64 0,.int .i64 0],.bool false]) w:=by kernel_rfl
theorem qf4 (v:Value) (w:World):(Instr.typeAssert (.iface 240 v) 188 230 true).run Tryz.prog w=.ok (.tuple #[.agg #[.int .i64 0,.int .i64 0],.bool false]) w:=by kernel_rfl
theorem qf5 (v:Value) (w:World):(Instr.typeAssert (.iface 240 v) 188 232 true).run Tryz.prog w=.ok (.tuple #[.agg #[.int .i64 0,.int .i64 0],.bool false]) w:=by kernel_rfl
theorem qe0 (v:Value) (w:World):(Instr.typeAssert (.iface 240 v) 188 234 true).run Tryz.prog w=.ok (.tuple #[.agg #[.int .i64 0],.bool false]) w:=by kernel_rfl
theorem qj3 (v:Value) (w:World):(Instr.typeAssert (.iface 240 v) 188 240 true).run Tryz.prog w=.ok (.tuple #[v,.bool true]) w:=by kernel_rfl
theorem qj4 (v:Value) (w:World):(Instr.typeAssert (.iface 240 v) 188 242 true).run Tryz.prog w=.ok (.tuple #[.agg #[.int .i64 0,.int .i64 0],.bool false]) w:=by kernel_rfl
theorem ql0 (v:Value) (w:World):(Instr.typeAssert (.iface 240 v) 188 244 true).run Tryz.prog w=.ok (.tuple #[.agg #[],.bool false]) w:=by kernel_rfl
theorem qma (v:Value) (w:World):(Instr.typeAssert (.iface 242 v) 188 236 true).run Tryz.prog w=.ok (.tuple #[.agg #[.int .i64 0,.int .i64 0],.bool false]) w:=by kernel_rfl
theorem qke (v:Value) (w:World):(Instr.typeAssert (.iface 242 v) 188 238 true).run Tryz.prog w=.ok (.tuple #[.agg #[.int .i64 0,.int .i64 0,.int .i64 0,.int .i64 0],.bool false]) w:=by kernel_rfl
theorem qga (v:Value) (w:World):(Instr.typeAssert (.iface 242 v) 188 230 true).run Tryz.prog w=.ok (.tuple #[.agg #[.int .i64 0,.int .i64 0],.bool false]) w:=by kernel_rfl
theorem qgb (v:Value) (w:World):(Instr.typeAssert (.iface 242 v) 188 232 true).run Tryz.prog w=.ok (.tuple #[.agg #[.int .i64 0,.int .i64 0],.bool false]) w:=by kernel_rfl
theorem qe3 (v:Value) (w:World):(Instr.typeAssert (.iface 242 v) 188 234 true).run Tryz.prog w=.ok (.tuple #[.agg #[.int .i64 0],.bool false]) w:=by kernel_rfl
theorem qkf (v:Value) (w:World):(Instr.typeAssert (.iface 242 v) 188 240 true).run Tryz.prog w=.ok (.tuple #[.agg #[.int .i64 0],.bool false]) w:=by kernel_rfl
theorem qkg (v:Value) (w:World):(Instr.typeAssert (.iface 242 v) 188 242 true).run Tryz.prog w=.ok (.tuple #[v,.bool true]) w:=by kernel_rfl
theorem ql9 (v:Value) (w:World):(Instr.typeAssert (.iface 242 v) 188 244 true).run Tryz.prog w=.ok (.tuple #[.agg #[],.bool false]) w:=by kernel_rfl
theorem qof (v:Value) (w:World):(Instr.typeAssert (.iface 244 v) 188 236 true).run Tryz.prog w=.ok (.tuple #[.agg #[.int .i64 0,.int .i64 0],.bool false]) w:=by kernel_rfl
theorem qlx (v:Value) (w:World):(Instr.typeAssert (.iface 244 v) 188 238 true).run Tryz.prog w=.ok (.tuple #[.agg #[.int .i64 0,.int .i64 0,.int .i64 0,.int .i64 0],.bool false]) w:=by kernel_rfl
theorem qgv (v:Value) (w:World):(Instr.typeAssert (.iface 244 v) 188 230 true).run Tryz.prog w=.ok (.tuple #[.agg #[.int .i64 0,.int .i64 0],.bool false]) w:=by kernel_rfl
theorem qgw (v:Value) (w:World):(Instr.typeAssert (.iface 244 v) 188 232 true).run Tryz.prog w=.ok (.tuple #[.agg #[.int .i64 0,.int .i64 0],.bool false]) w:=by kernel_rfl
theorem qf3 (v:Value) (w:World):(Instr.typeAssert (.iface 244 v) 188 234 true).run Tryz.prog w=.ok (.tuple #[.agg #[.int .i64 0],.bool false]) w:=by kernel_rfl
theorem qly (v:Value) (w:World):(Instr.typeAssert (.iface 244 v) 188 240 true).run Tryz.prog w=.ok (.tuple #[.agg #[.int .i64 0],.bool false]) w:=by kernel_rfl
theorem qlz (v:Value) (w:World):(Instr.typeAssert (.iface 244 v) 188 242 true).run Tryz.prog w=.ok (.tuple #[.agg #[.int .i64 0,.int .i64 0],.bool false]) w:=by kernel_rfl
theorem qoe (v:Value) (w:World):(Instr.typeAssert (.iface 244 v) 188 244 true).run Tryz.prog w=.ok (.tuple #[v,.bool true]) w:=by kernel_rfl
attribute [local go_sem] qoh ql4 qgx qgy qf7 ql5 ql6 qog qlw qjz qf1 qf2 qez qj0 qj1 qlv ql3 qj7 qf6 qj9 qii qj8 qka ql2 ql8 qkb qf8 qf9 qij qkc qkd ql7 qj6 qif qe1 qe2 qej qig qih qj5 ql1 qj2 qf4 qf5 qe0 qj3 qj4 ql0 qma qke qga qgb qe3 qkf qkg ql9 qof qlx qgv qgw qf3 qly qlz qoe
theorem qr3 (r n places procs:Int) (w:World):
  Calls Tryz.prog 186 #[.iface 236 (setV r n),.int .i64 places,.int .i64 procs] w fun e w'=>e=.returned (.bool (belB r 4 && inB n (-1000000000) 1000000000))/\Below w.heap.size w w':=by
 rcases zK (belB r 4) with t0 | t0 <;> rcases zK (inB n (-1000000000) 1000000000) with t1 | t1
 all_goals
  go_enter Tryz.func186,Tryz.ntmps186
  go_wp2_with (first|(go_at_call 214;refine (qcn _ _).mono ?_;rintro e w' ⟨rfl,rfl⟩)|(go_at_call 192;refine (isNum_any _ _).mono ?_;rintro e w' ⟨rfl,rfl⟩)|(go_at_call 58;refine (isBelow_any _ _ _).mono ?_;rintro e w' ⟨rfl,rfl⟩))
  go_ret;exact ⟨by rw [t0,t1] <;> rfl,by go_grown⟩
theorem qpw (op r a b places procs:Int) (w:World):
  Calls Tryz.prog 186 #[.iface 238 (qik op r a b),.int .i64 places,.int .i64 procs] w fun e w'=>e=.returned (.bool (belB r 4 && belB a 4 && belB b 4))/\Below w.heap.size w w':=by
 rcases zK (belB r 4) with t0 | t0 <;> rcases zK (belB a 4) with t1 | t1 <;> rcases zK (belB b 4) with t2 | t2
 all_goals
  go_enter Tryz.func186,Tryz.ntmps186
  go_wp2_with (first|(go_at_call 214;refine (qcn _ _).mono ?_;rintro e w' ⟨rfl,rfl⟩)|(go_at_call 192;refine (isNum_any _ _).mono ?_;rintro e w' ⟨rfl,rfl⟩)|(go_at_call 58;refine (isBelow_any _ _ _).mono ?_;rintro e w' ⟨rfl,rfl⟩))
  go_ret;exact ⟨by rw [t0,t1,t2] <;> rfl,by go_grown⟩
theorem qpy (n a places procs:Int) (w:World):
  Calls Tryz.prog 186 #[.iface 230 (qq4 n a),.int .i64 places,.int .i64 procs] w fun e w'=>e=.returned (.bool (belB a 4 && belB n procs))/\Below w.heap.size w w':=by
 rcases zK (belB a 4) with t0 | t0 <;> rcases zK (belB n procs) with t1 | t1
 all_goals
  go_enter Tryz.func186,Tryz.ntmps186
  go_wp2_with (first|(go_at_call 214;refine (qcn _ _).mono ?_;rintro e w' ⟨rfl,rfl⟩)|(go_at_call 192;refine (isNum_any _ _).mono ?_;rintro e w' ⟨rfl,rfl⟩)|(go_at_call 58;refine (isBelow_any _ _ _).mono ?_;rintro e w' ⟨rfl,rfl⟩))
  go_ret;exact ⟨by rw [t0,t1] <;> rfl,by go_grown⟩
theorem qpz (r n places procs:Int) (w:World):
  Calls Tryz.prog 186 #[.iface 232 (qre r n),.int .i64 places,.int .i64 procs] w fun e w'=>e=.returned (.bool (belB r 4 && ((n == 9) || belB n procs)))/\Below w.heap.size w w':=by
 rcases zK (belB r 4) with t0 | t0 <;> rcases zK ((n == 9)) with t1 | t1 <;> rcases zK (belB n procs) with t2 | t2
 all_goals
  go_enter Tryz.func186,Tryz.ntmps186
  go_wp2_with (first|(go_at_call 214;refine (qcn _ _).mono ?_;rintro e w' ⟨rfl,rfl⟩)|(go_at_call 192;refine (isNum_any _ _).mono ?_;rintro e w' ⟨rfl,rfl⟩)|(go_at_call 58;refine (isBelow_any _ _ _).mono ?_;rintro e w' ⟨rfl,rfl⟩))
  go_ret;exact ⟨by rw [t0,t1,t2] <;> rfl,by go_grown⟩
theorem qom (a places procs:Int) (w:World):
  Calls Tryz.prog 186 #[.iface 234 (qla a),.int .i64 places,.int .i64 procs] w fun e w'=>e=.returned (.bool (belB a 4))/\Below w.heap.size w w':=by
 go_enter Tryz.func186,Tryz.ntmps186
 go_wp2_with (first|(go_at_call 214;refine (qcn _ _).mono ?_;rintro e w' ⟨rfl,rfl⟩)|(go_at_call 192;refine (isNum_any _ _).mono ?_;rintro e w' ⟨rfl,rfl⟩)|(go_at_call 58;refine (isBelow_any _ _ _).mono ?_;rintro e w' ⟨rfl,rfl⟩))
 go_ret;exact ⟨rfl,by go_grown⟩
theorem qpx (n places procs:Int) (w:World):
  Calls Tryz.prog 186 #[.iface 240 (qp8 n),.int .i64 places,.int .i64 procs] w fun e w'=>e=.returned (.bool (belB n places))/\Below w.heap.size w w':=by
 go_enter Tryz.func186,Tryz.ntmps186
 go_wp2_with (first|(go_at_call 214;refine (qcn _ _).mono ?_;rintro e w' ⟨rfl,rfl⟩)|(go_at_call 192;refine (isNum_any _ _).mono ?_;rintro e w' ⟨rfl,rfl⟩)|(go_at_call 58;refine (isBelow_any _ _ _).mono ?_;rintro e w' ⟨rfl,rfl⟩))
 go_ret;exact ⟨rfl,by go_grown⟩
theorem qp0 (a n places procs:Int) (w:World):
  Calls Tryz.prog 186 #[.iface 242 (qro a n),.int .i64 places,.int .i64 procs] w fun e w'=>e=.returned (.bool (belB a 4 && belB n places))/\Below w.heap.size w w':=by
 rcases zK (belB a 4) with t0 | t0 <;> rcases zK (belB n places) with t1 | t1
 all_goals
  go_enter Tryz.func186,Tryz.ntmps186
  go_wp2_with (first|(go_at_call 214;refine (qcn _ _).mono ?_;rintro e w' ⟨rfl,rfl⟩)|(go_at_call 192;refine (isNum_any _ _).mono ?_;rintro e w' ⟨rfl,rfl⟩)|(go_at_call 58;refine (isBelow_any _ _ _).mono ?_;rintro e w' ⟨rfl,rfl⟩))
  go_ret;exact ⟨by rw [t0,t1] <;> rfl,by go_grown⟩
theorem qr2 (places procs:Int) (w:World):
  Calls Tryz.prog 186 #[.iface 244 endV,.int .i64 places,.int .i64 procs] w fun e w'=>e=.returned (.bool (true))/\Below w.heap.size w w':=by
 go_enter Tryz.func186,Tryz.ntmps186
 go_wp2_with (first|(go_at_call 214;refine (qcn _ _).mono ?_;rintro e w' ⟨rfl,rfl⟩)|(go_at_call 192;refine (isNum_any _ _).mono ?_;rintro e w' ⟨rfl,rfl⟩)|(go_at_call 58;refine (isBelow_any _ _ _).mono ?_;rintro e w' ⟨rfl,rfl⟩))
 go_ret;exact ⟨rfl,by go_grown⟩
def qa4 (o1 r1 a1 b1 n1 o2 r2 a2 b2 n2:Int):Bool:=o1 == o2 && (r1 == r2 && (a1 == a2 && (b1 == b2 && n1 == n2)))
theorem qbz (o1 r1 a1 b1 n1 o2 r2 a2 b2 n2:Int) (w:World):(binOp .eql 117 (insV o1 r1 a1 b1 n1) (insV o2 r2 a2 b2 n2)).run Tryz.prog w=.ok (.bool (qa4 o1 r1 a1 b1 n1 o2 r2 a2 b2 n2)) w:=by
 rw [run_eql_struct,show (10000:Nat)=9998+1+1 from rfl,run_equalIn_agg w (9998+1) 117 _ _ (by kernel_rfl) (by kernel_rfl)];simp only [qa4];by_cases h1:o1=o2 <;> by_cases h2:r1=r2 <;> by_cases h3:a1=a2 <;> by_cases h4:b1=b2 <;> by_cases h5:n1=n2 <;> simp [go_sem,h1,h2,h3,h4,h5]
theorem qhp {w w1:World} {o:Obj} (h1:Below (w.alloc o).heap.size (w.alloc o) w1):Below w.heap.size w w1.drew:=by
 have h0:Below w.heap.size w (w.alloc o):=(Below.refl _ _).alloc (Nat.le_refl _) _;have hs:w.heap.size<=(w.alloc o).heap.size:=by simp
 exact (h0.trans (h1.mono hs)).drew
theorem qa9 {w w1 w2:World} {o:Obj} (h1:Below (w.alloc o).heap.size (w.alloc o) w1) (h2:Below w1.drew.heap.size w1.drew w2):Below w.heap.size w w2:=by
 have h0:Below w.heap.size w (w.alloc o):=(Below.refl _ _).alloc (Nat.le_refl _) _;have hs:w.heap.size<=(w.alloc o).heap.size:=by simp
 exact (h0.trans (h1.mono hs)).drew.trans (h2.mono (zP hs h1.size))
theorem qbd {w w1 w2 w3:World} {o:Obj} (h1:Below (w.alloc o).heap.size (w.alloc o) w1) (h2:Below w1.drew.heap.size w1.drew w2) (h3:Below w2.heap.size w2 w3):Below w.heap.size w w3:=
 qa9 h1 (h2.trans (h3.mono h2.size))
