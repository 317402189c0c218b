import Derived.Test.YtchhijiibjijhaaGreatDoorXf0
import Derived.WalkKit
import Derived.WalkSpells
import Derived.WalkLawsBesides
import Derived.Handy
namespace Go.Proofs.YtchhijiibjijhaaGreatDoor
set_option maxHeartbeats 1000000
open Go.RowKit
def inB (x lo hi:Int):Bool:=decide (lo<=x/\x<=hi)
def belB (x n:Int):Bool:=decide (0<=x/\x<n)
theorem l1In_any (x lo hi:Int) (w:World):
  Calls Tryz.prog 71 #[.int .i64 x,.int .i64 lo,.int .i64 hi] w fun e w'=>e=.returned (.bool (inB x lo hi))/\w'=w:=by
 by_cases h1:lo<=x
 ·by_cases h2:x<=hi
  ·go_enter Tryz.func71,Tryz.ntmps71
   go_wp2
   go_ret
   exact ⟨by simp [inB,h1,h2],rfl⟩
  ·go_enter Tryz.func71,Tryz.ntmps71
   go_wp2
   go_ret
   exact ⟨by simp [inB,h1,h2],rfl⟩
 ·go_enter Tryz.func71,Tryz.ntmps71
  go_wp2
  go_ret
  exact ⟨by simp [inB];omega,rfl⟩
theorem isBelow_any (x n:Int) (w:World):
  Calls Tryz.prog 76 #[.int .i64 x,.int .i64 n] w fun e w'=>e=.returned (.bool (belB x n))/\w'=w:=by
 by_cases h1:0<=x
 ·by_cases h2:x<n
  ·go_enter Tryz.func76,Tryz.ntmps76
   go_wp2
   go_ret
   exact ⟨by simp [belB,h1,h2],rfl⟩
  ·go_enter Tryz.func76,Tryz.ntmps76
   go_wp2
   go_ret
   exact ⟨by simp [belB,h1,h2],rfl⟩
 ·go_enter Tryz.func76,Tryz.ntmps76
  go_wp2
  go_ret
  exact ⟨by simp [belB];omega,rfl⟩
theorem qco (x:Int) (w:World):
  Calls Tryz.prog 255 #[.int .i64 x] w fun e w'=>e=.returned (.bool (belB x 4))/\w'=w:=by
 go_enter Tryz.func255,Tryz.ntmps255
 go_wp2_with (go_at_call 76;refine (isBelow_any _ _ _).mono ?_;rintro e w' ⟨rfl,rfl⟩)
 go_ret
 exact ⟨rfl,rfl⟩
theorem isNum_any (x:Int) (w:World):
  Calls Tryz.prog 233 #[.int .i64 x] w fun e w'=>e=.returned (.bool (inB x (-1000000000) 1000000000))/\w'=w:=by
 by_cases h1:-1000000000<=x
 ·by_cases h2:x<=1000000000
  ·go_enter Tryz.func233,Tryz.ntmps233
   go_wp2
   go_ret
   exact ⟨by simp [inB,h1,h2],rfl⟩
  ·go_enter Tryz.func233,Tryz.ntmps233
   go_wp2
   go_ret
   exact ⟨by simp [inB,h1,h2],rfl⟩
 ·go_enter Tryz.func233,Tryz.ntmps233
  go_wp2
  go_ret
  exact ⟨by simp [inB];omega,rfl⟩
theorem l1Num_any (x:Int) (w:World):
  Calls Tryz.prog 151 #[.int .i64 x] w fun e w'=>e=.returned (.bool (inB x (-1000000000) 1000000000))/\w'=w:=by
 go_enter Tryz.func151,Tryz.ntmps151
 go_wp2_with (go_at_call 71;refine (l1In_any _ _ _ _).mono ?_;rintro e w' ⟨rfl,rfl⟩)
 go_ret
 exact ⟨rfl,rfl⟩
abbrev insV (op r a b n:Int):Value:=.agg #[.int .i64 op,.int .i64 r,.int .i64 a,.int .i64 b,.int .i64 n]
theorem qur (op r a b n:Int) (w:World):
  Calls Tryz.prog 155 #[insV op r a b n] w fun e w'=>e=.returned (insV op r a b n)/\Below w.heap.size w w':=by
 go_enter Tryz.func155,Tryz.ntmps155
 go_wp2
 refine bodyPost_ret (v:=insV op r a b n) (by simp [results,Tryz.results155,go_sem]) rfl ⟨rfl,?_⟩
 go_grown
abbrev setV (r n:Int):Value:=.agg #[.int .i64 r,.int .i64 n]
theorem qe2 (r a b n:Int) (w:World):
  Calls Tryz.prog 205 #[insV 1 r a b n] w fun e w'=>e=.returned (.iface 284 (setV r n))/\Below w.heap.size w w':=by
 go_enter Tryz.func205,Tryz.ntmps205
 go_wp2
 go_ret
 exact ⟨rfl,by go_grown⟩
theorem qte (r n:Int) (w:World):
  Calls Tryz.prog 282 #[setV r n] w fun e w'=>e=.returned (insV 1 r 0 0 n)/\Below w.heap.size w w':=by
 go_enter Tryz.func282,Tryz.ntmps282
 go_wp2
 refine bodyPost_ret (v:=insV 1 r 0 0 n) (by simp [results,Tryz.results282,go_sem]) rfl ⟨rfl,?_⟩
 go_grown
abbrev qjs (op r a b:Int):Value:=.agg #[.int .i64 op,.int .i64 r,.int .i64 a,.int .i64 b]
theorem qfn (r a b n:Int) (w:World):
  Calls Tryz.prog 205 #[insV 2 r a b n] w fun e w'=>e=.returned (.iface 286 (qjs 2 r a b))/\Below w.heap.size w w':=by
 go_enter Tryz.func205,Tryz.ntmps205
 go_wp2
 go_ret
 exact ⟨rfl,by go_grown⟩
theorem qfo (r a b n:Int) (w:World):
  Calls Tryz.prog 205 #[insV 3 r a b n] w fun e w'=>e=.returned (.iface 286 (qjs 3 r a b))/\Below w.heap.size w w':=by
 go_enter Tryz.func205,Tryz.ntmps205
 go_wp2
 go_ret
 exact ⟨rfl,by go_grown⟩
theorem qfp (r a b n:Int) (w:World):
  Calls Tryz.prog 205 #[insV 4 r a b n] w fun e w'=>e=.returned (.iface 286 (qjs 4 r a b))/\Below w.heap.size w w':=by
 go_enter Tryz.func205,Tryz.ntmps205
 go_wp2
 go_ret
 exact ⟨rfl,by go_grown⟩
theorem qfq (r a b n:Int) (w:World):
  Calls Tryz.prog 205 #[insV 5 r a b n] w fun e w'=>e=.returned (.iface 286 (qjs 5 r a b))/\Below w.heap.size w w':=by
 go_enter Tryz.func205,Tryz.ntmps205
 go_wp2
 go_ret
 exact ⟨rfl,by go_grown⟩
theorem qqc (op r a b:Int) (w:World):
  Calls Tryz.prog 283 #[qjs op r a b] w fun e w'=>e=.returned (insV op r a b 0)/\Below w.heap.size w w':=by
 go_enter Tryz.func283,Tryz.ntmps283
 go_wp2
 refine bodyPost_ret (v:=insV op r a b 0) (by simp [results,Tryz.results283,go_sem]) rfl ⟨rfl,?_⟩
 go_grown
abbrev quf (n a:Int):Value:=.agg #[.int .i64 n,.int .i64 a]
theorem qd1 (r a b n:Int) (w:World):
  Calls Tryz.prog 205 #[insV 6 r a b n] w fun e w'=>e=.returned (.iface 278 (quf n a))/\Below w.heap.size w w':=by
 go_enter Tryz.func205,Tryz.ntmps205
 go_wp2
 go_ret
 exact ⟨rfl,by go_grown⟩
theorem qqe (n a:Int) (w:World):
  Calls Tryz.prog 279 #[quf n a] w fun e w'=>e=.returned (insV 6 0 a 0 n)/\Below w.heap.size w w':=by
 go_enter Tryz.func279,Tryz.ntmps279
 go_wp2
 refine bodyPost_ret (v:=insV 6 0 a 0 n) (by simp [results,Tryz.results279,go_sem]) rfl ⟨rfl,?_⟩
 go_grown
abbrev quo (r n:Int):Value:=.agg #[.int .i64 r,.int .i64 n]
theorem qd2 (r a b n:Int) (w:World):
  Calls Tryz.prog 205 #[insV 7 r a b n] w fun e w'=>e=.returned (.iface 280 (quo r n))/\Below w.heap.size w w':=by
 go_enter Tryz.func205,Tryz.ntmps205
 go_wp2
 go_ret
 exact ⟨rfl,by go_grown⟩
theorem qqf (r n:Int) (w:World):
  Calls Tryz.prog 280 #[quo r n] w fun e w'=>e=.returned (insV 7 r 0 0 n)/\Below w.heap.size w w':=by
 go_enter Tryz.func280,Tryz.ntmps280
 go_wp2
 refine bodyPost_ret (v:=insV 7 r 0 0 n) (by simp [results,Tryz.results280,go_sem]) rfl ⟨rfl,?_⟩
 go_grown
abbrev qm5 (a:Int):Value:=.agg #[.int .i64 a]
theorem qdo (r a b n:Int) (w:World):
  Calls Tryz.prog 205 #[insV 8 r a b n] w fun e w'=>e=.returned (.iface 282 (qm5 a))/\Below w.heap.size w w':=by
 go_enter Tryz.func205,Tryz.ntmps205
 go_wp2
 go_ret
 exact ⟨rfl,by go_grown⟩
theorem qmm (a:Int) (w:World):
  Calls Tryz.prog 281 #[qm5 a] w fun e w'=>e=.returned (insV 8 0 a 0 0)/\Below w.heap.size w w':=by
 go_enter Tryz.func281,Tryz.ntmps281
 go_wp2
 refine bodyPost_ret (v:=insV 8 0 a 0 0) (by simp [results,Tryz.results281,go_sem]) rfl ⟨rfl,?_⟩
 go_grown
abbrev qtg (n:Int):Value:=.agg #[.int .i64 n]
theorem qd0 (r a b n:Int) (w:World):
  Calls Tryz.prog 205 #[insV 9 r a b n] w fun e w'=>e=.returned (.iface 288 (qtg n))/\Below w.heap.size w w':=by
 go_enter Tryz.func205,Tryz.ntmps205
 go_wp2
 go_ret
 exact ⟨rfl,by go_grown⟩
theorem qqd (n:Int) (w:World):
  Calls Tryz.prog 284 #[qtg n] w fun e w'=>e=.returned (insV 9 0 0 0 n)/\Below w.heap.size w w':=by
 go_enter Tryz.func284,Tryz.ntmps284
 go_wp2
 refine bodyPost_ret (v:=insV 9 0 0 0 n) (by simp [results,Tryz.results284,go_sem]) rfl ⟨rfl,?_⟩
 go_grown
abbrev qu0 (a n:Int):Value:=.agg #[.int .i64 a,.int .i64 n]
theorem qd3 (r a b n:Int) (w:World):
  Calls Tryz.prog 205 #[insV 10 r a b n] w fun e w'=>e=.returned (.iface 290 (qu0 a n))/\Below w.heap.size w w':=by
 go_enter Tryz.func205,Tryz.ntmps205
 go_wp2
 go_ret
 exact ⟨rfl,by go_grown⟩
theorem qqg (a n:Int) (w:World):
  Calls Tryz.prog 285 #[qu0 a n] w fun e w'=>e=.returned (insV 10 0 a 0 n)/\Below w.heap.size w w':=by
 go_enter Tryz.func285,Tryz.ntmps285
 go_wp2
 refine bodyPost_ret (v:=insV 10 0 a 0 n) (by simp [results,Tryz.results285,go_sem]) rfl ⟨rfl,?_⟩
 go_grown
abbrev endV:Value:=.agg #[]
theorem qe1 (r a b n:Int) (w:World):
  Calls Tryz.prog 205 #[insV 11 r a b n] w fun e w'=>e=.returned (.iface 292 endV)/\Below w.heap.size w w':=by
 go_enter Tryz.func205,Tryz.ntmps205
 go_wp2
 go_ret
 exact ⟨rfl,by go_grown⟩
theorem qtd (w:World):
  Calls Tryz.prog 286 #[endV] w fun e w'=>e=.returned (insV 11 0 0 0 0)/\Below w.heap.size w w':=by
 go_enter Tryz.func286,Tryz.ntmps286
 go_wp2
 refine bodyPost_ret (v:=insV 11 0 0 0 0) (by simp [results,Tryz.results286,go_sem]) rfl ⟨rfl,?_⟩
 go_grown
theorem qgy (op r a b n:Int) (w:World) (h1:2<=op) (h2:op<=5):
  Calls Tryz.prog 205 #[insV op r a b n] w fun e w'=>e=.returned (.iface 286 (qjs op r a b))/\Below w.heap.size w w':=by
 have h:op=2\/op=3\/op=4\/op=5:=by omega
 rcases h with rfl | rfl | rfl | rfl
 ·exact qfn r a b n w
 ·exact qfo r a b n w
 ·exact qfp r a b n w
 ·exact qfq r a b n w
theorem qm4 (op r a b n:Int) (w:World) (h:op<1\/11<op):
  Calls Tryz.prog 205 #[insV op r a b n] w fun e w'=>e=.returned .nilIface/\Below w.heap.size w w':=by
 have h1:(op == 1)=false:=by simp;omega
 have h2:(op == 2)=false:=by simp;omega
 have h3:(op == 3)=false:=by simp;omega
 have h4:(op == 4)=false:=by simp;omega
 have h5:(op == 5)=false:=by simp;omega
 have h6:(op == 6)=false:=by simp;omega
 have h7:(op == 7)=false:=by simp;omega
 have h8:(op == 8)=false:=by simp;omega
 have h9:(op == 9)=false:=by simp;omega
 have h10:(op == 10)=false:=by simp;omega
 have h11:(op == 11)=false:=by simp;omega
 clear h
 go_enter Tryz.func205,Tryz.ntmps205
 go_wp2
 go_ret
 exact ⟨rfl,by go_grown⟩
theorem qq3 (v:Value) (w:World):(Instr.typeAssert (.iface 284 v) 240 284 true).run Tryz.prog w=.ok (.tuple #[v,.bool true]) w:=by kernel_rfl
theorem qn6 (v:Value) (w:World):(Instr.typeAssert (.iface 284 v) 240 286 true).run Tryz.prog w=.ok (.tuple #[.agg #[.int .i64 0,.int .i64 0,.int .i64 0,.int .i64 0],.bool false]) w:=by kernel_rfl
theorem qhq (v:Value) (w:World):(Instr.typeAssert (.iface 284 v) 240 278 true).run Tryz.prog w=.ok (.tuple #[.agg #[.int .i64 0,.int .i64 0],.bool false]) w:=by kernel_rfl
theorem qhr (v:Value) (w:World):(Instr.typeAssert (.iface 284 v) 240 280 true).run Tryz.prog w=.ok (.tuple #[.agg #[.int .i64 0,.int .i64 0],.bool false]) w:=by kernel_rfl
theorem qgp (v:Value) (w:World):(Instr.typeAssert (.iface 284 v) 240 282 true).run Tryz.prog w=.ok (.tuple #[.agg #[.int .i64 0],.bool false]) w:=by kernel_rfl
theorem qn7 (v:Value) (w:World):(Instr.typeAssert (.iface 284 v) 240 288 true).run Tryz.prog w=.ok (.tuple #[.agg #[.int .i64 0],.bool false]) w:=by kernel_rfl
theorem qn8 (v:Value) (w:World):(Instr.typeAssert (.iface 284 v) 240 290 true).run Tryz.prog w=.ok (.tuple #[.agg #[.int .i64 0,.int .i64 0],.bool false]) w:=by kernel_rfl
theorem qq2 (v:Value) (w:World):(Instr.typeAssert (.iface 284 v) 240 292 true).run Tryz.prog w=.ok (.tuple #[.agg #[],.bool false]) w:=by kernel_rfl
theorem qny (v:Value) (w:World):(Instr.typeAssert (.iface 286 v) 240 284 true).run Tryz.prog w=.ok (.tuple #[.agg #[.int .i64 0,.int .i64 0],.bool false]) w:=by kernel_rfl
theorem qlh (v:Value) (w:World):(Instr.typeAssert (.iface 286 v) 240 286 true).run Tryz.prog w=.ok (.tuple #[v,.bool true]) w:=by kernel_rfl
theorem qgj (v:Value) (w:World):(Instr.typeAssert (.iface 286 v) 240 278 true).run Tryz.prog w=.ok (.tuple #[.agg #[.int .i64 0,.int .i64 0],.bool false]) w:=by kernel_rfl
theorem qgk (v:Value) (w:World):(Instr.typeAssert (.iface 286 v) 240 280 true).run Tryz.prog w=.ok (.tuple #[.agg #[.int .i64 0,.int .i64 0],.bool false]) w:=by kernel_rfl
theorem qe7 (v:Value) (w:World):(Instr.typeAssert (.iface 286 v) 240 282 true).run Tryz.prog w=.ok (.tuple #[.agg #[.int .i64 0],.bool false]) w:=by kernel_rfl
theorem qli (v:Value) (w:World):(Instr.typeAssert (.iface 286 v) 240 288 true).run Tryz.prog w=.ok (.tuple #[.agg #[.int .i64 0],.bool false]) w:=by kernel_rfl
theorem qlj (v:Value) (w:World):(Instr.typeAssert (.iface 286 v) 240 290 true).run Tryz.prog w=.ok (.tuple #[.agg #[.int .i64 0,.int .i64 0],.bool false]) w:=by kernel_rfl
theorem qnx (v:Value) (w:World):(Instr.typeAssert (.iface 286 v) 240 292 true).run Tryz.prog w=.ok (.tuple #[.agg #[],.bool false]) w:=by kernel_rfl
theorem qn5 (v:Value) (w:World):(Instr.typeAssert (.iface 278 v) 240 284 true).run Tryz.prog w=.ok (.tuple #[.agg #[.int .i64 0,.int .i64 0],.bool false]) w:=by kernel_rfl
theorem qlp (v:Value) (w:World):(Instr.typeAssert (.iface 278 v) 240 286 true).run Tryz.prog w=.ok (.tuple #[.agg #[.int .i64 0,.int .i64 0,.int .i64 0,.int .i64 0],.bool false]) w:=by kernel_rfl
theorem qgo (v:Value) (w:World):(Instr.typeAssert (.iface 278 v) 240 278 true).run Tryz.prog w=.ok (.tuple #[v,.bool true]) w:=by kernel_rfl
theorem qlr (v:Value) (w:World):(Instr.typeAssert (.iface 278 v) 240 280 true).run Tryz.prog w=.ok (.tuple #[.agg #[.int .i64 0,.int .i64 0],.bool false]) w:=by kernel_rfl
theorem qjq (v:Value) (w:World):(Instr.typeAssert (.iface 278 v) 240 282 true).run Tryz.prog w=.ok (.tuple #[.agg #[.int .i64 0],.bool false]) w:=by kernel_rfl
theorem qlq (v:Value) (w:World):(Instr.typeAssert (.iface 278 v) 240 288 true).run Tryz.prog w=.ok (.tuple #[.agg #[.int .i64 0],.bool false]) w:=by kernel_rfl
theorem qls (v:Value) (w:World):(Instr.typeAssert (.iface 278 v) 240 290 true).run Tryz.prog w=.ok (.tuple #[.agg #[.int .i64 0,.int .i64 0],.bool false]) w:=by kernel_rfl
theorem qn4 (v:Value) (w:World):(Instr.typeAssert (.iface 278 v) 240 292 true).run Tryz.prog w=.ok (.tuple #[.agg #[],.bool false]) w:=by kernel_rfl
theorem qob (v:Value) (w:World):(Instr.typeAssert (.iface 280 v) 240 284 true).run Tryz.prog w=.ok (.tuple #[.agg #[.int .i64 0,.int .i64 0],.bool false]) w:=by kernel_rfl
theorem qlt (v:Value) (w:World):(Instr.typeAssert (.iface 280 v) 240 286 true).run Tryz.prog w=.ok (.tuple #[.agg #[.int .i64 0,.int .i64 0,.int .i64 0,.int .i64 0],.bool false]) w:=by kernel_rfl
theorem qgq (v:Value) (w:World):(Instr.typeAssert (.iface 280 v) 240 278 true).run Tryz.prog w=.ok (.tuple #[.agg #[.int .i64 0,.int .i64 0],.bool false]) w:=by kernel_rfl
theorem qgr (v:Value) (w:World):(Instr.typeAssert (.iface 280 v) 240 280 true).run Tryz.prog w=.ok (.tuple #[v,.bool true]) w:=by kernel_rfl
theorem qjr (v:Value) (w:World):(Instr.typeAssert (.iface 280 v) 240 282 true).run Tryz.prog w=.ok (.tuple #[.agg #[.int .i64 0],.bool false]) w:=by kernel_rfl
theorem qlu (v:Value) (w:World):(Instr.typeAssert (.iface 280 v) 240 288 true).run Tryz.prog w=.ok (.tuple #[.agg #[.int .i64 0],.bool false]) w:=by kernel_rfl
theorem qlv (v:Value) (w:World):(Instr.typeAssert (.iface 280 v) 240 290 true).run Tryz.prog w=.ok (.tuple #[.agg #[.int .i64 0,.int .i64 0],.bool false]) w:=by kernel_rfl
theorem qn9 (v:Value) (w:World):(Instr.typeAssert (.iface 280 v) 240 292 true).run Tryz.prog w=.ok (.tuple #[.agg #[],.bool false]) w:=by kernel_rfl
theorem qlo (v:Value) (w:World):(Instr.typeAssert (.iface 282 v) 240 284 true).run Tryz.prog w=.ok (.tuple #[.agg #[.int .i64 0,.int .i64 0],.bool false]) w:=by kernel_rfl
theorem qjn (v:Value) (w:World):(Instr.typeAssert (.iface 282 v) 240 286 true).run Tryz.prog w=.ok (.tuple #[.agg #[.int .i64 0,.int .i64 0,.int .i64 0,.int .i64 0],.bool false]) w:=by kernel_rfl
theorem qe9 (v:Value) (w:World):(Instr.typeAssert (.iface 282 v) 240 278 true).run Tryz.prog w=.ok (.tuple #[.agg #[.int .i64 0,.int .i64 0],.bool false]) w:=by kernel_rfl
theorem qfa (v:Value) (w:World):(Instr.typeAssert (.iface 282 v) 240 280 true).run Tryz.prog w=.ok (.tuple #[.agg #[.int .i64 0,.int .i64 0],.bool false]) w:=by kernel_rfl
theorem qel (v:Value) (w:World):(Instr.typeAssert (.iface 282 v) 240 282 true).run Tryz.prog w=.ok (.tuple #[v,.bool true]) w:=by kernel_rfl
theorem qjo (v:Value) (w:World):(Instr.typeAssert (.iface 282 v) 240 288 true).run Tryz.prog w=.ok (.tuple #[.agg #[.int .i64 0],.bool false]) w:=by kernel_rfl
theorem qjp (v:Value) (w:World):(Instr.typeAssert (.iface 282 v) 240 290 true).run Tryz.prog w=.ok (.tuple #[.agg #[.int .i64 0,.int .i64 0],.bool false]) w:=by kernel_rfl
theorem qln (v:Value) (w:World):(Instr.typeAssert (.iface 282 v) 240 292 true).run Tryz.prog w=.ok (.tuple #[.agg #[],.bool false]) w:=by kernel_rfl
theorem qn3 (v:Value) (w:World):(Instr.typeAssert (.iface 288 v) 240 284 true).run Tryz.prog w=.ok (.tuple #[.agg #[.int .i64 0,.int .i64 0],.bool false]) w:=by kernel_rfl
theorem qlk (v:Value) (w:World):(Instr.typeAssert (.iface 288 v) 240 286 true).run Tryz.prog w=.ok (.tuple #[.agg #[.int .i64 0,.int .i64 0,.int .i64 0,.int .i64 0],.bool false]) w:=by kernel_rfl
theorem qgm (v:Value) (w:World):(Instr.typeAssert (.iface 288 v) 240 278 true).run Tryz.prog w=.ok (.tuple #[.agg #[.int .i64 0,.int .i64 0],.bool false]) w:=by kernel_rfl
theorem qgn (v:Value) (w:World):(Instr.typeAssert (.iface 288 v) 240 280 true).run Tryz.prog w=.ok (.tuple #[.agg #[.int .i64 0,.int .i64 0],.bool false]) w:=by kernel_rfl
theorem qe8 (v:Value) (w:World):(Instr.typeAssert (.iface 288 v) 240 282 true).run Tryz.prog w=.ok (.tuple #[.agg #[.int .i64 0],.bool false]) w:=by kernel_rfl
theorem qll (v:Value) (w:World):(Instr.typeAssert (.iface 288 v) 240 288 true).run Tryz.prog w=.ok (.tuple #[v,.bool true]) w:=by kernel_rfl
theorem qlm (v:Value) (w:World):(Instr.typeAssert (.iface 288 v) 240 290 true).run Tryz.prog w=.ok (.tuple #[.agg #[.int .i64 0,.int .i64 0],.bool false]) w:=by kernel_rfl
theorem qn2 (v:Value) (w:World):(Instr.typeAssert (.iface 288 v) 240 292 true).run Tryz.prog w=.ok (.tuple #[.agg #[],.bool false]) w:=by kernel_rfl
theorem qoe (v:Value) (w:World):(Instr.typeAssert (.iface 290 v) 240 284 true).run Tryz.prog w=.ok (.tuple #[.agg #[.int .i64 0,.int .i64 0],.bool false]) w:=by kernel_rfl
theorem qlw (v:Value) (w:World):(Instr.typeAssert (.iface 290 v) 240 286 true).run Tryz.prog w=.ok (.tuple #[.agg #[.int .i64 0,.int .i64 0,.int .i64 0,.int .i64 0],.bool false]) w:=by kernel_rfl
theorem qgs (v:Value) (w:World):(Instr.typeAssert (.iface 290 v) 240 278 true).run Tryz.prog w=.ok (.tuple #[.agg #[.int .i64 0,.int .i64 0],.bool false]) w:=by kernel_rfl
theorem qgt (v:Value) (w:World):(Instr.typeAssert (.iface 290 v) 240 280 true).run Tryz.prog w=.ok (.tuple #[.agg #[.int .i64 0,.int .i64 0],.bool false]) w:=by kernel_rfl
theorem qfb (v:Value) (w:World):(Instr.typeAssert (.iface 290 v) 240 282 true).run Tryz.prog w=.ok (.tuple #[.agg #[.int .i64 0],.bool false]) w:=by kernel_rfl
theorem qlx (v:Value) (w:World):(Instr.typeAssert (.iface 290 v) 240 288 true).run Tryz.prog w=.ok (.tuple #[.agg #[.int .i64 0],.bool false]) w:=by kernel_rfl
theorem qly (v:Value) (w:World):(Instr.typeAssert (.iface 290 v) 240 290 true).run Tryz.prog w=.ok (.tuple #[v,.bool true]) w:=by kernel_rfl
theorem qod (v:Value) (w:World):(Instr.typeAssert (.iface 290 v) 240 292 true).run Tryz.prog w=.ok (.tuple #[.agg #[],.bool false]) w:=by kernel_rfl
theorem qq1 (v:Value) (w:World):(Instr.typeAssert (.iface 292 v) 240 284 true).run Tryz.prog w=.ok (.tuple #[.agg #[.int .i64 0,.int .i64 0],.bool false]) w:=by kernel_rfl
theorem qnz (v:Value) (w:World):(Instr.typeAssert (.iface 292 v) 240 286 true).run Tryz.prog w=.ok (.tuple #[.agg #[.int .i64 0,.int .i64 0,.int .i64 0,.int .i64 0],.bool false]) w:=by kernel_rfl
theorem qho (v:Value) (w:World):(Instr.typeAssert (.iface 292 v) 240 278 true).run Tryz.prog w=.ok (.tuple #[.agg #[.int .i64 0,.int .i64 0],.bool false]) w:=by kernel_rfl
theorem qhp (v:Value) (w:World):(Instr.typeAssert (.iface 292 v) 240 280 true).run Tryz.prog w=.ok (.tuple #[.agg #[.int .i64 0,.int .i64 0],.bool false]) w:=by kernel_rfl
theorem qgl (v:Value) (w:World):(Instr.typeAssert (.iface 292 v) 240 282 true).run Tryz.prog w=.ok (.tuple #[.agg #[.int .i64 0],.bool false]) w:=by kernel_rfl
theorem qn0 (v:Value) (w:World):(Instr.typeAssert (.iface 292 v) 240 288 true).run Tryz.prog w=.ok (.tuple #[.agg #[.int .i64 0],.bool false]) w:=by kernel_rfl
theorem qn1 (v:Value) (w:World):(Instr.typeAssert (.iface 292 v) 240 290 true).run Tryz.prog w=.ok (.tuple #[.agg #[.int .i64 0,.int .i64 0],.bool false]) w:=by kernel_rfl
theorem qq0 (v:Value) (w:World):(Instr.typeAssert (.iface 292 v) 240 292 true).run Tryz.prog w=.ok (.tuple #[v,.bool true]) w:=by kernel_rfl
attribute [local go_sem] qq3 qn6 qhq qhr qgp qn7 qn8 qq2 qny qlh qgj qgk qe7 qli qlj qnx qn5 qlp qgo qlr qjq qlq qls qn4 qob qlt qgq qgr qjr qlu qlv qn9 qlo qjn qe9 qfa qel qjo qjp qln qn3 qlk qgm qgn qe8 qll qlm qn2 qoe qlw qgs qgt qfb qlx qly qod qq1 qnz qho qhp qgl qn0 qn1 qq0
theorem qvc (r n places procs:Int) (w:World):
  Calls Tryz.prog 251 #[.iface 284 (setV r n),.int .i64 places,.int .i64 procs] w fun e w'=>e=.returned (.bool (belB r 4 && inB n (-1000000000) 1000000000))/\Below w.heap.size w w':=by
 rcases zK (belB r 4) with t0 | t0 <;> rcases zK (inB n (-1000000000) 1000000000) with t1 | t1
 all_goals
  go_enter Tryz.func251,Tryz.ntmps251
  go_wp2_with (first|(go_at_call 255;refine (qco _ _).mono ?_;rintro e w' ⟨rfl,rfl⟩)|(go_at_call 233;refine (isNum_any _ _).mono ?_;rintro e w' ⟨rfl,rfl⟩)|(go_at_call 76;refine (isBelow_any _ _ _).mono ?_;rintro e w' ⟨rfl,rfl⟩))
  go_ret
  exact ⟨by rw [t0,t1] <;> rfl,by go_grown⟩
theorem qs3 (op r a b places procs:Int) (w:World):
  Calls Tryz.prog 251 #[.iface 286 (qjs op r a b),.int .i64 places,.int .i64 procs] w fun e w'=>e=.returned (.bool (belB r 4 && belB a 4 && belB b 4))/\Below w.heap.size w w':=by
 rcases zK (belB r 4) with t0 | t0 <;> rcases zK (belB a 4) with t1 | t1 <;> rcases zK (belB b 4) with t2 | t2
 all_goals
  go_enter Tryz.func251,Tryz.ntmps251
  go_wp2_with (first|(go_at_call 255;refine (qco _ _).mono ?_;rintro e w' ⟨rfl,rfl⟩)|(go_at_call 233;refine (isNum_any _ _).mono ?_;rintro e w' ⟨rfl,rfl⟩)|(go_at_call 76;refine (isBelow_any _ _ _).mono ?_;rintro e w' ⟨rfl,rfl⟩))
  go_ret
  exact ⟨by rw [t0,t1,t2] <;> rfl,by go_grown⟩
theorem qs5 (n a places procs:Int) (w:World):
  Calls Tryz.prog 251 #[.iface 278 (quf n a),.int .i64 places,.int .i64 procs] w fun e w'=>e=.returned (.bool (belB a 4 && belB n procs))/\Below w.heap.size w w':=by
 rcases zK (belB a 4) with t0 | t0 <;> rcases zK (belB n procs) with t1 | t1
 all_goals
  go_enter Tryz.func251,Tryz.ntmps251
  go_wp2_with (first|(go_at_call 255;refine (qco _ _).mono ?_;rintro e w' ⟨rfl,rfl⟩)|(go_at_call 233;refine (isNum_any _ _).mono ?_;rintro e w' ⟨rfl,rfl⟩)|(go_at_call 76;refine (isBelow_any _ _ _).mono ?_;rintro e w' ⟨rfl,rfl⟩))
  go_ret
  exact ⟨by rw [t0,t1] <;> rfl,by go_grown⟩
theorem qs6 (r n places procs:Int) (w:World):
  Calls Tryz.prog 251 #[.iface 280 (quo r n),.int .i64 places,.int .i64 procs] w fun e w'=>e=.returned (.bool (belB r 4 && ((n == 9) || belB n procs)))/\Below w.heap.size w w':=by
 rcases zK (belB r 4) with t0 | t0 <;> rcases zK ((n == 9)) with t1 | t1 <;> rcases zK (belB n procs) with t2 | t2
 all_goals
  go_enter Tryz.func251,Tryz.ntmps251
  go_wp2_with (first|(go_at_call 255;refine (qco _ _).mono ?_;rintro e w' ⟨rfl,rfl⟩)|(go_at_call 233;refine (isNum_any _ _).mono ?_;rintro e w' ⟨rfl,rfl⟩)|(go_at_call 76;refine (isBelow_any _ _ _).mono ?_;rintro e w' ⟨rfl,rfl⟩))
  go_ret
  exact ⟨by rw [t0,t1,t2] <;> rfl,by go_grown⟩
theorem qrl (a places procs:Int) (w:World):
  Calls Tryz.prog 251 #[.iface 282 (qm5 a),.int .i64 places,.int .i64 procs] w fun e w'=>e=.returned (.bool (belB a 4))/\Below w.heap.size w w':=by
 go_enter Tryz.func251,Tryz.ntmps251
 go_wp2_with (first|(go_at_call 255;refine (qco _ _).mono ?_;rintro e w' ⟨rfl,rfl⟩)|(go_at_call 233;refine (isNum_any _ _).mono ?_;rintro e w' ⟨rfl,rfl⟩)|(go_at_call 76;refine (isBelow_any _ _ _).mono ?_;rintro e w' ⟨rfl,rfl⟩))
 go_ret
 exact ⟨rfl,by go_grown⟩
theorem qs4 (n places procs:Int) (w:World):
  Calls Tryz.prog 251 #[.iface 288 (qtg n),.int .i64 places,.int .i64 procs] w fun e w'=>e=.returned (.bool (belB n places))/\Below w.heap.size w w':=by
 go_enter Tryz.func251,Tryz.ntmps251
 go_wp2_with (first|(go_at_call 255;refine (qco _ _).mono ?_;rintro e w' ⟨rfl,rfl⟩)|(go_at_call 233;refine (isNum_any _ _).mono ?_;rintro e w' ⟨rfl,rfl⟩)|(go_at_call 76;refine (isBelow_any _ _ _).mono ?_;rintro e w' ⟨rfl,rfl⟩))
 go_ret
 exact ⟨rfl,by go_grown⟩
theorem qs7 (a n places procs:Int) (w:World):
  Calls Tryz.prog 251 #[.iface 290 (qu0 a n),.int .i64 places,.int .i64 procs] w fun e w'=>e=.returned (.bool (belB a 4 && belB n places))/\Below w.heap.size w w':=by
 rcases zK (belB a 4) with t0 | t0 <;> rcases zK (belB n places) with t1 | t1
 all_goals
  go_enter Tryz.func251,Tryz.ntmps251
  go_wp2_with (first|(go_at_call 255;refine (qco _ _).mono ?_;rintro e w' ⟨rfl,rfl⟩)|(go_at_call 233;refine (isNum_any _ _).mono ?_;rintro e w' ⟨rfl,rfl⟩)|(go_at_call 76;refine (isBelow_any _ _ _).mono ?_;rintro e w' ⟨rfl,rfl⟩))
  go_ret
  exact ⟨by rw [t0,t1] <;> rfl,by go_grown⟩
theorem qvb (places procs:Int) (w:World):
  Calls Tryz.prog 251 #[.iface 292 endV,.int .i64 places,.int .i64 procs] w fun e w'=>e=.returned (.bool (true))/\Below w.heap.size w w':=by
 go_enter Tryz.func251,Tryz.ntmps251
 go_wp2_with (first|(go_at_call 255;refine (qco _ _).mono ?_;rintro e w' ⟨rfl,rfl⟩)|(go_at_call 233;refine (isNum_any _ _).mono ?_;rintro e w' ⟨rfl,rfl⟩)|(go_at_call 76;refine (isBelow_any _ _ _).mono ?_;rintro e w' ⟨rfl,rfl⟩))
 go_ret
 exact ⟨rfl,by go_grown⟩
def qa0 (o1 r1 a1 b1 n1 o2 r2 a2 b2 n2:Int):Bool:=o1 == o2 && (r1 == r2 && (a1 == a2 && (b1 == b2 && n1 == n2)))
theorem qb0 (o1 r1 a1 b1 n1 o2 r2 a2 b2 n2:Int) (w:World):(binOp .eql 115 (insV o1 r1 a1 b1 n1) (insV o2 r2 a2 b2 n2)).run Tryz.prog w=.ok (.bool (qa0 o1 r1 a1 b1 n1 o2 r2 a2 b2 n2)) w:=by
 rw [run_eql_struct,show (10000:Nat)=9998+1+1 from rfl,run_equalIn_agg w (9998+1) 115 _ _ (by kernel_rfl) (by kernel_rfl)]
 simp only [qa0]
 by_cases h1:o1=o2 <;> by_cases h2:r1=r2 <;> by_cases h3:a1=a2 <;> by_cases h4:b1=b2 <;> by_cases h5:n1=n2 <;> simp [go_sem,h1,h2,h3,h4,h5]
theorem qis {w w1:World} {o:Obj} (h1:Below (w.alloc o).heap.size (w.alloc o) w1):Below w.heap.size w w1.drew:=by
 have h0:Below w.heap.size w (w.alloc o):=(Below.refl _ _).alloc (Nat.le_refl _) _
 have hs:w.heap.size<=(w.alloc o).heap.size:=by simp
 exact (h0.trans (h1.mono hs)).drew
theorem qa6 {w w1 w2:World} {o:Obj} (h1:Below (w.alloc o).heap.size (w.alloc o) w1) (h2:Below w1.drew.heap.size w1.drew w2):Below w.heap.size w w2:=by
 have h0:Below w.heap.size w (w.alloc o):=(Below.refl _ _).alloc (Nat.le_refl _) _
 have hs:w.heap.size<=(w.alloc o).heap.size:=by simp
 exact (h0.trans (h1.mono hs)).drew.trans (h2.mono (zP hs h1.size))
theorem qbb {w w1 w2 w3:World} {o:Obj} (h1:Below (w.alloc o).heap.size (w.alloc o) w1) (h2:Below w1.drew.heap.size w1.drew w2) (h3:Below w2.heap.size w2 w3):Below w.heap.size w w3:=
 qa6 h1 (h2.trans (h3.mono h2.size))
