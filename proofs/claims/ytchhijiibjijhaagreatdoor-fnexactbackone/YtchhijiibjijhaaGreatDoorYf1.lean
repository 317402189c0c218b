import Derived.Test.YtchhijiibjijhaaGreatDoorYf0
import Derived.WalkKit
import Derived.WalkSpells
import Derived.WalkLawsBesides
import Derived.Handy
namespace Go.Proofs.YtchhijiibjijhaaGreatDoor
set_option maxHeartbeats 1000000
open Go.RowKit
def inB (x lo hi:Int):Bool:=decide (lo<=x/\x<=hi)
def belB (x n:Int):Bool:=decide (0<=x/\x<n)
theorem l1In_any (x lo hi:Int) (w:World):
  Calls Tryz.prog 71 #[.int .i64 x,.int .i64 lo,.int .i64 hi] w fun e w'=>e=.returned (.bool (inB x lo hi))/\w'=w:=by
 by_cases h1:lo<=x
 ·by_cases h2:x<=hi
  ·go_enter Tryz.func71,Tryz.ntmps71
   go_wp2
   go_ret
   exact ⟨by simp [inB,h1,h2],rfl⟩
  ·go_enter Tryz.func71,Tryz.ntmps71
   go_wp2
   go_ret
   exact ⟨by simp [inB,h1,h2],rfl⟩
 ·go_enter Tryz.func71,Tryz.ntmps71
  go_wp2
  go_ret
  exact ⟨by simp [inB];omega,rfl⟩
theorem isBelow_any (x n:Int) (w:World):
  Calls Tryz.prog 76 #[.int .i64 x,.int .i64 n] w fun e w'=>e=.returned (.bool (belB x n))/\w'=w:=by
 by_cases h1:0<=x
 ·by_cases h2:x<n
  ·go_enter Tryz.func76,Tryz.ntmps76
   go_wp2
   go_ret
   exact ⟨by simp [belB,h1,h2],rfl⟩
  ·go_enter Tryz.func76,Tryz.ntmps76
   go_wp2
   go_ret
   exact ⟨by simp [belB,h1,h2],rfl⟩
 ·go_enter Tryz.func76,Tryz.ntmps76
  go_wp2
  go_ret
  exact ⟨by simp [belB];omega,rfl⟩
theorem qcz (x:Int) (w:World):
  Calls Tryz.prog 255 #[.int .i64 x] w fun e w'=>e=.returned (.bool (belB x 4))/\w'=w:=by
 go_enter Tryz.func255,Tryz.ntmps255
 go_wp2_with (go_at_call 76;refine (isBelow_any _ _ _).mono ?_;rintro e w' ⟨rfl,rfl⟩)
 go_ret
 exact ⟨rfl,rfl⟩
theorem isNum_any (x:Int) (w:World):
  Calls Tryz.prog 233 #[.int .i64 x] w fun e w'=>e=.returned (.bool (inB x (-1000000000) 1000000000))/\w'=w:=by
 by_cases h1:-1000000000<=x
 ·by_cases h2:x<=1000000000
  ·go_enter Tryz.func233,Tryz.ntmps233
   go_wp2
   go_ret
   exact ⟨by simp [inB,h1,h2],rfl⟩
  ·go_enter Tryz.func233,Tryz.ntmps233
   go_wp2
   go_ret
   exact ⟨by simp [inB,h1,h2],rfl⟩
 ·go_enter Tryz.func233,Tryz.ntmps233
  go_wp2
  go_ret
  exact ⟨by simp [inB];omega,rfl⟩
theorem l1Num_any (x:Int) (w:World):
  Calls Tryz.prog 151 #[.int .i64 x] w fun e w'=>e=.returned (.bool (inB x (-1000000000) 1000000000))/\w'=w:=by
 go_enter Tryz.func151,Tryz.ntmps151
 go_wp2_with (go_at_call 71;refine (l1In_any _ _ _ _).mono ?_;rintro e w' ⟨rfl,rfl⟩)
 go_ret
 exact ⟨rfl,rfl⟩
abbrev insV (op r a b n:Int):Value:=.agg #[.int .i64 op,.int .i64 r,.int .i64 a,.int .i64 b,.int .i64 n]
theorem qu8 (op r a b n:Int) (w:World):
  Calls Tryz.prog 155 #[insV op r a b n] w fun e w'=>e=.returned (insV op r a b n)/\Below w.heap.size w w':=by
 go_enter Tryz.func155,Tryz.ntmps155
 go_wp2
 refine bodyPost_ret (v:=insV op r a b n) (by simp [results,Tryz.results155,go_sem]) rfl ⟨rfl,?_⟩
 go_grown
abbrev setV (r n:Int):Value:=.agg #[.int .i64 r,.int .i64 n]
theorem qfo (r a b n:Int) (w:World):
  Calls Tryz.prog 205 #[insV 1 r a b n] w fun e w'=>e=.returned (.iface 284 (setV r n))/\Below w.heap.size w w':=by
 go_enter Tryz.func205,Tryz.ntmps205
 go_wp2
 go_ret
 exact ⟨rfl,by go_grown⟩
theorem qt2 (r n:Int) (w:World):
  Calls Tryz.prog 282 #[setV r n] w fun e w'=>e=.returned (insV 1 r 0 0 n)/\Below w.heap.size w w':=by
 go_enter Tryz.func282,Tryz.ntmps282
 go_wp2
 refine bodyPost_ret (v:=insV 1 r 0 0 n) (by simp [results,Tryz.results282,go_sem]) rfl ⟨rfl,?_⟩
 go_grown
abbrev qkn (op r a b:Int):Value:=.agg #[.int .i64 op,.int .i64 r,.int .i64 a,.int .i64 b]
theorem qgb (r a b n:Int) (w:World):
  Calls Tryz.prog 205 #[insV 2 r a b n] w fun e w'=>e=.returned (.iface 286 (qkn 2 r a b))/\Below w.heap.size w w':=by
 go_enter Tryz.func205,Tryz.ntmps205
 go_wp2
 go_ret
 exact ⟨rfl,by go_grown⟩
theorem qgc (r a b n:Int) (w:World):
  Calls Tryz.prog 205 #[insV 3 r a b n] w fun e w'=>e=.returned (.iface 286 (qkn 3 r a b))/\Below w.heap.size w w':=by
 go_enter Tryz.func205,Tryz.ntmps205
 go_wp2
 go_ret
 exact ⟨rfl,by go_grown⟩
theorem qgd (r a b n:Int) (w:World):
  Calls Tryz.prog 205 #[insV 4 r a b n] w fun e w'=>e=.returned (.iface 286 (qkn 4 r a b))/\Below w.heap.size w w':=by
 go_enter Tryz.func205,Tryz.ntmps205
 go_wp2
 go_ret
 exact ⟨rfl,by go_grown⟩
theorem qge (r a b n:Int) (w:World):
  Calls Tryz.prog 205 #[insV 5 r a b n] w fun e w'=>e=.returned (.iface 286 (qkn 5 r a b))/\Below w.heap.size w w':=by
 go_enter Tryz.func205,Tryz.ntmps205
 go_wp2
 go_ret
 exact ⟨rfl,by go_grown⟩
theorem qqx (op r a b:Int) (w:World):
  Calls Tryz.prog 283 #[qkn op r a b] w fun e w'=>e=.returned (insV op r a b 0)/\Below w.heap.size w w':=by
 go_enter Tryz.func283,Tryz.ntmps283
 go_wp2
 refine bodyPost_ret (v:=insV op r a b 0) (by simp [results,Tryz.results283,go_sem]) rfl ⟨rfl,?_⟩
 go_grown
abbrev quw (n a:Int):Value:=.agg #[.int .i64 n,.int .i64 a]
theorem qei (r a b n:Int) (w:World):
  Calls Tryz.prog 205 #[insV 6 r a b n] w fun e w'=>e=.returned (.iface 278 (quw n a))/\Below w.heap.size w w':=by
 go_enter Tryz.func205,Tryz.ntmps205
 go_wp2
 go_ret
 exact ⟨rfl,by go_grown⟩
theorem qqz (n a:Int) (w:World):
  Calls Tryz.prog 279 #[quw n a] w fun e w'=>e=.returned (insV 6 0 a 0 n)/\Below w.heap.size w w':=by
 go_enter Tryz.func279,Tryz.ntmps279
 go_wp2
 refine bodyPost_ret (v:=insV 6 0 a 0 n) (by simp [results,Tryz.results279,go_sem]) rfl ⟨rfl,?_⟩
 go_grown
abbrev qu5 (r n:Int):Value:=.agg #[.int .i64 r,.int .i64 n]
theorem qej (r a b n:Int) (w:World):
  Calls Tryz.prog 205 #[insV 7 r a b n] w fun e w'=>e=.returned (.iface 280 (qu5 r n))/\Below w.heap.size w w':=by
 go_enter Tryz.func205,Tryz.ntmps205
 go_wp2
 go_ret
 exact ⟨rfl,by go_grown⟩
theorem qq0 (r n:Int) (w:World):
  Calls Tryz.prog 280 #[qu5 r n] w fun e w'=>e=.returned (insV 7 r 0 0 n)/\Below w.heap.size w w':=by
 go_enter Tryz.func280,Tryz.ntmps280
 go_wp2
 refine bodyPost_ret (v:=insV 7 r 0 0 n) (by simp [results,Tryz.results280,go_sem]) rfl ⟨rfl,?_⟩
 go_grown
abbrev qnr (a:Int):Value:=.agg #[.int .i64 a]
theorem qdz (r a b n:Int) (w:World):
  Calls Tryz.prog 205 #[insV 8 r a b n] w fun e w'=>e=.returned (.iface 282 (qnr a))/\Below w.heap.size w w':=by
 go_enter Tryz.func205,Tryz.ntmps205
 go_wp2
 go_ret
 exact ⟨rfl,by go_grown⟩
theorem qnb (a:Int) (w:World):
  Calls Tryz.prog 281 #[qnr a] w fun e w'=>e=.returned (insV 8 0 a 0 0)/\Below w.heap.size w w':=by
 go_enter Tryz.func281,Tryz.ntmps281
 go_wp2
 refine bodyPost_ret (v:=insV 8 0 a 0 0) (by simp [results,Tryz.results281,go_sem]) rfl ⟨rfl,?_⟩
 go_grown
abbrev qt4 (n:Int):Value:=.agg #[.int .i64 n]
theorem qeh (r a b n:Int) (w:World):
  Calls Tryz.prog 205 #[insV 9 r a b n] w fun e w'=>e=.returned (.iface 288 (qt4 n))/\Below w.heap.size w w':=by
 go_enter Tryz.func205,Tryz.ntmps205
 go_wp2
 go_ret
 exact ⟨rfl,by go_grown⟩
theorem qqy (n:Int) (w:World):
  Calls Tryz.prog 284 #[qt4 n] w fun e w'=>e=.returned (insV 9 0 0 0 n)/\Below w.heap.size w w':=by
 go_enter Tryz.func284,Tryz.ntmps284
 go_wp2
 refine bodyPost_ret (v:=insV 9 0 0 0 n) (by simp [results,Tryz.results284,go_sem]) rfl ⟨rfl,?_⟩
 go_grown
abbrev qvh (a n:Int):Value:=.agg #[.int .i64 a,.int .i64 n]
theorem qek (r a b n:Int) (w:World):
  Calls Tryz.prog 205 #[insV 10 r a b n] w fun e w'=>e=.returned (.iface 290 (qvh a n))/\Below w.heap.size w w':=by
 go_enter Tryz.func205,Tryz.ntmps205
 go_wp2
 go_ret
 exact ⟨rfl,by go_grown⟩
theorem qq1 (a n:Int) (w:World):
  Calls Tryz.prog 285 #[qvh a n] w fun e w'=>e=.returned (insV 10 0 a 0 n)/\Below w.heap.size w w':=by
 go_enter Tryz.func285,Tryz.ntmps285
 go_wp2
 refine bodyPost_ret (v:=insV 10 0 a 0 n) (by simp [results,Tryz.results285,go_sem]) rfl ⟨rfl,?_⟩
 go_grown
abbrev endV:Value:=.agg #[]
theorem qfn (r a b n:Int) (w:World):
  Calls Tryz.prog 205 #[insV 11 r a b n] w fun e w'=>e=.returned (.iface 292 endV)/\Below w.heap.size w w':=by
 go_enter Tryz.func205,Tryz.ntmps205
 go_wp2
 go_ret
 exact ⟨rfl,by go_grown⟩
theorem qt1 (w:World):
  Calls Tryz.prog 286 #[endV] w fun e w'=>e=.returned (insV 11 0 0 0 0)/\Below w.heap.size w w':=by
 go_enter Tryz.func286,Tryz.ntmps286
 go_wp2
 refine bodyPost_ret (v:=insV 11 0 0 0 0) (by simp [results,Tryz.results286,go_sem]) rfl ⟨rfl,?_⟩
 go_grown
theorem qhn (op r a b n:Int) (w:World) (h1:2<=op) (h2:op<=5):
  Calls Tryz.prog 205 #[insV op r a b n] w fun e w'=>e=.returned (.iface 286 (qkn op r a b))/\Below w.heap.size w w':=by
 have h:op=2\/op=3\/op=4\/op=5:=by omega
 rcases h with rfl | rfl | rfl | rfl
 ·exact qgb r a b n w
 ·exact qgc r a b n w
 ·exact qgd r a b n w
 ·exact qge r a b n w
theorem qnq (op r a b n:Int) (w:World) (h:op<1\/11<op):
  Calls Tryz.prog 205 #[insV op r a b n] w fun e w'=>e=.returned .nilIface/\Below w.heap.size w w':=by
 have h1:(op == 1)=false:=by simp;omega
 have h2:(op == 2)=false:=by simp;omega
 have h3:(op == 3)=false:=by simp;omega
 have h4:(op == 4)=false:=by simp;omega
 have h5:(op == 5)=false:=by simp;omega
 have h6:(op == 6)=false:=by simp;omega
 have h7:(op == 7)=false:=by simp;omega
 have h8:(op == 8)=false:=by simp;omega
 have h9:(op == 9)=false:=by simp;omega
 have h10:(op == 10)=false:=by simp;omega
 have h11:(op == 11)=false:=by simp;omega
 clear h
 go_enter Tryz.func205,Tryz.ntmps205
 go_wp2
 go_ret
 exact ⟨rfl,by go_grown⟩
theorem qrr (v:Value) (w:World):(Instr.typeAssert (.iface 284 v) 240 284 true).run Tryz.prog w=.ok (.tuple #[v,.bool true]) w:=by kernel_rfl
theorem qor (v:Value) (w:World):(Instr.typeAssert (.iface 284 v) 240 286 true).run Tryz.prog w=.ok (.tuple #[.agg #[.int .i64 0,.int .i64 0,.int .i64 0,.int .i64 0],.bool false]) w:=by kernel_rfl
theorem qii (v:Value) (w:World):(Instr.typeAssert (.iface 284 v) 240 278 true).run Tryz.prog w=.ok (.tuple #[.agg #[.int .i64 0,.int .i64 0],.bool false]) w:=by kernel_rfl
theorem qij (v:Value) (w:World):(Instr.typeAssert (.iface 284 v) 240 280 true).run Tryz.prog w=.ok (.tuple #[.agg #[.int .i64 0,.int .i64 0],.bool false]) w:=by kernel_rfl
theorem qhe (v:Value) (w:World):(Instr.typeAssert (.iface 284 v) 240 282 true).run Tryz.prog w=.ok (.tuple #[.agg #[.int .i64 0],.bool false]) w:=by kernel_rfl
theorem qos (v:Value) (w:World):(Instr.typeAssert (.iface 284 v) 240 288 true).run Tryz.prog w=.ok (.tuple #[.agg #[.int .i64 0],.bool false]) w:=by kernel_rfl
theorem qot (v:Value) (w:World):(Instr.typeAssert (.iface 284 v) 240 290 true).run Tryz.prog w=.ok (.tuple #[.agg #[.int .i64 0,.int .i64 0],.bool false]) w:=by kernel_rfl
theorem qrq (v:Value) (w:World):(Instr.typeAssert (.iface 284 v) 240 292 true).run Tryz.prog w=.ok (.tuple #[.agg #[],.bool false]) w:=by kernel_rfl
theorem qoj (v:Value) (w:World):(Instr.typeAssert (.iface 286 v) 240 284 true).run Tryz.prog w=.ok (.tuple #[.agg #[.int .i64 0,.int .i64 0],.bool false]) w:=by kernel_rfl
theorem ql9 (v:Value) (w:World):(Instr.typeAssert (.iface 286 v) 240 286 true).run Tryz.prog w=.ok (.tuple #[v,.bool true]) w:=by kernel_rfl
theorem qg8 (v:Value) (w:World):(Instr.typeAssert (.iface 286 v) 240 278 true).run Tryz.prog w=.ok (.tuple #[.agg #[.int .i64 0,.int .i64 0],.bool false]) w:=by kernel_rfl
theorem qg9 (v:Value) (w:World):(Instr.typeAssert (.iface 286 v) 240 280 true).run Tryz.prog w=.ok (.tuple #[.agg #[.int .i64 0,.int .i64 0],.bool false]) w:=by kernel_rfl
theorem qfr (v:Value) (w:World):(Instr.typeAssert (.iface 286 v) 240 282 true).run Tryz.prog w=.ok (.tuple #[.agg #[.int .i64 0],.bool false]) w:=by kernel_rfl
theorem qma (v:Value) (w:World):(Instr.typeAssert (.iface 286 v) 240 288 true).run Tryz.prog w=.ok (.tuple #[.agg #[.int .i64 0],.bool false]) w:=by kernel_rfl
theorem qmb (v:Value) (w:World):(Instr.typeAssert (.iface 286 v) 240 290 true).run Tryz.prog w=.ok (.tuple #[.agg #[.int .i64 0,.int .i64 0],.bool false]) w:=by kernel_rfl
theorem qoi (v:Value) (w:World):(Instr.typeAssert (.iface 286 v) 240 292 true).run Tryz.prog w=.ok (.tuple #[.agg #[],.bool false]) w:=by kernel_rfl
theorem qoq (v:Value) (w:World):(Instr.typeAssert (.iface 278 v) 240 284 true).run Tryz.prog w=.ok (.tuple #[.agg #[.int .i64 0,.int .i64 0],.bool false]) w:=by kernel_rfl
theorem qmh (v:Value) (w:World):(Instr.typeAssert (.iface 278 v) 240 286 true).run Tryz.prog w=.ok (.tuple #[.agg #[.int .i64 0,.int .i64 0,.int .i64 0,.int .i64 0],.bool false]) w:=by kernel_rfl
theorem qhd (v:Value) (w:World):(Instr.typeAssert (.iface 278 v) 240 278 true).run Tryz.prog w=.ok (.tuple #[v,.bool true]) w:=by kernel_rfl
theorem qmj (v:Value) (w:World):(Instr.typeAssert (.iface 278 v) 240 280 true).run Tryz.prog w=.ok (.tuple #[.agg #[.int .i64 0,.int .i64 0],.bool false]) w:=by kernel_rfl
theorem qki (v:Value) (w:World):(Instr.typeAssert (.iface 278 v) 240 282 true).run Tryz.prog w=.ok (.tuple #[.agg #[.int .i64 0],.bool false]) w:=by kernel_rfl
theorem qmi (v:Value) (w:World):(Instr.typeAssert (.iface 278 v) 240 288 true).run Tryz.prog w=.ok (.tuple #[.agg #[.int .i64 0],.bool false]) w:=by kernel_rfl
theorem qmk (v:Value) (w:World):(Instr.typeAssert (.iface 278 v) 240 290 true).run Tryz.prog w=.ok (.tuple #[.agg #[.int .i64 0,.int .i64 0],.bool false]) w:=by kernel_rfl
theorem qop (v:Value) (w:World):(Instr.typeAssert (.iface 278 v) 240 292 true).run Tryz.prog w=.ok (.tuple #[.agg #[],.bool false]) w:=by kernel_rfl
theorem qov (v:Value) (w:World):(Instr.typeAssert (.iface 280 v) 240 284 true).run Tryz.prog w=.ok (.tuple #[.agg #[.int .i64 0,.int .i64 0],.bool false]) w:=by kernel_rfl
theorem qml (v:Value) (w:World):(Instr.typeAssert (.iface 280 v) 240 286 true).run Tryz.prog w=.ok (.tuple #[.agg #[.int .i64 0,.int .i64 0,.int .i64 0,.int .i64 0],.bool false]) w:=by kernel_rfl
theorem qhf (v:Value) (w:World):(Instr.typeAssert (.iface 280 v) 240 278 true).run Tryz.prog w=.ok (.tuple #[.agg #[.int .i64 0,.int .i64 0],.bool false]) w:=by kernel_rfl
theorem qhg (v:Value) (w:World):(Instr.typeAssert (.iface 280 v) 240 280 true).run Tryz.prog w=.ok (.tuple #[v,.bool true]) w:=by kernel_rfl
theorem qkj (v:Value) (w:World):(Instr.typeAssert (.iface 280 v) 240 282 true).run Tryz.prog w=.ok (.tuple #[.agg #[.int .i64 0],.bool false]) w:=by kernel_rfl
theorem qmm (v:Value) (w:World):(Instr.typeAssert (.iface 280 v) 240 288 true).run Tryz.prog w=.ok (.tuple #[.agg #[.int .i64 0],.bool false]) w:=by kernel_rfl
theorem qmn (v:Value) (w:World):(Instr.typeAssert (.iface 280 v) 240 290 true).run Tryz.prog w=.ok (.tuple #[.agg #[.int .i64 0,.int .i64 0],.bool false]) w:=by kernel_rfl
theorem qou (v:Value) (w:World):(Instr.typeAssert (.iface 280 v) 240 292 true).run Tryz.prog w=.ok (.tuple #[.agg #[],.bool false]) w:=by kernel_rfl
theorem qmg (v:Value) (w:World):(Instr.typeAssert (.iface 282 v) 240 284 true).run Tryz.prog w=.ok (.tuple #[.agg #[.int .i64 0,.int .i64 0],.bool false]) w:=by kernel_rfl
theorem qkf (v:Value) (w:World):(Instr.typeAssert (.iface 282 v) 240 286 true).run Tryz.prog w=.ok (.tuple #[.agg #[.int .i64 0,.int .i64 0,.int .i64 0,.int .i64 0],.bool false]) w:=by kernel_rfl
theorem qft (v:Value) (w:World):(Instr.typeAssert (.iface 282 v) 240 278 true).run Tryz.prog w=.ok (.tuple #[.agg #[.int .i64 0,.int .i64 0],.bool false]) w:=by kernel_rfl
theorem qfu (v:Value) (w:World):(Instr.typeAssert (.iface 282 v) 240 280 true).run Tryz.prog w=.ok (.tuple #[.agg #[.int .i64 0,.int .i64 0],.bool false]) w:=by kernel_rfl
theorem qe4 (v:Value) (w:World):(Instr.typeAssert (.iface 282 v) 240 282 true).run Tryz.prog w=.ok (.tuple #[v,.bool true]) w:=by kernel_rfl
theorem qkg (v:Value) (w:World):(Instr.typeAssert (.iface 282 v) 240 288 true).run Tryz.prog w=.ok (.tuple #[.agg #[.int .i64 0],.bool false]) w:=by kernel_rfl
theorem qkh (v:Value) (w:World):(Instr.typeAssert (.iface 282 v) 240 290 true).run Tryz.prog w=.ok (.tuple #[.agg #[.int .i64 0,.int .i64 0],.bool false]) w:=by kernel_rfl
theorem qmf (v:Value) (w:World):(Instr.typeAssert (.iface 282 v) 240 292 true).run Tryz.prog w=.ok (.tuple #[.agg #[],.bool false]) w:=by kernel_rfl
theorem qoo (v:Value) (w:World):(Instr.typeAssert (.iface 288 v) 240 284 true).run Tryz.prog w=.ok (.tuple #[.agg #[.int .i64 0,.int .i64 0],.bool false]) w:=by kernel_rfl
theorem qmc (v:Value) (w:World):(Instr.typeAssert (.iface 288 v) 240 286 true).run Tryz.prog w=.ok (.tuple #[.agg #[.int .i64 0,.int .i64 0,.int .i64 0,.int .i64 0],.bool false]) w:=by kernel_rfl
theorem qhb (v:Value) (w:World):(Instr.typeAssert (.iface 288 v) 240 278 true).run Tryz.prog w=.ok (.tuple #[.agg #[.int .i64 0,.int .i64 0],.bool false]) w:=by kernel_rfl
theorem qhc (v:Value) (w:World):(Instr.typeAssert (.iface 288 v) 240 280 true).run Tryz.prog w=.ok (.tuple #[.agg #[.int .i64 0,.int .i64 0],.bool false]) w:=by kernel_rfl
theorem qfs (v:Value) (w:World):(Instr.typeAssert (.iface 288 v) 240 282 true).run Tryz.prog w=.ok (.tuple #[.agg #[.int .i64 0],.bool false]) w:=by kernel_rfl
theorem qmd (v:Value) (w:World):(Instr.typeAssert (.iface 288 v) 240 288 true).run Tryz.prog w=.ok (.tuple #[v,.bool true]) w:=by kernel_rfl
theorem qme (v:Value) (w:World):(Instr.typeAssert (.iface 288 v) 240 290 true).run Tryz.prog w=.ok (.tuple #[.agg #[.int .i64 0,.int .i64 0],.bool false]) w:=by kernel_rfl
theorem qon (v:Value) (w:World):(Instr.typeAssert (.iface 288 v) 240 292 true).run Tryz.prog w=.ok (.tuple #[.agg #[],.bool false]) w:=by kernel_rfl
theorem qox (v:Value) (w:World):(Instr.typeAssert (.iface 290 v) 240 284 true).run Tryz.prog w=.ok (.tuple #[.agg #[.int .i64 0,.int .i64 0],.bool false]) w:=by kernel_rfl
theorem qmo (v:Value) (w:World):(Instr.typeAssert (.iface 290 v) 240 286 true).run Tryz.prog w=.ok (.tuple #[.agg #[.int .i64 0,.int .i64 0,.int .i64 0,.int .i64 0],.bool false]) w:=by kernel_rfl
theorem qhh (v:Value) (w:World):(Instr.typeAssert (.iface 290 v) 240 278 true).run Tryz.prog w=.ok (.tuple #[.agg #[.int .i64 0,.int .i64 0],.bool false]) w:=by kernel_rfl
theorem qhi (v:Value) (w:World):(Instr.typeAssert (.iface 290 v) 240 280 true).run Tryz.prog w=.ok (.tuple #[.agg #[.int .i64 0,.int .i64 0],.bool false]) w:=by kernel_rfl
theorem qfv (v:Value) (w:World):(Instr.typeAssert (.iface 290 v) 240 282 true).run Tryz.prog w=.ok (.tuple #[.agg #[.int .i64 0],.bool false]) w:=by kernel_rfl
theorem qmp (v:Value) (w:World):(Instr.typeAssert (.iface 290 v) 240 288 true).run Tryz.prog w=.ok (.tuple #[.agg #[.int .i64 0],.bool false]) w:=by kernel_rfl
theorem qmq (v:Value) (w:World):(Instr.typeAssert (.iface 290 v) 240 290 true).run Tryz.prog w=.ok (.tuple #[v,.bool true]) w:=by kernel_rfl
theorem qow (v:Value) (w:World):(Instr.typeAssert (.iface 290 v) 240 292 true).run Tryz.prog w=.ok (.tuple #[.agg #[],.bool false]) w:=by kernel_rfl
theorem qrp (v:Value) (w:World):(Instr.typeAssert (.iface 292 v) 240 284 true).run Tryz.prog w=.ok (.tuple #[.agg #[.int .i64 0,.int .i64 0],.bool false]) w:=by kernel_rfl
theorem qok (v:Value) (w:World):(Instr.typeAssert (.iface 292 v) 240 286 true).run Tryz.prog w=.ok (.tuple #[.agg #[.int .i64 0,.int .i64 0,.int .i64 0,.int .i64 0],.bool false]) w:=by kernel_rfl
theorem qig (v:Value) (w:World):(Instr.typeAssert (.iface 292 v) 240 278 true).run Tryz.prog w=.ok (.tuple #[.agg #[.int .i64 0,.int .i64 0],.bool false]) w:=by kernel_rfl
theorem qih (v:Value) (w:World):(Instr.typeAssert (.iface 292 v) 240 280 true).run Tryz.prog w=.ok (.tuple #[.agg #[.int .i64 0,.int .i64 0],.bool false]) w:=by kernel_rfl
theorem qha (v:Value) (w:World):(Instr.typeAssert (.iface 292 v) 240 282 true).run Tryz.prog w=.ok (.tuple #[.agg #[.int .i64 0],.bool false]) w:=by kernel_rfl
theorem qol (v:Value) (w:World):(Instr.typeAssert (.iface 292 v) 240 288 true).run Tryz.prog w=.ok (.tuple #[.agg #[.int .i64 0],.bool false]) w:=by kernel_rfl
theorem qom (v:Value) (w:World):(Instr.typeAssert (.iface 292 v) 240 290 true).run Tryz.prog w=.ok (.tuple #[.agg #[.int .i64 0,.int .i64 0],.bool false]) w:=by kernel_rfl
theorem qro (v:Value) (w:World):(Instr.typeAssert (.iface 292 v) 240 292 true).run Tryz.prog w=.ok (.tuple #[v,.bool true]) w:=by kernel_rfl
attribute [local go_sem] qrr qor qii qij qhe qos qot qrq qoj ql9 qg8 qg9 qfr qma qmb qoi qoq qmh qhd qmj qki qmi qmk qop qov qml qhf qhg qkj qmm qmn qou qmg qkf qft qfu qe4 qkg qkh qmf qoo qmc qhb qhc qfs qmd qme qon qox qmo qhh qhi qfv qmp qmq qow qrp qok qig qih qha qol qom qro
theorem qvy (r n places procs:Int) (w:World):
  Calls Tryz.prog 251 #[.iface 284 (setV r n),.int .i64 places,.int .i64 procs] w fun e w'=>e=.returned (.bool (belB r 4 && inB n (-1000000000) 1000000000))/\Below w.heap.size w w':=by
 rcases zK (belB r 4) with t0 | t0 <;> rcases zK (inB n (-1000000000) 1000000000) with t1 | t1
 all_goals
  go_enter Tryz.func251,Tryz.ntmps251
  go_wp2_with (first|(go_at_call 255;refine (qcz _ _).mono ?_;rintro e w' ⟨rfl,rfl⟩)|(go_at_call 233;refine (isNum_any _ _).mono ?_;rintro e w' ⟨rfl,rfl⟩)|(go_at_call 76;refine (isBelow_any _ _ _).mono ?_;rintro e w' ⟨rfl,rfl⟩))
  go_ret
  exact ⟨by rw [t0,t1] <;> rfl,by go_grown⟩
theorem qto (op r a b places procs:Int) (w:World):
  Calls Tryz.prog 251 #[.iface 286 (qkn op r a b),.int .i64 places,.int .i64 procs] w fun e w'=>e=.returned (.bool (belB r 4 && belB a 4 && belB b 4))/\Below w.heap.size w w':=by
 rcases zK (belB r 4) with t0 | t0 <;> rcases zK (belB a 4) with t1 | t1 <;> rcases zK (belB b 4) with t2 | t2
 all_goals
  go_enter Tryz.func251,Tryz.ntmps251
  go_wp2_with (first|(go_at_call 255;refine (qcz _ _).mono ?_;rintro e w' ⟨rfl,rfl⟩)|(go_at_call 233;refine (isNum_any _ _).mono ?_;rintro e w' ⟨rfl,rfl⟩)|(go_at_call 76;refine (isBelow_any _ _ _).mono ?_;rintro e w' ⟨rfl,rfl⟩))
  go_ret
  exact ⟨by rw [t0,t1,t2] <;> rfl,by go_grown⟩
theorem qtq (n a places procs:Int) (w:World):
  Calls Tryz.prog 251 #[.iface 278 (quw n a),.int .i64 places,.int .i64 procs] w fun e w'=>e=.returned (.bool (belB a 4 && belB n procs))/\Below w.heap.size w w':=by
 rcases zK (belB a 4) with t0 | t0 <;> rcases zK (belB n procs) with t1 | t1
 all_goals
  go_enter Tryz.func251,Tryz.ntmps251
  go_wp2_with (first|(go_at_call 255;refine (qcz _ _).mono ?_;rintro e w' ⟨rfl,rfl⟩)|(go_at_call 233;refine (isNum_any _ _).mono ?_;rintro e w' ⟨rfl,rfl⟩)|(go_at_call 76;refine (isBelow_any _ _ _).mono ?_;rintro e w' ⟨rfl,rfl⟩))
  go_ret
  exact ⟨by rw [t0,t1] <;> rfl,by go_grown⟩
theorem qtr (r n places procs:Int) (w:World):
  Calls Tryz.prog 251 #[.iface 280 (qu5 r n),.int .i64 places,.int .i64 procs] w fun e w'=>e=.returned (.bool (belB r 4 && ((n == 9) || belB n procs)))/\Below w.heap.size w w':=by
 rcases zK (belB r 4) with t0 | t0 <;> rcases zK ((n == 9)) with t1 | t1 <;> rcases zK (belB n procs) with t2 | t2
 all_goals
  go_enter Tryz.func251,Tryz.ntmps251
  go_wp2_with (first|(go_at_call 255;refine (qcz _ _).mono ?_;rintro e w' ⟨rfl,rfl⟩)|(go_at_call 233;refine (isNum_any _ _).mono ?_;rintro e w' ⟨rfl,rfl⟩)|(go_at_call 76;refine (isBelow_any _ _ _).mono ?_;rintro e w' ⟨rfl,rfl⟩))
  go_ret
  exact ⟨by rw [t0,t1,t2] <;> rfl,by go_grown⟩
theorem qr7 (a places procs:Int) (w:World):
  Calls Tryz.prog 251 #[.iface 282 (qnr a),.int .i64 places,.int .i64 procs] w fun e w'=>e=.returned (.bool (belB a 4))/\Below w.heap.size w w':=by
 go_enter Tryz.func251,Tryz.ntmps251
 go_wp2_with (first|(go_at_call 255;refine (qcz _ _).mono ?_;rintro e w' ⟨rfl,rfl⟩)|(go_at_call 233;refine (isNum_any _ _).mono ?_;rintro e w' ⟨rfl,rfl⟩)|(go_at_call 76;refine (isBelow_any _ _ _).mono ?_;rintro e w' ⟨rfl,rfl⟩))
 go_ret
 exact ⟨rfl,by go_grown⟩
theorem qtp (n places procs:Int) (w:World):
  Calls Tryz.prog 251 #[.iface 288 (qt4 n),.int .i64 places,.int .i64 procs] w fun e w'=>e=.returned (.bool (belB n places))/\Below w.heap.size w w':=by
 go_enter Tryz.func251,Tryz.ntmps251
 go_wp2_with (first|(go_at_call 255;refine (qcz _ _).mono ?_;rintro e w' ⟨rfl,rfl⟩)|(go_at_call 233;refine (isNum_any _ _).mono ?_;rintro e w' ⟨rfl,rfl⟩)|(go_at_call 76;refine (isBelow_any _ _ _).mono ?_;rintro e w' ⟨rfl,rfl⟩))
 go_ret
 exact ⟨rfl,by go_grown⟩
theorem qts (a n places procs:Int) (w:World):
  Calls Tryz.prog 251 #[.iface 290 (qvh a n),.int .i64 places,.int .i64 procs] w fun e w'=>e=.returned (.bool (belB a 4 && belB n places))/\Below w.heap.size w w':=by
 rcases zK (belB a 4) with t0 | t0 <;> rcases zK (belB n places) with t1 | t1
 all_goals
  go_enter Tryz.func251,Tryz.ntmps251
  go_wp2_with (first|(go_at_call 255;refine (qcz _ _).mono ?_;rintro e w' ⟨rfl,rfl⟩)|(go_at_call 233;refine (isNum_any _ _).mono ?_;rintro e w' ⟨rfl,rfl⟩)|(go_at_call 76;refine (isBelow_any _ _ _).mono ?_;rintro e w' ⟨rfl,rfl⟩))
  go_ret
  exact ⟨by rw [t0,t1] <;> rfl,by go_grown⟩
theorem qvx (places procs:Int) (w:World):
  Calls Tryz.prog 251 #[.iface 292 endV,.int .i64 places,.int .i64 procs] w fun e w'=>e=.returned (.bool (true))/\Below w.heap.size w w':=by
 go_enter Tryz.func251,Tryz.ntmps251
 go_wp2_with (first|(go_at_call 255;refine (qcz _ _).mono ?_;rintro e w' ⟨rfl,rfl⟩)|(go_at_call 233;refine (isNum_any _ _).mono ?_;rintro e w' ⟨rfl,rfl⟩)|(go_at_call 76;refine (isBelow_any _ _ _).mono ?_;rintro e w' ⟨rfl,rfl⟩))
 go_ret
 exact ⟨rfl,by go_grown⟩
def qa1 (o1 r1 a1 b1 n1 o2 r2 a2 b2 n2:Int):Bool:=o1 == o2 && (r1 == r2 && (a1 == a2 && (b1 == b2 && n1 == n2)))
theorem qb4 (o1 r1 a1 b1 n1 o2 r2 a2 b2 n2:Int) (w:World):(binOp .eql 115 (insV o1 r1 a1 b1 n1) (insV o2 r2 a2 b2 n2)).run Tryz.prog w=.ok (.bool (qa1 o1 r1 a1 b1 n1 o2 r2 a2 b2 n2)) w:=by
 rw [run_eql_struct,show (10000:Nat)=9998+1+1 from rfl,run_equalIn_agg w (9998+1) 115 _ _ (by kernel_rfl) (by kernel_rfl)]
 simp only [qa1]
 by_cases h1:o1=o2 <;> by_cases h2:r1=r2 <;> by_cases h3:a1=a2 <;> by_cases h4:b1=b2 <;> by_cases h5:n1=n2 <;> simp [go_sem,h1,h2,h3,h4,h5]
theorem qjs {w w1:World} {o:Obj} (h1:Below (w.alloc o).heap.size (w.alloc o) w1):Below w.heap.size w w1.drew:=by
 have h0:Below w.heap.size w (w.alloc o):=(Below.refl _ _).alloc (Nat.le_refl _) _
 have hs:w.heap.size<=(w.alloc o).heap.size:=by simp
 exact (h0.trans (h1.mono hs)).drew
theorem qa8 {w w1 w2:World} {o:Obj} (h1:Below (w.alloc o).heap.size (w.alloc o) w1) (h2:Below w1.drew.heap.size w1.drew w2):Below w.heap.size w w2:=by
 have h0:Below w.heap.size w (w.alloc o):=(Below.refl _ _).alloc (Nat.le_refl _) _
 have hs:w.heap.size<=(w.alloc o).heap.size:=by simp
 exact (h0.trans (h1.mono hs)).drew.trans (h2.mono (zP hs h1.size))
theorem qbg {w w1 w2 w3:World} {o:Obj} (h1:Below (w.alloc o).heap.size (w.alloc o) w1) (h2:Below w1.drew.heap.size w1.drew w2) (h3:Below w2.heap.size w2 w3):Below w.heap.size w w3:=
 qa8 h1 (h2.trans (h3.mono h2.size))
