import Derived.Test.YtnfdnnmddadmkaaGreatDoorOg1
namespace Go.Proofs.YtnfdnnmddadmkaaGreatDoor
set_option maxHeartbeats 1000000
open Go.RowKit
abbrev insV (op r a b n:Int):Value:=.agg #[.int .i64 op,.int .i64 r,.int .i64 a,.int .i64 b,.int .i64 n]
abbrev setV (r n:Int):Value:=.agg #[.int .i64 r,.int .i64 n]
theorem qeu (r a b n:Int) (w:World):
  Calls Tryz.prog 205 #[insV 1 r a b n] w fun e w'=>e=.returned (.iface 297 (setV r n))/\Below w.heap.size w w':=by
 go_enter Tryz.func205,Tryz.ntmps205
 go_wp2
 go_ret
 exact ⟨rfl,by go_grown⟩
theorem qqb (r n:Int) (w:World):
  Calls Tryz.prog 285 #[setV r n] w fun e w'=>e=.returned (insV 1 r 0 0 n)/\Below w.heap.size w w':=by
 go_enter Tryz.func285,Tryz.ntmps285
 go_wp2
 refine bodyPost_ret (v:=insV 1 r 0 0 n) (by simp [results,Tryz.results285,go_sem]) rfl ⟨rfl,?_⟩
 go_grown
abbrev qil (op r a b:Int):Value:=.agg #[.int .i64 op,.int .i64 r,.int .i64 a,.int .i64 b]
theorem qfe (r a b n:Int) (w:World):
  Calls Tryz.prog 205 #[insV 2 r a b n] w fun e w'=>e=.returned (.iface 299 (qil 2 r a b))/\Below w.heap.size w w':=by
 go_enter Tryz.func205,Tryz.ntmps205
 go_wp2
 go_ret
 exact ⟨rfl,by go_grown⟩
theorem qff (r a b n:Int) (w:World):
  Calls Tryz.prog 205 #[insV 3 r a b n] w fun e w'=>e=.returned (.iface 299 (qil 3 r a b))/\Below w.heap.size w w':=by
 go_enter Tryz.func205,Tryz.ntmps205
 go_wp2
 go_ret
 exact ⟨rfl,by go_grown⟩
theorem qfg (r a b n:Int) (w:World):
  Calls Tryz.prog 205 #[insV 4 r a b n] w fun e w'=>e=.returned (.iface 299 (qil 4 r a b))/\Below w.heap.size w w':=by
 go_enter Tryz.func205,Tryz.ntmps205
 go_wp2
 go_ret
 exact ⟨rfl,by go_grown⟩
theorem qfh (r a b n:Int) (w:World):
  Calls Tryz.prog 205 #[insV 5 r a b n] w fun e w'=>e=.returned (.iface 299 (qil 5 r a b))/\Below w.heap.size w w':=by
 go_enter Tryz.func205,Tryz.ntmps205
 go_wp2
 go_ret
 exact ⟨rfl,by go_grown⟩
theorem qnq (op r a b:Int) (w:World):
  Calls Tryz.prog 286 #[qil op r a b] w fun e w'=>e=.returned (insV op r a b 0)/\Below w.heap.size w w':=by
 go_enter Tryz.func286,Tryz.ntmps286
 go_wp2
 refine bodyPost_ret (v:=insV op r a b 0) (by simp [results,Tryz.results286,go_sem]) rfl ⟨rfl,?_⟩
 go_grown
abbrev qq5 (n a:Int):Value:=.agg #[.int .i64 n,.int .i64 a]
theorem qdx (r a b n:Int) (w:World):
  Calls Tryz.prog 205 #[insV 6 r a b n] w fun e w'=>e=.returned (.iface 291 (qq5 n a))/\Below w.heap.size w w':=by
 go_enter Tryz.func205,Tryz.ntmps205
 go_wp2
 go_ret
 exact ⟨rfl,by go_grown⟩
theorem qns (n a:Int) (w:World):
  Calls Tryz.prog 282 #[qq5 n a] w fun e w'=>e=.returned (insV 6 0 a 0 n)/\Below w.heap.size w w':=by
 go_enter Tryz.func282,Tryz.ntmps282
 go_wp2
 refine bodyPost_ret (v:=insV 6 0 a 0 n) (by simp [results,Tryz.results282,go_sem]) rfl ⟨rfl,?_⟩
 go_grown
abbrev qrh (r n:Int):Value:=.agg #[.int .i64 r,.int .i64 n]
theorem qdy (r a b n:Int) (w:World):
  Calls Tryz.prog 205 #[insV 7 r a b n] w fun e w'=>e=.returned (.iface 293 (qrh r n))/\Below w.heap.size w w':=by
 go_enter Tryz.func205,Tryz.ntmps205
 go_wp2
 go_ret
 exact ⟨rfl,by go_grown⟩
theorem qnt (r n:Int) (w:World):
  Calls Tryz.prog 283 #[qrh r n] w fun e w'=>e=.returned (insV 7 r 0 0 n)/\Below w.heap.size w w':=by
 go_enter Tryz.func283,Tryz.ntmps283
 go_wp2
 refine bodyPost_ret (v:=insV 7 r 0 0 n) (by simp [results,Tryz.results283,go_sem]) rfl ⟨rfl,?_⟩
 go_grown
abbrev qk8 (a:Int):Value:=.agg #[.int .i64 a]
theorem qdl (r a b n:Int) (w:World):
  Calls Tryz.prog 205 #[insV 8 r a b n] w fun e w'=>e=.returned (.iface 295 (qk8 a))/\Below w.heap.size w w':=by
 go_enter Tryz.func205,Tryz.ntmps205
 go_wp2
 go_ret
 exact ⟨rfl,by go_grown⟩
theorem qkx (a:Int) (w:World):
  Calls Tryz.prog 284 #[qk8 a] w fun e w'=>e=.returned (insV 8 0 a 0 0)/\Below w.heap.size w w':=by
 go_enter Tryz.func284,Tryz.ntmps284
 go_wp2
 refine bodyPost_ret (v:=insV 8 0 a 0 0) (by simp [results,Tryz.results284,go_sem]) rfl ⟨rfl,?_⟩
 go_grown
abbrev qqe (n:Int):Value:=.agg #[.int .i64 n]
theorem qdw (r a b n:Int) (w:World):
  Calls Tryz.prog 205 #[insV 9 r a b n] w fun e w'=>e=.returned (.iface 301 (qqe n))/\Below w.heap.size w w':=by
 go_enter Tryz.func205,Tryz.ntmps205
 go_wp2
 go_ret
 exact ⟨rfl,by go_grown⟩
theorem qnr (n:Int) (w:World):
  Calls Tryz.prog 287 #[qqe n] w fun e w'=>e=.returned (insV 9 0 0 0 n)/\Below w.heap.size w w':=by
 go_enter Tryz.func287,Tryz.ntmps287
 go_wp2
 refine bodyPost_ret (v:=insV 9 0 0 0 n) (by simp [results,Tryz.results287,go_sem]) rfl ⟨rfl,?_⟩
 go_grown
abbrev qrr (a n:Int):Value:=.agg #[.int .i64 a,.int .i64 n]
theorem qdz (r a b n:Int) (w:World):
  Calls Tryz.prog 205 #[insV 10 r a b n] w fun e w'=>e=.returned (.iface 303 (qrr a n))/\Below w.heap.size w w':=by
 go_enter Tryz.func205,Tryz.ntmps205
 go_wp2
 go_ret
 exact ⟨rfl,by go_grown⟩
theorem qnu (a n:Int) (w:World):
  Calls Tryz.prog 288 #[qrr a n] w fun e w'=>e=.returned (insV 10 0 a 0 n)/\Below w.heap.size w w':=by
 go_enter Tryz.func288,Tryz.ntmps288
 go_wp2
 refine bodyPost_ret (v:=insV 10 0 a 0 n) (by simp [results,Tryz.results288,go_sem]) rfl ⟨rfl,?_⟩
 go_grown
abbrev endV:Value:=.agg #[]
theorem qet (r a b n:Int) (w:World):
  Calls Tryz.prog 205 #[insV 11 r a b n] w fun e w'=>e=.returned (.iface 304 endV)/\Below w.heap.size w w':=by
 go_enter Tryz.func205,Tryz.ntmps205
 go_wp2
 go_ret
 exact ⟨rfl,by go_grown⟩
theorem qqa (w:World):
  Calls Tryz.prog 289 #[endV] w fun e w'=>e=.returned (insV 11 0 0 0 0)/\Below w.heap.size w w':=by
 go_enter Tryz.func289,Tryz.ntmps289
 go_wp2
 refine bodyPost_ret (v:=insV 11 0 0 0 0) (by simp [results,Tryz.results289,go_sem]) rfl ⟨rfl,?_⟩
 go_grown
theorem qgl (op r a b n:Int) (w:World) (h1:2<=op) (h2:op<=5):
  Calls Tryz.prog 205 #[insV op r a b n] w fun e w'=>e=.returned (.iface 299 (qil op r a b))/\Below w.heap.size w w':=by
 have h:op=2\/op=3\/op=4\/op=5:=by omega
 rcases h with rfl | rfl | rfl | rfl
 ·exact qfe r a b n w
 ·exact qff r a b n w
 ·exact qfg r a b n w
 ·exact qfh r a b n w
theorem qk7 (op r a b n:Int) (w:World) (h:op<1\/11<op):
  Calls Tryz.prog 205 #[insV op r a b n] w fun e w'=>e=.returned .nilIface/\Below w.heap.size w w':=by
 have h1:(op == 1)=false:=by simp;omega
 have h2:(op == 2)=false:=by simp;omega
 have h3:(op == 3)=false:=by simp;omega
 have h4:(op == 4)=false:=by simp;omega
 have h5:(op == 5)=false:=by simp;omega
 have h6:(op == 6)=false:=by simp;omega
 have h7:(op == 7)=false:=by simp;omega
 have h8:(op == 8)=false:=by simp;omega
 have h9:(op == 9)=false:=by simp;omega
 have h10:(op == 10)=false:=by simp;omega
 have h11:(op == 11)=false:=by simp;omega
 clear h
 go_enter Tryz.func205,Tryz.ntmps205
 go_wp2
 go_ret
 exact ⟨rfl,by go_grown⟩
theorem qol (v:Value) (w:World):(Instr.typeAssert (.iface 297 v) 252 297 true).run Tryz.prog w=.ok (.tuple #[v,.bool true]) w:=by kernel_rfl
theorem ql2 (v:Value) (w:World):(Instr.typeAssert (.iface 297 v) 252 299 true).run Tryz.prog w=.ok (.tuple #[.agg #[.int .i64 0,.int .i64 0,.int .i64 0,.int .i64 0],.bool false]) w:=by kernel_rfl
theorem qg5 (v:Value) (w:World):(Instr.typeAssert (.iface 297 v) 252 291 true).run Tryz.prog w=.ok (.tuple #[.agg #[.int .i64 0,.int .i64 0],.bool false]) w:=by kernel_rfl
theorem qg6 (v:Value) (w:World):(Instr.typeAssert (.iface 297 v) 252 293 true).run Tryz.prog w=.ok (.tuple #[.agg #[.int .i64 0,.int .i64 0],.bool false]) w:=by kernel_rfl
theorem qgc (v:Value) (w:World):(Instr.typeAssert (.iface 297 v) 252 295 true).run Tryz.prog w=.ok (.tuple #[.agg #[.int .i64 0],.bool false]) w:=by kernel_rfl
theorem ql3 (v:Value) (w:World):(Instr.typeAssert (.iface 297 v) 252 301 true).run Tryz.prog w=.ok (.tuple #[.agg #[.int .i64 0],.bool false]) w:=by kernel_rfl
theorem ql4 (v:Value) (w:World):(Instr.typeAssert (.iface 297 v) 252 303 true).run Tryz.prog w=.ok (.tuple #[.agg #[.int .i64 0,.int .i64 0],.bool false]) w:=by kernel_rfl
theorem qok (v:Value) (w:World):(Instr.typeAssert (.iface 297 v) 252 304 true).run Tryz.prog w=.ok (.tuple #[.agg #[],.bool false]) w:=by kernel_rfl
theorem qlu (v:Value) (w:World):(Instr.typeAssert (.iface 299 v) 252 297 true).run Tryz.prog w=.ok (.tuple #[.agg #[.int .i64 0,.int .i64 0],.bool false]) w:=by kernel_rfl
theorem qjz (v:Value) (w:World):(Instr.typeAssert (.iface 299 v) 252 299 true).run Tryz.prog w=.ok (.tuple #[v,.bool true]) w:=by kernel_rfl
theorem qf6 (v:Value) (w:World):(Instr.typeAssert (.iface 299 v) 252 291 true).run Tryz.prog w=.ok (.tuple #[.agg #[.int .i64 0,.int .i64 0],.bool false]) w:=by kernel_rfl
theorem qf7 (v:Value) (w:World):(Instr.typeAssert (.iface 299 v) 252 293 true).run Tryz.prog w=.ok (.tuple #[.agg #[.int .i64 0,.int .i64 0],.bool false]) w:=by kernel_rfl
theorem qey (v:Value) (w:World):(Instr.typeAssert (.iface 299 v) 252 295 true).run Tryz.prog w=.ok (.tuple #[.agg #[.int .i64 0],.bool false]) w:=by kernel_rfl
theorem qj0 (v:Value) (w:World):(Instr.typeAssert (.iface 299 v) 252 301 true).run Tryz.prog w=.ok (.tuple #[.agg #[.int .i64 0],.bool false]) w:=by kernel_rfl
theorem qj1 (v:Value) (w:World):(Instr.typeAssert (.iface 299 v) 252 303 true).run Tryz.prog w=.ok (.tuple #[.agg #[.int .i64 0,.int .i64 0],.bool false]) w:=by kernel_rfl
theorem qlt (v:Value) (w:World):(Instr.typeAssert (.iface 299 v) 252 304 true).run Tryz.prog w=.ok (.tuple #[.agg #[],.bool false]) w:=by kernel_rfl
theorem ql1 (v:Value) (w:World):(Instr.typeAssert (.iface 291 v) 252 297 true).run Tryz.prog w=.ok (.tuple #[.agg #[.int .i64 0,.int .i64 0],.bool false]) w:=by kernel_rfl
theorem qj7 (v:Value) (w:World):(Instr.typeAssert (.iface 291 v) 252 299 true).run Tryz.prog w=.ok (.tuple #[.agg #[.int .i64 0,.int .i64 0,.int .i64 0,.int .i64 0],.bool false]) w:=by kernel_rfl
theorem qgb (v:Value) (w:World):(Instr.typeAssert (.iface 291 v) 252 291 true).run Tryz.prog w=.ok (.tuple #[v,.bool true]) w:=by kernel_rfl
theorem qj9 (v:Value) (w:World):(Instr.typeAssert (.iface 291 v) 252 293 true).run Tryz.prog w=.ok (.tuple #[.agg #[.int .i64 0,.int .i64 0],.bool false]) w:=by kernel_rfl
theorem qij (v:Value) (w:World):(Instr.typeAssert (.iface 291 v) 252 295 true).run Tryz.prog w=.ok (.tuple #[.agg #[.int .i64 0],.bool false]) w:=by kernel_rfl
theorem qj8 (v:Value) (w:World):(Instr.typeAssert (.iface 291 v) 252 301 true).run Tryz.prog w=.ok (.tuple #[.agg #[.int .i64 0],.bool false]) w:=by kernel_rfl
theorem qka (v:Value) (w:World):(Instr.typeAssert (.iface 291 v) 252 303 true).run Tryz.prog w=.ok (.tuple #[.agg #[.int .i64 0,.int .i64 0],.bool false]) w:=by kernel_rfl
theorem ql0 (v:Value) (w:World):(Instr.typeAssert (.iface 291 v) 252 304 true).run Tryz.prog w=.ok (.tuple #[.agg #[],.bool false]) w:=by kernel_rfl
theorem ql6 (v:Value) (w:World):(Instr.typeAssert (.iface 293 v) 252 297 true).run Tryz.prog w=.ok (.tuple #[.agg #[.int .i64 0,.int .i64 0],.bool false]) w:=by kernel_rfl
theorem qkb (v:Value) (w:World):(Instr.typeAssert (.iface 293 v) 252 299 true).run Tryz.prog w=.ok (.tuple #[.agg #[.int .i64 0,.int .i64 0,.int .i64 0,.int .i64 0],.bool false]) w:=by kernel_rfl
theorem qgd (v:Value) (w:World):(Instr.typeAssert (.iface 293 v) 252 291 true).run Tryz.prog w=.ok (.tuple #[.agg #[.int .i64 0,.int .i64 0],.bool false]) w:=by kernel_rfl
theorem qge (v:Value) (w:World):(Instr.typeAssert (.iface 293 v) 252 293 true).run Tryz.prog w=.ok (.tuple #[v,.bool true]) w:=by kernel_rfl
theorem qik (v:Value) (w:World):(Instr.typeAssert (.iface 293 v) 252 295 true).run Tryz.prog w=.ok (.tuple #[.agg #[.int .i64 0],.bool false]) w:=by kernel_rfl
theorem qkc (v:Value) (w:World):(Instr.typeAssert (.iface 293 v) 252 301 true).run Tryz.prog w=.ok (.tuple #[.agg #[.int .i64 0],.bool false]) w:=by kernel_rfl
theorem qkd (v:Value) (w:World):(Instr.typeAssert (.iface 293 v) 252 303 true).run Tryz.prog w=.ok (.tuple #[.agg #[.int .i64 0,.int .i64 0],.bool false]) w:=by kernel_rfl
theorem ql5 (v:Value) (w:World):(Instr.typeAssert (.iface 293 v) 252 304 true).run Tryz.prog w=.ok (.tuple #[.agg #[],.bool false]) w:=by kernel_rfl
theorem qj6 (v:Value) (w:World):(Instr.typeAssert (.iface 295 v) 252 297 true).run Tryz.prog w=.ok (.tuple #[.agg #[.int .i64 0,.int .i64 0],.bool false]) w:=by kernel_rfl
theorem qig (v:Value) (w:World):(Instr.typeAssert (.iface 295 v) 252 299 true).run Tryz.prog w=.ok (.tuple #[.agg #[.int .i64 0,.int .i64 0,.int .i64 0,.int .i64 0],.bool false]) w:=by kernel_rfl
theorem qe0 (v:Value) (w:World):(Instr.typeAssert (.iface 295 v) 252 291 true).run Tryz.prog w=.ok (.tuple #[.agg #[.int .i64 0,.int .i64 0],.bool false]) w:=by kernel_rfl
theorem qe1 (v:Value) (w:World):(Instr.typeAssert (.iface 295 v) 252 293 true).run Tryz.prog w=.ok (.tuple #[.agg #[.int .i64 0,.int .i64 0],.bool false]) w:=by kernel_rfl
theorem qel (v:Value) (w:World):(Instr.typeAssert (.iface 295 v) 252 295 true).run Tryz.prog w=.ok (.tuple #[v,.bool true]) w:=by kernel_rfl
theorem qih (v:Value) (w:World):(Instr.typeAssert (.iface 295 v) 252 301 true).run Tryz.prog w=.ok (.tuple #[.agg #[.int .i64 0],.bool false]) w:=by kernel_rfl
theorem qii (v:Value) (w:World):(Instr.typeAssert (.iface 295 v) 252 303 true).run Tryz.prog w=.ok (.tuple #[.agg #[.int .i64 0,.int .i64 0],.bool false]) w:=by kernel_rfl
theorem qj5 (v:Value) (w:World):(Instr.typeAssert (.iface 295 v) 252 304 true).run Tryz.prog w=.ok (.tuple #[.agg #[],.bool false]) w:=by kernel_rfl
theorem qlz (v:Value) (w:World):(Instr.typeAssert (.iface 301 v) 252 297 true).run Tryz.prog w=.ok (.tuple #[.agg #[.int .i64 0,.int .i64 0],.bool false]) w:=by kernel_rfl
theorem qj2 (v:Value) (w:World):(Instr.typeAssert (.iface 301 v) 252 299 true).run Tryz.prog w=.ok (.tuple #[.agg #[.int .i64 0,.int .i64 0,.int .i64 0,.int .i64 0],.bool false]) w:=by kernel_rfl
theorem qf9 (v:Value) (w:World):(Instr.typeAssert (.iface 301 v) 252 291 true).run Tryz.prog w=.ok (.tuple #[.agg #[.int .i64 0,.int .i64 0],.bool false]) w:=by kernel_rfl
theorem qga (v:Value) (w:World):(Instr.typeAssert (.iface 301 v) 252 293 true).run Tryz.prog w=.ok (.tuple #[.agg #[.int .i64 0,.int .i64 0],.bool false]) w:=by kernel_rfl
theorem qez (v:Value) (w:World):(Instr.typeAssert (.iface 301 v) 252 295 true).run Tryz.prog w=.ok (.tuple #[.agg #[.int .i64 0],.bool false]) w:=by kernel_rfl
theorem qj3 (v:Value) (w:World):(Instr.typeAssert (.iface 301 v) 252 301 true).run Tryz.prog w=.ok (.tuple #[v,.bool true]) w:=by kernel_rfl
theorem qj4 (v:Value) (w:World):(Instr.typeAssert (.iface 301 v) 252 303 true).run Tryz.prog w=.ok (.tuple #[.agg #[.int .i64 0,.int .i64 0],.bool false]) w:=by kernel_rfl
theorem qly (v:Value) (w:World):(Instr.typeAssert (.iface 301 v) 252 304 true).run Tryz.prog w=.ok (.tuple #[.agg #[],.bool false]) w:=by kernel_rfl
theorem ql8 (v:Value) (w:World):(Instr.typeAssert (.iface 303 v) 252 297 true).run Tryz.prog w=.ok (.tuple #[.agg #[.int .i64 0,.int .i64 0],.bool false]) w:=by kernel_rfl
theorem qke (v:Value) (w:World):(Instr.typeAssert (.iface 303 v) 252 299 true).run Tryz.prog w=.ok (.tuple #[.agg #[.int .i64 0,.int .i64 0,.int .i64 0,.int .i64 0],.bool false]) w:=by kernel_rfl
theorem qgf (v:Value) (w:World):(Instr.typeAssert (.iface 303 v) 252 291 true).run Tryz.prog w=.ok (.tuple #[.agg #[.int .i64 0,.int .i64 0],.bool false]) w:=by kernel_rfl
theorem qgg (v:Value) (w:World):(Instr.typeAssert (.iface 303 v) 252 293 true).run Tryz.prog w=.ok (.tuple #[.agg #[.int .i64 0,.int .i64 0],.bool false]) w:=by kernel_rfl
theorem qe2 (v:Value) (w:World):(Instr.typeAssert (.iface 303 v) 252 295 true).run Tryz.prog w=.ok (.tuple #[.agg #[.int .i64 0],.bool false]) w:=by kernel_rfl
theorem qkf (v:Value) (w:World):(Instr.typeAssert (.iface 303 v) 252 301 true).run Tryz.prog w=.ok (.tuple #[.agg #[.int .i64 0],.bool false]) w:=by kernel_rfl
theorem qkg (v:Value) (w:World):(Instr.typeAssert (.iface 303 v) 252 303 true).run Tryz.prog w=.ok (.tuple #[v,.bool true]) w:=by kernel_rfl
theorem ql7 (v:Value) (w:World):(Instr.typeAssert (.iface 303 v) 252 304 true).run Tryz.prog w=.ok (.tuple #[.agg #[],.bool false]) w:=by kernel_rfl
theorem qoj (v:Value) (w:World):(Instr.typeAssert (.iface 304 v) 252 297 true).run Tryz.prog w=.ok (.tuple #[.agg #[.int .i64 0,.int .i64 0],.bool false]) w:=by kernel_rfl
theorem qlv (v:Value) (w:World):(Instr.typeAssert (.iface 304 v) 252 299 true).run Tryz.prog w=.ok (.tuple #[.agg #[.int .i64 0,.int .i64 0,.int .i64 0,.int .i64 0],.bool false]) w:=by kernel_rfl
theorem qg3 (v:Value) (w:World):(Instr.typeAssert (.iface 304 v) 252 291 true).run Tryz.prog w=.ok (.tuple #[.agg #[.int .i64 0,.int .i64 0],.bool false]) w:=by kernel_rfl
theorem qg4 (v:Value) (w:World):(Instr.typeAssert (.iface 304 v) 252 293 true).run Tryz.prog w=.ok (.tuple #[.agg #[.int .i64 0,.int .i64 0],.bool false]) w:=by kernel_rfl
theorem qf8 (v:Value) (w:World):(Instr.typeAssert (.iface 304 v) 252 295 true).run Tryz.prog w=.ok (.tuple #[.agg #[.int .i64 0],.bool false]) w:=by kernel_rfl
theorem qlw (v:Value) (w:World):(Instr.typeAssert (.iface 304 v) 252 301 true).run Tryz.prog w=.ok (.tuple #[.agg #[.int .i64 0],.bool false]) w:=by kernel_rfl
theorem qlx (v:Value) (w:World):(Instr.typeAssert (.iface 304 v) 252 303 true).run Tryz.prog w=.ok (.tuple #[.agg #[.int .i64 0,.int .i64 0],.bool false]) w:=by kernel_rfl
theorem qoi (v:Value) (w:World):(Instr.typeAssert (.iface 304 v) 252 304 true).run Tryz.prog w=.ok (.tuple #[v,.bool true]) w:=by kernel_rfl
attribute [local go_sem] qol ql2 qg5 qg6 qgc ql3 ql4 qok qlu qjz qf6 qf7 qey qj0 qj1 qlt ql1 qj7 qgb qj9 qij qj8 qka ql0 ql6 qkb qgd qge qik qkc qkd ql5 qj6 qig qe0 qe1 qel qih qii qj5 qlz qj2 qf9 qga qez qj3 qj4 qly ql8 qke qgf qgg qe2 qkf qkg ql7 qoj qlv qg3 qg4 qf8 qlw qlx qoi
theorem qr7 (r n places procs:Int) (w:World):
  Calls Tryz.prog 218 #[.iface 297 (setV r n),.int .i64 places,.int .i64 procs] w fun e w'=>e=.returned (.bool (belB r 4 && inB n (-1000000000) 1000000000))/\Below w.heap.size w w':=by
 rcases zK (belB r 4) with t0 | t0 <;> rcases zK (inB n (-1000000000) 1000000000) with t1 | t1
 all_goals
  go_enter Tryz.func218,Tryz.ntmps218
  go_wp2_with (first|(go_at_call 248;refine (qcr _ _).mono ?_;rintro e w' ⟨rfl,rfl⟩)|(go_at_call 224;refine (isNum_any _ _).mono ?_;rintro e w' ⟨rfl,rfl⟩)|(go_at_call 38;refine (isBelow_any _ _ _).mono ?_;rintro e w' ⟨rfl,rfl⟩))
  go_ret
  exact ⟨by rw [t0,t1] <;> rfl,by go_grown⟩
theorem qp0 (op r a b places procs:Int) (w:World):
  Calls Tryz.prog 218 #[.iface 299 (qil op r a b),.int .i64 places,.int .i64 procs] w fun e w'=>e=.returned (.bool (belB r 4 && belB a 4 && belB b 4))/\Below w.heap.size w w':=by
 rcases zK (belB r 4) with t0 | t0 <;> rcases zK (belB a 4) with t1 | t1 <;> rcases zK (belB b 4) with t2 | t2
 all_goals
  go_enter Tryz.func218,Tryz.ntmps218
  go_wp2_with (first|(go_at_call 248;refine (qcr _ _).mono ?_;rintro e w' ⟨rfl,rfl⟩)|(go_at_call 224;refine (isNum_any _ _).mono ?_;rintro e w' ⟨rfl,rfl⟩)|(go_at_call 38;refine (isBelow_any _ _ _).mono ?_;rintro e w' ⟨rfl,rfl⟩))
  go_ret
  exact ⟨by rw [t0,t1,t2] <;> rfl,by go_grown⟩
theorem qp2 (n a places procs:Int) (w:World):
  Calls Tryz.prog 218 #[.iface 291 (qq5 n a),.int .i64 places,.int .i64 procs] w fun e w'=>e=.returned (.bool (belB a 4 && belB n procs))/\Below w.heap.size w w':=by
 rcases zK (belB a 4) with t0 | t0 <;> rcases zK (belB n procs) with t1 | t1
 all_goals
  go_enter Tryz.func218,Tryz.ntmps218
  go_wp2_with (first|(go_at_call 248;refine (qcr _ _).mono ?_;rintro e w' ⟨rfl,rfl⟩)|(go_at_call 224;refine (isNum_any _ _).mono ?_;rintro e w' ⟨rfl,rfl⟩)|(go_at_call 38;refine (isBelow_any _ _ _).mono ?_;rintro e w' ⟨rfl,rfl⟩))
  go_ret
  exact ⟨by rw [t0,t1] <;> rfl,by go_grown⟩
theorem qp3 (r n places procs:Int) (w:World):
  Calls Tryz.prog 218 #[.iface 293 (qrh r n),.int .i64 places,.int .i64 procs] w fun e w'=>e=.returned (.bool (belB r 4 && ((n == 9) || belB n procs)))/\Below w.heap.size w w':=by
 rcases zK (belB r 4) with t0 | t0 <;> rcases zK ((n == 9)) with t1 | t1 <;> rcases zK (belB n procs) with t2 | t2
 all_goals
  go_enter Tryz.func218,Tryz.ntmps218
  go_wp2_with (first|(go_at_call 248;refine (qcr _ _).mono ?_;rintro e w' ⟨rfl,rfl⟩)|(go_at_call 224;refine (isNum_any _ _).mono ?_;rintro e w' ⟨rfl,rfl⟩)|(go_at_call 38;refine (isBelow_any _ _ _).mono ?_;rintro e w' ⟨rfl,rfl⟩))
  go_ret
  exact ⟨by rw [t0,t1,t2] <;> rfl,by go_grown⟩
theorem qor (a places procs:Int) (w:World):
  Calls Tryz.prog 218 #[.iface 295 (qk8 a),.int .i64 places,.int .i64 procs] w fun e w'=>e=.returned (.bool (belB a 4))/\Below w.heap.size w w':=by
 go_enter Tryz.func218,Tryz.ntmps218
 go_wp2_with (first|(go_at_call 248;refine (qcr _ _).mono ?_;rintro e w' ⟨rfl,rfl⟩)|(go_at_call 224;refine (isNum_any _ _).mono ?_;rintro e w' ⟨rfl,rfl⟩)|(go_at_call 38;refine (isBelow_any _ _ _).mono ?_;rintro e w' ⟨rfl,rfl⟩))
 go_ret
 exact ⟨rfl,by go_grown⟩
theorem qp1 (n places procs:Int) (w:World):
  Calls Tryz.prog 218 #[.iface 301 (qqe n),.int .i64 places,.int .i64 procs] w fun e w'=>e=.returned (.bool (belB n places))/\Below w.heap.size w w':=by
 go_enter Tryz.func218,Tryz.ntmps218
 go_wp2_with (first|(go_at_call 248;refine (qcr _ _).mono ?_;rintro e w' ⟨rfl,rfl⟩)|(go_at_call 224;refine (isNum_any _ _).mono ?_;rintro e w' ⟨rfl,rfl⟩)|(go_at_call 38;refine (isBelow_any _ _ _).mono ?_;rintro e w' ⟨rfl,rfl⟩))
 go_ret
 exact ⟨rfl,by go_grown⟩
theorem qp4 (a n places procs:Int) (w:World):
  Calls Tryz.prog 218 #[.iface 303 (qrr a n),.int .i64 places,.int .i64 procs] w fun e w'=>e=.returned (.bool (belB a 4 && belB n places))/\Below w.heap.size w w':=by
 rcases zK (belB a 4) with t0 | t0 <;> rcases zK (belB n places) with t1 | t1
 all_goals
  go_enter Tryz.func218,Tryz.ntmps218
  go_wp2_with (first|(go_at_call 248;refine (qcr _ _).mono ?_;rintro e w' ⟨rfl,rfl⟩)|(go_at_call 224;refine (isNum_any _ _).mono ?_;rintro e w' ⟨rfl,rfl⟩)|(go_at_call 38;refine (isBelow_any _ _ _).mono ?_;rintro e w' ⟨rfl,rfl⟩))
  go_ret
  exact ⟨by rw [t0,t1] <;> rfl,by go_grown⟩
theorem qr6 (places procs:Int) (w:World):
  Calls Tryz.prog 218 #[.iface 304 endV,.int .i64 places,.int .i64 procs] w fun e w'=>e=.returned (.bool (true))/\Below w.heap.size w w':=by
 go_enter Tryz.func218,Tryz.ntmps218
 go_wp2_with (first|(go_at_call 248;refine (qcr _ _).mono ?_;rintro e w' ⟨rfl,rfl⟩)|(go_at_call 224;refine (isNum_any _ _).mono ?_;rintro e w' ⟨rfl,rfl⟩)|(go_at_call 38;refine (isBelow_any _ _ _).mono ?_;rintro e w' ⟨rfl,rfl⟩))
 go_ret
 exact ⟨rfl,by go_grown⟩
def qa2 (o1 r1 a1 b1 n1 o2 r2 a2 b2 n2:Int):Bool:=o1 == o2 && (r1 == r2 && (a1 == a2 && (b1 == b2 && n1 == n2)))
theorem qb1 (o1 r1 a1 b1 n1 o2 r2 a2 b2 n2:Int) (w:World):(binOp .eql 123 (insV o1 r1 a1 b1 n1) (insV o2 r2 a2 b2 n2)).run Tryz.prog w=.ok (.bool (qa2 o1 r1 a1 b1 n1 o2 r2 a2 b2 n2)) w:=by
 rw [run_eql_struct,show (10000:Nat)=9998+1+1 from rfl,run_equalIn_agg w (9998+1) 123 _ _ (by kernel_rfl) (by kernel_rfl)]
 simp only [qa2]
 by_cases h1:o1=o2 <;> by_cases h2:r1=r2 <;> by_cases h3:a1=a2 <;> by_cases h4:b1=b2 <;> by_cases h5:n1=n2 <;> simp [go_sem,h1,h2,h3,h4,h5]
theorem qhu {w w1:World} {o:Obj} (h1:Below (w.alloc o).heap.size (w.alloc o) w1):Below w.heap.size w w1.drew:=by
 have h0:Below w.heap.size w (w.alloc o):=(Below.refl _ _).alloc (Nat.le_refl _) _
 have hs:w.heap.size<=(w.alloc o).heap.size:=by simp
 exact (h0.trans (h1.mono hs)).drew
theorem qa8 {w w1 w2:World} {o:Obj} (h1:Below (w.alloc o).heap.size (w.alloc o) w1) (h2:Below w1.drew.heap.size w1.drew w2):Below w.heap.size w w2:=by
 have h0:Below w.heap.size w (w.alloc o):=(Below.refl _ _).alloc (Nat.le_refl _) _
 have hs:w.heap.size<=(w.alloc o).heap.size:=by simp
 exact (h0.trans (h1.mono hs)).drew.trans (h2.mono (zP hs h1.size))
theorem qbe {w w1 w2 w3:World} {o:Obj} (h1:Below (w.alloc o).heap.size (w.alloc o) w1) (h2:Below w1.drew.heap.size w1.drew w2) (h3:Below w2.heap.size w2 w3):Below w.heap.size w w3:=
 qa8 h1 (h2.trans (h3.mono h2.size))
