import Derived.Test.YteggedobbojgoaaGreatDoorBf1
namespace Go.Proofs.YteggedobbojgoaaGreatDoor
set_option maxHeartbeats 1000000
open Go.RowKit
abbrev insV (op r a b n:Int):Value:=.agg #[.int .i64 op,.int .i64 r,.int .i64 a,.int .i64 b,.int .i64 n]
abbrev setV (r n:Int):Value:=.agg #[.int .i64 r,.int .i64 n]
theorem qez (r a b n:Int) (w:World):
  Calls Tryz.prog 126 #[insV 1 r a b n] w fun e w'=>e=.returned (.iface 176 (setV r n))/\Bw w w':=by
 go_enter Tryz.func126,Tryz.ntmps126
 go_wp2
 go_ret
 exact ⟨rfl,by go_grown⟩
theorem qqs (r n:Int) (w:World):
  Calls Tryz.prog 196 #[setV r n] w fun e w'=>e=.returned (insV 1 r 0 0 n)/\Bw w w':=by
 go_enter Tryz.func196,Tryz.ntmps196
 go_wp2
 refine bodyPost_ret (v:=insV 1 r 0 0 n) (by simp [results,Tryz.results196,go_sem]) rfl ⟨rfl,?_⟩
 go_grown
abbrev qir (op r a b:Int):Value:=.agg #[.int .i64 op,.int .i64 r,.int .i64 a,.int .i64 b]
theorem qfm (r a b n:Int) (w:World):
  Calls Tryz.prog 126 #[insV 2 r a b n] w fun e w'=>e=.returned (.iface 178 (qir 2 r a b))/\Bw w w':=by
 go_enter Tryz.func126,Tryz.ntmps126
 go_wp2
 go_ret
 exact ⟨rfl,by go_grown⟩
theorem qfn (r a b n:Int) (w:World):
  Calls Tryz.prog 126 #[insV 3 r a b n] w fun e w'=>e=.returned (.iface 178 (qir 3 r a b))/\Bw w w':=by
 go_enter Tryz.func126,Tryz.ntmps126
 go_wp2
 go_ret
 exact ⟨rfl,by go_grown⟩
theorem qfo (r a b n:Int) (w:World):
  Calls Tryz.prog 126 #[insV 4 r a b n] w fun e w'=>e=.returned (.iface 178 (qir 4 r a b))/\Bw w w':=by
 go_enter Tryz.func126,Tryz.ntmps126
 go_wp2
 go_ret
 exact ⟨rfl,by go_grown⟩
theorem qfp (r a b n:Int) (w:World):
  Calls Tryz.prog 126 #[insV 5 r a b n] w fun e w'=>e=.returned (.iface 178 (qir 5 r a b))/\Bw w w':=by
 go_enter Tryz.func126,Tryz.ntmps126
 go_wp2
 go_ret
 exact ⟨rfl,by go_grown⟩
theorem qnz (op r a b:Int) (w:World):
  Calls Tryz.prog 197 #[qir op r a b] w fun e w'=>e=.returned (insV op r a b 0)/\Bw w w':=by
 go_enter Tryz.func197,Tryz.ntmps197
 go_wp2
 refine bodyPost_ret (v:=insV op r a b 0) (by simp [results,Tryz.results197,go_sem]) rfl ⟨rfl,?_⟩
 go_grown
abbrev qrr (n a:Int):Value:=.agg #[.int .i64 n,.int .i64 a]
theorem qd2 (r a b n:Int) (w:World):
  Calls Tryz.prog 126 #[insV 6 r a b n] w fun e w'=>e=.returned (.iface 180 (qrr n a))/\Bw w w':=by
 go_enter Tryz.func126,Tryz.ntmps126
 go_wp2
 go_ret
 exact ⟨rfl,by go_grown⟩
theorem qn1 (n a:Int) (w:World):
  Calls Tryz.prog 198 #[qrr n a] w fun e w'=>e=.returned (insV 6 0 a 0 n)/\Bw w w':=by
 go_enter Tryz.func198,Tryz.ntmps198
 go_wp2
 refine bodyPost_ret (v:=insV 6 0 a 0 n) (by simp [results,Tryz.results198,go_sem]) rfl ⟨rfl,?_⟩
 go_grown
abbrev qr0 (r n:Int):Value:=.agg #[.int .i64 r,.int .i64 n]
theorem qd3 (r a b n:Int) (w:World):
  Calls Tryz.prog 126 #[insV 7 r a b n] w fun e w'=>e=.returned (.iface 182 (qr0 r n))/\Bw w w':=by
 go_enter Tryz.func126,Tryz.ntmps126
 go_wp2
 go_ret
 exact ⟨rfl,by go_grown⟩
theorem qn2 (r n:Int) (w:World):
  Calls Tryz.prog 199 #[qr0 r n] w fun e w'=>e=.returned (insV 7 r 0 0 n)/\Bw w w':=by
 go_enter Tryz.func199,Tryz.ntmps199
 go_wp2
 refine bodyPost_ret (v:=insV 7 r 0 0 n) (by simp [results,Tryz.results199,go_sem]) rfl ⟨rfl,?_⟩
 go_grown
abbrev qlf (a:Int):Value:=.agg #[.int .i64 a]
theorem qdo (r a b n:Int) (w:World):
  Calls Tryz.prog 126 #[insV 8 r a b n] w fun e w'=>e=.returned (.iface 184 (qlf a))/\Bw w w':=by
 go_enter Tryz.func126,Tryz.ntmps126
 go_wp2
 go_ret
 exact ⟨rfl,by go_grown⟩
theorem qk4 (a:Int) (w:World):
  Calls Tryz.prog 200 #[qlf a] w fun e w'=>e=.returned (insV 8 0 a 0 0)/\Bw w w':=by
 go_enter Tryz.func200,Tryz.ntmps200
 go_wp2
 refine bodyPost_ret (v:=insV 8 0 a 0 0) (by simp [results,Tryz.results200,go_sem]) rfl ⟨rfl,?_⟩
 go_grown
abbrev qqv (n:Int):Value:=.agg #[.int .i64 n]
theorem qd1 (r a b n:Int) (w:World):
  Calls Tryz.prog 126 #[insV 9 r a b n] w fun e w'=>e=.returned (.iface 186 (qqv n))/\Bw w w':=by
 go_enter Tryz.func126,Tryz.ntmps126
 go_wp2
 go_ret
 exact ⟨rfl,by go_grown⟩
theorem qn0 (n:Int) (w:World):
  Calls Tryz.prog 201 #[qqv n] w fun e w'=>e=.returned (insV 9 0 0 0 n)/\Bw w w':=by
 go_enter Tryz.func201,Tryz.ntmps201
 go_wp2
 refine bodyPost_ret (v:=insV 9 0 0 0 n) (by simp [results,Tryz.results201,go_sem]) rfl ⟨rfl,?_⟩
 go_grown
abbrev qsc (a n:Int):Value:=.agg #[.int .i64 a,.int .i64 n]
theorem qd4 (r a b n:Int) (w:World):
  Calls Tryz.prog 126 #[insV 10 r a b n] w fun e w'=>e=.returned (.iface 188 (qsc a n))/\Bw w w':=by
 go_enter Tryz.func126,Tryz.ntmps126
 go_wp2
 go_ret
 exact ⟨rfl,by go_grown⟩
theorem qn3 (a n:Int) (w:World):
  Calls Tryz.prog 202 #[qsc a n] w fun e w'=>e=.returned (insV 10 0 a 0 n)/\Bw w w':=by
 go_enter Tryz.func202,Tryz.ntmps202
 go_wp2
 refine bodyPost_ret (v:=insV 10 0 a 0 n) (by simp [results,Tryz.results202,go_sem]) rfl ⟨rfl,?_⟩
 go_grown
abbrev endV:Value:=.agg #[]
theorem qey (r a b n:Int) (w:World):
  Calls Tryz.prog 126 #[insV 11 r a b n] w fun e w'=>e=.returned (.iface 190 endV)/\Bw w w':=by
 go_enter Tryz.func126,Tryz.ntmps126
 go_wp2
 go_ret
 exact ⟨rfl,by go_grown⟩
theorem qqr (w:World):
  Calls Tryz.prog 203 #[endV] w fun e w'=>e=.returned (insV 11 0 0 0 0)/\Bw w w':=by
 go_enter Tryz.func203,Tryz.ntmps203
 go_wp2
 refine bodyPost_ret (v:=insV 11 0 0 0 0) (by simp [results,Tryz.results203,go_sem]) rfl ⟨rfl,?_⟩
 go_grown
theorem qgs (op r a b n:Int) (w:World) (h1:2<=op) (h2:op<=5):
  Calls Tryz.prog 126 #[insV op r a b n] w fun e w'=>e=.returned (.iface 178 (qir op r a b))/\Bw w w':=by
 have h:op=2\/op=3\/op=4\/op=5:=by omega
 rcases h with rfl | rfl | rfl | rfl
 ·exact qfm r a b n w
 ·exact qfn r a b n w
 ·exact qfo r a b n w
 ·exact qfp r a b n w
theorem qle (op r a b n:Int) (w:World) (h:op<1\/11<op):
  Calls Tryz.prog 126 #[insV op r a b n] w fun e w'=>e=.returned .nilIface/\Bw w w':=by
 have h1:(op == 1)=false:=by simp;omega
 have h2:(op == 2)=false:=by simp;omega
 have h3:(op == 3)=false:=by simp;omega
 have h4:(op == 4)=false:=by simp;omega
 have h5:(op == 5)=false:=by simp;omega
 have h6:(op == 6)=false:=by simp;omega
 have h7:(op == 7)=false:=by simp;omega
 have h8:(op == 8)=false:=by simp;omega
 have h9:(op == 9)=false:=by simp;omega
 have h10:(op == 10)=false:=by simp;omega
 have h11:(op == 11)=false:=by simp;omega
 clear h
 go_enter Tryz.func126,Tryz.ntmps126
 go_wp2
 go_ret
 exact ⟨rfl,by go_grown⟩
theorem qo0 (v:Value) (w:World):(Instr.typeAssert (.iface 176 v) 155 176 true).run Tryz.prog w=.ok (.tuple #[v,.bool true]) w:=by kernel_rfl
theorem ql9 (v:Value) (w:World):(Instr.typeAssert (.iface 176 v) 155 178 true).run Tryz.prog w=.ok (.tuple #[.agg #[.int .i64 0,.int .i64 0,.int .i64 0,.int .i64 0],.bool false]) w:=by kernel_rfl
theorem qg9 (v:Value) (w:World):(Instr.typeAssert (.iface 176 v) 155 180 true).run Tryz.prog w=.ok (.tuple #[.agg #[.int .i64 0,.int .i64 0],.bool false]) w:=by kernel_rfl
theorem qha (v:Value) (w:World):(Instr.typeAssert (.iface 176 v) 155 182 true).run Tryz.prog w=.ok (.tuple #[.agg #[.int .i64 0,.int .i64 0],.bool false]) w:=by kernel_rfl
theorem qgk (v:Value) (w:World):(Instr.typeAssert (.iface 176 v) 155 184 true).run Tryz.prog w=.ok (.tuple #[.agg #[.int .i64 0],.bool false]) w:=by kernel_rfl
theorem qma (v:Value) (w:World):(Instr.typeAssert (.iface 176 v) 155 186 true).run Tryz.prog w=.ok (.tuple #[.agg #[.int .i64 0],.bool false]) w:=by kernel_rfl
theorem qmb (v:Value) (w:World):(Instr.typeAssert (.iface 176 v) 155 188 true).run Tryz.prog w=.ok (.tuple #[.agg #[.int .i64 0,.int .i64 0],.bool false]) w:=by kernel_rfl
theorem qoz (v:Value) (w:World):(Instr.typeAssert (.iface 176 v) 155 190 true).run Tryz.prog w=.ok (.tuple #[.agg #[],.bool false]) w:=by kernel_rfl
theorem ql1 (v:Value) (w:World):(Instr.typeAssert (.iface 178 v) 155 176 true).run Tryz.prog w=.ok (.tuple #[.agg #[.int .i64 0,.int .i64 0],.bool false]) w:=by kernel_rfl
theorem qj8 (v:Value) (w:World):(Instr.typeAssert (.iface 178 v) 155 178 true).run Tryz.prog w=.ok (.tuple #[v,.bool true]) w:=by kernel_rfl
theorem qge (v:Value) (w:World):(Instr.typeAssert (.iface 178 v) 155 180 true).run Tryz.prog w=.ok (.tuple #[.agg #[.int .i64 0,.int .i64 0],.bool false]) w:=by kernel_rfl
theorem qgf (v:Value) (w:World):(Instr.typeAssert (.iface 178 v) 155 182 true).run Tryz.prog w=.ok (.tuple #[.agg #[.int .i64 0,.int .i64 0],.bool false]) w:=by kernel_rfl
theorem qe2 (v:Value) (w:World):(Instr.typeAssert (.iface 178 v) 155 184 true).run Tryz.prog w=.ok (.tuple #[.agg #[.int .i64 0],.bool false]) w:=by kernel_rfl
theorem qj9 (v:Value) (w:World):(Instr.typeAssert (.iface 178 v) 155 186 true).run Tryz.prog w=.ok (.tuple #[.agg #[.int .i64 0],.bool false]) w:=by kernel_rfl
theorem qka (v:Value) (w:World):(Instr.typeAssert (.iface 178 v) 155 188 true).run Tryz.prog w=.ok (.tuple #[.agg #[.int .i64 0,.int .i64 0],.bool false]) w:=by kernel_rfl
theorem ql0 (v:Value) (w:World):(Instr.typeAssert (.iface 178 v) 155 190 true).run Tryz.prog w=.ok (.tuple #[.agg #[],.bool false]) w:=by kernel_rfl
theorem ql8 (v:Value) (w:World):(Instr.typeAssert (.iface 180 v) 155 176 true).run Tryz.prog w=.ok (.tuple #[.agg #[.int .i64 0,.int .i64 0],.bool false]) w:=by kernel_rfl
theorem qkg (v:Value) (w:World):(Instr.typeAssert (.iface 180 v) 155 178 true).run Tryz.prog w=.ok (.tuple #[.agg #[.int .i64 0,.int .i64 0,.int .i64 0,.int .i64 0],.bool false]) w:=by kernel_rfl
theorem qgj (v:Value) (w:World):(Instr.typeAssert (.iface 180 v) 155 180 true).run Tryz.prog w=.ok (.tuple #[v,.bool true]) w:=by kernel_rfl
theorem qki (v:Value) (w:World):(Instr.typeAssert (.iface 180 v) 155 182 true).run Tryz.prog w=.ok (.tuple #[.agg #[.int .i64 0,.int .i64 0],.bool false]) w:=by kernel_rfl
theorem qio (v:Value) (w:World):(Instr.typeAssert (.iface 180 v) 155 184 true).run Tryz.prog w=.ok (.tuple #[.agg #[.int .i64 0],.bool false]) w:=by kernel_rfl
theorem qkh (v:Value) (w:World):(Instr.typeAssert (.iface 180 v) 155 186 true).run Tryz.prog w=.ok (.tuple #[.agg #[.int .i64 0],.bool false]) w:=by kernel_rfl
theorem qkj (v:Value) (w:World):(Instr.typeAssert (.iface 180 v) 155 188 true).run Tryz.prog w=.ok (.tuple #[.agg #[.int .i64 0,.int .i64 0],.bool false]) w:=by kernel_rfl
theorem ql7 (v:Value) (w:World):(Instr.typeAssert (.iface 180 v) 155 190 true).run Tryz.prog w=.ok (.tuple #[.agg #[],.bool false]) w:=by kernel_rfl
theorem qmd (v:Value) (w:World):(Instr.typeAssert (.iface 182 v) 155 176 true).run Tryz.prog w=.ok (.tuple #[.agg #[.int .i64 0,.int .i64 0],.bool false]) w:=by kernel_rfl
theorem qkk (v:Value) (w:World):(Instr.typeAssert (.iface 182 v) 155 178 true).run Tryz.prog w=.ok (.tuple #[.agg #[.int .i64 0,.int .i64 0,.int .i64 0,.int .i64 0],.bool false]) w:=by kernel_rfl
theorem qgl (v:Value) (w:World):(Instr.typeAssert (.iface 182 v) 155 180 true).run Tryz.prog w=.ok (.tuple #[.agg #[.int .i64 0,.int .i64 0],.bool false]) w:=by kernel_rfl
theorem qgm (v:Value) (w:World):(Instr.typeAssert (.iface 182 v) 155 182 true).run Tryz.prog w=.ok (.tuple #[v,.bool true]) w:=by kernel_rfl
theorem qip (v:Value) (w:World):(Instr.typeAssert (.iface 182 v) 155 184 true).run Tryz.prog w=.ok (.tuple #[.agg #[.int .i64 0],.bool false]) w:=by kernel_rfl
theorem qkl (v:Value) (w:World):(Instr.typeAssert (.iface 182 v) 155 186 true).run Tryz.prog w=.ok (.tuple #[.agg #[.int .i64 0],.bool false]) w:=by kernel_rfl
theorem qkm (v:Value) (w:World):(Instr.typeAssert (.iface 182 v) 155 188 true).run Tryz.prog w=.ok (.tuple #[.agg #[.int .i64 0,.int .i64 0],.bool false]) w:=by kernel_rfl
theorem qmc (v:Value) (w:World):(Instr.typeAssert (.iface 182 v) 155 190 true).run Tryz.prog w=.ok (.tuple #[.agg #[],.bool false]) w:=by kernel_rfl
theorem qkf (v:Value) (w:World):(Instr.typeAssert (.iface 184 v) 155 176 true).run Tryz.prog w=.ok (.tuple #[.agg #[.int .i64 0,.int .i64 0],.bool false]) w:=by kernel_rfl
theorem qil (v:Value) (w:World):(Instr.typeAssert (.iface 184 v) 155 178 true).run Tryz.prog w=.ok (.tuple #[.agg #[.int .i64 0,.int .i64 0,.int .i64 0,.int .i64 0],.bool false]) w:=by kernel_rfl
theorem qe4 (v:Value) (w:World):(Instr.typeAssert (.iface 184 v) 155 180 true).run Tryz.prog w=.ok (.tuple #[.agg #[.int .i64 0,.int .i64 0],.bool false]) w:=by kernel_rfl
theorem qe5 (v:Value) (w:World):(Instr.typeAssert (.iface 184 v) 155 182 true).run Tryz.prog w=.ok (.tuple #[.agg #[.int .i64 0,.int .i64 0],.bool false]) w:=by kernel_rfl
theorem qen (v:Value) (w:World):(Instr.typeAssert (.iface 184 v) 155 184 true).run Tryz.prog w=.ok (.tuple #[v,.bool true]) w:=by kernel_rfl
theorem qim (v:Value) (w:World):(Instr.typeAssert (.iface 184 v) 155 186 true).run Tryz.prog w=.ok (.tuple #[.agg #[.int .i64 0],.bool false]) w:=by kernel_rfl
theorem qin (v:Value) (w:World):(Instr.typeAssert (.iface 184 v) 155 188 true).run Tryz.prog w=.ok (.tuple #[.agg #[.int .i64 0,.int .i64 0],.bool false]) w:=by kernel_rfl
theorem qke (v:Value) (w:World):(Instr.typeAssert (.iface 184 v) 155 190 true).run Tryz.prog w=.ok (.tuple #[.agg #[],.bool false]) w:=by kernel_rfl
theorem ql6 (v:Value) (w:World):(Instr.typeAssert (.iface 186 v) 155 176 true).run Tryz.prog w=.ok (.tuple #[.agg #[.int .i64 0,.int .i64 0],.bool false]) w:=by kernel_rfl
theorem qkb (v:Value) (w:World):(Instr.typeAssert (.iface 186 v) 155 178 true).run Tryz.prog w=.ok (.tuple #[.agg #[.int .i64 0,.int .i64 0,.int .i64 0,.int .i64 0],.bool false]) w:=by kernel_rfl
theorem qgh (v:Value) (w:World):(Instr.typeAssert (.iface 186 v) 155 180 true).run Tryz.prog w=.ok (.tuple #[.agg #[.int .i64 0,.int .i64 0],.bool false]) w:=by kernel_rfl
theorem qgi (v:Value) (w:World):(Instr.typeAssert (.iface 186 v) 155 182 true).run Tryz.prog w=.ok (.tuple #[.agg #[.int .i64 0,.int .i64 0],.bool false]) w:=by kernel_rfl
theorem qe3 (v:Value) (w:World):(Instr.typeAssert (.iface 186 v) 155 184 true).run Tryz.prog w=.ok (.tuple #[.agg #[.int .i64 0],.bool false]) w:=by kernel_rfl
theorem qkc (v:Value) (w:World):(Instr.typeAssert (.iface 186 v) 155 186 true).run Tryz.prog w=.ok (.tuple #[v,.bool true]) w:=by kernel_rfl
theorem qkd (v:Value) (w:World):(Instr.typeAssert (.iface 186 v) 155 188 true).run Tryz.prog w=.ok (.tuple #[.agg #[.int .i64 0,.int .i64 0],.bool false]) w:=by kernel_rfl
theorem ql5 (v:Value) (w:World):(Instr.typeAssert (.iface 186 v) 155 190 true).run Tryz.prog w=.ok (.tuple #[.agg #[],.bool false]) w:=by kernel_rfl
theorem qmf (v:Value) (w:World):(Instr.typeAssert (.iface 188 v) 155 176 true).run Tryz.prog w=.ok (.tuple #[.agg #[.int .i64 0,.int .i64 0],.bool false]) w:=by kernel_rfl
theorem qkn (v:Value) (w:World):(Instr.typeAssert (.iface 188 v) 155 178 true).run Tryz.prog w=.ok (.tuple #[.agg #[.int .i64 0,.int .i64 0,.int .i64 0,.int .i64 0],.bool false]) w:=by kernel_rfl
theorem qgn (v:Value) (w:World):(Instr.typeAssert (.iface 188 v) 155 180 true).run Tryz.prog w=.ok (.tuple #[.agg #[.int .i64 0,.int .i64 0],.bool false]) w:=by kernel_rfl
theorem qgo (v:Value) (w:World):(Instr.typeAssert (.iface 188 v) 155 182 true).run Tryz.prog w=.ok (.tuple #[.agg #[.int .i64 0,.int .i64 0],.bool false]) w:=by kernel_rfl
theorem qe6 (v:Value) (w:World):(Instr.typeAssert (.iface 188 v) 155 184 true).run Tryz.prog w=.ok (.tuple #[.agg #[.int .i64 0],.bool false]) w:=by kernel_rfl
theorem qko (v:Value) (w:World):(Instr.typeAssert (.iface 188 v) 155 186 true).run Tryz.prog w=.ok (.tuple #[.agg #[.int .i64 0],.bool false]) w:=by kernel_rfl
theorem qkp (v:Value) (w:World):(Instr.typeAssert (.iface 188 v) 155 188 true).run Tryz.prog w=.ok (.tuple #[v,.bool true]) w:=by kernel_rfl
theorem qme (v:Value) (w:World):(Instr.typeAssert (.iface 188 v) 155 190 true).run Tryz.prog w=.ok (.tuple #[.agg #[],.bool false]) w:=by kernel_rfl
theorem qoy (v:Value) (w:World):(Instr.typeAssert (.iface 190 v) 155 176 true).run Tryz.prog w=.ok (.tuple #[.agg #[.int .i64 0,.int .i64 0],.bool false]) w:=by kernel_rfl
theorem ql2 (v:Value) (w:World):(Instr.typeAssert (.iface 190 v) 155 178 true).run Tryz.prog w=.ok (.tuple #[.agg #[.int .i64 0,.int .i64 0,.int .i64 0,.int .i64 0],.bool false]) w:=by kernel_rfl
theorem qg7 (v:Value) (w:World):(Instr.typeAssert (.iface 190 v) 155 180 true).run Tryz.prog w=.ok (.tuple #[.agg #[.int .i64 0,.int .i64 0],.bool false]) w:=by kernel_rfl
theorem qg8 (v:Value) (w:World):(Instr.typeAssert (.iface 190 v) 155 182 true).run Tryz.prog w=.ok (.tuple #[.agg #[.int .i64 0,.int .i64 0],.bool false]) w:=by kernel_rfl
theorem qgg (v:Value) (w:World):(Instr.typeAssert (.iface 190 v) 155 184 true).run Tryz.prog w=.ok (.tuple #[.agg #[.int .i64 0],.bool false]) w:=by kernel_rfl
theorem ql3 (v:Value) (w:World):(Instr.typeAssert (.iface 190 v) 155 186 true).run Tryz.prog w=.ok (.tuple #[.agg #[.int .i64 0],.bool false]) w:=by kernel_rfl
theorem ql4 (v:Value) (w:World):(Instr.typeAssert (.iface 190 v) 155 188 true).run Tryz.prog w=.ok (.tuple #[.agg #[.int .i64 0,.int .i64 0],.bool false]) w:=by kernel_rfl
theorem qox (v:Value) (w:World):(Instr.typeAssert (.iface 190 v) 155 190 true).run Tryz.prog w=.ok (.tuple #[v,.bool true]) w:=by kernel_rfl
attribute [local go_sem] qo0 ql9 qg9 qha qgk qma qmb qoz ql1 qj8 qge qgf qe2 qj9 qka ql0 ql8 qkg qgj qki qio qkh qkj ql7 qmd qkk qgl qgm qip qkl qkm qmc qkf qil qe4 qe5 qen qim qin qke ql6 qkb qgh qgi qe3 qkc qkd ql5 qmf qkn qgn qgo qe6 qko qkp qme qoy ql2 qg7 qg8 qgg ql3 ql4 qox
theorem qsr (r n places procs:Int) (w:World):
  Calls Tryz.prog 127 #[.iface 176 (setV r n),.int .i64 places,.int .i64 procs] w fun e w'=>e=.returned (.bool (belB r 4 && inB n (-1000000000) 1000000000))/\Bw w w':=by
 rcases zK (belB r 4) with t0 | t0 <;> rcases zK (inB n (-1000000000) 1000000000) with t1 | t1
 all_goals
  go_enter Tryz.func127,Tryz.ntmps127
  go_wp2_with (first|(go_at_call 137;refine (qch _ _).mono ?_;rintro e w' ⟨rfl,rfl⟩)|(go_at_call 128;refine (isNum_any _ _).mono ?_;rintro e w' ⟨rfl,rfl⟩)|(go_at_call 24;refine (isBelow_any _ _ _).mono ?_;rintro e w' ⟨rfl,rfl⟩))
  go_ret
  exact ⟨by rw [t0,t1] <;> rfl,by go_grown⟩
theorem qqi (op r a b places procs:Int) (w:World):
  Calls Tryz.prog 127 #[.iface 178 (qir op r a b),.int .i64 places,.int .i64 procs] w fun e w'=>e=.returned (.bool (belB r 4 && belB a 4 && belB b 4))/\Bw w w':=by
 rcases zK (belB r 4) with t0 | t0 <;> rcases zK (belB a 4) with t1 | t1 <;> rcases zK (belB b 4) with t2 | t2
 all_goals
  go_enter Tryz.func127,Tryz.ntmps127
  go_wp2_with (first|(go_at_call 137;refine (qch _ _).mono ?_;rintro e w' ⟨rfl,rfl⟩)|(go_at_call 128;refine (isNum_any _ _).mono ?_;rintro e w' ⟨rfl,rfl⟩)|(go_at_call 24;refine (isBelow_any _ _ _).mono ?_;rintro e w' ⟨rfl,rfl⟩))
  go_ret
  exact ⟨by rw [t0,t1,t2] <;> rfl,by go_grown⟩
theorem qqk (n a places procs:Int) (w:World):
  Calls Tryz.prog 127 #[.iface 180 (qrr n a),.int .i64 places,.int .i64 procs] w fun e w'=>e=.returned (.bool (belB a 4 && belB n procs))/\Bw w w':=by
 rcases zK (belB a 4) with t0 | t0 <;> rcases zK (belB n procs) with t1 | t1
 all_goals
  go_enter Tryz.func127,Tryz.ntmps127
  go_wp2_with (first|(go_at_call 137;refine (qch _ _).mono ?_;rintro e w' ⟨rfl,rfl⟩)|(go_at_call 128;refine (isNum_any _ _).mono ?_;rintro e w' ⟨rfl,rfl⟩)|(go_at_call 24;refine (isBelow_any _ _ _).mono ?_;rintro e w' ⟨rfl,rfl⟩))
  go_ret
  exact ⟨by rw [t0,t1] <;> rfl,by go_grown⟩
theorem qql (r n places procs:Int) (w:World):
  Calls Tryz.prog 127 #[.iface 182 (qr0 r n),.int .i64 places,.int .i64 procs] w fun e w'=>e=.returned (.bool (belB r 4 && ((n == 9) || belB n procs)))/\Bw w w':=by
 rcases zK (belB r 4) with t0 | t0 <;> rcases zK ((n == 9)) with t1 | t1 <;> rcases zK (belB n procs) with t2 | t2
 all_goals
  go_enter Tryz.func127,Tryz.ntmps127
  go_wp2_with (first|(go_at_call 137;refine (qch _ _).mono ?_;rintro e w' ⟨rfl,rfl⟩)|(go_at_call 128;refine (isNum_any _ _).mono ?_;rintro e w' ⟨rfl,rfl⟩)|(go_at_call 24;refine (isBelow_any _ _ _).mono ?_;rintro e w' ⟨rfl,rfl⟩))
  go_ret
  exact ⟨by rw [t0,t1,t2] <;> rfl,by go_grown⟩
theorem qo8 (a places procs:Int) (w:World):
  Calls Tryz.prog 127 #[.iface 184 (qlf a),.int .i64 places,.int .i64 procs] w fun e w'=>e=.returned (.bool (belB a 4))/\Bw w w':=by
 go_enter Tryz.func127,Tryz.ntmps127
 go_wp2_with (first|(go_at_call 137;refine (qch _ _).mono ?_;rintro e w' ⟨rfl,rfl⟩)|(go_at_call 128;refine (isNum_any _ _).mono ?_;rintro e w' ⟨rfl,rfl⟩)|(go_at_call 24;refine (isBelow_any _ _ _).mono ?_;rintro e w' ⟨rfl,rfl⟩))
 go_ret
 exact ⟨rfl,by go_grown⟩
theorem qqj (n places procs:Int) (w:World):
  Calls Tryz.prog 127 #[.iface 186 (qqv n),.int .i64 places,.int .i64 procs] w fun e w'=>e=.returned (.bool (belB n places))/\Bw w w':=by
 go_enter Tryz.func127,Tryz.ntmps127
 go_wp2_with (first|(go_at_call 137;refine (qch _ _).mono ?_;rintro e w' ⟨rfl,rfl⟩)|(go_at_call 128;refine (isNum_any _ _).mono ?_;rintro e w' ⟨rfl,rfl⟩)|(go_at_call 24;refine (isBelow_any _ _ _).mono ?_;rintro e w' ⟨rfl,rfl⟩))
 go_ret
 exact ⟨rfl,by go_grown⟩
theorem qqm (a n places procs:Int) (w:World):
  Calls Tryz.prog 127 #[.iface 188 (qsc a n),.int .i64 places,.int .i64 procs] w fun e w'=>e=.returned (.bool (belB a 4 && belB n places))/\Bw w w':=by
 rcases zK (belB a 4) with t0 | t0 <;> rcases zK (belB n places) with t1 | t1
 all_goals
  go_enter Tryz.func127,Tryz.ntmps127
  go_wp2_with (first|(go_at_call 137;refine (qch _ _).mono ?_;rintro e w' ⟨rfl,rfl⟩)|(go_at_call 128;refine (isNum_any _ _).mono ?_;rintro e w' ⟨rfl,rfl⟩)|(go_at_call 24;refine (isBelow_any _ _ _).mono ?_;rintro e w' ⟨rfl,rfl⟩))
  go_ret
  exact ⟨by rw [t0,t1] <;> rfl,by go_grown⟩
theorem qsq (places procs:Int) (w:World):
  Calls Tryz.prog 127 #[.iface 190 endV,.int .i64 places,.int .i64 procs] w fun e w'=>e=.returned (.bool (true))/\Bw w w':=by
 go_enter Tryz.func127,Tryz.ntmps127
 go_wp2_with (first|(go_at_call 137;refine (qch _ _).mono ?_;rintro e w' ⟨rfl,rfl⟩)|(go_at_call 128;refine (isNum_any _ _).mono ?_;rintro e w' ⟨rfl,rfl⟩)|(go_at_call 24;refine (isBelow_any _ _ _).mono ?_;rintro e w' ⟨rfl,rfl⟩))
 go_ret
 exact ⟨rfl,by go_grown⟩
def qa3 (o1 r1 a1 b1 n1 o2 r2 a2 b2 n2:Int):Bool:=o1 == o2 && (r1 == r2 && (a1 == a2 && (b1 == b2 && n1 == n2)))
theorem qbz (o1 r1 a1 b1 n1 o2 r2 a2 b2 n2:Int) (w:World):(binOp .eql 81 (insV o1 r1 a1 b1 n1) (insV o2 r2 a2 b2 n2)).run Tryz.prog w=.ok (.bool (qa3 o1 r1 a1 b1 n1 o2 r2 a2 b2 n2)) w:=by
 rw [run_eql_struct,show (10000:Nat)=9998+1+1 from rfl,run_equalIn_agg w (9998+1) 81 _ _ (by kernel_rfl) (by kernel_rfl)]
 simp only [qa3]
 by_cases h1:o1=o2 <;> by_cases h2:r1=r2 <;> by_cases h3:a1=a2 <;> by_cases h4:b1=b2 <;> by_cases h5:n1=n2 <;> simp [go_sem,h1,h2,h3,h4,h5]
theorem qh6 {w w1:World} {o:Obj} (h1:Below (w.alloc o).heap.size (w.alloc o) w1):Bw w w1.drew:=by
 have h0:Bw w (w.alloc o):=(Below.refl _ _).alloc (Nat.le_refl _) _
 have hs:w.heap.size<=(w.alloc o).heap.size:=by simp
 exact (h0.trans (h1.mono hs)).drew
theorem qa8 {w w1 w2:World} {o:Obj} (h1:Below (w.alloc o).heap.size (w.alloc o) w1) (h2:Below w1.drew.heap.size w1.drew w2):Bw w w2:=by
 have h0:Bw w (w.alloc o):=(Below.refl _ _).alloc (Nat.le_refl _) _
 have hs:w.heap.size<=(w.alloc o).heap.size:=by simp
 exact (h0.trans (h1.mono hs)).drew.trans (h2.mono (zP hs h1.size))
theorem qbd {w w1 w2 w3:World} {o:Obj} (h1:Below (w.alloc o).heap.size (w.alloc o) w1) (h2:Below w1.drew.heap.size w1.drew w2) (h3:Bw w2 w3):Bw w w3:=
 qa8 h1 (h2.trans (h3.mono h2.size))
