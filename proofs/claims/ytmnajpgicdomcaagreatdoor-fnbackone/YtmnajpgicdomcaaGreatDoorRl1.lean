import Derived.Test.YtmnajpgicdomcaaGreatDoorRl0
import Derived.WalkKit
import Derived.WalkSpells
import Derived.WalkLawsBesides
import Derived.Handy
namespace Go.Proofs.YtmnajpgicdomcaaGreatDoor
set_option maxHeartbeats 1000000
open Go.RowKit
def inB (x lo hi:Int):Bool:=decide (lo<=x/\x<=hi)
def belB (x n:Int):Bool:=decide (0<=x/\x<n)
theorem l1In_any (x lo hi:Int) (w:World):
  Calls Tryz.prog 29 #[.int .i64 x,.int .i64 lo,.int .i64 hi] w fun e w'=>e=.returned (.bool (inB x lo hi))/\w'=w:=by
 by_cases h1:lo<=x
 ·by_cases h2:x<=hi
  ·go_enter Tryz.func29,Tryz.ntmps29
   go_wp2;go_ret;exact ⟨by simp [inB,h1,h2],rfl⟩
  ·go_enter Tryz.func29,Tryz.ntmps29
   go_wp2;go_ret;exact ⟨by simp [inB,h1,h2],rfl⟩
 ·go_enter Tryz.func29,Tryz.ntmps29
  go_wp2;go_ret;exact ⟨by simp [inB];omega,rfl⟩
theorem isBelow_any (x n:Int) (w:World):
  Calls Tryz.prog 24 #[.int .i64 x,.int .i64 n] w fun e w'=>e=.returned (.bool (belB x n))/\w'=w:=by
 by_cases h1:0<=x
 ·by_cases h2:x<n
  ·go_enter Tryz.func24,Tryz.ntmps24
   go_wp2;go_ret;exact ⟨by simp [belB,h1,h2],rfl⟩
  ·go_enter Tryz.func24,Tryz.ntmps24
   go_wp2;go_ret;exact ⟨by simp [belB,h1,h2],rfl⟩
 ·go_enter Tryz.func24,Tryz.ntmps24
  go_wp2;go_ret;exact ⟨by simp [belB];omega,rfl⟩
theorem qcn (x:Int) (w:World):
  Calls Tryz.prog 133 #[.int .i64 x] w fun e w'=>e=.returned (.bool (belB x 4))/\w'=w:=by
 go_enter Tryz.func133,Tryz.ntmps133
 go_wp2_with (go_at_call 24;refine (isBelow_any _ _ _).mono ?_;rintro e w' ⟨rfl,rfl⟩)
 go_ret;exact ⟨rfl,rfl⟩
theorem isNum_any (x:Int) (w:World):
  Calls Tryz.prog 129 #[.int .i64 x] w fun e w'=>e=.returned (.bool (inB x (-1000000000) 1000000000))/\w'=w:=by
 by_cases h1:-1000000000<=x
 ·by_cases h2:x<=1000000000
  ·go_enter Tryz.func129,Tryz.ntmps129
   go_wp2;go_ret;exact ⟨by simp [inB,h1,h2],rfl⟩
  ·go_enter Tryz.func129,Tryz.ntmps129
   go_wp2;go_ret;exact ⟨by simp [inB,h1,h2],rfl⟩
 ·go_enter Tryz.func129,Tryz.ntmps129
  go_wp2;go_ret;exact ⟨by simp [inB];omega,rfl⟩
theorem l1Num_any (x:Int) (w:World):
  Calls Tryz.prog 66 #[.int .i64 x] w fun e w'=>e=.returned (.bool (inB x (-1000000000) 1000000000))/\w'=w:=by
 go_enter Tryz.func66,Tryz.ntmps66
 go_wp2_with (go_at_call 29;refine (l1In_any _ _ _ _).mono ?_;rintro e w' ⟨rfl,rfl⟩)
 go_ret;exact ⟨rfl,rfl⟩
abbrev insV (op r a b n:Int):Value:=.agg #[.int .i64 op,.int .i64 r,.int .i64 a,.int .i64 b,.int .i64 n]
abbrev setV (r n:Int):Value:=.agg #[.int .i64 r,.int .i64 n]
theorem qfb (r a b n:Int) (w:World):
  Calls Tryz.prog 121 #[insV 1 r a b n] w fun e w'=>e=.returned (.iface 165 (setV r n))/\Below w.heap.size w w':=by
 go_enter Tryz.func121,Tryz.ntmps121
 go_wp2;go_ret;exact ⟨rfl,by go_grown⟩
theorem qq5 (r n:Int) (w:World):
  Calls Tryz.prog 186 #[setV r n] w fun e w'=>e=.returned (insV 1 r 0 0 n)/\Below w.heap.size w w':=by
 go_enter Tryz.func186,Tryz.ntmps186
 go_wp2;refine bodyPost_ret (v:=insV 1 r 0 0 n) (by simp [results,Tryz.results186,go_sem]) rfl ⟨rfl,?_⟩
 go_grown
abbrev qjd (op r a b:Int):Value:=.agg #[.int .i64 op,.int .i64 r,.int .i64 a,.int .i64 b]
theorem qf1 (r a b n:Int) (w:World):
  Calls Tryz.prog 121 #[insV 2 r a b n] w fun e w'=>e=.returned (.iface 167 (qjd 2 r a b))/\Below w.heap.size w w':=by
 go_enter Tryz.func121,Tryz.ntmps121
 go_wp2;go_ret;exact ⟨rfl,by go_grown⟩
theorem qf2 (r a b n:Int) (w:World):
  Calls Tryz.prog 121 #[insV 3 r a b n] w fun e w'=>e=.returned (.iface 167 (qjd 3 r a b))/\Below w.heap.size w w':=by
 go_enter Tryz.func121,Tryz.ntmps121
 go_wp2;go_ret;exact ⟨rfl,by go_grown⟩
theorem qf3 (r a b n:Int) (w:World):
  Calls Tryz.prog 121 #[insV 4 r a b n] w fun e w'=>e=.returned (.iface 167 (qjd 4 r a b))/\Below w.heap.size w w':=by
 go_enter Tryz.func121,Tryz.ntmps121
 go_wp2;go_ret;exact ⟨rfl,by go_grown⟩
theorem qf4 (r a b n:Int) (w:World):
  Calls Tryz.prog 121 #[insV 5 r a b n] w fun e w'=>e=.returned (.iface 167 (qjd 5 r a b))/\Below w.heap.size w w':=by
 go_enter Tryz.func121,Tryz.ntmps121
 go_wp2;go_ret;exact ⟨rfl,by go_grown⟩
theorem qob (op r a b:Int) (w:World):
  Calls Tryz.prog 187 #[qjd op r a b] w fun e w'=>e=.returned (insV op r a b 0)/\Below w.heap.size w w':=by
 go_enter Tryz.func187,Tryz.ntmps187
 go_wp2;refine bodyPost_ret (v:=insV op r a b 0) (by simp [results,Tryz.results187,go_sem]) rfl ⟨rfl,?_⟩
 go_grown
abbrev qr5 (n a:Int):Value:=.agg #[.int .i64 n,.int .i64 a]
theorem qef (r a b n:Int) (w:World):
  Calls Tryz.prog 121 #[insV 6 r a b n] w fun e w'=>e=.returned (.iface 169 (qr5 n a))/\Below w.heap.size w w':=by
 go_enter Tryz.func121,Tryz.ntmps121
 go_wp2;go_ret;exact ⟨rfl,by go_grown⟩
theorem qoe (n a:Int) (w:World):
  Calls Tryz.prog 188 #[qr5 n a] w fun e w'=>e=.returned (insV 6 0 a 0 n)/\Below w.heap.size w w':=by
 go_enter Tryz.func188,Tryz.ntmps188
 go_wp2;refine bodyPost_ret (v:=insV 6 0 a 0 n) (by simp [results,Tryz.results188,go_sem]) rfl ⟨rfl,?_⟩
 go_grown
abbrev qse (r n:Int):Value:=.agg #[.int .i64 r,.int .i64 n]
theorem qeg (r a b n:Int) (w:World):
  Calls Tryz.prog 121 #[insV 7 r a b n] w fun e w'=>e=.returned (.iface 171 (qse r n))/\Below w.heap.size w w':=by
 go_enter Tryz.func121,Tryz.ntmps121
 go_wp2;go_ret;exact ⟨rfl,by go_grown⟩
theorem qof (r n:Int) (w:World):
  Calls Tryz.prog 189 #[qse r n] w fun e w'=>e=.returned (insV 7 r 0 0 n)/\Below w.heap.size w w':=by
 go_enter Tryz.func189,Tryz.ntmps189
 go_wp2;refine bodyPost_ret (v:=insV 7 r 0 0 n) (by simp [results,Tryz.results189,go_sem]) rfl ⟨rfl,?_⟩
 go_grown
abbrev qlr (a:Int):Value:=.agg #[.int .i64 a]
theorem qdz (r a b n:Int) (w:World):
  Calls Tryz.prog 121 #[insV 8 r a b n] w fun e w'=>e=.returned (.iface 173 (qlr a))/\Below w.heap.size w w':=by
 go_enter Tryz.func121,Tryz.ntmps121
 go_wp2;go_ret;exact ⟨rfl,by go_grown⟩
theorem qli (a:Int) (w:World):
  Calls Tryz.prog 190 #[qlr a] w fun e w'=>e=.returned (insV 8 0 a 0 0)/\Below w.heap.size w w':=by
 go_enter Tryz.func190,Tryz.ntmps190
 go_wp2;refine bodyPost_ret (v:=insV 8 0 a 0 0) (by simp [results,Tryz.results190,go_sem]) rfl ⟨rfl,?_⟩
 go_grown
abbrev qq8 (n:Int):Value:=.agg #[.int .i64 n]
theorem qee (r a b n:Int) (w:World):
  Calls Tryz.prog 121 #[insV 9 r a b n] w fun e w'=>e=.returned (.iface 175 (qq8 n))/\Below w.heap.size w w':=by
 go_enter Tryz.func121,Tryz.ntmps121
 go_wp2;go_ret;exact ⟨rfl,by go_grown⟩
theorem qod (n:Int) (w:World):
  Calls Tryz.prog 191 #[qq8 n] w fun e w'=>e=.returned (insV 9 0 0 0 n)/\Below w.heap.size w w':=by
 go_enter Tryz.func191,Tryz.ntmps191
 go_wp2;refine bodyPost_ret (v:=insV 9 0 0 0 n) (by simp [results,Tryz.results191,go_sem]) rfl ⟨rfl,?_⟩
 go_grown
abbrev qss (a n:Int):Value:=.agg #[.int .i64 a,.int .i64 n]
theorem qeh (r a b n:Int) (w:World):
  Calls Tryz.prog 121 #[insV 10 r a b n] w fun e w'=>e=.returned (.iface 177 (qss a n))/\Below w.heap.size w w':=by
 go_enter Tryz.func121,Tryz.ntmps121
 go_wp2;go_ret;exact ⟨rfl,by go_grown⟩
theorem qog (a n:Int) (w:World):
  Calls Tryz.prog 192 #[qss a n] w fun e w'=>e=.returned (insV 10 0 a 0 n)/\Below w.heap.size w w':=by
 go_enter Tryz.func192,Tryz.ntmps192
 go_wp2;refine bodyPost_ret (v:=insV 10 0 a 0 n) (by simp [results,Tryz.results192,go_sem]) rfl ⟨rfl,?_⟩
 go_grown
abbrev endV:Value:=.agg #[]
theorem qfa (r a b n:Int) (w:World):
  Calls Tryz.prog 121 #[insV 11 r a b n] w fun e w'=>e=.returned (.iface 179 endV)/\Below w.heap.size w w':=by
 go_enter Tryz.func121,Tryz.ntmps121
 go_wp2;go_ret;exact ⟨rfl,by go_grown⟩
theorem qq4 (w:World):
  Calls Tryz.prog 193 #[endV] w fun e w'=>e=.returned (insV 11 0 0 0 0)/\Below w.heap.size w w':=by
 go_enter Tryz.func193,Tryz.ntmps193
 go_wp2;refine bodyPost_ret (v:=insV 11 0 0 0 0) (by simp [results,Tryz.results193,go_sem]) rfl ⟨rfl,?_⟩
 go_grown
theorem qg8 (op r a b n:Int) (w:World) (h1:2<=op) (h2:op<=5):
  Calls Tryz.prog 121 #[insV op r a b n] w fun e w'=>e=.returned (.iface 167 (qjd op r a b))/\Below w.heap.size w w':=by
 have h:op=2\/op=3\/op=4\/op=5:=by omega
 rcases h with rfl | rfl | rfl | rfl
 ·exact qf1 r a b n w
 ·exact qf2 r a b n w
 ·exact qf3 r a b n w
 ·exact qf4 r a b n w
theorem qlq (op r a b n:Int) (w:World) (h:op<1\/11<op):
  Calls Tryz.prog 121 #[insV op r a b n] w fun e w'=>e=.returned .nilIface/\Below w.heap.size w w':=by
 have h1:(op == 1)=false:=by simp;omega
 have h2:(op == 2)=false:=by simp;omega
 have h3:(op == 3)=false:=by simp;omega
 have h4:(op == 4)=false:=by simp;omega
 have h5:(op == 5)=false:=by simp;omega
 have h6:(op == 6)=false:=by simp;omega
 have h7:(op == 7)=false:=by simp;omega
 have h8:(op == 8)=false:=by simp;omega
 have h9:(op == 9)=false:=by simp;omega
 have h10:(op == 10)=false:=by simp;omega
 have h11:(op == 11)=false:=by simp;omega
 clear h
 go_enter Tryz.func121,Tryz.ntmps121
 go_wp2;go_ret;exact ⟨rfl,by go_grown⟩
theorem qo9 (v:Value) (w:World):(Instr.typeAssert (.iface 165 v) 143 165 true).run Tryz.prog w=.ok (.tuple #[v,.bool true]) w:=by kernel_rfl
theorem qhs (v:Value) (w:World):(Instr.typeAssert (.iface 165 v) 143 169 true).run Tryz.prog w=.ok (.tuple #[.agg #[.int .i64 0,.int .i64 0],.bool false]) w:=by kernel_rfl
theorem qht (v:Value) (w:World):(Instr.typeAssert (.iface 165 v) 143 171 true).run Tryz.prog w=.ok (.tuple #[.agg #[.int .i64 0,.int .i64 0],.bool false]) w:=by kernel_rfl
theorem qg0 (v:Value) (w:World):(Instr.typeAssert (.iface 165 v) 143 173 true).run Tryz.prog w=.ok (.tuple #[.agg #[.int .i64 0],.bool false]) w:=by kernel_rfl
theorem qmd (v:Value) (w:World):(Instr.typeAssert (.iface 167 v) 143 165 true).run Tryz.prog w=.ok (.tuple #[.agg #[.int .i64 0,.int .i64 0],.bool false]) w:=by kernel_rfl
theorem qkv (v:Value) (w:World):(Instr.typeAssert (.iface 167 v) 143 167 true).run Tryz.prog w=.ok (.tuple #[v,.bool true]) w:=by kernel_rfl
theorem qgu (v:Value) (w:World):(Instr.typeAssert (.iface 167 v) 143 169 true).run Tryz.prog w=.ok (.tuple #[.agg #[.int .i64 0,.int .i64 0],.bool false]) w:=by kernel_rfl
theorem qgv (v:Value) (w:World):(Instr.typeAssert (.iface 167 v) 143 171 true).run Tryz.prog w=.ok (.tuple #[.agg #[.int .i64 0,.int .i64 0],.bool false]) w:=by kernel_rfl
theorem qff (v:Value) (w:World):(Instr.typeAssert (.iface 167 v) 143 173 true).run Tryz.prog w=.ok (.tuple #[.agg #[.int .i64 0],.bool false]) w:=by kernel_rfl
theorem qmi (v:Value) (w:World):(Instr.typeAssert (.iface 169 v) 143 165 true).run Tryz.prog w=.ok (.tuple #[.agg #[.int .i64 0,.int .i64 0],.bool false]) w:=by kernel_rfl
theorem qkz (v:Value) (w:World):(Instr.typeAssert (.iface 169 v) 143 167 true).run Tryz.prog w=.ok (.tuple #[.agg #[.int .i64 0,.int .i64 0,.int .i64 0,.int .i64 0],.bool false]) w:=by kernel_rfl
theorem qgz (v:Value) (w:World):(Instr.typeAssert (.iface 169 v) 143 169 true).run Tryz.prog w=.ok (.tuple #[v,.bool true]) w:=by kernel_rfl
theorem qmj (v:Value) (w:World):(Instr.typeAssert (.iface 171 v) 143 165 true).run Tryz.prog w=.ok (.tuple #[.agg #[.int .i64 0,.int .i64 0],.bool false]) w:=by kernel_rfl
theorem qk0 (v:Value) (w:World):(Instr.typeAssert (.iface 171 v) 143 167 true).run Tryz.prog w=.ok (.tuple #[.agg #[.int .i64 0,.int .i64 0,.int .i64 0,.int .i64 0],.bool false]) w:=by kernel_rfl
theorem qg1 (v:Value) (w:World):(Instr.typeAssert (.iface 171 v) 143 169 true).run Tryz.prog w=.ok (.tuple #[.agg #[.int .i64 0,.int .i64 0],.bool false]) w:=by kernel_rfl
theorem qg2 (v:Value) (w:World):(Instr.typeAssert (.iface 171 v) 143 171 true).run Tryz.prog w=.ok (.tuple #[v,.bool true]) w:=by kernel_rfl
theorem qky (v:Value) (w:World):(Instr.typeAssert (.iface 173 v) 143 165 true).run Tryz.prog w=.ok (.tuple #[.agg #[.int .i64 0,.int .i64 0],.bool false]) w:=by kernel_rfl
theorem qjb (v:Value) (w:World):(Instr.typeAssert (.iface 173 v) 143 167 true).run Tryz.prog w=.ok (.tuple #[.agg #[.int .i64 0,.int .i64 0,.int .i64 0,.int .i64 0],.bool false]) w:=by kernel_rfl
theorem qfh (v:Value) (w:World):(Instr.typeAssert (.iface 173 v) 143 169 true).run Tryz.prog w=.ok (.tuple #[.agg #[.int .i64 0,.int .i64 0],.bool false]) w:=by kernel_rfl
theorem qfi (v:Value) (w:World):(Instr.typeAssert (.iface 173 v) 143 171 true).run Tryz.prog w=.ok (.tuple #[.agg #[.int .i64 0,.int .i64 0],.bool false]) w:=by kernel_rfl
theorem qez (v:Value) (w:World):(Instr.typeAssert (.iface 173 v) 143 173 true).run Tryz.prog w=.ok (.tuple #[v,.bool true]) w:=by kernel_rfl
theorem qmh (v:Value) (w:World):(Instr.typeAssert (.iface 175 v) 143 165 true).run Tryz.prog w=.ok (.tuple #[.agg #[.int .i64 0,.int .i64 0],.bool false]) w:=by kernel_rfl
theorem qkw (v:Value) (w:World):(Instr.typeAssert (.iface 175 v) 143 167 true).run Tryz.prog w=.ok (.tuple #[.agg #[.int .i64 0,.int .i64 0,.int .i64 0,.int .i64 0],.bool false]) w:=by kernel_rfl
theorem qgx (v:Value) (w:World):(Instr.typeAssert (.iface 175 v) 143 169 true).run Tryz.prog w=.ok (.tuple #[.agg #[.int .i64 0,.int .i64 0],.bool false]) w:=by kernel_rfl
theorem qgy (v:Value) (w:World):(Instr.typeAssert (.iface 175 v) 143 171 true).run Tryz.prog w=.ok (.tuple #[.agg #[.int .i64 0,.int .i64 0],.bool false]) w:=by kernel_rfl
theorem qfg (v:Value) (w:World):(Instr.typeAssert (.iface 175 v) 143 173 true).run Tryz.prog w=.ok (.tuple #[.agg #[.int .i64 0],.bool false]) w:=by kernel_rfl
theorem qkx (v:Value) (w:World):(Instr.typeAssert (.iface 175 v) 143 175 true).run Tryz.prog w=.ok (.tuple #[v,.bool true]) w:=by kernel_rfl
theorem qmk (v:Value) (w:World):(Instr.typeAssert (.iface 177 v) 143 165 true).run Tryz.prog w=.ok (.tuple #[.agg #[.int .i64 0,.int .i64 0],.bool false]) w:=by kernel_rfl
theorem qk1 (v:Value) (w:World):(Instr.typeAssert (.iface 177 v) 143 167 true).run Tryz.prog w=.ok (.tuple #[.agg #[.int .i64 0,.int .i64 0,.int .i64 0,.int .i64 0],.bool false]) w:=by kernel_rfl
theorem qg3 (v:Value) (w:World):(Instr.typeAssert (.iface 177 v) 143 169 true).run Tryz.prog w=.ok (.tuple #[.agg #[.int .i64 0,.int .i64 0],.bool false]) w:=by kernel_rfl
theorem qg4 (v:Value) (w:World):(Instr.typeAssert (.iface 177 v) 143 171 true).run Tryz.prog w=.ok (.tuple #[.agg #[.int .i64 0,.int .i64 0],.bool false]) w:=by kernel_rfl
theorem qfj (v:Value) (w:World):(Instr.typeAssert (.iface 177 v) 143 173 true).run Tryz.prog w=.ok (.tuple #[.agg #[.int .i64 0],.bool false]) w:=by kernel_rfl
theorem qk2 (v:Value) (w:World):(Instr.typeAssert (.iface 177 v) 143 175 true).run Tryz.prog w=.ok (.tuple #[.agg #[.int .i64 0],.bool false]) w:=by kernel_rfl
theorem qk3 (v:Value) (w:World):(Instr.typeAssert (.iface 177 v) 143 177 true).run Tryz.prog w=.ok (.tuple #[v,.bool true]) w:=by kernel_rfl
theorem qo8 (v:Value) (w:World):(Instr.typeAssert (.iface 179 v) 143 165 true).run Tryz.prog w=.ok (.tuple #[.agg #[.int .i64 0,.int .i64 0],.bool false]) w:=by kernel_rfl
theorem qme (v:Value) (w:World):(Instr.typeAssert (.iface 179 v) 143 167 true).run Tryz.prog w=.ok (.tuple #[.agg #[.int .i64 0,.int .i64 0,.int .i64 0,.int .i64 0],.bool false]) w:=by kernel_rfl
theorem qhq (v:Value) (w:World):(Instr.typeAssert (.iface 179 v) 143 169 true).run Tryz.prog w=.ok (.tuple #[.agg #[.int .i64 0,.int .i64 0],.bool false]) w:=by kernel_rfl
theorem qhr (v:Value) (w:World):(Instr.typeAssert (.iface 179 v) 143 171 true).run Tryz.prog w=.ok (.tuple #[.agg #[.int .i64 0,.int .i64 0],.bool false]) w:=by kernel_rfl
theorem qgw (v:Value) (w:World):(Instr.typeAssert (.iface 179 v) 143 173 true).run Tryz.prog w=.ok (.tuple #[.agg #[.int .i64 0],.bool false]) w:=by kernel_rfl
theorem qmf (v:Value) (w:World):(Instr.typeAssert (.iface 179 v) 143 175 true).run Tryz.prog w=.ok (.tuple #[.agg #[.int .i64 0],.bool false]) w:=by kernel_rfl
theorem qmg (v:Value) (w:World):(Instr.typeAssert (.iface 179 v) 143 177 true).run Tryz.prog w=.ok (.tuple #[.agg #[.int .i64 0,.int .i64 0],.bool false]) w:=by kernel_rfl
theorem qo7 (v:Value) (w:World):(Instr.typeAssert (.iface 179 v) 143 179 true).run Tryz.prog w=.ok (.tuple #[v,.bool true]) w:=by kernel_rfl
attribute [local go_sem] qo9 qhs qht qg0 qmd qkv qgu qgv qff qmi qkz qgz qmj qk0 qg1 qg2 qky qjb qfh qfi qez qmh qkw qgx qgy qfg qkx qmk qk1 qg3 qg4 qfj qk2 qk3 qo8 qme qhq qhr qgw qmf qmg qo7
theorem qs7 (r n places procs:Int) (w:World):
  Calls Tryz.prog 122 #[.iface 165 (setV r n),.int .i64 places,.int .i64 procs] w fun e w'=>e=.returned (.bool (belB r 4 && inB n (-1000000000) 1000000000))/\Below w.heap.size w w':=by
 rcases zK (belB r 4) with t0 | t0 <;> rcases zK (inB n (-1000000000) 1000000000) with t1 | t1
 all_goals
  go_enter Tryz.func122,Tryz.ntmps122
  go_wp2_with (first|(go_at_call 133;refine (qcn _ _).mono ?_;rintro e w' ⟨rfl,rfl⟩)|(go_at_call 129;refine (isNum_any _ _).mono ?_;rintro e w' ⟨rfl,rfl⟩)|(go_at_call 24;refine (isBelow_any _ _ _).mono ?_;rintro e w' ⟨rfl,rfl⟩))
  go_ret;exact ⟨by rw [t0,t1] <;> rfl,by go_grown⟩
theorem qqt (op r a b places procs:Int) (w:World):
  Calls Tryz.prog 122 #[.iface 167 (qjd op r a b),.int .i64 places,.int .i64 procs] w fun e w'=>e=.returned (.bool (belB r 4 && belB a 4 && belB b 4))/\Below w.heap.size w w':=by
 rcases zK (belB r 4) with t0 | t0 <;> rcases zK (belB a 4) with t1 | t1 <;> rcases zK (belB b 4) with t2 | t2
 all_goals
  go_enter Tryz.func122,Tryz.ntmps122
  go_wp2_with (first|(go_at_call 133;refine (qcn _ _).mono ?_;rintro e w' ⟨rfl,rfl⟩)|(go_at_call 129;refine (isNum_any _ _).mono ?_;rintro e w' ⟨rfl,rfl⟩)|(go_at_call 24;refine (isBelow_any _ _ _).mono ?_;rintro e w' ⟨rfl,rfl⟩))
  go_ret;exact ⟨by rw [t0,t1,t2] <;> rfl,by go_grown⟩
theorem qqv (n a places procs:Int) (w:World):
  Calls Tryz.prog 122 #[.iface 169 (qr5 n a),.int .i64 places,.int .i64 procs] w fun e w'=>e=.returned (.bool (belB a 4 && belB n procs))/\Below w.heap.size w w':=by
 rcases zK (belB a 4) with t0 | t0 <;> rcases zK (belB n procs) with t1 | t1
 all_goals
  go_enter Tryz.func122,Tryz.ntmps122
  go_wp2_with (first|(go_at_call 133;refine (qcn _ _).mono ?_;rintro e w' ⟨rfl,rfl⟩)|(go_at_call 129;refine (isNum_any _ _).mono ?_;rintro e w' ⟨rfl,rfl⟩)|(go_at_call 24;refine (isBelow_any _ _ _).mono ?_;rintro e w' ⟨rfl,rfl⟩))
  go_ret;exact ⟨by rw [t0,t1] <;> rfl,by go_grown⟩
theorem qqw (r n places procs:Int) (w:World):
  Calls Tryz.prog 122 #[.iface 171 (qse r n),.int .i64 places,.int .i64 procs] w fun e w'=>e=.returned (.bool (belB r 4 && ((n == 9) || belB n procs)))/\Below w.heap.size w w':=by
 rcases zK (belB r 4) with t0 | t0 <;> rcases zK ((n == 9)) with t1 | t1 <;> rcases zK (belB n procs) with t2 | t2
 all_goals
  go_enter Tryz.func122,Tryz.ntmps122
  go_wp2_with (first|(go_at_call 133;refine (qcn _ _).mono ?_;rintro e w' ⟨rfl,rfl⟩)|(go_at_call 129;refine (isNum_any _ _).mono ?_;rintro e w' ⟨rfl,rfl⟩)|(go_at_call 24;refine (isBelow_any _ _ _).mono ?_;rintro e w' ⟨rfl,rfl⟩))
  go_ret;exact ⟨by rw [t0,t1,t2] <;> rfl,by go_grown⟩
theorem qpi (a places procs:Int) (w:World):
  Calls Tryz.prog 122 #[.iface 173 (qlr a),.int .i64 places,.int .i64 procs] w fun e w'=>e=.returned (.bool (belB a 4))/\Below w.heap.size w w':=by
 go_enter Tryz.func122,Tryz.ntmps122
 go_wp2_with (first|(go_at_call 133;refine (qcn _ _).mono ?_;rintro e w' ⟨rfl,rfl⟩)|(go_at_call 129;refine (isNum_any _ _).mono ?_;rintro e w' ⟨rfl,rfl⟩)|(go_at_call 24;refine (isBelow_any _ _ _).mono ?_;rintro e w' ⟨rfl,rfl⟩))
 go_ret;exact ⟨rfl,by go_grown⟩
theorem qqu (n places procs:Int) (w:World):
  Calls Tryz.prog 122 #[.iface 175 (qq8 n),.int .i64 places,.int .i64 procs] w fun e w'=>e=.returned (.bool (belB n places))/\Below w.heap.size w w':=by
 go_enter Tryz.func122,Tryz.ntmps122
 go_wp2_with (first|(go_at_call 133;refine (qcn _ _).mono ?_;rintro e w' ⟨rfl,rfl⟩)|(go_at_call 129;refine (isNum_any _ _).mono ?_;rintro e w' ⟨rfl,rfl⟩)|(go_at_call 24;refine (isBelow_any _ _ _).mono ?_;rintro e w' ⟨rfl,rfl⟩))
 go_ret;exact ⟨rfl,by go_grown⟩
theorem qqx (a n places procs:Int) (w:World):
  Calls Tryz.prog 122 #[.iface 177 (qss a n),.int .i64 places,.int .i64 procs] w fun e w'=>e=.returned (.bool (belB a 4 && belB n places))/\Below w.heap.size w w':=by
 rcases zK (belB a 4) with t0 | t0 <;> rcases zK (belB n places) with t1 | t1
 all_goals
  go_enter Tryz.func122,Tryz.ntmps122
  go_wp2_with (first|(go_at_call 133;refine (qcn _ _).mono ?_;rintro e w' ⟨rfl,rfl⟩)|(go_at_call 129;refine (isNum_any _ _).mono ?_;rintro e w' ⟨rfl,rfl⟩)|(go_at_call 24;refine (isBelow_any _ _ _).mono ?_;rintro e w' ⟨rfl,rfl⟩))
  go_ret;exact ⟨by rw [t0,t1] <;> rfl,by go_grown⟩
theorem qs6 (places procs:Int) (w:World):
  Calls Tryz.prog 122 #[.iface 179 endV,.int .i64 places,.int .i64 procs] w fun e w'=>e=.returned (.bool (true))/\Below w.heap.size w w':=by
 go_enter Tryz.func122,Tryz.ntmps122
 go_wp2_with (first|(go_at_call 133;refine (qcn _ _).mono ?_;rintro e w' ⟨rfl,rfl⟩)|(go_at_call 129;refine (isNum_any _ _).mono ?_;rintro e w' ⟨rfl,rfl⟩)|(go_at_call 24;refine (isBelow_any _ _ _).mono ?_;rintro e w' ⟨rfl,rfl⟩))
 go_ret;exact ⟨rfl,by go_grown⟩
def qa6 (o1 r1 a1 b1 n1 o2 r2 a2 b2 n2:Int):Bool:=o1 == o2 && (r1 == r2 && (a1 == a2 && (b1 == b2 && n1 == n2)))
theorem qb3 (o1 r1 a1 b1 n1 o2 r2 a2 b2 n2:Int) (w:World):(binOp .eql 85 (insV o1 r1 a1 b1 n1) (insV o2 r2 a2 b2 n2)).run Tryz.prog w=.ok (.bool (qa6 o1 r1 a1 b1 n1 o2 r2 a2 b2 n2)) w:=by
 rw [run_eql_struct,show (10000:Nat)=9998+1+1 from rfl,run_equalIn_agg w (9998+1) 85 _ _ (by kernel_rfl) (by kernel_rfl)];simp only [qa6];by_cases h1:o1=o2 <;> by_cases h2:r1=r2 <;> by_cases h3:a1=a2 <;> by_cases h4:b1=b2 <;> by_cases h5:n1=n2 <;> simp [go_sem,h1,h2,h3,h4,h5]
theorem qir {w w1:World} {o:Obj} (h1:Below (w.alloc o).heap.size (w.alloc o) w1):Below w.heap.size w w1.drew:=by
 have h0:Below w.heap.size w (w.alloc o):=(Below.refl _ _).alloc (Nat.le_refl _) _;have hs:w.heap.size<=(w.alloc o).heap.size:=by simp
 exact (h0.trans (h1.mono hs)).drew
theorem qba {w w1 w2:World} {o:Obj} (h1:Below (w.alloc o).heap.size (w.alloc o) w1) (h2:Below w1.drew.heap.size w1.drew w2):Below w.heap.size w w2:=by
 have h0:Below w.heap.size w (w.alloc o):=(Below.refl _ _).alloc (Nat.le_refl _) _;have hs:w.heap.size<=(w.alloc o).heap.size:=by simp
 exact (h0.trans (h1.mono hs)).drew.trans (h2.mono (zP hs h1.size))
theorem qbg {w w1 w2 w3:World} {o:Obj} (h1:Below (w.alloc o).heap.size (w.alloc o) w1) (h2:Below w1.drew.heap.size w1.drew w2) (h3:Below w2.heap.size w2 w3):Below w.heap.size w w3:=
 qba h1 (h2.trans (h3.mono h2.size))
