import Derived.Test.YtegogmbfhddeoabGreatDoorVk0
import Derived.WalkKit
import Derived.WalkSpells
import Derived.WalkLawsBesides
import Derived.Handy
namespace Go.Proofs.YtegogmbfhddeoabGreatDoor
set_option maxHeartbeats 1000000
open Go.RowKit
def inB (x lo hi:Int):Bool:=decide (lo<=x/\x<=hi)
def belB (x n:Int):Bool:=decide (0<=x/\x<n)
theorem l1In_any (x lo hi:Int) (w:World):
  Calls Tryz.prog 20 #[.int .i64 x,.int .i64 lo,.int .i64 hi] w fun e w'=>e=.returned (.bool (inB x lo hi))/\w'=w:=by
 by_cases h1:lo<=x
 ·by_cases h2:x<=hi
  ·go_enter Tryz.func20,Tryz.ntmps20
   go_wp2;go_ret;exact ⟨by simp [inB,h1,h2],rfl⟩
  ·go_enter Tryz.func20,Tryz.ntmps20
   go_wp2;go_ret;exact ⟨by simp [inB,h1,h2],rfl⟩
 ·go_enter Tryz.func20,Tryz.ntmps20
  go_wp2;go_ret;exact ⟨by simp [inB];omega,rfl⟩
theorem isBelow_any (x n:Int) (w:World):
  Calls Tryz.prog 22 #[.int .i64 x,.int .i64 n] w fun e w'=>e=.returned (.bool (belB x n))/\w'=w:=by
 by_cases h1:0<=x
 ·by_cases h2:x<n
  ·go_enter Tryz.func22,Tryz.ntmps22
   go_wp2;go_ret;exact ⟨by simp [belB,h1,h2],rfl⟩
  ·go_enter Tryz.func22,Tryz.ntmps22
   go_wp2;go_ret;exact ⟨by simp [belB,h1,h2],rfl⟩
 ·go_enter Tryz.func22,Tryz.ntmps22
  go_wp2;go_ret;exact ⟨by simp [belB];omega,rfl⟩
theorem qck (x:Int) (w:World):
  Calls Tryz.prog 147 #[.int .i64 x] w fun e w'=>e=.returned (.bool (belB x 4))/\w'=w:=by
 go_enter Tryz.func147,Tryz.ntmps147
 go_wp2_with (go_at_call 22;refine (isBelow_any _ _ _).mono ?_;rintro e w' ⟨rfl,rfl⟩)
 go_ret;exact ⟨rfl,rfl⟩
theorem isNum_any (x:Int) (w:World):
  Calls Tryz.prog 123 #[.int .i64 x] w fun e w'=>e=.returned (.bool (inB x (-1000000000) 1000000000))/\w'=w:=by
 by_cases h1:-1000000000<=x
 ·by_cases h2:x<=1000000000
  ·go_enter Tryz.func123,Tryz.ntmps123
   go_wp2;go_ret;exact ⟨by simp [inB,h1,h2],rfl⟩
  ·go_enter Tryz.func123,Tryz.ntmps123
   go_wp2;go_ret;exact ⟨by simp [inB,h1,h2],rfl⟩
 ·go_enter Tryz.func123,Tryz.ntmps123
  go_wp2;go_ret;exact ⟨by simp [inB];omega,rfl⟩
theorem l1Num_any (x:Int) (w:World):
  Calls Tryz.prog 69 #[.int .i64 x] w fun e w'=>e=.returned (.bool (inB x (-1000000000) 1000000000))/\w'=w:=by
 go_enter Tryz.func69,Tryz.ntmps69
 go_wp2_with (go_at_call 20;refine (l1In_any _ _ _ _).mono ?_;rintro e w' ⟨rfl,rfl⟩)
 go_ret;exact ⟨rfl,rfl⟩
abbrev insV (op r a b n:Int):Value:=.agg #[.int .i64 op,.int .i64 r,.int .i64 a,.int .i64 b,.int .i64 n]
abbrev setV (r n:Int):Value:=.agg #[.int .i64 r,.int .i64 n]
theorem qev (r a b n:Int) (w:World):
  Calls Tryz.prog 121 #[insV 1 r a b n] w fun e w'=>e=.returned (.iface 192 (setV r n))/\Below w.heap.size w w':=by
 go_enter Tryz.func121,Tryz.ntmps121
 go_wp2;go_ret;exact ⟨rfl,by go_grown⟩
theorem qqx (r n:Int) (w:World):
  Calls Tryz.prog 180 #[setV r n] w fun e w'=>e=.returned (insV 1 r 0 0 n)/\Below w.heap.size w w':=by
 go_enter Tryz.func180,Tryz.ntmps180
 go_wp2;refine bodyPost_ret (v:=insV 1 r 0 0 n) (by simp [results,Tryz.results180,go_sem]) rfl ⟨rfl,?_⟩
 go_grown
abbrev qiw (op r a b:Int):Value:=.agg #[.int .i64 op,.int .i64 r,.int .i64 a,.int .i64 b]
theorem qfk (r a b n:Int) (w:World):
  Calls Tryz.prog 121 #[insV 2 r a b n] w fun e w'=>e=.returned (.iface 194 (qiw 2 r a b))/\Below w.heap.size w w':=by
 go_enter Tryz.func121,Tryz.ntmps121
 go_wp2;go_ret;exact ⟨rfl,by go_grown⟩
theorem qfl (r a b n:Int) (w:World):
  Calls Tryz.prog 121 #[insV 3 r a b n] w fun e w'=>e=.returned (.iface 194 (qiw 3 r a b))/\Below w.heap.size w w':=by
 go_enter Tryz.func121,Tryz.ntmps121
 go_wp2;go_ret;exact ⟨rfl,by go_grown⟩
theorem qfm (r a b n:Int) (w:World):
  Calls Tryz.prog 121 #[insV 4 r a b n] w fun e w'=>e=.returned (.iface 194 (qiw 4 r a b))/\Below w.heap.size w w':=by
 go_enter Tryz.func121,Tryz.ntmps121
 go_wp2;go_ret;exact ⟨rfl,by go_grown⟩
theorem qfn (r a b n:Int) (w:World):
  Calls Tryz.prog 121 #[insV 5 r a b n] w fun e w'=>e=.returned (.iface 194 (qiw 5 r a b))/\Below w.heap.size w w':=by
 go_enter Tryz.func121,Tryz.ntmps121
 go_wp2;go_ret;exact ⟨rfl,by go_grown⟩
theorem qn3 (op r a b:Int) (w:World):
  Calls Tryz.prog 181 #[qiw op r a b] w fun e w'=>e=.returned (insV op r a b 0)/\Below w.heap.size w w':=by
 go_enter Tryz.func181,Tryz.ntmps181
 go_wp2;refine bodyPost_ret (v:=insV op r a b 0) (by simp [results,Tryz.results181,go_sem]) rfl ⟨rfl,?_⟩
 go_grown
abbrev qry (n a:Int):Value:=.agg #[.int .i64 n,.int .i64 a]
theorem qdx (r a b n:Int) (w:World):
  Calls Tryz.prog 121 #[insV 6 r a b n] w fun e w'=>e=.returned (.iface 196 (qry n a))/\Below w.heap.size w w':=by
 go_enter Tryz.func121,Tryz.ntmps121
 go_wp2;go_ret;exact ⟨rfl,by go_grown⟩
theorem qn5 (n a:Int) (w:World):
  Calls Tryz.prog 182 #[qry n a] w fun e w'=>e=.returned (insV 6 0 a 0 n)/\Below w.heap.size w w':=by
 go_enter Tryz.func182,Tryz.ntmps182
 go_wp2;refine bodyPost_ret (v:=insV 6 0 a 0 n) (by simp [results,Tryz.results182,go_sem]) rfl ⟨rfl,?_⟩
 go_grown
abbrev qr7 (r n:Int):Value:=.agg #[.int .i64 r,.int .i64 n]
theorem qdy (r a b n:Int) (w:World):
  Calls Tryz.prog 121 #[insV 7 r a b n] w fun e w'=>e=.returned (.iface 198 (qr7 r n))/\Below w.heap.size w w':=by
 go_enter Tryz.func121,Tryz.ntmps121
 go_wp2;go_ret;exact ⟨rfl,by go_grown⟩
theorem qn6 (r n:Int) (w:World):
  Calls Tryz.prog 183 #[qr7 r n] w fun e w'=>e=.returned (insV 7 r 0 0 n)/\Below w.heap.size w w':=by
 go_enter Tryz.func183,Tryz.ntmps183
 go_wp2;refine bodyPost_ret (v:=insV 7 r 0 0 n) (by simp [results,Tryz.results183,go_sem]) rfl ⟨rfl,?_⟩
 go_grown
abbrev qlj (a:Int):Value:=.agg #[.int .i64 a]
theorem qdl (r a b n:Int) (w:World):
  Calls Tryz.prog 121 #[insV 8 r a b n] w fun e w'=>e=.returned (.iface 200 (qlj a))/\Below w.heap.size w w':=by
 go_enter Tryz.func121,Tryz.ntmps121
 go_wp2;go_ret;exact ⟨rfl,by go_grown⟩
theorem qk8 (a:Int) (w:World):
  Calls Tryz.prog 184 #[qlj a] w fun e w'=>e=.returned (insV 8 0 a 0 0)/\Below w.heap.size w w':=by
 go_enter Tryz.func184,Tryz.ntmps184
 go_wp2;refine bodyPost_ret (v:=insV 8 0 a 0 0) (by simp [results,Tryz.results184,go_sem]) rfl ⟨rfl,?_⟩
 go_grown
abbrev qq0 (n:Int):Value:=.agg #[.int .i64 n]
theorem qdw (r a b n:Int) (w:World):
  Calls Tryz.prog 121 #[insV 9 r a b n] w fun e w'=>e=.returned (.iface 202 (qq0 n))/\Below w.heap.size w w':=by
 go_enter Tryz.func121,Tryz.ntmps121
 go_wp2;go_ret;exact ⟨rfl,by go_grown⟩
theorem qn4 (n:Int) (w:World):
  Calls Tryz.prog 185 #[qq0 n] w fun e w'=>e=.returned (insV 9 0 0 0 n)/\Below w.heap.size w w':=by
 go_enter Tryz.func185,Tryz.ntmps185
 go_wp2;refine bodyPost_ret (v:=insV 9 0 0 0 n) (by simp [results,Tryz.results185,go_sem]) rfl ⟨rfl,?_⟩
 go_grown
abbrev qsi (a n:Int):Value:=.agg #[.int .i64 a,.int .i64 n]
theorem qdz (r a b n:Int) (w:World):
  Calls Tryz.prog 121 #[insV 10 r a b n] w fun e w'=>e=.returned (.iface 204 (qsi a n))/\Below w.heap.size w w':=by
 go_enter Tryz.func121,Tryz.ntmps121
 go_wp2;go_ret;exact ⟨rfl,by go_grown⟩
theorem qn7 (a n:Int) (w:World):
  Calls Tryz.prog 186 #[qsi a n] w fun e w'=>e=.returned (insV 10 0 a 0 n)/\Below w.heap.size w w':=by
 go_enter Tryz.func186,Tryz.ntmps186
 go_wp2;refine bodyPost_ret (v:=insV 10 0 a 0 n) (by simp [results,Tryz.results186,go_sem]) rfl ⟨rfl,?_⟩
 go_grown
abbrev endV:Value:=.agg #[]
theorem qeu (r a b n:Int) (w:World):
  Calls Tryz.prog 121 #[insV 11 r a b n] w fun e w'=>e=.returned (.iface 206 endV)/\Below w.heap.size w w':=by
 go_enter Tryz.func121,Tryz.ntmps121
 go_wp2;go_ret;exact ⟨rfl,by go_grown⟩
theorem qqw (w:World):
  Calls Tryz.prog 187 #[endV] w fun e w'=>e=.returned (insV 11 0 0 0 0)/\Below w.heap.size w w':=by
 go_enter Tryz.func187,Tryz.ntmps187
 go_wp2;refine bodyPost_ret (v:=insV 11 0 0 0 0) (by simp [results,Tryz.results187,go_sem]) rfl ⟨rfl,?_⟩
 go_grown
theorem qgp (op r a b n:Int) (w:World) (h1:2<=op) (h2:op<=5):
  Calls Tryz.prog 121 #[insV op r a b n] w fun e w'=>e=.returned (.iface 194 (qiw op r a b))/\Below w.heap.size w w':=by
 have h:op=2\/op=3\/op=4\/op=5:=by omega
 rcases h with rfl | rfl | rfl | rfl
 ·exact qfk r a b n w
 ·exact qfl r a b n w
 ·exact qfm r a b n w
 ·exact qfn r a b n w
theorem qli (op r a b n:Int) (w:World) (h:op<1\/11<op):
  Calls Tryz.prog 121 #[insV op r a b n] w fun e w'=>e=.returned .nilIface/\Below w.heap.size w w':=by
 have h1:(op == 1)=false:=by simp;omega
 have h2:(op == 2)=false:=by simp;omega
 have h3:(op == 3)=false:=by simp;omega
 have h4:(op == 4)=false:=by simp;omega
 have h5:(op == 5)=false:=by simp;omega
 have h6:(op == 6)=false:=by simp;omega
 have h7:(op == 7)=false:=by simp;omega
 have h8:(op == 8)=false:=by simp;omega
 have h9:(op == 9)=false:=by simp;omega
 have h10:(op == 10)=false:=by simp;omega
 have h11:(op == 11)=false:=by simp;omega
 clear h
 go_enter Tryz.func121,Tryz.ntmps121
 go_wp2;go_ret;exact ⟨rfl,by go_grown⟩
theorem qo0 (v:Value) (w:World):(Instr.typeAssert (.iface 192 v) 167 192 true).run Tryz.prog w=.ok (.tuple #[v,.bool true]) w:=by kernel_rfl
theorem qmd (v:Value) (w:World):(Instr.typeAssert (.iface 192 v) 167 194 true).run Tryz.prog w=.ok (.tuple #[.agg #[.int .i64 0,.int .i64 0,.int .i64 0,.int .i64 0],.bool false]) w:=by kernel_rfl
theorem qg5 (v:Value) (w:World):(Instr.typeAssert (.iface 192 v) 167 196 true).run Tryz.prog w=.ok (.tuple #[.agg #[.int .i64 0,.int .i64 0],.bool false]) w:=by kernel_rfl
theorem qg6 (v:Value) (w:World):(Instr.typeAssert (.iface 192 v) 167 198 true).run Tryz.prog w=.ok (.tuple #[.agg #[.int .i64 0,.int .i64 0],.bool false]) w:=by kernel_rfl
theorem qgh (v:Value) (w:World):(Instr.typeAssert (.iface 192 v) 167 200 true).run Tryz.prog w=.ok (.tuple #[.agg #[.int .i64 0],.bool false]) w:=by kernel_rfl
theorem qme (v:Value) (w:World):(Instr.typeAssert (.iface 192 v) 167 202 true).run Tryz.prog w=.ok (.tuple #[.agg #[.int .i64 0],.bool false]) w:=by kernel_rfl
theorem qmf (v:Value) (w:World):(Instr.typeAssert (.iface 192 v) 167 204 true).run Tryz.prog w=.ok (.tuple #[.agg #[.int .i64 0,.int .i64 0],.bool false]) w:=by kernel_rfl
theorem qoz (v:Value) (w:World):(Instr.typeAssert (.iface 192 v) 167 206 true).run Tryz.prog w=.ok (.tuple #[.agg #[],.bool false]) w:=by kernel_rfl
theorem ql5 (v:Value) (w:World):(Instr.typeAssert (.iface 194 v) 167 192 true).run Tryz.prog w=.ok (.tuple #[.agg #[.int .i64 0,.int .i64 0],.bool false]) w:=by kernel_rfl
theorem qka (v:Value) (w:World):(Instr.typeAssert (.iface 194 v) 167 194 true).run Tryz.prog w=.ok (.tuple #[v,.bool true]) w:=by kernel_rfl
theorem qgb (v:Value) (w:World):(Instr.typeAssert (.iface 194 v) 167 196 true).run Tryz.prog w=.ok (.tuple #[.agg #[.int .i64 0,.int .i64 0],.bool false]) w:=by kernel_rfl
theorem qgc (v:Value) (w:World):(Instr.typeAssert (.iface 194 v) 167 198 true).run Tryz.prog w=.ok (.tuple #[.agg #[.int .i64 0,.int .i64 0],.bool false]) w:=by kernel_rfl
theorem qey (v:Value) (w:World):(Instr.typeAssert (.iface 194 v) 167 200 true).run Tryz.prog w=.ok (.tuple #[.agg #[.int .i64 0],.bool false]) w:=by kernel_rfl
theorem qkb (v:Value) (w:World):(Instr.typeAssert (.iface 194 v) 167 202 true).run Tryz.prog w=.ok (.tuple #[.agg #[.int .i64 0],.bool false]) w:=by kernel_rfl
theorem qkc (v:Value) (w:World):(Instr.typeAssert (.iface 194 v) 167 204 true).run Tryz.prog w=.ok (.tuple #[.agg #[.int .i64 0,.int .i64 0],.bool false]) w:=by kernel_rfl
theorem ql4 (v:Value) (w:World):(Instr.typeAssert (.iface 194 v) 167 206 true).run Tryz.prog w=.ok (.tuple #[.agg #[],.bool false]) w:=by kernel_rfl
theorem qmc (v:Value) (w:World):(Instr.typeAssert (.iface 196 v) 167 192 true).run Tryz.prog w=.ok (.tuple #[.agg #[.int .i64 0,.int .i64 0],.bool false]) w:=by kernel_rfl
theorem qki (v:Value) (w:World):(Instr.typeAssert (.iface 196 v) 167 194 true).run Tryz.prog w=.ok (.tuple #[.agg #[.int .i64 0,.int .i64 0,.int .i64 0,.int .i64 0],.bool false]) w:=by kernel_rfl
theorem qgg (v:Value) (w:World):(Instr.typeAssert (.iface 196 v) 167 196 true).run Tryz.prog w=.ok (.tuple #[v,.bool true]) w:=by kernel_rfl
theorem qkk (v:Value) (w:World):(Instr.typeAssert (.iface 196 v) 167 198 true).run Tryz.prog w=.ok (.tuple #[.agg #[.int .i64 0,.int .i64 0],.bool false]) w:=by kernel_rfl
theorem qit (v:Value) (w:World):(Instr.typeAssert (.iface 196 v) 167 200 true).run Tryz.prog w=.ok (.tuple #[.agg #[.int .i64 0],.bool false]) w:=by kernel_rfl
theorem qkj (v:Value) (w:World):(Instr.typeAssert (.iface 196 v) 167 202 true).run Tryz.prog w=.ok (.tuple #[.agg #[.int .i64 0],.bool false]) w:=by kernel_rfl
theorem qkl (v:Value) (w:World):(Instr.typeAssert (.iface 196 v) 167 204 true).run Tryz.prog w=.ok (.tuple #[.agg #[.int .i64 0,.int .i64 0],.bool false]) w:=by kernel_rfl
theorem qmb (v:Value) (w:World):(Instr.typeAssert (.iface 196 v) 167 206 true).run Tryz.prog w=.ok (.tuple #[.agg #[],.bool false]) w:=by kernel_rfl
theorem qmh (v:Value) (w:World):(Instr.typeAssert (.iface 198 v) 167 192 true).run Tryz.prog w=.ok (.tuple #[.agg #[.int .i64 0,.int .i64 0],.bool false]) w:=by kernel_rfl
theorem qkm (v:Value) (w:World):(Instr.typeAssert (.iface 198 v) 167 194 true).run Tryz.prog w=.ok (.tuple #[.agg #[.int .i64 0,.int .i64 0,.int .i64 0,.int .i64 0],.bool false]) w:=by kernel_rfl
theorem qgi (v:Value) (w:World):(Instr.typeAssert (.iface 198 v) 167 196 true).run Tryz.prog w=.ok (.tuple #[.agg #[.int .i64 0,.int .i64 0],.bool false]) w:=by kernel_rfl
theorem qgj (v:Value) (w:World):(Instr.typeAssert (.iface 198 v) 167 198 true).run Tryz.prog w=.ok (.tuple #[v,.bool true]) w:=by kernel_rfl
theorem qiu (v:Value) (w:World):(Instr.typeAssert (.iface 198 v) 167 200 true).run Tryz.prog w=.ok (.tuple #[.agg #[.int .i64 0],.bool false]) w:=by kernel_rfl
theorem qkn (v:Value) (w:World):(Instr.typeAssert (.iface 198 v) 167 202 true).run Tryz.prog w=.ok (.tuple #[.agg #[.int .i64 0],.bool false]) w:=by kernel_rfl
theorem qko (v:Value) (w:World):(Instr.typeAssert (.iface 198 v) 167 204 true).run Tryz.prog w=.ok (.tuple #[.agg #[.int .i64 0,.int .i64 0],.bool false]) w:=by kernel_rfl
theorem qmg (v:Value) (w:World):(Instr.typeAssert (.iface 198 v) 167 206 true).run Tryz.prog w=.ok (.tuple #[.agg #[],.bool false]) w:=by kernel_rfl
theorem qkh (v:Value) (w:World):(Instr.typeAssert (.iface 200 v) 167 192 true).run Tryz.prog w=.ok (.tuple #[.agg #[.int .i64 0,.int .i64 0],.bool false]) w:=by kernel_rfl
theorem qiq (v:Value) (w:World):(Instr.typeAssert (.iface 200 v) 167 194 true).run Tryz.prog w=.ok (.tuple #[.agg #[.int .i64 0,.int .i64 0,.int .i64 0,.int .i64 0],.bool false]) w:=by kernel_rfl
theorem qe0 (v:Value) (w:World):(Instr.typeAssert (.iface 200 v) 167 196 true).run Tryz.prog w=.ok (.tuple #[.agg #[.int .i64 0,.int .i64 0],.bool false]) w:=by kernel_rfl
theorem qe1 (v:Value) (w:World):(Instr.typeAssert (.iface 200 v) 167 198 true).run Tryz.prog w=.ok (.tuple #[.agg #[.int .i64 0,.int .i64 0],.bool false]) w:=by kernel_rfl
theorem qek (v:Value) (w:World):(Instr.typeAssert (.iface 200 v) 167 200 true).run Tryz.prog w=.ok (.tuple #[v,.bool true]) w:=by kernel_rfl
theorem qir (v:Value) (w:World):(Instr.typeAssert (.iface 200 v) 167 202 true).run Tryz.prog w=.ok (.tuple #[.agg #[.int .i64 0],.bool false]) w:=by kernel_rfl
theorem qis (v:Value) (w:World):(Instr.typeAssert (.iface 200 v) 167 204 true).run Tryz.prog w=.ok (.tuple #[.agg #[.int .i64 0,.int .i64 0],.bool false]) w:=by kernel_rfl
theorem qkg (v:Value) (w:World):(Instr.typeAssert (.iface 200 v) 167 206 true).run Tryz.prog w=.ok (.tuple #[.agg #[],.bool false]) w:=by kernel_rfl
theorem qma (v:Value) (w:World):(Instr.typeAssert (.iface 202 v) 167 192 true).run Tryz.prog w=.ok (.tuple #[.agg #[.int .i64 0,.int .i64 0],.bool false]) w:=by kernel_rfl
theorem qkd (v:Value) (w:World):(Instr.typeAssert (.iface 202 v) 167 194 true).run Tryz.prog w=.ok (.tuple #[.agg #[.int .i64 0,.int .i64 0,.int .i64 0,.int .i64 0],.bool false]) w:=by kernel_rfl
theorem qge (v:Value) (w:World):(Instr.typeAssert (.iface 202 v) 167 196 true).run Tryz.prog w=.ok (.tuple #[.agg #[.int .i64 0,.int .i64 0],.bool false]) w:=by kernel_rfl
theorem qgf (v:Value) (w:World):(Instr.typeAssert (.iface 202 v) 167 198 true).run Tryz.prog w=.ok (.tuple #[.agg #[.int .i64 0,.int .i64 0],.bool false]) w:=by kernel_rfl
theorem qez (v:Value) (w:World):(Instr.typeAssert (.iface 202 v) 167 200 true).run Tryz.prog w=.ok (.tuple #[.agg #[.int .i64 0],.bool false]) w:=by kernel_rfl
theorem qke (v:Value) (w:World):(Instr.typeAssert (.iface 202 v) 167 202 true).run Tryz.prog w=.ok (.tuple #[v,.bool true]) w:=by kernel_rfl
theorem qkf (v:Value) (w:World):(Instr.typeAssert (.iface 202 v) 167 204 true).run Tryz.prog w=.ok (.tuple #[.agg #[.int .i64 0,.int .i64 0],.bool false]) w:=by kernel_rfl
theorem ql9 (v:Value) (w:World):(Instr.typeAssert (.iface 202 v) 167 206 true).run Tryz.prog w=.ok (.tuple #[.agg #[],.bool false]) w:=by kernel_rfl
theorem qmj (v:Value) (w:World):(Instr.typeAssert (.iface 204 v) 167 192 true).run Tryz.prog w=.ok (.tuple #[.agg #[.int .i64 0,.int .i64 0],.bool false]) w:=by kernel_rfl
theorem qkp (v:Value) (w:World):(Instr.typeAssert (.iface 204 v) 167 194 true).run Tryz.prog w=.ok (.tuple #[.agg #[.int .i64 0,.int .i64 0,.int .i64 0,.int .i64 0],.bool false]) w:=by kernel_rfl
theorem qgk (v:Value) (w:World):(Instr.typeAssert (.iface 204 v) 167 196 true).run Tryz.prog w=.ok (.tuple #[.agg #[.int .i64 0,.int .i64 0],.bool false]) w:=by kernel_rfl
theorem qgl (v:Value) (w:World):(Instr.typeAssert (.iface 204 v) 167 198 true).run Tryz.prog w=.ok (.tuple #[.agg #[.int .i64 0,.int .i64 0],.bool false]) w:=by kernel_rfl
theorem qe2 (v:Value) (w:World):(Instr.typeAssert (.iface 204 v) 167 200 true).run Tryz.prog w=.ok (.tuple #[.agg #[.int .i64 0],.bool false]) w:=by kernel_rfl
theorem qkq (v:Value) (w:World):(Instr.typeAssert (.iface 204 v) 167 202 true).run Tryz.prog w=.ok (.tuple #[.agg #[.int .i64 0],.bool false]) w:=by kernel_rfl
theorem qkr (v:Value) (w:World):(Instr.typeAssert (.iface 204 v) 167 204 true).run Tryz.prog w=.ok (.tuple #[v,.bool true]) w:=by kernel_rfl
theorem qmi (v:Value) (w:World):(Instr.typeAssert (.iface 204 v) 167 206 true).run Tryz.prog w=.ok (.tuple #[.agg #[],.bool false]) w:=by kernel_rfl
theorem qoy (v:Value) (w:World):(Instr.typeAssert (.iface 206 v) 167 192 true).run Tryz.prog w=.ok (.tuple #[.agg #[.int .i64 0,.int .i64 0],.bool false]) w:=by kernel_rfl
theorem ql6 (v:Value) (w:World):(Instr.typeAssert (.iface 206 v) 167 194 true).run Tryz.prog w=.ok (.tuple #[.agg #[.int .i64 0,.int .i64 0,.int .i64 0,.int .i64 0],.bool false]) w:=by kernel_rfl
theorem qg3 (v:Value) (w:World):(Instr.typeAssert (.iface 206 v) 167 196 true).run Tryz.prog w=.ok (.tuple #[.agg #[.int .i64 0,.int .i64 0],.bool false]) w:=by kernel_rfl
theorem qg4 (v:Value) (w:World):(Instr.typeAssert (.iface 206 v) 167 198 true).run Tryz.prog w=.ok (.tuple #[.agg #[.int .i64 0,.int .i64 0],.bool false]) w:=by kernel_rfl
theorem qgd (v:Value) (w:World):(Instr.typeAssert (.iface 206 v) 167 200 true).run Tryz.prog w=.ok (.tuple #[.agg #[.int .i64 0],.bool false]) w:=by kernel_rfl
theorem ql7 (v:Value) (w:World):(Instr.typeAssert (.iface 206 v) 167 202 true).run Tryz.prog w=.ok (.tuple #[.agg #[.int .i64 0],.bool false]) w:=by kernel_rfl
theorem ql8 (v:Value) (w:World):(Instr.typeAssert (.iface 206 v) 167 204 true).run Tryz.prog w=.ok (.tuple #[.agg #[.int .i64 0,.int .i64 0],.bool false]) w:=by kernel_rfl
theorem qox (v:Value) (w:World):(Instr.typeAssert (.iface 206 v) 167 206 true).run Tryz.prog w=.ok (.tuple #[v,.bool true]) w:=by kernel_rfl
attribute [local go_sem] qo0 qmd qg5 qg6 qgh qme qmf qoz ql5 qka qgb qgc qey qkb qkc ql4 qmc qki qgg qkk qit qkj qkl qmb qmh qkm qgi qgj qiu qkn qko qmg qkh qiq qe0 qe1 qek qir qis qkg qma qkd qge qgf qez qke qkf ql9 qmj qkp qgk qgl qe2 qkq qkr qmi qoy ql6 qg3 qg4 qgd ql7 ql8 qox
theorem qsw (r n places procs:Int) (w:World):
  Calls Tryz.prog 122 #[.iface 192 (setV r n),.int .i64 places,.int .i64 procs] w fun e w'=>e=.returned (.bool (belB r 4 && inB n (-1000000000) 1000000000))/\Below w.heap.size w w':=by
 rcases zK (belB r 4) with t0 | t0 <;> rcases zK (inB n (-1000000000) 1000000000) with t1 | t1
 all_goals
  go_enter Tryz.func122,Tryz.ntmps122
  go_wp2_with (first|(go_at_call 147;refine (qck _ _).mono ?_;rintro e w' ⟨rfl,rfl⟩)|(go_at_call 123;refine (isNum_any _ _).mono ?_;rintro e w' ⟨rfl,rfl⟩)|(go_at_call 22;refine (isBelow_any _ _ _).mono ?_;rintro e w' ⟨rfl,rfl⟩))
  go_ret;exact ⟨by rw [t0,t1] <;> rfl,by go_grown⟩
theorem qqm (op r a b places procs:Int) (w:World):
  Calls Tryz.prog 122 #[.iface 194 (qiw op r a b),.int .i64 places,.int .i64 procs] w fun e w'=>e=.returned (.bool (belB r 4 && belB a 4 && belB b 4))/\Below w.heap.size w w':=by
 rcases zK (belB r 4) with t0 | t0 <;> rcases zK (belB a 4) with t1 | t1 <;> rcases zK (belB b 4) with t2 | t2
 all_goals
  go_enter Tryz.func122,Tryz.ntmps122
  go_wp2_with (first|(go_at_call 147;refine (qck _ _).mono ?_;rintro e w' ⟨rfl,rfl⟩)|(go_at_call 123;refine (isNum_any _ _).mono ?_;rintro e w' ⟨rfl,rfl⟩)|(go_at_call 22;refine (isBelow_any _ _ _).mono ?_;rintro e w' ⟨rfl,rfl⟩))
  go_ret;exact ⟨by rw [t0,t1,t2] <;> rfl,by go_grown⟩
theorem qqo (n a places procs:Int) (w:World):
  Calls Tryz.prog 122 #[.iface 196 (qry n a),.int .i64 places,.int .i64 procs] w fun e w'=>e=.returned (.bool (belB a 4 && belB n procs))/\Below w.heap.size w w':=by
 rcases zK (belB a 4) with t0 | t0 <;> rcases zK (belB n procs) with t1 | t1
 all_goals
  go_enter Tryz.func122,Tryz.ntmps122
  go_wp2_with (first|(go_at_call 147;refine (qck _ _).mono ?_;rintro e w' ⟨rfl,rfl⟩)|(go_at_call 123;refine (isNum_any _ _).mono ?_;rintro e w' ⟨rfl,rfl⟩)|(go_at_call 22;refine (isBelow_any _ _ _).mono ?_;rintro e w' ⟨rfl,rfl⟩))
  go_ret;exact ⟨by rw [t0,t1] <;> rfl,by go_grown⟩
theorem qqp (r n places procs:Int) (w:World):
  Calls Tryz.prog 122 #[.iface 198 (qr7 r n),.int .i64 places,.int .i64 procs] w fun e w'=>e=.returned (.bool (belB r 4 && ((n == 9) || belB n procs)))/\Below w.heap.size w w':=by
 rcases zK (belB r 4) with t0 | t0 <;> rcases zK ((n == 9)) with t1 | t1 <;> rcases zK (belB n procs) with t2 | t2
 all_goals
  go_enter Tryz.func122,Tryz.ntmps122
  go_wp2_with (first|(go_at_call 147;refine (qck _ _).mono ?_;rintro e w' ⟨rfl,rfl⟩)|(go_at_call 123;refine (isNum_any _ _).mono ?_;rintro e w' ⟨rfl,rfl⟩)|(go_at_call 22;refine (isBelow_any _ _ _).mono ?_;rintro e w' ⟨rfl,rfl⟩))
  go_ret;exact ⟨by rw [t0,t1,t2] <;> rfl,by go_grown⟩
theorem qo8 (a places procs:Int) (w:World):
  Calls Tryz.prog 122 #[.iface 200 (qlj a),.int .i64 places,.int .i64 procs] w fun e w'=>e=.returned (.bool (belB a 4))/\Below w.heap.size w w':=by
 go_enter Tryz.func122,Tryz.ntmps122
 go_wp2_with (first|(go_at_call 147;refine (qck _ _).mono ?_;rintro e w' ⟨rfl,rfl⟩)|(go_at_call 123;refine (isNum_any _ _).mono ?_;rintro e w' ⟨rfl,rfl⟩)|(go_at_call 22;refine (isBelow_any _ _ _).mono ?_;rintro e w' ⟨rfl,rfl⟩))
 go_ret;exact ⟨rfl,by go_grown⟩
theorem qqn (n places procs:Int) (w:World):
  Calls Tryz.prog 122 #[.iface 202 (qq0 n),.int .i64 places,.int .i64 procs] w fun e w'=>e=.returned (.bool (belB n places))/\Below w.heap.size w w':=by
 go_enter Tryz.func122,Tryz.ntmps122
 go_wp2_with (first|(go_at_call 147;refine (qck _ _).mono ?_;rintro e w' ⟨rfl,rfl⟩)|(go_at_call 123;refine (isNum_any _ _).mono ?_;rintro e w' ⟨rfl,rfl⟩)|(go_at_call 22;refine (isBelow_any _ _ _).mono ?_;rintro e w' ⟨rfl,rfl⟩))
 go_ret;exact ⟨rfl,by go_grown⟩
theorem qqq (a n places procs:Int) (w:World):
  Calls Tryz.prog 122 #[.iface 204 (qsi a n),.int .i64 places,.int .i64 procs] w fun e w'=>e=.returned (.bool (belB a 4 && belB n places))/\Below w.heap.size w w':=by
 rcases zK (belB a 4) with t0 | t0 <;> rcases zK (belB n places) with t1 | t1
 all_goals
  go_enter Tryz.func122,Tryz.ntmps122
  go_wp2_with (first|(go_at_call 147;refine (qck _ _).mono ?_;rintro e w' ⟨rfl,rfl⟩)|(go_at_call 123;refine (isNum_any _ _).mono ?_;rintro e w' ⟨rfl,rfl⟩)|(go_at_call 22;refine (isBelow_any _ _ _).mono ?_;rintro e w' ⟨rfl,rfl⟩))
  go_ret;exact ⟨by rw [t0,t1] <;> rfl,by go_grown⟩
theorem qsv (places procs:Int) (w:World):
  Calls Tryz.prog 122 #[.iface 206 endV,.int .i64 places,.int .i64 procs] w fun e w'=>e=.returned (.bool (true))/\Below w.heap.size w w':=by
 go_enter Tryz.func122,Tryz.ntmps122
 go_wp2_with (first|(go_at_call 147;refine (qck _ _).mono ?_;rintro e w' ⟨rfl,rfl⟩)|(go_at_call 123;refine (isNum_any _ _).mono ?_;rintro e w' ⟨rfl,rfl⟩)|(go_at_call 22;refine (isBelow_any _ _ _).mono ?_;rintro e w' ⟨rfl,rfl⟩))
 go_ret;exact ⟨rfl,by go_grown⟩
def qa3 (o1 r1 a1 b1 n1 o2 r2 a2 b2 n2:Int):Bool:=o1 == o2 && (r1 == r2 && (a1 == a2 && (b1 == b2 && n1 == n2)))
theorem qbz (o1 r1 a1 b1 n1 o2 r2 a2 b2 n2:Int) (w:World):(binOp .eql 97 (insV o1 r1 a1 b1 n1) (insV o2 r2 a2 b2 n2)).run Tryz.prog w=.ok (.bool (qa3 o1 r1 a1 b1 n1 o2 r2 a2 b2 n2)) w:=by
 rw [run_eql_struct,show (10000:Nat)=9998+1+1 from rfl,run_equalIn_agg w (9998+1) 97 _ _ (by kernel_rfl) (by kernel_rfl)];simp only [qa3];by_cases h1:o1=o2 <;> by_cases h2:r1=r2 <;> by_cases h3:a1=a2 <;> by_cases h4:b1=b2 <;> by_cases h5:n1=n2 <;> simp [go_sem,h1,h2,h3,h4,h5]
theorem qh3 {w w1:World} {o:Obj} (h1:Below (w.alloc o).heap.size (w.alloc o) w1):Below w.heap.size w w1.drew:=by
 have h0:Below w.heap.size w (w.alloc o):=(Below.refl _ _).alloc (Nat.le_refl _) _;have hs:w.heap.size<=(w.alloc o).heap.size:=by simp
 exact (h0.trans (h1.mono hs)).drew
theorem qa8 {w w1 w2:World} {o:Obj} (h1:Below (w.alloc o).heap.size (w.alloc o) w1) (h2:Below w1.drew.heap.size w1.drew w2):Below w.heap.size w w2:=by
 have h0:Below w.heap.size w (w.alloc o):=(Below.refl _ _).alloc (Nat.le_refl _) _;have hs:w.heap.size<=(w.alloc o).heap.size:=by simp
 exact (h0.trans (h1.mono hs)).drew.trans (h2.mono (zP hs h1.size))
theorem qbd {w w1 w2 w3:World} {o:Obj} (h1:Below (w.alloc o).heap.size (w.alloc o) w1) (h2:Below w1.drew.heap.size w1.drew w2) (h3:Below w2.heap.size w2 w3):Below w.heap.size w w3:=
 qa8 h1 (h2.trans (h3.mono h2.size))
