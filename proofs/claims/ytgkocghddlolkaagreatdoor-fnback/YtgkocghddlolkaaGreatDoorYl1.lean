import Derived.Test.YtgkocghddlolkaaGreatDoorYl0
import Derived.WalkKit
import Derived.WalkSpells
import Derived.WalkLawsBesides
import Derived.Handy
namespace Go.Proofs.YtgkocghddlolkaaGreatDoor
open Go.Proofs.Tryz
set_option maxHeartbeats 1000000
open Go.RowKit
def inB (x lo hi:Int):Bool:=decide (lo<=x/\x<=hi)
def belB (x n:Int):Bool:=decide (0<=x/\x<n)
theorem l1In_any (x lo hi:Int) (w:World):
  Calls prog 19 #[.int .i64 x,.int .i64 lo,.int .i64 hi] w fun e w'=>e=.returned (.bool (inB x lo hi))/\w'=w:=by
 by_cases h1:lo<=x
 ·by_cases h2:x<=hi
  ·go_enter func19,ntmps19
   go_wp2;go_ret;exact ⟨by simp [inB,h1,h2],rfl⟩
  ·go_enter func19,ntmps19
   go_wp2;go_ret;exact ⟨by simp [inB,h1,h2],rfl⟩
 ·go_enter func19,ntmps19
  go_wp2;go_ret;exact ⟨by simp [inB];omega,rfl⟩
theorem isBelow_any (x n:Int) (w:World):
  Calls prog 13 #[.int .i64 x,.int .i64 n] w fun e w'=>e=.returned (.bool (belB x n))/\w'=w:=by
 by_cases h1:0<=x
 ·by_cases h2:x<n
  ·go_enter func13,ntmps13
   go_wp2;go_ret;exact ⟨by simp [belB,h1,h2],rfl⟩
  ·go_enter func13,ntmps13
   go_wp2;go_ret;exact ⟨by simp [belB,h1,h2],rfl⟩
 ·go_enter func13,ntmps13
  go_wp2;go_ret;exact ⟨by simp [belB];omega,rfl⟩
theorem qco (x:Int) (w:World):
  Calls prog 132 #[.int .i64 x] w fun e w'=>e=.returned (.bool (belB x 4))/\w'=w:=by
 go_enter func132,ntmps132
 go_wp2_with (go_at_call 13;refine (isBelow_any _ _ _).mono ?_;rintro e w' ⟨rfl,rfl⟩)
 go_ret;exact ⟨rfl,rfl⟩
theorem isNum_any (x:Int) (w:World):
  Calls prog 123 #[.int .i64 x] w fun e w'=>e=.returned (.bool (inB x (-1000000000) 1000000000))/\w'=w:=by
 by_cases h1:-1000000000<=x
 ·by_cases h2:x<=1000000000
  ·go_enter func123,ntmps123
   go_wp2;go_ret;exact ⟨by simp [inB,h1,h2],rfl⟩
  ·go_enter func123,ntmps123
   go_wp2;go_ret;exact ⟨by simp [inB,h1,h2],rfl⟩
 ·go_enter func123,ntmps123
  go_wp2;go_ret;exact ⟨by simp [inB];omega,rfl⟩
theorem l1Num_any (x:Int) (w:World):
  Calls prog 97 #[.int .i64 x] w fun e w'=>e=.returned (.bool (inB x (-1000000000) 1000000000))/\w'=w:=by
 go_enter func97,ntmps97
 go_wp2_with (go_at_call 19;refine (l1In_any _ _ _ _).mono ?_;rintro e w' ⟨rfl,rfl⟩)
 go_ret;exact ⟨rfl,rfl⟩
abbrev insV (op r a b n:Int):Value:=.agg #[.int .i64 op,.int .i64 r,.int .i64 a,.int .i64 b,.int .i64 n]
abbrev setV (r n:Int):Value:=.agg #[.int .i64 r,.int .i64 n]
theorem qfg (r a b n:Int) (w:World):
  Calls prog 115 #[insV 1 r a b n] w (rB w (.iface 179 (setV r n))):=by
 go_enter func115,ntmps115
 go_wp2;go_ret;exact ⟨rfl,by go_grown⟩
theorem qrb (r n:Int) (w:World):
  Calls prog 188 #[setV r n] w (rB w (insV 1 r 0 0 n)):=by
 go_enter func188,ntmps188
 go_wp2;refine bodyPost_ret (v:=insV 1 r 0 0 n) (by simp [results,results188,go_sem]) rfl ⟨rfl,?_⟩
 go_grown
abbrev qi3 (op r a b:Int):Value:=.agg #[.int .i64 op,.int .i64 r,.int .i64 a,.int .i64 b]
theorem qf4 (r a b n:Int) (w:World):
  Calls prog 115 #[insV 2 r a b n] w (rB w (.iface 181 (qi3 2 r a b))):=by
 go_enter func115,ntmps115
 go_wp2;go_ret;exact ⟨rfl,by go_grown⟩
theorem qf5 (r a b n:Int) (w:World):
  Calls prog 115 #[insV 3 r a b n] w (rB w (.iface 181 (qi3 3 r a b))):=by
 go_enter func115,ntmps115
 go_wp2;go_ret;exact ⟨rfl,by go_grown⟩
theorem qf6 (r a b n:Int) (w:World):
  Calls prog 115 #[insV 4 r a b n] w (rB w (.iface 181 (qi3 4 r a b))):=by
 go_enter func115,ntmps115
 go_wp2;go_ret;exact ⟨rfl,by go_grown⟩
theorem qf7 (r a b n:Int) (w:World):
  Calls prog 115 #[insV 5 r a b n] w (rB w (.iface 181 (qi3 5 r a b))):=by
 go_enter func115,ntmps115
 go_wp2;go_ret;exact ⟨rfl,by go_grown⟩
theorem qn7 (op r a b:Int) (w:World):
  Calls prog 189 #[qi3 op r a b] w (rB w (insV op r a b 0)):=by
 go_enter func189,ntmps189
 go_wp2;refine bodyPost_ret (v:=insV op r a b 0) (by simp [results,results189,go_sem]) rfl ⟨rfl,?_⟩
 go_grown
abbrev qr9 (n a:Int):Value:=.agg #[.int .i64 n,.int .i64 a]
theorem qef (r a b n:Int) (w:World):
  Calls prog 115 #[insV 6 r a b n] w (rB w (.iface 183 (qr9 n a))):=by
 go_enter func115,ntmps115
 go_wp2;go_ret;exact ⟨rfl,by go_grown⟩
theorem qn9 (n a:Int) (w:World):
  Calls prog 190 #[qr9 n a] w (rB w (insV 6 0 a 0 n)):=by
 go_enter func190,ntmps190
 go_wp2;refine bodyPost_ret (v:=insV 6 0 a 0 n) (by simp [results,results190,go_sem]) rfl ⟨rfl,?_⟩
 go_grown
abbrev qsi (r n:Int):Value:=.agg #[.int .i64 r,.int .i64 n]
theorem qeg (r a b n:Int) (w:World):
  Calls prog 115 #[insV 7 r a b n] w (rB w (.iface 185 (qsi r n))):=by
 go_enter func115,ntmps115
 go_wp2;go_ret;exact ⟨rfl,by go_grown⟩
theorem qob (r n:Int) (w:World):
  Calls prog 191 #[qsi r n] w (rB w (insV 7 r 0 0 n)):=by
 go_enter func191,ntmps191
 go_wp2;refine bodyPost_ret (v:=insV 7 r 0 0 n) (by simp [results,results191,go_sem]) rfl ⟨rfl,?_⟩
 go_grown
abbrev qlm (a:Int):Value:=.agg #[.int .i64 a]
theorem qd2 (r a b n:Int) (w:World):
  Calls prog 115 #[insV 8 r a b n] w (rB w (.iface 187 (qlm a))):=by
 go_enter func115,ntmps115
 go_wp2;go_ret;exact ⟨rfl,by go_grown⟩
theorem qlb (a:Int) (w:World):
  Calls prog 192 #[qlm a] w (rB w (insV 8 0 a 0 0)):=by
 go_enter func192,ntmps192
 go_wp2;refine bodyPost_ret (v:=insV 8 0 a 0 0) (by simp [results,results192,go_sem]) rfl ⟨rfl,?_⟩
 go_grown
abbrev qrf (n:Int):Value:=.agg #[.int .i64 n]
theorem qee (r a b n:Int) (w:World):
  Calls prog 115 #[insV 9 r a b n] w (rB w (.iface 189 (qrf n))):=by
 go_enter func115,ntmps115
 go_wp2;go_ret;exact ⟨rfl,by go_grown⟩
theorem qn8 (n:Int) (w:World):
  Calls prog 193 #[qrf n] w (rB w (insV 9 0 0 0 n)):=by
 go_enter func193,ntmps193
 go_wp2;refine bodyPost_ret (v:=insV 9 0 0 0 n) (by simp [results,results193,go_sem]) rfl ⟨rfl,?_⟩
 go_grown
abbrev qsw (a n:Int):Value:=.agg #[.int .i64 a,.int .i64 n]
theorem qeh (r a b n:Int) (w:World):
  Calls prog 115 #[insV 10 r a b n] w (rB w (.iface 191 (qsw a n))):=by
 go_enter func115,ntmps115
 go_wp2;go_ret;exact ⟨rfl,by go_grown⟩
theorem qod (a n:Int) (w:World):
  Calls prog 194 #[qsw a n] w (rB w (insV 10 0 a 0 n)):=by
 go_enter func194,ntmps194
 go_wp2;refine bodyPost_ret (v:=insV 10 0 a 0 n) (by simp [results,results194,go_sem]) rfl ⟨rfl,?_⟩
 go_grown
abbrev endV:Value:=.agg #[]
theorem qff (r a b n:Int) (w:World):
  Calls prog 115 #[insV 11 r a b n] w (rB w (.iface 193 endV)):=by
 go_enter func115,ntmps115
 go_wp2;go_ret;exact ⟨rfl,by go_grown⟩
theorem qq9 (w:World):
  Calls prog 195 #[endV] w (rB w (insV 11 0 0 0 0)):=by
 go_enter func195,ntmps195
 go_wp2;refine bodyPost_ret (v:=insV 11 0 0 0 0) (by simp [results,results195,go_sem]) rfl ⟨rfl,?_⟩
 go_grown
theorem qg2 (op r a b n:Int) (w:World) (h1:2<=op) (h2:op<=5):
  Calls prog 115 #[insV op r a b n] w (rB w (.iface 181 (qi3 op r a b))):=by
 have h:op=2\/op=3\/op=4\/op=5:=by omega
 rcases h with rfl | rfl | rfl | rfl
 ·exact qf4 r a b n w
 ·exact qf5 r a b n w
 ·exact qf6 r a b n w
 ·exact qf7 r a b n w
theorem qll (op r a b n:Int) (w:World) (h:op<1\/11<op):
  Calls prog 115 #[insV op r a b n] w fun e w'=>e=.returned .nilIface/\Bw w w':=by
 have h1:(op == 1)=false:=by simp;omega
 have h2:(op == 2)=false:=by simp;omega
 have h3:(op == 3)=false:=by simp;omega
 have h4:(op == 4)=false:=by simp;omega
 have h5:(op == 5)=false:=by simp;omega
 have h6:(op == 6)=false:=by simp;omega
 have h7:(op == 7)=false:=by simp;omega
 have h8:(op == 8)=false:=by simp;omega
 have h9:(op == 9)=false:=by simp;omega
 have h10:(op == 10)=false:=by simp;omega
 have h11:(op == 11)=false:=by simp;omega
 clear h
 go_enter func115,ntmps115
 go_wp2;go_ret;exact ⟨rfl,by go_grown⟩
theorem qo8 (v:Value) (w:World):(Instr.typeAssert (.iface 179 v) 151 179 true).run prog w=.ok (.tuple #[v,.bool true]) w:=by kernel_rfl
theorem qhk (v:Value) (w:World):(Instr.typeAssert (.iface 179 v) 151 183 true).run prog w=.ok (.tuple #[.agg #[.int .i64 0,.int .i64 0],.bool false]) w:=by kernel_rfl
theorem qhl (v:Value) (w:World):(Instr.typeAssert (.iface 179 v) 151 185 true).run prog w=.ok (.tuple #[.agg #[.int .i64 0,.int .i64 0],.bool false]) w:=by kernel_rfl
theorem qgw (v:Value) (w:World):(Instr.typeAssert (.iface 179 v) 151 187 true).run prog w=.ok (.tuple #[.agg #[.int .i64 0],.bool false]) w:=by kernel_rfl
theorem ql6 (v:Value) (w:World):(Instr.typeAssert (.iface 181 v) 151 179 true).run prog w=.ok (.tuple #[.agg #[.int .i64 0,.int .i64 0],.bool false]) w:=by kernel_rfl
theorem qkk (v:Value) (w:World):(Instr.typeAssert (.iface 181 v) 151 181 true).run prog w=.ok (.tuple #[v,.bool true]) w:=by kernel_rfl
theorem qgq (v:Value) (w:World):(Instr.typeAssert (.iface 181 v) 151 183 true).run prog w=.ok (.tuple #[.agg #[.int .i64 0,.int .i64 0],.bool false]) w:=by kernel_rfl
theorem qgr (v:Value) (w:World):(Instr.typeAssert (.iface 181 v) 151 185 true).run prog w=.ok (.tuple #[.agg #[.int .i64 0,.int .i64 0],.bool false]) w:=by kernel_rfl
theorem qfk (v:Value) (w:World):(Instr.typeAssert (.iface 181 v) 151 187 true).run prog w=.ok (.tuple #[.agg #[.int .i64 0],.bool false]) w:=by kernel_rfl
theorem qmb (v:Value) (w:World):(Instr.typeAssert (.iface 183 v) 151 179 true).run prog w=.ok (.tuple #[.agg #[.int .i64 0,.int .i64 0],.bool false]) w:=by kernel_rfl
theorem qko (v:Value) (w:World):(Instr.typeAssert (.iface 183 v) 151 181 true).run prog w=.ok (.tuple #[.agg #[.int .i64 0,.int .i64 0,.int .i64 0,.int .i64 0],.bool false]) w:=by kernel_rfl
theorem qgv (v:Value) (w:World):(Instr.typeAssert (.iface 183 v) 151 183 true).run prog w=.ok (.tuple #[v,.bool true]) w:=by kernel_rfl
theorem qmc (v:Value) (w:World):(Instr.typeAssert (.iface 185 v) 151 179 true).run prog w=.ok (.tuple #[.agg #[.int .i64 0,.int .i64 0],.bool false]) w:=by kernel_rfl
theorem qkp (v:Value) (w:World):(Instr.typeAssert (.iface 185 v) 151 181 true).run prog w=.ok (.tuple #[.agg #[.int .i64 0,.int .i64 0,.int .i64 0,.int .i64 0],.bool false]) w:=by kernel_rfl
theorem qgx (v:Value) (w:World):(Instr.typeAssert (.iface 185 v) 151 183 true).run prog w=.ok (.tuple #[.agg #[.int .i64 0,.int .i64 0],.bool false]) w:=by kernel_rfl
theorem qgy (v:Value) (w:World):(Instr.typeAssert (.iface 185 v) 151 185 true).run prog w=.ok (.tuple #[v,.bool true]) w:=by kernel_rfl
theorem qkn (v:Value) (w:World):(Instr.typeAssert (.iface 187 v) 151 179 true).run prog w=.ok (.tuple #[.agg #[.int .i64 0,.int .i64 0],.bool false]) w:=by kernel_rfl
theorem qi1 (v:Value) (w:World):(Instr.typeAssert (.iface 187 v) 151 181 true).run prog w=.ok (.tuple #[.agg #[.int .i64 0,.int .i64 0,.int .i64 0,.int .i64 0],.bool false]) w:=by kernel_rfl
theorem qfm (v:Value) (w:World):(Instr.typeAssert (.iface 187 v) 151 183 true).run prog w=.ok (.tuple #[.agg #[.int .i64 0,.int .i64 0],.bool false]) w:=by kernel_rfl
theorem qfn (v:Value) (w:World):(Instr.typeAssert (.iface 187 v) 151 185 true).run prog w=.ok (.tuple #[.agg #[.int .i64 0,.int .i64 0],.bool false]) w:=by kernel_rfl
theorem qe3 (v:Value) (w:World):(Instr.typeAssert (.iface 187 v) 151 187 true).run prog w=.ok (.tuple #[v,.bool true]) w:=by kernel_rfl
theorem qma (v:Value) (w:World):(Instr.typeAssert (.iface 189 v) 151 179 true).run prog w=.ok (.tuple #[.agg #[.int .i64 0,.int .i64 0],.bool false]) w:=by kernel_rfl
theorem qkl (v:Value) (w:World):(Instr.typeAssert (.iface 189 v) 151 181 true).run prog w=.ok (.tuple #[.agg #[.int .i64 0,.int .i64 0,.int .i64 0,.int .i64 0],.bool false]) w:=by kernel_rfl
theorem qgt (v:Value) (w:World):(Instr.typeAssert (.iface 189 v) 151 183 true).run prog w=.ok (.tuple #[.agg #[.int .i64 0,.int .i64 0],.bool false]) w:=by kernel_rfl
theorem qgu (v:Value) (w:World):(Instr.typeAssert (.iface 189 v) 151 185 true).run prog w=.ok (.tuple #[.agg #[.int .i64 0,.int .i64 0],.bool false]) w:=by kernel_rfl
theorem qfl (v:Value) (w:World):(Instr.typeAssert (.iface 189 v) 151 187 true).run prog w=.ok (.tuple #[.agg #[.int .i64 0],.bool false]) w:=by kernel_rfl
theorem qkm (v:Value) (w:World):(Instr.typeAssert (.iface 189 v) 151 189 true).run prog w=.ok (.tuple #[v,.bool true]) w:=by kernel_rfl
theorem qmd (v:Value) (w:World):(Instr.typeAssert (.iface 191 v) 151 179 true).run prog w=.ok (.tuple #[.agg #[.int .i64 0,.int .i64 0],.bool false]) w:=by kernel_rfl
theorem qkq (v:Value) (w:World):(Instr.typeAssert (.iface 191 v) 151 181 true).run prog w=.ok (.tuple #[.agg #[.int .i64 0,.int .i64 0,.int .i64 0,.int .i64 0],.bool false]) w:=by kernel_rfl
theorem qgz (v:Value) (w:World):(Instr.typeAssert (.iface 191 v) 151 183 true).run prog w=.ok (.tuple #[.agg #[.int .i64 0,.int .i64 0],.bool false]) w:=by kernel_rfl
theorem qg0 (v:Value) (w:World):(Instr.typeAssert (.iface 191 v) 151 185 true).run prog w=.ok (.tuple #[.agg #[.int .i64 0,.int .i64 0],.bool false]) w:=by kernel_rfl
theorem qfo (v:Value) (w:World):(Instr.typeAssert (.iface 191 v) 151 187 true).run prog w=.ok (.tuple #[.agg #[.int .i64 0],.bool false]) w:=by kernel_rfl
theorem qkr (v:Value) (w:World):(Instr.typeAssert (.iface 191 v) 151 189 true).run prog w=.ok (.tuple #[.agg #[.int .i64 0],.bool false]) w:=by kernel_rfl
theorem qks (v:Value) (w:World):(Instr.typeAssert (.iface 191 v) 151 191 true).run prog w=.ok (.tuple #[v,.bool true]) w:=by kernel_rfl
theorem qo7 (v:Value) (w:World):(Instr.typeAssert (.iface 193 v) 151 179 true).run prog w=.ok (.tuple #[.agg #[.int .i64 0,.int .i64 0],.bool false]) w:=by kernel_rfl
theorem ql7 (v:Value) (w:World):(Instr.typeAssert (.iface 193 v) 151 181 true).run prog w=.ok (.tuple #[.agg #[.int .i64 0,.int .i64 0,.int .i64 0,.int .i64 0],.bool false]) w:=by kernel_rfl
theorem qhi (v:Value) (w:World):(Instr.typeAssert (.iface 193 v) 151 183 true).run prog w=.ok (.tuple #[.agg #[.int .i64 0,.int .i64 0],.bool false]) w:=by kernel_rfl
theorem qhj (v:Value) (w:World):(Instr.typeAssert (.iface 193 v) 151 185 true).run prog w=.ok (.tuple #[.agg #[.int .i64 0,.int .i64 0],.bool false]) w:=by kernel_rfl
theorem qgs (v:Value) (w:World):(Instr.typeAssert (.iface 193 v) 151 187 true).run prog w=.ok (.tuple #[.agg #[.int .i64 0],.bool false]) w:=by kernel_rfl
theorem ql8 (v:Value) (w:World):(Instr.typeAssert (.iface 193 v) 151 189 true).run prog w=.ok (.tuple #[.agg #[.int .i64 0],.bool false]) w:=by kernel_rfl
theorem ql9 (v:Value) (w:World):(Instr.typeAssert (.iface 193 v) 151 191 true).run prog w=.ok (.tuple #[.agg #[.int .i64 0,.int .i64 0],.bool false]) w:=by kernel_rfl
theorem qo6 (v:Value) (w:World):(Instr.typeAssert (.iface 193 v) 151 193 true).run prog w=.ok (.tuple #[v,.bool true]) w:=by kernel_rfl
attribute [local go_sem] qo8 qhk qhl qgw ql6 qkk qgq qgr qfk qmb qko qgv qmc qkp qgx qgy qkn qi1 qfm qfn qe3 qma qkl qgt qgu qfl qkm qmd qkq qgz qg0 qfo qkr qks qo7 ql7 qhi qhj qgs ql8 ql9 qo6
theorem qtb (r n places procs:Int) (w:World):
  Calls prog 116 #[.iface 179 (setV r n),.int .i64 places,.int .i64 procs] w (rB w (.bool (belB r 4 && inB n (-1000000000) 1000000000))):=by
 rcases zK (belB r 4) with t0 | t0 <;> rcases zK (inB n (-1000000000) 1000000000) with t1 | t1
 all_goals
  go_enter func116,ntmps116
  go_wp2_with (first|(go_at_call 132;refine (qco _ _).mono ?_;rintro e w' ⟨rfl,rfl⟩)|(go_at_call 123;refine (isNum_any _ _).mono ?_;rintro e w' ⟨rfl,rfl⟩)|(go_at_call 13;refine (isBelow_any _ _ _).mono ?_;rintro e w' ⟨rfl,rfl⟩))
  go_ret;exact ⟨by rw [t0,t1] <;> rfl,by go_grown⟩
theorem qqw (op r a b places procs:Int) (w:World):
  Calls prog 116 #[.iface 181 (qi3 op r a b),.int .i64 places,.int .i64 procs] w (rB w (.bool (belB r 4 && belB a 4 && belB b 4))):=by
 rcases zK (belB r 4) with t0 | t0 <;> rcases zK (belB a 4) with t1 | t1 <;> rcases zK (belB b 4) with t2 | t2
 all_goals
  go_enter func116,ntmps116
  go_wp2_with (first|(go_at_call 132;refine (qco _ _).mono ?_;rintro e w' ⟨rfl,rfl⟩)|(go_at_call 123;refine (isNum_any _ _).mono ?_;rintro e w' ⟨rfl,rfl⟩)|(go_at_call 13;refine (isBelow_any _ _ _).mono ?_;rintro e w' ⟨rfl,rfl⟩))
  go_ret;exact ⟨by rw [t0,t1,t2] <;> rfl,by go_grown⟩
theorem qqy (n a places procs:Int) (w:World):
  Calls prog 116 #[.iface 183 (qr9 n a),.int .i64 places,.int .i64 procs] w (rB w (.bool (belB a 4 && belB n procs))):=by
 rcases zK (belB a 4) with t0 | t0 <;> rcases zK (belB n procs) with t1 | t1
 all_goals
  go_enter func116,ntmps116
  go_wp2_with (first|(go_at_call 132;refine (qco _ _).mono ?_;rintro e w' ⟨rfl,rfl⟩)|(go_at_call 123;refine (isNum_any _ _).mono ?_;rintro e w' ⟨rfl,rfl⟩)|(go_at_call 13;refine (isBelow_any _ _ _).mono ?_;rintro e w' ⟨rfl,rfl⟩))
  go_ret;exact ⟨by rw [t0,t1] <;> rfl,by go_grown⟩
theorem qqz (r n places procs:Int) (w:World):
  Calls prog 116 #[.iface 185 (qsi r n),.int .i64 places,.int .i64 procs] w (rB w (.bool (belB r 4 && ((n == 9) || belB n procs)))):=by
 rcases zK (belB r 4) with t0 | t0 <;> rcases zK ((n == 9)) with t1 | t1 <;> rcases zK (belB n procs) with t2 | t2
 all_goals
  go_enter func116,ntmps116
  go_wp2_with (first|(go_at_call 132;refine (qco _ _).mono ?_;rintro e w' ⟨rfl,rfl⟩)|(go_at_call 123;refine (isNum_any _ _).mono ?_;rintro e w' ⟨rfl,rfl⟩)|(go_at_call 13;refine (isBelow_any _ _ _).mono ?_;rintro e w' ⟨rfl,rfl⟩))
  go_ret;exact ⟨by rw [t0,t1,t2] <;> rfl,by go_grown⟩
theorem qpg (a places procs:Int) (w:World):
  Calls prog 116 #[.iface 187 (qlm a),.int .i64 places,.int .i64 procs] w (rB w (.bool (belB a 4))):=by
 go_enter func116,ntmps116
 go_wp2_with (first|(go_at_call 132;refine (qco _ _).mono ?_;rintro e w' ⟨rfl,rfl⟩)|(go_at_call 123;refine (isNum_any _ _).mono ?_;rintro e w' ⟨rfl,rfl⟩)|(go_at_call 13;refine (isBelow_any _ _ _).mono ?_;rintro e w' ⟨rfl,rfl⟩))
 go_ret;exact ⟨rfl,by go_grown⟩
theorem qqx (n places procs:Int) (w:World):
  Calls prog 116 #[.iface 189 (qrf n),.int .i64 places,.int .i64 procs] w (rB w (.bool (belB n places))):=by
 go_enter func116,ntmps116
 go_wp2_with (first|(go_at_call 132;refine (qco _ _).mono ?_;rintro e w' ⟨rfl,rfl⟩)|(go_at_call 123;refine (isNum_any _ _).mono ?_;rintro e w' ⟨rfl,rfl⟩)|(go_at_call 13;refine (isBelow_any _ _ _).mono ?_;rintro e w' ⟨rfl,rfl⟩))
 go_ret;exact ⟨rfl,by go_grown⟩
theorem qq0 (a n places procs:Int) (w:World):
  Calls prog 116 #[.iface 191 (qsw a n),.int .i64 places,.int .i64 procs] w (rB w (.bool (belB a 4 && belB n places))):=by
 rcases zK (belB a 4) with t0 | t0 <;> rcases zK (belB n places) with t1 | t1
 all_goals
  go_enter func116,ntmps116
  go_wp2_with (first|(go_at_call 132;refine (qco _ _).mono ?_;rintro e w' ⟨rfl,rfl⟩)|(go_at_call 123;refine (isNum_any _ _).mono ?_;rintro e w' ⟨rfl,rfl⟩)|(go_at_call 13;refine (isBelow_any _ _ _).mono ?_;rintro e w' ⟨rfl,rfl⟩))
  go_ret;exact ⟨by rw [t0,t1] <;> rfl,by go_grown⟩
theorem qta (places procs:Int) (w:World):
  Calls prog 116 #[.iface 193 endV,.int .i64 places,.int .i64 procs] w (rB w (.bool (true))):=by
 go_enter func116,ntmps116
 go_wp2_with (first|(go_at_call 132;refine (qco _ _).mono ?_;rintro e w' ⟨rfl,rfl⟩)|(go_at_call 123;refine (isNum_any _ _).mono ?_;rintro e w' ⟨rfl,rfl⟩)|(go_at_call 13;refine (isBelow_any _ _ _).mono ?_;rintro e w' ⟨rfl,rfl⟩))
 go_ret;exact ⟨rfl,by go_grown⟩
def qa6 (o1 r1 a1 b1 n1 o2 r2 a2 b2 n2:Int):Bool:=o1 == o2 && (r1 == r2 && (a1 == a2 && (b1 == b2 && n1 == n2)))
theorem qb3 (o1 r1 a1 b1 n1 o2 r2 a2 b2 n2:Int) (w:World):(binOp .eql 77 (insV o1 r1 a1 b1 n1) (insV o2 r2 a2 b2 n2)).run prog w=.ok (.bool (qa6 o1 r1 a1 b1 n1 o2 r2 a2 b2 n2)) w:=by
 rw [run_eql_struct,show (10000:Nat)=9998+1+1 from rfl,run_equalIn_agg w (9998+1) 77 _ _ (by kernel_rfl) (by kernel_rfl)];simp only [qa6];by_cases h1:o1=o2 <;> by_cases h2:r1=r2 <;> by_cases h3:a1=a2 <;> by_cases h4:b1=b2 <;> by_cases h5:n1=n2 <;> simp [go_sem,h1,h2,h3,h4,h5]
theorem qih {w w1:World} {o:Obj} (h1:Below (w.alloc o).heap.size (w.alloc o) w1):Bw w w1.drew:=by
 have h0:Bw w (w.alloc o):=(Below.refl _ _).alloc (Nat.le_refl _) _;have hs:w.heap.size<=(w.alloc o).heap.size:=by simp
 exact (h0.trans (h1.mono hs)).drew
theorem qba {w w1 w2:World} {o:Obj} (h1:Below (w.alloc o).heap.size (w.alloc o) w1) (h2:Below w1.drew.heap.size w1.drew w2):Bw w w2:=by
 have h0:Bw w (w.alloc o):=(Below.refl _ _).alloc (Nat.le_refl _) _;have hs:w.heap.size<=(w.alloc o).heap.size:=by simp
 exact (h0.trans (h1.mono hs)).drew.trans (h2.mono (zP hs h1.size))
theorem qbf {w w1 w2 w3:World} {o:Obj} (h1:Below (w.alloc o).heap.size (w.alloc o) w1) (h2:Below w1.drew.heap.size w1.drew w2) (h3:Bw w2 w3):Bw w w3:=
 qba h1 (h2.trans (h3.mono h2.size))
