import Derived.Test.YtkchlgmeinfeaaaGreatDoorMn0
import Derived.WalkSpells
import Derived.WalkLawsBesides
import Derived.Handy
namespace Go.Proofs.YtkchlgmeinfeaaaGreatDoor
open Go.Proofs.Tryz
set_option maxHeartbeats 1000000
open Go.RowKit
def inB (x lo hi:Int):Bool:=decide (lo<=x/\x<=hi)
def belB (x n:Int):Bool:=decide (0<=x/\x<n)
theorem l1In_any (x lo hi:Int) (w:World):
  Calls prog 100 #[iV x,iV lo,iV hi] w fun e w'=>e=.returned (.bool (inB x lo hi))/\w'=w:=by
 by_cases h1:lo<=x
 ·by_cases h2:x<=hi
  ·go_enter func100,ntmps100
   go_wp2;go_ret;exact ⟨by simp [inB,h1,h2],rfl⟩
  ·go_enter func100,ntmps100
   go_wp2;go_ret;exact ⟨by simp [inB,h1,h2],rfl⟩
 ·go_enter func100,ntmps100
  go_wp2;go_ret;exact ⟨by simp [inB];omega,rfl⟩
theorem isBelow_any (x n:Int) (w:World):
  Calls prog 61 #[iV x,iV n] w fun e w'=>e=.returned (.bool (belB x n))/\w'=w:=by
 by_cases h1:0<=x
 ·by_cases h2:x<n
  ·go_enter func61,ntmps61
   go_wp2;go_ret;exact ⟨by simp [belB,h1,h2],rfl⟩
  ·go_enter func61,ntmps61
   go_wp2;go_ret;exact ⟨by simp [belB,h1,h2],rfl⟩
 ·go_enter func61,ntmps61
  go_wp2;go_ret;exact ⟨by simp [belB];omega,rfl⟩
theorem qcq (x:Int) (w:World):
  Calls prog 173 #[iV x] w fun e w'=>e=.returned (.bool (belB x 4))/\w'=w:=by
 go_enter func173,ntmps173
 go_wp2_with (go_at_call 61;refine (isBelow_any _ _ _).mono ?_;rintro e w' ⟨rfl,rfl⟩)
 go_ret;exact ⟨rfl,rfl⟩
theorem isNum_any (x:Int) (w:World):
  Calls prog 143 #[iV x] w fun e w'=>e=.returned (.bool (inB x (-1000000000) 1000000000))/\w'=w:=by
 by_cases h1:-1000000000<=x
 ·by_cases h2:x<=1000000000
  ·go_enter func143,ntmps143
   go_wp2;go_ret;exact ⟨by simp [inB,h1,h2],rfl⟩
  ·go_enter func143,ntmps143
   go_wp2;go_ret;exact ⟨by simp [inB,h1,h2],rfl⟩
 ·go_enter func143,ntmps143
  go_wp2;go_ret;exact ⟨by simp [inB];omega,rfl⟩
theorem l1Num_any (x:Int) (w:World):
  Calls prog 140 #[iV x] w fun e w'=>e=.returned (.bool (inB x (-1000000000) 1000000000))/\w'=w:=by
 go_enter func140,ntmps140
 go_wp2_with (go_at_call 100;refine (l1In_any _ _ _ _).mono ?_;rintro e w' ⟨rfl,rfl⟩)
 go_ret;exact ⟨rfl,rfl⟩
abbrev insV (op r a b n:Int):Value:=.agg #[iV op,iV r,iV a,iV b,iV n]
abbrev setV (r n:Int):Value:=.agg #[iV r,iV n]
theorem qe7 (r a b n:Int) (w:World):
  Calls prog 114 #[insV 1 r a b n] w (rB w (.iface 201 (setV r n))):=by
 go_enter func114,ntmps114
 go_wp2;go_ret;exact ⟨rfl,by go_grown⟩
theorem qq1 (r n:Int) (w:World):
  Calls prog 208 #[setV r n] w (rB w (insV 1 r 0 0 n)):=by
 go_enter func208,ntmps208
 go_wp2;refine bodyPost_ret (v:=insV 1 r 0 0 n) (by simp [results,results208,go_sem]) rfl ⟨rfl,?_⟩
 go_grown
abbrev qi0 (op r a b:Int):Value:=.agg #[iV op,iV r,iV a,iV b]
theorem qfs (r a b n:Int) (w:World):
  Calls prog 114 #[insV 2 r a b n] w (rB w (.iface 203 (qi0 2 r a b))):=by
 go_enter func114,ntmps114
 go_wp2;go_ret;exact ⟨rfl,by go_grown⟩
theorem qft (r a b n:Int) (w:World):
  Calls prog 114 #[insV 3 r a b n] w (rB w (.iface 203 (qi0 3 r a b))):=by
 go_enter func114,ntmps114
 go_wp2;go_ret;exact ⟨rfl,by go_grown⟩
theorem qfu (r a b n:Int) (w:World):
  Calls prog 114 #[insV 4 r a b n] w (rB w (.iface 203 (qi0 4 r a b))):=by
 go_enter func114,ntmps114
 go_wp2;go_ret;exact ⟨rfl,by go_grown⟩
theorem qfv (r a b n:Int) (w:World):
  Calls prog 114 #[insV 5 r a b n] w (rB w (.iface 203 (qi0 5 r a b))):=by
 go_enter func114,ntmps114
 go_wp2;go_ret;exact ⟨rfl,by go_grown⟩
theorem qn4 (op r a b:Int) (w:World):
  Calls prog 209 #[qi0 op r a b] w (rB w (insV op r a b 0)):=by
 go_enter func209,ntmps209
 go_wp2;refine bodyPost_ret (v:=insV op r a b 0) (by simp [results,results209,go_sem]) rfl ⟨rfl,?_⟩
 go_grown
abbrev qr4 (n a:Int):Value:=.agg #[iV n,iV a]
theorem qeb (r a b n:Int) (w:World):
  Calls prog 114 #[insV 6 r a b n] w (rB w (.iface 195 (qr4 n a))):=by
 go_enter func114,ntmps114
 go_wp2;go_ret;exact ⟨rfl,by go_grown⟩
theorem qn6 (n a:Int) (w:World):
  Calls prog 205 #[qr4 n a] w (rB w (insV 6 0 a 0 n)):=by
 go_enter func205,ntmps205
 go_wp2;refine bodyPost_ret (v:=insV 6 0 a 0 n) (by simp [results,results205,go_sem]) rfl ⟨rfl,?_⟩
 go_grown
abbrev qse (r n:Int):Value:=.agg #[iV r,iV n]
theorem qec (r a b n:Int) (w:World):
  Calls prog 114 #[insV 7 r a b n] w (rB w (.iface 197 (qse r n))):=by
 go_enter func114,ntmps114
 go_wp2;go_ret;exact ⟨rfl,by go_grown⟩
theorem qn7 (r n:Int) (w:World):
  Calls prog 206 #[qse r n] w (rB w (insV 7 r 0 0 n)):=by
 go_enter func206,ntmps206
 go_wp2;refine bodyPost_ret (v:=insV 7 r 0 0 n) (by simp [results,results206,go_sem]) rfl ⟨rfl,?_⟩
 go_grown
abbrev qlh (a:Int):Value:=.agg #[iV a]
theorem qdv (r a b n:Int) (w:World):
  Calls prog 114 #[insV 8 r a b n] w (rB w (.iface 199 (qlh a))):=by
 go_enter func114,ntmps114
 go_wp2;go_ret;exact ⟨rfl,by go_grown⟩
theorem qk6 (a:Int) (w:World):
  Calls prog 207 #[qlh a] w (rB w (insV 8 0 a 0 0)):=by
 go_enter func207,ntmps207
 go_wp2;refine bodyPost_ret (v:=insV 8 0 a 0 0) (by simp [results,results207,go_sem]) rfl ⟨rfl,?_⟩
 go_grown
abbrev qq4 (n:Int):Value:=.agg #[iV n]
theorem qea (r a b n:Int) (w:World):
  Calls prog 114 #[insV 9 r a b n] w (rB w (.iface 205 (qq4 n))):=by
 go_enter func114,ntmps114
 go_wp2;go_ret;exact ⟨rfl,by go_grown⟩
theorem qn5 (n:Int) (w:World):
  Calls prog 210 #[qq4 n] w (rB w (insV 9 0 0 0 n)):=by
 go_enter func210,ntmps210
 go_wp2;refine bodyPost_ret (v:=insV 9 0 0 0 n) (by simp [results,results210,go_sem]) rfl ⟨rfl,?_⟩
 go_grown
abbrev qsp (a n:Int):Value:=.agg #[iV a,iV n]
theorem qed (r a b n:Int) (w:World):
  Calls prog 114 #[insV 10 r a b n] w (rB w (.iface 207 (qsp a n))):=by
 go_enter func114,ntmps114
 go_wp2;go_ret;exact ⟨rfl,by go_grown⟩
theorem qn8 (a n:Int) (w:World):
  Calls prog 211 #[qsp a n] w (rB w (insV 10 0 a 0 n)):=by
 go_enter func211,ntmps211
 go_wp2;refine bodyPost_ret (v:=insV 10 0 a 0 n) (by simp [results,results211,go_sem]) rfl ⟨rfl,?_⟩
 go_grown
abbrev endV:Value:=.agg #[]
theorem qe6 (r a b n:Int) (w:World):
  Calls prog 114 #[insV 11 r a b n] w (rB w (.iface 209 endV)):=by
 go_enter func114,ntmps114
 go_wp2;go_ret;exact ⟨rfl,by go_grown⟩
theorem qq0 (w:World):
  Calls prog 212 #[endV] w (rB w (insV 11 0 0 0 0)):=by
 go_enter func212,ntmps212
 go_wp2;refine bodyPost_ret (v:=insV 11 0 0 0 0) (by simp [results,results212,go_sem]) rfl ⟨rfl,?_⟩
 go_grown
theorem qgy (op r a b n:Int) (w:World) (h1:2<=op) (h2:op<=5):
  Calls prog 114 #[insV op r a b n] w (rB w (.iface 203 (qi0 op r a b))):=by
 have h:op=2\/op=3\/op=4\/op=5:=by omega
 rcases h with rfl | rfl | rfl | rfl
 ·exact qfs r a b n w
 ·exact qft r a b n w
 ·exact qfu r a b n w
 ·exact qfv r a b n w
theorem qlg (op r a b n:Int) (w:World) (h:op<1\/11<op):
  Calls prog 114 #[insV op r a b n] w fun e w'=>e=.returned .nilIface/\Bw w w':=by
 have h1:(op == 1)=false:=by simp;omega
 have h2:(op == 2)=false:=by simp;omega
 have h3:(op == 3)=false:=by simp;omega
 have h4:(op == 4)=false:=by simp;omega
 have h5:(op == 5)=false:=by simp;omega
 have h6:(op == 6)=false:=by simp;omega
 have h7:(op == 7)=false:=by simp;omega
 have h8:(op == 8)=false:=by simp;omega
 have h9:(op == 9)=false:=by simp;omega
 have h10:(op == 10)=false:=by simp;omega
 have h11:(op == 11)=false:=by simp;omega
 clear h
 go_enter func114,ntmps114
 go_wp2;go_ret;exact ⟨rfl,by go_grown⟩
theorem qoy (v:Value) (w:World):(Instr.typeAssert (.iface 201 v) 152 201 true).run prog w=.ok (.tuple #[v,.bool true]) w:=by kernel_rfl
theorem qhg (v:Value) (w:World):(Instr.typeAssert (.iface 201 v) 152 195 true).run prog w=.ok (.tuple #[.agg #[iV 0,iV 0],.bool false]) w:=by kernel_rfl
theorem qhh (v:Value) (w:World):(Instr.typeAssert (.iface 201 v) 152 197 true).run prog w=.ok (.tuple #[.agg #[iV 0,iV 0],.bool false]) w:=by kernel_rfl
theorem qgq (v:Value) (w:World):(Instr.typeAssert (.iface 201 v) 152 199 true).run prog w=.ok (.tuple #[.agg #[iV 0],.bool false]) w:=by kernel_rfl
theorem ql6 (v:Value) (w:World):(Instr.typeAssert (.iface 203 v) 152 201 true).run prog w=.ok (.tuple #[.agg #[iV 0,iV 0],.bool false]) w:=by kernel_rfl
theorem qkf (v:Value) (w:World):(Instr.typeAssert (.iface 203 v) 152 203 true).run prog w=.ok (.tuple #[v,.bool true]) w:=by kernel_rfl
theorem qgk (v:Value) (w:World):(Instr.typeAssert (.iface 203 v) 152 195 true).run prog w=.ok (.tuple #[.agg #[iV 0,iV 0],.bool false]) w:=by kernel_rfl
theorem qgl (v:Value) (w:World):(Instr.typeAssert (.iface 203 v) 152 197 true).run prog w=.ok (.tuple #[.agg #[iV 0,iV 0],.bool false]) w:=by kernel_rfl
theorem qfa (v:Value) (w:World):(Instr.typeAssert (.iface 203 v) 152 199 true).run prog w=.ok (.tuple #[.agg #[iV 0],.bool false]) w:=by kernel_rfl
theorem qmb (v:Value) (w:World):(Instr.typeAssert (.iface 195 v) 152 201 true).run prog w=.ok (.tuple #[.agg #[iV 0,iV 0],.bool false]) w:=by kernel_rfl
theorem qkj (v:Value) (w:World):(Instr.typeAssert (.iface 195 v) 152 203 true).run prog w=.ok (.tuple #[.agg #[iV 0,iV 0,iV 0,iV 0],.bool false]) w:=by kernel_rfl
theorem qgp (v:Value) (w:World):(Instr.typeAssert (.iface 195 v) 152 195 true).run prog w=.ok (.tuple #[v,.bool true]) w:=by kernel_rfl
theorem qmc (v:Value) (w:World):(Instr.typeAssert (.iface 197 v) 152 201 true).run prog w=.ok (.tuple #[.agg #[iV 0,iV 0],.bool false]) w:=by kernel_rfl
theorem qkk (v:Value) (w:World):(Instr.typeAssert (.iface 197 v) 152 203 true).run prog w=.ok (.tuple #[.agg #[iV 0,iV 0,iV 0,iV 0],.bool false]) w:=by kernel_rfl
theorem qgr (v:Value) (w:World):(Instr.typeAssert (.iface 197 v) 152 195 true).run prog w=.ok (.tuple #[.agg #[iV 0,iV 0],.bool false]) w:=by kernel_rfl
theorem qgs (v:Value) (w:World):(Instr.typeAssert (.iface 197 v) 152 197 true).run prog w=.ok (.tuple #[v,.bool true]) w:=by kernel_rfl
theorem qki (v:Value) (w:World):(Instr.typeAssert (.iface 199 v) 152 201 true).run prog w=.ok (.tuple #[.agg #[iV 0,iV 0],.bool false]) w:=by kernel_rfl
theorem qiz (v:Value) (w:World):(Instr.typeAssert (.iface 199 v) 152 203 true).run prog w=.ok (.tuple #[.agg #[iV 0,iV 0,iV 0,iV 0],.bool false]) w:=by kernel_rfl
theorem qfc (v:Value) (w:World):(Instr.typeAssert (.iface 199 v) 152 195 true).run prog w=.ok (.tuple #[.agg #[iV 0,iV 0],.bool false]) w:=by kernel_rfl
theorem qfd (v:Value) (w:World):(Instr.typeAssert (.iface 199 v) 152 197 true).run prog w=.ok (.tuple #[.agg #[iV 0,iV 0],.bool false]) w:=by kernel_rfl
theorem qev (v:Value) (w:World):(Instr.typeAssert (.iface 199 v) 152 199 true).run prog w=.ok (.tuple #[v,.bool true]) w:=by kernel_rfl
theorem qma (v:Value) (w:World):(Instr.typeAssert (.iface 205 v) 152 201 true).run prog w=.ok (.tuple #[.agg #[iV 0,iV 0],.bool false]) w:=by kernel_rfl
theorem qkg (v:Value) (w:World):(Instr.typeAssert (.iface 205 v) 152 203 true).run prog w=.ok (.tuple #[.agg #[iV 0,iV 0,iV 0,iV 0],.bool false]) w:=by kernel_rfl
theorem qgn (v:Value) (w:World):(Instr.typeAssert (.iface 205 v) 152 195 true).run prog w=.ok (.tuple #[.agg #[iV 0,iV 0],.bool false]) w:=by kernel_rfl
theorem qgo (v:Value) (w:World):(Instr.typeAssert (.iface 205 v) 152 197 true).run prog w=.ok (.tuple #[.agg #[iV 0,iV 0],.bool false]) w:=by kernel_rfl
theorem qfb (v:Value) (w:World):(Instr.typeAssert (.iface 205 v) 152 199 true).run prog w=.ok (.tuple #[.agg #[iV 0],.bool false]) w:=by kernel_rfl
theorem qkh (v:Value) (w:World):(Instr.typeAssert (.iface 205 v) 152 205 true).run prog w=.ok (.tuple #[v,.bool true]) w:=by kernel_rfl
theorem qmd (v:Value) (w:World):(Instr.typeAssert (.iface 207 v) 152 201 true).run prog w=.ok (.tuple #[.agg #[iV 0,iV 0],.bool false]) w:=by kernel_rfl
theorem qkl (v:Value) (w:World):(Instr.typeAssert (.iface 207 v) 152 203 true).run prog w=.ok (.tuple #[.agg #[iV 0,iV 0,iV 0,iV 0],.bool false]) w:=by kernel_rfl
theorem qgt (v:Value) (w:World):(Instr.typeAssert (.iface 207 v) 152 195 true).run prog w=.ok (.tuple #[.agg #[iV 0,iV 0],.bool false]) w:=by kernel_rfl
theorem qgu (v:Value) (w:World):(Instr.typeAssert (.iface 207 v) 152 197 true).run prog w=.ok (.tuple #[.agg #[iV 0,iV 0],.bool false]) w:=by kernel_rfl
theorem qfe (v:Value) (w:World):(Instr.typeAssert (.iface 207 v) 152 199 true).run prog w=.ok (.tuple #[.agg #[iV 0],.bool false]) w:=by kernel_rfl
theorem qkm (v:Value) (w:World):(Instr.typeAssert (.iface 207 v) 152 205 true).run prog w=.ok (.tuple #[.agg #[iV 0],.bool false]) w:=by kernel_rfl
theorem qkn (v:Value) (w:World):(Instr.typeAssert (.iface 207 v) 152 207 true).run prog w=.ok (.tuple #[v,.bool true]) w:=by kernel_rfl
theorem qox (v:Value) (w:World):(Instr.typeAssert (.iface 209 v) 152 201 true).run prog w=.ok (.tuple #[.agg #[iV 0,iV 0],.bool false]) w:=by kernel_rfl
theorem ql7 (v:Value) (w:World):(Instr.typeAssert (.iface 209 v) 152 203 true).run prog w=.ok (.tuple #[.agg #[iV 0,iV 0,iV 0,iV 0],.bool false]) w:=by kernel_rfl
theorem qhe (v:Value) (w:World):(Instr.typeAssert (.iface 209 v) 152 195 true).run prog w=.ok (.tuple #[.agg #[iV 0,iV 0],.bool false]) w:=by kernel_rfl
theorem qhf (v:Value) (w:World):(Instr.typeAssert (.iface 209 v) 152 197 true).run prog w=.ok (.tuple #[.agg #[iV 0,iV 0],.bool false]) w:=by kernel_rfl
theorem qgm (v:Value) (w:World):(Instr.typeAssert (.iface 209 v) 152 199 true).run prog w=.ok (.tuple #[.agg #[iV 0],.bool false]) w:=by kernel_rfl
theorem ql8 (v:Value) (w:World):(Instr.typeAssert (.iface 209 v) 152 205 true).run prog w=.ok (.tuple #[.agg #[iV 0],.bool false]) w:=by kernel_rfl
theorem ql9 (v:Value) (w:World):(Instr.typeAssert (.iface 209 v) 152 207 true).run prog w=.ok (.tuple #[.agg #[iV 0,iV 0],.bool false]) w:=by kernel_rfl
theorem qow (v:Value) (w:World):(Instr.typeAssert (.iface 209 v) 152 209 true).run prog w=.ok (.tuple #[v,.bool true]) w:=by kernel_rfl
attribute [local go_sem] qoy qhg qhh qgq ql6 qkf qgk qgl qfa qmb qkj qgp qmc qkk qgr qgs qki qiz qfc qfd qev qma qkg qgn qgo qfb qkh qmd qkl qgt qgu qfe qkm qkn qox ql7 qhe qhf qgm ql8 ql9 qow
theorem qs4 (r n places procs:Int) (w:World):
  Calls prog 142 #[.iface 201 (setV r n),iV places,iV procs] w (rB w (.bool (belB r 4 && inB n (-1000000000) 1000000000))):=by
 rcases zK (belB r 4) with t0 | t0 <;> rcases zK (inB n (-1000000000) 1000000000) with t1 | t1
 all_goals
  go_enter func142,ntmps142
  go_wp2_with (first|(go_at_call 173;refine (qcq _ _).mono ?_;rintro e w' ⟨rfl,rfl⟩)|(go_at_call 143;refine (isNum_any _ _).mono ?_;rintro e w' ⟨rfl,rfl⟩)|(go_at_call 61;refine (isBelow_any _ _ _).mono ?_;rintro e w' ⟨rfl,rfl⟩))
  go_ret;exact ⟨by rw [t0,t1] <;> rfl,by go_grown⟩
theorem qqn (op r a b places procs:Int) (w:World):
  Calls prog 142 #[.iface 203 (qi0 op r a b),iV places,iV procs] w (rB w (.bool (belB r 4 && belB a 4 && belB b 4))):=by
 rcases zK (belB r 4) with t0 | t0 <;> rcases zK (belB a 4) with t1 | t1 <;> rcases zK (belB b 4) with t2 | t2
 all_goals
  go_enter func142,ntmps142
  go_wp2_with (first|(go_at_call 173;refine (qcq _ _).mono ?_;rintro e w' ⟨rfl,rfl⟩)|(go_at_call 143;refine (isNum_any _ _).mono ?_;rintro e w' ⟨rfl,rfl⟩)|(go_at_call 61;refine (isBelow_any _ _ _).mono ?_;rintro e w' ⟨rfl,rfl⟩))
  go_ret;exact ⟨by rw [t0,t1,t2] <;> rfl,by go_grown⟩
theorem qqp (n a places procs:Int) (w:World):
  Calls prog 142 #[.iface 195 (qr4 n a),iV places,iV procs] w (rB w (.bool (belB a 4 && belB n procs))):=by
 rcases zK (belB a 4) with t0 | t0 <;> rcases zK (belB n procs) with t1 | t1
 all_goals
  go_enter func142,ntmps142
  go_wp2_with (first|(go_at_call 173;refine (qcq _ _).mono ?_;rintro e w' ⟨rfl,rfl⟩)|(go_at_call 143;refine (isNum_any _ _).mono ?_;rintro e w' ⟨rfl,rfl⟩)|(go_at_call 61;refine (isBelow_any _ _ _).mono ?_;rintro e w' ⟨rfl,rfl⟩))
  go_ret;exact ⟨by rw [t0,t1] <;> rfl,by go_grown⟩
theorem qqq (r n places procs:Int) (w:World):
  Calls prog 142 #[.iface 197 (qse r n),iV places,iV procs] w (rB w (.bool (belB r 4 && ((n == 9) || belB n procs)))):=by
 rcases zK (belB r 4) with t0 | t0 <;> rcases zK ((n == 9)) with t1 | t1 <;> rcases zK (belB n procs) with t2 | t2
 all_goals
  go_enter func142,ntmps142
  go_wp2_with (first|(go_at_call 173;refine (qcq _ _).mono ?_;rintro e w' ⟨rfl,rfl⟩)|(go_at_call 143;refine (isNum_any _ _).mono ?_;rintro e w' ⟨rfl,rfl⟩)|(go_at_call 61;refine (isBelow_any _ _ _).mono ?_;rintro e w' ⟨rfl,rfl⟩))
  go_ret;exact ⟨by rw [t0,t1,t2] <;> rfl,by go_grown⟩
theorem qo3 (a places procs:Int) (w:World):
  Calls prog 142 #[.iface 199 (qlh a),iV places,iV procs] w (rB w (.bool (belB a 4))):=by
 go_enter func142,ntmps142
 go_wp2_with (first|(go_at_call 173;refine (qcq _ _).mono ?_;rintro e w' ⟨rfl,rfl⟩)|(go_at_call 143;refine (isNum_any _ _).mono ?_;rintro e w' ⟨rfl,rfl⟩)|(go_at_call 61;refine (isBelow_any _ _ _).mono ?_;rintro e w' ⟨rfl,rfl⟩))
 go_ret;exact ⟨rfl,by go_grown⟩
theorem qqo (n places procs:Int) (w:World):
  Calls prog 142 #[.iface 205 (qq4 n),iV places,iV procs] w (rB w (.bool (belB n places))):=by
 go_enter func142,ntmps142
 go_wp2_with (first|(go_at_call 173;refine (qcq _ _).mono ?_;rintro e w' ⟨rfl,rfl⟩)|(go_at_call 143;refine (isNum_any _ _).mono ?_;rintro e w' ⟨rfl,rfl⟩)|(go_at_call 61;refine (isBelow_any _ _ _).mono ?_;rintro e w' ⟨rfl,rfl⟩))
 go_ret;exact ⟨rfl,by go_grown⟩
theorem qqr (a n places procs:Int) (w:World):
  Calls prog 142 #[.iface 207 (qsp a n),iV places,iV procs] w (rB w (.bool (belB a 4 && belB n places))):=by
 rcases zK (belB a 4) with t0 | t0 <;> rcases zK (belB n places) with t1 | t1
 all_goals
  go_enter func142,ntmps142
  go_wp2_with (first|(go_at_call 173;refine (qcq _ _).mono ?_;rintro e w' ⟨rfl,rfl⟩)|(go_at_call 143;refine (isNum_any _ _).mono ?_;rintro e w' ⟨rfl,rfl⟩)|(go_at_call 61;refine (isBelow_any _ _ _).mono ?_;rintro e w' ⟨rfl,rfl⟩))
  go_ret;exact ⟨by rw [t0,t1] <;> rfl,by go_grown⟩
theorem qs3 (places procs:Int) (w:World):
  Calls prog 142 #[.iface 209 endV,iV places,iV procs] w (rB w (.bool (true))):=by
 go_enter func142,ntmps142
 go_wp2_with (first|(go_at_call 173;refine (qcq _ _).mono ?_;rintro e w' ⟨rfl,rfl⟩)|(go_at_call 143;refine (isNum_any _ _).mono ?_;rintro e w' ⟨rfl,rfl⟩)|(go_at_call 61;refine (isBelow_any _ _ _).mono ?_;rintro e w' ⟨rfl,rfl⟩))
 go_ret;exact ⟨rfl,by go_grown⟩
def qa5 (o1 r1 a1 b1 n1 o2 r2 a2 b2 n2:Int):Bool:=o1 == o2 && (r1 == r2 && (a1 == a2 && (b1 == b2 && n1 == n2)))
theorem qb7 (o1 r1 a1 b1 n1 o2 r2 a2 b2 n2:Int) (w:World):(binOp .eql 85 (insV o1 r1 a1 b1 n1) (insV o2 r2 a2 b2 n2)).run prog w=.ok (.bool (qa5 o1 r1 a1 b1 n1 o2 r2 a2 b2 n2)) w:=by
 rw [run_eql_struct,show (10000:Nat)=9998+1+1 from rfl,run_equalIn_agg w (9998+1) 85 _ _ (by kernel_rfl) (by kernel_rfl)];simp only [qa5];by_cases h1:o1=o2 <;> by_cases h2:r1=r2 <;> by_cases h3:a1=a2 <;> by_cases h4:b1=b2 <;> by_cases h5:n1=n2 <;> simp [go_sem,h1,h2,h3,h4,h5]
theorem qic {w w1:World} {o:Obj} (h1:Below (w.alloc o).heap.size (w.alloc o) w1):Bw w w1.drew:=by
 have h0:Bw w (w.alloc o):=(nE _ _).alloc (nA _) _;have hs:w.heap.size<=(w.alloc o).heap.size:=by simp
 exact (h0.trans (h1.mono hs)).drew
theorem qa9 {w w1 w2:World} {o:Obj} (h1:Below (w.alloc o).heap.size (w.alloc o) w1) (h2:Below w1.drew.heap.size w1.drew w2):Bw w w2:=by
 have h0:Bw w (w.alloc o):=(nE _ _).alloc (nA _) _;have hs:w.heap.size<=(w.alloc o).heap.size:=by simp
 exact (h0.trans (h1.mono hs)).drew.trans (h2.mono (zP hs h1.size))
theorem qbf {w w1 w2 w3:World} {o:Obj} (h1:Below (w.alloc o).heap.size (w.alloc o) w1) (h2:Below w1.drew.heap.size w1.drew w2) (h3:Bw w2 w3):Bw w w3:=
 qa9 h1 (h2.trans (h3.mono h2.size))
