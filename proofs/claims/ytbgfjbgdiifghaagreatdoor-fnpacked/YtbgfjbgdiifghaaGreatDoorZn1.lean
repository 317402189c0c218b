import Derived.Test.YtbgfjbgdiifghaaGreatDoorZn0
import Derived.WalkSpells
import Derived.WalkLawsBesides
import Derived.Handy
import Derived.Deep.Onto
import Derived.Deep.Slices
import Derived.Deep.RegionWith
import Derived.BigQuiet
namespace Go.Proofs.YtbgfjbgdiifghaaGreatDoor
open Go.Proofs.Tryz
set_option maxHeartbeats 1000000
open Go.RowKit
def inB (x lo hi:Int):Bool:=decide (lo<=x/\x<=hi)
def belB (x n:Int):Bool:=decide (0<=x/\x<n)
theorem l1In_any (x lo hi:Int) (w:World):
  Calls prog 48 #[iV x,iV lo,iV hi] w fun e w'=>e=.returned (.bool (inB x lo hi))/\w'=w:=by
 by_cases h1:lo<=x
 ·by_cases h2:x<=hi
  ·go_enter func48,ntmps48
   go_wp2;go_ret;exact ⟨by simp [inB,h1,h2],rfl⟩
  ·go_enter func48,ntmps48
   go_wp2;go_ret;exact ⟨by simp [inB,h1,h2],rfl⟩
 ·go_enter func48,ntmps48
  go_wp2;go_ret;exact ⟨by simp [inB];omega,rfl⟩
theorem isBelow_any (x n:Int) (w:World):
  Calls prog 76 #[iV x,iV n] w fun e w'=>e=.returned (.bool (belB x n))/\w'=w:=by
 by_cases h1:0<=x
 ·by_cases h2:x<n
  ·go_enter func76,ntmps76
   go_wp2;go_ret;exact ⟨by simp [belB,h1,h2],rfl⟩
  ·go_enter func76,ntmps76
   go_wp2;go_ret;exact ⟨by simp [belB,h1,h2],rfl⟩
 ·go_enter func76,ntmps76
  go_wp2;go_ret;exact ⟨by simp [belB];omega,rfl⟩
theorem qcj (x:Int) (w:World):
  Calls prog 141 #[iV x] w fun e w'=>e=.returned (.bool (belB x 4))/\w'=w:=by
 go_enter func141,ntmps141
 go_wp2_with (go_at_call 76;refine (isBelow_any _ _ _).mono ?_;rintro e w' ⟨rfl,rfl⟩)
 go_ret;exact ⟨rfl,rfl⟩
theorem isNum_any (x:Int) (w:World):
  Calls prog 127 #[iV x] w fun e w'=>e=.returned (.bool (inB x (-1000000000) 1000000000))/\w'=w:=by
 by_cases h1:-1000000000<=x
 ·by_cases h2:x<=1000000000
  ·go_enter func127,ntmps127
   go_wp2;go_ret;exact ⟨by simp [inB,h1,h2],rfl⟩
  ·go_enter func127,ntmps127
   go_wp2;go_ret;exact ⟨by simp [inB,h1,h2],rfl⟩
 ·go_enter func127,ntmps127
  go_wp2;go_ret;exact ⟨by simp [inB];omega,rfl⟩
theorem l1Num_any (x:Int) (w:World):
  Calls prog 90 #[iV x] w fun e w'=>e=.returned (.bool (inB x (-1000000000) 1000000000))/\w'=w:=by
 go_enter func90,ntmps90
 go_wp2_with (go_at_call 48;refine (l1In_any _ _ _ _).mono ?_;rintro e w' ⟨rfl,rfl⟩)
 go_ret;exact ⟨rfl,rfl⟩
abbrev insV (op r a b n:Int):Value:=.agg #[iV op,iV r,iV a,iV b,iV n]
abbrev setV (r n:Int):Value:=.agg #[iV r,iV n]
theorem qfi (r a b n:Int) (w:World):
  Calls prog 125 #[insV 1 r a b n] w (rB w (.iface 207 (setV r n))):=by
 go_enter func125,ntmps125
 go_wp2;go_ret;exact ⟨rfl,by go_grown⟩
theorem qsd (r n:Int) (w:World):
  Calls prog 201 #[setV r n] w (rB w (insV 1 r 0 0 n)):=by
 go_enter func201,ntmps201
 go_wp2;refine bodyPost_ret (v:=insV 1 r 0 0 n) (by simp [results,results201,go_sem]) rfl ⟨rfl,?_⟩
 go_grown
abbrev qjn (op r a b:Int):Value:=.agg #[iV op,iV r,iV a,iV b]
theorem qf1 (r a b n:Int) (w:World):
  Calls prog 125 #[insV 2 r a b n] w (rB w (.iface 209 (qjn 2 r a b))):=by
 go_enter func125,ntmps125
 go_wp2;go_ret;exact ⟨rfl,by go_grown⟩
theorem qf2 (r a b n:Int) (w:World):
  Calls prog 125 #[insV 3 r a b n] w (rB w (.iface 209 (qjn 3 r a b))):=by
 go_enter func125,ntmps125
 go_wp2;go_ret;exact ⟨rfl,by go_grown⟩
theorem qf3 (r a b n:Int) (w:World):
  Calls prog 125 #[insV 4 r a b n] w (rB w (.iface 209 (qjn 4 r a b))):=by
 go_enter func125,ntmps125
 go_wp2;go_ret;exact ⟨rfl,by go_grown⟩
theorem qf4 (r a b n:Int) (w:World):
  Calls prog 125 #[insV 5 r a b n] w (rB w (.iface 209 (qjn 5 r a b))):=by
 go_enter func125,ntmps125
 go_wp2;go_ret;exact ⟨rfl,by go_grown⟩
theorem qo9 (op r a b:Int) (w:World):
  Calls prog 202 #[qjn op r a b] w (rB w (insV op r a b 0)):=by
 go_enter func202,ntmps202
 go_wp2;refine bodyPost_ret (v:=insV op r a b 0) (by simp [results,results202,go_sem]) rfl ⟨rfl,?_⟩
 go_grown
abbrev qtt (n a:Int):Value:=.agg #[iV n,iV a]
theorem qea (r a b n:Int) (w:World):
  Calls prog 125 #[insV 6 r a b n] w (rB w (.iface 211 (qtt n a))):=by
 go_enter func125,ntmps125
 go_wp2;go_ret;exact ⟨rfl,by go_grown⟩
theorem qpb (n a:Int) (w:World):
  Calls prog 203 #[qtt n a] w (rB w (insV 6 0 a 0 n)):=by
 go_enter func203,ntmps203
 go_wp2;refine bodyPost_ret (v:=insV 6 0 a 0 n) (by simp [results,results203,go_sem]) rfl ⟨rfl,?_⟩
 go_grown
abbrev qt2 (r n:Int):Value:=.agg #[iV r,iV n]
theorem qeb (r a b n:Int) (w:World):
  Calls prog 125 #[insV 7 r a b n] w (rB w (.iface 213 (qt2 r n))):=by
 go_enter func125,ntmps125
 go_wp2;go_ret;exact ⟨rfl,by go_grown⟩
theorem qpc (r n:Int) (w:World):
  Calls prog 204 #[qt2 r n] w (rB w (insV 7 r 0 0 n)):=by
 go_enter func204,ntmps204
 go_wp2;refine bodyPost_ret (v:=insV 7 r 0 0 n) (by simp [results,results204,go_sem]) rfl ⟨rfl,?_⟩
 go_grown
abbrev qmj (a:Int):Value:=.agg #[iV a]
theorem qdv (r a b n:Int) (w:World):
  Calls prog 125 #[insV 8 r a b n] w (rB w (.iface 215 (qmj a))):=by
 go_enter func125,ntmps125
 go_wp2;go_ret;exact ⟨rfl,by go_grown⟩
theorem ql4 (a:Int) (w:World):
  Calls prog 205 #[qmj a] w (rB w (insV 8 0 a 0 0)):=by
 go_enter func205,ntmps205
 go_wp2;refine bodyPost_ret (v:=insV 8 0 a 0 0) (by simp [results,results205,go_sem]) rfl ⟨rfl,?_⟩
 go_grown
abbrev qsh (n:Int):Value:=.agg #[iV n]
theorem qd9 (r a b n:Int) (w:World):
  Calls prog 125 #[insV 9 r a b n] w (rB w (.iface 217 (qsh n))):=by
 go_enter func125,ntmps125
 go_wp2;go_ret;exact ⟨rfl,by go_grown⟩
theorem qpa (n:Int) (w:World):
  Calls prog 206 #[qsh n] w (rB w (insV 9 0 0 0 n)):=by
 go_enter func206,ntmps206
 go_wp2;refine bodyPost_ret (v:=insV 9 0 0 0 n) (by simp [results,results206,go_sem]) rfl ⟨rfl,?_⟩
 go_grown
abbrev quf (a n:Int):Value:=.agg #[iV a,iV n]
theorem qec (r a b n:Int) (w:World):
  Calls prog 125 #[insV 10 r a b n] w (rB w (.iface 219 (quf a n))):=by
 go_enter func125,ntmps125
 go_wp2;go_ret;exact ⟨rfl,by go_grown⟩
theorem qpd (a n:Int) (w:World):
  Calls prog 207 #[quf a n] w (rB w (insV 10 0 a 0 n)):=by
 go_enter func207,ntmps207
 go_wp2;refine bodyPost_ret (v:=insV 10 0 a 0 n) (by simp [results,results207,go_sem]) rfl ⟨rfl,?_⟩
 go_grown
abbrev endV:Value:=.agg #[]
theorem qfh (r a b n:Int) (w:World):
  Calls prog 125 #[insV 11 r a b n] w (rB w (.iface 220 endV)):=by
 go_enter func125,ntmps125
 go_wp2;go_ret;exact ⟨rfl,by go_grown⟩
theorem qsc (w:World):
  Calls prog 208 #[endV] w (rB w (insV 11 0 0 0 0)):=by
 go_enter func208,ntmps208
 go_wp2;refine bodyPost_ret (v:=insV 11 0 0 0 0) (by simp [results,results208,go_sem]) rfl ⟨rfl,?_⟩
 go_grown
theorem qhc (op r a b n:Int) (w:World) (h1:2<=op) (h2:op<=5):
  Calls prog 125 #[insV op r a b n] w (rB w (.iface 209 (qjn op r a b))):=by
 have h:op=2\/op=3\/op=4\/op=5:=by omega
 rcases h with rfl | rfl | rfl | rfl
 ·exact qf1 r a b n w
 ·exact qf2 r a b n w
 ·exact qf3 r a b n w
 ·exact qf4 r a b n w
theorem qmh (op r a b n:Int) (w:World) (h:op<1\/11<op):
  Calls prog 125 #[insV op r a b n] w fun e w'=>e=.returned .nilIface/\Bw w w':=by
 have h1:(op == 1)=false:=by simp;omega
 have h2:(op == 2)=false:=by simp;omega
 have h3:(op == 3)=false:=by simp;omega
 have h4:(op == 4)=false:=by simp;omega
 have h5:(op == 5)=false:=by simp;omega
 have h6:(op == 6)=false:=by simp;omega
 have h7:(op == 7)=false:=by simp;omega
 have h8:(op == 8)=false:=by simp;omega
 have h9:(op == 9)=false:=by simp;omega
 have h10:(op == 10)=false:=by simp;omega
 have h11:(op == 11)=false:=by simp;omega
 clear h
 go_enter func125,ntmps125
 go_wp2;go_ret;exact ⟨rfl,by go_grown⟩
theorem qp6 (v:Value) (w:World):(Instr.typeAssert (.iface 207 v) 183 207 true).run prog w=.ok (.tuple #[v,.bool true]) w:=by kernel_rfl
theorem qnc (v:Value) (w:World):(Instr.typeAssert (.iface 207 v) 183 209 true).run prog w=.ok (.tuple #[.agg #[iV 0,iV 0,iV 0,iV 0],.bool false]) w:=by kernel_rfl
theorem qh4 (v:Value) (w:World):(Instr.typeAssert (.iface 207 v) 183 211 true).run prog w=.ok (.tuple #[.agg #[iV 0,iV 0],.bool false]) w:=by kernel_rfl
theorem qh5 (v:Value) (w:World):(Instr.typeAssert (.iface 207 v) 183 213 true).run prog w=.ok (.tuple #[.agg #[iV 0,iV 0],.bool false]) w:=by kernel_rfl
theorem qg0 (v:Value) (w:World):(Instr.typeAssert (.iface 207 v) 183 215 true).run prog w=.ok (.tuple #[.agg #[iV 0],.bool false]) w:=by kernel_rfl
theorem qnd (v:Value) (w:World):(Instr.typeAssert (.iface 207 v) 183 217 true).run prog w=.ok (.tuple #[.agg #[iV 0],.bool false]) w:=by kernel_rfl
theorem qne (v:Value) (w:World):(Instr.typeAssert (.iface 207 v) 183 219 true).run prog w=.ok (.tuple #[.agg #[iV 0,iV 0],.bool false]) w:=by kernel_rfl
theorem qp5 (v:Value) (w:World):(Instr.typeAssert (.iface 207 v) 183 220 true).run prog w=.ok (.tuple #[.agg #[],.bool false]) w:=by kernel_rfl
theorem qm4 (v:Value) (w:World):(Instr.typeAssert (.iface 209 v) 183 207 true).run prog w=.ok (.tuple #[.agg #[iV 0,iV 0],.bool false]) w:=by kernel_rfl
theorem qla (v:Value) (w:World):(Instr.typeAssert (.iface 209 v) 183 209 true).run prog w=.ok (.tuple #[v,.bool true]) w:=by kernel_rfl
theorem qgu (v:Value) (w:World):(Instr.typeAssert (.iface 209 v) 183 211 true).run prog w=.ok (.tuple #[.agg #[iV 0,iV 0],.bool false]) w:=by kernel_rfl
theorem qgv (v:Value) (w:World):(Instr.typeAssert (.iface 209 v) 183 213 true).run prog w=.ok (.tuple #[.agg #[iV 0,iV 0],.bool false]) w:=by kernel_rfl
theorem qfm (v:Value) (w:World):(Instr.typeAssert (.iface 209 v) 183 215 true).run prog w=.ok (.tuple #[.agg #[iV 0],.bool false]) w:=by kernel_rfl
theorem qlb (v:Value) (w:World):(Instr.typeAssert (.iface 209 v) 183 217 true).run prog w=.ok (.tuple #[.agg #[iV 0],.bool false]) w:=by kernel_rfl
theorem qlc (v:Value) (w:World):(Instr.typeAssert (.iface 209 v) 183 219 true).run prog w=.ok (.tuple #[.agg #[iV 0,iV 0],.bool false]) w:=by kernel_rfl
theorem qm3 (v:Value) (w:World):(Instr.typeAssert (.iface 209 v) 183 220 true).run prog w=.ok (.tuple #[.agg #[],.bool false]) w:=by kernel_rfl
theorem qnb (v:Value) (w:World):(Instr.typeAssert (.iface 211 v) 183 207 true).run prog w=.ok (.tuple #[.agg #[iV 0,iV 0],.bool false]) w:=by kernel_rfl
theorem qli (v:Value) (w:World):(Instr.typeAssert (.iface 211 v) 183 209 true).run prog w=.ok (.tuple #[.agg #[iV 0,iV 0,iV 0,iV 0],.bool false]) w:=by kernel_rfl
theorem qgz (v:Value) (w:World):(Instr.typeAssert (.iface 211 v) 183 211 true).run prog w=.ok (.tuple #[v,.bool true]) w:=by kernel_rfl
theorem qlk (v:Value) (w:World):(Instr.typeAssert (.iface 211 v) 183 213 true).run prog w=.ok (.tuple #[.agg #[iV 0,iV 0],.bool false]) w:=by kernel_rfl
theorem qjj (v:Value) (w:World):(Instr.typeAssert (.iface 211 v) 183 215 true).run prog w=.ok (.tuple #[.agg #[iV 0],.bool false]) w:=by kernel_rfl
theorem qlj (v:Value) (w:World):(Instr.typeAssert (.iface 211 v) 183 217 true).run prog w=.ok (.tuple #[.agg #[iV 0],.bool false]) w:=by kernel_rfl
theorem qll (v:Value) (w:World):(Instr.typeAssert (.iface 211 v) 183 219 true).run prog w=.ok (.tuple #[.agg #[iV 0,iV 0],.bool false]) w:=by kernel_rfl
theorem qna (v:Value) (w:World):(Instr.typeAssert (.iface 211 v) 183 220 true).run prog w=.ok (.tuple #[.agg #[],.bool false]) w:=by kernel_rfl
theorem qng (v:Value) (w:World):(Instr.typeAssert (.iface 213 v) 183 207 true).run prog w=.ok (.tuple #[.agg #[iV 0,iV 0],.bool false]) w:=by kernel_rfl
theorem qlm (v:Value) (w:World):(Instr.typeAssert (.iface 213 v) 183 209 true).run prog w=.ok (.tuple #[.agg #[iV 0,iV 0,iV 0,iV 0],.bool false]) w:=by kernel_rfl
theorem qg1 (v:Value) (w:World):(Instr.typeAssert (.iface 213 v) 183 211 true).run prog w=.ok (.tuple #[.agg #[iV 0,iV 0],.bool false]) w:=by kernel_rfl
theorem qg2 (v:Value) (w:World):(Instr.typeAssert (.iface 213 v) 183 213 true).run prog w=.ok (.tuple #[v,.bool true]) w:=by kernel_rfl
theorem qjk (v:Value) (w:World):(Instr.typeAssert (.iface 213 v) 183 215 true).run prog w=.ok (.tuple #[.agg #[iV 0],.bool false]) w:=by kernel_rfl
theorem qln (v:Value) (w:World):(Instr.typeAssert (.iface 213 v) 183 217 true).run prog w=.ok (.tuple #[.agg #[iV 0],.bool false]) w:=by kernel_rfl
theorem qlo (v:Value) (w:World):(Instr.typeAssert (.iface 213 v) 183 219 true).run prog w=.ok (.tuple #[.agg #[iV 0,iV 0],.bool false]) w:=by kernel_rfl
theorem qnf (v:Value) (w:World):(Instr.typeAssert (.iface 213 v) 183 220 true).run prog w=.ok (.tuple #[.agg #[],.bool false]) w:=by kernel_rfl
theorem qlh (v:Value) (w:World):(Instr.typeAssert (.iface 215 v) 183 207 true).run prog w=.ok (.tuple #[.agg #[iV 0,iV 0],.bool false]) w:=by kernel_rfl
theorem qjg (v:Value) (w:World):(Instr.typeAssert (.iface 215 v) 183 209 true).run prog w=.ok (.tuple #[.agg #[iV 0,iV 0,iV 0,iV 0],.bool false]) w:=by kernel_rfl
theorem qfo (v:Value) (w:World):(Instr.typeAssert (.iface 215 v) 183 211 true).run prog w=.ok (.tuple #[.agg #[iV 0,iV 0],.bool false]) w:=by kernel_rfl
theorem qfp (v:Value) (w:World):(Instr.typeAssert (.iface 215 v) 183 213 true).run prog w=.ok (.tuple #[.agg #[iV 0,iV 0],.bool false]) w:=by kernel_rfl
theorem qe3 (v:Value) (w:World):(Instr.typeAssert (.iface 215 v) 183 215 true).run prog w=.ok (.tuple #[v,.bool true]) w:=by kernel_rfl
theorem qjh (v:Value) (w:World):(Instr.typeAssert (.iface 215 v) 183 217 true).run prog w=.ok (.tuple #[.agg #[iV 0],.bool false]) w:=by kernel_rfl
theorem qji (v:Value) (w:World):(Instr.typeAssert (.iface 215 v) 183 219 true).run prog w=.ok (.tuple #[.agg #[iV 0,iV 0],.bool false]) w:=by kernel_rfl
theorem qlg (v:Value) (w:World):(Instr.typeAssert (.iface 215 v) 183 220 true).run prog w=.ok (.tuple #[.agg #[],.bool false]) w:=by kernel_rfl
theorem qm9 (v:Value) (w:World):(Instr.typeAssert (.iface 217 v) 183 207 true).run prog w=.ok (.tuple #[.agg #[iV 0,iV 0],.bool false]) w:=by kernel_rfl
theorem qld (v:Value) (w:World):(Instr.typeAssert (.iface 217 v) 183 209 true).run prog w=.ok (.tuple #[.agg #[iV 0,iV 0,iV 0,iV 0],.bool false]) w:=by kernel_rfl
theorem qgx (v:Value) (w:World):(Instr.typeAssert (.iface 217 v) 183 211 true).run prog w=.ok (.tuple #[.agg #[iV 0,iV 0],.bool false]) w:=by kernel_rfl
theorem qgy (v:Value) (w:World):(Instr.typeAssert (.iface 217 v) 183 213 true).run prog w=.ok (.tuple #[.agg #[iV 0,iV 0],.bool false]) w:=by kernel_rfl
theorem qfn (v:Value) (w:World):(Instr.typeAssert (.iface 217 v) 183 215 true).run prog w=.ok (.tuple #[.agg #[iV 0],.bool false]) w:=by kernel_rfl
theorem qle (v:Value) (w:World):(Instr.typeAssert (.iface 217 v) 183 217 true).run prog w=.ok (.tuple #[v,.bool true]) w:=by kernel_rfl
theorem qlf (v:Value) (w:World):(Instr.typeAssert (.iface 217 v) 183 219 true).run prog w=.ok (.tuple #[.agg #[iV 0,iV 0],.bool false]) w:=by kernel_rfl
theorem qm8 (v:Value) (w:World):(Instr.typeAssert (.iface 217 v) 183 220 true).run prog w=.ok (.tuple #[.agg #[],.bool false]) w:=by kernel_rfl
theorem qni (v:Value) (w:World):(Instr.typeAssert (.iface 219 v) 183 207 true).run prog w=.ok (.tuple #[.agg #[iV 0,iV 0],.bool false]) w:=by kernel_rfl
theorem qlp (v:Value) (w:World):(Instr.typeAssert (.iface 219 v) 183 209 true).run prog w=.ok (.tuple #[.agg #[iV 0,iV 0,iV 0,iV 0],.bool false]) w:=by kernel_rfl
theorem qg3 (v:Value) (w:World):(Instr.typeAssert (.iface 219 v) 183 211 true).run prog w=.ok (.tuple #[.agg #[iV 0,iV 0],.bool false]) w:=by kernel_rfl
theorem qg4 (v:Value) (w:World):(Instr.typeAssert (.iface 219 v) 183 213 true).run prog w=.ok (.tuple #[.agg #[iV 0,iV 0],.bool false]) w:=by kernel_rfl
theorem qfq (v:Value) (w:World):(Instr.typeAssert (.iface 219 v) 183 215 true).run prog w=.ok (.tuple #[.agg #[iV 0],.bool false]) w:=by kernel_rfl
theorem qlq (v:Value) (w:World):(Instr.typeAssert (.iface 219 v) 183 217 true).run prog w=.ok (.tuple #[.agg #[iV 0],.bool false]) w:=by kernel_rfl
theorem qlr (v:Value) (w:World):(Instr.typeAssert (.iface 219 v) 183 219 true).run prog w=.ok (.tuple #[v,.bool true]) w:=by kernel_rfl
theorem qnh (v:Value) (w:World):(Instr.typeAssert (.iface 219 v) 183 220 true).run prog w=.ok (.tuple #[.agg #[],.bool false]) w:=by kernel_rfl
theorem qp4 (v:Value) (w:World):(Instr.typeAssert (.iface 220 v) 183 207 true).run prog w=.ok (.tuple #[.agg #[iV 0,iV 0],.bool false]) w:=by kernel_rfl
theorem qm5 (v:Value) (w:World):(Instr.typeAssert (.iface 220 v) 183 209 true).run prog w=.ok (.tuple #[.agg #[iV 0,iV 0,iV 0,iV 0],.bool false]) w:=by kernel_rfl
theorem qh2 (v:Value) (w:World):(Instr.typeAssert (.iface 220 v) 183 211 true).run prog w=.ok (.tuple #[.agg #[iV 0,iV 0],.bool false]) w:=by kernel_rfl
theorem qh3 (v:Value) (w:World):(Instr.typeAssert (.iface 220 v) 183 213 true).run prog w=.ok (.tuple #[.agg #[iV 0,iV 0],.bool false]) w:=by kernel_rfl
theorem qgw (v:Value) (w:World):(Instr.typeAssert (.iface 220 v) 183 215 true).run prog w=.ok (.tuple #[.agg #[iV 0],.bool false]) w:=by kernel_rfl
theorem qm6 (v:Value) (w:World):(Instr.typeAssert (.iface 220 v) 183 217 true).run prog w=.ok (.tuple #[.agg #[iV 0],.bool false]) w:=by kernel_rfl
theorem qm7 (v:Value) (w:World):(Instr.typeAssert (.iface 220 v) 183 219 true).run prog w=.ok (.tuple #[.agg #[iV 0,iV 0],.bool false]) w:=by kernel_rfl
theorem qp3 (v:Value) (w:World):(Instr.typeAssert (.iface 220 v) 183 220 true).run prog w=.ok (.tuple #[v,.bool true]) w:=by kernel_rfl
attribute [local go_sem] qp6 qnc qh4 qh5 qg0 qnd qne qp5 qm4 qla qgu qgv qfm qlb qlc qm3 qnb qli qgz qlk qjj qlj qll qna qng qlm qg1 qg2 qjk qln qlo qnf qlh qjg qfo qfp qe3 qjh qji qlg qm9 qld qgx qgy qfn qle qlf qm8 qni qlp qg3 qg4 qfq qlq qlr qnh qp4 qm5 qh2 qh3 qgw qm6 qm7 qp3
theorem quu (r n places procs:Int) (w:World):
  Calls prog 126 #[.iface 207 (setV r n),iV places,iV procs] w (rB w (.bool (belB r 4 && inB n (-1000000000) 1000000000))):=by
 rcases zK (belB r 4) with t0 | t0 <;> rcases zK (inB n (-1000000000) 1000000000) with t1 | t1
 all_goals
  go_enter func126,ntmps126
  go_wp2_with (first|(go_at_call 141;refine (qcj _ _).mono ?_;rintro e w' ⟨rfl,rfl⟩)|(go_at_call 127;refine (isNum_any _ _).mono ?_;rintro e w' ⟨rfl,rfl⟩)|(go_at_call 76;refine (isBelow_any _ _ _).mono ?_;rintro e w' ⟨rfl,rfl⟩))
  go_ret;exact ⟨by rw [t0,t1] <;> rfl,by go_grown⟩
theorem qr2 (op r a b places procs:Int) (w:World):
  Calls prog 126 #[.iface 209 (qjn op r a b),iV places,iV procs] w (rB w (.bool (belB r 4 && belB a 4 && belB b 4))):=by
 rcases zK (belB r 4) with t0 | t0 <;> rcases zK (belB a 4) with t1 | t1 <;> rcases zK (belB b 4) with t2 | t2
 all_goals
  go_enter func126,ntmps126
  go_wp2_with (first|(go_at_call 141;refine (qcj _ _).mono ?_;rintro e w' ⟨rfl,rfl⟩)|(go_at_call 127;refine (isNum_any _ _).mono ?_;rintro e w' ⟨rfl,rfl⟩)|(go_at_call 76;refine (isBelow_any _ _ _).mono ?_;rintro e w' ⟨rfl,rfl⟩))
  go_ret;exact ⟨by rw [t0,t1,t2] <;> rfl,by go_grown⟩
theorem qr4 (n a places procs:Int) (w:World):
  Calls prog 126 #[.iface 211 (qtt n a),iV places,iV procs] w (rB w (.bool (belB a 4 && belB n procs))):=by
 rcases zK (belB a 4) with t0 | t0 <;> rcases zK (belB n procs) with t1 | t1
 all_goals
  go_enter func126,ntmps126
  go_wp2_with (first|(go_at_call 141;refine (qcj _ _).mono ?_;rintro e w' ⟨rfl,rfl⟩)|(go_at_call 127;refine (isNum_any _ _).mono ?_;rintro e w' ⟨rfl,rfl⟩)|(go_at_call 76;refine (isBelow_any _ _ _).mono ?_;rintro e w' ⟨rfl,rfl⟩))
  go_ret;exact ⟨by rw [t0,t1] <;> rfl,by go_grown⟩
theorem qr5 (r n places procs:Int) (w:World):
  Calls prog 126 #[.iface 213 (qt2 r n),iV places,iV procs] w (rB w (.bool (belB r 4 && ((n == 9) || belB n procs)))):=by
 rcases zK (belB r 4) with t0 | t0 <;> rcases zK ((n == 9)) with t1 | t1 <;> rcases zK (belB n procs) with t2 | t2
 all_goals
  go_enter func126,ntmps126
  go_wp2_with (first|(go_at_call 141;refine (qcj _ _).mono ?_;rintro e w' ⟨rfl,rfl⟩)|(go_at_call 127;refine (isNum_any _ _).mono ?_;rintro e w' ⟨rfl,rfl⟩)|(go_at_call 76;refine (isBelow_any _ _ _).mono ?_;rintro e w' ⟨rfl,rfl⟩))
  go_ret;exact ⟨by rw [t0,t1,t2] <;> rfl,by go_grown⟩
theorem qqe (a places procs:Int) (w:World):
  Calls prog 126 #[.iface 215 (qmj a),iV places,iV procs] w (rB w (.bool (belB a 4))):=by
 go_enter func126,ntmps126
 go_wp2_with (first|(go_at_call 141;refine (qcj _ _).mono ?_;rintro e w' ⟨rfl,rfl⟩)|(go_at_call 127;refine (isNum_any _ _).mono ?_;rintro e w' ⟨rfl,rfl⟩)|(go_at_call 76;refine (isBelow_any _ _ _).mono ?_;rintro e w' ⟨rfl,rfl⟩))
 go_ret;exact ⟨rfl,by go_grown⟩
theorem qr3 (n places procs:Int) (w:World):
  Calls prog 126 #[.iface 217 (qsh n),iV places,iV procs] w (rB w (.bool (belB n places))):=by
 go_enter func126,ntmps126
 go_wp2_with (first|(go_at_call 141;refine (qcj _ _).mono ?_;rintro e w' ⟨rfl,rfl⟩)|(go_at_call 127;refine (isNum_any _ _).mono ?_;rintro e w' ⟨rfl,rfl⟩)|(go_at_call 76;refine (isBelow_any _ _ _).mono ?_;rintro e w' ⟨rfl,rfl⟩))
 go_ret;exact ⟨rfl,by go_grown⟩
theorem qr6 (a n places procs:Int) (w:World):
  Calls prog 126 #[.iface 219 (quf a n),iV places,iV procs] w (rB w (.bool (belB a 4 && belB n places))):=by
 rcases zK (belB a 4) with t0 | t0 <;> rcases zK (belB n places) with t1 | t1
 all_goals
  go_enter func126,ntmps126
  go_wp2_with (first|(go_at_call 141;refine (qcj _ _).mono ?_;rintro e w' ⟨rfl,rfl⟩)|(go_at_call 127;refine (isNum_any _ _).mono ?_;rintro e w' ⟨rfl,rfl⟩)|(go_at_call 76;refine (isBelow_any _ _ _).mono ?_;rintro e w' ⟨rfl,rfl⟩))
  go_ret;exact ⟨by rw [t0,t1] <;> rfl,by go_grown⟩
theorem qut (places procs:Int) (w:World):
  Calls prog 126 #[.iface 220 endV,iV places,iV procs] w (rB w (.bool (true))):=by
 go_enter func126,ntmps126
 go_wp2_with (first|(go_at_call 141;refine (qcj _ _).mono ?_;rintro e w' ⟨rfl,rfl⟩)|(go_at_call 127;refine (isNum_any _ _).mono ?_;rintro e w' ⟨rfl,rfl⟩)|(go_at_call 76;refine (isBelow_any _ _ _).mono ?_;rintro e w' ⟨rfl,rfl⟩))
 go_ret;exact ⟨rfl,by go_grown⟩
def qa3 (o1 r1 a1 b1 n1 o2 r2 a2 b2 n2:Int):Bool:=o1 == o2 && (r1 == r2 && (a1 == a2 && (b1 == b2 && n1 == n2)))
theorem qby (o1 r1 a1 b1 n1 o2 r2 a2 b2 n2:Int) (w:World):(binOp .eql 45 (insV o1 r1 a1 b1 n1) (insV o2 r2 a2 b2 n2)).run prog w=.ok (.bool (qa3 o1 r1 a1 b1 n1 o2 r2 a2 b2 n2)) w:=by
 rw [run_eql_struct,show (10000:Nat)=9998+1+1 from rfl,run_equalIn_agg w (9998+1) 45 _ _ (by kernel_rfl) (by kernel_rfl)];simp only [qa3];by_cases h1:o1=o2 <;> by_cases h2:r1=r2 <;> by_cases h3:a1=a2 <;> by_cases h4:b1=b2 <;> by_cases h5:n1=n2 <;> simp [go_sem,h1,h2,h3,h4,h5]
theorem qiv {w w1:World} {o:Obj} (h1:Below (w.alloc o).heap.size (w.alloc o) w1):Bw w w1.drew:=by
 have h0:Bw w (w.alloc o):=(nE _ _).alloc (nA _) _;have hs:w.heap.size<=(w.alloc o).heap.size:=by simp
 exact (h0.trans (h1.mono hs)).drew
theorem qa8 {w w1 w2:World} {o:Obj} (h1:Below (w.alloc o).heap.size (w.alloc o) w1) (h2:Below w1.drew.heap.size w1.drew w2):Bw w w2:=by
 have h0:Bw w (w.alloc o):=(nE _ _).alloc (nA _) _;have hs:w.heap.size<=(w.alloc o).heap.size:=by simp
 exact (h0.trans (h1.mono hs)).drew.trans (h2.mono (zP hs h1.size))
theorem qbc {w w1 w2 w3:World} {o:Obj} (h1:Below (w.alloc o).heap.size (w.alloc o) w1) (h2:Below w1.drew.heap.size w1.drew w2) (h3:Bw w2 w3):Bw w w3:=
 qa8 h1 (h2.trans (h3.mono h2.size))
def zi (xs:List Int) (i:Nat):Int:=xs.getD i 0
def Sl (w:World) (a0:Option Addr) (xs:List Int):Prop:=
 xs=[]\/∃ b off,a0=some ⟨b,off,none⟩/\b<w.heap.size/\∀ i,i<xs.length->w.cell? ⟨b,off+i,none⟩=some (iV (zi xs i))
theorem Sl.bw {w w':World} {a0:Option Addr} {xs:List Int} (h:Sl w a0 xs) (hb:Bw w w'):Sl w' a0 xs:=by
 rcases h with h | ⟨b,off,e,hlt,hc⟩
 ·exact .inl h
 ·exact .inr ⟨b,off,e,zL hlt hb.size,fun i hi=>(hb.cell (p:=⟨b,off+i,none⟩) hlt).trans (hc i hi)⟩
theorem Sl.at {w:World} {a0:Option Addr} {xs:List Int} (h:Sl w a0 xs) {k:Nat} (hk:k<xs.length):∃ b off,a0=some (aQ b off)/\b<w.heap.size/\w.cell? ⟨b,off+k,none⟩=some (iV (zi xs k)):=by
 rcases h with rfl | ⟨b,off,e,hlt,hc⟩
 ·simp at hk
 ·exact ⟨b,off,e,hlt,hc k hk⟩
def OwnI (w:World) (B:Nat) (v:Value) (xs:List Int):Prop:=w.ownsRow B 3 1 v xs.length (xs.map (Value.int .i64))
theorem OwnI.mono {w:World} {B B':Nat} {v:Value} {xs:List Int} (h:OwnI w B v xs) (hb:B'<=B):OwnI w B' v xs:=World.ownsRow.mono h hb
theorem OwnI.kept {w w':World} {B:Nat} {v:Value} {xs:List Int} {row:Option Nat} (h:OwnI w B v xs) (hg:w.grownBy w' row) (hne:v.ownBlock=none\/v.ownBlock≠row):OwnI w' B v xs:=World.ownsRow.kept h hg hne
theorem OwnI.lt {w:World} {B:Nat} {v:Value} {xs:List Int} (h:OwnI w B v xs):∀ k,v.ownBlock=some k->B<=k/\k<w.heap.size:=World.ownsRow.lt h
theorem zZ {w w':World} (h:Bw w w'):w.grownBy w' none:=⟨h.os,h.tape,h.output,h.size,fun k hk _=>h.block k hk⟩
theorem qcf {w w':World} (h:w.grownBy w' none):Bw w w':=⟨h.os,h.tape,h.output,h.size,fun k hk=>h.block k hk (by simp)⟩
theorem OwnI.bw {w w':World} {B:Nat} {v:Value} {xs:List Int} (h:OwnI w B v xs) (hb:Bw w w'):OwnI w' B v xs:=by
 refine h.kept (zZ hb) ?_;cases hv:v.ownBlock with
 | none=>exact .inl rfl
 | some k=>exact .inr (by simp)
theorem yC {B:Nat} {w w':World} (h:Below B w w') (n:Nat):Below B w (w'.drewN n):=⟨h.os,h.tape,h.output,h.size,h.block⟩
theorem qc8 (xs:List Int) (j:Nat) (hj:j<xs.length):(xs.map (Value.int .i64))[j]? = some (iV (zi xs j)):=by
 unfold zi;rw [List.getElem?_map,List.getElem?_eq_getElem hj,List.getD_eq_getElem?_getD,List.getElem?_eq_getElem hj];rfl
theorem OwnI.form {w:World} {B:Nat} {v:Value} {xs:List Int} (h:OwnI w B v xs):∃ a0 cap,v=.slice a0 xs.length cap/\Sl w a0 xs:=by
 rcases h.2 with ⟨rfl,h0⟩ | ⟨g,cap,cur,rfl,hb,_⟩
 ·exact ⟨none,0,by rw [h0],.inl (List.eq_nil_of_length_eq_zero h0)⟩
 ·refine ⟨_,cap,rfl,.inr ⟨g,0,rfl,(h.lt g rfl).2,fun i hi=>?_⟩⟩
  rw [nL,World.ownsRow.cellAt h i (by omega)];exact qc8 xs i hi
theorem OwnI.block {w:World} {B:Nat} {v:Value} {xs:List Int} (h:OwnI w B v xs) (hn:0<xs.length):∃ g cap,v=.slice (some (aQ g 0)) xs.length cap/\B<=g/\g<w.heap.size:=by
 rcases h.2 with ⟨_,h0⟩ | ⟨g,cap,cur,rfl,hb,_⟩
 ·omega
 ·exact ⟨g,cap,rfl,hb,(h.lt g rfl).2⟩
theorem OwnI.cell {w:World} {B g cap:Nat} {xs:List Int} (h:OwnI w B (sG g xs.length cap) xs) {j:Nat} (hj:j<xs.length):w.cell? (aQ g j)=some (iV (zi xs j)):=by
 rw [World.ownsRow.cellAt h j (by omega)];exact qc8 xs j hj
theorem OwnI.frozen {w:World} {B g cap:Nat} {xs:List Int} (h:OwnI w B (sG g xs.length cap) xs) (j:Nat):w.frozen? (aQ g j)=false:=World.ownsRow.frozenAt h j
theorem OwnI.set {w:World} {B g cap n:Nat} {xs:List Int} (h:OwnI w B (sG g n cap) xs) (hn:n=xs.length) (j:Nat) (x:Int):OwnI (w.setCell (aQ g j) (iV x)) B (sG g n cap) (xs.set j x)/\w.grownBy (w.setCell (aQ g j) (iV x)) (some g):=by
 subst hn;have:=World.ownsRow.stored h j (iV x);unfold OwnI;rw [List.length_set,List.map_set];exact this
theorem qur {xs ys:List Int} (hl:xs.length=ys.length) (h:∀ i,i<xs.length->zi xs i=zi ys i):xs=ys:=by
 apply List.ext_getElem hl;intro i h1 h2;have:=h i h1;unfold zi at this
 rwa [List.getD_eq_getElem?_getD,List.getD_eq_getElem?_getD,List.getElem?_eq_getElem h1,List.getElem?_eq_getElem h2,Option.getD_some,Option.getD_some] at this
theorem qjv (xs:List Int) (j:Nat) (x:Int) (hj:j<xs.length):zi (xs.set j x) j=x:=by
 unfold zi;rw [List.getD_eq_getElem?_getD,List.getElem?_set,nC rfl,nC hj];rfl
theorem qnv (xs:List Int) (i j:Nat) (x:Int) (h:i≠j):zi (xs.set j x) i=zi xs i:=by
 unfold zi;rw [List.getD_eq_getElem?_getD,List.getElem?_set,nB (fun e=>h e.symm),List.getD_eq_getElem?_getD]
theorem qnz:(prog.info? 3).map (fun i=>(i.zero,i.size,i.bytes))=some (some (iV 0),1,8):=by kernel_rfl
theorem qef (n:Nat) (hn:n<=1048576) (w:World):
  (Instr.makeSlice 41 (iV (n:Int)) (iV (n:Int))).run prog w=.ok (sG w.heap.size n n) (w.alloc (.cells (madeCells #[iV 0] n) 3)):=by
 have hinfo:=qnz;cases hi:prog.info? 3 with
 | none=>rw [hi] at hinfo;cases hinfo
 | some i=>
  rw [hi] at hinfo;simp only [Option.map_some,nG,Prod.mk.injEq] at hinfo;obtain ⟨hz,hs,hb⟩:=hinfo;have h:=run_make (P:=prog) w 41 3 i _ Tryz.underlying41 hi hz .i64 .i64 (n:Int) (n:Int) (by omega) (Int.le_refl _) (by rw [hb];omega) (by omega);rw [hs] at h;simpa [Value.cells] using h
theorem qpg (w:World) (n:Nat) (hn:n<=1048576):OwnI (w.alloc (.cells (madeCells #[iV 0] n) 3)) w.heap.size (sG w.heap.size n n) (List.replicate n 0):=by
 have:=World.ownsRow_lit (base:=w.heap.size) (e:=3) (size:=1) w (madeCells #[iV 0] n) n (nA _) (by unfold maxLen;omega) (by simp [size_madeCells]);rw [toList_madeCells_one] at this;unfold OwnI;rw [List.length_replicate,List.map_replicate];exact this
abbrev stV (p:Int) (ra:Option Addr) (rn rc:Nat) (oa:Option Addr) (on oc:Nat) (code:Int):Value:=.agg #[iV p,.slice ra rn rc,.slice oa on oc,iV code]
abbrev evV (k p v:Int):Value:=.agg #[iV k,iV p,iV v]
theorem qal {W w1:World} (hb:Bw W w1):(∀ b o,b<W.heap.size->w1.cell? ⟨b,o,none⟩=W.cell? ⟨b,o,none⟩)/\(∀ b o,b<W.heap.size->w1.frozen? ⟨b,o,none⟩=W.frozen? ⟨b,o,none⟩):=
 ⟨fun b o h=>hb.cell (p:=(aQ b o)) h,fun b o h=>hb.frozen (p:=(aQ b o)) h⟩
theorem OwnI.setBelow {w:World} {B:Nat} {v:Value} {xs:List Int} (h:OwnI w B v xs) {a:Addr} (ha:a.block<B) (u:Value):OwnI (w.setCell a u) B v xs:=ownsRow_setCell_below h ha u
def qac (w:World) (B:Nat) (v:Value) (p:Int) (rs os:List Int) (code:Int):Prop:=
 ∃ vr vo,v=.agg #[iV p,vr,vo,iV code]/\OwnI w B vr rs/\OwnI w B vo os/\∀ k,vr.ownBlock=some k->vo.ownBlock≠some k
theorem qac.bw {w w':World} {B:Nat} {v:Value} {p code:Int} {rs os:List Int} (h:qac w B v p rs os code) (hb:Bw w w'):qac w' B v p rs os code:=by
 obtain ⟨vr,vo,e,h1,h2,h3⟩:=h;exact ⟨vr,vo,e,h1.bw hb,h2.bw hb,h3⟩
theorem qac.mono {w:World} {B B':Nat} {v:Value} {p code:Int} {rs os:List Int} (h:qac w B v p rs os code) (hb:B'<=B):qac w B' v p rs os code:=by
 obtain ⟨vr,vo,e,h1,h2,h3⟩:=h;exact ⟨vr,vo,e,h1.mono hb,h2.mono hb,h3⟩
theorem qac.read {w:World} {B:Nat} {v:Value} {p code:Int} {rs os:List Int} (h:qac w B v p rs os code):∃ ra rc oa oc,v=stV p ra rs.length rc oa os.length oc code/\Sl w ra rs/\Sl w oa os:=by
 obtain ⟨vr,vo,rfl,h1,h2,_⟩:=h;obtain ⟨ra,rc,rfl,s1⟩:=h1.form;obtain ⟨oa,oc,rfl,s2⟩:=h2.form;exact ⟨ra,rc,oa,oc,rfl,s1,s2⟩
theorem qah {w w0 w1:World} {B:Nat} (h:Below B w w0) (h1:Bw w0 w1) (hB:B<=w0.heap.size):Below B w w1:=h.trans (h1.mono hB)
