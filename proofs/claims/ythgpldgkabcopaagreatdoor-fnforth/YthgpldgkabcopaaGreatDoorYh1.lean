import Derived.Test.YthgpldgkabcopaaGreatDoorYh0
import Derived.WalkKit
import Derived.WalkSpells
import Derived.WalkLawsBesides
import Derived.Handy
namespace Go.Proofs.YthgpldgkabcopaaGreatDoor
set_option maxHeartbeats 1000000
open Go.RowKit
def inB (x lo hi:Int):Bool:=decide (lo<=x/\x<=hi)
def belB (x n:Int):Bool:=decide (0<=x/\x<n)
theorem l1In_any (x lo hi:Int) (w:World):
  Calls Tryz.prog 32 #[.int .i64 x,.int .i64 lo,.int .i64 hi] w fun e w'=>e=.returned (.bool (inB x lo hi))/\w'=w:=by
 by_cases h1:lo<=x
 ·by_cases h2:x<=hi
  ·go_enter Tryz.func32,Tryz.ntmps32
   go_wp2
   go_ret
   exact ⟨by simp [inB,h1,h2],rfl⟩
  ·go_enter Tryz.func32,Tryz.ntmps32
   go_wp2
   go_ret
   exact ⟨by simp [inB,h1,h2],rfl⟩
 ·go_enter Tryz.func32,Tryz.ntmps32
  go_wp2
  go_ret
  exact ⟨by simp [inB];omega,rfl⟩
theorem isBelow_any (x n:Int) (w:World):
  Calls Tryz.prog 27 #[.int .i64 x,.int .i64 n] w fun e w'=>e=.returned (.bool (belB x n))/\w'=w:=by
 by_cases h1:0<=x
 ·by_cases h2:x<n
  ·go_enter Tryz.func27,Tryz.ntmps27
   go_wp2
   go_ret
   exact ⟨by simp [belB,h1,h2],rfl⟩
  ·go_enter Tryz.func27,Tryz.ntmps27
   go_wp2
   go_ret
   exact ⟨by simp [belB,h1,h2],rfl⟩
 ·go_enter Tryz.func27,Tryz.ntmps27
  go_wp2
  go_ret
  exact ⟨by simp [belB];omega,rfl⟩
theorem qcn (x:Int) (w:World):
  Calls Tryz.prog 147 #[.int .i64 x] w fun e w'=>e=.returned (.bool (belB x 4))/\w'=w:=by
 go_enter Tryz.func147,Tryz.ntmps147
 go_wp2_with (go_at_call 27;refine (isBelow_any _ _ _).mono ?_;rintro e w' ⟨rfl,rfl⟩)
 go_ret
 exact ⟨rfl,rfl⟩
theorem isNum_any (x:Int) (w:World):
  Calls Tryz.prog 138 #[.int .i64 x] w fun e w'=>e=.returned (.bool (inB x (-1000000000) 1000000000))/\w'=w:=by
 by_cases h1:-1000000000<=x
 ·by_cases h2:x<=1000000000
  ·go_enter Tryz.func138,Tryz.ntmps138
   go_wp2
   go_ret
   exact ⟨by simp [inB,h1,h2],rfl⟩
  ·go_enter Tryz.func138,Tryz.ntmps138
   go_wp2
   go_ret
   exact ⟨by simp [inB,h1,h2],rfl⟩
 ·go_enter Tryz.func138,Tryz.ntmps138
  go_wp2
  go_ret
  exact ⟨by simp [inB];omega,rfl⟩
theorem l1Num_any (x:Int) (w:World):
  Calls Tryz.prog 84 #[.int .i64 x] w fun e w'=>e=.returned (.bool (inB x (-1000000000) 1000000000))/\w'=w:=by
 go_enter Tryz.func84,Tryz.ntmps84
 go_wp2_with (go_at_call 32;refine (l1In_any _ _ _ _).mono ?_;rintro e w' ⟨rfl,rfl⟩)
 go_ret
 exact ⟨rfl,rfl⟩
abbrev insV (op r a b n:Int):Value:=.agg #[.int .i64 op,.int .i64 r,.int .i64 a,.int .i64 b,.int .i64 n]
abbrev setV (r n:Int):Value:=.agg #[.int .i64 r,.int .i64 n]
theorem qfd (r a b n:Int) (w:World):
  Calls Tryz.prog 136 #[insV 1 r a b n] w fun e w'=>e=.returned (.iface 183 (setV r n))/\Bw w w':=by
 go_enter Tryz.func136,Tryz.ntmps136
 go_wp2
 go_ret
 exact ⟨rfl,by go_grown⟩
theorem qrx (r n:Int) (w:World):
  Calls Tryz.prog 206 #[setV r n] w fun e w'=>e=.returned (insV 1 r 0 0 n)/\Bw w w':=by
 go_enter Tryz.func206,Tryz.ntmps206
 go_wp2
 refine bodyPost_ret (v:=insV 1 r 0 0 n) (by simp [results,Tryz.results206,go_sem]) rfl ⟨rfl,?_⟩
 go_grown
abbrev qjd (op r a b:Int):Value:=.agg #[.int .i64 op,.int .i64 r,.int .i64 a,.int .i64 b]
theorem qfz (r a b n:Int) (w:World):
  Calls Tryz.prog 136 #[insV 2 r a b n] w fun e w'=>e=.returned (.iface 185 (qjd 2 r a b))/\Bw w w':=by
 go_enter Tryz.func136,Tryz.ntmps136
 go_wp2
 go_ret
 exact ⟨rfl,by go_grown⟩
theorem qf0 (r a b n:Int) (w:World):
  Calls Tryz.prog 136 #[insV 3 r a b n] w fun e w'=>e=.returned (.iface 185 (qjd 3 r a b))/\Bw w w':=by
 go_enter Tryz.func136,Tryz.ntmps136
 go_wp2
 go_ret
 exact ⟨rfl,by go_grown⟩
theorem qf1 (r a b n:Int) (w:World):
  Calls Tryz.prog 136 #[insV 4 r a b n] w fun e w'=>e=.returned (.iface 185 (qjd 4 r a b))/\Bw w w':=by
 go_enter Tryz.func136,Tryz.ntmps136
 go_wp2
 go_ret
 exact ⟨rfl,by go_grown⟩
theorem qf2 (r a b n:Int) (w:World):
  Calls Tryz.prog 136 #[insV 5 r a b n] w fun e w'=>e=.returned (.iface 185 (qjd 5 r a b))/\Bw w w':=by
 go_enter Tryz.func136,Tryz.ntmps136
 go_wp2
 go_ret
 exact ⟨rfl,by go_grown⟩
theorem qo2 (op r a b:Int) (w:World):
  Calls Tryz.prog 207 #[qjd op r a b] w fun e w'=>e=.returned (insV op r a b 0)/\Bw w w':=by
 go_enter Tryz.func207,Tryz.ntmps207
 go_wp2
 refine bodyPost_ret (v:=insV op r a b 0) (by simp [results,Tryz.results207,go_sem]) rfl ⟨rfl,?_⟩
 go_grown
abbrev qsu (n a:Int):Value:=.agg #[.int .i64 n,.int .i64 a]
theorem qeh (r a b n:Int) (w:World):
  Calls Tryz.prog 136 #[insV 6 r a b n] w fun e w'=>e=.returned (.iface 187 (qsu n a))/\Bw w w':=by
 go_enter Tryz.func136,Tryz.ntmps136
 go_wp2
 go_ret
 exact ⟨rfl,by go_grown⟩
theorem qo4 (n a:Int) (w:World):
  Calls Tryz.prog 208 #[qsu n a] w fun e w'=>e=.returned (insV 6 0 a 0 n)/\Bw w w':=by
 go_enter Tryz.func208,Tryz.ntmps208
 go_wp2
 refine bodyPost_ret (v:=insV 6 0 a 0 n) (by simp [results,Tryz.results208,go_sem]) rfl ⟨rfl,?_⟩
 go_grown
abbrev qs3 (r n:Int):Value:=.agg #[.int .i64 r,.int .i64 n]
theorem qei (r a b n:Int) (w:World):
  Calls Tryz.prog 136 #[insV 7 r a b n] w fun e w'=>e=.returned (.iface 189 (qs3 r n))/\Bw w w':=by
 go_enter Tryz.func136,Tryz.ntmps136
 go_wp2
 go_ret
 exact ⟨rfl,by go_grown⟩
theorem qo5 (r n:Int) (w:World):
  Calls Tryz.prog 209 #[qs3 r n] w fun e w'=>e=.returned (insV 7 r 0 0 n)/\Bw w w':=by
 go_enter Tryz.func209,Tryz.ntmps209
 go_wp2
 refine bodyPost_ret (v:=insV 7 r 0 0 n) (by simp [results,Tryz.results209,go_sem]) rfl ⟨rfl,?_⟩
 go_grown
abbrev qme (a:Int):Value:=.agg #[.int .i64 a]
theorem qd3 (r a b n:Int) (w:World):
  Calls Tryz.prog 136 #[insV 8 r a b n] w fun e w'=>e=.returned (.iface 191 (qme a))/\Bw w w':=by
 go_enter Tryz.func136,Tryz.ntmps136
 go_wp2
 go_ret
 exact ⟨rfl,by go_grown⟩
theorem ql5 (a:Int) (w:World):
  Calls Tryz.prog 210 #[qme a] w fun e w'=>e=.returned (insV 8 0 a 0 0)/\Bw w w':=by
 go_enter Tryz.func210,Tryz.ntmps210
 go_wp2
 refine bodyPost_ret (v:=insV 8 0 a 0 0) (by simp [results,Tryz.results210,go_sem]) rfl ⟨rfl,?_⟩
 go_grown
abbrev qr0 (n:Int):Value:=.agg #[.int .i64 n]
theorem qeg (r a b n:Int) (w:World):
  Calls Tryz.prog 136 #[insV 9 r a b n] w fun e w'=>e=.returned (.iface 193 (qr0 n))/\Bw w w':=by
 go_enter Tryz.func136,Tryz.ntmps136
 go_wp2
 go_ret
 exact ⟨rfl,by go_grown⟩
theorem qo3 (n:Int) (w:World):
  Calls Tryz.prog 211 #[qr0 n] w fun e w'=>e=.returned (insV 9 0 0 0 n)/\Bw w w':=by
 go_enter Tryz.func211,Tryz.ntmps211
 go_wp2
 refine bodyPost_ret (v:=insV 9 0 0 0 n) (by simp [results,Tryz.results211,go_sem]) rfl ⟨rfl,?_⟩
 go_grown
abbrev qtg (a n:Int):Value:=.agg #[.int .i64 a,.int .i64 n]
theorem qej (r a b n:Int) (w:World):
  Calls Tryz.prog 136 #[insV 10 r a b n] w fun e w'=>e=.returned (.iface 195 (qtg a n))/\Bw w w':=by
 go_enter Tryz.func136,Tryz.ntmps136
 go_wp2
 go_ret
 exact ⟨rfl,by go_grown⟩
theorem qo6 (a n:Int) (w:World):
  Calls Tryz.prog 212 #[qtg a n] w fun e w'=>e=.returned (insV 10 0 a 0 n)/\Bw w w':=by
 go_enter Tryz.func212,Tryz.ntmps212
 go_wp2
 refine bodyPost_ret (v:=insV 10 0 a 0 n) (by simp [results,Tryz.results212,go_sem]) rfl ⟨rfl,?_⟩
 go_grown
abbrev endV:Value:=.agg #[]
theorem qfc (r a b n:Int) (w:World):
  Calls Tryz.prog 136 #[insV 11 r a b n] w fun e w'=>e=.returned (.iface 197 endV)/\Bw w w':=by
 go_enter Tryz.func136,Tryz.ntmps136
 go_wp2
 go_ret
 exact ⟨rfl,by go_grown⟩
theorem qrw (w:World):
  Calls Tryz.prog 213 #[endV] w fun e w'=>e=.returned (insV 11 0 0 0 0)/\Bw w w':=by
 go_enter Tryz.func213,Tryz.ntmps213
 go_wp2
 refine bodyPost_ret (v:=insV 11 0 0 0 0) (by simp [results,Tryz.results213,go_sem]) rfl ⟨rfl,?_⟩
 go_grown
theorem qg3 (op r a b n:Int) (w:World) (h1:2<=op) (h2:op<=5):
  Calls Tryz.prog 136 #[insV op r a b n] w fun e w'=>e=.returned (.iface 185 (qjd op r a b))/\Bw w w':=by
 have h:op=2\/op=3\/op=4\/op=5:=by omega
 rcases h with rfl | rfl | rfl | rfl
 ·exact qfz r a b n w
 ·exact qf0 r a b n w
 ·exact qf1 r a b n w
 ·exact qf2 r a b n w
theorem qmd (op r a b n:Int) (w:World) (h:op<1\/11<op):
  Calls Tryz.prog 136 #[insV op r a b n] w fun e w'=>e=.returned .nilIface/\Bw w w':=by
 have h1:(op == 1)=false:=by simp;omega
 have h2:(op == 2)=false:=by simp;omega
 have h3:(op == 3)=false:=by simp;omega
 have h4:(op == 4)=false:=by simp;omega
 have h5:(op == 5)=false:=by simp;omega
 have h6:(op == 6)=false:=by simp;omega
 have h7:(op == 7)=false:=by simp;omega
 have h8:(op == 8)=false:=by simp;omega
 have h9:(op == 9)=false:=by simp;omega
 have h10:(op == 10)=false:=by simp;omega
 have h11:(op == 11)=false:=by simp;omega
 clear h
 go_enter Tryz.func136,Tryz.ntmps136
 go_wp2
 go_ret
 exact ⟨rfl,by go_grown⟩
theorem qp2 (v:Value) (w:World):(Instr.typeAssert (.iface 183 v) 162 183 true).run Tryz.prog w=.ok (.tuple #[v,.bool true]) w:=by kernel_rfl
theorem qm7 (v:Value) (w:World):(Instr.typeAssert (.iface 183 v) 162 185 true).run Tryz.prog w=.ok (.tuple #[.agg #[.int .i64 0,.int .i64 0,.int .i64 0,.int .i64 0],.bool false]) w:=by kernel_rfl
theorem qhm (v:Value) (w:World):(Instr.typeAssert (.iface 183 v) 162 187 true).run Tryz.prog w=.ok (.tuple #[.agg #[.int .i64 0,.int .i64 0],.bool false]) w:=by kernel_rfl
theorem qhn (v:Value) (w:World):(Instr.typeAssert (.iface 183 v) 162 189 true).run Tryz.prog w=.ok (.tuple #[.agg #[.int .i64 0,.int .i64 0],.bool false]) w:=by kernel_rfl
theorem qgw (v:Value) (w:World):(Instr.typeAssert (.iface 183 v) 162 191 true).run Tryz.prog w=.ok (.tuple #[.agg #[.int .i64 0],.bool false]) w:=by kernel_rfl
theorem qm8 (v:Value) (w:World):(Instr.typeAssert (.iface 183 v) 162 193 true).run Tryz.prog w=.ok (.tuple #[.agg #[.int .i64 0],.bool false]) w:=by kernel_rfl
theorem qm9 (v:Value) (w:World):(Instr.typeAssert (.iface 183 v) 162 195 true).run Tryz.prog w=.ok (.tuple #[.agg #[.int .i64 0,.int .i64 0],.bool false]) w:=by kernel_rfl
theorem qp1 (v:Value) (w:World):(Instr.typeAssert (.iface 183 v) 162 197 true).run Tryz.prog w=.ok (.tuple #[.agg #[],.bool false]) w:=by kernel_rfl
theorem qmz (v:Value) (w:World):(Instr.typeAssert (.iface 185 v) 162 183 true).run Tryz.prog w=.ok (.tuple #[.agg #[.int .i64 0,.int .i64 0],.bool false]) w:=by kernel_rfl
theorem qk5 (v:Value) (w:World):(Instr.typeAssert (.iface 185 v) 162 185 true).run Tryz.prog w=.ok (.tuple #[v,.bool true]) w:=by kernel_rfl
theorem qgq (v:Value) (w:World):(Instr.typeAssert (.iface 185 v) 162 187 true).run Tryz.prog w=.ok (.tuple #[.agg #[.int .i64 0,.int .i64 0],.bool false]) w:=by kernel_rfl
theorem qgr (v:Value) (w:World):(Instr.typeAssert (.iface 185 v) 162 189 true).run Tryz.prog w=.ok (.tuple #[.agg #[.int .i64 0,.int .i64 0],.bool false]) w:=by kernel_rfl
theorem qff (v:Value) (w:World):(Instr.typeAssert (.iface 185 v) 162 191 true).run Tryz.prog w=.ok (.tuple #[.agg #[.int .i64 0],.bool false]) w:=by kernel_rfl
theorem qk6 (v:Value) (w:World):(Instr.typeAssert (.iface 185 v) 162 193 true).run Tryz.prog w=.ok (.tuple #[.agg #[.int .i64 0],.bool false]) w:=by kernel_rfl
theorem qk7 (v:Value) (w:World):(Instr.typeAssert (.iface 185 v) 162 195 true).run Tryz.prog w=.ok (.tuple #[.agg #[.int .i64 0,.int .i64 0],.bool false]) w:=by kernel_rfl
theorem qmy (v:Value) (w:World):(Instr.typeAssert (.iface 185 v) 162 197 true).run Tryz.prog w=.ok (.tuple #[.agg #[],.bool false]) w:=by kernel_rfl
theorem qm6 (v:Value) (w:World):(Instr.typeAssert (.iface 187 v) 162 183 true).run Tryz.prog w=.ok (.tuple #[.agg #[.int .i64 0,.int .i64 0],.bool false]) w:=by kernel_rfl
theorem qld (v:Value) (w:World):(Instr.typeAssert (.iface 187 v) 162 185 true).run Tryz.prog w=.ok (.tuple #[.agg #[.int .i64 0,.int .i64 0,.int .i64 0,.int .i64 0],.bool false]) w:=by kernel_rfl
theorem qgv (v:Value) (w:World):(Instr.typeAssert (.iface 187 v) 162 187 true).run Tryz.prog w=.ok (.tuple #[v,.bool true]) w:=by kernel_rfl
theorem qlf (v:Value) (w:World):(Instr.typeAssert (.iface 187 v) 162 189 true).run Tryz.prog w=.ok (.tuple #[.agg #[.int .i64 0,.int .i64 0],.bool false]) w:=by kernel_rfl
theorem qjb (v:Value) (w:World):(Instr.typeAssert (.iface 187 v) 162 191 true).run Tryz.prog w=.ok (.tuple #[.agg #[.int .i64 0],.bool false]) w:=by kernel_rfl
theorem qle (v:Value) (w:World):(Instr.typeAssert (.iface 187 v) 162 193 true).run Tryz.prog w=.ok (.tuple #[.agg #[.int .i64 0],.bool false]) w:=by kernel_rfl
theorem qlg (v:Value) (w:World):(Instr.typeAssert (.iface 187 v) 162 195 true).run Tryz.prog w=.ok (.tuple #[.agg #[.int .i64 0,.int .i64 0],.bool false]) w:=by kernel_rfl
theorem qm5 (v:Value) (w:World):(Instr.typeAssert (.iface 187 v) 162 197 true).run Tryz.prog w=.ok (.tuple #[.agg #[],.bool false]) w:=by kernel_rfl
theorem qnb (v:Value) (w:World):(Instr.typeAssert (.iface 189 v) 162 183 true).run Tryz.prog w=.ok (.tuple #[.agg #[.int .i64 0,.int .i64 0],.bool false]) w:=by kernel_rfl
theorem qlh (v:Value) (w:World):(Instr.typeAssert (.iface 189 v) 162 185 true).run Tryz.prog w=.ok (.tuple #[.agg #[.int .i64 0,.int .i64 0,.int .i64 0,.int .i64 0],.bool false]) w:=by kernel_rfl
theorem qgx (v:Value) (w:World):(Instr.typeAssert (.iface 189 v) 162 187 true).run Tryz.prog w=.ok (.tuple #[.agg #[.int .i64 0,.int .i64 0],.bool false]) w:=by kernel_rfl
theorem qgy (v:Value) (w:World):(Instr.typeAssert (.iface 189 v) 162 189 true).run Tryz.prog w=.ok (.tuple #[v,.bool true]) w:=by kernel_rfl
theorem qjc (v:Value) (w:World):(Instr.typeAssert (.iface 189 v) 162 191 true).run Tryz.prog w=.ok (.tuple #[.agg #[.int .i64 0],.bool false]) w:=by kernel_rfl
theorem qli (v:Value) (w:World):(Instr.typeAssert (.iface 189 v) 162 193 true).run Tryz.prog w=.ok (.tuple #[.agg #[.int .i64 0],.bool false]) w:=by kernel_rfl
theorem qlj (v:Value) (w:World):(Instr.typeAssert (.iface 189 v) 162 195 true).run Tryz.prog w=.ok (.tuple #[.agg #[.int .i64 0,.int .i64 0],.bool false]) w:=by kernel_rfl
theorem qna (v:Value) (w:World):(Instr.typeAssert (.iface 189 v) 162 197 true).run Tryz.prog w=.ok (.tuple #[.agg #[],.bool false]) w:=by kernel_rfl
theorem qlc (v:Value) (w:World):(Instr.typeAssert (.iface 191 v) 162 183 true).run Tryz.prog w=.ok (.tuple #[.agg #[.int .i64 0,.int .i64 0],.bool false]) w:=by kernel_rfl
theorem qi8 (v:Value) (w:World):(Instr.typeAssert (.iface 191 v) 162 185 true).run Tryz.prog w=.ok (.tuple #[.agg #[.int .i64 0,.int .i64 0,.int .i64 0,.int .i64 0],.bool false]) w:=by kernel_rfl
theorem qfh (v:Value) (w:World):(Instr.typeAssert (.iface 191 v) 162 187 true).run Tryz.prog w=.ok (.tuple #[.agg #[.int .i64 0,.int .i64 0],.bool false]) w:=by kernel_rfl
theorem qfi (v:Value) (w:World):(Instr.typeAssert (.iface 191 v) 162 189 true).run Tryz.prog w=.ok (.tuple #[.agg #[.int .i64 0,.int .i64 0],.bool false]) w:=by kernel_rfl
theorem qe3 (v:Value) (w:World):(Instr.typeAssert (.iface 191 v) 162 191 true).run Tryz.prog w=.ok (.tuple #[v,.bool true]) w:=by kernel_rfl
theorem qi9 (v:Value) (w:World):(Instr.typeAssert (.iface 191 v) 162 193 true).run Tryz.prog w=.ok (.tuple #[.agg #[.int .i64 0],.bool false]) w:=by kernel_rfl
theorem qja (v:Value) (w:World):(Instr.typeAssert (.iface 191 v) 162 195 true).run Tryz.prog w=.ok (.tuple #[.agg #[.int .i64 0,.int .i64 0],.bool false]) w:=by kernel_rfl
theorem qlb (v:Value) (w:World):(Instr.typeAssert (.iface 191 v) 162 197 true).run Tryz.prog w=.ok (.tuple #[.agg #[],.bool false]) w:=by kernel_rfl
theorem qm4 (v:Value) (w:World):(Instr.typeAssert (.iface 193 v) 162 183 true).run Tryz.prog w=.ok (.tuple #[.agg #[.int .i64 0,.int .i64 0],.bool false]) w:=by kernel_rfl
theorem qk8 (v:Value) (w:World):(Instr.typeAssert (.iface 193 v) 162 185 true).run Tryz.prog w=.ok (.tuple #[.agg #[.int .i64 0,.int .i64 0,.int .i64 0,.int .i64 0],.bool false]) w:=by kernel_rfl
theorem qgt (v:Value) (w:World):(Instr.typeAssert (.iface 193 v) 162 187 true).run Tryz.prog w=.ok (.tuple #[.agg #[.int .i64 0,.int .i64 0],.bool false]) w:=by kernel_rfl
theorem qgu (v:Value) (w:World):(Instr.typeAssert (.iface 193 v) 162 189 true).run Tryz.prog w=.ok (.tuple #[.agg #[.int .i64 0,.int .i64 0],.bool false]) w:=by kernel_rfl
theorem qfg (v:Value) (w:World):(Instr.typeAssert (.iface 193 v) 162 191 true).run Tryz.prog w=.ok (.tuple #[.agg #[.int .i64 0],.bool false]) w:=by kernel_rfl
theorem qk9 (v:Value) (w:World):(Instr.typeAssert (.iface 193 v) 162 193 true).run Tryz.prog w=.ok (.tuple #[v,.bool true]) w:=by kernel_rfl
theorem qla (v:Value) (w:World):(Instr.typeAssert (.iface 193 v) 162 195 true).run Tryz.prog w=.ok (.tuple #[.agg #[.int .i64 0,.int .i64 0],.bool false]) w:=by kernel_rfl
theorem qm3 (v:Value) (w:World):(Instr.typeAssert (.iface 193 v) 162 197 true).run Tryz.prog w=.ok (.tuple #[.agg #[],.bool false]) w:=by kernel_rfl
theorem qnd (v:Value) (w:World):(Instr.typeAssert (.iface 195 v) 162 183 true).run Tryz.prog w=.ok (.tuple #[.agg #[.int .i64 0,.int .i64 0],.bool false]) w:=by kernel_rfl
theorem qlk (v:Value) (w:World):(Instr.typeAssert (.iface 195 v) 162 185 true).run Tryz.prog w=.ok (.tuple #[.agg #[.int .i64 0,.int .i64 0,.int .i64 0,.int .i64 0],.bool false]) w:=by kernel_rfl
theorem qgz (v:Value) (w:World):(Instr.typeAssert (.iface 195 v) 162 187 true).run Tryz.prog w=.ok (.tuple #[.agg #[.int .i64 0,.int .i64 0],.bool false]) w:=by kernel_rfl
theorem qg0 (v:Value) (w:World):(Instr.typeAssert (.iface 195 v) 162 189 true).run Tryz.prog w=.ok (.tuple #[.agg #[.int .i64 0,.int .i64 0],.bool false]) w:=by kernel_rfl
theorem qfj (v:Value) (w:World):(Instr.typeAssert (.iface 195 v) 162 191 true).run Tryz.prog w=.ok (.tuple #[.agg #[.int .i64 0],.bool false]) w:=by kernel_rfl
theorem qll (v:Value) (w:World):(Instr.typeAssert (.iface 195 v) 162 193 true).run Tryz.prog w=.ok (.tuple #[.agg #[.int .i64 0],.bool false]) w:=by kernel_rfl
theorem qlm (v:Value) (w:World):(Instr.typeAssert (.iface 195 v) 162 195 true).run Tryz.prog w=.ok (.tuple #[v,.bool true]) w:=by kernel_rfl
theorem qnc (v:Value) (w:World):(Instr.typeAssert (.iface 195 v) 162 197 true).run Tryz.prog w=.ok (.tuple #[.agg #[],.bool false]) w:=by kernel_rfl
theorem qp0 (v:Value) (w:World):(Instr.typeAssert (.iface 197 v) 162 183 true).run Tryz.prog w=.ok (.tuple #[.agg #[.int .i64 0,.int .i64 0],.bool false]) w:=by kernel_rfl
theorem qm0 (v:Value) (w:World):(Instr.typeAssert (.iface 197 v) 162 185 true).run Tryz.prog w=.ok (.tuple #[.agg #[.int .i64 0,.int .i64 0,.int .i64 0,.int .i64 0],.bool false]) w:=by kernel_rfl
theorem qhk (v:Value) (w:World):(Instr.typeAssert (.iface 197 v) 162 187 true).run Tryz.prog w=.ok (.tuple #[.agg #[.int .i64 0,.int .i64 0],.bool false]) w:=by kernel_rfl
theorem qhl (v:Value) (w:World):(Instr.typeAssert (.iface 197 v) 162 189 true).run Tryz.prog w=.ok (.tuple #[.agg #[.int .i64 0,.int .i64 0],.bool false]) w:=by kernel_rfl
theorem qgs (v:Value) (w:World):(Instr.typeAssert (.iface 197 v) 162 191 true).run Tryz.prog w=.ok (.tuple #[.agg #[.int .i64 0],.bool false]) w:=by kernel_rfl
theorem qm1 (v:Value) (w:World):(Instr.typeAssert (.iface 197 v) 162 193 true).run Tryz.prog w=.ok (.tuple #[.agg #[.int .i64 0],.bool false]) w:=by kernel_rfl
theorem qm2 (v:Value) (w:World):(Instr.typeAssert (.iface 197 v) 162 195 true).run Tryz.prog w=.ok (.tuple #[.agg #[.int .i64 0,.int .i64 0],.bool false]) w:=by kernel_rfl
theorem qpz (v:Value) (w:World):(Instr.typeAssert (.iface 197 v) 162 197 true).run Tryz.prog w=.ok (.tuple #[v,.bool true]) w:=by kernel_rfl
attribute [local go_sem] qp2 qm7 qhm qhn qgw qm8 qm9 qp1 qmz qk5 qgq qgr qff qk6 qk7 qmy qm6 qld qgv qlf qjb qle qlg qm5 qnb qlh qgx qgy qjc qli qlj qna qlc qi8 qfh qfi qe3 qi9 qja qlb qm4 qk8 qgt qgu qfg qk9 qla qm3 qnd qlk qgz qg0 qfj qll qlm qnc qp0 qm0 qhk qhl qgs qm1 qm2 qpz
theorem qtx (r n places procs:Int) (w:World):
  Calls Tryz.prog 137 #[.iface 183 (setV r n),.int .i64 places,.int .i64 procs] w fun e w'=>e=.returned (.bool (belB r 4 && inB n (-1000000000) 1000000000))/\Bw w w':=by
 rcases zK (belB r 4) with t0 | t0 <;> rcases zK (inB n (-1000000000) 1000000000) with t1 | t1
 all_goals
  go_enter Tryz.func137,Tryz.ntmps137
  go_wp2_with (first|(go_at_call 147;refine (qcn _ _).mono ?_;rintro e w' ⟨rfl,rfl⟩)|(go_at_call 138;refine (isNum_any _ _).mono ?_;rintro e w' ⟨rfl,rfl⟩)|(go_at_call 27;refine (isBelow_any _ _ _).mono ?_;rintro e w' ⟨rfl,rfl⟩))
  go_ret
  exact ⟨by rw [t0,t1] <;> rfl,by go_grown⟩
theorem qrk (op r a b places procs:Int) (w:World):
  Calls Tryz.prog 137 #[.iface 185 (qjd op r a b),.int .i64 places,.int .i64 procs] w fun e w'=>e=.returned (.bool (belB r 4 && belB a 4 && belB b 4))/\Bw w w':=by
 rcases zK (belB r 4) with t0 | t0 <;> rcases zK (belB a 4) with t1 | t1 <;> rcases zK (belB b 4) with t2 | t2
 all_goals
  go_enter Tryz.func137,Tryz.ntmps137
  go_wp2_with (first|(go_at_call 147;refine (qcn _ _).mono ?_;rintro e w' ⟨rfl,rfl⟩)|(go_at_call 138;refine (isNum_any _ _).mono ?_;rintro e w' ⟨rfl,rfl⟩)|(go_at_call 27;refine (isBelow_any _ _ _).mono ?_;rintro e w' ⟨rfl,rfl⟩))
  go_ret
  exact ⟨by rw [t0,t1,t2] <;> rfl,by go_grown⟩
theorem qrm (n a places procs:Int) (w:World):
  Calls Tryz.prog 137 #[.iface 187 (qsu n a),.int .i64 places,.int .i64 procs] w fun e w'=>e=.returned (.bool (belB a 4 && belB n procs))/\Bw w w':=by
 rcases zK (belB a 4) with t0 | t0 <;> rcases zK (belB n procs) with t1 | t1
 all_goals
  go_enter Tryz.func137,Tryz.ntmps137
  go_wp2_with (first|(go_at_call 147;refine (qcn _ _).mono ?_;rintro e w' ⟨rfl,rfl⟩)|(go_at_call 138;refine (isNum_any _ _).mono ?_;rintro e w' ⟨rfl,rfl⟩)|(go_at_call 27;refine (isBelow_any _ _ _).mono ?_;rintro e w' ⟨rfl,rfl⟩))
  go_ret
  exact ⟨by rw [t0,t1] <;> rfl,by go_grown⟩
theorem qro (r n places procs:Int) (w:World):
  Calls Tryz.prog 137 #[.iface 189 (qs3 r n),.int .i64 places,.int .i64 procs] w fun e w'=>e=.returned (.bool (belB r 4 && ((n == 9) || belB n procs)))/\Bw w w':=by
 rcases zK (belB r 4) with t0 | t0 <;> rcases zK ((n == 9)) with t1 | t1 <;> rcases zK (belB n procs) with t2 | t2
 all_goals
  go_enter Tryz.func137,Tryz.ntmps137
  go_wp2_with (first|(go_at_call 147;refine (qcn _ _).mono ?_;rintro e w' ⟨rfl,rfl⟩)|(go_at_call 138;refine (isNum_any _ _).mono ?_;rintro e w' ⟨rfl,rfl⟩)|(go_at_call 27;refine (isBelow_any _ _ _).mono ?_;rintro e w' ⟨rfl,rfl⟩))
  go_ret
  exact ⟨by rw [t0,t1,t2] <;> rfl,by go_grown⟩
theorem qqb (a places procs:Int) (w:World):
  Calls Tryz.prog 137 #[.iface 191 (qme a),.int .i64 places,.int .i64 procs] w fun e w'=>e=.returned (.bool (belB a 4))/\Bw w w':=by
 go_enter Tryz.func137,Tryz.ntmps137
 go_wp2_with (first|(go_at_call 147;refine (qcn _ _).mono ?_;rintro e w' ⟨rfl,rfl⟩)|(go_at_call 138;refine (isNum_any _ _).mono ?_;rintro e w' ⟨rfl,rfl⟩)|(go_at_call 27;refine (isBelow_any _ _ _).mono ?_;rintro e w' ⟨rfl,rfl⟩))
 go_ret
 exact ⟨rfl,by go_grown⟩
theorem qrl (n places procs:Int) (w:World):
  Calls Tryz.prog 137 #[.iface 193 (qr0 n),.int .i64 places,.int .i64 procs] w fun e w'=>e=.returned (.bool (belB n places))/\Bw w w':=by
 go_enter Tryz.func137,Tryz.ntmps137
 go_wp2_with (first|(go_at_call 147;refine (qcn _ _).mono ?_;rintro e w' ⟨rfl,rfl⟩)|(go_at_call 138;refine (isNum_any _ _).mono ?_;rintro e w' ⟨rfl,rfl⟩)|(go_at_call 27;refine (isBelow_any _ _ _).mono ?_;rintro e w' ⟨rfl,rfl⟩))
 go_ret
 exact ⟨rfl,by go_grown⟩
theorem qrp (a n places procs:Int) (w:World):
  Calls Tryz.prog 137 #[.iface 195 (qtg a n),.int .i64 places,.int .i64 procs] w fun e w'=>e=.returned (.bool (belB a 4 && belB n places))/\Bw w w':=by
 rcases zK (belB a 4) with t0 | t0 <;> rcases zK (belB n places) with t1 | t1
 all_goals
  go_enter Tryz.func137,Tryz.ntmps137
  go_wp2_with (first|(go_at_call 147;refine (qcn _ _).mono ?_;rintro e w' ⟨rfl,rfl⟩)|(go_at_call 138;refine (isNum_any _ _).mono ?_;rintro e w' ⟨rfl,rfl⟩)|(go_at_call 27;refine (isBelow_any _ _ _).mono ?_;rintro e w' ⟨rfl,rfl⟩))
  go_ret
  exact ⟨by rw [t0,t1] <;> rfl,by go_grown⟩
theorem qtw (places procs:Int) (w:World):
  Calls Tryz.prog 137 #[.iface 197 endV,.int .i64 places,.int .i64 procs] w fun e w'=>e=.returned (.bool (true))/\Bw w w':=by
 go_enter Tryz.func137,Tryz.ntmps137
 go_wp2_with (first|(go_at_call 147;refine (qcn _ _).mono ?_;rintro e w' ⟨rfl,rfl⟩)|(go_at_call 138;refine (isNum_any _ _).mono ?_;rintro e w' ⟨rfl,rfl⟩)|(go_at_call 27;refine (isBelow_any _ _ _).mono ?_;rintro e w' ⟨rfl,rfl⟩))
 go_ret
 exact ⟨rfl,by go_grown⟩
def qa6 (o1 r1 a1 b1 n1 o2 r2 a2 b2 n2:Int):Bool:=o1 == o2 && (r1 == r2 && (a1 == a2 && (b1 == b2 && n1 == n2)))
theorem qb5 (o1 r1 a1 b1 n1 o2 r2 a2 b2 n2:Int) (w:World):(binOp .eql 87 (insV o1 r1 a1 b1 n1) (insV o2 r2 a2 b2 n2)).run Tryz.prog w=.ok (.bool (qa6 o1 r1 a1 b1 n1 o2 r2 a2 b2 n2)) w:=by
 rw [run_eql_struct,show (10000:Nat)=9998+1+1 from rfl,run_equalIn_agg w (9998+1) 87 _ _ (by kernel_rfl) (by kernel_rfl)]
 simp only [qa6]
 by_cases h1:o1=o2 <;> by_cases h2:r1=r2 <;> by_cases h3:a1=a2 <;> by_cases h4:b1=b2 <;> by_cases h5:n1=n2 <;> simp [go_sem,h1,h2,h3,h4,h5]
theorem qil {w w1:World} {o:Obj} (h1:Below (w.alloc o).heap.size (w.alloc o) w1):Bw w w1.drew:=by
 have h0:Bw w (w.alloc o):=(Below.refl _ _).alloc (Nat.le_refl _) _
 have hs:w.heap.size<=(w.alloc o).heap.size:=by simp
 exact (h0.trans (h1.mono hs)).drew
theorem qbb {w w1 w2:World} {o:Obj} (h1:Below (w.alloc o).heap.size (w.alloc o) w1) (h2:Below w1.drew.heap.size w1.drew w2):Bw w w2:=by
 have h0:Bw w (w.alloc o):=(Below.refl _ _).alloc (Nat.le_refl _) _
 have hs:w.heap.size<=(w.alloc o).heap.size:=by simp
 exact (h0.trans (h1.mono hs)).drew.trans (h2.mono (zP hs h1.size))
theorem qbh {w w1 w2 w3:World} {o:Obj} (h1:Below (w.alloc o).heap.size (w.alloc o) w1) (h2:Below w1.drew.heap.size w1.drew w2) (h3:Bw w2 w3):Bw w w3:=
 qbb h1 (h2.trans (h3.mono h2.size))
