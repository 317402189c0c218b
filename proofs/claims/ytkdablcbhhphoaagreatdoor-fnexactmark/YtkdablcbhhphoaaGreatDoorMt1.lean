import Derived.Test.YtkdablcbhhphoaaGreatDoorMt0
import Derived.WalkSpells
import Derived.WalkLawsBesides
import Derived.Handy
import Derived.Deep.Onto
import Derived.Deep.Slices
import Derived.Deep.RegionWith
import Derived.BigQuiet
namespace Go.Proofs.YtkdablcbhhphoaaGreatDoor
open Go.Proofs.Tryz
set_option maxRecDepth 100000
set_option maxHeartbeats 1000000
open Go.RowKit
def inB (x lo hi:Int):Bool:=decide (lo<=x/\x<=hi)
def belB (x n:Int):Bool:=decide (0<=x/\x<n)
theorem l1In_any (x lo hi:Int) (w:World):
  Calls prog 20 #[.int .i64 x,.int .i64 lo,.int .i64 hi] w fun e w'=>e=.returned (.bool (inB x lo hi))/\w'=w:=by
 by_cases h1:lo<=x
 ·by_cases h2:x<=hi
  ·go_enter func20,ntmps20
   go_wp2;go_ret;exact ⟨by simp [inB,h1,h2],rfl⟩
  ·go_enter func20,ntmps20
   go_wp2;go_ret;exact ⟨by simp [inB,h1,h2],rfl⟩
 ·go_enter func20,ntmps20
  go_wp2;go_ret;exact ⟨by simp [inB];omega,rfl⟩
theorem isBelow_any (x n:Int) (w:World):
  Calls prog 27 #[.int .i64 x,.int .i64 n] w fun e w'=>e=.returned (.bool (belB x n))/\w'=w:=by
 by_cases h1:0<=x
 ·by_cases h2:x<n
  ·go_enter func27,ntmps27
   go_wp2;go_ret;exact ⟨by simp [belB,h1,h2],rfl⟩
  ·go_enter func27,ntmps27
   go_wp2;go_ret;exact ⟨by simp [belB,h1,h2],rfl⟩
 ·go_enter func27,ntmps27
  go_wp2;go_ret;exact ⟨by simp [belB];omega,rfl⟩
theorem qcq (x:Int) (w:World):
  Calls prog 248 #[.int .i64 x] w fun e w'=>e=.returned (.bool (belB x 4))/\w'=w:=by
 go_enter func248,ntmps248
 go_wp2_with (go_at_call 27;refine (isBelow_any _ _ _).mono ?_;rintro e w' ⟨rfl,rfl⟩)
 go_ret;exact ⟨rfl,rfl⟩
theorem isNum_any (x:Int) (w:World):
  Calls prog 211 #[.int .i64 x] w fun e w'=>e=.returned (.bool (inB x (-1000000000) 1000000000))/\w'=w:=by
 by_cases h1:-1000000000<=x
 ·by_cases h2:x<=1000000000
  ·go_enter func211,ntmps211
   go_wp2;go_ret;exact ⟨by simp [inB,h1,h2],rfl⟩
  ·go_enter func211,ntmps211
   go_wp2;go_ret;exact ⟨by simp [inB,h1,h2],rfl⟩
 ·go_enter func211,ntmps211
  go_wp2;go_ret;exact ⟨by simp [inB];omega,rfl⟩
theorem l1Num_any (x:Int) (w:World):
  Calls prog 158 #[.int .i64 x] w fun e w'=>e=.returned (.bool (inB x (-1000000000) 1000000000))/\w'=w:=by
 go_enter func158,ntmps158
 go_wp2_with (go_at_call 20;refine (l1In_any _ _ _ _).mono ?_;rintro e w' ⟨rfl,rfl⟩)
 go_ret;exact ⟨rfl,rfl⟩
abbrev insV (op r a b n:Int):Value:=.agg #[.int .i64 op,.int .i64 r,.int .i64 a,.int .i64 b,.int .i64 n]
theorem qv3 (op r a b n:Int) (w:World):
  Calls prog 177 #[insV op r a b n] w (rB w (insV op r a b n)):=by
 go_enter func177,ntmps177
 go_wp2;refine bodyPost_ret (v:=insV op r a b n) (by simp [results,results177,go_sem]) rfl ⟨rfl,?_⟩
 go_grown
abbrev setV (r n:Int):Value:=.agg #[.int .i64 r,.int .i64 n]
theorem qfa (r a b n:Int) (w:World):
  Calls prog 165 #[insV 1 r a b n] w (rB w (.iface 257 (setV r n))):=by
 go_enter func165,ntmps165
 go_wp2;go_ret;exact ⟨rfl,by go_grown⟩
theorem qu3 (r n:Int) (w:World):
  Calls prog 276 #[setV r n] w (rB w (insV 1 r 0 0 n)):=by
 go_enter func276,ntmps276
 go_wp2;refine bodyPost_ret (v:=insV 1 r 0 0 n) (by simp [results,results276,go_sem]) rfl ⟨rfl,?_⟩
 go_grown
abbrev qkl (op r a b:Int):Value:=.agg #[.int .i64 op,.int .i64 r,.int .i64 a,.int .i64 b]
theorem qfv (r a b n:Int) (w:World):
  Calls prog 165 #[insV 2 r a b n] w (rB w (.iface 259 (qkl 2 r a b))):=by
 go_enter func165,ntmps165
 go_wp2;go_ret;exact ⟨rfl,by go_grown⟩
theorem qfw (r a b n:Int) (w:World):
  Calls prog 165 #[insV 3 r a b n] w (rB w (.iface 259 (qkl 3 r a b))):=by
 go_enter func165,ntmps165
 go_wp2;go_ret;exact ⟨rfl,by go_grown⟩
theorem qfx (r a b n:Int) (w:World):
  Calls prog 165 #[insV 4 r a b n] w (rB w (.iface 259 (qkl 4 r a b))):=by
 go_enter func165,ntmps165
 go_wp2;go_ret;exact ⟨rfl,by go_grown⟩
theorem qfy (r a b n:Int) (w:World):
  Calls prog 165 #[insV 5 r a b n] w (rB w (.iface 259 (qkl 5 r a b))):=by
 go_enter func165,ntmps165
 go_wp2;go_ret;exact ⟨rfl,by go_grown⟩
theorem qrt (op r a b:Int) (w:World):
  Calls prog 277 #[qkl op r a b] w (rB w (insV op r a b 0)):=by
 go_enter func277,ntmps277
 go_wp2;refine bodyPost_ret (v:=insV op r a b 0) (by simp [results,results277,go_sem]) rfl ⟨rfl,?_⟩
 go_grown
abbrev qvr (n a:Int):Value:=.agg #[.int .i64 n,.int .i64 a]
theorem qd4 (r a b n:Int) (w:World):
  Calls prog 165 #[insV 6 r a b n] w (rB w (.iface 251 (qvr n a))):=by
 go_enter func165,ntmps165
 go_wp2;go_ret;exact ⟨rfl,by go_grown⟩
theorem qrv (n a:Int) (w:World):
  Calls prog 273 #[qvr n a] w (rB w (insV 6 0 a 0 n)):=by
 go_enter func273,ntmps273
 go_wp2;refine bodyPost_ret (v:=insV 6 0 a 0 n) (by simp [results,results273,go_sem]) rfl ⟨rfl,?_⟩
 go_grown
abbrev qv0 (r n:Int):Value:=.agg #[.int .i64 r,.int .i64 n]
theorem qd5 (r a b n:Int) (w:World):
  Calls prog 165 #[insV 7 r a b n] w (rB w (.iface 253 (qv0 r n))):=by
 go_enter func165,ntmps165
 go_wp2;go_ret;exact ⟨rfl,by go_grown⟩
theorem qrw (r n:Int) (w:World):
  Calls prog 274 #[qv0 r n] w (rB w (insV 7 r 0 0 n)):=by
 go_enter func274,ntmps274
 go_wp2;refine bodyPost_ret (v:=insV 7 r 0 0 n) (by simp [results,results274,go_sem]) rfl ⟨rfl,?_⟩
 go_grown
abbrev qod (a:Int):Value:=.agg #[.int .i64 a]
theorem qdr (r a b n:Int) (w:World):
  Calls prog 165 #[insV 8 r a b n] w (rB w (.iface 255 (qod a))):=by
 go_enter func165,ntmps165
 go_wp2;go_ret;exact ⟨rfl,by go_grown⟩
theorem qno (a:Int) (w:World):
  Calls prog 275 #[qod a] w (rB w (insV 8 0 a 0 0)):=by
 go_enter func275,ntmps275
 go_wp2;refine bodyPost_ret (v:=insV 8 0 a 0 0) (by simp [results,results275,go_sem]) rfl ⟨rfl,?_⟩
 go_grown
abbrev qu5 (n:Int):Value:=.agg #[.int .i64 n]
theorem qd3 (r a b n:Int) (w:World):
  Calls prog 165 #[insV 9 r a b n] w (rB w (.iface 261 (qu5 n))):=by
 go_enter func165,ntmps165
 go_wp2;go_ret;exact ⟨rfl,by go_grown⟩
theorem qru (n:Int) (w:World):
  Calls prog 278 #[qu5 n] w (rB w (insV 9 0 0 0 n)):=by
 go_enter func278,ntmps278
 go_wp2;refine bodyPost_ret (v:=insV 9 0 0 0 n) (by simp [results,results278,go_sem]) rfl ⟨rfl,?_⟩
 go_grown
abbrev qwa (a n:Int):Value:=.agg #[.int .i64 a,.int .i64 n]
theorem qd6 (r a b n:Int) (w:World):
  Calls prog 165 #[insV 10 r a b n] w (rB w (.iface 263 (qwa a n))):=by
 go_enter func165,ntmps165
 go_wp2;go_ret;exact ⟨rfl,by go_grown⟩
theorem qrx (a n:Int) (w:World):
  Calls prog 279 #[qwa a n] w (rB w (insV 10 0 a 0 n)):=by
 go_enter func279,ntmps279
 go_wp2;refine bodyPost_ret (v:=insV 10 0 a 0 n) (by simp [results,results279,go_sem]) rfl ⟨rfl,?_⟩
 go_grown
abbrev endV:Value:=.agg #[]
theorem qe9 (r a b n:Int) (w:World):
  Calls prog 165 #[insV 11 r a b n] w (rB w (.iface 264 endV)):=by
 go_enter func165,ntmps165
 go_wp2;go_ret;exact ⟨rfl,by go_grown⟩
theorem qu2 (w:World):
  Calls prog 280 #[endV] w (rB w (insV 11 0 0 0 0)):=by
 go_enter func280,ntmps280
 go_wp2;refine bodyPost_ret (v:=insV 11 0 0 0 0) (by simp [results,results280,go_sem]) rfl ⟨rfl,?_⟩
 go_grown
theorem qhd (op r a b n:Int) (w:World) (h1:2<=op) (h2:op<=5):
  Calls prog 165 #[insV op r a b n] w (rB w (.iface 259 (qkl op r a b))):=by
 have h:op=2\/op=3\/op=4\/op=5:=by omega
 rcases h with rfl | rfl | rfl | rfl
 ·exact qfv r a b n w
 ·exact qfw r a b n w
 ·exact qfx r a b n w
 ·exact qfy r a b n w
theorem qob (op r a b n:Int) (w:World) (h:op<1\/11<op):
  Calls prog 165 #[insV op r a b n] w fun e w'=>e=.returned .nilIface/\Below w.heap.size w w':=by
 have h1:(op == 1)=false:=by simp;omega
 have h2:(op == 2)=false:=by simp;omega
 have h3:(op == 3)=false:=by simp;omega
 have h4:(op == 4)=false:=by simp;omega
 have h5:(op == 5)=false:=by simp;omega
 have h6:(op == 6)=false:=by simp;omega
 have h7:(op == 7)=false:=by simp;omega
 have h8:(op == 8)=false:=by simp;omega
 have h9:(op == 9)=false:=by simp;omega
 have h10:(op == 10)=false:=by simp;omega
 have h11:(op == 11)=false:=by simp;omega
 clear h
 go_enter func165,ntmps165
 go_wp2;go_ret;exact ⟨rfl,by go_grown⟩
theorem qsi (v:Value) (w:World):(Instr.typeAssert (.iface 257 v) 208 257 true).run prog w=.ok (.tuple #[v,.bool true]) w:=by kernel_rfl
theorem qpd (v:Value) (w:World):(Instr.typeAssert (.iface 257 v) 208 259 true).run prog w=.ok (.tuple #[.agg #[.int .i64 0,.int .i64 0,.int .i64 0,.int .i64 0],.bool false]) w:=by kernel_rfl
theorem qic (v:Value) (w:World):(Instr.typeAssert (.iface 257 v) 208 251 true).run prog w=.ok (.tuple #[.agg #[.int .i64 0,.int .i64 0],.bool false]) w:=by kernel_rfl
theorem qid (v:Value) (w:World):(Instr.typeAssert (.iface 257 v) 208 253 true).run prog w=.ok (.tuple #[.agg #[.int .i64 0,.int .i64 0],.bool false]) w:=by kernel_rfl
theorem qg2 (v:Value) (w:World):(Instr.typeAssert (.iface 257 v) 208 255 true).run prog w=.ok (.tuple #[.agg #[.int .i64 0],.bool false]) w:=by kernel_rfl
theorem qpe (v:Value) (w:World):(Instr.typeAssert (.iface 257 v) 208 261 true).run prog w=.ok (.tuple #[.agg #[.int .i64 0],.bool false]) w:=by kernel_rfl
theorem qpf (v:Value) (w:World):(Instr.typeAssert (.iface 257 v) 208 263 true).run prog w=.ok (.tuple #[.agg #[.int .i64 0,.int .i64 0],.bool false]) w:=by kernel_rfl
theorem qsh (v:Value) (w:World):(Instr.typeAssert (.iface 257 v) 208 264 true).run prog w=.ok (.tuple #[.agg #[],.bool false]) w:=by kernel_rfl
theorem qo5 (v:Value) (w:World):(Instr.typeAssert (.iface 259 v) 208 257 true).run prog w=.ok (.tuple #[.agg #[.int .i64 0,.int .i64 0],.bool false]) w:=by kernel_rfl
theorem qmh (v:Value) (w:World):(Instr.typeAssert (.iface 259 v) 208 259 true).run prog w=.ok (.tuple #[v,.bool true]) w:=by kernel_rfl
theorem qgw (v:Value) (w:World):(Instr.typeAssert (.iface 259 v) 208 251 true).run prog w=.ok (.tuple #[.agg #[.int .i64 0,.int .i64 0],.bool false]) w:=by kernel_rfl
theorem qgx (v:Value) (w:World):(Instr.typeAssert (.iface 259 v) 208 253 true).run prog w=.ok (.tuple #[.agg #[.int .i64 0,.int .i64 0],.bool false]) w:=by kernel_rfl
theorem qfe (v:Value) (w:World):(Instr.typeAssert (.iface 259 v) 208 255 true).run prog w=.ok (.tuple #[.agg #[.int .i64 0],.bool false]) w:=by kernel_rfl
theorem qmi (v:Value) (w:World):(Instr.typeAssert (.iface 259 v) 208 261 true).run prog w=.ok (.tuple #[.agg #[.int .i64 0],.bool false]) w:=by kernel_rfl
theorem qmj (v:Value) (w:World):(Instr.typeAssert (.iface 259 v) 208 263 true).run prog w=.ok (.tuple #[.agg #[.int .i64 0,.int .i64 0],.bool false]) w:=by kernel_rfl
theorem qo4 (v:Value) (w:World):(Instr.typeAssert (.iface 259 v) 208 264 true).run prog w=.ok (.tuple #[.agg #[],.bool false]) w:=by kernel_rfl
theorem qpc (v:Value) (w:World):(Instr.typeAssert (.iface 251 v) 208 257 true).run prog w=.ok (.tuple #[.agg #[.int .i64 0,.int .i64 0],.bool false]) w:=by kernel_rfl
theorem qmp (v:Value) (w:World):(Instr.typeAssert (.iface 251 v) 208 259 true).run prog w=.ok (.tuple #[.agg #[.int .i64 0,.int .i64 0,.int .i64 0,.int .i64 0],.bool false]) w:=by kernel_rfl
theorem qg1 (v:Value) (w:World):(Instr.typeAssert (.iface 251 v) 208 251 true).run prog w=.ok (.tuple #[v,.bool true]) w:=by kernel_rfl
theorem qmr (v:Value) (w:World):(Instr.typeAssert (.iface 251 v) 208 253 true).run prog w=.ok (.tuple #[.agg #[.int .i64 0,.int .i64 0],.bool false]) w:=by kernel_rfl
theorem qki (v:Value) (w:World):(Instr.typeAssert (.iface 251 v) 208 255 true).run prog w=.ok (.tuple #[.agg #[.int .i64 0],.bool false]) w:=by kernel_rfl
theorem qmq (v:Value) (w:World):(Instr.typeAssert (.iface 251 v) 208 261 true).run prog w=.ok (.tuple #[.agg #[.int .i64 0],.bool false]) w:=by kernel_rfl
theorem qms (v:Value) (w:World):(Instr.typeAssert (.iface 251 v) 208 263 true).run prog w=.ok (.tuple #[.agg #[.int .i64 0,.int .i64 0],.bool false]) w:=by kernel_rfl
theorem qpb (v:Value) (w:World):(Instr.typeAssert (.iface 251 v) 208 264 true).run prog w=.ok (.tuple #[.agg #[],.bool false]) w:=by kernel_rfl
theorem qph (v:Value) (w:World):(Instr.typeAssert (.iface 253 v) 208 257 true).run prog w=.ok (.tuple #[.agg #[.int .i64 0,.int .i64 0],.bool false]) w:=by kernel_rfl
theorem qmt (v:Value) (w:World):(Instr.typeAssert (.iface 253 v) 208 259 true).run prog w=.ok (.tuple #[.agg #[.int .i64 0,.int .i64 0,.int .i64 0,.int .i64 0],.bool false]) w:=by kernel_rfl
theorem qg3 (v:Value) (w:World):(Instr.typeAssert (.iface 253 v) 208 251 true).run prog w=.ok (.tuple #[.agg #[.int .i64 0,.int .i64 0],.bool false]) w:=by kernel_rfl
theorem qg4 (v:Value) (w:World):(Instr.typeAssert (.iface 253 v) 208 253 true).run prog w=.ok (.tuple #[v,.bool true]) w:=by kernel_rfl
theorem qkj (v:Value) (w:World):(Instr.typeAssert (.iface 253 v) 208 255 true).run prog w=.ok (.tuple #[.agg #[.int .i64 0],.bool false]) w:=by kernel_rfl
theorem qmu (v:Value) (w:World):(Instr.typeAssert (.iface 253 v) 208 261 true).run prog w=.ok (.tuple #[.agg #[.int .i64 0],.bool false]) w:=by kernel_rfl
theorem qmv (v:Value) (w:World):(Instr.typeAssert (.iface 253 v) 208 263 true).run prog w=.ok (.tuple #[.agg #[.int .i64 0,.int .i64 0],.bool false]) w:=by kernel_rfl
theorem qpg (v:Value) (w:World):(Instr.typeAssert (.iface 253 v) 208 264 true).run prog w=.ok (.tuple #[.agg #[],.bool false]) w:=by kernel_rfl
theorem qmo (v:Value) (w:World):(Instr.typeAssert (.iface 255 v) 208 257 true).run prog w=.ok (.tuple #[.agg #[.int .i64 0,.int .i64 0],.bool false]) w:=by kernel_rfl
theorem qkf (v:Value) (w:World):(Instr.typeAssert (.iface 255 v) 208 259 true).run prog w=.ok (.tuple #[.agg #[.int .i64 0,.int .i64 0,.int .i64 0,.int .i64 0],.bool false]) w:=by kernel_rfl
theorem qfg (v:Value) (w:World):(Instr.typeAssert (.iface 255 v) 208 251 true).run prog w=.ok (.tuple #[.agg #[.int .i64 0,.int .i64 0],.bool false]) w:=by kernel_rfl
theorem qfh (v:Value) (w:World):(Instr.typeAssert (.iface 255 v) 208 253 true).run prog w=.ok (.tuple #[.agg #[.int .i64 0,.int .i64 0],.bool false]) w:=by kernel_rfl
theorem qer (v:Value) (w:World):(Instr.typeAssert (.iface 255 v) 208 255 true).run prog w=.ok (.tuple #[v,.bool true]) w:=by kernel_rfl
theorem qkg (v:Value) (w:World):(Instr.typeAssert (.iface 255 v) 208 261 true).run prog w=.ok (.tuple #[.agg #[.int .i64 0],.bool false]) w:=by kernel_rfl
theorem qkh (v:Value) (w:World):(Instr.typeAssert (.iface 255 v) 208 263 true).run prog w=.ok (.tuple #[.agg #[.int .i64 0,.int .i64 0],.bool false]) w:=by kernel_rfl
theorem qmn (v:Value) (w:World):(Instr.typeAssert (.iface 255 v) 208 264 true).run prog w=.ok (.tuple #[.agg #[],.bool false]) w:=by kernel_rfl
theorem qpa (v:Value) (w:World):(Instr.typeAssert (.iface 261 v) 208 257 true).run prog w=.ok (.tuple #[.agg #[.int .i64 0,.int .i64 0],.bool false]) w:=by kernel_rfl
theorem qmk (v:Value) (w:World):(Instr.typeAssert (.iface 261 v) 208 259 true).run prog w=.ok (.tuple #[.agg #[.int .i64 0,.int .i64 0,.int .i64 0,.int .i64 0],.bool false]) w:=by kernel_rfl
theorem qgz (v:Value) (w:World):(Instr.typeAssert (.iface 261 v) 208 251 true).run prog w=.ok (.tuple #[.agg #[.int .i64 0,.int .i64 0],.bool false]) w:=by kernel_rfl
theorem qg0 (v:Value) (w:World):(Instr.typeAssert (.iface 261 v) 208 253 true).run prog w=.ok (.tuple #[.agg #[.int .i64 0,.int .i64 0],.bool false]) w:=by kernel_rfl
theorem qff (v:Value) (w:World):(Instr.typeAssert (.iface 261 v) 208 255 true).run prog w=.ok (.tuple #[.agg #[.int .i64 0],.bool false]) w:=by kernel_rfl
theorem qml (v:Value) (w:World):(Instr.typeAssert (.iface 261 v) 208 261 true).run prog w=.ok (.tuple #[v,.bool true]) w:=by kernel_rfl
theorem qmm (v:Value) (w:World):(Instr.typeAssert (.iface 261 v) 208 263 true).run prog w=.ok (.tuple #[.agg #[.int .i64 0,.int .i64 0],.bool false]) w:=by kernel_rfl
theorem qo9 (v:Value) (w:World):(Instr.typeAssert (.iface 261 v) 208 264 true).run prog w=.ok (.tuple #[.agg #[],.bool false]) w:=by kernel_rfl
theorem qpj (v:Value) (w:World):(Instr.typeAssert (.iface 263 v) 208 257 true).run prog w=.ok (.tuple #[.agg #[.int .i64 0,.int .i64 0],.bool false]) w:=by kernel_rfl
theorem qmw (v:Value) (w:World):(Instr.typeAssert (.iface 263 v) 208 259 true).run prog w=.ok (.tuple #[.agg #[.int .i64 0,.int .i64 0,.int .i64 0,.int .i64 0],.bool false]) w:=by kernel_rfl
theorem qg5 (v:Value) (w:World):(Instr.typeAssert (.iface 263 v) 208 251 true).run prog w=.ok (.tuple #[.agg #[.int .i64 0,.int .i64 0],.bool false]) w:=by kernel_rfl
theorem qg6 (v:Value) (w:World):(Instr.typeAssert (.iface 263 v) 208 253 true).run prog w=.ok (.tuple #[.agg #[.int .i64 0,.int .i64 0],.bool false]) w:=by kernel_rfl
theorem qfi (v:Value) (w:World):(Instr.typeAssert (.iface 263 v) 208 255 true).run prog w=.ok (.tuple #[.agg #[.int .i64 0],.bool false]) w:=by kernel_rfl
theorem qmx (v:Value) (w:World):(Instr.typeAssert (.iface 263 v) 208 261 true).run prog w=.ok (.tuple #[.agg #[.int .i64 0],.bool false]) w:=by kernel_rfl
theorem qmy (v:Value) (w:World):(Instr.typeAssert (.iface 263 v) 208 263 true).run prog w=.ok (.tuple #[v,.bool true]) w:=by kernel_rfl
theorem qpi (v:Value) (w:World):(Instr.typeAssert (.iface 263 v) 208 264 true).run prog w=.ok (.tuple #[.agg #[],.bool false]) w:=by kernel_rfl
theorem qsg (v:Value) (w:World):(Instr.typeAssert (.iface 264 v) 208 257 true).run prog w=.ok (.tuple #[.agg #[.int .i64 0,.int .i64 0],.bool false]) w:=by kernel_rfl
theorem qo6 (v:Value) (w:World):(Instr.typeAssert (.iface 264 v) 208 259 true).run prog w=.ok (.tuple #[.agg #[.int .i64 0,.int .i64 0,.int .i64 0,.int .i64 0],.bool false]) w:=by kernel_rfl
theorem qia (v:Value) (w:World):(Instr.typeAssert (.iface 264 v) 208 251 true).run prog w=.ok (.tuple #[.agg #[.int .i64 0,.int .i64 0],.bool false]) w:=by kernel_rfl
theorem qib (v:Value) (w:World):(Instr.typeAssert (.iface 264 v) 208 253 true).run prog w=.ok (.tuple #[.agg #[.int .i64 0,.int .i64 0],.bool false]) w:=by kernel_rfl
theorem qgy (v:Value) (w:World):(Instr.typeAssert (.iface 264 v) 208 255 true).run prog w=.ok (.tuple #[.agg #[.int .i64 0],.bool false]) w:=by kernel_rfl
theorem qo7 (v:Value) (w:World):(Instr.typeAssert (.iface 264 v) 208 261 true).run prog w=.ok (.tuple #[.agg #[.int .i64 0],.bool false]) w:=by kernel_rfl
theorem qo8 (v:Value) (w:World):(Instr.typeAssert (.iface 264 v) 208 263 true).run prog w=.ok (.tuple #[.agg #[.int .i64 0,.int .i64 0],.bool false]) w:=by kernel_rfl
theorem qsf (v:Value) (w:World):(Instr.typeAssert (.iface 264 v) 208 264 true).run prog w=.ok (.tuple #[v,.bool true]) w:=by kernel_rfl
attribute [local go_sem] qsi qpd qic qid qg2 qpe qpf qsh qo5 qmh qgw qgx qfe qmi qmj qo4 qpc qmp qg1 qmr qki qmq qms qpb qph qmt qg3 qg4 qkj qmu qmv qpg qmo qkf qfg qfh qer qkg qkh qmn qpa qmk qgz qg0 qff qml qmm qo9 qpj qmw qg5 qg6 qfi qmx qmy qpi qsg qo6 qia qib qgy qo7 qo8 qsf
theorem qwn (r n places procs:Int) (w:World):
  Calls prog 240 #[.iface 257 (setV r n),.int .i64 places,.int .i64 procs] w (rB w (.bool (belB r 4 && inB n (-1000000000) 1000000000))):=by
 rcases zK (belB r 4) with t0 | t0 <;> rcases zK (inB n (-1000000000) 1000000000) with t1 | t1
 all_goals
  go_enter func240,ntmps240
  go_wp2_with (first|(go_at_call 248;refine (qcq _ _).mono ?_;rintro e w' ⟨rfl,rfl⟩)|(go_at_call 211;refine (isNum_any _ _).mono ?_;rintro e w' ⟨rfl,rfl⟩)|(go_at_call 27;refine (isBelow_any _ _ _).mono ?_;rintro e w' ⟨rfl,rfl⟩))
  go_ret;exact ⟨by rw [t0,t1] <;> rfl,by go_grown⟩
theorem qur (op r a b places procs:Int) (w:World):
  Calls prog 240 #[.iface 259 (qkl op r a b),.int .i64 places,.int .i64 procs] w (rB w (.bool (belB r 4 && belB a 4 && belB b 4))):=by
 rcases zK (belB r 4) with t0 | t0 <;> rcases zK (belB a 4) with t1 | t1 <;> rcases zK (belB b 4) with t2 | t2
 all_goals
  go_enter func240,ntmps240
  go_wp2_with (first|(go_at_call 248;refine (qcq _ _).mono ?_;rintro e w' ⟨rfl,rfl⟩)|(go_at_call 211;refine (isNum_any _ _).mono ?_;rintro e w' ⟨rfl,rfl⟩)|(go_at_call 27;refine (isBelow_any _ _ _).mono ?_;rintro e w' ⟨rfl,rfl⟩))
  go_ret;exact ⟨by rw [t0,t1,t2] <;> rfl,by go_grown⟩
theorem qut (n a places procs:Int) (w:World):
  Calls prog 240 #[.iface 251 (qvr n a),.int .i64 places,.int .i64 procs] w (rB w (.bool (belB a 4 && belB n procs))):=by
 rcases zK (belB a 4) with t0 | t0 <;> rcases zK (belB n procs) with t1 | t1
 all_goals
  go_enter func240,ntmps240
  go_wp2_with (first|(go_at_call 248;refine (qcq _ _).mono ?_;rintro e w' ⟨rfl,rfl⟩)|(go_at_call 211;refine (isNum_any _ _).mono ?_;rintro e w' ⟨rfl,rfl⟩)|(go_at_call 27;refine (isBelow_any _ _ _).mono ?_;rintro e w' ⟨rfl,rfl⟩))
  go_ret;exact ⟨by rw [t0,t1] <;> rfl,by go_grown⟩
theorem quu (r n places procs:Int) (w:World):
  Calls prog 240 #[.iface 253 (qv0 r n),.int .i64 places,.int .i64 procs] w (rB w (.bool (belB r 4 && ((n == 9) || belB n procs)))):=by
 rcases zK (belB r 4) with t0 | t0 <;> rcases zK ((n == 9)) with t1 | t1 <;> rcases zK (belB n procs) with t2 | t2
 all_goals
  go_enter func240,ntmps240
  go_wp2_with (first|(go_at_call 248;refine (qcq _ _).mono ?_;rintro e w' ⟨rfl,rfl⟩)|(go_at_call 211;refine (isNum_any _ _).mono ?_;rintro e w' ⟨rfl,rfl⟩)|(go_at_call 27;refine (isBelow_any _ _ _).mono ?_;rintro e w' ⟨rfl,rfl⟩))
  go_ret;exact ⟨by rw [t0,t1,t2] <;> rfl,by go_grown⟩
theorem qs2 (a places procs:Int) (w:World):
  Calls prog 240 #[.iface 255 (qod a),.int .i64 places,.int .i64 procs] w (rB w (.bool (belB a 4))):=by
 go_enter func240,ntmps240
 go_wp2_with (first|(go_at_call 248;refine (qcq _ _).mono ?_;rintro e w' ⟨rfl,rfl⟩)|(go_at_call 211;refine (isNum_any _ _).mono ?_;rintro e w' ⟨rfl,rfl⟩)|(go_at_call 27;refine (isBelow_any _ _ _).mono ?_;rintro e w' ⟨rfl,rfl⟩))
 go_ret;exact ⟨rfl,by go_grown⟩
theorem qus (n places procs:Int) (w:World):
  Calls prog 240 #[.iface 261 (qu5 n),.int .i64 places,.int .i64 procs] w (rB w (.bool (belB n places))):=by
 go_enter func240,ntmps240
 go_wp2_with (first|(go_at_call 248;refine (qcq _ _).mono ?_;rintro e w' ⟨rfl,rfl⟩)|(go_at_call 211;refine (isNum_any _ _).mono ?_;rintro e w' ⟨rfl,rfl⟩)|(go_at_call 27;refine (isBelow_any _ _ _).mono ?_;rintro e w' ⟨rfl,rfl⟩))
 go_ret;exact ⟨rfl,by go_grown⟩
theorem quv (a n places procs:Int) (w:World):
  Calls prog 240 #[.iface 263 (qwa a n),.int .i64 places,.int .i64 procs] w (rB w (.bool (belB a 4 && belB n places))):=by
 rcases zK (belB a 4) with t0 | t0 <;> rcases zK (belB n places) with t1 | t1
 all_goals
  go_enter func240,ntmps240
  go_wp2_with (first|(go_at_call 248;refine (qcq _ _).mono ?_;rintro e w' ⟨rfl,rfl⟩)|(go_at_call 211;refine (isNum_any _ _).mono ?_;rintro e w' ⟨rfl,rfl⟩)|(go_at_call 27;refine (isBelow_any _ _ _).mono ?_;rintro e w' ⟨rfl,rfl⟩))
  go_ret;exact ⟨by rw [t0,t1] <;> rfl,by go_grown⟩
theorem qwm (places procs:Int) (w:World):
  Calls prog 240 #[.iface 264 endV,.int .i64 places,.int .i64 procs] w (rB w (.bool (true))):=by
 go_enter func240,ntmps240
 go_wp2_with (first|(go_at_call 248;refine (qcq _ _).mono ?_;rintro e w' ⟨rfl,rfl⟩)|(go_at_call 211;refine (isNum_any _ _).mono ?_;rintro e w' ⟨rfl,rfl⟩)|(go_at_call 27;refine (isBelow_any _ _ _).mono ?_;rintro e w' ⟨rfl,rfl⟩))
 go_ret;exact ⟨rfl,by go_grown⟩
def qaz (o1 r1 a1 b1 n1 o2 r2 a2 b2 n2:Int):Bool:=o1 == o2 && (r1 == r2 && (a1 == a2 && (b1 == b2 && n1 == n2)))
theorem qb2 (o1 r1 a1 b1 n1 o2 r2 a2 b2 n2:Int) (w:World):(binOp .eql 184 (insV o1 r1 a1 b1 n1) (insV o2 r2 a2 b2 n2)).run prog w=.ok (.bool (qaz o1 r1 a1 b1 n1 o2 r2 a2 b2 n2)) w:=by
 rw [run_eql_struct,show (10000:Nat)=9998+1+1 from rfl,run_equalIn_agg w (9998+1) 184 _ _ (by kernel_rfl) (by kernel_rfl)];simp only [qaz];by_cases h1:o1=o2 <;> by_cases h2:r1=r2 <;> by_cases h3:a1=a2 <;> by_cases h4:b1=b2 <;> by_cases h5:n1=n2 <;> simp [go_sem,h1,h2,h3,h4,h5]
theorem qji {w w1:World} {o:Obj} (h1:Below (w.alloc o).heap.size (w.alloc o) w1):Below w.heap.size w w1.drew:=by
 have h0:Below w.heap.size w (w.alloc o):=(nE _ _).alloc (nA _) _;have hs:w.heap.size<=(w.alloc o).heap.size:=by simp
 exact (h0.trans (h1.mono hs)).drew
theorem qa3 {w w1 w2:World} {o:Obj} (h1:Below (w.alloc o).heap.size (w.alloc o) w1) (h2:Below w1.drew.heap.size w1.drew w2):Below w.heap.size w w2:=by
 have h0:Below w.heap.size w (w.alloc o):=(nE _ _).alloc (nA _) _;have hs:w.heap.size<=(w.alloc o).heap.size:=by simp
 exact (h0.trans (h1.mono hs)).drew.trans (h2.mono (zO hs h1.size))
theorem qa8 {w w1 w2 w3:World} {o:Obj} (h1:Below (w.alloc o).heap.size (w.alloc o) w1) (h2:Below w1.drew.heap.size w1.drew w2) (h3:Below w2.heap.size w2 w3):Below w.heap.size w w3:=
 qa3 h1 (h2.trans (h3.mono h2.size))
def zi (xs:List Int) (i:Nat):Int:=xs.getD i 0
def Sl (w:World) (a0:Option Addr) (xs:List Int):Prop:=
 xs=[]\/∃ b off,a0=some ⟨b,off,none⟩/\b<w.heap.size/\∀ i,i<xs.length->w.cell? ⟨b,off+i,none⟩=some (.int .i64 (zi xs i))
theorem Sl.bw {w w':World} {a0:Option Addr} {xs:List Int} (h:Sl w a0 xs) (hb:Below w.heap.size w w'):Sl w' a0 xs:=by
 rcases h with h | ⟨b,off,e,hlt,hc⟩
 ·exact .inl h
 ·exact .inr ⟨b,off,e,zL hlt hb.size,fun i hi=>(hb.cell (p:=⟨b,off+i,none⟩) hlt).trans (hc i hi)⟩
theorem Sl.at {w:World} {a0:Option Addr} {xs:List Int} (h:Sl w a0 xs) {k:Nat} (hk:k<xs.length):∃ b off,a0=some ⟨b,off,none⟩/\b<w.heap.size/\w.cell? ⟨b,off+k,none⟩=some (.int .i64 (zi xs k)):=by
 rcases h with rfl | ⟨b,off,e,hlt,hc⟩
 ·simp at hk
 ·exact ⟨b,off,e,hlt,hc k hk⟩
def OwnI (w:World) (B:Nat) (v:Value) (xs:List Int):Prop:=w.ownsRow B 3 1 v xs.length (xs.map (Value.int .i64))
theorem OwnI.mono {w:World} {B B':Nat} {v:Value} {xs:List Int} (h:OwnI w B v xs) (hb:B'<=B):OwnI w B' v xs:=World.ownsRow.mono h hb
theorem OwnI.kept {w w':World} {B:Nat} {v:Value} {xs:List Int} {row:Option Nat} (h:OwnI w B v xs) (hg:w.grownBy w' row) (hne:v.ownBlock=none\/v.ownBlock≠row):OwnI w' B v xs:=World.ownsRow.kept h hg hne
theorem OwnI.lt {w:World} {B:Nat} {v:Value} {xs:List Int} (h:OwnI w B v xs):∀ k,v.ownBlock=some k->B<=k/\k<w.heap.size:=World.ownsRow.lt h
theorem zY {w w':World} (h:Below w.heap.size w w'):w.grownBy w' none:=⟨h.os,h.tape,h.output,h.size,fun k hk _=>h.block k hk⟩
theorem OwnI.bw {w w':World} {B:Nat} {v:Value} {xs:List Int} (h:OwnI w B v xs) (hb:Below w.heap.size w w'):OwnI w' B v xs:=by
 refine h.kept (zY hb) ?_;cases hv:v.ownBlock with
 | none=>exact .inl rfl
 | some k=>exact .inr (by simp)
theorem yB {B:Nat} {w w':World} (h:Below B w w') (n:Nat):Below B w (w'.drewN n):=⟨h.os,h.tape,h.output,h.size,h.block⟩
theorem qd0 (xs:List Int) (j:Nat) (hj:j<xs.length):(xs.map (Value.int .i64))[j]? = some (.int .i64 (zi xs j)):=by
 unfold zi;rw [List.getElem?_map,List.getElem?_eq_getElem hj,List.getD_eq_getElem?_getD,List.getElem?_eq_getElem hj];rfl
theorem OwnI.form {w:World} {B:Nat} {v:Value} {xs:List Int} (h:OwnI w B v xs):∃ a0 cap,v=.slice a0 xs.length cap/\Sl w a0 xs:=by
 rcases h.2 with ⟨rfl,h0⟩ | ⟨g,cap,cur,rfl,hb,_⟩
 ·exact ⟨none,0,by rw [h0],.inl (List.eq_nil_of_length_eq_zero h0)⟩
 ·refine ⟨_,cap,rfl,.inr ⟨g,0,rfl,(h.lt g rfl).2,fun i hi=>?_⟩⟩
  rw [nL,World.ownsRow.cellAt h i (by omega)];exact qd0 xs i hi
theorem OwnI.block {w:World} {B:Nat} {v:Value} {xs:List Int} (h:OwnI w B v xs) (hn:0<xs.length):∃ g cap,v=.slice (some ⟨g,0,none⟩) xs.length cap/\B<=g/\g<w.heap.size:=by
 rcases h.2 with ⟨_,h0⟩ | ⟨g,cap,cur,rfl,hb,_⟩
 ·omega
 ·exact ⟨g,cap,rfl,hb,(h.lt g rfl).2⟩
theorem OwnI.cell {w:World} {B g cap:Nat} {xs:List Int} (h:OwnI w B (sG g xs.length cap) xs) {j:Nat} (hj:j<xs.length):w.cell? ⟨g,j,none⟩=some (.int .i64 (zi xs j)):=by
 rw [World.ownsRow.cellAt h j (by omega)];exact qd0 xs j hj
theorem OwnI.frozen {w:World} {B g cap:Nat} {xs:List Int} (h:OwnI w B (sG g xs.length cap) xs) (j:Nat):w.frozen? ⟨g,j,none⟩=false:=World.ownsRow.frozenAt h j
theorem OwnI.set {w:World} {B g cap n:Nat} {xs:List Int} (h:OwnI w B (sG g n cap) xs) (hn:n=xs.length) (j:Nat) (x:Int):OwnI (w.setCell ⟨g,j,none⟩ (.int .i64 x)) B (sG g n cap) (xs.set j x)/\w.grownBy (w.setCell ⟨g,j,none⟩ (.int .i64 x)) (some g):=by
 subst hn;have:=World.ownsRow.stored h j (.int .i64 x);unfold OwnI;rw [List.length_set,List.map_set];exact this
theorem qro {xs ys:List Int} (hl:xs.length=ys.length) (h:∀ i,i<xs.length->zi xs i=zi ys i):xs=ys:=by
 apply List.ext_getElem hl;intro i h1 h2;have:=h i h1;unfold zi at this
 rwa [List.getD_eq_getElem?_getD,List.getD_eq_getElem?_getD,List.getElem?_eq_getElem h1,List.getElem?_eq_getElem h2,Option.getD_some,Option.getD_some] at this
theorem qdp (xs:List Int) (j:Nat) (x:Int) (hj:j<xs.length):zi (xs.set j x) j=x:=by
 unfold zi;rw [List.getD_eq_getElem?_getD,List.getElem?_set,nC rfl,nC hj];rfl
theorem qe4 (xs:List Int) (i j:Nat) (x:Int) (h:i≠j):zi (xs.set j x) i=zi xs i:=by
 unfold zi;rw [List.getD_eq_getElem?_getD,List.getElem?_set,nB (fun e=>h e.symm),List.getD_eq_getElem?_getD]
theorem qp9:(prog.info? 3).map (fun i=>(i.zero,i.size,i.bytes))=some (some (.int .i64 0),1,8):=by kernel_rfl
theorem qcb (n:Nat) (hn:n<=1048576) (w:World):
  (Instr.makeSlice 28 (.int .i64 (n:Int)) (.int .i64 (n:Int))).run prog w=.ok (sG w.heap.size n n) (w.alloc (.cells (madeCells #[.int .i64 0] n) 3)):=by
 have hinfo:=qp9;cases hi:prog.info? 3 with
 | none=>rw [hi] at hinfo;cases hinfo
 | some i=>
  rw [hi] at hinfo;simp only [Option.map_some,nG,Prod.mk.injEq] at hinfo;obtain ⟨hz,hs,hb⟩:=hinfo;have h:=run_make (P:=prog) w 28 3 i _ Tryz.underlying28 hi hz .i64 .i64 (n:Int) (n:Int) (by omega) (Int.le_refl _) (by rw [hb];omega) (by omega);rw [hs] at h;simpa [Value.cells] using h
theorem qlh (w:World) (n:Nat) (hn:n<=1048576):OwnI (w.alloc (.cells (madeCells #[.int .i64 0] n) 3)) w.heap.size (sG w.heap.size n n) (List.replicate n 0):=by
 have:=World.ownsRow_lit (base:=w.heap.size) (e:=3) (size:=1) w (madeCells #[.int .i64 0] n) n (nA _) (by unfold maxLen;omega) (by simp [size_madeCells]);rw [toList_madeCells_one] at this;unfold OwnI;rw [List.length_replicate,List.map_replicate];exact this
theorem qed (a0:Option Addr) (len cap:Nat) (x:Int) (w:World) (h:(len:Int)<=x) (hx:x<=1048576):
  Calls prog 52 #[.slice a0 len cap,.int .i64 x] w fun e w'=>e=.returned (.int .i64 (x - (len:Int)))/\w'=w:=by
 go_enter func52,ntmps52
 go_wp2;go_ret;exact ⟨rfl,rfl⟩
theorem qhi (a0:Option Addr) (len cap:Nat) (x:Int) (w:World) (h:x<(len:Int)) (hx:0<=x) (hm:len<=maxLen):
  Calls prog 52 #[.slice a0 len cap,.int .i64 x] w fun e w'=>e=.returned (.int .i64 (-1))/\w'=w:=by
 unfold maxLen at hm;have h2:(len:Int)<=9223372036854775807:=by omega
 go_enter func52,ntmps52
 go_wp2;go_ret;exact ⟨rfl,rfl⟩
abbrev stV (p:Int) (ra:Option Addr) (rn rc:Nat) (oa:Option Addr) (on oc:Nat) (code:Int):Value:=.agg #[.int .i64 p,.slice ra rn rc,.slice oa on oc,.int .i64 code]
theorem qj8 (a0:Option Addr) (cap:Nat) (xs:List Int) (w:World) (hlen:xs.length<=1048576) (hc:Sl w a0 xs):
  Calls prog 61 #[.slice a0 xs.length cap] w fun e w'=>e=.returned (sG w.heap.size xs.length xs.length)/\OwnI w' w.heap.size (sG w.heap.size xs.length xs.length) xs/\w.heap.size<w'.heap.size/\Below w.heap.size w w':=by
 have hl':(xs.length:Int)<=1048576:=by omega
 have hmk:=qcb xs.length hlen;have HM:=qlh w xs.length hlen;have HC:Hid (Sl w a0 xs):=hc;clear hc
 go_enter func61,ntmps61
 go_wp2_with fail
 clear hmk
 go_loopw [4] (fun i wr=>∃ k:Nat,k<=xs.length/\i=.int .i64 k/\Hid (∃ ys,ys.length=xs.length/\OwnI wr w.heap.size (sG w.heap.size xs.length xs.length) ys/\∀ j,j<k->zi ys j=zi xs j)/\Below w.heap.size w wr) (fun i _=>xs.length - (intOf i).toNat)
 case atStart=>exact ⟨0,nD _,rfl,⟨_,by simp,HM,fun j hj=>by omega⟩,(nE _ _).alloc (nA _) _⟩
 case round=>
  clear HM;obtain ⟨k,hk,rfl,HR,hbw⟩:=hrel;have hs:w.heap.size<wr.heap.size:=by obtain ⟨ys,_,ho,_⟩:=HR.out;exact (ho.lt _ rfl).2
  by_cases hlt:k<xs.length
  ·obtain ⟨b,off,rfl,hbl,ck⟩:=(HC.bw hbw).at hlt
   have fz:wr.frozen? ⟨w.heap.size,k,none⟩=false:=by obtain ⟨ys,he,ho,_⟩:=HR.out;rw [<- he] at ho;exact ho.frozen k
   have cz:∃ z:Int,wr.cell? ⟨w.heap.size,k,none⟩=some (.int .i64 z):=by obtain ⟨ys,he,ho,_⟩:=HR.out;rw [<- he] at ho hlt;exact ⟨_,ho.cell hlt⟩
   obtain ⟨z,cz⟩:=cz;go_wp2;go_roundw
   case rel=>
    refine ⟨k+1,by omega,by go_num,?_,hbw.setCell (nA _) _⟩;obtain ⟨ys,he,ho,hy⟩:=HR.out;refine ⟨ys.set k (zi xs k),by simpa using he,(ho.set he.symm k _).1,fun j hj=>?_⟩;by_cases hjk:j=k
    ·subst hjk;exact qdp ys j _ (by omega)
    ·rw [qe4 ys j k _ hjk];exact hy j (by omega)
   case measure=>simp [intOf];omega
  ·have HF:Hid (OwnI wr w.heap.size (sG w.heap.size xs.length xs.length) xs):=by
    obtain ⟨ys,he,ho,hy⟩:=HR.out;have:ys=xs:=qro he fun i hi=>hy i (by omega);rw [this] at ho;exact ho
   clear HR;go_wp2;go_ret;exact ⟨rfl,HF.out,hs,hbw⟩
theorem qe3 (a0 a1:Option Addr) (c0 c1:Nat) (xs:List Int) (w:World) (hlen:xs.length<=1048576) (h0:Sl w a0 xs) (h1:Sl w a1 xs):
  Calls prog 84 #[.slice a0 xs.length c0,.slice a1 xs.length c1] w (rB w (.bool true)):=by
 have hl':(xs.length:Int)<=1048576:=by omega
 have H0:Hid (Sl w a0 xs):=h0;have H1:Hid (Sl w a1 xs):=h1;clear h0 h1
 go_enter func84,ntmps84
 go_wp2_with fail
 go_loopw [5] (fun i wr=>∃ k:Nat,k<=xs.length/\i=.int .i64 k/\Below w.heap.size w wr) (fun i _=>xs.length - (intOf i).toNat)
 case atStart=>exact ⟨0,nD _,rfl,nE _ _⟩
 case round=>
  obtain ⟨k,hk,rfl,hbw⟩:=hrel;by_cases hlt:k<xs.length
  ·obtain ⟨b,off,rfl,hbl,ck⟩:=(H0.bw hbw).at hlt
   obtain ⟨b',off',rfl,hbl',ck'⟩:=(H1.bw hbw).at hlt;have hlt':(k:Int)<(xs.length:Int):=by omega
   go_wp2_with fail
   go_quiet (fail)
   go_wp2;go_roundw
   case rel=>exact ⟨k+1,by omega,by go_num,yB hbw _⟩
   case measure=>simp [intOf];omega
  ·go_wp2
   go_ret;exact ⟨rfl,hbw⟩
abbrev evV (k p v:Int):Value:=.agg #[.int .i64 k,.int .i64 p,.int .i64 v]
theorem qap {W w1:World} (hb:Below W.heap.size W w1):(∀ b o,b<W.heap.size->w1.cell? ⟨b,o,none⟩=W.cell? ⟨b,o,none⟩)/\(∀ b o,b<W.heap.size->w1.frozen? ⟨b,o,none⟩=W.frozen? ⟨b,o,none⟩):=
 ⟨fun b o h=>hb.cell (p:=⟨b,o,none⟩) h,fun b o h=>hb.frozen (p:=⟨b,o,none⟩) h⟩
theorem OwnI.setBelow {w:World} {B:Nat} {v:Value} {xs:List Int} (h:OwnI w B v xs) {a:Addr} (ha:a.block<B) (u:Value):OwnI (w.setCell a u) B v xs:=ownsRow_setCell_below h ha u
def qag (w:World) (B:Nat) (v:Value) (p:Int) (rs os:List Int) (code:Int):Prop:=
 ∃ vr vo,v=.agg #[.int .i64 p,vr,vo,.int .i64 code]/\OwnI w B vr rs/\OwnI w B vo os/\∀ k,vr.ownBlock=some k->vo.ownBlock≠some k
theorem qag.bw {w w':World} {B:Nat} {v:Value} {p code:Int} {rs os:List Int} (h:qag w B v p rs os code) (hb:Below w.heap.size w w'):qag w' B v p rs os code:=by
 obtain ⟨vr,vo,e,h1,h2,h3⟩:=h;exact ⟨vr,vo,e,h1.bw hb,h2.bw hb,h3⟩
theorem qag.mono {w:World} {B B':Nat} {v:Value} {p code:Int} {rs os:List Int} (h:qag w B v p rs os code) (hb:B'<=B):qag w B' v p rs os code:=by
 obtain ⟨vr,vo,e,h1,h2,h3⟩:=h;exact ⟨vr,vo,e,h1.mono hb,h2.mono hb,h3⟩
theorem qag.read {w:World} {B:Nat} {v:Value} {p code:Int} {rs os:List Int} (h:qag w B v p rs os code):∃ ra rc oa oc,v=stV p ra rs.length rc oa os.length oc code/\Sl w ra rs/\Sl w oa os:=by
 obtain ⟨vr,vo,rfl,h1,h2,_⟩:=h;obtain ⟨ra,rc,rfl,s1⟩:=h1.form;obtain ⟨oa,oc,rfl,s2⟩:=h2.form;exact ⟨ra,rc,oa,oc,rfl,s1,s2⟩
theorem qai {w w0 w1:World} {B:Nat} (h:Below B w w0) (h1:Below w0.heap.size w0 w1) (hB:B<=w0.heap.size):Below B w w1:=h.trans (h1.mono hB)
theorem qq6 (p code:Int) (ra oa:Option Addr) (rc oc:Nat) (rs os:List Int) (w:World) (hr:rs.length<=1048576) (ho:os.length<=1048576) (h1:Sl w ra rs) (h2:Sl w oa os):
  Calls prog 127 #[stV p ra rs.length rc oa os.length oc code] w fun e w'=>∃ v,e=.returned v/\qag w' w.heap.size v p rs os code/\Below w.heap.size w w':=by
 have H1:Hid (Sl w ra rs):=h1;have H2:Hid (Sl w oa os):=h2;clear h1 h2
 go_enter func127,ntmps127
 go_wp2_with fail
 refine (qj8 ra rc rs _ hr (H1.bw (by go_grown))).mono ?_;rintro e w1 ⟨rfl,o1,z1,b1⟩;have B1:Hid (Below w.heap.size w w1):=qai (by go_grown) b1 (by simp;omega);obtain ⟨hc1,hf1⟩:=qap b1;simp only [World.size_alloc] at o1 z1;have O1:Hid (OwnI w1 (w.heap.size+1+1+1) (.slice (some ⟨w.heap.size+1+1+1,0,none⟩) rs.length rs.length) rs):=o1;clear o1 b1;have BS:Below w.heap.size w (w1.setCell ⟨w.heap.size+1+1,1,none⟩ (.slice (some ⟨w.heap.size+1+1+1,0,none⟩) rs.length rs.length)):=B1.setCell (by simp;omega) _;have HBS:Hid (Below w.heap.size w (w1.setCell ⟨w.heap.size+1+1,1,none⟩ (.slice (some ⟨w.heap.size+1+1+1,0,none⟩) rs.length rs.length))):=BS;have O1':Hid (OwnI (w1.setCell ⟨w.heap.size+1+1,1,none⟩ (.slice (some ⟨w.heap.size+1+1+1,0,none⟩) rs.length rs.length)) (w.heap.size+1+1+1) (.slice (some ⟨w.heap.size+1+1+1,0,none⟩) rs.length rs.length) rs):=ownsRow_setCell_below O1.out (by simp) _;clear BS O1 B1;have y0:w.heap.size<w1.heap.size:=by omega
 have y1:w.heap.size+1<w1.heap.size:=by omega
 have y2:w.heap.size+1+1<w1.heap.size:=by omega
 go_wp2_with fail
 refine (qj8 oa oc os _ ho (H2.bw HBS.out)).mono ?_;rintro e w2 ⟨rfl,o2,z2,b2⟩;have B2:Hid (Below w.heap.size w w2):=qai HBS.out b2 (by simp;omega);obtain ⟨hc2,hf2⟩:=qap b2;have O1'':Hid (OwnI w2 (w.heap.size+1+1+1) (.slice (some ⟨w.heap.size+1+1+1,0,none⟩) rs.length rs.length) rs):=O1'.bw b2;simp only [World.size_setCell] at o2 z2;have O2:Hid (OwnI w2 w1.heap.size (sG w1.heap.size os.length os.length) os):=o2;clear o2 b2 O1' HBS;go_wp2;refine bodyPost_ret (v:=stV p (some ⟨w.heap.size+1+1+1,0,none⟩) rs.length rs.length (some ⟨w1.heap.size,0,none⟩) os.length os.length code) (by simp [results,results127,go_sem,hc2,hc1,y1]) rfl ⟨_,rfl,⟨_,_,rfl,?_,?_,?_⟩,?_⟩
 ·refine OwnI.mono (B:=w.heap.size+1+1+1) ?_ (by omega)
  repeat (refine OwnI.setBelow ?_ (by simp) _)
  exact O1''.out
 ·refine OwnI.mono (B:=w1.heap.size) ?_ (by omega)
  repeat (refine OwnI.setBelow ?_ (by simpa using by omega) _)
  exact O2.out
 ·intro k hk hk'
  simp [Value.ownBlock] at hk hk';omega
 ·have:=B2.out
  go_grown
theorem qf9 (p code:Int) (ra oa:Option Addr) (rn rc on oc:Nat) (x:Int) (w:World) (h:(rn:Int)+on<=x) (hx:x<=1048576):
  Calls prog 117 #[stV p ra rn rc oa on oc code,.int .i64 x] w (rB w (.int .i64 (x - rn - on))):=by
 have h1:(rn:Int)<=x:=by omega
 have h2:(on:Int)<=x - rn:=by omega
 have h3:¬ x - (rn:Int)<0:=by omega
 have h4:¬ x - (rn:Int) - on<0:=by omega
 go_enter func117,ntmps117
 go_wp2_with fail
 refine (qed _ _ _ _ _ h1 hx).mono ?_;rintro e w1 ⟨rfl,rfl⟩;go_wp2_with fail
 refine (qed _ _ _ _ _ h2 (by omega)).mono ?_;rintro e w1 ⟨rfl,rfl⟩;go_wp2;go_ret;exact ⟨rfl,by go_grown⟩
theorem qma (p code:Int) (ra oa:Option Addr) (rn rc on oc:Nat) (x:Int) (w:World) (h:x<(rn:Int)+on) (hx:x<=1048576) (hx0:0<=x) (hr:rn<=maxLen) (ho:on<=maxLen):
  Calls prog 117 #[stV p ra rn rc oa on oc code,.int .i64 x] w (rB w (.int .i64 (-1))):=by
 by_cases h1:(rn:Int)<=x
 ·have h2:x - (rn:Int)<on:=by omega
  have h3:¬ x - (rn:Int)<0:=by omega
  go_enter func117,ntmps117
  go_wp2_with fail
  refine (qed _ _ _ _ _ h1 hx).mono ?_;rintro e w1 ⟨rfl,rfl⟩;go_wp2_with fail
  refine (qhi _ _ _ _ _ h2 (by omega) ho).mono ?_;rintro e w1 ⟨rfl,rfl⟩;go_wp2;go_ret;exact ⟨rfl,by go_grown⟩
 ·have h1':x<(rn:Int):=by omega
  go_enter func117,ntmps117
  go_wp2_with fail
  refine (qhi _ _ _ _ _ h1' hx0 hr).mono ?_;rintro e w1 ⟨rfl,rfl⟩;go_wp2;go_ret;exact ⟨rfl,by go_grown⟩
theorem qha (p code:Int) (ra oa ra' oa':Option Addr) (rc oc rc' oc':Nat) (rs os:List Int) (w:World) (hr:rs.length<=1048576) (ho:os.length<=1048576) (h1:Sl w ra rs) (h2:Sl w oa os) (h1':Sl w ra' rs) (h2':Sl w oa' os):
  Calls prog 148 #[stV p ra rs.length rc oa os.length oc code,stV p ra' rs.length rc' oa' os.length oc' code] w (rB w (.bool true)):=by
 have H1:Hid (Sl w ra rs):=h1;have H2:Hid (Sl w oa os):=h2;have H1':Hid (Sl w ra' rs):=h1';have H2':Hid (Sl w oa' os):=h2';clear h1 h2 h1' h2'
 go_enter func148,ntmps148
 go_wp2_with fail
 refine (qe3 ra ra' rc rc' rs _ hr (H1.bw (by go_grown)) (H1'.bw (by go_grown))).mono ?_;rintro e w1 ⟨rfl,b1⟩;have B1:Hid (Below w.heap.size w w1):=qai (by go_grown) b1 (by simp;omega);obtain ⟨hc1,hf1⟩:=qap b1;have y1:w.heap.size+1<w1.heap.size:=by have:=b1.size;simp at this;omega
 have y0:w.heap.size<w1.heap.size:=by omega
 clear b1;go_wp2_with fail
 refine (qe3 oa oa' oc oc' os _ ho (H2.bw B1.out) (H2'.bw B1.out)).mono ?_;rintro e w2 ⟨rfl,b2⟩;have B2:Hid (Below w.heap.size w w2):=qai B1.out b2 B1.size;obtain ⟨hc2,hf2⟩:=qap b2;clear b2 B1;go_wp2;go_ret;exact ⟨rfl,B2.out⟩
