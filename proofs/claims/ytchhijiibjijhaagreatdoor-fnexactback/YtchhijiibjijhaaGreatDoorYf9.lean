import Derived.Test.YtchhijiibjijhaaGreatDoorYf8
import Derived.Deep.OwnRows
import Derived.ProofKit
import Derived.OpenShut
import Derived.ShutString
import Derived.ChangeOld
namespace Go.Proofs.YtchhijiibjijhaaGreatDoor
set_option maxRecDepth 100000
set_option maxHeartbeats 4000000
open Go.RowKit Go.Deep
theorem qx5:(Tryz.prog.info? 115).map (fun i=>(i.zero,i.size,i.bytes))=some (some (insV 0 0 0 0 0),5,40):=by kernel_rfl
theorem qho (n:Nat) (hn:n<=1048576) (w:World):
  (Instr.makeSlice 113 (.int .i64 (n:Int)) (.int .i64 (n:Int))).run Tryz.prog w=.ok (.slice (some ⟨w.heap.size,0,none⟩) n n) (w.alloc (.cells (madeCells (insV 0 0 0 0 0).cells (n*5)) 115)):=by
 have hinfo:=qx5
 cases hi:Tryz.prog.info? 115 with
 | none=>rw [hi] at hinfo;cases hinfo
 | some i=>
  rw [hi] at hinfo
  simp only [Option.map_some,Option.some.injEq,Prod.mk.injEq] at hinfo
  obtain ⟨hz,hs,hb⟩:=hinfo
  have h:=run_make (P:=Tryz.prog) w 113 115 i _ Tryz.underlying113 hi hz .i64 .i64 (n:Int) (n:Int) (by omega) (Int.le_refl _) (by rw [hb];omega) (by omega)
  rw [hs] at h
  simpa using h
theorem qpo (w:World) (n:Nat):(w.alloc (.cells (madeCells (insV 0 0 0 0 0).cells (n*5)) 115)).rowIs w.heap.size 115 (n*5) (fun _=>.int .i64 0):=by
 refine ⟨_,blk_alloc_new _ _,size_madeCells _ _,fun i hi=>?_⟩
 have h5:i % 5<5:=Nat.mod_lt _ (by omega)
 have:∀ j,j<5->(#[Value.int .i64 0,.int .i64 0,.int .i64 0,.int .i64 0,.int .i64 0]:Array Value)[j]! = .int .i64 0:=by
  intro j hj
  match j,hj with
  | 0,_=>rfl
  | 1,_=>rfl
  | 2,_=>rfl
  | 3,_=>rfl
  | 4,_=>rfl
 simp only [madeCells,Value.cells]
 rw [Array.getElem?_map,Array.getElem?_range,if_pos hi]
 exact congrArg some (this (i % 5) h5)
def qid (f:Nat->Value) (g:Nat->I5) (k:Nat):Prop:=∀ i,i<k->
 f (i*5)=.int .i64 (g i).o/\f (i*5+1)=.int .i64 (g i).r/\f (i*5+2)=.int .i64 (g i).a/\f (i*5+3)=.int .i64 (g i).b/\f (i*5+4)=.int .i64 (g i).n
theorem qid.at {w:World} {b:Nat} {t:TypeId} {len k:Nat} {f:Nat->Value} {g:Nat->I5} (h:qid f g k) (hr:w.rowIs b t (len*5) f) (hk:k<=len):qaj w b 0 k g:=by
 intro i hi
 obtain ⟨h0,h1,h2,h3,h4⟩:=h i hi
 refine ⟨?_,?_,?_,?_,?_⟩
 ·rw [hr.cell (by omega),Nat.zero_add,h0]
 ·rw [hr.cell (by omega),Nat.zero_add,h1]
 ·rw [hr.cell (by omega),Nat.zero_add,h2]
 ·rw [hr.cell (by omega),Nat.zero_add,h3]
 ·rw [hr.cell (by omega),Nat.zero_add,h4]
theorem qid.step {w:World} {b:Nat} {t:TypeId} {len k:Nat} {f:Nat->Value} {g:Nat->I5} (hr:w.rowIs b t (len*5) f) (h:qid f g k):
  ∃ f',(((((w.setCell ⟨b,k*5,none⟩ (.int .i64 (g k).o)).setCell ⟨b,k*5+1,none⟩ (.int .i64 (g k).r)).setCell ⟨b,k*5+2,none⟩ (.int .i64 (g k).a)).setCell ⟨b,k*5+3,none⟩ (.int .i64 (g k).b)).setCell ⟨b,k*5+4,none⟩ (.int .i64 (g k).n)).rowIs b t (len*5) f'/\qid f' g (k+1):=by
 refine ⟨_,((((hr.set _ _).set _ _).set _ _).set _ _).set _ _,fun i hi=>?_⟩
 by_cases hik:i=k
 ·subst hik
  simp
 ·have hlt:i<k:=by omega
  obtain ⟨h0,h1,h2,h3,h4⟩:=h i hlt
  refine ⟨?_,?_,?_,?_,?_⟩
  ·rw [if_neg (by omega),if_neg (by omega),if_neg (by omega),if_neg (by omega),if_neg (by omega)];exact h0
  ·rw [if_neg (by omega),if_neg (by omega),if_neg (by omega),if_neg (by omega),if_neg (by omega)];exact h1
  ·rw [if_neg (by omega),if_neg (by omega),if_neg (by omega),if_neg (by omega),if_neg (by omega)];exact h2
  ·rw [if_neg (by omega),if_neg (by omega),if_neg (by omega),if_neg (by omega),if_neg (by omega)];exact h3
  ·rw [if_neg (by omega),if_neg (by omega),if_neg (by omega),if_neg (by omega),if_neg (by omega)];exact h4
theorem qr6 (op r a b n:Int) (w:World):
  Calls Tryz.prog 173 #[insV op r a b n,insV op r a b n] w fun e w'=>e=.returned (.bool true)/\Below w.heap.size w w':=by
 go_enter Tryz.func173,Tryz.ntmps173
 go_wp2
 go_ret
 exact ⟨rfl,by go_grown⟩
theorem qir (b1 b2 len c1 c2:Nat) (g:Nat->I5) (w:World) (hlen:len<=1048576) (hb1:b1<w.heap.size) (hb2:b2<w.heap.size) (hc1:qaj w b1 0 len g) (hc2:qaj w b2 0 len g):
  Calls Tryz.prog 102 #[.slice (some ⟨b1,0,none⟩) len c1,.slice (some ⟨b2,0,none⟩) len c2] w fun e w'=>e=.returned (.bool true)/\Below w.heap.size w w':=by
 have hl':(len:Int)<=1048576:=by omega
 have HC1:Hid (qaj w b1 0 len g):=hc1
 have HC2:Hid (qaj w b2 0 len g):=hc2
 clear hc1 hc2
 go_enter Tryz.func102,Tryz.ntmps102
 go_wp2_with fail
 go_loopw [5] (fun i wr=>∃ k:Nat,k<=len/\i=.int .i64 k/\Below w.heap.size w wr) (fun i _=>len - (intOf i).toNat)
 case atStart=>exact ⟨0,Nat.zero_le _,rfl,Below.refl _ _⟩
 case round=>
  obtain ⟨k,hk,rfl,hbw⟩:=hrel
  have hs:=hbw.size
  by_cases hlt:k<len
  ·obtain ⟨c0,c1,c2,c3,c4⟩:=HC1.out.below hbw hb1 k hlt
   obtain ⟨d0,d1,d2,d3,d4⟩:=HC2.out.below hbw hb2 k hlt
   have hlt':(k:Int)<(len:Int):=by omega
   rw [Nat.zero_add] at c0 c1 c2 c3 c4 d0 d1 d2 d3 d4
   go_wp2_with fail
   first|(go_region_with (go_at_call 173;refine (qr6 _ _ _ _ _ _).mono ?_;rintro e w1 ⟨rfl,hq1⟩)) | fail
   all_goals
    go_wp2
    go_roundw
    case rel=>exact ⟨k+1,by omega,by go_num,hbw.drew.trans (hq1.mono hs)⟩
    case measure=>simp [intOf];omega
  ·go_wp2
   go_ret
   exact ⟨rfl,hbw⟩
theorem qv4 (b off len cap k:Nat) (g:Nat->I5) (p:Int) (code:Int) (ra oa:Option Addr) (rc on oc:Nat) (rs:List Int) (w:World) (_hl:(len:Int)<=9223372036854775807) (hb:b<w.heap.size) (hI:qaj w b off len g) (_h1:Sl w ra rs) (_h4:(rs.length:Int)=4) (hk:k<len) (hp:p=k) (_a0:0<=(g k).a) (_a3:(g k).a<=3) (ho:(g k).o=1):
  Calls Tryz.prog 91 #[.slice (some ⟨b,off,none⟩) len cap,stV p ra rs.length rc oa on oc code] w fun e w'=>e=.returned (evV (evK 1) (evP 1 (g k).n) (evW 1 (g k).a rs))/\Below w.heap.size w w':=by
 subst hp
 have hk':(k:Int)<(len:Int):=by omega
 obtain ⟨c0,c1,c2,c3,c4⟩:=hI k hk
 rw [ho] at c0
 clear hI _h1 _a0 _a3 ho _h4
 go_enter Tryz.func91,Tryz.ntmps91
 go_wp2
 refine bodyPost_ret (v:=evV 1 0 0) (by simp [results,Tryz.results91,go_sem]) rfl ⟨rfl,?_⟩
 go_grown
theorem qv5 (b off len cap k:Nat) (g:Nat->I5) (p:Int) (code:Int) (ra oa:Option Addr) (rc on oc:Nat) (rs:List Int) (w:World) (_hl:(len:Int)<=9223372036854775807) (hb:b<w.heap.size) (hI:qaj w b off len g) (_h1:Sl w ra rs) (_h4:(rs.length:Int)=4) (hk:k<len) (hp:p=k) (_a0:0<=(g k).a) (_a3:(g k).a<=3) (ho:(g k).o=2):
  Calls Tryz.prog 91 #[.slice (some ⟨b,off,none⟩) len cap,stV p ra rs.length rc oa on oc code] w fun e w'=>e=.returned (evV (evK 2) (evP 2 (g k).n) (evW 2 (g k).a rs))/\Below w.heap.size w w':=by
 subst hp
 have hk':(k:Int)<(len:Int):=by omega
 obtain ⟨c0,c1,c2,c3,c4⟩:=hI k hk
 rw [ho] at c0
 clear hI _h1 _a0 _a3 ho _h4
 go_enter Tryz.func91,Tryz.ntmps91
 go_wp2
 refine bodyPost_ret (v:=evV 1 0 0) (by simp [results,Tryz.results91,go_sem]) rfl ⟨rfl,?_⟩
 go_grown
theorem qv6 (b off len cap k:Nat) (g:Nat->I5) (p:Int) (code:Int) (ra oa:Option Addr) (rc on oc:Nat) (rs:List Int) (w:World) (_hl:(len:Int)<=9223372036854775807) (hb:b<w.heap.size) (hI:qaj w b off len g) (_h1:Sl w ra rs) (_h4:(rs.length:Int)=4) (hk:k<len) (hp:p=k) (_a0:0<=(g k).a) (_a3:(g k).a<=3) (ho:(g k).o=3):
  Calls Tryz.prog 91 #[.slice (some ⟨b,off,none⟩) len cap,stV p ra rs.length rc oa on oc code] w fun e w'=>e=.returned (evV (evK 3) (evP 3 (g k).n) (evW 3 (g k).a rs))/\Below w.heap.size w w':=by
 subst hp
 have hk':(k:Int)<(len:Int):=by omega
 obtain ⟨c0,c1,c2,c3,c4⟩:=hI k hk
 rw [ho] at c0
 clear hI _h1 _a0 _a3 ho _h4
 go_enter Tryz.func91,Tryz.ntmps91
 go_wp2
 refine bodyPost_ret (v:=evV 1 0 0) (by simp [results,Tryz.results91,go_sem]) rfl ⟨rfl,?_⟩
 go_grown
theorem qv7 (b off len cap k:Nat) (g:Nat->I5) (p:Int) (code:Int) (ra oa:Option Addr) (rc on oc:Nat) (rs:List Int) (w:World) (_hl:(len:Int)<=9223372036854775807) (hb:b<w.heap.size) (hI:qaj w b off len g) (_h1:Sl w ra rs) (_h4:(rs.length:Int)=4) (hk:k<len) (hp:p=k) (_a0:0<=(g k).a) (_a3:(g k).a<=3) (ho:(g k).o=4):
  Calls Tryz.prog 91 #[.slice (some ⟨b,off,none⟩) len cap,stV p ra rs.length rc oa on oc code] w fun e w'=>e=.returned (evV (evK 4) (evP 4 (g k).n) (evW 4 (g k).a rs))/\Below w.heap.size w w':=by
 subst hp
 have hk':(k:Int)<(len:Int):=by omega
 obtain ⟨c0,c1,c2,c3,c4⟩:=hI k hk
 rw [ho] at c0
 clear hI _h1 _a0 _a3 ho _h4
 go_enter Tryz.func91,Tryz.ntmps91
 go_wp2
 refine bodyPost_ret (v:=evV 1 0 0) (by simp [results,Tryz.results91,go_sem]) rfl ⟨rfl,?_⟩
 go_grown
theorem qv8 (b off len cap k:Nat) (g:Nat->I5) (p:Int) (code:Int) (ra oa:Option Addr) (rc on oc:Nat) (rs:List Int) (w:World) (_hl:(len:Int)<=9223372036854775807) (hb:b<w.heap.size) (hI:qaj w b off len g) (_h1:Sl w ra rs) (_h4:(rs.length:Int)=4) (hk:k<len) (hp:p=k) (_a0:0<=(g k).a) (_a3:(g k).a<=3) (ho:(g k).o=5):
  Calls Tryz.prog 91 #[.slice (some ⟨b,off,none⟩) len cap,stV p ra rs.length rc oa on oc code] w fun e w'=>e=.returned (evV (evK 5) (evP 5 (g k).n) (evW 5 (g k).a rs))/\Below w.heap.size w w':=by
 subst hp
 have hk':(k:Int)<(len:Int):=by omega
 obtain ⟨c0,c1,c2,c3,c4⟩:=hI k hk
 rw [ho] at c0
 clear hI _h1 _a0 _a3 ho _h4
 go_enter Tryz.func91,Tryz.ntmps91
 go_wp2
 refine bodyPost_ret (v:=evV 1 0 0) (by simp [results,Tryz.results91,go_sem]) rfl ⟨rfl,?_⟩
 go_grown
theorem qv9 (b off len cap k:Nat) (g:Nat->I5) (p:Int) (code:Int) (ra oa:Option Addr) (rc on oc:Nat) (rs:List Int) (w:World) (_hl:(len:Int)<=9223372036854775807) (hb:b<w.heap.size) (hI:qaj w b off len g) (h1:Sl w ra rs) (h4:(rs.length:Int)=4) (hk:k<len) (hp:p=k) (a0:0<=(g k).a) (a3:(g k).a<=3) (ho:(g k).o=6):
  Calls Tryz.prog 91 #[.slice (some ⟨b,off,none⟩) len cap,stV p ra rs.length rc oa on oc code] w fun e w'=>e=.returned (evV (evK 6) (evP 6 (g k).n) (evW 6 (g k).a rs))/\Below w.heap.size w w':=by
 subst hp
 have hk':(k:Int)<(len:Int):=by omega
 obtain ⟨c0,c1,c2,c3,c4⟩:=hI k hk
 rw [ho] at c0
 obtain ⟨j,hj⟩:=Int.eq_ofNat_of_zero_le a0
 rw [hj] at c2
 have hj4:j<rs.length:=by omega
 have hj4':(j:Int)<(rs.length:Int):=by omega
 obtain ⟨b',off',rfl,hb',cr⟩:=h1.at hj4
 have hb1:b'<w.heap.size+1:=by omega
 have hb2:b'<w.heap.size+1+1:=by omega
 have HJ:Hid ((g k).a.toNat=j):=by show (g k).a.toNat=j;omega
 clear hI h1 a0 a3 ho hj h4
 go_enter Tryz.func91,Tryz.ntmps91
 go_wp2_with fail
 go_region
 all_goals
  go_wp2
  refine bodyPost_ret (v:=evV 2 (g k).n (zi rs j)) (by simp [results,Tryz.results91,go_sem]) rfl ⟨qxm (by simp [evK,evP,evW,HJ.out]),?_⟩
  go_grown
theorem qwa (b off len cap k:Nat) (g:Nat->I5) (p:Int) (code:Int) (ra oa:Option Addr) (rc on oc:Nat) (rs:List Int) (w:World) (_hl:(len:Int)<=9223372036854775807) (hb:b<w.heap.size) (hI:qaj w b off len g) (_h1:Sl w ra rs) (_h4:(rs.length:Int)=4) (hk:k<len) (hp:p=k) (_a0:0<=(g k).a) (_a3:(g k).a<=3) (ho:(g k).o=7):
  Calls Tryz.prog 91 #[.slice (some ⟨b,off,none⟩) len cap,stV p ra rs.length rc oa on oc code] w fun e w'=>e=.returned (evV (evK 7) (evP 7 (g k).n) (evW 7 (g k).a rs))/\Below w.heap.size w w':=by
 subst hp
 have hk':(k:Int)<(len:Int):=by omega
 obtain ⟨c0,c1,c2,c3,c4⟩:=hI k hk
 rw [ho] at c0
 clear hI _h1 _a0 _a3 ho _h4
 go_enter Tryz.func91,Tryz.ntmps91
 go_wp2
 refine bodyPost_ret (v:=evV 3 (g k).n 0) (by simp [results,Tryz.results91,go_sem]) rfl ⟨rfl,?_⟩
 go_grown
theorem qwb (b off len cap k:Nat) (g:Nat->I5) (p:Int) (code:Int) (ra oa:Option Addr) (rc on oc:Nat) (rs:List Int) (w:World) (_hl:(len:Int)<=9223372036854775807) (hb:b<w.heap.size) (hI:qaj w b off len g) (h1:Sl w ra rs) (h4:(rs.length:Int)=4) (hk:k<len) (hp:p=k) (a0:0<=(g k).a) (a3:(g k).a<=3) (ho:(g k).o=8):
  Calls Tryz.prog 91 #[.slice (some ⟨b,off,none⟩) len cap,stV p ra rs.length rc oa on oc code] w fun e w'=>e=.returned (evV (evK 8) (evP 8 (g k).n) (evW 8 (g k).a rs))/\Below w.heap.size w w':=by
 subst hp
 have hk':(k:Int)<(len:Int):=by omega
 obtain ⟨c0,c1,c2,c3,c4⟩:=hI k hk
 rw [ho] at c0
 obtain ⟨j,hj⟩:=Int.eq_ofNat_of_zero_le a0
 rw [hj] at c2
 have hj4:j<rs.length:=by omega
 have hj4':(j:Int)<(rs.length:Int):=by omega
 obtain ⟨b',off',rfl,hb',cr⟩:=h1.at hj4
 have hb1:b'<w.heap.size+1:=by omega
 have hb2:b'<w.heap.size+1+1:=by omega
 have HJ:Hid ((g k).a.toNat=j):=by show (g k).a.toNat=j;omega
 clear hI h1 a0 a3 ho hj h4
 go_enter Tryz.func91,Tryz.ntmps91
 go_wp2
 refine bodyPost_ret (v:=evV 4 0 (zi rs j)) (by simp [results,Tryz.results91,go_sem]) rfl ⟨qxm (by simp [evK,evP,evW,HJ.out]),?_⟩
 go_grown
theorem qwc (b off len cap k:Nat) (g:Nat->I5) (p:Int) (code:Int) (ra oa:Option Addr) (rc on oc:Nat) (rs:List Int) (w:World) (_hl:(len:Int)<=9223372036854775807) (hb:b<w.heap.size) (hI:qaj w b off len g) (_h1:Sl w ra rs) (_h4:(rs.length:Int)=4) (hk:k<len) (hp:p=k) (_a0:0<=(g k).a) (_a3:(g k).a<=3) (ho:(g k).o=9):
  Calls Tryz.prog 91 #[.slice (some ⟨b,off,none⟩) len cap,stV p ra rs.length rc oa on oc code] w fun e w'=>e=.returned (evV (evK 9) (evP 9 (g k).n) (evW 9 (g k).a rs))/\Below w.heap.size w w':=by
 subst hp
 have hk':(k:Int)<(len:Int):=by omega
 obtain ⟨c0,c1,c2,c3,c4⟩:=hI k hk
 rw [ho] at c0
 clear hI _h1 _a0 _a3 ho _h4
 go_enter Tryz.func91,Tryz.ntmps91
 go_wp2
 refine bodyPost_ret (v:=evV 1 0 0) (by simp [results,Tryz.results91,go_sem]) rfl ⟨rfl,?_⟩
 go_grown
theorem qud (b off len cap k:Nat) (g:Nat->I5) (p:Int) (code:Int) (ra oa:Option Addr) (rc on oc:Nat) (rs:List Int) (w:World) (_hl:(len:Int)<=9223372036854775807) (hb:b<w.heap.size) (hI:qaj w b off len g) (_h1:Sl w ra rs) (_h4:(rs.length:Int)=4) (hk:k<len) (hp:p=k) (_a0:0<=(g k).a) (_a3:(g k).a<=3) (ho:(g k).o=10):
  Calls Tryz.prog 91 #[.slice (some ⟨b,off,none⟩) len cap,stV p ra rs.length rc oa on oc code] w fun e w'=>e=.returned (evV (evK 10) (evP 10 (g k).n) (evW 10 (g k).a rs))/\Below w.heap.size w w':=by
 subst hp
 have hk':(k:Int)<(len:Int):=by omega
 obtain ⟨c0,c1,c2,c3,c4⟩:=hI k hk
 rw [ho] at c0
 clear hI _h1 _a0 _a3 ho _h4
 go_enter Tryz.func91,Tryz.ntmps91
 go_wp2
 refine bodyPost_ret (v:=evV 1 0 0) (by simp [results,Tryz.results91,go_sem]) rfl ⟨rfl,?_⟩
 go_grown
theorem que (b off len cap k:Nat) (g:Nat->I5) (p:Int) (code:Int) (ra oa:Option Addr) (rc on oc:Nat) (rs:List Int) (w:World) (_hl:(len:Int)<=9223372036854775807) (hb:b<w.heap.size) (hI:qaj w b off len g) (_h1:Sl w ra rs) (_h4:(rs.length:Int)=4) (hk:k<len) (hp:p=k) (_a0:0<=(g k).a) (_a3:(g k).a<=3) (ho:(g k).o=11):
  Calls Tryz.prog 91 #[.slice (some ⟨b,off,none⟩) len cap,stV p ra rs.length rc oa on oc code] w fun e w'=>e=.returned (evV (evK 11) (evP 11 (g k).n) (evW 11 (g k).a rs))/\Below w.heap.size w w':=by
 subst hp
 have hk':(k:Int)<(len:Int):=by omega
 obtain ⟨c0,c1,c2,c3,c4⟩:=hI k hk
 rw [ho] at c0
 clear hI _h1 _a0 _a3 ho _h4
 go_enter Tryz.func91,Tryz.ntmps91
 go_wp2
 refine bodyPost_ret (v:=evV 1 0 0) (by simp [results,Tryz.results91,go_sem]) rfl ⟨rfl,?_⟩
 go_grown
theorem qcd (b off len cap k:Nat) (g:Nat->I5) (code:Int) (ra oa:Option Addr) (rc on oc:Nat) (rs:List Int) (w:World) (hlen:len<=maxLen) (hb:b<w.heap.size) (hI:qaj w b off len g) (h1:Sl w ra rs) (h4:rs.length=4) (hk:k<len) (h2:qab g len 4=true):
  Calls Tryz.prog 91 #[.slice (some ⟨b,off,none⟩) len cap,stV k ra rs.length rc oa on oc code] w fun e w'=>e=.returned (evV (evK (g k).o) (evP (g k).o (g k).n) (evW (g k).o (g k).a rs))/\Below w.heap.size w w':=by
 obtain ⟨⟨o1,o11⟩,-,⟨a0,a3⟩,-⟩:=qck (qbx h2 hk)
 have hl:(len:Int)<=9223372036854775807:=by unfold maxLen at hlen;omega
 have h4':(rs.length:Int)=4:=by omega
 rcases qfk (g k).o with ho | ho | ho | ho | ho | ho | ho | ho | ho | ho | ho | ho
 ·omega
 ·rw [ho];exact qv4 b off len cap k g k code ra oa rc on oc rs w hl hb hI h1 h4' hk rfl a0 a3 ho
 ·rw [ho];exact qv5 b off len cap k g k code ra oa rc on oc rs w hl hb hI h1 h4' hk rfl a0 a3 ho
 ·rw [ho];exact qv6 b off len cap k g k code ra oa rc on oc rs w hl hb hI h1 h4' hk rfl a0 a3 ho
 ·rw [ho];exact qv7 b off len cap k g k code ra oa rc on oc rs w hl hb hI h1 h4' hk rfl a0 a3 ho
 ·rw [ho];exact qv8 b off len cap k g k code ra oa rc on oc rs w hl hb hI h1 h4' hk rfl a0 a3 ho
 ·rw [ho];exact qv9 b off len cap k g k code ra oa rc on oc rs w hl hb hI h1 h4' hk rfl a0 a3 ho
 ·rw [ho];exact qwa b off len cap k g k code ra oa rc on oc rs w hl hb hI h1 h4' hk rfl a0 a3 ho
 ·rw [ho];exact qwb b off len cap k g k code ra oa rc on oc rs w hl hb hI h1 h4' hk rfl a0 a3 ho
 ·rw [ho];exact qwc b off len cap k g k code ra oa rc on oc rs w hl hb hI h1 h4' hk rfl a0 a3 ho
 ·rw [ho];exact qud b off len cap k g k code ra oa rc on oc rs w hl hb hI h1 h4' hk rfl a0 a3 ho
 ·rw [ho];exact que b off len cap k g k code ra oa rc on oc rs w hl hb hI h1 h4' hk rfl a0 a3 ho
theorem zW (w:World) (cs:Array Value) (t:TypeId) (j:Nat) {N:Nat} (h:N=w.heap.size):(w.alloc (.cells cs t)).cell? ⟨N,j,none⟩=cs[j]?:=by
 subst h
 simp
theorem yD (w:World) (cs:Array Value) (t:TypeId) (j:Nat) {N:Nat} (h:N=w.heap.size):(w.alloc (.cells cs t)).frozen? ⟨N,j,none⟩=false:=by
 subst h
 simp
theorem qaf.put4 {w:World} {B B' N:Nat} {v:Value} {p code:Int} {rs os:List Int} {a b c d:Value} (h:qaf w B' v p rs os code) (hN:N<B') (hB:B<=B'):qaf ((((w.setCell ⟨N,0,none⟩ a).setCell ⟨N,1,none⟩ b).setCell ⟨N,2,none⟩ c).setCell ⟨N,3,none⟩ d) B v p rs os code:=by
 obtain ⟨vr,vo,e,o1,o2,ha⟩:=h
 exact ⟨vr,vo,e,((((o1.setBelow hN _).setBelow hN _).setBelow hN _).setBelow hN _).mono hB,((((o2.setBelow hN _).setBelow hN _).setBelow hN _).setBelow hN _).mono hB,ha⟩
structure qa2 (w:World) (N:Nat) (p vr vo code:Value) (ek eq ev:Int):Prop where
 p0:w.cell? ⟨N,0,none⟩=some p
 p1:w.cell? ⟨N,1,none⟩=some vr
 p2:w.cell? ⟨N,2,none⟩=some vo
 p3:w.cell? ⟨N,3,none⟩=some code
 e0:w.cell? ⟨N+1,0,none⟩=some (.int .i64 ek)
 e1:w.cell? ⟨N+1,1,none⟩=some (.int .i64 eq)
 e2:w.cell? ⟨N+1,2,none⟩=some (.int .i64 ev)
 r0:w.cell? ⟨N+1+1,0,none⟩=some (.int .i64 0)
 r1:w.cell? ⟨N+1+1,1,none⟩=some (.slice none 0 0)
 r2:w.cell? ⟨N+1+1,2,none⟩=some (.slice none 0 0)
 r3:w.cell? ⟨N+1+1,3,none⟩=some (.int .i64 0)
 rf:∀ j,w.frozen? ⟨N+1+1,j,none⟩=false
theorem qa2.lt {w:World} {N:Nat} {p vr vo code:Value} {ek eq ev:Int} (h:qa2 w N p vr vo code ek eq ev):N+1+1<w.heap.size:=zJ w _ h.r0
theorem qa2.kept {w w':World} {N:Nat} {p vr vo code:Value} {ek eq ev:Int} (h:qa2 w N p vr vo code ek eq ev) (hb:∀ k,N<=k->k<=N+1+1->w'.heap[k]? = w.heap[k]?):qa2 w' N p vr vo code ek eq ev:=
 ⟨(World.cell?_of_block (hb N (by omega) (by omega))).trans h.p0, (World.cell?_of_block (hb N (by omega) (by omega))).trans h.p1, (World.cell?_of_block (hb N (by omega) (by omega))).trans h.p2, (World.cell?_of_block (hb N (by omega) (by omega))).trans h.p3,
  (zH (hb (N+1) (by omega) (by omega))).trans h.e0,(zH (hb (N+1) (by omega) (by omega))).trans h.e1,(zH (hb (N+1) (by omega) (by omega))).trans h.e2,
  (zH (hb (N+1+1) (by omega) (by omega))).trans h.r0,(zH (hb (N+1+1) (by omega) (by omega))).trans h.r1,(zH (hb (N+1+1) (by omega) (by omega))).trans h.r2,(zH (hb (N+1+1) (by omega) (by omega))).trans h.r3,
  fun j=>(zI (hb (N+1+1) (by omega) (by omega))).trans (h.rf j)⟩
theorem qa2.below {w w':World} {N:Nat} {p vr vo code:Value} {ek eq ev:Int} (h:qa2 w N p vr vo code ek eq ev) (hb:Below w.heap.size w w'):qa2 w' N p vr vo code ek eq ev:=
 h.kept fun k _ hk=>hb.block k (by have:=h.lt;omega)
theorem qa2.new (w:World) (p vr vo code:Value) (ek eq ev:Int) (t u v:TypeId):qa2 (((w.alloc (.cells #[p,vr,vo,code] t)).alloc (.cells #[.int .i64 ek,.int .i64 eq,.int .i64 ev] u)).alloc (.cells #[.int .i64 0,.slice none 0 0,.slice none 0 0,.int .i64 0] v)) w.heap.size p vr vo code ek eq ev:=by
 refine ⟨?_,?_,?_,?_,?_,?_,?_,?_,?_,?_,?_,?_⟩
 ·rw [zS _ _ (by simp;omega),zS _ _ (by simp)];exact zW w _ _ 0 rfl
 ·rw [zS _ _ (by simp;omega),zS _ _ (by simp)];exact zW w _ _ 1 rfl
 ·rw [zS _ _ (by simp;omega),zS _ _ (by simp)];exact zW w _ _ 2 rfl
 ·rw [zS _ _ (by simp;omega),zS _ _ (by simp)];exact zW w _ _ 3 rfl
 ·rw [zS _ _ (by simp)];exact zW _ _ _ 0 (by simp)
 ·rw [zS _ _ (by simp)];exact zW _ _ _ 1 (by simp)
 ·rw [zS _ _ (by simp)];exact zW _ _ _ 2 (by simp)
 ·exact zW _ _ _ 0 (by simp)
 ·exact zW _ _ _ 1 (by simp)
 ·exact zW _ _ _ 2 (by simp)
 ·exact zW _ _ _ 3 (by simp)
 ·exact fun j=>yD _ _ _ j (by simp)
def EvC3 (w:World) (N:Nat) (k p v:Int):Prop:=w.cell? ⟨N,0,none⟩=some (.int .i64 k)/\w.cell? ⟨N,1,none⟩=some (.int .i64 p)/\w.cell? ⟨N,2,none⟩=some (.int .i64 v)
theorem EvC3.below {w w':World} {N:Nat} {k p v:Int} (h:EvC3 w N k p v) (hb:Below w.heap.size w w'):EvC3 w' N k p v:=by
 obtain ⟨h0,h1,h2⟩:=h
 have hN:N<w.heap.size:=zJ w _ h0
 exact ⟨(hb.cell (p:=⟨N,0,none⟩) hN).trans h0,(hb.cell (p:=⟨N,1,none⟩) hN).trans h1,(hb.cell (p:=⟨N,2,none⟩) hN).trans h2⟩
theorem EvC3.new (w:World) (k p v:Int) (t:TypeId):EvC3 (w.alloc (.cells #[.int .i64 k,.int .i64 p,.int .i64 v] t)) w.heap.size k p v:=by
 unfold EvC3
 simp
theorem qaf.recode {w:World} {B:Nat} {p code:Int} {ra oa:Option Addr} {rn rc on oc:Nat} {rs os:List Int} (h:qaf w B (stV p ra rn rc oa on oc code) p rs os code) (c:Int):qaf w B (stV p ra rn rc oa on oc c) p rs os c:=by
 obtain ⟨vr,vo,e,o1,o2,ha⟩:=h
 simp only [stV,Value.agg.injEq,Array.mk.injEq,List.cons.injEq,and_true,true_and] at e
 obtain ⟨rfl,rfl⟩:=e
 exact ⟨_,_,rfl,o1,o2,ha⟩
theorem qaf.replace {w:World} {B:Nat} {p code:Int} {ra oa:Option Addr} {rn rc on oc:Nat} {rs os:List Int} (h:qaf w B (stV p ra rn rc oa on oc code) p rs os code) (q:Int):qaf w B (stV q ra rn rc oa on oc code) q rs os code:=by
 obtain ⟨vr,vo,e,o1,o2,ha⟩:=h
 simp only [stV,Value.agg.injEq,Array.mk.injEq,List.cons.injEq,and_true,true_and] at e
 obtain ⟨rfl,rfl⟩:=e
 exact ⟨_,_,rfl,o1,o2,ha⟩
theorem qa2.marked {w w':World} {N:Nat} {p vr vo code v:Value} {ek eq ev:Int} (h:qa2 w N p vr vo code ek eq ev) (m:qbh v w w') (hv:∀ k,qae v k->N+1+1<k):qa2 w' N p vr vo code ek eq ev:=
 h.kept fun k _ hk=>m.block k (by have:=h.lt;omega) (fun hh=>by have:=hv k hh;omega)
def qdm (a b c a' b' c':Int):Bool:=a == a' && (b == b' && c == c')
theorem qy1 (a b c a' b' c':Int) (w:World):(binOp .eql 74 (evV a b c) (evV a' b' c')).run Tryz.prog w=.ok (.bool (qdm a b c a' b' c')) w:=by
 rw [run_eql_struct,show (10000:Nat)=9998+1+1 from rfl,run_equalIn_agg w (9998+1) 74 _ _ (by kernel_rfl) (by kernel_rfl)]
 simp only [qdm]
 by_cases h1:a=a' <;> by_cases h2:b=b' <;> by_cases h3:c=c' <;> simp [go_sem,h1,h2,h3]
theorem qxg (a b c a' b' c':Int) (w:World):(binOp .neq 74 (evV a b c) (evV a' b' c')).run Tryz.prog w=.ok (.bool (!qdm a b c a' b' c')) w:=by
 rw [run_neq_struct,show (10000:Nat)=9998+1+1 from rfl,run_equalIn_agg w (9998+1) 74 _ _ (by kernel_rfl) (by kernel_rfl)]
 simp only [qdm]
 by_cases h1:a=a' <;> by_cases h2:b=b' <;> by_cases h3:c=c' <;> simp [go_sem,h1,h2,h3]
theorem qt6 (b off len cap k:Nat) (g:Nat->I5) (ra oa:Option Addr) (rc oc:Nat) (rs os:List Int) (w:World) (hl:(len:Int)<=30) (hb:b<w.heap.size) (hI:qaj w b off len g) (h4:rs.length=4) (ho:os.length<=60) (h1:Sl w ra rs) (h2:Sl w oa os) (hk:k<len) (hp:qab g len 4=true) (np nv:Int) (HN:Hid (evK (g k).o=2/\evP (g k).o (g k).n=np/\evW (g k).o (g k).a rs=nv)) (H6:Hid ((g k).o=6)):
  Calls Tryz.prog 92 #[.slice (some ⟨b,off,none⟩) len cap,stV k ra rs.length rc oa os.length oc 0,evV 2 np nv] w fun e w'=>∃ v,e=.returned (.tuple #[v,.bool true])/\qaf w' w.heap.size v (qac len (g k) k rs os 0 nv).p (qac len (g k) k rs os 0 nv).rs (qac len (g k) k rs os 0 nv).os (qac len (g k) k rs os 0 nv).c/\Below w.heap.size w w':=by
 have HI:Hid (qaj w b off len g):=hI
 have H1:Hid (Sl w ra rs):=h1
 have H2:Hid (Sl w oa os):=h2
 have H4:Hid (rs.length=4):=h4
 have HP:Hid (qab g len 4=true):=hp
 have hk':(k:Int)<(len:Int):=by omega
 clear hI h1 h2 h4 hp
 go_enter Tryz.func92,Tryz.ntmps92
 go_wp2_with fail
 refine (qcd _ _ _ _ k g _ _ _ _ _ _ rs _ (by unfold maxLen;omega) (by simp;omega) (HI.out.below (by go_grown) hb) (H1.out.below (by go_grown)) H4.out hk HP.out).mono ?_
 rintro e w1 ⟨he1,b1⟩
 rw [HN.out.1,HN.out.2.1,HN.out.2.2] at he1
 subst he1
 have B1:Hid (Below w.heap.size w (w1.alloc (oQ0 2 np nv))):=(qah (by go_grown) b1 (by simp;omega)).alloc (by have:=b1.size;simp at this;omega) _
 have X1:Hid (qa2 (w1.alloc (oQ0 2 np nv)) w.heap.size (.int .i64 k) (.slice ra rs.length rc) (.slice oa os.length oc) (.int .i64 0) 2 np nv):=((qa2.new w _ _ _ _ _ _ _ _ _ _).below b1).below (zT w1 _)
 clear b1
 obtain ⟨p0,p1,p2,p3,-,-,-,-,-,-,-,-⟩:=X1.out
 go_wp2_with fail
 clear p0 p1 p2 p3
 have V1:Hid (EvC3 (w1.alloc (oQ0 2 np nv)) w1.heap.size 2 np nv):=EvC3.new w1 _ _ _ _
 generalize w1.alloc (oQ0 2 np nv)=W1 at *
 refine (qb2 _ _ _ _ _ _ rs os _ (by have:=H4.out;omega) (by omega) (H1.out.below B1.out) (H2.out.below B1.out)).mono ?_
 rintro e w2 ⟨v2,rfl,o2,b2⟩
 obtain ⟨ra2,rc2,oa2,oc2,rfl,-,-⟩:=o2.read
 have bA:=zT w2 (oQ1 k ra2 rs.length rc2 oa2 os.length oc2 0)
 have q2:Below W1.heap.size W1 (w2.alloc (oQ1 k ra2 rs.length rc2 oa2 os.length oc2 0)):=b2.trans (bA.mono b2.size)
 have X2:Hid (qa2 (w2.alloc (oQ1 k ra2 rs.length rc2 oa2 os.length oc2 0)) w.heap.size (.int .i64 k) (.slice ra rs.length rc) (.slice oa os.length oc) (.int .i64 0) 2 np nv):=X1.out.below q2
 have V2:Hid (EvC3 (w2.alloc (oQ1 k ra2 rs.length rc2 oa2 os.length oc2 0)) w1.heap.size 2 np nv):=V1.out.below q2
 have Y2:Hid (BoxC (w2.alloc (oQ1 k ra2 rs.length rc2 oa2 os.length oc2 0)) w2.heap.size (.int .i64 k) (.slice ra2 rs.length rc2) (.slice oa2 os.length oc2) (.int .i64 0)):=BoxC.new w2 _ _ _ _ _
 have F2:Hid (∀ j,(w2.alloc (oQ1 k ra2 rs.length rc2 oa2 os.length oc2 0)).frozen? ⟨w2.heap.size,j,none⟩=false):=fun j=>by simp
 have O2:Hid (qaf (w2.alloc (oQ1 k ra2 rs.length rc2 oa2 os.length oc2 0)) W1.heap.size (stV k ra2 rs.length rc2 oa2 os.length oc2 0) k rs os 0):=o2.below bA
 have L2:Hid (∀ j,qae (stV k ra2 rs.length rc2 oa2 os.length oc2 0) j->W1.heap.size<=j/\j<w2.heap.size):=fun j hj=>o2.lt hj
 have B2:Hid (Below w.heap.size w (w2.alloc (oQ1 k ra2 rs.length rc2 oa2 os.length oc2 0))):=B1.out.trans (q2.mono B1.out.size)
 have zw:w.heap.size+1+1<W1.heap.size:=X1.out.lt
 have zv:w1.heap.size<W1.heap.size:=zJ W1 _ V1.out.1
 have z2:W1.heap.size<=w2.heap.size:=b2.size
 clear b2 o2 bA q2 X1 V1 B1
 obtain ⟨p0,p1,p2,p3,e0,e1,e2,r0,r1,r2,r3,rf⟩:=X2.out
 obtain ⟨u0,u1,u2⟩:=V2.out
 obtain ⟨t0,t1,t2,t3⟩:=Y2.out
 have tf:=F2.out
 go_wp2_with fail
 clear p0 p1 p2 p3 e0 e1 e2 r0 r1 r2 r3 rf u0 u1 u2 t0 t1 t2 t3 tf
 generalize w2.alloc (oQ1 k ra2 rs.length rc2 oa2 os.length oc2 0)=W2 at *
 refine (qcl _ _ _ _ _ _ _ _ _ _ _ _ (by omega) (by omega)).mono ?_
 rintro e w3 ⟨rfl,b3⟩
 have X3:Hid (qa2 w3 w.heap.size (.int .i64 k) (.slice ra rs.length rc) (.slice oa os.length oc) (.int .i64 0) 2 np nv):=X2.out.below b3
 have O3:Hid (qaf w3 W1.heap.size (stV k ra2 rs.length rc2 oa2 os.length oc2 0) k rs os 0):=O2.out.below b3
 have B3:Hid (Below w.heap.size w w3):=B2.out.trans (b3.mono B2.out.size)
 clear b3 X2 V2 Y2 F2 O2 B2
 obtain ⟨-,-,-,-,-,-,-,r0,r1,r2,r3,rf⟩:=X3.out
 go_wp2
 refine bodyPost_ret (v:=.tuple #[stV (goP len k) ra2 rs.length rc2 oa2 os.length oc2 (goC len k 0),.bool true]) (by simp [results,Tryz.results92,go_sem,r0,r1,r2,r3]) rfl ⟨_,rfl,?_,?_⟩
 ·have hd:qac len (g k) k rs os 0 nv=goS len k rs os 0:=by
   unfold qac
   rw [H6.out,if_pos rfl]
  rw [hd]
  exact qaf.put4 (B':=W1.heap.size) ((O3.out.replace _).recode _) zw (by omega)
 ·have:=B3.out
  go_grown
theorem qpk (b off len cap k:Nat) (g:Nat->I5) (ra oa:Option Addr) (rc oc:Nat) (rs os:List Int) (ek eq ev:Int) (w:World) (hl:(len:Int)<=30) (hb:b<w.heap.size) (hI:qaj w b off len g) (h4:rs.length=4) (ho:os.length<=60) (h1:Sl w ra rs) (h2:Sl w oa os) (hk:k<len) (hp:qab g len 4=true) (K np nv:Int) (hK:(K == 3)=false) (HN:Hid (evK (g k).o=K/\evP (g k).o (g k).n=np/\evW (g k).o (g k).a rs=nv)) (hE:qdm ek eq ev K np nv=false):
  Calls Tryz.prog 92 #[.slice (some ⟨b,off,none⟩) len cap,stV k ra rs.length rc oa os.length oc 0,evV ek eq ev] w fun e w'=>∃ v,e=.returned (.tuple #[v,.bool false])/\qaf w' w.heap.size v k rs os 0/\Below w.heap.size w w':=by
 have HI:Hid (qaj w b off len g):=hI
 have H1:Hid (Sl w ra rs):=h1
 have H2:Hid (Sl w oa os):=h2
 have H4:Hid (rs.length=4):=h4
 have HP:Hid (qab g len 4=true):=hp
 have hk':(k:Int)<(len:Int):=by omega
 clear hI h1 h2 h4 hp
 go_enter Tryz.func92,Tryz.ntmps92
 go_wp2_with fail
 refine (qcd _ _ _ _ k g _ _ _ _ _ _ rs _ (by unfold maxLen;omega) (by simp;omega) (HI.out.below (by go_grown) hb) (H1.out.below (by go_grown)) H4.out hk HP.out).mono ?_
 rintro e w1 ⟨he1,b1⟩
 rw [HN.out.1,HN.out.2.1,HN.out.2.2] at he1
 subst he1
 have B1:Hid (Below w.heap.size w (w1.alloc (oQ0 K np nv))):=(qah (by go_grown) b1 (by simp;omega)).alloc (by have:=b1.size;simp at this;omega) _
 have X1:Hid (qa2 (w1.alloc (oQ0 K np nv)) w.heap.size (.int .i64 k) (.slice ra rs.length rc) (.slice oa os.length oc) (.int .i64 0) ek eq ev):=((qa2.new w _ _ _ _ _ _ _ _ _ _).below b1).below (zT w1 _)
 clear b1
 obtain ⟨p0,p1,p2,p3,-,-,-,-,-,-,-,-⟩:=X1.out
 go_wp2_with fail
 clear p0 p1 p2 p3
 have V1:Hid (EvC3 (w1.alloc (oQ0 K np nv)) w1.heap.size K np nv):=EvC3.new w1 _ _ _ _
 generalize w1.alloc (oQ0 K np nv)=W1 at *
 refine (qb2 _ _ _ _ _ _ rs os _ (by have:=H4.out;omega) (by omega) (H1.out.below B1.out) (H2.out.below B1.out)).mono ?_
 rintro e w2 ⟨v2,rfl,o2,b2⟩
 obtain ⟨ra2,rc2,oa2,oc2,rfl,-,-⟩:=o2.read
 have bA:=zT w2 (oQ1 k ra2 rs.length rc2 oa2 os.length oc2 0)
 have q2:Below W1.heap.size W1 (w2.alloc (oQ1 k ra2 rs.length rc2 oa2 os.length oc2 0)):=b2.trans (bA.mono b2.size)
 have X2:Hid (qa2 (w2.alloc (oQ1 k ra2 rs.length rc2 oa2 os.length oc2 0)) w.heap.size (.int .i64 k) (.slice ra rs.length rc) (.slice oa os.length oc) (.int .i64 0) ek eq ev):=X1.out.below q2
 have V2:Hid (EvC3 (w2.alloc (oQ1 k ra2 rs.length rc2 oa2 os.length oc2 0)) w1.heap.size K np nv):=V1.out.below q2
 have Y2:Hid (BoxC (w2.alloc (oQ1 k ra2 rs.length rc2 oa2 os.length oc2 0)) w2.heap.size (.int .i64 k) (.slice ra2 rs.length rc2) (.slice oa2 os.length oc2) (.int .i64 0)):=BoxC.new w2 _ _ _ _ _
 have F2:Hid (∀ j,(w2.alloc (oQ1 k ra2 rs.length rc2 oa2 os.length oc2 0)).frozen? ⟨w2.heap.size,j,none⟩=false):=fun j=>by simp
 have O2:Hid (qaf (w2.alloc (oQ1 k ra2 rs.length rc2 oa2 os.length oc2 0)) W1.heap.size (stV k ra2 rs.length rc2 oa2 os.length oc2 0) k rs os 0):=o2.below bA
 have L2:Hid (∀ j,qae (stV k ra2 rs.length rc2 oa2 os.length oc2 0) j->W1.heap.size<=j/\j<w2.heap.size):=fun j hj=>o2.lt hj
 have B2:Hid (Below w.heap.size w (w2.alloc (oQ1 k ra2 rs.length rc2 oa2 os.length oc2 0))):=B1.out.trans (q2.mono B1.out.size)
 have zw:w.heap.size+1+1<W1.heap.size:=X1.out.lt
 have zv:w1.heap.size<W1.heap.size:=zJ W1 _ V1.out.1
 have z2:W1.heap.size<=w2.heap.size:=b2.size
 clear b2 o2 bA q2 X1 V1 B1
 obtain ⟨p0,p1,p2,p3,e0,e1,e2,r0,r1,r2,r3,rf⟩:=X2.out
 obtain ⟨u0,u1,u2⟩:=V2.out
 obtain ⟨t0,t1,t2,t3⟩:=Y2.out
 have tf:=F2.out
 have hne:∀ wx,(binOp .neq 74 (evV ek eq ev) (evV K np nv)).run Tryz.prog wx=.ok (.bool true) wx:=fun wx=>by rw [qxg,hE];rfl
 clear hE
 go_wp2
 refine bodyPost_ret (v:=.tuple #[stV k ra2 rs.length rc2 oa2 os.length oc2 0,.bool false]) (by simp [results,Tryz.results92,go_sem,r0,r1,r2,r3]) rfl ⟨_,rfl,?_,?_⟩
 ·exact qaf.put4 (B':=W1.heap.size) O2.out zw (by omega)
 ·have:=B2.out
  go_grown
theorem qt5 (b off len cap k:Nat) (g:Nat->I5) (ra oa:Option Addr) (rc oc:Nat) (rs os:List Int) (w:World) (hl:(len:Int)<=30) (hb:b<w.heap.size) (hI:qaj w b off len g) (h4:rs.length=4) (ho:os.length<=60) (h1:Sl w ra rs) (h2:Sl w oa os) (hk:k<len) (hp:qab g len 4=true) (np nv:Int) (HN:Hid (evK (g k).o=4/\evP (g k).o (g k).n=np/\evW (g k).o (g k).a rs=nv)) (H8:Hid ((g k).o=8/\os.length=60)) (h60:((os.length:Int) == 60)=true):
  Calls Tryz.prog 92 #[.slice (some ⟨b,off,none⟩) len cap,stV k ra rs.length rc oa os.length oc 0,evV 4 np nv] w fun e w'=>∃ v,e=.returned (.tuple #[v,.bool true])/\qaf w' w.heap.size v (qac len (g k) k rs os 0 nv).p (qac len (g k) k rs os 0 nv).rs (qac len (g k) k rs os 0 nv).os (qac len (g k) k rs os 0 nv).c/\Below w.heap.size w w':=by
 have HI:Hid (qaj w b off len g):=hI
 have H1:Hid (Sl w ra rs):=h1
 have H2:Hid (Sl w oa os):=h2
 have H4:Hid (rs.length=4):=h4
 have HP:Hid (qab g len 4=true):=hp
 have hk':(k:Int)<(len:Int):=by omega
 clear hI h1 h2 h4 hp
 go_enter Tryz.func92,Tryz.ntmps92
 go_wp2_with fail
 refine (qcd _ _ _ _ k g _ _ _ _ _ _ rs _ (by unfold maxLen;omega) (by simp;omega) (HI.out.below (by go_grown) hb) (H1.out.below (by go_grown)) H4.out hk HP.out).mono ?_
 rintro e w1 ⟨he1,b1⟩
 rw [HN.out.1,HN.out.2.1,HN.out.2.2] at he1
 subst he1
 have B1:Hid (Below w.heap.size w (w1.alloc (oQ0 4 np nv))):=(qah (by go_grown) b1 (by simp;omega)).alloc (by have:=b1.size;simp at this;omega) _
 have X1:Hid (qa2 (w1.alloc (oQ0 4 np nv)) w.heap.size (.int .i64 k) (.slice ra rs.length rc) (.slice oa os.length oc) (.int .i64 0) 4 np nv):=((qa2.new w _ _ _ _ _ _ _ _ _ _).below b1).below (zT w1 _)
 clear b1
 obtain ⟨p0,p1,p2,p3,-,-,-,-,-,-,-,-⟩:=X1.out
 go_wp2_with fail
 clear p0 p1 p2 p3
 have V1:Hid (EvC3 (w1.alloc (oQ0 4 np nv)) w1.heap.size 4 np nv):=EvC3.new w1 _ _ _ _
 generalize w1.alloc (oQ0 4 np nv)=W1 at *
 refine (qb2 _ _ _ _ _ _ rs os _ (by have:=H4.out;omega) (by omega) (H1.out.below B1.out) (H2.out.below B1.out)).mono ?_
 rintro e w2 ⟨v2,rfl,o2,b2⟩
 obtain ⟨ra2,rc2,oa2,oc2,rfl,-,-⟩:=o2.read
 have bA:=zT w2 (oQ1 k ra2 rs.length rc2 oa2 os.length oc2 0)
 have q2:Below W1.heap.size W1 (w2.alloc (oQ1 k ra2 rs.length rc2 oa2 os.length oc2 0)):=b2.trans (bA.mono b2.size)
 have X2:Hid (qa2 (w2.alloc (oQ1 k ra2 rs.length rc2 oa2 os.length oc2 0)) w.heap.size (.int .i64 k) (.slice ra rs.length rc) (.slice oa os.length oc) (.int .i64 0) 4 np nv):=X1.out.below q2
 have V2:Hid (EvC3 (w2.alloc (oQ1 k ra2 rs.length rc2 oa2 os.length oc2 0)) w1.heap.size 4 np nv):=V1.out.below q2
 have Y2:Hid (BoxC (w2.alloc (oQ1 k ra2 rs.length rc2 oa2 os.length oc2 0)) w2.heap.size (.int .i64 k) (.slice ra2 rs.length rc2) (.slice oa2 os.length oc2) (.int .i64 0)):=BoxC.new w2 _ _ _ _ _
 have F2:Hid (∀ j,(w2.alloc (oQ1 k ra2 rs.length rc2 oa2 os.length oc2 0)).frozen? ⟨w2.heap.size,j,none⟩=false):=fun j=>by simp
 have O2:Hid (qaf (w2.alloc (oQ1 k ra2 rs.length rc2 oa2 os.length oc2 0)) W1.heap.size (stV k ra2 rs.length rc2 oa2 os.length oc2 0) k rs os 0):=o2.below bA
 have L2:Hid (∀ j,qae (stV k ra2 rs.length rc2 oa2 os.length oc2 0) j->W1.heap.size<=j/\j<w2.heap.size):=fun j hj=>o2.lt hj
 have B2:Hid (Below w.heap.size w (w2.alloc (oQ1 k ra2 rs.length rc2 oa2 os.length oc2 0))):=B1.out.trans (q2.mono B1.out.size)
 have zw:w.heap.size+1+1<W1.heap.size:=X1.out.lt
 have zv:w1.heap.size<W1.heap.size:=zJ W1 _ V1.out.1
 have z2:W1.heap.size<=w2.heap.size:=b2.size
 clear b2 o2 bA q2 X1 V1 B1
 obtain ⟨p0,p1,p2,p3,e0,e1,e2,r0,r1,r2,r3,rf⟩:=X2.out
 obtain ⟨u0,u1,u2⟩:=V2.out
 obtain ⟨t0,t1,t2,t3⟩:=Y2.out
 have tf:=F2.out
 go_wp2_with fail
 clear p0 p1 p2 p3 e0 e1 e2 r0 r1 r2 r3 rf u0 u1 u2 t0 t1 t2 t3 tf
 generalize w2.alloc (oQ1 k ra2 rs.length rc2 oa2 os.length oc2 0)=W2 at *
 refine (qcu _ _ _ _ _ _ _ _ _).mono ?_
 rintro e w3 ⟨rfl,b3⟩
 have X3:Hid (qa2 w3 w.heap.size (.int .i64 k) (.slice ra rs.length rc) (.slice oa os.length oc) (.int .i64 0) 4 np nv):=X2.out.below b3
 have O3:Hid (qaf w3 W1.heap.size (stV k ra2 rs.length rc2 oa2 os.length oc2 0) k rs os 0):=O2.out.below b3
 have B3:Hid (Below w.heap.size w w3):=B2.out.trans (b3.mono B2.out.size)
 clear b3 X2 V2 Y2 F2 O2 B2
 obtain ⟨-,-,-,-,-,-,-,r0,r1,r2,r3,rf⟩:=X3.out
 go_wp2
 refine bodyPost_ret (v:=.tuple #[stV k ra2 rs.length rc2 oa2 os.length oc2 2,.bool true]) (by simp [results,Tryz.results92,go_sem,r0,r1,r2,r3]) rfl ⟨_,rfl,?_,?_⟩
 ·have hd:qac len (g k) k rs os 0 nv=⟨k,rs,os,2⟩:=by
   unfold qac
   rw [H8.out.1,if_neg (by decide),if_neg (by decide),if_pos rfl,if_pos H8.out.2]
  rw [hd]
  exact qaf.put4 (B':=W1.heap.size) (O3.out.recode 2) zw (by omega)
 ·have:=B3.out
  go_grown
theorem qde (b off len cap k:Nat) (g:Nat->I5) (ra oa:Option Addr) (rc oc:Nat) (rs os:List Int) (ek eq ev:Int) (w:World) (hl:(len:Int)<=30) (hb:b<w.heap.size) (hI:qaj w b off len g) (h4:rs.length=4) (ho:os.length<=60) (h1:Sl w ra rs) (h2:Sl w oa os) (hk:k<len) (hp:qab g len 4=true) (np nv:Int) (HN:Hid (evK (g k).o=3/\evP (g k).o (g k).n=np/\evW (g k).o (g k).a rs=nv)) (HQ:Hid ((ek != 3)=true\/((ek != 3)=false/\inB ev (-1000000000) 1000000000=false)\/((ek != 3)=false/\inB ev (-1000000000) 1000000000=true/\(np != 9)=true/\(eq != np)=true)\/((ek != 3)=false/\inB ev (-1000000000) 1000000000=true/\(np != 9)=false/\inB eq 0 3=false))):
  Calls Tryz.prog 92 #[.slice (some ⟨b,off,none⟩) len cap,stV k ra rs.length rc oa os.length oc 0,evV ek eq ev] w fun e w'=>∃ v,e=.returned (.tuple #[v,.bool false])/\qaf w' w.heap.size v k rs os 0/\Below w.heap.size w w':=by
 have HI:Hid (qaj w b off len g):=hI
 have H1:Hid (Sl w ra rs):=h1
 have H2:Hid (Sl w oa os):=h2
 have H4:Hid (rs.length=4):=h4
 have HP:Hid (qab g len 4=true):=hp
 have hk':(k:Int)<(len:Int):=by omega
 clear hI h1 h2 h4 hp
 go_enter Tryz.func92,Tryz.ntmps92
 go_wp2_with fail
 refine (qcd _ _ _ _ k g _ _ _ _ _ _ rs _ (by unfold maxLen;omega) (by simp;omega) (HI.out.below (by go_grown) hb) (H1.out.below (by go_grown)) H4.out hk HP.out).mono ?_
 rintro e w1 ⟨he1,b1⟩
 rw [HN.out.1,HN.out.2.1,HN.out.2.2] at he1
 subst he1
 have B1:Hid (Below w.heap.size w (w1.alloc (oQ0 3 np nv))):=(qah (by go_grown) b1 (by simp;omega)).alloc (by have:=b1.size;simp at this;omega) _
 have X1:Hid (qa2 (w1.alloc (oQ0 3 np nv)) w.heap.size (.int .i64 k) (.slice ra rs.length rc) (.slice oa os.length oc) (.int .i64 0) ek eq ev):=((qa2.new w _ _ _ _ _ _ _ _ _ _).below b1).below (zT w1 _)
 clear b1
 obtain ⟨p0,p1,p2,p3,-,-,-,-,-,-,-,-⟩:=X1.out
 go_wp2_with fail
 clear p0 p1 p2 p3
 have V1:Hid (EvC3 (w1.alloc (oQ0 3 np nv)) w1.heap.size 3 np nv):=EvC3.new w1 _ _ _ _
 generalize w1.alloc (oQ0 3 np nv)=W1 at *
 refine (qb2 _ _ _ _ _ _ rs os _ (by have:=H4.out;omega) (by omega) (H1.out.below B1.out) (H2.out.below B1.out)).mono ?_
 rintro e w2 ⟨v2,rfl,o2,b2⟩
 obtain ⟨ra2,rc2,oa2,oc2,rfl,-,-⟩:=o2.read
 have bA:=zT w2 (oQ1 k ra2 rs.length rc2 oa2 os.length oc2 0)
 have q2:Below W1.heap.size W1 (w2.alloc (oQ1 k ra2 rs.length rc2 oa2 os.length oc2 0)):=b2.trans (bA.mono b2.size)
 have X2:Hid (qa2 (w2.alloc (oQ1 k ra2 rs.length rc2 oa2 os.length oc2 0)) w.heap.size (.int .i64 k) (.slice ra rs.length rc) (.slice oa os.length oc) (.int .i64 0) ek eq ev):=X1.out.below q2
 have V2:Hid (EvC3 (w2.alloc (oQ1 k ra2 rs.length rc2 oa2 os.length oc2 0)) w1.heap.size 3 np nv):=V1.out.below q2
 have Y2:Hid (BoxC (w2.alloc (oQ1 k ra2 rs.length rc2 oa2 os.length oc2 0)) w2.heap.size (.int .i64 k) (.slice ra2 rs.length rc2) (.slice oa2 os.length oc2) (.int .i64 0)):=BoxC.new w2 _ _ _ _ _
 have F2:Hid (∀ j,(w2.alloc (oQ1 k ra2 rs.length rc2 oa2 os.length oc2 0)).frozen? ⟨w2.heap.size,j,none⟩=false):=fun j=>by simp
 have O2:Hid (qaf (w2.alloc (oQ1 k ra2 rs.length rc2 oa2 os.length oc2 0)) W1.heap.size (stV k ra2 rs.length rc2 oa2 os.length oc2 0) k rs os 0):=o2.below bA
 have L2:Hid (∀ j,qae (stV k ra2 rs.length rc2 oa2 os.length oc2 0) j->W1.heap.size<=j/\j<w2.heap.size):=fun j hj=>o2.lt hj
 have B2:Hid (Below w.heap.size w (w2.alloc (oQ1 k ra2 rs.length rc2 oa2 os.length oc2 0))):=B1.out.trans (q2.mono B1.out.size)
 have zw:w.heap.size+1+1<W1.heap.size:=X1.out.lt
 have zv:w1.heap.size<W1.heap.size:=zJ W1 _ V1.out.1
 have z2:W1.heap.size<=w2.heap.size:=b2.size
 clear b2 o2 bA q2 X1 V1 B1
 obtain ⟨p0,p1,p2,p3,e0,e1,e2,r0,r1,r2,r3,rf⟩:=X2.out
 obtain ⟨u0,u1,u2⟩:=V2.out
 obtain ⟨t0,t1,t2,t3⟩:=Y2.out
 have tf:=F2.out
 rcases HQ.out with q1 | ⟨q1,q2⟩ | ⟨q1,q2,q3,q4⟩ | ⟨q1,q2,q3,q5⟩
 all_goals
  go_wp2_with (first|(go_at_call 151;refine (l1Num_any _ _).mono ?_;rintro e w' ⟨rfl,rfl⟩)|(go_at_call 71;refine (l1In_any _ _ _ _).mono ?_;rintro e w' ⟨rfl,rfl⟩))
  refine bodyPost_ret (v:=.tuple #[stV k ra2 rs.length rc2 oa2 os.length oc2 0,.bool false]) (by simp [results,Tryz.results92,go_sem,r0,r1,r2,r3]) rfl ⟨_,rfl,?_,?_⟩
  ·exact qaf.put4 (B':=W1.heap.size) O2.out zw (by omega)
  ·have:=B2.out
   go_grown
open Go.ChangeShapes Go.WideShapes Go.ChangeAt
theorem Tryz.own:ownKnob Tryz.prog.godebug=none:=by kernel_rfl
theorem Tryz.laidOut:laidOutB Tryz.prog=true:=by kernel_rfl
theorem qo2:Tryz.prog.cellsOf 190=5:=by kernel_rfl
theorem qko:Tryz.prog.cellsOf 126=4:=by kernel_rfl
theorem qb7:Tryz.prog.cellsOf 3=1:=by kernel_rfl
theorem qmt:Tryz.prog.cellsOf 47=1:=by kernel_rfl
theorem qyh {cs:Array Value} (h:cs.size=4):∃ c0 c1 c2 c3,cs=#[c0,c1,c2,c3]:=by
 obtain ⟨l⟩:=cs
 match l,h with
 | [c0,c1,c2,c3],_=>exact ⟨c0,c1,c2,c3,rfl⟩
theorem qlg {H:Type} {enc:TypeId × Value->H} {w:World} {base fuel:Nat} {spare:Nat->Bool} {held:Bool} {c0 c1 c2 c3 c4:Value} {x:DataW H × List MemPlace}
  (hf:DataW.trod enc Tryz.prog w base spare held fuel 190 [c0,c1,c2,c3,c4]=some x):
  ∃ op r a b n:Int,c0=.int .i64 op/\c1=.int .i64 r/\c2=.int .i64 a/\c3=.int .i64 b/\c4=.int .i64 n:=by
 obtain ⟨xs,m,-,-,-,hl,hx⟩:=DataW.trod_struct Tryz.underlying190 hf
 have hl:xs.length=5:=hl
 have q0:DataW.trod enc Tryz.prog w base spare held m 3 [c0]=xs[0]?:=by simpa [qb7] using hx 0 _ rfl
 have q1:DataW.trod enc Tryz.prog w base spare held m 3 [c1]=xs[1]?:=by simpa [qb7] using hx 1 _ rfl
 have q2:DataW.trod enc Tryz.prog w base spare held m 3 [c2]=xs[2]?:=by simpa [qb7] using hx 2 _ rfl
 have q3:DataW.trod enc Tryz.prog w base spare held m 3 [c3]=xs[3]?:=by simpa [qb7] using hx 3 _ rfl
 have q4:DataW.trod enc Tryz.prog w base spare held m 3 [c4]=xs[4]?:=by simpa [qb7] using hx 4 _ rfl
 rw [List.getElem?_eq_getElem (by omega)] at q0 q1 q2 q3 q4
 obtain ⟨z0,e0,-,-⟩:=DataW.trod_int Tryz.underlying3 q0
 obtain ⟨z1,e1,-,-⟩:=DataW.trod_int Tryz.underlying3 q1
 obtain ⟨z2,e2,-,-⟩:=DataW.trod_int Tryz.underlying3 q2
 obtain ⟨z3,e3,-,-⟩:=DataW.trod_int Tryz.underlying3 q3
 obtain ⟨z4,e4,-,-⟩:=DataW.trod_int Tryz.underlying3 q4
 simp only [List.cons.injEq,and_true] at e0 e1 e2 e3 e4
 exact ⟨z0,z1,z2,z3,z4,e0,e1,e2,e3,e4⟩
theorem qb5 (b off j:Nat):Addr.add ⟨b,off,none⟩ j=⟨b,off+j,none⟩:=by
 unfold Addr.add
 by_cases h:j=0
 ·rw [if_pos h,h,Nat.add_zero]
 ·rw [if_neg h]
theorem qgq {w:World} {p:Addr} {v:Value} (h:w.cell? p=some v):p.block<w.heap.size:=zJ w p h
theorem qps {H:Type} {enc:TypeId × Value->H} {w:World} {spare:Nat->Bool} {held:Bool} {base:Nat} {a0:Option Addr} {len cap:Nat} {d:DataW H} {p:List MemPlace}
  (h:DataW.Trod enc Tryz.prog w base spare held 123 (.slice a0 len cap) d p):
  len<=maxLen/\(len=0\/∃ b off g,a0=some ⟨b,off,none⟩/\b<w.heap.size/\qaj w b off len g):=by
 obtain ⟨fuel,hf⟩:=h
 rcases Go.Deep.open_slice Tryz.underlying123 hf with ⟨hcs,_⟩ | ⟨a,len',cap',m,n,D,Pl,hcs,_,hl,hm,hmm,_,hx⟩
 ·simp [Value.cells] at hcs
  obtain ⟨_,rfl,_⟩:=hcs
  exact ⟨Nat.zero_le _,.inl rfl⟩
 ·simp [Value.cells] at hcs
  obtain ⟨rfl,rfl,rfl⟩:=hcs
  refine ⟨zP hl hm,?_⟩
  by_cases h0:len=0
  ·exact .inl h0
  right
  have hle:len<=m:=by rw [hmm];split <;> omega
  rw [qo2] at hx
  obtain ⟨b,off,spot⟩:=a
  have hcell:∀ i,i<len->∃ x:I5,w.cell? (Addr.add (Addr.add ⟨b,off,spot⟩ (i*5)) 0)=some (.int .i64 x.o)/\w.cell? (Addr.add (Addr.add ⟨b,off,spot⟩ (i*5)) 1)=some (.int .i64 x.r)/\w.cell? (Addr.add (Addr.add ⟨b,off,spot⟩ (i*5)) 2)=some (.int .i64 x.a)/\w.cell? (Addr.add (Addr.add ⟨b,off,spot⟩ (i*5)) 3)=some (.int .i64 x.b)/\w.cell? (Addr.add (Addr.add ⟨b,off,spot⟩ (i*5)) 4)=some (.int .i64 x.n):=by
   intro i hi
   obtain ⟨cs',h1,h2⟩:=hx i (by omega)
   obtain ⟨_,hlen,hc⟩:=World.cells?_some h1
   match cs',hlen with
   | [c0,c1,c2,c3,c4],_=>
    obtain ⟨o,r,a,b,n,rfl,rfl,rfl,rfl,rfl⟩:=qlg h2
    exact ⟨⟨o,r,a,b,n⟩,hc 0 (by omega),hc 1 (by omega),hc 2 (by omega),hc 3 (by omega),hc 4 (by omega)⟩
  have hspot:spot=none:=by
   obtain ⟨x,hx0,_⟩:=hcell 0 (by omega)
   simpa [Addr.add] using World.cell?_spot hx0
  subst hspot
  have inh:Inhabited I5:=⟨⟨0,0,0,0,0⟩⟩
  obtain ⟨g,hg⟩:=Go.Deep.choose_lt (α:=I5) hcell
  have hI:qaj w b off len g:=by
   intro i hi
   obtain ⟨q0,q1,q2,q3,q4⟩:=hg i hi
   rw [qb5,qb5] at q0 q1 q2 q3 q4
   exact ⟨q0,q1,q2,q3,q4⟩
  exact ⟨b,off,g,rfl,qgq (hI 0 (by omega)).1,hI⟩
theorem qfl {H:Type} {enc:TypeId × Value->H} {w:World} {held:Bool} {base fuel:Nat} {v:Value} {x:DataW H × List MemPlace}
  (hf:DataW.trod enc Tryz.prog w base (fun _=>true) held fuel 47 [v]=some x):
  ∃ a0 cap xs,v=.slice a0 xs.length cap/\xs.length<=maxLen/\Sl w a0 xs:=by
 rcases open_ints Tryz.underlying47 Tryz.underlying3 qb7 hf with ⟨hcs,_⟩ | ⟨a,l,c,zs,hcs,_,hl,hm,hz,_,hcell,_⟩
 ·simp at hcs
  exact ⟨none,0,[],hcs,Nat.zero_le _,.inl rfl⟩
 ·simp at hcs
  have hz':zs.length=c:=by simpa using hz
  have hlen:(zs.take l).length=l:=by simp;omega
  refine ⟨some a,c,zs.take l,by rw [hlen];exact hcs,by rw [hlen];exact zP hl hm,?_⟩
  by_cases h0:l=0
  ·exact .inl (by simp [h0])
  obtain ⟨b,off,rfl,hc⟩:=ints_at hcell (by omega)
  refine .inr ⟨b,off,rfl,qgq (hc 0 (by omega)),fun i hi=>?_⟩
  rw [hlen] at hi
  rw [hc i (by omega)]
  unfold zi
  rw [List.getD_eq_getElem?_getD,List.getD_eq_getElem?_getD,List.getElem?_take,if_pos hi]
