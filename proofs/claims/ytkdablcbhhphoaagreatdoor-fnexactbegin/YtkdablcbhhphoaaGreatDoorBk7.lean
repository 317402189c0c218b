import Derived.Test.YtkdablcbhhphoaaGreatDoorBk6
import Derived.Deep.OwnRows
import Derived.ProofKit
import Derived.OpenShut
import Derived.ShutString
import Derived.ChangeOld
namespace Go.Proofs.YtkdablcbhhphoaaGreatDoor
set_option maxRecDepth 100000
set_option maxHeartbeats 4000000
open Go.RowKit Go.Deep
theorem qx6:(Tryz.prog.info? 184).map (fun i=>(i.zero,i.size,i.bytes))=some (some (insV 0 0 0 0 0),5,40):=by kernel_rfl
theorem qhb (n:Nat) (hn:n<=1048576) (w:World):
  (Instr.makeSlice 144 (.int .i64 (n:Int)) (.int .i64 (n:Int))).run Tryz.prog w=.ok (.slice (some ⟨w.heap.size,0,none⟩) n n) (w.alloc (.cells (madeCells (insV 0 0 0 0 0).cells (n*5)) 184)):=by
 have hinfo:=qx6;cases hi:Tryz.prog.info? 184 with
 | none=>rw [hi] at hinfo;cases hinfo
 | some i=>
  rw [hi] at hinfo;simp only [Option.map_some,Option.some.injEq,Prod.mk.injEq] at hinfo;obtain ⟨hz,hs,hb⟩:=hinfo;have h:=run_make (P:=Tryz.prog) w 144 184 i _ Tryz.underlying144 hi hz .i64 .i64 (n:Int) (n:Int) (by omega) (Int.le_refl _) (by rw [hb];omega) (by omega);rw [hs] at h;simpa using h
theorem qp9 (w:World) (n:Nat):(w.alloc (.cells (madeCells (insV 0 0 0 0 0).cells (n*5)) 184)).rowIs w.heap.size 184 (n*5) (fun _=>.int .i64 0):=by
 refine ⟨_,blk_alloc_new _ _,size_madeCells _ _,fun i hi=>?_⟩;have h5:i % 5<5:=Nat.mod_lt _ (by omega)
 have:∀ j,j<5->(#[Value.int .i64 0,.int .i64 0,.int .i64 0,.int .i64 0,.int .i64 0]:Array Value)[j]! = .int .i64 0:=by
  intro j hj
  match j,hj with
  | 0,_=>rfl
  | 1,_=>rfl
  | 2,_=>rfl
  | 3,_=>rfl
  | 4,_=>rfl
 simp only [madeCells,Value.cells];rw [Array.getElem?_map,Array.getElem?_range,if_pos hi];exact congrArg some (this (i % 5) h5)
def qh3 (f:Nat->Value) (g:Nat->I5) (k:Nat):Prop:=∀ i,i<k->
 f (i*5)=.int .i64 (g i).o/\f (i*5+1)=.int .i64 (g i).r/\f (i*5+2)=.int .i64 (g i).a/\f (i*5+3)=.int .i64 (g i).b/\f (i*5+4)=.int .i64 (g i).n
theorem qh3.at {w:World} {b:Nat} {t:TypeId} {len k:Nat} {f:Nat->Value} {g:Nat->I5} (h:qh3 f g k) (hr:w.rowIs b t (len*5) f) (hk:k<=len):qan w b 0 k g:=by
 intro i hi;obtain ⟨h0,h1,h2,h3,h4⟩:=h i hi;refine ⟨?_,?_,?_,?_,?_⟩
 ·rw [hr.cell (by omega),Nat.zero_add,h0]
 ·rw [hr.cell (by omega),Nat.zero_add,h1]
 ·rw [hr.cell (by omega),Nat.zero_add,h2]
 ·rw [hr.cell (by omega),Nat.zero_add,h3]
 ·rw [hr.cell (by omega),Nat.zero_add,h4]
theorem qh3.step {w:World} {b:Nat} {t:TypeId} {len k:Nat} {f:Nat->Value} {g:Nat->I5} (hr:w.rowIs b t (len*5) f) (h:qh3 f g k):
  ∃ f',(((((w.setCell ⟨b,k*5,none⟩ (.int .i64 (g k).o)).setCell ⟨b,k*5+1,none⟩ (.int .i64 (g k).r)).setCell ⟨b,k*5+2,none⟩ (.int .i64 (g k).a)).setCell ⟨b,k*5+3,none⟩ (.int .i64 (g k).b)).setCell ⟨b,k*5+4,none⟩ (.int .i64 (g k).n)).rowIs b t (len*5) f'/\qh3 f' g (k+1):=by
 refine ⟨_,((((hr.set _ _).set _ _).set _ _).set _ _).set _ _,fun i hi=>?_⟩;by_cases hik:i=k
 ·subst hik
  simp
 ·have hlt:i<k:=by omega
  obtain ⟨h0,h1,h2,h3,h4⟩:=h i hlt;refine ⟨?_,?_,?_,?_,?_⟩
  ·rw [if_neg (by omega),if_neg (by omega),if_neg (by omega),if_neg (by omega),if_neg (by omega)];exact h0
  ·rw [if_neg (by omega),if_neg (by omega),if_neg (by omega),if_neg (by omega),if_neg (by omega)];exact h1
  ·rw [if_neg (by omega),if_neg (by omega),if_neg (by omega),if_neg (by omega),if_neg (by omega)];exact h2
  ·rw [if_neg (by omega),if_neg (by omega),if_neg (by omega),if_neg (by omega),if_neg (by omega)];exact h3
  ·rw [if_neg (by omega),if_neg (by omega),if_neg (by omega),if_neg (by omega),if_neg (by omega)];exact h4
theorem qsr (op r a b n:Int) (w:World):
  Calls Tryz.prog 205 #[insV op r a b n,insV op r a b n] w fun e w'=>e=.returned (.bool true)/\Below w.heap.size w w':=by
 go_enter Tryz.func205,Tryz.ntmps205
 go_wp2;go_ret;exact ⟨rfl,by go_grown⟩
theorem qig (b1 b2 len c1 c2:Nat) (g:Nat->I5) (w:World) (hlen:len<=1048576) (hb1:b1<w.heap.size) (hb2:b2<w.heap.size) (hc1:qan w b1 0 len g) (hc2:qan w b2 0 len g):
  Calls Tryz.prog 147 #[.slice (some ⟨b1,0,none⟩) len c1,.slice (some ⟨b2,0,none⟩) len c2] w fun e w'=>e=.returned (.bool true)/\Below w.heap.size w w':=by
 have hl':(len:Int)<=1048576:=by omega
 have HC1:Hid (qan w b1 0 len g):=hc1;have HC2:Hid (qan w b2 0 len g):=hc2;clear hc1 hc2
 go_enter Tryz.func147,Tryz.ntmps147
 go_wp2_with fail
 go_loopw [5] (fun i wr=>∃ k:Nat,k<=len/\i=.int .i64 k/\Below w.heap.size w wr) (fun i _=>len - (intOf i).toNat)
 case atStart=>exact ⟨0,Nat.zero_le _,rfl,Below.refl _ _⟩
 case round=>
  obtain ⟨k,hk,rfl,hbw⟩:=hrel;have hs:=hbw.size;by_cases hlt:k<len
  ·obtain ⟨c0,c1,c2,c3,c4⟩:=HC1.out.below hbw hb1 k hlt
   obtain ⟨d0,d1,d2,d3,d4⟩:=HC2.out.below hbw hb2 k hlt;have hlt':(k:Int)<(len:Int):=by omega
   rw [Nat.zero_add] at c0 c1 c2 c3 c4 d0 d1 d2 d3 d4;go_wp2_with fail
   first|(go_region_with (go_at_call 205;refine (qsr _ _ _ _ _ _).mono ?_;rintro e w1 ⟨rfl,hq1⟩)) | fail
   all_goals
    go_wp2;go_roundw
    case rel=>exact ⟨k+1,by omega,by go_num,hbw.drew.trans (hq1.mono hs)⟩
    case measure=>simp [intOf];omega
  ·go_wp2
   go_ret;exact ⟨rfl,hbw⟩
theorem quq (p:Int) (n:Nat):inB p 0 ((n:Int) - 1)=belB p n:=by
 rw [Bool.eq_iff_iff];simp [inB,belB];omega
theorem qct (b off len cap k:Nat) (g:Nat->I5) (p:Int) (code:Int) (ra oa:Option Addr) (rc on oc:Nat) (rs:List Int) (w:World) (_hl:(len:Int)<=9223372036854775807) (hb:b<w.heap.size) (hI:qan w b off len g) (_h1:Sl w ra rs) (_h4:(rs.length:Int)=4) (hk:k<len) (hp:p=k) (_a0:0<=(g k).a) (_a3:(g k).a<=3) (ho:(g k).o=1\/(g k).o=2\/(g k).o=3\/(g k).o=4\/(g k).o=5\/(g k).o=7\/(g k).o=9\/(g k).o=10\/(g k).o=11):
  Calls Tryz.prog 104 #[.slice (some ⟨b,off,none⟩) len cap,stV p ra rs.length rc oa on oc code] w fun e w'=>e=.returned (evV (evK (g k).o) (evP (g k).o (g k).n) (evW (g k).o (g k).a rs))/\Below w.heap.size w w':=by
 subst hp;have hk':(k:Int)<(len:Int):=by omega
 obtain ⟨c0,c1,c2,c3,c4⟩:=hI k hk
 rcases ho with ho | ho | ho | ho | ho | ho | ho | ho | ho
 all_goals
  rw [ho] at c0 ⊢;clear hI _h1 _a0 _a3 ho _h4
  go_enter Tryz.func104,Tryz.ntmps104
  go_wp2
  first
   | exact bodyPost_ret (v:=evV 1 0 0) (by simp [results,Tryz.results104,go_sem]) rfl ⟨rfl,by go_grown⟩
   | exact bodyPost_ret (v:=evV 3 (g k).n 0) (by simp [results,Tryz.results104,go_sem]) rfl ⟨rfl,by go_grown⟩
theorem qwn (b off len cap k:Nat) (g:Nat->I5) (p:Int) (code:Int) (ra oa:Option Addr) (rc on oc:Nat) (rs:List Int) (w:World) (_hl:(len:Int)<=9223372036854775807) (hb:b<w.heap.size) (hI:qan w b off len g) (h1:Sl w ra rs) (h4:(rs.length:Int)=4) (hk:k<len) (hp:p=k) (a0:0<=(g k).a) (a3:(g k).a<=3) (ho:(g k).o=6):
  Calls Tryz.prog 104 #[.slice (some ⟨b,off,none⟩) len cap,stV p ra rs.length rc oa on oc code] w fun e w'=>e=.returned (evV (evK 6) (evP 6 (g k).n) (evW 6 (g k).a rs))/\Below w.heap.size w w':=by
 subst hp;have hk':(k:Int)<(len:Int):=by omega
 obtain ⟨c0,c1,c2,c3,c4⟩:=hI k hk;rw [ho] at c0;obtain ⟨j,hj⟩:=Int.eq_ofNat_of_zero_le a0;rw [hj] at c2;have hj4:j<rs.length:=by omega
 have hj4':(j:Int)<(rs.length:Int):=by omega
 obtain ⟨b',off',rfl,hb',cr⟩:=h1.at hj4;have hb1:b'<w.heap.size+1:=by omega
 have hb2:b'<w.heap.size+1+1:=by omega
 have HJ:Hid ((g k).a.toNat=j):=by show (g k).a.toNat=j;omega
 clear hI h1 a0 a3 ho hj h4
 go_enter Tryz.func104,Tryz.ntmps104
 go_wp2_with fail
 go_region
 all_goals
  go_wp2;refine bodyPost_ret (v:=evV 2 (g k).n (zi rs j)) (by simp [results,Tryz.results104,go_sem]) rfl ⟨qxq (by simp [evK,evP,evW,HJ.out]),?_⟩
  go_grown
theorem qwo (b off len cap k:Nat) (g:Nat->I5) (p:Int) (code:Int) (ra oa:Option Addr) (rc on oc:Nat) (rs:List Int) (w:World) (_hl:(len:Int)<=9223372036854775807) (hb:b<w.heap.size) (hI:qan w b off len g) (h1:Sl w ra rs) (h4:(rs.length:Int)=4) (hk:k<len) (hp:p=k) (a0:0<=(g k).a) (a3:(g k).a<=3) (ho:(g k).o=8):
  Calls Tryz.prog 104 #[.slice (some ⟨b,off,none⟩) len cap,stV p ra rs.length rc oa on oc code] w fun e w'=>e=.returned (evV (evK 8) (evP 8 (g k).n) (evW 8 (g k).a rs))/\Below w.heap.size w w':=by
 subst hp;have hk':(k:Int)<(len:Int):=by omega
 obtain ⟨c0,c1,c2,c3,c4⟩:=hI k hk;rw [ho] at c0;obtain ⟨j,hj⟩:=Int.eq_ofNat_of_zero_le a0;rw [hj] at c2;have hj4:j<rs.length:=by omega
 have hj4':(j:Int)<(rs.length:Int):=by omega
 obtain ⟨b',off',rfl,hb',cr⟩:=h1.at hj4;have hb1:b'<w.heap.size+1:=by omega
 have hb2:b'<w.heap.size+1+1:=by omega
 have HJ:Hid ((g k).a.toNat=j):=by show (g k).a.toNat=j;omega
 clear hI h1 a0 a3 ho hj h4
 go_enter Tryz.func104,Tryz.ntmps104
 go_wp2;refine bodyPost_ret (v:=evV 4 0 (zi rs j)) (by simp [results,Tryz.results104,go_sem]) rfl ⟨qxq (by simp [evK,evP,evW,HJ.out]),?_⟩
 go_grown
theorem qb7 (b off len cap k:Nat) (g:Nat->I5) (code:Int) (ra oa:Option Addr) (rc on oc:Nat) (rs:List Int) (w:World) (hlen:len<=maxLen) (hb:b<w.heap.size) (hI:qan w b off len g) (h1:Sl w ra rs) (h4:rs.length=4) (hk:k<len) (h2:qac g len 4=true):
  Calls Tryz.prog 104 #[.slice (some ⟨b,off,none⟩) len cap,stV k ra rs.length rc oa on oc code] w fun e w'=>e=.returned (evV (evK (g k).o) (evP (g k).o (g k).n) (evW (g k).o (g k).a rs))/\Below w.heap.size w w':=by
 obtain ⟨⟨o1,o11⟩,-,⟨a0,a3⟩,-⟩:=qcb (qbt h2 hk);have hl:(len:Int)<=9223372036854775807:=by unfold maxLen at hlen;omega
 have h4':(rs.length:Int)=4:=by omega
 rcases qe3 (g k).o with ho | ho | ho | ho | ho | ho | ho | ho | ho | ho | ho | ho
 ·omega
 ·exact qct b off len cap k g k code ra oa rc on oc rs w hl hb hI h1 h4' hk rfl a0 a3 (by omega)
 ·exact qct b off len cap k g k code ra oa rc on oc rs w hl hb hI h1 h4' hk rfl a0 a3 (by omega)
 ·exact qct b off len cap k g k code ra oa rc on oc rs w hl hb hI h1 h4' hk rfl a0 a3 (by omega)
 ·exact qct b off len cap k g k code ra oa rc on oc rs w hl hb hI h1 h4' hk rfl a0 a3 (by omega)
 ·exact qct b off len cap k g k code ra oa rc on oc rs w hl hb hI h1 h4' hk rfl a0 a3 (by omega)
 ·rw [ho];exact qwn b off len cap k g k code ra oa rc on oc rs w hl hb hI h1 h4' hk rfl a0 a3 ho
 ·exact qct b off len cap k g k code ra oa rc on oc rs w hl hb hI h1 h4' hk rfl a0 a3 (by omega)
 ·rw [ho];exact qwo b off len cap k g k code ra oa rc on oc rs w hl hb hI h1 h4' hk rfl a0 a3 ho
 ·exact qct b off len cap k g k code ra oa rc on oc rs w hl hb hI h1 h4' hk rfl a0 a3 (by omega)
 ·exact qct b off len cap k g k code ra oa rc on oc rs w hl hb hI h1 h4' hk rfl a0 a3 (by omega)
 ·exact qct b off len cap k g k code ra oa rc on oc rs w hl hb hI h1 h4' hk rfl a0 a3 (by omega)
theorem zV (w:World) (cs:Array Value) (t:TypeId) (j:Nat) {N:Nat} (h:N=w.heap.size):(w.alloc (.cells cs t)).cell? ⟨N,j,none⟩=cs[j]?:=by
 subst h;simp
theorem yA (w:World) (cs:Array Value) (t:TypeId) (j:Nat) {N:Nat} (h:N=w.heap.size):(w.alloc (.cells cs t)).frozen? ⟨N,j,none⟩=false:=by
 subst h;simp
theorem qag.put4 {w:World} {B B' N:Nat} {v:Value} {p code:Int} {rs os:List Int} {a b c d:Value} (h:qag w B' v p rs os code) (hN:N<B') (hB:B<=B'):qag ((((w.setCell ⟨N,0,none⟩ a).setCell ⟨N,1,none⟩ b).setCell ⟨N,2,none⟩ c).setCell ⟨N,3,none⟩ d) B v p rs os code:=by
 obtain ⟨vr,vo,e,o1,o2,ha⟩:=h;exact ⟨vr,vo,e,((((o1.setBelow hN _).setBelow hN _).setBelow hN _).setBelow hN _).mono hB,((((o2.setBelow hN _).setBelow hN _).setBelow hN _).setBelow hN _).mono hB,ha⟩
structure qay (w:World) (N:Nat) (p vr vo code:Value) (ek eq ev:Int):Prop where
 p0:w.cell? ⟨N,0,none⟩=some p
 p1:w.cell? ⟨N,1,none⟩=some vr
 p2:w.cell? ⟨N,2,none⟩=some vo
 p3:w.cell? ⟨N,3,none⟩=some code
 e0:w.cell? ⟨N+1,0,none⟩=some (.int .i64 ek)
 e1:w.cell? ⟨N+1,1,none⟩=some (.int .i64 eq)
 e2:w.cell? ⟨N+1,2,none⟩=some (.int .i64 ev)
 r0:w.cell? ⟨N+1+1,0,none⟩=some (.int .i64 0)
 r1:w.cell? ⟨N+1+1,1,none⟩=some (.slice none 0 0)
 r2:w.cell? ⟨N+1+1,2,none⟩=some (.slice none 0 0)
 r3:w.cell? ⟨N+1+1,3,none⟩=some (.int .i64 0)
 rf:∀ j,w.frozen? ⟨N+1+1,j,none⟩=false
theorem qay.lt {w:World} {N:Nat} {p vr vo code:Value} {ek eq ev:Int} (h:qay w N p vr vo code ek eq ev):N+1+1<w.heap.size:=zJ w _ h.r0
theorem qay.kept {w w':World} {N:Nat} {p vr vo code:Value} {ek eq ev:Int} (h:qay w N p vr vo code ek eq ev) (hb:∀ k,N<=k->k<=N+1+1->w'.heap[k]? = w.heap[k]?):qay w' N p vr vo code ek eq ev:=
 ⟨(World.cell?_of_block (hb N (by omega) (by omega))).trans h.p0, (World.cell?_of_block (hb N (by omega) (by omega))).trans h.p1, (World.cell?_of_block (hb N (by omega) (by omega))).trans h.p2, (World.cell?_of_block (hb N (by omega) (by omega))).trans h.p3,
  (zH (hb (N+1) (by omega) (by omega))).trans h.e0,(zH (hb (N+1) (by omega) (by omega))).trans h.e1,(zH (hb (N+1) (by omega) (by omega))).trans h.e2,
  (zH (hb (N+1+1) (by omega) (by omega))).trans h.r0,(zH (hb (N+1+1) (by omega) (by omega))).trans h.r1,(zH (hb (N+1+1) (by omega) (by omega))).trans h.r2,(zH (hb (N+1+1) (by omega) (by omega))).trans h.r3,
  fun j=>(zI (hb (N+1+1) (by omega) (by omega))).trans (h.rf j)⟩
theorem qay.below {w w':World} {N:Nat} {p vr vo code:Value} {ek eq ev:Int} (h:qay w N p vr vo code ek eq ev) (hb:Below w.heap.size w w'):qay w' N p vr vo code ek eq ev:=
 h.kept fun k _ hk=>hb.block k (by have:=h.lt;omega)
theorem qay.new (w:World) (p vr vo code:Value) (ek eq ev:Int) (t u v:TypeId):qay (((w.alloc (.cells #[p,vr,vo,code] t)).alloc (.cells #[.int .i64 ek,.int .i64 eq,.int .i64 ev] u)).alloc (.cells #[.int .i64 0,.slice none 0 0,.slice none 0 0,.int .i64 0] v)) w.heap.size p vr vo code ek eq ev:=by
 refine ⟨?_,?_,?_,?_,?_,?_,?_,?_,?_,?_,?_,?_⟩
 ·rw [zQ _ _ (by simp;omega),zQ _ _ (by simp)];exact zV w _ _ 0 rfl
 ·rw [zQ _ _ (by simp;omega),zQ _ _ (by simp)];exact zV w _ _ 1 rfl
 ·rw [zQ _ _ (by simp;omega),zQ _ _ (by simp)];exact zV w _ _ 2 rfl
 ·rw [zQ _ _ (by simp;omega),zQ _ _ (by simp)];exact zV w _ _ 3 rfl
 ·rw [zQ _ _ (by simp)];exact zV _ _ _ 0 (by simp)
 ·rw [zQ _ _ (by simp)];exact zV _ _ _ 1 (by simp)
 ·rw [zQ _ _ (by simp)];exact zV _ _ _ 2 (by simp)
 ·exact zV _ _ _ 0 (by simp)
 ·exact zV _ _ _ 1 (by simp)
 ·exact zV _ _ _ 2 (by simp)
 ·exact zV _ _ _ 3 (by simp)
 ·exact fun j=>yA _ _ _ j (by simp)
def EvC3 (w:World) (N:Nat) (k p v:Int):Prop:=w.cell? ⟨N,0,none⟩=some (.int .i64 k)/\w.cell? ⟨N,1,none⟩=some (.int .i64 p)/\w.cell? ⟨N,2,none⟩=some (.int .i64 v)
theorem EvC3.below {w w':World} {N:Nat} {k p v:Int} (h:EvC3 w N k p v) (hb:Below w.heap.size w w'):EvC3 w' N k p v:=by
 obtain ⟨h0,h1,h2⟩:=h;have hN:N<w.heap.size:=zJ w _ h0;exact ⟨(hb.cell (p:=⟨N,0,none⟩) hN).trans h0,(hb.cell (p:=⟨N,1,none⟩) hN).trans h1,(hb.cell (p:=⟨N,2,none⟩) hN).trans h2⟩
theorem EvC3.new (w:World) (k p v:Int) (t:TypeId):EvC3 (w.alloc (.cells #[.int .i64 k,.int .i64 p,.int .i64 v] t)) w.heap.size k p v:=by
 unfold EvC3;simp
theorem qag.recode {w:World} {B:Nat} {p code:Int} {ra oa:Option Addr} {rn rc on oc:Nat} {rs os:List Int} (h:qag w B (stV p ra rn rc oa on oc code) p rs os code) (c:Int):qag w B (stV p ra rn rc oa on oc c) p rs os c:=by
 obtain ⟨vr,vo,e,o1,o2,ha⟩:=h;simp only [stV,Value.agg.injEq,Array.mk.injEq,List.cons.injEq,and_true,true_and] at e;obtain ⟨rfl,rfl⟩:=e;exact ⟨_,_,rfl,o1,o2,ha⟩
theorem qag.replace {w:World} {B:Nat} {p code:Int} {ra oa:Option Addr} {rn rc on oc:Nat} {rs os:List Int} (h:qag w B (stV p ra rn rc oa on oc code) p rs os code) (q:Int):qag w B (stV q ra rn rc oa on oc code) q rs os code:=by
 obtain ⟨vr,vo,e,o1,o2,ha⟩:=h;simp only [stV,Value.agg.injEq,Array.mk.injEq,List.cons.injEq,and_true,true_and] at e;obtain ⟨rfl,rfl⟩:=e;exact ⟨_,_,rfl,o1,o2,ha⟩
theorem qay.marked {w w':World} {N:Nat} {p vr vo code v:Value} {ek eq ev:Int} (h:qay w N p vr vo code ek eq ev) (m:qa6 v w w') (hv:∀ k,qae v k->N+1+1<k):qay w' N p vr vo code ek eq ev:=
 h.kept fun k _ hk=>m.block k (by have:=h.lt;omega) (fun hh=>by have:=hv k hh;omega)
def qel (a b c a' b' c':Int):Bool:=a == a' && (b == b' && c == c')
theorem qyv (a b c a' b' c':Int) (w:World):(binOp .eql 86 (evV a b c) (evV a' b' c')).run Tryz.prog w=.ok (.bool (qel a b c a' b' c')) w:=by
 rw [run_eql_struct,show (10000:Nat)=9998+1+1 from rfl,run_equalIn_agg w (9998+1) 86 _ _ (by kernel_rfl) (by kernel_rfl)];simp only [qel];by_cases h1:a=a' <;> by_cases h2:b=b' <;> by_cases h3:c=c' <;> simp [go_sem,h1,h2,h3]
theorem qy2 (a b c a' b' c':Int) (w:World):(binOp .neq 86 (evV a b c) (evV a' b' c')).run Tryz.prog w=.ok (.bool (!qel a b c a' b' c')) w:=by
 rw [run_neq_struct,show (10000:Nat)=9998+1+1 from rfl,run_equalIn_agg w (9998+1) 86 _ _ (by kernel_rfl) (by kernel_rfl)];simp only [qel];by_cases h1:a=a' <;> by_cases h2:b=b' <;> by_cases h3:c=c' <;> simp [go_sem,h1,h2,h3]
theorem qu0 (b off len cap k:Nat) (g:Nat->I5) (ra oa:Option Addr) (rc oc:Nat) (rs os:List Int) (w:World) (hl:(len:Int)<=30) (hb:b<w.heap.size) (hI:qan w b off len g) (h4:rs.length=4) (ho:os.length<=60) (h1:Sl w ra rs) (h2:Sl w oa os) (hk:k<len) (hp:qac g len 4=true) (np nv:Int) (HN:Hid (evK (g k).o=2/\evP (g k).o (g k).n=np/\evW (g k).o (g k).a rs=nv)) (H6:Hid ((g k).o=6)):
  Calls Tryz.prog 105 #[.slice (some ⟨b,off,none⟩) len cap,stV k ra rs.length rc oa os.length oc 0,evV 2 np nv] w fun e w'=>∃ v,e=.returned (.tuple #[v,.bool true])/\qag w' w.heap.size v (qah len (g k) k rs os 0 nv).p (qah len (g k) k rs os 0 nv).rs (qah len (g k) k rs os 0 nv).os (qah len (g k) k rs os 0 nv).c/\Below w.heap.size w w':=by
 have HI:Hid (qan w b off len g):=hI;have H1:Hid (Sl w ra rs):=h1;have H2:Hid (Sl w oa os):=h2;have H4:Hid (rs.length=4):=h4;have HP:Hid (qac g len 4=true):=hp;have hk':(k:Int)<(len:Int):=by omega
 clear hI h1 h2 h4 hp
 go_enter Tryz.func105,Tryz.ntmps105
 go_wp2_with fail
 refine (qb7 _ _ _ _ k g _ _ _ _ _ _ rs _ (by unfold maxLen;omega) (by simp;omega) (HI.out.below (by go_grown) hb) (H1.out.below (by go_grown)) H4.out hk HP.out).mono ?_;rintro e w1 ⟨he1,b1⟩;rw [HN.1,HN.2.1,HN.2.2] at he1;subst he1;have B1:Hid (Below w.heap.size w (w1.alloc (oQ0 2 np nv))):=(qai (by go_grown) b1 (by simp;omega)).alloc (by have:=b1.size;simp at this;omega) _;have X1:Hid (qay (w1.alloc (oQ0 2 np nv)) w.heap.size (.int .i64 k) (.slice ra rs.length rc) (.slice oa os.length oc) (.int .i64 0) 2 np nv):=((qay.new w _ _ _ _ _ _ _ _ _ _).below b1).below (zS w1 _);clear b1;obtain ⟨p0,p1,p2,p3,-,-,-,-,-,-,-,-⟩:=X1.out;go_wp2_with fail
 clear p0 p1 p2 p3;have V1:Hid (EvC3 (w1.alloc (oQ0 2 np nv)) w1.heap.size 2 np nv):=EvC3.new w1 _ _ _ _;generalize w1.alloc (oQ0 2 np nv)=W1 at *;refine (qbw _ _ _ _ _ _ rs os _ (by have:=H4.out;omega) (by omega) (H1.out.below B1.out) (H2.out.below B1.out)).mono ?_;rintro e w2 ⟨v2,rfl,o2,b2⟩;obtain ⟨ra2,rc2,oa2,oc2,rfl,-,-⟩:=o2.read;have bA:=zS w2 (oQ1 k ra2 rs.length rc2 oa2 os.length oc2 0);have q2:Below W1.heap.size W1 (w2.alloc (oQ1 k ra2 rs.length rc2 oa2 os.length oc2 0)):=b2.trans (bA.mono b2.size);have X2:Hid (qay (w2.alloc (oQ1 k ra2 rs.length rc2 oa2 os.length oc2 0)) w.heap.size (.int .i64 k) (.slice ra rs.length rc) (.slice oa os.length oc) (.int .i64 0) 2 np nv):=X1.out.below q2;have V2:Hid (EvC3 (w2.alloc (oQ1 k ra2 rs.length rc2 oa2 os.length oc2 0)) w1.heap.size 2 np nv):=V1.out.below q2;have Y2:Hid (BoxC (w2.alloc (oQ1 k ra2 rs.length rc2 oa2 os.length oc2 0)) w2.heap.size (.int .i64 k) (.slice ra2 rs.length rc2) (.slice oa2 os.length oc2) (.int .i64 0)):=BoxC.new w2 _ _ _ _ _;have F2:Hid (∀ j,(w2.alloc (oQ1 k ra2 rs.length rc2 oa2 os.length oc2 0)).frozen? ⟨w2.heap.size,j,none⟩=false):=fun j=>by simp
 have O2:Hid (qag (w2.alloc (oQ1 k ra2 rs.length rc2 oa2 os.length oc2 0)) W1.heap.size (stV k ra2 rs.length rc2 oa2 os.length oc2 0) k rs os 0):=o2.below bA;have L2:Hid (∀ j,qae (stV k ra2 rs.length rc2 oa2 os.length oc2 0) j->W1.heap.size<=j/\j<w2.heap.size):=fun j hj=>o2.lt hj;have B2:Hid (Below w.heap.size w (w2.alloc (oQ1 k ra2 rs.length rc2 oa2 os.length oc2 0))):=B1.out.trans (q2.mono B1.out.size);have zw:w.heap.size+1+1<W1.heap.size:=X1.out.lt;have zv:w1.heap.size<W1.heap.size:=zJ W1 _ V1.1;have z2:W1.heap.size<=w2.heap.size:=b2.size;clear b2 o2 bA q2 X1 V1 B1;obtain ⟨p0,p1,p2,p3,e0,e1,e2,r0,r1,r2,r3,rf⟩:=X2.out;obtain ⟨u0,u1,u2⟩:=V2.out;obtain ⟨t0,t1,t2,t3⟩:=Y2.out;have tf:=F2.out;go_wp2_with fail
 clear p0 p1 p2 p3 e0 e1 e2 r0 r1 r2 r3 rf u0 u1 u2 t0 t1 t2 t3 tf;generalize w2.alloc (oQ1 k ra2 rs.length rc2 oa2 os.length oc2 0)=W2 at *;refine (qeg _ _ _ _ _ _ _ _ _ _ _ _ (by omega) (by omega)).mono ?_;rintro e w3 ⟨rfl,b3⟩;have X3:Hid (qay w3 w.heap.size (.int .i64 k) (.slice ra rs.length rc) (.slice oa os.length oc) (.int .i64 0) 2 np nv):=X2.out.below b3;have O3:Hid (qag w3 W1.heap.size (stV k ra2 rs.length rc2 oa2 os.length oc2 0) k rs os 0):=O2.out.below b3;have B3:Hid (Below w.heap.size w w3):=B2.out.trans (b3.mono B2.out.size);clear b3 X2 V2 Y2 F2 O2 B2;obtain ⟨-,-,-,-,-,-,-,r0,r1,r2,r3,rf⟩:=X3.out;go_wp2;refine bodyPost_ret (v:=.tuple #[stV (goP len k) ra2 rs.length rc2 oa2 os.length oc2 (goC len k 0),.bool true]) (by simp [results,Tryz.results105,go_sem,r0,r1,r2,r3]) rfl ⟨_,rfl,?_,?_⟩
 ·have hd:qah len (g k) k rs os 0 nv=goS len k rs os 0:=by
   unfold qah;rw [H6.out,if_pos rfl]
  rw [hd];exact qag.put4 (B':=W1.heap.size) ((O3.out.replace _).recode _) zw (by omega)
 ·have:=B3.out
  go_grown
theorem qp6 (b off len cap k:Nat) (g:Nat->I5) (ra oa:Option Addr) (rc oc:Nat) (rs os:List Int) (ek eq ev:Int) (w:World) (hl:(len:Int)<=30) (hb:b<w.heap.size) (hI:qan w b off len g) (h4:rs.length=4) (ho:os.length<=60) (h1:Sl w ra rs) (h2:Sl w oa os) (hk:k<len) (hp:qac g len 4=true) (K np nv:Int) (hK:(K == 3)=false) (HN:Hid (evK (g k).o=K/\evP (g k).o (g k).n=np/\evW (g k).o (g k).a rs=nv)) (hE:qel ek eq ev K np nv=false):
  Calls Tryz.prog 105 #[.slice (some ⟨b,off,none⟩) len cap,stV k ra rs.length rc oa os.length oc 0,evV ek eq ev] w fun e w'=>∃ v,e=.returned (.tuple #[v,.bool false])/\qag w' w.heap.size v k rs os 0/\Below w.heap.size w w':=by
 have HI:Hid (qan w b off len g):=hI;have H1:Hid (Sl w ra rs):=h1;have H2:Hid (Sl w oa os):=h2;have H4:Hid (rs.length=4):=h4;have HP:Hid (qac g len 4=true):=hp;have hk':(k:Int)<(len:Int):=by omega
 clear hI h1 h2 h4 hp
 go_enter Tryz.func105,Tryz.ntmps105
 go_wp2_with fail
 refine (qb7 _ _ _ _ k g _ _ _ _ _ _ rs _ (by unfold maxLen;omega) (by simp;omega) (HI.out.below (by go_grown) hb) (H1.out.below (by go_grown)) H4.out hk HP.out).mono ?_;rintro e w1 ⟨he1,b1⟩;rw [HN.1,HN.2.1,HN.2.2] at he1;subst he1;have B1:Hid (Below w.heap.size w (w1.alloc (oQ0 K np nv))):=(qai (by go_grown) b1 (by simp;omega)).alloc (by have:=b1.size;simp at this;omega) _;have X1:Hid (qay (w1.alloc (oQ0 K np nv)) w.heap.size (.int .i64 k) (.slice ra rs.length rc) (.slice oa os.length oc) (.int .i64 0) ek eq ev):=((qay.new w _ _ _ _ _ _ _ _ _ _).below b1).below (zS w1 _);clear b1;obtain ⟨p0,p1,p2,p3,-,-,-,-,-,-,-,-⟩:=X1.out;go_wp2_with fail
 clear p0 p1 p2 p3;have V1:Hid (EvC3 (w1.alloc (oQ0 K np nv)) w1.heap.size K np nv):=EvC3.new w1 _ _ _ _;generalize w1.alloc (oQ0 K np nv)=W1 at *;refine (qbw _ _ _ _ _ _ rs os _ (by have:=H4.out;omega) (by omega) (H1.out.below B1.out) (H2.out.below B1.out)).mono ?_;rintro e w2 ⟨v2,rfl,o2,b2⟩;obtain ⟨ra2,rc2,oa2,oc2,rfl,-,-⟩:=o2.read;have bA:=zS w2 (oQ1 k ra2 rs.length rc2 oa2 os.length oc2 0);have q2:Below W1.heap.size W1 (w2.alloc (oQ1 k ra2 rs.length rc2 oa2 os.length oc2 0)):=b2.trans (bA.mono b2.size);have X2:Hid (qay (w2.alloc (oQ1 k ra2 rs.length rc2 oa2 os.length oc2 0)) w.heap.size (.int .i64 k) (.slice ra rs.length rc) (.slice oa os.length oc) (.int .i64 0) ek eq ev):=X1.out.below q2;have V2:Hid (EvC3 (w2.alloc (oQ1 k ra2 rs.length rc2 oa2 os.length oc2 0)) w1.heap.size K np nv):=V1.out.below q2;have Y2:Hid (BoxC (w2.alloc (oQ1 k ra2 rs.length rc2 oa2 os.length oc2 0)) w2.heap.size (.int .i64 k) (.slice ra2 rs.length rc2) (.slice oa2 os.length oc2) (.int .i64 0)):=BoxC.new w2 _ _ _ _ _;have F2:Hid (∀ j,(w2.alloc (oQ1 k ra2 rs.length rc2 oa2 os.length oc2 0)).frozen? ⟨w2.heap.size,j,none⟩=false):=fun j=>by simp
 have O2:Hid (qag (w2.alloc (oQ1 k ra2 rs.length rc2 oa2 os.length oc2 0)) W1.heap.size (stV k ra2 rs.length rc2 oa2 os.length oc2 0) k rs os 0):=o2.below bA;have L2:Hid (∀ j,qae (stV k ra2 rs.length rc2 oa2 os.length oc2 0) j->W1.heap.size<=j/\j<w2.heap.size):=fun j hj=>o2.lt hj;have B2:Hid (Below w.heap.size w (w2.alloc (oQ1 k ra2 rs.length rc2 oa2 os.length oc2 0))):=B1.out.trans (q2.mono B1.out.size);have zw:w.heap.size+1+1<W1.heap.size:=X1.out.lt;have zv:w1.heap.size<W1.heap.size:=zJ W1 _ V1.1;have z2:W1.heap.size<=w2.heap.size:=b2.size;clear b2 o2 bA q2 X1 V1 B1;obtain ⟨p0,p1,p2,p3,e0,e1,e2,r0,r1,r2,r3,rf⟩:=X2.out;obtain ⟨u0,u1,u2⟩:=V2.out;obtain ⟨t0,t1,t2,t3⟩:=Y2.out;have tf:=F2.out;have hne:∀ wx,(binOp .neq 86 (evV ek eq ev) (evV K np nv)).run Tryz.prog wx=.ok (.bool true) wx:=fun wx=>by rw [qy2,hE];rfl
 clear hE;go_wp2;refine bodyPost_ret (v:=.tuple #[stV k ra2 rs.length rc2 oa2 os.length oc2 0,.bool false]) (by simp [results,Tryz.results105,go_sem,r0,r1,r2,r3]) rfl ⟨_,rfl,?_,?_⟩
 ·exact qag.put4 (B':=W1.heap.size) O2.out zw (by omega)
 ·have:=B2.out
  go_grown
theorem quz (b off len cap k:Nat) (g:Nat->I5) (ra oa:Option Addr) (rc oc:Nat) (rs os:List Int) (w:World) (hl:(len:Int)<=30) (hb:b<w.heap.size) (hI:qan w b off len g) (h4:rs.length=4) (ho:os.length<=60) (h1:Sl w ra rs) (h2:Sl w oa os) (hk:k<len) (hp:qac g len 4=true) (np nv:Int) (HN:Hid (evK (g k).o=4/\evP (g k).o (g k).n=np/\evW (g k).o (g k).a rs=nv)) (H8:Hid ((g k).o=8/\os.length=60)) (h60:((os.length:Int) == 60)=true):
  Calls Tryz.prog 105 #[.slice (some ⟨b,off,none⟩) len cap,stV k ra rs.length rc oa os.length oc 0,evV 4 np nv] w fun e w'=>∃ v,e=.returned (.tuple #[v,.bool true])/\qag w' w.heap.size v (qah len (g k) k rs os 0 nv).p (qah len (g k) k rs os 0 nv).rs (qah len (g k) k rs os 0 nv).os (qah len (g k) k rs os 0 nv).c/\Below w.heap.size w w':=by
 have HI:Hid (qan w b off len g):=hI;have H1:Hid (Sl w ra rs):=h1;have H2:Hid (Sl w oa os):=h2;have H4:Hid (rs.length=4):=h4;have HP:Hid (qac g len 4=true):=hp;have hk':(k:Int)<(len:Int):=by omega
 clear hI h1 h2 h4 hp
 go_enter Tryz.func105,Tryz.ntmps105
 go_wp2_with fail
 refine (qb7 _ _ _ _ k g _ _ _ _ _ _ rs _ (by unfold maxLen;omega) (by simp;omega) (HI.out.below (by go_grown) hb) (H1.out.below (by go_grown)) H4.out hk HP.out).mono ?_;rintro e w1 ⟨he1,b1⟩;rw [HN.1,HN.2.1,HN.2.2] at he1;subst he1;have B1:Hid (Below w.heap.size w (w1.alloc (oQ0 4 np nv))):=(qai (by go_grown) b1 (by simp;omega)).alloc (by have:=b1.size;simp at this;omega) _;have X1:Hid (qay (w1.alloc (oQ0 4 np nv)) w.heap.size (.int .i64 k) (.slice ra rs.length rc) (.slice oa os.length oc) (.int .i64 0) 4 np nv):=((qay.new w _ _ _ _ _ _ _ _ _ _).below b1).below (zS w1 _);clear b1;obtain ⟨p0,p1,p2,p3,-,-,-,-,-,-,-,-⟩:=X1.out;go_wp2_with fail
 clear p0 p1 p2 p3;have V1:Hid (EvC3 (w1.alloc (oQ0 4 np nv)) w1.heap.size 4 np nv):=EvC3.new w1 _ _ _ _;generalize w1.alloc (oQ0 4 np nv)=W1 at *;refine (qbw _ _ _ _ _ _ rs os _ (by have:=H4.out;omega) (by omega) (H1.out.below B1.out) (H2.out.below B1.out)).mono ?_;rintro e w2 ⟨v2,rfl,o2,b2⟩;obtain ⟨ra2,rc2,oa2,oc2,rfl,-,-⟩:=o2.read;have bA:=zS w2 (oQ1 k ra2 rs.length rc2 oa2 os.length oc2 0);have q2:Below W1.heap.size W1 (w2.alloc (oQ1 k ra2 rs.length rc2 oa2 os.length oc2 0)):=b2.trans (bA.mono b2.size);have X2:Hid (qay (w2.alloc (oQ1 k ra2 rs.length rc2 oa2 os.length oc2 0)) w.heap.size (.int .i64 k) (.slice ra rs.length rc) (.slice oa os.length oc) (.int .i64 0) 4 np nv):=X1.out.below q2;have V2:Hid (EvC3 (w2.alloc (oQ1 k ra2 rs.length rc2 oa2 os.length oc2 0)) w1.heap.size 4 np nv):=V1.out.below q2;have Y2:Hid (BoxC (w2.alloc (oQ1 k ra2 rs.length rc2 oa2 os.length oc2 0)) w2.heap.size (.int .i64 k) (.slice ra2 rs.length rc2) (.slice oa2 os.length oc2) (.int .i64 0)):=BoxC.new w2 _ _ _ _ _;have F2:Hid (∀ j,(w2.alloc (oQ1 k ra2 rs.length rc2 oa2 os.length oc2 0)).frozen? ⟨w2.heap.size,j,none⟩=false):=fun j=>by simp
 have O2:Hid (qag (w2.alloc (oQ1 k ra2 rs.length rc2 oa2 os.length oc2 0)) W1.heap.size (stV k ra2 rs.length rc2 oa2 os.length oc2 0) k rs os 0):=o2.below bA;have L2:Hid (∀ j,qae (stV k ra2 rs.length rc2 oa2 os.length oc2 0) j->W1.heap.size<=j/\j<w2.heap.size):=fun j hj=>o2.lt hj;have B2:Hid (Below w.heap.size w (w2.alloc (oQ1 k ra2 rs.length rc2 oa2 os.length oc2 0))):=B1.out.trans (q2.mono B1.out.size);have zw:w.heap.size+1+1<W1.heap.size:=X1.out.lt;have zv:w1.heap.size<W1.heap.size:=zJ W1 _ V1.1;have z2:W1.heap.size<=w2.heap.size:=b2.size;clear b2 o2 bA q2 X1 V1 B1;obtain ⟨p0,p1,p2,p3,e0,e1,e2,r0,r1,r2,r3,rf⟩:=X2.out;obtain ⟨u0,u1,u2⟩:=V2.out;obtain ⟨t0,t1,t2,t3⟩:=Y2.out;have tf:=F2.out;go_wp2_with fail
 clear p0 p1 p2 p3 e0 e1 e2 r0 r1 r2 r3 rf u0 u1 u2 t0 t1 t2 t3 tf;generalize w2.alloc (oQ1 k ra2 rs.length rc2 oa2 os.length oc2 0)=W2 at *;refine (qe0 _ _ _ _ _ _ _ _ _).mono ?_;rintro e w3 ⟨rfl,b3⟩;have X3:Hid (qay w3 w.heap.size (.int .i64 k) (.slice ra rs.length rc) (.slice oa os.length oc) (.int .i64 0) 4 np nv):=X2.out.below b3;have O3:Hid (qag w3 W1.heap.size (stV k ra2 rs.length rc2 oa2 os.length oc2 0) k rs os 0):=O2.out.below b3;have B3:Hid (Below w.heap.size w w3):=B2.out.trans (b3.mono B2.out.size);clear b3 X2 V2 Y2 F2 O2 B2;obtain ⟨-,-,-,-,-,-,-,r0,r1,r2,r3,rf⟩:=X3.out;go_wp2;refine bodyPost_ret (v:=.tuple #[stV k ra2 rs.length rc2 oa2 os.length oc2 2,.bool true]) (by simp [results,Tryz.results105,go_sem,r0,r1,r2,r3]) rfl ⟨_,rfl,?_,?_⟩
 ·have hd:qah len (g k) k rs os 0 nv=⟨k,rs,os,2⟩:=by
   unfold qah;rw [H8.1,if_neg (by decide),if_neg (by decide),if_pos rfl,if_pos H8.2]
  rw [hd];exact qag.put4 (B':=W1.heap.size) (O3.out.recode 2) zw (by omega)
 ·have:=B3.out
  go_grown
theorem qc1 (b off len cap k:Nat) (g:Nat->I5) (ra oa:Option Addr) (rc oc:Nat) (rs os:List Int) (ek eq ev:Int) (w:World) (hl:(len:Int)<=30) (hb:b<w.heap.size) (hI:qan w b off len g) (h4:rs.length=4) (ho:os.length<=60) (h1:Sl w ra rs) (h2:Sl w oa os) (hk:k<len) (hp:qac g len 4=true) (np nv:Int) (HN:Hid (evK (g k).o=3/\evP (g k).o (g k).n=np/\evW (g k).o (g k).a rs=nv)) (HQ:Hid ((ek != 3)=true\/((ek != 3)=false/\inB ev (-1000000000) 1000000000=false)\/((ek != 3)=false/\inB ev (-1000000000) 1000000000=true/\(np != 9)=true/\(eq != np)=true)\/((ek != 3)=false/\inB ev (-1000000000) 1000000000=true/\(np != 9)=false/\inB eq 0 3=false))):
  Calls Tryz.prog 105 #[.slice (some ⟨b,off,none⟩) len cap,stV k ra rs.length rc oa os.length oc 0,evV ek eq ev] w fun e w'=>∃ v,e=.returned (.tuple #[v,.bool false])/\qag w' w.heap.size v k rs os 0/\Below w.heap.size w w':=by
 have HI:Hid (qan w b off len g):=hI;have H1:Hid (Sl w ra rs):=h1;have H2:Hid (Sl w oa os):=h2;have H4:Hid (rs.length=4):=h4;have HP:Hid (qac g len 4=true):=hp;have hk':(k:Int)<(len:Int):=by omega
 clear hI h1 h2 h4 hp
 go_enter Tryz.func105,Tryz.ntmps105
 go_wp2_with fail
 refine (qb7 _ _ _ _ k g _ _ _ _ _ _ rs _ (by unfold maxLen;omega) (by simp;omega) (HI.out.below (by go_grown) hb) (H1.out.below (by go_grown)) H4.out hk HP.out).mono ?_;rintro e w1 ⟨he1,b1⟩;rw [HN.1,HN.2.1,HN.2.2] at he1;subst he1;have B1:Hid (Below w.heap.size w (w1.alloc (oQ0 3 np nv))):=(qai (by go_grown) b1 (by simp;omega)).alloc (by have:=b1.size;simp at this;omega) _;have X1:Hid (qay (w1.alloc (oQ0 3 np nv)) w.heap.size (.int .i64 k) (.slice ra rs.length rc) (.slice oa os.length oc) (.int .i64 0) ek eq ev):=((qay.new w _ _ _ _ _ _ _ _ _ _).below b1).below (zS w1 _);clear b1;obtain ⟨p0,p1,p2,p3,-,-,-,-,-,-,-,-⟩:=X1.out;go_wp2_with fail
 clear p0 p1 p2 p3;have V1:Hid (EvC3 (w1.alloc (oQ0 3 np nv)) w1.heap.size 3 np nv):=EvC3.new w1 _ _ _ _;generalize w1.alloc (oQ0 3 np nv)=W1 at *;refine (qbw _ _ _ _ _ _ rs os _ (by have:=H4.out;omega) (by omega) (H1.out.below B1.out) (H2.out.below B1.out)).mono ?_;rintro e w2 ⟨v2,rfl,o2,b2⟩;obtain ⟨ra2,rc2,oa2,oc2,rfl,-,-⟩:=o2.read;have bA:=zS w2 (oQ1 k ra2 rs.length rc2 oa2 os.length oc2 0);have q2:Below W1.heap.size W1 (w2.alloc (oQ1 k ra2 rs.length rc2 oa2 os.length oc2 0)):=b2.trans (bA.mono b2.size);have X2:Hid (qay (w2.alloc (oQ1 k ra2 rs.length rc2 oa2 os.length oc2 0)) w.heap.size (.int .i64 k) (.slice ra rs.length rc) (.slice oa os.length oc) (.int .i64 0) ek eq ev):=X1.out.below q2;have V2:Hid (EvC3 (w2.alloc (oQ1 k ra2 rs.length rc2 oa2 os.length oc2 0)) w1.heap.size 3 np nv):=V1.out.below q2;have Y2:Hid (BoxC (w2.alloc (oQ1 k ra2 rs.length rc2 oa2 os.length oc2 0)) w2.heap.size (.int .i64 k) (.slice ra2 rs.length rc2) (.slice oa2 os.length oc2) (.int .i64 0)):=BoxC.new w2 _ _ _ _ _;have F2:Hid (∀ j,(w2.alloc (oQ1 k ra2 rs.length rc2 oa2 os.length oc2 0)).frozen? ⟨w2.heap.size,j,none⟩=false):=fun j=>by simp
 have O2:Hid (qag (w2.alloc (oQ1 k ra2 rs.length rc2 oa2 os.length oc2 0)) W1.heap.size (stV k ra2 rs.length rc2 oa2 os.length oc2 0) k rs os 0):=o2.below bA;have L2:Hid (∀ j,qae (stV k ra2 rs.length rc2 oa2 os.length oc2 0) j->W1.heap.size<=j/\j<w2.heap.size):=fun j hj=>o2.lt hj;have B2:Hid (Below w.heap.size w (w2.alloc (oQ1 k ra2 rs.length rc2 oa2 os.length oc2 0))):=B1.out.trans (q2.mono B1.out.size);have zw:w.heap.size+1+1<W1.heap.size:=X1.out.lt;have zv:w1.heap.size<W1.heap.size:=zJ W1 _ V1.1;have z2:W1.heap.size<=w2.heap.size:=b2.size;clear b2 o2 bA q2 X1 V1 B1;obtain ⟨p0,p1,p2,p3,e0,e1,e2,r0,r1,r2,r3,rf⟩:=X2.out;obtain ⟨u0,u1,u2⟩:=V2.out;obtain ⟨t0,t1,t2,t3⟩:=Y2.out;have tf:=F2.out
 rcases HQ.out with q1 | ⟨q1,q2⟩ | ⟨q1,q2,q3,q4⟩ | ⟨q1,q2,q3,q5⟩
 all_goals
  go_wp2_with (first|(go_at_call 158;refine (l1Num_any _ _).mono ?_;rintro e w' ⟨rfl,rfl⟩)|(go_at_call 20;refine (l1In_any _ _ _ _).mono ?_;rintro e w' ⟨rfl,rfl⟩))
  refine bodyPost_ret (v:=.tuple #[stV k ra2 rs.length rc2 oa2 os.length oc2 0,.bool false]) (by simp [results,Tryz.results105,go_sem,r0,r1,r2,r3]) rfl ⟨_,rfl,?_,?_⟩
  ·exact qag.put4 (B':=W1.heap.size) O2.out zw (by omega)
  ·have:=B2.out
   go_grown
open Go.ChangeShapes Go.WideShapes Go.ChangeAt
theorem Tryz.own:ownKnob Tryz.prog.godebug=none:=by kernel_rfl
theorem Tryz.laidOut:laidOutB Tryz.prog=true:=by kernel_rfl
theorem qph:Tryz.prog.cellsOf 224=5:=by kernel_rfl
theorem qkj:Tryz.prog.cellsOf 159=4:=by kernel_rfl
theorem qb1:Tryz.prog.cellsOf 3=1:=by kernel_rfl
theorem qmx:Tryz.prog.cellsOf 28=1:=by kernel_rfl
theorem qln {H:Type} {enc:TypeId × Value->H} {w:World} {base fuel:Nat} {spare:Nat->Bool} {held:Bool} {c0 c1 c2 c3 c4:Value} {x:DataW H × List MemPlace}
  (hf:DataW.trod enc Tryz.prog w base spare held fuel 224 [c0,c1,c2,c3,c4]=some x):
  ∃ op r a b n:Int,c0=.int .i64 op/\c1=.int .i64 r/\c2=.int .i64 a/\c3=.int .i64 b/\c4=.int .i64 n:=by
 obtain ⟨xs,m,-,-,-,hl,hx⟩:=DataW.trod_struct Tryz.underlying224 hf;have hl:xs.length=5:=hl;have q0:DataW.trod enc Tryz.prog w base spare held m 3 [c0]=xs[0]?:=by simpa [qb1] using hx 0 _ rfl
 have q1:DataW.trod enc Tryz.prog w base spare held m 3 [c1]=xs[1]?:=by simpa [qb1] using hx 1 _ rfl
 have q2:DataW.trod enc Tryz.prog w base spare held m 3 [c2]=xs[2]?:=by simpa [qb1] using hx 2 _ rfl
 have q3:DataW.trod enc Tryz.prog w base spare held m 3 [c3]=xs[3]?:=by simpa [qb1] using hx 3 _ rfl
 have q4:DataW.trod enc Tryz.prog w base spare held m 3 [c4]=xs[4]?:=by simpa [qb1] using hx 4 _ rfl
 rw [List.getElem?_eq_getElem (by omega)] at q0 q1 q2 q3 q4;obtain ⟨z0,e0,-,-⟩:=DataW.trod_int Tryz.underlying3 q0;obtain ⟨z1,e1,-,-⟩:=DataW.trod_int Tryz.underlying3 q1;obtain ⟨z2,e2,-,-⟩:=DataW.trod_int Tryz.underlying3 q2;obtain ⟨z3,e3,-,-⟩:=DataW.trod_int Tryz.underlying3 q3;obtain ⟨z4,e4,-,-⟩:=DataW.trod_int Tryz.underlying3 q4;simp only [List.cons.injEq,and_true] at e0 e1 e2 e3 e4;exact ⟨z0,z1,z2,z3,z4,e0,e1,e2,e3,e4⟩
theorem qb0 (b off j:Nat):Addr.add ⟨b,off,none⟩ j=⟨b,off+j,none⟩:=by
 unfold Addr.add;by_cases h:j=0
 ·rw [if_pos h,h,Nat.add_zero]
 ·rw [if_neg h]
theorem qga {w:World} {p:Addr} {v:Value} (h:w.cell? p=some v):p.block<w.heap.size:=zJ w p h
theorem qqh {H:Type} {enc:TypeId × Value->H} {w:World} {spare:Nat->Bool} {held:Bool} {base:Nat} {a0:Option Addr} {len cap:Nat} {d:DataW H} {p:List MemPlace}
  (h:DataW.Trod enc Tryz.prog w base spare held 157 (.slice a0 len cap) d p):
  len<=maxLen/\(len=0\/∃ b off g,a0=some ⟨b,off,none⟩/\b<w.heap.size/\qan w b off len g):=by
 obtain ⟨fuel,hf⟩:=h
 rcases Go.Deep.open_slice Tryz.underlying157 hf with ⟨hcs,_⟩ | ⟨a,len',cap',m,n,D,Pl,hcs,_,hl,hm,hmm,_,hx⟩
 ·simp [Value.cells] at hcs
  obtain ⟨_,rfl,_⟩:=hcs;exact ⟨Nat.zero_le _,.inl rfl⟩
 ·simp [Value.cells] at hcs
  obtain ⟨rfl,rfl,rfl⟩:=hcs;refine ⟨zO hl hm,?_⟩;by_cases h0:len=0
  ·exact .inl h0
  right;have hle:len<=m:=by rw [hmm];split <;> omega
  rw [qph] at hx;obtain ⟨b,off,spot⟩:=a
  have hcell:∀ i,i<len->∃ x:I5,w.cell? (Addr.add (Addr.add ⟨b,off,spot⟩ (i*5)) 0)=some (.int .i64 x.o)/\w.cell? (Addr.add (Addr.add ⟨b,off,spot⟩ (i*5)) 1)=some (.int .i64 x.r)/\w.cell? (Addr.add (Addr.add ⟨b,off,spot⟩ (i*5)) 2)=some (.int .i64 x.a)/\w.cell? (Addr.add (Addr.add ⟨b,off,spot⟩ (i*5)) 3)=some (.int .i64 x.b)/\w.cell? (Addr.add (Addr.add ⟨b,off,spot⟩ (i*5)) 4)=some (.int .i64 x.n):=by
   intro i hi;obtain ⟨cs',h1,h2⟩:=hx i (by omega);obtain ⟨_,hlen,hc⟩:=World.cells?_some h1
   match cs',hlen with
   | [c0,c1,c2,c3,c4],_=>
    obtain ⟨o,r,a,b,n,rfl,rfl,rfl,rfl,rfl⟩:=qln h2;exact ⟨⟨o,r,a,b,n⟩,hc 0 (by omega),hc 1 (by omega),hc 2 (by omega),hc 3 (by omega),hc 4 (by omega)⟩
  have hspot:spot=none:=by
   obtain ⟨x,hx0,_⟩:=hcell 0 (by omega);simpa [Addr.add] using World.cell?_spot hx0
  subst hspot;have inh:Inhabited I5:=⟨⟨0,0,0,0,0⟩⟩
  obtain ⟨g,hg⟩:=Go.Deep.choose_lt (α:=I5) hcell
  have hI:qan w b off len g:=by
   intro i hi;obtain ⟨q0,q1,q2,q3,q4⟩:=hg i hi;rw [qb0,qb0] at q0 q1 q2 q3 q4;exact ⟨q0,q1,q2,q3,q4⟩
  exact ⟨b,off,g,rfl,qga (hI 0 (by omega)).1,hI⟩
theorem qim {H:Type} {enc:TypeId × Value->H} {w:World} {held:Bool} {base fuel:Nat} {v:Value} {x:DataW H × List MemPlace}
  (hf:DataW.trod enc Tryz.prog w base (fun _=>true) held fuel 28 [v]=some x):
  ∃ a0 cap xs,v=.slice a0 xs.length cap/\xs.length<=maxLen/\Sl w a0 xs:=by
 rcases open_ints Tryz.underlying28 Tryz.underlying3 qb1 hf with ⟨hcs,_⟩ | ⟨a,l,c,zs,hcs,_,hl,hm,hz,_,hcell,_⟩
 ·simp at hcs
  exact ⟨none,0,[],hcs,Nat.zero_le _,.inl rfl⟩
 ·simp at hcs
  have hz':zs.length=c:=by simpa using hz
  have hlen:(zs.take l).length=l:=by simp;omega
  refine ⟨some a,c,zs.take l,by rw [hlen];exact hcs,by rw [hlen];exact zO hl hm,?_⟩;by_cases h0:l=0
  ·exact .inl (by simp [h0])
  obtain ⟨b,off,rfl,hc⟩:=ints_at hcell (by omega);refine .inr ⟨b,off,rfl,qga (hc 0 (by omega)),fun i hi=>?_⟩;rw [hlen] at hi;rw [hc i (by omega)];unfold zi;rw [List.getD_eq_getElem?_getD,List.getD_eq_getElem?_getD,List.getElem?_take,if_pos hi]
theorem qf9 {ops:Array Oper} {rest:List Oper} {op:Oper} {act:Act} {Q:Exit->Act->World->Prop} (w:World) (hgd:op.guard=none) (s x:Operand)
  (ho:op.op=.call { callee:=.builtin .append,args:=#[s,x],argTypes:=#[28,28] })
  (B:Nat) (v:Value) (xs:List Int) (hs:act.eval s=v) (hv:OwnI w B v xs) (y:Int) (hx:act.eval x=.slice (some ⟨w.heap.size,0,none⟩) 1 1) (hn:xs.length<=1048576) (hB:B<=w.heap.size)
  (h:∀ v' w',OwnI w' B v' (xs ++ [y])->Below B w w'->wpList Tryz.prog ops Q rest (act.put op.dst v') w'):
  wpList Tryz.prog ops Q (op :: rest) act (w.alloc (.cells #[.int .i64 y] 3)):=by
 have hb:Below w.heap.size w (w.alloc (.cells #[.int .i64 y] 3)):=(Below.refl _ _).alloc (Nat.le_refl _) _;refine qba _ hgd s x ho B 1 v (some ⟨w.heap.size,0,none⟩) xs [y] hs hx (hv.below hb) (.inr ⟨w.heap.size,0,rfl,by simp,fun i hi=>?_⟩) (by simp;omega) (by simp;omega) ?_
 ·have:i=0:=by simp at hi;omega
  subst this;exact zV _ _ _ 0 rfl
 ·intro v' w' o g _
  refine h v' w' o (Below.grown (hb.mono hB) g (by simp;omega) (fun k hk=>(hv.lt k hk).1))
theorem qh5 {ops:Array Oper} {rest:List Oper} {op:Oper} {act:Act} {Q:Exit->Act->World->Prop} (w:World) {N:Nat} (hN:N=w.heap.size) (hgd:op.guard=none) (s x:Operand)
  (ho:op.op=.call { callee:=.builtin .append,args:=#[s,x],argTypes:=#[28,28] })
  (B:Nat) (v:Value) (xs:List Int) (hs:act.eval s=v) (hv:OwnI w B v xs) (y:Int) (hx:act.eval x=.slice (some ⟨N,0,none⟩) 1 1) (hn:xs.length<=1048576) (hB:B<=w.heap.size)
  (h:∀ v' w',OwnI w' B v' (xs ++ [y])->Below B w w'->wpList Tryz.prog ops Q rest (act.put op.dst v') w'):
  wpList Tryz.prog ops Q (op :: rest) act (w.alloc (.cells #[.int .i64 y] 3)):=by
 subst hN;exact qf9 w hgd s x ho B v xs hs hv y hx hn hB h
theorem OwnI.to {w:World} {B:Nat} {v:Value} {xs ys:List Int} (h:OwnI w B v xs) (e:ys=xs):OwnI w B v ys:=e ▸ h
abbrev dV (p a b c d:Int) (oa:Option Addr) (on oc:Nat) (code:Int):Value:=.agg #[.int .i64 p,.int .i64 a,.int .i64 b,.int .i64 c,.int .i64 d,.slice oa on oc,.int .i64 code]
theorem qcj (p a b c d:Int) (oa:Option Addr) (on oc:Nat) (code:Int) (w:World) (h0:0<=p) (h1:p<=1000000000):
  Calls Tryz.prog 239 #[dV p a b c d oa on oc code] w fun e w'=>e=.returned (dV (p+1) a b c d oa on oc code)/\Below w.heap.size w w':=by
 go_enter Tryz.func239,Tryz.ntmps239
 go_wp2;refine bodyPost_ret (v:=dV (p+1) a b c d oa on oc code) (by simp [results,Tryz.results239,go_sem]) rfl ⟨rfl,?_⟩
 go_grown
def set4 (a b c d:Int) (j:Nat) (v:Int):Int × Int × Int × Int:=if j=0 then (v,b,c,d) else if j=1 then (a,v,c,d) else if j=2 then (a,b,v,d) else (a,b,c,v)
theorem qe6 (p a b c d:Int) (oa:Option Addr) (on oc:Nat) (code:Int) (j:Nat) (v:Int) (w:World) (h0:0<=p) (h1:p<=1000000000) (hj:j<4):
  Calls Tryz.prog 238 #[dV p a b c d oa on oc code,.int .i64 j,.int .i64 v] w fun e w'=>e=.returned (dV (p+1) (set4 a b c d j v).1 (set4 a b c d j v).2.1 (set4 a b c d j v).2.2.1 (set4 a b c d j v).2.2.2 oa on oc code)/\Below w.heap.size w w':=by
 have hh:j=0\/j=1\/j=2\/j=3:=by omega
 rcases hh with rfl | rfl | rfl | rfl
 ·go_enter Tryz.func238,Tryz.ntmps238
  go_wp2_with fail
  refine (qcj _ _ _ _ _ _ _ _ _ _ h0 h1).mono ?_;rintro e w1 ⟨rfl,b1⟩;have B1:Hid (Below w.heap.size w w1):=qai (by go_grown) b1 (by simp;omega);obtain ⟨hc1,hf1⟩:=qap b1;clear b1;go_wp2;refine bodyPost_ret (v:=dV (p+1) v b c d oa on oc code) (by simp [results,Tryz.results238,go_sem,hc1]) rfl ⟨rfl,?_⟩;have:=B1.out
  go_grown
 ·go_enter Tryz.func238,Tryz.ntmps238
  go_wp2_with fail
  refine (qcj _ _ _ _ _ _ _ _ _ _ h0 h1).mono ?_;rintro e w1 ⟨rfl,b1⟩;have B1:Hid (Below w.heap.size w w1):=qai (by go_grown) b1 (by simp;omega);obtain ⟨hc1,hf1⟩:=qap b1;clear b1;go_wp2;refine bodyPost_ret (v:=dV (p+1) a v c d oa on oc code) (by simp [results,Tryz.results238,go_sem,hc1]) rfl ⟨rfl,?_⟩;have:=B1.out
  go_grown
 ·go_enter Tryz.func238,Tryz.ntmps238
  go_wp2_with fail
  refine (qcj _ _ _ _ _ _ _ _ _ _ h0 h1).mono ?_;rintro e w1 ⟨rfl,b1⟩;have B1:Hid (Below w.heap.size w w1):=qai (by go_grown) b1 (by simp;omega);obtain ⟨hc1,hf1⟩:=qap b1;clear b1;go_wp2;refine bodyPost_ret (v:=dV (p+1) a b v d oa on oc code) (by simp [results,Tryz.results238,go_sem,hc1]) rfl ⟨rfl,?_⟩;have:=B1.out
  go_grown
 ·go_enter Tryz.func238,Tryz.ntmps238
  go_wp2_with fail
  refine (qcj _ _ _ _ _ _ _ _ _ _ h0 h1).mono ?_;rintro e w1 ⟨rfl,b1⟩;have B1:Hid (Below w.heap.size w w1):=qai (by go_grown) b1 (by simp;omega);obtain ⟨hc1,hf1⟩:=qap b1;clear b1;go_wp2;refine bodyPost_ret (v:=dV (p+1) a b c v oa on oc code) (by simp [results,Tryz.results238,go_sem,hc1]) rfl ⟨rfl,?_⟩;have:=B1.out
  go_grown
theorem qpn (p code:Int) (ra oa:Option Addr) (rc oc:Nat) (a b c d:Int) (os:List Int) (w:World) (ho:os.length<=1048576) (h1:Sl w ra [a,b,c,d]) (h2:Sl w oa os):
  Calls Tryz.prog 168 #[stV p ra 4 rc oa os.length oc code] w fun e w'=>∃ oa' oc',e=.returned (dV p a b c d oa' os.length oc' code)/\OwnI w' w.heap.size (.slice oa' os.length oc') os/\Below w.heap.size w w':=by
 have H1:Hid (Sl w ra [a,b,c,d]):=h1;have H2:Hid (Sl w oa os):=h2;clear h1 h2
 go_enter Tryz.func168,Tryz.ntmps168
 go_wp2_with fail
 refine (qcc ra rc [a,b,c,d] _ (H1.out.below (by go_grown))).mono ?_;rintro e w1 ⟨⟨q0,q1,q2,q3,rfl,hq⟩,b1⟩;have hq':=hq rfl;simp only [List.cons.injEq,and_true] at hq';obtain ⟨rfl,rfl,rfl,rfl⟩:=hq';have B1:Hid (Below w.heap.size w w1):=qai (by go_grown) b1 (by simp;omega);obtain ⟨hc1,hf1⟩:=qap b1;have y1:w.heap.size+1<w1.heap.size:=by have:=b1.size;simp at this;omega
 have y0:w.heap.size<w1.heap.size:=by omega
 clear b1 hq;go_wp2_with fail
 have B2:Hid (Below w.heap.size w (w1.alloc (.cells #[.int .i64 a,.int .i64 b,.int .i64 c,.int .i64 d] 203))):=B1.out.alloc (by omega) _;generalize hW:w1.alloc (.cells #[.int .i64 a,.int .i64 b,.int .i64 c,.int .i64 d] 203)=W at *;have lr:w1.heap.size<W.heap.size:=by rw [<- hW];simp
 have k0:W.cell? ⟨w1.heap.size,0,none⟩=some (.int .i64 a):=by rw [<- hW];simp
 have k1:W.cell? ⟨w1.heap.size,1,none⟩=some (.int .i64 b):=by rw [<- hW];simp
 have k2:W.cell? ⟨w1.heap.size,2,none⟩=some (.int .i64 c):=by rw [<- hW];simp
 have k3:W.cell? ⟨w1.heap.size,3,none⟩=some (.int .i64 d):=by rw [<- hW];simp
 have s0:W.cell? ⟨w.heap.size,0,none⟩=some (.int .i64 p):=by rw [<- hW,zQ _ _ y0,hc1 _ _ (by simp;omega)];simp
 have s2:W.cell? ⟨w.heap.size,2,none⟩=some (.slice oa os.length oc):=by rw [<- hW,zQ _ _ y0,hc1 _ _ (by simp;omega)];simp
 have s3:W.cell? ⟨w.heap.size,3,none⟩=some (.int .i64 code):=by rw [<- hW,zQ _ _ y0,hc1 _ _ (by simp;omega)];simp
 have e0:W.cell? ⟨w.heap.size+1,0,none⟩=some (.int .i64 0):=by rw [<- hW,zQ _ _ y1,hc1 _ _ (by simp)];simp
 have e1:W.cell? ⟨w.heap.size+1,1,none⟩=some (.int .i64 0):=by rw [<- hW,zQ _ _ y1,hc1 _ _ (by simp)];simp
 have e2:W.cell? ⟨w.heap.size+1,2,none⟩=some (.int .i64 0):=by rw [<- hW,zQ _ _ y1,hc1 _ _ (by simp)];simp
 have e3:W.cell? ⟨w.heap.size+1,3,none⟩=some (.int .i64 0):=by rw [<- hW,zQ _ _ y1,hc1 _ _ (by simp)];simp
 have e4:W.cell? ⟨w.heap.size+1,4,none⟩=some (.int .i64 0):=by rw [<- hW,zQ _ _ y1,hc1 _ _ (by simp)];simp
 have e5:W.cell? ⟨w.heap.size+1,5,none⟩=some (.slice none 0 0):=by rw [<- hW,zQ _ _ y1,hc1 _ _ (by simp)];simp
 have e6:W.cell? ⟨w.heap.size+1,6,none⟩=some (.int .i64 0):=by rw [<- hW,zQ _ _ y1,hc1 _ _ (by simp)];simp
 have ef:∀ j,W.frozen? ⟨w.heap.size+1,j,none⟩=false:=fun j=>by rw [<- hW,zI (Below.heap_alloc w1 _ _ y1),hf1 _ _ (by simp)];simp
 have l0:w.heap.size<W.heap.size:=by omega
 have l1:w.heap.size+1<W.heap.size:=by omega
 have ne1:w1.heap.size≠w.heap.size+1:=by omega
 have ne2:w.heap.size+1≠w1.heap.size:=by omega
 clear hc1 hf1 hW B1 y0 y1
 go_region_held3 (fun w'=>w'.cell? ⟨w.heap.size,0,none⟩=some (.int .i64 p)/\w'.cell? ⟨w.heap.size,2,none⟩=some (.slice oa os.length oc)/\w'.cell? ⟨w.heap.size,3,none⟩=some (.int .i64 code)/\w'.cell? ⟨w1.heap.size,0,none⟩=some (.int .i64 a)/\w'.cell? ⟨w1.heap.size,1,none⟩=some (.int .i64 b)/\w'.cell? ⟨w1.heap.size,2,none⟩=some (.int .i64 c)/\w'.cell? ⟨w1.heap.size,3,none⟩=some (.int .i64 d)) (go_keep)
  (first|(go_at_call 138;refine (qfe oa oc os _ ho (by exact H2.out.below B2.out.drew)).mono ?_;rintro e w2 ⟨v2,rfl,o2,b2'⟩;have b2:Below W.heap.size W w2:=(Below.refl W.heap.size W).drew.trans b2';obtain ⟨oa2,oc2,rfl,-⟩:=o2.form;obtain ⟨hc2,hf2⟩:=qap b2;have O2:Hid (OwnI w2 W.heap.size (.slice oa2 os.length oc2) os):=o2;have B3:Hid (Below w.heap.size w w2):=B2.out.trans (b2.mono B2.out.size);clear o2 b2 b2'))
 go_wp2;refine bodyPost_ret (v:=dV p a b c d oa2 os.length oc2 code) (by simp [results,Tryz.results168,go_sem,hc2,l1,e0,e1,e2,e3,e4,e5,e6]) rfl ⟨_,_,rfl,?_,?_⟩
 ·refine OwnI.mono (B:=W.heap.size) ?_ (by omega)
  repeat (refine OwnI.setBelow ?_ (by simpa using by omega) _)
  exact O2.out
 ·have:=B3.out
  go_grown
theorem qvl (p a b c d:Int) (oa:Option Addr) (oc:Nat) (os:List Int) (code:Int) (B:Nat) (w:World) (hB:B<=w.heap.size) (ho:OwnI w B (.slice oa os.length oc) os):
  Calls Tryz.prog 171 #[dV p a b c d oa os.length oc code] w fun e w'=>∃ v,e=.returned v/\qag w' B v p [a,b,c,d] os code/\Below w.heap.size w w':=by
 have HO:Hid (OwnI w B (.slice oa os.length oc) os):=ho;clear ho
 go_enter Tryz.func171,Tryz.ntmps171
 go_wp2_with fail
 have B2:Hid (Below w.heap.size w ((w.alloc (oQ2 p a b c d oa os.length oc code)).alloc (zQ0))):=by
  show Below _ _ _
  go_grown
 have k0:((w.alloc (oQ2 p a b c d oa os.length oc code)).alloc (zQ0)).cell? ⟨w.heap.size,0,none⟩=some (.int .i64 p):=(zQ _ _ (by simp)).trans (by simp);have k1:((w.alloc (oQ2 p a b c d oa os.length oc code)).alloc (zQ0)).cell? ⟨w.heap.size,1,none⟩=some (.int .i64 a):=(zQ _ _ (by simp)).trans (by simp);have k2:((w.alloc (oQ2 p a b c d oa os.length oc code)).alloc (zQ0)).cell? ⟨w.heap.size,2,none⟩=some (.int .i64 b):=(zQ _ _ (by simp)).trans (by simp);have k3:((w.alloc (oQ2 p a b c d oa os.length oc code)).alloc (zQ0)).cell? ⟨w.heap.size,3,none⟩=some (.int .i64 c):=(zQ _ _ (by simp)).trans (by simp);have k4:((w.alloc (oQ2 p a b c d oa os.length oc code)).alloc (zQ0)).cell? ⟨w.heap.size,4,none⟩=some (.int .i64 d):=(zQ _ _ (by simp)).trans (by simp);have k5:((w.alloc (oQ2 p a b c d oa os.length oc code)).alloc (zQ0)).cell? ⟨w.heap.size,5,none⟩=some (.slice oa os.length oc):=(zQ _ _ (by simp)).trans (by simp);have k6:((w.alloc (oQ2 p a b c d oa os.length oc code)).alloc (zQ0)).cell? ⟨w.heap.size,6,none⟩=some (.int .i64 code):=(zQ _ _ (by simp)).trans (by simp);have e0:((w.alloc (oQ2 p a b c d oa os.length oc code)).alloc (zQ0)).cell? ⟨w.heap.size+1,0,none⟩=some (.int .i64 0):=by simp
 have e1:((w.alloc (oQ2 p a b c d oa os.length oc code)).alloc (zQ0)).cell? ⟨w.heap.size+1,1,none⟩=some (.slice none 0 0):=by simp
 have e2:((w.alloc (oQ2 p a b c d oa os.length oc code)).alloc (zQ0)).cell? ⟨w.heap.size+1,2,none⟩=some (.slice none 0 0):=by simp
 have e3:((w.alloc (oQ2 p a b c d oa os.length oc code)).alloc (zQ0)).cell? ⟨w.heap.size+1,3,none⟩=some (.int .i64 0):=by simp
 have ef:∀ j,((w.alloc (oQ2 p a b c d oa os.length oc code)).alloc (zQ0)).frozen? ⟨w.heap.size+1,j,none⟩=false:=fun j=>by simp
 have l1:w.heap.size+1<((w.alloc (oQ2 p a b c d oa os.length oc code)).alloc (zQ0)).heap.size:=by simp
 generalize (w.alloc (oQ2 p a b c d oa os.length oc code)).alloc (zQ0)=W at *;have l0:w.heap.size<W.heap.size:=by omega
 have HS : Hid (Sl W (some ⟨w.heap.size, 1, none⟩) [a, b, c, d]) := .inr ⟨_, _, rfl, l0, fun i hi => by
  match i,hi with
  | 0,_=>exact k1
  | 1,_=>exact k2
  | 2,_=>exact k3
  | 3,_=>exact k4⟩
 have ne2:w.heap.size+1≠w.heap.size:=by omega
 have ne1:w.heap.size≠w.heap.size+1:=by omega
 go_region_held3 (fun w'=>w'.cell? ⟨w.heap.size,0,none⟩=some (.int .i64 p)/\w'.cell? ⟨w.heap.size,5,none⟩=some (.slice oa os.length oc)/\w'.cell? ⟨w.heap.size,6,none⟩=some (.int .i64 code)) (go_keep)
  (first|(go_at_call 138;refine (qfe _ _ [a,b,c,d] _ (by simp) (by exact HS.out.below ((Below.refl W.heap.size W).drew))).mono ?_;rintro e w2 ⟨v2,rfl,o2,b2'⟩;have b2:Below W.heap.size W w2:=(Below.refl W.heap.size W).drew.trans b2';obtain ⟨ra2,rc2,hv2,-⟩:=o2.form;rw [show [a,b,c,d].length=4 from rfl] at hv2;subst hv2;obtain ⟨hc2,hf2⟩:=qap b2;have O2:Hid (OwnI w2 W.heap.size (.slice ra2 4 rc2) [a,b,c,d]):=o2;have P2:Hid (OwnI w2 B (.slice oa os.length oc) os):=(HO.out.below B2.out).below b2;have B3:Hid (Below w.heap.size w w2):=B2.out.trans (b2.mono B2.out.size);clear o2 b2 b2'))
 have lo:∀ j,(Value.slice oa os.length oc).ownBlock=some j->j<w.heap.size:=fun j hj=>(HO.out.lt j hj).2;have LO:Hid (∀ j,(Value.slice oa os.length oc).ownBlock=some j->j<w.heap.size):=lo;clear lo HS k0 k1 k2 k3 k4 k5 k6;go_wp2;refine bodyPost_ret (v:=stV p ra2 4 rc2 oa os.length oc code) (by simp [results,Tryz.results171,go_sem,hc2,l1,e0,e1,e2,e3]) rfl ⟨_,rfl,⟨_,_,rfl,?_,?_,?_⟩,?_⟩
 ·refine OwnI.mono (B:=W.heap.size) ?_ (by omega)
  repeat (refine OwnI.setBelow ?_ (by simpa using l1) _)
  exact O2.out
 ·repeat (refine OwnI.setOther ?_ (fun e=>by have:=LO.out _ e;simp at this;omega) _)
  exact P2.out
 ·intro j h1 h2
  have:=(O2.out.lt j h1).1;have:=LO.out j h2;omega
 ·have:=B3.out
  go_grown
