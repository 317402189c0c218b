import Derived.Test.YtkchlgmeinfeaaaGreatDoorMn6
import Derived.Deep.OwnRows
import Derived.Deep.RegionHeld3
import Derived.ShutString
import Derived.Laws.EntriesVeiled
namespace Go.Proofs.YtkchlgmeinfeaaaGreatDoor
open Go.Proofs.Tryz
set_option maxRecDepth 100000
set_option maxHeartbeats 4000000
open Go.RowKit Go.Deep
theorem qqx (p:Int) (n:Nat):inB p 0 ((n:Int) - 1)=belB p n:=by
 rw [Bool.eq_iff_iff];simp [inB,belB];omega
theorem qtd (b off len cap k:Nat) (g:Nat->I5) (p:Int) (code:Int) (ra oa:Option Addr) (rc on oc:Nat) (rs:List Int) (w:World) (_hl:(len:Int)<=9223372036854775807) (hb:b<w.heap.size) (hI:qan w b off len g) (_h1:Sl w ra rs) (_h4:(rs.length:Int)=4) (hk:k<len) (hp:p=k) (_a0:0<=(g k).a) (_a3:(g k).a<=3) (ho:(g k).o=1):
  Calls prog 168 #[.slice (some (aQ b off)) len cap,stV p ra rs.length rc oa on oc code] w (rB w (evV (evK 1) (evP 1 (g k).n) (evW 1 (g k).a rs))):=by
 subst hp;have hk':(k:Int)<(len:Int):=by omega
 obtain ⟨c0,c1,c2,c3,c4⟩:=hI k hk;rw [ho] at c0;clear hI _h1 _a0 _a3 ho _h4
 go_enter func168,ntmps168
 go_wp2;refine bodyPost_ret (v:=evV 1 0 0) (by simp [results,results168,go_sem]) rfl ⟨rfl,?_⟩
 go_grown
theorem qte (b off len cap k:Nat) (g:Nat->I5) (p:Int) (code:Int) (ra oa:Option Addr) (rc on oc:Nat) (rs:List Int) (w:World) (_hl:(len:Int)<=9223372036854775807) (hb:b<w.heap.size) (hI:qan w b off len g) (_h1:Sl w ra rs) (_h4:(rs.length:Int)=4) (hk:k<len) (hp:p=k) (_a0:0<=(g k).a) (_a3:(g k).a<=3) (ho:(g k).o=2):
  Calls prog 168 #[.slice (some (aQ b off)) len cap,stV p ra rs.length rc oa on oc code] w (rB w (evV (evK 2) (evP 2 (g k).n) (evW 2 (g k).a rs))):=by
 subst hp;have hk':(k:Int)<(len:Int):=by omega
 obtain ⟨c0,c1,c2,c3,c4⟩:=hI k hk;rw [ho] at c0;clear hI _h1 _a0 _a3 ho _h4
 go_enter func168,ntmps168
 go_wp2;refine bodyPost_ret (v:=evV 1 0 0) (by simp [results,results168,go_sem]) rfl ⟨rfl,?_⟩
 go_grown
theorem qtf (b off len cap k:Nat) (g:Nat->I5) (p:Int) (code:Int) (ra oa:Option Addr) (rc on oc:Nat) (rs:List Int) (w:World) (_hl:(len:Int)<=9223372036854775807) (hb:b<w.heap.size) (hI:qan w b off len g) (_h1:Sl w ra rs) (_h4:(rs.length:Int)=4) (hk:k<len) (hp:p=k) (_a0:0<=(g k).a) (_a3:(g k).a<=3) (ho:(g k).o=3):
  Calls prog 168 #[.slice (some (aQ b off)) len cap,stV p ra rs.length rc oa on oc code] w (rB w (evV (evK 3) (evP 3 (g k).n) (evW 3 (g k).a rs))):=by
 subst hp;have hk':(k:Int)<(len:Int):=by omega
 obtain ⟨c0,c1,c2,c3,c4⟩:=hI k hk;rw [ho] at c0;clear hI _h1 _a0 _a3 ho _h4
 go_enter func168,ntmps168
 go_wp2;refine bodyPost_ret (v:=evV 1 0 0) (by simp [results,results168,go_sem]) rfl ⟨rfl,?_⟩
 go_grown
theorem qtg (b off len cap k:Nat) (g:Nat->I5) (p:Int) (code:Int) (ra oa:Option Addr) (rc on oc:Nat) (rs:List Int) (w:World) (_hl:(len:Int)<=9223372036854775807) (hb:b<w.heap.size) (hI:qan w b off len g) (_h1:Sl w ra rs) (_h4:(rs.length:Int)=4) (hk:k<len) (hp:p=k) (_a0:0<=(g k).a) (_a3:(g k).a<=3) (ho:(g k).o=4):
  Calls prog 168 #[.slice (some (aQ b off)) len cap,stV p ra rs.length rc oa on oc code] w (rB w (evV (evK 4) (evP 4 (g k).n) (evW 4 (g k).a rs))):=by
 subst hp;have hk':(k:Int)<(len:Int):=by omega
 obtain ⟨c0,c1,c2,c3,c4⟩:=hI k hk;rw [ho] at c0;clear hI _h1 _a0 _a3 ho _h4
 go_enter func168,ntmps168
 go_wp2;refine bodyPost_ret (v:=evV 1 0 0) (by simp [results,results168,go_sem]) rfl ⟨rfl,?_⟩
 go_grown
theorem qth (b off len cap k:Nat) (g:Nat->I5) (p:Int) (code:Int) (ra oa:Option Addr) (rc on oc:Nat) (rs:List Int) (w:World) (_hl:(len:Int)<=9223372036854775807) (hb:b<w.heap.size) (hI:qan w b off len g) (_h1:Sl w ra rs) (_h4:(rs.length:Int)=4) (hk:k<len) (hp:p=k) (_a0:0<=(g k).a) (_a3:(g k).a<=3) (ho:(g k).o=5):
  Calls prog 168 #[.slice (some (aQ b off)) len cap,stV p ra rs.length rc oa on oc code] w (rB w (evV (evK 5) (evP 5 (g k).n) (evW 5 (g k).a rs))):=by
 subst hp;have hk':(k:Int)<(len:Int):=by omega
 obtain ⟨c0,c1,c2,c3,c4⟩:=hI k hk;rw [ho] at c0;clear hI _h1 _a0 _a3 ho _h4
 go_enter func168,ntmps168
 go_wp2;refine bodyPost_ret (v:=evV 1 0 0) (by simp [results,results168,go_sem]) rfl ⟨rfl,?_⟩
 go_grown
theorem qti (b off len cap k:Nat) (g:Nat->I5) (p:Int) (code:Int) (ra oa:Option Addr) (rc on oc:Nat) (rs:List Int) (w:World) (_hl:(len:Int)<=9223372036854775807) (hb:b<w.heap.size) (hI:qan w b off len g) (h1:Sl w ra rs) (h4:(rs.length:Int)=4) (hk:k<len) (hp:p=k) (a0:0<=(g k).a) (a3:(g k).a<=3) (ho:(g k).o=6):
  Calls prog 168 #[.slice (some (aQ b off)) len cap,stV p ra rs.length rc oa on oc code] w (rB w (evV (evK 6) (evP 6 (g k).n) (evW 6 (g k).a rs))):=by
 subst hp;have hk':(k:Int)<(len:Int):=by omega
 obtain ⟨c0,c1,c2,c3,c4⟩:=hI k hk;rw [ho] at c0;obtain ⟨j,hj⟩:=Int.eq_ofNat_of_zero_le a0;rw [hj] at c2;have hj4:j<rs.length:=by omega
 have hj4':(j:Int)<(rs.length:Int):=by omega
 obtain ⟨b',off',rfl,hb',cr⟩:=h1.at hj4;have hb1:b'<w.heap.size+1:=by omega
 have hb2:b'<w.heap.size+1+1:=by omega
 have HJ:Hid ((g k).a.toNat=j):=by show (g k).a.toNat=j;omega
 clear hI h1 a0 a3 ho hj h4
 go_enter func168,ntmps168
 go_wp2_with fail
 go_region
 all_goals
  go_wp2;refine bodyPost_ret (v:=evV 2 (g k).n (zi rs j)) (by simp [results,results168,go_sem]) rfl ⟨qu4 (by simp [evK,evP,evW,HJ.out]),?_⟩
  go_grown
theorem qtj (b off len cap k:Nat) (g:Nat->I5) (p:Int) (code:Int) (ra oa:Option Addr) (rc on oc:Nat) (rs:List Int) (w:World) (_hl:(len:Int)<=9223372036854775807) (hb:b<w.heap.size) (hI:qan w b off len g) (_h1:Sl w ra rs) (_h4:(rs.length:Int)=4) (hk:k<len) (hp:p=k) (_a0:0<=(g k).a) (_a3:(g k).a<=3) (ho:(g k).o=7):
  Calls prog 168 #[.slice (some (aQ b off)) len cap,stV p ra rs.length rc oa on oc code] w (rB w (evV (evK 7) (evP 7 (g k).n) (evW 7 (g k).a rs))):=by
 subst hp;have hk':(k:Int)<(len:Int):=by omega
 obtain ⟨c0,c1,c2,c3,c4⟩:=hI k hk;rw [ho] at c0;clear hI _h1 _a0 _a3 ho _h4
 go_enter func168,ntmps168
 go_wp2;refine bodyPost_ret (v:=evV 3 (g k).n 0) (by simp [results,results168,go_sem]) rfl ⟨rfl,?_⟩
 go_grown
theorem qtk (b off len cap k:Nat) (g:Nat->I5) (p:Int) (code:Int) (ra oa:Option Addr) (rc on oc:Nat) (rs:List Int) (w:World) (_hl:(len:Int)<=9223372036854775807) (hb:b<w.heap.size) (hI:qan w b off len g) (h1:Sl w ra rs) (h4:(rs.length:Int)=4) (hk:k<len) (hp:p=k) (a0:0<=(g k).a) (a3:(g k).a<=3) (ho:(g k).o=8):
  Calls prog 168 #[.slice (some (aQ b off)) len cap,stV p ra rs.length rc oa on oc code] w (rB w (evV (evK 8) (evP 8 (g k).n) (evW 8 (g k).a rs))):=by
 subst hp;have hk':(k:Int)<(len:Int):=by omega
 obtain ⟨c0,c1,c2,c3,c4⟩:=hI k hk;rw [ho] at c0;obtain ⟨j,hj⟩:=Int.eq_ofNat_of_zero_le a0;rw [hj] at c2;have hj4:j<rs.length:=by omega
 have hj4':(j:Int)<(rs.length:Int):=by omega
 obtain ⟨b',off',rfl,hb',cr⟩:=h1.at hj4;have hb1:b'<w.heap.size+1:=by omega
 have hb2:b'<w.heap.size+1+1:=by omega
 have HJ:Hid ((g k).a.toNat=j):=by show (g k).a.toNat=j;omega
 clear hI h1 a0 a3 ho hj h4
 go_enter func168,ntmps168
 go_wp2;refine bodyPost_ret (v:=evV 4 0 (zi rs j)) (by simp [results,results168,go_sem]) rfl ⟨qu4 (by simp [evK,evP,evW,HJ.out]),?_⟩
 go_grown
theorem qtl (b off len cap k:Nat) (g:Nat->I5) (p:Int) (code:Int) (ra oa:Option Addr) (rc on oc:Nat) (rs:List Int) (w:World) (_hl:(len:Int)<=9223372036854775807) (hb:b<w.heap.size) (hI:qan w b off len g) (_h1:Sl w ra rs) (_h4:(rs.length:Int)=4) (hk:k<len) (hp:p=k) (_a0:0<=(g k).a) (_a3:(g k).a<=3) (ho:(g k).o=9):
  Calls prog 168 #[.slice (some (aQ b off)) len cap,stV p ra rs.length rc oa on oc code] w (rB w (evV (evK 9) (evP 9 (g k).n) (evW 9 (g k).a rs))):=by
 subst hp;have hk':(k:Int)<(len:Int):=by omega
 obtain ⟨c0,c1,c2,c3,c4⟩:=hI k hk;rw [ho] at c0;clear hI _h1 _a0 _a3 ho _h4
 go_enter func168,ntmps168
 go_wp2;refine bodyPost_ret (v:=evV 1 0 0) (by simp [results,results168,go_sem]) rfl ⟨rfl,?_⟩
 go_grown
theorem qrg (b off len cap k:Nat) (g:Nat->I5) (p:Int) (code:Int) (ra oa:Option Addr) (rc on oc:Nat) (rs:List Int) (w:World) (_hl:(len:Int)<=9223372036854775807) (hb:b<w.heap.size) (hI:qan w b off len g) (_h1:Sl w ra rs) (_h4:(rs.length:Int)=4) (hk:k<len) (hp:p=k) (_a0:0<=(g k).a) (_a3:(g k).a<=3) (ho:(g k).o=10):
  Calls prog 168 #[.slice (some (aQ b off)) len cap,stV p ra rs.length rc oa on oc code] w (rB w (evV (evK 10) (evP 10 (g k).n) (evW 10 (g k).a rs))):=by
 subst hp;have hk':(k:Int)<(len:Int):=by omega
 obtain ⟨c0,c1,c2,c3,c4⟩:=hI k hk;rw [ho] at c0;clear hI _h1 _a0 _a3 ho _h4
 go_enter func168,ntmps168
 go_wp2;refine bodyPost_ret (v:=evV 1 0 0) (by simp [results,results168,go_sem]) rfl ⟨rfl,?_⟩
 go_grown
theorem qrh (b off len cap k:Nat) (g:Nat->I5) (p:Int) (code:Int) (ra oa:Option Addr) (rc on oc:Nat) (rs:List Int) (w:World) (_hl:(len:Int)<=9223372036854775807) (hb:b<w.heap.size) (hI:qan w b off len g) (_h1:Sl w ra rs) (_h4:(rs.length:Int)=4) (hk:k<len) (hp:p=k) (_a0:0<=(g k).a) (_a3:(g k).a<=3) (ho:(g k).o=11):
  Calls prog 168 #[.slice (some (aQ b off)) len cap,stV p ra rs.length rc oa on oc code] w (rB w (evV (evK 11) (evP 11 (g k).n) (evW 11 (g k).a rs))):=by
 subst hp;have hk':(k:Int)<(len:Int):=by omega
 obtain ⟨c0,c1,c2,c3,c4⟩:=hI k hk;rw [ho] at c0;clear hI _h1 _a0 _a3 ho _h4
 go_enter func168,ntmps168
 go_wp2;refine bodyPost_ret (v:=evV 1 0 0) (by simp [results,results168,go_sem]) rfl ⟨rfl,?_⟩
 go_grown
theorem qbh (b off len cap k:Nat) (g:Nat->I5) (code:Int) (ra oa:Option Addr) (rc on oc:Nat) (rs:List Int) (w:World) (hlen:len<=maxLen) (hb:b<w.heap.size) (hI:qan w b off len g) (h1:Sl w ra rs) (h4:rs.length=4) (hk:k<len) (h2:qac g len 4=true):
  Calls prog 168 #[.slice (some (aQ b off)) len cap,stV k ra rs.length rc oa on oc code] w (rB w (evV (evK (g k).o) (evP (g k).o (g k).n) (evW (g k).o (g k).a rs))):=by
 obtain ⟨⟨o1,o11⟩,-,⟨a0,a3⟩,-⟩:=qch (qb0 h2 hk);have hl:(len:Int)<=9223372036854775807:=by unfold maxLen at hlen;omega
 have h4':(rs.length:Int)=4:=by omega
 rcases qe5 (g k).o with ho | ho | ho | ho | ho | ho | ho | ho | ho | ho | ho | ho
 ·omega
 ·rw [ho];exact qtd b off len cap k g k code ra oa rc on oc rs w hl hb hI h1 h4' hk rfl a0 a3 ho
 ·rw [ho];exact qte b off len cap k g k code ra oa rc on oc rs w hl hb hI h1 h4' hk rfl a0 a3 ho
 ·rw [ho];exact qtf b off len cap k g k code ra oa rc on oc rs w hl hb hI h1 h4' hk rfl a0 a3 ho
 ·rw [ho];exact qtg b off len cap k g k code ra oa rc on oc rs w hl hb hI h1 h4' hk rfl a0 a3 ho
 ·rw [ho];exact qth b off len cap k g k code ra oa rc on oc rs w hl hb hI h1 h4' hk rfl a0 a3 ho
 ·rw [ho];exact qti b off len cap k g k code ra oa rc on oc rs w hl hb hI h1 h4' hk rfl a0 a3 ho
 ·rw [ho];exact qtj b off len cap k g k code ra oa rc on oc rs w hl hb hI h1 h4' hk rfl a0 a3 ho
 ·rw [ho];exact qtk b off len cap k g k code ra oa rc on oc rs w hl hb hI h1 h4' hk rfl a0 a3 ho
 ·rw [ho];exact qtl b off len cap k g k code ra oa rc on oc rs w hl hb hI h1 h4' hk rfl a0 a3 ho
 ·rw [ho];exact qrg b off len cap k g k code ra oa rc on oc rs w hl hb hI h1 h4' hk rfl a0 a3 ho
 ·rw [ho];exact qrh b off len cap k g k code ra oa rc on oc rs w hl hb hI h1 h4' hk rfl a0 a3 ho
theorem zW (w:World) (cs:Array Value) (t:TypeId) (j:Nat) {N:Nat} (h:N=w.heap.size):(w.alloc (.cells cs t)).cell? (aQ N j)=cs[j]?:=by
 subst h;simp
theorem yD (w:World) (cs:Array Value) (t:TypeId) (j:Nat) {N:Nat} (h:N=w.heap.size):(w.alloc (.cells cs t)).frozen? (aQ N j)=false:=by
 subst h;simp
theorem qaf.put4 {w:World} {B B' N:Nat} {v:Value} {p code:Int} {rs os:List Int} {a b c d:Value} (h:qaf w B' v p rs os code) (hN:N<B') (hB:B<=B'):qaf ((((w.setCell (aQ N 0) a).setCell (aQ N 1) b).setCell (aQ N 2) c).setCell (aQ N 3) d) B v p rs os code:=by
 obtain ⟨vr,vo,e,o1,o2,ha⟩:=h;exact ⟨vr,vo,e,((((o1.setBelow hN _).setBelow hN _).setBelow hN _).setBelow hN _).mono hB,((((o2.setBelow hN _).setBelow hN _).setBelow hN _).setBelow hN _).mono hB,ha⟩
structure qa6 (w:World) (N:Nat) (p vr vo code:Value) (ek eq ev:Int):Prop where
 p0:w.cell? (aQ N 0)=some p
 p1:w.cell? (aQ N 1)=some vr
 p2:w.cell? (aQ N 2)=some vo
 p3:w.cell? (aQ N 3)=some code
 e0:w.cell? ⟨N+1,0,none⟩=some (iV ek)
 e1:w.cell? ⟨N+1,1,none⟩=some (iV eq)
 e2:w.cell? ⟨N+1,2,none⟩=some (iV ev)
 r0:w.cell? ⟨N+1+1,0,none⟩=some (iV 0)
 r1:w.cell? ⟨N+1+1,1,none⟩=some nS
 r2:w.cell? ⟨N+1+1,2,none⟩=some nS
 r3:w.cell? ⟨N+1+1,3,none⟩=some (iV 0)
 rf:∀ j,w.frozen? ⟨N+1+1,j,none⟩=false
theorem qa6.lt {w:World} {N:Nat} {p vr vo code:Value} {ek eq ev:Int} (h:qa6 w N p vr vo code ek eq ev):N+1+1<w.heap.size:=zJ w _ h.r0
theorem qa6.kept {w w':World} {N:Nat} {p vr vo code:Value} {ek eq ev:Int} (h:qa6 w N p vr vo code ek eq ev) (hb:∀ k,N<=k->k<=N+1+1->w'.heap[k]? = w.heap[k]?):qa6 w' N p vr vo code ek eq ev:=
 ⟨(World.cell?_of_block (hb N (by omega) (by omega))).trans h.p0, (World.cell?_of_block (hb N (by omega) (by omega))).trans h.p1, (World.cell?_of_block (hb N (by omega) (by omega))).trans h.p2, (World.cell?_of_block (hb N (by omega) (by omega))).trans h.p3,
  (zH (hb (N+1) (by omega) (by omega))).trans h.e0,(zH (hb (N+1) (by omega) (by omega))).trans h.e1,(zH (hb (N+1) (by omega) (by omega))).trans h.e2,
  (zH (hb (N+1+1) (by omega) (by omega))).trans h.r0,(zH (hb (N+1+1) (by omega) (by omega))).trans h.r1,(zH (hb (N+1+1) (by omega) (by omega))).trans h.r2,(zH (hb (N+1+1) (by omega) (by omega))).trans h.r3,
  fun j=>(zI (hb (N+1+1) (by omega) (by omega))).trans (h.rf j)⟩
theorem qa6.bw {w w':World} {N:Nat} {p vr vo code:Value} {ek eq ev:Int} (h:qa6 w N p vr vo code ek eq ev) (hb:Bw w w'):qa6 w' N p vr vo code ek eq ev:=
 h.kept fun k _ hk=>hb.block k (by have:=h.lt;omega)
theorem qa6.new (w:World) (p vr vo code:Value) (ek eq ev:Int) (t u v:TypeId):qa6 (((w.alloc (.cells #[p,vr,vo,code] t)).alloc (.cells #[iV ek,iV eq,iV ev] u)).alloc (.cells #[iV 0,nS,nS,iV 0] v)) w.heap.size p vr vo code ek eq ev:=by
 refine ⟨?_,?_,?_,?_,?_,?_,?_,?_,?_,?_,?_,?_⟩
 ·rw [zS _ _ (by simp;omega),zS _ _ (by simp)];exact zW w _ _ 0 rfl
 ·rw [zS _ _ (by simp;omega),zS _ _ (by simp)];exact zW w _ _ 1 rfl
 ·rw [zS _ _ (by simp;omega),zS _ _ (by simp)];exact zW w _ _ 2 rfl
 ·rw [zS _ _ (by simp;omega),zS _ _ (by simp)];exact zW w _ _ 3 rfl
 ·rw [zS _ _ (by simp)];exact zW _ _ _ 0 (by simp)
 ·rw [zS _ _ (by simp)];exact zW _ _ _ 1 (by simp)
 ·rw [zS _ _ (by simp)];exact zW _ _ _ 2 (by simp)
 ·exact zW _ _ _ 0 (by simp)
 ·exact zW _ _ _ 1 (by simp)
 ·exact zW _ _ _ 2 (by simp)
 ·exact zW _ _ _ 3 (by simp)
 ·exact fun j=>yD _ _ _ j (by simp)
def EvC3 (w:World) (N:Nat) (k p v:Int):Prop:=w.cell? (aQ N 0)=some (iV k)/\w.cell? (aQ N 1)=some (iV p)/\w.cell? (aQ N 2)=some (iV v)
theorem EvC3.bw {w w':World} {N:Nat} {k p v:Int} (h:EvC3 w N k p v) (hb:Bw w w'):EvC3 w' N k p v:=by
 obtain ⟨h0,h1,h2⟩:=h;have hN:N<w.heap.size:=zJ w _ h0;exact ⟨(hb.cell (p:=(aQ N 0)) hN).trans h0,(hb.cell (p:=(aQ N 1)) hN).trans h1,(hb.cell (p:=(aQ N 2)) hN).trans h2⟩
theorem EvC3.new (w:World) (k p v:Int) (t:TypeId):EvC3 (w.alloc (.cells #[iV k,iV p,iV v] t)) w.heap.size k p v:=by
 unfold EvC3;simp
theorem qaf.recode {w:World} {B:Nat} {p code:Int} {ra oa:Option Addr} {rn rc on oc:Nat} {rs os:List Int} (h:qaf w B (stV p ra rn rc oa on oc code) p rs os code) (c:Int):qaf w B (stV p ra rn rc oa on oc c) p rs os c:=by
 obtain ⟨vr,vo,e,o1,o2,ha⟩:=h;simp only [stV,Value.agg.injEq,Array.mk.injEq,List.cons.injEq,and_true,true_and] at e;obtain ⟨rfl,rfl⟩:=e;exact ⟨_,_,rfl,o1,o2,ha⟩
theorem qaf.replace {w:World} {B:Nat} {p code:Int} {ra oa:Option Addr} {rn rc on oc:Nat} {rs os:List Int} (h:qaf w B (stV p ra rn rc oa on oc code) p rs os code) (q:Int):qaf w B (stV q ra rn rc oa on oc code) q rs os code:=by
 obtain ⟨vr,vo,e,o1,o2,ha⟩:=h;simp only [stV,Value.agg.injEq,Array.mk.injEq,List.cons.injEq,and_true,true_and] at e;obtain ⟨rfl,rfl⟩:=e;exact ⟨_,_,rfl,o1,o2,ha⟩
theorem qa6.marked {w w':World} {N:Nat} {p vr vo code v:Value} {ek eq ev:Int} (h:qa6 w N p vr vo code ek eq ev) (m:qbg v w w') (hv:∀ k,qal v k->N+1+1<k):qa6 w' N p vr vo code ek eq ev:=
 h.kept fun k _ hk=>m.block k (by have:=h.lt;omega) (fun hh=>by have:=hv k hh;omega)
def qdg (a b c a' b' c':Int):Bool:=a == a' && (b == b' && c == c')
theorem qwp (a b c a' b' c':Int) (w:World):(binOp .eql 47 (evV a b c) (evV a' b' c')).run prog w=.ok (.bool (qdg a b c a' b' c')) w:=by
 rw [run_eql_struct,show (10000:Nat)=9998+1+1 from rfl,run_equalIn_agg w (9998+1) 47 _ _ (by kernel_rfl) (by kernel_rfl)];simp only [qdg];by_cases h1:a=a' <;> by_cases h2:b=b' <;> by_cases h3:c=c' <;> simp [go_sem,h1,h2,h3]
theorem quz (a b c a' b' c':Int) (w:World):(binOp .neq 47 (evV a b c) (evV a' b' c')).run prog w=.ok (.bool (!qdg a b c a' b' c')) w:=by
 rw [run_neq_struct,show (10000:Nat)=9998+1+1 from rfl,run_equalIn_agg w (9998+1) 47 _ _ (by kernel_rfl) (by kernel_rfl)];simp only [qdg];by_cases h1:a=a' <;> by_cases h2:b=b' <;> by_cases h3:c=c' <;> simp [go_sem,h1,h2,h3]
theorem qq7 (b off len cap k:Nat) (g:Nat->I5) (ra oa:Option Addr) (rc oc:Nat) (rs os:List Int) (w:World) (hl:(len:Int)<=30) (hb:b<w.heap.size) (hI:qan w b off len g) (h4:rs.length=4) (ho:os.length<=60) (h1:Sl w ra rs) (h2:Sl w oa os) (hk:k<len) (hp:qac g len 4=true) (np nv:Int) (HN:Hid (evK (g k).o=2/\evP (g k).o (g k).n=np/\evW (g k).o (g k).a rs=nv)) (H6:Hid ((g k).o=6)):
  Calls prog 138 #[.slice (some (aQ b off)) len cap,stV k ra rs.length rc oa os.length oc 0,evV 2 np nv] w fun e w'=>∃ v,e=.returned (.tuple #[v,.bool true])/\qaf w' w.heap.size v (qad len (g k) k rs os 0 nv).p (qad len (g k) k rs os 0 nv).rs (qad len (g k) k rs os 0 nv).os (qad len (g k) k rs os 0 nv).c/\Bw w w':=by
 have HI:Hid (qan w b off len g):=hI;have H1:Hid (Sl w ra rs):=h1;have H2:Hid (Sl w oa os):=h2;have H4:Hid (rs.length=4):=h4;have HP:Hid (qac g len 4=true):=hp;have hk':(k:Int)<(len:Int):=by omega
 clear hI h1 h2 h4 hp
 go_enter func138,ntmps138
 go_wp2_with fail
 refine (qbh _ _ _ _ k g _ _ _ _ _ _ rs _ (by unfold maxLen;omega) (by simp;omega) (HI.bw (by go_grown) hb) (H1.bw (by go_grown)) H4.out hk HP.out).mono ?_;rintro e w1 ⟨he1,b1⟩;rw [HN.1,HN.2.1,HN.2.2] at he1;subst he1;have B1:Hid (Bw w (w1.alloc (oQ0 2 np nv))):=(qaj (by go_grown) b1 (by simp;omega)).alloc (by have:=b1.size;simp at this;omega) _;have X1:Hid (qa6 (w1.alloc (oQ0 2 np nv)) w.heap.size (iV k) (.slice ra rs.length rc) (.slice oa os.length oc) (iV 0) 2 np nv):=((qa6.new w _ _ _ _ _ _ _ _ _ _).bw b1).bw (zT w1 _);clear b1;obtain ⟨p0,p1,p2,p3,-,-,-,-,-,-,-,-⟩:=X1.out;go_wp2_with fail
 clear p0 p1 p2 p3;have V1:Hid (EvC3 (w1.alloc (oQ0 2 np nv)) w1.heap.size 2 np nv):=EvC3.new w1 _ _ _ _;generalize w1.alloc (oQ0 2 np nv)=W1 at *;refine (qb3 _ _ _ _ _ _ rs os _ (by have:=H4.out;omega) (by omega) (H1.bw B1.out) (H2.bw B1.out)).mono ?_;rintro e w2 ⟨v2,rfl,o2,b2⟩;obtain ⟨ra2,rc2,oa2,oc2,rfl,-,-⟩:=o2.read;have bA:=zT w2 (oQ1 k ra2 rs.length rc2 oa2 os.length oc2 0);have q2:Bw W1 (w2.alloc (oQ1 k ra2 rs.length rc2 oa2 os.length oc2 0)):=b2.trans (bA.mono b2.size);have X2:Hid (qa6 (w2.alloc (oQ1 k ra2 rs.length rc2 oa2 os.length oc2 0)) w.heap.size (iV k) (.slice ra rs.length rc) (.slice oa os.length oc) (iV 0) 2 np nv):=X1.bw q2;have V2:Hid (EvC3 (w2.alloc (oQ1 k ra2 rs.length rc2 oa2 os.length oc2 0)) w1.heap.size 2 np nv):=V1.bw q2;have Y2:Hid (BoxC (w2.alloc (oQ1 k ra2 rs.length rc2 oa2 os.length oc2 0)) w2.heap.size (iV k) (.slice ra2 rs.length rc2) (.slice oa2 os.length oc2) (iV 0)):=BoxC.new w2 _ _ _ _ _;have F2:Hid (∀ j,(w2.alloc (oQ1 k ra2 rs.length rc2 oa2 os.length oc2 0)).frozen? ⟨w2.heap.size,j,none⟩=false):=fun j=>by simp
 have O2:Hid (qaf (w2.alloc (oQ1 k ra2 rs.length rc2 oa2 os.length oc2 0)) W1.heap.size (stV k ra2 rs.length rc2 oa2 os.length oc2 0) k rs os 0):=o2.bw bA;have L2:Hid (∀ j,qal (stV k ra2 rs.length rc2 oa2 os.length oc2 0) j->W1.heap.size<=j/\j<w2.heap.size):=fun j hj=>o2.lt hj;have B2:Hid (Bw w (w2.alloc (oQ1 k ra2 rs.length rc2 oa2 os.length oc2 0))):=B1.trans (q2.mono B1.size);have zw:w.heap.size+1+1<W1.heap.size:=X1.lt;have zv:w1.heap.size<W1.heap.size:=zJ W1 _ V1.1;have z2:W1.heap.size<=w2.heap.size:=b2.size;clear b2 o2 bA q2 X1 V1 B1;obtain ⟨p0,p1,p2,p3,e0,e1,e2,r0,r1,r2,r3,rf⟩:=X2.out;obtain ⟨u0,u1,u2⟩:=V2.out;obtain ⟨t0,t1,t2,t3⟩:=Y2.out;have tf:=F2.out;go_wp2_with fail
 clear p0 p1 p2 p3 e0 e1 e2 r0 r1 r2 r3 rf u0 u1 u2 t0 t1 t2 t3 tf;generalize w2.alloc (oQ1 k ra2 rs.length rc2 oa2 os.length oc2 0)=W2 at *;refine (qcj _ _ _ _ _ _ _ _ _ _ _ _ (by omega) (by omega)).mono ?_;rintro e w3 ⟨rfl,b3⟩;have X3:Hid (qa6 w3 w.heap.size (iV k) (.slice ra rs.length rc) (.slice oa os.length oc) (iV 0) 2 np nv):=X2.bw b3;have O3:Hid (qaf w3 W1.heap.size (stV k ra2 rs.length rc2 oa2 os.length oc2 0) k rs os 0):=O2.bw b3;have B3:Hid (Bw w w3):=B2.trans (b3.mono B2.size);clear b3 X2 V2 Y2 F2 O2 B2;obtain ⟨-,-,-,-,-,-,-,r0,r1,r2,r3,rf⟩:=X3.out;go_wp2;refine bodyPost_ret (v:=.tuple #[stV (goP len k) ra2 rs.length rc2 oa2 os.length oc2 (goC len k 0),.bool true]) (by simp [results,results138,go_sem,r0,r1,r2,r3]) rfl ⟨_,rfl,?_,?_⟩
 ·have hd:qad len (g k) k rs os 0 nv=goS len k rs os 0:=by
   unfold qad;rw [H6.out,nC rfl]
  rw [hd];exact qaf.put4 (B':=W1.heap.size) ((O3.replace _).recode _) zw (by omega)
 ·have:=B3.out
  go_grown
theorem qmx (b off len cap k:Nat) (g:Nat->I5) (ra oa:Option Addr) (rc oc:Nat) (rs os:List Int) (ek eq ev:Int) (w:World) (hl:(len:Int)<=30) (hb:b<w.heap.size) (hI:qan w b off len g) (h4:rs.length=4) (ho:os.length<=60) (h1:Sl w ra rs) (h2:Sl w oa os) (hk:k<len) (hp:qac g len 4=true) (K np nv:Int) (hK:(K == 3)=false) (HN:Hid (evK (g k).o=K/\evP (g k).o (g k).n=np/\evW (g k).o (g k).a rs=nv)) (hE:qdg ek eq ev K np nv=false):
  Calls prog 138 #[.slice (some (aQ b off)) len cap,stV k ra rs.length rc oa os.length oc 0,evV ek eq ev] w fun e w'=>∃ v,e=.returned (.tuple #[v,.bool false])/\qaf w' w.heap.size v k rs os 0/\Bw w w':=by
 have HI:Hid (qan w b off len g):=hI;have H1:Hid (Sl w ra rs):=h1;have H2:Hid (Sl w oa os):=h2;have H4:Hid (rs.length=4):=h4;have HP:Hid (qac g len 4=true):=hp;have hk':(k:Int)<(len:Int):=by omega
 clear hI h1 h2 h4 hp
 go_enter func138,ntmps138
 go_wp2_with fail
 refine (qbh _ _ _ _ k g _ _ _ _ _ _ rs _ (by unfold maxLen;omega) (by simp;omega) (HI.bw (by go_grown) hb) (H1.bw (by go_grown)) H4.out hk HP.out).mono ?_;rintro e w1 ⟨he1,b1⟩;rw [HN.1,HN.2.1,HN.2.2] at he1;subst he1;have B1:Hid (Bw w (w1.alloc (oQ0 K np nv))):=(qaj (by go_grown) b1 (by simp;omega)).alloc (by have:=b1.size;simp at this;omega) _;have X1:Hid (qa6 (w1.alloc (oQ0 K np nv)) w.heap.size (iV k) (.slice ra rs.length rc) (.slice oa os.length oc) (iV 0) ek eq ev):=((qa6.new w _ _ _ _ _ _ _ _ _ _).bw b1).bw (zT w1 _);clear b1;obtain ⟨p0,p1,p2,p3,-,-,-,-,-,-,-,-⟩:=X1.out;go_wp2_with fail
 clear p0 p1 p2 p3;have V1:Hid (EvC3 (w1.alloc (oQ0 K np nv)) w1.heap.size K np nv):=EvC3.new w1 _ _ _ _;generalize w1.alloc (oQ0 K np nv)=W1 at *;refine (qb3 _ _ _ _ _ _ rs os _ (by have:=H4.out;omega) (by omega) (H1.bw B1.out) (H2.bw B1.out)).mono ?_;rintro e w2 ⟨v2,rfl,o2,b2⟩;obtain ⟨ra2,rc2,oa2,oc2,rfl,-,-⟩:=o2.read;have bA:=zT w2 (oQ1 k ra2 rs.length rc2 oa2 os.length oc2 0);have q2:Bw W1 (w2.alloc (oQ1 k ra2 rs.length rc2 oa2 os.length oc2 0)):=b2.trans (bA.mono b2.size);have X2:Hid (qa6 (w2.alloc (oQ1 k ra2 rs.length rc2 oa2 os.length oc2 0)) w.heap.size (iV k) (.slice ra rs.length rc) (.slice oa os.length oc) (iV 0) ek eq ev):=X1.bw q2;have V2:Hid (EvC3 (w2.alloc (oQ1 k ra2 rs.length rc2 oa2 os.length oc2 0)) w1.heap.size K np nv):=V1.bw q2;have Y2:Hid (BoxC (w2.alloc (oQ1 k ra2 rs.length rc2 oa2 os.length oc2 0)) w2.heap.size (iV k) (.slice ra2 rs.length rc2) (.slice oa2 os.length oc2) (iV 0)):=BoxC.new w2 _ _ _ _ _;have F2:Hid (∀ j,(w2.alloc (oQ1 k ra2 rs.length rc2 oa2 os.length oc2 0)).frozen? ⟨w2.heap.size,j,none⟩=false):=fun j=>by simp
 have O2:Hid (qaf (w2.alloc (oQ1 k ra2 rs.length rc2 oa2 os.length oc2 0)) W1.heap.size (stV k ra2 rs.length rc2 oa2 os.length oc2 0) k rs os 0):=o2.bw bA;have L2:Hid (∀ j,qal (stV k ra2 rs.length rc2 oa2 os.length oc2 0) j->W1.heap.size<=j/\j<w2.heap.size):=fun j hj=>o2.lt hj;have B2:Hid (Bw w (w2.alloc (oQ1 k ra2 rs.length rc2 oa2 os.length oc2 0))):=B1.trans (q2.mono B1.size);have zw:w.heap.size+1+1<W1.heap.size:=X1.lt;have zv:w1.heap.size<W1.heap.size:=zJ W1 _ V1.1;have z2:W1.heap.size<=w2.heap.size:=b2.size;clear b2 o2 bA q2 X1 V1 B1;obtain ⟨p0,p1,p2,p3,e0,e1,e2,r0,r1,r2,r3,rf⟩:=X2.out;obtain ⟨u0,u1,u2⟩:=V2.out;obtain ⟨t0,t1,t2,t3⟩:=Y2.out;have tf:=F2.out;have hne:∀ wx,(binOp .neq 47 (evV ek eq ev) (evV K np nv)).run prog wx=.ok (.bool true) wx:=fun wx=>by rw [quz,hE];rfl
 clear hE;go_wp2;refine bodyPost_ret (v:=.tuple #[stV k ra2 rs.length rc2 oa2 os.length oc2 0,.bool false]) (by simp [results,results138,go_sem,r0,r1,r2,r3]) rfl ⟨_,rfl,?_,?_⟩
 ·exact qaf.put4 (B':=W1.heap.size) O2.out zw (by omega)
 ·have:=B2.out
  go_grown
theorem qq6 (b off len cap k:Nat) (g:Nat->I5) (ra oa:Option Addr) (rc oc:Nat) (rs os:List Int) (w:World) (hl:(len:Int)<=30) (hb:b<w.heap.size) (hI:qan w b off len g) (h4:rs.length=4) (ho:os.length<=60) (h1:Sl w ra rs) (h2:Sl w oa os) (hk:k<len) (hp:qac g len 4=true) (np nv:Int) (HN:Hid (evK (g k).o=4/\evP (g k).o (g k).n=np/\evW (g k).o (g k).a rs=nv)) (H8:Hid ((g k).o=8/\os.length=60)) (h60:((os.length:Int) == 60)=true):
  Calls prog 138 #[.slice (some (aQ b off)) len cap,stV k ra rs.length rc oa os.length oc 0,evV 4 np nv] w fun e w'=>∃ v,e=.returned (.tuple #[v,.bool true])/\qaf w' w.heap.size v (qad len (g k) k rs os 0 nv).p (qad len (g k) k rs os 0 nv).rs (qad len (g k) k rs os 0 nv).os (qad len (g k) k rs os 0 nv).c/\Bw w w':=by
 have HI:Hid (qan w b off len g):=hI;have H1:Hid (Sl w ra rs):=h1;have H2:Hid (Sl w oa os):=h2;have H4:Hid (rs.length=4):=h4;have HP:Hid (qac g len 4=true):=hp;have hk':(k:Int)<(len:Int):=by omega
 clear hI h1 h2 h4 hp
 go_enter func138,ntmps138
 go_wp2_with fail
 refine (qbh _ _ _ _ k g _ _ _ _ _ _ rs _ (by unfold maxLen;omega) (by simp;omega) (HI.bw (by go_grown) hb) (H1.bw (by go_grown)) H4.out hk HP.out).mono ?_;rintro e w1 ⟨he1,b1⟩;rw [HN.1,HN.2.1,HN.2.2] at he1;subst he1;have B1:Hid (Bw w (w1.alloc (oQ0 4 np nv))):=(qaj (by go_grown) b1 (by simp;omega)).alloc (by have:=b1.size;simp at this;omega) _;have X1:Hid (qa6 (w1.alloc (oQ0 4 np nv)) w.heap.size (iV k) (.slice ra rs.length rc) (.slice oa os.length oc) (iV 0) 4 np nv):=((qa6.new w _ _ _ _ _ _ _ _ _ _).bw b1).bw (zT w1 _);clear b1;obtain ⟨p0,p1,p2,p3,-,-,-,-,-,-,-,-⟩:=X1.out;go_wp2_with fail
 clear p0 p1 p2 p3;have V1:Hid (EvC3 (w1.alloc (oQ0 4 np nv)) w1.heap.size 4 np nv):=EvC3.new w1 _ _ _ _;generalize w1.alloc (oQ0 4 np nv)=W1 at *;refine (qb3 _ _ _ _ _ _ rs os _ (by have:=H4.out;omega) (by omega) (H1.bw B1.out) (H2.bw B1.out)).mono ?_;rintro e w2 ⟨v2,rfl,o2,b2⟩;obtain ⟨ra2,rc2,oa2,oc2,rfl,-,-⟩:=o2.read;have bA:=zT w2 (oQ1 k ra2 rs.length rc2 oa2 os.length oc2 0);have q2:Bw W1 (w2.alloc (oQ1 k ra2 rs.length rc2 oa2 os.length oc2 0)):=b2.trans (bA.mono b2.size);have X2:Hid (qa6 (w2.alloc (oQ1 k ra2 rs.length rc2 oa2 os.length oc2 0)) w.heap.size (iV k) (.slice ra rs.length rc) (.slice oa os.length oc) (iV 0) 4 np nv):=X1.bw q2;have V2:Hid (EvC3 (w2.alloc (oQ1 k ra2 rs.length rc2 oa2 os.length oc2 0)) w1.heap.size 4 np nv):=V1.bw q2;have Y2:Hid (BoxC (w2.alloc (oQ1 k ra2 rs.length rc2 oa2 os.length oc2 0)) w2.heap.size (iV k) (.slice ra2 rs.length rc2) (.slice oa2 os.length oc2) (iV 0)):=BoxC.new w2 _ _ _ _ _;have F2:Hid (∀ j,(w2.alloc (oQ1 k ra2 rs.length rc2 oa2 os.length oc2 0)).frozen? ⟨w2.heap.size,j,none⟩=false):=fun j=>by simp
 have O2:Hid (qaf (w2.alloc (oQ1 k ra2 rs.length rc2 oa2 os.length oc2 0)) W1.heap.size (stV k ra2 rs.length rc2 oa2 os.length oc2 0) k rs os 0):=o2.bw bA;have L2:Hid (∀ j,qal (stV k ra2 rs.length rc2 oa2 os.length oc2 0) j->W1.heap.size<=j/\j<w2.heap.size):=fun j hj=>o2.lt hj;have B2:Hid (Bw w (w2.alloc (oQ1 k ra2 rs.length rc2 oa2 os.length oc2 0))):=B1.trans (q2.mono B1.size);have zw:w.heap.size+1+1<W1.heap.size:=X1.lt;have zv:w1.heap.size<W1.heap.size:=zJ W1 _ V1.1;have z2:W1.heap.size<=w2.heap.size:=b2.size;clear b2 o2 bA q2 X1 V1 B1;obtain ⟨p0,p1,p2,p3,e0,e1,e2,r0,r1,r2,r3,rf⟩:=X2.out;obtain ⟨u0,u1,u2⟩:=V2.out;obtain ⟨t0,t1,t2,t3⟩:=Y2.out;have tf:=F2.out;go_wp2_with fail
 clear p0 p1 p2 p3 e0 e1 e2 r0 r1 r2 r3 rf u0 u1 u2 t0 t1 t2 t3 tf;generalize w2.alloc (oQ1 k ra2 rs.length rc2 oa2 os.length oc2 0)=W2 at *;refine (qco _ _ _ _ _ _ _ _ _).mono ?_;rintro e w3 ⟨rfl,b3⟩;have X3:Hid (qa6 w3 w.heap.size (iV k) (.slice ra rs.length rc) (.slice oa os.length oc) (iV 0) 4 np nv):=X2.bw b3;have O3:Hid (qaf w3 W1.heap.size (stV k ra2 rs.length rc2 oa2 os.length oc2 0) k rs os 0):=O2.bw b3;have B3:Hid (Bw w w3):=B2.trans (b3.mono B2.size);clear b3 X2 V2 Y2 F2 O2 B2;obtain ⟨-,-,-,-,-,-,-,r0,r1,r2,r3,rf⟩:=X3.out;go_wp2;refine bodyPost_ret (v:=.tuple #[stV k ra2 rs.length rc2 oa2 os.length oc2 2,.bool true]) (by simp [results,results138,go_sem,r0,r1,r2,r3]) rfl ⟨_,rfl,?_,?_⟩
 ·have hd:qad len (g k) k rs os 0 nv=⟨k,rs,os,2⟩:=by
   unfold qad;rw [H8.1,nB (by decide),nB (by decide),nC rfl,nC H8.2]
  rw [hd];exact qaf.put4 (B':=W1.heap.size) (O3.recode 2) zw (by omega)
 ·have:=B3.out
  go_grown
theorem qc7 (b off len cap k:Nat) (g:Nat->I5) (ra oa:Option Addr) (rc oc:Nat) (rs os:List Int) (ek eq ev:Int) (w:World) (hl:(len:Int)<=30) (hb:b<w.heap.size) (hI:qan w b off len g) (h4:rs.length=4) (ho:os.length<=60) (h1:Sl w ra rs) (h2:Sl w oa os) (hk:k<len) (hp:qac g len 4=true) (np nv:Int) (HN:Hid (evK (g k).o=3/\evP (g k).o (g k).n=np/\evW (g k).o (g k).a rs=nv)) (HQ:Hid ((ek != 3)=true\/((ek != 3)=false/\inB ev (-1000000000) 1000000000=false)\/((ek != 3)=false/\inB ev (-1000000000) 1000000000=true/\(np != 9)=true/\(eq != np)=true)\/((ek != 3)=false/\inB ev (-1000000000) 1000000000=true/\(np != 9)=false/\inB eq 0 3=false))):
  Calls prog 138 #[.slice (some (aQ b off)) len cap,stV k ra rs.length rc oa os.length oc 0,evV ek eq ev] w fun e w'=>∃ v,e=.returned (.tuple #[v,.bool false])/\qaf w' w.heap.size v k rs os 0/\Bw w w':=by
 have HI:Hid (qan w b off len g):=hI;have H1:Hid (Sl w ra rs):=h1;have H2:Hid (Sl w oa os):=h2;have H4:Hid (rs.length=4):=h4;have HP:Hid (qac g len 4=true):=hp;have hk':(k:Int)<(len:Int):=by omega
 clear hI h1 h2 h4 hp
 go_enter func138,ntmps138
 go_wp2_with fail
 refine (qbh _ _ _ _ k g _ _ _ _ _ _ rs _ (by unfold maxLen;omega) (by simp;omega) (HI.bw (by go_grown) hb) (H1.bw (by go_grown)) H4.out hk HP.out).mono ?_;rintro e w1 ⟨he1,b1⟩;rw [HN.1,HN.2.1,HN.2.2] at he1;subst he1;have B1:Hid (Bw w (w1.alloc (oQ0 3 np nv))):=(qaj (by go_grown) b1 (by simp;omega)).alloc (by have:=b1.size;simp at this;omega) _;have X1:Hid (qa6 (w1.alloc (oQ0 3 np nv)) w.heap.size (iV k) (.slice ra rs.length rc) (.slice oa os.length oc) (iV 0) ek eq ev):=((qa6.new w _ _ _ _ _ _ _ _ _ _).bw b1).bw (zT w1 _);clear b1;obtain ⟨p0,p1,p2,p3,-,-,-,-,-,-,-,-⟩:=X1.out;go_wp2_with fail
 clear p0 p1 p2 p3;have V1:Hid (EvC3 (w1.alloc (oQ0 3 np nv)) w1.heap.size 3 np nv):=EvC3.new w1 _ _ _ _;generalize w1.alloc (oQ0 3 np nv)=W1 at *;refine (qb3 _ _ _ _ _ _ rs os _ (by have:=H4.out;omega) (by omega) (H1.bw B1.out) (H2.bw B1.out)).mono ?_;rintro e w2 ⟨v2,rfl,o2,b2⟩;obtain ⟨ra2,rc2,oa2,oc2,rfl,-,-⟩:=o2.read;have bA:=zT w2 (oQ1 k ra2 rs.length rc2 oa2 os.length oc2 0);have q2:Bw W1 (w2.alloc (oQ1 k ra2 rs.length rc2 oa2 os.length oc2 0)):=b2.trans (bA.mono b2.size);have X2:Hid (qa6 (w2.alloc (oQ1 k ra2 rs.length rc2 oa2 os.length oc2 0)) w.heap.size (iV k) (.slice ra rs.length rc) (.slice oa os.length oc) (iV 0) ek eq ev):=X1.bw q2;have V2:Hid (EvC3 (w2.alloc (oQ1 k ra2 rs.length rc2 oa2 os.length oc2 0)) w1.heap.size 3 np nv):=V1.bw q2;have Y2:Hid (BoxC (w2.alloc (oQ1 k ra2 rs.length rc2 oa2 os.length oc2 0)) w2.heap.size (iV k) (.slice ra2 rs.length rc2) (.slice oa2 os.length oc2) (iV 0)):=BoxC.new w2 _ _ _ _ _;have F2:Hid (∀ j,(w2.alloc (oQ1 k ra2 rs.length rc2 oa2 os.length oc2 0)).frozen? ⟨w2.heap.size,j,none⟩=false):=fun j=>by simp
 have O2:Hid (qaf (w2.alloc (oQ1 k ra2 rs.length rc2 oa2 os.length oc2 0)) W1.heap.size (stV k ra2 rs.length rc2 oa2 os.length oc2 0) k rs os 0):=o2.bw bA;have L2:Hid (∀ j,qal (stV k ra2 rs.length rc2 oa2 os.length oc2 0) j->W1.heap.size<=j/\j<w2.heap.size):=fun j hj=>o2.lt hj;have B2:Hid (Bw w (w2.alloc (oQ1 k ra2 rs.length rc2 oa2 os.length oc2 0))):=B1.trans (q2.mono B1.size);have zw:w.heap.size+1+1<W1.heap.size:=X1.lt;have zv:w1.heap.size<W1.heap.size:=zJ W1 _ V1.1;have z2:W1.heap.size<=w2.heap.size:=b2.size;clear b2 o2 bA q2 X1 V1 B1;obtain ⟨p0,p1,p2,p3,e0,e1,e2,r0,r1,r2,r3,rf⟩:=X2.out;obtain ⟨u0,u1,u2⟩:=V2.out;obtain ⟨t0,t1,t2,t3⟩:=Y2.out;have tf:=F2.out
 rcases HQ.out with q1 | ⟨q1,q2⟩ | ⟨q1,q2,q3,q4⟩ | ⟨q1,q2,q3,q5⟩
 all_goals
  go_wp2_with (first|(go_at_call 140;refine (l1Num_any _ _).mono ?_;rintro e w' ⟨rfl,rfl⟩)|(go_at_call 100;refine (l1In_any _ _ _ _).mono ?_;rintro e w' ⟨rfl,rfl⟩))
  refine bodyPost_ret (v:=.tuple #[stV k ra2 rs.length rc2 oa2 os.length oc2 0,.bool false]) (by simp [results,results138,go_sem,r0,r1,r2,r3]) rfl ⟨_,rfl,?_,?_⟩
  ·exact qaf.put4 (B':=W1.heap.size) O2.out zw (by omega)
  ·have:=B2.out
   go_grown
open Go.ChangeShapes Go.WideShapes Go.ChangeAt
theorem Tryz.own:ownKnob prog.godebug=none:=by kernel_rfl
theorem Tryz.laidOut:laidOutB prog=true:=by kernel_rfl
theorem qva {w:World} {p:Addr} {v:Value} (h:w.cell? p=some v):p.block<w.heap.size:=zJ w p h
theorem qem {ops:Array Oper} {rest:List Oper} {op:Oper} {act:Act} {Q:Exit->Act->World->Prop} (w:World) (hgd:op.guard=none) (s x:Operand)
  (ho:op.op=.call { callee:=.builtin .append,args:=#[s,x],argTypes:=#[30,30] })
  (B:Nat) (v:Value) (xs:List Int) (hs:act.eval s=v) (hv:OwnI w B v xs) (y:Int) (hx:act.eval x=.slice (some (aQ w.heap.size 0)) 1 1) (hn:xs.length<=1048576) (hB:B<=w.heap.size)
  (h:∀ v' w',OwnI w' B v' (xs ++ [y])->Below B w w'->wpList prog ops Q rest (act.put op.dst v') w'):
  wpList prog ops Q (op :: rest) act (w.alloc (.cells #[iV y] 3)):=by
 have hb:Bw w (w.alloc (.cells #[iV y] 3)):=(nE _ _).alloc (nA _) _;refine qa7 _ hgd s x ho B 1 v (some (aQ w.heap.size 0)) xs [y] hs hx (hv.bw hb) (.inr ⟨w.heap.size,0,rfl,by simp,fun i hi=>?_⟩) (by simp;omega) (by simp;omega) ?_
 ·have:i=0:=by simp at hi;omega
  subst this;exact zW _ _ _ 0 rfl
 ·intro v' w' o g _
  refine h v' w' o (Below.grown (hb.mono hB) g (by simp;omega) (fun k hk=>(hv.lt k hk).1))
theorem qbx {ops:Array Oper} {rest:List Oper} {op:Oper} {act:Act} {Q:Exit->Act->World->Prop} (w:World) {N:Nat} (hN:N=w.heap.size) (hgd:op.guard=none) (s x:Operand)
  (ho:op.op=.call { callee:=.builtin .append,args:=#[s,x],argTypes:=#[30,30] })
  (B:Nat) (v:Value) (xs:List Int) (hs:act.eval s=v) (hv:OwnI w B v xs) (y:Int) (hx:act.eval x=.slice (some (aQ N 0)) 1 1) (hn:xs.length<=1048576) (hB:B<=w.heap.size)
  (h:∀ v' w',OwnI w' B v' (xs ++ [y])->Below B w w'->wpList prog ops Q rest (act.put op.dst v') w'):
  wpList prog ops Q (op :: rest) act (w.alloc (.cells #[iV y] 3)):=by
 subst hN;exact qem w hgd s x ho B v xs hs hv y hx hn hB h
theorem OwnI.to {w:World} {B:Nat} {v:Value} {xs ys:List Int} (h:OwnI w B v xs) (e:ys=xs):OwnI w B v ys:=e ▸ h
abbrev dV (p a b c d:Int) (oa:Option Addr) (on oc:Nat) (code:Int):Value:=.agg #[iV p,iV a,iV b,iV c,iV d,.slice oa on oc,iV code]
theorem qcp (p a b c d:Int) (oa:Option Addr) (on oc:Nat) (code:Int) (w:World) (h0:0<=p) (h1:p<=1000000000):
  Calls prog 175 #[dV p a b c d oa on oc code] w (rB w (dV (p+1) a b c d oa on oc code)):=by
 go_enter func175,ntmps175
 go_wp2;refine bodyPost_ret (v:=dV (p+1) a b c d oa on oc code) (by simp [results,results175,go_sem]) rfl ⟨rfl,?_⟩
 go_grown
def set4 (a b c d:Int) (j:Nat) (v:Int):Int × Int × Int × Int:=if j=0 then (v,b,c,d) else if j=1 then (a,v,c,d) else if j=2 then (a,b,v,d) else (a,b,c,v)
theorem qe8 (p a b c d:Int) (oa:Option Addr) (on oc:Nat) (code:Int) (j:Nat) (v:Int) (w:World) (h0:0<=p) (h1:p<=1000000000) (hj:j<4):
  Calls prog 174 #[dV p a b c d oa on oc code,iV j,iV v] w (rB w (dV (p+1) (set4 a b c d j v).1 (set4 a b c d j v).2.1 (set4 a b c d j v).2.2.1 (set4 a b c d j v).2.2.2 oa on oc code)):=by
 have hh:j=0\/j=1\/j=2\/j=3:=by omega
 rcases hh with rfl | rfl | rfl | rfl
 ·go_enter func174,ntmps174
  go_wp2_with fail
  refine (qcp _ _ _ _ _ _ _ _ _ _ h0 h1).mono ?_;rintro e w1 ⟨rfl,b1⟩;have B1:Hid (Bw w w1):=qaj (by go_grown) b1 (by simp;omega);obtain ⟨hc1,hf1⟩:=qae b1;clear b1;go_wp2;refine bodyPost_ret (v:=dV (p+1) v b c d oa on oc code) (by simp [results,results174,go_sem,hc1]) rfl ⟨rfl,?_⟩;have:=B1.out
  go_grown
 ·go_enter func174,ntmps174
  go_wp2_with fail
  refine (qcp _ _ _ _ _ _ _ _ _ _ h0 h1).mono ?_;rintro e w1 ⟨rfl,b1⟩;have B1:Hid (Bw w w1):=qaj (by go_grown) b1 (by simp;omega);obtain ⟨hc1,hf1⟩:=qae b1;clear b1;go_wp2;refine bodyPost_ret (v:=dV (p+1) a v c d oa on oc code) (by simp [results,results174,go_sem,hc1]) rfl ⟨rfl,?_⟩;have:=B1.out
  go_grown
 ·go_enter func174,ntmps174
  go_wp2_with fail
  refine (qcp _ _ _ _ _ _ _ _ _ _ h0 h1).mono ?_;rintro e w1 ⟨rfl,b1⟩;have B1:Hid (Bw w w1):=qaj (by go_grown) b1 (by simp;omega);obtain ⟨hc1,hf1⟩:=qae b1;clear b1;go_wp2;refine bodyPost_ret (v:=dV (p+1) a b v d oa on oc code) (by simp [results,results174,go_sem,hc1]) rfl ⟨rfl,?_⟩;have:=B1.out
  go_grown
 ·go_enter func174,ntmps174
  go_wp2_with fail
  refine (qcp _ _ _ _ _ _ _ _ _ _ h0 h1).mono ?_;rintro e w1 ⟨rfl,b1⟩;have B1:Hid (Bw w w1):=qaj (by go_grown) b1 (by simp;omega);obtain ⟨hc1,hf1⟩:=qae b1;clear b1;go_wp2;refine bodyPost_ret (v:=dV (p+1) a b c v oa on oc code) (by simp [results,results174,go_sem,hc1]) rfl ⟨rfl,?_⟩;have:=B1.out
  go_grown
theorem qml (p code:Int) (ra oa:Option Addr) (rc oc:Nat) (a b c d:Int) (os:List Int) (w:World) (ho:os.length<=1048576) (h1:Sl w ra [a,b,c,d]) (h2:Sl w oa os):
  Calls prog 119 #[stV p ra 4 rc oa os.length oc code] w fun e w'=>∃ oa' oc',e=.returned (dV p a b c d oa' os.length oc' code)/\OwnI w' w.heap.size (.slice oa' os.length oc') os/\Bw w w':=by
 have H1:Hid (Sl w ra [a,b,c,d]):=h1;have H2:Hid (Sl w oa os):=h2;clear h1 h2
 go_enter func119,ntmps119
 go_wp2_with fail
 refine (qck ra rc [a,b,c,d] _ (H1.bw (by go_grown))).mono ?_;rintro e w1 ⟨⟨q0,q1,q2,q3,rfl,hq⟩,b1⟩;have hq':=hq rfl;simp only [List.cons.injEq,and_true] at hq';obtain ⟨rfl,rfl,rfl,rfl⟩:=hq';have B1:Hid (Bw w w1):=qaj (by go_grown) b1 (by simp;omega);obtain ⟨hc1,hf1⟩:=qae b1;have y1:w.heap.size+1<w1.heap.size:=by have:=b1.size;simp at this;omega
 have y0:w.heap.size<w1.heap.size:=by omega
 clear b1 hq;go_wp2_with fail
 have B2:Hid (Bw w (w1.alloc (.cells #[iV a,iV b,iV c,iV d] 147))):=B1.alloc (by omega) _;generalize hW:w1.alloc (.cells #[iV a,iV b,iV c,iV d] 147)=W at *;have lr:w1.heap.size<W.heap.size:=by rw [<- hW];simp
 have k0:W.cell? (aQ w1.heap.size 0)=some (iV a):=by rw [<- hW];simp
 have k1:W.cell? (aQ w1.heap.size 1)=some (iV b):=by rw [<- hW];simp
 have k2:W.cell? (aQ w1.heap.size 2)=some (iV c):=by rw [<- hW];simp
 have k3:W.cell? (aQ w1.heap.size 3)=some (iV d):=by rw [<- hW];simp
 have s0:W.cell? (aQ w.heap.size 0)=some (iV p):=by rw [<- hW,zS _ _ y0,hc1 _ _ (by simp;omega)];simp
 have s2:W.cell? (aQ w.heap.size 2)=some (.slice oa os.length oc):=by rw [<- hW,zS _ _ y0,hc1 _ _ (by simp;omega)];simp
 have s3:W.cell? (aQ w.heap.size 3)=some (iV code):=by rw [<- hW,zS _ _ y0,hc1 _ _ (by simp;omega)];simp
 have e0:W.cell? ⟨w.heap.size+1,0,none⟩=some (iV 0):=by rw [<- hW,zS _ _ y1,hc1 _ _ (by simp)];simp
 have e1:W.cell? ⟨w.heap.size+1,1,none⟩=some (iV 0):=by rw [<- hW,zS _ _ y1,hc1 _ _ (by simp)];simp
 have e2:W.cell? ⟨w.heap.size+1,2,none⟩=some (iV 0):=by rw [<- hW,zS _ _ y1,hc1 _ _ (by simp)];simp
 have e3:W.cell? ⟨w.heap.size+1,3,none⟩=some (iV 0):=by rw [<- hW,zS _ _ y1,hc1 _ _ (by simp)];simp
 have e4:W.cell? ⟨w.heap.size+1,4,none⟩=some (iV 0):=by rw [<- hW,zS _ _ y1,hc1 _ _ (by simp)];simp
 have e5:W.cell? ⟨w.heap.size+1,5,none⟩=some nS:=by rw [<- hW,zS _ _ y1,hc1 _ _ (by simp)];simp
 have e6:W.cell? ⟨w.heap.size+1,6,none⟩=some (iV 0):=by rw [<- hW,zS _ _ y1,hc1 _ _ (by simp)];simp
 have ef:∀ j,W.frozen? ⟨w.heap.size+1,j,none⟩=false:=fun j=>by rw [<- hW,zI (Below.heap_alloc w1 _ _ y1),hf1 _ _ (by simp)];simp
 have l0:w.heap.size<W.heap.size:=by omega
 have l1:w.heap.size+1<W.heap.size:=by omega
 have ne1:w1.heap.size≠w.heap.size+1:=by omega
 have ne2:w.heap.size+1≠w1.heap.size:=by omega
 clear hc1 hf1 hW B1 y0 y1
 go_region_held3 (fun w'=>w'.cell? (aQ w.heap.size 0)=some (iV p)/\w'.cell? (aQ w.heap.size 2)=some (.slice oa os.length oc)/\w'.cell? (aQ w.heap.size 3)=some (iV code)/\w'.cell? (aQ w1.heap.size 0)=some (iV a)/\w'.cell? (aQ w1.heap.size 1)=some (iV b)/\w'.cell? (aQ w1.heap.size 2)=some (iV c)/\w'.cell? (aQ w1.heap.size 3)=some (iV d)) (go_keep)
  (first|(go_at_call 108;refine (qfg oa oc os _ ho (by exact H2.bw B2.drew)).mono ?_;rintro e w2 ⟨v2,rfl,o2,b2'⟩;have b2:Bw W w2:=(nE W.heap.size W).drew.trans b2';obtain ⟨oa2,oc2,rfl,-⟩:=o2.form;obtain ⟨hc2,hf2⟩:=qae b2;have O2:Hid (OwnI w2 W.heap.size (.slice oa2 os.length oc2) os):=o2;have B3:Hid (Bw w w2):=B2.trans (b2.mono B2.size);clear o2 b2 b2'))
 go_wp2;refine bodyPost_ret (v:=dV p a b c d oa2 os.length oc2 code) (by simp [results,results119,go_sem,hc2,l1,e0,e1,e2,e3,e4,e5,e6]) rfl ⟨_,_,rfl,?_,?_⟩
 ·refine OwnI.mono (B:=W.heap.size) ?_ (by omega)
  repeat (refine OwnI.setBelow ?_ (by simpa using by omega) _)
  exact O2.out
 ·have:=B3.out
  go_grown
theorem qsa (p a b c d:Int) (oa:Option Addr) (oc:Nat) (os:List Int) (code:Int) (B:Nat) (w:World) (hB:B<=w.heap.size) (ho:OwnI w B (.slice oa os.length oc) os):
  Calls prog 122 #[dV p a b c d oa os.length oc code] w fun e w'=>∃ v,e=.returned v/\qaf w' B v p [a,b,c,d] os code/\Bw w w':=by
 have HO:Hid (OwnI w B (.slice oa os.length oc) os):=ho;clear ho
 go_enter func122,ntmps122
 go_wp2_with fail
 have B2:Hid (Bw w ((w.alloc (oQ2 p a b c d oa os.length oc code)).alloc (zQ0))):=by
  show Below _ _ _
  go_grown
 have k0:((w.alloc (oQ2 p a b c d oa os.length oc code)).alloc (zQ0)).cell? (aQ w.heap.size 0)=some (iV p):=(zS _ _ (by simp)).trans (by simp);have k1:((w.alloc (oQ2 p a b c d oa os.length oc code)).alloc (zQ0)).cell? (aQ w.heap.size 1)=some (iV a):=(zS _ _ (by simp)).trans (by simp);have k2:((w.alloc (oQ2 p a b c d oa os.length oc code)).alloc (zQ0)).cell? (aQ w.heap.size 2)=some (iV b):=(zS _ _ (by simp)).trans (by simp);have k3:((w.alloc (oQ2 p a b c d oa os.length oc code)).alloc (zQ0)).cell? (aQ w.heap.size 3)=some (iV c):=(zS _ _ (by simp)).trans (by simp);have k4:((w.alloc (oQ2 p a b c d oa os.length oc code)).alloc (zQ0)).cell? (aQ w.heap.size 4)=some (iV d):=(zS _ _ (by simp)).trans (by simp);have k5:((w.alloc (oQ2 p a b c d oa os.length oc code)).alloc (zQ0)).cell? (aQ w.heap.size 5)=some (.slice oa os.length oc):=(zS _ _ (by simp)).trans (by simp);have k6:((w.alloc (oQ2 p a b c d oa os.length oc code)).alloc (zQ0)).cell? (aQ w.heap.size 6)=some (iV code):=(zS _ _ (by simp)).trans (by simp);have e0:((w.alloc (oQ2 p a b c d oa os.length oc code)).alloc (zQ0)).cell? ⟨w.heap.size+1,0,none⟩=some (iV 0):=by simp
 have e1:((w.alloc (oQ2 p a b c d oa os.length oc code)).alloc (zQ0)).cell? ⟨w.heap.size+1,1,none⟩=some nS:=by simp
 have e2:((w.alloc (oQ2 p a b c d oa os.length oc code)).alloc (zQ0)).cell? ⟨w.heap.size+1,2,none⟩=some nS:=by simp
 have e3:((w.alloc (oQ2 p a b c d oa os.length oc code)).alloc (zQ0)).cell? ⟨w.heap.size+1,3,none⟩=some (iV 0):=by simp
 have ef:∀ j,((w.alloc (oQ2 p a b c d oa os.length oc code)).alloc (zQ0)).frozen? ⟨w.heap.size+1,j,none⟩=false:=fun j=>by simp
 have l1:w.heap.size+1<((w.alloc (oQ2 p a b c d oa os.length oc code)).alloc (zQ0)).heap.size:=by simp
 generalize (w.alloc (oQ2 p a b c d oa os.length oc code)).alloc (zQ0)=W at *;have l0:w.heap.size<W.heap.size:=by omega
 have HS : Hid (Sl W (some ⟨w.heap.size, 1, none⟩) [a, b, c, d]) := .inr ⟨_, _, rfl, l0, fun i hi => by
  match i,hi with
  | 0,_=>exact k1
  | 1,_=>exact k2
  | 2,_=>exact k3
  | 3,_=>exact k4⟩
 have ne2:w.heap.size+1≠w.heap.size:=by omega
 have ne1:w.heap.size≠w.heap.size+1:=by omega
 go_region_held3 (fun w'=>w'.cell? (aQ w.heap.size 0)=some (iV p)/\w'.cell? (aQ w.heap.size 5)=some (.slice oa os.length oc)/\w'.cell? (aQ w.heap.size 6)=some (iV code)) (go_keep)
  (first|(go_at_call 108;refine (qfg _ _ [a,b,c,d] _ (by simp) (by exact HS.bw ((nE W.heap.size W).drew))).mono ?_;rintro e w2 ⟨v2,rfl,o2,b2'⟩;have b2:Bw W w2:=(nE W.heap.size W).drew.trans b2';obtain ⟨ra2,rc2,hv2,-⟩:=o2.form;rw [show [a,b,c,d].length=4 from rfl] at hv2;subst hv2;obtain ⟨hc2,hf2⟩:=qae b2;have O2:Hid (OwnI w2 W.heap.size (.slice ra2 4 rc2) [a,b,c,d]):=o2;have P2:Hid (OwnI w2 B (.slice oa os.length oc) os):=(HO.bw B2.out).bw b2;have B3:Hid (Bw w w2):=B2.trans (b2.mono B2.size);clear o2 b2 b2'))
 have lo:∀ j,(Value.slice oa os.length oc).ownBlock=some j->j<w.heap.size:=fun j hj=>(HO.lt j hj).2;have LO:Hid (∀ j,(Value.slice oa os.length oc).ownBlock=some j->j<w.heap.size):=lo;clear lo HS k0 k1 k2 k3 k4 k5 k6;go_wp2;refine bodyPost_ret (v:=stV p ra2 4 rc2 oa os.length oc code) (by simp [results,results122,go_sem,hc2,l1,e0,e1,e2,e3]) rfl ⟨_,rfl,⟨_,_,rfl,?_,?_,?_⟩,?_⟩
 ·refine OwnI.mono (B:=W.heap.size) ?_ (by omega)
  repeat (refine OwnI.setBelow ?_ (by simpa using l1) _)
  exact O2.out
 ·repeat (refine OwnI.setOther ?_ (fun e=>by have:=LO.out _ e;simp at this;omega) _)
  exact P2.out
 ·intro j h1 h2
  have:=(O2.lt j h1).1;have:=LO.out j h2;omega
 ·have:=B3.out
  go_grown
theorem qt7 (w:World):
  Calls prog 120 #[iV 1] w (rB w (.func (.func 147) #[] #[])):=by
 go_enter func120,ntmps120
 go_wp2_with fail
 refine bodyPost_ret (v:=.func (.func 147) #[] #[]) (by simp [results,results120,go_sem]) rfl ⟨rfl,?_⟩
 go_grown
theorem qt8 (w:World):
  Calls prog 120 #[iV 2] w (rB w (.func (.func 148) #[] #[])):=by
 go_enter func120,ntmps120
 go_wp2_with fail
 refine bodyPost_ret (v:=.func (.func 148) #[] #[]) (by simp [results,results120,go_sem]) rfl ⟨rfl,?_⟩
 go_grown
theorem qt9 (w:World):
  Calls prog 120 #[iV 3] w (rB w (.func (.func 149) #[] #[])):=by
 go_enter func120,ntmps120
 go_wp2_with fail
 refine bodyPost_ret (v:=.func (.func 149) #[] #[]) (by simp [results,results120,go_sem]) rfl ⟨rfl,?_⟩
 go_grown
theorem qua (w:World):
  Calls prog 120 #[iV 4] w (rB w (.func (.func 150) #[] #[])):=by
 go_enter func120,ntmps120
 go_wp2_with fail
 refine bodyPost_ret (v:=.func (.func 150) #[] #[]) (by simp [results,results120,go_sem]) rfl ⟨rfl,?_⟩
 go_grown
theorem qoo (w:World):
  Calls prog 120 #[iV 5] w (rB w (.func (.func 151) #[] #[])):=by
 go_enter func120,ntmps120
 go_wp2_with fail
 refine bodyPost_ret (v:=.func (.func 151) #[] #[]) (by simp [results,results120,go_sem]) rfl ⟨rfl,?_⟩
 go_grown
theorem qub (w:World):
  Calls prog 120 #[iV 6] w (rB w (.func (.func 152) #[] #[])):=by
 go_enter func120,ntmps120
 go_wp2_with fail
 refine bodyPost_ret (v:=.func (.func 152) #[] #[]) (by simp [results,results120,go_sem]) rfl ⟨rfl,?_⟩
 go_grown
theorem quc (w:World):
  Calls prog 120 #[iV 7] w (rB w (.func (.func 153) #[] #[])):=by
 go_enter func120,ntmps120
 go_wp2_with fail
 refine bodyPost_ret (v:=.func (.func 153) #[] #[]) (by simp [results,results120,go_sem]) rfl ⟨rfl,?_⟩
 go_grown
theorem qud (w:World):
  Calls prog 120 #[iV 8] w (rB w (.func (.func 154) #[] #[])):=by
 go_enter func120,ntmps120
 go_wp2_with fail
 refine bodyPost_ret (v:=.func (.func 154) #[] #[]) (by simp [results,results120,go_sem]) rfl ⟨rfl,?_⟩
 go_grown
theorem que (w:World):
  Calls prog 120 #[iV 9] w (rB w (.func (.func 155) #[] #[])):=by
 go_enter func120,ntmps120
 go_wp2_with fail
 refine bodyPost_ret (v:=.func (.func 155) #[] #[]) (by simp [results,results120,go_sem]) rfl ⟨rfl,?_⟩
 go_grown
theorem qlw (w:World):
  Calls prog 120 #[iV 10] w (rB w (.func (.func 156) #[] #[])):=by
 go_enter func120,ntmps120
 go_wp2_with fail
 refine bodyPost_ret (v:=.func (.func 156) #[] #[]) (by simp [results,results120,go_sem]) rfl ⟨rfl,?_⟩
 go_grown
theorem qsb (w:World):
  Calls prog 120 #[iV 11] w (rB w (.func (.func 157) #[] #[])):=by
 go_enter func120,ntmps120
 go_wp2_with fail
 refine bodyPost_ret (v:=.func (.func 157) #[] #[]) (by simp [results,results120,go_sem]) rfl ⟨rfl,?_⟩
 go_grown
theorem qhj (nk np nv k q v:Int) (w:World):
  Calls prog 118 #[evV nk np nv,evV k q v] w (rB w (.bool (canB nk np nv k q v))):=by
 have he:=fun wx=>qwp k q v nk np nv wx;by_cases c1:nk=3
 case neg=>
  have c1':(nk != 3)=true:=by simpa using c1
  by_cases c2:nk=0
  ·subst c2
   have hv:Hid (canB 0 np nv k q v=false):=by simp [Hid,canB]
   go_enter func118,ntmps118
   go_wp2_with (first|(go_at_call 143;refine (isNum_any _ _).mono ?_;rintro e w' ⟨rfl,rfl⟩)|(go_at_call 61;refine (isBelow_any _ _ _).mono ?_;rintro e w' ⟨rfl,rfl⟩))
   refine bodyPost_ret (v:=.bool (false)) (by simp [results,results118,go_sem]) rfl ⟨by rw [hv.out],?_⟩
   go_grown
  ·have c2':(nk != 0)=true:=by simpa using c2
   have hv:Hid (canB nk np nv k q v=qdg k q v nk np nv):=by simp [Hid,canB,qdg,c1,c2']
   clear c1 c2
   go_enter func118,ntmps118
   go_wp2_with (first|(go_at_call 143;refine (isNum_any _ _).mono ?_;rintro e w' ⟨rfl,rfl⟩)|(go_at_call 61;refine (isBelow_any _ _ _).mono ?_;rintro e w' ⟨rfl,rfl⟩))
   refine bodyPost_ret (v:=.bool (qdg k q v nk np nv)) (by simp [results,results118,go_sem]) rfl ⟨by rw [hv.out],?_⟩
   go_grown
 subst c1;by_cases c2:k=3
 case neg=>
  have c2':(k != 3)=true:=by simpa using c2
  have hv:Hid (canB 3 np nv k q v=false):=by simp [Hid,canB,c2]
  clear c2
  go_enter func118,ntmps118
  go_wp2_with (first|(go_at_call 143;refine (isNum_any _ _).mono ?_;rintro e w' ⟨rfl,rfl⟩)|(go_at_call 61;refine (isBelow_any _ _ _).mono ?_;rintro e w' ⟨rfl,rfl⟩))
  refine bodyPost_ret (v:=.bool (false)) (by simp [results,results118,go_sem]) rfl ⟨by rw [hv.out],?_⟩
  go_grown
 subst c2
 rcases zK (numB v) with c3 | c3
 case inr=>
  have hv:Hid (canB 3 np nv 3 q v=false):=by simp [Hid,canB,c3]
  have c3':inB v (-1000000000) 1000000000=false:=c3;clear c3
  go_enter func118,ntmps118
  go_wp2_with (first|(go_at_call 143;refine (isNum_any _ _).mono ?_;rintro e w' ⟨rfl,rfl⟩)|(go_at_call 61;refine (isBelow_any _ _ _).mono ?_;rintro e w' ⟨rfl,rfl⟩))
  refine bodyPost_ret (v:=.bool (false)) (by simp [results,results118,go_sem]) rfl ⟨by rw [hv.out],?_⟩
  go_grown
 by_cases c4:np=9
 ·subst c4
  have hv:Hid (canB 3 9 nv 3 q v=belB q 4):=by simp [Hid,canB,c3]
  have c3':inB v (-1000000000) 1000000000=true:=c3;clear c3
  go_enter func118,ntmps118
  go_wp2_with (first|(go_at_call 143;refine (isNum_any _ _).mono ?_;rintro e w' ⟨rfl,rfl⟩)|(go_at_call 61;refine (isBelow_any _ _ _).mono ?_;rintro e w' ⟨rfl,rfl⟩))
  refine bodyPost_ret (v:=.bool (belB q 4)) (by simp [results,results118,go_sem]) rfl ⟨by rw [hv.out],?_⟩
  go_grown
 ·have c4':(np == 9)=false:=by simpa using c4
  have hv:Hid (canB 3 np nv 3 q v=(q == np)):=by simp [Hid,canB,c3,c4]
  have c3':inB v (-1000000000) 1000000000=true:=c3;clear c3 c4
  go_enter func118,ntmps118
  go_wp2_with (first|(go_at_call 143;refine (isNum_any _ _).mono ?_;rintro e w' ⟨rfl,rfl⟩)|(go_at_call 61;refine (isBelow_any _ _ _).mono ?_;rintro e w' ⟨rfl,rfl⟩))
  refine bodyPost_ret (v:=.bool (q == np)) (by simp [results,results118,go_sem]) rfl ⟨by rw [hv.out],?_⟩
  go_grown
open Go.Sort
theorem qg9 (a b c d a' b' c' d':Int) (w:World):(binOp .neq 147 (regV a b c d) (regV a' b' c' d')).run prog w=.ok (.bool (!qli a b c d a' b' c' d')) w:=by
 have h:=qi2 a b c d a' b' c' d' w;simp only [binOp,Sem.run_bind,Sem.run_pure] at h ⊢
 revert h
 generalize Sem.run prog (Op.equal 147 (regV a b c d) (regV a' b' c' d')) w=r;cases r <;> simp (config:={ contextual:=true }) [Result.andThen]
theorem qnw {w W:World} {v0:Int} {v1:Int} {v2:Int} {v3:Int} {v4:Int} {v5:Option Addr} {v6:Nat} {v7:Nat} {v8:Int} {v9:Int} {v10:Int} {v11:Int} {v12:Int} {v13:Int} {v14:Option Addr} {v15:Nat} {v16:Nat} {v17:Int} (hW:(((w.alloc (oQ2 v0 v1 v2 v3 v4 v5 v6 v7 v8)).alloc (oQ2 v9 v10 v11 v12 v13 v14 v15 v16 v17)).alloc (zQ1))=W):W.cell? ⟨w.heap.size,0,none⟩=some (iV v0)/\W.cell? ⟨w.heap.size,1,none⟩=some (iV v1)/\W.cell? ⟨w.heap.size,2,none⟩=some (iV v2)/\W.cell? ⟨w.heap.size,3,none⟩=some (iV v3)/\W.cell? ⟨w.heap.size,4,none⟩=some (iV v4)/\W.cell? ⟨w.heap.size,5,none⟩=some (.slice v5 v6 v7)/\W.cell? ⟨w.heap.size,6,none⟩=some (iV v8)/\W.cell? ⟨w.heap.size+1,0,none⟩=some (iV v9)/\W.cell? ⟨w.heap.size+1,1,none⟩=some (iV v10)/\W.cell? ⟨w.heap.size+1,2,none⟩=some (iV v11)/\W.cell? ⟨w.heap.size+1,3,none⟩=some (iV v12)/\W.cell? ⟨w.heap.size+1,4,none⟩=some (iV v13)/\W.cell? ⟨w.heap.size+1,5,none⟩=some (.slice v14 v15 v16)/\W.cell? ⟨w.heap.size+1,6,none⟩=some (iV v17)/\W.cell? ⟨w.heap.size+1+1,0,none⟩=some (iV 0)/\W.cell? ⟨w.heap.size+1+1,1,none⟩=some (iV 0)/\W.cell? ⟨w.heap.size+1+1,2,none⟩=some (iV 0)/\W.cell? ⟨w.heap.size+1+1,3,none⟩=some (iV 0)/\W.cell? ⟨w.heap.size+1+1,4,none⟩=some (iV 0)/\W.cell? ⟨w.heap.size+1+1,5,none⟩=some nS/\W.cell? ⟨w.heap.size+1+1,6,none⟩=some (iV 0)/\(∀ j,W.frozen? ⟨w.heap.size,j,none⟩=false)/\(∀ j,W.frozen? ⟨w.heap.size+1,j,none⟩=false)/\(∀ j,W.frozen? ⟨w.heap.size+1+1,j,none⟩=false)/\w.heap.size+1+1<W.heap.size/\Bw w W:=by
 subst hW;exact ⟨(zS _ _ (by simp<;>omega)).trans ((zS _ _ (by simp)).trans (by simp)),(zS _ _ (by simp<;>omega)).trans ((zS _ _ (by simp)).trans (by simp)),(zS _ _ (by simp<;>omega)).trans ((zS _ _ (by simp)).trans (by simp)),(zS _ _ (by simp<;>omega)).trans ((zS _ _ (by simp)).trans (by simp)),(zS _ _ (by simp<;>omega)).trans ((zS _ _ (by simp)).trans (by simp)),(zS _ _ (by simp<;>omega)).trans ((zS _ _ (by simp)).trans (by simp)),(zS _ _ (by simp<;>omega)).trans ((zS _ _ (by simp)).trans (by simp)),(zS _ _ (by simp)).trans (zW _ _ _ 0 (by simp)),(zS _ _ (by simp)).trans (zW _ _ _ 1 (by simp)),(zS _ _ (by simp)).trans (zW _ _ _ 2 (by simp)),(zS _ _ (by simp)).trans (zW _ _ _ 3 (by simp)),(zS _ _ (by simp)).trans (zW _ _ _ 4 (by simp)),(zS _ _ (by simp)).trans (zW _ _ _ 5 (by simp)),(zS _ _ (by simp)).trans (zW _ _ _ 6 (by simp)),zW _ _ _ 0 (by simp),zW _ _ _ 1 (by simp),zW _ _ _ 2 (by simp),zW _ _ _ 3 (by simp),zW _ _ _ 4 (by simp),zW _ _ _ 5 (by simp),zW _ _ _ 6 (by simp),fun j=>((qae (zT _ _)).2 _ _ (by simp<;>omega)).trans (((qae (zT _ _)).2 _ _ (by simp)).trans (yD _ _ _ j rfl)),fun j=>((qae (zT _ _)).2 _ _ (by simp)).trans (yD _ _ _ j (by simp)),fun j=>yD _ _ _ j (by simp),by simp,by go_grown⟩
theorem qlq (p a b c d:Int) (oa:Option Addr) (on oc:Nat) (code:Int) (p' a' b' c' d':Int) (oa':Option Addr) (on' oc':Nat) (code':Int) (n:Nat) (w:World) (hr:qc0 [a',b',c',d']=false):
  Calls prog 121 #[dV p a b c d oa on oc code,dV p' a' b' c' d' oa' on' oc' code',iV n] w (rB w (dV p a b c d oa on oc 2)):=by
 have he:∀ wx,(binOp .neq 147 (regV a' b' c' d') (regV (qbo a') (qbo b') (qbo c') (qbo d'))).run prog wx=.ok (.bool true) wx:=fun wx=>by rw [qg9,qce,hr];rfl
 go_enter func121,ntmps121
 go_wp2_with fail
 generalize hW:(((w.alloc (oQ2 p a b c d oa on oc code)).alloc (oQ2 p' a' b' c' d' oa' on' oc' code')).alloc (zQ1))=W at *;obtain ⟨k0,k1,k2,k3,k4,k5,k6,x0,x1,x2,x3,x4,x5,x6,r0,r1,r2,r3,r4,r5,r6,kf,xf,rf,l2,BW'⟩:=qnw hW;have BW:Hid (Bw w W):=BW';clear BW';clear hW;have l0:w.heap.size<W.heap.size:=by omega
 have l1:w.heap.size+1<W.heap.size:=by omega
 have x0':=cell_regrown x0;have x1':=cell_regrown x1;have x2':=cell_regrown x2;have x3':=cell_regrown x3;have x4':=cell_regrown x4;have x5':=cell_regrown x5;have x6':=cell_regrown x6;refine wp_region_quiet_below (by kernel_rfl) (by kernel_rfl) ?_
 repeat (quiet_step (first|(go_at_call 144;exact Calls.regrown_of (qc4 _ _ _ _ _))))
 refine wpQuiet_nil ?_;intro _ hw';obtain ⟨⟨dq,osq⟩,hw''⟩:=hw';subst hw'';have b3:=below_regrown W dq osq;have B3:Hid (Bw w (grow (redrawn W dq) osq)):=BW.trans (b3.mono BW.size);obtain ⟨hc3,hf3⟩:=qae b3;generalize grow (redrawn W dq) osq=w3 at *;clear b3 x0' x1' x2' x3' x4' x5' x6' he BW hr;go_wp2_with (go_at_call 61;refine (isBelow_any _ _ _).mono ?_;rintro e w' ⟨rfl,rfl⟩)
 refine bodyPost_ret (v:=dV p a b c d oa on oc 2) (by simp [results,results121,go_sem,hc3,l2,r0,r1,r2,r3,r4,r5,r6]) rfl ⟨rfl,?_⟩;have:=B3.out
 go_grown
theorem qlo (p a b c d:Int) (oa:Option Addr) (on oc:Nat) (code:Int) (p' a' b' c' d':Int) (oa':Option Addr) (on' oc':Nat) (code':Int) (n:Nat) (w:World) (hr:qc0 [a',b',c',d']=true) (hn:(60:Int)<(on':Int)):
  Calls prog 121 #[dV p a b c d oa on oc code,dV p' a' b' c' d' oa' on' oc' code',iV n] w (rB w (dV p a b c d oa on oc 2)):=by
 have he:∀ wx,(binOp .neq 147 (regV a' b' c' d') (regV (qbo a') (qbo b') (qbo c') (qbo d'))).run prog wx=.ok (.bool false) wx:=fun wx=>by rw [qg9,qce,hr];rfl
 go_enter func121,ntmps121
 go_wp2_with fail
 generalize hW:(((w.alloc (oQ2 p a b c d oa on oc code)).alloc (oQ2 p' a' b' c' d' oa' on' oc' code')).alloc (zQ1))=W at *;obtain ⟨k0,k1,k2,k3,k4,k5,k6,x0,x1,x2,x3,x4,x5,x6,r0,r1,r2,r3,r4,r5,r6,kf,xf,rf,l2,BW'⟩:=qnw hW;have BW:Hid (Bw w W):=BW';clear BW';clear hW;have l0:w.heap.size<W.heap.size:=by omega
 have l1:w.heap.size+1<W.heap.size:=by omega
 have x0':=cell_regrown x0;have x1':=cell_regrown x1;have x2':=cell_regrown x2;have x3':=cell_regrown x3;have x4':=cell_regrown x4;have x5':=cell_regrown x5;have x6':=cell_regrown x6;refine wp_region_quiet_below (by kernel_rfl) (by kernel_rfl) ?_
 repeat (quiet_step (first|(go_at_call 144;exact Calls.regrown_of (qc4 _ _ _ _ _))))
 refine wpQuiet_nil ?_;intro _ hw';obtain ⟨⟨dq,osq⟩,hw''⟩:=hw';subst hw'';have b3:=below_regrown W dq osq;have B3:Hid (Bw w (grow (redrawn W dq) osq)):=BW.trans (b3.mono BW.size);obtain ⟨hc3,hf3⟩:=qae b3;generalize grow (redrawn W dq) osq=w3 at *;clear b3 x0' x1' x2' x3' x4' x5' x6' he BW hr;go_wp2_with (go_at_call 61;refine (isBelow_any _ _ _).mono ?_;rintro e w' ⟨rfl,rfl⟩)
 refine bodyPost_ret (v:=dV p a b c d oa on oc 2) (by simp [results,results121,go_sem,hc3,l2,r0,r1,r2,r3,r4,r5,r6]) rfl ⟨rfl,?_⟩;have:=B3.out
 go_grown
theorem qne (p a b c d:Int) (oa:Option Addr) (on oc:Nat) (code:Int) (p' a' b' c' d':Int) (oa':Option Addr) (on' oc':Nat) (code':Int) (n:Nat) (w:World) (hr:qc0 [a',b',c',d']=true) (hn:¬ (60:Int)<(on':Int)) (hp:belB p' n=false):
  Calls prog 121 #[dV p a b c d oa on oc code,dV p' a' b' c' d' oa' on' oc' code',iV n] w (rB w (dV p a' b' c' d' oa' on' oc' 2)):=by
 have he:∀ wx,(binOp .neq 147 (regV a' b' c' d') (regV (qbo a') (qbo b') (qbo c') (qbo d'))).run prog wx=.ok (.bool false) wx:=fun wx=>by rw [qg9,qce,hr];rfl
 go_enter func121,ntmps121
 go_wp2_with fail
 generalize hW:(((w.alloc (oQ2 p a b c d oa on oc code)).alloc (oQ2 p' a' b' c' d' oa' on' oc' code')).alloc (zQ1))=W at *;obtain ⟨k0,k1,k2,k3,k4,k5,k6,x0,x1,x2,x3,x4,x5,x6,r0,r1,r2,r3,r4,r5,r6,kf,xf,rf,l2,BW'⟩:=qnw hW;have BW:Hid (Bw w W):=BW';clear BW';clear hW;have l0:w.heap.size<W.heap.size:=by omega
 have l1:w.heap.size+1<W.heap.size:=by omega
 have x0':=cell_regrown x0;have x1':=cell_regrown x1;have x2':=cell_regrown x2;have x3':=cell_regrown x3;have x4':=cell_regrown x4;have x5':=cell_regrown x5;have x6':=cell_regrown x6;refine wp_region_quiet_below (by kernel_rfl) (by kernel_rfl) ?_
 repeat (quiet_step (first|(go_at_call 144;exact Calls.regrown_of (qc4 _ _ _ _ _))))
 refine wpQuiet_nil ?_;intro _ hw';obtain ⟨⟨dq,osq⟩,hw''⟩:=hw';subst hw'';have b3:=below_regrown W dq osq;have B3:Hid (Bw w (grow (redrawn W dq) osq)):=BW.trans (b3.mono BW.size);obtain ⟨hc3,hf3⟩:=qae b3;generalize grow (redrawn W dq) osq=w3 at *;clear b3 x0' x1' x2' x3' x4' x5' x6' he BW hr;go_wp2_with (go_at_call 61;refine (isBelow_any _ _ _).mono ?_;rintro e w' ⟨rfl,rfl⟩)
 refine bodyPost_ret (v:=dV p a' b' c' d' oa' on' oc' 2) (by simp [results,results121,go_sem,hc3,l2,r0,r1,r2,r3,r4,r5,r6]) rfl ⟨rfl,?_⟩;have:=B3.out
 go_grown
theorem qpw (p a b c d:Int) (oa:Option Addr) (on oc:Nat) (code:Int) (p' a' b' c' d':Int) (oa':Option Addr) (on' oc':Nat) (code':Int) (n:Nat) (w:World) (hr:qc0 [a',b',c',d']=true) (hn:¬ (60:Int)<(on':Int)) (hp:belB p' n=true):
  Calls prog 121 #[dV p a b c d oa on oc code,dV p' a' b' c' d' oa' on' oc' code',iV n] w (rB w (dV p' a' b' c' d' oa' on' oc' code')):=by
 have he:∀ wx,(binOp .neq 147 (regV a' b' c' d') (regV (qbo a') (qbo b') (qbo c') (qbo d'))).run prog wx=.ok (.bool false) wx:=fun wx=>by rw [qg9,qce,hr];rfl
 go_enter func121,ntmps121
 go_wp2_with fail
 generalize hW:(((w.alloc (oQ2 p a b c d oa on oc code)).alloc (oQ2 p' a' b' c' d' oa' on' oc' code')).alloc (zQ1))=W at *;obtain ⟨k0,k1,k2,k3,k4,k5,k6,x0,x1,x2,x3,x4,x5,x6,r0,r1,r2,r3,r4,r5,r6,kf,xf,rf,l2,BW'⟩:=qnw hW;have BW:Hid (Bw w W):=BW';clear BW';clear hW;have l0:w.heap.size<W.heap.size:=by omega
 have l1:w.heap.size+1<W.heap.size:=by omega
 have x0':=cell_regrown x0;have x1':=cell_regrown x1;have x2':=cell_regrown x2;have x3':=cell_regrown x3;have x4':=cell_regrown x4;have x5':=cell_regrown x5;have x6':=cell_regrown x6;refine wp_region_quiet_below (by kernel_rfl) (by kernel_rfl) ?_
 repeat (quiet_step (first|(go_at_call 144;exact Calls.regrown_of (qc4 _ _ _ _ _))))
 refine wpQuiet_nil ?_;intro _ hw';obtain ⟨⟨dq,osq⟩,hw''⟩:=hw';subst hw'';have b3:=below_regrown W dq osq;have B3:Hid (Bw w (grow (redrawn W dq) osq)):=BW.trans (b3.mono BW.size);obtain ⟨hc3,hf3⟩:=qae b3;generalize grow (redrawn W dq) osq=w3 at *;clear b3 x0' x1' x2' x3' x4' x5' x6' he BW hr;go_wp2_with (go_at_call 61;refine (isBelow_any _ _ _).mono ?_;rintro e w' ⟨rfl,rfl⟩)
 refine bodyPost_ret (v:=dV p' a' b' c' d' oa' on' oc' code') (by simp [results,results121,go_sem,hc3,l2,r0,r1,r2,r3,r4,r5,r6]) rfl ⟨rfl,?_⟩;have:=B3.out
 go_grown
