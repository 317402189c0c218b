import Derived.Test.YtbgfjbgdiifghaaGreatDoorZn6
import Derived.Deep.OwnRows
import Derived.Deep.RegionHeld3
import Derived.ShutString
namespace Go.Proofs.YtbgfjbgdiifghaaGreatDoor
open Go.Proofs.Tryz
set_option maxRecDepth 100000
set_option maxHeartbeats 4000000
open Go.RowKit Go.Deep
theorem qsa (p:Int) (n:Nat):inB p 0 ((n:Int) - 1)=belB p n:=by
 rw [Bool.eq_iff_iff];simp [inB,belB];omega
theorem qcp (b off len cap k:Nat) (g:Nat->I5) (p:Int) (code:Int) (ra oa:Option Addr) (rc on oc:Nat) (rs:List Int) (w:World) (_hl:(len:Int)<=9223372036854775807) (hb:b<w.heap.size) (hI:qaq w b off len g) (_h1:Sl w ra rs) (_h4:(rs.length:Int)=4) (hk:k<len) (hp:p=k) (_a0:0<=(g k).a) (_a3:(g k).a<=3) (ho:(g k).o=1\/(g k).o=2\/(g k).o=3\/(g k).o=4\/(g k).o=5\/(g k).o=7\/(g k).o=9\/(g k).o=10\/(g k).o=11):
  Calls prog 129 #[.slice (some (aQ b off)) len cap,stV p ra rs.length rc oa on oc code] w (rB w (evV (evK (g k).o) (evP (g k).o (g k).n) (evW (g k).o (g k).a rs))):=by
 subst hp;have hk':(k:Int)<(len:Int):=by omega
 obtain ⟨c0,c1,c2,c3,c4⟩:=hI k hk
 rcases ho with ho | ho | ho | ho | ho | ho | ho | ho | ho
 all_goals
  rw [ho] at c0 ⊢;clear hI _h1 _a0 _a3 ho _h4
  go_enter func129,ntmps129
  go_wp2
  first
   | exact bodyPost_ret (v:=evV 1 0 0) (by simp [results,results129,go_sem]) rfl ⟨rfl,by go_grown⟩
   | exact bodyPost_ret (v:=evV 3 (g k).n 0) (by simp [results,results129,go_sem]) rfl ⟨rfl,by go_grown⟩
theorem qu0 (b off len cap k:Nat) (g:Nat->I5) (p:Int) (code:Int) (ra oa:Option Addr) (rc on oc:Nat) (rs:List Int) (w:World) (_hl:(len:Int)<=9223372036854775807) (hb:b<w.heap.size) (hI:qaq w b off len g) (h1:Sl w ra rs) (h4:(rs.length:Int)=4) (hk:k<len) (hp:p=k) (a0:0<=(g k).a) (a3:(g k).a<=3) (ho:(g k).o=6):
  Calls prog 129 #[.slice (some (aQ b off)) len cap,stV p ra rs.length rc oa on oc code] w (rB w (evV (evK 6) (evP 6 (g k).n) (evW 6 (g k).a rs))):=by
 subst hp;have hk':(k:Int)<(len:Int):=by omega
 obtain ⟨c0,c1,c2,c3,c4⟩:=hI k hk;rw [ho] at c0;obtain ⟨j,hj⟩:=Int.eq_ofNat_of_zero_le a0;rw [hj] at c2;have hj4:j<rs.length:=by omega
 have hj4':(j:Int)<(rs.length:Int):=by omega
 obtain ⟨b',off',rfl,hb',cr⟩:=h1.at hj4;have hb1:b'<w.heap.size+1:=by omega
 have hb2:b'<w.heap.size+1+1:=by omega
 have HJ:Hid ((g k).a.toNat=j):=by show (g k).a.toNat=j;omega
 clear hI h1 a0 a3 ho hj h4
 go_enter func129,ntmps129
 go_wp2_with fail
 go_region
 all_goals
  go_wp2;refine bodyPost_ret (v:=evV 2 (g k).n (zi rs j)) (by simp [results,results129,go_sem]) rfl ⟨qwq (by simp [evK,evP,evW,HJ.out]),?_⟩
  go_grown
theorem qu1 (b off len cap k:Nat) (g:Nat->I5) (p:Int) (code:Int) (ra oa:Option Addr) (rc on oc:Nat) (rs:List Int) (w:World) (_hl:(len:Int)<=9223372036854775807) (hb:b<w.heap.size) (hI:qaq w b off len g) (h1:Sl w ra rs) (h4:(rs.length:Int)=4) (hk:k<len) (hp:p=k) (a0:0<=(g k).a) (a3:(g k).a<=3) (ho:(g k).o=8):
  Calls prog 129 #[.slice (some (aQ b off)) len cap,stV p ra rs.length rc oa on oc code] w (rB w (evV (evK 8) (evP 8 (g k).n) (evW 8 (g k).a rs))):=by
 subst hp;have hk':(k:Int)<(len:Int):=by omega
 obtain ⟨c0,c1,c2,c3,c4⟩:=hI k hk;rw [ho] at c0;obtain ⟨j,hj⟩:=Int.eq_ofNat_of_zero_le a0;rw [hj] at c2;have hj4:j<rs.length:=by omega
 have hj4':(j:Int)<(rs.length:Int):=by omega
 obtain ⟨b',off',rfl,hb',cr⟩:=h1.at hj4;have hb1:b'<w.heap.size+1:=by omega
 have hb2:b'<w.heap.size+1+1:=by omega
 have HJ:Hid ((g k).a.toNat=j):=by show (g k).a.toNat=j;omega
 clear hI h1 a0 a3 ho hj h4
 go_enter func129,ntmps129
 go_wp2;refine bodyPost_ret (v:=evV 4 0 (zi rs j)) (by simp [results,results129,go_sem]) rfl ⟨qwq (by simp [evK,evP,evW,HJ.out]),?_⟩
 go_grown
theorem qbg (b off len cap k:Nat) (g:Nat->I5) (code:Int) (ra oa:Option Addr) (rc on oc:Nat) (rs:List Int) (w:World) (hlen:len<=maxLen) (hb:b<w.heap.size) (hI:qaq w b off len g) (h1:Sl w ra rs) (h4:rs.length=4) (hk:k<len) (h2:qaa g len 4=true):
  Calls prog 129 #[.slice (some (aQ b off)) len cap,stV k ra rs.length rc oa on oc code] w (rB w (evV (evK (g k).o) (evP (g k).o (g k).n) (evW (g k).o (g k).a rs))):=by
 obtain ⟨⟨o1,o11⟩,-,⟨a0,a3⟩,-⟩:=qb6 (qbo h2 hk);have hl:(len:Int)<=9223372036854775807:=by unfold maxLen at hlen;omega
 have h4':(rs.length:Int)=4:=by omega
 rcases qd6 (g k).o with ho | ho | ho | ho | ho | ho | ho | ho | ho | ho | ho | ho
 ·omega
 ·exact qcp b off len cap k g k code ra oa rc on oc rs w hl hb hI h1 h4' hk rfl a0 a3 (by omega)
 ·exact qcp b off len cap k g k code ra oa rc on oc rs w hl hb hI h1 h4' hk rfl a0 a3 (by omega)
 ·exact qcp b off len cap k g k code ra oa rc on oc rs w hl hb hI h1 h4' hk rfl a0 a3 (by omega)
 ·exact qcp b off len cap k g k code ra oa rc on oc rs w hl hb hI h1 h4' hk rfl a0 a3 (by omega)
 ·exact qcp b off len cap k g k code ra oa rc on oc rs w hl hb hI h1 h4' hk rfl a0 a3 (by omega)
 ·rw [ho];exact qu0 b off len cap k g k code ra oa rc on oc rs w hl hb hI h1 h4' hk rfl a0 a3 ho
 ·exact qcp b off len cap k g k code ra oa rc on oc rs w hl hb hI h1 h4' hk rfl a0 a3 (by omega)
 ·rw [ho];exact qu1 b off len cap k g k code ra oa rc on oc rs w hl hb hI h1 h4' hk rfl a0 a3 ho
 ·exact qcp b off len cap k g k code ra oa rc on oc rs w hl hb hI h1 h4' hk rfl a0 a3 (by omega)
 ·exact qcp b off len cap k g k code ra oa rc on oc rs w hl hb hI h1 h4' hk rfl a0 a3 (by omega)
 ·exact qcp b off len cap k g k code ra oa rc on oc rs w hl hb hI h1 h4' hk rfl a0 a3 (by omega)
theorem zW (w:World) (cs:Array Value) (t:TypeId) (j:Nat) {N:Nat} (h:N=w.heap.size):(w.alloc (.cells cs t)).cell? (aQ N j)=cs[j]?:=by
 subst h;simp
theorem yB (w:World) (cs:Array Value) (t:TypeId) (j:Nat) {N:Nat} (h:N=w.heap.size):(w.alloc (.cells cs t)).frozen? (aQ N j)=false:=by
 subst h;simp
theorem qac.put4 {w:World} {B B' N:Nat} {v:Value} {p code:Int} {rs os:List Int} {a b c d:Value} (h:qac w B' v p rs os code) (hN:N<B') (hB:B<=B'):qac ((((w.setCell (aQ N 0) a).setCell (aQ N 1) b).setCell (aQ N 2) c).setCell (aQ N 3) d) B v p rs os code:=by
 obtain ⟨vr,vo,e,o1,o2,ha⟩:=h;exact ⟨vr,vo,e,((((o1.setBelow hN _).setBelow hN _).setBelow hN _).setBelow hN _).mono hB,((((o2.setBelow hN _).setBelow hN _).setBelow hN _).setBelow hN _).mono hB,ha⟩
structure qa4 (w:World) (N:Nat) (p vr vo code:Value) (ek eq ev:Int):Prop where
 p0:w.cell? (aQ N 0)=some p
 p1:w.cell? (aQ N 1)=some vr
 p2:w.cell? (aQ N 2)=some vo
 p3:w.cell? (aQ N 3)=some code
 e0:w.cell? ⟨N+1,0,none⟩=some (iV ek)
 e1:w.cell? ⟨N+1,1,none⟩=some (iV eq)
 e2:w.cell? ⟨N+1,2,none⟩=some (iV ev)
 r0:w.cell? ⟨N+1+1,0,none⟩=some (iV 0)
 r1:w.cell? ⟨N+1+1,1,none⟩=some nS
 r2:w.cell? ⟨N+1+1,2,none⟩=some nS
 r3:w.cell? ⟨N+1+1,3,none⟩=some (iV 0)
 rf:∀ j,w.frozen? ⟨N+1+1,j,none⟩=false
theorem qa4.lt {w:World} {N:Nat} {p vr vo code:Value} {ek eq ev:Int} (h:qa4 w N p vr vo code ek eq ev):N+1+1<w.heap.size:=zJ w _ h.r0
theorem qa4.kept {w w':World} {N:Nat} {p vr vo code:Value} {ek eq ev:Int} (h:qa4 w N p vr vo code ek eq ev) (hb:∀ k,N<=k->k<=N+1+1->w'.heap[k]? = w.heap[k]?):qa4 w' N p vr vo code ek eq ev:=
 ⟨(World.cell?_of_block (hb N (by omega) (by omega))).trans h.p0, (World.cell?_of_block (hb N (by omega) (by omega))).trans h.p1, (World.cell?_of_block (hb N (by omega) (by omega))).trans h.p2, (World.cell?_of_block (hb N (by omega) (by omega))).trans h.p3,
  (zH (hb (N+1) (by omega) (by omega))).trans h.e0,(zH (hb (N+1) (by omega) (by omega))).trans h.e1,(zH (hb (N+1) (by omega) (by omega))).trans h.e2,
  (zH (hb (N+1+1) (by omega) (by omega))).trans h.r0,(zH (hb (N+1+1) (by omega) (by omega))).trans h.r1,(zH (hb (N+1+1) (by omega) (by omega))).trans h.r2,(zH (hb (N+1+1) (by omega) (by omega))).trans h.r3,
  fun j=>(zI (hb (N+1+1) (by omega) (by omega))).trans (h.rf j)⟩
theorem qa4.bw {w w':World} {N:Nat} {p vr vo code:Value} {ek eq ev:Int} (h:qa4 w N p vr vo code ek eq ev) (hb:Bw w w'):qa4 w' N p vr vo code ek eq ev:=
 h.kept fun k _ hk=>hb.block k (by have:=h.lt;omega)
theorem qa4.new (w:World) (p vr vo code:Value) (ek eq ev:Int) (t u v:TypeId):qa4 (((w.alloc (.cells #[p,vr,vo,code] t)).alloc (.cells #[iV ek,iV eq,iV ev] u)).alloc (.cells #[iV 0,nS,nS,iV 0] v)) w.heap.size p vr vo code ek eq ev:=by
 refine ⟨?_,?_,?_,?_,?_,?_,?_,?_,?_,?_,?_,?_⟩
 ·rw [zS _ _ (by simp;omega),zS _ _ (by simp)];exact zW w _ _ 0 rfl
 ·rw [zS _ _ (by simp;omega),zS _ _ (by simp)];exact zW w _ _ 1 rfl
 ·rw [zS _ _ (by simp;omega),zS _ _ (by simp)];exact zW w _ _ 2 rfl
 ·rw [zS _ _ (by simp;omega),zS _ _ (by simp)];exact zW w _ _ 3 rfl
 ·rw [zS _ _ (by simp)];exact zW _ _ _ 0 (by simp)
 ·rw [zS _ _ (by simp)];exact zW _ _ _ 1 (by simp)
 ·rw [zS _ _ (by simp)];exact zW _ _ _ 2 (by simp)
 ·exact zW _ _ _ 0 (by simp)
 ·exact zW _ _ _ 1 (by simp)
 ·exact zW _ _ _ 2 (by simp)
 ·exact zW _ _ _ 3 (by simp)
 ·exact fun j=>yB _ _ _ j (by simp)
def EvC3 (w:World) (N:Nat) (k p v:Int):Prop:=w.cell? (aQ N 0)=some (iV k)/\w.cell? (aQ N 1)=some (iV p)/\w.cell? (aQ N 2)=some (iV v)
theorem EvC3.bw {w w':World} {N:Nat} {k p v:Int} (h:EvC3 w N k p v) (hb:Bw w w'):EvC3 w' N k p v:=by
 obtain ⟨h0,h1,h2⟩:=h;have hN:N<w.heap.size:=zJ w _ h0;exact ⟨(hb.cell (p:=(aQ N 0)) hN).trans h0,(hb.cell (p:=(aQ N 1)) hN).trans h1,(hb.cell (p:=(aQ N 2)) hN).trans h2⟩
theorem EvC3.new (w:World) (k p v:Int) (t:TypeId):EvC3 (w.alloc (.cells #[iV k,iV p,iV v] t)) w.heap.size k p v:=by
 unfold EvC3;simp
theorem qac.recode {w:World} {B:Nat} {p code:Int} {ra oa:Option Addr} {rn rc on oc:Nat} {rs os:List Int} (h:qac w B (stV p ra rn rc oa on oc code) p rs os code) (c:Int):qac w B (stV p ra rn rc oa on oc c) p rs os c:=by
 obtain ⟨vr,vo,e,o1,o2,ha⟩:=h;simp only [stV,Value.agg.injEq,Array.mk.injEq,List.cons.injEq,and_true,true_and] at e;obtain ⟨rfl,rfl⟩:=e;exact ⟨_,_,rfl,o1,o2,ha⟩
theorem qac.replace {w:World} {B:Nat} {p code:Int} {ra oa:Option Addr} {rn rc on oc:Nat} {rs os:List Int} (h:qac w B (stV p ra rn rc oa on oc code) p rs os code) (q:Int):qac w B (stV q ra rn rc oa on oc code) q rs os code:=by
 obtain ⟨vr,vo,e,o1,o2,ha⟩:=h;simp only [stV,Value.agg.injEq,Array.mk.injEq,List.cons.injEq,and_true,true_and] at e;obtain ⟨rfl,rfl⟩:=e;exact ⟨_,_,rfl,o1,o2,ha⟩
theorem qa4.marked {w w':World} {N:Nat} {p vr vo code v:Value} {ek eq ev:Int} (h:qa4 w N p vr vo code ek eq ev) (m:qbd v w w') (hv:∀ k,qak v k->N+1+1<k):qa4 w' N p vr vo code ek eq ev:=
 h.kept fun k _ hk=>m.block k (by have:=h.lt;omega) (fun hh=>by have:=hv k hh;omega)
def qe2 (a b c a' b' c':Int):Bool:=a == a' && (b == b' && c == c')
theorem qyg (a b c a' b' c':Int) (w:World):(binOp .eql 49 (evV a b c) (evV a' b' c')).run prog w=.ok (.bool (qe2 a b c a' b' c')) w:=by
 rw [run_eql_struct,show (10000:Nat)=9998+1+1 from rfl,run_equalIn_agg w (9998+1) 49 _ _ (by kernel_rfl) (by kernel_rfl)];simp only [qe2];by_cases h1:a=a' <;> by_cases h2:b=b' <;> by_cases h3:c=c' <;> simp [go_sem,h1,h2,h3]
theorem qyy (a b c a' b' c':Int) (w:World):(binOp .neq 49 (evV a b c) (evV a' b' c')).run prog w=.ok (.bool (!qe2 a b c a' b' c')) w:=by
 rw [run_neq_struct,show (10000:Nat)=9998+1+1 from rfl,run_equalIn_agg w (9998+1) 49 _ _ (by kernel_rfl) (by kernel_rfl)];simp only [qe2];by_cases h1:a=a' <;> by_cases h2:b=b' <;> by_cases h3:c=c' <;> simp [go_sem,h1,h2,h3]
theorem qsj (b off len cap k:Nat) (g:Nat->I5) (ra oa:Option Addr) (rc oc:Nat) (rs os:List Int) (w:World) (hl:(len:Int)<=30) (hb:b<w.heap.size) (hI:qaq w b off len g) (h4:rs.length=4) (ho:os.length<=60) (h1:Sl w ra rs) (h2:Sl w oa os) (hk:k<len) (hp:qaa g len 4=true) (np nv:Int) (HN:Hid (evK (g k).o=2/\evP (g k).o (g k).n=np/\evW (g k).o (g k).a rs=nv)) (H6:Hid ((g k).o=6)):
  Calls prog 110 #[.slice (some (aQ b off)) len cap,stV k ra rs.length rc oa os.length oc 0,evV 2 np nv] w fun e w'=>∃ v,e=.returned (.tuple #[v,.bool true])/\qac w' w.heap.size v (qaf len (g k) k rs os 0 nv).p (qaf len (g k) k rs os 0 nv).rs (qaf len (g k) k rs os 0 nv).os (qaf len (g k) k rs os 0 nv).c/\Bw w w':=by
 have HI:Hid (qaq w b off len g):=hI;have H1:Hid (Sl w ra rs):=h1;have H2:Hid (Sl w oa os):=h2;have H4:Hid (rs.length=4):=h4;have HP:Hid (qaa g len 4=true):=hp;have hk':(k:Int)<(len:Int):=by omega
 clear hI h1 h2 h4 hp
 go_enter func110,ntmps110
 go_wp2_with fail
 refine (qbg _ _ _ _ k g _ _ _ _ _ _ rs _ (by unfold maxLen;omega) (by simp;omega) (HI.bw (by go_grown) hb) (H1.bw (by go_grown)) H4.out hk HP.out).mono ?_;rintro e w1 ⟨he1,b1⟩;rw [HN.1,HN.2.1,HN.2.2] at he1;subst he1;have B1:Hid (Bw w (w1.alloc (oQ2 2 np nv))):=(qah (by go_grown) b1 (by simp;omega)).alloc (by have:=b1.size;simp at this;omega) _;have X1:Hid (qa4 (w1.alloc (oQ2 2 np nv)) w.heap.size (iV k) (.slice ra rs.length rc) (.slice oa os.length oc) (iV 0) 2 np nv):=((qa4.new w _ _ _ _ _ _ _ _ _ _).bw b1).bw (zT w1 _);clear b1;obtain ⟨p0,p1,p2,p3,-,-,-,-,-,-,-,-⟩:=X1.out;go_wp2_with fail
 clear p0 p1 p2 p3;have V1:Hid (EvC3 (w1.alloc (oQ2 2 np nv)) w1.heap.size 2 np nv):=EvC3.new w1 _ _ _ _;generalize w1.alloc (oQ2 2 np nv)=W1 at *;refine (qbw _ _ _ _ _ _ rs os _ (by have:=H4.out;omega) (by omega) (H1.bw B1.out) (H2.bw B1.out)).mono ?_;rintro e w2 ⟨v2,rfl,o2,b2⟩;obtain ⟨ra2,rc2,oa2,oc2,rfl,-,-⟩:=o2.read;have bA:=zT w2 (oQ0 k ra2 rs.length rc2 oa2 os.length oc2 0);have q2:Bw W1 (w2.alloc (oQ0 k ra2 rs.length rc2 oa2 os.length oc2 0)):=b2.trans (bA.mono b2.size);have X2:Hid (qa4 (w2.alloc (oQ0 k ra2 rs.length rc2 oa2 os.length oc2 0)) w.heap.size (iV k) (.slice ra rs.length rc) (.slice oa os.length oc) (iV 0) 2 np nv):=X1.bw q2;have V2:Hid (EvC3 (w2.alloc (oQ0 k ra2 rs.length rc2 oa2 os.length oc2 0)) w1.heap.size 2 np nv):=V1.bw q2;have Y2:Hid (BoxC (w2.alloc (oQ0 k ra2 rs.length rc2 oa2 os.length oc2 0)) w2.heap.size (iV k) (.slice ra2 rs.length rc2) (.slice oa2 os.length oc2) (iV 0)):=BoxC.new w2 _ _ _ _ _;have F2:Hid (∀ j,(w2.alloc (oQ0 k ra2 rs.length rc2 oa2 os.length oc2 0)).frozen? ⟨w2.heap.size,j,none⟩=false):=fun j=>by simp
 have O2:Hid (qac (w2.alloc (oQ0 k ra2 rs.length rc2 oa2 os.length oc2 0)) W1.heap.size (stV k ra2 rs.length rc2 oa2 os.length oc2 0) k rs os 0):=o2.bw bA;have L2:Hid (∀ j,qak (stV k ra2 rs.length rc2 oa2 os.length oc2 0) j->W1.heap.size<=j/\j<w2.heap.size):=fun j hj=>o2.lt hj;have B2:Hid (Bw w (w2.alloc (oQ0 k ra2 rs.length rc2 oa2 os.length oc2 0))):=B1.trans (q2.mono B1.size);have zw:w.heap.size+1+1<W1.heap.size:=X1.lt;have zv:w1.heap.size<W1.heap.size:=zJ W1 _ V1.1;have z2:W1.heap.size<=w2.heap.size:=b2.size;clear b2 o2 bA q2 X1 V1 B1;obtain ⟨p0,p1,p2,p3,e0,e1,e2,r0,r1,r2,r3,rf⟩:=X2.out;obtain ⟨u0,u1,u2⟩:=V2.out;obtain ⟨t0,t1,t2,t3⟩:=Y2.out;have tf:=F2.out;go_wp2_with fail
 clear p0 p1 p2 p3 e0 e1 e2 r0 r1 r2 r3 rf u0 u1 u2 t0 t1 t2 t3 tf;generalize w2.alloc (oQ0 k ra2 rs.length rc2 oa2 os.length oc2 0)=W2 at *;refine (qev _ _ _ _ _ _ _ _ _ _ _ _ (by omega) (by omega)).mono ?_;rintro e w3 ⟨rfl,b3⟩;have X3:Hid (qa4 w3 w.heap.size (iV k) (.slice ra rs.length rc) (.slice oa os.length oc) (iV 0) 2 np nv):=X2.bw b3;have O3:Hid (qac w3 W1.heap.size (stV k ra2 rs.length rc2 oa2 os.length oc2 0) k rs os 0):=O2.bw b3;have B3:Hid (Bw w w3):=B2.trans (b3.mono B2.size);clear b3 X2 V2 Y2 F2 O2 B2;obtain ⟨-,-,-,-,-,-,-,r0,r1,r2,r3,rf⟩:=X3.out;go_wp2;refine bodyPost_ret (v:=.tuple #[stV (goP len k) ra2 rs.length rc2 oa2 os.length oc2 (goC len k 0),.bool true]) (by simp [results,results110,go_sem,r0,r1,r2,r3]) rfl ⟨_,rfl,?_,?_⟩
 ·have hd:qaf len (g k) k rs os 0 nv=goS len k rs os 0:=by
   unfold qaf;rw [H6.out,nC rfl]
  rw [hd];exact qac.put4 (B':=W1.heap.size) ((O3.replace _).recode _) zw (by omega)
 ·have:=B3.out
  go_grown
theorem qn2 (b off len cap k:Nat) (g:Nat->I5) (ra oa:Option Addr) (rc oc:Nat) (rs os:List Int) (ek eq ev:Int) (w:World) (hl:(len:Int)<=30) (hb:b<w.heap.size) (hI:qaq w b off len g) (h4:rs.length=4) (ho:os.length<=60) (h1:Sl w ra rs) (h2:Sl w oa os) (hk:k<len) (hp:qaa g len 4=true) (K np nv:Int) (hK:(K == 3)=false) (HN:Hid (evK (g k).o=K/\evP (g k).o (g k).n=np/\evW (g k).o (g k).a rs=nv)) (hE:qe2 ek eq ev K np nv=false):
  Calls prog 110 #[.slice (some (aQ b off)) len cap,stV k ra rs.length rc oa os.length oc 0,evV ek eq ev] w fun e w'=>∃ v,e=.returned (.tuple #[v,.bool false])/\qac w' w.heap.size v k rs os 0/\Bw w w':=by
 have HI:Hid (qaq w b off len g):=hI;have H1:Hid (Sl w ra rs):=h1;have H2:Hid (Sl w oa os):=h2;have H4:Hid (rs.length=4):=h4;have HP:Hid (qaa g len 4=true):=hp;have hk':(k:Int)<(len:Int):=by omega
 clear hI h1 h2 h4 hp
 go_enter func110,ntmps110
 go_wp2_with fail
 refine (qbg _ _ _ _ k g _ _ _ _ _ _ rs _ (by unfold maxLen;omega) (by simp;omega) (HI.bw (by go_grown) hb) (H1.bw (by go_grown)) H4.out hk HP.out).mono ?_;rintro e w1 ⟨he1,b1⟩;rw [HN.1,HN.2.1,HN.2.2] at he1;subst he1;have B1:Hid (Bw w (w1.alloc (oQ2 K np nv))):=(qah (by go_grown) b1 (by simp;omega)).alloc (by have:=b1.size;simp at this;omega) _;have X1:Hid (qa4 (w1.alloc (oQ2 K np nv)) w.heap.size (iV k) (.slice ra rs.length rc) (.slice oa os.length oc) (iV 0) ek eq ev):=((qa4.new w _ _ _ _ _ _ _ _ _ _).bw b1).bw (zT w1 _);clear b1;obtain ⟨p0,p1,p2,p3,-,-,-,-,-,-,-,-⟩:=X1.out;go_wp2_with fail
 clear p0 p1 p2 p3;have V1:Hid (EvC3 (w1.alloc (oQ2 K np nv)) w1.heap.size K np nv):=EvC3.new w1 _ _ _ _;generalize w1.alloc (oQ2 K np nv)=W1 at *;refine (qbw _ _ _ _ _ _ rs os _ (by have:=H4.out;omega) (by omega) (H1.bw B1.out) (H2.bw B1.out)).mono ?_;rintro e w2 ⟨v2,rfl,o2,b2⟩;obtain ⟨ra2,rc2,oa2,oc2,rfl,-,-⟩:=o2.read;have bA:=zT w2 (oQ0 k ra2 rs.length rc2 oa2 os.length oc2 0);have q2:Bw W1 (w2.alloc (oQ0 k ra2 rs.length rc2 oa2 os.length oc2 0)):=b2.trans (bA.mono b2.size);have X2:Hid (qa4 (w2.alloc (oQ0 k ra2 rs.length rc2 oa2 os.length oc2 0)) w.heap.size (iV k) (.slice ra rs.length rc) (.slice oa os.length oc) (iV 0) ek eq ev):=X1.bw q2;have V2:Hid (EvC3 (w2.alloc (oQ0 k ra2 rs.length rc2 oa2 os.length oc2 0)) w1.heap.size K np nv):=V1.bw q2;have Y2:Hid (BoxC (w2.alloc (oQ0 k ra2 rs.length rc2 oa2 os.length oc2 0)) w2.heap.size (iV k) (.slice ra2 rs.length rc2) (.slice oa2 os.length oc2) (iV 0)):=BoxC.new w2 _ _ _ _ _;have F2:Hid (∀ j,(w2.alloc (oQ0 k ra2 rs.length rc2 oa2 os.length oc2 0)).frozen? ⟨w2.heap.size,j,none⟩=false):=fun j=>by simp
 have O2:Hid (qac (w2.alloc (oQ0 k ra2 rs.length rc2 oa2 os.length oc2 0)) W1.heap.size (stV k ra2 rs.length rc2 oa2 os.length oc2 0) k rs os 0):=o2.bw bA;have L2:Hid (∀ j,qak (stV k ra2 rs.length rc2 oa2 os.length oc2 0) j->W1.heap.size<=j/\j<w2.heap.size):=fun j hj=>o2.lt hj;have B2:Hid (Bw w (w2.alloc (oQ0 k ra2 rs.length rc2 oa2 os.length oc2 0))):=B1.trans (q2.mono B1.size);have zw:w.heap.size+1+1<W1.heap.size:=X1.lt;have zv:w1.heap.size<W1.heap.size:=zJ W1 _ V1.1;have z2:W1.heap.size<=w2.heap.size:=b2.size;clear b2 o2 bA q2 X1 V1 B1;obtain ⟨p0,p1,p2,p3,e0,e1,e2,r0,r1,r2,r3,rf⟩:=X2.out;obtain ⟨u0,u1,u2⟩:=V2.out;obtain ⟨t0,t1,t2,t3⟩:=Y2.out;have tf:=F2.out;have hne:∀ wx,(binOp .neq 49 (evV ek eq ev) (evV K np nv)).run prog wx=.ok (.bool true) wx:=fun wx=>by rw [qyy,hE];rfl
 clear hE;go_wp2;refine bodyPost_ret (v:=.tuple #[stV k ra2 rs.length rc2 oa2 os.length oc2 0,.bool false]) (by simp [results,results110,go_sem,r0,r1,r2,r3]) rfl ⟨_,rfl,?_,?_⟩
 ·exact qac.put4 (B':=W1.heap.size) O2.out zw (by omega)
 ·have:=B2.out
  go_grown
theorem qsi (b off len cap k:Nat) (g:Nat->I5) (ra oa:Option Addr) (rc oc:Nat) (rs os:List Int) (w:World) (hl:(len:Int)<=30) (hb:b<w.heap.size) (hI:qaq w b off len g) (h4:rs.length=4) (ho:os.length<=60) (h1:Sl w ra rs) (h2:Sl w oa os) (hk:k<len) (hp:qaa g len 4=true) (np nv:Int) (HN:Hid (evK (g k).o=4/\evP (g k).o (g k).n=np/\evW (g k).o (g k).a rs=nv)) (H8:Hid ((g k).o=8/\os.length=60)) (h60:((os.length:Int) == 60)=true):
  Calls prog 110 #[.slice (some (aQ b off)) len cap,stV k ra rs.length rc oa os.length oc 0,evV 4 np nv] w fun e w'=>∃ v,e=.returned (.tuple #[v,.bool true])/\qac w' w.heap.size v (qaf len (g k) k rs os 0 nv).p (qaf len (g k) k rs os 0 nv).rs (qaf len (g k) k rs os 0 nv).os (qaf len (g k) k rs os 0 nv).c/\Bw w w':=by
 have HI:Hid (qaq w b off len g):=hI;have H1:Hid (Sl w ra rs):=h1;have H2:Hid (Sl w oa os):=h2;have H4:Hid (rs.length=4):=h4;have HP:Hid (qaa g len 4=true):=hp;have hk':(k:Int)<(len:Int):=by omega
 clear hI h1 h2 h4 hp
 go_enter func110,ntmps110
 go_wp2_with fail
 refine (qbg _ _ _ _ k g _ _ _ _ _ _ rs _ (by unfold maxLen;omega) (by simp;omega) (HI.bw (by go_grown) hb) (H1.bw (by go_grown)) H4.out hk HP.out).mono ?_;rintro e w1 ⟨he1,b1⟩;rw [HN.1,HN.2.1,HN.2.2] at he1;subst he1;have B1:Hid (Bw w (w1.alloc (oQ2 4 np nv))):=(qah (by go_grown) b1 (by simp;omega)).alloc (by have:=b1.size;simp at this;omega) _;have X1:Hid (qa4 (w1.alloc (oQ2 4 np nv)) w.heap.size (iV k) (.slice ra rs.length rc) (.slice oa os.length oc) (iV 0) 4 np nv):=((qa4.new w _ _ _ _ _ _ _ _ _ _).bw b1).bw (zT w1 _);clear b1;obtain ⟨p0,p1,p2,p3,-,-,-,-,-,-,-,-⟩:=X1.out;go_wp2_with fail
 clear p0 p1 p2 p3;have V1:Hid (EvC3 (w1.alloc (oQ2 4 np nv)) w1.heap.size 4 np nv):=EvC3.new w1 _ _ _ _;generalize w1.alloc (oQ2 4 np nv)=W1 at *;refine (qbw _ _ _ _ _ _ rs os _ (by have:=H4.out;omega) (by omega) (H1.bw B1.out) (H2.bw B1.out)).mono ?_;rintro e w2 ⟨v2,rfl,o2,b2⟩;obtain ⟨ra2,rc2,oa2,oc2,rfl,-,-⟩:=o2.read;have bA:=zT w2 (oQ0 k ra2 rs.length rc2 oa2 os.length oc2 0);have q2:Bw W1 (w2.alloc (oQ0 k ra2 rs.length rc2 oa2 os.length oc2 0)):=b2.trans (bA.mono b2.size);have X2:Hid (qa4 (w2.alloc (oQ0 k ra2 rs.length rc2 oa2 os.length oc2 0)) w.heap.size (iV k) (.slice ra rs.length rc) (.slice oa os.length oc) (iV 0) 4 np nv):=X1.bw q2;have V2:Hid (EvC3 (w2.alloc (oQ0 k ra2 rs.length rc2 oa2 os.length oc2 0)) w1.heap.size 4 np nv):=V1.bw q2;have Y2:Hid (BoxC (w2.alloc (oQ0 k ra2 rs.length rc2 oa2 os.length oc2 0)) w2.heap.size (iV k) (.slice ra2 rs.length rc2) (.slice oa2 os.length oc2) (iV 0)):=BoxC.new w2 _ _ _ _ _;have F2:Hid (∀ j,(w2.alloc (oQ0 k ra2 rs.length rc2 oa2 os.length oc2 0)).frozen? ⟨w2.heap.size,j,none⟩=false):=fun j=>by simp
 have O2:Hid (qac (w2.alloc (oQ0 k ra2 rs.length rc2 oa2 os.length oc2 0)) W1.heap.size (stV k ra2 rs.length rc2 oa2 os.length oc2 0) k rs os 0):=o2.bw bA;have L2:Hid (∀ j,qak (stV k ra2 rs.length rc2 oa2 os.length oc2 0) j->W1.heap.size<=j/\j<w2.heap.size):=fun j hj=>o2.lt hj;have B2:Hid (Bw w (w2.alloc (oQ0 k ra2 rs.length rc2 oa2 os.length oc2 0))):=B1.trans (q2.mono B1.size);have zw:w.heap.size+1+1<W1.heap.size:=X1.lt;have zv:w1.heap.size<W1.heap.size:=zJ W1 _ V1.1;have z2:W1.heap.size<=w2.heap.size:=b2.size;clear b2 o2 bA q2 X1 V1 B1;obtain ⟨p0,p1,p2,p3,e0,e1,e2,r0,r1,r2,r3,rf⟩:=X2.out;obtain ⟨u0,u1,u2⟩:=V2.out;obtain ⟨t0,t1,t2,t3⟩:=Y2.out;have tf:=F2.out;go_wp2_with fail
 clear p0 p1 p2 p3 e0 e1 e2 r0 r1 r2 r3 rf u0 u1 u2 t0 t1 t2 t3 tf;generalize w2.alloc (oQ0 k ra2 rs.length rc2 oa2 os.length oc2 0)=W2 at *;refine (qfe _ _ _ _ _ _ _ _ _).mono ?_;rintro e w3 ⟨rfl,b3⟩;have X3:Hid (qa4 w3 w.heap.size (iV k) (.slice ra rs.length rc) (.slice oa os.length oc) (iV 0) 4 np nv):=X2.bw b3;have O3:Hid (qac w3 W1.heap.size (stV k ra2 rs.length rc2 oa2 os.length oc2 0) k rs os 0):=O2.bw b3;have B3:Hid (Bw w w3):=B2.trans (b3.mono B2.size);clear b3 X2 V2 Y2 F2 O2 B2;obtain ⟨-,-,-,-,-,-,-,r0,r1,r2,r3,rf⟩:=X3.out;go_wp2;refine bodyPost_ret (v:=.tuple #[stV k ra2 rs.length rc2 oa2 os.length oc2 2,.bool true]) (by simp [results,results110,go_sem,r0,r1,r2,r3]) rfl ⟨_,rfl,?_,?_⟩
 ·have hd:qaf len (g k) k rs os 0 nv=⟨k,rs,os,2⟩:=by
   unfold qaf;rw [H8.1,nB (by decide),nB (by decide),nC rfl,nC H8.2]
  rw [hd];exact qac.put4 (B':=W1.heap.size) (O3.recode 2) zw (by omega)
 ·have:=B3.out
  go_grown
theorem qdb (b off len cap k:Nat) (g:Nat->I5) (ra oa:Option Addr) (rc oc:Nat) (rs os:List Int) (ek eq ev:Int) (w:World) (hl:(len:Int)<=30) (hb:b<w.heap.size) (hI:qaq w b off len g) (h4:rs.length=4) (ho:os.length<=60) (h1:Sl w ra rs) (h2:Sl w oa os) (hk:k<len) (hp:qaa g len 4=true) (np nv:Int) (HN:Hid (evK (g k).o=3/\evP (g k).o (g k).n=np/\evW (g k).o (g k).a rs=nv)) (HQ:Hid ((ek != 3)=true\/((ek != 3)=false/\inB ev (-1000000000) 1000000000=false)\/((ek != 3)=false/\inB ev (-1000000000) 1000000000=true/\(np != 9)=true/\(eq != np)=true)\/((ek != 3)=false/\inB ev (-1000000000) 1000000000=true/\(np != 9)=false/\inB eq 0 3=false))):
  Calls prog 110 #[.slice (some (aQ b off)) len cap,stV k ra rs.length rc oa os.length oc 0,evV ek eq ev] w fun e w'=>∃ v,e=.returned (.tuple #[v,.bool false])/\qac w' w.heap.size v k rs os 0/\Bw w w':=by
 have HI:Hid (qaq w b off len g):=hI;have H1:Hid (Sl w ra rs):=h1;have H2:Hid (Sl w oa os):=h2;have H4:Hid (rs.length=4):=h4;have HP:Hid (qaa g len 4=true):=hp;have hk':(k:Int)<(len:Int):=by omega
 clear hI h1 h2 h4 hp
 go_enter func110,ntmps110
 go_wp2_with fail
 refine (qbg _ _ _ _ k g _ _ _ _ _ _ rs _ (by unfold maxLen;omega) (by simp;omega) (HI.bw (by go_grown) hb) (H1.bw (by go_grown)) H4.out hk HP.out).mono ?_;rintro e w1 ⟨he1,b1⟩;rw [HN.1,HN.2.1,HN.2.2] at he1;subst he1;have B1:Hid (Bw w (w1.alloc (oQ2 3 np nv))):=(qah (by go_grown) b1 (by simp;omega)).alloc (by have:=b1.size;simp at this;omega) _;have X1:Hid (qa4 (w1.alloc (oQ2 3 np nv)) w.heap.size (iV k) (.slice ra rs.length rc) (.slice oa os.length oc) (iV 0) ek eq ev):=((qa4.new w _ _ _ _ _ _ _ _ _ _).bw b1).bw (zT w1 _);clear b1;obtain ⟨p0,p1,p2,p3,-,-,-,-,-,-,-,-⟩:=X1.out;go_wp2_with fail
 clear p0 p1 p2 p3;have V1:Hid (EvC3 (w1.alloc (oQ2 3 np nv)) w1.heap.size 3 np nv):=EvC3.new w1 _ _ _ _;generalize w1.alloc (oQ2 3 np nv)=W1 at *;refine (qbw _ _ _ _ _ _ rs os _ (by have:=H4.out;omega) (by omega) (H1.bw B1.out) (H2.bw B1.out)).mono ?_;rintro e w2 ⟨v2,rfl,o2,b2⟩;obtain ⟨ra2,rc2,oa2,oc2,rfl,-,-⟩:=o2.read;have bA:=zT w2 (oQ0 k ra2 rs.length rc2 oa2 os.length oc2 0);have q2:Bw W1 (w2.alloc (oQ0 k ra2 rs.length rc2 oa2 os.length oc2 0)):=b2.trans (bA.mono b2.size);have X2:Hid (qa4 (w2.alloc (oQ0 k ra2 rs.length rc2 oa2 os.length oc2 0)) w.heap.size (iV k) (.slice ra rs.length rc) (.slice oa os.length oc) (iV 0) ek eq ev):=X1.bw q2;have V2:Hid (EvC3 (w2.alloc (oQ0 k ra2 rs.length rc2 oa2 os.length oc2 0)) w1.heap.size 3 np nv):=V1.bw q2;have Y2:Hid (BoxC (w2.alloc (oQ0 k ra2 rs.length rc2 oa2 os.length oc2 0)) w2.heap.size (iV k) (.slice ra2 rs.length rc2) (.slice oa2 os.length oc2) (iV 0)):=BoxC.new w2 _ _ _ _ _;have F2:Hid (∀ j,(w2.alloc (oQ0 k ra2 rs.length rc2 oa2 os.length oc2 0)).frozen? ⟨w2.heap.size,j,none⟩=false):=fun j=>by simp
 have O2:Hid (qac (w2.alloc (oQ0 k ra2 rs.length rc2 oa2 os.length oc2 0)) W1.heap.size (stV k ra2 rs.length rc2 oa2 os.length oc2 0) k rs os 0):=o2.bw bA;have L2:Hid (∀ j,qak (stV k ra2 rs.length rc2 oa2 os.length oc2 0) j->W1.heap.size<=j/\j<w2.heap.size):=fun j hj=>o2.lt hj;have B2:Hid (Bw w (w2.alloc (oQ0 k ra2 rs.length rc2 oa2 os.length oc2 0))):=B1.trans (q2.mono B1.size);have zw:w.heap.size+1+1<W1.heap.size:=X1.lt;have zv:w1.heap.size<W1.heap.size:=zJ W1 _ V1.1;have z2:W1.heap.size<=w2.heap.size:=b2.size;clear b2 o2 bA q2 X1 V1 B1;obtain ⟨p0,p1,p2,p3,e0,e1,e2,r0,r1,r2,r3,rf⟩:=X2.out;obtain ⟨u0,u1,u2⟩:=V2.out;obtain ⟨t0,t1,t2,t3⟩:=Y2.out;have tf:=F2.out
 rcases HQ.out with q1 | ⟨q1,q2⟩ | ⟨q1,q2,q3,q4⟩ | ⟨q1,q2,q3,q5⟩
 all_goals
  go_wp2_with (first|(go_at_call 90;refine (l1Num_any _ _).mono ?_;rintro e w' ⟨rfl,rfl⟩)|(go_at_call 48;refine (l1In_any _ _ _ _).mono ?_;rintro e w' ⟨rfl,rfl⟩))
  refine bodyPost_ret (v:=.tuple #[stV k ra2 rs.length rc2 oa2 os.length oc2 0,.bool false]) (by simp [results,results110,go_sem,r0,r1,r2,r3]) rfl ⟨_,rfl,?_,?_⟩
  ·exact qac.put4 (B':=W1.heap.size) O2.out zw (by omega)
  ·have:=B2.out
   go_grown
open Go.ChangeShapes Go.WideShapes Go.ChangeAt
theorem Tryz.own:ownKnob prog.godebug=none:=by kernel_rfl
theorem Tryz.laidOut:laidOutB prog=true:=by kernel_rfl
theorem qw2 {w:World} {p:Addr} {v:Value} (h:w.cell? p=some v):p.block<w.heap.size:=zJ w p h
theorem qeq {ops:Array Oper} {rest:List Oper} {op:Oper} {act:Act} {Q:Exit->Act->World->Prop} (w:World) (hgd:op.guard=none) (s x:Operand)
  (ho:op.op=.call { callee:=.builtin .append,args:=#[s,x],argTypes:=#[41,41] })
  (B:Nat) (v:Value) (xs:List Int) (hs:act.eval s=v) (hv:OwnI w B v xs) (y:Int) (hx:act.eval x=.slice (some (aQ w.heap.size 0)) 1 1) (hn:xs.length<=1048576) (hB:B<=w.heap.size)
  (h:∀ v' w',OwnI w' B v' (xs ++ [y])->Below B w w'->wpList prog ops Q rest (act.put op.dst v') w'):
  wpList prog ops Q (op :: rest) act (w.alloc (.cells #[iV y] 3)):=by
 have hb:Bw w (w.alloc (.cells #[iV y] 3)):=(nE _ _).alloc (nA _) _;refine qaz _ hgd s x ho B 1 v (some (aQ w.heap.size 0)) xs [y] hs hx (hv.bw hb) (.inr ⟨w.heap.size,0,rfl,by simp,fun i hi=>?_⟩) (by simp;omega) (by simp;omega) ?_
 ·have:i=0:=by simp at hi;omega
  subst this;exact zW _ _ _ 0 rfl
 ·intro v' w' o g _
  refine h v' w' o (Below.grown (hb.mono hB) g (by simp;omega) (fun k hk=>(hv.lt k hk).1))
theorem qcw {ops:Array Oper} {rest:List Oper} {op:Oper} {act:Act} {Q:Exit->Act->World->Prop} (w:World) {N:Nat} (hN:N=w.heap.size) (hgd:op.guard=none) (s x:Operand)
  (ho:op.op=.call { callee:=.builtin .append,args:=#[s,x],argTypes:=#[41,41] })
  (B:Nat) (v:Value) (xs:List Int) (hs:act.eval s=v) (hv:OwnI w B v xs) (y:Int) (hx:act.eval x=.slice (some (aQ N 0)) 1 1) (hn:xs.length<=1048576) (hB:B<=w.heap.size)
  (h:∀ v' w',OwnI w' B v' (xs ++ [y])->Below B w w'->wpList prog ops Q rest (act.put op.dst v') w'):
  wpList prog ops Q (op :: rest) act (w.alloc (.cells #[iV y] 3)):=by
 subst hN;exact qeq w hgd s x ho B v xs hs hv y hx hn hB h
theorem OwnI.to {w:World} {B:Nat} {v:Value} {xs ys:List Int} (h:OwnI w B v xs) (e:ys=xs):OwnI w B v ys:=e ▸ h
abbrev dV (p a b c d:Int) (oa:Option Addr) (on oc:Nat) (code:Int):Value:=.agg #[iV p,iV a,iV b,iV c,iV d,.slice oa on oc,iV code]
theorem qcd (p a b c d:Int) (oa:Option Addr) (on oc:Nat) (code:Int) (w:World) (h0:0<=p) (h1:p<=1000000000):
  Calls prog 168 #[dV p a b c d oa on oc code] w (rB w (dV (p+1) a b c d oa on oc code)):=by
 go_enter func168,ntmps168
 go_wp2;refine bodyPost_ret (v:=dV (p+1) a b c d oa on oc code) (by simp [results,results168,go_sem]) rfl ⟨rfl,?_⟩
 go_grown
def set4 (a b c d:Int) (j:Nat) (v:Int):Int × Int × Int × Int:=if j=0 then (v,b,c,d) else if j=1 then (a,v,c,d) else if j=2 then (a,b,v,d) else (a,b,c,v)
theorem qfk (p a b c d:Int) (oa:Option Addr) (on oc:Nat) (code:Int) (j:Nat) (v:Int) (w:World) (h0:0<=p) (h1:p<=1000000000) (hj:j<4):
  Calls prog 167 #[dV p a b c d oa on oc code,iV j,iV v] w (rB w (dV (p+1) (set4 a b c d j v).1 (set4 a b c d j v).2.1 (set4 a b c d j v).2.2.1 (set4 a b c d j v).2.2.2 oa on oc code)):=by
 have hh:j=0\/j=1\/j=2\/j=3:=by omega
 rcases hh with rfl | rfl | rfl | rfl
 ·go_enter func167,ntmps167
  go_wp2_with fail
  refine (qcd _ _ _ _ _ _ _ _ _ _ h0 h1).mono ?_;rintro e w1 ⟨rfl,b1⟩;have B1:Hid (Bw w w1):=qah (by go_grown) b1 (by simp;omega);obtain ⟨hc1,hf1⟩:=qal b1;clear b1;go_wp2;refine bodyPost_ret (v:=dV (p+1) v b c d oa on oc code) (by simp [results,results167,go_sem,hc1]) rfl ⟨rfl,?_⟩;have:=B1.out
  go_grown
 ·go_enter func167,ntmps167
  go_wp2_with fail
  refine (qcd _ _ _ _ _ _ _ _ _ _ h0 h1).mono ?_;rintro e w1 ⟨rfl,b1⟩;have B1:Hid (Bw w w1):=qah (by go_grown) b1 (by simp;omega);obtain ⟨hc1,hf1⟩:=qal b1;clear b1;go_wp2;refine bodyPost_ret (v:=dV (p+1) a v c d oa on oc code) (by simp [results,results167,go_sem,hc1]) rfl ⟨rfl,?_⟩;have:=B1.out
  go_grown
 ·go_enter func167,ntmps167
  go_wp2_with fail
  refine (qcd _ _ _ _ _ _ _ _ _ _ h0 h1).mono ?_;rintro e w1 ⟨rfl,b1⟩;have B1:Hid (Bw w w1):=qah (by go_grown) b1 (by simp;omega);obtain ⟨hc1,hf1⟩:=qal b1;clear b1;go_wp2;refine bodyPost_ret (v:=dV (p+1) a b v d oa on oc code) (by simp [results,results167,go_sem,hc1]) rfl ⟨rfl,?_⟩;have:=B1.out
  go_grown
 ·go_enter func167,ntmps167
  go_wp2_with fail
  refine (qcd _ _ _ _ _ _ _ _ _ _ h0 h1).mono ?_;rintro e w1 ⟨rfl,b1⟩;have B1:Hid (Bw w w1):=qah (by go_grown) b1 (by simp;omega);obtain ⟨hc1,hf1⟩:=qal b1;clear b1;go_wp2;refine bodyPost_ret (v:=dV (p+1) a b c v oa on oc code) (by simp [results,results167,go_sem,hc1]) rfl ⟨rfl,?_⟩;have:=B1.out
  go_grown
theorem qnr (p code:Int) (ra oa:Option Addr) (rc oc:Nat) (a b c d:Int) (os:List Int) (w:World) (ho:os.length<=1048576) (h1:Sl w ra [a,b,c,d]) (h2:Sl w oa os):
  Calls prog 145 #[stV p ra 4 rc oa os.length oc code] w fun e w'=>∃ oa' oc',e=.returned (dV p a b c d oa' os.length oc' code)/\OwnI w' w.heap.size (.slice oa' os.length oc') os/\Bw w w':=by
 have H1:Hid (Sl w ra [a,b,c,d]):=h1;have H2:Hid (Sl w oa os):=h2;clear h1 h2
 go_enter func145,ntmps145
 go_wp2_with fail
 refine (qb9 ra rc [a,b,c,d] _ (H1.bw (by go_grown))).mono ?_;rintro e w1 ⟨⟨q0,q1,q2,q3,rfl,hq⟩,b1⟩;have hq':=hq rfl;simp only [List.cons.injEq,and_true] at hq';obtain ⟨rfl,rfl,rfl,rfl⟩:=hq';have B1:Hid (Bw w w1):=qah (by go_grown) b1 (by simp;omega);obtain ⟨hc1,hf1⟩:=qal b1;have y1:w.heap.size+1<w1.heap.size:=by have:=b1.size;simp at this;omega
 have y0:w.heap.size<w1.heap.size:=by omega
 clear b1 hq;go_wp2_with fail
 have B2:Hid (Bw w (w1.alloc (.cells #[iV a,iV b,iV c,iV d] 222))):=B1.alloc (by omega) _;generalize hW:w1.alloc (.cells #[iV a,iV b,iV c,iV d] 222)=W at *;have lr:w1.heap.size<W.heap.size:=by rw [<- hW];simp
 have k0:W.cell? (aQ w1.heap.size 0)=some (iV a):=by rw [<- hW];simp
 have k1:W.cell? (aQ w1.heap.size 1)=some (iV b):=by rw [<- hW];simp
 have k2:W.cell? (aQ w1.heap.size 2)=some (iV c):=by rw [<- hW];simp
 have k3:W.cell? (aQ w1.heap.size 3)=some (iV d):=by rw [<- hW];simp
 have s0:W.cell? (aQ w.heap.size 0)=some (iV p):=by rw [<- hW,zS _ _ y0,hc1 _ _ (by simp;omega)];simp
 have s2:W.cell? (aQ w.heap.size 2)=some (.slice oa os.length oc):=by rw [<- hW,zS _ _ y0,hc1 _ _ (by simp;omega)];simp
 have s3:W.cell? (aQ w.heap.size 3)=some (iV code):=by rw [<- hW,zS _ _ y0,hc1 _ _ (by simp;omega)];simp
 have e0:W.cell? ⟨w.heap.size+1,0,none⟩=some (iV 0):=by rw [<- hW,zS _ _ y1,hc1 _ _ (by simp)];simp
 have e1:W.cell? ⟨w.heap.size+1,1,none⟩=some (iV 0):=by rw [<- hW,zS _ _ y1,hc1 _ _ (by simp)];simp
 have e2:W.cell? ⟨w.heap.size+1,2,none⟩=some (iV 0):=by rw [<- hW,zS _ _ y1,hc1 _ _ (by simp)];simp
 have e3:W.cell? ⟨w.heap.size+1,3,none⟩=some (iV 0):=by rw [<- hW,zS _ _ y1,hc1 _ _ (by simp)];simp
 have e4:W.cell? ⟨w.heap.size+1,4,none⟩=some (iV 0):=by rw [<- hW,zS _ _ y1,hc1 _ _ (by simp)];simp
 have e5:W.cell? ⟨w.heap.size+1,5,none⟩=some nS:=by rw [<- hW,zS _ _ y1,hc1 _ _ (by simp)];simp
 have e6:W.cell? ⟨w.heap.size+1,6,none⟩=some (iV 0):=by rw [<- hW,zS _ _ y1,hc1 _ _ (by simp)];simp
 have ef:∀ j,W.frozen? ⟨w.heap.size+1,j,none⟩=false:=fun j=>by rw [<- hW,zI (Below.heap_alloc w1 _ _ y1),hf1 _ _ (by simp)];simp
 have l0:w.heap.size<W.heap.size:=by omega
 have l1:w.heap.size+1<W.heap.size:=by omega
 have ne1:w1.heap.size≠w.heap.size+1:=by omega
 have ne2:w.heap.size+1≠w1.heap.size:=by omega
 clear hc1 hf1 hW B1 y0 y1
 go_region_held3 (fun w'=>w'.cell? (aQ w.heap.size 0)=some (iV p)/\w'.cell? (aQ w.heap.size 2)=some (.slice oa os.length oc)/\w'.cell? (aQ w.heap.size 3)=some (iV code)/\w'.cell? (aQ w1.heap.size 0)=some (iV a)/\w'.cell? (aQ w1.heap.size 1)=some (iV b)/\w'.cell? (aQ w1.heap.size 2)=some (iV c)/\w'.cell? (aQ w1.heap.size 3)=some (iV d)) (go_keep)
  (first|(go_at_call 152;refine (qfr oa oc os _ ho (by exact H2.bw B2.drew)).mono ?_;rintro e w2 ⟨v2,rfl,o2,b2'⟩;have b2:Bw W w2:=(nE W.heap.size W).drew.trans b2';obtain ⟨oa2,oc2,rfl,-⟩:=o2.form;obtain ⟨hc2,hf2⟩:=qal b2;have O2:Hid (OwnI w2 W.heap.size (.slice oa2 os.length oc2) os):=o2;have B3:Hid (Bw w w2):=B2.trans (b2.mono B2.size);clear o2 b2 b2'))
 go_wp2;refine bodyPost_ret (v:=dV p a b c d oa2 os.length oc2 code) (by simp [results,results145,go_sem,hc2,l1,e0,e1,e2,e3,e4,e5,e6]) rfl ⟨_,_,rfl,?_,?_⟩
 ·refine OwnI.mono (B:=W.heap.size) ?_ (by omega)
  repeat (refine OwnI.setBelow ?_ (by simpa using by omega) _)
  exact O2.out
 ·have:=B3.out
  go_grown
theorem qty (p a b c d:Int) (oa:Option Addr) (oc:Nat) (os:List Int) (code:Int) (B:Nat) (w:World) (hB:B<=w.heap.size) (ho:OwnI w B (.slice oa os.length oc) os):
  Calls prog 148 #[dV p a b c d oa os.length oc code] w fun e w'=>∃ v,e=.returned v/\qac w' B v p [a,b,c,d] os code/\Bw w w':=by
 have HO:Hid (OwnI w B (.slice oa os.length oc) os):=ho;clear ho
 go_enter func148,ntmps148
 go_wp2_with fail
 have B2:Hid (Bw w ((w.alloc (oQ3 p a b c d oa os.length oc code)).alloc (zQ0))):=by
  show Below _ _ _
  go_grown
 have k0:((w.alloc (oQ3 p a b c d oa os.length oc code)).alloc (zQ0)).cell? (aQ w.heap.size 0)=some (iV p):=(zS _ _ (by simp)).trans (by simp);have k1:((w.alloc (oQ3 p a b c d oa os.length oc code)).alloc (zQ0)).cell? (aQ w.heap.size 1)=some (iV a):=(zS _ _ (by simp)).trans (by simp);have k2:((w.alloc (oQ3 p a b c d oa os.length oc code)).alloc (zQ0)).cell? (aQ w.heap.size 2)=some (iV b):=(zS _ _ (by simp)).trans (by simp);have k3:((w.alloc (oQ3 p a b c d oa os.length oc code)).alloc (zQ0)).cell? (aQ w.heap.size 3)=some (iV c):=(zS _ _ (by simp)).trans (by simp);have k4:((w.alloc (oQ3 p a b c d oa os.length oc code)).alloc (zQ0)).cell? (aQ w.heap.size 4)=some (iV d):=(zS _ _ (by simp)).trans (by simp);have k5:((w.alloc (oQ3 p a b c d oa os.length oc code)).alloc (zQ0)).cell? (aQ w.heap.size 5)=some (.slice oa os.length oc):=(zS _ _ (by simp)).trans (by simp);have k6:((w.alloc (oQ3 p a b c d oa os.length oc code)).alloc (zQ0)).cell? (aQ w.heap.size 6)=some (iV code):=(zS _ _ (by simp)).trans (by simp);have e0:((w.alloc (oQ3 p a b c d oa os.length oc code)).alloc (zQ0)).cell? ⟨w.heap.size+1,0,none⟩=some (iV 0):=by simp
 have e1:((w.alloc (oQ3 p a b c d oa os.length oc code)).alloc (zQ0)).cell? ⟨w.heap.size+1,1,none⟩=some nS:=by simp
 have e2:((w.alloc (oQ3 p a b c d oa os.length oc code)).alloc (zQ0)).cell? ⟨w.heap.size+1,2,none⟩=some nS:=by simp
 have e3:((w.alloc (oQ3 p a b c d oa os.length oc code)).alloc (zQ0)).cell? ⟨w.heap.size+1,3,none⟩=some (iV 0):=by simp
 have ef:∀ j,((w.alloc (oQ3 p a b c d oa os.length oc code)).alloc (zQ0)).frozen? ⟨w.heap.size+1,j,none⟩=false:=fun j=>by simp
 have l1:w.heap.size+1<((w.alloc (oQ3 p a b c d oa os.length oc code)).alloc (zQ0)).heap.size:=by simp
 generalize (w.alloc (oQ3 p a b c d oa os.length oc code)).alloc (zQ0)=W at *;have l0:w.heap.size<W.heap.size:=by omega
 have HS : Hid (Sl W (some ⟨w.heap.size, 1, none⟩) [a, b, c, d]) := .inr ⟨_, _, rfl, l0, fun i hi => by
  match i,hi with
  | 0,_=>exact k1
  | 1,_=>exact k2
  | 2,_=>exact k3
  | 3,_=>exact k4⟩
 have ne2:w.heap.size+1≠w.heap.size:=by omega
 have ne1:w.heap.size≠w.heap.size+1:=by omega
 go_region_held3 (fun w'=>w'.cell? (aQ w.heap.size 0)=some (iV p)/\w'.cell? (aQ w.heap.size 5)=some (.slice oa os.length oc)/\w'.cell? (aQ w.heap.size 6)=some (iV code)) (go_keep)
  (first|(go_at_call 152;refine (qfr _ _ [a,b,c,d] _ (by simp) (by exact HS.bw ((nE W.heap.size W).drew))).mono ?_;rintro e w2 ⟨v2,rfl,o2,b2'⟩;have b2:Bw W w2:=(nE W.heap.size W).drew.trans b2';obtain ⟨ra2,rc2,hv2,-⟩:=o2.form;rw [show [a,b,c,d].length=4 from rfl] at hv2;subst hv2;obtain ⟨hc2,hf2⟩:=qal b2;have O2:Hid (OwnI w2 W.heap.size (.slice ra2 4 rc2) [a,b,c,d]):=o2;have P2:Hid (OwnI w2 B (.slice oa os.length oc) os):=(HO.bw B2.out).bw b2;have B3:Hid (Bw w w2):=B2.trans (b2.mono B2.size);clear o2 b2 b2'))
 have lo:∀ j,(Value.slice oa os.length oc).ownBlock=some j->j<w.heap.size:=fun j hj=>(HO.lt j hj).2;have LO:Hid (∀ j,(Value.slice oa os.length oc).ownBlock=some j->j<w.heap.size):=lo;clear lo HS k0 k1 k2 k3 k4 k5 k6;go_wp2;refine bodyPost_ret (v:=stV p ra2 4 rc2 oa os.length oc code) (by simp [results,results148,go_sem,hc2,l1,e0,e1,e2,e3]) rfl ⟨_,rfl,⟨_,_,rfl,?_,?_,?_⟩,?_⟩
 ·refine OwnI.mono (B:=W.heap.size) ?_ (by omega)
  repeat (refine OwnI.setBelow ?_ (by simpa using l1) _)
  exact O2.out
 ·repeat (refine OwnI.setOther ?_ (fun e=>by have:=LO.out _ e;simp at this;omega) _)
  exact P2.out
 ·intro j h1 h2
  have:=(O2.lt j h1).1;have:=LO.out j h2;omega
 ·have:=B3.out
  go_grown
theorem qbd.of_row {v:Value} {w w':World} {row:Option Nat} (g:w.grownBy w' row) (h:∀ k,row=some k->qak v k):qbd v w w':=
 ⟨g.os,g.tape,g.output,g.size,fun k hk hn=>g.block k hk (fun e=>hn (h k e.symm))⟩
theorem qo8 {w w':World} {row:Option Nat} (h:w.grownBy w' row):w.grownBy w'.drew row:=⟨h.os,h.tape,h.output,h.size,h.block⟩
theorem qbd.trans {v:Value} {w w1 w2:World} (h:qbd v w w1) (k:qbd v w1 w2):qbd v w w2:=
 ⟨k.os.trans h.os,k.tape.trans h.tape,k.output.trans h.output,zP h.size k.size,fun j hj hn=>(k.block j (zL hj h.size) hn).trans (h.block j hj hn)⟩
theorem qbd.of_below {v:Value} {w w':World} (h:Bw w w'):qbd v w w':=⟨h.os,h.tape,h.output,h.size,fun k hk _=>h.block k hk⟩
theorem qac.parts {w:World} {B:Nat} {p code:Int} {ra oa:Option Addr} {rn rc on oc:Nat} {rs os:List Int} (h:qac w B (stV p ra rn rc oa on oc code) p rs os code):OwnI w B (.slice ra rn rc) rs/\OwnI w B (.slice oa on oc) os/\∀ k,(Value.slice ra rn rc).ownBlock=some k->(Value.slice oa on oc).ownBlock≠some k:=by
 obtain ⟨vr,vo,e,o1,o2,ha⟩:=h;simp only [stV,Value.agg.injEq,Array.mk.injEq,List.cons.injEq,and_true,true_and] at e;obtain ⟨rfl,rfl⟩:=e;exact ⟨o1,o2,ha⟩
theorem qn3 (b off len cap k:Nat) (g:Nat->I5) (ra oa:Option Addr) (rc oc:Nat) (rs os:List Int) (B:Nat) (v:Int) (w:World) (hl:(len:Int)<=30) (hb:b<w.heap.size) (hI:qaq w b off len g) (h4:rs.length=4) (hO:qac w B (stV k ra rs.length rc oa os.length oc 0) k rs os 0) (hk:k<len) (hp:qaa g len 4=true) (hnum:allN rs=true) (h678:(g k).o≠6/\(g k).o≠7/\(g k).o≠8):
  Calls prog 133 #[.slice (some (aQ b off)) len cap,stV k ra rs.length rc oa os.length oc 0] w fun e w'=>∃ u,(∃ q c,u=stV q ra rs.length rc oa os.length oc c)/\e=.returned u/\qac w' B u (qaf len (g k) k rs os 0 v).p (qaf len (g k) k rs os 0 v).rs (qaf len (g k) k rs os 0 v).os (qaf len (g k) k rs os 0 v).c/\qbd (stV k ra rs.length rc oa os.length oc 0) w w':=by
 obtain ⟨o1,o2,ha⟩:=hO.parts;obtain ⟨G,rfl,_,_,_⟩:=qke o1 (by omega);obtain ⟨⟨q1,q11⟩,⟨r0,r3⟩,⟨a0,a3⟩,⟨b0,b3⟩⟩:=qb6 (qbo hp hk);obtain ⟨jr,hjr⟩:=Int.eq_ofNat_of_zero_le r0;obtain ⟨ja,hja⟩:=Int.eq_ofNat_of_zero_le a0;obtain ⟨jb,hjb⟩:=Int.eq_ofNat_of_zero_le b0;have hn4:∀ j,j<4->numB (zi rs j)=true:=fun j hj=>(List.all_eq_true.1 hnum) _ (qm2 (by omega));rw [h4] at o1 ha ⊢
 have key:∀ s:S4,s=qaf len (g k) k rs os 0 0->s.os=os->(Calls prog 133 #[.slice (some ⟨b,off,none⟩) len cap,stV k (some ⟨G,0,none⟩) 4 rc oa os.length oc 0] w fun e w'=>e=.returned (stV s.p (some ⟨G,0,none⟩) 4 rc oa os.length oc s.c)/\OwnI w' B (sG G 4 rc) s.rs/\w.grownBy w' (some G))->qaf len (g k) k rs os 0 v=qaf len (g k) k rs os 0 0->(Calls prog 133 #[.slice (some ⟨b,off,none⟩) len cap,stV k (some ⟨G,0,none⟩) 4 rc oa os.length oc 0] w fun e w'=>∃ u,(∃ q c,u=stV q (some ⟨G,0,none⟩) 4 rc oa os.length oc c)/\e=.returned u/\qac w' B u (qaf len (g k) k rs os 0 v).p (qaf len (g k) k rs os 0 v).rs (qaf len (g k) k rs os 0 v).os (qaf len (g k) k rs os 0 v).c/\qbd (stV k (some ⟨G,0,none⟩) 4 rc oa os.length oc 0) w w'):=by
  intro s hs hos h he;rw [he,<- hs];refine h.mono fun e w' ⟨h1,h2,h3⟩=>⟨_,⟨_,_,rfl⟩,h1,⟨_,_,rfl,h2,?_,ha⟩,qbd.of_row h3 fun j hj=>(qav _ _ _ _ _).2 (.inl hj)⟩
  rw [hos]
  exact o2.kept h3 (by
   cases hv:(Value.slice oa os.length oc).ownBlock with
   | none=>exact .inl rfl
   | some j=>exact .inr (fun e=>ha G rfl (by rw [hv,e])))
 have hsame:qaf len (g k) k rs os 0 v=qaf len (g k) k rs os 0 0:=by
  unfold qaf;rw [nB h678.1,nB h678.2.1,nB h678.2.2,nB h678.1,nB h678.2.1,nB h678.2.2]
 have hos:(qaf len (g k) k rs os 0 0).os=os:=by
  unfold qaf;rw [nB h678.1,nB h678.2.1,nB h678.2.2]
  split
  ·rfl
  ·split
   ·split <;> rfl
   ·split
    ·rfl
    ·split <;> rfl
 refine key _ rfl hos ?_ hsame
 rcases qd6 (g k).o with ho | ho | ho | ho | ho | ho | ho | ho | ho | ho | ho | ho
 ·omega
 ·exact qdk b off len cap k g G rc oa os.length oc 0 rs B w hl hb hI o1 h4 hk jr ja jb hjr hja hjb (by omega) (by omega) (by omega) hn4 os 1 (g k).n ho (.inl ⟨rfl,rfl⟩)
 ·exact qdk b off len cap k g G rc oa os.length oc 0 rs B w hl hb hI o1 h4 hk jr ja jb hjr hja hjb (by omega) (by omega) (by omega) hn4 os 2 (zi rs ja+zi rs jb) ho (.inr (.inl ⟨rfl,rfl⟩))
 ·exact qdk b off len cap k g G rc oa os.length oc 0 rs B w hl hb hI o1 h4 hk jr ja jb hjr hja hjb (by omega) (by omega) (by omega) hn4 os 3 (zi rs ja - zi rs jb) ho (.inr (.inr (.inl ⟨rfl,rfl⟩)))
 ·exact qdk b off len cap k g G rc oa os.length oc 0 rs B w hl hb hI o1 h4 hk jr ja jb hjr hja hjb (by omega) (by omega) (by omega) hn4 os 4 (zi rs ja*zi rs jb) ho (.inr (.inr (.inr (.inl ⟨rfl,rfl⟩))))
 ·by_cases hab:zi rs ja<zi rs jb
  ·exact qdk b off len cap k g G rc oa os.length oc 0 rs B w hl hb hI o1 h4 hk jr ja jb hjr hja hjb (by omega) (by omega) (by omega) hn4 os 5 1 ho (.inr (.inr (.inr (.inr (.inl ⟨rfl,rfl,hab⟩)))))
  ·exact qdk b off len cap k g G rc oa os.length oc 0 rs B w hl hb hI o1 h4 hk jr ja jb hjr hja hjb (by omega) (by omega) (by omega) hn4 os 5 0 ho (.inr (.inr (.inr (.inr (.inr ⟨rfl,rfl,hab⟩)))))
 ·exact absurd ho h678.1
 ·exact absurd ho h678.2.1
 ·exact absurd ho h678.2.2
 ·exact qsk b off len cap k g G rc oa os.length oc 0 rs B w hl hb hI o1 h4 hk jr ja jb hjr hja hjb (by omega) (by omega) (by omega) ho hn4 os
 ·exact qqp b off len cap k g G rc oa os.length oc 0 rs B w hl hb hI o1 h4 hk jr ja jb hjr hja hjb (by omega) (by omega) (by omega) ho hn4 os
 ·exact qqq b off len cap k g G rc oa os.length oc 0 rs B w hl hb hI o1 h4 hk jr ja jb hjr hja hjb (by omega) (by omega) (by omega) ho hn4 os
theorem qqn (b off len cap k:Nat) (g:Nat->I5) (ra oa:Option Addr) (rc oc:Nat) (rs os:List Int) (w:World) (hl:(len:Int)<=30) (hb:b<w.heap.size) (hI:qaq w b off len g) (h4:rs.length=4) (ho:os.length<=60) (h1:Sl w ra rs) (h2:Sl w oa os) (hk:k<len) (hp:qaa g len 4=true) (np:Int) (HN:Hid (evK (g k).o=1/\evP (g k).o (g k).n=np/\evW (g k).o (g k).a rs=0)) (HL:Hid (allN rs=true/\(g k).o≠6/\(g k).o≠7/\(g k).o≠8)):
  Calls prog 110 #[.slice (some (aQ b off)) len cap,stV k ra rs.length rc oa os.length oc 0,evV 1 np 0] w fun e w'=>∃ v,e=.returned (.tuple #[v,.bool true])/\qac w' w.heap.size v (qaf len (g k) k rs os 0 0).p (qaf len (g k) k rs os 0 0).rs (qaf len (g k) k rs os 0 0).os (qaf len (g k) k rs os 0 0).c/\Bw w w':=by
 have HI:Hid (qaq w b off len g):=hI;have H1:Hid (Sl w ra rs):=h1;have H2:Hid (Sl w oa os):=h2;have H4:Hid (rs.length=4):=h4;have HP:Hid (qaa g len 4=true):=hp;have hk':(k:Int)<(len:Int):=by omega
 clear hI h1 h2 h4 hp
 go_enter func110,ntmps110
 go_wp2_with fail
 refine (qbg _ _ _ _ k g _ _ _ _ _ _ rs _ (by unfold maxLen;omega) (by simp;omega) (HI.bw (by go_grown) hb) (H1.bw (by go_grown)) H4.out hk HP.out).mono ?_;rintro e w1 ⟨he1,b1⟩;rw [HN.1,HN.2.1,HN.2.2] at he1;subst he1;have B1:Hid (Bw w (w1.alloc (oQ2 1 np 0))):=(qah (by go_grown) b1 (by simp;omega)).alloc (by have:=b1.size;simp at this;omega) _;have X1:Hid (qa4 (w1.alloc (oQ2 1 np 0)) w.heap.size (iV k) (.slice ra rs.length rc) (.slice oa os.length oc) (iV 0) 1 np 0):=((qa4.new w _ _ _ _ _ _ _ _ _ _).bw b1).bw (zT w1 _);clear b1;obtain ⟨p0,p1,p2,p3,-,-,-,-,-,-,-,-⟩:=X1.out;go_wp2_with fail
 clear p0 p1 p2 p3;have V1:Hid (EvC3 (w1.alloc (oQ2 1 np 0)) w1.heap.size 1 np 0):=EvC3.new w1 _ _ _ _;generalize w1.alloc (oQ2 1 np 0)=W1 at *;refine (qbw _ _ _ _ _ _ rs os _ (by have:=H4.out;omega) (by omega) (H1.bw B1.out) (H2.bw B1.out)).mono ?_;rintro e w2 ⟨v2,rfl,o2,b2⟩;obtain ⟨ra2,rc2,oa2,oc2,rfl,-,-⟩:=o2.read;have bA:=zT w2 (oQ0 k ra2 rs.length rc2 oa2 os.length oc2 0);have q2:Bw W1 (w2.alloc (oQ0 k ra2 rs.length rc2 oa2 os.length oc2 0)):=b2.trans (bA.mono b2.size);have X2:Hid (qa4 (w2.alloc (oQ0 k ra2 rs.length rc2 oa2 os.length oc2 0)) w.heap.size (iV k) (.slice ra rs.length rc) (.slice oa os.length oc) (iV 0) 1 np 0):=X1.bw q2;have V2:Hid (EvC3 (w2.alloc (oQ0 k ra2 rs.length rc2 oa2 os.length oc2 0)) w1.heap.size 1 np 0):=V1.bw q2;have Y2:Hid (BoxC (w2.alloc (oQ0 k ra2 rs.length rc2 oa2 os.length oc2 0)) w2.heap.size (iV k) (.slice ra2 rs.length rc2) (.slice oa2 os.length oc2) (iV 0)):=BoxC.new w2 _ _ _ _ _;have F2:Hid (∀ j,(w2.alloc (oQ0 k ra2 rs.length rc2 oa2 os.length oc2 0)).frozen? ⟨w2.heap.size,j,none⟩=false):=fun j=>by simp
 have O2:Hid (qac (w2.alloc (oQ0 k ra2 rs.length rc2 oa2 os.length oc2 0)) W1.heap.size (stV k ra2 rs.length rc2 oa2 os.length oc2 0) k rs os 0):=o2.bw bA;have L2:Hid (∀ j,qak (stV k ra2 rs.length rc2 oa2 os.length oc2 0) j->W1.heap.size<=j/\j<w2.heap.size):=fun j hj=>o2.lt hj;have B2:Hid (Bw w (w2.alloc (oQ0 k ra2 rs.length rc2 oa2 os.length oc2 0))):=B1.trans (q2.mono B1.size);have zw:w.heap.size+1+1<W1.heap.size:=X1.lt;have zv:w1.heap.size<W1.heap.size:=zJ W1 _ V1.1;have z2:W1.heap.size<=w2.heap.size:=b2.size;clear b2 o2 bA q2 X1 V1 B1;obtain ⟨p0,p1,p2,p3,e0,e1,e2,r0,r1,r2,r3,rf⟩:=X2.out;obtain ⟨u0,u1,u2⟩:=V2.out;obtain ⟨t0,t1,t2,t3⟩:=Y2.out;have tf:=F2.out;go_wp2_with fail
 clear p0 p1 p2 p3 e0 e1 e2 r0 r1 r2 r3 rf u0 u1 u2 t0 t1 t2 t3 tf;generalize w2.alloc (oQ0 k ra2 rs.length rc2 oa2 os.length oc2 0)=W2 at *;refine (qn3 b off len cap k g ra2 oa2 rc2 oc2 rs os W1.heap.size 0 W2 hl (by have:=B2.size;omega) (HI.bw B2.out hb) H4.out O2.out hk HP.out HL.1 HL.2).mono ?_;rintro e w3 ⟨u,⟨q3,c3,hu⟩,rfl,o3,m3⟩;rw [hu];rw [hu] at o3;have X3:Hid (qa4 w3 w.heap.size (iV k) (.slice ra rs.length rc) (.slice oa os.length oc) (iV 0) 1 np 0):=X2.marked m3 fun j hj=>by have:=L2.out j hj;omega
 have O3:Hid (qac w3 W1.heap.size (stV q3 ra2 rs.length rc2 oa2 os.length oc2 c3) (qaf len (g k) k rs os 0 0).p (qaf len (g k) k rs os 0 0).rs (qaf len (g k) k rs os 0 0).os (qaf len (g k) k rs os 0 0).c):=o3;have B3:Hid (Bw w w3):=B2.trans (m3.bw B2.size fun j hj=>by have:=L2.out j hj;omega);clear o3 m3 X2 V2 Y2 F2 O2 B2 hu u;obtain ⟨-,-,-,-,-,-,-,r0,r1,r2,r3,rf⟩:=X3.out;go_wp2;refine bodyPost_ret (v:=.tuple #[stV q3 ra2 rs.length rc2 oa2 os.length oc2 c3,.bool true]) (by simp [results,results110,go_sem,r0,r1,r2,r3]) rfl ⟨_,rfl,?_,?_⟩
 ·exact qac.put4 (B':=W1.heap.size) O3.out zw (by omega)
 ·have:=B3.out
  go_grown
