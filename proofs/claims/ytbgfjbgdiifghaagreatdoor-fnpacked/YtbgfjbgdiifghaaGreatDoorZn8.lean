import Derived.Test.YtbgfjbgdiifghaaGreatDoorZn7
namespace Go.Proofs.YtbgfjbgdiifghaaGreatDoor
open Go.Proofs.Tryz
set_option maxRecDepth 100000
set_option maxHeartbeats 4000000
open Go.RowKit Go.Deep
open Go.ChangeShapes Go.WideShapes Go.ChangeAt
structure E3 where
 k:Int
 q:Int
 v:Int
def EvAt (w:World) (b off len:Nat) (h:Nat->E3):Prop:=∀ i,i<len->
 w.cell? ⟨b,off+i*3,none⟩=some (iV (h i).k)/\w.cell? ⟨b,off+i*3+1,none⟩=some (iV (h i).q)/\w.cell? ⟨b,off+i*3+2,none⟩=some (iV (h i).v)
theorem EvAt.bw {w w':World} {B b off len:Nat} {h:Nat->E3} (hh:EvAt w b off len h) (hb:Below B w w') (hB:b<B):EvAt w' b off len h:=by
 intro i hi;obtain ⟨h0,h1,h2⟩:=hh i hi;exact ⟨(hb.cell hB).trans h0,(hb.cell hB).trans h1,(hb.cell hB).trans h2⟩
structure I2 where
 m:Bool
 v:Int
abbrev itV (m:Bool) (v:Int):Value:=.agg #[.bool m,iV v]
def ItAt (w:World) (b off len:Nat) (h:Nat->I2):Prop:=∀ i,i<len->
 w.cell? ⟨b,off+i*2,none⟩=some (.bool (h i).m)/\w.cell? ⟨b,off+i*2+1,none⟩=some (iV (h i).v)
theorem ItAt.bw {w w':World} {B b off len:Nat} {h:Nat->I2} (hh:ItAt w b off len h) (hb:Below B w w') (hB:b<B):ItAt w' b off len h:=by
 intro i hi;obtain ⟨h0,h1⟩:=hh i hi;exact ⟨(hb.cell hB).trans h0,(hb.cell hB).trans h1⟩
def sumL (ls:Nat->Nat):Nat->Nat
 | 0=>0
 | n+1=>sumL ls n+ls n
def RowS (w:World) (a0:Option Addr) (n:Nat) (f:Nat->Value):Prop:=
 n=0\/∃ b off,a0=some ⟨b,off,none⟩/\b<w.heap.size/\∀ i,i<n->w.cell? ⟨b,off+i,none⟩=some (f i)
theorem RowS.bw {w w':World} {a0:Option Addr} {n:Nat} {f:Nat->Value} (h:RowS w a0 n f) (hb:Bw w w'):RowS w' a0 n f:=by
 rcases h with h | ⟨b,off,e,hlt,hc⟩
 ·exact .inl h
 ·exact .inr ⟨b,off,e,zL hlt hb.size,fun i hi=>(hb.cell (p:=⟨b,off+i,none⟩) hlt).trans (hc i hi)⟩
theorem RowS.at {w:World} {a0:Option Addr} {n:Nat} {f:Nat->Value} (h:RowS w a0 n f) {k:Nat} (hk:k<n):∃ b off,a0=some (aQ b off)/\w.cell? ⟨b,off+k,none⟩=some (f k):=by
 rcases h with rfl | ⟨b,off,e,-,hc⟩
 ·omega
 ·exact ⟨b,off,e,hc k hk⟩
structure qaw (P:Nat->Prop) (w w':World):Prop where
 os:w'.os=w.os
 tape:w'.tape=w.tape
 output:w'.output=w.output
 size:w.heap.size<=w'.heap.size
 block:∀ k,k<w.heap.size->¬ P k->w'.heap[k]? = w.heap[k]?
theorem qaw.refl (P:Nat->Prop) (w:World):qaw P w w:=⟨rfl,rfl,rfl,nA _,fun _ _ _=>rfl⟩
theorem qaw.trans {P:Nat->Prop} {a b c:World} (h:qaw P a b) (k:qaw P b c):qaw P a c:=
 ⟨k.os.trans h.os,k.tape.trans h.tape,k.output.trans h.output,zP h.size k.size,fun i hi hn=>(k.block i (zL hi h.size) hn).trans (h.block i hi hn)⟩
theorem qaw.mono {P Q:Nat->Prop} {w w':World} (h:qaw P w w') (hq:∀ k,P k->Q k):qaw Q w w':=
 ⟨h.os,h.tape,h.output,h.size,fun k hk hn=>h.block k hk fun hp=>hn (hq k hp)⟩
theorem qaw.of_grown {P:Nat->Prop} {w w':World} {row:Option Nat} (h:w.grownBy w' row) (hp:∀ k,row=some k->P k):qaw P w w':=
 ⟨h.os,h.tape,h.output,h.size,fun k hk hn=>h.block k hk fun e=>hn (hp k e.symm)⟩
theorem qaw.of_below {P:Nat->Prop} {w w':World} (h:Bw w w'):qaw P w w':=
 ⟨h.os,h.tape,h.output,h.size,fun k hk _=>h.block k hk⟩
theorem qaw.of_set {P:Nat->Prop} (w:World) {a:Addr} (ha:P a.block) (u:Value):qaw P w (w.setCell a u):=
 ⟨rfl,rfl,rfl,by simp [World.setCell],fun k _ hn=>zO _ _ _ _ fun e=>hn (e ▸ ha)⟩
theorem qaw.bw {P:Nat->Prop} {w w':World} {B:Nat} (h:qaw P w w') (hB:B<=w.heap.size) (hp:∀ k,P k->B<=k):Below B w w':=
 ⟨h.os,h.tape,h.output,h.size,fun k hk=>h.block k (by omega) fun e=>by have:=hp k e;omega⟩
theorem qaw.cell {P:Nat->Prop} {w w':World} (h:qaw P w w') {b:Nat} (hb:b<w.heap.size) (hp:¬ P b) (j:Nat):w'.cell? (aQ b j)=w.cell? (aQ b j):=zH (h.block b hb hp)
theorem qaw.frozen {P:Nat->Prop} {w w':World} (h:qaw P w w') {b:Nat} (hb:b<w.heap.size) (hp:¬ P b) (j:Nat):w'.frozen? (aQ b j)=w.frozen? (aQ b j):=zI (h.block b hb hp)
def EvL (w:World) (a:Option Addr) (len:Nat) (h:Nat->E3):Prop:=len=0\/∃ b off,a=some (aQ b off)/\b<w.heap.size/\EvAt w b off len h
theorem EvL.bw {w w':World} {a:Option Addr} {len:Nat} {h:Nat->E3} (hh:EvL w a len h) (hb:Bw w w'):EvL w' a len h:=by
 rcases hh with e | ⟨b,off,e,hlt,hc⟩
 ·exact .inl e
 ·exact .inr ⟨b,off,e,zL hlt hb.size,hc.bw hb hlt⟩
theorem EvL.at {w:World} {a:Option Addr} {len:Nat} {h:Nat->E3} (hh:EvL w a len h) {k:Nat} (hk:k<len):∃ b off,a=some (aQ b off)/\b<w.heap.size/\w.cell? ⟨b,off+k*3,none⟩=some (iV (h k).k)/\w.cell? ⟨b,off+k*3+1,none⟩=some (iV (h k).q)/\w.cell? ⟨b,off+k*3+2,none⟩=some (iV (h k).v):=by
 rcases hh with rfl | ⟨b,off,e,hlt,hc⟩
 ·omega
 ·exact ⟨b,off,e,hlt,hc k hk⟩
theorem EvL.take {w:World} {a:Option Addr} {len:Nat} {h:Nat->E3} (hh:EvL w a len h) {k:Nat} (hk:k<=len):EvL w a k h:=by
 rcases hh with rfl | ⟨b,off,e,hlt,hc⟩
 ·exact .inl (by omega)
 ·exact .inr ⟨b,off,e,hlt,fun i hi=>hc i (by omega)⟩
theorem EvL.one {w:World} {b off len:Nat} {h:Nat->E3} (hh:EvL w (some (aQ b off)) len h) {k:Nat} (hk:k<len):EvAt w b off len h/\b<w.heap.size:=by
 rcases hh with rfl | ⟨b',off',e,hlt,hc⟩
 ·omega
 ·simp only [nG,Addr.mk.injEq] at e
  obtain ⟨rfl,rfl,-⟩:=e;exact ⟨hc,hlt⟩
def hitB (eh:Nat->E3) (kd pr:Int) (i:Nat):Bool:=((eh i).k == kd) && ((eh i).q == pr)
def plN (eh:Nat->E3) (kd pr:Int):Nat->List Nat
 | 0=>[]
 | n+1=>if hitB eh kd pr n=true then plN eh kd pr n ++ [n] else plN eh kd pr n
def valL (eh:Nat->E3) (kd pr:Int) (n:Nat):List Int:=(plN eh kd pr n).map fun i=>(eh i).v
def plI (eh:Nat->E3) (kd pr:Int) (n:Nat):List Int:=(plN eh kd pr n).map fun i:Nat=>(i:Int)
theorem qhb (eh:Nat->E3) (kd pr:Int):∀ n,(plN eh kd pr n).length<=n
 | 0=>nA _
 | n+1=>by
  unfold plN;have:=qhb eh kd pr n
  split
  ·simp;omega
  ·omega
theorem qgs (eh:Nat->E3) (kd pr:Int) (n:Nat):(valL eh kd pr n).length<=n:=by
 unfold valL;rw [List.length_map];exact qhb eh kd pr n
theorem qs7 (eh:Nat->E3) (kd pr:Int) (n:Nat):(plI eh kd pr n).length<=n:=by
 unfold plI;rw [List.length_map];exact qhb eh kd pr n
theorem qk3 {eh:Nat->E3} {kd pr:Int} {n:Nat} (hh:hitB eh kd pr n=true):valL eh kd pr (n+1)=valL eh kd pr n ++ [(eh n).v]:=by
 unfold valL;rw [plN,nC hh,List.map_append];rfl
theorem qhy {eh:Nat->E3} {kd pr:Int} {n:Nat} (hh:hitB eh kd pr n=false):valL eh kd pr (n+1)=valL eh kd pr n:=by
 unfold valL;rw [plN,nB (by rw [hh];decide)]
theorem qxt {eh:Nat->E3} {kd pr:Int} {n:Nat} (hh:hitB eh kd pr n=true):plI eh kd pr (n+1)=plI eh kd pr n ++ [(n:Int)]:=by
 unfold plI;rw [plN,nC hh,List.map_append];rfl
theorem qs8 {eh:Nat->E3} {kd pr:Int} {n:Nat} (hh:hitB eh kd pr n=false):plI eh kd pr (n+1)=plI eh kd pr n:=by
 unfold plI;rw [plN,nB (by rw [hh];decide)]
theorem qj4 (b off len cap k:Nat) (g:Nat->I5) (ra oa:Option Addr) (rc oc:Nat) (rs os:List Int) (eq ev:Int) (w:World) (hl:(len:Int)<=30) (hb:b<w.heap.size) (hI:qaq w b off len g) (h4:rs.length=4) (ho:os.length<=60) (h1:Sl w ra rs) (h2:Sl w oa os) (hk:k<len) (hp:qaa g len 4=true) (np nv:Int) (HN:Hid (evK (g k).o=3/\evP (g k).o (g k).n=np/\evW (g k).o (g k).a rs=nv)) (H7:Hid ((g k).o=7)) (q2:inB ev (-1000000000) 1000000000=true) (q3:(np != 9)=false) (q5:inB eq 0 3=true):
  Calls prog 110 #[.slice (some (aQ b off)) len cap,stV k ra rs.length rc oa os.length oc 0,evV 3 eq ev] w fun e w'=>∃ v,e=.returned (.tuple #[v,.bool true])/\qac w' w.heap.size v (qaf len (g k) k rs os 0 ev).p (qaf len (g k) k rs os 0 ev).rs (qaf len (g k) k rs os 0 ev).os (qaf len (g k) k rs os 0 ev).c/\Bw w w':=by
 have HI:Hid (qaq w b off len g):=hI;have H1:Hid (Sl w ra rs):=h1;have H2:Hid (Sl w oa os):=h2;have H4:Hid (rs.length=4):=h4;have HP:Hid (qaa g len 4=true):=hp;have hk':(k:Int)<(len:Int):=by omega
 clear hI h1 h2 h4 hp
 go_enter func110,ntmps110
 go_wp2_with fail
 refine (qbg _ _ _ _ k g _ _ _ _ _ _ rs _ (by unfold maxLen;omega) (by simp;omega) (HI.bw (by go_grown) hb) (H1.bw (by go_grown)) H4.out hk HP.out).mono ?_;rintro e w1 ⟨he1,b1⟩;rw [HN.1,HN.2.1,HN.2.2] at he1;subst he1;have B1:Hid (Bw w (w1.alloc (oQ2 3 np nv))):=(qah (by go_grown) b1 (by simp;omega)).alloc (by have:=b1.size;simp at this;omega) _;have X1:Hid (qa4 (w1.alloc (oQ2 3 np nv)) w.heap.size (iV k) (.slice ra rs.length rc) (.slice oa os.length oc) (iV 0) 3 eq ev):=((qa4.new w _ _ _ _ _ _ _ _ _ _).bw b1).bw (zT w1 _);clear b1;obtain ⟨p0,p1,p2,p3,-,-,-,-,-,-,-,-⟩:=X1.out;go_wp2_with fail
 clear p0 p1 p2 p3;have V1:Hid (EvC3 (w1.alloc (oQ2 3 np nv)) w1.heap.size 3 np nv):=EvC3.new w1 _ _ _ _;generalize w1.alloc (oQ2 3 np nv)=W1 at *;refine (qbw _ _ _ _ _ _ rs os _ (by have:=H4.out;omega) (by omega) (H1.bw B1.out) (H2.bw B1.out)).mono ?_;rintro e w2 ⟨v2,rfl,o2,b2⟩;obtain ⟨ra2,rc2,oa2,oc2,rfl,-,-⟩:=o2.read;have bA:=zT w2 (oQ0 k ra2 rs.length rc2 oa2 os.length oc2 0);have q2:Bw W1 (w2.alloc (oQ0 k ra2 rs.length rc2 oa2 os.length oc2 0)):=b2.trans (bA.mono b2.size);have X2:Hid (qa4 (w2.alloc (oQ0 k ra2 rs.length rc2 oa2 os.length oc2 0)) w.heap.size (iV k) (.slice ra rs.length rc) (.slice oa os.length oc) (iV 0) 3 eq ev):=X1.bw q2;have V2:Hid (EvC3 (w2.alloc (oQ0 k ra2 rs.length rc2 oa2 os.length oc2 0)) w1.heap.size 3 np nv):=V1.bw q2;have Y2:Hid (BoxC (w2.alloc (oQ0 k ra2 rs.length rc2 oa2 os.length oc2 0)) w2.heap.size (iV k) (.slice ra2 rs.length rc2) (.slice oa2 os.length oc2) (iV 0)):=BoxC.new w2 _ _ _ _ _;have F2:Hid (∀ j,(w2.alloc (oQ0 k ra2 rs.length rc2 oa2 os.length oc2 0)).frozen? ⟨w2.heap.size,j,none⟩=false):=fun j=>by simp
 have O2:Hid (qac (w2.alloc (oQ0 k ra2 rs.length rc2 oa2 os.length oc2 0)) W1.heap.size (stV k ra2 rs.length rc2 oa2 os.length oc2 0) k rs os 0):=o2.bw bA;have L2:Hid (∀ j,qak (stV k ra2 rs.length rc2 oa2 os.length oc2 0) j->W1.heap.size<=j/\j<w2.heap.size):=fun j hj=>o2.lt hj;have B2:Hid (Bw w (w2.alloc (oQ0 k ra2 rs.length rc2 oa2 os.length oc2 0))):=B1.trans (q2.mono B1.size);have zw:w.heap.size+1+1<W1.heap.size:=X1.lt;have zv:w1.heap.size<W1.heap.size:=zJ W1 _ V1.1;have z2:W1.heap.size<=w2.heap.size:=b2.size;clear b2 o2 bA q2 X1 V1 B1;obtain ⟨p0,p1,p2,p3,e0,e1,e2,r0,r1,r2,r3,rf⟩:=X2.out;obtain ⟨u0,u1,u2⟩:=V2.out;obtain ⟨t0,t1,t2,t3⟩:=Y2.out;have tf:=F2.out;go_wp2_with (first|(go_at_call 90;refine (l1Num_any _ _).mono ?_;rintro e w' ⟨rfl,rfl⟩)|(go_at_call 48;refine (l1In_any _ _ _ _).mono ?_;rintro e w' ⟨rfl,rfl⟩))
 generalize w2.alloc (oQ0 k ra2 rs.length rc2 oa2 os.length oc2 0)=W2 at *;obtain ⟨o1,o2,ha⟩:=O2.parts;obtain ⟨G,rfl,_,hG1,hG2⟩:=qke o1 (by have:=H4.out;omega);have hGw:W1.heap.size<=G/\G<w2.heap.size:=L2.out G ((qav _ _ _ _ _).2 (.inl rfl));obtain ⟨⟨q1',q11⟩,⟨r0',r3'⟩,-,-⟩:=qb6 (qbo HP.out hk);obtain ⟨jr,hjr⟩:=Int.eq_ofNat_of_zero_le r0';obtain ⟨c0,c1,c2,c3,c4⟩:=HI.bw B2.out hb k hk;rw [hjr] at c1;have hj4:jr<rs.length:=by have:=H4.out;omega
 have hj4':(jr:Int)<(rs.length:Int):=by omega
 have cg:W2.cell? (aQ G jr)=some (iV (zi rs jr)):=o1.cell hj4;have fg:W2.frozen? (aQ G jr)=false:=o1.frozen jr
 have HD:Hid (qaf len (g k) k rs os 0 ev=goS len k (rs.set jr ev) os 0):=by
  show qaf len (g k) k rs os 0 ev=goS len k (rs.set jr ev) os 0;unfold qaf;rw [H7.out,nB (by decide),nC rfl,hjr,nF]
 have zG:w.heap.size<G/\w.heap.size+1<G/\w.heap.size+1+1<G/\G≠w2.heap.size:=by omega
 have zb:b≠G:=by have:=B2.out;omega
 clear o1 o2 ha c0 c2 c3 c4 hjr q1' q11 r0' r3'
 go_region
 have m3:qbd (stV k (some (aQ G 0)) rs.length rc2 oa2 os.length oc2 0) W2 (W2.setCell (aQ G jr) (iV ev)).drew:=qbd.of_row (row:=some G) (qo8 (zV (p:=(aQ G jr)) (World.grownBy.refl W2 (some G)) (.inl rfl) _)) fun j hj=>(qav _ _ _ _ _).2 (.inl (by cases hj;rfl))
 have O3:Hid (qac (W2.setCell (aQ G jr) (iV ev)).drew W1.heap.size (stV k (some (aQ G 0)) rs.length rc2 oa2 os.length oc2 0) k (rs.set jr ev) os 0):=by
  obtain ⟨o1,o2,ha⟩:=O2.parts;exact ⟨_,_,rfl,(o1.set rfl jr ev).1,o2.setOther (fun e=>ha G rfl e) _,ha⟩
 have X3:Hid (qa4 (W2.setCell (aQ G jr) (iV ev)).drew w.heap.size (iV k) (.slice ra rs.length rc) (.slice oa os.length oc) (iV 0) 3 eq ev):=X2.marked m3 fun j hj=>by have:=L2.out j hj;omega
 have Y3:Hid (BoxC (W2.setCell (aQ G jr) (iV ev)).drew w2.heap.size (iV k) (sG G rs.length rc2) (.slice oa2 os.length oc2) (iV 0)):=Y2.marked m3 fun hh=>by have:=L2.out _ hh;omega
 have B3:Hid (Bw w (W2.setCell (aQ G jr) (iV ev)).drew):=B2.trans (m3.bw B2.size fun j hj=>by have:=L2.out j hj;omega);clear p0 p1 p2 p3 e0 e1 e2 r0 r1 r2 r3 rf u0 u1 u2 t0 t1 t2 t3 tf m3 X2 V2 Y2 F2 O2 B2 cg fg c1;obtain ⟨t0,t1,t2,t3⟩:=Y3.out;go_wp2_with fail
 clear t0 t1 t2 t3;generalize (W2.setCell (aQ G jr) (iV ev)).drew=W3 at *;refine (qev _ _ _ _ _ _ _ _ _ _ _ _ (by omega) (by omega)).mono ?_;rintro e w4 ⟨rfl,b4⟩;have X4:Hid (qa4 w4 w.heap.size (iV k) (.slice ra rs.length rc) (.slice oa os.length oc) (iV 0) 3 eq ev):=X3.bw b4;have O4:Hid (qac w4 W1.heap.size (stV k (some (aQ G 0)) rs.length rc2 oa2 os.length oc2 0) k (rs.set jr ev) os 0):=O3.bw b4;have B4:Hid (Bw w w4):=B3.trans (b4.mono B3.size);clear b4 X3 Y3 O3 B3;obtain ⟨-,-,-,-,-,-,-,r0,r1,r2,r3,rf⟩:=X4.out;go_wp2;refine bodyPost_ret (v:=.tuple #[stV (goP len k) (some ⟨G,0,none⟩) rs.length rc2 oa2 os.length oc2 (goC len k 0),.bool true]) (by simp [results,results110,go_sem,r0,r1,r2,r3]) rfl ⟨_,rfl,?_,?_⟩
 ·rw [HD.out]
  exact qac.put4 (B':=W1.heap.size) ((O4.replace _).recode _) zw (by omega)
 ·have:=B4.out
  go_grown
theorem qj5 (b off len cap k:Nat) (g:Nat->I5) (ra oa:Option Addr) (rc oc:Nat) (rs os:List Int) (eq ev:Int) (w:World) (hl:(len:Int)<=30) (hb:b<w.heap.size) (hI:qaq w b off len g) (h4:rs.length=4) (ho:os.length<=60) (h1:Sl w ra rs) (h2:Sl w oa os) (hk:k<len) (hp:qaa g len 4=true) (np nv:Int) (HN:Hid (evK (g k).o=3/\evP (g k).o (g k).n=np/\evW (g k).o (g k).a rs=nv)) (H7:Hid ((g k).o=7)) (q2:inB ev (-1000000000) 1000000000=true) (q3:(np != 9)=true) (q4:(eq != np)=false) (q5:inB eq 0 3=true):
  Calls prog 110 #[.slice (some (aQ b off)) len cap,stV k ra rs.length rc oa os.length oc 0,evV 3 eq ev] w fun e w'=>∃ v,e=.returned (.tuple #[v,.bool true])/\qac w' w.heap.size v (qaf len (g k) k rs os 0 ev).p (qaf len (g k) k rs os 0 ev).rs (qaf len (g k) k rs os 0 ev).os (qaf len (g k) k rs os 0 ev).c/\Bw w w':=by
 have HI:Hid (qaq w b off len g):=hI;have H1:Hid (Sl w ra rs):=h1;have H2:Hid (Sl w oa os):=h2;have H4:Hid (rs.length=4):=h4;have HP:Hid (qaa g len 4=true):=hp;have hk':(k:Int)<(len:Int):=by omega
 clear hI h1 h2 h4 hp
 go_enter func110,ntmps110
 go_wp2_with fail
 refine (qbg _ _ _ _ k g _ _ _ _ _ _ rs _ (by unfold maxLen;omega) (by simp;omega) (HI.bw (by go_grown) hb) (H1.bw (by go_grown)) H4.out hk HP.out).mono ?_;rintro e w1 ⟨he1,b1⟩;rw [HN.1,HN.2.1,HN.2.2] at he1;subst he1;have B1:Hid (Bw w (w1.alloc (oQ2 3 np nv))):=(qah (by go_grown) b1 (by simp;omega)).alloc (by have:=b1.size;simp at this;omega) _;have X1:Hid (qa4 (w1.alloc (oQ2 3 np nv)) w.heap.size (iV k) (.slice ra rs.length rc) (.slice oa os.length oc) (iV 0) 3 eq ev):=((qa4.new w _ _ _ _ _ _ _ _ _ _).bw b1).bw (zT w1 _);clear b1;obtain ⟨p0,p1,p2,p3,-,-,-,-,-,-,-,-⟩:=X1.out;go_wp2_with fail
 clear p0 p1 p2 p3;have V1:Hid (EvC3 (w1.alloc (oQ2 3 np nv)) w1.heap.size 3 np nv):=EvC3.new w1 _ _ _ _;generalize w1.alloc (oQ2 3 np nv)=W1 at *;refine (qbw _ _ _ _ _ _ rs os _ (by have:=H4.out;omega) (by omega) (H1.bw B1.out) (H2.bw B1.out)).mono ?_;rintro e w2 ⟨v2,rfl,o2,b2⟩;obtain ⟨ra2,rc2,oa2,oc2,rfl,-,-⟩:=o2.read;have bA:=zT w2 (oQ0 k ra2 rs.length rc2 oa2 os.length oc2 0);have q2:Bw W1 (w2.alloc (oQ0 k ra2 rs.length rc2 oa2 os.length oc2 0)):=b2.trans (bA.mono b2.size);have X2:Hid (qa4 (w2.alloc (oQ0 k ra2 rs.length rc2 oa2 os.length oc2 0)) w.heap.size (iV k) (.slice ra rs.length rc) (.slice oa os.length oc) (iV 0) 3 eq ev):=X1.bw q2;have V2:Hid (EvC3 (w2.alloc (oQ0 k ra2 rs.length rc2 oa2 os.length oc2 0)) w1.heap.size 3 np nv):=V1.bw q2;have Y2:Hid (BoxC (w2.alloc (oQ0 k ra2 rs.length rc2 oa2 os.length oc2 0)) w2.heap.size (iV k) (.slice ra2 rs.length rc2) (.slice oa2 os.length oc2) (iV 0)):=BoxC.new w2 _ _ _ _ _;have F2:Hid (∀ j,(w2.alloc (oQ0 k ra2 rs.length rc2 oa2 os.length oc2 0)).frozen? ⟨w2.heap.size,j,none⟩=false):=fun j=>by simp
 have O2:Hid (qac (w2.alloc (oQ0 k ra2 rs.length rc2 oa2 os.length oc2 0)) W1.heap.size (stV k ra2 rs.length rc2 oa2 os.length oc2 0) k rs os 0):=o2.bw bA;have L2:Hid (∀ j,qak (stV k ra2 rs.length rc2 oa2 os.length oc2 0) j->W1.heap.size<=j/\j<w2.heap.size):=fun j hj=>o2.lt hj;have B2:Hid (Bw w (w2.alloc (oQ0 k ra2 rs.length rc2 oa2 os.length oc2 0))):=B1.trans (q2.mono B1.size);have zw:w.heap.size+1+1<W1.heap.size:=X1.lt;have zv:w1.heap.size<W1.heap.size:=zJ W1 _ V1.1;have z2:W1.heap.size<=w2.heap.size:=b2.size;clear b2 o2 bA q2 X1 V1 B1;obtain ⟨p0,p1,p2,p3,e0,e1,e2,r0,r1,r2,r3,rf⟩:=X2.out;obtain ⟨u0,u1,u2⟩:=V2.out;obtain ⟨t0,t1,t2,t3⟩:=Y2.out;have tf:=F2.out;go_wp2_with (first|(go_at_call 90;refine (l1Num_any _ _).mono ?_;rintro e w' ⟨rfl,rfl⟩)|(go_at_call 48;refine (l1In_any _ _ _ _).mono ?_;rintro e w' ⟨rfl,rfl⟩))
 generalize w2.alloc (oQ0 k ra2 rs.length rc2 oa2 os.length oc2 0)=W2 at *;obtain ⟨o1,o2,ha⟩:=O2.parts;obtain ⟨G,rfl,_,hG1,hG2⟩:=qke o1 (by have:=H4.out;omega);have hGw:W1.heap.size<=G/\G<w2.heap.size:=L2.out G ((qav _ _ _ _ _).2 (.inl rfl));obtain ⟨⟨q1',q11⟩,⟨r0',r3'⟩,-,-⟩:=qb6 (qbo HP.out hk);obtain ⟨jr,hjr⟩:=Int.eq_ofNat_of_zero_le r0';obtain ⟨c0,c1,c2,c3,c4⟩:=HI.bw B2.out hb k hk;rw [hjr] at c1;have hj4:jr<rs.length:=by have:=H4.out;omega
 have hj4':(jr:Int)<(rs.length:Int):=by omega
 have cg:W2.cell? (aQ G jr)=some (iV (zi rs jr)):=o1.cell hj4;have fg:W2.frozen? (aQ G jr)=false:=o1.frozen jr
 have HD:Hid (qaf len (g k) k rs os 0 ev=goS len k (rs.set jr ev) os 0):=by
  show qaf len (g k) k rs os 0 ev=goS len k (rs.set jr ev) os 0;unfold qaf;rw [H7.out,nB (by decide),nC rfl,hjr,nF]
 have zG:w.heap.size<G/\w.heap.size+1<G/\w.heap.size+1+1<G/\G≠w2.heap.size:=by omega
 have zb:b≠G:=by have:=B2.out;omega
 clear o1 o2 ha c0 c2 c3 c4 hjr q1' q11 r0' r3'
 go_region
 have m3:qbd (stV k (some (aQ G 0)) rs.length rc2 oa2 os.length oc2 0) W2 (W2.setCell (aQ G jr) (iV ev)).drew:=qbd.of_row (row:=some G) (qo8 (zV (p:=(aQ G jr)) (World.grownBy.refl W2 (some G)) (.inl rfl) _)) fun j hj=>(qav _ _ _ _ _).2 (.inl (by cases hj;rfl))
 have O3:Hid (qac (W2.setCell (aQ G jr) (iV ev)).drew W1.heap.size (stV k (some (aQ G 0)) rs.length rc2 oa2 os.length oc2 0) k (rs.set jr ev) os 0):=by
  obtain ⟨o1,o2,ha⟩:=O2.parts;exact ⟨_,_,rfl,(o1.set rfl jr ev).1,o2.setOther (fun e=>ha G rfl e) _,ha⟩
 have X3:Hid (qa4 (W2.setCell (aQ G jr) (iV ev)).drew w.heap.size (iV k) (.slice ra rs.length rc) (.slice oa os.length oc) (iV 0) 3 eq ev):=X2.marked m3 fun j hj=>by have:=L2.out j hj;omega
 have Y3:Hid (BoxC (W2.setCell (aQ G jr) (iV ev)).drew w2.heap.size (iV k) (sG G rs.length rc2) (.slice oa2 os.length oc2) (iV 0)):=Y2.marked m3 fun hh=>by have:=L2.out _ hh;omega
 have B3:Hid (Bw w (W2.setCell (aQ G jr) (iV ev)).drew):=B2.trans (m3.bw B2.size fun j hj=>by have:=L2.out j hj;omega);clear p0 p1 p2 p3 e0 e1 e2 r0 r1 r2 r3 rf u0 u1 u2 t0 t1 t2 t3 tf m3 X2 V2 Y2 F2 O2 B2 cg fg c1;obtain ⟨t0,t1,t2,t3⟩:=Y3.out;go_wp2_with fail
 clear t0 t1 t2 t3;generalize (W2.setCell (aQ G jr) (iV ev)).drew=W3 at *;refine (qev _ _ _ _ _ _ _ _ _ _ _ _ (by omega) (by omega)).mono ?_;rintro e w4 ⟨rfl,b4⟩;have X4:Hid (qa4 w4 w.heap.size (iV k) (.slice ra rs.length rc) (.slice oa os.length oc) (iV 0) 3 eq ev):=X3.bw b4;have O4:Hid (qac w4 W1.heap.size (stV k (some (aQ G 0)) rs.length rc2 oa2 os.length oc2 0) k (rs.set jr ev) os 0):=O3.bw b4;have B4:Hid (Bw w w4):=B3.trans (b4.mono B3.size);clear b4 X3 Y3 O3 B3;obtain ⟨-,-,-,-,-,-,-,r0,r1,r2,r3,rf⟩:=X4.out;go_wp2;refine bodyPost_ret (v:=.tuple #[stV (goP len k) (some ⟨G,0,none⟩) rs.length rc2 oa2 os.length oc2 (goC len k 0),.bool true]) (by simp [results,results110,go_sem,r0,r1,r2,r3]) rfl ⟨_,rfl,?_,?_⟩
 ·rw [HD.out]
  exact qac.put4 (B':=W1.heap.size) ((O4.replace _).recode _) zw (by omega)
 ·have:=B4.out
  go_grown
theorem qqo (b off len cap k:Nat) (g:Nat->I5) (ra oa:Option Addr) (rc oc:Nat) (rs os:List Int) (w:World) (hl:(len:Int)<=30) (hb:b<w.heap.size) (hI:qaq w b off len g) (h4:rs.length=4) (ho:os.length<=60) (h1:Sl w ra rs) (h2:Sl w oa os) (hk:k<len) (hp:qaa g len 4=true) (np nv:Int) (HN:Hid (evK (g k).o=4/\evP (g k).o (g k).n=np/\evW (g k).o (g k).a rs=nv)) (H8:Hid ((g k).o=8/\os.length≠60)) (h60:((os.length:Int) == 60)=false):
  Calls prog 110 #[.slice (some (aQ b off)) len cap,stV k ra rs.length rc oa os.length oc 0,evV 4 np nv] w fun e w'=>∃ v,e=.returned (.tuple #[v,.bool true])/\qac w' w.heap.size v (qaf len (g k) k rs os 0 nv).p (qaf len (g k) k rs os 0 nv).rs (qaf len (g k) k rs os 0 nv).os (qaf len (g k) k rs os 0 nv).c/\Bw w w':=by
 have HI:Hid (qaq w b off len g):=hI;have H1:Hid (Sl w ra rs):=h1;have H2:Hid (Sl w oa os):=h2;have H4:Hid (rs.length=4):=h4;have HP:Hid (qaa g len 4=true):=hp;have hk':(k:Int)<(len:Int):=by omega
 clear hI h1 h2 h4 hp
 go_enter func110,ntmps110
 go_wp2_with fail
 refine (qbg _ _ _ _ k g _ _ _ _ _ _ rs _ (by unfold maxLen;omega) (by simp;omega) (HI.bw (by go_grown) hb) (H1.bw (by go_grown)) H4.out hk HP.out).mono ?_;rintro e w1 ⟨he1,b1⟩;rw [HN.1,HN.2.1,HN.2.2] at he1;subst he1;have B1:Hid (Bw w (w1.alloc (oQ2 4 np nv))):=(qah (by go_grown) b1 (by simp;omega)).alloc (by have:=b1.size;simp at this;omega) _;have X1:Hid (qa4 (w1.alloc (oQ2 4 np nv)) w.heap.size (iV k) (.slice ra rs.length rc) (.slice oa os.length oc) (iV 0) 4 np nv):=((qa4.new w _ _ _ _ _ _ _ _ _ _).bw b1).bw (zT w1 _);clear b1;obtain ⟨p0,p1,p2,p3,-,-,-,-,-,-,-,-⟩:=X1.out;go_wp2_with fail
 clear p0 p1 p2 p3;have V1:Hid (EvC3 (w1.alloc (oQ2 4 np nv)) w1.heap.size 4 np nv):=EvC3.new w1 _ _ _ _;generalize w1.alloc (oQ2 4 np nv)=W1 at *;refine (qbw _ _ _ _ _ _ rs os _ (by have:=H4.out;omega) (by omega) (H1.bw B1.out) (H2.bw B1.out)).mono ?_;rintro e w2 ⟨v2,rfl,o2,b2⟩;obtain ⟨ra2,rc2,oa2,oc2,rfl,-,-⟩:=o2.read;have bA:=zT w2 (oQ0 k ra2 rs.length rc2 oa2 os.length oc2 0);have q2:Bw W1 (w2.alloc (oQ0 k ra2 rs.length rc2 oa2 os.length oc2 0)):=b2.trans (bA.mono b2.size);have X2:Hid (qa4 (w2.alloc (oQ0 k ra2 rs.length rc2 oa2 os.length oc2 0)) w.heap.size (iV k) (.slice ra rs.length rc) (.slice oa os.length oc) (iV 0) 4 np nv):=X1.bw q2;have V2:Hid (EvC3 (w2.alloc (oQ0 k ra2 rs.length rc2 oa2 os.length oc2 0)) w1.heap.size 4 np nv):=V1.bw q2;have Y2:Hid (BoxC (w2.alloc (oQ0 k ra2 rs.length rc2 oa2 os.length oc2 0)) w2.heap.size (iV k) (.slice ra2 rs.length rc2) (.slice oa2 os.length oc2) (iV 0)):=BoxC.new w2 _ _ _ _ _;have F2:Hid (∀ j,(w2.alloc (oQ0 k ra2 rs.length rc2 oa2 os.length oc2 0)).frozen? ⟨w2.heap.size,j,none⟩=false):=fun j=>by simp
 have O2:Hid (qac (w2.alloc (oQ0 k ra2 rs.length rc2 oa2 os.length oc2 0)) W1.heap.size (stV k ra2 rs.length rc2 oa2 os.length oc2 0) k rs os 0):=o2.bw bA;have L2:Hid (∀ j,qak (stV k ra2 rs.length rc2 oa2 os.length oc2 0) j->W1.heap.size<=j/\j<w2.heap.size):=fun j hj=>o2.lt hj;have B2:Hid (Bw w (w2.alloc (oQ0 k ra2 rs.length rc2 oa2 os.length oc2 0))):=B1.trans (q2.mono B1.size);have zw:w.heap.size+1+1<W1.heap.size:=X1.lt;have zv:w1.heap.size<W1.heap.size:=zJ W1 _ V1.1;have z2:W1.heap.size<=w2.heap.size:=b2.size;clear b2 o2 bA q2 X1 V1 B1;obtain ⟨p0,p1,p2,p3,e0,e1,e2,r0,r1,r2,r3,rf⟩:=X2.out;obtain ⟨u0,u1,u2⟩:=V2.out;obtain ⟨t0,t1,t2,t3⟩:=Y2.out;have tf:=F2.out;go_wp2_with (at_builtin;refine qdo rfl ?_)
 unfold STOP
 have AS : Hid (Sl ((w2.alloc (oQ0 k ra2 rs.length rc2 oa2 os.length oc2 0)).alloc (.cells #[iV nv] 3)) (some ⟨w2.heap.size + 1, 0, none⟩) [nv]) := .inr ⟨w2.heap.size + 1, 0, rfl, by simp, fun i hi => by
  obtain rfl:i=0:=by simp at hi;omega
  exact zW _ _ _ 0 (by simp)⟩
 have bA:=zT (w2.alloc (oQ0 k ra2 rs.length rc2 oa2 os.length oc2 0)) (.cells #[iV nv] 3);clear p0 p1 p2 p3 e0 e1 e2 r0 r1 r2 r3 rf u0 u1 u2 t0 t1 t2 t3 tf;have hsz:(w2.alloc (oQ0 k ra2 rs.length rc2 oa2 os.length oc2 0)).heap.size=w2.heap.size+1:=by simp
 have HZ:Hid ((w2.alloc (oQ0 k ra2 rs.length rc2 oa2 os.length oc2 0)).heap.size=w2.heap.size+1):=hsz;clear hsz;generalize w2.alloc (oQ0 k ra2 rs.length rc2 oa2 os.length oc2 0)=W2 at *;obtain ⟨o1,o2,ha⟩:=O2.parts;refine qaz _ rfl _ _ rfl W1.heap.size 1 (.slice oa2 os.length oc2) (some ⟨w2.heap.size+1,0,none⟩) os [nv] rfl rfl (o2.bw bA) AS.out (by simp;omega) (by have:=HZ.out;simp;omega) ?_;intro v3 w3 o3 g3 at3;obtain ⟨oa3,oc3,hv3,-⟩:=o3.form;rw [show (os ++ [nv]).length=os.length+1 by simp] at hv3;subst hv3;have m3:qbd (stV k ra2 rs.length rc2 oa2 os.length oc2 0) W2 w3:=(qbd.of_below bA).trans (qbd.of_row g3 fun j hj=>(qav _ _ _ _ _).2 (.inr hj));have o1':OwnI w3 W1.heap.size (.slice ra2 rs.length rc2) rs:=qs0 (o1.bw bA) g3 fun j h1 h2=>ha j h2 h1;have lr:∀ j,(Value.slice ra2 rs.length rc2).ownBlock=some j->j<w2.heap.size:=fun j hj=>(L2.out j ((qav _ _ _ _ _).2 (.inl hj))).2
 have lo:∀ j,(Value.slice oa3 (os.length+1) oc3).ownBlock=some j->j<w2.heap.size\/w2.heap.size<j:=fun j hj=>by
  rcases at3 with h | h
  ·exact .inl (L2.out j ((qav _ _ _ _ _).2 (.inr (h.symm.trans hj)))).2
  ·rw [hj,World.size_alloc,HZ.out] at h
   exact .inr (by cases h;omega)
 have ha':∀ j,(Value.slice ra2 rs.length rc2).ownBlock=some j->(Value.slice oa3 (os.length+1) oc3).ownBlock≠some j:=fun j hj hj'=>by
  rcases at3 with h | h
  ·exact ha j hj (h.symm.trans hj')
  ·rw [hj',World.size_alloc,HZ.out] at h
   have:=lr j hj;cases h;omega
 have Y3:=Y2.marked m3 fun hh=>by have:=L2.out _ hh;omega
 have f3:∀ j,w3.frozen? ⟨w2.heap.size,j,none⟩=false:=fun j=>(m3.frozen (by have:=HZ.out;omega) (fun hh=>by have:=L2.out _ hh;omega) j).trans (F2.out j);have X3:Hid (qa4 w3 w.heap.size (iV k) (.slice ra rs.length rc) (.slice oa os.length oc) (iV 0) 4 np nv):=X2.marked m3 fun j hj=>by have:=L2.out j hj;omega
 have X4:Hid (qa4 (w3.setCell (aQ w2.heap.size 2) (.slice oa3 (os.length+1) oc3)) w.heap.size (iV k) (.slice ra rs.length rc) (.slice oa os.length oc) (iV 0) 4 np nv):=X3.kept fun j _ hj=>zO _ _ _ _ (by simp;omega);have O4:Hid (qac (w3.setCell (aQ w2.heap.size 2) (.slice oa3 (os.length+1) oc3)) W1.heap.size (stV k ra2 rs.length rc2 oa3 (os.length+1) oc3 0) k rs (os ++ [nv]) 0):=⟨_,_,rfl,o1'.setOther (fun e=>by have:=lr _ e;simp at this) _,o3.setOther (fun e=>by have:=lo _ e;simp at this) _,ha'⟩
 have B4:Hid (Bw w (w3.setCell (aQ w2.heap.size 2) (.slice oa3 (os.length+1) oc3))):=(B2.trans (m3.bw B2.size fun j hj=>by have:=L2.out j hj;omega)).setCell (by simp;omega) _;clear o1 o2 ha o3 g3 at3 bA AS m3 o1' lr lo ha' X2 V2 Y2 F2 O2 B2 X3;obtain ⟨t0,t1,t2,t3⟩:=Y3;go_wp2_with fail
 clear t0 t1 t2 t3 f3;generalize (w3.setCell (aQ w2.heap.size 2) (.slice oa3 (os.length+1) oc3))=W4 at *;refine (qev _ _ _ _ _ _ _ _ _ _ _ _ (by omega) (by omega)).mono ?_;rintro e w5 ⟨rfl,b5⟩;have X5:Hid (qa4 w5 w.heap.size (iV k) (.slice ra rs.length rc) (.slice oa os.length oc) (iV 0) 4 np nv):=X4.bw b5;have O5:Hid (qac w5 W1.heap.size (stV k ra2 rs.length rc2 oa3 (os.length+1) oc3 0) k rs (os ++ [nv]) 0):=O4.bw b5;have B5:Hid (Bw w w5):=B4.trans (b5.mono B4.size);clear b5 X4 O4 B4;obtain ⟨-,-,-,-,-,-,-,r0,r1,r2,r3,rf⟩:=X5.out;go_wp2;refine bodyPost_ret (v:=.tuple #[stV (goP len k) ra2 rs.length rc2 oa3 (os.length+1) oc3 (goC len k 0),.bool true]) (by simp [results,results110,go_sem,r0,r1,r2,r3]) rfl ⟨_,rfl,?_,?_⟩
 ·have hd:qaf len (g k) k rs os 0 nv=goS len k rs (os ++ [nv]) 0:=by
   unfold qaf;rw [H8.1,nB (by decide),nB (by decide),nC rfl,nB H8.2]
  rw [hd];exact qac.put4 (B':=W1.heap.size) ((O5.replace _).recode _) zw (by omega)
 ·have:=B5.out
  go_grown
theorem qh6 (np nv k p v:Int):canB 3 np nv k p v=((k == 3) && numB v && (if np=9 then belB p 4 else p == np)):=by
 unfold canB;rw [nC rfl]
theorem qer {nk:Int} (h3:nk≠3) (h0:nk≠0) (np nv k p v:Int):canB nk np nv k p v=qe2 k p v nk np nv:=by
 unfold canB qe2;rw [nB h3];have:(nk != 0)=true:=by simp [h0]
 rw [this,Bool.true_and]
theorem qge {a b c a' b' c':Int} (h:qe2 a b c a' b' c'=true):a=a'/\b=b'/\c=c':=by
 simpa [qe2] using h
theorem qt3 {x:I5} {len:Int} (h:qae x.o x.r x.a x.b x.n len 4=true) (h7:x.o=7):x.n=9\/(0<=x.n/\x.n<=3):=by
 simp only [qae,nH] at h;have h5:=h.2;unfold qbf at h5;rw [h7] at h5;simp [inB] at h5;omega
def qc2 (w:World) (s:S4) (t:Bool) (e:Ending) (w':World):Prop:=∃ v,e=.returned (.tuple #[v,.bool t])/\qac w' w.heap.size v s.p s.rs s.os s.c/\Bw w w'
theorem qpf (b off len cap k:Nat) (g:Nat->I5) (ra oa:Option Addr) (rc oc:Nat) (rs os:List Int) (ek eq ev:Int) (w:World) (hb:b<w.heap.size) (hI:qaq w b off len g) (h1:Sl w ra rs) (h2:Sl w oa os) (hR:qbj g len (k:Int) rs os 0=true):
  Calls prog 110 #[.slice (some (aQ b off)) len cap,stV k ra rs.length rc oa os.length oc 0,evV ek eq ev] w (qc2 w (doS g len k rs os 0 ek eq ev) (doB g len k rs os 0 ek eq ev)):=by
 obtain ⟨hp,hs,-⟩:=qa7 hR;obtain ⟨⟨r0,r1,r2,r3,hrs,hn0,hn1,hn2,hn3⟩,⟨k',hkk,hk'⟩,h60,hall⟩:=qbq hs;obtain rfl:k=k':=by omega
 have hk:=hk';have h4:rs.length=4:=by rw [hrs];rfl
 have hnum:allN rs=true:=by rw [hrs];simp [allN,hn0,hn1,hn2,hn3]
 have hl:(len:Int)<=30:=by
  simp only [qaa,nH] at hp;have:=hp.2.1;simp [inB] at this;omega
 have hins:=qbo hp hk;obtain ⟨⟨o1,o11⟩,-⟩:=qb6 hins
 have hN:∀ K P V,evK (g k).o=K->evP (g k).o (g k).n=P->evW (g k).o (g k).a rs=V->doB g len k rs os 0 ek eq ev=canB K P V ek eq ev:=by
  intro K P V hK hP hV;unfold doB nxK nxP nxW;rw [nC hR,nC hR,nC hR,nF,hK,hP,hV]
 have hno:doB g len k rs os 0 ek eq ev=false->doS g len k rs os 0 ek eq ev=⟨k,rs,os,0⟩:=fun h=>by
  unfold doS;rw [nB (by rw [h];decide)]
 have hyes:doB g len k rs os 0 ek eq ev=true->doS g len k rs os 0 ek eq ev=qaf len (g k) k rs os 0 ev:=fun h=>by
  unfold doS;rw [nC h,nF]
 by_cases h7:(g k).o=7
 ·have eK:evK (g k).o=3:=by rw [h7];rfl
  have eP:evP (g k).o (g k).n=(g k).n:=by rw [h7];rfl
  have eV:evW (g k).o (g k).a rs=0:=by rw [h7];rfl
  have hc:=hN _ _ _ eK eP eV;rw [qh6] at hc;have HN:Hid (evK (g k).o=3/\evP (g k).o (g k).n=(g k).n/\evW (g k).o (g k).a rs=0):=⟨eK,eP,eV⟩
  rcases zK (ek == 3) with t1 | t1
  case inr=>
   rw [t1] at hc;rw [hc,hno hc];exact qdb b off len cap k g ra oa rc oc rs os ek eq ev w hl hb hI h4 h60 h1 h2 hk hp _ _ HN (.inl (by simpa using t1))
  have t1':(ek != 3)=false:=by simpa using t1
  obtain rfl:ek=3:=by simpa using t1
  rcases zK (numB ev) with t2 | t2
  case inr=>
   rw [t2] at hc;rw [hc,hno hc];exact qdb b off len cap k g ra oa rc oc rs os 3 eq ev w hl hb hI h4 h60 h1 h2 hk hp _ _ HN (.inr (.inl ⟨t1',t2⟩))
  rcases qt3 hins h7 with h9 | ⟨n0,n3⟩
  ·have t3:((g k).n != 9)=false:=by simp [h9]
   rw [t1,t2,h9,nC rfl] at hc;have hb4:inB eq 0 3=belB eq 4:=qsa eq 4
   rcases zK (belB eq 4) with t5 | t5
   ·rw [t5] at hc
    rw [hc,hyes hc];exact qj4 b off len cap k g ra oa rc oc rs os eq ev w hl hb hI h4 h60 h1 h2 hk hp _ _ HN h7 t2 t3 (hb4.trans t5)
   ·rw [t5] at hc
    rw [hc,hno hc];exact qdb b off len cap k g ra oa rc oc rs os 3 eq ev w hl hb hI h4 h60 h1 h2 hk hp _ _ HN (.inr (.inr (.inr ⟨t1',t2,t3,hb4.trans t5⟩)))
  ·have t3:((g k).n != 9)=true:=by simp;omega
   rw [t1,t2,nB (by omega)] at hc
   rcases zK (eq == (g k).n) with t4 | t4
   ·have e4:eq=(g k).n:=by simpa using t4
    rw [t4] at hc;rw [hc,hyes hc];exact qj5 b off len cap k g ra oa rc oc rs os eq ev w hl hb hI h4 h60 h1 h2 hk hp _ _ HN h7 t2 t3 (by simpa using t4) (by simp [inB];omega)
   ·rw [t4] at hc
    rw [hc,hno hc];exact qdb b off len cap k g ra oa rc oc rs os 3 eq ev w hl hb hI h4 h60 h1 h2 hk hp _ _ HN (.inr (.inr (.inl ⟨t1',t2,t3,by simpa using t4⟩)))
 by_cases h6:(g k).o=6
 ·have eK:evK (g k).o=2:=by rw [h6];rfl
  have hc:=hN _ _ _ eK rfl rfl;rw [qer (by decide) (by decide)] at hc;have HN:Hid (evK (g k).o=2/\evP (g k).o (g k).n=evP (g k).o (g k).n/\evW (g k).o (g k).a rs=evW (g k).o (g k).a rs):=⟨eK,rfl,rfl⟩
  rcases zK (qe2 ek eq ev 2 (evP (g k).o (g k).n) (evW (g k).o (g k).a rs)) with t | t
  ·obtain ⟨rfl,rfl,rfl⟩:=qge t
   rw [t] at hc;rw [hc,hyes hc];exact qsj b off len cap k g ra oa rc oc rs os w hl hb hI h4 h60 h1 h2 hk hp _ _ HN h6
  ·rw [t] at hc
   rw [hc,hno hc];exact qn2 b off len cap k g ra oa rc oc rs os ek eq ev w hl hb hI h4 h60 h1 h2 hk hp 2 _ _ rfl HN t
 by_cases h8:(g k).o=8
 ·have eK:evK (g k).o=4:=by rw [h8];rfl
  have hc:=hN _ _ _ eK rfl rfl;rw [qer (by decide) (by decide)] at hc;have HN:Hid (evK (g k).o=4/\evP (g k).o (g k).n=evP (g k).o (g k).n/\evW (g k).o (g k).a rs=evW (g k).o (g k).a rs):=⟨eK,rfl,rfl⟩
  rcases zK (qe2 ek eq ev 4 (evP (g k).o (g k).n) (evW (g k).o (g k).a rs)) with t | t
  ·obtain ⟨rfl,rfl,rfl⟩:=qge t
   rw [t] at hc;rw [hc,hyes hc];by_cases h:os.length=60
   ·exact qsi b off len cap k g ra oa rc oc rs os w hl hb hI h4 h60 h1 h2 hk hp _ _ HN ⟨h8,h⟩ (by simp [h])
   ·exact qqo b off len cap k g ra oa rc oc rs os w hl hb hI h4 h60 h1 h2 hk hp _ _ HN ⟨h8,h⟩ (by simp;omega)
  ·rw [t] at hc
   rw [hc,hno hc];exact qn2 b off len cap k g ra oa rc oc rs os ek eq ev w hl hb hI h4 h60 h1 h2 hk hp 4 _ _ rfl HN t
 have eK:evK (g k).o=1:=by unfold evK;rw [nB h6,nB h7,nB h8]
 have eV:evW (g k).o (g k).a rs=0:=by unfold evW;rw [nB h6,nB h8]
 have hc:=hN _ _ _ eK rfl eV;rw [qer (by decide) (by decide)] at hc;have HN:Hid (evK (g k).o=1/\evP (g k).o (g k).n=evP (g k).o (g k).n/\evW (g k).o (g k).a rs=0):=⟨eK,rfl,eV⟩
 rcases zK (qe2 ek eq ev 1 (evP (g k).o (g k).n) 0) with t | t
 ·obtain ⟨rfl,rfl,rfl⟩:=qge t
  rw [t] at hc;rw [hc,hyes hc];exact qqn b off len cap k g ra oa rc oc rs os w hl hb hI h4 h60 h1 h2 hk hp _ HN ⟨hnum,h6,h7,h8⟩
 ·rw [t] at hc
  rw [hc,hno hc];exact qn2 b off len cap k g ra oa rc oc rs os ek eq ev w hl hb hI h4 h60 h1 h2 hk hp 1 _ _ rfl HN t
theorem qqx {w:World} {b:Nat} (o:Obj) (j:Nat) (h:b<w.heap.size):(w.alloc o).frozen? (aQ b j)=w.frozen? (aQ b j):=zI (Below.heap_alloc w o b h)
theorem qmb (b off len cap:Nat) (g:Nat->I5) (k:Nat) (ra oa:Option Addr) (rc oc:Nat) (r0 r1 r2 r3:Int) (os:List Int) (w:World) (hlen:len<=maxLen) (hb:b<w.heap.size) (hI:qaq w b off len g) (ho:os.length<=1048576) (h1:Sl w ra [r0,r1,r2,r3]) (h2:Sl w oa os) (hk:k<len) (t1:qc4 len (k:Int) [r0,r1,r2,r3] os 0=true) (t2:qaa g len 4=true):
  Calls prog 143 #[.slice (some (aQ b off)) len cap,stV k ra 4 rc oa os.length oc 0] w (rB w (evV (evK (g k).o) (evP (g k).o (g k).n) (evW (g k).o (g k).a [r0,r1,r2,r3]))):=by
 have HI:Hid (qaq w b off len g):=hI;have H1:Hid (Sl w ra [r0,r1,r2,r3]):=h1;have H2:Hid (Sl w oa os):=h2;have HL:Hid (len<=maxLen):=hlen;have hr:=qb6 (qbo t2 hk);have hk':(k:Int)<(len:Int):=by omega
 have hl':(len:Int)<=9223372036854775807:=by have:=HL.out;unfold maxLen at this;omega
 clear hI h1 h2 hlen
 go_enter func143,ntmps143
 go_wp2_with fail
 refine (qd3 _ _ _ _ _ _ _ _ _ [r0,r1,r2,r3] os _ ho (H1.bw (by go_grown)) (H2.bw (by go_grown))).mono ?_;rintro e w1 ⟨rfl,b1⟩;have B1:Hid (Bw w w1):=qah (by go_grown) b1 (by simp;omega);have y1:w.heap.size+1<w1.heap.size:=by have:=b1.size;simp at this;omega
 have y0:w.heap.size<w1.heap.size:=by omega
 obtain ⟨hc1,hf1⟩:=qal b1;clear b1;go_wp2_with fail
 refine (qb9 ra rc [r0,r1,r2,r3] _ (H1.bw B1.out)).mono ?_;rintro e w3 ⟨⟨q0,q1,q2,q3,rfl,hq⟩,b3⟩;have hq':=hq rfl;simp only [List.cons.injEq,and_true] at hq';obtain ⟨rfl,rfl,rfl,rfl⟩:=hq';have B3:Hid (Bw w w3):=B1.trans (b3.mono B1.size);obtain ⟨hc3,hf3⟩:=qal b3;have z1:w.heap.size+1<w3.heap.size:=by have:=b3.size;omega
 have z0:w.heap.size<w3.heap.size:=by omega
 clear b3 B1 hq;go_wp2_with fail
 have B4:Hid (Bw w (w3.alloc (.cells #[iV r0,iV r1,iV r2,iV r3] 222))):=B3.alloc (by omega) _;generalize hW:w3.alloc (.cells #[iV r0,iV r1,iV r2,iV r3] 222)=W at *;have lr:w3.heap.size<W.heap.size:=by rw [<- hW];simp
 have k0:W.cell? (aQ w3.heap.size 0)=some (iV r0):=by rw [<- hW];simp
 have k1:W.cell? (aQ w3.heap.size 1)=some (iV r1):=by rw [<- hW];simp
 have k2:W.cell? (aQ w3.heap.size 2)=some (iV r2):=by rw [<- hW];simp
 have k3:W.cell? (aQ w3.heap.size 3)=some (iV r3):=by rw [<- hW];simp
 have s0:W.cell? (aQ w.heap.size 0)=some (iV k):=by rw [<- hW,zS _ _ z0,hc3 _ _ y0,hc1 _ _ (by simp;omega)];simp
 have e0:W.cell? ⟨w.heap.size+1,0,none⟩=some (iV 0):=by rw [<- hW,zS _ _ z1,hc3 _ _ y1,hc1 _ _ (by simp)];simp
 have e1:W.cell? ⟨w.heap.size+1,1,none⟩=some (iV 0):=by rw [<- hW,zS _ _ z1,hc3 _ _ y1,hc1 _ _ (by simp)];simp
 have e2:W.cell? ⟨w.heap.size+1,2,none⟩=some (iV 0):=by rw [<- hW,zS _ _ z1,hc3 _ _ y1,hc1 _ _ (by simp)];simp
 have f0:∀ j,W.frozen? ⟨w.heap.size+1,j,none⟩=false:=fun j=>by rw [<- hW,qqx _ _ z1,hf3 _ _ y1,hf1 _ _ (by simp)];simp
 have l0:w.heap.size<W.heap.size:=by omega
 have l1:w.heap.size+1<W.heap.size:=by omega
 have lb:b<W.heap.size:=by omega
 clear hc1 hf1 hc3 hf3 hW B3 y0 y1 z0 z1;obtain ⟨c0,c1,c2,c3,c4⟩:=HI.bw B4.out hb k hk;obtain ⟨⟨o1,o11⟩,-,⟨a0,a3⟩,-⟩:=hr
 first|(go_region_with (first|(go_at_call 125;refine (qkh _ _ _ _ _ _ o1 o11).mono ?_;rintro e w5 ⟨rfl,b5'⟩;have b5:Bw W w5:=(nE W.heap.size W).drew.trans b5';obtain ⟨hc5,hf5⟩:=qal b5;have B5:Hid (Bw w w5):=B4.trans (b5.mono B4.size);have l5:w.heap.size+1<w5.heap.size:=zL l1 b5.size;clear b5 b5')|(go_at_call 151;refine (qjs _ _ _ _ _ _ _ _ _ _ o1 o11 a0 a3).mono ?_;rintro e w6 ⟨rfl,b6⟩;obtain ⟨hc6,hf6⟩:=qal b6;have B6:Hid (Bw w w6):=B5.trans (b6.mono B5.size);clear b6))) | fail
 all_goals
  go_wp2;refine bodyPost_ret (v:=evV (evK (g k).o) (evP (g k).o (g k).n) (evW (g k).o (g k).a [r0,r1,r2,r3])) (by simp [results,results143,go_sem,hc6,hc5,l5,l1,e0,e1,e2]) rfl ⟨rfl,?_⟩;have:=B6.out
  go_grown
theorem qja (b off len cap:Nat) (g:Nat->I5) (p code:Int) (ra oa:Option Addr) (rc oc:Nat) (rs os:List Int) (w:World) (hlen:len<=maxLen) (hb:b<w.heap.size) (hI:qaq w b off len g) (ho:os.length<=1048576) (h1:Sl w ra rs) (h2:Sl w oa os) (t2:qaa g len 4=true):
  Calls prog 143 #[.slice (some (aQ b off)) len cap,stV p ra rs.length rc oa os.length oc code] w (rB w (evV (nxK g len p rs os code) (nxP g len p rs os code) (nxW g len p rs os code))):=by
 rcases zK (qbj g len p rs os code) with hr | hr
 ·obtain ⟨h3,h4,rfl⟩:=qa7 hr
  obtain ⟨⟨r0,r1,r2,r3,rfl,_⟩,⟨k,rfl,hk⟩,_⟩:=qbq h4;rw [qqu hr];exact qmb b off len cap g k ra oa rc oc r0 r1 r2 r3 os w hlen hb hI ho h1 h2 hk h4 h3
 ·rw [qqv hr]
  exact qmc b off len cap g p code ra oa rc oc rs os w ho h1 h2 t2 hr
structure Tu (lo hi:Nat) (w w':World):Prop where
 os:w'.os=w.os
 tape:w'.tape=w.tape
 output:w'.output=w.output
 size:w.heap.size<=w'.heap.size
 block:∀ k,k<w.heap.size->(k<lo\/hi<=k)->w'.heap[k]? = w.heap[k]?
theorem Tu.of_below {w w':World} (h:Bw w w'):Tu 0 0 w w':=⟨h.os,h.tape,h.output,h.size,fun k hk _=>h.block k hk⟩
theorem Tu.of_row {w w':World} {b:Nat} (h:w.grownBy w' (some b)):Tu b (b+1) w w':=⟨h.os,h.tape,h.output,h.size,fun k hk hn=>h.block k hk (by simp;omega)⟩
theorem Tu.bw {lo hi B:Nat} {w w':World} (h:Tu lo hi w w') (hB:B<=w.heap.size) (hl:B<=lo):Below B w w':=⟨h.os,h.tape,h.output,h.size,fun k hk=>h.block k (by omega) (.inl (by omega))⟩
theorem OwnI.ofBlock {w w':World} {B:Nat} {u:Value} {xs:List Int} (hu:OwnI w B u xs) (ha:∀ k,u.ownBlock=some k->w'.heap[k]? = w.heap[k]?):OwnI w' B u xs:=by
 rcases hu.2 with ⟨rfl,h0⟩ | ⟨g,cap,cur,rfl,hb,hg,hr⟩
 ·exact ⟨hu.1,.inl ⟨rfl,h0⟩⟩
 ·refine ⟨hu.1,.inr ⟨g,cap,cur,rfl,hb,?_,hr⟩⟩
  rw [ha g rfl];exact hg
theorem OwnI.slOf {w:World} {B n cap:Nat} {a0:Option Addr} {xs:List Int} (h:OwnI w B (.slice a0 n cap) xs):Sl w a0 xs:=by
 obtain ⟨a1,c1,e,s⟩:=h.form;simp only [Value.slice.injEq] at e;obtain ⟨rfl,-,-⟩:=e;exact s
structure Tl (w:World) (B C N:Nat) (p c:Int) (ra:Option Addr) (rn rc:Nat) (oa:Option Addr) (on oc:Nat) (rs os:List Int):Prop where
 lo:B<=N
 hi:N<C
 sz:C<=w.heap.size
 box:BoxC w N (iV p) (.slice ra rn rc) (.slice oa on oc) (iV c)
 own:qac w B (stV p ra rn rc oa on oc c) p rs os c
 up:∀ k,qak (stV p ra rn rc oa on oc c) k->k<C
 ne:¬ qak (stV p ra rn rc oa on oc c) N
theorem Tl.tu {w w':World} {B C N:Nat} {p c:Int} {ra:Option Addr} {rn rc:Nat} {oa:Option Addr} {on oc:Nat} {rs os:List Int} {lo hi:Nat} (h:Tl w B C N p c ra rn rc oa on oc rs os) (t:Tu lo hi w w') (hd:C<=lo\/hi<=B):Tl w' B C N p c ra rn rc oa on oc rs os:=by
 obtain ⟨h1,h2,h3,⟨b0,b1,b2,b3⟩,h5,h6,h7⟩:=h;have hb:∀ k,B<=k->k<C->w'.heap[k]? = w.heap[k]?:=fun k k1 k2=>t.block k (by omega) (by omega);have hN:=hb N h1 h2;refine ⟨h1,h2,zP h3 t.size,⟨(zH hN).trans b0,(zH hN).trans b1,(zH hN).trans b2,(zH hN).trans b3⟩,?_,h6,h7⟩;obtain ⟨o1,o2,ha⟩:=h5.parts;refine ⟨_,_,rfl,o1.ofBlock fun k hk=>?_,o2.ofBlock fun k hk=>?_,ha⟩
 ·exact hb k (o1.lt k hk).1 (h6 k ((qav _ _ _ _ _).2 (.inl hk)))
 ·exact hb k (o2.lt k hk).1 (h6 k ((qav _ _ _ _ _).2 (.inr hk)))
theorem Tl.bw {w w':World} {B C N:Nat} {p c:Int} {ra:Option Addr} {rn rc:Nat} {oa:Option Addr} {on oc:Nat} {rs os:List Int} (h:Tl w B C N p c ra rn rc oa on oc rs os) (hb:Bw w w'):Tl w' B C N p c ra rn rc oa on oc rs os:=h.tu (Tu.of_below hb) (.inr (nD _))
theorem Tl.sl {w:World} {B C N:Nat} {p c:Int} {ra:Option Addr} {rn rc:Nat} {oa:Option Addr} {on oc:Nat} {rs os:List Int} (h:Tl w B C N p c ra rn rc oa on oc rs os):Sl w ra rs/\Sl w oa os:=⟨h.own.parts.1.slOf,h.own.parts.2.1.slOf⟩
theorem Tl.marked {w w':World} {B C N:Nat} {p c:Int} {ra:Option Addr} {rn rc:Nat} {oa:Option Addr} {on oc:Nat} {rs os rs' os':List Int} (h:Tl w B C N p c ra rn rc oa on oc rs os) (ho:qac w' B (stV p ra rn rc oa on oc c) p rs' os' c) (hm:qbd (stV p ra rn rc oa on oc c) w w'):Tl w' B C N p c ra rn rc oa on oc rs' os':=
 ⟨h.lo,h.hi,zP h.sz hm.size,h.box.marked hm h.ne,ho,h.up,h.ne⟩
theorem Tl.of_alloc {w:World} {B:Nat} {p c:Int} {ra oa:Option Addr} {rn rc on oc:Nat} {rs os:List Int} (h:qac w B (stV p ra rn rc oa on oc c) p rs os c) (hw:B<=w.heap.size) (t:TypeId):Tl (w.alloc (.cells #[iV p,.slice ra rn rc,.slice oa on oc,iV c] t)) B (w.heap.size+1) w.heap.size p c ra rn rc oa on oc rs os:=
 ⟨hw,Nat.lt_succ_self _,by simp,BoxC.new w _ _ _ _ _,h.bw (zT _ _),fun k hk=>Nat.lt_succ_of_lt (h.lt hk).2,fun e=>Nat.lt_irrefl _ (h.lt e).2⟩
def Told (w:World) (B N:Nat) (S:S4):Prop:=∃ ra rc oa oc,BoxC w N (iV S.p) (.slice ra S.rs.length rc) (.slice oa S.os.length oc) (iV S.c)/\qac w B (stV S.p ra S.rs.length rc oa S.os.length oc S.c) S.p S.rs S.os S.c/\B<=N/\¬ qak (stV S.p ra S.rs.length rc oa S.os.length oc S.c) N
theorem Told.tl {w:World} {B N:Nat} {S:S4} (h:Told w B N S):∃ ra rc oa oc,Tl w B w.heap.size N S.p S.c ra S.rs.length rc oa S.os.length oc S.rs S.os:=by
 obtain ⟨ra,rc,oa,oc,h1,h2,h3,h4⟩:=h;exact ⟨ra,rc,oa,oc,h3,zJ w _ h1.1,nA _,h1,h2,fun k hk=>(h2.lt hk).2,h4⟩
theorem BoxC.set4 {w:World} {N:Nat} {z0 z1 z2 z3:Value} (h:BoxC w N z0 z1 z2 z3) (a b c d:Value):BoxC ((((w.setCell (aQ N 0) a).setCell (aQ N 1) b).setCell (aQ N 2) c).setCell (aQ N 3) d) N a b c d:=by
 obtain ⟨h0,h1,h2,h3⟩:=h;exact ⟨by go_cell,by go_cell,by go_cell,by go_cell⟩
theorem qwe (w:World) (N:Nat) (a b c d:Value):w.grownBy ((((w.setCell (aQ N 0) a).setCell (aQ N 1) b).setCell (aQ N 2) c).setCell (aQ N 3) d) (some N):=by
 repeat (refine zV ?_ (.inl rfl) _)
 exact World.grownBy.refl _ _
theorem Told.of_alloc {w:World} {B B':Nat} {S:S4} {ra oa:Option Addr} {rc oc:Nat} (h:qac w B' (stV S.p ra S.rs.length rc oa S.os.length oc S.c) S.p S.rs S.os S.c) (hB:B<=B') (hw:B<=w.heap.size) (t:TypeId):Told (w.alloc (.cells #[iV S.p,.slice ra S.rs.length rc,.slice oa S.os.length oc,iV S.c] t)) B w.heap.size S:=by
 refine ⟨ra,rc,oa,oc,BoxC.new w _ _ _ _ _,?_,hw,fun e=>Nat.lt_irrefl _ (h.lt e).2⟩;obtain ⟨vr,vo,e,o1,o2,ha⟩:=h;exact ⟨vr,vo,e,(o1.bw (zT _ _)).mono hB,(o2.bw (zT _ _)).mono hB,ha⟩
theorem Told.of_put {w:World} {B B' N:Nat} {S:S4} {ra oa:Option Addr} {rc oc:Nat} {z0 z1 z2 z3:Value} (h:qac w B' (stV S.p ra S.rs.length rc oa S.os.length oc S.c) S.p S.rs S.os S.c) (hB:B<=B') (hN:N<B') (hw:B<=N) (hZ:BoxC w N z0 z1 z2 z3):Told ((((w.setCell (aQ N 0) (iV S.p)).setCell (aQ N 1) (.slice ra S.rs.length rc)).setCell (aQ N 2) (.slice oa S.os.length oc)).setCell (aQ N 3) (iV S.c)) B N S:=
 ⟨ra,rc,oa,oc,hZ.set4 _ _ _ _,h.put4 hN hB,hw,fun e=>Nat.not_le_of_lt hN (h.lt e).1⟩
