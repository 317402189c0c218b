import Derived.Test.YthgpldgkabcopaaGreatDoorYh8
import Derived.Test.YthgpldgkabcopaaGreatDoorYh9
import Derived.Test.YthgpldgkabcopaaGreatDoorYh10
namespace Go.Proofs.YthgpldgkabcopaaGreatDoor
set_option maxRecDepth 100000
set_option maxHeartbeats 4000000
open Go.ChangeShapes Go.WideShapes Go.ChangeAt Go.RowKit Go.Deep
structure E3 where
 k:Int
 q:Int
 v:Int
def EvAt (w:World) (b off len:Nat) (h:Nat->E3):Prop:=∀ i,i<len->
 w.cell? ⟨b,off+i*3,none⟩=some (.int .i64 (h i).k)/\w.cell? ⟨b,off+i*3+1,none⟩=some (.int .i64 (h i).q)/\w.cell? ⟨b,off+i*3+2,none⟩=some (.int .i64 (h i).v)
theorem EvAt.below {w w':World} {B b off len:Nat} {h:Nat->E3} (hh:EvAt w b off len h) (hb:Below B w w') (hB:b<B):EvAt w' b off len h:=by
 intro i hi
 obtain ⟨h0,h1,h2⟩:=hh i hi
 exact ⟨(hb.cell hB).trans h0,(hb.cell hB).trans h1,(hb.cell hB).trans h2⟩
def qxc (f:Nat->Value) (h:Nat->E3) (k:Nat):Prop:=∀ i,i<k->
 f (i*3)=.int .i64 (h i).k/\f (i*3+1)=.int .i64 (h i).q/\f (i*3+2)=.int .i64 (h i).v
structure I2 where
 m:Bool
 v:Int
abbrev itV (m:Bool) (v:Int):Value:=.agg #[.bool m,.int .i64 v]
def ItAt (w:World) (b off len:Nat) (h:Nat->I2):Prop:=∀ i,i<len->
 w.cell? ⟨b,off+i*2,none⟩=some (.bool (h i).m)/\w.cell? ⟨b,off+i*2+1,none⟩=some (.int .i64 (h i).v)
theorem ItAt.below {w w':World} {B b off len:Nat} {h:Nat->I2} (hh:ItAt w b off len h) (hb:Below B w w') (hB:b<B):ItAt w' b off len h:=by
 intro i hi
 obtain ⟨h0,h1⟩:=hh i hi
 exact ⟨(hb.cell hB).trans h0,(hb.cell hB).trans h1⟩
def qxd (f:Nat->Value) (h:Nat->I2) (k:Nat):Prop:=∀ i,i<k->
 f (i*2)=.bool (h i).m/\f (i*2+1)=.int .i64 (h i).v
def qxt (w:World) (b len:Nat):Prop:=(∀ i,i<len*2->∃ u,w.cell? ⟨b,i,none⟩=some u)/\∀ j,w.frozen? ⟨b,j,none⟩=false
def sumL (ls:Nat->Nat):Nat->Nat
 | 0=>0
 | n+1=>sumL ls n+ls n
def RowS (w:World) (a0:Option Addr) (n:Nat) (f:Nat->Value):Prop:=
 n=0\/∃ b off,a0=some ⟨b,off,none⟩/\b<w.heap.size/\∀ i,i<n->w.cell? ⟨b,off+i,none⟩=some (f i)
theorem RowS.below {w w':World} {a0:Option Addr} {n:Nat} {f:Nat->Value} (h:RowS w a0 n f) (hb:Bw w w'):RowS w' a0 n f:=by
 rcases h with h | ⟨b,off,e,hlt,hc⟩
 ·exact .inl h
 ·exact .inr ⟨b,off,e,zL hlt hb.size,fun i hi=>(hb.cell (p:=⟨b,off+i,none⟩) hlt).trans (hc i hi)⟩
theorem RowS.at {w:World} {a0:Option Addr} {n:Nat} {f:Nat->Value} (h:RowS w a0 n f) {k:Nat} (hk:k<n):∃ b off,a0=some (aQ b off)/\w.cell? ⟨b,off+k,none⟩=some (f k):=by
 rcases h with rfl | ⟨b,off,e,-,hc⟩
 ·omega
 ·exact ⟨b,off,e,hc k hk⟩
structure qax (P:Nat->Prop) (w w':World):Prop where
 os:w'.os=w.os
 tape:w'.tape=w.tape
 output:w'.output=w.output
 size:w.heap.size<=w'.heap.size
 block:∀ k,k<w.heap.size->¬ P k->w'.heap[k]? = w.heap[k]?
theorem qax.refl (P:Nat->Prop) (w:World):qax P w w:=⟨rfl,rfl,rfl,Nat.le_refl _,fun _ _ _=>rfl⟩
theorem qax.trans {P:Nat->Prop} {a b c:World} (h:qax P a b) (k:qax P b c):qax P a c:=
 ⟨k.os.trans h.os,k.tape.trans h.tape,k.output.trans h.output,zP h.size k.size,fun i hi hn=>(k.block i (zL hi h.size) hn).trans (h.block i hi hn)⟩
theorem qax.of_below {P:Nat->Prop} {w w':World} (h:Bw w w'):qax P w w':=
 ⟨h.os,h.tape,h.output,h.size,fun k hk _=>h.block k hk⟩
theorem qax.of_set {P:Nat->Prop} (w:World) {a:Addr} (ha:P a.block) (u:Value):qax P w (w.setCell a u):=
 ⟨rfl,rfl,rfl,by simp [World.setCell],fun k _ hn=>zO _ _ _ _ fun e=>hn (e ▸ ha)⟩
theorem qax.below {P:Nat->Prop} {w w':World} {B:Nat} (h:qax P w w') (hB:B<=w.heap.size) (hp:∀ k,P k->B<=k):Below B w w':=
 ⟨h.os,h.tape,h.output,h.size,fun k hk=>h.block k (by omega) fun e=>by have:=hp k e;omega⟩
theorem qax.cell {P:Nat->Prop} {w w':World} (h:qax P w w') {b:Nat} (hb:b<w.heap.size) (hp:¬ P b) (j:Nat):w'.cell? (aQ b j)=w.cell? (aQ b j):=zH (h.block b hb hp)
structure qwk (w:World) (D hi n:Nat) (ls:Nat->Nat) (bs:Nat->Nat) (h:Nat->Nat->I5):Prop where
 cel:∀ i,i<n->w.cell? ⟨D,i,none⟩=some (.slice (some ⟨bs i,0,none⟩) (ls i) (ls i))
 bd:∀ i,i<n->D<bs i/\bs i<hi
 row:∀ i,i<n->qar w (bs i) 0 (ls i) (h i)
 fr:∀ i,i<n->∀ j,w.frozen? ⟨bs i,j,none⟩=false
 up:∀ i j,i<j->j<n->bs i<bs j
 le:hi<=w.heap.size
 lt:D<hi
structure qxb (w:World) (D k:Nat) (f:Nat->Value) (ls:Nat->Nat) (bs:Nat->Nat) (h:Nat->Nat->I5):Prop where
 cel:∀ i,i<k->f i=.slice (some ⟨bs i,0,none⟩) (ls i) (ls i)
 bd:∀ i,i<k->D<bs i/\bs i<w.heap.size
 row:∀ i,i<k->qar w (bs i) 0 (ls i) (h i)
 fr:∀ i,i<k->∀ j,w.frozen? ⟨bs i,j,none⟩=false
 up:∀ i j,i<j->j<k->bs i<bs j
theorem qdh {ops:Array Oper} {rest:List Oper} {op:Oper} {act:Act} {Q:Exit->Act->World->Prop} (w:World) (hgd:op.guard=none) (s x:Operand)
  (ho:op.op=.call { callee:=.builtin .append,args:=#[s,x],argTypes:=#[40,40] })
  (B:Nat) (v:Value) (xs:List Int) (hs:act.eval s=v) (hv:OwnI w B v xs) (y:Int) (hx:act.eval x=.slice (some (aQ w.heap.size 0)) 1 1) (hn:xs.length<=1048576) (hB:B<=w.heap.size)
  (h:∀ v' w',OwnI w' B v' (xs ++ [y])->Below B w w'->wpList Tryz.prog ops Q rest (act.put op.dst v') w'):
  wpList Tryz.prog ops Q (op :: rest) act (w.alloc (.cells #[.int .i64 y] 3)):=by
 have hb:Bw w (w.alloc (.cells #[.int .i64 y] 3)):=(Below.refl _ _).alloc (Nat.le_refl _) _
 refine qbc _ hgd s x ho B 1 v (some (aQ w.heap.size 0)) xs [y] hs hx (hv.below hb) (.inr ⟨w.heap.size,0,rfl,by simp,fun i hi=>?_⟩) (by simp;omega) (by simp;omega) ?_
 ·have:i=0:=by simp at hi;omega
  subst this
  exact zW _ _ _ 0 rfl
 ·intro v' w' o g _
  refine h v' w' o (Below.grown (hb.mono hB) g (by simp;omega) (fun k hk=>(hv.lt k hk).1))
theorem qcw {ops:Array Oper} {rest:List Oper} {op:Oper} {act:Act} {Q:Exit->Act->World->Prop} (w:World) {N:Nat} (hN:N=w.heap.size) (hgd:op.guard=none) (s x:Operand)
  (ho:op.op=.call { callee:=.builtin .append,args:=#[s,x],argTypes:=#[40,40] })
  (B:Nat) (v:Value) (xs:List Int) (hs:act.eval s=v) (hv:OwnI w B v xs) (y:Int) (hx:act.eval x=.slice (some (aQ N 0)) 1 1) (hn:xs.length<=1048576) (hB:B<=w.heap.size)
  (h:∀ v' w',OwnI w' B v' (xs ++ [y])->Below B w w'->wpList Tryz.prog ops Q rest (act.put op.dst v') w'):
  wpList Tryz.prog ops Q (op :: rest) act (w.alloc (.cells #[.int .i64 y] 3)):=by
 subst hN
 exact qdh w hgd s x ho B v xs hs hv y hx hn hB h
theorem OwnI.to {w:World} {B:Nat} {v:Value} {xs ys:List Int} (h:OwnI w B v xs) (e:ys=xs):OwnI w B v ys:=e ▸ h
def EvL (w:World) (a:Option Addr) (len:Nat) (h:Nat->E3):Prop:=len=0\/∃ b off,a=some (aQ b off)/\b<w.heap.size/\EvAt w b off len h
theorem EvL.below {w w':World} {a:Option Addr} {len:Nat} {h:Nat->E3} (hh:EvL w a len h) (hb:Bw w w'):EvL w' a len h:=by
 rcases hh with e | ⟨b,off,e,hlt,hc⟩
 ·exact .inl e
 ·exact .inr ⟨b,off,e,zL hlt hb.size,hc.below hb hlt⟩
theorem EvL.at {w:World} {a:Option Addr} {len:Nat} {h:Nat->E3} (hh:EvL w a len h) {k:Nat} (hk:k<len):∃ b off,a=some (aQ b off)/\b<w.heap.size/\w.cell? ⟨b,off+k*3,none⟩=some (.int .i64 (h k).k)/\w.cell? ⟨b,off+k*3+1,none⟩=some (.int .i64 (h k).q)/\w.cell? ⟨b,off+k*3+2,none⟩=some (.int .i64 (h k).v):=by
 rcases hh with rfl | ⟨b,off,e,hlt,hc⟩
 ·omega
 ·exact ⟨b,off,e,hlt,hc k hk⟩
theorem EvL.take {w:World} {a:Option Addr} {len:Nat} {h:Nat->E3} (hh:EvL w a len h) {k:Nat} (hk:k<=len):EvL w a k h:=by
 rcases hh with rfl | ⟨b,off,e,hlt,hc⟩
 ·exact .inl (by omega)
 ·exact .inr ⟨b,off,e,hlt,fun i hi=>hc i (by omega)⟩
theorem EvL.one {w:World} {b off len:Nat} {h:Nat->E3} (hh:EvL w (some (aQ b off)) len h) {k:Nat} (hk:k<len):EvAt w b off len h/\b<w.heap.size:=by
 rcases hh with rfl | ⟨b',off',e,hlt,hc⟩
 ·omega
 ·simp only [Option.some.injEq,Addr.mk.injEq] at e
  obtain ⟨rfl,rfl,-⟩:=e
  exact ⟨hc,hlt⟩
theorem qbo.of_row {v:Value} {w w':World} {row:Option Nat} (g:w.grownBy w' row) (h:∀ k,row=some k->qal v k):qbo v w w':=
 ⟨g.os,g.tape,g.output,g.size,fun k hk hn=>g.block k hk (fun e=>hn (h k e.symm))⟩
theorem qo1 {w w':World} {row:Option Nat} (h:w.grownBy w' row):w.grownBy w'.drew row:=⟨h.os,h.tape,h.output,h.size,h.block⟩
theorem qbo.trans {v:Value} {w w1 w2:World} (h:qbo v w w1) (k:qbo v w1 w2):qbo v w w2:=
 ⟨k.os.trans h.os,k.tape.trans h.tape,k.output.trans h.output,zP h.size k.size,fun j hj hn=>(k.block j (zL hj h.size) hn).trans (h.block j hj hn)⟩
theorem qbo.of_below {v:Value} {w w':World} (h:Bw w w'):qbo v w w':=⟨h.os,h.tape,h.output,h.size,fun k hk _=>h.block k hk⟩
theorem qag.parts {w:World} {B:Nat} {p code:Int} {ra oa:Option Addr} {rn rc on oc:Nat} {rs os:List Int} (h:qag w B (stV p ra rn rc oa on oc code) p rs os code):OwnI w B (.slice ra rn rc) rs/\OwnI w B (.slice oa on oc) os/\∀ k,(Value.slice ra rn rc).ownBlock=some k->(Value.slice oa on oc).ownBlock≠some k:=by
 obtain ⟨vr,vo,e,o1,o2,ha⟩:=h
 simp only [stV,Value.agg.injEq,Array.mk.injEq,List.cons.injEq,and_true,true_and] at e
 obtain ⟨rfl,rfl⟩:=e
 exact ⟨o1,o2,ha⟩
theorem qnw (b off len cap k:Nat) (g:Nat->I5) (ra oa:Option Addr) (rc oc:Nat) (rs os:List Int) (B:Nat) (v:Int) (w:World) (hl:(len:Int)<=30) (hb:b<w.heap.size) (hI:qar w b off len g) (h4:rs.length=4) (hO:qag w B (stV k ra rs.length rc oa os.length oc 0) k rs os 0) (hk:k<len) (hp:qab g len 4=true) (hnum:allN rs=true) (h678:(g k).o≠6/\(g k).o≠7/\(g k).o≠8):
  Calls Tryz.prog 131 #[.slice (some (aQ b off)) len cap,stV k ra rs.length rc oa os.length oc 0] w fun e w'=>∃ u,(∃ q c,u=stV q ra rs.length rc oa os.length oc c)/\e=.returned u/\qag w' B u (qac len (g k) k rs os 0 v).p (qac len (g k) k rs os 0 v).rs (qac len (g k) k rs os 0 v).os (qac len (g k) k rs os 0 v).c/\qbo (stV k ra rs.length rc oa os.length oc 0) w w':=by
 obtain ⟨o1,o2,ha⟩:=hO.parts
 obtain ⟨G,rfl,_,_,_⟩:=qka o1 (by omega)
 obtain ⟨⟨q1,q11⟩,⟨r0,r3⟩,⟨a0,a3⟩,⟨b0,b3⟩⟩:=qcf (qby hp hk)
 obtain ⟨jr,hjr⟩:=Int.eq_ofNat_of_zero_le r0
 obtain ⟨ja,hja⟩:=Int.eq_ofNat_of_zero_le a0
 obtain ⟨jb,hjb⟩:=Int.eq_ofNat_of_zero_le b0
 have hn4:∀ j,j<4->numB (zi rs j)=true:=fun j hj=>(List.all_eq_true.1 hnum) _ (qtj (by omega))
 rw [h4] at o1 ha ⊢
 have key:∀ s:S4,s=qac len (g k) k rs os 0 0->s.os=os->(Calls Tryz.prog 131 #[.slice (some ⟨b,off,none⟩) len cap,stV k (some ⟨G,0,none⟩) 4 rc oa os.length oc 0] w fun e w'=>e=.returned (stV s.p (some ⟨G,0,none⟩) 4 rc oa os.length oc s.c)/\OwnI w' B (.slice (some ⟨G,0,none⟩) 4 rc) s.rs/\w.grownBy w' (some G))->qac len (g k) k rs os 0 v=qac len (g k) k rs os 0 0->(Calls Tryz.prog 131 #[.slice (some ⟨b,off,none⟩) len cap,stV k (some ⟨G,0,none⟩) 4 rc oa os.length oc 0] w fun e w'=>∃ u,(∃ q c,u=stV q (some ⟨G,0,none⟩) 4 rc oa os.length oc c)/\e=.returned u/\qag w' B u (qac len (g k) k rs os 0 v).p (qac len (g k) k rs os 0 v).rs (qac len (g k) k rs os 0 v).os (qac len (g k) k rs os 0 v).c/\qbo (stV k (some ⟨G,0,none⟩) 4 rc oa os.length oc 0) w w'):=by
  intro s hs hos h he
  rw [he,<- hs]
  refine h.mono fun e w' ⟨h1,h2,h3⟩=>⟨_,⟨_,_,rfl⟩,h1,⟨_,_,rfl,h2,?_,ha⟩,qbo.of_row h3 fun j hj=>(qa1 _ _ _ _ _).2 (.inl hj)⟩
  rw [hos]
  exact o2.kept h3 (by
   cases hv:(Value.slice oa os.length oc).ownBlock with
   | none=>exact .inl rfl
   | some j=>exact .inr (fun e=>ha G rfl (by rw [hv,e])))
 have hsame:qac len (g k) k rs os 0 v=qac len (g k) k rs os 0 0:=by
  unfold qac
  rw [if_neg h678.1,if_neg h678.2.1,if_neg h678.2.2,if_neg h678.1,if_neg h678.2.1,if_neg h678.2.2]
 have hos:(qac len (g k) k rs os 0 0).os=os:=by
  unfold qac
  rw [if_neg h678.1,if_neg h678.2.1,if_neg h678.2.2]
  split
  ·rfl
  ·split
   ·split <;> rfl
   ·split
    ·rfl
    ·split <;> rfl
 refine key _ rfl hos ?_ hsame
 rcases qfa (g k).o with ho | ho | ho | ho | ho | ho | ho | ho | ho | ho | ho | ho
 ·omega
 ·exact qr4 b off len cap k g G rc oa os.length oc 0 rs B w hl hb hI o1 h4 hk jr ja jb hjr hja hjb (by omega) (by omega) (by omega) ho hn4 os
 ·exact qr5 b off len cap k g G rc oa os.length oc 0 rs B w hl hb hI o1 h4 hk jr ja jb hjr hja hjb (by omega) (by omega) (by omega) ho hn4 os
 ·exact qr6 b off len cap k g G rc oa os.length oc 0 rs B w hl hb hI o1 h4 hk jr ja jb hjr hja hjb (by omega) (by omega) (by omega) ho hn4 os
 ·exact qr7 b off len cap k g G rc oa os.length oc 0 rs B w hl hb hI o1 h4 hk jr ja jb hjr hja hjb (by omega) (by omega) (by omega) ho hn4 os
 ·exact qr8 b off len cap k g G rc oa os.length oc 0 rs B w hl hb hI o1 h4 hk jr ja jb hjr hja hjb (by omega) (by omega) (by omega) ho hn4 os
 ·exact absurd ho h678.1
 ·exact absurd ho h678.2.1
 ·exact absurd ho h678.2.2
 ·exact qr9 b off len cap k g G rc oa os.length oc 0 rs B w hl hb hI o1 h4 hk jr ja jb hjr hja hjb (by omega) (by omega) (by omega) ho hn4 os
 ·exact qqj b off len cap k g G rc oa os.length oc 0 rs B w hl hb hI o1 h4 hk jr ja jb hjr hja hjb (by omega) (by omega) (by omega) ho hn4 os
 ·exact qqk b off len cap k g G rc oa os.length oc 0 rs B w hl hb hI o1 h4 hk jr ja jb hjr hja hjb (by omega) (by omega) (by omega) ho hn4 os
theorem qqh (b off len cap k:Nat) (g:Nat->I5) (ra oa:Option Addr) (rc oc:Nat) (rs os:List Int) (w:World) (hl:(len:Int)<=30) (hb:b<w.heap.size) (hI:qar w b off len g) (h4:rs.length=4) (ho:os.length<=60) (h1:Sl w ra rs) (h2:Sl w oa os) (hk:k<len) (hp:qab g len 4=true) (np:Int) (HN:Hid (evK (g k).o=1/\evP (g k).o (g k).n=np/\evW (g k).o (g k).a rs=0)) (HL:Hid (allN rs=true/\(g k).o≠6/\(g k).o≠7/\(g k).o≠8)):
  Calls Tryz.prog 112 #[.slice (some (aQ b off)) len cap,stV k ra rs.length rc oa os.length oc 0,evV 1 np 0] w fun e w'=>∃ v,e=.returned (.tuple #[v,.bool true])/\qag w' w.heap.size v (qac len (g k) k rs os 0 0).p (qac len (g k) k rs os 0 0).rs (qac len (g k) k rs os 0 0).os (qac len (g k) k rs os 0 0).c/\Bw w w':=by
 have HI:Hid (qar w b off len g):=hI
 have H1:Hid (Sl w ra rs):=h1
 have H2:Hid (Sl w oa os):=h2
 have H4:Hid (rs.length=4):=h4
 have HP:Hid (qab g len 4=true):=hp
 have hk':(k:Int)<(len:Int):=by omega
 clear hI h1 h2 h4 hp
 go_enter Tryz.func112,Tryz.ntmps112
 go_wp2_with fail
 refine (qbi _ _ _ _ k g _ _ _ _ _ _ rs _ (by unfold maxLen;omega) (by simp;omega) (HI.out.below (by go_grown) hb) (H1.out.below (by go_grown)) H4.out hk HP.out).mono ?_
 rintro e w1 ⟨he1,b1⟩
 rw [HN.out.1,HN.out.2.1,HN.out.2.2] at he1
 subst he1
 have B1:Hid (Bw w (w1.alloc (oQ0 1 np 0))):=(qam (by go_grown) b1 (by simp;omega)).alloc (by have:=b1.size;simp at this;omega) _
 have X1:Hid (qa7 (w1.alloc (oQ0 1 np 0)) w.heap.size (.int .i64 k) (.slice ra rs.length rc) (.slice oa os.length oc) (.int .i64 0) 1 np 0):=((qa7.new w _ _ _ _ _ _ _ _ _ _).below b1).below (zT w1 _)
 clear b1
 obtain ⟨p0,p1,p2,p3,-,-,-,-,-,-,-,-⟩:=X1.out
 go_wp2_with fail
 clear p0 p1 p2 p3
 have V1:Hid (EvC3 (w1.alloc (oQ0 1 np 0)) w1.heap.size 1 np 0):=EvC3.new w1 _ _ _ _
 generalize w1.alloc (oQ0 1 np 0)=W1 at *
 refine (qb1 _ _ _ _ _ _ rs os _ (by have:=H4.out;omega) (by omega) (H1.out.below B1.out) (H2.out.below B1.out)).mono ?_
 rintro e w2 ⟨v2,rfl,o2,b2⟩
 obtain ⟨ra2,rc2,oa2,oc2,rfl,-,-⟩:=o2.read
 have bA:=zT w2 (oQ1 k ra2 rs.length rc2 oa2 os.length oc2 0)
 have q2:Bw W1 (w2.alloc (oQ1 k ra2 rs.length rc2 oa2 os.length oc2 0)):=b2.trans (bA.mono b2.size)
 have X2:Hid (qa7 (w2.alloc (oQ1 k ra2 rs.length rc2 oa2 os.length oc2 0)) w.heap.size (.int .i64 k) (.slice ra rs.length rc) (.slice oa os.length oc) (.int .i64 0) 1 np 0):=X1.out.below q2
 have V2:Hid (EvC3 (w2.alloc (oQ1 k ra2 rs.length rc2 oa2 os.length oc2 0)) w1.heap.size 1 np 0):=V1.out.below q2
 have Y2:Hid (BoxC (w2.alloc (oQ1 k ra2 rs.length rc2 oa2 os.length oc2 0)) w2.heap.size (.int .i64 k) (.slice ra2 rs.length rc2) (.slice oa2 os.length oc2) (.int .i64 0)):=BoxC.new w2 _ _ _ _ _
 have F2:Hid (∀ j,(w2.alloc (oQ1 k ra2 rs.length rc2 oa2 os.length oc2 0)).frozen? ⟨w2.heap.size,j,none⟩=false):=fun j=>by simp
 have O2:Hid (qag (w2.alloc (oQ1 k ra2 rs.length rc2 oa2 os.length oc2 0)) W1.heap.size (stV k ra2 rs.length rc2 oa2 os.length oc2 0) k rs os 0):=o2.below bA
 have L2:Hid (∀ j,qal (stV k ra2 rs.length rc2 oa2 os.length oc2 0) j->W1.heap.size<=j/\j<w2.heap.size):=fun j hj=>o2.lt hj
 have B2:Hid (Bw w (w2.alloc (oQ1 k ra2 rs.length rc2 oa2 os.length oc2 0))):=B1.out.trans (q2.mono B1.out.size)
 have zw:w.heap.size+1+1<W1.heap.size:=X1.out.lt
 have zv:w1.heap.size<W1.heap.size:=zJ W1 _ V1.out.1
 have z2:W1.heap.size<=w2.heap.size:=b2.size
 clear b2 o2 bA q2 X1 V1 B1
 obtain ⟨p0,p1,p2,p3,e0,e1,e2,r0,r1,r2,r3,rf⟩:=X2.out
 obtain ⟨u0,u1,u2⟩:=V2.out
 obtain ⟨t0,t1,t2,t3⟩:=Y2.out
 have tf:=F2.out
 go_wp2_with fail
 clear p0 p1 p2 p3 e0 e1 e2 r0 r1 r2 r3 rf u0 u1 u2 t0 t1 t2 t3 tf
 generalize w2.alloc (oQ1 k ra2 rs.length rc2 oa2 os.length oc2 0)=W2 at *
 refine (qnw b off len cap k g ra2 oa2 rc2 oc2 rs os W1.heap.size 0 W2 hl (by have:=B2.out.size;omega) (HI.out.below B2.out hb) H4.out O2.out hk HP.out HL.out.1 HL.out.2).mono ?_
 rintro e w3 ⟨u,⟨q3,c3,hu⟩,rfl,o3,m3⟩
 rw [hu]
 rw [hu] at o3
 have X3:Hid (qa7 w3 w.heap.size (.int .i64 k) (.slice ra rs.length rc) (.slice oa os.length oc) (.int .i64 0) 1 np 0):=X2.out.marked m3 fun j hj=>by have:=L2.out j hj;omega
 have O3:Hid (qag w3 W1.heap.size (stV q3 ra2 rs.length rc2 oa2 os.length oc2 c3) (qac len (g k) k rs os 0 0).p (qac len (g k) k rs os 0 0).rs (qac len (g k) k rs os 0 0).os (qac len (g k) k rs os 0 0).c):=o3
 have B3:Hid (Bw w w3):=B2.out.trans (m3.below B2.out.size fun j hj=>by have:=L2.out j hj;omega)
 clear o3 m3 X2 V2 Y2 F2 O2 B2 hu u
 obtain ⟨-,-,-,-,-,-,-,r0,r1,r2,r3,rf⟩:=X3.out
 go_wp2
 refine bodyPost_ret (v:=.tuple #[stV q3 ra2 rs.length rc2 oa2 os.length oc2 c3,.bool true]) (by simp [results,Tryz.results112,go_sem,r0,r1,r2,r3]) rfl ⟨_,rfl,?_,?_⟩
 ·exact qag.put4 (B':=W1.heap.size) O3.out zw (by omega)
 ·have:=B3.out
  go_grown
def isI:Value->Bool
 | .int .i64 _=>true
 | _=>false
theorem qry {v:Value} (h:isI v=true):∃ x:Int,v=.int .i64 x:=by
 unfold isI at h
 split at h
 ·exact ⟨_,rfl⟩
 ·cases h
def Lst (w:World) (B:Nat) (v:Value) (n:Nat):Prop:=∃ xs,w.ownsRow B 87 5 v n xs/\xs.all isI=true
theorem Lst.kept {w w':World} {B n:Nat} {v:Value} {row:Option Nat} (h:Lst w B v n) (hg:w.grownBy w' row) (hr:∀ k,row=some k->k<B):Lst w' B v n:=by
 obtain ⟨xs,ho,hx⟩:=h
 refine ⟨xs,ho.kept hg ?_,hx⟩
 cases hv:v.ownBlock with
 | none=>exact .inl rfl
 | some k=>
  right
  intro e
  have h1:=(ho.lt k hv).1
  have h2:=hr k e.symm
  omega
theorem Lst.mono {w:World} {B B' n:Nat} {v:Value} (h:Lst w B v n) (hb:B'<=B):Lst w B' v n:=by
 obtain ⟨xs,ho,hx⟩:=h
 exact ⟨xs,ho.mono hb,hx⟩
theorem Lst.form {w:World} {B n:Nat} {v:Value} (h:Lst w B v n) (hn:0<n):∃ g cap,v=.slice (some (aQ g 0)) n cap/\B<=g/\g<w.heap.size:=by
 obtain ⟨xs,ho,hx⟩:=h
 rcases ho.2 with ⟨_,h0⟩ | ⟨g,cap,cur,rfl,hb,_⟩
 ·omega
 ·exact ⟨g,cap,rfl,hb,(ho.lt g rfl).2⟩
theorem Lst.at {w:World} {B n g cap:Nat} (h:Lst w B (.slice (some (aQ g 0)) n cap) n):∃ G,qar w g 0 n G:=by
 obtain ⟨xs,ho,hx⟩:=h
 have hall:=List.all_eq_true.1 hx
 have key:∀ j,j<n*5->∃ x:Int,w.cell? ⟨g,j,none⟩=some (.int .i64 x):=by
  intro j hj
  have hl:j<xs.length:=by rw [ho.1];exact hj
  obtain ⟨x,hxx⟩:=qry (hall xs[j] (List.getElem_mem hl))
  exact ⟨x,by rw [ho.cellAt j hj,List.getElem?_eq_getElem hl,hxx]⟩
 have inh:Inhabited Int:=⟨0⟩
 obtain ⟨f,hf⟩:=Go.Deep.choose_lt (α:=Int) key
 refine ⟨fun i=>⟨f (i*5),f (i*5+1),f (i*5+2),f (i*5+3),f (i*5+4)⟩,fun i hi=>?_⟩
 simp only [Nat.zero_add]
 exact ⟨hf _ (by omega),hf _ (by omega),hf _ (by omega),hf _ (by omega),hf _ (by omega)⟩
theorem Lst.lit {w:World} {B n:Nat} (cs:Array Value) (hB:B<=w.heap.size) (hn:n<=1000) (hs:cs.size=n*5) (hc:cs.toList.all isI=true):Lst (w.alloc (.cells cs 87)) B (.slice (some (aQ w.heap.size 0)) n n) n:=
 ⟨cs.toList,World.ownsRow_lit w cs n hB (by unfold maxLen;omega) hs,hc⟩
theorem qvu {xs:List Value} {u:Value} (h:xs.all isI=true) (hu:isI u=true) (j:Nat):(xs.set j u).all isI=true:=by
 rw [List.all_eq_true] at h ⊢
 intro v hv
 rcases List.mem_or_eq_of_mem_set hv with h1 | h1
 ·exact h v h1
 ·rw [h1];exact hu
theorem Lst.set {w:World} {B n g cap:Nat} (h:Lst w B (.slice (some (aQ g 0)) n cap) n) (j:Nat) (x:Int):Lst (w.setCell (aQ g j) (.int .i64 x)) B (.slice (some (aQ g 0)) n cap) n:=by
 obtain ⟨xs,ho,hx⟩:=h
 exact ⟨_,(ho.stored j _).1,qvu hx rfl j⟩
theorem qxh:(Tryz.prog.info? 87).map (fun i=>(i.zero,i.size,i.bytes))=some (some (insV 0 0 0 0 0),5,40):=by kernel_rfl
theorem qje (w:World) (a b c d e:Value) (t:TypeId):∀ j u,[a,b,c,d,e][j]? = some u->(w.alloc (.cells #[a,b,c,d,e] t)).cell? ((⟨w.heap.size,0,none⟩:Addr).add j)=some u:=by
 intro j u hj
 match j,hj with
 | 0,hj=>simp at hj;subst hj;simp [Addr.add]
 | 1,hj=>simp at hj;subst hj;simp [Addr.add]
 | 2,hj=>simp at hj;subst hj;simp [Addr.add]
 | 3,hj=>simp at hj;subst hj;simp [Addr.add]
 | 4,hj=>simp at hj;subst hj;simp [Addr.add]
 | j+5,hj=>simp at hj
theorem qeu {ops:Array Oper} {rest:List Oper} {op:Oper} {act:Act} {Q:Exit->Act->World->Prop} (w:World) (hgd:op.guard=none) (s x:Operand)
  (ho:op.op=.call { callee:=.builtin .append,args:=#[s,x],argTypes:=#[60,60] })
  (B:Nat) (v:Value) (n:Nat) (hs:act.eval s=v) (hl:Lst w B v n) (o r a b k:Int) (hx:act.eval x=.slice (some (aQ w.heap.size 0)) 1 1) (hn:n<=1000) (hB:B<=w.heap.size)
  (h:∀ v' w',Lst w' B v' (n+1)->(w.alloc (oQ2 o r a b k)).grownBy w' v.ownBlock->wpList Tryz.prog ops Q rest (act.put op.dst v') w'):
  wpList Tryz.prog ops Q (op :: rest) act (w.alloc (oQ2 o r a b k)):=by
 obtain ⟨i0,hi,hz0,hz1,hz2⟩:=info_parts qxh
 obtain ⟨xs,how,hxs⟩:=hl
 refine wpList_append_own _ hgd s x 60 ho B 87 i0 (insV 0 0 0 0 0) 5 40 Tryz.underlying60 hi hz0 hz1 hz2 rfl (by decide) v n xs hs (how.alloc _) ⟨w.heap.size,0,none⟩ 1 1
  [.int .i64 o,.int .i64 r,.int .i64 a,.int .i64 b,.int .i64 k] hx rfl (qje _ _ _ _ _ _ _) (fun u hu=>?_) (by unfold maxLen;omega) (by omega) (by simp;omega) ?_
 ·simp at hu
  rcases hu with rfl | rfl | rfl | rfl | rfl <;> rfl
 ·intro v' w' h1 h2 _
  refine h v' w' ⟨_,h1,?_⟩ h2
  rw [List.all_append,hxs]
  rfl
structure Tu (lo hi:Nat) (w w':World):Prop where
 os:w'.os=w.os
 tape:w'.tape=w.tape
 output:w'.output=w.output
 size:w.heap.size<=w'.heap.size
 block:∀ k,k<w.heap.size->(k<lo\/hi<=k)->w'.heap[k]? = w.heap[k]?
theorem Tu.of_below {w w':World} (h:Bw w w'):Tu 0 0 w w':=⟨h.os,h.tape,h.output,h.size,fun k hk _=>h.block k hk⟩
theorem OwnI.ofBlock {w w':World} {B:Nat} {u:Value} {xs:List Int} (hu:OwnI w B u xs) (ha:∀ k,u.ownBlock=some k->w'.heap[k]? = w.heap[k]?):OwnI w' B u xs:=by
 rcases hu.2 with ⟨rfl,h0⟩ | ⟨g,cap,cur,rfl,hb,hg,hr⟩
 ·exact ⟨hu.1,.inl ⟨rfl,h0⟩⟩
 ·refine ⟨hu.1,.inr ⟨g,cap,cur,rfl,hb,?_,hr⟩⟩
  rw [ha g rfl]
  exact hg
theorem OwnI.slOf {w:World} {B n cap:Nat} {a0:Option Addr} {xs:List Int} (h:OwnI w B (.slice a0 n cap) xs):Sl w a0 xs:=by
 obtain ⟨a1,c1,e,s⟩:=h.form
 simp only [Value.slice.injEq] at e
 obtain ⟨rfl,-,-⟩:=e
 exact s
structure Tl (w:World) (B C N:Nat) (p c:Int) (ra:Option Addr) (rn rc:Nat) (oa:Option Addr) (on oc:Nat) (rs os:List Int):Prop where
 lo:B<=N
 hi:N<C
 sz:C<=w.heap.size
 box:BoxC w N (.int .i64 p) (.slice ra rn rc) (.slice oa on oc) (.int .i64 c)
 own:qag w B (stV p ra rn rc oa on oc c) p rs os c
 up:∀ k,qal (stV p ra rn rc oa on oc c) k->k<C
 ne:¬ qal (stV p ra rn rc oa on oc c) N
theorem Tl.tu {w w':World} {B C N:Nat} {p c:Int} {ra:Option Addr} {rn rc:Nat} {oa:Option Addr} {on oc:Nat} {rs os:List Int} {lo hi:Nat} (h:Tl w B C N p c ra rn rc oa on oc rs os) (t:Tu lo hi w w') (hd:C<=lo\/hi<=B):Tl w' B C N p c ra rn rc oa on oc rs os:=by
 obtain ⟨h1,h2,h3,⟨b0,b1,b2,b3⟩,h5,h6,h7⟩:=h
 have hb:∀ k,B<=k->k<C->w'.heap[k]? = w.heap[k]?:=fun k k1 k2=>t.block k (by omega) (by omega)
 have hN:=hb N h1 h2
 refine ⟨h1,h2,zP h3 t.size,⟨(zH hN).trans b0,(zH hN).trans b1,(zH hN).trans b2,(zH hN).trans b3⟩,?_,h6,h7⟩
 obtain ⟨o1,o2,ha⟩:=h5.parts
 refine ⟨_,_,rfl,o1.ofBlock fun k hk=>?_,o2.ofBlock fun k hk=>?_,ha⟩
 ·exact hb k (o1.lt k hk).1 (h6 k ((qa1 _ _ _ _ _).2 (.inl hk)))
 ·exact hb k (o2.lt k hk).1 (h6 k ((qa1 _ _ _ _ _).2 (.inr hk)))
theorem Tl.below {w w':World} {B C N:Nat} {p c:Int} {ra:Option Addr} {rn rc:Nat} {oa:Option Addr} {on oc:Nat} {rs os:List Int} (h:Tl w B C N p c ra rn rc oa on oc rs os) (hb:Bw w w'):Tl w' B C N p c ra rn rc oa on oc rs os:=h.tu (Tu.of_below hb) (.inr (Nat.zero_le _))
theorem Tl.sl {w:World} {B C N:Nat} {p c:Int} {ra:Option Addr} {rn rc:Nat} {oa:Option Addr} {on oc:Nat} {rs os:List Int} (h:Tl w B C N p c ra rn rc oa on oc rs os):Sl w ra rs/\Sl w oa os:=⟨h.own.parts.1.slOf,h.own.parts.2.1.slOf⟩
theorem Tl.of_alloc {w:World} {B:Nat} {p c:Int} {ra oa:Option Addr} {rn rc on oc:Nat} {rs os:List Int} (h:qag w B (stV p ra rn rc oa on oc c) p rs os c) (hw:B<=w.heap.size) (t:TypeId):Tl (w.alloc (.cells #[.int .i64 p,.slice ra rn rc,.slice oa on oc,.int .i64 c] t)) B (w.heap.size+1) w.heap.size p c ra rn rc oa on oc rs os:=
 ⟨hw,Nat.lt_succ_self _,by simp,BoxC.new w _ _ _ _ _,h.below (zT _ _),fun k hk=>Nat.lt_succ_of_lt (h.lt hk).2,fun e=>Nat.lt_irrefl _ (h.lt e).2⟩
def Told (w:World) (B N:Nat) (S:S4):Prop:=∃ ra rc oa oc,BoxC w N (.int .i64 S.p) (.slice ra S.rs.length rc) (.slice oa S.os.length oc) (.int .i64 S.c)/\qag w B (stV S.p ra S.rs.length rc oa S.os.length oc S.c) S.p S.rs S.os S.c/\B<=N/\¬ qal (stV S.p ra S.rs.length rc oa S.os.length oc S.c) N
theorem Told.tl {w:World} {B N:Nat} {S:S4} (h:Told w B N S):∃ ra rc oa oc,Tl w B w.heap.size N S.p S.c ra S.rs.length rc oa S.os.length oc S.rs S.os:=by
 obtain ⟨ra,rc,oa,oc,h1,h2,h3,h4⟩:=h
 exact ⟨ra,rc,oa,oc,h3,zJ w _ h1.1,Nat.le_refl _,h1,h2,fun k hk=>(h2.lt hk).2,h4⟩
theorem BoxC.set4 {w:World} {N:Nat} {z0 z1 z2 z3:Value} (h:BoxC w N z0 z1 z2 z3) (a b c d:Value):BoxC ((((w.setCell (aQ N 0) a).setCell (aQ N 1) b).setCell (aQ N 2) c).setCell (aQ N 3) d) N a b c d:=by
 obtain ⟨h0,h1,h2,h3⟩:=h
 exact ⟨by go_cell,by go_cell,by go_cell,by go_cell⟩
theorem qvh (w:World) (N:Nat) (a b c d:Value):w.grownBy ((((w.setCell (aQ N 0) a).setCell (aQ N 1) b).setCell (aQ N 2) c).setCell (aQ N 3) d) (some N):=by
 repeat (refine zV ?_ (.inl rfl) _)
 exact World.grownBy.refl _ _
theorem Told.of_alloc {w:World} {B B':Nat} {S:S4} {ra oa:Option Addr} {rc oc:Nat} (h:qag w B' (stV S.p ra S.rs.length rc oa S.os.length oc S.c) S.p S.rs S.os S.c) (hB:B<=B') (hw:B<=w.heap.size) (t:TypeId):Told (w.alloc (.cells #[.int .i64 S.p,.slice ra S.rs.length rc,.slice oa S.os.length oc,.int .i64 S.c] t)) B w.heap.size S:=by
 refine ⟨ra,rc,oa,oc,BoxC.new w _ _ _ _ _,?_,hw,fun e=>Nat.lt_irrefl _ (h.lt e).2⟩
 obtain ⟨vr,vo,e,o1,o2,ha⟩:=h
 exact ⟨vr,vo,e,(o1.below (zT _ _)).mono hB,(o2.below (zT _ _)).mono hB,ha⟩
theorem Told.of_put {w:World} {B B' N:Nat} {S:S4} {ra oa:Option Addr} {rc oc:Nat} {z0 z1 z2 z3:Value} (h:qag w B' (stV S.p ra S.rs.length rc oa S.os.length oc S.c) S.p S.rs S.os S.c) (hB:B<=B') (hN:N<B') (hw:B<=N) (hZ:BoxC w N z0 z1 z2 z3):Told ((((w.setCell (aQ N 0) (.int .i64 S.p)).setCell (aQ N 1) (.slice ra S.rs.length rc)).setCell (aQ N 2) (.slice oa S.os.length oc)).setCell (aQ N 3) (.int .i64 S.c)) B N S:=
 ⟨ra,rc,oa,oc,hZ.set4 _ _ _ _,h.put4 hN hB,hw,fun e=>Nat.not_le_of_lt hN (h.lt e).1⟩
def Dx (w wr:World) (p code:Int) (ra:Option Addr) (rn rc:Nat) (oa:Option Addr) (on oc:Nat) (ek eq ev:Int):Prop:=
 Bw w wr/\BoxC wr w.heap.size (.int .i64 p) (.slice ra rn rc) (.slice oa on oc) (.int .i64 code)/\EvC3 wr (w.heap.size+1) ek eq ev
