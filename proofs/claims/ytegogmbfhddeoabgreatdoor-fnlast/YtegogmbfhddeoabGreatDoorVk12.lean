import Derived.Test.YtegogmbfhddeoabGreatDoorVk9
import Derived.Test.YtegogmbfhddeoabGreatDoorVk11
namespace Go.Proofs.YtegogmbfhddeoabGreatDoor
set_option maxRecDepth 100000
set_option maxHeartbeats 4000000
open Go.RowKit
theorem qbe.of_row {v:Value} {w w':World} {row:Option Nat} (g:w.grownBy w' row) (h:∀ k,row=some k->qai v k):qbe v w w':=
 ⟨g.os,g.tape,g.output,g.size,fun k hk hn=>g.block k hk (fun e=>hn (h k e.symm))⟩
theorem qn1 {w w':World} {row:Option Nat} (h:w.grownBy w' row):w.grownBy w'.drew row:=⟨h.os,h.tape,h.output,h.size,h.block⟩
theorem qbe.trans {v:Value} {w w1 w2:World} (h:qbe v w w1) (k:qbe v w1 w2):qbe v w w2:=
 ⟨k.os.trans h.os,k.tape.trans h.tape,k.output.trans h.output,zP h.size k.size,fun j hj hn=>(k.block j (zL hj h.size) hn).trans (h.block j hj hn)⟩
theorem qbe.of_below {v:Value} {w w':World} (h:Below w.heap.size w w'):qbe v w w':=⟨h.os,h.tape,h.output,h.size,fun k hk _=>h.block k hk⟩
theorem qae.parts {w:World} {B:Nat} {p code:Int} {ra oa:Option Addr} {rn rc on oc:Nat} {rs os:List Int} (h:qae w B (stV p ra rn rc oa on oc code) p rs os code):OwnI w B (.slice ra rn rc) rs/\OwnI w B (.slice oa on oc) os/\∀ k,(Value.slice ra rn rc).ownBlock=some k->(Value.slice oa on oc).ownBlock≠some k:=by
 obtain ⟨vr,vo,e,o1,o2,ha⟩:=h;simp only [stV,Value.agg.injEq,Array.mk.injEq,List.cons.injEq,and_true,true_and] at e;obtain ⟨rfl,rfl⟩:=e;exact ⟨o1,o2,ha⟩
theorem qm3 (b off len cap k:Nat) (g:Nat->I5) (ra oa:Option Addr) (rc oc:Nat) (rs os:List Int) (B:Nat) (v:Int) (w:World) (hl:(len:Int)<=30) (hb:b<w.heap.size) (hI:qam w b off len g) (h4:rs.length=4) (hO:qae w B (stV k ra rs.length rc oa os.length oc 0) k rs os 0) (hk:k<len) (hp:qab g len 4=true) (hnum:allN rs=true) (h678:(g k).o≠6/\(g k).o≠7/\(g k).o≠8):
  Calls Tryz.prog 109 #[.slice (some ⟨b,off,none⟩) len cap,stV k ra rs.length rc oa os.length oc 0] w fun e w'=>∃ u,(∃ q c,u=stV q ra rs.length rc oa os.length oc c)/\e=.returned u/\qae w' B u (qac len (g k) k rs os 0 v).p (qac len (g k) k rs os 0 v).rs (qac len (g k) k rs os 0 v).os (qac len (g k) k rs os 0 v).c/\qbe (stV k ra rs.length rc oa os.length oc 0) w w':=by
 obtain ⟨o1,o2,ha⟩:=hO.parts;obtain ⟨G,rfl,_,_,_⟩:=qjj o1 (by omega);obtain ⟨⟨q1,q11⟩,⟨r0,r3⟩,⟨a0,a3⟩,⟨b0,b3⟩⟩:=qb9 (qbr hp hk);obtain ⟨jr,hjr⟩:=Int.eq_ofNat_of_zero_le r0;obtain ⟨ja,hja⟩:=Int.eq_ofNat_of_zero_le a0;obtain ⟨jb,hjb⟩:=Int.eq_ofNat_of_zero_le b0;have hn4:∀ j,j<4->numB (zi rs j)=true:=fun j hj=>(List.all_eq_true.1 hnum) _ (qsl (by omega));rw [h4] at o1 ha ⊢
 have key:∀ s:S4,s=qac len (g k) k rs os 0 0->s.os=os->(Calls Tryz.prog 109 #[.slice (some ⟨b,off,none⟩) len cap,stV k (some ⟨G,0,none⟩) 4 rc oa os.length oc 0] w fun e w'=>e=.returned (stV s.p (some ⟨G,0,none⟩) 4 rc oa os.length oc s.c)/\OwnI w' B (.slice (some ⟨G,0,none⟩) 4 rc) s.rs/\w.grownBy w' (some G))->qac len (g k) k rs os 0 v=qac len (g k) k rs os 0 0->(Calls Tryz.prog 109 #[.slice (some ⟨b,off,none⟩) len cap,stV k (some ⟨G,0,none⟩) 4 rc oa os.length oc 0] w fun e w'=>∃ u,(∃ q c,u=stV q (some ⟨G,0,none⟩) 4 rc oa os.length oc c)/\e=.returned u/\qae w' B u (qac len (g k) k rs os 0 v).p (qac len (g k) k rs os 0 v).rs (qac len (g k) k rs os 0 v).os (qac len (g k) k rs os 0 v).c/\qbe (stV k (some ⟨G,0,none⟩) 4 rc oa os.length oc 0) w w'):=by
  intro s hs hos h he;rw [he,<- hs];refine h.mono fun e w' ⟨h1,h2,h3⟩=>⟨_,⟨_,_,rfl⟩,h1,⟨_,_,rfl,h2,?_,ha⟩,qbe.of_row h3 fun j hj=>(qar _ _ _ _ _).2 (.inl hj)⟩
  rw [hos]
  exact o2.kept h3 (by
   cases hv:(Value.slice oa os.length oc).ownBlock with
   | none=>exact .inl rfl
   | some j=>exact .inr (fun e=>ha G rfl (by rw [hv,e])))
 have hsame:qac len (g k) k rs os 0 v=qac len (g k) k rs os 0 0:=by
  unfold qac;rw [if_neg h678.1,if_neg h678.2.1,if_neg h678.2.2,if_neg h678.1,if_neg h678.2.1,if_neg h678.2.2]
 have hos:(qac len (g k) k rs os 0 0).os=os:=by
  unfold qac;rw [if_neg h678.1,if_neg h678.2.1,if_neg h678.2.2]
  split
  ·rfl
  ·split
   ·split <;> rfl
   ·split
    ·rfl
    ·split <;> rfl
 refine key _ rfl hos ?_ hsame
 rcases qet (g k).o with ho | ho | ho | ho | ho | ho | ho | ho | ho | ho | ho | ho
 ·omega
 ·exact qq4 b off len cap k g G rc oa os.length oc 0 rs B w hl hb hI o1 h4 hk jr ja jb hjr hja hjb (by omega) (by omega) (by omega) ho hn4 os
 ·exact qq5 b off len cap k g G rc oa os.length oc 0 rs B w hl hb hI o1 h4 hk jr ja jb hjr hja hjb (by omega) (by omega) (by omega) ho hn4 os
 ·exact qq6 b off len cap k g G rc oa os.length oc 0 rs B w hl hb hI o1 h4 hk jr ja jb hjr hja hjb (by omega) (by omega) (by omega) ho hn4 os
 ·exact qq7 b off len cap k g G rc oa os.length oc 0 rs B w hl hb hI o1 h4 hk jr ja jb hjr hja hjb (by omega) (by omega) (by omega) ho hn4 os
 ·exact qq8 b off len cap k g G rc oa os.length oc 0 rs B w hl hb hI o1 h4 hk jr ja jb hjr hja hjb (by omega) (by omega) (by omega) ho hn4 os
 ·exact absurd ho h678.1
 ·exact absurd ho h678.2.1
 ·exact absurd ho h678.2.2
 ·exact qq9 b off len cap k g G rc oa os.length oc 0 rs B w hl hb hI o1 h4 hk jr ja jb hjr hja hjb (by omega) (by omega) (by omega) ho hn4 os
 ·exact qph b off len cap k g G rc oa os.length oc 0 rs B w hl hb hI o1 h4 hk jr ja jb hjr hja hjb (by omega) (by omega) (by omega) ho hn4 os
 ·exact qpi b off len cap k g G rc oa os.length oc 0 rs B w hl hb hI o1 h4 hk jr ja jb hjr hja hjb (by omega) (by omega) (by omega) ho hn4 os
theorem qpf (b off len cap k:Nat) (g:Nat->I5) (ra oa:Option Addr) (rc oc:Nat) (rs os:List Int) (w:World) (hl:(len:Int)<=30) (hb:b<w.heap.size) (hI:qam w b off len g) (h4:rs.length=4) (ho:os.length<=60) (h1:Sl w ra rs) (h2:Sl w oa os) (hk:k<len) (hp:qab g len 4=true) (np:Int) (HN:Hid (evK (g k).o=1/\evP (g k).o (g k).n=np/\evW (g k).o (g k).a rs=0)) (HL:Hid (allN rs=true/\(g k).o≠6/\(g k).o≠7/\(g k).o≠8)):
  Calls Tryz.prog 68 #[.slice (some ⟨b,off,none⟩) len cap,stV k ra rs.length rc oa os.length oc 0,evV 1 np 0] w fun e w'=>∃ v,e=.returned (.tuple #[v,.bool true])/\qae w' w.heap.size v (qac len (g k) k rs os 0 0).p (qac len (g k) k rs os 0 0).rs (qac len (g k) k rs os 0 0).os (qac len (g k) k rs os 0 0).c/\Below w.heap.size w w':=by
 have HI:Hid (qam w b off len g):=hI;have H1:Hid (Sl w ra rs):=h1;have H2:Hid (Sl w oa os):=h2;have H4:Hid (rs.length=4):=h4;have HP:Hid (qab g len 4=true):=hp;have hk':(k:Int)<(len:Int):=by omega
 clear hI h1 h2 h4 hp
 go_enter Tryz.func68,Tryz.ntmps68
 go_wp2_with fail
 refine (qbf _ _ _ _ k g _ _ _ _ _ _ rs _ (by unfold maxLen;omega) (by simp;omega) (HI.out.below (by go_grown) hb) (H1.out.below (by go_grown)) H4.out hk HP.out).mono ?_;rintro e w1 ⟨he1,b1⟩;rw [HN.1,HN.2.1,HN.2.2] at he1;subst he1;have B1:Hid (Below w.heap.size w (w1.alloc (oQ0 1 np 0))):=(qad (by go_grown) b1 (by simp;omega)).alloc (by have:=b1.size;simp at this;omega) _;have X1:Hid (qa4 (w1.alloc (oQ0 1 np 0)) w.heap.size (.int .i64 k) (.slice ra rs.length rc) (.slice oa os.length oc) (.int .i64 0) 1 np 0):=((qa4.new w _ _ _ _ _ _ _ _ _ _).below b1).below (zT w1 _);clear b1;obtain ⟨p0,p1,p2,p3,-,-,-,-,-,-,-,-⟩:=X1.out;go_wp2_with fail
 clear p0 p1 p2 p3;have V1:Hid (EvC3 (w1.alloc (oQ0 1 np 0)) w1.heap.size 1 np 0):=EvC3.new w1 _ _ _ _;generalize w1.alloc (oQ0 1 np 0)=W1 at *;refine (qbw _ _ _ _ _ _ rs os _ (by have:=H4.out;omega) (by omega) (H1.out.below B1.out) (H2.out.below B1.out)).mono ?_;rintro e w2 ⟨v2,rfl,o2,b2⟩;obtain ⟨ra2,rc2,oa2,oc2,rfl,-,-⟩:=o2.read;have bA:=zT w2 (oQ1 k ra2 rs.length rc2 oa2 os.length oc2 0);have q2:Below W1.heap.size W1 (w2.alloc (oQ1 k ra2 rs.length rc2 oa2 os.length oc2 0)):=b2.trans (bA.mono b2.size);have X2:Hid (qa4 (w2.alloc (oQ1 k ra2 rs.length rc2 oa2 os.length oc2 0)) w.heap.size (.int .i64 k) (.slice ra rs.length rc) (.slice oa os.length oc) (.int .i64 0) 1 np 0):=X1.out.below q2;have V2:Hid (EvC3 (w2.alloc (oQ1 k ra2 rs.length rc2 oa2 os.length oc2 0)) w1.heap.size 1 np 0):=V1.out.below q2;have Y2:Hid (BoxC (w2.alloc (oQ1 k ra2 rs.length rc2 oa2 os.length oc2 0)) w2.heap.size (.int .i64 k) (.slice ra2 rs.length rc2) (.slice oa2 os.length oc2) (.int .i64 0)):=BoxC.new w2 _ _ _ _ _;have F2:Hid (∀ j,(w2.alloc (oQ1 k ra2 rs.length rc2 oa2 os.length oc2 0)).frozen? ⟨w2.heap.size,j,none⟩=false):=fun j=>by simp
 have O2:Hid (qae (w2.alloc (oQ1 k ra2 rs.length rc2 oa2 os.length oc2 0)) W1.heap.size (stV k ra2 rs.length rc2 oa2 os.length oc2 0) k rs os 0):=o2.below bA;have L2:Hid (∀ j,qai (stV k ra2 rs.length rc2 oa2 os.length oc2 0) j->W1.heap.size<=j/\j<w2.heap.size):=fun j hj=>o2.lt hj;have B2:Hid (Below w.heap.size w (w2.alloc (oQ1 k ra2 rs.length rc2 oa2 os.length oc2 0))):=B1.out.trans (q2.mono B1.out.size);have zw:w.heap.size+1+1<W1.heap.size:=X1.out.lt;have zv:w1.heap.size<W1.heap.size:=zJ W1 _ V1.1;have z2:W1.heap.size<=w2.heap.size:=b2.size;clear b2 o2 bA q2 X1 V1 B1;obtain ⟨p0,p1,p2,p3,e0,e1,e2,r0,r1,r2,r3,rf⟩:=X2.out;obtain ⟨u0,u1,u2⟩:=V2.out;obtain ⟨t0,t1,t2,t3⟩:=Y2.out;have tf:=F2.out;go_wp2_with fail
 clear p0 p1 p2 p3 e0 e1 e2 r0 r1 r2 r3 rf u0 u1 u2 t0 t1 t2 t3 tf;generalize w2.alloc (oQ1 k ra2 rs.length rc2 oa2 os.length oc2 0)=W2 at *;refine (qm3 b off len cap k g ra2 oa2 rc2 oc2 rs os W1.heap.size 0 W2 hl (by have:=B2.out.size;omega) (HI.out.below B2.out hb) H4.out O2.out hk HP.out HL.1 HL.2).mono ?_;rintro e w3 ⟨u,⟨q3,c3,hu⟩,rfl,o3,m3⟩;rw [hu];rw [hu] at o3;have X3:Hid (qa4 w3 w.heap.size (.int .i64 k) (.slice ra rs.length rc) (.slice oa os.length oc) (.int .i64 0) 1 np 0):=X2.out.marked m3 fun j hj=>by have:=L2.out j hj;omega
 have O3:Hid (qae w3 W1.heap.size (stV q3 ra2 rs.length rc2 oa2 os.length oc2 c3) (qac len (g k) k rs os 0 0).p (qac len (g k) k rs os 0 0).rs (qac len (g k) k rs os 0 0).os (qac len (g k) k rs os 0 0).c):=o3;have B3:Hid (Below w.heap.size w w3):=B2.out.trans (m3.below B2.out.size fun j hj=>by have:=L2.out j hj;omega);clear o3 m3 X2 V2 Y2 F2 O2 B2 hu u;obtain ⟨-,-,-,-,-,-,-,r0,r1,r2,r3,rf⟩:=X3.out;go_wp2;refine bodyPost_ret (v:=.tuple #[stV q3 ra2 rs.length rc2 oa2 os.length oc2 c3,.bool true]) (by simp [results,Tryz.results68,go_sem,r0,r1,r2,r3]) rfl ⟨_,rfl,?_,?_⟩
 ·exact qae.put4 (B':=W1.heap.size) O3.out zw (by omega)
 ·have:=B3.out
  go_grown
