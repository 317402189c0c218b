import Derived.Test.YtnfdnnmddadmkaaGreatDoorOg10
import Derived.Test.YtnfdnnmddadmkaaGreatDoorOg12
namespace Go.Proofs.YtnfdnnmddadmkaaGreatDoor
set_option maxRecDepth 100000
set_option maxHeartbeats 4000000
open Go.RowKit
theorem qbf.of_row {v:Value} {w w':World} {row:Option Nat} (g:w.grownBy w' row) (h:∀ k,row=some k->qak v k):qbf v w w':=
 ⟨g.os,g.tape,g.output,g.size,fun k hk hn=>g.block k hk (fun e=>hn (h k e.symm))⟩
theorem qnm {w w':World} {row:Option Nat} (h:w.grownBy w' row):w.grownBy w'.drew row:=⟨h.os,h.tape,h.output,h.size,h.block⟩
theorem qbf.trans {v:Value} {w w1 w2:World} (h:qbf v w w1) (k:qbf v w1 w2):qbf v w w2:=
 ⟨k.os.trans h.os,k.tape.trans h.tape,k.output.trans h.output,zP h.size k.size,fun j hj hn=>(k.block j (zL hj h.size) hn).trans (h.block j hj hn)⟩
theorem qbf.of_below {v:Value} {w w':World} (h:Below w.heap.size w w'):qbf v w w':=⟨h.os,h.tape,h.output,h.size,fun k hk _=>h.block k hk⟩
theorem qaf.parts {w:World} {B:Nat} {p code:Int} {ra oa:Option Addr} {rn rc on oc:Nat} {rs os:List Int} (h:qaf w B (stV p ra rn rc oa on oc code) p rs os code):OwnI w B (.slice ra rn rc) rs/\OwnI w B (.slice oa on oc) os/\∀ k,(Value.slice ra rn rc).ownBlock=some k->(Value.slice oa on oc).ownBlock≠some k:=by
 obtain ⟨vr,vo,e,o1,o2,ha⟩:=h
 simp only [stV,Value.agg.injEq,Array.mk.injEq,List.cons.injEq,and_true,true_and] at e
 obtain ⟨rfl,rfl⟩:=e
 exact ⟨o1,o2,ha⟩
theorem qmo (b off len cap k:Nat) (g:Nat->I5) (ra oa:Option Addr) (rc oc:Nat) (rs os:List Int) (B:Nat) (v:Int) (w:World) (hl:(len:Int)<=30) (hb:b<w.heap.size) (hI:qan w b off len g) (h4:rs.length=4) (hO:qaf w B (stV k ra rs.length rc oa os.length oc 0) k rs os 0) (hk:k<len) (hp:qad g len 4=true) (hnum:allN rs=true) (h678:(g k).o≠6/\(g k).o≠7/\(g k).o≠8):
  Calls Tryz.prog 173 #[.slice (some ⟨b,off,none⟩) len cap,stV k ra rs.length rc oa os.length oc 0] w fun e w'=>∃ u,(∃ q c,u=stV q ra rs.length rc oa os.length oc c)/\e=.returned u/\qaf w' B u (qae len (g k) k rs os 0 v).p (qae len (g k) k rs os 0 v).rs (qae len (g k) k rs os 0 v).os (qae len (g k) k rs os 0 v).c/\qbf (stV k ra rs.length rc oa os.length oc 0) w w':=by
 obtain ⟨o1,o2,ha⟩:=hO.parts
 obtain ⟨G,rfl,_,_,_⟩:=qjb o1 (by omega)
 obtain ⟨⟨q1,q11⟩,⟨r0,r3⟩,⟨a0,a3⟩,⟨b0,b3⟩⟩:=qcd (qbs hp hk)
 obtain ⟨jr,hjr⟩:=Int.eq_ofNat_of_zero_le r0
 obtain ⟨ja,hja⟩:=Int.eq_ofNat_of_zero_le a0
 obtain ⟨jb,hjb⟩:=Int.eq_ofNat_of_zero_le b0
 have hn4:∀ j,j<4->numB (zi rs j)=true:=fun j hj=>(List.all_eq_true.1 hnum) _ (qt3 (by omega))
 rw [h4] at o1 ha ⊢
 have key:∀ s:S4,s=qae len (g k) k rs os 0 0->s.os=os->(Calls Tryz.prog 173 #[.slice (some ⟨b,off,none⟩) len cap,stV k (some ⟨G,0,none⟩) 4 rc oa os.length oc 0] w fun e w'=>e=.returned (stV s.p (some ⟨G,0,none⟩) 4 rc oa os.length oc s.c)/\OwnI w' B (.slice (some ⟨G,0,none⟩) 4 rc) s.rs/\w.grownBy w' (some G))->qae len (g k) k rs os 0 v=qae len (g k) k rs os 0 0->(Calls Tryz.prog 173 #[.slice (some ⟨b,off,none⟩) len cap,stV k (some ⟨G,0,none⟩) 4 rc oa os.length oc 0] w fun e w'=>∃ u,(∃ q c,u=stV q (some ⟨G,0,none⟩) 4 rc oa os.length oc c)/\e=.returned u/\qaf w' B u (qae len (g k) k rs os 0 v).p (qae len (g k) k rs os 0 v).rs (qae len (g k) k rs os 0 v).os (qae len (g k) k rs os 0 v).c/\qbf (stV k (some ⟨G,0,none⟩) 4 rc oa os.length oc 0) w w'):=by
  intro s hs hos h he
  rw [he,<- hs]
  refine h.mono fun e w' ⟨h1,h2,h3⟩=>⟨_,⟨_,_,rfl⟩,h1,⟨_,_,rfl,h2,?_,ha⟩,qbf.of_row h3 fun j hj=>(qas _ _ _ _ _).2 (.inl hj)⟩
  rw [hos]
  exact o2.kept h3 (by
   cases hv:(Value.slice oa os.length oc).ownBlock with
   | none=>exact .inl rfl
   | some j=>exact .inr (fun e=>ha G rfl (by rw [hv,e])))
 have hsame:qae len (g k) k rs os 0 v=qae len (g k) k rs os 0 0:=by
  unfold qae
  rw [if_neg h678.1,if_neg h678.2.1,if_neg h678.2.2,if_neg h678.1,if_neg h678.2.1,if_neg h678.2.2]
 have hos:(qae len (g k) k rs os 0 0).os=os:=by
  unfold qae
  rw [if_neg h678.1,if_neg h678.2.1,if_neg h678.2.2]
  split
  ·rfl
  ·split
   ·split <;> rfl
   ·split
    ·rfl
    ·split <;> rfl
 refine key _ rfl hos ?_ hsame
 rcases qes (g k).o with ho | ho | ho | ho | ho | ho | ho | ho | ho | ho | ho | ho
 ·omega
 ·exact qqh b off len cap k g G rc oa os.length oc 0 rs B w hl hb hI o1 h4 hk jr ja jb hjr hja hjb (by omega) (by omega) (by omega) ho hn4 os
 ·exact qqi b off len cap k g G rc oa os.length oc 0 rs B w hl hb hI o1 h4 hk jr ja jb hjr hja hjb (by omega) (by omega) (by omega) ho hn4 os
 ·exact qqj b off len cap k g G rc oa os.length oc 0 rs B w hl hb hI o1 h4 hk jr ja jb hjr hja hjb (by omega) (by omega) (by omega) ho hn4 os
 ·exact qqk b off len cap k g G rc oa os.length oc 0 rs B w hl hb hI o1 h4 hk jr ja jb hjr hja hjb (by omega) (by omega) (by omega) ho hn4 os
 ·exact qql b off len cap k g G rc oa os.length oc 0 rs B w hl hb hI o1 h4 hk jr ja jb hjr hja hjb (by omega) (by omega) (by omega) ho hn4 os
 ·exact absurd ho h678.1
 ·exact absurd ho h678.2.1
 ·exact absurd ho h678.2.2
 ·exact qqm b off len cap k g G rc oa os.length oc 0 rs B w hl hb hI o1 h4 hk jr ja jb hjr hja hjb (by omega) (by omega) (by omega) ho hn4 os
 ·exact qoz b off len cap k g G rc oa os.length oc 0 rs B w hl hb hI o1 h4 hk jr ja jb hjr hja hjb (by omega) (by omega) (by omega) ho hn4 os
 ·exact qo0 b off len cap k g G rc oa os.length oc 0 rs B w hl hb hI o1 h4 hk jr ja jb hjr hja hjb (by omega) (by omega) (by omega) ho hn4 os
theorem qox (b off len cap k:Nat) (g:Nat->I5) (ra oa:Option Addr) (rc oc:Nat) (rs os:List Int) (w:World) (hl:(len:Int)<=30) (hb:b<w.heap.size) (hI:qan w b off len g) (h4:rs.length=4) (ho:os.length<=60) (h1:Sl w ra rs) (h2:Sl w oa os) (hk:k<len) (hp:qad g len 4=true) (np:Int) (HN:Hid (evK (g k).o=1/\evP (g k).o (g k).n=np/\evW (g k).o (g k).a rs=0)) (HL:Hid (allN rs=true/\(g k).o≠6/\(g k).o≠7/\(g k).o≠8)):
  Calls Tryz.prog 107 #[.slice (some ⟨b,off,none⟩) len cap,stV k ra rs.length rc oa os.length oc 0,evV 1 np 0] w fun e w'=>∃ v,e=.returned (.tuple #[v,.bool true])/\qaf w' w.heap.size v (qae len (g k) k rs os 0 0).p (qae len (g k) k rs os 0 0).rs (qae len (g k) k rs os 0 0).os (qae len (g k) k rs os 0 0).c/\Below w.heap.size w w':=by
 have HI:Hid (qan w b off len g):=hI
 have H1:Hid (Sl w ra rs):=h1
 have H2:Hid (Sl w oa os):=h2
 have H4:Hid (rs.length=4):=h4
 have HP:Hid (qad g len 4=true):=hp
 have hk':(k:Int)<(len:Int):=by omega
 clear hI h1 h2 h4 hp
 go_enter Tryz.func107,Tryz.ntmps107
 go_wp2_with fail
 refine (qbg _ _ _ _ k g _ _ _ _ _ _ rs _ (by unfold maxLen;omega) (by simp;omega) (HI.out.below (by go_grown) hb) (H1.out.below (by go_grown)) H4.out hk HP.out).mono ?_
 rintro e w1 ⟨he1,b1⟩
 rw [HN.out.1,HN.out.2.1,HN.out.2.2] at he1
 subst he1
 have B1:Hid (Below w.heap.size w (w1.alloc (oQ0 1 np 0))):=(qah (by go_grown) b1 (by simp;omega)).alloc (by have:=b1.size;simp at this;omega) _
 have X1:Hid (qa3 (w1.alloc (oQ0 1 np 0)) w.heap.size (.int .i64 k) (.slice ra rs.length rc) (.slice oa os.length oc) (.int .i64 0) 1 np 0):=((qa3.new w _ _ _ _ _ _ _ _ _ _).below b1).below (zT w1 _)
 clear b1
 obtain ⟨p0,p1,p2,p3,-,-,-,-,-,-,-,-⟩:=X1.out
 go_wp2_with fail
 clear p0 p1 p2 p3
 have V1:Hid (EvC3 (w1.alloc (oQ0 1 np 0)) w1.heap.size 1 np 0):=EvC3.new w1 _ _ _ _
 generalize w1.alloc (oQ0 1 np 0)=W1 at *
 refine (qbx _ _ _ _ _ _ rs os _ (by have:=H4.out;omega) (by omega) (H1.out.below B1.out) (H2.out.below B1.out)).mono ?_
 rintro e w2 ⟨v2,rfl,o2,b2⟩
 obtain ⟨ra2,rc2,oa2,oc2,rfl,-,-⟩:=o2.read
 have bA:=zT w2 (oQ1 k ra2 rs.length rc2 oa2 os.length oc2 0)
 have q2:Below W1.heap.size W1 (w2.alloc (oQ1 k ra2 rs.length rc2 oa2 os.length oc2 0)):=b2.trans (bA.mono b2.size)
 have X2:Hid (qa3 (w2.alloc (oQ1 k ra2 rs.length rc2 oa2 os.length oc2 0)) w.heap.size (.int .i64 k) (.slice ra rs.length rc) (.slice oa os.length oc) (.int .i64 0) 1 np 0):=X1.out.below q2
 have V2:Hid (EvC3 (w2.alloc (oQ1 k ra2 rs.length rc2 oa2 os.length oc2 0)) w1.heap.size 1 np 0):=V1.out.below q2
 have Y2:Hid (BoxC (w2.alloc (oQ1 k ra2 rs.length rc2 oa2 os.length oc2 0)) w2.heap.size (.int .i64 k) (.slice ra2 rs.length rc2) (.slice oa2 os.length oc2) (.int .i64 0)):=BoxC.new w2 _ _ _ _ _
 have F2:Hid (∀ j,(w2.alloc (oQ1 k ra2 rs.length rc2 oa2 os.length oc2 0)).frozen? ⟨w2.heap.size,j,none⟩=false):=fun j=>by simp
 have O2:Hid (qaf (w2.alloc (oQ1 k ra2 rs.length rc2 oa2 os.length oc2 0)) W1.heap.size (stV k ra2 rs.length rc2 oa2 os.length oc2 0) k rs os 0):=o2.below bA
 have L2:Hid (∀ j,qak (stV k ra2 rs.length rc2 oa2 os.length oc2 0) j->W1.heap.size<=j/\j<w2.heap.size):=fun j hj=>o2.lt hj
 have B2:Hid (Below w.heap.size w (w2.alloc (oQ1 k ra2 rs.length rc2 oa2 os.length oc2 0))):=B1.out.trans (q2.mono B1.out.size)
 have zw:w.heap.size+1+1<W1.heap.size:=X1.out.lt
 have zv:w1.heap.size<W1.heap.size:=zJ W1 _ V1.out.1
 have z2:W1.heap.size<=w2.heap.size:=b2.size
 clear b2 o2 bA q2 X1 V1 B1
 obtain ⟨p0,p1,p2,p3,e0,e1,e2,r0,r1,r2,r3,rf⟩:=X2.out
 obtain ⟨u0,u1,u2⟩:=V2.out
 obtain ⟨t0,t1,t2,t3⟩:=Y2.out
 have tf:=F2.out
 go_wp2_with fail
 clear p0 p1 p2 p3 e0 e1 e2 r0 r1 r2 r3 rf u0 u1 u2 t0 t1 t2 t3 tf
 generalize w2.alloc (oQ1 k ra2 rs.length rc2 oa2 os.length oc2 0)=W2 at *
 refine (qmo b off len cap k g ra2 oa2 rc2 oc2 rs os W1.heap.size 0 W2 hl (by have:=B2.out.size;omega) (HI.out.below B2.out hb) H4.out O2.out hk HP.out HL.out.1 HL.out.2).mono ?_
 rintro e w3 ⟨u,⟨q3,c3,hu⟩,rfl,o3,m3⟩
 rw [hu]
 rw [hu] at o3
 have X3:Hid (qa3 w3 w.heap.size (.int .i64 k) (.slice ra rs.length rc) (.slice oa os.length oc) (.int .i64 0) 1 np 0):=X2.out.marked m3 fun j hj=>by have:=L2.out j hj;omega
 have O3:Hid (qaf w3 W1.heap.size (stV q3 ra2 rs.length rc2 oa2 os.length oc2 c3) (qae len (g k) k rs os 0 0).p (qae len (g k) k rs os 0 0).rs (qae len (g k) k rs os 0 0).os (qae len (g k) k rs os 0 0).c):=o3
 have B3:Hid (Below w.heap.size w w3):=B2.out.trans (m3.below B2.out.size fun j hj=>by have:=L2.out j hj;omega)
 clear o3 m3 X2 V2 Y2 F2 O2 B2 hu u
 obtain ⟨-,-,-,-,-,-,-,r0,r1,r2,r3,rf⟩:=X3.out
 go_wp2
 refine bodyPost_ret (v:=.tuple #[stV q3 ra2 rs.length rc2 oa2 os.length oc2 c3,.bool true]) (by simp [results,Tryz.results107,go_sem,r0,r1,r2,r3]) rfl ⟨_,rfl,?_,?_⟩
 ·exact qaf.put4 (B':=W1.heap.size) O3.out zw (by omega)
 ·have:=B3.out
  go_grown
theorem qi4 (b off len cap k:Nat) (g:Nat->I5) (ra oa:Option Addr) (rc oc:Nat) (rs os:List Int) (eq ev:Int) (w:World) (hl:(len:Int)<=30) (hb:b<w.heap.size) (hI:qan w b off len g) (h4:rs.length=4) (ho:os.length<=60) (h1:Sl w ra rs) (h2:Sl w oa os) (hk:k<len) (hp:qad g len 4=true) (np nv:Int) (HN:Hid (evK (g k).o=3/\evP (g k).o (g k).n=np/\evW (g k).o (g k).a rs=nv)) (H7:Hid ((g k).o=7)) (q2:inB ev (-1000000000) 1000000000=true) (q3:(np != 9)=false) (q5:inB eq 0 3=true):
  Calls Tryz.prog 107 #[.slice (some ⟨b,off,none⟩) len cap,stV k ra rs.length rc oa os.length oc 0,evV 3 eq ev] w fun e w'=>∃ v,e=.returned (.tuple #[v,.bool true])/\qaf w' w.heap.size v (qae len (g k) k rs os 0 ev).p (qae len (g k) k rs os 0 ev).rs (qae len (g k) k rs os 0 ev).os (qae len (g k) k rs os 0 ev).c/\Below w.heap.size w w':=by
 have HI:Hid (qan w b off len g):=hI
 have H1:Hid (Sl w ra rs):=h1
 have H2:Hid (Sl w oa os):=h2
 have H4:Hid (rs.length=4):=h4
 have HP:Hid (qad g len 4=true):=hp
 have hk':(k:Int)<(len:Int):=by omega
 clear hI h1 h2 h4 hp
 go_enter Tryz.func107,Tryz.ntmps107
 go_wp2_with fail
 refine (qbg _ _ _ _ k g _ _ _ _ _ _ rs _ (by unfold maxLen;omega) (by simp;omega) (HI.out.below (by go_grown) hb) (H1.out.below (by go_grown)) H4.out hk HP.out).mono ?_
 rintro e w1 ⟨he1,b1⟩
 rw [HN.out.1,HN.out.2.1,HN.out.2.2] at he1
 subst he1
 have B1:Hid (Below w.heap.size w (w1.alloc (oQ0 3 np nv))):=(qah (by go_grown) b1 (by simp;omega)).alloc (by have:=b1.size;simp at this;omega) _
 have X1:Hid (qa3 (w1.alloc (oQ0 3 np nv)) w.heap.size (.int .i64 k) (.slice ra rs.length rc) (.slice oa os.length oc) (.int .i64 0) 3 eq ev):=((qa3.new w _ _ _ _ _ _ _ _ _ _).below b1).below (zT w1 _)
 clear b1
 obtain ⟨p0,p1,p2,p3,-,-,-,-,-,-,-,-⟩:=X1.out
 go_wp2_with fail
 clear p0 p1 p2 p3
 have V1:Hid (EvC3 (w1.alloc (oQ0 3 np nv)) w1.heap.size 3 np nv):=EvC3.new w1 _ _ _ _
 generalize w1.alloc (oQ0 3 np nv)=W1 at *
 refine (qbx _ _ _ _ _ _ rs os _ (by have:=H4.out;omega) (by omega) (H1.out.below B1.out) (H2.out.below B1.out)).mono ?_
 rintro e w2 ⟨v2,rfl,o2,b2⟩
 obtain ⟨ra2,rc2,oa2,oc2,rfl,-,-⟩:=o2.read
 have bA:=zT w2 (oQ1 k ra2 rs.length rc2 oa2 os.length oc2 0)
 have q2:Below W1.heap.size W1 (w2.alloc (oQ1 k ra2 rs.length rc2 oa2 os.length oc2 0)):=b2.trans (bA.mono b2.size)
 have X2:Hid (qa3 (w2.alloc (oQ1 k ra2 rs.length rc2 oa2 os.length oc2 0)) w.heap.size (.int .i64 k) (.slice ra rs.length rc) (.slice oa os.length oc) (.int .i64 0) 3 eq ev):=X1.out.below q2
 have V2:Hid (EvC3 (w2.alloc (oQ1 k ra2 rs.length rc2 oa2 os.length oc2 0)) w1.heap.size 3 np nv):=V1.out.below q2
 have Y2:Hid (BoxC (w2.alloc (oQ1 k ra2 rs.length rc2 oa2 os.length oc2 0)) w2.heap.size (.int .i64 k) (.slice ra2 rs.length rc2) (.slice oa2 os.length oc2) (.int .i64 0)):=BoxC.new w2 _ _ _ _ _
 have F2:Hid (∀ j,(w2.alloc (oQ1 k ra2 rs.length rc2 oa2 os.length oc2 0)).frozen? ⟨w2.heap.size,j,none⟩=false):=fun j=>by simp
 have O2:Hid (qaf (w2.alloc (oQ1 k ra2 rs.length rc2 oa2 os.length oc2 0)) W1.heap.size (stV k ra2 rs.length rc2 oa2 os.length oc2 0) k rs os 0):=o2.below bA
 have L2:Hid (∀ j,qak (stV k ra2 rs.length rc2 oa2 os.length oc2 0) j->W1.heap.size<=j/\j<w2.heap.size):=fun j hj=>o2.lt hj
 have B2:Hid (Below w.heap.size w (w2.alloc (oQ1 k ra2 rs.length rc2 oa2 os.length oc2 0))):=B1.out.trans (q2.mono B1.out.size)
 have zw:w.heap.size+1+1<W1.heap.size:=X1.out.lt
 have zv:w1.heap.size<W1.heap.size:=zJ W1 _ V1.out.1
 have z2:W1.heap.size<=w2.heap.size:=b2.size
 clear b2 o2 bA q2 X1 V1 B1
 obtain ⟨p0,p1,p2,p3,e0,e1,e2,r0,r1,r2,r3,rf⟩:=X2.out
 obtain ⟨u0,u1,u2⟩:=V2.out
 obtain ⟨t0,t1,t2,t3⟩:=Y2.out
 have tf:=F2.out
 go_wp2_with (first|(go_at_call 170;refine (l1Num_any _ _).mono ?_;rintro e w' ⟨rfl,rfl⟩)|(go_at_call 41;refine (l1In_any _ _ _ _).mono ?_;rintro e w' ⟨rfl,rfl⟩))
 generalize w2.alloc (oQ1 k ra2 rs.length rc2 oa2 os.length oc2 0)=W2 at *
 obtain ⟨o1,o2,ha⟩:=O2.out.parts
 obtain ⟨G,rfl,_,hG1,hG2⟩:=qjb o1 (by have:=H4.out;omega)
 have hGw:W1.heap.size<=G/\G<w2.heap.size:=L2.out G ((qas _ _ _ _ _).2 (.inl rfl))
 obtain ⟨⟨q1',q11⟩,⟨r0',r3'⟩,-,-⟩:=qcd (qbs HP.out hk)
 obtain ⟨jr,hjr⟩:=Int.eq_ofNat_of_zero_le r0'
 obtain ⟨c0,c1,c2,c3,c4⟩:=HI.out.below B2.out hb k hk
 rw [hjr] at c1
 have hj4:jr<rs.length:=by have:=H4.out;omega
 have hj4':(jr:Int)<(rs.length:Int):=by omega
 have cg:W2.cell? ⟨G,jr,none⟩=some (.int .i64 (zi rs jr)):=o1.cell hj4
 have fg:W2.frozen? ⟨G,jr,none⟩=false:=o1.frozen jr
 have HD:Hid (qae len (g k) k rs os 0 ev=goS len k (rs.set jr ev) os 0):=by
  show qae len (g k) k rs os 0 ev=goS len k (rs.set jr ev) os 0
  unfold qae
  rw [H7.out,if_neg (by decide),if_pos rfl,hjr,Int.toNat_natCast]
 have zG:w.heap.size<G/\w.heap.size+1<G/\w.heap.size+1+1<G/\G≠w2.heap.size:=by omega
 have zb:b≠G:=by have:=B2.out;omega
 clear o1 o2 ha c0 c2 c3 c4 hjr q1' q11 r0' r3'
 go_region
 have m3:qbf (stV k (some ⟨G,0,none⟩) rs.length rc2 oa2 os.length oc2 0) W2 (W2.setCell ⟨G,jr,none⟩ (.int .i64 ev)).drew:=qbf.of_row (row:=some G) (qnm (zV (p:=⟨G,jr,none⟩) (World.grownBy.refl W2 (some G)) (.inl rfl) _)) fun j hj=>(qas _ _ _ _ _).2 (.inl (by cases hj;rfl))
 have O3:Hid (qaf (W2.setCell ⟨G,jr,none⟩ (.int .i64 ev)).drew W1.heap.size (stV k (some ⟨G,0,none⟩) rs.length rc2 oa2 os.length oc2 0) k (rs.set jr ev) os 0):=by
  obtain ⟨o1,o2,ha⟩:=O2.out.parts
  exact ⟨_,_,rfl,(o1.set rfl jr ev).1,o2.setOther (fun e=>ha G rfl e) _,ha⟩
 have X3:Hid (qa3 (W2.setCell ⟨G,jr,none⟩ (.int .i64 ev)).drew w.heap.size (.int .i64 k) (.slice ra rs.length rc) (.slice oa os.length oc) (.int .i64 0) 3 eq ev):=X2.out.marked m3 fun j hj=>by have:=L2.out j hj;omega
 have Y3:Hid (BoxC (W2.setCell ⟨G,jr,none⟩ (.int .i64 ev)).drew w2.heap.size (.int .i64 k) (.slice (some ⟨G,0,none⟩) rs.length rc2) (.slice oa2 os.length oc2) (.int .i64 0)):=Y2.out.marked m3 fun hh=>by have:=L2.out _ hh;omega
 have B3:Hid (Below w.heap.size w (W2.setCell ⟨G,jr,none⟩ (.int .i64 ev)).drew):=B2.out.trans (m3.below B2.out.size fun j hj=>by have:=L2.out j hj;omega)
 clear p0 p1 p2 p3 e0 e1 e2 r0 r1 r2 r3 rf u0 u1 u2 t0 t1 t2 t3 tf m3 X2 V2 Y2 F2 O2 B2 cg fg c1
 obtain ⟨t0,t1,t2,t3⟩:=Y3.out
 go_wp2_with fail
 clear t0 t1 t2 t3
 generalize (W2.setCell ⟨G,jr,none⟩ (.int .i64 ev)).drew=W3 at *
 refine (qce _ _ _ _ _ _ _ _ _ _ _ _ (by omega) (by omega)).mono ?_
 rintro e w4 ⟨rfl,b4⟩
 have X4:Hid (qa3 w4 w.heap.size (.int .i64 k) (.slice ra rs.length rc) (.slice oa os.length oc) (.int .i64 0) 3 eq ev):=X3.out.below b4
 have O4:Hid (qaf w4 W1.heap.size (stV k (some ⟨G,0,none⟩) rs.length rc2 oa2 os.length oc2 0) k (rs.set jr ev) os 0):=O3.out.below b4
 have B4:Hid (Below w.heap.size w w4):=B3.out.trans (b4.mono B3.out.size)
 clear b4 X3 Y3 O3 B3
 obtain ⟨-,-,-,-,-,-,-,r0,r1,r2,r3,rf⟩:=X4.out
 go_wp2
 refine bodyPost_ret (v:=.tuple #[stV (goP len k) (some ⟨G,0,none⟩) rs.length rc2 oa2 os.length oc2 (goC len k 0),.bool true]) (by simp [results,Tryz.results107,go_sem,r0,r1,r2,r3]) rfl ⟨_,rfl,?_,?_⟩
 ·rw [HD.out]
  exact qaf.put4 (B':=W1.heap.size) ((O4.out.replace _).recode _) zw (by omega)
 ·have:=B4.out
  go_grown
theorem qi5 (b off len cap k:Nat) (g:Nat->I5) (ra oa:Option Addr) (rc oc:Nat) (rs os:List Int) (eq ev:Int) (w:World) (hl:(len:Int)<=30) (hb:b<w.heap.size) (hI:qan w b off len g) (h4:rs.length=4) (ho:os.length<=60) (h1:Sl w ra rs) (h2:Sl w oa os) (hk:k<len) (hp:qad g len 4=true) (np nv:Int) (HN:Hid (evK (g k).o=3/\evP (g k).o (g k).n=np/\evW (g k).o (g k).a rs=nv)) (H7:Hid ((g k).o=7)) (q2:inB ev (-1000000000) 1000000000=true) (q3:(np != 9)=true) (q4:(eq != np)=false) (q5:inB eq 0 3=true):
  Calls Tryz.prog 107 #[.slice (some ⟨b,off,none⟩) len cap,stV k ra rs.length rc oa os.length oc 0,evV 3 eq ev] w fun e w'=>∃ v,e=.returned (.tuple #[v,.bool true])/\qaf w' w.heap.size v (qae len (g k) k rs os 0 ev).p (qae len (g k) k rs os 0 ev).rs (qae len (g k) k rs os 0 ev).os (qae len (g k) k rs os 0 ev).c/\Below w.heap.size w w':=by
 have HI:Hid (qan w b off len g):=hI
 have H1:Hid (Sl w ra rs):=h1
 have H2:Hid (Sl w oa os):=h2
 have H4:Hid (rs.length=4):=h4
 have HP:Hid (qad g len 4=true):=hp
 have hk':(k:Int)<(len:Int):=by omega
 clear hI h1 h2 h4 hp
 go_enter Tryz.func107,Tryz.ntmps107
 go_wp2_with fail
 refine (qbg _ _ _ _ k g _ _ _ _ _ _ rs _ (by unfold maxLen;omega) (by simp;omega) (HI.out.below (by go_grown) hb) (H1.out.below (by go_grown)) H4.out hk HP.out).mono ?_
 rintro e w1 ⟨he1,b1⟩
 rw [HN.out.1,HN.out.2.1,HN.out.2.2] at he1
 subst he1
 have B1:Hid (Below w.heap.size w (w1.alloc (oQ0 3 np nv))):=(qah (by go_grown) b1 (by simp;omega)).alloc (by have:=b1.size;simp at this;omega) _
 have X1:Hid (qa3 (w1.alloc (oQ0 3 np nv)) w.heap.size (.int .i64 k) (.slice ra rs.length rc) (.slice oa os.length oc) (.int .i64 0) 3 eq ev):=((qa3.new w _ _ _ _ _ _ _ _ _ _).below b1).below (zT w1 _)
 clear b1
 obtain ⟨p0,p1,p2,p3,-,-,-,-,-,-,-,-⟩:=X1.out
 go_wp2_with fail
 clear p0 p1 p2 p3
 have V1:Hid (EvC3 (w1.alloc (oQ0 3 np nv)) w1.heap.size 3 np nv):=EvC3.new w1 _ _ _ _
 generalize w1.alloc (oQ0 3 np nv)=W1 at *
 refine (qbx _ _ _ _ _ _ rs os _ (by have:=H4.out;omega) (by omega) (H1.out.below B1.out) (H2.out.below B1.out)).mono ?_
 rintro e w2 ⟨v2,rfl,o2,b2⟩
 obtain ⟨ra2,rc2,oa2,oc2,rfl,-,-⟩:=o2.read
 have bA:=zT w2 (oQ1 k ra2 rs.length rc2 oa2 os.length oc2 0)
 have q2:Below W1.heap.size W1 (w2.alloc (oQ1 k ra2 rs.length rc2 oa2 os.length oc2 0)):=b2.trans (bA.mono b2.size)
 have X2:Hid (qa3 (w2.alloc (oQ1 k ra2 rs.length rc2 oa2 os.length oc2 0)) w.heap.size (.int .i64 k) (.slice ra rs.length rc) (.slice oa os.length oc) (.int .i64 0) 3 eq ev):=X1.out.below q2
 have V2:Hid (EvC3 (w2.alloc (oQ1 k ra2 rs.length rc2 oa2 os.length oc2 0)) w1.heap.size 3 np nv):=V1.out.below q2
 have Y2:Hid (BoxC (w2.alloc (oQ1 k ra2 rs.length rc2 oa2 os.length oc2 0)) w2.heap.size (.int .i64 k) (.slice ra2 rs.length rc2) (.slice oa2 os.length oc2) (.int .i64 0)):=BoxC.new w2 _ _ _ _ _
 have F2:Hid (∀ j,(w2.alloc (oQ1 k ra2 rs.length rc2 oa2 os.length oc2 0)).frozen? ⟨w2.heap.size,j,none⟩=false):=fun j=>by simp
 have O2:Hid (qaf (w2.alloc (oQ1 k ra2 rs.length rc2 oa2 os.length oc2 0)) W1.heap.size (stV k ra2 rs.length rc2 oa2 os.length oc2 0) k rs os 0):=o2.below bA
 have L2:Hid (∀ j,qak (stV k ra2 rs.length rc2 oa2 os.length oc2 0) j->W1.heap.size<=j/\j<w2.heap.size):=fun j hj=>o2.lt hj
 have B2:Hid (Below w.heap.size w (w2.alloc (oQ1 k ra2 rs.length rc2 oa2 os.length oc2 0))):=B1.out.trans (q2.mono B1.out.size)
 have zw:w.heap.size+1+1<W1.heap.size:=X1.out.lt
 have zv:w1.heap.size<W1.heap.size:=zJ W1 _ V1.out.1
 have z2:W1.heap.size<=w2.heap.size:=b2.size
 clear b2 o2 bA q2 X1 V1 B1
 obtain ⟨p0,p1,p2,p3,e0,e1,e2,r0,r1,r2,r3,rf⟩:=X2.out
 obtain ⟨u0,u1,u2⟩:=V2.out
 obtain ⟨t0,t1,t2,t3⟩:=Y2.out
 have tf:=F2.out
 go_wp2_with (first|(go_at_call 170;refine (l1Num_any _ _).mono ?_;rintro e w' ⟨rfl,rfl⟩)|(go_at_call 41;refine (l1In_any _ _ _ _).mono ?_;rintro e w' ⟨rfl,rfl⟩))
 generalize w2.alloc (oQ1 k ra2 rs.length rc2 oa2 os.length oc2 0)=W2 at *
 obtain ⟨o1,o2,ha⟩:=O2.out.parts
 obtain ⟨G,rfl,_,hG1,hG2⟩:=qjb o1 (by have:=H4.out;omega)
 have hGw:W1.heap.size<=G/\G<w2.heap.size:=L2.out G ((qas _ _ _ _ _).2 (.inl rfl))
 obtain ⟨⟨q1',q11⟩,⟨r0',r3'⟩,-,-⟩:=qcd (qbs HP.out hk)
 obtain ⟨jr,hjr⟩:=Int.eq_ofNat_of_zero_le r0'
 obtain ⟨c0,c1,c2,c3,c4⟩:=HI.out.below B2.out hb k hk
 rw [hjr] at c1
 have hj4:jr<rs.length:=by have:=H4.out;omega
 have hj4':(jr:Int)<(rs.length:Int):=by omega
 have cg:W2.cell? ⟨G,jr,none⟩=some (.int .i64 (zi rs jr)):=o1.cell hj4
 have fg:W2.frozen? ⟨G,jr,none⟩=false:=o1.frozen jr
 have HD:Hid (qae len (g k) k rs os 0 ev=goS len k (rs.set jr ev) os 0):=by
  show qae len (g k) k rs os 0 ev=goS len k (rs.set jr ev) os 0
  unfold qae
  rw [H7.out,if_neg (by decide),if_pos rfl,hjr,Int.toNat_natCast]
 have zG:w.heap.size<G/\w.heap.size+1<G/\w.heap.size+1+1<G/\G≠w2.heap.size:=by omega
 have zb:b≠G:=by have:=B2.out;omega
 clear o1 o2 ha c0 c2 c3 c4 hjr q1' q11 r0' r3'
 go_region
 have m3:qbf (stV k (some ⟨G,0,none⟩) rs.length rc2 oa2 os.length oc2 0) W2 (W2.setCell ⟨G,jr,none⟩ (.int .i64 ev)).drew:=qbf.of_row (row:=some G) (qnm (zV (p:=⟨G,jr,none⟩) (World.grownBy.refl W2 (some G)) (.inl rfl) _)) fun j hj=>(qas _ _ _ _ _).2 (.inl (by cases hj;rfl))
 have O3:Hid (qaf (W2.setCell ⟨G,jr,none⟩ (.int .i64 ev)).drew W1.heap.size (stV k (some ⟨G,0,none⟩) rs.length rc2 oa2 os.length oc2 0) k (rs.set jr ev) os 0):=by
  obtain ⟨o1,o2,ha⟩:=O2.out.parts
  exact ⟨_,_,rfl,(o1.set rfl jr ev).1,o2.setOther (fun e=>ha G rfl e) _,ha⟩
 have X3:Hid (qa3 (W2.setCell ⟨G,jr,none⟩ (.int .i64 ev)).drew w.heap.size (.int .i64 k) (.slice ra rs.length rc) (.slice oa os.length oc) (.int .i64 0) 3 eq ev):=X2.out.marked m3 fun j hj=>by have:=L2.out j hj;omega
 have Y3:Hid (BoxC (W2.setCell ⟨G,jr,none⟩ (.int .i64 ev)).drew w2.heap.size (.int .i64 k) (.slice (some ⟨G,0,none⟩) rs.length rc2) (.slice oa2 os.length oc2) (.int .i64 0)):=Y2.out.marked m3 fun hh=>by have:=L2.out _ hh;omega
 have B3:Hid (Below w.heap.size w (W2.setCell ⟨G,jr,none⟩ (.int .i64 ev)).drew):=B2.out.trans (m3.below B2.out.size fun j hj=>by have:=L2.out j hj;omega)
 clear p0 p1 p2 p3 e0 e1 e2 r0 r1 r2 r3 rf u0 u1 u2 t0 t1 t2 t3 tf m3 X2 V2 Y2 F2 O2 B2 cg fg c1
 obtain ⟨t0,t1,t2,t3⟩:=Y3.out
 go_wp2_with fail
 clear t0 t1 t2 t3
 generalize (W2.setCell ⟨G,jr,none⟩ (.int .i64 ev)).drew=W3 at *
 refine (qce _ _ _ _ _ _ _ _ _ _ _ _ (by omega) (by omega)).mono ?_
 rintro e w4 ⟨rfl,b4⟩
 have X4:Hid (qa3 w4 w.heap.size (.int .i64 k) (.slice ra rs.length rc) (.slice oa os.length oc) (.int .i64 0) 3 eq ev):=X3.out.below b4
 have O4:Hid (qaf w4 W1.heap.size (stV k (some ⟨G,0,none⟩) rs.length rc2 oa2 os.length oc2 0) k (rs.set jr ev) os 0):=O3.out.below b4
 have B4:Hid (Below w.heap.size w w4):=B3.out.trans (b4.mono B3.out.size)
 clear b4 X3 Y3 O3 B3
 obtain ⟨-,-,-,-,-,-,-,r0,r1,r2,r3,rf⟩:=X4.out
 go_wp2
 refine bodyPost_ret (v:=.tuple #[stV (goP len k) (some ⟨G,0,none⟩) rs.length rc2 oa2 os.length oc2 (goC len k 0),.bool true]) (by simp [results,Tryz.results107,go_sem,r0,r1,r2,r3]) rfl ⟨_,rfl,?_,?_⟩
 ·rw [HD.out]
  exact qaf.put4 (B':=W1.heap.size) ((O4.out.replace _).recode _) zw (by omega)
 ·have:=B4.out
  go_grown
theorem qoy (b off len cap k:Nat) (g:Nat->I5) (ra oa:Option Addr) (rc oc:Nat) (rs os:List Int) (w:World) (hl:(len:Int)<=30) (hb:b<w.heap.size) (hI:qan w b off len g) (h4:rs.length=4) (ho:os.length<=60) (h1:Sl w ra rs) (h2:Sl w oa os) (hk:k<len) (hp:qad g len 4=true) (np nv:Int) (HN:Hid (evK (g k).o=4/\evP (g k).o (g k).n=np/\evW (g k).o (g k).a rs=nv)) (H8:Hid ((g k).o=8/\os.length≠60)) (h60:((os.length:Int) == 60)=false):
  Calls Tryz.prog 107 #[.slice (some ⟨b,off,none⟩) len cap,stV k ra rs.length rc oa os.length oc 0,evV 4 np nv] w fun e w'=>∃ v,e=.returned (.tuple #[v,.bool true])/\qaf w' w.heap.size v (qae len (g k) k rs os 0 nv).p (qae len (g k) k rs os 0 nv).rs (qae len (g k) k rs os 0 nv).os (qae len (g k) k rs os 0 nv).c/\Below w.heap.size w w':=by
 have HI:Hid (qan w b off len g):=hI
 have H1:Hid (Sl w ra rs):=h1
 have H2:Hid (Sl w oa os):=h2
 have H4:Hid (rs.length=4):=h4
 have HP:Hid (qad g len 4=true):=hp
 have hk':(k:Int)<(len:Int):=by omega
 clear hI h1 h2 h4 hp
 go_enter Tryz.func107,Tryz.ntmps107
 go_wp2_with fail
 refine (qbg _ _ _ _ k g _ _ _ _ _ _ rs _ (by unfold maxLen;omega) (by simp;omega) (HI.out.below (by go_grown) hb) (H1.out.below (by go_grown)) H4.out hk HP.out).mono ?_
 rintro e w1 ⟨he1,b1⟩
 rw [HN.out.1,HN.out.2.1,HN.out.2.2] at he1
 subst he1
 have B1:Hid (Below w.heap.size w (w1.alloc (oQ0 4 np nv))):=(qah (by go_grown) b1 (by simp;omega)).alloc (by have:=b1.size;simp at this;omega) _
 have X1:Hid (qa3 (w1.alloc (oQ0 4 np nv)) w.heap.size (.int .i64 k) (.slice ra rs.length rc) (.slice oa os.length oc) (.int .i64 0) 4 np nv):=((qa3.new w _ _ _ _ _ _ _ _ _ _).below b1).below (zT w1 _)
 clear b1
 obtain ⟨p0,p1,p2,p3,-,-,-,-,-,-,-,-⟩:=X1.out
 go_wp2_with fail
 clear p0 p1 p2 p3
 have V1:Hid (EvC3 (w1.alloc (oQ0 4 np nv)) w1.heap.size 4 np nv):=EvC3.new w1 _ _ _ _
 generalize w1.alloc (oQ0 4 np nv)=W1 at *
 refine (qbx _ _ _ _ _ _ rs os _ (by have:=H4.out;omega) (by omega) (H1.out.below B1.out) (H2.out.below B1.out)).mono ?_
 rintro e w2 ⟨v2,rfl,o2,b2⟩
 obtain ⟨ra2,rc2,oa2,oc2,rfl,-,-⟩:=o2.read
 have bA:=zT w2 (oQ1 k ra2 rs.length rc2 oa2 os.length oc2 0)
 have q2:Below W1.heap.size W1 (w2.alloc (oQ1 k ra2 rs.length rc2 oa2 os.length oc2 0)):=b2.trans (bA.mono b2.size)
 have X2:Hid (qa3 (w2.alloc (oQ1 k ra2 rs.length rc2 oa2 os.length oc2 0)) w.heap.size (.int .i64 k) (.slice ra rs.length rc) (.slice oa os.length oc) (.int .i64 0) 4 np nv):=X1.out.below q2
 have V2:Hid (EvC3 (w2.alloc (oQ1 k ra2 rs.length rc2 oa2 os.length oc2 0)) w1.heap.size 4 np nv):=V1.out.below q2
 have Y2:Hid (BoxC (w2.alloc (oQ1 k ra2 rs.length rc2 oa2 os.length oc2 0)) w2.heap.size (.int .i64 k) (.slice ra2 rs.length rc2) (.slice oa2 os.length oc2) (.int .i64 0)):=BoxC.new w2 _ _ _ _ _
 have F2:Hid (∀ j,(w2.alloc (oQ1 k ra2 rs.length rc2 oa2 os.length oc2 0)).frozen? ⟨w2.heap.size,j,none⟩=false):=fun j=>by simp
 have O2:Hid (qaf (w2.alloc (oQ1 k ra2 rs.length rc2 oa2 os.length oc2 0)) W1.heap.size (stV k ra2 rs.length rc2 oa2 os.length oc2 0) k rs os 0):=o2.below bA
 have L2:Hid (∀ j,qak (stV k ra2 rs.length rc2 oa2 os.length oc2 0) j->W1.heap.size<=j/\j<w2.heap.size):=fun j hj=>o2.lt hj
 have B2:Hid (Below w.heap.size w (w2.alloc (oQ1 k ra2 rs.length rc2 oa2 os.length oc2 0))):=B1.out.trans (q2.mono B1.out.size)
 have zw:w.heap.size+1+1<W1.heap.size:=X1.out.lt
 have zv:w1.heap.size<W1.heap.size:=zJ W1 _ V1.out.1
 have z2:W1.heap.size<=w2.heap.size:=b2.size
 clear b2 o2 bA q2 X1 V1 B1
 obtain ⟨p0,p1,p2,p3,e0,e1,e2,r0,r1,r2,r3,rf⟩:=X2.out
 obtain ⟨u0,u1,u2⟩:=V2.out
 obtain ⟨t0,t1,t2,t3⟩:=Y2.out
 have tf:=F2.out
 go_wp2_with (at_builtin;refine qdh rfl ?_)
 unfold STOP
 have AS : Hid (Sl ((w2.alloc (oQ1 k ra2 rs.length rc2 oa2 os.length oc2 0)).alloc (.cells #[.int .i64 nv] 3)) (some ⟨w2.heap.size + 1, 0, none⟩) [nv]) := .inr ⟨w2.heap.size + 1, 0, rfl, by simp, fun i hi => by
  obtain rfl:i=0:=by simp at hi;omega
  exact zW _ _ _ 0 (by simp)⟩
 have bA:=zT (w2.alloc (oQ1 k ra2 rs.length rc2 oa2 os.length oc2 0)) (.cells #[.int .i64 nv] 3)
 clear p0 p1 p2 p3 e0 e1 e2 r0 r1 r2 r3 rf u0 u1 u2 t0 t1 t2 t3 tf
 have hsz:(w2.alloc (oQ1 k ra2 rs.length rc2 oa2 os.length oc2 0)).heap.size=w2.heap.size+1:=by simp
 have HZ:Hid ((w2.alloc (oQ1 k ra2 rs.length rc2 oa2 os.length oc2 0)).heap.size=w2.heap.size+1):=hsz
 clear hsz
 generalize w2.alloc (oQ1 k ra2 rs.length rc2 oa2 os.length oc2 0)=W2 at *
 obtain ⟨o1,o2,ha⟩:=O2.out.parts
 refine qbh _ rfl _ _ rfl W1.heap.size 1 (.slice oa2 os.length oc2) (some ⟨w2.heap.size+1,0,none⟩) os [nv] rfl rfl (o2.below bA) AS.out (by simp;omega) (by have:=HZ.out;simp;omega) ?_
 intro v3 w3 o3 g3 at3
 obtain ⟨oa3,oc3,hv3,-⟩:=o3.form
 rw [show (os ++ [nv]).length=os.length+1 by simp] at hv3
 subst hv3
 have m3:qbf (stV k ra2 rs.length rc2 oa2 os.length oc2 0) W2 w3:=(qbf.of_below bA).trans (qbf.of_row g3 fun j hj=>(qas _ _ _ _ _).2 (.inr hj))
 have o1':OwnI w3 W1.heap.size (.slice ra2 rs.length rc2) rs:=qqv (o1.below bA) g3 fun j h1 h2=>ha j h2 h1
 have lr:∀ j,(Value.slice ra2 rs.length rc2).ownBlock=some j->j<w2.heap.size:=fun j hj=>(L2.out j ((qas _ _ _ _ _).2 (.inl hj))).2
 have lo:∀ j,(Value.slice oa3 (os.length+1) oc3).ownBlock=some j->j<w2.heap.size\/w2.heap.size<j:=fun j hj=>by
  rcases at3 with h | h
  ·exact .inl (L2.out j ((qas _ _ _ _ _).2 (.inr (h.symm.trans hj)))).2
  ·rw [hj,World.size_alloc,HZ.out] at h
   exact .inr (by cases h;omega)
 have ha':∀ j,(Value.slice ra2 rs.length rc2).ownBlock=some j->(Value.slice oa3 (os.length+1) oc3).ownBlock≠some j:=fun j hj hj'=>by
  rcases at3 with h | h
  ·exact ha j hj (h.symm.trans hj')
  ·rw [hj',World.size_alloc,HZ.out] at h
   have:=lr j hj
   cases h
   omega
 have Y3:=Y2.out.marked m3 fun hh=>by have:=L2.out _ hh;omega
 have f3:∀ j,w3.frozen? ⟨w2.heap.size,j,none⟩=false:=fun j=>(m3.frozen (by have:=HZ.out;omega) (fun hh=>by have:=L2.out _ hh;omega) j).trans (F2.out j)
 have X3:Hid (qa3 w3 w.heap.size (.int .i64 k) (.slice ra rs.length rc) (.slice oa os.length oc) (.int .i64 0) 4 np nv):=X2.out.marked m3 fun j hj=>by have:=L2.out j hj;omega
 have X4:Hid (qa3 (w3.setCell ⟨w2.heap.size,2,none⟩ (.slice oa3 (os.length+1) oc3)) w.heap.size (.int .i64 k) (.slice ra rs.length rc) (.slice oa os.length oc) (.int .i64 0) 4 np nv):=X3.out.kept fun j _ hj=>zO _ _ _ _ (by simp;omega)
 have O4:Hid (qaf (w3.setCell ⟨w2.heap.size,2,none⟩ (.slice oa3 (os.length+1) oc3)) W1.heap.size (stV k ra2 rs.length rc2 oa3 (os.length+1) oc3 0) k rs (os ++ [nv]) 0):=⟨_,_,rfl,o1'.setOther (fun e=>by have:=lr _ e;simp at this) _,o3.setOther (fun e=>by have:=lo _ e;simp at this) _,ha'⟩
 have B4:Hid (Below w.heap.size w (w3.setCell ⟨w2.heap.size,2,none⟩ (.slice oa3 (os.length+1) oc3))):=(B2.out.trans (m3.below B2.out.size fun j hj=>by have:=L2.out j hj;omega)).setCell (by simp;omega) _
 clear o1 o2 ha o3 g3 at3 bA AS m3 o1' lr lo ha' X2 V2 Y2 F2 O2 B2 X3
 obtain ⟨t0,t1,t2,t3⟩:=Y3
 go_wp2_with fail
 clear t0 t1 t2 t3 f3
 generalize (w3.setCell ⟨w2.heap.size,2,none⟩ (.slice oa3 (os.length+1) oc3))=W4 at *
 refine (qce _ _ _ _ _ _ _ _ _ _ _ _ (by omega) (by omega)).mono ?_
 rintro e w5 ⟨rfl,b5⟩
 have X5:Hid (qa3 w5 w.heap.size (.int .i64 k) (.slice ra rs.length rc) (.slice oa os.length oc) (.int .i64 0) 4 np nv):=X4.out.below b5
 have O5:Hid (qaf w5 W1.heap.size (stV k ra2 rs.length rc2 oa3 (os.length+1) oc3 0) k rs (os ++ [nv]) 0):=O4.out.below b5
 have B5:Hid (Below w.heap.size w w5):=B4.out.trans (b5.mono B4.out.size)
 clear b5 X4 O4 B4
 obtain ⟨-,-,-,-,-,-,-,r0,r1,r2,r3,rf⟩:=X5.out
 go_wp2
 refine bodyPost_ret (v:=.tuple #[stV (goP len k) ra2 rs.length rc2 oa3 (os.length+1) oc3 (goC len k 0),.bool true]) (by simp [results,Tryz.results107,go_sem,r0,r1,r2,r3]) rfl ⟨_,rfl,?_,?_⟩
 ·have hd:qae len (g k) k rs os 0 nv=goS len k rs (os ++ [nv]) 0:=by
   unfold qae
   rw [H8.out.1,if_neg (by decide),if_neg (by decide),if_pos rfl,if_neg H8.out.2]
  rw [hd]
  exact qaf.put4 (B':=W1.heap.size) ((O5.out.replace _).recode _) zw (by omega)
 ·have:=B5.out
  go_grown
