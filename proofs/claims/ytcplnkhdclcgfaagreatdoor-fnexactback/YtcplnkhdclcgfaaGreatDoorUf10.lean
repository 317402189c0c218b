import Derived.Test.YtcplnkhdclcgfaaGreatDoorUf0
import Derived.Test.YtcplnkhdclcgfaaGreatDoorUf7
import Derived.Test.YtcplnkhdclcgfaaGreatDoorUf9
import Derived.Deep.RegionHeld3
import Derived.Test.YtcplnkhdclcgfaaGreatDoorUf8
namespace Go.Proofs.YtcplnkhdclcgfaaGreatDoor
set_option maxRecDepth 100000
set_option maxHeartbeats 4000000
open Go.RowKit
theorem zW (w:World) (cs:Array Value) (t:TypeId) (j:Nat) {N:Nat} (h:N=w.heap.size):(w.alloc (.cells cs t)).cell? ⟨N,j,none⟩=cs[j]?:=by
 subst h
 simp
theorem yD (w:World) (cs:Array Value) (t:TypeId) (j:Nat) {N:Nat} (h:N=w.heap.size):(w.alloc (.cells cs t)).frozen? ⟨N,j,none⟩=false:=by
 subst h
 simp
theorem StOwn.put4 {w:World} {B B' N:Nat} {v:Value} {p code:Int} {rs os:List Int} {a b c d:Value} (h:StOwn w B' v p rs os code) (hN:N<B') (hB:B<=B'):StOwn ((((w.setCell ⟨N,0,none⟩ a).setCell ⟨N,1,none⟩ b).setCell ⟨N,2,none⟩ c).setCell ⟨N,3,none⟩ d) B v p rs os code:=by
 obtain ⟨vr,vo,e,o1,o2,ha⟩:=h
 exact ⟨vr,vo,e,((((o1.setBelow hN _).setBelow hN _).setBelow hN _).setBelow hN _).mono hB,((((o2.setBelow hN _).setBelow hN _).setBelow hN _).setBelow hN _).mono hB,ha⟩
structure DoBox (w:World) (N:Nat) (p vr vo code:Value) (ek eq ev:Int):Prop where
 p0:w.cell? ⟨N,0,none⟩=some p
 p1:w.cell? ⟨N,1,none⟩=some vr
 p2:w.cell? ⟨N,2,none⟩=some vo
 p3:w.cell? ⟨N,3,none⟩=some code
 e0:w.cell? ⟨N+1,0,none⟩=some (.int .i64 ek)
 e1:w.cell? ⟨N+1,1,none⟩=some (.int .i64 eq)
 e2:w.cell? ⟨N+1,2,none⟩=some (.int .i64 ev)
 r0:w.cell? ⟨N+1+1,0,none⟩=some (.int .i64 0)
 r1:w.cell? ⟨N+1+1,1,none⟩=some (.slice none 0 0)
 r2:w.cell? ⟨N+1+1,2,none⟩=some (.slice none 0 0)
 r3:w.cell? ⟨N+1+1,3,none⟩=some (.int .i64 0)
 rf:∀ j,w.frozen? ⟨N+1+1,j,none⟩=false
theorem DoBox.lt {w:World} {N:Nat} {p vr vo code:Value} {ek eq ev:Int} (h:DoBox w N p vr vo code ek eq ev):N+1+1<w.heap.size:=zJ w _ h.r0
theorem DoBox.kept {w w':World} {N:Nat} {p vr vo code:Value} {ek eq ev:Int} (h:DoBox w N p vr vo code ek eq ev) (hb:∀ k,N<=k->k<=N+1+1->w'.heap[k]? = w.heap[k]?):DoBox w' N p vr vo code ek eq ev:=
 ⟨(World.cell?_of_block (hb N (by omega) (by omega))).trans h.p0, (World.cell?_of_block (hb N (by omega) (by omega))).trans h.p1, (World.cell?_of_block (hb N (by omega) (by omega))).trans h.p2, (World.cell?_of_block (hb N (by omega) (by omega))).trans h.p3,
  (zH (hb (N+1) (by omega) (by omega))).trans h.e0,(zH (hb (N+1) (by omega) (by omega))).trans h.e1,(zH (hb (N+1) (by omega) (by omega))).trans h.e2,
  (zH (hb (N+1+1) (by omega) (by omega))).trans h.r0,(zH (hb (N+1+1) (by omega) (by omega))).trans h.r1,(zH (hb (N+1+1) (by omega) (by omega))).trans h.r2,(zH (hb (N+1+1) (by omega) (by omega))).trans h.r3,
  fun j=>(zI (hb (N+1+1) (by omega) (by omega))).trans (h.rf j)⟩
theorem DoBox.below {w w':World} {N:Nat} {p vr vo code:Value} {ek eq ev:Int} (h:DoBox w N p vr vo code ek eq ev) (hb:Below w.heap.size w w'):DoBox w' N p vr vo code ek eq ev:=
 h.kept fun k _ hk=>hb.block k (by have:=h.lt;omega)
theorem DoBox.new (w:World) (p vr vo code:Value) (ek eq ev:Int) (t u v:TypeId):DoBox (((w.alloc (.cells #[p,vr,vo,code] t)).alloc (.cells #[.int .i64 ek,.int .i64 eq,.int .i64 ev] u)).alloc (.cells #[.int .i64 0,.slice none 0 0,.slice none 0 0,.int .i64 0] v)) w.heap.size p vr vo code ek eq ev:=by
 refine ⟨?_,?_,?_,?_,?_,?_,?_,?_,?_,?_,?_,?_⟩
 ·rw [zS _ _ (by simp;omega),zS _ _ (by simp)];exact zW w _ _ 0 rfl
 ·rw [zS _ _ (by simp;omega),zS _ _ (by simp)];exact zW w _ _ 1 rfl
 ·rw [zS _ _ (by simp;omega),zS _ _ (by simp)];exact zW w _ _ 2 rfl
 ·rw [zS _ _ (by simp;omega),zS _ _ (by simp)];exact zW w _ _ 3 rfl
 ·rw [zS _ _ (by simp)];exact zW _ _ _ 0 (by simp)
 ·rw [zS _ _ (by simp)];exact zW _ _ _ 1 (by simp)
 ·rw [zS _ _ (by simp)];exact zW _ _ _ 2 (by simp)
 ·exact zW _ _ _ 0 (by simp)
 ·exact zW _ _ _ 1 (by simp)
 ·exact zW _ _ _ 2 (by simp)
 ·exact zW _ _ _ 3 (by simp)
 ·exact fun j=>yD _ _ _ j (by simp)
def EvC3 (w:World) (N:Nat) (k p v:Int):Prop:=w.cell? ⟨N,0,none⟩=some (.int .i64 k)/\w.cell? ⟨N,1,none⟩=some (.int .i64 p)/\w.cell? ⟨N,2,none⟩=some (.int .i64 v)
theorem EvC3.below {w w':World} {N:Nat} {k p v:Int} (h:EvC3 w N k p v) (hb:Below w.heap.size w w'):EvC3 w' N k p v:=by
 obtain ⟨h0,h1,h2⟩:=h
 have hN:N<w.heap.size:=zJ w _ h0
 exact ⟨(hb.cell (p:=⟨N,0,none⟩) hN).trans h0,(hb.cell (p:=⟨N,1,none⟩) hN).trans h1,(hb.cell (p:=⟨N,2,none⟩) hN).trans h2⟩
theorem EvC3.new (w:World) (k p v:Int) (t:TypeId):EvC3 (w.alloc (.cells #[.int .i64 k,.int .i64 p,.int .i64 v] t)) w.heap.size k p v:=by
 unfold EvC3
 simp
theorem StOwn.recode {w:World} {B:Nat} {p code:Int} {ra oa:Option Addr} {rn rc on oc:Nat} {rs os:List Int} (h:StOwn w B (stV p ra rn rc oa on oc code) p rs os code) (c:Int):StOwn w B (stV p ra rn rc oa on oc c) p rs os c:=by
 obtain ⟨vr,vo,e,o1,o2,ha⟩:=h
 simp only [stV,Value.agg.injEq,Array.mk.injEq,List.cons.injEq,and_true,true_and] at e
 obtain ⟨rfl,rfl⟩:=e
 exact ⟨_,_,rfl,o1,o2,ha⟩
theorem StOwn.replace {w:World} {B:Nat} {p code:Int} {ra oa:Option Addr} {rn rc on oc:Nat} {rs os:List Int} (h:StOwn w B (stV p ra rn rc oa on oc code) p rs os code) (q:Int):StOwn w B (stV q ra rn rc oa on oc code) q rs os code:=by
 obtain ⟨vr,vo,e,o1,o2,ha⟩:=h
 simp only [stV,Value.agg.injEq,Array.mk.injEq,List.cons.injEq,and_true,true_and] at e
 obtain ⟨rfl,rfl⟩:=e
 exact ⟨_,_,rfl,o1,o2,ha⟩
theorem DoBox.marked {w w':World} {N:Nat} {p vr vo code v:Value} {ek eq ev:Int} (h:DoBox w N p vr vo code ek eq ev) (m:Marked v w w') (hv:∀ k,hasBlock v k->N+1+1<k):DoBox w' N p vr vo code ek eq ev:=
 h.kept fun k _ hk=>m.block k (by have:=h.lt;omega) (fun hh=>by have:=hv k hh;omega)
def evEqB (a b c a' b' c':Int):Bool:=a == a' && (b == b' && c == c')
theorem eql_ev (a b c a' b' c':Int) (w:World):(binOp .eql 71 (evV a b c) (evV a' b' c')).run Tryz.prog w=.ok (.bool (evEqB a b c a' b' c')) w:=by
 rw [run_eql_struct,show (10000:Nat)=9998+1+1 from rfl,run_equalIn_agg w (9998+1) 71 _ _ (by kernel_rfl) (by kernel_rfl)]
 simp only [evEqB]
 by_cases h1:a=a' <;> by_cases h2:b=b' <;> by_cases h3:c=c' <;> simp [go_sem,h1,h2,h3]
theorem neq_ev (a b c a' b' c':Int) (w:World):(binOp .neq 71 (evV a b c) (evV a' b' c')).run Tryz.prog w=.ok (.bool (!evEqB a b c a' b' c')) w:=by
 rw [run_neq_struct,show (10000:Nat)=9998+1+1 from rfl,run_equalIn_agg w (9998+1) 71 _ _ (by kernel_rfl) (by kernel_rfl)]
 simp only [evEqB]
 by_cases h1:a=a' <;> by_cases h2:b=b' <;> by_cases h3:c=c' <;> simp [go_sem,h1,h2,h3]
theorem l2Do_send (b off len cap k:Nat) (g:Nat->I5) (ra oa:Option Addr) (rc oc:Nat) (rs os:List Int) (w:World) (hl:(len:Int)<=30) (hb:b<w.heap.size) (hI:InsAt w b off len g) (h4:rs.length=4) (ho:os.length<=60) (h1:Sl w ra rs) (h2:Sl w oa os) (hk:k<len) (hp:progOkB g len 4=true) (np nv:Int) (HN:Hid (evK (g k).o=2/\evP (g k).o (g k).n=np/\evW (g k).o (g k).a rs=nv)) (H6:Hid ((g k).o=6)):
  Calls Tryz.prog 119 #[.slice (some ⟨b,off,none⟩) len cap,stV k ra rs.length rc oa os.length oc 0,evV 2 np nv] w fun e w'=>∃ v,e=.returned (.tuple #[v,.bool true])/\StOwn w' w.heap.size v (doneS len (g k) k rs os 0 nv).p (doneS len (g k) k rs os 0 nv).rs (doneS len (g k) k rs os 0 nv).os (doneS len (g k) k rs os 0 nv).c/\Below w.heap.size w w':=by
 have HI:Hid (InsAt w b off len g):=hI
 have H1:Hid (Sl w ra rs):=h1
 have H2:Hid (Sl w oa os):=h2
 have H4:Hid (rs.length=4):=h4
 have HP:Hid (progOkB g len 4=true):=hp
 have hk':(k:Int)<(len:Int):=by omega
 clear hI h1 h2 h4 hp
 go_enter Tryz.func119,Tryz.ntmps119
 go_wp2_with fail
 refine (l2Next_any _ _ _ _ k g _ _ _ _ _ _ rs _ (by unfold maxLen;omega) (by simp;omega) (HI.out.below (by go_grown) hb) (H1.out.below (by go_grown)) H4.out hk HP.out).mono ?_
 rintro e w1 ⟨he1,b1⟩
 rw [HN.out.1,HN.out.2.1,HN.out.2.2] at he1
 subst he1
 have B1:Hid (Below w.heap.size w (w1.alloc (oQ0 2 np nv))):=(below_up (by go_grown) b1 (by simp;omega)).alloc (by have:=b1.size;simp at this;omega) _
 have X1:Hid (DoBox (w1.alloc (oQ0 2 np nv)) w.heap.size (.int .i64 k) (.slice ra rs.length rc) (.slice oa os.length oc) (.int .i64 0) 2 np nv):=((DoBox.new w _ _ _ _ _ _ _ _ _ _).below b1).below (zT w1 _)
 clear b1
 obtain ⟨p0,p1,p2,p3,-,-,-,-,-,-,-,-⟩:=X1.out
 go_wp2_with fail
 clear p0 p1 p2 p3
 have V1:Hid (EvC3 (w1.alloc (oQ0 2 np nv)) w1.heap.size 2 np nv):=EvC3.new w1 _ _ _ _
 generalize w1.alloc (oQ0 2 np nv)=W1 at *
 refine (l2Copy_any _ _ _ _ _ _ rs os _ (by have:=H4.out;omega) (by omega) (H1.out.below B1.out) (H2.out.below B1.out)).mono ?_
 rintro e w2 ⟨v2,rfl,o2,b2⟩
 obtain ⟨ra2,rc2,oa2,oc2,rfl,-,-⟩:=o2.read
 have bA:=zT w2 (oQ1 k ra2 rs.length rc2 oa2 os.length oc2 0)
 have q2:Below W1.heap.size W1 (w2.alloc (oQ1 k ra2 rs.length rc2 oa2 os.length oc2 0)):=b2.trans (bA.mono b2.size)
 have X2:Hid (DoBox (w2.alloc (oQ1 k ra2 rs.length rc2 oa2 os.length oc2 0)) w.heap.size (.int .i64 k) (.slice ra rs.length rc) (.slice oa os.length oc) (.int .i64 0) 2 np nv):=X1.out.below q2
 have V2:Hid (EvC3 (w2.alloc (oQ1 k ra2 rs.length rc2 oa2 os.length oc2 0)) w1.heap.size 2 np nv):=V1.out.below q2
 have Y2:Hid (BoxC (w2.alloc (oQ1 k ra2 rs.length rc2 oa2 os.length oc2 0)) w2.heap.size (.int .i64 k) (.slice ra2 rs.length rc2) (.slice oa2 os.length oc2) (.int .i64 0)):=BoxC.new w2 _ _ _ _ _
 have F2:Hid (∀ j,(w2.alloc (oQ1 k ra2 rs.length rc2 oa2 os.length oc2 0)).frozen? ⟨w2.heap.size,j,none⟩=false):=fun j=>by simp
 have O2:Hid (StOwn (w2.alloc (oQ1 k ra2 rs.length rc2 oa2 os.length oc2 0)) W1.heap.size (stV k ra2 rs.length rc2 oa2 os.length oc2 0) k rs os 0):=o2.below bA
 have L2:Hid (∀ j,hasBlock (stV k ra2 rs.length rc2 oa2 os.length oc2 0) j->W1.heap.size<=j/\j<w2.heap.size):=fun j hj=>o2.lt hj
 have B2:Hid (Below w.heap.size w (w2.alloc (oQ1 k ra2 rs.length rc2 oa2 os.length oc2 0))):=B1.out.trans (q2.mono B1.out.size)
 have zw:w.heap.size+1+1<W1.heap.size:=X1.out.lt
 have zv:w1.heap.size<W1.heap.size:=zJ W1 _ V1.out.1
 have z2:W1.heap.size<=w2.heap.size:=b2.size
 clear b2 o2 bA q2 X1 V1 B1
 obtain ⟨p0,p1,p2,p3,e0,e1,e2,r0,r1,r2,r3,rf⟩:=X2.out
 obtain ⟨u0,u1,u2⟩:=V2.out
 obtain ⟨t0,t1,t2,t3⟩:=Y2.out
 have tf:=F2.out
 go_wp2_with fail
 clear p0 p1 p2 p3 e0 e1 e2 r0 r1 r2 r3 rf u0 u1 u2 t0 t1 t2 t3 tf
 generalize w2.alloc (oQ1 k ra2 rs.length rc2 oa2 os.length oc2 0)=W2 at *
 refine (l2Go_any _ _ _ _ _ _ _ _ _ _ _ _ (by omega) (by omega)).mono ?_
 rintro e w3 ⟨rfl,b3⟩
 have X3:Hid (DoBox w3 w.heap.size (.int .i64 k) (.slice ra rs.length rc) (.slice oa os.length oc) (.int .i64 0) 2 np nv):=X2.out.below b3
 have O3:Hid (StOwn w3 W1.heap.size (stV k ra2 rs.length rc2 oa2 os.length oc2 0) k rs os 0):=O2.out.below b3
 have B3:Hid (Below w.heap.size w w3):=B2.out.trans (b3.mono B2.out.size)
 clear b3 X2 V2 Y2 F2 O2 B2
 obtain ⟨-,-,-,-,-,-,-,r0,r1,r2,r3,rf⟩:=X3.out
 go_wp2
 refine bodyPost_ret (v:=.tuple #[stV (goP len k) ra2 rs.length rc2 oa2 os.length oc2 (goC len k 0),.bool true]) (by simp [results,Tryz.results119,go_sem,r0,r1,r2,r3]) rfl ⟨_,rfl,?_,?_⟩
 ·have hd:doneS len (g k) k rs os 0 nv=goS len k rs os 0:=by
   unfold doneS
   rw [H6.out,if_pos rfl]
  rw [hd]
  exact StOwn.put4 (B':=W1.heap.size) ((O3.out.replace _).recode _) zw (by omega)
 ·have:=B3.out
  go_grown
theorem l2Do_no (b off len cap k:Nat) (g:Nat->I5) (ra oa:Option Addr) (rc oc:Nat) (rs os:List Int) (ek eq ev:Int) (w:World) (hl:(len:Int)<=30) (hb:b<w.heap.size) (hI:InsAt w b off len g) (h4:rs.length=4) (ho:os.length<=60) (h1:Sl w ra rs) (h2:Sl w oa os) (hk:k<len) (hp:progOkB g len 4=true) (K np nv:Int) (hK:(K == 3)=false) (HN:Hid (evK (g k).o=K/\evP (g k).o (g k).n=np/\evW (g k).o (g k).a rs=nv)) (hE:evEqB ek eq ev K np nv=false):
  Calls Tryz.prog 119 #[.slice (some ⟨b,off,none⟩) len cap,stV k ra rs.length rc oa os.length oc 0,evV ek eq ev] w fun e w'=>∃ v,e=.returned (.tuple #[v,.bool false])/\StOwn w' w.heap.size v k rs os 0/\Below w.heap.size w w':=by
 have HI:Hid (InsAt w b off len g):=hI
 have H1:Hid (Sl w ra rs):=h1
 have H2:Hid (Sl w oa os):=h2
 have H4:Hid (rs.length=4):=h4
 have HP:Hid (progOkB g len 4=true):=hp
 have hk':(k:Int)<(len:Int):=by omega
 clear hI h1 h2 h4 hp
 go_enter Tryz.func119,Tryz.ntmps119
 go_wp2_with fail
 refine (l2Next_any _ _ _ _ k g _ _ _ _ _ _ rs _ (by unfold maxLen;omega) (by simp;omega) (HI.out.below (by go_grown) hb) (H1.out.below (by go_grown)) H4.out hk HP.out).mono ?_
 rintro e w1 ⟨he1,b1⟩
 rw [HN.out.1,HN.out.2.1,HN.out.2.2] at he1
 subst he1
 have B1:Hid (Below w.heap.size w (w1.alloc (oQ0 K np nv))):=(below_up (by go_grown) b1 (by simp;omega)).alloc (by have:=b1.size;simp at this;omega) _
 have X1:Hid (DoBox (w1.alloc (oQ0 K np nv)) w.heap.size (.int .i64 k) (.slice ra rs.length rc) (.slice oa os.length oc) (.int .i64 0) ek eq ev):=((DoBox.new w _ _ _ _ _ _ _ _ _ _).below b1).below (zT w1 _)
 clear b1
 obtain ⟨p0,p1,p2,p3,-,-,-,-,-,-,-,-⟩:=X1.out
 go_wp2_with fail
 clear p0 p1 p2 p3
 have V1:Hid (EvC3 (w1.alloc (oQ0 K np nv)) w1.heap.size K np nv):=EvC3.new w1 _ _ _ _
 generalize w1.alloc (oQ0 K np nv)=W1 at *
 refine (l2Copy_any _ _ _ _ _ _ rs os _ (by have:=H4.out;omega) (by omega) (H1.out.below B1.out) (H2.out.below B1.out)).mono ?_
 rintro e w2 ⟨v2,rfl,o2,b2⟩
 obtain ⟨ra2,rc2,oa2,oc2,rfl,-,-⟩:=o2.read
 have bA:=zT w2 (oQ1 k ra2 rs.length rc2 oa2 os.length oc2 0)
 have q2:Below W1.heap.size W1 (w2.alloc (oQ1 k ra2 rs.length rc2 oa2 os.length oc2 0)):=b2.trans (bA.mono b2.size)
 have X2:Hid (DoBox (w2.alloc (oQ1 k ra2 rs.length rc2 oa2 os.length oc2 0)) w.heap.size (.int .i64 k) (.slice ra rs.length rc) (.slice oa os.length oc) (.int .i64 0) ek eq ev):=X1.out.below q2
 have V2:Hid (EvC3 (w2.alloc (oQ1 k ra2 rs.length rc2 oa2 os.length oc2 0)) w1.heap.size K np nv):=V1.out.below q2
 have Y2:Hid (BoxC (w2.alloc (oQ1 k ra2 rs.length rc2 oa2 os.length oc2 0)) w2.heap.size (.int .i64 k) (.slice ra2 rs.length rc2) (.slice oa2 os.length oc2) (.int .i64 0)):=BoxC.new w2 _ _ _ _ _
 have F2:Hid (∀ j,(w2.alloc (oQ1 k ra2 rs.length rc2 oa2 os.length oc2 0)).frozen? ⟨w2.heap.size,j,none⟩=false):=fun j=>by simp
 have O2:Hid (StOwn (w2.alloc (oQ1 k ra2 rs.length rc2 oa2 os.length oc2 0)) W1.heap.size (stV k ra2 rs.length rc2 oa2 os.length oc2 0) k rs os 0):=o2.below bA
 have L2:Hid (∀ j,hasBlock (stV k ra2 rs.length rc2 oa2 os.length oc2 0) j->W1.heap.size<=j/\j<w2.heap.size):=fun j hj=>o2.lt hj
 have B2:Hid (Below w.heap.size w (w2.alloc (oQ1 k ra2 rs.length rc2 oa2 os.length oc2 0))):=B1.out.trans (q2.mono B1.out.size)
 have zw:w.heap.size+1+1<W1.heap.size:=X1.out.lt
 have zv:w1.heap.size<W1.heap.size:=zJ W1 _ V1.out.1
 have z2:W1.heap.size<=w2.heap.size:=b2.size
 clear b2 o2 bA q2 X1 V1 B1
 obtain ⟨p0,p1,p2,p3,e0,e1,e2,r0,r1,r2,r3,rf⟩:=X2.out
 obtain ⟨u0,u1,u2⟩:=V2.out
 obtain ⟨t0,t1,t2,t3⟩:=Y2.out
 have tf:=F2.out
 have hne:∀ wx,(binOp .neq 71 (evV ek eq ev) (evV K np nv)).run Tryz.prog wx=.ok (.bool true) wx:=fun wx=>by rw [neq_ev,hE];rfl
 clear hE
 go_wp2
 refine bodyPost_ret (v:=.tuple #[stV k ra2 rs.length rc2 oa2 os.length oc2 0,.bool false]) (by simp [results,Tryz.results119,go_sem,r0,r1,r2,r3]) rfl ⟨_,rfl,?_,?_⟩
 ·exact StOwn.put4 (B':=W1.heap.size) O2.out zw (by omega)
 ·have:=B2.out
  go_grown
theorem l2Do_full (b off len cap k:Nat) (g:Nat->I5) (ra oa:Option Addr) (rc oc:Nat) (rs os:List Int) (w:World) (hl:(len:Int)<=30) (hb:b<w.heap.size) (hI:InsAt w b off len g) (h4:rs.length=4) (ho:os.length<=60) (h1:Sl w ra rs) (h2:Sl w oa os) (hk:k<len) (hp:progOkB g len 4=true) (np nv:Int) (HN:Hid (evK (g k).o=4/\evP (g k).o (g k).n=np/\evW (g k).o (g k).a rs=nv)) (H8:Hid ((g k).o=8/\os.length=60)) (h60:((os.length:Int) == 60)=true):
  Calls Tryz.prog 119 #[.slice (some ⟨b,off,none⟩) len cap,stV k ra rs.length rc oa os.length oc 0,evV 4 np nv] w fun e w'=>∃ v,e=.returned (.tuple #[v,.bool true])/\StOwn w' w.heap.size v (doneS len (g k) k rs os 0 nv).p (doneS len (g k) k rs os 0 nv).rs (doneS len (g k) k rs os 0 nv).os (doneS len (g k) k rs os 0 nv).c/\Below w.heap.size w w':=by
 have HI:Hid (InsAt w b off len g):=hI
 have H1:Hid (Sl w ra rs):=h1
 have H2:Hid (Sl w oa os):=h2
 have H4:Hid (rs.length=4):=h4
 have HP:Hid (progOkB g len 4=true):=hp
 have hk':(k:Int)<(len:Int):=by omega
 clear hI h1 h2 h4 hp
 go_enter Tryz.func119,Tryz.ntmps119
 go_wp2_with fail
 refine (l2Next_any _ _ _ _ k g _ _ _ _ _ _ rs _ (by unfold maxLen;omega) (by simp;omega) (HI.out.below (by go_grown) hb) (H1.out.below (by go_grown)) H4.out hk HP.out).mono ?_
 rintro e w1 ⟨he1,b1⟩
 rw [HN.out.1,HN.out.2.1,HN.out.2.2] at he1
 subst he1
 have B1:Hid (Below w.heap.size w (w1.alloc (oQ0 4 np nv))):=(below_up (by go_grown) b1 (by simp;omega)).alloc (by have:=b1.size;simp at this;omega) _
 have X1:Hid (DoBox (w1.alloc (oQ0 4 np nv)) w.heap.size (.int .i64 k) (.slice ra rs.length rc) (.slice oa os.length oc) (.int .i64 0) 4 np nv):=((DoBox.new w _ _ _ _ _ _ _ _ _ _).below b1).below (zT w1 _)
 clear b1
 obtain ⟨p0,p1,p2,p3,-,-,-,-,-,-,-,-⟩:=X1.out
 go_wp2_with fail
 clear p0 p1 p2 p3
 have V1:Hid (EvC3 (w1.alloc (oQ0 4 np nv)) w1.heap.size 4 np nv):=EvC3.new w1 _ _ _ _
 generalize w1.alloc (oQ0 4 np nv)=W1 at *
 refine (l2Copy_any _ _ _ _ _ _ rs os _ (by have:=H4.out;omega) (by omega) (H1.out.below B1.out) (H2.out.below B1.out)).mono ?_
 rintro e w2 ⟨v2,rfl,o2,b2⟩
 obtain ⟨ra2,rc2,oa2,oc2,rfl,-,-⟩:=o2.read
 have bA:=zT w2 (oQ1 k ra2 rs.length rc2 oa2 os.length oc2 0)
 have q2:Below W1.heap.size W1 (w2.alloc (oQ1 k ra2 rs.length rc2 oa2 os.length oc2 0)):=b2.trans (bA.mono b2.size)
 have X2:Hid (DoBox (w2.alloc (oQ1 k ra2 rs.length rc2 oa2 os.length oc2 0)) w.heap.size (.int .i64 k) (.slice ra rs.length rc) (.slice oa os.length oc) (.int .i64 0) 4 np nv):=X1.out.below q2
 have V2:Hid (EvC3 (w2.alloc (oQ1 k ra2 rs.length rc2 oa2 os.length oc2 0)) w1.heap.size 4 np nv):=V1.out.below q2
 have Y2:Hid (BoxC (w2.alloc (oQ1 k ra2 rs.length rc2 oa2 os.length oc2 0)) w2.heap.size (.int .i64 k) (.slice ra2 rs.length rc2) (.slice oa2 os.length oc2) (.int .i64 0)):=BoxC.new w2 _ _ _ _ _
 have F2:Hid (∀ j,(w2.alloc (oQ1 k ra2 rs.length rc2 oa2 os.length oc2 0)).frozen? ⟨w2.heap.size,j,none⟩=false):=fun j=>by simp
 have O2:Hid (StOwn (w2.alloc (oQ1 k ra2 rs.length rc2 oa2 os.length oc2 0)) W1.heap.size (stV k ra2 rs.length rc2 oa2 os.length oc2 0) k rs os 0):=o2.below bA
 have L2:Hid (∀ j,hasBlock (stV k ra2 rs.length rc2 oa2 os.length oc2 0) j->W1.heap.size<=j/\j<w2.heap.size):=fun j hj=>o2.lt hj
 have B2:Hid (Below w.heap.size w (w2.alloc (oQ1 k ra2 rs.length rc2 oa2 os.length oc2 0))):=B1.out.trans (q2.mono B1.out.size)
 have zw:w.heap.size+1+1<W1.heap.size:=X1.out.lt
 have zv:w1.heap.size<W1.heap.size:=zJ W1 _ V1.out.1
 have z2:W1.heap.size<=w2.heap.size:=b2.size
 clear b2 o2 bA q2 X1 V1 B1
 obtain ⟨p0,p1,p2,p3,e0,e1,e2,r0,r1,r2,r3,rf⟩:=X2.out
 obtain ⟨u0,u1,u2⟩:=V2.out
 obtain ⟨t0,t1,t2,t3⟩:=Y2.out
 have tf:=F2.out
 go_wp2_with fail
 clear p0 p1 p2 p3 e0 e1 e2 r0 r1 r2 r3 rf u0 u1 u2 t0 t1 t2 t3 tf
 generalize w2.alloc (oQ1 k ra2 rs.length rc2 oa2 os.length oc2 0)=W2 at *
 refine (l2Fault_any _ _ _ _ _ _ _ _ _).mono ?_
 rintro e w3 ⟨rfl,b3⟩
 have X3:Hid (DoBox w3 w.heap.size (.int .i64 k) (.slice ra rs.length rc) (.slice oa os.length oc) (.int .i64 0) 4 np nv):=X2.out.below b3
 have O3:Hid (StOwn w3 W1.heap.size (stV k ra2 rs.length rc2 oa2 os.length oc2 0) k rs os 0):=O2.out.below b3
 have B3:Hid (Below w.heap.size w w3):=B2.out.trans (b3.mono B2.out.size)
 clear b3 X2 V2 Y2 F2 O2 B2
 obtain ⟨-,-,-,-,-,-,-,r0,r1,r2,r3,rf⟩:=X3.out
 go_wp2
 refine bodyPost_ret (v:=.tuple #[stV k ra2 rs.length rc2 oa2 os.length oc2 2,.bool true]) (by simp [results,Tryz.results119,go_sem,r0,r1,r2,r3]) rfl ⟨_,rfl,?_,?_⟩
 ·have hd:doneS len (g k) k rs os 0 nv=⟨k,rs,os,2⟩:=by
   unfold doneS
   rw [H8.out.1,if_neg (by decide),if_neg (by decide),if_pos rfl,if_pos H8.out.2]
  rw [hd]
  exact StOwn.put4 (B':=W1.heap.size) (O3.out.recode 2) zw (by omega)
 ·have:=B3.out
  go_grown
theorem l2Do_take_no (b off len cap k:Nat) (g:Nat->I5) (ra oa:Option Addr) (rc oc:Nat) (rs os:List Int) (ek eq ev:Int) (w:World) (hl:(len:Int)<=30) (hb:b<w.heap.size) (hI:InsAt w b off len g) (h4:rs.length=4) (ho:os.length<=60) (h1:Sl w ra rs) (h2:Sl w oa os) (hk:k<len) (hp:progOkB g len 4=true) (np nv:Int) (HN:Hid (evK (g k).o=3/\evP (g k).o (g k).n=np/\evW (g k).o (g k).a rs=nv)) (HQ:Hid ((ek != 3)=true\/((ek != 3)=false/\inB ev (-1000000000) 1000000000=false)\/((ek != 3)=false/\inB ev (-1000000000) 1000000000=true/\(np != 9)=true/\(eq != np)=true)\/((ek != 3)=false/\inB ev (-1000000000) 1000000000=true/\(np != 9)=false/\inB eq 0 3=false))):
  Calls Tryz.prog 119 #[.slice (some ⟨b,off,none⟩) len cap,stV k ra rs.length rc oa os.length oc 0,evV ek eq ev] w fun e w'=>∃ v,e=.returned (.tuple #[v,.bool false])/\StOwn w' w.heap.size v k rs os 0/\Below w.heap.size w w':=by
 have HI:Hid (InsAt w b off len g):=hI
 have H1:Hid (Sl w ra rs):=h1
 have H2:Hid (Sl w oa os):=h2
 have H4:Hid (rs.length=4):=h4
 have HP:Hid (progOkB g len 4=true):=hp
 have hk':(k:Int)<(len:Int):=by omega
 clear hI h1 h2 h4 hp
 go_enter Tryz.func119,Tryz.ntmps119
 go_wp2_with fail
 refine (l2Next_any _ _ _ _ k g _ _ _ _ _ _ rs _ (by unfold maxLen;omega) (by simp;omega) (HI.out.below (by go_grown) hb) (H1.out.below (by go_grown)) H4.out hk HP.out).mono ?_
 rintro e w1 ⟨he1,b1⟩
 rw [HN.out.1,HN.out.2.1,HN.out.2.2] at he1
 subst he1
 have B1:Hid (Below w.heap.size w (w1.alloc (oQ0 3 np nv))):=(below_up (by go_grown) b1 (by simp;omega)).alloc (by have:=b1.size;simp at this;omega) _
 have X1:Hid (DoBox (w1.alloc (oQ0 3 np nv)) w.heap.size (.int .i64 k) (.slice ra rs.length rc) (.slice oa os.length oc) (.int .i64 0) ek eq ev):=((DoBox.new w _ _ _ _ _ _ _ _ _ _).below b1).below (zT w1 _)
 clear b1
 obtain ⟨p0,p1,p2,p3,-,-,-,-,-,-,-,-⟩:=X1.out
 go_wp2_with fail
 clear p0 p1 p2 p3
 have V1:Hid (EvC3 (w1.alloc (oQ0 3 np nv)) w1.heap.size 3 np nv):=EvC3.new w1 _ _ _ _
 generalize w1.alloc (oQ0 3 np nv)=W1 at *
 refine (l2Copy_any _ _ _ _ _ _ rs os _ (by have:=H4.out;omega) (by omega) (H1.out.below B1.out) (H2.out.below B1.out)).mono ?_
 rintro e w2 ⟨v2,rfl,o2,b2⟩
 obtain ⟨ra2,rc2,oa2,oc2,rfl,-,-⟩:=o2.read
 have bA:=zT w2 (oQ1 k ra2 rs.length rc2 oa2 os.length oc2 0)
 have q2:Below W1.heap.size W1 (w2.alloc (oQ1 k ra2 rs.length rc2 oa2 os.length oc2 0)):=b2.trans (bA.mono b2.size)
 have X2:Hid (DoBox (w2.alloc (oQ1 k ra2 rs.length rc2 oa2 os.length oc2 0)) w.heap.size (.int .i64 k) (.slice ra rs.length rc) (.slice oa os.length oc) (.int .i64 0) ek eq ev):=X1.out.below q2
 have V2:Hid (EvC3 (w2.alloc (oQ1 k ra2 rs.length rc2 oa2 os.length oc2 0)) w1.heap.size 3 np nv):=V1.out.below q2
 have Y2:Hid (BoxC (w2.alloc (oQ1 k ra2 rs.length rc2 oa2 os.length oc2 0)) w2.heap.size (.int .i64 k) (.slice ra2 rs.length rc2) (.slice oa2 os.length oc2) (.int .i64 0)):=BoxC.new w2 _ _ _ _ _
 have F2:Hid (∀ j,(w2.alloc (oQ1 k ra2 rs.length rc2 oa2 os.length oc2 0)).frozen? ⟨w2.heap.size,j,none⟩=false):=fun j=>by simp
 have O2:Hid (StOwn (w2.alloc (oQ1 k ra2 rs.length rc2 oa2 os.length oc2 0)) W1.heap.size (stV k ra2 rs.length rc2 oa2 os.length oc2 0) k rs os 0):=o2.below bA
 have L2:Hid (∀ j,hasBlock (stV k ra2 rs.length rc2 oa2 os.length oc2 0) j->W1.heap.size<=j/\j<w2.heap.size):=fun j hj=>o2.lt hj
 have B2:Hid (Below w.heap.size w (w2.alloc (oQ1 k ra2 rs.length rc2 oa2 os.length oc2 0))):=B1.out.trans (q2.mono B1.out.size)
 have zw:w.heap.size+1+1<W1.heap.size:=X1.out.lt
 have zv:w1.heap.size<W1.heap.size:=zJ W1 _ V1.out.1
 have z2:W1.heap.size<=w2.heap.size:=b2.size
 clear b2 o2 bA q2 X1 V1 B1
 obtain ⟨p0,p1,p2,p3,e0,e1,e2,r0,r1,r2,r3,rf⟩:=X2.out
 obtain ⟨u0,u1,u2⟩:=V2.out
 obtain ⟨t0,t1,t2,t3⟩:=Y2.out
 have tf:=F2.out
 rcases HQ.out with q1 | ⟨q1,q2⟩ | ⟨q1,q2,q3,q4⟩ | ⟨q1,q2,q3,q5⟩
 all_goals
  go_wp2_with (first|(go_at_call 193;refine (l1Num_any _ _).mono ?_;rintro e w' ⟨rfl,rfl⟩)|(go_at_call 83;refine (l1In_any _ _ _ _).mono ?_;rintro e w' ⟨rfl,rfl⟩))
  refine bodyPost_ret (v:=.tuple #[stV k ra2 rs.length rc2 oa2 os.length oc2 0,.bool false]) (by simp [results,Tryz.results119,go_sem,r0,r1,r2,r3]) rfl ⟨_,rfl,?_,?_⟩
  ·exact StOwn.put4 (B':=W1.heap.size) O2.out zw (by omega)
  ·have:=B2.out
   go_grown
open Go.Deep
theorem toInsS_free (b off len cap:Nat) (g:Nat->I5) (w:World) (hlen:len<=1048576) (hb:b<w.heap.size) (hc:InsAt w b off len g):
  Calls Tryz.prog 141 #[.slice (some ⟨b,off,none⟩) len cap] w fun e w'=>e=.returned (.slice (some ⟨w.heap.size,0,none⟩) len len)/\InsAt w' w.heap.size 0 len g/\w.heap.size<w'.heap.size/\Below w.heap.size w w'/\∀ j,w'.frozen? ⟨w.heap.size,j,none⟩=false:=by
 have hl':(len:Int)<=1048576:=by omega
 have hmk:=run_make_ins len hlen
 have HC:Hid (InsAt w b off len g):=hc
 clear hc
 go_enter Tryz.func141,Tryz.ntmps141
 go_wp2_with fail
 clear hmk
 go_loopw [4] (fun i wr=>∃ k:Nat,k<=len/\i=.int .i64 k/\(∃ f,wr.rowIs w.heap.size 99 (len*5) f/\Hid (Filled f g k))/\Below w.heap.size w wr) (fun i _=>len - (intOf i).toNat)
 case atStart=>exact ⟨0,Nat.zero_le _,rfl,⟨_,madeIns_row w len,fun i hi=>by omega⟩,(Below.refl _ _).alloc (Nat.le_refl _) _⟩
 case round=>
  obtain ⟨k,hk,rfl,⟨f,hrow,HF⟩,hbw⟩:=hrel
  have hs:=hrow.lt
  by_cases hlt:k<len
  ·obtain ⟨c0,c1,c2,c3,c4⟩:=HC.out.below hbw hb k hlt
   have HR:Hid (wr.rowIs w.heap.size 99 (len*5) f):=hrow
   clear hrow
   go_wp2_with fail
   refine (toIns_any _ _ _ _ _ _).mono ?_
   rintro e w1 ⟨rfl,hb1⟩
   have hr1:w1.rowIs w.heap.size 99 (len*5) f:=HR.out.of_block (hb1.block _ hs)
   have f0:=hr1.frozen (k*5)
   have f1:=hr1.frozen (k*5+1)
   have f2:=hr1.frozen (k*5+2)
   have f3:=hr1.frozen (k*5+3)
   have f4:=hr1.frozen (k*5+4)
   have g0:=hr1.cell (i:=k*5) (by omega)
   have g1:=hr1.cell (i:=k*5+1) (by omega)
   have g2:=hr1.cell (i:=k*5+2) (by omega)
   have g3:=hr1.cell (i:=k*5+3) (by omega)
   have g4:=hr1.cell (i:=k*5+4) (by omega)
   have HR1:Hid (w1.rowIs w.heap.size 99 (len*5) f):=hr1
   clear hr1
   go_wp2_with fail
   exact ⟨⟨k+1,by omega,by go_num,Filled.step HR1.out HF.out,(((((hbw.trans (hb1.mono (Nat.le_of_lt hs))).setCell (Nat.le_refl _) _).setCell (Nat.le_refl _) _).setCell (Nat.le_refl _) _).setCell (Nat.le_refl _) _).setCell (Nat.le_refl _) _⟩,by simp [intOf];omega⟩
  ·have hkl:k=len:=by omega
   have HI:Hid (InsAt wr w.heap.size 0 len g):=by
    have:=HF.out.at hrow hk
    rw [hkl] at this
    exact this
   have HZ:Hid (∀ j,wr.frozen? ⟨w.heap.size,j,none⟩=false):=fun j=>hrow.frozen j
   clear hkl HF hrow
   go_wp2
   go_ret
   exact ⟨rfl,HI.out,hs,hbw,HZ.out⟩
theorem toInsS_freeEmpty (a0:Option Addr) (cap:Nat) (g:Nat->I5) (w:World):
  Calls Tryz.prog 141 #[.slice a0 0 cap] w fun e w'=>e=.returned (.slice (some ⟨w.heap.size,0,none⟩) 0 0)/\InsAt w' w.heap.size 0 0 g/\w.heap.size<w'.heap.size/\Below w.heap.size w w'/\∀ j,w'.frozen? ⟨w.heap.size,j,none⟩=false:=by
 have hmk:∀ w:World,(Instr.makeSlice 102 (.int .i64 0) (.int .i64 0)).run Tryz.prog w=.ok (.slice (some ⟨w.heap.size,0,none⟩) 0 0) (w.alloc (.cells (madeCells (insV 0 0 0 0 0).cells (0*5)) 99)):=fun w=>run_make_ins 0 (by omega) w
 go_enter Tryz.func141,Tryz.ntmps141
 go_wp2_with fail
 clear hmk
 go_rounds 1
 go_ret
 exact ⟨rfl,fun i hi=>by omega,by simp,(Below.refl _ _).alloc (Nat.le_refl _) _,fun j=>yD _ _ _ j rfl⟩
def CopiesF (w:World) (a0:Option Addr) (len cap:Nat) (g:Nat->I5):Prop:=∀ wx,Below w.heap.size w wx->
 Calls Tryz.prog 141 #[.slice a0 len cap] wx fun e w'=>e=.returned (.slice (some ⟨wx.heap.size,0,none⟩) len len)/\InsAt w' wx.heap.size 0 len g/\wx.heap.size<w'.heap.size/\Below wx.heap.size wx w'/\∀ j,w'.frozen? ⟨wx.heap.size,j,none⟩=false
theorem copiesF_of {W:World} {a0:Option Addr} {len cap:Nat} (hl:len<=1048576) (hr:len=0\/∃ b off g,a0=some ⟨b,off,none⟩/\b<W.heap.size/\InsAt W b off len g):∃ g,CopiesF W a0 len cap g:=by
 rcases hr with rfl | ⟨b,off,g,rfl,hb,hI⟩
 ·exact ⟨fun _=>⟨0,0,0,0,0⟩,fun wx _=>toInsS_freeEmpty a0 cap _ wx⟩
 ·exact ⟨g,fun wx hB=>toInsS_free b off len cap g wx hl (zL hb hB.size) (hI.below hB hb)⟩
def Room (w:World) (b len:Nat):Prop:=(∀ i,i<len*5->∃ u,w.cell? ⟨b,i,none⟩=some u)/\∀ j,w.frozen? ⟨b,j,none⟩=false
theorem Room.set {w:World} {b len:Nat} (h:Room w b len) (p:Addr) (v:Value):Room (w.setCell p v) b len:=
 ⟨fun i hi=>(h.1 i hi).elim fun _ e=>cell?_setCell_some e,fun j=>by rw [World.frozen?_setCell];exact h.2 j⟩
theorem Room.of_ins {w:World} {b len:Nat} {g:Nat->I5} (h:InsAt w b 0 len g) (hf:∀ j,w.frozen? ⟨b,j,none⟩=false):Room w b len:=by
 refine ⟨fun i hi=>?_,hf⟩
 obtain ⟨c0,c1,c2,c3,c4⟩:=h (i / 5) (by omega)
 simp only [Nat.zero_add] at c0 c1 c2 c3 c4
 have hh:i=i / 5*5\/i=i / 5*5+1\/i=i / 5*5+2\/i=i / 5*5+3\/i=i / 5*5+4:=by omega
 rcases hh with e | e | e | e | e
 ·rw [e];exact ⟨_,c0⟩
 ·rw [e];exact ⟨_,c1⟩
 ·rw [e];exact ⟨_,c2⟩
 ·rw [e];exact ⟨_,c3⟩
 ·rw [e];exact ⟨_,c4⟩
theorem markInsS_any (b len cap:Nat) (k:Int) (w:World) (hlen:len<=1048576) (k0:0<=k) (k1:k<=100000000) (h:Room w b len):
  Calls Tryz.prog 155 #[.slice (some ⟨b,0,none⟩) len cap,.int .i64 k] w fun e w'=>e=.returned (.int .i64 (k+5*len))/\w.grownBy w' (some b):=by
 have hl':(len:Int)<=1048576:=by omega
 have HO:Hid (Room w b len):=h
 clear h
 go_enter Tryz.func155,Tryz.ntmps155
 go_wp2_with fail
 go_loopw [1,5] (fun q i wr=>∃ j:Nat,j<=len/\i=.int .i64 j/\q=.int .i64 (k+5*j)/\Hid (Room wr b len/\w.grownBy wr (some b))) (fun _ i _=>len - (intOf i).toNat)
 case atStart=>exact ⟨0,Nat.zero_le _,rfl,by simp,HO.out,World.grownBy.refl _ _⟩
 case round=>
  clear HO
  obtain ⟨j,hj,rfl,rfl,HR⟩:=hrel
  by_cases hlt:j<len
  ·have hlt':(j:Int)<(len:Int):=by omega
   obtain ⟨u0,c0⟩:=HR.out.1.1 (j*5) (by omega)
   obtain ⟨u1,c1⟩:=HR.out.1.1 (j*5+1) (by omega)
   obtain ⟨u2,c2⟩:=HR.out.1.1 (j*5+2) (by omega)
   obtain ⟨u3,c3⟩:=HR.out.1.1 (j*5+3) (by omega)
   obtain ⟨u4,c4⟩:=HR.out.1.1 (j*5+4) (by omega)
   have fz:=HR.out.1.2
   go_wp2
   go_roundw
   case rel=>
    refine ⟨j+1,by omega,by go_num,by go_num,?_⟩
    refine ⟨?_,?_⟩
    ·repeat (refine Room.set ?_ _ _)
     exact HR.out.1
    ·repeat (refine zV ?_ (.inl rfl) _)
     exact HR.out.2
   case measure=>simp [intOf];omega
  ·have hlt':¬ (j:Int)<(len:Int):=by omega
   have HF:Hid (w.grownBy wr (some b)):=HR.out.2
   have hjl:(j:Int)=len:=by omega
   have HJ:Hid ((j:Int)=len):=hjl
   clear HR hjl
   go_wp2
   go_ret
   exact ⟨ret_int (by rw [HJ.out]),HF.out⟩
