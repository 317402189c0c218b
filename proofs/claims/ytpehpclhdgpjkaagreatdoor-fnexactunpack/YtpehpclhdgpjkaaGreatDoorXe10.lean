import Derived.Test.YtpehpclhdgpjkaaGreatDoorXe0
import Derived.Test.YtpehpclhdgpjkaaGreatDoorXe8
import Derived.Test.YtpehpclhdgpjkaaGreatDoorXe9
import Derived.Deep.RegionHeld3
namespace Go.Proofs.YtpehpclhdgpjkaaGreatDoor
set_option maxRecDepth 100000
set_option maxHeartbeats 4000000
open Go.RowKit Go.Deep
open Go.ChangeShapes Go.WideShapes Go.ChangeAt
structure E3 where
 k:Int
 q:Int
 v:Int
def EvAt (w:World) (b off len:Nat) (h:Nat->E3):Prop:=∀ i,i<len->
 w.cell? ⟨b,off+i*3,none⟩=some (.int .i64 (h i).k)/\w.cell? ⟨b,off+i*3+1,none⟩=some (.int .i64 (h i).q)/\w.cell? ⟨b,off+i*3+2,none⟩=some (.int .i64 (h i).v)
theorem EvAt.below {w w':World} {B b off len:Nat} {h:Nat->E3} (hh:EvAt w b off len h) (hb:Below B w w') (hB:b<B):EvAt w' b off len h:=by
 intro i hi
 obtain ⟨h0,h1,h2⟩:=hh i hi
 exact ⟨(hb.cell hB).trans h0,(hb.cell hB).trans h1,(hb.cell hB).trans h2⟩
theorem eqEventS_same (b1 b2 len c1 c2:Nat) (h:Nat->E3) (w:World) (hlen:len<=1048576) (hb1:b1<w.heap.size) (hb2:b2<w.heap.size) (hc1:EvAt w b1 0 len h) (hc2:EvAt w b2 0 len h):
  Calls Tryz.prog 59 #[.slice (some ⟨b1,0,none⟩) len c1,.slice (some ⟨b2,0,none⟩) len c2] w fun e w'=>e=.returned (.bool true)/\Below w.heap.size w w':=by
 have hl':(len:Int)<=1048576:=by omega
 have HC1:Hid (EvAt w b1 0 len h):=hc1
 have HC2:Hid (EvAt w b2 0 len h):=hc2
 clear hc1 hc2
 go_enter Tryz.func59,Tryz.ntmps59
 go_wp2_with fail
 go_loopw [5] (fun i wr=>∃ k:Nat,k<=len/\i=.int .i64 k/\Below w.heap.size w wr) (fun i _=>len - (intOf i).toNat)
 case atStart=>exact ⟨0,Nat.zero_le _,rfl,Below.refl _ _⟩
 case round=>
  obtain ⟨k,hk,rfl,hbw⟩:=hrel
  have hs:=hbw.size
  by_cases hlt:k<len
  ·obtain ⟨c0,c1,c2⟩:=HC1.out.below hbw hb1 k hlt
   obtain ⟨d0,d1,d2⟩:=HC2.out.below hbw hb2 k hlt
   have hlt':(k:Int)<(len:Int):=by omega
   rw [Nat.zero_add] at c0 c1 c2 d0 d1 d2
   go_wp2_with fail
   first|(go_region_with (go_at_call 99;refine (eqEvent_same _ _ _ _).mono ?_;rintro e w1 ⟨rfl,hq1⟩)) | fail
   all_goals
    go_wp2
    go_roundw
    case rel=>exact ⟨k+1,by omega,by go_num,hbw.drew.trans (hq1.mono hs)⟩
    case measure=>simp [intOf];omega
  ·go_wp2
   go_ret
   exact ⟨rfl,hbw⟩
theorem append_one {ops:Array Oper} {rest:List Oper} {op:Oper} {act:Act} {Q:Exit->Act->World->Prop} (w:World) (hgd:op.guard=none) (s x:Operand)
  (ho:op.op=.call { callee:=.builtin .append,args:=#[s,x],argTypes:=#[48,48] })
  (B:Nat) (v:Value) (xs:List Int) (hs:act.eval s=v) (hv:OwnI w B v xs) (y:Int) (hx:act.eval x=.slice (some ⟨w.heap.size,0,none⟩) 1 1) (hn:xs.length<=1048576) (hB:B<=w.heap.size)
  (h:∀ v' w',OwnI w' B v' (xs ++ [y])->Below B w w'->wpList Tryz.prog ops Q rest (act.put op.dst v') w'):
  wpList Tryz.prog ops Q (op :: rest) act (w.alloc (.cells #[.int .i64 y] 3)):=by
 have hb:Below w.heap.size w (w.alloc (.cells #[.int .i64 y] 3)):=(Below.refl _ _).alloc (Nat.le_refl _) _
 refine wpList_append_ints _ hgd s x ho B 1 v (some ⟨w.heap.size,0,none⟩) xs [y] hs hx (hv.below hb) (.inr ⟨w.heap.size,0,rfl,by simp,fun i hi=>?_⟩) (by simp;omega) (by simp;omega) ?_
 ·have:i=0:=by simp at hi;omega
  subst this
  exact zV _ _ _ 0 rfl
 ·intro v' w' o g _
  refine h v' w' o (Below.grown (hb.mono hB) g (by simp;omega) (fun k hk=>(hv.lt k hk).1))
theorem append_oneN {ops:Array Oper} {rest:List Oper} {op:Oper} {act:Act} {Q:Exit->Act->World->Prop} (w:World) {N:Nat} (hN:N=w.heap.size) (hgd:op.guard=none) (s x:Operand)
  (ho:op.op=.call { callee:=.builtin .append,args:=#[s,x],argTypes:=#[48,48] })
  (B:Nat) (v:Value) (xs:List Int) (hs:act.eval s=v) (hv:OwnI w B v xs) (y:Int) (hx:act.eval x=.slice (some ⟨N,0,none⟩) 1 1) (hn:xs.length<=1048576) (hB:B<=w.heap.size)
  (h:∀ v' w',OwnI w' B v' (xs ++ [y])->Below B w w'->wpList Tryz.prog ops Q rest (act.put op.dst v') w'):
  wpList Tryz.prog ops Q (op :: rest) act (w.alloc (.cells #[.int .i64 y] 3)):=by
 subst hN
 exact append_one w hgd s x ho B v xs hs hv y hx hn hB h
theorem OwnI.to {w:World} {B:Nat} {v:Value} {xs ys:List Int} (h:OwnI w B v xs) (e:ys=xs):OwnI w B v ys:=e ▸ h
theorem Marked.of_row {v:Value} {w w':World} {row:Option Nat} (g:w.grownBy w' row) (h:∀ k,row=some k->hasBlock v k):Marked v w w':=
 ⟨g.os,g.tape,g.output,g.size,fun k hk hn=>g.block k hk (fun e=>hn (h k e.symm))⟩
theorem grown_dr {w w':World} {row:Option Nat} (h:w.grownBy w' row):w.grownBy w'.drew row:=⟨h.os,h.tape,h.output,h.size,h.block⟩
theorem Marked.trans {v:Value} {w w1 w2:World} (h:Marked v w w1) (k:Marked v w1 w2):Marked v w w2:=
 ⟨k.os.trans h.os,k.tape.trans h.tape,k.output.trans h.output,zO h.size k.size,fun j hj hn=>(k.block j (zL hj h.size) hn).trans (h.block j hj hn)⟩
theorem Marked.of_below {v:Value} {w w':World} (h:Below w.heap.size w w'):Marked v w w':=⟨h.os,h.tape,h.output,h.size,fun k hk _=>h.block k hk⟩
theorem StOwn.parts {w:World} {B:Nat} {p code:Int} {ra oa:Option Addr} {rn rc on oc:Nat} {rs os:List Int} (h:StOwn w B (stV p ra rn rc oa on oc code) p rs os code):OwnI w B (.slice ra rn rc) rs/\OwnI w B (.slice oa on oc) os/\∀ k,(Value.slice ra rn rc).ownBlock=some k->(Value.slice oa on oc).ownBlock≠some k:=by
 obtain ⟨vr,vo,e,o1,o2,ha⟩:=h
 simp only [stV,Value.agg.injEq,Array.mk.injEq,List.cons.injEq,and_true,true_and] at e
 obtain ⟨rfl,rfl⟩:=e
 exact ⟨o1,o2,ha⟩
theorem l2Local_own (b off len cap k:Nat) (g:Nat->I5) (ra oa:Option Addr) (rc oc:Nat) (rs os:List Int) (B:Nat) (v:Int) (w:World) (hl:(len:Int)<=30) (hb:b<w.heap.size) (hI:InsAt w b off len g) (h4:rs.length=4) (hO:StOwn w B (stV k ra rs.length rc oa os.length oc 0) k rs os 0) (hk:k<len) (hp:progOkB g len 4=true) (hnum:allN rs=true) (h678:(g k).o≠6/\(g k).o≠7/\(g k).o≠8):
  Calls Tryz.prog 124 #[.slice (some ⟨b,off,none⟩) len cap,stV k ra rs.length rc oa os.length oc 0] w fun e w'=>∃ u,(∃ q c,u=stV q ra rs.length rc oa os.length oc c)/\e=.returned u/\StOwn w' B u (doneS len (g k) k rs os 0 v).p (doneS len (g k) k rs os 0 v).rs (doneS len (g k) k rs os 0 v).os (doneS len (g k) k rs os 0 v).c/\Marked (stV k ra rs.length rc oa os.length oc 0) w w':=by
 obtain ⟨o1,o2,ha⟩:=hO.parts
 obtain ⟨G,rfl,_,_,_⟩:=own_some o1 (by omega)
 obtain ⟨⟨q1,q11⟩,⟨r0,r3⟩,⟨a0,a3⟩,⟨b0,b3⟩⟩:=ins_range (right_ins hp hk)
 obtain ⟨jr,hjr⟩:=Int.eq_ofNat_of_zero_le r0
 obtain ⟨ja,hja⟩:=Int.eq_ofNat_of_zero_le a0
 obtain ⟨jb,hjb⟩:=Int.eq_ofNat_of_zero_le b0
 have hn4:∀ j,j<4->numB (zi rs j)=true:=fun j hj=>(List.all_eq_true.1 hnum) _ (zi_mem (by omega))
 rw [h4] at o1 ha ⊢
 have key:∀ s:S4,s=doneS len (g k) k rs os 0 0->s.os=os->(Calls Tryz.prog 124 #[.slice (some ⟨b,off,none⟩) len cap,stV k (some ⟨G,0,none⟩) 4 rc oa os.length oc 0] w fun e w'=>e=.returned (stV s.p (some ⟨G,0,none⟩) 4 rc oa os.length oc s.c)/\OwnI w' B (.slice (some ⟨G,0,none⟩) 4 rc) s.rs/\w.grownBy w' (some G))->doneS len (g k) k rs os 0 v=doneS len (g k) k rs os 0 0->(Calls Tryz.prog 124 #[.slice (some ⟨b,off,none⟩) len cap,stV k (some ⟨G,0,none⟩) 4 rc oa os.length oc 0] w fun e w'=>∃ u,(∃ q c,u=stV q (some ⟨G,0,none⟩) 4 rc oa os.length oc c)/\e=.returned u/\StOwn w' B u (doneS len (g k) k rs os 0 v).p (doneS len (g k) k rs os 0 v).rs (doneS len (g k) k rs os 0 v).os (doneS len (g k) k rs os 0 v).c/\Marked (stV k (some ⟨G,0,none⟩) 4 rc oa os.length oc 0) w w'):=by
  intro s hs hos h he
  rw [he,<- hs]
  refine h.mono fun e w' ⟨h1,h2,h3⟩=>⟨_,⟨_,_,rfl⟩,h1,⟨_,_,rfl,h2,?_,ha⟩,Marked.of_row h3 fun j hj=>(hasBlock_iff _ _ _ _ _).2 (.inl hj)⟩
  rw [hos]
  exact o2.kept h3 (by
   cases hv:(Value.slice oa os.length oc).ownBlock with
   | none=>exact .inl rfl
   | some j=>exact .inr (fun e=>ha G rfl (by rw [hv,e])))
 have hsame:doneS len (g k) k rs os 0 v=doneS len (g k) k rs os 0 0:=by
  unfold doneS
  rw [if_neg h678.1,if_neg h678.2.1,if_neg h678.2.2,if_neg h678.1,if_neg h678.2.1,if_neg h678.2.2]
 have hos:(doneS len (g k) k rs os 0 0).os=os:=by
  unfold doneS
  rw [if_neg h678.1,if_neg h678.2.1,if_neg h678.2.2]
  split
  ·rfl
  ·split
   ·split <;> rfl
   ·split
    ·rfl
    ·split <;> rfl
 refine key _ rfl hos ?_ hsame
 rcases opCases (g k).o with ho | ho | ho | ho | ho | ho | ho | ho | ho | ho | ho | ho
 ·omega
 ·exact l2Local_1 b off len cap k g G rc oa os.length oc 0 rs B w hl hb hI o1 h4 hk jr ja jb hjr hja hjb (by omega) (by omega) (by omega) ho hn4 os
 ·exact l2Local_2 b off len cap k g G rc oa os.length oc 0 rs B w hl hb hI o1 h4 hk jr ja jb hjr hja hjb (by omega) (by omega) (by omega) ho hn4 os
 ·exact l2Local_3 b off len cap k g G rc oa os.length oc 0 rs B w hl hb hI o1 h4 hk jr ja jb hjr hja hjb (by omega) (by omega) (by omega) ho hn4 os
 ·exact l2Local_4 b off len cap k g G rc oa os.length oc 0 rs B w hl hb hI o1 h4 hk jr ja jb hjr hja hjb (by omega) (by omega) (by omega) ho hn4 os
 ·exact l2Local_5 b off len cap k g G rc oa os.length oc 0 rs B w hl hb hI o1 h4 hk jr ja jb hjr hja hjb (by omega) (by omega) (by omega) ho hn4 os
 ·exact absurd ho h678.1
 ·exact absurd ho h678.2.1
 ·exact absurd ho h678.2.2
 ·exact l2Local_9 b off len cap k g G rc oa os.length oc 0 rs B w hl hb hI o1 h4 hk jr ja jb hjr hja hjb (by omega) (by omega) (by omega) ho hn4 os
 ·exact l2Local_10 b off len cap k g G rc oa os.length oc 0 rs B w hl hb hI o1 h4 hk jr ja jb hjr hja hjb (by omega) (by omega) (by omega) ho hn4 os
 ·exact l2Local_11 b off len cap k g G rc oa os.length oc 0 rs B w hl hb hI o1 h4 hk jr ja jb hjr hja hjb (by omega) (by omega) (by omega) ho hn4 os
theorem l2Do_local (b off len cap k:Nat) (g:Nat->I5) (ra oa:Option Addr) (rc oc:Nat) (rs os:List Int) (w:World) (hl:(len:Int)<=30) (hb:b<w.heap.size) (hI:InsAt w b off len g) (h4:rs.length=4) (ho:os.length<=60) (h1:Sl w ra rs) (h2:Sl w oa os) (hk:k<len) (hp:progOkB g len 4=true) (np:Int) (HN:Hid (evK (g k).o=1/\evP (g k).o (g k).n=np/\evW (g k).o (g k).a rs=0)) (HL:Hid (allN rs=true/\(g k).o≠6/\(g k).o≠7/\(g k).o≠8)):
  Calls Tryz.prog 103 #[.slice (some ⟨b,off,none⟩) len cap,stV k ra rs.length rc oa os.length oc 0,evV 1 np 0] w fun e w'=>∃ v,e=.returned (.tuple #[v,.bool true])/\StOwn w' w.heap.size v (doneS len (g k) k rs os 0 0).p (doneS len (g k) k rs os 0 0).rs (doneS len (g k) k rs os 0 0).os (doneS len (g k) k rs os 0 0).c/\Below w.heap.size w w':=by
 have HI:Hid (InsAt w b off len g):=hI
 have H1:Hid (Sl w ra rs):=h1
 have H2:Hid (Sl w oa os):=h2
 have H4:Hid (rs.length=4):=h4
 have HP:Hid (progOkB g len 4=true):=hp
 have hk':(k:Int)<(len:Int):=by omega
 clear hI h1 h2 h4 hp
 go_enter Tryz.func103,Tryz.ntmps103
 go_wp2_with fail
 refine (l2Next_any _ _ _ _ k g _ _ _ _ _ _ rs _ (by unfold maxLen;omega) (by simp;omega) (HI.out.below (by go_grown) hb) (H1.out.below (by go_grown)) H4.out hk HP.out).mono ?_
 rintro e w1 ⟨he1,b1⟩
 rw [HN.out.1,HN.out.2.1,HN.out.2.2] at he1
 subst he1
 have B1:Hid (Below w.heap.size w (w1.alloc (oQ0 1 np 0))):=(below_up (by go_grown) b1 (by simp;omega)).alloc (by have:=b1.size;simp at this;omega) _
 have X1:Hid (DoBox (w1.alloc (oQ0 1 np 0)) w.heap.size (.int .i64 k) (.slice ra rs.length rc) (.slice oa os.length oc) (.int .i64 0) 1 np 0):=((DoBox.new w _ _ _ _ _ _ _ _ _ _).below b1).below (zS w1 _)
 clear b1
 obtain ⟨p0,p1,p2,p3,-,-,-,-,-,-,-,-⟩:=X1.out
 go_wp2_with fail
 clear p0 p1 p2 p3
 have V1:Hid (EvC3 (w1.alloc (oQ0 1 np 0)) w1.heap.size 1 np 0):=EvC3.new w1 _ _ _ _
 generalize w1.alloc (oQ0 1 np 0)=W1 at *
 refine (l2Copy_any _ _ _ _ _ _ rs os _ (by have:=H4.out;omega) (by omega) (H1.out.below B1.out) (H2.out.below B1.out)).mono ?_
 rintro e w2 ⟨v2,rfl,o2,b2⟩
 obtain ⟨ra2,rc2,oa2,oc2,rfl,-,-⟩:=o2.read
 have bA:=zS w2 (oQ1 k ra2 rs.length rc2 oa2 os.length oc2 0)
 have q2:Below W1.heap.size W1 (w2.alloc (oQ1 k ra2 rs.length rc2 oa2 os.length oc2 0)):=b2.trans (bA.mono b2.size)
 have X2:Hid (DoBox (w2.alloc (oQ1 k ra2 rs.length rc2 oa2 os.length oc2 0)) w.heap.size (.int .i64 k) (.slice ra rs.length rc) (.slice oa os.length oc) (.int .i64 0) 1 np 0):=X1.out.below q2
 have V2:Hid (EvC3 (w2.alloc (oQ1 k ra2 rs.length rc2 oa2 os.length oc2 0)) w1.heap.size 1 np 0):=V1.out.below q2
 have Y2:Hid (BoxC (w2.alloc (oQ1 k ra2 rs.length rc2 oa2 os.length oc2 0)) w2.heap.size (.int .i64 k) (.slice ra2 rs.length rc2) (.slice oa2 os.length oc2) (.int .i64 0)):=BoxC.new w2 _ _ _ _ _
 have F2:Hid (∀ j,(w2.alloc (oQ1 k ra2 rs.length rc2 oa2 os.length oc2 0)).frozen? ⟨w2.heap.size,j,none⟩=false):=fun j=>by simp
 have O2:Hid (StOwn (w2.alloc (oQ1 k ra2 rs.length rc2 oa2 os.length oc2 0)) W1.heap.size (stV k ra2 rs.length rc2 oa2 os.length oc2 0) k rs os 0):=o2.below bA
 have L2:Hid (∀ j,hasBlock (stV k ra2 rs.length rc2 oa2 os.length oc2 0) j->W1.heap.size<=j/\j<w2.heap.size):=fun j hj=>o2.lt hj
 have B2:Hid (Below w.heap.size w (w2.alloc (oQ1 k ra2 rs.length rc2 oa2 os.length oc2 0))):=B1.out.trans (q2.mono B1.out.size)
 have zw:w.heap.size+1+1<W1.heap.size:=X1.out.lt
 have zv:w1.heap.size<W1.heap.size:=zJ W1 _ V1.out.1
 have z2:W1.heap.size<=w2.heap.size:=b2.size
 clear b2 o2 bA q2 X1 V1 B1
 obtain ⟨p0,p1,p2,p3,e0,e1,e2,r0,r1,r2,r3,rf⟩:=X2.out
 obtain ⟨u0,u1,u2⟩:=V2.out
 obtain ⟨t0,t1,t2,t3⟩:=Y2.out
 have tf:=F2.out
 go_wp2_with fail
 clear p0 p1 p2 p3 e0 e1 e2 r0 r1 r2 r3 rf u0 u1 u2 t0 t1 t2 t3 tf
 generalize w2.alloc (oQ1 k ra2 rs.length rc2 oa2 os.length oc2 0)=W2 at *
 refine (l2Local_own b off len cap k g ra2 oa2 rc2 oc2 rs os W1.heap.size 0 W2 hl (by have:=B2.out.size;omega) (HI.out.below B2.out hb) H4.out O2.out hk HP.out HL.out.1 HL.out.2).mono ?_
 rintro e w3 ⟨u,⟨q3,c3,hu⟩,rfl,o3,m3⟩
 rw [hu]
 rw [hu] at o3
 have X3:Hid (DoBox w3 w.heap.size (.int .i64 k) (.slice ra rs.length rc) (.slice oa os.length oc) (.int .i64 0) 1 np 0):=X2.out.marked m3 fun j hj=>by have:=L2.out j hj;omega
 have O3:Hid (StOwn w3 W1.heap.size (stV q3 ra2 rs.length rc2 oa2 os.length oc2 c3) (doneS len (g k) k rs os 0 0).p (doneS len (g k) k rs os 0 0).rs (doneS len (g k) k rs os 0 0).os (doneS len (g k) k rs os 0 0).c):=o3
 have B3:Hid (Below w.heap.size w w3):=B2.out.trans (m3.below B2.out.size fun j hj=>by have:=L2.out j hj;omega)
 clear o3 m3 X2 V2 Y2 F2 O2 B2 hu u
 obtain ⟨-,-,-,-,-,-,-,r0,r1,r2,r3,rf⟩:=X3.out
 go_wp2
 refine bodyPost_ret (v:=.tuple #[stV q3 ra2 rs.length rc2 oa2 os.length oc2 c3,.bool true]) (by simp [results,Tryz.results103,go_sem,r0,r1,r2,r3]) rfl ⟨_,rfl,?_,?_⟩
 ·exact StOwn.put4 (B':=W1.heap.size) O3.out zw (by omega)
 ·have:=B3.out
  go_grown
theorem l2Do_take_any (b off len cap k:Nat) (g:Nat->I5) (ra oa:Option Addr) (rc oc:Nat) (rs os:List Int) (eq ev:Int) (w:World) (hl:(len:Int)<=30) (hb:b<w.heap.size) (hI:InsAt w b off len g) (h4:rs.length=4) (ho:os.length<=60) (h1:Sl w ra rs) (h2:Sl w oa os) (hk:k<len) (hp:progOkB g len 4=true) (np nv:Int) (HN:Hid (evK (g k).o=3/\evP (g k).o (g k).n=np/\evW (g k).o (g k).a rs=nv)) (H7:Hid ((g k).o=7)) (q2:inB ev (-1000000000) 1000000000=true) (q3:(np != 9)=false) (q5:inB eq 0 3=true):
  Calls Tryz.prog 103 #[.slice (some ⟨b,off,none⟩) len cap,stV k ra rs.length rc oa os.length oc 0,evV 3 eq ev] w fun e w'=>∃ v,e=.returned (.tuple #[v,.bool true])/\StOwn w' w.heap.size v (doneS len (g k) k rs os 0 ev).p (doneS len (g k) k rs os 0 ev).rs (doneS len (g k) k rs os 0 ev).os (doneS len (g k) k rs os 0 ev).c/\Below w.heap.size w w':=by
 have HI:Hid (InsAt w b off len g):=hI
 have H1:Hid (Sl w ra rs):=h1
 have H2:Hid (Sl w oa os):=h2
 have H4:Hid (rs.length=4):=h4
 have HP:Hid (progOkB g len 4=true):=hp
 have hk':(k:Int)<(len:Int):=by omega
 clear hI h1 h2 h4 hp
 go_enter Tryz.func103,Tryz.ntmps103
 go_wp2_with fail
 refine (l2Next_any _ _ _ _ k g _ _ _ _ _ _ rs _ (by unfold maxLen;omega) (by simp;omega) (HI.out.below (by go_grown) hb) (H1.out.below (by go_grown)) H4.out hk HP.out).mono ?_
 rintro e w1 ⟨he1,b1⟩
 rw [HN.out.1,HN.out.2.1,HN.out.2.2] at he1
 subst he1
 have B1:Hid (Below w.heap.size w (w1.alloc (oQ0 3 np nv))):=(below_up (by go_grown) b1 (by simp;omega)).alloc (by have:=b1.size;simp at this;omega) _
 have X1:Hid (DoBox (w1.alloc (oQ0 3 np nv)) w.heap.size (.int .i64 k) (.slice ra rs.length rc) (.slice oa os.length oc) (.int .i64 0) 3 eq ev):=((DoBox.new w _ _ _ _ _ _ _ _ _ _).below b1).below (zS w1 _)
 clear b1
 obtain ⟨p0,p1,p2,p3,-,-,-,-,-,-,-,-⟩:=X1.out
 go_wp2_with fail
 clear p0 p1 p2 p3
 have V1:Hid (EvC3 (w1.alloc (oQ0 3 np nv)) w1.heap.size 3 np nv):=EvC3.new w1 _ _ _ _
 generalize w1.alloc (oQ0 3 np nv)=W1 at *
 refine (l2Copy_any _ _ _ _ _ _ rs os _ (by have:=H4.out;omega) (by omega) (H1.out.below B1.out) (H2.out.below B1.out)).mono ?_
 rintro e w2 ⟨v2,rfl,o2,b2⟩
 obtain ⟨ra2,rc2,oa2,oc2,rfl,-,-⟩:=o2.read
 have bA:=zS w2 (oQ1 k ra2 rs.length rc2 oa2 os.length oc2 0)
 have q2:Below W1.heap.size W1 (w2.alloc (oQ1 k ra2 rs.length rc2 oa2 os.length oc2 0)):=b2.trans (bA.mono b2.size)
 have X2:Hid (DoBox (w2.alloc (oQ1 k ra2 rs.length rc2 oa2 os.length oc2 0)) w.heap.size (.int .i64 k) (.slice ra rs.length rc) (.slice oa os.length oc) (.int .i64 0) 3 eq ev):=X1.out.below q2
 have V2:Hid (EvC3 (w2.alloc (oQ1 k ra2 rs.length rc2 oa2 os.length oc2 0)) w1.heap.size 3 np nv):=V1.out.below q2
 have Y2:Hid (BoxC (w2.alloc (oQ1 k ra2 rs.length rc2 oa2 os.length oc2 0)) w2.heap.size (.int .i64 k) (.slice ra2 rs.length rc2) (.slice oa2 os.length oc2) (.int .i64 0)):=BoxC.new w2 _ _ _ _ _
 have F2:Hid (∀ j,(w2.alloc (oQ1 k ra2 rs.length rc2 oa2 os.length oc2 0)).frozen? ⟨w2.heap.size,j,none⟩=false):=fun j=>by simp
 have O2:Hid (StOwn (w2.alloc (oQ1 k ra2 rs.length rc2 oa2 os.length oc2 0)) W1.heap.size (stV k ra2 rs.length rc2 oa2 os.length oc2 0) k rs os 0):=o2.below bA
 have L2:Hid (∀ j,hasBlock (stV k ra2 rs.length rc2 oa2 os.length oc2 0) j->W1.heap.size<=j/\j<w2.heap.size):=fun j hj=>o2.lt hj
 have B2:Hid (Below w.heap.size w (w2.alloc (oQ1 k ra2 rs.length rc2 oa2 os.length oc2 0))):=B1.out.trans (q2.mono B1.out.size)
 have zw:w.heap.size+1+1<W1.heap.size:=X1.out.lt
 have zv:w1.heap.size<W1.heap.size:=zJ W1 _ V1.out.1
 have z2:W1.heap.size<=w2.heap.size:=b2.size
 clear b2 o2 bA q2 X1 V1 B1
 obtain ⟨p0,p1,p2,p3,e0,e1,e2,r0,r1,r2,r3,rf⟩:=X2.out
 obtain ⟨u0,u1,u2⟩:=V2.out
 obtain ⟨t0,t1,t2,t3⟩:=Y2.out
 have tf:=F2.out
 go_wp2_with (first|(go_at_call 101;refine (l1Num_any _ _).mono ?_;rintro e w' ⟨rfl,rfl⟩)|(go_at_call 68;refine (l1In_any _ _ _ _).mono ?_;rintro e w' ⟨rfl,rfl⟩))
 generalize w2.alloc (oQ1 k ra2 rs.length rc2 oa2 os.length oc2 0)=W2 at *
 obtain ⟨o1,o2,ha⟩:=O2.out.parts
 obtain ⟨G,rfl,_,hG1,hG2⟩:=own_some o1 (by have:=H4.out;omega)
 have hGw:W1.heap.size<=G/\G<w2.heap.size:=L2.out G ((hasBlock_iff _ _ _ _ _).2 (.inl rfl))
 obtain ⟨⟨q1',q11⟩,⟨r0',r3'⟩,-,-⟩:=ins_range (right_ins HP.out hk)
 obtain ⟨jr,hjr⟩:=Int.eq_ofNat_of_zero_le r0'
 obtain ⟨c0,c1,c2,c3,c4⟩:=HI.out.below B2.out hb k hk
 rw [hjr] at c1
 have hj4:jr<rs.length:=by have:=H4.out;omega
 have hj4':(jr:Int)<(rs.length:Int):=by omega
 have cg:W2.cell? ⟨G,jr,none⟩=some (.int .i64 (zi rs jr)):=o1.cell hj4
 have fg:W2.frozen? ⟨G,jr,none⟩=false:=o1.frozen jr
 have HD:Hid (doneS len (g k) k rs os 0 ev=goS len k (rs.set jr ev) os 0):=by
  show doneS len (g k) k rs os 0 ev=goS len k (rs.set jr ev) os 0
  unfold doneS
  rw [H7.out,if_neg (by decide),if_pos rfl,hjr,Int.toNat_natCast]
 have zG:w.heap.size<G/\w.heap.size+1<G/\w.heap.size+1+1<G/\G≠w2.heap.size:=by omega
 have zb:b≠G:=by have:=B2.out;omega
 clear o1 o2 ha c0 c2 c3 c4 hjr q1' q11 r0' r3'
 go_region
 have m3:Marked (stV k (some ⟨G,0,none⟩) rs.length rc2 oa2 os.length oc2 0) W2 (W2.setCell ⟨G,jr,none⟩ (.int .i64 ev)).drew:=Marked.of_row (row:=some G) (grown_dr (zU (p:=⟨G,jr,none⟩) (World.grownBy.refl W2 (some G)) (.inl rfl) _)) fun j hj=>(hasBlock_iff _ _ _ _ _).2 (.inl (by cases hj;rfl))
 have O3:Hid (StOwn (W2.setCell ⟨G,jr,none⟩ (.int .i64 ev)).drew W1.heap.size (stV k (some ⟨G,0,none⟩) rs.length rc2 oa2 os.length oc2 0) k (rs.set jr ev) os 0):=by
  obtain ⟨o1,o2,ha⟩:=O2.out.parts
  exact ⟨_,_,rfl,(o1.set rfl jr ev).1,o2.setOther (fun e=>ha G rfl e) _,ha⟩
 have X3:Hid (DoBox (W2.setCell ⟨G,jr,none⟩ (.int .i64 ev)).drew w.heap.size (.int .i64 k) (.slice ra rs.length rc) (.slice oa os.length oc) (.int .i64 0) 3 eq ev):=X2.out.marked m3 fun j hj=>by have:=L2.out j hj;omega
 have Y3:Hid (BoxC (W2.setCell ⟨G,jr,none⟩ (.int .i64 ev)).drew w2.heap.size (.int .i64 k) (.slice (some ⟨G,0,none⟩) rs.length rc2) (.slice oa2 os.length oc2) (.int .i64 0)):=Y2.out.marked m3 fun hh=>by have:=L2.out _ hh;omega
 have B3:Hid (Below w.heap.size w (W2.setCell ⟨G,jr,none⟩ (.int .i64 ev)).drew):=B2.out.trans (m3.below B2.out.size fun j hj=>by have:=L2.out j hj;omega)
 clear p0 p1 p2 p3 e0 e1 e2 r0 r1 r2 r3 rf u0 u1 u2 t0 t1 t2 t3 tf m3 X2 V2 Y2 F2 O2 B2 cg fg c1
 obtain ⟨t0,t1,t2,t3⟩:=Y3.out
 go_wp2_with fail
 clear t0 t1 t2 t3
 generalize (W2.setCell ⟨G,jr,none⟩ (.int .i64 ev)).drew=W3 at *
 refine (l2Go_any _ _ _ _ _ _ _ _ _ _ _ _ (by omega) (by omega)).mono ?_
 rintro e w4 ⟨rfl,b4⟩
 have X4:Hid (DoBox w4 w.heap.size (.int .i64 k) (.slice ra rs.length rc) (.slice oa os.length oc) (.int .i64 0) 3 eq ev):=X3.out.below b4
 have O4:Hid (StOwn w4 W1.heap.size (stV k (some ⟨G,0,none⟩) rs.length rc2 oa2 os.length oc2 0) k (rs.set jr ev) os 0):=O3.out.below b4
 have B4:Hid (Below w.heap.size w w4):=B3.out.trans (b4.mono B3.out.size)
 clear b4 X3 Y3 O3 B3
 obtain ⟨-,-,-,-,-,-,-,r0,r1,r2,r3,rf⟩:=X4.out
 go_wp2
 refine bodyPost_ret (v:=.tuple #[stV (goP len k) (some ⟨G,0,none⟩) rs.length rc2 oa2 os.length oc2 (goC len k 0),.bool true]) (by simp [results,Tryz.results103,go_sem,r0,r1,r2,r3]) rfl ⟨_,rfl,?_,?_⟩
 ·rw [HD.out]
  exact StOwn.put4 (B':=W1.heap.size) ((O4.out.replace _).recode _) zw (by omega)
 ·have:=B4.out
  go_grown
theorem l2Do_take_one (b off len cap k:Nat) (g:Nat->I5) (ra oa:Option Addr) (rc oc:Nat) (rs os:List Int) (eq ev:Int) (w:World) (hl:(len:Int)<=30) (hb:b<w.heap.size) (hI:InsAt w b off len g) (h4:rs.length=4) (ho:os.length<=60) (h1:Sl w ra rs) (h2:Sl w oa os) (hk:k<len) (hp:progOkB g len 4=true) (np nv:Int) (HN:Hid (evK (g k).o=3/\evP (g k).o (g k).n=np/\evW (g k).o (g k).a rs=nv)) (H7:Hid ((g k).o=7)) (q2:inB ev (-1000000000) 1000000000=true) (q3:(np != 9)=true) (q4:(eq != np)=false) (q5:inB eq 0 3=true):
  Calls Tryz.prog 103 #[.slice (some ⟨b,off,none⟩) len cap,stV k ra rs.length rc oa os.length oc 0,evV 3 eq ev] w fun e w'=>∃ v,e=.returned (.tuple #[v,.bool true])/\StOwn w' w.heap.size v (doneS len (g k) k rs os 0 ev).p (doneS len (g k) k rs os 0 ev).rs (doneS len (g k) k rs os 0 ev).os (doneS len (g k) k rs os 0 ev).c/\Below w.heap.size w w':=by
 have HI:Hid (InsAt w b off len g):=hI
 have H1:Hid (Sl w ra rs):=h1
 have H2:Hid (Sl w oa os):=h2
 have H4:Hid (rs.length=4):=h4
 have HP:Hid (progOkB g len 4=true):=hp
 have hk':(k:Int)<(len:Int):=by omega
 clear hI h1 h2 h4 hp
 go_enter Tryz.func103,Tryz.ntmps103
 go_wp2_with fail
 refine (l2Next_any _ _ _ _ k g _ _ _ _ _ _ rs _ (by unfold maxLen;omega) (by simp;omega) (HI.out.below (by go_grown) hb) (H1.out.below (by go_grown)) H4.out hk HP.out).mono ?_
 rintro e w1 ⟨he1,b1⟩
 rw [HN.out.1,HN.out.2.1,HN.out.2.2] at he1
 subst he1
 have B1:Hid (Below w.heap.size w (w1.alloc (oQ0 3 np nv))):=(below_up (by go_grown) b1 (by simp;omega)).alloc (by have:=b1.size;simp at this;omega) _
 have X1:Hid (DoBox (w1.alloc (oQ0 3 np nv)) w.heap.size (.int .i64 k) (.slice ra rs.length rc) (.slice oa os.length oc) (.int .i64 0) 3 eq ev):=((DoBox.new w _ _ _ _ _ _ _ _ _ _).below b1).below (zS w1 _)
 clear b1
 obtain ⟨p0,p1,p2,p3,-,-,-,-,-,-,-,-⟩:=X1.out
 go_wp2_with fail
 clear p0 p1 p2 p3
 have V1:Hid (EvC3 (w1.alloc (oQ0 3 np nv)) w1.heap.size 3 np nv):=EvC3.new w1 _ _ _ _
 generalize w1.alloc (oQ0 3 np nv)=W1 at *
 refine (l2Copy_any _ _ _ _ _ _ rs os _ (by have:=H4.out;omega) (by omega) (H1.out.below B1.out) (H2.out.below B1.out)).mono ?_
 rintro e w2 ⟨v2,rfl,o2,b2⟩
 obtain ⟨ra2,rc2,oa2,oc2,rfl,-,-⟩:=o2.read
 have bA:=zS w2 (oQ1 k ra2 rs.length rc2 oa2 os.length oc2 0)
 have q2:Below W1.heap.size W1 (w2.alloc (oQ1 k ra2 rs.length rc2 oa2 os.length oc2 0)):=b2.trans (bA.mono b2.size)
 have X2:Hid (DoBox (w2.alloc (oQ1 k ra2 rs.length rc2 oa2 os.length oc2 0)) w.heap.size (.int .i64 k) (.slice ra rs.length rc) (.slice oa os.length oc) (.int .i64 0) 3 eq ev):=X1.out.below q2
 have V2:Hid (EvC3 (w2.alloc (oQ1 k ra2 rs.length rc2 oa2 os.length oc2 0)) w1.heap.size 3 np nv):=V1.out.below q2
 have Y2:Hid (BoxC (w2.alloc (oQ1 k ra2 rs.length rc2 oa2 os.length oc2 0)) w2.heap.size (.int .i64 k) (.slice ra2 rs.length rc2) (.slice oa2 os.length oc2) (.int .i64 0)):=BoxC.new w2 _ _ _ _ _
 have F2:Hid (∀ j,(w2.alloc (oQ1 k ra2 rs.length rc2 oa2 os.length oc2 0)).frozen? ⟨w2.heap.size,j,none⟩=false):=fun j=>by simp
 have O2:Hid (StOwn (w2.alloc (oQ1 k ra2 rs.length rc2 oa2 os.length oc2 0)) W1.heap.size (stV k ra2 rs.length rc2 oa2 os.length oc2 0) k rs os 0):=o2.below bA
 have L2:Hid (∀ j,hasBlock (stV k ra2 rs.length rc2 oa2 os.length oc2 0) j->W1.heap.size<=j/\j<w2.heap.size):=fun j hj=>o2.lt hj
 have B2:Hid (Below w.heap.size w (w2.alloc (oQ1 k ra2 rs.length rc2 oa2 os.length oc2 0))):=B1.out.trans (q2.mono B1.out.size)
 have zw:w.heap.size+1+1<W1.heap.size:=X1.out.lt
 have zv:w1.heap.size<W1.heap.size:=zJ W1 _ V1.out.1
 have z2:W1.heap.size<=w2.heap.size:=b2.size
 clear b2 o2 bA q2 X1 V1 B1
 obtain ⟨p0,p1,p2,p3,e0,e1,e2,r0,r1,r2,r3,rf⟩:=X2.out
 obtain ⟨u0,u1,u2⟩:=V2.out
 obtain ⟨t0,t1,t2,t3⟩:=Y2.out
 have tf:=F2.out
 go_wp2_with (first|(go_at_call 101;refine (l1Num_any _ _).mono ?_;rintro e w' ⟨rfl,rfl⟩)|(go_at_call 68;refine (l1In_any _ _ _ _).mono ?_;rintro e w' ⟨rfl,rfl⟩))
 generalize w2.alloc (oQ1 k ra2 rs.length rc2 oa2 os.length oc2 0)=W2 at *
 obtain ⟨o1,o2,ha⟩:=O2.out.parts
 obtain ⟨G,rfl,_,hG1,hG2⟩:=own_some o1 (by have:=H4.out;omega)
 have hGw:W1.heap.size<=G/\G<w2.heap.size:=L2.out G ((hasBlock_iff _ _ _ _ _).2 (.inl rfl))
 obtain ⟨⟨q1',q11⟩,⟨r0',r3'⟩,-,-⟩:=ins_range (right_ins HP.out hk)
 obtain ⟨jr,hjr⟩:=Int.eq_ofNat_of_zero_le r0'
 obtain ⟨c0,c1,c2,c3,c4⟩:=HI.out.below B2.out hb k hk
 rw [hjr] at c1
 have hj4:jr<rs.length:=by have:=H4.out;omega
 have hj4':(jr:Int)<(rs.length:Int):=by omega
 have cg:W2.cell? ⟨G,jr,none⟩=some (.int .i64 (zi rs jr)):=o1.cell hj4
 have fg:W2.frozen? ⟨G,jr,none⟩=false:=o1.frozen jr
 have HD:Hid (doneS len (g k) k rs os 0 ev=goS len k (rs.set jr ev) os 0):=by
  show doneS len (g k) k rs os 0 ev=goS len k (rs.set jr ev) os 0
  unfold doneS
  rw [H7.out,if_neg (by decide),if_pos rfl,hjr,Int.toNat_natCast]
 have zG:w.heap.size<G/\w.heap.size+1<G/\w.heap.size+1+1<G/\G≠w2.heap.size:=by omega
 have zb:b≠G:=by have:=B2.out;omega
 clear o1 o2 ha c0 c2 c3 c4 hjr q1' q11 r0' r3'
 go_region
 have m3:Marked (stV k (some ⟨G,0,none⟩) rs.length rc2 oa2 os.length oc2 0) W2 (W2.setCell ⟨G,jr,none⟩ (.int .i64 ev)).drew:=Marked.of_row (row:=some G) (grown_dr (zU (p:=⟨G,jr,none⟩) (World.grownBy.refl W2 (some G)) (.inl rfl) _)) fun j hj=>(hasBlock_iff _ _ _ _ _).2 (.inl (by cases hj;rfl))
 have O3:Hid (StOwn (W2.setCell ⟨G,jr,none⟩ (.int .i64 ev)).drew W1.heap.size (stV k (some ⟨G,0,none⟩) rs.length rc2 oa2 os.length oc2 0) k (rs.set jr ev) os 0):=by
  obtain ⟨o1,o2,ha⟩:=O2.out.parts
  exact ⟨_,_,rfl,(o1.set rfl jr ev).1,o2.setOther (fun e=>ha G rfl e) _,ha⟩
 have X3:Hid (DoBox (W2.setCell ⟨G,jr,none⟩ (.int .i64 ev)).drew w.heap.size (.int .i64 k) (.slice ra rs.length rc) (.slice oa os.length oc) (.int .i64 0) 3 eq ev):=X2.out.marked m3 fun j hj=>by have:=L2.out j hj;omega
 have Y3:Hid (BoxC (W2.setCell ⟨G,jr,none⟩ (.int .i64 ev)).drew w2.heap.size (.int .i64 k) (.slice (some ⟨G,0,none⟩) rs.length rc2) (.slice oa2 os.length oc2) (.int .i64 0)):=Y2.out.marked m3 fun hh=>by have:=L2.out _ hh;omega
 have B3:Hid (Below w.heap.size w (W2.setCell ⟨G,jr,none⟩ (.int .i64 ev)).drew):=B2.out.trans (m3.below B2.out.size fun j hj=>by have:=L2.out j hj;omega)
 clear p0 p1 p2 p3 e0 e1 e2 r0 r1 r2 r3 rf u0 u1 u2 t0 t1 t2 t3 tf m3 X2 V2 Y2 F2 O2 B2 cg fg c1
 obtain ⟨t0,t1,t2,t3⟩:=Y3.out
 go_wp2_with fail
 clear t0 t1 t2 t3
 generalize (W2.setCell ⟨G,jr,none⟩ (.int .i64 ev)).drew=W3 at *
 refine (l2Go_any _ _ _ _ _ _ _ _ _ _ _ _ (by omega) (by omega)).mono ?_
 rintro e w4 ⟨rfl,b4⟩
 have X4:Hid (DoBox w4 w.heap.size (.int .i64 k) (.slice ra rs.length rc) (.slice oa os.length oc) (.int .i64 0) 3 eq ev):=X3.out.below b4
 have O4:Hid (StOwn w4 W1.heap.size (stV k (some ⟨G,0,none⟩) rs.length rc2 oa2 os.length oc2 0) k (rs.set jr ev) os 0):=O3.out.below b4
 have B4:Hid (Below w.heap.size w w4):=B3.out.trans (b4.mono B3.out.size)
 clear b4 X3 Y3 O3 B3
 obtain ⟨-,-,-,-,-,-,-,r0,r1,r2,r3,rf⟩:=X4.out
 go_wp2
 refine bodyPost_ret (v:=.tuple #[stV (goP len k) (some ⟨G,0,none⟩) rs.length rc2 oa2 os.length oc2 (goC len k 0),.bool true]) (by simp [results,Tryz.results103,go_sem,r0,r1,r2,r3]) rfl ⟨_,rfl,?_,?_⟩
 ·rw [HD.out]
  exact StOwn.put4 (B':=W1.heap.size) ((O4.out.replace _).recode _) zw (by omega)
 ·have:=B4.out
  go_grown
theorem l2Do_print (b off len cap k:Nat) (g:Nat->I5) (ra oa:Option Addr) (rc oc:Nat) (rs os:List Int) (w:World) (hl:(len:Int)<=30) (hb:b<w.heap.size) (hI:InsAt w b off len g) (h4:rs.length=4) (ho:os.length<=60) (h1:Sl w ra rs) (h2:Sl w oa os) (hk:k<len) (hp:progOkB g len 4=true) (np nv:Int) (HN:Hid (evK (g k).o=4/\evP (g k).o (g k).n=np/\evW (g k).o (g k).a rs=nv)) (H8:Hid ((g k).o=8/\os.length≠60)) (h60:((os.length:Int) == 60)=false):
  Calls Tryz.prog 103 #[.slice (some ⟨b,off,none⟩) len cap,stV k ra rs.length rc oa os.length oc 0,evV 4 np nv] w fun e w'=>∃ v,e=.returned (.tuple #[v,.bool true])/\StOwn w' w.heap.size v (doneS len (g k) k rs os 0 nv).p (doneS len (g k) k rs os 0 nv).rs (doneS len (g k) k rs os 0 nv).os (doneS len (g k) k rs os 0 nv).c/\Below w.heap.size w w':=by
 have HI:Hid (InsAt w b off len g):=hI
 have H1:Hid (Sl w ra rs):=h1
 have H2:Hid (Sl w oa os):=h2
 have H4:Hid (rs.length=4):=h4
 have HP:Hid (progOkB g len 4=true):=hp
 have hk':(k:Int)<(len:Int):=by omega
 clear hI h1 h2 h4 hp
 go_enter Tryz.func103,Tryz.ntmps103
 go_wp2_with fail
 refine (l2Next_any _ _ _ _ k g _ _ _ _ _ _ rs _ (by unfold maxLen;omega) (by simp;omega) (HI.out.below (by go_grown) hb) (H1.out.below (by go_grown)) H4.out hk HP.out).mono ?_
 rintro e w1 ⟨he1,b1⟩
 rw [HN.out.1,HN.out.2.1,HN.out.2.2] at he1
 subst he1
 have B1:Hid (Below w.heap.size w (w1.alloc (oQ0 4 np nv))):=(below_up (by go_grown) b1 (by simp;omega)).alloc (by have:=b1.size;simp at this;omega) _
 have X1:Hid (DoBox (w1.alloc (oQ0 4 np nv)) w.heap.size (.int .i64 k) (.slice ra rs.length rc) (.slice oa os.length oc) (.int .i64 0) 4 np nv):=((DoBox.new w _ _ _ _ _ _ _ _ _ _).below b1).below (zS w1 _)
 clear b1
 obtain ⟨p0,p1,p2,p3,-,-,-,-,-,-,-,-⟩:=X1.out
 go_wp2_with fail
 clear p0 p1 p2 p3
 have V1:Hid (EvC3 (w1.alloc (oQ0 4 np nv)) w1.heap.size 4 np nv):=EvC3.new w1 _ _ _ _
 generalize w1.alloc (oQ0 4 np nv)=W1 at *
 refine (l2Copy_any _ _ _ _ _ _ rs os _ (by have:=H4.out;omega) (by omega) (H1.out.below B1.out) (H2.out.below B1.out)).mono ?_
 rintro e w2 ⟨v2,rfl,o2,b2⟩
 obtain ⟨ra2,rc2,oa2,oc2,rfl,-,-⟩:=o2.read
 have bA:=zS w2 (oQ1 k ra2 rs.length rc2 oa2 os.length oc2 0)
 have q2:Below W1.heap.size W1 (w2.alloc (oQ1 k ra2 rs.length rc2 oa2 os.length oc2 0)):=b2.trans (bA.mono b2.size)
 have X2:Hid (DoBox (w2.alloc (oQ1 k ra2 rs.length rc2 oa2 os.length oc2 0)) w.heap.size (.int .i64 k) (.slice ra rs.length rc) (.slice oa os.length oc) (.int .i64 0) 4 np nv):=X1.out.below q2
 have V2:Hid (EvC3 (w2.alloc (oQ1 k ra2 rs.length rc2 oa2 os.length oc2 0)) w1.heap.size 4 np nv):=V1.out.below q2
 have Y2:Hid (BoxC (w2.alloc (oQ1 k ra2 rs.length rc2 oa2 os.length oc2 0)) w2.heap.size (.int .i64 k) (.slice ra2 rs.length rc2) (.slice oa2 os.length oc2) (.int .i64 0)):=BoxC.new w2 _ _ _ _ _
 have F2:Hid (∀ j,(w2.alloc (oQ1 k ra2 rs.length rc2 oa2 os.length oc2 0)).frozen? ⟨w2.heap.size,j,none⟩=false):=fun j=>by simp
 have O2:Hid (StOwn (w2.alloc (oQ1 k ra2 rs.length rc2 oa2 os.length oc2 0)) W1.heap.size (stV k ra2 rs.length rc2 oa2 os.length oc2 0) k rs os 0):=o2.below bA
 have L2:Hid (∀ j,hasBlock (stV k ra2 rs.length rc2 oa2 os.length oc2 0) j->W1.heap.size<=j/\j<w2.heap.size):=fun j hj=>o2.lt hj
 have B2:Hid (Below w.heap.size w (w2.alloc (oQ1 k ra2 rs.length rc2 oa2 os.length oc2 0))):=B1.out.trans (q2.mono B1.out.size)
 have zw:w.heap.size+1+1<W1.heap.size:=X1.out.lt
 have zv:w1.heap.size<W1.heap.size:=zJ W1 _ V1.out.1
 have z2:W1.heap.size<=w2.heap.size:=b2.size
 clear b2 o2 bA q2 X1 V1 B1
 obtain ⟨p0,p1,p2,p3,e0,e1,e2,r0,r1,r2,r3,rf⟩:=X2.out
 obtain ⟨u0,u1,u2⟩:=V2.out
 obtain ⟨t0,t1,t2,t3⟩:=Y2.out
 have tf:=F2.out
 go_wp2_with (at_builtin;refine append_stop rfl ?_)
 unfold STOP
 have AS : Hid (Sl ((w2.alloc (oQ1 k ra2 rs.length rc2 oa2 os.length oc2 0)).alloc (.cells #[.int .i64 nv] 3)) (some ⟨w2.heap.size + 1, 0, none⟩) [nv]) := .inr ⟨w2.heap.size + 1, 0, rfl, by simp, fun i hi => by
  obtain rfl:i=0:=by simp at hi;omega
  exact zV _ _ _ 0 (by simp)⟩
 have bA:=zS (w2.alloc (oQ1 k ra2 rs.length rc2 oa2 os.length oc2 0)) (.cells #[.int .i64 nv] 3)
 clear p0 p1 p2 p3 e0 e1 e2 r0 r1 r2 r3 rf u0 u1 u2 t0 t1 t2 t3 tf
 have hsz:(w2.alloc (oQ1 k ra2 rs.length rc2 oa2 os.length oc2 0)).heap.size=w2.heap.size+1:=by simp
 have HZ:Hid ((w2.alloc (oQ1 k ra2 rs.length rc2 oa2 os.length oc2 0)).heap.size=w2.heap.size+1):=hsz
 clear hsz
 generalize w2.alloc (oQ1 k ra2 rs.length rc2 oa2 os.length oc2 0)=W2 at *
 obtain ⟨o1,o2,ha⟩:=O2.out.parts
 refine wpList_append_ints _ rfl _ _ rfl W1.heap.size 1 (.slice oa2 os.length oc2) (some ⟨w2.heap.size+1,0,none⟩) os [nv] rfl rfl (o2.below bA) AS.out (by simp;omega) (by have:=HZ.out;simp;omega) ?_
 intro v3 w3 o3 g3 at3
 obtain ⟨oa3,oc3,hv3,-⟩:=o3.form
 rw [show (os ++ [nv]).length=os.length+1 by simp] at hv3
 subst hv3
 have m3:Marked (stV k ra2 rs.length rc2 oa2 os.length oc2 0) W2 w3:=(Marked.of_below bA).trans (Marked.of_row g3 fun j hj=>(hasBlock_iff _ _ _ _ _).2 (.inr hj))
 have o1':OwnI w3 W1.heap.size (.slice ra2 rs.length rc2) rs:=own_apart (o1.below bA) g3 fun j h1 h2=>ha j h2 h1
 have lr:∀ j,(Value.slice ra2 rs.length rc2).ownBlock=some j->j<w2.heap.size:=fun j hj=>(L2.out j ((hasBlock_iff _ _ _ _ _).2 (.inl hj))).2
 have lo:∀ j,(Value.slice oa3 (os.length+1) oc3).ownBlock=some j->j<w2.heap.size\/w2.heap.size<j:=fun j hj=>by
  rcases at3 with h | h
  ·exact .inl (L2.out j ((hasBlock_iff _ _ _ _ _).2 (.inr (h.symm.trans hj)))).2
  ·rw [hj,World.size_alloc,HZ.out] at h
   exact .inr (by cases h;omega)
 have ha':∀ j,(Value.slice ra2 rs.length rc2).ownBlock=some j->(Value.slice oa3 (os.length+1) oc3).ownBlock≠some j:=fun j hj hj'=>by
  rcases at3 with h | h
  ·exact ha j hj (h.symm.trans hj')
  ·rw [hj',World.size_alloc,HZ.out] at h
   have:=lr j hj
   cases h
   omega
 have Y3:=Y2.out.marked m3 fun hh=>by have:=L2.out _ hh;omega
 have f3:∀ j,w3.frozen? ⟨w2.heap.size,j,none⟩=false:=fun j=>(m3.frozen (by have:=HZ.out;omega) (fun hh=>by have:=L2.out _ hh;omega) j).trans (F2.out j)
 have X3:Hid (DoBox w3 w.heap.size (.int .i64 k) (.slice ra rs.length rc) (.slice oa os.length oc) (.int .i64 0) 4 np nv):=X2.out.marked m3 fun j hj=>by have:=L2.out j hj;omega
 have X4:Hid (DoBox (w3.setCell ⟨w2.heap.size,2,none⟩ (.slice oa3 (os.length+1) oc3)) w.heap.size (.int .i64 k) (.slice ra rs.length rc) (.slice oa os.length oc) (.int .i64 0) 4 np nv):=X3.out.kept fun j _ hj=>zN _ _ _ _ (by simp;omega)
 have O4:Hid (StOwn (w3.setCell ⟨w2.heap.size,2,none⟩ (.slice oa3 (os.length+1) oc3)) W1.heap.size (stV k ra2 rs.length rc2 oa3 (os.length+1) oc3 0) k rs (os ++ [nv]) 0):=⟨_,_,rfl,o1'.setOther (fun e=>by have:=lr _ e;simp at this) _,o3.setOther (fun e=>by have:=lo _ e;simp at this) _,ha'⟩
 have B4:Hid (Below w.heap.size w (w3.setCell ⟨w2.heap.size,2,none⟩ (.slice oa3 (os.length+1) oc3))):=(B2.out.trans (m3.below B2.out.size fun j hj=>by have:=L2.out j hj;omega)).setCell (by simp;omega) _
 clear o1 o2 ha o3 g3 at3 bA AS m3 o1' lr lo ha' X2 V2 Y2 F2 O2 B2 X3
 obtain ⟨t0,t1,t2,t3⟩:=Y3
 go_wp2_with fail
 clear t0 t1 t2 t3 f3
 generalize (w3.setCell ⟨w2.heap.size,2,none⟩ (.slice oa3 (os.length+1) oc3))=W4 at *
 refine (l2Go_any _ _ _ _ _ _ _ _ _ _ _ _ (by omega) (by omega)).mono ?_
 rintro e w5 ⟨rfl,b5⟩
 have X5:Hid (DoBox w5 w.heap.size (.int .i64 k) (.slice ra rs.length rc) (.slice oa os.length oc) (.int .i64 0) 4 np nv):=X4.out.below b5
 have O5:Hid (StOwn w5 W1.heap.size (stV k ra2 rs.length rc2 oa3 (os.length+1) oc3 0) k rs (os ++ [nv]) 0):=O4.out.below b5
 have B5:Hid (Below w.heap.size w w5):=B4.out.trans (b5.mono B4.out.size)
 clear b5 X4 O4 B4
 obtain ⟨-,-,-,-,-,-,-,r0,r1,r2,r3,rf⟩:=X5.out
 go_wp2
 refine bodyPost_ret (v:=.tuple #[stV (goP len k) ra2 rs.length rc2 oa3 (os.length+1) oc3 (goC len k 0),.bool true]) (by simp [results,Tryz.results103,go_sem,r0,r1,r2,r3]) rfl ⟨_,rfl,?_,?_⟩
 ·have hd:doneS len (g k) k rs os 0 nv=goS len k rs (os ++ [nv]) 0:=by
   unfold doneS
   rw [H8.out.1,if_neg (by decide),if_neg (by decide),if_pos rfl,if_neg H8.out.2]
  rw [hd]
  exact StOwn.put4 (B':=W1.heap.size) ((O5.out.replace _).recode _) zw (by omega)
 ·have:=B5.out
  go_grown
structure Tu (lo hi:Nat) (w w':World):Prop where
 os:w'.os=w.os
 tape:w'.tape=w.tape
 output:w'.output=w.output
 size:w.heap.size<=w'.heap.size
 block:∀ k,k<w.heap.size->(k<lo\/hi<=k)->w'.heap[k]? = w.heap[k]?
theorem Tu.of_below {w w':World} (h:Below w.heap.size w w'):Tu 0 0 w w':=⟨h.os,h.tape,h.output,h.size,fun k hk _=>h.block k hk⟩
theorem Tu.of_row {w w':World} {b:Nat} (h:w.grownBy w' (some b)):Tu b (b+1) w w':=⟨h.os,h.tape,h.output,h.size,fun k hk hn=>h.block k hk (by simp;omega)⟩
theorem Tu.below {lo hi B:Nat} {w w':World} (h:Tu lo hi w w') (hB:B<=w.heap.size) (hl:B<=lo):Below B w w':=⟨h.os,h.tape,h.output,h.size,fun k hk=>h.block k (by omega) (.inl (by omega))⟩
theorem OwnI.ofBlock {w w':World} {B:Nat} {u:Value} {xs:List Int} (hu:OwnI w B u xs) (ha:∀ k,u.ownBlock=some k->w'.heap[k]? = w.heap[k]?):OwnI w' B u xs:=by
 rcases hu.2 with ⟨rfl,h0⟩ | ⟨g,cap,cur,rfl,hb,hg,hr⟩
 ·exact ⟨hu.1,.inl ⟨rfl,h0⟩⟩
 ·refine ⟨hu.1,.inr ⟨g,cap,cur,rfl,hb,?_,hr⟩⟩
  rw [ha g rfl]
  exact hg
theorem OwnI.slOf {w:World} {B n cap:Nat} {a0:Option Addr} {xs:List Int} (h:OwnI w B (.slice a0 n cap) xs):Sl w a0 xs:=by
 obtain ⟨a1,c1,e,s⟩:=h.form
 simp only [Value.slice.injEq] at e
 obtain ⟨rfl,-,-⟩:=e
 exact s
structure Tl (w:World) (B C N:Nat) (p c:Int) (ra:Option Addr) (rn rc:Nat) (oa:Option Addr) (on oc:Nat) (rs os:List Int):Prop where
 lo:B<=N
 hi:N<C
 sz:C<=w.heap.size
 box:BoxC w N (.int .i64 p) (.slice ra rn rc) (.slice oa on oc) (.int .i64 c)
 own:StOwn w B (stV p ra rn rc oa on oc c) p rs os c
 up:∀ k,hasBlock (stV p ra rn rc oa on oc c) k->k<C
 ne:¬ hasBlock (stV p ra rn rc oa on oc c) N
theorem Tl.tu {w w':World} {B C N:Nat} {p c:Int} {ra:Option Addr} {rn rc:Nat} {oa:Option Addr} {on oc:Nat} {rs os:List Int} {lo hi:Nat} (h:Tl w B C N p c ra rn rc oa on oc rs os) (t:Tu lo hi w w') (hd:C<=lo\/hi<=B):Tl w' B C N p c ra rn rc oa on oc rs os:=by
 obtain ⟨h1,h2,h3,⟨b0,b1,b2,b3⟩,h5,h6,h7⟩:=h
 have hb:∀ k,B<=k->k<C->w'.heap[k]? = w.heap[k]?:=fun k k1 k2=>t.block k (by omega) (by omega)
 have hN:=hb N h1 h2
 refine ⟨h1,h2,zO h3 t.size,⟨(zH hN).trans b0,(zH hN).trans b1,(zH hN).trans b2,(zH hN).trans b3⟩,?_,h6,h7⟩
 obtain ⟨o1,o2,ha⟩:=h5.parts
 refine ⟨_,_,rfl,o1.ofBlock fun k hk=>?_,o2.ofBlock fun k hk=>?_,ha⟩
 ·exact hb k (o1.lt k hk).1 (h6 k ((hasBlock_iff _ _ _ _ _).2 (.inl hk)))
 ·exact hb k (o2.lt k hk).1 (h6 k ((hasBlock_iff _ _ _ _ _).2 (.inr hk)))
theorem Tl.below {w w':World} {B C N:Nat} {p c:Int} {ra:Option Addr} {rn rc:Nat} {oa:Option Addr} {on oc:Nat} {rs os:List Int} (h:Tl w B C N p c ra rn rc oa on oc rs os) (hb:Below w.heap.size w w'):Tl w' B C N p c ra rn rc oa on oc rs os:=h.tu (Tu.of_below hb) (.inr (Nat.zero_le _))
theorem Tl.sl {w:World} {B C N:Nat} {p c:Int} {ra:Option Addr} {rn rc:Nat} {oa:Option Addr} {on oc:Nat} {rs os:List Int} (h:Tl w B C N p c ra rn rc oa on oc rs os):Sl w ra rs/\Sl w oa os:=⟨h.own.parts.1.slOf,h.own.parts.2.1.slOf⟩
theorem Tl.marked {w w':World} {B C N:Nat} {p c:Int} {ra:Option Addr} {rn rc:Nat} {oa:Option Addr} {on oc:Nat} {rs os rs' os':List Int} (h:Tl w B C N p c ra rn rc oa on oc rs os) (ho:StOwn w' B (stV p ra rn rc oa on oc c) p rs' os' c) (hm:Marked (stV p ra rn rc oa on oc c) w w'):Tl w' B C N p c ra rn rc oa on oc rs' os':=
 ⟨h.lo,h.hi,zO h.sz hm.size,h.box.marked hm h.ne,ho,h.up,h.ne⟩
theorem Tl.of_alloc {w:World} {B:Nat} {p c:Int} {ra oa:Option Addr} {rn rc on oc:Nat} {rs os:List Int} (h:StOwn w B (stV p ra rn rc oa on oc c) p rs os c) (hw:B<=w.heap.size) (t:TypeId):Tl (w.alloc (.cells #[.int .i64 p,.slice ra rn rc,.slice oa on oc,.int .i64 c] t)) B (w.heap.size+1) w.heap.size p c ra rn rc oa on oc rs os:=
 ⟨hw,Nat.lt_succ_self _,by simp,BoxC.new w _ _ _ _ _,h.below (zS _ _),fun k hk=>Nat.lt_succ_of_lt (h.lt hk).2,fun e=>Nat.lt_irrefl _ (h.lt e).2⟩
def Told (w:World) (B N:Nat) (S:S4):Prop:=∃ ra rc oa oc,BoxC w N (.int .i64 S.p) (.slice ra S.rs.length rc) (.slice oa S.os.length oc) (.int .i64 S.c)/\StOwn w B (stV S.p ra S.rs.length rc oa S.os.length oc S.c) S.p S.rs S.os S.c/\B<=N/\¬ hasBlock (stV S.p ra S.rs.length rc oa S.os.length oc S.c) N
theorem Told.tl {w:World} {B N:Nat} {S:S4} (h:Told w B N S):∃ ra rc oa oc,Tl w B w.heap.size N S.p S.c ra S.rs.length rc oa S.os.length oc S.rs S.os:=by
 obtain ⟨ra,rc,oa,oc,h1,h2,h3,h4⟩:=h
 exact ⟨ra,rc,oa,oc,h3,zJ w _ h1.1,Nat.le_refl _,h1,h2,fun k hk=>(h2.lt hk).2,h4⟩
theorem BoxC.set4 {w:World} {N:Nat} {z0 z1 z2 z3:Value} (h:BoxC w N z0 z1 z2 z3) (a b c d:Value):BoxC ((((w.setCell ⟨N,0,none⟩ a).setCell ⟨N,1,none⟩ b).setCell ⟨N,2,none⟩ c).setCell ⟨N,3,none⟩ d) N a b c d:=by
 obtain ⟨h0,h1,h2,h3⟩:=h
 exact ⟨by go_cell,by go_cell,by go_cell,by go_cell⟩
theorem grown4 (w:World) (N:Nat) (a b c d:Value):w.grownBy ((((w.setCell ⟨N,0,none⟩ a).setCell ⟨N,1,none⟩ b).setCell ⟨N,2,none⟩ c).setCell ⟨N,3,none⟩ d) (some N):=by
 repeat (refine zU ?_ (.inl rfl) _)
 exact World.grownBy.refl _ _
theorem Told.of_alloc {w:World} {B B':Nat} {S:S4} {ra oa:Option Addr} {rc oc:Nat} (h:StOwn w B' (stV S.p ra S.rs.length rc oa S.os.length oc S.c) S.p S.rs S.os S.c) (hB:B<=B') (hw:B<=w.heap.size) (t:TypeId):Told (w.alloc (.cells #[.int .i64 S.p,.slice ra S.rs.length rc,.slice oa S.os.length oc,.int .i64 S.c] t)) B w.heap.size S:=by
 refine ⟨ra,rc,oa,oc,BoxC.new w _ _ _ _ _,?_,hw,fun e=>Nat.lt_irrefl _ (h.lt e).2⟩
 obtain ⟨vr,vo,e,o1,o2,ha⟩:=h
 exact ⟨vr,vo,e,(o1.below (zS _ _)).mono hB,(o2.below (zS _ _)).mono hB,ha⟩
theorem Told.of_put {w:World} {B B' N:Nat} {S:S4} {ra oa:Option Addr} {rc oc:Nat} {z0 z1 z2 z3:Value} (h:StOwn w B' (stV S.p ra S.rs.length rc oa S.os.length oc S.c) S.p S.rs S.os S.c) (hB:B<=B') (hN:N<B') (hw:B<=N) (hZ:BoxC w N z0 z1 z2 z3):Told ((((w.setCell ⟨N,0,none⟩ (.int .i64 S.p)).setCell ⟨N,1,none⟩ (.slice ra S.rs.length rc)).setCell ⟨N,2,none⟩ (.slice oa S.os.length oc)).setCell ⟨N,3,none⟩ (.int .i64 S.c)) B N S:=
 ⟨ra,rc,oa,oc,hZ.set4 _ _ _ _,h.put4 hN hB,hw,fun e=>Nat.not_le_of_lt hN (h.lt e).1⟩
