import Derived.Test.YtkdablcbhhphoaaGreatDoorMt15
namespace Go.Proofs.YtkdablcbhhphoaaGreatDoor
open Go.Proofs.Tryz
set_option maxRecDepth 100000
set_option maxHeartbeats 8000000
open Go.RowKit Go.Sort
def qa5 (w:World) (B C:Nat) (w':World):Prop:=w.heap.size<=w'.heap.size/\∀ b,b<w.heap.size->b≠B->b≠C->w'.heap[b]? = w.heap[b]?
theorem qa5.of {w w':World} {B C:Nat} (h:Below w.heap.size w w'):qa5 w B C w':=⟨h.size,fun b hb _ _=>h.block b hb⟩
theorem qa5.set {w w':World} {B C:Nat} (h:qa5 w B C w') {p:Addr} (hp:w.heap.size<=p.block\/p.block=B\/p.block=C) (u:Value):qa5 w B C (w'.setCell p u):=
 ⟨by simp;exact h.1,fun b hb h1 h2=>(zN _ _ _ _ (by rcases hp with e | e | e <;> omega)).trans (h.2 b hb h1 h2)⟩
theorem qa5.drew {w w':World} {B C:Nat} (h:qa5 w B C w'):qa5 w B C w'.drew:=h
def RunR (w0 w:World) (A B C gb n gc k:Nat) (S:S4) (T:Bool) (e:Ending) (w':World):Prop:=
 qa5 w B C w'/\
 ((T = true ∧ k ≠ 200 ∧ ∃ ra rc oa oc, e = .returned (.tuple #[stV S.p ra S.rs.length rc oa S.os.length oc S.c, .nilIface]) ∧ Rn w0 w' A B C gb n gc (k + 1) S.p S.c ra rc oa oc S.rs S.os ∧ ∀ j, qae (stV S.p ra S.rs.length rc oa S.os.length oc S.c) j → w.heap.size ≤ j) ∨
 ((T=false\/k=200)/\e=.returned (.tuple #[stV 0 none 0 0 none 0 0 0,.iface 273 (.agg #[.int .i64 k])])/\Below w0.heap.size w0 w'))
theorem BoxC.setP {w:World} {N M:Nat} {p a b c:Value} (h:BoxC w N p a b c) (hne:M≠N) (j:Nat) (u:Value):BoxC (w.setCell ⟨M,j,none⟩ u) N p a b c:=by
 obtain ⟨h0,h1,h2,h3⟩:=h;have hc:∀ i,(w.setCell ⟨M,j,none⟩ u).cell? ⟨N,i,none⟩=w.cell? ⟨N,i,none⟩:=fun i=>World.cell?_setCell_other _ _ _ _ fun e=>hne (by injection e);exact ⟨(hc _).trans h0,(hc _).trans h1,(hc _).trans h2,(hc _).trans h3⟩
theorem qrg {w:World} {N:Nat} {p q r s:Value} (h:BoxC w N p q r s) (a b c d:Value):BoxC ((((w.setCell ⟨N,0,none⟩ a).setCell ⟨N,1,none⟩ b).setCell ⟨N,2,none⟩ c).setCell ⟨N,3,none⟩ d) N a b c d:=by
 obtain ⟨h0,h1,h2,h3⟩:=h;have hc:∀ (W:World) (i j:Nat) (u:Value),i≠j->(W.setCell ⟨N,i,none⟩ u).cell? ⟨N,j,none⟩=W.cell? ⟨N,j,none⟩:=fun W i j u hij=>World.cell?_setCell_other _ _ _ _ fun e=>hij (by injection e);refine ⟨?_,?_,?_,?_⟩
 ·rw [hc _ 3 0 _ (by omega),hc _ 2 0 _ (by omega),hc _ 1 0 _ (by omega)]
  exact World.cell?_setCell_same _ _ _ h0
 ·rw [hc _ 3 1 _ (by omega),hc _ 2 1 _ (by omega)]
  exact World.cell?_setCell_same _ _ _ ((hc _ 0 1 _ (by omega)).trans h1)
 ·rw [hc _ 3 2 _ (by omega)]
  exact World.cell?_setCell_same _ _ _ ((hc _ 1 2 _ (by omega)).trans ((hc _ 0 2 _ (by omega)).trans h2))
 ·exact World.cell?_setCell_same _ _ _ ((hc _ 2 3 _ (by omega)).trans ((hc _ 1 3 _ (by omega)).trans ((hc _ 0 3 _ (by omega)).trans h3)))
theorem qt1 (A B C gb n gc k:Nat) (g:Nat->I5) (p code:Int) (ra:Option Addr) (rc:Nat) (oa:Option Addr) (oc:Nat) (rs os:List Int) (ek eq ev:Int) (w0 w:World) (hR:Rn w0 w A B C gb n gc k p code ra rc oa oc rs os) (hn:n<=maxLen) (hg:gb<w0.heap.size) (hI:qao w0 gb 0 n g) (hp:qac g n 4=true) (hk:k<=200) (hr:rs.length<=1048576) (ho:os.length<=1048576):
  Calls prog 249 #[evV ek eq ev,.pointer (some ⟨A,0,none⟩),.pointer (some ⟨B,0,none⟩),.pointer (some ⟨C,0,none⟩)] w (RunR w0 w A B C gb n gc k (doS g n p rs os code ek eq ev) (doB g n p rs os code ek eq ev)):=by
 have HR:Hid (Rn w0 w A B C gb n gc k p code ra rc oa oc rs os):=hR;have HI:Hid (qao w0 gb 0 n g):=hI;have HL:Hid (n<=maxLen):=hn;have HP:Hid (qac g n 4=true):=hp;clear hR hI hn hp;have zA:A<w.heap.size:=zJ w _ HR.la;have zB:B<w.heap.size:=HR.tl.hi;have zC:C<w.heap.size:=zJ w _ HR.ck;obtain ⟨c0,c1,c2,c3⟩:=HR.tl.box;have la:=HR.la;have ck:=HR.ck;generalize hS:doS g n p rs os code ek eq ev=S;generalize hT:doB g n p rs os code ek eq ev=T;have HN:Hid (doS g n p rs os code ek eq ev=S/\doB g n p rs os code ek eq ev=T):=⟨hS,hT⟩
 clear hS hT
 go_enter func249,ntmps249
 go_wp2_with fail
 have bz:Below w.heap.size w ((w.alloc (oQ0 ek eq ev)).alloc (zQ0)):=by go_grown
 have hz:((w.alloc (oQ0 ek eq ev)).alloc (zQ0)).heap.size=w.heap.size+2:=by simp
 have H2:Hid (Rn w0 ((w.alloc (oQ0 ek eq ev)).alloc (zQ0)) A B C gb n gc k p code ra rc oa oc rs os):=HR.bw bz
 have R2:Hid (BoxC ((w.alloc (oQ0 ek eq ev)).alloc (zQ0)) (w.heap.size+1) (.int .i64 0) nS nS (.int .i64 0)/\∀ j,((w.alloc (oQ0 ek eq ev)).alloc (zQ0)).frozen? ⟨w.heap.size+1,j,none⟩=false):=by
  have h1:=BoxC.new (w.alloc (oQ0 ek eq ev)) (.int .i64 0) nS nS (.int .i64 0) 142;have h2:=fun j=>yA (w.alloc (oQ0 ek eq ev)) #[.int .i64 0,nS,nS,.int .i64 0] 142 j rfl
  (try dsimp only [aW] at h1 h2);rw [World.size_alloc] at h1 h2
  exact ⟨h1,h2⟩
 have HB2:Hid (Below w.heap.size w ((w.alloc (oQ0 ek eq ev)).alloc (zQ0))):=bz;clear bz;generalize (w.alloc (oQ0 ek eq ev)).alloc (zQ0)=w2 at *;have HZ:Hid (w2.heap.size=w.heap.size+2):=hz;clear hz;refine (qwh gb 0 n gc g p code ra oa rc oc rs os ek eq ev w2 HL.out (zL hg H2.be.size) (HI.bw H2.be hg) hr ho H2.tl.sl.1 H2.tl.sl.2 HP.out).mono ?_;rintro e w3 hd;rw [HN.1,HN.2] at hd;obtain ⟨v3,rfl,o3,b3⟩:=hd;obtain ⟨ra7,rc7,oa7,oc7,rfl,-,-⟩:=o3.read;have b4:Below w2.heap.size w2 (w3.alloc (oQ1 S.p ra7 S.rs.length rc7 oa7 S.os.length oc7 S.c)):=b3.trans ((zS _ _).mono b3.size);have H4:Hid (Rn w0 (w3.alloc (oQ1 S.p ra7 S.rs.length rc7 oa7 S.os.length oc7 S.c)) A B C gb n gc k p code ra rc oa oc rs os):=H2.bw b4;have eR:=b4.block (w.heap.size+1) (by have:=HZ.out;omega);have R4:Hid (BoxC (w3.alloc (oQ1 S.p ra7 S.rs.length rc7 oa7 S.os.length oc7 S.c)) (w.heap.size+1) (.int .i64 0) nS nS (.int .i64 0)/\∀ j,(w3.alloc (oQ1 S.p ra7 S.rs.length rc7 oa7 S.os.length oc7 S.c)).frozen? ⟨w.heap.size+1,j,none⟩=false):=⟨R2.1.bw b4,fun j=>(zI eR).trans (R2.2 j)⟩
 have O4:Hid (qag (w3.alloc (oQ1 S.p ra7 S.rs.length rc7 oa7 S.os.length oc7 S.c)) w2.heap.size (stV S.p ra7 S.rs.length rc7 oa7 S.os.length oc7 S.c) S.p S.rs S.os S.c):=o3.bw (zS _ _);have N4:Hid (BoxC (w3.alloc (oQ1 S.p ra7 S.rs.length rc7 oa7 S.os.length oc7 S.c)) w3.heap.size (.int .i64 S.p) (.slice ra7 S.rs.length rc7) (.slice oa7 S.os.length oc7) (.int .i64 S.c)):=BoxC.new w3 _ _ _ _ _;have z3:w2.heap.size<=w3.heap.size:=b3.size;have K4:Hid (Below w.heap.size w (w3.alloc (oQ1 S.p ra7 S.rs.length rc7 oa7 S.os.length oc7 S.c))):=HB2.trans (b4.mono HB2.size);clear HB2;clear o3 b3 b4 eR R2 H2 HR c0 c1 c2 c3 la ck;obtain ⟨c0,c1,c2,c3⟩:=H4.tl.box;have ck:=H4.ck;have cf:=H4.fb;have fc:=H4.fc;obtain ⟨⟨r0,r1,r2,r3⟩,rf⟩:=R4.out;obtain ⟨n0,n1,n2,n3⟩:=N4.out;obtain ⟨x1,x2,x3,x4,x5⟩:=H4.ne;have hz:=HZ.out;have y1:w.heap.size+1≠B:=by omega
 have y2:w.heap.size+1≠C:=by omega
 have y3:w.heap.size+1≠A:=by omega
 have y4:w3.heap.size≠B:=by omega
 have y5:w3.heap.size≠C:=by omega
 have y6:w3.heap.size≠w.heap.size+1:=by omega
 have y7:B≠w.heap.size+1:=fun e=>y1 e.symm;have y8:C≠w.heap.size+1:=fun e=>y2 e.symm;have y9:B≠C:=fun e=>x2 e.symm;have bw:w0.heap.size<=w.heap.size+1:=by have:=H4.tl.lo;omega
 have HM:Hid (∀ a b c d:Value,Below w0.heap.size w0 ((((((w3.alloc (oQ1 S.p ra7 S.rs.length rc7 oa7 S.os.length oc7 S.c)).setCell ⟨w.heap.size+1,0,none⟩ a).setCell ⟨w.heap.size+1,1,none⟩ b).setCell ⟨w.heap.size+1,2,none⟩ c).setCell ⟨w.heap.size+1,3,none⟩ d))):=fun a b c d=>(((H4.be.setCell bw _).setCell bw _).setCell bw _).setCell bw _;have HNx:Hid (Rn w0 _ A B C gb n gc (k+1) S.p S.c ra7 rc7 oa7 oc7 S.rs S.os):=H4.next (R1:=w.heap.size+1) O4.out (by have:=HZ.out;omega) (by have:=HZ.out;omega) (by have:=HZ.out;omega) (by have:=HZ.out;omega) y3 y1 y2 bw (by have:=HZ.out;omega);clear hz z3 zA zB zC;go_upto_region 2 with fail
 generalize (w3.alloc (oQ1 S.p ra7 S.rs.length rc7 oa7 S.os.length oc7 S.c))=w4 at *;cases T
 case false=>
  go_wp2_with fail
  go_region
  go_wp2;refine bodyPost_ret (v:=.tuple #[stV 0 none 0 0 none 0 0 0,.iface 273 (.agg #[.int .i64 k])]) (by simp [results,results249,go_sem,r0,r1,r2,r3]) rfl ⟨?_,.inr ⟨.inl rfl,rfl,Below.drew (HM.out _ _ _ _)⟩⟩;exact qa5.drew (qa5.set (qa5.set (qa5.set (qa5.set (qa5.of K4.out) (Or.inl (nK _)) _) (Or.inl (nK _)) _) (Or.inl (nK _)) _) (Or.inl (nK _)) _)
 case true=>
  rcases zK ((k:Int) == 200) with tk | tk
  ·have hk2:k=200:=by
    have:=of_decide_eq_true tk;omega
   go_wp2_with fail
   go_region
   go_wp2;refine bodyPost_ret (v:=.tuple #[stV 0 none 0 0 none 0 0 0,.iface 273 (.agg #[.int .i64 200])]) (by simp [results,results249,go_sem,r0,r1,r2,r3]) rfl ⟨?_,.inr ⟨.inr hk2,by rw [hk2];rfl,Below.drew (HM.out _ _ _ _)⟩⟩;exact qa5.drew (qa5.set (qa5.set (qa5.set (qa5.set (qa5.of K4.out) (Or.inl (nK _)) _) (Or.inl (nK _)) _) (Or.inl (nK _)) _) (Or.inl (nK _)) _)
  ·have hk2:k≠200:=by
    have:=of_decide_eq_false tk;omega
   have hk3:(k:Int)<200:=by omega
   have HZ4:Hid (BoxC _ (w.heap.size+1) (.int .i64 S.p) (.slice ra7 S.rs.length rc7) (.slice oa7 S.os.length oc7) (.int .i64 S.c)):=qrg ((((((R4.1.setP y7 0 (.int .i64 S.p)).setP y7 1 (.slice ra7 S.rs.length rc7)).setP y7 2 (.slice oa7 S.os.length oc7)).setP y7 3 (.int .i64 S.c)).setP y8 0 (.int .i64 ((k:Int)+1)))) (.int .i64 S.p) (.slice ra7 S.rs.length rc7) (.slice oa7 S.os.length oc7) (.int .i64 S.c);have HNy:=HNx.out;rw [show ((k+1:Nat):Int)=(k:Int)+1 from by omega] at HNy;have HNz:Hid (Rn w0 _ A B C gb n gc (k+1) S.p S.c ra7 rc7 oa7 oc7 S.rs S.os):=HNy;have HK9:Hid (qa5 w B C _):=qa5.set (qa5.set (qa5.set (qa5.set (qa5.set (qa5.set (qa5.set (qa5.set (qa5.set (qa5.of K4.out) (p:=⟨B,0,none⟩) (.inr (.inl rfl)) (.int .i64 S.p)) (p:=⟨B,1,none⟩) (.inr (.inl rfl)) (.slice ra7 S.rs.length rc7)) (p:=⟨B,2,none⟩) (.inr (.inl rfl)) (.slice oa7 S.os.length oc7)) (p:=⟨B,3,none⟩) (.inr (.inl rfl)) (.int .i64 S.c)) (p:=⟨C,0,none⟩) (.inr (.inr rfl)) (.int .i64 ((k:Int)+1))) (p:=⟨w.heap.size+1,0,none⟩) (.inl (nK _)) (.int .i64 S.p)) (p:=⟨w.heap.size+1,1,none⟩) (.inl (nK _)) (.slice ra7 S.rs.length rc7)) (p:=⟨w.heap.size+1,2,none⟩) (.inl (nK _)) (.slice oa7 S.os.length oc7)) (p:=⟨w.heap.size+1,3,none⟩) (.inl (nK _)) (.int .i64 S.c)
   have HJ:Hid (∀ j,qae (stV S.p ra7 S.rs.length rc7 oa7 S.os.length oc7 S.c) j->w.heap.size<=j):=fun j hj=>by
    have:=(O4.lt hj).1;have:=HZ.out;omega
   clear HNx HNy HM;go_wp2_with fail
   clear c0 c1 c2 c3 ck cf fc r0 r1 r2 r3 rf n0 n1 n2 n3;obtain ⟨z0,z1,z2,z3⟩:=HZ4.out;generalize ((((((((w4.setCell ⟨B,0,none⟩ (.int .i64 S.p)).setCell ⟨B,1,none⟩ (.slice ra7 S.rs.length rc7)).setCell ⟨B,2,none⟩ (.slice oa7 S.os.length oc7)).setCell ⟨B,3,none⟩ (.int .i64 S.c)).setCell ⟨C,0,none⟩ (.int .i64 ((k:Int)+1))).setCell ⟨w.heap.size+1,0,none⟩ (.int .i64 S.p)).setCell ⟨w.heap.size+1,1,none⟩ (.slice ra7 S.rs.length rc7)).setCell ⟨w.heap.size+1,2,none⟩ (.slice oa7 S.os.length oc7)).setCell ⟨w.heap.size+1,3,none⟩ (.int .i64 S.c)=w9 at *;exact bodyPost_ret (v:=.tuple #[stV S.p ra7 S.rs.length rc7 oa7 S.os.length oc7 S.c,.nilIface]) (by simp [results,results249,go_sem,z0,z1,z2,z3]) rfl ⟨HK9.out,.inl ⟨rfl,hk2,ra7,rc7,oa7,oc7,rfl,HNz.out,HJ.out⟩⟩
