import Derived.Test.YthgpldgkabcopaaGreatDoorYh34
import Derived.Test.YthgpldgkabcopaaGreatDoorYh35
namespace Go.Proofs.YthgpldgkabcopaaGreatDoor
set_option maxRecDepth 100000
set_option maxHeartbeats 4000000
open Go.ChangeShapes Go.WideShapes Go.ChangeAt Go.RowKit Go.Deep
theorem qq0 {w:World} {B:Nat} {a:Option Addr} {cap lo:Nat} {xs:List Int} (h:OwnI w B (.slice a xs.length cap) xs) (hl:lo<=xs.length):
  ∃ a',(∀ w',(Instr.slice 40 (.slice a xs.length cap) (some (.int .i64 (lo:Int))) none none).run Tryz.prog w'=.ok (.slice a' (xs.drop lo).length (cap - lo)) w')/\∀ k,k<(xs.drop lo).length->∃ g o,a'=some ⟨g,o,none⟩/\B<=g/\g<w.heap.size/\w.cell? ⟨g,o+k,none⟩=some (.int .i64 (zi (xs.drop lo) k)):=by
 have hl':(lo:Int)<=(xs.length:Int):=by omega
 rcases h.2 with ⟨e,h0⟩ | ⟨g,cp,cur,e,hb,hg,hnc,-⟩
 ·simp only [Value.slice.injEq] at e
  obtain ⟨rfl,-,rfl⟩:=e
  have h00:lo=0:=by omega
  subst h00
  refine ⟨none,fun w'=>?_,fun k hk=>?_⟩
  ·rw [h0]
   simp [go_sem,h0]
  ·simp at hk
   omega
 ·simp only [Value.slice.injEq] at e
  obtain ⟨rfl,-,rfl⟩:=e
  by_cases hc:cap=lo
  ·refine ⟨some (aQ g 0),fun w'=>?_,fun k hk=>?_⟩
   ·have e1:xs.length=lo:=by omega
    subst hc
    simp [go_sem,e1]
   ·simp at hk
    omega
  ·refine ⟨some (aQ g lo),fun w'=>?_,fun k hk=>⟨g,lo,rfl,hb,(h.lt g rfl).2,?_⟩⟩
   ·simp [go_sem,hl',hc,Addr.add]
    exact fun h=>h.symm
   ·rw [qos]
    exact h.cell (by simp at hk;omega)
theorem qq2 (X hc:Nat) (ha:Option Addr) (hA:Nat->Option Addr) (hC:Nat->Nat) (y:Hs) (a b:Nat) (w:World) (c0:w.cell? ⟨X,0,none⟩=some (.slice ha y.n hc)) (hE:HisE w ha hA hC y) (hl:∀ i,i<y.n->y.l i<=200) (hbn:b<y.n):
  Calls Tryz.prog 94 #[.pointer (some (aQ X 0)),.int .i64 a,.int .i64 b] w fun e w'=>∃ a1 c1,e=.returned (.slice a1 (cnt (y.e b) 3 a (y.l b)) c1)/\Bw w w':=by
 have HE:Hid (EvL w (hA b) (y.l b) (y.e b)):=hE.ev b hbn
 have HLb:Hid (y.l b<=1048576):=by have:=hl b hbn;show _<=_;omega
 have hb':(b:Int)<(y.n:Int):=by omega
 obtain ⟨bh,oh,eh,ch⟩:=hE.row.at hbn
 rw [eh] at c0
 clear hE hl eh
 go_enter Tryz.func94,Tryz.ntmps94
 go_wp2_with fail
 refine (qc8 (hA b) (y.l b) _ (y.e b) 3 a w HLb.out HE.out).mono ?_
 rintro e w1 ⟨v,rfl,o1,b1⟩
 obtain ⟨a1,c1,rfl,-⟩:=o1.form
 have O1:Hid (Bw w w1):=b1
 clear o1 b1 c0 ch
 go_wp2
 go_ret
 exact ⟨_,_,by rw [qb9];rfl,O1.out⟩
theorem qmv (X hc:Nat) (ha:Option Addr) (hA:Nat->Option Addr) (hC:Nat->Nat) (y:Hs) (a b:Nat) (w:World) (c0:w.cell? ⟨X,0,none⟩=some (.slice ha y.n hc)) (hE:HisE w ha hA hC y) (hl:∀ i,i<y.n->y.l i<=200) (han:a<y.n) (hbn:b<y.n) (hle:cnt (y.e b) 3 a (y.l b)<=cnt (y.e a) 2 b (y.l a)):
  Calls Tryz.prog 106 #[.pointer (some (aQ X 0)),.int .i64 a,.int .i64 b] w fun e w'=>∃ a1 c1,e=.returned (.slice a1 (wyL y a b).length c1)/\w'.ownsRow w.heap.size 90 2 (.slice a1 (wyL y a b).length c1) (wyL y a b).length (fT (itL (wyL y a b)) (wyL y a b).length)/\Value.slice a1 (wyL y a b).length c1≠.slice none 0 0/\Bw w w':=by
 have HS:Hid (∀ wx,Bw w wx->Calls Tryz.prog 96 #[.pointer (some ⟨X,0,none⟩),.int .i64 a,.int .i64 b] wx fun e w'=>∃ a1 c1,e=.returned (.slice a1 (valL (y.e a) 2 b (y.l a)).length c1)/\OwnI w' wx.heap.size (.slice a1 (valL (y.e a) 2 b (y.l a)).length c1) (valL (y.e a) 2 b (y.l a))/\Bw wx w'):=fun wx hb=>qmi X hc ha hA hC y a b wx ((hb.cell (p:=⟨X,0,none⟩) (zJ w _ c0)).trans c0) (hE.below hb) hl han
 have HT:Hid (∀ wx,Bw w wx->Calls Tryz.prog 94 #[.pointer (some ⟨X,0,none⟩),.int .i64 a,.int .i64 b] wx fun e w'=>∃ a1 c1,e=.returned (.slice a1 (cnt (y.e b) 3 a (y.l b)) c1)/\Bw wx w'):=fun wx hb=>qq2 X hc ha hA hC y a b wx ((hb.cell (p:=⟨X,0,none⟩) (zJ w _ c0)).trans c0) (hE.below hb) hl hbn
 have hlv:(valL (y.e a) 2 b (y.l a)).length<=200:=by
  rw [qb9]
  exact zP (qg2 _ _ _ _) (hl a han)
 have hle':cnt (y.e b) 3 a (y.l b)<=(valL (y.e a) 2 b (y.l a)).length:=by
  rw [qb9]
  exact hle
 have hzs:wyL y a b=(valL (y.e a) 2 b (y.l a)).drop (cnt (y.e b) 3 a (y.l b)):=rfl
 rw [hzs]
 clear hzs c0 hE hl hle
 generalize cnt (y.e b) 3 a (y.l b)=tn at *
 generalize valL (y.e a) 2 b (y.l a)=xs at *
 have HO0:Hid ((w.alloc (.cells #[] 90)).ownsRow w.heap.size 90 2 (.slice (some (aQ w.heap.size 0)) 0 0) 0 []):=World.ownsRow_made (base:=w.heap.size) (e:=90) (size:=2) w #[] 0 (Nat.le_refl _) (by unfold maxLen;omega) (by simp)
 have BW:Hid (Bw w (w.alloc (.cells #[] 90))/\(w.alloc (.cells #[] 90)).heap.size=w.heap.size+1):=⟨zT _ _,by simp⟩
 have HLE:Hid (tn<=xs.length/\xs.length<=200):=⟨hle',hlv⟩
 clear hle'
 go_enter Tryz.func106,Tryz.ntmps106
 go_wp2_with fail
 generalize w.alloc (.cells #[] 90)=W1 at *
 refine (HS.out W1 BW.out.1).mono ?_
 rintro e w1 ⟨a1,c1,rfl,o1,q1⟩
 have O1:Hid (OwnI w1 W1.heap.size (.slice a1 xs.length c1) xs/\Bw W1 w1):=⟨o1,q1⟩
 clear o1 q1 HS
 go_wp2_with fail
 refine (HT.out w1 (BW.out.1.trans (O1.out.2.mono BW.out.1.size))).mono ?_
 rintro e w2 ⟨a2,c2,rfl,q2⟩
 obtain ⟨a3,ks,hcell⟩:=qq0 (O1.out.1.below q2) HLE.out.1
 have HC:Hid (∀ k,k<(xs.drop tn).length->∃ g o,a3=some ⟨g,o,none⟩/\W1.heap.size<=g/\g<w2.heap.size/\w2.cell? ⟨g,o+k,none⟩=some (.int .i64 (zi (xs.drop tn) k))):=hcell
 have hzl:(xs.drop tn).length<=200:=by rw [List.length_drop];omega
 have hzl':((xs.drop tn).length:Int)<=200:=by omega
 have O2:Hid (w2.ownsRow w.heap.size 90 2 (.slice (some (aQ w.heap.size 0)) 0 0) 0 []/\Bw W1 w2):=⟨qaw HO0.out fun k hk=>(O1.out.2.trans (q2.mono O1.out.2.size)).block k (HO0.out.lt k hk).2,O1.out.2.trans (q2.mono O1.out.2.size)⟩
 generalize hzs:xs.drop tn=zs at *
 have HZS:Hid (xs.drop tn=zs):=hzs
 clear hcell q2 O1 HT HO0 hlv HLE hzs
 go_wp2_with fail
 clear ks
 go_loopw [7,22] (fun o i wr=>∃ k:Nat,k<=zs.length/\i=.int .i64 k/\Hid (wr.ownsRow w.heap.size 90 2 o k (fT (itL zs) k)/\o≠.slice none 0 0/\(∀ j,o.ownBlock=some j->j=w.heap.size\/w2.heap.size<=j)/\Bw w wr/\w2.heap.size<=wr.heap.size/\∀ g,W1.heap.size<=g->g<w2.heap.size->wr.heap[g]? = w2.heap[g]?)) (fun _ i _=>zs.length - (intOf i).toNat)
 case atStart=>exact ⟨0,Nat.zero_le _,rfl,O2.out.1,by simp,fun j hj=>by cases hj;exact .inl rfl,BW.out.1.trans (O2.out.2.mono BW.out.1.size),Nat.le_refl _,fun _ _ _=>rfl⟩
 case round=>
  clear O2
  obtain ⟨k,hk,rfl,HB⟩:=hrel
  by_cases hlt:k<zs.length
  ·have hlt':(k:Int)<(zs.length:Int):=by omega
   obtain ⟨g,o,rfl,hg1,hg2,ck⟩:=HC.out k hlt
   have ck:wr.cell? ⟨g,o+k,none⟩=some (.int .i64 (zi zs k)):=(zH (HB.out.2.2.2.2.2 g hg1 hg2)).trans ck
   have HK2:Hid (k<=2000000):=by show _<=_;omega
   have hgl:g<wr.heap.size:=by have:=HB.out.2.2.2.2.1;omega
   go_wp2_with (at_builtin; refine qas kndT wr rfl rfl _ _ rfl w.heap.size u7 k _ rfl HB.out.1 #[.bool false, .int .i64 (zi zs k)] rfl rfl (by intro u hu; simp at hu; rcases hu with rfl | rfl <;> rfl) HK2.out HB.out.2.2.2.1.size ?_; intro v5 w5 o5 g5 q5 n5; have F5 : Hid (w5.ownsRow w.heap.size 90 2 v5 (k + 1) (fT (itL zs) (k + 1)) ∧ v5 ≠ .slice none 0 0 ∧ (∀ j, v5.ownBlock = some j → j = w.heap.size ∨ w2.heap.size ≤ j) ∧ Below w.heap.size w w5 ∧ w2.heap.size ≤ w5.heap.size ∧ ∀ g, W1.heap.size ≤ g → g < w2.heap.size → w5.heap[g]? = w2.heap[g]?) := ⟨o5, n5, fun j hj => by
     rcases q5 j hj with h | h
     ·exact HB.out.2.2.1 j h
     ·exact .inr (Nat.le_trans HB.out.2.2.2.2.1 h), Below.grown HB.out.2.2.2.1 g5 HB.out.2.2.2.1.size (fun j hj => (HB.out.1.lt j hj).1), Nat.le_trans HB.out.2.2.2.2.1 g5.size, fun b h1 h2 => (g5.block b (Nat.lt_of_lt_of_le h2 HB.out.2.2.2.2.1) (fun hj => by
      have e1:=BW.out.2
      rcases HB.out.2.2.1 b hj.symm with h | h <;> omega)).trans (HB.out.2.2.2.2.2 b h1 h2)⟩;clear o5 g5 q5 n5)
   go_roundw
   case rel=>exact ⟨k+1,by omega,by go_num,F5.out⟩
   case measure=>simp [intOf];omega
  ·have hkn:k=zs.length:=by omega
   subst hkn
   obtain ⟨a4,c4,rfl⟩:=zU HB.out.1
   go_wp2
   go_ret
   rw [HZS.out]
   exact ⟨a4,c4,rfl,HB.out.1,HB.out.2.1,HB.out.2.2.2.1⟩
theorem qq6 (X hc:Nat) (ha:Option Addr) (hA:Nat->Option Addr) (hC:Nat->Nat) (y:Hs) (w:World) (c0:w.cell? ⟨X,0,none⟩=some (.slice ha y.n hc)) (hE:HisE w ha hA hC y) (hl:∀ i,i<y.n->y.l i<=200) (h4:y.n<=4) (hle:∀ a,a<y.n->∀ b,b<y.n->cnt (y.e b) 3 a (y.l b)<=cnt (y.e a) 2 b (y.l a)):
  Calls Tryz.prog 66 #[.pointer (some (aQ X 0))] w fun e w'=>∃ v u,e=.returned (.tuple #[v,.bool (wfB y)])/\(wfB y=true->LT true w' (fun k=>w.heap.size<=k/\k<w'.heap.size) v (y.n*y.n) u (fun i=>(wyL y (i / y.n) (i % y.n)).length) (fun i=>itL (wyL y (i / y.n) (i % y.n))))/\Bw w w':=by
 have HU:Hid (∀ wx,Bw w wx->∀ a b,a<y.n->b<y.n->Calls Tryz.prog 106 #[.pointer (some ⟨X,0,none⟩),.int .i64 (a:Nat),.int .i64 (b:Nat)] wx fun e w'=>∃ a1 c1,e=.returned (.slice a1 (wyL y a b).length c1)/\w'.ownsRow wx.heap.size 90 2 (.slice a1 (wyL y a b).length c1) (wyL y a b).length (fT (itL (wyL y a b)) (wyL y a b).length)/\Value.slice a1 (wyL y a b).length c1≠.slice none 0 0/\Bw wx w'):=fun wx hb a b ha' hb'=>qmv X hc ha hA hC y a b wx ((hb.cell (p:=⟨X,0,none⟩) (zJ w _ c0)).trans c0) (hE.below hb) hl ha' hb' (hle a ha' b hb')
 have HC0:Hid (∀ wx,Bw w wx->wx.cell? ⟨X,0,none⟩=some (.slice ha y.n hc)):=fun wx hb=>(hb.cell (p:=⟨X,0,none⟩) (zJ w _ c0)).trans c0
 have hl':(y.n:Int)<=4:=by omega
 have HW:Hid (∀ a b,a<y.n->(wyL y a b).length<=200):=fun a b ha'=>by
  unfold wyL
  rw [List.length_drop,qb9]
  have h1:=qg2 (y.e a) 2 b (y.l a)
  have h2:=hl a ha'
  omega
 have HF:Hid (wfB y=qB (∀ a,a<y.n->∀ b,b<y.n->(wyL y a b).length<=12)):=rfl
 clear hE hl hle c0
 generalize wfB y=R at *
 obtain ⟨L,hLe⟩:∃ L:Nat->Nat,(fun i=>(wyL y (i / y.n) (i % y.n)).length)=L:=⟨_,rfl⟩
 obtain ⟨H,hHe⟩:∃ H:Nat->Nat->I2,(fun i=>itL (wyL y (i / y.n) (i % y.n)))=H:=⟨_,rfl⟩
 rw [hLe,hHe]
 have HLH:Hid (∀ k j,j<y.n->(wyL y k j).length=L (k*y.n+j)/\itL (wyL y k j)=H (k*y.n+j)):=fun k j hj=>by
  obtain ⟨e1,e2⟩:=qwi (a:=k) hj
  rw [<- hLe,<- hHe]
  dsimp only
  rw [e1,e2]
  exact ⟨rfl,rfl⟩
 clear hLe hHe
 go_enter Tryz.func66,Tryz.ntmps66
 have c1:=HC0.out (w.alloc (.cells #[] 68)) (zT _ _)
 go_wp2_with fail
 clear c1
 go_loopw [4,14] (fun v i wr=>∃ k:Nat,k<=y.n/\i=.int .i64 k/\Hid ((∃ u,LT true wr (fun b=>w.heap.size<=b/\b<wr.heap.size) v (k*y.n) u L H)/\Bw w wr)/\Hid (∀ a,a<k->∀ b,b<y.n->(wyL y a b).length<=12)) (fun _ i _=>y.n - (intOf i).toNat)
 case atStart=>exact ⟨0,Nat.zero_le _,rfl,⟨⟨fun _=>.slice none 0 0,by rw [Nat.zero_mul];exact LL.new _ _ _ w _ (by simp) _ _ _⟩,zT _ _⟩,fun j hj=>by omega⟩
 case round=>
  obtain ⟨k,hk,rfl,HB,HK⟩:=hrel
  by_cases hlt:k<y.n
  ·have hlt':(k:Int)<(y.n:Int):=by omega
   have c1:=HC0.out wr HB.out.2
   go_wp2_with fail
   clear c1
   go_loopw [4,22] (fun v i wr=>∃ j:Nat,j<=y.n/\i=.int .i64 j/\Hid ((∃ u,LT true wr (fun b=>w.heap.size<=b/\b<wr.heap.size) v (k*y.n+j) u L H)/\Bw w wr)/\Hid (∀ b,b<j->(wyL y k b).length<=12)) (fun _ i _=>y.n - (intOf i).toNat)
   case atStart=>exact ⟨0,Nat.zero_le _,rfl,HB.out,fun j hj=>by omega⟩
   case round=>
    clear HB
    obtain ⟨j,hj,rfl,HB,HJ⟩:=hrel
    by_cases hjt:j<y.n
    ·have hjt':(j:Int)<(y.n:Int):=by omega
     go_wp2_with fail
     refine (HU.out _ HB.out.2 k j hlt hjt).mono ?_
     rintro e w3 ⟨a3,c3,rfl,o3,n3,q3⟩
     have hm:=HW.out k j hlt
     by_cases ho:12<(wyL y k j).length
     ·have HV:Hid (R=false):=by
       show R=false
       rw [HF.out]
       exact qaz fun h=>by
        have h1:=h k hlt j hjt
        omega
      have ho':(12:Int)<((wyL y k j).length:Int):=by omega
      have B3:Hid (Bw w w3):=HB.out.2.trans (q3.mono HB.out.2.size)
      generalize (wyL y k j).length=m at *
      clear o3 n3 q3 HB
      go_wp2
      exact bodyPost_ret (v:=.tuple #[.slice none 0 0,.bool false]) (by simp [results,Tryz.results66,go_sem]) rfl ⟨_,fun _=>.slice none 0 0,by rw [HV.out],fun h=>(by rw [HV.out] at h;cases h),B3.out⟩
     ·have ho':¬ (12:Int)<((wyL y k j).length:Int):=by omega
      have HJ':Hid (∀ b,b<j+1->(wyL y k b).length<=12):=fun b hb=>by
       by_cases e:b=j
       ·subst e
        omega
       ·exact HJ.out b (by omega)
      rw [(HLH.out k j hjt).1,(HLH.out k j hjt).2] at o3
      rw [(HLH.out k j hjt).1] at n3 ho' hm ⊢
      have h16:k*y.n<=4*4:=Nat.mul_le_mul (by omega) h4
      have HK2:Hid (k*y.n+j<=2000000):=by show _<=_;omega
      have F4:Hid (w3.ownsRow wr.heap.size 90 2 (.slice a3 (L (k*y.n+j)) c3) (L (k*y.n+j)) (fT (H (k*y.n+j)) (L (k*y.n+j)))/\Bw wr w3/\Value.slice a3 (L (k*y.n+j)) c3≠.slice none 0 0):=⟨o3,q3,n3⟩
      obtain ⟨⟨u,oz⟩,bz⟩:=HB.out
      have OZ:Hid (LT true wr (fun b=>w.heap.size<=b/\b<wr.heap.size) u4 (k*y.n+j) u L H):=oz
      have BZ:Hid (Bw w wr):=bz
      clear HJ o3 n3 q3 ho oz bz HB h16
      generalize hkk:k*y.n+j=kk at *
      have HKK:Hid (k*y.n+j=kk):=hkk
      clear hkk
      go_wp2_with (at_builtin;refine qas qnt w3 rfl rfl _ _ rfl 0 u4 kk _ rfl (OZ.out.below F4.out.2.1).row #[.slice a3 (L kk) c3] rfl rfl (by intro u hu;simp at hu;subst hu;rfl) HK2.out (Nat.zero_le _) ?_;intro v5 w5 o5 g5 q5 n5;have F5:Hid (LT true w5 (fun b=>w.heap.size<=b/\b<w5.heap.size) v5 (kk+1) (fun j=>if j=kk then .slice a3 (L kk) c3 else u j) L H/\Bw w w5):=⟨OZ.out.push F4.out.2.1 F4.out.1 (fun _=>F4.out.2.2) o5 g5 q5 (fun j hj _=>⟨hj.1,zL hj.2 (zP F4.out.2.1.size g5.size)⟩) (fun j hj hj'=>⟨zP BZ.out.size hj,hj'⟩),Below.grown (BZ.out.trans (F4.out.2.1.mono BZ.out.size)) g5 (zP BZ.out.size F4.out.2.1.size) (fun j hj=>(OZ.out.rb j hj).1)⟩;clear o5 g5 q5 n5)
      go_roundw
      case rel=>exact ⟨j+1,by omega,by go_num,⟨⟨_,by rw [<- Nat.add_assoc,HKK.out];exact F5.out.1⟩,F5.out.2⟩,HJ'.out⟩
      case measure=>simp [intOf];omega
    ·have HK':Hid (∀ a,a<k+1->∀ b,b<y.n->(wyL y a b).length<=12):=fun a ha b hb=>by
      by_cases e:a=k
      ·subst e
       exact HJ.out b (by omega)
      ·exact HK.out a (by omega) b hb
     have hjn:j=y.n:=by omega
     have HB':Hid ((∃ u,LT true wr (fun b=>w.heap.size<=b/\b<wr.heap.size) u4 ((k+1)*y.n) u L H)/\Bw w wr):=by
      have:=HB.out
      rw [hjn] at this
      rw [Nat.add_mul,Nat.one_mul]
      exact this
     clear HK HJ HB hjn
     go_wp2
     go_roundw
     case rel=>exact ⟨k+1,by omega,by go_num,HB'.out,HK'.out⟩
     case measure=>simp [intOf];omega
  ·have HV:Hid (R=true):=by
    show R=true
    rw [HF.out]
    exact qba fun a ha b hb=>HK.out a (by omega) b hb
   have hkn:k=y.n:=by omega
   subst hkn
   obtain ⟨⟨u,oz⟩,bz⟩:=HB.out
   have OZ:Hid (LT true wr (fun b=>w.heap.size<=b/\b<wr.heap.size) u4 (y.n*y.n) u L H/\Bw w wr):=⟨oz,bz⟩
   clear HK HB oz bz
   go_wp2
   exact bodyPost_ret (v:=.tuple #[u4,.bool true]) (by simp [results,Tryz.results66,go_sem]) rfl ⟨_,u,by rw [HV.out],fun _=>OZ.out.1,OZ.out.2⟩
theorem Sy.Cl.ex {y:Sy} {c:List Int}:∀ (n:Nat) (e:List Int),sm e<=n->y.Cl c e->∃ e',y.Cl c e'/\y.Wh (cN e')
 | n,e,hn,h=>by
  by_cases hw:y.Wh (cN e)
  ·exact ⟨e,h,hw⟩
  ·obtain ⟨a,ha,b,hb,hno⟩:∃ a,a<y.pn/\∃ b,b<y.pn/\¬ tN y (cN e) a b<=sN y (cN e) a b:=by
    apply Classical.byContradiction
    intro hc
    exact hw fun a ha b hb=>Classical.byContradiction fun h'=>hc ⟨a,ha,b,hb,h'⟩
   have ho:0<=ovN y (cN e) a b:=by
    apply Classical.byContradiction
    intro h0
    exact hno (qfb.1 (by omega))
   obtain ⟨h1,h2,h3⟩:=h.next ha hb ho
   have hlt:=qpp e b _ (by rw [h.len];exact hb) h3 h2
   cases n with
   | zero=>omega
   | succ n=>exact Sy.Cl.ex n _ (by omega) h1
theorem qdu {y:Sy} {c:List Int} (h:cutB y c=true):y.Cl c (clS y c)/\y.Wh (cN (clS y c)):=by
 obtain ⟨e,h1,h2⟩:=Sy.Cl.ex (sm c) c (Nat.le_refl _) (Sy.Cl.start (qbu h).2)
 rw [qng h h1 h2]
 exact ⟨h1,h2⟩
theorem qlq {y:Sy} {c:List Int} (hO:y.Ok) (hC:y.Cut c):cutB y c=true:=by
 unfold cutB
 rw [Sy.okB_true hO,qba hC]
 rfl
theorem qf9 {y:Sy} {c:List Int} (h:cutB y c=true):y.Cut (clS y c):=(qdu h).1.cut (qbu h).2
theorem qve {y:Sy} {c:List Int} (h:cutB y c=true):whB y (clS y c)=true:=by
 unfold whB
 rw [qlq (qbu h).1 (qf9 h),qba (qdu h).2]
 rfl
def bkL (y:Sy) (p:Nat) (k:Int):List Int:=(flT y y.hn).set p k
theorem qti {y:Sy} {n p:Nat} (h:p<n):zi (flT y n) p=(y.hL p:Int):=by
 unfold zi flT
 simp [List.getD_eq_getElem?_getD,h]
theorem qvv {y:Sy} (hO:y.Ok) {p:Nat} {k:Int} (h0:0<=k) (h1:k<=(y.hL p:Int)):y.Cut (bkL y p k):=by
 have hh:=hO.cn.2.2.1
 refine ⟨by unfold bkL;rw [List.length_set,qcx];exact hh,fun q hq=>?_⟩
 unfold bkL
 by_cases hp:p<y.hn
 ·rw [qpv (by rw [qcx];exact hp)]
  by_cases e:q=p
  ·subst e
   rw [if_pos rfl]
   exact ⟨h0,h1⟩
  ·rw [if_neg e,qti (by omega)]
   omega
 ·rw [List.set_eq_of_length_le (by rw [qcx];omega),qti (by omega)]
  omega
noncomputable def bkE (y:Sy) (p k:Int):List Int:=clS y (bkL y p.toNat k)
def bkIn (y:Sy) (p k:Int):Bool:=belB p y.pn && inB k 0 (y.hL p.toNat)
noncomputable def bkC (y:Sy) (p k:Int):Int:=if y.okB=true then (if bkIn y p k=true then (if wfB (y.ah (cN (bkE y p k)))=true then 0 else 3) else 2) else 1
noncomputable def bkY (y:Sy) (p k:Int):Sy:=if y.okB=true then (if bkIn y p k=true then (if wfB (y.ah (cN (bkE y p k)))=true then y.atY (cN (bkE y p k)) else y) else y) else y.nil
theorem qev {y:Sy} {p k:Int} (h:bkIn y p k=true):∃ P:Nat,p=P/\P<y.pn/\0<=k/\k<=(y.hL P:Int):=by
 simp only [bkIn,belB,inB,Bool.and_eq_true,decide_eq_true_eq] at h
 exact ⟨p.toNat,by omega,by omega,h.2.1,h.2.2⟩
theorem qde {y:Sy} (hO:y.Ok) {p k:Int} (h:bkIn y p k=true):cutB y (bkL y p.toNat k)=true:=by
 obtain ⟨P,rfl,hP,h0,h1⟩:=qev h
 rw [Int.toNat_natCast]
 exact qlq hO (qvv hO h0 h1)
theorem qwq (y:Sy) (p k:Int):(bkY y p k).Sm:=by
 unfold bkY
 split
 ·rename_i hk
  have hO:=Sy.ok_of hk
  split
  ·rename_i hb
   split
   ·rename_i hw
    have hc:=qf9 (qde hO hb)
    have:=Sy.atW_sm hO (d:=cN (bkE y p k)) fun q hq=>hc.leN hq
    rw [Sy.atW,if_pos hw] at this
    exact this
   ·exact hO.sm
  ·exact hO.sm
 ·exact y.nil_sm
theorem qaj.weak {z:Bool} {w:World} {B:Nat} {y:Sy} {v:Value} (o:qaj z w B y v):qaj false w B y v:=by
 obtain ⟨c,vp,vs,vw,vh,up,us,uw,uh,e,o⟩:=o
 exact ⟨c,vp,vs,vw,vh,up,us,uw,uh,e,o.weak⟩
open Go.Sort
theorem qqo (x:SysIn) (w:World) (hG:SysG w x) (hL:x.Len):
  Calls Tryz.prog 34 #[x.v] w fun e w'=>∃ u,e=.returned u/\OwnI w' w.heap.size u (flT x.y x.hn)/\Bw w w':=by
 have HG:Hid (SysG w x):=hG
 have hl':(x.hn:Int)<=1048576:=by have:=hL.h.1;omega
 have HLh:Hid (∀ i,i<x.hn->x.hL i<=1048576):=hL.h.2
 have BW:Hid (Bw w ((w.alloc (x.oX)).alloc (.cells #[] 3))):=(zT _ _).trans ((zT _ _).mono (by simp))
 have NB:Hid (x.bX ((w.alloc (x.oX)).alloc (.cells #[] 3)) w.heap.size):=(BoxC.new w _ _ _ _ _).below (zT _ _)
 have NO:Hid (OwnI ((w.alloc (x.oX)).alloc (.cells #[] 3)) (w.heap.size+1) (.slice (some ⟨w.heap.size+1,0,none⟩) 0 0) (flT x.y 0)):=qcv (w.alloc (x.oX)) (by simp)
 have LT:Hid (w.heap.size+1<=((w.alloc (x.oX)).alloc (.cells #[] 3)).heap.size):=by
  show _<=_
  simp
 clear hG hL
 go_enter Tryz.func34,Tryz.ntmps34
 go_wp2_with fail
 generalize (w.alloc (x.oX)).alloc (.cells #[] 3)=W2 at *
 go_loopw [3,4] (fun o i wr=>∃ k:Nat,k<=x.hn/\i=.int .i64 k/\Hid (OwnI wr (w.heap.size+1) o (flT x.y k)/\Bw w wr/\x.bX wr w.heap.size/\w.heap.size+1<=wr.heap.size)) (fun _ i _=>x.hn - (intOf i).toNat)
 case atStart=>exact ⟨0,Nat.zero_le _,rfl,NO.out,BW.out,NB.out,LT.out⟩
 case round=>
  clear BW NB NO LT
  obtain ⟨k,hk,rfl,HB⟩:=hrel
  by_cases hlt:k<x.hn
  ·have hlt':(k:Int)<(x.hn:Int):=by omega
   obtain ⟨bh,oh,eh,ch⟩:=(HG.out.below HB.out.2.1).h.at hlt
   have b3:=HB.out.2.2.1.2.2.2
   rw [eh] at b3
   clear eh
   have hfl:=qcx x.y k
   have hlk:(x.hL k:Int)<=1048576:=by have:=HLh.out k hlt;omega
   have HF:Hid (flT x.y (k+1)=flT x.y k ++ [(x.hL k:Int)]):=qoz x.y k
   have HFl:Hid ((flT x.y k).length<=1048576):=by show _<=_;omega
   clear hfl
   go_wp2_with (at_builtin;refine qdh wr rfl _ _ rfl (w.heap.size+1) u3 (flT x.y k) rfl HB.out.1 (x.hL k:Int) rfl HFl.out HB.out.2.2.2 ?_;intro v' w4 o4 b4;have H4:Hid (OwnI w4 (w.heap.size+1) v' (flT x.y (k+1))/\Bw w w4/\x.bX w4 w.heap.size/\w.heap.size+1<=w4.heap.size):=⟨o4.to HF.out,HB.out.2.1.trans (b4.mono (by omega)),HB.out.2.2.1.belowB b4 (by omega),zP HB.out.2.2.2 b4.size⟩;clear o4 b4)
   go_roundw
   case rel=>exact ⟨k+1,by omega,by go_num,H4.out⟩
   case measure=>simp [intOf];omega
  ·have hkl:k=x.hn:=by omega
   have H4:Hid (OwnI wr w.heap.size u3 (flT x.y x.hn)/\Bw w wr):=by
    have:=HB.out
    rw [hkl] at this
    exact ⟨this.1.mono (by omega),this.2.1⟩
   have b3:=HB.out.2.2.1.2.2.2
   clear HB hkl
   go_wp2
   go_ret
   exact ⟨_,rfl,H4.out⟩
def Abv (c:Nat) (w w':World):Prop:=w.heap.size<=w'.heap.size/\∀ b,c<b->b<w.heap.size->w'.heap[b]? = w.heap[b]?
theorem Abv.trans {c:Nat} {w w1 w2:World} (h:Abv c w w1) (k:Abv c w1 w2):Abv c w w2:=
 ⟨zP h.1 k.1,fun b hb hl=>(k.2 b hb (zL hl h.1)).trans (h.2 b hb hl)⟩
theorem Abv.grown {c:Nat} {w w':World} (h:w.grownBy w' (some c)):Abv c w w':=⟨h.size,fun b hb hl=>h.block b hl (by simp;omega)⟩
theorem Abv.below {c:Nat} {w w':World} (h:Bw w w'):Abv c w w':=⟨h.size,fun b _ hl=>h.block b hl⟩
def SysK (c:Nat) (w:World) (x:SysIn):Prop:=∀ w',Abv c w w'->SysG w' x
theorem Own1.s {w:World} {B T n:Nat} {L:Nat->Nat} {H:Nat->Nat->I5} {vp vs vw vh:Value} (o:Own1 w B T n L H vp vs vw vh):∃ c up us,OwnS false w B c (nwY n L H) vp vs vw vh up us (fun _=>.slice none 0 0) (fun _=>.slice none 0 0):=by
 obtain ⟨c,up,us,o,-⟩:=o
 exact ⟨c,up,us,o.p.weak,o.s,o.t.ll (by decide) _ (fun _=>rfl),o.h.ll (by decide) _ (fun _=>rfl)⟩
theorem OwnS.nf {z:Bool} {w:World} {B:Nat} {c:Nat->Nat} {y:Sy} {vp vs vw vh:Value} {up us uw uh:Nat->Value} (o:OwnS z w B c y vp vs vw vh up us uw uh):(y.sysIn vp vs vw vh up us uw uh).Nn false:=by
 refine ⟨fun i hi=>?_,fun i hi=>?_⟩
 ·rcases (o.t.own i hi).2 with ⟨e,h⟩ | ⟨g,cap,cur,e,_⟩
  ·exact .inr ⟨rfl,by show adOf (uw i)=none;rw [e];rfl,h,by show cpOf (uw i)=0;rw [e];rfl⟩
  ·exact .inl ⟨g,0,by show adOf (uw i)=_;rw [e];rfl⟩
 ·rcases (o.h.own i hi).2 with ⟨e,h⟩ | ⟨g,cap,cur,e,_⟩
  ·exact .inr ⟨rfl,by show adOf (uh i)=none;rw [e];rfl,h,by show cpOf (uh i)=0;rw [e];rfl⟩
  ·exact .inl ⟨g,0,by show adOf (uh i)=_;rw [e];rfl⟩
def SysT (w:World) (B T:Nat) (y:Sy) (v:Value):Prop:=∃ c vp vs vw vh up us uw uh,v=.agg #[vp,vs,vw,vh]/\OwnS false w B c y vp vs vw vh up us uw uh/\∀ b,T<=b->c b=0
theorem OwnS.sysT {z:Bool} {w:World} {B:Nat} {c:Nat->Nat} {y:Sy} {vp vs vw vh:Value} {up us uw uh:Nat->Value} (o:OwnS z w B c y vp vs vw vh up us uw uh):SysT w B w.heap.size y (.agg #[vp,vs,vw,vh]):=by
 have o:=o.weak
 have h : ∀ i k, Cl B c i k → k < w.heap.size → Cl B (fun b => if b < w.heap.size then c b else 0) i k := fun i k hk hl => ⟨hk.1, by
  show (if k<w.heap.size then c k else 0)=i
  rw [if_pos hl]
  exact hk.2⟩
 exact ⟨fun b=>if b<w.heap.size then c b else 0,vp,vs,vw,vh,up,us,uw,uh,rfl,⟨o.p.mono (h 1),o.s.mono (h 2),o.t.mono (h 3),o.h.mono (h 4)⟩,fun b hb=>if_neg (by omega)⟩
theorem qaj.sysT {z:Bool} {w:World} {B:Nat} {y:Sy} {v:Value} (o:qaj z w B y v):SysT w B w.heap.size y v:=by
 obtain ⟨c,vp,vs,vw,vh,up,us,uw,uh,rfl,o⟩:=o
 exact OwnS.sysT o
theorem Own1.sysT {w:World} {B T n:Nat} {L:Nat->Nat} {H:Nat->Nat->I5} {vp vs vw vh:Value} (o:Own1 w B T n L H vp vs vw vh):SysT w B w.heap.size (nwY n L H) (.agg #[vp,vs,vw,vh]):=by
 obtain ⟨c,up,us,o⟩:=o.s
 exact OwnS.sysT o
theorem SysT.keep {w w':World} {B T:Nat} {y:Sy} {v:Value} (o:SysT w B T y v) (h:∀ b,B<=b->b<T->b<w.heap.size->w'.heap[b]? = w.heap[b]?):SysT w' B T y v:=by
 obtain ⟨c,vp,vs,vw,vh,up,us,uw,uh,e,o,ht⟩:=o
 have key : ∀ i, i ≠ 0 → ∀ k, Cl B c i k → k < w.heap.size → w'.heap[k]? = w.heap[k]? := fun i hi k hk hl => h k hk.1 (by
  apply Classical.byContradiction
  intro hn
  have h1:=ht k (by omega)
  have h2:c k=i:=hk.2
  omega) hl
 exact ⟨c,vp,vs,vw,vh,up,us,uw,uh,e,⟨o.p.keep (key 1 (by decide)),o.s.keep (key 2 (by decide)),o.t.keep (key 3 (by decide)),o.h.keep (key 4 (by decide))⟩,ht⟩
theorem SysT.below {w w':World} {B T:Nat} {y:Sy} {v:Value} (o:SysT w B T y v) (hb:Bw w w'):SysT w' B T y v:=o.keep fun b _ _ hl=>hb.block b hl
theorem SysT.base {w:World} {B B' T:Nat} {y:Sy} {v:Value} (o:SysT w B T y v) (h:B'<=B):SysT w B' T y v:=by
 obtain ⟨c,vp,vs,vw,vh,up,us,uw,uh,e,o,ht⟩:=o
 exact ⟨c,vp,vs,vw,vh,up,us,uw,uh,e,⟨o.p.mono fun _ q _=>⟨zP h q.1,q.2⟩,o.s.mono fun _ q _=>⟨zP h q.1,q.2⟩,o.t.mono fun _ q _=>⟨zP h q.1,q.2⟩,o.h.mono fun _ q _=>⟨zP h q.1,q.2⟩⟩,ht⟩
theorem SysT.top {w:World} {B T T':Nat} {y:Sy} {v:Value} (o:SysT w B T y v) (h:T<=T'):SysT w B T' y v:=by
 obtain ⟨c,vp,vs,vw,vh,up,us,uw,uh,e,o,ht⟩:=o
 exact ⟨c,vp,vs,vw,vh,up,us,uw,uh,e,o,fun b hb=>ht b (by omega)⟩
theorem qrd {w:World} {B sz n:Nat} {e:TypeId} {u:Value} {xs:List Value} (o:w.ownsRow B e sz u n xs):n<=cpOf u:=by
 rcases o.2 with ⟨rfl,h⟩ | ⟨g,cap,cur,rfl,_,_,hnc,_⟩
 ·rw [h];exact Nat.zero_le _
 ·exact hnc
structure SysX (w:World) (B T:Nat) (x:SysIn):Prop where
 g:∀ w',(∀ b,B<=b->b<T->b<w.heap.size->w'.heap[b]? = w.heap[b]?)->SysG w' x
 cap:∀ i,i<x.hn->x.hL i<=x.hC i
 nn:x.Nn false
theorem SysT.x {w:World} {B T:Nat} {y:Sy} {v:Value} (o:SysT w B T y v):∃ x:SysIn,v=x.v/\x.y=y/\SysX w B T x:=by
 obtain ⟨c,vp,vs,vw,vh,up,us,uw,uh,rfl,o,ht⟩:=o
 refine ⟨y.sysIn vp vs vw vh up us uw uh,o.v.symm,rfl,fun w' h=>?_,fun i hi=>qrd (o.h.own i hi),o.nf⟩
 have key : ∀ i, i ≠ 0 → ∀ k, Cl B c i k → k < w.heap.size → w'.heap[k]? = w.heap[k]? := fun i hi k hk hl => h k hk.1 (by
  apply Classical.byContradiction
  intro hn
  have h1:=ht k (by omega)
  have h2:c k=i:=hk.2
  omega) hl
 exact OwnS.g (z:=false) (B:=B) (c:=c) ⟨o.p.keep (key 1 (by decide)),o.s.keep (key 2 (by decide)),o.t.keep (key 3 (by decide)),o.h.keep (key 4 (by decide))⟩
theorem SysX.abv {w w':World} {B T c:Nat} {x:SysIn} (h:SysX w B T x) (hc:c<B) (ha:Abv c w w'):SysG w' x:=h.g w' fun b hb _ hl=>ha.2 b (by omega) hl
theorem SysX.self {w:World} {B T:Nat} {x:SysIn} (h:SysX w B T x):SysG w x:=h.g w fun _ _ _ _=>rfl
theorem Sy.Sm.inLen {x:SysIn} (h:x.y.Sm):x.Len:=by
 obtain ⟨⟨h1,h2,h3,h4⟩,hp,hs,hw,hh⟩:=h
 have h1':x.pn<=16:=h1
 have h2':x.sn<=16:=h2
 have h3':x.wn<=16:=h3
 have h4':x.hn<=16:=h4
 refine ⟨⟨by omega,fun i hi=>?_⟩,⟨by omega,fun i hi=>?_⟩,⟨by omega,fun i hi=>?_⟩,⟨by omega,fun i hi=>?_⟩⟩
 ·have:x.pL i<=1000:=hp i hi
  omega
 ·have:(x.sQ i).rs.length<=1000/\(x.sQ i).os.length<=1000:=hs i hi
  omega
 ·have:x.wL i<=1000:=hw i hi
  omega
 ·have:x.hL i<=1000:=hh i hi
  omega
def Sy.Good (y:Sy):Prop:=y.Ok\/(y.pn=0/\y.sn=0/\y.wn=0/\y.hn=0)
theorem Sy.Good.sm {y:Sy} (h:y.Good):y.Sm:=by
 rcases h with h | ⟨h1,h2,h3,h4⟩
 ·exact h.sm
 ·exact ⟨by omega,fun i hi=>by omega,fun i hi=>by omega,fun i hi=>by omega,fun i hi=>by omega⟩
theorem Sy.Good.step {y:Sy} (_h:y.Good) {p f:Int} (hc:stC y p f=0):(stY y p f).Good:=by
 unfold stC at hc
 unfold stY
 by_cases ho:y.okB=true
 ·rw [if_pos ho] at hc ⊢
  by_cases hb:belB p y.pn=true
  ·rw [if_pos hb] at hc ⊢
   have hb':0<=p/\p<(y.pn:Int):=by simpa [belB] using hb
   exact .inl ((Sy.ok_of ho).step (by omega) hc)
  ·rw [if_neg hb] at hc
   cases hc
 ·rw [if_neg ho] at hc
  cases hc
structure DK (w wr:World) (W0 c:Nat) (a0:Option Addr) (len cap B T:Nat) (y:Sy) (v:Value):Prop where
 cu:Cur wr W0 c a0 len cap
 sy:SysT wr B T y v
 gr:w.grownBy wr (some c)
 lt:c<B
theorem DK.draw {w wr w':World} {W0 c:Nat} {a0:Option Addr} {len cap B T:Nat} {y:Sy} {v:Value} (h:DK w wr W0 c a0 len cap B T y v) (hc:Cur w' W0 c a0 len cap) (hg:wr.grownBy w' (some c)):DK w w' W0 c a0 len cap B T y v:=
 ⟨hc,h.sy.keep fun b hb _ hl=>hg.block b hl (by have:=h.lt;simp;omega),h.gr.trans hg,h.lt⟩
theorem DK.below {w wr w':World} {W0 c:Nat} {a0:Option Addr} {len cap B T:Nat} {y:Sy} {v:Value} (h:DK w wr W0 c a0 len cap B T y v) (hb:Bw wr w'):DK w w' W0 c a0 len cap B T y v:=
 ⟨h.cu.kept (zZ hb) (by simp) (fun k hk=>by cases hk),h.sy.below hb,h.gr.andThen (zZ hb) (fun j hj=>by cases hj),h.lt⟩
theorem DK.alloc {w wr:World} {W0 c:Nat} {a0:Option Addr} {len cap B T:Nat} {y:Sy} {v:Value} (h:DK w wr W0 c a0 len cap B T y v) (o:Obj):DK w (wr.alloc o) W0 c a0 len cap B T y v:=h.below (zQ _ _)
theorem DK.set {w wr:World} {W0 c:Nat} {a0:Option Addr} {len cap B T:Nat} {y:Sy} {v:Value} (h:DK w wr W0 c a0 len cap B T y v) {N:Nat} (hN:w.heap.size<=N) (hc:c≠N) (hT:N<B\/T<=N) (hW:W0<=N) (j:Nat) (u:Value):DK w (wr.setCell (aQ N j) u) W0 c a0 len cap B T y v:=by
 have hg:wr.grownBy (wr.setCell (aQ N j) u) (some N):=zV (World.grownBy.refl _ _) (.inl rfl) u
 exact ⟨h.cu.kept hg (fun e=>hc (by simpa using e)) (fun k hk=>by cases hk;exact hW),h.sy.keep fun b hb ht hl=>hg.block b hl (by simp;omega),h.gr.andThen hg (fun k hk=>by cases hk;exact .inl hN),h.lt⟩
def chS (y:Sy) (p:Nat):Nat:=if y.nq p=9 then y.pn else 1
def rdS (y:Sy) (p:Nat):List Int:=rdL (fun j=>cmS y p j) (chS y p)
noncomputable def hltS (y:Sy):Bool:=y.okB && (List.range y.pn).all fun p=>(rdS y p).isEmpty
theorem qxl (x:SysIn) (p:Nat):rdX x p=rdS x.y p:=rfl
open Classical in
noncomputable def rdQ (y:Sy) (p:Int):List Int:=if y.okB=true/\belB p y.pn=true then rdS y p.toNat else []
theorem qkq (x:SysIn) (p:Int) (w:World) (hG:SysG w x) (hL:x.Len) (hcap:∀ i,i<x.hn->x.hL i<=x.hC i):
  Calls Tryz.prog 145 #[x.v,.int .i64 p] w fun e w'=>∃ u,e=.returned u/\OwnI w' w.heap.size u (rdQ x.y p)/\Bw w w':=by
 have HG:Hid (SysG w x):=hG
 have HL:Hid x.Len:=hL
 have HS:Hid (∀ wx,Bw w wx->Calls Tryz.prog 17 #[x.v] wx fun e w'=>e=.returned (.bool x.y.okB)/\Bw wx w'):=fun wx hb=>qbq x wx (HG.out.below hb) hL hcap
 have BW:Hid (Bw w (w.alloc (x.oX))):=zQ _ _
 have NB:Hid (x.bX (w.alloc (x.oX)) w.heap.size):=BoxC.new w _ _ _ _ _
 clear hG hL hcap
 go_enter Tryz.func145,Tryz.ntmps145
 go_wp2_with fail
 generalize w.alloc (x.oX)=W2 at *
 refine (HS.out W2 BW.out).mono ?_
 rintro e w1 ⟨rfl,q1⟩
 have B1:Hid (Bw w w1/\x.bX w1 w.heap.size):=⟨BW.out.trans (q1.mono BW.out.size),NB.out.below q1⟩
 clear q1 BW NB HS
 rcases zK x.y.okB with t | t
 case inr=>
  have HV:Hid (rdQ x.y p=[]):=by
   show rdQ x.y p=[]
   rw [rdQ,if_neg (by rw [t];simp)]
  have OE:Hid (OwnI (w1.alloc (.cells #[] 3)) w.heap.size (.slice (some (aQ w1.heap.size 0)) 0 0) []/\Bw w (w1.alloc (.cells #[] 3))):=⟨(qbw w1).mono B1.out.1.size,B1.out.1.trans ((zQ _ _).mono B1.out.1.size)⟩
  rw [t]
  clear t
  go_wp2
  go_ret
  rw [HV.out]
  exact ⟨_,rfl,OE.out⟩
 have HO:Hid x.y.Ok:=Sy.ok_of t
 have HC:Hid (Calls Tryz.prog 154 #[x.v,.int .i64 p] w1 fun e w'=>∃ u,e=.returned u/\OwnI w' w1.heap.size u (rdQ x.y p)/\Bw w1 w'):=by
  show Calls Tryz.prog 154 _ _ _
  by_cases hb:belB p x.pn=true
  ·have hb':0<=p/\p<(x.pn:Int):=by simpa [belB] using hb
   obtain ⟨k,rfl⟩:∃ k:Nat,p=k:=⟨p.toNat,by omega⟩
   have e:rdQ x.y (k:Int)=rdX x k:=by
    rw [rdQ,if_pos ⟨t,hb⟩,qxl]
    rfl
   rw [e]
   exact qny x k w1 (HG.out.below B1.out.1) HL.out HO.out (by omega)
  ·have e:rdQ x.y p=[]:=by
    rw [rdQ,if_neg]
    exact fun h=>hb h.2
   rw [e]
   exact qnz x p w1 HL.out.p.1 (by
    simp only [inB,decide_eq_false_iff_not]
    simp only [belB,decide_eq_true_eq] at hb
    omega)
 rw [t]
 clear t
 obtain ⟨b0,b1,b2,b3⟩:=B1.out.2
 go_wp2_with fail
 refine HC.out.mono ?_
 rintro e w2 ⟨u2,rfl,o2,q2⟩
 have F2:Hid (OwnI w2 w.heap.size u2 (rdQ x.y p)/\Bw w w2):=⟨o2.mono B1.out.1.size,B1.out.1.trans (q2.mono B1.out.1.size)⟩
 clear o2 q2 HC
 go_wp2
 go_ret
 exact ⟨_,rfl,F2.out⟩
structure DrM (w wr:World) (W0 len cap:Nat) (a0:Option Addr) (c:Nat) (v:Value) (k:Nat):Prop where
 ll:∃ u L H,LI true wr (fun b=>w.heap.size<=b) v k u L H/\∀ i,i<k->L i<=31
 cu:Cur wr W0 c a0 len cap
 gr:w.grownBy wr (some c)
 nn:v≠.slice none 0 0
theorem DrM.start {w wr:World} {W0 len cap c:Nat} {a0:Option Addr} (hc:Cur wr W0 c a0 len cap) (hg:w.grownBy wr (some c)):DrM w (wr.alloc (.cells #[] 60)) W0 len cap a0 c (.slice (some (aQ wr.heap.size 0)) 0 0) 0:=
 ⟨⟨fun _=>.slice none 0 0,fun _=>0,fun _ _=>⟨0,0,0,0,0⟩,LL.new _ _ _ _ _ hg.size _ _ _,fun i hi=>by omega⟩,hc.alloc _,hg.andThen (World.grownBy_alloc _ _ none) (fun j hj=>by cases hj),fun e=>by cases e⟩
theorem DrM.push {w wr w1 w2:World} {W0 len cap c k m:Nat} {a0:Option Addr} {v v' x:Value} {u:Nat->Value} {L:Nat->Nat} {H:Nat->Nat->I5} (hl:LI true wr (fun b=>w.heap.size<=b) v k u L H) (h31:∀ i,i<k->L i<=31) (g0:w.grownBy wr (some c)) (hc0:c<w.heap.size) (g1:wr.grownBy w1 (some c)) (hc1:Cur w1 W0 c a0 len cap) (hx:Lst w1 wr.heap.size x m) (hm:m<=31) (hne:x≠.slice none 0 0)
  (hv:w2.ownsRow 0 60 1 v' (k+1) ((List.range k).map u ++ [x])) (g2:w1.grownBy w2 v.ownBlock) (hv':∀ j,v'.ownBlock=some j->v.ownBlock=some j\/w1.heap.size<=j) (hn':v'≠.slice none 0 0):DrM w w2 W0 len cap a0 c v' (k+1):=by
 obtain ⟨G,hG⟩:=hx.known
 have hvb:∀ j,v.ownBlock=some j->w.heap.size<=j:=hl.rb
 have hsz:=g0.size
 refine ⟨⟨_,fun j=>if j=k then m else L j,fun j=>if j=k then G else H j,(LL.ext (L':=fun j=>if j=k then m else L j) (c':=fun i=>fI (if i=k then G else H i) (if i=k then m else L i)) hl fun i hi=>?_).pushG g1.size (fun b hb hlt=>g1.block b hlt (by simp;omega)) ?_ (fun _=>hne) hv g2 hv' (fun b hb _=>hb) (fun b hb _=>by omega),fun i hi=>?_⟩,hc1.kept g2 (fun e=>?_) (fun j hj=>?_),(g0.trans g1).andThen g2 (fun j hj=>.inl ?_),hn'⟩
 ·simp only [if_neg (show ¬ i=k by omega),and_self]
 ·simp only [if_true]
  exact hG
 ·show (if i=k then m else L i)<=31
  by_cases e:i=k
  ·rw [if_pos e]
   exact hm
  ·rw [if_neg e]
   exact h31 i (by omega)
 ·have:=hvb c e.symm
  omega
 ·have:=hvb j hj
  have:=hc1.ge
  omega
 ·have:=hvb j hj
  omega
theorem qk4 {ops:Array Oper} {rest:List Oper} {op:Oper} {act:Act} {Q:Exit->Act->World->Prop} {w wr:World} (w1:World) {W0 len cap c k m N:Nat} {a0:Option Addr} {v y:Value} (hN:N=w1.heap.size) (hgd:op.guard=none) (s x:Operand)
  (ho:op.op=.call { callee:=.builtin .append,args:=#[s,x],argTypes:=#[24,24] }) (hs:act.eval s=v) (hxv:act.eval x=.slice (some (aQ N 0)) 1 1)
  (DR:DrM w wr W0 len cap a0 c v k) (hW:c<w.heap.size) (hk:k<=5) (g1:wr.grownBy w1 (some c)) (hc1:Cur w1 W0 c a0 len cap) (hx:Lst w1 wr.heap.size y m) (hm:m<=31) (hne:y≠.slice none 0 0)
  (h:∀ v' w',DrM w w' W0 len cap a0 c v' (k+1)->wpList Tryz.prog ops Q rest (act.put op.dst v') w'):
  wpList Tryz.prog ops Q (op :: rest) act (w1.alloc (.cells #[y] 60)):=by
 obtain ⟨u,L,H,hl,h31⟩:=DR.ll
 have hone:∀ z ∈ (#[y]:Array Value).toList,z.oneCell'=true:=by
  intro z hz
  simp at hz
  rw [hz]
  obtain ⟨xs,ho,_⟩:=hx
  rcases ho.2 with ⟨e,_⟩ | ⟨g,cp,cur,e,_⟩
  ·exact absurd e hne
  ·rw [e]
   rfl
 refine qas qt0 w1 hN hgd s x ho 0 v k ((List.range k).map u) hs (qaw hl.row fun b hb=>g1.block b (hl.row.lt b hb).2 (by have:=hl.rb b hb;simp;omega)) #[y] hxv rfl hone (by omega) (Nat.zero_le _) ?_
 intro v' w' o g hv' hn'
 exact h v' w' (DrM.push hl h31 DR.gr hW g1 hc1 hx hm hne o g hv' hn')
theorem DK.weak {w wr:World} {W0 c:Nat} {a0:Option Addr} {len cap B B' T T':Nat} {y:Sy} {v:Value} (h:DK w wr W0 c a0 len cap B T y v) (hB:B'<=B) (hc:c<B') (hT:T<=T'):DK w wr W0 c a0 len cap B' T' y v:=⟨h.cu,(h.sy.base hB).top hT,h.gr,hc⟩
theorem quc (n:Nat) (L:Nat->Nat) (H:Nat->Nat->I5):(nwY (nwN n L H) L H).Good:=by
 unfold nwN
 by_cases h:snB n L H=true
 ·rw [if_pos h]
  simp only [snB,Bool.and_eq_true] at h
  exact .inl (Sy.ok_of h.2)
 ·rw [if_neg h]
  exact .inr ⟨rfl,rfl,rfl,rfl⟩
theorem NwR.form {w w':World} {n:Nat} {L:Nat->Nat} {H:Nat->Nat->I5} {e:Ending} (h:NwR w n L H e w'):∃ pa sa wa ha pc sc wc hc,∃ (Y:Sy) (b:Bool),e=.returned (.tuple #[sysV pa Y.pn pc sa Y.sn sc wa Y.wn wc ha Y.hn hc,.bool b])/\Y.Good/\SysT w' w.heap.size w'.heap.size Y (sysV pa Y.pn pc sa Y.sn sc wa Y.wn wc ha Y.hn hc)/\Bw w w':=by
 obtain ⟨pa,pc,sa,sc,wa,wc,ha,hc,rfl,o,b⟩:=h
 exact ⟨pa,sa,wa,ha,pc,sc,wc,hc,nwY (nwN n L H) L H,snB n L H,rfl,quc n L H,o.sysT,b⟩
theorem qj6 (W0 c len cap:Nat) (a0:Option Addr) (w:World) (hc:Cur w W0 c a0 len cap):
  Calls Tryz.prog 132 #[.pointer (some (aQ c 0))] w fun e w'=>∃ pa sa wa ha pc sc wc hc y,e=.returned (sysV pa y.pn pc sa y.sn sc wa y.wn wc ha y.hn hc)/\y.Good/\DK w w' W0 c a0 len cap w.heap.size w'.heap.size y (sysV pa y.pn pc sa y.sn sc wa y.wn wc ha y.hn hc):=by
 have hcl:c<w.heap.size:=hc.lt
 have hcg:W0<=c:=hc.ge
 have C0:Hid (Cur (w.alloc (zQ3)) W0 c a0 len cap/\w.grownBy (w.alloc (zQ3)) (some c)/\BoxC (w.alloc (zQ3)) w.heap.size (.slice none 0 0) (.slice none 0 0) (.slice none 0 0) (.slice none 0 0)/\(∀ j,(w.alloc (zQ3)).frozen? ⟨w.heap.size,j,none⟩=false)/\(w.alloc (zQ3)).heap.size=w.heap.size+1):=⟨hc.alloc _,World.grownBy_alloc _ _ _,BoxC.new w _ _ _ _ _,fun j=>yD _ _ _ _ rfl,by simp⟩
 clear hc
 go_enter Tryz.func132,Tryz.ntmps132
 go_wp2_with fail
 generalize w.alloc (zQ3)=W2 at *
 refine (zY W0 c len cap a0 4 W2 C0.out.1 (by omega) (by omega)).mono ?_
 rintro e w1 ⟨z,rfl,⟨z0,z1⟩,hc1,hg1⟩
 have D1:Hid (DrM W2 (w1.alloc (.cells #[] 60)) W0 len cap a0 c (.slice (some (aQ w1.heap.size 0)) 0 0) 0):=DrM.start hc1 hg1
 obtain ⟨n,hn,hn4⟩:∃ n:Nat,1+z=(n:Int)/\n<=4:=⟨(1+z).toNat,by omega,by omega⟩
 have hn4':(n:Int)<=4:=by omega
 clear hc1 hg1
 go_wp2_with fail
 clear hn z0 z1
 generalize w1.alloc (.cells #[] 60)=W3 at *
 go_loopw [4,5] (fun out i wr=>∃ k:Nat,k<=n/\i=.int .i64 k/\Hid (DrM W2 wr W0 len cap a0 c out k)) (fun _ i _=>n - (intOf i).toNat)
 case atStart=>exact ⟨0,Nat.zero_le _,rfl,D1.out⟩
 case round=>
  clear D1
  obtain ⟨k,hk,rfl,HR⟩:=hrel
  by_cases hlt:k<n
  ·have hlt':(k:Int)<(n:Int):=by omega
   go_wp2_with fail
   refine (qe4 W0 c len cap a0 n k wr HR.out.cu (by omega) hlt' hn4').mono ?_
   rintro e w5 ⟨x5,m5,rfl,⟨m50,m51⟩,hx5,hc5,hg5⟩
   obtain ⟨xa,xc,ex5⟩:∃ xa xc,x5=.slice xa m5 xc:=by
    obtain ⟨xs,ho,_⟩:=hx5
    obtain ⟨a,cc,e⟩:=zU ho
    exact ⟨a,cc,e⟩
   have hne5:x5≠.slice none 0 0:=fun e=>by
    rw [ex5] at e
    simp only [Value.slice.injEq] at e
    omega
   subst ex5
   have H5:Hid (Lst w5 wr.heap.size (.slice xa m5 xc) m5/\m5<=31/\Value.slice xa m5 xc≠.slice none 0 0/\Cur w5 W0 c a0 len cap/\wr.grownBy w5 (some c)/\k<=5/\c<W2.heap.size):=⟨hx5,by omega,hne5,hc5,hg5,by omega,by rw [C0.out.2.2.2.2];omega⟩
   clear hx5 m50 m51 hne5 hc5 hg5
   go_wp2_with (at_builtin;refine qk4 w5 rfl rfl _ _ rfl rfl rfl HR.out H5.out.2.2.2.2.2.2 H5.out.2.2.2.2.2.1 H5.out.2.2.2.2.1 H5.out.2.2.2.1 H5.out.1 H5.out.2.1 H5.out.2.2.1 ?_;intro v' w6 d6;have D6:Hid (DrM W2 w6 W0 len cap a0 c v' (k+1)):=d6;clear d6)
   go_roundw
   case rel=>exact ⟨k+1,by omega,by go_num,D6.out⟩
   case measure=>simp [intOf];omega
  ·have hkn:k=n:=by omega
   have hD:=HR.out
   rw [hkn] at hD
   have HD:Hid (DrM W2 wr W0 len cap a0 c u4 n):=hD
   clear hD HR
   obtain ⟨⟨u,L,H,hl,h31⟩,hcu,hgr,hnn⟩:=HD.out
   have hrow:=qh5 hl
   obtain ⟨g,pc,cur,eu,-⟩:∃ g pc cur,u4=.slice (some (aQ g 0)) n pc/\cur=(0:Nat):=by
    rcases hl.row.2 with ⟨e,_⟩ | ⟨g,pc,cur,e,_⟩
    ·exact absurd e hnn
    ·exact ⟨g,pc,0,e,rfl⟩
   subst eu
   have HN:Hid (∀ wx,wx=wr->Calls Tryz.prog 144 #[.slice (some ⟨g,0,none⟩) n pc] wx (NwR wx n L H)):=fun wx e=>by
    subst e
    exact qir (some (aQ g 0)) n pc (fun i=>adOf (u i)) L (fun i=>cpOf (u i)) H _ (by omega) (fun i hi=>by have:=h31 i hi;omega) hrow fun i hi=>by
     obtain ⟨b,cap,e2,hb,hI,-⟩:=atI (hl.own i hi) (hl.nn nzI i hi)
     rw [e2]
     exact srcI hb hI
   have hblk:wr.heap[w.heap.size]? = W2.heap[w.heap.size]?:=hgr.block _ (by rw [C0.out.2.2.2.2];omega) (by simp;omega)
   have B5:Hid (w.grownBy wr (some c)/\Cur wr W0 c a0 len cap/\BoxC wr w.heap.size (.slice none 0 0) (.slice none 0 0) (.slice none 0 0) (.slice none 0 0)/\(∀ j,wr.frozen? ⟨w.heap.size,j,none⟩=false)/\w.heap.size<wr.heap.size):=by
    obtain ⟨h0,h1,h2,h3⟩:=C0.out.2.2.1
    exact ⟨C0.out.2.1.trans hgr,hcu,⟨(zH hblk).trans h0,(zH hblk).trans h1,(zH hblk).trans h2,(zH hblk).trans h3⟩,fun j=>(zI hblk).trans (C0.out.2.2.2.1 j),by have:=hgr.size;have:=C0.out.2.2.2.2;omega⟩
   clear hl h31 hcu hgr hnn hrow hblk C0 HD hkn
   go_wp2_with fail
   refine (HN.out _ rfl).mono ?_
   rintro e w6 h6
   obtain ⟨pa,sa,wa,ha,pc6,sc,wc,hc6,Y,bb,rfl,hY,o6,q6⟩:=h6.form
   have K6:Hid (DK w w6 W0 c a0 len cap wr.heap.size w6.heap.size Y (sysV pa Y.pn pc6 sa Y.sn sc wa Y.wn wc ha Y.hn hc6)):=⟨B5.out.2.1.kept (zZ q6) (by simp) (fun k hk=>by cases hk),o6,B5.out.1.andThen (zZ q6) (fun j hj=>by cases hj),by have:=B5.out.2.2.2.2;omega⟩
   have B6:Hid (BoxC w6 w.heap.size (.slice none 0 0) (.slice none 0 0) (.slice none 0 0) (.slice none 0 0)/\(∀ j,w6.frozen? ⟨w.heap.size,j,none⟩=false)/\w.heap.size<wr.heap.size/\wr.heap.size<=w6.heap.size):=⟨B5.out.2.2.1.below q6,fun j=>((qai q6).2 _ j B5.out.2.2.2.2).trans (B5.out.2.2.2.1 j),B5.out.2.2.2.2,q6.size⟩
   have HG:Hid Y.Good:=hY
   clear h6 hY o6 q6 B5 HN
   obtain ⟨⟨r0,r1,r2,r3⟩,rf,lw,lr⟩:=B6.out
   have l6:w.heap.size<w6.heap.size:=by omega
   have hcN:c≠w.heap.size:=by omega
   have hcM:c≠w6.heap.size:=by omega
   go_wp2
   refine bodyPost_ret (v:=sysV pa Y.pn pc6 sa Y.sn sc wa Y.wn wc ha Y.hn hc6) (by simp [results,Tryz.results132,go_sem,r0,r1,r2,r3,l6]) rfl ⟨pa,sa,wa,ha,pc6,sc,wc,hc6,Y,rfl,HG.out,DK.weak (B:=wr.heap.size) (T:=w6.heap.size) ?_ (by omega) hcl (by simp)⟩
   repeat (first | exact K6.out | (refine DK.alloc ?_ _)|(refine DK.set ?_ (by first | omega | simp) (by first | omega | simp) (by first | omega | simp) (by omega) _ _))
theorem qui (y:Sy) (p:Int):(rdQ y p).length<=4:=by
 unfold rdQ
 split
 ·rename_i h
  have h4:=(Sy.ok_of h.1).cn.1
  refine zP (qpj _ _) ?_
  unfold chS
  split <;> omega
 ·simp
structure DP (w wr:World) (x:SysIn):Prop where
 bx:x.bX wr w.heap.size
 p0:wr.cell? ⟨w.heap.size+1,0,none⟩=some (.int .i64 0)
 p1:wr.cell? ⟨w.heap.size+1,1,none⟩=some (.int .i64 0)
 fr:∀ j,wr.frozen? ⟨w.heap.size+1,j,none⟩=false
theorem DP.blk {w wr w':World} {x:SysIn} (h:DP w wr x) (h0:w'.heap[w.heap.size]? = wr.heap[w.heap.size]?) (h1:w'.heap[w.heap.size+1]? = wr.heap[w.heap.size+1]?):DP w w' x:=by
 obtain ⟨⟨b0,b1,b2,b3⟩,p0,p1,fr⟩:=h
 exact ⟨⟨(zH h0).trans b0,(zH h0).trans b1,(zH h0).trans b2,(zH h0).trans b3⟩,(zH h1).trans p0,(zH h1).trans p1,fun j=>(zI h1).trans (fr j)⟩
theorem DP.lt {w wr:World} {x:SysIn} (h:DP w wr x):w.heap.size+1<wr.heap.size:=zJ wr _ h.p0
theorem DP.below {w wr w':World} {x:SysIn} (h:DP w wr x) (hb:Bw wr w'):DP w w' x:=h.blk (hb.block _ (by have:=h.lt;omega)) (hb.block _ h.lt)
theorem DP.draw {w wr w':World} {x:SysIn} {c:Nat} (h:DP w wr x) (hg:wr.grownBy w' (some c)) (hc:c<w.heap.size):DP w w' x:=h.blk (hg.block _ (by have:=h.lt;omega) (by simp;omega)) (hg.block _ h.lt (by simp;omega))
theorem qio (W0 c len cap B T:Nat) (a0:Option Addr) (y:Sy) (v:Value) (w:World) (hy:y.Sm) (hc:Cur w W0 c a0 len cap) (hs:SysT w B T y v) (hT:T<=w.heap.size) (hB:c<B):
  Calls Tryz.prog 133 #[.pointer (some (aQ c 0)),v] w fun e w'=>∃ p q:Int,e=.returned (.agg #[.int .i64 p,.int .i64 q])/\DK w w' W0 c a0 len cap B T y v:=by
 obtain ⟨x,rfl,rfl,hX⟩:=hs.x
 have hcl:c<w.heap.size:=hc.lt
 have hcg:W0<=c:=hc.ge
 have hpn:x.pn<=16:=hy.n.1
 have hpn':(x.pn:Int)<=16:=by omega
 have HL:Hid x.Len:=hy.inLen
 have HK:Hid ((∀ w',Abv c w w'->SysG w' x)/\∀ i,i<x.hn->x.hL i<=x.hC i):=⟨fun w' h=>hX.abv hB h,hX.cap⟩
 have K0:Hid (DK w ((w.alloc (x.oX)).alloc (.cells #[.int .i64 0,.int .i64 0] 158)) W0 c a0 len cap B T x.y x.v/\DP w ((w.alloc (x.oX)).alloc (.cells #[.int .i64 0,.int .i64 0] 158)) x/\Abv c w ((w.alloc (x.oX)).alloc (.cells #[.int .i64 0,.int .i64 0] 158))):=by
  have k0:DK w w W0 c a0 len cap B T x.y x.v:=⟨hc,hs,World.grownBy.refl _ _,hB⟩
  refine ⟨(k0.alloc _).alloc _,⟨(BoxC.new w _ _ _ _ _).below (zQ _ _),zW _ _ _ 0 (by simp),zW _ _ _ 1 (by simp),fun j=>yD _ _ _ _ (by simp)⟩,(Abv.below (zQ _ _)).trans (Abv.below (zQ _ _))⟩
 clear hc hs hX hy
 go_enter Tryz.func133,Tryz.ntmps133
 go_upto_region 1 with fail
 generalize (w.alloc (x.oX)).alloc (.cells #[.int .i64 0,.int .i64 0] 158)=W2 at *
 obtain ⟨b0,-,-,-⟩:=K0.out.2.1.bx
 go_wp2_with fail
 refine (qhz _ _ _).mono ?_
 rintro e w1 ⟨n,rfl,⟨n1,n2,n3⟩,rfl⟩
 clear b0
 have hn16:n<=16:=by omega
 go_wp2_with fail
 refine (zY W0 c len cap a0 n w1 K0.out.1.cu n2 (by omega)).mono ?_
 rintro e w2 ⟨p,rfl,⟨p0,p1⟩,hc2,hg2⟩
 have K2:Hid (DK w w2 W0 c a0 len cap B T x.y x.v/\DP w w2 x/\Abv c w w2):=⟨K0.out.1.draw hc2 hg2,K0.out.2.1.draw hg2 hcl,K0.out.2.2.trans (Abv.grown hg2)⟩
 clear hc2 hg2 K0
 obtain ⟨b0,b1,b2,b3⟩:=K2.out.2.1.bx
 go_wp2_with fail
 refine (qkq x p w2 (HK.out.1 w2 K2.out.2.2) HL.out HK.out.2).mono ?_
 rintro e w3 ⟨u3,rfl,o3,q3⟩
 obtain ⟨ra,rc,rfl,rsl⟩:=o3.form
 have hr4:=qui x.y p
 generalize rdQ x.y p=R at *
 have hr4':(R.length:Int)<=4:=by omega
 have K3:Hid (DK w w3 W0 c a0 len cap B T x.y x.v/\DP w w3 x/\OwnI w3 w2.heap.size (.slice ra R.length rc) R):=⟨K2.out.1.below q3,K2.out.2.1.below q3,o3⟩
 have LT2:Hid (w.heap.size+1<w2.heap.size):=K2.out.2.1.lt
 clear b0 b1 b2 b3 o3 q3 K2 rsl
 by_cases h0:R.length=0
 ·have h0':¬ (0:Int)<(R.length:Int):=by omega
  go_wp2_with fail
  refine (zY W0 c len cap a0 (n+1) w3 K3.out.1.cu (by omega) (by omega)).mono ?_
  rintro e w4 ⟨q,rfl,⟨q0,q1⟩,hc4,hg4⟩
  have K4:Hid (DK w w4 W0 c a0 len cap B T x.y x.v/\DP w w4 x):=⟨K3.out.1.draw hc4 hg4,K3.out.2.1.draw hg4 hcl⟩
  clear hc4 hg4 K3
  obtain ⟨-,z0,z1,zf⟩:=K4.out.2
  go_wp2
  refine bodyPost_ret (v:=.agg #[.int .i64 p,.int .i64 q]) (by simp [results,Tryz.results133,go_sem,z0,z1]) rfl ⟨p,q,rfl,?_⟩
  exact (K4.out.1.set (by omega) (by omega) (by omega) (by omega) _ _).set (by omega) (by omega) (by omega) (by omega) _ _
 ·have h0':(0:Int)<(R.length:Int):=by omega
  go_wp2_with fail
  refine (qcb W0 c len cap a0 9 w3 K3.out.1.cu (by omega) (by omega)).mono ?_
  rintro e w4 ⟨t,rfl,hc4,hg4⟩
  have K4:Hid (DK w w4 W0 c a0 len cap B T x.y x.v/\DP w w4 x/\OwnI w4 w2.heap.size (.slice ra R.length rc) R):=⟨K3.out.1.draw hc4 hg4,K3.out.2.1.draw hg4 hcl,K3.out.2.2.ofBlock fun k hk=>hg4.block k (K3.out.2.2.lt k hk).2 (by have:=(K3.out.2.2.lt k hk).1;have:=LT2.out;simp;omega)⟩
  clear hc4 hg4 K3
  rcases t with _ | _
  ·go_wp2_with fail
   refine (zY W0 c len cap a0 (R.length:Nat) w4 K4.out.1.cu (by omega) (by omega)).mono ?_
   rintro e w5 ⟨j,rfl,⟨j0,j1⟩,hc5,hg5⟩
   have K5:Hid (DK w w5 W0 c a0 len cap B T x.y x.v/\DP w w5 x/\OwnI w5 w2.heap.size (.slice ra R.length rc) R):=⟨K4.out.1.draw hc5 hg5,K4.out.2.1.draw hg5 hcl,K4.out.2.2.ofBlock fun k hk=>hg5.block k (K4.out.2.2.lt k hk).2 (by have:=(K4.out.2.2.lt k hk).1;have:=LT2.out;simp;omega)⟩
   clear hc5 hg5 K4
   obtain ⟨i,rfl⟩:∃ i:Nat,j=i:=⟨j.toNat,by omega⟩
   obtain ⟨gb,go,rfl,-,gc⟩:=K5.out.2.2.slOf.at (k:=i) (by omega)
   obtain ⟨-,z0,z1,zf⟩:=K5.out.2.1
   generalize zi R i=q at *
   go_wp2
   refine bodyPost_ret (v:=.agg #[.int .i64 p,.int .i64 q]) (by simp [results,Tryz.results133,go_sem,z0,z1]) rfl ⟨p,q,rfl,?_⟩
   exact (K5.out.1.set (by omega) (by omega) (by omega) (by omega) _ _).set (by omega) (by omega) (by omega) (by omega) _ _
  ·go_wp2_with fail
   refine (zY W0 c len cap a0 (n+1) w4 K4.out.1.cu (by omega) (by omega)).mono ?_
   rintro e w5 ⟨q,rfl,⟨q0,q1⟩,hc5,hg5⟩
   have K5:Hid (DK w w5 W0 c a0 len cap B T x.y x.v/\DP w w5 x):=⟨K4.out.1.draw hc5 hg5,K4.out.2.1.draw hg5 hcl⟩
   clear hc5 hg5 K4
   obtain ⟨-,z0,z1,zf⟩:=K5.out.2
   go_wp2
   refine bodyPost_ret (v:=.agg #[.int .i64 p,.int .i64 q]) (by simp [results,Tryz.results133,go_sem,z0,z1]) rfl ⟨p,q,rfl,?_⟩
   exact (K5.out.1.set (by omega) (by omega) (by omega) (by omega) _ _).set (by omega) (by omega) (by omega) (by omega) _ _
theorem kndP:Kind 130 158 2 16:=by
 refine ⟨Tryz.underlying130,?_,by omega,by omega⟩
 have hinfo:(Tryz.prog.info? 158).map (fun i=>(i.zero,i.size,i.bytes))=some (some (.agg #[.int .i64 0,.int .i64 0]),2,16):=by kernel_rfl
 cases hi:Tryz.prog.info? 158 with
 | none=>rw [hi] at hinfo;cases hinfo
 | some i=>
  rw [hi] at hinfo
  simp only [Option.map_some,Option.some.injEq,Prod.mk.injEq] at hinfo
  obtain ⟨hz,hs,hb⟩:=hinfo
  exact ⟨i,_,rfl,hz,hs,hb,rfl⟩
structure Bx (w:World) (N:Nat) (v0 v1 v2 v3:Value):Prop where
 bx:BoxC w N v0 v1 v2 v3
 fr:∀ j,w.frozen? ⟨N,j,none⟩=false
theorem Bx.blk {w w':World} {N:Nat} {v0 v1 v2 v3:Value} (h:Bx w N v0 v1 v2 v3) (hb:w'.heap[N]? = w.heap[N]?):Bx w' N v0 v1 v2 v3:=by
 obtain ⟨⟨h0,h1,h2,h3⟩,hf⟩:=h
 exact ⟨⟨(zH hb).trans h0,(zH hb).trans h1,(zH hb).trans h2,(zH hb).trans h3⟩,fun j=>(zI hb).trans (hf j)⟩
theorem Bx.lt {w:World} {N:Nat} {v0 v1 v2 v3:Value} (h:Bx w N v0 v1 v2 v3):N<w.heap.size:=zJ w _ h.bx.1
theorem Bx.new (w:World) (v0 v1 v2 v3:Value) (t:TypeId):Bx (w.alloc (.cells #[v0,v1,v2,v3] t)) w.heap.size v0 v1 v2 v3:=⟨BoxC.new w _ _ _ _ _,fun _j=>yD _ _ _ _ rfl⟩
theorem Bx.below {w w':World} {N:Nat} {v0 v1 v2 v3:Value} (h:Bx w N v0 v1 v2 v3) (hb:Bw w w'):Bx w' N v0 v1 v2 v3:=h.blk (hb.block N h.lt)
theorem Bx.grown {w w':World} {N:Nat} {v0 v1 v2 v3:Value} {r:Option Nat} (h:Bx w N v0 v1 v2 v3) (hg:w.grownBy w' r) (hr:r≠some N):Bx w' N v0 v1 v2 v3:=h.blk (hg.block N h.lt (fun e=>hr e.symm))
theorem Bx.set {w:World} {N M j:Nat} {v0 v1 v2 v3 u:Value} (h:Bx w N v0 v1 v2 v3) (hM:N≠M):Bx (w.setCell (aQ M j) u) N v0 v1 v2 v3:=h.blk (zO _ _ _ _ hM)
theorem Bx.put {w:World} {N:Nat} {v0 v1 v2 v3:Value} (h:Bx w N v0 v1 v2 v3) (u0 u1 u2 u3:Value):Bx ((((w.setCell (aQ N 0) u0).setCell (aQ N 1) u1).setCell (aQ N 2) u2).setCell (aQ N 3) u3) N u0 u1 u2 u3:=by
 obtain ⟨⟨h0,h1,h2,h3⟩,hf⟩:=h
 exact ⟨⟨by go_cell,by go_cell,by go_cell,by go_cell⟩,fun j=>by simpa using hf j⟩
theorem qpc {N n c k:Nat} (h:(Value.slice (some (aQ N 0)) n c).ownBlock=some k):N=k:=by
 cases h
 rfl
theorem que (w:World) {N:Nat} (hN:N=w.heap.size):(w.alloc (.cells #[] 158)).ownsRow 0 158 2 (.slice (some (aQ N 0)) 0 0) 0 []:=by
 subst hN
 exact World.ownsRow_made (base:=0) (e:=158) (size:=2) w #[] 0 (Nat.zero_le _) (by unfold maxLen;omega) (by simp)
theorem Bx.newN (w:World) {N:Nat} (hN:N=w.heap.size) (v0 v1 v2 v3:Value) (t:TypeId):Bx (w.alloc (.cells #[v0,v1,v2,v3] t)) N v0 v1 v2 v3:=by
 subst hN
 exact Bx.new w v0 v1 v2 v3 t
structure DR (w wr:World) (W0 c:Nat) (a0:Option Addr) (len cap M:Nat) (s0 s1 s2 s3 v9:Value) (k:Nat):Prop where
 ex:∃ (B T:Nat) (y:Sy) (pa sa wa ha:Option Addr) (pc sc wc hc:Nat),DK w wr W0 c a0 len cap B T y (sysV pa y.pn pc sa y.sn sc wa y.wn wc ha y.hn hc)/\y.Good/\Bx wr (M+1) (.slice pa y.pn pc) (.slice sa y.sn sc) (.slice wa y.wn wc) (.slice ha y.hn hc)/\(M+1<B\/T<=M)/\T<=wr.heap.size/\w.heap.size+2<=B/\∀ g,v9.ownBlock=some g->g<B\/T<=g
 b4:Bx wr w.heap.size (.slice none 0 0) (.slice none 0 0) (.slice none 0 0) (.slice none 0 0)
 b6:Bx wr (w.heap.size+1) (.slice none 0 0) (.slice none 0 0) (.slice none 0 0) (.slice none 0 0)
 b7:Bx wr M s0 s1 s2 s3
 li:∃ m xs,m<=k/\wr.ownsRow 0 158 2 v9 m xs
 lo:∀ g,v9.ownBlock=some g->M+1<g
 le:w.heap.size+1<M/\c<w.heap.size/\W0<=c
section
variable {w wr w':World} {W0 c len cap M k:Nat} {a0:Option Addr} {s0 s1 s2 s3 v9:Value}
theorem DR.keep (h:DR w wr W0 c a0 len cap M s0 s1 s2 s3 v9 k) (hc:Cur w' W0 c a0 len cap) (hs:wr.heap.size<=w'.heap.size) (hb:∀ b,b≠c->b<wr.heap.size->w'.heap[b]? = wr.heap[b]?) (hg:wr.grownBy w' (some c)):DR w w' W0 c a0 len cap M s0 s1 s2 s3 v9 k:=by
 obtain ⟨⟨B,T,y,pa,sa,wa,ha,pc,sc,wc,hh,dk,gd,b8,h1,h2,h3,h4⟩,b4,b6,b7,⟨m,xs,hm,hl⟩,lo,le⟩:=h
 refine ⟨⟨B,T,y,pa,sa,wa,ha,pc,sc,wc,hh,dk.draw hc hg,gd,b8.blk (hb _ (by omega) b8.lt),h1,by omega,h3,h4⟩,b4.blk (hb _ (by omega) b4.lt),b6.blk (hb _ (by omega) b6.lt),b7.blk (hb _ (by omega) b7.lt),⟨m,xs,hm,qaw hl fun g hg=>hb g (by have:=lo g hg;omega) (hl.lt g hg).2⟩,lo,le⟩
theorem DR.draw (h:DR w wr W0 c a0 len cap M s0 s1 s2 s3 v9 k) (hc:Cur w' W0 c a0 len cap) (hg:wr.grownBy w' (some c)):DR w w' W0 c a0 len cap M s0 s1 s2 s3 v9 k:=h.keep hc hg.size (fun b hb hl=>hg.block b hl (by simpa using hb)) hg
theorem DR.cur (h:DR w wr W0 c a0 len cap M s0 s1 s2 s3 v9 k):Cur wr W0 c a0 len cap:=by
 obtain ⟨⟨B,T,y,pa,sa,wa,ha,pc,sc,wc,hh,dk,-⟩,-⟩:=h
 exact dk.cu
theorem DR.below (h:DR w wr W0 c a0 len cap M s0 s1 s2 s3 v9 k) (hb:Bw wr w'):DR w w' W0 c a0 len cap M s0 s1 s2 s3 v9 k:=
 h.keep (h.cur.kept (zZ hb) (by simp) (fun k hk=>by cases hk)) hb.size (fun b _ hl=>hb.block b hl) ⟨hb.os,hb.tape,hb.output,hb.size,fun k hk _=>hb.block k hk⟩
theorem DR.app {w1:World} {v':Value} {m:Nat} {xs:List Value} (h:DR w wr W0 c a0 len cap M s0 s1 s2 s3 v9 k) (ho:w1.ownsRow 0 158 2 v' m xs) (hm:m<=k+1) (g:wr.grownBy w1 v9.ownBlock) (hv:∀ j,v'.ownBlock=some j->v9.ownBlock=some j\/wr.heap.size<=j):DR w w1 W0 c a0 len cap M s0 s1 s2 s3 v' (k+1):=by
 obtain ⟨⟨B,T,y,pa,sa,wa,ha,pc,sc,wc,hh,dk,gd,b8,h1,h2,h3,h4⟩,b4,b6,b7,-,lo,le⟩:=h
 have hne:∀ b,b<=M+1->v9.ownBlock≠some b:=fun b hb e=>by have:=lo b e;omega
 have l8:=b8.lt
 have hT1:=g.size
 refine ⟨⟨B,T,y,pa,sa,wa,ha,pc,sc,wc,hh,⟨dk.cu.kept g (fun e=>hne c (by omega) e.symm) (fun j hj=>by have:=lo j hj;omega),dk.sy.keep fun b hB hT hl=>g.block b hl (fun e=>by have:=h4 b e.symm;omega),dk.gr.andThen g (fun j hj=>.inl (by have:=lo j hj;omega)),dk.lt⟩,gd,b8.grown g (hne _ (by omega)),h1,by omega,h3,fun j hj=>(hv j hj).elim (h4 j) fun h=>.inr (by omega)⟩,b4.grown g (hne _ (by omega)),b6.grown g (hne _ (by omega)),b7.grown g (hne _ (by omega)),⟨m,xs,hm,ho⟩,fun j hj=>(hv j hj).elim (lo j) fun h=>by omega,le⟩
end
theorem DK.drew {w wr:World} {W0 c:Nat} {a0:Option Addr} {len cap B T:Nat} {y:Sy} {v:Value} (h:DK w wr W0 c a0 len cap B T y v):DK w wr.drew W0 c a0 len cap B T y v:=⟨h.cu.drew,h.sy.keep fun _ _ _ _=>rfl,⟨h.gr.os,h.gr.tape,h.gr.output,h.gr.size,h.gr.block⟩,h.lt⟩
theorem qj7 (W0 c len cap:Nat) (a0:Option Addr) (most:Int) (w:World) (hc:Cur w W0 c a0 len cap) (m0:0<=most) (m1:most<=200):
  Calls Tryz.prog 113 #[.pointer (some (aQ c 0)),.int .i64 most] w fun e w'=>∃ (B T:Nat) (y:Sy) (qa qb qc qd:Option Addr) (n0 n1 n2 n3 e0 e1 e2 e3:Nat) (v1:Value) (pa sa wa ha:Option Addr) (pc sc wc hc:Nat),e=.returned (.tuple #[.agg #[.slice qa n0 e0,.slice qb n1 e1,.slice qc n2 e2,.slice qd n3 e3],v1,sysV pa y.pn pc sa y.sn sc wa y.wn wc ha y.hn hc])/\y.Good/\DK w w' W0 c a0 len cap B T y (sysV pa y.pn pc sa y.sn sc wa y.wn wc ha y.hn hc)/\w.heap.size<=B/\T<=w'.heap.size:=by
 have hcl:c<w.heap.size:=hc.lt
 have hcg:W0<=c:=hc.ge
 have C0:Hid (Cur ((w.alloc (zQ3)).alloc (zQ3)) W0 c a0 len cap/\w.grownBy ((w.alloc (zQ3)).alloc (zQ3)) (some c)/\Bx ((w.alloc (zQ3)).alloc (zQ3)) w.heap.size (.slice none 0 0) (.slice none 0 0) (.slice none 0 0) (.slice none 0 0)/\Bx ((w.alloc (zQ3)).alloc (zQ3)) (w.heap.size+1) (.slice none 0 0) (.slice none 0 0) (.slice none 0 0) (.slice none 0 0)/\((w.alloc (zQ3)).alloc (zQ3)).heap.size=w.heap.size+2):=⟨(hc.alloc _).alloc _,(World.grownBy_alloc _ _ _).trans (World.grownBy_alloc _ _ _),(Bx.new w _ _ _ _ _).below (zQ _ _),Bx.newN _ (by simp) _ _ _ _ _,by simp⟩
 clear hc
 go_enter Tryz.func113,Tryz.ntmps113
 go_wp2_with fail
 generalize (w.alloc (zQ3)).alloc (zQ3)=W2 at *
 refine (qj6 W0 c len cap a0 W2 C0.out.1).mono ?_
 rintro e w1 ⟨pa,sa,wa,ha,pc,sc,wc,hh,y,rfl,hy,k1⟩
 have D4:Hid (DR w (((w1.alloc (oQ4 pa y.pn pc sa y.sn sc wa y.wn wc ha y.hn hh)).alloc (oQ4 pa y.pn pc sa y.sn sc wa y.wn wc ha y.hn hh)).alloc (.cells #[] 158)) W0 c a0 len cap w1.heap.size (.slice pa y.pn pc) (.slice sa y.sn sc) (.slice wa y.wn wc) (.slice ha y.hn hh) (.slice (some ⟨w1.heap.size+2,0,none⟩) 0 0) 0):=by
  have hs2:=C0.out.2.2.2.2
  have hs1:=k1.gr.size
  have k2:DK w w1 W0 c a0 len cap W2.heap.size w1.heap.size y (sysV pa y.pn pc sa y.sn sc wa y.wn wc ha y.hn hh):=⟨k1.cu,k1.sy,C0.out.2.1.trans k1.gr,k1.lt⟩
  refine ⟨⟨_,_,y,pa,sa,wa,ha,pc,sc,wc,hh,((k2.alloc _).alloc _).alloc _,hy,(Bx.newN _ (by simp) _ _ _ _ _).below (zQ _ _),.inr (Nat.le_refl _),by simp;omega,by omega,fun g hg=>?_⟩,(((C0.out.2.2.1.grown k1.gr (by simp;omega)).below (zQ _ _)).below (zQ _ _)).below (zQ _ _),(((C0.out.2.2.2.1.grown k1.gr (by simp;omega)).below (zQ _ _)).below (zQ _ _)).below (zQ _ _),((Bx.new _ _ _ _ _ _).below (zQ _ _)).below (zQ _ _),⟨0,[],Nat.le_refl _,?_⟩,fun g hg=>?_,by omega,hcl,hcg⟩
  ·have:=qpc hg
   omega
  ·exact que _ (by simp)
  ·have:=qpc hg
   omega
 clear k1 hy C0
 go_wp2_with fail
 generalize ((w1.alloc (oQ4 pa y.pn pc sa y.sn sc wa y.wn wc ha y.hn hh)).alloc (oQ4 pa y.pn pc sa y.sn sc wa y.wn wc ha y.hn hh)).alloc (.cells #[] 158)=W4 at *
 generalize w1.heap.size=M at *
 generalize y.pn=sn0 at *
 generalize y.sn=sn1 at *
 generalize y.wn=sn2 at *
 generalize y.hn=sn3 at *
 refine (zY W0 c len cap a0 (most+1) W4 D4.out.cur (by omega) (by omega)).mono ?_
 rintro e w5 ⟨n,rfl,⟨n0,n1⟩,hc5,hg5⟩
 have D5:Hid (DR w w5 W0 c a0 len cap M (.slice pa sn0 pc) (.slice sa sn1 sc) (.slice wa sn2 wc) (.slice ha sn3 hh) (.slice (some ⟨M+2,0,none⟩) 0 0) 0):=D4.out.draw hc5 hg5
 clear hc5 hg5 D4
 obtain ⟨nn,rfl⟩:∃ nn:Nat,n=nn:=⟨n.toNat,by omega⟩
 have hnn:(nn:Int)<=200:=by omega
 clear n0 n1
 go_wp2_with fail
 go_loopw [9,11] (fun v i wr=>∃ k:Nat,k<=nn/\i=.int .i64 k/\Hid (DR w wr W0 c a0 len cap M (.slice pa sn0 pc) (.slice sa sn1 sc) (.slice wa sn2 wc) (.slice ha sn3 hh) v k)) (fun _ i _=>nn - (intOf i).toNat)
 case atStart=>exact ⟨0,Nat.zero_le _,rfl,D5.out⟩
 case round=>
  clear D5
  obtain ⟨k,hk,rfl,HR⟩:=hrel
  obtain ⟨B,T,y',pa',sa',wa',ha',pc',sc',wc',hh',dk,gd,b8,h1,h2,h3,h4⟩:=HR.out.ex
  have DKr:Hid (DK w wr W0 c a0 len cap B T y' (sysV pa' y'.pn pc' sa' y'.sn sc' wa' y'.wn wc' ha' y'.hn hh')/\y'.Good/\T<=wr.heap.size/\w.heap.size+2<=B):=⟨dk,gd,h2,h3⟩
  by_cases hlt:k<nn
  ·have hlt':(k:Int)<(nn:Int):=by omega
   obtain ⟨r0,r1,r2,r3⟩:=b8.bx
   clear dk gd b8 h1 h2 h3 h4
   go_wp2_with fail
   refine (qio W0 c len cap B T a0 y' _ wr DKr.out.2.1.sm DKr.out.1.cu DKr.out.1.sy DKr.out.2.2.1 DKr.out.1.lt).mono ?_
   rintro e w2 ⟨p,q,rfl,k2⟩
   have E2:Hid (DR w (w2.alloc (.cells #[.int .i64 p,.int .i64 q] 158)) W0 c a0 len cap M (.slice pa sn0 pc) (.slice sa sn1 sc) (.slice wa sn2 wc) (.slice ha sn3 hh) u9 k):=(HR.out.draw k2.cu k2.gr).below (zQ _ _)
   have P2:Hid ((w2.alloc (.cells #[.int .i64 p,.int .i64 q] 158)).cell? (aQ w2.heap.size 0)=some (.int .i64 p)/\(w2.alloc (.cells #[.int .i64 p,.int .i64 q] 158)).cell? (aQ w2.heap.size 1)=some (.int .i64 q)):=⟨zW _ _ _ 0 rfl,zW _ _ _ 1 rfl⟩
   have L2:Hid (∀ g,u9.ownBlock=some g->g<w2.heap.size):=fun g hg=>by
    obtain ⟨m,xs,-,ho⟩:=(HR.out.draw k2.cu k2.gr).li
    exact (ho.lt g hg).2
   clear k2 r0 r1 r2 r3 HR DKr
   go_upto_region 9 with fail
   generalize hW3:w2.alloc (.cells #[.int .i64 p,.int .i64 q] 158)=w3 at *
   have hs3:w3.heap.size=w2.heap.size+1:=by rw [<- hW3];simp
   have HS3:Hid (w3.heap.size=w2.heap.size+1):=hs3
   clear hW3 hs3
   generalize w2.heap.size=N at *
   obtain ⟨c0,c1⟩:=P2.out
   obtain ⟨m,xs,hm,lo9⟩:=E2.out.li
   have LO:Hid (w3.ownsRow 0 158 2 u9 m xs/\m<=2000000/\m+1<=k+1):=⟨lo9,by omega,by omega⟩
   clear hm lo9
   go_upto_region 10 with (at_builtin;refine qas kndP w3 rfl rfl _ _ rfl 0 u9 m xs rfl LO.out.1 #[.int .i64 p,.int .i64 q] rfl rfl (by intro u hu;simp at hu;rcases hu with rfl | rfl <;> rfl) LO.out.2.1 (Nat.zero_le _) ?_;intro v5 w5 o5 g5 q5 _;have E5:Hid (DR w w5 W0 c a0 len cap M (.slice pa sn0 pc) (.slice sa sn1 sc) (.slice wa sn2 wc) (.slice ha sn3 hh) v5 (k+1)/\w5.cell? (aQ N 0)=some (.int .i64 p)/\w5.cell? (aQ N 1)=some (.int .i64 q)):=⟨E2.out.app o5 LO.out.2.2 g5 q5,(zH (g5.block N (by rw [HS3.out];omega) (fun e=>by have:=L2.out N e.symm;omega))).trans P2.out.1,(zH (g5.block N (by rw [HS3.out];omega) (fun e=>by have:=L2.out N e.symm;omega))).trans P2.out.2⟩;clear o5 g5 q5)
   clear c0 c1 E2 P2 L2 LO
   obtain ⟨B,T,y',pa',sa',wa',ha',pc',sc',wc',hh',dk,gd,b8,h1,h2,h3,h4⟩:=E5.out.1.ex
   obtain ⟨r0,r1,r2,r3⟩:=b8.bx
   obtain ⟨c0,c1⟩:=E5.out.2
   have HStep:Hid (Calls Tryz.prog 134 #[sysV pa' y'.pn pc' sa' y'.sn sc' wa' y'.wn wc' ha' y'.hn hh',.int .i64 p,.int .i64 q] w5 fun e w'=>∃ v,e=.returned (.tuple #[v,.int .i64 (stC y' p q)])/\qaj true w' w5.heap.size (stY y' p q) v/\Bw w5 w'):=by
    obtain ⟨x,ev,ey,hX⟩:=dk.sy.x
    have:=qmo x p q w5 hX.self (Sy.Sm.inLen (by rw [ey];exact gd.sm)) hX.cap
    rw [<- ev,ey] at this
    exact this
   have HGood:Hid (stC y' p q=0->(stY y' p q).Good):=fun h=>gd.step h
   clear dk gd b8 h1 h2 h3 h4
   go_wp2_with fail
   refine HStep.out.mono ?_
   rintro e w6 ⟨v6,rfl,o6,q6⟩
   generalize hC:stC y' p q=C at *
   generalize hY:stY y' p q=Y at *
   obtain ⟨pa6,pc6,sa6,sc6,wa6,wc6,ha6,hc6,rfl⟩:=o6.form
   have E6:Hid (DR w w6 W0 c a0 len cap M (.slice pa sn0 pc) (.slice sa sn1 sc) (.slice wa sn2 wc) (.slice ha sn3 hh) v5 (k+1)):=E5.out.1.below q6
   have O6:Hid (SysT w6 w5.heap.size w6.heap.size Y (sysV pa6 Y.pn pc6 sa6 Y.sn sc6 wa6 Y.wn wc6 ha6 Y.hn hc6)/\w5.heap.size<=w6.heap.size/\M+1<w5.heap.size/\(∀ g,v5.ownBlock=some g->g<w5.heap.size)):=⟨o6.sysT,q6.size,by obtain ⟨B,T,y',pa',sa',wa',ha',pc',sc',wc',hh',-,-,b8,-⟩:=E5.out.1.ex;exact b8.lt,fun g hg=>by obtain ⟨m,xs,-,ho⟩:=E5.out.1.li;exact (ho.lt g hg).2⟩
   clear hC hY o6 q6 r0 r1 r2 r3 c0 c1 HStep E5
   by_cases hc0:C=0
   ·subst hc0
    have gY:=HGood.out rfl
    obtain ⟨B,T,y',pa',sa',wa',ha',pc',sc',wc',hh',dk,gd,b8,h1,h2,h3,h4⟩:=E6.out.ex
    obtain ⟨⟨r0,r1,r2,r3⟩,rf⟩:=b8
    have l8:M+1<w6.heap.size:=by have:=O6.out;omega
    have E7:Hid (DR w ((((w6.setCell ⟨M+1,0,none⟩ (.slice pa6 Y.pn pc6)).setCell ⟨M+1,1,none⟩ (.slice sa6 Y.sn sc6)).setCell ⟨M+1,2,none⟩ (.slice wa6 Y.wn wc6)).setCell ⟨M+1,3,none⟩ (.slice ha6 Y.hn hc6)) W0 c a0 len cap M (.slice pa sn0 pc) (.slice sa sn1 sc) (.slice wa sn2 wc) (.slice ha sn3 hh) v5 (k+1)):=by
     obtain ⟨o7,hs7,hs8,hg7⟩:=O6.out
     obtain ⟨-,b4,b6,b7,⟨m,xs,hm,hl⟩,lo,le⟩:=E6.out
     have k7:DK w w6 W0 c a0 len cap w5.heap.size w6.heap.size Y (sysV pa6 Y.pn pc6 sa6 Y.sn sc6 wa6 Y.wn wc6 ha6 Y.hn hc6):=⟨dk.cu,o7,dk.gr,by omega⟩
     refine ⟨⟨_,_,Y,pa6,sa6,wa6,ha6,pc6,sc6,wc6,hc6,(((k7.set (by omega) (by omega) (.inl hs8) (by omega) _ _).set (by omega) (by omega) (.inl hs8) (by omega) _ _).set (by omega) (by omega) (.inl hs8) (by omega) _ _).set (by omega) (by omega) (.inl hs8) (by omega) _ _,gY,(show Bx w6 (M+1) _ _ _ _ from ⟨⟨r0,r1,r2,r3⟩,rf⟩).put _ _ _ _,.inl hs8,by simp,by omega,fun g hg=>.inl (hg7 g hg)⟩,(((b4.set (by omega)).set (by omega)).set (by omega)).set (by omega),(((b6.set (by omega)).set (by omega)).set (by omega)).set (by omega),(((b7.set (by omega)).set (by omega)).set (by omega)).set (by omega),⟨m,xs,hm,?_⟩,lo,le⟩
     exact qaw hl fun g hg=>by
      have hne:g≠M+1:=by have:=lo g hg;omega
      exact (zO _ _ _ _ hne).trans ((zO _ _ _ _ hne).trans ((zO _ _ _ _ hne).trans (zO _ _ _ _ hne)))
    clear dk gd h1 h2 h3 h4 gY HGood E6
    go_wp2
    go_roundw
    case rel=>exact ⟨k+1,by omega,by go_num,E7.out.below (zQ _ _)⟩
    case measure=>simp [intOf];omega
   ·have tc:(C == 0)=false:=by simpa using hc0
    go_wp2
    go_roundw
    case rel=>exact ⟨k+1,by omega,by go_num,E6.out.below (zQ _ _)⟩
    case measure=>simp [intOf];omega
  ·obtain ⟨r0,r1,r2,r3⟩:=b8.bx
   obtain ⟨⟨x0,x1,x2,x3⟩,xf⟩:=HR.out.b4
   obtain ⟨⟨z0,z1,z2,z3⟩,zf⟩:=HR.out.b6
   obtain ⟨⟨d0,d1,d2,d3⟩,df⟩:=HR.out.b7
   have hM:=HR.out.le
   have n1:w.heap.size≠M:=by omega
   have n2:w.heap.size≠M+1:=by omega
   have n3:w.heap.size+1≠M:=by omega
   have n4:w.heap.size+1≠M+1:=by omega
   have l4:w.heap.size<wr.heap.size:=zJ wr _ x0
   have l6:w.heap.size+1<wr.heap.size:=zJ wr _ z0
   clear dk gd b8 h1 h2 h3 h4 HR
   go_wp2_with fail
   go_region
   all_goals
    go_wp2
    refine bodyPost_ret (v:=.tuple #[.agg #[.slice pa sn0 pc,.slice sa sn1 sc,.slice wa sn2 wc,.slice ha sn3 hh],u9,sysV pa' y'.pn pc' sa' y'.sn sc' wa' y'.wn wc' ha' y'.hn hh']) (by simp [results,Tryz.results113,go_sem,x0,x1,x2,x3,z0,z1,z2,z3]) rfl ⟨B,T,y',pa,sa,wa,ha,sn0,sn1,sn2,sn3,pc,sc,wc,hh,u9,pa',sa',wa',ha',pc',sc',wc',hh',rfl,DKr.out.2.1,?_,by have:=DKr.out.2.2.2;omega,?_⟩
    ·refine DK.drew ?_
     iterate 8 (refine DK.set ?_ (by omega) (by omega) (by have:=DKr.out;omega) (by omega) _ _)
     exact DKr.out.1
    ·have:=DKr.out.2.2.1
     simpa using this
theorem qqg (a0:Option Addr) (len cap:Nat) (w:World) (hl:len<=1048576):Calls Tryz.prog 114 #[.slice a0 len cap,.int .i64 25,.int .i64 70] w fun e w'=>∃ z:Int,e=.returned (.int .i64 z)/\(25<=z/\z<=70)/\w'=w:=by
 have hl':(len:Int)<=1048576:=by omega
 have ed:Int.tdiv (len:Int) 4=((len / 4:Nat):Int):=(Int.ofNat_tdiv len 4).symm
 have hq:len / 4<=1048576:=by omega
 generalize len / 4=q at *
 have hq':(q:Int)<=1048576:=by omega
 by_cases t:(70:Int)<25+(q:Int)
 ·go_enter Tryz.func114,Tryz.ntmps114
  go_wp2
  go_ret
  exact ⟨_,rfl,by omega,rfl⟩
 ·go_enter Tryz.func114,Tryz.ntmps114
  go_wp2
  go_ret
  exact ⟨_,rfl,by omega,rfl⟩
theorem qh0 (W0 c len cap:Nat) (a0:Option Addr) (w:World) (hc:Cur w W0 c a0 len cap):
  Calls Tryz.prog 86 #[.pointer (some (aQ c 0)),.slice a0 len cap] w fun e w'=>∃ (B T:Nat) (y:Sy) (pa sa wa ha:Option Addr) (pc sc wc hc:Nat),e=.returned (sysV pa y.pn pc sa y.sn sc wa y.wn wc ha y.hn hc)/\y.Good/\DK w w' W0 c a0 len cap B T y (sysV pa y.pn pc sa y.sn sc wa y.wn wc ha y.hn hc)/\w.heap.size<=B/\T<=w'.heap.size:=by
 have hcl:c<w.heap.size:=hc.lt
 have hcg:W0<=c:=hc.ge
 have hln:len<=1048576:=hc.ln
 have C0:Hid (Cur (w.alloc (zQ3)) W0 c a0 len cap/\w.grownBy (w.alloc (zQ3)) (some c)/\Bx (w.alloc (zQ3)) w.heap.size (.slice none 0 0) (.slice none 0 0) (.slice none 0 0) (.slice none 0 0)/\(w.alloc (zQ3)).heap.size=w.heap.size+1):=⟨hc.alloc _,World.grownBy_alloc _ _ _,Bx.new w _ _ _ _ _,by simp⟩
 clear hc
 go_enter Tryz.func86,Tryz.ntmps86
 go_wp2_with fail
 generalize w.alloc (zQ3)=W2 at *
 refine (qqg a0 len cap W2 hln).mono ?_
 rintro e w1 ⟨z,rfl,⟨z0,z1⟩,rfl⟩
 go_wp2_with fail
 refine (qj7 W0 c len cap a0 z w1 C0.out.1 (by omega) (by omega)).mono ?_
 rintro e w3 ⟨B,T,y,qa,qb,qc,qd,n0,n1,n2,n3,e0,e1,e2,e3,v1,pa,sa,wa,ha,pc,sc,wc,hh,rfl,gd,dk,hB,hT⟩
 have K3:Hid (DK w w3 W0 c a0 len cap B T y (sysV pa y.pn pc sa y.sn sc wa y.wn wc ha y.hn hh)/\y.Good/\w.heap.size<B/\T<=w3.heap.size/\Bx w3 w.heap.size (.slice none 0 0) (.slice none 0 0) (.slice none 0 0) (.slice none 0 0)):=⟨⟨dk.cu,dk.sy,C0.out.2.1.trans dk.gr,dk.lt⟩,gd,by have:=C0.out.2.2.2;omega,hT,C0.out.2.2.1.grown dk.gr (by simp;omega)⟩
 clear gd dk hB hT C0
 obtain ⟨⟨r0,r1,r2,r3⟩,rf⟩:=K3.out.2.2.2.2
 have l3:w.heap.size<w3.heap.size:=zJ w3 _ r0
 have hN:=K3.out.2.2.1
 have hTT:=K3.out.2.2.2.1
 go_wp2
 refine bodyPost_ret (v:=sysV pa y.pn pc sa y.sn sc wa y.wn wc ha y.hn hh) (by simp [results,Tryz.results86,go_sem,r0,r1,r2,r3,l3]) rfl ⟨B,T,y,pa,sa,wa,ha,pc,sc,wc,hh,rfl,K3.out.2.1,?_,by omega,by simp;omega⟩
 repeat (first | exact K3.out.1 | (refine DK.alloc ?_ _)|(refine DK.set ?_ (by first | omega | simp) (by first | omega | simp) (by first | omega | simp) (by omega) _ _))
theorem qjq {p code:Int} {ra oa:Option Addr} {rn rc on oc k:Nat} (h:(Value.slice ra rn rc).ownBlock=some k):qal (stV p ra rn rc oa on oc code) k:=⟨_,_,_,_,rfl,.inl h⟩
theorem LS.reg {w:World} {P:Nat->Prop} {v:Value} {n:Nat} {vs:Nat->Value} {S:Nat->S4} (o:LS w P v n vs S) {i:Nat} (hi:i<n) (h2:(S i).rs.length=4) (x:Int):∃ g cap rb rn rc oa oc,v=.slice (some (aQ g 0)) n cap/\w.cell? ⟨g,i*4+1,none⟩=some (.slice (some (aQ rb 0)) 4 rc)/\rn=4/\oa=0/\oc=0/\w.cell? (aQ rb 1)=some (.int .i64 (zi (S i).rs 1))/\w.frozen? (aQ rb 1)=false/\P g/\P rb/\rb<w.heap.size/\g<w.heap.size/\LS (w.setCell (aQ rb 1) (.int .i64 x)) P v n vs (fun j=>if j=i then ⟨(S i).p,(S i).rs.set 1 x,(S i).os,(S i).c⟩ else S j):=by
 obtain ⟨g,cap,rfl,hPg,hg,⟨a1,c1,a2,c2,ev,-,hc1,-,-⟩,-⟩:=o.cell hi
 have hso:=o.own i hi
 rw [ev] at hso
 obtain ⟨o1,o2,hap⟩:=hso.parts
 obtain ⟨rb,cap1,er,hb1,hb2⟩:=o1.block (by rw [h2];omega)
 have hhas:qal (vs i) rb:=by
  rw [ev]
  exact qjq (by rw [er];rfl)
 rw [h2] at er
 simp only [Value.slice.injEq] at er
 obtain ⟨rfl,-,ec⟩:=er
 subst ec
 have o1':OwnI w 0 (.slice (some (aQ rb 0)) (S i).rs.length c1) (S i).rs:=o1
 have hcell:=o1'.cell (j:=1) (by rw [h2];omega)
 have hfr:=o1'.frozen 1
 rw [h2] at hc1
 refine ⟨g,cap,rb,4,c1,0,0,rfl,hc1,rfl,rfl,rfl,hcell,hfr,hPg,o.ob i hi rb hhas,hb2,hg,?_⟩
 have hkeep:∀ k,k≠rb->(w.setCell ⟨rb,1,none⟩ (.int .i64 x)).heap[k]? = w.heap[k]?:=fun k hk=>zO _ _ _ _ hk
 refine ⟨qaw o.row fun k hk=>hkeep k fun e=>o.ra i hi rb hhas (by rw [<- e];exact hk),fun j hj=>?_,o.rb,o.ob,o.ra,o.oa⟩
 by_cases ej:j=i
 ·subst ej
  simp only [if_true]
  have hs:=(o1'.set (n:=(S j).rs.length) rfl 1 x).1
  rw [ev]
  exact ⟨_,_,rfl,hs,o2.blk fun k hk=>hkeep k fun e=>hap rb rfl (by rw [<- e];exact hk),hap⟩
 ·simp only [if_neg ej]
  exact (o.own j hj).blk fun k hk=>hkeep k fun e=>o.oa i j hi hj (fun h=>ej h.symm) rb hhas (by rw [<- e];exact hk)
theorem qwe {w:World} {B n c sz:Nat} {e:TypeId} {a:Option Addr} {xs:List Value} (o:w.ownsRow B e sz (.slice a n c) n xs) (hl:xs.length=n*sz):Src w a xs:=by
 rcases o.2 with ⟨e1,h0⟩ | ⟨g,cap,cur,e1,hb,_⟩
 ·exact .inl (List.eq_nil_of_length_eq_zero (by rw [hl,h0,Nat.zero_mul]))
 ·simp only [Value.slice.injEq] at e1
  obtain ⟨rfl,-,rfl⟩:=e1
  refine .inr ⟨g,0,rfl,(o.lt g rfl).2,fun j u hj=>?_⟩
  have hlt:j<xs.length:=by
   rcases Nat.lt_or_ge j xs.length with h | h
   ·exact h
   ·rw [List.getElem?_eq_none h] at hj
    cases hj
  rw [Nat.zero_add,World.ownsRow.cellAt o j (by omega)]
  exact hj
theorem qlz (f:Nat->List Value):∀ n,flat f (n+1)=f 0 ++ flat (fun i=>f (i+1)) n
 | 0=>by simp [flat]
 | n+1=>by
  rw [flat,qlz f n,List.append_assoc]
  rfl
theorem qv8 (H:Nat->I2) (x:I2) (n:Nat):fT (fun i=>if i=0 then x else H (i - 1)) (n+1)=cT x ++ fT H n:=by
 show flat (fun i=>cT (if i=0 then x else H (i - 1))) (n+1)=_
 rw [qlz]
 rfl
def SysIn.shift (x:SysIn) (A:Option Addr) (C:Nat):SysIn:={ x with wa:=A,wn:=x.wn - 1,wc:=C,wA:=fun i=>x.wA (i+1),wL:=fun i=>x.wL (i+1),wC:=fun i=>x.wC (i+1),wH:=fun i=>x.wH (i+1) }
theorem SysG.shift {w:World} {x:SysIn} (h:SysG w x) {g:Nat} {A:Option Addr} {C:Nat} (hw:x.wa=some (aQ g 0)) (hA:x.wn<=1\/A=some (aQ g 1)):SysG w (x.shift A C):=by
 refine ⟨h.p,h.pi,h.s,?_,fun i hi=>h.wi (i+1) (by have h1:i<x.wn - 1:=hi;omega),h.h,h.hi⟩
 show RowS w A (x.wn - 1) fun i=>.slice (x.wA (i+1)) (x.wL (i+1)) (x.wC (i+1))
 rcases hA with h1 | rfl
 ·exact .inl (by omega)
 ·rcases h.w with h0 | ⟨b,off,e,hlt,hc⟩
  ·exact .inl (by omega)
  ·rw [hw] at e
   simp only [Option.some.injEq,Addr.mk.injEq] at e
   obtain ⟨rfl,rfl,-⟩:=e
   refine .inr ⟨g,1,rfl,hlt,fun i hi=>?_⟩
   have:=hc (i+1) (by omega)
   rwa [show 0+(i+1)=1+i by omega] at this
theorem SysX.shift {w:World} {B T:Nat} {x:SysIn} (h:SysX w B T x) {g:Nat} {A:Option Addr} {C:Nat} (hw:x.wa=some (aQ g 0)) (hA:x.wn<=1\/A=some (aQ g 1)):SysX w B T (x.shift A C):=
 ⟨fun w' hb=>(h.g w' hb).shift hw hA,h.cap,⟨fun i hi=>h.nn.w (i+1) (by have h1:i<x.wn - 1:=hi;omega),h.nn.h⟩⟩
def Sy.setP (y:Sy) (i m:Nat) (H:Nat->I5):Sy:={ y with pL:=fun j=>if j=i then m else y.pL j,pH:=fun j=>if j=i then H else y.pH j }
theorem OwnS.putP {z:Bool} {w w1:World} {B:Nat} {c:Nat->Nat} {y:Sy} {vs vw vh:Value} {g cap:Nat} {up us uw uh:Nat->Value} (o:OwnS z w B c y (.slice (some ⟨g,0,none⟩) y.pn cap) vs vw vh up us uw uh) {i:Nat} (hi:i<y.pn) {u':Value} {m:Nat} {H':Nat->I5} (hB:B<=w.heap.size) (hs:w.heap.size<=w1.heap.size) (g1:∀ k,k<w.heap.size->(up i).ownBlock≠some k->w1.heap[k]? = w.heap[k]?)
  (hu:w1.ownsRow 0 87 5 u' m (fI H' m)) (hne:u'≠.slice none 0 0) (hb:∀ k,u'.ownBlock=some k->(up i).ownBlock=some k\/w.heap.size<=k):
  OwnS z (w1.setCell (aQ g i) u') B (rcol c w.heap.size 1) (y.setP i m H') (.slice (some (aQ g 0)) y.pn cap) vs vw vh (fun j=>if j=i then u' else up j) us uw uh:=by
 have hP:∀ q k,Cl B c q k->k<w.heap.size->Cl B (rcol c w.heap.size 1) q k:=fun q k h hl=>h.old hl
 have hg:Cl B c 1 g:=o.p.rb g rfl
 have hk:∀ q,q≠1->∀ k,Cl B (rcol c w.heap.size 1) q k->k<w.heap.size->(w1.setCell ⟨g,i,none⟩ u').heap[k]? = w.heap[k]?:=fun q hq k h hl=>by
  have e:c k=q:=(qa9 hl).symm.trans h.2
  refine (zO _ _ _ _ fun ek=>hq ?_).trans (g1 k hl fun ek=>hq ?_)
  ·rw [<- e,ek];exact hg.2
  ·rw [<- e];exact (o.p.ob i hi k ek).2
 refine ⟨?_,(o.s.mono (hP 2)).keep (hk 2 (by decide)),(o.t.mono (hP 3)).keep (hk 3 (by decide)),(o.h.mono (hP 4)).keep (hk 4 (by decide))⟩
 have h:=LL.put o.p hi hs g1 hu (fun _=>hne) hb (P':=Cl B (rcol c w.heap.size 1) 1) (hP 1) fun k h _=>⟨zP hB h,qan h⟩
 have e:(fun j=>if j=i then fI H' m else fI (y.pH j) (y.pL j))=fun j=>fI ((y.setP i m H').pH j) ((y.setP i m H').pL j):=funext fun j=>by
  by_cases q:j=i
  ·simp [Sy.setP,q]
  ·simp [Sy.setP,q]
 rw [e] at h
 exact h
def World.cut (w:World) (n:Nat):World:={ w with heap:=w.heap.extract 0 n }
theorem qhd (w:World) {n:Nat} (h:n<=w.heap.size):(World.cut w n).heap.size=n:=by simp [World.cut];omega
theorem qlr (w:World) {n k:Nat} (h:n<=w.heap.size) (hk:k<n):(World.cut w n).heap[k]? = w.heap[k]?:=by
 simp only [World.cut]
 rw [Array.getElem?_extract]
 simp
 omega
def DrwS (w:World) (W0 c:Nat) (a0:Option Addr) (len cap:Nat) (e:Ending) (w':World):Prop:=∃ (x:SysIn) (B T:Nat),e=.returned x.v/\x.y.Sm/\SysX w' B T x/\Cur w' W0 c a0 len cap/\w.grownBy w' (some c)/\c<B/\T<=w'.heap.size
theorem SysX.keep {w w':World} {B T:Nat} {x:SysIn} (h:SysX w B T x) (hs:w.heap.size<=w'.heap.size) (hb:∀ b,B<=b->b<T->b<w.heap.size->w'.heap[b]? = w.heap[b]?):SysX w' B T x:=
 ⟨fun w2 h2=>h.g w2 fun b h1 h3 h4=>(h2 b h1 h3 (by omega)).trans (hb b h1 h3 h4),h.cap,h.nn⟩
theorem qd5 (a0 a1:Option Addr) (c0 c1:Nat) (xs:List Int) (w:World) (hlen:xs.length<=1048576) (h0:Sl w a0 xs) (h1:Sl w a1 xs):
  Calls Tryz.prog 20 #[.slice a0 xs.length c0,.slice a1 xs.length c1] w fun e w'=>e=.returned (.bool true)/\Bw w w':=by
 have hl':(xs.length:Int)<=1048576:=by omega
 have H0:Hid (Sl w a0 xs):=h0
 have H1:Hid (Sl w a1 xs):=h1
 clear h0 h1
 go_enter Tryz.func20,Tryz.ntmps20
 go_wp2_with fail
 go_loopw [5] (fun i wr=>∃ k:Nat,k<=xs.length/\i=.int .i64 k/\Bw w wr) (fun i _=>xs.length - (intOf i).toNat)
 case atStart=>exact ⟨0,Nat.zero_le _,rfl,Below.refl _ _⟩
 case round=>
  obtain ⟨k,hk,rfl,hbw⟩:=hrel
  by_cases hlt:k<xs.length
  ·obtain ⟨b,off,rfl,hbl,ck⟩:=(H0.out.below hbw).at hlt
   obtain ⟨b',off',rfl,hbl',ck'⟩:=(H1.out.below hbw).at hlt
   have hlt':(k:Int)<(xs.length:Int):=by omega
   go_wp2_with fail
   go_quiet (fail)
   go_wp2
   go_roundw
   case rel=>exact ⟨k+1,by omega,by go_num,yE hbw _⟩
   case measure=>simp [intOf];omega
  ·go_wp2
   go_ret
   exact ⟨rfl,hbw⟩
theorem qf8 (a0:Option Addr) (len cap:Nat) (w:World):
  Calls Tryz.prog 7 #[.slice a0 len cap] w fun e w'=>e=.returned (.bool (decide ((1048576:Int)<len)))/\w'=w:=by
 go_enter Tryz.func7,Tryz.ntmps7
 go_wp2
 go_ret
 exact ⟨rfl,rfl⟩
theorem qgk {H:Type} {enc:TypeId × Value->H} {w:World} {a0:Option Addr} {len cap:Nat} {d:DataW H} {p:List MemPlace}
  (h:DataW.Trod enc Tryz.prog w 0 (fun _=>true) true 22 (.slice a0 len cap) d p):len<=maxLen/\qbg w w.heap.size a0 len:=by
 obtain ⟨fuel,hf⟩:=h
 rcases open_ints Tryz.underlying22 Tryz.underlying5 (by kernel_rfl) hf with ⟨hcs,_⟩ | ⟨x,l,c,zs,hcs,_,hl,hm,hz,_,hcell,hwz⟩
 ·simp [Value.cells] at hcs
  obtain ⟨_,rfl,_⟩:=hcs
  exact ⟨Nat.zero_le _,.inl rfl⟩
 ·simp [Value.cells] at hcs
  obtain ⟨rfl,rfl,rfl⟩:=hcs
  refine ⟨zP hl hm,?_⟩
  by_cases h0:len=0
  ·exact .inl h0
  right
  have hz':zs.length=cap:=by simpa using hz
  obtain ⟨b,off,rfl,hc⟩:=ints_at hcell (by omega)
  refine ⟨b,off,rfl,qvw (hc 0 (by omega)),fun j hj=>⟨zs.getD j 0,hc j (by omega),?_⟩⟩
  have hmem:zs.getD j 0 ∈ zs:=by
   rw [List.getD_eq_getElem?_getD,List.getElem?_eq_getElem (by omega)]
   exact List.getElem_mem _
  exact bounds_u8 (hwz _ hmem)
theorem qip (p code:Int) (ra oa ra' oa':Option Addr) (rc oc rc' oc':Nat) (rs os:List Int) (w:World) (hr:rs.length<=1048576) (ho:os.length<=1048576) (h1:Sl w ra rs) (h2:Sl w oa os) (h1':Sl w ra' rs) (h2':Sl w oa' os):
  Calls Tryz.prog 38 #[stV p ra rs.length rc oa os.length oc code,stV p ra' rs.length rc' oa' os.length oc' code] w fun e w'=>e=.returned (.bool true)/\Bw w w':=by
 have H1:Hid (Sl w ra rs):=h1
 have H2:Hid (Sl w oa os):=h2
 have H1':Hid (Sl w ra' rs):=h1'
 have H2':Hid (Sl w oa' os):=h2'
 clear h1 h2 h1' h2'
 go_enter Tryz.func38,Tryz.ntmps38
 go_wp2_with fail
 refine (qd5 ra ra' rc rc' rs _ hr (H1.out.below (by go_grown)) (H1'.out.below (by go_grown))).mono ?_
 rintro e w1 ⟨rfl,b1⟩
 have B1:Hid (Bw w w1):=qam (by go_grown) b1 (by simp;omega)
 obtain ⟨hc1,hf1⟩:=qai b1
 have l0:w.heap.size<w.heap.size+1+1:=by omega
 have l1:w.heap.size+1<w.heap.size+1+1:=by omega
 have k0:w1.cell? (aQ w.heap.size 2)=some (.slice oa os.length oc):=(hc1 w.heap.size 2 (by simp;omega)).trans ((zS _ _ (by simp)).trans (zW _ _ _ 2 rfl))
 have k1:w1.cell? ⟨w.heap.size+1,2,none⟩=some (.slice oa' os.length oc'):=(hc1 (w.heap.size+1) 2 (by simp)).trans (qat _ _ _ 2 (by simp))
 clear b1 hc1 hf1
 go_wp2_with fail
 refine (qd5 oa oa' oc oc' os _ ho (H2.out.below B1.out) (H2'.out.below B1.out)).mono ?_
 rintro e w2 ⟨rfl,b2⟩
 have B2:Hid (Bw w w2):=B1.out.trans (b2.mono B1.out.size)
 clear b2
 go_wp2
 go_ret
 exact ⟨rfl,B2.out⟩
theorem qwo (W0:Nat) (a0:Option Addr) (len cap:Nat) (w:World) (hB:qbg w W0 a0 len) (hl:len<=1048576):
  Calls Tryz.prog 11 #[.slice a0 len cap,.int .i64 1] w fun e w'=>∃ z:Int,e=.returned (.int .i64 z)/\(0<=z/\z<=255)/\w'=w:=by
 have hl':(len:Int)<=1048576:=by omega
 by_cases h1:1<len
 ·have h1':(1:Int)<(len:Int):=by omega
  rcases hB with h0 | ⟨b,off,rfl,-,hc⟩
  ·omega
  ·obtain ⟨z,cz,z0,z1⟩:=hc 1 h1
   go_enter Tryz.func11,Tryz.ntmps11
   go_wp2
   go_ret
   exact ⟨z,rfl,⟨z0,z1⟩,rfl⟩
 ·have h1':¬ (1:Int)<(len:Int):=by omega
  go_enter Tryz.func11,Tryz.ntmps11
  go_wp2
  go_ret
  exact ⟨_,rfl,by omega,rfl⟩
