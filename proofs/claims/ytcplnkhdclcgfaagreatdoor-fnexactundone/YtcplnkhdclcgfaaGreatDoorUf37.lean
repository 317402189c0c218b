import Derived.Test.YtcplnkhdclcgfaaGreatDoorUf0
import Derived.Test.YtcplnkhdclcgfaaGreatDoorUf28
import Derived.Test.YtcplnkhdclcgfaaGreatDoorUf32
import Derived.Test.YtcplnkhdclcgfaaGreatDoorUf33
import Derived.Test.YtcplnkhdclcgfaaGreatDoorUf25
import Derived.Deep.Cut
import Derived.Test.YtcplnkhdclcgfaaGreatDoorUf26
import Derived.Test.YtcplnkhdclcgfaaGreatDoorUf8
import Derived.Test.YtcplnkhdclcgfaaGreatDoorUf19
import Derived.Lib.QuietBelow
namespace Go.Proofs.YtcplnkhdclcgfaaGreatDoor
set_option maxRecDepth 100000
set_option maxHeartbeats 4000000
open Go.ChangeShapes Go.WideShapes Go.ChangeAt Go.RowKit Go.Deep Go.Sort
theorem implFull_any (x:SysIn) (w:World) (hG:SysG w x) (hL:x.Len) (hV:w.cell? ⟨0,0,none⟩=some (.iface 272 (.agg #[.pointer (some ⟨1,172,none⟩)]))):
  Calls Tryz.prog 87 #[x.v] w fun e w'=>∃ u,e=.returned u/\OwnI w' w.heap.size u (flS x.y)/\Below w.heap.size w w':=by
 have HG:Hid (SysG w x):=hG
 have hl':(x.hn:Int)<=1048576:=by have:=hL.h.1;omega
 have HLh:Hid (∀ i,i<x.hn->x.hL i<=1048576):=hL.h.2
 have HS:Hid (∀ wx,Below w.heap.size w wx->Calls Tryz.prog 16 #[x.v] wx fun e w'=>e=.returned (.bool x.y.okB)/\Below wx.heap.size wx w'):=fun wx hb=>implSysOk_any x wx (hG.below hb) hL ((hb.cell (p:=⟨0,0,none⟩) (zJ w _ hV)).trans hV)
 have BW:Hid (Below w.heap.size w ((w.alloc (oQ5 x.pa x.pn x.pc x.sa x.sn x.sc x.wa x.wn x.wc x.ha x.hn x.hc)).alloc (.cells #[] 3))):=(zT _ _).trans ((zT _ _).mono (by simp))
 have NB:Hid (BoxC ((w.alloc (oQ5 x.pa x.pn x.pc x.sa x.sn x.sc x.wa x.wn x.wc x.ha x.hn x.hc)).alloc (.cells #[] 3)) w.heap.size (.slice x.pa x.pn x.pc) (.slice x.sa x.sn x.sc) (.slice x.wa x.wn x.wc) (.slice x.ha x.hn x.hc)):=(BoxC.new w _ _ _ _ _).below (zT _ _)
 have NO:Hid (OwnI ((w.alloc (oQ5 x.pa x.pn x.pc x.sa x.sn x.sc x.wa x.wn x.wc x.ha x.hn x.hc)).alloc (.cells #[] 3)) (w.heap.size+1) (.slice (some ⟨w.heap.size+1,0,none⟩) 0 0) []):=own_emptyN (w.alloc (oQ5 x.pa x.pn x.pc x.sa x.sn x.sc x.wa x.wn x.wc x.ha x.hn x.hc)) (by simp)
 have LT:Hid (w.heap.size+1<=((w.alloc (oQ5 x.pa x.pn x.pc x.sa x.sn x.sc x.wa x.wn x.wc x.ha x.hn x.hc)).alloc (.cells #[] 3)).heap.size):=by
  show _<=_
  simp
 clear hG hL hV
 go_enter Tryz.func87,Tryz.ntmps87
 go_wp2_with fail
 generalize (w.alloc (oQ5 x.pa x.pn x.pc x.sa x.sn x.sc x.wa x.wn x.wc x.ha x.hn x.hc)).alloc (.cells #[] 3)=W2 at *
 refine (HS.out W2 BW.out).mono ?_
 rintro e w1 ⟨rfl,q1⟩
 have B1:Hid (OwnI w1 (w.heap.size+1) (.slice (some ⟨w.heap.size+1,0,none⟩) 0 0) []/\Below w.heap.size w w1/\BoxC w1 w.heap.size (.slice x.pa x.pn x.pc) (.slice x.sa x.sn x.sc) (.slice x.wa x.wn x.wc) (.slice x.ha x.hn x.hc)/\w.heap.size+1<=w1.heap.size):=⟨NO.out.below q1,BW.out.trans (q1.mono BW.out.size),NB.out.below q1,zP LT.out q1.size⟩
 clear q1 BW NB NO LT HS
 rcases zK x.y.okB with t | t
 case inr=>
  have HV:Hid (flS x.y=[]):=by
   show flS x.y=[]
   rw [flS,if_neg (by rw [t];simp)]
  rw [t]
  clear t
  go_wp2
  go_ret
  rw [HV.out]
  exact ⟨_,rfl,B1.out.1.mono (by omega),B1.out.2.1⟩
 have HV:Hid (flS x.y=flT x.y x.hn):=if_pos t
 rw [t]
 clear t
 have b3:=B1.out.2.2.1.2.2.2
 go_wp2_with fail
 clear b3
 go_loopw [3,14] (fun o i wr=>∃ k:Nat,k<=x.hn/\i=.int .i64 k/\Hid (OwnI wr (w.heap.size+1) o (flT x.y k)/\Below w.heap.size w wr/\BoxC wr w.heap.size (.slice x.pa x.pn x.pc) (.slice x.sa x.sn x.sc) (.slice x.wa x.wn x.wc) (.slice x.ha x.hn x.hc)/\w.heap.size+1<=wr.heap.size)) (fun _ i _=>x.hn - (intOf i).toNat)
 case atStart=>exact ⟨0,Nat.zero_le _,rfl,B1.out⟩
 case round=>
  clear B1
  obtain ⟨k,hk,rfl,HB⟩:=hrel
  by_cases hlt:k<x.hn
  ·have hlt':(k:Int)<(x.hn:Int):=by omega
   obtain ⟨bh,oh,eh,ch⟩:=(HG.out.below HB.out.2.1).h.at hlt
   rw [eh]
   have EH:Hid (x.ha=some ⟨bh,oh,none⟩):=eh
   clear eh
   have hfl:=flT_len x.y k
   have hlk:(x.hL k:Int)<=1048576:=by have:=HLh.out k hlt;omega
   have HF:Hid (flT x.y (k+1)=flT x.y k ++ [(x.hL k:Int)]):=flT_next x.y k
   have HFl:Hid ((flT x.y k).length<=1048576):=by show _<=_;omega
   clear hfl
   go_wp2_with (at_builtin;refine append_one wr rfl _ _ rfl (w.heap.size+1) u3 (flT x.y k) rfl HB.out.1 (x.hL k:Int) rfl HFl.out HB.out.2.2.2 ?_;intro v' w4 o4 b4;have H4:Hid (OwnI w4 (w.heap.size+1) v' (flT x.y (k+1))/\Below w.heap.size w w4/\BoxC w4 w.heap.size (.slice x.pa x.pn x.pc) (.slice x.sa x.sn x.sc) (.slice x.wa x.wn x.wc) (.slice x.ha x.hn x.hc)/\w.heap.size+1<=w4.heap.size):=⟨o4.to HF.out,HB.out.2.1.trans (b4.mono (by omega)),HB.out.2.2.1.belowB b4 (by omega),zP HB.out.2.2.2 b4.size⟩;clear o4 b4)
   go_roundw
   case rel=>exact ⟨k+1,by omega,by go_num,by rw [<- EH.out];exact H4⟩
   case measure=>simp [intOf];omega
  ·have hkl:k=x.hn:=by omega
   have H4:Hid (OwnI wr w.heap.size u3 (flS x.y)/\Below w.heap.size w wr):=by
    have:=HB.out
    rw [hkl] at this
    rw [HV.out]
    exact ⟨this.1.mono (by omega),this.2.1⟩
   clear HB hkl
   go_wp2
   go_ret
   exact ⟨_,rfl,H4.out⟩
theorem slice_from {w:World} {B:Nat} {a:Option Addr} {cap lo:Nat} {xs:List Int} (h:OwnI w B (.slice a xs.length cap) xs) (hl:lo<=xs.length):
  ∃ a',(∀ w',(Instr.slice 37 (.slice a xs.length cap) (some (.int .i64 (lo:Int))) none none).run Tryz.prog w'=.ok (.slice a' (xs.drop lo).length (cap - lo)) w')/\∀ k,k<(xs.drop lo).length->∃ g o,a'=some ⟨g,o,none⟩/\B<=g/\g<w.heap.size/\w.cell? ⟨g,o+k,none⟩=some (.int .i64 (zi (xs.drop lo) k)):=by
 have hl':(lo:Int)<=(xs.length:Int):=by omega
 rcases h.2 with ⟨e,h0⟩ | ⟨g,cp,cur,e,hb,hg,hnc,-⟩
 ·simp only [Value.slice.injEq] at e
  obtain ⟨rfl,-,rfl⟩:=e
  have h00:lo=0:=by omega
  subst h00
  refine ⟨none,fun w'=>?_,fun k hk=>?_⟩
  ·rw [h0]
   simp [go_sem,h0]
  ·simp at hk
   omega
 ·simp only [Value.slice.injEq] at e
  obtain ⟨rfl,-,rfl⟩:=e
  by_cases hc:cap=lo
  ·refine ⟨some ⟨g,0,none⟩,fun w'=>?_,fun k hk=>?_⟩
   ·have e1:xs.length=lo:=by omega
    subst hc
    simp [go_sem,e1]
   ·simp at hk
    omega
  ·refine ⟨some ⟨g,lo,none⟩,fun w'=>?_,fun k hk=>⟨g,lo,rfl,hb,(h.lt g rfl).2,?_⟩⟩
   ·simp [go_sem,hl',hc,Addr.add]
    exact fun h=>h.symm
   ·rw [zi_drop]
    exact h.cell (by simp at hk;omega)
theorem takenH_any (X hc:Nat) (ha:Option Addr) (hA:Nat->Option Addr) (hC:Nat->Nat) (y:Hs) (a b:Nat) (w:World) (c0:w.cell? ⟨X,0,none⟩=some (.slice ha y.n hc)) (hE:HisE w ha hA hC y) (hl:∀ i,i<y.n->y.l i<=200) (hbn:b<y.n):
  Calls Tryz.prog 127 #[.pointer (some ⟨X,0,none⟩),.int .i64 a,.int .i64 b] w fun e w'=>∃ a1 c1,e=.returned (.slice a1 (cnt (y.e b) 3 a (y.l b)) c1)/\Below w.heap.size w w':=by
 have HE:Hid (EvL w (hA b) (y.l b) (y.e b)):=hE.ev b hbn
 have HLb:Hid (y.l b<=1048576):=by have:=hl b hbn;show _<=_;omega
 have hb':(b:Int)<(y.n:Int):=by omega
 obtain ⟨bh,oh,eh,ch⟩:=hE.row.at hbn
 rw [eh] at c0
 clear hE hl eh
 go_enter Tryz.func127,Tryz.ntmps127
 go_wp2_with fail
 refine (implValues_l (hA b) (y.l b) _ (y.e b) 3 a w HLb.out HE.out).mono ?_
 rintro e w1 ⟨v,rfl,o1,b1⟩
 obtain ⟨a1,c1,rfl,-⟩:=o1.form
 have O1:Hid (Below w.heap.size w w1):=b1
 clear o1 b1 c0 ch
 go_wp2
 go_ret
 exact ⟨_,_,by rw [valL_length];rfl,O1.out⟩
theorem underWay_any (X hc:Nat) (ha:Option Addr) (hA:Nat->Option Addr) (hC:Nat->Nat) (y:Hs) (a b:Nat) (w:World) (c0:w.cell? ⟨X,0,none⟩=some (.slice ha y.n hc)) (hE:HisE w ha hA hC y) (hl:∀ i,i<y.n->y.l i<=200) (han:a<y.n) (hbn:b<y.n) (hle:cnt (y.e b) 3 a (y.l b)<=cnt (y.e a) 2 b (y.l a)):
  Calls Tryz.prog 147 #[.pointer (some ⟨X,0,none⟩),.int .i64 a,.int .i64 b] w fun e w'=>∃ a1 c1,e=.returned (.slice a1 (wyL y a b).length c1)/\w'.ownsRow w.heap.size 126 2 (.slice a1 (wyL y a b).length c1) (wyL y a b).length (fT (itL (wyL y a b)) (wyL y a b).length)/\Value.slice a1 (wyL y a b).length c1≠.slice none 0 0/\Below w.heap.size w w':=by
 have HS:Hid (∀ wx,Below w.heap.size w wx->Calls Tryz.prog 129 #[.pointer (some ⟨X,0,none⟩),.int .i64 a,.int .i64 b] wx fun e w'=>∃ a1 c1,e=.returned (.slice a1 (valL (y.e a) 2 b (y.l a)).length c1)/\OwnI w' wx.heap.size (.slice a1 (valL (y.e a) 2 b (y.l a)).length c1) (valL (y.e a) 2 b (y.l a))/\Below wx.heap.size wx w'):=fun wx hb=>sentH_any X hc ha hA hC y a b wx ((hb.cell (p:=⟨X,0,none⟩) (zJ w _ c0)).trans c0) (hE.below hb) hl han
 have HT:Hid (∀ wx,Below w.heap.size w wx->Calls Tryz.prog 127 #[.pointer (some ⟨X,0,none⟩),.int .i64 a,.int .i64 b] wx fun e w'=>∃ a1 c1,e=.returned (.slice a1 (cnt (y.e b) 3 a (y.l b)) c1)/\Below wx.heap.size wx w'):=fun wx hb=>takenH_any X hc ha hA hC y a b wx ((hb.cell (p:=⟨X,0,none⟩) (zJ w _ c0)).trans c0) (hE.below hb) hl hbn
 have hlv:(valL (y.e a) 2 b (y.l a)).length<=200:=by
  rw [valL_length]
  exact zP (plN_le _ _ _ _) (hl a han)
 have hle':cnt (y.e b) 3 a (y.l b)<=(valL (y.e a) 2 b (y.l a)).length:=by
  rw [valL_length]
  exact hle
 have hzs:wyL y a b=(valL (y.e a) 2 b (y.l a)).drop (cnt (y.e b) 3 a (y.l b)):=rfl
 rw [hzs]
 clear hzs c0 hE hl hle
 generalize cnt (y.e b) 3 a (y.l b)=tn at *
 generalize valL (y.e a) 2 b (y.l a)=xs at *
 have HO0:Hid ((w.alloc (.cells #[] 126)).ownsRow w.heap.size 126 2 (.slice (some ⟨w.heap.size,0,none⟩) 0 0) 0 []):=World.ownsRow_made (base:=w.heap.size) (e:=126) (size:=2) w #[] 0 (Nat.le_refl _) (by unfold maxLen;omega) (by simp)
 have BW:Hid (Below w.heap.size w (w.alloc (.cells #[] 126))/\(w.alloc (.cells #[] 126)).heap.size=w.heap.size+1):=⟨zT _ _,by simp⟩
 have HLE:Hid (tn<=xs.length/\xs.length<=200):=⟨hle',hlv⟩
 clear hle'
 go_enter Tryz.func147,Tryz.ntmps147
 go_wp2_with fail
 generalize w.alloc (.cells #[] 126)=W1 at *
 refine (HS.out W1 BW.out.1).mono ?_
 rintro e w1 ⟨a1,c1,rfl,o1,q1⟩
 have O1:Hid (OwnI w1 W1.heap.size (.slice a1 xs.length c1) xs/\Below W1.heap.size W1 w1):=⟨o1,q1⟩
 clear o1 q1 HS
 go_wp2_with fail
 refine (HT.out w1 (BW.out.1.trans (O1.out.2.mono BW.out.1.size))).mono ?_
 rintro e w2 ⟨a2,c2,rfl,q2⟩
 obtain ⟨a3,ks,hcell⟩:=slice_from (O1.out.1.below q2) HLE.out.1
 have HC:Hid (∀ k,k<(xs.drop tn).length->∃ g o,a3=some ⟨g,o,none⟩/\W1.heap.size<=g/\g<w2.heap.size/\w2.cell? ⟨g,o+k,none⟩=some (.int .i64 (zi (xs.drop tn) k))):=hcell
 have hzl:(xs.drop tn).length<=200:=by rw [List.length_drop];omega
 have hzl':((xs.drop tn).length:Int)<=200:=by omega
 have O2:Hid (w2.ownsRow w.heap.size 126 2 (.slice (some ⟨w.heap.size,0,none⟩) 0 0) 0 []/\Below W1.heap.size W1 w2):=⟨ownsRow_blkL HO0.out fun k hk=>(O1.out.2.trans (q2.mono O1.out.2.size)).block k (HO0.out.lt k hk).2,O1.out.2.trans (q2.mono O1.out.2.size)⟩
 generalize hzs:xs.drop tn=zs at *
 have HZS:Hid (xs.drop tn=zs):=hzs
 clear hcell q2 O1 HT HO0 hlv HLE hzs
 go_wp2_with fail
 clear ks
 go_loopw [7,22] (fun o i wr=>∃ k:Nat,k<=zs.length/\i=.int .i64 k/\Hid (wr.ownsRow w.heap.size 126 2 o k (fT (itL zs) k)/\o≠.slice none 0 0/\(∀ j,o.ownBlock=some j->j=w.heap.size\/w2.heap.size<=j)/\Below w.heap.size w wr/\w2.heap.size<=wr.heap.size/\∀ g,W1.heap.size<=g->g<w2.heap.size->wr.heap[g]? = w2.heap[g]?)) (fun _ i _=>zs.length - (intOf i).toNat)
 case atStart=>exact ⟨0,Nat.zero_le _,rfl,O2.out.1,by simp,fun j hj=>by cases hj;exact .inl rfl,BW.out.1.trans (O2.out.2.mono BW.out.1.size),Nat.le_refl _,fun _ _ _=>rfl⟩
 case round=>
  clear O2
  obtain ⟨k,hk,rfl,HB⟩:=hrel
  by_cases hlt:k<zs.length
  ·have hlt':(k:Int)<(zs.length:Int):=by omega
   obtain ⟨g,o,rfl,hg1,hg2,ck⟩:=HC.out k hlt
   have ck:wr.cell? ⟨g,o+k,none⟩=some (.int .i64 (zi zs k)):=(zH (HB.out.2.2.2.2.2 g hg1 hg2)).trans ck
   have HK2:Hid (k<=2000000):=by show _<=_;omega
   have hgl:g<wr.heap.size:=by have:=HB.out.2.2.2.2.1;omega
   go_wp2_with (at_builtin; refine step_append_val kndT wr rfl rfl _ _ rfl w.heap.size u7 k _ rfl HB.out.1 #[.bool false, .int .i64 (zi zs k)] rfl rfl (by intro u hu; simp at hu; rcases hu with rfl | rfl <;> rfl) HK2.out HB.out.2.2.2.1.size ?_; intro v5 w5 o5 g5 q5 n5; have F5 : Hid (w5.ownsRow w.heap.size 126 2 v5 (k + 1) (fT (itL zs) (k + 1)) ∧ v5 ≠ .slice none 0 0 ∧ (∀ j, v5.ownBlock = some j → j = w.heap.size ∨ w2.heap.size ≤ j) ∧ Below w.heap.size w w5 ∧ w2.heap.size ≤ w5.heap.size ∧ ∀ g, W1.heap.size ≤ g → g < w2.heap.size → w5.heap[g]? = w2.heap[g]?) := ⟨o5, n5, fun j hj => by
     rcases q5 j hj with h | h
     ·exact HB.out.2.2.1 j h
     ·exact .inr (Nat.le_trans HB.out.2.2.2.2.1 h), Below.grown HB.out.2.2.2.1 g5 HB.out.2.2.2.1.size (fun j hj => (HB.out.1.lt j hj).1), Nat.le_trans HB.out.2.2.2.2.1 g5.size, fun b h1 h2 => (g5.block b (Nat.lt_of_lt_of_le h2 HB.out.2.2.2.2.1) (fun hj => by
      have e1:=BW.out.2
      rcases HB.out.2.2.1 b hj.symm with h | h <;> omega)).trans (HB.out.2.2.2.2.2 b h1 h2)⟩;clear o5 g5 q5 n5)
   go_roundw
   case rel=>exact ⟨k+1,by omega,by go_num,F5.out⟩
   case measure=>simp [intOf];omega
  ·have hkn:k=zs.length:=by omega
   subst hkn
   obtain ⟨a4,c4,rfl⟩:=zU HB.out.1
   go_wp2
   go_ret
   rw [HZS.out]
   exact ⟨a4,c4,rfl,HB.out.1,HB.out.2.1,HB.out.2.2.2.1⟩
theorem waysAt_any (X hc:Nat) (ha:Option Addr) (hA:Nat->Option Addr) (hC:Nat->Nat) (y:Hs) (w:World) (c0:w.cell? ⟨X,0,none⟩=some (.slice ha y.n hc)) (hE:HisE w ha hA hC y) (hl:∀ i,i<y.n->y.l i<=200) (h4:y.n<=4) (hle:∀ a,a<y.n->∀ b,b<y.n->cnt (y.e b) 3 a (y.l b)<=cnt (y.e a) 2 b (y.l a)):
  Calls Tryz.prog 67 #[.pointer (some ⟨X,0,none⟩)] w fun e w'=>∃ v u,e=.returned (.tuple #[v,.bool (wfB y)])/\(wfB y=true->LT true w' (fun k=>w.heap.size<=k/\k<w'.heap.size) v (y.n*y.n) u (fun i=>(wyL y (i / y.n) (i % y.n)).length) (fun i=>itL (wyL y (i / y.n) (i % y.n))))/\Below w.heap.size w w':=by
 have HU:Hid (∀ wx,Below w.heap.size w wx->∀ a b,a<y.n->b<y.n->Calls Tryz.prog 147 #[.pointer (some ⟨X,0,none⟩),.int .i64 (a:Nat),.int .i64 (b:Nat)] wx fun e w'=>∃ a1 c1,e=.returned (.slice a1 (wyL y a b).length c1)/\w'.ownsRow wx.heap.size 126 2 (.slice a1 (wyL y a b).length c1) (wyL y a b).length (fT (itL (wyL y a b)) (wyL y a b).length)/\Value.slice a1 (wyL y a b).length c1≠.slice none 0 0/\Below wx.heap.size wx w'):=fun wx hb a b ha' hb'=>underWay_any X hc ha hA hC y a b wx ((hb.cell (p:=⟨X,0,none⟩) (zJ w _ c0)).trans c0) (hE.below hb) hl ha' hb' (hle a ha' b hb')
 have HC0:Hid (∀ wx,Below w.heap.size w wx->wx.cell? ⟨X,0,none⟩=some (.slice ha y.n hc)):=fun wx hb=>(hb.cell (p:=⟨X,0,none⟩) (zJ w _ c0)).trans c0
 have hl':(y.n:Int)<=4:=by omega
 have HW:Hid (∀ a b,a<y.n->(wyL y a b).length<=200):=fun a b ha'=>by
  unfold wyL
  rw [List.length_drop,valL_length]
  have h1:=plN_le (y.e a) 2 b (y.l a)
  have h2:=hl a ha'
  omega
 have HF:Hid (wfB y=qB (∀ a,a<y.n->∀ b,b<y.n->(wyL y a b).length<=12)):=rfl
 clear hE hl hle c0
 generalize wfB y=R at *
 obtain ⟨L,hLe⟩:∃ L:Nat->Nat,(fun i=>(wyL y (i / y.n) (i % y.n)).length)=L:=⟨_,rfl⟩
 obtain ⟨H,hHe⟩:∃ H:Nat->Nat->I2,(fun i=>itL (wyL y (i / y.n) (i % y.n)))=H:=⟨_,rfl⟩
 rw [hLe,hHe]
 have HLH:Hid (∀ k j,j<y.n->(wyL y k j).length=L (k*y.n+j)/\itL (wyL y k j)=H (k*y.n+j)):=fun k j hj=>by
  obtain ⟨e1,e2⟩:=wy_at (a:=k) hj
  rw [<- hLe,<- hHe]
  dsimp only
  rw [e1,e2]
  exact ⟨rfl,rfl⟩
 clear hLe hHe
 go_enter Tryz.func67,Tryz.ntmps67
 have c1:=HC0.out (w.alloc (.cells #[] 124)) (zT _ _)
 go_wp2_with fail
 clear c1
 go_loopw [4,14] (fun v i wr=>∃ k:Nat,k<=y.n/\i=.int .i64 k/\Hid ((∃ u,LT true wr (fun b=>w.heap.size<=b/\b<wr.heap.size) v (k*y.n) u L H)/\Below w.heap.size w wr)/\Hid (∀ a,a<k->∀ b,b<y.n->(wyL y a b).length<=12)) (fun _ i _=>y.n - (intOf i).toNat)
 case atStart=>exact ⟨0,Nat.zero_le _,rfl,⟨⟨fun _=>.slice none 0 0,by rw [Nat.zero_mul];exact LL.new _ _ _ w _ (by simp) _ _ _⟩,zT _ _⟩,fun j hj=>by omega⟩
 case round=>
  obtain ⟨k,hk,rfl,HB,HK⟩:=hrel
  by_cases hlt:k<y.n
  ·have hlt':(k:Int)<(y.n:Int):=by omega
   have c1:=HC0.out wr HB.out.2
   go_wp2_with fail
   clear c1
   go_loopw [4,22] (fun v i wr=>∃ j:Nat,j<=y.n/\i=.int .i64 j/\Hid ((∃ u,LT true wr (fun b=>w.heap.size<=b/\b<wr.heap.size) v (k*y.n+j) u L H)/\Below w.heap.size w wr)/\Hid (∀ b,b<j->(wyL y k b).length<=12)) (fun _ i _=>y.n - (intOf i).toNat)
   case atStart=>exact ⟨0,Nat.zero_le _,rfl,HB.out,fun j hj=>by omega⟩
   case round=>
    clear HB
    obtain ⟨j,hj,rfl,HB,HJ⟩:=hrel
    by_cases hjt:j<y.n
    ·have hjt':(j:Int)<(y.n:Int):=by omega
     go_wp2_with fail
     refine (HU.out _ HB.out.2 k j hlt hjt).mono ?_
     rintro e w3 ⟨a3,c3,rfl,o3,n3,q3⟩
     have hm:=HW.out k j hlt
     by_cases ho:12<(wyL y k j).length
     ·have HV:Hid (R=false):=by
       show R=false
       rw [HF.out]
       exact qB_false fun h=>by
        have h1:=h k hlt j hjt
        omega
      have ho':(12:Int)<((wyL y k j).length:Int):=by omega
      have B3:Hid (Below w.heap.size w w3):=HB.out.2.trans (q3.mono HB.out.2.size)
      generalize (wyL y k j).length=m at *
      clear o3 n3 q3 HB
      go_wp2
      exact bodyPost_ret (v:=.tuple #[.slice none 0 0,.bool false]) (by simp [results,Tryz.results67,go_sem]) rfl ⟨_,fun _=>.slice none 0 0,by rw [HV.out],fun h=>(by rw [HV.out] at h;cases h),B3.out⟩
     ·have ho':¬ (12:Int)<((wyL y k j).length:Int):=by omega
      have HJ':Hid (∀ b,b<j+1->(wyL y k b).length<=12):=fun b hb=>by
       by_cases e:b=j
       ·subst e
        omega
       ·exact HJ.out b (by omega)
      rw [(HLH.out k j hjt).1,(HLH.out k j hjt).2] at o3
      rw [(HLH.out k j hjt).1] at n3 ho' hm ⊢
      have h16:k*y.n<=4*4:=Nat.mul_le_mul (by omega) h4
      have HK2:Hid (k*y.n+j<=2000000):=by show _<=_;omega
      have F4:Hid (w3.ownsRow wr.heap.size 126 2 (.slice a3 (L (k*y.n+j)) c3) (L (k*y.n+j)) (fT (H (k*y.n+j)) (L (k*y.n+j)))/\Below wr.heap.size wr w3/\Value.slice a3 (L (k*y.n+j)) c3≠.slice none 0 0):=⟨o3,q3,n3⟩
      obtain ⟨⟨u,oz⟩,bz⟩:=HB.out
      have OZ:Hid (LT true wr (fun b=>w.heap.size<=b/\b<wr.heap.size) u4 (k*y.n+j) u L H):=oz
      have BZ:Hid (Below w.heap.size w wr):=bz
      clear HJ o3 n3 q3 ho oz bz HB h16
      generalize hkk:k*y.n+j=kk at *
      have HKK:Hid (k*y.n+j=kk):=hkk
      clear hkk
      go_wp2_with (at_builtin;refine step_append_val kndTT w3 rfl rfl _ _ rfl 0 u4 kk _ rfl (OZ.out.below F4.out.2.1).row #[.slice a3 (L kk) c3] rfl rfl (by intro u hu;simp at hu;subst hu;rfl) HK2.out (Nat.zero_le _) ?_;intro v5 w5 o5 g5 q5 n5;have F5:Hid (LT true w5 (fun b=>w.heap.size<=b/\b<w5.heap.size) v5 (kk+1) (fun j=>if j=kk then .slice a3 (L kk) c3 else u j) L H/\Below w.heap.size w w5):=⟨OZ.out.push F4.out.2.1 F4.out.1 (fun _=>F4.out.2.2) o5 g5 q5 (fun j hj _=>⟨hj.1,zL hj.2 (zP F4.out.2.1.size g5.size)⟩) (fun j hj hj'=>⟨zP BZ.out.size hj,hj'⟩),Below.grown (BZ.out.trans (F4.out.2.1.mono BZ.out.size)) g5 (zP BZ.out.size F4.out.2.1.size) (fun j hj=>(OZ.out.rb j hj).1)⟩;clear o5 g5 q5 n5)
      go_roundw
      case rel=>exact ⟨j+1,by omega,by go_num,⟨⟨_,by rw [<- Nat.add_assoc,HKK.out];exact F5.out.1⟩,F5.out.2⟩,HJ'.out⟩
      case measure=>simp [intOf];omega
    ·have HK':Hid (∀ a,a<k+1->∀ b,b<y.n->(wyL y a b).length<=12):=fun a ha b hb=>by
      by_cases e:a=k
      ·subst e
       exact HJ.out b (by omega)
      ·exact HK.out a (by omega) b hb
     have hjn:j=y.n:=by omega
     have HB':Hid ((∃ u,LT true wr (fun b=>w.heap.size<=b/\b<wr.heap.size) u4 ((k+1)*y.n) u L H)/\Below w.heap.size w wr):=by
      have:=HB.out
      rw [hjn] at this
      rw [Nat.add_mul,Nat.one_mul]
      exact this
     clear HK HJ HB hjn
     go_wp2
     go_roundw
     case rel=>exact ⟨k+1,by omega,by go_num,HB'.out,HK'.out⟩
     case measure=>simp [intOf];omega
  ·have HV:Hid (R=true):=by
    show R=true
    rw [HF.out]
    exact qB_true fun a ha b hb=>HK.out a (by omega) b hb
   have hkn:k=y.n:=by omega
   subst hkn
   obtain ⟨⟨u,oz⟩,bz⟩:=HB.out
   have OZ:Hid (LT true wr (fun b=>w.heap.size<=b/\b<wr.heap.size) u4 (y.n*y.n) u L H/\Below w.heap.size w wr):=⟨oz,bz⟩
   clear HK HB oz bz
   go_wp2
   exact bodyPost_ret (v:=.tuple #[u4,.bool true]) (by simp [results,Tryz.results67,go_sem]) rfl ⟨_,u,by rw [HV.out],fun _=>OZ.out.1,OZ.out.2⟩
theorem AtP.start {z:Bool} {B m3 m1:Nat} {w3 w1:World} {y:Sy} {vp vw:Value} {up uw:Nat->Value} (o3:LT z w3 (fun k=>m3<=k/\k<w3.heap.size) vw y.wn uw y.wL y.wH) (o1:LI z w1 (fun k=>m1<=k/\k<w1.heap.size) vp y.pn up y.pL y.pH) (hb:Below w3.heap.size w3 w1) (h1:w3.heap.size<=m1) (hB:B<=m3) (h3:m3<=w3.heap.size):
  ∃ c,AtP z B w1.heap.size c { y with sn:=0,hn:=0 } (w1.alloc (.cells #[vp,.slice none 0 0,vw,.slice none 0 0] 29)) vp (.slice none 0 0) vw (.slice none 0 0) up (fun _=>.slice none 0 0) uw (fun _=>.slice none 0 0):=by
 have hs:=hb.size
 have ba:=zQ w1 (.cells #[vp,.slice none 0 0,vw,.slice none 0 0] 29)
 refine ⟨fun k=>if k=w1.heap.size then 0 else if k<w3.heap.size then 3 else 1,BoxC.new w1 _ _ _ _ _,fun j=>yD _ _ _ _ rfl,if_pos rfl,by omega,?_,LS.nil _ _ _ _,?_,LL.nil _ _ _ _ _ _ _ _⟩
 ·refine (o1.mono fun k hk _=>⟨by omega,?_⟩).below ba
  show (if k=w1.heap.size then 0 else if k<w3.heap.size then 3 else 1)=1
  rw [if_neg (by omega),if_neg (by omega)]
 ·refine ((o3.mono fun k hk _=>⟨by omega,?_⟩).below hb).below ba
  show (if k=w1.heap.size then 0 else if k<w3.heap.size then 3 else 1)=3
  rw [if_neg (by omega),if_pos (by omega)]
theorem implAt_any (x:SysIn) (ca:Option Addr) (cc:Nat) (c:List Int) (w:World) (hG:SysG w x) (hL:x.Len) (hcap:∀ i,i<x.hn->x.hL i<=x.hC i) (hc:Sl w ca c) (hcl:c.length<=1048576) (hV:w.cell? ⟨0,0,none⟩=some (.iface 272 (.agg #[.pointer (some ⟨1,172,none⟩)]))):
  Calls Tryz.prog 21 #[x.v,.slice ca c.length cc] w fun e w'=>∃ v,e=.returned (.tuple #[v,.bool (atB x.y c)])/\OwnSys true w' w.heap.size (atS x.y c) v/\Below w.heap.size w w':=by
 have HVx:Hid (∀ wx,Below w.heap.size w wx->wx.cell? ⟨0,0,none⟩=some (.iface 272 (.agg #[.pointer (some ⟨1,172,none⟩)]))):=fun wx hb=>(hb.cell (p:=⟨0,0,none⟩) (zJ w _ hV)).trans hV
 have HS:Hid (∀ wx,Below w.heap.size w wx->Calls Tryz.prog 65 #[x.v,.slice ca c.length cc] wx fun e w'=>e=.returned (.bool (whB x.y c))/\Below wx.heap.size wx w'):=fun wx hb=>implWhole_any x ca cc c wx (hG.below hb) hL hcap (hc.below hb) hcl (HVx.out wx hb)
 have BW:Hid (Below w.heap.size w ((w.alloc (oQ5 x.pa x.pn x.pc x.sa x.sn x.sc x.wa x.wn x.wc x.ha x.hn x.hc)).alloc (zQ2))):=(zQ _ _).trans ((zQ _ _).mono (by simp))
 have NB:Hid (BoxC ((w.alloc (oQ5 x.pa x.pn x.pc x.sa x.sn x.sc x.wa x.wn x.wc x.ha x.hn x.hc)).alloc (zQ2)) w.heap.size (.slice x.pa x.pn x.pc) (.slice x.sa x.sn x.sc) (.slice x.wa x.wn x.wc) (.slice x.ha x.hn x.hc)):=(BoxC.new w _ _ _ _ _).below (zQ _ _)
 have RB:Hid (BoxC ((w.alloc (oQ5 x.pa x.pn x.pc x.sa x.sn x.sc x.wa x.wn x.wc x.ha x.hn x.hc)).alloc (zQ2)) (w.heap.size+1) (.slice none 0 0) (.slice none 0 0) (.slice none 0 0) (.slice none 0 0)/\∀ j,((w.alloc (oQ5 x.pa x.pn x.pc x.sa x.sn x.sc x.wa x.wn x.wc x.ha x.hn x.hc)).alloc (zQ2)).frozen? ⟨w.heap.size+1,j,none⟩=false):=⟨⟨zW _ _ _ 0 (by simp),zW _ _ _ 1 (by simp),zW _ _ _ 2 (by simp),zW _ _ _ 3 (by simp)⟩,fun j=>yD _ _ _ _ (by simp)⟩
 have hM:w.heap.size<=w.heap.size+1:=Nat.le_succ _
 have HG:Hid (SysG w x):=hG
 have HL:Hid x.Len:=hL
 have HQ:Hid ((∀ i,i<x.hn->x.hL i<=x.hC i)/\Sl w ca c):=⟨hcap,hc⟩
 clear hG hL hcap hc hV
 go_enter Tryz.func21,Tryz.ntmps21
 go_wp2_with fail
 generalize (w.alloc (oQ5 x.pa x.pn x.pc x.sa x.sn x.sc x.wa x.wn x.wc x.ha x.hn x.hc)).alloc (zQ2)=W2 at *
 refine (HS.out W2 BW.out).mono ?_
 rintro e w1 ⟨rfl,q1⟩
 have B1:Hid (Below w.heap.size w w1/\BoxC w1 w.heap.size (.slice x.pa x.pn x.pc) (.slice x.sa x.sn x.sc) (.slice x.wa x.wn x.wc) (.slice x.ha x.hn x.hc)/\BoxC w1 (w.heap.size+1) (.slice none 0 0) (.slice none 0 0) (.slice none 0 0) (.slice none 0 0)/\∀ j,w1.frozen? ⟨w.heap.size+1,j,none⟩=false):=⟨BW.out.trans (q1.mono BW.out.size),NB.out.below q1,RB.out.1.below q1,fun j=>((bcell q1).2 _ j (zJ _ _ RB.out.1.1)).trans (RB.out.2 j)⟩
 clear q1 BW NB RB HS
 have l1:w.heap.size+1<w1.heap.size:=zJ _ _ B1.out.2.2.1.1
 obtain ⟨b0,b1,b2,b3⟩:=B1.out.2.1
 rcases zK (whB x.y c) with t | t
 case inr=>
  have HV:Hid (atB x.y c=false/\atS x.y c=x.y.nil):=⟨by show atB x.y c=false;unfold atB;rw [t];rfl,if_neg (by rw [t];simp)⟩
  obtain ⟨⟨r0,r1,r2,r3⟩,rf⟩:=B1.out.2.2
  rw [t]
  clear t
  go_wp2
  exact bodyPost_ret (v:=.tuple #[sysV none 0 0 none 0 0 none 0 0 none 0 0,.bool false]) (by simp [results,Tryz.results21,go_sem,r0,r1,r2,r3]) rfl ⟨_,by rw [HV.out.1],by rw [HV.out.2];exact OwnSys.zero _ _ _,(((B1.out.1.setCell hM _).setCell hM _).setCell hM _).setCell hM _⟩
 obtain ⟨hcu,hwh⟩:=whB_parts t
 obtain ⟨hO,hC⟩:=cutB_parts hcu
 have HO:Hid (x.y.Ok/\x.y.Cut c/\x.y.Wh (cN c)):=⟨hO,hC,hwh⟩
 have hln:c.length=x.pn:=hC.len
 have h4:x.pn<=4:=hO.cn.1.2
 have hhn:x.hn=x.pn:=hO.cn.2.2.1
 have HN:Hid (c.length=x.pn/\x.hn=x.pn/\x.pn<=4):=⟨hln,hhn,h4⟩
 have HAT:Hid (atB x.y c=wfB (x.y.ah (cN c))/\atS x.y c=x.y.atW (cN c)):=⟨by show atB x.y c=_;unfold atB;rw [t];rfl,if_pos t⟩
 have eah:x.y.ah (cN c)=x.y.at c:=by
  unfold Sy.ah Sy.at
  rw [hln]
  rfl
 have HH:Hid (∀ wx,Below w.heap.size w wx->Calls Tryz.prog 66 #[x.v,.slice ca c.length cc] wx fun e w'=>∃ ha hc,e=.returned (.agg (hcL ha c.length hc).toArray)/\RowS w' ha c.length (fun i=>.slice (x.hA i) (cN c i) (cN c i))/\Below wx.heap.size wx w'):=fun wx hb=>historyAt_any x ca cc c wx (HG.out.below hb) HQ.out.1 hhn h4 hC (HQ.out.2.below hb)
 have HE:Hid (∀ wx ha,Below w.heap.size w wx->RowS wx ha c.length (fun i=>.slice (x.hA i) (cN c i) (cN c i))->HisE wx ha x.hA (cN c) (x.y.at c)):=fun wx ha hb hr=>hisE_at HG.out hb hC hhn hr
 have HW:Hid (∀ wx X ha hc,Below w.heap.size w wx->wx.cell? ⟨X,0,none⟩=some (.slice ha c.length hc)->RowS wx ha c.length (fun i=>.slice (x.hA i) (cN c i) (cN c i))->Calls Tryz.prog 67 #[.pointer (some ⟨X,0,none⟩)] wx fun e w'=>∃ v u,e=.returned (.tuple #[v,.bool (wfB (x.y.ah (cN c)))])/\(wfB (x.y.ah (cN c))=true->LT true w' (fun k=>wx.heap.size<=k/\k<w'.heap.size) v (x.y.atY (cN c)).wn u (x.y.atY (cN c)).wL (x.y.atY (cN c)).wH)/\Below wx.heap.size wx w'):=fun wx X ha hc' hb hcell hr=>by
  have h:=waysAt_any X hc' ha x.hA (cN c) (x.y.at c) wx hcell (HE.out wx ha hb hr) (fun i hi=>zP (hC.leN (by have h2:i<c.length:=hi;show i<x.pn;omega)) (hO.hl200 (by have h2:i<c.length:=hi;show i<x.pn;omega))) (by show c.length<=4;omega) (fun a ha b hb=>hwh a (by have h2:a<c.length:=ha;show a<x.pn;omega) b (by have h2:b<c.length:=hb;show b<x.pn;omega))
  rw [<- eah] at h
  exact h
 have HP : Hid (∀ wx, Below w.heap.size w wx → Calls Tryz.prog 68 #[.slice x.pa x.pn x.pc] wx fun e w' => ∃ v u, e = .returned v ∧ LI true w' (fun k => wx.heap.size ≤ k ∧ k < w'.heap.size) v x.pn u x.pL x.pH ∧ Below wx.heap.size wx w') := fun wx hb => copyListsIns_own x.pa x.pn x.pc x.pA x.pL x.pC x.pH wx HL.out.p.1 HL.out.p.2 (HG.out.below hb).p (fun i hi => by
  obtain ⟨b,e,hlt,hI⟩:=(HG.out.below hb).pi i hi
  exact ⟨b,0,e,by rw [e];exact srcI hlt hI⟩)
 have HR:Hid (∀ wx ha,Below w.heap.size w wx->RowS wx ha c.length (fun i=>.slice (x.hA i) (cN c i) (cN c i))->∀ p,p<x.pn->Calls Tryz.prog 69 #[.slice (x.pA p) (x.pL p) (x.pC p),.slice (x.hA p) (cN c p) (cN c p)] wx (DoneR wx ((x.y.atY (cN c)).sS p) (repO (x.pH p) (x.pL p) (x.hH p) (cN c p)).isSome)):=fun wx ha hb hr p hp=>by
  obtain ⟨b,e,hlt,hI⟩:=(HG.out.below hb).pi p hp
  rw [e]
  exact implReplay_l b (x.pL p) (x.pC p) (x.hA p) (cN c p) (cN c p) (x.pH p) (x.hH p) wx (by have:=HL.out.p.2 p hp;unfold maxLen;omega) hlt hI ((HE.out wx ha hb hr).ev p (by show p<c.length;omega)) (zP (hC.leN (by show p<x.pn;exact hp)) (by have:=hO.hl200 (p:=p) hp;show x.y.hL p<=_;omega)) (HVx.out wx hb)
 have HK:Hid (∀ wx ha,Below w.heap.size w wx->RowS wx ha c.length (fun i=>.slice (x.hA i) (cN c i) (cN c i))->∀ p,p<x.pn->Calls Tryz.prog 70 #[.slice (x.hA p) (cN c p) (cN c p)] wx fun e w'=>∃ a1 c1,e=.returned (.slice a1 (cN c p) c1)/\w'.ownsRow wx.heap.size 71 3 (.slice a1 (cN c p) c1) (cN c p) (fE (x.hH p) (cN c p))/\Value.slice a1 (cN c p) c1≠.slice none 0 0/\Below wx.heap.size wx w'):=fun wx ha hb hr p hp=>copyOfEvent_any (x.hA p) (cN c p) (cN c p) (x.hH p) wx (zP (hC.leN (by show p<x.pn;exact hp)) (by have:=hO.hl200 (p:=p) hp;show x.y.hL p<=_;omega)) (srcE ((HE.out wx ha hb hr).ev p (by show p<c.length;omega)))
 rw [t]
 clear t hcu hwh hO hC hln h4 hhn eah
 have HYW:Hid (x.y.atW (cN c)=if wfB (x.y.ah (cN c))=true then x.y.atY (cN c) else x.y.nil):=rfl
 generalize x.y.atW (cN c)=YW at *
 generalize wfB (x.y.ah (cN c))=wf at *
 go_wp2_with fail
 refine (HH.out w1 B1.out.1).mono ?_
 rintro e w2 ⟨ea,ec,rfl,r2,q2⟩
 have B2:Hid (Below w1.heap.size w1 w2/\RowS w2 ea c.length (fun i=>.slice (x.hA i) (cN c i) (cN c i))):=⟨q2,r2⟩
 clear q2 r2 b0 b1 b2 b3 HH
 have hl:=hcL_len ea c.length ec
 have ho:=hcL_one ea c.length ec
 generalize hcs:hcL ea c.length ec=cl at *
 have hs:cl.toArray.size=21:=by simpa using hl
 have HI:Hid ((Tryz.prog.info? 79).map (·.size)=some cl.toArray.size):=by show _=_;rw [hs];exact infoHistory
 have HOc:Hid (cl.toArray.all (·.oneCell')=true):=all_oneCell_toArray ho
 have HT:Hid ((w2.alloc (zQ3)).there w2.heap.size 0 cl.toArray.size):=there_new _ _ _ _ _ (by rw [hs];rfl) rfl
 have BE:Hid (Below w2.heap.size w2 ((w2.alloc (zQ3)).setCells w2.heap.size 0 cl)):=(Touch.sets (P:=fun b=>b=w2.heap.size) rfl _ _ (Touch.of_below (zT _ _))).below (Nat.le_refl _) fun b e=>by omega
 have HRr:((w2.alloc (zQ3)).setCells w2.heap.size 0 cl).rangeAt w2.heap.size 0 cl:=World.rangeAt_setCells_same _ _ _ _ (by simpa using HT.out)
 have HCe:Hid (((w2.alloc (zQ3)).setCells w2.heap.size 0 cl).cell? ⟨w2.heap.size,0,none⟩=some (.slice ea c.length ec)):=his_cell HRr hcs
 clear hl ho hs HRr hcs
 go_upto_region 4 with (refine wpList_store_mid rfl 79 (.tmp 6) (.tmp 21) rfl w2.heap.size 0 cl.toArray rfl rfl HT.out HI.out HOc.out ?_)
 clear HT HI HOc
 generalize (w2.alloc (zQ3)).setCells w2.heap.size 0 cl=w3 at *
 have B3:Hid (Below w1.heap.size w1 w3/\RowS w3 ea c.length (fun i=>.slice (x.hA i) (cN c i) (cN c i))):=⟨B2.out.1.trans (BE.out.mono B2.out.1.size),B2.out.2.below BE.out⟩
 clear BE B2
 generalize w2.heap.size=X at *
 clear w2
 have W03:Hid (Below w.heap.size w w3):=B1.out.1.trans (B3.out.1.mono B1.out.1.size)
 go_wp2_with fail
 refine (HW.out w3 X ea ec W03.out HCe.out B3.out.2).mono ?_
 rintro e w4 ⟨v4,u4,rfl,o4,q4⟩
 have F4:Hid ((wf=true->LT true w4 (fun k=>w3.heap.size<=k/\k<w4.heap.size) v4 (x.y.atY (cN c)).wn u4 (x.y.atY (cN c)).wL (x.y.atY (cN c)).wH)/\Below w3.heap.size w3 w4):=⟨o4,q4⟩
 clear o4 q4 HW
 cases wf with
 | false=>
  have HV:Hid (YW=x.y.nil):=HYW.out
  have q4:Below w1.heap.size w1 w4:=B3.out.1.trans (F4.out.2.mono B3.out.1.size)
  obtain ⟨r0,r1,r2,r3⟩:=B1.out.2.2.1.below q4
  have rf:∀ j,w4.frozen? ⟨w.heap.size+1,j,none⟩=false:=fun j=>((bcell q4).2 _ j l1).trans (B1.out.2.2.2 j)
  have Q4:Hid (Below w.heap.size w w4):=B1.out.1.trans (q4.mono B1.out.1.size)
  clear q4 F4 HP HR HK HE
  go_wp2
  exact bodyPost_ret (v:=.tuple #[sysV none 0 0 none 0 0 none 0 0 none 0 0,.bool false]) (by simp [results,Tryz.results21,go_sem,r0,r1,r2,r3]) rfl ⟨_,by rw [HAT.out.1],by rw [HAT.out.2,HV.out];exact OwnSys.zero _ _ _,(((Q4.out.setCell hM _).setCell hM _).setCell hM _).setCell hM _⟩
 | true=>
  have HV:Hid (YW=x.y.atY (cN c)):=HYW.out
  have O4:Hid (LT true w4 (fun k=>w3.heap.size<=k/\k<w4.heap.size) v4 (x.y.atY (cN c)).wn u4 (x.y.atY (cN c)).wL (x.y.atY (cN c)).wH/\Below w3.heap.size w3 w4):=⟨F4.out.1 rfl,F4.out.2⟩
  clear HYW F4
  obtain ⟨a4,c4,rfl⟩:=zU O4.out.1.row
  obtain ⟨b0,b1,b2,b3⟩:=B1.out.2.1.below (B3.out.1.trans (O4.out.2.mono B3.out.1.size))
  have lw:w.heap.size<w4.heap.size:=zJ _ _ b0
  go_wp2_with fail
  refine (HP.out w4 (W03.out.trans (O4.out.2.mono W03.out.size))).mono ?_
  rintro e w5 ⟨v5,u5,rfl,o5,q5⟩
  obtain ⟨a5,c5,rfl⟩:=zU o5.row
  obtain ⟨cl5,st5⟩:=AtP.start (z:=true) (B:=w3.heap.size) (y:=x.y.atY (cN c)) O4.out.1 o5 q5 (Nat.le_refl _) (Nat.le_refl _) O4.out.2.size
  have F5:Hid (AtP true w3.heap.size w5.heap.size cl5 { x.y.atY (cN c) with sn:=0,hn:=0 } (w5.alloc (oQ5 a5 x.pn c5 none 0 0 a4 (x.y.atY (cN c)).wn c4 none 0 0)) (.slice a5 x.pn c5) (.slice none 0 0) (.slice a4 (x.y.atY (cN c)).wn c4) (.slice none 0 0) u5 (fun _=>.slice none 0 0) u4 (fun _=>.slice none 0 0)/\Below w3.heap.size w3 (w5.alloc (oQ5 a5 x.pn c5 none 0 0 a4 (x.y.atY (cN c)).wn c4 none 0 0))):=⟨st5,(O4.out.2.trans (q5.mono O4.out.2.size)).trans ((zQ _ _).mono (zP O4.out.2.size q5.size))⟩
  clear o5 q5 st5 HP b0 b1 b2 b3 lw
  go_upto_region 8 with fail
  clear O4
  generalize w5.alloc (oQ5 a5 x.pn c5 none 0 0 a4 (x.y.atY (cN c)).wn c4 none 0 0)=W5 at *
  generalize hNN:w5.heap.size=N at *
  clear hNN w5
  have HX3:Hid (∀ wx,Below w3.heap.size w3 wx->wx.cell? ⟨X,0,none⟩=some (.slice ea c.length ec)/\RowS wx ea c.length (fun i=>.slice (x.hA i) (cN c i) (cN c i))/\Below w.heap.size w wx/\BoxC wx w.heap.size (.slice x.pa x.pn x.pc) (.slice x.sa x.sn x.sc) (.slice x.wa x.wn x.wc) (.slice x.ha x.hn x.hc)/\BoxC wx (w.heap.size+1) (.slice none 0 0) (.slice none 0 0) (.slice none 0 0) (.slice none 0 0)/\(∀ j,wx.frozen? ⟨w.heap.size+1,j,none⟩=false)/\w.heap.size+1<w3.heap.size/\w3.heap.size<=wx.heap.size):=fun wx hb=>⟨(hb.cell (p:=⟨X,0,none⟩) (zJ _ _ HCe.out)).trans HCe.out,B3.out.2.below hb,W03.out.trans (hb.mono W03.out.size),(B1.out.2.1.below B3.out.1).below hb,(B1.out.2.2.1.below B3.out.1).below hb,fun j=>((bcell hb).2 _ j (zL l1 B3.out.1.size)).trans (((bcell B3.out.1).2 _ j l1).trans (B1.out.2.2.2 j)),zL l1 B3.out.1.size,hb.size⟩
  clear B1 B3 HCe W03 l1
  have hn':(c.length:Int)<=4:=by have:=HN.out;omega
  have hx0:=(HX3.out _ F5.out.2).1
  go_wp2_with fail
  clear hx0
  go_loopw [37] (fun i wr=>∃ k:Nat,k<=c.length/\i=.int .i64 k/\Hid ((∃ cl vs vh us uh,AtP true w3.heap.size N cl { x.y.atY (cN c) with sn:=k,hn:=k } wr (.slice a5 x.pn c5) vs (.slice a4 (x.y.atY (cN c)).wn c4) vh u5 us u4 uh)/\Below w3.heap.size w3 wr)) (fun i _=>c.length - (intOf i).toNat)
  case atStart=>exact ⟨0,Nat.zero_le _,rfl,⟨_,_,_,_,_,F5.out.1⟩,F5.out.2⟩
  case round=>
   clear F5
   obtain ⟨k,hk,rfl,HZ⟩:=hrel
   by_cases hlt:k<c.length
   ·have hlt':(k:Int)<(c.length:Int):=by omega
    have hkp:k<x.pn:=by have:=HN.out;omega
    have hkp':(k:Int)<(x.pn:Int):=by omega
    obtain ⟨-,hrw,hbw,⟨b0,b1,b2,b3⟩,-,-,-,hle3⟩:=HX3.out wr HZ.out.2
    have RW:Hid (RowS wr ea c.length (fun i=>.slice (x.hA i) (cN c i) (cN c i))/\Below w.heap.size w wr):=⟨hrw,hbw⟩
    obtain ⟨be,oe,rfl,ce⟩:=hrw.at hlt
    obtain ⟨bp,op,epp,cp⟩:=(HG.out.below hbw).p.at hkp
    rw [epp] at b0
    clear epp hbw
    obtain ⟨⟨cl,vs,vh,us,uh,hA⟩,hbz⟩:=HZ.out
    have AP:Hid (AtP true w3.heap.size N cl { x.y.atY (cN c) with sn:=k,hn:=k } wr (.slice a5 x.pn c5) vs (.slice a4 (x.y.atY (cN c)).wn c4) vh u5 us u4 uh):=hA
    have BZ:Hid (Below w3.heap.size w3 wr):=hbz
    clear hA hbz HZ hle3
    go_wp2_with fail
    refine (HR.out wr _ RW.out.2 RW.out.1 k hkp).mono ?_
    rintro e w6 ⟨v6,rfl,o6,q6⟩
    obtain ⟨ra1,rc1,oa1,oc1,rfl,-,-⟩:=o6.read
    clear b0 b1 b2 b3 ce cp
    have S6:Hid (StOwn w6 wr.heap.size (stV ((x.y.atY (cN c)).sS k).p ra1 ((x.y.atY (cN c)).sS k).rs.length rc1 oa1 ((x.y.atY (cN c)).sS k).os.length oc1 ((x.y.atY (cN c)).sS k).c) ((x.y.atY (cN c)).sS k).p ((x.y.atY (cN c)).sS k).rs ((x.y.atY (cN c)).sS k).os ((x.y.atY (cN c)).sS k).c/\Below wr.heap.size wr w6):=⟨o6,q6⟩
    clear o6 q6
    generalize hTT:(x.y.atY (cN c)).sS k=T at *
    have HTT:Hid ((x.y.atY (cN c)).sS k=T):=hTT
    clear hTT
    generalize (repO (x.pH k) (x.pL k) (x.hH k) (cN c k)).isSome=rb at *
    have N7:Hid (BoxC (w6.alloc (oQ1 T.p ra1 T.rs.length rc1 oa1 T.os.length oc1 T.c)) w6.heap.size (.int .i64 T.p) (.slice ra1 T.rs.length rc1) (.slice oa1 T.os.length oc1) (.int .i64 T.c)/\Below wr.heap.size wr (w6.alloc (oQ1 T.p ra1 T.rs.length rc1 oa1 T.os.length oc1 T.c))/\StOwn (w6.alloc (oQ1 T.p ra1 T.rs.length rc1 oa1 T.os.length oc1 T.c)) wr.heap.size (stV T.p ra1 T.rs.length rc1 oa1 T.os.length oc1 T.c) T.p T.rs T.os T.c):=⟨BoxC.new w6 _ _ _ _ _,S6.out.2.trans ((zQ _ _).mono S6.out.2.size),S6.out.1.below (zQ _ _)⟩
    go_upto_region 12 with fail
    clear S6
    generalize w6.alloc (oQ1 T.p ra1 T.rs.length rc1 oa1 T.os.length oc1 T.c)=w7 at *
    generalize hN7:w6.heap.size=S7 at *
    clear hN7 w6
    obtain ⟨sa,sc,rfl⟩:=zU AP.out.o.s.row
    obtain ⟨ha,hc,rfl⟩:=zU AP.out.o.h.row
    obtain ⟨x0,x1,x2,x3⟩:=(AP.out.below N7.out.2.1).bx
    obtain ⟨s0,s1,s2,s3⟩:=N7.out.1
    have hk2:Hid (k<=2000000):=by show k<=2000000;omega
    have lN7:N<w7.heap.size:=zJ _ _ x0
    have lS7:S7<w7.heap.size:=zJ _ _ s0
    go_upto_region 13 with (at_builtin;refine step_append_val kndS w7 rfl rfl _ _ rfl 0 (.slice sa k sc) k _ rfl (AP.out.o.s.below N7.out.2.1).row #[.int .i64 T.p,.slice ra1 T.rs.length rc1,.slice oa1 T.os.length oc1,.int .i64 T.c] rfl rfl (by intro u hu;simp at hu;rcases hu with rfl | rfl | rfl | rfl <;> rfl) hk2.out (Nat.zero_le _) ?_;intro v8 w8 o8 g8 q8 n8;obtain ⟨a8,c8,rfl⟩:=zU o8;obtain ⟨⟨z0,z1,z2,z3⟩,zf⟩:=AP.out.box N7.out.2.1 g8 (fun k hk=>(AP.out.gS k hk).2);have F8:Hid (AtP true w3.heap.size N (rcol cl wr.heap.size 2) { x.y.atY (cN c) with sn:=k+1,hn:=k } (w8.setCell ⟨N,1,none⟩ (.slice a8 (k+1) c8)) (.slice a5 x.pn c5) (.slice a8 (k+1) c8) (.slice a4 (x.y.atY (cN c)).wn c4) (.slice ha k hc) u5 (fun j=>if j=k then stV T.p ra1 T.rs.length rc1 oa1 T.os.length oc1 T.c else us j) u4 uh/\Below w3.heap.size w3 (w8.setCell ⟨N,1,none⟩ (.slice a8 (k+1) c8))):=⟨AP.out.state N7.out.2.1 (by rw [HTT.out];exact N7.out.2.2) o8 g8 q8,(Below.grown (BZ.out.trans (N7.out.2.1.mono BZ.out.size)) g8 (zP BZ.out.size N7.out.2.1.size) (fun j hj=>(AP.out.gS j hj).1)).setCell AP.out.bN _⟩;clear o8 g8 q8 n8)
    clear x0 x1 x2 x3 s0 s1 s2 s3 z0 z1 z2 z3 zf lN7 lS7 N7 AP
    generalize w8.setCell ⟨N,1,none⟩ (.slice a8 (k+1) c8)=w9 at *
    clear w8
    obtain ⟨x0,x1,x2,x3⟩:=F8.out.1.bx
    have lN9:N<w9.heap.size:=F8.out.1.lt
    have q0:Below w9.heap.size w9 w9.drew:=(Below.refl w9.heap.size w9).drew
    obtain ⟨-,hrw,hbw,-⟩:=HX3.out w9.drew (F8.out.2.trans (q0.mono F8.out.2.size))
    refine wp_region_G (fun w'=>w'.cell? ⟨N,3,none⟩=some (.slice ha k hc)) (fun i=>i == 7) (by kernel_rfl) ?_
    have hHeld:(fun w':World=>w'.cell? ⟨N,3,none⟩=some (.slice ha k hc)) w9.drew:=(q0.cell (p:=⟨N,3,none⟩) lN9).trans x3
    refine wpGT_of [0,1,2] ?_
    iterate 3 (refine wpGT_take rfl hHeld ?_;apply Exists.intro;refine ⟨fun wq hSw=>?_,?_⟩;(· ((try dsimp only at hSw);go_simp;try with_reducible rfl));(try simp only [Act.put,zD,zE,zF]))
    refine wpGT_nil ?_
    refine wpG_one 3 rfl (by kernel_rfl) (fun K hK=>?_)
    refine stepR_call rfl 70 _ _ rfl #[.slice (x.hA k) (cN c k) (cN c k)] (by simp [Act.eval]) (yB Tryz.func70 (by kernel_rfl) rfl) (HK.out w9.drew _ hbw hrw k hkp) ?_
    rintro e w10 ⟨a10,c10,rfl,o10,n10,d10⟩
    refine ⟨_,rfl,?_⟩
    have Q10:Hid (Below w9.heap.size w9 w10/\w10.ownsRow w9.heap.size 71 3 (.slice a10 (cN c k) c10) (cN c k) (fE (x.hH k) (cN c k))/\Value.slice a10 (cN c k) c10≠.slice none 0 0):=⟨q0.trans (d10.mono q0.size),o10,n10⟩
    refine hK.out _ _ (fun _=>(Q10.out.1.cell (p:=⟨N,3,none⟩) lN9).trans x3) ?_
    clear hHeld hK K o10 n10 d10 hrw hbw q0
    (try simp only [Act.put,zD,zE,zF])
    refine wpG_one 4 rfl (by kernel_rfl) (fun K hK=>?_)
    go_simp
    refine hK.out _ _ (fun _=>((Q10.out.1.trans ((zQ w10 _).mono Q10.out.1.size)).cell (p:=⟨N,3,none⟩) lN9).trans x3) ?_
    clear hK K
    (try simp only [Act.put,zD,zE,zF])
    refine wpG_one 5 rfl (by kernel_rfl) (fun K hK=>?_)
    refine stepR_append_val kndEE w10 rfl rfl _ _ rfl 0 (.slice ha k hc) k _ rfl (F8.out.1.o.h.below Q10.out.1).row #[.slice a10 (cN c k) c10] rfl rfl (by intro u hu;simp at hu;subst hu;rfl) hk2.out (Nat.zero_le _) ?_
    intro v11 w11 o11 g11 q11 n11
    obtain ⟨a11,c11,rfl⟩:=zU o11
    obtain ⟨⟨z0,z1,z2,z3⟩,zf⟩:=F8.out.1.box Q10.out.1 g11 (fun k hk=>(F8.out.1.gH k hk).2)
    have F9:Hid (AtP true w3.heap.size N (rcol (rcol cl wr.heap.size 2) w9.heap.size 4) { x.y.atY (cN c) with sn:=k+1,hn:=k+1 } (w11.setCell ⟨N,3,none⟩ (.slice a11 (k+1) c11)) (.slice a5 x.pn c5) (.slice a8 (k+1) c8) (.slice a4 (x.y.atY (cN c)).wn c4) (.slice a11 (k+1) c11) u5 (fun j=>if j=k then stV T.p ra1 T.rs.length rc1 oa1 T.os.length oc1 T.c else us j) u4 (fun j=>if j=k then .slice a10 (cN c k) c10 else uh j)/\Below w3.heap.size w3 (w11.setCell ⟨N,3,none⟩ (.slice a11 (k+1) c11))):=⟨F8.out.1.hist Q10.out.1 Q10.out.2.1 Q10.out.2.2 o11 g11 q11,(Below.grown (F8.out.2.trans (Q10.out.1.mono F8.out.2.size)) g11 (zP F8.out.2.size Q10.out.1.size) (fun j hj=>(F8.out.1.gH j hj).1)).setCell F8.out.1.bN _⟩
    refine hK.out _ _ (fun _=>z3) ?_
    clear o11 g11 q11 n11 hK K
    (try simp only [Act.put,zD,zE,zF])
    have hHeld:(fun w':World=>w'.cell? ⟨N,3,none⟩=some (.slice ha k hc)) w11:=z3
    refine wpG_take 6 rfl hHeld ?_
    apply Exists.intro
    refine ⟨fun wq hSw=>?_,?_⟩
    ·(try dsimp only at hSw)
     go_simp
     try with_reducible rfl
    (try simp only [Act.put,zD,zE,zF])
    refine wpG_one 7 rfl (by kernel_rfl) (fun K hK=>?_)
    have hfN1:=zf 3
    go_simp
    refine hK.out _ _ (fun h=>?_) ?_
    ·exact absurd h (by decide)
    clear hK K z0 z1 z2 z3 zf hfN1 x0 x1 x2 x3 Q10 F8 lN9
    (try simp only [Act.put])
    refine wpG_done (by kernel_rfl) ?_ _
    go_wp2
    go_roundw
    case rel=>exact ⟨k+1,by omega,by go_num,⟨_,_,_,_,_,F9.out.1⟩,F9.out.2⟩
    case measure=>simp [intOf];omega
   ·have hkn:k=x.pn:=by have:=HN.out;omega
    subst hkn
    have hlt':¬ (x.pn:Int)<(c.length:Int):=by omega
    obtain ⟨⟨cl,vs,vh,us,uh,hA⟩,hbz⟩:=HZ.out
    obtain ⟨sa,sc,rfl⟩:=zU hA.o.s.row
    obtain ⟨ha,hc,rfl⟩:=zU hA.o.h.row
    obtain ⟨x0,x1,x2,x3⟩:=hA.bx
    obtain ⟨-,-,hbw,-,⟨r0,r1,r2,r3⟩,rf,l1,hle3⟩:=HX3.out wr hbz
    have OS:Hid (OwnSys true wr w3.heap.size (x.y.atY (cN c)) (.agg #[.slice a5 x.pn c5,.slice sa x.pn sc,.slice a4 (x.y.atY (cN c)).wn c4,.slice ha x.pn hc])):=⟨_,_,_,_,_,_,_,_,_,rfl,hA.o⟩
    have BW:Hid (Below w.heap.size w wr/\w.heap.size<=w3.heap.size):=⟨hbw,by omega⟩
    have lN:N<wr.heap.size:=hA.lt
    have hNr:w3.heap.size<=N:=hA.bN
    have hl1:w.heap.size+1<wr.heap.size:=by omega
    clear hA HZ hbw hbz HX3
    go_wp2
    exact bodyPost_ret (v := .tuple #[.agg #[.slice a5 x.pn c5, .slice sa x.pn sc, .slice a4 (x.y.atY (cN c)).wn c4, .slice ha x.pn hc], .bool true]) (by simp [results, Tryz.results21, go_sem, r0, r1, r2, r3]) rfl ⟨_, by rw [HAT.out.1], by
     rw [HAT.out.2,HV.out]
     exact ((((OS.out.setBelow l1 0 _).setBelow l1 1 _).setBelow l1 2 _).setBelow l1 3 _).base BW.out.2,(((BW.out.1.setCell hM _).setCell hM _).setCell hM _).setCell hM _⟩
