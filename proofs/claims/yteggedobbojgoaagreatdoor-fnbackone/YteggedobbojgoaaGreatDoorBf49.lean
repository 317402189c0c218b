import Derived.Test.YteggedobbojgoaaGreatDoorBf53
import Derived.Test.YteggedobbojgoaaGreatDoorBf48
import Derived.Test.YteggedobbojgoaaGreatDoorBf35
namespace Go.Proofs.YteggedobbojgoaaGreatDoor
set_option maxRecDepth 100000
set_option maxHeartbeats 4000000
open Go.RowKit Go.Deep
theorem Sy.Cl.ex {y:Sy} {c:List Int}:∀ (n:Nat) (e:List Int),sm e<=n->y.Cl c e->∃ e',y.Cl c e'/\y.Wh (cN e')
 | n,e,hn,h=>by
  by_cases hw:y.Wh (cN e)
  ·exact ⟨e,h,hw⟩
  ·obtain ⟨a,ha,b,hb,hno⟩:∃ a,a<y.pn/\∃ b,b<y.pn/\¬ tN y (cN e) a b<=sN y (cN e) a b:=by
    apply Classical.byContradiction
    intro hc
    exact hw fun a ha b hb=>Classical.byContradiction fun h'=>hc ⟨a,ha,b,hb,h'⟩
   have ho:0<=ovN y (cN e) a b:=by
    apply Classical.byContradiction
    intro h0
    exact hno (qex.1 (by omega))
   obtain ⟨h1,h2,h3⟩:=h.next ha hb ho
   have hlt:=qop e b _ (by rw [h.len];exact hb) h3 h2
   cases n with
   | zero=>omega
   | succ n=>exact Sy.Cl.ex n _ (by omega) h1
theorem qe8 {y:Sy} {c:List Int} (h:cutB y c=true):y.Cl c (clS y c)/\y.Wh (cN (clS y c)):=by
 obtain ⟨e,h1,h2⟩:=Sy.Cl.ex (sm c) c (Nat.le_refl _) (Sy.Cl.start (qbo h).2)
 rw [qit h h1 h2]
 exact ⟨h1,h2⟩
theorem qhi {y:Sy} {c:List Int} (hO:y.Ok) (hC:y.Cut c):cutB y c=true:=by
 unfold cutB
 rw [Sy.okB_true hO,qa5 hC]
 rfl
theorem qhe {y:Sy} {c:List Int} (h:cutB y c=true):y.Cut (clS y c):=(qe8 h).1.cut (qbo h).2
theorem qt5 {y:Sy} {c:List Int} (h:cutB y c=true):whB y (clS y c)=true:=by
 unfold whB
 rw [qhi (qbo h).1 (qhe h),qa5 (qe8 h).2]
 rfl
def bkL (y:Sy) (p:Nat) (k:Int):List Int:=(flT y y.hn).set p k
theorem qly {y:Sy} {n p:Nat} (h:p<n):zi (flT y n) p=(y.hL p:Int):=by
 unfold zi flT
 simp [List.getD_eq_getElem?_getD,h]
theorem qp8 {y:Sy} (hO:y.Ok) {p:Nat} {k:Int} (h0:0<=k) (h1:k<=(y.hL p:Int)):y.Cut (bkL y p k):=by
 have hh:=hO.cn.2.2.1
 refine ⟨by unfold bkL;rw [List.length_set,qcj];exact hh,fun q hq=>?_⟩
 unfold bkL
 by_cases hp:p<y.hn
 ·rw [qlz (by rw [qcj];exact hp)]
  by_cases e:q=p
  ·subst e
   rw [if_pos rfl]
   exact ⟨h0,h1⟩
  ·rw [if_neg e,qly (by omega)]
   omega
 ·rw [List.set_eq_of_length_le (by rw [qcj];omega),qly (by omega)]
  omega
noncomputable def bkE (y:Sy) (p k:Int):List Int:=clS y (bkL y p.toNat k)
def bkIn (y:Sy) (p k:Int):Bool:=belB p y.pn && inB k 0 (y.hL p.toNat)
noncomputable def bkC (y:Sy) (p k:Int):Int:=if y.okB=true then (if bkIn y p k=true then (if wfB (y.ah (cN (bkE y p k)))=true then 0 else 3) else 2) else 1
noncomputable def bkY (y:Sy) (p k:Int):Sy:=if y.okB=true then (if bkIn y p k=true then (if wfB (y.ah (cN (bkE y p k)))=true then y.atY (cN (bkE y p k)) else y) else y) else y.nil
theorem qfy {y:Sy} {p k:Int} (h:bkIn y p k=true):∃ P:Nat,p=P/\P<y.pn/\0<=k/\k<=(y.hL P:Int):=by
 simp only [bkIn,belB,inB,Bool.and_eq_true,decide_eq_true_eq] at h
 exact ⟨p.toNat,by omega,by omega,h.2.1,h.2.2⟩
theorem qet {y:Sy} (hO:y.Ok) {p k:Int} (h:bkIn y p k=true):cutB y (bkL y p.toNat k)=true:=by
 obtain ⟨P,rfl,hP,h0,h1⟩:=qfy h
 rw [Int.toNat_natCast]
 exact qhi hO (qp8 hO h0 h1)
theorem qvc (y:Sy) (p k:Int):(bkY y p k).Sm:=by
 unfold bkY
 split
 ·rename_i hk
  have hO:=Sy.ok_of hk
  split
  ·rename_i hb
   split
   ·rename_i hw
    have hc:=qhe (qet hO hb)
    have:=Sy.atW_sm hO (d:=cN (bkE y p k)) fun q hq=>hc.leN hq
    rw [Sy.atW,if_pos hw] at this
    exact this
   ·exact hO.sm
  ·exact hO.sm
 ·exact y.nil_sm
theorem qae.weak {z:Bool} {w:World} {B:Nat} {y:Sy} {v:Value} (o:qae z w B y v):qae false w B y v:=by
 obtain ⟨c,vp,vs,vw,vh,up,us,uw,uh,e,o⟩:=o
 exact ⟨c,vp,vs,vw,vh,up,us,uw,uh,e,o.weak⟩
open Go.ChangeShapes Go.WideShapes Go.ChangeAt Go.Sort
theorem qk3 (x:SysIn) (w:World) (hG:SysG w x) (hL:x.Len) (hV:w.cell? (aQ 0 0)=some (.iface 160 (.agg #[.pointer (some (aQ 1 116))]))):
  Calls Tryz.prog 20 #[x.v] w fun e w'=>∃ u,e=.returned u/\OwnI w' w.heap.size u (flS x.y)/\Bw w w':=by
 have HG:Hid (SysG w x):=hG
 have hl':(x.hn:Int)<=1048576:=by have:=hL.h.1;omega
 have HLh:Hid (∀ i,i<x.hn->x.hL i<=1048576):=hL.h.2
 have HS:Hid (∀ wx,Bw w wx->Calls Tryz.prog 33 #[x.v] wx fun e w'=>e=.returned (.bool x.y.okB)/\Bw wx w'):=fun wx hb=>qdk x wx (hG.below hb) hL ((hb.cell (p:=⟨0,0,none⟩) (zJ w _ hV)).trans hV)
 have BW:Hid (Bw w ((w.alloc (x.oX)).alloc (.cells #[] 3))):=(zT _ _).trans ((zT _ _).mono (by simp))
 have NB:Hid (x.bX ((w.alloc (x.oX)).alloc (.cells #[] 3)) w.heap.size):=(BoxC.new w _ _ _ _ _).below (zT _ _)
 have NO:Hid (OwnI ((w.alloc (x.oX)).alloc (.cells #[] 3)) (w.heap.size+1) (.slice (some ⟨w.heap.size+1,0,none⟩) 0 0) []):=qei (w.alloc (x.oX)) (by simp)
 have LT:Hid (w.heap.size+1<=((w.alloc (x.oX)).alloc (.cells #[] 3)).heap.size):=by
  show _<=_
  simp
 clear hG hL hV
 go_enter Tryz.func20,Tryz.ntmps20
 go_wp2_with fail
 generalize (w.alloc (x.oX)).alloc (.cells #[] 3)=W2 at *
 refine (HS.out W2 BW.out).mono ?_
 rintro e w1 ⟨rfl,q1⟩
 have B1:Hid (OwnI w1 (w.heap.size+1) (.slice (some ⟨w.heap.size+1,0,none⟩) 0 0) []/\Bw w w1/\x.bX w1 w.heap.size/\w.heap.size+1<=w1.heap.size):=⟨NO.out.below q1,BW.out.trans (q1.mono BW.out.size),NB.out.below q1,zP LT.out q1.size⟩
 clear q1 BW NB NO LT HS
 rcases zK x.y.okB with t | t
 case inr=>
  have HV:Hid (flS x.y=[]):=by
   show flS x.y=[]
   rw [flS,if_neg (by rw [t];simp)]
  rw [t]
  clear t
  go_wp2
  go_ret
  rw [HV.out]
  exact ⟨_,rfl,B1.out.1.mono (by omega),B1.out.2.1⟩
 have HV:Hid (flS x.y=flT x.y x.hn):=if_pos t
 rw [t]
 clear t
 have b3:=B1.out.2.2.1.2.2.2
 go_wp2_with fail
 clear b3
 go_loopw [3,14] (fun o i wr=>∃ k:Nat,k<=x.hn/\i=.int .i64 k/\Hid (OwnI wr (w.heap.size+1) o (flT x.y k)/\Bw w wr/\x.bX wr w.heap.size/\w.heap.size+1<=wr.heap.size)) (fun _ i _=>x.hn - (intOf i).toNat)
 case atStart=>exact ⟨0,Nat.zero_le _,rfl,B1.out⟩
 case round=>
  clear B1
  obtain ⟨k,hk,rfl,HB⟩:=hrel
  by_cases hlt:k<x.hn
  ·have hlt':(k:Int)<(x.hn:Int):=by omega
   obtain ⟨bh,oh,eh,ch⟩:=(HG.out.below HB.out.2.1).h.at hlt
   rw [eh]
   have EH:Hid (x.ha=some (aQ bh oh)):=eh
   clear eh
   have hfl:=qcj x.y k
   have hlk:(x.hL k:Int)<=1048576:=by have:=HLh.out k hlt;omega
   have HF:Hid (flT x.y (k+1)=flT x.y k ++ [(x.hL k:Int)]):=qnw x.y k
   have HFl:Hid ((flT x.y k).length<=1048576):=by show _<=_;omega
   clear hfl
   go_wp2_with (at_builtin;refine qc6 wr rfl _ _ rfl (w.heap.size+1) u3 (flT x.y k) rfl HB.out.1 (x.hL k:Int) rfl HFl.out HB.out.2.2.2 ?_;intro v' w4 o4 b4;have H4:Hid (OwnI w4 (w.heap.size+1) v' (flT x.y (k+1))/\Bw w w4/\x.bX w4 w.heap.size/\w.heap.size+1<=w4.heap.size):=⟨o4.to HF.out,HB.out.2.1.trans (b4.mono (by omega)),HB.out.2.2.1.belowB b4 (by omega),zP HB.out.2.2.2 b4.size⟩;clear o4 b4)
   go_roundw
   case rel=>exact ⟨k+1,by omega,by go_num,H4⟩
   case measure=>simp [intOf];omega
  ·have hkl:k=x.hn:=by omega
   have H4:Hid (OwnI wr w.heap.size u3 (flS x.y)/\Bw w wr):=by
    have:=HB.out
    rw [hkl] at this
    rw [HV.out]
    exact ⟨this.1.mono (by omega),this.2.1⟩
   clear HB hkl
   go_wp2
   go_ret
   exact ⟨_,rfl,H4.out⟩
theorem qpx {w:World} {B:Nat} {a:Option Addr} {cap lo:Nat} {xs:List Int} (h:OwnI w B (.slice a xs.length cap) xs) (hl:lo<=xs.length):
  ∃ a',(∀ w',(Instr.slice 37 (.slice a xs.length cap) (some (.int .i64 (lo:Int))) none none).run Tryz.prog w'=.ok (.slice a' (xs.drop lo).length (cap - lo)) w')/\∀ k,k<(xs.drop lo).length->∃ g o,a'=some ⟨g,o,none⟩/\B<=g/\g<w.heap.size/\w.cell? ⟨g,o+k,none⟩=some (.int .i64 (zi (xs.drop lo) k)):=by
 have hl':(lo:Int)<=(xs.length:Int):=by omega
 rcases h.2 with ⟨e,h0⟩ | ⟨g,cp,cur,e,hb,hg,hnc,-⟩
 ·simp only [Value.slice.injEq] at e
  obtain ⟨rfl,-,rfl⟩:=e
  have h00:lo=0:=by omega
  subst h00
  refine ⟨none,fun w'=>?_,fun k hk=>?_⟩
  ·rw [h0]
   simp [go_sem,h0]
  ·simp at hk
   omega
 ·simp only [Value.slice.injEq] at e
  obtain ⟨rfl,-,rfl⟩:=e
  by_cases hc:cap=lo
  ·refine ⟨some (aQ g 0),fun w'=>?_,fun k hk=>?_⟩
   ·have e1:xs.length=lo:=by omega
    subst hc
    simp [go_sem,e1]
   ·simp at hk
    omega
  ·refine ⟨some (aQ g lo),fun w'=>?_,fun k hk=>⟨g,lo,rfl,hb,(h.lt g rfl).2,?_⟩⟩
   ·simp [go_sem,hl',hc,Addr.add]
    exact fun h=>h.symm
   ·rw [qno]
    exact h.cell (by simp at hk;omega)
theorem qpz (X hc:Nat) (ha:Option Addr) (hA:Nat->Option Addr) (hC:Nat->Nat) (y:Hs) (a b:Nat) (w:World) (c0:w.cell? ⟨X,0,none⟩=some (.slice ha y.n hc)) (hE:HisE w ha hA hC y) (hl:∀ i,i<y.n->y.l i<=200) (hbn:b<y.n):
  Calls Tryz.prog 89 #[.pointer (some (aQ X 0)),.int .i64 a,.int .i64 b] w fun e w'=>∃ a1 c1,e=.returned (.slice a1 (cnt (y.e b) 3 a (y.l b)) c1)/\Bw w w':=by
 have HE:Hid (EvL w (hA b) (y.l b) (y.e b)):=hE.ev b hbn
 have HLb:Hid (y.l b<=1048576):=by have:=hl b hbn;show _<=_;omega
 have hb':(b:Int)<(y.n:Int):=by omega
 obtain ⟨bh,oh,eh,ch⟩:=hE.row.at hbn
 rw [eh] at c0
 clear hE hl eh
 go_enter Tryz.func89,Tryz.ntmps89
 go_wp2_with fail
 refine (qcy (hA b) (y.l b) _ (y.e b) 3 a w HLb.out HE.out).mono ?_
 rintro e w1 ⟨v,rfl,o1,b1⟩
 obtain ⟨a1,c1,rfl,-⟩:=o1.form
 have O1:Hid (Bw w w1):=b1
 clear o1 b1 c0 ch
 go_wp2
 go_ret
 exact ⟨_,_,by rw [qb3];rfl,O1.out⟩
theorem qlw (X hc:Nat) (ha:Option Addr) (hA:Nat->Option Addr) (hC:Nat->Nat) (y:Hs) (a b:Nat) (w:World) (c0:w.cell? ⟨X,0,none⟩=some (.slice ha y.n hc)) (hE:HisE w ha hA hC y) (hl:∀ i,i<y.n->y.l i<=200) (han:a<y.n) (hbn:b<y.n) (hle:cnt (y.e b) 3 a (y.l b)<=cnt (y.e a) 2 b (y.l a)):
  Calls Tryz.prog 99 #[.pointer (some (aQ X 0)),.int .i64 a,.int .i64 b] w fun e w'=>∃ a1 c1,e=.returned (.slice a1 (wyL y a b).length c1)/\w'.ownsRow w.heap.size 84 2 (.slice a1 (wyL y a b).length c1) (wyL y a b).length (fT (itL (wyL y a b)) (wyL y a b).length)/\Value.slice a1 (wyL y a b).length c1≠.slice none 0 0/\Bw w w':=by
 have HS:Hid (∀ wx,Bw w wx->Calls Tryz.prog 78 #[.pointer (some ⟨X,0,none⟩),.int .i64 a,.int .i64 b] wx fun e w'=>∃ a1 c1,e=.returned (.slice a1 (valL (y.e a) 2 b (y.l a)).length c1)/\OwnI w' wx.heap.size (.slice a1 (valL (y.e a) 2 b (y.l a)).length c1) (valL (y.e a) 2 b (y.l a))/\Bw wx w'):=fun wx hb=>qli X hc ha hA hC y a b wx ((hb.cell (p:=⟨X,0,none⟩) (zJ w _ c0)).trans c0) (hE.below hb) hl han
 have HT:Hid (∀ wx,Bw w wx->Calls Tryz.prog 89 #[.pointer (some ⟨X,0,none⟩),.int .i64 a,.int .i64 b] wx fun e w'=>∃ a1 c1,e=.returned (.slice a1 (cnt (y.e b) 3 a (y.l b)) c1)/\Bw wx w'):=fun wx hb=>qpz X hc ha hA hC y a b wx ((hb.cell (p:=⟨X,0,none⟩) (zJ w _ c0)).trans c0) (hE.below hb) hl hbn
 have hlv:(valL (y.e a) 2 b (y.l a)).length<=200:=by
  rw [qb3]
  exact zP (qgr _ _ _ _) (hl a han)
 have hle':cnt (y.e b) 3 a (y.l b)<=(valL (y.e a) 2 b (y.l a)).length:=by
  rw [qb3]
  exact hle
 have hzs:wyL y a b=(valL (y.e a) 2 b (y.l a)).drop (cnt (y.e b) 3 a (y.l b)):=rfl
 rw [hzs]
 clear hzs c0 hE hl hle
 generalize cnt (y.e b) 3 a (y.l b)=tn at *
 generalize valL (y.e a) 2 b (y.l a)=xs at *
 have HO0:Hid ((w.alloc (.cells #[] 84)).ownsRow w.heap.size 84 2 (.slice (some (aQ w.heap.size 0)) 0 0) 0 []):=World.ownsRow_made (base:=w.heap.size) (e:=84) (size:=2) w #[] 0 (Nat.le_refl _) (by unfold maxLen;omega) (by simp)
 have BW:Hid (Bw w (w.alloc (.cells #[] 84))/\(w.alloc (.cells #[] 84)).heap.size=w.heap.size+1):=⟨zT _ _,by simp⟩
 have HLE:Hid (tn<=xs.length/\xs.length<=200):=⟨hle',hlv⟩
 clear hle'
 go_enter Tryz.func99,Tryz.ntmps99
 go_wp2_with fail
 generalize w.alloc (.cells #[] 84)=W1 at *
 refine (HS.out W1 BW.out.1).mono ?_
 rintro e w1 ⟨a1,c1,rfl,o1,q1⟩
 have O1:Hid (OwnI w1 W1.heap.size (.slice a1 xs.length c1) xs/\Bw W1 w1):=⟨o1,q1⟩
 clear o1 q1 HS
 go_wp2_with fail
 refine (HT.out w1 (BW.out.1.trans (O1.out.2.mono BW.out.1.size))).mono ?_
 rintro e w2 ⟨a2,c2,rfl,q2⟩
 obtain ⟨a3,ks,hcell⟩:=qpx (O1.out.1.below q2) HLE.out.1
 have HC:Hid (∀ k,k<(xs.drop tn).length->∃ g o,a3=some ⟨g,o,none⟩/\W1.heap.size<=g/\g<w2.heap.size/\w2.cell? ⟨g,o+k,none⟩=some (.int .i64 (zi (xs.drop tn) k))):=hcell
 have hzl:(xs.drop tn).length<=200:=by rw [List.length_drop];omega
 have hzl':((xs.drop tn).length:Int)<=200:=by omega
 have O2:Hid (w2.ownsRow w.heap.size 84 2 (.slice (some (aQ w.heap.size 0)) 0 0) 0 []/\Bw W1 w2):=⟨qat HO0.out fun k hk=>(O1.out.2.trans (q2.mono O1.out.2.size)).block k (HO0.out.lt k hk).2,O1.out.2.trans (q2.mono O1.out.2.size)⟩
 generalize hzs:xs.drop tn=zs at *
 have HZS:Hid (xs.drop tn=zs):=hzs
 clear hcell q2 O1 HT HO0 hlv HLE hzs
 go_wp2_with fail
 clear ks
 go_loopw [7,22] (fun o i wr=>∃ k:Nat,k<=zs.length/\i=.int .i64 k/\Hid (wr.ownsRow w.heap.size 84 2 o k (fT (itL zs) k)/\o≠.slice none 0 0/\(∀ j,o.ownBlock=some j->j=w.heap.size\/w2.heap.size<=j)/\Bw w wr/\w2.heap.size<=wr.heap.size/\∀ g,W1.heap.size<=g->g<w2.heap.size->wr.heap[g]? = w2.heap[g]?)) (fun _ i _=>zs.length - (intOf i).toNat)
 case atStart=>exact ⟨0,Nat.zero_le _,rfl,O2.out.1,by simp,fun j hj=>by cases hj;exact .inl rfl,BW.out.1.trans (O2.out.2.mono BW.out.1.size),Nat.le_refl _,fun _ _ _=>rfl⟩
 case round=>
  clear O2
  obtain ⟨k,hk,rfl,HB⟩:=hrel
  by_cases hlt:k<zs.length
  ·have hlt':(k:Int)<(zs.length:Int):=by omega
   obtain ⟨g,o,rfl,hg1,hg2,ck⟩:=HC.out k hlt
   have ck:wr.cell? ⟨g,o+k,none⟩=some (.int .i64 (zi zs k)):=(zH (HB.out.2.2.2.2.2 g hg1 hg2)).trans ck
   have HK2:Hid (k<=2000000):=by show _<=_;omega
   have hgl:g<wr.heap.size:=by have:=HB.out.2.2.2.2.1;omega
   go_wp2_with (at_builtin; refine qao kndT wr rfl rfl _ _ rfl w.heap.size u7 k _ rfl HB.out.1 #[.bool false, .int .i64 (zi zs k)] rfl rfl (by intro u hu; simp at hu; rcases hu with rfl | rfl <;> rfl) HK2.out HB.out.2.2.2.1.size ?_; intro v5 w5 o5 g5 q5 n5; have F5 : Hid (w5.ownsRow w.heap.size 84 2 v5 (k + 1) (fT (itL zs) (k + 1)) ∧ v5 ≠ .slice none 0 0 ∧ (∀ j, v5.ownBlock = some j → j = w.heap.size ∨ w2.heap.size ≤ j) ∧ Below w.heap.size w w5 ∧ w2.heap.size ≤ w5.heap.size ∧ ∀ g, W1.heap.size ≤ g → g < w2.heap.size → w5.heap[g]? = w2.heap[g]?) := ⟨o5, n5, fun j hj => by
     rcases q5 j hj with h | h
     ·exact HB.out.2.2.1 j h
     ·exact .inr (Nat.le_trans HB.out.2.2.2.2.1 h), Below.grown HB.out.2.2.2.1 g5 HB.out.2.2.2.1.size (fun j hj => (HB.out.1.lt j hj).1), Nat.le_trans HB.out.2.2.2.2.1 g5.size, fun b h1 h2 => (g5.block b (Nat.lt_of_lt_of_le h2 HB.out.2.2.2.2.1) (fun hj => by
      have e1:=BW.out.2
      rcases HB.out.2.2.1 b hj.symm with h | h <;> omega)).trans (HB.out.2.2.2.2.2 b h1 h2)⟩;clear o5 g5 q5 n5)
   go_roundw
   case rel=>exact ⟨k+1,by omega,by go_num,F5.out⟩
   case measure=>simp [intOf];omega
  ·have hkn:k=zs.length:=by omega
   subst hkn
   obtain ⟨a4,c4,rfl⟩:=zU HB.out.1
   go_wp2
   go_ret
   rw [HZS.out]
   exact ⟨a4,c4,rfl,HB.out.1,HB.out.2.1,HB.out.2.2.2.1⟩
theorem qp2 (X hc:Nat) (ha:Option Addr) (hA:Nat->Option Addr) (hC:Nat->Nat) (y:Hs) (w:World) (c0:w.cell? ⟨X,0,none⟩=some (.slice ha y.n hc)) (hE:HisE w ha hA hC y) (hl:∀ i,i<y.n->y.l i<=200) (h4:y.n<=4) (hle:∀ a,a<y.n->∀ b,b<y.n->cnt (y.e b) 3 a (y.l b)<=cnt (y.e a) 2 b (y.l a)):
  Calls Tryz.prog 71 #[.pointer (some (aQ X 0))] w fun e w'=>∃ v u,e=.returned (.tuple #[v,.bool (wfB y)])/\(wfB y=true->LT true w' (fun k=>w.heap.size<=k/\k<w'.heap.size) v (y.n*y.n) u (fun i=>(wyL y (i / y.n) (i % y.n)).length) (fun i=>itL (wyL y (i / y.n) (i % y.n))))/\Bw w w':=by
 have HU:Hid (∀ wx,Bw w wx->∀ a b,a<y.n->b<y.n->Calls Tryz.prog 99 #[.pointer (some ⟨X,0,none⟩),.int .i64 (a:Nat),.int .i64 (b:Nat)] wx fun e w'=>∃ a1 c1,e=.returned (.slice a1 (wyL y a b).length c1)/\w'.ownsRow wx.heap.size 84 2 (.slice a1 (wyL y a b).length c1) (wyL y a b).length (fT (itL (wyL y a b)) (wyL y a b).length)/\Value.slice a1 (wyL y a b).length c1≠.slice none 0 0/\Bw wx w'):=fun wx hb a b ha' hb'=>qlw X hc ha hA hC y a b wx ((hb.cell (p:=⟨X,0,none⟩) (zJ w _ c0)).trans c0) (hE.below hb) hl ha' hb' (hle a ha' b hb')
 have HC0:Hid (∀ wx,Bw w wx->wx.cell? ⟨X,0,none⟩=some (.slice ha y.n hc)):=fun wx hb=>(hb.cell (p:=⟨X,0,none⟩) (zJ w _ c0)).trans c0
 have hl':(y.n:Int)<=4:=by omega
 have HW:Hid (∀ a b,a<y.n->(wyL y a b).length<=200):=fun a b ha'=>by
  unfold wyL
  rw [List.length_drop,qb3]
  have h1:=qgr (y.e a) 2 b (y.l a)
  have h2:=hl a ha'
  omega
 have HF:Hid (wfB y=qB (∀ a,a<y.n->∀ b,b<y.n->(wyL y a b).length<=12)):=rfl
 clear hE hl hle c0
 generalize wfB y=R at *
 obtain ⟨L,hLe⟩:∃ L:Nat->Nat,(fun i=>(wyL y (i / y.n) (i % y.n)).length)=L:=⟨_,rfl⟩
 obtain ⟨H,hHe⟩:∃ H:Nat->Nat->I2,(fun i=>itL (wyL y (i / y.n) (i % y.n)))=H:=⟨_,rfl⟩
 rw [hLe,hHe]
 have HLH:Hid (∀ k j,j<y.n->(wyL y k j).length=L (k*y.n+j)/\itL (wyL y k j)=H (k*y.n+j)):=fun k j hj=>by
  obtain ⟨e1,e2⟩:=qu9 (a:=k) hj
  rw [<- hLe,<- hHe]
  dsimp only
  rw [e1,e2]
  exact ⟨rfl,rfl⟩
 clear hLe hHe
 go_enter Tryz.func71,Tryz.ntmps71
 have c1:=HC0.out (w.alloc (.cells #[] 59)) (zT _ _)
 go_wp2_with fail
 clear c1
 go_loopw [4,14] (fun v i wr=>∃ k:Nat,k<=y.n/\i=.int .i64 k/\Hid ((∃ u,LT true wr (fun b=>w.heap.size<=b/\b<wr.heap.size) v (k*y.n) u L H)/\Bw w wr)/\Hid (∀ a,a<k->∀ b,b<y.n->(wyL y a b).length<=12)) (fun _ i _=>y.n - (intOf i).toNat)
 case atStart=>exact ⟨0,Nat.zero_le _,rfl,⟨⟨fun _=>.slice none 0 0,by rw [Nat.zero_mul];exact LL.new _ _ _ w _ (by simp) _ _ _⟩,zT _ _⟩,fun j hj=>by omega⟩
 case round=>
  obtain ⟨k,hk,rfl,HB,HK⟩:=hrel
  by_cases hlt:k<y.n
  ·have hlt':(k:Int)<(y.n:Int):=by omega
   have c1:=HC0.out wr HB.out.2
   go_wp2_with fail
   clear c1
   go_loopw [4,22] (fun v i wr=>∃ j:Nat,j<=y.n/\i=.int .i64 j/\Hid ((∃ u,LT true wr (fun b=>w.heap.size<=b/\b<wr.heap.size) v (k*y.n+j) u L H)/\Bw w wr)/\Hid (∀ b,b<j->(wyL y k b).length<=12)) (fun _ i _=>y.n - (intOf i).toNat)
   case atStart=>exact ⟨0,Nat.zero_le _,rfl,HB.out,fun j hj=>by omega⟩
   case round=>
    clear HB
    obtain ⟨j,hj,rfl,HB,HJ⟩:=hrel
    by_cases hjt:j<y.n
    ·have hjt':(j:Int)<(y.n:Int):=by omega
     go_wp2_with fail
     refine (HU.out _ HB.out.2 k j hlt hjt).mono ?_
     rintro e w3 ⟨a3,c3,rfl,o3,n3,q3⟩
     have hm:=HW.out k j hlt
     by_cases ho:12<(wyL y k j).length
     ·have HV:Hid (R=false):=by
       show R=false
       rw [HF.out]
       exact qax fun h=>by
        have h1:=h k hlt j hjt
        omega
      have ho':(12:Int)<((wyL y k j).length:Int):=by omega
      have B3:Hid (Bw w w3):=HB.out.2.trans (q3.mono HB.out.2.size)
      generalize (wyL y k j).length=m at *
      clear o3 n3 q3 HB
      go_wp2
      exact bodyPost_ret (v:=.tuple #[.slice none 0 0,.bool false]) (by simp [results,Tryz.results71,go_sem]) rfl ⟨_,fun _=>.slice none 0 0,by rw [HV.out],fun h=>(by rw [HV.out] at h;cases h),B3.out⟩
     ·have ho':¬ (12:Int)<((wyL y k j).length:Int):=by omega
      have HJ':Hid (∀ b,b<j+1->(wyL y k b).length<=12):=fun b hb=>by
       by_cases e:b=j
       ·subst e
        omega
       ·exact HJ.out b (by omega)
      rw [(HLH.out k j hjt).1,(HLH.out k j hjt).2] at o3
      rw [(HLH.out k j hjt).1] at n3 ho' hm ⊢
      have h16:k*y.n<=4*4:=Nat.mul_le_mul (by omega) h4
      have HK2:Hid (k*y.n+j<=2000000):=by show _<=_;omega
      have F4:Hid (w3.ownsRow wr.heap.size 84 2 (.slice a3 (L (k*y.n+j)) c3) (L (k*y.n+j)) (fT (H (k*y.n+j)) (L (k*y.n+j)))/\Bw wr w3/\Value.slice a3 (L (k*y.n+j)) c3≠.slice none 0 0):=⟨o3,q3,n3⟩
      obtain ⟨⟨u,oz⟩,bz⟩:=HB.out
      have OZ:Hid (LT true wr (fun b=>w.heap.size<=b/\b<wr.heap.size) u4 (k*y.n+j) u L H):=oz
      have BZ:Hid (Bw w wr):=bz
      clear HJ o3 n3 q3 ho oz bz HB h16
      generalize hkk:k*y.n+j=kk at *
      have HKK:Hid (k*y.n+j=kk):=hkk
      clear hkk
      go_wp2_with (at_builtin;refine qao qms w3 rfl rfl _ _ rfl 0 u4 kk _ rfl (OZ.out.below F4.out.2.1).row #[.slice a3 (L kk) c3] rfl rfl (by intro u hu;simp at hu;subst hu;rfl) HK2.out (Nat.zero_le _) ?_;intro v5 w5 o5 g5 q5 n5;have F5:Hid (LT true w5 (fun b=>w.heap.size<=b/\b<w5.heap.size) v5 (kk+1) (fun j=>if j=kk then .slice a3 (L kk) c3 else u j) L H/\Bw w w5):=⟨OZ.out.push F4.out.2.1 F4.out.1 (fun _=>F4.out.2.2) o5 g5 q5 (fun j hj _=>⟨hj.1,zL hj.2 (zP F4.out.2.1.size g5.size)⟩) (fun j hj hj'=>⟨zP BZ.out.size hj,hj'⟩),Below.grown (BZ.out.trans (F4.out.2.1.mono BZ.out.size)) g5 (zP BZ.out.size F4.out.2.1.size) (fun j hj=>(OZ.out.rb j hj).1)⟩;clear o5 g5 q5 n5)
      go_roundw
      case rel=>exact ⟨j+1,by omega,by go_num,⟨⟨_,by rw [<- Nat.add_assoc,HKK.out];exact F5.out.1⟩,F5.out.2⟩,HJ'.out⟩
      case measure=>simp [intOf];omega
    ·have HK':Hid (∀ a,a<k+1->∀ b,b<y.n->(wyL y a b).length<=12):=fun a ha b hb=>by
      by_cases e:a=k
      ·subst e
       exact HJ.out b (by omega)
      ·exact HK.out a (by omega) b hb
     have hjn:j=y.n:=by omega
     have HB':Hid ((∃ u,LT true wr (fun b=>w.heap.size<=b/\b<wr.heap.size) u4 ((k+1)*y.n) u L H)/\Bw w wr):=by
      have:=HB.out
      rw [hjn] at this
      rw [Nat.add_mul,Nat.one_mul]
      exact this
     clear HK HJ HB hjn
     go_wp2
     go_roundw
     case rel=>exact ⟨k+1,by omega,by go_num,HB'.out,HK'.out⟩
     case measure=>simp [intOf];omega
  ·have HV:Hid (R=true):=by
    show R=true
    rw [HF.out]
    exact qa5 fun a ha b hb=>HK.out a (by omega) b hb
   have hkn:k=y.n:=by omega
   subst hkn
   obtain ⟨⟨u,oz⟩,bz⟩:=HB.out
   have OZ:Hid (LT true wr (fun b=>w.heap.size<=b/\b<wr.heap.size) u4 (y.n*y.n) u L H/\Bw w wr):=⟨oz,bz⟩
   clear HK HB oz bz
   go_wp2
   exact bodyPost_ret (v:=.tuple #[u4,.bool true]) (by simp [results,Tryz.results71,go_sem]) rfl ⟨_,u,by rw [HV.out],fun _=>OZ.out.1,OZ.out.2⟩
theorem AtP.start {z:Bool} {B m3 m1:Nat} {w3 w1:World} {y:Sy} {vp vw:Value} {up uw:Nat->Value} (o3:LT z w3 (fun k=>m3<=k/\k<w3.heap.size) vw y.wn uw y.wL y.wH) (o1:LI z w1 (fun k=>m1<=k/\k<w1.heap.size) vp y.pn up y.pL y.pH) (hb:Bw w3 w1) (h1:w3.heap.size<=m1) (hB:B<=m3) (h3:m3<=w3.heap.size):
  ∃ c,AtP z B w1.heap.size c { y with sn:=0,hn:=0 } (w1.alloc (.cells #[vp,.slice none 0 0,vw,.slice none 0 0] 29)) vp (.slice none 0 0) vw (.slice none 0 0) up (fun _=>.slice none 0 0) uw (fun _=>.slice none 0 0):=by
 have hs:=hb.size
 have ba:=zQ w1 (.cells #[vp,.slice none 0 0,vw,.slice none 0 0] 29)
 refine ⟨fun k=>if k=w1.heap.size then 0 else if k<w3.heap.size then 3 else 1,BoxC.new w1 _ _ _ _ _,fun j=>yB _ _ _ _ rfl,if_pos rfl,by omega,?_,LS.nil _ _ _ _,?_,LL.nil _ _ _ _ _ _ _ _⟩
 ·refine (o1.mono fun k hk _=>⟨by omega,?_⟩).below ba
  show (if k=w1.heap.size then 0 else if k<w3.heap.size then 3 else 1)=1
  rw [if_neg (by omega),if_neg (by omega)]
 ·refine ((o3.mono fun k hk _=>⟨by omega,?_⟩).below hb).below ba
  show (if k=w1.heap.size then 0 else if k<w3.heap.size then 3 else 1)=3
  rw [if_neg (by omega),if_pos (by omega)]
theorem qpa (x:SysIn) (ca:Option Addr) (cc:Nat) (c:List Int) (w:World) (hG:SysG w x) (hL:x.Len) (hcap:∀ i,i<x.hn->x.hL i<=x.hC i) (hc:Sl w ca c) (hcl:c.length<=1048576) (hV:w.cell? ⟨0,0,none⟩=some (.iface 160 (.agg #[.pointer (some ⟨1,116,none⟩)]))):
  Calls Tryz.prog 35 #[x.v,.slice ca c.length cc] w fun e w'=>∃ v,e=.returned (.tuple #[v,.bool (atB x.y c)])/\qae true w' w.heap.size (atS x.y c) v/\Bw w w':=by
 have HVx:Hid (∀ wx,Bw w wx->wx.cell? ⟨0,0,none⟩=some (.iface 160 (.agg #[.pointer (some ⟨1,116,none⟩)]))):=fun wx hb=>(hb.cell (p:=⟨0,0,none⟩) (zJ w _ hV)).trans hV
 have HS:Hid (∀ wx,Bw w wx->Calls Tryz.prog 15 #[x.v,.slice ca c.length cc] wx fun e w'=>e=.returned (.bool (whB x.y c))/\Bw wx w'):=fun wx hb=>qi8 x ca cc c wx (hG.below hb) hL hcap (hc.below hb) hcl (HVx.out wx hb)
 have BW:Hid (Bw w ((w.alloc (x.oX)).alloc (zQ3))):=(zQ _ _).trans ((zQ _ _).mono (by simp))
 have NB:Hid (x.bX ((w.alloc (x.oX)).alloc (zQ3)) w.heap.size):=(BoxC.new w _ _ _ _ _).below (zQ _ _)
 have RB:Hid (BoxC ((w.alloc (x.oX)).alloc (zQ3)) (w.heap.size+1) (.slice none 0 0) (.slice none 0 0) (.slice none 0 0) (.slice none 0 0)/\∀ j,((w.alloc (x.oX)).alloc (zQ3)).frozen? ⟨w.heap.size+1,j,none⟩=false):=⟨⟨zW _ _ _ 0 (by simp),zW _ _ _ 1 (by simp),zW _ _ _ 2 (by simp),zW _ _ _ 3 (by simp)⟩,fun j=>yB _ _ _ _ (by simp)⟩
 have hM:w.heap.size<=w.heap.size+1:=Nat.le_succ _
 have HG:Hid (SysG w x):=hG
 have HL:Hid x.Len:=hL
 have HQ:Hid ((∀ i,i<x.hn->x.hL i<=x.hC i)/\Sl w ca c):=⟨hcap,hc⟩
 clear hG hL hcap hc hV
 go_enter Tryz.func35,Tryz.ntmps35
 go_wp2_with fail
 generalize (w.alloc (x.oX)).alloc (zQ3)=W2 at *
 refine (HS.out W2 BW.out).mono ?_
 rintro e w1 ⟨rfl,q1⟩
 have B1:Hid (Bw w w1/\x.bX w1 w.heap.size/\BoxC w1 (w.heap.size+1) (.slice none 0 0) (.slice none 0 0) (.slice none 0 0) (.slice none 0 0)/\∀ j,w1.frozen? ⟨w.heap.size+1,j,none⟩=false):=⟨BW.out.trans (q1.mono BW.out.size),NB.out.below q1,RB.out.1.below q1,fun j=>((qah q1).2 _ j (zJ _ _ RB.out.1.1)).trans (RB.out.2 j)⟩
 clear q1 BW NB RB HS
 have l1:w.heap.size+1<w1.heap.size:=zJ _ _ B1.out.2.2.1.1
 obtain ⟨b0,b1,b2,b3⟩:=B1.out.2.1
 rcases zK (whB x.y c) with t | t
 case inr=>
  have HV:Hid (atB x.y c=false/\atS x.y c=x.y.nil):=⟨by show atB x.y c=false;unfold atB;rw [t];rfl,if_neg (by rw [t];simp)⟩
  obtain ⟨⟨r0,r1,r2,r3⟩,rf⟩:=B1.out.2.2
  rw [t]
  clear t
  go_wp2
  exact bodyPost_ret (v:=.tuple #[sysV none 0 0 none 0 0 none 0 0 none 0 0,.bool false]) (by simp [results,Tryz.results35,go_sem,r0,r1,r2,r3]) rfl ⟨_,by rw [HV.out.1],by rw [HV.out.2];exact qae.zero _ _ _,(((B1.out.1.setCell hM _).setCell hM _).setCell hM _).setCell hM _⟩
 obtain ⟨hcu,hwh⟩:=qr8 t
 obtain ⟨hO,hC⟩:=qbo hcu
 have HO:Hid (x.y.Ok/\x.y.Cut c/\x.y.Wh (cN c)):=⟨hO,hC,hwh⟩
 have hln:c.length=x.pn:=hC.len
 have h4:x.pn<=4:=hO.cn.1.2
 have hhn:x.hn=x.pn:=hO.cn.2.2.1
 have HN:Hid (c.length=x.pn/\x.hn=x.pn/\x.pn<=4):=⟨hln,hhn,h4⟩
 have HAT:Hid (atB x.y c=wfB (x.y.ah (cN c))/\atS x.y c=x.y.atW (cN c)):=⟨by show atB x.y c=_;unfold atB;rw [t];rfl,if_pos t⟩
 have eah:x.y.ah (cN c)=x.y.at c:=by
  unfold Sy.ah Sy.at
  rw [hln]
  rfl
 have HH:Hid (∀ wx,Bw w wx->Calls Tryz.prog 44 #[x.v,.slice ca c.length cc] wx fun e w'=>∃ ha hc,e=.returned (.agg (hcL ha c.length hc).toArray)/\RowS w' ha c.length (fun i=>.slice (x.hA i) (cN c i) (cN c i))/\Bw wx w'):=fun wx hb=>qdj x ca cc c wx (HG.out.below hb) HQ.out.1 hhn h4 hC (HQ.out.2.below hb)
 have HE:Hid (∀ wx ha,Bw w wx->RowS wx ha c.length (fun i=>.slice (x.hA i) (cN c i) (cN c i))->HisE wx ha x.hA (cN c) (x.y.at c)):=fun wx ha hb hr=>qmp HG.out hb hC hhn hr
 have HW:Hid (∀ wx X ha hc,Bw w wx->wx.cell? ⟨X,0,none⟩=some (.slice ha c.length hc)->RowS wx ha c.length (fun i=>.slice (x.hA i) (cN c i) (cN c i))->Calls Tryz.prog 71 #[.pointer (some ⟨X,0,none⟩)] wx fun e w'=>∃ v u,e=.returned (.tuple #[v,.bool (wfB (x.y.ah (cN c)))])/\(wfB (x.y.ah (cN c))=true->LT true w' (fun k=>wx.heap.size<=k/\k<w'.heap.size) v (x.y.atY (cN c)).wn u (x.y.atY (cN c)).wL (x.y.atY (cN c)).wH)/\Bw wx w'):=fun wx X ha hc' hb hcell hr=>by
  have h:=qp2 X hc' ha x.hA (cN c) (x.y.at c) wx hcell (HE.out wx ha hb hr) (fun i hi=>zP (hC.leN (by have h2:i<c.length:=hi;show i<x.pn;omega)) (hO.hl200 (by have h2:i<c.length:=hi;show i<x.pn;omega))) (by show c.length<=4;omega) (fun a ha b hb=>hwh a (by have h2:a<c.length:=ha;show a<x.pn;omega) b (by have h2:b<c.length:=hb;show b<x.pn;omega))
  rw [<- eah] at h
  exact h
 have HP : Hid (∀ wx, Below w.heap.size w wx → Calls Tryz.prog 68 #[.slice x.pa x.pn x.pc] wx fun e w' => ∃ v u, e = .returned v ∧ LI true w' (fun k => wx.heap.size ≤ k ∧ k < w'.heap.size) v x.pn u x.pL x.pH ∧ Below wx.heap.size wx w') := fun wx hb => qdr x.pa x.pn x.pc x.pA x.pL x.pC x.pH wx HL.out.p.1 HL.out.p.2 (HG.out.below hb).p (fun i hi => by
  obtain ⟨b,e,hlt,hI⟩:=(HG.out.below hb).pi i hi
  exact ⟨b,0,e,by rw [e];exact srcI hlt hI⟩)
 have HR:Hid (∀ wx ha,Bw w wx->RowS wx ha c.length (fun i=>.slice (x.hA i) (cN c i) (cN c i))->∀ p,p<x.pn->Calls Tryz.prog 72 #[.slice (x.pA p) (x.pL p) (x.pC p),.slice (x.hA p) (cN c p) (cN c p)] wx (qcs wx ((x.y.atY (cN c)).sS p) (repO (x.pH p) (x.pL p) (x.hH p) (cN c p)).isSome)):=fun wx ha hb hr p hp=>by
  obtain ⟨b,e,hlt,hI⟩:=(HG.out.below hb).pi p hp
  rw [e]
  exact qgq b (x.pL p) (x.pC p) (x.hA p) (cN c p) (cN c p) (x.pH p) (x.hH p) wx (by have:=HL.out.p.2 p hp;unfold maxLen;omega) hlt hI ((HE.out wx ha hb hr).ev p (by show p<c.length;omega)) (zP (hC.leN (by show p<x.pn;exact hp)) (by have:=hO.hl200 (p:=p) hp;show x.y.hL p<=_;omega)) (HVx.out wx hb)
 have HK:Hid (∀ wx ha,Bw w wx->RowS wx ha c.length (fun i=>.slice (x.hA i) (cN c i) (cN c i))->∀ p,p<x.pn->Calls Tryz.prog 73 #[.slice (x.hA p) (cN c p) (cN c p)] wx fun e w'=>∃ a1 c1,e=.returned (.slice a1 (cN c p) c1)/\w'.ownsRow wx.heap.size 56 3 (.slice a1 (cN c p) c1) (cN c p) (fE (x.hH p) (cN c p))/\Value.slice a1 (cN c p) c1≠.slice none 0 0/\Bw wx w'):=fun wx ha hb hr p hp=>qhh (x.hA p) (cN c p) (cN c p) (x.hH p) wx (zP (hC.leN (by show p<x.pn;exact hp)) (by have:=hO.hl200 (p:=p) hp;show x.y.hL p<=_;omega)) (srcE ((HE.out wx ha hb hr).ev p (by show p<c.length;omega)))
 rw [t]
 clear t hcu hwh hO hC hln h4 hhn eah
 have HYW:Hid (x.y.atW (cN c)=if wfB (x.y.ah (cN c))=true then x.y.atY (cN c) else x.y.nil):=rfl
 generalize x.y.atW (cN c)=YW at *
 generalize wfB (x.y.ah (cN c))=wf at *
 go_wp2_with fail
 refine (HH.out w1 B1.out.1).mono ?_
 rintro e w2 ⟨ea,ec,rfl,r2,q2⟩
 have B2:Hid (Bw w1 w2/\RowS w2 ea c.length (fun i=>.slice (x.hA i) (cN c i) (cN c i))):=⟨q2,r2⟩
 clear q2 r2 b0 b1 b2 b3 HH
 have hl:=qi2 ea c.length ec
 have ho:=qi3 ea c.length ec
 generalize hcs:hcL ea c.length ec=cl at *
 have hs:cl.toArray.size=21:=by simpa using hl
 have HI:Hid ((Tryz.prog.info? 72).map (·.size)=some cl.toArray.size):=by show _=_;rw [hs];exact qdl
 have HOc:Hid (cl.toArray.all (·.oneCell')=true):=all_oneCell_toArray ho
 have HT:Hid ((w2.alloc (zQ4)).there w2.heap.size 0 cl.toArray.size):=qbn _ _ _ _ _ (by rw [hs];rfl) rfl
 have BE:Hid (Bw w2 ((w2.alloc (zQ4)).setCells w2.heap.size 0 cl)):=(qau.sets (P:=fun b=>b=w2.heap.size) rfl _ _ (qau.of_below (zT _ _))).below (Nat.le_refl _) fun b e=>by omega
 have HRr:((w2.alloc (zQ4)).setCells w2.heap.size 0 cl).rangeAt w2.heap.size 0 cl:=World.rangeAt_setCells_same _ _ _ _ (by simpa using HT.out)
 have HCe:Hid (((w2.alloc (zQ4)).setCells w2.heap.size 0 cl).cell? (aQ w2.heap.size 0)=some (.slice ea c.length ec)):=qi4 HRr hcs
 clear hl ho hs HRr hcs
 go_upto_region 4 with (refine wpList_store_mid rfl 72 (.tmp 6) (.tmp 21) rfl w2.heap.size 0 cl.toArray rfl rfl HT.out HI.out HOc.out ?_)
 clear HT HI HOc
 generalize (w2.alloc (zQ4)).setCells w2.heap.size 0 cl=w3 at *
 have B3:Hid (Bw w1 w3/\RowS w3 ea c.length (fun i=>.slice (x.hA i) (cN c i) (cN c i))):=⟨B2.out.1.trans (BE.out.mono B2.out.1.size),B2.out.2.below BE.out⟩
 clear BE B2
 generalize w2.heap.size=X at *
 clear w2
 have W03:Hid (Bw w w3):=B1.out.1.trans (B3.out.1.mono B1.out.1.size)
 go_wp2_with fail
 refine (HW.out w3 X ea ec W03.out HCe.out B3.out.2).mono ?_
 rintro e w4 ⟨v4,u4,rfl,o4,q4⟩
 have F4:Hid ((wf=true->LT true w4 (fun k=>w3.heap.size<=k/\k<w4.heap.size) v4 (x.y.atY (cN c)).wn u4 (x.y.atY (cN c)).wL (x.y.atY (cN c)).wH)/\Bw w3 w4):=⟨o4,q4⟩
 clear o4 q4 HW
 cases wf with
 | false=>
  have HV:Hid (YW=x.y.nil):=HYW.out
  have q4:Bw w1 w4:=B3.out.1.trans (F4.out.2.mono B3.out.1.size)
  obtain ⟨r0,r1,r2,r3⟩:=B1.out.2.2.1.below q4
  have rf:∀ j,w4.frozen? ⟨w.heap.size+1,j,none⟩=false:=fun j=>((qah q4).2 _ j l1).trans (B1.out.2.2.2 j)
  have Q4:Hid (Bw w w4):=B1.out.1.trans (q4.mono B1.out.1.size)
  clear q4 F4 HP HR HK HE
  go_wp2
  exact bodyPost_ret (v:=.tuple #[sysV none 0 0 none 0 0 none 0 0 none 0 0,.bool false]) (by simp [results,Tryz.results35,go_sem,r0,r1,r2,r3]) rfl ⟨_,by rw [HAT.out.1],by rw [HAT.out.2,HV.out];exact qae.zero _ _ _,(((Q4.out.setCell hM _).setCell hM _).setCell hM _).setCell hM _⟩
 | true=>
  have HV:Hid (YW=x.y.atY (cN c)):=HYW.out
  have O4:Hid (LT true w4 (fun k=>w3.heap.size<=k/\k<w4.heap.size) v4 (x.y.atY (cN c)).wn u4 (x.y.atY (cN c)).wL (x.y.atY (cN c)).wH/\Bw w3 w4):=⟨F4.out.1 rfl,F4.out.2⟩
  clear HYW F4
  obtain ⟨a4,c4,rfl⟩:=zU O4.out.1.row
  obtain ⟨b0,b1,b2,b3⟩:=B1.out.2.1.below (B3.out.1.trans (O4.out.2.mono B3.out.1.size))
  have lw:w.heap.size<w4.heap.size:=zJ _ _ b0
  go_wp2_with fail
  refine (HP.out w4 (W03.out.trans (O4.out.2.mono W03.out.size))).mono ?_
  rintro e w5 ⟨v5,u5,rfl,o5,q5⟩
  obtain ⟨a5,c5,rfl⟩:=zU o5.row
  obtain ⟨cl5,st5⟩:=AtP.start (z:=true) (B:=w3.heap.size) (y:=x.y.atY (cN c)) O4.out.1 o5 q5 (Nat.le_refl _) (Nat.le_refl _) O4.out.2.size
  have F5:Hid (AtP true w3.heap.size w5.heap.size cl5 { x.y.atY (cN c) with sn:=0,hn:=0 } (w5.alloc (oQ4 a5 x.pn c5 none 0 0 a4 (x.y.atY (cN c)).wn c4 none 0 0)) (.slice a5 x.pn c5) (.slice none 0 0) (.slice a4 (x.y.atY (cN c)).wn c4) (.slice none 0 0) u5 (fun _=>.slice none 0 0) u4 (fun _=>.slice none 0 0)/\Bw w3 (w5.alloc (oQ4 a5 x.pn c5 none 0 0 a4 (x.y.atY (cN c)).wn c4 none 0 0))):=⟨st5,(O4.out.2.trans (q5.mono O4.out.2.size)).trans ((zQ _ _).mono (zP O4.out.2.size q5.size))⟩
  clear o5 q5 st5 HP b0 b1 b2 b3 lw
  go_upto_region 8 with fail
  clear O4
  generalize w5.alloc (oQ4 a5 x.pn c5 none 0 0 a4 (x.y.atY (cN c)).wn c4 none 0 0)=W5 at *
  generalize hNN:w5.heap.size=N at *
  clear hNN w5
  have HX3:Hid (∀ wx,Bw w3 wx->wx.cell? ⟨X,0,none⟩=some (.slice ea c.length ec)/\RowS wx ea c.length (fun i=>.slice (x.hA i) (cN c i) (cN c i))/\Bw w wx/\x.bX wx w.heap.size/\BoxC wx (w.heap.size+1) (.slice none 0 0) (.slice none 0 0) (.slice none 0 0) (.slice none 0 0)/\(∀ j,wx.frozen? ⟨w.heap.size+1,j,none⟩=false)/\w.heap.size+1<w3.heap.size/\w3.heap.size<=wx.heap.size):=fun wx hb=>⟨(hb.cell (p:=⟨X,0,none⟩) (zJ _ _ HCe.out)).trans HCe.out,B3.out.2.below hb,W03.out.trans (hb.mono W03.out.size),(B1.out.2.1.below B3.out.1).below hb,(B1.out.2.2.1.below B3.out.1).below hb,fun j=>((qah hb).2 _ j (zL l1 B3.out.1.size)).trans (((qah B3.out.1).2 _ j l1).trans (B1.out.2.2.2 j)),zL l1 B3.out.1.size,hb.size⟩
  clear B1 B3 HCe W03 l1
  have hn':(c.length:Int)<=4:=by have:=HN.out;omega
  have hx0:=(HX3.out _ F5.out.2).1
  go_wp2_with fail
  clear hx0
  go_loopw [37] (fun i wr=>∃ k:Nat,k<=c.length/\i=.int .i64 k/\Hid ((∃ cl vs vh us uh,AtP true w3.heap.size N cl { x.y.atY (cN c) with sn:=k,hn:=k } wr (.slice a5 x.pn c5) vs (.slice a4 (x.y.atY (cN c)).wn c4) vh u5 us u4 uh)/\Bw w3 wr)) (fun i _=>c.length - (intOf i).toNat)
  case atStart=>exact ⟨0,Nat.zero_le _,rfl,⟨_,_,_,_,_,F5.out.1⟩,F5.out.2⟩
  case round=>
   clear F5
   obtain ⟨k,hk,rfl,HZ⟩:=hrel
   by_cases hlt:k<c.length
   ·have hlt':(k:Int)<(c.length:Int):=by omega
    have hkp:k<x.pn:=by have:=HN.out;omega
    have hkp':(k:Int)<(x.pn:Int):=by omega
    obtain ⟨-,hrw,hbw,⟨b0,b1,b2,b3⟩,-,-,-,hle3⟩:=HX3.out wr HZ.out.2
    have RW:Hid (RowS wr ea c.length (fun i=>.slice (x.hA i) (cN c i) (cN c i))/\Bw w wr):=⟨hrw,hbw⟩
    obtain ⟨be,oe,rfl,ce⟩:=hrw.at hlt
    obtain ⟨bp,op,epp,cp⟩:=(HG.out.below hbw).p.at hkp
    rw [epp] at b0
    clear epp hbw
    obtain ⟨⟨cl,vs,vh,us,uh,hA⟩,hbz⟩:=HZ.out
    have AP:Hid (AtP true w3.heap.size N cl { x.y.atY (cN c) with sn:=k,hn:=k } wr (.slice a5 x.pn c5) vs (.slice a4 (x.y.atY (cN c)).wn c4) vh u5 us u4 uh):=hA
    have BZ:Hid (Bw w3 wr):=hbz
    clear hA hbz HZ hle3
    go_wp2_with fail
    refine (HR.out wr _ RW.out.2 RW.out.1 k hkp).mono ?_
    rintro e w6 ⟨v6,rfl,o6,q6⟩
    obtain ⟨ra1,rc1,oa1,oc1,rfl,-,-⟩:=o6.read
    clear b0 b1 b2 b3 ce cp
    have S6:Hid (qag w6 wr.heap.size (stV ((x.y.atY (cN c)).sS k).p ra1 ((x.y.atY (cN c)).sS k).rs.length rc1 oa1 ((x.y.atY (cN c)).sS k).os.length oc1 ((x.y.atY (cN c)).sS k).c) ((x.y.atY (cN c)).sS k).p ((x.y.atY (cN c)).sS k).rs ((x.y.atY (cN c)).sS k).os ((x.y.atY (cN c)).sS k).c/\Bw wr w6):=⟨o6,q6⟩
    clear o6 q6
    generalize hTT:(x.y.atY (cN c)).sS k=T at *
    have HTT:Hid ((x.y.atY (cN c)).sS k=T):=hTT
    clear hTT
    generalize (repO (x.pH k) (x.pL k) (x.hH k) (cN c k)).isSome=rb at *
    have N7:Hid (BoxC (w6.alloc (oQ1 T.p ra1 T.rs.length rc1 oa1 T.os.length oc1 T.c)) w6.heap.size (.int .i64 T.p) (.slice ra1 T.rs.length rc1) (.slice oa1 T.os.length oc1) (.int .i64 T.c)/\Bw wr (w6.alloc (oQ1 T.p ra1 T.rs.length rc1 oa1 T.os.length oc1 T.c))/\qag (w6.alloc (oQ1 T.p ra1 T.rs.length rc1 oa1 T.os.length oc1 T.c)) wr.heap.size (stV T.p ra1 T.rs.length rc1 oa1 T.os.length oc1 T.c) T.p T.rs T.os T.c):=⟨BoxC.new w6 _ _ _ _ _,S6.out.2.trans ((zQ _ _).mono S6.out.2.size),S6.out.1.below (zQ _ _)⟩
    go_upto_region 12 with fail
    clear S6
    generalize w6.alloc (oQ1 T.p ra1 T.rs.length rc1 oa1 T.os.length oc1 T.c)=w7 at *
    generalize hN7:w6.heap.size=S7 at *
    clear hN7 w6
    obtain ⟨sa,sc,rfl⟩:=zU AP.out.o.s.row
    obtain ⟨ha,hc,rfl⟩:=zU AP.out.o.h.row
    obtain ⟨x0,x1,x2,x3⟩:=(AP.out.below N7.out.2.1).bx
    obtain ⟨s0,s1,s2,s3⟩:=N7.out.1
    have hk2:Hid (k<=2000000):=by show k<=2000000;omega
    have lN7:N<w7.heap.size:=zJ _ _ x0
    have lS7:S7<w7.heap.size:=zJ _ _ s0
    go_upto_region 13 with (at_builtin;refine qao kndS w7 rfl rfl _ _ rfl 0 (.slice sa k sc) k _ rfl (AP.out.o.s.below N7.out.2.1).row #[.int .i64 T.p,.slice ra1 T.rs.length rc1,.slice oa1 T.os.length oc1,.int .i64 T.c] rfl rfl (by intro u hu;simp at hu;rcases hu with rfl | rfl | rfl | rfl <;> rfl) hk2.out (Nat.zero_le _) ?_;intro v8 w8 o8 g8 q8 n8;obtain ⟨a8,c8,rfl⟩:=zU o8;obtain ⟨⟨z0,z1,z2,z3⟩,zf⟩:=AP.out.box N7.out.2.1 g8 (fun k hk=>(AP.out.gS k hk).2);have F8:Hid (AtP true w3.heap.size N (rcol cl wr.heap.size 2) { x.y.atY (cN c) with sn:=k+1,hn:=k } (w8.setCell (aQ N 1) (.slice a8 (k+1) c8)) (.slice a5 x.pn c5) (.slice a8 (k+1) c8) (.slice a4 (x.y.atY (cN c)).wn c4) (.slice ha k hc) u5 (fun j=>if j=k then stV T.p ra1 T.rs.length rc1 oa1 T.os.length oc1 T.c else us j) u4 uh/\Bw w3 (w8.setCell (aQ N 1) (.slice a8 (k+1) c8))):=⟨AP.out.state N7.out.2.1 (by rw [HTT.out];exact N7.out.2.2) o8 g8 q8,(Below.grown (BZ.out.trans (N7.out.2.1.mono BZ.out.size)) g8 (zP BZ.out.size N7.out.2.1.size) (fun j hj=>(AP.out.gS j hj).1)).setCell AP.out.bN _⟩;clear o8 g8 q8 n8)
    clear x0 x1 x2 x3 s0 s1 s2 s3 z0 z1 z2 z3 zf lN7 lS7 N7 AP
    generalize w8.setCell (aQ N 1) (.slice a8 (k+1) c8)=w9 at *
    clear w8
    obtain ⟨x0,x1,x2,x3⟩:=F8.out.1.bx
    have lN9:N<w9.heap.size:=F8.out.1.lt
    have q0:Bw w9 w9.drew:=(Below.refl w9.heap.size w9).drew
    obtain ⟨-,hrw,hbw,-⟩:=HX3.out w9.drew (F8.out.2.trans (q0.mono F8.out.2.size))
    refine qam (fun w'=>w'.cell? (aQ N 3)=some (.slice ha k hc)) (fun i=>i == 7) (by kernel_rfl) ?_
    have hHeld:(fun w':World=>w'.cell? (aQ N 3)=some (.slice ha k hc)) w9.drew:=(q0.cell (p:=(aQ N 3)) lN9).trans x3
    refine wpGT_of [0,1,2] ?_
    iterate 3 (refine wpGT_take rfl hHeld ?_;apply Exists.intro;refine ⟨fun wq hSw=>?_,?_⟩;(· ((try dsimp only at hSw);go_simp;try with_reducible rfl));(try simp only [Act.put,zD,zE,zF]))
    refine wpGT_nil ?_
    refine qaa 3 rfl (by kernel_rfl) (fun K hK=>?_)
    refine qaf rfl 73 _ _ rfl #[.slice (x.hA k) (cN c k) (cN c k)] (by simp [Act.eval]) (yA Tryz.func73 (by kernel_rfl) rfl) (HK.out w9.drew _ hbw hrw k hkp) ?_
    rintro e w10 ⟨a10,c10,rfl,o10,n10,d10⟩
    refine ⟨_,rfl,?_⟩
    have Q10:Hid (Bw w9 w10/\w10.ownsRow w9.heap.size 56 3 (.slice a10 (cN c k) c10) (cN c k) (fE (x.hH k) (cN c k))/\Value.slice a10 (cN c k) c10≠.slice none 0 0):=⟨q0.trans (d10.mono q0.size),o10,n10⟩
    refine hK.out _ _ (fun _=>(Q10.out.1.cell (p:=(aQ N 3)) lN9).trans x3) ?_
    clear hHeld hK K o10 n10 d10 hrw hbw q0
    (try simp only [Act.put,zD,zE,zF])
    refine qaa 4 rfl (by kernel_rfl) (fun K hK=>?_)
    go_simp
    refine hK.out _ _ (fun _=>((Q10.out.1.trans ((zQ w10 _).mono Q10.out.1.size)).cell (p:=(aQ N 3)) lN9).trans x3) ?_
    clear hK K
    (try simp only [Act.put,zD,zE,zF])
    refine qaa 5 rfl (by kernel_rfl) (fun K hK=>?_)
    refine qa2 qjb w10 rfl rfl _ _ rfl 0 (.slice ha k hc) k _ rfl (F8.out.1.o.h.below Q10.out.1).row #[.slice a10 (cN c k) c10] rfl rfl (by intro u hu;simp at hu;subst hu;rfl) hk2.out (Nat.zero_le _) ?_
    intro v11 w11 o11 g11 q11 n11
    obtain ⟨a11,c11,rfl⟩:=zU o11
    obtain ⟨⟨z0,z1,z2,z3⟩,zf⟩:=F8.out.1.box Q10.out.1 g11 (fun k hk=>(F8.out.1.gH k hk).2)
    have F9:Hid (AtP true w3.heap.size N (rcol (rcol cl wr.heap.size 2) w9.heap.size 4) { x.y.atY (cN c) with sn:=k+1,hn:=k+1 } (w11.setCell (aQ N 3) (.slice a11 (k+1) c11)) (.slice a5 x.pn c5) (.slice a8 (k+1) c8) (.slice a4 (x.y.atY (cN c)).wn c4) (.slice a11 (k+1) c11) u5 (fun j=>if j=k then stV T.p ra1 T.rs.length rc1 oa1 T.os.length oc1 T.c else us j) u4 (fun j=>if j=k then .slice a10 (cN c k) c10 else uh j)/\Bw w3 (w11.setCell (aQ N 3) (.slice a11 (k+1) c11))):=⟨F8.out.1.hist Q10.out.1 Q10.out.2.1 Q10.out.2.2 o11 g11 q11,(Below.grown (F8.out.2.trans (Q10.out.1.mono F8.out.2.size)) g11 (zP F8.out.2.size Q10.out.1.size) (fun j hj=>(F8.out.1.gH j hj).1)).setCell F8.out.1.bN _⟩
    refine hK.out _ _ (fun _=>z3) ?_
    clear o11 g11 q11 n11 hK K
    (try simp only [Act.put,zD,zE,zF])
    have hHeld:(fun w':World=>w'.cell? (aQ N 3)=some (.slice ha k hc)) w11:=z3
    refine qab 6 rfl hHeld ?_
    apply Exists.intro
    refine ⟨fun wq hSw=>?_,?_⟩
    ·(try dsimp only at hSw)
     go_simp
     try with_reducible rfl
    (try simp only [Act.put,zD,zE,zF])
    refine qaa 7 rfl (by kernel_rfl) (fun K hK=>?_)
    have hfN1:=zf 3
    go_simp
    refine hK.out _ _ (fun h=>?_) ?_
    ·exact absurd h (by decide)
    clear hK K z0 z1 z2 z3 zf hfN1 x0 x1 x2 x3 Q10 F8 lN9
    (try simp only [Act.put])
    refine qar (by kernel_rfl) ?_ _
    go_wp2
    go_roundw
    case rel=>exact ⟨k+1,by omega,by go_num,⟨_,_,_,_,_,F9.out.1⟩,F9.out.2⟩
    case measure=>simp [intOf];omega
   ·have hkn:k=x.pn:=by have:=HN.out;omega
    subst hkn
    have hlt':¬ (x.pn:Int)<(c.length:Int):=by omega
    obtain ⟨⟨cl,vs,vh,us,uh,hA⟩,hbz⟩:=HZ.out
    obtain ⟨sa,sc,rfl⟩:=zU hA.o.s.row
    obtain ⟨ha,hc,rfl⟩:=zU hA.o.h.row
    obtain ⟨x0,x1,x2,x3⟩:=hA.bx
    obtain ⟨-,-,hbw,-,⟨r0,r1,r2,r3⟩,rf,l1,hle3⟩:=HX3.out wr hbz
    have OS:Hid (qae true wr w3.heap.size (x.y.atY (cN c)) (.agg #[.slice a5 x.pn c5,.slice sa x.pn sc,.slice a4 (x.y.atY (cN c)).wn c4,.slice ha x.pn hc])):=⟨_,_,_,_,_,_,_,_,_,rfl,hA.o⟩
    have BW:Hid (Bw w wr/\w.heap.size<=w3.heap.size):=⟨hbw,by omega⟩
    have lN:N<wr.heap.size:=hA.lt
    have hNr:w3.heap.size<=N:=hA.bN
    have hl1:w.heap.size+1<wr.heap.size:=by omega
    clear hA HZ hbw hbz HX3
    go_wp2
    exact bodyPost_ret (v := .tuple #[.agg #[.slice a5 x.pn c5, .slice sa x.pn sc, .slice a4 (x.y.atY (cN c)).wn c4, .slice ha x.pn hc], .bool true]) (by simp [results, Tryz.results35, go_sem, r0, r1, r2, r3]) rfl ⟨_, by rw [HAT.out.1], by
     rw [HAT.out.2,HV.out]
     exact ((((OS.out.setBelow l1 0 _).setBelow l1 1 _).setBelow l1 2 _).setBelow l1 3 _).base BW.out.2,(((BW.out.1.setCell hM _).setCell hM _).setCell hM _).setCell hM _⟩
theorem qgp {zb:Bool} (x:SysIn) (p k:Int) (w:World) (hG:SysG w x) (hL:x.Len) (hcap:∀ i,i<x.hn->x.hL i<=x.hC i) (hN:x.Nn zb) (hV:w.cell? ⟨0,0,none⟩=some (.iface 160 (.agg #[.pointer (some ⟨1,116,none⟩)]))):
  Calls Tryz.prog 10 #[x.v,.int .i64 p,.int .i64 k] w fun e w'=>∃ v,e=.returned (.tuple #[v,.int .i64 (bkC x.y p k)])/\qae zb w' w.heap.size (bkY x.y p k) v/\Bw w w':=by
 have HVx:Hid (∀ wx,Bw w wx->wx.cell? ⟨0,0,none⟩=some (.iface 160 (.agg #[.pointer (some ⟨1,116,none⟩)]))):=fun wx hb=>(hb.cell (p:=⟨0,0,none⟩) (zJ w _ hV)).trans hV
 have HG:Hid (SysG w x):=hG
 have HLn:Hid (x.hn<=1048576/\x.pn<=1048576/\∀ i,i<x.hn->x.hL i<=1048576):=⟨hL.h.1,hL.p.1,hL.h.2⟩
 have HS:Hid (∀ wx,Bw w wx->Calls Tryz.prog 33 #[x.v] wx fun e w'=>e=.returned (.bool x.y.okB)/\Bw wx w'):=fun wx hb=>qdk x wx (hG.below hb) hL (HVx.out wx hb)
 have HC4:Hid (∀ wx,Bw w wx->Calls Tryz.prog 34 #[x.v] wx fun e w'=>∃ v,e=.returned v/\qae zb w' wx.heap.size x.y v/\Bw wx w'):=fun wx hb=>qmi x wx (hG.below hb) hL hN
 have HFu:Hid (x.y.okB=true->∀ wx,Bw w wx->Calls Tryz.prog 20 #[x.v] wx fun e w'=>∃ u,e=.returned u/\OwnI w' wx.heap.size u (flT x.y x.hn)/\Bw wx w'):=fun t wx hb=>by
  have h:=qk3 x wx (hG.below hb) hL (HVx.out wx hb)
  have e:flS x.y=flT x.y x.hn:=if_pos t
  rw [e] at h
  exact h
 have HCl:Hid (cutB x.y (bkL x.y p.toNat k)=true->∀ wx ca cc,Bw w wx->Sl wx ca (bkL x.y p.toNat k)->Calls Tryz.prog 22 #[x.v,.slice ca (bkL x.y p.toNat k).length cc] wx fun e w'=>∃ u,e=.returned u/\OwnI w' wx.heap.size u (bkE x.y p k)/\Bw wx w'):=fun _ wx ca cc hb hs=>qi5 x ca cc _ wx (hG.below hb) hL hcap hs (by unfold bkL;rw [List.length_set,qcj];exact hL.h.1) (HVx.out wx hb)
 have HAt:Hid (x.y.okB=true->bkIn x.y p k=true->∀ wx ca cc,Bw w wx->Sl wx ca (bkE x.y p k)->Calls Tryz.prog 35 #[x.v,.slice ca (bkE x.y p k).length cc] wx fun e w'=>∃ v,e=.returned (.tuple #[v,.bool (wfB (x.y.ah (cN (bkE x.y p k))))])/\qae zb w' wx.heap.size (x.y.atW (cN (bkE x.y p k))) v/\Bw wx w'):=fun t hb2 wx ca cc hb hs=>by
  have hc:=qet (Sy.ok_of t) hb2
  have h:=qpa x ca cc (bkE x.y p k) wx (hG.below hb) hL hcap hs (by show (clS x.y (bkL x.y p.toNat k)).length<=1048576;rw [(qhe hc).len];exact hL.p.1) (HVx.out wx hb)
  have e1:atB x.y (bkE x.y p k)=wfB (x.y.ah (cN (bkE x.y p k))):=by
   unfold atB
   rw [show whB x.y (bkE x.y p k)=true from qt5 hc]
   rfl
  have e2:atS x.y (bkE x.y p k)=x.y.atW (cN (bkE x.y p k)):=if_pos (qt5 hc)
  rw [e1,e2] at h
  exact h.mono fun e w' hh=>by
   obtain ⟨v,e3,o,b⟩:=hh
   exact ⟨v,e3,o.toz,b⟩
 have BW:Hid (Bw w ((w.alloc (x.oX)).alloc (zQ3))):=(zQ _ _).trans ((zQ _ _).mono (by simp))
 have NB:Hid (x.bX ((w.alloc (x.oX)).alloc (zQ3)) w.heap.size):=(BoxC.new w _ _ _ _ _).below (zQ _ _)
 have RB:Hid (BoxC ((w.alloc (x.oX)).alloc (zQ3)) (w.heap.size+1) (.slice none 0 0) (.slice none 0 0) (.slice none 0 0) (.slice none 0 0)/\∀ j,((w.alloc (x.oX)).alloc (zQ3)).frozen? ⟨w.heap.size+1,j,none⟩=false):=⟨⟨zW _ _ _ 0 (by simp),zW _ _ _ 1 (by simp),zW _ _ _ 2 (by simp),zW _ _ _ 3 (by simp)⟩,fun j=>yB _ _ _ _ (by simp)⟩
 have hM:w.heap.size<=w.heap.size+1:=Nat.le_succ _
 clear hG hL hcap hN hV
 go_enter Tryz.func10,Tryz.ntmps10
 go_wp2_with fail
 generalize (w.alloc (x.oX)).alloc (zQ3)=W2 at *
 refine (HS.out W2 BW.out).mono ?_
 rintro e w1 ⟨rfl,q1⟩
 have B1:Hid (Bw w w1/\x.bX w1 w.heap.size/\BoxC w1 (w.heap.size+1) (.slice none 0 0) (.slice none 0 0) (.slice none 0 0) (.slice none 0 0)/\∀ j,w1.frozen? ⟨w.heap.size+1,j,none⟩=false):=⟨BW.out.trans (q1.mono BW.out.size),NB.out.below q1,RB.out.1.below q1,fun j=>((qah q1).2 _ j (zJ _ _ RB.out.1.1)).trans (RB.out.2 j)⟩
 clear q1 BW NB RB HS
 have LR:Hid (w.heap.size+1<w1.heap.size):=zJ _ _ B1.out.2.2.1.1
 have HRB:Hid (∀ wx,Bw w1 wx->x.bX wx w.heap.size/\BoxC wx (w.heap.size+1) (.slice none 0 0) (.slice none 0 0) (.slice none 0 0) (.slice none 0 0)/\(∀ j,wx.frozen? ⟨w.heap.size+1,j,none⟩=false)/\w.heap.size+1<wx.heap.size):=fun wx hb=>⟨B1.out.2.1.below hb,B1.out.2.2.1.below hb,fun j=>((qah hb).2 _ j LR.out).trans (B1.out.2.2.2 j),zL LR.out hb.size⟩
 obtain ⟨b0,b1,b2,b3⟩:=B1.out.2.1
 rcases zK x.y.okB with t | t
 case inr=>
  have HV:Hid (bkC x.y p k=1/\bkY x.y p k=x.y.nil):=⟨if_neg (by rw [t];simp),if_neg (by rw [t];simp)⟩
  obtain ⟨⟨r0,r1,r2,r3⟩,rf⟩:=B1.out.2.2
  have l1:=LR.out
  rw [t]
  clear t
  go_wp2
  exact bodyPost_ret (v:=.tuple #[sysV none 0 0 none 0 0 none 0 0 none 0 0,.int .i64 1]) (by simp [results,Tryz.results10,go_sem,r0,r1,r2,r3]) rfl ⟨_,by rw [HV.out.1],by rw [HV.out.2];exact qae.zero _ _ _,(((B1.out.1.setCell hM _).setCell hM _).setCell hM _).setCell hM _⟩
 have HO:Hid (x.y.Ok/\x.y.okB=true):=⟨Sy.ok_of t,t⟩
 have HNP:Hid (x.hn=x.pn/\x.pn<=4/\1<=x.pn):=⟨HO.out.1.cn.2.2.1,HO.out.1.cn.1.2,HO.out.1.cn.1.1⟩
 have h4:(x.pn:Int)<=4:=by have:=HNP.out;omega
 have h4h:(x.hn:Int)<=4:=by have:=HNP.out;omega
 rw [t]
 clear t
 have l1:=LR.out
 by_cases hb:belB p x.pn=true
 case neg=>
  have hbf:belB p x.pn=false:=by
   cases h:belB p x.pn with
   | false=>rfl
   | true=>exact absurd h hb
  have HV:Hid (bkC x.y p k=2/\bkY x.y p k=x.y):=by
   have hi:bkIn x.y p k=false:=by
    unfold bkIn
    rw [show belB p x.y.pn=false from hbf]
    rfl
   exact ⟨by show bkC x.y p k=2;rw [bkC,if_pos HO.out.2,if_neg (by rw [hi];simp)],by rw [bkY,if_pos HO.out.2,if_neg (by rw [hi];simp)]⟩
  have HBB:Hid (belB p x.hn=false):=by
   show belB p x.hn=false
   rw [HNP.out.1];exact hbf
  clear hb hbf
  go_wp2_with fail
  refine (isBelow_any _ _ _).mono ?_
  rintro e w' ⟨rfl,hw⟩
  have hw2:=hw.symm
  subst hw2
  clear hw
  rw [show belB p x.hn=false from HBB.out]
  go_wp2_with fail
  refine (HC4.out w1 B1.out.1).mono ?_
  rintro e w3 ⟨v3,rfl,o3,q3⟩
  obtain ⟨cq,vp,vs,vw,vh,up,us,uw,uh,rfl,o3⟩:=o3
  obtain ⟨pa,pc,rfl⟩:=zU o3.p.row
  obtain ⟨sa,sc,rfl⟩:=zU o3.s.row
  obtain ⟨wa,wc,rfl⟩:=zU o3.t.row
  obtain ⟨ha,hc,rfl⟩:=zU o3.h.row
  have F3:Hid (qae zb w3 w1.heap.size x.y (.agg #[.slice pa x.y.pn pc,.slice sa x.y.sn sc,.slice wa x.y.wn wc,.slice ha x.y.hn hc])/\Bw w1 w3):=⟨⟨_,_,_,_,_,_,_,_,_,rfl,o3⟩,q3⟩
  obtain ⟨-,⟨r0,r1,r2,r3⟩,rf,l1⟩:=HRB.out w3 ((Below.refl w1.heap.size w1).trans (q3.mono (Below.refl w1.heap.size w1).size))
  clear o3 q3
  go_wp2
  exact bodyPost_ret (v := .tuple #[.agg #[.slice pa x.y.pn pc, .slice sa x.y.sn sc, .slice wa x.y.wn wc, .slice ha x.y.hn hc], .int .i64 2]) (by simp [results, Tryz.results10, go_sem, r0, r1, r2, r3]) rfl ⟨_, by rw [HV.out.1], by
   rw [HV.out.2]
   exact ((((F3.out.1.setBelow LR.out 0 _).setBelow LR.out 1 _).setBelow LR.out 2 _).setBelow LR.out 3 _).base B1.out.1.size,(((((B1.out.1).trans (F3.out.2.mono B1.out.1.size)).setCell hM _).setCell hM _).setCell hM _).setCell hM _⟩
 obtain ⟨P,rfl,hP⟩:∃ P:Nat,p=P/\P<x.pn:=by
  simp only [belB,decide_eq_true_eq] at hb
  exact ⟨p.toNat,by omega,by omega⟩
 have HBB:Hid (belB (P:Int) x.hn=true):=by
  show belB (P:Int) x.hn=true
  rw [HNP.out.1];exact hb
 clear hb
 have hPh:P<x.hn:=by have:=HNP.out;omega
 have hPh':(P:Int)<(x.hn:Int):=by omega
 have nPh:¬ (x.hn:Int)<=(P:Int):=by omega
 obtain ⟨bh,oh,eh,ch⟩:=(HG.out.below B1.out.1).h.at hPh
 rw [eh] at b3
 have HEH:Hid (x.ha=some (aQ bh oh)):=eh
 clear eh
 have hlm:x.hL P<=200:=HO.out.1.hl200 hP
 have hlm':(x.hL P:Int)<=200:=by omega
 have HLP:Hid (x.y.hL P=x.hL P):=rfl
 by_cases hk:0<=k/\k<=(x.hL P:Int)
 case neg=>
  have HV:Hid (bkC x.y (P:Int) k=2/\bkY x.y (P:Int) k=x.y):=by
   have hi:bkIn x.y (P:Int) k=false:=by
    simp only [bkIn,inB,Int.toNat_natCast,Bool.and_eq_false_iff,decide_eq_false_iff_not]
    exact .inr hk
   exact ⟨by show bkC x.y (P:Int) k=2;rw [bkC,if_pos HO.out.2,if_neg (by rw [hi];simp)],by rw [bkY,if_pos HO.out.2,if_neg (by rw [hi];simp)]⟩
  by_cases h0:k<0
  case pos=>
   have n0:¬ 0<=k:=by omega
   clear hk
   go_wp2_with fail
   refine (isBelow_any _ _ _).mono ?_
   rintro e w' ⟨rfl,hw⟩
   have hw2:=hw.symm
   subst hw2
   clear hw
   rw [show belB (P:Int) x.hn=true from HBB.out]
   go_upto_region 4 with fail
   clear b0 b1 b2 b3 ch
   obtain ⟨b0,b1,b2,b3⟩:=B1.out.2.1
   go_wp2_with fail
   refine (HC4.out w1 B1.out.1).mono ?_
   rintro e w3 ⟨v3,rfl,o3,q3⟩
   obtain ⟨cq,vp,vs,vw,vh,up,us,uw,uh,rfl,o3⟩:=o3
   obtain ⟨pa,pc,rfl⟩:=zU o3.p.row
   obtain ⟨sa,sc,rfl⟩:=zU o3.s.row
   obtain ⟨wa,wc,rfl⟩:=zU o3.t.row
   obtain ⟨ha,hc,rfl⟩:=zU o3.h.row
   have F3:Hid (qae zb w3 w1.heap.size x.y (.agg #[.slice pa x.y.pn pc,.slice sa x.y.sn sc,.slice wa x.y.wn wc,.slice ha x.y.hn hc])/\Bw w1 w3):=⟨⟨_,_,_,_,_,_,_,_,_,rfl,o3⟩,q3⟩
   obtain ⟨-,⟨r0,r1,r2,r3⟩,rf,l1⟩:=HRB.out w3 ((Below.refl w1.heap.size w1).trans (q3.mono (Below.refl w1.heap.size w1).size))
   clear o3 q3
   go_wp2
   exact bodyPost_ret (v := .tuple #[.agg #[.slice pa x.y.pn pc, .slice sa x.y.sn sc, .slice wa x.y.wn wc, .slice ha x.y.hn hc], .int .i64 2]) (by simp [results, Tryz.results10, go_sem, r0, r1, r2, r3]) rfl ⟨_, by rw [HV.out.1], by
    rw [HV.out.2]
    exact ((((F3.out.1.setBelow LR.out 0 _).setBelow LR.out 1 _).setBelow LR.out 2 _).setBelow LR.out 3 _).base B1.out.1.size,(((((B1.out.1).trans (F3.out.2.mono B1.out.1.size)).setCell hM _).setCell hM _).setCell hM _).setCell hM _⟩
  have n0:0<=k:=by omega
  have h1:(x.hL P:Int)<k:=by omega
  have n1:¬ k<=(x.hL P:Int):=by omega
  clear hk
  go_wp2_with fail
  refine (isBelow_any _ _ _).mono ?_
  rintro e w' ⟨rfl,hw⟩
  have hw2:=hw.symm
  subst hw2
  clear hw
  rw [show belB (P:Int) x.hn=true from HBB.out]
  go_upto_region 4 with fail
  clear b0 b1 b2 b3 ch
  obtain ⟨b0,b1,b2,b3⟩:=B1.out.2.1
  go_wp2_with fail
  refine (HC4.out w1 B1.out.1).mono ?_
  rintro e w3 ⟨v3,rfl,o3,q3⟩
  obtain ⟨cq,vp,vs,vw,vh,up,us,uw,uh,rfl,o3⟩:=o3
  obtain ⟨pa,pc,rfl⟩:=zU o3.p.row
  obtain ⟨sa,sc,rfl⟩:=zU o3.s.row
  obtain ⟨wa,wc,rfl⟩:=zU o3.t.row
  obtain ⟨ha,hc,rfl⟩:=zU o3.h.row
  have F3:Hid (qae zb w3 w1.heap.size x.y (.agg #[.slice pa x.y.pn pc,.slice sa x.y.sn sc,.slice wa x.y.wn wc,.slice ha x.y.hn hc])/\Bw w1 w3):=⟨⟨_,_,_,_,_,_,_,_,_,rfl,o3⟩,q3⟩
  obtain ⟨-,⟨r0,r1,r2,r3⟩,rf,l1⟩:=HRB.out w3 ((Below.refl w1.heap.size w1).trans (q3.mono (Below.refl w1.heap.size w1).size))
  clear o3 q3
  go_wp2
  exact bodyPost_ret (v := .tuple #[.agg #[.slice pa x.y.pn pc, .slice sa x.y.sn sc, .slice wa x.y.wn wc, .slice ha x.y.hn hc], .int .i64 2]) (by simp [results, Tryz.results10, go_sem, r0, r1, r2, r3]) rfl ⟨_, by rw [HV.out.1], by
   rw [HV.out.2]
   exact ((((F3.out.1.setBelow LR.out 0 _).setBelow LR.out 1 _).setBelow LR.out 2 _).setBelow LR.out 3 _).base B1.out.1.size,(((((B1.out.1).trans (F3.out.2.mono B1.out.1.size)).setCell hM _).setCell hM _).setCell hM _).setCell hM _⟩
 have hk0:¬ k<0:=by omega
 have hk0':0<=k:=hk.1
 have hk1:¬ (x.hL P:Int)<k:=by omega
 have hk1':k<=(x.hL P:Int):=hk.2
 have HIN:Hid (bkIn x.y (P:Int) k=true):=by
  show bkIn x.y (P:Int) k=true
  simp only [bkIn,inB,belB,Int.toNat_natCast,Bool.and_eq_true,decide_eq_true_eq]
  exact ⟨by have:x.y.pn=x.pn:=rfl;omega,hk⟩
 have HBC:Hid (bkC x.y (P:Int) k=(if wfB (x.y.ah (cN (bkE x.y (P:Int) k)))=true then 0 else 3)/\bkY x.y (P:Int) k=(if wfB (x.y.ah (cN (bkE x.y (P:Int) k)))=true then x.y.atY (cN (bkE x.y (P:Int) k)) else x.y)):=⟨by show bkC x.y (P:Int) k=_;rw [bkC,if_pos HO.out.2,if_pos HIN.out],by rw [bkY,if_pos HO.out.2,if_pos HIN.out]⟩
 have HYW:Hid (x.y.atW (cN (bkE x.y (P:Int) k))=(if wfB (x.y.ah (cN (bkE x.y (P:Int) k)))=true then x.y.atY (cN (bkE x.y (P:Int) k)) else x.y.nil)):=rfl
 have HF2:Hid (∀ wx,Bw w wx->Calls Tryz.prog 20 #[x.v] wx fun e w'=>∃ u,e=.returned u/\OwnI w' wx.heap.size u (flT x.y x.hn)/\Bw wx w'):=HFu.out HO.out.2
 have HC2:Hid (∀ wx ca cc,Bw w wx->Sl wx ca (bkL x.y P k)->Calls Tryz.prog 22 #[x.v,.slice ca x.hn cc] wx fun e w'=>∃ u,e=.returned u/\OwnI w' wx.heap.size u (bkE x.y (P:Int) k)/\Bw wx w'):=fun wx ca cc hb hs=>by
  have h:=HCl.out (qet HO.out.1 HIN.out) wx ca cc hb (by rw [Int.toNat_natCast];exact hs)
  rw [show (bkL x.y ((P:Int)).toNat k).length=x.hn by unfold bkL;rw [List.length_set,qcj];rfl] at h
  exact h
 have HA2:Hid (∀ wx ca cc,Bw w wx->Sl wx ca (bkE x.y (P:Int) k)->Calls Tryz.prog 35 #[x.v,.slice ca (bkE x.y (P:Int) k).length cc] wx fun e w'=>∃ v,e=.returned (.tuple #[v,.bool (wfB (x.y.ah (cN (bkE x.y (P:Int) k))))])/\qae zb w' wx.heap.size (x.y.atW (cN (bkE x.y (P:Int) k))) v/\Bw wx w'):=HAt.out HO.out.2 HIN.out
 have HFL:Hid ((flT x.y x.hn).set P k=bkL x.y P k/\(flT x.y x.hn).length=x.hn):=⟨rfl,qcj _ _⟩
 clear hk HFu HCl HAt HIN
 generalize x.y.atW (cN (bkE x.y (P:Int) k))=YW at *
 generalize wfB (x.y.ah (cN (bkE x.y (P:Int) k)))=wf at *
 generalize x.y.atY (cN (bkE x.y (P:Int) k))=YA at *
 generalize bkE x.y (P:Int) k=E at *
 generalize bkL x.y P k=Lb at *
 generalize flT x.y x.hn=fl at *
 go_wp2_with fail
 refine (isBelow_any _ _ _).mono ?_
 rintro e w' ⟨rfl,hw⟩
 have hw2:=hw.symm
 subst hw2
 clear hw
 rw [show belB (P:Int) x.hn=true from HBB.out]
 go_upto_region 5 with fail
 clear b0 b1 b2 b3 ch
 obtain ⟨b0,b1,b2,b3⟩:=B1.out.2.1
 go_wp2_with fail
 refine (HF2.out w1 B1.out.1).mono ?_
 rintro e w4 ⟨v4,rfl,o4,q4⟩
 obtain ⟨gf,fc,rfl,hgf,hgl⟩:=o4.block (by have:=HFL.out.2;omega)
 rw [HFL.out.2] at o4 ⊢
 have O4:Hid (OwnI w4 w1.heap.size (.slice (some (aQ gf 0)) x.hn fc) fl/\Bw w1 w4):=⟨o4,q4⟩
 have cg:w4.cell? (aQ gf P)=some (.int .i64 (zi fl P)):=by
  have o5:OwnI w4 w1.heap.size (.slice (some (aQ gf 0)) fl.length fc) fl:=by rw [HFL.out.2];exact o4
  exact o5.cell (by rw [HFL.out.2];exact hPh)
 have cf:w4.frozen? (aQ gf P)=false:=by
  have o5:OwnI w4 w1.heap.size (.slice (some (aQ gf 0)) fl.length fc) fl:=by rw [HFL.out.2];exact o4
  exact o5.frozen P
 have F4:Hid (Sl (w4.setCell (aQ gf P) (.int .i64 k)) (some (aQ gf 0)) Lb/\Bw w1 (w4.setCell (aQ gf P) (.int .i64 k))):=by
  have h:=(o4.set (n:=x.hn) HFL.out.2.symm P k)
  refine ⟨?_,q4.setCell hgf _⟩
  have hs:=h.1
  rw [HFL.out.1] at hs
  have hl:Lb.length=x.hn:=by rw [<- HFL.out.1,List.length_set,HFL.out.2]
  rw [<- hl] at hs
  exact hs.slOf
 clear o4 q4
 go_upto_region 7 with fail
 clear cg cf hgf O4 HFL
 generalize w4.setCell (aQ gf P) (.int .i64 k)=w5 at *
 clear hgl w4
 obtain ⟨⟨b0,b1,b2,b3⟩,-,-,-⟩:=HRB.out w5 F4.out.2
 go_cut [9,10] from 43 to 50 (fun s t wx=>∃ N:Nat,s=.pointer (some (aQ N 0))/\t=.bool wf/\Hid (∃ pa pc sa sc wa wc ha hc,qae zb wx w1.heap.size YW (.agg #[.slice pa YW.pn pc,.slice sa YW.sn sc,.slice wa YW.wn wc,.slice ha YW.hn hc])/\Bw w1 wx/\BoxC wx N (.slice pa YW.pn pc) (.slice sa YW.sn sc) (.slice wa YW.wn wc) (.slice ha YW.hn hc)))
 case first=>
  have q0:Bw w5 w5.drew:=(Below.refl w5.heap.size w5).drew
  refine qam (fun w'=>x.bX w' w.heap.size) (fun _=>false) (by kernel_rfl) ?_
  have hB5:∀ wx,Bw w5 wx->x.bX wx w.heap.size:=fun wx hb=>BoxC.below (w:=w5) ⟨b0,b1,b2,b3⟩ hb
  have hHeld:(fun w':World=>x.bX w' w.heap.size) w5.drew:=hB5 _ q0
  have hBW:∀ wx,Bw w5 wx->Bw w wx:=fun wx hb=>(B1.out.1.trans (F4.out.2.mono B1.out.1.size)).trans (hb.mono (B1.out.1.trans (F4.out.2.mono B1.out.1.size)).size)
  refine qab 0 rfl hHeld ?_
  apply Exists.intro
  refine ⟨fun wq hSw=>?_,?_⟩
  ·obtain ⟨h0,h1,h2,h3⟩:=hSw
   go_simp
   try with_reducible rfl
  (try simp only [Act.put,zD,zE,zF])
  refine qab 1 rfl hHeld ?_
  apply Exists.intro
  refine ⟨fun wq hSw=>?_,?_⟩
  ·obtain ⟨h0,h1,h2,h3⟩:=hSw
   go_simp
   try with_reducible rfl
  (try simp only [Act.put,zD,zE,zF])
  refine qab 2 rfl hHeld ?_
  apply Exists.intro
  refine ⟨fun wq hSw=>?_,?_⟩
  ·(try dsimp only at hSw)
   go_simp
   try with_reducible rfl
  (try simp only [Act.put,zD,zE,zF])
  have sz:w1.heap.size<=w5.heap.size:=F4.out.2.size
  have lb:w.heap.size+1<w5.heap.size:=zL l1 sz
  refine qdq 3 8 rfl rfl (by kernel_rfl) (fun K hK=>?_) (fun K hK=>?_)
  ·have q0':=q0
   refine qaf rfl 22 _ _ rfl #[x.v,.slice (some (aQ gf 0)) x.hn fc] (by simp [Act.eval,SysIn.v,sysV]) (yA Tryz.func22 (by kernel_rfl) rfl) (HC2.out w5.drew _ fc (hBW _ q0') (F4.out.1.below q0')) ?_
   rintro e w6 ⟨u6,rfl,o6,d6⟩
   obtain ⟨e6,c6,rfl,s6⟩:=o6.form
   refine ⟨_,rfl,?_⟩
   have q6:Bw w5 w6:=q0'.trans (d6.mono q0'.size)
   refine hK.out _ _ (fun _=>hB5 _ q6) ?_
   clear hK K
   (try simp only [Act.put,zD,zE,zF])
   refine qdq 4 8 rfl rfl (by kernel_rfl) (fun K hK=>?_) (fun K hK=>?_)
   ·have s6':=s6
    refine qaf rfl 35 _ _ rfl #[x.v,.slice e6 E.length c6] (by simp [Act.eval,SysIn.v,sysV]) (yA Tryz.func35 (by kernel_rfl) rfl) (HA2.out w6 _ c6 (hBW _ q6) s6') ?_
    rintro e w7 ⟨v7,rfl,o7,d7⟩
    obtain ⟨cq,vp,vs,vw,vh,up,us,uw,uh,rfl,o7⟩:=o7
    obtain ⟨pa,pc,rfl⟩:=zU o7.p.row
    obtain ⟨sa,sc,rfl⟩:=zU o7.s.row
    obtain ⟨wa,wc,rfl⟩:=zU o7.t.row
    obtain ⟨ha,hc,rfl⟩:=zU o7.h.row
    have O7:qae zb w7 (w6).heap.size YW (.agg #[.slice pa YW.pn pc,.slice sa YW.sn sc,.slice wa YW.wn wc,.slice ha YW.hn hc]):=⟨_,_,_,_,_,_,_,_,_,rfl,o7⟩
    refine ⟨_,rfl,?_⟩
    have q7:Bw w5 w7:=q6.trans (d7.mono q6.size)
    refine hK.out _ _ (fun _=>hB5 _ q7) ?_
    clear hK K o7
    have hHeld:(fun w':World=>x.bX w' w.heap.size) w7:=hB5 _ q7
    (try simp only [Act.put,zD,zE,zF])
    refine wpGT_of [5,6,7] ?_
    iterate 3 (refine wpGT_take rfl hHeld ?_;apply Exists.intro;refine ⟨fun wq hSw=>?_,?_⟩;(· ((try dsimp only at hSw);go_simp;try with_reducible rfl));(try simp only [Act.put,zD,zE,zF]))
    refine wpGT_nil ?_
    refine qaa 8 rfl (by kernel_rfl) (fun K hK=>?_)
    go_simp
    have qa:=q7.trans ((zQ w7 (zQ3)).mono q7.size)
    refine hK.out _ _ (fun _=>hB5 _ qa) ?_
    clear hK K hHeld
    (try simp only [Act.put,zD,zE,zF])
    refine qaa 9 rfl (by kernel_rfl) (fun K hK=>?_)
    go_simp
    have qb:=q7.trans ((zQ w7 (oQ4 pa YW.pn pc sa YW.sn sc wa YW.wn wc ha YW.hn hc)).mono q7.size)
    refine hK.out _ _ (fun _=>hB5 _ qb) ?_
    clear hK K
    have hHeld:(fun w':World=>x.bX w' w.heap.size) (w7.alloc (oQ4 pa YW.pn pc sa YW.sn sc wa YW.wn wc ha YW.hn hc)):=hB5 _ qb
    (try simp only [Act.put,zD,zE,zF])
    refine qab 10 rfl hHeld ?_
    apply Exists.intro
    refine ⟨fun wq hSw=>?_,?_⟩
    ·(try dsimp only at hSw)
     go_simp
     try with_reducible rfl
    (try simp only [Act.put,zD,zE,zF])
    refine qar (by kernel_rfl) ?_ _
    go_wp2_with fail
    go_meet
    case rel=>exact ⟨w7.heap.size,by with_reducible rfl,by with_reducible rfl,_,_,_,_,_,_,_,_,(O7.below (zQ _ _)).base (zP sz q6.size),F4.out.2.trans (qb.mono sz),BoxC.new w7 _ _ _ _ _⟩
   ·go_simp
    have qa:=q6.trans ((zQ w6 (zQ3)).mono q6.size)
    have sA:Sl (w6.alloc (zQ3)) e6 E:=s6.below (zQ _ _)
    have bN:BoxC (w6.alloc (zQ3)) w6.heap.size (.slice none 0 0) (.slice none 0 0) (.slice none 0 0) (.slice none 0 0):=BoxC.new w6 _ _ _ _ _
    have fN:∀ j,(w6.alloc (zQ3)).frozen? ⟨w6.heap.size,j,none⟩=false:=fun j=>yB _ _ _ _ rfl
    have zN:w6.heap.size<(w6.alloc (zQ3)).heap.size:=by simp
    have sN6:w5.heap.size<=w6.heap.size:=q6.size
    refine hK.out _ _ (fun _=>hB5 _ qa) ?_
    clear hK K
    (try simp only [Act.put,zD,zE,zF])
    refine qaa 4 rfl (by kernel_rfl) (fun K hK=>?_)
    generalize w6.heap.size=N at *
    generalize w6.alloc (zQ3)=wA at *
    refine qaf rfl 35 _ _ rfl #[x.v,.slice e6 E.length c6] (by simp [Act.eval,SysIn.v,sysV]) (yA Tryz.func35 (by kernel_rfl) rfl) (HA2.out wA _ c6 (hBW _ qa) sA) ?_
    rintro e w7 ⟨v7,rfl,o7,d7⟩
    obtain ⟨cq,vp,vs,vw,vh,up,us,uw,uh,rfl,o7⟩:=o7
    obtain ⟨pa,pc,rfl⟩:=zU o7.p.row
    obtain ⟨sa,sc,rfl⟩:=zU o7.s.row
    obtain ⟨wa,wc,rfl⟩:=zU o7.t.row
    obtain ⟨ha,hc,rfl⟩:=zU o7.h.row
    have O7:qae zb w7 (wA).heap.size YW (.agg #[.slice pa YW.pn pc,.slice sa YW.sn sc,.slice wa YW.wn wc,.slice ha YW.hn hc]):=⟨_,_,_,_,_,_,_,_,_,rfl,o7⟩
    refine ⟨_,rfl,?_⟩
    have q7:Bw w5 w7:=qa.trans (d7.mono qa.size)
    refine hK.out _ _ (fun _=>hB5 _ q7) ?_
    clear hK K o7
    have hHeld:(fun w':World=>x.bX w' w.heap.size) w7:=hB5 _ q7
    (try simp only [Act.put,zD,zE,zF])
    refine wpGT_of [5,6,7] ?_
    iterate 3 (refine wpGT_take rfl hHeld ?_;apply Exists.intro;refine ⟨fun wq hSw=>?_,?_⟩;(· ((try dsimp only at hSw);go_simp;try with_reducible rfl));(try simp only [Act.put,zD,zE,zF]))
    refine wpGT_nil ?_
    obtain ⟨n0,n1,n2,n3⟩:=bN.below d7
    have nf:∀ j,w7.frozen? ⟨N,j,none⟩=false:=fun j=>((qah d7).2 _ j zN).trans (fN j)
    refine qaa 9 rfl (by kernel_rfl) (fun K hK=>?_)
    go_simp
    have qb:Bw w5 ((((w7.setCell (aQ N 0) (.slice pa YW.pn pc)).setCell (aQ N 1) (.slice sa YW.sn sc)).setCell (aQ N 2) (.slice wa YW.wn wc)).setCell (aQ N 3) (.slice ha YW.hn hc)):=(((q7.setCell sN6 _).setCell sN6 _).setCell sN6 _).setCell sN6 _
    refine hK.out _ _ (fun _=>hB5 _ qb) ?_
    clear hK K hHeld
    have hHeld:(fun w':World=>x.bX w' w.heap.size) ((((w7.setCell (aQ N 0) (.slice pa YW.pn pc)).setCell (aQ N 1) (.slice sa YW.sn sc)).setCell (aQ N 2) (.slice wa YW.wn wc)).setCell (aQ N 3) (.slice ha YW.hn hc)):=hB5 _ qb
    (try simp only [Act.put,zD,zE,zF])
    refine qab 10 rfl hHeld ?_
    apply Exists.intro
    refine ⟨fun wq hSw=>?_,?_⟩
    ·(try dsimp only at hSw)
     go_simp
     try with_reducible rfl
    (try simp only [Act.put,zD,zE,zF])
    refine qar (by kernel_rfl) ?_ _
    go_wp2_with fail
    go_meet
    case rel=>exact ⟨N,by with_reducible rfl,by with_reducible rfl,_,_,_,_,_,_,_,_,((((O7.setBelow zN 0 _).setBelow zN 1 _).setBelow zN 2 _).setBelow zN 3 _).base (zP sz qa.size),F4.out.2.trans (qb.mono sz),BoxC.set4 ⟨n0,n1,n2,n3⟩ _ _ _ _⟩
  ·go_simp
   have qa0:=(zQ w5 (zQ3)).drew
   have bN:BoxC (w5.alloc (zQ3)).drew w5.heap.size (.slice none 0 0) (.slice none 0 0) (.slice none 0 0) (.slice none 0 0):=(BoxC.new w5 _ _ _ _ _).below (Below.refl _ _).drew
   have fN:∀ j,(w5.alloc (zQ3)).drew.frozen? ⟨w5.heap.size,j,none⟩=false:=fun j=>(World.frozen?_drew _ _).trans (yB _ _ _ _ rfl)
   have zN:w5.heap.size<(w5.alloc (zQ3)).drew.heap.size:=by simp
   refine hK.out _ _ (fun _=>hB5 _ qa0) ?_
   clear hK K
   (try simp only [Act.put,zD,zE,zF])
   refine qaa 3 rfl (by kernel_rfl) (fun K hK=>?_)
   obtain ⟨N,hNN⟩:∃ N,N=w5.heap.size:=⟨_,rfl⟩
   have sN6:w5.heap.size<=N:=by omega
   have bN:BoxC (w5.alloc (zQ3)).drew N (.slice none 0 0) (.slice none 0 0) (.slice none 0 0) (.slice none 0 0):=by rw [hNN];exact bN
   have fN:∀ j,(w5.alloc (zQ3)).drew.frozen? ⟨N,j,none⟩=false:=by rw [hNN];exact fN
   have zN:N<(w5.alloc (zQ3)).drew.heap.size:=by rw [hNN];exact zN
   rw [<- hNN]
   clear hNN
   generalize (w5.alloc (zQ3)).drew=wC at *
   refine qaf rfl 22 _ _ rfl #[x.v,.slice (some (aQ gf 0)) x.hn fc] (by simp [Act.eval,SysIn.v,sysV]) (yA Tryz.func22 (by kernel_rfl) rfl) (HC2.out wC _ fc (hBW _ qa0) (F4.out.1.below qa0)) ?_
   rintro e w6 ⟨u6,rfl,o6,d6⟩
   obtain ⟨e6,c6,rfl,s6⟩:=o6.form
   refine ⟨_,rfl,?_⟩
   have q6:Bw w5 w6:=qa0.trans (d6.mono qa0.size)
   refine hK.out _ _ (fun _=>hB5 _ q6) ?_
   clear hK K
   (try simp only [Act.put,zD,zE,zF])
   refine qaa 4 rfl (by kernel_rfl) (fun K hK=>?_)
   have qa:=q6
   have sA:=s6
   have fN:∀ j,w6.frozen? ⟨N,j,none⟩=false:=fun j=>((qah d6).2 _ j zN).trans (fN j)
   have bN:=bN.below d6
   have zN:N<w6.heap.size:=zL zN d6.size
   refine qaf rfl 35 _ _ rfl #[x.v,.slice e6 E.length c6] (by simp [Act.eval,SysIn.v,sysV]) (yA Tryz.func35 (by kernel_rfl) rfl) (HA2.out w6 _ c6 (hBW _ qa) sA) ?_
   rintro e w7 ⟨v7,rfl,o7,d7⟩
   obtain ⟨cq,vp,vs,vw,vh,up,us,uw,uh,rfl,o7⟩:=o7
   obtain ⟨pa,pc,rfl⟩:=zU o7.p.row
   obtain ⟨sa,sc,rfl⟩:=zU o7.s.row
   obtain ⟨wa,wc,rfl⟩:=zU o7.t.row
   obtain ⟨ha,hc,rfl⟩:=zU o7.h.row
   have O7:qae zb w7 (w6).heap.size YW (.agg #[.slice pa YW.pn pc,.slice sa YW.sn sc,.slice wa YW.wn wc,.slice ha YW.hn hc]):=⟨_,_,_,_,_,_,_,_,_,rfl,o7⟩
   refine ⟨_,rfl,?_⟩
   have q7:Bw w5 w7:=qa.trans (d7.mono qa.size)
   refine hK.out _ _ (fun _=>hB5 _ q7) ?_
   clear hK K o7
   have hHeld:(fun w':World=>x.bX w' w.heap.size) w7:=hB5 _ q7
   (try simp only [Act.put,zD,zE,zF])
   refine wpGT_of [5,6,7] ?_
   iterate 3 (refine wpGT_take rfl hHeld ?_;apply Exists.intro;refine ⟨fun wq hSw=>?_,?_⟩;(· ((try dsimp only at hSw);go_simp;try with_reducible rfl));(try simp only [Act.put,zD,zE,zF]))
   refine wpGT_nil ?_
   obtain ⟨n0,n1,n2,n3⟩:=bN.below d7
   have nf:∀ j,w7.frozen? ⟨N,j,none⟩=false:=fun j=>((qah d7).2 _ j zN).trans (fN j)
   refine qaa 9 rfl (by kernel_rfl) (fun K hK=>?_)
   go_simp
   have qb:Bw w5 ((((w7.setCell (aQ N 0) (.slice pa YW.pn pc)).setCell (aQ N 1) (.slice sa YW.sn sc)).setCell (aQ N 2) (.slice wa YW.wn wc)).setCell (aQ N 3) (.slice ha YW.hn hc)):=(((q7.setCell sN6 _).setCell sN6 _).setCell sN6 _).setCell sN6 _
   refine hK.out _ _ (fun _=>hB5 _ qb) ?_
   clear hK K hHeld
   have hHeld:(fun w':World=>x.bX w' w.heap.size) ((((w7.setCell (aQ N 0) (.slice pa YW.pn pc)).setCell (aQ N 1) (.slice sa YW.sn sc)).setCell (aQ N 2) (.slice wa YW.wn wc)).setCell (aQ N 3) (.slice ha YW.hn hc)):=hB5 _ qb
   (try simp only [Act.put,zD,zE,zF])
   refine qab 10 rfl hHeld ?_
   apply Exists.intro
   refine ⟨fun wq hSw=>?_,?_⟩
   ·(try dsimp only at hSw)
    go_simp
    try with_reducible rfl
   (try simp only [Act.put,zD,zE,zF])
   refine qar (by kernel_rfl) ?_ _
   go_wp2_with fail
   go_meet
   case rel=>exact ⟨N,by with_reducible rfl,by with_reducible rfl,_,_,_,_,_,_,_,_,((((O7.setBelow zN 0 _).setBelow zN 1 _).setBelow zN 2 _).setBelow zN 3 _).base (zP sz qa.size),F4.out.2.trans (qb.mono sz),BoxC.set4 ⟨n0,n1,n2,n3⟩ _ _ _ _⟩
 case rest=>
  obtain ⟨N,rfl,rfl,HT⟩:=hcut
  obtain ⟨pa,pc,sa,sc,wa,wc,ha,hc,hOw,hBe,hBx⟩:=HT.out
  rename_i w7
  have F7:Hid (qae zb w7 w1.heap.size YW (.agg #[.slice pa YW.pn pc,.slice sa YW.sn sc,.slice wa YW.wn wc,.slice ha YW.hn hc])/\Bw w1 w7/\BoxC w7 N (.slice pa YW.pn pc) (.slice sa YW.sn sc) (.slice wa YW.wn wc) (.slice ha YW.hn hc)):=⟨hOw,hBe,hBx⟩
  clear hOw hBe hBx HT b0 b1 b2 b3
  cases wf with
  | false=>
   have HV:Hid (bkC x.y (P:Int) k=3/\bkY x.y (P:Int) k=x.y):=⟨by rw [HBC.out.1];rfl,by rw [HBC.out.2];rfl⟩
   obtain ⟨⟨b0,b1,b2,b3⟩,-,-,-⟩:=HRB.out w7 F7.out.2.1
   go_wp2_with fail
   refine (HC4.out w7 (B1.out.1.trans (F7.out.2.1.mono B1.out.1.size))).mono ?_
   rintro e w3 ⟨v3,rfl,o3,q3⟩
   obtain ⟨cq,vp,vs,vw,vh,up,us,uw,uh,rfl,o3⟩:=o3
   obtain ⟨pa,pc,rfl⟩:=zU o3.p.row
   obtain ⟨sa,sc,rfl⟩:=zU o3.s.row
   obtain ⟨wa,wc,rfl⟩:=zU o3.t.row
   obtain ⟨ha,hc,rfl⟩:=zU o3.h.row
   have F3:Hid (qae zb w3 w7.heap.size x.y (.agg #[.slice pa x.y.pn pc,.slice sa x.y.sn sc,.slice wa x.y.wn wc,.slice ha x.y.hn hc])/\Bw w7 w3):=⟨⟨_,_,_,_,_,_,_,_,_,rfl,o3⟩,q3⟩
   obtain ⟨-,⟨r0,r1,r2,r3⟩,rf,l1⟩:=HRB.out w3 ((F7.out.2.1).trans (q3.mono (F7.out.2.1).size))
   clear o3 q3
   go_wp2
   exact bodyPost_ret (v := .tuple #[.agg #[.slice pa x.y.pn pc, .slice sa x.y.sn sc, .slice wa x.y.wn wc, .slice ha x.y.hn hc], .int .i64 3]) (by simp [results, Tryz.results10, go_sem, r0, r1, r2, r3]) rfl ⟨_, by rw [HV.out.1], by
    rw [HV.out.2]
    exact ((((F3.out.1.setBelow (zL LR.out F7.out.2.1.size) 0 _).setBelow (zL LR.out F7.out.2.1.size) 1 _).setBelow (zL LR.out F7.out.2.1.size) 2 _).setBelow (zL LR.out F7.out.2.1.size) 3 _).base (B1.out.1.trans (F7.out.2.1.mono B1.out.1.size)).size,((((((B1.out.1.trans (F7.out.2.1.mono B1.out.1.size))).trans (F3.out.2.mono (B1.out.1.trans (F7.out.2.1.mono B1.out.1.size)).size)).setCell hM _).setCell hM _).setCell hM _).setCell hM _⟩
  | true=>
   have HV:Hid (bkC x.y (P:Int) k=0/\bkY x.y (P:Int) k=YA/\YW=YA):=⟨by rw [HBC.out.1];rfl,by rw [HBC.out.2];rfl,HYW.out⟩
   obtain ⟨-,⟨r0,r1,r2,r3⟩,rf,l7⟩:=HRB.out w7 F7.out.2.1
   obtain ⟨n0,n1,n2,n3⟩:=F7.out.2.2
   have lN:N<w7.heap.size:=zJ _ _ n0
   go_wp2
   exact bodyPost_ret (v := .tuple #[.agg #[.slice pa YW.pn pc, .slice sa YW.sn sc, .slice wa YW.wn wc, .slice ha YW.hn hc], .int .i64 0]) (by simp [results, Tryz.results10, go_sem, r0, r1, r2, r3]) rfl ⟨_, by rw [HV.out.1], by
    rw [HV.out.2.1,<- HV.out.2.2]
    exact ((((F7.out.1.setBelow l1 0 _).setBelow l1 1 _).setBelow l1 2 _).setBelow l1 3 _).base B1.out.1.size,(((((B1.out.1.trans (F7.out.2.1.mono B1.out.1.size))).setCell hM _).setCell hM _).setCell hM _).setCell hM _⟩
theorem qpk (x:SysIn) (w:World) (hG:SysG w x) (hL:x.Len):
  Calls Tryz.prog 48 #[x.v] w fun e w'=>∃ u,e=.returned u/\OwnI w' w.heap.size u (flT x.y x.hn)/\Bw w w':=by
 have HG:Hid (SysG w x):=hG
 have hl':(x.hn:Int)<=1048576:=by have:=hL.h.1;omega
 have HLh:Hid (∀ i,i<x.hn->x.hL i<=1048576):=hL.h.2
 have BW:Hid (Bw w ((w.alloc (x.oX)).alloc (.cells #[] 3))):=(zT _ _).trans ((zT _ _).mono (by simp))
 have NB:Hid (x.bX ((w.alloc (x.oX)).alloc (.cells #[] 3)) w.heap.size):=(BoxC.new w _ _ _ _ _).below (zT _ _)
 have NO:Hid (OwnI ((w.alloc (x.oX)).alloc (.cells #[] 3)) (w.heap.size+1) (.slice (some ⟨w.heap.size+1,0,none⟩) 0 0) (flT x.y 0)):=qei (w.alloc (x.oX)) (by simp)
 have LT:Hid (w.heap.size+1<=((w.alloc (x.oX)).alloc (.cells #[] 3)).heap.size):=by
  show _<=_
  simp
 clear hG hL
 go_enter Tryz.func48,Tryz.ntmps48
 go_wp2_with fail
 generalize (w.alloc (x.oX)).alloc (.cells #[] 3)=W2 at *
 go_loopw [3,4] (fun o i wr=>∃ k:Nat,k<=x.hn/\i=.int .i64 k/\Hid (OwnI wr (w.heap.size+1) o (flT x.y k)/\Bw w wr/\x.bX wr w.heap.size/\w.heap.size+1<=wr.heap.size)) (fun _ i _=>x.hn - (intOf i).toNat)
 case atStart=>exact ⟨0,Nat.zero_le _,rfl,NO.out,BW.out,NB.out,LT.out⟩
 case round=>
  clear BW NB NO LT
  obtain ⟨k,hk,rfl,HB⟩:=hrel
  by_cases hlt:k<x.hn
  ·have hlt':(k:Int)<(x.hn:Int):=by omega
   obtain ⟨bh,oh,eh,ch⟩:=(HG.out.below HB.out.2.1).h.at hlt
   have b3:=HB.out.2.2.1.2.2.2
   rw [eh] at b3
   clear eh
   have hfl:=qcj x.y k
   have hlk:(x.hL k:Int)<=1048576:=by have:=HLh.out k hlt;omega
   have HF:Hid (flT x.y (k+1)=flT x.y k ++ [(x.hL k:Int)]):=qnw x.y k
   have HFl:Hid ((flT x.y k).length<=1048576):=by show _<=_;omega
   clear hfl
   go_wp2_with (at_builtin;refine qc6 wr rfl _ _ rfl (w.heap.size+1) u3 (flT x.y k) rfl HB.out.1 (x.hL k:Int) rfl HFl.out HB.out.2.2.2 ?_;intro v' w4 o4 b4;have H4:Hid (OwnI w4 (w.heap.size+1) v' (flT x.y (k+1))/\Bw w w4/\x.bX w4 w.heap.size/\w.heap.size+1<=w4.heap.size):=⟨o4.to HF.out,HB.out.2.1.trans (b4.mono (by omega)),HB.out.2.2.1.belowB b4 (by omega),zP HB.out.2.2.2 b4.size⟩;clear o4 b4)
   go_roundw
   case rel=>exact ⟨k+1,by omega,by go_num,H4.out⟩
   case measure=>simp [intOf];omega
  ·have hkl:k=x.hn:=by omega
   have H4:Hid (OwnI wr w.heap.size u3 (flT x.y x.hn)/\Bw w wr):=by
    have:=HB.out
    rw [hkl] at this
    exact ⟨this.1.mono (by omega),this.2.1⟩
   have b3:=HB.out.2.2.1.2.2.2
   clear HB hkl
   go_wp2
   go_ret
   exact ⟨_,rfl,H4.out⟩
