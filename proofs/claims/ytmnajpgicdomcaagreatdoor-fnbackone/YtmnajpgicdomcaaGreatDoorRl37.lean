import Derived.Test.YtmnajpgicdomcaaGreatDoorRl30
import Derived.Test.YtmnajpgicdomcaaGreatDoorRl32
namespace Go.Proofs.YtmnajpgicdomcaaGreatDoor
set_option maxRecDepth 100000
set_option maxHeartbeats 4000000
open Go.RowKit Go.Deep
theorem qwi {y:Sy} (_:y.Ok) {d:Nat->Nat} (h:y.hs.Put d):y.Wh d:=by
 induction h with
 | start=>exact fun a _ b _=>Nat.zero_le _
 | @next d p hput hp hc ih=>
  intro a ha b hb;have h0:=ih a ha b hb;unfold tN sN at *
  have hs : cnt (y.hH a) 2 b (d a) ≤ cnt (y.hH a) 2 b (up d p a) := qfn _ _ _ (by
   by_cases e:a=p
   ·subst e
    rw [qcg];omega
   ·rw [up_other e]
    exact Nat.le_refl _)
  by_cases e:b=p
  ·subst e
   rw [qcg]
   rcases zK (hitB (y.hH b) 3 a (d b)) with t | t
   ·rw [qgf t]
    obtain ⟨t1,t2⟩:=qc8.1 t;have h1:cnt (y.hH b) 3 (y.hH b (d b)).q (d b)<cnt (y.hH (y.hH b (d b)).q.toNat) 2 b (d (y.hH b (d b)).q.toNat):=hc.2 t1;rw [t2,Int.toNat_natCast] at h1;omega
   ·rw [qjh t]
    omega
  ·rw [up_other e]
   omega
theorem Hs.Put.upto {x:Hs} {d:Nat->Nat} (h:x.Put d):∀ p i,i<=d p->∃ d',x.Put d'/\d' p=i:=by
 induction h with
 | start=>
  intro p i hi;have hi:i<=0:=hi;exact ⟨_,.start,(Nat.le_zero.1 hi).symm⟩
 | @next d p0 hput hp0 hc ih=>
  intro p i hi;by_cases e:i<=d p
  ·exact ih p i e
  ·refine ⟨_,.next hput hp0 hc,?_⟩
   by_cases ep:p=p0
   ·subst ep
    rw [qcg] at hi ⊢;omega
   ·rw [up_other ep] at hi
    exact absurd hi e
theorem qpa {y:Sy} {P:Nat} {k:Int} (h:bkC y P k=0):((bkY y P k).hL P:Int)=k:=by
 obtain ⟨hO,hb,-,ht,-,-⟩:=qg5 h;obtain ⟨P',e,hP,k0,k1⟩:=qcv hb;obtain rfl:P=P':=by omega
 have hc:=qcz hO hb;rw [Int.toNat_natCast] at hc;have s:=(qc4 hc).1;obtain ⟨dA,hA,hall⟩:=hO.ro;have h1:dA P=y.hL P:=hall P hP;obtain ⟨d,hd,ed⟩:=hA.upto P k.toNat (by omega);have hle:=hd.le
 have g := s.gr d (fun q hq => by
  rw [qha hO hP k hq];have h2:d q<=y.hL q:=hle q;by_cases eq:q=P
  ·rw [if_pos eq,eq,ed]
   omega
  ·rw [if_neg eq]
   omega) (qwi hO hd) P hP
 have u:=(s.le P hP)
 rw [qha hO hP k hP,if_pos rfl] at u;rw [ed] at g;rw [ht];show (((zi (bkE y P k) P).toNat:Nat):Int)=k
 have e2:zi (bkE y P k) P=zi (clS y (bkL y P k)) P:=by
  unfold bkE;rw [Int.toNat_natCast]
 rw [e2];omega
def boK (y:Sy) (p:Int):Int:=if belB p y.hn=true then (y.hL p.toNat:Int) - 1 else 0
noncomputable def boC (y:Sy) (p:Int):Int:=bkC y p (boK y p)
noncomputable def boY (y:Sy) (p:Int):Sy:=bkY y p (boK y p)
theorem qu4 {y:Sy} {p:Int} (h:belB p y.hn=false):bkC y p (-1)=boC y p/\bkY y p (-1)=boY y p:=by
 have e:boK y p=0:=by
  unfold boK;rw [if_neg (by rw [h];simp)]
 unfold boC boY;rw [e];by_cases ho:y.okB=true
 ·have hn:=(Sy.ok_of ho).cn.2.2.1
  have hi:∀ k,bkIn y p k=false:=fun k=>by
   unfold bkIn;rw [<- hn,h];rfl
  unfold bkC bkY;rw [if_pos ho,if_pos ho,if_pos ho,if_pos ho,if_neg (by rw [hi];simp),if_neg (by rw [hi];simp),if_neg (by rw [hi];simp),if_neg (by rw [hi];simp)];exact ⟨rfl,rfl⟩
 ·unfold bkC bkY
  rw [if_neg ho,if_neg ho,if_neg ho,if_neg ho];exact ⟨rfl,rfl⟩
theorem qqk {y:Sy} {P:Nat} (h:P<y.hn):boK y (P:Int)=(y.hL P:Int) - 1:=by
 unfold boK;rw [if_pos (by simp [belB];omega),Int.toNat_natCast]
open Go.ChangeShapes Go.WideShapes Go.ChangeAt
theorem qh2 {zb:Bool} (x:SysIn) (p:Int) (w:World) (hG:SysG w x) (hL:x.Len) (hcap:∀ i,i<x.hn->x.hL i<=x.hC i) (hN:x.Nn zb) (hV:w.cell? ⟨0,0,none⟩=some (.iface 181 (.agg #[.pointer (some ⟨1,126,none⟩)]))):
  Calls Tryz.prog 13 #[x.v,.int .i64 p] w fun e w'=>∃ v,e=.returned (.tuple #[v,.int .i64 (boC x.y p)])/\qac zb w' w.heap.size (boY x.y p) v/\Below w.heap.size w w':=by
 have HG:Hid (SysG w x):=hG;have hhn:(x.hn:Int)<=1048576:=by have:=hL.h.1;omega
 have HHL:Hid (∀ i,i<x.hn->x.hL i<=1048576):=hL.h.2;have HBk:Hid (∀ k wx,Below w.heap.size w wx->Calls Tryz.prog 11 #[x.v,.int .i64 p,.int .i64 k] wx fun e w'=>∃ v,e=.returned (.tuple #[v,.int .i64 (bkC x.y p k)])/\qac zb w' wx.heap.size (bkY x.y p k) v/\Below wx.heap.size wx w'):=fun k wx hb=>qbr x p k wx (hG.below hb) hL hcap hN ((hb.cell (p:=⟨0,0,none⟩) (zJ w _ hV)).trans hV);have BW:Hid (Below w.heap.size w ((w.alloc (oQ4 x.pa x.pn x.pc x.sa x.sn x.sc x.wa x.wn x.wc x.ha x.hn x.hc)).alloc (zQ3))):=(zQ _ _).trans ((zQ _ _).mono (by simp));have NB:Hid (BoxC ((w.alloc (oQ4 x.pa x.pn x.pc x.sa x.sn x.sc x.wa x.wn x.wc x.ha x.hn x.hc)).alloc (zQ3)) w.heap.size (.slice x.pa x.pn x.pc) (.slice x.sa x.sn x.sc) (.slice x.wa x.wn x.wc) (.slice x.ha x.hn x.hc)):=(BoxC.new w _ _ _ _ _).below (zQ _ _);have RB:Hid (BoxC ((w.alloc (oQ4 x.pa x.pn x.pc x.sa x.sn x.sc x.wa x.wn x.wc x.ha x.hn x.hc)).alloc (zQ3)) (w.heap.size+1) (.slice none 0 0) (.slice none 0 0) (.slice none 0 0) (.slice none 0 0)/\∀ j,((w.alloc (oQ4 x.pa x.pn x.pc x.sa x.sn x.sc x.wa x.wn x.wc x.ha x.hn x.hc)).alloc (zQ3)).frozen? ⟨w.heap.size+1,j,none⟩=false):=⟨⟨zW _ _ _ 0 (by simp),zW _ _ _ 1 (by simp),zW _ _ _ 2 (by simp),zW _ _ _ 3 (by simp)⟩,fun j=>yD _ _ _ _ (by simp)⟩
 have hM:w.heap.size<=w.heap.size+1:=Nat.le_succ _;clear hG hL hcap hN hV
 go_enter Tryz.func13,Tryz.ntmps13
 go_upto_region 1 with fail
 generalize (w.alloc (oQ4 x.pa x.pn x.pc x.sa x.sn x.sc x.wa x.wn x.wc x.ha x.hn x.hc)).alloc (zQ3)=W2 at *;have LR:Hid (w.heap.size+1<W2.heap.size):=zJ _ _ RB.1.1;have l1:=LR.out;obtain ⟨b0,b1,b2,b3⟩:=NB.out;by_cases hb:belB p x.hn=true
 case neg=>
  have hbf:belB p x.hn=false:=by
   cases h:belB p x.hn with
   | false=>rfl
   | true=>exact absurd h hb
  obtain ⟨C,hC⟩:∃ C,bkC x.y p 0=C:=⟨_,rfl⟩
  obtain ⟨Y,hY⟩:∃ Y,bkY x.y p 0=Y:=⟨_,rfl⟩
  have HV:Hid (boC x.y p=C/\boY x.y p=Y):=by
   have e:boK x.y p=0:=if_neg (by rw [show belB p x.y.hn=false from hbf];simp);unfold boC boY;rw [e];exact ⟨hC,hY⟩
  have HB2:=HBk.out 0 W2 BW.out;rw [hC,hY] at HB2;have HB3:Hid (Calls Tryz.prog 11 #[x.v,.int .i64 p,.int .i64 0] W2 fun e w'=>∃ v,e=.returned (.tuple #[v,.int .i64 C])/\qac zb w' W2.heap.size Y v/\Below W2.heap.size W2 w'):=HB2;clear HB2 hC hY HBk;go_wp2_with fail
  refine (isBelow_any _ _ _).mono ?_;rintro e w' ⟨rfl,hw⟩;have hw2:=hw.symm;subst hw2;clear hw;rw [hbf];clear hb hbf;go_wp2_with fail
  refine HB3.out.mono ?_;rintro e w3 ⟨v3,rfl,o3,q3⟩;obtain ⟨cq,vp,vs,vw,vh,up,us,uw,uh,rfl,o3⟩:=o3;obtain ⟨pa,pc,rfl⟩:=zU o3.p.row;obtain ⟨sa,sc,rfl⟩:=zU o3.s.row;obtain ⟨wa,wc,rfl⟩:=zU o3.t.row;obtain ⟨ha,hc,rfl⟩:=zU o3.h.row;have F3:Hid (qac zb w3 W2.heap.size Y (.agg #[.slice pa Y.pn pc,.slice sa Y.sn sc,.slice wa Y.wn wc,.slice ha Y.hn hc])/\Below W2.heap.size W2 w3):=⟨⟨_,_,_,_,_,_,_,_,_,rfl,o3⟩,q3⟩
  obtain ⟨r0,r1,r2,r3⟩:=RB.1.below q3;have rf:∀ j,w3.frozen? ⟨w.heap.size+1,j,none⟩=false:=fun j=>((qag q3).2 _ j l1).trans (RB.2 j);have l3:w.heap.size+1<w3.heap.size:=zL l1 q3.size;clear o3 q3 b0 b1 b2 b3;go_wp2
  exact bodyPost_ret (v := .tuple #[.agg #[.slice pa Y.pn pc, .slice sa Y.sn sc, .slice wa Y.wn wc, .slice ha Y.hn hc], .int .i64 C]) (by simp [results, Tryz.results13, go_sem, r0, r1, r2, r3]) rfl ⟨_, by rw [HV.1], by
   rw [HV.2]
   exact ((((F3.1.setBelow l1 0 _).setBelow l1 1 _).setBelow l1 2 _).setBelow l1 3 _).base BW.out.size,(((((BW.out.trans (F3.2.mono BW.out.size))).setCell hM _).setCell hM _).setCell hM _).setCell hM _⟩
 obtain ⟨P,rfl,hP⟩:∃ P:Nat,p=P/\P<x.hn:=by
  simp only [belB,decide_eq_true_eq] at hb;exact ⟨p.toNat,by omega,by omega⟩
 have hP':(P:Int)<(x.hn:Int):=by omega
 have nP:¬ (x.hn:Int)<=(P:Int):=by omega
 have hl1:x.hL P<=1048576:=HHL.out P hP;obtain ⟨kk,hkk⟩:∃ kk:Int,(x.hL P:Int) - 1=kk:=⟨_,rfl⟩
 have hkb:-1<=kk/\kk<=1048576:=by omega
 obtain ⟨C,hC⟩:∃ C,bkC x.y (P:Int) kk=C:=⟨_,rfl⟩
 obtain ⟨Y,hY⟩:∃ Y,bkY x.y (P:Int) kk=Y:=⟨_,rfl⟩
 have HV:Hid (boC x.y (P:Int)=C/\boY x.y (P:Int)=Y):=by
  have e:boK x.y (P:Int)=kk:=(qqk (y:=x.y) hP).trans hkk;unfold boC boY;rw [e];exact ⟨hC,hY⟩
 have HB3:Hid (∀ wx,Below w.heap.size w wx->Calls Tryz.prog 11 #[x.v,.int .i64 (P:Int),.int .i64 kk] wx fun e w'=>∃ v,e=.returned (.tuple #[v,.int .i64 C])/\qac zb w' wx.heap.size Y v/\Below wx.heap.size wx w'):=fun wx hb=>by
  have h:=HBk.out kk wx hb;rw [hC,hY] at h;exact h
 clear hC hY HBk;obtain ⟨bh,oh,eh,ch0⟩:=HG.out.h.at hP;have HEH:Hid (x.ha=some ⟨bh,oh,none⟩):=eh;clear eh;have lbh:bh<w.heap.size:=zJ _ _ ch0;have ch:=(BW.out.cell (p:=⟨bh,oh+P,none⟩) lbh).trans ch0;go_wp2_with fail
 refine (isBelow_any _ _ _).mono ?_;rintro e w' ⟨rfl,hw⟩;have hw2:=hw.symm;subst hw2;clear hw;rw [hb];clear hb;go_upto_region 3 with fail
 have q0:Below W2.heap.size W2 W2.drew:=(Below.refl W2.heap.size W2).drew;have HST:∀ wx,Below (w.heap.size+1) W2 wx->BoxC wx w.heap.size (.slice x.pa x.pn x.pc) (.slice x.sa x.sn x.sc) (.slice x.wa x.wn x.wc) (.slice x.ha x.hn x.hc)/\wx.cell? ⟨bh,oh+P,none⟩=some (.slice (x.hA P) (x.hL P) (x.hC P)):=fun wx hb=>⟨NB.out.belowB hb (Nat.lt_succ_self _),(hb.cell (p:=⟨bh,oh+P,none⟩) (Nat.lt_succ_of_lt lbh)).trans ch⟩
 refine qaj (fun w'=>BoxC w' w.heap.size (.slice x.pa x.pn x.pc) (.slice x.sa x.sn x.sc) (.slice x.wa x.wn x.wc) (.slice x.ha x.hn x.hc)/\w'.cell? ⟨bh,oh+P,none⟩=some (.slice (x.hA P) (x.hL P) (x.hC P))) (fun i=>i == 12) (by kernel_rfl) ?_;have hHeld:(fun w':World=>BoxC w' w.heap.size (.slice x.pa x.pn x.pc) (.slice x.sa x.sn x.sc) (.slice x.wa x.wn x.wc) (.slice x.ha x.hn x.hc)/\w'.cell? ⟨bh,oh+P,none⟩=some (.slice (x.hA P) (x.hL P) (x.hC P))) W2.drew:=HST _ (q0.mono (Nat.le_of_lt l1));refine qax [0,1,2] ?_;iterate 3 (refine qa8 rfl hHeld ?_)
 refine qao ?_;refine qch 3 rfl hHeld ?_;apply Exists.intro;refine ⟨fun wq hSw=>?_,?_⟩
 ·obtain ⟨⟨h0,h1,h2,h3⟩,h4⟩:=hSw
  rw [HEH.out] at h3;go_simp;try with_reducible rfl
 (try simp only [Act.put,zD,zE,zF])
 refine qax [4,5,6,7] ?_;iterate 4 (refine qa8 rfl hHeld ?_)
 refine qao ?_;refine qch 8 rfl hHeld ⟨.int .i64 kk,fun wq _=>?_,?_⟩
 ·go_simp
  try (rw [IntKind.wrap_i64];omega)
 (try simp only [Act.put,zD,zE,zF])
 refine qaa 9 rfl (by kernel_rfl) (fun K hK=>?_);refine qae rfl 11 _ _ rfl #[x.v,.int .i64 (P:Int),.int .i64 kk] (by simp [Act.eval,SysIn.v,sysV]) (yB Tryz.func11 (by kernel_rfl) rfl) (HB3.out W2.drew (BW.out.trans (q0.mono BW.out.size))) ?_;rintro e w3 ⟨v3,rfl,o3,d3⟩;have q3:Below W2.heap.size W2 w3:=q0.trans (d3.mono q0.size);obtain ⟨cq,vp,vs,vw,vh,up,us,uw,uh,rfl,o3⟩:=o3;obtain ⟨pa,pc,rfl⟩:=zU o3.p.row;obtain ⟨sa,sc,rfl⟩:=zU o3.s.row;obtain ⟨wa,wc,rfl⟩:=zU o3.t.row;obtain ⟨ha,hc,rfl⟩:=zU o3.h.row;refine ⟨_,rfl,?_⟩;refine hK.out _ _ (fun _=>HST _ (q3.mono (Nat.le_of_lt l1))) ?_;clear hHeld hK K;have hHeld:(fun w':World=>BoxC w' w.heap.size (.slice x.pa x.pn x.pc) (.slice x.sa x.sn x.sc) (.slice x.wa x.wn x.wc) (.slice x.ha x.hn x.hc)/\w'.cell? ⟨bh,oh+P,none⟩=some (.slice (x.hA P) (x.hL P) (x.hC P))) w3:=HST _ (q3.mono (Nat.le_of_lt l1))
 (try simp only [Act.put,zD,zE,zF])
 refine qbl 10 rfl hHeld ?_;refine qbl 11 rfl hHeld ?_;have F3:Hid (qac zb w3 W2.drew.heap.size Y (.agg #[.slice pa Y.pn pc,.slice sa Y.sn sc,.slice wa Y.wn wc,.slice ha Y.hn hc])/\Below W2.heap.size W2 w3):=⟨⟨_,_,_,_,_,_,_,_,_,rfl,o3⟩,q3⟩
 obtain ⟨r0,r1,r2,r3⟩:=RB.1.below q3;have rf:∀ j,w3.frozen? ⟨w.heap.size+1,j,none⟩=false:=fun j=>((qag q3).2 _ j l1).trans (RB.2 j);have l3:w.heap.size+1<w3.heap.size:=zL l1 q3.size;refine qaa 12 rfl (by kernel_rfl) (fun K hK=>?_);go_simp;refine hK.out _ _ (fun h=>?_) ?_
 ·exact absurd h (by decide)
 clear hK K hHeld
 (try simp only [Act.put,zD,zE,zF])
 refine qaa 13 rfl (by kernel_rfl) (fun K hK=>?_);go_simp;refine hK.out _ _ (fun _=>?_) ?_
 ·exact HST _ (((((q3.mono (Nat.le_of_lt l1)).setCell (Nat.le_refl _) _).setCell (Nat.le_refl _) _).setCell (Nat.le_refl _) _).setCell (Nat.le_refl _) _)
 clear hK K o3 d3 q3 HST
 (try simp only [Act.put,zD,zE,zF])
 refine qar (by kernel_rfl) ?_ _;go_wp2
 exact bodyPost_ret (v := .tuple #[.agg #[.slice pa Y.pn pc, .slice sa Y.sn sc, .slice wa Y.wn wc, .slice ha Y.hn hc], .int .i64 C]) (by simp [results, Tryz.results13, go_sem, r0, r1, r2, r3]) rfl ⟨_, by rw [HV.1], by
  rw [HV.2]
  exact ((((F3.1.setBelow (show w.heap.size+1<W2.drew.heap.size from l1) 0 _).setBelow (show w.heap.size+1<W2.drew.heap.size from l1) 1 _).setBelow (show w.heap.size+1<W2.drew.heap.size from l1) 2 _).setBelow (show w.heap.size+1<W2.drew.heap.size from l1) 3 _).base BW.out.size,(((((BW.out.trans (F3.2.mono BW.out.size))).setCell hM _).setCell hM _).setCell hM _).setCell hM _⟩
theorem qig (x:SysIn) (p:Int) (w:World) (hG:SysG w x) (hL:x.Len) (hcap:∀ i,i<x.hn->x.hL i<=x.hC i):
  Calls Tryz.prog 14 #[x.v,.int .i64 p] w fun e w'=>∃ v,e=.returned (.tuple #[v,.int .i64 (boC x.y p)])/\qac false w' w.heap.size (boY x.y p) v/\Below w.heap.size w w':=by
 have HG:Hid (SysG w x):=hG;have hhn:(x.hn:Int)<=1048576:=by have:=hL.h.1;omega
 have HHL:Hid (∀ i,i<x.hn->x.hL i<=1048576):=hL.h.2;have HBk:Hid (∀ k wx,Below w.heap.size w wx->Calls Tryz.prog 19 #[x.v,.int .i64 p,.int .i64 k] wx fun e w'=>∃ v,e=.returned (.tuple #[v,.int .i64 (bkC x.y p k)])/\qac false w' wx.heap.size (bkY x.y p k) v/\Below wx.heap.size wx w'):=fun k wx hb=>qel x p k wx (hG.below hb) hL hcap;have BW:Hid (Below w.heap.size w ((w.alloc (oQ4 x.pa x.pn x.pc x.sa x.sn x.sc x.wa x.wn x.wc x.ha x.hn x.hc)).alloc (zQ3))):=(zQ _ _).trans ((zQ _ _).mono (by simp));have NB:Hid (BoxC ((w.alloc (oQ4 x.pa x.pn x.pc x.sa x.sn x.sc x.wa x.wn x.wc x.ha x.hn x.hc)).alloc (zQ3)) w.heap.size (.slice x.pa x.pn x.pc) (.slice x.sa x.sn x.sc) (.slice x.wa x.wn x.wc) (.slice x.ha x.hn x.hc)):=(BoxC.new w _ _ _ _ _).below (zQ _ _);have RB:Hid (BoxC ((w.alloc (oQ4 x.pa x.pn x.pc x.sa x.sn x.sc x.wa x.wn x.wc x.ha x.hn x.hc)).alloc (zQ3)) (w.heap.size+1) (.slice none 0 0) (.slice none 0 0) (.slice none 0 0) (.slice none 0 0)/\∀ j,((w.alloc (oQ4 x.pa x.pn x.pc x.sa x.sn x.sc x.wa x.wn x.wc x.ha x.hn x.hc)).alloc (zQ3)).frozen? ⟨w.heap.size+1,j,none⟩=false):=⟨⟨zW _ _ _ 0 (by simp),zW _ _ _ 1 (by simp),zW _ _ _ 2 (by simp),zW _ _ _ 3 (by simp)⟩,fun j=>yD _ _ _ _ (by simp)⟩
 have hM:w.heap.size<=w.heap.size+1:=Nat.le_succ _;clear hG hL hcap
 go_enter Tryz.func14,Tryz.ntmps14
 go_upto_region 1 with fail
 generalize (w.alloc (oQ4 x.pa x.pn x.pc x.sa x.sn x.sc x.wa x.wn x.wc x.ha x.hn x.hc)).alloc (zQ3)=W2 at *;have LR:Hid (w.heap.size+1<W2.heap.size):=zJ _ _ RB.1.1;have l1:=LR.out;obtain ⟨b0,b1,b2,b3⟩:=NB.out
 obtain ⟨kk,C,Y,HV,HB3,hcase⟩:∃ (kk C:Int) (Y:Sy),Hid (boC x.y p=C/\boY x.y p=Y)/\Hid (∀ wx,Below w.heap.size w wx->Calls Tryz.prog 19 #[x.v,.int .i64 p,.int .i64 kk] wx fun e w'=>∃ v,e=.returned (.tuple #[v,.int .i64 C])/\qac false w' wx.heap.size Y v/\Below wx.heap.size wx w')/\((inB p 0 ((x.hn:Int) - 1)=false/\kk = -1)\/∃ P:Nat,p=P/\P<x.hn/\inB p 0 ((x.hn:Int) - 1)=true/\kk=(x.hL P:Int) - 1):=by
  by_cases hb:belB p x.hn=true
  ·obtain ⟨P,rfl,hP⟩:∃ P:Nat,p=P/\P<x.hn:=by
    simp only [belB,decide_eq_true_eq] at hb;exact ⟨p.toNat,by omega,by omega⟩
   have e:boK x.y (P:Int)=(x.hL P:Int) - 1:=qqk (y:=x.y) hP;refine ⟨(x.hL P:Int) - 1,_,_,⟨rfl,rfl⟩,fun wx hbx=>?_,.inr ⟨P,rfl,hP,?_,rfl⟩⟩
   ·have h:=HBk.out ((x.hL P:Int) - 1) wx hbx
    unfold boC boY;rw [e];exact h
   ·simp only [inB,decide_eq_true_eq]
    omega
  ·have hbf:belB p x.hn=false:=by
    cases h:belB p x.hn with
    | false=>rfl
    | true=>exact absurd h hb
   have e:=qu4 (y:=x.y) (p:=p) hbf;refine ⟨-1,_,_,⟨rfl,rfl⟩,fun wx hbx=>?_,.inl ⟨?_,rfl⟩⟩
   ·have h:=HBk.out (-1) wx hbx
    rw [e.1,e.2] at h;exact h
   ·simp only [belB,inB,decide_eq_false_iff_not] at hbf ⊢
    omega
 clear HBk
 rcases hcase with ⟨hin,rfl⟩ | ⟨P,rfl,hP,hin,hkk⟩
 ·go_wp2_with fail
  refine (l1In_any _ _ _ _).mono ?_;rintro e w' ⟨rfl,hw⟩;have hw2:=hw.symm;subst hw2;clear hw;rw [hin];clear hin;go_wp2_with fail
  refine (HB3.out W2 BW.out).mono ?_;rintro e w3 ⟨v3,rfl,o3,q3⟩;obtain ⟨cq,vp,vs,vw,vh,up,us,uw,uh,rfl,o3⟩:=o3;obtain ⟨pa,pc,rfl⟩:=zU o3.p.row;obtain ⟨sa,sc,rfl⟩:=zU o3.s.row;obtain ⟨wa,wc,rfl⟩:=zU o3.t.row;obtain ⟨ha,hc,rfl⟩:=zU o3.h.row;have F3:Hid (qac false w3 W2.heap.size Y (.agg #[.slice pa Y.pn pc,.slice sa Y.sn sc,.slice wa Y.wn wc,.slice ha Y.hn hc])/\Below W2.heap.size W2 w3):=⟨⟨_,_,_,_,_,_,_,_,_,rfl,o3⟩,q3⟩
  obtain ⟨r0,r1,r2,r3⟩:=RB.1.below q3;have rf:∀ j,w3.frozen? ⟨w.heap.size+1,j,none⟩=false:=fun j=>((qag q3).2 _ j l1).trans (RB.2 j);have l3:w.heap.size+1<w3.heap.size:=zL l1 q3.size;have G3:Hid (qac false (w3.alloc (oQ4 pa Y.pn pc sa Y.sn sc wa Y.wn wc ha Y.hn hc)) W2.heap.size Y (.agg #[.slice pa Y.pn pc,.slice sa Y.sn sc,.slice wa Y.wn wc,.slice ha Y.hn hc])/\Below W2.heap.size W2 (w3.alloc (oQ4 pa Y.pn pc sa Y.sn sc wa Y.wn wc ha Y.hn hc))/\BoxC (w3.alloc (oQ4 pa Y.pn pc sa Y.sn sc wa Y.wn wc ha Y.hn hc)) w3.heap.size (.slice pa Y.pn pc) (.slice sa Y.sn sc) (.slice wa Y.wn wc) (.slice ha Y.hn hc)):=⟨F3.1.below (zQ _ _),F3.2.trans ((zQ _ _).mono F3.2.size),BoxC.new w3 _ _ _ _ _⟩
  go_upto_region 5 with fail
  clear o3 q3 b0 b1 b2 b3 r0 r1 r2 r3 rf l3 F3;generalize w3.alloc (oQ4 pa Y.pn pc sa Y.sn sc wa Y.wn wc ha Y.hn hc)=w4 at *;generalize w3.heap.size=N4 at *;clear w3;obtain ⟨r0,r1,r2,r3⟩:=RB.1.below G3.2.1;have rf:∀ j,w4.frozen? ⟨w.heap.size+1,j,none⟩=false:=fun j=>((qag G3.2.1).2 _ j l1).trans (RB.2 j);obtain ⟨n0,n1,n2,n3⟩:=G3.2.2;have l4:w.heap.size+1<w4.heap.size:=zL l1 G3.2.1.size;go_wp2
  exact bodyPost_ret (v := .tuple #[.agg #[.slice pa Y.pn pc, .slice sa Y.sn sc, .slice wa Y.wn wc, .slice ha Y.hn hc], .int .i64 C]) (by simp [results, Tryz.results14, go_sem, r0, r1, r2, r3]) rfl ⟨_, by rw [HV.1], by
   rw [HV.2]
   exact ((((G3.1.setBelow l1 0 _).setBelow l1 1 _).setBelow l1 2 _).setBelow l1 3 _).base BW.out.size,(((((BW.out.trans (G3.2.1.mono BW.out.size))).setCell hM _).setCell hM _).setCell hM _).setCell hM _⟩
 ·have hP':(P:Int)<(x.hn:Int):=by omega
  have nP:¬ (x.hn:Int)<=(P:Int):=by omega
  have hl1:x.hL P<=1048576:=HHL.out P hP;have hkk':(x.hL P:Int) - 1=kk:=hkk.symm;have hkb:-1<=kk/\kk<=1048576:=by omega
  obtain ⟨bh,oh,eh,ch⟩:=(HG.out.below BW.out).h.at hP;go_wp2_with fail
  refine (l1In_any _ _ _ _).mono ?_;rintro e w' ⟨rfl,hw⟩;have hw2:=hw.symm;subst hw2;clear hw;rw [hin];clear hin;rw [eh] at b3;clear eh;go_upto_region 4 with fail
  clear ch b0 b1 b2 b3 hkk;obtain ⟨b0,b1,b2,b3⟩:=NB.out;go_wp2_with fail
  refine (HB3.out W2 BW.out).mono ?_;rintro e w3 ⟨v3,rfl,o3,q3⟩;obtain ⟨cq,vp,vs,vw,vh,up,us,uw,uh,rfl,o3⟩:=o3;obtain ⟨pa,pc,rfl⟩:=zU o3.p.row;obtain ⟨sa,sc,rfl⟩:=zU o3.s.row;obtain ⟨wa,wc,rfl⟩:=zU o3.t.row;obtain ⟨ha,hc,rfl⟩:=zU o3.h.row;have F3:Hid (qac false w3 W2.heap.size Y (.agg #[.slice pa Y.pn pc,.slice sa Y.sn sc,.slice wa Y.wn wc,.slice ha Y.hn hc])/\Below W2.heap.size W2 w3):=⟨⟨_,_,_,_,_,_,_,_,_,rfl,o3⟩,q3⟩
  obtain ⟨r0,r1,r2,r3⟩:=RB.1.below q3;have rf:∀ j,w3.frozen? ⟨w.heap.size+1,j,none⟩=false:=fun j=>((qag q3).2 _ j l1).trans (RB.2 j);have l3:w.heap.size+1<w3.heap.size:=zL l1 q3.size;have G3:Hid (qac false (w3.alloc (oQ4 pa Y.pn pc sa Y.sn sc wa Y.wn wc ha Y.hn hc)) W2.heap.size Y (.agg #[.slice pa Y.pn pc,.slice sa Y.sn sc,.slice wa Y.wn wc,.slice ha Y.hn hc])/\Below W2.heap.size W2 (w3.alloc (oQ4 pa Y.pn pc sa Y.sn sc wa Y.wn wc ha Y.hn hc))/\BoxC (w3.alloc (oQ4 pa Y.pn pc sa Y.sn sc wa Y.wn wc ha Y.hn hc)) w3.heap.size (.slice pa Y.pn pc) (.slice sa Y.sn sc) (.slice wa Y.wn wc) (.slice ha Y.hn hc)):=⟨F3.1.below (zQ _ _),F3.2.trans ((zQ _ _).mono F3.2.size),BoxC.new w3 _ _ _ _ _⟩
  go_upto_region 5 with fail
  clear o3 q3 b0 b1 b2 b3 r0 r1 r2 r3 rf l3 F3;generalize w3.alloc (oQ4 pa Y.pn pc sa Y.sn sc wa Y.wn wc ha Y.hn hc)=w4 at *;generalize w3.heap.size=N4 at *;clear w3;obtain ⟨r0,r1,r2,r3⟩:=RB.1.below G3.2.1;have rf:∀ j,w4.frozen? ⟨w.heap.size+1,j,none⟩=false:=fun j=>((qag G3.2.1).2 _ j l1).trans (RB.2 j);obtain ⟨n0,n1,n2,n3⟩:=G3.2.2;have l4:w.heap.size+1<w4.heap.size:=zL l1 G3.2.1.size;go_wp2
  exact bodyPost_ret (v := .tuple #[.agg #[.slice pa Y.pn pc, .slice sa Y.sn sc, .slice wa Y.wn wc, .slice ha Y.hn hc], .int .i64 C]) (by simp [results, Tryz.results14, go_sem, r0, r1, r2, r3]) rfl ⟨_, by rw [HV.1], by
   rw [HV.2]
   exact ((((G3.1.setBelow l1 0 _).setBelow l1 1 _).setBelow l1 2 _).setBelow l1 3 _).base BW.out.size,(((((BW.out.trans (G3.2.1.mono BW.out.size))).setCell hM _).setCell hM _).setCell hM _).setCell hM _⟩
