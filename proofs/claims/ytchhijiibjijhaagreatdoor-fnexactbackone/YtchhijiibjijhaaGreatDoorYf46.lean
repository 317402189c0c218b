/- Proved: called with whatever system and number, the program's BackOne answers as the model's BackOne, writes into no argument, and its answer is its own. One condition, tied to the program's text: errors.errorType holds what its text lays. -/
import Derived.Test.YtchhijiibjijhaaGreatDoorYf43
import Derived.Test.YtchhijiibjijhaaGreatDoorYf44
import Derived.Test.YtchhijiibjijhaaGreatDoorCards
import Derived.SevenTiedAt
namespace Go.Proofs.YtchhijiibjijhaaGreatDoor
set_option maxRecDepth 100000
set_option maxHeartbeats 8000000
open Go.RowKit Go.Deep
def boK (y:Sy) (p:Int):Int:=if belB p y.hn=true then (y.hL p.toNat:Int) - 1 else 0
noncomputable def boC (y:Sy) (p:Int):Int:=bkC y p (boK y p)
noncomputable def boY (y:Sy) (p:Int):Sy:=bkY y p (boK y p)
theorem qyn (y:Sy) (p:Int):(boY y p).Sm:=qw7 _ _ _
theorem qxv {y:Sy} {p:Int} (h:belB p y.hn=false):bkC y p (-1)=boC y p/\bkY y p (-1)=boY y p:=by
 have e:boK y p=0:=by
  unfold boK
  rw [if_neg (by rw [h];simp)]
 unfold boC boY
 rw [e]
 by_cases ho:y.okB=true
 ·have hn:=(Sy.ok_of ho).cn.2.2.1
  have hi:∀ k,bkIn y p k=false:=fun k=>by
   unfold bkIn
   rw [<- hn,h]
   rfl
  unfold bkC bkY
  rw [if_pos ho,if_pos ho,if_pos ho,if_pos ho,if_neg (by rw [hi];simp),if_neg (by rw [hi];simp),if_neg (by rw [hi];simp),if_neg (by rw [hi];simp)]
  exact ⟨rfl,rfl⟩
 ·unfold bkC bkY
  rw [if_neg ho,if_neg ho,if_neg ho,if_neg ho]
  exact ⟨rfl,rfl⟩
theorem qw8 {y:Sy} {P:Nat} (h:P<y.hn):boK y (P:Int)=(y.hL P:Int) - 1:=by
 unfold boK
 rw [if_pos (by simp [belB];omega),Int.toNat_natCast]
open Go.ChangeShapes Go.WideShapes Go.ChangeAt
theorem qec {zb:Bool} (x:SysIn) (p:Int) (w:World) (hG:SysG w x) (hL:x.Len) (hcap:∀ i,i<x.hn->x.hL i<=x.hC i) (hN:x.Nn zb) (hV:w.cell? ⟨0,0,none⟩=some (.iface 298 (.agg #[.pointer (some ⟨1,213,none⟩)]))):
  Calls Tryz.prog 28 #[x.v,.int .i64 p] w fun e w'=>∃ v,e=.returned (.tuple #[v,.int .i64 (boC x.y p)])/\qag zb w' w.heap.size (boY x.y p) v/\Below w.heap.size w w':=by
 have HG:Hid (SysG w x):=hG
 have hhn:(x.hn:Int)<=1048576:=by have:=hL.h.1;omega
 have HHL:Hid (∀ i,i<x.hn->x.hL i<=1048576):=hL.h.2
 have HBk:Hid (∀ k wx,Below w.heap.size w wx->Calls Tryz.prog 26 #[x.v,.int .i64 p,.int .i64 k] wx fun e w'=>∃ v,e=.returned (.tuple #[v,.int .i64 (bkC x.y p k)])/\qag zb w' wx.heap.size (bkY x.y p k) v/\Below wx.heap.size wx w'):=fun k wx hb=>qdc x p k wx (hG.below hb) hL hcap hN ((hb.cell (p:=⟨0,0,none⟩) (zJ w _ hV)).trans hV)
 have BW:Hid (Below w.heap.size w ((w.alloc (oQ4 x.pa x.pn x.pc x.sa x.sn x.sc x.wa x.wn x.wc x.ha x.hn x.hc)).alloc (zQ2))):=(zQ _ _).trans ((zQ _ _).mono (by simp))
 have NB:Hid (BoxC ((w.alloc (oQ4 x.pa x.pn x.pc x.sa x.sn x.sc x.wa x.wn x.wc x.ha x.hn x.hc)).alloc (zQ2)) w.heap.size (.slice x.pa x.pn x.pc) (.slice x.sa x.sn x.sc) (.slice x.wa x.wn x.wc) (.slice x.ha x.hn x.hc)):=(BoxC.new w _ _ _ _ _).below (zQ _ _)
 have RB:Hid (BoxC ((w.alloc (oQ4 x.pa x.pn x.pc x.sa x.sn x.sc x.wa x.wn x.wc x.ha x.hn x.hc)).alloc (zQ2)) (w.heap.size+1) (.slice none 0 0) (.slice none 0 0) (.slice none 0 0) (.slice none 0 0)/\∀ j,((w.alloc (oQ4 x.pa x.pn x.pc x.sa x.sn x.sc x.wa x.wn x.wc x.ha x.hn x.hc)).alloc (zQ2)).frozen? ⟨w.heap.size+1,j,none⟩=false):=⟨⟨zW _ _ _ 0 (by simp),zW _ _ _ 1 (by simp),zW _ _ _ 2 (by simp),zW _ _ _ 3 (by simp)⟩,fun j=>yD _ _ _ _ (by simp)⟩
 have hM:w.heap.size<=w.heap.size+1:=Nat.le_succ _
 clear hG hL hcap hN hV
 go_enter Tryz.func28,Tryz.ntmps28
 go_upto_region 1 with fail
 generalize (w.alloc (oQ4 x.pa x.pn x.pc x.sa x.sn x.sc x.wa x.wn x.wc x.ha x.hn x.hc)).alloc (zQ2)=W2 at *
 have LR:Hid (w.heap.size+1<W2.heap.size):=zJ _ _ RB.out.1.1
 have l1:=LR.out
 obtain ⟨b0,b1,b2,b3⟩:=NB.out
 by_cases hb:belB p x.hn=true
 case neg=>
  have hbf:belB p x.hn=false:=by
   cases h:belB p x.hn with
   | false=>rfl
   | true=>exact absurd h hb
  obtain ⟨C,hC⟩:∃ C,bkC x.y p 0=C:=⟨_,rfl⟩
  obtain ⟨Y,hY⟩:∃ Y,bkY x.y p 0=Y:=⟨_,rfl⟩
  have HV:Hid (boC x.y p=C/\boY x.y p=Y):=by
   have e:boK x.y p=0:=if_neg (by rw [show belB p x.y.hn=false from hbf];simp)
   unfold boC boY
   rw [e]
   exact ⟨hC,hY⟩
  have HB2:=HBk.out 0 W2 BW.out
  rw [hC,hY] at HB2
  have HB3:Hid (Calls Tryz.prog 26 #[x.v,.int .i64 p,.int .i64 0] W2 fun e w'=>∃ v,e=.returned (.tuple #[v,.int .i64 C])/\qag zb w' W2.heap.size Y v/\Below W2.heap.size W2 w'):=HB2
  clear HB2 hC hY HBk
  go_wp2_with fail
  refine (isBelow_any _ _ _).mono ?_
  rintro e w' ⟨rfl,hw⟩
  have hw2:=hw.symm
  subst hw2
  clear hw
  rw [hbf]
  clear hb hbf
  go_wp2_with fail
  refine HB3.out.mono ?_
  rintro e w3 ⟨v3,rfl,o3,q3⟩
  obtain ⟨cq,vp,vs,vw,vh,up,us,uw,uh,rfl,o3⟩:=o3
  obtain ⟨pa,pc,rfl⟩:=zU o3.p.row
  obtain ⟨sa,sc,rfl⟩:=zU o3.s.row
  obtain ⟨wa,wc,rfl⟩:=zU o3.t.row
  obtain ⟨ha,hc,rfl⟩:=zU o3.h.row
  have F3:Hid (qag zb w3 W2.heap.size Y (.agg #[.slice pa Y.pn pc,.slice sa Y.sn sc,.slice wa Y.wn wc,.slice ha Y.hn hc])/\Below W2.heap.size W2 w3):=⟨⟨_,_,_,_,_,_,_,_,_,rfl,o3⟩,q3⟩
  obtain ⟨r0,r1,r2,r3⟩:=RB.out.1.below q3
  have rf:∀ j,w3.frozen? ⟨w.heap.size+1,j,none⟩=false:=fun j=>((qam q3).2 _ j l1).trans (RB.out.2 j)
  have l3:w.heap.size+1<w3.heap.size:=zL l1 q3.size
  clear o3 q3 b0 b1 b2 b3
  go_wp2
  exact bodyPost_ret (v := .tuple #[.agg #[.slice pa Y.pn pc, .slice sa Y.sn sc, .slice wa Y.wn wc, .slice ha Y.hn hc], .int .i64 C]) (by simp [results, Tryz.results28, go_sem, r0, r1, r2, r3]) rfl ⟨_, by rw [HV.out.1], by
   rw [HV.out.2]
   exact ((((F3.out.1.setBelow l1 0 _).setBelow l1 1 _).setBelow l1 2 _).setBelow l1 3 _).base BW.out.size,(((((BW.out.trans (F3.out.2.mono BW.out.size))).setCell hM _).setCell hM _).setCell hM _).setCell hM _⟩
 obtain ⟨P,rfl,hP⟩:∃ P:Nat,p=P/\P<x.hn:=by
  simp only [belB,decide_eq_true_eq] at hb
  exact ⟨p.toNat,by omega,by omega⟩
 have hP':(P:Int)<(x.hn:Int):=by omega
 have nP:¬ (x.hn:Int)<=(P:Int):=by omega
 have hl1:x.hL P<=1048576:=HHL.out P hP
 obtain ⟨kk,hkk⟩:∃ kk:Int,(x.hL P:Int) - 1=kk:=⟨_,rfl⟩
 have hkb:-1<=kk/\kk<=1048576:=by omega
 obtain ⟨C,hC⟩:∃ C,bkC x.y (P:Int) kk=C:=⟨_,rfl⟩
 obtain ⟨Y,hY⟩:∃ Y,bkY x.y (P:Int) kk=Y:=⟨_,rfl⟩
 have HV:Hid (boC x.y (P:Int)=C/\boY x.y (P:Int)=Y):=by
  have e:boK x.y (P:Int)=kk:=(qw8 (y:=x.y) hP).trans hkk
  unfold boC boY
  rw [e]
  exact ⟨hC,hY⟩
 have HB3:Hid (∀ wx,Below w.heap.size w wx->Calls Tryz.prog 26 #[x.v,.int .i64 (P:Int),.int .i64 kk] wx fun e w'=>∃ v,e=.returned (.tuple #[v,.int .i64 C])/\qag zb w' wx.heap.size Y v/\Below wx.heap.size wx w'):=fun wx hb=>by
  have h:=HBk.out kk wx hb
  rw [hC,hY] at h
  exact h
 clear hC hY HBk
 obtain ⟨bh,oh,eh,ch0⟩:=HG.out.h.at hP
 have HEH:Hid (x.ha=some ⟨bh,oh,none⟩):=eh
 clear eh
 have lbh:bh<w.heap.size:=zJ _ _ ch0
 have ch:=(BW.out.cell (p:=⟨bh,oh+P,none⟩) lbh).trans ch0
 go_wp2_with fail
 refine (isBelow_any _ _ _).mono ?_
 rintro e w' ⟨rfl,hw⟩
 have hw2:=hw.symm
 subst hw2
 clear hw
 rw [hb]
 clear hb
 go_upto_region 3 with fail
 have q0:Below W2.heap.size W2 W2.drew:=(Below.refl W2.heap.size W2).drew
 have HST:∀ wx,Below (w.heap.size+1) W2 wx->BoxC wx w.heap.size (.slice x.pa x.pn x.pc) (.slice x.sa x.sn x.sc) (.slice x.wa x.wn x.wc) (.slice x.ha x.hn x.hc)/\wx.cell? ⟨bh,oh+P,none⟩=some (.slice (x.hA P) (x.hL P) (x.hC P)):=fun wx hb=>⟨NB.out.belowB hb (Nat.lt_succ_self _),(hb.cell (p:=⟨bh,oh+P,none⟩) (Nat.lt_succ_of_lt lbh)).trans ch⟩
 refine qa7 (fun w'=>BoxC w' w.heap.size (.slice x.pa x.pn x.pc) (.slice x.sa x.sn x.sc) (.slice x.wa x.wn x.wc) (.slice x.ha x.hn x.hc)/\w'.cell? ⟨bh,oh+P,none⟩=some (.slice (x.hA P) (x.hL P) (x.hC P))) (fun i=>i == 12) (by kernel_rfl) ?_
 have hHeld:(fun w':World=>BoxC w' w.heap.size (.slice x.pa x.pn x.pc) (.slice x.sa x.sn x.sc) (.slice x.wa x.wn x.wc) (.slice x.ha x.hn x.hc)/\w'.cell? ⟨bh,oh+P,none⟩=some (.slice (x.hA P) (x.hL P) (x.hC P))) W2.drew:=HST _ (q0.mono (Nat.le_of_lt l1))
 refine qan 0 rfl hHeld ?_
 apply Exists.intro
 refine ⟨fun wq hSw=>?_,?_⟩
 ·obtain ⟨⟨h0,h1,h2,h3⟩,h4⟩:=hSw
  go_simp
  try with_reducible rfl
 (try simp only [Act.put,zD,zE,zF])
 refine qan 1 rfl hHeld ?_
 apply Exists.intro
 refine ⟨fun wq hSw=>?_,?_⟩
 ·obtain ⟨⟨h0,h1,h2,h3⟩,h4⟩:=hSw
  go_simp
  try with_reducible rfl
 (try simp only [Act.put,zD,zE,zF])
 refine qan 2 rfl hHeld ?_
 apply Exists.intro
 refine ⟨fun wq hSw=>?_,?_⟩
 ·obtain ⟨⟨h0,h1,h2,h3⟩,h4⟩:=hSw
  go_simp
  try with_reducible rfl
 (try simp only [Act.put,zD,zE,zF])
 refine qan 3 rfl hHeld ?_
 apply Exists.intro
 refine ⟨fun wq hSw=>?_,?_⟩
 ·obtain ⟨⟨h0,h1,h2,h3⟩,h4⟩:=hSw
  rw [HEH.out] at h3
  go_simp
  try with_reducible rfl
 (try simp only [Act.put,zD,zE,zF])
 refine qan 4 rfl hHeld ?_
 apply Exists.intro
 refine ⟨fun wq hSw=>?_,?_⟩
 ·obtain ⟨⟨h0,h1,h2,h3⟩,h4⟩:=hSw
  go_simp
  try with_reducible rfl
 (try simp only [Act.put,zD,zE,zF])
 refine qan 5 rfl hHeld ?_
 apply Exists.intro
 refine ⟨fun wq hSw=>?_,?_⟩
 ·obtain ⟨⟨h0,h1,h2,h3⟩,h4⟩:=hSw
  go_simp
  try with_reducible rfl
 (try simp only [Act.put,zD,zE,zF])
 refine qan 6 rfl hHeld ?_
 apply Exists.intro
 refine ⟨fun wq hSw=>?_,?_⟩
 ·obtain ⟨⟨h0,h1,h2,h3⟩,h4⟩:=hSw
  go_simp
  try with_reducible rfl
 (try simp only [Act.put,zD,zE,zF])
 refine qan 7 rfl hHeld ?_
 apply Exists.intro
 refine ⟨fun wq hSw=>?_,?_⟩
 ·obtain ⟨⟨h0,h1,h2,h3⟩,h4⟩:=hSw
  go_simp
  try with_reducible rfl
 (try simp only [Act.put,zD,zE,zF])
 refine qan 8 rfl hHeld ⟨.int .i64 kk,fun wq _=>?_,?_⟩
 ·go_simp
  try (rw [IntKind.wrap_i64];omega)
 (try simp only [Act.put,zD,zE,zF])
 refine qao 9 rfl (by kernel_rfl) (fun K hK=>?_)
 refine qat rfl 26 _ _ rfl #[x.v,.int .i64 (P:Int),.int .i64 kk] (by simp [Act.eval,SysIn.v,sysV]) (yB Tryz.func26 (by kernel_rfl) rfl) (HB3.out W2.drew (BW.out.trans (q0.mono BW.out.size))) ?_
 rintro e w3 ⟨v3,rfl,o3,d3⟩
 have q3:Below W2.heap.size W2 w3:=q0.trans (d3.mono q0.size)
 obtain ⟨cq,vp,vs,vw,vh,up,us,uw,uh,rfl,o3⟩:=o3
 obtain ⟨pa,pc,rfl⟩:=zU o3.p.row
 obtain ⟨sa,sc,rfl⟩:=zU o3.s.row
 obtain ⟨wa,wc,rfl⟩:=zU o3.t.row
 obtain ⟨ha,hc,rfl⟩:=zU o3.h.row
 refine ⟨_,rfl,?_⟩
 refine hK.out _ _ (fun _=>HST _ (q3.mono (Nat.le_of_lt l1))) ?_
 clear hHeld hK K
 have hHeld:(fun w':World=>BoxC w' w.heap.size (.slice x.pa x.pn x.pc) (.slice x.sa x.sn x.sc) (.slice x.wa x.wn x.wc) (.slice x.ha x.hn x.hc)/\w'.cell? ⟨bh,oh+P,none⟩=some (.slice (x.hA P) (x.hL P) (x.hC P))) w3:=HST _ (q3.mono (Nat.le_of_lt l1))
 (try simp only [Act.put,zD,zE,zF])
 refine qbr [10,11] ?_
 iterate 2 (refine qa3 rfl hHeld ?_;apply Exists.intro;refine ⟨fun wq hSw=>?_,?_⟩;(· ((try dsimp only at hSw);go_simp;try with_reducible rfl));(try simp only [Act.put,zD,zE,zF]))
 refine qbe ?_
 have F3:Hid (qag zb w3 W2.drew.heap.size Y (.agg #[.slice pa Y.pn pc,.slice sa Y.sn sc,.slice wa Y.wn wc,.slice ha Y.hn hc])/\Below W2.heap.size W2 w3):=⟨⟨_,_,_,_,_,_,_,_,_,rfl,o3⟩,q3⟩
 obtain ⟨r0,r1,r2,r3⟩:=RB.out.1.below q3
 have rf:∀ j,w3.frozen? ⟨w.heap.size+1,j,none⟩=false:=fun j=>((qam q3).2 _ j l1).trans (RB.out.2 j)
 have l3:w.heap.size+1<w3.heap.size:=zL l1 q3.size
 refine qao 12 rfl (by kernel_rfl) (fun K hK=>?_)
 go_simp
 refine hK.out _ _ (fun h=>?_) ?_
 ·exact absurd h (by decide)
 clear hK K hHeld
 (try simp only [Act.put,zD,zE,zF])
 refine qao 13 rfl (by kernel_rfl) (fun K hK=>?_)
 go_simp
 refine hK.out _ _ (fun _=>?_) ?_
 ·exact HST _ (((((q3.mono (Nat.le_of_lt l1)).setCell (Nat.le_refl _) _).setCell (Nat.le_refl _) _).setCell (Nat.le_refl _) _).setCell (Nat.le_refl _) _)
 clear hK K o3 d3 q3 HST
 (try simp only [Act.put,zD,zE,zF])
 refine qbf (by kernel_rfl) ?_ _
 go_wp2
 exact bodyPost_ret (v := .tuple #[.agg #[.slice pa Y.pn pc, .slice sa Y.sn sc, .slice wa Y.wn wc, .slice ha Y.hn hc], .int .i64 C]) (by simp [results, Tryz.results28, go_sem, r0, r1, r2, r3]) rfl ⟨_, by rw [HV.out.1], by
  rw [HV.out.2]
  exact ((((F3.out.1.setBelow (show w.heap.size+1<W2.drew.heap.size from l1) 0 _).setBelow (show w.heap.size+1<W2.drew.heap.size from l1) 1 _).setBelow (show w.heap.size+1<W2.drew.heap.size from l1) 2 _).setBelow (show w.heap.size+1<W2.drew.heap.size from l1) 3 _).base BW.out.size,(((((BW.out.trans (F3.out.2.mono BW.out.size))).setCell hM _).setCell hM _).setCell hM _).setCell hM _⟩
theorem qja (x:SysIn) (p:Int) (w:World) (hG:SysG w x) (hL:x.Len) (hcap:∀ i,i<x.hn->x.hL i<=x.hC i):
  Calls Tryz.prog 27 #[x.v,.int .i64 p] w fun e w'=>∃ v,e=.returned (.tuple #[v,.int .i64 (boC x.y p)])/\qag false w' w.heap.size (boY x.y p) v/\Below w.heap.size w w':=by
 have HG:Hid (SysG w x):=hG
 have hhn:(x.hn:Int)<=1048576:=by have:=hL.h.1;omega
 have HHL:Hid (∀ i,i<x.hn->x.hL i<=1048576):=hL.h.2
 have HBk:Hid (∀ k wx,Below w.heap.size w wx->Calls Tryz.prog 25 #[x.v,.int .i64 p,.int .i64 k] wx fun e w'=>∃ v,e=.returned (.tuple #[v,.int .i64 (bkC x.y p k)])/\qag false w' wx.heap.size (bkY x.y p k) v/\Below wx.heap.size wx w'):=fun k wx hb=>qep x p k wx (hG.below hb) hL hcap
 have BW:Hid (Below w.heap.size w ((w.alloc (oQ4 x.pa x.pn x.pc x.sa x.sn x.sc x.wa x.wn x.wc x.ha x.hn x.hc)).alloc (zQ2))):=(zQ _ _).trans ((zQ _ _).mono (by simp))
 have NB:Hid (BoxC ((w.alloc (oQ4 x.pa x.pn x.pc x.sa x.sn x.sc x.wa x.wn x.wc x.ha x.hn x.hc)).alloc (zQ2)) w.heap.size (.slice x.pa x.pn x.pc) (.slice x.sa x.sn x.sc) (.slice x.wa x.wn x.wc) (.slice x.ha x.hn x.hc)):=(BoxC.new w _ _ _ _ _).below (zQ _ _)
 have RB:Hid (BoxC ((w.alloc (oQ4 x.pa x.pn x.pc x.sa x.sn x.sc x.wa x.wn x.wc x.ha x.hn x.hc)).alloc (zQ2)) (w.heap.size+1) (.slice none 0 0) (.slice none 0 0) (.slice none 0 0) (.slice none 0 0)/\∀ j,((w.alloc (oQ4 x.pa x.pn x.pc x.sa x.sn x.sc x.wa x.wn x.wc x.ha x.hn x.hc)).alloc (zQ2)).frozen? ⟨w.heap.size+1,j,none⟩=false):=⟨⟨zW _ _ _ 0 (by simp),zW _ _ _ 1 (by simp),zW _ _ _ 2 (by simp),zW _ _ _ 3 (by simp)⟩,fun j=>yD _ _ _ _ (by simp)⟩
 have hM:w.heap.size<=w.heap.size+1:=Nat.le_succ _
 clear hG hL hcap
 go_enter Tryz.func27,Tryz.ntmps27
 go_upto_region 1 with fail
 generalize (w.alloc (oQ4 x.pa x.pn x.pc x.sa x.sn x.sc x.wa x.wn x.wc x.ha x.hn x.hc)).alloc (zQ2)=W2 at *
 have LR:Hid (w.heap.size+1<W2.heap.size):=zJ _ _ RB.out.1.1
 have l1:=LR.out
 obtain ⟨b0,b1,b2,b3⟩:=NB.out
 obtain ⟨kk,C,Y,HV,HB3,hcase⟩:∃ (kk C:Int) (Y:Sy),Hid (boC x.y p=C/\boY x.y p=Y)/\Hid (∀ wx,Below w.heap.size w wx->Calls Tryz.prog 25 #[x.v,.int .i64 p,.int .i64 kk] wx fun e w'=>∃ v,e=.returned (.tuple #[v,.int .i64 C])/\qag false w' wx.heap.size Y v/\Below wx.heap.size wx w')/\((inB p 0 ((x.hn:Int) - 1)=false/\kk = -1)\/∃ P:Nat,p=P/\P<x.hn/\inB p 0 ((x.hn:Int) - 1)=true/\kk=(x.hL P:Int) - 1):=by
  by_cases hb:belB p x.hn=true
  ·obtain ⟨P,rfl,hP⟩:∃ P:Nat,p=P/\P<x.hn:=by
    simp only [belB,decide_eq_true_eq] at hb
    exact ⟨p.toNat,by omega,by omega⟩
   have e:boK x.y (P:Int)=(x.hL P:Int) - 1:=qw8 (y:=x.y) hP
   refine ⟨(x.hL P:Int) - 1,_,_,⟨rfl,rfl⟩,fun wx hbx=>?_,.inr ⟨P,rfl,hP,?_,rfl⟩⟩
   ·have h:=HBk.out ((x.hL P:Int) - 1) wx hbx
    unfold boC boY
    rw [e]
    exact h
   ·simp only [inB,decide_eq_true_eq]
    omega
  ·have hbf:belB p x.hn=false:=by
    cases h:belB p x.hn with
    | false=>rfl
    | true=>exact absurd h hb
   have e:=qxv (y:=x.y) (p:=p) hbf
   refine ⟨-1,_,_,⟨rfl,rfl⟩,fun wx hbx=>?_,.inl ⟨?_,rfl⟩⟩
   ·have h:=HBk.out (-1) wx hbx
    rw [e.1,e.2] at h
    exact h
   ·simp only [belB,inB,decide_eq_false_iff_not] at hbf ⊢
    omega
 clear HBk
 rcases hcase with ⟨hin,rfl⟩ | ⟨P,rfl,hP,hin,hkk⟩
 ·go_wp2_with fail
  refine (l1In_any _ _ _ _).mono ?_
  rintro e w' ⟨rfl,hw⟩
  have hw2:=hw.symm
  subst hw2
  clear hw
  rw [hin]
  clear hin
  go_wp2_with fail
  refine (HB3.out W2 BW.out).mono ?_
  rintro e w3 ⟨v3,rfl,o3,q3⟩
  obtain ⟨cq,vp,vs,vw,vh,up,us,uw,uh,rfl,o3⟩:=o3
  obtain ⟨pa,pc,rfl⟩:=zU o3.p.row
  obtain ⟨sa,sc,rfl⟩:=zU o3.s.row
  obtain ⟨wa,wc,rfl⟩:=zU o3.t.row
  obtain ⟨ha,hc,rfl⟩:=zU o3.h.row
  have F3:Hid (qag false w3 W2.heap.size Y (.agg #[.slice pa Y.pn pc,.slice sa Y.sn sc,.slice wa Y.wn wc,.slice ha Y.hn hc])/\Below W2.heap.size W2 w3):=⟨⟨_,_,_,_,_,_,_,_,_,rfl,o3⟩,q3⟩
  obtain ⟨r0,r1,r2,r3⟩:=RB.out.1.below q3
  have rf:∀ j,w3.frozen? ⟨w.heap.size+1,j,none⟩=false:=fun j=>((qam q3).2 _ j l1).trans (RB.out.2 j)
  have l3:w.heap.size+1<w3.heap.size:=zL l1 q3.size
  have G3:Hid (qag false (w3.alloc (oQ4 pa Y.pn pc sa Y.sn sc wa Y.wn wc ha Y.hn hc)) W2.heap.size Y (.agg #[.slice pa Y.pn pc,.slice sa Y.sn sc,.slice wa Y.wn wc,.slice ha Y.hn hc])/\Below W2.heap.size W2 (w3.alloc (oQ4 pa Y.pn pc sa Y.sn sc wa Y.wn wc ha Y.hn hc))/\BoxC (w3.alloc (oQ4 pa Y.pn pc sa Y.sn sc wa Y.wn wc ha Y.hn hc)) w3.heap.size (.slice pa Y.pn pc) (.slice sa Y.sn sc) (.slice wa Y.wn wc) (.slice ha Y.hn hc)):=⟨F3.out.1.below (zQ _ _),F3.out.2.trans ((zQ _ _).mono F3.out.2.size),BoxC.new w3 _ _ _ _ _⟩
  go_upto_region 5 with fail
  clear o3 q3 b0 b1 b2 b3 r0 r1 r2 r3 rf l3 F3
  generalize w3.alloc (oQ4 pa Y.pn pc sa Y.sn sc wa Y.wn wc ha Y.hn hc)=w4 at *
  generalize w3.heap.size=N4 at *
  clear w3
  obtain ⟨r0,r1,r2,r3⟩:=RB.out.1.below G3.out.2.1
  have rf:∀ j,w4.frozen? ⟨w.heap.size+1,j,none⟩=false:=fun j=>((qam G3.out.2.1).2 _ j l1).trans (RB.out.2 j)
  obtain ⟨n0,n1,n2,n3⟩:=G3.out.2.2
  have l4:w.heap.size+1<w4.heap.size:=zL l1 G3.out.2.1.size
  go_wp2
  exact bodyPost_ret (v := .tuple #[.agg #[.slice pa Y.pn pc, .slice sa Y.sn sc, .slice wa Y.wn wc, .slice ha Y.hn hc], .int .i64 C]) (by simp [results, Tryz.results27, go_sem, r0, r1, r2, r3]) rfl ⟨_, by rw [HV.out.1], by
   rw [HV.out.2]
   exact ((((G3.out.1.setBelow l1 0 _).setBelow l1 1 _).setBelow l1 2 _).setBelow l1 3 _).base BW.out.size,(((((BW.out.trans (G3.out.2.1.mono BW.out.size))).setCell hM _).setCell hM _).setCell hM _).setCell hM _⟩
 ·have hP':(P:Int)<(x.hn:Int):=by omega
  have nP:¬ (x.hn:Int)<=(P:Int):=by omega
  have hl1:x.hL P<=1048576:=HHL.out P hP
  have hkk':(x.hL P:Int) - 1=kk:=hkk.symm
  have hkb:-1<=kk/\kk<=1048576:=by omega
  obtain ⟨bh,oh,eh,ch⟩:=(HG.out.below BW.out).h.at hP
  go_wp2_with fail
  refine (l1In_any _ _ _ _).mono ?_
  rintro e w' ⟨rfl,hw⟩
  have hw2:=hw.symm
  subst hw2
  clear hw
  rw [hin]
  clear hin
  rw [eh] at b3
  clear eh
  go_upto_region 4 with fail
  clear ch b0 b1 b2 b3 hkk
  obtain ⟨b0,b1,b2,b3⟩:=NB.out
  go_wp2_with fail
  refine (HB3.out W2 BW.out).mono ?_
  rintro e w3 ⟨v3,rfl,o3,q3⟩
  obtain ⟨cq,vp,vs,vw,vh,up,us,uw,uh,rfl,o3⟩:=o3
  obtain ⟨pa,pc,rfl⟩:=zU o3.p.row
  obtain ⟨sa,sc,rfl⟩:=zU o3.s.row
  obtain ⟨wa,wc,rfl⟩:=zU o3.t.row
  obtain ⟨ha,hc,rfl⟩:=zU o3.h.row
  have F3:Hid (qag false w3 W2.heap.size Y (.agg #[.slice pa Y.pn pc,.slice sa Y.sn sc,.slice wa Y.wn wc,.slice ha Y.hn hc])/\Below W2.heap.size W2 w3):=⟨⟨_,_,_,_,_,_,_,_,_,rfl,o3⟩,q3⟩
  obtain ⟨r0,r1,r2,r3⟩:=RB.out.1.below q3
  have rf:∀ j,w3.frozen? ⟨w.heap.size+1,j,none⟩=false:=fun j=>((qam q3).2 _ j l1).trans (RB.out.2 j)
  have l3:w.heap.size+1<w3.heap.size:=zL l1 q3.size
  have G3:Hid (qag false (w3.alloc (oQ4 pa Y.pn pc sa Y.sn sc wa Y.wn wc ha Y.hn hc)) W2.heap.size Y (.agg #[.slice pa Y.pn pc,.slice sa Y.sn sc,.slice wa Y.wn wc,.slice ha Y.hn hc])/\Below W2.heap.size W2 (w3.alloc (oQ4 pa Y.pn pc sa Y.sn sc wa Y.wn wc ha Y.hn hc))/\BoxC (w3.alloc (oQ4 pa Y.pn pc sa Y.sn sc wa Y.wn wc ha Y.hn hc)) w3.heap.size (.slice pa Y.pn pc) (.slice sa Y.sn sc) (.slice wa Y.wn wc) (.slice ha Y.hn hc)):=⟨F3.out.1.below (zQ _ _),F3.out.2.trans ((zQ _ _).mono F3.out.2.size),BoxC.new w3 _ _ _ _ _⟩
  go_upto_region 5 with fail
  clear o3 q3 b0 b1 b2 b3 r0 r1 r2 r3 rf l3 F3
  generalize w3.alloc (oQ4 pa Y.pn pc sa Y.sn sc wa Y.wn wc ha Y.hn hc)=w4 at *
  generalize w3.heap.size=N4 at *
  clear w3
  obtain ⟨r0,r1,r2,r3⟩:=RB.out.1.below G3.out.2.1
  have rf:∀ j,w4.frozen? ⟨w.heap.size+1,j,none⟩=false:=fun j=>((qam G3.out.2.1).2 _ j l1).trans (RB.out.2 j)
  obtain ⟨n0,n1,n2,n3⟩:=G3.out.2.2
  have l4:w.heap.size+1<w4.heap.size:=zL l1 G3.out.2.1.size
  go_wp2
  exact bodyPost_ret (v := .tuple #[.agg #[.slice pa Y.pn pc, .slice sa Y.sn sc, .slice wa Y.wn wc, .slice ha Y.hn hc], .int .i64 C]) (by simp [results, Tryz.results27, go_sem, r0, r1, r2, r3]) rfl ⟨_, by rw [HV.out.1], by
   rw [HV.out.2]
   exact ((((G3.out.1.setBelow l1 0 _).setBelow l1 1 _).setBelow l1 2 _).setBelow l1 3 _).base BW.out.size,(((((BW.out.trans (G3.out.2.1.mono BW.out.size))).setCell hM _).setCell hM _).setCell hM _).setCell hM _⟩
theorem qhu (x:SysIn) (z1:Int) (W:World) (hs:x.size<=1048576) (hA:x.Ok W) (hV:W.cell? ⟨0,0,none⟩=some (.iface 298 (.agg #[.pointer (some ⟨1,213,none⟩)]))):
  Calls Tryz.prog 6 #[sysV x.pa x.pn x.pc x.sa x.sn x.sc x.wa x.wn x.wc x.ha x.hn x.hc,.int .i64 z1] W fun e w'=>e=.returned (.bool true)/\Below W.heap.size W w':=by
 have HS:Hid (x.size<=1048576):=hs
 have HA:Hid (x.Ok W):=hA
 have HV:Hid (W.cell? ⟨0,0,none⟩=some (.iface 298 (.agg #[.pointer (some ⟨1,213,none⟩)]))):=hV
 have HV0:Hid (0<W.heap.size):=zJ W _ hV
 have hsz:¬ (1048576 - (x.size:Int)<0):=by omega
 have X0:Hid (Px W x (W.alloc (.cells #[.slice x.pa x.pn x.pc,.slice x.sa x.sn x.sc,.slice x.wa x.wn x.wc,.slice x.ha x.hn x.hc] 27))):=⟨qad _ _,BoxC.new W _ _ _ _ _,by simp⟩
 have HSM:Hid (boY x.y z1).Sm:=qyn _ _
 clear hs hA hV
 obtain ⟨Y,hY⟩:∃ Y,boY x.y z1=Y:=⟨_,rfl⟩
 obtain ⟨C,hC⟩:∃ C,boC x.y z1=C:=⟨_,rfl⟩
 rw [hY] at HSM
 have HYC:Hid (boY x.y z1=Y/\boC x.y z1=C):=⟨hY,hC⟩
 clear hY hC
 go_enter Tryz.func6,Tryz.ntmps6
 go_wp2_with fail
 generalize W.alloc (.cells #[.slice x.pa x.pn x.pc,.slice x.sa x.sn x.sc,.slice x.wa x.wn x.wc,.slice x.ha x.hn x.hc] 27)=wA at *
 refine (qd1 x wA (HA.out.row.below X0.out.be) HS.out).mono ?_
 rintro e w0 ⟨rfl,b0⟩
 have X1:Hid (Px W x w0):=X0.out.below b0
 clear b0 X0
 obtain ⟨-,⟨p0,p1,p2,p3⟩,lt⟩:=X1.out
 go_wp2_with fail
 clear p0 p1 p2 p3 lt
 refine (qbd x W w0 HS.out HA.out X1.out.be).mono ?_
 rintro e w1 ⟨v1,rfl,o1,b1⟩
 obtain ⟨x1,rfl,g1,y1,cp1⟩:=o1.g2
 have O1:Hid (SysG w1 x1/\x1.y=x.y/\∀ i,i<x1.hn->x1.hL i<=x1.hC i):=⟨g1,y1,cp1⟩
 have X2:Hid (Px W x w1):=X1.out.below b1
 clear b1 X1 o1 g1 y1 cp1
 go_wp2_with fail
 refine (qja x1 z1 w1 O1.out.1 (SysIn.len_of HS.out O1.out.2.1) O1.out.2.2).mono ?_
 rintro e w2 ⟨v2,rfl,o2,b2⟩
 rw [O1.out.2.1,HYC.out.1] at o2
 rw [O1.out.2.1,HYC.out.2]
 obtain ⟨pa,pc,sa,sc,wa,wc,ha,hc,rfl,n2⟩:=OwnZ.of o2
 have ba:=qad w2 (oQ4 pa Y.pn pc sa Y.sn sc wa Y.wn wc ha Y.hn hc)
 have X3:Hid (Px W x (w2.alloc (oQ4 pa Y.pn pc sa Y.sn sc wa Y.wn wc ha Y.hn hc))/\OwnZ (w2.alloc (oQ4 pa Y.pn pc sa Y.sn sc wa Y.wn wc ha Y.hn hc)) w1.heap.size w2.heap.size Y (.slice pa Y.pn pc) (.slice sa Y.sn sc) (.slice wa Y.wn wc) (.slice ha Y.hn hc)/\BoxC (w2.alloc (oQ4 pa Y.pn pc sa Y.sn sc wa Y.wn wc ha Y.hn hc)) w2.heap.size (.slice pa Y.pn pc) (.slice sa Y.sn sc) (.slice wa Y.wn wc) (.slice ha Y.hn hc)/\W.heap.size<w1.heap.size/\w1.heap.size<=w2.heap.size/\w2.heap.size<(w2.alloc (oQ4 pa Y.pn pc sa Y.sn sc wa Y.wn wc ha Y.hn hc)).heap.size):=⟨(X2.out.below b2).below ba,n2.below ba,BoxC.new w2 _ _ _ _ _,X2.out.lt,b2.size,by simp⟩
 go_upto_region 6 with fail
 clear b2 X2 o2 n2 O1 ba
 generalize hN1:w1.heap.size=N1 at *
 generalize hT8:w2.heap.size=T8 at *
 clear hN1 hT8
 generalize w2.alloc (oQ4 pa Y.pn pc sa Y.sn sc wa Y.wn wc ha Y.hn hc)=w2a at *
 obtain ⟨-,⟨p0,p1,p2,p3⟩,lt⟩:=X3.out.1
 go_wp2_with fail
 clear p0 p1 p2 p3 lt
 refine (qbd x W w2a HS.out HA.out X3.out.1.be).mono ?_
 rintro e w3 ⟨v3,rfl,o3,b3⟩
 obtain ⟨x3,rfl,g3,y3,cp3,nn3⟩:=o3.g3
 have ba:=qad w3 (oQ4 x3.pa x3.pn x3.pc x3.sa x3.sn x3.sc x3.wa x3.wn x3.wc x3.ha x3.hn x3.hc)
 have F3:Hid (Px W x (w3.alloc (oQ4 x3.pa x3.pn x3.pc x3.sa x3.sn x3.sc x3.wa x3.wn x3.wc x3.ha x3.hn x3.hc))/\OwnZ (w3.alloc (oQ4 x3.pa x3.pn x3.pc x3.sa x3.sn x3.sc x3.wa x3.wn x3.wc x3.ha x3.hn x3.hc)) N1 T8 Y (.slice pa Y.pn pc) (.slice sa Y.sn sc) (.slice wa Y.wn wc) (.slice ha Y.hn hc)/\BoxC (w3.alloc (oQ4 x3.pa x3.pn x3.pc x3.sa x3.sn x3.sc x3.wa x3.wn x3.wc x3.ha x3.hn x3.hc)) T8 (.slice pa Y.pn pc) (.slice sa Y.sn sc) (.slice wa Y.wn wc) (.slice ha Y.hn hc)/\qch (w3.alloc (oQ4 x3.pa x3.pn x3.pc x3.sa x3.sn x3.sc x3.wa x3.wn x3.wc x3.ha x3.hn x3.hc)) w2a.heap.size w3.heap.size x x3.v/\BoxC (w3.alloc (oQ4 x3.pa x3.pn x3.pc x3.sa x3.sn x3.sc x3.wa x3.wn x3.wc x3.ha x3.hn x3.hc)) w3.heap.size (.slice x3.pa x3.pn x3.pc) (.slice x3.sa x3.sn x3.sc) (.slice x3.wa x3.wn x3.wc) (.slice x3.ha x3.hn x3.hc)):=⟨(X3.out.1.below b3).below ba,(X3.out.2.1.below b3).below ba,(X3.out.2.2.1.below b3).below ba,o3.below ba (Nat.le_refl _),BoxC.new w3 _ _ _ _ _⟩
 have LT:Hid (W.heap.size<N1/\N1<=T8/\T8<w2a.heap.size/\w2a.heap.size<=w3.heap.size/\w3.heap.size<(w3.alloc (oQ4 x3.pa x3.pn x3.pc x3.sa x3.sn x3.sc x3.wa x3.wn x3.wc x3.ha x3.hn x3.hc)).heap.size):=⟨X3.out.2.2.2.1,X3.out.2.2.2.2.1,X3.out.2.2.2.2.2,b3.size,by simp⟩
 have Ga:Hid (SysG (w3.alloc (oQ4 x3.pa x3.pn x3.pc x3.sa x3.sn x3.sc x3.wa x3.wn x3.wc x3.ha x3.hn x3.hc)) x3/\x3.y=x.y/\x3.Nn true/\∀ i,i<x3.hn->x3.hL i<=x3.hC i):=⟨g3.below ba,y3,nn3,cp3⟩
 go_upto_region 7 with fail
 clear b3 o3 g3 y3 cp3 nn3 ba X3
 generalize hlo:w2a.heap.size=lo at *
 generalize hT10:w3.heap.size=T10 at *
 clear hlo hT10
 generalize w3.alloc (oQ4 x3.pa x3.pn x3.pc x3.sa x3.sn x3.sc x3.wa x3.wn x3.wc x3.ha x3.hn x3.hc)=wB at *
 obtain ⟨p0,p1,p2,p3⟩:=F3.out.2.2.2.2
 go_wp2_with fail
 clear p0 p1 p2 p3
 refine (qec x3 z1 wB Ga.out.1 (SysIn.len_of HS.out Ga.out.2.1) Ga.out.2.2.2 Ga.out.2.2.1 ((F3.out.1.be.cell (p:=⟨0,0,none⟩) HV0.out).trans HV.out)).mono ?_
 rintro e w4 ⟨v4,rfl,o4,b4⟩
 rw [Ga.out.2.1,HYC.out.1] at o4
 rw [Ga.out.2.1,HYC.out.2]
 obtain ⟨qa,qc,ra,rc,ta,tc,ua,uc,rfl,n4⟩:=Own0.of o4
 have ba:=qad w4 (oQ4 qa Y.pn qc ra Y.sn rc ta Y.wn tc ua Y.hn uc)
 have q4:=b4.trans (ba.mono b4.size)
 have F4:Hid (AtF W x Y x3 N1 T8 lo T10 wB.heap.size w4.heap.size (.slice pa Y.pn pc) (.slice sa Y.sn sc) (.slice wa Y.wn wc) (.slice ha Y.hn hc) (.slice qa Y.pn qc) (.slice ra Y.sn rc) (.slice ta Y.wn tc) (.slice ua Y.hn uc) (w4.alloc (oQ4 qa Y.pn qc ra Y.sn rc ta Y.wn tc ua Y.hn uc))):=⟨F3.out.1.below q4,F3.out.2.1.below q4,F3.out.2.2.1.below q4,F3.out.2.2.2.1.below q4 (Nat.le_of_lt LT.out.2.2.2.2),F3.out.2.2.2.2.below q4,n4.below ba,BoxC.new w4 _ _ _ _ _⟩
 have LT2:Hid ((W.heap.size<N1/\N1<=T8/\T8<lo/\lo<=T10/\T10<wB.heap.size)/\wB.heap.size<=w4.heap.size):=⟨LT.out,b4.size⟩
 go_upto_region 8 with fail
 clear b4 o4 n4 ba q4 F3 LT Ga
 generalize hB4:wB.heap.size=B4 at *
 generalize hT11:w4.heap.size=T11 at *
 clear hB4 hT11
 generalize w4.alloc (oQ4 qa Y.pn qc ra Y.sn rc ta Y.wn tc ua Y.hn uc)=wC at *
 obtain ⟨p0,p1,p2,p3⟩:=F4.out.b8
 obtain ⟨q0,q1,q2,q3⟩:=F4.out.b11
 go_wp2_with fail
 clear p0 p1 p2 p3 q0 q1 q2 q3
 refine (qci Y B4 N1 _ _ wC HSM.out.len F4.out.o4.sys F4.out.o2.sys).mono ?_
 rintro e w5 ⟨rfl,b5⟩
 have F5:Hid (AtF W x Y x3 N1 T8 lo T10 B4 T11 (.slice pa Y.pn pc) (.slice sa Y.sn sc) (.slice wa Y.wn wc) (.slice ha Y.hn hc) (.slice qa Y.pn qc) (.slice ra Y.sn rc) (.slice ta Y.wn tc) (.slice ua Y.hn uc) w5):=F4.out.below b5
 clear b5 F4
 obtain ⟨-,⟨p0,p1,p2,p3⟩,lt⟩:=F5.out.px
 obtain ⟨q0,q1,q2,q3⟩:=F5.out.b10
 have lq:=F5.out.b10.ltF
 go_wp2_with fail
 first|(go_region_with (first|(go_at_call 12;refine (qbd x W _ HS.out HA.out (by exact F5.out.px.be.drew)).mono ?_;rintro e w6 ⟨v6,rfl,o6,b6⟩;have q6:Below w5.heap.size w5 w6:=(Below.refl w5.heap.size w5).drew.trans b6;have T6:Hid (∃ l,qch w6 l w6.heap.size x v6):=⟨_,o6⟩;obtain ⟨r0,r1,r2,r3⟩:=F5.out.b10.below q6;have Q6:Hid (Below w5.heap.size w5 w6):=q6;clear o6 b6 q6)|(go_at_call 15;refine (qex x lo T10 T6.out.choose _ _ v6 w6 HS.out (F5.out.s3.below Q6.out (Nat.le_of_lt F5.out.b10.ltF)) T6.out.choose_spec).mono ?_;rintro e w7 ⟨rfl,b7⟩;have Q7:Hid (Below w5.heap.size w5 w7):=Q6.out.trans (b7.mono Q6.out.size);clear b7))) | fail
 all_goals
  clear r0 r1 r2 r3 p0 p1 p2 p3 lt q0 q1 q2 q3 lq T6 Q6
  have F7:Hid (AtF W x Y x3 N1 T8 lo T10 B4 T11 (.slice pa Y.pn pc) (.slice sa Y.sn sc) (.slice wa Y.wn wc) (.slice ha Y.hn hc) (.slice qa Y.pn qc) (.slice ra Y.sn rc) (.slice ta Y.wn tc) (.slice ua Y.hn uc) w7):=F5.out.below Q7.out
  clear Q7 F5
  obtain ⟨q0,q1,q2,q3⟩:=F7.out.b10
  go_wp2_with fail
  clear q0 q1 q2 q3
  refine (qfj x _ _ _ w7 HS.out F7.out.s3).mono ?_
  rintro e w8 ⟨⟨z,rfl,hz⟩,t8⟩
  have F8:Hid (AtG W x Y Y N1 T8 B4 T11 (.slice pa Y.pn pc) (.slice sa Y.sn sc) (.slice wa Y.wn wc) (.slice ha Y.hn hc) (.slice qa Y.pn qc) (.slice ra Y.sn rc) (.slice ta Y.wn tc) (.slice ua Y.hn uc) w8):=F7.out.mark t8 (by have:=LT2.out;omega) (by have:=LT2.out;omega) (by have:=LT2.out;omega) LT2.out.2
  clear t8 F7
  obtain ⟨p0,p1,p2,p3⟩:=F8.out.b8
  obtain ⟨q0,q1,q2,q3⟩:=F8.out.b11
  go_wp2_with fail
  clear p0 p1 p2 p3 q0 q1 q2 q3
  refine (qci Y B4 N1 _ _ w8 HSM.out.len F8.out.o4.sys F8.out.o2.sys).mono ?_
  rintro e w9 ⟨rfl,b9⟩
  have F9:Hid (AtG W x Y Y N1 T8 B4 T11 (.slice pa Y.pn pc) (.slice sa Y.sn sc) (.slice wa Y.wn wc) (.slice ha Y.hn hc) (.slice qa Y.pn qc) (.slice ra Y.sn rc) (.slice ta Y.wn tc) (.slice ua Y.hn uc) w9):=F8.out.below b9
  clear b9 F8
  obtain ⟨q0,q1,q2,q3⟩:=F9.out.b11
  go_wp2_with fail
  clear q0 q1 q2 q3
  refine (qiy Y B4 T11 _ _ _ _ w9 HSM.out.sums (by have:=F9.out.b11.ltF;have:=LT2.out;omega) F9.out.o4).mono ?_
  rintro e w10 ⟨rfl,o10,t10⟩
  have F10:Hid (AtG W x Y (mkY Y 1) N1 T8 B4 T11 (.slice pa Y.pn pc) (.slice sa Y.sn sc) (.slice wa Y.wn wc) (.slice ha Y.hn hc) (.slice qa Y.pn qc) (.slice ra Y.sn rc) (.slice ta Y.wn tc) (.slice ua Y.hn uc) w10):=F9.out.mark t10 o10 (by have:=LT2.out;omega) (by have:=LT2.out;omega)
  have HZ:Hid (¬ mkZ5 Y 1<0):=by
   have:=(qni HSM.out.sums).2.2.2
   show ¬ mkZ5 Y 1<0
   omega
  clear t10 o10 F9
  obtain ⟨q0,q1,q2,q3⟩:=F10.out.b11
  go_wp2_with fail
  clear q0 q1 q2 q3
  refine (qcs Y B4 _ w10 HSM.out.sums F10.out.o4.sys).mono ?_
  rintro e w11 ⟨rfl,b11⟩
  have F11:Hid (AtG W x Y (mkY Y 1) N1 T8 B4 T11 (.slice pa Y.pn pc) (.slice sa Y.sn sc) (.slice wa Y.wn wc) (.slice ha Y.hn hc) (.slice qa Y.pn qc) (.slice ra Y.sn rc) (.slice ta Y.wn tc) (.slice ua Y.hn uc) w11):=F10.out.below b11
  clear b11 F10
  obtain ⟨-,⟨p0,p1,p2,p3⟩,lt⟩:=F11.out.px
  have hz5:=HZ.out
  go_wp2_with fail
  clear p0 p1 p2 p3 lt hz5
  refine (qbd x W w11 HS.out HA.out F11.out.px.be).mono ?_
  rintro e w12 ⟨v12,rfl,o12,b12⟩
  obtain ⟨x12,rfl,g12,y12,cp12,nn12⟩:=o12.g3
  have S12:Hid (SysG w12 x12/\x12.y=x.y/\x12.Nn true/\∀ i,i<x12.hn->x12.hL i<=x12.hC i):=⟨g12,y12,nn12,cp12⟩
  have F12:Hid (AtG W x Y (mkY Y 1) N1 T8 B4 T11 (.slice pa Y.pn pc) (.slice sa Y.sn sc) (.slice wa Y.wn wc) (.slice ha Y.hn hc) (.slice qa Y.pn qc) (.slice ra Y.sn rc) (.slice ta Y.wn tc) (.slice ua Y.hn uc) w12):=F11.out.below b12
  clear b12 F11 o12 g12 y12 nn12 cp12
  go_wp2_with fail
  refine (qec x12 z1 w12 S12.out.1 (SysIn.len_of HS.out S12.out.2.1) S12.out.2.2.2 S12.out.2.2.1 ((F12.out.px.be.cell (p:=⟨0,0,none⟩) HV0.out).trans HV.out)).mono ?_
  rintro e w13 ⟨v13,rfl,o13,b13⟩
  rw [S12.out.2.1,HYC.out.1] at o13
  rw [S12.out.2.1,HYC.out.2]
  obtain ⟨ka,kc,la,lc,ma,mc,na,nc,rfl,n13⟩:=Own0.of o13
  have ba:=qad w13 (oQ4 ka Y.pn kc la Y.sn lc ma Y.wn mc na Y.hn nc)
  have q13:=b13.trans (ba.mono b13.size)
  have F13:Hid (AtG W x Y (mkY Y 1) N1 T8 B4 T11 (.slice pa Y.pn pc) (.slice sa Y.sn sc) (.slice wa Y.wn wc) (.slice ha Y.hn hc) (.slice qa Y.pn qc) (.slice ra Y.sn rc) (.slice ta Y.wn tc) (.slice ua Y.hn uc) (w13.alloc (oQ4 ka Y.pn kc la Y.sn lc ma Y.wn mc na Y.hn nc))/\Own0 (w13.alloc (oQ4 ka Y.pn kc la Y.sn lc ma Y.wn mc na Y.hn nc)) w12.heap.size w13.heap.size Y (.slice ka Y.pn kc) (.slice la Y.sn lc) (.slice ma Y.wn mc) (.slice na Y.hn nc)/\BoxC (w13.alloc (oQ4 ka Y.pn kc la Y.sn lc ma Y.wn mc na Y.hn nc)) w13.heap.size (.slice ka Y.pn kc) (.slice la Y.sn lc) (.slice ma Y.wn mc) (.slice na Y.hn nc)):=⟨F12.out.below q13,n13.below ba,BoxC.new w13 _ _ _ _ _⟩
  go_upto_region 25 with fail
  clear b13 o13 n13 ba q13 F12 S12
  generalize hN12:w12.heap.size=N12 at *
  generalize hT16:w13.heap.size=T16 at *
  clear hN12 hT16
  generalize w13.alloc (oQ4 ka Y.pn kc la Y.sn lc ma Y.wn mc na Y.hn nc)=wD at *
  obtain ⟨p0,p1,p2,p3⟩:=F13.out.1.b8
  obtain ⟨q0,q1,q2,q3⟩:=F13.out.2.2
  go_wp2_with fail
  clear p0 p1 p2 p3 q0 q1 q2 q3
  refine (qci Y N12 N1 _ _ wD HSM.out.len F13.out.2.1.sys F13.out.1.o2.sys).mono ?_
  rintro e w14 ⟨rfl,b14⟩
  have F14:Hid (AtG W x Y (mkY Y 1) N1 T8 B4 T11 (.slice pa Y.pn pc) (.slice sa Y.sn sc) (.slice wa Y.wn wc) (.slice ha Y.hn hc) (.slice qa Y.pn qc) (.slice ra Y.sn rc) (.slice ta Y.wn tc) (.slice ua Y.hn uc) w14):=F13.out.1.below b14
  clear b14 F13
  obtain ⟨q0,q1,q2,q3⟩:=F14.out.b11
  go_wp2_with fail
  clear q0 q1 q2 q3
  refine (qcs Y B4 _ w14 HSM.out.sums F14.out.o4.sys).mono ?_
  rintro e w15 ⟨rfl,b15⟩
  have F15:Hid (AtG W x Y (mkY Y 1) N1 T8 B4 T11 (.slice pa Y.pn pc) (.slice sa Y.sn sc) (.slice wa Y.wn wc) (.slice ha Y.hn hc) (.slice qa Y.pn qc) (.slice ra Y.sn rc) (.slice ta Y.wn tc) (.slice ua Y.hn uc) w15):=F14.out.below b15
  clear b15 F14
  have hz5:=HZ.out
  go_wp2
  go_ret
  exact ⟨rfl,F15.out.px.be⟩
theorem qht (x:SysIn) (z1:Int) (W:World) (hr:x.Row W) (hm:x.Max) (hs:1048576<x.size):
  Calls Tryz.prog 6 #[sysV x.pa x.pn x.pc x.sa x.sn x.sc x.wa x.wn x.wc x.ha x.hn x.hc,.int .i64 z1] W fun e w'=>e=.returned (.bool true)/\Below W.heap.size W w':=by
 have HR:Hid (x.Row W):=hr
 have HM:Hid x.Max:=hm
 have HS:Hid (1048576<x.size):=hs
 clear hr hm hs
 go_enter Tryz.func6,Tryz.ntmps6
 go_wp2_with fail
 refine (qd0 x _ (HR.out.below (qad _ _)) HM.out HS.out).mono ?_
 rintro e w0 ⟨rfl,b0⟩
 have B0:Hid (Below W.heap.size W w0):=(qad _ _).trans (b0.mono (by simp))
 clear b0
 go_wp2
 go_ret
 exact ⟨rfl,B0.out⟩
theorem qkm (os:Os) (started:os.Started) (H:Type) (enc:TypeId × Value->H):
  ReturnsInHanded {} Tryz.checked os 6 .any (fun w args => (Rows.fnExactBackOneSpec.pre enc Tryz.prog Tryz.f6 [] false w args /\ laidMetH Tryz.prog [("errors.errorType", Rows.laid_errors_errorType)] w) /\ sizedMet enc Tryz.prog Tryz.f6 (OpenSpec.ofChange Rows.fnExactBackOneSpec) false w args)
   (Rows.fnExactBackOneSpec.post enc Tryz.prog Tryz.f6 false true false false):=by
 refine returnsInHanded_of_change_and (C := Tryz.checked) (X := fun w _ => laidMetH Tryz.prog [("errors.errorType", Rows.laid_errors_errorType)] w) (fun _ _ _ hh h => h.of_heap hh) Tryz.own started (by kernel_rfl) Tryz.func6
  (ChangeSpec.witness_at (enc := enc) (C := Tryz.checked) (os := os) (X := fun w _ => laidMetH Tryz.prog [("errors.errorType", Rows.laid_errors_errorType)] w) false (qef os) #[sysV none 0 0 none 0 0 none 0 0 none 0 0, .int .i64 0] 8 rfl (by kernel_rfl) (by kernel_rfl) (by kernel_rfl) (by kernel_rfl) (by kernel_rfl) (qc2 os _)) ?_
 intro W base args ds gs before hval0 hW _ _ hL _
 have hval:∀ (j:Nat) t v,Tryz.f6.params[j]? = some t->args[j]? = some v->Value.okWide Tryz.prog W .any base t v:=hval0
 have hW':=hW
 obtain ⟨p,q,hA0,hV,rfl,hfz,hnd⟩:=hW
 have hA:DataW.TrodAll enc Tryz.prog W 0 (fun _=>true) true Tryz.f6.params.toList args.toList ds p:=hA0
 rw [Tryz.params6] at hA hval
 obtain ⟨v0,v1,d0,d1,p0,p1,rfl,rfl,rfl,h0,h1⟩:=trodAll_two hA
 obtain ⟨rfl,rfl⟩:=trodVars_none hV
 obtain ⟨z1,rfl⟩:=okWide_int Tryz.underlying3 (hval 1 3 v1 rfl rfl)
 have lt0:∀ x ∈ p0,x.block<W.heap.size:=by obtain ⟨m,hm⟩:=h0;exact DataW.trod_lt m _ _ _ hm
 have lt1:∀ x ∈ p1,x.block<W.heap.size:=by obtain ⟨m,hm⟩:=h1;exact DataW.trod_lt m _ _ _ hm
 have hg:=qcw hL
 clear hA0 hval0
 have hlaw:Calls Tryz.prog 6 #[v0,.int .i64 z1] W fun e w'=>e=.returned (.bool true)/\Below W.heap.size W w':=by
  obtain ⟨x,e,hr,hm,hy⟩:=qia (hval 0 27 v0 rfl rfl) h0
  by_cases hs:x.size<=1048576
  ·obtain ⟨y,ey,hok,hys⟩:=hy hs
   rw [ey]
   exact qhu y z1 W hys hok hg
  ·rw [e]
   exact qht x z1 W hr hm (by omega)
 refine hlaw.mono fun e W' ⟨he,bel⟩=>?_
 subst he
 exact ⟨_,rfl,_,_,_,[],_,[],hW',trodAll_mk1 (shut_bool Tryz.underlying4 _),(trodAll_cons_mk (Below.trod Tryz.laidOut (by kernel_rfl) (of_decide_eq_true (by kernel_rfl)) h0 bel lt0) (trodAll_cons_mk (Below.trod Tryz.laidOut (by kernel_rfl) (of_decide_eq_true (by kernel_rfl)) h1 bel lt1) trodAll_mk0)),rfl,bel.frame _,fun h=>by cases h⟩
theorem qo1:Rows.FnExactBackOneSaid:=
 OpenClaim.holds_of_wide 6 Tryz.f6 rfl rfl rfl rfl rfl rfl rfl ⟨rfl,rfl,rfl,rfl,rfl⟩ rfl rfl rfl rfl rfl (by kernel_rfl) Tryz.func6 (by kernel_rfl)
  (of_decide_eq_true (by kernel_rfl)) (by unfold Func.isWrapper;first|(rw [if_pos (by decide +kernel)];kernel_rfl)|(rw [if_neg (by decide +kernel)];exact ⟨rfl,rfl⟩))
  (fun os started H enc _=>qkm os started H enc)
theorem qmr (f : FuncId) (fn : Func) (hf : Tryz.pinned.checked.prog.funcNamed "loop.example/g00196/laws.FnExactBackOne" = some f) (hfn : Tryz.pinned.checked.prog.funcs[f]? = some fn) :
  true=Tryz.pinned.checked.prog.looks []/\∀ (j:Nat) t,fn.params[j]? = some t->Tryz.pinned.checked.prog.wantsStandIn t=false:=by
 obtain rfl : f = 6 := Option.some.inj ((show Tryz.prog.funcNamed "loop.example/g00196/laws.FnExactBackOne" = some 6 by kernel_rfl).symm.trans hf) |>.symm
 obtain rfl:fn=Tryz.f6:=(Option.some.inj (Tryz.func6.symm.trans hfn)).symm
 refine ⟨by kernel_rfl,fun j t ht=>?_⟩
 rw [Tryz.params6] at ht
 have hm:=Array.mem_of_getElem? ht
 simp at hm
 rcases hm with rfl | rfl
 ·exact (show Tryz.prog.wantsStandIn 27=false by kernel_rfl)
 ·exact (show Tryz.prog.wantsStandIn 3=false by kernel_rfl)
theorem backOne_card:Rows.FnExactBackOneCardSaid:=
 Claim7.holds_tied_plain_at .later [] _ _ _ _ qo1 (fun _ h=>by cases h) (by kernel_rfl) (fun _ h=>by cases h) fnExactBackOne_row_tie rfl ⟨rfl,rfl⟩ (by kernel_rfl) rfl qmr (by kernel_rfl)
