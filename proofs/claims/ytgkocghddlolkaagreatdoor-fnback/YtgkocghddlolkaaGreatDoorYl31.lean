import Derived.Test.YtgkocghddlolkaaGreatDoorYl27
import Derived.Test.YtgkocghddlolkaaGreatDoorYl30
import Derived.Test.YtgkocghddlolkaaGreatDoorYl26
namespace Go.Proofs.YtgkocghddlolkaaGreatDoor
open Go.Proofs.Tryz
set_option maxRecDepth 100000
set_option maxHeartbeats 4000000
open Go.ChangeShapes Go.WideShapes Go.ChangeAt Go.RowKit Go.Deep
theorem qlu (x:SysIn) (p k:Int) (w:World) (hG:SysG w x) (hL:x.Len) (hcap:∀ i,i<x.hn->x.hL i<=x.hC i):
  Calls prog 7 #[x.v,.int .i64 p,.int .i64 k] w fun e w'=>∃ v,e=.returned (.tuple #[v,.int .i64 (bkC x.y p k)])/\qai false w' w.heap.size (bkY x.y p k) v/\Bw w w':=by
 have HG:Hid (SysG w x):=hG;have HLn:Hid (x.hn<=1048576/\x.pn<=1048576/\∀ i,i<x.hn->x.hL i<=1048576):=⟨hL.h.1,hL.p.1,hL.h.2⟩
 have HS:Hid (∀ wx,Bw w wx->Calls prog 18 #[x.v] wx (rB wx (.bool x.y.okB))):=fun wx hb=>qcu x wx (hG.below hb) hL hcap
 have HC4:Hid (∀ wx,Bw w wx->Calls prog 20 #[x.v] wx fun e w'=>∃ v,e=.returned v/\qai false w' wx.heap.size x.y v/\Bw wx w'):=fun wx hb=>(qdr x wx (hG.below hb) hL).mono fun e w' h=>by
  obtain ⟨v,e,o,b⟩:=h;exact ⟨v,e,o.weak,b⟩
 have HFu:Hid (x.y.okB=true->∀ wx,Bw w wx->Calls prog 21 #[x.v] wx fun e w'=>∃ u,e=.returned u/\OwnI w' wx.heap.size u (flT x.y x.hn)/\Bw wx w'):=fun _ wx hb=>qpv x wx (hG.below hb) hL;have HCl:Hid (cutB x.y (bkL x.y p.toNat k)=true->∀ wx ca cc,Bw w wx->Sl wx ca (bkL x.y p.toNat k)->Calls prog 23 #[x.v,.slice ca (bkL x.y p.toNat k).length cc] wx fun e w'=>∃ u,e=.returned u/\OwnI w' wx.heap.size u (bkE x.y p k)/\Bw wx w'):=fun ht wx ca cc hb hs=>qm2 x ca cc _ wx (hG.below hb) hcap ht hs;have HAt:Hid (x.y.okB=true->bkIn x.y p k=true->∀ wx ca cc,Bw w wx->Sl wx ca (bkE x.y p k)->Calls prog 22 #[x.v,.slice ca (bkE x.y p k).length cc] wx fun e w'=>∃ v,e=.returned (.tuple #[v,.bool (wfB (x.y.ah (cN (bkE x.y p k))))])/\qai false w' wx.heap.size (x.y.atW (cN (bkE x.y p k))) v/\Bw wx w'):=fun t hb2 wx ca cc hb hs=>qts x ca cc (bkE x.y p k) wx (hG.below hb) hL hcap (Sy.ok_of t) (qi5 (qe9 (Sy.ok_of t) hb2)) hs;have BW:Hid (Bw w ((w.alloc (x.oX)).alloc (zQ3))):=(zQ _ _).trans ((zQ _ _).mono (by simp));have NB:Hid (x.bX ((w.alloc (x.oX)).alloc (zQ3)) w.heap.size):=(BoxC.new w _ _ _ _ _).below (zQ _ _);have RB:Hid (BoxC ((w.alloc (x.oX)).alloc (zQ3)) (w.heap.size+1) nS nS nS nS/\∀ j,((w.alloc (x.oX)).alloc (zQ3)).frozen? ⟨w.heap.size+1,j,none⟩=false):=⟨⟨zW _ _ _ 0 (by simp),zW _ _ _ 1 (by simp),zW _ _ _ 2 (by simp),zW _ _ _ 3 (by simp)⟩,fun j=>yD _ _ _ _ (by simp)⟩
 have hM:w.heap.size<=w.heap.size+1:=Nat.le_succ _;clear hG hL hcap
 go_enter func7,ntmps7
 go_wp2_with fail
 generalize (w.alloc (x.oX)).alloc (zQ3)=W2 at *;refine (HS.out W2 BW.out).mono ?_;rintro e w1 ⟨rfl,q1⟩;have B1:Hid (Bw w w1/\x.bX w1 w.heap.size/\BoxC w1 (w.heap.size+1) nS nS nS nS/\∀ j,w1.frozen? ⟨w.heap.size+1,j,none⟩=false):=⟨BW.trans (q1.mono BW.size),NB.below q1,RB.1.below q1,fun j=>((qag q1).2 _ j (zJ _ _ RB.1.1)).trans (RB.2 j)⟩
 clear q1 BW NB RB HS;have LR:Hid (w.heap.size+1<w1.heap.size):=zJ _ _ B1.2.2.1.1;have HRB:Hid (∀ wx,Bw w1 wx->x.bX wx w.heap.size/\BoxC wx (w.heap.size+1) nS nS nS nS/\(∀ j,wx.frozen? ⟨w.heap.size+1,j,none⟩=false)/\w.heap.size+1<wx.heap.size):=fun wx hb=>⟨B1.2.1.below hb,B1.2.2.1.below hb,fun j=>((qag hb).2 _ j LR.out).trans (B1.2.2.2 j),zL LR.out hb.size⟩
 obtain ⟨b0,b1,b2,b3⟩:=B1.2.1
 rcases zK x.y.okB with t | t
 case inr=>
  have HV:Hid (bkC x.y p k=1/\bkY x.y p k=x.y.nil):=⟨if_neg (by rw [t];simp),if_neg (by rw [t];simp)⟩
  obtain ⟨⟨r0,r1,r2,r3⟩,rf⟩:=B1.2.2;have l1:=LR.out;rw [t];clear t;go_wp2;exact bodyPost_ret (v:=.tuple #[sysV none 0 0 none 0 0 none 0 0 none 0 0,.int .i64 1]) (by simp [results,results7,go_sem,r0,r1,r2,r3]) rfl ⟨_,by rw [HV.1],by rw [HV.2];exact qai.zero _ _ _,(((B1.1.setCell hM _).setCell hM _).setCell hM _).setCell hM _⟩
 have HO:Hid (x.y.Ok/\x.y.okB=true):=⟨Sy.ok_of t,t⟩
 have HNP:Hid (x.hn=x.pn/\x.pn<=4/\1<=x.pn):=⟨HO.1.cn.2.2.1,HO.1.cn.1.2,HO.1.cn.1.1⟩
 have h4:(x.pn:Int)<=4:=by have:=HNP.out;omega
 have h4h:(x.hn:Int)<=4:=by have:=HNP.out;omega
 rw [t];clear t;have l1:=LR.out;by_cases hb:belB p x.pn=true
 case neg=>
  have hbf:belB p x.pn=false:=by
   cases h:belB p x.pn with
   | false=>rfl
   | true=>exact absurd h hb
  have HV:Hid (bkC x.y p k=2/\bkY x.y p k=x.y):=by
   have hi:bkIn x.y p k=false:=by
    unfold bkIn;rw [show belB p x.y.pn=false from hbf];rfl
   exact ⟨by show bkC x.y p k=2;rw [bkC,if_pos HO.2,if_neg (by rw [hi];simp)],by rw [bkY,if_pos HO.2,if_neg (by rw [hi];simp)]⟩
  have HBB:Hid (inB p 0 ((x.pn:Int) - 1)=false):=by
   show inB p 0 ((x.pn:Int) - 1)=false;simp only [belB,inB,decide_eq_false_iff_not] at hbf ⊢;omega
  clear hb hbf;go_wp2_with fail
  refine (l1In_any _ _ _ _).mono ?_;rintro e w' ⟨rfl,hw⟩;have hw2:=hw.symm;subst hw2;clear hw;rw [show inB p 0 ((x.pn:Int) - 1)=false from HBB.out];go_wp2_with fail
  refine (HC4.out w1 B1.1).mono ?_;rintro e w3 ⟨v3,rfl,o3,q3⟩;obtain ⟨cq,vp,vs,vw,vh,up,us,uw,uh,rfl,o3⟩:=o3;obtain ⟨pa,pc,rfl⟩:=zU o3.p.row;obtain ⟨sa,sc,rfl⟩:=zU o3.s.row;obtain ⟨wa,wc,rfl⟩:=zU o3.t.row;obtain ⟨ha,hc,rfl⟩:=zU o3.h.row;have F3:Hid (qai false w3 w1.heap.size x.y (.agg #[.slice pa x.y.pn pc,.slice sa x.y.sn sc,.slice wa x.y.wn wc,.slice ha x.y.hn hc])/\Bw w1 w3):=⟨⟨_,_,_,_,_,_,_,_,_,rfl,o3⟩,q3⟩
  obtain ⟨-,⟨r0,r1,r2,r3⟩,rf,l1⟩:=HRB.out w3 ((Below.refl w1.heap.size w1).trans (q3.mono (Below.refl w1.heap.size w1).size));clear o3 q3;go_wp2
  exact bodyPost_ret (v := .tuple #[.agg #[.slice pa x.y.pn pc, .slice sa x.y.sn sc, .slice wa x.y.wn wc, .slice ha x.y.hn hc], .int .i64 2]) (by simp [results, results7, go_sem, r0, r1, r2, r3]) rfl ⟨_, by rw [HV.1], by
   rw [HV.2]
   exact ((((F3.1.setBelow LR.out 0 _).setBelow LR.out 1 _).setBelow LR.out 2 _).setBelow LR.out 3 _).base B1.1.size,(((((B1.1).trans (F3.2.mono B1.1.size)).setCell hM _).setCell hM _).setCell hM _).setCell hM _⟩
 obtain ⟨P,rfl,hP⟩:∃ P:Nat,p=P/\P<x.pn:=by
  simp only [belB,decide_eq_true_eq] at hb;exact ⟨p.toNat,by omega,by omega⟩
 have HBB:Hid (inB (P:Int) 0 ((x.pn:Int) - 1)=true):=by
  show inB (P:Int) 0 ((x.pn:Int) - 1)=true;simp only [belB,inB,decide_eq_true_eq] at hb ⊢;omega
 clear hb;have hPh:P<x.hn:=by have:=HNP.out;omega
 have hPh':(P:Int)<(x.hn:Int):=by omega
 have nPh:¬ (x.hn:Int)<=(P:Int):=by omega
 obtain ⟨bh,oh,eh,ch⟩:=(HG.below B1.1).h.at hPh;rw [eh] at b3;have HEH:Hid (x.ha=some (aQ bh oh)):=eh;clear eh;have hlm:x.hL P<=200:=HO.1.hl200 hP;have hlm':(x.hL P:Int)<=200:=by omega
 have HLP:Hid (x.y.hL P=x.hL P):=rfl;by_cases hk:0<=k/\k<=(x.hL P:Int)
 case neg=>
  have HV:Hid (bkC x.y (P:Int) k=2/\bkY x.y (P:Int) k=x.y):=by
   have hi:bkIn x.y (P:Int) k=false:=by
    simp only [bkIn,inB,Int.toNat_natCast,Bool.and_eq_false_iff,decide_eq_false_iff_not];exact .inr hk
   exact ⟨by show bkC x.y (P:Int) k=2;rw [bkC,if_pos HO.2,if_neg (by rw [hi];simp)],by rw [bkY,if_pos HO.2,if_neg (by rw [hi];simp)]⟩
  have HBK:Hid (inB k 0 (x.hL P:Int)=false):=by
   show inB k 0 (x.hL P:Int)=false;simp only [inB,decide_eq_false_iff_not];exact hk
  clear hk;go_wp2_with fail
  refine (l1In_any _ _ _ _).mono ?_;rintro e w' ⟨rfl,hw⟩;have hw2:=hw.symm;subst hw2;clear hw;rw [show inB (P:Int) 0 ((x.pn:Int) - 1)=true from HBB.out];go_wp2_with fail
  refine (l1In_any _ _ _ _).mono ?_;rintro e w' ⟨rfl,hw⟩;have hw2:=hw.symm;subst hw2;clear hw;rw [show inB k 0 (x.hL P:Int)=false from HBK.out];go_upto_region 4 with fail
  clear b0 b1 b2 b3 ch;obtain ⟨b0,b1,b2,b3⟩:=B1.2.1;go_wp2_with fail
  refine (HC4.out w1 B1.1).mono ?_;rintro e w3 ⟨v3,rfl,o3,q3⟩;obtain ⟨cq,vp,vs,vw,vh,up,us,uw,uh,rfl,o3⟩:=o3;obtain ⟨pa,pc,rfl⟩:=zU o3.p.row;obtain ⟨sa,sc,rfl⟩:=zU o3.s.row;obtain ⟨wa,wc,rfl⟩:=zU o3.t.row;obtain ⟨ha,hc,rfl⟩:=zU o3.h.row;have F3:Hid (qai false w3 w1.heap.size x.y (.agg #[.slice pa x.y.pn pc,.slice sa x.y.sn sc,.slice wa x.y.wn wc,.slice ha x.y.hn hc])/\Bw w1 w3):=⟨⟨_,_,_,_,_,_,_,_,_,rfl,o3⟩,q3⟩
  obtain ⟨-,⟨r0,r1,r2,r3⟩,rf,l1⟩:=HRB.out w3 ((Below.refl w1.heap.size w1).trans (q3.mono (Below.refl w1.heap.size w1).size));clear o3 q3;go_wp2
  exact bodyPost_ret (v := .tuple #[.agg #[.slice pa x.y.pn pc, .slice sa x.y.sn sc, .slice wa x.y.wn wc, .slice ha x.y.hn hc], .int .i64 2]) (by simp [results, results7, go_sem, r0, r1, r2, r3]) rfl ⟨_, by rw [HV.1], by
   rw [HV.2]
   exact ((((F3.1.setBelow LR.out 0 _).setBelow LR.out 1 _).setBelow LR.out 2 _).setBelow LR.out 3 _).base B1.1.size,(((((B1.1).trans (F3.2.mono B1.1.size)).setCell hM _).setCell hM _).setCell hM _).setCell hM _⟩
 have hk0:¬ k<0:=by omega
 have hk0':0<=k:=hk.1;have hk1:¬ (x.hL P:Int)<k:=by omega
 have hk1':k<=(x.hL P:Int):=hk.2
 have HBK:Hid (inB k 0 (x.hL P:Int)=true):=by
  show inB k 0 (x.hL P:Int)=true;simp only [inB,decide_eq_true_eq];exact hk
 have HIN:Hid (bkIn x.y (P:Int) k=true):=by
  show bkIn x.y (P:Int) k=true;simp only [bkIn,inB,belB,Int.toNat_natCast,Bool.and_eq_true,decide_eq_true_eq];exact ⟨by have:x.y.pn=x.pn:=rfl;omega,hk⟩
 have HBC:Hid (bkC x.y (P:Int) k=(if wfB (x.y.ah (cN (bkE x.y (P:Int) k)))=true then 0 else 3)/\bkY x.y (P:Int) k=(if wfB (x.y.ah (cN (bkE x.y (P:Int) k)))=true then x.y.atY (cN (bkE x.y (P:Int) k)) else x.y)):=⟨by show bkC x.y (P:Int) k=_;rw [bkC,if_pos HO.2,if_pos HIN.out],by rw [bkY,if_pos HO.2,if_pos HIN.out]⟩
 have HYW:Hid (x.y.atW (cN (bkE x.y (P:Int) k))=(if wfB (x.y.ah (cN (bkE x.y (P:Int) k)))=true then x.y.atY (cN (bkE x.y (P:Int) k)) else x.y.nil)):=rfl;have HF2:Hid (∀ wx,Bw w wx->Calls prog 21 #[x.v] wx fun e w'=>∃ u,e=.returned u/\OwnI w' wx.heap.size u (flT x.y x.hn)/\Bw wx w'):=HFu.out HO.2
 have HC2:Hid (∀ wx ca cc,Bw w wx->Sl wx ca (bkL x.y P k)->Calls prog 23 #[x.v,.slice ca x.hn cc] wx fun e w'=>∃ u,e=.returned u/\OwnI w' wx.heap.size u (bkE x.y (P:Int) k)/\Bw wx w'):=fun wx ca cc hb hs=>by
  have h:=HCl.out (qe9 HO.1 HIN.out) wx ca cc hb (by rw [Int.toNat_natCast];exact hs);rw [show (bkL x.y ((P:Int)).toNat k).length=x.hn by unfold bkL;rw [List.length_set,qci];rfl] at h;exact h
 have HA2:Hid (∀ wx ca cc,Bw w wx->Sl wx ca (bkE x.y (P:Int) k)->Calls prog 22 #[x.v,.slice ca (bkE x.y (P:Int) k).length cc] wx fun e w'=>∃ v,e=.returned (.tuple #[v,.bool (wfB (x.y.ah (cN (bkE x.y (P:Int) k))))])/\qai false w' wx.heap.size (x.y.atW (cN (bkE x.y (P:Int) k))) v/\Bw wx w'):=HAt.out HO.2 HIN.out;have HFL:Hid ((flT x.y x.hn).set P k=bkL x.y P k/\(flT x.y x.hn).length=x.hn):=⟨rfl,qci _ _⟩
 clear hk HFu HCl HAt HIN;generalize x.y.atW (cN (bkE x.y (P:Int) k))=YW at *;generalize wfB (x.y.ah (cN (bkE x.y (P:Int) k)))=wf at *;generalize x.y.atY (cN (bkE x.y (P:Int) k))=YA at *;generalize bkE x.y (P:Int) k=E at *;generalize bkL x.y P k=Lb at *;generalize flT x.y x.hn=fl at *;go_wp2_with fail
 refine (l1In_any _ _ _ _).mono ?_;rintro e w' ⟨rfl,hw⟩;have hw2:=hw.symm;subst hw2;clear hw;rw [show inB (P:Int) 0 ((x.pn:Int) - 1)=true from HBB.out];go_wp2_with fail
 refine (l1In_any _ _ _ _).mono ?_;rintro e w' ⟨rfl,hw⟩;have hw2:=hw.symm;subst hw2;clear hw;rw [show inB k 0 (x.hL P:Int)=true from HBK.out];go_upto_region 5 with fail
 clear b0 b1 b2 b3 ch;obtain ⟨b0,b1,b2,b3⟩:=B1.2.1;go_wp2_with fail
 refine (HF2.out w1 B1.1).mono ?_;rintro e w4 ⟨v4,rfl,o4,q4⟩;obtain ⟨gf,fc,rfl,hgf,hgl⟩:=o4.block (by have:=HFL.2;omega);rw [HFL.2] at o4 ⊢;have O4:Hid (OwnI w4 w1.heap.size (sG gf x.hn fc) fl/\Bw w1 w4):=⟨o4,q4⟩
 have cg:w4.cell? (aQ gf P)=some (.int .i64 (zi fl P)):=by
  have o5:OwnI w4 w1.heap.size (sG gf fl.length fc) fl:=by rw [HFL.2];exact o4
  exact o5.cell (by rw [HFL.2];exact hPh)
 have cf:w4.frozen? (aQ gf P)=false:=by
  have o5:OwnI w4 w1.heap.size (sG gf fl.length fc) fl:=by rw [HFL.2];exact o4
  exact o5.frozen P
 have F4:Hid (Sl (w4.setCell (aQ gf P) (.int .i64 k)) (some (aQ gf 0)) Lb/\Bw w1 (w4.setCell (aQ gf P) (.int .i64 k))):=by
  have h:=(o4.set (n:=x.hn) HFL.2.symm P k)
  refine ⟨?_,q4.setCell hgf _⟩;have hs:=h.1;rw [HFL.1] at hs;have hl:Lb.length=x.hn:=by rw [<- HFL.1,List.length_set,HFL.2]
  rw [<- hl] at hs;exact hs.slOf
 clear o4 q4;go_upto_region 7 with fail
 clear cg cf hgf O4 HFL;generalize w4.setCell (aQ gf P) (.int .i64 k)=w5 at *;clear hgl w4;obtain ⟨⟨b0,b1,b2,b3⟩,-,-,-⟩:=HRB.out w5 F4.2
 go_cut [9,10] from 43 to 48 (fun s t wx=>∃ N:Nat,s=.pointer (some (aQ N 0))/\t=.bool wf/\Hid (∃ pa pc sa sc wa wc ha hc,qai false wx w1.heap.size YW (.agg #[.slice pa YW.pn pc,.slice sa YW.sn sc,.slice wa YW.wn wc,.slice ha YW.hn hc])/\Bw w1 wx/\BoxC wx N (.slice pa YW.pn pc) (.slice sa YW.sn sc) (.slice wa YW.wn wc) (.slice ha YW.hn hc)))
 case first=>
  have q0:Bw w5 w5.drew:=(Below.refl w5.heap.size w5).drew;refine qah (fun w'=>x.bX w' w.heap.size) (fun _=>false) (by kernel_rfl) ?_;have hB5:∀ wx,Bw w5 wx->x.bX wx w.heap.size:=fun wx hb=>BoxC.below (w:=w5) ⟨b0,b1,b2,b3⟩ hb;have hHeld:(fun w':World=>x.bX w' w.heap.size) w5.drew:=hB5 _ q0;have hBW:∀ wx,Bw w5 wx->Bw w wx:=fun wx hb=>(B1.1.trans (F4.2.mono B1.1.size)).trans (hb.mono (B1.1.trans (F4.2.mono B1.1.size)).size);refine qax [0,1,2] ?_;iterate 3 (refine qa8 rfl hHeld ?_)
  refine qaq ?_;have sz:w1.heap.size<=w5.heap.size:=F4.2.size;have lb:w.heap.size+1<w5.heap.size:=zL l1 sz;refine qep 3 8 rfl rfl (by kernel_rfl) (fun K hK=>?_) (fun K hK=>?_)
  ·have q0':=q0
   refine qaf rfl 23 _ _ rfl #[x.v,.slice (some (aQ gf 0)) x.hn fc] (by simp [Act.eval,SysIn.v,sysV]) (yB func23 (by kernel_rfl) rfl) (HC2.out w5.drew _ fc (hBW _ q0') (F4.1.below q0')) ?_;rintro e w6 ⟨u6,rfl,o6,d6⟩;obtain ⟨e6,c6,rfl,s6⟩:=o6.form;refine ⟨_,rfl,?_⟩;have q6:Bw w5 w6:=q0'.trans (d6.mono q0'.size);refine hK.out _ _ (fun _=>hB5 _ q6) ?_;clear hK K
   (try simp only [Act.put,zD,zE,zF])
   refine qep 4 8 rfl rfl (by kernel_rfl) (fun K hK=>?_) (fun K hK=>?_)
   ·have s6':=s6
    refine qaf rfl 22 _ _ rfl #[x.v,.slice e6 E.length c6] (by simp [Act.eval,SysIn.v,sysV]) (yB func22 (by kernel_rfl) rfl) (HA2.out w6 _ c6 (hBW _ q6) s6') ?_;rintro e w7 ⟨v7,rfl,o7,d7⟩;obtain ⟨cq,vp,vs,vw,vh,up,us,uw,uh,rfl,o7⟩:=o7;obtain ⟨pa,pc,rfl⟩:=zU o7.p.row;obtain ⟨sa,sc,rfl⟩:=zU o7.s.row;obtain ⟨wa,wc,rfl⟩:=zU o7.t.row;obtain ⟨ha,hc,rfl⟩:=zU o7.h.row;have O7:qai false w7 (w6).heap.size YW (.agg #[.slice pa YW.pn pc,.slice sa YW.sn sc,.slice wa YW.wn wc,.slice ha YW.hn hc]):=⟨_,_,_,_,_,_,_,_,_,rfl,o7⟩
    refine ⟨_,rfl,?_⟩;have q7:Bw w5 w7:=q6.trans (d7.mono q6.size);refine hK.out _ _ (fun _=>hB5 _ q7) ?_;clear hK K o7;have hHeld:(fun w':World=>x.bX w' w.heap.size) w7:=hB5 _ q7;refine qax [5,6,7] ?_;iterate 3 (refine qa8 rfl hHeld ?_)
    refine qaq ?_;refine qab 8 rfl (by kernel_rfl) (fun K hK=>?_);go_simp;have qa:=q7.trans ((zQ w7 (zQ3)).mono q7.size);refine hK.out _ _ (fun _=>hB5 _ qa) ?_;clear hK K hHeld
    (try simp only [Act.put,zD,zE,zF])
    refine qab 9 rfl (by kernel_rfl) (fun K hK=>?_);go_simp;have qb:=q7.trans ((zQ w7 (oQ4 pa YW.pn pc sa YW.sn sc wa YW.wn wc ha YW.hn hc)).mono q7.size);refine hK.out _ _ (fun _=>hB5 _ qb) ?_;clear hK K;have hHeld:(fun w':World=>x.bX w' w.heap.size) (w7.alloc (oQ4 pa YW.pn pc sa YW.sn sc wa YW.wn wc ha YW.hn hc)):=hB5 _ qb;refine qbk 10 rfl hHeld ?_;refine qan (by kernel_rfl) ?_ _;go_wp2_with fail
    go_meet
    case rel=>exact ⟨w7.heap.size,by with_reducible rfl,by with_reducible rfl,_,_,_,_,_,_,_,_,(O7.below (zQ _ _)).base (zP sz q6.size),F4.2.trans (qb.mono sz),BoxC.new w7 _ _ _ _ _⟩
   ·go_simp
    have qa:=q6.trans ((zQ w6 (zQ3)).mono q6.size);have sA:Sl (w6.alloc (zQ3)) e6 E:=s6.below (zQ _ _);have bN:BoxC (w6.alloc (zQ3)) w6.heap.size nS nS nS nS:=BoxC.new w6 _ _ _ _ _;have fN:∀ j,(w6.alloc (zQ3)).frozen? ⟨w6.heap.size,j,none⟩=false:=fun j=>yD _ _ _ _ rfl;have zN:w6.heap.size<(w6.alloc (zQ3)).heap.size:=by simp
    have sN6:w5.heap.size<=w6.heap.size:=q6.size;refine hK.out _ _ (fun _=>hB5 _ qa) ?_;clear hK K
    (try simp only [Act.put,zD,zE,zF])
    refine qab 4 rfl (by kernel_rfl) (fun K hK=>?_);generalize w6.heap.size=N at *;generalize w6.alloc (zQ3)=wA at *;refine qaf rfl 22 _ _ rfl #[x.v,.slice e6 E.length c6] (by simp [Act.eval,SysIn.v,sysV]) (yB func22 (by kernel_rfl) rfl) (HA2.out wA _ c6 (hBW _ qa) sA) ?_;rintro e w7 ⟨v7,rfl,o7,d7⟩;obtain ⟨cq,vp,vs,vw,vh,up,us,uw,uh,rfl,o7⟩:=o7;obtain ⟨pa,pc,rfl⟩:=zU o7.p.row;obtain ⟨sa,sc,rfl⟩:=zU o7.s.row;obtain ⟨wa,wc,rfl⟩:=zU o7.t.row;obtain ⟨ha,hc,rfl⟩:=zU o7.h.row;have O7:qai false w7 (wA).heap.size YW (.agg #[.slice pa YW.pn pc,.slice sa YW.sn sc,.slice wa YW.wn wc,.slice ha YW.hn hc]):=⟨_,_,_,_,_,_,_,_,_,rfl,o7⟩
    refine ⟨_,rfl,?_⟩;have q7:Bw w5 w7:=qa.trans (d7.mono qa.size);refine hK.out _ _ (fun _=>hB5 _ q7) ?_;clear hK K o7;have hHeld:(fun w':World=>x.bX w' w.heap.size) w7:=hB5 _ q7;refine qax [5,6,7] ?_;iterate 3 (refine qa8 rfl hHeld ?_)
    refine qaq ?_;obtain ⟨n0,n1,n2,n3⟩:=bN.below d7;have nf:∀ j,w7.frozen? ⟨N,j,none⟩=false:=fun j=>((qag d7).2 _ j zN).trans (fN j);refine qab 9 rfl (by kernel_rfl) (fun K hK=>?_);go_simp;have qb:Bw w5 ((((w7.setCell (aQ N 0) (.slice pa YW.pn pc)).setCell (aQ N 1) (.slice sa YW.sn sc)).setCell (aQ N 2) (.slice wa YW.wn wc)).setCell (aQ N 3) (.slice ha YW.hn hc)):=(((q7.setCell sN6 _).setCell sN6 _).setCell sN6 _).setCell sN6 _;refine hK.out _ _ (fun _=>hB5 _ qb) ?_;clear hK K hHeld;have hHeld:(fun w':World=>x.bX w' w.heap.size) ((((w7.setCell (aQ N 0) (.slice pa YW.pn pc)).setCell (aQ N 1) (.slice sa YW.sn sc)).setCell (aQ N 2) (.slice wa YW.wn wc)).setCell (aQ N 3) (.slice ha YW.hn hc)):=hB5 _ qb;refine qbk 10 rfl hHeld ?_;refine qan (by kernel_rfl) ?_ _;go_wp2_with fail
    go_meet
    case rel=>exact ⟨N,by with_reducible rfl,by with_reducible rfl,_,_,_,_,_,_,_,_,((((O7.setBelow zN 0 _).setBelow zN 1 _).setBelow zN 2 _).setBelow zN 3 _).base (zP sz qa.size),F4.2.trans (qb.mono sz),BoxC.set4 ⟨n0,n1,n2,n3⟩ _ _ _ _⟩
  ·go_simp
   have qa0:=(zQ w5 (zQ3)).drew;have bN:BoxC (w5.alloc (zQ3)).drew w5.heap.size nS nS nS nS:=(BoxC.new w5 _ _ _ _ _).below (Below.refl _ _).drew;have fN:∀ j,(w5.alloc (zQ3)).drew.frozen? ⟨w5.heap.size,j,none⟩=false:=fun j=>(World.frozen?_drew _ _).trans (yD _ _ _ _ rfl);have zN:w5.heap.size<(w5.alloc (zQ3)).drew.heap.size:=by simp
   refine hK.out _ _ (fun _=>hB5 _ qa0) ?_;clear hK K
   (try simp only [Act.put,zD,zE,zF])
   refine qab 3 rfl (by kernel_rfl) (fun K hK=>?_);obtain ⟨N,hNN⟩:∃ N,N=w5.heap.size:=⟨_,rfl⟩
   have sN6:w5.heap.size<=N:=by omega
   have bN:BoxC (w5.alloc (zQ3)).drew N nS nS nS nS:=by rw [hNN];exact bN
   have fN:∀ j,(w5.alloc (zQ3)).drew.frozen? ⟨N,j,none⟩=false:=by rw [hNN];exact fN
   have zN:N<(w5.alloc (zQ3)).drew.heap.size:=by rw [hNN];exact zN
   rw [<- hNN];clear hNN;generalize (w5.alloc (zQ3)).drew=wC at *;refine qaf rfl 23 _ _ rfl #[x.v,.slice (some (aQ gf 0)) x.hn fc] (by simp [Act.eval,SysIn.v,sysV]) (yB func23 (by kernel_rfl) rfl) (HC2.out wC _ fc (hBW _ qa0) (F4.1.below qa0)) ?_;rintro e w6 ⟨u6,rfl,o6,d6⟩;obtain ⟨e6,c6,rfl,s6⟩:=o6.form;refine ⟨_,rfl,?_⟩;have q6:Bw w5 w6:=qa0.trans (d6.mono qa0.size);refine hK.out _ _ (fun _=>hB5 _ q6) ?_;clear hK K
   (try simp only [Act.put,zD,zE,zF])
   refine qab 4 rfl (by kernel_rfl) (fun K hK=>?_);have qa:=q6;have sA:=s6;have fN:∀ j,w6.frozen? ⟨N,j,none⟩=false:=fun j=>((qag d6).2 _ j zN).trans (fN j);have bN:=bN.below d6;have zN:N<w6.heap.size:=zL zN d6.size;refine qaf rfl 22 _ _ rfl #[x.v,.slice e6 E.length c6] (by simp [Act.eval,SysIn.v,sysV]) (yB func22 (by kernel_rfl) rfl) (HA2.out w6 _ c6 (hBW _ qa) sA) ?_;rintro e w7 ⟨v7,rfl,o7,d7⟩;obtain ⟨cq,vp,vs,vw,vh,up,us,uw,uh,rfl,o7⟩:=o7;obtain ⟨pa,pc,rfl⟩:=zU o7.p.row;obtain ⟨sa,sc,rfl⟩:=zU o7.s.row;obtain ⟨wa,wc,rfl⟩:=zU o7.t.row;obtain ⟨ha,hc,rfl⟩:=zU o7.h.row;have O7:qai false w7 (w6).heap.size YW (.agg #[.slice pa YW.pn pc,.slice sa YW.sn sc,.slice wa YW.wn wc,.slice ha YW.hn hc]):=⟨_,_,_,_,_,_,_,_,_,rfl,o7⟩
   refine ⟨_,rfl,?_⟩;have q7:Bw w5 w7:=qa.trans (d7.mono qa.size);refine hK.out _ _ (fun _=>hB5 _ q7) ?_;clear hK K o7;have hHeld:(fun w':World=>x.bX w' w.heap.size) w7:=hB5 _ q7;refine qax [5,6,7] ?_;iterate 3 (refine qa8 rfl hHeld ?_)
   refine qaq ?_;obtain ⟨n0,n1,n2,n3⟩:=bN.below d7;have nf:∀ j,w7.frozen? ⟨N,j,none⟩=false:=fun j=>((qag d7).2 _ j zN).trans (fN j);refine qab 9 rfl (by kernel_rfl) (fun K hK=>?_);go_simp;have qb:Bw w5 ((((w7.setCell (aQ N 0) (.slice pa YW.pn pc)).setCell (aQ N 1) (.slice sa YW.sn sc)).setCell (aQ N 2) (.slice wa YW.wn wc)).setCell (aQ N 3) (.slice ha YW.hn hc)):=(((q7.setCell sN6 _).setCell sN6 _).setCell sN6 _).setCell sN6 _;refine hK.out _ _ (fun _=>hB5 _ qb) ?_;clear hK K hHeld;have hHeld:(fun w':World=>x.bX w' w.heap.size) ((((w7.setCell (aQ N 0) (.slice pa YW.pn pc)).setCell (aQ N 1) (.slice sa YW.sn sc)).setCell (aQ N 2) (.slice wa YW.wn wc)).setCell (aQ N 3) (.slice ha YW.hn hc)):=hB5 _ qb;refine qbk 10 rfl hHeld ?_;refine qan (by kernel_rfl) ?_ _;go_wp2_with fail
   go_meet
   case rel=>exact ⟨N,by with_reducible rfl,by with_reducible rfl,_,_,_,_,_,_,_,_,((((O7.setBelow zN 0 _).setBelow zN 1 _).setBelow zN 2 _).setBelow zN 3 _).base (zP sz qa.size),F4.2.trans (qb.mono sz),BoxC.set4 ⟨n0,n1,n2,n3⟩ _ _ _ _⟩
 case rest=>
  obtain ⟨N,rfl,rfl,HT⟩:=hcut;obtain ⟨pa,pc,sa,sc,wa,wc,ha,hc,hOw,hBe,hBx⟩:=HT.out;rename_i w7;have F7:Hid (qai false w7 w1.heap.size YW (.agg #[.slice pa YW.pn pc,.slice sa YW.sn sc,.slice wa YW.wn wc,.slice ha YW.hn hc])/\Bw w1 w7/\BoxC w7 N (.slice pa YW.pn pc) (.slice sa YW.sn sc) (.slice wa YW.wn wc) (.slice ha YW.hn hc)):=⟨hOw,hBe,hBx⟩
  clear hOw hBe hBx HT b0 b1 b2 b3;cases wf with
  | false=>
   have HV:Hid (bkC x.y (P:Int) k=3/\bkY x.y (P:Int) k=x.y):=⟨by rw [HBC.1];rfl,by rw [HBC.2];rfl⟩
   obtain ⟨⟨b0,b1,b2,b3⟩,-,-,-⟩:=HRB.out w7 F7.2.1;go_wp2_with fail
   refine (HC4.out w7 (B1.1.trans (F7.2.1.mono B1.1.size))).mono ?_;rintro e w3 ⟨v3,rfl,o3,q3⟩;obtain ⟨cq,vp,vs,vw,vh,up,us,uw,uh,rfl,o3⟩:=o3;obtain ⟨pa,pc,rfl⟩:=zU o3.p.row;obtain ⟨sa,sc,rfl⟩:=zU o3.s.row;obtain ⟨wa,wc,rfl⟩:=zU o3.t.row;obtain ⟨ha,hc,rfl⟩:=zU o3.h.row;have F3:Hid (qai false w3 w7.heap.size x.y (.agg #[.slice pa x.y.pn pc,.slice sa x.y.sn sc,.slice wa x.y.wn wc,.slice ha x.y.hn hc])/\Bw w7 w3):=⟨⟨_,_,_,_,_,_,_,_,_,rfl,o3⟩,q3⟩
   obtain ⟨-,⟨r0,r1,r2,r3⟩,rf,l1⟩:=HRB.out w3 ((F7.2.1).trans (q3.mono (F7.2.1).size));clear o3 q3;go_wp2
   exact bodyPost_ret (v := .tuple #[.agg #[.slice pa x.y.pn pc, .slice sa x.y.sn sc, .slice wa x.y.wn wc, .slice ha x.y.hn hc], .int .i64 3]) (by simp [results, results7, go_sem, r0, r1, r2, r3]) rfl ⟨_, by rw [HV.1], by
    rw [HV.2]
    exact ((((F3.1.setBelow (zL LR.out F7.2.1.size) 0 _).setBelow (zL LR.out F7.2.1.size) 1 _).setBelow (zL LR.out F7.2.1.size) 2 _).setBelow (zL LR.out F7.2.1.size) 3 _).base (B1.1.trans (F7.2.1.mono B1.1.size)).size,((((((B1.1.trans (F7.2.1.mono B1.1.size))).trans (F3.2.mono (B1.1.trans (F7.2.1.mono B1.1.size)).size)).setCell hM _).setCell hM _).setCell hM _).setCell hM _⟩
  | true=>
   have HV:Hid (bkC x.y (P:Int) k=0/\bkY x.y (P:Int) k=YA/\YW=YA):=⟨by rw [HBC.1];rfl,by rw [HBC.2];rfl,HYW.out⟩
   obtain ⟨-,⟨r0,r1,r2,r3⟩,rf,l7⟩:=HRB.out w7 F7.2.1;obtain ⟨n0,n1,n2,n3⟩:=F7.2.2;have lN:N<w7.heap.size:=zJ _ _ n0;go_wp2
   exact bodyPost_ret (v := .tuple #[.agg #[.slice pa YW.pn pc, .slice sa YW.sn sc, .slice wa YW.wn wc, .slice ha YW.hn hc], .int .i64 0]) (by simp [results, results7, go_sem, r0, r1, r2, r3]) rfl ⟨_, by rw [HV.1], by
    rw [HV.2.1,<- HV.2.2]
    exact ((((F7.1.setBelow l1 0 _).setBelow l1 1 _).setBelow l1 2 _).setBelow l1 3 _).base B1.1.size,(((((B1.1.trans (F7.2.1.mono B1.1.size))).setCell hM _).setCell hM _).setCell hM _).setCell hM _⟩
open Go.Sort Go.Maps
theorem qjh (x:SysIn) (p i q j:Int) (w:World) (hG:SysG w x) (hL:x.Len) (hcap:∀ i,i<x.hn->x.hL i<=x.hC i) (hV:w.cell? ⟨0,0,none⟩=some (.iface 195 (.agg #[.pointer (some ⟨1,132,none⟩)]))):
  Calls prog 11 #[x.v,.int .i64 p,.int .i64 i,.int .i64 q,.int .i64 j] w (rB w (.bool (hgB x.y p i q j))):=by
 have HV0:0<w.heap.size:=zJ w _ hV;have HX:Hid (HgX w x p i q j (((w.alloc (x.oX)).alloc (oQ5 p i)).alloc (oQ5 q j))):=HgX.new w x p i q j
 have HA:Hid (∀ wx b,Bw w wx->b<wx.heap.size->SpAt wx b 2 (fun k=>if k=0 then (p,i) else (q,j))->Calls prog 33 #[x.v,.slice (some ⟨b,0,none⟩) 2 2] wx (rB wx (.bool (bothB x.y p i q j)))):=fun wx b hb hbl hs=>by
  have h:=qqi x b 2 2 (fun k=>if k=0 then (p,i) else (q,j)) wx (hG.below hb) hL ((hb.cell (p:=(aQ 0 0)) HV0).trans hV) hbl (by omega) hs;rw [qvg] at h;exact h
 have HCk:Hid (bothB x.y p i q j=true->∀ wx,Bw w wx->Calls prog 34 #[x.v] wx fun e w'=>∃ b,e=.returned (.map (some b))/\Bw wx w'/\∀ wy,Bw w' wy->Calls prog 35 #[.map (some b),sptV p i,sptV q j] wy ((rB wy (.bool (hgN x.y p.toNat i.toNat q.toNat j.toNat))))/\Calls prog 35 #[.map (some b),sptV q j,sptV p i] wy ((rB wy (.bool (hgN x.y q.toNat j.toNat p.toNat i.toNat))))):=fun h wx hb=>by
  simp only [bothB,Bool.and_eq_true] at h;obtain ⟨hO,a,c,rfl,rfl,ha,hc⟩:=qiq h.1;obtain ⟨-,a',c',rfl,rfl,ha',hc'⟩:=qiq h.2;refine (qku x wx (hG.below hb) hcap hO).mono ?_;rintro e w' ⟨b,D,d,rfl,hb0,hd,hC,hbw⟩;have hbl:b<w'.heap.size:=hC.own.lt;have h4:=hO.cn.1.2;refine ⟨b,rfl,hbw,fun wy hy=>?_⟩;have hC':Ckm wy b x.y d D:=hC.blk (hy.block b hbl);have hbl':b<wy.heap.size:=zL hbl hy.size;have h5:=hO.hl200 ha;have h6:=hO.hl200 ha';exact ⟨qn5 b x.y d D a c a' c' wy hC' hbl' h4 ha (by rw [hd a ha];exact hc) (by omega) ha',qn5 b x.y d D a' c' a c wy hC' hbl' h4 ha' (by rw [hd a' ha'];exact hc') (by omega) ha⟩
 have HR:Hid (hgB x.y p i q j=(bothB x.y p i q j && hgN x.y p.toNat i.toNat q.toNat j.toNat)):=rfl;generalize hgB x.y p i q j=R at *;generalize bothB x.y p i q j=T at *;generalize hgN x.y p.toNat i.toNat q.toNat j.toNat=V at *;clear hG hL hcap hV HV0
 go_enter func11,ntmps11
 go_upto_region 2 with fail
 generalize ((w.alloc (x.oX)).alloc (oQ5 p i)).alloc (oQ5 q j)=W2 at *;have q0:Bw W2 W2.drew:=(Below.refl W2.heap.size W2).drew;have hS:∀ wx,Bw W2 wx->(fun w':World=>x.bX w' w.heap.size/\BoxS w' (w.heap.size+1) (.int .i64 p) (.int .i64 i)/\BoxS w' (w.heap.size+1+1) (.int .i64 q) (.int .i64 j)) wx:=fun wx hb=>⟨(HX.below hb).bs,(HX.below hb).s1,(HX.below hb).s2⟩
 have hBW:∀ wx,Bw W2 wx->Bw w wx:=fun wx hb=>(HX.below hb).be;refine qah (fun w':World=>x.bX w' w.heap.size/\BoxS w' (w.heap.size+1) (.int .i64 p) (.int .i64 i)/\BoxS w' (w.heap.size+1+1) (.int .i64 q) (.int .i64 j)) (fun _=>false) (by kernel_rfl) ?_;have hHeld:(fun w':World=>x.bX w' w.heap.size/\BoxS w' (w.heap.size+1) (.int .i64 p) (.int .i64 i)/\BoxS w' (w.heap.size+1+1) (.int .i64 q) (.int .i64 j)) W2.drew:=hS _ q0;refine qax [0,1,2] ?_;iterate 3 (refine qa8 rfl hHeld ?_)
 refine qaq ?_;refine qab 3 rfl (by kernel_rfl) (fun K hK=>?_);go_simp;have q3:Bw W2 (W2.drew.alloc (.cells #[.int .i64 p,.int .i64 i,.int .i64 q,.int .i64 j] 60)):=q0.trans ((zT _ _).mono q0.size);refine hK.out _ _ (fun _=>hS _ q3) ?_;clear hK K hHeld
 (try simp only [Act.put,zD,zE,zF])
 have SP:SpAt (W2.drew.alloc (.cells #[.int .i64 p,.int .i64 i,.int .i64 q,.int .i64 j] 60)) W2.drew.heap.size 2 (fun k=>if k=0 then (p,i) else (q,j)):=SpAt.two _ _ _ _ _ _;refine qab 4 rfl (by kernel_rfl) (fun K hK=>?_);refine qcn rfl 33 _ _ rfl #[x.v,.slice (some (aQ W2.drew.heap.size 0)) 2 2] (by simp [Act.eval,SysIn.v,sysV]) (yB func33 (by kernel_rfl) rfl) (HA.out _ _ (hBW _ q3) (by simp) SP) ?_;rintro e w4 ⟨rfl,b4⟩;refine ⟨_,rfl,?_⟩;have q4:Bw W2 w4:=q3.trans (b4.mono q3.size);refine hK.out _ _ (fun _=>hS _ q4) ?_;have hHeld:(fun w':World=>x.bX w' w.heap.size/\BoxS w' (w.heap.size+1) (.int .i64 p) (.int .i64 i)/\BoxS w' (w.heap.size+1+1) (.int .i64 q) (.int .i64 j)) w4:=hS _ q4;clear hK K b4 SP HA;refine qbk 5 rfl hHeld ?_;cases T with
 | false=>
  refine qga 6 rfl ?_
  (try simp only [Act.put,zD,zE,zF])
  refine qga 7 rfl ?_
  (try simp only [Act.put,zD,zE,zF])
  refine qga 8 rfl ?_
  (try simp only [Act.put,zD,zE,zF])
  refine qga 9 rfl ?_
  (try simp only [Act.put,zD,zE,zF])
  refine qga 10 rfl ?_;refine qbk 11 rfl hHeld ?_;refine qbk 12 rfl hHeld ?_;refine qan (by kernel_rfl) ?_ _;have B4:Hid (Bw w w4):=hBW _ q4;clear hHeld q0 q3 q4 hS hBW HX HCk;go_wp2;go_ret;exact ⟨by rw [HR.out];rfl,B4.out⟩
 | true=>
  refine qax [6,8,9] ?_;iterate 3 (refine qa8 rfl hHeld ?_)
  refine qaq ?_;refine qab 7 rfl (by kernel_rfl) (fun K hK=>?_);refine qcn rfl 34 _ _ rfl #[x.v] (by simp [Act.eval,SysIn.v,sysV]) (yB func34 (by kernel_rfl) rfl) (HCk.out rfl _ (hBW _ q4)) ?_;rintro e w5 ⟨b,rfl,b5,hH⟩;refine ⟨_,rfl,?_⟩;have q5:Bw W2 w5:=q4.trans (b5.mono q4.size);refine hK.out _ _ (fun _=>hS _ q5) ?_;clear hK K b5 hHeld;have hHeld:(fun w':World=>x.bX w' w.heap.size/\BoxS w' (w.heap.size+1) (.int .i64 p) (.int .i64 i)/\BoxS w' (w.heap.size+1+1) (.int .i64 q) (.int .i64 j)) w5:=hS _ q5
  (try simp only [Act.put,zD,zE,zF])
  refine qab 10 rfl (by kernel_rfl) (fun K hK=>?_);refine qcn rfl 35 _ _ rfl #[.map (some b),sptV p i,sptV q j] (by simp [Act.eval]) (yB func35 (by kernel_rfl) rfl) (hH w5 (Below.refl _ _)).1 ?_;rintro e w6 ⟨rfl,b6⟩;refine ⟨_,rfl,?_⟩;have q6:Bw W2 w6:=q5.trans (b6.mono q5.size);refine hK.out _ _ (fun _=>hS _ q6) ?_;clear hK K b6 hHeld hH;have hHeld:(fun w':World=>x.bX w' w.heap.size/\BoxS w' (w.heap.size+1) (.int .i64 p) (.int .i64 i)/\BoxS w' (w.heap.size+1+1) (.int .i64 q) (.int .i64 j)) w6:=hS _ q6;refine qbk 11 rfl hHeld ?_;refine qbk 12 rfl hHeld ?_;refine qan (by kernel_rfl) ?_ _;have B6:Hid (Bw w w6):=hBW _ q6;clear hHeld q0 q3 q4 q5 q6 hS hBW HX HCk;go_wp2;go_ret;exact ⟨by rw [HR.out];rfl,B6.out⟩
theorem qh6 (a0 a1:Option Addr) (n c0 c1:Nat) (h:Nat->E3) (w:World) (hlen:n<=1048576) (h0:EvL w a0 n h) (h1:EvL w a1 n h):
  Calls prog 24 #[.slice a0 n c0,.slice a1 n c1] w (rB w (.bool true)):=by
 have hl':(n:Int)<=1048576:=by omega
 have H0:Hid (EvL w a0 n h):=h0;have H1:Hid (EvL w a1 n h):=h1;clear h0 h1
 go_enter func24,ntmps24
 go_wp2_with fail
 go_loopw [5] (fun i wr=>∃ k:Nat,k<=n/\i=.int .i64 k/\Bw w wr) (fun i _=>n - (intOf i).toNat)
 case atStart=>exact ⟨0,Nat.zero_le _,rfl,Below.refl _ _⟩
 case round=>
  obtain ⟨k,hk,rfl,hbw⟩:=hrel;by_cases hlt:k<n
  ·obtain ⟨b,off,rfl,hbl,ck0,ck1,ck2⟩:=(H0.below hbw).at hlt
   obtain ⟨b',off',rfl,hbl',ck0',ck1',ck2'⟩:=(H1.below hbw).at hlt;have hlt':(k:Int)<(n:Int):=by omega
   go_wp2_with fail
   go_quiet (fail)
   go_wp2;go_roundw
   case rel=>exact ⟨k+1,by omega,by go_num,yE hbw _⟩
   case measure=>simp [intOf];omega
  ·go_wp2
   go_ret;exact ⟨rfl,hbw⟩
structure Tw (w:World) (N:Nat) (x x':SysIn):Prop where
 g:SysG w x
 g':SysG w x'
 b:x.bX w N
 b':BoxC w (N+1) (.slice x'.pa x'.pn x'.pc) (.slice x'.sa x'.sn x'.sc) (.slice x'.wa x'.wn x'.wc) (.slice x'.ha x'.hn x'.hc)
theorem Tw.below {w w':World} {N:Nat} {x x':SysIn} (h:Tw w N x x') (hb:Bw w w'):Tw w' N x x':=⟨h.g.below hb,h.g'.below hb,h.b.below hb,h.b'.below hb⟩
theorem Tw.new (w:World) (x x':SysIn) (hG:SysG w x) (hG':SysG w x'):Tw ((w.alloc (x.oX)).alloc (oQ4 x'.pa x'.pn x'.pc x'.sa x'.sn x'.sc x'.wa x'.wn x'.wc x'.ha x'.hn x'.hc)) w.heap.size x x':=by
 have hb:Bw w ((w.alloc (x.oX)).alloc (oQ4 x'.pa x'.pn x'.pc x'.sa x'.sn x'.sc x'.wa x'.wn x'.wc x'.ha x'.hn x'.hc)):=(zQ _ _).trans ((zQ _ _).mono (by simp));refine ⟨hG.below hb,hG'.below hb,(BoxC.new w _ _ _ _ _).below (zQ _ _),?_⟩;have h:=BoxC.new (w.alloc (x.oX)) (.slice x'.pa x'.pn x'.pc) (.slice x'.sa x'.sn x'.sc) (.slice x'.wa x'.wn x'.wc) (.slice x'.ha x'.hn x'.hc) 29
 (try dsimp only [aW] at h);rw [World.size_alloc] at h
 exact h
theorem EvL.congr {w:World} {a:Option Addr} {n:Nat} {h h':Nat->E3} (o:EvL w a n h) (e:∀ i,i<n->h' i=h i):EvL w a n h':=by
 rcases o with o | ⟨b,off,ea,hb,o⟩
 ·exact .inl o
 ·exact .inr ⟨b,off,ea,hb,fun i hi=>by rw [e i hi];exact o i hi⟩
def Sy.EqH (y' y:Sy):Prop:=y'.hn=y.hn/\∀ k,k<y.hn->y'.hL k=y.hL k/\∀ i,i<y.hL k->y'.hH k i=y.hH k i
theorem qnc (x x':SysIn) (w:World) (hy:x'.y.EqH x.y) (hG:SysG w x) (hG':SysG w x') (hL:x.Len):
  Calls prog 8 #[x.v,x'.v] w (rB w (.bool true)):=by
 have hn:x'.hn=x.hn:=hy.1;have hl':(x.hn:Int)<=1048576:=by have:=hL.h.1;omega
 have T0:Hid (Tw ((w.alloc (x.oX)).alloc (oQ4 x'.pa x'.pn x'.pc x'.sa x'.sn x'.sc x'.wa x'.wn x'.wc x'.ha x'.hn x'.hc)) w.heap.size x x'):=Tw.new w x x' hG hG';have B0:Hid (Below w.heap.size w ((w.alloc (x.oX)).alloc (oQ4 x'.pa x'.pn x'.pc x'.sa x'.sn x'.sc x'.wa x'.wn x'.wc x'.ha x'.hn x'.hc))):=(zQ _ _).trans ((zQ _ _).mono (by simp));have HY:Hid (x'.y.EqH x.y/\x.Len):=⟨hy,hL⟩
 have HQ:Hid (x'.hn=x.hn):=hn;clear hG hG' hL hy hn
 go_enter func8,ntmps8
 go_upto_region 1 with fail
 generalize (w.alloc (x.oX)).alloc (oQ4 x'.pa x'.pn x'.pc x'.sa x'.sn x'.sc x'.wa x'.wn x'.wc x'.ha x'.hn x'.hc)=W2 at *;generalize hNN:w.heap.size=N at *;have HNN:Hid (w.heap.size=N):=hNN;clear hNN;obtain ⟨x0,x1,x2,x3⟩:=T0.b;obtain ⟨y0,y1,y2,y3⟩:=T0.b';rw [HQ.out] at y3;go_wp2_with fail
 clear x0 x1 x2 x3 y0 y1 y2 y3
 go_loopw [5] (fun i wr=>∃ k:Nat,k<=x.hn/\i=.int .i64 k/\Hid (Tw wr N x x'/\Below N w wr)) (fun i _=>x.hn - (intOf i).toNat)
 case atStart=>exact ⟨0,Nat.zero_le _,rfl,T0.out,B0.out⟩
 case round=>
  obtain ⟨k,hk,rfl,HT⟩:=hrel;obtain ⟨x0,x1,x2,x3⟩:=HT.1.b;obtain ⟨y0,y1,y2,y3⟩:=HT.1.b';rw [HQ.out] at y3;have lN:N<wr.heap.size:=zJ wr _ x0;have lM:N+1<wr.heap.size:=zJ wr _ y0;by_cases hlt:k<x.hn
  ·have hlt':(k:Int)<(x.hn:Int):=by omega
   have nlt:¬ (x.hn:Int)<=(k:Int):=by omega
   have eL:x'.hL k=x.hL k:=(HY.1.2 k hlt).1;have eH:∀ i,i<x.hL k->x.hH k i=x'.hH k i:=fun i hi=>((HY.1.2 k hlt).2 i hi).symm;obtain ⟨b,off,ea,ck⟩:=HT.1.g.h.at hlt;obtain ⟨b',off',ea',ck'⟩:=HT.1.g'.h.at (show k<x'.hn by rw [HQ.out];exact hlt);rw [eL] at ck';have E:Hid (EvL wr (x.hA k) (x.hL k) (x.hH k)/\EvL wr (x'.hA k) (x.hL k) (x.hH k)/\x.hL k<=1048576):=⟨HT.1.g.hi k hlt,by have:=HT.1.g'.hi k (show k<x'.hn by rw [HQ.out];exact hlt);rw [eL] at this;exact this.congr eH,HY.2.h.2 k hlt⟩
   rw [ea] at x3;rw [ea'] at y3;clear ea ea' eL eH;have lb:b<wr.heap.size:=zJ wr _ ck;have lb':b'<wr.heap.size:=zJ wr _ ck';go_upto_region 6 with fail
   have q0:Bw wr wr.drew:=(Below.refl wr.heap.size wr).drew;refine qah (fun w'=>w'.cell? (aQ N 3)=some (.slice (some (aQ b off)) x.hn x.hc)/\w'.cell? ⟨N+1,3,none⟩=some (.slice (some (aQ b' off')) x.hn x'.hc)/\w'.cell? ⟨b,off+k,none⟩=some (.slice (x.hA k) (x.hL k) (x.hC k))/\w'.cell? ⟨b',off'+k,none⟩=some (.slice (x'.hA k) (x.hL k) (x'.hC k))) (fun _=>false) (by kernel_rfl) ?_;have hHeld:(fun w':World=>w'.cell? (aQ N 3)=some (.slice (some (aQ b off)) x.hn x.hc)/\w'.cell? ⟨N+1,3,none⟩=some (.slice (some (aQ b' off')) x.hn x'.hc)/\w'.cell? ⟨b,off+k,none⟩=some (.slice (x.hA k) (x.hL k) (x.hC k))/\w'.cell? ⟨b',off'+k,none⟩=some (.slice (x'.hA k) (x.hL k) (x'.hC k))) wr.drew:=⟨(q0.cell (p:=(aQ N 3)) lN).trans x3,(q0.cell (p:=⟨N+1,3,none⟩) lM).trans y3,(q0.cell (p:=(aQ b _)) lb).trans ck,(q0.cell (p:=(aQ b' _)) lb').trans ck'⟩
   refine qax [0,1,2,3,4,5,6,7,8,9] ?_;iterate 10 (refine qa8 rfl hHeld ?_)
   refine qaq ?_;refine qab 10 rfl (by kernel_rfl) (fun K hK=>?_);refine qaf rfl 24 _ _ rfl #[.slice (x.hA k) (x.hL k) (x.hC k),.slice (x'.hA k) (x.hL k) (x'.hC k)] (by simp [Act.eval]) (yB func24 (by kernel_rfl) rfl) (qh6 (x.hA k) (x'.hA k) (x.hL k) (x.hC k) (x'.hC k) (x.hH k) wr.drew E.2.2 (E.1.below q0) (E.2.1.below q0)) ?_;rintro e w5 ⟨rfl,d5⟩;refine ⟨_,rfl,?_⟩;have q5:Bw wr w5:=q0.trans d5;have hHeld5:(fun w':World=>w'.cell? (aQ N 3)=some (.slice (some (aQ b off)) x.hn x.hc)/\w'.cell? ⟨N+1,3,none⟩=some (.slice (some (aQ b' off')) x.hn x'.hc)/\w'.cell? ⟨b,off+k,none⟩=some (.slice (x.hA k) (x.hL k) (x.hC k))/\w'.cell? ⟨b',off'+k,none⟩=some (.slice (x'.hA k) (x.hL k) (x'.hC k))) w5:=⟨(q5.cell (p:=(aQ N 3)) lN).trans x3,(q5.cell (p:=⟨N+1,3,none⟩) lM).trans y3,(q5.cell (p:=(aQ b _)) lb).trans ck,(q5.cell (p:=(aQ b' _)) lb').trans ck'⟩
   refine hK.out _ _ (fun _=>hHeld5) ?_;clear hHeld;have hHeld:=hHeld5;clear hHeld5 d5 hK K;refine qbk 11 rfl hHeld ?_;refine qan (by kernel_rfl) ?_ _;have K5:Hid (Tw w5 N x x'/\Below N w w5):=⟨HT.1.below q5,HT.2.trans (q5.mono (Nat.le_of_lt lN))⟩
   clear hHeld q5 q0 HT;go_wp2;go_roundw
   case rel=>exact ⟨k+1,by omega,by go_num,K5.out⟩
   case measure=>simp [intOf];omega
  ·go_wp2
   go_ret;exact ⟨rfl,by rw [HNN.out];exact HT.2⟩
theorem qj5 (x x':SysIn) (w:World) (hy:x'.y=x.y) (hG:SysG w x) (hG':SysG w x') (hL:x.Len):
  Calls prog 8 #[x.v,x'.v] w (rB w (.bool true)):=qnc x x' w (by rw [hy];exact ⟨rfl,fun _ _=>⟨rfl,fun _ _=>rfl⟩⟩) hG hG' hL
