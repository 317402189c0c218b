import Derived.Test.YtmnajpgicdomcaaGreatDoorRl29
import Derived.Test.YtmnajpgicdomcaaGreatDoorRl31
namespace Go.Proofs.YtmnajpgicdomcaaGreatDoor
set_option maxRecDepth 100000
set_option maxHeartbeats 4000000
open Go.ChangeShapes Go.WideShapes Go.ChangeAt Go.RowKit Go.Deep
theorem qel (x:SysIn) (p k:Int) (w:World) (hG:SysG w x) (hL:x.Len) (hcap:∀ i,i<x.hn->x.hL i<=x.hC i):
  Calls Tryz.prog 19 #[x.v,.int .i64 p,.int .i64 k] w fun e w'=>∃ v,e=.returned (.tuple #[v,.int .i64 (bkC x.y p k)])/\qac false w' w.heap.size (bkY x.y p k) v/\Below w.heap.size w w':=by
 have HG:Hid (SysG w x):=hG;have HLn:Hid (x.hn<=1048576/\x.pn<=1048576/\∀ i,i<x.hn->x.hL i<=1048576):=⟨hL.h.1,hL.p.1,hL.h.2⟩
 have HS:Hid (∀ wx,Below w.heap.size w wx->Calls Tryz.prog 15 #[x.v] wx fun e w'=>e=.returned (.bool x.y.okB)/\Below wx.heap.size wx w'):=fun wx hb=>qcf x wx (hG.below hb) hL hcap
 have HC4:Hid (∀ wx,Below w.heap.size w wx->Calls Tryz.prog 38 #[x.v] wx fun e w'=>∃ v,e=.returned v/\qac false w' wx.heap.size x.y v/\Below wx.heap.size wx w'):=fun wx hb=>(qdo x wx (hG.below hb) hL).mono fun e w' h=>by
  obtain ⟨v,e,o,b⟩:=h;exact ⟨v,e,o.weak,b⟩
 have HFu:Hid (x.y.okB=true->∀ wx,Below w.heap.size w wx->Calls Tryz.prog 39 #[x.v] wx fun e w'=>∃ u,e=.returned u/\OwnI w' wx.heap.size u (flT x.y x.hn)/\Below wx.heap.size wx w'):=fun _ wx hb=>qpv x wx (hG.below hb) hL;have HCl:Hid (cutB x.y (bkL x.y p.toNat k)=true->∀ wx ca cc,Below w.heap.size w wx->Sl wx ca (bkL x.y p.toNat k)->Calls Tryz.prog 41 #[x.v,.slice ca (bkL x.y p.toNat k).length cc] wx fun e w'=>∃ u,e=.returned u/\OwnI w' wx.heap.size u (bkE x.y p k)/\Below wx.heap.size wx w'):=fun ht wx ca cc hb hs=>qm8 x ca cc _ wx (hG.below hb) hcap ht hs;have HAt:Hid (x.y.okB=true->bkIn x.y p k=true->∀ wx ca cc,Below w.heap.size w wx->Sl wx ca (bkE x.y p k)->Calls Tryz.prog 40 #[x.v,.slice ca (bkE x.y p k).length cc] wx fun e w'=>∃ v,e=.returned (.tuple #[v,.bool (wfB (x.y.ah (cN (bkE x.y p k))))])/\qac false w' wx.heap.size (x.y.atW (cN (bkE x.y p k))) v/\Below wx.heap.size wx w'):=fun t hb2 wx ca cc hb hs=>qtl x ca cc (bkE x.y p k) wx (hG.below hb) hL hcap (Sy.ok_of t) (qge (qcz (Sy.ok_of t) hb2)) hs;have BW:Hid (Below w.heap.size w ((w.alloc (oQ4 x.pa x.pn x.pc x.sa x.sn x.sc x.wa x.wn x.wc x.ha x.hn x.hc)).alloc (zQ3))):=(zQ _ _).trans ((zQ _ _).mono (by simp));have NB:Hid (BoxC ((w.alloc (oQ4 x.pa x.pn x.pc x.sa x.sn x.sc x.wa x.wn x.wc x.ha x.hn x.hc)).alloc (zQ3)) w.heap.size (.slice x.pa x.pn x.pc) (.slice x.sa x.sn x.sc) (.slice x.wa x.wn x.wc) (.slice x.ha x.hn x.hc)):=(BoxC.new w _ _ _ _ _).below (zQ _ _);have RB:Hid (BoxC ((w.alloc (oQ4 x.pa x.pn x.pc x.sa x.sn x.sc x.wa x.wn x.wc x.ha x.hn x.hc)).alloc (zQ3)) (w.heap.size+1) (.slice none 0 0) (.slice none 0 0) (.slice none 0 0) (.slice none 0 0)/\∀ j,((w.alloc (oQ4 x.pa x.pn x.pc x.sa x.sn x.sc x.wa x.wn x.wc x.ha x.hn x.hc)).alloc (zQ3)).frozen? ⟨w.heap.size+1,j,none⟩=false):=⟨⟨zW _ _ _ 0 (by simp),zW _ _ _ 1 (by simp),zW _ _ _ 2 (by simp),zW _ _ _ 3 (by simp)⟩,fun j=>yD _ _ _ _ (by simp)⟩
 have hM:w.heap.size<=w.heap.size+1:=Nat.le_succ _;clear hG hL hcap
 go_enter Tryz.func19,Tryz.ntmps19
 go_wp2_with fail
 generalize (w.alloc (oQ4 x.pa x.pn x.pc x.sa x.sn x.sc x.wa x.wn x.wc x.ha x.hn x.hc)).alloc (zQ3)=W2 at *;refine (HS.out W2 BW.out).mono ?_;rintro e w1 ⟨rfl,q1⟩;have B1:Hid (Below w.heap.size w w1/\BoxC w1 w.heap.size (.slice x.pa x.pn x.pc) (.slice x.sa x.sn x.sc) (.slice x.wa x.wn x.wc) (.slice x.ha x.hn x.hc)/\BoxC w1 (w.heap.size+1) (.slice none 0 0) (.slice none 0 0) (.slice none 0 0) (.slice none 0 0)/\∀ j,w1.frozen? ⟨w.heap.size+1,j,none⟩=false):=⟨BW.out.trans (q1.mono BW.out.size),NB.out.below q1,RB.1.below q1,fun j=>((qag q1).2 _ j (zJ _ _ RB.1.1)).trans (RB.2 j)⟩
 clear q1 BW NB RB HS;have LR:Hid (w.heap.size+1<w1.heap.size):=zJ _ _ B1.2.2.1.1;have HRB:Hid (∀ wx,Below w1.heap.size w1 wx->BoxC wx w.heap.size (.slice x.pa x.pn x.pc) (.slice x.sa x.sn x.sc) (.slice x.wa x.wn x.wc) (.slice x.ha x.hn x.hc)/\BoxC wx (w.heap.size+1) (.slice none 0 0) (.slice none 0 0) (.slice none 0 0) (.slice none 0 0)/\(∀ j,wx.frozen? ⟨w.heap.size+1,j,none⟩=false)/\w.heap.size+1<wx.heap.size):=fun wx hb=>⟨B1.2.1.below hb,B1.2.2.1.below hb,fun j=>((qag hb).2 _ j LR.out).trans (B1.2.2.2 j),zL LR.out hb.size⟩
 obtain ⟨b0,b1,b2,b3⟩:=B1.2.1
 rcases zK x.y.okB with t | t
 case inr=>
  have HV:Hid (bkC x.y p k=1/\bkY x.y p k=x.y.nil):=⟨if_neg (by rw [t];simp),if_neg (by rw [t];simp)⟩
  obtain ⟨⟨r0,r1,r2,r3⟩,rf⟩:=B1.2.2;have l1:=LR.out;rw [t];clear t;go_wp2;exact bodyPost_ret (v:=.tuple #[sysV none 0 0 none 0 0 none 0 0 none 0 0,.int .i64 1]) (by simp [results,Tryz.results19,go_sem,r0,r1,r2,r3]) rfl ⟨_,by rw [HV.1],by rw [HV.2];exact qac.zero _ _ _,(((B1.1.setCell hM _).setCell hM _).setCell hM _).setCell hM _⟩
 have HO:Hid (x.y.Ok/\x.y.okB=true):=⟨Sy.ok_of t,t⟩
 have HNP:Hid (x.hn=x.pn/\x.pn<=4/\1<=x.pn):=⟨HO.1.cn.2.2.1,HO.1.cn.1.2,HO.1.cn.1.1⟩
 have h4:(x.pn:Int)<=4:=by have:=HNP.out;omega
 have h4h:(x.hn:Int)<=4:=by have:=HNP.out;omega
 rw [t];clear t;have l1:=LR.out;by_cases hb:belB p x.pn=true
 case neg=>
  have hbf:belB p x.pn=false:=by
   cases h:belB p x.pn with
   | false=>rfl
   | true=>exact absurd h hb
  have HV:Hid (bkC x.y p k=2/\bkY x.y p k=x.y):=by
   have hi:bkIn x.y p k=false:=by
    unfold bkIn;rw [show belB p x.y.pn=false from hbf];rfl
   exact ⟨by show bkC x.y p k=2;rw [bkC,if_pos HO.2,if_neg (by rw [hi];simp)],by rw [bkY,if_pos HO.2,if_neg (by rw [hi];simp)]⟩
  have HBB:Hid (inB p 0 ((x.pn:Int) - 1)=false):=by
   show inB p 0 ((x.pn:Int) - 1)=false;simp only [belB,inB,decide_eq_false_iff_not] at hbf ⊢;omega
  clear hb hbf;go_wp2_with fail
  refine (l1In_any _ _ _ _).mono ?_;rintro e w' ⟨rfl,hw⟩;have hw2:=hw.symm;subst hw2;clear hw;rw [show inB p 0 ((x.pn:Int) - 1)=false from HBB.out];go_wp2_with fail
  refine (HC4.out w1 B1.1).mono ?_;rintro e w3 ⟨v3,rfl,o3,q3⟩;obtain ⟨cq,vp,vs,vw,vh,up,us,uw,uh,rfl,o3⟩:=o3;obtain ⟨pa,pc,rfl⟩:=zU o3.p.row;obtain ⟨sa,sc,rfl⟩:=zU o3.s.row;obtain ⟨wa,wc,rfl⟩:=zU o3.t.row;obtain ⟨ha,hc,rfl⟩:=zU o3.h.row;have F3:Hid (qac false w3 w1.heap.size x.y (.agg #[.slice pa x.y.pn pc,.slice sa x.y.sn sc,.slice wa x.y.wn wc,.slice ha x.y.hn hc])/\Below w1.heap.size w1 w3):=⟨⟨_,_,_,_,_,_,_,_,_,rfl,o3⟩,q3⟩
  obtain ⟨-,⟨r0,r1,r2,r3⟩,rf,l1⟩:=HRB.out w3 ((Below.refl w1.heap.size w1).trans (q3.mono (Below.refl w1.heap.size w1).size));clear o3 q3;go_wp2
  exact bodyPost_ret (v := .tuple #[.agg #[.slice pa x.y.pn pc, .slice sa x.y.sn sc, .slice wa x.y.wn wc, .slice ha x.y.hn hc], .int .i64 2]) (by simp [results, Tryz.results19, go_sem, r0, r1, r2, r3]) rfl ⟨_, by rw [HV.1], by
   rw [HV.2]
   exact ((((F3.1.setBelow LR.out 0 _).setBelow LR.out 1 _).setBelow LR.out 2 _).setBelow LR.out 3 _).base B1.1.size,(((((B1.1).trans (F3.2.mono B1.1.size)).setCell hM _).setCell hM _).setCell hM _).setCell hM _⟩
 obtain ⟨P,rfl,hP⟩:∃ P:Nat,p=P/\P<x.pn:=by
  simp only [belB,decide_eq_true_eq] at hb;exact ⟨p.toNat,by omega,by omega⟩
 have HBB:Hid (inB (P:Int) 0 ((x.pn:Int) - 1)=true):=by
  show inB (P:Int) 0 ((x.pn:Int) - 1)=true;simp only [belB,inB,decide_eq_true_eq] at hb ⊢;omega
 clear hb;have hPh:P<x.hn:=by have:=HNP.out;omega
 have hPh':(P:Int)<(x.hn:Int):=by omega
 have nPh:¬ (x.hn:Int)<=(P:Int):=by omega
 obtain ⟨bh,oh,eh,ch⟩:=(HG.out.below B1.1).h.at hPh;rw [eh] at b3;have HEH:Hid (x.ha=some ⟨bh,oh,none⟩):=eh;clear eh;have hlm:x.hL P<=200:=HO.1.hl200 hP;have hlm':(x.hL P:Int)<=200:=by omega
 have HLP:Hid (x.y.hL P=x.hL P):=rfl;by_cases hk:0<=k/\k<=(x.hL P:Int)
 case neg=>
  have HV:Hid (bkC x.y (P:Int) k=2/\bkY x.y (P:Int) k=x.y):=by
   have hi:bkIn x.y (P:Int) k=false:=by
    simp only [bkIn,inB,Int.toNat_natCast,Bool.and_eq_false_iff,decide_eq_false_iff_not];exact .inr hk
   exact ⟨by show bkC x.y (P:Int) k=2;rw [bkC,if_pos HO.2,if_neg (by rw [hi];simp)],by rw [bkY,if_pos HO.2,if_neg (by rw [hi];simp)]⟩
  have HBK:Hid (inB k 0 (x.hL P:Int)=false):=by
   show inB k 0 (x.hL P:Int)=false;simp only [inB,decide_eq_false_iff_not];exact hk
  clear hk;go_wp2_with fail
  refine (l1In_any _ _ _ _).mono ?_;rintro e w' ⟨rfl,hw⟩;have hw2:=hw.symm;subst hw2;clear hw;rw [show inB (P:Int) 0 ((x.pn:Int) - 1)=true from HBB.out];go_wp2_with fail
  refine (l1In_any _ _ _ _).mono ?_;rintro e w' ⟨rfl,hw⟩;have hw2:=hw.symm;subst hw2;clear hw;rw [show inB k 0 (x.hL P:Int)=false from HBK.out];go_upto_region 4 with fail
  clear b0 b1 b2 b3 ch;obtain ⟨b0,b1,b2,b3⟩:=B1.2.1;go_wp2_with fail
  refine (HC4.out w1 B1.1).mono ?_;rintro e w3 ⟨v3,rfl,o3,q3⟩;obtain ⟨cq,vp,vs,vw,vh,up,us,uw,uh,rfl,o3⟩:=o3;obtain ⟨pa,pc,rfl⟩:=zU o3.p.row;obtain ⟨sa,sc,rfl⟩:=zU o3.s.row;obtain ⟨wa,wc,rfl⟩:=zU o3.t.row;obtain ⟨ha,hc,rfl⟩:=zU o3.h.row;have F3:Hid (qac false w3 w1.heap.size x.y (.agg #[.slice pa x.y.pn pc,.slice sa x.y.sn sc,.slice wa x.y.wn wc,.slice ha x.y.hn hc])/\Below w1.heap.size w1 w3):=⟨⟨_,_,_,_,_,_,_,_,_,rfl,o3⟩,q3⟩
  obtain ⟨-,⟨r0,r1,r2,r3⟩,rf,l1⟩:=HRB.out w3 ((Below.refl w1.heap.size w1).trans (q3.mono (Below.refl w1.heap.size w1).size));clear o3 q3;go_wp2
  exact bodyPost_ret (v := .tuple #[.agg #[.slice pa x.y.pn pc, .slice sa x.y.sn sc, .slice wa x.y.wn wc, .slice ha x.y.hn hc], .int .i64 2]) (by simp [results, Tryz.results19, go_sem, r0, r1, r2, r3]) rfl ⟨_, by rw [HV.1], by
   rw [HV.2]
   exact ((((F3.1.setBelow LR.out 0 _).setBelow LR.out 1 _).setBelow LR.out 2 _).setBelow LR.out 3 _).base B1.1.size,(((((B1.1).trans (F3.2.mono B1.1.size)).setCell hM _).setCell hM _).setCell hM _).setCell hM _⟩
 have hk0:¬ k<0:=by omega
 have hk0':0<=k:=hk.1;have hk1:¬ (x.hL P:Int)<k:=by omega
 have hk1':k<=(x.hL P:Int):=hk.2
 have HBK:Hid (inB k 0 (x.hL P:Int)=true):=by
  show inB k 0 (x.hL P:Int)=true;simp only [inB,decide_eq_true_eq];exact hk
 have HIN:Hid (bkIn x.y (P:Int) k=true):=by
  show bkIn x.y (P:Int) k=true;simp only [bkIn,inB,belB,Int.toNat_natCast,Bool.and_eq_true,decide_eq_true_eq];exact ⟨by have:x.y.pn=x.pn:=rfl;omega,hk⟩
 have HBC:Hid (bkC x.y (P:Int) k=(if wfB (x.y.ah (cN (bkE x.y (P:Int) k)))=true then 0 else 3)/\bkY x.y (P:Int) k=(if wfB (x.y.ah (cN (bkE x.y (P:Int) k)))=true then x.y.atY (cN (bkE x.y (P:Int) k)) else x.y)):=⟨by show bkC x.y (P:Int) k=_;rw [bkC,if_pos HO.2,if_pos HIN.out],by rw [bkY,if_pos HO.2,if_pos HIN.out]⟩
 have HYW:Hid (x.y.atW (cN (bkE x.y (P:Int) k))=(if wfB (x.y.ah (cN (bkE x.y (P:Int) k)))=true then x.y.atY (cN (bkE x.y (P:Int) k)) else x.y.nil)):=rfl;have HF2:Hid (∀ wx,Below w.heap.size w wx->Calls Tryz.prog 39 #[x.v] wx fun e w'=>∃ u,e=.returned u/\OwnI w' wx.heap.size u (flT x.y x.hn)/\Below wx.heap.size wx w'):=HFu.out HO.2
 have HC2:Hid (∀ wx ca cc,Below w.heap.size w wx->Sl wx ca (bkL x.y P k)->Calls Tryz.prog 41 #[x.v,.slice ca x.hn cc] wx fun e w'=>∃ u,e=.returned u/\OwnI w' wx.heap.size u (bkE x.y (P:Int) k)/\Below wx.heap.size wx w'):=fun wx ca cc hb hs=>by
  have h:=HCl.out (qcz HO.1 HIN.out) wx ca cc hb (by rw [Int.toNat_natCast];exact hs);rw [show (bkL x.y ((P:Int)).toNat k).length=x.hn by unfold bkL;rw [List.length_set,qcq];rfl] at h;exact h
 have HA2:Hid (∀ wx ca cc,Below w.heap.size w wx->Sl wx ca (bkE x.y (P:Int) k)->Calls Tryz.prog 40 #[x.v,.slice ca (bkE x.y (P:Int) k).length cc] wx fun e w'=>∃ v,e=.returned (.tuple #[v,.bool (wfB (x.y.ah (cN (bkE x.y (P:Int) k))))])/\qac false w' wx.heap.size (x.y.atW (cN (bkE x.y (P:Int) k))) v/\Below wx.heap.size wx w'):=HAt.out HO.2 HIN.out;have HFL:Hid ((flT x.y x.hn).set P k=bkL x.y P k/\(flT x.y x.hn).length=x.hn):=⟨rfl,qcq _ _⟩
 clear hk HFu HCl HAt HIN;generalize x.y.atW (cN (bkE x.y (P:Int) k))=YW at *;generalize wfB (x.y.ah (cN (bkE x.y (P:Int) k)))=wf at *;generalize x.y.atY (cN (bkE x.y (P:Int) k))=YA at *;generalize bkE x.y (P:Int) k=E at *;generalize bkL x.y P k=Lb at *;generalize flT x.y x.hn=fl at *;go_wp2_with fail
 refine (l1In_any _ _ _ _).mono ?_;rintro e w' ⟨rfl,hw⟩;have hw2:=hw.symm;subst hw2;clear hw;rw [show inB (P:Int) 0 ((x.pn:Int) - 1)=true from HBB.out];go_wp2_with fail
 refine (l1In_any _ _ _ _).mono ?_;rintro e w' ⟨rfl,hw⟩;have hw2:=hw.symm;subst hw2;clear hw;rw [show inB k 0 (x.hL P:Int)=true from HBK.out];go_upto_region 5 with fail
 clear b0 b1 b2 b3 ch;obtain ⟨b0,b1,b2,b3⟩:=B1.2.1;go_wp2_with fail
 refine (HF2.out w1 B1.1).mono ?_;rintro e w4 ⟨v4,rfl,o4,q4⟩;obtain ⟨gf,fc,rfl,hgf,hgl⟩:=o4.block (by have:=HFL.2;omega);rw [HFL.2] at o4 ⊢;have O4:Hid (OwnI w4 w1.heap.size (.slice (some ⟨gf,0,none⟩) x.hn fc) fl/\Below w1.heap.size w1 w4):=⟨o4,q4⟩
 have cg:w4.cell? ⟨gf,P,none⟩=some (.int .i64 (zi fl P)):=by
  have o5:OwnI w4 w1.heap.size (.slice (some ⟨gf,0,none⟩) fl.length fc) fl:=by rw [HFL.2];exact o4
  exact o5.cell (by rw [HFL.2];exact hPh)
 have cf:w4.frozen? ⟨gf,P,none⟩=false:=by
  have o5:OwnI w4 w1.heap.size (.slice (some ⟨gf,0,none⟩) fl.length fc) fl:=by rw [HFL.2];exact o4
  exact o5.frozen P
 have F4:Hid (Sl (w4.setCell ⟨gf,P,none⟩ (.int .i64 k)) (some ⟨gf,0,none⟩) Lb/\Below w1.heap.size w1 (w4.setCell ⟨gf,P,none⟩ (.int .i64 k))):=by
  have h:=(o4.set (n:=x.hn) HFL.2.symm P k)
  refine ⟨?_,q4.setCell hgf _⟩;have hs:=h.1;rw [HFL.1] at hs;have hl:Lb.length=x.hn:=by rw [<- HFL.1,List.length_set,HFL.2]
  rw [<- hl] at hs;exact hs.slOf
 clear o4 q4;go_upto_region 7 with fail
 clear cg cf hgf O4 HFL;generalize w4.setCell ⟨gf,P,none⟩ (.int .i64 k)=w5 at *;clear hgl w4;obtain ⟨⟨b0,b1,b2,b3⟩,-,-,-⟩:=HRB.out w5 F4.2
 go_cut [9,10] from 43 to 48 (fun s t wx=>∃ N:Nat,s=.pointer (some ⟨N,0,none⟩)/\t=.bool wf/\Hid (∃ pa pc sa sc wa wc ha hc,qac false wx w1.heap.size YW (.agg #[.slice pa YW.pn pc,.slice sa YW.sn sc,.slice wa YW.wn wc,.slice ha YW.hn hc])/\Below w1.heap.size w1 wx/\BoxC wx N (.slice pa YW.pn pc) (.slice sa YW.sn sc) (.slice wa YW.wn wc) (.slice ha YW.hn hc)))
 case first=>
  have q0:Below w5.heap.size w5 w5.drew:=(Below.refl w5.heap.size w5).drew;refine qaj (fun w'=>BoxC w' w.heap.size (.slice x.pa x.pn x.pc) (.slice x.sa x.sn x.sc) (.slice x.wa x.wn x.wc) (.slice x.ha x.hn x.hc)) (fun _=>false) (by kernel_rfl) ?_;have hB5:∀ wx,Below w5.heap.size w5 wx->BoxC wx w.heap.size (.slice x.pa x.pn x.pc) (.slice x.sa x.sn x.sc) (.slice x.wa x.wn x.wc) (.slice x.ha x.hn x.hc):=fun wx hb=>BoxC.below (w:=w5) ⟨b0,b1,b2,b3⟩ hb;have hHeld:(fun w':World=>BoxC w' w.heap.size (.slice x.pa x.pn x.pc) (.slice x.sa x.sn x.sc) (.slice x.wa x.wn x.wc) (.slice x.ha x.hn x.hc)) w5.drew:=hB5 _ q0;have hBW:∀ wx,Below w5.heap.size w5 wx->Below w.heap.size w wx:=fun wx hb=>(B1.1.trans (F4.2.mono B1.1.size)).trans (hb.mono (B1.1.trans (F4.2.mono B1.1.size)).size);refine qax [0,1,2] ?_;iterate 3 (refine qa8 rfl hHeld ?_)
  refine qao ?_;have sz:w1.heap.size<=w5.heap.size:=F4.2.size;have lb:w.heap.size+1<w5.heap.size:=zL l1 sz;refine qd2 3 8 rfl rfl (by kernel_rfl) (fun K hK=>?_) (fun K hK=>?_)
  ·have q0':=q0
   refine qae rfl 41 _ _ rfl #[x.v,.slice (some ⟨gf,0,none⟩) x.hn fc] (by simp [Act.eval,SysIn.v,sysV]) (yB Tryz.func41 (by kernel_rfl) rfl) (HC2.out w5.drew _ fc (hBW _ q0') (F4.1.below q0')) ?_;rintro e w6 ⟨u6,rfl,o6,d6⟩;obtain ⟨e6,c6,rfl,s6⟩:=o6.form;refine ⟨_,rfl,?_⟩;have q6:Below w5.heap.size w5 w6:=q0'.trans (d6.mono q0'.size);refine hK.out _ _ (fun _=>hB5 _ q6) ?_;clear hK K
   (try simp only [Act.put,zD,zE,zF])
   refine qd2 4 8 rfl rfl (by kernel_rfl) (fun K hK=>?_) (fun K hK=>?_)
   ·have s6':=s6
    refine qae rfl 40 _ _ rfl #[x.v,.slice e6 E.length c6] (by simp [Act.eval,SysIn.v,sysV]) (yB Tryz.func40 (by kernel_rfl) rfl) (HA2.out w6 _ c6 (hBW _ q6) s6') ?_;rintro e w7 ⟨v7,rfl,o7,d7⟩;obtain ⟨cq,vp,vs,vw,vh,up,us,uw,uh,rfl,o7⟩:=o7;obtain ⟨pa,pc,rfl⟩:=zU o7.p.row;obtain ⟨sa,sc,rfl⟩:=zU o7.s.row;obtain ⟨wa,wc,rfl⟩:=zU o7.t.row;obtain ⟨ha,hc,rfl⟩:=zU o7.h.row;have O7:qac false w7 (w6).heap.size YW (.agg #[.slice pa YW.pn pc,.slice sa YW.sn sc,.slice wa YW.wn wc,.slice ha YW.hn hc]):=⟨_,_,_,_,_,_,_,_,_,rfl,o7⟩
    refine ⟨_,rfl,?_⟩;have q7:Below w5.heap.size w5 w7:=q6.trans (d7.mono q6.size);refine hK.out _ _ (fun _=>hB5 _ q7) ?_;clear hK K o7;have hHeld:(fun w':World=>BoxC w' w.heap.size (.slice x.pa x.pn x.pc) (.slice x.sa x.sn x.sc) (.slice x.wa x.wn x.wc) (.slice x.ha x.hn x.hc)) w7:=hB5 _ q7
    (try simp only [Act.put,zD,zE,zF])
    refine qax [5,6,7] ?_;iterate 3 (refine qa8 rfl hHeld ?_)
    refine qao ?_;refine qaa 8 rfl (by kernel_rfl) (fun K hK=>?_);go_simp;have qa:=q7.trans ((zQ w7 (zQ3)).mono q7.size);refine hK.out _ _ (fun _=>hB5 _ qa) ?_;clear hK K hHeld
    (try simp only [Act.put,zD,zE,zF])
    refine qaa 9 rfl (by kernel_rfl) (fun K hK=>?_);go_simp;have qb:=q7.trans ((zQ w7 (oQ4 pa YW.pn pc sa YW.sn sc wa YW.wn wc ha YW.hn hc)).mono q7.size);refine hK.out _ _ (fun _=>hB5 _ qb) ?_;clear hK K;have hHeld:(fun w':World=>BoxC w' w.heap.size (.slice x.pa x.pn x.pc) (.slice x.sa x.sn x.sc) (.slice x.wa x.wn x.wc) (.slice x.ha x.hn x.hc)) (w7.alloc (oQ4 pa YW.pn pc sa YW.sn sc wa YW.wn wc ha YW.hn hc)):=hB5 _ qb
    (try simp only [Act.put,zD,zE,zF])
    refine qbl 10 rfl hHeld ?_;refine qar (by kernel_rfl) ?_ _;go_wp2_with fail
    go_meet
    case rel=>exact ⟨w7.heap.size,by with_reducible rfl,by with_reducible rfl,_,_,_,_,_,_,_,_,(O7.below (zQ _ _)).base (zP sz q6.size),F4.2.trans (qb.mono sz),BoxC.new w7 _ _ _ _ _⟩
   ·go_simp
    have qa:=q6.trans ((zQ w6 (zQ3)).mono q6.size);have sA:Sl (w6.alloc (zQ3)) e6 E:=s6.below (zQ _ _);have bN:BoxC (w6.alloc (zQ3)) w6.heap.size (.slice none 0 0) (.slice none 0 0) (.slice none 0 0) (.slice none 0 0):=BoxC.new w6 _ _ _ _ _;have fN:∀ j,(w6.alloc (zQ3)).frozen? ⟨w6.heap.size,j,none⟩=false:=fun j=>yD _ _ _ _ rfl;have zN:w6.heap.size<(w6.alloc (zQ3)).heap.size:=by simp
    have sN6:w5.heap.size<=w6.heap.size:=q6.size;refine hK.out _ _ (fun _=>hB5 _ qa) ?_;clear hK K
    (try simp only [Act.put,zD,zE,zF])
    refine qaa 4 rfl (by kernel_rfl) (fun K hK=>?_);generalize w6.heap.size=N at *;generalize w6.alloc (zQ3)=wA at *;refine qae rfl 40 _ _ rfl #[x.v,.slice e6 E.length c6] (by simp [Act.eval,SysIn.v,sysV]) (yB Tryz.func40 (by kernel_rfl) rfl) (HA2.out wA _ c6 (hBW _ qa) sA) ?_;rintro e w7 ⟨v7,rfl,o7,d7⟩;obtain ⟨cq,vp,vs,vw,vh,up,us,uw,uh,rfl,o7⟩:=o7;obtain ⟨pa,pc,rfl⟩:=zU o7.p.row;obtain ⟨sa,sc,rfl⟩:=zU o7.s.row;obtain ⟨wa,wc,rfl⟩:=zU o7.t.row;obtain ⟨ha,hc,rfl⟩:=zU o7.h.row;have O7:qac false w7 (wA).heap.size YW (.agg #[.slice pa YW.pn pc,.slice sa YW.sn sc,.slice wa YW.wn wc,.slice ha YW.hn hc]):=⟨_,_,_,_,_,_,_,_,_,rfl,o7⟩
    refine ⟨_,rfl,?_⟩;have q7:Below w5.heap.size w5 w7:=qa.trans (d7.mono qa.size);refine hK.out _ _ (fun _=>hB5 _ q7) ?_;clear hK K o7;have hHeld:(fun w':World=>BoxC w' w.heap.size (.slice x.pa x.pn x.pc) (.slice x.sa x.sn x.sc) (.slice x.wa x.wn x.wc) (.slice x.ha x.hn x.hc)) w7:=hB5 _ q7
    (try simp only [Act.put,zD,zE,zF])
    refine qax [5,6,7] ?_;iterate 3 (refine qa8 rfl hHeld ?_)
    refine qao ?_;obtain ⟨n0,n1,n2,n3⟩:=bN.below d7;have nf:∀ j,w7.frozen? ⟨N,j,none⟩=false:=fun j=>((qag d7).2 _ j zN).trans (fN j);refine qaa 9 rfl (by kernel_rfl) (fun K hK=>?_);go_simp;have qb:Below w5.heap.size w5 ((((w7.setCell ⟨N,0,none⟩ (.slice pa YW.pn pc)).setCell ⟨N,1,none⟩ (.slice sa YW.sn sc)).setCell ⟨N,2,none⟩ (.slice wa YW.wn wc)).setCell ⟨N,3,none⟩ (.slice ha YW.hn hc)):=(((q7.setCell sN6 _).setCell sN6 _).setCell sN6 _).setCell sN6 _;refine hK.out _ _ (fun _=>hB5 _ qb) ?_;clear hK K hHeld;have hHeld:(fun w':World=>BoxC w' w.heap.size (.slice x.pa x.pn x.pc) (.slice x.sa x.sn x.sc) (.slice x.wa x.wn x.wc) (.slice x.ha x.hn x.hc)) ((((w7.setCell ⟨N,0,none⟩ (.slice pa YW.pn pc)).setCell ⟨N,1,none⟩ (.slice sa YW.sn sc)).setCell ⟨N,2,none⟩ (.slice wa YW.wn wc)).setCell ⟨N,3,none⟩ (.slice ha YW.hn hc)):=hB5 _ qb
    (try simp only [Act.put,zD,zE,zF])
    refine qbl 10 rfl hHeld ?_;refine qar (by kernel_rfl) ?_ _;go_wp2_with fail
    go_meet
    case rel=>exact ⟨N,by with_reducible rfl,by with_reducible rfl,_,_,_,_,_,_,_,_,((((O7.setBelow zN 0 _).setBelow zN 1 _).setBelow zN 2 _).setBelow zN 3 _).base (zP sz qa.size),F4.2.trans (qb.mono sz),BoxC.set4 ⟨n0,n1,n2,n3⟩ _ _ _ _⟩
  ·go_simp
   have qa0:=(zQ w5 (zQ3)).drew;have bN:BoxC (w5.alloc (zQ3)).drew w5.heap.size (.slice none 0 0) (.slice none 0 0) (.slice none 0 0) (.slice none 0 0):=(BoxC.new w5 _ _ _ _ _).below (Below.refl _ _).drew;have fN:∀ j,(w5.alloc (zQ3)).drew.frozen? ⟨w5.heap.size,j,none⟩=false:=fun j=>(World.frozen?_drew _ _).trans (yD _ _ _ _ rfl);have zN:w5.heap.size<(w5.alloc (zQ3)).drew.heap.size:=by simp
   refine hK.out _ _ (fun _=>hB5 _ qa0) ?_;clear hK K
   (try simp only [Act.put,zD,zE,zF])
   refine qaa 3 rfl (by kernel_rfl) (fun K hK=>?_);obtain ⟨N,hNN⟩:∃ N,N=w5.heap.size:=⟨_,rfl⟩
   have sN6:w5.heap.size<=N:=by omega
   have bN:BoxC (w5.alloc (zQ3)).drew N (.slice none 0 0) (.slice none 0 0) (.slice none 0 0) (.slice none 0 0):=by rw [hNN];exact bN
   have fN:∀ j,(w5.alloc (zQ3)).drew.frozen? ⟨N,j,none⟩=false:=by rw [hNN];exact fN
   have zN:N<(w5.alloc (zQ3)).drew.heap.size:=by rw [hNN];exact zN
   rw [<- hNN];clear hNN;generalize (w5.alloc (zQ3)).drew=wC at *;refine qae rfl 41 _ _ rfl #[x.v,.slice (some ⟨gf,0,none⟩) x.hn fc] (by simp [Act.eval,SysIn.v,sysV]) (yB Tryz.func41 (by kernel_rfl) rfl) (HC2.out wC _ fc (hBW _ qa0) (F4.1.below qa0)) ?_;rintro e w6 ⟨u6,rfl,o6,d6⟩;obtain ⟨e6,c6,rfl,s6⟩:=o6.form;refine ⟨_,rfl,?_⟩;have q6:Below w5.heap.size w5 w6:=qa0.trans (d6.mono qa0.size);refine hK.out _ _ (fun _=>hB5 _ q6) ?_;clear hK K
   (try simp only [Act.put,zD,zE,zF])
   refine qaa 4 rfl (by kernel_rfl) (fun K hK=>?_);have qa:=q6;have sA:=s6;have fN:∀ j,w6.frozen? ⟨N,j,none⟩=false:=fun j=>((qag d6).2 _ j zN).trans (fN j);have bN:=bN.below d6;have zN:N<w6.heap.size:=zL zN d6.size;refine qae rfl 40 _ _ rfl #[x.v,.slice e6 E.length c6] (by simp [Act.eval,SysIn.v,sysV]) (yB Tryz.func40 (by kernel_rfl) rfl) (HA2.out w6 _ c6 (hBW _ qa) sA) ?_;rintro e w7 ⟨v7,rfl,o7,d7⟩;obtain ⟨cq,vp,vs,vw,vh,up,us,uw,uh,rfl,o7⟩:=o7;obtain ⟨pa,pc,rfl⟩:=zU o7.p.row;obtain ⟨sa,sc,rfl⟩:=zU o7.s.row;obtain ⟨wa,wc,rfl⟩:=zU o7.t.row;obtain ⟨ha,hc,rfl⟩:=zU o7.h.row;have O7:qac false w7 (w6).heap.size YW (.agg #[.slice pa YW.pn pc,.slice sa YW.sn sc,.slice wa YW.wn wc,.slice ha YW.hn hc]):=⟨_,_,_,_,_,_,_,_,_,rfl,o7⟩
   refine ⟨_,rfl,?_⟩;have q7:Below w5.heap.size w5 w7:=qa.trans (d7.mono qa.size);refine hK.out _ _ (fun _=>hB5 _ q7) ?_;clear hK K o7;have hHeld:(fun w':World=>BoxC w' w.heap.size (.slice x.pa x.pn x.pc) (.slice x.sa x.sn x.sc) (.slice x.wa x.wn x.wc) (.slice x.ha x.hn x.hc)) w7:=hB5 _ q7
   (try simp only [Act.put,zD,zE,zF])
   refine qax [5,6,7] ?_;iterate 3 (refine qa8 rfl hHeld ?_)
   refine qao ?_;obtain ⟨n0,n1,n2,n3⟩:=bN.below d7;have nf:∀ j,w7.frozen? ⟨N,j,none⟩=false:=fun j=>((qag d7).2 _ j zN).trans (fN j);refine qaa 9 rfl (by kernel_rfl) (fun K hK=>?_);go_simp;have qb:Below w5.heap.size w5 ((((w7.setCell ⟨N,0,none⟩ (.slice pa YW.pn pc)).setCell ⟨N,1,none⟩ (.slice sa YW.sn sc)).setCell ⟨N,2,none⟩ (.slice wa YW.wn wc)).setCell ⟨N,3,none⟩ (.slice ha YW.hn hc)):=(((q7.setCell sN6 _).setCell sN6 _).setCell sN6 _).setCell sN6 _;refine hK.out _ _ (fun _=>hB5 _ qb) ?_;clear hK K hHeld;have hHeld:(fun w':World=>BoxC w' w.heap.size (.slice x.pa x.pn x.pc) (.slice x.sa x.sn x.sc) (.slice x.wa x.wn x.wc) (.slice x.ha x.hn x.hc)) ((((w7.setCell ⟨N,0,none⟩ (.slice pa YW.pn pc)).setCell ⟨N,1,none⟩ (.slice sa YW.sn sc)).setCell ⟨N,2,none⟩ (.slice wa YW.wn wc)).setCell ⟨N,3,none⟩ (.slice ha YW.hn hc)):=hB5 _ qb
   (try simp only [Act.put,zD,zE,zF])
   refine qbl 10 rfl hHeld ?_;refine qar (by kernel_rfl) ?_ _;go_wp2_with fail
   go_meet
   case rel=>exact ⟨N,by with_reducible rfl,by with_reducible rfl,_,_,_,_,_,_,_,_,((((O7.setBelow zN 0 _).setBelow zN 1 _).setBelow zN 2 _).setBelow zN 3 _).base (zP sz qa.size),F4.2.trans (qb.mono sz),BoxC.set4 ⟨n0,n1,n2,n3⟩ _ _ _ _⟩
 case rest=>
  obtain ⟨N,rfl,rfl,HT⟩:=hcut;obtain ⟨pa,pc,sa,sc,wa,wc,ha,hc,hOw,hBe,hBx⟩:=HT.out;rename_i w7;have F7:Hid (qac false w7 w1.heap.size YW (.agg #[.slice pa YW.pn pc,.slice sa YW.sn sc,.slice wa YW.wn wc,.slice ha YW.hn hc])/\Below w1.heap.size w1 w7/\BoxC w7 N (.slice pa YW.pn pc) (.slice sa YW.sn sc) (.slice wa YW.wn wc) (.slice ha YW.hn hc)):=⟨hOw,hBe,hBx⟩
  clear hOw hBe hBx HT b0 b1 b2 b3;cases wf with
  | false=>
   have HV:Hid (bkC x.y (P:Int) k=3/\bkY x.y (P:Int) k=x.y):=⟨by rw [HBC.1];rfl,by rw [HBC.2];rfl⟩
   obtain ⟨⟨b0,b1,b2,b3⟩,-,-,-⟩:=HRB.out w7 F7.2.1;go_wp2_with fail
   refine (HC4.out w7 (B1.1.trans (F7.2.1.mono B1.1.size))).mono ?_;rintro e w3 ⟨v3,rfl,o3,q3⟩;obtain ⟨cq,vp,vs,vw,vh,up,us,uw,uh,rfl,o3⟩:=o3;obtain ⟨pa,pc,rfl⟩:=zU o3.p.row;obtain ⟨sa,sc,rfl⟩:=zU o3.s.row;obtain ⟨wa,wc,rfl⟩:=zU o3.t.row;obtain ⟨ha,hc,rfl⟩:=zU o3.h.row;have F3:Hid (qac false w3 w7.heap.size x.y (.agg #[.slice pa x.y.pn pc,.slice sa x.y.sn sc,.slice wa x.y.wn wc,.slice ha x.y.hn hc])/\Below w7.heap.size w7 w3):=⟨⟨_,_,_,_,_,_,_,_,_,rfl,o3⟩,q3⟩
   obtain ⟨-,⟨r0,r1,r2,r3⟩,rf,l1⟩:=HRB.out w3 ((F7.2.1).trans (q3.mono (F7.2.1).size));clear o3 q3;go_wp2
   exact bodyPost_ret (v := .tuple #[.agg #[.slice pa x.y.pn pc, .slice sa x.y.sn sc, .slice wa x.y.wn wc, .slice ha x.y.hn hc], .int .i64 3]) (by simp [results, Tryz.results19, go_sem, r0, r1, r2, r3]) rfl ⟨_, by rw [HV.1], by
    rw [HV.2]
    exact ((((F3.1.setBelow (zL LR.out F7.2.1.size) 0 _).setBelow (zL LR.out F7.2.1.size) 1 _).setBelow (zL LR.out F7.2.1.size) 2 _).setBelow (zL LR.out F7.2.1.size) 3 _).base (B1.1.trans (F7.2.1.mono B1.1.size)).size,((((((B1.1.trans (F7.2.1.mono B1.1.size))).trans (F3.2.mono (B1.1.trans (F7.2.1.mono B1.1.size)).size)).setCell hM _).setCell hM _).setCell hM _).setCell hM _⟩
  | true=>
   have HV:Hid (bkC x.y (P:Int) k=0/\bkY x.y (P:Int) k=YA/\YW=YA):=⟨by rw [HBC.1];rfl,by rw [HBC.2];rfl,HYW.out⟩
   obtain ⟨-,⟨r0,r1,r2,r3⟩,rf,l7⟩:=HRB.out w7 F7.2.1;obtain ⟨n0,n1,n2,n3⟩:=F7.2.2;have lN:N<w7.heap.size:=zJ _ _ n0;go_wp2
   exact bodyPost_ret (v := .tuple #[.agg #[.slice pa YW.pn pc, .slice sa YW.sn sc, .slice wa YW.wn wc, .slice ha YW.hn hc], .int .i64 0]) (by simp [results, Tryz.results19, go_sem, r0, r1, r2, r3]) rfl ⟨_, by rw [HV.1], by
    rw [HV.2.1,<- HV.2.2]
    exact ((((F7.1.setBelow l1 0 _).setBelow l1 1 _).setBelow l1 2 _).setBelow l1 3 _).base B1.1.size,(((((B1.1.trans (F7.2.1.mono B1.1.size))).setCell hM _).setCell hM _).setCell hM _).setCell hM _⟩
