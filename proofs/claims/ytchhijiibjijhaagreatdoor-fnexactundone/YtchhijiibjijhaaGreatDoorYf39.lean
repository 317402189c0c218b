import Derived.Test.YtchhijiibjijhaaGreatDoorYf38
namespace Go.Proofs.YtchhijiibjijhaaGreatDoor
set_option maxRecDepth 100000
set_option maxHeartbeats 4000000
open Go.ChangeShapes Go.WideShapes Go.ChangeAt Go.RowKit Go.Deep
theorem AtP.start {z:Bool} {B m3 m1:Nat} {w3 w1:World} {y:Sy} {vp vw:Value} {up uw:Nat->Value} (o3:LT z w3 (fun k=>m3<=k/\k<w3.heap.size) vw y.wn uw y.wL y.wH) (o1:LI z w1 (fun k=>m1<=k/\k<w1.heap.size) vp y.pn up y.pL y.pH) (hb:Below w3.heap.size w3 w1) (h1:w3.heap.size<=m1) (hB:B<=m3) (h3:m3<=w3.heap.size):
  ∃ c,AtP z B w1.heap.size c { y with sn:=0,hn:=0 } (w1.alloc (.cells #[vp,.slice none 0 0,vw,.slice none 0 0] 36)) vp (.slice none 0 0) vw (.slice none 0 0) up (fun _=>.slice none 0 0) uw (fun _=>.slice none 0 0):=by
 have hs:=hb.size
 have ba:=zQ w1 (.cells #[vp,.slice none 0 0,vw,.slice none 0 0] 36)
 refine ⟨fun k=>if k=w1.heap.size then 0 else if k<w3.heap.size then 3 else 1,BoxC.new w1 _ _ _ _ _,fun j=>yD _ _ _ _ rfl,if_pos rfl,by omega,?_,LS.nil _ _ _ _,?_,LL.nil _ _ _ _ _ _ _ _⟩
 ·refine (o1.mono fun k hk _=>⟨by omega,?_⟩).below ba
  show (if k=w1.heap.size then 0 else if k<w3.heap.size then 3 else 1)=1
  rw [if_neg (by omega),if_neg (by omega)]
 ·refine ((o3.mono fun k hk _=>⟨by omega,?_⟩).below hb).below ba
  show (if k=w1.heap.size then 0 else if k<w3.heap.size then 3 else 1)=3
  rw [if_neg (by omega),if_pos (by omega)]
def Sy.Rpl (y:Sy) (d:Nat->Nat):Prop:=∀ p,p<y.pn->(repO (y.pH p) (y.pL p) (y.hH p) (d p)).isSome=true
noncomputable def ctB (y:Sy) (d:Nat->Nat):Bool:=qB (y.Wh d) && (wfB (y.ah d) && qB (y.Rpl d))
noncomputable def ctS (y:Sy) (d:Nat->Nat):Sy:=if ctB y d=true then y.atY d else y.nil
theorem qyq {y:Sy} {d:Nat->Nat} (h:¬ y.Wh d):ctB y d=false:=by
 unfold ctB
 rw [qar h]
 rfl
theorem qyr {y:Sy} {d:Nat->Nat} (h:wfB (y.ah d)=false):ctB y d=false:=by
 unfold ctB
 rw [h]
 simp
theorem qys {y:Sy} {d:Nat->Nat} (h:¬ y.Rpl d):ctB y d=false:=by
 unfold ctB
 rw [qar h]
 simp
theorem qyt {y:Sy} {d:Nat->Nat} (h1:y.Wh d) (h2:wfB (y.ah d)=true) (h3:y.Rpl d):ctB y d=true:=by
 unfold ctB
 rw [qaz h1,h2,qaz h3]
 rfl
theorem qvd (y:Sy) (d:Nat->Nat):(∀ a,a<(y.ah d).n->∀ b,b<(y.ah d).n->nthV ((y.ah d).e b) 3 a ((y.ah d).l b) (cnt ((y.ah d).e a) 2 b ((y.ah d).l a):Nat)<0) ↔ y.Wh d:=
 ⟨fun h a ha b hb=>(qfm (y:=y) (c:=d)).1 (h a ha b hb),fun h a ha b hb=>(qfm (y:=y) (c:=d)).2 (h a ha b hb)⟩
theorem qo5 (X hc0:Nat) (ea:Option Addr) (eA:Nat->Option Addr) (eC:Nat->Nat) (y:Sy) (d:Nat->Nat) (pa:Option Addr) (pc:Nat) (pA:Nat->Option Addr) (pC:Nat->Nat) (w:World) (c0:w.cell? ⟨X,0,none⟩=some (.slice ea y.pn hc0)) (hE:HisE w ea eA eC (y.ah d)) (hl:∀ i,i<y.pn->d i<=200) (h4:y.pn<=4) (hP:RowS w pa y.pn fun i=>.slice (pA i) (y.pL i) (pC i)) (hI:∀ i,i<y.pn->∃ b,pA i=some ⟨b,0,none⟩/\b<w.heap.size/\qaj w b 0 (y.pL i) (y.pH i)) (hpl:∀ i,i<y.pn->y.pL i<=1048576) (hV:w.cell? ⟨0,0,none⟩=some (.iface 298 (.agg #[.pointer (some ⟨1,213,none⟩)]))):
  Calls Tryz.prog 69 #[.pointer (some ⟨X,0,none⟩),.slice pa y.pn pc] w fun e w'=>∃ v,e=.returned (.tuple #[v,.bool (ctB y d)])/\qag true w' w.heap.size (ctS y d) v/\Below w.heap.size w w':=by
 have HVx:Hid (∀ wx,Below w.heap.size w wx->wx.cell? ⟨0,0,none⟩=some (.iface 298 (.agg #[.pointer (some ⟨1,213,none⟩)]))):=fun wx hb=>(hb.cell (p:=⟨0,0,none⟩) (zJ w _ hV)).trans hV
 have HX3 : Hid (∀ wx, Below w.heap.size w wx → wx.cell? ⟨X, 0, none⟩ = some (.slice ea y.pn hc0) ∧ HisE wx ea eA eC (y.ah d) ∧ RowS wx pa y.pn (fun i => .slice (pA i) (y.pL i) (pC i)) ∧ ∀ i, i < y.pn → ∃ b, pA i = some ⟨b, 0, none⟩ ∧ b < wx.heap.size ∧ qaj wx b 0 (y.pL i) (y.pH i)) := fun wx hb => ⟨(hb.cell (p := ⟨X, 0, none⟩) (World.block_lt_of_cell? w _ c0)).trans c0, hE.below hb, hP.below hb, fun i hi => by
  obtain ⟨b,e,hlt,hI⟩:=hI i hi
  exact ⟨b,e,zL hlt hb.size,hI.below hb hlt⟩⟩
 have HWh:Hid (∀ wx,Below w.heap.size w wx->Calls Tryz.prog 117 #[.pointer (some ⟨X,0,none⟩)] wx fun e w'=>e=.returned (.bool (qB (y.Wh d)))/\Below wx.heap.size wx w'):=fun wx hb=>by
  have h:=qnc X hc0 ea eA eC (y.ah d) wx (HX3.out wx hb).1 (HX3.out wx hb).2.1 (fun i hi=>hl i hi) h4
  have e:qB (y.Wh d)=qB (∀ a,a<(y.ah d).n->∀ b,b<(y.ah d).n->nthV ((y.ah d).e b) 3 a ((y.ah d).l b) (cnt ((y.ah d).e a) 2 b ((y.ah d).l a):Nat)<0):=by
   by_cases hw:y.Wh d
   ·rw [qaz hw,qaz ((qvd y d).2 hw)]
   ·rw [qar hw,qar fun h=>hw ((qvd y d).1 h)]
  rw [e]
  exact h
 have HW:Hid (y.Wh d->∀ wx,Below w.heap.size w wx->Calls Tryz.prog 118 #[.pointer (some ⟨X,0,none⟩)] wx fun e w'=>∃ v u,e=.returned (.tuple #[v,.bool (wfB (y.ah d))])/\(wfB (y.ah d)=true->LT true w' (fun k=>wx.heap.size<=k/\k<w'.heap.size) v (y.atY d).wn u (y.atY d).wL (y.atY d).wH)/\Below wx.heap.size wx w'):=fun hw wx hb=>qtc X hc0 ea eA eC (y.ah d) wx (HX3.out wx hb).1 (HX3.out wx hb).2.1 (fun i hi=>hl i hi) h4 (fun a ha b hb=>hw a ha b hb)
 have HP : Hid (∀ wx, Below w.heap.size w wx → Calls Tryz.prog 99 #[.slice pa y.pn pc] wx fun e w' => ∃ v u, e = .returned v ∧ LI true w' (fun k => wx.heap.size ≤ k ∧ k < w'.heap.size) v y.pn u y.pL y.pH ∧ Below wx.heap.size wx w') := fun wx hb => qd2 pa y.pn pc pA y.pL pC y.pH wx (by omega) hpl (HX3.out wx hb).2.2.1 (fun i hi => by
  obtain ⟨b,e,hlt,hI⟩:=(HX3.out wx hb).2.2.2 i hi
  exact ⟨b,0,e,by rw [e];exact srcI hlt hI⟩)
 have HR:Hid (∀ wx,Below w.heap.size w wx->∀ p,p<y.pn->Calls Tryz.prog 119 #[.slice (pA p) (y.pL p) (pC p),.slice (eA p) (d p) (eC p)] wx (qc7 wx ((y.atY d).sS p) (repO (y.pH p) (y.pL p) (y.hH p) (d p)).isSome)):=fun wx hb p hp=>by
  obtain ⟨b,e,hlt,hI⟩:=(HX3.out wx hb).2.2.2 p hp
  rw [e]
  exact qhl b (y.pL p) (pC p) (eA p) (d p) (eC p) (y.pH p) (y.hH p) wx (by have:=hpl p hp;unfold maxLen;omega) hlt hI ((HX3.out wx hb).2.1.ev p hp) (by have:=hl p hp;omega) (HVx.out wx hb)
 have HK:Hid (∀ wx,Below w.heap.size w wx->∀ p,p<y.pn->Calls Tryz.prog 120 #[.slice (eA p) (d p) (eC p)] wx fun e w'=>∃ a1 c1,e=.returned (.slice a1 (d p) c1)/\w'.ownsRow wx.heap.size 74 3 (.slice a1 (d p) c1) (d p) (fE (y.hH p) (d p))/\Value.slice a1 (d p) c1≠.slice none 0 0/\Below wx.heap.size wx w'):=fun wx hb p hp=>qiq (eA p) (d p) (eC p) (y.hH p) wx (by have:=hl p hp;omega) (srcE ((HX3.out wx hb).2.1.ev p hp))
 have HN:Hid (y.pn<=4):=h4
 have BW:Hid (Below w.heap.size w (w.alloc (zQ2))):=zQ _ _
 have RB:Hid (BoxC (w.alloc (zQ2)) w.heap.size (.slice none 0 0) (.slice none 0 0) (.slice none 0 0) (.slice none 0 0)/\∀ j,(w.alloc (zQ2)).frozen? ⟨w.heap.size,j,none⟩=false):=⟨BoxC.new w _ _ _ _ _,fun j=>yD _ _ _ _ (by simp)⟩
 have hM:w.heap.size<=w.heap.size:=Nat.le_refl _
 have HNO:Hid (ctB y d=false->ctS y d=y.nil):=fun h=>if_neg (by rw [h];simp)
 have HYES:Hid (ctB y d=true->ctS y d=y.atY d):=fun h=>if_pos h
 have HC1:Hid (qB (y.Wh d)=false->ctB y d=false):=fun h=>qyq fun hw=>by rw [qaz hw] at h;cases h
 have HC2:Hid (wfB (y.ah d)=false->ctB y d=false):=qyr
 have HC3:Hid (¬ y.Rpl d->ctB y d=false):=qys
 have HC4:Hid (qB (y.Wh d)=true->wfB (y.ah d)=true->y.Rpl d->ctB y d=true):=fun h1=>qyt (qns.1 h1)
 have HW':Hid (qB (y.Wh d)=true->∀ wx,Below w.heap.size w wx->Calls Tryz.prog 118 #[.pointer (some ⟨X,0,none⟩)] wx fun e w'=>∃ v u,e=.returned (.tuple #[v,.bool (wfB (y.ah d))])/\(wfB (y.ah d)=true->LT true w' (fun k=>wx.heap.size<=k/\k<w'.heap.size) v (y.atY d).wn u (y.atY d).wL (y.atY d).wH)/\Below wx.heap.size wx w'):=fun h=>HW.out (qns.1 h)
 clear c0 hE hl h4 hP hI hpl hV HW
 generalize qB (y.Wh d)=tw at *
 generalize wfB (y.ah d)=wf at *
 generalize ctB y d=R at *
 generalize ctS y d=RS at *
 go_enter Tryz.func69,Tryz.ntmps69
 go_wp2_with fail
 generalize w.alloc (zQ2)=W2 at *
 refine (HWh.out W2 BW.out).mono ?_
 rintro e w1 ⟨rfl,q1⟩
 have B1:Hid (Below w.heap.size w w1/\BoxC w1 w.heap.size (.slice none 0 0) (.slice none 0 0) (.slice none 0 0) (.slice none 0 0)/\∀ j,w1.frozen? ⟨w.heap.size,j,none⟩=false):=⟨BW.out.trans (q1.mono BW.out.size),RB.out.1.below q1,fun j=>((qam q1).2 _ j (zJ _ _ RB.out.1.1)).trans (RB.out.2 j)⟩
 clear q1 BW RB HWh
 have l1:w.heap.size<w1.heap.size:=zJ _ _ B1.out.2.1.1
 cases tw with
 | false=>
  have HV:Hid (R=false/\RS=y.nil):=⟨HC1.out rfl,HNO.out (HC1.out rfl)⟩
  obtain ⟨⟨r0,r1,r2,r3⟩,rf⟩:=B1.out.2
  clear HC1 HC2 HC3 HC4 HNO HYES HX3 HW' HP HR HK HVx
  go_wp2
  exact bodyPost_ret (v:=.tuple #[sysV none 0 0 none 0 0 none 0 0 none 0 0,.bool false]) (by simp [results,Tryz.results69,go_sem,r0,r1,r2,r3]) rfl ⟨_,by rw [HV.out.1],by rw [HV.out.2];exact qag.zero _ _ _,(((B1.out.1.setCell hM _).setCell hM _).setCell hM _).setCell hM _⟩
 | true=>
  have HWa:Hid (∀ wx,Below w.heap.size w wx->Calls Tryz.prog 118 #[.pointer (some ⟨X,0,none⟩)] wx fun e w'=>∃ v u,e=.returned (.tuple #[v,.bool wf])/\(wf=true->LT true w' (fun k=>wx.heap.size<=k/\k<w'.heap.size) v (y.atY d).wn u (y.atY d).wL (y.atY d).wH)/\Below wx.heap.size wx w'):=HW'.out rfl
  have HC5:Hid (wf=true->y.Rpl d->R=true):=HC4.out rfl
  clear HC1 HC4 HW'
  go_wp2_with fail
  refine (HWa.out w1 B1.out.1).mono ?_
  rintro e w4 ⟨v4,u4,rfl,o4,q4⟩
  have F4:Hid ((wf=true->LT true w4 (fun k=>w1.heap.size<=k/\k<w4.heap.size) v4 (y.atY d).wn u4 (y.atY d).wL (y.atY d).wH)/\Below w1.heap.size w1 w4):=⟨o4,q4⟩
  clear o4 q4 HWa
  cases wf with
  | false=>
   have HV:Hid (R=false/\RS=y.nil):=⟨HC2.out rfl,HNO.out (HC2.out rfl)⟩
   obtain ⟨r0,r1,r2,r3⟩:=B1.out.2.1.below F4.out.2
   have rf:∀ j,w4.frozen? ⟨w.heap.size,j,none⟩=false:=fun j=>((qam F4.out.2).2 _ j l1).trans (B1.out.2.2 j)
   have Q4:Hid (Below w.heap.size w w4):=B1.out.1.trans (F4.out.2.mono B1.out.1.size)
   clear HC2 HC3 HC5 HNO HYES HX3 HP HR HK HVx F4
   go_wp2
   exact bodyPost_ret (v:=.tuple #[sysV none 0 0 none 0 0 none 0 0 none 0 0,.bool false]) (by simp [results,Tryz.results69,go_sem,r0,r1,r2,r3]) rfl ⟨_,by rw [HV.out.1],by rw [HV.out.2];exact qag.zero _ _ _,(((Q4.out.setCell hM _).setCell hM _).setCell hM _).setCell hM _⟩
  | true=>
   have HC6:Hid (y.Rpl d->R=true):=HC5.out rfl
   have O4:Hid (LT true w4 (fun k=>w1.heap.size<=k/\k<w4.heap.size) v4 (y.atY d).wn u4 (y.atY d).wL (y.atY d).wH/\Below w1.heap.size w1 w4):=⟨F4.out.1 rfl,F4.out.2⟩
   clear HC2 HC5 F4
   obtain ⟨a4,c4,rfl⟩:=zU O4.out.1.row
   go_wp2_with fail
   refine (HP.out w4 (B1.out.1.trans (O4.out.2.mono B1.out.1.size))).mono ?_
   rintro e w5 ⟨v5,uu5,rfl,o5,q5⟩
   obtain ⟨a5,c5,rfl⟩:=zU o5.row
   obtain ⟨cl5,st5⟩:=AtP.start (z:=true) (B:=w1.heap.size) (y:=y.atY d) O4.out.1 o5 q5 (Nat.le_refl _) (Nat.le_refl _) O4.out.2.size
   have F5:Hid (AtP true w1.heap.size w5.heap.size cl5 { y.atY d with sn:=0,hn:=0 } (w5.alloc (oQ4 a5 y.pn c5 none 0 0 a4 (y.atY d).wn c4 none 0 0)) (.slice a5 y.pn c5) (.slice none 0 0) (.slice a4 (y.atY d).wn c4) (.slice none 0 0) uu5 (fun _=>.slice none 0 0) u4 (fun _=>.slice none 0 0)/\Below w1.heap.size w1 (w5.alloc (oQ4 a5 y.pn c5 none 0 0 a4 (y.atY d).wn c4 none 0 0))):=⟨st5,(O4.out.2.trans (q5.mono O4.out.2.size)).trans ((zQ _ _).mono (zP O4.out.2.size q5.size))⟩
   clear o5 q5 st5 HP
   go_upto_region 7 with fail
   clear O4
   generalize w5.alloc (oQ4 a5 y.pn c5 none 0 0 a4 (y.atY d).wn c4 none 0 0)=W5 at *
   generalize hNN:w5.heap.size=N at *
   clear hNN w5
   have HX4:Hid (∀ wx,Below w1.heap.size w1 wx->Below w.heap.size w wx/\BoxC wx w.heap.size (.slice none 0 0) (.slice none 0 0) (.slice none 0 0) (.slice none 0 0)/\(∀ j,wx.frozen? ⟨w.heap.size,j,none⟩=false)/\w1.heap.size<=wx.heap.size):=fun wx hb=>⟨B1.out.1.trans (hb.mono B1.out.1.size),B1.out.2.1.below hb,fun j=>((qam hb).2 _ j l1).trans (B1.out.2.2 j),hb.size⟩
   have HL1:Hid (w.heap.size<w1.heap.size):=l1
   clear B1 l1
   have hn':(y.pn:Int)<=4:=by have:=HN.out;omega
   have hx0:=(HX3.out _ (HX4.out _ F5.out.2).1).1
   go_wp2_with fail
   clear hx0
   go_loopw [34] (fun i wr=>∃ k:Nat,k<=y.pn/\i=.int .i64 k/\Hid ((∃ cl vs vh us uh,AtP true w1.heap.size N cl { y.atY d with sn:=k,hn:=k } wr (.slice a5 y.pn c5) vs (.slice a4 (y.atY d).wn c4) vh uu5 us u4 uh)/\Below w1.heap.size w1 wr)/\Hid (∀ p,p<k->(repO (y.pH p) (y.pL p) (y.hH p) (d p)).isSome=true)) (fun i _=>y.pn - (intOf i).toNat)
   case atStart=>exact ⟨0,Nat.zero_le _,rfl,⟨⟨_,_,_,_,_,F5.out.1⟩,F5.out.2⟩,fun p hp=>by omega⟩
   case round=>
    clear F5
    obtain ⟨k,hk,rfl,HZ,HPs⟩:=hrel
    by_cases hlt:k<y.pn
    ·have hlt':(k:Int)<(y.pn:Int):=by omega
     obtain ⟨hbw,-,-,hle3⟩:=HX4.out wr HZ.out.2
     obtain ⟨-,hrw,hpw,-⟩:=HX3.out wr hbw
     have RW:Hid (Below w.heap.size w wr):=hbw
     obtain ⟨be,oe,rfl,ce⟩:=hrw.row.at hlt
     obtain ⟨bp,op,rfl,cp⟩:=hpw.at hlt
     obtain ⟨⟨cl,vs,vh,us,uh,hA⟩,hbz⟩:=HZ.out
     have AP:Hid (AtP true w1.heap.size N cl { y.atY d with sn:=k,hn:=k } wr (.slice a5 y.pn c5) vs (.slice a4 (y.atY d).wn c4) vh uu5 us u4 uh):=hA
     have BZ:Hid (Below w1.heap.size w1 wr):=hbz
     clear hA hbz HZ hle3 hbw hrw hpw
     replace ce:wr.cell? ⟨be,oe+k,none⟩=some (.slice (eA k) (d k) (eC k)):=ce
     go_wp2_with fail
     refine (HR.out wr RW.out k hlt).mono ?_
     rintro e w6 ⟨v6,rfl,o6,q6⟩
     obtain ⟨ra1,rc1,oa1,oc1,rfl,-,-⟩:=o6.read
     clear ce cp
     have S6:Hid (qaf w6 wr.heap.size (stV ((y.atY d).sS k).p ra1 ((y.atY d).sS k).rs.length rc1 oa1 ((y.atY d).sS k).os.length oc1 ((y.atY d).sS k).c) ((y.atY d).sS k).p ((y.atY d).sS k).rs ((y.atY d).sS k).os ((y.atY d).sS k).c/\Below wr.heap.size wr w6):=⟨o6,q6⟩
     clear o6 q6
     generalize hTT:(y.atY d).sS k=T at *
     have HTT:Hid ((y.atY d).sS k=T):=hTT
     clear hTT
     generalize hrb:(repO (y.pH k) (y.pL k) (y.hH k) (d k)).isSome=rb at *
     have HRB:Hid ((repO (y.pH k) (y.pL k) (y.hH k) (d k)).isSome=rb):=hrb
     clear hrb
     have N7:Hid (BoxC (w6.alloc (oQ1 T.p ra1 T.rs.length rc1 oa1 T.os.length oc1 T.c)) w6.heap.size (.int .i64 T.p) (.slice ra1 T.rs.length rc1) (.slice oa1 T.os.length oc1) (.int .i64 T.c)/\Below wr.heap.size wr (w6.alloc (oQ1 T.p ra1 T.rs.length rc1 oa1 T.os.length oc1 T.c))/\qaf (w6.alloc (oQ1 T.p ra1 T.rs.length rc1 oa1 T.os.length oc1 T.c)) wr.heap.size (stV T.p ra1 T.rs.length rc1 oa1 T.os.length oc1 T.c) T.p T.rs T.os T.c):=⟨BoxC.new w6 _ _ _ _ _,S6.out.2.trans ((zQ _ _).mono S6.out.2.size),S6.out.1.below (zQ _ _)⟩
     go_upto_region 11 with fail
     clear S6
     generalize w6.alloc (oQ1 T.p ra1 T.rs.length rc1 oa1 T.os.length oc1 T.c)=w7 at *
     generalize hN7:w6.heap.size=S7 at *
     clear hN7 w6
     cases rb with
     | false=>
      have hnr:¬ y.Rpl d:=fun h=>by
       have h1:=h k hlt
       rw [HRB.out] at h1
       cases h1
      have HV:Hid (R=false/\RS=y.nil):=⟨HC3.out hnr,HNO.out (HC3.out hnr)⟩
      have Q7:Hid (Below w1.heap.size w1 w7):=BZ.out.trans (N7.out.2.1.mono BZ.out.size)
      obtain ⟨hb7,⟨r0,r1,r2,r3⟩,rf,-⟩:=HX4.out w7 Q7.out
      have B7:Hid (Below w.heap.size w w7):=hb7
      clear hb7 hnr HC3 HC6 HNO HYES HX3 HX4 HR HK HVx AP BZ N7 RW HRB HTT HPs
      go_wp2
      exact bodyPost_ret (v:=.tuple #[sysV none 0 0 none 0 0 none 0 0 none 0 0,.bool false]) (by simp [results,Tryz.results69,go_sem,r0,r1,r2,r3]) rfl ⟨_,by rw [HV.out.1],by rw [HV.out.2];exact qag.zero _ _ _,(((B7.out.setCell hM _).setCell hM _).setCell hM _).setCell hM _⟩
     | true=>
      have HPs':Hid (∀ p,p<k+1->(repO (y.pH p) (y.pL p) (y.hH p) (d p)).isSome=true):=fun p hp=>by
       by_cases e:p=k
       ·subst e
        exact HRB.out
       ·exact HPs.out p (by omega)
      clear HPs HRB
      go_upto_region 13 with fail
      obtain ⟨sa,sc,rfl⟩:=zU AP.out.o.s.row
      obtain ⟨ha,hc,rfl⟩:=zU AP.out.o.h.row
      obtain ⟨x0,x1,x2,x3⟩:=(AP.out.below N7.out.2.1).bx
      obtain ⟨s0,s1,s2,s3⟩:=N7.out.1
      have hk2:Hid (k<=2000000):=by show k<=2000000;omega
      have lN7:N<w7.heap.size:=zJ _ _ x0
      have lS7:S7<w7.heap.size:=zJ _ _ s0
      go_upto_region 14 with (at_builtin;refine qaq kndS w7 rfl rfl _ _ rfl 0 (.slice sa k sc) k _ rfl (AP.out.o.s.below N7.out.2.1).row #[.int .i64 T.p,.slice ra1 T.rs.length rc1,.slice oa1 T.os.length oc1,.int .i64 T.c] rfl rfl (by intro u hu;simp at hu;rcases hu with rfl | rfl | rfl | rfl <;> rfl) hk2.out (Nat.zero_le _) ?_;intro v8 w8 o8 g8 q8 n8;obtain ⟨a8,c8,rfl⟩:=zU o8;obtain ⟨⟨z0,z1,z2,z3⟩,zf⟩:=AP.out.box N7.out.2.1 g8 (fun k hk=>(AP.out.gS k hk).2);have F8:Hid (AtP true w1.heap.size N (rcol cl wr.heap.size 2) { y.atY d with sn:=k+1,hn:=k } (w8.setCell ⟨N,1,none⟩ (.slice a8 (k+1) c8)) (.slice a5 y.pn c5) (.slice a8 (k+1) c8) (.slice a4 (y.atY d).wn c4) (.slice ha k hc) uu5 (fun j=>if j=k then stV T.p ra1 T.rs.length rc1 oa1 T.os.length oc1 T.c else us j) u4 uh/\Below w1.heap.size w1 (w8.setCell ⟨N,1,none⟩ (.slice a8 (k+1) c8))):=⟨AP.out.state N7.out.2.1 (by rw [HTT.out];exact N7.out.2.2) o8 g8 q8,(Below.grown (BZ.out.trans (N7.out.2.1.mono BZ.out.size)) g8 (zP BZ.out.size N7.out.2.1.size) (fun j hj=>(AP.out.gS j hj).1)).setCell AP.out.bN _⟩;clear o8 g8 q8 n8)
      clear x0 x1 x2 x3 s0 s1 s2 s3 z0 z1 z2 z3 zf lN7 lS7 N7 AP
      generalize w8.setCell ⟨N,1,none⟩ (.slice a8 (k+1) c8)=w9 at *
      clear w8
      obtain ⟨x0,x1,x2,x3⟩:=F8.out.1.bx
      have lN9:N<w9.heap.size:=F8.out.1.lt
      have q0:Below w9.heap.size w9 w9.drew:=(Below.refl w9.heap.size w9).drew
      obtain ⟨hbw,-⟩:=HX4.out w9.drew (F8.out.2.trans (q0.mono F8.out.2.size))
      refine qa7 (fun w'=>w'.cell? ⟨N,3,none⟩=some (.slice ha k hc)) (fun i=>i == 7) (by kernel_rfl) ?_
      have hHeld:(fun w':World=>w'.cell? ⟨N,3,none⟩=some (.slice ha k hc)) w9.drew:=(q0.cell (p:=⟨N,3,none⟩) lN9).trans x3
      refine qbr [0,1,2] ?_
      iterate 3 (refine qa3 rfl hHeld ?_;apply Exists.intro;refine ⟨fun wq hSw=>?_,?_⟩;(· ((try dsimp only at hSw);go_simp;try with_reducible rfl));(try simp only [Act.put,zD,zE,zF]))
      refine qbe ?_
      refine qao 3 rfl (by kernel_rfl) (fun K hK=>?_)
      refine qat rfl 120 _ _ rfl #[.slice (eA k) (d k) (eC k)] (by simp [Act.eval]) (yB Tryz.func120 (by kernel_rfl) rfl) (HK.out w9.drew hbw k hlt) ?_
      rintro e w10 ⟨a10,c10,rfl,o10,n10,d10⟩
      refine ⟨_,rfl,?_⟩
      have Q10:Hid (Below w9.heap.size w9 w10/\w10.ownsRow w9.heap.size 74 3 (.slice a10 (d k) c10) (d k) (fE (y.hH k) (d k))/\Value.slice a10 (d k) c10≠.slice none 0 0):=⟨q0.trans (d10.mono q0.size),o10,n10⟩
      refine hK.out _ _ (fun _=>(Q10.out.1.cell (p:=⟨N,3,none⟩) lN9).trans x3) ?_
      clear hHeld hK K o10 n10 d10 hbw q0
      (try simp only [Act.put,zD,zE,zF])
      refine qao 4 rfl (by kernel_rfl) (fun K hK=>?_)
      go_simp
      refine hK.out _ _ (fun _=>((Q10.out.1.trans ((zQ w10 _).mono Q10.out.1.size)).cell (p:=⟨N,3,none⟩) lN9).trans x3) ?_
      clear hK K
      (try simp only [Act.put,zD,zE,zF])
      refine qao 5 rfl (by kernel_rfl) (fun K hK=>?_)
      refine qbt qnd w10 rfl rfl _ _ rfl 0 (.slice ha k hc) k _ rfl (F8.out.1.o.h.below Q10.out.1).row #[.slice a10 (d k) c10] rfl rfl (by intro u hu;simp at hu;subst hu;rfl) hk2.out (Nat.zero_le _) ?_
      intro v11 w11 o11 g11 q11 n11
      obtain ⟨a11,c11,rfl⟩:=zU o11
      obtain ⟨⟨z0,z1,z2,z3⟩,zf⟩:=F8.out.1.box Q10.out.1 g11 (fun k hk=>(F8.out.1.gH k hk).2)
      have F9:Hid (AtP true w1.heap.size N (rcol (rcol cl wr.heap.size 2) w9.heap.size 4) { y.atY d with sn:=k+1,hn:=k+1 } (w11.setCell ⟨N,3,none⟩ (.slice a11 (k+1) c11)) (.slice a5 y.pn c5) (.slice a8 (k+1) c8) (.slice a4 (y.atY d).wn c4) (.slice a11 (k+1) c11) uu5 (fun j=>if j=k then stV T.p ra1 T.rs.length rc1 oa1 T.os.length oc1 T.c else us j) u4 (fun j=>if j=k then .slice a10 (d k) c10 else uh j)/\Below w1.heap.size w1 (w11.setCell ⟨N,3,none⟩ (.slice a11 (k+1) c11))):=⟨F8.out.1.hist Q10.out.1 Q10.out.2.1 Q10.out.2.2 o11 g11 q11,(Below.grown (F8.out.2.trans (Q10.out.1.mono F8.out.2.size)) g11 (zP F8.out.2.size Q10.out.1.size) (fun j hj=>(F8.out.1.gH j hj).1)).setCell F8.out.1.bN _⟩
      refine hK.out _ _ (fun _=>z3) ?_
      clear o11 g11 q11 n11 hK K
      (try simp only [Act.put,zD,zE,zF])
      have hHeld:(fun w':World=>w'.cell? ⟨N,3,none⟩=some (.slice ha k hc)) w11:=z3
      refine qan 6 rfl hHeld ?_
      apply Exists.intro
      refine ⟨fun wq hSw=>?_,?_⟩
      ·(try dsimp only at hSw)
       go_simp
       try with_reducible rfl
      (try simp only [Act.put,zD,zE,zF])
      refine qao 7 rfl (by kernel_rfl) (fun K hK=>?_)
      have hfN1:=zf 3
      go_simp
      refine hK.out _ _ (fun h=>?_) ?_
      ·exact absurd h (by decide)
      clear hK K z0 z1 z2 z3 zf hfN1 x0 x1 x2 x3 Q10 F8 lN9
      (try simp only [Act.put])
      refine qbf (by kernel_rfl) ?_ _
      go_wp2
      go_roundw
      case rel=>exact ⟨k+1,by omega,by go_num,⟨⟨_,_,_,_,_,F9.out.1⟩,F9.out.2⟩,HPs'.out⟩
      case measure=>simp [intOf];omega
    ·have hkn:k=y.pn:=by omega
     subst hkn
     have hlt':¬ (y.pn:Int)<(y.pn:Int):=by omega
     have hr1:R=true:=HC6.out fun p hp=>HPs.out p hp
     have HV:Hid (R=true/\RS=y.atY d):=⟨hr1,HYES.out hr1⟩
     obtain ⟨⟨cl,vs,vh,us,uh,hA⟩,hbz⟩:=HZ.out
     obtain ⟨sa,sc,rfl⟩:=zU hA.o.s.row
     obtain ⟨ha,hc,rfl⟩:=zU hA.o.h.row
     obtain ⟨x0,x1,x2,x3⟩:=hA.bx
     obtain ⟨hbw,⟨r0,r1,r2,r3⟩,rf,hle3⟩:=HX4.out wr hbz
     have OS:Hid (qag true wr w1.heap.size (y.atY d) (.agg #[.slice a5 y.pn c5,.slice sa y.pn sc,.slice a4 (y.atY d).wn c4,.slice ha y.pn hc])):=⟨_,_,_,_,_,_,_,_,_,rfl,hA.o⟩
     have BW:Hid (Below w.heap.size w wr/\w.heap.size<=w1.heap.size):=⟨hbw,by have:=HL1.out;omega⟩
     have lN:N<wr.heap.size:=hA.lt
     have hNr:w1.heap.size<=N:=hA.bN
     have l1:=HL1.out
     have hl1:w.heap.size<wr.heap.size:=by omega
     clear hA HZ hbw hbz HX3 HX4 hr1 HC3 HC6 HNO HYES HPs
     go_wp2
     exact bodyPost_ret (v := .tuple #[.agg #[.slice a5 y.pn c5, .slice sa y.pn sc, .slice a4 (y.atY d).wn c4, .slice ha y.pn hc], .bool true]) (by simp [results, Tryz.results69, go_sem, r0, r1, r2, r3]) rfl ⟨_, by rw [HV.out.1], by
      rw [HV.out.2]
      exact ((((OS.out.setBelow l1 0 _).setBelow l1 1 _).setBelow l1 2 _).setBelow l1 3 _).base BW.out.2,(((BW.out.1.setCell hM _).setCell hM _).setCell hM _).setCell hM _⟩
theorem qyp {g:Nat->I5} {n:Nat} {eh:Nat->E3} {m k:Nat} {S:S4} (h:repO g n eh m=some S) (hk:k<=m):(repO g n eh k).isSome=true:=by
 obtain ⟨h1,h2,h3⟩:=qbw h
 unfold repO
 rw [if_pos ⟨h1,by omega⟩]
 cases h0:rp g n eh k with
 | none=>
  rw [qll h0 hk] at h3
  cases h3
 | some T=>rfl
theorem qzd {y:Sy} {c:List Int} (h:cutB y c=true):atB y c=ctB y (cN c)/\atS y c=ctS y (cN c):=by
 obtain ⟨hO,hC⟩:=qbn h
 have hR:qB (y.Rpl (cN c))=true:=qaz fun p hp=>qyp (hO.rp p hp) (hC.leN hp)
 have h1:whB y c=qB (y.Wh (cN c)):=by
  unfold whB
  rw [h]
  rfl
 have h2:atB y c=ctB y (cN c):=by
  unfold atB ctB
  rw [h1,hR,Bool.and_true]
 refine ⟨h2,?_⟩
 unfold atS ctS Sy.atW
 rw [<- h2]
 unfold atB
 cases whB y c <;> cases wfB (y.ah (cN c)) <;> rfl
theorem qgt (x:SysIn) (ca:Option Addr) (cc:Nat) (c:List Int) (w:World) (hG:SysG w x) (hL:x.Len) (hcap:∀ i,i<x.hn->x.hL i<=x.hC i) (hc:Sl w ca c) (hcl:c.length<=1048576) (hV:w.cell? ⟨0,0,none⟩=some (.iface 298 (.agg #[.pointer (some ⟨1,213,none⟩)]))):
  Calls Tryz.prog 22 #[x.v,.slice ca c.length cc] w fun e w'=>∃ v,e=.returned (.tuple #[v,.bool (atB x.y c)])/\qag true w' w.heap.size (atS x.y c) v/\Below w.heap.size w w':=by
 have HVx:Hid (∀ wx,Below w.heap.size w wx->wx.cell? ⟨0,0,none⟩=some (.iface 298 (.agg #[.pointer (some ⟨1,213,none⟩)]))):=fun wx hb=>(hb.cell (p:=⟨0,0,none⟩) (zJ w _ hV)).trans hV
 have HS:Hid (∀ wx,Below w.heap.size w wx->Calls Tryz.prog 67 #[x.v,.slice ca c.length cc] wx fun e w'=>e=.returned (.bool (cutB x.y c))/\Below wx.heap.size wx w'):=fun wx hb=>qf3 x ca cc c wx (hG.below hb) hL (hc.below hb) hcl (HVx.out wx hb)
 have BW:Hid (Below w.heap.size w ((w.alloc (oQ4 x.pa x.pn x.pc x.sa x.sn x.sc x.wa x.wn x.wc x.ha x.hn x.hc)).alloc (zQ2))):=(zQ _ _).trans ((zQ _ _).mono (by simp))
 have NB:Hid (BoxC ((w.alloc (oQ4 x.pa x.pn x.pc x.sa x.sn x.sc x.wa x.wn x.wc x.ha x.hn x.hc)).alloc (zQ2)) w.heap.size (.slice x.pa x.pn x.pc) (.slice x.sa x.sn x.sc) (.slice x.wa x.wn x.wc) (.slice x.ha x.hn x.hc)):=(BoxC.new w _ _ _ _ _).below (zQ _ _)
 have RB:Hid (BoxC ((w.alloc (oQ4 x.pa x.pn x.pc x.sa x.sn x.sc x.wa x.wn x.wc x.ha x.hn x.hc)).alloc (zQ2)) (w.heap.size+1) (.slice none 0 0) (.slice none 0 0) (.slice none 0 0) (.slice none 0 0)/\∀ j,((w.alloc (oQ4 x.pa x.pn x.pc x.sa x.sn x.sc x.wa x.wn x.wc x.ha x.hn x.hc)).alloc (zQ2)).frozen? ⟨w.heap.size+1,j,none⟩=false):=⟨⟨zW _ _ _ 0 (by simp),zW _ _ _ 1 (by simp),zW _ _ _ 2 (by simp),zW _ _ _ 3 (by simp)⟩,fun j=>yD _ _ _ _ (by simp)⟩
 have hM:w.heap.size<=w.heap.size+1:=Nat.le_succ _
 have HG:Hid (SysG w x):=hG
 have HL:Hid x.Len:=hL
 have HQ:Hid ((∀ i,i<x.hn->x.hL i<=x.hC i)/\Sl w ca c):=⟨hcap,hc⟩
 clear hG hL hcap hc hV
 go_enter Tryz.func22,Tryz.ntmps22
 go_wp2_with fail
 generalize (w.alloc (oQ4 x.pa x.pn x.pc x.sa x.sn x.sc x.wa x.wn x.wc x.ha x.hn x.hc)).alloc (zQ2)=W2 at *
 refine (HS.out W2 BW.out).mono ?_
 rintro e w1 ⟨rfl,q1⟩
 have B1:Hid (Below w.heap.size w w1/\BoxC w1 w.heap.size (.slice x.pa x.pn x.pc) (.slice x.sa x.sn x.sc) (.slice x.wa x.wn x.wc) (.slice x.ha x.hn x.hc)/\BoxC w1 (w.heap.size+1) (.slice none 0 0) (.slice none 0 0) (.slice none 0 0) (.slice none 0 0)/\∀ j,w1.frozen? ⟨w.heap.size+1,j,none⟩=false):=⟨BW.out.trans (q1.mono BW.out.size),NB.out.below q1,RB.out.1.below q1,fun j=>((qam q1).2 _ j (zJ _ _ RB.out.1.1)).trans (RB.out.2 j)⟩
 clear q1 BW NB RB HS
 have l1:w.heap.size+1<w1.heap.size:=zJ _ _ B1.out.2.2.1.1
 obtain ⟨b0,b1,b2,b3⟩:=B1.out.2.1
 rcases zK (cutB x.y c) with t | t
 case inr=>
  have HV:Hid (atB x.y c=false/\atS x.y c=x.y.nil):=⟨by show atB x.y c=false;unfold atB whB;rw [t];rfl,if_neg (by unfold whB;rw [t];simp)⟩
  obtain ⟨⟨r0,r1,r2,r3⟩,rf⟩:=B1.out.2.2
  rw [t]
  clear t
  go_wp2
  exact bodyPost_ret (v:=.tuple #[sysV none 0 0 none 0 0 none 0 0 none 0 0,.bool false]) (by simp [results,Tryz.results22,go_sem,r0,r1,r2,r3]) rfl ⟨_,by rw [HV.out.1],by rw [HV.out.2];exact qag.zero _ _ _,(((B1.out.1.setCell hM _).setCell hM _).setCell hM _).setCell hM _⟩
 obtain ⟨hO,hC⟩:=qbn t
 have hln:c.length=x.pn:=hC.len
 have h4:x.pn<=4:=hO.cn.1.2
 have hhn:x.hn=x.pn:=hO.cn.2.2.1
 have HAT:Hid (atB x.y c=ctB x.y (cN c)/\atS x.y c=ctS x.y (cN c)):=qzd t
 have eah:x.y.at c=x.y.ah (cN c):=by
  unfold Sy.ah Sy.at
  rw [hln]
  rfl
 have HH:Hid (∀ wx,Below w.heap.size w wx->Calls Tryz.prog 68 #[x.v,.slice ca c.length cc] wx fun e w'=>∃ ha hc,e=.returned (.agg (hcL ha c.length hc).toArray)/\RowS w' ha c.length (fun i=>.slice (x.hA i) (cN c i) (cN c i))/\Below wx.heap.size wx w'):=fun wx hb=>qf2 x ca cc c wx (HG.out.below hb) HQ.out.1 hhn h4 hC (HQ.out.2.below hb)
 have HCT:Hid (∀ wx X ha hc,Below w.heap.size w wx->wx.cell? ⟨X,0,none⟩=some (.slice ha c.length hc)->RowS wx ha c.length (fun i=>.slice (x.hA i) (cN c i) (cN c i))->Calls Tryz.prog 69 #[.pointer (some ⟨X,0,none⟩),.slice x.pa x.pn x.pc] wx fun e w'=>∃ v,e=.returned (.tuple #[v,.bool (atB x.y c)])/\qag true w' wx.heap.size (atS x.y c) v/\Below wx.heap.size wx w'):=fun wx X ha hc' hb hcell hr=>by
  have hE:HisE wx ha x.hA (cN c) (x.y.at c):=qtv HG.out hb hC hhn hr
  rw [eah] at hE
  rw [hln] at hcell
  have h:=qo5 X hc' ha x.hA (cN c) x.y (cN c) x.pa x.pc x.pA x.pC wx hcell hE (fun i hi=>zP (hC.leN hi) (hO.hl200 hi)) h4 (HG.out.below hb).p (HG.out.below hb).pi HL.out.p.2 (HVx.out wx hb)
  rw [HAT.out.1,HAT.out.2]
  exact h
 rw [t]
 clear t hO hC hln h4 hhn eah HAT HVx HL HQ HG
 generalize hAB:atB x.y c=aB at HCT
 generalize hAS:atS x.y c=aS at HCT
 have HAS:Hid (atB x.y c=aB/\atS x.y c=aS):=⟨hAB,hAS⟩
 clear hAB hAS
 go_wp2_with fail
 refine (HH.out w1 B1.out.1).mono ?_
 rintro e w2 ⟨ea,ec,rfl,r2,q2⟩
 have B2:Hid (Below w1.heap.size w1 w2/\RowS w2 ea c.length (fun i=>.slice (x.hA i) (cN c i) (cN c i))):=⟨q2,r2⟩
 clear q2 r2 b0 b1 b2 b3 HH
 have hl:=qpg ea c.length ec
 have ho:=qph ea c.length ec
 generalize hcs:hcL ea c.length ec=cl at *
 have hs:cl.toArray.size=21:=by simpa using hl
 have HI:Hid ((Tryz.prog.info? 98).map (·.size)=some cl.toArray.size):=by show _=_;rw [hs];exact qfi
 have HOc:Hid (cl.toArray.all (·.oneCell')=true):=all_oneCell_toArray ho
 have HT:Hid ((w2.alloc (zQ3)).there w2.heap.size 0 cl.toArray.size):=qbz _ _ _ _ _ (by rw [hs];rfl) rfl
 have BE:Hid (Below w2.heap.size w2 ((w2.alloc (zQ3)).setCells w2.heap.size 0 cl)):=(qaa.sets (P:=fun b=>b=w2.heap.size) rfl _ _ (qaa.of_below (zT _ _))).below (Nat.le_refl _) fun b e=>by omega
 have HRr:((w2.alloc (zQ3)).setCells w2.heap.size 0 cl).rangeAt w2.heap.size 0 cl:=World.rangeAt_setCells_same _ _ _ _ (by simpa using HT.out)
 have HCe:Hid (((w2.alloc (zQ3)).setCells w2.heap.size 0 cl).cell? ⟨w2.heap.size,0,none⟩=some (.slice ea c.length ec)):=qqw HRr hcs
 clear hl ho hs HRr hcs
 go_upto_region 4 with (refine wpList_store_mid rfl 98 (.tmp 6) (.tmp 14) rfl w2.heap.size 0 cl.toArray rfl rfl HT.out HI.out HOc.out ?_)
 clear HT HI HOc
 generalize (w2.alloc (zQ3)).setCells w2.heap.size 0 cl=w3 at *
 have B3:Hid (Below w1.heap.size w1 w3/\RowS w3 ea c.length (fun i=>.slice (x.hA i) (cN c i) (cN c i))):=⟨B2.out.1.trans (BE.out.mono B2.out.1.size),B2.out.2.below BE.out⟩
 clear BE B2
 generalize w2.heap.size=X at *
 clear w2
 have W03:Hid (Below w.heap.size w w3):=B1.out.1.trans (B3.out.1.mono B1.out.1.size)
 obtain ⟨b0,b1,b2,b3⟩:=B1.out.2.1.below B3.out.1
 go_wp2_with fail
 refine (HCT.out w3 X ea ec W03.out HCe.out B3.out.2).mono ?_
 rintro e w4 ⟨v4,rfl,o4,q4⟩
 obtain ⟨cl,vp,vs,vw,vh,up,us,uw,uh,rfl,o4⟩:=o4
 obtain ⟨pa,pc,rfl⟩:=zU o4.p.row
 obtain ⟨sa,sc,rfl⟩:=zU o4.s.row
 obtain ⟨wa,wc,rfl⟩:=zU o4.t.row
 obtain ⟨ha,hc,rfl⟩:=zU o4.h.row
 have hl3:w.heap.size+1<w3.heap.size:=zL l1 B3.out.1.size
 have B4:Hid (Below w.heap.size w w4/\qag true w4 w3.heap.size aS (.agg #[.slice pa aS.pn pc,.slice sa aS.sn sc,.slice wa aS.wn wc,.slice ha aS.hn hc])):=⟨W03.out.trans (q4.mono W03.out.size),_,_,_,_,_,_,_,_,_,rfl,o4⟩
 have q14:Below w1.heap.size w1 w4:=B3.out.1.trans (q4.mono B3.out.1.size)
 obtain ⟨r0,r1,r2,r3⟩:=B1.out.2.2.1.below q14
 have rf:∀ j,w4.frozen? ⟨w.heap.size+1,j,none⟩=false:=fun j=>((qam q14).2 _ j l1).trans (B1.out.2.2.2 j)
 have HLE:Hid (w.heap.size<=w3.heap.size/\w.heap.size+1<w3.heap.size):=⟨by omega,hl3⟩
 clear o4 q4 q14 b0 b1 b2 b3 HCT HCe l1 hl3 B1 B3 W03
 go_wp2
 exact bodyPost_ret (v:=.tuple #[.agg #[.slice pa aS.pn pc,.slice sa aS.sn sc,.slice wa aS.wn wc,.slice ha aS.hn hc],.bool aB]) (by simp [results,Tryz.results22,go_sem,r0,r1,r2,r3]) rfl ⟨_,by rw [HAS.out.1],by rw [HAS.out.2];exact ((((B4.out.2.setBelow HLE.out.2 0 _).setBelow HLE.out.2 1 _).setBelow HLE.out.2 2 _).setBelow HLE.out.2 3 _).base HLE.out.1,(((B4.out.1.setCell hM _).setCell hM _).setCell hM _).setCell hM _⟩
