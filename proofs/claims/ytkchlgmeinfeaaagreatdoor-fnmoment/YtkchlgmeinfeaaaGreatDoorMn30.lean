/- Proved: whatever bytes are drawn by, a drawn system at a cut that is whole is right, has just the events of the cut, and run on by what happened after it comes to the same; nothing is written into what came in. One condition, tied to the program's text: errors.errorType holds what its text lays. -/
import Derived.Test.YtkchlgmeinfeaaaGreatDoorMn28
import Derived.Test.YtkchlgmeinfeaaaGreatDoorMn29
import Derived.Test.YtkchlgmeinfeaaaGreatDoorCards
import Derived.SevenTiedAt
namespace Go.Proofs.YtkchlgmeinfeaaaGreatDoor
open Go.Proofs.Tryz
set_option maxRecDepth 100000
set_option maxHeartbeats 8000000
open Go.ChangeShapes Go.WideShapes Go.ChangeAt Go.RowKit Go.Deep
theorem qwc {g:Nat->I5} {n:Nat} {eh:Nat->E3} {m k:Nat} {S:S4} (h:repO g n eh m=some S) (hk:k<=m):(repO g n eh k).isSome=true:=by
 obtain ⟨h1,h2,h3⟩:=qbe h;unfold repO;rw [nC ⟨h1,by omega⟩];cases h0:rp g n eh k with
 | none=>
  rw [qee h0 hk] at h3;cases h3
 | some T=>rfl
theorem qw8 {y:Sy} {c:List Int} (h:cutB y c=true):atB y c=ctB y (cN c)/\atS y c=ctS y (cN c):=by
 obtain ⟨hO,hC⟩:=qbj h;have hR:qB (y.Rpl (cN c))=true:=qaz fun p hp=>qwc (hO.rp p hp) (hC.leN hp)
 have h1:whB y c=qB (y.Wh (cN c)):=by
  unfold whB;rw [h];rfl
 have h2:atB y c=ctB y (cN c):=by
  unfold atB ctB;rw [h1,hR,Bool.and_true]
 refine ⟨h2,?_⟩;unfold atS ctS Sy.atW;rw [<- h2];unfold atB;cases whB y c <;> cases wfB (y.ah (cN c)) <;> rfl
theorem qo8 (x:SysIn) (ca:Option Addr) (cc:Nat) (c:List Int) (w:World) (hG:SysG w x) (hL:x.Len) (hcap:∀ i,i<x.hn->x.hL i<=x.hC i) (hc:Sl w ca c) (hcl:c.length<=1048576) (hV:w.cell? ⟨0,0,none⟩=some (.iface 221 (.agg #[.pointer (some ⟨1,132,none⟩)]))):
  Calls prog 6 #[x.v,.slice ca c.length cc] w fun e w'=>∃ v,e=.returned (.tuple #[v,.bool (atB x.y c)])/\qam true w' w.heap.size (atS x.y c) v/\Bw w w':=by
 have HVx:Hid (∀ wx,Bw w wx->wx.cell? ⟨0,0,none⟩=some (.iface 221 (.agg #[.pointer (some ⟨1,132,none⟩)]))):=fun wx hb=>(hb.cell (p:=⟨0,0,none⟩) (zJ w _ hV)).trans hV;have HS:Hid (∀ wx,Bw w wx->Calls prog 19 #[x.v,.slice ca c.length cc] wx (rB wx (.bool (cutB x.y c)))):=fun wx hb=>qfm x ca cc c wx (hG.bw hb) hL (hc.bw hb) hcl (HVx.out wx hb);have BW:Hid (Bw w ((w.alloc (x.oX)).alloc (zQ3))):=(zQ _ _).trans ((zQ _ _).mono (by simp));have NB:Hid (x.bX ((w.alloc (x.oX)).alloc (zQ3)) w.heap.size):=(BoxC.new w _ _ _ _ _).bw (zQ _ _);have RB:Hid (BoxC ((w.alloc (x.oX)).alloc (zQ3)) (w.heap.size+1) nS nS nS nS/\∀ j,((w.alloc (x.oX)).alloc (zQ3)).frozen? ⟨w.heap.size+1,j,none⟩=false):=⟨⟨zW _ _ _ 0 (by simp),zW _ _ _ 1 (by simp),zW _ _ _ 2 (by simp),zW _ _ _ 3 (by simp)⟩,fun j=>yD _ _ _ _ (by simp)⟩
 have hM:w.heap.size<=w.heap.size+1:=nK _;have HG:Hid (SysG w x):=hG;have HL:Hid x.Len:=hL;have HQ:Hid ((∀ i,i<x.hn->x.hL i<=x.hC i)/\Sl w ca c):=⟨hcap,hc⟩
 clear hG hL hcap hc hV
 go_enter func6,ntmps6
 go_wp2_with fail
 generalize (w.alloc (x.oX)).alloc (zQ3)=W2 at *;refine (HS.out W2 BW.out).mono ?_;rintro e w1 ⟨rfl,q1⟩;have B1:Hid (Bw w w1/\x.bX w1 w.heap.size/\BoxC w1 (w.heap.size+1) nS nS nS nS/\∀ j,w1.frozen? ⟨w.heap.size+1,j,none⟩=false):=⟨BW.trans (q1.mono BW.size),NB.bw q1,RB.1.bw q1,fun j=>((qae q1).2 _ j (zJ _ _ RB.1.1)).trans (RB.2 j)⟩
 clear q1 BW NB RB HS;have l1:w.heap.size+1<w1.heap.size:=zJ _ _ B1.2.2.1.1;obtain ⟨b0,b1,b2,b3⟩:=B1.2.1
 rcases zK (cutB x.y c) with t | t
 case inr=>
  have HV:Hid (atB x.y c=false/\atS x.y c=x.y.nil):=⟨by show atB x.y c=false;unfold atB whB;rw [t];rfl,nB (by unfold whB;rw [t];simp)⟩
  obtain ⟨⟨r0,r1,r2,r3⟩,rf⟩:=B1.2.2;rw [t];clear t;go_wp2;exact bodyPost_ret (v:=.tuple #[sysV none 0 0 none 0 0 none 0 0 none 0 0,.bool false]) (by simp [results,results6,go_sem,r0,r1,r2,r3]) rfl ⟨_,by rw [HV.1],by rw [HV.2];exact qam.zero _ _ _,(((B1.1.setCell hM _).setCell hM _).setCell hM _).setCell hM _⟩
 obtain ⟨hO,hC⟩:=qbj t;have hln:c.length=x.pn:=hC.len;have h4:x.pn<=4:=hO.cn.1.2;have hhn:x.hn=x.pn:=hO.cn.2.2.1;have HAT:Hid (atB x.y c=ctB x.y (cN c)/\atS x.y c=ctS x.y (cN c)):=qw8 t
 have eah:x.y.at c=x.y.ah (cN c):=by
  unfold Sy.ah Sy.at;rw [hln];rfl
 have HH:Hid (∀ wx,Bw w wx->Calls prog 20 #[x.v,.slice ca c.length cc] wx fun e w'=>∃ ha hc,e=.returned (.agg (hcL ha c.length hc).toArray)/\RowS w' ha c.length (fun i=>.slice (x.hA i) (cN c i) (cN c i))/\Bw wx w'):=fun wx hb=>qfl x ca cc c wx (HG.bw hb) HQ.1 hhn h4 hC (HQ.2.bw hb)
 have HCT:Hid (∀ wx X ha hc,Bw w wx->wx.cell? ⟨X,0,none⟩=some (.slice ha c.length hc)->RowS wx ha c.length (fun i=>.slice (x.hA i) (cN c i) (cN c i))->Calls prog 21 #[.pointer (some ⟨X,0,none⟩),.slice x.pa x.pn x.pc] wx fun e w'=>∃ v,e=.returned (.tuple #[v,.bool (atB x.y c)])/\qam true w' wx.heap.size (atS x.y c) v/\Bw wx w'):=fun wx X ha hc' hb hcell hr=>by
  have hE:HisE wx ha x.hA (cN c) (x.y.at c):=qqv HG.out hb hC hhn hr;rw [eah] at hE;rw [hln] at hcell;have h:=qmh X hc' ha x.hA (cN c) x.y (cN c) x.pa x.pc x.pA x.pC wx hcell hE (fun i hi=>zP (hC.leN hi) (hO.hl200 hi)) h4 (HG.bw hb).p (HG.bw hb).pi HL.p.2 (HVx.out wx hb);rw [HAT.1,HAT.2];exact h
 rw [t];clear t hO hC hln h4 hhn eah HAT HVx HL HQ HG;generalize hAB:atB x.y c=aB at HCT;generalize hAS:atS x.y c=aS at HCT;have HAS:Hid (atB x.y c=aB/\atS x.y c=aS):=⟨hAB,hAS⟩
 clear hAB hAS;go_wp2_with fail
 refine (HH.out w1 B1.1).mono ?_;rintro e w2 ⟨ea,ec,rfl,r2,q2⟩;have B2:Hid (Bw w1 w2/\RowS w2 ea c.length (fun i=>.slice (x.hA i) (cN c i) (cN c i))):=⟨q2,r2⟩
 clear q2 r2 b0 b1 b2 b3 HH;have hl:=qmq ea c.length ec;have ho:=qmr ea c.length ec;generalize hcs:hcL ea c.length ec=cl at *;have hs:cl.toArray.size=21:=by simpa using hl
 have HI:Hid ((prog.info? 52).map (·.size)=some cl.toArray.size):=by show _=_;rw [hs];exact qe2
 have HOc:Hid (cl.toArray.all (·.oneCell')=true):=all_oneCell_toArray ho;have HT:Hid ((w2.alloc (zQ4)).there w2.heap.size 0 cl.toArray.size):=qbm _ _ _ _ _ (by rw [hs];rfl) rfl;have BE:Hid (Bw w2 ((w2.alloc (zQ4)).setCells w2.heap.size 0 cl)):=(qap.sets (P:=fun b=>b=w2.heap.size) rfl _ _ (qap.of_below (zT _ _))).bw (nA _) fun b e=>by omega
 have HRr:((w2.alloc (zQ4)).setCells w2.heap.size 0 cl).rangeAt w2.heap.size 0 cl:=World.rangeAt_setCells_same _ _ _ _ (by simpa using HT.out);have HCe:Hid (((w2.alloc (zQ4)).setCells w2.heap.size 0 cl).cell? (aQ w2.heap.size 0)=some (.slice ea c.length ec)):=qn3 HRr hcs;clear hl ho hs HRr hcs;go_upto_region 4 with (refine wpList_store_mid rfl 52 (.tmp 6) (.tmp 14) rfl w2.heap.size 0 cl.toArray rfl rfl HT.out HI.out HOc.out ?_)
 clear HT HI HOc;generalize (w2.alloc (zQ4)).setCells w2.heap.size 0 cl=w3 at *;have B3:Hid (Bw w1 w3/\RowS w3 ea c.length (fun i=>.slice (x.hA i) (cN c i) (cN c i))):=⟨B2.1.trans (BE.mono B2.1.size),B2.2.bw BE.out⟩
 clear BE B2;generalize w2.heap.size=X at *;clear w2;have W03:Hid (Bw w w3):=B1.1.trans (B3.1.mono B1.1.size);obtain ⟨b0,b1,b2,b3⟩:=B1.2.1.bw B3.1;go_wp2_with fail
 refine (HCT.out w3 X ea ec W03.out HCe.out B3.2).mono ?_;rintro e w4 ⟨v4,rfl,o4,q4⟩;obtain ⟨cl,vp,vs,vw,vh,up,us,uw,uh,rfl,o4⟩:=o4;obtain ⟨pa,pc,rfl⟩:=zU o4.p.row;obtain ⟨sa,sc,rfl⟩:=zU o4.s.row;obtain ⟨wa,wc,rfl⟩:=zU o4.t.row;obtain ⟨ha,hc,rfl⟩:=zU o4.h.row;have hl3:w.heap.size+1<w3.heap.size:=zL l1 B3.1.size;have B4:Hid (Bw w w4/\qam true w4 w3.heap.size aS (.agg #[.slice pa aS.pn pc,.slice sa aS.sn sc,.slice wa aS.wn wc,.slice ha aS.hn hc])):=⟨W03.trans (q4.mono W03.size),_,_,_,_,_,_,_,_,_,rfl,o4⟩
 have q14:Bw w1 w4:=B3.1.trans (q4.mono B3.1.size);obtain ⟨r0,r1,r2,r3⟩:=B1.2.2.1.bw q14;have rf:∀ j,w4.frozen? ⟨w.heap.size+1,j,none⟩=false:=fun j=>((qae q14).2 _ j l1).trans (B1.2.2.2 j);have HLE:Hid (w.heap.size<=w3.heap.size/\w.heap.size+1<w3.heap.size):=⟨by omega,hl3⟩
 clear o4 q4 q14 b0 b1 b2 b3 HCT HCe l1 hl3 B1 B3 W03;go_wp2;exact bodyPost_ret (v:=.tuple #[.agg #[.slice pa aS.pn pc,.slice sa aS.sn sc,.slice wa aS.wn wc,.slice ha aS.hn hc],.bool aB]) (by simp [results,results6,go_sem,r0,r1,r2,r3]) rfl ⟨_,by rw [HAS.1],by rw [HAS.2];exact ((((B4.2.setBelow HLE.2 0 _).setBelow HLE.2 1 _).setBelow HLE.2 2 _).setBelow HLE.2 3 _).base HLE.1,(((B4.1.setCell hM _).setCell hM _).setCell hM _).setCell hM _⟩
open Go.Sort
theorem qp3 {P:Prop} {e:Ending} (hP:P) (h:qcz e P):e=.returned (.bool true):=by
 obtain ⟨b,e1,h1⟩:=h;rw [e1,h1.2 hP]
structure DMo (w wr:World) (X:Nat) (x:SysIn) (ca:Option Addr) (xs:List Int):Prop where
 j:WJ w wr X x
 c:Sl wr ca xs
theorem DMo.bw {w wr w':World} {X:Nat} {x:SysIn} {ca:Option Addr} {xs:List Int} (d:DMo w wr X x ca xs) (hb:Bw wr w'):DMo w w' X x ca xs:=⟨d.j.bw hb,d.c.bw hb⟩
theorem qwq {y:Sy} {c:List Int} (hC:y.Cut c) (ho:(y.atY (cN c)).Ok):flS (y.atY (cN c))=c:=by
 unfold flS;rw [nC (Sy.okB_true ho)];refine qnz (by simp [hC.len];rfl) fun p hp=>?_
 have hp':p<y.pn:=by
  have h9:p<(y.atY (cN c)).hn:=by simpa using hp
  exact h9
 have h1:zi ((List.range (y.atY (cN c)).hn).map fun p=>((y.atY (cN c)).hL p:Int)) p=((y.atY (cN c)).hL p:Int):=qw7 (y:=y.atY (cN c)) (n:=(y.atY (cN c)).hn) hp';show zi ((List.range (y.atY (cN c)).hn).map fun p=>((y.atY (cN c)).hL p:Int)) p=zi c p;rw [h1];exact (hC.nat hp').symm
theorem qw9 {y:Sy} {c:List Int} (hO:y.Ok) (hC:y.Cut c) (ho:(y.atY (cN c)).Ok):(y.atY (cN c)).Fo y:=⟨⟨Sy.okB_true ho,Sy.okB_true hO⟩,rfl,fun _ hp=>⟨⟨rfl,fun _ _=>rfl⟩,hC.leN hp,fun _ _=>rfl⟩⟩
theorem EqH.symM {t y : Sy} (h : t.EqH y) : y.EqH t := ⟨h.1.symm, fun k hk => ⟨(h.2 k (by rw [← h.1]; exact hk)).1.symm, fun i hi => by
 have h9:=h.2 k (by rw [<- h.1];exact hk)
 exact (h9.2 i (by rw [<- h9.1];exact hi)).symm⟩⟩
theorem EqS.symM {t y:Sy} (h:t.EqS y):y.EqS t:=⟨h.1.symm,fun k hk=>(h.2 k (by rw [<- h.1];exact hk)).symm⟩
structure MoU (W0:World) (xu:SysIn) (wr:World):Prop where
 b:Bw W0 wr
 g:SysG wr xu
 bx:BoxC wr W0.heap.size (.slice xu.pa xu.pn xu.pc) (.slice xu.sa xu.sn xu.sc) (.slice xu.wa xu.wn xu.wc) (.slice xu.ha xu.hn xu.hc)
 f:∀ j,wr.frozen? ⟨W0.heap.size,j,none⟩=false
 l:xu.Len
 n:xu.Nn false
theorem MoU.bw {W0 wr w':World} {xu:SysIn} (h:MoU W0 xu wr) (hb:Bw wr w'):MoU W0 xu w':=⟨h.b.trans (hb.mono h.b.size),h.g.bw hb,h.bx.bw hb,fun j=>((qae hb).2 _ j (zJ wr _ h.bx.1)).trans (h.f j),h.l,h.n⟩
def MoK (W0:World) (x:SysIn) (xs:List Int) (H:Nat->Wo2) (j:Nat) (wr:World):Prop:=∃ xu,MoU W0 xu wr/\xu.y.Mo x.y (cN xs) (tnD (rwF H) j)
theorem MoK.bw {W0 wr w':World} {x:SysIn} {xs:List Int} {H:Nat->Wo2} {j:Nat} (h:MoK W0 x xs H j wr) (hb:Bw wr w'):MoK W0 x xs H j w':=by
 obtain ⟨xu,h1,h2⟩:=h;exact ⟨xu,h1.bw hb,h2⟩
theorem MoK.b {W0 wr:World} {x:SysIn} {xs:List Int} {H:Nat->Wo2} {j:Nat} (h:MoK W0 x xs H j wr):Bw W0 wr:=by
 obtain ⟨xu,h1,-⟩:=h;exact h1.b
theorem qjq (a0:Option Addr) (len cap:Nat) (w:World) (hl:len<=1048576) (hB:qb9 w w.heap.size a0 len) (hV:w.cell? (aQ 0 0)=some vT):
  Calls prog 3 #[.slice a0 len cap] w (rB w (.bool true)):=by
 have HB:Hid (qb9 w w.heap.size a0 len):=hB;have HV:Hid (∀ wx,Bw w wx->wx.cell? ⟨0,0,none⟩=some (.iface 221 (.agg #[.pointer (some ⟨1,132,none⟩)]))):=fun wx hb=>(hb.cell (p:=⟨0,0,none⟩) (zJ w _ hV)).trans hV;clear hB hV
 go_enter func3,ntmps3
 go_wp2_with fail
 refine (qqb a0 len cap w).mono ?_;rintro e w1 ⟨rfl,e1⟩;obtain rfl:=e1.symm;rw [decide_eq_false (show ¬ (1048576:Int)<(len:Int) by omega)];go_wp2_with fail
 refine (qor w.heap.size len cap a0 w HB.out (nA _) hl).mono ?_;rintro e w2 ⟨x,ca,cp,xs,B,T,rfl,hm,hX,-,-,b2,hO,hn⟩;have HM:Hid (x.Len/\(∀ i,i<x.hn->x.hL i<=x.hC i)/\xs.length<=20/\x.Nn false):=⟨hm.inLen,hX.cap,hn,hX.nn⟩
 have K2:Hid (DMo w (w2.alloc (x.oX)) w2.heap.size x ca xs):=by
  obtain ⟨a',c',e,sl⟩:=hO.form;simp only [Value.slice.injEq] at e;obtain ⟨rfl,-,-⟩:=e;exact ⟨⟨hX.self.bw (zQ _ _),BoxC.new _ _ _ _ _ _,b2.trans ((zQ _ _).mono b2.size)⟩,sl.bw (zQ _ _)⟩
 clear hX b2 hm HB hO;have hx20:(xs.length:Int)<=20:=by omega
 go_upto_region 4 with fail
 generalize w2.alloc (x.oX)=W2 at *;generalize w2.heap.size=X at *;clear w2
 have HWo:Hid (∀ wx t,whB x.y xs=t->DMo w wx X x ca xs->Calls prog 8 #[x.v,.slice ca xs.length cp] wx (rB wx (.bool t))):=fun wx t ht hd=>by
  rw [<- ht];exact qjc x ca cp xs wx hd.j.g HM.1 HM.2.1 hd.c (by have:=HM.2.2.1;omega) (HV.out _ hd.j.be)
 have HWs:Hid (∀ wx t,whB x.y xs=t->DMo w wx X x ca xs->Calls prog 9 #[x.v,.slice ca xs.length cp] wx (rB wx (.bool t))):=fun wx t ht hd=>by
  rw [<- ht];exact qf0 x ca cp xs wx hd.j.g HM.1 HM.2.1 hd.c (by have:=HM.2.2.1;omega)
 obtain ⟨z0,z1,z2,z3⟩:=K2.j.bx;go_wp2_with fail
 clear z0 z1 z2 z3;refine (qo8 x ca cp xs W2 K2.j.g HM.1 HM.2.1 K2.c (by have:=HM.2.2.1;omega) (HV.out _ K2.j.be)).mono ?_;rintro e w3 ⟨v3,rfl,o3,d3⟩;obtain ⟨x',rfl,ey,g3,cp3,nn3⟩:=o3.inJ;have K3:Hid (DMo w (w3.alloc (oQ4 x'.pa x'.pn x'.pc x'.sa x'.sn x'.sc x'.wa x'.wn x'.wc x'.ha x'.hn x'.hc)) X x ca xs/\WJ w (w3.alloc (oQ4 x'.pa x'.pn x'.pc x'.sa x'.sn x'.sc x'.wa x'.wn x'.wc x'.ha x'.hn x'.hc)) w3.heap.size x'/\x'.y=atS x.y xs/\(∀ i,i<x'.hn->x'.hL i<=x'.hC i)/\x'.Nn false):=⟨(K2.bw d3).bw (zQ _ _),⟨g3.bw (zQ _ _),BoxC.new _ _ _ _ _ _,((K2.bw d3).bw (zQ _ _)).j.be⟩,ey,cp3,nn3⟩
 clear o3 ey g3 d3 K2 cp3 nn3;obtain ⟨R,hR⟩:∃ R,atB x.y xs=R:=⟨_,rfl⟩
 rw [hR];have HR:Hid (atB x.y xs=R):=hR;clear hR;obtain ⟨k0,k1,k2,k3⟩:=K3.1.j.bx;go_wp2_with fail
 clear k0 k1 k2 k3;generalize w3.alloc (oQ4 x'.pa x'.pn x'.pc x'.sa x'.sn x'.sc x'.wa x'.wn x'.wc x'.ha x'.hn x'.hc)=W3 at *;generalize w3.heap.size=Y at *;clear w3;refine (qpy x ca cp xs W3 K3.1.j.g HM.1 HM.2.1 K3.1.c (by have:=HM.2.2.1;omega)).mono ?_;rintro e w4 ⟨v4,rfl,o4,d4⟩;rw [HR.out];obtain ⟨x2,rfl,-,-,-,-⟩:=o4.inJ;have K4:Hid (DMo w (w4.alloc (oQ4 x2.pa x2.pn x2.pc x2.sa x2.sn x2.sc x2.wa x2.wn x2.wc x2.ha x2.hn x2.hc)) X x ca xs/\WJ w (w4.alloc (oQ4 x2.pa x2.pn x2.pc x2.sa x2.sn x2.sc x2.wa x2.wn x2.wc x2.ha x2.hn x2.hc)) Y x'/\x'.y=atS x.y xs/\(∀ i,i<x'.hn->x'.hL i<=x'.hC i)/\x'.Nn false):=⟨(K3.1.bw d4).bw (zQ _ _),(K3.2.1.bw d4).bw (zQ _ _),K3.2.2⟩
 clear o4 d4 K3;go_upto_region 6 with fail
 generalize w4.alloc (oQ4 x2.pa x2.pn x2.pc x2.sa x2.sn x2.sc x2.wa x2.wn x2.wc x2.ha x2.hn x2.hc)=W4 at *;obtain ⟨Q,hQ⟩:∃ Q,whB x.y xs=Q:=⟨_,rfl⟩
 have HQ:Hid (whB x.y xs=Q):=hQ;clear hQ;have hRR:(R != R)=false:=by cases R <;> rfl
 have hQQ:(Q != Q)=false:=by cases Q <;> rfl
 have q0:Bw W4 W4.drew:=(nE W4.heap.size W4).drew;have HS0:Hid (∀ wx,Bw W4 wx->x.bX wx X):=fun wx hb=>(K4.1.bw hb).j.bx;refine qah (fun w'=>x.bX w' X) (fun _=>false) (by kernel_rfl) ?_;have hHeld:=HS0.out _ q0;refine qa0 [0,1,2,3,4,5,7,8] ?_;iterate 8 (refine qba rfl hHeld ?_)
 refine qav ?_;refine yW 6 rfl fun Kc hKc=>?_;refine qh3 rfl 8 _ _ rfl #[x.v,.slice ca xs.length cp] (by simp [Act.eval]) (yB func8) (HWo.out W4.drew Q HQ.out (K4.1.bw q0)) ?_;rintro e w5 ⟨rfl,b5⟩;have q5:Bw W4 w5:=q0.trans (b5.mono q0.size);refine ⟨_,rfl,?_⟩;refine hKc.out _ _ (fun _=>HS0.out _ q5) ?_;clear hKc Kc hHeld
 (try simp only [Act.put,zD,zE,zF])
 have hHeld:=HS0.out _ q5;refine yW 9 rfl fun Kc hKc=>?_;refine qh3 rfl 9 _ _ rfl #[x.v,.slice ca xs.length cp] (by simp [Act.eval]) (yB func9) (HWs.out w5 Q HQ.out (K4.1.bw q5)) ?_;rintro e w6 ⟨rfl,b6⟩;have q6:Bw W4 w6:=q5.trans (b6.mono q5.size);refine ⟨_,rfl,?_⟩;refine hKc.out _ _ (fun _=>HS0.out _ q6) ?_;clear hKc Kc hHeld
 (try simp only [Act.put,zD,zE,zF])
 have hHeld:=HS0.out _ q6;refine qbn 10 rfl hHeld ?_;refine qbn 11 rfl hHeld ?_;have K6:Hid (DMo w w6 X x ca xs/\WJ w w6 Y x'/\x'.y=atS x.y xs/\(∀ i,i<x'.hn->x'.hL i<=x'.hC i)/\x'.Nn false):=⟨K4.1.bw q6,K4.2.1.bw q6,K4.2.2⟩
 clear hHeld HS0 q0 q5 q6 b5 b6 HWo HWs HQ K4 hQQ hRR;refine yX ?_ _;cases R with
 | false=>
  have HN:Hid (x'.pn=0):=by
   have h9:=K6.2.2.1
   have h8:(atS x.y xs).pn=0:=by
    have hr:=HR.out;unfold atB at hr;unfold atS Sy.atW;by_cases h1:whB x.y xs=true
    ·rw [h1,Bool.true_and] at hr
     rw [nC h1,hr];rfl
    ·rw [nB h1]
     rfl
   rw [<- h9] at h8;exact h8
  obtain ⟨k0,k1,k2,k3⟩:=K6.2.1.bx;rw [HN.out] at k0;go_wp2;go_ret;exact ⟨rfl,K6.1.j.be⟩
 | true=>
  obtain ⟨hO,hC,hMo,hS,-⟩:=Sy.Mo.start HR.out;have hy:x'.y=x.y.atY (cN xs):=K6.2.2.1.trans hS;have HO:Hid (x.y.Ok/\x.y.Cut xs/\x'.y.Mo x.y (cN xs) (tnD (rwF (rwH x.y)) 0)):=⟨hO,hC,by rw [hy];exact hMo⟩
  have HF:Hid (x'.y.Fo x.y/\flS x'.y=xs/\x'.y.okB=true/\x'.Len):=by
   have h9:=hMo.ok
   exact ⟨by rw [hy]; exact qw9 hO hC h9, by rw [hy]; exact qwq hC h9, by rw [hy]; exact Sy.okB_true h9, by
    have:=h9.sm;rw [<- hy] at this
    exact this.inLen⟩
  clear hO hC hMo hS hy;obtain ⟨s0,s1,s2,s3⟩:=K6.1.j.bx;obtain ⟨t0,t1,t2,t3⟩:=K6.2.1.bx
  go_upto_region 12 with (first
   | (go_at_call 10;refine (qbq x' _ K6.2.1.g HF.2.2.2 (HV.out _ K6.1.j.be)).mono ?_;rintro e w8 ⟨rfl,d8⟩;rw [HF.2.2.1];clear s0 s1 s2 s3 t0 t1 t2 t3;have K8:Hid (DMo w w8 X x ca xs/\WJ w w8 Y x'/\(∀ i,i<x'.hn->x'.hL i<=x'.hC i)/\x'.Nn false):=⟨K6.1.bw d8,K6.2.1.bw d8,K6.2.2.2⟩;obtain ⟨s0,s1,s2,s3⟩:=K8.1.j.bx;obtain ⟨t0,t1,t2,t3⟩:=K8.2.1.bx;clear d8)
   | (go_at_call 11;refine (qi9 x' x _ K8.2.1.g K8.1.j.g HF.2.2.2 HM.1 (HV.out _ K8.1.j.be)).mono ?_;rintro e w9 ⟨te,d9⟩;have te:=qp3 HF.1 te;subst te;clear s0 s1 s2 s3 t0 t1 t2 t3;have K9:Hid (DMo w w9 X x ca xs/\WJ w w9 Y x'/\(∀ i,i<x'.hn->x'.hL i<=x'.hC i)/\x'.Nn false):=⟨K8.1.bw d9,K8.2.1.bw d9,K8.2.2⟩;obtain ⟨s0,s1,s2,s3⟩:=K9.1.j.bx;obtain ⟨t0,t1,t2,t3⟩:=K9.2.1.bx;clear d9 K8)
   | (go_at_call 13;refine (qk4 x' _ K9.2.1.g HF.2.2.2 (HV.out _ K9.1.j.be)).mono ?_;rintro e w10 ⟨u10,rfl,o10,d10⟩;rw [HF.2.1] at o10;obtain ⟨a10,c10,rfl,l10⟩:=o10.form;clear s0 s1 s2 s3 t0 t1 t2 t3;have K10:Hid (DMo w w10 X x ca xs/\WJ w w10 Y x'/\(∀ i,i<x'.hn->x'.hL i<=x'.hC i)/\x'.Nn false):=⟨K9.1.bw d10,K9.2.1.bw d10,K9.2.2⟩;have L10:Hid (Sl w10 a10 xs):=l10;clear d10 K9 o10 l10)
   | (go_at_call 12;refine (qdx a10 ca c10 cp xs _ (by have:=HM.2.2.1;omega) L10.out K10.1.c).mono ?_;rintro e w11 ⟨rfl,d11⟩;have K11:Hid (DMo w w11 X x ca xs/\WJ w w11 Y x'/\(∀ i,i<x'.hn->x'.hL i<=x'.hC i)/\x'.Nn false):=⟨K10.1.bw d11,K10.2.1.bw d11,K10.2.2⟩;clear d11 K10 L10))
  clear K6
  have HRo:Hid (rwB x.y (rwH x.y) (rwN x.y)=true/\rwN x.y<=800):=by
   refine ⟨qvz (Sy.okB_true HO.1),?_⟩;unfold rwN;rw [nC (Sy.okB_true HO.1)];exact Hs.tot_le HO.1.cn.1.2 fun i hi=>HO.1.hl200 hi
  obtain ⟨N,hN⟩:∃ N,rwN x.y=N:=⟨_,rfl⟩
  obtain ⟨H,hH⟩:∃ H,rwH x.y=H:=⟨_,rfl⟩
  have HN:Hid (rwN x.y=N/\rwH x.y=H):=⟨hN,hH⟩
  rw [hN,hH] at HRo;rw [hH] at HO;clear hN hH;obtain ⟨s0,s1,s2,s3⟩:=K11.1.j.bx;go_wp2_with fail
  clear s0 s1 s2 s3;refine (qms x _ K11.1.j.g HM.1 (HV.out _ K11.1.j.be)).mono ?_;rintro e w12 ⟨u12,rfl,o12,d12⟩;rw [HN.1,HN.2] at o12;obtain ⟨gr,cr,rfl,-,gl,ga,-⟩:=o12.form;have K12:Hid (DMo w w12 X x ca xs/\WJ w w12 Y x'/\WoAt w12 gr 0 N H/\gr<w12.heap.size):=⟨K11.1.bw d12,K11.2.1.bw d12,ga,gl⟩
  have HNN:Hid ((∀ i,i<x'.hn->x'.hL i<=x'.hC i)/\x'.Nn false):=K11.2.2;clear o12 d12 K11 ga gl;obtain ⟨t0,t1,t2,t3⟩:=K12.2.1.bx;go_upto_region 14 with fail
  clear t0 t1 t2 t3;have M13:Hid (MoU w12 x' (w12.alloc (oQ4 x'.pa x'.pn x'.pc x'.sa x'.sn x'.sc x'.wa x'.wn x'.wc x'.ha x'.hn x'.hc))):=⟨zQ _ _,K12.2.1.g.bw (zQ _ _),BoxC.new _ _ _ _ _ _,fun j=>yD _ _ _ _ rfl,HF.2.2.2,HNN.2⟩
  have D0:Hid (DMo w w12 X x ca xs/\WoAt w12 gr 0 N H/\gr<w12.heap.size):=⟨K12.1,K12.2.2⟩
  clear K12;generalize w12.alloc (oQ4 x'.pa x'.pn x'.pc x'.sa x'.sn x'.sc x'.wa x'.wn x'.wc x'.ha x'.hn x'.hc)=W13 at *;have hN8:(N:Int)<=800:=by have:=HRo.2;omega
  go_wp2_with fail
  go_loopw [11] (fun i wr=>∃ j:Nat,j<=N/\i=.int .i64 (j:Nat)/\Hid (MoK w12 x xs H j wr)) (fun i _=>N - (intOf i).toNat)
  case atStart=>exact ⟨0,nD _,rfl,x',M13.out,HO.2.2⟩
  case round=>
   clear M13 HF HNN
   rename World=>wr
   obtain ⟨j,hj,rfl,HK⟩:=hrel;by_cases hjt:j<N
   case neg=>
    have hjn:j=N:=by omega
    have hjt':¬ (j:Int)<(N:Int):=by omega
    obtain ⟨xu,ku,mu⟩:=HK.out
    have hE : xu.y.EqH x.y ∧ xu.y.EqS x.y := mu.done HO.1 (fun p hp => HO.2.1.leN hp) (by
     have h9:=HRo.1;unfold rwB at h9;simp only [nH] at h9;have h8:=(qhy.1 h9.2).2;rw [hjn]
     exact fun p hp=>h8 p hp)
    have HE:Hid (x.y.EqH xu.y/\x.y.EqS xu.y):=⟨EqH.symM hE.1,EqS.symM hE.2⟩
    have K14:Hid (WJ w wr X x/\WJ w wr w12.heap.size xu/\xu.Len):=⟨(D0.1.bw ku.b).j,⟨ku.g,ku.bx,(D0.1.bw ku.b).j.be⟩,ku.l⟩
    clear hjn hE ku mu HK;obtain ⟨s0,s1,s2,s3⟩:=K14.1.bx;obtain ⟨t0,t1,t2,t3⟩:=K14.2.1.bx;go_wp2_with (first|(go_at_call 16;refine (qnc xu x _ HE.1 K14.2.1.g K14.1.g K14.2.2).mono ?_;rintro e w8 ⟨rfl,d8⟩;clear s0 s1 s2 s3 t0 t1 t2 t3;have K8:Hid (WJ w w8 X x/\WJ w w8 w12.heap.size xu):=⟨K14.1.bw d8,K14.2.1.bw d8⟩;obtain ⟨s0,s1,s2,s3⟩:=K8.1.bx;obtain ⟨t0,t1,t2,t3⟩:=K8.2.bx;clear d8)|(go_at_call 17;refine (qj3 xu x _ HE.2 K8.2.g K8.1.g K14.2.2).mono ?_;rintro e w9 ⟨rfl,d9⟩;have K9:Hid (Bw w w9):=(K8.1.bw d9).be;clear d9))
    go_ret;exact ⟨rfl,K9.out⟩
   have hjt':(j:Int)<(N:Int):=by omega
   obtain ⟨p,hp,e1,e2,hcan⟩:∃ p,p<x.y.pn/\(H j).m=(p:Nat)/\(H j).v=(tnD (rwF H) j p:Nat)/\x.y.hs.Can (tnD (rwF H) j) p:=by
    have h9:=HRo.1;unfold rwB at h9;simp only [nH] at h9;exact (qhy.1 h9.2).1 j hjt
   have HP:Hid (p<x.y.pn/\(H j).m=(p:Nat)/\x.y.hs.Can (tnD (rwF H) j) p):=⟨hp,e1,hcan⟩
   have hxl:xs.length=x.y.pn:=HO.2.1.len;have hpx:p<xs.length:=by omega
   have hpx':(p:Int)<(xs.length:Int):=by omega
   obtain ⟨c0,c1⟩:=(D0.2.1.bw HK.b D0.2.2) j hjt;rw [nL,e1] at c0;rw [nL,e2] at c1;obtain ⟨cb,co,eca,-,cc⟩:=(D0.1.bw HK.b).c.at hpx;have hzc:zi xs p=(cN xs p:Nat):=HO.2.1.nat hp;rw [hzc] at cc;subst eca;obtain ⟨I,hI⟩:∃ I,tnD (rwF H) j p=I:=⟨_,rfl⟩
   have HI:Hid (tnD (rwF H) j p=I):=hI;rw [hI] at c1;obtain ⟨Cp,hCp⟩:∃ Cp,cN xs p=Cp:=⟨_,rfl⟩
   have HCp:Hid (cN xs p=Cp):=hCp;rw [hCp] at cc;clear hI hCp hzc hxl e1 e2 hcan hpx;go_upto_region 18 with fail
   have ba:=zQ wr (.cells #[iV (p:Nat),iV (I:Nat)] 43);have HK2:Hid (MoK w12 x xs H j (wr.alloc (.cells #[iV (p:Nat),iV (I:Nat)] 43))):=HK.bw ba;have HW:Hid ((wr.alloc (.cells #[iV (p:Nat),iV (I:Nat)] 43)).cell? (aQ wr.heap.size 0)=some (iV (p:Nat))/\(wr.alloc (.cells #[iV (p:Nat),iV (I:Nat)] 43)).cell? (aQ wr.heap.size 1)=some (iV (I:Nat))/\(wr.alloc (.cells #[iV (p:Nat),iV (I:Nat)] 43)).cell? ⟨cb,co+p,none⟩=some (iV (Cp:Nat))):=⟨zW _ _ _ 0 (by simp),zW _ _ _ 1 (by simp),(ba.cell (p:=⟨cb,co+p,none⟩) (zJ wr _ cc)).trans cc⟩
   clear c0 c1 cc ba HK;generalize wr.alloc (.cells #[iV (p:Nat),iV (I:Nat)] 43)=wA at *;generalize wr.heap.size=M at *;have q0:Bw wA wA.drew:=(nE wA.heap.size wA).drew;have HS0:Hid (∀ wx,Bw wA wx->wx.cell? ⟨M,0,none⟩=some (iV (p:Nat))/\wx.cell? ⟨M,1,none⟩=some (iV (I:Nat))/\wx.cell? ⟨cb,co+p,none⟩=some (iV (Cp:Nat))):=fun wx hb=>⟨(hb.cell (p:=⟨M,0,none⟩) (zJ wA _ HW.1)).trans HW.1,(hb.cell (p:=⟨M,1,none⟩) (zJ wA _ HW.2.1)).trans HW.2.1,(hb.cell (p:=⟨cb,co+p,none⟩) (zJ wA _ HW.2.2)).trans HW.2.2⟩
   refine qah (fun w'=>w'.cell? (aQ M 0)=some (iV (p:Nat))/\w'.cell? (aQ M 1)=some (iV (I:Nat))/\w'.cell? ⟨cb,co+p,none⟩=some (iV (Cp:Nat))) (fun _=>false) (by kernel_rfl) ?_;have hHeld:=HS0.out _ q0;refine qa0 [0,1,2,3,4,5,6,7] ?_;iterate 8 (refine qba rfl hHeld ?_)
   refine qav ?_;have HK3:Hid (MoK w12 x xs H j wA.drew):=HK2.bw q0;clear hHeld HK2;refine yX ?_ _;by_cases hs:I<Cp
   case pos=>
    have hs':(I:Int)<(Cp:Int):=by omega
    have HK4:Hid (MoK w12 x xs H (j+1) wA.drew):=by
     obtain ⟨xu,ku,mu⟩:=HK3.out;exact ⟨xu,ku,mu.skip HP.2.1 (by rw [HI.out,HCp.out];exact hs)⟩
    clear hs HK3 HS0 q0 HW;go_wp2;go_roundw
    case rel=>exact ⟨j+1,by omega,by go_num,HK4.out⟩
    case measure=>simp [intOf];omega
   have hs':¬ (I:Int)<(Cp:Int):=by omega
   go_upto_region 19 with fail
   obtain ⟨xu,ku,mu⟩:=HK3.out;have kd:=D0.1.bw ku.b;obtain ⟨hul,hcode,hstep⟩:=mu.go HO.1 HP.1 HP.2.1 HP.2.2 (by rw [HI.out,HCp.out];exact hs)
   have HG:Hid ((stC xu.y p (x.hH p I).q=0\/stC xu.y p (x.hH p I).q=4\/stC xu.y p (x.hH p I).q=5)/\(stC xu.y p (x.hH p I).q=0->(stY xu.y p (x.hH p I).q).Mo x.y (cN xs) (tnD (rwF H) (j+1)))):=by
    rw [HI.out] at hcode hstep;exact ⟨hcode,hstep⟩
   have hIl:I<x.hL p:=by
    have h9:=HP.2.2.1;rw [HI.out] at h9;exact h9
   have hph:p<x.hn:=by
    have h9:=HO.1.cn.2.2.1;have h8:x.y.hn=x.hn:=rfl;have h7:=HP.1;omega
   have hIl':(I:Int)<(x.hL p:Int):=by omega
   have hph':(p:Int)<(x.hn:Int):=by omega
   obtain ⟨bh,oh,eh,ch⟩:=kd.j.g.h.at hph;replace ch:wA.drew.cell? ⟨bh,oh+p,none⟩=some (.slice (x.hA p) (x.hL p) (x.hC p)):=ch;obtain ⟨bv,ov,ev,-,-,cq,-⟩:=(kd.j.g.hi p hph).at hIl;rw [ev] at ch;obtain ⟨s0,s1,s2,s3⟩:=kd.j.bx;rw [eh] at s3;clear eh ev;have Q1:Below wA.drew.heap.size wA.drew wA.drew.drew:=(nE wA.drew.heap.size wA.drew).drew;have HS1:Hid (∀ wx,Below wA.drew.heap.size wA.drew wx->(wx.cell? ⟨M,0,none⟩=some (iV (p:Nat))/\wx.cell? ⟨M,1,none⟩=some (iV (I:Nat)))/\BoxC wx w12.heap.size (.slice xu.pa xu.pn xu.pc) (.slice xu.sa xu.sn xu.sc) (.slice xu.wa xu.wn xu.wc) (.slice xu.ha xu.hn xu.hc)/\wx.cell? ⟨X,3,none⟩=some (.slice (some ⟨bh,oh,none⟩) x.hn x.hc)/\wx.cell? ⟨bh,oh+p,none⟩=some (.slice (some ⟨bv,ov,none⟩) (x.hL p) (x.hC p))/\wx.cell? ⟨bv,ov+I*3+1,none⟩=some (iV (x.hH p I).q)):=fun wx hb=>⟨⟨(HS0.out wx (q0.trans (hb.mono q0.size))).1,(HS0.out wx (q0.trans (hb.mono q0.size))).2.1⟩,ku.bx.bw hb,(hb.cell (p:=⟨X,3,none⟩) (zJ _ _ s3)).trans s3,(hb.cell (p:=⟨bh,oh+p,none⟩) (zJ _ _ ch)).trans ch,(hb.cell (p:=⟨bv,ov+I*3+1,none⟩) (zJ _ _ cq)).trans cq⟩
   have HU2:Hid (MoU w12 xu wA.drew):=ku;clear hs s0 s1 s2 s3 ch cq kd ku mu hul hcode hstep HK3 hph hIl;obtain ⟨F,hF⟩:∃ F,(x.hH p I).q=F:=⟨_,rfl⟩
   rw [hF] at HS1 HG;clear hF;generalize wA.drew=wB at *;have HST:Hid (∀ wx,Bw wB wx->Calls prog 15 #[.agg #[.slice xu.pa xu.pn xu.pc,.slice xu.sa xu.sn xu.sc,.slice xu.wa xu.wn xu.wc,.slice xu.ha xu.hn xu.hc],iV (p:Nat),iV F] wx fun e w'=>∃ v,e=.returned (.tuple #[v,iV (stC xu.y p F)])/\qam false w' wx.heap.size (stY xu.y p F) v/\Bw wx w'):=fun wx hb=>qk5 (z:=false) xu p F wx (HU2.bw hb).g HU2.l HU2.n (HV.out _ (D0.1.bw (HU2.bw hb).b).j.be);obtain ⟨YW,hYW⟩:∃ YW,stY xu.y p F=YW:=⟨_,rfl⟩
   obtain ⟨CW,hCW⟩:∃ CW,stC xu.y p F=CW:=⟨_,rfl⟩
   rw [hYW,hCW] at HST HG;clear hYW hCW
   go_cut [13,14] from 88 to 106 (fun s t wx=>∃ N:Nat,s=.pointer (some (aQ N 0))/\t=.int .i64 CW/\Hid (∃ pa pc sa sc wa wc ha hc,qam false wx wB.heap.size YW (.agg #[.slice pa YW.pn pc,.slice sa YW.sn sc,.slice wa YW.wn wc,.slice ha YW.hn hc])/\Bw wB wx/\BoxC wx N (.slice pa YW.pn pc) (.slice sa YW.sn sc) (.slice wa YW.wn wc) (.slice ha YW.hn hc)))
   case first=>
    refine qah (fun w'=>(w'.cell? (aQ M 0)=some (iV (p:Nat))/\w'.cell? (aQ M 1)=some (iV (I:Nat)))/\BoxC w' w12.heap.size (.slice xu.pa xu.pn xu.pc) (.slice xu.sa xu.sn xu.sc) (.slice xu.wa xu.wn xu.wc) (.slice xu.ha xu.hn xu.hc)/\w'.cell? (aQ X 3)=some (.slice (some (aQ bh oh)) x.hn x.hc)/\w'.cell? ⟨bh,oh+p,none⟩=some (.slice (some (aQ bv ov)) (x.hL p) (x.hC p))/\w'.cell? ⟨bv,ov+I*3+1,none⟩=some (iV F)) (fun _=>false) (by kernel_rfl) ?_;have hHeld:=HS1.out _ Q1;refine qa0 [0,1,2,3,4,5,6,7,8,9,10,11,12,13] ?_;iterate 14 (refine qba rfl hHeld ?_)
    refine qav ?_;refine qh6 14 18 rfl rfl (by kernel_rfl) (fun K hK=>?_) (fun K hK=>?_)
    ·refine qag rfl 15 _ _ rfl #[.agg #[.slice xu.pa xu.pn xu.pc,.slice xu.sa xu.sn xu.sc,.slice xu.wa xu.wn xu.wc,.slice xu.ha xu.hn xu.hc],iV (p:Nat),iV F] (by simp [Act.eval]) (yB func15) (HST.out wB.drew Q1) ?_
     rintro e w7 ⟨v7,rfl,o7,d7⟩;obtain ⟨cq,vp,vs,vw,vh,up,us,uw,uh,rfl,o7⟩:=o7;obtain ⟨pa,pc,rfl⟩:=zU o7.p.row;obtain ⟨sa,sc,rfl⟩:=zU o7.s.row;obtain ⟨wa,wc,rfl⟩:=zU o7.t.row;obtain ⟨ha,hc,rfl⟩:=zU o7.h.row;have O7:qam false w7 (wB.drew).heap.size YW (.agg #[.slice pa YW.pn pc,.slice sa YW.sn sc,.slice wa YW.wn wc,.slice ha YW.hn hc]):=⟨_,_,_,_,_,_,_,_,_,rfl,o7⟩
     refine ⟨_,rfl,?_⟩;have q7:Bw wB w7:=Q1.trans (d7.mono Q1.size);refine hK.out _ _ (fun _=>HS1.out _ q7) ?_;clear hK K o7;have hHeld:=HS1.out _ q7;refine qa0 [15,16,17] ?_;iterate 3 (refine qba rfl hHeld ?_)
     refine qav ?_;refine yW 18 rfl fun K hK=>?_;go_simp;have qa:=q7.trans ((zQ w7 (zQ3)).mono q7.size);refine hK.out _ _ (fun _=>HS1.out _ qa) ?_;clear hK K hHeld
     (try simp only [Act.put,zD,zE,zF])
     refine yW 19 rfl fun K hK=>?_;go_simp;have qb:=q7.trans ((zQ w7 (oQ4 pa YW.pn pc sa YW.sn sc wa YW.wn wc ha YW.hn hc)).mono q7.size);refine hK.out _ _ (fun _=>HS1.out _ qb) ?_;clear hK K;have hHeld:=HS1.out _ qb;refine qbn 20 rfl hHeld ?_;refine yX ?_ _;go_wp2_with fail
     go_meet
     case rel=>exact ⟨w7.heap.size,by with_reducible rfl,by with_reducible rfl,_,_,_,_,_,_,_,_,(O7.bw (zQ _ _)).base Q1.size,qb,BoxC.new w7 _ _ _ _ _⟩
    ·go_simp
     have qa:=(zQ wB (zQ3)).drew;have bN:BoxC (wB.alloc (zQ3)).drew wB.heap.size nS nS nS nS:=(BoxC.new wB _ _ _ _ _).bw (nE _ _).drew;have fN:∀ j,(wB.alloc (zQ3)).drew.frozen? ⟨wB.heap.size,j,none⟩=false:=fun j=>(World.frozen?_drew _ _).trans (yD _ _ _ _ rfl);have zN:wB.heap.size<(wB.alloc (zQ3)).drew.heap.size:=by simp
     refine hK.out _ _ (fun _=>HS1.out _ qa) ?_;clear hK K
     (try simp only [Act.put,zD,zE,zF])
     refine yW 14 rfl fun K hK=>?_;obtain ⟨N,hNN⟩:∃ N,N=wB.heap.size:=⟨_,rfl⟩
     have sN6:wB.heap.size<=N:=by omega
     have bN:BoxC (wB.alloc (zQ3)).drew N nS nS nS nS:=by rw [hNN];exact bN
     have fN:∀ j,(wB.alloc (zQ3)).drew.frozen? ⟨N,j,none⟩=false:=by rw [hNN];exact fN
     have zN:N<(wB.alloc (zQ3)).drew.heap.size:=by rw [hNN];exact zN
     rw [<- hNN];clear hNN;generalize (wB.alloc (zQ3)).drew=wC at *;refine qag rfl 15 _ _ rfl #[.agg #[.slice xu.pa xu.pn xu.pc,.slice xu.sa xu.sn xu.sc,.slice xu.wa xu.wn xu.wc,.slice xu.ha xu.hn xu.hc],iV (p:Nat),iV F] (by simp [Act.eval]) (yB func15) (HST.out wC qa) ?_;rintro e w7 ⟨v7,rfl,o7,d7⟩;obtain ⟨cq,vp,vs,vw,vh,up,us,uw,uh,rfl,o7⟩:=o7;obtain ⟨pa,pc,rfl⟩:=zU o7.p.row;obtain ⟨sa,sc,rfl⟩:=zU o7.s.row;obtain ⟨wa,wc,rfl⟩:=zU o7.t.row;obtain ⟨ha,hc,rfl⟩:=zU o7.h.row;have O7:qam false w7 (wC).heap.size YW (.agg #[.slice pa YW.pn pc,.slice sa YW.sn sc,.slice wa YW.wn wc,.slice ha YW.hn hc]):=⟨_,_,_,_,_,_,_,_,_,rfl,o7⟩
     refine ⟨_,rfl,?_⟩;have q7:Bw wB w7:=qa.trans (d7.mono qa.size);refine hK.out _ _ (fun _=>HS1.out _ q7) ?_;clear hK K o7;have hHeld:=HS1.out _ q7;refine qa0 [15,16,17] ?_;iterate 3 (refine qba rfl hHeld ?_)
     refine qav ?_;obtain ⟨n0,n1,n2,n3⟩:=bN.bw d7;have nf:∀ j,w7.frozen? ⟨N,j,none⟩=false:=fun j=>((qae d7).2 _ j zN).trans (fN j);refine yW 19 rfl fun K hK=>?_;go_simp;have qb:Bw wB ((((w7.setCell (aQ N 0) (.slice pa YW.pn pc)).setCell (aQ N 1) (.slice sa YW.sn sc)).setCell (aQ N 2) (.slice wa YW.wn wc)).setCell (aQ N 3) (.slice ha YW.hn hc)):=(((q7.setCell sN6 _).setCell sN6 _).setCell sN6 _).setCell sN6 _;refine hK.out _ _ (fun _=>HS1.out _ qb) ?_;clear hK K hHeld;have hHeld:=HS1.out _ qb;refine qbn 20 rfl hHeld ?_;refine yX ?_ _;go_wp2_with fail
     go_meet
     case rel=>exact ⟨N,by with_reducible rfl,by with_reducible rfl,_,_,_,_,_,_,_,_,((((O7.setBelow zN 0 _).setBelow zN 1 _).setBelow zN 2 _).setBelow zN 3 _).base qa.size,qb,BoxC.set4 ⟨n0,n1,n2,n3⟩ _ _ _ _⟩
   case rest=>
    obtain ⟨Z,rfl,rfl,HT⟩:=hcut;obtain ⟨pa,pc,sa,sc,wa,wc,ha,hc,hOw,hBe,hBx⟩:=HT.out;rename_i w7;have HU7:Hid (MoU w12 xu w7):=HU2.bw hBe;have HB7:Hid (BoxC w7 Z (.slice pa YW.pn pc) (.slice sa YW.sn sc) (.slice wa YW.wn wc) (.slice ha YW.hn hc)):=hBx;have H7:Hid (qam false w7 wB.heap.size YW (.agg #[.slice pa YW.pn pc,.slice sa YW.sn sc,.slice wa YW.wn wc,.slice ha YW.hn hc])/\w12.heap.size<wB.heap.size):=⟨hOw,zJ _ _ HU2.bx.1⟩
    clear hOw hBe hBx HT HU2 HST HS1 HS0 HW;by_cases hc0:CW=0
    case neg=>
     have hc0':(CW != 0)=true:=by simpa using hc0
     have K9:Hid (Bw w w7):=(D0.1.bw HU7.b).j.be
     rcases HG.1 with h | h | h
     ·exact absurd h hc0
     ·subst h
      go_wp2;go_ret;exact ⟨rfl,K9.out⟩
     ·subst h
      go_wp2;go_ret;exact ⟨rfl,K9.out⟩
    subst hc0;have HMo:Hid (YW.Mo x.y (cN xs) (tnD (rwF H) (j+1))):=HG.2 rfl;obtain ⟨n0,n1,n2,n3⟩:=HB7.out;obtain ⟨u0,u1,u2,u3⟩:=HU7.bx;have uf:=HU7.f;go_wp2_with fail
    have HK9:Hid (MoK w12 x xs H (j+1) ((((w7.setCell (aQ w12.heap.size 0) (.slice pa YW.pn pc)).setCell (aQ w12.heap.size 1) (.slice sa YW.sn sc)).setCell (aQ w12.heap.size 2) (.slice wa YW.wn wc)).setCell (aQ w12.heap.size 3) (.slice ha YW.hn hc))):=by
     obtain ⟨x8,e8,ey8,g8,-,nn8⟩:=((((H7.1.setBelow H7.2 0 (.slice pa YW.pn pc)).setBelow H7.2 1 (.slice sa YW.sn sc)).setBelow H7.2 2 (.slice wa YW.wn wc)).setBelow H7.2 3 (.slice ha YW.hn hc)).inJ;simp only [SysIn.v,sysV,Value.agg.injEq,Array.mk.injEq,List.cons.injEq,and_true] at e8;have hb8:=BoxC.set4 (w:=w7) (N:=w12.heap.size) ⟨u0,u1,u2,u3⟩ (.slice pa YW.pn pc) (.slice sa YW.sn sc) (.slice wa YW.wn wc) (.slice ha YW.hn hc)
     have hl8:x8.Len:=by
      show x8.Len;have h9:=HMo.ok.sm;rw [<- ey8] at h9;exact h9.inLen
     refine ⟨x8,⟨(((HU7.b.setCell (nA _) _).setCell (nA _) _).setCell (nA _) _).setCell (nA _) _,g8,by rw [<- e8.1,<- e8.2.1,<- e8.2.2.1,<- e8.2.2.2];exact hb8,fun j=>by simpa using HU7.f j,hl8,nn8⟩,by rw [ey8];exact HMo.out⟩
    go_roundw
    case rel=>exact ⟨j+1,by omega,by go_num,HK9.out⟩
    case measure=>simp [intOf];omega
theorem qjp (a0:Option Addr) (len cap:Nat) (w:World) (_hm:len<=maxLen) (hl:1048576<len):
  Calls prog 3 #[.slice a0 len cap] w (rB w (.bool true)):=by
 go_enter func3,ntmps3
 go_wp2_with fail
 refine (qqb a0 len cap w).mono ?_;rintro e w1 ⟨rfl,rfl⟩;rw [decide_eq_true (show (1048576:Int)<(len:Int) by omega)];go_wp2;go_ret;exact ⟨rfl,nE _ _⟩
theorem qpj (os:Os) (started:os.Started) (H:Type) (enc:TypeId × Value->H):
  ReturnsInHanded {} Tryz.checked os 3 .any (fun w args => (Rows.fnMomentSpec.pre enc prog f3 [] false w args /\ laidMetH prog [("errors.errorType", Rows.laid_errors_errorType)] w) /\ sizedMet enc prog f3 (OpenSpec.ofChange Rows.fnMomentSpec) false w args)
   (Rows.fnMomentSpec.post enc prog f3 false true false false):=by
 refine returnsInHanded_of_change_and (C := Tryz.checked) (X := fun w _ => laidMetH prog [("errors.errorType", Rows.laid_errors_errorType)] w) (fun _ _ _ hh h => h.of_heap hh) Tryz.own started (by kernel_rfl) func3
  (ChangeSpec.witness_at (enc := enc) (C := Tryz.checked) (os := os) (X := fun w _ => laidMetH prog [("errors.errorType", Rows.laid_errors_errorType)] w) false (qla os) #[nS] 8 rfl (by kernel_rfl) (by kernel_rfl) (by kernel_rfl) (by kernel_rfl) (by kernel_rfl) (qjo os _)) ?_
 intro W base args ds gs before hval0 hW _ _ hL _;have hval:∀ (j:Nat) t v,f3.params[j]? = some t->args[j]? = some v->Value.okWide prog W .any base t v:=hval0;have hW':=hW;obtain ⟨p,q,hA0,hV,rfl,hfz,hnd⟩:=hW;have hA:DataW.TrodAll enc prog W 0 (fun _=>true) true f3.params.toList args.toList ds p:=hA0;rw [params3] at hA hval;obtain ⟨v0,d0,rfl,rfl,h0⟩:=trodAll_one hA;obtain ⟨rfl,rfl⟩:=trodVars_none hV;have lt0:∀ x ∈ p,x.block<W.heap.size:=by obtain ⟨m,hm⟩:=h0;exact DataW.trod_lt m _ _ _ hm
 have hg:=qia hL;clear hA0 hval0
 have hlaw:Calls prog 3 #[v0] W (rB W (.bool true)):=by
  obtain ⟨a0,len,cap,rfl⟩:=okWide_slice Tryz.underlying22 (hval 0 22 v0 rfl rfl);obtain ⟨hm,hB⟩:=qpn h0;by_cases hs:len<=1048576
  ·exact qjq a0 len cap W hs hB hg
  ·exact qjp a0 len cap W hm (by omega)
 refine hlaw.mono fun e W' ⟨he,bel⟩=>?_;subst he;exact ⟨_,rfl,_,_,_,[],_,[],hW',trodAll_mk1 (shut_bool Tryz.underlying4 _),trodAll_mk1 (Below.trod Tryz.laidOut (by kernel_rfl) (of_decide_eq_true (by kernel_rfl)) h0 bel lt0),rfl,bel.frame _,fun h=>by cases h⟩
theorem qtn:Rows.FnMomentSaid:=
 OpenClaim.holds_of_wide 3 f3 rfl rfl rfl rfl rfl rfl rfl ⟨rfl,rfl,rfl,rfl,rfl⟩ rfl rfl rfl rfl rfl (by kernel_rfl) func3 (by kernel_rfl)
  (of_decide_eq_true (by kernel_rfl)) (by unfold Func.isWrapper;first|(rw [nC (by decide +kernel)];kernel_rfl)|(rw [nB (by decide +kernel)];exact ⟨rfl,rfl⟩))
  (fun os started H enc _=>qpj os started H enc)
theorem qrl (f : FuncId) (fn : Func) (hf : Tryz.pinned.checked.prog.funcNamed "loop.example/g00196/laws.FnMoment" = some f) (hfn : Tryz.pinned.checked.prog.funcs[f]? = some fn) :
  true=Tryz.pinned.checked.prog.looks []/\∀ (j:Nat) t,fn.params[j]? = some t->Tryz.pinned.checked.prog.wantsStandIn t=false:=by
 obtain rfl : f = 3 := Option.some.inj ((show prog.funcNamed "loop.example/g00196/laws.FnMoment" = some 3 by kernel_rfl).symm.trans hf) |>.symm
 obtain rfl:fn=f3:=(Option.some.inj (func3.symm.trans hfn)).symm;refine ⟨by kernel_rfl,fun j t ht=>?_⟩;rw [params3] at ht;have hm:=Array.mem_of_getElem? ht;simp at hm;obtain rfl:=hm;exact (show prog.wantsStandIn 22=false by kernel_rfl)
theorem momD_card:Rows.FnMomentCardSaid:=
 Claim7.holds_tied_plain_at .later [] _ _ _ _ qtn (fun _ h=>by cases h) (by kernel_rfl) (fun _ h=>by cases h) fnMoment_row_tie rfl ⟨rfl,rfl⟩ (by kernel_rfl) rfl qrl (by kernel_rfl)
