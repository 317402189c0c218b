/- Proved: whatever bytes the draw is made of, a drawn system that is taken back by the last event of one process has that one no more, and taken back to where it is it has the same events and states. One condition, tied to the program's text: errors.errorType holds what its text lays. -/
import Derived.Test.YtmnajpgicdomcaaGreatDoorRl37
import Derived.Test.YtmnajpgicdomcaaGreatDoorRl33
import Derived.Test.YtmnajpgicdomcaaGreatDoorCards
import Derived.SevenTiedAt
namespace Go.Proofs.YtmnajpgicdomcaaGreatDoor
set_option maxRecDepth 100000
set_option maxHeartbeats 8000000
open Go.RowKit Go.Deep
theorem qsz {y:Sy} (hO:y.Ok) {q:Nat} (hq:q<y.pn):y.EqH (bkY y q (y.hL q))/\y.EqS (bkY y q (y.hL q)):=by
 obtain ⟨-,e,h⟩:=qn0 hO hq;have hh:=hO.cn.2.2.1;have hs:=hO.cn.2.1;refine ⟨⟨?_,fun k hk=>?_⟩,?_,fun k hk=>?_⟩
 ·rw [e];exact hh
 ·rw [e] at hk ⊢
  have hk':k<y.pn:=hk;exact ⟨(h k hk').1.symm,fun i hi=>rfl⟩
 ·rw [e];exact hs
 ·rw [e] at hk
  have hk':k<y.pn:=hk;exact (h k hk').2.symm
theorem qgc (a0:Option Addr) (len cap:Nat) (w:World) (hl:len<=1048576) (hB:qbf w w.heap.size a0 len) (hV:w.cell? ⟨0,0,none⟩=some (.iface 181 (.agg #[.pointer (some ⟨1,126,none⟩)]))):
  Calls Tryz.prog 4 #[.slice a0 len cap] w fun e w'=>e=.returned (.bool true)/\Below w.heap.size w w':=by
 have HB:Hid (qbf w w.heap.size a0 len):=hB;have HV:Hid (∀ wx,Below w.heap.size w wx->wx.cell? ⟨0,0,none⟩=some (.iface 181 (.agg #[.pointer (some ⟨1,126,none⟩)]))):=fun wx hb=>(hb.cell (p:=⟨0,0,none⟩) (zJ w _ hV)).trans hV;clear hB hV
 go_enter Tryz.func4,Tryz.ntmps4
 go_wp2_with fail
 refine (qgd a0 len cap w).mono ?_;rintro e w1 ⟨rfl,rfl⟩;rw [decide_eq_false (show ¬ (1048576:Int)<(len:Int) by omega)];go_wp2_with fail
 refine (qhn w1.heap.size len cap a0 w1 HB.out (Nat.le_refl _) hl).mono ?_;rintro e w2 ⟨x,p,B,T,rfl,hm,hX,-,-,b2,hp⟩;have HM:Hid (x.Len/\(∀ i,i<x.hn->x.hL i<=x.hC i)/\x.Nn false):=⟨hm.inLen,hX.cap,hX.nn⟩
 have K2:Hid (WJ w1 (w2.alloc (oQ4 x.pa x.pn x.pc x.sa x.sn x.sc x.wa x.wn x.wc x.ha x.hn x.hc)) w2.heap.size x):=⟨hX.self.below (zQ _ _),BoxC.new _ _ _ _ _ _,b2.trans ((zQ _ _).mono b2.size)⟩
 clear hX b2 hm HB;go_wp2_with fail
 generalize w2.alloc (oQ4 x.pa x.pn x.pc x.sa x.sn x.sc x.wa x.wn x.wc x.ha x.hn x.hc)=W2 at *;generalize w2.heap.size=X at *;clear w2;refine (qh2 x p W2 K2.out.g HM.1 HM.2.1 HM.2.2 (HV.out _ K2.out.be)).mono ?_;rintro e w3 ⟨v3,rfl,o3,d3⟩;obtain ⟨x',rfl,ey,g3,cp3,nn3⟩:=o3.inJ;have K3:Hid (WJ w1 (w3.alloc (oQ4 x'.pa x'.pn x'.pc x'.sa x'.sn x'.sc x'.wa x'.wn x'.wc x'.ha x'.hn x'.hc)) X x/\WJ w1 (w3.alloc (oQ4 x'.pa x'.pn x'.pc x'.sa x'.sn x'.sc x'.wa x'.wn x'.wc x'.ha x'.hn x'.hc)) w3.heap.size x'/\x'.y=boY x.y p):=⟨(K2.out.below d3).below (zQ _ _),⟨g3.below (zQ _ _),BoxC.new _ _ _ _ _ _,((K2.out.below d3).below (zQ _ _)).be⟩,ey⟩
 clear o3 ey g3 d3 K2 cp3 nn3;obtain ⟨C,hC⟩:∃ C,boC x.y p=C:=⟨_,rfl⟩
 rw [hC];have HC:Hid (boC x.y p=C):=hC;clear hC;obtain ⟨k0,k1,k2,k3⟩:=K3.1.bx;go_wp2_with fail
 clear k0 k1 k2 k3;generalize w3.alloc (oQ4 x'.pa x'.pn x'.pc x'.sa x'.sn x'.sc x'.wa x'.wn x'.wc x'.ha x'.hn x'.hc)=W3 at *;generalize w3.heap.size=Y at *;clear w3;refine (qig x p W3 K3.1.g HM.1 HM.2.1).mono ?_;rintro e w4 ⟨v4,rfl,o4,d4⟩;rw [HC.out];obtain ⟨x2,rfl,-,-,-,-⟩:=o4.inJ;have K4:Hid (WJ w1 (w4.alloc (oQ4 x2.pa x2.pn x2.pc x2.sa x2.sn x2.sc x2.wa x2.wn x2.wc x2.ha x2.hn x2.hc)) X x/\WJ w1 (w4.alloc (oQ4 x2.pa x2.pn x2.pc x2.sa x2.sn x2.sc x2.wa x2.wn x2.wc x2.ha x2.hn x2.hc)) Y x'/\x'.y=boY x.y p):=⟨(K3.1.below d4).below (zQ _ _),(K3.2.1.below d4).below (zQ _ _),K3.2.2⟩
 clear o4 d4 K3;have hCC:(C != C)=false:=by simp
 go_upto_region 8 with fail
 generalize w4.alloc (oQ4 x2.pa x2.pn x2.pc x2.sa x2.sn x2.sc x2.wa x2.wn x2.wc x2.ha x2.hn x2.hc)=W4 at *;generalize w4.heap.size=Z4 at *;clear w4 hCC
 go_cut [51] from 34 to 50 (fun t wx=>t=.bool false/\Hid (WJ w1 wx X x))
 case first=>
  by_cases h0:C=0
  ·subst h0
   have hb:=(qg5 (show bkC x.y p (boK x.y p)=0 from HC.out))
   obtain ⟨P,rfl,hP,-,-⟩:=qcv hb.2.1;have hPn:P<x.hn:=by have h9:x.hn=x.pn:=hb.1.cn.2.2.1;have:P<x.pn:=hP;omega
   have hst:((x'.hL P:Nat):Int)=(x.hL P:Int) - 1:=by
    have h1:=qpa (show bkC x.y P (boK x.y P)=0 from HC.out)
    have h2:(bkY x.y P (boK x.y P)).hL=x'.hL:=by
     have:x'.y.hL=(boY x.y P).hL:=by rw [K4.2.2]
     exact this.symm
    rw [h2,qqk (y:=x.y) hPn] at h1;exact h1
   have hPn':P<x'.hn:=by
    have h1:x'.y.hn=x.y.pn:=by rw [K4.2.2];show (bkY x.y P (boK x.y P)).hn=_;rw [hb.2.2.2.1];rfl
    have h2:x'.y.hn=x'.hn:=rfl;have:P<x.pn:=hP;have h3:x.y.pn=x.pn:=rfl;omega
   clear hb hP hp;have i1:(P:Int)<(x.hn:Int):=by omega
   have i2:(P:Int)<(x'.hn:Int):=by omega
   have l1:(x.hL P:Int)<=1048576:=by have:=HM.1.h.2 P hPn;omega
   have l2:(x'.hL P:Int)<=1048576:=by omega
   have l3:1<=(x.hL P:Int):=by omega
   have tst:((x'.hL P:Int) != (x.hL P:Int) - 1)=false:=by simp [hst]
   obtain ⟨b,off,ea,cb⟩:=K4.1.g.h.at hPn;obtain ⟨b',off',ea',cb'⟩:=K4.2.1.g.h.at hPn';have s3:=K4.1.bx.2.2.2;have t3:=K4.2.1.bx.2.2.2;rw [ea] at s3;rw [ea'] at t3;clear ea ea' hst
   go_quiet (fail)
   have K5:Hid (WJ w1 (W4.drewN nq) X x):=K4.1.below (yE (Below.refl _ _) _);generalize W4.drewN nq=W5 at *;clear s3 t3 cb cb' tst K4 i1 i2 l1 l2 l3;go_wp2_with fail
   go_meet
   case rel=>exact ⟨by with_reducible rfl,K5.out⟩
  ·have h0':(C == 0)=false:=by simpa using h0
   refine wp_region_quiet_below (by kernel_rfl) (by kernel_rfl) ?_
   repeat (first | go_big_quiet_skip | quiet_step (fail))
   refine wpQuiet_nil ?_;intro _ hw';obtain ⟨⟨dd,os⟩,hw''⟩:=hw';subst hw'';have K5:Hid (WJ w1 (_root_.Go.Sort.grow (redrawn W4 dd) os) X x):=K4.1.below (below_regrown W4 dd os);generalize _root_.Go.Sort.grow (redrawn W4 dd) os=W5 at *;clear K4 hp;go_wp2_with fail
   go_meet
   case rel=>exact ⟨by with_reducible rfl,K5.out⟩
 case rest=>
  obtain ⟨rfl,K5⟩:=hcut;clear K4 hp;obtain ⟨k0,k1,k2,k3⟩:=K5.out.bx;go_wp2_with fail
  clear k0 k1 k2 k3;refine (qcf x _ K5.out.g HM.1 HM.2.1).mono ?_;rintro e w6 ⟨rfl,b6⟩;have K6:Hid (WJ w1 w6 X x):=K5.out.below b6;clear b6 K5;generalize ht:x.y.okB=T9;cases T9
  ·have hc1:C=1:=by
    have:=HC.out;unfold boC bkC at this;rw [if_neg (by rw [ht];simp)] at this;exact this.symm
   have BE:Hid (Below w1.heap.size w1 w6):=K6.out.be;clear K6 ht;subst hc1;go_wp2;go_ret;exact ⟨rfl,BE.out⟩
  have HOK:Hid x.y.Ok:=Sy.ok_of ht;clear ht;go_wp2_with fail
  go_loopw [9] (fun i wr=>∃ q:Nat,q<=x.hn/\i=.int .i64 q/\Hid (WJ w1 wr X x)) (fun i _=>x.hn - (intOf i).toNat)
  case atStart=>exact ⟨0,Nat.zero_le _,rfl,K6.out⟩
  case round=>
   clear K6;obtain ⟨q,hq,rfl,HK⟩:=hrel;have hn':(x.hn:Int)<=1048576:=by have:=HM.1.h.1;omega
   by_cases hlt:q<x.hn
   ·have hlt':(q:Int)<(x.hn:Int):=by omega
    have hqp:q<x.y.pn:=by have h9:x.y.hn=x.y.pn:=HOK.out.cn.2.2.1;have h8:x.y.hn=x.hn:=rfl;omega
    obtain ⟨hb,ho,ea,ch⟩:=HK.out.g.h.at hlt;have HA:Hid (x.ha=some ⟨hb,ho,none⟩):=ea;have hll:(x.hL q:Int)<=1048576:=by have:=HM.1.h.2 q hlt;omega
    have s3:=HK.out.bx.2.2.2;rw [ea] at s3;have HBA:=qn0 HOK.out hqp;have HEQ:=qsz HOK.out hqp;obtain ⟨YW,hY⟩:∃ YW,bkY x.y q (x.hL q)=YW:=⟨_,rfl⟩
    rw [show x.y.hL q=x.hL q from rfl,hY] at HEQ;have HE:Hid (x.y.EqH YW/\x.y.EqS YW):=HEQ
    have HBK:Hid (∀ wx,WJ w1 wx X x->Calls Tryz.prog 11 #[.agg #[.slice x.pa x.pn x.pc,.slice x.sa x.sn x.sc,.slice x.wa x.wn x.wc,.slice (some ⟨hb,ho,none⟩) x.hn x.hc],.int .i64 (q:Int),.int .i64 (x.hL q:Int)] wx fun e w'=>∃ v,e=.returned (.tuple #[v,.int .i64 0])/\qac false w' wx.heap.size YW v/\Below wx.heap.size wx w'):=fun wx hw=>by
     have h9:=qbr (zb:=false) x (q:Int) (x.hL q:Int) wx hw.g HM.1 HM.2.1 HM.2.2 (HV.out _ hw.be);rw [show bkC x.y (q:Int) (x.hL q:Int)=0 from HBA.1,hY] at h9;rw [<- ea];exact h9
    have HYS:Hid (YW.Sm):=by rw [<- hY];exact qvz _ _ _
    clear HBA HEQ hY ea;go_upto_region 15 with fail
    clear s3
    go_cut [10,11] from 64 to 75 (fun s t wx=>∃ N:Nat,s=.pointer (some ⟨N,0,none⟩)/\t=.int .i64 0/\Hid (∃ pa pc sa sc wa wc ha hc,qac false wx wr.heap.size YW (.agg #[.slice pa YW.pn pc,.slice sa YW.sn sc,.slice wa YW.wn wc,.slice ha YW.hn hc])/\Below wr.heap.size wr wx/\BoxC wx N (.slice pa YW.pn pc) (.slice sa YW.sn sc) (.slice wa YW.wn wc) (.slice ha YW.hn hc)))
    case first=>
     have q0:Below wr.heap.size wr wr.drew:=(Below.refl wr.heap.size wr).drew;refine qaj (fun w'=>BoxC w' X (.slice x.pa x.pn x.pc) (.slice x.sa x.sn x.sc) (.slice x.wa x.wn x.wc) (.slice (some ⟨hb,ho,none⟩) x.hn x.hc)/\w'.cell? ⟨hb,ho+q,none⟩=some (.slice (x.hA q) (x.hL q) (x.hC q))) (fun _=>false) (by kernel_rfl) ?_;have hB5:∀ wx,Below wr.heap.size wr wx->(BoxC wx X (.slice x.pa x.pn x.pc) (.slice x.sa x.sn x.sc) (.slice x.wa x.wn x.wc) (.slice (some ⟨hb,ho,none⟩) x.hn x.hc)/\wx.cell? ⟨hb,ho+q,none⟩=some (.slice (x.hA q) (x.hL q) (x.hC q))):=fun wx hb=>⟨by have h9:=HK.out.bx.below hb;rw [HA.out] at h9;exact h9,(hb.cell (zJ wr _ ch)).trans ch⟩
     have hHeld:(fun w':World=>BoxC w' X (.slice x.pa x.pn x.pc) (.slice x.sa x.sn x.sc) (.slice x.wa x.wn x.wc) (.slice (some ⟨hb,ho,none⟩) x.hn x.hc)/\w'.cell? ⟨hb,ho+q,none⟩=some (.slice (x.hA q) (x.hL q) (x.hC q))) wr.drew:=hB5 _ q0;refine qax [0,1,2,3,4,5,6,7] ?_;iterate 8 (refine qa8 rfl hHeld ?_)
     refine qao ?_;refine qd2 8 12 rfl rfl (by kernel_rfl) (fun K hK=>?_) (fun K hK=>?_)
     ·refine qae rfl 11 _ _ rfl #[.agg #[.slice x.pa x.pn x.pc,.slice x.sa x.sn x.sc,.slice x.wa x.wn x.wc,.slice (some ⟨hb,ho,none⟩) x.hn x.hc],.int .i64 (q:Int),.int .i64 (x.hL q:Int)] (by simp [Act.eval]) (yB Tryz.func11 (by kernel_rfl) rfl) (HBK.out wr.drew (HK.out.below q0)) ?_
      rintro e w7 ⟨v7,rfl,o7,d7⟩;obtain ⟨cq,vp,vs,vw,vh,up,us,uw,uh,rfl,o7⟩:=o7;obtain ⟨pa,pc,rfl⟩:=zU o7.p.row;obtain ⟨sa,sc,rfl⟩:=zU o7.s.row;obtain ⟨wa,wc,rfl⟩:=zU o7.t.row;obtain ⟨ha,hc,rfl⟩:=zU o7.h.row;have O7:qac false w7 (wr.drew).heap.size YW (.agg #[.slice pa YW.pn pc,.slice sa YW.sn sc,.slice wa YW.wn wc,.slice ha YW.hn hc]):=⟨_,_,_,_,_,_,_,_,_,rfl,o7⟩
      refine ⟨_,rfl,?_⟩;have q7:Below wr.heap.size wr w7:=q0.trans (d7.mono q0.size);refine hK.out _ _ (fun _=>hB5 _ q7) ?_;clear hK K o7;have hHeld:(fun w':World=>BoxC w' X (.slice x.pa x.pn x.pc) (.slice x.sa x.sn x.sc) (.slice x.wa x.wn x.wc) (.slice (some ⟨hb,ho,none⟩) x.hn x.hc)/\w'.cell? ⟨hb,ho+q,none⟩=some (.slice (x.hA q) (x.hL q) (x.hC q))) w7:=hB5 _ q7
      (try simp only [Act.put,zD,zE,zF])
      refine qax [9,10,11] ?_;iterate 3 (refine qa8 rfl hHeld ?_)
      refine qao ?_;refine qaa 12 rfl (by kernel_rfl) (fun K hK=>?_);go_simp;have qa:=q7.trans ((zQ w7 (zQ3)).mono q7.size);refine hK.out _ _ (fun _=>hB5 _ qa) ?_;clear hK K hHeld
      (try simp only [Act.put,zD,zE,zF])
      refine qaa 13 rfl (by kernel_rfl) (fun K hK=>?_);go_simp;have qb:=q7.trans ((zQ w7 (oQ4 pa YW.pn pc sa YW.sn sc wa YW.wn wc ha YW.hn hc)).mono q7.size);refine hK.out _ _ (fun _=>hB5 _ qb) ?_;clear hK K;have hHeld:(fun w':World=>BoxC w' X (.slice x.pa x.pn x.pc) (.slice x.sa x.sn x.sc) (.slice x.wa x.wn x.wc) (.slice (some ⟨hb,ho,none⟩) x.hn x.hc)/\w'.cell? ⟨hb,ho+q,none⟩=some (.slice (x.hA q) (x.hL q) (x.hC q))) (w7.alloc (oQ4 pa YW.pn pc sa YW.sn sc wa YW.wn wc ha YW.hn hc)):=hB5 _ qb
      (try simp only [Act.put,zD,zE,zF])
      refine qbl 14 rfl hHeld ?_;refine qar (by kernel_rfl) ?_ _;go_wp2_with fail
      go_meet
      case rel=>exact ⟨w7.heap.size,by with_reducible rfl,by with_reducible rfl,_,_,_,_,_,_,_,_,(O7.below (zQ _ _)).base q0.size,qb,BoxC.new w7 _ _ _ _ _⟩
     ·go_simp
      have qa:=(zQ wr (zQ3)).drew;have bN:BoxC (wr.alloc (zQ3)).drew wr.heap.size (.slice none 0 0) (.slice none 0 0) (.slice none 0 0) (.slice none 0 0):=(BoxC.new wr _ _ _ _ _).below (Below.refl _ _).drew;have fN:∀ j,(wr.alloc (zQ3)).drew.frozen? ⟨wr.heap.size,j,none⟩=false:=fun j=>(World.frozen?_drew _ _).trans (yD _ _ _ _ rfl);have zN:wr.heap.size<(wr.alloc (zQ3)).drew.heap.size:=by simp
      refine hK.out _ _ (fun _=>hB5 _ qa) ?_;clear hK K
      (try simp only [Act.put,zD,zE,zF])
      refine qaa 8 rfl (by kernel_rfl) (fun K hK=>?_);obtain ⟨N,hNN⟩:∃ N,N=wr.heap.size:=⟨_,rfl⟩
      have sN6:wr.heap.size<=N:=by omega
      have bN:BoxC (wr.alloc (zQ3)).drew N (.slice none 0 0) (.slice none 0 0) (.slice none 0 0) (.slice none 0 0):=by rw [hNN];exact bN
      have fN:∀ j,(wr.alloc (zQ3)).drew.frozen? ⟨N,j,none⟩=false:=by rw [hNN];exact fN
      have zN:N<(wr.alloc (zQ3)).drew.heap.size:=by rw [hNN];exact zN
      rw [<- hNN];clear hNN;generalize (wr.alloc (zQ3)).drew=wC at *;refine qae rfl 11 _ _ rfl #[.agg #[.slice x.pa x.pn x.pc,.slice x.sa x.sn x.sc,.slice x.wa x.wn x.wc,.slice (some ⟨hb,ho,none⟩) x.hn x.hc],.int .i64 (q:Int),.int .i64 (x.hL q:Int)] (by simp [Act.eval]) (yB Tryz.func11 (by kernel_rfl) rfl) (HBK.out wC (HK.out.below qa)) ?_;rintro e w7 ⟨v7,rfl,o7,d7⟩;obtain ⟨cq,vp,vs,vw,vh,up,us,uw,uh,rfl,o7⟩:=o7;obtain ⟨pa,pc,rfl⟩:=zU o7.p.row;obtain ⟨sa,sc,rfl⟩:=zU o7.s.row;obtain ⟨wa,wc,rfl⟩:=zU o7.t.row;obtain ⟨ha,hc,rfl⟩:=zU o7.h.row;have O7:qac false w7 (wC).heap.size YW (.agg #[.slice pa YW.pn pc,.slice sa YW.sn sc,.slice wa YW.wn wc,.slice ha YW.hn hc]):=⟨_,_,_,_,_,_,_,_,_,rfl,o7⟩
      refine ⟨_,rfl,?_⟩;have q7:Below wr.heap.size wr w7:=qa.trans (d7.mono qa.size);refine hK.out _ _ (fun _=>hB5 _ q7) ?_;clear hK K o7;have hHeld:(fun w':World=>BoxC w' X (.slice x.pa x.pn x.pc) (.slice x.sa x.sn x.sc) (.slice x.wa x.wn x.wc) (.slice (some ⟨hb,ho,none⟩) x.hn x.hc)/\w'.cell? ⟨hb,ho+q,none⟩=some (.slice (x.hA q) (x.hL q) (x.hC q))) w7:=hB5 _ q7
      (try simp only [Act.put,zD,zE,zF])
      refine qax [9,10,11] ?_;iterate 3 (refine qa8 rfl hHeld ?_)
      refine qao ?_;obtain ⟨n0,n1,n2,n3⟩:=bN.below d7;have nf:∀ j,w7.frozen? ⟨N,j,none⟩=false:=fun j=>((qag d7).2 _ j zN).trans (fN j);refine qaa 13 rfl (by kernel_rfl) (fun K hK=>?_);go_simp;have qb:Below wr.heap.size wr ((((w7.setCell ⟨N,0,none⟩ (.slice pa YW.pn pc)).setCell ⟨N,1,none⟩ (.slice sa YW.sn sc)).setCell ⟨N,2,none⟩ (.slice wa YW.wn wc)).setCell ⟨N,3,none⟩ (.slice ha YW.hn hc)):=(((q7.setCell sN6 _).setCell sN6 _).setCell sN6 _).setCell sN6 _;refine hK.out _ _ (fun _=>hB5 _ qb) ?_;clear hK K hHeld;have hHeld:(fun w':World=>BoxC w' X (.slice x.pa x.pn x.pc) (.slice x.sa x.sn x.sc) (.slice x.wa x.wn x.wc) (.slice (some ⟨hb,ho,none⟩) x.hn x.hc)/\w'.cell? ⟨hb,ho+q,none⟩=some (.slice (x.hA q) (x.hL q) (x.hC q))) ((((w7.setCell ⟨N,0,none⟩ (.slice pa YW.pn pc)).setCell ⟨N,1,none⟩ (.slice sa YW.sn sc)).setCell ⟨N,2,none⟩ (.slice wa YW.wn wc)).setCell ⟨N,3,none⟩ (.slice ha YW.hn hc)):=hB5 _ qb
      (try simp only [Act.put,zD,zE,zF])
      refine qbl 14 rfl hHeld ?_;refine qar (by kernel_rfl) ?_ _;go_wp2_with fail
      go_meet
      case rel=>exact ⟨N,by with_reducible rfl,by with_reducible rfl,_,_,_,_,_,_,_,_,((((O7.setBelow zN 0 _).setBelow zN 1 _).setBelow zN 2 _).setBelow zN 3 _).base qa.size,qb,BoxC.set4 ⟨n0,n1,n2,n3⟩ _ _ _ _⟩
    case rest=>
     obtain ⟨N,rfl,rfl,HT⟩:=hcut;obtain ⟨pa,pc,sa,sc,wa,wc,ha,hc,hOw,hBe,hBx⟩:=HT.out;rename_i w7;obtain ⟨x7,e7,ey7,g7,-,-⟩:=hOw.inJ;simp only [SysIn.v,sysV,Value.agg.injEq,Array.mk.injEq,List.cons.injEq,and_true] at e7;have K7:Hid (WJ w1 w7 X x/\WJ w1 w7 N x7/\x7.y=YW):=⟨HK.out.below hBe,⟨g7,by rw [<- e7.1,<- e7.2.1,<- e7.2.2.1,<- e7.2.2.2];exact hBx,(HK.out.below hBe).be⟩,ey7⟩
     clear hOw hBe hBx HT e7 ey7 g7 ch HBK;have HE7:Hid (x.y.EqH x7.y/\x.y.EqS x7.y):=by rw [K7.2.2];exact HE.out
     have HL7:Hid x7.Len:=by
      show x7.Len;have h9:=HYS.out;rw [<- K7.2.2] at h9;exact h9.inLen
     clear HE HYS;obtain ⟨s0,s1,s2,s3⟩:=K7.1.bx;obtain ⟨t0,t1,t2,t3⟩:=K7.2.1.bx;go_wp2_with (first|(go_at_call 16;refine (qie x7 x _ HE7.1 K7.2.1.g K7.1.g HL7.out).mono ?_;rintro e w8 ⟨rfl,d8⟩;clear s0 s1 s2 s3 t0 t1 t2 t3;have K8:Hid (WJ w1 w8 X x/\WJ w1 w8 N x7):=⟨K7.1.below d8,K7.2.1.below d8⟩;obtain ⟨s0,s1,s2,s3⟩:=K8.1.bx;obtain ⟨t0,t1,t2,t3⟩:=K8.2.bx;clear d8)|(go_at_call 17;refine (qf6 x7 x _ HE7.2 K8.2.g K8.1.g HL7.out).mono ?_;rintro e w9 ⟨rfl,d9⟩;have K9:Hid (WJ w1 w9 X x):=K8.1.below d9;clear d9 s0 s1 s2 s3 t0 t1 t2 t3))
     go_roundw
     case rel=>exact ⟨q+1,by omega,by go_num,K9.out⟩
     case measure=>simp [intOf];omega
   ·have hlt':¬ (q:Int)<(x.hn:Int):=by omega
    have s3:=HK.out.bx.2.2.2;have BE:Hid (Below w1.heap.size w1 wr):=HK.out.be;clear HK;go_wp2;go_ret;exact ⟨rfl,BE.out⟩
theorem qgb (a0:Option Addr) (len cap:Nat) (w:World) (_hm:len<=maxLen) (hl:1048576<len):
  Calls Tryz.prog 4 #[.slice a0 len cap] w fun e w'=>e=.returned (.bool true)/\Below w.heap.size w w':=by
 go_enter Tryz.func4,Tryz.ntmps4
 go_wp2_with fail
 refine (qgd a0 len cap w).mono ?_;rintro e w1 ⟨rfl,rfl⟩;rw [decide_eq_true (show (1048576:Int)<(len:Int) by omega)];go_wp2;go_ret;exact ⟨rfl,Below.refl _ _⟩
open Go.ChangeShapes Go.WideShapes Go.ChangeAt
theorem qin (os:Os) (started:os.Started) (H:Type) (enc:TypeId × Value->H):
  ReturnsInHanded {} Tryz.checked os 4 .any (fun w args => (Rows.fnBackOneSpec.pre enc Tryz.prog Tryz.f4 [] false w args /\ laidMetH Tryz.prog [("errors.errorType", Rows.laid_errors_errorType)] w) /\ sizedMet enc Tryz.prog Tryz.f4 (OpenSpec.ofChange Rows.fnBackOneSpec) false w args)
   (Rows.fnBackOneSpec.post enc Tryz.prog Tryz.f4 false true false false):=by
 refine returnsInHanded_of_change_and (C := Tryz.checked) (X := fun w _ => laidMetH Tryz.prog [("errors.errorType", Rows.laid_errors_errorType)] w) (fun _ _ _ hh h => h.of_heap hh) Tryz.own started (by kernel_rfl) Tryz.func4
  (ChangeSpec.witness_at (enc := enc) (C := Tryz.checked) (os := os) (X := fun w _ => laidMetH Tryz.prog [("errors.errorType", Rows.laid_errors_errorType)] w) false (qfx os) #[.slice none 0 0] 8 rfl (by kernel_rfl) (by kernel_rfl) (by kernel_rfl) (by kernel_rfl) (by kernel_rfl) (qdw os _)) ?_
 intro W base args ds gs before hval0 hW _ _ hL _;have hval:∀ (j:Nat) t v,Tryz.f4.params[j]? = some t->args[j]? = some v->Value.okWide Tryz.prog W .any base t v:=hval0;have hW':=hW;obtain ⟨p,q,hA0,hV,rfl,hfz,hnd⟩:=hW;have hA:DataW.TrodAll enc Tryz.prog W 0 (fun _=>true) true Tryz.f4.params.toList args.toList ds p:=hA0;rw [Tryz.params4] at hA hval;obtain ⟨v0,d0,rfl,rfl,h0⟩:=trodAll_one hA;obtain ⟨rfl,rfl⟩:=trodVars_none hV;have lt0:∀ x ∈ p,x.block<W.heap.size:=by obtain ⟨m,hm⟩:=h0;exact DataW.trod_lt m _ _ _ hm
 have hg:=qdf hL;clear hA0 hval0
 have hlaw:Calls Tryz.prog 4 #[v0] W fun e w'=>e=.returned (.bool true)/\Below W.heap.size W w':=by
  obtain ⟨a0,len,cap,rfl⟩:=okWide_slice Tryz.underlying22 (hval 0 22 v0 rfl rfl);obtain ⟨hm,hB⟩:=qgp h0;by_cases hs:len<=1048576
  ·exact qgc a0 len cap W hs hB hg
  ·exact qgb a0 len cap W hm (by omega)
 refine hlaw.mono fun e W' ⟨he,bel⟩=>?_;subst he;exact ⟨_,rfl,_,_,_,[],_,[],hW',trodAll_mk1 (shut_bool Tryz.underlying4 _),trodAll_mk1 (Below.trod Tryz.laidOut (by kernel_rfl) (of_decide_eq_true (by kernel_rfl)) h0 bel lt0),rfl,bel.frame _,fun h=>by cases h⟩
theorem qk4:Rows.FnBackOneSaid:=
 OpenClaim.holds_of_wide 4 Tryz.f4 rfl rfl rfl rfl rfl rfl rfl ⟨rfl,rfl,rfl,rfl,rfl⟩ rfl rfl rfl rfl rfl (by kernel_rfl) Tryz.func4 (by kernel_rfl)
  (of_decide_eq_true (by kernel_rfl)) (by unfold Func.isWrapper;first|(rw [if_pos (by decide +kernel)];kernel_rfl)|(rw [if_neg (by decide +kernel)];exact ⟨rfl,rfl⟩))
  (fun os started H enc _=>qin os started H enc)
theorem qjc (f : FuncId) (fn : Func) (hf : Tryz.pinned.checked.prog.funcNamed "loop.example/g00196/laws.FnBackOne" = some f) (hfn : Tryz.pinned.checked.prog.funcs[f]? = some fn) :
  true=Tryz.pinned.checked.prog.looks []/\∀ (j:Nat) t,fn.params[j]? = some t->Tryz.pinned.checked.prog.wantsStandIn t=false:=by
 obtain rfl : f = 4 := Option.some.inj ((show Tryz.prog.funcNamed "loop.example/g00196/laws.FnBackOne" = some 4 by kernel_rfl).symm.trans hf) |>.symm
 obtain rfl:fn=Tryz.f4:=(Option.some.inj (Tryz.func4.symm.trans hfn)).symm;refine ⟨by kernel_rfl,fun j t ht=>?_⟩;rw [Tryz.params4] at ht;have hm:=Array.mem_of_getElem? ht;simp at hm;obtain rfl:=hm;exact (show Tryz.prog.wantsStandIn 22=false by kernel_rfl)
theorem backOneD_card:Rows.FnBackOneCardSaid:=
 Claim7.holds_tied_plain_at .later [] _ _ _ _ qk4 (fun _ h=>by cases h) (by kernel_rfl) (fun _ h=>by cases h) fnBackOne_row_tie rfl ⟨rfl,rfl⟩ (by kernel_rfl) rfl qjc (by kernel_rfl)
