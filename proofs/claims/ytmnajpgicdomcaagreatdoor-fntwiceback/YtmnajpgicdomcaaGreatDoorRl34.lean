/- Proved: whatever bytes are drawn by, a drawn system that is taken back twice, to the lesser one of two numbers of events of one process, is as taken back to that at once, where it can be; nothing is written into what came in. One condition, tied to the program's text: errors.errorType holds what its text lays. -/
import Derived.Test.YtmnajpgicdomcaaGreatDoorRl30
import Derived.Test.YtmnajpgicdomcaaGreatDoorRl32
import Derived.Test.YtmnajpgicdomcaaGreatDoorRl33
import Derived.Test.YtmnajpgicdomcaaGreatDoorCards
import Derived.SevenTiedAt
namespace Go.Proofs.YtmnajpgicdomcaaGreatDoor
set_option maxRecDepth 100000
set_option maxHeartbeats 4000000
open Go.RowKit Go.Deep
theorem qi0 (a0:Option Addr) (len cap:Nat) (w:World) (hl:len<=1048576) (hB:qbf w w.heap.size a0 len) (hV:w.cell? ⟨0,0,none⟩=some (.iface 181 (.agg #[.pointer (some ⟨1,126,none⟩)]))):
  Calls Tryz.prog 5 #[.slice a0 len cap] w fun e w'=>e=.returned (.bool true)/\Below w.heap.size w w':=by
 have HB:Hid (qbf w w.heap.size a0 len):=hB;have HV:Hid (∀ wx,Below w.heap.size w wx->wx.cell? ⟨0,0,none⟩=some (.iface 181 (.agg #[.pointer (some ⟨1,126,none⟩)]))):=fun wx hb=>(hb.cell (p:=⟨0,0,none⟩) (zJ w _ hV)).trans hV;have hlt:¬ (1048576:Int)<(len:Int):=by omega
 clear hB hV
 go_enter Tryz.func5,Tryz.ntmps5
 go_wp2_with fail
 refine (qgd a0 len cap w).mono ?_;rintro e w1 ⟨rfl,rfl⟩;rw [decide_eq_false (show ¬ (1048576:Int)<(len:Int) by omega)];go_wp2_with fail
 refine (qkt w1.heap.size len cap a0 w1 HB.out (Nat.le_refl _) hl).mono ?_;rintro e w2 ⟨x,p,k,B,T,rfl,hm,hX,-,-,b2,hp,hk⟩;have HM:Hid (x.Len/\(∀ i,i<x.hn->x.hL i<=x.hC i)/\x.Nn false):=⟨hm.inLen,hX.cap,hX.nn⟩
 have K2:Hid (WJ w1 (w2.alloc (oQ4 x.pa x.pn x.pc x.sa x.sn x.sc x.wa x.wn x.wc x.ha x.hn x.hc)) w2.heap.size x):=⟨hX.self.below (zQ _ _),BoxC.new _ _ _ _ _ _,b2.trans ((zQ _ _).mono b2.size)⟩
 clear hX b2 hm;go_wp2_with fail
 generalize w2.alloc (oQ4 x.pa x.pn x.pc x.sa x.sn x.sc x.wa x.wn x.wc x.ha x.hn x.hc)=W2 at *;generalize w2.heap.size=X at *;clear w2;refine (qbr x p k W2 K2.out.g HM.1 HM.2.1 HM.2.2 (HV.out _ K2.out.be)).mono ?_;rintro e w3 ⟨v3,rfl,o3,d3⟩;obtain ⟨x',rfl,ey,g3,cp3,nn3⟩:=o3.inJ;have K3:Hid (WJ w1 (w3.alloc (oQ4 x'.pa x'.pn x'.pc x'.sa x'.sn x'.sc x'.wa x'.wn x'.wc x'.ha x'.hn x'.hc)) X x/\WJ w1 (w3.alloc (oQ4 x'.pa x'.pn x'.pc x'.sa x'.sn x'.sc x'.wa x'.wn x'.wc x'.ha x'.hn x'.hc)) w3.heap.size x'/\x'.y=bkY x.y p k/\(∀ i,i<x'.hn->x'.hL i<=x'.hC i)/\x'.Nn false):=⟨(K2.out.below d3).below (zQ _ _),⟨g3.below (zQ _ _),BoxC.new _ _ _ _ _ _,((K2.out.below d3).below (zQ _ _)).be⟩,ey,cp3,nn3⟩
 clear o3 ey g3 d3 K2 cp3 nn3;obtain ⟨C,hC⟩:∃ C,bkC x.y p k=C:=⟨_,rfl⟩
 rw [hC];have HC:Hid (bkC x.y p k=C):=hC;clear hC;obtain ⟨k0,k1,k2,k3⟩:=K3.1.bx;go_wp2_with fail
 clear k0 k1 k2 k3;generalize w3.alloc (oQ4 x'.pa x'.pn x'.pc x'.sa x'.sn x'.sc x'.wa x'.wn x'.wc x'.ha x'.hn x'.hc)=W3 at *;generalize w3.heap.size=Y at *;clear w3;refine (qel x p k W3 K3.1.g HM.1 HM.2.1).mono ?_;rintro e w4 ⟨v4,rfl,o4,d4⟩;rw [HC.out];obtain ⟨x2,rfl,-,-,-,-⟩:=o4.inJ;have K4:Hid (WJ w1 (w4.alloc (oQ4 x2.pa x2.pn x2.pc x2.sa x2.sn x2.sc x2.wa x2.wn x2.wc x2.ha x2.hn x2.hc)) X x/\WJ w1 (w4.alloc (oQ4 x2.pa x2.pn x2.pc x2.sa x2.sn x2.sc x2.wa x2.wn x2.wc x2.ha x2.hn x2.hc)) Y x'/\x'.y=bkY x.y p k/\(∀ i,i<x'.hn->x'.hL i<=x'.hC i)/\x'.Nn false):=⟨(K3.1.below d4).below (zQ _ _),(K3.2.1.below d4).below (zQ _ _),K3.2.2⟩
 clear o4 d4 K3;by_cases h0:C=0
 case neg=>
  have KB:Hid (Below w1.heap.size w1 (w4.alloc (oQ4 x2.pa x2.pn x2.pc x2.sa x2.sn x2.sc x2.wa x2.wn x2.wc x2.ha x2.hn x2.hc))):=K4.1.be;have h0':(C != 0)=true:=by simpa using h0
  clear K4 HC HM;go_wp2;go_ret;exact ⟨rfl,KB.out⟩
 subst h0;by_cases hk0:k=0
 ·subst hk0
  have KB:Hid (Below w1.heap.size w1 (w4.alloc (oQ4 x2.pa x2.pn x2.pc x2.sa x2.sn x2.sc x2.wa x2.wn x2.wc x2.ha x2.hn x2.hc))):=K4.1.be;clear K4 HC HM;go_wp2;go_ret;exact ⟨rfl,KB.out⟩
 have hk0':(k == 0)=false:=by simpa using hk0
 obtain ⟨hO,hb,hO',hte,-,-⟩:=qg5 HC.out;obtain ⟨P,rfl,hP,hk1,hk2⟩:=qcv hb;have hkp:0<k:=by omega
 have HLt:Hid x'.Len:=by
  show x'.Len;have:=hO'.sm;rw [<- K4.2.2.1] at this;exact this.inLen
 have HPn:Hid (P<x'.hn):=by
  show P<x'.hn;have h1:x'.y.hn=x.y.pn:=by rw [K4.2.2.1,hte];rfl
  have h2:x'.y.hn=x'.hn:=rfl;omega
 clear hO hb hO' hte hP hk2;go_wp2_with fail
 generalize w4.alloc (oQ4 x2.pa x2.pn x2.pc x2.sa x2.sn x2.sc x2.wa x2.wn x2.wc x2.ha x2.hn x2.hc)=W4 at *;refine (qvx w1.heap.size a0 len cap W4 (HB.out.kept fun b hb=>K4.1.be.block b hb) hl).mono ?_;rintro e w5 ⟨r,rfl,⟨r0,r1⟩,hw⟩;have hw':=hw.symm;subst hw';clear hw;obtain ⟨j,hj⟩:∃ j,r % k=j:=⟨_,rfl⟩
 have hj0:0<=j:=by rw [<- hj];exact Int.emod_nonneg _ (by omega)
 have hj1:j<k:=by rw [<- hj];exact Int.emod_lt_of_pos _ hkp
 have hP':=HPn.out;have hPi:(P:Int)<(x'.hn:Int):=by omega
 obtain ⟨b,off,ea,cb⟩:=K4.2.1.g.h.at hP';have cb:W4.cell? ⟨b,off+P,none⟩=some (.slice (x'.hA P) (x'.hL P) (x'.hC P)):=cb;obtain ⟨y0,y1,y2,y3⟩:=K4.2.1.bx;rw [ea] at y3;clear ea HB;by_cases hjl:(x'.hL P:Int)<j
 ·go_wp2
  go_ret;exact ⟨rfl,K4.1.be⟩
 go_upto_region 13 with fail
 clear y0 y1 y2 y3 cb hjl hPi hP';obtain ⟨y0,y1,y2,y3⟩:=K4.2.1.bx;go_wp2_with fail
 clear y0 y1 y2 y3;refine (qbr x' (P:Int) j W4 K4.2.1.g HLt.out K4.2.2.2.1 K4.2.2.2.2 (HV.out _ K4.2.1.be)).mono ?_;rintro e w6 ⟨v6,rfl,o6,d6⟩;obtain ⟨x6,rfl,ey6,g6,-,-⟩:=o6.inJ;have K6:Hid (WJ w1 (w6.alloc (oQ4 x6.pa x6.pn x6.pc x6.sa x6.sn x6.sc x6.wa x6.wn x6.wc x6.ha x6.hn x6.hc)) X x/\WJ w1 (w6.alloc (oQ4 x6.pa x6.pn x6.pc x6.sa x6.sn x6.sc x6.wa x6.wn x6.wc x6.ha x6.hn x6.hc)) w6.heap.size x6/\x6.y=bkY (bkY x.y P k) P j/\x'.y=bkY x.y P k):=⟨(K4.1.below d6).below (zQ _ _),⟨g6.below (zQ _ _),BoxC.new _ _ _ _ _ _,((K4.1.below d6).below (zQ _ _)).be⟩,by rw [ey6,K4.2.2.1],K4.2.2.1⟩
 clear o6 ey6 g6 d6 K4;obtain ⟨C6,hC6⟩:∃ C,bkC x'.y P j=C:=⟨_,rfl⟩
 rw [hC6]
 have HC6:Hid (bkC (bkY x.y P k) P j=C6):=by
  show bkC (bkY x.y P k) P j=C6;rw [<- K6.2.2.2];exact hC6
 clear hC6;obtain ⟨k0,k1,k2,k3⟩:=K6.1.bx;go_wp2_with fail
 clear k0 k1 k2 k3;generalize w6.alloc (oQ4 x6.pa x6.pn x6.pc x6.sa x6.sn x6.sc x6.wa x6.wn x6.wc x6.ha x6.hn x6.hc)=W6 at *;generalize w6.heap.size=Z at *;clear w6;refine (qbr x (P:Int) j W6 K6.1.g HM.1 HM.2.1 HM.2.2 (HV.out _ K6.1.be)).mono ?_;rintro e w7 ⟨v7,rfl,o7,d7⟩;obtain ⟨x7,rfl,ey7,g7,-,-⟩:=o7.inJ;have K7:Hid (WJ w1 (w7.alloc (oQ4 x7.pa x7.pn x7.pc x7.sa x7.sn x7.sc x7.wa x7.wn x7.wc x7.ha x7.hn x7.hc)) Z x6/\WJ w1 (w7.alloc (oQ4 x7.pa x7.pn x7.pc x7.sa x7.sn x7.sc x7.wa x7.wn x7.wc x7.ha x7.hn x7.hc)) w7.heap.size x7/\x6.y=bkY (bkY x.y P k) P j/\x7.y=bkY x.y P j):=⟨(K6.2.1.below d7).below (zQ _ _),⟨g7.below (zQ _ _),BoxC.new _ _ _ _ _ _,((K6.1.below d7).below (zQ _ _)).be⟩,K6.2.2.1,ey7⟩
 clear o7 ey7 g7 d7 K6;obtain ⟨C7,hC7⟩:∃ C,bkC x.y P j=C:=⟨_,rfl⟩
 rw [hC7];have HC7:Hid (bkC x.y P j=C7):=hC7;clear hC7;go_upto_region 15 with fail
 generalize w7.alloc (oQ4 x7.pa x7.pn x7.pc x7.sa x7.sn x7.sc x7.wa x7.wn x7.wc x7.ha x7.hn x7.hc)=W7 at *;generalize w7.heap.size=Q at *;clear w7;by_cases h6:C6=0
 case neg=>
  have h6':(C6 != 0)=true:=by simpa using h6
  have KB:Hid (Below w1.heap.size w1 W7):=K7.1.be;clear K7;go_wp2;go_ret;exact ⟨rfl,KB.out⟩
 subst h6;by_cases h7:C7=0
 case neg=>
  have h7':(C7 != 0)=true:=by simpa using h7
  have KB:Hid (Below w1.heap.size w1 W7):=K7.1.be;clear K7;go_wp2;go_ret;exact ⟨rfl,KB.out⟩
 subst h7
 have HE:Hid (x7.y=x6.y):=by
  show x7.y=x6.y;rw [K7.2.2.1,K7.2.2.2];exact (qpb HC.out (by omega) HC6.out HC7.out).symm
 have HL6:Hid x6.Len:=by
  show x6.Len;have h1:=(qg5 HC7.out).2.2.1.sm;rw [<- K7.2.2.2,HE.out] at h1;exact h1.inLen
 clear HC HC6 HC7 HM HLt HPn;obtain ⟨s0,s1,s2,s3⟩:=K7.1.bx;obtain ⟨t0,t1,t2,t3⟩:=K7.2.1.bx;go_wp2_with (first|(go_at_call 16;refine (qke x6 x7 _ HE.out K7.1.g K7.2.1.g HL6.out).mono ?_;rintro e w8 ⟨rfl,d8⟩;clear s0 s1 s2 s3 t0 t1 t2 t3;have K8:Hid (WJ w1 w8 Z x6/\WJ w1 w8 Q x7):=⟨K7.1.below d8,K7.2.1.below d8⟩;obtain ⟨s0,s1,s2,s3⟩:=K8.1.bx;obtain ⟨t0,t1,t2,t3⟩:=K8.2.bx;clear d8)|(go_at_call 17;refine (qif x6 x7 _ HE.out K8.1.g K8.2.g HL6.out).mono ?_;rintro e w9 ⟨rfl,d9⟩;have K9:Hid (Below w1.heap.size w1 w9):=(K8.1.below d9).be;clear d9))
 go_ret;exact ⟨rfl,K9.out⟩
theorem qiz (a0:Option Addr) (len cap:Nat) (w:World) (_hm:len<=maxLen) (hl:1048576<len):
  Calls Tryz.prog 5 #[.slice a0 len cap] w fun e w'=>e=.returned (.bool true)/\Below w.heap.size w w':=by
 go_enter Tryz.func5,Tryz.ntmps5
 go_wp2_with fail
 refine (qgd a0 len cap w).mono ?_;rintro e w1 ⟨rfl,rfl⟩;rw [decide_eq_true (show (1048576:Int)<(len:Int) by omega)];go_wp2;go_ret;exact ⟨rfl,Below.refl _ _⟩
open Go.ChangeShapes Go.WideShapes Go.ChangeAt
theorem qnw (os:Os) (started:os.Started) (H:Type) (enc:TypeId × Value->H):
  ReturnsInHanded {} Tryz.checked os 5 .any (fun w args => (Rows.fnTwiceBackSpec.pre enc Tryz.prog Tryz.f5 [] false w args /\ laidMetH Tryz.prog [("errors.errorType", Rows.laid_errors_errorType)] w) /\ sizedMet enc Tryz.prog Tryz.f5 (OpenSpec.ofChange Rows.fnTwiceBackSpec) false w args)
   (Rows.fnTwiceBackSpec.post enc Tryz.prog Tryz.f5 false true false false):=by
 refine returnsInHanded_of_change_and (C := Tryz.checked) (X := fun w _ => laidMetH Tryz.prog [("errors.errorType", Rows.laid_errors_errorType)] w) (fun _ _ _ hh h => h.of_heap hh) Tryz.own started (by kernel_rfl) Tryz.func5
  (ChangeSpec.witness_at (enc := enc) (C := Tryz.checked) (os := os) (X := fun w _ => laidMetH Tryz.prog [("errors.errorType", Rows.laid_errors_errorType)] w) false (qfx os) #[.slice none 0 0] 8 rfl (by kernel_rfl) (by kernel_rfl) (by kernel_rfl) (by kernel_rfl) (by kernel_rfl) (qdw os _)) ?_
 intro W base args ds gs before hval0 hW _ _ hL _;have hval:∀ (j:Nat) t v,Tryz.f5.params[j]? = some t->args[j]? = some v->Value.okWide Tryz.prog W .any base t v:=hval0;have hW':=hW;obtain ⟨p,q,hA0,hV,rfl,hfz,hnd⟩:=hW;have hA:DataW.TrodAll enc Tryz.prog W 0 (fun _=>true) true Tryz.f5.params.toList args.toList ds p:=hA0;rw [Tryz.params5] at hA hval;obtain ⟨v0,d0,rfl,rfl,h0⟩:=trodAll_one hA;obtain ⟨rfl,rfl⟩:=trodVars_none hV;have lt0:∀ x ∈ p,x.block<W.heap.size:=by obtain ⟨m,hm⟩:=h0;exact DataW.trod_lt m _ _ _ hm
 have hg:=qdf hL;clear hA0 hval0
 have hlaw:Calls Tryz.prog 5 #[v0] W fun e w'=>e=.returned (.bool true)/\Below W.heap.size W w':=by
  obtain ⟨a0,len,cap,rfl⟩:=okWide_slice Tryz.underlying22 (hval 0 22 v0 rfl rfl);obtain ⟨hm,hB⟩:=qgp h0;by_cases hs:len<=1048576
  ·exact qi0 a0 len cap W hs hB hg
  ·exact qiz a0 len cap W hm (by omega)
 refine hlaw.mono fun e W' ⟨he,bel⟩=>?_;subst he;exact ⟨_,rfl,_,_,_,[],_,[],hW',trodAll_mk1 (shut_bool Tryz.underlying4 _),trodAll_mk1 (Below.trod Tryz.laidOut (by kernel_rfl) (of_decide_eq_true (by kernel_rfl)) h0 bel lt0),rfl,bel.frame _,fun h=>by cases h⟩
theorem qsh:Rows.FnTwiceBackSaid:=
 OpenClaim.holds_of_wide 5 Tryz.f5 rfl rfl rfl rfl rfl rfl rfl ⟨rfl,rfl,rfl,rfl,rfl⟩ rfl rfl rfl rfl rfl (by kernel_rfl) Tryz.func5 (by kernel_rfl)
  (of_decide_eq_true (by kernel_rfl)) (by unfold Func.isWrapper;first|(rw [if_pos (by decide +kernel)];kernel_rfl)|(rw [if_neg (by decide +kernel)];exact ⟨rfl,rfl⟩))
  (fun os started H enc _=>qnw os started H enc)
theorem qqa (f : FuncId) (fn : Func) (hf : Tryz.pinned.checked.prog.funcNamed "loop.example/g00196/laws.FnTwiceBack" = some f) (hfn : Tryz.pinned.checked.prog.funcs[f]? = some fn) :
  true=Tryz.pinned.checked.prog.looks []/\∀ (j:Nat) t,fn.params[j]? = some t->Tryz.pinned.checked.prog.wantsStandIn t=false:=by
 obtain rfl : f = 5 := Option.some.inj ((show Tryz.prog.funcNamed "loop.example/g00196/laws.FnTwiceBack" = some 5 by kernel_rfl).symm.trans hf) |>.symm
 obtain rfl:fn=Tryz.f5:=(Option.some.inj (Tryz.func5.symm.trans hfn)).symm;refine ⟨by kernel_rfl,fun j t ht=>?_⟩;rw [Tryz.params5] at ht;have hm:=Array.mem_of_getElem? ht;simp at hm;obtain rfl:=hm;exact (show Tryz.prog.wantsStandIn 22=false by kernel_rfl)
theorem twice_card:Rows.FnTwiceBackCardSaid:=
 Claim7.holds_tied_plain_at .later [] _ _ _ _ qsh (fun _ h=>by cases h) (by kernel_rfl) (fun _ h=>by cases h) fnTwiceBack_row_tie rfl ⟨rfl,rfl⟩ (by kernel_rfl) rfl qqa (by kernel_rfl)
