/- Proved: whatever bytes are drawn by, a drawn system that is taken back is right, has what it had to begin with of all, of the one no more events than wanted, and what is gone of all others hangs on what was taken back; nothing is written into what came in. One condition, tied to the program's text: errors.errorType holds what its text lays. -/
import Derived.Test.YtgkocghddlolkaaGreatDoorYl28
import Derived.Test.YtgkocghddlolkaaGreatDoorYl29
import Derived.Test.YtgkocghddlolkaaGreatDoorYl31
import Derived.Test.YtgkocghddlolkaaGreatDoorCards
import Derived.SevenTiedAt
namespace Go.Proofs.YtgkocghddlolkaaGreatDoor
open Go.Proofs.Tryz
set_option maxRecDepth 100000
set_option maxHeartbeats 4000000
open Go.RowKit Go.Deep
theorem qsl {P:Prop} {e:Ending} (hP:P) (h:qc2 e P):e=.returned (.bool true):=by
 obtain ⟨b,e1,h1⟩:=h;rw [e1,h1.2 hP]
theorem qwg {y:Sy} {p k:Int} (h:bkC y p k=1):(bkY y p k).pn=0:=by
 unfold bkC at h;unfold bkY;by_cases ho:y.okB=true
 ·rw [if_pos ho] at h
  split at h
  ·split at h <;> cases h
  ·cases h
 ·rw [if_neg ho]
  rfl
theorem qwf {y:Sy} {p k:Int} (h0:bkC y p k≠0) (h1:bkC y p k≠1):bkY y p k=y:=by
 unfold bkC at h0 h1;unfold bkY;by_cases ho:y.okB=true
 ·rw [if_pos ho] at h0 h1 ⊢
  by_cases hb:bkIn y p k=true
  ·rw [if_pos hb] at h0 h1 ⊢
   by_cases hw:wfB (y.ah (cN (bkE y p k)))=true
   ·rw [if_pos hw] at h0
    exact absurd rfl h0
   ·rw [if_neg hw]
  ·rw [if_neg hb]
 ·rw [if_neg ho] at h1
  exact absurd rfl h1
theorem qic (a0:Option Addr) (len cap:Nat) (w:World) (hl:len<=1048576) (hB:qb5 w w.heap.size a0 len) (hV:w.cell? (aQ 0 0)=some vT):
  Calls prog 3 #[.slice a0 len cap] w (rB w (.bool true)):=by
 have HB:Hid (qb5 w w.heap.size a0 len):=hB;have HV:Hid (∀ wx,Bw w wx->wx.cell? ⟨0,0,none⟩=some (.iface 195 (.agg #[.pointer (some ⟨1,132,none⟩)]))):=fun wx hb=>(hb.cell (p:=⟨0,0,none⟩) (zJ w _ hV)).trans hV;have hlt:¬ (1048576:Int)<(len:Int):=by omega
 clear hB hV
 go_enter func3,ntmps3
 go_wp2_with fail
 refine (qqk a0 len cap w).mono ?_;rintro e w1 ⟨rfl,rfl⟩;rw [decide_eq_false (show ¬ (1048576:Int)<(len:Int) by omega)];go_wp2_with fail
 refine (qki w1.heap.size len cap a0 w1 HB.out (Nat.le_refl _) hl).mono ?_;rintro e w2 ⟨x,p,k,B,T,rfl,hm,hX,-,-,b2,hp,hk⟩;have HM:Hid (x.Len/\(∀ i,i<x.hn->x.hL i<=x.hC i)/\x.Nn false):=⟨hm.inLen,hX.cap,hX.nn⟩
 have K2:Hid (WJ w1 (w2.alloc (x.oX)) w2.heap.size x):=⟨hX.self.below (zQ _ _),BoxC.new _ _ _ _ _ _,b2.trans ((zQ _ _).mono b2.size)⟩
 clear hX b2 hm;go_wp2_with fail
 generalize w2.alloc (x.oX)=W2 at *;generalize w2.heap.size=X at *;clear w2;refine (qk8 x p k W2 K2.g HM.1 HM.2.1 HM.2.2 (HV.out _ K2.be)).mono ?_;rintro e w3 ⟨v3,rfl,o3,d3⟩;obtain ⟨x',rfl,ey,g3,cp3,nn3⟩:=o3.inJ;have K3:Hid (WJ w1 (w3.alloc (oQ4 x'.pa x'.pn x'.pc x'.sa x'.sn x'.sc x'.wa x'.wn x'.wc x'.ha x'.hn x'.hc)) X x/\WJ w1 (w3.alloc (oQ4 x'.pa x'.pn x'.pc x'.sa x'.sn x'.sc x'.wa x'.wn x'.wc x'.ha x'.hn x'.hc)) w3.heap.size x'/\x'.y=bkY x.y p k/\(∀ i,i<x'.hn->x'.hL i<=x'.hC i)/\x'.Nn false):=⟨(K2.below d3).below (zQ _ _),⟨g3.below (zQ _ _),BoxC.new _ _ _ _ _ _,((K2.below d3).below (zQ _ _)).be⟩,ey,cp3,nn3⟩
 clear o3 ey g3 d3 K2 cp3 nn3;obtain ⟨C,hC⟩:∃ C,bkC x.y p k=C:=⟨_,rfl⟩
 rw [hC];have HC:Hid (bkC x.y p k=C):=hC;clear hC;obtain ⟨k0,k1,k2,k3⟩:=K3.1.bx;go_wp2_with fail
 clear k0 k1 k2 k3;generalize w3.alloc (oQ4 x'.pa x'.pn x'.pc x'.sa x'.sn x'.sc x'.wa x'.wn x'.wc x'.ha x'.hn x'.hc)=W3 at *;generalize w3.heap.size=Y at *;clear w3;refine (qlu x p k W3 K3.1.g HM.1 HM.2.1).mono ?_;rintro e w4 ⟨v4,rfl,o4,d4⟩;rw [HC.out];obtain ⟨x2,rfl,-,-,-,-⟩:=o4.inJ;have K4:Hid (WJ w1 (w4.alloc (oQ4 x2.pa x2.pn x2.pc x2.sa x2.sn x2.sc x2.wa x2.wn x2.wc x2.ha x2.hn x2.hc)) X x/\WJ w1 (w4.alloc (oQ4 x2.pa x2.pn x2.pc x2.sa x2.sn x2.sc x2.wa x2.wn x2.wc x2.ha x2.hn x2.hc)) Y x'/\x'.y=bkY x.y p k/\(∀ i,i<x'.hn->x'.hL i<=x'.hC i)/\x'.Nn false):=⟨(K3.1.below d4).below (zQ _ _),(K3.2.1.below d4).below (zQ _ _),K3.2.2⟩
 clear o4 d4 K3;go_upto_region 6 with fail
 generalize w4.alloc (oQ4 x2.pa x2.pn x2.pc x2.sa x2.sn x2.sc x2.wa x2.wn x2.wc x2.ha x2.hn x2.hc)=W4 at *;by_cases h0:C=0
 case neg=>
  have h0':(C != 0)=true:=by simpa using h0
  by_cases h1:C=1
  ·subst h1
   have HN:Hid (x'.pn=0):=by
    show x'.y.pn=0;rw [K4.2.2.1];exact qwg HC.out
   obtain ⟨t0,t1,t2,t3⟩:=K4.2.1.bx;rw [HN.out] at t0;have KB:Hid (Bw w1 W4):=K4.1.be;clear K4 HC HM HN;go_wp2;go_ret;exact ⟨rfl,KB.out⟩
  ·have h1':(C == 1)=false:=by simpa using h1
   have HE:Hid (x'.y=x.y):=by
    show x'.y=x.y;rw [K4.2.2.1];exact qwf (by rw [HC.out];exact h0) (by rw [HC.out];exact h1)
   obtain ⟨s0,s1,s2,s3⟩:=K4.1.bx;obtain ⟨t0,t1,t2,t3⟩:=K4.2.1.bx;clear h0 h1;go_wp2_with fail
   clear s0 s1 s2 s3 t0 t1 t2 t3;refine (qj5 x x' _ HE.out K4.1.g K4.2.1.g HM.1).mono ?_;rintro e w8 ⟨rfl,d8⟩;have K8:Hid (Bw w1 w8):=(K4.1.below d8).be;clear d8 K4 HC HM HE;go_wp2;go_ret;exact ⟨rfl,K8.out⟩
 subst h0;obtain ⟨hO,hb,hO',hte,-,-⟩:=qkt HC.out;obtain ⟨P,rfl,hP,hk1,hk2⟩:=qes hb
 have HLt:Hid x'.Len:=by
  show x'.Len;have:=hO'.sm;rw [<- K4.2.2.1] at this;exact this.inLen
 have hst:=qpa HC.out;rw [<- K4.2.2.1] at hst;have HST:Hid ((x'.hL P:Int)=k):=hst
 have HF:Hid (x'.y.Fo x.y):=by
  show x'.y.Fo x.y;rw [K4.2.2.1];exact qvh HC.out
 have HOk:Hid (x'.y.okB=true):=by
  show x'.y.okB=true;rw [K4.2.2.1];exact Sy.okB_true hO'
 have HPn:Hid (P<x'.hn/\x.hn=x'.hn/\x.hn<=4/\x.hn=x.pn):=by
  have h1:x'.y.hn=x.y.pn:=by rw [K4.2.2.1,hte];rfl
  have h2:x'.y.hn=x'.hn:=rfl;have h3:=hO.cn;have h4:x.y.hn=x.hn:=rfl;have h5:x.y.pn=x.pn:=rfl;show P<x'.hn/\x.hn=x'.hn/\x.hn<=4/\x.hn=x.pn;omega
 have HG:Hid (∀ q,q<x.hn->q≠P->x'.hL q≠x.hL q->k≠(x.hL P:Int)/\hgB x.y q (x'.hL q:Nat) P k=true):=fun q hq hne hl=>by
  have hd:=HF.2.2 q (by have:=HPn.out;have h5:x'.y.pn=x'.pn:=rfl;have h6:=HF.2.1;have h7:x.y.pn=x.pn:=rfl;omega);have hle:x'.hL q<=x.hL q:=hd.2.1;have e1:x'.hL q=(bkY x.y P k).hL q:=by rw [<- K4.2.2.1];rfl
  have h9:=qvi HC.out (q:=q) (by have:=HPn.out;have h7:x.y.pn=x.pn:=rfl;omega) hne (by rw [<- e1];have h8:x.y.hL q=x.hL q:=rfl;omega);rw [<- e1] at h9;exact h9
 have hkk:¬ k<(x'.hL P:Int):=by rw [HST.out];omega
 have K5:Hid (WJ w1 W4 X x/\WJ w1 W4 Y x'):=⟨K4.1,K4.2.1⟩
 have hh4:(x.hn:Int)<=4:=by have:=HPn.out;omega
 have hP':=HPn.1;have hPi:(P:Int)<(x'.hn:Int):=by omega
 clear hO hb hO' hte hst K4;obtain ⟨s0,s1,s2,s3⟩:=K5.1.bx;obtain ⟨t0,t1,t2,t3⟩:=K5.2.bx;go_upto_region 12 with (first|(go_at_call 9;refine (qbp x' _ K5.2.g HLt.out (HV.out _ K5.1.be)).mono ?_;rintro e w8 ⟨rfl,d8⟩;rw [HOk.out];clear s0 s1 s2 s3 t0 t1 t2 t3;have K8:Hid (WJ w1 w8 X x/\WJ w1 w8 Y x'):=⟨K5.1.below d8,K5.2.below d8⟩;obtain ⟨s0,s1,s2,s3⟩:=K8.1.bx;obtain ⟨t0,t1,t2,t3⟩:=K8.2.bx;clear d8 K5)|(go_at_call 10;refine (qjg x' x _ K8.2.g K8.1.g HLt.out HM.1 (HV.out _ K8.1.be)).mono ?_;rintro e w9 ⟨te,d9⟩;have te:=qsl HF.out te;subst te;clear s0 s1 s2 s3 t0 t1 t2 t3;have K9:Hid (WJ w1 w9 X x/\WJ w1 w9 Y x'):=⟨K8.1.below d9,K8.2.below d9⟩;obtain ⟨bh,oh,eh,ch⟩:=K9.2.g.h.at hP';replace ch:w9.cell? ⟨bh,oh+P,none⟩=some (.slice (x'.hA P) (x'.hL P) (x'.hC P)):=ch;obtain ⟨s0,s1,s2,s3⟩:=K9.1.bx;obtain ⟨t0,t1,t2,t3⟩:=K9.2.bx;rw [eh] at t3;clear eh d9 K8))
 clear s0 s1 s2 s3 t0 t1 t2 t3 ch hkk;go_wp2_with fail
 go_loopw [10] (fun i wr=>∃ j:Nat,j<=x.hn/\i=.int .i64 (j:Nat)/\Hid (WJ w1 wr X x/\WJ w1 wr Y x')) (fun i _=>x.hn - (intOf i).toNat)
 case atStart=>exact ⟨0,Nat.zero_le _,rfl,K9.out⟩
 case round=>
  clear K9
  rename World=>wr
  obtain ⟨j,hj,rfl,HK⟩:=hrel;obtain ⟨s0,s1,s2,s3⟩:=HK.1.bx;by_cases hjt:j<x.hn
  case neg=>
   have hjt':¬ (j:Int)<(x.hn:Int):=by omega
   go_wp2;go_ret;exact ⟨rfl,HK.1.be⟩
  have hjt':(j:Int)<(x.hn:Int):=by omega
  have hjt2:(j:Int)<(x'.hn:Int):=by have:=HPn.out;omega
  have hPi2:(P:Int)<(x.hn:Int):=by have:=HPn.out;omega
  obtain ⟨ba,bo,eb,cb⟩:=HK.1.g.h.at hjt;obtain ⟨ca,co,ec,cc⟩:=HK.2.g.h.at (show j<x'.hn by have:=HPn.out;omega);replace cb:wr.cell? ⟨ba,bo+j,none⟩=some (.slice (x.hA j) (x.hL j) (x.hC j)):=cb;replace cc:wr.cell? ⟨ca,co+j,none⟩=some (.slice (x'.hA j) (x'.hL j) (x'.hC j)):=cc
  have cp:wr.cell? ⟨ba,bo+P,none⟩=some (.slice (x.hA P) (x.hL P) (x.hC P)):=by
   obtain ⟨ba',bo',eb',cb'⟩:=HK.1.g.h.at (show P<x.hn by have:=HPn.out;omega);rw [eb] at eb';simp only [Option.some.injEq,Addr.mk.injEq] at eb';obtain ⟨e1,e2,-⟩:=eb';subst e1;subst e2;exact cb'
  obtain ⟨t0,t1,t2,t3⟩:=HK.2.bx;rw [eb] at s3;rw [ec] at t3;clear ec;have HEB:Hid (x.ha=some (aQ ba bo)):=eb;clear eb;by_cases hjP:j=P
  ·have hjP':((j:Int) == (P:Int))=true:=by rw [hjP];simp
   clear hjP;go_wp2;go_roundw
   case rel=>exact ⟨j+1,by omega,by go_num,HK.out⟩
   case measure=>simp [intOf];omega
  have hjP':((j:Int) == (P:Int))=false:=by
   have:(j:Int)≠(P:Int):=by omega
   simpa using this
  by_cases hjl:x'.hL j=x.hL j
  ·have hjl':((x'.hL j:Int) == (x.hL j:Int))=true:=by rw [hjl];simp
   clear hjl hjP;go_wp2;go_roundw
   case rel=>exact ⟨j+1,by omega,by go_num,HK.out⟩
   case measure=>simp [intOf];omega
  have hjl':((x'.hL j:Int) == (x.hL j:Int))=false:=by
   have:(x'.hL j:Int)≠(x.hL j:Int):=by omega
   simpa using this
  obtain ⟨g1,g2⟩:=HG.out j hjt hjP hjl;have g1':(k == (x.hL P:Int))=false:=by simpa using g1
  have HG2:Hid (hgB x.y j (x'.hL j:Nat) P k=true):=g2;clear g1 g2 hjP hjl
  have HHg:Hid (Calls prog 11 #[.agg #[.slice x.pa x.pn x.pc,.slice x.sa x.sn x.sc,.slice x.wa x.wn x.wc,.slice (some (aQ ba bo)) x.hn x.hc],.int .i64 (j:Nat),.int .i64 (x'.hL j:Nat),.int .i64 P,.int .i64 k] wr (rB wr (.bool true))):=by
   have h9:=qjh x (j:Nat) (x'.hL j:Nat) P k wr HK.1.g HM.1 HM.2.1 (HV.out _ HK.1.be);rw [HG2.out] at h9;rw [<- HEB.out];exact h9
  go_wp2_with fail
  refine HHg.mono ?_;rintro e w9 ⟨rfl,d9⟩;clear HHg;have K9:Hid (WJ w1 w9 X x/\WJ w1 w9 Y x'):=⟨HK.1.below d9,HK.2.below d9⟩
  clear s0 s1 s2 s3 t0 t1 t2 t3 cb cc cp d9 HK g1' hjl' hjP';go_wp2;go_roundw
  case rel=>exact ⟨j+1,by omega,by go_num,K9.out⟩
  case measure=>simp [intOf];omega
theorem qib (a0:Option Addr) (len cap:Nat) (w:World) (_hm:len<=maxLen) (hl:1048576<len):
  Calls prog 3 #[.slice a0 len cap] w (rB w (.bool true)):=by
 go_enter func3,ntmps3
 go_wp2_with fail
 refine (qqk a0 len cap w).mono ?_;rintro e w1 ⟨rfl,rfl⟩;rw [decide_eq_true (show (1048576:Int)<(len:Int) by omega)];go_wp2;go_ret;exact ⟨rfl,Below.refl _ _⟩
open Go.ChangeShapes Go.WideShapes Go.ChangeAt
theorem qmf (os:Os) (started:os.Started) (H:Type) (enc:TypeId × Value->H):
  ReturnsInHanded {} Tryz.checked os 3 .any (fun w args => (Rows.fnBackSpec.pre enc prog f3 [] false w args /\ laidMetH prog [("errors.errorType", Rows.laid_errors_errorType)] w) /\ sizedMet enc prog f3 (OpenSpec.ofChange Rows.fnBackSpec) false w args)
   (Rows.fnBackSpec.post enc prog f3 false true false false):=by
 refine returnsInHanded_of_change_and (C := Tryz.checked) (X := fun w _ => laidMetH prog [("errors.errorType", Rows.laid_errors_errorType)] w) (fun _ _ _ hh h => h.of_heap hh) Tryz.own started (by kernel_rfl) func3
  (ChangeSpec.witness_at (enc := enc) (C := Tryz.checked) (os := os) (X := fun w _ => laidMetH prog [("errors.errorType", Rows.laid_errors_errorType)] w) false (qlf os) #[nS] 8 rfl (by kernel_rfl) (by kernel_rfl) (by kernel_rfl) (by kernel_rfl) (by kernel_rfl) (qjt os _)) ?_
 intro W base args ds gs before hval0 hW _ _ hL _;have hval:∀ (j:Nat) t v,f3.params[j]? = some t->args[j]? = some v->Value.okWide prog W .any base t v:=hval0;have hW':=hW;obtain ⟨p,q,hA0,hV,rfl,hfz,hnd⟩:=hW;have hA:DataW.TrodAll enc prog W 0 (fun _=>true) true f3.params.toList args.toList ds p:=hA0;rw [params3] at hA hval;obtain ⟨v0,d0,rfl,rfl,h0⟩:=trodAll_one hA;obtain ⟨rfl,rfl⟩:=trodVars_none hV;have lt0:∀ x ∈ p,x.block<W.heap.size:=by obtain ⟨m,hm⟩:=h0;exact DataW.trod_lt m _ _ _ hm
 have hg:=qif hL;clear hA0 hval0
 have hlaw:Calls prog 3 #[v0] W (rB W (.bool true)):=by
  obtain ⟨a0,len,cap,rfl⟩:=okWide_slice Tryz.underlying22 (hval 0 22 v0 rfl rfl);obtain ⟨hm,hB⟩:=qpz h0;by_cases hs:len<=1048576
  ·exact qic a0 len cap W hs hB hg
  ·exact qib a0 len cap W hm (by omega)
 refine hlaw.mono fun e W' ⟨he,bel⟩=>?_;subst he;exact ⟨_,rfl,_,_,_,[],_,[],hW',trodAll_mk1 (shut_bool Tryz.underlying4 _),trodAll_mk1 (Below.trod Tryz.laidOut (by kernel_rfl) (of_decide_eq_true (by kernel_rfl)) h0 bel lt0),rfl,bel.frame _,fun h=>by cases h⟩
theorem qqj:Rows.FnBackSaid:=
 OpenClaim.holds_of_wide 3 f3 rfl rfl rfl rfl rfl rfl rfl ⟨rfl,rfl,rfl,rfl,rfl⟩ rfl rfl rfl rfl rfl (by kernel_rfl) func3 (by kernel_rfl)
  (of_decide_eq_true (by kernel_rfl)) (by unfold Func.isWrapper;first|(rw [if_pos (by decide +kernel)];kernel_rfl)|(rw [if_neg (by decide +kernel)];exact ⟨rfl,rfl⟩))
  (fun os started H enc _=>qmf os started H enc)
theorem qo9 (f : FuncId) (fn : Func) (hf : Tryz.pinned.checked.prog.funcNamed "loop.example/g00196/laws.FnBack" = some f) (hfn : Tryz.pinned.checked.prog.funcs[f]? = some fn) :
  true=Tryz.pinned.checked.prog.looks []/\∀ (j:Nat) t,fn.params[j]? = some t->Tryz.pinned.checked.prog.wantsStandIn t=false:=by
 obtain rfl : f = 3 := Option.some.inj ((show prog.funcNamed "loop.example/g00196/laws.FnBack" = some 3 by kernel_rfl).symm.trans hf) |>.symm
 obtain rfl:fn=f3:=(Option.some.inj (func3.symm.trans hfn)).symm;refine ⟨by kernel_rfl,fun j t ht=>?_⟩;rw [params3] at ht;have hm:=Array.mem_of_getElem? ht;simp at hm;obtain rfl:=hm;exact (show prog.wantsStandIn 22=false by kernel_rfl)
theorem backD_card:Rows.FnBackCardSaid:=
 Claim7.holds_tied_plain_at .later [] _ _ _ _ qqj (fun _ h=>by cases h) (by kernel_rfl) (fun _ h=>by cases h) fnBack_row_tie rfl ⟨rfl,rfl⟩ (by kernel_rfl) rfl qo9 (by kernel_rfl)
