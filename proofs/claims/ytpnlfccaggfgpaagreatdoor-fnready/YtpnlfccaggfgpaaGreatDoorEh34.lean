/- Proved: whatever bytes are drawn by, the program names those with whom a process of a drawn system can go on as the model does, just these have a step that is done, and where all have halted there are none; nothing is written into what came in. One condition, tied to the program's text: errors.errorType holds what its text lays. -/
import Derived.Test.YtpnlfccaggfgpaaGreatDoorEh0
import Derived.Test.YtpnlfccaggfgpaaGreatDoorEh32
import Derived.Test.YtpnlfccaggfgpaaGreatDoorEh33
import Derived.Test.YtpnlfccaggfgpaaGreatDoorEh28
import Derived.Test.YtpnlfccaggfgpaaGreatDoorEh29
import Derived.Test.YtpnlfccaggfgpaaGreatDoorEh31
import Derived.Test.YtpnlfccaggfgpaaGreatDoorEh14
import Derived.Test.YtpnlfccaggfgpaaGreatDoorCards
import Derived.SevenTiedAt
namespace Go.Proofs.YtpnlfccaggfgpaaGreatDoor
set_option maxRecDepth 100000
set_option maxHeartbeats 8000000
open Go.ChangeShapes Go.WideShapes Go.ChangeAt Go.RowKit Go.Deep
theorem readyDLaw_small (a0:Option Addr) (len cap:Nat) (w:World) (hl:len<=1048576) (hB:BytesAt w w.heap.size a0 len) (hV:w.cell? ⟨0,0,none⟩=some (.iface 204 (.agg #[.pointer (some ⟨1,150,none⟩)]))):
  Calls Tryz.prog 3 #[.slice a0 len cap] w fun e w'=>e=.returned (.bool true)/\Below w.heap.size w w':=by
 have HB:Hid (BytesAt w w.heap.size a0 len):=hB
 have HV:Hid (∀ wx,Below w.heap.size w wx->wx.cell? ⟨0,0,none⟩=some (.iface 204 (.agg #[.pointer (some ⟨1,150,none⟩)]))):=fun wx hb=>(hb.cell (p:=⟨0,0,none⟩) (zJ w _ hV)).trans hV
 clear hB hV
 go_enter Tryz.func3,Tryz.ntmps3
 go_wp2_with fail
 refine (big_any a0 len cap w).mono ?_
 rintro e w1 ⟨rfl,e1⟩
 obtain rfl:=e1.symm
 rw [decide_eq_false (show ¬ (1048576:Int)<(len:Int) by omega)]
 go_wp2_with fail
 refine (DrawReady_any w.heap.size len cap a0 w HB.out (Nat.le_refl _) hl).mono ?_
 rintro e w2 ⟨x,p,B,T,rfl,hm,hX,b2⟩
 have HM:Hid (x.Len/\(∀ i,i<x.hn->x.hL i<=x.hC i)/\x.Nn false):=⟨hm.inLen,hX.cap,hX.nn⟩
 have bA:=zQ w2 (oQ4 x.pa x.pn x.pc x.sa x.sn x.sc x.wa x.wn x.wc x.ha x.hn x.hc)
 have K2:Hid (WJ w (w2.alloc (oQ4 x.pa x.pn x.pc x.sa x.sn x.sc x.wa x.wn x.wc x.ha x.hn x.hc)) w2.heap.size x):=⟨hX.self.below bA,BoxC.new w2 _ _ _ _ _,b2.trans (bA.mono b2.size)⟩
 clear hX b2 hm bA
 go_upto_region 4 with fail
 generalize w2.alloc (oQ4 x.pa x.pn x.pc x.sa x.sn x.sc x.wa x.wn x.wc x.ha x.hn x.hc)=W2 at *
 generalize w2.heap.size=X at *
 clear w2
 have HRi:Hid (∀ wx,WJ w wx X x->Calls Tryz.prog 6 #[x.v,.int .i64 p] wx fun e w'=>∃ u,e=.returned u/\OwnI w' wx.heap.size u (rdQ x.y p)/\Below wx.heap.size wx w'):=fun wx hd=>implReady_any x p wx hd.g HM.out.1 (HV.out _ hd.be)
 have HRs:Hid (∀ wx,WJ w wx X x->Calls Tryz.prog 8 #[x.v,.int .i64 p] wx fun e w'=>∃ u,e=.returned u/\OwnI w' wx.heap.size u (rdQ x.y p)/\Below wx.heap.size wx w'):=fun wx hd=>specReady_any x p wx hd.g HM.out.1 HM.out.2.1
 have HHi:Hid (∀ wx,WJ w wx X x->Calls Tryz.prog 9 #[x.v] wx fun e w'=>e=.returned (.bool (hltB x))/\Below wx.heap.size wx w'):=fun wx hd=>implHalted_any x wx hd.g HM.out.1 (HV.out _ hd.be)
 have HSt:Hid (∀ (f:Int) wx,WJ w wx X x->Calls Tryz.prog 12 #[x.v,.int .i64 p,.int .i64 f] wx fun e w'=>∃ v,e=.returned (.tuple #[v,.int .i64 (stC x.y p f)])/\OwnSys false w' wx.heap.size (stY x.y p f) v/\Below wx.heap.size wx w'):=fun f wx hd=>implStep_any (z:=false) x p f wx hd.g HM.out.1 HM.out.2.2 (HV.out _ hd.be)
 have HF:Hid ((∀ f,f ∈ rdQ x.y p->stC x.y p f=0/\∃ j:Nat,j<4/\f=j)/\(∀ f,stC x.y p f=0->rdQ x.y p≠[])/\(hltB x=true->rdQ x.y p=[])/\(rdQ x.y p).length<=4):=⟨fun f hf=>⟨(rdQ_stC x.y p).1 f hf,rdQ_mem4 hf⟩,(rdQ_stC x.y p).2,fun h=>hlt_rdQ h p,rdQ_four x.y p⟩
 obtain ⟨R,hR⟩:∃ R,rdQ x.y p=R:=⟨_,rfl⟩
 obtain ⟨S,hS⟩:∃ S:Int->Int,(fun f=>stC x.y p f)=S:=⟨_,rfl⟩
 have hS':∀ f,stC x.y p f=S f:=fun f=>congrFun hS f
 obtain ⟨Hx,hHx⟩:∃ Hx,hltB x=Hx:=⟨_,rfl⟩
 simp only [hR,hS',hHx] at HRi HRs HHi HSt HF
 clear hR hS hS' hHx
 obtain ⟨z0,z1,z2,z3⟩:=K2.out.bx
 go_wp2_with fail
 clear z0 z1 z2 z3
 refine (HRi.out W2 K2.out).mono ?_
 rintro e w3 ⟨u3,rfl,o3,d3⟩
 obtain ⟨ra,rc,rfl,-⟩:=o3.form
 have K3:Hid (WJ w w3 X x/\OwnI w3 W2.heap.size (.slice ra R.length rc) R):=⟨K2.out.below d3,o3⟩
 generalize W2.heap.size=B0 at *
 clear o3 d3 K2 HRi
 obtain ⟨z0,z1,z2,z3⟩:=K3.out.1.bx
 go_wp2_with fail
 clear z0 z1 z2 z3
 refine (HRs.out w3 K3.out.1).mono ?_
 rintro e w4 ⟨u4,rfl,o4,d4⟩
 obtain ⟨qa,qc,rfl,qsl⟩:=o4.form
 have K4:Hid (WJ w w4 X x/\OwnI w4 B0 (.slice ra R.length rc) R/\Sl w4 qa R):=⟨K3.out.1.below d4,K3.out.2.below d4,qsl⟩
 clear o4 d4 qsl K3 HRs
 go_wp2_with fail
 refine (sameInts_same ra qa rc qc R w4 (by have:=HF.out.2.2.2;omega) K4.out.2.1.slOf K4.out.2.2).mono ?_
 rintro e w5 ⟨rfl,d5⟩
 have K5:Hid (WJ w w5 X x/\OwnI w5 B0 (.slice ra R.length rc) R):=⟨K4.out.1.below d5,K4.out.2.1.below d5⟩
 clear d5 K4
 obtain ⟨z0,z1,z2,z3⟩:=K5.out.1.bx
 go_wp2_with fail
 clear z0 z1 z2 z3
 refine (HHi.out w5 K5.out.1).mono ?_
 rintro e w6 ⟨rfl,d6⟩
 have K6:Hid (WJ w w6 X x/\OwnI w6 B0 (.slice ra R.length rc) R):=⟨K5.out.1.below d6,K5.out.2.below d6⟩
 clear d6 K5
 go_wp2_with fail
 refine (DrawHalted_any w.heap.size len cap a0 w6 (HB.out.kept (fun k hk=>K6.out.1.be.block k (by omega))) K6.out.1.be.size hl).mono ?_
 rintro e w7 ⟨xh,rfl,hmh,hGh,hch,d7⟩
 have HMh:Hid (xh.Len/\∀ i,i<xh.hn->xh.hL i<=xh.hC i):=⟨hmh.inLen,hch⟩
 have K7:Hid (WJ w (w7.alloc (oQ4 xh.pa xh.pn xh.pc xh.sa xh.sn xh.sc xh.wa xh.wn xh.wc xh.ha xh.hn xh.hc)) X x/\OwnI (w7.alloc (oQ4 xh.pa xh.pn xh.pc xh.sa xh.sn xh.sc xh.wa xh.wn xh.wc xh.ha xh.hn xh.hc)) B0 (.slice ra R.length rc) R/\WJ w (w7.alloc (oQ4 xh.pa xh.pn xh.pc xh.sa xh.sn xh.sc xh.wa xh.wn xh.wc xh.ha xh.hn xh.hc)) w7.heap.size xh):=⟨(K6.out.1.below d7).below (zQ _ _),(K6.out.2.below d7).below (zQ _ _),⟨hGh.below (zQ _ _),BoxC.new _ _ _ _ _ _,((K6.out.1.below d7).below (zQ _ _)).be⟩⟩
 clear hmh hGh hch d7 K6 HB
 go_upto_region 9 with fail
 generalize w7.alloc (oQ4 xh.pa xh.pn xh.pc xh.sa xh.sn xh.sc xh.wa xh.wn xh.wc xh.ha xh.hn xh.hc)=W7 at *
 generalize w7.heap.size=Yh at *
 clear w7
 have HHa:Hid (∀ wx,WJ w wx Yh xh->Calls Tryz.prog 9 #[xh.v] wx fun e w'=>e=.returned (.bool (hltB xh))/\Below wx.heap.size wx w'):=fun wx hd=>implHalted_any xh wx hd.g HMh.out.1 (HV.out _ hd.be)
 have HHb:Hid (∀ wx,WJ w wx Yh xh->Calls Tryz.prog 11 #[xh.v] wx fun e w'=>e=.returned (.bool (hltB xh))/\Below wx.heap.size wx w'):=fun wx hd=>specHalted_any xh wx hd.g HMh.out.1 HMh.out.2
 obtain ⟨Hh,hHh⟩:∃ Hh,hltB xh=Hh:=⟨_,rfl⟩
 simp only [hHh] at HHa HHb
 clear hHh
 have hHH:(Hh != Hh)=false:=by cases Hh <;> rfl
 have q0:Below W7.heap.size W7 W7.drew:=(Below.refl W7.heap.size W7).drew
 have HS0:Hid (∀ wx,Below W7.heap.size W7 wx->BoxC wx Yh (.slice xh.pa xh.pn xh.pc) (.slice xh.sa xh.sn xh.sc) (.slice xh.wa xh.wn xh.wc) (.slice xh.ha xh.hn xh.hc)):=fun wx hb=>(K7.out.2.2.below hb).bx
 have hR4:R.length<=4:=HF.out.2.2.2
 have hR4':(R.length:Int)<=4:=by omega
 have HT:Hid (Hx=true->R.length=0):=fun h=>by
  have h9:=HF.out.2.2.1 h
  rw [h9]
  rfl
 refine wp_region_G (fun w'=>BoxC w' Yh (.slice xh.pa xh.pn xh.pc) (.slice xh.sa xh.sn xh.sc) (.slice xh.wa xh.wn xh.wc) (.slice xh.ha xh.hn xh.hc)) (fun _=>false) (by kernel_rfl) ?_
 have hHeld:=HS0.out _ q0
 refine wpG_k 0 rfl hHeld ?_
 refine wpG_k 2 rfl hHeld ?_
 refine wpG_one 1 rfl (by kernel_rfl) (fun Kc hKc=>?_)
 refine stepR_callD rfl 9 _ _ rfl #[xh.v] (by simp [Act.eval]) (yA Tryz.func9 (by kernel_rfl) rfl) (HHa.out W7.drew (K7.out.2.2.below q0)) ?_
 rintro e w8 ⟨rfl,b8⟩
 have q8:Below W7.heap.size W7 w8:=q0.trans (b8.mono q0.size)
 refine ⟨_,rfl,?_⟩
 refine hKc.out _ _ (fun _=>HS0.out _ q8) ?_
 clear hKc Kc hHeld
 (try simp only [Act.put,zD,zE,zF])
 refine wpG_one 3 rfl (by kernel_rfl) (fun Kc hKc=>?_)
 refine stepR_callD rfl 11 _ _ rfl #[xh.v] (by simp [Act.eval]) (yA Tryz.func11 (by kernel_rfl) rfl) (HHb.out w8 (K7.out.2.2.below q8)) ?_
 rintro e w9 ⟨rfl,b9⟩
 have q9:Below W7.heap.size W7 w9:=q8.trans (b9.mono q8.size)
 refine ⟨_,rfl,?_⟩
 refine hKc.out _ _ (fun _=>HS0.out _ q9) ?_
 clear hKc Kc
 (try simp only [Act.put,zD,zE,zF])
 have hHeld:=HS0.out _ q9
 have K9:Hid (WJ w w9 X x/\OwnI w9 B0 (.slice ra R.length rc) R):=⟨K7.out.1.below q9,K7.out.2.1.below q9⟩
 clear K7 HHa HHb HS0 q0 q8 q9 b8 b9
 refine wpG_k 4 rfl hHeld ?_
 refine wpG_k 5 rfl hHeld ?_
 refine wpG_k 6 rfl hHeld ?_
 refine wpG_k 7 rfl hHeld ?_
 have HNX:Hid ((Hx=false)\/R.length=0):=by
  cases Hx
  ·exact .inl rfl
  ·exact .inr (HT.out rfl)
 cases Hx
 ·refine wpG_skip 8 rfl ?_
  (try simp only [Act.put,zD,zE,zF])
  refine wpG_skip 9 rfl ?_
  (try simp only [Act.put,zD,zE,zF])
  refine wpG_skip 10 rfl ?_
  (try simp only [Act.put,zD,zE,zF])
  refine wpG_k 11 rfl hHeld ?_
  refine wpG_k 12 rfl hHeld ?_
  clear hHeld HT HNX HHi
  refine wpG_done (by kernel_rfl) ?_ _
  go_wp2_with fail
  go_loopw [8,9] (fun s i wr=>∃ k:Nat,k<=4/\i=.int .i64 (k:Nat)/\s=.bool (decide (∃ j:Nat,j<k/\S j=0))/\Hid (WJ w wr X x/\OwnI wr B0 (.slice ra R.length rc) R)) (fun _ i _=>4 - (intOf i).toNat)
  case atStart=>exact ⟨0,by omega,rfl,by simp,K9.out⟩
  case round=>
   clear K9
   rename World=>wr
   obtain ⟨k,hk,rfl,rfl,HK⟩:=hrel
   by_cases hlt:k<4
   case neg=>
    have hk4:k=4:=by omega
    subst hk4
    have HE:Hid ((decide (∃ j:Nat,j<4/\S j=0) == decide (0<R.length))=true):=by
     have h1:(∃ j:Nat,j<4/\S j=0) ↔ (0:Int)<(R.length:Int):=by
      constructor
      ·rintro ⟨j,-,h0⟩
       have h9:=HF.out.2.1 _ h0
       have h8:R.length≠0:=fun e=>h9 (List.length_eq_zero_iff.1 e)
       omega
      ·intro h9
       obtain ⟨f,fs,e⟩:∃ f fs,R=f :: fs:=by
        cases hR:R with
        | nil=>rw [hR] at h9;simp at h9
        | cons f fs=>exact ⟨f,fs,rfl⟩
       obtain ⟨h0,j,hj,ej⟩:=HF.out.1 f (by rw [e];exact List.mem_cons_self)
       exact ⟨j,hj,by rw [<- ej];exact h0⟩
     show (decide (∃ j:Nat,j<4/\S j=0) == decide (0<R.length))=true
     have h2:decide (∃ j:Nat,j<4/\S j=0)=decide (0<R.length):=by
      rw [Bool.eq_iff_iff]
      simp only [decide_eq_true_eq]
      rw [h1]
      omega
     rw [h2]
     simp
    have KB:Hid (Below w.heap.size w wr):=HK.out.1.be
    obtain ⟨D,hD⟩:∃ D,decide (∃ j:Nat,j<4/\S j=0)=D:=⟨_,rfl⟩
    rw [hD] at HE
    simp only [hD]
    clear HK HF hD
    go_wp2
    go_ret
    exact ⟨congrArg (fun b:Bool=>Ending.returned (.bool b)) HE.out,KB.out⟩
   have hlt':(k:Int)<4:=by omega
   obtain ⟨D,hD⟩:∃ D,decide (∃ j:Nat,j<k/\S j=0)=D:=⟨_,rfl⟩
   have HD:Hid (decide (∃ j:Nat,j<k/\S j=0)=D):=hD
   simp only [hD]
   clear hD
   obtain ⟨z0,z1,z2,z3⟩:=HK.out.1.bx
   go_wp2_with fail
   clear z0 z1 z2 z3
   refine (HSt.out (k:Nat) wr HK.out.1).mono ?_
   rintro e w10 ⟨v10,rfl,o10,d10⟩
   obtain ⟨x10,rfl,-,-,-,-⟩:=o10.inJ
   have K10:Hid (WJ w (w10.alloc (oQ4 x10.pa x10.pn x10.pc x10.sa x10.sn x10.sc x10.wa x10.wn x10.wc x10.ha x10.hn x10.hc)) X x/\OwnI (w10.alloc (oQ4 x10.pa x10.pn x10.pc x10.sa x10.sn x10.sc x10.wa x10.wn x10.wc x10.ha x10.hn x10.hc)) B0 (.slice ra R.length rc) R):=⟨(HK.out.1.below d10).below (zQ _ _),(HK.out.2.below d10).below (zQ _ _)⟩
   obtain ⟨C,hC⟩:∃ C,S (k:Nat)=C:=⟨_,rfl⟩
   have HC:Hid (S (k:Nat)=C):=hC
   rw [hC]
   clear o10 d10 HK hC
   go_upto_region 16 with fail
   generalize w10.alloc (oQ4 x10.pa x10.pn x10.pc x10.sa x10.sn x10.sc x10.wa x10.wn x10.wc x10.ha x10.hn x10.hc)=W10 at *
   generalize w10.heap.size=M10 at *
   clear w10
   go_wp2_with fail
   refine (within_any ra rc R (k:Nat) W10 (by omega) K10.out.2.slOf).mono ?_
   rintro e w11 ⟨rfl,d11⟩
   have K11:Hid (WJ w w11 X x/\OwnI w11 B0 (.slice ra R.length rc) R):=⟨K10.out.1.below d11,K10.out.2.below d11⟩
   have HW:Hid (decide ((k:Int) ∈ R)=true->C=0):=fun h=>by
    have h9:=(HF.out.1 _ (of_decide_eq_true h)).1
    rw [HC.out] at h9
    exact h9
   obtain ⟨Q,hQ⟩:∃ Q,decide ((k:Int) ∈ R)=Q:=⟨_,rfl⟩
   rw [hQ] at HW
   simp only [hQ]
   clear d11 K10 hQ
   have HN:Hid (decide (∃ j:Nat,j<k+1/\S j=0)=(D || (C == 0))):=by
    show decide (∃ j:Nat,j<k+1/\S j=0)=(D || (C == 0))
    rw [<- HD.out,<- HC.out,Bool.eq_iff_iff]
    simp only [Bool.or_eq_true,decide_eq_true_eq,beq_iff_eq]
    constructor
    ·rintro ⟨j,h1,h2⟩
     by_cases e:j=k
     ·rw [e] at h2
      exact .inr h2
     ·exact .inl ⟨j,by omega,h2⟩
    ·rintro (⟨j,h1,h2⟩ | h2)
     ·exact ⟨j,by omega,h2⟩
     ·exact ⟨k,by omega,h2⟩
   by_cases hc:C=0
   ·subst hc
    have hc1:((0:Int) != 0)=false:=rfl
    cases Q <;> cases D
    all_goals
     go_wp2
     go_roundw
     case rel=>exact ⟨k+1,by omega,by go_num,(congrArg Value.bool HN.out).symm,K11.out⟩
     case measure=>simp [intOf];omega
   ·have hc1:(C == 0)=false:=by simpa using hc
    have hQf:Q=false:=by
     cases hQQ:Q
     ·rfl
     ·exact absurd (HW.out hQQ) hc
    subst hQf
    rw [hc1] at HN
    cases D
    all_goals
     go_wp2
     go_roundw
     case rel=>exact ⟨k+1,by omega,by go_num,(congrArg Value.bool HN.out).symm,K11.out⟩
     case measure=>simp [intOf];omega
 ·have hz0:R.length=0:=HT.out rfl
  refine wpG_k 8 rfl hHeld ?_
  refine wpG_k 9 rfl hHeld ?_
  refine wpG_k 10 rfl hHeld ?_
  (try rw [decide_eq_false (show ¬ (0:Int)<(R.length:Int) by omega)])
  (try rw [decide_eq_false (show ¬ 0<R.length by omega)])
  clear hz0
  refine wpG_k 11 rfl hHeld ?_
  refine wpG_k 12 rfl hHeld ?_
  clear hHeld HT HNX HHi
  refine wpG_done (by kernel_rfl) ?_ _
  go_wp2_with fail
  go_loopw [8,9] (fun s i wr=>∃ k:Nat,k<=4/\i=.int .i64 (k:Nat)/\s=.bool (decide (∃ j:Nat,j<k/\S j=0))/\Hid (WJ w wr X x/\OwnI wr B0 (.slice ra R.length rc) R)) (fun _ i _=>4 - (intOf i).toNat)
  case atStart=>exact ⟨0,by omega,rfl,by simp,K9.out⟩
  case round=>
   clear K9
   rename World=>wr
   obtain ⟨k,hk,rfl,rfl,HK⟩:=hrel
   by_cases hlt:k<4
   case neg=>
    have hk4:k=4:=by omega
    subst hk4
    have HE:Hid ((decide (∃ j:Nat,j<4/\S j=0) == decide (0<R.length))=true):=by
     have h1:(∃ j:Nat,j<4/\S j=0) ↔ (0:Int)<(R.length:Int):=by
      constructor
      ·rintro ⟨j,-,h0⟩
       have h9:=HF.out.2.1 _ h0
       have h8:R.length≠0:=fun e=>h9 (List.length_eq_zero_iff.1 e)
       omega
      ·intro h9
       obtain ⟨f,fs,e⟩:∃ f fs,R=f :: fs:=by
        cases hR:R with
        | nil=>rw [hR] at h9;simp at h9
        | cons f fs=>exact ⟨f,fs,rfl⟩
       obtain ⟨h0,j,hj,ej⟩:=HF.out.1 f (by rw [e];exact List.mem_cons_self)
       exact ⟨j,hj,by rw [<- ej];exact h0⟩
     show (decide (∃ j:Nat,j<4/\S j=0) == decide (0<R.length))=true
     have h2:decide (∃ j:Nat,j<4/\S j=0)=decide (0<R.length):=by
      rw [Bool.eq_iff_iff]
      simp only [decide_eq_true_eq]
      rw [h1]
      omega
     rw [h2]
     simp
    have KB:Hid (Below w.heap.size w wr):=HK.out.1.be
    obtain ⟨D,hD⟩:∃ D,decide (∃ j:Nat,j<4/\S j=0)=D:=⟨_,rfl⟩
    rw [hD] at HE
    simp only [hD]
    clear HK HF hD
    go_wp2
    go_ret
    exact ⟨congrArg (fun b:Bool=>Ending.returned (.bool b)) HE.out,KB.out⟩
   have hlt':(k:Int)<4:=by omega
   obtain ⟨D,hD⟩:∃ D,decide (∃ j:Nat,j<k/\S j=0)=D:=⟨_,rfl⟩
   have HD:Hid (decide (∃ j:Nat,j<k/\S j=0)=D):=hD
   simp only [hD]
   clear hD
   obtain ⟨z0,z1,z2,z3⟩:=HK.out.1.bx
   go_wp2_with fail
   clear z0 z1 z2 z3
   refine (HSt.out (k:Nat) wr HK.out.1).mono ?_
   rintro e w10 ⟨v10,rfl,o10,d10⟩
   obtain ⟨x10,rfl,-,-,-,-⟩:=o10.inJ
   have K10:Hid (WJ w (w10.alloc (oQ4 x10.pa x10.pn x10.pc x10.sa x10.sn x10.sc x10.wa x10.wn x10.wc x10.ha x10.hn x10.hc)) X x/\OwnI (w10.alloc (oQ4 x10.pa x10.pn x10.pc x10.sa x10.sn x10.sc x10.wa x10.wn x10.wc x10.ha x10.hn x10.hc)) B0 (.slice ra R.length rc) R):=⟨(HK.out.1.below d10).below (zQ _ _),(HK.out.2.below d10).below (zQ _ _)⟩
   obtain ⟨C,hC⟩:∃ C,S (k:Nat)=C:=⟨_,rfl⟩
   have HC:Hid (S (k:Nat)=C):=hC
   rw [hC]
   clear o10 d10 HK hC
   go_upto_region 16 with fail
   generalize w10.alloc (oQ4 x10.pa x10.pn x10.pc x10.sa x10.sn x10.sc x10.wa x10.wn x10.wc x10.ha x10.hn x10.hc)=W10 at *
   generalize w10.heap.size=M10 at *
   clear w10
   go_wp2_with fail
   refine (within_any ra rc R (k:Nat) W10 (by omega) K10.out.2.slOf).mono ?_
   rintro e w11 ⟨rfl,d11⟩
   have K11:Hid (WJ w w11 X x/\OwnI w11 B0 (.slice ra R.length rc) R):=⟨K10.out.1.below d11,K10.out.2.below d11⟩
   have HW:Hid (decide ((k:Int) ∈ R)=true->C=0):=fun h=>by
    have h9:=(HF.out.1 _ (of_decide_eq_true h)).1
    rw [HC.out] at h9
    exact h9
   obtain ⟨Q,hQ⟩:∃ Q,decide ((k:Int) ∈ R)=Q:=⟨_,rfl⟩
   rw [hQ] at HW
   simp only [hQ]
   clear d11 K10 hQ
   have HN:Hid (decide (∃ j:Nat,j<k+1/\S j=0)=(D || (C == 0))):=by
    show decide (∃ j:Nat,j<k+1/\S j=0)=(D || (C == 0))
    rw [<- HD.out,<- HC.out,Bool.eq_iff_iff]
    simp only [Bool.or_eq_true,decide_eq_true_eq,beq_iff_eq]
    constructor
    ·rintro ⟨j,h1,h2⟩
     by_cases e:j=k
     ·rw [e] at h2
      exact .inr h2
     ·exact .inl ⟨j,by omega,h2⟩
    ·rintro (⟨j,h1,h2⟩ | h2)
     ·exact ⟨j,by omega,h2⟩
     ·exact ⟨k,by omega,h2⟩
   by_cases hc:C=0
   ·subst hc
    have hc1:((0:Int) != 0)=false:=rfl
    cases Q <;> cases D
    all_goals
     go_wp2
     go_roundw
     case rel=>exact ⟨k+1,by omega,by go_num,(congrArg Value.bool HN.out).symm,K11.out⟩
     case measure=>simp [intOf];omega
   ·have hc1:(C == 0)=false:=by simpa using hc
    have hQf:Q=false:=by
     cases hQQ:Q
     ·rfl
     ·exact absurd (HW.out hQQ) hc
    subst hQf
    rw [hc1] at HN
    cases D
    all_goals
     go_wp2
     go_roundw
     case rel=>exact ⟨k+1,by omega,by go_num,(congrArg Value.bool HN.out).symm,K11.out⟩
     case measure=>simp [intOf];omega
theorem readyDLaw_great (a0:Option Addr) (len cap:Nat) (w:World) (_hm:len<=maxLen) (hl:1048576<len):
  Calls Tryz.prog 3 #[.slice a0 len cap] w fun e w'=>e=.returned (.bool true)/\Below w.heap.size w w':=by
 go_enter Tryz.func3,Tryz.ntmps3
 go_wp2_with fail
 refine (big_any a0 len cap w).mono ?_
 rintro e w1 ⟨rfl,rfl⟩
 rw [decide_eq_true (show (1048576:Int)<(len:Int) by omega)]
 go_wp2
 go_ret
 exact ⟨rfl,Below.refl _ _⟩
theorem readyDLifted (os:Os) (started:os.Started) (H:Type) (enc:TypeId × Value->H):
  ReturnsInHanded {} Tryz.checked os 3 .any (fun w args => (Rows.fnReadySpec.pre enc Tryz.prog Tryz.f3 [] false w args /\ laidMetH Tryz.prog [("errors.errorType", Rows.laid_errors_errorType)] w) /\ sizedMet enc Tryz.prog Tryz.f3 (OpenSpec.ofChange Rows.fnReadySpec) false w args)
   (Rows.fnReadySpec.post enc Tryz.prog Tryz.f3 false true false false):=by
 refine returnsInHanded_of_change_and (C := Tryz.checked) (X := fun w _ => laidMetH Tryz.prog [("errors.errorType", Rows.laid_errors_errorType)] w) (fun _ _ _ hh h => h.of_heap hh) Tryz.own started (by kernel_rfl) Tryz.func3
  (ChangeSpec.witness_at (enc := enc) (C := Tryz.checked) (os := os) (X := fun w _ => laidMetH Tryz.prog [("errors.errorType", Rows.laid_errors_errorType)] w) false (laidWorld os) #[.slice none 0 0] 8 rfl (by kernel_rfl) (by kernel_rfl) (by kernel_rfl) (by kernel_rfl) (by kernel_rfl) (laidWorld_met os _)) ?_
 intro W base args ds gs before hval0 hW _ _ hL _
 have hval:∀ (j:Nat) t v,Tryz.f3.params[j]? = some t->args[j]? = some v->Value.okWide Tryz.prog W .any base t v:=hval0
 have hW':=hW
 obtain ⟨p,q,hA0,hV,rfl,hfz,hnd⟩:=hW
 have hA:DataW.TrodAll enc Tryz.prog W 0 (fun _=>true) true Tryz.f3.params.toList args.toList ds p:=hA0
 rw [Tryz.params3] at hA hval
 obtain ⟨v0,d0,rfl,rfl,h0⟩:=trodAll_one hA
 obtain ⟨rfl,rfl⟩:=trodVars_none hV
 have lt0:∀ x ∈ p,x.block<W.heap.size:=by obtain ⟨m,hm⟩:=h0;exact DataW.trod_lt m _ _ _ hm
 have hg:=handle_of_laid hL
 clear hA0 hval0
 have hlaw:Calls Tryz.prog 3 #[v0] W fun e w'=>e=.returned (.bool true)/\Below W.heap.size W w':=by
  obtain ⟨a0,len,cap,rfl⟩:=okWide_slice Tryz.underlying22 (hval 0 22 v0 rfl rfl)
  obtain ⟨hm,hB⟩:=open_bytes h0
  by_cases hs:len<=1048576
  ·exact readyDLaw_small a0 len cap W hs hB hg
  ·exact readyDLaw_great a0 len cap W hm (by omega)
 refine hlaw.mono fun e W' ⟨he,bel⟩=>?_
 subst he
 exact ⟨_,rfl,_,_,_,[],_,[],hW',trodAll_mk1 (shut_bool Tryz.underlying4 _),trodAll_mk1 (Below.trod Tryz.laidOut (by kernel_rfl) (of_decide_eq_true (by kernel_rfl)) h0 bel lt0),rfl,bel.frame _,fun h=>by cases h⟩
theorem readyDSaid:Rows.FnReadySaid:=
 OpenClaim.holds_of_wide 3 Tryz.f3 rfl rfl rfl rfl rfl rfl rfl ⟨rfl,rfl,rfl,rfl,rfl⟩ rfl rfl rfl rfl rfl (by kernel_rfl) Tryz.func3 (by kernel_rfl)
  (of_decide_eq_true (by kernel_rfl)) (by unfold Func.isWrapper;first|(rw [if_pos (by decide +kernel)];kernel_rfl)|(rw [if_neg (by decide +kernel)];exact ⟨rfl,rfl⟩))
  (fun os started H enc _=>readyDLifted os started H enc)
theorem readyDPlain (f : FuncId) (fn : Func) (hf : Tryz.pinned.checked.prog.funcNamed "loop.example/g00196/laws.FnReady" = some f) (hfn : Tryz.pinned.checked.prog.funcs[f]? = some fn) :
  true=Tryz.pinned.checked.prog.looks []/\∀ (j:Nat) t,fn.params[j]? = some t->Tryz.pinned.checked.prog.wantsStandIn t=false:=by
 obtain rfl : f = 3 := Option.some.inj ((show Tryz.prog.funcNamed "loop.example/g00196/laws.FnReady" = some 3 by kernel_rfl).symm.trans hf) |>.symm
 obtain rfl:fn=Tryz.f3:=(Option.some.inj (Tryz.func3.symm.trans hfn)).symm
 refine ⟨by kernel_rfl,fun j t ht=>?_⟩
 rw [Tryz.params3] at ht
 have hm:=Array.mem_of_getElem? ht
 simp at hm
 obtain rfl:=hm
 exact (show Tryz.prog.wantsStandIn 22=false by kernel_rfl)
theorem readyD_card:Rows.FnReadyCardSaid:=
 Claim7.holds_tied_plain_at .later [] _ _ _ _ readyDSaid (fun _ h=>by cases h) (by kernel_rfl) (fun _ h=>by cases h) fnReady_row_tie rfl ⟨rfl,rfl⟩ (by kernel_rfl) rfl readyDPlain (by kernel_rfl)
