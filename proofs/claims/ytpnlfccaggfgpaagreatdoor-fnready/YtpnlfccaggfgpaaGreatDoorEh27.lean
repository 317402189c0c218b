import Derived.Test.YtpnlfccaggfgpaaGreatDoorEh0
import Derived.Test.YtpnlfccaggfgpaaGreatDoorEh22
import Derived.Test.YtpnlfccaggfgpaaGreatDoorEh25
import Derived.Test.YtpnlfccaggfgpaaGreatDoorEh26
import Derived.Deep.RegionHeld3
import Derived.Deep.CutRange
import Derived.Test.YtpnlfccaggfgpaaGreatDoorEh19
import Derived.Test.YtpnlfccaggfgpaaGreatDoorEh20
import Derived.Test.YtpnlfccaggfgpaaGreatDoorEh24
namespace Go.Proofs.YtpnlfccaggfgpaaGreatDoor
set_option maxRecDepth 100000
set_option maxHeartbeats 8000000
open Go.ChangeShapes Go.WideShapes Go.ChangeAt Go.RowKit Go.Deep Go.Sort
structure SysIn.One (x:SysIn) (p:Nat):Prop where
 pr:progOkB (x.pH p) (x.pL p) x.pn=true
 st:x.StP p
 pe:∀ i,i<x.hL p->(x.hH p i).q<(x.pn:Int)
def SysIn.Two (x:SysIn) (a b:Nat):Prop:=WayP (x.wH (a*x.pn+b)) (x.wL (a*x.pn+b)) (valL (x.hH b) 3 a (x.hL b)) (valL (x.hH a) 2 b (x.hL a))
theorem sy_two {x:SysIn} (hc:(1<=x.pn/\x.pn<=4)/\x.sn=x.pn/\x.hn=x.pn/\x.wn=x.pn*x.pn) (h1:∀ p,p<x.pn->x.One p) (h2:∀ a,a<x.pn->∀ b,b<x.pn->x.Two a b) (h3:x.y.hs.Row):x.y.Ok:=
 ⟨hc,fun p hp=>(h1 p hp).pr,fun p hp=>(h1 p hp).st,fun p hp=>(h1 p hp).pe,h2,h3⟩
theorem sy_one {x:SysIn} (h:x.y.Ok) {p:Nat} (hp:p<x.pn):x.One p:=⟨h.pr p hp,h.rp p hp,h.pe p hp⟩
theorem sy_way {x:SysIn} (h:x.y.Ok) {a b:Nat} (ha:a<x.pn) (hb:b<x.pn):x.Two a b:=h.wa a ha b hb
theorem specSysOk_any (x:SysIn) (w:World) (hG:SysG w x) (hL:x.Len) (hcap:∀ i,i<x.hn->x.hL i<=x.hC i):
  Calls Tryz.prog 19 #[x.v] w fun e w'=>e=.returned (.bool x.y.okB)/\Below w.heap.size w w':=by
 have HG:Hid (SysG w x):=hG
 have HL:Hid x.Len:=hL
 have HCap:Hid (∀ i,i<x.hn->x.hL i<=x.hC i):=hcap
 have hpn:(x.pn:Int)<=1048576:=by have:=hL.p.1;omega
 have hm0:0<=(x.pn:Int)*(x.pn:Int):=Int.mul_nonneg (by omega) (by omega)
 have hm1:(x.pn:Int)*(x.pn:Int)<=1099511627776:=by
  have:=Int.mul_le_mul hpn hpn (by omega) (by omega)
  omega
 have BA:Hid (Below w.heap.size w (w.alloc (oQ4 x.pa x.pn x.pc x.sa x.sn x.sc x.wa x.wn x.wc x.ha x.hn x.hc))):=zT _ _
 have NB:Hid (BoxC (w.alloc (oQ4 x.pa x.pn x.pc x.sa x.sn x.sc x.wa x.wn x.wc x.ha x.hn x.hc)) w.heap.size (.slice x.pa x.pn x.pc) (.slice x.sa x.sn x.sc) (.slice x.wa x.wn x.wc) (.slice x.ha x.hn x.hc)):=BoxC.new w _ _ _ _ _
 clear hG hL hcap
 by_cases hc:(1<=x.pn/\x.pn<=4)/\x.sn=x.pn/\x.hn=x.pn/\x.wn=x.pn*x.pn
 case neg=>
  have HN:Hid (x.y.okB=false):=Sy.okB_false fun h=>hc h.cn
  rcases zK (inB x.pn 1 4) with t1 | t1
  case inr=>
   clear hc
   go_enter Tryz.func19,Tryz.ntmps19
   go_wp2_with fail
   refine (l1In_any _ _ _ _).mono ?_
   rintro e w1 ⟨rfl,rfl⟩
   rw [t1]
   go_wp2
   go_ret
   rw [HN.out]
   exact ⟨rfl,BA.out⟩
  rcases zK ((x.sn:Int) != (x.pn:Int)) with t2 | t2
  case inl=>
   clear hc
   go_enter Tryz.func19,Tryz.ntmps19
   go_wp2_with fail
   refine (l1In_any _ _ _ _).mono ?_
   rintro e w1 ⟨rfl,rfl⟩
   rw [t1]
   go_wp2
   go_ret
   rw [HN.out]
   exact ⟨rfl,BA.out⟩
  rcases zK ((x.hn:Int) != (x.pn:Int)) with t3 | t3
  case inl=>
   clear hc
   go_enter Tryz.func19,Tryz.ntmps19
   go_wp2_with fail
   refine (l1In_any _ _ _ _).mono ?_
   rintro e w1 ⟨rfl,rfl⟩
   rw [t1]
   go_wp2
   go_ret
   rw [HN.out]
   exact ⟨rfl,BA.out⟩
  have t4:((x.wn:Int) != (x.pn:Int)*(x.pn:Int))=true:=by
   have t1':1<=(x.pn:Int)/\(x.pn:Int)<=4:=by simpa [inB] using t1
   have t2':(x.sn:Int)=x.pn:=by simpa using t2
   have t3':(x.hn:Int)=x.pn:=by simpa using t3
   have : ¬ (x.wn : Int) = (x.pn : Int) * (x.pn : Int) := fun e => hc ⟨⟨by omega, by omega⟩, by omega, by omega, by
    have:((x.wn:Nat):Int)=((x.pn*x.pn:Nat):Int):=by rw [e,Int.natCast_mul]
    omega⟩
   simpa using this
  clear hc
  go_enter Tryz.func19,Tryz.ntmps19
  go_wp2_with fail
  refine (l1In_any _ _ _ _).mono ?_
  rintro e w1 ⟨rfl,rfl⟩
  rw [t1]
  go_wp2
  go_ret
  rw [HN.out]
  exact ⟨rfl,BA.out⟩
 have t1:inB x.pn 1 4=true:=by simp [inB];omega
 have t2:((x.sn:Int) != (x.pn:Int))=false:=by simp [hc.2.1]
 have t3:((x.hn:Int) != (x.pn:Int))=false:=by simp [hc.2.2.1]
 have t4:((x.wn:Int) != (x.pn:Int)*(x.pn:Int))=false:=by rw [hc.2.2.2,Int.natCast_mul];simp
 have hp4:(x.pn:Int)<=4:=by omega
 have HC:Hid ((1<=x.pn/\x.pn<=4)/\x.sn=x.pn/\x.hn=x.pn/\x.wn=x.pn*x.pn):=hc
 clear hc
 go_enter Tryz.func19,Tryz.ntmps19
 go_wp2_with fail
 refine (l1In_any _ _ _ _).mono ?_
 rintro e w1 ⟨rfl,rfl⟩
 rw [t1]
 go_wp2_with fail
 clear hm0 hm1 t1 t2 t3 t4 hpn
 generalize w.alloc (oQ4 x.pa x.pn x.pc x.sa x.sn x.sc x.wa x.wn x.wc x.ha x.hn x.hc)=wb at *
 go_loopw [4] (fun i wr=>∃ k:Nat,k<=x.pn/\i=.int .i64 k/\Hid (Below wb.heap.size wb wr/\∀ j,j<k->x.One j)) (fun i _=>x.pn - (intOf i).toNat)
 case atStart=>exact ⟨0,Nat.zero_le _,rfl,Below.refl _ _,fun j hj=>by omega⟩
 case round=>
  obtain ⟨k,hk,rfl,HZ⟩:=hrel
  have hbw:Below w.heap.size w wr:=BA.out.trans (HZ.out.1.mono BA.out.size)
  have HBW:Hid (Below w.heap.size w wr):=hbw
  obtain ⟨b0,b1,b2,b3⟩:=NB.out.below HZ.out.1
  by_cases hlt:k<x.pn
  ·have hlt':(k:Int)<(x.pn:Int):=by omega
   obtain ⟨bp,op,ep,ck⟩:=(HG.out.below hbw).p.at hlt
   obtain ⟨b,eb,hbl,hI⟩:=(HG.out.below hbw).pi k hlt
   rw [eb] at ck
   rw [ep] at b0
   have HI:Hid (InsAt wr b 0 (x.pL k) (x.pH k)):=hI
   have HM:Hid (x.pL k<=maxLen):=by
    show x.pL k<=maxLen
    have:=HL.out.p.2 k hlt
    unfold maxLen
    omega
   clear hI hbw
   go_wp2_with fail
   refine (specProgOk_any b 0 (x.pL k) _ (x.pH k) x.pn wr HM.out hbl HI.out).mono ?_
   rintro e w2 ⟨rfl,c2⟩
   have HZ2:Hid (Below wb.heap.size wb w2/\∀ j,j<k->x.One j):=⟨HZ.out.1.trans (c2.mono HZ.out.1.size),HZ.out.2⟩
   have HB2:Hid (Below w.heap.size w w2):=HBW.out.trans (c2.mono HBW.out.size)
   clear b0 b1 b2 b3 ck c2 HZ HBW HI hbl
   rcases zK (progOkB (x.pH k) (x.pL k) x.pn) with tp | tp
   case inr=>
    have HN:Hid (x.y.okB=false):=Sy.okB_false fun h=>by
     have:=(sy_one h hlt).pr
     rw [tp] at this
     cases this
    rw [tp]
    go_wp2
    go_ret
    rw [HN.out]
    exact ⟨rfl,HB2.out⟩
   have TP:Hid (progOkB (x.pH k) (x.pL k) x.pn=true):=tp
   rw [tp]
   clear tp
   have hkh:k<x.hn:=by have:=HC.out;omega
   have hks:k<x.sn:=by have:=HC.out;omega
   have hkh':(k:Int)<(x.hn:Int):=by omega
   have hks':(k:Int)<(x.sn:Int):=by omega
   obtain ⟨b0,b1,b2,b3⟩:=NB.out.below HZ2.out.1
   obtain ⟨bp',op',ep',ck⟩:=(HG.out.below HB2.out).p.at hlt
   obtain ⟨b',eb',hbl,hI⟩:=(HG.out.below HB2.out).pi k hlt
   obtain ⟨bh,oh,eh,ch⟩:=(HG.out.below HB2.out).h.at hkh
   rw [eb'] at ck
   rw [ep'] at b0
   rw [eh] at b3
   have HI:Hid (∀ wx,Below w2.heap.size w2 wx->b'<wx.heap.size/\InsAt wx b' 0 (x.pL k) (x.pH k)):=fun wx hb=>⟨zL hbl hb.size,hI.below hb hbl⟩
   have HE:Hid (EvL w2 (x.hA k) (x.hL k) (x.hH k)):=(HG.out.below HB2.out).hi k hkh
   have HLk:Hid (x.hL k<=1048576):=HL.out.h.2 k hkh
   generalize hR:resS (repO (x.pH k) (x.pL k) (x.hH k) (x.hL k))=R
   generalize hT:(repO (x.pH k) (x.pL k) (x.hH k) (x.hL k)).isSome=T
   have HO:Hid (resS (repO (x.pH k) (x.pL k) (x.hH k) (x.hL k))=R/\(repO (x.pH k) (x.pL k) (x.hH k) (x.hL k)).isSome=T):=⟨hR,hT⟩
   have hRl:=repO_len (x.pH k) (x.pL k) (x.hH k) (x.hL k)
   rw [hR] at hRl
   have HRL:Hid (R.rs.length<=1048576/\R.os.length<=1048576):=hRl
   have d1:w2.heap.size≠w.heap.size:=by have:=zJ w2 _ b0;simp at this;omega
   have d2:w2.heap.size≠bp':=by have:=zJ w2 _ ck;simp at this;omega
   have d3:w2.heap.size≠bh:=by have:=zJ w2 _ ch;simp at this;omega
   clear hI hR hT hRl ep' eb' eh ep eb hbl
   go_wp2_with fail
   go_cut [5,6] from 55 to 68 (fun s t wx=>∃ M:Nat,s=.pointer (some ⟨M,0,none⟩)/\t=.bool T/\Hid (Below w2.heap.size w2 wx/\Told wx w2.heap.size M R))
   case first=>
    go_region_held3 (fun w'=>w'.cell? ⟨w.heap.size,0,none⟩=some (.slice (some ⟨bp',op',none⟩) x.pn x.pc)/\w'.cell? ⟨w.heap.size,3,none⟩=some (.slice (some ⟨bh,oh,none⟩) x.hn x.hc)/\w'.cell? ⟨bp',op'+k,none⟩=some (.slice (some ⟨b',0,none⟩) (x.pL k) (x.pC k))/\w'.cell? ⟨bh,oh+k,none⟩=some (.slice (x.hA k) (x.hL k) (x.hC k))) (go_keep)
     (first
      | (go_at_call 39;refine (specReplay_l b' (x.pL k) _ (x.hA k) (x.hL k) _ (x.pH k) (x.hH k) _ HM.out (HI.out _ (by go_grown)).1 (HI.out _ (by go_grown)).2 (HE.out.below (by go_grown)) HLk.out).mono ?_;rintro e w5 hd;rw [HO.out.1,HO.out.2] at hd;obtain ⟨v5,rfl,o5,b5⟩:=hd;obtain ⟨ra5,rc5,oa5,oc5,rfl,-,-⟩:=o5.read;have q5:Below w2.heap.size w2 w5:=below_up (by go_grown) b5 (by simp);(try simp only [World.size_alloc,World.size_drew] at o5);have O5:Hid (StOwn w5 _ (stV R.p ra5 R.rs.length rc5 oa5 R.os.length oc5 R.c) R.p R.rs R.os R.c):=o5;obtain ⟨hc5,hf5⟩:=bcell b5;have z5:=b5.size;(try simp only [World.size_alloc,World.size_drew,Nat.add_one_le_iff] at z5);have j5:w2.heap.size<=w5.heap.size:=q5.size;have Q5:Hid (Below w2.heap.size w2 w5):=q5;have y0:=(q5.cell (p:=⟨w.heap.size,0,none⟩) (zJ w2 _ b0)).trans b0;have y3:=(q5.cell (p:=⟨w.heap.size,3,none⟩) (zJ w2 _ b3)).trans b3;have yk:=(q5.cell (p:=⟨bp',op'+k,none⟩) (zJ w2 _ ck)).trans ck;have yh:=(q5.cell (p:=⟨bh,oh+k,none⟩) (zJ w2 _ ch)).trans ch;clear o5 b5 q5))
    all_goals
     go_wp2_with fail
     go_meet
     case rel=>
      first
      | (refine ⟨w5.heap.size, by with_reducible rfl, rfl, ?_⟩
         exact ⟨Q5.out.trans ((zT _ _).mono j5),Told.of_alloc O5.out (by omega) (by omega) _⟩)
      | (refine ⟨w2.heap.size, by with_reducible rfl, rfl, ?_⟩
         exact ⟨(((Q5.out.setCell (Nat.le_refl _) _).setCell (Nat.le_refl _) _).setCell (Nat.le_refl _) _).setCell (Nat.le_refl _) _,Told.of_put (z0:=.int .i64 0) (z1:=.slice none 0 0) (z2:=.slice none 0 0) (z3:=.int .i64 0) O5.out (by omega) (by omega) (by omega) ⟨by rw [hc5 _ _ (by simp)];simp,by rw [hc5 _ _ (by simp)];simp,by rw [hc5 _ _ (by simp)];simp,by rw [hc5 _ _ (by simp)];simp⟩⟩)
   case rest=>
    obtain ⟨M,rfl,rfl,HMt⟩:=hcut
    obtain ⟨ra,rc,oa,oc,TG⟩:=HMt.out.2.tl
    have HZ3:Hid (Below wb.heap.size wb wc/\∀ j,j<k->x.One j):=⟨HZ2.out.1.trans (HMt.out.1.mono HZ2.out.1.size),HZ2.out.2⟩
    have HB3:Hid (Below w.heap.size w wc):=HB2.out.trans (HMt.out.1.mono HB2.out.size)
    have HS3:Hid (Sl wc ra R.rs/\Sl wc oa R.os):=TG.sl
    have HBX:Hid (BoxC wc M (.int .i64 R.p) (.slice ra R.rs.length rc) (.slice oa R.os.length oc) (.int .i64 R.c)):=TG.box
    clear b0 b1 b2 b3 ck ch d1 d2 d3 HI HE HLk HM HZ2 HB2 HMt TG
    rcases zK T with rfl | rfl
    case inr=>
     have HN:Hid (x.y.okB=false):=Sy.okB_false fun h=>by
      have h1:repO (x.pH k) (x.pL k) (x.hH k) (x.hL k)=some (x.sS k):=(sy_one h hlt).st
      have h2:=HO.out.2
      rw [h1] at h2
      cases h2
     go_wp2_with fail
     go_quiet (fail)
     go_wp2
     go_ret
     rw [HN.out]
     exact ⟨rfl,yC HB3.out _⟩
    case inl=>
     have HP:Hid (eqS R (x.sS k)=true ↔ x.StP k):=by
      show eqS R (x.sS k)=true ↔ x.StP k
      rw [eqS_iff]
      unfold SysIn.StP
      cases hr:repO (x.pH k) (x.pL k) (x.hH k) (x.hL k) with
      | none=>have:=HO.out.2;rw [hr] at this;cases this
      | some S0=>
       have:=HO.out.1
       rw [hr] at this
       rw [show S0=R from this]
       exact ⟨fun e=>by rw [e],fun e=>Option.some.inj e⟩
     obtain ⟨k0,k1,k2,k3⟩:=HBX.out
     obtain ⟨-,x1,-,-⟩:=NB.out.below HZ3.out.1
     obtain ⟨bs,os,es,s0,s1,s2,s3⟩:=(HG.out.below HB3.out).s.at hks
     rw [es] at x1
     have HST:Hid (Sl wc (x.sQ k).ra (x.sQ k).rs/\Sl wc (x.sQ k).oa (x.sQ k).os):=(HG.out.below HB3.out).s.lst k hks
     have HSL:Hid ((x.sQ k).rs.length<=1048576/\(x.sQ k).os.length<=1048576):=HL.out.s.2 k hks
     have k0':=cell_regrown k0
     have k1':=cell_regrown k1
     have k2':=cell_regrown k2
     have k3':=cell_regrown k3
     have x1':=cell_regrown x1
     have s0':=cell_regrown s0
     have s1':=cell_regrown s1
     have s2':=cell_regrown s2
     have s3':=cell_regrown s3
     clear es
     have HCs:Hid (∀ d os',Calls Tryz.prog 40 #[stV R.p ra R.rs.length rc oa R.os.length oc R.c,stV (x.sQ k).p (x.sQ k).ra (x.sQ k).rs.length (x.sQ k).rc (x.sQ k).oa (x.sQ k).os.length (x.sQ k).oc (x.sQ k).c] (grow (redrawn wc d) os') fun e w'=>e=.returned (.bool (eqS R (x.sS k)))/\Below (grow (redrawn wc d) os').heap.size (grow (redrawn wc d) os') w'):=fun d os'=>
      specSameState_any R (x.sS k) _ _ _ _ _ _ _ _ _ HRL.out.1 HRL.out.2 HSL.out.1 HSL.out.2 (HS3.out.1.below (below_regrown wc d os')) (HS3.out.2.below (below_regrown wc d os')) (HST.out.1.below (below_regrown wc d os')) (HST.out.2.below (below_regrown wc d os'))
     go_wp2_with fail
     refine wp_region_quiet_below (by kernel_rfl) (by kernel_rfl) ?_
     repeat (quiet_step (first|(go_at_call 40;exact Calls.regrown_of (HCs.out _ _))))
     refine wpQuiet_nil ?_
     intro _ hw'
     obtain ⟨⟨dq,osq⟩,hw''⟩:=hw'
     subst hw''
     have HZ4:Hid (Below wb.heap.size wb (grow (redrawn wc dq) osq)/\∀ j,j<k->x.One j):=⟨HZ3.out.1.trans ((below_regrown wc dq osq).mono HZ3.out.1.size),HZ3.out.2⟩
     have HB4:Hid (Below w.heap.size w (grow (redrawn wc dq) osq)):=HB3.out.trans ((below_regrown wc dq osq).mono HB3.out.size)
     generalize grow (redrawn wc dq) osq=w4 at *
     clear k0' k1' k2' k3' x1' s0' s1' s2' s3' k0 k1 k2 k3 x1 s0 s1 s2 s3 HCs HZ3 HB3 HS3 HBX HST HSL
     rcases zK (eqS R (x.sS k)) with t | t
     case inr=>
      have HN:Hid (x.y.okB=false):=Sy.okB_false fun h=>by
       have:=HP.out.2 (sy_one h hlt).st
       rw [t] at this
       cases this
      rw [t]
      clear t
      go_wp2
      go_ret
      rw [HN.out]
      exact ⟨rfl,HB4.out⟩
     have HSt:Hid (x.StP k):=HP.out.1 t
     rw [t]
     clear t
     have hll:(x.hL k:Int)<=1048576:=by have:=HL.out.h.2 k hkh;omega
     go_wp2_with fail
     go_loopw [7] (fun i wr=>∃ j:Nat,j<=x.hL k/\i=.int .i64 j/\Hid (Below wb.heap.size wb wr/\∀ i,i<j->(x.hH k i).q<(x.pn:Int))) (fun i _=>x.hL k - (intOf i).toNat)
     case atStart=>exact ⟨0,Nat.zero_le _,rfl,HZ4.out.1,fun j hj=>by omega⟩
     case round=>
      obtain ⟨j,hj,rfl,HY⟩:=hrel
      have HBj:Hid (Below w.heap.size w wr):=BA.out.trans (HY.out.1.mono BA.out.size)
      obtain ⟨-,-,-,b3⟩:=NB.out.below HY.out.1
      obtain ⟨bh,oh,eh,ch⟩:=(HG.out.below HBj.out).h.at hkh
      rw [eh] at b3
      clear eh
      by_cases hjl:j<x.hL k
      ·have hjl':(j:Int)<(x.hL k:Int):=by omega
       obtain ⟨be,oe,ea,-,c0,c1,c2⟩:=((HG.out.below HBj.out).hi k hkh).at hjl
       rw [ea] at ch
       by_cases hq:(x.hH k j).q<(x.pn:Int)
       ·have hq':¬ (x.pn:Int)<=(x.hH k j).q:=by omega
        have HY' : Hid (Below wb.heap.size wb wr ∧ ∀ i, i < j + 1 → (x.hH k i).q < (x.pn : Int)) := ⟨HY.out.1, fun i hi => by
         by_cases e:i=j
         ·subst e
          exact hq
         ·exact HY.out.2 i (by omega)⟩
        clear HY ea
        go_wp2
        go_roundw
        case rel=>exact ⟨j+1,by omega,by go_num,HY'.out⟩
        case measure=>simp [intOf];omega
       ·have hq':(x.pn:Int)<=(x.hH k j).q:=by omega
        have HN:Hid (x.y.okB=false):=Sy.okB_false fun h=>hq ((sy_one h hlt).pe j hjl)
        clear HY ea
        go_wp2
        go_ret
        rw [HN.out]
        exact ⟨rfl,HBj.out⟩
      ·have HZ5 : Hid (Below wb.heap.size wb wr ∧ ∀ p, p < k + 1 → x.One p) := ⟨HY.out.1, fun p hp => by
        by_cases e:p=k
        ·subst e
         exact ⟨TP.out,HSt.out,fun i hi=>HY.out.2 i (by omega)⟩
        ·exact HZ4.out.2 p (by omega)⟩
       have hjl':¬ (j:Int)<(x.hL k:Int):=by omega
       clear HY
       go_wp2
       go_roundw
       case rel=>exact ⟨k+1,by omega,by go_num,HZ5.out⟩
       case measure=>simp [intOf];omega
  ·have HOne:Hid (∀ p,p<x.pn->x.One p):=fun p hp=>HZ.out.2 p (by omega)
   have hkn:¬ (k:Int)<(x.pn:Int):=by omega
   have HW0:Hid (Below wb.heap.size wb wr):=HZ.out.1
   clear HZ b0 b1 b2 b3 hbw HBW
   go_wp2_with fail
   go_loopw [8] (fun i wr=>∃ a:Nat,a<=x.pn/\i=.int .i64 a/\Hid (Below wb.heap.size wb wr/\∀ a',a'<a->∀ b,b<x.pn->x.Two a' b)) (fun i _=>x.pn - (intOf i).toNat)
   case atStart=>exact ⟨0,Nat.zero_le _,rfl,HW0.out,fun j hj=>by omega⟩
   case round=>
    clear HW0
    obtain ⟨a,ha,rfl,HX⟩:=hrel
    by_cases hal:a<x.pn
    ·have hal':(a:Int)<(x.pn:Int):=by omega
     go_wp2_with fail
     go_loopw [9] (fun i wr=>∃ b:Nat,b<=x.pn/\i=.int .i64 b/\Hid (Below wb.heap.size wb wr/\∀ b',b'<b->x.Two a b')) (fun i _=>x.pn - (intOf i).toNat)
     case atStart=>exact ⟨0,Nat.zero_le _,rfl,HX.out.1,fun j hj=>by omega⟩
     case round=>
      obtain ⟨b,hb,rfl,HYb⟩:=hrel
      by_cases hbl:b<x.pn
      ·have hbl':(b:Int)<(x.pn:Int):=by omega
       have hbh:b<x.hn:=by have:=HC.out;omega
       have hah:a<x.hn:=by have:=HC.out;omega
       have hbh':(b:Int)<(x.hn:Int):=by omega
       have hah':(a:Int)<(x.hn:Int):=by omega
       have HBb:Hid (Below w.heap.size w wr):=BA.out.trans (HYb.out.1.mono BA.out.size)
       have HLb:Hid (x.hL b<=1048576/\x.hL a<=1048576):=⟨HL.out.h.2 b hbh,HL.out.h.2 a hah⟩
       obtain ⟨-,-,-,b3⟩:=NB.out.below HYb.out.1
       obtain ⟨bh,oh,eh,ch⟩:=(HG.out.below HBb.out).h.at hbh
       rw [eh] at b3
       clear eh
       go_wp2_with fail
       refine (specValues_l (x.hA b) (x.hL b) _ (x.hH b) 3 a wr HLb.out.1 ((HG.out.below HBb.out).hi b hbh)).mono ?_
       rintro e w5 ⟨v5,rfl,o5,c5⟩
       obtain ⟨ta,tc,rfl,s5⟩:=o5.form
       have HY5:Hid (Below wb.heap.size wb w5/\∀ b',b'<b->x.Two a b'):=⟨HYb.out.1.trans (c5.mono HYb.out.1.size),HYb.out.2⟩
       have HB5:Hid (Below w.heap.size w w5):=HBb.out.trans (c5.mono HBb.out.size)
       have S5:Hid (Sl w5 ta (valL (x.hH b) 3 a (x.hL b))):=s5
       clear o5 c5 s5 b3 ch HYb HBb
       obtain ⟨-,-,-,b3⟩:=NB.out.below HY5.out.1
       obtain ⟨bh',oh',eh',ch'⟩:=(HG.out.below HB5.out).h.at hah
       rw [eh'] at b3
       clear eh'
       go_wp2_with fail
       refine (specValues_l (x.hA a) (x.hL a) _ (x.hH a) 2 b w5 HLb.out.2 ((HG.out.below HB5.out).hi a hah)).mono ?_
       rintro e w6 ⟨v6,rfl,o6,c6⟩
       obtain ⟨sa,sc,rfl,s6⟩:=o6.form
       have HY6:Hid (Below wb.heap.size wb w6/\∀ b',b'<b->x.Two a b'):=⟨HY5.out.1.trans (c6.mono HY5.out.1.size),HY5.out.2⟩
       have HB6:Hid (Below w.heap.size w w6):=HB5.out.trans (c6.mono HB5.out.size)
       have S6:Hid (Sl w6 ta (valL (x.hH b) 3 a (x.hL b))/\Sl w6 sa (valL (x.hH a) 2 b (x.hL a))):=⟨S5.out.below c6,s6⟩
       have hJl:a*x.pn+b<x.wn:=by
        rw [HC.out.2.2.2]
        have:(a+1)*x.pn<=x.pn*x.pn:=Nat.mul_le_mul_right _ (by omega)
        rw [Nat.add_mul] at this
        omega
       have hJe:(a:Int)*(x.pn:Int)+(b:Int)=((a*x.pn+b:Nat):Int):=by rw [Int.natCast_add,Int.natCast_mul]
       have hm0:0<=(a:Int)*(x.pn:Int):=Int.mul_nonneg (by omega) (by omega)
       have hm1:(a:Int)*(x.pn:Int)<=16:=by
        have:=Int.mul_le_mul (show (a:Int)<=4 by omega) hp4 (by omega) (by omega)
        omega
       have HT2:Hid ((LWay (x.wH (a*x.pn+b)) (x.wL (a*x.pn+b)) (valL (x.hH a) 2 b (x.hL a)) (valL (x.hH b) 3 a (x.hL b)).length/\∀ i,i<(valL (x.hH b) 3 a (x.hL b)).length->zi (valL (x.hH b) 3 a (x.hL b)) i=zi (valL (x.hH a) 2 b (x.hL a)) i) ↔ x.Two a b):=LWay.iff
       have htl:(valL (x.hH b) 3 a (x.hL b)).length<=1048576:=zP (valL_le ..) HLb.out.1
       have hsl:(valL (x.hH a) 2 b (x.hL a)).length<=1048576:=zP (valL_le ..) HLb.out.2
       have htl':((valL (x.hH b) 3 a (x.hL b)).length:Int)<=1048576:=by omega
       generalize hJ:a*x.pn+b=J at *
       have hJl':(J:Int)<(x.wn:Int):=by omega
       generalize valL (x.hH b) 3 a (x.hL b)=took at *
       generalize valL (x.hH a) 2 b (x.hL a)=sent at *
       have HIt:Hid (ItL w6 (x.wA J) (x.wL J) (x.wH J)):=(HG.out.below HB6.out).wi J hJl
       have HLJ:Hid (x.wL J<=1048576):=HL.out.w.2 J hJl
       clear o6 c6 s6 b3 ch' HY5 HB5 S5 hJ
       obtain ⟨-,-,b2,-⟩:=NB.out.below HY6.out.1
       obtain ⟨bw,ow,ew,cw⟩:=(HG.out.below HB6.out).w.at hJl
       rw [ew] at b2
       clear ew
       go_wp2_with fail
       refine (l4Way_any (x.wA J) (x.wL J) _ (x.wH J) sa sc sent took.length w6 HLJ.out HIt.out hsl S6.out.2 htl).mono ?_
       rintro e w7 ⟨rfl,c7⟩
       have HY7:Hid (Below wb.heap.size wb w7/\∀ b',b'<b->x.Two a b'):=⟨HY6.out.1.trans (c7.mono HY6.out.1.size),HY6.out.2⟩
       have HB7:Hid (Below w.heap.size w w7):=HB6.out.trans (c7.mono HB6.out.size)
       have S7:Hid (Sl w7 ta took/\Sl w7 sa sent):=⟨S6.out.1.below c7,S6.out.2.below c7⟩
       clear c7 b2 cw HY6 HB6 S6 hm0 hm1 hJe
       by_cases hlw:LWay (x.wH J) (x.wL J) sent took.length
       case neg=>
        have HN:Hid (x.y.okB=false):=Sy.okB_false fun h=>hlw (HT2.out.2 (sy_way h hal hbl)).1
        rw [pB_false hlw]
        clear hlw
        go_wp2
        go_ret
        rw [HN.out]
        exact ⟨rfl,HB7.out⟩
       have HLW:Hid (LWay (x.wH J) (x.wL J) sent took.length):=hlw
       rw [pB_true hlw]
       clear hlw
       go_wp2_with fail
       go_loopw [12] (fun i wr=>∃ j:Nat,j<=took.length/\i=.int .i64 j/\Hid (Below w7.heap.size w7 wr/\∀ i,i<j->zi took i=zi sent i)) (fun i _=>took.length - (intOf i).toNat)
       case atStart=>exact ⟨0,Nat.zero_le _,rfl,Below.refl _ _,fun j hj=>by omega⟩
       case round=>
        obtain ⟨j,hj,rfl,HQ⟩:=hrel
        have HBq:Hid (Below w.heap.size w wr/\Below wb.heap.size wb wr):=⟨HB7.out.trans (HQ.out.1.mono HB7.out.size),HY7.out.1.trans (HQ.out.1.mono HY7.out.1.size)⟩
        by_cases hjl:j<took.length
        ·have hjs:j<sent.length:=by have:=HLW.out.ln;omega
         obtain ⟨bq,oq,rfl,zq,cq⟩:=(S7.out.1.below HQ.out.1).at hjl
         obtain ⟨br,or',rfl,zr,cr⟩:=(S7.out.2.below HQ.out.1).at hjs
         have hjl':(j:Int)<(took.length:Int):=by omega
         have hjs':(j:Int)<(sent.length:Int):=by omega
         rcases zK (zi took j != zi sent j) with t6 | t6
         ·have HN:Hid (x.y.okB=false):=Sy.okB_false fun h=>by
           have:=(HT2.out.2 (sy_way h hal hbl)).2 j hjl
           rw [this] at t6
           simp at t6
          clear HQ
          go_wp2_with fail
          go_quiet (fail)
          go_wp2
          go_ret
          rw [HN.out]
          exact ⟨rfl,yC HBq.out.1 _⟩
         ·have HQ' : ∀ nq, Hid (Below w7.heap.size w7 (wr.drewN nq) ∧ ∀ i, i < j + 1 → zi took i = zi sent i) := fun nq => ⟨yC HQ.out.1 _, fun i hi => by
           by_cases e:i=j
           ·subst e
            simpa using t6
           ·exact HQ.out.2 i (by omega)⟩
          have HQQ:Hid (∀ nq,Hid (Below w7.heap.size w7 (wr.drewN nq)/\∀ i,i<j+1->zi took i=zi sent i)):=HQ'
          clear HQ HQ'
          go_wp2_with fail
          go_quiet (fail)
          go_wp2
          go_roundw
          case rel=>exact ⟨j+1,by omega,by go_num,HQQ.out _⟩
          case measure=>simp [intOf];omega
        ·have hjl':¬ (j:Int)<(took.length:Int):=by omega
         have HYn : Hid (Below wb.heap.size wb wr ∧ ∀ b', b' < b + 1 → x.Two a b') := ⟨HBq.out.2, fun b' hb' => by
          by_cases e:b'=b
          ·subst e
           exact HT2.out.1 ⟨HLW.out,fun i hi=>HQ.out.2 i (by omega)⟩
          ·exact HY7.out.2 b' (by omega)⟩
         clear HQ
         go_wp2
         go_roundw
         case rel=>exact ⟨b+1,by omega,by go_num,HYn.out⟩
         case measure=>simp [intOf];omega
      ·have HX' : Hid (Below wb.heap.size wb wr ∧ ∀ a', a' < a + 1 → ∀ b, b < x.pn → x.Two a' b) := ⟨HYb.out.1, fun a' ha' b' hb' => by
        by_cases e:a'=a
        ·subst e
         exact HYb.out.2 b' (by omega)
        ·exact HX.out.2 a' (by omega) b' hb'⟩
       have hbl':¬ (b:Int)<(x.pn:Int):=by omega
       clear HYb HX
       go_wp2
       go_roundw
       case rel=>exact ⟨a+1,by omega,by go_num,HX'.out⟩
       case measure=>simp [intOf];omega
    ·have HTwo:Hid (∀ a,a<x.pn->∀ b,b<x.pn->x.Two a b):=fun a' ha' b hb=>HX.out.2 a' (by omega) b hb
     have hal':¬ (a:Int)<(x.pn:Int):=by omega
     have HBf:Hid (Below w.heap.size w wr):=BA.out.trans (HX.out.1.mono BA.out.size)
     obtain ⟨b0,b1,b2,b3⟩:=NB.out.below HX.out.1
     have HPe:Hid x.y.hs.Peers:=fun p hp i hi=>⟨rp_peer (repO_some (HOne.out p hp).st).2.2 i hi,(HOne.out p hp).pe i hi⟩
     have e4:x.hn=x.pn:=HC.out.2.2.1
     have H2:Hid (∀ i,i<x.y.hs.n->x.y.hs.l i<=200):=fun p hp=>(repO_some (HOne.out p hp).st).2.1
     have HCp:Hid (∀ i,i<x.y.hs.n->x.y.hs.l i<=x.hC i):=fun p hp=>HCap.out p (by rw [e4];exact hp)
     have HHE:Hid (HisE wr x.ha x.hA x.hC x.y.hs):=(HG.out.below HBf.out).his e4
     have HE4:Hid (x.hn=x.pn):=e4
     clear HX e4
     rw [HE4.out] at b3
     go_wp2_with fail
     refine (l4Order_any x.pa x.pn x.pc x.sa x.sn x.sc x.wa x.wn x.wc x.ha x.hc x.hA x.hC x.y.hs wr HHE.out HCp.out HC.out.1.1 HC.out.1.2 HPe.out H2.out).mono ?_
     rintro e w9 ⟨rfl,b9⟩
     have HN:Hid (qB x.y.hs.Row=x.y.okB):=by
      show qB x.y.hs.Row=x.y.okB
      by_cases hr:x.y.hs.Row
      ·rw [qB_true hr,Sy.okB_true (sy_two HC.out HOne.out HTwo.out hr)]
      ·rw [qB_false hr,Sy.okB_false fun h=>hr h.ro]
     have B9:Hid (Below w.heap.size w w9):=HBf.out.trans (b9.mono HBf.out.size)
     rw [HN.out]
     clear b9 HN b0 b1 b2 b3
     go_wp2
     go_ret
     exact ⟨rfl,B9.out⟩
noncomputable def nwN (n:Nat) (L:Nat->Nat) (H:Nat->Nat->I5):Nat:=if snB n L H=true then n else 0
def NwR (w:World) (n:Nat) (L:Nat->Nat) (H:Nat->Nat->I5) (e:Ending) (w':World):Prop:=∃ pa pc sa sc wa wc ha hc,e=.returned (.tuple #[sysV pa (nwN n L H) pc sa (nwN n L H) sc wa (nwN n L H*nwN n L H) wc ha (nwN n L H) hc,.bool (snB n L H)])/\Own1 w' w.heap.size w'.heap.size (nwN n L H) L H (.slice pa (nwN n L H) pc) (.slice sa (nwN n L H) sc) (.slice wa (nwN n L H*nwN n L H) wc) (.slice ha (nwN n L H) hc)/\Below w.heap.size w w'
theorem NwR.yes {w w':World} {n:Nat} {L:Nat->Nat} {H:Nat->Nat->I5} {pa sa wa ha:Option Addr} {pc sc wc hc:Nat} (h:snB n L H=true) (o:Own1 w' w.heap.size w'.heap.size n L H (.slice pa n pc) (.slice sa n sc) (.slice wa (n*n) wc) (.slice ha n hc)) (b:Below w.heap.size w w'):NwR w n L H (.returned (.tuple #[sysV pa n pc sa n sc wa (n*n) wc ha n hc,.bool true])) w':=by
 have e:nwN n L H=n:=if_pos h
 refine ⟨pa,pc,sa,sc,wa,wc,ha,hc,?_,?_,b⟩
 ·rw [e,h]
 ·rw [e]
  exact o
theorem NwR.no {w w':World} {n:Nat} {L:Nat->Nat} {H:Nat->Nat->I5} (h:snB n L H=false) (b:Below w.heap.size w w'):NwR w n L H (.returned (.tuple #[sysV none 0 0 none 0 0 none 0 0 none 0 0,.bool false])) w':=by
 have e:nwN n L H=0:=if_neg (by rw [h];decide)
 refine ⟨none,0,none,0,none,0,none,0,?_,?_,b⟩
 ·rw [e,h]
 ·rw [e]
  exact Own1.zero _ _ _ _ _
theorem specSysNew_any (pa:Option Addr) (n pc:Nat) (A:Nat->Option Addr) (L C:Nat->Nat) (H:Nat->Nat->I5) (w:World) (hn:n<=1048576) (hL:∀ i,i<n->L i<=1048576) (hr:RowS w pa n fun i=>.slice (A i) (L i) (C i)) (hI:∀ i,i<n->Src w (A i) (fI (H i) (L i))):
  Calls Tryz.prog 139 #[.slice pa n pc] w (NwR w n L H):=by
 have hn':(n:Int)<=1048576:=by omega
 have HP:Hid (∀ wx,Below w.heap.size w wx->Calls Tryz.prog 86 #[.slice pa n pc] wx fun e w'=>∃ v u,e=.returned v/\LI true w' (fun k=>wx.heap.size<=k/\k<w'.heap.size) v n u L H/\Below wx.heap.size wx w'):=fun wx hb=>l4Ins_any pa n pc A L C H wx hn hL (hr.below hb) fun i hi=>(hI i hi).below hb
 have HL:Hid (∀ i,i<n->L i<=1048576):=hL
 have BW:Hid (Below w.heap.size w (w.alloc (zQ3))):=zQ _ _
 have RB:Hid (BoxC (w.alloc (zQ3)) w.heap.size (.slice none 0 0) (.slice none 0 0) (.slice none 0 0) (.slice none 0 0)/\∀ j,(w.alloc (zQ3)).frozen? ⟨w.heap.size,j,none⟩=false):=⟨BoxC.new w _ _ _ _ _,fun j=>yB _ _ _ _ rfl⟩
 have hM:w.heap.size<=w.heap.size:=Nat.le_refl _
 clear hL hr hI
 by_cases h4:n<=4
 case neg=>
  have h4':(4:Int)<(n:Int):=by omega
  have HV:Hid (snB n L H=false):=by
   show snB n L H=false
   rw [snB,decide_eq_false h4]
   rfl
  go_enter Tryz.func139,Tryz.ntmps139
  go_upto_region 1 with fail
  generalize w.alloc (zQ3)=W1 at *
  obtain ⟨⟨r0,r1,r2,r3⟩,rf⟩:=RB.out
  go_wp2
  exact bodyPost_ret (v:=.tuple #[sysV none 0 0 none 0 0 none 0 0 none 0 0,.bool false]) (by simp [results,Tryz.results139,go_sem,r0,r1,r2,r3]) rfl (NwR.no HV.out ((((BW.out.setCell hM _).setCell hM _).setCell hM _).setCell hM _))
 have h4':¬ (4:Int)<(n:Int):=by omega
 obtain ⟨NN,hNN⟩:∃ NN,NN=n*n:=⟨_,rfl⟩
 have HNN:Hid (NN=n*n):=hNN
 have hm0:(n:Int)*(n:Int)=(NN:Int):=by rw [hNN];simp
 have h16:NN<=16:=by rw [hNN];exact zP (Nat.mul_le_mul h4 h4) (by omega)
 have h16':(NN:Int)<=16:=by omega
 have hn4:(n:Int)<=4:=by omega
 clear hNN
 go_enter Tryz.func139,Tryz.ntmps139
 go_upto_region 4 with fail
 have z1:w.heap.size<(w.alloc (zQ3)).heap.size:=by simp
 generalize w.alloc (zQ3)=W1 at *
 have F0:Hid (NwF W1 n L H false false false false undef undef undef undef W1.drew):=⟨(Below.refl _ _).drew,fun _=>0,(fun e=>by cases e),(fun e=>by cases e),(fun e=>by cases e),(fun e=>by cases e)⟩
 refine wp_region_G (fun _=>True) (fun _=>false) (by kernel_rfl) ?_
 refine wpGT_of [0,2,3] ?_
 iterate 3 (refine wpGT_k rfl trivial ?_)
 refine wpGT_nil ?_
 refine wpG_take 4 rfl trivial ⟨.int .i64 (NN:Int),fun wq _=>?_,?_⟩
 ·go_simp
  rw [IntKind.wrap_i64]
  omega
 (try simp only [Act.put,zD,zE,zF])
 refine wpG_k 6 rfl trivial ?_
 refine wpG_cast 6 #[true,false,true,true,true,false,true,false,false,false,false] (by kernel_rfl) (by kernel_rfl) ?_
 refine wpG_four (fun a b c d e=>#[true,a,true,true,true,b,true,c,e,d,false]) 1 5 7 9 8 (fun a b c d x wq=>∃ v1 v2 v3 v4,x=⟨#[.slice pa n pc,undef,.pointer (some ⟨w.heap.size,0,none⟩),.bool false,.int .i64 n,v4,undef,.slice pa n pc,.int .i64 n,.int .i64 n,.bool false,undef,.slice pa n pc,v1,.int .i64 n,.int .i64 n,.int .i64 NN,v2,.int .i64 n,v3,undef,undef,undef,undef,undef,undef,undef,undef,undef,undef,undef,undef,undef,undef,undef,undef,undef],[]⟩/\NwF W1 n L H a b c d v1 v2 v3 v4 wq) (fun d x wq=>∃ a1 c1 a2 c2 a3 c3 v4,x=⟨#[.slice pa n pc,undef,.pointer (some ⟨w.heap.size,0,none⟩),.bool false,.int .i64 n,v4,undef,.slice pa n pc,.int .i64 n,.int .i64 n,.bool false,undef,.slice pa n pc,.slice a1 n c1,.int .i64 n,.int .i64 n,.int .i64 NN,.slice a2 (n*n) c2,.int .i64 n,.slice a3 n c3,.agg #[.slice a1 n c1,.slice none 0 0,.slice a2 (n*n) c2,.slice a3 n c3],undef,undef,undef,undef,undef,undef,undef,undef,undef,undef,undef,undef,undef,undef,undef,undef],[]⟩/\NwF W1 n L H true true true d (.slice a1 n c1) (.slice a2 (n*n) c2) (.slice a3 n c3) v4 wq) (f0:=1) ?_ (fun _ _ _=>rfl) (fun _ _ _=>rfl) (fun _ _ _=>rfl) (fun _ _ _ _=>rfl) (fun _=>rfl) rfl (by kernel_rfl) (fun d=>by cases d <;> kernel_rfl) (fun d=>by cases d <;> kernel_rfl) (by kernel_rfl) (fun _ _ _ _ h=>h) ?_ ?_ ?_ ?_ ?_ ?_ ?_ 4 false false false false _ _ rfl ⟨_,_,_,_,rfl,F0.out⟩
 ·intro a b c d h
  cases a <;> cases b <;> cases c <;> cases d <;> first | exact absurd h (by decide) | kernel_rfl
 ·rintro b c d x wq ⟨v1,v2,v3,v4,rfl,F⟩
  refine wpOp_step rfl fun K hK=>?_
  refine stepR_call rfl 86 _ _ rfl #[.slice pa n pc] (by simp [Act.eval]) (yA Tryz.func86 (by kernel_rfl) rfl) (HP.out wq (BW.out.trans (F.be.mono BW.out.size))) ?_
  rintro e w5 ⟨v5,u5,rfl,o5,d5⟩
  exact ⟨_,rfl,hK _ _ ⟨fun _ _=>trivial,v5,v2,v3,v4,rfl,F.one o5 d5⟩⟩
 ·rintro a c d x wq ⟨v1,v2,v3,v4,rfl,F⟩
  have hmk:=run_make_nils kndTT nilItem NN (by omega) wq
  refine wpOp_step rfl fun K hK=>?_
  go_simp
  refine hK _ _ ⟨fun _ _=>trivial,v1,.slice (some ⟨wq.heap.size,0,none⟩) NN NN,v3,v4,rfl,?_⟩
  rw [HNN.out]
  exact F.two (by rw [<- HNN.out];omega)
 ·rintro a b d x wq ⟨v1,v2,v3,v4,rfl,F⟩
  have hmk:=run_make_nils kndEE nilEvent n (by omega) wq
  refine wpOp_step rfl fun K hK=>?_
  go_simp
  exact hK _ _ ⟨fun _ _=>trivial,v1,v2,.slice (some ⟨wq.heap.size,0,none⟩) n n,v4,rfl,F.three (by omega)⟩
 ·rintro a b c x wq ⟨v1,v2,v3,v4,rfl,F⟩
  refine wpOp_step rfl fun K hK=>?_
  go_simp
  exact hK _ _ ⟨fun _ _=>trivial,v1,v2,v3,.pointer (some ⟨wq.heap.size,0,none⟩),rfl,F.four⟩
 ·rintro d x wq ⟨v1,v2,v3,v4,rfl,F⟩
  obtain ⟨k,h1,h2,h3,-⟩:=F.ow
  obtain ⟨u,o1⟩:=h1 rfl
  obtain ⟨a1,c1,rfl⟩:=zU o1.row
  obtain ⟨a2,c2,rfl⟩:=zU (h2 rfl).row
  obtain ⟨a3,c3,rfl⟩:=zU (h3 rfl).row
  refine ⟨rfl,.agg #[.slice a1 n c1,.slice none 0 0,.slice a2 (n*n) c2,.slice a3 n c3],fun wz=>?_,a1,c1,a2,c2,a3,c3,v4,rfl,F⟩
  go_simp
 ·rintro x wq ⟨a1,c1,a2,c2,a3,c3,v4,rfl,F⟩
  refine wpOp_step rfl fun K hK=>?_
  go_simp
  exact hK _ _ ⟨fun _ _=>trivial,a1,c1,a2,c2,a3,c3,.pointer (some ⟨wq.heap.size,0,none⟩),rfl,F.four⟩
 rintro x w4 ⟨a1,c1,a2,c2,a3,c3,v4,rfl,F⟩
 clear F0
 obtain ⟨N,c,up,us,rfl,nl,⟨g0,g1,g2,g3⟩,gf,ns⟩:=NwS.start F rfl (.inr trivial)
 refine wpG_one 10 rfl (by kernel_rfl) (fun K hK=>?_)
 go_simp
 refine hK.out _ _ (fun _=>trivial) ?_
 clear hK K
 (try simp only [zD,zE,zF])
 refine wpG_done (by kernel_rfl) ?_ _
 have NS0:Hid (NwS W1 N n L H true 0 ((((w4.setCell ⟨N,0,none⟩ (.slice a1 n c1)).setCell ⟨N,1,none⟩ (.slice none 0 0)).setCell ⟨N,2,none⟩ (.slice a2 (n*n) c2)).setCell ⟨N,3,none⟩ (.slice a3 n c3)) (.slice a1 n c1) (.slice none 0 0) (.slice a2 (n*n) c2) (.slice a3 n c3) c up us):=ns
 clear ns g0 g1 g2 g3 gf nl F
 go_upto_region 5 with fail
 generalize ((((w4.setCell ⟨N,0,none⟩ (.slice a1 n c1)).setCell ⟨N,1,none⟩ (.slice none 0 0)).setCell ⟨N,2,none⟩ (.slice a2 (n*n) c2)).setCell ⟨N,3,none⟩ (.slice a3 n c3))=W5 at *
 go_wp2_with fail
 go_loopw [6] (fun i wr=>∃ k:Nat,k<=n/\i=.int .i64 k/\Hid (∃ vs c up us,NwS W1 N n L H true k wr (.slice a1 n c1) vs (.slice a2 (n*n) c2) (.slice a3 n c3) c up us)) (fun i _=>n - (intOf i).toNat)
 case atStart=>exact ⟨0,Nat.zero_le _,rfl,_,_,_,_,NS0.out⟩
 case round=>
  clear NS0 c up us
  obtain ⟨k,hk,rfl,HK⟩:=hrel
  obtain ⟨vs,c,up,us,ns⟩:=HK.out
  have NS:Hid (NwS W1 N n L H true k wr (.slice a1 n c1) vs (.slice a2 (n*n) c2) (.slice a3 n c3) c up us):=ns
  clear ns HK
  by_cases hlt:k<n
  ·have hlt':(k:Int)<(n:Int):=by omega
   go_wp2_with fail
   obtain ⟨x0,x1,x2,x3⟩:=NS.out.bx
   have xf:=NS.out.fr
   obtain ⟨sa,sc,rfl⟩:=zU NS.out.s.row
   have nl:=NS.out.lt
   refine wp_region_G (fun w'=>w'.cell? ⟨N,1,none⟩=some (.slice sa k sc)) (fun i=>i == 6) (by kernel_rfl) ?_
   have hHeld:(fun w':World=>w'.cell? ⟨N,1,none⟩=some (.slice sa k sc)) wr.drew:=x1
   refine wpG_k 0 rfl hHeld ?_
   refine wpG_k 1 rfl hHeld ?_
   refine wpG_one 2 rfl (by kernel_rfl) (fun K hK=>?_)
   refine stepR_call rfl 118 _ _ rfl #[] (by simp) (yA Tryz.func118 (by kernel_rfl) rfl) (specStateNew_any wr.drew) ?_
   rintro e w5 ⟨u5,rfl,o5,d5⟩
   refine ⟨_,rfl,?_⟩
   obtain ⟨ra5,rc5,oa5,oc5,rfl,-,-⟩:=o5.read
   have q5:Below wr.heap.size wr w5:=(Below.refl wr.heap.size wr).drew.trans d5
   have hc5:=(bcell q5).1
   refine hK.out _ _ (fun _=>(hc5 _ _ nl).trans x1) ?_
   clear hK K
   (try simp only [Act.put,zD,zE,zF])
   refine wpG_one 3 rfl (by kernel_rfl) (fun K hK=>?_)
   go_simp
   have ba:=zQ w5 (oQ1 0 ra5 4 rc5 oa5 0 oc5 0)
   refine hK.out _ _ (fun _=>((ba.cell (p:=⟨N,1,none⟩) (zL nl q5.size)).trans ((hc5 _ _ nl).trans x1))) ?_
   clear ba
   clear hK K
   (try simp only [Act.put,zD,zE,zF])
   refine wpG_one 4 rfl (by kernel_rfl) (fun K hK=>?_)
   refine stepR_append_val kndS w5 rfl rfl _ _ rfl 0 (.slice sa k sc) k _ rfl (NS.out.s.below q5).row #[.int .i64 0,.slice ra5 4 rc5,.slice oa5 0 oc5,.int .i64 0] rfl rfl (by intro u hu;simp at hu;rcases hu with rfl | rfl | rfl | rfl <;> rfl) (by omega) (Nat.zero_le _) ?_
   intro v6 w6 o6 g6 q6 n6
   obtain ⟨a6,c6,rfl⟩:=zU o6
   have gN : w6.heap[N]? = wr.heap[N]? := (g6.block N (Nat.lt_of_lt_of_le nl q5.size) fun e => by
    have:=(NS.out.s.rb N e.symm).2
    rw [NS.out.cN] at this
    cases this).trans (q5.block N nl)
   have y1:=(zH gN).trans x1
   have yf:∀ j,w6.frozen? ⟨N,j,none⟩=false:=fun j=>(zI gN).trans (xf j)
   have NS6:Hid (NwS W1 N n L H true (k+1) (w6.setCell ⟨N,1,none⟩ (.slice a6 (k+1) c6)) (.slice a1 n c1) (.slice a6 (k+1) c6) (.slice a2 (n*n) c2) (.slice a3 n c3) (rcol c wr.heap.size 2) up (fun j=>if j=k then stV 0 ra5 4 rc5 oa5 0 oc5 0 else us j)):=NS.out.push q5 (o5.mono (by simp)) o6 g6 q6
   refine hK.out _ _ (fun _=>y1) ?_
   clear hHeld
   have hHeld:(fun w':World=>w'.cell? ⟨N,1,none⟩=some (.slice sa k sc)) w6:=y1
   clear o6 g6 q6 n6 gN
   clear hK K
   (try simp only [Act.put,zD,zE,zF])
   refine wpG_k 5 rfl hHeld ?_
   refine wpG_one 6 rfl (by kernel_rfl) (fun K hK=>?_)
   have y2:=yf 1
   go_simp
   refine hK.out _ _ (fun h=>?_) ?_
   ·exact absurd h (by decide)
   clear hK K
   (try simp only [Act.put,zD,zE,zF])
   refine wpG_done (by kernel_rfl) ?_ _
   clear x0 x1 x2 x3 xf y1 y2 yf hHeld o5 d5 q5 hc5
   go_wp2
   go_roundw
   case rel=>exact ⟨k+1,by omega,by go_num,_,_,_,_,NS6.out⟩
   case measure=>simp [intOf];omega
  ·have hkn:k=n:=by omega
   have NS':=NS.out
   rw [hkn] at NS'
   obtain ⟨sa,sc,rfl⟩:=zU NS'.s.row
   have NE:Hid (NwS W1 N n L H true n wr (.slice a1 n c1) (.slice sa n sc) (.slice a2 (n*n) c2) (.slice a3 n c3) c up us):=NS'
   clear NS NS' hkn
   have HG:Hid (∀ wx,Below wr.heap.size wr wx->Calls Tryz.prog 19 #[sysV a1 n c1 sa n sc a2 (n*n) c2 a3 n c3] wx fun e w'=>e=.returned (.bool (nwY n L H).okB)/\Below wx.heap.size wx w'):=fun wx hb=>by
    have h:=NE.out.below hb
    have hp:=h.p rfl
    exact specSysOk_any (nwX a1 n c1 (fun i => adOf (up i)) L (fun i => cpOf (up i)) H (.slice sa n sc) (.slice a2 (n * n) c2) (.slice a3 n c3) us) wx (h.g (rowS_of hp) fun i hi => by
     obtain ⟨b,cap,eu,hb',hI,-⟩:=atI (hp.own i hi) (hp.nn nzI i hi)
     exact ⟨b,by rw [eu];rfl,hb',hI⟩) (nwX_len h4 HL.out) (fun i _=>Nat.le_refl _)
   obtain ⟨x0,x1,x2,x3⟩:=NE.out.bx
   go_wp2_with fail
   refine (HG.out wr (Below.refl _ _)).mono ?_
   rintro e w6 ⟨rfl,q6⟩
   have NF:Hid (NwS W1 N n L H true n w6 (.slice a1 n c1) (.slice sa n sc) (.slice a2 (n*n) c2) (.slice a3 n c3) c up us):=NE.out.below q6
   have hbe:=NF.out.be
   have R6:Hid (BoxC w6 w.heap.size (.slice none 0 0) (.slice none 0 0) (.slice none 0 0) (.slice none 0 0)/\∀ j,w6.frozen? ⟨w.heap.size,j,none⟩=false):=⟨RB.out.1.below hbe,fun j=>((bcell hbe).2 _ j z1).trans (RB.out.2 j)⟩
   have B6:Hid (Below w.heap.size w w6):=BW.out.trans (hbe.mono BW.out.size)
   clear q6 NE HG x0 x1 x2 x3 hbe
   obtain ⟨⟨r0,r1,r2,r3⟩,rf⟩:=R6.out
   rcases zK (nwY n L H).okB with t | t
   case inr=>
    have HV:Hid (snB n L H=false):=by
     show snB n L H=false
     rw [snB,t,Bool.and_false]
    rw [t]
    clear t
    go_wp2
    exact bodyPost_ret (v:=.tuple #[sysV none 0 0 none 0 0 none 0 0 none 0 0,.bool false]) (by simp [results,Tryz.results139,go_sem,r0,r1,r2,r3]) rfl (NwR.no HV.out ((((B6.out.setCell hM _).setCell hM _).setCell hM _).setCell hM _))
   have HV:Hid (snB n L H=true):=by
    show snB n L H=true
    rw [snB,t,decide_eq_true h4]
    rfl
   rw [t]
   clear t
   obtain ⟨x0,x1,x2,x3⟩:=NF.out.bx
   go_wp2
   exact bodyPost_ret (v:=.tuple #[sysV a1 n c1 sa n sc a2 (n*n) c2 a3 n c3,.bool true]) (by simp [results,Tryz.results139,go_sem,r0,r1,r2,r3]) rfl (NwR.yes HV.out (((NF.out.own1 rfl).out4 z1 _ _ _ _).base (Nat.le_of_lt z1) (by simp)) ((((B6.out.setCell hM _).setCell hM _).setCell hM _).setCell hM _))
theorem Own1.g {w:World} {B T n pc:Nat} {L:Nat->Nat} {H:Nat->Nat->I5} {pa:Option Addr} {vs vw vh:Value} (o:Own1 w B T n L H (.slice pa n pc) vs vw vh):∃ A C us,SysG w (nwX pa n pc A L C H vs vw vh us):=by
 obtain ⟨c,up,us,o,-⟩:=o
 refine ⟨fun i=>adOf (up i),fun i=>cpOf (up i),us,nwX_g o.s o.t o.h (rowS_of o.p) fun i hi=>?_⟩
 obtain ⟨b,cap,eu,hb,hI,-⟩:=atI (o.p.own i hi) (o.p.nn nzI i hi)
 exact ⟨b,by show adOf (up i)=_;rw [eu];rfl,hb,hI⟩
theorem LL.weak {z:Bool} {e:TypeId} {sz:Nat} {E:TypeId} {w:World} {P:Nat->Prop} {v:Value} {n:Nat} {u:Nat->Value} {L:Nat->Nat} {c:Nat->List Value} (o:LL z e sz E w P v n u L c):LL false e sz E w P v n u L c:=
 ⟨o.row,o.own,o.rb,o.ob,o.ra,o.oa,fun h i hi=>o.nn (h.elim (fun h=>by cases h) .inr) i hi⟩
theorem OwnS.weak {z:Bool} {w:World} {B:Nat} {c:Nat->Nat} {y:Sy} {vp vs vw vh:Value} {up us uw uh:Nat->Value} (o:OwnS z w B c y vp vs vw vh up us uw uh):OwnS false w B c y vp vs vw vh up us uw uh:=⟨o.p.weak,o.s,o.t.weak,o.h.weak⟩
theorem ZL.ll {e:TypeId} {sz:Nat} {E:TypeId} {w:World} {P:Nat->Prop} {v:Value} {n:Nat} (o:ZL E w P v n) (he:e≠84) (c:Nat->List Value) (hc:∀ i,c i=[]):LL false e sz E w P v n (fun _=>.slice none 0 0) (fun _=>0) c:=
 ⟨(by rw [List.map_const'];simpa using o.row),fun i _=>by rw [hc];exact World.ownsRow_nil _ _ _ _,o.rb,fun i _ k hk=>(by cases hk),fun i _ k hk=>(by cases hk),fun i j _ _ _ k hk=>(by cases hk),fun h _ _=>h.elim (fun h=>by cases h) (fun h=>absurd h he)⟩
def Abv (c:Nat) (w w':World):Prop:=w.heap.size<=w'.heap.size/\∀ b,c<b->b<w.heap.size->w'.heap[b]? = w.heap[b]?
theorem Abv.refl (c:Nat) (w:World):Abv c w w:=⟨Nat.le_refl _,fun _ _ _=>rfl⟩
theorem Abv.trans {c:Nat} {w w1 w2:World} (h:Abv c w w1) (k:Abv c w1 w2):Abv c w w2:=
 ⟨zP h.1 k.1,fun b hb hl=>(k.2 b hb (zL hl h.1)).trans (h.2 b hb hl)⟩
theorem Abv.grown {c:Nat} {w w':World} (h:w.grownBy w' (some c)):Abv c w w':=⟨h.size,fun b hb hl=>h.block b hl (by simp;omega)⟩
theorem Abv.below {c:Nat} {w w':World} (h:Below w.heap.size w w'):Abv c w w':=⟨h.size,fun b _ hl=>h.block b hl⟩
def SysK (c:Nat) (w:World) (x:SysIn):Prop:=∀ w',Abv c w w'->SysG w' x
theorem SysK.g {c:Nat} {w:World} {x:SysIn} (h:SysK c w x):SysG w x:=h w (Abv.refl c w)
theorem SysK.on {c:Nat} {w w':World} {x:SysIn} (h:SysK c w x) (k:Abv c w w'):SysK c w' x:=fun w2 h2=>h w2 (k.trans h2)
theorem Own1.k {w:World} {c B T n pc:Nat} {L:Nat->Nat} {H:Nat->Nat->I5} {pa:Option Addr} {vs vw vh:Value} (o:Own1 w B T n L H (.slice pa n pc) vs vw vh) (hB:c<B):∃ A C us,SysK c w (nwX pa n pc A L C H vs vw vh us):=by
 obtain ⟨col,up,us,o,-⟩:=o
 refine ⟨fun i=>adOf (up i),fun i=>cpOf (up i),us,fun w' hw=>?_⟩
 have key:∀ i b,Cl B col i b->b<w.heap.size->w'.heap[b]? = w.heap[b]?:=fun i b hb hl=>hw.2 b (zL hB hb.1) hl
 have hp:=o.p.keep (key 1)
 refine nwX_g (o.s.keep (key 2)) (o.t.keep (key 3)) (o.h.keep (key 4)) (rowS_of hp) fun i hi=>?_
 obtain ⟨b,cap,eu,hb,hI,-⟩:=atI (hp.own i hi) (hp.nn nzI i hi)
 exact ⟨b,by show adOf (up i)=_;rw [eu];rfl,hb,hI⟩
theorem OwnS.k {w:World} {d B:Nat} {c:Nat->Nat} {y:Sy} {vp vs vw vh:Value} {up us uw uh:Nat->Value} (o:OwnS true w B c y vp vs vw vh up us uw uh) (hB:d<B):SysK d w (y.sysIn vp vs vw vh up us uw uh):=by
 intro w' hw
 have key:∀ i b,Cl B c i b->b<w.heap.size->w'.heap[b]? = w.heap[b]?:=fun i b hb hl=>hw.2 b (zL hB hb.1) hl
 exact OwnS.g (B:=B) (c:=c) ⟨o.p.keep (key 1),o.s.keep (key 2),o.t.keep (key 3),o.h.keep (key 4)⟩
theorem Own1.s {w:World} {B T n:Nat} {L:Nat->Nat} {H:Nat->Nat->I5} {vp vs vw vh:Value} (o:Own1 w B T n L H vp vs vw vh):∃ c up us,OwnS false w B c (nwY n L H) vp vs vw vh up us (fun _=>.slice none 0 0) (fun _=>.slice none 0 0):=by
 obtain ⟨c,up,us,o,-⟩:=o
 exact ⟨c,up,us,o.p.weak,o.s,o.t.ll (by decide) _ (fun _=>rfl),o.h.ll (by decide) _ (fun _=>rfl)⟩
theorem OwnS.nf {z:Bool} {w:World} {B:Nat} {c:Nat->Nat} {y:Sy} {vp vs vw vh:Value} {up us uw uh:Nat->Value} (o:OwnS z w B c y vp vs vw vh up us uw uh):(y.sysIn vp vs vw vh up us uw uh).Nn false:=by
 refine ⟨fun i hi=>?_,fun i hi=>?_⟩
 ·rcases (o.t.own i hi).2 with ⟨e,h⟩ | ⟨g,cap,cur,e,_⟩
  ·exact .inr ⟨rfl,by show adOf (uw i)=none;rw [e];rfl,h,by show cpOf (uw i)=0;rw [e];rfl⟩
  ·exact .inl ⟨g,0,by show adOf (uw i)=_;rw [e];rfl⟩
 ·rcases (o.h.own i hi).2 with ⟨e,h⟩ | ⟨g,cap,cur,e,_⟩
  ·exact .inr ⟨rfl,by show adOf (uh i)=none;rw [e];rfl,h,by show cpOf (uh i)=0;rw [e];rfl⟩
  ·exact .inl ⟨g,0,by show adOf (uh i)=_;rw [e];rfl⟩
