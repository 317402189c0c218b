import Derived.Test.YtpehpclhdgpjkaaGreatDoorXe0
import Derived.Test.YtpehpclhdgpjkaaGreatDoorXe21
import Derived.Test.YtpehpclhdgpjkaaGreatDoorXe26
import Derived.Test.YtpehpclhdgpjkaaGreatDoorXe20
import Derived.Deep.RegionHeld3
import Derived.Deep.CutRange
import Derived.Deep.RegionWith
import Derived.Test.YtpehpclhdgpjkaaGreatDoorXe25
import Derived.Test.YtpehpclhdgpjkaaGreatDoorXe27
namespace Go.Proofs.YtpehpclhdgpjkaaGreatDoor
set_option maxRecDepth 100000
set_option maxHeartbeats 4000000
open Go.ChangeShapes Go.WideShapes Go.ChangeAt Go.RowKit Go.Deep Go.Sort
structure SysIn.One (x:SysIn) (p:Nat):Prop where
 pr:progOkB (x.pH p) (x.pL p) x.pn=true
 st:x.StP p
 pe:∀ i,i<x.hL p->(x.hH p i).q<(x.pn:Int)
def SysIn.Two (x:SysIn) (a b:Nat):Prop:=WayP (x.wH (a*x.pn+b)) (x.wL (a*x.pn+b)) (valL (x.hH b) 3 a (x.hL b)) (valL (x.hH a) 2 b (x.hL a))
theorem sy_two {x:SysIn} (hc:(1<=x.pn/\x.pn<=4)/\x.sn=x.pn/\x.hn=x.pn/\x.wn=x.pn*x.pn) (h1:∀ p,p<x.pn->x.One p) (h2:∀ a,a<x.pn->∀ b,b<x.pn->x.Two a b) (h3:x.y.hs.Row):x.y.Ok:=
 ⟨hc,fun p hp=>(h1 p hp).pr,fun p hp=>(h1 p hp).st,fun p hp=>(h1 p hp).pe,h2,h3⟩
theorem sy_one {x:SysIn} (h:x.y.Ok) {p:Nat} (hp:p<x.pn):x.One p:=⟨h.pr p hp,h.rp p hp,h.pe p hp⟩
theorem sy_way {x:SysIn} (h:x.y.Ok) {a b:Nat} (ha:a<x.pn) (hb:b<x.pn):x.Two a b:=h.wa a ha b hb
theorem specSysOk_any (x:SysIn) (w:World) (hG:SysG w x) (hL:x.Len) (hcap:∀ i,i<x.hn->x.hL i<=x.hC i):
  Calls Tryz.prog 34 #[x.v] w fun e w'=>e=.returned (.bool x.y.okB)/\Below w.heap.size w w':=by
 have HG:Hid (SysG w x):=hG
 have HL:Hid x.Len:=hL
 have HCap:Hid (∀ i,i<x.hn->x.hL i<=x.hC i):=hcap
 have hpn:(x.pn:Int)<=1048576:=by have:=hL.p.1;omega
 have hm0:0<=(x.pn:Int)*(x.pn:Int):=Int.mul_nonneg (by omega) (by omega)
 have hm1:(x.pn:Int)*(x.pn:Int)<=1099511627776:=by
  have:=Int.mul_le_mul hpn hpn (by omega) (by omega)
  omega
 have BA:Hid (Below w.heap.size w (w.alloc (oQ4 x.pa x.pn x.pc x.sa x.sn x.sc x.wa x.wn x.wc x.ha x.hn x.hc))):=zS _ _
 have NB:Hid (BoxC (w.alloc (oQ4 x.pa x.pn x.pc x.sa x.sn x.sc x.wa x.wn x.wc x.ha x.hn x.hc)) w.heap.size (.slice x.pa x.pn x.pc) (.slice x.sa x.sn x.sc) (.slice x.wa x.wn x.wc) (.slice x.ha x.hn x.hc)):=BoxC.new w _ _ _ _ _
 clear hG hL hcap
 by_cases hc:(1<=x.pn/\x.pn<=4)/\x.sn=x.pn/\x.hn=x.pn/\x.wn=x.pn*x.pn
 case neg=>
  have HN:Hid (x.y.okB=false):=Sy.okB_false fun h=>hc h.cn
  rcases zK (inB x.pn 1 4) with t1 | t1
  case inr=>
   clear hc
   go_enter Tryz.func34,Tryz.ntmps34
   go_wp2_with fail
   refine (l1In_any _ _ _ _).mono ?_
   rintro e w1 ⟨rfl,rfl⟩
   rw [t1]
   go_wp2
   go_ret
   rw [HN.out]
   exact ⟨rfl,BA.out⟩
  rcases zK ((x.sn:Int) != (x.pn:Int)) with t2 | t2
  case inl=>
   clear hc
   go_enter Tryz.func34,Tryz.ntmps34
   go_wp2_with fail
   refine (l1In_any _ _ _ _).mono ?_
   rintro e w1 ⟨rfl,rfl⟩
   rw [t1]
   go_wp2
   go_ret
   rw [HN.out]
   exact ⟨rfl,BA.out⟩
  rcases zK ((x.hn:Int) != (x.pn:Int)) with t3 | t3
  case inl=>
   clear hc
   go_enter Tryz.func34,Tryz.ntmps34
   go_wp2_with fail
   refine (l1In_any _ _ _ _).mono ?_
   rintro e w1 ⟨rfl,rfl⟩
   rw [t1]
   go_wp2
   go_ret
   rw [HN.out]
   exact ⟨rfl,BA.out⟩
  have t4:((x.wn:Int) != (x.pn:Int)*(x.pn:Int))=true:=by
   have t1':1<=(x.pn:Int)/\(x.pn:Int)<=4:=by simpa [inB] using t1
   have t2':(x.sn:Int)=x.pn:=by simpa using t2
   have t3':(x.hn:Int)=x.pn:=by simpa using t3
   have : ¬ (x.wn : Int) = (x.pn : Int) * (x.pn : Int) := fun e => hc ⟨⟨by omega, by omega⟩, by omega, by omega, by
    have:((x.wn:Nat):Int)=((x.pn*x.pn:Nat):Int):=by rw [e,Int.natCast_mul]
    omega⟩
   simpa using this
  clear hc
  go_enter Tryz.func34,Tryz.ntmps34
  go_wp2_with fail
  refine (l1In_any _ _ _ _).mono ?_
  rintro e w1 ⟨rfl,rfl⟩
  rw [t1]
  go_wp2
  go_ret
  rw [HN.out]
  exact ⟨rfl,BA.out⟩
 have t1:inB x.pn 1 4=true:=by simp [inB];omega
 have t2:((x.sn:Int) != (x.pn:Int))=false:=by simp [hc.2.1]
 have t3:((x.hn:Int) != (x.pn:Int))=false:=by simp [hc.2.2.1]
 have t4:((x.wn:Int) != (x.pn:Int)*(x.pn:Int))=false:=by rw [hc.2.2.2,Int.natCast_mul];simp
 have hp4:(x.pn:Int)<=4:=by omega
 have HC:Hid ((1<=x.pn/\x.pn<=4)/\x.sn=x.pn/\x.hn=x.pn/\x.wn=x.pn*x.pn):=hc
 clear hc
 go_enter Tryz.func34,Tryz.ntmps34
 go_wp2_with fail
 refine (l1In_any _ _ _ _).mono ?_
 rintro e w1 ⟨rfl,rfl⟩
 rw [t1]
 go_wp2_with fail
 clear hm0 hm1 t1 t2 t3 t4 hpn
 generalize w.alloc (oQ4 x.pa x.pn x.pc x.sa x.sn x.sc x.wa x.wn x.wc x.ha x.hn x.hc)=wb at *
 go_loopw [4] (fun i wr=>∃ k:Nat,k<=x.pn/\i=.int .i64 k/\Hid (Below wb.heap.size wb wr/\∀ j,j<k->x.One j)) (fun i _=>x.pn - (intOf i).toNat)
 case atStart=>exact ⟨0,Nat.zero_le _,rfl,Below.refl _ _,fun j hj=>by omega⟩
 case round=>
  obtain ⟨k,hk,rfl,HZ⟩:=hrel
  have hbw:Below w.heap.size w wr:=BA.out.trans (HZ.out.1.mono BA.out.size)
  have HBW:Hid (Below w.heap.size w wr):=hbw
  obtain ⟨b0,b1,b2,b3⟩:=NB.out.below HZ.out.1
  by_cases hlt:k<x.pn
  ·have hlt':(k:Int)<(x.pn:Int):=by omega
   obtain ⟨bp,op,ep,ck⟩:=(HG.out.below hbw).p.at hlt
   obtain ⟨b,eb,hbl,hI⟩:=(HG.out.below hbw).pi k hlt
   rw [eb] at ck
   rw [ep] at b0
   have HI:Hid (InsAt wr b 0 (x.pL k) (x.pH k)):=hI
   have HM:Hid (x.pL k<=maxLen):=by
    show x.pL k<=maxLen
    have:=HL.out.p.2 k hlt
    unfold maxLen
    omega
   clear hI hbw
   go_wp2_with fail
   refine (specProgOk_any b 0 (x.pL k) _ (x.pH k) x.pn wr HM.out hbl HI.out).mono ?_
   rintro e w2 ⟨rfl,c2⟩
   have HZ2:Hid (Below wb.heap.size wb w2/\∀ j,j<k->x.One j):=⟨HZ.out.1.trans (c2.mono HZ.out.1.size),HZ.out.2⟩
   have HB2:Hid (Below w.heap.size w w2):=HBW.out.trans (c2.mono HBW.out.size)
   clear b0 b1 b2 b3 ck c2 HZ HBW HI hbl
   rcases zK (progOkB (x.pH k) (x.pL k) x.pn) with tp | tp
   case inr=>
    have HN:Hid (x.y.okB=false):=Sy.okB_false fun h=>by
     have:=(sy_one h hlt).pr
     rw [tp] at this
     cases this
    rw [tp]
    go_wp2
    go_ret
    rw [HN.out]
    exact ⟨rfl,HB2.out⟩
   have TP:Hid (progOkB (x.pH k) (x.pL k) x.pn=true):=tp
   rw [tp]
   clear tp
   have hkh:k<x.hn:=by have:=HC.out;omega
   have hks:k<x.sn:=by have:=HC.out;omega
   have hkh':(k:Int)<(x.hn:Int):=by omega
   have hks':(k:Int)<(x.sn:Int):=by omega
   obtain ⟨b0,b1,b2,b3⟩:=NB.out.below HZ2.out.1
   obtain ⟨bp',op',ep',ck⟩:=(HG.out.below HB2.out).p.at hlt
   obtain ⟨b',eb',hbl,hI⟩:=(HG.out.below HB2.out).pi k hlt
   obtain ⟨bh,oh,eh,ch⟩:=(HG.out.below HB2.out).h.at hkh
   rw [eb'] at ck
   rw [ep'] at b0
   rw [eh] at b3
   have HI:Hid (∀ wx,Below w2.heap.size w2 wx->b'<wx.heap.size/\InsAt wx b' 0 (x.pL k) (x.pH k)):=fun wx hb=>⟨zL hbl hb.size,hI.below hb hbl⟩
   have HE:Hid (EvL w2 (x.hA k) (x.hL k) (x.hH k)):=(HG.out.below HB2.out).hi k hkh
   have HLk:Hid (x.hL k<=1048576):=HL.out.h.2 k hkh
   generalize hR:resS (repO (x.pH k) (x.pL k) (x.hH k) (x.hL k))=R
   generalize hT:(repO (x.pH k) (x.pL k) (x.hH k) (x.hL k)).isSome=T
   have HO:Hid (resS (repO (x.pH k) (x.pL k) (x.hH k) (x.hL k))=R/\(repO (x.pH k) (x.pL k) (x.hH k) (x.hL k)).isSome=T):=⟨hR,hT⟩
   have hRl:=repO_len (x.pH k) (x.pL k) (x.hH k) (x.hL k)
   rw [hR] at hRl
   have HRL:Hid (R.rs.length<=1048576/\R.os.length<=1048576):=hRl
   have d1:w2.heap.size≠w.heap.size:=by have:=zJ w2 _ b0;simp at this;omega
   have d2:w2.heap.size≠bp':=by have:=zJ w2 _ ck;simp at this;omega
   have d3:w2.heap.size≠bh:=by have:=zJ w2 _ ch;simp at this;omega
   clear hI hR hT hRl ep' eb' eh ep eb hbl
   go_wp2_with fail
   go_cut [5,6] from 55 to 68 (fun s t wx=>∃ M:Nat,s=.pointer (some ⟨M,0,none⟩)/\t=.bool T/\Hid (Below w2.heap.size w2 wx/\Told wx w2.heap.size M R))
   case first=>
    go_region_held3 (fun w'=>w'.cell? ⟨w.heap.size,0,none⟩=some (.slice (some ⟨bp',op',none⟩) x.pn x.pc)/\w'.cell? ⟨w.heap.size,3,none⟩=some (.slice (some ⟨bh,oh,none⟩) x.hn x.hc)/\w'.cell? ⟨bp',op'+k,none⟩=some (.slice (some ⟨b',0,none⟩) (x.pL k) (x.pC k))/\w'.cell? ⟨bh,oh+k,none⟩=some (.slice (x.hA k) (x.hL k) (x.hC k))) (go_keep)
     (first
      | (go_at_call 35;refine (specReplay_l b' (x.pL k) _ (x.hA k) (x.hL k) _ (x.pH k) (x.hH k) _ HM.out (HI.out _ (by go_grown)).1 (HI.out _ (by go_grown)).2 (HE.out.below (by go_grown)) HLk.out).mono ?_;rintro e w5 hd;rw [HO.out.1,HO.out.2] at hd;obtain ⟨v5,rfl,o5,b5⟩:=hd;obtain ⟨ra5,rc5,oa5,oc5,rfl,-,-⟩:=o5.read;have q5:Below w2.heap.size w2 w5:=below_up (by go_grown) b5 (by simp);(try simp only [World.size_alloc,World.size_drew] at o5);have O5:Hid (StOwn w5 _ (stV R.p ra5 R.rs.length rc5 oa5 R.os.length oc5 R.c) R.p R.rs R.os R.c):=o5;obtain ⟨hc5,hf5⟩:=bcell b5;have z5:=b5.size;(try simp only [World.size_alloc,World.size_drew,Nat.add_one_le_iff] at z5);have j5:w2.heap.size<=w5.heap.size:=q5.size;have Q5:Hid (Below w2.heap.size w2 w5):=q5;have y0:=(q5.cell (p:=⟨w.heap.size,0,none⟩) (zJ w2 _ b0)).trans b0;have y3:=(q5.cell (p:=⟨w.heap.size,3,none⟩) (zJ w2 _ b3)).trans b3;have yk:=(q5.cell (p:=⟨bp',op'+k,none⟩) (zJ w2 _ ck)).trans ck;have yh:=(q5.cell (p:=⟨bh,oh+k,none⟩) (zJ w2 _ ch)).trans ch;clear o5 b5 q5))
    all_goals
     go_wp2_with fail
     go_meet
     case rel=>
      first
      | (refine ⟨w5.heap.size, by with_reducible rfl, rfl, ?_⟩
         exact ⟨Q5.out.trans ((zS _ _).mono j5),Told.of_alloc O5.out (by omega) (by omega) _⟩)
      | (refine ⟨w2.heap.size, by with_reducible rfl, rfl, ?_⟩
         exact ⟨(((Q5.out.setCell (Nat.le_refl _) _).setCell (Nat.le_refl _) _).setCell (Nat.le_refl _) _).setCell (Nat.le_refl _) _,Told.of_put (z0:=.int .i64 0) (z1:=.slice none 0 0) (z2:=.slice none 0 0) (z3:=.int .i64 0) O5.out (by omega) (by omega) (by omega) ⟨by rw [hc5 _ _ (by simp)];simp,by rw [hc5 _ _ (by simp)];simp,by rw [hc5 _ _ (by simp)];simp,by rw [hc5 _ _ (by simp)];simp⟩⟩)
   case rest=>
    obtain ⟨M,rfl,rfl,HMt⟩:=hcut
    obtain ⟨ra,rc,oa,oc,TG⟩:=HMt.out.2.tl
    have HZ3:Hid (Below wb.heap.size wb wc/\∀ j,j<k->x.One j):=⟨HZ2.out.1.trans (HMt.out.1.mono HZ2.out.1.size),HZ2.out.2⟩
    have HB3:Hid (Below w.heap.size w wc):=HB2.out.trans (HMt.out.1.mono HB2.out.size)
    have HS3:Hid (Sl wc ra R.rs/\Sl wc oa R.os):=TG.sl
    have HBX:Hid (BoxC wc M (.int .i64 R.p) (.slice ra R.rs.length rc) (.slice oa R.os.length oc) (.int .i64 R.c)):=TG.box
    clear b0 b1 b2 b3 ck ch d1 d2 d3 HI HE HLk HM HZ2 HB2 HMt TG
    rcases zK T with rfl | rfl
    case inr=>
     have HN:Hid (x.y.okB=false):=Sy.okB_false fun h=>by
      have h1:repO (x.pH k) (x.pL k) (x.hH k) (x.hL k)=some (x.sS k):=(sy_one h hlt).st
      have h2:=HO.out.2
      rw [h1] at h2
      cases h2
     go_wp2_with fail
     go_quiet (fail)
     go_wp2
     go_ret
     rw [HN.out]
     exact ⟨rfl,yB HB3.out _⟩
    case inl=>
     have HP:Hid (eqS R (x.sS k)=true ↔ x.StP k):=by
      show eqS R (x.sS k)=true ↔ x.StP k
      rw [eqS_iff]
      unfold SysIn.StP
      cases hr:repO (x.pH k) (x.pL k) (x.hH k) (x.hL k) with
      | none=>have:=HO.out.2;rw [hr] at this;cases this
      | some S0=>
       have:=HO.out.1
       rw [hr] at this
       rw [show S0=R from this]
       exact ⟨fun e=>by rw [e],fun e=>Option.some.inj e⟩
     obtain ⟨k0,k1,k2,k3⟩:=HBX.out
     obtain ⟨-,x1,-,-⟩:=NB.out.below HZ3.out.1
     obtain ⟨bs,os,es,s0,s1,s2,s3⟩:=(HG.out.below HB3.out).s.at hks
     rw [es] at x1
     have HST:Hid (Sl wc (x.sQ k).ra (x.sQ k).rs/\Sl wc (x.sQ k).oa (x.sQ k).os):=(HG.out.below HB3.out).s.lst k hks
     have HSL:Hid ((x.sQ k).rs.length<=1048576/\(x.sQ k).os.length<=1048576):=HL.out.s.2 k hks
     have k0':=cell_regrown k0
     have k1':=cell_regrown k1
     have k2':=cell_regrown k2
     have k3':=cell_regrown k3
     have x1':=cell_regrown x1
     have s0':=cell_regrown s0
     have s1':=cell_regrown s1
     have s2':=cell_regrown s2
     have s3':=cell_regrown s3
     clear es
     have HCs:Hid (∀ d os',Calls Tryz.prog 70 #[stV R.p ra R.rs.length rc oa R.os.length oc R.c,stV (x.sQ k).p (x.sQ k).ra (x.sQ k).rs.length (x.sQ k).rc (x.sQ k).oa (x.sQ k).os.length (x.sQ k).oc (x.sQ k).c] (grow (redrawn wc d) os') fun e w'=>e=.returned (.bool (eqS R (x.sS k)))/\Below (grow (redrawn wc d) os').heap.size (grow (redrawn wc d) os') w'):=fun d os'=>
      specSameState_any R (x.sS k) _ _ _ _ _ _ _ _ _ HRL.out.1 HRL.out.2 HSL.out.1 HSL.out.2 (HS3.out.1.below (below_regrown wc d os')) (HS3.out.2.below (below_regrown wc d os')) (HST.out.1.below (below_regrown wc d os')) (HST.out.2.below (below_regrown wc d os'))
     go_wp2_with fail
     refine wp_region_quiet_below (by kernel_rfl) (by kernel_rfl) ?_
     repeat (quiet_step (first|(go_at_call 70;exact Calls.regrown_of (HCs.out _ _))))
     refine wpQuiet_nil ?_
     intro _ hw'
     obtain ⟨⟨dq,osq⟩,hw''⟩:=hw'
     subst hw''
     have HZ4:Hid (Below wb.heap.size wb (grow (redrawn wc dq) osq)/\∀ j,j<k->x.One j):=⟨HZ3.out.1.trans ((below_regrown wc dq osq).mono HZ3.out.1.size),HZ3.out.2⟩
     have HB4:Hid (Below w.heap.size w (grow (redrawn wc dq) osq)):=HB3.out.trans ((below_regrown wc dq osq).mono HB3.out.size)
     generalize grow (redrawn wc dq) osq=w4 at *
     clear k0' k1' k2' k3' x1' s0' s1' s2' s3' k0 k1 k2 k3 x1 s0 s1 s2 s3 HCs HZ3 HB3 HS3 HBX HST HSL
     rcases zK (eqS R (x.sS k)) with t | t
     case inr=>
      have HN:Hid (x.y.okB=false):=Sy.okB_false fun h=>by
       have:=HP.out.2 (sy_one h hlt).st
       rw [t] at this
       cases this
      rw [t]
      clear t
      go_wp2
      go_ret
      rw [HN.out]
      exact ⟨rfl,HB4.out⟩
     have HSt:Hid (x.StP k):=HP.out.1 t
     rw [t]
     clear t
     have hll:(x.hL k:Int)<=1048576:=by have:=HL.out.h.2 k hkh;omega
     go_wp2_with fail
     go_loopw [7] (fun i wr=>∃ j:Nat,j<=x.hL k/\i=.int .i64 j/\Hid (Below wb.heap.size wb wr/\∀ i,i<j->(x.hH k i).q<(x.pn:Int))) (fun i _=>x.hL k - (intOf i).toNat)
     case atStart=>exact ⟨0,Nat.zero_le _,rfl,HZ4.out.1,fun j hj=>by omega⟩
     case round=>
      obtain ⟨j,hj,rfl,HY⟩:=hrel
      have HBj:Hid (Below w.heap.size w wr):=BA.out.trans (HY.out.1.mono BA.out.size)
      obtain ⟨-,-,-,b3⟩:=NB.out.below HY.out.1
      obtain ⟨bh,oh,eh,ch⟩:=(HG.out.below HBj.out).h.at hkh
      rw [eh] at b3
      clear eh
      by_cases hjl:j<x.hL k
      ·have hjl':(j:Int)<(x.hL k:Int):=by omega
       obtain ⟨be,oe,ea,-,c0,c1,c2⟩:=((HG.out.below HBj.out).hi k hkh).at hjl
       rw [ea] at ch
       by_cases hq:(x.hH k j).q<(x.pn:Int)
       ·have hq':¬ (x.pn:Int)<=(x.hH k j).q:=by omega
        have HY' : Hid (Below wb.heap.size wb wr ∧ ∀ i, i < j + 1 → (x.hH k i).q < (x.pn : Int)) := ⟨HY.out.1, fun i hi => by
         by_cases e:i=j
         ·subst e
          exact hq
         ·exact HY.out.2 i (by omega)⟩
        clear HY ea
        go_wp2
        go_roundw
        case rel=>exact ⟨j+1,by omega,by go_num,HY'.out⟩
        case measure=>simp [intOf];omega
       ·have hq':(x.pn:Int)<=(x.hH k j).q:=by omega
        have HN:Hid (x.y.okB=false):=Sy.okB_false fun h=>hq ((sy_one h hlt).pe j hjl)
        clear HY ea
        go_wp2
        go_ret
        rw [HN.out]
        exact ⟨rfl,HBj.out⟩
      ·have HZ5 : Hid (Below wb.heap.size wb wr ∧ ∀ p, p < k + 1 → x.One p) := ⟨HY.out.1, fun p hp => by
        by_cases e:p=k
        ·subst e
         exact ⟨TP.out,HSt.out,fun i hi=>HY.out.2 i (by omega)⟩
        ·exact HZ4.out.2 p (by omega)⟩
       have hjl':¬ (j:Int)<(x.hL k:Int):=by omega
       clear HY
       go_wp2
       go_roundw
       case rel=>exact ⟨k+1,by omega,by go_num,HZ5.out⟩
       case measure=>simp [intOf];omega
  ·have HOne:Hid (∀ p,p<x.pn->x.One p):=fun p hp=>HZ.out.2 p (by omega)
   have hkn:¬ (k:Int)<(x.pn:Int):=by omega
   have HW0:Hid (Below wb.heap.size wb wr):=HZ.out.1
   clear HZ b0 b1 b2 b3 hbw HBW
   go_wp2_with fail
   go_loopw [8] (fun i wr=>∃ a:Nat,a<=x.pn/\i=.int .i64 a/\Hid (Below wb.heap.size wb wr/\∀ a',a'<a->∀ b,b<x.pn->x.Two a' b)) (fun i _=>x.pn - (intOf i).toNat)
   case atStart=>exact ⟨0,Nat.zero_le _,rfl,HW0.out,fun j hj=>by omega⟩
   case round=>
    clear HW0
    obtain ⟨a,ha,rfl,HX⟩:=hrel
    by_cases hal:a<x.pn
    ·have hal':(a:Int)<(x.pn:Int):=by omega
     go_wp2_with fail
     go_loopw [9] (fun i wr=>∃ b:Nat,b<=x.pn/\i=.int .i64 b/\Hid (Below wb.heap.size wb wr/\∀ b',b'<b->x.Two a b')) (fun i _=>x.pn - (intOf i).toNat)
     case atStart=>exact ⟨0,Nat.zero_le _,rfl,HX.out.1,fun j hj=>by omega⟩
     case round=>
      obtain ⟨b,hb,rfl,HYb⟩:=hrel
      by_cases hbl:b<x.pn
      ·have hbl':(b:Int)<(x.pn:Int):=by omega
       have hbh:b<x.hn:=by have:=HC.out;omega
       have hah:a<x.hn:=by have:=HC.out;omega
       have hbh':(b:Int)<(x.hn:Int):=by omega
       have hah':(a:Int)<(x.hn:Int):=by omega
       have HBb:Hid (Below w.heap.size w wr):=BA.out.trans (HYb.out.1.mono BA.out.size)
       have HLb:Hid (x.hL b<=1048576/\x.hL a<=1048576):=⟨HL.out.h.2 b hbh,HL.out.h.2 a hah⟩
       obtain ⟨-,-,-,b3⟩:=NB.out.below HYb.out.1
       obtain ⟨bh,oh,eh,ch⟩:=(HG.out.below HBb.out).h.at hbh
       rw [eh] at b3
       clear eh
       go_wp2_with fail
       refine (specValues_l (x.hA b) (x.hL b) _ (x.hH b) 3 a wr HLb.out.1 ((HG.out.below HBb.out).hi b hbh)).mono ?_
       rintro e w5 ⟨v5,rfl,o5,c5⟩
       obtain ⟨ta,tc,rfl,s5⟩:=o5.form
       have HY5:Hid (Below wb.heap.size wb w5/\∀ b',b'<b->x.Two a b'):=⟨HYb.out.1.trans (c5.mono HYb.out.1.size),HYb.out.2⟩
       have HB5:Hid (Below w.heap.size w w5):=HBb.out.trans (c5.mono HBb.out.size)
       have S5:Hid (Sl w5 ta (valL (x.hH b) 3 a (x.hL b))):=s5
       clear o5 c5 s5 b3 ch HYb HBb
       obtain ⟨-,-,-,b3⟩:=NB.out.below HY5.out.1
       obtain ⟨bh',oh',eh',ch'⟩:=(HG.out.below HB5.out).h.at hah
       rw [eh'] at b3
       clear eh'
       go_wp2_with fail
       refine (specValues_l (x.hA a) (x.hL a) _ (x.hH a) 2 b w5 HLb.out.2 ((HG.out.below HB5.out).hi a hah)).mono ?_
       rintro e w6 ⟨v6,rfl,o6,c6⟩
       obtain ⟨sa,sc,rfl,s6⟩:=o6.form
       have HY6:Hid (Below wb.heap.size wb w6/\∀ b',b'<b->x.Two a b'):=⟨HY5.out.1.trans (c6.mono HY5.out.1.size),HY5.out.2⟩
       have HB6:Hid (Below w.heap.size w w6):=HB5.out.trans (c6.mono HB5.out.size)
       have S6:Hid (Sl w6 ta (valL (x.hH b) 3 a (x.hL b))/\Sl w6 sa (valL (x.hH a) 2 b (x.hL a))):=⟨S5.out.below c6,s6⟩
       have hJl:a*x.pn+b<x.wn:=by
        rw [HC.out.2.2.2]
        have:(a+1)*x.pn<=x.pn*x.pn:=Nat.mul_le_mul_right _ (by omega)
        rw [Nat.add_mul] at this
        omega
       have hJe:(a:Int)*(x.pn:Int)+(b:Int)=((a*x.pn+b:Nat):Int):=by rw [Int.natCast_add,Int.natCast_mul]
       have hm0:0<=(a:Int)*(x.pn:Int):=Int.mul_nonneg (by omega) (by omega)
       have hm1:(a:Int)*(x.pn:Int)<=16:=by
        have:=Int.mul_le_mul (show (a:Int)<=4 by omega) hp4 (by omega) (by omega)
        omega
       have HT2:Hid ((LWay (x.wH (a*x.pn+b)) (x.wL (a*x.pn+b)) (valL (x.hH a) 2 b (x.hL a)) (valL (x.hH b) 3 a (x.hL b)).length/\∀ i,i<(valL (x.hH b) 3 a (x.hL b)).length->zi (valL (x.hH b) 3 a (x.hL b)) i=zi (valL (x.hH a) 2 b (x.hL a)) i) ↔ x.Two a b):=LWay.iff
       have htl:(valL (x.hH b) 3 a (x.hL b)).length<=1048576:=zO (valL_le ..) HLb.out.1
       have hsl:(valL (x.hH a) 2 b (x.hL a)).length<=1048576:=zO (valL_le ..) HLb.out.2
       have htl':((valL (x.hH b) 3 a (x.hL b)).length:Int)<=1048576:=by omega
       generalize hJ:a*x.pn+b=J at *
       have hJl':(J:Int)<(x.wn:Int):=by omega
       generalize valL (x.hH b) 3 a (x.hL b)=took at *
       generalize valL (x.hH a) 2 b (x.hL a)=sent at *
       have HIt:Hid (ItL w6 (x.wA J) (x.wL J) (x.wH J)):=(HG.out.below HB6.out).wi J hJl
       have HLJ:Hid (x.wL J<=1048576):=HL.out.w.2 J hJl
       clear o6 c6 s6 b3 ch' HY5 HB5 S5 hJ
       obtain ⟨-,-,b2,-⟩:=NB.out.below HY6.out.1
       obtain ⟨bw,ow,ew,cw⟩:=(HG.out.below HB6.out).w.at hJl
       rw [ew] at b2
       clear ew
       go_wp2_with fail
       refine (l4Way_any (x.wA J) (x.wL J) _ (x.wH J) sa sc sent took.length w6 HLJ.out HIt.out hsl S6.out.2 htl).mono ?_
       rintro e w7 ⟨rfl,c7⟩
       have HY7:Hid (Below wb.heap.size wb w7/\∀ b',b'<b->x.Two a b'):=⟨HY6.out.1.trans (c7.mono HY6.out.1.size),HY6.out.2⟩
       have HB7:Hid (Below w.heap.size w w7):=HB6.out.trans (c7.mono HB6.out.size)
       have S7:Hid (Sl w7 ta took/\Sl w7 sa sent):=⟨S6.out.1.below c7,S6.out.2.below c7⟩
       clear c7 b2 cw HY6 HB6 S6 hm0 hm1 hJe
       by_cases hlw:LWay (x.wH J) (x.wL J) sent took.length
       case neg=>
        have HN:Hid (x.y.okB=false):=Sy.okB_false fun h=>hlw (HT2.out.2 (sy_way h hal hbl)).1
        rw [pB_false hlw]
        clear hlw
        go_wp2
        go_ret
        rw [HN.out]
        exact ⟨rfl,HB7.out⟩
       have HLW:Hid (LWay (x.wH J) (x.wL J) sent took.length):=hlw
       rw [pB_true hlw]
       clear hlw
       go_wp2_with fail
       go_loopw [12] (fun i wr=>∃ j:Nat,j<=took.length/\i=.int .i64 j/\Hid (Below w7.heap.size w7 wr/\∀ i,i<j->zi took i=zi sent i)) (fun i _=>took.length - (intOf i).toNat)
       case atStart=>exact ⟨0,Nat.zero_le _,rfl,Below.refl _ _,fun j hj=>by omega⟩
       case round=>
        obtain ⟨j,hj,rfl,HQ⟩:=hrel
        have HBq:Hid (Below w.heap.size w wr/\Below wb.heap.size wb wr):=⟨HB7.out.trans (HQ.out.1.mono HB7.out.size),HY7.out.1.trans (HQ.out.1.mono HY7.out.1.size)⟩
        by_cases hjl:j<took.length
        ·have hjs:j<sent.length:=by have:=HLW.out.ln;omega
         obtain ⟨bq,oq,rfl,zq,cq⟩:=(S7.out.1.below HQ.out.1).at hjl
         obtain ⟨br,or',rfl,zr,cr⟩:=(S7.out.2.below HQ.out.1).at hjs
         have hjl':(j:Int)<(took.length:Int):=by omega
         have hjs':(j:Int)<(sent.length:Int):=by omega
         rcases zK (zi took j != zi sent j) with t6 | t6
         ·have HN:Hid (x.y.okB=false):=Sy.okB_false fun h=>by
           have:=(HT2.out.2 (sy_way h hal hbl)).2 j hjl
           rw [this] at t6
           simp at t6
          clear HQ
          go_wp2_with fail
          go_quiet (fail)
          go_wp2
          go_ret
          rw [HN.out]
          exact ⟨rfl,yB HBq.out.1 _⟩
         ·have HQ' : ∀ nq, Hid (Below w7.heap.size w7 (wr.drewN nq) ∧ ∀ i, i < j + 1 → zi took i = zi sent i) := fun nq => ⟨yB HQ.out.1 _, fun i hi => by
           by_cases e:i=j
           ·subst e
            simpa using t6
           ·exact HQ.out.2 i (by omega)⟩
          have HQQ:Hid (∀ nq,Hid (Below w7.heap.size w7 (wr.drewN nq)/\∀ i,i<j+1->zi took i=zi sent i)):=HQ'
          clear HQ HQ'
          go_wp2_with fail
          go_quiet (fail)
          go_wp2
          go_roundw
          case rel=>exact ⟨j+1,by omega,by go_num,HQQ.out _⟩
          case measure=>simp [intOf];omega
        ·have hjl':¬ (j:Int)<(took.length:Int):=by omega
         have HYn : Hid (Below wb.heap.size wb wr ∧ ∀ b', b' < b + 1 → x.Two a b') := ⟨HBq.out.2, fun b' hb' => by
          by_cases e:b'=b
          ·subst e
           exact HT2.out.1 ⟨HLW.out,fun i hi=>HQ.out.2 i (by omega)⟩
          ·exact HY7.out.2 b' (by omega)⟩
         clear HQ
         go_wp2
         go_roundw
         case rel=>exact ⟨b+1,by omega,by go_num,HYn.out⟩
         case measure=>simp [intOf];omega
      ·have HX' : Hid (Below wb.heap.size wb wr ∧ ∀ a', a' < a + 1 → ∀ b, b < x.pn → x.Two a' b) := ⟨HYb.out.1, fun a' ha' b' hb' => by
        by_cases e:a'=a
        ·subst e
         exact HYb.out.2 b' (by omega)
        ·exact HX.out.2 a' (by omega) b' hb'⟩
       have hbl':¬ (b:Int)<(x.pn:Int):=by omega
       clear HYb HX
       go_wp2
       go_roundw
       case rel=>exact ⟨a+1,by omega,by go_num,HX'.out⟩
       case measure=>simp [intOf];omega
    ·have HTwo:Hid (∀ a,a<x.pn->∀ b,b<x.pn->x.Two a b):=fun a' ha' b hb=>HX.out.2 a' (by omega) b hb
     have hal':¬ (a:Int)<(x.pn:Int):=by omega
     have HBf:Hid (Below w.heap.size w wr):=BA.out.trans (HX.out.1.mono BA.out.size)
     obtain ⟨b0,b1,b2,b3⟩:=NB.out.below HX.out.1
     have HPe:Hid x.y.hs.Peers:=fun p hp i hi=>⟨rp_peer (repO_some (HOne.out p hp).st).2.2 i hi,(HOne.out p hp).pe i hi⟩
     have e4:x.hn=x.pn:=HC.out.2.2.1
     have H2:Hid (∀ i,i<x.y.hs.n->x.y.hs.l i<=200):=fun p hp=>(repO_some (HOne.out p hp).st).2.1
     have HCp:Hid (∀ i,i<x.y.hs.n->x.y.hs.l i<=x.hC i):=fun p hp=>HCap.out p (by rw [e4];exact hp)
     have HHE:Hid (HisE wr x.ha x.hA x.hC x.y.hs):=(HG.out.below HBf.out).his e4
     have HE4:Hid (x.hn=x.pn):=e4
     clear HX e4
     rw [HE4.out] at b3
     go_wp2_with fail
     refine (l4Order_any x.pa x.pn x.pc x.sa x.sn x.sc x.wa x.wn x.wc x.ha x.hc x.hA x.hC x.y.hs wr HHE.out HCp.out HC.out.1.1 HC.out.1.2 HPe.out H2.out).mono ?_
     rintro e w9 ⟨rfl,b9⟩
     have HN:Hid (qB x.y.hs.Row=x.y.okB):=by
      show qB x.y.hs.Row=x.y.okB
      by_cases hr:x.y.hs.Row
      ·rw [qB_true hr,Sy.okB_true (sy_two HC.out HOne.out HTwo.out hr)]
      ·rw [qB_false hr,Sy.okB_false fun h=>hr h.ro]
     have B9:Hid (Below w.heap.size w w9):=HBf.out.trans (b9.mono HBf.out.size)
     rw [HN.out]
     clear b9 HN b0 b1 b2 b3
     go_wp2
     go_ret
     exact ⟨rfl,B9.out⟩
def rdN (M:List Int) (w:Nat) (m:Int) (j:Nat):Nat:=if j<=M.length then min m.toNat ((M.length - j) / w+1) else 0
theorem rdN_lt {M:List Int} {w j i:Nat} {m:Int} (hw:0<w):i<rdN M w m j ↔ (i:Int)<m/\j+w*i<=M.length:=by
 unfold rdN
 split
 ·rename_i h
  rw [Nat.lt_min,Nat.lt_succ_iff,Nat.le_div_iff_mul_le hw,Nat.mul_comm i w]
  omega
 ·rename_i h
  constructor
  ·intro h9
   omega
  ·rintro ⟨-,h9⟩
   exact absurd (zO (Nat.le_add_right _ _) h9) h
theorem rdN_le {M:List Int} {w j:Nat} {m:Int} (_:0<w):rdN M w m j<=M.length+1:=by
 unfold rdN
 split
 ·have:=Nat.div_le_self (M.length - j) w
  omega
 ·omega
theorem rdN_all {M:List Int} {w j:Nat} {m:Int} (hw:0<w) (h:j+w*rdN M w m j<=M.length):rdN M w m j=m.toNat:=by
 have h2:¬ ((rdN M w m j:Nat):Int)<m:=fun h9=>Nat.lt_irrefl _ ((rdN_lt (M:=M) (m:=m) (j:=j) (i:=rdN M w m j) hw).2 ⟨h9,h⟩)
 have h3:rdN M w m j<=m.toNat:=by
  unfold rdN
  split <;> omega
 omega
def mQ (M:List Int) (k:Nat):Nat:=k+1+5*rdN M 5 (zi M k) (k+1)
def mR (M:List Int) (k:Nat):Nat:=k+1+3*rdN M 3 (zi M k) (k+1)
def mP (M:List Int):Nat->Nat
 | 0=>1
 | p+1=>mR M (mQ M (mP M p))
def mH (M:List Int) (p:Nat):Nat:=mQ M (mP M p)
theorem mP_up (M:List Int) (p:Nat):mP M p<mH M p/\mH M p<mP M (p+1):=by
 refine ⟨?_,?_⟩
 ·unfold mH mQ
  omega
 ·show mH M p<mR M (mH M p)
  unfold mR
  omega
theorem mP_ge (M:List Int):∀ p,2*p+1<=mP M p
 | 0=>by show 1<=1;omega
 | p+1=>by
  have:=mP_ge M p
  have:=mP_up M p
  omega
theorem mP_mono (M:List Int):∀ {p q:Nat},p<=q->mP M p<=mP M q
 | p,0,h=>by
  have:p=0:=by omega
  subst this
  exact Nat.le_refl _
 | p,q+1,h=>by
  by_cases e:p=q+1
  ·subst e
   exact Nat.le_refl _
  ·have:=mP_mono M (p:=p) (q:=q) (by omega)
   have:=mP_up M q
   omega
def mdY (ys:List Int) (P:Nat):Sy where
 pn:=P
 pL:=fun i=>rdN (nmA ys) 5 (zi (nmA ys) (mP (nmA ys) i)) (mP (nmA ys) i+1)
 pH:=fun i=>itN (nmA ys) (mP (nmA ys) i+1)
 sn:=0
 sS:=fun _=>⟨0,[],[],0⟩
 wn:=0
 wL:=fun _=>0
 wH:=fun _ _=>⟨false,0⟩
 hn:=P
 hL:=fun i=>rdN (nmA ys) 3 (zi (nmA ys) (mH (nmA ys) i)) (mH (nmA ys) i+1)
 hH:=fun i=>evN (nmA ys) (mH (nmA ys) i+1)
def MdP (M:List Int) (P:Nat):Prop:=(∀ p,p<P->(p:Int)<zi M 0/\mP M p<=M.length)/\¬ ((P:Int)<zi M 0/\mP M P<=M.length)
theorem MdP.le {M:List Int} {P:Nat} (h:MdP M P):P<=M.length+1:=by
 rcases Nat.eq_zero_or_pos P with e | e
 ·omega
 ·have h1:=(h.1 (P - 1) (by omega)).2
  have h2:=mP_ge M (P - 1)
  omega
theorem md_all {M:List Int} {P:Nat} (h:mP M P<=M.length):∀ p,p<P->rdN M 5 (zi M (mP M p)) (mP M p+1)=ctN M (mP M p)/\rdN M 3 (zi M (mH M p)) (mH M p+1)=ctN M (mH M p)/\mP M p<M.length/\mH M p<M.length/\mH M p=mP M p+1+5*ctN M (mP M p)/\mP M (p+1)=mH M p+1+3*ctN M (mH M p):=fun p hp=>by
 have h1:=mP_mono M (p:=p+1) (q:=P) hp
 have h2:=mP_up M p
 have e1:rdN M 5 (zi M (mP M p)) (mP M p+1)=ctN M (mP M p):=rdN_all (by omega) (by have:mH M p=mP M p+1+5*rdN M 5 (zi M (mP M p)) (mP M p+1):=rfl;omega)
 have e2:rdN M 3 (zi M (mH M p)) (mH M p+1)=ctN M (mH M p):=rdN_all (by omega) (by have:mP M (p+1)=mH M p+1+3*rdN M 3 (zi M (mH M p)) (mH M p+1):=rfl;omega)
 refine ⟨e1,e2,by omega,by omega,?_,?_⟩
 ·show mQ M (mP M p)=_
  unfold mQ
  rw [e1]
 ·show mR M (mH M p)=_
  unfold mR
  rw [e2]
theorem md_prK {M:List Int}:∀ {n:Nat},(prK M n).isSome=true->mP M n=kP M n/\mP M n<=M.length\/n=0
 | 0,_=>.inr rfl
 | n+1,h=>by
  obtain ⟨h1,h2,h3⟩:=prK_up h
  have e0:mP M n=kP M n:=by
   rcases md_prK h1 with h9 | rfl
   ·exact h9.1
   ·rfl
  obtain ⟨a1,a2,a3,a4,a5⟩:=lsK_some h2
  obtain ⟨b1,b2,b3,b4,b5⟩:=lsK_some h3
  have e1:rdN M 5 (zi M (mP M n)) (mP M n+1)=ctN M (kP M n):=by
   rw [e0]
   unfold rdN
   rw [if_pos (by omega),a2,Int.toNat_natCast,Nat.min_eq_left]
   have:ctN M (kP M n)<=(M.length - (kP M n+1)) / 5:=by
    rw [Nat.le_div_iff_mul_le (by omega)]
    omega
   omega
  have e2:mH M n=hP M n:=by
   show mQ M (mP M n)=_
   unfold mQ
   rw [e1,e0]
   rfl
  have e3:rdN M 3 (zi M (mH M n)) (mH M n+1)=ctN M (hP M n):=by
   rw [e2]
   unfold rdN
   rw [if_pos (by omega),b2,Int.toNat_natCast,Nat.min_eq_left]
   have:ctN M (hP M n)<=(M.length - (hP M n+1)) / 3:=by
    rw [Nat.le_div_iff_mul_le (by omega)]
    omega
   omega
  refine .inl ⟨?_,?_⟩
  ·show mR M (mH M n)=_
   unfold mR
   rw [e3,e2,b4]
  ·show mR M (mH M n)<=_
   unfold mR
   rw [e3,e2]
   omega
theorem OwnI.sl {w:World} {B:Nat} {a0:Option Addr} {cap:Nat} {xs:List Int} (h:OwnI w B (.slice a0 xs.length cap) xs):Sl w a0 xs:=by
 obtain ⟨a1,c1,e,s⟩:=h.form
 simp only [Value.slice.injEq] at e
 obtain ⟨rfl,-,-⟩:=e
 exact s
theorem OwnI.touch {w w':World} {B:Nat} {v:Value} {xs:List Int} {P:Nat->Prop} (o:OwnI w B v xs) (ht:Touch P w w') (hp:∀ g,v.ownBlock=some g->¬ P g):OwnI w' B v xs:=o.blk fun k hk=>ht.block k (o.lt k hk).2 (hp k hk)
