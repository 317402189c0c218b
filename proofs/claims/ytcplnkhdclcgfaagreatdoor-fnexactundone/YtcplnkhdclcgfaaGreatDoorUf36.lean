import Derived.Test.YtcplnkhdclcgfaaGreatDoorUf0
import Derived.Test.YtcplnkhdclcgfaaGreatDoorUf28
import Derived.Test.YtcplnkhdclcgfaaGreatDoorUf34
import Derived.Deep.RegionWith
import Derived.Deep.RegionLaw
import Derived.BigQuiet
import Derived.Test.YtcplnkhdclcgfaaGreatDoorUf33
import Derived.ScopeJumps
import Derived.WalkMore
import Derived.Test.YtcplnkhdclcgfaaGreatDoorUf22
import Derived.Test.YtcplnkhdclcgfaaGreatDoorUf35
import Derived.Test.YtcplnkhdclcgfaaGreatDoorUf26
import Derived.Test.YtcplnkhdclcgfaaGreatDoorUf24
import Derived.Test.YtcplnkhdclcgfaaGreatDoorUf25
import Derived.Test.YtcplnkhdclcgfaaGreatDoorUf27
namespace Go.Proofs.YtcplnkhdclcgfaaGreatDoor
set_option maxRecDepth 100000
set_option maxHeartbeats 4000000
open Go.ChangeShapes Go.WideShapes Go.ChangeAt Go.RowKit Go.Deep Go.Sort
theorem own_blk {N n c k:Nat} (h:(Value.slice (some ⟨N,0,none⟩) n c).ownBlock=some k):N=k:=by
 cases h
 rfl
def sm:List Int->Nat
 | []=>0
 | x :: xs=>x.toNat+sm xs
theorem sm_set:∀ (e:List Int) (b:Nat) (k:Int),b<e.length->k<zi e b->0<=k->sm (e.set b k)<sm e
 | [],b,k,hb,_,_=>by simp at hb
 | x :: xs,0,k,_,hk,h0=>by
  have h1:zi (x :: xs) 0=x:=rfl
  rw [h1] at hk
  simp only [zE,sm]
  omega
 | x :: xs,b+1,k,hb,hk,h0=>by
  have h1:zi (x :: xs) (b+1)=zi xs b:=rfl
  rw [h1] at hk
  have:=sm_set xs b k (by simpa using hb) hk h0
  simp only [zF,sm]
  omega
structure CW (w wr:World) (x:SysIn) (g cap:Nat) (c e:List Int):Prop where
 ow:OwnI wr (w.heap.size+1) (.slice (some ⟨g,0,none⟩) c.length cap) e
 be:Below w.heap.size w wr
 bx:BoxC wr w.heap.size (.slice x.pa x.pn x.pc) (.slice x.sa x.sn x.sc) (.slice x.wa x.wn x.wc) (.slice x.ha x.hn x.hc)
 cl:x.y.Cl c e
 ln:e.length=c.length
theorem CW.g {w wr:World} {x:SysIn} {g cap:Nat} {c e:List Int} (h:CW w wr x g cap c e):w.heap.size+1<=g/\g<wr.heap.size:=h.ow.lt g rfl
theorem CW.below {w wr w':World} {x:SysIn} {g cap:Nat} {c e:List Int} (h:CW w wr x g cap c e) (hb:Below wr.heap.size wr w'):CW w w' x g cap c e:=⟨h.ow.below hb,h.be.trans (hb.mono h.be.size),h.bx.below hb,h.cl,h.ln⟩
theorem CW.slOf {w wr:World} {x:SysIn} {g cap:Nat} {c e:List Int} (h:CW w wr x g cap c e):Sl wr (some ⟨g,0,none⟩) e:=h.ow.slOf
theorem CW.cell {w wr:World} {x:SysIn} {g cap:Nat} {c e:List Int} (h:CW w wr x g cap c e) {b:Nat} (hb:b<c.length):wr.cell? ⟨g,b,none⟩=some (.int .i64 (zi e b))/\wr.frozen? ⟨g,b,none⟩=false:=by
 have ho:=h.ow
 rw [<- h.ln] at ho hb
 exact ⟨ho.cell hb,ho.frozen b⟩
theorem CW.put {w wr:World} {x:SysIn} {g cap:Nat} {c e:List Int} (h:CW w wr x g cap c e) {b:Nat} {k:Int} (hn:x.y.Cl c (e.set b k)):CW w (wr.setCell ⟨g,b,none⟩ (.int .i64 k)) x g cap c (e.set b k):=by
 have hg:=h.g
 obtain ⟨h0,h1,h2,h3⟩:=h.bx
 have hc:∀ i,(wr.setCell ⟨g,b,none⟩ (.int .i64 k)).cell? ⟨w.heap.size,i,none⟩=wr.cell? ⟨w.heap.size,i,none⟩:=fun i=>World.cell?_setCell_other _ _ _ _ (by intro e;injection e with e;omega)
 exact ⟨(h.ow.set h.ln.symm b k).1,h.be.setCell (by simp;omega) _,⟨(hc _).trans h0,(hc _).trans h1,(hc _).trans h2,(hc _).trans h3⟩,hn,by rw [List.length_set];exact h.ln⟩
theorem l8Close_any (x:SysIn) (ca:Option Addr) (cc:Nat) (c:List Int) (w:World) (hG:SysG w x) (hcap:∀ i,i<x.hn->x.hL i<=x.hC i) (ht:cutB x.y c=true) (hc:Sl w ca c):
  Calls Tryz.prog 85 #[x.v,.slice ca c.length cc] w fun e w'=>∃ u,e=.returned u/\OwnI w' w.heap.size u (clS x.y c)/\Below w.heap.size w w':=by
 obtain ⟨hO,hC⟩:=cutB_parts ht
 have hln:c.length=x.pn:=hC.len
 have h1:1<=x.pn:=hO.cn.1.1
 have h4:x.pn<=4:=hO.cn.1.2
 have hl':(c.length:Int)<=4:=by omega
 have HQ:Hid (c.length=x.pn/\0<c.length/\c.length<=4):=⟨hln,by omega,by omega⟩
 have HSl:Hid (Sl w ca c):=hc
 have HWh:Hid (∀ wr g cap e,CW w wr x g cap c e->Calls Tryz.prog 139 #[x.v,.slice (some ⟨g,0,none⟩) c.length cap] wr fun r w'=>r=.returned (.bool (qB (x.y.Wh (cN e))))/\Below wr.heap.size wr w'):=fun wr g cap e h=>by
  have:=l8Whole_any x (some ⟨g,0,none⟩) cap e wr (hG.below h.be) hcap hO (h.cl.cut hC) h.slOf
  rwa [h.ln] at this
 have HOv:Hid (∀ wr g cap e a b,CW w wr x g cap c e->a<c.length->b<c.length->Calls Tryz.prog 161 #[x.v,.slice (some ⟨g,0,none⟩) c.length cap,.int .i64 (a:Nat),.int .i64 (b:Nat)] wr fun r w'=>r=.returned (.int .i64 (ovN x.y (cN e) a b))/\Below wr.heap.size wr w'):=fun wr g cap e a b h ha hb=>by
  have:=l8Over_any x (some ⟨g,0,none⟩) cap e a b wr (hG.below h.be) hcap hO (h.cl.cut hC) h.slOf (by omega) (by omega)
  rwa [h.ln] at this
 have HSt:Hid (x.y.Cl c c):=Sy.Cl.start hC
 have HEnd:Hid (∀ e,x.y.Cl c e->x.y.Wh (cN e)->clS x.y c=e):=fun e h h'=>clS_yes ht h h'
 have BW:Hid (Below w.heap.size w (w.alloc (oQ5 x.pa x.pn x.pc x.sa x.sn x.sc x.wa x.wn x.wc x.ha x.hn x.hc))):=zT _ _
 have NB:Hid (BoxC (w.alloc (oQ5 x.pa x.pn x.pc x.sa x.sn x.sc x.wa x.wn x.wc x.ha x.hn x.hc)) w.heap.size (.slice x.pa x.pn x.pc) (.slice x.sa x.sn x.sc) (.slice x.wa x.wn x.wc) (.slice x.ha x.hn x.hc)):=BoxC.new w _ _ _ _ _
 have NS:Hid ((w.alloc (oQ5 x.pa x.pn x.pc x.sa x.sn x.sc x.wa x.wn x.wc x.ha x.hn x.hc)).heap.size=w.heap.size+1):=by show _=_;simp
 clear hG hcap hO hC hc hln h1 h4 ht
 go_enter Tryz.func85,Tryz.ntmps85
 go_upto_region 1 with fail
 generalize w.alloc (oQ5 x.pa x.pn x.pc x.sa x.sn x.sc x.wa x.wn x.wc x.ha x.hn x.hc)=W2 at *
 have HL4:Hid (([]:List Int).length+c.length<=4000000/\W2.heap.size<=(W2.alloc (.cells #[] 3)).heap.size/\Sl (W2.alloc (.cells #[] 3)) ca c):=⟨by have:=HQ.out;simp;omega,by simp,(HSl.out.below BW.out).below (zT _ _)⟩
 go_wp2_with (at_builtin;refine wpList_append_ints _ rfl _ _ rfl W2.heap.size cc (.slice (some ⟨W2.heap.size,0,none⟩) 0 0) ca [] c rfl rfl (own_empty W2) HL4.out.2.2 HL4.out.1 HL4.out.2.1 ?_;intro v4 w4 o4 g4 _;obtain ⟨g,cap,rfl,-,-⟩:=(show OwnI w4 W2.heap.size v4 c from o4).block HQ.out.2.1;have H4:Hid (CW w w4 x g cap c c):=⟨OwnI.mono (show OwnI w4 W2.heap.size _ c from o4) (by rw [NS.out];omega),Below.grown (BW.out.trans ((zT _ _).mono BW.out.size)) g4 (by have:=BW.out.size;simp;omega) (fun k hk=>by have:=own_blk hk;have:=NS.out;omega),NB.out.belowB (B:=w.heap.size+1) (Below.grown ((zT _ _).mono (by rw [NS.out];omega)) g4 (by have:=NS.out;simp;omega) (fun k hk=>by have:=own_blk hk;have:=NS.out;omega)) (by omega),HSt.out,rfl⟩;clear o4 g4)
 clear BW NB NS HL4 HSt
 go_loopg [6] (sm c) (fun gn _ wr=>∃ e,gn=sm e/\Hid (CW w wr x g cap c e))
 case atStart=>exact ⟨c,rfl,H4.out⟩
 case round=>
  clear H4
  obtain ⟨e,hgn,HB⟩:=hrel
  have HGN:Hid (gk=sm e):=hgn
  clear hgn
  obtain ⟨b0,b1,b2,b3⟩:=HB.out.bx
  go_wp2_with fail
  refine (HWh.out _ g cap e HB.out).mono ?_
  rintro r w5 ⟨rfl,q5⟩
  have B5:Hid (CW w w5 x g cap c e):=HB.out.below q5
  clear q5 b0 b1 b2 b3 HB
  by_cases hw:x.y.Wh (cN e)
  ·rw [qB_true hw]
   have HV:Hid (OwnI w5 w.heap.size (.slice (some ⟨g,0,none⟩) c.length cap) (clS x.y c)/\Below w.heap.size w w5):=by
    have h:=HEnd.out e B5.out.cl hw
    refine ⟨?_,B5.out.be⟩
    rw [h]
    exact B5.out.ow.mono (by omega)
   clear hw B5
   go_wp2
   go_ret
   exact ⟨_,rfl,HV.out⟩
  rw [qB_false hw]
  have HNW:Hid (¬ x.y.Wh (cN e)):=hw
  clear hw
  go_wp2_with fail
  go_loopw [6] (fun i wr=>∃ (k:Nat) (e':List Int),k<=c.length/\i=.int .i64 k/\Hid (CW w wr x g cap c e'/\(sm e'<sm e\/(e'=e/\∀ a,a<k->∀ b,b<c.length->tN x.y (cN e) a b<=sN x.y (cN e) a b)))) (fun i _=>c.length - (intOf i).toNat)
  case atStart=>exact ⟨0,e,Nat.zero_le _,rfl,B5.out,.inr ⟨rfl,fun a ha=>by omega⟩⟩
  case round=>
   clear B5
   obtain ⟨k,e1,hk,rfl,HB⟩:=hrel
   by_cases hlt:k<c.length
   ·have hlt':(k:Int)<(c.length:Int):=by omega
    go_wp2_with fail
    go_loopw [7] (fun i wr=>∃ (j:Nat) (e':List Int),j<=c.length/\i=.int .i64 j/\Hid (CW w wr x g cap c e'/\(sm e'<sm e\/(e'=e/\(∀ a,a<k->∀ b,b<c.length->tN x.y (cN e) a b<=sN x.y (cN e) a b)/\∀ b,b<j->tN x.y (cN e) k b<=sN x.y (cN e) k b)))) (fun i _=>c.length - (intOf i).toNat)
    case atStart=>exact ⟨0,e1,Nat.zero_le _,rfl,HB.out.1,HB.out.2.imp id fun h=>⟨h.1,h.2,fun b hb=>by omega⟩⟩
    case round=>
     clear HB
     obtain ⟨j,e2,hj,rfl,HB⟩:=hrel
     by_cases hjt:j<c.length
     ·have hjt':(j:Int)<(c.length:Int):=by omega
      obtain ⟨b0,b1,b2,b3⟩:=HB.out.1.bx
      go_wp2_with fail
      refine (HOv.out _ g cap e2 k j HB.out.1 hlt hjt).mono ?_
      rintro r w6 ⟨rfl,q6⟩
      have B6:Hid (CW w w6 x g cap c e2/\(sm e2<sm e\/(e2=e/\(∀ a,a<k->∀ b,b<c.length->tN x.y (cN e) a b<=sN x.y (cN e) a b)/\∀ b,b<j->tN x.y (cN e) k b<=sN x.y (cN e) k b))):=⟨HB.out.1.below q6,HB.out.2⟩
      have HN:Hid (ovN x.y (cN e2) k j<0 ↔ tN x.y (cN e2) k j<=sN x.y (cN e2) k j):=ovN_neg
      have HX:Hid (0<=ovN x.y (cN e2) k j->x.y.Cl c (e2.set j (ovN x.y (cN e2) k j))/\sm (e2.set j (ovN x.y (cN e2) k j))<sm e2):=fun h=>by
       have hq:=HQ.out
       obtain ⟨h1,h2,h3⟩:=B6.out.1.cl.next (a:=k) (b:=j) (by show k<x.pn;omega) (by show j<x.pn;omega) h
       exact ⟨h1,sm_set e2 j _ (by rw [B6.out.1.ln];exact hjt) h3 h2⟩
      generalize ovN x.y (cN e2) k j=ov at *
      clear q6 b0 b1 b2 b3 HB
      by_cases ho:0<=ov
      ·obtain ⟨ce,cf⟩:=B6.out.1.cell hjt
       have B7 : Hid (CW w (w6.setCell ⟨g, j, none⟩ (.int .i64 ov)) x g cap c (e2.set j ov) ∧ sm (e2.set j ov) < sm e) := ⟨B6.out.1.put (HX.out ho).1, by
        have h1:=(HX.out ho).2
        rcases B6.out.2 with h | ⟨h,-⟩
        ·omega
        ·rw [<- h];exact h1⟩
       clear HN HX B6
       go_wp2
       go_roundw
       case rel=>exact ⟨j+1,_,by omega,by go_num,B7.out.1,.inl B7.out.2⟩
       case measure=>simp [intOf];omega
      ·have HJ : Hid (sm e2 < sm e ∨ (e2 = e ∧ (∀ a, a < k → ∀ b, b < c.length → tN x.y (cN e) a b ≤ sN x.y (cN e) a b) ∧ ∀ b, b < j + 1 → tN x.y (cN e) k b ≤ sN x.y (cN e) k b)) := B6.out.2.imp id fun ⟨h1, h2, h3⟩ => ⟨h1, h2, fun b hb => by
        by_cases eb:b=j
        ·subst eb
         rw [<- h1]
         exact HN.out.1 (by omega)
        ·exact h3 b (by omega)⟩
       have B7:Hid (CW w w6 x g cap c e2):=B6.out.1
       clear HN HX B6
       go_wp2
       go_roundw
       case rel=>exact ⟨j+1,e2,by omega,by go_num,B7.out,HJ.out⟩
       case measure=>simp [intOf];omega
     ·have HK : Hid (CW w wr x g cap c e2 ∧ (sm e2 < sm e ∨ (e2 = e ∧ ∀ a, a < k + 1 → ∀ b, b < c.length → tN x.y (cN e) a b ≤ sN x.y (cN e) a b))) := ⟨HB.out.1, HB.out.2.imp id fun ⟨h1, h2, h3⟩ => ⟨h1, fun a ha b hb => by
       by_cases ea:a=k
       ·subst ea
        exact h3 b (by omega)
       ·exact h2 a (by omega) b hb⟩⟩
      clear HB
      go_wp2
      go_roundw
      case rel=>exact ⟨k+1,e2,by omega,by go_num,HK.out⟩
      case measure=>simp [intOf];omega
   ·have HK : Hid (CW w wr x g cap c e1 ∧ sm e1 < gk) := ⟨HB.out.1, by
     rw [HGN.out]
     rcases HB.out.2 with h | ⟨h1,h2⟩
     ·exact h
     ·exact absurd (fun a ha b hb=>h2 a (by have:=HQ.out;have h3:a<x.pn:=ha;omega) b (by have:=HQ.out;have h3:b<x.pn:=hb;omega)) HNW.out⟩
    clear HB HGN HNW
    go_wp2
    go_roundg (sm e1)
    case measure=>exact HK.out.2
    case rel=>exact ⟨e1,rfl,HK.out.1⟩
theorem Sy.Cl.ex {y:Sy} {c:List Int}:∀ (n:Nat) (e:List Int),sm e<=n->y.Cl c e->∃ e',y.Cl c e'/\y.Wh (cN e')
 | n,e,hn,h=>by
  by_cases hw:y.Wh (cN e)
  ·exact ⟨e,h,hw⟩
  ·obtain ⟨a,ha,b,hb,hno⟩:∃ a,a<y.pn/\∃ b,b<y.pn/\¬ tN y (cN e) a b<=sN y (cN e) a b:=by
    apply Classical.byContradiction
    intro hc
    exact hw fun a ha b hb=>Classical.byContradiction fun h'=>hc ⟨a,ha,b,hb,h'⟩
   have ho:0<=ovN y (cN e) a b:=by
    apply Classical.byContradiction
    intro h0
    exact hno (ovN_neg.1 (by omega))
   obtain ⟨h1,h2,h3⟩:=h.next ha hb ho
   have hlt:=sm_set e b _ (by rw [h.len];exact hb) h3 h2
   cases n with
   | zero=>omega
   | succ n=>exact Sy.Cl.ex n _ (by omega) h1
theorem clS_spec {y:Sy} {c:List Int} (h:cutB y c=true):y.Cl c (clS y c)/\y.Wh (cN (clS y c)):=by
 obtain ⟨e,h1,h2⟩:=Sy.Cl.ex (sm c) c (Nat.le_refl _) (Sy.Cl.start (cutB_parts h).2)
 rw [clS_yes h h1 h2]
 exact ⟨h1,h2⟩
theorem cutB_true {y:Sy} {c:List Int} (hO:y.Ok) (hC:y.Cut c):cutB y c=true:=by
 unfold cutB
 rw [Sy.okB_true hO,qB_true hC]
 rfl
theorem clS_cut {y:Sy} {c:List Int} (h:cutB y c=true):y.Cut (clS y c):=(clS_spec h).1.cut (cutB_parts h).2
theorem clS_wh {y:Sy} {c:List Int} (h:cutB y c=true):whB y (clS y c)=true:=by
 unfold whB
 rw [cutB_true (cutB_parts h).1 (clS_cut h),qB_true (clS_spec h).2]
 rfl
def bkL (y:Sy) (p:Nat) (k:Int):List Int:=(flT y y.hn).set p k
theorem zi_flT {y:Sy} {n p:Nat} (h:p<n):zi (flT y n) p=(y.hL p:Int):=by
 unfold zi flT
 simp [List.getD_eq_getElem?_getD,h]
theorem bkL_cut {y:Sy} (hO:y.Ok) {p:Nat} {k:Int} (h0:0<=k) (h1:k<=(y.hL p:Int)):y.Cut (bkL y p k):=by
 have hh:=hO.cn.2.2.1
 refine ⟨by unfold bkL;rw [List.length_set,flT_len];exact hh,fun q hq=>?_⟩
 unfold bkL
 by_cases hp:p<y.hn
 ·rw [zi_set (by rw [flT_len];exact hp)]
  by_cases e:q=p
  ·subst e
   rw [if_pos rfl]
   exact ⟨h0,h1⟩
  ·rw [if_neg e,zi_flT (by omega)]
   omega
 ·rw [List.set_eq_of_length_le (by rw [flT_len];omega),zi_flT (by omega)]
  omega
noncomputable def bkE (y:Sy) (p k:Int):List Int:=clS y (bkL y p.toNat k)
def bkIn (y:Sy) (p k:Int):Bool:=belB p y.pn && inB k 0 (y.hL p.toNat)
noncomputable def bkC (y:Sy) (p k:Int):Int:=if y.okB=true then (if bkIn y p k=true then (if wfB (y.ah (cN (bkE y p k)))=true then 0 else 3) else 2) else 1
noncomputable def bkY (y:Sy) (p k:Int):Sy:=if y.okB=true then (if bkIn y p k=true then (if wfB (y.ah (cN (bkE y p k)))=true then y.atY (cN (bkE y p k)) else y) else y) else y.nil
theorem bkIn_parts {y:Sy} {p k:Int} (h:bkIn y p k=true):∃ P:Nat,p=P/\P<y.pn/\0<=k/\k<=(y.hL P:Int):=by
 simp only [bkIn,belB,inB,Bool.and_eq_true,decide_eq_true_eq] at h
 exact ⟨p.toNat,by omega,by omega,h.2.1,h.2.2⟩
theorem bkE_cut {y:Sy} (hO:y.Ok) {p k:Int} (h:bkIn y p k=true):cutB y (bkL y p.toNat k)=true:=by
 obtain ⟨P,rfl,hP,h0,h1⟩:=bkIn_parts h
 rw [Int.toNat_natCast]
 exact cutB_true hO (bkL_cut hO h0 h1)
theorem bkY_sm (y:Sy) (p k:Int):(bkY y p k).Sm:=by
 unfold bkY
 split
 ·rename_i hk
  have hO:=Sy.ok_of hk
  split
  ·rename_i hb
   split
   ·rename_i hw
    have hc:=clS_cut (bkE_cut hO hb)
    have:=Sy.atW_sm hO (d:=cN (bkE y p k)) fun q hq=>hc.leN hq
    rw [Sy.atW,if_pos hw] at this
    exact this
   ·exact hO.sm
  ·exact hO.sm
 ·exact y.nil_sm
theorem OwnSys.weak {z:Bool} {w:World} {B:Nat} {y:Sy} {v:Value} (o:OwnSys z w B y v):OwnSys false w B y v:=by
 obtain ⟨c,vp,vs,vw,vh,up,us,uw,uh,e,o⟩:=o
 exact ⟨c,vp,vs,vw,vh,up,us,uw,uh,e,o.weak⟩
section
variable {P:Program} {a:Act} {w:World} {Q:Exit->Act->World->Prop}
def two (J0 J1:Act->World->Prop) (Q:Exit->Act->World->Prop):Exit->Act->World->Prop
 | .goto 0,a,w=>J0 a w
 | .goto 1,a,w=>J1 a w
 | .goto (_+2),_,_=>False
 | e,a,w=>Q e a w
theorem two_ret {J0 J1:Act->World->Prop}:two J0 J1 Q .ret a w=Q .ret a w:=rfl
theorem two_mono {J0 J1 K0 K1:Act->World->Prop} (h0:∀ a w,J0 a w->K0 a w) (h1:∀ a w,J1 a w->K1 a w) {e:Exit} {a:Act} {w:World} (h:two J0 J1 Q e a w):two K0 K1 Q e a w:=by
 match e,h with
 | .goto 0,h=>exact h0 _ _ h
 | .goto 1,h=>exact h1 _ _ h
 | .goto (_+2),h=>exact h.elim
 | .normal,h=>exact h
 | .exit _,h=>exact h
 | .ret,h=>exact h
 | .panic _,h=>exact h
 | .outgrown,h=>exact h
theorem wp_post {c:Code} {Q':Exit->Act->World->Prop} (h:c.wp P Q a w) (hq:∀ e a w,Q e a w->Q' e a w):c.wp P Q' a w:=fun b k cs=>by
 obtain ⟨e,a',w',h1,h2⟩:=h b k cs
 exact ⟨e,a',w',hq _ _ _ h1,h2⟩
theorem wp_scope_two {c r0 r1:Code} (J0 J1:Nat->Act->World->Prop) (f0:findLabel c 0=some (.seq .skip r0)) (f1:findLabel c 1=some (.seq .skip r1))
  (first:(∀ k a w,J0 k a w->r0.wp P (two (fun a w=>∃ k,J0 k a w) (fun a w=>∃ k,J1 k a w) Q) a w)->c.wp P (two (fun a w=>∃ k,J0 k a w) (fun a w=>∃ k,J1 k a w) Q) a w)
  (pass0:∀ k,(∀ i a w,i<=k->J1 i a w->r1.wp P (two (fun a w=>∃ j,j<k/\J0 j a w) (fun a w=>∃ j,j<k/\J1 j a w) Q) a w)->∀ a w,J0 k a w->r0.wp P (two (fun a w=>∃ j,j<k/\J0 j a w) (fun a w=>∃ j,j<k/\J1 j a w) Q) a w)
  (pass1:∀ k a w,J1 k a w->r1.wp P (two (fun a w=>∃ j,j<k/\J0 j a w) (fun a w=>∃ j,j<k/\J1 j a w) Q) a w):(Code.scope c).wp P Q a w:=by
 have p0:∀ k a w,J0 k a w->r0.wp P (two (fun a w=>∃ j,j<k/\J0 j a w) (fun a w=>∃ j,j<k/\J1 j a w) Q) a w:=fun k a w hJ=>
  pass0 k (fun i a w hi h=>wp_post (pass1 i a w h) fun _ _ _ h=>two_mono (fun _ _ ⟨j,hj,h⟩=>⟨j,by omega,h⟩) (fun _ _ ⟨j,hj,h⟩=>⟨j,by omega,h⟩) h) a w hJ
 have fst:=first fun k a w hJ=>wp_post (p0 k a w hJ) fun _ _ _ h=>two_mono (fun _ _ ⟨j,_,h⟩=>⟨j,h⟩) (fun _ _ ⟨j,_,h⟩=>⟨j,h⟩) h
 intro b k cs
 have g0:gotoIn 0 (.inScope c :: k)=some (.code (.seq .skip r0) :: .inScope c :: k):=by simp [gotoIn,f0]
 have g1:gotoIn 1 (.inScope c :: k)=some (.code (.seq .skip r1) :: .inScope c :: k):=by simp [gotoIn,f1]
 have key:∀ n,(∀ a w,J0 n a w->∃ e a' w',Q e a' w'/\Arrives P (lone (b.at a (.code (.seq .skip r0) :: .inScope c :: k)) cs w) b k cs e a' w')/\(∀ a w,J1 n a w->∃ e a' w',Q e a' w'/\Arrives P (lone (b.at a (.code (.seq .skip r1) :: .inScope c :: k)) cs w) b k cs e a' w'):=by
  intro n
  induction n using Nat.strongRecOn with
  | _ n ih=>
   have both:∀ r:Code,(∀ a w,r.wp P (two (fun a w=>∃ j,j<n/\J0 j a w) (fun a w=>∃ j,j<n/\J1 j a w) Q) a w->∃ e a' w',Q e a' w'/\Arrives P (lone (b.at a (.code r :: .inScope c :: k)) cs w) b k cs e a' w'):=by
    intro r a w hr
    obtain ⟨e,a₁,w₁,hq,harr⟩:=hr b (.inScope c :: k) cs
    match e,hq,harr with
    | .normal,hq,harr=>exact ⟨.normal,a₁,w₁,hq,Steps.trans harr (.one step_inScope)⟩
    | .exit id,hq,harr=>exact ⟨.exit id,a₁,w₁,hq,fun k' hk=>harr k' (by simp [exitTo,hk])⟩
    | .goto 0,⟨j,hj,hJ⟩,harr=>
     obtain ⟨e₂,a₂,w₂,hq₂,harr₂⟩:=(ih j hj).1 a₁ w₁ hJ
     exact ⟨e₂,a₂,w₂,hq₂,.of_steps (harr _ g0) harr₂⟩
    | .goto 1,⟨j,hj,hJ⟩,harr=>
     obtain ⟨e₂,a₂,w₂,hq₂,harr₂⟩:=(ih j hj).2 a₁ w₁ hJ
     exact ⟨e₂,a₂,w₂,hq₂,.of_steps (harr _ g1) harr₂⟩
    | .goto (_+2),hq,_=>exact hq.elim
    | .ret,hq,harr=>exact ⟨_,a₁,w₁,hq,harr⟩
    | .panic ch,hq,harr=>exact ⟨_,a₁,w₁,hq,harr⟩
    | .outgrown,hq,harr=>exact ⟨_,a₁,w₁,hq,harr⟩
   exact ⟨fun a w h=>both _ a w (wp_seq (wp_skip (p0 n a w h))),fun a w h=>both _ a w (wp_seq (wp_skip (pass1 n a w h)))⟩
 obtain ⟨e,a₁,w₁,hq,harr⟩:=fst b (.inScope c :: k) cs
 match e,hq,harr with
 | .normal,hq,harr=>exact ⟨.normal,a₁,w₁,hq,.head step_scope (Steps.trans harr (.one step_inScope))⟩
 | .exit id,hq,harr=>exact ⟨.exit id,a₁,w₁,hq,fun k' hk=>.head step_scope (harr k' (by simp [exitTo,hk]))⟩
 | .goto 0,⟨j,hJ⟩,harr=>
  obtain ⟨e₂,a₂,w₂,hq₂,harr₂⟩:=(key j).1 a₁ w₁ hJ
  exact ⟨e₂,a₂,w₂,hq₂,.of_steps (.head step_scope (harr _ g0)) harr₂⟩
 | .goto 1,⟨j,hJ⟩,harr=>
  obtain ⟨e₂,a₂,w₂,hq₂,harr₂⟩:=(key j).2 a₁ w₁ hJ
  exact ⟨e₂,a₂,w₂,hq₂,.of_steps (.head step_scope (harr _ g1)) harr₂⟩
 | .goto (_+2),hq,_=>exact hq.elim
 | .ret,hq,harr=>exact ⟨_,a₁,w₁,hq,.of_steps (.one step_scope) harr⟩
 | .panic ch,hq,harr=>exact ⟨_,a₁,w₁,hq,.of_steps (.one step_scope) harr⟩
 | .outgrown,hq,harr=>exact ⟨_,a₁,w₁,hq,.of_steps (.one step_scope) harr⟩
end
theorem run_copy_ints (w:World) (b off cc:Nat) (c:List Int) (h:Sl w (some ⟨b,off,none⟩) c) (z:Array Value) (hz:z.size=c.length):
  (Builtin.copy_ #[37,37] 3 #[.slice (some ⟨w.heap.size,0,none⟩) c.length c.length,.slice (some ⟨b,off,none⟩) c.length cc]).run Tryz.prog (w.alloc (.cells z 3))=.ok (goInt c.length) (w.alloc (.cells (c.map (Value.int .i64)).toArray 3)):=by
 have hl:(c.map (Value.int .i64)).length=c.length:=by simp
 have h2:=run_copy_row (P:=Tryz.prog) (w.alloc (.cells z 3)) 37 37 3 3 w.heap.size 0 c.length c.length ⟨b,off,none⟩ c.length cc z 3 (c.map (Value.int .i64)) Tryz.underlying37 sizeInt (heap_alloc_new w _) (by rw [hl];exact (Nat.min_self _).symm) (src_of_sl h (zT _ _)) (by rw [hl,hz];omega) (one_ints c)
 rw [h2,setRow_alloc,hl]
 simp only [List.take_zero,List.nil_append,Nat.zero_add]
 rw [List.drop_of_length_le (by simp [hz]),List.append_nil]
theorem copyOfInt_any (ca:Option Addr) (cc:Nat) (c:List Int) (w:World) (hn:0<c.length) (hl:c.length<=1048576) (hc:Sl w ca c):
  Calls Tryz.prog 162 #[.slice ca c.length cc] w fun e w'=>e=.returned (.slice (some ⟨w.heap.size,0,none⟩) c.length c.length)/\OwnI w' w.heap.size (.slice (some ⟨w.heap.size,0,none⟩) c.length c.length) c/\Below w.heap.size w w':=by
 obtain ⟨b,off,rfl,-,-⟩:=hc.all hn
 have hl':(c.length:Int)<=1048576:=by omega
 have hmk:=run_make_int c.length hl
 have hcp:=run_copy_ints w b off cc c hc (madeCells #[.int .i64 0] c.length) (by simp [size_madeCells])
 have HO:Hid (OwnI (w.alloc (.cells (c.map (Value.int .i64)).toArray 3)) w.heap.size (.slice (some ⟨w.heap.size,0,none⟩) c.length c.length) c/\Below w.heap.size w (w.alloc (.cells (c.map (Value.int .i64)).toArray 3))):=by
  refine ⟨?_,zT _ _⟩
  have:=World.ownsRow_lit (base:=w.heap.size) (e:=3) (size:=1) w (c.map (Value.int .i64)).toArray c.length (Nat.le_refl _) (by unfold maxLen;omega) (by simp)
  exact this
 clear hc
 go_enter Tryz.func162,Tryz.ntmps162
 go_wp2
 go_ret
 exact ⟨rfl,HO.out⟩
def CJ0 (w:World) (x:SysIn) (ca:Option Addr) (cc:Nat) (c:List Int) (k:Nat) (a:Act) (wr:World):Prop:=∃ (g:Nat) (e:List Int) (u3 u7 u8 u9 u10 u11 u12 u13 u14 u15 u16 u17 u18 u19 u20 u21 u22 u23 u24 u25 u26 u27 u28 u29 u30 u31 u32 u33 u34 u35 u36 u37 u38 u39 u40 u41 u42 u43 u44:Value),a={ tmps:=#[x.v,.slice ca c.length cc,.pointer (some ⟨w.heap.size,0,none⟩),u3,.slice none 0 0,.slice (some ⟨g,0,none⟩) c.length c.length,.int .i64 (c.length:Nat),u7,u8,u9,u10,u11,u12,u13,u14,u15,u16,u17,u18,u19,u20,u21,u22,u23,u24,u25,u26,u27,u28,u29,u30,u31,u32,u33,u34,u35,u36,u37,u38,u39,u40,u41,u42,u43,u44],defers:=[] }/\Hid (CW w wr x g c.length c e/\k=sm e*40+20)
structure CH (wr:World) (x:SysIn) (X m:Nat) (c e:List Int):Prop where
 c0:∃ ea ec,wr.cell? ⟨X,0,none⟩=some (.slice ea c.length ec)/\RowS wr ea c.length fun i=>.slice (x.hA i) (cN e i) (cN e i)
 lt:m<=c.length*c.length
 ok:∀ i,i<m->tN x.y (cN e) (i / c.length) (i % c.length)<=sN x.y (cN e) (i / c.length) (i % c.length)
theorem CH.below {wr w':World} {x:SysIn} {X m:Nat} {c e:List Int} (h:CH wr x X m c e) (hb:Below wr.heap.size wr w'):CH w' x X m c e:=by
 obtain ⟨ea,ec,h0,h1⟩:=h.c0
 exact ⟨⟨ea,ec,(hb.cell (p:=⟨X,0,none⟩) (zJ wr _ h0)).trans h0,h1.below hb⟩,h.lt,h.ok⟩
def CJ1 (w:World) (x:SysIn) (ca:Option Addr) (cc:Nat) (c:List Int) (k:Nat) (a:Act) (wr:World):Prop:=∃ (g X m:Nat) (e:List Int) (u3 u9 u10 u11 u12 u13 u14 u15 u16 u17 u18 u19 u20 u21 u22 u23 u24 u25 u26 u27 u28 u29 u30 u31 u32 u33 u34 u35 u36 u37 u38 u39 u40 u41 u42 u43 u44:Value),a={ tmps:=#[x.v,.slice ca c.length cc,.pointer (some ⟨w.heap.size,0,none⟩),u3,.slice none 0 0,.slice (some ⟨g,0,none⟩) c.length c.length,.int .i64 (c.length:Nat),.pointer (some ⟨X,0,none⟩),.int .i64 (m:Nat),u9,u10,u11,u12,u13,u14,u15,u16,u17,u18,u19,u20,u21,u22,u23,u24,u25,u26,u27,u28,u29,u30,u31,u32,u33,u34,u35,u36,u37,u38,u39,u40,u41,u42,u43,u44],defers:=[] }/\Hid (CW w wr x g c.length c e/\CH wr x X m c e/\k=sm e*40+(16 - m))
theorem CJ0.mk {w:World} {x:SysIn} {ca:Option Addr} {cc:Nat} {c:List Int} {k g:Nat} {e:List Int} {wr:World} {u3 u7 u8 u9 u10 u11 u12 u13 u14 u15 u16 u17 u18 u19 u20 u21 u22 u23 u24 u25 u26 u27 u28 u29 u30 u31 u32 u33 u34 u35 u36 u37 u38 u39 u40 u41 u42 u43 u44:Value} (h:CW w wr x g c.length c e) (hk:k=sm e*40+20):CJ0 w x ca cc c k { tmps:=#[x.v,.slice ca c.length cc,.pointer (some ⟨w.heap.size,0,none⟩),u3,.slice none 0 0,.slice (some ⟨g,0,none⟩) c.length c.length,.int .i64 (c.length:Nat),u7,u8,u9,u10,u11,u12,u13,u14,u15,u16,u17,u18,u19,u20,u21,u22,u23,u24,u25,u26,u27,u28,u29,u30,u31,u32,u33,u34,u35,u36,u37,u38,u39,u40,u41,u42,u43,u44],defers:=[] } wr:=⟨g,e,u3,u7,u8,u9,u10,u11,u12,u13,u14,u15,u16,u17,u18,u19,u20,u21,u22,u23,u24,u25,u26,u27,u28,u29,u30,u31,u32,u33,u34,u35,u36,u37,u38,u39,u40,u41,u42,u43,u44,rfl,h,hk⟩
theorem CJ1.mk {w:World} {x:SysIn} {ca:Option Addr} {cc:Nat} {c:List Int} {k g X m:Nat} {e:List Int} {wr:World} {u3 u9 u10 u11 u12 u13 u14 u15 u16 u17 u18 u19 u20 u21 u22 u23 u24 u25 u26 u27 u28 u29 u30 u31 u32 u33 u34 u35 u36 u37 u38 u39 u40 u41 u42 u43 u44:Value} (h:CW w wr x g c.length c e) (hh:CH wr x X m c e) (hk:k=sm e*40+(16 - m)):CJ1 w x ca cc c k { tmps:=#[x.v,.slice ca c.length cc,.pointer (some ⟨w.heap.size,0,none⟩),u3,.slice none 0 0,.slice (some ⟨g,0,none⟩) c.length c.length,.int .i64 (c.length:Nat),.pointer (some ⟨X,0,none⟩),.int .i64 (m:Nat),u9,u10,u11,u12,u13,u14,u15,u16,u17,u18,u19,u20,u21,u22,u23,u24,u25,u26,u27,u28,u29,u30,u31,u32,u33,u34,u35,u36,u37,u38,u39,u40,u41,u42,u43,u44],defers:=[] } wr:=⟨g,X,m,e,u3,u9,u10,u11,u12,u13,u14,u15,u16,u17,u18,u19,u20,u21,u22,u23,u24,u25,u26,u27,u28,u29,u30,u31,u32,u33,u34,u35,u36,u37,u38,u39,u40,u41,u42,u43,u44,rfl,h,hh,hk⟩
theorem implClose_any (x:SysIn) (ca:Option Addr) (cc:Nat) (c:List Int) (w:World) (hG:SysG w x) (hL:x.Len) (hcap:∀ i,i<x.hn->x.hL i<=x.hC i) (hc:Sl w ca c) (hcl:c.length<=1048576) (hV:w.cell? ⟨0,0,none⟩=some (.iface 272 (.agg #[.pointer (some ⟨1,172,none⟩)]))):
  Calls Tryz.prog 88 #[x.v,.slice ca c.length cc] w fun e w'=>∃ u,e=.returned u/\OwnI w' w.heap.size u (clS x.y c)/\Below w.heap.size w w':=by
 have HS:Hid (∀ wx,Below w.heap.size w wx->Calls Tryz.prog 145 #[x.v,.slice ca c.length cc] wx fun e w'=>e=.returned (.bool (cutB x.y c))/\Below wx.heap.size wx w'):=fun wx hb=>implCutOk_any x ca cc c wx (hG.below hb) hL (hc.below hb) hcl ((hb.cell (p:=⟨0,0,none⟩) (zJ w _ hV)).trans hV)
 have BW:Hid (Below w.heap.size w (w.alloc (oQ5 x.pa x.pn x.pc x.sa x.sn x.sc x.wa x.wn x.wc x.ha x.hn x.hc))):=zT _ _
 have NB:Hid (BoxC (w.alloc (oQ5 x.pa x.pn x.pc x.sa x.sn x.sc x.wa x.wn x.wc x.ha x.hn x.hc)) w.heap.size (.slice x.pa x.pn x.pc) (.slice x.sa x.sn x.sc) (.slice x.wa x.wn x.wc) (.slice x.ha x.hn x.hc)/\w.heap.size<(w.alloc (oQ5 x.pa x.pn x.pc x.sa x.sn x.sc x.wa x.wn x.wc x.ha x.hn x.hc)).heap.size):=⟨BoxC.new w _ _ _ _ _,by simp⟩
 rcases zK (cutB x.y c) with ht | ht
 case inr=>
  have HV:Hid (clS x.y c=[]):=clS_no ht
  rw [ht] at HS
  clear hG hL hcap hc hV ht
  go_enter Tryz.func88,Tryz.ntmps88
  go_wp2_with fail
  go_step3
  go_wp2_with fail
  generalize w.alloc (oQ5 x.pa x.pn x.pc x.sa x.sn x.sc x.wa x.wn x.wc x.ha x.hn x.hc)=W2 at *
  refine (HS.out W2 BW.out).mono ?_
  rintro e w1 ⟨rfl,q1⟩
  have OE:Hid (OwnI (w1.alloc (.cells #[] 3)) w.heap.size (.slice (some ⟨w1.heap.size,0,none⟩) 0 0) []/\Below w.heap.size w (w1.alloc (.cells #[] 3))):=by
   have h:=BW.out.trans (q1.mono BW.out.size)
   exact ⟨(own_empty w1).mono h.size,h.trans ((zT _ _).mono h.size)⟩
  clear q1 BW NB HS
  go_wp2
  rw [Exit.noGoto_ret]
  go_ret
  rw [HV.out]
  exact ⟨_,rfl,OE.out⟩
 obtain ⟨hO,hC⟩:=cutB_parts ht
 have hln:c.length=x.pn:=hC.len
 have h1:1<=x.pn:=hO.cn.1.1
 have h4:x.pn<=4:=hO.cn.1.2
 have hl':(c.length:Int)<=4:=by omega
 have hl1:(1:Int)<=(c.length:Int):=by omega
 have hl0:¬ (c.length:Int)=0:=by omega
 have hm0:0<=(c.length:Int)*(c.length:Int):=Int.mul_nonneg (by omega) (by omega)
 have hm16:(c.length:Int)*(c.length:Int)<=16:=by
  have:=Int.mul_le_mul (show (c.length:Int)<=4 by omega) (show (c.length:Int)<=4 by omega) (by omega) (by omega)
  omega
 have HQ:Hid (c.length=x.pn/\0<c.length/\c.length<=4):=⟨hln,by omega,by omega⟩
 have HSl:Hid (Sl w ca c):=hc
 have HSt:Hid (x.y.Cl c c):=Sy.Cl.start hC
 have HEnd:Hid (∀ e,x.y.Cl c e->x.y.Wh (cN e)->clS x.y c=e):=fun e h h'=>clS_yes ht h h'
 have HH:Hid (∀ wr g e,CW w wr x g c.length c e->Calls Tryz.prog 66 #[x.v,.slice (some ⟨g,0,none⟩) c.length c.length] wr fun r w'=>∃ ha hc,r=.returned (.agg (hcL ha c.length hc).toArray)/\RowS w' ha c.length (fun i=>.slice (x.hA i) (cN e i) (cN e i))/\Below wr.heap.size wr w'):=fun wr g e h=>by
  have:=historyAt_any x (some ⟨g,0,none⟩) c.length e wr (hG.below h.be) hcap hO.cn.2.2.1 h4 (h.cl.cut hC) h.slOf
  rwa [h.ln] at this
 have HU:Hid (∀ wr g X m e a b,CW w wr x g c.length c e->CH wr x X m c e->a<c.length->b<c.length->Calls Tryz.prog 163 #[.pointer (some ⟨X,0,none⟩),.int .i64 (a:Nat),.int .i64 (b:Nat)] wr fun r w'=>r=.returned (.int .i64 (ovN x.y (cN e) a b))/\Below wr.heap.size wr w'):=fun wr g X m e a b h hh ha hb=>by
  obtain ⟨ea,ec,c0,hr⟩:=hh.c0
  have hCe:=h.cl.cut hC
  rw [<- h.ln] at c0 hr ha hb
  have hn:e.length=x.pn:=hCe.len
  exact unsentH_any X ec ea x.hA (cN e) (x.y.at e) a b wr c0 (hisE_at hG h.be hCe hO.cn.2.2.1 hr) (fun i hi=>zP (hCe.leN (by have h2:i<e.length:=hi;show i<x.pn;omega)) (hO.hl200 (by have h2:i<e.length:=hi;show i<x.pn;omega))) ha hb
 have HNx:Hid (∀ wr g e a b,CW w wr x g c.length c e->a<c.length->b<c.length->0<=ovN x.y (cN e) a b->x.y.Cl c (e.set b (ovN x.y (cN e) a b))/\sm (e.set b (ovN x.y (cN e) a b))<sm e):=fun wr g e a b h ha hb h0=>by
  obtain ⟨q1,q2,q3⟩:=h.cl.next (a:=a) (b:=b) (by show a<x.pn;omega) (by show b<x.pn;omega) h0
  exact ⟨q1,sm_set e b _ (by rw [h.ln];exact hb) q3 q2⟩
 rw [ht] at HS
 clear hG hL hcap hc hV ht hO hC hln h1 h4
 go_enter Tryz.func88,Tryz.ntmps88
 go_wp2_with fail
 refine wp_scope_two (CJ0 w x ca cc c) (CJ1 w x ca cc c) rfl rfl ?first ?pass0 ?pass1
 case first=>
  intro hyp
  go_wp2_with fail
  generalize w.alloc (oQ5 x.pa x.pn x.pc x.sa x.sn x.sc x.wa x.wn x.wc x.ha x.hn x.hc)=W2 at *
  refine (HS.out W2 BW.out).mono ?_
  rintro e w1 ⟨rfl,q1⟩
  have B1:Hid (Below w.heap.size w w1/\BoxC w1 w.heap.size (.slice x.pa x.pn x.pc) (.slice x.sa x.sn x.sc) (.slice x.wa x.wn x.wc) (.slice x.ha x.hn x.hc)/\w.heap.size<w1.heap.size):=⟨BW.out.trans (q1.mono BW.out.size),NB.out.1.below q1,zL NB.out.2 q1.size⟩
  clear q1 BW NB HS
  go_wp2_with fail
  refine (copyOfInt_any ca cc c w1 HQ.out.2.1 (by have:=HQ.out;omega) (HSl.out.below B1.out.1)).mono ?_
  rintro e w2 ⟨rfl,o2,q2⟩
  have B2:Hid (CW w w2 x w1.heap.size c.length c c):=⟨o2.mono B1.out.2.2,B1.out.1.trans (q2.mono B1.out.1.size),B1.out.2.1.below q2,HSt.out,rfl⟩
  clear q2 o2 B1
  generalize w1.heap.size=g at *
  go_wp2_with fail
  go_step3
  rename_i K hK
  exact hK _ _ (hyp _ _ _ (CJ0.mk B2.out rfl))
 case pass0=>
  intro k hyp a' wr hJ
  obtain ⟨g,e,u3,u7,u8,u9,u10,u11,u12,u13,u14,u15,u16,u17,u18,u19,u20,u21,u22,u23,u24,u25,u26,u27,u28,u29,u30,u31,u32,u33,u34,u35,u36,u37,u38,u39,u40,u41,u42,u43,u44,rfl,HB⟩:=hJ
  obtain ⟨b0,b1,b2,b3⟩:=HB.out.1.bx
  clear HS BW NB HSl HSt
  go_wp2_with fail
  refine (HH.out wr g e HB.out.1).mono ?_
  rintro r w2 ⟨ea,ec,rfl,r2,q2⟩
  have B2:Hid (CW w w2 x g c.length c e/\RowS w2 ea c.length (fun i=>.slice (x.hA i) (cN e i) (cN e i))/\k=sm e*40+20):=⟨HB.out.1.below q2,r2,HB.out.2⟩
  clear q2 r2 b0 b1 b2 b3 HB HH
  have hl:=hcL_len ea c.length ec
  have ho:=hcL_one ea c.length ec
  generalize hcs:hcL ea c.length ec=cl at *
  have hs:cl.toArray.size=21:=by simpa using hl
  have HI:Hid ((Tryz.prog.info? 79).map (·.size)=some cl.toArray.size):=by show _=_;rw [hs];exact infoHistory
  have HO:Hid (cl.toArray.all (·.oneCell')=true):=all_oneCell_toArray ho
  have HT:Hid ((w2.alloc (zQ3)).there w2.heap.size 0 cl.toArray.size):=there_new _ _ _ _ _ (by rw [hs];rfl) rfl
  have BE:Hid (Below w2.heap.size w2 ((w2.alloc (zQ3)).setCells w2.heap.size 0 cl)):=(Touch.sets (P:=fun b=>b=w2.heap.size) rfl _ _ (Touch.of_below (zT _ _))).below (Nat.le_refl _) fun b e=>by omega
  have HR:((w2.alloc (zQ3)).setCells w2.heap.size 0 cl).rangeAt w2.heap.size 0 cl:=World.rangeAt_setCells_same _ _ _ _ (by simpa using HT.out)
  have HCe:Hid (((w2.alloc (zQ3)).setCells w2.heap.size 0 cl).cell? ⟨w2.heap.size,0,none⟩=some (.slice ea c.length ec)):=his_cell HR hcs
  clear hl ho hs HR hcs
  go_wp2_with (refine wpList_store_mid rfl 79 (.tmp 7) (.tmp 22) rfl w2.heap.size 0 cl.toArray rfl rfl HT.out HI.out HO.out ?_)
  clear HT HI HO
  generalize (w2.alloc (zQ3)).setCells w2.heap.size 0 cl=w3 at *
  have B3:Hid (CW w w3 x g c.length c e/\CH w3 x w2.heap.size 0 c e/\k=sm e*40+20):=⟨B2.out.1.below BE.out,⟨⟨ea,ec,HCe.out,B2.out.2.1.below BE.out⟩,Nat.zero_le _,fun i hi=>by omega⟩,B2.out.2.2⟩
  clear BE B2 HCe
  generalize w2.heap.size=X at *
  go_step3
  rename_i K hK
  exact hK _ _ (hyp (sm e*40+16) _ _ (by have:=B3.out.2.2;omega) (CJ1.mk (m:=0) B3.out.1 B3.out.2.1 rfl))
 case pass1=>
  intro k a' wr hJ
  obtain ⟨g,X,m,e,u3,u9,u10,u11,u12,u13,u14,u15,u16,u17,u18,u19,u20,u21,u22,u23,u24,u25,u26,u27,u28,u29,u30,u31,u32,u33,u34,u35,u36,u37,u38,u39,u40,u41,u42,u43,u44,rfl,HB⟩:=hJ
  clear HS BW NB HSl HSt HH
  rcases zK ((m:Int) == (c.length:Int)*(c.length:Int)) with t | t
  ·have HM:Hid (m=c.length*c.length):=by
    have h:(m:Int)=(c.length:Int)*(c.length:Int):=by simpa using t
    rw [<- Int.natCast_mul] at h
    show m=_
    omega
   have HV:Hid (OwnI wr w.heap.size (.slice (some ⟨g,0,none⟩) c.length c.length) (clS x.y c)/\Below w.heap.size w wr):=by
    have hw:x.y.Wh (cN e):=fun a ha b hb=>by
     have hq:=HQ.out
     have ha':a<c.length:=by have h3:a<x.pn:=ha;omega
     have hb':b<c.length:=by have h3:b<x.pn:=hb;omega
     have h := HB.out.2.1.ok (a * c.length + b) (by
      rw [HM.out]
      have h5:(a+1)*c.length<=c.length*c.length:=Nat.mul_le_mul_right _ ha'
      rw [Nat.add_mul,Nat.one_mul] at h5
      omega)
     rw [Nat.mul_add_mod' a c.length b,Nat.mod_eq_of_lt hb',Nat.mul_comm a,Nat.mul_add_div (by omega),Nat.div_eq_of_lt hb',Nat.add_zero] at h
     exact h
    rw [HEnd.out e HB.out.1.cl hw]
    exact ⟨HB.out.1.ow.mono (by omega),HB.out.1.be⟩
   clear HB HM
   go_wp2
   rw [two_ret]
   go_ret
   exact ⟨_,rfl,HV.out⟩
  have hmlt:m<c.length*c.length:=by
   have h:=HB.out.2.1.lt
   have h2:m≠c.length*c.length:=fun h=>by
    rw [h,Int.natCast_mul] at t
    simp at t
   omega
  have hm16':c.length*c.length<=16:=by
   have hq:=HQ.out
   exact Nat.mul_le_mul hq.2.2 hq.2.2
  have hmi:(m:Int)<=16:=by omega
  have eq1:Int.tdiv (m:Int) (c.length:Int)=((m / c.length:Nat):Int):=(Int.ofNat_tdiv m c.length).symm
  have eq2:Int.tmod (m:Int) (c.length:Int)=((m % c.length:Nat):Int):=(Int.ofNat_tmod m c.length).symm
  have HM:Hid (m<c.length*c.length/\m<16/\m / c.length<c.length/\m % c.length<c.length):=⟨hmlt,by omega,Nat.div_lt_of_lt_mul hmlt,Nat.mod_lt _ HQ.out.2.1⟩
  have ha4:((m / c.length:Nat):Int)<=4:=by have:=HM.out;have:=HQ.out;omega
  have hb4:((m % c.length:Nat):Int)<(c.length:Int):=by have:=HM.out;omega
  clear hmlt hm16'
  generalize hA':m / c.length=A at *
  generalize hB':m % c.length=B at *
  have HAB:Hid (m / c.length=A/\m % c.length=B):=⟨hA',hB'⟩
  clear hA' hB'
  go_wp2_with fail
  refine (HU.out wr g X m e (A) (B) HB.out.1 HB.out.2.1 HM.out.2.2.1 HM.out.2.2.2).mono ?_
  rintro r w3 ⟨rfl,q3⟩
  have B3:Hid (CW w w3 x g c.length c e/\CH w3 x X m c e/\k=sm e*40+(16 - m)):=⟨HB.out.1.below q3,HB.out.2.1.below q3,HB.out.2.2⟩
  have HN:Hid (ovN x.y (cN e) (A) (B)<0 ↔ tN x.y (cN e) (A) (B)<=sN x.y (cN e) (A) (B)):=ovN_neg
  have HX:Hid (0<=ovN x.y (cN e) (A) (B)->x.y.Cl c (e.set (B) (ovN x.y (cN e) (A) (B)))/\sm (e.set (B) (ovN x.y (cN e) (A) (B)))<sm e):=fun h=>HNx.out w3 g e _ _ B3.out.1 HM.out.2.2.1 HM.out.2.2.2 h
  generalize ovN x.y (cN e) (A) (B)=ov at *
  clear q3 HB HU HNx
  by_cases ho:ov<0
  ·have B4 : Hid (CW w w3 x g c.length c e ∧ CH w3 x X (m + 1) c e ∧ sm e * 40 + (16 - (m + 1)) < k) := ⟨B3.out.1, ⟨B3.out.2.1.c0, HM.out.1, fun i hi => by
    by_cases ei:i=m
    ·subst ei
     rw [HAB.out.1,HAB.out.2]
     exact HN.out.1 ho
    ·exact B3.out.2.1.ok i (by omega)⟩,by
    rw [B3.out.2.2]
    have:=HM.out.2.1
    omega⟩
   clear B3 HN HX
   go_wp2_with fail
   go_step3
   have e8:(m:Int)+1=((m+1:Nat):Int):=by omega
   rw [e8]
   exact ⟨_,B4.out.2.2,CJ1.mk (m:=m+1) B4.out.1 B4.out.2.1 rfl⟩
  ·obtain ⟨ce,cf⟩:=B3.out.1.cell HM.out.2.2.2
   have B4 : Hid (CW w (w3.setCell ⟨g, B, none⟩ (.int .i64 ov)) x g c.length c (e.set (B) ov) ∧ sm (e.set (B) ov) * 40 + 20 < k) := ⟨B3.out.1.put (HX.out (by omega)).1, by
    rw [B3.out.2.2]
    have:=(HX.out (by omega)).2
    omega⟩
   clear B3 HN HX
   go_wp2_with fail
   go_step3
   exact ⟨_,B4.out.2,CJ0.mk B4.out.1 rfl⟩
theorem l8Full_any (x:SysIn) (w:World) (hG:SysG w x) (hL:x.Len):
  Calls Tryz.prog 84 #[x.v] w fun e w'=>∃ u,e=.returned u/\OwnI w' w.heap.size u (flT x.y x.hn)/\Below w.heap.size w w':=by
 have HG:Hid (SysG w x):=hG
 have hl':(x.hn:Int)<=1048576:=by have:=hL.h.1;omega
 have HLh:Hid (∀ i,i<x.hn->x.hL i<=1048576):=hL.h.2
 have BW:Hid (Below w.heap.size w ((w.alloc (oQ5 x.pa x.pn x.pc x.sa x.sn x.sc x.wa x.wn x.wc x.ha x.hn x.hc)).alloc (.cells #[] 3))):=(zT _ _).trans ((zT _ _).mono (by simp))
 have NB:Hid (BoxC ((w.alloc (oQ5 x.pa x.pn x.pc x.sa x.sn x.sc x.wa x.wn x.wc x.ha x.hn x.hc)).alloc (.cells #[] 3)) w.heap.size (.slice x.pa x.pn x.pc) (.slice x.sa x.sn x.sc) (.slice x.wa x.wn x.wc) (.slice x.ha x.hn x.hc)):=(BoxC.new w _ _ _ _ _).below (zT _ _)
 have NO:Hid (OwnI ((w.alloc (oQ5 x.pa x.pn x.pc x.sa x.sn x.sc x.wa x.wn x.wc x.ha x.hn x.hc)).alloc (.cells #[] 3)) (w.heap.size+1) (.slice (some ⟨w.heap.size+1,0,none⟩) 0 0) (flT x.y 0)):=own_emptyN (w.alloc (oQ5 x.pa x.pn x.pc x.sa x.sn x.sc x.wa x.wn x.wc x.ha x.hn x.hc)) (by simp)
 have LT:Hid (w.heap.size+1<=((w.alloc (oQ5 x.pa x.pn x.pc x.sa x.sn x.sc x.wa x.wn x.wc x.ha x.hn x.hc)).alloc (.cells #[] 3)).heap.size):=by
  show _<=_
  simp
 clear hG hL
 go_enter Tryz.func84,Tryz.ntmps84
 go_wp2_with fail
 generalize (w.alloc (oQ5 x.pa x.pn x.pc x.sa x.sn x.sc x.wa x.wn x.wc x.ha x.hn x.hc)).alloc (.cells #[] 3)=W2 at *
 go_loopw [3,4] (fun o i wr=>∃ k:Nat,k<=x.hn/\i=.int .i64 k/\Hid (OwnI wr (w.heap.size+1) o (flT x.y k)/\Below w.heap.size w wr/\BoxC wr w.heap.size (.slice x.pa x.pn x.pc) (.slice x.sa x.sn x.sc) (.slice x.wa x.wn x.wc) (.slice x.ha x.hn x.hc)/\w.heap.size+1<=wr.heap.size)) (fun _ i _=>x.hn - (intOf i).toNat)
 case atStart=>exact ⟨0,Nat.zero_le _,rfl,NO.out,BW.out,NB.out,LT.out⟩
 case round=>
  clear BW NB NO LT
  obtain ⟨k,hk,rfl,HB⟩:=hrel
  by_cases hlt:k<x.hn
  ·have hlt':(k:Int)<(x.hn:Int):=by omega
   obtain ⟨bh,oh,eh,ch⟩:=(HG.out.below HB.out.2.1).h.at hlt
   have b3:=HB.out.2.2.1.2.2.2
   rw [eh] at b3
   clear eh
   have hfl:=flT_len x.y k
   have hlk:(x.hL k:Int)<=1048576:=by have:=HLh.out k hlt;omega
   have HF:Hid (flT x.y (k+1)=flT x.y k ++ [(x.hL k:Int)]):=flT_next x.y k
   have HFl:Hid ((flT x.y k).length<=1048576):=by show _<=_;omega
   clear hfl
   go_wp2_with (at_builtin;refine append_one wr rfl _ _ rfl (w.heap.size+1) u3 (flT x.y k) rfl HB.out.1 (x.hL k:Int) rfl HFl.out HB.out.2.2.2 ?_;intro v' w4 o4 b4;have H4:Hid (OwnI w4 (w.heap.size+1) v' (flT x.y (k+1))/\Below w.heap.size w w4/\BoxC w4 w.heap.size (.slice x.pa x.pn x.pc) (.slice x.sa x.sn x.sc) (.slice x.wa x.wn x.wc) (.slice x.ha x.hn x.hc)/\w.heap.size+1<=w4.heap.size):=⟨o4.to HF.out,HB.out.2.1.trans (b4.mono (by omega)),HB.out.2.2.1.belowB b4 (by omega),zP HB.out.2.2.2 b4.size⟩;clear o4 b4)
   go_roundw
   case rel=>exact ⟨k+1,by omega,by go_num,H4.out⟩
   case measure=>simp [intOf];omega
  ·have hkl:k=x.hn:=by omega
   have H4:Hid (OwnI wr w.heap.size u3 (flT x.y x.hn)/\Below w.heap.size w wr):=by
    have:=HB.out
    rw [hkl] at this
    exact ⟨this.1.mono (by omega),this.2.1⟩
   have b3:=HB.out.2.2.1.2.2.2
   clear HB hkl
   go_wp2
   go_ret
   exact ⟨_,rfl,H4.out⟩
theorem IsSys.g2 {w:World} {lo hi:Nat} {x:SysIn} {v:Value} (o:IsSys w lo hi x v):∃ x':SysIn,v=x'.v/\SysG w x'/\x'.y=x.y/\∀ i,i<x'.hn->x'.hL i<=x'.hC i:=by
 obtain ⟨D1,D2,D3,D4,b1,vs,b3,b4,h1,h2,h3,o⟩:=o
 obtain ⟨q1,q2,q3,q4,-⟩:=o.hi
 have hst:∀ i,i<x.sn->∃ t:Option Addr × Nat × Option Addr × Nat,vs i=stV (x.sS i).p t.1 (x.sS i).rs.length t.2.1 t.2.2.1 (x.sS i).os.length t.2.2.2 (x.sS i).c/\w.cell? ⟨D2,i*4,none⟩=some (.int .i64 (x.sS i).p)/\w.cell? ⟨D2,i*4+1,none⟩=some (.slice t.1 (x.sS i).rs.length t.2.1)/\w.cell? ⟨D2,i*4+2,none⟩=some (.slice t.2.2.1 (x.sS i).os.length t.2.2.2)/\w.cell? ⟨D2,i*4+3,none⟩=some (.int .i64 (x.sS i).c):=by
  intro i hi
  obtain ⟨ra,rc,oa,oc,e,c0,c1,c2,c3⟩:=o.ss.cel i hi
  exact ⟨(ra,rc,oa,oc),e,c0,c1,c2,c3⟩
 have inh:Inhabited (Option Addr × Nat × Option Addr × Nat):=⟨(none,0,none,0)⟩
 obtain ⟨t,ht⟩:=Go.Deep.choose_lt hst
 refine ⟨⟨some ⟨D1,0,none⟩,x.pn,x.pn,fun i=>some ⟨b1 i,0,none⟩,x.pL,x.pL,x.pH,some ⟨D2,0,none⟩,x.sn,x.sn,fun i=>⟨(x.sS i).p,(t i).1,(t i).2.1,(x.sS i).rs,(t i).2.2.1,(t i).2.2.2,(x.sS i).os,(x.sS i).c⟩,some ⟨D3,0,none⟩,x.wn,x.wn,fun i=>some ⟨b3 i,0,none⟩,x.wL,x.wL,x.wH,some ⟨D4,0,none⟩,x.hn,x.hn,fun i=>some ⟨b4 i,0,none⟩,x.hL,x.hL,x.hH⟩,o.val,?_,rfl,fun i _=>Nat.le_refl _⟩
 have l1:=o.pp.lt
 have l2:=o.ss.lt
 have l3:=o.ww.lt
 have l4:=o.hh.lt
 refine ⟨.inr ⟨D1,0,rfl,by omega,fun i hi=>?_⟩,fun i hi=>⟨b1 i,rfl,zL (o.pp.bd i hi).2 o.pp.le,o.pp.row i hi⟩,⟨.inr ⟨D2,0,rfl,by omega,fun i hi=>?_⟩,fun i hi=>?_⟩,.inr ⟨D3,0,rfl,by omega,fun i hi=>?_⟩,fun i hi=>.inr ⟨b3 i,0,rfl,zL (o.ww.bd i hi).2 o.ww.le,o.ww.row i hi⟩,.inr ⟨D4,0,rfl,by omega,fun i hi=>?_⟩,fun i hi=>.inr ⟨b4 i,0,rfl,zL (o.hh.bd i hi).2 o.hh.le,o.hh.row i hi⟩⟩
 ·have:=o.pp.cel i hi
  simpa using this
 ·have:=(ht i hi).2
  simpa using this
 ·have h4:=o.ss.own i hi
  rw [(ht i hi).1] at h4
  exact ⟨h4.parts.1.slOf,h4.parts.2.1.slOf⟩
 ·have:=o.ww.cel i hi
  simpa using this
 ·have:=o.hh.cel i hi
  simpa using this
theorem SysIn.len_of {x x':SysIn} (hs:x.size<=1048576) (hy:x'.y=x.y):x'.Len:=by
 have l:=SysIn.lens hs
 have e1:x'.pn=x.pn:=congrArg Sy.pn hy
 have e2:x'.pL=x.pL:=congrArg Sy.pL hy
 have e3:x'.sn=x.sn:=congrArg Sy.sn hy
 have e4:x'.sS=x.sS:=congrArg Sy.sS hy
 have e5:x'.wn=x.wn:=congrArg Sy.wn hy
 have e6:x'.wL=x.wL:=congrArg Sy.wL hy
 have e7:x'.hn=x.hn:=congrArg Sy.hn hy
 have e8:x'.hL=x.hL:=congrArg Sy.hL hy
 refine ⟨⟨by omega,fun i hi=>?_⟩,⟨by omega,fun i hi=>?_⟩,⟨by omega,fun i hi=>?_⟩,⟨by omega,fun i hi=>?_⟩⟩
 ·rw [e2]
  exact sum_le l.1.2 i (by omega)
 ·have h1:=SysIn.lensS hs i (by omega)
  have h2:x'.sS i=x.sS i:=by rw [e4]
  have h3:(x'.sQ i).rs=(x.sQ i).rs:=congrArg S4.rs h2
  have h4:(x'.sQ i).os=(x.sQ i).os:=congrArg S4.os h2
  rw [h3,h4]
  exact h1
 ·rw [e6]
  exact sum_le l.2.2.1.2 i (by omega)
 ·rw [e8]
  exact sum_le l.2.2.2.2 i (by omega)
structure Px (W:World) (x:SysIn) (w:World):Prop where
 be:Below W.heap.size W w
 bx:BoxC w W.heap.size (.slice x.pa x.pn x.pc) (.slice x.sa x.sn x.sc) (.slice x.wa x.wn x.wc) (.slice x.ha x.hn x.hc)
 lt:W.heap.size<w.heap.size
theorem Px.below {W:World} {x:SysIn} {w w':World} (h:Px W x w) (hb:Below w.heap.size w w'):Px W x w':=⟨h.be.trans (hb.mono (Nat.le_of_lt h.lt)),h.bx.below hb,zL h.lt hb.size⟩
noncomputable def stC (y:Sy) (p f:Int):Int:=if y.okB=true then (if belB p y.pn=true then cmS y p.toNat f else 2) else 1
noncomputable def stY (y:Sy) (p f:Int):Sy:=if y.okB=true then (if belB p y.pn=true then y.step p.toNat f else y) else { y with pn:=0,sn:=0,wn:=0,hn:=0 }
def Own0 (w:World) (B T:Nat) (y:Sy) (vp vs vw vh:Value):Prop:=∃ c up us uw uh,OwnS true w B c y vp vs vw vh up us uw uh/\∀ b,T<=b->c b=0
theorem Own0.of {w:World} {B:Nat} {y:Sy} {v:Value} (o:OwnSys true w B y v):∃ pa pc sa sc wa wc ha hc,v=sysV pa y.pn pc sa y.sn sc wa y.wn wc ha y.hn hc/\Own0 w B w.heap.size y (.slice pa y.pn pc) (.slice sa y.sn sc) (.slice wa y.wn wc) (.slice ha y.hn hc):=by
 obtain ⟨c,vp,vs,vw,vh,up,us,uw,uh,rfl,o⟩:=o
 obtain ⟨pa,pc,rfl⟩:=zU o.p.row
 obtain ⟨sa,sc,rfl⟩:=zU o.s.row
 obtain ⟨wa,wc,rfl⟩:=zU o.t.row
 obtain ⟨ha,hc,rfl⟩:=zU o.h.row
 exact ⟨pa,pc,sa,sc,wa,wc,ha,hc,rfl,_,up,us,uw,uh,o.recol 0,fun b hb=>rcol_new hb⟩
theorem Own0.below {w w':World} {B T:Nat} {y:Sy} {vp vs vw vh:Value} (o:Own0 w B T y vp vs vw vh) (hb:Below w.heap.size w w'):Own0 w' B T y vp vs vw vh:=by
 obtain ⟨c,up,us,uw,uh,o,h⟩:=o
 exact ⟨c,up,us,uw,uh,o.below hb,h⟩
theorem Own0.sys {w:World} {B T:Nat} {y:Sy} {vp vs vw vh:Value} (o:Own0 w B T y vp vs vw vh):OwnSys true w B y (.agg #[vp,vs,vw,vh]):=by
 obtain ⟨c,up,us,uw,uh,o,-⟩:=o
 exact ⟨c,vp,vs,vw,vh,up,us,uw,uh,rfl,o⟩
theorem Own0.touch {w w':World} {B T:Nat} {y:Sy} {vp vs vw vh:Value} {P:Nat->Prop} (o:Own0 w B T y vp vs vw vh) (ht:Touch P w w') (hp:∀ b,P b->T<=b\/b<B):Own0 w' B T y vp vs vw vh:=by
 obtain ⟨c,up,us,uw,uh,o,h⟩:=o
 have hk:∀ i,i≠0->∀ k,Cl B c i k->k<w.heap.size->w'.heap[k]? = w.heap[k]?:=fun i hi k hk hl=>ht.block k hl fun e=>by
  rcases hp k e with h1 | h1
  ·exact hi (hk.2.symm.trans (h k h1))
  ·have:=hk.1
   omega
 exact ⟨c,up,us,uw,uh,⟨o.p.keep (hk 1 (by decide)),o.s.keep (hk 2 (by decide)),o.t.keep (hk 3 (by decide)),o.h.keep (hk 4 (by decide))⟩,h⟩
theorem markSys_0 (y:Sy) (B T:Nat) (vp vs vw vh:Value) (w:World) (hS:y.Sums) (hB:B<=w.heap.size) (o:Own0 w B T y vp vs vw vh):
  Calls Tryz.prog 24 #[.agg #[vp,vs,vw,vh],.int .i64 1] w fun e w'=>e=.returned (.int .i64 (mkZ5 y 1))/\Own0 w' B T (mkY y 1) vp vs vw vh/\Touch (fun b=>B<=b/\b<T) w w':=by
 obtain ⟨c,up,us,uw,uh,o,hT⟩:=o
 have HT:Hid (∀ b,T<=b->rcol c w.heap.size 0 b=0):=fun b hb=>by
  unfold rcol
  split
  ·exact hT b hb
  ·rfl
 have HC : Hid (∀ i, i ≠ 0 → ∀ b, Cl B (rcol c w.heap.size 0) i b → B ≤ b ∧ b < T) := fun i hi b hb => ⟨hb.1, by
  rcases Nat.lt_or_ge b T with h | h
  ·exact h
  ·exact absurd (hb.2.symm.trans (HT.out b h)) hi⟩
 obtain ⟨a1,c1,rfl⟩:=zU o.p.row
 obtain ⟨a2,c2,rfl⟩:=zU o.s.row
 obtain ⟨a3,c3,rfl⟩:=zU o.t.row
 obtain ⟨a4,c4,rfl⟩:=zU o.h.row
 have HS:Hid y.Sums:=hS
 have HB:Hid (B<=w.heap.size):=hB
 have ba:=zQ w (oQ5 a1 y.pn c1 a2 y.sn c2 a3 y.wn c3 a4 y.hn c4)
 have o0:OwnS true w B (rcol c w.heap.size 0) y (.slice a1 y.pn c1) (.slice a2 y.sn c2) (.slice a3 y.wn c3) (.slice a4 y.hn c4) up us uw uh:=⟨o.p.mono fun _ h hl=>h.old hl,o.s.mono fun _ h hl=>h.old hl,o.t.mono fun _ h hl=>h.old hl,o.h.mono fun _ h hl=>h.old hl⟩
 have OA:Hid (OwnS true (w.alloc (oQ5 a1 y.pn c1 a2 y.sn c2 a3 y.wn c3 a4 y.hn c4)) B (rcol c w.heap.size 0) y (.slice a1 y.pn c1) (.slice a2 y.sn c2) (.slice a3 y.wn c3) (.slice a4 y.hn c4) up us uw uh):=⟨o0.p.below ba,o0.s.below ba,o0.t.below ba,o0.h.below ba⟩
 have NA:Hid (BoxC (w.alloc (oQ5 a1 y.pn c1 a2 y.sn c2 a3 y.wn c3 a4 y.hn c4)) w.heap.size (.slice a1 y.pn c1) (.slice a2 y.sn c2) (.slice a3 y.wn c3) (.slice a4 y.hn c4)):=BoxC.new w _ _ _ _ _
 have BA:Hid (Touch (fun b=>B<=b/\b<T) w (w.alloc (oQ5 a1 y.pn c1 a2 y.sn c2 a3 y.wn c3 a4 y.hn c4))):=Touch.of_below ba
 have HM:Hid (∀ i k,Cl B (rcol c w.heap.size 0) i k->i≠0->k<w.heap.size):=fun i k h hi=>by
  rcases Nat.lt_or_ge k w.heap.size with h1 | h1
  ·exact h1
  ·exact absurd (h.2.symm.trans (rcol_new h1)) hi
 have hz:=mkZ_bd hS
 have HZ:Hid ((0<=mkZ2 y 1/\mkZ2 y 1<=6000000)/\(0<=mkZ3 y 1/\mkZ3 y 1<=12000000)/\(0<=mkZ4 y 1/\mkZ4 y 1<=18000000)/\(0<=mkZ5 y 1/\mkZ5 y 1<=24000000)):=hz
 clear o o0 hS hB ba hz hT
 go_enter Tryz.func24,Tryz.ntmps24
 go_wp2_with fail
 generalize w.alloc (oQ5 a1 y.pn c1 a2 y.sn c2 a3 y.wn c3 a4 y.hn c4)=wA at *
 refine (markInsSS_own _ _ y.pn up y.pL y.pH 1 wA HS.out.p.1 HS.out.p.2 (by omega) (by omega) OA.out.p).mono ?_
 rintro e w1 ⟨rfl,q1,t1⟩
 have K1:Hid (∀ i,i≠1->∀ k,Cl B (rcol c w.heap.size 0) i k->k<wA.heap.size->w1.heap[k]? = wA.heap[k]?):=fun i hi k hk hl=>t1.block k hl fun h=>hi (hk.2.symm.trans h.2)
 have F1:Hid (LI true w1 (Cl B (rcol c w.heap.size 0) 1) (.slice a1 y.pn c1) y.pn up y.pL (mkY y 1).pH/\LS w1 (Cl B (rcol c w.heap.size 0) 2) (.slice a2 y.sn c2) y.sn us y.sS/\LT true w1 (Cl B (rcol c w.heap.size 0) 3) (.slice a3 y.wn c3) y.wn uw y.wL y.wH/\LE true w1 (Cl B (rcol c w.heap.size 0) 4) (.slice a4 y.hn c4) y.hn uh y.hL y.hH):=⟨q1,OA.out.s.keep (K1.out 2 (by decide)),OA.out.t.keep (K1.out 3 (by decide)),OA.out.h.keep (K1.out 4 (by decide))⟩
 have hm1:w1.heap[w.heap.size]? = wA.heap[w.heap.size]?:=t1.block _ (zJ _ _ NA.out.1) fun h=>Nat.lt_irrefl _ (HM.out 1 _ h (by decide))
 have G1:Hid (Touch (fun b=>B<=b/\b<T) w w1/\BoxC w1 w.heap.size (.slice a1 y.pn c1) (.slice a2 y.sn c2) (.slice a3 y.wn c3) (.slice a4 y.hn c4)):=⟨BA.out.trans (t1.mono (HC.out 1 (by decide))),⟨(zH hm1).trans NA.out.1,(zH hm1).trans NA.out.2.1,(zH hm1).trans NA.out.2.2.1,(zH hm1).trans NA.out.2.2.2⟩⟩
 clear hm1
 rw [show (1:Int)+5*(sumL y.pL y.pn:Nat)=mkZ2 y 1 from rfl]
 clear t1 q1 OA NA BA K1
 obtain ⟨-,p0,p1,p2,p3⟩:=G1.out
 go_wp2_with fail
 clear p0 p1 p2 p3
 refine (markStateS_own _ _ y.sn us y.sS (mkZ2 y 1) w1 HS.out.s.1 HS.out.s.2 HZ.out.1.1 (by have:=HZ.out;omega) F1.out.2.1).mono ?_
 rintro e w2 ⟨rfl,⟨ts,q2⟩,t2⟩
 have K2:Hid (∀ i,i≠2->∀ k,Cl B (rcol c w.heap.size 0) i k->k<w1.heap.size->w2.heap[k]? = w1.heap[k]?):=fun i hi k hk hl=>t2.block k hl fun h=>hi (hk.2.symm.trans h.2)
 have F2:Hid (LI true w2 (Cl B (rcol c w.heap.size 0) 1) (.slice a1 y.pn c1) y.pn up y.pL (mkY y 1).pH/\LS w2 (Cl B (rcol c w.heap.size 0) 2) (.slice a2 y.sn c2) y.sn ts (mkY y 1).sS/\LT true w2 (Cl B (rcol c w.heap.size 0) 3) (.slice a3 y.wn c3) y.wn uw y.wL y.wH/\LE true w2 (Cl B (rcol c w.heap.size 0) 4) (.slice a4 y.hn c4) y.hn uh y.hL y.hH):=⟨F1.out.1.keep (K2.out 1 (by decide)),q2,F1.out.2.2.1.keep (K2.out 3 (by decide)),F1.out.2.2.2.keep (K2.out 4 (by decide))⟩
 have hm2:w2.heap[w.heap.size]? = w1.heap[w.heap.size]?:=t2.block _ (zJ _ _ G1.out.2.1) fun h=>Nat.lt_irrefl _ (HM.out 2 _ h (by decide))
 have G2:Hid (Touch (fun b=>B<=b/\b<T) w w2/\BoxC w2 w.heap.size (.slice a1 y.pn c1) (.slice a2 y.sn c2) (.slice a3 y.wn c3) (.slice a4 y.hn c4)):=⟨G1.out.1.trans (t2.mono (HC.out 2 (by decide))),⟨(zH hm2).trans G1.out.2.1,(zH hm2).trans G1.out.2.2.1,(zH hm2).trans G1.out.2.2.2.1,(zH hm2).trans G1.out.2.2.2.2⟩⟩
 clear hm2
 rw [show mkZ2 y 1+(2*y.sn+sumL (lenS y.sS) y.sn:Nat)=mkZ3 y 1 from rfl]
 clear t2 q2 F1 G1 K2
 obtain ⟨-,p0,p1,p2,p3⟩:=G2.out
 go_wp2_with fail
 clear p0 p1 p2 p3
 refine (markItemSS_own _ _ y.wn uw y.wL y.wH (mkZ3 y 1) w2 HS.out.w.1 HS.out.w.2 HZ.out.2.1.1 (by have:=HZ.out;omega) F2.out.2.2.1).mono ?_
 rintro e w3 ⟨rfl,q3,t3⟩
 have K3:Hid (∀ i,i≠3->∀ k,Cl B (rcol c w.heap.size 0) i k->k<w2.heap.size->w3.heap[k]? = w2.heap[k]?):=fun i hi k hk hl=>t3.block k hl fun h=>hi (hk.2.symm.trans h.2)
 have F3:Hid (LI true w3 (Cl B (rcol c w.heap.size 0) 1) (.slice a1 y.pn c1) y.pn up y.pL (mkY y 1).pH/\LS w3 (Cl B (rcol c w.heap.size 0) 2) (.slice a2 y.sn c2) y.sn ts (mkY y 1).sS/\LT true w3 (Cl B (rcol c w.heap.size 0) 3) (.slice a3 y.wn c3) y.wn uw y.wL (mkY y 1).wH/\LE true w3 (Cl B (rcol c w.heap.size 0) 4) (.slice a4 y.hn c4) y.hn uh y.hL y.hH):=⟨F2.out.1.keep (K3.out 1 (by decide)),F2.out.2.1.keep (K3.out 2 (by decide)),q3,F2.out.2.2.2.keep (K3.out 4 (by decide))⟩
 have hm3:w3.heap[w.heap.size]? = w2.heap[w.heap.size]?:=t3.block _ (zJ _ _ G2.out.2.1) fun h=>Nat.lt_irrefl _ (HM.out 3 _ h (by decide))
 have G3:Hid (Touch (fun b=>B<=b/\b<T) w w3/\BoxC w3 w.heap.size (.slice a1 y.pn c1) (.slice a2 y.sn c2) (.slice a3 y.wn c3) (.slice a4 y.hn c4)):=⟨G2.out.1.trans (t3.mono (HC.out 3 (by decide))),⟨(zH hm3).trans G2.out.2.1,(zH hm3).trans G2.out.2.2.1,(zH hm3).trans G2.out.2.2.2.1,(zH hm3).trans G2.out.2.2.2.2⟩⟩
 clear hm3
 rw [show mkZ3 y 1+2*(sumL y.wL y.wn:Nat)=mkZ4 y 1 from rfl]
 clear t3 q3 F2 G2 K3
 obtain ⟨-,p0,p1,p2,p3⟩:=G3.out
 go_wp2_with fail
 clear p0 p1 p2 p3
 refine (markEventSS_own _ _ y.hn uh y.hL y.hH (mkZ4 y 1) w3 HS.out.h.1 HS.out.h.2 HZ.out.2.2.1.1 (by have:=HZ.out;omega) F3.out.2.2.2).mono ?_
 rintro e w4 ⟨rfl,q4,t4⟩
 have K4:Hid (∀ i,i≠4->∀ k,Cl B (rcol c w.heap.size 0) i k->k<w3.heap.size->w4.heap[k]? = w3.heap[k]?):=fun i hi k hk hl=>t4.block k hl fun h=>hi (hk.2.symm.trans h.2)
 have F4:Hid (Own0 w4 B T (mkY y 1) (.slice a1 y.pn c1) (.slice a2 y.sn c2) (.slice a3 y.wn c3) (.slice a4 y.hn c4)):=⟨_,up,ts,uw,uh,⟨F3.out.1.keep (K4.out 1 (by decide)),F3.out.2.1.keep (K4.out 2 (by decide)),F3.out.2.2.1.keep (K4.out 3 (by decide)),q4⟩,HT.out⟩
 have hm4:w4.heap[w.heap.size]? = w3.heap[w.heap.size]?:=t4.block _ (zJ _ _ G3.out.2.1) fun h=>Nat.lt_irrefl _ (HM.out 4 _ h (by decide))
 have G4:Hid (Touch (fun b=>B<=b/\b<T) w w4/\BoxC w4 w.heap.size (.slice a1 y.pn c1) (.slice a2 y.sn c2) (.slice a3 y.wn c3) (.slice a4 y.hn c4)):=⟨G3.out.1.trans (t4.mono (HC.out 4 (by decide))),⟨(zH hm4).trans G3.out.2.1,(zH hm4).trans G3.out.2.2.1,(zH hm4).trans G3.out.2.2.2.1,(zH hm4).trans G3.out.2.2.2.2⟩⟩
 clear hm4
 rw [show mkZ4 y 1+3*(sumL y.hL y.hn:Nat)=mkZ5 y 1 from rfl]
 clear t4 q4 F3 G3 K4
 go_wp2
 go_ret
 exact ⟨rfl,F4.out,G4.out.1⟩
theorem sumL_bd {L:Nat->Nat} {M:Nat}:∀ {n:Nat},(∀ i,i<n->L i<=M)->sumL L n<=n*M
 | 0,_=>by simp [sumL]
 | n+1,h=>by
  have h1:=sumL_bd fun i hi=>h i (Nat.lt_succ_of_lt hi)
  have h2:=h n (Nat.lt_succ_self n)
  show sumL L n+L n<=(n+1)*M
  rw [Nat.add_mul,Nat.one_mul]
  omega
theorem Sy.Sm.sums {y:Sy} (h:y.Sm):y.Sums:=by
 obtain ⟨h1,h2,h3,h4⟩:=h.n
 have a1:=sumL_bd h.p
 have a2:=sumL_bd (L:=lenS y.sS) (M:=2000) (n:=y.sn) fun i hi=>by
  have:=h.s i hi
  simp only [lenS]
  omega
 have a3:=sumL_bd h.w
 have a4:=sumL_bd h.h
 exact ⟨⟨by omega,by omega⟩,⟨by omega,by omega⟩,⟨by omega,by omega⟩,⟨by omega,by omega⟩⟩
theorem Sy.Sm.len {y:Sy} (h:y.Sm):y.Len:=by
 obtain ⟨h1,h2,h3,h4⟩:=h.n
 exact ⟨⟨by omega,fun i hi=>by have:=h.p i hi;omega⟩,⟨by omega,fun i hi=>by have:=h.s i hi;omega⟩,⟨by omega,fun i hi=>by have:=h.w i hi;omega⟩,⟨by omega,fun i hi=>by have:=h.h i hi;omega⟩⟩
theorem IsSys.g3 {w:World} {lo hi:Nat} {x:SysIn} {v:Value} (o:IsSys w lo hi x v):∃ x':SysIn,v=x'.v/\SysG w x'/\x'.y=x.y/\(∀ i,i<x'.hn->x'.hL i<=x'.hC i)/\x'.Nn true:=by
 obtain ⟨D1,D2,D3,D4,b1,vs,b3,b4,h1,h2,h3,o⟩:=o
 obtain ⟨q1,q2,q3,q4,-⟩:=o.hi
 have hst:∀ i,i<x.sn->∃ t:Option Addr × Nat × Option Addr × Nat,vs i=stV (x.sS i).p t.1 (x.sS i).rs.length t.2.1 t.2.2.1 (x.sS i).os.length t.2.2.2 (x.sS i).c/\w.cell? ⟨D2,i*4,none⟩=some (.int .i64 (x.sS i).p)/\w.cell? ⟨D2,i*4+1,none⟩=some (.slice t.1 (x.sS i).rs.length t.2.1)/\w.cell? ⟨D2,i*4+2,none⟩=some (.slice t.2.2.1 (x.sS i).os.length t.2.2.2)/\w.cell? ⟨D2,i*4+3,none⟩=some (.int .i64 (x.sS i).c):=by
  intro i hi
  obtain ⟨ra,rc,oa,oc,e,c0,c1,c2,c3⟩:=o.ss.cel i hi
  exact ⟨(ra,rc,oa,oc),e,c0,c1,c2,c3⟩
 have inh:Inhabited (Option Addr × Nat × Option Addr × Nat):=⟨(none,0,none,0)⟩
 obtain ⟨t,ht⟩:=Go.Deep.choose_lt hst
 refine ⟨⟨some ⟨D1,0,none⟩,x.pn,x.pn,fun i=>some ⟨b1 i,0,none⟩,x.pL,x.pL,x.pH,some ⟨D2,0,none⟩,x.sn,x.sn,fun i=>⟨(x.sS i).p,(t i).1,(t i).2.1,(x.sS i).rs,(t i).2.2.1,(t i).2.2.2,(x.sS i).os,(x.sS i).c⟩,some ⟨D3,0,none⟩,x.wn,x.wn,fun i=>some ⟨b3 i,0,none⟩,x.wL,x.wL,x.wH,some ⟨D4,0,none⟩,x.hn,x.hn,fun i=>some ⟨b4 i,0,none⟩,x.hL,x.hL,x.hH⟩,o.val,?_,rfl,fun i _=>Nat.le_refl _,fun i _=>.inl ⟨b3 i,0,rfl⟩,fun i _=>.inl ⟨b4 i,0,rfl⟩⟩
 have l1:=o.pp.lt
 have l2:=o.ss.lt
 have l3:=o.ww.lt
 have l4:=o.hh.lt
 refine ⟨.inr ⟨D1,0,rfl,by omega,fun i hi=>?_⟩,fun i hi=>⟨b1 i,rfl,zL (o.pp.bd i hi).2 o.pp.le,o.pp.row i hi⟩,⟨.inr ⟨D2,0,rfl,by omega,fun i hi=>?_⟩,fun i hi=>?_⟩,.inr ⟨D3,0,rfl,by omega,fun i hi=>?_⟩,fun i hi=>.inr ⟨b3 i,0,rfl,zL (o.ww.bd i hi).2 o.ww.le,o.ww.row i hi⟩,.inr ⟨D4,0,rfl,by omega,fun i hi=>?_⟩,fun i hi=>.inr ⟨b4 i,0,rfl,zL (o.hh.bd i hi).2 o.hh.le,o.hh.row i hi⟩⟩
 ·have:=o.pp.cel i hi
  simpa using this
 ·have:=(ht i hi).2
  simpa using this
 ·have h4:=o.ss.own i hi
  rw [(ht i hi).1] at h4
  exact ⟨h4.parts.1.slOf,h4.parts.2.1.slOf⟩
 ·have:=o.ww.cel i hi
  simpa using this
 ·have:=o.hh.cel i hi
  simpa using this
theorem BoxC.blkF {w w':World} {N:Nat} {p vr vo code:Value} (h:BoxC w N p vr vo code) (hb:w'.heap[N]? = w.heap[N]?):BoxC w' N p vr vo code:=by
 obtain ⟨h0,h1,h2,h3⟩:=h
 exact ⟨(zH hb).trans h0,(zH hb).trans h1,(zH hb).trans h2,(zH hb).trans h3⟩
theorem BoxC.ltF {w:World} {N:Nat} {p vr vo code:Value} (h:BoxC w N p vr vo code):N<w.heap.size:=zJ w _ h.1
theorem BoxC.touch {w w':World} {N:Nat} {p vr vo code:Value} {P:Nat->Prop} (h:BoxC w N p vr vo code) (t:Touch P w w') (hp:¬ P N):BoxC w' N p vr vo code:=h.blkF (t.block N h.ltF hp)
theorem Px.touchF {W:World} {x:SysIn} {w w':World} {P:Nat->Prop} (h:Px W x w) (ht:Touch P w w') (hp:∀ b,P b->W.heap.size<b):Px W x w':=
 ⟨h.be.trans (ht.below (Nat.le_of_lt h.lt) fun b e=>by have:=hp b e;omega),h.bx.touch ht fun e=>by have:=hp _ e;omega,zL h.lt ht.size⟩
structure StF (W:World) (x:SysIn) (Y:Sy) (x3:SysIn) (N1 T8 lo T10 B4 T11:Nat) (a1 a2 a3 a4 g1 g2 g3 g4:Value) (w:World):Prop where
 px:Px W x w
 o2:Own0 w N1 T8 Y a1 a2 a3 a4
 b8:BoxC w T8 a1 a2 a3 a4
 s3:IsSys w lo T10 x x3.v
 b10:BoxC w T10 (.slice x3.pa x3.pn x3.pc) (.slice x3.sa x3.sn x3.sc) (.slice x3.wa x3.wn x3.wc) (.slice x3.ha x3.hn x3.hc)
 o4:Own0 w B4 T11 Y g1 g2 g3 g4
 b11:BoxC w T11 g1 g2 g3 g4
structure StG (W:World) (x:SysIn) (Y Z:Sy) (N1 T8 B4 T11:Nat) (a1 a2 a3 a4 g1 g2 g3 g4:Value) (w:World):Prop where
 px:Px W x w
 o2:Own0 w N1 T8 Y a1 a2 a3 a4
 b8:BoxC w T8 a1 a2 a3 a4
 o4:Own0 w B4 T11 Z g1 g2 g3 g4
 b11:BoxC w T11 g1 g2 g3 g4
section
variable {W:World} {x:SysIn} {Y Z:Sy} {x3:SysIn} {N1 T8 lo T10 B4 T11:Nat} {a1 a2 a3 a4 g1 g2 g3 g4:Value} {w w':World}
end
def OwnZ (w:World) (B T:Nat) (y:Sy) (vp vs vw vh:Value):Prop:=∃ c up us uw uh,OwnS false w B c y vp vs vw vh up us uw uh/\∀ b,T<=b->c b=0
theorem OwnZ.of {w:World} {B:Nat} {y:Sy} {v:Value} (o:OwnSys false w B y v):∃ pa pc sa sc wa wc ha hc,v=sysV pa y.pn pc sa y.sn sc wa y.wn wc ha y.hn hc/\OwnZ w B w.heap.size y (.slice pa y.pn pc) (.slice sa y.sn sc) (.slice wa y.wn wc) (.slice ha y.hn hc):=by
 obtain ⟨c,vp,vs,vw,vh,up,us,uw,uh,rfl,o⟩:=o
 obtain ⟨pa,pc,rfl⟩:=zU o.p.row
 obtain ⟨sa,sc,rfl⟩:=zU o.s.row
 obtain ⟨wa,wc,rfl⟩:=zU o.t.row
 obtain ⟨ha,hc,rfl⟩:=zU o.h.row
 exact ⟨pa,pc,sa,sc,wa,wc,ha,hc,rfl,_,up,us,uw,uh,o.recol 0,fun b hb=>rcol_new hb⟩
theorem OwnZ.below {w w':World} {B T:Nat} {y:Sy} {vp vs vw vh:Value} (o:OwnZ w B T y vp vs vw vh) (hb:Below w.heap.size w w'):OwnZ w' B T y vp vs vw vh:=by
 obtain ⟨c,up,us,uw,uh,o,h⟩:=o
 exact ⟨c,up,us,uw,uh,o.below hb,h⟩
theorem OwnZ.sys {w:World} {B T:Nat} {y:Sy} {vp vs vw vh:Value} (o:OwnZ w B T y vp vs vw vh):OwnSys false w B y (.agg #[vp,vs,vw,vh]):=by
 obtain ⟨c,up,us,uw,uh,o,-⟩:=o
 exact ⟨c,vp,vs,vw,vh,up,us,uw,uh,rfl,o⟩
theorem OwnZ.touch {w w':World} {B T:Nat} {y:Sy} {vp vs vw vh:Value} {P:Nat->Prop} (o:OwnZ w B T y vp vs vw vh) (ht:Touch P w w') (hp:∀ b,P b->T<=b\/b<B):OwnZ w' B T y vp vs vw vh:=by
 obtain ⟨c,up,us,uw,uh,o,h⟩:=o
 have hk:∀ i,i≠0->∀ k,Cl B c i k->k<w.heap.size->w'.heap[k]? = w.heap[k]?:=fun i hi k hk hl=>ht.block k hl fun e=>by
  rcases hp k e with h1 | h1
  ·exact hi (hk.2.symm.trans (h k h1))
  ·have:=hk.1
   omega
 exact ⟨c,up,us,uw,uh,⟨o.p.keep (hk 1 (by decide)),o.s.keep (hk 2 (by decide)),o.t.keep (hk 3 (by decide)),o.h.keep (hk 4 (by decide))⟩,h⟩
structure AtF (W:World) (x:SysIn) (Y:Sy) (x3:SysIn) (N1 T8 lo T10 B4 T11:Nat) (a1 a2 a3 a4 g1 g2 g3 g4:Value) (w:World):Prop where
 px:Px W x w
 o2:OwnZ w N1 T8 Y a1 a2 a3 a4
 b8:BoxC w T8 a1 a2 a3 a4
 s3:IsSys w lo T10 x x3.v
 b10:BoxC w T10 (.slice x3.pa x3.pn x3.pc) (.slice x3.sa x3.sn x3.sc) (.slice x3.wa x3.wn x3.wc) (.slice x3.ha x3.hn x3.hc)
 o4:Own0 w B4 T11 Y g1 g2 g3 g4
 b11:BoxC w T11 g1 g2 g3 g4
structure AtG (W:World) (x:SysIn) (Y Z:Sy) (N1 T8 B4 T11:Nat) (a1 a2 a3 a4 g1 g2 g3 g4:Value) (w:World):Prop where
 px:Px W x w
 o2:OwnZ w N1 T8 Y a1 a2 a3 a4
 b8:BoxC w T8 a1 a2 a3 a4
 o4:Own0 w B4 T11 Z g1 g2 g3 g4
 b11:BoxC w T11 g1 g2 g3 g4
section
variable {W:World} {x:SysIn} {Y Z:Sy} {x3:SysIn} {N1 T8 lo T10 B4 T11:Nat} {a1 a2 a3 a4 g1 g2 g3 g4:Value} {w w':World}
theorem AtF.below (h:AtF W x Y x3 N1 T8 lo T10 B4 T11 a1 a2 a3 a4 g1 g2 g3 g4 w) (hb:Below w.heap.size w w'):AtF W x Y x3 N1 T8 lo T10 B4 T11 a1 a2 a3 a4 g1 g2 g3 g4 w':=
 ⟨h.px.below hb,h.o2.below hb,h.b8.below hb,h.s3.below hb (Nat.le_of_lt h.b10.ltF),h.b10.below hb,h.o4.below hb,h.b11.below hb⟩
theorem AtG.below (h:AtG W x Y Z N1 T8 B4 T11 a1 a2 a3 a4 g1 g2 g3 g4 w) (hb:Below w.heap.size w w'):AtG W x Y Z N1 T8 B4 T11 a1 a2 a3 a4 g1 g2 g3 g4 w':=
 ⟨h.px.below hb,h.o2.below hb,h.b8.below hb,h.o4.below hb,h.b11.below hb⟩
theorem AtF.mark (h:AtF W x Y x3 N1 T8 lo T10 B4 T11 a1 a2 a3 a4 g1 g2 g3 g4 w) (t:Touch (fun b=>lo<=b/\b<T10) w w') (h1:W.heap.size<lo) (h2:T8<lo) (h3:T10<=B4) (h4:B4<=T11):AtG W x Y Y N1 T8 B4 T11 a1 a2 a3 a4 g1 g2 g3 g4 w':=
 ⟨h.px.touchF t fun b hb=>by omega,h.o2.touch t fun b hb=>by omega,h.b8.touch t fun hb=>by omega,h.o4.touch t fun b hb=>by omega,h.b11.touch t fun hb=>by omega⟩
theorem AtG.mark (h:AtG W x Y Z N1 T8 B4 T11 a1 a2 a3 a4 g1 g2 g3 g4 w) {Z':Sy} (t:Touch (fun b=>B4<=b/\b<T11) w w') (o:Own0 w' B4 T11 Z' g1 g2 g3 g4) (h1:W.heap.size<B4) (h2:T8<B4):AtG W x Y Z' N1 T8 B4 T11 a1 a2 a3 a4 g1 g2 g3 g4 w':=
 ⟨h.px.touchF t fun b hb=>by omega,h.o2.touch t fun b hb=>by omega,h.b8.touch t fun hb=>by omega,o,h.b11.touch t fun hb=>by omega⟩
end
theorem OwnI.far {w w':World} {B:Nat} {v:Value} {xs:List Int} {row:Option Nat} (h:OwnI w B v xs) (hg:w.grownBy w' row) (hne:∀ j,v.ownBlock=some j->row≠some j):OwnI w' B v xs:=by
 refine h.kept hg ?_
 cases hv:v.ownBlock with
 | none=>exact .inl rfl
 | some k=>exact .inr (fun e=>hne k hv e.symm)
theorem OwnI.sl {w:World} {B:Nat} {a0:Option Addr} {cap:Nat} {xs:List Int} (h:OwnI w B (.slice a0 xs.length cap) xs):Sl w a0 xs:=by
 obtain ⟨a1,c1,e,s⟩:=h.form
 simp only [Value.slice.injEq] at e
 obtain ⟨rfl,-,-⟩:=e
 exact s
theorem OwnI.touch {w w':World} {B:Nat} {v:Value} {xs:List Int} {P:Nat->Prop} (o:OwnI w B v xs) (ht:Touch P w w') (hp:∀ g,v.ownBlock=some g->¬ P g):OwnI w' B v xs:=o.blk fun k hk=>ht.block k (o.lt k hk).2 (hp k hk)
theorem Px.touch {W:World} {x:SysIn} {w w':World} {P:Nat->Prop} (h:Px W x w) (ht:Touch P w w') (hp:∀ b,P b->W.heap.size<b):Px W x w':=by
 have hc:∀ i,w'.cell? ⟨W.heap.size,i,none⟩=w.cell? ⟨W.heap.size,i,none⟩:=fun i=>ht.cell h.lt (fun e=>by have:=hp _ e;omega) i
 obtain ⟨h0,h1,h2,h3⟩:=h.bx
 exact ⟨h.be.trans (ht.below (Nat.le_of_lt h.lt) fun b e=>by have:=hp b e;omega),⟨(hc _).trans h0,(hc _).trans h1,(hc _).trans h2,(hc _).trans h3⟩,zL h.lt ht.size⟩
