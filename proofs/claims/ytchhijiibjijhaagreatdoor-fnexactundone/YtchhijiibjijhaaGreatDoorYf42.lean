import Derived.ScopeJumps
import Derived.WalkMore
import Derived.Test.YtchhijiibjijhaaGreatDoorYf38
namespace Go.Proofs.YtchhijiibjijhaaGreatDoor
set_option maxRecDepth 100000
set_option maxHeartbeats 4000000
open Go.ChangeShapes Go.WideShapes Go.ChangeAt Go.RowKit Go.Deep Go.Sort
theorem qun {N n c k:Nat} (h:(Value.slice (some ⟨N,0,none⟩) n c).ownBlock=some k):N=k:=by
 cases h
 rfl
def sm:List Int->Nat
 | []=>0
 | x :: xs=>x.toNat+sm xs
theorem qre:∀ (e:List Int) (b:Nat) (k:Int),b<e.length->k<zi e b->0<=k->sm (e.set b k)<sm e
 | [],b,k,hb,_,_=>by simp at hb
 | x :: xs,0,k,_,hk,h0=>by
  have h1:zi (x :: xs) 0=x:=rfl
  rw [h1] at hk
  simp only [zE,sm]
  omega
 | x :: xs,b+1,k,hb,hk,h0=>by
  have h1:zi (x :: xs) (b+1)=zi xs b:=rfl
  rw [h1] at hk
  have:=qre xs b k (by simpa using hb) hk h0
  simp only [zF,sm]
  omega
structure CW (w wr:World) (x:SysIn) (g cap:Nat) (c e:List Int):Prop where
 ow:OwnI wr (w.heap.size+1) (.slice (some ⟨g,0,none⟩) c.length cap) e
 be:Below w.heap.size w wr
 bx:BoxC wr w.heap.size (.slice x.pa x.pn x.pc) (.slice x.sa x.sn x.sc) (.slice x.wa x.wn x.wc) (.slice x.ha x.hn x.hc)
 cl:x.y.Cl c e
 ln:e.length=c.length
theorem CW.g {w wr:World} {x:SysIn} {g cap:Nat} {c e:List Int} (h:CW w wr x g cap c e):w.heap.size+1<=g/\g<wr.heap.size:=h.ow.lt g rfl
theorem CW.below {w wr w':World} {x:SysIn} {g cap:Nat} {c e:List Int} (h:CW w wr x g cap c e) (hb:Below wr.heap.size wr w'):CW w w' x g cap c e:=⟨h.ow.below hb,h.be.trans (hb.mono h.be.size),h.bx.below hb,h.cl,h.ln⟩
theorem CW.slOf {w wr:World} {x:SysIn} {g cap:Nat} {c e:List Int} (h:CW w wr x g cap c e):Sl wr (some ⟨g,0,none⟩) e:=h.ow.slOf
theorem CW.cell {w wr:World} {x:SysIn} {g cap:Nat} {c e:List Int} (h:CW w wr x g cap c e) {b:Nat} (hb:b<c.length):wr.cell? ⟨g,b,none⟩=some (.int .i64 (zi e b))/\wr.frozen? ⟨g,b,none⟩=false:=by
 have ho:=h.ow
 rw [<- h.ln] at ho hb
 exact ⟨ho.cell hb,ho.frozen b⟩
theorem CW.put {w wr:World} {x:SysIn} {g cap:Nat} {c e:List Int} (h:CW w wr x g cap c e) {b:Nat} {k:Int} (hn:x.y.Cl c (e.set b k)):CW w (wr.setCell ⟨g,b,none⟩ (.int .i64 k)) x g cap c (e.set b k):=by
 have hg:=h.g
 obtain ⟨h0,h1,h2,h3⟩:=h.bx
 have hc:∀ i,(wr.setCell ⟨g,b,none⟩ (.int .i64 k)).cell? ⟨w.heap.size,i,none⟩=wr.cell? ⟨w.heap.size,i,none⟩:=fun i=>World.cell?_setCell_other _ _ _ _ (by intro e;injection e with e;omega)
 exact ⟨(h.ow.set h.ln.symm b k).1,h.be.setCell (by simp;omega) _,⟨(hc _).trans h0,(hc _).trans h1,(hc _).trans h2,(hc _).trans h3⟩,hn,by rw [List.length_set];exact h.ln⟩
theorem qpn (x:SysIn) (ca:Option Addr) (cc:Nat) (c:List Int) (w:World) (hG:SysG w x) (hcap:∀ i,i<x.hn->x.hL i<=x.hC i) (ht:cutB x.y c=true) (hc:Sl w ca c):
  Calls Tryz.prog 74 #[x.v,.slice ca c.length cc] w fun e w'=>∃ u,e=.returned u/\OwnI w' w.heap.size u (clS x.y c)/\Below w.heap.size w w':=by
 obtain ⟨hO,hC⟩:=qbn ht
 have hln:c.length=x.pn:=hC.len
 have h1:1<=x.pn:=hO.cn.1.1
 have h4:x.pn<=4:=hO.cn.1.2
 have hl':(c.length:Int)<=4:=by omega
 have HQ:Hid (c.length=x.pn/\0<c.length/\c.length<=4):=⟨hln,by omega,by omega⟩
 have HSl:Hid (Sl w ca c):=hc
 have HWh:Hid (∀ wr g cap e,CW w wr x g cap c e->Calls Tryz.prog 113 #[x.v,.slice (some ⟨g,0,none⟩) c.length cap] wr fun r w'=>r=.returned (.bool (qB (x.y.Wh (cN e))))/\Below wr.heap.size wr w'):=fun wr g cap e h=>by
  have:=qiw x (some ⟨g,0,none⟩) cap e wr (hG.below h.be) hcap hO (h.cl.cut hC) h.slOf
  rwa [h.ln] at this
 have HOv:Hid (∀ wr g cap e a b,CW w wr x g cap c e->a<c.length->b<c.length->Calls Tryz.prog 127 #[x.v,.slice (some ⟨g,0,none⟩) c.length cap,.int .i64 (a:Nat),.int .i64 (b:Nat)] wr fun r w'=>r=.returned (.int .i64 (ovN x.y (cN e) a b))/\Below wr.heap.size wr w'):=fun wr g cap e a b h ha hb=>by
  have:=qj5 x (some ⟨g,0,none⟩) cap e a b wr (hG.below h.be) hcap hO (h.cl.cut hC) h.slOf (by omega) (by omega)
  rwa [h.ln] at this
 have HSt:Hid (x.y.Cl c c):=Sy.Cl.start hC
 have HEnd:Hid (∀ e,x.y.Cl c e->x.y.Wh (cN e)->clS x.y c=e):=fun e h h'=>qo3 ht h h'
 have BW:Hid (Below w.heap.size w (w.alloc (oQ4 x.pa x.pn x.pc x.sa x.sn x.sc x.wa x.wn x.wc x.ha x.hn x.hc))):=zT _ _
 have NB:Hid (BoxC (w.alloc (oQ4 x.pa x.pn x.pc x.sa x.sn x.sc x.wa x.wn x.wc x.ha x.hn x.hc)) w.heap.size (.slice x.pa x.pn x.pc) (.slice x.sa x.sn x.sc) (.slice x.wa x.wn x.wc) (.slice x.ha x.hn x.hc)):=BoxC.new w _ _ _ _ _
 have NS:Hid ((w.alloc (oQ4 x.pa x.pn x.pc x.sa x.sn x.sc x.wa x.wn x.wc x.ha x.hn x.hc)).heap.size=w.heap.size+1):=by show _=_;simp
 clear hG hcap hO hC hc hln h1 h4 ht
 go_enter Tryz.func74,Tryz.ntmps74
 go_upto_region 1 with fail
 generalize w.alloc (oQ4 x.pa x.pn x.pc x.sa x.sn x.sc x.wa x.wn x.wc x.ha x.hn x.hc)=W2 at *
 have HL4:Hid (([]:List Int).length+c.length<=4000000/\W2.heap.size<=(W2.alloc (.cells #[] 3)).heap.size/\Sl (W2.alloc (.cells #[] 3)) ca c):=⟨by have:=HQ.out;simp;omega,by simp,(HSl.out.below BW.out).below (zT _ _)⟩
 go_wp2_with (at_builtin;refine qba _ rfl _ _ rfl W2.heap.size cc (.slice (some ⟨W2.heap.size,0,none⟩) 0 0) ca [] c rfl rfl (qb6 W2) HL4.out.2.2 HL4.out.1 HL4.out.2.1 ?_;intro v4 w4 o4 g4 _;obtain ⟨g,cap,rfl,-,-⟩:=(show OwnI w4 W2.heap.size v4 c from o4).block HQ.out.2.1;have H4:Hid (CW w w4 x g cap c c):=⟨OwnI.mono (show OwnI w4 W2.heap.size _ c from o4) (by rw [NS.out];omega),Below.grown (BW.out.trans ((zT _ _).mono BW.out.size)) g4 (by have:=BW.out.size;simp;omega) (fun k hk=>by have:=qun hk;have:=NS.out;omega),NB.out.belowB (B:=w.heap.size+1) (Below.grown ((zT _ _).mono (by rw [NS.out];omega)) g4 (by have:=NS.out;simp;omega) (fun k hk=>by have:=qun hk;have:=NS.out;omega)) (by omega),HSt.out,rfl⟩;clear o4 g4)
 clear BW NB NS HL4 HSt
 go_loopg [6] (sm c) (fun gn _ wr=>∃ e,gn=sm e/\Hid (CW w wr x g cap c e))
 case atStart=>exact ⟨c,rfl,H4.out⟩
 case round=>
  clear H4
  obtain ⟨e,hgn,HB⟩:=hrel
  have HGN:Hid (gk=sm e):=hgn
  clear hgn
  obtain ⟨b0,b1,b2,b3⟩:=HB.out.bx
  go_wp2_with fail
  refine (HWh.out _ g cap e HB.out).mono ?_
  rintro r w5 ⟨rfl,q5⟩
  have B5:Hid (CW w w5 x g cap c e):=HB.out.below q5
  clear q5 b0 b1 b2 b3 HB
  by_cases hw:x.y.Wh (cN e)
  ·rw [qaz hw]
   have HV:Hid (OwnI w5 w.heap.size (.slice (some ⟨g,0,none⟩) c.length cap) (clS x.y c)/\Below w.heap.size w w5):=by
    have h:=HEnd.out e B5.out.cl hw
    refine ⟨?_,B5.out.be⟩
    rw [h]
    exact B5.out.ow.mono (by omega)
   clear hw B5
   go_wp2
   go_ret
   exact ⟨_,rfl,HV.out⟩
  rw [qar hw]
  have HNW:Hid (¬ x.y.Wh (cN e)):=hw
  clear hw
  go_wp2_with fail
  go_loopw [6] (fun i wr=>∃ (k:Nat) (e':List Int),k<=c.length/\i=.int .i64 k/\Hid (CW w wr x g cap c e'/\(sm e'<sm e\/(e'=e/\∀ a,a<k->∀ b,b<c.length->tN x.y (cN e) a b<=sN x.y (cN e) a b)))) (fun i _=>c.length - (intOf i).toNat)
  case atStart=>exact ⟨0,e,Nat.zero_le _,rfl,B5.out,.inr ⟨rfl,fun a ha=>by omega⟩⟩
  case round=>
   clear B5
   obtain ⟨k,e1,hk,rfl,HB⟩:=hrel
   by_cases hlt:k<c.length
   ·have hlt':(k:Int)<(c.length:Int):=by omega
    go_wp2_with fail
    go_loopw [7] (fun i wr=>∃ (j:Nat) (e':List Int),j<=c.length/\i=.int .i64 j/\Hid (CW w wr x g cap c e'/\(sm e'<sm e\/(e'=e/\(∀ a,a<k->∀ b,b<c.length->tN x.y (cN e) a b<=sN x.y (cN e) a b)/\∀ b,b<j->tN x.y (cN e) k b<=sN x.y (cN e) k b)))) (fun i _=>c.length - (intOf i).toNat)
    case atStart=>exact ⟨0,e1,Nat.zero_le _,rfl,HB.out.1,HB.out.2.imp id fun h=>⟨h.1,h.2,fun b hb=>by omega⟩⟩
    case round=>
     clear HB
     obtain ⟨j,e2,hj,rfl,HB⟩:=hrel
     by_cases hjt:j<c.length
     ·have hjt':(j:Int)<(c.length:Int):=by omega
      obtain ⟨b0,b1,b2,b3⟩:=HB.out.1.bx
      go_wp2_with fail
      refine (HOv.out _ g cap e2 k j HB.out.1 hlt hjt).mono ?_
      rintro r w6 ⟨rfl,q6⟩
      have B6:Hid (CW w w6 x g cap c e2/\(sm e2<sm e\/(e2=e/\(∀ a,a<k->∀ b,b<c.length->tN x.y (cN e) a b<=sN x.y (cN e) a b)/\∀ b,b<j->tN x.y (cN e) k b<=sN x.y (cN e) k b))):=⟨HB.out.1.below q6,HB.out.2⟩
      have HN:Hid (ovN x.y (cN e2) k j<0 ↔ tN x.y (cN e2) k j<=sN x.y (cN e2) k j):=qfm
      have HX:Hid (0<=ovN x.y (cN e2) k j->x.y.Cl c (e2.set j (ovN x.y (cN e2) k j))/\sm (e2.set j (ovN x.y (cN e2) k j))<sm e2):=fun h=>by
       have hq:=HQ.out
       obtain ⟨h1,h2,h3⟩:=B6.out.1.cl.next (a:=k) (b:=j) (by show k<x.pn;omega) (by show j<x.pn;omega) h
       exact ⟨h1,qre e2 j _ (by rw [B6.out.1.ln];exact hjt) h3 h2⟩
      generalize ovN x.y (cN e2) k j=ov at *
      clear q6 b0 b1 b2 b3 HB
      by_cases ho:0<=ov
      ·obtain ⟨ce,cf⟩:=B6.out.1.cell hjt
       have B7 : Hid (CW w (w6.setCell ⟨g, j, none⟩ (.int .i64 ov)) x g cap c (e2.set j ov) ∧ sm (e2.set j ov) < sm e) := ⟨B6.out.1.put (HX.out ho).1, by
        have h1:=(HX.out ho).2
        rcases B6.out.2 with h | ⟨h,-⟩
        ·omega
        ·rw [<- h];exact h1⟩
       clear HN HX B6
       go_wp2
       go_roundw
       case rel=>exact ⟨j+1,_,by omega,by go_num,B7.out.1,.inl B7.out.2⟩
       case measure=>simp [intOf];omega
      ·have HJ : Hid (sm e2 < sm e ∨ (e2 = e ∧ (∀ a, a < k → ∀ b, b < c.length → tN x.y (cN e) a b ≤ sN x.y (cN e) a b) ∧ ∀ b, b < j + 1 → tN x.y (cN e) k b ≤ sN x.y (cN e) k b)) := B6.out.2.imp id fun ⟨h1, h2, h3⟩ => ⟨h1, h2, fun b hb => by
        by_cases eb:b=j
        ·subst eb
         rw [<- h1]
         exact HN.out.1 (by omega)
        ·exact h3 b (by omega)⟩
       have B7:Hid (CW w w6 x g cap c e2):=B6.out.1
       clear HN HX B6
       go_wp2
       go_roundw
       case rel=>exact ⟨j+1,e2,by omega,by go_num,B7.out,HJ.out⟩
       case measure=>simp [intOf];omega
     ·have HK : Hid (CW w wr x g cap c e2 ∧ (sm e2 < sm e ∨ (e2 = e ∧ ∀ a, a < k + 1 → ∀ b, b < c.length → tN x.y (cN e) a b ≤ sN x.y (cN e) a b))) := ⟨HB.out.1, HB.out.2.imp id fun ⟨h1, h2, h3⟩ => ⟨h1, fun a ha b hb => by
       by_cases ea:a=k
       ·subst ea
        exact h3 b (by omega)
       ·exact h2 a (by omega) b hb⟩⟩
      clear HB
      go_wp2
      go_roundw
      case rel=>exact ⟨k+1,e2,by omega,by go_num,HK.out⟩
      case measure=>simp [intOf];omega
   ·have HK : Hid (CW w wr x g cap c e1 ∧ sm e1 < gk) := ⟨HB.out.1, by
     rw [HGN.out]
     rcases HB.out.2 with h | ⟨h1,h2⟩
     ·exact h
     ·exact absurd (fun a ha b hb=>h2 a (by have:=HQ.out;have h3:a<x.pn:=ha;omega) b (by have:=HQ.out;have h3:b<x.pn:=hb;omega)) HNW.out⟩
    clear HB HGN HNW
    go_wp2
    go_roundg (sm e1)
    case measure=>exact HK.out.2
    case rel=>exact ⟨e1,rfl,HK.out.1⟩
theorem Sy.Cl.ex {y:Sy} {c:List Int}:∀ (n:Nat) (e:List Int),sm e<=n->y.Cl c e->∃ e',y.Cl c e'/\y.Wh (cN e')
 | n,e,hn,h=>by
  by_cases hw:y.Wh (cN e)
  ·exact ⟨e,h,hw⟩
  ·obtain ⟨a,ha,b,hb,hno⟩:∃ a,a<y.pn/\∃ b,b<y.pn/\¬ tN y (cN e) a b<=sN y (cN e) a b:=by
    apply Classical.byContradiction
    intro hc
    exact hw fun a ha b hb=>Classical.byContradiction fun h'=>hc ⟨a,ha,b,hb,h'⟩
   have ho:0<=ovN y (cN e) a b:=by
    apply Classical.byContradiction
    intro h0
    exact hno (qfm.1 (by omega))
   obtain ⟨h1,h2,h3⟩:=h.next ha hb ho
   have hlt:=qre e b _ (by rw [h.len];exact hb) h3 h2
   cases n with
   | zero=>omega
   | succ n=>exact Sy.Cl.ex n _ (by omega) h1
theorem qqo {y:Sy} {c:List Int} (h:cutB y c=true):y.Cl c (clS y c)/\y.Wh (cN (clS y c)):=by
 obtain ⟨e,h1,h2⟩:=Sy.Cl.ex (sm c) c (Nat.le_refl _) (Sy.Cl.start (qbn h).2)
 rw [qo3 h h1 h2]
 exact ⟨h1,h2⟩
theorem qmw {y:Sy} {c:List Int} (hO:y.Ok) (hC:y.Cut c):cutB y c=true:=by
 unfold cutB
 rw [Sy.okB_true hO,qaz hC]
 rfl
theorem qin {y:Sy} {c:List Int} (h:cutB y c=true):y.Cut (clS y c):=(qqo h).1.cut (qbn h).2
theorem qw9 {y:Sy} {c:List Int} (h:cutB y c=true):whB y (clS y c)=true:=by
 unfold whB
 rw [qmw (qbn h).1 (qin h),qaz (qqo h).2]
 rfl
def bkL (y:Sy) (p:Nat) (k:Int):List Int:=(flT y y.hn).set p k
theorem qxr {y:Sy} {n p:Nat} (h:p<n):zi (flT y n) p=(y.hL p:Int):=by
 unfold zi flT
 simp [List.getD_eq_getElem?_getD,h]
theorem qxu {y:Sy} (hO:y.Ok) {p:Nat} {k:Int} (h0:0<=k) (h1:k<=(y.hL p:Int)):y.Cut (bkL y p k):=by
 have hh:=hO.cn.2.2.1
 refine ⟨by unfold bkL;rw [List.length_set,qdi];exact hh,fun q hq=>?_⟩
 unfold bkL
 by_cases hp:p<y.hn
 ·rw [qvk (by rw [qdi];exact hp)]
  by_cases e:q=p
  ·subst e
   rw [if_pos rfl]
   exact ⟨h0,h1⟩
  ·rw [if_neg e,qxr (by omega)]
   omega
 ·rw [List.set_eq_of_length_le (by rw [qdi];omega),qxr (by omega)]
  omega
noncomputable def bkE (y:Sy) (p k:Int):List Int:=clS y (bkL y p.toNat k)
def bkIn (y:Sy) (p k:Int):Bool:=belB p y.pn && inB k 0 (y.hL p.toNat)
noncomputable def bkC (y:Sy) (p k:Int):Int:=if y.okB=true then (if bkIn y p k=true then (if wfB (y.ah (cN (bkE y p k)))=true then 0 else 3) else 2) else 1
noncomputable def bkY (y:Sy) (p k:Int):Sy:=if y.okB=true then (if bkIn y p k=true then (if wfB (y.ah (cN (bkE y p k)))=true then y.atY (cN (bkE y p k)) else y) else y) else y.nil
theorem qru {y:Sy} {p k:Int} (h:bkIn y p k=true):∃ P:Nat,p=P/\P<y.pn/\0<=k/\k<=(y.hL P:Int):=by
 simp only [bkIn,belB,inB,Bool.and_eq_true,decide_eq_true_eq] at h
 exact ⟨p.toNat,by omega,by omega,h.2.1,h.2.2⟩
theorem qgp {y:Sy} (hO:y.Ok) {p k:Int} (h:bkIn y p k=true):cutB y (bkL y p.toNat k)=true:=by
 obtain ⟨P,rfl,hP,h0,h1⟩:=qru h
 rw [Int.toNat_natCast]
 exact qmw hO (qxu hO h0 h1)
theorem qw7 (y:Sy) (p k:Int):(bkY y p k).Sm:=by
 unfold bkY
 split
 ·rename_i hk
  have hO:=Sy.ok_of hk
  split
  ·rename_i hb
   split
   ·rename_i hw
    have hc:=qin (qgp hO hb)
    have:=Sy.atW_sm hO (d:=cN (bkE y p k)) fun q hq=>hc.leN hq
    rw [Sy.atW,if_pos hw] at this
    exact this
   ·exact hO.sm
  ·exact hO.sm
 ·exact y.nil_sm
theorem qag.weak {z:Bool} {w:World} {B:Nat} {y:Sy} {v:Value} (o:qag z w B y v):qag false w B y v:=by
 obtain ⟨c,vp,vs,vw,vh,up,us,uw,uh,e,o⟩:=o
 exact ⟨c,vp,vs,vw,vh,up,us,uw,uh,e,o.weak⟩
section
variable {P:Program} {a:Act} {w:World} {Q:Exit->Act->World->Prop}
def two (J0 J1:Act->World->Prop) (Q:Exit->Act->World->Prop):Exit->Act->World->Prop
 | .goto 0,a,w=>J0 a w
 | .goto 1,a,w=>J1 a w
 | .goto (_+2),_,_=>False
 | e,a,w=>Q e a w
theorem qyd {J0 J1:Act->World->Prop}:two J0 J1 Q .ret a w=Q .ret a w:=rfl
theorem qrh {J0 J1 K0 K1:Act->World->Prop} (h0:∀ a w,J0 a w->K0 a w) (h1:∀ a w,J1 a w->K1 a w) {e:Exit} {a:Act} {w:World} (h:two J0 J1 Q e a w):two K0 K1 Q e a w:=by
 match e,h with
 | .goto 0,h=>exact h0 _ _ h
 | .goto 1,h=>exact h1 _ _ h
 | .goto (_+2),h=>exact h.elim
 | .normal,h=>exact h
 | .exit _,h=>exact h
 | .ret,h=>exact h
 | .panic _,h=>exact h
 | .outgrown,h=>exact h
theorem qvg {c:Code} {Q':Exit->Act->World->Prop} (h:c.wp P Q a w) (hq:∀ e a w,Q e a w->Q' e a w):c.wp P Q' a w:=fun b k cs=>by
 obtain ⟨e,a',w',h1,h2⟩:=h b k cs
 exact ⟨e,a',w',hq _ _ _ h1,h2⟩
theorem qoh {c r0 r1:Code} (J0 J1:Nat->Act->World->Prop) (f0:findLabel c 0=some (.seq .skip r0)) (f1:findLabel c 1=some (.seq .skip r1))
  (first:(∀ k a w,J0 k a w->r0.wp P (two (fun a w=>∃ k,J0 k a w) (fun a w=>∃ k,J1 k a w) Q) a w)->c.wp P (two (fun a w=>∃ k,J0 k a w) (fun a w=>∃ k,J1 k a w) Q) a w)
  (pass0:∀ k,(∀ i a w,i<=k->J1 i a w->r1.wp P (two (fun a w=>∃ j,j<k/\J0 j a w) (fun a w=>∃ j,j<k/\J1 j a w) Q) a w)->∀ a w,J0 k a w->r0.wp P (two (fun a w=>∃ j,j<k/\J0 j a w) (fun a w=>∃ j,j<k/\J1 j a w) Q) a w)
  (pass1:∀ k a w,J1 k a w->r1.wp P (two (fun a w=>∃ j,j<k/\J0 j a w) (fun a w=>∃ j,j<k/\J1 j a w) Q) a w):(Code.scope c).wp P Q a w:=by
 have p0:∀ k a w,J0 k a w->r0.wp P (two (fun a w=>∃ j,j<k/\J0 j a w) (fun a w=>∃ j,j<k/\J1 j a w) Q) a w:=fun k a w hJ=>
  pass0 k (fun i a w hi h=>qvg (pass1 i a w h) fun _ _ _ h=>qrh (fun _ _ ⟨j,hj,h⟩=>⟨j,by omega,h⟩) (fun _ _ ⟨j,hj,h⟩=>⟨j,by omega,h⟩) h) a w hJ
 have fst:=first fun k a w hJ=>qvg (p0 k a w hJ) fun _ _ _ h=>qrh (fun _ _ ⟨j,_,h⟩=>⟨j,h⟩) (fun _ _ ⟨j,_,h⟩=>⟨j,h⟩) h
 intro b k cs
 have g0:gotoIn 0 (.inScope c :: k)=some (.code (.seq .skip r0) :: .inScope c :: k):=by simp [gotoIn,f0]
 have g1:gotoIn 1 (.inScope c :: k)=some (.code (.seq .skip r1) :: .inScope c :: k):=by simp [gotoIn,f1]
 have key:∀ n,(∀ a w,J0 n a w->∃ e a' w',Q e a' w'/\Arrives P (lone (b.at a (.code (.seq .skip r0) :: .inScope c :: k)) cs w) b k cs e a' w')/\(∀ a w,J1 n a w->∃ e a' w',Q e a' w'/\Arrives P (lone (b.at a (.code (.seq .skip r1) :: .inScope c :: k)) cs w) b k cs e a' w'):=by
  intro n
  induction n using Nat.strongRecOn with
  | _ n ih=>
   have both:∀ r:Code,(∀ a w,r.wp P (two (fun a w=>∃ j,j<n/\J0 j a w) (fun a w=>∃ j,j<n/\J1 j a w) Q) a w->∃ e a' w',Q e a' w'/\Arrives P (lone (b.at a (.code r :: .inScope c :: k)) cs w) b k cs e a' w'):=by
    intro r a w hr
    obtain ⟨e,a₁,w₁,hq,harr⟩:=hr b (.inScope c :: k) cs
    match e,hq,harr with
    | .normal,hq,harr=>exact ⟨.normal,a₁,w₁,hq,Steps.trans harr (.one step_inScope)⟩
    | .exit id,hq,harr=>exact ⟨.exit id,a₁,w₁,hq,fun k' hk=>harr k' (by simp [exitTo,hk])⟩
    | .goto 0,⟨j,hj,hJ⟩,harr=>
     obtain ⟨e₂,a₂,w₂,hq₂,harr₂⟩:=(ih j hj).1 a₁ w₁ hJ
     exact ⟨e₂,a₂,w₂,hq₂,.of_steps (harr _ g0) harr₂⟩
    | .goto 1,⟨j,hj,hJ⟩,harr=>
     obtain ⟨e₂,a₂,w₂,hq₂,harr₂⟩:=(ih j hj).2 a₁ w₁ hJ
     exact ⟨e₂,a₂,w₂,hq₂,.of_steps (harr _ g1) harr₂⟩
    | .goto (_+2),hq,_=>exact hq.elim
    | .ret,hq,harr=>exact ⟨_,a₁,w₁,hq,harr⟩
    | .panic ch,hq,harr=>exact ⟨_,a₁,w₁,hq,harr⟩
    | .outgrown,hq,harr=>exact ⟨_,a₁,w₁,hq,harr⟩
   exact ⟨fun a w h=>both _ a w (wp_seq (wp_skip (p0 n a w h))),fun a w h=>both _ a w (wp_seq (wp_skip (pass1 n a w h)))⟩
 obtain ⟨e,a₁,w₁,hq,harr⟩:=fst b (.inScope c :: k) cs
 match e,hq,harr with
 | .normal,hq,harr=>exact ⟨.normal,a₁,w₁,hq,.head step_scope (Steps.trans harr (.one step_inScope))⟩
 | .exit id,hq,harr=>exact ⟨.exit id,a₁,w₁,hq,fun k' hk=>.head step_scope (harr k' (by simp [exitTo,hk]))⟩
 | .goto 0,⟨j,hJ⟩,harr=>
  obtain ⟨e₂,a₂,w₂,hq₂,harr₂⟩:=(key j).1 a₁ w₁ hJ
  exact ⟨e₂,a₂,w₂,hq₂,.of_steps (.head step_scope (harr _ g0)) harr₂⟩
 | .goto 1,⟨j,hJ⟩,harr=>
  obtain ⟨e₂,a₂,w₂,hq₂,harr₂⟩:=(key j).2 a₁ w₁ hJ
  exact ⟨e₂,a₂,w₂,hq₂,.of_steps (.head step_scope (harr _ g1)) harr₂⟩
 | .goto (_+2),hq,_=>exact hq.elim
 | .ret,hq,harr=>exact ⟨_,a₁,w₁,hq,.of_steps (.one step_scope) harr⟩
 | .panic ch,hq,harr=>exact ⟨_,a₁,w₁,hq,.of_steps (.one step_scope) harr⟩
 | .outgrown,hq,harr=>exact ⟨_,a₁,w₁,hq,.of_steps (.one step_scope) harr⟩
end
theorem qlm (w:World) (b off cc:Nat) (c:List Int) (h:Sl w (some ⟨b,off,none⟩) c) (z:Array Value) (hz:z.size=c.length):
  (Builtin.copy_ #[47,47] 3 #[.slice (some ⟨w.heap.size,0,none⟩) c.length c.length,.slice (some ⟨b,off,none⟩) c.length cc]).run Tryz.prog (w.alloc (.cells z 3))=.ok (goInt c.length) (w.alloc (.cells (c.map (Value.int .i64)).toArray 3)):=by
 have hl:(c.map (Value.int .i64)).length=c.length:=by simp
 have h2:=run_copy_row (P:=Tryz.prog) (w.alloc (.cells z 3)) 47 47 3 3 w.heap.size 0 c.length c.length ⟨b,off,none⟩ c.length cc z 3 (c.map (Value.int .i64)) Tryz.underlying47 qp2 (heap_alloc_new w _) (by rw [hl];exact (Nat.min_self _).symm) (qjb h (zT _ _)) (by rw [hl,hz];omega) (qf7 c)
 rw [h2,qen,hl]
 simp only [List.take_zero,List.nil_append,Nat.zero_add]
 rw [List.drop_of_length_le (by simp [hz]),List.append_nil]
theorem qks (ca:Option Addr) (cc:Nat) (c:List Int) (w:World) (hn:0<c.length) (hl:c.length<=1048576) (hc:Sl w ca c):
  Calls Tryz.prog 137 #[.slice ca c.length cc] w fun e w'=>e=.returned (.slice (some ⟨w.heap.size,0,none⟩) c.length c.length)/\OwnI w' w.heap.size (.slice (some ⟨w.heap.size,0,none⟩) c.length c.length) c/\Below w.heap.size w w':=by
 obtain ⟨b,off,rfl,-,-⟩:=hc.all hn
 have hl':(c.length:Int)<=1048576:=by omega
 have hmk:=qcg c.length hl
 have hcp:=qlm w b off cc c hc (madeCells #[.int .i64 0] c.length) (by simp [size_madeCells])
 have HO:Hid (OwnI (w.alloc (.cells (c.map (Value.int .i64)).toArray 3)) w.heap.size (.slice (some ⟨w.heap.size,0,none⟩) c.length c.length) c/\Below w.heap.size w (w.alloc (.cells (c.map (Value.int .i64)).toArray 3))):=by
  refine ⟨?_,zT _ _⟩
  have:=World.ownsRow_lit (base:=w.heap.size) (e:=3) (size:=1) w (c.map (Value.int .i64)).toArray c.length (Nat.le_refl _) (by unfold maxLen;omega) (by simp)
  exact this
 clear hc
 go_enter Tryz.func137,Tryz.ntmps137
 go_wp2
 go_ret
 exact ⟨rfl,HO.out⟩
def CJ0 (w:World) (x:SysIn) (ca:Option Addr) (cc:Nat) (c:List Int) (k:Nat) (a:Act) (wr:World):Prop:=∃ (g:Nat) (e:List Int) (u3 u7 u8 u9 u10 u11 u12 u13 u14 u15 u16 u17 u18 u19 u20 u21 u22 u23 u24 u25 u26 u27 u28 u29 u30 u31 u32 u33 u34 u35 u36 u37 u38 u39 u40 u41 u42 u43 u44:Value),a={ tmps:=#[x.v,.slice ca c.length cc,.pointer (some ⟨w.heap.size,0,none⟩),u3,.slice none 0 0,.slice (some ⟨g,0,none⟩) c.length c.length,.int .i64 (c.length:Nat),u7,u8,u9,u10,u11,u12,u13,u14,u15,u16,u17,u18,u19,u20,u21,u22,u23,u24,u25,u26,u27,u28,u29,u30,u31,u32,u33,u34,u35,u36,u37,u38,u39,u40,u41,u42,u43,u44],defers:=[] }/\Hid (CW w wr x g c.length c e/\k=sm e*40+20)
structure CH (wr:World) (x:SysIn) (X m:Nat) (c e:List Int):Prop where
 c0:∃ ea ec,wr.cell? ⟨X,0,none⟩=some (.slice ea c.length ec)/\RowS wr ea c.length fun i=>.slice (x.hA i) (cN e i) (cN e i)
 lt:m<=c.length*c.length
 ok:∀ i,i<m->tN x.y (cN e) (i / c.length) (i % c.length)<=sN x.y (cN e) (i / c.length) (i % c.length)
theorem CH.below {wr w':World} {x:SysIn} {X m:Nat} {c e:List Int} (h:CH wr x X m c e) (hb:Below wr.heap.size wr w'):CH w' x X m c e:=by
 obtain ⟨ea,ec,h0,h1⟩:=h.c0
 exact ⟨⟨ea,ec,(hb.cell (p:=⟨X,0,none⟩) (zJ wr _ h0)).trans h0,h1.below hb⟩,h.lt,h.ok⟩
def CJ1 (w:World) (x:SysIn) (ca:Option Addr) (cc:Nat) (c:List Int) (k:Nat) (a:Act) (wr:World):Prop:=∃ (g X m:Nat) (e:List Int) (u3 u9 u10 u11 u12 u13 u14 u15 u16 u17 u18 u19 u20 u21 u22 u23 u24 u25 u26 u27 u28 u29 u30 u31 u32 u33 u34 u35 u36 u37 u38 u39 u40 u41 u42 u43 u44:Value),a={ tmps:=#[x.v,.slice ca c.length cc,.pointer (some ⟨w.heap.size,0,none⟩),u3,.slice none 0 0,.slice (some ⟨g,0,none⟩) c.length c.length,.int .i64 (c.length:Nat),.pointer (some ⟨X,0,none⟩),.int .i64 (m:Nat),u9,u10,u11,u12,u13,u14,u15,u16,u17,u18,u19,u20,u21,u22,u23,u24,u25,u26,u27,u28,u29,u30,u31,u32,u33,u34,u35,u36,u37,u38,u39,u40,u41,u42,u43,u44],defers:=[] }/\Hid (CW w wr x g c.length c e/\CH wr x X m c e/\k=sm e*40+(16 - m))
theorem CJ0.mk {w:World} {x:SysIn} {ca:Option Addr} {cc:Nat} {c:List Int} {k g:Nat} {e:List Int} {wr:World} {u3 u7 u8 u9 u10 u11 u12 u13 u14 u15 u16 u17 u18 u19 u20 u21 u22 u23 u24 u25 u26 u27 u28 u29 u30 u31 u32 u33 u34 u35 u36 u37 u38 u39 u40 u41 u42 u43 u44:Value} (h:CW w wr x g c.length c e) (hk:k=sm e*40+20):CJ0 w x ca cc c k { tmps:=#[x.v,.slice ca c.length cc,.pointer (some ⟨w.heap.size,0,none⟩),u3,.slice none 0 0,.slice (some ⟨g,0,none⟩) c.length c.length,.int .i64 (c.length:Nat),u7,u8,u9,u10,u11,u12,u13,u14,u15,u16,u17,u18,u19,u20,u21,u22,u23,u24,u25,u26,u27,u28,u29,u30,u31,u32,u33,u34,u35,u36,u37,u38,u39,u40,u41,u42,u43,u44],defers:=[] } wr:=⟨g,e,u3,u7,u8,u9,u10,u11,u12,u13,u14,u15,u16,u17,u18,u19,u20,u21,u22,u23,u24,u25,u26,u27,u28,u29,u30,u31,u32,u33,u34,u35,u36,u37,u38,u39,u40,u41,u42,u43,u44,rfl,h,hk⟩
theorem CJ1.mk {w:World} {x:SysIn} {ca:Option Addr} {cc:Nat} {c:List Int} {k g X m:Nat} {e:List Int} {wr:World} {u3 u9 u10 u11 u12 u13 u14 u15 u16 u17 u18 u19 u20 u21 u22 u23 u24 u25 u26 u27 u28 u29 u30 u31 u32 u33 u34 u35 u36 u37 u38 u39 u40 u41 u42 u43 u44:Value} (h:CW w wr x g c.length c e) (hh:CH wr x X m c e) (hk:k=sm e*40+(16 - m)):CJ1 w x ca cc c k { tmps:=#[x.v,.slice ca c.length cc,.pointer (some ⟨w.heap.size,0,none⟩),u3,.slice none 0 0,.slice (some ⟨g,0,none⟩) c.length c.length,.int .i64 (c.length:Nat),.pointer (some ⟨X,0,none⟩),.int .i64 (m:Nat),u9,u10,u11,u12,u13,u14,u15,u16,u17,u18,u19,u20,u21,u22,u23,u24,u25,u26,u27,u28,u29,u30,u31,u32,u33,u34,u35,u36,u37,u38,u39,u40,u41,u42,u43,u44],defers:=[] } wr:=⟨g,X,m,e,u3,u9,u10,u11,u12,u13,u14,u15,u16,u17,u18,u19,u20,u21,u22,u23,u24,u25,u26,u27,u28,u29,u30,u31,u32,u33,u34,u35,u36,u37,u38,u39,u40,u41,u42,u43,u44,rfl,h,hh,hk⟩
theorem qk4 (x:SysIn) (ca:Option Addr) (cc:Nat) (c:List Int) (w:World) (hG:SysG w x) (hL:x.Len) (hcap:∀ i,i<x.hn->x.hL i<=x.hC i) (hc:Sl w ca c) (hcl:c.length<=1048576) (hV:w.cell? ⟨0,0,none⟩=some (.iface 298 (.agg #[.pointer (some ⟨1,213,none⟩)]))):
  Calls Tryz.prog 79 #[x.v,.slice ca c.length cc] w fun e w'=>∃ u,e=.returned u/\OwnI w' w.heap.size u (clS x.y c)/\Below w.heap.size w w':=by
 have HS:Hid (∀ wx,Below w.heap.size w wx->Calls Tryz.prog 67 #[x.v,.slice ca c.length cc] wx fun e w'=>e=.returned (.bool (cutB x.y c))/\Below wx.heap.size wx w'):=fun wx hb=>qf3 x ca cc c wx (hG.below hb) hL (hc.below hb) hcl ((hb.cell (p:=⟨0,0,none⟩) (zJ w _ hV)).trans hV)
 have BW:Hid (Below w.heap.size w (w.alloc (oQ4 x.pa x.pn x.pc x.sa x.sn x.sc x.wa x.wn x.wc x.ha x.hn x.hc))):=zT _ _
 have NB:Hid (BoxC (w.alloc (oQ4 x.pa x.pn x.pc x.sa x.sn x.sc x.wa x.wn x.wc x.ha x.hn x.hc)) w.heap.size (.slice x.pa x.pn x.pc) (.slice x.sa x.sn x.sc) (.slice x.wa x.wn x.wc) (.slice x.ha x.hn x.hc)/\w.heap.size<(w.alloc (oQ4 x.pa x.pn x.pc x.sa x.sn x.sc x.wa x.wn x.wc x.ha x.hn x.hc)).heap.size):=⟨BoxC.new w _ _ _ _ _,by simp⟩
 rcases zK (cutB x.y c) with ht | ht
 case inr=>
  have HV:Hid (clS x.y c=[]):=qyo ht
  rw [ht] at HS
  clear hG hL hcap hc hV ht
  go_enter Tryz.func79,Tryz.ntmps79
  go_wp2_with fail
  go_step3
  go_wp2_with fail
  generalize w.alloc (oQ4 x.pa x.pn x.pc x.sa x.sn x.sc x.wa x.wn x.wc x.ha x.hn x.hc)=W2 at *
  refine (HS.out W2 BW.out).mono ?_
  rintro e w1 ⟨rfl,q1⟩
  have OE:Hid (OwnI (w1.alloc (.cells #[] 3)) w.heap.size (.slice (some ⟨w1.heap.size,0,none⟩) 0 0) []/\Below w.heap.size w (w1.alloc (.cells #[] 3))):=by
   have h:=BW.out.trans (q1.mono BW.out.size)
   exact ⟨(qb6 w1).mono h.size,h.trans ((zT _ _).mono h.size)⟩
  clear q1 BW NB HS
  go_wp2
  rw [Exit.noGoto_ret]
  go_ret
  rw [HV.out]
  exact ⟨_,rfl,OE.out⟩
 obtain ⟨hO,hC⟩:=qbn ht
 have hln:c.length=x.pn:=hC.len
 have h1:1<=x.pn:=hO.cn.1.1
 have h4:x.pn<=4:=hO.cn.1.2
 have hl':(c.length:Int)<=4:=by omega
 have hl1:(1:Int)<=(c.length:Int):=by omega
 have hl0:¬ (c.length:Int)=0:=by omega
 have hm0:0<=(c.length:Int)*(c.length:Int):=Int.mul_nonneg (by omega) (by omega)
 have hm16:(c.length:Int)*(c.length:Int)<=16:=by
  have:=Int.mul_le_mul (show (c.length:Int)<=4 by omega) (show (c.length:Int)<=4 by omega) (by omega) (by omega)
  omega
 have HQ:Hid (c.length=x.pn/\0<c.length/\c.length<=4):=⟨hln,by omega,by omega⟩
 have HSl:Hid (Sl w ca c):=hc
 have HSt:Hid (x.y.Cl c c):=Sy.Cl.start hC
 have HEnd:Hid (∀ e,x.y.Cl c e->x.y.Wh (cN e)->clS x.y c=e):=fun e h h'=>qo3 ht h h'
 have HH:Hid (∀ wr g e,CW w wr x g c.length c e->Calls Tryz.prog 68 #[x.v,.slice (some ⟨g,0,none⟩) c.length c.length] wr fun r w'=>∃ ha hc,r=.returned (.agg (hcL ha c.length hc).toArray)/\RowS w' ha c.length (fun i=>.slice (x.hA i) (cN e i) (cN e i))/\Below wr.heap.size wr w'):=fun wr g e h=>by
  have:=qf2 x (some ⟨g,0,none⟩) c.length e wr (hG.below h.be) hcap hO.cn.2.2.1 h4 (h.cl.cut hC) h.slOf
  rwa [h.ln] at this
 have HU:Hid (∀ wr g X m e a b,CW w wr x g c.length c e->CH wr x X m c e->a<c.length->b<c.length->Calls Tryz.prog 138 #[.pointer (some ⟨X,0,none⟩),.int .i64 (a:Nat),.int .i64 (b:Nat)] wr fun r w'=>r=.returned (.int .i64 (ovN x.y (cN e) a b))/\Below wr.heap.size wr w'):=fun wr g X m e a b h hh ha hb=>by
  obtain ⟨ea,ec,c0,hr⟩:=hh.c0
  have hCe:=h.cl.cut hC
  rw [<- h.ln] at c0 hr ha hb
  have hn:e.length=x.pn:=hCe.len
  exact qjj X ec ea x.hA (cN e) (x.y.at e) a b wr c0 (qtv hG h.be hCe hO.cn.2.2.1 hr) (fun i hi=>zP (hCe.leN (by have h2:i<e.length:=hi;show i<x.pn;omega)) (hO.hl200 (by have h2:i<e.length:=hi;show i<x.pn;omega))) ha hb
 have HNx:Hid (∀ wr g e a b,CW w wr x g c.length c e->a<c.length->b<c.length->0<=ovN x.y (cN e) a b->x.y.Cl c (e.set b (ovN x.y (cN e) a b))/\sm (e.set b (ovN x.y (cN e) a b))<sm e):=fun wr g e a b h ha hb h0=>by
  obtain ⟨q1,q2,q3⟩:=h.cl.next (a:=a) (b:=b) (by show a<x.pn;omega) (by show b<x.pn;omega) h0
  exact ⟨q1,qre e b _ (by rw [h.ln];exact hb) q3 q2⟩
 rw [ht] at HS
 clear hG hL hcap hc hV ht hO hC hln h1 h4
 go_enter Tryz.func79,Tryz.ntmps79
 go_wp2_with fail
 refine qoh (CJ0 w x ca cc c) (CJ1 w x ca cc c) rfl rfl ?first ?pass0 ?pass1
 case first=>
  intro hyp
  go_wp2_with fail
  generalize w.alloc (oQ4 x.pa x.pn x.pc x.sa x.sn x.sc x.wa x.wn x.wc x.ha x.hn x.hc)=W2 at *
  refine (HS.out W2 BW.out).mono ?_
  rintro e w1 ⟨rfl,q1⟩
  have B1:Hid (Below w.heap.size w w1/\BoxC w1 w.heap.size (.slice x.pa x.pn x.pc) (.slice x.sa x.sn x.sc) (.slice x.wa x.wn x.wc) (.slice x.ha x.hn x.hc)/\w.heap.size<w1.heap.size):=⟨BW.out.trans (q1.mono BW.out.size),NB.out.1.below q1,zL NB.out.2 q1.size⟩
  clear q1 BW NB HS
  go_wp2_with fail
  refine (qks ca cc c w1 HQ.out.2.1 (by have:=HQ.out;omega) (HSl.out.below B1.out.1)).mono ?_
  rintro e w2 ⟨rfl,o2,q2⟩
  have B2:Hid (CW w w2 x w1.heap.size c.length c c):=⟨o2.mono B1.out.2.2,B1.out.1.trans (q2.mono B1.out.1.size),B1.out.2.1.below q2,HSt.out,rfl⟩
  clear q2 o2 B1
  generalize w1.heap.size=g at *
  go_wp2_with fail
  go_step3
  rename_i K hK
  exact hK _ _ (hyp _ _ _ (CJ0.mk B2.out rfl))
 case pass0=>
  intro k hyp a' wr hJ
  obtain ⟨g,e,u3,u7,u8,u9,u10,u11,u12,u13,u14,u15,u16,u17,u18,u19,u20,u21,u22,u23,u24,u25,u26,u27,u28,u29,u30,u31,u32,u33,u34,u35,u36,u37,u38,u39,u40,u41,u42,u43,u44,rfl,HB⟩:=hJ
  obtain ⟨b0,b1,b2,b3⟩:=HB.out.1.bx
  clear HS BW NB HSl HSt
  go_wp2_with fail
  refine (HH.out wr g e HB.out.1).mono ?_
  rintro r w2 ⟨ea,ec,rfl,r2,q2⟩
  have B2:Hid (CW w w2 x g c.length c e/\RowS w2 ea c.length (fun i=>.slice (x.hA i) (cN e i) (cN e i))/\k=sm e*40+20):=⟨HB.out.1.below q2,r2,HB.out.2⟩
  clear q2 r2 b0 b1 b2 b3 HB HH
  have hl:=qpg ea c.length ec
  have ho:=qph ea c.length ec
  generalize hcs:hcL ea c.length ec=cl at *
  have hs:cl.toArray.size=21:=by simpa using hl
  have HI:Hid ((Tryz.prog.info? 98).map (·.size)=some cl.toArray.size):=by show _=_;rw [hs];exact qfi
  have HO:Hid (cl.toArray.all (·.oneCell')=true):=all_oneCell_toArray ho
  have HT:Hid ((w2.alloc (zQ3)).there w2.heap.size 0 cl.toArray.size):=qbz _ _ _ _ _ (by rw [hs];rfl) rfl
  have BE:Hid (Below w2.heap.size w2 ((w2.alloc (zQ3)).setCells w2.heap.size 0 cl)):=(qaa.sets (P:=fun b=>b=w2.heap.size) rfl _ _ (qaa.of_below (zT _ _))).below (Nat.le_refl _) fun b e=>by omega
  have HR:((w2.alloc (zQ3)).setCells w2.heap.size 0 cl).rangeAt w2.heap.size 0 cl:=World.rangeAt_setCells_same _ _ _ _ (by simpa using HT.out)
  have HCe:Hid (((w2.alloc (zQ3)).setCells w2.heap.size 0 cl).cell? ⟨w2.heap.size,0,none⟩=some (.slice ea c.length ec)):=qqw HR hcs
  clear hl ho hs HR hcs
  go_wp2_with (refine wpList_store_mid rfl 98 (.tmp 7) (.tmp 22) rfl w2.heap.size 0 cl.toArray rfl rfl HT.out HI.out HO.out ?_)
  clear HT HI HO
  generalize (w2.alloc (zQ3)).setCells w2.heap.size 0 cl=w3 at *
  have B3:Hid (CW w w3 x g c.length c e/\CH w3 x w2.heap.size 0 c e/\k=sm e*40+20):=⟨B2.out.1.below BE.out,⟨⟨ea,ec,HCe.out,B2.out.2.1.below BE.out⟩,Nat.zero_le _,fun i hi=>by omega⟩,B2.out.2.2⟩
  clear BE B2 HCe
  generalize w2.heap.size=X at *
  go_step3
  rename_i K hK
  exact hK _ _ (hyp (sm e*40+16) _ _ (by have:=B3.out.2.2;omega) (CJ1.mk (m:=0) B3.out.1 B3.out.2.1 rfl))
 case pass1=>
  intro k a' wr hJ
  obtain ⟨g,X,m,e,u3,u9,u10,u11,u12,u13,u14,u15,u16,u17,u18,u19,u20,u21,u22,u23,u24,u25,u26,u27,u28,u29,u30,u31,u32,u33,u34,u35,u36,u37,u38,u39,u40,u41,u42,u43,u44,rfl,HB⟩:=hJ
  clear HS BW NB HSl HSt HH
  rcases zK ((m:Int) == (c.length:Int)*(c.length:Int)) with t | t
  ·have HM:Hid (m=c.length*c.length):=by
    have h:(m:Int)=(c.length:Int)*(c.length:Int):=by simpa using t
    rw [<- Int.natCast_mul] at h
    show m=_
    omega
   have HV:Hid (OwnI wr w.heap.size (.slice (some ⟨g,0,none⟩) c.length c.length) (clS x.y c)/\Below w.heap.size w wr):=by
    have hw:x.y.Wh (cN e):=fun a ha b hb=>by
     have hq:=HQ.out
     have ha':a<c.length:=by have h3:a<x.pn:=ha;omega
     have hb':b<c.length:=by have h3:b<x.pn:=hb;omega
     have h := HB.out.2.1.ok (a * c.length + b) (by
      rw [HM.out]
      have h5:(a+1)*c.length<=c.length*c.length:=Nat.mul_le_mul_right _ ha'
      rw [Nat.add_mul,Nat.one_mul] at h5
      omega)
     rw [Nat.mul_add_mod' a c.length b,Nat.mod_eq_of_lt hb',Nat.mul_comm a,Nat.mul_add_div (by omega),Nat.div_eq_of_lt hb',Nat.add_zero] at h
     exact h
    rw [HEnd.out e HB.out.1.cl hw]
    exact ⟨HB.out.1.ow.mono (by omega),HB.out.1.be⟩
   clear HB HM
   go_wp2
   rw [qyd]
   go_ret
   exact ⟨_,rfl,HV.out⟩
  have hmlt:m<c.length*c.length:=by
   have h:=HB.out.2.1.lt
   have h2:m≠c.length*c.length:=fun h=>by
    rw [h,Int.natCast_mul] at t
    simp at t
   omega
  have hm16':c.length*c.length<=16:=by
   have hq:=HQ.out
   exact Nat.mul_le_mul hq.2.2 hq.2.2
  have hmi:(m:Int)<=16:=by omega
  have eq1:Int.tdiv (m:Int) (c.length:Int)=((m / c.length:Nat):Int):=(Int.ofNat_tdiv m c.length).symm
  have eq2:Int.tmod (m:Int) (c.length:Int)=((m % c.length:Nat):Int):=(Int.ofNat_tmod m c.length).symm
  have HM:Hid (m<c.length*c.length/\m<16/\m / c.length<c.length/\m % c.length<c.length):=⟨hmlt,by omega,Nat.div_lt_of_lt_mul hmlt,Nat.mod_lt _ HQ.out.2.1⟩
  have ha4:((m / c.length:Nat):Int)<=4:=by have:=HM.out;have:=HQ.out;omega
  have hb4:((m % c.length:Nat):Int)<(c.length:Int):=by have:=HM.out;omega
  clear hmlt hm16'
  generalize hA':m / c.length=A at *
  generalize hB':m % c.length=B at *
  have HAB:Hid (m / c.length=A/\m % c.length=B):=⟨hA',hB'⟩
  clear hA' hB'
  go_wp2_with fail
  refine (HU.out wr g X m e (A) (B) HB.out.1 HB.out.2.1 HM.out.2.2.1 HM.out.2.2.2).mono ?_
  rintro r w3 ⟨rfl,q3⟩
  have B3:Hid (CW w w3 x g c.length c e/\CH w3 x X m c e/\k=sm e*40+(16 - m)):=⟨HB.out.1.below q3,HB.out.2.1.below q3,HB.out.2.2⟩
  have HN:Hid (ovN x.y (cN e) (A) (B)<0 ↔ tN x.y (cN e) (A) (B)<=sN x.y (cN e) (A) (B)):=qfm
  have HX:Hid (0<=ovN x.y (cN e) (A) (B)->x.y.Cl c (e.set (B) (ovN x.y (cN e) (A) (B)))/\sm (e.set (B) (ovN x.y (cN e) (A) (B)))<sm e):=fun h=>HNx.out w3 g e _ _ B3.out.1 HM.out.2.2.1 HM.out.2.2.2 h
  generalize ovN x.y (cN e) (A) (B)=ov at *
  clear q3 HB HU HNx
  by_cases ho:ov<0
  ·have B4 : Hid (CW w w3 x g c.length c e ∧ CH w3 x X (m + 1) c e ∧ sm e * 40 + (16 - (m + 1)) < k) := ⟨B3.out.1, ⟨B3.out.2.1.c0, HM.out.1, fun i hi => by
    by_cases ei:i=m
    ·subst ei
     rw [HAB.out.1,HAB.out.2]
     exact HN.out.1 ho
    ·exact B3.out.2.1.ok i (by omega)⟩,by
    rw [B3.out.2.2]
    have:=HM.out.2.1
    omega⟩
   clear B3 HN HX
   go_wp2_with fail
   go_step3
   have e8:(m:Int)+1=((m+1:Nat):Int):=by omega
   rw [e8]
   exact ⟨_,B4.out.2.2,CJ1.mk (m:=m+1) B4.out.1 B4.out.2.1 rfl⟩
  ·obtain ⟨ce,cf⟩:=B3.out.1.cell HM.out.2.2.2
   have B4 : Hid (CW w (w3.setCell ⟨g, B, none⟩ (.int .i64 ov)) x g c.length c (e.set (B) ov) ∧ sm (e.set (B) ov) * 40 + 20 < k) := ⟨B3.out.1.put (HX.out (by omega)).1, by
    rw [B3.out.2.2]
    have:=(HX.out (by omega)).2
    omega⟩
   clear B3 HN HX
   go_wp2_with fail
   go_step3
   exact ⟨_,B4.out.2,CJ0.mk B4.out.1 rfl⟩
theorem qna (x:SysIn) (w:World) (hG:SysG w x) (hL:x.Len) (hV:w.cell? ⟨0,0,none⟩=some (.iface 298 (.agg #[.pointer (some ⟨1,213,none⟩)]))):
  Calls Tryz.prog 78 #[x.v] w fun e w'=>∃ u,e=.returned u/\OwnI w' w.heap.size u (flS x.y)/\Below w.heap.size w w':=by
 have HG:Hid (SysG w x):=hG
 have hl':(x.hn:Int)<=1048576:=by have:=hL.h.1;omega
 have HLh:Hid (∀ i,i<x.hn->x.hL i<=1048576):=hL.h.2
 have HS:Hid (∀ wx,Below w.heap.size w wx->Calls Tryz.prog 75 #[x.v] wx fun e w'=>e=.returned (.bool x.y.okB)/\Below wx.heap.size wx w'):=fun wx hb=>qdw x wx (hG.below hb) hL ((hb.cell (p:=⟨0,0,none⟩) (zJ w _ hV)).trans hV)
 have BW:Hid (Below w.heap.size w ((w.alloc (oQ4 x.pa x.pn x.pc x.sa x.sn x.sc x.wa x.wn x.wc x.ha x.hn x.hc)).alloc (.cells #[] 3))):=(zT _ _).trans ((zT _ _).mono (by simp))
 have NB:Hid (BoxC ((w.alloc (oQ4 x.pa x.pn x.pc x.sa x.sn x.sc x.wa x.wn x.wc x.ha x.hn x.hc)).alloc (.cells #[] 3)) w.heap.size (.slice x.pa x.pn x.pc) (.slice x.sa x.sn x.sc) (.slice x.wa x.wn x.wc) (.slice x.ha x.hn x.hc)):=(BoxC.new w _ _ _ _ _).below (zT _ _)
 have NO:Hid (OwnI ((w.alloc (oQ4 x.pa x.pn x.pc x.sa x.sn x.sc x.wa x.wn x.wc x.ha x.hn x.hc)).alloc (.cells #[] 3)) (w.heap.size+1) (.slice (some ⟨w.heap.size+1,0,none⟩) 0 0) []):=qe2 (w.alloc (oQ4 x.pa x.pn x.pc x.sa x.sn x.sc x.wa x.wn x.wc x.ha x.hn x.hc)) (by simp)
 have LT:Hid (w.heap.size+1<=((w.alloc (oQ4 x.pa x.pn x.pc x.sa x.sn x.sc x.wa x.wn x.wc x.ha x.hn x.hc)).alloc (.cells #[] 3)).heap.size):=by
  show _<=_
  simp
 clear hG hL hV
 go_enter Tryz.func78,Tryz.ntmps78
 go_wp2_with fail
 generalize (w.alloc (oQ4 x.pa x.pn x.pc x.sa x.sn x.sc x.wa x.wn x.wc x.ha x.hn x.hc)).alloc (.cells #[] 3)=W2 at *
 refine (HS.out W2 BW.out).mono ?_
 rintro e w1 ⟨rfl,q1⟩
 have B1:Hid (OwnI w1 (w.heap.size+1) (.slice (some ⟨w.heap.size+1,0,none⟩) 0 0) []/\Below w.heap.size w w1/\BoxC w1 w.heap.size (.slice x.pa x.pn x.pc) (.slice x.sa x.sn x.sc) (.slice x.wa x.wn x.wc) (.slice x.ha x.hn x.hc)/\w.heap.size+1<=w1.heap.size):=⟨NO.out.below q1,BW.out.trans (q1.mono BW.out.size),NB.out.below q1,zP LT.out q1.size⟩
 clear q1 BW NB NO LT HS
 rcases zK x.y.okB with t | t
 case inr=>
  have HV:Hid (flS x.y=[]):=by
   show flS x.y=[]
   rw [flS,if_neg (by rw [t];simp)]
  rw [t]
  clear t
  go_wp2
  go_ret
  rw [HV.out]
  exact ⟨_,rfl,B1.out.1.mono (by omega),B1.out.2.1⟩
 have HV:Hid (flS x.y=flT x.y x.hn):=if_pos t
 rw [t]
 clear t
 have b3:=B1.out.2.2.1.2.2.2
 go_wp2_with fail
 clear b3
 go_loopw [3,14] (fun o i wr=>∃ k:Nat,k<=x.hn/\i=.int .i64 k/\Hid (OwnI wr (w.heap.size+1) o (flT x.y k)/\Below w.heap.size w wr/\BoxC wr w.heap.size (.slice x.pa x.pn x.pc) (.slice x.sa x.sn x.sc) (.slice x.wa x.wn x.wc) (.slice x.ha x.hn x.hc)/\w.heap.size+1<=wr.heap.size)) (fun _ i _=>x.hn - (intOf i).toNat)
 case atStart=>exact ⟨0,Nat.zero_le _,rfl,B1.out⟩
 case round=>
  clear B1
  obtain ⟨k,hk,rfl,HB⟩:=hrel
  by_cases hlt:k<x.hn
  ·have hlt':(k:Int)<(x.hn:Int):=by omega
   obtain ⟨bh,oh,eh,ch⟩:=(HG.out.below HB.out.2.1).h.at hlt
   rw [eh]
   have EH:Hid (x.ha=some ⟨bh,oh,none⟩):=eh
   clear eh
   have hfl:=qdi x.y k
   have hlk:(x.hL k:Int)<=1048576:=by have:=HLh.out k hlt;omega
   have HF:Hid (flT x.y (k+1)=flT x.y k ++ [(x.hL k:Int)]):=qqs x.y k
   have HFl:Hid ((flT x.y k).length<=1048576):=by show _<=_;omega
   clear hfl
   go_wp2_with (at_builtin;refine qdl wr rfl _ _ rfl (w.heap.size+1) u3 (flT x.y k) rfl HB.out.1 (x.hL k:Int) rfl HFl.out HB.out.2.2.2 ?_;intro v' w4 o4 b4;have H4:Hid (OwnI w4 (w.heap.size+1) v' (flT x.y (k+1))/\Below w.heap.size w w4/\BoxC w4 w.heap.size (.slice x.pa x.pn x.pc) (.slice x.sa x.sn x.sc) (.slice x.wa x.wn x.wc) (.slice x.ha x.hn x.hc)/\w.heap.size+1<=w4.heap.size):=⟨o4.to HF.out,HB.out.2.1.trans (b4.mono (by omega)),HB.out.2.2.1.belowB b4 (by omega),zP HB.out.2.2.2 b4.size⟩;clear o4 b4)
   go_roundw
   case rel=>exact ⟨k+1,by omega,by go_num,by rw [<- EH.out];exact H4⟩
   case measure=>simp [intOf];omega
  ·have hkl:k=x.hn:=by omega
   have H4:Hid (OwnI wr w.heap.size u3 (flS x.y)/\Below w.heap.size w wr):=by
    have:=HB.out
    rw [hkl] at this
    rw [HV.out]
    exact ⟨this.1.mono (by omega),this.2.1⟩
   clear HB hkl
   go_wp2
   go_ret
   exact ⟨_,rfl,H4.out⟩
