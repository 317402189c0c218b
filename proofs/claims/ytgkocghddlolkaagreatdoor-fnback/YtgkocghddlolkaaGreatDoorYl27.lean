import Derived.ScopeJumps
import Derived.WalkMore
import Derived.Test.YtgkocghddlolkaaGreatDoorYl23
import Derived.Maps.OwnSet
import Derived.DeepKeys4
import Derived.Carry
import Derived.RangeFuncNested
import Derived.RangeFuncBound
import Derived.RangeFuncCalls
import Derived.RangeFuncLeaves
import Derived.Shelf.Abstract
import Derived.OwnWalkIn
import Derived.TacticsInMore
import Derived.LoopNIn
import Derived.LoopIn
import Derived.Test.YtgkocghddlolkaaGreatDoorTie
import Derived.ChangeSame
import Derived.ChangeVars
import Derived.JoinedOf
import Derived.RowKit
import Derived.LaidLaws
import Derived.LaidHandle
import Derived.Stop.Joined
namespace Go.Proofs.YtgkocghddlolkaaGreatDoor
open Go.Proofs.Tryz
set_option maxRecDepth 100000
set_option maxHeartbeats 8000000
open Go.ChangeShapes Go.WideShapes Go.ChangeAt Go.RowKit Go.Deep Go.Sort
theorem qr0 {N n c k:Nat} (h:(Value.slice (some (aQ N 0)) n c).ownBlock=some k):N=k:=by
 cases h;rfl
def sm:List Int->Nat
 | []=>0
 | x :: xs=>x.toNat+sm xs
theorem qox:∀ (e:List Int) (b:Nat) (k:Int),b<e.length->k<zi e b->0<=k->sm (e.set b k)<sm e
 | [],b,k,hb,_,_=>by simp at hb
 | x :: xs,0,k,_,hk,h0=>by
  have h1:zi (x :: xs) 0=x:=rfl;rw [h1] at hk;simp only [zE,sm];omega
 | x :: xs,b+1,k,hb,hk,h0=>by
  have h1:zi (x :: xs) (b+1)=zi xs b:=rfl;rw [h1] at hk;have:=qox xs b k (by simpa using hb) hk h0;simp only [zF,sm];omega
structure CW (w wr:World) (x:SysIn) (g cap:Nat) (c e:List Int):Prop where
 ow:OwnI wr (w.heap.size+1) (sG g c.length cap) e
 be:Bw w wr
 bx:x.bX wr w.heap.size
 cl:x.y.Cl c e
 ln:e.length=c.length
theorem CW.g {w wr:World} {x:SysIn} {g cap:Nat} {c e:List Int} (h:CW w wr x g cap c e):w.heap.size+1<=g/\g<wr.heap.size:=h.ow.lt g rfl
theorem CW.below {w wr w':World} {x:SysIn} {g cap:Nat} {c e:List Int} (h:CW w wr x g cap c e) (hb:Bw wr w'):CW w w' x g cap c e:=⟨h.ow.below hb,h.be.trans (hb.mono h.be.size),h.bx.below hb,h.cl,h.ln⟩
theorem CW.slOf {w wr:World} {x:SysIn} {g cap:Nat} {c e:List Int} (h:CW w wr x g cap c e):Sl wr (some (aQ g 0)) e:=h.ow.slOf
theorem CW.cell {w wr:World} {x:SysIn} {g cap:Nat} {c e:List Int} (h:CW w wr x g cap c e) {b:Nat} (hb:b<c.length):wr.cell? (aQ g b)=some (.int .i64 (zi e b))/\wr.frozen? (aQ g b)=false:=by
 have ho:=h.ow;rw [<- h.ln] at ho hb;exact ⟨ho.cell hb,ho.frozen b⟩
theorem CW.put {w wr:World} {x:SysIn} {g cap:Nat} {c e:List Int} (h:CW w wr x g cap c e) {b:Nat} {k:Int} (hn:x.y.Cl c (e.set b k)):CW w (wr.setCell (aQ g b) (.int .i64 k)) x g cap c (e.set b k):=by
 have hg:=h.g;obtain ⟨h0,h1,h2,h3⟩:=h.bx;have hc:∀ i,(wr.setCell ⟨g,b,none⟩ (.int .i64 k)).cell? ⟨w.heap.size,i,none⟩=wr.cell? ⟨w.heap.size,i,none⟩:=fun i=>World.cell?_setCell_other _ _ _ _ (by intro e;injection e with e;omega);exact ⟨(h.ow.set h.ln.symm b k).1,h.be.setCell (by simp;omega) _,⟨(hc _).trans h0,(hc _).trans h1,(hc _).trans h2,(hc _).trans h3⟩,hn,by rw [List.length_set];exact h.ln⟩
theorem qm2 (x:SysIn) (ca:Option Addr) (cc:Nat) (c:List Int) (w:World) (hG:SysG w x) (hcap:∀ i,i<x.hn->x.hL i<=x.hC i) (ht:cutB x.y c=true) (hc:Sl w ca c):
  Calls prog 23 #[x.v,.slice ca c.length cc] w fun e w'=>∃ u,e=.returned u/\OwnI w' w.heap.size u (clS x.y c)/\Bw w w':=by
 obtain ⟨hO,hC⟩:=qch ht;have hln:c.length=x.pn:=hC.len;have h1:1<=x.pn:=hO.cn.1.1;have h4:x.pn<=4:=hO.cn.1.2;have hl':(c.length:Int)<=4:=by omega
 have HQ:Hid (c.length=x.pn/\0<c.length/\c.length<=4):=⟨hln,by omega,by omega⟩
 have HSl:Hid (Sl w ca c):=hc
 have HWh:Hid (∀ wr g cap e,CW w wr x g cap c e->Calls prog 60 #[x.v,.slice (some ⟨g,0,none⟩) c.length cap] wr fun r w'=>r=.returned (.bool (qB (x.y.Wh (cN e))))/\Bw wr w'):=fun wr g cap e h=>by
  have:=qm3 x (some (aQ g 0)) cap e wr (hG.below h.be) hcap hO (h.cl.cut hC) h.slOf
  rwa [h.ln] at this
 have HOv:Hid (∀ wr g cap e a b,CW w wr x g cap c e->a<c.length->b<c.length->Calls prog 61 #[x.v,.slice (some ⟨g,0,none⟩) c.length cap,.int .i64 (a:Nat),.int .i64 (b:Nat)] wr fun r w'=>r=.returned (.int .i64 (ovN x.y (cN e) a b))/\Bw wr w'):=fun wr g cap e a b h ha hb=>by
  have:=qis x (some (aQ g 0)) cap e a b wr (hG.below h.be) hcap hO (h.cl.cut hC) h.slOf (by omega) (by omega)
  rwa [h.ln] at this
 have HSt:Hid (x.y.Cl c c):=Sy.Cl.start hC;have HEnd:Hid (∀ e,x.y.Cl c e->x.y.Wh (cN e)->clS x.y c=e):=fun e h h'=>qi6 ht h h';have BW:Hid (Bw w (w.alloc (x.oX))):=zT _ _;have NB:Hid (x.bX (w.alloc (x.oX)) w.heap.size):=BoxC.new w _ _ _ _ _;have NS:Hid ((w.alloc (x.oX)).heap.size=w.heap.size+1):=by show _=_;simp
 clear hG hcap hO hC hc hln h1 h4 ht
 go_enter func23,ntmps23
 go_upto_region 1 with fail
 generalize w.alloc (x.oX)=W2 at *;have HL4:Hid (([]:List Int).length+c.length<=4000000/\W2.heap.size<=(W2.alloc (.cells #[] 3)).heap.size/\Sl (W2.alloc (.cells #[] 3)) ca c):=⟨by have:=HQ.out;simp;omega,by simp,(HSl.below BW.out).below (zT _ _)⟩
 go_wp2_with (at_builtin;refine qbb _ rfl _ _ rfl W2.heap.size cc (sG W2.heap.size 0 0) ca [] c rfl rfl (qbu W2) HL4.2.2 HL4.1 HL4.2.1 ?_;intro v4 w4 o4 g4 _;obtain ⟨g,cap,rfl,-,-⟩:=(show OwnI w4 W2.heap.size v4 c from o4).block HQ.2.1;have H4:Hid (CW w w4 x g cap c c):=⟨OwnI.mono (show OwnI w4 W2.heap.size _ c from o4) (by rw [NS.out];omega),Below.grown (BW.trans ((zT _ _).mono BW.size)) g4 (by have:=BW.size;simp;omega) (fun k hk=>by have:=qr0 hk;have:=NS.out;omega),NB.belowB (B:=w.heap.size+1) (Below.grown ((zT _ _).mono (by rw [NS.out];omega)) g4 (by have:=NS.out;simp;omega) (fun k hk=>by have:=qr0 hk;have:=NS.out;omega)) (by omega),HSt.out,rfl⟩;clear o4 g4)
 clear BW NB NS HL4 HSt
 go_loopg [6] (sm c) (fun gn _ wr=>∃ e,gn=sm e/\Hid (CW w wr x g cap c e))
 case atStart=>exact ⟨c,rfl,H4.out⟩
 case round=>
  clear H4;obtain ⟨e,hgn,HB⟩:=hrel;have HGN:Hid (gk=sm e):=hgn;clear hgn;obtain ⟨b0,b1,b2,b3⟩:=HB.bx;go_wp2_with fail
  refine (HWh.out _ g cap e HB.out).mono ?_;rintro r w5 ⟨rfl,q5⟩;have B5:Hid (CW w w5 x g cap c e):=HB.below q5;clear q5 b0 b1 b2 b3 HB;by_cases hw:x.y.Wh (cN e)
  ·rw [qay hw]
   have HV:Hid (OwnI w5 w.heap.size (sG g c.length cap) (clS x.y c)/\Bw w w5):=by
    have h:=HEnd.out e B5.cl hw;refine ⟨?_,B5.be⟩;rw [h];exact B5.ow.mono (by omega)
   clear hw B5;go_wp2;go_ret;exact ⟨_,rfl,HV.out⟩
  rw [qat hw];have HNW:Hid (¬ x.y.Wh (cN e)):=hw;clear hw;go_wp2_with fail
  go_loopw [6] (fun i wr=>∃ (k:Nat) (e':List Int),k<=c.length/\i=.int .i64 k/\Hid (CW w wr x g cap c e'/\(sm e'<sm e\/(e'=e/\∀ a,a<k->∀ b,b<c.length->tN x.y (cN e) a b<=sN x.y (cN e) a b)))) (fun i _=>c.length - (intOf i).toNat)
  case atStart=>exact ⟨0,e,Nat.zero_le _,rfl,B5.out,.inr ⟨rfl,fun a ha=>by omega⟩⟩
  case round=>
   clear B5;obtain ⟨k,e1,hk,rfl,HB⟩:=hrel;by_cases hlt:k<c.length
   ·have hlt':(k:Int)<(c.length:Int):=by omega
    go_wp2_with fail
    go_loopw [7] (fun i wr=>∃ (j:Nat) (e':List Int),j<=c.length/\i=.int .i64 j/\Hid (CW w wr x g cap c e'/\(sm e'<sm e\/(e'=e/\(∀ a,a<k->∀ b,b<c.length->tN x.y (cN e) a b<=sN x.y (cN e) a b)/\∀ b,b<j->tN x.y (cN e) k b<=sN x.y (cN e) k b)))) (fun i _=>c.length - (intOf i).toNat)
    case atStart=>exact ⟨0,e1,Nat.zero_le _,rfl,HB.1,HB.2.imp id fun h=>⟨h.1,h.2,fun b hb=>by omega⟩⟩
    case round=>
     clear HB;obtain ⟨j,e2,hj,rfl,HB⟩:=hrel;by_cases hjt:j<c.length
     ·have hjt':(j:Int)<(c.length:Int):=by omega
      obtain ⟨b0,b1,b2,b3⟩:=HB.1.bx;go_wp2_with fail
      refine (HOv.out _ g cap e2 k j HB.1 hlt hjt).mono ?_;rintro r w6 ⟨rfl,q6⟩;have B6:Hid (CW w w6 x g cap c e2/\(sm e2<sm e\/(e2=e/\(∀ a,a<k->∀ b,b<c.length->tN x.y (cN e) a b<=sN x.y (cN e) a b)/\∀ b,b<j->tN x.y (cN e) k b<=sN x.y (cN e) k b))):=⟨HB.1.below q6,HB.2⟩
      have HN:Hid (ovN x.y (cN e2) k j<0 ↔ tN x.y (cN e2) k j<=sN x.y (cN e2) k j):=qfe
      have HX:Hid (0<=ovN x.y (cN e2) k j->x.y.Cl c (e2.set j (ovN x.y (cN e2) k j))/\sm (e2.set j (ovN x.y (cN e2) k j))<sm e2):=fun h=>by
       have hq:=HQ.out;obtain ⟨h1,h2,h3⟩:=B6.1.cl.next (a:=k) (b:=j) (by show k<x.pn;omega) (by show j<x.pn;omega) h;exact ⟨h1,qox e2 j _ (by rw [B6.1.ln];exact hjt) h3 h2⟩
      generalize ovN x.y (cN e2) k j=ov at *;clear q6 b0 b1 b2 b3 HB;by_cases ho:0<=ov
      ·obtain ⟨ce,cf⟩:=B6.1.cell hjt
       have B7 : Hid (CW w (w6.setCell ⟨g, j, none⟩ (.int .i64 ov)) x g cap c (e2.set j ov) ∧ sm (e2.set j ov) < sm e) := ⟨B6.1.put (HX.out ho).1, by
        have h1:=(HX.out ho).2
        rcases B6.2 with h | ⟨h,-⟩
        ·omega
        ·rw [<- h];exact h1⟩
       clear HN HX B6;go_wp2;go_roundw
       case rel=>exact ⟨j+1,_,by omega,by go_num,B7.1,.inl B7.2⟩
       case measure=>simp [intOf];omega
      ·have HJ : Hid (sm e2 < sm e ∨ (e2 = e ∧ (∀ a, a < k → ∀ b, b < c.length → tN x.y (cN e) a b ≤ sN x.y (cN e) a b) ∧ ∀ b, b < j + 1 → tN x.y (cN e) k b ≤ sN x.y (cN e) k b)) := B6.2.imp id fun ⟨h1, h2, h3⟩ => ⟨h1, h2, fun b hb => by
        by_cases eb:b=j
        ·subst eb
         rw [<- h1];exact HN.1 (by omega)
        ·exact h3 b (by omega)⟩
       have B7:Hid (CW w w6 x g cap c e2):=B6.1;clear HN HX B6;go_wp2;go_roundw
       case rel=>exact ⟨j+1,e2,by omega,by go_num,B7.out,HJ.out⟩
       case measure=>simp [intOf];omega
     ·have HK : Hid (CW w wr x g cap c e2 ∧ (sm e2 < sm e ∨ (e2 = e ∧ ∀ a, a < k + 1 → ∀ b, b < c.length → tN x.y (cN e) a b ≤ sN x.y (cN e) a b))) := ⟨HB.1, HB.2.imp id fun ⟨h1, h2, h3⟩ => ⟨h1, fun a ha b hb => by
       by_cases ea:a=k
       ·subst ea
        exact h3 b (by omega)
       ·exact h2 a (by omega) b hb⟩⟩
      clear HB;go_wp2;go_roundw
      case rel=>exact ⟨k+1,e2,by omega,by go_num,HK.out⟩
      case measure=>simp [intOf];omega
   ·have HK : Hid (CW w wr x g cap c e1 ∧ sm e1 < gk) := ⟨HB.1, by
     rw [HGN.out]
     rcases HB.2 with h | ⟨h1,h2⟩
     ·exact h
     ·exact absurd (fun a ha b hb=>h2 a (by have:=HQ.out;have h3:a<x.pn:=ha;omega) b (by have:=HQ.out;have h3:b<x.pn:=hb;omega)) HNW.out⟩
    clear HB HGN HNW;go_wp2
    go_roundg (sm e1)
    case measure=>exact HK.2
    case rel=>exact ⟨e1,rfl,HK.1⟩
theorem Sy.Cl.ex {y:Sy} {c:List Int}:∀ (n:Nat) (e:List Int),sm e<=n->y.Cl c e->∃ e',y.Cl c e'/\y.Wh (cN e')
 | n,e,hn,h=>by
  by_cases hw:y.Wh (cN e)
  ·exact ⟨e,h,hw⟩
  ·obtain ⟨a,ha,b,hb,hno⟩:∃ a,a<y.pn/\∃ b,b<y.pn/\¬ tN y (cN e) a b<=sN y (cN e) a b:=by
    apply Classical.byContradiction;intro hc;exact hw fun a ha b hb=>Classical.byContradiction fun h'=>hc ⟨a,ha,b,hb,h'⟩
   have ho:0<=ovN y (cN e) a b:=by
    apply Classical.byContradiction;intro h0;exact hno (qfe.1 (by omega))
   obtain ⟨h1,h2,h3⟩:=h.next ha hb ho;have hlt:=qox e b _ (by rw [h.len];exact hb) h3 h2;cases n with
   | zero=>omega
   | succ n=>exact Sy.Cl.ex n _ (by omega) h1
theorem qeu {y:Sy} {c:List Int} (h:cutB y c=true):y.Cl c (clS y c)/\y.Wh (cN (clS y c)):=by
 obtain ⟨e,h1,h2⟩:=Sy.Cl.ex (sm c) c (Nat.le_refl _) (Sy.Cl.start (qch h).2);rw [qi6 h h1 h2];exact ⟨h1,h2⟩
theorem qhu {y:Sy} {c:List Int} (hO:y.Ok) (hC:y.Cut c):cutB y c=true:=by
 unfold cutB;rw [Sy.okB_true hO,qay hC];rfl
theorem qi5 {y:Sy} {c:List Int} (h:cutB y c=true):y.Cut (clS y c):=(qeu h).1.cut (qch h).2
theorem quz {y:Sy} {c:List Int} (h:cutB y c=true):whB y (clS y c)=true:=by
 unfold whB;rw [qhu (qch h).1 (qi5 h),qay (qeu h).2];rfl
def bkL (y:Sy) (p:Nat) (k:Int):List Int:=(flT y y.hn).set p k
theorem qiy {y:Sy} {n p:Nat} (h:p<n):zi (flT y n) p=(y.hL p:Int):=by
 unfold zi flT;simp [List.getD_eq_getElem?_getD,h]
theorem qql {y:Sy} (hO:y.Ok) {p:Nat} {k:Int} (h0:0<=k) (h1:k<=(y.hL p:Int)):y.Cut (bkL y p k):=by
 have hh:=hO.cn.2.2.1;refine ⟨by unfold bkL;rw [List.length_set,qci];exact hh,fun q hq=>?_⟩;unfold bkL;by_cases hp:p<y.hn
 ·rw [qiz (by rw [qci];exact hp)]
  by_cases e:q=p
  ·subst e
   rw [if_pos rfl];exact ⟨h0,h1⟩
  ·rw [if_neg e,qiy (by omega)]
   omega
 ·rw [List.set_eq_of_length_le (by rw [qci];omega),qiy (by omega)]
  omega
noncomputable def bkE (y:Sy) (p k:Int):List Int:=clS y (bkL y p.toNat k)
def bkIn (y:Sy) (p k:Int):Bool:=belB p y.pn && inB k 0 (y.hL p.toNat)
noncomputable def bkC (y:Sy) (p k:Int):Int:=if y.okB=true then (if bkIn y p k=true then (if wfB (y.ah (cN (bkE y p k)))=true then 0 else 3) else 2) else 1
noncomputable def bkY (y:Sy) (p k:Int):Sy:=if y.okB=true then (if bkIn y p k=true then (if wfB (y.ah (cN (bkE y p k)))=true then y.atY (cN (bkE y p k)) else y) else y) else y.nil
theorem qes {y:Sy} {p k:Int} (h:bkIn y p k=true):∃ P:Nat,p=P/\P<y.pn/\0<=k/\k<=(y.hL P:Int):=by
 simp only [bkIn,belB,inB,Bool.and_eq_true,decide_eq_true_eq] at h;exact ⟨p.toNat,by omega,by omega,h.2.1,h.2.2⟩
theorem qe9 {y:Sy} (hO:y.Ok) {p k:Int} (h:bkIn y p k=true):cutB y (bkL y p.toNat k)=true:=by
 obtain ⟨P,rfl,hP,h0,h1⟩:=qes h;rw [Int.toNat_natCast];exact qhu hO (qql hO h0 h1)
theorem qai.weak {z:Bool} {w:World} {B:Nat} {y:Sy} {v:Value} (o:qai z w B y v):qai false w B y v:=by
 obtain ⟨c,vp,vs,vw,vh,up,us,uw,uh,e,o⟩:=o;exact ⟨c,vp,vs,vw,vh,up,us,uw,uh,e,o.weak⟩
theorem qm4 {rs:List Int} (h:allN rs=true) (k:Nat):numB (zi rs k)=true:=by
 by_cases hk:k<rs.length
 ·exact (List.all_eq_true.1 h) _ (qsy hk)
 ·unfold zi
  rw [List.getD_eq_getElem?_getD,List.getElem?_eq_none (by omega)];decide
theorem qvo {g:Nat->I5} {len:Nat} {p:Int} {rs os:List Int} {code k q v:Int} (h:doB g len p rs os code k q v=true):numB v=true:=by
 have hr:=qdk h
 have hs:qc4 len p rs os code=true:=by
  simp only [qbv,Bool.and_eq_true] at hr;exact hr.1.2
 obtain ⟨⟨r0,r1,r2,r3,rfl,n0,n1,n2,n3⟩,-⟩:=qb1 hs;have ha:allN [r0,r1,r2,r3]=true:=by simp [allN,n0,n1,n2,n3]
 unfold doB canB at h
 split at h
 ·simp only [Bool.and_eq_true] at h
  exact h.1.2
 ·simp only [Bool.and_eq_true,beq_iff_eq] at h
  rw [h.2.2.2,nxW,if_pos hr];unfold evW
  split
  ·exact qm4 ha _
  ·split
   ·exact qm4 ha _
   ·decide
theorem qw4 {g:Nat->I5} {n:Nat} {eh:Nat->E3} {m k:Nat} {S:S4} (h:rp g n eh m=some S) (hk:k<m):numB (eh k).v=true:=by
 cases h0:rp g n eh k with
 | none=>
  have:=qfj h0 (Nat.le_of_lt hk);rw [this] at h;cases h
 | some T=>
  cases hd:doB g n T.p T.rs T.os T.c (eh k).k (eh k).q (eh k).v with
  | true=>exact qvo hd
  | false=>
   have:=qfj (qt5 h0 hd) hk;rw [this] at h;cases h
theorem qt3 {g:Nat->I5} {n:Nat} {eh:Nat->E3} {m k:Nat} {S:S4} (h:repO g n eh m=some S) (hk:k<=m):∃ T,repO g n eh k=some T:=by
 obtain ⟨h1,h2,h3⟩:=qbm h;unfold repO;rw [if_pos ⟨h1,by omega⟩];cases h0:rp g n eh k with
 | none=>
  rw [qfj h0 hk] at h3;cases h3
 | some T=>exact ⟨T,rfl⟩
theorem qkh (eh:Nat->E3) (kd pr:Int) (n:Nat):∀ k,∃ t,valL eh kd pr (n+k)=valL eh kd pr n ++ t
 | 0=>⟨[],by simp⟩
 | k+1=>by
  obtain ⟨t,h⟩:=qkh eh kd pr n k
  rcases zK (hitB eh kd pr (n+k)) with e | e
  ·exact ⟨t ++ [(eh (n+k)).v],by rw [<- Nat.add_assoc,qkg e,h,List.append_assoc]⟩
  ·exact ⟨t,by rw [<- Nat.add_assoc,qhf e,h]⟩
theorem qe2 (eh:Nat->E3) (kd pr:Int) (n:Nat):(valL eh kd pr n).length=cnt eh kd pr n:=by simp [valL,cnt]
theorem qus {eh:Nat->E3} {kd pr:Int} {n:Nat} (h:∀ i,i<n->numB (eh i).v=true):allN (valL eh kd pr n)=true:=by
 rw [allN,List.all_eq_true];intro v hv;simp only [valL,List.mem_map] at hv;obtain ⟨i,hi,rfl⟩:=hv;obtain ⟨j,hj⟩:=List.mem_iff_getElem?.1 hi;exact h i (qjx eh kd pr n j i hj).1
theorem qoh (l:List Int):∀ n,n<=l.length->numL (itL l) n=l.take n
 | 0,_=>by simp [numL]
 | n+1,h=>by
  rw [qf0 (by rfl),qoh l n (by omega),List.take_add_one,List.getElem?_eq_getElem (by omega)];simp [itL,zi,List.getD_eq_getElem?_getD,List.getElem?_eq_getElem (show n<l.length by omega)]
theorem qvm {y:Sy} {d:Nat->Nat} (hO:y.Ok) (_hd:∀ p,p<y.pn->d p<=y.hL p) (hw:y.Wh d) {d':Nat->Nat} (h:y.hs.Put d'):(y.ah d).Put (fun p=>min (d' p) (d p)):=by
 induction h with
 | start=>
  have e:(fun p=>min 0 (d p))=fun _=>0:=funext fun p=>by omega
  show (y.ah d).Put (fun p=>min 0 (d p));rw [e];exact .start
 | @next d' p hput hp hc ih=>
  have hp':p<y.pn:=hp;by_cases hlt:d' p<d p
  ·have e:(fun i=>min (up d' p i) (d i))=up (fun i=>min (d' i) (d i)) p:=funext fun i=>by
    by_cases ei:i=p
    ·subst ei
     rw [qbi,qbi];omega
    ·rw [up_other ei,up_other ei]
   rw [e];have em:min (d' p) (d p)=d' p:=by omega
   refine .next ih hp ⟨by show min (d' p) (d p)<d p;omega,fun hk=>?_⟩;have hk:(y.hH p (min (d' p) (d p))).k=3:=hk;show cnt (y.hH p) 3 (y.hH p (min (d' p) (d p))).q (min (d' p) (d p))<cnt (y.hH (y.hH p (min (d' p) (d p))).q.toNat) 2 p (min (d' (y.hH p (min (d' p) (d p))).q.toNat) (d (y.hH p (min (d' p) (d p))).q.toNat));rw [em] at hk ⊢;have h1:d' p<y.hL p:=hc.1;have hq:=hO.evq hp' h1;have h2:cnt (y.hH p) 3 (y.hH p (d' p)).q (d' p)<cnt (y.hH (y.hH p (d' p)).q.toNat) 2 p (d' (y.hH p (d' p)).q.toNat):=hc.2 hk;have h3:=hw (y.hH p (d' p)).q.toNat (by omega) p hp';unfold tN sN at h3;rw [show (((y.hH p (d' p)).q.toNat:Nat):Int)=(y.hH p (d' p)).q by omega] at h3;have hh:hitB (y.hH p) 3 (y.hH p (d' p)).q (d' p)=true:=qc9.2 ⟨hk,rfl⟩;have h4:=qc5 (y.hH p) 3 (y.hH p (d' p)).q (show d' p+1<=d p from hlt);rw [qd9 hh] at h4
   rcases Nat.le_total (d' (y.hH p (d' p)).q.toNat) (d (y.hH p (d' p)).q.toNat) with h5 | h5
   ·rw [Nat.min_eq_left h5]
    exact h2
   ·rw [Nat.min_eq_right h5]
    omega
  ·have e:(fun i=>min (up d' p i) (d i))=fun i=>min (d' i) (d i):=funext fun i=>by
    by_cases ei:i=p
    ·subst ei
     rw [qbi];omega
    ·rw [up_other ei]
   rw [e];exact ih
theorem Sy.Ok.wayOf {y:Sy} (h:y.Ok) {a b:Nat} (ha:a<y.pn) (hb:b<y.pn):cnt (y.hH b) 3 a (y.hL b)+(numL (y.wH (a*y.pn+b)) (y.wL (a*y.pn+b))).length=cnt (y.hH a) 2 b (y.hL a):=by
 have e:=congrArg List.length (h.wa a ha b hb).eq;rw [List.length_append,qe2,qe2] at e;exact e
theorem Sy.Ok.whole {y:Sy} (h:y.Ok):y.Wh y.hL:=fun a ha b hb=>by
 have:=h.wayOf ha hb;unfold tN sN;omega
theorem Sy.Ok.full_wf {y:Sy} (h:y.Ok) {d:Nat->Nat} (hd:∀ p,p<y.pn->d p=y.hL p):wfB (y.ah d)=true:=by
 refine qay fun a ha b hb=>?_;have ha:a<y.pn:=ha;have hb:b<y.pn:=hb;have e:=h.wayOf ha hb;have l:=qfc (y.wH (a*y.pn+b)) (y.wL (a*y.pn+b));have l2:=(h.wa a ha b hb).le;show ((valL (y.hH a) 2 b (d a)).drop (cnt (y.hH b) 3 a (d b))).length<=12;rw [List.length_drop,qe2,hd a ha,hd b hb];omega
theorem Sy.Ok.atOk {y:Sy} {d:Nat->Nat} (h:y.Ok) (hd:∀ p,p<y.pn->d p<=y.hL p) (hw:y.Wh d) (hf:wfB (y.ah d)=true):(y.atY d).Ok:=by
 have hrp:∀ p,p<y.pn->∃ T,repO (y.pH p) (y.pL p) (y.hH p) (d p)=some T:=fun p hp=>qt3 (h.rp p hp) (hd p hp);refine ⟨⟨h.cn.1,rfl,rfl,rfl⟩,h.pr,fun p hp=>?_,fun p hp i hi=>h.pe p hp i (zL hi (hd p hp)),fun a ha b hb=>?_,?_⟩
 ·obtain ⟨T,hT⟩:=hrp p hp
  show repO (y.pH p) (y.pL p) (y.hH p) (d p)=some (resS (repO (y.pH p) (y.pL p) (y.hH p) (d p)));rw [hT];rfl
 ·have ha:a<y.pn:=ha
  have hb:b<y.pn:=hb;obtain ⟨e1,e2⟩:=qwb (a:=a) hb;have hl:(wyL (y.ah d) a b).length<=12:=qoq.1 hf a ha b hb;have hnum:allN (valL (y.hH a) 2 b (d a))=true:=qus fun i hi=>qw4 (qbm (h.rp a ha)).2.2 (zL hi (hd a ha));show WayP (itL (wyL (y.ah d) ((a*y.pn+b) / y.pn) ((a*y.pn+b) % y.pn))) (wyL (y.ah d) ((a*y.pn+b) / y.pn) ((a*y.pn+b) % y.pn)).length (valL (y.hH b) 3 a (d b)) (valL (y.hH a) 2 b (d a));rw [e1,e2];refine ⟨fun j _=>?_,hl,?_⟩
  ·have hv:numB (zi (wyL (y.ah d) a b) j)=true:=by
    show numB (zi ((valL (y.hH a) 2 b (d a)).drop (cnt (y.hH b) 3 a (d b))) j)=true;rw [qns];exact qm4 hnum _
   simp [qce,itL,hv]
  ·rw [qoh _ _ (Nat.le_refl _),List.take_length]
   show valL (y.hH b) 3 a (d b) ++ (valL (y.hH a) 2 b (d a)).drop (cnt (y.hH b) 3 a (d b))=valL (y.hH a) 2 b (d a);obtain ⟨t1,h1⟩:=qkh (y.hH b) 3 a (d b) (y.hL b - d b);obtain ⟨t2,h2⟩:=qkh (y.hH a) 2 b (d a) (y.hL a - d a);rw [show d b+(y.hL b - d b)=y.hL b by have:=hd b hb;omega] at h1;rw [show d a+(y.hL a - d a)=y.hL a by have:=hd a ha;omega] at h2;have e:=(h.wa a ha b hb).eq;rw [h1,h2] at e
   have hle:(valL (y.hH b) 3 a (d b)).length<=(valL (y.hH a) 2 b (d a)).length:=by
    rw [qe2,qe2];exact hw a ha b hb
   have e3:valL (y.hH b) 3 a (d b)=(valL (y.hH a) 2 b (d a)).take (valL (y.hH b) 3 a (d b)).length:=by
    have e4:=congrArg (List.take (valL (y.hH b) 3 a (d b)).length) e;rw [List.append_assoc,List.take_left,List.take_append_of_le_length hle] at e4;exact e4
   rw [<- qe2 (y.hH b) 3 a (d b)]
   conv=>lhs;lhs;rw [e3]
   exact List.take_append_drop _ _
 ·obtain ⟨dA,hA,hall⟩:=h.ro
  refine ⟨_,qvm h hd hw hA,fun p hp=>?_⟩;have:=hall p hp;have h1:dA p=y.hL p:=this;have h2:=hd p hp;show min (dA p) (d p)=d p;omega
theorem qkt {y:Sy} {p k:Int} (h:bkC y p k=0):y.Ok/\bkIn y p k=true/\(bkY y p k).Ok/\bkY y p k=y.atY (cN (bkE y p k))/\(∀ q,q<y.pn->cN (bkE y p k) q<=y.hL q)/\y.Wh (cN (bkE y p k)):=by
 unfold bkC at h;by_cases ho:y.okB=true
 ·rw [if_pos ho] at h
  by_cases hb:bkIn y p k=true
  ·rw [if_pos hb] at h
   by_cases hw:wfB (y.ah (cN (bkE y p k)))=true
   ·have hO:=Sy.ok_of ho
    have hc:=qe9 hO hb;have hd:∀ q,q<y.pn->cN (bkE y p k) q<=y.hL q:=fun q hq=>(qi5 hc).leN hq
    have e:bkY y p k=y.atY (cN (bkE y p k)):=by
     unfold bkY;rw [if_pos ho,if_pos hb,if_pos hw]
    exact ⟨hO,hb,by rw [e];exact hO.atOk hd (qeu hc).2 hw,e,hd,(qeu hc).2⟩
   ·rw [if_neg hw] at h
    cases h
  ·rw [if_neg hb] at h
   cases h
 ·rw [if_neg ho] at h
  cases h
theorem Sy.Wh.congr {y:Sy} {c d:Nat->Nat} (h:y.Wh c) (e:∀ p,p<y.pn->d p=c p):y.Wh d:=fun a ha b hb=>by
 have:=h a ha b hb;unfold tN sN at *;rw [e a ha,e b hb];exact this
theorem qs3 {y:Sy} (hO:y.Ok) {P:Nat} (hP:P<y.pn):bkC y P (y.hL P)=0/\bkY y P (y.hL P)=y.atY (cN (flT y y.hn))/\∀ p,p<y.pn->cN (flT y y.hn) p=y.hL p/\(bkY y P (y.hL P)).sS p=y.sS p:=by
 have hh:=hO.cn.2.2.1
 have hz:∀ p,p<y.pn->cN (flT y y.hn) p=y.hL p:=fun p hp=>by
  unfold cN;rw [qiy (by omega)];omega
 have hl:bkL y P (y.hL P)=flT y y.hn:=by
  unfold bkL;refine qnz (by rw [List.length_set]) fun p hp=>?_;show zi ((flT y y.hn).set P (y.hL P)) p=zi (flT y y.hn) p;rw [qiz (by rw [qci];omega)];by_cases e:p=P
  ·rw [if_pos e,e,qiy (by omega)]
  ·rw [if_neg e]
 have hc:y.Cut (flT y y.hn):=by
  rw [<- hl];exact qql hO (by omega) (Int.le_refl _)
 have he:bkE y P (y.hL P)=flT y y.hn:=by
  unfold bkE;rw [Int.toNat_natCast,hl];exact qi6 (qhu hO hc) (Sy.Cl.start hc) (hO.whole.congr hz)
 have hin:bkIn y P (y.hL P)=true:=by
  simp only [bkIn,belB,inB,Bool.and_eq_true,decide_eq_true_eq,Int.toNat_natCast];omega
 have hwf:wfB (y.ah (cN (bkE y P (y.hL P))))=true:=by
  rw [he];exact hO.full_wf hz
 have e0:bkC y P (y.hL P)=0:=by
  unfold bkC;rw [if_pos (Sy.okB_true hO),if_pos hin,if_pos hwf]
 have e1:bkY y P (y.hL P)=y.atY (cN (flT y y.hn)):=by
  rw [(qkt e0).2.2.2.1,he]
 refine ⟨e0,e1,fun p hp=>⟨hz p hp,?_⟩⟩;rw [e1];show resS (repO (y.pH p) (y.pL p) (y.hH p) (cN (flT y y.hn) p))=y.sS p;rw [hz p hp,hO.rp p hp];rfl
theorem qve {y:Sy} (hO:y.Ok) {P:Nat} (hP:P<y.pn) (k:Int) {q:Nat} (hq:q<y.pn):zi (bkL y P k) q=if q=P then k else (y.hL q:Int):=by
 have hh:=hO.cn.2.2.1;unfold bkL;rw [qiz (by rw [qci];omega),qiy (by omega)]
theorem qw9 {y:Sy} {c d:Nat->Nat} (hc:y.Wh c) (hd:y.Wh d):y.Wh (fun p=>max (c p) (d p)):=fun a ha b hb=>by
 have h1:=hc a ha b hb;have h2:=hd a ha b hb;unfold tN sN at *;have m1:=qc5 (y.hH a) 2 b (show c a<=max (c a) (d a) by omega);have m2:=qc5 (y.hH a) 2 b (show d a<=max (c a) (d a) by omega);by_cases h:c b<=d b
 ·show cnt _ _ _ (max (c b) (d b))<=cnt _ _ _ (max (c a) (d a))
  rw [show max (c b) (d b)=d b by omega];omega
 ·show cnt _ _ _ (max (c b) (d b))<=cnt _ _ _ (max (c a) (d a))
  rw [show max (c b) (d b)=c b by omega];omega
theorem qha {eh:Nat->E3} {kd pr:Int}:∀ {m j:Nat},j<cnt eh kd pr m->∃ k,k<m/\hitB eh kd pr k=true/\cnt eh kd pr k=j
 | 0,j,h=>by
  rw [qnw] at h;omega
 | m+1,j,h=>by
  by_cases hh:hitB eh kd pr m=true
  ·rw [qd9 hh] at h
   by_cases e:j<cnt eh kd pr m
   ·obtain ⟨k,h1,h2⟩:=qha e
    exact ⟨k,by omega,h2⟩
   ·exact ⟨m,by omega,hh,by omega⟩
  ·rw [qhs (by simpa using hh)] at h
   obtain ⟨k,h1,h2⟩:=qha h;exact ⟨k,by omega,h2⟩
def sdr (y:Sy) (p i:Nat):Option (Nat × Nat):=if (y.hH p i).k=3 then some ((y.hH p i).q.toNat,(sndN y p i).toNat) else none
def clkF (y:Sy):Nat->Nat->Nat->Nat->Nat
 | 0,_,_,_=>0
 | f+1,p,i,q=>if q=p then i+1 else max (if i=0 then 0 else clkF y f p (i - 1) q) (match sdr y p i with | none=>0 | some s=>clkF y f s.1 s.2 q)
theorem qhp (y:Sy) (f p i q:Nat):clkF y (f+1) p i q=if q=p then i+1 else max (if i=0 then 0 else clkF y f p (i - 1) q) (match sdr y p i with | none=>0 | some s=>clkF y f s.1 s.2 q):=by rw [clkF]
def clk (y:Sy) (p i q:Nat):Nat:=clkF y 801 p i q
theorem qho {y:Sy} {d:Nat->Nat} {p:Nat} (hO:y.Ok) (hd:∀ a,d a<=y.hL a) (hp:p<y.pn) (hc:y.hs.Can d p) {s:Nat × Nat} (hs:sdr y p (d p)=some s):s.1<y.pn/\s.2<d s.1/\sndN y p (d p)=(s.2:Int):=by
 obtain ⟨h1,h2⟩:=hc;have h1':d p<y.hL p:=h1;unfold sdr at hs;by_cases e:(y.hH p (d p)).k=3
 ·rw [if_pos e] at hs
  simp only [Option.some.injEq] at hs;have hq:=hO.evq hp h1';have h3:cnt (y.hH p) 3 (y.hH p (d p)).q (d p)<cnt (y.hH (y.hH p (d p)).q.toNat) 2 p (d (y.hH p (d p)).q.toNat):=h2 e;obtain ⟨k,k1,k2,k3⟩:=qha h3
  have hk:sndN y p (d p)=(k:Int):=by
   unfold sndN;rw [if_pos e];refine qhe (zL k1 (hd _)) k2 ?_;rw [plI,List.length_map];exact congrArg Nat.cast k3.symm
  rw [<- hs];refine ⟨by show (y.hH p (d p)).q.toNat<y.pn;omega,?_,?_⟩
  ·show (sndN y p (d p)).toNat<d (y.hH p (d p)).q.toNat
   rw [hk];simpa using k1
  ·show sndN y p (d p)=((sndN y p (d p)).toNat:Int)
   rw [hk];simp
 ·rw [if_neg e] at hs
  cases hs
theorem qop {y:Sy} {d:Nat->Nat} (hO:y.Ok) (h:y.hs.Put d):∀ p,p<y.pn->∀ i,i<d p->∀ f,sumL d y.pn<=f->∀ q,clkF y f p i q=clkF y (sumL d y.pn) p i q:=by
 induction h with
 | start=>
  intro p _ i hi;exact absurd hi (Nat.not_lt_zero _)
 | @next d p0 hput hp0 hc ih=>
  have hp0':p0<y.pn:=hp0;intro p hp i hi f hf q;have hs:sumL (up d p0) y.pn=sumL d y.pn+1:=qen hp0';rw [hs] at hf ⊢;have old:∀ p,p<y.pn->∀ i,i<d p->∀ f,sumL d y.pn<=f->∀ q,clkF y f p i q=clkF y (sumL d y.pn) p i q:=ih;by_cases e:p=p0/\i=d p0
  ·obtain ⟨rfl,rfl⟩:=e
   obtain ⟨g,rfl⟩:∃ g,f=g+1:=⟨f - 1,by omega⟩
   rw [qhp,qhp];by_cases eq:q=p
   ·rw [if_pos eq,if_pos eq]
   ·rw [if_neg eq,if_neg eq]
    congr 1
    ·by_cases e0:d p=0
     ·rw [if_pos e0,if_pos e0]
     ·rw [if_neg e0,if_neg e0]
      exact old p hp (d p - 1) (by omega) g (by omega) q
    ·cases hs':sdr y p (d p) with
     | none=>rfl
     | some s=>
      obtain ⟨s1,s2,-⟩:=qho hO hput.le hp hc hs';exact old s.1 s1 s.2 s2 g (by omega) q
  ·have hi':i<d p:=by
    by_cases ep:p=p0
    ·subst ep
     rw [qbi] at hi;have:i≠d p:=fun h=>e ⟨rfl,h⟩;omega
    ·rw [up_other ep] at hi
     exact hi
   rw [old p hp i hi' f (by omega) q,old p hp i hi' (sumL d y.pn+1) (by omega) q]
theorem qnv {y:Sy} {d:Nat->Nat} (hO:y.Ok) (h:y.hs.Put d) {p:Nat} (hp:p<y.pn) (hc:y.hs.Can d p) (q:Nat):
  clk y p (d p) q=if q=p then d p+1 else max (if d p=0 then 0 else clk y p (d p - 1) q) (match sdr y p (d p) with | none=>0 | some s=>clk y s.1 s.2 q):=by
 have hle:sumL d y.pn<=800:=by
  have h1:∀ n,n<=y.pn->sumL d n<=n*200:=by
   intro n
   induction n with
   | zero=>exact fun _=>Nat.le_refl _
   | succ n ih=>
    intro hn;have h2:=ih (by omega);have h3:d n<=200:=zP (h.le n) (hO.hl200 (by omega));show sumL d n+d n<=(n+1)*200;omega
  have h2:=h1 y.pn (Nat.le_refl _);have h3:=hO.cn.1.2;omega
 obtain ⟨N,hN⟩:∃ N,N=800:=⟨_,rfl⟩
 have key:∀ a,a<y.pn->∀ k,k<d a->clkF y N a k q=clk y a k q:=fun a ha k hk=>(qop hO h a ha k hk N (by omega) q).trans (qop hO h a ha k hk 801 (by omega) q).symm;have e1:clk y p (d p) q=clkF y (N+1) p (d p) q:=by rw [hN];rfl
 rw [e1,qhp];by_cases eq:q=p
 ·rw [if_pos eq,if_pos eq]
 ·rw [if_neg eq,if_neg eq]
  refine congr (congrArg max ?_) ?_
  ·by_cases e0:d p=0
   ·rw [if_pos e0,if_pos e0]
   ·rw [if_neg e0,if_neg e0]
    exact key p hp (d p - 1) (by omega)
  ·cases hs':sdr y p (d p) with
   | none=>rfl
   | some s=>
    obtain ⟨s1,s2,-⟩:=qho hO h.le hp hc hs';exact key s.1 s1 s.2 s2
theorem Hs.Put.was {x:Hs} {d:Nat->Nat} (h:x.Put d):∀ p i,i<d p->p<x.n/\∃ d',x.Put d'/\d' p=i/\x.Can d' p:=by
 induction h with
 | start=>
  intro p i hi;exact absurd hi (Nat.not_lt_zero _)
 | @next d p0 hput hp0 hc ih=>
  intro p i hi;by_cases e:p=p0/\i=d p0
  ·obtain ⟨rfl,rfl⟩:=e
   exact ⟨hp0,d,hput,rfl,hc⟩
  ·refine ih p i ?_
   by_cases ep:p=p0
   ·subst ep
    rw [qbi] at hi;have:i≠d p:=fun h=>e ⟨rfl,h⟩;omega
   ·rw [up_other ep] at hi
    exact hi
theorem qw6 {y:Sy} (hO:y.Ok) {p i:Nat} (hp:p<y.pn) (hi:i<y.hL p) {s:Nat × Nat} (hs:sdr y p i=some s):
  (y.hH p i).k=3/\(y.hH p i).q=(s.1:Int)/\s.1<y.pn/\s.2<y.hL s.1/\sndN y p i=(s.2:Int)/\hitB (y.hH s.1) 2 p s.2=true/\cnt (y.hH s.1) 2 p s.2=cnt (y.hH p) 3 s.1 i/\(s.1=p->s.2<i):=by
 obtain ⟨dA,hA,hall⟩:=hO.ro;have hi':i<dA p:=by rw [hall p hp];exact hi
 obtain ⟨-,d,hput,rfl,hc⟩:=hA.was p i hi';obtain ⟨h1,h2,h3⟩:=qho hO hput.le hp hc hs;have hq:=hO.evq hp hi;unfold sdr at hs;by_cases e:(y.hH p (d p)).k=3
 ·rw [if_pos e] at hs
  simp only [Option.some.injEq] at hs;have e1:(y.hH p (d p)).q.toNat=s.1:=by rw [<- hs]
  have e2:(y.hH p (d p)).q=(s.1:Int):=by omega
  have h4:cnt (y.hH p) 3 (y.hH p (d p)).q (d p)<cnt (y.hH (y.hH p (d p)).q.toNat) 2 p (d (y.hH p (d p)).q.toNat):=hc.2 e;rw [e1,e2] at h4;obtain ⟨k,k1,k2,k3⟩:=qha h4
  have hk:sndN y p (d p)=(k:Int):=by
   unfold sndN;rw [if_pos e,e1,e2];refine qhe (zL k1 (hput.le _)) k2 ?_;rw [plI,List.length_map];exact congrArg Nat.cast k3.symm
  have e3:k=s.2:=by
   rw [hk] at h3;omega
  subst e3;exact ⟨e,e2,h1,zL k1 (hput.le _),hk,k2,k3,fun ep=>by rw [ep] at k1;exact k1⟩
 ·rw [if_neg e] at hs
  cases hs
structure Ckx (y:Sy) (d:Nat->Nat):Prop where
 self:∀ p,p<y.pn->∀ i,i<d p->clk y p i p=i+1
 le:∀ p,p<y.pn->∀ i,i<d p->∀ q,clk y p i q<=d q
 mono:∀ p,p<y.pn->∀ i,i<d p->0<i->∀ q,clk y p (i - 1) q<=clk y p i q
 tr:∀ p,p<y.pn->∀ i,i<d p->∀ q,q<y.pn->0<clk y p i q->∀ r,clk y q (clk y p i q - 1) r<=clk y p i r
 anti:∀ p,p<y.pn->∀ i,i<d p->∀ q,q<y.pn->∀ j,j<d q->(p≠q\/i≠j)->j<clk y p i q->¬ i<clk y q j p
 snd:∀ p,p<y.pn->∀ i,i<d p->∀ s,sdr y p i=some s->s.1<y.pn/\s.2<clk y p i s.1
theorem qv3 {y:Sy} {d:Nat->Nat} (hO:y.Ok) (h:y.hs.Put d):Ckx y d:=by
 induction h with
 | start=>exact ⟨fun p _ i hi=>absurd hi (Nat.not_lt_zero _),fun p _ i hi=>absurd hi (Nat.not_lt_zero _),fun p _ i hi=>absurd hi (Nat.not_lt_zero _),fun p _ i hi=>absurd hi (Nat.not_lt_zero _),fun p _ i hi=>absurd hi (Nat.not_lt_zero _),fun p _ i hi=>absurd hi (Nat.not_lt_zero _)⟩
 | @next d p0 hput hp0 hc ih=>
  have hp0':p0<y.pn:=hp0;have nx:=qnv hO hput hp0' hc
  have old:∀ p i,i<up d p0 p->(p=p0/\i=d p0)\/i<d p:=fun p i hi=>by
   by_cases e:p=p0
   ·subst e
    rw [qbi] at hi;by_cases e':i=d p
    ·exact .inl ⟨rfl,e'⟩
    ·exact .inr (by omega)
   ·rw [up_other e] at hi
    exact .inr hi
  have upl:∀ q,d q<=up d p0 q:=fun q=>by
   by_cases e:q=p0
   ·subst e
    rw [qbi];omega
   ·rw [up_other e]
    exact Nat.le_refl _
  have sl:clk y p0 (d p0) p0=d p0+1:=by rw [nx,if_pos rfl]
  have A:∀ q,0<d p0->clk y p0 (d p0 - 1) q<=clk y p0 (d p0) q:=fun q h0=>by
   by_cases e:q=p0
   ·subst e
    rw [sl,ih.self q hp0' (d q - 1) (by omega)];omega
   ·rw [nx,if_neg e,if_neg (by omega:¬ d p0=0)]
    exact Nat.le_max_left _ _
  have B:∀ s,sdr y p0 (d p0)=some s->s.1<y.pn/\s.2<d s.1/\∀ q,clk y s.1 s.2 q<=clk y p0 (d p0) q:=fun s hs=>by
   obtain ⟨s1,s2,-⟩:=qho hO hput.le hp0' hc hs;refine ⟨s1,s2,fun q=>?_⟩;by_cases e:q=p0
   ·subst e
    rw [sl];exact zP (ih.le s.1 s1 s.2 s2 q) (Nat.le_succ _)
   ·rw [nx,if_neg e,hs]
    exact Nat.le_max_right _ _
  have ca:∀ q,q≠p0->0<clk y p0 (d p0) q->(0<d p0/\clk y p0 (d p0) q=clk y p0 (d p0 - 1) q)\/∃ s,sdr y p0 (d p0)=some s/\clk y p0 (d p0) q=clk y s.1 s.2 q:=fun q e h0=>by
   rw [nx,if_neg e] at h0 ⊢;cases hs:sdr y p0 (d p0) with
   | none=>
    rw [hs] at h0;by_cases e0:d p0=0
    ·rw [if_pos e0] at h0
     simp at h0
    ·rw [if_neg e0]
     exact .inl ⟨by omega,by simp⟩
   | some s=>
    rw [hs] at h0;by_cases e0:d p0=0
    ·rw [if_pos e0]
     exact .inr ⟨s,rfl,by simp⟩
    ·rw [if_neg e0]
     rcases Nat.le_total (clk y p0 (d p0 - 1) q) (clk y s.1 s.2 q) with h1 | h1
     ·exact .inr ⟨s,rfl,Nat.max_eq_right h1⟩
     ·exact .inl ⟨by omega,Nat.max_eq_left h1⟩
  have le:∀ q,clk y p0 (d p0) q<=up d p0 q:=fun q=>by
   by_cases e:q=p0
   ·subst e
    rw [sl,qbi];exact Nat.le_refl _
   ·rw [up_other e]
    by_cases h0:0<clk y p0 (d p0) q
    ·rcases ca q e h0 with ⟨h1,h2⟩ | ⟨s,h1,h2⟩
     ·rw [h2]
      exact ih.le p0 hp0' _ (by omega) q
     ·obtain ⟨s1,s2,-⟩:=B s h1
      rw [h2];exact ih.le s.1 s1 s.2 s2 q
    ·omega
  refine ⟨fun p hp i hi=>?_,fun p hp i hi q=>?_,fun p hp i hi h0 q=>?_,fun p hp i hi q hq h0 r=>?_,fun p hp i hi q hq j hj hne h1 h2=>?_,fun p hp i hi s hs=>?_⟩
  ·rcases old p i hi with ⟨rfl,rfl⟩ | hi'
   ·exact sl
   ·exact ih.self p hp i hi'
  ·rcases old p i hi with ⟨rfl,rfl⟩ | hi'
   ·exact le q
   ·exact zP (ih.le p hp i hi' q) (upl q)
  ·rcases old p i hi with ⟨rfl,rfl⟩ | hi'
   ·exact A q h0
   ·exact ih.mono p hp i hi' h0 q
  ·rcases old p i hi with ⟨rfl,rfl⟩ | hi'
   ·by_cases e:q=p
    ·subst e
     rw [sl,Nat.add_sub_cancel];exact Nat.le_refl _
    ·rcases ca q e h0 with ⟨h1,h2⟩ | ⟨s,h1,h2⟩
     ·rw [h2] at h0 ⊢
      exact zP (ih.tr p hp _ (by omega) q hq h0 r) (A r h1)
     ·obtain ⟨s1,s2,s3⟩:=B s h1
      rw [h2] at h0 ⊢;exact zP (ih.tr s.1 s1 s.2 s2 q hq h0 r) (s3 r)
   ·exact ih.tr p hp i hi' q hq h0 r
  ·rcases old p i hi with ⟨rfl,rfl⟩ | hi'
   ·rcases old q j hj with ⟨rfl,rfl⟩ | hj'
    ·rcases hne with h | h <;> exact h rfl
    ·have:=ih.le q hq j hj' p
     omega
   ·rcases old q j hj with ⟨rfl,rfl⟩ | hj'
    ·have:=ih.le p hp i hi' q
     omega
    ·exact ih.anti p hp i hi' q hq j hj' hne h1 h2
  ·rcases old p i hi with ⟨rfl,rfl⟩ | hi'
   ·obtain ⟨s1,s2,s3⟩:=B s hs
    have h9:=s3 s.1;rw [ih.self s.1 s1 s.2 s2] at h9;exact ⟨s1,by omega⟩
   ·exact ih.snd p hp i hi' s hs
theorem Ckx.far {y:Sy} {d:Nat->Nat} (h:Ckx y d) {p:Nat} (hp:p<y.pn) {i:Nat} (hi:i<d p):∀ k,∀ q,clk y p (i - k) q<=clk y p i q
 | 0,q=>Nat.le_refl _
 | k+1,q=>by
  by_cases e:i - k=0
  ·rw [show i - (k+1)=i - k by omega]
   exact h.far hp hi k q
  ·have h1:=h.mono p hp (i - k) (by omega) (by omega) q
   rw [show i - (k+1)=i - k - 1 by omega];exact zP h1 (h.far hp hi k q)
theorem Ckx.grow {y:Sy} {d:Nat->Nat} (h:Ckx y d) {p:Nat} (hp:p<y.pn) {i j:Nat} (hi:i<d p) (hj:j<=i) (q:Nat):clk y p j q<=clk y p i q:=by
 have h9:=h.far hp hi (i - j) q;rw [show i - (i - j)=j by omega] at h9;exact h9
theorem Ckx.whole {y:Sy} {d:Nat->Nat} (h:Ckx y d) {p:Nat} (hp:p<y.pn) {i:Nat} (hi:i<d p) {q:Nat} (hq:q<y.pn) {k:Nat} (hk:k<clk y p i q) {s:Nat × Nat} (hs:sdr y q k=some s):s.2<clk y p i s.1:=by
 have hd:=h.le p hp i hi q;obtain ⟨-,h1⟩:=h.snd q hq k (by omega) s hs;have h2:=h.grow hq (i:=clk y p i q - 1) (j:=k) (by omega) (by omega) s.1;have h3:=h.tr p hp i hi q hq (by omega) s.1;omega
open Go.Maps
abbrev ckV (f:Nat->Nat):Value:=.agg #[.int .i64 (f 0),.int .i64 (f 1),.int .i64 (f 2),.int .i64 (f 3)]
abbrev sptV (p i:Int):Value:=.agg #[.int .i64 p,.int .i64 i]
abbrev RVk:Value->Option (DataW Value × List MemPlace):=fun v=>some (.held v,[])
def kS (p i:Int):Lit:=.string (keyBytes [.int .i64 p,.int .i64 i])
theorem qv6:WideMaps.KeyLaw prog 60:=deep_law_laid Tryz.laidOut (m:=2) (by omega) (of_decide_eq_true (by kernel_rfl)) (by kernel_rfl) (by rw [Tryz.underlying60])
theorem qth:Keyed prog 60:=Keyed.of_law qv6
theorem qdp {p i:Int} (hp:(Lit.int .i64 p).wf=true) (hi:(Lit.int .i64 i).wf=true):keyOf prog 60 (sptV p i)=some (kS p i):=by
 have h1:prog.keyType 60=true:=by kernel_rfl
 have h2:(sptV p i).formed prog 60=true:=by
  have:prog.cellsOf 60=2:=by kernel_rfl
  simp [Value.formed,Tryz.underlying60,this]
 have c1:prog.cellsOf 3=1:=by kernel_rfl
 have c2:prog.cellsOf 60=2:=by kernel_rfl
 obtain ⟨d,hd⟩:∃ d,prog.types.size=d+1:=⟨prog.types.size - 1,by have:0<prog.types.size:=of_decide_eq_true (by kernel_rfl);omega⟩
 have h3:prog.keyLits (prog.types.size+1) 60 [.int .i64 p,.int .i64 i]=some [.int .i64 p,.int .i64 i]:=by
  rw [hd];simp [Program.keyLits,Tryz.underlying60,Tryz.underlying3,c1,c2,hp,hi]
 unfold keyOf;rw [Tryz.underlying60];simp only [h1,h2,Bool.and_self,if_true];show (prog.keyLits (prog.types.size+1) 60 [.int .i64 p,.int .i64 i]).map _=_;rw [h3];rfl
theorem wfK {a:Int} (h0:-1<=a) (h1:a<=1048576):(Lit.int .i64 a).wf=true:=WalkArith.wf_i64 (by omega)
theorem qu3 {p i q j:Int} (hp:-1<=p/\p<=1048576) (hi:-1<=i/\i<=1048576) (hq:-1<=q/\q<=1048576) (hj:-1<=j/\j<=1048576) (h:kS p i=kS q j):p=q/\i=j:=by
 have h1:=qdp (wfK hp.1 hp.2) (wfK hi.1 hi.2);have h2:=qdp (wfK hq.1 hq.2) (wfK hj.1 hj.2);rw [<- h] at h2;have:=qth.inj h1 h2;simp only [Value.agg.injEq] at this;have e:=congrArg Array.toList this;simp at e;exact e
theorem qt7 (a b c d:Int) (w:World):(Instr.index 47 (.agg #[.int .i64 a,.int .i64 b,.int .i64 c,.int .i64 d]) (.int .i64 0)).run prog w=.ok (.int .i64 a) w:=by kernel_rfl
theorem qt8 (a b c d:Int) (w:World):(Instr.index 47 (.agg #[.int .i64 a,.int .i64 b,.int .i64 c,.int .i64 d]) (.int .i64 1)).run prog w=.ok (.int .i64 b) w:=by kernel_rfl
theorem qt9 (a b c d:Int) (w:World):(Instr.index 47 (.agg #[.int .i64 a,.int .i64 b,.int .i64 c,.int .i64 d]) (.int .i64 2)).run prog w=.ok (.int .i64 c) w:=by kernel_rfl
theorem qua (a b c d:Int) (w:World):(Instr.index 47 (.agg #[.int .i64 a,.int .i64 b,.int .i64 c,.int .i64 d]) (.int .i64 3)).run prog w=.ok (.int .i64 d) w:=by kernel_rfl
def cMx (x y:Int):Int:=if y > x then y else x
theorem qv5 (ts:Array TypeId) (t:TypeId) (x y:Int) (w:World):(Builtin.max_ ts t #[.int .i64 x,.int .i64 y]).run prog w=.ok (.int .i64 (cMx x y)) w:=by
 rw [run_max_int2];rfl
theorem qi2 (a b:Nat):cMx (a:Int) (b:Int)=((max a b:Nat):Int):=by
 unfold cMx
 split <;> omega
section
attribute [local go_sem] qt7 qt8 qt9 qua
theorem qpm (f g:Nat->Nat) (w:World):
  Calls prog 80 #[ckV f,ckV g] w (rB w (ckV fun q=>max (f q) (g q))):=by
 have HV:Hid (ckV (fun q=>max (f q) (g q))=.agg #[.int .i64 (cMx (f 0) (g 0)),.int .i64 (cMx (f 1) (g 1)),.int .i64 (cMx (f 2) (g 2)),.int .i64 (cMx (f 3) (g 3))]):=by
  show ckV _=_;rw [qi2,qi2,qi2,qi2]
 have hm:=qv5;generalize ckV (fun q=>max (f q) (g q))=R at *;unfold ckV;generalize (f 0:Int)=a0 at *;generalize (f 1:Int)=a1 at *;generalize (f 2:Int)=a2 at *;generalize (f 3:Int)=a3 at *;generalize (g 0:Int)=b0 at *;generalize (g 1:Int)=b1 at *;generalize (g 2:Int)=b2 at *;generalize (g 3:Int)=b3 at *
 go_enter func80,ntmps80
 go_wp2_with fail
 go_rounds 5
 refine bodyPost_ret (v:=.agg #[.int .i64 (cMx a0 b0),.int .i64 (cMx a1 b1),.int .i64 (cMx a2 b2),.int .i64 (cMx a3 b3)]) (by simp [results,results80,go_sem]) rfl ⟨by rw [HV.out],?_⟩
 go_grown
end
theorem qo1 (f:Nat->Nat) (p i:Nat) (w:World) (hp:p<4) (hi:i<=1048576):
  Calls prog 81 #[ckV f,sptV p i] w (rB w (ckV fun q=>if q=p then i+1 else f q)):=by
 have hi':(i:Int)<=1048576:=by omega
 match p,hp with
 | 0,_=>
  go_enter func81,ntmps81
  go_wp2;exact bodyPost_ret (v:=.agg #[.int .i64 ((i:Int)+1),.int .i64 (f 1),.int .i64 (f 2),.int .i64 (f 3)]) (by simp [results,results81,go_sem]) rfl ⟨rfl,by go_grown⟩
 | 1,_=>
  go_enter func81,ntmps81
  go_wp2;exact bodyPost_ret (v:=.agg #[.int .i64 (f 0),.int .i64 ((i:Int)+1),.int .i64 (f 2),.int .i64 (f 3)]) (by simp [results,results81,go_sem]) rfl ⟨rfl,by go_grown⟩
 | 2,_=>
  go_enter func81,ntmps81
  go_wp2;exact bodyPost_ret (v:=.agg #[.int .i64 (f 0),.int .i64 (f 1),.int .i64 ((i:Int)+1),.int .i64 (f 3)]) (by simp [results,results81,go_sem]) rfl ⟨rfl,by go_grown⟩
 | 3,_=>
  go_enter func81,ntmps81
  go_wp2;exact bodyPost_ret (v:=.agg #[.int .i64 (f 0),.int .i64 (f 1),.int .i64 (f 2),.int .i64 ((i:Int)+1)]) (by simp [results,results81,go_sem]) rfl ⟨rfl,by go_grown⟩
theorem qpb (p i:Nat) (w:World) (hi:i<=1048576):
  Calls prog 78 #[sptV p i] w (rB w (sptV p ((i:Int) - 1))):=by
 have hi':(i:Int)<=1048576:=by omega
 go_enter func78,ntmps78
 go_wp2;exact bodyPost_ret (v:=sptV p ((i:Int) - 1)) (by simp [results,results78,go_sem]) rfl ⟨rfl,by go_grown⟩
theorem qvd (w:World):(zeroValue 111).run prog w=.ok (ckV fun _=>0) w:=by kernel_rfl
structure Ckm (w:World) (b:Nat) (y:Sy) (d:Nat->Nat) (D:DataW Value):Prop where
 own:w.ownsMap prog 60 RVk b (sumL d y.pn) D
 val:∀ p,p<y.pn->∀ i,i<d p->∀ z,D.atKey (kS p i) z=.held (ckV (clk y p i))
 neg:∀ p,p<y.pn->∀ z,D.atKey (kS p (-1)) z=z
theorem Ckm.blk {w w':World} {b:Nat} {y:Sy} {d:Nat->Nat} {D:DataW Value} (h:Ckm w b y d D) (hb:w'.heap[b]? = w.heap[b]?):Ckm w' b y d D:=by
 obtain ⟨es,clock,h1,r⟩:=h.own;exact ⟨⟨es,clock,hb.trans h1,r⟩,h.val,h.neg⟩
theorem Ckm.look {w:World} {b:Nat} {y:Sy} {d:Nat->Nat} {D:DataW Value} (h:Ckm w b y d D) {p i:Nat} (hp:p<y.pn) (h4:y.pn<=4) (hi:i<d p) (hi':i<=1048576):(Instr.lookup 63 (.map (some b)) (sptV p i) false).run prog w=.ok (ckV (clk y p i)) w:=by
 obtain ⟨v,ps,hrun,hv⟩:=h.own.lookup qth Tryz.underlying63 (qvd _) rfl (qdp (wfK (a:=(p:Int)) (by omega) (by omega)) (wfK (a:=(i:Int)) (by omega) (by omega)));rw [h.val p hp i hi] at hv;simp only [Option.some.injEq,Prod.mk.injEq,DataW.held.injEq] at hv;rw [hrun,hv.1]
theorem Ckm.look0 {w:World} {b:Nat} {y:Sy} {d:Nat->Nat} {D:DataW Value} (h:Ckm w b y d D) {p:Nat} (hp:p<y.pn) (h4:y.pn<=4):(Instr.lookup 63 (.map (some b)) (sptV p (-1)) false).run prog w=.ok (ckV fun _=>0) w:=by
 obtain ⟨v,ps,hrun,hv⟩:=h.own.lookup qth Tryz.underlying63 (qvd _) rfl (qdp (wfK (a:=(p:Int)) (by omega) (by omega)) (wfK (a:=(-1:Int)) (by omega) (by omega)));rw [h.neg p hp] at hv;simp only [Option.some.injEq,Prod.mk.injEq,DataW.held.injEq] at hv;rw [hrun,hv.1]
theorem Ckm.put {w:World} {b:Nat} {y:Sy} {d:Nat->Nat} {D:DataW Value} (h:Ckm w b y d D) {p:Nat} (hp:p<y.pn) (h4:y.pn<=4) (hd:∀ i,d i<=1048575) (hs:sumL d y.pn<maxLen):∃ w' D',(Instr.mapUpdate 63 (.map (some b)) (sptV p (d p)) (ckV (clk y p (d p)))).run prog w=.ok () w'/\Ckm w' b y (up d p) D'/\w.grownBy w' (some b):=by
 obtain ⟨w',hrun,ho,hg⟩:=h.own.update qth Tryz.underlying63 hs (qdp (wfK (a:=(p:Int)) (by omega) (by omega)) (wfK (a:=(d p:Int)) (by have:=hd p;omega) (by have:=hd p;omega))) (val:=ckV (clk y p (d p))) rfl;refine ⟨w',D.put (kS p (d p)) (.held (ckV (clk y p (d p)))),hrun,⟨?_,fun q hq i hi z=>?_,fun q hq z=>?_⟩,hg⟩
 ·rw [qen hp]
  exact ho
 ·by_cases e:q=p/\i=d p
  ·obtain ⟨rfl,rfl⟩:=e
   have hk:WideAt.IsKeyLit (kS q (d q)):=trivial;exact atKey_put_same h.own.isMap hk _ _
  ·have hi':i<d q:=by
    by_cases ep:q=p
    ·subst ep
     rw [qbi] at hi;have:i≠d q:=fun h=>e ⟨rfl,h⟩;omega
    ·rw [up_other ep] at hi
     exact hi
   rw [atKey_put_other]
   ·exact h.val q hq i hi' z
   ·intro e9
    have h1:=hd p;have h2:=hd q;obtain ⟨e1,e2⟩:=qu3 (by omega) (by omega) (by omega) (by omega) e9;exact e ⟨by omega,by omega⟩
 ·rw [atKey_put_other]
  ·exact h.neg q hq z
  ·intro e9
   have h1:=hd p;obtain ⟨e1,e2⟩:=qu3 (by omega) (by omega) (by omega) (by omega) e9;omega
def hisZ (ha:Option Addr) (hn hc:Nat):List Value:=[.slice ha hn hc,.int .i64 0,.int .i64 0,.int .i64 0,.int .i64 0,.int .i64 0,.int .i64 0,.int .i64 0,.int .i64 0,.int .i64 0,.int .i64 0,.int .i64 0,.int .i64 0,.int .i64 0,.int .i64 0,.int .i64 0,.int .i64 0,.int .i64 0,.int .i64 0,.int .i64 0,.int .i64 0]
theorem qtf (ha:Option Addr) (hn hc:Nat):(hisZ ha hn hc).length=21:=rfl
theorem qtg (ha:Option Addr) (hn hc:Nat):∀ v ∈ hisZ ha hn hc,v.oneCell'=true:=by
 intro v hv;simp only [hisZ,List.mem_cons,List.not_mem_nil,or_false] at hv
 rcases hv with rfl | rfl | rfl | rfl | rfl | rfl | rfl | rfl | rfl | rfl | rfl | rfl | rfl | rfl | rfl | rfl | rfl | rfl | rfl | rfl | rfl <;> rfl
theorem qwy:(prog.info? 50).map (·.size)=some 21:=by kernel_rfl
theorem HisQ.of_range {w:World} {X:Nat} {x:SysIn} (h:w.rangeAt X 0 (hisZ x.ha x.hn x.hc)) (hn:x.hn=x.pn) (hf:∀ j,w.frozen? ⟨X,j,none⟩=false):HisQ w X x.ha x.hc x.y.hs (fun _=>0):=by
 have hz:∀ j,j<20->w.cell? ⟨X,1+j,none⟩=some (.int .i64 0):=fun j hj=>by
  have h1:(hisZ x.ha x.hn x.hc)[1+j]? = some (.int .i64 0):=by
   match j,hj with
   | 0,_=>rfl
   | 1,_=>rfl
   | 2,_=>rfl
   | 3,_=>rfl
   | 4,_=>rfl
   | 5,_=>rfl
   | 6,_=>rfl
   | 7,_=>rfl
   | 8,_=>rfl
   | 9,_=>rfl
   | 10,_=>rfl
   | 11,_=>rfl
   | 12,_=>rfl
   | 13,_=>rfl
   | 14,_=>rfl
   | 15,_=>rfl
   | 16,_=>rfl
   | 17,_=>rfl
   | 18,_=>rfl
   | 19,_=>rfl
   | n+20,h=>exact absurd h (by omega)
  have:=h (1+j) _ h1
  rwa [Nat.zero_add] at this
 refine ⟨?_,fun i hi=>hz i (by omega),fun a b ha hb=>?_,hf⟩
 ·have:=h 0 _ rfl
  show w.cell? (aQ X 0)=some (.slice x.ha x.pn x.hc);rw [<- hn];exact this
 ·rw [Hs.opn_start,show 5+a*4+b=1+(4+a*4+b) by omega]
  exact hz _ (by omega)
theorem BoxC.blkK {w w':World} {N:Nat} {p vr vo code:Value} (h:BoxC w N p vr vo code) (hb:w'.heap[N]? = w.heap[N]?):BoxC w' N p vr vo code:=by
 obtain ⟨h0,h1,h2,h3⟩:=h;exact ⟨(zH hb).trans h0,(zH hb).trans h1,(zH hb).trans h2,(zH hb).trans h3⟩
def BoxS (w:World) (N:Nat) (a b:Value):Prop:=w.cell? (aQ N 0)=some a/\w.cell? (aQ N 1)=some b
theorem BoxS.lt {w:World} {N:Nat} {a b:Value} (h:BoxS w N a b):N<w.heap.size:=zJ w _ h.1
theorem BoxS.blk {w w':World} {N:Nat} {a b:Value} (h:BoxS w N a b) (hb:w'.heap[N]? = w.heap[N]?):BoxS w' N a b:=⟨(zH hb).trans h.1,(zH hb).trans h.2⟩
theorem BoxS.below {w w':World} {N:Nat} {a b:Value} (h:BoxS w N a b) (hb:Bw w w'):BoxS w' N a b:=h.blk (hb.block N h.lt)
theorem BoxS.new (w:World) (a b:Value) (t:TypeId):BoxS (w.alloc (.cells #[a,b] t)) w.heap.size a b:=⟨zW _ _ _ 0 rfl,zW _ _ _ 1 rfl⟩
structure BoxF (w:World) (N:Nat) (f:Nat->Nat):Prop where
 c0:w.cell? (aQ N 0)=some (.int .i64 (f 0))
 c1:w.cell? (aQ N 1)=some (.int .i64 (f 1))
 c2:w.cell? (aQ N 2)=some (.int .i64 (f 2))
 c3:w.cell? (aQ N 3)=some (.int .i64 (f 3))
 fz:∀ j,w.frozen? ⟨N,j,none⟩=false
theorem BoxF_iff {w:World} {N:Nat} {f:Nat->Nat}:BoxF w N f ↔ w.cell? ⟨N,0,none⟩=some (.int .i64 (f 0))/\w.cell? ⟨N,1,none⟩=some (.int .i64 (f 1))/\w.cell? ⟨N,2,none⟩=some (.int .i64 (f 2))/\w.cell? ⟨N,3,none⟩=some (.int .i64 (f 3))/\∀ j,w.frozen? ⟨N,j,none⟩=false:=⟨fun h=>⟨h.c0,h.c1,h.c2,h.c3,h.fz⟩,fun h=>⟨h.1,h.2.1,h.2.2.1,h.2.2.2.1,h.2.2.2.2⟩⟩
theorem BoxF.lt {w:World} {N:Nat} {f:Nat->Nat} (h:BoxF w N f):N<w.heap.size:=zJ w _ h.c0
theorem BoxF.blk {w w':World} {N:Nat} {f:Nat->Nat} (h:BoxF w N f) (hb:w'.heap[N]? = w.heap[N]?):BoxF w' N f:=⟨(zH hb).trans h.c0,(zH hb).trans h.c1,(zH hb).trans h.c2,(zH hb).trans h.c3,fun j=>(zI hb).trans (h.fz j)⟩
theorem BoxF.below {w w':World} {N:Nat} {f:Nat->Nat} (h:BoxF w N f) (hb:Bw w w'):BoxF w' N f:=h.blk (hb.block N h.lt)
theorem BoxF.new (w:World) (f:Nat->Nat) (t:TypeId):BoxF (w.alloc (.cells #[.int .i64 (f 0),.int .i64 (f 1),.int .i64 (f 2),.int .i64 (f 3)] t)) w.heap.size f:=⟨zW _ _ _ 0 rfl,zW _ _ _ 1 rfl,zW _ _ _ 2 rfl,zW _ _ _ 3 rfl,fun _=>yD _ _ _ _ rfl⟩
theorem BoxF.put {w:World} {N:Nat} {f:Nat->Nat} (h:BoxF w N f) (g:Nat->Nat):BoxF ((((w.setCell (aQ N 0) (.int .i64 (g 0))).setCell (aQ N 1) (.int .i64 (g 1))).setCell (aQ N 2) (.int .i64 (g 2))).setCell (aQ N 3) (.int .i64 (g 3))) N g/\qar (fun b=>b=N) w ((((w.setCell (aQ N 0) (.int .i64 (g 0))).setCell (aQ N 1) (.int .i64 (g 1))).setCell (aQ N 2) (.int .i64 (g 2))).setCell (aQ N 3) (.int .i64 (g 3))):=by
 obtain ⟨h0,h1,h2,h3,hf⟩:=h;exact ⟨⟨by go_cell,by go_cell,by go_cell,by go_cell,fun j=>by simpa using hf j⟩,(((qar.of_set (P:=fun b=>b=N) w (a:=(aQ N 0)) rfl _).trans (qar.of_set (P:=fun b=>b=N) _ (a:=(aQ N 1)) rfl _)).trans (qar.of_set (P:=fun b=>b=N) _ (a:=(aQ N 2)) rfl _)).trans (qar.of_set (P:=fun b=>b=N) _ (a:=(aQ N 3)) rfl _)⟩
structure CkF (w:World) (x:SysIn) (b X:Nat) (d:Nat->Nat) (D:DataW Value) (wx:World):Prop where
 be:Bw w wx
 bs:x.bX wx w.heap.size
 hq:HisQ wx X x.ha x.hc x.y.hs d
 ck:Ckm wx b x.y d D
 nb:w.heap.size<b/\b<X
theorem CkF.below {w:World} {x:SysIn} {b X:Nat} {d:Nat->Nat} {D:DataW Value} {wx wy:World} (h:CkF w x b X d D wx) (hb:Bw wx wy):CkF w x b X d D wy:=
 ⟨h.be.trans (hb.mono h.be.size),h.bs.below hb,h.hq.below hb,h.ck.blk (hb.block b (Nat.lt_trans h.nb.2 h.hq.lt)),h.nb⟩
structure CkH (w:World) (x:SysIn) (b X:Nat) (d d':Nat->Nat) (D:DataW Value) (wx:World):Prop where
 be:Bw w wx
 bs:x.bX wx w.heap.size
 hq:HisQ wx X x.ha x.hc x.y.hs d'
 ck:Ckm wx b x.y d D
 nb:w.heap.size<b/\b<X
theorem CkH.below {w:World} {x:SysIn} {b X:Nat} {d d':Nat->Nat} {D:DataW Value} {wx wy:World} (h:CkH w x b X d d' D wx) (hb:Bw wx wy):CkH w x b X d d' D wy:=
 ⟨h.be.trans (hb.mono h.be.size),h.bs.below hb,h.hq.below hb,h.ck.blk (hb.block b (Nat.lt_trans h.nb.2 h.hq.lt)),h.nb⟩
theorem CkF.turn {w:World} {x:SysIn} {b X:Nat} {d d':Nat->Nat} {D:DataW Value} {wx wy:World} (h:CkF w x b X d D wx) (t:qar (fun b=>b=X) wx wy) (hq:HisQ wy X x.ha x.hc x.y.hs d'):CkH w x b X d d' D wy:=by
 have l:=h.hq.lt;have n1:=h.nb;exact ⟨h.be.trans (t.below h.be.size fun c e=>by have e:c=X:=e;omega),h.bs.blkK (t.block _ (by omega) (fun e=>by have e:w.heap.size=X:=e;omega)),hq,h.ck.blk (t.block b (by omega) (fun e=>by have e:b=X:=e;omega)),h.nb⟩
theorem CkH.turnC {w:World} {x:SysIn} {b X C:Nat} {d d':Nat->Nat} {D:DataW Value} {wx wy:World} (h:CkH w x b X d d' D wx) (t:qar (fun b=>b=C) wx wy) (hC:X<C):CkH w x b X d d' D wy:=by
 have l:=h.hq.lt;have n1:=h.nb;exact ⟨h.be.trans (t.below h.be.size fun c e=>by have e:c=C:=e;omega),h.bs.blkK (t.block _ (by omega) (fun e=>by have e:w.heap.size=C:=e;omega)),h.hq.blk (t.block X l (fun e=>by have e:X=C:=e;omega)),h.ck.blk (t.block b (by omega) (fun e=>by have e:b=C:=e;omega)),h.nb⟩
theorem CkH.put {w:World} {x:SysIn} {b X p:Nat} {d:Nat->Nat} {D D':DataW Value} {wx wy:World} (h:CkH w x b X d (up d p) D wx) (g:wx.grownBy wy (some b)) (ck:Ckm wy b x.y (up d p) D'):CkF w x b X (up d p) D' wy:=by
 have l:=h.hq.lt;have n1:=h.nb;exact ⟨Below.grown h.be g h.be.size (fun j hj=>by cases hj;omega),h.bs.blkK (g.block _ (by omega) (fun e=>by injection e with e;omega)),h.hq.blk (g.block X l (fun e=>by injection e with e;omega)),ck,h.nb⟩
theorem qku (x:SysIn) (w:World) (hG:SysG w x) (hcap:∀ i,i<x.hn->x.hL i<=x.hC i) (hO:x.y.Ok):
  Calls prog 34 #[x.v] w fun e w'=>∃ b D d,e=.returned (.map (some b))/\w.heap.size<=b/\(∀ p,p<x.y.pn->d p=x.y.hL p)/\Ckm w' b x.y d D/\Bw w w':=by
 have HG:Hid (SysG w x):=hG;have HO:Hid (x.y.Ok/\∀ i,i<x.hn->x.hL i<=x.hC i):=⟨hO,hcap⟩
 have hhn:x.hn=x.pn:=hO.cn.2.2.1;have HHN:Hid (x.hn=x.pn):=hhn;have h4:x.y.hs.n<=4:=hO.cn.1.2;have H4:Hid (x.y.pn<=4):=hO.cn.1.2;have HP:Hid (x.y.hs.Peers/\(∀ i,i<x.y.hs.n->x.y.hs.l i<=200)):=⟨fun p hp i hi=>hO.evq hp hi,fun i hi=>hO.hl200 hi⟩
 have HE:Hid (∀ wx,Bw w wx->HisE wx x.ha x.hA x.hC x.y.hs):=fun wx hb=>(hG.below hb).his hhn;have HSn:Hid (∀ (p i:Nat) (wx:World),Bw w wx->p<x.pn->i<x.hL p->Calls prog 79 #[x.v,sptV p i] wx (rB wx (snV x.y p i))):=fun p i wx hb hp hi=>qlp x p i wx (hG.below hb) hcap hO hp hi;have hmm:=@run_makeMap prog;have hl:=qtf x.ha x.hn x.hc;have ho:=qtg x.ha x.hn x.hc;generalize hcs:hisZ x.ha x.hn x.hc=cs at *;have HC:Hid (hisZ x.ha x.hn x.hc=cs):=hcs
 have HI:Hid ((prog.info? 50).map (·.size)=some cs.length):=by
  show _=_;rw [hl];exact qwy
 have HOne:Hid (cs.toArray.all (·.oneCell')=true):=all_oneCell_toArray ho;have HL:Hid (cs.length=21):=hl;clear hG hcap hO hhn hcs hl ho
 go_enter func34,ntmps34
 go_upto_region 2 with fail
 have B1:Hid (Bw w ((w.alloc (x.oX)).alloc (.map #[] 0))/\x.bX ((w.alloc (x.oX)).alloc (.map #[] 0)) w.heap.size):=⟨(zT _ _).trans ((zT _ _).mono (by simp)),(BoxC.new w _ _ _ _ _).below (zT _ _)⟩
 have M1:Hid (((w.alloc (x.oX)).alloc (.map #[] 0)).ownsMap prog 60 RVk (w.heap.size+1) 0 (.map [])):=by
  have:=World.ownsMap_made (w.alloc (x.oX)) prog 60 RVk
  (try dsimp only [aW] at this);rw [World.size_alloc] at this
  exact this
 have hz1:((w.alloc (x.oX)).alloc (.map #[] 0)).heap.size=w.heap.size+1+1:=by simp
 have HZ1:Hid (((w.alloc (x.oX)).alloc (.map #[] 0)).heap.size=w.heap.size+1+1):=hz1;clear hz1 hmm;generalize (w.alloc (x.oX)).alloc (.map #[] 0)=W1 at *;have HT:Hid ((W1.alloc (zQ4)).there W1.heap.size 0 cs.toArray.size):=qbs _ _ _ _ _ (by have h9:cs.toArray.size=21:=HL.out;rw [h9];rfl) rfl;obtain ⟨s0,s1,s2,s3⟩:=B1.2;go_upto_region 3 with (refine wpList_store_mid rfl 50 (.tmp 4) (.tmp 13) rfl W1.heap.size 0 cs.toArray rfl (by rw [<- HC.out];rfl) HT.out (by simpa using HI.out) HOne.out ?_)
 have HR:Hid (((W1.alloc (zQ4)).setCells W1.heap.size 0 cs).rangeAt W1.heap.size 0 cs):=World.rangeAt_setCells_same _ _ _ _ (by simpa using HT.out)
 have F0:Hid (CkF w x (w.heap.size+1) W1.heap.size (fun _=>0) (.map []) ((W1.alloc (zQ4)).setCells W1.heap.size 0 cs)):=by
  have bW:Bw w (W1.alloc (zQ4)):=B1.1.trans ((zT _ _).mono B1.1.size);have tS:qar (fun b=>b=W1.heap.size) (W1.alloc (zQ4)) ((W1.alloc (zQ4)).setCells W1.heap.size 0 cs):=qar.sets (P:=fun b=>b=W1.heap.size) rfl _ _ (qar.refl _ _);have hz:=HZ1.out;have l1:w.heap.size<W1.heap.size:=by omega
  have l2:W1.heap.size<(W1.alloc (zQ4)).heap.size:=by simp
  have eb:∀ c,c<W1.heap.size->((W1.alloc (zQ4)).setCells W1.heap.size 0 cs).heap[c]? = W1.heap[c]?:=fun c hc=>(tS.block c (by omega) (fun e=>by have e:c=W1.heap.size:=e;omega)).trans (Below.heap_alloc W1 _ c hc);refine ⟨bW.trans (tS.below bW.size fun c e=>by have e:c=W1.heap.size:=e;omega),B1.2.blkK (eb _ l1),HisQ.of_range (by rw [HC.out];exact HR.out) HHN.out (fun j=>(World.frozen?_setCells _ _ _ _ _).trans (yD _ _ _ _ rfl)),⟨?_,fun p _ i hi=>absurd hi (Nat.not_lt_zero _),fun p _ z=>rfl⟩,by omega,by omega⟩;obtain ⟨es,clock,h1,r⟩:=M1.out;rw [qdt];exact ⟨es,clock,(eb _ (by omega)).trans h1,r⟩
 clear s0 s1 s2 s3 HT HR HC HI HOne HL M1 B1 HZ1;generalize (W1.alloc (zQ4)).setCells W1.heap.size 0 cs=W3 at *;generalize W1.heap.size=X at *;clear W1;generalize w.heap.size+1=b at *;go_wp2_with fail
 refine (qru X x.ha x.hc x.hA x.hC x.y.hs (fun _=>0) W3 (HE.out W3 F0.be) F0.hq h4 HP.1 HP.2 (fun _=>Nat.zero_le _)).mono ?_;rintro e w1 ⟨q1,hor⟩
 obtain ⟨z,rfl,HOr⟩:∃ z:Int,e=.returned (.int .i64 z)/\Hid ((∃ k,k<x.y.hs.n/\x.y.hs.Can (fun _=>0) k/\z=(k:Nat))\/(z = -1/\∀ p,p<x.y.hs.n->¬ x.y.hs.Can (fun _=>0) p)):=by
  rcases hor with ⟨k,hk,hcan,rfl⟩ | ⟨rfl,hn⟩
  ·exact ⟨_,rfl,.inl ⟨k,hk,hcan,rfl⟩⟩
  ·exact ⟨_,rfl,.inr ⟨rfl,hn⟩⟩
 have F1:Hid (CkF w x b X (fun _=>0) (.map []) w1/\x.y.hs.Put (fun _=>0)):=⟨F0.below q1,.start⟩
 clear hor q1 F0;go_wp2_with fail
 go_loopg [5] (sumL x.y.hs.l x.y.hs.n) (fun g i wr=>∃ d D z,g=sumL x.y.hs.l x.y.hs.n - sumL d x.y.hs.n/\i=.int .i64 z/\Hid (CkF w x b X d D wr/\x.y.hs.Put d)/\Hid ((∃ k,k<x.y.hs.n/\x.y.hs.Can d k/\z=(k:Nat))\/(z = -1/\∀ p,p<x.y.hs.n->¬ x.y.hs.Can d p)))
 case atStart=>exact ⟨_,_,z,by simp [qdt],rfl,F1.out,HOr.out⟩
 case round=>
  clear F1 HOr;obtain ⟨d,D,zz,hgk,rfl,HF,HOr⟩:=hrel;have HGk:Hid (gk=sumL x.y.hs.l x.y.hs.n - sumL d x.y.hs.n):=hgk;clear hgk
  rcases HOr.out with ⟨k,hk,hcan,rfl⟩ | ⟨rfl,hst⟩
  case inr=>
   have HD:Hid (∀ p,p<x.y.pn->d p=x.y.hL p):=(Hs.row_iff HF.2 HP.1 hst).1 HO.1.ro;clear hst HGk HOr;go_wp2;go_ret;exact ⟨b,D,d,rfl,Nat.le_of_lt HF.1.nb.1,HD.out,HF.1.ck,HF.1.be⟩
  have HCn:Hid (x.y.hs.Can d k/\k<x.y.pn/\d k<x.hL k/\d k<=200/\k<x.pn/\k<4):=by
   have h1:k<x.y.pn:=hk;have h2:d k<x.y.hs.l k:=hcan.1;have h3:=HP.2 k hk;exact ⟨hcan,h1,h2,by omega,h1,by have:=H4.out;omega⟩
  have hz:¬ (k:Int) = -1:=by omega
  have hz':((k:Int) != -1)=true:=by simp
  have hk4:(k:Int)<4:=by have:=HCn.2.2.2.2.2;omega
  have hdk:(d k:Int)<=200:=by have:=HCn.2.2.2.1;omega
  have pk:=HF.1.hq.pt k HCn.2.2.2.2.2;have F2:Hid (CkF w x b X d D (wr.alloc (oQ5 k (d k)))):=HF.1.below (zT _ _);have S2:Hid (BoxS (wr.alloc (oQ5 k (d k))) wr.heap.size (.int .i64 k) (.int .i64 (d k))):=BoxS.new wr _ _ _;have HPu:Hid (x.y.hs.Put d):=HF.2;have LX:Hid (X<wr.heap.size):=HF.1.hq.lt;clear HOr hcan;go_upto_region 7 with fail
  clear pk HF;generalize wr.heap.size=S at *;generalize wr.alloc (oQ5 k (d k))=w2 at *;clear wr;go_wp2_with fail
  refine (qt1 X x.ha x.hc x.hA x.hC x.y.hs d k w2 (HE.out w2 F2.be) F2.hq h4 hk HP.1 HP.2 HPu.le HCn.2.2.1).mono ?_;rintro e w3 ⟨rfl,hq3,t3⟩;have F3:Hid (CkH w x b X d (up d k) D w3):=F2.turn t3 hq3;have S3:Hid (BoxS w3 S (.int .i64 k) (.int .i64 (d k))):=S2.blk (t3.block S S2.lt (fun e=>by have e:S=X:=e;have:=LX.out;omega));clear hq3 t3 F2 S2;obtain ⟨c0,c1⟩:=S3.out;go_wp2_with fail
  clear c0 c1;refine (qpb k (d k) w3 (by have:=HCn.2.2.2.1;omega)).mono ?_;rintro e w4 ⟨rfl,b4⟩;have F4:Hid (CkH w x b X d (up d k) D w4):=F3.below b4;have S4:Hid (BoxS w4 S (.int .i64 k) (.int .i64 (d k))):=S3.below b4;obtain ⟨f0,hf0⟩:∃ f0:Nat->Nat,(fun q=>if d k=0 then 0 else clk x.y k (d k - 1) q)=f0:=⟨_,rfl⟩
  have Hf0:Hid ((fun q=>if d k=0 then 0 else clk x.y k (d k - 1) q)=f0):=hf0
  have hlk:(Instr.lookup 63 (.map (some b)) (sptV k ((d k:Int) - 1)) false).run prog w4=.ok (ckV f0) w4:=by
   by_cases h0:d k=0
   ·rw [h0,show ((0:Nat):Int) - 1 = -1 by decide,<- hf0]
    simp only [h0,if_true];exact F4.ck.look0 HCn.2.1 H4.out
   ·have e1:(d k:Int) - 1=((d k - 1:Nat):Int):=by omega
    rw [e1,<- hf0];simp only [if_neg h0];exact F4.ck.look HCn.2.1 H4.out (by omega) (by have:=HCn.2.2.2.1;omega)
  clear b4 F3 S3 hf0;have F5:Hid (CkH w x b X d (up d k) D (w4.alloc (.cells #[.int .i64 (f0 0),.int .i64 (f0 1),.int .i64 (f0 2),.int .i64 (f0 3)] 111))):=F4.below (zT _ _);have S5:Hid (BoxS (w4.alloc (.cells #[.int .i64 (f0 0),.int .i64 (f0 1),.int .i64 (f0 2),.int .i64 (f0 3)] 111)) S (.int .i64 k) (.int .i64 (d k))):=S4.below (zT _ _);have C5:Hid (BoxF (w4.alloc (.cells #[.int .i64 (f0 0),.int .i64 (f0 1),.int .i64 (f0 2),.int .i64 (f0 3)] 111)) w4.heap.size f0):=BoxF.new w4 f0 _;have LC:Hid (X<w4.heap.size/\S<w4.heap.size):=⟨F4.hq.lt,S4.lt⟩
  go_upto_region 9 with fail
  clear hlk F4 S4;generalize w4.heap.size=C at *;generalize w4.alloc (.cells #[.int .i64 (f0 0),.int .i64 (f0 1),.int .i64 (f0 2),.int .i64 (f0 3)] 111)=w5 at *;clear w3 w4 w2;obtain ⟨c0,c1⟩:=S5.out;obtain ⟨s0,s1,s2,s3⟩:=F5.bs;go_wp2_with fail
  clear c0 c1 s0 s1 s2 s3;refine (HSn.out k (d k) w5 F5.be HCn.2.2.2.2.1 HCn.2.2.1).mono ?_;rintro e w6 ⟨rfl,b6⟩;have F6:Hid (CkH w x b X d (up d k) D w6):=F5.below b6;have S6:Hid (BoxS w6 S (.int .i64 k) (.int .i64 (d k))):=S5.below b6;have C6:Hid (BoxF w6 C f0):=C5.below b6;clear b6 F5 S5 C5;have HNx:Hid (∀ q,clk x.y k (d k) q=if q=k then d k+1 else max (if d k=0 then 0 else clk x.y k (d k - 1) q) (match sdr x.y k (d k) with | none=>0 | some s=>clk x.y s.1 s.2 q)):=fun q=>qnv HO.1 HPu.out HCn.2.1 HCn.1 q
  have HSm:Hid (sumL d x.y.pn<maxLen):=by
   have h1:=qc0 HPu.le x.y.pn
   have h2:sumL x.y.hs.l x.y.pn<=x.y.pn*200:=by
    have h9:∀ m,m<=x.y.pn->sumL x.y.hs.l m<=m*200:=by
     intro m
     induction m with
     | zero=>exact fun _=>Nat.le_refl _
     | succ m ih=>
      intro hm;have h3:=ih (by omega);have h5:=HP.2 m (show m<x.y.hs.n from hm);show sumL x.y.hs.l m+x.y.hs.l m<=(m+1)*200;omega
    exact h9 _ (Nat.le_refl _)
   have h3:=H4.out;show sumL d x.y.pn<maxLen;unfold maxLen;omega
  have HD2:Hid (∀ i,d i<=1048575):=fun i=>by
   by_cases hi:i<x.y.hs.n
   ·have h2:=HPu.le i
    have h3:=HP.2 i hi;omega
   ·rcases Nat.eq_zero_or_pos (d i) with h1 | h1
    ·omega
    ·exact absurd (HPu.was i 0 h1).1 hi
  by_cases t3:(x.y.hH k (d k)).k=3
  case neg=>
   have HV:Hid (∀ q,(if q=k then d k+1 else f0 q)=clk x.y k (d k) q):=fun q=>by
    rw [HNx.out q,sdr,if_neg t3,<- Hf0.out];by_cases hq:q=k
    ·rw [if_pos hq,if_pos hq]
    ·rw [if_neg hq,if_neg hq]
     simp
   rw [show snV x.y k (d k)=.tuple #[.agg #[.int .i64 0,.int .i64 0],.bool false] from if_neg t3];have F8:Hid (CkH w x b X d (up d k) D (w6.alloc (oQ5 0 0))):=F6.below (zT _ _);have S8:Hid (BoxS (w6.alloc (oQ5 0 0)) S (.int .i64 k) (.int .i64 (d k))):=S6.below (zT _ _);have C8:Hid (BoxF (w6.alloc (oQ5 0 0)) C f0):=C6.below (zT _ _);clear HNx Hf0 t3 F6 S6 C6;go_upto_region 10 with fail
   generalize w6.heap.size=S7 at *;generalize w6.alloc (oQ5 0 0)=w8 at *;clear w6
   have HWi:Hid (∀ wx,Calls prog 81 #[ckV f0,sptV k (d k)] wx (rB wx (ckV (clk x.y k (d k))))):=fun wx=>by
    have h9:=qo1 f0 k (d k) wx HCn.2.2.2.2.2 (by have:=HCn.2.2.2.1;omega);have e9:(fun q=>if q=k then d k+1 else f0 q)=clk x.y k (d k):=funext HV.out;rw [e9] at h9;exact h9
   go_upto_region 12 with fail
   have q0:Bw w8 w8.drew:=(Below.refl w8.heap.size w8).drew;refine qah (fun w':World=>BoxS w' S (.int .i64 k) (.int .i64 (d k))/\BoxF w' C f0) (fun i=>i == 5) (by kernel_rfl) ?_;have hHeld:(fun w':World=>BoxS w' S (.int .i64 k) (.int .i64 (d k))/\BoxF w' C f0) w8.drew:=⟨S8.below q0,C8.below q0⟩
   refine qax [0,1,2,3] ?_;iterate 4 (refine qa8 rfl hHeld ?_)
   refine qaq ?_;refine qab 4 rfl (by kernel_rfl) (fun K hK=>?_);refine qcn rfl 81 _ _ rfl #[ckV f0,sptV k (d k)] (by simp [Act.eval]) (yB func81 (by kernel_rfl) rfl) (HWi.out _) ?_;rintro e w9 ⟨rfl,b9⟩;refine ⟨_,rfl,?_⟩;have q9:Bw w8 w9:=q0.trans (b9.mono q0.size);refine hK.out _ _ (fun _=>⟨S8.below q9,C8.below q9⟩) ?_;have F9:Hid (CkH w x b X d (up d k) D w9):=F8.below q9;clear hK K hHeld HWi
   (try simp only [Act.put,zD,zE,zF])
   obtain ⟨w10,D10,hrun,ck10,g10⟩:=F9.ck.put HCn.2.1 H4.out HD2.out HSm.out;have F10:Hid (CkF w x b X (up d k) D10 w10/\x.y.hs.Put (up d k)):=⟨F9.put g10 ck10,.next HPu.out hk HCn.1⟩
   have HM:Hid (sumL x.y.hs.l x.y.hs.n - sumL (up d k) x.y.hs.n<gk):=by
    have h2:=qen (d:=d) hk;have h3:=qc0 F10.2.le x.y.hs.n;have h4:=HGk.out;show sumL x.y.hs.l x.y.hs.n - sumL (up d k) x.y.hs.n<gk;omega
   clear ck10 g10;refine qab 5 rfl (by kernel_rfl) (fun K hK=>?_);go_simp;refine hK.out _ _ (fun h=>?_) ?_
   ·exact absurd h (by decide)
   clear hK K hrun
   (try simp only [Act.put,zD,zE,zF])
   refine qan (by kernel_rfl) ?_ _;clear F9 F8 S8 C8 HV q0 q9 b9 HGk HPu;generalize up d k=d2 at *;go_wp2_with fail
   refine (qru X x.ha x.hc x.hA x.hC x.y.hs d2 w10 (HE.out w10 F10.1.be) F10.1.hq h4 HP.1 HP.2 F10.2.le).mono ?_;rintro e w11 ⟨q11,hor⟩;have F11:Hid (CkF w x b X d2 D10 w11/\x.y.hs.Put d2):=⟨F10.1.below q11,F10.2⟩
   obtain ⟨z,rfl,HOr⟩:∃ z:Int,e=.returned (.int .i64 z)/\Hid ((∃ k,k<x.y.hs.n/\x.y.hs.Can d2 k/\z=(k:Nat))\/(z = -1/\∀ p,p<x.y.hs.n->¬ x.y.hs.Can d2 p)):=by
    rcases hor with ⟨k,hk,hcan,rfl⟩ | ⟨rfl,hn⟩
    ·exact ⟨_,rfl,.inl ⟨k,hk,hcan,rfl⟩⟩
    ·exact ⟨_,rfl,.inr ⟨rfl,hn⟩⟩
   clear hor q11 F10;go_wp2
   go_roundg (sumL x.y.hs.l x.y.hs.n - sumL d2 x.y.hs.n)
   case measure=>exact HM.out
   case rel=>exact ⟨d2,D10,z,rfl,rfl,F11.out,HOr.out⟩
  obtain ⟨sd,hsd⟩:∃ sd,sdr x.y k (d k)=some sd:=⟨_,if_pos t3⟩
  obtain ⟨s1,s2⟩:=sd;obtain ⟨m1,m2,m3⟩:=qho HO.1 HPu.le HCn.2.1 HCn.1 hsd
  have m4:(x.y.hH k (d k)).q=(s1:Int):=by
   have h1:=hsd;rw [sdr,if_pos t3] at h1;have h2:(x.y.hH k (d k)).q.toNat=s1:=by injection h1 with h1;injection h1
   have h3:=(HO.1.evq HCn.2.1 HCn.2.2.1).1;omega
  have m1':s1<x.y.pn:=m1;have m2':s2<d s1:=m2;have HS12:Hid (s1<x.y.pn/\s2<d s1):=⟨m1',m2'⟩
  have HV:Hid (∀ q,(if q=k then d k+1 else max (f0 q) (clk x.y s1 s2 q))=clk x.y k (d k) q):=fun q=>by
   rw [HNx.out q,hsd,<- Hf0.out]
  rw [show snV x.y k (d k)=.tuple #[.agg #[.int .i64 s1,.int .i64 s2],.bool true] by rw [snV,if_pos t3,m4,m3]];have F7:Hid (CkH w x b X d (up d k) D (w6.alloc (oQ5 s1 s2))):=F6.below (zT _ _);have S7b:Hid (BoxS (w6.alloc (oQ5 s1 s2)) S (.int .i64 k) (.int .i64 (d k))/\S≠C):=⟨S6.below (zT _ _),by have:=LC.2;omega⟩
  have C7:Hid (BoxF (w6.alloc (oQ5 s1 s2)) C f0):=C6.below (zT _ _);have P7:Hid (BoxS (w6.alloc (oQ5 s1 s2)) w6.heap.size (.int .i64 s1) (.int .i64 s2)):=BoxS.new w6 _ _ _;clear HNx Hf0 t3 F6 S6 C6 m1 m2 m3 m4 m1' m2' hsd;go_upto_region 11 with fail
  generalize w6.heap.size=S7 at *;generalize w6.alloc (oQ5 s1 s2)=w7 at *;clear w6;have HLk:Hid (∀ wx,Bw w7 wx->(Instr.lookup 63 (.map (some b)) (sptV s1 s2) false).run prog wx=.ok (ckV (clk x.y s1 s2)) wx):=fun wx hb=>(F7.below hb).ck.look HS12.1 H4.out HS12.2 (by have:=HD2.out s1;have:=HS12.2;omega);have q0:Bw w7 w7.drew:=(Below.refl w7.heap.size w7).drew;refine qah (fun w':World=>BoxF w' C f0/\BoxS w' S7 (.int .i64 s1) (.int .i64 s2)/\(Instr.lookup 63 (.map (some b)) (sptV s1 s2) false).run prog w'=.ok (ckV (clk x.y s1 s2)) w') (fun i=>i == 5) (by kernel_rfl) ?_;have hHeld:(fun w':World=>BoxF w' C f0/\BoxS w' S7 (.int .i64 s1) (.int .i64 s2)/\(Instr.lookup 63 (.map (some b)) (sptV s1 s2) false).run prog w'=.ok (ckV (clk x.y s1 s2)) w') w7.drew:=⟨C7.below q0,P7.below q0,HLk.out _ q0⟩
  refine qax [0,1,2,3] ?_;iterate 4 (refine qa8 rfl hHeld ?_)
  refine qaq ?_;refine qab 4 rfl (by kernel_rfl) (fun K hK=>?_);refine qcn rfl 80 _ _ rfl #[ckV f0,ckV (clk x.y s1 s2)] (by simp [Act.eval]) (yB func80 (by kernel_rfl) rfl) (qpm f0 (clk x.y s1 s2) _) ?_;rintro e w9 ⟨rfl,b9⟩;refine ⟨_,rfl,?_⟩;have q9:Bw w7 w9:=q0.trans (b9.mono q0.size);have C9:Hid (BoxF w9 C f0):=C7.below q9;refine hK.out _ _ (fun _=>⟨C9.out,P7.below q9,HLk.out _ q9⟩) ?_;obtain ⟨f1,hf1⟩:∃ f1:Nat->Nat,(fun q=>max (f0 q) (clk x.y s1 s2 q))=f1:=⟨_,rfl⟩
  rw [hf1];have HV1:Hid (∀ q,(if q=k then d k+1 else f1 q)=clk x.y k (d k) q):=fun q=>by rw [<- hf1];exact HV.out q
  clear hK K hHeld HV hf1
  (try simp only [Act.put,zD,zE,zF])
  have C10:=C9.put f1;have F10a:Hid (CkH w x b X d (up d k) D ((((w9.setCell (aQ C 0) (.int .i64 (f1 0))).setCell (aQ C 1) (.int .i64 (f1 1))).setCell (aQ C 2) (.int .i64 (f1 2))).setCell (aQ C 3) (.int .i64 (f1 3)))):=(F7.below q9).turnC C10.2 LC.1;have S10a:Hid (BoxS ((((w9.setCell (aQ C 0) (.int .i64 (f1 0))).setCell (aQ C 1) (.int .i64 (f1 1))).setCell (aQ C 2) (.int .i64 (f1 2))).setCell (aQ C 3) (.int .i64 (f1 3))) S (.int .i64 k) (.int .i64 (d k))):=(S7b.1.below q9).blk (C10.2.block S (S7b.1.below q9).lt (fun e=>S7b.2 e));have C10a:Hid (BoxF ((((w9.setCell (aQ C 0) (.int .i64 (f1 0))).setCell (aQ C 1) (.int .i64 (f1 1))).setCell (aQ C 2) (.int .i64 (f1 2))).setCell (aQ C 3) (.int .i64 (f1 3))) C f1):=C10.1;obtain ⟨z0,z1,z2,z3,zf⟩:=C9.out;clear C10;refine qab 5 rfl (by kernel_rfl) (fun K hK=>?_);go_simp;refine hK.out _ _ (fun h=>?_) ?_
  ·exact absurd h (by decide)
  clear hK K
  (try simp only [Act.put,zD,zE,zF])
  refine qan (by kernel_rfl) ?_ _;clear z0 z1 z2 z3 zf q0 q9 b9 C9 HLk HS12 P7 C7 S7b F7;go_upto_region 12 with fail
  generalize (((w9.setCell (aQ C 0) (.int .i64 (f1 0))).setCell (aQ C 1) (.int .i64 (f1 1))).setCell (aQ C 2) (.int .i64 (f1 2))).setCell (aQ C 3) (.int .i64 (f1 3))=w8 at *;have F8:Hid (CkH w x b X d (up d k) D w8):=F10a.out;have S8:Hid (BoxS w8 S (.int .i64 k) (.int .i64 (d k))):=S10a.out;have C8:Hid (BoxF w8 C f1):=C10a.out;have HV:Hid (∀ q,(if q=k then d k+1 else f1 q)=clk x.y k (d k) q):=HV1.out;clear F10a S10a C10a HV1 w9 w7
  have HWi:Hid (∀ wx,Calls prog 81 #[ckV f1,sptV k (d k)] wx (rB wx (ckV (clk x.y k (d k))))):=fun wx=>by
   have h9:=qo1 f1 k (d k) wx HCn.2.2.2.2.2 (by have:=HCn.2.2.2.1;omega);have e9:(fun q=>if q=k then d k+1 else f1 q)=clk x.y k (d k):=funext HV.out;rw [e9] at h9;exact h9
  have q0:Bw w8 w8.drew:=(Below.refl w8.heap.size w8).drew;refine qah (fun w':World=>BoxS w' S (.int .i64 k) (.int .i64 (d k))/\BoxF w' C f1) (fun i=>i == 5) (by kernel_rfl) ?_;have hHeld:(fun w':World=>BoxS w' S (.int .i64 k) (.int .i64 (d k))/\BoxF w' C f1) w8.drew:=⟨S8.below q0,C8.below q0⟩
  refine qax [0,1,2,3] ?_;iterate 4 (refine qa8 rfl hHeld ?_)
  refine qaq ?_;refine qab 4 rfl (by kernel_rfl) (fun K hK=>?_);refine qcn rfl 81 _ _ rfl #[ckV f1,sptV k (d k)] (by simp [Act.eval]) (yB func81 (by kernel_rfl) rfl) (HWi.out _) ?_;rintro e w9 ⟨rfl,b9⟩;refine ⟨_,rfl,?_⟩;have q9:Bw w8 w9:=q0.trans (b9.mono q0.size);refine hK.out _ _ (fun _=>⟨S8.below q9,C8.below q9⟩) ?_;have F9:Hid (CkH w x b X d (up d k) D w9):=F8.below q9;clear hK K hHeld HWi
  (try simp only [Act.put,zD,zE,zF])
  obtain ⟨w10,D10,hrun,ck10,g10⟩:=F9.ck.put HCn.2.1 H4.out HD2.out HSm.out;have F10:Hid (CkF w x b X (up d k) D10 w10/\x.y.hs.Put (up d k)):=⟨F9.put g10 ck10,.next HPu.out hk HCn.1⟩
  have HM:Hid (sumL x.y.hs.l x.y.hs.n - sumL (up d k) x.y.hs.n<gk):=by
   have h2:=qen (d:=d) hk;have h3:=qc0 F10.2.le x.y.hs.n;have h4:=HGk.out;show sumL x.y.hs.l x.y.hs.n - sumL (up d k) x.y.hs.n<gk;omega
  clear ck10 g10;refine qab 5 rfl (by kernel_rfl) (fun K hK=>?_);go_simp;refine hK.out _ _ (fun h=>?_) ?_
  ·exact absurd h (by decide)
  clear hK K hrun
  (try simp only [Act.put,zD,zE,zF])
  refine qan (by kernel_rfl) ?_ _;clear F9 F8 S8 C8 HV q0 q9 b9 HGk HPu;generalize up d k=d2 at *;go_wp2_with fail
  refine (qru X x.ha x.hc x.hA x.hC x.y.hs d2 w10 (HE.out w10 F10.1.be) F10.1.hq h4 HP.1 HP.2 F10.2.le).mono ?_;rintro e w11 ⟨q11,hor⟩;have F11:Hid (CkF w x b X d2 D10 w11/\x.y.hs.Put d2):=⟨F10.1.below q11,F10.2⟩
  obtain ⟨z,rfl,HOr⟩:∃ z:Int,e=.returned (.int .i64 z)/\Hid ((∃ k,k<x.y.hs.n/\x.y.hs.Can d2 k/\z=(k:Nat))\/(z = -1/\∀ p,p<x.y.hs.n->¬ x.y.hs.Can d2 p)):=by
   rcases hor with ⟨k,hk,hcan,rfl⟩ | ⟨rfl,hn⟩
   ·exact ⟨_,rfl,.inl ⟨k,hk,hcan,rfl⟩⟩
   ·exact ⟨_,rfl,.inr ⟨rfl,hn⟩⟩
  clear hor q11 F10;go_wp2
  go_roundg (sumL x.y.hs.l x.y.hs.n - sumL d2 x.y.hs.n)
  case measure=>exact HM.out
  case rel=>exact ⟨d2,D10,z,rfl,rfl,F11.out,HOr.out⟩
def spEq (p i q j:Int):Bool:=p == q && i == j
theorem qtt (p i q j:Int) (w:World):(binOp .neq 60 (sptV p i) (sptV q j)).run prog w=.ok (.bool (!spEq p i q j)) w:=by
 rw [run_neq_struct,show (10000:Nat)=9998+1+1 from rfl,run_equalIn_agg w (9998+1) 60 _ _ (by kernel_rfl) (by kernel_rfl)];simp only [spEq];by_cases h1:p=q <;> by_cases h2:i=j <;> simp [go_sem,h1,h2]
def hgN (y:Sy) (p i q j:Nat):Bool:=!spEq p i q j && decide (j<clk y p i q)
noncomputable def bothB (y:Sy) (p i q j:Int):Bool:=hasB y p i && hasB y q j
noncomputable def hgB (y:Sy) (p i q j:Int):Bool:=bothB y p i q j && hgN y p.toNat i.toNat q.toNat j.toNat
theorem qvg {y:Sy} {p i q j:Int}:arB y 2 (fun k=>if k=0 then (p,i) else (q,j))=bothB y p i q j:=by
 unfold arB bothB hasB
 rcases zK y.okB with h | h
 ·have e:=(Sy.ok_of h).cn.2.2.1
  rw [h];simp only [Bool.true_and];by_cases hc:y.Has (p,i)/\y.Has (q,j)
  ·rw [qay fun k hk=>?_]
   ·have h1:=hc.1
    have h2:=hc.2;unfold Sy.Has at h1 h2;rw [e] at h1 h2;simp only at h1 h2;rw [h1.1,h1.2,h2.1,h2.2];rfl
   ·by_cases hk0:k=0
    ·rw [if_pos hk0];exact hc.1
    ·rw [if_neg hk0];exact hc.2
  ·rw [qat fun h9=>hc ⟨h9 0 (by omega),h9 1 (by omega)⟩]
   symm
   refine Bool.eq_false_iff.2 fun h9=>hc ?_;simp only [Bool.and_eq_true] at h9;unfold Sy.Has;rw [e];exact ⟨h9.1,h9.2⟩
 ·rw [h]
  rfl
theorem qqn (f:Nat->Nat) (q j:Nat) (w:World) (hq:q<4):
  Calls prog 82 #[ckV f,sptV q j] w (rB w (.bool (decide (j<f q)))):=by
 have hB:=BoxF.new w f 111;have hS:=BoxS.new (w.alloc (.cells #[.int .i64 (f 0),.int .i64 (f 1),.int .i64 (f 2),.int .i64 (f 3)] 111)) (.int .i64 q) (.int .i64 j) 60
 (try dsimp only [aW] at hS);rw [World.size_alloc] at hS
 have C2:=hB.below (zT (w.alloc (.cells #[.int .i64 (f 0),.int .i64 (f 1),.int .i64 (f 2),.int .i64 (f 3)] 111)) (oQ5 q j));have BW:Hid (Bw w ((w.alloc (.cells #[.int .i64 (f 0),.int .i64 (f 1),.int .i64 (f 2),.int .i64 (f 3)] 111)).alloc (oQ5 q j))):=(zT _ _).trans ((zT _ _).mono (by simp))
 have hcell:((w.alloc (.cells #[.int .i64 (f 0),.int .i64 (f 1),.int .i64 (f 2),.int .i64 (f 3)] 111)).alloc (oQ5 q j)).cell? (aQ w.heap.size q)=some (.int .i64 (f q)):=by
  match q,hq with
  | 0,_=>exact C2.c0
  | 1,_=>exact C2.c1
  | 2,_=>exact C2.c2
  | 3,_=>exact C2.c3
 obtain ⟨s0,s1⟩:=hS;have hq4:(q:Int)<4:=by omega
 have HR:Hid (decide (j<f q)=decide ((f q:Int) > (j:Int))):=by
  show _=_;exact decide_eq_decide.2 (by omega)
 generalize decide (j<f q)=R at *;clear hB C2
 go_enter func82,ntmps82
 go_wp2_with fail
 generalize (w.alloc (.cells #[.int .i64 (f 0),.int .i64 (f 1),.int .i64 (f 2),.int .i64 (f 3)] 111)).alloc (oQ5 q j)=W2 at *;have s0':=cell_regrown s0;have s1':=cell_regrown s1;have hc':=cell_regrown hcell;refine wp_region_quiet_below (by kernel_rfl) (by kernel_rfl) ?_
 repeat (quiet_step (fail))
 refine wpQuiet_nil ?_;intro _ hw';obtain ⟨⟨dq,osq⟩,hw''⟩:=hw';subst hw'';have B3:Hid (Bw w (grow (redrawn W2 dq) osq)):=BW.trans ((below_regrown W2 dq osq).mono BW.size);generalize grow (redrawn W2 dq) osq=w3 at *;clear s0 s1 hcell s0' s1' hc';go_wp2;go_ret;exact ⟨by rw [HR.out];simp,B3.out⟩
theorem qn5 (b:Nat) (y:Sy) (d:Nat->Nat) (D:DataW Value) (p i q j:Nat) (w:World) (hC:Ckm w b y d D) (hb:b<w.heap.size) (h4:y.pn<=4) (hp:p<y.pn) (hi:i<d p) (hi':i<=1048576) (hq:q<y.pn):
  Calls prog 35 #[.map (some b),sptV p i,sptV q j] w (rB w (.bool (hgN y p i q j))):=by
 have hS:=(BoxS.new w (.int .i64 p) (.int .i64 i) 60).below (zT (w.alloc (oQ5 p i)) (oQ5 q j));have hT:=BoxS.new (w.alloc (oQ5 p i)) (.int .i64 q) (.int .i64 j) 60
 (try dsimp only [aW] at hT);rw [World.size_alloc] at hT
 have BW:Hid (Bw w ((w.alloc (oQ5 p i)).alloc (oQ5 q j))):=(zT _ _).trans ((zT _ _).mono (by simp));have HLk:Hid (∀ wx,Bw w wx->(Instr.lookup 63 (.map (some b)) (sptV p i) false).run prog wx=.ok (ckV (clk y p i)) wx):=fun wx hbx=>(hC.blk (hbx.block b hb)).look hp h4 hi hi';have HHa:Hid (∀ wx,Calls prog 82 #[ckV (clk y p i),sptV q j] wx (rB wx (.bool (decide (j<clk y p i q))))):=fun wx=>qqn (clk y p i) q j wx (by omega);have HN:Hid (hgN y p i q j=(!spEq p i q j && decide (j<clk y p i q))):=rfl;generalize hgN y p i q j=R at *;generalize decide (j<clk y p i q)=V at *;generalize clk y p i=f at *;have hne:=qtt p i q j;clear hC h4 hp hi hi' hq;cases hE:spEq p i q j with
 | true=>
  rw [hE] at hne HN
  go_enter func35,ntmps35
  go_wp2_with fail
  generalize (w.alloc (oQ5 p i)).alloc (oQ5 q j)=W2 at *;obtain ⟨s0,s1⟩:=hS;obtain ⟨t0,t1⟩:=hT;have s0':=cell_regrown s0;have s1':=cell_regrown s1;have t0':=cell_regrown t0;have t1':=cell_regrown t1;refine wp_region_quiet_below (by kernel_rfl) (by kernel_rfl) ?_
  repeat (first | go_big_quiet_skip | quiet_step (fail))
  refine wpQuiet_nil ?_;intro _ hw';obtain ⟨⟨dq,osq⟩,hw''⟩:=hw';subst hw'';have B3:Hid (Bw w (grow (redrawn W2 dq) osq)):=BW.trans ((below_regrown W2 dq osq).mono BW.size);generalize grow (redrawn W2 dq) osq=w3 at *;clear s0 s1 t0 t1 s0' s1' t0' t1' hne;go_wp2;go_ret;exact ⟨by rw [HN.out];rfl,B3.out⟩
 | false=>
  rw [hE] at hne HN
  go_enter func35,ntmps35
  go_wp2_with fail
  generalize (w.alloc (oQ5 p i)).alloc (oQ5 q j)=W2 at *;obtain ⟨s0,s1⟩:=hS;obtain ⟨t0,t1⟩:=hT;have s0':=cell_regrown s0;have s1':=cell_regrown s1;have t0':=cell_regrown t0;have t1':=cell_regrown t1;have hlk:∀ dd os,(Instr.lookup 63 (.map (some b)) (sptV p i) false).run prog (grow (redrawn W2 dd) os)=.ok (ckV f) (grow (redrawn W2 dd) os):=fun dd os=>HLk.out _ (BW.trans ((below_regrown W2 dd os).mono BW.size));refine wp_region_quiet_below (by kernel_rfl) (by kernel_rfl) ?_
  repeat (quiet_step (first|(go_at_call 82;exact Calls.regrown_of (HHa.out _))))
  refine wpQuiet_nil ?_;intro _ hw';obtain ⟨⟨dq,osq⟩,hw''⟩:=hw';subst hw'';have B3:Hid (Bw w (grow (redrawn W2 dq) osq)):=BW.trans ((below_regrown W2 dq osq).mono BW.size);generalize grow (redrawn W2 dq) osq=w3 at *;clear s0 s1 t0 t1 s0' s1' t0' t1' hne hlk;go_wp2;go_ret;exact ⟨by rw [HN.out];rfl,B3.out⟩
structure HgX (w:World) (x:SysIn) (p i q j:Int) (wx:World):Prop where
 be:Bw w wx
 bs:x.bX wx w.heap.size
 s1:BoxS wx (w.heap.size+1) (.int .i64 p) (.int .i64 i)
 s2:BoxS wx (w.heap.size+1+1) (.int .i64 q) (.int .i64 j)
theorem HgX.below {w:World} {x:SysIn} {p i q j:Int} {wx wy:World} (h:HgX w x p i q j wx) (hb:Bw wx wy):HgX w x p i q j wy:=⟨h.be.trans (hb.mono h.be.size),h.bs.below hb,h.s1.below hb,h.s2.below hb⟩
theorem HgX.new (w:World) (x:SysIn) (p i q j:Int):HgX w x p i q j (((w.alloc (x.oX)).alloc (oQ5 p i)).alloc (oQ5 q j)):=by
 have e1:(w.alloc (x.oX)).heap.size=w.heap.size+1:=by simp
 have e2:((w.alloc (x.oX)).alloc (oQ5 p i)).heap.size=w.heap.size+1+1:=by simp
 refine ⟨by go_grown,((BoxC.new w _ _ _ _ _).below (zT _ _)).below (zT _ _),?_,?_⟩
 ·have:=(BoxS.new (w.alloc (x.oX)) (.int .i64 p) (.int .i64 i) 60).below (zT _ (oQ5 q j))
  rw [e1] at this;exact this
 ·have:=BoxS.new ((w.alloc (x.oX)).alloc (oQ5 p i)) (.int .i64 q) (.int .i64 j) 60
  rw [e2] at this;exact this
theorem SpAt.two (w:World) (p i q j:Int) (t:TypeId):SpAt (w.alloc (.cells #[.int .i64 p,.int .i64 i,.int .i64 q,.int .i64 j] t)) w.heap.size 2 (fun k=>if k=0 then (p,i) else (q,j)):=fun k hk=>by
 match k,hk with
 | 0,_=>exact ⟨zW _ _ _ 0 rfl,zW _ _ _ 1 rfl⟩
 | 1,_=>exact ⟨zW _ _ _ 2 rfl,zW _ _ _ 3 rfl⟩
def ckN (y:Sy) (p i:Nat):List Int:=(List.range y.pn).map fun q=>(clk y p i q:Int)
theorem qvk (y:Sy) (p i:Nat):(ckN y p i).length=y.pn:=by simp [ckN]
theorem qwh (y:Sy) (p i q:Nat) (hq:q<y.pn):zi (ckN y p i) q=(clk y p i q:Int):=by
 unfold zi ckN;rw [List.getD_eq_getElem?_getD,List.getElem?_map,List.getElem?_range hq];rfl
theorem BoxF.sl {w:World} {C:Nat} {y:Sy} {p i:Nat} (h:BoxF w C (clk y p i)) (h4:y.pn<=4):Sl w (some (aQ C 0)) (ckN y p i):=by
 refine .inr ⟨C,0,rfl,h.lt,fun q hq=>?_⟩;rw [qvk] at hq;rw [qwh y p i q hq,Nat.zero_add];have hq4:q<4:=by omega
 match q,hq4 with
 | 0,_=>exact h.c0
 | 1,_=>exact h.c1
 | 2,_=>exact h.c2
 | 3,_=>exact h.c3
theorem Sy.Ok.ckx {y:Sy} (hO:y.Ok):∃ d,Ckx y d/\∀ p,p<y.pn->d p=y.hL p:=by
 obtain ⟨d,hA,hall⟩:=hO.ro;exact ⟨d,qv3 hO hA,hall⟩
theorem qwx {y:Sy} {a b c d:Nat} (ho:y.Ok) (ha:a<y.pn) (hb:b<y.hL a) (hc:c<y.pn) (hd:d<y.hL c) (hne:a≠c\/b≠d) (hlt:d<clk y a b c):hgB y a b c d=true:=by
 have h1:hasB y a b=true:=qq4 (Sy.okB_true ho) ha hb;have h2:hasB y c d=true:=qq4 (Sy.okB_true ho) hc hd;simp [hgB,bothB,h1,h2,hgN,spEq,hlt];omega
theorem qqo {y:Sy} (ho:y.Ok) {p:Nat} (hp:p<y.pn) {i:Nat} (hi:i<y.hL p):y.Wh (clk y p i):=fun a ha b hb=>by
 obtain ⟨D,hD,hall⟩:=ho.ckx;have hi':i<D p:=by rw [hall p hp];exact hi
 refine Classical.byContradiction fun h=>?_;obtain ⟨k,-,hk,hit,hc⟩:=qm5 h
 have hkb:k<y.hL b:=by
  have h1:=hD.le p hp i hi' b;rw [hall b hb] at h1;omega
 have hk3:(y.hH b k).k=3/\(y.hH b k).q=(a:Int):=by
  unfold hitB at hit;simpa using hit
 have hs:sdr y b k=some ((y.hH b k).q.toNat,(sndN y b k).toNat):=if_pos hk3.1;rw [hk3.2,Int.toNat_natCast] at hs;obtain ⟨-,-,-,m4,-,m6,m7,-⟩:=qw6 ho hb hkb hs;have h2:=hD.whole hp hi' hb hk hs;simp only at m4 m6 m7 h2;have h3:=qc5 (y.hH a) 2 b (show (sndN y b k).toNat+1<=clk y p i a from h2);rw [qd9 m6,m7,hc] at h3;unfold sN at h3;omega
def qc2 (e:Ending) (P:Prop):Prop:=∃ t,e=.returned (.bool t)/\(t=true ↔ P)
theorem qc2.yes {P:Prop} (h:P):qc2 (.returned (.bool true)) P:=⟨true,rfl,⟨fun _=>h,fun _=>rfl⟩⟩
theorem qc2.no {P:Prop} (h:¬ P):qc2 (.returned (.bool false)) P:=⟨false,rfl,⟨fun e=>(by cases e),fun p=>absurd p h⟩⟩
def qpk (o r a b n o' r' a' b' n':Int):Bool:=o == o' && (r == r' && (a == a' && (b == b' && n == n')))
theorem qq7 (a b:I5):qpk a.o a.r a.a a.b a.n b.o b.r b.a b.b b.n=true ↔ a=b:=by
 cases a;cases b;simp [qpk]
theorem qw1 (o r a b n o' r' a' b' n':Int) (w:World):(binOp .neq 77 (.agg #[.int .i64 o,.int .i64 r,.int .i64 a,.int .i64 b,.int .i64 n]) (.agg #[.int .i64 o',.int .i64 r',.int .i64 a',.int .i64 b',.int .i64 n'])).run prog w=.ok (.bool (!qpk o r a b n o' r' a' b' n')) w:=by
 rw [run_neq_struct,show (10000:Nat)=9998+1+1 from rfl,run_equalIn_agg w (9998+1) 77 _ _ (by kernel_rfl) (by kernel_rfl)];simp only [qpk];by_cases h1:o=o' <;> by_cases h2:r=r' <;> by_cases h3:a=a' <;> by_cases h4:b=b' <;> by_cases h5:n=n' <;> simp [go_sem,h1,h2,h3,h4,h5]
theorem qky (b b' n m c d:Nat) (g u:Nat->I5) (w:World) (hn:n<=1048576) (hm:m<=1048576) (hb0:b<w.heap.size) (hb1:b'<w.heap.size) (h0:qao w b 0 n g) (h1:qao w b' 0 m u):
  Calls prog 75 #[.slice (some ⟨b,0,none⟩) n c,.slice (some ⟨b',0,none⟩) m d] w fun e w'=>qc2 e (n=m/\∀ i,i<n->g i=u i)/\Bw w w':=by
 have H0:Hid (qao w b 0 n g/\b<w.heap.size):=⟨h0,hb0⟩
 have H1:Hid (qao w b' 0 m u/\b'<w.heap.size):=⟨h1,hb1⟩
 generalize hPP:(n=m/\∀ i,i<n->g i=u i)=PP;have HP:Hid ((n=m/\∀ i,i<n->g i=u i)=PP):=hPP;clear hPP;have hn':(n:Int)<=1048576:=by omega
 have hm':(m:Int)<=1048576:=by omega
 clear h0 h1 hb0 hb1;by_cases hnm:n=m
 case neg=>
  have hnm':¬ ((n:Int)=(m:Int)):=by omega
  go_enter func75,ntmps75
  go_wp2;go_ret;exact ⟨qc2.no fun h=>absurd (HP.mpr h).1 hnm,Below.refl _ _⟩
 subst hnm;have hmm:min n n=n:=Nat.min_self n
 go_enter func75,ntmps75
 go_wp2_with fail
 go_loopw [13] (fun i wr=>∃ k:Nat,k<=n/\i=.int .i64 k/\Hid (Bw w wr/\∀ i,i<k->g i=u i)) (fun i _=>n - (intOf i).toNat)
 case atStart=>exact ⟨0,Nat.zero_le _,rfl,Below.refl _ _,fun i hi=>by omega⟩
 case round=>
  obtain ⟨k,hk,rfl,HK⟩:=hrel;by_cases hlt:k<n
  ·have hkn:k<n:=by omega
   have hkm:k<n:=by omega
   have hkn':(k:Int)<(n:Int):=by omega
   have hkm':(k:Int)<(n:Int):=by omega
   obtain ⟨ck0,ck1,ck2,ck3,ck4⟩:=(H0.1.below HK.1 H0.2) k hkn;obtain ⟨dk0,dk1,dk2,dk3,dk4⟩:=(H1.1.below HK.1 H1.2) k hkm;rw [Nat.zero_add] at ck0 ck1 ck2 ck3 ck4 dk0 dk1 dk2 dk3 dk4;have hbl:b<wr.heap.size:=zL H0.2 HK.1.size;have hbl':b'<wr.heap.size:=zL H1.2 HK.1.size;obtain ⟨T,hT⟩:∃ T,qpk (g k).o (g k).r (g k).a (g k).b (g k).n (u k).o (u k).r (u k).a (u k).b (u k).n=T:=⟨_,rfl⟩
   have HT:Hid (qpk (g k).o (g k).r (g k).a (g k).b (g k).n (u k).o (u k).r (u k).a (u k).b (u k).n=T):=hT;clear hT;go_upto_region 6 with fail
   have q0:Bw wr wr.drew:=(Below.refl wr.heap.size wr).drew;refine qah (fun w'=>w'.cell? ⟨b,k*5,none⟩=some (.int .i64 (g k).o)/\w'.cell? ⟨b,k*5+1,none⟩=some (.int .i64 (g k).r)/\w'.cell? ⟨b,k*5+2,none⟩=some (.int .i64 (g k).a)/\w'.cell? ⟨b,k*5+3,none⟩=some (.int .i64 (g k).b)/\w'.cell? ⟨b,k*5+4,none⟩=some (.int .i64 (g k).n)/\w'.cell? ⟨b',k*5,none⟩=some (.int .i64 (u k).o)/\w'.cell? ⟨b',k*5+1,none⟩=some (.int .i64 (u k).r)/\w'.cell? ⟨b',k*5+2,none⟩=some (.int .i64 (u k).a)/\w'.cell? ⟨b',k*5+3,none⟩=some (.int .i64 (u k).b)/\w'.cell? ⟨b',k*5+4,none⟩=some (.int .i64 (u k).n)) (fun _=>false) (by kernel_rfl) ?_;have hHeld:(fun w':World=>w'.cell? ⟨b,k*5,none⟩=some (.int .i64 (g k).o)/\w'.cell? ⟨b,k*5+1,none⟩=some (.int .i64 (g k).r)/\w'.cell? ⟨b,k*5+2,none⟩=some (.int .i64 (g k).a)/\w'.cell? ⟨b,k*5+3,none⟩=some (.int .i64 (g k).b)/\w'.cell? ⟨b,k*5+4,none⟩=some (.int .i64 (g k).n)/\w'.cell? ⟨b',k*5,none⟩=some (.int .i64 (u k).o)/\w'.cell? ⟨b',k*5+1,none⟩=some (.int .i64 (u k).r)/\w'.cell? ⟨b',k*5+2,none⟩=some (.int .i64 (u k).a)/\w'.cell? ⟨b',k*5+3,none⟩=some (.int .i64 (u k).b)/\w'.cell? ⟨b',k*5+4,none⟩=some (.int .i64 (u k).n)) wr.drew:=⟨(q0.cell (p:=(aQ b _)) hbl).trans ck0,(q0.cell (p:=(aQ b _)) hbl).trans ck1,(q0.cell (p:=(aQ b _)) hbl).trans ck2,(q0.cell (p:=(aQ b _)) hbl).trans ck3,(q0.cell (p:=(aQ b _)) hbl).trans ck4,(q0.cell (p:=(aQ b' _)) hbl').trans dk0,(q0.cell (p:=(aQ b' _)) hbl').trans dk1,(q0.cell (p:=(aQ b' _)) hbl').trans dk2,(q0.cell (p:=(aQ b' _)) hbl').trans dk3,(q0.cell (p:=(aQ b' _)) hbl').trans dk4⟩
   refine qax [0,1,2,3,4,5,6,7] ?_;iterate 8 (refine qa8 rfl hHeld ?_)
   refine qaq ?_;have hne:=qw1 (g k).o (g k).r (g k).a (g k).b (g k).n (u k).o (u k).r (u k).a (u k).b (u k).n;rw [HT.out] at hne;refine qcv 8 rfl hHeld ⟨.bool (!T),fun wq _=>?_,?_⟩
   ·go_simp
   (try simp only [Act.put,zD,zE,zF])
   refine qan (by kernel_rfl) ?_ _;have HK':Hid (Bw w wr.drew):=HK.1.trans (q0.mono HK.1.size);clear hHeld hne q0 ck0 ck1 ck2 ck3 ck4 dk0 dk1 dk2 dk3 dk4 hbl hbl';cases T with
   | false=>
    have HR:Hid (¬ (n=n/\∀ i,i<n->g i=u i)):=fun e=>by
     have:=(qq7 _ _).2 (e.2 k hkn);rw [HT.out] at this;cases this
    go_wp2;go_ret;exact ⟨qc2.no fun h=>HR.out (HP.mpr h),HK'.out⟩
   | true=>
    have HE:Hid (∀ i,i<k+1->g i=u i):=fun i hi=>by
     by_cases e:i=k
     ·subst e
      exact (qq7 _ _).1 HT.out
     ·exact HK.2 i (by omega)
    go_wp2;go_roundw
    case rel=>exact ⟨k+1,by omega,by go_num,HK'.out,HE.out⟩
    case measure=>simp [intOf];omega
  ·have hkn:k=n:=by omega
   subst hkn;have HR:Hid (Bw w wr/\∀ i,i<k->g i=u i):=HK.out;clear hlt hk hmm;go_wp2;go_ret;exact ⟨qc2.yes (HP.mp ⟨trivial,HR.2⟩),HR.1⟩
theorem AtP.start {z:Bool} {B m3 m1:Nat} {w3 w1:World} {y:Sy} {vp vw:Value} {up uw:Nat->Value} (o3:LT z w3 (fun k=>m3<=k/\k<w3.heap.size) vw y.wn uw y.wL y.wH) (o1:LI z w1 (fun k=>m1<=k/\k<w1.heap.size) vp y.pn up y.pL y.pH) (hb:Bw w3 w1) (h1:w3.heap.size<=m1) (hB:B<=m3) (h3:m3<=w3.heap.size):
  ∃ c,AtP z B w1.heap.size c { y with sn:=0,hn:=0 } (w1.alloc (.cells #[vp,nS,vw,nS] 29)) vp nS vw nS up (fun _=>.slice none 0 0) uw (fun _=>.slice none 0 0):=by
 have hs:=hb.size;have ba:=zQ w1 (.cells #[vp,nS,vw,nS] 29);refine ⟨fun k=>if k=w1.heap.size then 0 else if k<w3.heap.size then 3 else 1,BoxC.new w1 _ _ _ _ _,fun j=>yD _ _ _ _ rfl,if_pos rfl,by omega,?_,LS.nil _ _ _ _,?_,LL.nil _ _ _ _ _ _ _ _⟩
 ·refine (o1.mono fun k hk _=>⟨by omega,?_⟩).below ba
  show (if k=w1.heap.size then 0 else if k<w3.heap.size then 3 else 1)=1;rw [if_neg (by omega),if_neg (by omega)]
 ·refine ((o3.mono fun k hk _=>⟨by omega,?_⟩).below hb).below ba
  show (if k=w1.heap.size then 0 else if k<w3.heap.size then 3 else 1)=3;rw [if_neg (by omega),if_pos (by omega)]
def Sy.Rpl (y:Sy) (d:Nat->Nat):Prop:=∀ p,p<y.pn->(repO (y.pH p) (y.pL p) (y.hH p) (d p)).isSome=true
noncomputable def ctB (y:Sy) (d:Nat->Nat):Bool:=qB (y.Wh d) && (wfB (y.ah d) && qB (y.Rpl d))
noncomputable def ctS (y:Sy) (d:Nat->Nat):Sy:=if ctB y d=true then y.atY d else y.nil
theorem qwk {y:Sy} {d:Nat->Nat} (h:¬ y.Wh d):ctB y d=false:=by
 unfold ctB;rw [qat h];rfl
theorem qwl {y:Sy} {d:Nat->Nat} (h:wfB (y.ah d)=false):ctB y d=false:=by
 unfold ctB;rw [h];simp
theorem qwm {y:Sy} {d:Nat->Nat} (h:¬ y.Rpl d):ctB y d=false:=by
 unfold ctB;rw [qat h];simp
theorem qwn {y:Sy} {d:Nat->Nat} (h1:y.Wh d) (h2:wfB (y.ah d)=true) (h3:y.Rpl d):ctB y d=true:=by
 unfold ctB;rw [qay h1,h2,qay h3];rfl
theorem qss (y:Sy) (d:Nat->Nat):(∀ a,a<(y.ah d).n->∀ b,b<(y.ah d).n->nthV ((y.ah d).e b) 3 a ((y.ah d).l b) (cnt ((y.ah d).e a) 2 b ((y.ah d).l a):Nat)<0) ↔ y.Wh d:=
 ⟨fun h a ha b hb=>(qfe (y:=y) (c:=d)).1 (h a ha b hb),fun h a ha b hb=>(qfe (y:=y) (c:=d)).2 (h a ha b hb)⟩
theorem qmh (X hc0:Nat) (ea:Option Addr) (eA:Nat->Option Addr) (eC:Nat->Nat) (y:Sy) (d:Nat->Nat) (pa:Option Addr) (pc:Nat) (pA:Nat->Option Addr) (pC:Nat->Nat) (w:World) (c0:w.cell? ⟨X,0,none⟩=some (.slice ea y.pn hc0)) (hE:HisE w ea eA eC (y.ah d)) (hl:∀ i,i<y.pn->d i<=200) (h4:y.pn<=4) (hP:RowS w pa y.pn fun i=>.slice (pA i) (y.pL i) (pC i)) (hI:∀ i,i<y.pn->∃ b,pA i=some ⟨b,0,none⟩/\b<w.heap.size/\qao w b 0 (y.pL i) (y.pH i)) (hpl:∀ i,i<y.pn->y.pL i<=1048576) (hV:w.cell? ⟨0,0,none⟩=some (.iface 195 (.agg #[.pointer (some ⟨1,132,none⟩)]))):
  Calls prog 47 #[.pointer (some (aQ X 0)),.slice pa y.pn pc] w fun e w'=>∃ v,e=.returned (.tuple #[v,.bool (ctB y d)])/\qai true w' w.heap.size (ctS y d) v/\Bw w w':=by
 have HVx:Hid (∀ wx,Bw w wx->wx.cell? ⟨0,0,none⟩=some (.iface 195 (.agg #[.pointer (some ⟨1,132,none⟩)]))):=fun wx hb=>(hb.cell (p:=⟨0,0,none⟩) (zJ w _ hV)).trans hV
 have HX3 : Hid (∀ wx, Below w.heap.size w wx → wx.cell? ⟨X, 0, none⟩ = some (.slice ea y.pn hc0) ∧ HisE wx ea eA eC (y.ah d) ∧ RowS wx pa y.pn (fun i => .slice (pA i) (y.pL i) (pC i)) ∧ ∀ i, i < y.pn → ∃ b, pA i = some ⟨b, 0, none⟩ ∧ b < wx.heap.size ∧ qao wx b 0 (y.pL i) (y.pH i)) := fun wx hb => ⟨(hb.cell (p := ⟨X, 0, none⟩) (World.block_lt_of_cell? w _ c0)).trans c0, hE.below hb, hP.below hb, fun i hi => by
  obtain ⟨b,e,hlt,hI⟩:=hI i hi
  exact ⟨b,e,zL hlt hb.size,hI.below hb hlt⟩⟩
 have HWh:Hid (∀ wx,Bw w wx->Calls prog 91 #[.pointer (some ⟨X,0,none⟩)] wx (rB wx (.bool (qB (y.Wh d))))):=fun wx hb=>by
  have h:=qlc X hc0 ea eA eC (y.ah d) wx (HX3.out wx hb).1 (HX3.out wx hb).2.1 (fun i hi=>hl i hi) h4
  have e:qB (y.Wh d)=qB (∀ a,a<(y.ah d).n->∀ b,b<(y.ah d).n->nthV ((y.ah d).e b) 3 a ((y.ah d).l b) (cnt ((y.ah d).e a) 2 b ((y.ah d).l a):Nat)<0):=by
   by_cases hw:y.Wh d
   ·rw [qay hw,qay ((qss y d).2 hw)]
   ·rw [qat hw,qat fun h=>hw ((qss y d).1 h)]
  rw [e];exact h
 have HW:Hid (y.Wh d->∀ wx,Bw w wx->Calls prog 92 #[.pointer (some ⟨X,0,none⟩)] wx fun e w'=>∃ v u,e=.returned (.tuple #[v,.bool (wfB (y.ah d))])/\(wfB (y.ah d)=true->LT true w' (fun k=>wx.heap.size<=k/\k<w'.heap.size) v (y.atY d).wn u (y.atY d).wL (y.atY d).wH)/\Bw wx w'):=fun hw wx hb=>qqd X hc0 ea eA eC (y.ah d) wx (HX3.out wx hb).1 (HX3.out wx hb).2.1 (fun i hi=>hl i hi) h4 (fun a ha b hb=>hw a ha b hb)
 have HP : Hid (∀ wx, Below w.heap.size w wx → Calls prog 42 #[.slice pa y.pn pc] wx fun e w' => ∃ v u, e = .returned v ∧ LI true w' (fun k => wx.heap.size ≤ k ∧ k < w'.heap.size) v y.pn u y.pL y.pH ∧ Below wx.heap.size wx w') := fun wx hb => qd4 pa y.pn pc pA y.pL pC y.pH wx (by omega) hpl (HX3.out wx hb).2.2.1 (fun i hi => by
  obtain ⟨b,e,hlt,hI⟩:=(HX3.out wx hb).2.2.2 i hi
  exact ⟨b,0,e,by rw [e];exact srcI hlt hI⟩)
 have HR:Hid (∀ wx,Bw w wx->∀ p,p<y.pn->Calls prog 63 #[.slice (pA p) (y.pL p) (pC p),.slice (eA p) (d p) (eC p)] wx (qc1 wx ((y.atY d).sS p) (repO (y.pH p) (y.pL p) (y.hH p) (d p)).isSome)):=fun wx hb p hp=>by
  obtain ⟨b,e,hlt,hI⟩:=(HX3.out wx hb).2.2.2 p hp;rw [e];exact qg1 b (y.pL p) (pC p) (eA p) (d p) (eC p) (y.pH p) (y.hH p) wx (by have:=hpl p hp;unfold maxLen;omega) hlt hI ((HX3.out wx hb).2.1.ev p hp) (by have:=hl p hp;omega) (HVx.out wx hb)
 have HK:Hid (∀ wx,Bw w wx->∀ p,p<y.pn->Calls prog 93 #[.slice (eA p) (d p) (eC p)] wx fun e w'=>∃ a1 c1,e=.returned (.slice a1 (d p) c1)/\w'.ownsRow wx.heap.size 83 3 (.slice a1 (d p) c1) (d p) (fE (y.hH p) (d p))/\Value.slice a1 (d p) c1≠nS/\Bw wx w'):=fun wx hb p hp=>qht (eA p) (d p) (eC p) (y.hH p) wx (by have:=hl p hp;omega) (srcE ((HX3.out wx hb).2.1.ev p hp));have HN:Hid (y.pn<=4):=h4;have BW:Hid (Bw w (w.alloc (zQ3))):=zQ _ _;have RB:Hid (BoxC (w.alloc (zQ3)) w.heap.size nS nS nS nS/\∀ j,(w.alloc (zQ3)).frozen? ⟨w.heap.size,j,none⟩=false):=⟨BoxC.new w _ _ _ _ _,fun j=>yD _ _ _ _ (by simp)⟩
 have hM:w.heap.size<=w.heap.size:=Nat.le_refl _;have HNO:Hid (ctB y d=false->ctS y d=y.nil):=fun h=>if_neg (by rw [h];simp);have HYES:Hid (ctB y d=true->ctS y d=y.atY d):=fun h=>if_pos h;have HC1:Hid (qB (y.Wh d)=false->ctB y d=false):=fun h=>qwk fun hw=>by rw [qay hw] at h;cases h
 have HC2:Hid (wfB (y.ah d)=false->ctB y d=false):=qwl;have HC3:Hid (¬ y.Rpl d->ctB y d=false):=qwm;have HC4:Hid (qB (y.Wh d)=true->wfB (y.ah d)=true->y.Rpl d->ctB y d=true):=fun h1=>qwn (qoq.1 h1);have HW':Hid (qB (y.Wh d)=true->∀ wx,Bw w wx->Calls prog 92 #[.pointer (some ⟨X,0,none⟩)] wx fun e w'=>∃ v u,e=.returned (.tuple #[v,.bool (wfB (y.ah d))])/\(wfB (y.ah d)=true->LT true w' (fun k=>wx.heap.size<=k/\k<w'.heap.size) v (y.atY d).wn u (y.atY d).wL (y.atY d).wH)/\Bw wx w'):=fun h=>HW.out (qoq.1 h);clear c0 hE hl h4 hP hI hpl hV HW;generalize qB (y.Wh d)=tw at *;generalize wfB (y.ah d)=wf at *;generalize ctB y d=R at *;generalize ctS y d=RS at *
 go_enter func47,ntmps47
 go_wp2_with fail
 generalize w.alloc (zQ3)=W2 at *;refine (HWh.out W2 BW.out).mono ?_;rintro e w1 ⟨rfl,q1⟩;have B1:Hid (Bw w w1/\BoxC w1 w.heap.size nS nS nS nS/\∀ j,w1.frozen? ⟨w.heap.size,j,none⟩=false):=⟨BW.trans (q1.mono BW.size),RB.1.below q1,fun j=>((qag q1).2 _ j (zJ _ _ RB.1.1)).trans (RB.2 j)⟩
 clear q1 BW RB HWh;have l1:w.heap.size<w1.heap.size:=zJ _ _ B1.2.1.1;cases tw with
 | false=>
  have HV:Hid (R=false/\RS=y.nil):=⟨HC1.out rfl,HNO.out (HC1.out rfl)⟩
  obtain ⟨⟨r0,r1,r2,r3⟩,rf⟩:=B1.2;clear HC1 HC2 HC3 HC4 HNO HYES HX3 HW' HP HR HK HVx;go_wp2;exact bodyPost_ret (v:=.tuple #[sysV none 0 0 none 0 0 none 0 0 none 0 0,.bool false]) (by simp [results,results47,go_sem,r0,r1,r2,r3]) rfl ⟨_,by rw [HV.1],by rw [HV.2];exact qai.zero _ _ _,(((B1.1.setCell hM _).setCell hM _).setCell hM _).setCell hM _⟩
 | true=>
  have HWa:Hid (∀ wx,Bw w wx->Calls prog 92 #[.pointer (some ⟨X,0,none⟩)] wx fun e w'=>∃ v u,e=.returned (.tuple #[v,.bool wf])/\(wf=true->LT true w' (fun k=>wx.heap.size<=k/\k<w'.heap.size) v (y.atY d).wn u (y.atY d).wL (y.atY d).wH)/\Bw wx w'):=HW'.out rfl;have HC5:Hid (wf=true->y.Rpl d->R=true):=HC4.out rfl;clear HC1 HC4 HW';go_wp2_with fail
  refine (HWa.out w1 B1.1).mono ?_;rintro e w4 ⟨v4,u4,rfl,o4,q4⟩;have F4:Hid ((wf=true->LT true w4 (fun k=>w1.heap.size<=k/\k<w4.heap.size) v4 (y.atY d).wn u4 (y.atY d).wL (y.atY d).wH)/\Bw w1 w4):=⟨o4,q4⟩
  clear o4 q4 HWa;cases wf with
  | false=>
   have HV:Hid (R=false/\RS=y.nil):=⟨HC2.out rfl,HNO.out (HC2.out rfl)⟩
   obtain ⟨r0,r1,r2,r3⟩:=B1.2.1.below F4.2;have rf:∀ j,w4.frozen? ⟨w.heap.size,j,none⟩=false:=fun j=>((qag F4.2).2 _ j l1).trans (B1.2.2 j);have Q4:Hid (Bw w w4):=B1.1.trans (F4.2.mono B1.1.size);clear HC2 HC3 HC5 HNO HYES HX3 HP HR HK HVx F4;go_wp2;exact bodyPost_ret (v:=.tuple #[sysV none 0 0 none 0 0 none 0 0 none 0 0,.bool false]) (by simp [results,results47,go_sem,r0,r1,r2,r3]) rfl ⟨_,by rw [HV.1],by rw [HV.2];exact qai.zero _ _ _,(((Q4.setCell hM _).setCell hM _).setCell hM _).setCell hM _⟩
  | true=>
   have HC6:Hid (y.Rpl d->R=true):=HC5.out rfl;have O4:Hid (LT true w4 (fun k=>w1.heap.size<=k/\k<w4.heap.size) v4 (y.atY d).wn u4 (y.atY d).wL (y.atY d).wH/\Bw w1 w4):=⟨F4.1 rfl,F4.2⟩
   clear HC2 HC5 F4;obtain ⟨a4,c4,rfl⟩:=zU O4.1.row;go_wp2_with fail
   refine (HP.out w4 (B1.1.trans (O4.2.mono B1.1.size))).mono ?_;rintro e w5 ⟨v5,uu5,rfl,o5,q5⟩;obtain ⟨a5,c5,rfl⟩:=zU o5.row;obtain ⟨cl5,st5⟩:=AtP.start (z:=true) (B:=w1.heap.size) (y:=y.atY d) O4.1 o5 q5 (Nat.le_refl _) (Nat.le_refl _) O4.2.size;have F5:Hid (AtP true w1.heap.size w5.heap.size cl5 { y.atY d with sn:=0,hn:=0 } (w5.alloc (oQ4 a5 y.pn c5 none 0 0 a4 (y.atY d).wn c4 none 0 0)) (.slice a5 y.pn c5) nS (.slice a4 (y.atY d).wn c4) nS uu5 (fun _=>.slice none 0 0) u4 (fun _=>.slice none 0 0)/\Bw w1 (w5.alloc (oQ4 a5 y.pn c5 none 0 0 a4 (y.atY d).wn c4 none 0 0))):=⟨st5,(O4.2.trans (q5.mono O4.2.size)).trans ((zQ _ _).mono (zP O4.2.size q5.size))⟩
   clear o5 q5 st5 HP;go_upto_region 7 with fail
   clear O4;generalize w5.alloc (oQ4 a5 y.pn c5 none 0 0 a4 (y.atY d).wn c4 none 0 0)=W5 at *;generalize hNN:w5.heap.size=N at *;clear hNN w5;have HX4:Hid (∀ wx,Bw w1 wx->Bw w wx/\BoxC wx w.heap.size nS nS nS nS/\(∀ j,wx.frozen? ⟨w.heap.size,j,none⟩=false)/\w1.heap.size<=wx.heap.size):=fun wx hb=>⟨B1.1.trans (hb.mono B1.1.size),B1.2.1.below hb,fun j=>((qag hb).2 _ j l1).trans (B1.2.2 j),hb.size⟩
   have HL1:Hid (w.heap.size<w1.heap.size):=l1;clear B1 l1;have hn':(y.pn:Int)<=4:=by have:=HN.out;omega
   have hx0:=(HX3.out _ (HX4.out _ F5.2).1).1;go_wp2_with fail
   clear hx0
   go_loopw [34] (fun i wr=>∃ k:Nat,k<=y.pn/\i=.int .i64 k/\Hid ((∃ cl vs vh us uh,AtP true w1.heap.size N cl { y.atY d with sn:=k,hn:=k } wr (.slice a5 y.pn c5) vs (.slice a4 (y.atY d).wn c4) vh uu5 us u4 uh)/\Bw w1 wr)/\Hid (∀ p,p<k->(repO (y.pH p) (y.pL p) (y.hH p) (d p)).isSome=true)) (fun i _=>y.pn - (intOf i).toNat)
   case atStart=>exact ⟨0,Nat.zero_le _,rfl,⟨⟨_,_,_,_,_,F5.1⟩,F5.2⟩,fun p hp=>by omega⟩
   case round=>
    clear F5;obtain ⟨k,hk,rfl,HZ,HPs⟩:=hrel;by_cases hlt:k<y.pn
    ·have hlt':(k:Int)<(y.pn:Int):=by omega
     obtain ⟨hbw,-,-,hle3⟩:=HX4.out wr HZ.2;obtain ⟨-,hrw,hpw,-⟩:=HX3.out wr hbw;have RW:Hid (Bw w wr):=hbw;obtain ⟨be,oe,rfl,ce⟩:=hrw.row.at hlt;obtain ⟨bp,op,rfl,cp⟩:=hpw.at hlt;obtain ⟨⟨cl,vs,vh,us,uh,hA⟩,hbz⟩:=HZ.out;have AP:Hid (AtP true w1.heap.size N cl { y.atY d with sn:=k,hn:=k } wr (.slice a5 y.pn c5) vs (.slice a4 (y.atY d).wn c4) vh uu5 us u4 uh):=hA;have BZ:Hid (Bw w1 wr):=hbz;clear hA hbz HZ hle3 hbw hrw hpw;replace ce:wr.cell? ⟨be,oe+k,none⟩=some (.slice (eA k) (d k) (eC k)):=ce;go_wp2_with fail
     refine (HR.out wr RW.out k hlt).mono ?_;rintro e w6 ⟨v6,rfl,o6,q6⟩;obtain ⟨ra1,rc1,oa1,oc1,rfl,-,-⟩:=o6.read;clear ce cp;have S6:Hid (qae w6 wr.heap.size (stV ((y.atY d).sS k).p ra1 ((y.atY d).sS k).rs.length rc1 oa1 ((y.atY d).sS k).os.length oc1 ((y.atY d).sS k).c) ((y.atY d).sS k).p ((y.atY d).sS k).rs ((y.atY d).sS k).os ((y.atY d).sS k).c/\Bw wr w6):=⟨o6,q6⟩
     clear o6 q6;generalize hTT:(y.atY d).sS k=T at *;have HTT:Hid ((y.atY d).sS k=T):=hTT;clear hTT;generalize hrb:(repO (y.pH k) (y.pL k) (y.hH k) (d k)).isSome=rb at *;have HRB:Hid ((repO (y.pH k) (y.pL k) (y.hH k) (d k)).isSome=rb):=hrb;clear hrb;have N7:Hid (BoxC (w6.alloc (oQ1 T.p ra1 T.rs.length rc1 oa1 T.os.length oc1 T.c)) w6.heap.size (.int .i64 T.p) (.slice ra1 T.rs.length rc1) (.slice oa1 T.os.length oc1) (.int .i64 T.c)/\Bw wr (w6.alloc (oQ1 T.p ra1 T.rs.length rc1 oa1 T.os.length oc1 T.c))/\qae (w6.alloc (oQ1 T.p ra1 T.rs.length rc1 oa1 T.os.length oc1 T.c)) wr.heap.size (stV T.p ra1 T.rs.length rc1 oa1 T.os.length oc1 T.c) T.p T.rs T.os T.c):=⟨BoxC.new w6 _ _ _ _ _,S6.2.trans ((zQ _ _).mono S6.2.size),S6.1.below (zQ _ _)⟩
     go_upto_region 11 with fail
     clear S6;generalize w6.alloc (oQ1 T.p ra1 T.rs.length rc1 oa1 T.os.length oc1 T.c)=w7 at *;generalize hN7:w6.heap.size=S7 at *;clear hN7 w6;cases rb with
     | false=>
      have hnr:¬ y.Rpl d:=fun h=>by
       have h1:=h k hlt;rw [HRB.out] at h1;cases h1
      have HV:Hid (R=false/\RS=y.nil):=⟨HC3.out hnr,HNO.out (HC3.out hnr)⟩
      have Q7:Hid (Bw w1 w7):=BZ.trans (N7.2.1.mono BZ.size);obtain ⟨hb7,⟨r0,r1,r2,r3⟩,rf,-⟩:=HX4.out w7 Q7.out;have B7:Hid (Bw w w7):=hb7;clear hb7 hnr HC3 HC6 HNO HYES HX3 HX4 HR HK HVx AP BZ N7 RW HRB HTT HPs;go_wp2;exact bodyPost_ret (v:=.tuple #[sysV none 0 0 none 0 0 none 0 0 none 0 0,.bool false]) (by simp [results,results47,go_sem,r0,r1,r2,r3]) rfl ⟨_,by rw [HV.1],by rw [HV.2];exact qai.zero _ _ _,(((B7.setCell hM _).setCell hM _).setCell hM _).setCell hM _⟩
     | true=>
      have HPs':Hid (∀ p,p<k+1->(repO (y.pH p) (y.pL p) (y.hH p) (d p)).isSome=true):=fun p hp=>by
       by_cases e:p=k
       ·subst e
        exact HRB.out
       ·exact HPs.out p (by omega)
      clear HPs HRB;go_upto_region 13 with fail
      obtain ⟨sa,sc,rfl⟩:=zU AP.o.s.row;obtain ⟨ha,hc,rfl⟩:=zU AP.o.h.row;obtain ⟨x0,x1,x2,x3⟩:=(AP.below N7.2.1).bx;obtain ⟨s0,s1,s2,s3⟩:=N7.1;have hk2:Hid (k<=2000000):=by show k<=2000000;omega
      have lN7:N<w7.heap.size:=zJ _ _ x0;have lS7:S7<w7.heap.size:=zJ _ _ s0;go_upto_region 14 with (at_builtin;refine qap kndS w7 rfl rfl _ _ rfl 0 (.slice sa k sc) k _ rfl (AP.o.s.below N7.2.1).row #[.int .i64 T.p,.slice ra1 T.rs.length rc1,.slice oa1 T.os.length oc1,.int .i64 T.c] rfl rfl (by intro u hu;simp at hu;rcases hu with rfl | rfl | rfl | rfl <;> rfl) hk2.out (Nat.zero_le _) ?_;intro v8 w8 o8 g8 q8 n8;obtain ⟨a8,c8,rfl⟩:=zU o8;obtain ⟨⟨z0,z1,z2,z3⟩,zf⟩:=AP.box N7.2.1 g8 (fun k hk=>(AP.gS k hk).2);have F8:Hid (AtP true w1.heap.size N (rcol cl wr.heap.size 2) { y.atY d with sn:=k+1,hn:=k } (w8.setCell (aQ N 1) (.slice a8 (k+1) c8)) (.slice a5 y.pn c5) (.slice a8 (k+1) c8) (.slice a4 (y.atY d).wn c4) (.slice ha k hc) uu5 (fun j=>if j=k then stV T.p ra1 T.rs.length rc1 oa1 T.os.length oc1 T.c else us j) u4 uh/\Bw w1 (w8.setCell (aQ N 1) (.slice a8 (k+1) c8))):=⟨AP.state N7.2.1 (by rw [HTT.out];exact N7.2.2) o8 g8 q8,(Below.grown (BZ.trans (N7.2.1.mono BZ.size)) g8 (zP BZ.size N7.2.1.size) (fun j hj=>(AP.gS j hj).1)).setCell AP.bN _⟩;clear o8 g8 q8 n8)
      clear x0 x1 x2 x3 s0 s1 s2 s3 z0 z1 z2 z3 zf lN7 lS7 N7 AP;generalize w8.setCell (aQ N 1) (.slice a8 (k+1) c8)=w9 at *;clear w8;obtain ⟨x0,x1,x2,x3⟩:=F8.1.bx;have lN9:N<w9.heap.size:=F8.1.lt;have q0:Bw w9 w9.drew:=(Below.refl w9.heap.size w9).drew;obtain ⟨hbw,-⟩:=HX4.out w9.drew (F8.2.trans (q0.mono F8.2.size));refine qah (fun w'=>w'.cell? (aQ N 3)=some (.slice ha k hc)) (fun i=>i == 7) (by kernel_rfl) ?_;have hHeld:(fun w':World=>w'.cell? (aQ N 3)=some (.slice ha k hc)) w9.drew:=(q0.cell (p:=(aQ N 3)) lN9).trans x3;refine qax [0,1,2] ?_;iterate 3 (refine qa8 rfl hHeld ?_)
      refine qaq ?_;refine qab 3 rfl (by kernel_rfl) (fun K hK=>?_);refine qaf rfl 93 _ _ rfl #[.slice (eA k) (d k) (eC k)] (by simp [Act.eval]) (yB func93 (by kernel_rfl) rfl) (HK.out w9.drew hbw k hlt) ?_;rintro e w10 ⟨a10,c10,rfl,o10,n10,d10⟩;refine ⟨_,rfl,?_⟩;have Q10:Hid (Bw w9 w10/\w10.ownsRow w9.heap.size 83 3 (.slice a10 (d k) c10) (d k) (fE (y.hH k) (d k))/\Value.slice a10 (d k) c10≠nS):=⟨q0.trans (d10.mono q0.size),o10,n10⟩
      refine hK.out _ _ (fun _=>(Q10.1.cell (p:=(aQ N 3)) lN9).trans x3) ?_;clear hHeld hK K o10 n10 d10 hbw q0
      (try simp only [Act.put,zD,zE,zF])
      refine qab 4 rfl (by kernel_rfl) (fun K hK=>?_);go_simp;refine hK.out _ _ (fun _=>((Q10.1.trans ((zQ w10 _).mono Q10.1.size)).cell (p:=(aQ N 3)) lN9).trans x3) ?_;clear hK K
      (try simp only [Act.put,zD,zE,zF])
      refine qab 5 rfl (by kernel_rfl) (fun K hK=>?_);refine qa5 qjm w10 rfl rfl _ _ rfl 0 (.slice ha k hc) k _ rfl (F8.1.o.h.below Q10.1).row #[.slice a10 (d k) c10] rfl rfl (by intro u hu;simp at hu;subst hu;rfl) hk2.out (Nat.zero_le _) ?_;intro v11 w11 o11 g11 q11 n11;obtain ⟨a11,c11,rfl⟩:=zU o11;obtain ⟨⟨z0,z1,z2,z3⟩,zf⟩:=F8.1.box Q10.1 g11 (fun k hk=>(F8.1.gH k hk).2);have F9:Hid (AtP true w1.heap.size N (rcol (rcol cl wr.heap.size 2) w9.heap.size 4) { y.atY d with sn:=k+1,hn:=k+1 } (w11.setCell (aQ N 3) (.slice a11 (k+1) c11)) (.slice a5 y.pn c5) (.slice a8 (k+1) c8) (.slice a4 (y.atY d).wn c4) (.slice a11 (k+1) c11) uu5 (fun j=>if j=k then stV T.p ra1 T.rs.length rc1 oa1 T.os.length oc1 T.c else us j) u4 (fun j=>if j=k then .slice a10 (d k) c10 else uh j)/\Bw w1 (w11.setCell (aQ N 3) (.slice a11 (k+1) c11))):=⟨F8.1.hist Q10.1 Q10.2.1 Q10.2.2 o11 g11 q11,(Below.grown (F8.2.trans (Q10.1.mono F8.2.size)) g11 (zP F8.2.size Q10.1.size) (fun j hj=>(F8.1.gH j hj).1)).setCell F8.1.bN _⟩
      refine hK.out _ _ (fun _=>z3) ?_;clear o11 g11 q11 n11 hK K
      (try simp only [Act.put,zD,zE,zF])
      have hHeld:(fun w':World=>w'.cell? (aQ N 3)=some (.slice ha k hc)) w11:=z3;refine qbk 6 rfl hHeld ?_;refine qab 7 rfl (by kernel_rfl) (fun K hK=>?_);have hfN1:=zf 3;go_simp;refine hK.out _ _ (fun h=>?_) ?_
      ·exact absurd h (by decide)
      clear hK K z0 z1 z2 z3 zf hfN1 x0 x1 x2 x3 Q10 F8 lN9
      (try simp only [Act.put])
      refine qan (by kernel_rfl) ?_ _;go_wp2;go_roundw
      case rel=>exact ⟨k+1,by omega,by go_num,⟨⟨_,_,_,_,_,F9.1⟩,F9.2⟩,HPs'.out⟩
      case measure=>simp [intOf];omega
    ·have hkn:k=y.pn:=by omega
     subst hkn;have hlt':¬ (y.pn:Int)<(y.pn:Int):=by omega
     have hr1:R=true:=HC6.out fun p hp=>HPs.out p hp;have HV:Hid (R=true/\RS=y.atY d):=⟨hr1,HYES.out hr1⟩
     obtain ⟨⟨cl,vs,vh,us,uh,hA⟩,hbz⟩:=HZ.out;obtain ⟨sa,sc,rfl⟩:=zU hA.o.s.row;obtain ⟨ha,hc,rfl⟩:=zU hA.o.h.row;obtain ⟨x0,x1,x2,x3⟩:=hA.bx;obtain ⟨hbw,⟨r0,r1,r2,r3⟩,rf,hle3⟩:=HX4.out wr hbz;have OS:Hid (qai true wr w1.heap.size (y.atY d) (.agg #[.slice a5 y.pn c5,.slice sa y.pn sc,.slice a4 (y.atY d).wn c4,.slice ha y.pn hc])):=⟨_,_,_,_,_,_,_,_,_,rfl,hA.o⟩
     have BW:Hid (Bw w wr/\w.heap.size<=w1.heap.size):=⟨hbw,by have:=HL1.out;omega⟩
     have lN:N<wr.heap.size:=hA.lt;have hNr:w1.heap.size<=N:=hA.bN;have l1:=HL1.out;have hl1:w.heap.size<wr.heap.size:=by omega
     clear hA HZ hbw hbz HX3 HX4 hr1 HC3 HC6 HNO HYES HPs;go_wp2
     exact bodyPost_ret (v := .tuple #[.agg #[.slice a5 y.pn c5, .slice sa y.pn sc, .slice a4 (y.atY d).wn c4, .slice ha y.pn hc], .bool true]) (by simp [results, results47, go_sem, r0, r1, r2, r3]) rfl ⟨_, by rw [HV.1], by
      rw [HV.2]
      exact ((((OS.setBelow l1 0 _).setBelow l1 1 _).setBelow l1 2 _).setBelow l1 3 _).base BW.2,(((BW.1.setCell hM _).setCell hM _).setCell hM _).setCell hM _⟩
theorem qpv (x:SysIn) (w:World) (hG:SysG w x) (hL:x.Len):
  Calls prog 21 #[x.v] w fun e w'=>∃ u,e=.returned u/\OwnI w' w.heap.size u (flT x.y x.hn)/\Bw w w':=by
 have HG:Hid (SysG w x):=hG;have hl':(x.hn:Int)<=1048576:=by have:=hL.h.1;omega
 have HLh:Hid (∀ i,i<x.hn->x.hL i<=1048576):=hL.h.2;have BW:Hid (Bw w ((w.alloc (x.oX)).alloc (.cells #[] 3))):=(zT _ _).trans ((zT _ _).mono (by simp));have NB:Hid (x.bX ((w.alloc (x.oX)).alloc (.cells #[] 3)) w.heap.size):=(BoxC.new w _ _ _ _ _).below (zT _ _);have NO:Hid (OwnI ((w.alloc (x.oX)).alloc (.cells #[] 3)) (w.heap.size+1) (.slice (some ⟨w.heap.size+1,0,none⟩) 0 0) (flT x.y 0)):=qey (w.alloc (x.oX)) (by simp)
 have LT:Hid (w.heap.size+1<=((w.alloc (x.oX)).alloc (.cells #[] 3)).heap.size):=by
  show _<=_;simp
 clear hG hL
 go_enter func21,ntmps21
 go_wp2_with fail
 generalize (w.alloc (x.oX)).alloc (.cells #[] 3)=W2 at *
 go_loopw [3,4] (fun o i wr=>∃ k:Nat,k<=x.hn/\i=.int .i64 k/\Hid (OwnI wr (w.heap.size+1) o (flT x.y k)/\Bw w wr/\x.bX wr w.heap.size/\w.heap.size+1<=wr.heap.size)) (fun _ i _=>x.hn - (intOf i).toNat)
 case atStart=>exact ⟨0,Nat.zero_le _,rfl,NO.out,BW.out,NB.out,LT.out⟩
 case round=>
  clear BW NB NO LT;obtain ⟨k,hk,rfl,HB⟩:=hrel;by_cases hlt:k<x.hn
  ·have hlt':(k:Int)<(x.hn:Int):=by omega
   obtain ⟨bh,oh,eh,ch⟩:=(HG.below HB.2.1).h.at hlt;have b3:=HB.2.2.1.2.2.2;rw [eh] at b3;clear eh;have hfl:=qci x.y k;have hlk:(x.hL k:Int)<=1048576:=by have:=HLh.out k hlt;omega
   have HF:Hid (flT x.y (k+1)=flT x.y k ++ [(x.hL k:Int)]):=qn1 x.y k;have HFl:Hid ((flT x.y k).length<=1048576):=by show _<=_;omega
   clear hfl;go_wp2_with (at_builtin;refine qdi wr rfl _ _ rfl (w.heap.size+1) u3 (flT x.y k) rfl HB.1 (x.hL k:Int) rfl HFl.out HB.2.2.2 ?_;intro v' w4 o4 b4;have H4:Hid (OwnI w4 (w.heap.size+1) v' (flT x.y (k+1))/\Bw w w4/\x.bX w4 w.heap.size/\w.heap.size+1<=w4.heap.size):=⟨o4.to HF.out,HB.2.1.trans (b4.mono (by omega)),HB.2.2.1.belowB b4 (by omega),zP HB.2.2.2 b4.size⟩;clear o4 b4)
   go_roundw
   case rel=>exact ⟨k+1,by omega,by go_num,H4.out⟩
   case measure=>simp [intOf];omega
  ·have hkl:k=x.hn:=by omega
   have H4:Hid (OwnI wr w.heap.size u3 (flT x.y x.hn)/\Bw w wr):=by
    have:=HB.out;rw [hkl] at this;exact ⟨this.1.mono (by omega),this.2.1⟩
   have b3:=HB.2.2.1.2.2.2;clear HB hkl;go_wp2;go_ret;exact ⟨_,rfl,H4.out⟩
open Go.Shelf
def gnL (n:Nat) (d:Nat->Nat):(k:Nat)->k<=n->List (Fin n × Nat)
 | 0,_=>[]
 | k+1,h=>if 0<d k then gnL n d k (Nat.le_of_succ_le h) ++ [(⟨k,h⟩,d k)] else gnL n d k (Nat.le_of_succ_le h)
theorem qq2 (n:Nat) (d:Nat->Nat):∀ (k:Nat) (h:k<=n),(gnL n d k h).length<=k
 | 0,_=>Nat.le_refl _
 | k+1,h=>by
  have:=qq2 n d k (Nat.le_of_succ_le h);rw [gnL]
  split
  ·simp;omega
  ·omega
theorem qmp {n:Nat} {d:Nat->Nat} {k:Nat} (h:k<n) (hd:0<d k):gnL n d (k+1) h=gnL n d k (Nat.le_of_lt h) ++ [(⟨k,h⟩,d k)]:=by rw [gnL,if_pos hd]
theorem qn3 {n:Nat} {d:Nat->Nat} {k:Nat} (h:k<n) (hd:¬ 0<d k):gnL n d (k+1) h=gnL n d k (Nat.le_of_lt h):=by rw [gnL,if_neg hd]
structure Kq (m c:Nat) (W W':World):Prop where
 lo:Below c W W'
 hi:∀ b,c<b->b<m->W'.heap[b]? = W.heap[b]?
theorem Kq.refl (m c:Nat) (W:World):Kq m c W W:=⟨Below.refl _ _,fun _ _ _=>rfl⟩
theorem Kq.trans {m c:Nat} {A B C:World} (h:Kq m c A B) (k:Kq m c B C):Kq m c A C:=⟨h.lo.trans k.lo,fun b h1 h2=>(k.hi b h1 h2).trans (h.hi b h1 h2)⟩
theorem Kq.of {m c:Nat} {A B:World} (h:Bw A B) (hm:m<=A.heap.size) (hc:c<=m):Kq m c A B:=⟨h.mono (zP hc hm),fun b _ h1=>h.block b (zL h1 hm)⟩
theorem Kq.b {m c:Nat} {w:World} (hm:m<=w.heap.size) (hc:c<=m) (W:World) (l:Nat) (o o':Obj) (hl:w.heap.size<=l) (h:W.heap[l]? = some o) (h1:o.isCells=false) (h2:o.isWalk=false):Kq m c W (W.putObj l o'):=
 ⟨belowK_b (zP hc hm) W l o o' hl h h1 h2,fun b _ hb=>(belowK_b hm W l o o' hl h h1 h2).block b hb⟩
theorem Al.ex (g h:Nat->E3):∀ m:Nat,∃ r,Al g h m r
 | 0=>⟨0,Nat.le_refl _,fun _ hi=>absurd hi (Nat.not_lt_zero _),fun h=>absurd h (Nat.not_lt_zero _)⟩
 | m+1=>by
  obtain ⟨r,a⟩:=Al.ex g h m;by_cases hr:r<m
  ·exact ⟨r,by omega,a.eq,fun _=>a.ne hr⟩
  ·obtain rfl:r=m:=by have:=a.le;omega
   by_cases e:g r=h r
   ·exact ⟨r + 1, Nat.le_refl _, fun i hi => by
     by_cases e':i=r
     ·rw [e'];exact e
     ·exact a.eq i (by omega),fun h'=>absurd h' (Nat.lt_irrefl _)⟩
   ·exact ⟨r,by omega,a.eq,fun _=>e⟩
structure Hv where
 a:Option Addr
 n:Nat
 c:Nat
 A:Nat->Option Addr
 L:Nat->Nat
 C:Nat->Nat
 g:Nat->Nat->E3
structure Hv.In (h:Hv) (W:World) (B:Nat):Prop where
 b:W.cell? (aQ B 3)=some (.slice h.a h.n h.c)
 r:RowS W h.a h.n fun i=>.slice (h.A i) (h.L i) (h.C i)
 e:∀ i,i<h.n->EvL W (h.A i) (h.L i) (h.g i)
theorem qtc (dp:Nat) (hdp:1<=dp) (l Bs Bo m c:Nat) (x y:Hv) (hxy:x.n<=y.n) (hn:x.n<=1048576) (hl:∀ i,i<x.n->x.L i<=1048576/\y.L i<=1048576) (d:Nat->Nat)
  (hd:∀ i,i<x.n->∀ r,Al (x.g i) (y.g i) (min (x.L i) (y.L i)) r->x.L i - r=d i) (W:World) (hm:m<=W.heap.size) (hcm:c<=m) (hF:∀ W',Kq m c W W'->x.In W' Bs/\y.In W' Bo)
  (J Jx:List (Fin x.n × Nat)->World->Prop) (hJ:AbidesFrom W.heap.size J)
  (hY : ∀ pre z W1, J pre W1 → pre.length < x.n → YieldAt Fence.wide (dp - 1) prog l #[.int .i64 (z.1.val : Nat), .int .i64 (z.2 : Nat)] W1 fun e W' =>
   (e=.returned (.bool true)/\J (pre ++ [z]) W'/\Kq m c W1 W')\/(e=.returned (.bool false)/\Jx (pre ++ [z]) W'))
  (h0:J [] W):
  CallsIn Fence.wide dp prog 76 #[.func (.yield l) #[] #[],.pointer (some (aQ Bs 0)),.pointer (some (aQ Bo 0))] W fun e W'=>(∃ v,e=.returned v)/\
   ((∃ ys,ys=gnL x.n d x.n (Nat.le_refl _)/\J ys W')\/(∃ pre,(∃ k,∃ h:k<x.n,0<d k/\pre=gnL x.n d (k+1) h)/\Jx pre W')):=by
 obtain ⟨xa,xn,xc,xA,xL,xC,xg⟩:=x;obtain ⟨ya,yn,yc,yA,yL,yC,yg⟩:=y;dsimp only at *;have HF:Hid (∀ W',Kq m c W W'->Hv.In ⟨xa,xn,xc,xA,xL,xC,xg⟩ W' Bs/\Hv.In ⟨ya,yn,yc,yA,yL,yC,yg⟩ W' Bo):=hF;have bs:=(hF W (Kq.refl _ _ _)).1.b;have HD:Hid (∀ i,i<xn->∀ r,Al (xg i) (yg i) (min (xL i) (yL i)) r->xL i - r=d i):=hd;have hn':(xn:Int)<=1048576:=by omega
 clear hF hd;refine callsIn_of_wp func76 rfl trivial ?_ rfl;simp only [ntmps76,List.size_toArray,List.length_cons,List.length_nil,Nat.reduceAdd,Nat.reduceSub,Array.replicate_succ,Array.replicate_zero,List.push_toArray,List.append_toArray,List.nil_append,List.cons_append]
 gi_wp2
 gi_loopw [10] (fun i wr=>∃ k:Nat,∃ h:k<=xn,i=.int .i64 k/\J (gnL xn d k h) wr/\Kq m c W wr) (fun i _=>xn - (intOf i).toNat)
 case atStart=>exact ⟨0,Nat.zero_le _,rfl,h0,Kq.refl _ _ _⟩
 case round=>
  obtain ⟨k,hk,rfl,hJs,hq⟩:=hrel;by_cases hlt:k<xn
  ·have hlt':(k:Int)<(xn:Int):=by omega
   obtain ⟨hxI,hyI⟩:=HF.out wr hq;obtain ⟨b,o,eb,cb⟩:=hxI.r.at hlt;obtain ⟨b',o',eb',cb'⟩:=hyI.r.at (zL hlt hxy);have hex:=hxI.e k hlt;have hey:=hyI.e k (zL hlt hxy);have bo:=hyI.b;dsimp only at eb eb' cb cb' hex hey bo;subst eb eb';have hly:(k:Int)<(yn:Int):=by omega
   obtain ⟨hl1,hl2⟩:=hl k hlt
   have HA:Hid (Calls prog 77 #[.slice (xA k) (xL k) (xC k),.slice (yA k) (yL k) (yC k)] wr fun e w'=>∃ r:Nat,e=.returned (.int .i64 r)/\(xL k:Int) - (r:Int)=(d k:Int)/\Bw wr w'):=
    (qqg (xA k) (yA k) (xL k) (yL k) (xC k) (yC k) (xg k) (yg k) wr hl1 hl2 hex hey).mono fun e w' ⟨r,e1,a1,b1⟩=>⟨r,e1,by have h1:=HD.out k hlt r a1;have h2:=a1.le;omega,b1⟩
   have hdl:d k<=xL k:=by
    obtain ⟨r,hr⟩:=Al.ex (xg k) (yg k) (min (xL k) (yL k));have:=HD.out k hlt r hr;omega
   have hdk:(d k:Int)<=1048576:=by omega
   have BQ:∀ w1,Bw wr w1->J (gnL xn d k hk) w1/\Kq m c W w1:=fun w1 b1=>⟨hJ _ _ _ none hJs (zZ b1) (fun r e=>by cases e),hq.trans (Kq.of b1 (zP hm hq.lo.size) hcm)⟩
   clear hxI hyI hex hey hl1 hl2 hl hJs;by_cases hp:0<d k
   ·have hp':(0:Int)<(d k:Int):=by omega
    gi_wp2_with (refine ⟨trivial,?_⟩;gi_at_call 77;refine (callsIn_wide.2 HA.out).mono ?_;clear HA;rintro e w1 ⟨r,rfl,hr,b1⟩;obtain ⟨fn,tmps,assign,body,hy,hR⟩:=hY (gnL xn d k hk) (⟨k,hlt⟩,d k) w1 (BQ w1 b1).1 (Nat.lt_of_le_of_lt (qq2 _ _ _ _) hlt);dsimp only at hy)
    refine hR.mono ?_;rintro e W3 (⟨rfl,hJ3,hk3⟩ | ⟨rfl,hJx3⟩)
    ·gi_wp2
     go_roundw
     case rel=>exact ⟨k+1,hlt,by go_num,by rw [qmp hlt hp];exact hJ3,(BQ w1 b1).2.trans hk3⟩
     case measure=>simp [intOf];omega
    ·gi_wp2
     refine bodyPost_ret (results_none rfl _ _ _) rfl ?_;exact ⟨⟨_,rfl⟩,.inr ⟨_,⟨k,hlt,hp,(qmp hlt hp).symm⟩,hJx3⟩⟩
   ·have hp':(d k:Int)=0:=by omega
    gi_wp2_with (refine ⟨trivial,?_⟩;gi_at_call 77;refine (callsIn_wide.2 HA.out).mono ?_;clear HA;rintro e w1 ⟨r,rfl,hr,b1⟩)
    refine ⟨fun _ h=>(by cases h),?_⟩
    gi_wp2
    go_roundw
    case rel=>exact ⟨k+1,hlt,by go_num,by rw [qn3 hlt hp];exact (BQ w1 b1).1,(BQ w1 b1).2⟩
    case measure=>simp [intOf];omega
  ·obtain rfl:k=xn:=by omega
   gi_wp2
   go_end0
   exact ⟨⟨_,rfl⟩,.inl ⟨_,rfl,hJs⟩⟩
theorem Tryz.et : prog.globalNamed "errors.errorType" = some 0 := by kernel_rfl
theorem Tryz.rt : (prog.cutTypes.find? (·.1 == "internal/reflectlite.rtype")).map (·.2) = some 195 := by kernel_rfl
theorem Tryz.oneRow:((List.range 257).filter fun t=>prog.rowNamed t [101,114,114,111,114])=[132]:=by kernel_rfl
theorem Tryz.tsize:prog.types.size=257:=by kernel_rfl
theorem qif {W : World} (h : laidMetH prog [("errors.errorType", Rows.laid_errors_errorType)] W) : W.cell? (aQ 0 0) = some vT := by
 have h' : laidMet prog [] W /\ handlesMet prog [("errors.errorType", Rows.laid_errors_errorType)] W := h
 obtain ⟨name,u,ty,e1,e2,e3,e4,e5⟩:=h'.2 _ (List.mem_singleton.2 rfl);have en:name=[101,114,114,111,114]:=(Option.some.inj e1).symm;subst en;obtain rfl:=Option.some.inj (Tryz.rt.symm.trans e2);have hm:ty ∈ (List.range 257).filter fun t=>prog.rowNamed t [101,114,114,111,114]:=List.mem_filter.2 ⟨List.mem_range.2 (by rw [<- Tryz.tsize];exact e3),e4⟩;rw [Tryz.oneRow] at hm;obtain rfl:=List.mem_singleton.1 hm;have hh:typeHandle prog 132=.pointer (some (aQ 1 132)):=by kernel_rfl
 rw [hh] at e5;simpa using World.var?_cell Tryz.et e5 0
noncomputable def qlf (os:Os):World:=
 let w0:=World.holding prog os ⟨#[],#[],[]⟩
 { w0 with heap := w0.heap.modify 0 fun
   | .cells _ t frozen=>.cells #[.iface 195 (.agg #[.pointer (some (aQ 1 132))])] t frozen
   | o=>o }
theorem qjt (os : Os) (args : Array Value) : laidMetH prog [("errors.errorType", Rows.laid_errors_errorType)] ((qlf os).forCall (fun _ _ => 0) ⟨#[], args, []⟩).memory :=
 laidMetH_of_parts (laidMet_nil _ _) (by kernel_rfl)
