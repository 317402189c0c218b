import Derived.Test.YtcplnkhdclcgfaaGreatDoorUf0
import Derived.Test.YtcplnkhdclcgfaaGreatDoorUf23
import Derived.Test.YtcplnkhdclcgfaaGreatDoorUf22
import Derived.Test.YtcplnkhdclcgfaaGreatDoorUf16
import Derived.Test.YtcplnkhdclcgfaaGreatDoorUf21
import Derived.Test.YtcplnkhdclcgfaaGreatDoorUf7
import Derived.Deep.RegionHeld3
import Derived.Deep.RegionWith
import Derived.Deep.RegionLaw
import Derived.Deep.CutRange
namespace Go.Proofs.YtcplnkhdclcgfaaGreatDoor
set_option maxRecDepth 100000
set_option maxHeartbeats 4000000
open Go.RowKit Go.Sort
def repO (g:Nat->I5) (n:Nat) (eh:Nat->E3) (m:Nat):Option S4:=if progOkB g n 4=true/\m<=200 then rp g n eh m else none
theorem specReplay_l (gb n gc:Nat) (ea:Option Addr) (m ec:Nat) (g:Nat->I5) (eh:Nat->E3) (w:World) (hn:n<=maxLen) (hg:gb<w.heap.size) (hI:InsAt w gb 0 n g) (hE:EvL w ea m eh) (hm:m<=1048576):
  Calls Tryz.prog 113 #[.slice (some ⟨gb,0,none⟩) n gc,.slice ea m ec] w (DoneR w (resS (repO g n eh m)) (repO g n eh m).isSome):=by
 have HI:Hid (InsAt w gb 0 n g):=hI
 have HE:Hid (EvL w ea m eh):=hE
 have HL:Hid (n<=maxLen):=hn
 have hm':(m:Int)<=1048576:=by omega
 clear hI hE hn
 have bA:=zT w (zQ0)
 have BA:Hid (Below w.heap.size w (w.alloc (zQ0))):=bA
 have NB:Hid (BoxC (w.alloc (zQ0)) w.heap.size (.int .i64 0) (.slice none 0 0) (.slice none 0 0) (.int .i64 0)/\∀ j,(w.alloc (zQ0)).frozen? ⟨w.heap.size,j,none⟩=false):=⟨BoxC.new w _ _ _ _ _,fun j=>yD _ _ _ j rfl⟩
 clear bA
 go_enter Tryz.func113,Tryz.ntmps113
 go_wp2_with fail
 have hz:(w.alloc (zQ0)).heap.size=w.heap.size+1:=by simp
 generalize w.alloc (zQ0)=wa at *
 refine (specProgOk_any gb 0 n gc g 4 wa HL.out (zL hg BA.out.size) (HI.out.below BA.out hg)).mono ?_
 rintro e w1 ⟨rfl,b1⟩
 have zR:w.heap.size<w1.heap.size:=by have:=b1.size;omega
 have N1:Hid (BoxC w1 w.heap.size (.int .i64 0) (.slice none 0 0) (.slice none 0 0) (.int .i64 0)/\∀ j,w1.frozen? ⟨w.heap.size,j,none⟩=false):=⟨NB.out.1.below b1,fun j=>(zI (b1.block w.heap.size (by omega))).trans (NB.out.2 j)⟩
 have B1:Hid (Below w.heap.size w w1):=BA.out.trans (b1.mono BA.out.size)
 clear b1 NB BA hz
 obtain ⟨⟨r0,r1,r2,r3⟩,rf⟩:=N1.out
 have hput:∀ (a b c d:Value),Below w.heap.size w ((((w1.setCell ⟨w.heap.size,0,none⟩ a).setCell ⟨w.heap.size,1,none⟩ b).setCell ⟨w.heap.size,2,none⟩ c).setCell ⟨w.heap.size,3,none⟩ d):=fun a b c d=>(((B1.out.setCell (Nat.le_refl _) _).setCell (Nat.le_refl _) _).setCell (Nat.le_refl _) _).setCell (Nat.le_refl _) _
 have HPut:Hid (∀ (a b c d:Value),Below w.heap.size w ((((w1.setCell ⟨w.heap.size,0,none⟩ a).setCell ⟨w.heap.size,1,none⟩ b).setCell ⟨w.heap.size,2,none⟩ c).setCell ⟨w.heap.size,3,none⟩ d)):=hput
 clear hput
 rcases zK (progOkB g n 4) with tp | tp
 ·by_cases h2:m<=200
  ·have h2':¬ (200:Int)<(m:Int):=by omega
   have HO:Hid (repO g n eh m=rp g n eh m):=by
    show repO g n eh m=rp g n eh m
    unfold repO
    rw [if_pos ⟨tp,h2⟩]
   have HP:Hid (progOkB g n 4=true):=tp
   go_wp2_with fail
   refine (l3Replay_l gb n gc ea m ec g eh w1 (zL hg B1.out.size) (HI.out.below B1.out hg) (HE.out.below B1.out) hm HP.out).mono ?_
   rintro e w2 hd
   rw [<- HO.out] at hd
   generalize repO g n eh m=O at *
   obtain ⟨v2,rfl,o2,b2⟩:=hd
   obtain ⟨ra2,rc2,oa2,oc2,rfl,-,-⟩:=o2.read
   have eR:=b2.block w.heap.size zR
   have q0:=(zH eR).trans r0
   have q1:=(zH eR).trans r1
   have q2:=(zH eR).trans r2
   have q3:=(zH eR).trans r3
   have qf:∀ j,w2.frozen? ⟨w.heap.size,j,none⟩=false:=fun j=>(zI eR).trans (rf j)
   have B2:Hid (Below w.heap.size w w2):=B1.out.trans (b2.mono B1.out.size)
   have O2:Hid (StOwn w2 w1.heap.size (stV (resS O).p ra2 (resS O).rs.length rc2 oa2 (resS O).os.length oc2 (resS O).c) (resS O).p (resS O).rs (resS O).os (resS O).c):=o2
   clear o2 b2 eR r0 r1 r2 r3 rf
   go_wp2
   refine bodyPost_ret (v:=.tuple #[stV (resS O).p ra2 (resS O).rs.length rc2 oa2 (resS O).os.length oc2 (resS O).c,.bool O.isSome]) (by simp [results,Tryz.results113,go_sem,q0,q1,q2,q3]) rfl ⟨_,rfl,?_,?_⟩
   ·exact O2.out.put4 zR (by omega)
   ·exact (((B2.out.setCell (Nat.le_refl _) _).setCell (Nat.le_refl _) _).setCell (Nat.le_refl _) _).setCell (Nat.le_refl _) _
  ·have h2':(200:Int)<(m:Int):=by omega
   have HO:Hid (repO g n eh m=none):=by
    show repO g n eh m=none
    unfold repO
    rw [if_neg (by omega)]
   go_wp2
   refine bodyPost_ret (v:=.tuple #[stV 0 none 0 0 none 0 0 0,.bool false]) (by simp [results,Tryz.results113,go_sem,r0,r1,r2,r3]) rfl ?_
   rw [HO.out]
   exact ⟨_,rfl,StOwn.nil _ _,HPut.out _ _ _ _⟩
 ·have HO:Hid (repO g n eh m=none):=by
   show repO g n eh m=none
   unfold repO
   rw [if_neg (by rw [tp];simp)]
  go_wp2
  refine bodyPost_ret (v:=.tuple #[stV 0 none 0 0 none 0 0 0,.bool false]) (by simp [results,Tryz.results113,go_sem,r0,r1,r2,r3]) rfl ?_
  rw [HO.out]
  exact ⟨_,rfl,StOwn.nil _ _,HPut.out _ _ _ _⟩
theorem repO_len (g:Nat->I5) (n:Nat) (eh:Nat->E3) (m:Nat):(resS (repO g n eh m)).rs.length<=1048576/\(resS (repO g n eh m)).os.length<=1048576:=by
 unfold repO
 split
 ·rename_i h
  have hk:∀ k S,rp g n eh k=some S->OkS n S:=by
   intro k
   induction k with
   | zero=>
    intro S hS
    simp only [rp,Option.some.injEq] at hS
    rw [<- hS]
    exact newS_ok h.1
   | succ k ih=>
    intro S hS
    simp only [rp] at hS
    cases hr:rp g n eh k with
    | none=>rw [hr] at hS;cases hS
    | some S0=>
     rw [hr] at hS
     simp only [Option.bind_some,rpStep] at hS
     split at hS
     ·rename_i hd
      simp only [Option.some.injEq] at hS
      rw [<- hS]
      exact doS_ok hd
     ·cases hS
  cases hr:rp g n eh m with
  | none=>simp [resS]
  | some S=>
   have:=OkS.len (hk m S hr)
   simp only [resS,Option.getD_some]
   omega
 ·simp [resS]
open Go.ChangeShapes Go.WideShapes Go.ChangeAt Go.Deep
structure Sy where
 pn:Nat
 pL:Nat->Nat
 pH:Nat->Nat->I5
 sn:Nat
 sS:Nat->S4
 wn:Nat
 wL:Nat->Nat
 wH:Nat->Nat->I2
 hn:Nat
 hL:Nat->Nat
 hH:Nat->Nat->E3
def SysIn.y (x:SysIn):Sy:=⟨x.pn,x.pL,x.pH,x.sn,x.sS,x.wn,x.wL,x.wH,x.hn,x.hL,x.hH⟩
def Sy.hs (y:Sy):Hs:=⟨y.pn,y.hL,y.hH⟩
def itemB (x:I2):Bool:=numB x.v && (!x.m || x.v == 0)
structure WayP (h:Nat->I2) (len:Nat) (took sent:List Int):Prop where
 it:∀ i,i<len->itemB (h i)=true
 le:len<=12
 eq:took ++ numL h len=sent
structure Sy.Ok (y:Sy):Prop where
 cn:(1<=y.pn/\y.pn<=4)/\y.sn=y.pn/\y.hn=y.pn/\y.wn=y.pn*y.pn
 pr:∀ p,p<y.pn->progOkB (y.pH p) (y.pL p) y.pn=true
 rp:∀ p,p<y.pn->repO (y.pH p) (y.pL p) (y.hH p) (y.hL p)=some (y.sS p)
 pe:∀ p,p<y.pn->∀ i,i<y.hL p->(y.hH p i).q<(y.pn:Int)
 wa:∀ a,a<y.pn->∀ b,b<y.pn->WayP (y.wH (a*y.pn+b)) (y.wL (a*y.pn+b)) (valL (y.hH b) 3 a (y.hL b)) (valL (y.hH a) 2 b (y.hL a))
 ro:y.hs.Row
noncomputable def Sy.okB (y:Sy):Bool:=@decide y.Ok (Classical.propDecidable _)
theorem Sy.okB_true {y:Sy} (h:y.Ok):y.okB=true:=by simp [Sy.okB,h]
theorem Sy.okB_false {y:Sy} (h:¬ y.Ok):y.okB=false:=by simp [Sy.okB,h]
theorem Sy.ok_of {y:Sy} (h:y.okB=true):y.Ok:=by simpa [Sy.okB] using h
theorem evP_pos {g:Nat->I5} {len:Nat} {k:Nat} (h:progOkB g len 4=true) (hk:k<len):0<=evP (g k).o (g k).n:=by
 have h5:=right_ins h hk
 simp only [insOkB,Bool.and_eq_true] at h5
 have h6:=h5.2
 unfold evP
 by_cases e6:(g k).o=6
 ·rw [if_pos e6]
  simp [opOkB,e6,inB] at h6
  omega
 ·rw [if_neg e6]
  by_cases e7:(g k).o=7
  ·rw [if_pos e7]
   simp [opOkB,e7,inB] at h6
   omega
  ·rw [if_neg e7]
   exact Int.le_refl _
theorem doB_peer {g:Nat->I5} {len:Nat} {p:Int} {rs os:List Int} {code k q v:Int} (h:doB g len p rs os code k q v=true):0<=q:=by
 have hr:=doB_right h
 obtain ⟨h1,h2,-⟩:=right_parts hr
 obtain ⟨-,⟨j,rfl,hj⟩,-⟩:=st_parts h2
 have hp:=evP_pos h1 hj
 simp only [doB,canB,nxP,if_pos hr,Int.toNat_natCast] at h
 split at h
 ·simp only [Bool.and_eq_true] at h
  have h3:=h.2
  split at h3
  ·simp only [belB,decide_eq_true_eq] at h3
   omega
  ·simp only [beq_iff_eq] at h3
   omega
 ·simp only [Bool.and_eq_true,beq_iff_eq] at h
  have:=h.2.2.1
  omega
theorem rp_peer {g:Nat->I5} {len:Nat} {eh:Nat->E3}:∀ {k:Nat} {S:S4},rp g len eh k=some S->∀ i,i<k->0<=(eh i).q
 | 0,_,_,i,hi=>by omega
 | k+1,S,h,i,hi=>by
  simp only [rp] at h
  cases hr:rp g len eh k with
  | none=>rw [hr] at h;cases h
  | some S0=>
   rw [hr] at h
   simp only [Option.bind_some,rpStep] at h
   split at h
   ·rename_i hd
    by_cases e:i=k
    ·subst e
     exact doB_peer hd
    ·exact rp_peer hr i (by omega)
   ·cases h
theorem repO_some {g:Nat->I5} {n:Nat} {eh:Nat->E3} {m:Nat} {S:S4} (h:repO g n eh m=some S):progOkB g n 4=true/\m<=200/\rp g n eh m=some S:=by
 unfold repO at h
 split at h
 ·rename_i hc
  exact ⟨hc.1,hc.2,h⟩
 ·cases h
structure SysG (W:World) (x:SysIn):Prop where
 p:RowS W x.pa x.pn fun i=>.slice (x.pA i) (x.pL i) (x.pC i)
 pi:∀ i,i<x.pn->∃ b,x.pA i=some ⟨b,0,none⟩/\b<W.heap.size/\InsAt W b 0 (x.pL i) (x.pH i)
 s:AllState W x.sa x.sn x.sQ
 w:RowS W x.wa x.wn fun i=>.slice (x.wA i) (x.wL i) (x.wC i)
 wi:∀ i,i<x.wn->ItL W (x.wA i) (x.wL i) (x.wH i)
 h:RowS W x.ha x.hn fun i=>.slice (x.hA i) (x.hL i) (x.hC i)
 hi:∀ i,i<x.hn->EvL W (x.hA i) (x.hL i) (x.hH i)
theorem SysG.below {w w':World} {x:SysIn} (o:SysG w x) (hb:Below w.heap.size w w'):SysG w' x:=
 ⟨o.p.below hb, fun i hi => by
  obtain ⟨b,e,hlt,hI⟩:=o.pi i hi
  exact ⟨b,e,zL hlt hb.size,hI.below hb hlt⟩,o.s.below hb,o.w.below hb,fun i hi=>(o.wi i hi).below hb,o.h.below hb,fun i hi=>(o.hi i hi).below hb⟩
structure SysIn.Len (x:SysIn):Prop where
 p:x.pn<=1048576/\∀ i,i<x.pn->x.pL i<=1048576
 s:x.sn<=1048576/\∀ i,i<x.sn->(x.sQ i).rs.length<=1048576/\(x.sQ i).os.length<=1048576
 w:x.wn<=1048576/\∀ i,i<x.wn->x.wL i<=1048576
 h:x.hn<=1048576/\∀ i,i<x.hn->x.hL i<=1048576
abbrev SysIn.v (x:SysIn):Value:=sysV x.pa x.pn x.pc x.sa x.sn x.sc x.wa x.wn x.wc x.ha x.hn x.hc
theorem plN_get (eh:Nat->E3) (kd pr:Int):∀ (n j q:Nat),(plN eh kd pr n)[j]? = some q->q<n/\hitB eh kd pr q=true/\cnt eh kd pr q=j
 | 0,j,q,h=>by simp [plN] at h
 | n+1,j,q,h=>by
  rcases zK (hitB eh kd pr n) with t | t
  ·rw [plN,if_pos t] at h
   by_cases hj:j<(plN eh kd pr n).length
   ·rw [List.getElem?_append_left hj] at h
    obtain ⟨h1,h2,h3⟩:=plN_get eh kd pr n j q h
    exact ⟨by omega,h2,h3⟩
   ·rw [List.getElem?_append_right (by omega)] at h
    have hj2:j - (plN eh kd pr n).length=0:=by
     by_cases e:j - (plN eh kd pr n).length=0
     ·exact e
     ·rw [List.getElem?_eq_none (by simp;omega)] at h
      cases h
    rw [hj2] at h
    simp at h
    subst h
    refine ⟨by omega,t,?_⟩
    unfold cnt
    omega
  ·rw [plN,if_neg (by rw [t];decide)] at h
   obtain ⟨h1,h2,h3⟩:=plN_get eh kd pr n j q h
   exact ⟨by omega,h2,h3⟩
theorem nthV_some {eh:Nat->E3} {kd pr:Int} {len n:Nat} (h:n<cnt eh kd pr len):∃ q:Nat,nthV eh kd pr len n=q/\q<len/\hitB eh kd pr q=true/\cnt eh kd pr q=n:=by
 have hl:n<(plI eh kd pr len).length:=by rw [plI_length];exact h
 obtain ⟨q,h1,h2,h3⟩:=plI_place eh kd pr len n hl
 obtain ⟨-,h4,h5⟩:=plN_get eh kd pr len n q h3
 refine ⟨q,?_,h2,h4,h5⟩
 unfold nthV
 rw [if_pos (by simp [belB];omega),Int.toNat_natCast]
 exact h1
theorem nthV_none {eh:Nat->E3} {kd pr:Int} {len n:Nat} (h:cnt eh kd pr len<=n):nthV eh kd pr len n = -1:=by
 unfold nthV
 rw [if_neg]
 have hl:(plI eh kd pr len).length<=n:=by rw [plI_length];exact h
 simp [belB]
 omega
theorem nthV_more {eh:Nat->E3} {kd pr:Int} {len len' n:Nat} (h:n<cnt eh kd pr len) (hl:len<=len'):nthV eh kd pr len' n=nthV eh kd pr len n:=by
 obtain ⟨q,h1,h2,h3,h4⟩:=nthV_some h
 rw [h1]
 exact nthV_hit (by omega) h3 (by rw [plI_length];show (n:Int)=(cnt eh kd pr q:Nat);omega)
structure Sy.Cut (y:Sy) (c:List Int):Prop where
 len:c.length=y.pn
 le:∀ p,p<y.pn->0<=zi c p/\zi c p<=(y.hL p:Int)
noncomputable def cutB (y:Sy) (c:List Int):Bool:=y.okB && qB (y.Cut c)
def cN (c:List Int) (p:Nat):Nat:=(zi c p).toNat
def sN (y:Sy) (c:Nat->Nat) (a b:Nat):Nat:=cnt (y.hH a) 2 b (c a)
def tN (y:Sy) (c:Nat->Nat) (a b:Nat):Nat:=cnt (y.hH b) 3 a (c b)
def Sy.Wh (y:Sy) (c:Nat->Nat):Prop:=∀ a,a<y.pn->∀ b,b<y.pn->tN y c a b<=sN y c a b
def ovN (y:Sy) (c:Nat->Nat) (a b:Nat):Int:=nthV (y.hH b) 3 a (c b) (sN y c a b:Nat)
theorem ovN_no {y:Sy} {c:Nat->Nat} {a b:Nat} (h:tN y c a b<=sN y c a b):ovN y c a b = -1:=nthV_none h
theorem ovN_yes {y:Sy} {c:Nat->Nat} {a b:Nat} (h:¬ tN y c a b<=sN y c a b):∃ k:Nat,ovN y c a b=k/\k<c b/\hitB (y.hH b) 3 a k=true/\cnt (y.hH b) 3 a k=sN y c a b:=nthV_some (by unfold tN at h;omega)
theorem ovN_full {y:Sy} {c:Nat->Nat} {a b:Nat} (h:¬ tN y c a b<=sN y c a b) (hl:c b<=y.hL b):nthV (y.hH b) 3 a (y.hL b) (sN y c a b:Nat)=ovN y c a b:=nthV_more (by unfold tN at h;omega) hl
theorem ovN_neg {y:Sy} {c:Nat->Nat} {a b:Nat}:ovN y c a b<0 ↔ tN y c a b<=sN y c a b:=by
 refine ⟨fun h=>?_,fun h=>by rw [ovN_no h];decide⟩
 by_cases hc:tN y c a b<=sN y c a b
 ·exact hc
 ·obtain ⟨k,e,-⟩:=ovN_yes hc
  omega
noncomputable def whB (y:Sy) (c:List Int):Bool:=cutB y c && qB (y.Wh (cN c))
structure Sy.Cl (y:Sy) (c e:List Int):Prop where
 len:e.length=y.pn
 le:∀ p,p<y.pn->0<=zi e p/\zi e p<=zi c p
 gr:∀ d:Nat->Nat,(∀ p,p<y.pn->(d p:Int)<=zi c p)->y.Wh d->∀ p,p<y.pn->(d p:Int)<=zi e p
theorem Sy.Cl.start {y:Sy} {c:List Int} (h:y.Cut c):y.Cl c c:=⟨h.len,fun p hp=>⟨(h.le p hp).1,Int.le_refl _⟩,fun _ h _=>h⟩
theorem Sy.Cl.cut {y:Sy} {c e:List Int} (h:y.Cl c e) (hc:y.Cut c):y.Cut e:=⟨h.len,fun p hp=>⟨(h.le p hp).1,Int.le_trans (h.le p hp).2 (hc.le p hp).2⟩⟩
theorem zi_set {e:List Int} {b p:Nat} {k:Int} (hb:b<e.length):zi (e.set b k) p=if p=b then k else zi e p:=by
 by_cases h:p=b
 ·subst h
  rw [if_pos rfl,getD_set_self e p k hb]
 ·rw [if_neg h,getD_set_ne e p b k h]
theorem Sy.Cl.next {y:Sy} {c e:List Int} {a b:Nat} (h:y.Cl c e) (ha:a<y.pn) (hb:b<y.pn) (ho:0<=ovN y (cN e) a b):y.Cl c (e.set b (ovN y (cN e) a b))/\0<=ovN y (cN e) a b/\ovN y (cN e) a b<zi e b:=by
 have hn:¬ tN y (cN e) a b<=sN y (cN e) a b:=fun hc=>by
  have:=ovN_neg.2 hc
  omega
 obtain ⟨k,e1,e2,e3,e4⟩:=ovN_yes hn
 have eb:=(h.le b hb)
 have hkb:(k:Int)<zi e b:=by unfold cN at e2;omega
 refine ⟨⟨by rw [List.length_set];exact h.len,fun p hp=>?_,fun d hd hw p hp=>?_⟩,ho,by omega⟩
 ·rw [zi_set (by rw [h.len];exact hb)]
  by_cases ep:p=b
  ·subst ep
   rw [if_pos rfl]
   omega
  ·rw [if_neg ep]
   exact h.le p hp
 ·rw [zi_set (by rw [h.len];exact hb)]
  have h0:=h.gr d hd hw p hp
  by_cases ep:p=b
  ·subst ep
   rw [if_pos rfl,e1]
   by_cases hc:(d p:Int)<=k
   ·exact hc
   ·exfalso
    have h1 : sN y d a p ≤ sN y (cN e) a p := cnt_mono _ _ _ (by
     have:=h.gr d hd hw a ha
     unfold cN
     omega)
    have h2:cnt (y.hH p) 3 a (k+1)<=tN y d a p:=cnt_mono _ _ _ (by omega)
    rw [cnt_hit e3,e4] at h2
    have:=hw a ha p hb
    omega
  ·rw [if_neg ep]
   exact h0
theorem Sy.Cl.same {y:Sy} {c e e':List Int} (h:y.Cl c e) (hw:y.Wh (cN e)) (h':y.Cl c e') (hw':y.Wh (cN e')):e=e':=by
 refine ext_getD (h.len.trans h'.len.symm) fun p hp=>?_
 have hp':p<y.pn:=by rw [<- h.len];exact hp
 have h1:=h.gr (cN e') (fun q hq=>by have:=h'.le q hq;unfold cN;omega) hw' p hp'
 have h2:=h'.gr (cN e) (fun q hq=>by have:=h.le q hq;unfold cN;omega) hw p hp'
 have h3:=h.le p hp'
 have h4:=h'.le p hp'
 unfold cN at h1 h2
 omega
open Classical in
noncomputable def clS (y:Sy) (c:List Int):List Int:=if h:cutB y c=true/\∃ e,y.Cl c e/\y.Wh (cN e) then h.2.choose else []
theorem clS_no {y:Sy} {c:List Int} (h:cutB y c=false):clS y c=[]:=by
 unfold clS
 rw [dif_neg]
 rw [h]
 simp
theorem clS_yes {y:Sy} {c e:List Int} (h:cutB y c=true) (h1:y.Cl c e) (h2:y.Wh (cN e)):clS y c=e:=by
 unfold clS
 have hx:cutB y c=true/\∃ e,y.Cl c e/\y.Wh (cN e):=⟨h,e,h1,h2⟩
 rw [dif_pos hx]
 exact hx.2.choose_spec.1.same hx.2.choose_spec.2 h1 h2
theorem cutB_parts {y:Sy} {c:List Int} (h:cutB y c=true):y.Ok/\y.Cut c:=by
 unfold cutB at h
 simp only [Bool.and_eq_true] at h
 exact ⟨Sy.ok_of h.1,qB_iff.1 h.2⟩
noncomputable def flS (y:Sy):List Int:=if y.okB=true then (List.range y.hn).map fun p=>(y.hL p:Int) else []
def flT (y:Sy) (k:Nat):List Int:=(List.range k).map fun p=>(y.hL p:Int)
theorem flT_next (y:Sy) (k:Nat):flT y (k+1)=flT y k ++ [(y.hL k:Int)]:=by
 unfold flT
 rw [List.range_succ,List.map_append]
 rfl
theorem flT_len (y:Sy) (k:Nat):(flT y k).length=k:=by simp [flT]
variable {z:Bool}
structure OwnS (z:Bool) (w:World) (B:Nat) (c:Nat->Nat) (y:Sy) (vp vs vw vh:Value) (up us uw uh:Nat->Value):Prop where
 p:LI z w (Cl B c 1) vp y.pn up y.pL y.pH
 s:LS w (Cl B c 2) vs y.sn us y.sS
 t:LT z w (Cl B c 3) vw y.wn uw y.wL y.wH
 h:LE z w (Cl B c 4) vh y.hn uh y.hL y.hH
theorem OwnS.below {w w':World} {B:Nat} {c:Nat->Nat} {y:Sy} {vp vs vw vh:Value} {up us uw uh:Nat->Value} (o:OwnS z w B c y vp vs vw vh up us uw uh) (hb:Below w.heap.size w w'):OwnS z w' B c y vp vs vw vh up us uw uh:=⟨o.p.below hb,o.s.below hb,o.t.below hb,o.h.below hb⟩
def OwnSys (z:Bool) (w:World) (B:Nat) (y:Sy) (v:Value):Prop:=∃ c vp vs vw vh up us uw uh,v=.agg #[vp,vs,vw,vh]/\OwnS z w B c y vp vs vw vh up us uw uh
theorem OwnSys.below {w w':World} {B:Nat} {y:Sy} {v:Value} (o:OwnSys z w B y v) (hb:Below w.heap.size w w'):OwnSys z w' B y v:=by
 obtain ⟨c,vp,vs,vw,vh,up,us,uw,uh,e,o⟩:=o
 exact ⟨c,vp,vs,vw,vh,up,us,uw,uh,e,o.below hb⟩
def rcol (c:Nat->Nat) (n q:Nat):Nat->Nat:=fun k=>if k<n then c k else q
theorem rcol_old {c:Nat->Nat} {n q k:Nat} (h:k<n):rcol c n q k=c k:=if_pos h
theorem rcol_new {c:Nat->Nat} {n q k:Nat} (h:n<=k):rcol c n q k=q:=if_neg (by omega)
theorem Cl.old {B:Nat} {c:Nat->Nat} {n q i k:Nat} (h:Cl B c i k) (hk:k<n):Cl B (rcol c n q) i k:=⟨h.1,(rcol_old hk).trans h.2⟩
structure CpB (B N:Nat) (c:Nat->Nat) (y:Sy) (ks kw:Nat) (wx:World) (vp vs vw vh:Value) (up us uw uh:Nat->Value):Prop where
 bx:BoxC wx N vp vs vw vh
 fr:∀ j,wx.frozen? ⟨N,j,none⟩=false
 cN:c N=0
 bN:B<=N
 o:OwnS true wx B c { y with sn:=ks,wn:=kw } vp vs vw vh up us uw uh
section
variable {B N:Nat} {c:Nat->Nat} {y:Sy} {ks kw:Nat} {wr:World} {vp vs vw vh:Value} {up us uw uh:Nat->Value}
theorem CpB.lt (h:CpB B N c y ks kw wr vp vs vw vh up us uw uh):N<wr.heap.size:=zJ wr _ h.bx.1
theorem CpB.state (h:CpB B N c y ks kw wr vp vs vw vh up us uw uh) {w1 w3:World} {u' v':Value} (b1:Below wr.heap.size wr w1) (hu:StOwn w1 wr.heap.size u' (y.sS ks).p (y.sS ks).rs (y.sS ks).os (y.sS ks).c) (hv:w3.ownsRow 0 39 4 v' (ks+1) (flat (fun i=>cellsL (us i)) ks ++ cellsL u')) (g:w1.grownBy w3 vs.ownBlock) (hv':∀ j,v'.ownBlock=some j->vs.ownBlock=some j\/w1.heap.size<=j):
  CpB B N (rcol c wr.heap.size 2) y (ks+1) kw (w3.setCell ⟨N,1,none⟩ v') vp v' vw vh up (fun j=>if j=ks then u' else us j) uw uh:=by
 have hN:=h.lt
 have hkeep:∀ k,k<wr.heap.size->c k≠2->w3.heap[k]? = wr.heap[k]?:=fun k hk hc=>(g.block k (zL hk b1.size) fun e=>hc (h.o.s.rb k e.symm).2).trans (b1.block k hk)
 have hset:∀ k,k≠N->(w3.setCell ⟨N,1,none⟩ v').heap[k]? = w3.heap[k]?:=fun k hk=>zO _ _ _ _ hk
 have hcN:rcol c wr.heap.size 2 N=0:=(rcol_old hN).trans h.cN
 have hBN:w3.heap[N]? = wr.heap[N]?:=hkeep N hN (by rw [h.cN];decide)
 have hkk:∀ i,i≠2->i≠0->∀ k,Cl B (rcol c wr.heap.size 2) i k->k<wr.heap.size->(w3.setCell ⟨N,1,none⟩ v').heap[k]? = wr.heap[k]?:=fun i h2 h0 k hk hl=>by
  have e:c k=i:=(rcol_old hl).symm.trans hk.2
  exact (hset k fun en=>h0 (by rw [<- e,en,h.cN])).trans (hkeep k hl (by rw [e];exact h2))
 have hP:∀ i k,Cl B c i k->k<wr.heap.size->Cl B (rcol c wr.heap.size 2) i k:=fun i k hk hl=>hk.old hl
 have hP':∀ k,wr.heap.size<=k->k<w3.heap.size->Cl B (rcol c wr.heap.size 2) 2 k:=fun k hk _=>⟨zP h.bN (zP (Nat.le_of_lt hN) hk),rcol_new hk⟩
 obtain ⟨x0,x1,x2,x3⟩:=h.bx
 have hc:∀ j,w3.cell? ⟨N,j,none⟩=wr.cell? ⟨N,j,none⟩:=fun j=>zH hBN
 have hnew:∀ k,Cl B (rcol c wr.heap.size 2) 2 k->k<w3.heap.size->(w3.setCell ⟨N,1,none⟩ v').heap[k]? = w3.heap[k]?:=fun k hk _=>hset k fun e=>by
  have e2:=hk.2
  rw [e,hcN] at e2
  cases e2
 refine ⟨⟨?_,?_,?_,?_⟩,fun j=>?_,hcN,h.bN,⟨?_,?_,?_,?_⟩⟩
 ·rw [World.cell?_setCell_other _ _ _ _ (by simp),hc];exact x0
 ·exact World.cell?_setCell_same _ _ _ ((hc 1).trans x1)
 ·rw [World.cell?_setCell_other _ _ _ _ (by simp),hc];exact x2
 ·rw [World.cell?_setCell_other _ _ _ _ (by simp),hc];exact x3
 ·rw [World.frozen?_setCell,zI hBN];exact h.fr j
 ·exact (h.o.p.mono (hP 1)).keep (hkk 1 (by decide) (by decide))
 ·exact (h.o.s.push b1 hu hv g hv' (hP 2) hP').keep hnew
 ·exact (h.o.t.mono (hP 3)).keep (hkk 3 (by decide) (by decide))
 ·exact (h.o.h.mono (hP 4)).keep (hkk 4 (by decide) (by decide))
theorem CpB.way (h:CpB B N c y ks kw wr vp vs vw vh up us uw uh) {w1 w3:World} {u' v':Value} (b1:Below wr.heap.size wr w1) (hu:w1.ownsRow wr.heap.size 126 2 u' (y.wL kw) (fT (y.wH kw) (y.wL kw))) (hne:u'≠.slice none 0 0) (hv:w3.ownsRow 0 124 1 v' (kw+1) ((List.range kw).map uw ++ [u'])) (g:w1.grownBy w3 vw.ownBlock) (hv':∀ j,v'.ownBlock=some j->vw.ownBlock=some j\/w1.heap.size<=j):
  CpB B N (rcol c wr.heap.size 3) y ks (kw+1) (w3.setCell ⟨N,2,none⟩ v') vp vs v' vh up us (fun j=>if j=kw then u' else uw j) uh:=by
 have hN:=h.lt
 have hkeep:∀ k,k<wr.heap.size->c k≠3->w3.heap[k]? = wr.heap[k]?:=fun k hk hc=>(g.block k (zL hk b1.size) fun e=>hc (h.o.t.rb k e.symm).2).trans (b1.block k hk)
 have hset:∀ k,k≠N->(w3.setCell ⟨N,2,none⟩ v').heap[k]? = w3.heap[k]?:=fun k hk=>zO _ _ _ _ hk
 have hcN:rcol c wr.heap.size 3 N=0:=(rcol_old hN).trans h.cN
 have hBN:w3.heap[N]? = wr.heap[N]?:=hkeep N hN (by rw [h.cN];decide)
 have hkk:∀ i,i≠3->i≠0->∀ k,Cl B (rcol c wr.heap.size 3) i k->k<wr.heap.size->(w3.setCell ⟨N,2,none⟩ v').heap[k]? = wr.heap[k]?:=fun i h2 h0 k hk hl=>by
  have e:c k=i:=(rcol_old hl).symm.trans hk.2
  exact (hset k fun en=>h0 (by rw [<- e,en,h.cN])).trans (hkeep k hl (by rw [e];exact h2))
 have hP:∀ i k,Cl B c i k->k<wr.heap.size->Cl B (rcol c wr.heap.size 3) i k:=fun i k hk hl=>hk.old hl
 have hP':∀ k,wr.heap.size<=k->k<w3.heap.size->Cl B (rcol c wr.heap.size 3) 3 k:=fun k hk _=>⟨zP h.bN (zP (Nat.le_of_lt hN) hk),rcol_new hk⟩
 obtain ⟨x0,x1,x2,x3⟩:=h.bx
 have hc:∀ j,w3.cell? ⟨N,j,none⟩=wr.cell? ⟨N,j,none⟩:=fun j=>zH hBN
 have hnew:∀ k,Cl B (rcol c wr.heap.size 3) 3 k->k<w3.heap.size->(w3.setCell ⟨N,2,none⟩ v').heap[k]? = w3.heap[k]?:=fun k hk _=>hset k fun e=>by
  have e2:=hk.2
  rw [e,hcN] at e2
  cases e2
 refine ⟨⟨?_,?_,?_,?_⟩,fun j=>?_,hcN,h.bN,⟨?_,?_,?_,?_⟩⟩
 ·rw [World.cell?_setCell_other _ _ _ _ (by simp),hc];exact x0
 ·rw [World.cell?_setCell_other _ _ _ _ (by simp),hc];exact x1
 ·exact World.cell?_setCell_same _ _ _ ((hc 2).trans x2)
 ·rw [World.cell?_setCell_other _ _ _ _ (by simp),hc];exact x3
 ·rw [World.frozen?_setCell,zI hBN];exact h.fr j
 ·exact (h.o.p.mono (hP 1)).keep (hkk 1 (by decide) (by decide))
 ·exact (h.o.s.mono (hP 2)).keep (hkk 2 (by decide) (by decide))
 ·exact (h.o.t.push b1 hu (fun _=>hne) hv g hv' (hP 3) hP').keep hnew
 ·exact (h.o.h.mono (hP 4)).keep (hkk 4 (by decide) (by decide))
end
theorem CpB.start {B l5 l6 N:Nat} {w5 w6 wf:World} {x:SysIn} {vp vh:Value} {up uh:Nat->Value} (o5:LI true w5 (fun k=>l5<=k/\k<w5.heap.size) vp x.pn up x.pL x.pH) (o6:LE true w6 (fun k=>l6<=k/\k<w6.heap.size) vh x.hn uh x.hL x.hH) (hb:Below w5.heap.size w5 w6) (h5:B<=l5) (h6:w5.heap.size<=l6) (h56:B<=w5.heap.size) (h55:l5<=w5.heap.size)
  (hN:N<l5\/(w5.heap.size<=N/\N<l6)\/w6.heap.size<=N) (hBN:B<=N) (hf:∀ k,k<w6.heap.size->k≠N->wf.heap[k]? = w6.heap[k]?) (hbx:BoxC wf N vp (.slice none 0 0) (.slice none 0 0) vh) (hfr:∀ j,wf.frozen? ⟨N,j,none⟩=false):
  ∃ c vp vh up uh,CpB B N c x.y 0 0 wf vp (.slice none 0 0) (.slice none 0 0) vh up (fun _=>.slice none 0 0) (fun _=>.slice none 0 0) uh:=by
 have hs:=hb.size
 have hc0:∀ k,Cl B (fun k=>if k=N then 0 else if k<w5.heap.size then 1 else 4) 1 k\/Cl B (fun k=>if k=N then 0 else if k<w5.heap.size then 1 else 4) 4 k->k≠N:=fun k hk e=>by
  rcases hk with hk | hk
  ·have e2:(if k=N then 0 else if k<w5.heap.size then 1 else 4)=1:=hk.2
   rw [if_pos e] at e2
   cases e2
  ·have e2:(if k=N then 0 else if k<w5.heap.size then 1 else 4)=4:=hk.2
   rw [if_pos e] at e2
   cases e2
 have g5 : LI true w5 (Cl B (fun k => if k = N then 0 else if k < w5.heap.size then 1 else 4) 1) vp x.pn up x.pL x.pH := o5.mono fun k hk _ => ⟨by omega, by
  show (if k=N then 0 else if k<w5.heap.size then 1 else 4)=1
  rw [if_neg (by omega),if_pos hk.2]⟩
 have g6 : LE true w6 (Cl B (fun k => if k = N then 0 else if k < w5.heap.size then 1 else 4) 4) vh x.hn uh x.hL x.hH := o6.mono fun k hk _ => ⟨by omega, by
  show (if k=N then 0 else if k<w5.heap.size then 1 else 4)=4
  rw [if_neg (by omega),if_neg (by omega)]⟩
 exact ⟨fun k=>if k=N then 0 else if k<w5.heap.size then 1 else 4,vp,vh,up,uh,hbx,hfr,if_pos rfl,hBN,⟨g5.keep fun k hk hl=>(hf k (by omega) (hc0 k (.inl hk))).trans (hb.block k hl),LS.nil _ _ _ _,LL.nil _ _ _ _ _ _ _ _,g6.keep fun k hk hl=>hf k hl (hc0 k (.inr hk))⟩⟩
theorem l4Copy_any (x:SysIn) (w:World) (hG:SysG w x) (hL:x.Len):
  Calls Tryz.prog 46 #[x.v] w fun e w'=>∃ v,e=.returned v/\OwnSys true w' w.heap.size x.y v/\Below w.heap.size w w':=by
 have HG:Hid (SysG w x):=hG
 have HL:Hid x.Len:=hL
 have hsn':(x.sn:Int)<=1048576:=by have:=hL.s.1;omega
 have hwn':(x.wn:Int)<=1048576:=by have:=hL.w.1;omega
 have BW:Hid (Below w.heap.size w ((w.alloc (oQ5 x.pa x.pn x.pc x.sa x.sn x.sc x.wa x.wn x.wc x.ha x.hn x.hc)).alloc (zQ2))):=(zQ _ _).trans ((zQ _ _).mono (by simp))
 have NB:Hid (BoxC ((w.alloc (oQ5 x.pa x.pn x.pc x.sa x.sn x.sc x.wa x.wn x.wc x.ha x.hn x.hc)).alloc (zQ2)) w.heap.size (.slice x.pa x.pn x.pc) (.slice x.sa x.sn x.sc) (.slice x.wa x.wn x.wc) (.slice x.ha x.hn x.hc)):=(BoxC.new w _ _ _ _ _).below (zQ _ _)
 have RB:Hid (BoxC ((w.alloc (oQ5 x.pa x.pn x.pc x.sa x.sn x.sc x.wa x.wn x.wc x.ha x.hn x.hc)).alloc (zQ2)) (w.heap.size+1) (.slice none 0 0) (.slice none 0 0) (.slice none 0 0) (.slice none 0 0)/\∀ j,((w.alloc (oQ5 x.pa x.pn x.pc x.sa x.sn x.sc x.wa x.wn x.wc x.ha x.hn x.hc)).alloc (zQ2)).frozen? ⟨w.heap.size+1,j,none⟩=false):=⟨⟨zW _ _ _ 0 (by simp),zW _ _ _ 1 (by simp),zW _ _ _ 2 (by simp),zW _ _ _ 3 (by simp)⟩,fun j=>yD _ _ _ _ (by simp)⟩
 have hz:((w.alloc (oQ5 x.pa x.pn x.pc x.sa x.sn x.sc x.wa x.wn x.wc x.ha x.hn x.hc)).alloc (zQ2)).heap.size=w.heap.size+2:=by simp
 clear hG hL
 go_enter Tryz.func46,Tryz.ntmps46
 go_wp2_with fail
 generalize (w.alloc (oQ5 x.pa x.pn x.pc x.sa x.sn x.sc x.wa x.wn x.wc x.ha x.hn x.hc)).alloc (zQ2)=W2 at *
 obtain ⟨b0,b1,b2,b3⟩:=NB.out
 have d1:W2.heap.size≠w.heap.size:=by omega
 have hl0:w.heap.size<W2.heap.size:=by omega
 have hl1:w.heap.size+1<W2.heap.size:=by omega
 have hl2:Hid (w.heap.size<=W2.heap.size):=by show w.heap.size<=W2.heap.size;omega
 clear hz
 have HP : Hid (∀ wx, Below W2.heap.size W2 wx → (RowS wx x.pa x.pn fun i => .slice (x.pA i) (x.pL i) (x.pC i)) ∧ ∀ i, i < x.pn → Src wx (x.pA i) (fI (x.pH i) (x.pL i))) := fun wx hb => ⟨(HG.out.below (BW.out.trans (hb.mono BW.out.size))).p, fun i hi => by
  obtain ⟨b,e,hlt,hI⟩:=(HG.out.below (BW.out.trans (hb.mono BW.out.size))).pi i hi
  rw [e]
  exact srcI hlt hI⟩
 have HH:Hid (∀ wx,Below W2.heap.size W2 wx->(RowS wx x.ha x.hn fun i=>.slice (x.hA i) (x.hL i) (x.hC i))/\∀ i,i<x.hn->Src wx (x.hA i) (fE (x.hH i) (x.hL i))):=fun wx hb=>⟨(HG.out.below (BW.out.trans (hb.mono BW.out.size))).h,fun i hi=>srcE ((HG.out.below (BW.out.trans (hb.mono BW.out.size))).hi i hi)⟩
 go_cut [3] from 6 to 12 (fun s wx=>∃ N:Nat,s=.pointer (some ⟨N,0,none⟩)/\Hid ((∃ c vp vh up uh,CpB W2.heap.size N c x.y 0 0 wx vp (.slice none 0 0) (.slice none 0 0) vh up (fun _=>(.slice none 0 0)) (fun _=>(.slice none 0 0)) uh)/\Below W2.heap.size W2 wx))
 case first=>
  refine wp_region_G (fun w'=>w'.cell? ⟨w.heap.size,0,none⟩=some (.slice x.pa x.pn x.pc)/\w'.cell? ⟨w.heap.size,3,none⟩=some (.slice x.ha x.hn x.hc)) (fun i=>i == 8) (by kernel_rfl) ?_
  have hHeld:=And.intro b0 b3
  refine wpGT_of [0,1,3,4] ?_
  iterate 4 (refine wpGT_take rfl hHeld ?_;apply Exists.intro;refine ⟨fun wq hSw=>?_,?_⟩;(· ((try dsimp only at hSw);go_simp;try with_reducible rfl));(try simp only [Act.put,zD,zE,zF]))
  refine wpGT_nil ?_
  refine wpG_two 2 7 rfl rfl (by kernel_rfl) (fun K hK=>?_) (fun K hK=>?_)
  ·refine stepR_call rfl 120 _ _ rfl #[.slice x.pa x.pn x.pc] (by simp [Act.eval]) (yB Tryz.func120 (by kernel_rfl) rfl) (l4Ins_any x.pa x.pn x.pc x.pA x.pL x.pC x.pH (W2.drew) HL.out.p.1 HL.out.p.2 (HP.out _ (Below.refl _ _).drew).1 (HP.out _ (Below.refl _ _).drew).2) ?_
   rintro e w5 ⟨v5,u5,rfl,o5,b5⟩
   obtain ⟨a5,c5,rfl⟩:=zU o5.row
   refine ⟨_,rfl,?_⟩
   have q5:Below W2.heap.size W2 w5:=below_up (Below.refl _ _).drew b5 (by simp)
   have y0:=(q5.cell (p:=⟨w.heap.size,0,none⟩) hl0).trans b0
   have y3:=(q5.cell (p:=⟨w.heap.size,3,none⟩) hl0).trans b3
   have z5:=q5.size
   refine hK.out _ _ (fun _=>⟨y0,y3⟩) ?_
   have hHeld:=And.intro y0 y3
   clear hK K
   (try simp only [Act.put,zD,zE,zF])
   refine wpG_two 5 7 rfl rfl (by kernel_rfl) (fun K hK=>?_) (fun K hK=>?_)
   ·refine stepR_call rfl 121 _ _ rfl #[.slice x.ha x.hn x.hc] (by simp [Act.eval]) (yB Tryz.func121 (by kernel_rfl) rfl) (l4Events_any x.ha x.hn x.hc x.hA x.hL x.hC x.hH (w5) HL.out.h.1 HL.out.h.2 (HH.out _ (q5.trans ((Below.refl w5.heap.size w5).mono q5.size))).1 (HH.out _ (q5.trans ((Below.refl w5.heap.size w5).mono q5.size))).2) ?_
    rintro e w6 ⟨v6,u6,rfl,o6,b6⟩
    obtain ⟨a6,c6,rfl⟩:=zU o6.row
    refine ⟨_,rfl,?_⟩
    have p6:Below w5.heap.size w5 w6:=below_up (Below.refl w5.heap.size w5) b6 (by simp)
    have q6:Below W2.heap.size W2 w6:=q5.trans (p6.mono q5.size)
    have x0:=(q6.cell (p:=⟨w.heap.size,0,none⟩) hl0).trans b0
    have x3:=(q6.cell (p:=⟨w.heap.size,3,none⟩) hl0).trans b3
    have z6:=p6.size
    refine hK.out _ _ (fun _=>⟨x0,x3⟩) ?_
    have hHeld:=And.intro x0 x3
    clear hK K
    (try simp only [Act.put,zD,zE,zF])
    refine wpG_take 6 rfl hHeld ?_
    apply Exists.intro
    refine ⟨fun wq hSw=>?_,?_⟩
    ·(try dsimp only at hSw)
     go_simp
     try with_reducible rfl
    (try simp only [Act.put,zD,zE,zF])
    refine wpG_one 7 rfl (by kernel_rfl) (fun K hK=>?_)
    go_simp
    have t0:(w6.alloc (zQ2)).cell? ⟨w.heap.size,0,none⟩=some (.slice x.pa x.pn x.pc):=((zQ w6 _).cell (p:=⟨w.heap.size,0,none⟩) (zL hl0 q6.size)).trans x0
    have t3:(w6.alloc (zQ2)).cell? ⟨w.heap.size,3,none⟩=some (.slice x.ha x.hn x.hc):=((zQ w6 _).cell (p:=⟨w.heap.size,3,none⟩) (zL hl0 q6.size)).trans x3
    refine hK.out _ _ (fun _=>⟨t0,t3⟩) ?_
    clear hK K
    (try simp only [Act.put,zD,zE,zF])
    refine wpG_one 8 rfl (by kernel_rfl) (fun K hK=>?_)
    go_simp
    refine hK.out _ _ (fun h=>?_) ?_
    ·exact absurd h (by decide)
    clear hK K
    (try simp only [Act.put])
    refine wpG_done (by kernel_rfl) ?_ _
    go_wp2_with fail
    go_meet
    case rel=>
     exact ⟨w6.heap.size,by with_reducible rfl,CpB.start (l5:=W2.heap.size) (by simpa using o5) o6 p6 (by omega) (by omega) (by omega) (by omega) (by omega) (by omega) (fun k hk _=>(zQ w6 _).block k hk) (BoxC.new _ _ _ _ _ _) (fun j=>yD _ _ _ _ rfl),q6.trans ((zQ _ _).mono q6.size)⟩
   ·go_simp
    have t0:(w5.alloc (zQ2)).cell? ⟨w.heap.size,0,none⟩=some (.slice x.pa x.pn x.pc):=((zQ w5 _).cell (p:=⟨w.heap.size,0,none⟩) (zL hl0 q5.size)).trans y0
    have t3:(w5.alloc (zQ2)).cell? ⟨w.heap.size,3,none⟩=some (.slice x.ha x.hn x.hc):=((zQ w5 _).cell (p:=⟨w.heap.size,3,none⟩) (zL hl0 q5.size)).trans y3
    refine hK.out _ _ (fun _=>⟨t0,t3⟩) ?_
    clear hK K
    (try simp only [Act.put,zD,zE,zF])
    refine wpG_one 5 rfl (by kernel_rfl) (fun K hK=>?_)
    refine stepR_call rfl 121 _ _ rfl #[.slice x.ha x.hn x.hc] (by simp [Act.eval]) (yB Tryz.func121 (by kernel_rfl) rfl) (l4Events_any x.ha x.hn x.hc x.hA x.hL x.hC x.hH (w5.alloc (zQ2)) HL.out.h.1 HL.out.h.2 (HH.out _ (q5.trans ((zQ w5 (zQ2)).mono q5.size))).1 (HH.out _ (q5.trans ((zQ w5 (zQ2)).mono q5.size))).2) ?_
    rintro e w6 ⟨v6,u6,rfl,o6,b6⟩
    obtain ⟨a6,c6,rfl⟩:=zU o6.row
    refine ⟨_,rfl,?_⟩
    have p6:Below w5.heap.size w5 w6:=below_up (zQ w5 (zQ2)) b6 (by simp)
    have q6:Below W2.heap.size W2 w6:=q5.trans (p6.mono q5.size)
    have x0:=(q6.cell (p:=⟨w.heap.size,0,none⟩) hl0).trans b0
    have x3:=(q6.cell (p:=⟨w.heap.size,3,none⟩) hl0).trans b3
    have z6:=p6.size
    refine hK.out _ _ (fun _=>⟨x0,x3⟩) ?_
    have hHeld:=And.intro x0 x3
    clear hK K
    (try simp only [Act.put,zD,zE,zF])
    have bx:=(BoxC.new w5 (.slice none 0 0) (.slice none 0 0) (.slice none 0 0) (.slice none 0 0) 29).below b6
    obtain ⟨g0,g1,g2,g3⟩:=bx
    have gf:∀ j,w6.frozen? ⟨w5.heap.size,j,none⟩=false:=fun j=>((bcell b6).2 _ _ (by simp)).trans (yD _ _ _ _ rfl)
    refine wpG_take 6 rfl hHeld ?_
    apply Exists.intro
    refine ⟨fun wq hSw=>?_,?_⟩
    ·(try dsimp only at hSw)
     go_simp
     try with_reducible rfl
    (try simp only [Act.put,zD,zE,zF])
    refine wpG_one 8 rfl (by kernel_rfl) (fun K hK=>?_)
    go_simp
    refine hK.out _ _ (fun h=>?_) ?_
    ·exact absurd h (by decide)
    clear hK K
    (try simp only [Act.put])
    refine wpG_done (by kernel_rfl) ?_ _
    go_wp2_with fail
    go_meet
    case rel=>
     exact ⟨w5.heap.size,by with_reducible rfl,CpB.start (l5:=W2.heap.size) (l6:=w5.heap.size+1) (by simpa using o5) (by simpa using o6) p6 (by omega) (by omega) (by omega) (by omega) (by omega) (by omega) (fun k hk hne=>by repeat (rw [zO _ _ _ _ hne])) (BoxC.set4 ⟨g0,g1,g2,g3⟩ _ _ _ _) (fun j=>by simp only [World.frozen?_setCell];exact gf j),(((q6.setCell q5.size _).setCell q5.size _).setCell q5.size _).setCell q5.size _⟩
  ·go_simp
   have t0:(W2.drew.alloc (zQ2)).cell? ⟨w.heap.size,0,none⟩=some (.slice x.pa x.pn x.pc):=((zQ W2.drew _).cell (p:=⟨w.heap.size,0,none⟩) hl0).trans b0
   have t3:(W2.drew.alloc (zQ2)).cell? ⟨w.heap.size,3,none⟩=some (.slice x.ha x.hn x.hc):=((zQ W2.drew _).cell (p:=⟨w.heap.size,3,none⟩) hl0).trans b3
   refine hK.out _ _ (fun _=>⟨t0,t3⟩) ?_
   clear hK K
   (try simp only [Act.put,zD,zE,zF])
   refine wpG_one 2 rfl (by kernel_rfl) (fun K hK=>?_)
   refine stepR_call rfl 120 _ _ rfl #[.slice x.pa x.pn x.pc] (by simp [Act.eval]) (yB Tryz.func120 (by kernel_rfl) rfl) (l4Ins_any x.pa x.pn x.pc x.pA x.pL x.pC x.pH (W2.drew.alloc (zQ2)) HL.out.p.1 HL.out.p.2 (HP.out _ ((Below.refl W2.heap.size W2).drew.trans (zQ W2.drew (zQ2)))).1 (HP.out _ ((Below.refl W2.heap.size W2).drew.trans (zQ W2.drew (zQ2)))).2) ?_
   rintro e w5 ⟨v5,u5,rfl,o5,b5⟩
   obtain ⟨a5,c5,rfl⟩:=zU o5.row
   refine ⟨_,rfl,?_⟩
   have q5:Below W2.heap.size W2 w5:=below_up ((Below.refl W2.heap.size W2).drew.trans (zQ W2.drew (zQ2))) b5 (by simp)
   have y0:=(q5.cell (p:=⟨w.heap.size,0,none⟩) hl0).trans b0
   have y3:=(q5.cell (p:=⟨w.heap.size,3,none⟩) hl0).trans b3
   have z5:=q5.size
   refine hK.out _ _ (fun _=>⟨y0,y3⟩) ?_
   have hHeld:=And.intro y0 y3
   clear hK K
   (try simp only [Act.put,zD,zE,zF])
   have zc:W2.heap.size+1<=w5.heap.size:=by have:=b5.size;simpa using this
   refine wpG_one 5 rfl (by kernel_rfl) (fun K hK=>?_)
   refine stepR_call rfl 121 _ _ rfl #[.slice x.ha x.hn x.hc] (by simp [Act.eval]) (yB Tryz.func121 (by kernel_rfl) rfl) (l4Events_any x.ha x.hn x.hc x.hA x.hL x.hC x.hH (w5) HL.out.h.1 HL.out.h.2 (HH.out _ (q5.trans ((Below.refl w5.heap.size w5).mono q5.size))).1 (HH.out _ (q5.trans ((Below.refl w5.heap.size w5).mono q5.size))).2) ?_
   rintro e w6 ⟨v6,u6,rfl,o6,b6⟩
   obtain ⟨a6,c6,rfl⟩:=zU o6.row
   refine ⟨_,rfl,?_⟩
   have p6:Below w5.heap.size w5 w6:=below_up (Below.refl w5.heap.size w5) b6 (by simp)
   have q6:Below W2.heap.size W2 w6:=q5.trans (p6.mono q5.size)
   have x0:=(q6.cell (p:=⟨w.heap.size,0,none⟩) hl0).trans b0
   have x3:=(q6.cell (p:=⟨w.heap.size,3,none⟩) hl0).trans b3
   have z6:=p6.size
   refine hK.out _ _ (fun _=>⟨x0,x3⟩) ?_
   have hHeld:=And.intro x0 x3
   clear hK K
   (try simp only [Act.put,zD,zE,zF])
   have bx:BoxC w6 W2.heap.size (.slice none 0 0) (.slice none 0 0) (.slice none 0 0) (.slice none 0 0):=((BoxC.new W2.drew (.slice none 0 0) (.slice none 0 0) (.slice none 0 0) (.slice none 0 0) 29).below b5).below b6
   obtain ⟨g0,g1,g2,g3⟩:=bx
   have gf:∀ j,w6.frozen? ⟨W2.heap.size,j,none⟩=false:=fun j=>((bcell b6).2 _ _ (by omega)).trans (((bcell b5).2 _ _ (by simp)).trans (yD _ _ _ _ rfl))
   refine wpG_take 6 rfl hHeld ?_
   apply Exists.intro
   refine ⟨fun wq hSw=>?_,?_⟩
   ·(try dsimp only at hSw)
    go_simp
    try with_reducible rfl
   (try simp only [Act.put,zD,zE,zF])
   refine wpG_one 8 rfl (by kernel_rfl) (fun K hK=>?_)
   go_simp
   refine hK.out _ _ (fun h=>?_) ?_
   ·exact absurd h (by decide)
   clear hK K
   (try simp only [Act.put])
   refine wpG_done (by kernel_rfl) ?_ _
   go_wp2_with fail
   go_meet
   case rel=>
    exact ⟨W2.heap.size,by with_reducible rfl,CpB.start (l5:=W2.heap.size+1) (by simpa using o5) o6 p6 (by omega) (by omega) (by omega) (by omega) (by omega) (by omega) (fun k hk hne=>by repeat (rw [zO _ _ _ _ hne])) (BoxC.set4 ⟨g0,g1,g2,g3⟩ _ _ _ _) (fun j=>by simp only [World.frozen?_setCell];exact gf j),(((q6.setCell (Nat.le_refl _) _).setCell (Nat.le_refl _) _).setCell (Nat.le_refl _) _).setCell (Nat.le_refl _) _⟩
 case rest=>
  obtain ⟨N,rfl,HC⟩:=hcut
  clear b0 b1 b2 b3 HP HH
  go_wp2_with fail
  go_loopw [4] (fun i wr=>∃ k:Nat,k<=x.sn/\i=.int .i64 k/\Hid ((∃ c vp vs vh up us uh,CpB W2.heap.size N c x.y k 0 wr vp vs (.slice none 0 0) vh up us (fun _=>(.slice none 0 0)) uh)/\Below W2.heap.size W2 wr)) (fun i _=>x.sn - (intOf i).toNat)
  case atStart=>
   obtain ⟨⟨c,vp,vh,up,uh,cp⟩,bz⟩:=HC.out
   exact ⟨0,Nat.zero_le _,rfl,⟨c,vp,_,vh,up,_,uh,cp⟩,bz⟩
  case round=>
   obtain ⟨k,hk,rfl,HZ⟩:=hrel
   clear HC
   by_cases hlt:k<x.sn
   ·have hlt':(k:Int)<(x.sn:Int):=by omega
    obtain ⟨⟨c,vp,vs,vh,up,us,uh,cp⟩,bz⟩:=HZ.out
    obtain ⟨sa',sc',rfl⟩:=zU cp.o.s.row
    obtain ⟨x0,x1,x2,x3⟩:=cp.bx
    have xf:=cp.fr
    have hN:=cp.lt
    obtain ⟨b0,b1,b2,b3⟩:=NB.out.below bz
    obtain ⟨bs,os,es,s0,s1,s2,s3⟩:=(HG.out.below (BW.out.trans (bz.mono BW.out.size))).s.at hlt
    have hbs:bs<w.heap.size:=by
     obtain ⟨bs',os',es',s0',-⟩:=HG.out.s.at hlt
     rw [es] at es'
     cases es'
     exact zJ w _ s0'
    have hls:=(HG.out.below (BW.out.trans (bz.mono BW.out.size))).s.lst k hlt
    have HLk:=HL.out.s.2 k hlt
    rw [es] at b1
    have CP:Hid (CpB W2.heap.size N c x.y k 0 wr vp (.slice sa' k sc') (.slice none 0 0) vh up us (fun _=>(.slice none 0 0)) uh):=cp
    have LSt:Hid (Sl wr (x.sQ k).ra (x.sQ k).rs/\Sl wr (x.sQ k).oa (x.sQ k).os):=hls
    have BZ:Hid (Below W2.heap.size W2 wr):=bz
    have hbw:bs<wr.heap.size:=by have:=bz.size;omega
    have hb0w:w.heap.size<wr.heap.size:=by have:=bz.size;omega
    have hsaN : ∀ j, (Value.slice sa' k sc').ownBlock = some j → W2.heap.size ≤ j ∧ j ≠ N := fun j hj => ⟨(cp.o.s.rb j hj).1, fun e => by
     have h2:=(cp.o.s.rb j hj).2
     rw [e,cp.cN] at h2
     cases h2⟩
    have HSA:Hid (∀ j,(Value.slice sa' k sc').ownBlock=some j->W2.heap.size<=j/\j≠N):=hsaN
    have HE:Hid (x.sa=some ⟨bs,os,none⟩):=es
    clear cp bz hls HZ hsaN es
    go_wp2_with fail
    refine wp_region_G (fun w'=>w'.cell? ⟨N,1,none⟩=some (.slice sa' k sc')/\w'.cell? ⟨w.heap.size,1,none⟩=some (.slice (some ⟨bs,os,none⟩) x.sn x.sc)/\w'.cell? ⟨bs,os+k*4,none⟩=some (.int .i64 (x.sQ k).p)/\w'.cell? ⟨bs,os+k*4+1,none⟩=some (.slice (x.sQ k).ra (x.sQ k).rs.length (x.sQ k).rc)/\w'.cell? ⟨bs,os+k*4+2,none⟩=some (.slice (x.sQ k).oa (x.sQ k).os.length (x.sQ k).oc)/\w'.cell? ⟨bs,os+k*4+3,none⟩=some (.int .i64 (x.sQ k).c)) (fun i=>i == 11) (by kernel_rfl) ?_
    have hHeld:=And.intro x1 (And.intro b1 (And.intro s0 (And.intro s1 (And.intro s2 s3))))
    refine wpGT_of [0,1,2,3,4,5,6] ?_
    iterate 7 (refine wpGT_take rfl hHeld ?_;apply Exists.intro;refine ⟨fun wq hSw=>?_,?_⟩;(· ((try dsimp only at hSw);go_simp;try with_reducible rfl));(try simp only [Act.put,zD,zE,zF]))
    refine wpGT_nil ?_
    refine wpG_one 7 rfl (by kernel_rfl) (fun K hK=>?_)
    refine stepR_call rfl 122 _ _ rfl #[stV (x.sQ k).p (x.sQ k).ra (x.sQ k).rs.length (x.sQ k).rc (x.sQ k).oa (x.sQ k).os.length (x.sQ k).oc (x.sQ k).c] (by simp [Act.eval]) (yB Tryz.func122 (by kernel_rfl) rfl) (l2Copy_any _ _ _ _ _ _ (x.sQ k).rs (x.sQ k).os wr.drew HLk.1 HLk.2 LSt.out.1 LSt.out.2) ?_
    rintro e w1 ⟨v1,rfl,o1,d1'⟩
    refine ⟨_,rfl,?_⟩
    obtain ⟨ra1,rc1,oa1,oc1,rfl,-,-⟩:=o1.read
    have q1:Below wr.heap.size wr w1:=(Below.refl wr.heap.size wr).drew.trans d1'
    have O1:Hid (StOwn w1 wr.heap.size (stV (x.sQ k).p ra1 (x.sQ k).rs.length rc1 oa1 (x.sQ k).os.length oc1 (x.sQ k).c) (x.sQ k).p (x.sQ k).rs (x.sQ k).os (x.sQ k).c):=o1
    have hc1:∀ b o,b<wr.heap.size->w1.cell? ⟨b,o,none⟩=wr.cell? ⟨b,o,none⟩:=fun b o h=>(bcell q1).1 b o h
    have hHeld1:=And.intro ((hc1 _ _ hN).trans x1) (And.intro ((hc1 _ _ hb0w).trans b1) (And.intro ((hc1 _ _ hbw).trans s0) (And.intro ((hc1 _ _ hbw).trans s1) (And.intro ((hc1 _ _ hbw).trans s2) ((hc1 _ _ hbw).trans s3)))))
    have Q1:Hid (Below wr.heap.size wr w1):=q1
    refine hK.out _ _ (fun _=>hHeld1) ?_
    clear hHeld o1 d1' q1 hc1
    clear hK K
    (try simp only [Act.put,zD,zE,zF])
    refine wpG_one 8 rfl (by kernel_rfl) (fun K hK=>?_)
    go_simp
    have ba:=zQ w1 (oQ1 (x.sQ k).p ra1 (x.sQ k).rs.length rc1 oa1 (x.sQ k).os.length oc1 (x.sQ k).c)
    have hca:∀ b o,b<wr.heap.size->(w1.alloc (oQ1 (x.sQ k).p ra1 (x.sQ k).rs.length rc1 oa1 (x.sQ k).os.length oc1 (x.sQ k).c)).cell? ⟨b,o,none⟩=w1.cell? ⟨b,o,none⟩:=fun b o h=>(bcell ba).1 b o (zL h Q1.out.size)
    obtain ⟨e0,e1,e2,e3,e4,e5⟩:=hHeld1
    refine hK.out _ _ (fun _=>⟨(hca _ _ hN).trans e0,(hca _ _ hb0w).trans e1,(hca _ _ hbw).trans e2,(hca _ _ hbw).trans e3,(hca _ _ hbw).trans e4,(hca _ _ hbw).trans e5⟩) ?_
    clear hca ba
    clear hK K
    (try simp only [Act.put,zD,zE,zF])
    refine wpG_one 9 rfl (by kernel_rfl) (fun K hK=>?_)
    refine stepR_append_val kndS w1 rfl rfl _ _ rfl 0 (.slice sa' k sc') k _ rfl (CP.out.o.s.below Q1.out).row #[.int .i64 (x.sQ k).p,.slice ra1 (x.sQ k).rs.length rc1,.slice oa1 (x.sQ k).os.length oc1,.int .i64 (x.sQ k).c] rfl rfl (by intro u hu;simp at hu;rcases hu with rfl | rfl | rfl | rfl <;> rfl) (by omega) (Nat.zero_le _) ?_
    intro v3 w3 o3 g3 q3 n3
    obtain ⟨a3,c3,rfl⟩:=zU o3
    have hk3:∀ b,b<wr.heap.size->(b<W2.heap.size\/b=N)->w3.heap[b]? = w1.heap[b]?:=fun b h1 h2=>g3.block b (zL h1 Q1.out.size) fun e=>by
     have:=HSA.out b e.symm
     omega
    have hc3:∀ b o,b<wr.heap.size->(b<W2.heap.size\/b=N)->w3.cell? ⟨b,o,none⟩=w1.cell? ⟨b,o,none⟩:=fun b o h1 h2=>zH (hk3 b h1 h2)
    have hHeld:=And.intro ((hc3 _ _ hN (.inr rfl)).trans e0) (And.intro ((hc3 _ _ hb0w (.inl hl0)).trans e1) (And.intro ((hc3 _ _ hbw (.inl (by omega))).trans e2) (And.intro ((hc3 _ _ hbw (.inl (by omega))).trans e3) (And.intro ((hc3 _ _ hbw (.inl (by omega))).trans e4) ((hc3 _ _ hbw (.inl (by omega))).trans e5)))))
    have hfN:∀ j,w3.frozen? ⟨N,j,none⟩=false:=fun j=>(zI (hk3 N hN (.inr rfl))).trans (((bcell Q1.out).2 N j hN).trans (xf j))
    have CN:Hid (CpB W2.heap.size N (rcol c wr.heap.size 2) x.y (k+1) 0 (w3.setCell ⟨N,1,none⟩ (.slice a3 (k+1) c3)) vp (.slice a3 (k+1) c3) (.slice none 0 0) vh up (fun j=>if j=k then stV (x.sQ k).p ra1 (x.sQ k).rs.length rc1 oa1 (x.sQ k).os.length oc1 (x.sQ k).c else us j) (fun _=>(.slice none 0 0)) uh):=CP.out.state Q1.out O1.out o3 g3 q3
    have BN:Hid (Below W2.heap.size W2 (w3.setCell ⟨N,1,none⟩ (.slice a3 (k+1) c3))):=(Below.grown (BZ.out.trans (Q1.out.mono BZ.out.size)) g3 (zP BZ.out.size Q1.out.size) (fun j hj=>(HSA.out j hj).1)).setCell CP.out.bN _
    refine hK.out _ _ (fun _=>hHeld) ?_
    clear o3 g3 q3 n3 hk3 hc3
    clear hK K
    (try simp only [Act.put,zD,zE,zF])
    refine wpG_take 10 rfl hHeld ?_
    apply Exists.intro
    refine ⟨fun wq hSw=>?_,?_⟩
    ·(try dsimp only at hSw)
     go_simp
     try with_reducible rfl
    (try simp only [Act.put,zD,zE,zF])
    refine wpG_one 11 rfl (by kernel_rfl) (fun K hK=>?_)
    have hcN:=hHeld.1
    have hfN1:=hfN 1
    go_simp
    refine hK.out _ _ (fun h=>?_) ?_
    ·exact absurd h (by decide)
    clear hK K
    (try simp only [Act.put])
    refine wpG_done (by kernel_rfl) ?_ _
    go_wp2
    go_roundw
    case rel=>exact ⟨k+1,by omega,by go_num,⟨_,_,_,_,_,_,_,CN.out⟩,BN.out⟩
    case measure=>simp [intOf];omega
   ·have hkn:k=x.sn:=by omega
    subst hkn
    have hsb:∀ wx,Below W2.heap.size W2 wx->wx.cell? ⟨w.heap.size,1,none⟩=some (.slice x.sa x.sn x.sc):=fun wx hb=>(NB.out.below hb).2.1
    have b1:=hsb wr HZ.out.2
    clear hsb
    go_wp2_with fail
    clear b1
    go_loopw [5] (fun i wr=>∃ k:Nat,k<=x.wn/\i=.int .i64 k/\Hid ((∃ c vp vs vw vh up us uw uh,CpB W2.heap.size N c x.y x.sn k wr vp vs vw vh up us uw uh)/\Below W2.heap.size W2 wr)) (fun i _=>x.wn - (intOf i).toNat)
    case atStart=>
     obtain ⟨⟨c,vp,vs,vh,up,us,uh,cp⟩,bz⟩:=HZ.out
     exact ⟨0,Nat.zero_le _,rfl,⟨c,vp,vs,_,vh,up,us,_,uh,cp⟩,bz⟩
    case round=>
     clear HZ hlt hk
     obtain ⟨k,hk,rfl,HZ⟩:=hrel
     by_cases hlt:k<x.wn
     ·have hlt':(k:Int)<(x.wn:Int):=by omega
      obtain ⟨⟨c,vp,vs,vw,vh,up,us,uw,uh,cp⟩,bz⟩:=HZ.out
      obtain ⟨wa',wc',rfl⟩:=zU cp.o.t.row
      obtain ⟨x0,x1,x2,x3⟩:=cp.bx
      have xf:=cp.fr
      have hN:=cp.lt
      obtain ⟨b0,b1,b2,b3⟩:=NB.out.below bz
      obtain ⟨bq,oq,es,s0⟩:=(HG.out.below (BW.out.trans (bz.mono BW.out.size))).w.at hlt
      have hbs:bq<w.heap.size:=by
       obtain ⟨bs',os',es',s0'⟩:=HG.out.w.at hlt
       rw [es] at es'
       cases es'
       exact zJ w _ s0'
      have hsr:=srcT ((HG.out.below (BW.out.trans (bz.mono BW.out.size))).wi k hlt)
      have HLk:=HL.out.w.2 k hlt
      rw [es] at b2
      have CP:Hid (CpB W2.heap.size N c x.y x.sn k wr vp vs (.slice wa' k wc') vh up us uw uh):=cp
      have LSt:Hid (Src wr (x.wA k) (fT (x.wH k) (x.wL k))):=hsr
      have BZ:Hid (Below W2.heap.size W2 wr):=bz
      have hbw:bq<wr.heap.size:=by have:=bz.size;omega
      have hb0w:w.heap.size<wr.heap.size:=by have:=bz.size;omega
      have HSA : Hid (∀ j, (Value.slice wa' k wc').ownBlock = some j → W2.heap.size ≤ j ∧ j ≠ N) := fun j hj => ⟨(cp.o.t.rb j hj).1, fun e => by
       have h2:=(cp.o.t.rb j hj).2
       rw [e,cp.cN] at h2
       cases h2⟩
      clear cp bz hsr HZ es
      go_wp2_with fail
      refine wp_region_G (fun w'=>w'.cell? ⟨N,2,none⟩=some (.slice wa' k wc')/\w'.cell? ⟨w.heap.size,2,none⟩=some (.slice (some ⟨bq,oq,none⟩) x.wn x.wc)/\w'.cell? ⟨bq,oq+k,none⟩=some (.slice (x.wA k) (x.wL k) (x.wC k))) (fun i=>i == 12) (by kernel_rfl) ?_
      have hHeld:=And.intro x2 (And.intro b2 s0)
      refine wpGT_of [0,1,3,4,5,6,7] ?_
      iterate 7 (refine wpGT_take rfl hHeld ?_;apply Exists.intro;refine ⟨fun wq hSw=>?_,?_⟩;(· ((try dsimp only at hSw);go_simp;try with_reducible rfl));(try simp only [Act.put,zD,zE,zF]))
      refine wpGT_nil ?_
      refine wpG_one 2 rfl (by kernel_rfl) (fun K hK=>?_)
      go_simp
      have ba:Below wr.drew.heap.size wr.drew (wr.drew.alloc (.cells #[] 126)):=zQ wr.drew _
      have hHeld1:(fun w'=>w'.cell? ⟨N,2,none⟩=some (.slice wa' k wc')/\w'.cell? ⟨w.heap.size,2,none⟩=some (.slice (some ⟨bq,oq,none⟩) x.wn x.wc)/\w'.cell? ⟨bq,oq+k,none⟩=some (.slice (x.wA k) (x.wL k) (x.wC k))) (wr.drew.alloc (.cells #[] 126)):=⟨((bcell ba).1 _ _ hN).trans x2,((bcell ba).1 _ _ hb0w).trans b2,((bcell ba).1 _ _ hbw).trans s0⟩
      refine hK.out _ _ (fun _=>hHeld1) ?_
      clear hHeld ba
      clear hK K
      (try simp only [Act.put,zD,zE,zF])
      refine wpG_one 8 rfl (by kernel_rfl) (fun K hK=>?_)
      refine stepR_append_srcN kndT wr.drew rfl rfl _ _ rfl (x.wA k) (x.wL k) (x.wC k) (fT (x.wH k) (x.wL k)) rfl rfl (fT_len _ _) LSt.out (fT_one _ _) (zP HLk (by omega)) ?_
      intro v1 w1 o1 d1' n1
      obtain ⟨a1,c1,rfl⟩:=zU o1
      have q1:Below wr.heap.size wr w1:=(Below.refl wr.heap.size wr).drew.trans d1'
      have O1:Hid (w1.ownsRow wr.heap.size 126 2 (.slice a1 (x.wL k) c1) (x.wL k) (fT (x.wH k) (x.wL k))/\Value.slice a1 (x.wL k) c1≠.slice none 0 0):=⟨o1,n1⟩
      have hc1:∀ b o,b<wr.heap.size->w1.cell? ⟨b,o,none⟩=wr.cell? ⟨b,o,none⟩:=fun b o h=>(bcell q1).1 b o h
      have hHeld2:=And.intro ((hc1 _ _ hN).trans x2) (And.intro ((hc1 _ _ hb0w).trans b2) ((hc1 _ _ hbw).trans s0))
      have Q1:Hid (Below wr.heap.size wr w1):=q1
      refine hK.out _ _ (fun _=>hHeld2) ?_
      clear hHeld1 o1 d1' q1 hc1 n1
      clear hK K
      (try simp only [Act.put,zD,zE,zF])
      refine wpG_one 9 rfl (by kernel_rfl) (fun K hK=>?_)
      go_simp
      have ba:=zQ w1 (.cells #[.slice a1 (x.wL k) c1] 124)
      have hca:∀ b o,b<wr.heap.size->(w1.alloc (.cells #[.slice a1 (x.wL k) c1] 124)).cell? ⟨b,o,none⟩=w1.cell? ⟨b,o,none⟩:=fun b o h=>(bcell ba).1 b o (zL h Q1.out.size)
      obtain ⟨e0,e1,e2⟩:=hHeld2
      refine hK.out _ _ (fun _=>⟨(hca _ _ hN).trans e0,(hca _ _ hb0w).trans e1,(hca _ _ hbw).trans e2⟩) ?_
      clear hca ba
      clear hK K
      (try simp only [Act.put,zD,zE,zF])
      refine wpG_one 10 rfl (by kernel_rfl) (fun K hK=>?_)
      refine stepR_append_val kndTT w1 rfl rfl _ _ rfl 0 (.slice wa' k wc') k _ rfl (CP.out.o.t.below Q1.out).row #[.slice a1 (x.wL k) c1] rfl rfl (by intro u hu;simp at hu;subst hu;rfl) (by omega) (Nat.zero_le _) ?_
      intro v3 w3 o3 g3 q3 n3
      obtain ⟨a3,c3,rfl⟩:=zU o3
      have hk3:∀ b,b<wr.heap.size->(b<W2.heap.size\/b=N)->w3.heap[b]? = w1.heap[b]?:=fun b h1 h2=>g3.block b (zL h1 Q1.out.size) fun e=>by
       have:=HSA.out b e.symm
       omega
      have hc3:∀ b o,b<wr.heap.size->(b<W2.heap.size\/b=N)->w3.cell? ⟨b,o,none⟩=w1.cell? ⟨b,o,none⟩:=fun b o h1 h2=>zH (hk3 b h1 h2)
      have hHeld:=And.intro ((hc3 _ _ hN (.inr rfl)).trans e0) (And.intro ((hc3 _ _ hb0w (.inl hl0)).trans e1) ((hc3 _ _ hbw (.inl (by omega))).trans e2))
      have hfN:∀ j,w3.frozen? ⟨N,j,none⟩=false:=fun j=>(zI (hk3 N hN (.inr rfl))).trans (((bcell Q1.out).2 N j hN).trans (xf j))
      have CN:Hid (CpB W2.heap.size N (rcol c wr.heap.size 3) x.y x.sn (k+1) (w3.setCell ⟨N,2,none⟩ (.slice a3 (k+1) c3)) vp vs (.slice a3 (k+1) c3) vh up us (fun j=>if j=k then .slice a1 (x.wL k) c1 else uw j) uh):=CP.out.way Q1.out O1.out.1 O1.out.2 o3 g3 q3
      have BN:Hid (Below W2.heap.size W2 (w3.setCell ⟨N,2,none⟩ (.slice a3 (k+1) c3))):=(Below.grown (BZ.out.trans (Q1.out.mono BZ.out.size)) g3 (zP BZ.out.size Q1.out.size) (fun j hj=>(HSA.out j hj).1)).setCell CP.out.bN _
      refine hK.out _ _ (fun _=>hHeld) ?_
      clear o3 g3 q3 n3 hk3 hc3
      clear hK K
      (try simp only [Act.put,zD,zE,zF])
      refine wpG_take 11 rfl hHeld ?_
      apply Exists.intro
      refine ⟨fun wq hSw=>?_,?_⟩
      ·(try dsimp only at hSw)
       go_simp
       try with_reducible rfl
      (try simp only [Act.put,zD,zE,zF])
      refine wpG_one 12 rfl (by kernel_rfl) (fun K hK=>?_)
      have hcN:=hHeld.1
      have hfN1:=hfN 2
      go_simp
      refine hK.out _ _ (fun h=>?_) ?_
      ·exact absurd h (by decide)
      clear hK K
      (try simp only [Act.put])
      refine wpG_done (by kernel_rfl) ?_ _
      go_wp2
      go_roundw
      case rel=>exact ⟨k+1,by omega,by go_num,⟨_,_,_,_,_,_,_,_,_,CN.out⟩,BN.out⟩
      case measure=>simp [intOf];omega
     ·have hkn:k=x.wn:=by omega
      subst hkn
      obtain ⟨⟨c,vp,vs,vw,vh,up,us,uw,uh,cp⟩,bz⟩:=HZ.out
      obtain ⟨pa',pc',rfl⟩:=zU cp.o.p.row
      obtain ⟨sa',sc',rfl⟩:=zU cp.o.s.row
      obtain ⟨wa',wc',rfl⟩:=zU cp.o.t.row
      obtain ⟨ha',hc',rfl⟩:=zU cp.o.h.row
      obtain ⟨x0,x1,x2,x3⟩:=cp.bx
      replace x0:wr.cell? ⟨N,0,none⟩=some (.slice pa' x.pn pc'):=x0
      replace x3:wr.cell? ⟨N,3,none⟩=some (.slice ha' x.hn hc'):=x3
      obtain ⟨r0,r1,r2,r3⟩:=RB.out.1.below bz
      obtain ⟨-,-,b2,-⟩:=NB.out.below bz
      have rf:∀ j,wr.frozen? ⟨w.heap.size+1,j,none⟩=false:=fun j=>((bcell bz).2 _ _ hl1).trans (RB.out.2 j)
      have HO:Hid (OwnS true wr W2.heap.size c x.y (.slice pa' x.pn pc') (.slice sa' x.sn sc') (.slice wa' x.wn wc') (.slice ha' x.hn hc') up us uw uh):=cp.o
      have BE:Hid (Below w.heap.size w wr):=BW.out.trans (bz.mono BW.out.size)
      have HO2:Hid (∀ W9:World,(∀ k,w.heap.size+1<k->W9.heap[k]? = wr.heap[k]?)->OwnSys true W9 w.heap.size x.y (sysV pa' x.pn pc' sa' x.sn sc' wa' x.wn wc' ha' x.hn hc')):=fun W9 hk9=>by
       have hm:∀ i k,Cl W2.heap.size c i k->k<wr.heap.size->Cl w.heap.size c i k:=fun i k h _=>⟨by have:=h.1;omega,h.2⟩
       have hq:∀ i k,Cl W2.heap.size c i k->k<wr.heap.size->W9.heap[k]? = wr.heap[k]?:=fun i k h _=>hk9 k (by have:=h.1;omega)
       have hm9:∀ i k,Cl W2.heap.size c i k->k<W9.heap.size->Cl w.heap.size c i k:=fun i k h _=>⟨by have:=h.1;omega,h.2⟩
       exact ⟨c,_,_,_,_,up,us,uw,uh,rfl,⟨(HO.out.p.keep (hq 1)).mono (hm9 1),(HO.out.s.keep (hq 2)).mono (hm9 2),(HO.out.t.keep (hq 3)).mono (hm9 3),(HO.out.h.keep (hq 4)).mono (hm9 4)⟩⟩
      clear HZ cp bz HO RB NB HG
      go_wp2
      refine bodyPost_ret (v:=sysV pa' x.pn pc' sa' x.sn sc' wa' x.wn wc' ha' x.hn hc') (by simp [results,Tryz.results46,go_sem,r0,r1,r2,r3]) rfl ⟨_,rfl,HO2.out _ ?_,?_⟩
      ·intro k hk
       repeat (rw [zO _ _ _ _ (by simp;omega)])
      ·have:=BE.out
       go_grown
structure EvK (w:World) (N:Nat) (k q v:Int):Prop where
 c0:w.cell? ⟨N,0,none⟩=some (.int .i64 k)
 c1:w.cell? ⟨N,1,none⟩=some (.int .i64 q)
 c2:w.cell? ⟨N,2,none⟩=some (.int .i64 v)
 fr:∀ j,w.frozen? ⟨N,j,none⟩=false
def Sy.nk (y:Sy) (p:Nat):Int:=nxK (y.pH p) (y.pL p) (y.sS p).p (y.sS p).rs (y.sS p).os (y.sS p).c
def Sy.nq (y:Sy) (p:Nat):Int:=nxP (y.pH p) (y.pL p) (y.sS p).p (y.sS p).rs (y.sS p).os (y.sS p).c
def Sy.nv (y:Sy) (p:Nat):Int:=nxW (y.pH p) (y.pL p) (y.sS p).p (y.sS p).rs (y.sS p).os (y.sS p).c
def tkS (y:Sy) (p:Nat) (f:Int):Int:=if belB f y.pn=true then (if y.wL (f.toNat*y.pn+p)=0 then 3 else if (y.wH (f.toNat*y.pn+p) 0).m=true then 5 else 0) else 2
def fuS (y:Sy) (p:Nat) (k q:Int):Bool:=decide (200<=y.hL p) || (k == 2 && decide (12<=y.wL (p*y.pn+q.toNat)))
def cmS (y:Sy) (p:Nat) (f:Int):Int:=if (y.sS p).c≠0 then 6 else if fuS y p (y.nk p) (y.nq p)=true then 4 else if y.nk p=3 then tkS y p (if y.nq p=9 then f else y.nq p) else 0
theorem rp_okS {g:Nat->I5} {n:Nat} {eh:Nat->E3} (hp:progOkB g n 4=true):∀ k S,rp g n eh k=some S->OkS n S
 | 0,S,h=>by
  simp only [rp,Option.some.injEq] at h
  subst h
  exact newS_ok hp
 | k+1,S,h=>by
  simp only [rp] at h
  cases hr:rp g n eh k with
  | none=>rw [hr] at h;cases h
  | some S0=>
   rw [hr] at h
   simp only [Option.bind_some,rpStep] at h
   split at h
   ·rename_i hd
    simp only [Option.some.injEq] at h
    subst h
    exact doS_ok hd
   ·cases h
theorem Sy.Ok.four {y:Sy} (h:y.Ok) {p:Nat} (hp:p<y.pn):progOkB (y.pH p) (y.pL p) 4=true:=(repO_some (h.rp p hp)).1
theorem Sy.Ok.le200 {y:Sy} (h:y.Ok) {p:Nat} (hp:p<y.pn):y.hL p<=200:=(repO_some (h.rp p hp)).2.1
theorem Sy.Ok.st {y:Sy} (h:y.Ok) {p:Nat} (hp:p<y.pn):OkS (y.pL p) (y.sS p):=rp_okS (h.four hp) _ _ (repO_some (h.rp p hp)).2.2
theorem Sy.Ok.way {y:Sy} (h:y.Ok) {a b:Nat} (ha:a<y.pn) (hb:b<y.pn):y.wL (a*y.pn+b)<=12:=(h.wa a ha b hb).le
variable {z:Bool}
def Sy.setW (y:Sy) (i m:Nat) (H:Nat->I2):Sy:={ y with wL:=fun j=>if j=i then m else y.wL j,wH:=fun j=>if j=i then H else y.wH j }
def Sy.setH (y:Sy) (i m:Nat) (H:Nat->E3):Sy:={ y with hL:=fun j=>if j=i then m else y.hL j,hH:=fun j=>if j=i then H else y.hH j }
def Sy.setS (y:Sy) (i:Nat) (T:S4):Sy:={ y with sS:=fun j=>if j=i then T else y.sS j }
theorem OwnS.putW {w w1:World} {B:Nat} {c:Nat->Nat} {y:Sy} {vp vs vh:Value} {g cap:Nat} {up us uw uh:Nat->Value} (o:OwnS z w B c y vp vs (.slice (some ⟨g,0,none⟩) y.wn cap) vh up us uw uh) {i:Nat} (hi:i<y.wn) {u':Value} {m:Nat} {H':Nat->I2} (hB:B<=w.heap.size) (hs:w.heap.size<=w1.heap.size) (g1:∀ k,k<w.heap.size->(uw i).ownBlock≠some k->w1.heap[k]? = w.heap[k]?)
  (hu:w1.ownsRow 0 126 2 u' m (fT H' m)) (hne:u'≠.slice none 0 0) (hb:∀ k,u'.ownBlock=some k->(uw i).ownBlock=some k\/w.heap.size<=k):
  OwnS z (w1.setCell ⟨g,i,none⟩ u') B (rcol c w.heap.size 3) (y.setW i m H') vp vs (.slice (some ⟨g,0,none⟩) y.wn cap) vh up us (fun j=>if j=i then u' else uw j) uh:=by
 have hP:∀ q k,Cl B c q k->k<w.heap.size->Cl B (rcol c w.heap.size 3) q k:=fun q k h hl=>h.old hl
 have hg:Cl B c 3 g:=o.t.rb g rfl
 have hgl:g<w.heap.size:=(o.t.row.lt g rfl).2
 have hk:∀ q,q≠3->∀ k,Cl B (rcol c w.heap.size 3) q k->k<w.heap.size->(w1.setCell ⟨g,i,none⟩ u').heap[k]? = w.heap[k]?:=fun q hq k h hl=>by
  have e:c k=q:=(rcol_old hl).symm.trans h.2
  refine (zO _ _ _ _ fun ek=>hq ?_).trans (g1 k hl fun ek=>hq ?_)
  ·rw [<- e,ek];exact hg.2
  ·rw [<- e];exact (o.t.ob i hi k ek).2
 refine ⟨(o.p.mono (hP 1)).keep (hk 1 (by decide)),(o.s.mono (hP 2)).keep (hk 2 (by decide)),?_,(o.h.mono (hP 4)).keep (hk 4 (by decide))⟩
 have h:=LL.put o.t hi hs g1 hu (fun _=>hne) hb (P':=Cl B (rcol c w.heap.size 3) 3) (hP 3) fun k h _=>⟨zP hB h,rcol_new h⟩
 have e:(fun j=>if j=i then fT H' m else fT (y.wH j) (y.wL j))=fun j=>fT ((y.setW i m H').wH j) ((y.setW i m H').wL j):=funext fun j=>by
  by_cases q:j=i
  ·simp [Sy.setW,q]
  ·simp [Sy.setW,q]
 rw [e] at h
 exact h
def Sy.way (y:Sy) (p:Nat) (k q v:Int):Sy:=
 { y with
  wL:=if k=2 then fun j=>if j=p*y.pn+q.toNat then y.wL (p*y.pn+q.toNat)+1 else y.wL j
   else if k=3 then fun j=>if j=q.toNat*y.pn+p then y.wL (q.toNat*y.pn+p) - 1 else y.wL j else y.wL
  wH:=if k=2 then fun j=>if j=p*y.pn+q.toNat then (fun i=>if i=y.wL (p*y.pn+q.toNat) then ⟨false,v⟩ else y.wH (p*y.pn+q.toNat) i) else y.wH j
   else if k=3 then fun j=>if j=q.toNat*y.pn+p then (fun i=>y.wH (q.toNat*y.pn+p) (i+1)) else y.wH j else y.wH }
def Sy.evt (y:Sy) (p:Nat) (k q v:Int):Sy:=
 (y.setS p (doS (y.pH p) (y.pL p) (y.sS p).p (y.sS p).rs (y.sS p).os (y.sS p).c k q v)).setH p (y.hL p+1) (fun i=>if i=y.hL p then ⟨k,q,v⟩ else y.hH p i)
def Sy.eq (y:Sy) (p:Nat) (f:Int):Int:=if y.nk p=3 then (if y.nq p=9 then f else y.nq p) else y.nq p
def Sy.ev (y:Sy) (p:Nat) (f:Int):Int:=if y.nk p=3 then (y.wH ((y.eq p f).toNat*y.pn+p) 0).v else y.nv p
def Sy.step (y:Sy) (p:Nat) (f:Int):Sy:=if cmS y p f=0 then (y.way p (y.nk p) (y.eq p f) (y.ev p f)).evt p (y.nk p) (y.eq p f) (y.ev p f) else y
theorem implStateNew_any (w:World):
  Calls Tryz.prog 208 #[] w fun e w'=>∃ v,e=.returned v/\StOwn w' w.heap.size v 0 [0,0,0,0] [] 0/\Below w.heap.size w w':=by
 have hmk:∀ w:World,(Instr.makeSlice 37 (.int .i64 4) (.int .i64 4)).run Tryz.prog w=.ok (.slice (some ⟨w.heap.size,0,none⟩) 4 4) (w.alloc (.cells (madeCells #[.int .i64 0] 4) 3)):=fun w=>run_make_int 4 (by omega) w
 have HM:Hid (∀ w:World,OwnI (w.alloc (.cells (madeCells #[.int .i64 0] 4) 3)) w.heap.size (.slice (some ⟨w.heap.size,0,none⟩) 4 4) [0,0,0,0]):=fun w=>made_own w 4 (by omega)
 go_enter Tryz.func208,Tryz.ntmps208
 go_wp2
 have hB:w.heap.size<=w.heap.size+1:=by omega
 have hM:=HM.out (w.alloc (oQ1 0 (some ⟨w.heap.size+1,0,none⟩) 4 4 none 0 0 0))
 rw [World.size_alloc] at hM
 refine bodyPost_ret (v:=stV 0 (some ⟨w.heap.size+1,0,none⟩) 4 4 none 0 0 0) (by simp [results,Tryz.results208,go_sem]) rfl ⟨_,rfl,⟨_,_,rfl,hM.mono hB,World.ownsRow_nil _ _ _ _,fun k _=>by simp [Value.ownBlock]⟩,by go_grown⟩
structure Rn (w wr:World) (A B C gb n gc k:Nat) (p code:Int) (ra:Option Addr) (rc:Nat) (oa:Option Addr) (oc:Nat) (rs os:List Int):Prop where
 la:wr.cell? ⟨A,0,none⟩=some (.slice (some ⟨gb,0,none⟩) n gc)
 tl:Tl wr w.heap.size wr.heap.size B p code ra rs.length rc oa os.length oc rs os
 fb:∀ j,wr.frozen? ⟨B,j,none⟩=false
 ck:wr.cell? ⟨C,0,none⟩=some (.int .i64 k)
 fc:wr.frozen? ⟨C,0,none⟩=false
 ne:A≠B/\C≠B/\A≠C/\w.heap.size<=A/\w.heap.size<=C
 nh:¬ hasBlock (stV p ra rs.length rc oa os.length oc code) A/\¬ hasBlock (stV p ra rs.length rc oa os.length oc code) C
 be:Below w.heap.size w wr
theorem runOf_any (gb n gc:Nat) (g:Nat->I5) (w:World) (hn:n<=maxLen) (hg:gb<w.heap.size) (hI:InsAt w gb 0 n g) (hp:progOkB g n 4=true):
  Calls Tryz.prog 207 #[.slice (some ⟨gb,0,none⟩) n gc] w fun e w'=>∃ A B C ra rc oa oc,e=.returned (.tuple #[.func (.func 240) #[] #[.pointer (some ⟨A,0,none⟩),.pointer (some ⟨B,0,none⟩),.pointer (some ⟨C,0,none⟩)],.nilIface])/\Rn w w' A B C gb n gc 0 0 0 ra rc oa oc [0,0,0,0] []:=by
 have HI:Hid (InsAt w gb 0 n g):=hI
 have HL:Hid (n<=maxLen):=hn
 have HP:Hid (progOkB g n 4=true):=hp
 clear hI hn
 go_enter Tryz.func207,Tryz.ntmps207
 go_wp2_with fail
 refine (implProgOk_any gb 0 n gc g 4 _ HL.out (by simp;omega) (HI.out.below (by go_grown) hg)).mono ?_
 rintro e w1 ⟨rfl,b1⟩
 have B1:Hid (Below w.heap.size w w1):=below_up (by go_grown) b1 (by simp)
 have z1:w.heap.size<w1.heap.size:=by have:=b1.size;simp at this;omega
 have l1:w1.cell? ⟨w.heap.size,0,none⟩=some (.slice (some ⟨gb,0,none⟩) n gc):=by rw [(bcell b1).1 _ _ (by simp)];simp
 clear b1
 go_wp2_with fail
 refine (implStateNew_any _).mono ?_
 rintro e w2 ⟨v2,rfl,o2,b2⟩
 obtain ⟨ra2,rc2,oa2,oc2,rfl,-,-⟩:=o2.read
 have z2:=b2.size
 have bz:Below w2.heap.size w2 ((w2.alloc (oQ1 0 ra2 4 rc2 oa2 0 oc2 0)).alloc (.cells #[.int .i64 0] 3)):=by go_grown
 have bq:=zT (w2.alloc (oQ1 0 ra2 4 rc2 oa2 0 oc2 0)) (.cells #[.int .i64 0] 3)
 have b12:=b2.trans (bz.mono b2.size)
 have HR:Hid (Rn w ((w2.alloc (oQ1 0 ra2 4 rc2 oa2 0 oc2 0)).alloc (.cells #[.int .i64 0] 3)) w.heap.size w2.heap.size (w2.heap.size+1) gb n gc 0 0 0 ra2 rc2 oa2 oc2 [0,0,0,0] []):=by
  have o2':StOwn w2 w.heap.size (stV 0 ra2 4 rc2 oa2 0 oc2 0) 0 [0,0,0,0] [] 0:=o2.mono (by omega)
  refine ⟨(zH (b12.block w.heap.size z1)).trans l1,((Tl.of_alloc o2' (by omega) _).below bq).widen (by simp) (Nat.le_refl _),fun j=>?_,?_,?_,⟨by omega,by omega,by omega,by omega,by omega⟩,⟨fun h=>?_,fun h=>?_⟩,B1.out.trans (b12.mono B1.out.size)⟩
  ·rw [zI (bq.block w2.heap.size (by simp))]
   exact yD _ _ _ j rfl
  ·have:=zW (w2.alloc (oQ1 0 ra2 4 rc2 oa2 0 oc2 0)) #[.int .i64 0] 3 0 rfl
   rw [World.size_alloc] at this
   exact this
  ·have:=yD (w2.alloc (oQ1 0 ra2 4 rc2 oa2 0 oc2 0)) #[.int .i64 0] 3 0 rfl
   rw [World.size_alloc] at this
   exact this
  ·have:=(o2.lt h).1
   omega
  ·have:=(o2.lt h).2
   omega
 clear o2 b2 bz bq b12 l1
 go_wp2
 exact bodyPost_ret (v:=.tuple #[.func (.func 240) #[] #[.pointer (some ⟨w.heap.size,0,none⟩),.pointer (some ⟨w2.heap.size,0,none⟩),.pointer (some ⟨w2.heap.size+1,0,none⟩)],.nilIface]) (by simp [results,Tryz.results207,go_sem]) rfl ⟨_,_,_,_,_,_,_,rfl,HR.out⟩
theorem StOwn.set1 {w:World} {B N:Nat} {v:Value} {p code:Int} {rs os:List Int} (h:StOwn w B v p rs os code) (hN:N<B) (j:Nat) (u:Value):StOwn (w.setCell ⟨N,j,none⟩ u) B v p rs os code:=by
 obtain ⟨vr,vo,e,o1,o2,ha⟩:=h
 exact ⟨vr,vo,e,o1.setBelow hN _,o2.setBelow hN _,ha⟩
theorem Rn.below {w wr w':World} {A B C gb n gc k:Nat} {p code:Int} {ra:Option Addr} {rc:Nat} {oa:Option Addr} {oc:Nat} {rs os:List Int} (h:Rn w wr A B C gb n gc k p code ra rc oa oc rs os) (hb:Below wr.heap.size wr w'):Rn w w' A B C gb n gc k p code ra rc oa oc rs os:=
 ⟨(zH (hb.block A (zJ wr _ h.la))).trans h.la,(h.tl.below hb).widen hb.size (Nat.le_refl _),fun j=>(zI (hb.block B h.tl.hi)).trans (h.fb j),(zH (hb.block C (zJ wr _ h.ck))).trans h.ck,(zI (hb.block C (zJ wr _ h.ck))).trans h.fc,h.ne,h.nh,h.be.trans (hb.mono h.be.size)⟩
theorem Rn.next {w w4:World} {A B C gb n gc k:Nat} {p code:Int} {ra:Option Addr} {rc:Nat} {oa:Option Addr} {oc:Nat} {rs os:List Int} (h:Rn w w4 A B C gb n gc k p code ra rc oa oc rs os) {B7 R1:Nat} {S:S4} {ra7 oa7:Option Addr} {rc7 oc7:Nat} (o:StOwn w4 B7 (stV S.p ra7 S.rs.length rc7 oa7 S.os.length oc7 S.c) S.p S.rs S.os S.c) (hA:A<B7) (hB:B<B7) (hC:C<B7) (hR:R1<B7) (n1:R1≠A) (n2:R1≠B) (n3:R1≠C) (n4:w.heap.size<=R1) (z7:w.heap.size<=B7):
  Rn w (((((((((w4.setCell ⟨B,0,none⟩ (.int .i64 S.p)).setCell ⟨B,1,none⟩ (.slice ra7 S.rs.length rc7)).setCell ⟨B,2,none⟩ (.slice oa7 S.os.length oc7)).setCell ⟨B,3,none⟩ (.int .i64 S.c)).setCell ⟨C,0,none⟩ (.int .i64 ((k+1:Nat):Int))).setCell ⟨R1,0,none⟩ (.int .i64 S.p)).setCell ⟨R1,1,none⟩ (.slice ra7 S.rs.length rc7)).setCell ⟨R1,2,none⟩ (.slice oa7 S.os.length oc7)).setCell ⟨R1,3,none⟩ (.int .i64 S.c)) A B C gb n gc (k+1) S.p S.c ra7 rc7 oa7 oc7 S.rs S.os:=by
 obtain ⟨e1,e2,e3,e4,e5⟩:=h.ne
 have zB:=h.tl.hi
 have lB:=h.tl.lo
 have o7:StOwn (((((((((w4.setCell ⟨B,0,none⟩ (.int .i64 S.p)).setCell ⟨B,1,none⟩ (.slice ra7 S.rs.length rc7)).setCell ⟨B,2,none⟩ (.slice oa7 S.os.length oc7)).setCell ⟨B,3,none⟩ (.int .i64 S.c)).setCell ⟨C,0,none⟩ (.int .i64 ((k+1:Nat):Int))).setCell ⟨R1,0,none⟩ (.int .i64 S.p)).setCell ⟨R1,1,none⟩ (.slice ra7 S.rs.length rc7)).setCell ⟨R1,2,none⟩ (.slice oa7 S.os.length oc7)).setCell ⟨R1,3,none⟩ (.int .i64 S.c)) B7 (stV S.p ra7 S.rs.length rc7 oa7 S.os.length oc7 S.c) S.p S.rs S.os S.c:=((((((((o.set1 hB _ _).set1 hB _ _).set1 hB _ _).set1 hB _ _).set1 hC _ _).set1 hR _ _).set1 hR _ _).set1 hR _ _).set1 hR _ _
 obtain ⟨b0,b1,b2,b3⟩:=h.tl.box
 have la:=h.la
 have ck:=h.ck
 have dAB:(⟨B,0,none⟩:Addr).block≠(⟨A,0,none⟩:Addr).block:=fun e=>e1 e.symm
 refine ⟨?_,⟨lB,by simp;exact zB,Nat.le_refl _,⟨?_,?_,?_,?_⟩,o7.mono z7,fun j hj=>(o7.lt hj).2,fun hj=>?_⟩,fun j=>?_,?_,?_,⟨e1,e2,e3,e4,e5⟩,⟨fun hj=>?_,fun hj=>?_⟩,?_⟩
 ·go_cell
 ·go_cell
 ·go_cell
 ·go_cell
 ·go_cell
 ·have:=(o.lt hj).1
  omega
 ·simp only [World.frozen?_setCell]
  exact h.fb j
 ·go_cell
 ·simp only [World.frozen?_setCell]
  exact h.fc
 ·have:=(o.lt hj).1
  omega
 ·have:=(o.lt hj).1
  omega
 ·exact ((((((((h.be.setCell lB _).setCell lB _).setCell lB _).setCell lB _).setCell e5 _).setCell n4 _).setCell n4 _).setCell n4 _).setCell n4 _
