import Derived.Test.YtlpckaoldaijlaaGreatDoorSe0
import Derived.Test.YtlpckaoldaijlaaGreatDoorSe27
import Derived.Test.YtlpckaoldaijlaaGreatDoorSe25
import Derived.Test.YtlpckaoldaijlaaGreatDoorSe14
import Derived.Lib.QuietBelow
import Derived.Deep.RegionWith
import Derived.Deep.RegionLaw
import Derived.BigQuiet
namespace Go.Proofs.YtlpckaoldaijlaaGreatDoor
set_option maxRecDepth 100000
set_option maxHeartbeats 1000000
open Go.RowKit Go.Deep
theorem implNth_l (ea:Option Addr) (len cap:Nat) (eh:Nat->E3) (kd pr n:Int) (w:World) (hlen:len<=1048576) (hc:EvL w ea len eh):
  Calls Tryz.prog 106 #[.slice ea len cap,.int .i64 kd,.int .i64 pr,.int .i64 n] w fun e w'=>e=.returned (.int .i64 (nthV eh kd pr len n))/\Below w.heap.size w w':=by
 have HC:Hid (EvL w ea len eh):=hc
 clear hc
 generalize hV:nthV eh kd pr len n=V
 have HV:Hid (nthV eh kd pr len n=V):=hV
 clear hV
 have hpl:=plI_le eh kd pr len
 go_enter Tryz.func106,Tryz.ntmps106
 go_wp2_with fail
 refine (placesOf_l ea len cap eh kd pr w hlen HC.out).mono ?_
 rintro e w1 ⟨v,rfl,o1,b1⟩
 obtain ⟨a0,cp,rfl,s1⟩:=o1.form
 have HS:Hid (Sl w1 a0 (plI eh kd pr len)):=s1
 clear o1 s1
 rcases zK (belB n ((plI eh kd pr len).length:Nat)) with t | t
 ·have hn:0<=n/\n<((plI eh kd pr len).length:Int):=by simpa [belB] using t
  obtain ⟨m,rfl⟩:∃ m:Nat,n=m:=⟨n.toNat,by omega⟩
  have hv:=HV.out
  unfold nthV at hv
  rw [if_pos t,Int.toNat_natCast] at hv
  have hm:m<(plI eh kd pr len).length:=by omega
  have hm':(m:Int)<((plI eh kd pr len).length:Int):=by omega
  obtain ⟨b0,o0,rfl,hlt,hcell⟩:=HS.out.at hm
  rw [hv] at hcell
  clear hn hv HS
  go_wp2_with fail
  refine (isBelow_any _ _ _).mono ?_
  rintro e w2 ⟨rfl,rfl⟩
  go_wp2
  go_ret
  exact ⟨rfl,b1⟩
 ·have hv:=HV.out
  unfold nthV at hv
  rw [if_neg (by rw [t];decide)] at hv
  subst hv
  go_wp2_with fail
  refine (isBelow_any _ _ _).mono ?_
  rintro e w2 ⟨rfl,rfl⟩
  go_wp2
  go_ret
  exact ⟨rfl,b1⟩
theorem specNth_l (ea:Option Addr) (len cap:Nat) (eh:Nat->E3) (kd pr n:Int) (w:World) (hlen:len<=1048576) (hc:EvL w ea len eh) (n0:-9223372036854775808<=n) (n1:n<=9223372036854775807):
  Calls Tryz.prog 147 #[.slice ea len cap,.int .i64 kd,.int .i64 pr,.int .i64 n] w fun e w'=>e=.returned (.int .i64 (nthV eh kd pr len n))/\Below w.heap.size w w':=by
 have hl':(len:Int)<=1048576:=by omega
 have HC:Hid (EvL w ea len eh):=hc
 have HN:Hid (-9223372036854775808<=n/\n<=9223372036854775807):=⟨n0,n1⟩
 clear hc n0 n1
 go_enter Tryz.func147,Tryz.ntmps147
 go_wp2_with fail
 go_loopw [3,9] (fun m i wr=>∃ (k:Nat) (z:Int),k<=len/\i=.int .i64 k/\m=.int .i64 z/\Hid (z=wrap64 (n - (plI eh kd pr k).length)/\belB n ((plI eh kd pr k).length:Nat)=false)/\Below w.heap.size w wr) (fun _ i _=>len - (intOf i).toNat)
 case atStart=>exact ⟨0,n,Nat.zero_le _,rfl,rfl,⟨by have:=HN.out;unfold wrap64;simp [plI,plN];omega,by simp [belB,plI,plN]⟩,Below.refl _ _⟩
 case round=>
  obtain ⟨k,z,hk,rfl,rfl,HZ,hbw⟩:=hrel
  by_cases hlt:k<len
  ·have hlt':(k:Int)<(len:Int):=by omega
   obtain ⟨b,off,rfl,-,c0,c1,c2⟩:=(HC.out.below hbw).at hlt
   rcases zK ((eh k).k == kd) with t1 | t1
   ·rcases zK ((eh k).q == pr) with t2 | t2
    ·have hh:hitB eh kd pr k=true:=by
      unfold hitB
      rw [t1,t2]
      rfl
     have hle:=plI_le eh kd pr k
     rcases zK (z == 0) with t3 | t3
     ·have HV : Hid (nthV eh kd pr len n = k) := nthV_hit hlt hh (by
       obtain ⟨h1,-⟩:=HZ.out
       have:=HN.out
       have h3:z=0:=by simpa using t3
       rw [h3] at h1
       unfold wrap64 at h1
       omega)
      clear hh hle HZ HN
      go_wp2
      go_ret
      exact ⟨ret_int HV.out.symm,hbw⟩
     ·have HS:Hid (wrap64 (z - 1)=wrap64 (n - (plI eh kd pr (k+1)).length)/\belB n ((plI eh kd pr (k+1)).length:Nat)=false):=by
       obtain ⟨h1,h2⟩:=HZ.out
       have h4:=HN.out
       have h3:z≠0:=by simpa using t3
       rw [plI_hit hh,List.length_append]
       refine ⟨?_,?_⟩
       ·rw [h1]
        unfold wrap64
        simp
        omega
       ·simp [belB] at h2 ⊢
        intro h0
        have h5:=h2 h0
        rw [h1] at h3
        unfold wrap64 at h3
        omega
      clear hh hle HZ
      go_wp2
      go_roundw
      case rel=>exact ⟨k+1,wrap64 (z - 1),by omega,by go_num,by simp,HS.out,hbw⟩
      case measure=>simp [intOf];omega
    ·have HH : Hid (plI eh kd pr (k + 1) = plI eh kd pr k) := plI_not (by
      unfold hitB
      rw [t1,t2]
      rfl)
     go_wp2
     go_roundw
     case rel=>exact ⟨k+1,z,by omega,by go_num,rfl,by rw [HH.out];exact HZ.out,hbw⟩
     case measure=>simp [intOf];omega
   ·have HH : Hid (plI eh kd pr (k + 1) = plI eh kd pr k) := plI_not (by
     unfold hitB
     rw [t1]
     rfl)
    go_wp2
    go_roundw
    case rel=>exact ⟨k+1,z,by omega,by go_num,rfl,by rw [HH.out];exact HZ.out,hbw⟩
    case measure=>simp [intOf];omega
  ·have hkl:k=len:=by omega
   have HV:Hid (nthV eh kd pr len n = -1):=by
    have:=HZ.out.2
    rw [hkl] at this
    show nthV eh kd pr len n = -1
    unfold nthV
    rw [if_neg (by rw [this];decide)]
   clear HZ hkl
   go_wp2
   go_ret
   exact ⟨ret_int HV.out.symm,hbw⟩
theorem plN_get (eh:Nat->E3) (kd pr:Int):∀ (n j q:Nat),(plN eh kd pr n)[j]? = some q->q<n/\hitB eh kd pr q=true/\cnt eh kd pr q=j
 | 0,j,q,h=>by simp [plN] at h
 | n+1,j,q,h=>by
  rcases zK (hitB eh kd pr n) with t | t
  ·rw [plN,if_pos t] at h
   by_cases hj:j<(plN eh kd pr n).length
   ·rw [List.getElem?_append_left hj] at h
    obtain ⟨h1,h2,h3⟩:=plN_get eh kd pr n j q h
    exact ⟨by omega,h2,h3⟩
   ·rw [List.getElem?_append_right (by omega)] at h
    have hj2:j - (plN eh kd pr n).length=0:=by
     by_cases e:j - (plN eh kd pr n).length=0
     ·exact e
     ·rw [List.getElem?_eq_none (by simp;omega)] at h
      cases h
    rw [hj2] at h
    simp at h
    subst h
    refine ⟨by omega,t,?_⟩
    unfold cnt
    omega
  ·rw [plN,if_neg (by rw [t];decide)] at h
   obtain ⟨h1,h2,h3⟩:=plN_get eh kd pr n j q h
   exact ⟨by omega,h2,h3⟩
theorem nthV_some {eh:Nat->E3} {kd pr:Int} {len n:Nat} (h:n<cnt eh kd pr len):∃ q:Nat,nthV eh kd pr len n=q/\q<len/\hitB eh kd pr q=true/\cnt eh kd pr q=n:=by
 have hl:n<(plI eh kd pr len).length:=by rw [plI_length];exact h
 obtain ⟨q,h1,h2,h3⟩:=plI_place eh kd pr len n hl
 obtain ⟨-,h4,h5⟩:=plN_get eh kd pr len n q h3
 refine ⟨q,?_,h2,h4,h5⟩
 unfold nthV
 rw [if_pos (by simp [belB];omega),Int.toNat_natCast]
 exact h1
theorem nthV_none {eh:Nat->E3} {kd pr:Int} {len n:Nat} (h:cnt eh kd pr len<=n):nthV eh kd pr len n = -1:=by
 unfold nthV
 rw [if_neg]
 have hl:(plI eh kd pr len).length<=n:=by rw [plI_length];exact h
 simp [belB]
 omega
theorem nthV_more {eh:Nat->E3} {kd pr:Int} {len len' n:Nat} (h:n<cnt eh kd pr len) (hl:len<=len'):nthV eh kd pr len' n=nthV eh kd pr len n:=by
 obtain ⟨q,h1,h2,h3,h4⟩:=nthV_some h
 rw [h1]
 exact nthV_hit (by omega) h3 (by rw [plI_length];show (n:Int)=(cnt eh kd pr q:Nat);omega)
structure Sy.Cut (y:Sy) (c:List Int):Prop where
 len:c.length=y.pn
 le:∀ p,p<y.pn->0<=zi c p/\zi c p<=(y.hL p:Int)
noncomputable def cutB (y:Sy) (c:List Int):Bool:=y.okB && qB (y.Cut c)
def cN (c:List Int) (p:Nat):Nat:=(zi c p).toNat
def sN (y:Sy) (c:Nat->Nat) (a b:Nat):Nat:=cnt (y.hH a) 2 b (c a)
def tN (y:Sy) (c:Nat->Nat) (a b:Nat):Nat:=cnt (y.hH b) 3 a (c b)
def Sy.Wh (y:Sy) (c:Nat->Nat):Prop:=∀ a,a<y.pn->∀ b,b<y.pn->tN y c a b<=sN y c a b
def ovN (y:Sy) (c:Nat->Nat) (a b:Nat):Int:=nthV (y.hH b) 3 a (c b) (sN y c a b:Nat)
theorem ovN_no {y:Sy} {c:Nat->Nat} {a b:Nat} (h:tN y c a b<=sN y c a b):ovN y c a b = -1:=nthV_none h
theorem ovN_yes {y:Sy} {c:Nat->Nat} {a b:Nat} (h:¬ tN y c a b<=sN y c a b):∃ k:Nat,ovN y c a b=k/\k<c b/\hitB (y.hH b) 3 a k=true/\cnt (y.hH b) 3 a k=sN y c a b:=nthV_some (by unfold tN at h;omega)
theorem ovN_full {y:Sy} {c:Nat->Nat} {a b:Nat} (h:¬ tN y c a b<=sN y c a b) (hl:c b<=y.hL b):nthV (y.hH b) 3 a (y.hL b) (sN y c a b:Nat)=ovN y c a b:=nthV_more (by unfold tN at h;omega) hl
theorem ovN_neg {y:Sy} {c:Nat->Nat} {a b:Nat}:ovN y c a b<0 ↔ tN y c a b<=sN y c a b:=by
 refine ⟨fun h=>?_,fun h=>by rw [ovN_no h];decide⟩
 by_cases hc:tN y c a b<=sN y c a b
 ·exact hc
 ·obtain ⟨k,e,-⟩:=ovN_yes hc
  omega
noncomputable def whB (y:Sy) (c:List Int):Bool:=cutB y c && qB (y.Wh (cN c))
structure Sy.Cl (y:Sy) (c e:List Int):Prop where
 len:e.length=y.pn
 le:∀ p,p<y.pn->0<=zi e p/\zi e p<=zi c p
 gr:∀ d:Nat->Nat,(∀ p,p<y.pn->(d p:Int)<=zi c p)->y.Wh d->∀ p,p<y.pn->(d p:Int)<=zi e p
theorem Sy.Cl.start {y:Sy} {c:List Int} (h:y.Cut c):y.Cl c c:=⟨h.len,fun p hp=>⟨(h.le p hp).1,Int.le_refl _⟩,fun _ h _=>h⟩
theorem Sy.Cl.cut {y:Sy} {c e:List Int} (h:y.Cl c e) (hc:y.Cut c):y.Cut e:=⟨h.len,fun p hp=>⟨(h.le p hp).1,Int.le_trans (h.le p hp).2 (hc.le p hp).2⟩⟩
theorem zi_set {e:List Int} {b p:Nat} {k:Int} (hb:b<e.length):zi (e.set b k) p=if p=b then k else zi e p:=by
 by_cases h:p=b
 ·subst h
  rw [if_pos rfl,getD_set_self e p k hb]
 ·rw [if_neg h,getD_set_ne e p b k h]
theorem Sy.Cl.next {y:Sy} {c e:List Int} {a b:Nat} (h:y.Cl c e) (ha:a<y.pn) (hb:b<y.pn) (ho:0<=ovN y (cN e) a b):y.Cl c (e.set b (ovN y (cN e) a b))/\0<=ovN y (cN e) a b/\ovN y (cN e) a b<zi e b:=by
 have hn:¬ tN y (cN e) a b<=sN y (cN e) a b:=fun hc=>by
  have:=ovN_neg.2 hc
  omega
 obtain ⟨k,e1,e2,e3,e4⟩:=ovN_yes hn
 have eb:=(h.le b hb)
 have hkb:(k:Int)<zi e b:=by unfold cN at e2;omega
 refine ⟨⟨by rw [List.length_set];exact h.len,fun p hp=>?_,fun d hd hw p hp=>?_⟩,ho,by omega⟩
 ·rw [zi_set (by rw [h.len];exact hb)]
  by_cases ep:p=b
  ·subst ep
   rw [if_pos rfl]
   omega
  ·rw [if_neg ep]
   exact h.le p hp
 ·rw [zi_set (by rw [h.len];exact hb)]
  have h0:=h.gr d hd hw p hp
  by_cases ep:p=b
  ·subst ep
   rw [if_pos rfl,e1]
   by_cases hc:(d p:Int)<=k
   ·exact hc
   ·exfalso
    have h1 : sN y d a p ≤ sN y (cN e) a p := cnt_mono _ _ _ (by
     have:=h.gr d hd hw a ha
     unfold cN
     omega)
    have h2:cnt (y.hH p) 3 a (k+1)<=tN y d a p:=cnt_mono _ _ _ (by omega)
    rw [cnt_hit e3,e4] at h2
    have:=hw a ha p hb
    omega
  ·rw [if_neg ep]
   exact h0
theorem Sy.Cl.same {y:Sy} {c e e':List Int} (h:y.Cl c e) (hw:y.Wh (cN e)) (h':y.Cl c e') (hw':y.Wh (cN e')):e=e':=by
 refine ext_getD (h.len.trans h'.len.symm) fun p hp=>?_
 have hp':p<y.pn:=by rw [<- h.len];exact hp
 have h1:=h.gr (cN e') (fun q hq=>by have:=h'.le q hq;unfold cN;omega) hw' p hp'
 have h2:=h'.gr (cN e) (fun q hq=>by have:=h.le q hq;unfold cN;omega) hw p hp'
 have h3:=h.le p hp'
 have h4:=h'.le p hp'
 unfold cN at h1 h2
 omega
open Classical in
noncomputable def clS (y:Sy) (c:List Int):List Int:=if h:cutB y c=true/\∃ e,y.Cl c e/\y.Wh (cN e) then h.2.choose else []
theorem clS_no {y:Sy} {c:List Int} (h:cutB y c=false):clS y c=[]:=by
 unfold clS
 rw [dif_neg]
 rw [h]
 simp
theorem clS_yes {y:Sy} {c e:List Int} (h:cutB y c=true) (h1:y.Cl c e) (h2:y.Wh (cN e)):clS y c=e:=by
 unfold clS
 have hx:cutB y c=true/\∃ e,y.Cl c e/\y.Wh (cN e):=⟨h,e,h1,h2⟩
 rw [dif_pos hx]
 exact hx.2.choose_spec.1.same hx.2.choose_spec.2 h1 h2
theorem clS_len (y:Sy) (c:List Int):(clS y c).length<=4:=by
 unfold clS
 split
 ·rename_i h
  rw [h.2.choose_spec.1.len]
  have h1:=h.1
  unfold cutB at h1
  simp only [Bool.and_eq_true] at h1
  exact (Sy.ok_of h1.1).cn.1.2
 ·simp
theorem cutB_parts {y:Sy} {c:List Int} (h:cutB y c=true):y.Ok/\y.Cut c:=by
 unfold cutB at h
 simp only [Bool.and_eq_true] at h
 exact ⟨Sy.ok_of h.1,qB_iff.1 h.2⟩
noncomputable def flS (y:Sy):List Int:=if y.okB=true then (List.range y.hn).map fun p=>(y.hL p:Int) else []
def flT (y:Sy) (k:Nat):List Int:=(List.range k).map fun p=>(y.hL p:Int)
theorem flT_next (y:Sy) (k:Nat):flT y (k+1)=flT y k ++ [(y.hL k:Int)]:=by
 unfold flT
 rw [List.range_succ,List.map_append]
 rfl
theorem flT_len (y:Sy) (k:Nat):(flT y k).length=k:=by simp [flT]
theorem Sy.Ok.hl200 {y:Sy} (h:y.Ok) {p:Nat} (hp:p<y.pn):y.hL p<=200:=(repO_some (h.rp p hp)).2.1
open Go.ChangeShapes Go.WideShapes Go.ChangeAt Go.Sort
theorem Sl.all {w:World} {a0:Option Addr} {xs:List Int} (h:Sl w a0 xs) (hn:0<xs.length):∃ b off,a0=some ⟨b,off,none⟩/\b<w.heap.size/\∀ i,i<xs.length->w.cell? ⟨b,off+i,none⟩=some (.int .i64 (zi xs i)):=by
 rcases h with rfl | h
 ·simp at hn
 ·exact h
theorem RowS.all {w:World} {a0:Option Addr} {n:Nat} {f:Nat->Value} (h:RowS w a0 n f) (hn:0<n):∃ b off,a0=some ⟨b,off,none⟩/\b<w.heap.size/\∀ i,i<n->w.cell? ⟨b,off+i,none⟩=some (f i):=by
 rcases h with rfl | h
 ·omega
 ·exact h
theorem BoxC.belowB {w w':World} {b:Nat} {v0 v1 v2 v3:Value} {B:Nat} (h:BoxC w b v0 v1 v2 v3) (hb:Below B w w') (hB:b<B):BoxC w' b v0 v1 v2 v3:=by
 obtain ⟨h0,h1,h2,h3⟩:=h
 exact ⟨(hb.cell (p:=⟨b,0,none⟩) hB).trans h0,(hb.cell (p:=⟨b,1,none⟩) hB).trans h1,(hb.cell (p:=⟨b,2,none⟩) hB).trans h2,(hb.cell (p:=⟨b,3,none⟩) hB).trans h3⟩
theorem Sy.Cut.nat {y:Sy} {c:List Int} (h:y.Cut c) {p:Nat} (hp:p<y.pn):zi c p=(cN c p:Nat):=by
 have:=h.le p hp
 unfold cN
 omega
theorem Sy.Cut.leN {y:Sy} {c:List Int} (h:y.Cut c) {p:Nat} (hp:p<y.pn):cN c p<=y.hL p:=by
 have:=h.le p hp
 unfold cN
 omega
theorem l8Cut_any (x:SysIn) (ca:Option Addr) (cc:Nat) (c:List Int) (w:World) (hG:SysG w x) (hL:x.Len) (hhn:x.hn=x.pn) (hc:Sl w ca c) (hcl:c.length<=1048576):
  Calls Tryz.prog 48 #[x.v,.slice ca c.length cc] w fun e w'=>e=.returned (.bool (qB (x.y.Cut c)))/\Below w.heap.size w w':=by
 have HG:Hid (SysG w x):=hG
 have HC:Hid (Sl w ca c):=hc
 have hl':(c.length:Int)<=1048576:=by omega
 have hp':(x.pn:Int)<=1048576:=by have:=hL.p.1;omega
 have HLh:Hid (∀ i,i<x.hn->x.hL i<=1048576):=hL.h.2
 have HN:Hid (x.hn=x.pn):=hhn
 have BW:Hid (Below w.heap.size w (w.alloc (oQ4 x.pa x.pn x.pc x.sa x.sn x.sc x.wa x.wn x.wc x.ha x.hn x.hc))):=zT _ _
 have NB:Hid (BoxC (w.alloc (oQ4 x.pa x.pn x.pc x.sa x.sn x.sc x.wa x.wn x.wc x.ha x.hn x.hc)) w.heap.size (.slice x.pa x.pn x.pc) (.slice x.sa x.sn x.sc) (.slice x.wa x.wn x.wc) (.slice x.ha x.hn x.hc)):=BoxC.new w _ _ _ _ _
 clear hG hL hc hhn
 rcases zK ((c.length:Int) != (x.pn:Int)) with t | t
 case inl=>
  have HV:Hid (qB (x.y.Cut c)=false):=qB_false fun h=>by
   have h1:c.length=x.pn:=h.len
   rw [h1] at t
   simp at t
  go_enter Tryz.func48,Tryz.ntmps48
  go_upto_region 1 with fail
  generalize w.alloc (oQ4 x.pa x.pn x.pc x.sa x.sn x.sc x.wa x.wn x.wc x.ha x.hn x.hc)=W2 at *
  obtain ⟨b0,-,-,-⟩:=NB.out
  go_wp2
  go_ret
  rw [HV.out]
  exact ⟨rfl,BW.out⟩
 have HQ:Hid (c.length=x.pn):=by
  have h:(c.length:Int)=(x.pn:Int):=by simpa using t
  show c.length=x.pn
  omega
 go_enter Tryz.func48,Tryz.ntmps48
 go_upto_region 1 with fail
 generalize w.alloc (oQ4 x.pa x.pn x.pc x.sa x.sn x.sc x.wa x.wn x.wc x.ha x.hn x.hc)=W2 at *
 obtain ⟨b0,-,-,-⟩:=NB.out
 go_wp2_with fail
 clear b0 t
 go_loopw [5] (fun i wr=>∃ k:Nat,k<=c.length/\i=.int .i64 k/\Hid (Below w.heap.size w wr/\BoxC wr w.heap.size (.slice x.pa x.pn x.pc) (.slice x.sa x.sn x.sc) (.slice x.wa x.wn x.wc) (.slice x.ha x.hn x.hc))/\Hid (∀ j,j<k->0<=zi c j/\zi c j<=(x.hL j:Int))) (fun i _=>c.length - (intOf i).toNat)
 case atStart=>exact ⟨0,Nat.zero_le _,rfl,⟨BW.out,NB.out⟩,fun j hj=>by omega⟩
 case round=>
  clear BW NB
  obtain ⟨k,hk,rfl,HB,HK⟩:=hrel
  by_cases hlt:k<c.length
  ·have hlt':(k:Int)<(c.length:Int):=by omega
   have hkn:k<x.hn:=by have:=HQ.out;have:=HN.out;omega
   have hkn':(k:Int)<(x.hn:Int):=by omega
   obtain ⟨cb,co,rfl,-,c0⟩:=(HC.out.below HB.out.1).at hlt
   obtain ⟨bh,oh,eh,ch⟩:=(HG.out.below HB.out.1).h.at hkn
   have b3:=HB.out.2.2.2.2
   rw [eh] at b3
   clear eh
   have HZ:Hid (inB (zi c k) 0 (x.hL k)=true ↔ (0<=zi c k/\zi c k<=(x.hL k:Int))):=by
    show _ ↔ _
    simp [inB]
   generalize hZ:zi c k=Z at *
   have HX:Hid (zi c k=Z):=hZ
   clear hZ
   have q0:=cell_regrown c0
   have qh:=cell_regrown ch
   have q3:=cell_regrown b3
   go_upto_region 6 with fail
   clear c0 ch b3
   refine wp_region_quiet_below (by kernel_rfl) (by kernel_rfl) ?_
   repeat (quiet_step (first|(go_at_call 50;exact Calls.regrown_same (l1In_any _ _ _ _))))
   refine wpQuiet_nil ?_
   intro _ hw'
   obtain ⟨⟨dd,os⟩,hw''⟩:=hw'
   subst hw''
   have B3:Hid (Below w.heap.size w (grow (redrawn wr dd) os)/\BoxC (grow (redrawn wr dd) os) w.heap.size (.slice x.pa x.pn x.pc) (.slice x.sa x.sn x.sc) (.slice x.wa x.wn x.wc) (.slice x.ha x.hn x.hc)):=⟨HB.out.1.trans ((below_regrown wr dd os).mono HB.out.1.size),HB.out.2.below (below_regrown wr dd os)⟩
   generalize grow (redrawn wr dd) os=w3 at *
   clear q0 qh q3 HB
   generalize inB Z 0 (x.hL k)=T at *
   cases T with
   | false=>
    have HV:Hid (qB (x.y.Cut c)=false):=qB_false fun h=>by
     have h1:=h.le k (by have:=HQ.out;show k<x.pn;omega)
     exact absurd (HZ.out.2 (HX.out ▸ h1)) (by decide)
    go_wp2
    go_ret
    rw [HV.out]
    exact ⟨rfl,B3.out.1⟩
   | true=>
    have HK':Hid (∀ j,j<k+1->0<=zi c j/\zi c j<=(x.hL j:Int)):=fun j hj=>by
     by_cases e:j=k
     ·subst e
      rw [HX.out]
      exact HZ.out.1 rfl
     ·exact HK.out j (by omega)
    clear HK HZ
    go_wp2
    go_roundw
    case rel=>exact ⟨k+1,by omega,by go_num,B3.out,HK'.out⟩
    case measure=>simp [intOf];omega
  ·have HV:Hid (qB (x.y.Cut c)=true):=qB_true ⟨HQ.out,fun p hp=>HK.out p (by have:=HQ.out;have h1:p<x.pn:=hp;omega)⟩
   have B3:=HB.out.1
   clear HK HB
   go_wp2
   go_ret
   rw [HV.out]
   exact ⟨rfl,B3⟩
theorem l8Over_any (x:SysIn) (ca:Option Addr) (cc:Nat) (c:List Int) (a b:Nat) (w:World) (hG:SysG w x) (hcap:∀ i,i<x.hn->x.hL i<=x.hC i) (hO:x.y.Ok) (hC:x.y.Cut c) (hc:Sl w ca c) (ha:a<x.pn) (hb:b<x.pn):
  Calls Tryz.prog 94 #[x.v,.slice ca c.length cc,.int .i64 a,.int .i64 b] w fun e w'=>e=.returned (.int .i64 (ovN x.y (cN c) a b))/\Below w.heap.size w w':=by
 have hhn:x.hn=x.pn:=hO.cn.2.2.1
 have hah:a<x.hn:=by omega
 have hbh:b<x.hn:=by omega
 have hla:x.hL a<=200:=hO.hl200 ha
 have hlb:x.hL b<=200:=hO.hl200 hb
 have hka:cN c a<=x.hL a:=hC.leN ha
 have hkb:cN c b<=x.hL b:=hC.leN hb
 have eza:=hC.nat (p:=a) ha
 have ezb:=hC.nat (p:=b) hb
 have hcl:c.length=x.pn:=hC.len
 have hcpa:=hcap a hah
 have hcpb:=hcap b hbh
 have HG:Hid (SysG w x):=hG
 have HSl:Hid (Sl w ca c):=hc
 have hac:(a:Int)<(c.length:Int):=by omega
 have hbc:(b:Int)<(c.length:Int):=by omega
 have ha':(a:Int)<(x.hn:Int):=by omega
 have hb':(b:Int)<(x.hn:Int):=by omega
 have HNo:Hid (tN x.y (cN c) a b<=sN x.y (cN c) a b->ovN x.y (cN c) a b = -1):=ovN_no
 have HYes:Hid (¬ tN x.y (cN c) a b<=sN x.y (cN c) a b->nthV (x.hH b) 3 a (x.hL b) (sN x.y (cN c) a b:Nat)=ovN x.y (cN c) a b):=fun h=>ovN_full h hkb
 have hsl:sN x.y (cN c) a b<=200:=zP (cnt_le _ _ _ _) (by omega)
 have htl:tN x.y (cN c) a b<=200:=zP (cnt_le _ _ _ _) (by omega)
 have ka:=slice_to (x.hA a) (x.hL a) (x.hC a) (cN c a) (by omega)
 have kb:=slice_to (x.hA b) (x.hL b) (x.hC b) (cN c b) (by omega)
 have HC1:Hid (∀ wx,Below w.heap.size w wx->Calls Tryz.prog 105 #[.slice (x.hA a) (cN c a) (x.hC a),.int .i64 2,.int .i64 b] wx fun e w'=>e=.returned (.int .i64 (sN x.y (cN c) a b:Nat))/\Below wx.heap.size wx w'):=fun wx hb=>specCount_l (x.hA a) (cN c a) (x.hC a) (x.hH a) 2 b wx (by omega) (((hG.below hb).hi a hah).take (by omega))
 have HC2:Hid (∀ wx,Below w.heap.size w wx->Calls Tryz.prog 105 #[.slice (x.hA b) (cN c b) (x.hC b),.int .i64 3,.int .i64 a] wx fun e w'=>e=.returned (.int .i64 (tN x.y (cN c) a b:Nat))/\Below wx.heap.size wx w'):=fun wx hb=>specCount_l (x.hA b) (cN c b) (x.hC b) (x.hH b) 3 a wx (by omega) (((hG.below hb).hi b hbh).take (by omega))
 have HNt:Hid (∀ wx,Below w.heap.size w wx->Calls Tryz.prog 147 #[.slice (x.hA b) (x.hL b) (x.hC b),.int .i64 3,.int .i64 a,.int .i64 (sN x.y (cN c) a b:Nat)] wx fun e w'=>e=.returned (.int .i64 (nthV (x.hH b) 3 a (x.hL b) (sN x.y (cN c) a b:Nat)))/\Below wx.heap.size wx w'):=fun wx hb=>specNth_l (x.hA b) (x.hL b) (x.hC b) (x.hH b) 3 a _ wx (by omega) ((hG.below hb).hi b hbh) (by omega) (by omega)
 generalize sN x.y (cN c) a b=sn at *
 generalize tN x.y (cN c) a b=tn at *
 generalize ovN x.y (cN c) a b=ov at *
 generalize nthV (x.hH b) 3 a (x.hL b) (sn:Nat)=nv at *
 have HR:Hid (a<c.length/\b<c.length/\a<x.hn/\b<x.hn/\zi c a=(cN c a:Nat)/\zi c b=(cN c b:Nat)):=⟨by omega,by omega,hah,hbh,eza,ezb⟩
 have BW:Hid (Below w.heap.size w (w.alloc (oQ4 x.pa x.pn x.pc x.sa x.sn x.sc x.wa x.wn x.wc x.ha x.hn x.hc))):=zT _ _
 have NB:Hid (BoxC (w.alloc (oQ4 x.pa x.pn x.pc x.sa x.sn x.sc x.wa x.wn x.wc x.ha x.hn x.hc)) w.heap.size (.slice x.pa x.pn x.pc) (.slice x.sa x.sn x.sc) (.slice x.wa x.wn x.wc) (.slice x.ha x.hn x.hc)):=BoxC.new w _ _ _ _ _
 have hsl':(sn:Int)<=200:=by omega
 have htl':(tn:Int)<=200:=by omega
 clear hG hcap hO hC hc hhn hah hbh hcl eza ezb hcpa hcpb
 obtain ⟨cb,co,rfl,-,-⟩:=HSl.out.all (by have:=HR.out;omega)
 have HSc:Hid (∀ wx,Below w.heap.size w wx->∀ i,i<c.length->wx.cell? ⟨cb,co+i,none⟩=some (.int .i64 (zi c i))):=fun wx hb i hi=>by
  obtain ⟨b',o',e,-,h⟩:=(HSl.out.below hb).at hi
  simp only [Option.some.injEq,Addr.mk.injEq] at e
  obtain ⟨rfl,rfl,-⟩:=e
  exact h
 have HRow:Hid (∃ hb ho,x.ha=some ⟨hb,ho,none⟩/\∀ wx,Below w.heap.size w wx->∀ i,i<x.hn->wx.cell? ⟨hb,ho+i,none⟩=some (.slice (x.hA i) (x.hL i) (x.hC i))):=by
  obtain ⟨b1,o1,e1,-,-⟩:=HG.out.h.all (by have:=HR.out;omega)
  refine ⟨b1,o1,e1,fun wx hb i hi=>?_⟩
  obtain ⟨b',o',e,h⟩:=(HG.out.below hb).h.at hi
  rw [e1] at e
  simp only [Option.some.injEq,Addr.mk.injEq] at e
  obtain ⟨rfl,rfl,-⟩:=e
  exact h
 obtain ⟨hbb,hoo,ehh,hrow⟩:=HRow.out
 have HRw:Hid (∀ wx,Below w.heap.size w wx->∀ i,i<x.hn->wx.cell? ⟨hbb,hoo+i,none⟩=some (.slice (x.hA i) (x.hL i) (x.hC i))):=hrow
 have HE:Hid (x.ha=some ⟨hbb,hoo,none⟩):=ehh
 clear HRow hrow ehh
 go_enter Tryz.func94,Tryz.ntmps94
 go_upto_region 1 with fail
 generalize w.alloc (oQ4 x.pa x.pn x.pc x.sa x.sn x.sc x.wa x.wn x.wc x.ha x.hn x.hc)=W2 at *
 have b3:=NB.out.2.2.2
 rw [HE.out] at b3
 have q3:=cell_regrown b3
 have qa:=cell_regrown (HRw.out W2 BW.out a HR.out.2.2.1)
 have qc:=cell_regrown ((HSc.out W2 BW.out a HR.out.1).trans (by rw [HR.out.2.2.2.2.1]))
 have HQ2:Hid (∀ d os,Below w.heap.size w (grow (redrawn W2 d) os)):=fun d os=>BW.out.trans ((below_regrown W2 d os).mono BW.out.size)
 clear b3
 refine wp_region_quiet_below (by kernel_rfl) (by kernel_rfl) ?_
 repeat (quiet_step (first|(go_at_call 105;exact Calls.regrown_of (HC1.out _ (HQ2.out _ _)))))
 refine wpQuiet_nil ?_
 intro _ hw'
 obtain ⟨⟨dd,os⟩,hw''⟩:=hw'
 subst hw''
 have B3:Hid (Below w.heap.size w (grow (redrawn W2 dd) os)/\BoxC (grow (redrawn W2 dd) os) w.heap.size (.slice x.pa x.pn x.pc) (.slice x.sa x.sn x.sc) (.slice x.wa x.wn x.wc) (.slice x.ha x.hn x.hc)):=⟨HQ2.out dd os,NB.out.below (below_regrown W2 dd os)⟩
 generalize grow (redrawn W2 dd) os=w3 at *
 clear q3 qa qc HQ2 BW NB HC1 ka
 have b3:=B3.out.2.2.2.2
 rw [HE.out] at b3
 have q3:=cell_regrown b3
 have qa:=cell_regrown (HRw.out w3 B3.out.1 b HR.out.2.2.2.1)
 have qc:=cell_regrown ((HSc.out w3 B3.out.1 b HR.out.2.1).trans (by rw [HR.out.2.2.2.2.2]))
 have HQ2:Hid (∀ d os,Below w.heap.size w (grow (redrawn w3 d) os)):=fun d os=>B3.out.1.trans ((below_regrown w3 d os).mono B3.out.1.size)
 clear b3
 go_upto_region 2 with fail
 refine wp_region_quiet_below (by kernel_rfl) (by kernel_rfl) ?_
 repeat (quiet_step (first|(go_at_call 105;exact Calls.regrown_of (HC2.out _ (HQ2.out _ _)))))
 refine wpQuiet_nil ?_
 intro _ hw'
 obtain ⟨⟨dd,os⟩,hw''⟩:=hw'
 subst hw''
 have B4:Hid (Below w.heap.size w (grow (redrawn w3 dd) os)/\BoxC (grow (redrawn w3 dd) os) w.heap.size (.slice x.pa x.pn x.pc) (.slice x.sa x.sn x.sc) (.slice x.wa x.wn x.wc) (.slice x.ha x.hn x.hc)):=⟨HQ2.out dd os,B3.out.2.below (below_regrown w3 dd os)⟩
 generalize grow (redrawn w3 dd) os=w4 at *
 clear q3 qa qc HQ2 B3 HC2 kb
 by_cases hts:tn<=sn
 ·have hts':(tn:Int)<=(sn:Int):=by omega
  have HV:=HNo.out hts
  clear HNo HYes
  go_wp2
  go_ret
  exact ⟨ret_int HV.symm,B4.out.1⟩
 ·have hts':¬ (tn:Int)<=(sn:Int):=by omega
  have HV:Hid (nv=ov):=HYes.out hts
  clear HNo HYes
  have b3:=B4.out.2.2.2.2
  rw [HE.out] at b3
  have qa:=HRw.out w4 B4.out.1 b HR.out.2.2.2.1
  go_wp2_with fail
  refine (HNt.out w4 B4.out.1).mono ?_
  rintro e w5 ⟨rfl,q5⟩
  have B5:Hid (Below w.heap.size w w5):=B4.out.1.trans (q5.mono B4.out.1.size)
  rw [HV.out]
  clear q5 b3 qa B4 HNt HV
  go_wp2
  go_ret
  exact ⟨rfl,B5.out⟩
theorem l8Whole_any (x:SysIn) (ca:Option Addr) (cc:Nat) (c:List Int) (w:World) (hG:SysG w x) (hcap:∀ i,i<x.hn->x.hL i<=x.hC i) (hO:x.y.Ok) (hC:x.y.Cut c) (hc:Sl w ca c):
  Calls Tryz.prog 46 #[x.v,.slice ca c.length cc] w fun e w'=>e=.returned (.bool (qB (x.y.Wh (cN c))))/\Below w.heap.size w w':=by
 have hcl:c.length=x.pn:=hC.len
 have h4:x.pn<=4:=hO.cn.1.2
 have hl':(c.length:Int)<=4:=by omega
 have HQ:Hid (c.length=x.pn):=hcl
 have HOv:Hid (∀ wx,Below w.heap.size w wx->∀ a b,a<c.length->b<c.length->Calls Tryz.prog 94 #[x.v,.slice ca c.length cc,.int .i64 (a:Nat),.int .i64 (b:Nat)] wx fun e w'=>e=.returned (.int .i64 (ovN x.y (cN c) a b))/\Below wx.heap.size wx w'):=fun wx hb a b ha hb'=>l8Over_any x ca cc c a b wx (hG.below hb) hcap hO hC (hc.below hb) (by omega) (by omega)
 have BW:Hid (Below w.heap.size w (w.alloc (oQ4 x.pa x.pn x.pc x.sa x.sn x.sc x.wa x.wn x.wc x.ha x.hn x.hc))):=zT _ _
 have NB:Hid (BoxC (w.alloc (oQ4 x.pa x.pn x.pc x.sa x.sn x.sc x.wa x.wn x.wc x.ha x.hn x.hc)) w.heap.size (.slice x.pa x.pn x.pc) (.slice x.sa x.sn x.sc) (.slice x.wa x.wn x.wc) (.slice x.ha x.hn x.hc)):=BoxC.new w _ _ _ _ _
 clear hG hcap hO hC hc hcl h4
 go_enter Tryz.func46,Tryz.ntmps46
 go_upto_region 1 with fail
 generalize w.alloc (oQ4 x.pa x.pn x.pc x.sa x.sn x.sc x.wa x.wn x.wc x.ha x.hn x.hc)=W2 at *
 go_wp2_with fail
 go_loopw [5] (fun i wr=>∃ k:Nat,k<=c.length/\i=.int .i64 k/\Hid (Below w.heap.size w wr/\BoxC wr w.heap.size (.slice x.pa x.pn x.pc) (.slice x.sa x.sn x.sc) (.slice x.wa x.wn x.wc) (.slice x.ha x.hn x.hc))/\Hid (∀ a,a<k->∀ b,b<c.length->tN x.y (cN c) a b<=sN x.y (cN c) a b)) (fun i _=>c.length - (intOf i).toNat)
 case atStart=>exact ⟨0,Nat.zero_le _,rfl,⟨BW.out,NB.out⟩,fun j hj=>by omega⟩
 case round=>
  clear BW NB
  obtain ⟨k,hk,rfl,HB,HK⟩:=hrel
  by_cases hlt:k<c.length
  ·have hlt':(k:Int)<(c.length:Int):=by omega
   go_wp2_with fail
   go_loopw [6] (fun i wr=>∃ j:Nat,j<=c.length/\i=.int .i64 j/\Hid (Below w.heap.size w wr/\BoxC wr w.heap.size (.slice x.pa x.pn x.pc) (.slice x.sa x.sn x.sc) (.slice x.wa x.wn x.wc) (.slice x.ha x.hn x.hc))/\Hid (∀ b,b<j->tN x.y (cN c) k b<=sN x.y (cN c) k b)) (fun i _=>c.length - (intOf i).toNat)
   case atStart=>exact ⟨0,Nat.zero_le _,rfl,HB.out,fun j hj=>by omega⟩
   case round=>
    clear HB
    obtain ⟨j,hj,rfl,HB,HJ⟩:=hrel
    by_cases hjt:j<c.length
    ·have hjt':(j:Int)<(c.length:Int):=by omega
     obtain ⟨b0,b1,b2,b3⟩:=HB.out.2
     go_wp2_with fail
     refine (HOv.out _ HB.out.1 k j hlt hjt).mono ?_
     rintro e w3 ⟨rfl,q3⟩
     have B3:Hid (Below w.heap.size w w3/\BoxC w3 w.heap.size (.slice x.pa x.pn x.pc) (.slice x.sa x.sn x.sc) (.slice x.wa x.wn x.wc) (.slice x.ha x.hn x.hc)):=⟨HB.out.1.trans (q3.mono HB.out.1.size),HB.out.2.below q3⟩
     have HN:Hid (ovN x.y (cN c) k j<0 ↔ tN x.y (cN c) k j<=sN x.y (cN c) k j):=ovN_neg
     generalize ovN x.y (cN c) k j=ov at *
     clear q3 b0 b1 b2 b3 HB
     by_cases ho:0<=ov
     ·have HV:Hid (qB (x.y.Wh (cN c))=false):=qB_false fun h=>by
       have h1:=HN.out.2 (h k (by have:=HQ.out;show k<x.pn;omega) j (by have:=HQ.out;show j<x.pn;omega))
       omega
      go_wp2
      go_ret
      rw [HV.out]
      exact ⟨rfl,B3.out.1⟩
     ·have HJ':Hid (∀ b,b<j+1->tN x.y (cN c) k b<=sN x.y (cN c) k b):=fun b hb=>by
       by_cases e:b=j
       ·subst e
        exact HN.out.1 (by omega)
       ·exact HJ.out b (by omega)
      clear HJ HN
      go_wp2
      go_roundw
      case rel=>exact ⟨j+1,by omega,by go_num,B3.out,HJ'.out⟩
      case measure=>simp [intOf];omega
    ·have HK':Hid (∀ a,a<k+1->∀ b,b<c.length->tN x.y (cN c) a b<=sN x.y (cN c) a b):=fun a ha b hb=>by
      by_cases e:a=k
      ·subst e
       exact HJ.out b (by omega)
      ·exact HK.out a (by omega) b hb
     clear HK HJ
     go_wp2
     go_roundw
     case rel=>exact ⟨k+1,by omega,by go_num,HB.out,HK'.out⟩
     case measure=>simp [intOf];omega
  ·have HV:Hid (qB (x.y.Wh (cN c))=true):=qB_true fun a ha b hb=>HK.out a (by have:=HQ.out;have h1:a<x.pn:=ha;omega) b (by have:=HQ.out;have h1:b<x.pn:=hb;omega)
   have B3:=HB.out.1
   clear HK HB
   go_wp2
   go_ret
   rw [HV.out]
   exact ⟨rfl,B3⟩
structure Sy.Sm (y:Sy):Prop where
 n:y.pn<=16/\y.sn<=16/\y.wn<=16/\y.hn<=16
 p:∀ i,i<y.pn->y.pL i<=1000
 s:∀ i,i<y.sn->(y.sS i).rs.length<=1000/\(y.sS i).os.length<=1000
 w:∀ i,i<y.wn->y.wL i<=1000
 h:∀ i,i<y.hn->y.hL i<=1000
theorem okS_len {n:Nat} {S:S4} (h:OkS n S):S.rs.length<=60/\S.os.length<=60:=by
 obtain ⟨⟨r0,r1,r2,r3,e,-⟩,-,h60,-⟩:=st_parts h
 exact ⟨by rw [e];simp,h60⟩
theorem Sy.Ok.bds {y:Sy} (h:y.Ok):(∀ i,i<y.pn->y.pL i<=30)/\(∀ i,i<y.sn->OkS (y.pL i) (y.sS i))/\(∀ i,i<y.wn->y.wL i<=12)/\(∀ i,i<y.hn->y.hL i<=200):=by
 obtain ⟨⟨h1,h4⟩,hs,hh,hw⟩:=h.cn
 refine ⟨fun i hi=>?_,fun i hi=>h.st (by omega),fun i hi=>?_,fun i hi=>h.le200 (by omega)⟩
 ·have h1:=h.four hi
  simp only [progOkB,Bool.and_eq_true,inB,decide_eq_true_eq] at h1
  have:=h1.2.1
  omega
 ·rw [hw] at hi
  have ha:i / y.pn<y.pn:=Nat.div_lt_of_lt_mul hi
  have hb:i % y.pn<y.pn:=Nat.mod_lt _ (by omega)
  have e:i / y.pn*y.pn+i % y.pn=i:=by rw [Nat.mul_comm];exact Nat.div_add_mod i y.pn
  have:=h.way ha hb
  rw [e] at this
  exact this
theorem Sy.Ok.sm {y:Sy} (h:y.Ok):y.Sm:=by
 obtain ⟨⟨h1,h4⟩,hs,hh,hw⟩:=h.cn
 obtain ⟨b1,b2,b3,b4⟩:=h.bds
 have h16:y.pn*y.pn<=16:=zP (Nat.mul_le_mul h4 h4) (by omega)
 exact ⟨⟨by omega,by omega,by omega,by omega⟩,fun i hi=>by have:=b1 i hi;omega,fun i hi=>by have:=okS_len (b2 i hi);omega,fun i hi=>by have:=b3 i hi;omega,fun i hi=>by have:=b4 i hi;omega⟩
variable {z:Bool}
def Sy.setW (y:Sy) (i m:Nat) (H:Nat->I2):Sy:={ y with wL:=fun j=>if j=i then m else y.wL j,wH:=fun j=>if j=i then H else y.wH j }
def Sy.setH (y:Sy) (i m:Nat) (H:Nat->E3):Sy:={ y with hL:=fun j=>if j=i then m else y.hL j,hH:=fun j=>if j=i then H else y.hH j }
def Sy.setS (y:Sy) (i:Nat) (T:S4):Sy:={ y with sS:=fun j=>if j=i then T else y.sS j }
theorem OwnS.putW {w w1:World} {B:Nat} {c:Nat->Nat} {y:Sy} {vp vs vh:Value} {g cap:Nat} {up us uw uh:Nat->Value} (o:OwnS z w B c y vp vs (.slice (some ⟨g,0,none⟩) y.wn cap) vh up us uw uh) {i:Nat} (hi:i<y.wn) {u':Value} {m:Nat} {H':Nat->I2} (hB:B<=w.heap.size) (hs:w.heap.size<=w1.heap.size) (g1:∀ k,k<w.heap.size->(uw i).ownBlock≠some k->w1.heap[k]? = w.heap[k]?)
  (hu:w1.ownsRow 0 131 2 u' m (fT H' m)) (hne:u'≠.slice none 0 0) (hb:∀ k,u'.ownBlock=some k->(uw i).ownBlock=some k\/w.heap.size<=k):
  OwnS z (w1.setCell ⟨g,i,none⟩ u') B (rcol c w.heap.size 3) (y.setW i m H') vp vs (.slice (some ⟨g,0,none⟩) y.wn cap) vh up us (fun j=>if j=i then u' else uw j) uh:=by
 have hP:∀ q k,Cl B c q k->k<w.heap.size->Cl B (rcol c w.heap.size 3) q k:=fun q k h hl=>h.old hl
 have hg:Cl B c 3 g:=o.t.rb g rfl
 have hgl:g<w.heap.size:=(o.t.row.lt g rfl).2
 have hk:∀ q,q≠3->∀ k,Cl B (rcol c w.heap.size 3) q k->k<w.heap.size->(w1.setCell ⟨g,i,none⟩ u').heap[k]? = w.heap[k]?:=fun q hq k h hl=>by
  have e:c k=q:=(rcol_old hl).symm.trans h.2
  refine (zO _ _ _ _ fun ek=>hq ?_).trans (g1 k hl fun ek=>hq ?_)
  ·rw [<- e,ek];exact hg.2
  ·rw [<- e];exact (o.t.ob i hi k ek).2
 refine ⟨(o.p.mono (hP 1)).keep (hk 1 (by decide)),(o.s.mono (hP 2)).keep (hk 2 (by decide)),?_,(o.h.mono (hP 4)).keep (hk 4 (by decide))⟩
 have h:=LL.put o.t hi hs g1 hu (fun _=>hne) hb (P':=Cl B (rcol c w.heap.size 3) 3) (hP 3) fun k h _=>⟨zP hB h,rcol_new h⟩
 have e:(fun j=>if j=i then fT H' m else fT (y.wH j) (y.wL j))=fun j=>fT ((y.setW i m H').wH j) ((y.setW i m H').wL j):=funext fun j=>by
  by_cases q:j=i
  ·simp [Sy.setW,q]
  ·simp [Sy.setW,q]
 rw [e] at h
 exact h
theorem OwnS.putH {w w1:World} {B:Nat} {c:Nat->Nat} {y:Sy} {vp vs vw:Value} {g cap:Nat} {up us uw uh:Nat->Value} (o:OwnS z w B c y vp vs vw (.slice (some ⟨g,0,none⟩) y.hn cap) up us uw uh) {i:Nat} (hi:i<y.hn) {u':Value} {m:Nat} {H':Nat->E3} (hB:B<=w.heap.size) (hs:w.heap.size<=w1.heap.size) (g1:∀ k,k<w.heap.size->(uh i).ownBlock≠some k->w1.heap[k]? = w.heap[k]?)
  (hu:w1.ownsRow 0 85 3 u' m (fE H' m)) (hne:u'≠.slice none 0 0) (hb:∀ k,u'.ownBlock=some k->(uh i).ownBlock=some k\/w.heap.size<=k):
  OwnS z (w1.setCell ⟨g,i,none⟩ u') B (rcol c w.heap.size 4) (y.setH i m H') vp vs vw (.slice (some ⟨g,0,none⟩) y.hn cap) up us uw (fun j=>if j=i then u' else uh j):=by
 have hP:∀ q k,Cl B c q k->k<w.heap.size->Cl B (rcol c w.heap.size 4) q k:=fun q k h hl=>h.old hl
 have hg:Cl B c 4 g:=o.h.rb g rfl
 have hgl:g<w.heap.size:=(o.h.row.lt g rfl).2
 have hk:∀ q,q≠4->∀ k,Cl B (rcol c w.heap.size 4) q k->k<w.heap.size->(w1.setCell ⟨g,i,none⟩ u').heap[k]? = w.heap[k]?:=fun q hq k h hl=>by
  have e:c k=q:=(rcol_old hl).symm.trans h.2
  refine (zO _ _ _ _ fun ek=>hq ?_).trans (g1 k hl fun ek=>hq ?_)
  ·rw [<- e,ek];exact hg.2
  ·rw [<- e];exact (o.h.ob i hi k ek).2
 refine ⟨(o.p.mono (hP 1)).keep (hk 1 (by decide)),(o.s.mono (hP 2)).keep (hk 2 (by decide)),(o.t.mono (hP 3)).keep (hk 3 (by decide)),?_⟩
 have h:=LL.put o.h hi hs g1 hu (fun _=>hne) hb (P':=Cl B (rcol c w.heap.size 4) 4) (hP 4) fun k h _=>⟨zP hB h,rcol_new h⟩
 have e:(fun j=>if j=i then fE H' m else fE (y.hH j) (y.hL j))=fun j=>fE ((y.setH i m H').hH j) ((y.setH i m H').hL j):=funext fun j=>by
  by_cases q:j=i
  ·simp [Sy.setH,q]
  ·simp [Sy.setH,q]
 rw [e] at h
 exact h
theorem OwnS.putS {w w1:World} {B:Nat} {c:Nat->Nat} {y:Sy} {vp vw vh:Value} {g cap:Nat} {up us uw uh:Nat->Value} (o:OwnS z w B c y vp (.slice (some ⟨g,0,none⟩) y.sn cap) vw vh up us uw uh) {i:Nat} (hi:i<y.sn) {ra oa:Option Addr} {rn rc on oc:Nat} {p code:Int} {T:S4} (hB:B<=w.heap.size) (b1:Below w.heap.size w w1) (hu:StOwn w1 w.heap.size (stV p ra rn rc oa on oc code) T.p T.rs T.os T.c):
  OwnS z ((((w1.setCell ⟨g,i*4,none⟩ (.int .i64 p)).setCell ⟨g,i*4+1,none⟩ (.slice ra rn rc)).setCell ⟨g,i*4+2,none⟩ (.slice oa on oc)).setCell ⟨g,i*4+3,none⟩ (.int .i64 code)) B (rcol c w.heap.size 2) (y.setS i T) vp (.slice (some ⟨g,0,none⟩) y.sn cap) vw vh up (fun j=>if j=i then stV p ra rn rc oa on oc code else us j) uw uh:=by
 have hP:∀ q k,Cl B c q k->k<w.heap.size->Cl B (rcol c w.heap.size 2) q k:=fun q k h hl=>h.old hl
 have hg:Cl B c 2 g:=o.s.rb g rfl
 have hk:∀ q,q≠2->∀ k,Cl B (rcol c w.heap.size 2) q k->k<w.heap.size->((((w1.setCell ⟨g,i*4,none⟩ (.int .i64 p)).setCell ⟨g,i*4+1,none⟩ (.slice ra rn rc)).setCell ⟨g,i*4+2,none⟩ (.slice oa on oc)).setCell ⟨g,i*4+3,none⟩ (.int .i64 code)).heap[k]? = w.heap[k]?:=fun q hq k h hl=>by
  have e:c k=q:=(rcol_old hl).symm.trans h.2
  have hne:k≠g:=fun ek=>hq (by rw [<- e,ek];exact hg.2)
  exact ((zO _ _ _ _ hne).trans ((zO _ _ _ _ hne).trans ((zO _ _ _ _ hne).trans (zO _ _ _ _ hne)))).trans (b1.block k hl)
 exact ⟨(o.p.mono (hP 1)).keep (hk 1 (by decide)),LS.put o.s hi b1 hu (hP 2) fun k h _=>⟨zP hB h,rcol_new h⟩,(o.t.mono (hP 3)).keep (hk 3 (by decide)),(o.h.mono (hP 4)).keep (hk 4 (by decide))⟩
def Sy.way (y:Sy) (p:Nat) (k q v:Int):Sy:=
 { y with
  wL:=if k=2 then fun j=>if j=p*y.pn+q.toNat then y.wL (p*y.pn+q.toNat)+1 else y.wL j
   else if k=3 then fun j=>if j=q.toNat*y.pn+p then y.wL (q.toNat*y.pn+p) - 1 else y.wL j else y.wL
  wH:=if k=2 then fun j=>if j=p*y.pn+q.toNat then (fun i=>if i=y.wL (p*y.pn+q.toNat) then ⟨false,v⟩ else y.wH (p*y.pn+q.toNat) i) else y.wH j
   else if k=3 then fun j=>if j=q.toNat*y.pn+p then (fun i=>y.wH (q.toNat*y.pn+p) (i+1)) else y.wH j else y.wH }
theorem Sy.way_send (y:Sy) (p q:Nat) (v:Int):y.way p 2 q v=y.setW (p*y.pn+q) (y.wL (p*y.pn+q)+1) (fun i=>if i=y.wL (p*y.pn+q) then ⟨false,v⟩ else y.wH (p*y.pn+q) i):=by
 simp [Sy.way,Sy.setW]
theorem Sy.way_take (y:Sy) (p q:Nat) (v:Int):y.way p 3 q v=y.setW (q*y.pn+p) (y.wL (q*y.pn+p) - 1) (fun i=>y.wH (q*y.pn+p) (i+1)):=by
 simp [Sy.way,Sy.setW]
theorem Sy.way_no (y:Sy) (p:Nat) {k:Int} (h2:k≠2) (h3:k≠3) (q v:Int):y.way p k q v=y:=by
 simp [Sy.way,h2,h3]
theorem fT_push (H:Nat->I2) (x:I2) (n:Nat):fT (fun i=>if i=n then x else H i) (n+1)=fT H n ++ cT x:=by
 show flat (fun i=>cT (if i=n then x else H i)) n ++ cT (if n=n then x else H n)=flat (fun i=>cT (H i)) n ++ cT x
 rw [if_pos rfl]
 congr 1
 exact flat_congr fun i hi=>by rw [if_neg (by omega)]
theorem fE_push (H:Nat->E3) (x:E3) (n:Nat):fE (fun i=>if i=n then x else H i) (n+1)=fE H n ++ cE x:=by
 show flat (fun i=>cE (if i=n then x else H i)) n ++ cE (if n=n then x else H n)=flat (fun i=>cE (H i)) n ++ cE x
 rw [if_pos rfl]
 congr 1
 exact flat_congr fun i hi=>by rw [if_neg (by omega)]
def Sy.evt (y:Sy) (p:Nat) (k q v:Int):Sy:=
 (y.setS p (doS (y.pH p) (y.pL p) (y.sS p).p (y.sS p).rs (y.sS p).os (y.sS p).c k q v)).setH p (y.hL p+1) (fun i=>if i=y.hL p then ⟨k,q,v⟩ else y.hH p i)
def Sy.eq (y:Sy) (p:Nat) (f:Int):Int:=if y.nk p=3 then (if y.nq p=9 then f else y.nq p) else y.nq p
def Sy.ev (y:Sy) (p:Nat) (f:Int):Int:=if y.nk p=3 then (y.wH ((y.eq p f).toNat*y.pn+p) 0).v else y.nv p
def Sy.step (y:Sy) (p:Nat) (f:Int):Sy:=if cmS y p f=0 then (y.way p (y.nk p) (y.eq p f) (y.ev p f)).evt p (y.nk p) (y.eq p f) (y.ev p f) else y
theorem Sy.step_no {y:Sy} {p:Nat} {f:Int} (h:cmS y p f≠0):y.step p f=y:=if_neg h
theorem rp_congr {g:Nat->I5} {len:Nat} {eh eh':Nat->E3}:∀ {k:Nat},(∀ i,i<k->eh' i=eh i)->rp g len eh' k=rp g len eh k
 | 0,_=>rfl
 | k+1,h=>by
  show (rp g len eh' k).bind (rpStep g len (eh' k))=(rp g len eh k).bind (rpStep g len (eh k))
  rw [rp_congr fun i hi=>h i (by omega),h k (by omega)]
theorem plN_congr {eh eh':Nat->E3} {kd pr:Int}:∀ {k:Nat},(∀ i,i<k->eh' i=eh i)->plN eh' kd pr k=plN eh kd pr k
 | 0,_=>rfl
 | k+1,h=>by
  have e:=plN_congr (kd:=kd) (pr:=pr) (k:=k) fun i hi=>h i (by omega)
  have hh:hitB eh' kd pr k=hitB eh kd pr k:=by
   unfold hitB
   rw [h k (by omega)]
  unfold plN
  rw [e,hh]
theorem plN_lt {eh:Nat->E3} {kd pr:Int}:∀ {k i:Nat},i ∈ plN eh kd pr k->i<k
 | 0,i,h=>by simp [plN] at h
 | k+1,i,h=>by
  unfold plN at h
  split at h
  ·simp only [List.mem_append,List.mem_singleton] at h
   rcases h with h | h
   ·have:=plN_lt h
    omega
   ·omega
  ·have:=plN_lt h
   omega
theorem valL_congr {eh eh':Nat->E3} {kd pr:Int} {k:Nat} (h:∀ i,i<k->eh' i=eh i):valL eh' kd pr k=valL eh kd pr k:=by
 unfold valL
 rw [plN_congr h]
 exact List.map_congr_left fun i hi=>by rw [h i (plN_lt hi)]
theorem cnt_congr {eh eh':Nat->E3} {kd pr:Int} {k:Nat} (h:∀ i,i<k->eh' i=eh i):cnt eh' kd pr k=cnt eh kd pr k:=by
 unfold cnt
 rw [plN_congr h]
theorem cnt_val (eh:Nat->E3) (kd pr:Int) (k:Nat):cnt eh kd pr k=(valL eh kd pr k).length:=by simp [cnt,valL]
theorem valL_push {eh:Nat->E3} {kd pr:Int} {n:Nat} {x:E3}:valL (fun i=>if i=n then x else eh i) kd pr (n+1)=valL eh kd pr n ++ (if x.k=kd/\x.q=pr then [x.v] else []):=by
 have e:valL (fun i=>if i=n then x else eh i) kd pr n=valL eh kd pr n:=valL_congr fun i hi=>by rw [if_neg (by omega)]
 by_cases h:x.k=kd/\x.q=pr
 ·have hh:hitB (fun i=>if i=n then x else eh i) kd pr n=true:=by
   rw [hitB_iff]
   simp only [if_true]
   exact h
  rw [valL_hit hh,e,if_pos h]
  simp
 ·have hh:hitB (fun i=>if i=n then x else eh i) kd pr n=false:=by
   rcases zK (hitB (fun i=>if i=n then x else eh i) kd pr n) with t | t
   ·rw [hitB_iff] at t
    simp only [if_true] at t
    exact absurd t h
   ·exact t
  rw [valL_not hh,e,if_neg h,List.append_nil]
theorem numL_congr {H H':Nat->I2}:∀ {n:Nat},(∀ i,i<n->H' i=H i)->numL H' n=numL H n
 | 0,_=>rfl
 | n+1,h=>by
  unfold numL
  rw [numL_congr fun i hi=>h i (by omega),h n (by omega)]
theorem numL_push (H:Nat->I2) (n:Nat) (v:Int):numL (fun i=>if i=n then ⟨false,v⟩ else H i) (n+1)=numL H n ++ [v]:=by
 rw [numL_hit (by simp)]
 rw [numL_congr (H:=H) fun i hi=>by rw [if_neg (by omega)]]
 simp
theorem numL_first {H:Nat->I2} (h0:(H 0).m=false):∀ n,numL H (n+1)=(H 0).v :: numL (fun i=>H (i+1)) n
 | 0=>by rw [numL_hit h0];rfl
 | n+1=>by
  rw [numL]
  rw [numL_first h0 n]
  conv=>rhs;rw [numL]
  split <;> simp
theorem Hs.Put.more {x x':Hs} (hn:x'.n=x.n) (hl:∀ j,x.l j<=x'.l j) (he:∀ j i,i<x.l j->x'.e j i=x.e j i) {d:Nat->Nat} (h:x.Put d):x'.Put d:=by
 induction h with
 | start=>exact .start
 | next hd hp hc ih=>
  rename_i d p
  refine .next ih (by omega) ⟨zL hc.1 (hl p),fun hk=>?_⟩
  have e:=he p (d p) hc.1
  rw [e] at hk ⊢
  have hle:=hd.le
  rw [cnt_congr (fun i hi=>he p i (Nat.lt_trans hi hc.1)),cnt_congr (fun i hi=>he _ i (zL hi (hle _)))]
  exact hc.2 hk
theorem way_inj {a b p q n:Nat} (hb:b<n) (hq:q<n) (h:a*n+b=p*n+q):a=p/\b=q:=by
 have h1:(a*n+b) / n=a:=by rw [Nat.mul_comm,Nat.mul_add_div (by omega),Nat.div_eq_of_lt hb,Nat.add_zero]
 have h2:(p*n+q) / n=p:=by rw [Nat.mul_comm,Nat.mul_add_div (by omega),Nat.div_eq_of_lt hq,Nat.add_zero]
 have h3:a=p:=by rw [<- h1,<- h2,h]
 subst h3
 exact ⟨rfl,by omega⟩
theorem same_way {a b p q n:Nat} (h1:a=p) (h2:q=b):a*n+b=p*n+q:=by rw [h1,h2]
theorem Sy.Ok.next {y:Sy} (h:y.Ok) {p:Nat} (hp:p<y.pn) (hc:(y.sS p).c=0):(y.nk p=1\/y.nk p=2\/y.nk p=3\/y.nk p=4)/\(y.nk p≠2->y.nk p≠3->y.nq p=0)/\(y.nk p=2->numB (y.nv p)=true):=by
 have hr:=h.right hp hc
 rw [<- hc] at hr
 have e1:y.nk p=evK (y.pH p (y.sS p).p.toNat).o:=if_pos hr
 have e2:y.nq p=evP (y.pH p (y.sS p).p.toNat).o (y.pH p (y.sS p).p.toNat).n:=if_pos hr
 have e3:y.nv p=evW (y.pH p (y.sS p).p.toNat).o (y.pH p (y.sS p).p.toNat).a (y.sS p).rs:=if_pos hr
 obtain ⟨hpr,hs,-⟩:=right_parts hr
 obtain ⟨⟨a1,a2,a3,a4,ers,n1,n2,n3,n4⟩,⟨k,ek,hk⟩,-,-⟩:=st_parts hs
 have ek':(y.sS p).p.toNat=k:=by omega
 obtain ⟨-,-,⟨m0,m3⟩,-⟩:=ins_range (right_ins hpr hk)
 rw [ek'] at e1 e2 e3
 refine ⟨?_,?_,?_⟩
 ·rw [e1]
  unfold evK
  split
  ·exact .inr (.inl rfl)
  ·split
   ·exact .inr (.inr (.inl rfl))
   ·split
    ·exact .inr (.inr (.inr rfl))
    ·exact .inl rfl
 ·intro h2 h3
  rw [e1] at h2 h3
  rw [e2]
  unfold evK at h2 h3
  unfold evP
  by_cases e6:(y.pH p k).o=6
  ·rw [if_pos e6] at h2
   exact absurd rfl h2
  ·rw [if_neg e6] at h3 ⊢
   by_cases e7:(y.pH p k).o=7
   ·rw [if_pos e7] at h3
    exact absurd rfl h3
   ·rw [if_neg e7]
 ·intro h2
  rw [e1] at h2
  rw [e3,ers]
  have e6:(y.pH p k).o=6:=by
   unfold evK at h2
   by_cases e6:(y.pH p k).o=6
   ·exact e6
   ·rw [if_neg e6] at h2
    split at h2
    ·cases h2
    ·split at h2 <;> cases h2
  unfold evW
  rw [if_pos e6]
  obtain ⟨j,ej⟩:∃ j:Nat,(y.pH p k).a=j:=⟨(y.pH p k).a.toNat,by omega⟩
  have hj:(y.pH p k).a.toNat<4:=by omega
  match (y.pH p k).a.toNat,hj with
  | 0,_=>exact n1
  | 1,_=>exact n2
  | 2,_=>exact n3
  | 3,_=>exact n4
structure Sy.Done (y:Sy) (p:Nat) (f:Int):Prop where
 run:(y.sS p).c=0
 room:y.hL p<200
 peer:0<=y.eq p f/\y.eq p f<(y.pn:Int)
 send:y.nk p=2->y.wL (p*y.pn+(y.eq p f).toNat)<12/\numB (y.ev p f)=true
 take:y.nk p=3->0<y.wL ((y.eq p f).toNat*y.pn+p)/\(y.wH ((y.eq p f).toNat*y.pn+p) 0).m=false/\(y.wH ((y.eq p f).toNat*y.pn+p) 0).v=y.ev p f/\numB (y.ev p f)=true
 can:doB (y.pH p) (y.pL p) (y.sS p).p (y.sS p).rs (y.sS p).os (y.sS p).c (y.nk p) (y.eq p f) (y.ev p f)=true
theorem Sy.Ok.done {y:Sy} (h:y.Ok) {p:Nat} (hp:p<y.pn) {f:Int} (hc:cmS y p f=0):y.Done p f:=by
 unfold cmS at hc
 have h4:y.pn<=4:=h.cn.1.2
 have h1:1<=y.pn:=h.cn.1.1
 by_cases c0:(y.sS p).c=0
 case neg=>
  rw [if_pos c0] at hc
  cases hc
 rw [if_neg (by simpa using c0)] at hc
 by_cases c1:fuS y p (y.nk p) (y.nq p)=true
 ·rw [if_pos c1] at hc
  cases hc
 rw [if_neg c1] at hc
 have hfu:y.hL p<200/\(y.nk p=2->y.wL (p*y.pn+(y.nq p).toNat)<12):=by
  simp only [fuS,Bool.or_eq_true,decide_eq_true_eq,Bool.and_eq_true,beq_iff_eq,not_or,not_and] at c1
  exact ⟨by omega,fun h2=>by have:=c1.2 h2;omega⟩
 obtain ⟨hk,hq0,hnv⟩:=h.next hp c0
 by_cases k3:y.nk p=3
 ·rw [if_pos k3] at hc
  have eQ:y.eq p f=if y.nq p=9 then f else y.nq p:=if_pos k3
  rw [<- eQ] at hc
  have eV:y.ev p f=(y.wH ((y.eq p f).toNat*y.pn+p) 0).v:=if_pos k3
  unfold tkS at hc
  by_cases b:belB (y.eq p f) y.pn=true
  case neg=>
   rw [if_neg b] at hc
   cases hc
  rw [if_pos b] at hc
  have hb:0<=y.eq p f/\y.eq p f<(y.pn:Int):=by simpa [belB] using b
  by_cases w0:y.wL ((y.eq p f).toNat*y.pn+p)=0
  ·rw [if_pos w0] at hc
   cases hc
  rw [if_neg w0] at hc
  by_cases m0:(y.wH ((y.eq p f).toNat*y.pn+p) 0).m=true
  ·rw [if_pos m0] at hc
   cases hc
  have hv:numB (y.ev p f)=true:=by
   have:=(h.wa (y.eq p f).toNat (by omega) p hp).it 0 (by omega)
   simp only [itemB,Bool.and_eq_true] at this
   rw [eV]
   exact this.1
  refine ⟨c0,hfu.1,hb,(fun h2=>by rw [k3] at h2;cases h2),fun _=>⟨by omega,by simpa using m0,eV.symm,hv⟩,?_⟩
  have e3:nxK (y.pH p) (y.pL p) (y.sS p).p (y.sS p).rs (y.sS p).os (y.sS p).c=3:=k3
  unfold doB canB
  rw [if_pos e3,k3,hv]
  simp only [beq_self_eq_true,Bool.true_and]
  by_cases e9:y.nq p=9
  ·have e9':nxP (y.pH p) (y.pL p) (y.sS p).p (y.sS p).rs (y.sS p).os (y.sS p).c=9:=e9
   rw [if_pos e9']
   simp only [belB,decide_eq_true_eq]
   omega
  ·have e9':¬ nxP (y.pH p) (y.pL p) (y.sS p).p (y.sS p).rs (y.sS p).os (y.sS p).c=9:=e9
   rw [if_neg e9',eQ,if_neg e9]
   simp [Sy.nq]
 ·have eQ:y.eq p f=y.nq p:=if_neg k3
  have eV:y.ev p f=y.nv p:=if_neg k3
  have hpe:0<=y.nq p/\y.nq p<(y.pn:Int):=by
   by_cases k2:y.nk p=2
   ·exact h.peer hp k2
   ·rw [hq0 k2 k3]
    omega
  refine ⟨c0,hfu.1,by rw [eQ];exact hpe,fun h2=>⟨by rw [eQ];exact hfu.2 h2,by rw [eV];exact hnv h2⟩,fun h3=>absurd h3 k3,?_⟩
  have e3:¬ nxK (y.pH p) (y.pL p) (y.sS p).p (y.sS p).rs (y.sS p).os (y.sS p).c=3:=k3
  have e0:y.nk p≠0:=by omega
  unfold doB canB
  rw [if_neg e3,eQ,eV]
  simp only [Bool.and_eq_true,bne_iff_ne,beq_iff_eq]
  exact ⟨e0,rfl,rfl,rfl⟩
theorem Sy.Ok.step {y:Sy} (h:y.Ok) {p:Nat} (hp:p<y.pn) {f:Int} (hc:cmS y p f=0):(y.step p f).Ok:=by
 have D:=h.done hp hc
 have e:y.step p f=(y.way p (y.nk p) (y.eq p f) (y.ev p f)).evt p (y.nk p) (y.eq p f) (y.ev p f):=if_pos hc
 rw [e]
 obtain ⟨q,hq⟩:∃ q:Nat,y.eq p f=q:=⟨(y.eq p f).toNat,by have:=D.peer;omega⟩
 have hqn:q<y.pn:=by have:=D.peer;omega
 have D':=D
 obtain ⟨run,room,peer,send,take,can⟩:=D
 rw [hq,Int.toNat_natCast] at send take
 rw [hq] at can ⊢
 generalize hV:y.ev p f=V at *
 obtain ⟨kk,-,-⟩:=h.next hp run
 generalize hK:y.nk p=K at *
 clear hV hK e hc hq peer D'
 -- what happened to each,now
 have hH:∀ a kd pr,valL (((y.way p K q V).evt p K q V).hH a) kd pr (((y.way p K q V).evt p K q V).hL a)=valL (y.hH a) kd pr (y.hL a) ++ (if a=p/\K=kd/\(q:Int)=pr then [V] else []):=by
  intro a kd pr
  show valL (if a=p then (fun i=>if i=y.hL p then (⟨K,q,V⟩:E3) else y.hH p i) else y.hH a) kd pr (if a=p then y.hL p+1 else y.hL a)=_
  by_cases ea:a=p
  ·subst ea
   simp only [if_true,true_and]
   exact valL_push
  ·rw [if_neg ea,if_neg ea,if_neg (fun h=>ea h.1),List.append_nil]
 refine ⟨h.cn,h.pr,fun a ha=>?_,fun a ha i hi=>?_,fun a ha b hb=>?_,?_⟩
 ·show repO (y.pH a) (y.pL a) (if a=p then (fun i=>if i=y.hL p then (⟨K,q,V⟩:E3) else y.hH p i) else y.hH a) (if a=p then y.hL p+1 else y.hL a)=some (if a=p then doS (y.pH p) (y.pL p) (y.sS p).p (y.sS p).rs (y.sS p).os (y.sS p).c K q V else y.sS a)
  by_cases ea:a=p
  ·subst ea
   simp only [if_true]
   have h0:=repO_some (h.rp a hp)
   unfold repO
   rw [if_pos ⟨h0.1,by omega⟩]
   have hr:Go.Proofs.YtlpckaoldaijlaaGreatDoor.rp (y.pH a) (y.pL a) (fun i=>if i=y.hL a then (⟨K,q,V⟩:E3) else y.hH a i) (y.hL a)=some (y.sS a):=(rp_congr fun i hi=>by rw [if_neg (by omega)]).trans h0.2.2
   have:=rp_yes hr (by simpa using can)
   simpa using this
  ·rw [if_neg ea,if_neg ea,if_neg ea]
   exact h.rp a ha
 ·have hi':i<(if a=p then y.hL p+1 else y.hL a):=hi
  show ((if a=p then (fun i=>if i=y.hL p then (⟨K,q,V⟩:E3) else y.hH p i) else y.hH a) i).q<(y.pn:Int)
  by_cases ea:a=p
  ·subst ea
   simp only [if_true] at hi' ⊢
   by_cases ei:i=y.hL a
   ·rw [if_pos ei]
    show (q:Int)<_
    omega
   ·rw [if_neg ei]
    exact h.pe a hp i (by omega)
  ·rw [if_neg ea] at hi' ⊢
   exact h.pe a ha i hi'
 ·have wab:=h.wa a ha b hb
  rw [hH b 3 a,hH a 2 b]
  show WayP (((y.way p K q V)).wH (a*y.pn+b)) ((y.way p K q V).wL (a*y.pn+b)) _ _
  by_cases k2:K=2
  ·subst k2
   rw [Sy.way_send,if_neg (fun h=>by have:=h.2.1;omega),List.append_nil]
   show WayP (if a*y.pn+b=p*y.pn+q then (fun i=>if i=y.wL (p*y.pn+q) then ⟨false,V⟩ else y.wH (p*y.pn+q) i) else y.wH (a*y.pn+b)) (if a*y.pn+b=p*y.pn+q then y.wL (p*y.pn+q)+1 else y.wL (a*y.pn+b)) _ _
   by_cases ew:a*y.pn+b=p*y.pn+q
   ·obtain ⟨rfl,rfl⟩:=way_inj hb hqn ew
    simp only [if_true]
    rw [if_pos ⟨trivial,trivial,trivial⟩]
    obtain ⟨s1,s2⟩:=send rfl
    refine ⟨fun i hi=>?_,by omega,?_⟩
    ·by_cases ei:i=y.wL (a*y.pn+b)
     ·rw [if_pos ei]
      simp [itemB,s2]
     ·rw [if_neg ei]
      exact wab.it i (by omega)
    ·rw [numL_push,<- List.append_assoc,wab.eq]
   ·rw [if_neg ew,if_neg ew,if_neg (fun h=>ew (same_way h.1 (Int.ofNat_inj.1 h.2.2))),List.append_nil]
    exact wab
  ·by_cases k3:K=3
   ·subst k3
    rw [Sy.way_take,if_neg (c:=a=p/\(3:Int)=2/\_) (fun h=>by have:=h.2.1;omega),List.append_nil]
    show WayP (if a*y.pn+b=q*y.pn+p then (fun i=>y.wH (q*y.pn+p) (i+1)) else y.wH (a*y.pn+b)) (if a*y.pn+b=q*y.pn+p then y.wL (q*y.pn+p) - 1 else y.wL (a*y.pn+b)) _ _
    by_cases ew:a*y.pn+b=q*y.pn+p
    ·obtain ⟨rfl,rfl⟩:=way_inj hb hp ew
     simp only [if_true]
     rw [if_pos ⟨trivial,trivial,trivial⟩]
     obtain ⟨t1,t2,t3,-⟩:=take rfl
     obtain ⟨m,em⟩:∃ m,y.wL (a*y.pn+b)=m+1:=⟨y.wL (a*y.pn+b) - 1,by omega⟩
     have weq:=wab.eq
     have wle:=wab.le
     have wit:=wab.it
     rw [em] at weq wle wit ⊢
     rw [Nat.add_sub_cancel]
     refine ⟨fun i hi=>wit (i+1) (by omega),by omega,?_⟩
     rw [numL_first t2,t3] at weq
     rw [List.append_assoc]
     exact weq
    ·rw [if_neg ew,if_neg ew,if_neg (fun h=>ew (same_way (Int.ofNat_inj.1 h.2.2).symm h.1.symm)),List.append_nil]
     exact wab
   ·rw [Sy.way_no y p k2 k3,if_neg (fun h=>k3 h.2.1),if_neg (fun h=>k2 h.2.1),List.append_nil,List.append_nil]
    exact wab
 ·obtain ⟨d,hd,hall⟩:=h.ro
  have hd':((y.way p K q V).evt p K q V).hs.Put d:=by
   refine Hs.Put.more (x:=y.hs) (x':=((y.way p K q V).evt p K q V).hs) rfl (fun j=>?_) (fun j i hi=>?_) hd
   ·show y.hL j<=if j=p then y.hL p+1 else y.hL j
    by_cases ej:j=p
    ·rw [if_pos ej,ej];omega
    ·rw [if_neg ej];exact Nat.le_refl _
   ·have hi':i<y.hL j:=hi
    show (if j=p then (fun i=>if i=y.hL p then (⟨K,q,V⟩:E3) else y.hH p i) else y.hH j) i=y.hH j i
    by_cases ej:j=p
    ·subst ej
     rw [if_pos rfl,if_neg (by omega)]
    ·rw [if_neg ej]
  have hdp:d p=y.hL p:=hall p hp
  have epH:∀ a,a≠p->((y.way p K q V).evt p K q V).hs.e a=y.hH a:=fun a ha=>by
   show (if a=p then _ else y.hH a)=_
   rw [if_neg ha]
  have epp:((y.way p K q V).evt p K q V).hs.e p=fun i=>if i=y.hL p then (⟨K,q,V⟩:E3) else y.hH p i:=by
   show (if p=p then _ else y.hH p)=_
   rw [if_pos rfl]
   rfl
  have elp:((y.way p K q V).evt p K q V).hs.l p=y.hL p+1:=by
   show (if p=p then _ else y.hL p)=_
   rw [if_pos rfl]
   rfl
  have ece:∀ a kd pr,a<y.pn->cnt (((y.way p K q V).evt p K q V).hs.e a) kd pr (d a)=(valL (y.hH a) kd pr (y.hL a)).length:=fun a kd pr ha=>by
   have hda:d a=y.hL a:=hall a ha
   rw [hda,<- cnt_val]
   refine cnt_congr fun i hi=>?_
   by_cases ea:a=p
   ·subst ea
    rw [epp]
    show (if i=y.hL a then (⟨K,q,V⟩:E3) else y.hH a i)=y.hH a i
    rw [if_neg (by omega)]
   ·rw [epH a ea]
  refine ⟨up d p,.next hd' hp ⟨by rw [elp,hdp];omega,fun hk=>?_⟩,fun a ha=>?_⟩
  ·have ee:((y.way p K q V).evt p K q V).hs.e p (d p)=⟨K,q,V⟩:=by rw [epp,hdp];exact if_pos rfl
   rw [ee] at hk ⊢
   have hk':K=3:=hk
   show cnt _ 3 (q:Int) _<cnt (((y.way p K q V).evt p K q V).hs.e (q:Int).toNat) 2 p (d (q:Int).toNat)
   rw [Int.toNat_natCast,ece p 3 q hp,ece q 2 p hqn]
   obtain ⟨t1,t2,-⟩:=take hk'
   obtain ⟨m,em⟩:∃ m,y.wL (q*y.pn+p)=m+1:=⟨y.wL (q*y.pn+p) - 1,by omega⟩
   have weq:=(h.wa q hqn p hp).eq
   rw [em,numL_first t2] at weq
   have:=congrArg List.length weq
   simp only [List.length_append,List.length_cons] at this
   omega
  ·have hda:d a=y.hL a:=hall a ha
   by_cases ea:a=p
   ·subst ea
    rw [up_same,elp,hdp]
   ·rw [up_other ea,hda]
    show y.hL a=if a=p then _ else y.hL a
    rw [if_neg ea]
def Sy.nil (y:Sy):Sy:={ y with pn:=0,sn:=0,wn:=0,hn:=0 }
