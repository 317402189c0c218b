import Derived.Test.YthdaejgmfognbaaGreatDoorTe0
import Derived.Test.YthdaejgmfognbaaGreatDoorTe22
import Derived.Test.YthdaejgmfognbaaGreatDoorTe28
import Derived.Test.YthdaejgmfognbaaGreatDoorTe20
import Derived.Test.YthdaejgmfognbaaGreatDoorTe33
import Derived.Test.YthdaejgmfognbaaGreatDoorTe29
import Derived.Deep.RegionWith
import Derived.Deep.RegionLaw
import Derived.BigQuiet
import Derived.Lib.QuietBelow
import Derived.BigRegion
namespace Go.Proofs.YthdaejgmfognbaaGreatDoor
set_option maxRecDepth 100000
set_option maxHeartbeats 2000000
open Go.RowKit Go.Deep
theorem implCount_l (ea:Option Addr) (len cap:Nat) (eh:Nat->E3) (kd pr:Int) (w:World) (hlen:len<=1048576) (hc:EvL w ea len eh):
  Calls Tryz.prog 120 #[.slice ea len cap,.int .i64 kd,.int .i64 pr] w fun e w'=>e=.returned (.int .i64 ((plN eh kd pr len).length:Nat))/\Below w.heap.size w w':=by
 have HC:Hid (EvL w ea len eh):=hc
 clear hc
 go_enter Tryz.func120,Tryz.ntmps120
 go_wp2_with fail
 refine (placesOf_l ea len cap eh kd pr w hlen HC.out).mono ?_
 rintro e w1 ⟨v,rfl,o1,b1⟩
 obtain ⟨a0,cp,rfl,-⟩:=o1.form
 rw [plI_length]
 go_wp2
 go_ret
 exact ⟨rfl,b1⟩
theorem implNth_l (ea:Option Addr) (len cap:Nat) (eh:Nat->E3) (kd pr n:Int) (w:World) (hlen:len<=1048576) (hc:EvL w ea len eh):
  Calls Tryz.prog 91 #[.slice ea len cap,.int .i64 kd,.int .i64 pr,.int .i64 n] w fun e w'=>e=.returned (.int .i64 (nthV eh kd pr len n))/\Below w.heap.size w w':=by
 have HC:Hid (EvL w ea len eh):=hc
 clear hc
 generalize hV:nthV eh kd pr len n=V
 have HV:Hid (nthV eh kd pr len n=V):=hV
 clear hV
 have hpl:=plI_le eh kd pr len
 go_enter Tryz.func91,Tryz.ntmps91
 go_wp2_with fail
 refine (placesOf_l ea len cap eh kd pr w hlen HC.out).mono ?_
 rintro e w1 ⟨v,rfl,o1,b1⟩
 obtain ⟨a0,cp,rfl,s1⟩:=o1.form
 have HS:Hid (Sl w1 a0 (plI eh kd pr len)):=s1
 clear o1 s1
 rcases zK (belB n ((plI eh kd pr len).length:Nat)) with t | t
 ·have hn:0<=n/\n<((plI eh kd pr len).length:Int):=by simpa [belB] using t
  obtain ⟨m,rfl⟩:∃ m:Nat,n=m:=⟨n.toNat,by omega⟩
  have hv:=HV.out
  unfold nthV at hv
  rw [if_pos t,Int.toNat_natCast] at hv
  have hm:m<(plI eh kd pr len).length:=by omega
  have hm':(m:Int)<((plI eh kd pr len).length:Int):=by omega
  obtain ⟨b0,o0,rfl,hlt,hcell⟩:=HS.out.at hm
  rw [hv] at hcell
  clear hn hv HS
  go_wp2_with fail
  refine (isBelow_any _ _ _).mono ?_
  rintro e w2 ⟨rfl,rfl⟩
  go_wp2
  go_ret
  exact ⟨rfl,b1⟩
 ·have hv:=HV.out
  unfold nthV at hv
  rw [if_neg (by rw [t];decide)] at hv
  subst hv
  go_wp2_with fail
  refine (isBelow_any _ _ _).mono ?_
  rintro e w2 ⟨rfl,rfl⟩
  go_wp2
  go_ret
  exact ⟨rfl,b1⟩
theorem specNth_l (ea:Option Addr) (len cap:Nat) (eh:Nat->E3) (kd pr n:Int) (w:World) (hlen:len<=1048576) (hc:EvL w ea len eh) (n0:-9223372036854775808<=n) (n1:n<=9223372036854775807):
  Calls Tryz.prog 121 #[.slice ea len cap,.int .i64 kd,.int .i64 pr,.int .i64 n] w fun e w'=>e=.returned (.int .i64 (nthV eh kd pr len n))/\Below w.heap.size w w':=by
 have hl':(len:Int)<=1048576:=by omega
 have HC:Hid (EvL w ea len eh):=hc
 have HN:Hid (-9223372036854775808<=n/\n<=9223372036854775807):=⟨n0,n1⟩
 clear hc n0 n1
 go_enter Tryz.func121,Tryz.ntmps121
 go_wp2_with fail
 go_loopw [3,9] (fun m i wr=>∃ (k:Nat) (z:Int),k<=len/\i=.int .i64 k/\m=.int .i64 z/\Hid (z=wrap64 (n - (plI eh kd pr k).length)/\belB n ((plI eh kd pr k).length:Nat)=false)/\Below w.heap.size w wr) (fun _ i _=>len - (intOf i).toNat)
 case atStart=>exact ⟨0,n,Nat.zero_le _,rfl,rfl,⟨by have:=HN.out;unfold wrap64;simp [plI,plN];omega,by simp [belB,plI,plN]⟩,Below.refl _ _⟩
 case round=>
  obtain ⟨k,z,hk,rfl,rfl,HZ,hbw⟩:=hrel
  by_cases hlt:k<len
  ·have hlt':(k:Int)<(len:Int):=by omega
   obtain ⟨b,off,rfl,-,c0,c1,c2⟩:=(HC.out.below hbw).at hlt
   rcases zK ((eh k).k == kd) with t1 | t1
   ·rcases zK ((eh k).q == pr) with t2 | t2
    ·have hh:hitB eh kd pr k=true:=by
      unfold hitB
      rw [t1,t2]
      rfl
     have hle:=plI_le eh kd pr k
     rcases zK (z == 0) with t3 | t3
     ·have HV : Hid (nthV eh kd pr len n = k) := nthV_hit hlt hh (by
       obtain ⟨h1,-⟩:=HZ.out
       have:=HN.out
       have h3:z=0:=by simpa using t3
       rw [h3] at h1
       unfold wrap64 at h1
       omega)
      clear hh hle HZ HN
      go_wp2
      go_ret
      exact ⟨ret_int HV.out.symm,hbw⟩
     ·have HS:Hid (wrap64 (z - 1)=wrap64 (n - (plI eh kd pr (k+1)).length)/\belB n ((plI eh kd pr (k+1)).length:Nat)=false):=by
       obtain ⟨h1,h2⟩:=HZ.out
       have h4:=HN.out
       have h3:z≠0:=by simpa using t3
       rw [plI_hit hh,List.length_append]
       refine ⟨?_,?_⟩
       ·rw [h1]
        unfold wrap64
        simp
        omega
       ·simp [belB] at h2 ⊢
        intro h0
        have h5:=h2 h0
        rw [h1] at h3
        unfold wrap64 at h3
        omega
      clear hh hle HZ
      go_wp2
      go_roundw
      case rel=>exact ⟨k+1,wrap64 (z - 1),by omega,by go_num,by simp,HS.out,hbw⟩
      case measure=>simp [intOf];omega
    ·have HH : Hid (plI eh kd pr (k + 1) = plI eh kd pr k) := plI_not (by
      unfold hitB
      rw [t1,t2]
      rfl)
     go_wp2
     go_roundw
     case rel=>exact ⟨k+1,z,by omega,by go_num,rfl,by rw [HH.out];exact HZ.out,hbw⟩
     case measure=>simp [intOf];omega
   ·have HH : Hid (plI eh kd pr (k + 1) = plI eh kd pr k) := plI_not (by
     unfold hitB
     rw [t1]
     rfl)
    go_wp2
    go_roundw
    case rel=>exact ⟨k+1,z,by omega,by go_num,rfl,by rw [HH.out];exact HZ.out,hbw⟩
    case measure=>simp [intOf];omega
  ·have hkl:k=len:=by omega
   have HV:Hid (nthV eh kd pr len n = -1):=by
    have:=HZ.out.2
    rw [hkl] at this
    show nthV eh kd pr len n = -1
    unfold nthV
    rw [if_neg (by rw [this];decide)]
   clear HZ hkl
   go_wp2
   go_ret
   exact ⟨ret_int HV.out.symm,hbw⟩
theorem plN_get (eh:Nat->E3) (kd pr:Int):∀ (n j q:Nat),(plN eh kd pr n)[j]? = some q->q<n/\hitB eh kd pr q=true/\cnt eh kd pr q=j
 | 0,j,q,h=>by simp [plN] at h
 | n+1,j,q,h=>by
  rcases zK (hitB eh kd pr n) with t | t
  ·rw [plN,if_pos t] at h
   by_cases hj:j<(plN eh kd pr n).length
   ·rw [List.getElem?_append_left hj] at h
    obtain ⟨h1,h2,h3⟩:=plN_get eh kd pr n j q h
    exact ⟨by omega,h2,h3⟩
   ·rw [List.getElem?_append_right (by omega)] at h
    have hj2:j - (plN eh kd pr n).length=0:=by
     by_cases e:j - (plN eh kd pr n).length=0
     ·exact e
     ·rw [List.getElem?_eq_none (by simp;omega)] at h
      cases h
    rw [hj2] at h
    simp at h
    subst h
    refine ⟨by omega,t,?_⟩
    unfold cnt
    omega
  ·rw [plN,if_neg (by rw [t];decide)] at h
   obtain ⟨h1,h2,h3⟩:=plN_get eh kd pr n j q h
   exact ⟨by omega,h2,h3⟩
theorem nthV_some {eh:Nat->E3} {kd pr:Int} {len n:Nat} (h:n<cnt eh kd pr len):∃ q:Nat,nthV eh kd pr len n=q/\q<len/\hitB eh kd pr q=true/\cnt eh kd pr q=n:=by
 have hl:n<(plI eh kd pr len).length:=by rw [plI_length];exact h
 obtain ⟨q,h1,h2,h3⟩:=plI_place eh kd pr len n hl
 obtain ⟨-,h4,h5⟩:=plN_get eh kd pr len n q h3
 refine ⟨q,?_,h2,h4,h5⟩
 unfold nthV
 rw [if_pos (by simp [belB];omega),Int.toNat_natCast]
 exact h1
theorem nthV_none {eh:Nat->E3} {kd pr:Int} {len n:Nat} (h:cnt eh kd pr len<=n):nthV eh kd pr len n = -1:=by
 unfold nthV
 rw [if_neg]
 have hl:(plI eh kd pr len).length<=n:=by rw [plI_length];exact h
 simp [belB]
 omega
theorem nthV_more {eh:Nat->E3} {kd pr:Int} {len len' n:Nat} (h:n<cnt eh kd pr len) (hl:len<=len'):nthV eh kd pr len' n=nthV eh kd pr len n:=by
 obtain ⟨q,h1,h2,h3,h4⟩:=nthV_some h
 rw [h1]
 exact nthV_hit (by omega) h3 (by rw [plI_length];show (n:Int)=(cnt eh kd pr q:Nat);omega)
structure Sy.Cut (y:Sy) (c:List Int):Prop where
 len:c.length=y.pn
 le:∀ p,p<y.pn->0<=zi c p/\zi c p<=(y.hL p:Int)
noncomputable def cutB (y:Sy) (c:List Int):Bool:=y.okB && qB (y.Cut c)
def cN (c:List Int) (p:Nat):Nat:=(zi c p).toNat
def sN (y:Sy) (c:Nat->Nat) (a b:Nat):Nat:=cnt (y.hH a) 2 b (c a)
def tN (y:Sy) (c:Nat->Nat) (a b:Nat):Nat:=cnt (y.hH b) 3 a (c b)
def Sy.Wh (y:Sy) (c:Nat->Nat):Prop:=∀ a,a<y.pn->∀ b,b<y.pn->tN y c a b<=sN y c a b
def ovN (y:Sy) (c:Nat->Nat) (a b:Nat):Int:=nthV (y.hH b) 3 a (c b) (sN y c a b:Nat)
theorem ovN_no {y:Sy} {c:Nat->Nat} {a b:Nat} (h:tN y c a b<=sN y c a b):ovN y c a b = -1:=nthV_none h
theorem ovN_yes {y:Sy} {c:Nat->Nat} {a b:Nat} (h:¬ tN y c a b<=sN y c a b):∃ k:Nat,ovN y c a b=k/\k<c b/\hitB (y.hH b) 3 a k=true/\cnt (y.hH b) 3 a k=sN y c a b:=nthV_some (by unfold tN at h;omega)
theorem ovN_full {y:Sy} {c:Nat->Nat} {a b:Nat} (h:¬ tN y c a b<=sN y c a b) (hl:c b<=y.hL b):nthV (y.hH b) 3 a (y.hL b) (sN y c a b:Nat)=ovN y c a b:=nthV_more (by unfold tN at h;omega) hl
theorem ovN_neg {y:Sy} {c:Nat->Nat} {a b:Nat}:ovN y c a b<0 ↔ tN y c a b<=sN y c a b:=by
 refine ⟨fun h=>?_,fun h=>by rw [ovN_no h];decide⟩
 by_cases hc:tN y c a b<=sN y c a b
 ·exact hc
 ·obtain ⟨k,e,-⟩:=ovN_yes hc
  omega
noncomputable def whB (y:Sy) (c:List Int):Bool:=cutB y c && qB (y.Wh (cN c))
structure Sy.Cl (y:Sy) (c e:List Int):Prop where
 len:e.length=y.pn
 le:∀ p,p<y.pn->0<=zi e p/\zi e p<=zi c p
 gr:∀ d:Nat->Nat,(∀ p,p<y.pn->(d p:Int)<=zi c p)->y.Wh d->∀ p,p<y.pn->(d p:Int)<=zi e p
theorem Sy.Cl.start {y:Sy} {c:List Int} (h:y.Cut c):y.Cl c c:=⟨h.len,fun p hp=>⟨(h.le p hp).1,Int.le_refl _⟩,fun _ h _=>h⟩
theorem Sy.Cl.cut {y:Sy} {c e:List Int} (h:y.Cl c e) (hc:y.Cut c):y.Cut e:=⟨h.len,fun p hp=>⟨(h.le p hp).1,Int.le_trans (h.le p hp).2 (hc.le p hp).2⟩⟩
theorem zi_set {e:List Int} {b p:Nat} {k:Int} (hb:b<e.length):zi (e.set b k) p=if p=b then k else zi e p:=by
 by_cases h:p=b
 ·subst h
  rw [if_pos rfl,getD_set_self e p k hb]
 ·rw [if_neg h,getD_set_ne e p b k h]
theorem Sy.Cl.next {y:Sy} {c e:List Int} {a b:Nat} (h:y.Cl c e) (ha:a<y.pn) (hb:b<y.pn) (ho:0<=ovN y (cN e) a b):y.Cl c (e.set b (ovN y (cN e) a b))/\0<=ovN y (cN e) a b/\ovN y (cN e) a b<zi e b:=by
 have hn:¬ tN y (cN e) a b<=sN y (cN e) a b:=fun hc=>by
  have:=ovN_neg.2 hc
  omega
 obtain ⟨k,e1,e2,e3,e4⟩:=ovN_yes hn
 have eb:=(h.le b hb)
 have hkb:(k:Int)<zi e b:=by unfold cN at e2;omega
 refine ⟨⟨by rw [List.length_set];exact h.len,fun p hp=>?_,fun d hd hw p hp=>?_⟩,ho,by omega⟩
 ·rw [zi_set (by rw [h.len];exact hb)]
  by_cases ep:p=b
  ·subst ep
   rw [if_pos rfl]
   omega
  ·rw [if_neg ep]
   exact h.le p hp
 ·rw [zi_set (by rw [h.len];exact hb)]
  have h0:=h.gr d hd hw p hp
  by_cases ep:p=b
  ·subst ep
   rw [if_pos rfl,e1]
   by_cases hc:(d p:Int)<=k
   ·exact hc
   ·exfalso
    have h1 : sN y d a p ≤ sN y (cN e) a p := cnt_mono _ _ _ (by
     have:=h.gr d hd hw a ha
     unfold cN
     omega)
    have h2:cnt (y.hH p) 3 a (k+1)<=tN y d a p:=cnt_mono _ _ _ (by omega)
    rw [cnt_hit e3,e4] at h2
    have:=hw a ha p hb
    omega
  ·rw [if_neg ep]
   exact h0
theorem Sy.Cl.same {y:Sy} {c e e':List Int} (h:y.Cl c e) (hw:y.Wh (cN e)) (h':y.Cl c e') (hw':y.Wh (cN e')):e=e':=by
 refine ext_getD (h.len.trans h'.len.symm) fun p hp=>?_
 have hp':p<y.pn:=by rw [<- h.len];exact hp
 have h1:=h.gr (cN e') (fun q hq=>by have:=h'.le q hq;unfold cN;omega) hw' p hp'
 have h2:=h'.gr (cN e) (fun q hq=>by have:=h.le q hq;unfold cN;omega) hw p hp'
 have h3:=h.le p hp'
 have h4:=h'.le p hp'
 unfold cN at h1 h2
 omega
open Classical in
noncomputable def clS (y:Sy) (c:List Int):List Int:=if h:cutB y c=true/\∃ e,y.Cl c e/\y.Wh (cN e) then h.2.choose else []
theorem clS_no {y:Sy} {c:List Int} (h:cutB y c=false):clS y c=[]:=by
 unfold clS
 rw [dif_neg]
 rw [h]
 simp
theorem clS_yes {y:Sy} {c e:List Int} (h:cutB y c=true) (h1:y.Cl c e) (h2:y.Wh (cN e)):clS y c=e:=by
 unfold clS
 have hx:cutB y c=true/\∃ e,y.Cl c e/\y.Wh (cN e):=⟨h,e,h1,h2⟩
 rw [dif_pos hx]
 exact hx.2.choose_spec.1.same hx.2.choose_spec.2 h1 h2
theorem cutB_parts {y:Sy} {c:List Int} (h:cutB y c=true):y.Ok/\y.Cut c:=by
 unfold cutB at h
 simp only [Bool.and_eq_true] at h
 exact ⟨Sy.ok_of h.1,qB_iff.1 h.2⟩
open Go.ChangeShapes Go.WideShapes Go.ChangeAt Go.Sort
def sndN (y:Sy) (p i:Nat):Int:=if (y.hH p i).k=3 then nthV (y.hH (y.hH p i).q.toNat) 2 p (y.hL (y.hH p i).q.toNat) ((plN (y.hH p) 3 (y.hH p i).q i).length:Nat) else -1
open Classical in
noncomputable def hasB (y:Sy) (p i:Int):Bool:=y.okB && belB p y.pn && belB i (y.hL p.toNat)
open Classical in
noncomputable def sndS (y:Sy) (p i:Int):Int:=if hasB y p i=true then sndN y p.toNat i.toNat else -1
theorem hasB_parts {y:Sy} {p i:Int} (h:hasB y p i=true):y.Ok/\∃ a b:Nat,p=a/\i=b/\a<y.pn/\b<y.hL a:=by
 simp only [hasB,Bool.and_eq_true,belB,decide_eq_true_eq] at h
 obtain ⟨⟨h1,h2⟩,h3⟩:=h
 refine ⟨Sy.ok_of h1,p.toNat,i.toNat,by omega,by omega,by omega,by omega⟩
theorem hasB_mk {y:Sy} {a b:Nat} (h:y.okB=true) (ha:a<y.pn) (hb:b<y.hL a):hasB y a b=true:=by
 simp only [hasB,h,belB,Bool.true_and,Int.toNat_natCast,Bool.and_eq_true,decide_eq_true_eq]
 omega
theorem l7Sender_any (x:SysIn) (p i:Nat) (w:World) (hG:SysG w x) (hcap:∀ i,i<x.hn->x.hL i<=x.hC i) (hO:x.y.Ok) (hp:p<x.pn) (hi:i<x.hL p):
  Calls Tryz.prog 70 #[x.v,.int .i64 p,.int .i64 i] w fun e w'=>e=.returned (.int .i64 (sndN x.y p i))/\Below w.heap.size w w':=by
 have hhn:x.hn=x.pn:=hO.cn.2.2.1
 have hph:p<x.hn:=by omega
 have hq:0<=(x.hH p i).q/\(x.hH p i).q<(x.pn:Int):=hO.evq hp hi
 have hlp:x.hL p<=200:=hO.hl200 hp
 obtain ⟨q,hqe⟩:∃ q:Nat,(x.hH p i).q=q:=⟨(x.hH p i).q.toNat,by omega⟩
 have hqn:q<x.hn:=by omega
 have hlq:x.hL q<=200:=hO.hl200 (by show q<x.pn;omega)
 have hcp:=hcap p hph
 have hph':(p:Int)<(x.hn:Int):=by omega
 have hqn':(q:Int)<(x.hn:Int):=by omega
 have hi':(i:Int)<(x.hL p:Int):=by omega
 have HG:Hid (SysG w x):=hG
 have HV:Hid (sndN x.y p i=if (x.hH p i).k=3 then nthV (x.hH q) 2 p (x.hL q) ((plN (x.hH p) 3 q i).length:Nat) else -1):=by
  show sndN x.y p i=_
  unfold sndN
  show (if (x.hH p i).k=3 then nthV (x.hH (x.hH p i).q.toNat) 2 p (x.hL (x.hH p i).q.toNat) ((plN (x.hH p) 3 (x.hH p i).q i).length:Nat) else -1)=_
  rw [hqe,Int.toNat_natCast]
 have hcn:(plN (x.hH p) 3 q i).length<=i:=plN_le _ _ _ _
 have ks:=slice_to (x.hA p) (x.hL p) (x.hC p) i (by omega)
 have HCk:Hid (∀ wx,Below w.heap.size w wx->Calls Tryz.prog 115 #[.slice (x.hA p) i (x.hC p),.int .i64 3,.int .i64 q] wx fun e w'=>e=.returned (.int .i64 ((plN (x.hH p) 3 q i).length:Nat))/\Below wx.heap.size wx w'):=fun wx hb=>specCount_l (x.hA p) i (x.hC p) (x.hH p) 3 q wx (by omega) (((hG.below hb).hi p hph).take (by omega))
 have HNt:Hid (∀ wx,Below w.heap.size w wx->Calls Tryz.prog 121 #[.slice (x.hA q) (x.hL q) (x.hC q),.int .i64 2,.int .i64 p,.int .i64 ((plN (x.hH p) 3 q i).length:Nat)] wx fun e w'=>e=.returned (.int .i64 (nthV (x.hH q) 2 p (x.hL q) ((plN (x.hH p) 3 q i).length:Nat)))/\Below wx.heap.size wx w'):=fun wx hb=>specNth_l (x.hA q) (x.hL q) (x.hC q) (x.hH q) 2 p _ wx (by omega) ((hG.below hb).hi q hqn) (by omega) (by omega)
 generalize hCn:(plN (x.hH p) 3 q i).length=cn at *
 generalize hNv:nthV (x.hH q) 2 p (x.hL q) (cn:Nat)=nv at *
 have HQ:Hid ((x.hH p i).q=q):=hqe
 clear hG hcap hO hq hqe hNv hCn hhn
 have BW:Hid (Below w.heap.size w (w.alloc (oQ4 x.pa x.pn x.pc x.sa x.sn x.sc x.wa x.wn x.wc x.ha x.hn x.hc))):=zT _ _
 have NB:Hid (BoxC (w.alloc (oQ4 x.pa x.pn x.pc x.sa x.sn x.sc x.wa x.wn x.wc x.ha x.hn x.hc)) w.heap.size (.slice x.pa x.pn x.pc) (.slice x.sa x.sn x.sc) (.slice x.wa x.wn x.wc) (.slice x.ha x.hn x.hc)):=BoxC.new w _ _ _ _ _
 go_enter Tryz.func70,Tryz.ntmps70
 go_upto_region 1 with fail
 generalize w.alloc (oQ4 x.pa x.pn x.pc x.sa x.sn x.sc x.wa x.wn x.wc x.ha x.hn x.hc)=W2 at *
 obtain ⟨-,-,-,b3⟩:=NB.out
 obtain ⟨bh,oh,eh,cp⟩:=(HG.out.below BW.out).h.at hph
 obtain ⟨bh',oh',eh',cq⟩:=(HG.out.below BW.out).h.at hqn
 rw [eh] at eh' b3
 simp only [Option.some.injEq,Addr.mk.injEq] at eh'
 obtain ⟨rfl,rfl,-⟩:=eh'
 obtain ⟨b,off,ea,zb,e0,e1,e2⟩:=((HG.out.below BW.out).hi p hph).at hi
 rw [ea] at cp ks
 rw [HQ.out] at e1
 have HCk':=HCk.out
 rw [ea] at HCk'
 clear HCk
 have HCk:Hid (∀ wx,Below w.heap.size w wx->Calls Tryz.prog 115 #[.slice (some ⟨b,off,none⟩) i (x.hC p),.int .i64 3,.int .i64 q] wx fun e w'=>e=.returned (.int .i64 (cn:Nat))/\Below wx.heap.size wx w'):=HCk'
 clear HCk' eh ea
 generalize (x.hH p i).k=K at *
 generalize (x.hH p i).v=V at *
 have BW3:Hid (Below w.heap.size w (W2.alloc (oQ0 K q V))):=BW.out.trans ((zT _ _).mono BW.out.size)
 have c0:=zW W2 #[.int .i64 K,.int .i64 q,.int .i64 V] 50 0 rfl
 have c1:=zW W2 #[.int .i64 K,.int .i64 q,.int .i64 V] 50 1 rfl
 have b3':=cell_allocs b3 (oQ0 K q V)
 have cp':=cell_allocs cp (oQ0 K q V)
 have cq':=cell_allocs cq (oQ0 K q V)
 go_upto_region 2 with fail
 clear b3 cp cq e0 e1 e2 zb BW NB
 generalize hN2:W2.heap.size=N2 at *
 clear hN2
 generalize W2.alloc (oQ0 K q V)=W3 at *
 rcases zK (K == 3) with t | t
 case inr=>
  have HV2:Hid (sndN x.y p i = -1):=by
   show sndN x.y p i = -1
   rw [HV.out,if_neg (by simpa using t)]
  clear HV
  go_wp2
  go_ret
  exact ⟨ret_int HV2.out.symm,BW3.out⟩
 case inl=>
  have HV2:Hid (sndN x.y p i=nv):=by
   show sndN x.y p i=nv
   rw [HV.out,if_pos (by simpa using t)]
  clear HV
  have q1:=cell_regrown c1
  have q3:=cell_regrown b3'
  have qp:=cell_regrown cp'
  have qq:=cell_regrown cq'
  have HQ2:Hid (∀ d os,Below w.heap.size w (grow (redrawn W3 d) os)):=fun d os=>BW3.out.trans ((below_regrown W3 d os).mono BW3.out.size)
  go_upto_region 4 with fail
  clear c1 b3' cp' cq'
  refine wp_region_quiet_below (by kernel_rfl) (by kernel_rfl) ?_
  repeat (quiet_step (first|(go_at_call 115;exact Calls.regrown_of (HCk.out _ (HQ2.out _ _)))|(go_at_call 121;exact Calls.regrown_of (HNt.out _ (HQ2.out _ _)))))
  refine wpQuiet_nil ?_
  intro _ hw'
  obtain ⟨⟨dd,os⟩,hw''⟩:=hw'
  subst hw''
  have B3:=HQ2.out dd os
  generalize grow (redrawn W3 dd) os=w3 at *
  go_wp2
  go_ret
  exact ⟨ret_int HV2.out.symm,B3⟩
theorem l7Has_any (x:SysIn) (p i:Int) (w:World) (hG:SysG w x) (hL:x.Len) (hcap:∀ i,i<x.hn->x.hL i<=x.hC i):
  Calls Tryz.prog 67 #[x.v,.int .i64 p,.int .i64 i] w fun e w'=>e=.returned (.bool (hasB x.y p i))/\Below w.heap.size w w':=by
 have HG:Hid (SysG w x):=hG
 have HL:Hid x.Len:=hL
 have HS:Hid (∀ wx,Below w.heap.size w wx->Calls Tryz.prog 20 #[x.v] wx fun e w'=>e=.returned (.bool x.y.okB)/\Below wx.heap.size wx w'):=fun wx hb=>specSysOk_any x wx (HG.out.below hb) hL hcap
 have BW:Hid (Below w.heap.size w (w.alloc (oQ4 x.pa x.pn x.pc x.sa x.sn x.sc x.wa x.wn x.wc x.ha x.hn x.hc))):=zT _ _
 have NB:Hid (BoxC (w.alloc (oQ4 x.pa x.pn x.pc x.sa x.sn x.sc x.wa x.wn x.wc x.ha x.hn x.hc)) w.heap.size (.slice x.pa x.pn x.pc) (.slice x.sa x.sn x.sc) (.slice x.wa x.wn x.wc) (.slice x.ha x.hn x.hc)):=BoxC.new w _ _ _ _ _
 clear hG hL hcap
 go_enter Tryz.func67,Tryz.ntmps67
 go_wp2_with fail
 generalize w.alloc (oQ4 x.pa x.pn x.pc x.sa x.sn x.sc x.wa x.wn x.wc x.ha x.hn x.hc)=W2 at *
 refine (HS.out W2 BW.out).mono ?_
 rintro e w1 ⟨rfl,q1⟩
 have B1:Hid (Below w.heap.size w w1/\BoxC w1 w.heap.size (.slice x.pa x.pn x.pc) (.slice x.sa x.sn x.sc) (.slice x.wa x.wn x.wc) (.slice x.ha x.hn x.hc)):=⟨BW.out.trans (q1.mono BW.out.size),NB.out.below q1⟩
 clear q1 BW NB HS
 rcases zK x.y.okB with t | t
 case inr=>
  have HV:Hid (hasB x.y p i=false):=by
   show hasB x.y p i=false
   rw [hasB,t]
   rfl
  rw [t]
  clear t
  go_wp2
  go_ret
  rw [HV.out]
  exact ⟨rfl,B1.out.1⟩
 have HO:Hid x.y.Ok:=Sy.ok_of t
 have h4:(x.pn:Int)<=4:=by have:x.pn<=4:=HO.out.cn.1.2;omega
 have HT:Hid (x.y.okB=true):=t
 rw [t]
 clear t
 obtain ⟨b0,-,-,b3⟩:=B1.out.2
 go_wp2_with fail
 refine (l1In_any _ _ _ _).mono ?_
 rintro e w2 ⟨rfl,rfl⟩
 rcases zK (inB p 0 ((x.pn:Int) - 1)) with tp | tp
 case inr=>
  have HV:Hid (hasB x.y p i=false):=by
   show hasB x.y p i=false
   have:belB p x.y.pn=false:=by
    simp only [inB,decide_eq_false_iff_not] at tp
    simp only [belB,decide_eq_false_iff_not]
    show ¬ (0<=p/\p<(x.pn:Int))
    omega
   rw [hasB,this]
   simp
  rw [tp]
  clear tp
  go_wp2
  go_ret
  rw [HV.out]
  exact ⟨rfl,B1.out.1⟩
 have hp0:0<=p/\p<(x.pn:Int):=by
  simp only [inB,decide_eq_true_eq] at tp
  omega
 obtain ⟨a,rfl⟩:∃ a:Nat,p=a:=⟨p.toNat,by omega⟩
 have hhn:x.hn=x.pn:=HO.out.cn.2.2.1
 have ha:a<x.hn:=by omega
 have ha':(a:Int)<(x.hn:Int):=by omega
 have hl:(x.hL a:Int)<=200:=by have:x.hL a<=200:=HO.out.hl200 (by show a<x.pn;omega);omega
 obtain ⟨bh,oh,eh,ca⟩:=(HG.out.below B1.out.1).h.at ha
 rw [eh] at b3
 rw [tp]
 have HV:Hid (hasB x.y a i=inB i 0 ((x.hL a:Int) - 1)):=by
  show hasB x.y a i=_
  have h1:belB (a:Int) x.y.pn=true:=by
   simp only [belB,decide_eq_true_eq]
   show 0<=(a:Int)/\(a:Int)<(x.pn:Int)
   omega
  rw [hasB,HT.out,h1,Int.toNat_natCast]
  show belB i (x.hL a)=_
  simp only [belB,inB]
  by_cases h:0<=i/\i<(x.hL a:Int)
  ·rw [decide_eq_true h,decide_eq_true (by omega)]
  ·rw [decide_eq_false h,decide_eq_false (by omega)]
 clear tp eh hhn hp0
 go_wp2_with fail
 refine (l1In_any _ _ _ _).mono ?_
 rintro e w2 ⟨rfl,rfl⟩
 rw [<- HV.out]
 go_wp2
 go_ret
 exact ⟨rfl,B1.out.1⟩
theorem specSender_any (x:SysIn) (p i:Int) (w:World) (hG:SysG w x) (hL:x.Len) (hcap:∀ i,i<x.hn->x.hL i<=x.hC i):
  Calls Tryz.prog 26 #[x.v,.int .i64 p,.int .i64 i] w fun e w'=>e=.returned (.int .i64 (sndS x.y p i))/\Below w.heap.size w w':=by
 have HS:Hid (∀ wx,Below w.heap.size w wx->Calls Tryz.prog 67 #[x.v,.int .i64 p,.int .i64 i] wx fun e w'=>e=.returned (.bool (hasB x.y p i))/\Below wx.heap.size wx w'):=fun wx hb=>l7Has_any x p i wx (hG.below hb) hL hcap
 have HN:Hid (hasB x.y p i=true->∀ wx,Below w.heap.size w wx->Calls Tryz.prog 70 #[x.v,.int .i64 p,.int .i64 i] wx fun e w'=>e=.returned (.int .i64 (sndS x.y p i))/\Below wx.heap.size wx w'):=fun h wx hb=>by
  have e:sndS x.y p i=sndN x.y p.toNat i.toNat:=if_pos h
  obtain ⟨ho,a,b,rfl,rfl,ha,hb'⟩:=hasB_parts h
  rw [e]
  exact l7Sender_any x a b wx (hG.below hb) hcap ho ha hb'
 have HZ:Hid (hasB x.y p i=false->sndS x.y p i = -1):=fun h=>if_neg (by rw [h];decide)
 generalize sndS x.y p i=S at *
 generalize hasB x.y p i=t at *
 have BW:Hid (Below w.heap.size w (w.alloc (oQ4 x.pa x.pn x.pc x.sa x.sn x.sc x.wa x.wn x.wc x.ha x.hn x.hc))):=zT _ _
 have NB:Hid (BoxC (w.alloc (oQ4 x.pa x.pn x.pc x.sa x.sn x.sc x.wa x.wn x.wc x.ha x.hn x.hc)) w.heap.size (.slice x.pa x.pn x.pc) (.slice x.sa x.sn x.sc) (.slice x.wa x.wn x.wc) (.slice x.ha x.hn x.hc)):=BoxC.new w _ _ _ _ _
 clear hG hL hcap
 go_enter Tryz.func26,Tryz.ntmps26
 go_wp2_with fail
 generalize w.alloc (oQ4 x.pa x.pn x.pc x.sa x.sn x.sc x.wa x.wn x.wc x.ha x.hn x.hc)=W2 at *
 refine (HS.out W2 BW.out).mono ?_
 rintro e w1 ⟨rfl,q1⟩
 have B1:Hid (Below w.heap.size w w1/\BoxC w1 w.heap.size (.slice x.pa x.pn x.pc) (.slice x.sa x.sn x.sc) (.slice x.wa x.wn x.wc) (.slice x.ha x.hn x.hc)):=⟨BW.out.trans (q1.mono BW.out.size),NB.out.below q1⟩
 clear q1 BW NB HS
 cases t with
 | false=>
  have hv:=HZ.out rfl
  clear HZ HN
  go_wp2
  go_ret
  exact ⟨ret_int hv.symm,B1.out.1⟩
 | true=>
  obtain ⟨b0,b1,b2,b3⟩:=B1.out.2
  go_wp2_with fail
  refine (HN.out (by simp) w1 B1.out.1).mono ?_
  rintro e w2 ⟨rfl,q2⟩
  have B2:Hid (Below w.heap.size w w2):=B1.out.1.trans (q2.mono B1.out.1.size)
  clear q2
  go_wp2
  go_ret
  exact ⟨rfl,B2.out⟩
theorem cnt_find {eh:Nat->E3} {kd pr:Int}:∀ {m j:Nat},j<cnt eh kd pr m->∃ k,k<m/\hitB eh kd pr k=true/\cnt eh kd pr k=j
 | 0,j,h=>by
  rw [cnt_zero] at h
  omega
 | m+1,j,h=>by
  by_cases hh:hitB eh kd pr m=true
  ·rw [cnt_hit hh] at h
   by_cases e:j<cnt eh kd pr m
   ·obtain ⟨k,h1,h2⟩:=cnt_find e
    exact ⟨k,by omega,h2⟩
   ·exact ⟨m,by omega,hh,by omega⟩
  ·rw [cnt_not (by simpa using hh)] at h
   obtain ⟨k,h1,h2⟩:=cnt_find h
   exact ⟨k,by omega,h2⟩
def sdr (y:Sy) (p i:Nat):Option (Nat × Nat):=if (y.hH p i).k=3 then some ((y.hH p i).q.toNat,(sndN y p i).toNat) else none
def clkF (y:Sy):Nat->Nat->Nat->Nat->Nat
 | 0,_,_,_=>0
 | f+1,p,i,q=>if q=p then i+1 else max (if i=0 then 0 else clkF y f p (i - 1) q) (match sdr y p i with | none=>0 | some s=>clkF y f s.1 s.2 q)
theorem clkF_succ (y:Sy) (f p i q:Nat):clkF y (f+1) p i q=if q=p then i+1 else max (if i=0 then 0 else clkF y f p (i - 1) q) (match sdr y p i with | none=>0 | some s=>clkF y f s.1 s.2 q):=by rw [clkF]
def clk (y:Sy) (p i q:Nat):Nat:=clkF y 801 p i q
theorem can_sdr {y:Sy} {d:Nat->Nat} {p:Nat} (hO:y.Ok) (hd:∀ a,d a<=y.hL a) (hp:p<y.pn) (hc:y.hs.Can d p) {s:Nat × Nat} (hs:sdr y p (d p)=some s):s.1<y.pn/\s.2<d s.1/\sndN y p (d p)=(s.2:Int):=by
 obtain ⟨h1,h2⟩:=hc
 have h1':d p<y.hL p:=h1
 unfold sdr at hs
 by_cases e:(y.hH p (d p)).k=3
 ·rw [if_pos e] at hs
  simp only [Option.some.injEq] at hs
  have hq:=hO.evq hp h1'
  have h3:cnt (y.hH p) 3 (y.hH p (d p)).q (d p)<cnt (y.hH (y.hH p (d p)).q.toNat) 2 p (d (y.hH p (d p)).q.toNat):=h2 e
  obtain ⟨k,k1,k2,k3⟩:=cnt_find h3
  have hk:sndN y p (d p)=(k:Int):=by
   unfold sndN
   rw [if_pos e]
   refine nthV_hit (zL k1 (hd _)) k2 ?_
   rw [plI,List.length_map]
   exact congrArg Nat.cast k3.symm
  rw [<- hs]
  refine ⟨by show (y.hH p (d p)).q.toNat<y.pn;omega,?_,?_⟩
  ·show (sndN y p (d p)).toNat<d (y.hH p (d p)).q.toNat
   rw [hk]
   simpa using k1
  ·show sndN y p (d p)=((sndN y p (d p)).toNat:Int)
   rw [hk]
   simp
 ·rw [if_neg e] at hs
  cases hs
theorem put_stab {y:Sy} {d:Nat->Nat} (hO:y.Ok) (h:y.hs.Put d):∀ p,p<y.pn->∀ i,i<d p->∀ f,sumL d y.pn<=f->∀ q,clkF y f p i q=clkF y (sumL d y.pn) p i q:=by
 induction h with
 | start=>
  intro p _ i hi
  exact absurd hi (Nat.not_lt_zero _)
 | @next d p0 hput hp0 hc ih=>
  have hp0':p0<y.pn:=hp0
  intro p hp i hi f hf q
  have hs:sumL (up d p0) y.pn=sumL d y.pn+1:=sumL_up hp0'
  rw [hs] at hf ⊢
  have old:∀ p,p<y.pn->∀ i,i<d p->∀ f,sumL d y.pn<=f->∀ q,clkF y f p i q=clkF y (sumL d y.pn) p i q:=ih
  by_cases e:p=p0/\i=d p0
  ·obtain ⟨rfl,rfl⟩:=e
   obtain ⟨g,rfl⟩:∃ g,f=g+1:=⟨f - 1,by omega⟩
   rw [clkF_succ,clkF_succ]
   by_cases eq:q=p
   ·rw [if_pos eq,if_pos eq]
   ·rw [if_neg eq,if_neg eq]
    congr 1
    ·by_cases e0:d p=0
     ·rw [if_pos e0,if_pos e0]
     ·rw [if_neg e0,if_neg e0]
      exact old p hp (d p - 1) (by omega) g (by omega) q
    ·cases hs':sdr y p (d p) with
     | none=>rfl
     | some s=>
      obtain ⟨s1,s2,-⟩:=can_sdr hO hput.le hp hc hs'
      exact old s.1 s1 s.2 s2 g (by omega) q
  ·have hi':i<d p:=by
    by_cases ep:p=p0
    ·subst ep
     rw [up_same] at hi
     have:i≠d p:=fun h=>e ⟨rfl,h⟩
     omega
    ·rw [up_other ep] at hi
     exact hi
   rw [old p hp i hi' f (by omega) q,old p hp i hi' (sumL d y.pn+1) (by omega) q]
theorem clk_next {y:Sy} {d:Nat->Nat} (hO:y.Ok) (h:y.hs.Put d) {p:Nat} (hp:p<y.pn) (hc:y.hs.Can d p) (q:Nat):
  clk y p (d p) q=if q=p then d p+1 else max (if d p=0 then 0 else clk y p (d p - 1) q) (match sdr y p (d p) with | none=>0 | some s=>clk y s.1 s.2 q):=by
 have hle:sumL d y.pn<=800:=by
  have h1:∀ n,n<=y.pn->sumL d n<=n*200:=by
   intro n
   induction n with
   | zero=>exact fun _=>Nat.le_refl _
   | succ n ih=>
    intro hn
    have h2:=ih (by omega)
    have h3:d n<=200:=zP (h.le n) (hO.hl200 (by omega))
    show sumL d n+d n<=(n+1)*200
    omega
  have h2:=h1 y.pn (Nat.le_refl _)
  have h3:=hO.cn.1.2
  omega
 obtain ⟨N,hN⟩:∃ N,N=800:=⟨_,rfl⟩
 have key:∀ a,a<y.pn->∀ k,k<d a->clkF y N a k q=clk y a k q:=fun a ha k hk=>(put_stab hO h a ha k hk N (by omega) q).trans (put_stab hO h a ha k hk 801 (by omega) q).symm
 have e1:clk y p (d p) q=clkF y (N+1) p (d p) q:=by rw [hN];rfl
 rw [e1,clkF_succ]
 by_cases eq:q=p
 ·rw [if_pos eq,if_pos eq]
 ·rw [if_neg eq,if_neg eq]
  refine congr (congrArg max ?_) ?_
  ·by_cases e0:d p=0
   ·rw [if_pos e0,if_pos e0]
   ·rw [if_neg e0,if_neg e0]
    exact key p hp (d p - 1) (by omega)
  ·cases hs':sdr y p (d p) with
   | none=>rfl
   | some s=>
    obtain ⟨s1,s2,-⟩:=can_sdr hO h.le hp hc hs'
    exact key s.1 s1 s.2 s2
theorem Hs.Put.was {x:Hs} {d:Nat->Nat} (h:x.Put d):∀ p i,i<d p->p<x.n/\∃ d',x.Put d'/\d' p=i/\x.Can d' p:=by
 induction h with
 | start=>
  intro p i hi
  exact absurd hi (Nat.not_lt_zero _)
 | @next d p0 hput hp0 hc ih=>
  intro p i hi
  by_cases e:p=p0/\i=d p0
  ·obtain ⟨rfl,rfl⟩:=e
   exact ⟨hp0,d,hput,rfl,hc⟩
  ·refine ih p i ?_
   by_cases ep:p=p0
   ·subst ep
    rw [up_same] at hi
    have:i≠d p:=fun h=>e ⟨rfl,h⟩
    omega
   ·rw [up_other ep] at hi
    exact hi
theorem sdr_at {y:Sy} (hO:y.Ok) {p i:Nat} (hp:p<y.pn) (hi:i<y.hL p) {s:Nat × Nat} (hs:sdr y p i=some s):
  (y.hH p i).k=3/\(y.hH p i).q=(s.1:Int)/\s.1<y.pn/\s.2<y.hL s.1/\sndN y p i=(s.2:Int)/\hitB (y.hH s.1) 2 p s.2=true/\cnt (y.hH s.1) 2 p s.2=cnt (y.hH p) 3 s.1 i/\(s.1=p->s.2<i):=by
 obtain ⟨dA,hA,hall⟩:=hO.ro
 have hi':i<dA p:=by rw [hall p hp];exact hi
 obtain ⟨-,d,hput,rfl,hc⟩:=hA.was p i hi'
 obtain ⟨h1,h2,h3⟩:=can_sdr hO hput.le hp hc hs
 have hq:=hO.evq hp hi
 unfold sdr at hs
 by_cases e:(y.hH p (d p)).k=3
 ·rw [if_pos e] at hs
  simp only [Option.some.injEq] at hs
  have e1:(y.hH p (d p)).q.toNat=s.1:=by rw [<- hs]
  have e2:(y.hH p (d p)).q=(s.1:Int):=by omega
  have h4:cnt (y.hH p) 3 (y.hH p (d p)).q (d p)<cnt (y.hH (y.hH p (d p)).q.toNat) 2 p (d (y.hH p (d p)).q.toNat):=hc.2 e
  rw [e1,e2] at h4
  obtain ⟨k,k1,k2,k3⟩:=cnt_find h4
  have hk:sndN y p (d p)=(k:Int):=by
   unfold sndN
   rw [if_pos e,e1,e2]
   refine nthV_hit (zL k1 (hput.le _)) k2 ?_
   rw [plI,List.length_map]
   exact congrArg Nat.cast k3.symm
  have e3:k=s.2:=by
   rw [hk] at h3
   omega
  subst e3
  exact ⟨e,e2,h1,zL k1 (hput.le _),hk,k2,k3,fun ep=>by rw [ep] at k1;exact k1⟩
 ·rw [if_neg e] at hs
  cases hs
theorem sdr_none {y:Sy} {p i:Nat} (h:sdr y p i=none):(y.hH p i).k≠3:=by
 intro e
 rw [sdr,if_pos e] at h
 cases h
theorem can_sdr_iff {y:Sy} (hO:y.Ok) {d:Nat->Nat} {p:Nat} (hp:p<y.pn) (hl:d p<y.hL p):y.hs.Can d p ↔ ∀ s,sdr y p (d p)=some s->s.2<d s.1:=by
 constructor
 ·intro hc s hs
  obtain ⟨h1,h2,h3,h4,h5,h6,h7,-⟩:=sdr_at hO hp hl hs
  have h8:cnt (y.hH p) 3 (y.hH p (d p)).q (d p)<cnt (y.hH (y.hH p (d p)).q.toNat) 2 p (d (y.hH p (d p)).q.toNat):=hc.2 h1
  rw [h2,Int.toNat_natCast,<- h7] at h8
  refine Decidable.byContradiction fun hn=>?_
  have:=cnt_mono (y.hH s.1) 2 p (show d s.1<=s.2 by omega)
  omega
 ·intro h
  refine ⟨hl,fun e=>?_⟩
  cases hs:sdr y p (d p) with
  | none=>exact absurd e (sdr_none hs)
  | some s=>
   obtain ⟨h1,h2,h3,h4,h5,h6,h7,-⟩:=sdr_at hO hp hl hs
   have hlt:=h s hs
   show cnt (y.hH p) 3 (y.hH p (d p)).q (d p)<cnt (y.hH (y.hH p (d p)).q.toNat) 2 p (d (y.hH p (d p)).q.toNat)
   rw [h2,Int.toNat_natCast,<- h7]
   have h9:=cnt_mono (y.hH s.1) 2 p (show s.2+1<=d s.1 by omega)
   rw [cnt_hit h6] at h9
   omega
structure HisQ (w:World) (X:Nat) (ha:Option Addr) (hc:Nat) (y:Hs) (d:Nat->Nat):Prop where
 c4:w.cell? ⟨X,0,none⟩=some (.slice ha y.n hc)
 pt:∀ i,i<4->w.cell? ⟨X,1+i,none⟩=some (.int .i64 (d i))
 op:∀ a b,a<4->b<4->w.cell? ⟨X,5+a*4+b,none⟩=some (.int .i64 (y.opn d a b))
 fr:∀ j,w.frozen? ⟨X,j,none⟩=false
theorem HisQ.lt {w:World} {X:Nat} {ha:Option Addr} {hc:Nat} {y:Hs} {d:Nat->Nat} (h:HisQ w X ha hc y d):X<w.heap.size:=zJ w _ h.c4
theorem HisQ.blk {w w':World} {X:Nat} {ha:Option Addr} {hc:Nat} {y:Hs} {d:Nat->Nat} (h:HisQ w X ha hc y d) (hb:w'.heap[X]? = w.heap[X]?):HisQ w' X ha hc y d:=
 ⟨(zH hb).trans h.c4,fun i hi=>(zH hb).trans (h.pt i hi),fun a b h1 h2=>(zH hb).trans (h.op a b h1 h2),fun j=>(zI hb).trans (h.fr j)⟩
theorem HisQ.below {w w':World} {X:Nat} {ha:Option Addr} {hc:Nat} {y:Hs} {d:Nat->Nat} (h:HisQ w X ha hc y d) (hb:Below w.heap.size w w'):HisQ w' X ha hc y d:=h.blk (hb.block X h.lt)
theorem canPut_q (X:Nat) (ha:Option Addr) (hc:Nat) (hA:Nat->Option Addr) (hC:Nat->Nat) (y:Hs) (d:Nat->Nat) (k:Nat) (w:World) (hE:HisE w ha hA hC y) (hP:HisQ w X ha hc y d) (h4:y.n<=4) (hk:k<y.n) (hp:y.Peers) (hl:∀ i,i<y.n->y.l i<=200) (hd:∀ i,d i<=y.l i):
  Calls Tryz.prog 110 #[.pointer (some ⟨X,0,none⟩),.int .i64 k] w fun e w'=>e=.returned (.bool (qB (y.Can d k)))/\Below w.heap.size w w':=by
 have HE:Hid (HisE w ha hA hC y):=hE
 have HP:Hid (HisQ w X ha hc y d):=hP
 have HCan:Hid (y.Can d k ↔ d k<y.l k/\((y.e k (d k)).k=3->0<y.opn d (y.e k (d k)).q.toNat k)):=Hs.can_iff hp hk
 have hk4:(k:Int)<4:=by omega
 have hk':(k:Int)<(y.n:Int):=by omega
 have hl200:(y.l k:Int)<=200:=by have:=hl k hk;omega
 have hdk:(d k:Int)<=(y.l k:Int):=by have:=hd k;omega
 obtain ⟨bh,oh,eh,ch⟩:=hE.row.at hk
 obtain ⟨c4,pt,op,-⟩:=hP
 have pk:=pt k (by omega)
 rw [eh] at c4
 clear hE
 by_cases he:d k=y.l k
 ·have HN:Hid (qB (y.Can d k)=false):=qB_false fun h=>by have:=h.1;omega
  rw [he] at pk
  clear op pt
  go_enter Tryz.func110,Tryz.ntmps110
  go_wp2_with fail
  go_quiet (fail)
  go_wp2
  go_ret
  rw [HN.out]
  exact ⟨rfl,yC (Below.refl _ _) _⟩
 ·have hlt:d k<y.l k:=by have:=hd k;omega
  have hlt':(d k:Int)<(y.l k:Int):=by omega
  have hne:((d k:Int) == (y.l k:Int))=false:=by
   have:¬ (d k:Int)=(y.l k:Int):=by omega
   simpa using this
  obtain ⟨b,off,ea,zb,e0,e1,e2⟩:=(HE.out.ev k hk).at hlt
  rw [ea] at ch
  have n1:w.heap.size≠X:=by have:=HP.out.lt;omega
  have n2:w.heap.size≠b:=by omega
  have n3:w.heap.size≠bh:=by have:=zJ w _ ch;simp at this;omega
  clear zb
  have hq:=hp k hk (d k) hlt
  obtain ⟨q,hqe⟩:∃ q:Nat,(y.e k (d k)).q=(q:Int):=⟨(y.e k (d k)).q.toNat,by omega⟩
  have hq4:(q:Int)<4:=by omega
  have oq:=op q k (by omega) (by omega)
  rw [hqe] at e1
  rcases zK ((y.e k (d k)).k != 3) with t | t
  ·have HN:Hid (qB (y.Can d k)=true):=qB_true (HCan.out.2 ⟨hlt,fun h=>by rw [h] at t;cases t⟩)
   clear op pt hq hqe oq HCan
   generalize (y.e k (d k)).k=kd at *
   generalize (y.e k (d k)).v=vd at *
   go_enter Tryz.func110,Tryz.ntmps110
   go_wp2_with fail
   go_quiet (fail)
   go_wp2_with fail
   have BD:Hid (Below w.heap.size w (w.drewN nq)):=yC (Below.refl _ _) _
   replace n1:(w.drewN nq).heap.size≠X:=n1
   replace n2:(w.drewN nq).heap.size≠b:=n2
   replace n3:(w.drewN nq).heap.size≠bh:=n3
   replace c4:(w.drewN nq).cell? ⟨X,0,none⟩=_:=c4
   replace pk:(w.drewN nq).cell? ⟨X,1+k,none⟩=_:=pk
   replace ch:(w.drewN nq).cell? ⟨bh,oh+k,none⟩=_:=ch
   replace e0:(w.drewN nq).cell? ⟨b,off+d k*3,none⟩=_:=e0
   replace e1:(w.drewN nq).cell? ⟨b,off+d k*3+1,none⟩=_:=e1
   replace e2:(w.drewN nq).cell? ⟨b,off+d k*3+2,none⟩=_:=e2
   generalize w.drewN nq=wd at *
   have c4':=cell_allocs c4
   have pk':=cell_allocs pk
   have ch':=cell_allocs ch
   have e0':=cell_allocs e0
   have e1':=cell_allocs e1
   have e2':=cell_allocs e2
   go_region
   all_goals
    go_wp2_with fail
    go_quiet (fail)
    go_wp2
    go_ret
    rw [HN.out]
    exact ⟨rfl,yC (BD.out.trans ((zT _ _).mono BD.out.size)).drew _⟩
  ·have hk3:(y.e k (d k)).k=3:=by simpa using t
   have HN:Hid (qB (y.Can d k)=decide (0<y.opn d q k)):=by
    show qB (y.Can d k)=decide (0<y.opn d q k)
    have e:(y.e k (d k)).q.toNat=q:=by omega
    by_cases h0:0<y.opn d q k
    ·rw [decide_eq_true h0]
     exact qB_true (HCan.out.2 ⟨hlt,fun _=>by rw [e];exact h0⟩)
    ·rw [decide_eq_false h0]
     refine qB_false fun h=>h0 ?_
     have:=(HCan.out.1 h).2 hk3
     rwa [e] at this
   rw [hk3] at e0
   clear op pt hq hqe HCan t hk3
   generalize (y.e k (d k)).v=vd at *
   generalize y.opn d q k=on at *
   go_enter Tryz.func110,Tryz.ntmps110
   go_wp2_with fail
   go_quiet (fail)
   go_wp2_with fail
   have BD:Hid (Below w.heap.size w (w.drewN nq)):=yC (Below.refl _ _) _
   replace n1:(w.drewN nq).heap.size≠X:=n1
   replace n2:(w.drewN nq).heap.size≠b:=n2
   replace n3:(w.drewN nq).heap.size≠bh:=n3
   replace c4:(w.drewN nq).cell? ⟨X,0,none⟩=_:=c4
   replace pk:(w.drewN nq).cell? ⟨X,1+k,none⟩=_:=pk
   replace ch:(w.drewN nq).cell? ⟨bh,oh+k,none⟩=_:=ch
   replace e0:(w.drewN nq).cell? ⟨b,off+d k*3,none⟩=_:=e0
   replace e1:(w.drewN nq).cell? ⟨b,off+d k*3+1,none⟩=_:=e1
   replace e2:(w.drewN nq).cell? ⟨b,off+d k*3+2,none⟩=_:=e2
   replace oq:(w.drewN nq).cell? ⟨X,5+q*4+k,none⟩=_:=oq
   generalize w.drewN nq=wd at *
   have c4':=cell_allocs c4
   have pk':=cell_allocs pk
   have ch':=cell_allocs ch
   have e0':=cell_allocs e0
   have e1':=cell_allocs e1
   have e2':=cell_allocs e2
   have oq':=cell_allocs oq
   go_region
   all_goals
    go_wp2_with fail
    go_quiet (fail)
    go_wp2
    go_ret
    rw [HN.out]
    exact ⟨rfl,yC (BD.out.trans ((zT _ _).mono BD.out.size)).drew _⟩
theorem HisQ.put {w w':World} {X:Nat} {ha:Option Addr} {hc:Nat} {y:Hs} {d:Nat->Nat} {k:Nat} (h:HisQ w X ha hc y d) (c4:w'.cell? ⟨X,0,none⟩=w.cell? ⟨X,0,none⟩) (pt:∀ i,i<4->w'.cell? ⟨X,1+i,none⟩=if i=k then some (.int .i64 (d k+1:Nat)) else w.cell? ⟨X,1+i,none⟩)
  (op:∀ a b,a<4->b<4->w'.cell? ⟨X,5+a*4+b,none⟩=some (.int .i64 (y.opn (up d k) a b))) (fr:∀ j,w'.frozen? ⟨X,j,none⟩=false):HisQ w' X ha hc y (up d k):=by
 refine ⟨c4.trans h.c4,fun i hi=>?_,op,fr⟩
 rw [pt i hi]
 by_cases e:i=k
 ·subst e
  rw [if_pos rfl,up_same]
 ·rw [if_neg e,up_other e]
  exact h.pt i hi
theorem HisQ.put2 {w:World} {X:Nat} {ha:Option Addr} {hc:Nat} {y:Hs} {d:Nat->Nat} {k i0 j0:Nat} {on:Int} {o:Obj} (h:HisQ w X ha hc y d) (hk:k<4) (hi:i0<4) (hj:j0<4) (HO:∀ a b,y.opn (up d k) a b=if a=i0/\b=j0 then on else y.opn d a b):
  HisQ (((w.setCell ⟨X,5+i0*4+j0,none⟩ (.int .i64 on)).setCell ⟨X,1+k,none⟩ (.int .i64 ((d k:Int)+1))).alloc o) X ha hc y (up d k)/\Touch (fun b=>b=X) w (((w.setCell ⟨X,5+i0*4+j0,none⟩ (.int .i64 on)).setCell ⟨X,1+k,none⟩ (.int .i64 ((d k:Int)+1))).alloc o):=by
 have hX:=h.lt
 refine ⟨h.put (k:=k) (cell_set2 (by omega) (by omega) hX) (fun i hi'=>?_) (fun a b ha' hb'=>?_) (fun j=>?_),?_⟩
 ·by_cases e:i=k
  ·subst e
   rw [if_pos rfl,cell_set2b (by omega) (by rw [h.pt i hi'];rfl) hX]
   rfl
  ·rw [if_neg e]
   exact cell_set2 (by omega) (by omega) hX
 ·rw [HO]
  by_cases e:a=i0/\b=j0
  ·obtain ⟨rfl,rfl⟩:=e
   rw [if_pos ⟨rfl,rfl⟩]
   exact cell_set2a (by omega) (by rw [h.op a b ha' hb'];rfl) hX
  ·rw [if_neg e,<- h.op a b ha' hb']
   exact cell_set2 (by omega) (by omega) hX
 ·rw [frozen_alloc_lt (by simpa [World.setCell] using hX),World.frozen?_setCell,World.frozen?_setCell]
  exact h.fr j
 ·exact ((Touch.of_set (P:=fun b=>b=X) w (a:=⟨X,_,none⟩) rfl _).trans (Touch.of_set (P:=fun b=>b=X) _ (a:=⟨X,_,none⟩) rfl _)).trans (Touch.of_below (zT _ _))
theorem HisQ.put1 {w:World} {X:Nat} {ha:Option Addr} {hc:Nat} {y:Hs} {d:Nat->Nat} {k:Nat} {o:Obj} (h:HisQ w X ha hc y d) (hk:k<4) (HO:∀ a b,y.opn (up d k) a b=y.opn d a b):
  HisQ ((w.setCell ⟨X,1+k,none⟩ (.int .i64 ((d k:Int)+1))).alloc o) X ha hc y (up d k)/\Touch (fun b=>b=X) w ((w.setCell ⟨X,1+k,none⟩ (.int .i64 ((d k:Int)+1))).alloc o):=by
 have hX:=h.lt
 have ho:∀ m,m≠1+k->((w.setCell ⟨X,1+k,none⟩ (.int .i64 ((d k:Int)+1))).alloc o).cell? ⟨X,m,none⟩=w.cell? ⟨X,m,none⟩:=fun m hm=>by
  rw [World.cell?_alloc_lt _ _ _ (by simpa [World.setCell] using hX),World.cell?_setCell_other _ _ _ _ (by intro e;injection e with _ e;exact hm e.symm)]
 refine ⟨h.put (k:=k) (ho 0 (by omega)) (fun i hi'=>?_) (fun a b ha' hb'=>?_) (fun j=>?_),?_⟩
 ·by_cases e:i=k
  ·subst e
   rw [if_pos rfl,World.cell?_alloc_lt _ _ _ (by simpa [World.setCell] using hX),World.cell?_setCell_same' _ _ _ (by rw [h.pt i hi'];rfl)]
   rfl
  ·rw [if_neg e]
   exact ho _ (by omega)
 ·rw [HO,<- h.op a b ha' hb']
  exact ho _ (by omega)
 ·rw [frozen_alloc_lt (by simpa [World.setCell] using hX),World.frozen?_setCell]
  exact h.fr j
 ·exact (Touch.of_set (P:=fun b=>b=X) w (a:=⟨X,_,none⟩) rfl _).trans (Touch.of_below (zT _ _))
theorem HisQ.dr {w:World} {X:Nat} {ha:Option Addr} {hc:Nat} {y:Hs} {d:Nat->Nat} (h:HisQ w X ha hc y d):HisQ w.drew X ha hc y d:=⟨h.c4,h.pt,h.op,h.fr⟩
theorem putOne_q (X:Nat) (ha:Option Addr) (hc:Nat) (hA:Nat->Option Addr) (hC:Nat->Nat) (y:Hs) (d:Nat->Nat) (k:Nat) (w:World) (hE:HisE w ha hA hC y) (hP:HisQ w X ha hc y d) (h4:y.n<=4) (hk:k<y.n) (hp:y.Peers) (hl:∀ i,i<y.n->y.l i<=200) (hd:∀ i,d i<=y.l i) (hlt:d k<y.l k):
  Calls Tryz.prog 55 #[.pointer (some ⟨X,0,none⟩),.int .i64 k] w fun e w'=>e=.returned (.tuple #[])/\HisQ w' X ha hc y (up d k)/\Touch (fun b=>b=X) w w':=by
 have HP:Hid (HisQ w X ha hc y d):=hP
 have hk4:(k:Int)<4:=by omega
 have hk':(k:Int)<(y.n:Int):=by omega
 have hl200:(y.l k:Int)<=200:=by have:=hl k hk;omega
 have hlt':(d k:Int)<(y.l k:Int):=by omega
 obtain ⟨bh,oh,eh,ch⟩:=hE.row.at hk
 obtain ⟨c4,pt,op,fr⟩:=hP
 have pk:=pt k (by omega)
 rw [eh] at c4
 obtain ⟨b,off,ea,zb,e0,e1,e2⟩:=(hE.ev k hk).at hlt
 rw [ea] at ch
 have n1:w.heap.size≠X:=by have:=HP.out.lt;omega
 have n2:w.heap.size≠b:=by omega
 have n3:w.heap.size≠bh:=by have:=zJ w _ ch;simp at this;omega
 have zX:X<w.heap.size:=HP.out.lt
 have hq:=hp k hk (d k) hlt
 obtain ⟨q,hqe⟩:∃ q:Nat,(y.e k (d k)).q=(q:Int):=⟨(y.e k (d k)).q.toNat,by omega⟩
 have hq4:(q:Int)<4:=by omega
 have hqn:q<y.n:=by omega
 rw [hqe] at e1
 have c4':=cell_allocs c4
 have pk':=cell_allocs pk
 have ch':=cell_allocs ch
 have e0':=cell_allocs e0
 have e1':=cell_allocs e1
 have e2':=cell_allocs e2
 have fr':∀ j,w.frozen? ⟨X,j,none⟩=false:=fr
 rcases zK ((y.e k (d k)).k == 2) with t | t
 ·have hk2:(y.e k (d k)).k=2:=by simpa using t
  have oq:=op k q (by omega) (by omega)
  obtain ⟨o1,o2⟩:=Hs.opn_le hd hl hk hqn
  have oq':=cell_allocs oq
  rw [hk2] at e0 e0'
  have HO:Hid (∀ a b,y.opn (up d k) a b=if a=k/\b=q then y.opn d k q+1 else y.opn d a b):=fun a b=>by
   rw [Hs.opn_up,hk2,hqe]
   by_cases e:a=k/\b=q
   ·obtain ⟨rfl,rfl⟩:=e
    simp
   ·rw [if_neg e,if_neg (fun h=>e ⟨h.1,by omega⟩),if_neg (fun h=>absurd h.2.1 (by decide))]
    omega
  clear op pt t hk2 hq hqe hp hE eh ea
  generalize (y.e k (d k)).v=vd at *
  generalize y.opn d k q=on at *
  go_enter Tryz.func55,Tryz.ntmps55
  go_wp2_with fail
  go_region
  all_goals
   go_wp2_with fail
   go_region
   all_goals
    go_wp2_with fail
    go_region
    all_goals
     go_wp2_with fail
     go_end0
     have hz:=HP.out.put2 (o:=oQ0 2 q vd) (show k<4 by omega) (show k<4 by omega) (show q<4 by omega) HO.out
     exact ⟨rfl,hz.1.dr.dr.dr,hz.2.dr.dr.dr⟩
 rcases zK ((y.e k (d k)).k == 3) with t3 | t3
 ·have hk3:(y.e k (d k)).k=3:=by simpa using t3
  have oq:=op q k (by omega) (by omega)
  obtain ⟨o1,o2⟩:=Hs.opn_le hd hl hqn hk
  have oq':=cell_allocs oq
  rw [hk3] at e0 e0'
  have HO:Hid (∀ a b,y.opn (up d k) a b=if a=q/\b=k then y.opn d q k - 1 else y.opn d a b):=fun a b=>by
   rw [Hs.opn_up,hk3,hqe]
   by_cases e:a=q/\b=k
   ·obtain ⟨rfl,rfl⟩:=e
    simp
   ·rw [if_neg e,if_neg (fun h=>absurd h.2.1 (by decide)),if_neg (fun h=>e ⟨by omega,h.1⟩)]
    omega
  clear op pt t t3 hk3 hq hqe hp hE eh ea
  generalize (y.e k (d k)).v=vd at *
  generalize y.opn d q k=on at *
  go_enter Tryz.func55,Tryz.ntmps55
  go_wp2_with fail
  go_region
  all_goals
   go_wp2_with fail
   go_region
   all_goals
    go_wp2_with fail
    go_region
    all_goals
     go_wp2_with fail
     go_end0
     have hz:=HP.out.put2 (o:=oQ0 3 q vd) (show k<4 by omega) (show q<4 by omega) (show k<4 by omega) HO.out
     exact ⟨rfl,hz.1.dr.dr.dr,hz.2.dr.dr.dr⟩
 ·have HO:Hid (∀ a b,y.opn (up d k) a b=y.opn d a b):=fun a b=>by
   have t2:(y.e k (d k)).k≠2:=by simpa using t
   have t3':(y.e k (d k)).k≠3:=by simpa using t3
   rw [Hs.opn_up,if_neg (fun h=>t2 h.2.1),if_neg (fun h=>t3' h.2.1)]
   omega
  clear op pt hq hqe hp hE eh ea
  generalize (y.e k (d k)).v=vd at *
  generalize (y.e k (d k)).k=kd at *
  go_enter Tryz.func55,Tryz.ntmps55
  go_wp2_with fail
  go_region
  all_goals
   go_wp2_with fail
   go_region
   all_goals
    go_wp2_with fail
    go_end0
    have hz:=HP.out.put1 (o:=oQ0 kd q vd) (show k<4 by omega) HO.out
    exact ⟨rfl,hz.1.dr.dr,hz.2.dr.dr⟩
theorem next_q (X:Nat) (ha:Option Addr) (hc:Nat) (hA:Nat->Option Addr) (hC:Nat->Nat) (y:Hs) (d:Nat->Nat) (w:World) (hE:HisE w ha hA hC y) (hP:HisQ w X ha hc y d) (h4:y.n<=4) (hp:y.Peers) (hl:∀ i,i<y.n->y.l i<=200) (hd:∀ i,d i<=y.l i):
  Calls Tryz.prog 54 #[.pointer (some ⟨X,0,none⟩)] w (NxtR w y d):=by
 have HE:Hid (HisE w ha hA hC y):=hE
 have HP:Hid (HisQ w X ha hc y d):=hP
 have HH:Hid (y.Peers/\(∀ i,i<y.n->y.l i<=200)/\∀ i,d i<=y.l i):=⟨hp,hl,hd⟩
 have hn:(y.n:Int)<=4:=by omega
 obtain ⟨c4,-,-,-⟩:=hP
 clear hE hp hl hd
 go_enter Tryz.func54,Tryz.ntmps54
 go_wp2_with fail
 clear c4
 go_loopw [9] (fun i wr=>∃ k:Nat,k<=y.n/\i=.int .i64 k/\Below w.heap.size w wr/\Hid (∀ j,j<k->¬ y.Can d j)) (fun i _=>y.n - (intOf i).toNat)
 case atStart=>exact ⟨0,Nat.zero_le _,rfl,Below.refl _ _,fun j hj=>by omega⟩
 case round=>
  obtain ⟨k,hk,rfl,hbw,HZ⟩:=hrel
  by_cases hlt:k<y.n
  ·have hlt':(k:Int)<(y.n:Int):=by omega
   go_wp2_with fail
   refine (canPut_q X ha hc hA hC y d k wr (HE.out.below hbw) (HP.out.below hbw) h4 hlt HH.out.1 HH.out.2.1 HH.out.2.2).mono ?_
   rintro e w1 ⟨rfl,b1⟩
   have B1:Hid (Below w.heap.size w w1):=hbw.trans (b1.mono hbw.size)
   clear b1 hbw
   by_cases hc':y.Can d k
   ·have HF:Hid (NxtR w y d (.returned (.int .i64 k)) w1):=⟨B1.out,.inl ⟨k,hlt,hc',rfl⟩⟩
    rw [qB_true hc']
    clear hc' B1
    go_wp2
    go_ret
    exact HF.out
   ·have HZ':Hid (∀ j,j<k+1->¬ y.Can d j):=fun j hj=>by
     by_cases e:j=k
     ·subst e
      exact hc'
     ·exact HZ.out j (by omega)
    rw [qB_false hc']
    clear hc' HZ
    go_wp2
    go_roundw
    case rel=>exact ⟨k+1,by omega,by go_num,B1.out,HZ'.out⟩
    case measure=>simp [intOf];omega
  ·have HF:Hid (NxtR w y d (.returned (.int .i64 (-1))) wr):=⟨hbw,.inr ⟨rfl,fun p hp=>HZ.out p (by omega)⟩⟩
   clear HZ hbw
   go_wp2
   go_ret
   exact HF.out
