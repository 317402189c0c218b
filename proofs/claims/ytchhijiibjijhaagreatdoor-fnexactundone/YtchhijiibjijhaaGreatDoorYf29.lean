import Derived.LaidEql
import Derived.Stop.Asserts
import Derived.RowKitTokens
import Derived.Test.YtchhijiibjijhaaGreatDoorYf28
import Derived.Test.YtchhijiibjijhaaGreatDoorTie
import Derived.ChangeSame
import Derived.ChangeVars
import Derived.JoinedOf
import Derived.RowKit
import Derived.LaidLaws
import Derived.LaidHandle
import Derived.Stop.Joined
namespace Go.Proofs.YtchhijiibjijhaaGreatDoor
set_option maxRecDepth 100000
set_option maxHeartbeats 2000000
open Go.RowKit Go.Deep
theorem qpv (eh:Nat->E3) (kd pr:Int):∀ (n j q:Nat),(plN eh kd pr n)[j]? = some q->q<n/\hitB eh kd pr q=true/\cnt eh kd pr q=j
 | 0,j,q,h=>by simp [plN] at h
 | n+1,j,q,h=>by
  rcases zK (hitB eh kd pr n) with t | t
  ·rw [plN,if_pos t] at h
   by_cases hj:j<(plN eh kd pr n).length
   ·rw [List.getElem?_append_left hj] at h
    obtain ⟨h1,h2,h3⟩:=qpv eh kd pr n j q h
    exact ⟨by omega,h2,h3⟩
   ·rw [List.getElem?_append_right (by omega)] at h
    have hj2:j - (plN eh kd pr n).length=0:=by
     by_cases e:j - (plN eh kd pr n).length=0
     ·exact e
     ·rw [List.getElem?_eq_none (by simp;omega)] at h
      cases h
    rw [hj2] at h
    simp at h
    subst h
    refine ⟨by omega,t,?_⟩
    unfold cnt
    omega
  ·rw [plN,if_neg (by rw [t];decide)] at h
   obtain ⟨h1,h2,h3⟩:=qpv eh kd pr n j q h
   exact ⟨by omega,h2,h3⟩
theorem qnl {eh:Nat->E3} {kd pr:Int} {len n:Nat} (h:n<cnt eh kd pr len):∃ q:Nat,nthV eh kd pr len n=q/\q<len/\hitB eh kd pr q=true/\cnt eh kd pr q=n:=by
 have hl:n<(plI eh kd pr len).length:=by rw [qdq];exact h
 obtain ⟨q,h1,h2,h3⟩:=qnp eh kd pr len n hl
 obtain ⟨-,h4,h5⟩:=qpv eh kd pr len n q h3
 refine ⟨q,?_,h2,h4,h5⟩
 unfold nthV
 rw [if_pos (by simp [belB];omega),Int.toNat_natCast]
 exact h1
theorem qui {eh:Nat->E3} {kd pr:Int} {len n:Nat} (h:cnt eh kd pr len<=n):nthV eh kd pr len n = -1:=by
 unfold nthV
 rw [if_neg]
 have hl:(plI eh kd pr len).length<=n:=by rw [qdq];exact h
 simp [belB]
 omega
theorem quh {eh:Nat->E3} {kd pr:Int} {len len' n:Nat} (h:n<cnt eh kd pr len) (hl:len<=len'):nthV eh kd pr len' n=nthV eh kd pr len n:=by
 obtain ⟨q,h1,h2,h3,h4⟩:=qnl h
 rw [h1]
 exact qq5 (by omega) h3 (by rw [qdq];show (n:Int)=(cnt eh kd pr q:Nat);omega)
structure Sy.Cut (y:Sy) (c:List Int):Prop where
 len:c.length=y.pn
 le:∀ p,p<y.pn->0<=zi c p/\zi c p<=(y.hL p:Int)
noncomputable def cutB (y:Sy) (c:List Int):Bool:=y.okB && qB (y.Cut c)
def cN (c:List Int) (p:Nat):Nat:=(zi c p).toNat
def sN (y:Sy) (c:Nat->Nat) (a b:Nat):Nat:=cnt (y.hH a) 2 b (c a)
def tN (y:Sy) (c:Nat->Nat) (a b:Nat):Nat:=cnt (y.hH b) 3 a (c b)
def Sy.Wh (y:Sy) (c:Nat->Nat):Prop:=∀ a,a<y.pn->∀ b,b<y.pn->tN y c a b<=sN y c a b
def ovN (y:Sy) (c:Nat->Nat) (a b:Nat):Int:=nthV (y.hH b) 3 a (c b) (sN y c a b:Nat)
theorem qxi {y:Sy} {c:Nat->Nat} {a b:Nat} (h:tN y c a b<=sN y c a b):ovN y c a b = -1:=qui h
theorem qum {y:Sy} {c:Nat->Nat} {a b:Nat} (h:¬ tN y c a b<=sN y c a b):∃ k:Nat,ovN y c a b=k/\k<c b/\hitB (y.hH b) 3 a k=true/\cnt (y.hH b) 3 a k=sN y c a b:=qnl (by unfold tN at h;omega)
theorem qwd {y:Sy} {c:Nat->Nat} {a b:Nat} (h:¬ tN y c a b<=sN y c a b) (hl:c b<=y.hL b):nthV (y.hH b) 3 a (y.hL b) (sN y c a b:Nat)=ovN y c a b:=quh (by unfold tN at h;omega) hl
theorem qfm {y:Sy} {c:Nat->Nat} {a b:Nat}:ovN y c a b<0 ↔ tN y c a b<=sN y c a b:=by
 refine ⟨fun h=>?_,fun h=>by rw [qxi h];decide⟩
 by_cases hc:tN y c a b<=sN y c a b
 ·exact hc
 ·obtain ⟨k,e,-⟩:=qum hc
  omega
noncomputable def whB (y:Sy) (c:List Int):Bool:=cutB y c && qB (y.Wh (cN c))
structure Sy.Cl (y:Sy) (c e:List Int):Prop where
 len:e.length=y.pn
 le:∀ p,p<y.pn->0<=zi e p/\zi e p<=zi c p
 gr:∀ d:Nat->Nat,(∀ p,p<y.pn->(d p:Int)<=zi c p)->y.Wh d->∀ p,p<y.pn->(d p:Int)<=zi e p
theorem Sy.Cl.start {y:Sy} {c:List Int} (h:y.Cut c):y.Cl c c:=⟨h.len,fun p hp=>⟨(h.le p hp).1,Int.le_refl _⟩,fun _ h _=>h⟩
theorem Sy.Cl.cut {y:Sy} {c e:List Int} (h:y.Cl c e) (hc:y.Cut c):y.Cut e:=⟨h.len,fun p hp=>⟨(h.le p hp).1,Int.le_trans (h.le p hp).2 (hc.le p hp).2⟩⟩
theorem qvk {e:List Int} {b p:Nat} {k:Int} (hb:b<e.length):zi (e.set b k) p=if p=b then k else zi e p:=by
 by_cases h:p=b
 ·subst h
  rw [if_pos rfl,qdv e p k hb]
 ·rw [if_neg h,qfh e p b k h]
theorem Sy.Cl.next {y:Sy} {c e:List Int} {a b:Nat} (h:y.Cl c e) (ha:a<y.pn) (hb:b<y.pn) (ho:0<=ovN y (cN e) a b):y.Cl c (e.set b (ovN y (cN e) a b))/\0<=ovN y (cN e) a b/\ovN y (cN e) a b<zi e b:=by
 have hn:¬ tN y (cN e) a b<=sN y (cN e) a b:=fun hc=>by
  have:=qfm.2 hc
  omega
 obtain ⟨k,e1,e2,e3,e4⟩:=qum hn
 have eb:=(h.le b hb)
 have hkb:(k:Int)<zi e b:=by unfold cN at e2;omega
 refine ⟨⟨by rw [List.length_set];exact h.len,fun p hp=>?_,fun d hd hw p hp=>?_⟩,ho,by omega⟩
 ·rw [qvk (by rw [h.len];exact hb)]
  by_cases ep:p=b
  ·subst ep
   rw [if_pos rfl]
   omega
  ·rw [if_neg ep]
   exact h.le p hp
 ·rw [qvk (by rw [h.len];exact hb)]
  have h0:=h.gr d hd hw p hp
  by_cases ep:p=b
  ·subst ep
   rw [if_pos rfl,e1]
   by_cases hc:(d p:Int)<=k
   ·exact hc
   ·exfalso
    have h1 : sN y d a p ≤ sN y (cN e) a p := qkr _ _ _ (by
     have:=h.gr d hd hw a ha
     unfold cN
     omega)
    have h2:cnt (y.hH p) 3 a (k+1)<=tN y d a p:=qkr _ _ _ (by omega)
    rw [qkq e3,e4] at h2
    have:=hw a ha p hb
    omega
  ·rw [if_neg ep]
   exact h0
theorem Sy.Cl.same {y:Sy} {c e e':List Int} (h:y.Cl c e) (hw:y.Wh (cN e)) (h':y.Cl c e') (hw':y.Wh (cN e')):e=e':=by
 refine qk1 (h.len.trans h'.len.symm) fun p hp=>?_
 have hp':p<y.pn:=by rw [<- h.len];exact hp
 have h1:=h.gr (cN e') (fun q hq=>by have:=h'.le q hq;unfold cN;omega) hw' p hp'
 have h2:=h'.gr (cN e) (fun q hq=>by have:=h.le q hq;unfold cN;omega) hw p hp'
 have h3:=h.le p hp'
 have h4:=h'.le p hp'
 unfold cN at h1 h2
 omega
open Classical in
noncomputable def clS (y:Sy) (c:List Int):List Int:=if h:cutB y c=true/\∃ e,y.Cl c e/\y.Wh (cN e) then h.2.choose else []
theorem qyo {y:Sy} {c:List Int} (h:cutB y c=false):clS y c=[]:=by
 unfold clS
 rw [dif_neg]
 rw [h]
 simp
theorem qo3 {y:Sy} {c e:List Int} (h:cutB y c=true) (h1:y.Cl c e) (h2:y.Wh (cN e)):clS y c=e:=by
 unfold clS
 have hx:cutB y c=true/\∃ e,y.Cl c e/\y.Wh (cN e):=⟨h,e,h1,h2⟩
 rw [dif_pos hx]
 exact hx.2.choose_spec.1.same hx.2.choose_spec.2 h1 h2
theorem qbn {y:Sy} {c:List Int} (h:cutB y c=true):y.Ok/\y.Cut c:=by
 unfold cutB at h
 simp only [Bool.and_eq_true] at h
 exact ⟨Sy.ok_of h.1,qns.1 h.2⟩
noncomputable def flS (y:Sy):List Int:=if y.okB=true then (List.range y.hn).map fun p=>(y.hL p:Int) else []
def flT (y:Sy) (k:Nat):List Int:=(List.range k).map fun p=>(y.hL p:Int)
theorem qqs (y:Sy) (k:Nat):flT y (k+1)=flT y k ++ [(y.hL k:Int)]:=by
 unfold flT
 rw [List.range_succ,List.map_append]
 rfl
theorem qdi (y:Sy) (k:Nat):(flT y k).length=k:=by simp [flT]
open Go.ChangeShapes Go.WideShapes Go.ChangeAt Go.Sort
theorem Sl.all {w:World} {a0:Option Addr} {xs:List Int} (h:Sl w a0 xs) (hn:0<xs.length):∃ b off,a0=some ⟨b,off,none⟩/\b<w.heap.size/\∀ i,i<xs.length->w.cell? ⟨b,off+i,none⟩=some (.int .i64 (zi xs i)):=by
 rcases h with rfl | h
 ·simp at hn
 ·exact h
theorem RowS.all {w:World} {a0:Option Addr} {n:Nat} {f:Nat->Value} (h:RowS w a0 n f) (hn:0<n):∃ b off,a0=some ⟨b,off,none⟩/\b<w.heap.size/\∀ i,i<n->w.cell? ⟨b,off+i,none⟩=some (f i):=by
 rcases h with rfl | h
 ·omega
 ·exact h
theorem BoxC.belowB {w w':World} {b:Nat} {v0 v1 v2 v3:Value} {B:Nat} (h:BoxC w b v0 v1 v2 v3) (hb:Below B w w') (hB:b<B):BoxC w' b v0 v1 v2 v3:=by
 obtain ⟨h0,h1,h2,h3⟩:=h
 exact ⟨(hb.cell (p:=⟨b,0,none⟩) hB).trans h0,(hb.cell (p:=⟨b,1,none⟩) hB).trans h1,(hb.cell (p:=⟨b,2,none⟩) hB).trans h2,(hb.cell (p:=⟨b,3,none⟩) hB).trans h3⟩
theorem Sy.Cut.nat {y:Sy} {c:List Int} (h:y.Cut c) {p:Nat} (hp:p<y.pn):zi c p=(cN c p:Nat):=by
 have:=h.le p hp
 unfold cN
 omega
theorem Sy.Cut.leN {y:Sy} {c:List Int} (h:y.Cut c) {p:Nat} (hp:p<y.pn):cN c p<=y.hL p:=by
 have:=h.le p hp
 unfold cN
 omega
theorem qug (x:SysIn) (ca:Option Addr) (cc:Nat) (c:List Int) (w:World) (hG:SysG w x) (hL:x.Len) (hhn:x.hn=x.pn) (hc:Sl w ca c) (hcl:c.length<=1048576):
  Calls Tryz.prog 176 #[x.v,.slice ca c.length cc] w fun e w'=>e=.returned (.bool (qB (x.y.Cut c)))/\Below w.heap.size w w':=by
 have HG:Hid (SysG w x):=hG
 have HC:Hid (Sl w ca c):=hc
 have hl':(c.length:Int)<=1048576:=by omega
 have hp':(x.pn:Int)<=1048576:=by have:=hL.p.1;omega
 have HLh:Hid (∀ i,i<x.hn->x.hL i<=1048576):=hL.h.2
 have HN:Hid (x.hn=x.pn):=hhn
 have BW:Hid (Below w.heap.size w (w.alloc (oQ4 x.pa x.pn x.pc x.sa x.sn x.sc x.wa x.wn x.wc x.ha x.hn x.hc))):=zT _ _
 have NB:Hid (BoxC (w.alloc (oQ4 x.pa x.pn x.pc x.sa x.sn x.sc x.wa x.wn x.wc x.ha x.hn x.hc)) w.heap.size (.slice x.pa x.pn x.pc) (.slice x.sa x.sn x.sc) (.slice x.wa x.wn x.wc) (.slice x.ha x.hn x.hc)):=BoxC.new w _ _ _ _ _
 clear hG hL hc hhn
 rcases zK ((c.length:Int) != (x.pn:Int)) with t | t
 case inl=>
  have HV:Hid (qB (x.y.Cut c)=false):=qar fun h=>by
   have h1:c.length=x.pn:=h.len
   rw [h1] at t
   simp at t
  go_enter Tryz.func176,Tryz.ntmps176
  go_upto_region 1 with fail
  generalize w.alloc (oQ4 x.pa x.pn x.pc x.sa x.sn x.sc x.wa x.wn x.wc x.ha x.hn x.hc)=W2 at *
  obtain ⟨b0,-,-,-⟩:=NB.out
  go_wp2
  go_ret
  rw [HV.out]
  exact ⟨rfl,BW.out⟩
 have HQ:Hid (c.length=x.pn):=by
  have h:(c.length:Int)=(x.pn:Int):=by simpa using t
  show c.length=x.pn
  omega
 go_enter Tryz.func176,Tryz.ntmps176
 go_upto_region 1 with fail
 generalize w.alloc (oQ4 x.pa x.pn x.pc x.sa x.sn x.sc x.wa x.wn x.wc x.ha x.hn x.hc)=W2 at *
 obtain ⟨b0,-,-,-⟩:=NB.out
 go_wp2_with fail
 clear b0 t
 go_loopw [5] (fun i wr=>∃ k:Nat,k<=c.length/\i=.int .i64 k/\Hid (Below w.heap.size w wr/\BoxC wr w.heap.size (.slice x.pa x.pn x.pc) (.slice x.sa x.sn x.sc) (.slice x.wa x.wn x.wc) (.slice x.ha x.hn x.hc))/\Hid (∀ j,j<k->0<=zi c j/\zi c j<=(x.hL j:Int))) (fun i _=>c.length - (intOf i).toNat)
 case atStart=>exact ⟨0,Nat.zero_le _,rfl,⟨BW.out,NB.out⟩,fun j hj=>by omega⟩
 case round=>
  clear BW NB
  obtain ⟨k,hk,rfl,HB,HK⟩:=hrel
  by_cases hlt:k<c.length
  ·have hlt':(k:Int)<(c.length:Int):=by omega
   have hkn:k<x.hn:=by have:=HQ.out;have:=HN.out;omega
   have hkn':(k:Int)<(x.hn:Int):=by omega
   obtain ⟨cb,co,rfl,-,c0⟩:=(HC.out.below HB.out.1).at hlt
   obtain ⟨bh,oh,eh,ch⟩:=(HG.out.below HB.out.1).h.at hkn
   have b3:=HB.out.2.2.2.2
   rw [eh] at b3
   clear eh
   have HZ:Hid (inB (zi c k) 0 (x.hL k)=true ↔ (0<=zi c k/\zi c k<=(x.hL k:Int))):=by
    show _ ↔ _
    simp [inB]
   generalize hZ:zi c k=Z at *
   have HX:Hid (zi c k=Z):=hZ
   clear hZ
   have q0:=cell_regrown c0
   have qh:=cell_regrown ch
   have q3:=cell_regrown b3
   go_upto_region 6 with fail
   clear c0 ch b3
   refine wp_region_quiet_below (by kernel_rfl) (by kernel_rfl) ?_
   repeat (quiet_step (first|(go_at_call 71;exact Calls.regrown_same (l1In_any _ _ _ _))))
   refine wpQuiet_nil ?_
   intro _ hw'
   obtain ⟨⟨dd,os⟩,hw''⟩:=hw'
   subst hw''
   have B3:Hid (Below w.heap.size w (grow (redrawn wr dd) os)/\BoxC (grow (redrawn wr dd) os) w.heap.size (.slice x.pa x.pn x.pc) (.slice x.sa x.sn x.sc) (.slice x.wa x.wn x.wc) (.slice x.ha x.hn x.hc)):=⟨HB.out.1.trans ((below_regrown wr dd os).mono HB.out.1.size),HB.out.2.below (below_regrown wr dd os)⟩
   generalize grow (redrawn wr dd) os=w3 at *
   clear q0 qh q3 HB
   generalize inB Z 0 (x.hL k)=T at *
   cases T with
   | false=>
    have HV:Hid (qB (x.y.Cut c)=false):=qar fun h=>by
     have h1:=h.le k (by have:=HQ.out;show k<x.pn;omega)
     exact absurd (HZ.out.2 (HX.out ▸ h1)) (by decide)
    go_wp2
    go_ret
    rw [HV.out]
    exact ⟨rfl,B3.out.1⟩
   | true=>
    have HK':Hid (∀ j,j<k+1->0<=zi c j/\zi c j<=(x.hL j:Int)):=fun j hj=>by
     by_cases e:j=k
     ·subst e
      rw [HX.out]
      exact HZ.out.1 rfl
     ·exact HK.out j (by omega)
    clear HK HZ
    go_wp2
    go_roundw
    case rel=>exact ⟨k+1,by omega,by go_num,B3.out,HK'.out⟩
    case measure=>simp [intOf];omega
  ·have HV:Hid (qB (x.y.Cut c)=true):=qaz ⟨HQ.out,fun p hp=>HK.out p (by have:=HQ.out;have h1:p<x.pn:=hp;omega)⟩
   have B3:=HB.out.1
   clear HK HB
   go_wp2
   go_ret
   rw [HV.out]
   exact ⟨rfl,B3⟩
theorem qj5 (x:SysIn) (ca:Option Addr) (cc:Nat) (c:List Int) (a b:Nat) (w:World) (hG:SysG w x) (hcap:∀ i,i<x.hn->x.hL i<=x.hC i) (hO:x.y.Ok) (hC:x.y.Cut c) (hc:Sl w ca c) (ha:a<x.pn) (hb:b<x.pn):
  Calls Tryz.prog 127 #[x.v,.slice ca c.length cc,.int .i64 a,.int .i64 b] w fun e w'=>e=.returned (.int .i64 (ovN x.y (cN c) a b))/\Below w.heap.size w w':=by
 have hhn:x.hn=x.pn:=hO.cn.2.2.1
 have hah:a<x.hn:=by omega
 have hbh:b<x.hn:=by omega
 have hla:x.hL a<=200:=hO.hl200 ha
 have hlb:x.hL b<=200:=hO.hl200 hb
 have hka:cN c a<=x.hL a:=hC.leN ha
 have hkb:cN c b<=x.hL b:=hC.leN hb
 have eza:=hC.nat (p:=a) ha
 have ezb:=hC.nat (p:=b) hb
 have hcl:c.length=x.pn:=hC.len
 have hcpa:=hcap a hah
 have hcpb:=hcap b hbh
 have HG:Hid (SysG w x):=hG
 have HSl:Hid (Sl w ca c):=hc
 have hac:(a:Int)<(c.length:Int):=by omega
 have hbc:(b:Int)<(c.length:Int):=by omega
 have ha':(a:Int)<(x.hn:Int):=by omega
 have hb':(b:Int)<(x.hn:Int):=by omega
 have HNo:Hid (tN x.y (cN c) a b<=sN x.y (cN c) a b->ovN x.y (cN c) a b = -1):=qxi
 have HYes:Hid (¬ tN x.y (cN c) a b<=sN x.y (cN c) a b->nthV (x.hH b) 3 a (x.hL b) (sN x.y (cN c) a b:Nat)=ovN x.y (cN c) a b):=fun h=>qwd h hkb
 have hsl:sN x.y (cN c) a b<=200:=zP (qmv _ _ _ _) (by omega)
 have htl:tN x.y (cN c) a b<=200:=zP (qmv _ _ _ _) (by omega)
 have ka:=qgg (x.hA a) (x.hL a) (x.hC a) (cN c a) (by omega)
 have kb:=qgg (x.hA b) (x.hL b) (x.hC b) (cN c b) (by omega)
 have HC1:Hid (∀ wx,Below w.heap.size w wx->Calls Tryz.prog 116 #[.slice (x.hA a) (cN c a) (x.hC a),.int .i64 2,.int .i64 b] wx fun e w'=>e=.returned (.int .i64 (sN x.y (cN c) a b:Nat))/\Below wx.heap.size wx w'):=fun wx hb=>qc6 (x.hA a) (cN c a) (x.hC a) (x.hH a) 2 b wx (by omega) (((hG.below hb).hi a hah).take (by omega))
 have HC2:Hid (∀ wx,Below w.heap.size w wx->Calls Tryz.prog 116 #[.slice (x.hA b) (cN c b) (x.hC b),.int .i64 3,.int .i64 a] wx fun e w'=>e=.returned (.int .i64 (tN x.y (cN c) a b:Nat))/\Below wx.heap.size wx w'):=fun wx hb=>qc6 (x.hA b) (cN c b) (x.hC b) (x.hH b) 3 a wx (by omega) (((hG.below hb).hi b hbh).take (by omega))
 have HNt:Hid (∀ wx,Below w.heap.size w wx->Calls Tryz.prog 183 #[.slice (x.hA b) (x.hL b) (x.hC b),.int .i64 3,.int .i64 a,.int .i64 (sN x.y (cN c) a b:Nat)] wx fun e w'=>e=.returned (.int .i64 (nthV (x.hH b) 3 a (x.hL b) (sN x.y (cN c) a b:Nat)))/\Below wx.heap.size wx w'):=fun wx hb=>quz (x.hA b) (x.hL b) (x.hC b) (x.hH b) 3 a _ wx (by omega) ((hG.below hb).hi b hbh) (by omega) (by omega)
 generalize sN x.y (cN c) a b=sn at *
 generalize tN x.y (cN c) a b=tn at *
 generalize ovN x.y (cN c) a b=ov at *
 generalize nthV (x.hH b) 3 a (x.hL b) (sn:Nat)=nv at *
 have HR:Hid (a<c.length/\b<c.length/\a<x.hn/\b<x.hn/\zi c a=(cN c a:Nat)/\zi c b=(cN c b:Nat)):=⟨by omega,by omega,hah,hbh,eza,ezb⟩
 have BW:Hid (Below w.heap.size w (w.alloc (oQ4 x.pa x.pn x.pc x.sa x.sn x.sc x.wa x.wn x.wc x.ha x.hn x.hc))):=zT _ _
 have NB:Hid (BoxC (w.alloc (oQ4 x.pa x.pn x.pc x.sa x.sn x.sc x.wa x.wn x.wc x.ha x.hn x.hc)) w.heap.size (.slice x.pa x.pn x.pc) (.slice x.sa x.sn x.sc) (.slice x.wa x.wn x.wc) (.slice x.ha x.hn x.hc)):=BoxC.new w _ _ _ _ _
 have hsl':(sn:Int)<=200:=by omega
 have htl':(tn:Int)<=200:=by omega
 clear hG hcap hO hC hc hhn hah hbh hcl eza ezb hcpa hcpb
 obtain ⟨cb,co,rfl,-,-⟩:=HSl.out.all (by have:=HR.out;omega)
 have HSc:Hid (∀ wx,Below w.heap.size w wx->∀ i,i<c.length->wx.cell? ⟨cb,co+i,none⟩=some (.int .i64 (zi c i))):=fun wx hb i hi=>by
  obtain ⟨b',o',e,-,h⟩:=(HSl.out.below hb).at hi
  simp only [Option.some.injEq,Addr.mk.injEq] at e
  obtain ⟨rfl,rfl,-⟩:=e
  exact h
 have HRow:Hid (∃ hb ho,x.ha=some ⟨hb,ho,none⟩/\∀ wx,Below w.heap.size w wx->∀ i,i<x.hn->wx.cell? ⟨hb,ho+i,none⟩=some (.slice (x.hA i) (x.hL i) (x.hC i))):=by
  obtain ⟨b1,o1,e1,-,-⟩:=HG.out.h.all (by have:=HR.out;omega)
  refine ⟨b1,o1,e1,fun wx hb i hi=>?_⟩
  obtain ⟨b',o',e,h⟩:=(HG.out.below hb).h.at hi
  rw [e1] at e
  simp only [Option.some.injEq,Addr.mk.injEq] at e
  obtain ⟨rfl,rfl,-⟩:=e
  exact h
 obtain ⟨hbb,hoo,ehh,hrow⟩:=HRow.out
 have HRw:Hid (∀ wx,Below w.heap.size w wx->∀ i,i<x.hn->wx.cell? ⟨hbb,hoo+i,none⟩=some (.slice (x.hA i) (x.hL i) (x.hC i))):=hrow
 have HE:Hid (x.ha=some ⟨hbb,hoo,none⟩):=ehh
 clear HRow hrow ehh
 go_enter Tryz.func127,Tryz.ntmps127
 go_upto_region 1 with fail
 generalize w.alloc (oQ4 x.pa x.pn x.pc x.sa x.sn x.sc x.wa x.wn x.wc x.ha x.hn x.hc)=W2 at *
 have b3:=NB.out.2.2.2
 rw [HE.out] at b3
 have q3:=cell_regrown b3
 have qa:=cell_regrown (HRw.out W2 BW.out a HR.out.2.2.1)
 have qc:=cell_regrown ((HSc.out W2 BW.out a HR.out.1).trans (by rw [HR.out.2.2.2.2.1]))
 have HQ2:Hid (∀ d os,Below w.heap.size w (grow (redrawn W2 d) os)):=fun d os=>BW.out.trans ((below_regrown W2 d os).mono BW.out.size)
 clear b3
 refine wp_region_quiet_below (by kernel_rfl) (by kernel_rfl) ?_
 repeat (quiet_step (first|(go_at_call 116;exact Calls.regrown_of (HC1.out _ (HQ2.out _ _)))))
 refine wpQuiet_nil ?_
 intro _ hw'
 obtain ⟨⟨dd,os⟩,hw''⟩:=hw'
 subst hw''
 have B3:Hid (Below w.heap.size w (grow (redrawn W2 dd) os)/\BoxC (grow (redrawn W2 dd) os) w.heap.size (.slice x.pa x.pn x.pc) (.slice x.sa x.sn x.sc) (.slice x.wa x.wn x.wc) (.slice x.ha x.hn x.hc)):=⟨HQ2.out dd os,NB.out.below (below_regrown W2 dd os)⟩
 generalize grow (redrawn W2 dd) os=w3 at *
 clear q3 qa qc HQ2 BW NB HC1 ka
 have b3:=B3.out.2.2.2.2
 rw [HE.out] at b3
 have q3:=cell_regrown b3
 have qa:=cell_regrown (HRw.out w3 B3.out.1 b HR.out.2.2.2.1)
 have qc:=cell_regrown ((HSc.out w3 B3.out.1 b HR.out.2.1).trans (by rw [HR.out.2.2.2.2.2]))
 have HQ2:Hid (∀ d os,Below w.heap.size w (grow (redrawn w3 d) os)):=fun d os=>B3.out.1.trans ((below_regrown w3 d os).mono B3.out.1.size)
 clear b3
 go_upto_region 2 with fail
 refine wp_region_quiet_below (by kernel_rfl) (by kernel_rfl) ?_
 repeat (quiet_step (first|(go_at_call 116;exact Calls.regrown_of (HC2.out _ (HQ2.out _ _)))))
 refine wpQuiet_nil ?_
 intro _ hw'
 obtain ⟨⟨dd,os⟩,hw''⟩:=hw'
 subst hw''
 have B4:Hid (Below w.heap.size w (grow (redrawn w3 dd) os)/\BoxC (grow (redrawn w3 dd) os) w.heap.size (.slice x.pa x.pn x.pc) (.slice x.sa x.sn x.sc) (.slice x.wa x.wn x.wc) (.slice x.ha x.hn x.hc)):=⟨HQ2.out dd os,B3.out.2.below (below_regrown w3 dd os)⟩
 generalize grow (redrawn w3 dd) os=w4 at *
 clear q3 qa qc HQ2 B3 HC2 kb
 by_cases hts:tn<=sn
 ·have hts':(tn:Int)<=(sn:Int):=by omega
  have HV:=HNo.out hts
  clear HNo HYes
  go_wp2
  go_ret
  exact ⟨qel HV.symm,B4.out.1⟩
 ·have hts':¬ (tn:Int)<=(sn:Int):=by omega
  have HV:Hid (nv=ov):=HYes.out hts
  clear HNo HYes
  have b3:=B4.out.2.2.2.2
  rw [HE.out] at b3
  have qa:=HRw.out w4 B4.out.1 b HR.out.2.2.2.1
  go_wp2_with fail
  refine (HNt.out w4 B4.out.1).mono ?_
  rintro e w5 ⟨rfl,q5⟩
  have B5:Hid (Below w.heap.size w w5):=B4.out.1.trans (q5.mono B4.out.1.size)
  rw [HV.out]
  clear q5 b3 qa B4 HNt HV
  go_wp2
  go_ret
  exact ⟨rfl,B5.out⟩
theorem qiw (x:SysIn) (ca:Option Addr) (cc:Nat) (c:List Int) (w:World) (hG:SysG w x) (hcap:∀ i,i<x.hn->x.hL i<=x.hC i) (hO:x.y.Ok) (hC:x.y.Cut c) (hc:Sl w ca c):
  Calls Tryz.prog 113 #[x.v,.slice ca c.length cc] w fun e w'=>e=.returned (.bool (qB (x.y.Wh (cN c))))/\Below w.heap.size w w':=by
 have hcl:c.length=x.pn:=hC.len
 have h4:x.pn<=4:=hO.cn.1.2
 have hl':(c.length:Int)<=4:=by omega
 have HQ:Hid (c.length=x.pn):=hcl
 have HOv:Hid (∀ wx,Below w.heap.size w wx->∀ a b,a<c.length->b<c.length->Calls Tryz.prog 127 #[x.v,.slice ca c.length cc,.int .i64 (a:Nat),.int .i64 (b:Nat)] wx fun e w'=>e=.returned (.int .i64 (ovN x.y (cN c) a b))/\Below wx.heap.size wx w'):=fun wx hb a b ha hb'=>qj5 x ca cc c a b wx (hG.below hb) hcap hO hC (hc.below hb) (by omega) (by omega)
 have BW:Hid (Below w.heap.size w (w.alloc (oQ4 x.pa x.pn x.pc x.sa x.sn x.sc x.wa x.wn x.wc x.ha x.hn x.hc))):=zT _ _
 have NB:Hid (BoxC (w.alloc (oQ4 x.pa x.pn x.pc x.sa x.sn x.sc x.wa x.wn x.wc x.ha x.hn x.hc)) w.heap.size (.slice x.pa x.pn x.pc) (.slice x.sa x.sn x.sc) (.slice x.wa x.wn x.wc) (.slice x.ha x.hn x.hc)):=BoxC.new w _ _ _ _ _
 clear hG hcap hO hC hc hcl h4
 go_enter Tryz.func113,Tryz.ntmps113
 go_upto_region 1 with fail
 generalize w.alloc (oQ4 x.pa x.pn x.pc x.sa x.sn x.sc x.wa x.wn x.wc x.ha x.hn x.hc)=W2 at *
 go_wp2_with fail
 go_loopw [5] (fun i wr=>∃ k:Nat,k<=c.length/\i=.int .i64 k/\Hid (Below w.heap.size w wr/\BoxC wr w.heap.size (.slice x.pa x.pn x.pc) (.slice x.sa x.sn x.sc) (.slice x.wa x.wn x.wc) (.slice x.ha x.hn x.hc))/\Hid (∀ a,a<k->∀ b,b<c.length->tN x.y (cN c) a b<=sN x.y (cN c) a b)) (fun i _=>c.length - (intOf i).toNat)
 case atStart=>exact ⟨0,Nat.zero_le _,rfl,⟨BW.out,NB.out⟩,fun j hj=>by omega⟩
 case round=>
  clear BW NB
  obtain ⟨k,hk,rfl,HB,HK⟩:=hrel
  by_cases hlt:k<c.length
  ·have hlt':(k:Int)<(c.length:Int):=by omega
   go_wp2_with fail
   go_loopw [6] (fun i wr=>∃ j:Nat,j<=c.length/\i=.int .i64 j/\Hid (Below w.heap.size w wr/\BoxC wr w.heap.size (.slice x.pa x.pn x.pc) (.slice x.sa x.sn x.sc) (.slice x.wa x.wn x.wc) (.slice x.ha x.hn x.hc))/\Hid (∀ b,b<j->tN x.y (cN c) k b<=sN x.y (cN c) k b)) (fun i _=>c.length - (intOf i).toNat)
   case atStart=>exact ⟨0,Nat.zero_le _,rfl,HB.out,fun j hj=>by omega⟩
   case round=>
    clear HB
    obtain ⟨j,hj,rfl,HB,HJ⟩:=hrel
    by_cases hjt:j<c.length
    ·have hjt':(j:Int)<(c.length:Int):=by omega
     obtain ⟨b0,b1,b2,b3⟩:=HB.out.2
     go_wp2_with fail
     refine (HOv.out _ HB.out.1 k j hlt hjt).mono ?_
     rintro e w3 ⟨rfl,q3⟩
     have B3:Hid (Below w.heap.size w w3/\BoxC w3 w.heap.size (.slice x.pa x.pn x.pc) (.slice x.sa x.sn x.sc) (.slice x.wa x.wn x.wc) (.slice x.ha x.hn x.hc)):=⟨HB.out.1.trans (q3.mono HB.out.1.size),HB.out.2.below q3⟩
     have HN:Hid (ovN x.y (cN c) k j<0 ↔ tN x.y (cN c) k j<=sN x.y (cN c) k j):=qfm
     generalize ovN x.y (cN c) k j=ov at *
     clear q3 b0 b1 b2 b3 HB
     by_cases ho:0<=ov
     ·have HV:Hid (qB (x.y.Wh (cN c))=false):=qar fun h=>by
       have h1:=HN.out.2 (h k (by have:=HQ.out;show k<x.pn;omega) j (by have:=HQ.out;show j<x.pn;omega))
       omega
      go_wp2
      go_ret
      rw [HV.out]
      exact ⟨rfl,B3.out.1⟩
     ·have HJ':Hid (∀ b,b<j+1->tN x.y (cN c) k b<=sN x.y (cN c) k b):=fun b hb=>by
       by_cases e:b=j
       ·subst e
        exact HN.out.1 (by omega)
       ·exact HJ.out b (by omega)
      clear HJ HN
      go_wp2
      go_roundw
      case rel=>exact ⟨j+1,by omega,by go_num,B3.out,HJ'.out⟩
      case measure=>simp [intOf];omega
    ·have HK':Hid (∀ a,a<k+1->∀ b,b<c.length->tN x.y (cN c) a b<=sN x.y (cN c) a b):=fun a ha b hb=>by
      by_cases e:a=k
      ·subst e
       exact HJ.out b (by omega)
      ·exact HK.out a (by omega) b hb
     clear HK HJ
     go_wp2
     go_roundw
     case rel=>exact ⟨k+1,by omega,by go_num,HB.out,HK'.out⟩
     case measure=>simp [intOf];omega
  ·have HV:Hid (qB (x.y.Wh (cN c))=true):=qaz fun a ha b hb=>HK.out a (by have:=HQ.out;have h1:a<x.pn:=ha;omega) b (by have:=HQ.out;have h1:b<x.pn:=hb;omega)
   have B3:=HB.out.1
   clear HK HB
   go_wp2
   go_ret
   rw [HV.out]
   exact ⟨rfl,B3⟩
open Go.RowKit Go.Extern.Stop Go.Stop Go.Extern
theorem qyj (t:Value) (w:World):
  Calls Tryz.prog 180 #[.nilIface,t] w fun e w'=>e=.returned (.bool false)/\w'=w:=by
 go_enter Tryz.func180,Tryz.ntmps180
 go_wp2
 go_ret
 exact ⟨rfl,rfl⟩
theorem qw2 (t:Addr) (w:World):(ReflectliteValue.unpack (.iface 219 (.pointer (some t)))).run Tryz.prog w
  = .ok (.agg #[.pointer (some ⟨1,219,none⟩),.pointer (some ⟨w.heap.size,0,none⟩),.int .u64 150]) (w.alloc (.cells #[.pointer (some t)] 219)):=by kernel_rfl
theorem qzh (a : Addr) (w : World) : (ReflectliteValue.methodAny (ReflectliteValue.valueError "reflectlite.Value.Type" 0) (fun t _ _ _ => ReflectliteType.toType t) #[.agg #[.pointer (some ⟨1, 219, none⟩), .pointer (some a), .int .u64 150]]).run Tryz.prog w
  = .ok (.iface 298 (.agg #[.pointer (some ⟨1,219,none⟩)])) w:=by kernel_rfl
theorem qzg (w:World):((ReflectliteType.abiMethod fun t=>(fun a:Nat=>Value.int IntKind.u8 (a:Int)) <$> Rtype.kind t) #[.pointer (some ⟨1,219,none⟩)]).run Tryz.prog w=.ok (.int .u8 22) w:=by kernel_rfl
theorem qzf (w:World):((ReflectliteType.abiMethod fun t=>(fun a:Nat=>Value.int IntKind.u8 (a:Int)) <$> Rtype.kind t) #[.pointer (some ⟨1,217,none⟩)]).run Tryz.prog w=.ok (.int .u8 25) w:=by kernel_rfl
theorem rlm (z:Sem Value) (f:TypeId->Addr->Nat->Nat->Sem Value) (v:Value):
  ReflectliteValue.method z f #[v]=(do match <- ReflectliteValue.parts v with | none=>z | some (t,a,fl)=>f t a fl (fl % 32)):=rfl
theorem qxj (a:Addr) (w:World):(ReflectliteValue.parts (.agg #[.pointer (some ⟨1,219,none⟩),.pointer (some a),.int .u64 150])).run Tryz.prog w=.ok (some (219,a,150)) w:=by kernel_rfl
theorem qy5 (a p:Addr) (W:World) (ha:W.cell? a=some (.pointer (some p))):
  (ReflectliteValue.method (ReflectliteValue.valueError "reflectlite.Value.IsNil" 0) ReflectliteValue.isNil #[.agg #[.pointer (some ⟨1, 219, none⟩), .pointer (some a), .int .u64 150]]).run Tryz.prog W = .ok (.bool false) W := by
 rw [rlm]
 simp only [Sem.run_bind,qxj,Result.andThen]
 simp [ReflectliteValue.isNil,loadVar,isAgg,underlying,Tryz.underlying219,ha,Result.andThen]
theorem qze (w:World):(ReflectliteType.method ReflectliteType.elem #[.agg #[.pointer (some ⟨1,219,none⟩)]]).run Tryz.prog w=.ok (.iface 298 (.agg #[.pointer (some ⟨1,217,none⟩)])) w:=by kernel_rfl
theorem qpi (w : World) : (ReflectliteType.relation "Implements" ReflectliteType.implements_ #[.agg #[.pointer (some ⟨1, 217, none⟩)], .iface 298 (.agg #[.pointer (some ⟨1, 213, none⟩)])]).run Tryz.prog w = .ok (.bool true) w := by kernel_rfl
theorem qye (v:Value) (w:World):(ReflectliteType.typeOf #[.iface 217 v]).run Tryz.prog w=.ok (.iface 298 (.agg #[.pointer (some ⟨1,217,none⟩)])) w:=by kernel_rfl
theorem qoy (w : World) : (ReflectliteType.relation "AssignableTo" ReflectliteType.assignableTo #[.agg #[.pointer (some ⟨1, 217, none⟩)], .iface 298 (.agg #[.pointer (some ⟨1, 217, none⟩)])]).run Tryz.prog w = .ok (.bool true) w := by kernel_rfl
theorem qw1 (x:Int) (w:World):(ReflectliteValue.unpack (.iface 217 (.agg #[.int .i64 x]))).run Tryz.prog w
  = .ok (.agg #[.pointer (some ⟨1,217,none⟩),.pointer (some ⟨w.heap.size,0,none⟩),.int .u64 153]) (w.alloc (.cells #[.int .i64 x] 217)):=by kernel_rfl
theorem qx2 (w:World):(Rtype.elem? 219).run Tryz.prog w=.ok (some 217) w:=by kernel_rfl
theorem mkE (p:Addr) (w:World):(ReflectliteValue.mk 217 p ReflectliteValue.flagAddr).run Tryz.prog w=.ok (.agg #[.pointer (some ⟨1,217,none⟩),.pointer (some p),.int .u64 409]) w:=by kernel_rfl
def mkI (k:Int) (i:Nat):I5:=⟨k+5*i,k+5*i+1,k+5*i+1+1,k+5*i+1+1+1,k+5*i+1+1+1+1⟩
def mkT (k:Int) (i:Nat):I2:=⟨(k+2*i) % 3 == 0,k+2*i+1⟩
def mkEv (k:Int) (i:Nat):E3:=⟨k+3*i,k+3*i+1,k+3*i+1+1⟩
theorem qr9 {f:Nat->List Value} {n i:Nat} (hl:∀ j,j<n->(f j).length=2) (hi:i<n) (a b:Value):
  flat (fun j=>if j=i then [a,b] else f j) n=((flat f n).set (i*2) a).set (i*2+1) b:=by
 have hl':∀ j,j<n->((fun j=>if j=i then [a,b] else f j) j).length=2:=fun j hj=>by
  by_cases e:j=i
  ·simp [e]
  ·simp [e,hl j hj]
 have n1:=qbl hl
 have n2:=qbl hl'
 apply List.ext_getElem?
 intro q
 by_cases hq:q<n*2
 ·have hk:q / 2<n:=by omega
  have hr:q % 2<2:=by omega
  have e0:q=q / 2*2+q % 2:=by omega
  have e1:=qbq hl' hk hr
  have e2:=qbq hl hk hr
  rw [<- e0] at e1 e2
  rw [e1]
  by_cases ei:q / 2=i
  ·simp only [if_pos ei]
   have hrK:q % 2=0\/q % 2=1:=by omega
   rcases hrK with h | h <;> rw [h] <;>
    (simp only [List.getElem?_set, List.length_set, n1]
     have:i<n:=hi
     repeat (first | rw [if_pos (by omega)] | rw [if_neg (by omega)])
     simp)
  ·simp only [if_neg ei]
   simp only [List.getElem?_set,List.length_set,n1]
   repeat rw [if_neg (by omega)]
   rw [e2]
 ·rw [List.getElem?_eq_none (by omega),List.getElem?_eq_none (by simp only [List.length_set];omega)]
theorem qsa {f:Nat->List Value} {n i:Nat} (hl:∀ j,j<n->(f j).length=3) (hi:i<n) (a b c:Value):
  flat (fun j=>if j=i then [a,b,c] else f j) n=(((flat f n).set (i*3) a).set (i*3+1) b).set (i*3+2) c:=by
 have hl':∀ j,j<n->((fun j=>if j=i then [a,b,c] else f j) j).length=3:=fun j hj=>by
  by_cases e:j=i
  ·simp [e]
  ·simp [e,hl j hj]
 have n1:=qbl hl
 have n2:=qbl hl'
 apply List.ext_getElem?
 intro q
 by_cases hq:q<n*3
 ·have hk:q / 3<n:=by omega
  have hr:q % 3<3:=by omega
  have e0:q=q / 3*3+q % 3:=by omega
  have e1:=qbq hl' hk hr
  have e2:=qbq hl hk hr
  rw [<- e0] at e1 e2
  rw [e1]
  by_cases ei:q / 3=i
  ·simp only [if_pos ei]
   have hrK:q % 3=0\/q % 3=1\/q % 3=2:=by omega
   rcases hrK with h | h | h <;> rw [h] <;>
    (simp only [List.getElem?_set, List.length_set, n1]
     have:i<n:=hi
     repeat (first | rw [if_pos (by omega)] | rw [if_neg (by omega)])
     simp)
  ·simp only [if_neg ei]
   simp only [List.getElem?_set,List.length_set,n1]
   repeat rw [if_neg (by omega)]
   rw [e2]
 ·rw [List.getElem?_eq_none (by omega),List.getElem?_eq_none (by simp only [List.length_set];omega)]
theorem qsb {f:Nat->List Value} {n i:Nat} (hl:∀ j,j<n->(f j).length=5) (hi:i<n) (a b c d e:Value):
  flat (fun j=>if j=i then [a,b,c,d,e] else f j) n=(((((flat f n).set (i*5) a).set (i*5+1) b).set (i*5+2) c).set (i*5+3) d).set (i*5+4) e:=by
 have hl':∀ j,j<n->((fun j=>if j=i then [a,b,c,d,e] else f j) j).length=5:=fun j hj=>by
  by_cases e:j=i
  ·simp [e]
  ·simp [e,hl j hj]
 have n1:=qbl hl
 have n2:=qbl hl'
 apply List.ext_getElem?
 intro q
 by_cases hq:q<n*5
 ·have hk:q / 5<n:=by omega
  have hr:q % 5<5:=by omega
  have e0:q=q / 5*5+q % 5:=by omega
  have e1:=qbq hl' hk hr
  have e2:=qbq hl hk hr
  rw [<- e0] at e1 e2
  rw [e1]
  by_cases ei:q / 5=i
  ·simp only [if_pos ei]
   have hrK:q % 5=0\/q % 5=1\/q % 5=2\/q % 5=3\/q % 5=4:=by omega
   rcases hrK with h | h | h | h | h <;> rw [h] <;>
    (simp only [List.getElem?_set, List.length_set, n1]
     have:i<n:=hi
     repeat (first | rw [if_pos (by omega)] | rw [if_neg (by omega)])
     simp)
  ·simp only [if_neg ei]
   simp only [List.getElem?_set,List.length_set,n1]
   repeat rw [if_neg (by omega)]
   rw [e2]
 ·rw [List.getElem?_eq_none (by omega),List.getElem?_eq_none (by simp only [List.length_set];omega)]
theorem qnh (b n cap B:Nat) (h:Nat->I5) (k:Int) (w:World) (hlen:n<=1048576) (k0:0<=k) (k1:k<=100000000) (o:w.ownsRow B 115 5 (.slice (some ⟨b,0,none⟩) n cap) n (fI h n)):
  Calls Tryz.prog 106 #[.slice (some ⟨b,0,none⟩) n cap,.int .i64 k] w fun e w'=>e=.returned (.int .i64 (k+5*n))/\w.grownBy w' (some b)/\w'.ownsRow B 115 5 (.slice (some ⟨b,0,none⟩) n cap) n (fI (mkI k) n):=by
 have hl':(n:Int)<=1048576:=by omega
 have HO:Hid (w.ownsRow B 115 5 (.slice (some ⟨b,0,none⟩) n cap) n (fI h n)):=o
 clear o
 go_enter Tryz.func106,Tryz.ntmps106
 go_wp2_with fail
 go_loopw [1,5] (fun q i wr=>∃ j:Nat,j<=n/\i=.int .i64 j/\q=.int .i64 (k+5*j)/\Hid (wr.ownsRow B 115 5 (.slice (some ⟨b,0,none⟩) n cap) n (flat (fun t=>cI (if t<j then mkI k t else h t)) n)/\w.grownBy wr (some b))) (fun _ i _=>n - (intOf i).toNat)
 case atStart=>
  refine ⟨0,Nat.zero_le _,rfl,by simp,?_,World.grownBy.refl _ _⟩
  have e:flat (fun t=>cI (if t<0 then mkI k t else h t)) n=fI h n:=qa9 fun t _=>by rw [if_neg (by omega)]
  rw [e]
  exact HO.out
 case round=>
  clear HO
  obtain ⟨j,hj,rfl,rfl,HR⟩:=hrel
  by_cases hlt:j<n
  ·have hlt':(j:Int)<(n:Int):=by omega
   have hc:∀ r,r<5->wr.cell? ⟨b,j*5+r,none⟩=(cI (h j))[r]?:=fun r hr=>by
    rw [HR.out.1.cellAt _ (by omega)]
    have e:=qbq (sz:=5) (f:=(fun t=>cI (if t<j then mkI k t else h t))) (n:=n) (fun _ _=>rfl) hlt hr
    rw [if_neg (by omega)] at e
    exact e
   have c0:=hc 0 (by omega)
   have c1:=hc 1 (by omega)
   have c2:=hc 2 (by omega)
   have c3:=hc 3 (by omega)
   have c4:=hc 4 (by omega)
   simp only [cI,Nat.add_zero,List.getElem?_cons_zero,List.getElem?_cons_succ] at c0 c1 c2 c3 c4
   have fz:∀ o,wr.frozen? ⟨b,o,none⟩=false:=fun o=>HR.out.1.frozenAt o
   clear hc
   go_wp2
   go_roundw
   case rel=>
    refine ⟨j+1,by omega,by go_num,by go_num,?_,?_⟩
    ·have e:flat (fun t=>cI (if t<j+1 then mkI k t else h t)) n=flat (fun t=>if t=j then cI (mkI k j) else (fun t=>cI (if t<j then mkI k t else h t)) t) n:=qa9 fun t _=>by
      by_cases e:t=j
      ·rw [if_pos e,if_pos (by omega),e]
      ·rw [if_neg e]
       show cI (if t<j+1 then mkI k t else h t)=cI (if t<j then mkI k t else h t)
       by_cases e2:t<j
       ·rw [if_pos e2,if_pos (by omega)]
       ·rw [if_neg e2,if_neg (by omega)]
     have e2:=qsb (f:=(fun t=>cI (if t<j then mkI k t else h t))) (n:=n) (i:=j) (fun _ _=>rfl) hlt (.int .i64 (k+5*(j:Int))) (.int .i64 (k+5*(j:Int)+1)) (.int .i64 (k+5*(j:Int)+1+1)) (.int .i64 (k+5*(j:Int)+1+1+1)) (.int .i64 (k+5*(j:Int)+1+1+1+1))
     rw [e]
     refine Eq.mpr (congrArg (fun l=>World.ownsRow _ B 115 5 (.slice (some ⟨b,0,none⟩) n cap) n l) e2) ?_
     exact (World.ownsRow.stored (World.ownsRow.stored (World.ownsRow.stored (World.ownsRow.stored (World.ownsRow.stored HR.out.1 (j*5) (.int .i64 (k+5*(j:Int)))).1 (j*5+1) (.int .i64 (k+5*(j:Int)+1))).1 (j*5+2) (.int .i64 (k+5*(j:Int)+1+1))).1 (j*5+3) (.int .i64 (k+5*(j:Int)+1+1+1))).1 (j*5+4) (.int .i64 (k+5*(j:Int)+1+1+1+1))).1
    ·repeat (refine zV ?_ (.inl rfl) _)
     exact HR.out.2
   case measure=>simp [intOf];omega
  ·have hjl:j=n:=by omega
   subst hjl
   have HF:Hid (w.grownBy wr (some b)/\wr.ownsRow B 115 5 (.slice (some ⟨b,0,none⟩) j cap) j (fI (mkI k) j)):=by
    refine ⟨HR.out.2,?_⟩
    have e:flat (fun t=>cI (if t<j then mkI k t else h t)) j=fI (mkI k) j:=qa9 fun t ht=>by rw [if_pos ht]
    have:=HR.out.1
    rw [e] at this
    exact this
   clear HR
   go_wp2
   go_ret
   exact ⟨rfl,HF.out⟩
theorem qm9 (b n cap:Nat) (k:Int) (w:World) (hlen:n<=1048576) (k0:0<=k) (k1:k<=100000000) (hb:b<w.heap.size) (h:qaj w b 0 n (mkI k)):
  Calls Tryz.prog 109 #[.slice (some ⟨b,0,none⟩) n cap,.int .i64 k] w fun e w'=>e=.returned (.int .i64 (k+5*n))/\Below w.heap.size w w':=by
 have hl':(n:Int)<=1048576:=by omega
 have HO:Hid (qaj w b 0 n (mkI k)/\b<w.heap.size):=⟨h,hb⟩
 clear h hb
 go_enter Tryz.func109,Tryz.ntmps109
 go_wp2_with fail
 go_loopw [1,5] (fun q i wr=>∃ j:Nat,j<=n/\i=.int .i64 j/\q=.int .i64 (k+5*j)/\Below w.heap.size w wr) (fun _ i _=>n - (intOf i).toNat)
 case atStart=>exact ⟨0,Nat.zero_le _,rfl,by simp,Below.refl _ _⟩
 case round=>
  obtain ⟨j,hj,rfl,rfl,hbw⟩:=hrel
  by_cases hlt:j<n
  ·have hlt':(j:Int)<(n:Int):=by omega
   obtain ⟨d0,d1,d2,d3,d4⟩:=HO.out.1 j hlt
   have c0:wr.cell? ⟨b,j*5,none⟩=some (.int .i64 (k+5*(j:Int))):=(hbw.cell (p:=⟨b,j*5,none⟩) HO.out.2).trans (by have d:=d0;rw [Nat.zero_add] at d;exact d)
   have c1:wr.cell? ⟨b,j*5+1,none⟩=some (.int .i64 (k+5*(j:Int)+1)):=(hbw.cell (p:=⟨b,j*5+1,none⟩) HO.out.2).trans (by have d:=d1;rw [Nat.zero_add] at d;exact d)
   have c2:wr.cell? ⟨b,j*5+2,none⟩=some (.int .i64 (k+5*(j:Int)+1+1)):=(hbw.cell (p:=⟨b,j*5+2,none⟩) HO.out.2).trans (by have d:=d2;rw [Nat.zero_add] at d;exact d)
   have c3:wr.cell? ⟨b,j*5+3,none⟩=some (.int .i64 (k+5*(j:Int)+1+1+1)):=(hbw.cell (p:=⟨b,j*5+3,none⟩) HO.out.2).trans (by have d:=d3;rw [Nat.zero_add] at d;exact d)
   have c4:wr.cell? ⟨b,j*5+4,none⟩=some (.int .i64 (k+5*(j:Int)+1+1+1+1)):=(hbw.cell (p:=⟨b,j*5+4,none⟩) HO.out.2).trans (by have d:=d4;rw [Nat.zero_add] at d;exact d)
   clear d0 d1 d2 d3 d4
   go_wp2
   go_roundw
   case rel=>exact ⟨j+1,by omega,by go_num,by go_num,hbw⟩
   case measure=>simp [intOf];omega
  ·have hjl:j=n:=by omega
   subst hjl
   go_wp2
   go_ret
   exact ⟨rfl,hbw⟩
theorem qle (b n cap B:Nat) (h:Nat->I2) (k:Int) (w:World) (hlen:n<=1048576) (k0:0<=k) (k1:k<=100000000) (o:w.ownsRow B 138 2 (.slice (some ⟨b,0,none⟩) n cap) n (fT h n)):
  Calls Tryz.prog 107 #[.slice (some ⟨b,0,none⟩) n cap,.int .i64 k] w fun e w'=>e=.returned (.int .i64 (k+2*n))/\w.grownBy w' (some b)/\w'.ownsRow B 138 2 (.slice (some ⟨b,0,none⟩) n cap) n (fT (mkT k) n):=by
 have hl':(n:Int)<=1048576:=by omega
 have HO:Hid (w.ownsRow B 138 2 (.slice (some ⟨b,0,none⟩) n cap) n (fT h n)):=o
 clear o
 go_enter Tryz.func107,Tryz.ntmps107
 go_wp2_with fail
 go_loopw [1,5] (fun q i wr=>∃ j:Nat,j<=n/\i=.int .i64 j/\q=.int .i64 (k+2*j)/\Hid (wr.ownsRow B 138 2 (.slice (some ⟨b,0,none⟩) n cap) n (flat (fun t=>cT (if t<j then mkT k t else h t)) n)/\w.grownBy wr (some b))) (fun _ i _=>n - (intOf i).toNat)
 case atStart=>
  refine ⟨0,Nat.zero_le _,rfl,by simp,?_,World.grownBy.refl _ _⟩
  have e:flat (fun t=>cT (if t<0 then mkT k t else h t)) n=fT h n:=qa9 fun t _=>by rw [if_neg (by omega)]
  rw [e]
  exact HO.out
 case round=>
  clear HO
  obtain ⟨j,hj,rfl,rfl,HR⟩:=hrel
  by_cases hlt:j<n
  ·have hlt':(j:Int)<(n:Int):=by omega
   have hc:∀ r,r<2->wr.cell? ⟨b,j*2+r,none⟩=(cT (h j))[r]?:=fun r hr=>by
    rw [HR.out.1.cellAt _ (by omega)]
    have e:=qbq (sz:=2) (f:=(fun t=>cT (if t<j then mkT k t else h t))) (n:=n) (fun _ _=>rfl) hlt hr
    rw [if_neg (by omega)] at e
    exact e
   have c0:=hc 0 (by omega)
   have c1:=hc 1 (by omega)
   simp only [cT,Nat.add_zero,List.getElem?_cons_zero,List.getElem?_cons_succ] at c0 c1
   have fz:∀ o,wr.frozen? ⟨b,o,none⟩=false:=fun o=>HR.out.1.frozenAt o
   clear hc
   go_wp2
   go_roundw
   case rel=>
    refine ⟨j+1,by omega,by go_num,by go_num,?_,?_⟩
    ·have e:flat (fun t=>cT (if t<j+1 then mkT k t else h t)) n=flat (fun t=>if t=j then cT (mkT k j) else (fun t=>cT (if t<j then mkT k t else h t)) t) n:=qa9 fun t _=>by
      by_cases e:t=j
      ·rw [if_pos e,if_pos (by omega),e]
      ·rw [if_neg e]
       show cT (if t<j+1 then mkT k t else h t)=cT (if t<j then mkT k t else h t)
       by_cases e2:t<j
       ·rw [if_pos e2,if_pos (by omega)]
       ·rw [if_neg e2,if_neg (by omega)]
     have e2:=qr9 (f:=(fun t=>cT (if t<j then mkT k t else h t))) (n:=n) (i:=j) (fun _ _=>rfl) hlt (.bool ((k+2*(j:Int)) % 3 == 0)) (.int .i64 (k+2*(j:Int)+1))
     rw [e]
     refine Eq.mpr (congrArg (fun l=>World.ownsRow _ B 138 2 (.slice (some ⟨b,0,none⟩) n cap) n l) e2) ?_
     exact (World.ownsRow.stored (World.ownsRow.stored HR.out.1 (j*2) (.bool ((k+2*(j:Int)) % 3 == 0))).1 (j*2+1) (.int .i64 (k+2*(j:Int)+1))).1
    ·repeat (refine zV ?_ (.inl rfl) _)
     exact HR.out.2
   case measure=>simp [intOf];omega
  ·have hjl:j=n:=by omega
   subst hjl
   have HF:Hid (w.grownBy wr (some b)/\wr.ownsRow B 138 2 (.slice (some ⟨b,0,none⟩) j cap) j (fT (mkT k) j)):=by
    refine ⟨HR.out.2,?_⟩
    have e:flat (fun t=>cT (if t<j then mkT k t else h t)) j=fT (mkT k) j:=qa9 fun t ht=>by rw [if_pos ht]
    have:=HR.out.1
    rw [e] at this
    exact this
   clear HR
   go_wp2
   go_ret
   exact ⟨rfl,HF.out⟩
theorem qk3 (b n cap:Nat) (k:Int) (w:World) (hlen:n<=1048576) (k0:0<=k) (k1:k<=100000000) (hb:b<w.heap.size) (h:ItAt w b 0 n (mkT k)):
  Calls Tryz.prog 110 #[.slice (some ⟨b,0,none⟩) n cap,.int .i64 k] w fun e w'=>e=.returned (.int .i64 (k+2*n))/\Below w.heap.size w w':=by
 have hl':(n:Int)<=1048576:=by omega
 have HO:Hid (ItAt w b 0 n (mkT k)/\b<w.heap.size):=⟨h,hb⟩
 clear h hb
 go_enter Tryz.func110,Tryz.ntmps110
 go_wp2_with fail
 go_loopw [1,5] (fun q i wr=>∃ j:Nat,j<=n/\i=.int .i64 j/\q=.int .i64 (k+2*j)/\Below w.heap.size w wr) (fun _ i _=>n - (intOf i).toNat)
 case atStart=>exact ⟨0,Nat.zero_le _,rfl,by simp,Below.refl _ _⟩
 case round=>
  obtain ⟨j,hj,rfl,rfl,hbw⟩:=hrel
  by_cases hlt:j<n
  ·have hlt':(j:Int)<(n:Int):=by omega
   obtain ⟨d0,d1⟩:=HO.out.1 j hlt
   have c0:wr.cell? ⟨b,j*2,none⟩=some (.bool ((k+2*(j:Int)) % 3 == 0)):=(hbw.cell (p:=⟨b,j*2,none⟩) HO.out.2).trans (by have d:=d0;rw [Nat.zero_add] at d;exact d)
   have c1:wr.cell? ⟨b,j*2+1,none⟩=some (.int .i64 (k+2*(j:Int)+1)):=(hbw.cell (p:=⟨b,j*2+1,none⟩) HO.out.2).trans (by have d:=d1;rw [Nat.zero_add] at d;exact d)
   clear d0 d1
   rcases zK ((k+2*(j:Int)) % 3 == 0) with t | t
   ·rw [t] at c0
    go_wp2_with fail
    exact ⟨⟨j+1,by omega,by go_num,by go_num,hbw⟩,by simp [intOf];omega⟩
   ·rw [t] at c0
    go_wp2_with fail
    exact ⟨⟨j+1,by omega,by go_num,by go_num,hbw⟩,by simp [intOf];omega⟩
  ·have hjl:j=n:=by omega
   subst hjl
   go_wp2
   go_ret
   exact ⟨rfl,hbw⟩
theorem qjv (b n cap B:Nat) (h:Nat->E3) (k:Int) (w:World) (hlen:n<=1048576) (k0:0<=k) (k1:k<=100000000) (o:w.ownsRow B 74 3 (.slice (some ⟨b,0,none⟩) n cap) n (fE h n)):
  Calls Tryz.prog 108 #[.slice (some ⟨b,0,none⟩) n cap,.int .i64 k] w fun e w'=>e=.returned (.int .i64 (k+3*n))/\w.grownBy w' (some b)/\w'.ownsRow B 74 3 (.slice (some ⟨b,0,none⟩) n cap) n (fE (mkEv k) n):=by
 have hl':(n:Int)<=1048576:=by omega
 have HO:Hid (w.ownsRow B 74 3 (.slice (some ⟨b,0,none⟩) n cap) n (fE h n)):=o
 clear o
 go_enter Tryz.func108,Tryz.ntmps108
 go_wp2_with fail
 go_loopw [1,5] (fun q i wr=>∃ j:Nat,j<=n/\i=.int .i64 j/\q=.int .i64 (k+3*j)/\Hid (wr.ownsRow B 74 3 (.slice (some ⟨b,0,none⟩) n cap) n (flat (fun t=>cE (if t<j then mkEv k t else h t)) n)/\w.grownBy wr (some b))) (fun _ i _=>n - (intOf i).toNat)
 case atStart=>
  refine ⟨0,Nat.zero_le _,rfl,by simp,?_,World.grownBy.refl _ _⟩
  have e:flat (fun t=>cE (if t<0 then mkEv k t else h t)) n=fE h n:=qa9 fun t _=>by rw [if_neg (by omega)]
  rw [e]
  exact HO.out
 case round=>
  clear HO
  obtain ⟨j,hj,rfl,rfl,HR⟩:=hrel
  by_cases hlt:j<n
  ·have hlt':(j:Int)<(n:Int):=by omega
   have hc:∀ r,r<3->wr.cell? ⟨b,j*3+r,none⟩=(cE (h j))[r]?:=fun r hr=>by
    rw [HR.out.1.cellAt _ (by omega)]
    have e:=qbq (sz:=3) (f:=(fun t=>cE (if t<j then mkEv k t else h t))) (n:=n) (fun _ _=>rfl) hlt hr
    rw [if_neg (by omega)] at e
    exact e
   have c0:=hc 0 (by omega)
   have c1:=hc 1 (by omega)
   have c2:=hc 2 (by omega)
   simp only [cE,Nat.add_zero,List.getElem?_cons_zero,List.getElem?_cons_succ] at c0 c1 c2
   have fz:∀ o,wr.frozen? ⟨b,o,none⟩=false:=fun o=>HR.out.1.frozenAt o
   clear hc
   go_wp2
   go_roundw
   case rel=>
    refine ⟨j+1,by omega,by go_num,by go_num,?_,?_⟩
    ·have e:flat (fun t=>cE (if t<j+1 then mkEv k t else h t)) n=flat (fun t=>if t=j then cE (mkEv k j) else (fun t=>cE (if t<j then mkEv k t else h t)) t) n:=qa9 fun t _=>by
      by_cases e:t=j
      ·rw [if_pos e,if_pos (by omega),e]
      ·rw [if_neg e]
       show cE (if t<j+1 then mkEv k t else h t)=cE (if t<j then mkEv k t else h t)
       by_cases e2:t<j
       ·rw [if_pos e2,if_pos (by omega)]
       ·rw [if_neg e2,if_neg (by omega)]
     have e2:=qsa (f:=(fun t=>cE (if t<j then mkEv k t else h t))) (n:=n) (i:=j) (fun _ _=>rfl) hlt (.int .i64 (k+3*(j:Int))) (.int .i64 (k+3*(j:Int)+1)) (.int .i64 (k+3*(j:Int)+1+1))
     rw [e]
     refine Eq.mpr (congrArg (fun l=>World.ownsRow _ B 74 3 (.slice (some ⟨b,0,none⟩) n cap) n l) e2) ?_
     exact (World.ownsRow.stored (World.ownsRow.stored (World.ownsRow.stored HR.out.1 (j*3) (.int .i64 (k+3*(j:Int)))).1 (j*3+1) (.int .i64 (k+3*(j:Int)+1))).1 (j*3+2) (.int .i64 (k+3*(j:Int)+1+1))).1
    ·repeat (refine zV ?_ (.inl rfl) _)
     exact HR.out.2
   case measure=>simp [intOf];omega
  ·have hjl:j=n:=by omega
   subst hjl
   have HF:Hid (w.grownBy wr (some b)/\wr.ownsRow B 74 3 (.slice (some ⟨b,0,none⟩) j cap) j (fE (mkEv k) j)):=by
    refine ⟨HR.out.2,?_⟩
    have e:flat (fun t=>cE (if t<j then mkEv k t else h t)) j=fE (mkEv k) j:=qa9 fun t ht=>by rw [if_pos ht]
    have:=HR.out.1
    rw [e] at this
    exact this
   clear HR
   go_wp2
   go_ret
   exact ⟨rfl,HF.out⟩
theorem qjo (b n cap:Nat) (k:Int) (w:World) (hlen:n<=1048576) (k0:0<=k) (k1:k<=100000000) (hb:b<w.heap.size) (h:EvAt w b 0 n (mkEv k)):
  Calls Tryz.prog 111 #[.slice (some ⟨b,0,none⟩) n cap,.int .i64 k] w fun e w'=>e=.returned (.int .i64 (k+3*n))/\Below w.heap.size w w':=by
 have hl':(n:Int)<=1048576:=by omega
 have HO:Hid (EvAt w b 0 n (mkEv k)/\b<w.heap.size):=⟨h,hb⟩
 clear h hb
 go_enter Tryz.func111,Tryz.ntmps111
 go_wp2_with fail
 go_loopw [1,5] (fun q i wr=>∃ j:Nat,j<=n/\i=.int .i64 j/\q=.int .i64 (k+3*j)/\Below w.heap.size w wr) (fun _ i _=>n - (intOf i).toNat)
 case atStart=>exact ⟨0,Nat.zero_le _,rfl,by simp,Below.refl _ _⟩
 case round=>
  obtain ⟨j,hj,rfl,rfl,hbw⟩:=hrel
  by_cases hlt:j<n
  ·have hlt':(j:Int)<(n:Int):=by omega
   obtain ⟨d0,d1,d2⟩:=HO.out.1 j hlt
   have c0:wr.cell? ⟨b,j*3,none⟩=some (.int .i64 (k+3*(j:Int))):=(hbw.cell (p:=⟨b,j*3,none⟩) HO.out.2).trans (by have d:=d0;rw [Nat.zero_add] at d;exact d)
   have c1:wr.cell? ⟨b,j*3+1,none⟩=some (.int .i64 (k+3*(j:Int)+1)):=(hbw.cell (p:=⟨b,j*3+1,none⟩) HO.out.2).trans (by have d:=d1;rw [Nat.zero_add] at d;exact d)
   have c2:wr.cell? ⟨b,j*3+2,none⟩=some (.int .i64 (k+3*(j:Int)+1+1)):=(hbw.cell (p:=⟨b,j*3+2,none⟩) HO.out.2).trans (by have d:=d2;rw [Nat.zero_add] at d;exact d)
   clear d0 d1 d2
   go_wp2
   go_roundw
   case rel=>exact ⟨j+1,by omega,by go_num,by go_num,hbw⟩
   case measure=>simp [intOf];omega
  ·have hjl:j=n:=by omega
   subst hjl
   go_wp2
   go_ret
   exact ⟨rfl,hbw⟩
section
variable {e:TypeId} {sz:Nat} {E:TypeId} {w:World} {P:Nat->Prop} {v:Value} {n:Nat} {u:Nat->Value} {L:Nat->Nat} {c:Nat->List Value}
theorem LL.remark (o:LL true e sz E w P v n u L c) {i:Nat} (hi:i<n) {w1:World} {c':List Value} (hu:w1.ownsRow 0 e sz (u i) (L i) c') (g:∀ k,k<w.heap.size->(u i).ownBlock≠some k->w1.heap[k]? = w.heap[k]?):LL true e sz E w1 P v n u L (fun j=>if j=i then c' else c j):=by
 refine ⟨qas o.row fun k hk=>g k (o.row.lt k hk).2 fun e=>o.ra i hi k e hk,fun j hj=>?_,o.rb,o.ob,o.ra,o.oa,o.nn⟩
 by_cases ej:j=i
 ·subst ej
  simp only [if_true]
  exact hu
 ·simp only [if_neg ej]
  exact qas (o.own j hj) fun k hk=>g k ((o.own j hj).lt k hk).2 fun e=>o.oa j i hj hi ej k hk e
theorem LL.cast (o:LL true e sz E w P v n u L c) {c':Nat->List Value} (h:∀ i,i<n->c i=c' i):LL true e sz E w P v n u L c':=
 ⟨o.row,fun i hi=>by rw [<- h i hi];exact o.own i hi,o.rb,o.ob,o.ra,o.oa,o.nn⟩
end
theorem qlc (v:Value) (P:Nat->Prop) (n:Nat) (u:Nat->Value) (L:Nat->Nat) (H:Nat->Nat->I5) (k:Int) (w:World) (hn:n<=1048576) (hl:sumL L n<=1048576) (k0:0<=k) (k1:k<=50000000) (o:LI true w P v n u L H):
  Calls Tryz.prog 57 #[v,.int .i64 k] w fun e w'=>e=.returned (.int .i64 (k+5*(sumL L n:Nat)))/\LI true w' P v n u L (fun i=>mkI (k+5*(sumL L i:Nat)))/\qaa P w w':=by
 have hl':(n:Int)<=1048576:=by omega
 obtain ⟨a1,c1,rfl⟩:=zU o.row
 have O:Hid (LI true w P (.slice a1 n c1) n u L H):=o
 have HL:Hid (sumL L n<=1048576):=hl
 clear o hl
 go_enter Tryz.func57,Tryz.ntmps57
 go_wp2_with fail
 go_loopw [1,5] (fun q i wr=>∃ j:Nat,j<=n/\i=.int .i64 j/\q=.int .i64 (k+5*(sumL L j:Nat))/\Hid (LL true 115 5 113 wr P (.slice a1 n c1) n u L (fun t=>fI (if t<j then mkI (k+5*(sumL L t:Nat)) else H t) (L t))/\qaa P w wr)) (fun _ i _=>n - (intOf i).toNat)
 case atStart=>exact ⟨0,Nat.zero_le _,rfl,by simp [sumL],O.out.cast fun i _=>by rw [if_neg (by omega)],qaa.refl _ _⟩
 case round=>
  obtain ⟨j,hj,rfl,rfl,HT⟩:=hrel
  by_cases hlt:j<n
  ·have hlt':(j:Int)<(n:Int):=by omega
   obtain ⟨g1,m1,e1,-,-,ck,-⟩:=HT.out.1.cell hlt
   obtain rfl:=qa4 e1
   have how:=HT.out.1.own j hlt
   rw [if_neg (by omega)] at how
   obtain ⟨b,m,f1,lb,-,-⟩:=atI how (HT.out.1.nn (nzT _) j hlt)
   rw [f1] at ck how
   have OW:Hid (wr.ownsRow 0 115 5 (.slice (some ⟨b,0,none⟩) (L j) m) (L j) (fI (H j) (L j))):=how
   have HU:Hid (u j=.slice (some ⟨b,0,none⟩) (L j) m):=f1
   have hsl:=qby L hlt
   have hS:=HL.out
   have e1':k+5*(sumL L j:Nat)+5*(L j:Int)=k+5*(sumL L (j+1):Nat):=by simp only [sumL];omega
   have HE:Hid (k+5*(sumL L j:Nat)+5*(L j:Int)=k+5*(sumL L (j+1):Nat)):=e1'
   have e2:0<=k+5*(sumL L j:Nat):=by omega
   have e3:k+5*(sumL L j:Nat)<=100000000:=by omega
   have e4:L j<=1048576:=by omega
   clear e1' hS hsl how f1 e1
   go_wp2_with fail
   refine (qnh b (L j) m 0 (H j) _ wr e4 e2 e3 OW.out).mono ?_
   rintro e w1 ⟨rfl,g1',o1⟩
   rw [HE.out]
   have HT1:Hid (LL true 115 5 113 w1 P (.slice (some ⟨g1,0,none⟩) n c1) n u L (fun t=>fI (if t<j+1 then mkI (k+5*(sumL L t:Nat)) else H t) (L t))/\qaa P w w1):=by
    refine ⟨(HT.out.1.remark hlt (c':=fI (mkI (k+5*(sumL L j:Nat))) (L j)) (by rw [HU.out];exact o1) fun q hq hne=>g1'.block q hq fun e=>hne (by rw [HU.out,e];rfl)).cast fun t ht=>?_,HT.out.2.trans (qaa.of_grown g1' fun q e=>HT.out.1.ob j hlt q (by rw [HU.out,<- e];rfl))⟩
    by_cases et:t=j
    ·rw [if_pos et,if_pos (by omega),et]
    ·rw [if_neg et]
     by_cases e2:t<j
     ·rw [if_pos e2,if_pos (by omega)]
     ·rw [if_neg e2,if_neg (by omega)]
   clear HT e2 e3 e4 g1' o1 ck
   go_wp2
   go_roundw
   case rel=>exact ⟨j+1,by omega,by go_num,rfl,HT1.out⟩
   case measure=>simp [intOf];omega
  ·have hkl:j=n:=by omega
   subst hkl
   have HT1:Hid (LI true wr P (.slice a1 j c1) j u L (fun i=>mkI (k+5*(sumL L i:Nat)))/\qaa P w wr):=⟨HT.out.1.cast fun t ht=>by rw [if_pos ht],HT.out.2⟩
   clear HT
   go_wp2
   go_ret
   exact ⟨rfl,HT1.out⟩
theorem qk2 (v:Value) (P:Nat->Prop) (n:Nat) (u:Nat->Value) (L:Nat->Nat) (k:Int) (w:World) (hn:n<=1048576) (hl:sumL L n<=1048576) (k0:0<=k) (k1:k<=50000000) (o:LI true w P v n u L (fun i=>mkI (k+5*(sumL L i:Nat)))):
  Calls Tryz.prog 61 #[v,.int .i64 k] w fun e w'=>e=.returned (.int .i64 (k+5*(sumL L n:Nat)))/\Below w.heap.size w w':=by
 have hl':(n:Int)<=1048576:=by omega
 obtain ⟨a1,c1,rfl⟩:=zU o.row
 have O:Hid (LI true w P (.slice a1 n c1) n u L (fun i=>mkI (k+5*(sumL L i:Nat)))):=o
 have HL:Hid (sumL L n<=1048576):=hl
 clear o hl
 go_enter Tryz.func61,Tryz.ntmps61
 go_wp2_with fail
 go_loopw [1,5] (fun q i wr=>∃ j:Nat,j<=n/\i=.int .i64 j/\q=.int .i64 (k+5*(sumL L j:Nat))/\Below w.heap.size w wr) (fun _ i _=>n - (intOf i).toNat)
 case atStart=>exact ⟨0,Nat.zero_le _,rfl,by simp [sumL],Below.refl _ _⟩
 case round=>
  obtain ⟨j,hj,rfl,rfl,hbw⟩:=hrel
  by_cases hlt:j<n
  ·have hlt':(j:Int)<(n:Int):=by omega
   have Q:=O.out.below hbw
   obtain ⟨g1,m1,e1,-,-,ck,-⟩:=Q.cell hlt
   obtain rfl:=qa4 e1
   obtain ⟨b,m,f1,lb,it,-⟩:=atI (Q.own j hlt) (Q.nn (nzT _) j hlt)
   rw [f1] at ck
   have IT:Hid (qaj wr b 0 (L j) (mkI (k+5*(sumL L j:Nat)))/\b<wr.heap.size):=⟨it,lb⟩
   have hsl:=qby L hlt
   have hS:=HL.out
   have e1':k+5*(sumL L j:Nat)+5*(L j:Int)=k+5*(sumL L (j+1):Nat):=by simp only [sumL];omega
   have HE:Hid (k+5*(sumL L j:Nat)+5*(L j:Int)=k+5*(sumL L (j+1):Nat)):=e1'
   have e2:0<=k+5*(sumL L j:Nat):=by omega
   have e3:k+5*(sumL L j:Nat)<=100000000:=by omega
   have e4:L j<=1048576:=by omega
   have e5:¬ (k+5*(sumL L (j+1):Nat)<0):=by omega
   clear e1' hS hsl Q f1 it lb e1
   go_wp2_with fail
   refine (qm9 b (L j) m _ wr e4 e2 e3 IT.out.2 IT.out.1).mono ?_
   rintro e w1 ⟨rfl,b1⟩
   rw [HE.out]
   have B1:Hid (Below w.heap.size w w1):=hbw.trans (b1.mono hbw.size)
   clear b1 e2 e3 e4 ck hbw
   go_wp2
   go_roundw
   case rel=>exact ⟨j+1,by omega,by go_num,rfl,B1.out⟩
   case measure=>simp [intOf];omega
  ·have hkl:j=n:=by omega
   subst hkl
   go_wp2
   go_ret
   exact ⟨rfl,hbw⟩
theorem qjw (v:Value) (P:Nat->Prop) (n:Nat) (u:Nat->Value) (L:Nat->Nat) (H:Nat->Nat->I2) (k:Int) (w:World) (hn:n<=1048576) (hl:sumL L n<=1048576) (k0:0<=k) (k1:k<=50000000) (o:LT true w P v n u L H):
  Calls Tryz.prog 59 #[v,.int .i64 k] w fun e w'=>e=.returned (.int .i64 (k+2*(sumL L n:Nat)))/\LT true w' P v n u L (fun i=>mkT (k+2*(sumL L i:Nat)))/\qaa P w w':=by
 have hl':(n:Int)<=1048576:=by omega
 obtain ⟨a1,c1,rfl⟩:=zU o.row
 have O:Hid (LT true w P (.slice a1 n c1) n u L H):=o
 have HL:Hid (sumL L n<=1048576):=hl
 clear o hl
 go_enter Tryz.func59,Tryz.ntmps59
 go_wp2_with fail
 go_loopw [1,5] (fun q i wr=>∃ j:Nat,j<=n/\i=.int .i64 j/\q=.int .i64 (k+2*(sumL L j:Nat))/\Hid (LL true 138 2 136 wr P (.slice a1 n c1) n u L (fun t=>fT (if t<j then mkT (k+2*(sumL L t:Nat)) else H t) (L t))/\qaa P w wr)) (fun _ i _=>n - (intOf i).toNat)
 case atStart=>exact ⟨0,Nat.zero_le _,rfl,by simp [sumL],O.out.cast fun i _=>by rw [if_neg (by omega)],qaa.refl _ _⟩
 case round=>
  obtain ⟨j,hj,rfl,rfl,HT⟩:=hrel
  by_cases hlt:j<n
  ·have hlt':(j:Int)<(n:Int):=by omega
   obtain ⟨g1,m1,e1,-,-,ck,-⟩:=HT.out.1.cell hlt
   obtain rfl:=qa4 e1
   have how:=HT.out.1.own j hlt
   rw [if_neg (by omega)] at how
   obtain ⟨b,m,f1,lb,-,-⟩:=atT how (HT.out.1.nn (nzT _) j hlt)
   rw [f1] at ck how
   have OW:Hid (wr.ownsRow 0 138 2 (.slice (some ⟨b,0,none⟩) (L j) m) (L j) (fT (H j) (L j))):=how
   have HU:Hid (u j=.slice (some ⟨b,0,none⟩) (L j) m):=f1
   have hsl:=qby L hlt
   have hS:=HL.out
   have e1':k+2*(sumL L j:Nat)+2*(L j:Int)=k+2*(sumL L (j+1):Nat):=by simp only [sumL];omega
   have HE:Hid (k+2*(sumL L j:Nat)+2*(L j:Int)=k+2*(sumL L (j+1):Nat)):=e1'
   have e2:0<=k+2*(sumL L j:Nat):=by omega
   have e3:k+2*(sumL L j:Nat)<=100000000:=by omega
   have e4:L j<=1048576:=by omega
   clear e1' hS hsl how f1 e1
   go_wp2_with fail
   refine (qle b (L j) m 0 (H j) _ wr e4 e2 e3 OW.out).mono ?_
   rintro e w1 ⟨rfl,g1',o1⟩
   rw [HE.out]
   have HT1:Hid (LL true 138 2 136 w1 P (.slice (some ⟨g1,0,none⟩) n c1) n u L (fun t=>fT (if t<j+1 then mkT (k+2*(sumL L t:Nat)) else H t) (L t))/\qaa P w w1):=by
    refine ⟨(HT.out.1.remark hlt (c':=fT (mkT (k+2*(sumL L j:Nat))) (L j)) (by rw [HU.out];exact o1) fun q hq hne=>g1'.block q hq fun e=>hne (by rw [HU.out,e];rfl)).cast fun t ht=>?_,HT.out.2.trans (qaa.of_grown g1' fun q e=>HT.out.1.ob j hlt q (by rw [HU.out,<- e];rfl))⟩
    by_cases et:t=j
    ·rw [if_pos et,if_pos (by omega),et]
    ·rw [if_neg et]
     by_cases e2:t<j
     ·rw [if_pos e2,if_pos (by omega)]
     ·rw [if_neg e2,if_neg (by omega)]
   clear HT e2 e3 e4 g1' o1 ck
   go_wp2
   go_roundw
   case rel=>exact ⟨j+1,by omega,by go_num,rfl,HT1.out⟩
   case measure=>simp [intOf];omega
  ·have hkl:j=n:=by omega
   subst hkl
   have HT1:Hid (LT true wr P (.slice a1 j c1) j u L (fun i=>mkT (k+2*(sumL L i:Nat)))/\qaa P w wr):=⟨HT.out.1.cast fun t ht=>by rw [if_pos ht],HT.out.2⟩
   clear HT
   go_wp2
   go_ret
   exact ⟨rfl,HT1.out⟩
theorem qjp (v:Value) (P:Nat->Prop) (n:Nat) (u:Nat->Value) (L:Nat->Nat) (k:Int) (w:World) (hn:n<=1048576) (hl:sumL L n<=1048576) (k0:0<=k) (k1:k<=50000000) (o:LT true w P v n u L (fun i=>mkT (k+2*(sumL L i:Nat)))):
  Calls Tryz.prog 63 #[v,.int .i64 k] w fun e w'=>e=.returned (.int .i64 (k+2*(sumL L n:Nat)))/\Below w.heap.size w w':=by
 have hl':(n:Int)<=1048576:=by omega
 obtain ⟨a1,c1,rfl⟩:=zU o.row
 have O:Hid (LT true w P (.slice a1 n c1) n u L (fun i=>mkT (k+2*(sumL L i:Nat)))):=o
 have HL:Hid (sumL L n<=1048576):=hl
 clear o hl
 go_enter Tryz.func63,Tryz.ntmps63
 go_wp2_with fail
 go_loopw [1,5] (fun q i wr=>∃ j:Nat,j<=n/\i=.int .i64 j/\q=.int .i64 (k+2*(sumL L j:Nat))/\Below w.heap.size w wr) (fun _ i _=>n - (intOf i).toNat)
 case atStart=>exact ⟨0,Nat.zero_le _,rfl,by simp [sumL],Below.refl _ _⟩
 case round=>
  obtain ⟨j,hj,rfl,rfl,hbw⟩:=hrel
  by_cases hlt:j<n
  ·have hlt':(j:Int)<(n:Int):=by omega
   have Q:=O.out.below hbw
   obtain ⟨g1,m1,e1,-,-,ck,-⟩:=Q.cell hlt
   obtain rfl:=qa4 e1
   obtain ⟨b,m,f1,lb,it,-⟩:=atT (Q.own j hlt) (Q.nn (nzT _) j hlt)
   rw [f1] at ck
   have IT:Hid (ItAt wr b 0 (L j) (mkT (k+2*(sumL L j:Nat)))/\b<wr.heap.size):=⟨it,lb⟩
   have hsl:=qby L hlt
   have hS:=HL.out
   have e1':k+2*(sumL L j:Nat)+2*(L j:Int)=k+2*(sumL L (j+1):Nat):=by simp only [sumL];omega
   have HE:Hid (k+2*(sumL L j:Nat)+2*(L j:Int)=k+2*(sumL L (j+1):Nat)):=e1'
   have e2:0<=k+2*(sumL L j:Nat):=by omega
   have e3:k+2*(sumL L j:Nat)<=100000000:=by omega
   have e4:L j<=1048576:=by omega
   have e5:¬ (k+2*(sumL L (j+1):Nat)<0):=by omega
   clear e1' hS hsl Q f1 it lb e1
   go_wp2_with fail
   refine (qk3 b (L j) m _ wr e4 e2 e3 IT.out.2 IT.out.1).mono ?_
   rintro e w1 ⟨rfl,b1⟩
   rw [HE.out]
   have B1:Hid (Below w.heap.size w w1):=hbw.trans (b1.mono hbw.size)
   clear b1 e2 e3 e4 ck hbw
   go_wp2
   go_roundw
   case rel=>exact ⟨j+1,by omega,by go_num,rfl,B1.out⟩
   case measure=>simp [intOf];omega
  ·have hkl:j=n:=by omega
   subst hkl
   go_wp2
   go_ret
   exact ⟨rfl,hbw⟩
theorem qix (v:Value) (P:Nat->Prop) (n:Nat) (u:Nat->Value) (L:Nat->Nat) (H:Nat->Nat->E3) (k:Int) (w:World) (hn:n<=1048576) (hl:sumL L n<=1048576) (k0:0<=k) (k1:k<=50000000) (o:LE true w P v n u L H):
  Calls Tryz.prog 60 #[v,.int .i64 k] w fun e w'=>e=.returned (.int .i64 (k+3*(sumL L n:Nat)))/\LE true w' P v n u L (fun i=>mkEv (k+3*(sumL L i:Nat)))/\qaa P w w':=by
 have hl':(n:Int)<=1048576:=by omega
 obtain ⟨a1,c1,rfl⟩:=zU o.row
 have O:Hid (LE true w P (.slice a1 n c1) n u L H):=o
 have HL:Hid (sumL L n<=1048576):=hl
 clear o hl
 go_enter Tryz.func60,Tryz.ntmps60
 go_wp2_with fail
 go_loopw [1,5] (fun q i wr=>∃ j:Nat,j<=n/\i=.int .i64 j/\q=.int .i64 (k+3*(sumL L j:Nat))/\Hid (LL true 74 3 75 wr P (.slice a1 n c1) n u L (fun t=>fE (if t<j then mkEv (k+3*(sumL L t:Nat)) else H t) (L t))/\qaa P w wr)) (fun _ i _=>n - (intOf i).toNat)
 case atStart=>exact ⟨0,Nat.zero_le _,rfl,by simp [sumL],O.out.cast fun i _=>by rw [if_neg (by omega)],qaa.refl _ _⟩
 case round=>
  obtain ⟨j,hj,rfl,rfl,HT⟩:=hrel
  by_cases hlt:j<n
  ·have hlt':(j:Int)<(n:Int):=by omega
   obtain ⟨g1,m1,e1,-,-,ck,-⟩:=HT.out.1.cell hlt
   obtain rfl:=qa4 e1
   have how:=HT.out.1.own j hlt
   rw [if_neg (by omega)] at how
   obtain ⟨b,m,f1,lb,-,-⟩:=atE how (HT.out.1.nn (nzT _) j hlt)
   rw [f1] at ck how
   have OW:Hid (wr.ownsRow 0 74 3 (.slice (some ⟨b,0,none⟩) (L j) m) (L j) (fE (H j) (L j))):=how
   have HU:Hid (u j=.slice (some ⟨b,0,none⟩) (L j) m):=f1
   have hsl:=qby L hlt
   have hS:=HL.out
   have e1':k+3*(sumL L j:Nat)+3*(L j:Int)=k+3*(sumL L (j+1):Nat):=by simp only [sumL];omega
   have HE:Hid (k+3*(sumL L j:Nat)+3*(L j:Int)=k+3*(sumL L (j+1):Nat)):=e1'
   have e2:0<=k+3*(sumL L j:Nat):=by omega
   have e3:k+3*(sumL L j:Nat)<=100000000:=by omega
   have e4:L j<=1048576:=by omega
   clear e1' hS hsl how f1 e1
   go_wp2_with fail
   refine (qjv b (L j) m 0 (H j) _ wr e4 e2 e3 OW.out).mono ?_
   rintro e w1 ⟨rfl,g1',o1⟩
   rw [HE.out]
   have HT1:Hid (LL true 74 3 75 w1 P (.slice (some ⟨g1,0,none⟩) n c1) n u L (fun t=>fE (if t<j+1 then mkEv (k+3*(sumL L t:Nat)) else H t) (L t))/\qaa P w w1):=by
    refine ⟨(HT.out.1.remark hlt (c':=fE (mkEv (k+3*(sumL L j:Nat))) (L j)) (by rw [HU.out];exact o1) fun q hq hne=>g1'.block q hq fun e=>hne (by rw [HU.out,e];rfl)).cast fun t ht=>?_,HT.out.2.trans (qaa.of_grown g1' fun q e=>HT.out.1.ob j hlt q (by rw [HU.out,<- e];rfl))⟩
    by_cases et:t=j
    ·rw [if_pos et,if_pos (by omega),et]
    ·rw [if_neg et]
     by_cases e2:t<j
     ·rw [if_pos e2,if_pos (by omega)]
     ·rw [if_neg e2,if_neg (by omega)]
   clear HT e2 e3 e4 g1' o1 ck
   go_wp2
   go_roundw
   case rel=>exact ⟨j+1,by omega,by go_num,rfl,HT1.out⟩
   case measure=>simp [intOf];omega
  ·have hkl:j=n:=by omega
   subst hkl
   have HT1:Hid (LE true wr P (.slice a1 j c1) j u L (fun i=>mkEv (k+3*(sumL L i:Nat)))/\qaa P w wr):=⟨HT.out.1.cast fun t ht=>by rw [if_pos ht],HT.out.2⟩
   clear HT
   go_wp2
   go_ret
   exact ⟨rfl,HT1.out⟩
theorem qit (v:Value) (P:Nat->Prop) (n:Nat) (u:Nat->Value) (L:Nat->Nat) (k:Int) (w:World) (hn:n<=1048576) (hl:sumL L n<=1048576) (k0:0<=k) (k1:k<=50000000) (o:LE true w P v n u L (fun i=>mkEv (k+3*(sumL L i:Nat)))):
  Calls Tryz.prog 64 #[v,.int .i64 k] w fun e w'=>e=.returned (.int .i64 (k+3*(sumL L n:Nat)))/\Below w.heap.size w w':=by
 have hl':(n:Int)<=1048576:=by omega
 obtain ⟨a1,c1,rfl⟩:=zU o.row
 have O:Hid (LE true w P (.slice a1 n c1) n u L (fun i=>mkEv (k+3*(sumL L i:Nat)))):=o
 have HL:Hid (sumL L n<=1048576):=hl
 clear o hl
 go_enter Tryz.func64,Tryz.ntmps64
 go_wp2_with fail
 go_loopw [1,5] (fun q i wr=>∃ j:Nat,j<=n/\i=.int .i64 j/\q=.int .i64 (k+3*(sumL L j:Nat))/\Below w.heap.size w wr) (fun _ i _=>n - (intOf i).toNat)
 case atStart=>exact ⟨0,Nat.zero_le _,rfl,by simp [sumL],Below.refl _ _⟩
 case round=>
  obtain ⟨j,hj,rfl,rfl,hbw⟩:=hrel
  by_cases hlt:j<n
  ·have hlt':(j:Int)<(n:Int):=by omega
   have Q:=O.out.below hbw
   obtain ⟨g1,m1,e1,-,-,ck,-⟩:=Q.cell hlt
   obtain rfl:=qa4 e1
   obtain ⟨b,m,f1,lb,it,-⟩:=atE (Q.own j hlt) (Q.nn (nzT _) j hlt)
   rw [f1] at ck
   have IT:Hid (EvAt wr b 0 (L j) (mkEv (k+3*(sumL L j:Nat)))/\b<wr.heap.size):=⟨it,lb⟩
   have hsl:=qby L hlt
   have hS:=HL.out
   have e1':k+3*(sumL L j:Nat)+3*(L j:Int)=k+3*(sumL L (j+1):Nat):=by simp only [sumL];omega
   have HE:Hid (k+3*(sumL L j:Nat)+3*(L j:Int)=k+3*(sumL L (j+1):Nat)):=e1'
   have e2:0<=k+3*(sumL L j:Nat):=by omega
   have e3:k+3*(sumL L j:Nat)<=100000000:=by omega
   have e4:L j<=1048576:=by omega
   have e5:¬ (k+3*(sumL L (j+1):Nat)<0):=by omega
   clear e1' hS hsl Q f1 it lb e1
   go_wp2_with fail
   refine (qjo b (L j) m _ wr e4 e2 e3 IT.out.2 IT.out.1).mono ?_
   rintro e w1 ⟨rfl,b1⟩
   rw [HE.out]
   have B1:Hid (Below w.heap.size w w1):=hbw.trans (b1.mono hbw.size)
   clear b1 e2 e3 e4 ck hbw
   go_wp2
   go_roundw
   case rel=>exact ⟨j+1,by omega,by go_num,rfl,B1.out⟩
   case measure=>simp [intOf];omega
  ·have hkl:j=n:=by omega
   subst hkl
   go_wp2
   go_ret
   exact ⟨rfl,hbw⟩
theorem LI.strong {z:Bool} {w:World} {P:Nat->Prop} {v:Value} {n:Nat} {u:Nat->Value} {L:Nat->Nat} {H:Nat->Nat->I5} (o:LI z w P v n u L H):LI true w P v n u L H:=⟨o.row,o.own,o.rb,o.ob,o.ra,o.oa,fun _=>o.nn nzI⟩
theorem qm1 (b m:Nat) (w:World):Calls Tryz.prog 104 #[.slice (some ⟨b,0,none⟩) 0 m,.slice none 0 0] w fun e w'=>e=.returned (.bool true)/\Below w.heap.size w w':=by
 go_enter Tryz.func104,Tryz.ntmps104
 go_wp2_with fail
 go_loopw [5] (fun i wr=>i=.int .i64 0/\Below w.heap.size w wr) (fun _ _=>0)
 case atStart=>exact ⟨rfl,Below.refl _ _⟩
 case round=>
  obtain ⟨rfl,hbw⟩:=hrel
  go_wp2
  go_ret
  exact ⟨rfl,hbw⟩
theorem qpb {B1 B2 n:Nat} {u1 u2:Value} {g:Nat->I2} {w:World} (hn:n<=1048576) (o1:w.ownsRow B1 138 2 u1 n (fT g n)) (n1:u1≠.slice none 0 0) (o2:w.ownsRow B2 138 2 u2 n (fT g n)):
  Calls Tryz.prog 104 #[u1,u2] w fun e w'=>e=.returned (.bool true)/\Below w.heap.size w w':=by
 obtain ⟨b1,m1,rfl,l1,i1,-⟩:=atT o1 n1
 by_cases h:u2=.slice none 0 0
 ·subst h
  rcases o2.2 with ⟨-,h0⟩ | ⟨g,cap,cur,e,-⟩
  ·subst h0
   exact qm1 b1 m1 w
  ·cases e
 ·obtain ⟨b2,m2,rfl,l2,i2,-⟩:=atT o2 h
  exact qhj b1 b2 n m1 m2 g w hn l1 l2 i1 i2
theorem qm0 (v1 v2:Value) (P1 P2:Nat->Prop) (n:Nat) (u1 u2:Nat->Value) (L:Nat->Nat) (H:Nat->Nat->I2) (w:World) (hn:n<=1048576) (hl:∀ i,i<n->L i<=1048576) (o1:LT true w P1 v1 n u1 L H) (o2:LT false w P2 v2 n u2 L H):
  Calls Tryz.prog 54 #[v1,v2] w fun e w'=>e=.returned (.bool true)/\Below w.heap.size w w':=by
 have hl':(n:Int)<=1048576:=by omega
 obtain ⟨a1,c1,rfl⟩:=zU o1.row
 obtain ⟨a2,c2,rfl⟩:=zU o2.row
 have O1:Hid (LT true w P1 (.slice a1 n c1) n u1 L H):=o1
 have O2:Hid (LT false w P2 (.slice a2 n c2) n u2 L H):=o2
 have HL:Hid (∀ i,i<n->L i<=1048576):=hl
 clear o1 o2 hl
 go_enter Tryz.func54,Tryz.ntmps54
 go_wp2_with fail
 go_loopw [5] (fun i wr=>∃ k:Nat,k<=n/\i=.int .i64 k/\Below w.heap.size w wr) (fun i _=>n - (intOf i).toNat)
 case atStart=>exact ⟨0,Nat.zero_le _,rfl,Below.refl _ _⟩
 case round=>
  obtain ⟨k,hk,rfl,hbw⟩:=hrel
  have hs:=hbw.size
  by_cases hlt:k<n
  ·have Q1:=O1.out.below hbw
   have Q2:=O2.out.below hbw
   obtain ⟨g1,k1,e1,-,-,ck,-⟩:=Q1.cell hlt
   obtain ⟨g2,k2,e2,-,-,dk,-⟩:=Q2.cell hlt
   obtain rfl:=qa4 e1
   obtain rfl:=qa4 e2
   obtain ⟨p1,m1,f1⟩:=zU (Q1.own k hlt)
   obtain ⟨p2,m2,f2⟩:=zU (Q2.own k hlt)
   have HC:Hid (Calls Tryz.prog 104 #[.slice p1 (L k) m1,.slice p2 (L k) m2] wr.drew fun e w'=>e=.returned (.bool true)/\Below wr.drew.heap.size wr.drew w'):=by
    have d:=(Below.refl wr.heap.size wr).drew
    have h:=qpb (HL.out k hlt) ((Q1.below d).own k hlt) (Q1.nn (nzT _) k hlt) ((Q2.below d).own k hlt)
    rw [f1,f2] at h
    exact h
   rw [f1] at ck
   rw [f2] at dk
   have hlt':(k:Int)<(n:Int):=by omega
   clear Q1 Q2 e1 e2 f1 f2
   go_wp2_with fail
   first|(go_region_with (go_at_call 104;refine HC.out.mono ?_;rintro e w1 ⟨rfl,hq1⟩)) | fail
   all_goals
    go_wp2
    go_roundw
    case rel=>exact ⟨k+1,by omega,by go_num,hbw.drew.trans (hq1.mono hs)⟩
    case measure=>simp [intOf];omega
  ·go_wp2
   go_ret
   exact ⟨rfl,hbw⟩
theorem qku (b m:Nat) (w:World):Calls Tryz.prog 105 #[.slice (some ⟨b,0,none⟩) 0 m,.slice none 0 0] w fun e w'=>e=.returned (.bool true)/\Below w.heap.size w w':=by
 go_enter Tryz.func105,Tryz.ntmps105
 go_wp2_with fail
 go_loopw [5] (fun i wr=>i=.int .i64 0/\Below w.heap.size w wr) (fun _ _=>0)
 case atStart=>exact ⟨rfl,Below.refl _ _⟩
 case round=>
  obtain ⟨rfl,hbw⟩:=hrel
  go_wp2
  go_ret
  exact ⟨rfl,hbw⟩
theorem qmx {B1 B2 n:Nat} {u1 u2:Value} {g:Nat->E3} {w:World} (hn:n<=1048576) (o1:w.ownsRow B1 74 3 u1 n (fE g n)) (n1:u1≠.slice none 0 0) (o2:w.ownsRow B2 74 3 u2 n (fE g n)):
  Calls Tryz.prog 105 #[u1,u2] w fun e w'=>e=.returned (.bool true)/\Below w.heap.size w w':=by
 obtain ⟨b1,m1,rfl,l1,i1,-⟩:=atE o1 n1
 by_cases h:u2=.slice none 0 0
 ·subst h
  rcases o2.2 with ⟨-,h0⟩ | ⟨g,cap,cur,e,-⟩
  ·subst h0
   exact qku b1 m1 w
  ·cases e
 ·obtain ⟨b2,m2,rfl,l2,i2,-⟩:=atE o2 h
  exact qf0 b1 b2 n m1 m2 g w hn l1 l2 i1 i2
theorem qkt (v1 v2:Value) (P1 P2:Nat->Prop) (n:Nat) (u1 u2:Nat->Value) (L:Nat->Nat) (H:Nat->Nat->E3) (w:World) (hn:n<=1048576) (hl:∀ i,i<n->L i<=1048576) (o1:LE true w P1 v1 n u1 L H) (o2:LE false w P2 v2 n u2 L H):
  Calls Tryz.prog 55 #[v1,v2] w fun e w'=>e=.returned (.bool true)/\Below w.heap.size w w':=by
 have hl':(n:Int)<=1048576:=by omega
 obtain ⟨a1,c1,rfl⟩:=zU o1.row
 obtain ⟨a2,c2,rfl⟩:=zU o2.row
 have O1:Hid (LE true w P1 (.slice a1 n c1) n u1 L H):=o1
 have O2:Hid (LE false w P2 (.slice a2 n c2) n u2 L H):=o2
 have HL:Hid (∀ i,i<n->L i<=1048576):=hl
 clear o1 o2 hl
 go_enter Tryz.func55,Tryz.ntmps55
 go_wp2_with fail
 go_loopw [5] (fun i wr=>∃ k:Nat,k<=n/\i=.int .i64 k/\Below w.heap.size w wr) (fun i _=>n - (intOf i).toNat)
 case atStart=>exact ⟨0,Nat.zero_le _,rfl,Below.refl _ _⟩
 case round=>
  obtain ⟨k,hk,rfl,hbw⟩:=hrel
  have hs:=hbw.size
  by_cases hlt:k<n
  ·have Q1:=O1.out.below hbw
   have Q2:=O2.out.below hbw
   obtain ⟨g1,k1,e1,-,-,ck,-⟩:=Q1.cell hlt
   obtain ⟨g2,k2,e2,-,-,dk,-⟩:=Q2.cell hlt
   obtain rfl:=qa4 e1
   obtain rfl:=qa4 e2
   obtain ⟨p1,m1,f1⟩:=zU (Q1.own k hlt)
   obtain ⟨p2,m2,f2⟩:=zU (Q2.own k hlt)
   have HC:Hid (Calls Tryz.prog 105 #[.slice p1 (L k) m1,.slice p2 (L k) m2] wr.drew fun e w'=>e=.returned (.bool true)/\Below wr.drew.heap.size wr.drew w'):=by
    have d:=(Below.refl wr.heap.size wr).drew
    have h:=qmx (HL.out k hlt) ((Q1.below d).own k hlt) (Q1.nn (nzT _) k hlt) ((Q2.below d).own k hlt)
    rw [f1,f2] at h
    exact h
   rw [f1] at ck
   rw [f2] at dk
   have hlt':(k:Int)<(n:Int):=by omega
   clear Q1 Q2 e1 e2 f1 f2
   go_wp2_with fail
   first|(go_region_with (go_at_call 105;refine HC.out.mono ?_;rintro e w1 ⟨rfl,hq1⟩)) | fail
   all_goals
    go_wp2
    go_roundw
    case rel=>exact ⟨k+1,by omega,by go_num,hbw.drew.trans (hq1.mono hs)⟩
    case measure=>simp [intOf];omega
  ·go_wp2
   go_ret
   exact ⟨rfl,hbw⟩
theorem qci (y:Sy) (B1 B2:Nat) (v1 v2:Value) (w:World) (hl:y.Len) (o1:qag true w B1 y v1) (o2:qag false w B2 y v2):
  Calls Tryz.prog 15 #[v1,v2] w fun e w'=>e=.returned (.bool true)/\Below w.heap.size w w':=by
 obtain ⟨c,vp,vs,vw,vh,up,us,uw,uh,rfl,o1⟩:=o1
 obtain ⟨d,xp,xs,xw,xh,tp,ts,tw,th,rfl,o2⟩:=o2
 obtain ⟨a1,c1,rfl⟩:=zU o1.p.row
 obtain ⟨a2,c2,rfl⟩:=zU o1.s.row
 obtain ⟨a3,c3,rfl⟩:=zU o1.t.row
 obtain ⟨a4,c4,rfl⟩:=zU o1.h.row
 obtain ⟨e1,d1,rfl⟩:=zU o2.p.row
 obtain ⟨e2,d2,rfl⟩:=zU o2.s.row
 obtain ⟨e3,d3,rfl⟩:=zU o2.t.row
 obtain ⟨e4,d4,rfl⟩:=zU o2.h.row
 have HL:Hid y.Len:=hl
 have O1:Hid (OwnS true w B1 c y (.slice a1 y.pn c1) (.slice a2 y.sn c2) (.slice a3 y.wn c3) (.slice a4 y.hn c4) up us uw uh):=o1
 have O2:Hid (OwnS false w B2 d y (.slice e1 y.pn d1) (.slice e2 y.sn d2) (.slice e3 y.wn d3) (.slice e4 y.hn d4) tp ts tw th):=o2
 have BW:Hid (Below w.heap.size w ((w.alloc (oQ4 a1 y.pn c1 a2 y.sn c2 a3 y.wn c3 a4 y.hn c4)).alloc (oQ4 e1 y.pn d1 e2 y.sn d2 e3 y.wn d3 e4 y.hn d4))):=(zQ _ _).trans ((zQ _ _).mono (by simp))
 have NA:Hid (BoxC ((w.alloc (oQ4 a1 y.pn c1 a2 y.sn c2 a3 y.wn c3 a4 y.hn c4)).alloc (oQ4 e1 y.pn d1 e2 y.sn d2 e3 y.wn d3 e4 y.hn d4)) w.heap.size (.slice a1 y.pn c1) (.slice a2 y.sn c2) (.slice a3 y.wn c3) (.slice a4 y.hn c4)):=(BoxC.new w _ _ _ _ _).below (zQ _ _)
 have NB:Hid (BoxC ((w.alloc (oQ4 a1 y.pn c1 a2 y.sn c2 a3 y.wn c3 a4 y.hn c4)).alloc (oQ4 e1 y.pn d1 e2 y.sn d2 e3 y.wn d3 e4 y.hn d4)) (w.heap.size+1) (.slice e1 y.pn d1) (.slice e2 y.sn d2) (.slice e3 y.wn d3) (.slice e4 y.hn d4)):=⟨zW _ _ _ 0 (by simp),zW _ _ _ 1 (by simp),zW _ _ _ 2 (by simp),zW _ _ _ 3 (by simp)⟩
 clear o1 o2 hl
 go_enter Tryz.func15,Tryz.ntmps15
 go_wp2_with fail
 generalize (w.alloc (oQ4 a1 y.pn c1 a2 y.sn c2 a3 y.wn c3 a4 y.hn c4)).alloc (oQ4 e1 y.pn d1 e2 y.sn d2 e3 y.wn d3 e4 y.hn d4)=wA at *
 refine (qpa _ _ _ _ y.pn up tp y.pL y.pH wA HL.out.p.1 HL.out.p.2 (O1.out.p.below BW.out) (LI.strong (O2.out.p.below BW.out))).mono ?_
 rintro e w1 ⟨rfl,b1⟩
 have F1:Hid (Below w.heap.size w w1/\BoxC w1 w.heap.size (.slice a1 y.pn c1) (.slice a2 y.sn c2) (.slice a3 y.wn c3) (.slice a4 y.hn c4)/\BoxC w1 (w.heap.size+1) (.slice e1 y.pn d1) (.slice e2 y.sn d2) (.slice e3 y.wn d3) (.slice e4 y.hn d4)):=⟨BW.out.trans (b1.mono BW.out.size),NA.out.below b1,NB.out.below b1⟩
 clear b1 BW NA NB
 obtain ⟨-,⟨p0,p1,p2,p3⟩,⟨q0,q1,q2,q3⟩⟩:=F1.out
 go_wp2_with fail
 clear p0 p1 p2 p3 q0 q1 q2 q3
 refine (qm2 _ _ _ _ y.sn us ts y.sS w1 HL.out.s.1 HL.out.s.2 (O1.out.s.below F1.out.1) (O2.out.s.below F1.out.1)).mono ?_
 rintro e w2 ⟨rfl,b2⟩
 have F2:Hid (Below w.heap.size w w2/\BoxC w2 w.heap.size (.slice a1 y.pn c1) (.slice a2 y.sn c2) (.slice a3 y.wn c3) (.slice a4 y.hn c4)/\BoxC w2 (w.heap.size+1) (.slice e1 y.pn d1) (.slice e2 y.sn d2) (.slice e3 y.wn d3) (.slice e4 y.hn d4)):=⟨F1.out.1.trans (b2.mono F1.out.1.size),F1.out.2.1.below b2,F1.out.2.2.below b2⟩
 clear b2 F1
 obtain ⟨-,⟨p0,p1,p2,p3⟩,⟨q0,q1,q2,q3⟩⟩:=F2.out
 go_wp2_with fail
 clear p0 p1 p2 p3 q0 q1 q2 q3
 refine (qm0 _ _ _ _ y.wn uw tw y.wL y.wH w2 HL.out.w.1 HL.out.w.2 (O1.out.t.below F2.out.1) (O2.out.t.below F2.out.1)).mono ?_
 rintro e w3 ⟨rfl,b3⟩
 have F3:Hid (Below w.heap.size w w3/\BoxC w3 w.heap.size (.slice a1 y.pn c1) (.slice a2 y.sn c2) (.slice a3 y.wn c3) (.slice a4 y.hn c4)/\BoxC w3 (w.heap.size+1) (.slice e1 y.pn d1) (.slice e2 y.sn d2) (.slice e3 y.wn d3) (.slice e4 y.hn d4)):=⟨F2.out.1.trans (b3.mono F2.out.1.size),F2.out.2.1.below b3,F2.out.2.2.below b3⟩
 clear b3 F2
 obtain ⟨-,⟨p0,p1,p2,p3⟩,⟨q0,q1,q2,q3⟩⟩:=F3.out
 go_wp2_with fail
 clear p0 p1 p2 p3 q0 q1 q2 q3
 refine (qkt _ _ _ _ y.hn uh th y.hL y.hH w3 HL.out.h.1 HL.out.h.2 (O1.out.h.below F3.out.1) (O2.out.h.below F3.out.1)).mono ?_
 rintro e w4 ⟨rfl,b4⟩
 have F4:Hid (Below w.heap.size w w4):=F3.out.1.trans (b4.mono F3.out.1.size)
 clear b4 F3
 go_wp2
 go_ret
 exact ⟨rfl,F4.out⟩
theorem Tryz.et : Tryz.prog.globalNamed "errors.errorType" = some 0 := by kernel_rfl
theorem Tryz.rt : (Tryz.prog.cutTypes.find? (·.1 == "internal/reflectlite.rtype")).map (·.2) = some 298 := by kernel_rfl
theorem Tryz.oneRow:((List.range 347).filter fun t=>Tryz.prog.rowNamed t [101,114,114,111,114])=[213]:=by kernel_rfl
theorem Tryz.tsize:Tryz.prog.types.size=347:=by kernel_rfl
theorem qcw {W : World} (h : laidMetH Tryz.prog [("errors.errorType", Rows.laid_errors_errorType)] W) : W.cell? ⟨0, 0, none⟩ = some (.iface 298 (.agg #[.pointer (some ⟨1, 213, none⟩)])) := by
 have h' : laidMet Tryz.prog [] W /\ handlesMet Tryz.prog [("errors.errorType", Rows.laid_errors_errorType)] W := h
 obtain ⟨name,u,ty,e1,e2,e3,e4,e5⟩:=h'.2 _ (List.mem_singleton.2 rfl)
 have en:name=[101,114,114,111,114]:=(Option.some.inj e1).symm
 subst en
 obtain rfl:=Option.some.inj (Tryz.rt.symm.trans e2)
 have hm:ty ∈ (List.range 347).filter fun t=>Tryz.prog.rowNamed t [101,114,114,111,114]:=List.mem_filter.2 ⟨List.mem_range.2 (by rw [<- Tryz.tsize];exact e3),e4⟩
 rw [Tryz.oneRow] at hm
 obtain rfl:=List.mem_singleton.1 hm
 have hh:typeHandle Tryz.prog 213=.pointer (some ⟨1,213,none⟩):=by kernel_rfl
 rw [hh] at e5
 simpa using World.var?_cell Tryz.et e5 0
noncomputable def qef (os:Os):World:=
 let w0:=World.holding Tryz.prog os ⟨#[],#[],[]⟩
 { w0 with heap := w0.heap.modify 0 fun
   | .cells _ t frozen=>.cells #[.iface 298 (.agg #[.pointer (some ⟨1,213,none⟩)])] t frozen
   | o=>o }
theorem qc2 (os : Os) (args : Array Value) : laidMetH Tryz.prog [("errors.errorType", Rows.laid_errors_errorType)] ((qef os).forCall (fun _ _ => 0) ⟨#[], args, []⟩).memory :=
 laidMetH_of_parts (laidMet_nil _ _) (by kernel_rfl)
