import Derived.Test.YthgpldgkabcopaaGreatDoorYh36
import Derived.RangeFuncNested
import Derived.RangeFuncBound
import Derived.RangeFuncCalls
import Derived.RangeFuncLeaves
import Derived.Shelf.Abstract
import Derived.OwnWalkIn
import Derived.TacticsInMore
import Derived.LoopNIn
import Derived.LoopIn
namespace Go.Proofs.YthgpldgkabcopaaGreatDoor
set_option maxRecDepth 100000
set_option maxHeartbeats 2000000
open Go.RowKit Go.Deep
structure Al (g h:Nat->E3) (m r:Nat):Prop where
 le:r<=m
 eq:∀ i,i<r->g i=h i
 ne:r<m->g r≠h r
theorem Al.one {g h:Nat->E3} {m r r':Nat} (a:Al g h m r) (b:Al g h m r'):r=r':=by
 rcases Nat.lt_trichotomy r r' with h1 | h1 | h1
 ·exact absurd (b.eq r h1) (a.ne (zL h1 b.le))
 ·exact h1
 ·exact absurd (a.eq r' h1) (b.ne (zL h1 a.le))
theorem qjj (a b:E3):qc2 a.k a.q a.v b.k b.q b.v=true ↔ a=b:=by
 cases a
 cases b
 simp [qc2]
theorem qq9 (ea fa:Option Addr) (n m c d:Nat) (g u:Nat->E3) (w:World) (hn:n<=1048576) (hm:m<=1048576) (h0:EvL w ea n g) (h1:EvL w fa m u):
  Calls Tryz.prog 81 #[.slice ea n c,.slice fa m d] w fun e w'=>∃ r,e=.returned (.int .i64 (r:Nat))/\Al g u (min n m) r/\Bw w w':=by
 have H0:Hid (EvL w ea n g):=h0
 have H1:Hid (EvL w fa m u):=h1
 have hn':(n:Int)<=1048576:=by omega
 have hm':(m:Int)<=1048576:=by omega
 obtain ⟨mm,hmm⟩:∃ mm,mm=min n m:=⟨_,rfl⟩
 have hmi:min (n:Int) (m:Int)=(mm:Int):=by omega
 have HM:Hid (mm=min n m):=hmm
 have hmb:(mm:Int)<=1048576:=by omega
 clear h0 h1 hmm
 go_enter Tryz.func81,Tryz.ntmps81
 go_wp2_with fail
 all_goals
  go_loopw [11] (fun i wr=>∃ k:Nat,k<=mm/\i=.int .i64 k/\Hid (Bw w wr/\∀ i,i<k->g i=u i)) (fun i _=>mm - (intOf i).toNat)
  case atStart=>exact ⟨0,Nat.zero_le _,rfl,Below.refl _ _,fun i hi=>by omega⟩
  case round=>
   obtain ⟨k,hk,rfl,HK⟩:=hrel
   by_cases hlt:k<mm
   ·have hlt':(k:Int)<(mm:Int):=by omega
    have hkn:k<n:=by have:=HM.out;omega
    have hkm:k<m:=by have:=HM.out;omega
    have hkn':(k:Int)<(n:Int):=by omega
    have hkm':(k:Int)<(m:Int):=by omega
    obtain ⟨b,off,rfl,hbl,ck0,ck1,ck2⟩:=(H0.out.below HK.out.1).at hkn
    obtain ⟨b',off',rfl,hbl',dk0,dk1,dk2⟩:=(H1.out.below HK.out.1).at hkm
    obtain ⟨T,hT⟩:∃ T,qc2 (g k).k (g k).q (g k).v (u k).k (u k).q (u k).v=T:=⟨_,rfl⟩
    have HT:Hid (qc2 (g k).k (g k).q (g k).v (u k).k (u k).q (u k).v=T):=hT
    clear hT
    go_upto_region 4 with fail
    have q0:Bw wr wr.drew:=(Below.refl wr.heap.size wr).drew
    refine qae (fun w'=>w'.cell? ⟨b,off+k*3,none⟩=some (.int .i64 (g k).k)/\w'.cell? ⟨b,off+k*3+1,none⟩=some (.int .i64 (g k).q)/\w'.cell? ⟨b,off+k*3+2,none⟩=some (.int .i64 (g k).v)/\w'.cell? ⟨b',off'+k*3,none⟩=some (.int .i64 (u k).k)/\w'.cell? ⟨b',off'+k*3+1,none⟩=some (.int .i64 (u k).q)/\w'.cell? ⟨b',off'+k*3+2,none⟩=some (.int .i64 (u k).v)) (fun _=>false) (by kernel_rfl) ?_
    have hHeld:(fun w':World=>w'.cell? ⟨b,off+k*3,none⟩=some (.int .i64 (g k).k)/\w'.cell? ⟨b,off+k*3+1,none⟩=some (.int .i64 (g k).q)/\w'.cell? ⟨b,off+k*3+2,none⟩=some (.int .i64 (g k).v)/\w'.cell? ⟨b',off'+k*3,none⟩=some (.int .i64 (u k).k)/\w'.cell? ⟨b',off'+k*3+1,none⟩=some (.int .i64 (u k).q)/\w'.cell? ⟨b',off'+k*3+2,none⟩=some (.int .i64 (u k).v)) wr.drew:=⟨(q0.cell (p:=(aQ b _)) hbl).trans ck0,(q0.cell (p:=(aQ b _)) hbl).trans ck1,(q0.cell (p:=(aQ b _)) hbl).trans ck2,(q0.cell (p:=(aQ b' _)) hbl').trans dk0,(q0.cell (p:=(aQ b' _)) hbl').trans dk1,(q0.cell (p:=(aQ b' _)) hbl').trans dk2⟩
    refine qau [0,1,2,3,4,5,6,7] ?_
    iterate 8 (refine qaf rfl hHeld ?_;apply Exists.intro;refine ⟨fun wq hSw=>?_,?_⟩;(· ((try dsimp only at hSw);go_simp;try with_reducible rfl));(try simp only [Act.put,zD,zE,zF]))
    refine qao ?_
    have hne:=qsd (g k).k (g k).q (g k).v (u k).k (u k).q (u k).v
    rw [HT.out] at hne
    refine qad 8 rfl hHeld ⟨.bool (!T),fun wq _=>?_,?_⟩
    ·go_simp
    (try simp only [Act.put,zD,zE,zF])
    refine qap (by kernel_rfl) ?_ _
    have HK':Hid (Bw w wr.drew):=HK.out.1.trans (q0.mono HK.out.1.size)
    clear hHeld hne q0 ck0 ck1 ck2 dk0 dk1 dk2 hbl hbl'
    cases T with
    | false=>
     have HR : Hid (Al g u (min n m) k) := ⟨by have := HM.out; omega, HK.out.2, fun _ e => by
      have:=(qjj _ _).2 e
      rw [HT.out] at this
      cases this⟩
     go_wp2
     go_ret
     exact ⟨k,rfl,HR.out,HK'.out⟩
    | true=>
     have HE:Hid (∀ i,i<k+1->g i=u i):=fun i hi=>by
      by_cases e:i=k
      ·subst e
       exact (qjj _ _).1 HT.out
      ·exact HK.out.2 i (by omega)
     go_wp2
     go_roundw
     case rel=>exact ⟨k+1,by omega,by go_num,HK'.out,HE.out⟩
     case measure=>simp [intOf];omega
   ·have hkm:k=mm:=by omega
    have HR:Hid (Al g u (min n m) k):=⟨by have:=HM.out;omega,HK.out.2,fun hh=>by have:=HM.out;omega⟩
    have hg1:(mm:Int)<=(k:Int):=by omega
    first | have hg2:(m:Int)<=(k:Int):=by omega | have hg2:(n:Int)<=(k:Int):=by omega
    clear hkm hlt
    go_wp2
    go_ret
    first | exact ⟨k,congrArg (fun z:Int=>Ending.returned (.int .i64 z)) (show (m:Int)=k by omega),HR.out,HK.out.1⟩ | exact ⟨k,congrArg (fun z:Int=>Ending.returned (.int .i64 z)) (show (n:Int)=k by omega),HR.out,HK.out.1⟩
open Go.Shelf
def gnL (n:Nat) (d:Nat->Nat):(k:Nat)->k<=n->List (Fin n × Nat)
 | 0,_=>[]
 | k+1,h=>if 0<d k then gnL n d k (Nat.le_of_succ_le h) ++ [(⟨k,h⟩,d k)] else gnL n d k (Nat.le_of_succ_le h)
theorem qrr (n:Nat) (d:Nat->Nat):∀ (k:Nat) (h:k<=n),(gnL n d k h).length<=k
 | 0,_=>Nat.le_refl _
 | k+1,h=>by
  have:=qrr n d k (Nat.le_of_succ_le h)
  rw [gnL]
  split
  ·simp;omega
  ·omega
theorem qjo {n:Nat} {d:Nat->Nat} {k:Nat} (h:k<n) (hd:0<d k):gnL n d (k+1) h=gnL n d k (Nat.le_of_lt h) ++ [(⟨k,h⟩,d k)]:=by rw [gnL,if_pos hd]
theorem qjp {n:Nat} {d:Nat->Nat} {k:Nat} (h:k<n) (hd:¬ 0<d k):gnL n d (k+1) h=gnL n d k (Nat.le_of_lt h):=by rw [gnL,if_neg hd]
structure Kq (m c:Nat) (W W':World):Prop where
 lo:Below c W W'
 hi:∀ b,c<b->b<m->W'.heap[b]? = W.heap[b]?
theorem Kq.refl (m c:Nat) (W:World):Kq m c W W:=⟨Below.refl _ _,fun _ _ _=>rfl⟩
theorem Kq.trans {m c:Nat} {A B C:World} (h:Kq m c A B) (k:Kq m c B C):Kq m c A C:=⟨h.lo.trans k.lo,fun b h1 h2=>(k.hi b h1 h2).trans (h.hi b h1 h2)⟩
theorem Kq.of {m c:Nat} {A B:World} (h:Bw A B) (hm:m<=A.heap.size) (hc:c<=m):Kq m c A B:=⟨h.mono (zP hc hm),fun b _ h1=>h.block b (zL h1 hm)⟩
theorem Kq.b {m c:Nat} {w:World} (hm:m<=w.heap.size) (hc:c<=m) (W:World) (l:Nat) (o o':Obj) (hl:w.heap.size<=l) (h:W.heap[l]? = some o) (h1:o.isCells=false) (h2:o.isWalk=false):Kq m c W (W.putObj l o'):=
 ⟨belowK_b (zP hc hm) W l o o' hl h h1 h2,fun b _ hb=>(belowK_b hm W l o o' hl h h1 h2).block b hb⟩
theorem Al.ex (g h:Nat->E3):∀ m:Nat,∃ r,Al g h m r
 | 0=>⟨0,Nat.le_refl _,fun _ hi=>absurd hi (Nat.not_lt_zero _),fun h=>absurd h (Nat.not_lt_zero _)⟩
 | m+1=>by
  obtain ⟨r,a⟩:=Al.ex g h m
  by_cases hr:r<m
  ·exact ⟨r,by omega,a.eq,fun _=>a.ne hr⟩
  ·obtain rfl:r=m:=by have:=a.le;omega
   by_cases e:g r=h r
   ·exact ⟨r + 1, Nat.le_refl _, fun i hi => by
     by_cases e':i=r
     ·rw [e'];exact e
     ·exact a.eq i (by omega),fun h'=>absurd h' (Nat.lt_irrefl _)⟩
   ·exact ⟨r,by omega,a.eq,fun _=>e⟩
structure Hv where
 a:Option Addr
 n:Nat
 c:Nat
 A:Nat->Option Addr
 L:Nat->Nat
 C:Nat->Nat
 g:Nat->Nat->E3
structure Hv.In (h:Hv) (W:World) (B:Nat):Prop where
 b:W.cell? (aQ B 3)=some (.slice h.a h.n h.c)
 r:RowS W h.a h.n fun i=>.slice (h.A i) (h.L i) (h.C i)
 e:∀ i,i<h.n->EvL W (h.A i) (h.L i) (h.g i)
theorem qty (dp:Nat) (hdp:1<=dp) (l Bs Bo m c:Nat) (x y:Hv) (hxy:x.n<=y.n) (hn:x.n<=1048576) (hl:∀ i,i<x.n->x.L i<=1048576/\y.L i<=1048576) (d:Nat->Nat)
  (hd:∀ i,i<x.n->∀ r,Al (x.g i) (y.g i) (min (x.L i) (y.L i)) r->x.L i - r=d i) (W:World) (hm:m<=W.heap.size) (hcm:c<=m) (hF:∀ W',Kq m c W W'->x.In W' Bs/\y.In W' Bo)
  (J Jx:List (Fin x.n × Nat)->World->Prop) (hJ:AbidesFrom W.heap.size J)
  (hY : ∀ pre z W1, J pre W1 → pre.length < x.n → YieldAt Fence.wide (dp - 1) Tryz.prog l #[.int .i64 (z.1.val : Nat), .int .i64 (z.2 : Nat)] W1 fun e W' =>
   (e=.returned (.bool true)/\J (pre ++ [z]) W'/\Kq m c W1 W')\/(e=.returned (.bool false)/\Jx (pre ++ [z]) W'))
  (h0:J [] W):
  CallsIn Fence.wide dp Tryz.prog 80 #[.func (.yield l) #[] #[],.pointer (some (aQ Bs 0)),.pointer (some (aQ Bo 0))] W fun e W'=>(∃ v,e=.returned v)/\
   ((∃ ys,ys=gnL x.n d x.n (Nat.le_refl _)/\J ys W')\/(∃ pre,(∃ k,∃ h:k<x.n,0<d k/\pre=gnL x.n d (k+1) h)/\Jx pre W')):=by
 obtain ⟨xa,xn,xc,xA,xL,xC,xg⟩:=x
 obtain ⟨ya,yn,yc,yA,yL,yC,yg⟩:=y
 dsimp only at *
 have HF:Hid (∀ W',Kq m c W W'->Hv.In ⟨xa,xn,xc,xA,xL,xC,xg⟩ W' Bs/\Hv.In ⟨ya,yn,yc,yA,yL,yC,yg⟩ W' Bo):=hF
 have bs:=(hF W (Kq.refl _ _ _)).1.b
 have HD:Hid (∀ i,i<xn->∀ r,Al (xg i) (yg i) (min (xL i) (yL i)) r->xL i - r=d i):=hd
 have hn':(xn:Int)<=1048576:=by omega
 clear hF hd
 refine callsIn_of_wp Tryz.func80 rfl trivial ?_ rfl
 simp only [Tryz.ntmps80,List.size_toArray,List.length_cons,List.length_nil,Nat.reduceAdd,Nat.reduceSub,Array.replicate_succ,Array.replicate_zero,List.push_toArray,List.append_toArray,List.nil_append,List.cons_append]
 gi_wp2
 gi_loopw [10] (fun i wr=>∃ k:Nat,∃ h:k<=xn,i=.int .i64 k/\J (gnL xn d k h) wr/\Kq m c W wr) (fun i _=>xn - (intOf i).toNat)
 case atStart=>exact ⟨0,Nat.zero_le _,rfl,h0,Kq.refl _ _ _⟩
 case round=>
  obtain ⟨k,hk,rfl,hJs,hq⟩:=hrel
  by_cases hlt:k<xn
  ·have hlt':(k:Int)<(xn:Int):=by omega
   obtain ⟨hxI,hyI⟩:=HF.out wr hq
   obtain ⟨b,o,eb,cb⟩:=hxI.r.at hlt
   obtain ⟨b',o',eb',cb'⟩:=hyI.r.at (zL hlt hxy)
   have hex:=hxI.e k hlt
   have hey:=hyI.e k (zL hlt hxy)
   have bo:=hyI.b
   dsimp only at eb eb' cb cb' hex hey bo
   subst eb eb'
   have hly:(k:Int)<(yn:Int):=by omega
   obtain ⟨hl1,hl2⟩:=hl k hlt
   have HA:Hid (Calls Tryz.prog 81 #[.slice (xA k) (xL k) (xC k),.slice (yA k) (yL k) (yC k)] wr fun e w'=>∃ r:Nat,e=.returned (.int .i64 r)/\(xL k:Int) - (r:Int)=(d k:Int)/\Bw wr w'):=
    (qq9 (xA k) (yA k) (xL k) (yL k) (xC k) (yC k) (xg k) (yg k) wr hl1 hl2 hex hey).mono fun e w' ⟨r,e1,a1,b1⟩=>⟨r,e1,by have h1:=HD.out k hlt r a1;have h2:=a1.le;omega,b1⟩
   have hdl:d k<=xL k:=by
    obtain ⟨r,hr⟩:=Al.ex (xg k) (yg k) (min (xL k) (yL k))
    have:=HD.out k hlt r hr
    omega
   have hdk:(d k:Int)<=1048576:=by omega
   have BQ:∀ w1,Bw wr w1->J (gnL xn d k hk) w1/\Kq m c W w1:=fun w1 b1=>⟨hJ _ _ _ none hJs (zZ b1) (fun r e=>by cases e),hq.trans (Kq.of b1 (zP hm hq.lo.size) hcm)⟩
   clear hxI hyI hex hey hl1 hl2 hl hJs
   by_cases hp:0<d k
   ·have hp':(0:Int)<(d k:Int):=by omega
    gi_wp2_with (refine ⟨trivial,?_⟩;gi_at_call 81;refine (callsIn_wide.2 HA.out).mono ?_;clear HA;rintro e w1 ⟨r,rfl,hr,b1⟩;obtain ⟨fn,tmps,assign,body,hy,hR⟩:=hY (gnL xn d k hk) (⟨k,hlt⟩,d k) w1 (BQ w1 b1).1 (Nat.lt_of_le_of_lt (qrr _ _ _ _) hlt);dsimp only at hy)
    refine hR.mono ?_
    rintro e W3 (⟨rfl,hJ3,hk3⟩ | ⟨rfl,hJx3⟩)
    ·gi_wp2
     go_roundw
     case rel=>exact ⟨k+1,hlt,by go_num,by rw [qjo hlt hp];exact hJ3,(BQ w1 b1).2.trans hk3⟩
     case measure=>simp [intOf];omega
    ·gi_wp2
     refine bodyPost_ret (results_none rfl _ _ _) rfl ?_
     exact ⟨⟨_,rfl⟩,.inr ⟨_,⟨k,hlt,hp,(qjo hlt hp).symm⟩,hJx3⟩⟩
   ·have hp':(d k:Int)=0:=by omega
    gi_wp2_with (refine ⟨trivial,?_⟩;gi_at_call 81;refine (callsIn_wide.2 HA.out).mono ?_;clear HA;rintro e w1 ⟨r,rfl,hr,b1⟩)
    refine ⟨fun _ h=>(by cases h),?_⟩
    gi_wp2
    go_roundw
    case rel=>exact ⟨k+1,hlt,by go_num,by rw [qjp hlt hp];exact (BQ w1 b1).1,(BQ w1 b1).2⟩
    case measure=>simp [intOf];omega
  ·obtain rfl:k=xn:=by omega
   gi_wp2
   go_end0
   exact ⟨⟨_,rfl⟩,.inl ⟨_,rfl,hJs⟩⟩
def upN (n:Nat) (pre:List (Fin n × Nat)):List Int:=pre.foldl (fun l z=>l.set z.1.val (z.2:Int)) (List.replicate n 0)
theorem qpt {n:Nat} (pre:List (Fin n × Nat)) (z:Fin n × Nat):upN n (pre ++ [z])=(upN n pre).set z.1.val (z.2:Int):=by simp [upN]
theorem qig {n:Nat} (pre:List (Fin n × Nat)):(upN n pre).length=n:=by
 have:∀ (pre:List (Fin n × Nat)) (l:List Int),(pre.foldl (fun l z=>l.set z.1.val (z.2:Int)) l).length=l.length:=by
  intro pre
  induction pre with
  | nil=>exact fun l=>rfl
  | cons z pre ih=>exact fun l=>(ih _).trans (by simp)
 rw [upN,this]
 simp
theorem qvr (n:Nat) (d:Nat->Nat):∀ (k:Nat) (h:k<=n),upN n (gnL n d k h)=(List.range n).map fun q=>if q<k then (d q:Int) else 0
 | 0,_=>by
  apply List.ext_getElem
  ·simp [gnL,upN]
  ·intro i h1 h2
   simp [gnL,upN]
 | k+1,h=>by
  have ih:=qvr n d k (Nat.le_of_succ_le h)
  by_cases hd:0<d k
  ·rw [qjo h hd,qpt,ih]
   apply List.ext_getElem
   ·simp
   ·intro i h1 h2
    simp only [List.getElem_set,List.getElem_map,List.getElem_range]
    by_cases e:k=i
    ·subst e
     rw [if_pos rfl,if_pos (Nat.lt_succ_self _)]
    ·rw [if_neg e]
     by_cases h3:i<k
     ·rw [if_pos h3,if_pos (by omega)]
     ·rw [if_neg h3,if_neg (by omega)]
  ·rw [qjp h hd,ih]
   apply List.map_congr_left
   intro q _
   by_cases e:q=k
   ·subst e
    rw [if_neg (Nat.lt_irrefl _),if_pos (Nat.lt_succ_self _)]
    omega
   ·by_cases h3:q<k
    ·rw [if_pos h3,if_pos (by omega)]
    ·rw [if_neg h3,if_neg (by omega)]
theorem qix (dp:Nat) (hdp:1<=dp) (Bs Bo m c:Nat) (x y:Hv) (hxy:x.n<=y.n) (hn:x.n<=1048576) (hl:∀ i,i<x.n->x.L i<=1048576/\y.L i<=1048576) (d:Nat->Nat)
  (hd:∀ i,i<x.n->∀ r,Al (x.g i) (y.g i) (min (x.L i) (y.L i)) r->x.L i - r=d i) (w:World) (hm:m<=w.heap.size) (hcm:c<=m) (hF:∀ W',Kq m c w W'->x.In W' Bs/\y.In W' Bo):
  SeqStopsK Fence.wide dp Tryz.prog 80 #[.pointer (some (aQ Bs 0)),.pointer (some (aQ Bo 0))] (fun z:Fin x.n × Nat=>#[Value.int .i64 (z.1.val:Nat),Value.int .i64 (z.2:Nat)]) (Kq m c)
   (fun ys=>ys=gnL x.n d x.n (Nat.le_refl _)) (fun pre=>∃ k,∃ h:k<x.n,0<d k/\pre=gnL x.n d (k+1) h) x.n w:=fun l J Jx W hW hJ _ hY h0=>
 qty dp hdp l Bs Bo m c x y hxy hn hl d hd W (zP hm hW.size) hcm (fun W' hk=>hF W' ((Kq.of hW hm hcm).trans hk)) J Jx hJ hY h0
theorem qo0 (v1 v2 v3 v4 u1 u2 u3 u4:Value) (w:World):
  Calls Tryz.prog 40 #[.agg #[v1,v2,v3,v4],.agg #[u1,u2,u3,u4]] w fun e w'=>e=.returned (.func (.func 80) #[] #[.pointer (some (aQ w.heap.size 0)),.pointer (some ⟨w.heap.size+1,0,none⟩)])/\w'=(w.alloc (.cells #[v1,v2,v3,v4] 29)).alloc (.cells #[u1,u2,u3,u4] 29):=by
 go_enter Tryz.func40,Tryz.ntmps40
 go_wp2
 go_ret
 exact ⟨rfl,rfl⟩
