/- Proved: whatever bytes are drawn by, of a drawn system that is taken back just so many events are undone as the one has more than the other, and none where it cannot be; nothing is written into what came in. One condition, tied to the program's text: errors.errorType holds what its text lays. -/
import Derived.RangeFuncNested
import Derived.RangeFuncBound
import Derived.RangeFuncCalls
import Derived.RangeFuncLeaves
import Derived.Shelf.Abstract
import Derived.OwnWalkIn
import Derived.TacticsInMore
import Derived.LoopNIn
import Derived.LoopIn
import Derived.Test.YtmnajpgicdomcaaGreatDoorRl30
import Derived.Test.YtmnajpgicdomcaaGreatDoorRl35
import Derived.Test.YtmnajpgicdomcaaGreatDoorRl28
import Derived.Test.YtmnajpgicdomcaaGreatDoorCards
import Derived.SevenTiedAt
namespace Go.Proofs.YtmnajpgicdomcaaGreatDoor
set_option maxRecDepth 100000
set_option maxHeartbeats 4000000
open Go.RowKit Go.Deep
structure Al (g h:Nat->E3) (m r:Nat):Prop where
 le:r<=m
 eq:∀ i,i<r->g i=h i
 ne:r<m->g r≠h r
theorem Al.one {g h:Nat->E3} {m r r':Nat} (a:Al g h m r) (b:Al g h m r'):r=r':=by
 rcases Nat.lt_trichotomy r r' with h1 | h1 | h1
 ·exact absurd (b.eq r h1) (a.ne (zL h1 b.le))
 ·exact h1
 ·exact absurd (a.eq r' h1) (b.ne (zL h1 a.le))
theorem qqp (a b:E3):qdj a.k a.q a.v b.k b.q b.v=true ↔ a=b:=by
 cases a;cases b;simp [qdj]
theorem qqh (ea fa:Option Addr) (n m c d:Nat) (g u:Nat->E3) (w:World) (hn:n<=1048576) (hm:m<=1048576) (h0:EvL w ea n g) (h1:EvL w fa m u):
  Calls Tryz.prog 48 #[.slice ea n c,.slice fa m d] w fun e w'=>∃ r,e=.returned (.int .i64 (r:Nat))/\Al g u (min n m) r/\Below w.heap.size w w':=by
 have H0:Hid (EvL w ea n g):=h0;have H1:Hid (EvL w fa m u):=h1;have hn':(n:Int)<=1048576:=by omega
 have hm':(m:Int)<=1048576:=by omega
 obtain ⟨mm,hmm⟩:∃ mm,mm=min n m:=⟨_,rfl⟩
 have hmi:min (n:Int) (m:Int)=(mm:Int):=by omega
 have HM:Hid (mm=min n m):=hmm;have hmb:(mm:Int)<=1048576:=by omega
 clear h0 h1 hmm
 go_enter Tryz.func48,Tryz.ntmps48
 go_wp2_with fail
 all_goals
  go_loopw [11] (fun i wr=>∃ k:Nat,k<=mm/\i=.int .i64 k/\Hid (Below w.heap.size w wr/\∀ i,i<k->g i=u i)) (fun i _=>mm - (intOf i).toNat)
  case atStart=>exact ⟨0,Nat.zero_le _,rfl,Below.refl _ _,fun i hi=>by omega⟩
  case round=>
   obtain ⟨k,hk,rfl,HK⟩:=hrel;by_cases hlt:k<mm
   ·have hlt':(k:Int)<(mm:Int):=by omega
    have hkn:k<n:=by have:=HM.out;omega
    have hkm:k<m:=by have:=HM.out;omega
    have hkn':(k:Int)<(n:Int):=by omega
    have hkm':(k:Int)<(m:Int):=by omega
    obtain ⟨b,off,rfl,hbl,ck0,ck1,ck2⟩:=(H0.out.below HK.1).at hkn;obtain ⟨b',off',rfl,hbl',dk0,dk1,dk2⟩:=(H1.out.below HK.1).at hkm;obtain ⟨T,hT⟩:∃ T,qdj (g k).k (g k).q (g k).v (u k).k (u k).q (u k).v=T:=⟨_,rfl⟩
    have HT:Hid (qdj (g k).k (g k).q (g k).v (u k).k (u k).q (u k).v=T):=hT;clear hT;go_upto_region 4 with fail
    have q0:Below wr.heap.size wr wr.drew:=(Below.refl wr.heap.size wr).drew;refine qaj (fun w'=>w'.cell? ⟨b,off+k*3,none⟩=some (.int .i64 (g k).k)/\w'.cell? ⟨b,off+k*3+1,none⟩=some (.int .i64 (g k).q)/\w'.cell? ⟨b,off+k*3+2,none⟩=some (.int .i64 (g k).v)/\w'.cell? ⟨b',off'+k*3,none⟩=some (.int .i64 (u k).k)/\w'.cell? ⟨b',off'+k*3+1,none⟩=some (.int .i64 (u k).q)/\w'.cell? ⟨b',off'+k*3+2,none⟩=some (.int .i64 (u k).v)) (fun _=>false) (by kernel_rfl) ?_;have hHeld:(fun w':World=>w'.cell? ⟨b,off+k*3,none⟩=some (.int .i64 (g k).k)/\w'.cell? ⟨b,off+k*3+1,none⟩=some (.int .i64 (g k).q)/\w'.cell? ⟨b,off+k*3+2,none⟩=some (.int .i64 (g k).v)/\w'.cell? ⟨b',off'+k*3,none⟩=some (.int .i64 (u k).k)/\w'.cell? ⟨b',off'+k*3+1,none⟩=some (.int .i64 (u k).q)/\w'.cell? ⟨b',off'+k*3+2,none⟩=some (.int .i64 (u k).v)) wr.drew:=⟨(q0.cell (p:=⟨b,_,none⟩) hbl).trans ck0,(q0.cell (p:=⟨b,_,none⟩) hbl).trans ck1,(q0.cell (p:=⟨b,_,none⟩) hbl).trans ck2,(q0.cell (p:=⟨b',_,none⟩) hbl').trans dk0,(q0.cell (p:=⟨b',_,none⟩) hbl').trans dk1,(q0.cell (p:=⟨b',_,none⟩) hbl').trans dk2⟩
    refine qax [0,1,2,3,4,5,6,7] ?_;iterate 8 (refine qa8 rfl hHeld ?_)
    refine qao ?_;have hne:=qus (g k).k (g k).q (g k).v (u k).k (u k).q (u k).v;rw [HT.out] at hne;refine qch 8 rfl hHeld ⟨.bool (!T),fun wq _=>?_,?_⟩
    ·go_simp
    (try simp only [Act.put,zD,zE,zF])
    refine qar (by kernel_rfl) ?_ _;have HK':Hid (Below w.heap.size w wr.drew):=HK.1.trans (q0.mono HK.1.size);clear hHeld hne q0 ck0 ck1 ck2 dk0 dk1 dk2 hbl hbl';cases T with
    | false=>
     have HR : Hid (Al g u (min n m) k) := ⟨by have := HM.out; omega, HK.2, fun _ e => by
      have:=(qqp _ _).2 e;rw [HT.out] at this
      cases this⟩
     go_wp2;go_ret;exact ⟨k,rfl,HR.out,HK'.out⟩
    | true=>
     have HE:Hid (∀ i,i<k+1->g i=u i):=fun i hi=>by
      by_cases e:i=k
      ·subst e
       exact (qqp _ _).1 HT.out
      ·exact HK.2 i (by omega)
     go_wp2;go_roundw
     case rel=>exact ⟨k+1,by omega,by go_num,HK'.out,HE.out⟩
     case measure=>simp [intOf];omega
   ·have hkm:k=mm:=by omega
    have HR:Hid (Al g u (min n m) k):=⟨by have:=HM.out;omega,HK.2,fun hh=>by have:=HM.out;omega⟩
    have hg1:(mm:Int)<=(k:Int):=by omega
    first | have hg2:(m:Int)<=(k:Int):=by omega | have hg2:(n:Int)<=(k:Int):=by omega
    clear hkm hlt;go_wp2;go_ret
    first | exact ⟨k,congrArg (fun z:Int=>Ending.returned (.int .i64 z)) (show (m:Int)=k by omega),HR.out,HK.1⟩ | exact ⟨k,congrArg (fun z:Int=>Ending.returned (.int .i64 z)) (show (n:Int)=k by omega),HR.out,HK.1⟩
open Go.Shelf
def gnL (n:Nat) (d:Nat->Nat):(k:Nat)->k<=n->List (Fin n × Nat)
 | 0,_=>[]
 | k+1,h=>if 0<d k then gnL n d k (Nat.le_of_succ_le h) ++ [(⟨k,h⟩,d k)] else gnL n d k (Nat.le_of_succ_le h)
theorem qqz (n:Nat) (d:Nat->Nat):∀ (k:Nat) (h:k<=n),(gnL n d k h).length<=k
 | 0,_=>Nat.le_refl _
 | k+1,h=>by
  have:=qqz n d k (Nat.le_of_succ_le h);rw [gnL]
  split
  ·simp;omega
  ·omega
theorem qmv {n:Nat} {d:Nat->Nat} {k:Nat} (h:k<n) (hd:0<d k):gnL n d (k+1) h=gnL n d k (Nat.le_of_lt h) ++ [(⟨k,h⟩,d k)]:=by rw [gnL,if_pos hd]
theorem qn7 {n:Nat} {d:Nat->Nat} {k:Nat} (h:k<n) (hd:¬ 0<d k):gnL n d (k+1) h=gnL n d k (Nat.le_of_lt h):=by rw [gnL,if_neg hd]
structure Kq (m c:Nat) (W W':World):Prop where
 lo:Below c W W'
 hi:∀ b,c<b->b<m->W'.heap[b]? = W.heap[b]?
theorem Kq.refl (m c:Nat) (W:World):Kq m c W W:=⟨Below.refl _ _,fun _ _ _=>rfl⟩
theorem Kq.trans {m c:Nat} {A B C:World} (h:Kq m c A B) (k:Kq m c B C):Kq m c A C:=⟨h.lo.trans k.lo,fun b h1 h2=>(k.hi b h1 h2).trans (h.hi b h1 h2)⟩
theorem Kq.of {m c:Nat} {A B:World} (h:Below A.heap.size A B) (hm:m<=A.heap.size) (hc:c<=m):Kq m c A B:=⟨h.mono (zP hc hm),fun b _ h1=>h.block b (zL h1 hm)⟩
theorem Kq.b {m c:Nat} {w:World} (hm:m<=w.heap.size) (hc:c<=m) (W:World) (l:Nat) (o o':Obj) (hl:w.heap.size<=l) (h:W.heap[l]? = some o) (h1:o.isCells=false) (h2:o.isWalk=false):Kq m c W (W.putObj l o'):=
 ⟨belowK_b (zP hc hm) W l o o' hl h h1 h2,fun b _ hb=>(belowK_b hm W l o o' hl h h1 h2).block b hb⟩
theorem Al.ex (g h:Nat->E3):∀ m:Nat,∃ r,Al g h m r
 | 0=>⟨0,Nat.le_refl _,fun _ hi=>absurd hi (Nat.not_lt_zero _),fun h=>absurd h (Nat.not_lt_zero _)⟩
 | m+1=>by
  obtain ⟨r,a⟩:=Al.ex g h m;by_cases hr:r<m
  ·exact ⟨r,by omega,a.eq,fun _=>a.ne hr⟩
  ·obtain rfl:r=m:=by have:=a.le;omega
   by_cases e:g r=h r
   ·exact ⟨r + 1, Nat.le_refl _, fun i hi => by
     by_cases e':i=r
     ·rw [e'];exact e
     ·exact a.eq i (by omega),fun h'=>absurd h' (Nat.lt_irrefl _)⟩
   ·exact ⟨r,by omega,a.eq,fun _=>e⟩
structure Hv where
 a:Option Addr
 n:Nat
 c:Nat
 A:Nat->Option Addr
 L:Nat->Nat
 C:Nat->Nat
 g:Nat->Nat->E3
structure Hv.In (h:Hv) (W:World) (B:Nat):Prop where
 b:W.cell? ⟨B,3,none⟩=some (.slice h.a h.n h.c)
 r:RowS W h.a h.n fun i=>.slice (h.A i) (h.L i) (h.C i)
 e:∀ i,i<h.n->EvL W (h.A i) (h.L i) (h.g i)
theorem qs8 (dp:Nat) (hdp:1<=dp) (l Bs Bo m c:Nat) (x y:Hv) (hxy:x.n<=y.n) (hn:x.n<=1048576) (hl:∀ i,i<x.n->x.L i<=1048576/\y.L i<=1048576) (d:Nat->Nat)
  (hd:∀ i,i<x.n->∀ r,Al (x.g i) (y.g i) (min (x.L i) (y.L i)) r->x.L i - r=d i) (W:World) (hm:m<=W.heap.size) (hcm:c<=m) (hF:∀ W',Kq m c W W'->x.In W' Bs/\y.In W' Bo)
  (J Jx:List (Fin x.n × Nat)->World->Prop) (hJ:AbidesFrom W.heap.size J)
  (hY : ∀ pre z W1, J pre W1 → pre.length < x.n → YieldAt Fence.wide (dp - 1) Tryz.prog l #[.int .i64 (z.1.val : Nat), .int .i64 (z.2 : Nat)] W1 fun e W' =>
   (e=.returned (.bool true)/\J (pre ++ [z]) W'/\Kq m c W1 W')\/(e=.returned (.bool false)/\Jx (pre ++ [z]) W'))
  (h0:J [] W):
  CallsIn Fence.wide dp Tryz.prog 47 #[.func (.yield l) #[] #[],.pointer (some ⟨Bs,0,none⟩),.pointer (some ⟨Bo,0,none⟩)] W fun e W'=>(∃ v,e=.returned v)/\
   ((∃ ys,ys=gnL x.n d x.n (Nat.le_refl _)/\J ys W')\/(∃ pre,(∃ k,∃ h:k<x.n,0<d k/\pre=gnL x.n d (k+1) h)/\Jx pre W')):=by
 obtain ⟨xa,xn,xc,xA,xL,xC,xg⟩:=x;obtain ⟨ya,yn,yc,yA,yL,yC,yg⟩:=y;dsimp only at *;have HF:Hid (∀ W',Kq m c W W'->Hv.In ⟨xa,xn,xc,xA,xL,xC,xg⟩ W' Bs/\Hv.In ⟨ya,yn,yc,yA,yL,yC,yg⟩ W' Bo):=hF;have bs:=(hF W (Kq.refl _ _ _)).1.b;have HD:Hid (∀ i,i<xn->∀ r,Al (xg i) (yg i) (min (xL i) (yL i)) r->xL i - r=d i):=hd;have hn':(xn:Int)<=1048576:=by omega
 clear hF hd;refine callsIn_of_wp Tryz.func47 rfl trivial ?_ rfl;simp only [Tryz.ntmps47,List.size_toArray,List.length_cons,List.length_nil,Nat.reduceAdd,Nat.reduceSub,Array.replicate_succ,Array.replicate_zero,List.push_toArray,List.append_toArray,List.nil_append,List.cons_append]
 gi_wp2
 gi_loopw [10] (fun i wr=>∃ k:Nat,∃ h:k<=xn,i=.int .i64 k/\J (gnL xn d k h) wr/\Kq m c W wr) (fun i _=>xn - (intOf i).toNat)
 case atStart=>exact ⟨0,Nat.zero_le _,rfl,h0,Kq.refl _ _ _⟩
 case round=>
  obtain ⟨k,hk,rfl,hJs,hq⟩:=hrel;by_cases hlt:k<xn
  ·have hlt':(k:Int)<(xn:Int):=by omega
   obtain ⟨hxI,hyI⟩:=HF.out wr hq;obtain ⟨b,o,eb,cb⟩:=hxI.r.at hlt;obtain ⟨b',o',eb',cb'⟩:=hyI.r.at (zL hlt hxy);have hex:=hxI.e k hlt;have hey:=hyI.e k (zL hlt hxy);have bo:=hyI.b;dsimp only at eb eb' cb cb' hex hey bo;subst eb eb';have hly:(k:Int)<(yn:Int):=by omega
   obtain ⟨hl1,hl2⟩:=hl k hlt
   have HA:Hid (Calls Tryz.prog 48 #[.slice (xA k) (xL k) (xC k),.slice (yA k) (yL k) (yC k)] wr fun e w'=>∃ r:Nat,e=.returned (.int .i64 r)/\(xL k:Int) - (r:Int)=(d k:Int)/\Below wr.heap.size wr w'):=
    (qqh (xA k) (yA k) (xL k) (yL k) (xC k) (yC k) (xg k) (yg k) wr hl1 hl2 hex hey).mono fun e w' ⟨r,e1,a1,b1⟩=>⟨r,e1,by have h1:=HD.out k hlt r a1;have h2:=a1.le;omega,b1⟩
   have hdl:d k<=xL k:=by
    obtain ⟨r,hr⟩:=Al.ex (xg k) (yg k) (min (xL k) (yL k));have:=HD.out k hlt r hr;omega
   have hdk:(d k:Int)<=1048576:=by omega
   have BQ:∀ w1,Below wr.heap.size wr w1->J (gnL xn d k hk) w1/\Kq m c W w1:=fun w1 b1=>⟨hJ _ _ _ none hJs (zZ b1) (fun r e=>by cases e),hq.trans (Kq.of b1 (zP hm hq.lo.size) hcm)⟩
   clear hxI hyI hex hey hl1 hl2 hl hJs;by_cases hp:0<d k
   ·have hp':(0:Int)<(d k:Int):=by omega
    gi_wp2_with (refine ⟨trivial,?_⟩;gi_at_call 48;refine (callsIn_wide.2 HA.out).mono ?_;clear HA;rintro e w1 ⟨r,rfl,hr,b1⟩;obtain ⟨fn,tmps,assign,body,hy,hR⟩:=hY (gnL xn d k hk) (⟨k,hlt⟩,d k) w1 (BQ w1 b1).1 (Nat.lt_of_le_of_lt (qqz _ _ _ _) hlt);dsimp only at hy)
    refine hR.mono ?_;rintro e W3 (⟨rfl,hJ3,hk3⟩ | ⟨rfl,hJx3⟩)
    ·gi_wp2
     go_roundw
     case rel=>exact ⟨k+1,hlt,by go_num,by rw [qmv hlt hp];exact hJ3,(BQ w1 b1).2.trans hk3⟩
     case measure=>simp [intOf];omega
    ·gi_wp2
     refine bodyPost_ret (results_none rfl _ _ _) rfl ?_;exact ⟨⟨_,rfl⟩,.inr ⟨_,⟨k,hlt,hp,(qmv hlt hp).symm⟩,hJx3⟩⟩
   ·have hp':(d k:Int)=0:=by omega
    gi_wp2_with (refine ⟨trivial,?_⟩;gi_at_call 48;refine (callsIn_wide.2 HA.out).mono ?_;clear HA;rintro e w1 ⟨r,rfl,hr,b1⟩)
    refine ⟨fun _ h=>(by cases h),?_⟩
    gi_wp2
    go_roundw
    case rel=>exact ⟨k+1,hlt,by go_num,by rw [qn7 hlt hp];exact (BQ w1 b1).1,(BQ w1 b1).2⟩
    case measure=>simp [intOf];omega
  ·obtain rfl:k=xn:=by omega
   gi_wp2
   go_end0
   exact ⟨⟨_,rfl⟩,.inl ⟨_,rfl,hJs⟩⟩
def upN (n:Nat) (pre:List (Fin n × Nat)):List Int:=pre.foldl (fun l z=>l.set z.1.val (z.2:Int)) (List.replicate n 0)
theorem qo2 {n:Nat} (pre:List (Fin n × Nat)) (z:Fin n × Nat):upN n (pre ++ [z])=(upN n pre).set z.1.val (z.2:Int):=by simp [upN]
theorem qil {n:Nat} (pre:List (Fin n × Nat)):(upN n pre).length=n:=by
 have:∀ (pre:List (Fin n × Nat)) (l:List Int),(pre.foldl (fun l z=>l.set z.1.val (z.2:Int)) l).length=l.length:=by
  intro pre
  induction pre with
  | nil=>exact fun l=>rfl
  | cons z pre ih=>exact fun l=>(ih _).trans (by simp)
 rw [upN,this];simp
theorem qu1 (n:Nat) (d:Nat->Nat):∀ (k:Nat) (h:k<=n),upN n (gnL n d k h)=(List.range n).map fun q=>if q<k then (d q:Int) else 0
 | 0,_=>by
  apply List.ext_getElem
  ·simp [gnL,upN]
  ·intro i h1 h2
   simp [gnL,upN]
 | k+1,h=>by
  have ih:=qu1 n d k (Nat.le_of_succ_le h);by_cases hd:0<d k
  ·rw [qmv h hd,qo2,ih]
   apply List.ext_getElem
   ·simp
   ·intro i h1 h2
    simp only [List.getElem_set,List.getElem_map,List.getElem_range];by_cases e:k=i
    ·subst e
     rw [if_pos rfl,if_pos (Nat.lt_succ_self _)]
    ·rw [if_neg e]
     by_cases h3:i<k
     ·rw [if_pos h3,if_pos (by omega)]
     ·rw [if_neg h3,if_neg (by omega)]
  ·rw [qn7 h hd,ih]
   apply List.map_congr_left;intro q _;by_cases e:q=k
   ·subst e
    rw [if_neg (Nat.lt_irrefl _),if_pos (Nat.lt_succ_self _)];omega
   ·by_cases h3:q<k
    ·rw [if_pos h3,if_pos (by omega)]
    ·rw [if_neg h3,if_neg (by omega)]
theorem qpj (dp:Nat) (hdp:1<=dp) (Bs Bo m c:Nat) (x y:Hv) (hxy:x.n<=y.n) (hn:x.n<=1048576) (hl:∀ i,i<x.n->x.L i<=1048576/\y.L i<=1048576) (d:Nat->Nat)
  (hd:∀ i,i<x.n->∀ r,Al (x.g i) (y.g i) (min (x.L i) (y.L i)) r->x.L i - r=d i) (w:World) (hm:m<=w.heap.size) (hcm:c<=m) (hF:∀ W',Kq m c w W'->x.In W' Bs/\y.In W' Bo):
  SeqStopsK Fence.wide dp Tryz.prog 47 #[.pointer (some ⟨Bs,0,none⟩),.pointer (some ⟨Bo,0,none⟩)] (fun z:Fin x.n × Nat=>#[Value.int .i64 (z.1.val:Nat),Value.int .i64 (z.2:Nat)]) (Kq m c)
   (fun ys=>ys=gnL x.n d x.n (Nat.le_refl _)) (fun pre=>∃ k,∃ h:k<x.n,0<d k/\pre=gnL x.n d (k+1) h) x.n w:=fun l J Jx W hW hJ _ hY h0=>
 qs8 dp hdp l Bs Bo m c x y hxy hn hl d hd W (zP hm hW.size) hcm (fun W' hk=>hF W' ((Kq.of hW hm hcm).trans hk)) J Jx hJ hY h0
theorem qs9 (v1 v2 v3 v4 u1 u2 u3 u4:Value) (w:World):
  Calls Tryz.prog 22 #[.agg #[v1,v2,v3,v4],.agg #[u1,u2,u3,u4]] w fun e w'=>e=.returned (.func (.func 47) #[] #[.pointer (some ⟨w.heap.size,0,none⟩),.pointer (some ⟨w.heap.size+1,0,none⟩)])/\w'=(w.alloc (.cells #[v1,v2,v3,v4] 29)).alloc (.cells #[u1,u2,u3,u4] 29):=by
 go_enter Tryz.func22,Tryz.ntmps22
 go_wp2;go_ret;exact ⟨rfl,rfl⟩
open Go.ChangeShapes Go.WideShapes Go.ChangeAt
attribute [local go_sem] Oper.semAt_some
theorem qvy {y:Sy} {p k:Int} (h:bkC y p k=0):(bkY y p k).hH=y.hH:=by
 unfold bkC at h;by_cases ho:y.okB=true
 ·rw [if_pos ho] at h
  by_cases hb:bkIn y p k=true
  ·rw [if_pos hb] at h
   by_cases hw:wfB (y.ah (cN (bkE y p k)))=true
   ·unfold bkY
    rw [if_pos ho,if_pos hb,if_pos hw];rfl
   ·rw [if_neg hw] at h
    cases h
  ·rw [if_neg hb] at h
   cases h
 ·rw [if_neg ho] at h
  cases h
theorem qqm (w:World) (v:Value) (t:TypeId):(w.alloc (.cells #[v] t)).cell? ⟨w.heap.size,0,none⟩=some v:=by simp
theorem leHv {z:Bool} {w:World} {P:Nat->Prop} {a:Option Addr} {n cap:Nat} {u:Nat->Value} {L:Nat->Nat} {H:Nat->Nat->E3} (o:LE z w P (.slice a n cap) n u L H):∃ (A:Nat->Option Addr) (C:Nat->Nat),RowS w a n (fun i=>.slice (A i) (L i) (C i))/\∀ i,i<n->EvL w (A i) (L i) (H i):=by
 have h:∀ i,i<n->∃ t:Option Addr × Nat,u i=.slice t.1 (L i) t.2/\EvL w t.1 (L i) (H i):=fun i hi=>by
  obtain ⟨a,c,e,h⟩:=qjm (o.own i hi);exact ⟨(a,c),e,h⟩
 have inh:Inhabited (Option Addr × Nat):=⟨(none,0)⟩
 obtain ⟨t,ht⟩:=Go.Deep.choose_lt h;refine ⟨fun i=>(t i).1,fun i=>(t i).2,?_,fun i hi=>(ht i hi).2⟩;by_cases h0:n=0
 ·exact .inl h0
 ·obtain ⟨g,c,e,-,hl,-⟩:=o.cell (i:=0) (by omega)
  simp only [Value.slice.injEq] at e;obtain ⟨rfl,-,rfl⟩:=e;exact .inr ⟨g,0,rfl,hl,fun i hi=>by rw [Nat.zero_add,(o.cellG hi).1,(ht i hi).1]⟩
theorem qis {zb:Bool} (x:SysIn) (p k:Int) (w:World) (hG:SysG w x) (hL:x.Len) (hcap:∀ i,i<x.hn->x.hL i<=x.hC i) (hN:x.Nn zb) (hV:w.cell? ⟨0,0,none⟩=some (.iface 181 (.agg #[.pointer (some ⟨1,126,none⟩)]))):
  Calls Tryz.prog 8 #[x.v,.int .i64 p,.int .i64 k] w fun e w'=>∃ u,e=.returned u/\OwnI w' w.heap.size u (udS x.y p k)/\Below w.heap.size w w':=by
 have HG:Hid (SysG w x):=hG;have HB:Hid (∀ wx,Below w.heap.size w wx->Calls Tryz.prog 11 #[x.v,.int .i64 p,.int .i64 k] wx fun e w'=>∃ v,e=.returned (.tuple #[v,.int .i64 (bkC x.y p k)])/\qac zb w' wx.heap.size (bkY x.y p k) v/\Below wx.heap.size wx w'):=fun wx hb=>qbr x p k wx (hG.below hb) hL hcap hN ((hb.cell (p:=⟨0,0,none⟩) (zJ w _ hV)).trans hV);have HD:Hid (bkC x.y p k=0->x.y.Ok/\(bkY x.y p k).hn=x.y.pn/\(∀ q,q<x.y.pn->(bkY x.y p k).hL q<=x.y.hL q)/\(bkY x.y p k).hH=x.y.hH):=fun h=>⟨(qfk h).1,(qfk h).2.1,(qfk h).2.2,qvy h⟩
 have HU:Hid (udS x.y p k=if bkC x.y p k=0 then udT x.y (bkY x.y p k) x.y.hn else []):=rfl;have hl':(x.hn:Int)<=1048576:=by have:=hL.h.1;omega
 have BW:Hid (Below w.heap.size w (w.alloc (oQ4 x.pa x.pn x.pc x.sa x.sn x.sc x.wa x.wn x.wc x.ha x.hn x.hc))):=zT _ _;have NB:Hid (BoxC (w.alloc (oQ4 x.pa x.pn x.pc x.sa x.sn x.sc x.wa x.wn x.wc x.ha x.hn x.hc)) w.heap.size (.slice x.pa x.pn x.pc) (.slice x.sa x.sn x.sc) (.slice x.wa x.wn x.wc) (.slice x.ha x.hn x.hc)):=BoxC.new w _ _ _ _ _;obtain ⟨C,hC⟩:∃ C,bkC x.y p k=C:=⟨_,rfl⟩
 obtain ⟨Y,hY⟩:∃ Y,bkY x.y p k=Y:=⟨_,rfl⟩
 rw [hC,hY] at HB HD HU;generalize udS x.y p k=U at *;clear hC hY hG hL hcap hN hV;refine (callsIn_wide (n:=3)).1 ?_;refine callsIn_of_wp_marks Tryz.func8 rfl trivial ?_ rfl;simp only [Tryz.ntmps8,List.size_toArray,List.length_cons,List.length_nil,Nat.reduceAdd,Nat.reduceSub,Array.replicate_succ,Array.replicate_zero,List.push_toArray,List.append_toArray,List.nil_append,List.cons_append];by_cases h0:C=0
 case neg=>
  have HV:Hid (U=[]):=by show U=[];rw [HU.out,if_neg h0]
  clear HU HD
  gi_wp2_with (refine ⟨trivial,?_⟩;gi_at_call 11;refine (callsIn_wide.2 (HB.out _ BW.out)).mono ?_;rintro e w3 ⟨v3,rfl,o3,q3⟩;obtain ⟨cl,vp,vs,vw,vh,up,us,uw,uh,rfl,o3⟩:=o3;obtain ⟨pa,pc,rfl⟩:=zU o3.p.row;obtain ⟨sa,sc,rfl⟩:=zU o3.s.row;obtain ⟨wa,wc,rfl⟩:=zU o3.t.row;obtain ⟨ha,hc,rfl⟩:=zU o3.h.row)
  have b3:Below w.heap.size w w3:=BW.out.trans (q3.mono BW.out.size);have b4:=b3.trans ((zT w3 (oQ4 pa Y.pn pc sa Y.sn sc wa Y.wn wc ha Y.hn hc)).mono b3.size);have b5:=b4.trans ((zT _ (.cells #[] 3)).mono b4.size);exact ⟨_,results_tmp rfl _ _ _,_,rfl,by rw [HV.out];exact (qcx (w3.alloc _) (by simp)).mono (by have:=b3.size;omega),b5⟩
 subst h0;obtain ⟨hO,hyn,hyl,hyH⟩:=HD.out rfl;have HV:Hid (U=udT x.y Y x.hn):=by show U=_;rw [HU.out,if_pos rfl];rfl
 have HN:Hid (x.hn=x.pn/\Y.hn=x.pn/\(∀ q,q<x.pn->Y.hL q<=x.hL q/\x.hL q<=200)/\1<=x.pn):=⟨hO.cn.2.2.1,hyn,fun q hq=>⟨hyl q hq,hO.hl200 hq⟩,hO.cn.1.1⟩
 have HH:Hid (Y.hH=x.hH):=hyH;clear HU HD hO hyn hyl hyH;have hmk:=qcp x.hn (by omega)
 gi_wp2_with (first|(refine ⟨trivial,?_⟩;gi_at_call 11;refine (callsIn_wide.2 (HB.out _ BW.out)).mono ?_;rintro e w3 ⟨v3,rfl,o3,q3⟩;obtain ⟨cl,vp,vs,vw,vh,up,us,uw,uh,rfl,o3⟩:=o3;obtain ⟨pa,pc,rfl⟩:=zU o3.p.row;obtain ⟨sa,sc,rfl⟩:=zU o3.s.row;obtain ⟨wa,wc,rfl⟩:=zU o3.t.row;obtain ⟨ha,hc,rfl⟩:=zU o3.h.row;obtain ⟨c0,c1,c2,c3⟩:=NB.out.below q3;have ln:=zJ w3 _ c0;have ln1:w.heap.size<w3.heap.size+1:=Nat.lt_succ_of_lt ln;have ln2:w.heap.size<w3.heap.size+1+1:=Nat.lt_succ_of_lt ln1;have le1:w.heap.size≠w3.heap.size+1:=Nat.ne_of_lt ln1;have le2:w.heap.size≠w3.heap.size+1+1:=Nat.ne_of_lt ln2;have le0:w.heap.size≠w3.heap.size:=Nat.ne_of_lt ln;clear HB)|(refine ⟨trivial,?_⟩;gi_at_call 22;refine (callsIn_wide.2 (qs9 _ _ _ _ _ _ _ _ _)).mono ?_;rintro e w' ⟨rfl,rfl⟩))
 clear c0 c1 c2 c3 ln1 ln2 le0 le1 le2 hmk;have b3:Below w.heap.size w w3:=BW.out.trans (q3.mono BW.out.size);have a4:=zT w3 (oQ4 pa Y.pn pc sa Y.sn sc wa Y.wn wc ha Y.hn hc);have a5:=zT (w3.alloc (oQ4 pa Y.pn pc sa Y.sn sc wa Y.wn wc ha Y.hn hc)) (.cells (madeCells #[.int .i64 0] x.hn) 3);have a6:=zT ((w3.alloc (oQ4 pa Y.pn pc sa Y.sn sc wa Y.wn wc ha Y.hn hc)).alloc (.cells (madeCells #[.int .i64 0] x.hn) 3)) (.cells #[.slice (some ⟨w3.heap.size+1,0,none⟩) x.hn x.hn] 32);have a7:=zT (((w3.alloc (oQ4 pa Y.pn pc sa Y.sn sc wa Y.wn wc ha Y.hn hc)).alloc (.cells (madeCells #[.int .i64 0] x.hn) 3)).alloc (.cells #[.slice (some ⟨w3.heap.size+1,0,none⟩) x.hn x.hn] 32)) (oQ4 x.pa x.pn x.pc x.sa x.sn x.sc x.wa x.wn x.wc x.ha x.hn x.hc);have a8:=zT ((((w3.alloc (oQ4 pa Y.pn pc sa Y.sn sc wa Y.wn wc ha Y.hn hc)).alloc (.cells (madeCells #[.int .i64 0] x.hn) 3)).alloc (.cells #[.slice (some ⟨w3.heap.size+1,0,none⟩) x.hn x.hn] 32)).alloc (oQ4 x.pa x.pn x.pc x.sa x.sn x.sc x.wa x.wn x.wc x.ha x.hn x.hc)) (oQ4 pa Y.pn pc sa Y.sn sc wa Y.wn wc ha Y.hn hc);have z4:(w3.alloc (oQ4 pa Y.pn pc sa Y.sn sc wa Y.wn wc ha Y.hn hc)).heap.size=w3.heap.size+1:=by simp
 have z5:((w3.alloc (oQ4 pa Y.pn pc sa Y.sn sc wa Y.wn wc ha Y.hn hc)).alloc (.cells (madeCells #[.int .i64 0] x.hn) 3)).heap.size=w3.heap.size+2:=by simp
 have z6:(((w3.alloc (oQ4 pa Y.pn pc sa Y.sn sc wa Y.wn wc ha Y.hn hc)).alloc (.cells (madeCells #[.int .i64 0] x.hn) 3)).alloc (.cells #[.slice (some ⟨w3.heap.size+1,0,none⟩) x.hn x.hn] 32)).heap.size=w3.heap.size+3:=by simp
 have z7:((((w3.alloc (oQ4 pa Y.pn pc sa Y.sn sc wa Y.wn wc ha Y.hn hc)).alloc (.cells (madeCells #[.int .i64 0] x.hn) 3)).alloc (.cells #[.slice (some ⟨w3.heap.size+1,0,none⟩) x.hn x.hn] 32)).alloc (oQ4 x.pa x.pn x.pc x.sa x.sn x.sc x.wa x.wn x.wc x.ha x.hn x.hc)).heap.size=w3.heap.size+4:=by simp
 have z8:(((((w3.alloc (oQ4 pa Y.pn pc sa Y.sn sc wa Y.wn wc ha Y.hn hc)).alloc (.cells (madeCells #[.int .i64 0] x.hn) 3)).alloc (.cells #[.slice (some ⟨w3.heap.size+1,0,none⟩) x.hn x.hn] 32)).alloc (oQ4 x.pa x.pn x.pc x.sa x.sn x.sc x.wa x.wn x.wc x.ha x.hn x.hc)).alloc (oQ4 pa Y.pn pc sa Y.sn sc wa Y.wn wc ha Y.hn hc)).heap.size=w3.heap.size+5:=by simp
 have n5:=qj2 (w3.alloc (oQ4 pa Y.pn pc sa Y.sn sc wa Y.wn wc ha Y.hn hc)) x.hn (by omega);have n6:=qqm ((w3.alloc (oQ4 pa Y.pn pc sa Y.sn sc wa Y.wn wc ha Y.hn hc)).alloc (.cells (madeCells #[.int .i64 0] x.hn) 3)) (.slice (some ⟨w3.heap.size+1,0,none⟩) x.hn x.hn) 32;have n7:=(BoxC.new (((w3.alloc (oQ4 pa Y.pn pc sa Y.sn sc wa Y.wn wc ha Y.hn hc)).alloc (.cells (madeCells #[.int .i64 0] x.hn) 3)).alloc (.cells #[.slice (some ⟨w3.heap.size+1,0,none⟩) x.hn x.hn] 32)) (.slice x.pa x.pn x.pc) (.slice x.sa x.sn x.sc) (.slice x.wa x.wn x.wc) (.slice x.ha x.hn x.hc) 29).2.2.2;have n8:=(BoxC.new ((((w3.alloc (oQ4 pa Y.pn pc sa Y.sn sc wa Y.wn wc ha Y.hn hc)).alloc (.cells (madeCells #[.int .i64 0] x.hn) 3)).alloc (.cells #[.slice (some ⟨w3.heap.size+1,0,none⟩) x.hn x.hn] 32)).alloc (oQ4 x.pa x.pn x.pc x.sa x.sn x.sc x.wa x.wn x.wc x.ha x.hn x.hc)) (.slice pa Y.pn pc) (.slice sa Y.sn sc) (.slice wa Y.wn wc) (.slice ha Y.hn hc) 29).2.2.2;rw [z4] at n5 a5;rw [z5] at a6 n6;rw [z6] at a7 n7;rw [z7] at a8 n8;obtain ⟨A,C,hrA,hrE⟩:=leHv o3.h;have m38:Below w3.heap.size w3 (((((w3.alloc (oQ4 pa Y.pn pc sa Y.sn sc wa Y.wn wc ha Y.hn hc)).alloc (.cells (madeCells #[.int .i64 0] x.hn) 3)).alloc (.cells #[.slice (some ⟨w3.heap.size+1,0,none⟩) x.hn x.hn] 32)).alloc (oQ4 x.pa x.pn x.pc x.sa x.sn x.sc x.wa x.wn x.wc x.ha x.hn x.hc)).alloc (oQ4 pa Y.pn pc sa Y.sn sc wa Y.wn wc ha Y.hn hc)):=a4.trans ((a5.mono (by omega)).trans ((a6.mono (by omega)).trans ((a7.mono (by omega)).trans (a8.mono (by omega)))))
 have m58:Below (w3.heap.size+2) ((w3.alloc (oQ4 pa Y.pn pc sa Y.sn sc wa Y.wn wc ha Y.hn hc)).alloc (.cells (madeCells #[.int .i64 0] x.hn) 3)) (((((w3.alloc (oQ4 pa Y.pn pc sa Y.sn sc wa Y.wn wc ha Y.hn hc)).alloc (.cells (madeCells #[.int .i64 0] x.hn) 3)).alloc (.cells #[.slice (some ⟨w3.heap.size+1,0,none⟩) x.hn x.hn] 32)).alloc (oQ4 x.pa x.pn x.pc x.sa x.sn x.sc x.wa x.wn x.wc x.ha x.hn x.hc)).alloc (oQ4 pa Y.pn pc sa Y.sn sc wa Y.wn wc ha Y.hn hc)):=a6.trans ((a7.mono (by omega)).trans (a8.mono (by omega)));have m68:Below (w3.heap.size+3) (((w3.alloc (oQ4 pa Y.pn pc sa Y.sn sc wa Y.wn wc ha Y.hn hc)).alloc (.cells (madeCells #[.int .i64 0] x.hn) 3)).alloc (.cells #[.slice (some ⟨w3.heap.size+1,0,none⟩) x.hn x.hn] 32)) (((((w3.alloc (oQ4 pa Y.pn pc sa Y.sn sc wa Y.wn wc ha Y.hn hc)).alloc (.cells (madeCells #[.int .i64 0] x.hn) 3)).alloc (.cells #[.slice (some ⟨w3.heap.size+1,0,none⟩) x.hn x.hn] 32)).alloc (oQ4 x.pa x.pn x.pc x.sa x.sn x.sc x.wa x.wn x.wc x.ha x.hn x.hc)).alloc (oQ4 pa Y.pn pc sa Y.sn sc wa Y.wn wc ha Y.hn hc)):=a7.trans (a8.mono (by omega))
 have F8:Hid (Below w.heap.size w (((((w3.alloc (oQ4 pa Y.pn pc sa Y.sn sc wa Y.wn wc ha Y.hn hc)).alloc (.cells (madeCells #[.int .i64 0] x.hn) 3)).alloc (.cells #[.slice (some ⟨w3.heap.size+1,0,none⟩) x.hn x.hn] 32)).alloc (oQ4 x.pa x.pn x.pc x.sa x.sn x.sc x.wa x.wn x.wc x.ha x.hn x.hc)).alloc (oQ4 pa Y.pn pc sa Y.sn sc wa Y.wn wc ha Y.hn hc))/\OwnI (((((w3.alloc (oQ4 pa Y.pn pc sa Y.sn sc wa Y.wn wc ha Y.hn hc)).alloc (.cells (madeCells #[.int .i64 0] x.hn) 3)).alloc (.cells #[.slice (some ⟨w3.heap.size+1,0,none⟩) x.hn x.hn] 32)).alloc (oQ4 x.pa x.pn x.pc x.sa x.sn x.sc x.wa x.wn x.wc x.ha x.hn x.hc)).alloc (oQ4 pa Y.pn pc sa Y.sn sc wa Y.wn wc ha Y.hn hc)) (w3.heap.size+1) (.slice (some ⟨w3.heap.size+1,0,none⟩) x.hn x.hn) (List.replicate x.hn 0)/\(((((w3.alloc (oQ4 pa Y.pn pc sa Y.sn sc wa Y.wn wc ha Y.hn hc)).alloc (.cells (madeCells #[.int .i64 0] x.hn) 3)).alloc (.cells #[.slice (some ⟨w3.heap.size+1,0,none⟩) x.hn x.hn] 32)).alloc (oQ4 x.pa x.pn x.pc x.sa x.sn x.sc x.wa x.wn x.wc x.ha x.hn x.hc)).alloc (oQ4 pa Y.pn pc sa Y.sn sc wa Y.wn wc ha Y.hn hc)).cell? ⟨w3.heap.size+2,0,none⟩=some (.slice (some ⟨w3.heap.size+1,0,none⟩) x.hn x.hn)/\(((((w3.alloc (oQ4 pa Y.pn pc sa Y.sn sc wa Y.wn wc ha Y.hn hc)).alloc (.cells (madeCells #[.int .i64 0] x.hn) 3)).alloc (.cells #[.slice (some ⟨w3.heap.size+1,0,none⟩) x.hn x.hn] 32)).alloc (oQ4 x.pa x.pn x.pc x.sa x.sn x.sc x.wa x.wn x.wc x.ha x.hn x.hc)).alloc (oQ4 pa Y.pn pc sa Y.sn sc wa Y.wn wc ha Y.hn hc)).cell? ⟨w3.heap.size+3,3,none⟩=some (.slice x.ha x.hn x.hc)/\(((((w3.alloc (oQ4 pa Y.pn pc sa Y.sn sc wa Y.wn wc ha Y.hn hc)).alloc (.cells (madeCells #[.int .i64 0] x.hn) 3)).alloc (.cells #[.slice (some ⟨w3.heap.size+1,0,none⟩) x.hn x.hn] 32)).alloc (oQ4 x.pa x.pn x.pc x.sa x.sn x.sc x.wa x.wn x.wc x.ha x.hn x.hc)).alloc (oQ4 pa Y.pn pc sa Y.sn sc wa Y.wn wc ha Y.hn hc)).cell? ⟨w3.heap.size+4,3,none⟩=some (.slice ha Y.hn hc)):=
  ⟨b3.trans (m38.mono b3.size),n5.below (by rw [z5];exact m58),(m68.cell (p:=⟨w3.heap.size+2,0,none⟩) (by show w3.heap.size+2<w3.heap.size+3;omega)).trans n6,(a8.cell (p:=⟨w3.heap.size+3,3,none⟩) (by show w3.heap.size+3<w3.heap.size+4;omega)).trans n7,n8⟩
 have hF:Hid (∀ W',Kq (w3.heap.size+5) (w3.heap.size+1) (((((w3.alloc (oQ4 pa Y.pn pc sa Y.sn sc wa Y.wn wc ha Y.hn hc)).alloc (.cells (madeCells #[.int .i64 0] x.hn) 3)).alloc (.cells #[.slice (some ⟨w3.heap.size+1,0,none⟩) x.hn x.hn] 32)).alloc (oQ4 x.pa x.pn x.pc x.sa x.sn x.sc x.wa x.wn x.wc x.ha x.hn x.hc)).alloc (oQ4 pa Y.pn pc sa Y.sn sc wa Y.wn wc ha Y.hn hc)) W'->Hv.In ⟨x.ha,x.hn,x.hc,x.hA,x.hL,x.hC,x.hH⟩ W' (w3.heap.size+3)/\Hv.In ⟨ha,Y.hn,hc,A,Y.hL,C,Y.hH⟩ W' (w3.heap.size+4)):=fun W' hk=>by
  have hg:=HG.out.below (b3.trans ((m38.trans (hk.lo.mono (Nat.le_succ _))).mono b3.size));have h3:=m38.trans (hk.lo.mono (Nat.le_succ _));exact ⟨⟨(zH (hk.hi (w3.heap.size+3) (by omega) (by omega))).trans F8.2.2.2.1,hg.h,hg.hi⟩,⟨(zH (hk.hi (w3.heap.size+4) (by omega) (by omega))).trans F8.2.2.2.2,hrA.below h3,fun i hi=>(hrE i hi).below h3⟩⟩
 have hz:(((((w3.alloc (oQ4 pa Y.pn pc sa Y.sn sc wa Y.wn wc ha Y.hn hc)).alloc (.cells (madeCells #[.int .i64 0] x.hn) 3)).alloc (.cells #[.slice (some ⟨w3.heap.size+1,0,none⟩) x.hn x.hn] 32)).alloc (oQ4 x.pa x.pn x.pc x.sa x.sn x.sc x.wa x.wn x.wc x.ha x.hn x.hc)).alloc (oQ4 pa Y.pn pc sa Y.sn sc wa Y.wn wc ha Y.hn hc)).heap.size=w3.heap.size+5:=z8;have hwN:w.heap.size<w3.heap.size:=ln;clear a4 a5 a6 a7 a8 z4 z5 z6 z7 z8 n5 n6 n7 n8 hrA hrE m38 m58 m68 o3 q3 b3 ln;generalize (((((w3.alloc (oQ4 pa Y.pn pc sa Y.sn sc wa Y.wn wc ha Y.hn hc)).alloc (.cells (madeCells #[.int .i64 0] x.hn) 3)).alloc (.cells #[.slice (some ⟨w3.heap.size+1,0,none⟩) x.hn x.hn] 32)).alloc (oQ4 x.pa x.pn x.pc x.sa x.sn x.sc x.wa x.wn x.wc x.ha x.hn x.hc)).alloc (oQ4 pa Y.pn pc sa Y.sn sc wa Y.wn wc ha Y.hn hc))=W8 at *;generalize w3.heap.size=N at *;clear w3
 have hdd:∀ i,i<x.hn->∀ r,Al (x.hH i) (Y.hH i) (min (x.hL i) (Y.hL i)) r->x.hL i - r=x.hL i - Y.hL i:=fun i hi r a=>by
  obtain ⟨h1,h2,h3,-⟩:=HN.out;have h4:=(h3 i (by omega)).1;have h5:=a.le;by_cases h6:r<min (x.hL i) (Y.hL i)
  ·exact absurd (by rw [HH.out]) (a.ne h6)
  ·omega
 have hll:∀ i,i<x.hn->x.hL i<=1048576/\Y.hL i<=1048576:=fun i hi=>by
  obtain ⟨h1,h2,h3,-⟩:=HN.out;have h4:=h3 i (by omega);omega
 refine wpIn_rangeFunc_ownG (F:=Fence.wide) (n:=3) rfl (by omega) (gf:=47) (lb:=#[.pointer (some ⟨N+1+1+1,0,none⟩),.pointer (some ⟨N+1+1+1+1,0,none⟩)]) rfl trivial (enters_of Tryz.func47 (by kernel_rfl) rfl)
  (qpj 2 (by omega) (N+3) (N+4) (N+5) (N+1) ⟨x.ha,x.hn,x.hc,x.hA,x.hL,x.hC,x.hH⟩ ⟨ha,Y.hn,hc,A,Y.hL,C,Y.hH⟩ (by have:=HN.out;show x.hn<=Y.hn;omega) (by show x.hn<=1048576;omega) hll (fun i=>x.hL i - Y.hL i) hdd W8 (by omega) (by omega) hF.out) (fun h k=>h.trans k) (Kq.b (by omega) (by omega)) (Below.refl _ _) (fun _=>rfl)
  (fun pre W=>OwnI W (N+1) (.slice (some ⟨N+1,0,none⟩) x.hn x.hn) (upN x.hn pre)/\W.cell? ⟨N+1+1,0,none⟩=some (.slice (some ⟨N+1,0,none⟩) x.hn x.hn)/\Below w.heap.size w W)
  (fun _ _ _=>False) ?hI (fun _ _ _ _ _ hs _ _=>hs) ⟨F8.2.1,F8.2.2.1,F8.1⟩
  (fun z=>{ tmps:=#[x.v,.int .i64 p,.int .i64 k,.pointer (some ⟨w.heap.size,0,none⟩),undef,undef,.slice none 0 0,.pointer (some ⟨N,0,none⟩),.int .i64 0,.pointer (some ⟨N+1+1,0,none⟩),.int .i64 (z.1.val:Nat),.int .i64 (z.2:Nat),.tuple #[.agg #[.slice pa Y.pn pc,.slice sa Y.sn sc,.slice wa Y.wn wc,.slice ha Y.hn hc],.int .i64 0],.agg #[.slice x.pa x.pn x.pc,.slice x.sa x.sn x.sc,.slice x.wa x.wn x.wc,.slice x.ha x.hn x.hc],.int .i64 p,.int .i64 k,.tuple #[.agg #[.slice pa Y.pn pc,.slice sa Y.sn sc,.slice wa Y.wn wc,.slice ha Y.hn hc],.int .i64 0],.agg #[.slice pa Y.pn pc,.slice sa Y.sn sc,.slice wa Y.wn wc,.slice ha Y.hn hc],.int .i64 0,.int .i64 0,.bool false,undef,.pointer (some ⟨w.heap.size,3,none⟩),.slice x.ha x.hn x.hc,.int .i64 x.hn,.slice (some ⟨N+1,0,none⟩) x.hn x.hn,.agg #[.slice x.pa x.pn x.pc,.slice x.sa x.sn x.sc,.slice x.wa x.wn x.wc,.slice x.ha x.hn x.hc],.agg #[.slice pa Y.pn pc,.slice sa Y.sn sc,.slice wa Y.wn wc,.slice ha Y.hn hc],.func (.func 47) #[] #[.pointer (some ⟨N+1+1+1,0,none⟩),.pointer (some ⟨N+1+1+1+1,0,none⟩)],.int .i64 (z.1.val:Nat),.int .i64 (z.2:Nat),undef,undef,undef,undef,undef],defers:=[] }) ?assign ?body ?done ?stop
 case hI=>
  intro s A' B' row hs hg hr
  have hne:∀ j,j<W8.heap.size->some j≠row:=fun j hj e=>by
   have:=(hr j e.symm).1;omega
  exact ⟨hs.1.kept hg (.inr (hne (N+1) (by omega))),(zH (hg.block (N+1+1) (zJ A' _ hs.2.1) (hne _ (by omega)))).trans hs.2.1,ownFrom_below (β:=Unit) (Nat.le_refl _) (by omega) () A' B' row hs.2.2 hg hr⟩
 case assign=>
  intro l z W K hK
  gi_wp2
  exact hK
 case body=>
  rintro l pre z W ⟨ho,hc9,hBw⟩ _;have hz2:z.1.val<x.hn:=z.1.isLt;have hz1:((z.1.val:Nat):Int)<(x.hn:Int):=by omega
  have fr:∀ j,W.frozen? ⟨N+1,j,none⟩=false:=fun j=>by
   have h:=ho;unfold OwnI at h;rw [qil] at h;exact h.frozenAt j
  have ce:W.cell? ⟨N+1,z.1.val,none⟩=some (.int .i64 ((upN x.hn pre)[z.1.val]'(by rw [qil];exact hz2))):=by
   have h:=ho;unfold OwnI at h;rw [qil] at h;rw [h.cellAt z.1.val (by omega)];simp [qil]
  have lw:N+1<W.heap.size:=zJ W _ ce;have fz:=fr z.1.val
  gi_wp2
  have hs:∀ b,b≠N+1->(W.setCell ⟨N+1,z.1.val,none⟩ (.int .i64 (z.2:Nat))).heap[b]? = W.heap[b]?:=fun b hb=>zO W _ _ b hb;exact ⟨(KeepsOthers.setCell _ _ _).from _,⟨(Below.refl (N+1) W).setCell (p:=⟨N+1,z.1.val,none⟩) (Nat.le_refl _) _,fun b h1 _=>hs b (by omega)⟩,⟨by rw [qo2];exact (ho.set (qil pre).symm z.1.val (z.2:Int)).1,(zH (hs (N+1+1) (by omega))).trans hc9,hBw.setCell (p:=⟨N+1,z.1.val,none⟩) (by show w.heap.size<=N+1;omega) _⟩⟩
 case done=>
  rintro D ys W hD rfl ⟨ho,hc9,hBw⟩ hK
  gi_wp2
  refine ⟨by simp,.inl ⟨_,_,rfl,run_takeDeferred hK,?_⟩⟩
  have hu:upN x.hn (gnL x.hn (fun i=>x.hL i - Y.hL i) x.hn (Nat.le_refl _))=U:=by
   rw [qu1,HV.out];unfold udT;refine List.map_congr_left fun q hq=>?_;have hq':q<x.hn:=List.mem_range.1 hq;obtain ⟨h1,h2,h3,-⟩:=HN.out;have h4:=(h3 q (by omega)).1;rw [if_pos hq'];show ((x.hL q - Y.hL q:Nat):Int)=(x.hL q:Int) - (Y.hL q:Int);omega
  rw [<- hu];have hO:OwnI (W.putObj D (.deferred none)) (N+1) (.slice (some ⟨N+1,0,none⟩) x.hn x.hn) (upN x.hn (gnL x.hn (fun i=>x.hL i - Y.hL i) x.hn (Nat.le_refl _))):=ownsRow_putObj ho _ hK rfl;refine ⟨_,results_tmp rfl _ _ _,_,rfl,?_,hBw.trans (belowK_b (w:=w) (Nat.le_refl _) W D _ _ (by omega) hK rfl rfl)⟩;exact hO.mono (show w.heap.size<=N+1 by omega)
 case stop=>
  rintro D c pre W _ _ h _;exact h.elim
theorem qwm {x:SysIn} (hm:x.y.Sm) (p k:Int):(udS x.y p k).length<=16:=by
 unfold udS
 split
 ·rw [qkp]
  exact hm.n.2.2.2
 ·simp
theorem qhi (a0:Option Addr) (len cap:Nat) (w:World) (hl:len<=1048576) (hB:qbf w w.heap.size a0 len) (hV:w.cell? ⟨0,0,none⟩=some (.iface 181 (.agg #[.pointer (some ⟨1,126,none⟩)]))):
  Calls Tryz.prog 3 #[.slice a0 len cap] w fun e w'=>e=.returned (.bool true)/\Below w.heap.size w w':=by
 have HB:Hid (qbf w w.heap.size a0 len):=hB;have HV:Hid (∀ wx,Below w.heap.size w wx->wx.cell? ⟨0,0,none⟩=some (.iface 181 (.agg #[.pointer (some ⟨1,126,none⟩)]))):=fun wx hb=>(hb.cell (p:=⟨0,0,none⟩) (zJ w _ hV)).trans hV;have hlt:¬ (1048576:Int)<(len:Int):=by omega
 clear hB hV
 go_enter Tryz.func3,Tryz.ntmps3
 go_wp2_with fail
 refine (qgd a0 len cap w).mono ?_;rintro e w1 ⟨rfl,rfl⟩;rw [decide_eq_false (show ¬ (1048576:Int)<(len:Int) by omega)];go_wp2_with fail
 refine (qim w1.heap.size len cap a0 w1 HB.out (Nat.le_refl _) hl).mono ?_;rintro e w2 ⟨x,p,k,B,T,rfl,hm,hX,-,-,b2,hp,hk⟩;have HM:Hid (x.Len/\(∀ i,i<x.hn->x.hL i<=x.hC i)/\x.Nn false):=⟨hm.inLen,hX.cap,hX.nn⟩
 have K2:Hid (WJ w1 (w2.alloc (oQ4 x.pa x.pn x.pc x.sa x.sn x.sc x.wa x.wn x.wc x.ha x.hn x.hc)) w2.heap.size x):=⟨hX.self.below (zQ _ _),BoxC.new _ _ _ _ _ _,b2.trans ((zQ _ _).mono b2.size)⟩
 have h16:=qwm hm p k;have HSm:Hid (x.hn<=16/\∀ i,i<x.hn->x.hL i<=1000):=⟨hm.n.2.2.2,hm.h⟩
 clear hX b2 hm HB;obtain ⟨L,hL⟩:∃ L,udS x.y p k=L:=⟨_,rfl⟩
 rw [hL] at h16;have HD:Hid (udS x.y p k=L):=hL;clear hL;have hL16:(L.length:Int)<=16:=by omega
 go_wp2_with fail
 generalize w2.alloc (oQ4 x.pa x.pn x.pc x.sa x.sn x.sc x.wa x.wn x.wc x.ha x.hn x.hc)=W2 at *;generalize w2.heap.size=X at *;clear w2;refine (qis x p k W2 K2.out.g HM.1 HM.2.1 HM.2.2 (HV.out _ K2.out.be)).mono ?_;rintro e w3 ⟨u3,rfl,o3,d3⟩;rw [HD.out] at o3;obtain ⟨ag,cg,rfl,-⟩:=o3.form;have K3:Hid (WJ w1 w3 X x/\Sl w3 ag L):=⟨K2.out.below d3,OwnI.slOf o3⟩
 clear o3 d3 K2;obtain ⟨k0,k1,k2,k3⟩:=K3.1.bx;go_wp2_with fail
 clear k0 k1 k2 k3;refine (qiy x p k w3 K3.1.g HM.1 HM.2.1).mono ?_;rintro e w4 ⟨u4,rfl,o4,d4⟩;rw [HD.out] at o4;obtain ⟨aw,cw,rfl,-⟩:=o4.form;have K4:Hid (WJ w1 w4 X x/\Sl w4 ag L/\Sl w4 aw L):=⟨K3.1.below d4,K3.2.below d4,OwnI.slOf o4⟩
 clear o4 d4 K3;go_wp2_with fail
 refine (qd1 ag aw cg cw L w4 (by omega) K4.2.1 K4.2.2).mono ?_;rintro e w5 ⟨rfl,d5⟩;have K5:Hid (WJ w1 w5 X x/\Sl w5 ag L):=⟨K4.1.below d5,K4.2.1.below d5⟩
 clear d5 K4;obtain ⟨k0,k1,k2,k3⟩:=K5.1.bx;go_wp2_with fail
 clear k0 k1 k2 k3;refine (qbr x p k w5 K5.1.g HM.1 HM.2.1 HM.2.2 (HV.out _ K5.1.be)).mono ?_;rintro e w6 ⟨v6,rfl,o6,d6⟩;obtain ⟨x',rfl,ey,g6,-,-⟩:=o6.inJ;have K6:Hid (WJ w1 (w6.alloc (oQ4 x'.pa x'.pn x'.pc x'.sa x'.sn x'.sc x'.wa x'.wn x'.wc x'.ha x'.hn x'.hc)) X x/\WJ w1 (w6.alloc (oQ4 x'.pa x'.pn x'.pc x'.sa x'.sn x'.sc x'.wa x'.wn x'.wc x'.ha x'.hn x'.hc)) w6.heap.size x'/\Sl (w6.alloc (oQ4 x'.pa x'.pn x'.pc x'.sa x'.sn x'.sc x'.wa x'.wn x'.wc x'.ha x'.hn x'.hc)) ag L/\x'.y=bkY x.y p k):=⟨(K5.1.below d6).below (zQ _ _),⟨g6.below (zQ _ _),BoxC.new _ _ _ _ _ _,((K5.1.below d6).below (zQ _ _)).be⟩,(K5.2.below d6).below (zQ _ _),ey⟩
 clear o6 ey g6 d6 K5;obtain ⟨C,hC⟩:∃ C,bkC x.y p k=C:=⟨_,rfl⟩
 rw [hC];by_cases h0:C=0
 case neg=>
  have hL0:L=[]:=by
   rw [<- HD.out,udS,if_neg (by rw [hC];exact h0)]
  subst hL0;have h0':(C != 0)=true:=by simpa using h0
  have KB:Hid (Below w1.heap.size w1 (w6.alloc (oQ4 x'.pa x'.pn x'.pc x'.sa x'.sn x'.sc x'.wa x'.wn x'.wc x'.ha x'.hn x'.hc))):=K6.1.be;clear K6 HD HM hC;go_wp2;go_ret;exact ⟨rfl,KB.out⟩
 subst h0
 have HT:Hid (L.length=x.hn/\x'.hn=x.hn/\∀ q,q<x.hn->x'.hL q<=x.hL q/\zi L q=(x.hL q:Int) - (x'.hL q:Int)):=by
  obtain ⟨hO,h1,h2⟩:=qfk hC;have e:L=udT x.y (bkY x.y p k) x.y.hn:=by rw [<- HD.out,udS,if_pos hC]
  have hn:x.y.hn=x.y.pn:=hO.cn.2.2.1;have ey:=K6.2.2.2;refine ⟨by rw [e,qkp];rfl,by show x'.y.hn=x.y.hn;rw [ey,h1,hn],fun q hq=>⟨by show x'.y.hL q<=x.y.hL q;rw [ey];exact h2 q (by rw [<- hn];exact hq),?_⟩⟩;rw [e,<- ey];unfold zi udT;have hq':q<x.y.hn:=hq;simp [List.getD_eq_getElem?_getD,hq'];rfl
 clear HD HM hC;go_upto_region 10 with fail
 generalize w6.alloc (oQ4 x'.pa x'.pn x'.pc x'.sa x'.sn x'.sc x'.wa x'.wn x'.wc x'.ha x'.hn x'.hc)=W6 at *;generalize w6.heap.size=Y at *;clear w6;have K7:Hid (WJ w1 W6 X x/\WJ w1 W6 Y x'/\Sl W6 ag L):=⟨K6.1,K6.2.1,K6.2.2.1⟩
 clear K6;go_wp2_with fail
 go_loopw [9] (fun i wr=>∃ q:Nat,q<=L.length/\i=.int .i64 q/\Hid (WJ w1 wr X x/\WJ w1 wr Y x'/\Sl wr ag L)) (fun i _=>L.length - (intOf i).toNat)
 case atStart=>exact ⟨0,Nat.zero_le _,rfl,K7.out⟩
 case round=>
  obtain ⟨q,hq,rfl,HK⟩:=hrel;by_cases hlt:q<L.length
  ·have hlt':(q:Int)<(L.length:Int):=by omega
   have hqx:q<x.hn:=by have:=HT.1;omega
   have hqx':(q:Int)<(x.hn:Int):=by omega
   have hqy:q<x'.hn:=by have:=HT.2.1;omega
   have hqy':(q:Int)<(x'.hn:Int):=by omega
   obtain ⟨c,o,rfl,lc,cc⟩:=HK.2.2.at hlt;obtain ⟨b,off,ea,cb⟩:=HK.1.g.h.at hqx;obtain ⟨b',off',ea',cb'⟩:=HK.2.1.g.h.at hqy;have cb:wr.cell? ⟨b,off+q,none⟩=some (.slice (x.hA q) (x.hL q) (x.hC q)):=cb;have cb':wr.cell? ⟨b',off'+q,none⟩=some (.slice (x'.hA q) (x'.hL q) (x'.hC q)):=cb';obtain ⟨k0,k1,k2,k3⟩:=HK.1.bx;obtain ⟨y0,y1,y2,y3⟩:=HK.2.1.bx;rw [ea] at k3;rw [ea'] at y3;obtain ⟨t1,t2⟩:=HT.2.2 q hqx;have t3:=HSm.2 q hqx;rw [t2] at cc;generalize x'.hL q=a at *;generalize x.hL q=d at *;have n0:¬ ((d:Int) - (a:Int)<0):=by omega
   have n1:(d:Int) - (a:Int)+(a:Int)=(d:Int):=by omega
   have hd:(d:Int)<=1000:=by omega
   have ha:(a:Int)<=(d:Int):=by omega
   clear ea ea' t1 t2 t3
   have hwd:(IntKind.i64.wrap (d:Int) != (d:Int))=false:=by
    have e1:IntKind.i64.wrap (d:Int)=d:=by rw [IntKind.wrap_i64];omega
    rw [e1];simp
   go_wp2_with fail
   go_quiet (fail)
   go_wp2;go_roundw
   case rel=>exact ⟨q+1,by omega,by go_num,HK.1.below (yE (Below.refl _ _) _),HK.2.1.below (yE (Below.refl _ _) _),HK.2.2.below (yE (Below.refl _ _) _)⟩
   case measure=>simp [intOf];omega
  ·obtain ⟨k0,k1,k2,k3⟩:=HK.1.bx
   have hel:(L.length:Int)=(x.hn:Int):=by have:=HT.1;omega
   go_wp2;go_ret;exact ⟨rfl,HK.1.be⟩
theorem qhh (a0:Option Addr) (len cap:Nat) (w:World) (_hm:len<=maxLen) (hl:1048576<len):
  Calls Tryz.prog 3 #[.slice a0 len cap] w fun e w'=>e=.returned (.bool true)/\Below w.heap.size w w':=by
 go_enter Tryz.func3,Tryz.ntmps3
 go_wp2_with fail
 refine (qgd a0 len cap w).mono ?_;rintro e w1 ⟨rfl,rfl⟩;rw [decide_eq_true (show (1048576:Int)<(len:Int) by omega)];go_wp2;go_ret;exact ⟨rfl,Below.refl _ _⟩
theorem qkq (os:Os) (started:os.Started) (H:Type) (enc:TypeId × Value->H):
  ReturnsInHanded {} Tryz.checked os 3 .any (fun w args => (Rows.fnUndoneSpec.pre enc Tryz.prog Tryz.f3 [] false w args /\ laidMetH Tryz.prog [("errors.errorType", Rows.laid_errors_errorType)] w) /\ sizedMet enc Tryz.prog Tryz.f3 (OpenSpec.ofChange Rows.fnUndoneSpec) false w args)
   (Rows.fnUndoneSpec.post enc Tryz.prog Tryz.f3 false true false false):=by
 refine returnsInHanded_of_change_and (C := Tryz.checked) (X := fun w _ => laidMetH Tryz.prog [("errors.errorType", Rows.laid_errors_errorType)] w) (fun _ _ _ hh h => h.of_heap hh) Tryz.own started (by kernel_rfl) Tryz.func3
  (ChangeSpec.witness_at (enc := enc) (C := Tryz.checked) (os := os) (X := fun w _ => laidMetH Tryz.prog [("errors.errorType", Rows.laid_errors_errorType)] w) false (qfx os) #[.slice none 0 0] 8 rfl (by kernel_rfl) (by kernel_rfl) (by kernel_rfl) (by kernel_rfl) (by kernel_rfl) (qdw os _)) ?_
 intro W base args ds gs before hval0 hW _ _ hL _;have hval:∀ (j:Nat) t v,Tryz.f3.params[j]? = some t->args[j]? = some v->Value.okWide Tryz.prog W .any base t v:=hval0;have hW':=hW;obtain ⟨p,q,hA0,hV,rfl,hfz,hnd⟩:=hW;have hA:DataW.TrodAll enc Tryz.prog W 0 (fun _=>true) true Tryz.f3.params.toList args.toList ds p:=hA0;rw [Tryz.params3] at hA hval;obtain ⟨v0,d0,rfl,rfl,h0⟩:=trodAll_one hA;obtain ⟨rfl,rfl⟩:=trodVars_none hV;have lt0:∀ x ∈ p,x.block<W.heap.size:=by obtain ⟨m,hm⟩:=h0;exact DataW.trod_lt m _ _ _ hm
 have hg:=qdf hL;clear hA0 hval0
 have hlaw:Calls Tryz.prog 3 #[v0] W fun e w'=>e=.returned (.bool true)/\Below W.heap.size W w':=by
  obtain ⟨a0,len,cap,rfl⟩:=okWide_slice Tryz.underlying22 (hval 0 22 v0 rfl rfl);obtain ⟨hm,hB⟩:=qgp h0;by_cases hs:len<=1048576
  ·exact qhi a0 len cap W hs hB hg
  ·exact qhh a0 len cap W hm (by omega)
 refine hlaw.mono fun e W' ⟨he,bel⟩=>?_;subst he;exact ⟨_,rfl,_,_,_,[],_,[],hW',trodAll_mk1 (shut_bool Tryz.underlying4 _),trodAll_mk1 (Below.trod Tryz.laidOut (by kernel_rfl) (of_decide_eq_true (by kernel_rfl)) h0 bel lt0),rfl,bel.frame _,fun h=>by cases h⟩
theorem qnx:Rows.FnUndoneSaid:=
 OpenClaim.holds_of_wide 3 Tryz.f3 rfl rfl rfl rfl rfl rfl rfl ⟨rfl,rfl,rfl,rfl,rfl⟩ rfl rfl rfl rfl rfl (by kernel_rfl) Tryz.func3 (by kernel_rfl)
  (of_decide_eq_true (by kernel_rfl)) (by unfold Func.isWrapper;first|(rw [if_pos (by decide +kernel)];kernel_rfl)|(rw [if_neg (by decide +kernel)];exact ⟨rfl,rfl⟩))
  (fun os started H enc _=>qkq os started H enc)
theorem ql9 (f : FuncId) (fn : Func) (hf : Tryz.pinned.checked.prog.funcNamed "loop.example/g00196/laws.FnUndone" = some f) (hfn : Tryz.pinned.checked.prog.funcs[f]? = some fn) :
  true=Tryz.pinned.checked.prog.looks []/\∀ (j:Nat) t,fn.params[j]? = some t->Tryz.pinned.checked.prog.wantsStandIn t=false:=by
 obtain rfl : f = 3 := Option.some.inj ((show Tryz.prog.funcNamed "loop.example/g00196/laws.FnUndone" = some 3 by kernel_rfl).symm.trans hf) |>.symm
 obtain rfl:fn=Tryz.f3:=(Option.some.inj (Tryz.func3.symm.trans hfn)).symm;refine ⟨by kernel_rfl,fun j t ht=>?_⟩;rw [Tryz.params3] at ht;have hm:=Array.mem_of_getElem? ht;simp at hm;obtain rfl:=hm;exact (show Tryz.prog.wantsStandIn 22=false by kernel_rfl)
theorem undoneD_card:Rows.FnUndoneCardSaid:=
 Claim7.holds_tied_plain_at .later [] _ _ _ _ qnx (fun _ h=>by cases h) (by kernel_rfl) (fun _ h=>by cases h) fnUndone_row_tie rfl ⟨rfl,rfl⟩ (by kernel_rfl) rfl ql9 (by kernel_rfl)
