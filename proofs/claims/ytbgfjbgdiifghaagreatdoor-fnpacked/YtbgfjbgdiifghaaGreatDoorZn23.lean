import Derived.Test.YtbgfjbgdiifghaaGreatDoorZn21
import Derived.Test.YtbgfjbgdiifghaaGreatDoorZn22
namespace Go.Proofs.YtbgfjbgdiifghaaGreatDoor
open Go.Proofs.Tryz
set_option maxRecDepth 100000
set_option maxHeartbeats 4000000
open Go.RowKit Go.Deep
structure DrM (w wr:World) (W0 len cap:Nat) (a0:Option Addr) (c:Nat) (v:Value) (k:Nat):Prop where
 ll:∃ u L H,LI true wr (fun b=>w.heap.size<=b) v k u L H/\∀ i,i<k->L i<=31
 cu:Cur wr W0 c a0 len cap
 gr:w.grownBy wr (some c)
 nn:v≠nS
theorem DrM.start {w wr:World} {W0 len cap c:Nat} {a0:Option Addr} (hc:Cur wr W0 c a0 len cap) (hg:w.grownBy wr (some c)):DrM w (wr.alloc (.cells #[] 42)) W0 len cap a0 c (sG wr.heap.size 0 0) 0:=
 ⟨⟨fun _=>.slice none 0 0,fun _=>0,fun _ _=>⟨0,0,0,0,0⟩,LL.new _ _ _ _ _ hg.size _ _ _,fun i hi=>by omega⟩,hc.alloc _,hg.andThen (World.grownBy_alloc _ _ none) (fun j hj=>by cases hj),fun e=>by cases e⟩
theorem DrM.push {w wr w1 w2:World} {W0 len cap c k m:Nat} {a0:Option Addr} {v v' x:Value} {u:Nat->Value} {L:Nat->Nat} {H:Nat->Nat->I5} (hl:LI true wr (fun b=>w.heap.size<=b) v k u L H) (h31:∀ i,i<k->L i<=31) (g0:w.grownBy wr (some c)) (hc0:c<w.heap.size) (g1:wr.grownBy w1 (some c)) (hc1:Cur w1 W0 c a0 len cap) (hx:Lst w1 wr.heap.size x m) (hm:m<=31) (hne:x≠nS)
  (hv:w2.ownsRow 0 42 1 v' (k+1) ((List.range k).map u ++ [x])) (g2:w1.grownBy w2 v.ownBlock) (hv':∀ j,v'.ownBlock=some j->v.ownBlock=some j\/w1.heap.size<=j) (hn':v'≠nS):DrM w w2 W0 len cap a0 c v' (k+1):=by
 obtain ⟨G,hG⟩:=hx.known;have hvb:∀ j,v.ownBlock=some j->w.heap.size<=j:=hl.rb;have hsz:=g0.size;refine ⟨⟨_,fun j=>if j=k then m else L j,fun j=>if j=k then G else H j,(LL.ext (L':=fun j=>if j=k then m else L j) (c':=fun i=>fI (if i=k then G else H i) (if i=k then m else L i)) hl fun i hi=>?_).pushG g1.size (fun b hb hlt=>g1.block b hlt (by simp;omega)) ?_ (fun _=>hne) hv g2 hv' (fun b hb _=>hb) (fun b hb _=>by omega),fun i hi=>?_⟩,hc1.kept g2 (fun e=>?_) (fun j hj=>?_),(g0.trans g1).andThen g2 (fun j hj=>.inl ?_),hn'⟩
 ·simp only [nB (show ¬ i=k by omega),and_self]
 ·simp only [if_true]
  exact hG
 ·show (if i=k then m else L i)<=31
  by_cases e:i=k
  ·rw [nC e]
   exact hm
  ·rw [nB e]
   exact h31 i (by omega)
 ·have:=hvb c e.symm
  omega
 ·have:=hvb j hj
  have:=hc1.ge;omega
 ·have:=hvb j hj
  omega
theorem qk9 {ops:Array Oper} {rest:List Oper} {op:Oper} {act:Act} {Q:Exit->Act->World->Prop} {w wr:World} (w1:World) {W0 len cap c k m N:Nat} {a0:Option Addr} {v y:Value} (hN:N=w1.heap.size) (hgd:op.guard=none) (s x:Operand)
  (ho:op.op=.call { callee:=.builtin .append,args:=#[s,x],argTypes:=#[24,24] }) (hs:act.eval s=v) (hxv:act.eval x=.slice (some (aQ N 0)) 1 1)
  (DR:DrM w wr W0 len cap a0 c v k) (hW:c<w.heap.size) (hk:k<=5) (g1:wr.grownBy w1 (some c)) (hc1:Cur w1 W0 c a0 len cap) (hx:Lst w1 wr.heap.size y m) (hm:m<=31) (hne:y≠nS)
  (h:∀ v' w',DrM w w' W0 len cap a0 c v' (k+1)->wpList prog ops Q rest (act.put op.dst v') w'):
  wpList prog ops Q (op :: rest) act (w1.alloc (.cells #[y] 42)):=by
 obtain ⟨u,L,H,hl,h31⟩:=DR.ll
 have hone:∀ z ∈ (#[y]:Array Value).toList,z.oneCell'=true:=by
  intro z hz;simp at hz;rw [hz];obtain ⟨xs,ho,_⟩:=hx
  rcases ho.2 with ⟨e,_⟩ | ⟨g,cp,cur,e,_⟩
  ·exact absurd e hne
  ·rw [e]
   rfl
 refine qai qqk w1 hN hgd s x ho 0 v k ((List.range k).map u) hs (qas hl.row fun b hb=>g1.block b (hl.row.lt b hb).2 (by have:=hl.rb b hb;simp;omega)) #[y] hxv rfl hone (by omega) (nD _) ?_;intro v' w' o g hv' hn';exact h v' w' (DrM.push hl h31 DR.gr hW g1 hc1 hx hm hne o g hv' hn')
theorem DK.weak {w wr:World} {W0 c:Nat} {a0:Option Addr} {len cap B B' T T':Nat} {y:Sy} {v:Value} (h:DK w wr W0 c a0 len cap B T y v) (hB:B'<=B) (hc:c<B') (hT:T<=T'):DK w wr W0 c a0 len cap B' T' y v:=⟨h.cu,(h.sy.base hB).top hT,h.gr,hc⟩
theorem qu5 (n:Nat) (L:Nat->Nat) (H:Nat->Nat->I5):(nwY (nwN n L H) L H).Good:=by
 unfold nwN;by_cases h:snB n L H=true
 ·rw [nC h]
  simp only [snB,nH] at h;exact .inl (Sy.ok_of h.2)
 ·rw [nB h]
  exact .inr ⟨rfl,rfl,rfl,rfl⟩
theorem NwR.form {w w':World} {n:Nat} {L:Nat->Nat} {H:Nat->Nat->I5} {e:Ending} (h:NwR w n L H e w'):∃ pa sa wa ha pc sc wc hc,∃ (Y:Sy) (b:Bool),e=.returned (.tuple #[sysV pa Y.pn pc sa Y.sn sc wa Y.wn wc ha Y.hn hc,.bool b])/\Y.Good/\SysT w' w.heap.size w'.heap.size Y (sysV pa Y.pn pc sa Y.sn sc wa Y.wn wc ha Y.hn hc)/\Bw w w':=by
 obtain ⟨pa,pc,sa,sc,wa,wc,ha,hc,rfl,o,b⟩:=h;exact ⟨pa,sa,wa,ha,pc,sc,wc,hc,nwY (nwN n L H) L H,snB n L H,rfl,qu5 n L H,o.sysT,b⟩
theorem qj6 (W0 c len cap:Nat) (a0:Option Addr) (w:World) (hc:Cur w W0 c a0 len cap):
  Calls prog 102 #[.pointer (some (aQ c 0))] w fun e w'=>∃ pa sa wa ha pc sc wc hc y,e=.returned (sysV pa y.pn pc sa y.sn sc wa y.wn wc ha y.hn hc)/\y.Good/\DK w w' W0 c a0 len cap w.heap.size w'.heap.size y (sysV pa y.pn pc sa y.sn sc wa y.wn wc ha y.hn hc):=by
 have hcl:c<w.heap.size:=hc.lt;have hcg:W0<=c:=hc.ge;have C0:Hid (Cur (w.alloc (zQ3)) W0 c a0 len cap/\w.grownBy (w.alloc (zQ3)) (some c)/\BoxC (w.alloc (zQ3)) w.heap.size nS nS nS nS/\(∀ j,(w.alloc (zQ3)).frozen? ⟨w.heap.size,j,none⟩=false)/\(w.alloc (zQ3)).heap.size=w.heap.size+1):=⟨hc.alloc _,World.grownBy_alloc _ _ _,BoxC.new w _ _ _ _ _,fun j=>yB _ _ _ _ rfl,by simp⟩
 clear hc
 go_enter func102,ntmps102
 go_wp2_with fail
 generalize w.alloc (zQ3)=W2 at *;refine (zY W0 c len cap a0 4 W2 C0.1 (by omega) (by omega)).mono ?_;rintro e w1 ⟨z,rfl,⟨z0,z1⟩,hc1,hg1⟩;have D1:Hid (DrM W2 (w1.alloc (.cells #[] 42)) W0 len cap a0 c (sG w1.heap.size 0 0) 0):=DrM.start hc1 hg1;obtain ⟨n,hn,hn4⟩:∃ n:Nat,1+z=(n:Int)/\n<=4:=⟨(1+z).toNat,by omega,by omega⟩
 have hn4':(n:Int)<=4:=by omega
 clear hc1 hg1;go_wp2_with fail
 clear hn z0 z1;generalize w1.alloc (.cells #[] 42)=W3 at *
 go_loopw [4,5] (fun out i wr=>∃ k:Nat,k<=n/\i=.int .i64 k/\Hid (DrM W2 wr W0 len cap a0 c out k)) (fun _ i _=>n - (intOf i).toNat)
 case atStart=>exact ⟨0,nD _,rfl,D1.out⟩
 case round=>
  clear D1;obtain ⟨k,hk,rfl,HR⟩:=hrel;by_cases hlt:k<n
  ·have hlt':(k:Int)<(n:Int):=by omega
   go_wp2_with fail
   refine (qe7 W0 c len cap a0 n k wr HR.cu (by omega) hlt' hn4').mono ?_;rintro e w5 ⟨x5,m5,rfl,⟨m50,m51⟩,hx5,hc5,hg5⟩
   obtain ⟨xa,xc,ex5⟩:∃ xa xc,x5=.slice xa m5 xc:=by
    obtain ⟨xs,ho,_⟩:=hx5;obtain ⟨a,cc,e⟩:=zU ho;exact ⟨a,cc,e⟩
   have hne5:x5≠.slice none 0 0:=fun e=>by
    rw [ex5] at e;simp only [Value.slice.injEq] at e;omega
   subst ex5;have H5:Hid (Lst w5 wr.heap.size (.slice xa m5 xc) m5/\m5<=31/\Value.slice xa m5 xc≠nS/\Cur w5 W0 c a0 len cap/\wr.grownBy w5 (some c)/\k<=5/\c<W2.heap.size):=⟨hx5,by omega,hne5,hc5,hg5,by omega,by rw [C0.2.2.2.2];omega⟩
   clear hx5 m50 m51 hne5 hc5 hg5;go_wp2_with (at_builtin;refine qk9 w5 rfl rfl _ _ rfl rfl rfl HR.out H5.2.2.2.2.2.2 H5.2.2.2.2.2.1 H5.2.2.2.2.1 H5.2.2.2.1 H5.1 H5.2.1 H5.2.2.1 ?_;intro v' w6 d6;have D6:Hid (DrM W2 w6 W0 len cap a0 c v' (k+1)):=d6;clear d6)
   go_roundw
   case rel=>exact ⟨k+1,by omega,by go_num,D6.out⟩
   case measure=>simp [intOf];omega
  ·have hkn:k=n:=by omega
   have hD:=HR.out;rw [hkn] at hD;have HD:Hid (DrM W2 wr W0 len cap a0 c u4 n):=hD;clear hD HR;obtain ⟨⟨u,L,H,hl,h31⟩,hcu,hgr,hnn⟩:=HD.out;have hrow:=qde hl
   obtain ⟨g,pc,cur,eu,-⟩:∃ g pc cur,u4=.slice (some (aQ g 0)) n pc/\cur=(0:Nat):=by
    rcases hl.row.2 with ⟨e,_⟩ | ⟨g,pc,cur,e,_⟩
    ·exact absurd e hnn
    ·exact ⟨g,pc,0,e,rfl⟩
   subst eu
   have HN:Hid (∀ wx,wx=wr->Calls prog 34 #[.slice (some ⟨g,0,none⟩) n pc] wx (NwR wx n L H)):=fun wx e=>by
    subst e
    exact qfb (some (aQ g 0)) n pc (fun i=>adOf (u i)) L (fun i=>cpOf (u i)) H _ (by omega) (fun i hi=>by have:=h31 i hi;omega) hrow fun i hi=>by
     obtain ⟨b,cap,e2,hb,hI,-⟩:=atI (hl.own i hi) (hl.nn nzI i hi);rw [e2];exact srcI hb hI
   have hblk:wr.heap[w.heap.size]? = W2.heap[w.heap.size]?:=hgr.block _ (by rw [C0.2.2.2.2];omega) (by simp;omega)
   have B5:Hid (w.grownBy wr (some c)/\Cur wr W0 c a0 len cap/\BoxC wr w.heap.size nS nS nS nS/\(∀ j,wr.frozen? ⟨w.heap.size,j,none⟩=false)/\w.heap.size<wr.heap.size):=by
    obtain ⟨h0,h1,h2,h3⟩:=C0.2.2.1;exact ⟨C0.2.1.trans hgr,hcu,⟨(zH hblk).trans h0,(zH hblk).trans h1,(zH hblk).trans h2,(zH hblk).trans h3⟩,fun j=>(zI hblk).trans (C0.2.2.2.1 j),by have:=hgr.size;have:=C0.2.2.2.2;omega⟩
   clear hl h31 hcu hgr hnn hrow hblk C0 HD hkn;go_wp2_with fail
   refine (HN.out _ rfl).mono ?_;rintro e w6 h6;obtain ⟨pa,sa,wa,ha,pc6,sc,wc,hc6,Y,bb,rfl,hY,o6,q6⟩:=h6.form;have K6:Hid (DK w w6 W0 c a0 len cap wr.heap.size w6.heap.size Y (sysV pa Y.pn pc6 sa Y.sn sc wa Y.wn wc ha Y.hn hc6)):=⟨B5.2.1.kept (zZ q6) (by simp) (fun k hk=>by cases hk),o6,B5.1.andThen (zZ q6) (fun j hj=>by cases hj),by have:=B5.2.2.2.2;omega⟩
   have B6:Hid (BoxC w6 w.heap.size nS nS nS nS/\(∀ j,w6.frozen? ⟨w.heap.size,j,none⟩=false)/\w.heap.size<wr.heap.size/\wr.heap.size<=w6.heap.size):=⟨B5.2.2.1.bw q6,fun j=>((qal q6).2 _ j B5.2.2.2.2).trans (B5.2.2.2.1 j),B5.2.2.2.2,q6.size⟩
   have HG:Hid Y.Good:=hY;clear h6 hY o6 q6 B5 HN;obtain ⟨⟨r0,r1,r2,r3⟩,rf,lw,lr⟩:=B6.out;have l6:w.heap.size<w6.heap.size:=by omega
   have hcN:c≠w.heap.size:=by omega
   have hcM:c≠w6.heap.size:=by omega
   go_wp2;refine bodyPost_ret (v:=sysV pa Y.pn pc6 sa Y.sn sc wa Y.wn wc ha Y.hn hc6) (by simp [results,results102,go_sem,r0,r1,r2,r3,l6]) rfl ⟨pa,sa,wa,ha,pc6,sc,wc,hc6,Y,rfl,HG.out,DK.weak (B:=wr.heap.size) (T:=w6.heap.size) ?_ (by omega) hcl (by simp)⟩
   repeat (first | exact K6.out | (refine DK.alloc ?_ _)|(refine DK.set ?_ (by first | omega | simp) (by first | omega | simp) (by first | omega | simp) (by omega) _ _))
theorem qvc (y:Sy) (p:Int):(rdQ y p).length<=4:=by
 unfold rdQ
 split
 ·rename_i h
  have h4:=(Sy.ok_of h.1).cn.1;refine zP (qpn _ _) ?_;unfold chS
  split <;> omega
 ·simp
structure DP (w wr:World) (x:SysIn):Prop where
 bx:x.bX wr w.heap.size
 p0:wr.cell? ⟨w.heap.size+1,0,none⟩=some (iV 0)
 p1:wr.cell? ⟨w.heap.size+1,1,none⟩=some (iV 0)
 fr:∀ j,wr.frozen? ⟨w.heap.size+1,j,none⟩=false
theorem DP.blk {w wr w':World} {x:SysIn} (h:DP w wr x) (h0:w'.heap[w.heap.size]? = wr.heap[w.heap.size]?) (h1:w'.heap[w.heap.size+1]? = wr.heap[w.heap.size+1]?):DP w w' x:=by
 obtain ⟨⟨b0,b1,b2,b3⟩,p0,p1,fr⟩:=h;exact ⟨⟨(zH h0).trans b0,(zH h0).trans b1,(zH h0).trans b2,(zH h0).trans b3⟩,(zH h1).trans p0,(zH h1).trans p1,fun j=>(zI h1).trans (fr j)⟩
theorem DP.lt {w wr:World} {x:SysIn} (h:DP w wr x):w.heap.size+1<wr.heap.size:=zJ wr _ h.p0
theorem DP.bw {w wr w':World} {x:SysIn} (h:DP w wr x) (hb:Bw wr w'):DP w w' x:=h.blk (hb.block _ (by have:=h.lt;omega)) (hb.block _ h.lt)
theorem DP.draw {w wr w':World} {x:SysIn} {c:Nat} (h:DP w wr x) (hg:wr.grownBy w' (some c)) (hc:c<w.heap.size):DP w w' x:=h.blk (hg.block _ (by have:=h.lt;omega) (by simp;omega)) (hg.block _ h.lt (by simp;omega))
theorem qix (W0 c len cap B T:Nat) (a0:Option Addr) (y:Sy) (v:Value) (w:World) (hy:y.Sm) (hc:Cur w W0 c a0 len cap) (hs:SysT w B T y v) (hT:T<=w.heap.size) (hB:c<B):
  Calls prog 103 #[.pointer (some (aQ c 0)),v] w fun e w'=>∃ p q:Int,e=.returned (.agg #[iV p,iV q])/\DK w w' W0 c a0 len cap B T y v:=by
 obtain ⟨x,rfl,rfl,hX⟩:=hs.x;have hcl:c<w.heap.size:=hc.lt;have hcg:W0<=c:=hc.ge;have hpn:x.pn<=16:=hy.n.1;have hpn':(x.pn:Int)<=16:=by omega
 have HL:Hid x.Len:=hy.inLen;have HK:Hid ((∀ w',Abv c w w'->SysG w' x)/\∀ i,i<x.hn->x.hL i<=x.hC i):=⟨fun w' h=>hX.abv hB h,hX.cap⟩
 have K0:Hid (DK w ((w.alloc (x.oX)).alloc (.cells #[iV 0,iV 0] 151)) W0 c a0 len cap B T x.y x.v/\DP w ((w.alloc (x.oX)).alloc (.cells #[iV 0,iV 0] 151)) x/\Abv c w ((w.alloc (x.oX)).alloc (.cells #[iV 0,iV 0] 151))):=by
  have k0:DK w w W0 c a0 len cap B T x.y x.v:=⟨hc,hs,World.grownBy.refl _ _,hB⟩
  refine ⟨(k0.alloc _).alloc _,⟨(BoxC.new w _ _ _ _ _).bw (zQ _ _),zW _ _ _ 0 (by simp),zW _ _ _ 1 (by simp),fun j=>yB _ _ _ _ (by simp)⟩,(Abv.bw (zQ _ _)).trans (Abv.bw (zQ _ _))⟩
 clear hc hs hX hy
 go_enter func103,ntmps103
 go_upto_region 1 with fail
 generalize (w.alloc (x.oX)).alloc (.cells #[iV 0,iV 0] 151)=W2 at *;obtain ⟨b0,-,-,-⟩:=K0.2.1.bx;go_wp2_with fail
 refine (ql7 _ _ _).mono ?_;rintro e w1 ⟨n,rfl,⟨n1,n2,n3⟩,rfl⟩;clear b0;have hn16:n<=16:=by omega
 go_wp2_with fail
 refine (zY W0 c len cap a0 n w1 K0.1.cu n2 (by omega)).mono ?_;rintro e w2 ⟨p,rfl,⟨p0,p1⟩,hc2,hg2⟩;have K2:Hid (DK w w2 W0 c a0 len cap B T x.y x.v/\DP w w2 x/\Abv c w w2):=⟨K0.1.draw hc2 hg2,K0.2.1.draw hg2 hcl,K0.2.2.trans (Abv.grown hg2)⟩
 clear hc2 hg2 K0;obtain ⟨b0,b1,b2,b3⟩:=K2.2.1.bx;go_wp2_with fail
 refine (qkv x p w2 (HK.1 w2 K2.2.2) HL.out HK.2).mono ?_;rintro e w3 ⟨u3,rfl,o3,q3⟩;obtain ⟨ra,rc,rfl,rsl⟩:=o3.form;have hr4:=qvc x.y p;generalize rdQ x.y p=R at *;have hr4':(R.length:Int)<=4:=by omega
 have K3:Hid (DK w w3 W0 c a0 len cap B T x.y x.v/\DP w w3 x/\OwnI w3 w2.heap.size (.slice ra R.length rc) R):=⟨K2.1.bw q3,K2.2.1.bw q3,o3⟩
 have LT2:Hid (w.heap.size+1<w2.heap.size):=K2.2.1.lt;clear b0 b1 b2 b3 o3 q3 K2 rsl;by_cases h0:R.length=0
 ·have h0':¬ (0:Int)<(R.length:Int):=by omega
  go_wp2_with fail
  refine (zY W0 c len cap a0 (n+1) w3 K3.1.cu (by omega) (by omega)).mono ?_;rintro e w4 ⟨q,rfl,⟨q0,q1⟩,hc4,hg4⟩;have K4:Hid (DK w w4 W0 c a0 len cap B T x.y x.v/\DP w w4 x):=⟨K3.1.draw hc4 hg4,K3.2.1.draw hg4 hcl⟩
  clear hc4 hg4 K3;obtain ⟨-,z0,z1,zf⟩:=K4.2;go_wp2;refine bodyPost_ret (v:=.agg #[iV p,iV q]) (by simp [results,results103,go_sem,z0,z1]) rfl ⟨p,q,rfl,?_⟩;exact (K4.1.set (by omega) (by omega) (by omega) (by omega) _ _).set (by omega) (by omega) (by omega) (by omega) _ _
 ·have h0':(0:Int)<(R.length:Int):=by omega
  go_wp2_with fail
  refine (qb3 W0 c len cap a0 9 w3 K3.1.cu (by omega) (by omega)).mono ?_;rintro e w4 ⟨t,rfl,hc4,hg4⟩;have K4:Hid (DK w w4 W0 c a0 len cap B T x.y x.v/\DP w w4 x/\OwnI w4 w2.heap.size (.slice ra R.length rc) R):=⟨K3.1.draw hc4 hg4,K3.2.1.draw hg4 hcl,K3.2.2.ofBlock fun k hk=>hg4.block k (K3.2.2.lt k hk).2 (by have:=(K3.2.2.lt k hk).1;have:=LT2.out;simp;omega)⟩
  clear hc4 hg4 K3
  rcases t with _ | _
  ·go_wp2_with fail
   refine (zY W0 c len cap a0 (R.length:Nat) w4 K4.1.cu (by omega) (by omega)).mono ?_;rintro e w5 ⟨j,rfl,⟨j0,j1⟩,hc5,hg5⟩;have K5:Hid (DK w w5 W0 c a0 len cap B T x.y x.v/\DP w w5 x/\OwnI w5 w2.heap.size (.slice ra R.length rc) R):=⟨K4.1.draw hc5 hg5,K4.2.1.draw hg5 hcl,K4.2.2.ofBlock fun k hk=>hg5.block k (K4.2.2.lt k hk).2 (by have:=(K4.2.2.lt k hk).1;have:=LT2.out;simp;omega)⟩
   clear hc5 hg5 K4;obtain ⟨i,rfl⟩:∃ i:Nat,j=i:=⟨j.toNat,by omega⟩
   obtain ⟨gb,go,rfl,-,gc⟩:=K5.2.2.slOf.at (k:=i) (by omega);obtain ⟨-,z0,z1,zf⟩:=K5.2.1;generalize zi R i=q at *;go_wp2;refine bodyPost_ret (v:=.agg #[iV p,iV q]) (by simp [results,results103,go_sem,z0,z1]) rfl ⟨p,q,rfl,?_⟩;exact (K5.1.set (by omega) (by omega) (by omega) (by omega) _ _).set (by omega) (by omega) (by omega) (by omega) _ _
  ·go_wp2_with fail
   refine (zY W0 c len cap a0 (n+1) w4 K4.1.cu (by omega) (by omega)).mono ?_;rintro e w5 ⟨q,rfl,⟨q0,q1⟩,hc5,hg5⟩;have K5:Hid (DK w w5 W0 c a0 len cap B T x.y x.v/\DP w w5 x):=⟨K4.1.draw hc5 hg5,K4.2.1.draw hg5 hcl⟩
   clear hc5 hg5 K4;obtain ⟨-,z0,z1,zf⟩:=K5.2;go_wp2;refine bodyPost_ret (v:=.agg #[iV p,iV q]) (by simp [results,results103,go_sem,z0,z1]) rfl ⟨p,q,rfl,?_⟩;exact (K5.1.set (by omega) (by omega) (by omega) (by omega) _ _).set (by omega) (by omega) (by omega) (by omega) _ _
theorem kndP:Kind 108 151 2 16:=by
 refine ⟨Tryz.underlying108,?_,by omega,by omega⟩;have hinfo:(prog.info? 151).map (fun i=>(i.zero,i.size,i.bytes))=some (some (.agg #[iV 0,iV 0]),2,16):=by kernel_rfl
 cases hi:prog.info? 151 with
 | none=>rw [hi] at hinfo;cases hinfo
 | some i=>
  rw [hi] at hinfo;simp only [Option.map_some,nG,Prod.mk.injEq] at hinfo;obtain ⟨hz,hs,hb⟩:=hinfo;exact ⟨i,_,rfl,hz,hs,hb,rfl⟩
structure Bx (w:World) (N:Nat) (v0 v1 v2 v3:Value):Prop where
 bx:BoxC w N v0 v1 v2 v3
 fr:∀ j,w.frozen? ⟨N,j,none⟩=false
theorem Bx.blk {w w':World} {N:Nat} {v0 v1 v2 v3:Value} (h:Bx w N v0 v1 v2 v3) (hb:w'.heap[N]? = w.heap[N]?):Bx w' N v0 v1 v2 v3:=by
 obtain ⟨⟨h0,h1,h2,h3⟩,hf⟩:=h;exact ⟨⟨(zH hb).trans h0,(zH hb).trans h1,(zH hb).trans h2,(zH hb).trans h3⟩,fun j=>(zI hb).trans (hf j)⟩
theorem Bx.lt {w:World} {N:Nat} {v0 v1 v2 v3:Value} (h:Bx w N v0 v1 v2 v3):N<w.heap.size:=zJ w _ h.bx.1
theorem Bx.new (w:World) (v0 v1 v2 v3:Value) (t:TypeId):Bx (w.alloc (.cells #[v0,v1,v2,v3] t)) w.heap.size v0 v1 v2 v3:=⟨BoxC.new w _ _ _ _ _,fun _j=>yB _ _ _ _ rfl⟩
theorem Bx.bw {w w':World} {N:Nat} {v0 v1 v2 v3:Value} (h:Bx w N v0 v1 v2 v3) (hb:Bw w w'):Bx w' N v0 v1 v2 v3:=h.blk (hb.block N h.lt)
theorem Bx.grown {w w':World} {N:Nat} {v0 v1 v2 v3:Value} {r:Option Nat} (h:Bx w N v0 v1 v2 v3) (hg:w.grownBy w' r) (hr:r≠some N):Bx w' N v0 v1 v2 v3:=h.blk (hg.block N h.lt (fun e=>hr e.symm))
theorem Bx.set {w:World} {N M j:Nat} {v0 v1 v2 v3 u:Value} (h:Bx w N v0 v1 v2 v3) (hM:N≠M):Bx (w.setCell (aQ M j) u) N v0 v1 v2 v3:=h.blk (zO _ _ _ _ hM)
theorem Bx.put {w:World} {N:Nat} {v0 v1 v2 v3:Value} (h:Bx w N v0 v1 v2 v3) (u0 u1 u2 u3:Value):Bx ((((w.setCell (aQ N 0) u0).setCell (aQ N 1) u1).setCell (aQ N 2) u2).setCell (aQ N 3) u3) N u0 u1 u2 u3:=by
 obtain ⟨⟨h0,h1,h2,h3⟩,hf⟩:=h;exact ⟨⟨by go_cell,by go_cell,by go_cell,by go_cell⟩,fun j=>by simpa using hf j⟩
theorem qpl {N n c k:Nat} (h:(Value.slice (some (aQ N 0)) n c).ownBlock=some k):N=k:=by
 cases h;rfl
theorem qu6 (w:World) {N:Nat} (hN:N=w.heap.size):(w.alloc (.cells #[] 151)).ownsRow 0 151 2 (sG N 0 0) 0 []:=by
 subst hN;exact World.ownsRow_made (base:=0) (e:=151) (size:=2) w #[] 0 (nD _) (by unfold maxLen;omega) (by simp)
theorem Bx.newN (w:World) {N:Nat} (hN:N=w.heap.size) (v0 v1 v2 v3:Value) (t:TypeId):Bx (w.alloc (.cells #[v0,v1,v2,v3] t)) N v0 v1 v2 v3:=by
 subst hN;exact Bx.new w v0 v1 v2 v3 t
structure DR (w wr:World) (W0 c:Nat) (a0:Option Addr) (len cap M:Nat) (s0 s1 s2 s3 v9:Value) (k:Nat):Prop where
 ex:∃ (B T:Nat) (y:Sy) (pa sa wa ha:Option Addr) (pc sc wc hc:Nat),DK w wr W0 c a0 len cap B T y (sysV pa y.pn pc sa y.sn sc wa y.wn wc ha y.hn hc)/\y.Good/\Bx wr (M+1) (.slice pa y.pn pc) (.slice sa y.sn sc) (.slice wa y.wn wc) (.slice ha y.hn hc)/\(M+1<B\/T<=M)/\T<=wr.heap.size/\w.heap.size+2<=B/\∀ g,v9.ownBlock=some g->g<B\/T<=g
 b4:Bx wr w.heap.size nS nS nS nS
 b6:Bx wr (w.heap.size+1) nS nS nS nS
 b7:Bx wr M s0 s1 s2 s3
 li:∃ m xs,m<=k/\wr.ownsRow 0 151 2 v9 m xs
 lo:∀ g,v9.ownBlock=some g->M+1<g
 le:w.heap.size+1<M/\c<w.heap.size/\W0<=c
section
variable {w wr w':World} {W0 c len cap M k:Nat} {a0:Option Addr} {s0 s1 s2 s3 v9:Value}
theorem DR.keep (h:DR w wr W0 c a0 len cap M s0 s1 s2 s3 v9 k) (hc:Cur w' W0 c a0 len cap) (hs:wr.heap.size<=w'.heap.size) (hb:∀ b,b≠c->b<wr.heap.size->w'.heap[b]? = wr.heap[b]?) (hg:wr.grownBy w' (some c)):DR w w' W0 c a0 len cap M s0 s1 s2 s3 v9 k:=by
 obtain ⟨⟨B,T,y,pa,sa,wa,ha,pc,sc,wc,hh,dk,gd,b8,h1,h2,h3,h4⟩,b4,b6,b7,⟨m,xs,hm,hl⟩,lo,le⟩:=h;refine ⟨⟨B,T,y,pa,sa,wa,ha,pc,sc,wc,hh,dk.draw hc hg,gd,b8.blk (hb _ (by omega) b8.lt),h1,by omega,h3,h4⟩,b4.blk (hb _ (by omega) b4.lt),b6.blk (hb _ (by omega) b6.lt),b7.blk (hb _ (by omega) b7.lt),⟨m,xs,hm,qas hl fun g hg=>hb g (by have:=lo g hg;omega) (hl.lt g hg).2⟩,lo,le⟩
theorem DR.draw (h:DR w wr W0 c a0 len cap M s0 s1 s2 s3 v9 k) (hc:Cur w' W0 c a0 len cap) (hg:wr.grownBy w' (some c)):DR w w' W0 c a0 len cap M s0 s1 s2 s3 v9 k:=h.keep hc hg.size (fun b hb hl=>hg.block b hl (by simpa using hb)) hg
theorem DR.cur (h:DR w wr W0 c a0 len cap M s0 s1 s2 s3 v9 k):Cur wr W0 c a0 len cap:=by
 obtain ⟨⟨B,T,y,pa,sa,wa,ha,pc,sc,wc,hh,dk,-⟩,-⟩:=h;exact dk.cu
theorem DR.bw (h:DR w wr W0 c a0 len cap M s0 s1 s2 s3 v9 k) (hb:Bw wr w'):DR w w' W0 c a0 len cap M s0 s1 s2 s3 v9 k:=
 h.keep (h.cur.kept (zZ hb) (by simp) (fun k hk=>by cases hk)) hb.size (fun b _ hl=>hb.block b hl) ⟨hb.os,hb.tape,hb.output,hb.size,fun k hk _=>hb.block k hk⟩
theorem DR.app {w1:World} {v':Value} {m:Nat} {xs:List Value} (h:DR w wr W0 c a0 len cap M s0 s1 s2 s3 v9 k) (ho:w1.ownsRow 0 151 2 v' m xs) (hm:m<=k+1) (g:wr.grownBy w1 v9.ownBlock) (hv:∀ j,v'.ownBlock=some j->v9.ownBlock=some j\/wr.heap.size<=j):DR w w1 W0 c a0 len cap M s0 s1 s2 s3 v' (k+1):=by
 obtain ⟨⟨B,T,y,pa,sa,wa,ha,pc,sc,wc,hh,dk,gd,b8,h1,h2,h3,h4⟩,b4,b6,b7,-,lo,le⟩:=h;have hne:∀ b,b<=M+1->v9.ownBlock≠some b:=fun b hb e=>by have:=lo b e;omega
 have l8:=b8.lt;have hT1:=g.size;refine ⟨⟨B,T,y,pa,sa,wa,ha,pc,sc,wc,hh,⟨dk.cu.kept g (fun e=>hne c (by omega) e.symm) (fun j hj=>by have:=lo j hj;omega),dk.sy.keep fun b hB hT hl=>g.block b hl (fun e=>by have:=h4 b e.symm;omega),dk.gr.andThen g (fun j hj=>.inl (by have:=lo j hj;omega)),dk.lt⟩,gd,b8.grown g (hne _ (by omega)),h1,by omega,h3,fun j hj=>(hv j hj).elim (h4 j) fun h=>.inr (by omega)⟩,b4.grown g (hne _ (by omega)),b6.grown g (hne _ (by omega)),b7.grown g (hne _ (by omega)),⟨m,xs,hm,ho⟩,fun j hj=>(hv j hj).elim (lo j) fun h=>by omega,le⟩
end
theorem DK.drew {w wr:World} {W0 c:Nat} {a0:Option Addr} {len cap B T:Nat} {y:Sy} {v:Value} (h:DK w wr W0 c a0 len cap B T y v):DK w wr.drew W0 c a0 len cap B T y v:=⟨h.cu.drew,h.sy.keep fun _ _ _ _=>rfl,⟨h.gr.os,h.gr.tape,h.gr.output,h.gr.size,h.gr.block⟩,h.lt⟩
theorem qj7 (W0 c len cap:Nat) (a0:Option Addr) (most:Int) (w:World) (hc:Cur w W0 c a0 len cap) (m0:0<=most) (m1:most<=200):
  Calls prog 65 #[.pointer (some (aQ c 0)),iV most] w fun e w'=>∃ (B T:Nat) (y:Sy) (qa qb qc qd:Option Addr) (n0 n1 n2 n3 e0 e1 e2 e3:Nat) (v1:Value) (pa sa wa ha:Option Addr) (pc sc wc hc:Nat),e=.returned (.tuple #[.agg #[.slice qa n0 e0,.slice qb n1 e1,.slice qc n2 e2,.slice qd n3 e3],v1,sysV pa y.pn pc sa y.sn sc wa y.wn wc ha y.hn hc])/\y.Good/\DK w w' W0 c a0 len cap B T y (sysV pa y.pn pc sa y.sn sc wa y.wn wc ha y.hn hc)/\w.heap.size<=B/\T<=w'.heap.size:=by
 have hcl:c<w.heap.size:=hc.lt;have hcg:W0<=c:=hc.ge;have C0:Hid (Cur ((w.alloc (zQ3)).alloc (zQ3)) W0 c a0 len cap/\w.grownBy ((w.alloc (zQ3)).alloc (zQ3)) (some c)/\Bx ((w.alloc (zQ3)).alloc (zQ3)) w.heap.size nS nS nS nS/\Bx ((w.alloc (zQ3)).alloc (zQ3)) (w.heap.size+1) nS nS nS nS/\((w.alloc (zQ3)).alloc (zQ3)).heap.size=w.heap.size+2):=⟨(hc.alloc _).alloc _,(World.grownBy_alloc _ _ _).trans (World.grownBy_alloc _ _ _),(Bx.new w _ _ _ _ _).bw (zQ _ _),Bx.newN _ (by simp) _ _ _ _ _,by simp⟩
 clear hc
 go_enter func65,ntmps65
 go_wp2_with fail
 generalize (w.alloc (zQ3)).alloc (zQ3)=W2 at *;refine (qj6 W0 c len cap a0 W2 C0.1).mono ?_;rintro e w1 ⟨pa,sa,wa,ha,pc,sc,wc,hh,y,rfl,hy,k1⟩
 have D4:Hid (DR w (((w1.alloc (oQ4 pa y.pn pc sa y.sn sc wa y.wn wc ha y.hn hh)).alloc (oQ4 pa y.pn pc sa y.sn sc wa y.wn wc ha y.hn hh)).alloc (.cells #[] 151)) W0 c a0 len cap w1.heap.size (.slice pa y.pn pc) (.slice sa y.sn sc) (.slice wa y.wn wc) (.slice ha y.hn hh) (.slice (some ⟨w1.heap.size+2,0,none⟩) 0 0) 0):=by
  have hs2:=C0.2.2.2.2;have hs1:=k1.gr.size;have k2:DK w w1 W0 c a0 len cap W2.heap.size w1.heap.size y (sysV pa y.pn pc sa y.sn sc wa y.wn wc ha y.hn hh):=⟨k1.cu,k1.sy,C0.2.1.trans k1.gr,k1.lt⟩
  refine ⟨⟨_,_,y,pa,sa,wa,ha,pc,sc,wc,hh,((k2.alloc _).alloc _).alloc _,hy,(Bx.newN _ (by simp) _ _ _ _ _).bw (zQ _ _),.inr (nA _),by simp;omega,by omega,fun g hg=>?_⟩,(((C0.2.2.1.grown k1.gr (by simp;omega)).bw (zQ _ _)).bw (zQ _ _)).bw (zQ _ _),(((C0.2.2.2.1.grown k1.gr (by simp;omega)).bw (zQ _ _)).bw (zQ _ _)).bw (zQ _ _),((Bx.new _ _ _ _ _ _).bw (zQ _ _)).bw (zQ _ _),⟨0,[],nA _,?_⟩,fun g hg=>?_,by omega,hcl,hcg⟩
  ·have:=qpl hg
   omega
  ·exact qu6 _ (by simp)
  ·have:=qpl hg
   omega
 clear k1 hy C0;go_wp2_with fail
 generalize ((w1.alloc (oQ4 pa y.pn pc sa y.sn sc wa y.wn wc ha y.hn hh)).alloc (oQ4 pa y.pn pc sa y.sn sc wa y.wn wc ha y.hn hh)).alloc (.cells #[] 151)=W4 at *;generalize w1.heap.size=M at *;generalize y.pn=sn0 at *;generalize y.sn=sn1 at *;generalize y.wn=sn2 at *;generalize y.hn=sn3 at *;refine (zY W0 c len cap a0 (most+1) W4 D4.cur (by omega) (by omega)).mono ?_;rintro e w5 ⟨n,rfl,⟨n0,n1⟩,hc5,hg5⟩;have D5:Hid (DR w w5 W0 c a0 len cap M (.slice pa sn0 pc) (.slice sa sn1 sc) (.slice wa sn2 wc) (.slice ha sn3 hh) (.slice (some ⟨M+2,0,none⟩) 0 0) 0):=D4.draw hc5 hg5;clear hc5 hg5 D4;obtain ⟨nn,rfl⟩:∃ nn:Nat,n=nn:=⟨n.toNat,by omega⟩
 have hnn:(nn:Int)<=200:=by omega
 clear n0 n1;go_wp2_with fail
 go_loopw [9,11] (fun v i wr=>∃ k:Nat,k<=nn/\i=.int .i64 k/\Hid (DR w wr W0 c a0 len cap M (.slice pa sn0 pc) (.slice sa sn1 sc) (.slice wa sn2 wc) (.slice ha sn3 hh) v k)) (fun _ i _=>nn - (intOf i).toNat)
 case atStart=>exact ⟨0,nD _,rfl,D5.out⟩
 case round=>
  clear D5;obtain ⟨k,hk,rfl,HR⟩:=hrel;obtain ⟨B,T,y',pa',sa',wa',ha',pc',sc',wc',hh',dk,gd,b8,h1,h2,h3,h4⟩:=HR.ex;have DKr:Hid (DK w wr W0 c a0 len cap B T y' (sysV pa' y'.pn pc' sa' y'.sn sc' wa' y'.wn wc' ha' y'.hn hh')/\y'.Good/\T<=wr.heap.size/\w.heap.size+2<=B):=⟨dk,gd,h2,h3⟩
  by_cases hlt:k<nn
  ·have hlt':(k:Int)<(nn:Int):=by omega
   obtain ⟨r0,r1,r2,r3⟩:=b8.bx;clear dk gd b8 h1 h2 h3 h4;go_wp2_with fail
   refine (qix W0 c len cap B T a0 y' _ wr DKr.2.1.sm DKr.1.cu DKr.1.sy DKr.2.2.1 DKr.1.lt).mono ?_;rintro e w2 ⟨p,q,rfl,k2⟩;have E2:Hid (DR w (w2.alloc (.cells #[iV p,iV q] 151)) W0 c a0 len cap M (.slice pa sn0 pc) (.slice sa sn1 sc) (.slice wa sn2 wc) (.slice ha sn3 hh) u9 k):=(HR.draw k2.cu k2.gr).bw (zQ _ _);have P2:Hid ((w2.alloc (.cells #[iV p,iV q] 151)).cell? (aQ w2.heap.size 0)=some (iV p)/\(w2.alloc (.cells #[iV p,iV q] 151)).cell? (aQ w2.heap.size 1)=some (iV q)):=⟨zW _ _ _ 0 rfl,zW _ _ _ 1 rfl⟩
   have L2:Hid (∀ g,u9.ownBlock=some g->g<w2.heap.size):=fun g hg=>by
    obtain ⟨m,xs,-,ho⟩:=(HR.draw k2.cu k2.gr).li;exact (ho.lt g hg).2
   clear k2 r0 r1 r2 r3 HR DKr;go_upto_region 9 with fail
   generalize hW3:w2.alloc (.cells #[iV p,iV q] 151)=w3 at *;have hs3:w3.heap.size=w2.heap.size+1:=by rw [<- hW3];simp
   have HS3:Hid (w3.heap.size=w2.heap.size+1):=hs3;clear hW3 hs3;generalize w2.heap.size=N at *;obtain ⟨c0,c1⟩:=P2.out;obtain ⟨m,xs,hm,lo9⟩:=E2.li;have LO:Hid (w3.ownsRow 0 151 2 u9 m xs/\m<=2000000/\m+1<=k+1):=⟨lo9,by omega,by omega⟩
   clear hm lo9;go_upto_region 10 with (at_builtin;refine qai kndP w3 rfl rfl _ _ rfl 0 u9 m xs rfl LO.1 #[.int .i64 p,.int .i64 q] rfl rfl (by intro u hu;simp at hu;rcases hu with rfl | rfl <;> rfl) LO.2.1 (nD _) ?_;intro v5 w5 o5 g5 q5 _;have E5:Hid (DR w w5 W0 c a0 len cap M (.slice pa sn0 pc) (.slice sa sn1 sc) (.slice wa sn2 wc) (.slice ha sn3 hh) v5 (k+1)/\w5.cell? (aQ N 0)=some (.int .i64 p)/\w5.cell? (aQ N 1)=some (.int .i64 q)):=⟨E2.app o5 LO.2.2 g5 q5,(zH (g5.block N (by rw [HS3.out];omega) (fun e=>by have:=L2.out N e.symm;omega))).trans P2.1,(zH (g5.block N (by rw [HS3.out];omega) (fun e=>by have:=L2.out N e.symm;omega))).trans P2.2⟩;clear o5 g5 q5)
   clear c0 c1 E2 P2 L2 LO;obtain ⟨B,T,y',pa',sa',wa',ha',pc',sc',wc',hh',dk,gd,b8,h1,h2,h3,h4⟩:=E5.1.ex;obtain ⟨r0,r1,r2,r3⟩:=b8.bx;obtain ⟨c0,c1⟩:=E5.2
   have HStep:Hid (Calls prog 104 #[sysV pa' y'.pn pc' sa' y'.sn sc' wa' y'.wn wc' ha' y'.hn hh',iV p,iV q] w5 fun e w'=>∃ v,e=.returned (.tuple #[v,iV (stC y' p q)])/\qan true w' w5.heap.size (stY y' p q) v/\Bw w5 w'):=by
    obtain ⟨x,ev,ey,hX⟩:=dk.sy.x;have:=qmr x p q w5 hX.self (Sy.Sm.inLen (by rw [ey];exact gd.sm)) hX.cap;rw [<- ev,ey] at this;exact this
   have HGood:Hid (stC y' p q=0->(stY y' p q).Good):=fun h=>gd.step h;clear dk gd b8 h1 h2 h3 h4;go_wp2_with fail
   refine HStep.mono ?_;rintro e w6 ⟨v6,rfl,o6,q6⟩;generalize hC:stC y' p q=C at *;generalize hY:stY y' p q=Y at *;obtain ⟨pa6,pc6,sa6,sc6,wa6,wc6,ha6,hc6,rfl⟩:=o6.form;have E6:Hid (DR w w6 W0 c a0 len cap M (.slice pa sn0 pc) (.slice sa sn1 sc) (.slice wa sn2 wc) (.slice ha sn3 hh) v5 (k+1)):=E5.1.bw q6;have O6:Hid (SysT w6 w5.heap.size w6.heap.size Y (sysV pa6 Y.pn pc6 sa6 Y.sn sc6 wa6 Y.wn wc6 ha6 Y.hn hc6)/\w5.heap.size<=w6.heap.size/\M+1<w5.heap.size/\(∀ g,v5.ownBlock=some g->g<w5.heap.size)):=⟨o6.sysT,q6.size,by obtain ⟨B,T,y',pa',sa',wa',ha',pc',sc',wc',hh',-,-,b8,-⟩:=E5.1.ex;exact b8.lt,fun g hg=>by obtain ⟨m,xs,-,ho⟩:=E5.1.li;exact (ho.lt g hg).2⟩
   clear hC hY o6 q6 r0 r1 r2 r3 c0 c1 HStep E5;by_cases hc0:C=0
   ·subst hc0
    have gY:=HGood.out rfl;obtain ⟨B,T,y',pa',sa',wa',ha',pc',sc',wc',hh',dk,gd,b8,h1,h2,h3,h4⟩:=E6.ex;obtain ⟨⟨r0,r1,r2,r3⟩,rf⟩:=b8;have l8:M+1<w6.heap.size:=by have:=O6.out;omega
    have E7:Hid (DR w ((((w6.setCell ⟨M+1,0,none⟩ (.slice pa6 Y.pn pc6)).setCell ⟨M+1,1,none⟩ (.slice sa6 Y.sn sc6)).setCell ⟨M+1,2,none⟩ (.slice wa6 Y.wn wc6)).setCell ⟨M+1,3,none⟩ (.slice ha6 Y.hn hc6)) W0 c a0 len cap M (.slice pa sn0 pc) (.slice sa sn1 sc) (.slice wa sn2 wc) (.slice ha sn3 hh) v5 (k+1)):=by
     obtain ⟨o7,hs7,hs8,hg7⟩:=O6.out;obtain ⟨-,b4,b6,b7,⟨m,xs,hm,hl⟩,lo,le⟩:=E6.out;have k7:DK w w6 W0 c a0 len cap w5.heap.size w6.heap.size Y (sysV pa6 Y.pn pc6 sa6 Y.sn sc6 wa6 Y.wn wc6 ha6 Y.hn hc6):=⟨dk.cu,o7,dk.gr,by omega⟩
     refine ⟨⟨_,_,Y,pa6,sa6,wa6,ha6,pc6,sc6,wc6,hc6,(((k7.set (by omega) (by omega) (.inl hs8) (by omega) _ _).set (by omega) (by omega) (.inl hs8) (by omega) _ _).set (by omega) (by omega) (.inl hs8) (by omega) _ _).set (by omega) (by omega) (.inl hs8) (by omega) _ _,gY,(show Bx w6 (M+1) _ _ _ _ from ⟨⟨r0,r1,r2,r3⟩,rf⟩).put _ _ _ _,.inl hs8,by simp,by omega,fun g hg=>.inl (hg7 g hg)⟩,(((b4.set (by omega)).set (by omega)).set (by omega)).set (by omega),(((b6.set (by omega)).set (by omega)).set (by omega)).set (by omega),(((b7.set (by omega)).set (by omega)).set (by omega)).set (by omega),⟨m,xs,hm,?_⟩,lo,le⟩
     exact qas hl fun g hg=>by
      have hne:g≠M+1:=by have:=lo g hg;omega
      exact (zO _ _ _ _ hne).trans ((zO _ _ _ _ hne).trans ((zO _ _ _ _ hne).trans (zO _ _ _ _ hne)))
    clear dk gd h1 h2 h3 h4 gY HGood E6;go_wp2;go_roundw
    case rel=>exact ⟨k+1,by omega,by go_num,E7.bw (zQ _ _)⟩
    case measure=>simp [intOf];omega
   ·have tc:(C == 0)=false:=by simpa using hc0
    go_wp2;go_roundw
    case rel=>exact ⟨k+1,by omega,by go_num,E6.bw (zQ _ _)⟩
    case measure=>simp [intOf];omega
  ·obtain ⟨r0,r1,r2,r3⟩:=b8.bx
   obtain ⟨⟨x0,x1,x2,x3⟩,xf⟩:=HR.b4;obtain ⟨⟨z0,z1,z2,z3⟩,zf⟩:=HR.b6;obtain ⟨⟨d0,d1,d2,d3⟩,df⟩:=HR.b7;have hM:=HR.le;have n1:w.heap.size≠M:=by omega
   have n2:w.heap.size≠M+1:=by omega
   have n3:w.heap.size+1≠M:=by omega
   have n4:w.heap.size+1≠M+1:=by omega
   have l4:w.heap.size<wr.heap.size:=zJ wr _ x0;have l6:w.heap.size+1<wr.heap.size:=zJ wr _ z0;clear dk gd b8 h1 h2 h3 h4 HR;go_wp2_with fail
   go_region
   all_goals
    go_wp2;refine bodyPost_ret (v:=.tuple #[.agg #[.slice pa sn0 pc,.slice sa sn1 sc,.slice wa sn2 wc,.slice ha sn3 hh],u9,sysV pa' y'.pn pc' sa' y'.sn sc' wa' y'.wn wc' ha' y'.hn hh']) (by simp [results,results65,go_sem,x0,x1,x2,x3,z0,z1,z2,z3]) rfl ⟨B,T,y',pa,sa,wa,ha,sn0,sn1,sn2,sn3,pc,sc,wc,hh,u9,pa',sa',wa',ha',pc',sc',wc',hh',rfl,DKr.2.1,?_,by have:=DKr.2.2.2;omega,?_⟩
    ·refine DK.drew ?_
     iterate 8 (refine DK.set ?_ (by omega) (by omega) (by have:=DKr.out;omega) (by omega) _ _)
     exact DKr.1
    ·have:=DKr.2.2.1
     simpa using this
theorem qqm (a0:Option Addr) (len cap:Nat) (w:World) (hl:len<=1048576):Calls prog 66 #[.slice a0 len cap,iV 25,iV 70] w fun e w'=>∃ z:Int,e=.returned (iV z)/\(25<=z/\z<=70)/\w'=w:=by
 have hl':(len:Int)<=1048576:=by omega
 have ed:Int.tdiv (len:Int) 4=((len / 4:Nat):Int):=(Int.ofNat_tdiv len 4).symm;have hq:len / 4<=1048576:=by omega
 generalize len / 4=q at *;have hq':(q:Int)<=1048576:=by omega
 by_cases t:(70:Int)<25+(q:Int)
 ·go_enter func66,ntmps66
  go_wp2;go_ret;exact ⟨_,rfl,by omega,rfl⟩
 ·go_enter func66,ntmps66
  go_wp2;go_ret;exact ⟨_,rfl,by omega,rfl⟩
theorem qd5 (W0 c len cap:Nat) (a0:Option Addr) (w:World) (hc:Cur w W0 c a0 len cap):
  Calls prog 30 #[.pointer (some (aQ c 0)),.slice a0 len cap] w fun e w'=>∃ (B T:Nat) (y:Sy) (pa sa wa ha:Option Addr) (pc sc wc hc:Nat),e=.returned (sysV pa y.pn pc sa y.sn sc wa y.wn wc ha y.hn hc)/\y.Good/\DK w w' W0 c a0 len cap B T y (sysV pa y.pn pc sa y.sn sc wa y.wn wc ha y.hn hc)/\w.heap.size<=B/\T<=w'.heap.size:=by
 have hcl:c<w.heap.size:=hc.lt;have hcg:W0<=c:=hc.ge;have hln:len<=1048576:=hc.ln;have C0:Hid (Cur (w.alloc (zQ3)) W0 c a0 len cap/\w.grownBy (w.alloc (zQ3)) (some c)/\Bx (w.alloc (zQ3)) w.heap.size nS nS nS nS/\(w.alloc (zQ3)).heap.size=w.heap.size+1):=⟨hc.alloc _,World.grownBy_alloc _ _ _,Bx.new w _ _ _ _ _,by simp⟩
 clear hc
 go_enter func30,ntmps30
 go_wp2_with fail
 generalize w.alloc (zQ3)=W2 at *;refine (qqm a0 len cap W2 hln).mono ?_;rintro e w1 ⟨z,rfl,⟨z0,z1⟩,rfl⟩;go_wp2_with fail
 refine (qj7 W0 c len cap a0 z w1 C0.1 (by omega) (by omega)).mono ?_;rintro e w3 ⟨B,T,y,qa,qb,qc,qd,n0,n1,n2,n3,e0,e1,e2,e3,v1,pa,sa,wa,ha,pc,sc,wc,hh,rfl,gd,dk,hB,hT⟩;have K3:Hid (DK w w3 W0 c a0 len cap B T y (sysV pa y.pn pc sa y.sn sc wa y.wn wc ha y.hn hh)/\y.Good/\w.heap.size<B/\T<=w3.heap.size/\Bx w3 w.heap.size nS nS nS nS):=⟨⟨dk.cu,dk.sy,C0.2.1.trans dk.gr,dk.lt⟩,gd,by have:=C0.2.2.2;omega,hT,C0.2.2.1.grown dk.gr (by simp;omega)⟩
 clear gd dk hB hT C0;obtain ⟨⟨r0,r1,r2,r3⟩,rf⟩:=K3.2.2.2.2;have l3:w.heap.size<w3.heap.size:=zJ w3 _ r0;have hN:=K3.2.2.1;have hTT:=K3.2.2.2.1;go_wp2;refine bodyPost_ret (v:=sysV pa y.pn pc sa y.sn sc wa y.wn wc ha y.hn hh) (by simp [results,results30,go_sem,r0,r1,r2,r3,l3]) rfl ⟨B,T,y,pa,sa,wa,ha,pc,sc,wc,hh,rfl,K3.2.1,?_,by omega,by simp;omega⟩
 repeat (first | exact K3.1 | (refine DK.alloc ?_ _)|(refine DK.set ?_ (by first | omega | simp) (by first | omega | simp) (by first | omega | simp) (by omega) _ _))
theorem qjw {p code:Int} {ra oa:Option Addr} {rn rc on oc k:Nat} (h:(Value.slice ra rn rc).ownBlock=some k):qak (stV p ra rn rc oa on oc code) k:=⟨_,_,_,_,rfl,.inl h⟩
theorem LS.reg {w:World} {P:Nat->Prop} {v:Value} {n:Nat} {vs:Nat->Value} {S:Nat->S4} (o:LS w P v n vs S) {i:Nat} (hi:i<n) (h2:(S i).rs.length=4) (x:Int):∃ g cap rb rn rc oa oc,v=.slice (some (aQ g 0)) n cap/\w.cell? ⟨g,i*4+1,none⟩=some (sG rb 4 rc)/\rn=4/\oa=0/\oc=0/\w.cell? (aQ rb 1)=some (iV (zi (S i).rs 1))/\w.frozen? (aQ rb 1)=false/\P g/\P rb/\rb<w.heap.size/\g<w.heap.size/\LS (w.setCell (aQ rb 1) (iV x)) P v n vs (fun j=>if j=i then ⟨(S i).p,(S i).rs.set 1 x,(S i).os,(S i).c⟩ else S j):=by
 obtain ⟨g,cap,rfl,hPg,hg,⟨a1,c1,a2,c2,ev,-,hc1,-,-⟩,-⟩:=o.cell hi;have hso:=o.own i hi;rw [ev] at hso;obtain ⟨o1,o2,hap⟩:=hso.parts;obtain ⟨rb,cap1,er,hb1,hb2⟩:=o1.block (by rw [h2];omega)
 have hhas:qak (vs i) rb:=by
  rw [ev];exact qjw (by rw [er];rfl)
 rw [h2] at er;simp only [Value.slice.injEq] at er;obtain ⟨rfl,-,ec⟩:=er;subst ec;have o1':OwnI w 0 (.slice (some (aQ rb 0)) (S i).rs.length c1) (S i).rs:=o1;have hcell:=o1'.cell (j:=1) (by rw [h2];omega);have hfr:=o1'.frozen 1;rw [h2] at hc1;refine ⟨g,cap,rb,4,c1,0,0,rfl,hc1,rfl,rfl,rfl,hcell,hfr,hPg,o.ob i hi rb hhas,hb2,hg,?_⟩;have hkeep:∀ k,k≠rb->(w.setCell ⟨rb,1,none⟩ (iV x)).heap[k]? = w.heap[k]?:=fun k hk=>zO _ _ _ _ hk;refine ⟨qas o.row fun k hk=>hkeep k fun e=>o.ra i hi rb hhas (by rw [<- e];exact hk),fun j hj=>?_,o.rb,o.ob,o.ra,o.oa⟩;by_cases ej:j=i
 ·subst ej
  simp only [if_true];have hs:=(o1'.set (n:=(S j).rs.length) rfl 1 x).1;rw [ev];exact ⟨_,_,rfl,hs,o2.blk fun k hk=>hkeep k fun e=>hap rb rfl (by rw [<- e];exact hk),hap⟩
 ·simp only [nB ej]
  exact (o.own j hj).blk fun k hk=>hkeep k fun e=>o.oa i j hi hj (fun h=>ej h.symm) rb hhas (by rw [<- e];exact hk)
theorem qxy {w:World} {B n c sz:Nat} {e:TypeId} {a:Option Addr} {xs:List Value} (o:w.ownsRow B e sz (.slice a n c) n xs) (hl:xs.length=n*sz):Src w a xs:=by
 rcases o.2 with ⟨e1,h0⟩ | ⟨g,cap,cur,e1,hb,_⟩
 ·exact .inl (List.eq_nil_of_length_eq_zero (by rw [hl,h0,Nat.zero_mul]))
 ·simp only [Value.slice.injEq] at e1
  obtain ⟨rfl,-,rfl⟩:=e1;refine .inr ⟨g,0,rfl,(o.lt g rfl).2,fun j u hj=>?_⟩
  have hlt:j<xs.length:=by
   rcases Nat.lt_or_ge j xs.length with h | h
   ·exact h
   ·rw [List.getElem?_eq_none h] at hj
    cases hj
  rw [nL,World.ownsRow.cellAt o j (by omega)];exact hj
theorem qlz (f:Nat->List Value):∀ n,flat f (n+1)=f 0 ++ flat (fun i=>f (i+1)) n
 | 0=>by simp [flat]
 | n+1=>by
  rw [flat,qlz f n,List.append_assoc];rfl
theorem qxd (H:Nat->I2) (x:I2) (n:Nat):fT (fun i=>if i=0 then x else H (i - 1)) (n+1)=cT x ++ fT H n:=by
 show flat (fun i=>cT (if i=0 then x else H (i - 1))) (n+1)=_;rw [qlz];rfl
def SysIn.shift (x:SysIn) (A:Option Addr) (C:Nat):SysIn:={ x with wa:=A,wn:=x.wn - 1,wc:=C,wA:=fun i=>x.wA (i+1),wL:=fun i=>x.wL (i+1),wC:=fun i=>x.wC (i+1),wH:=fun i=>x.wH (i+1) }
theorem SysG.shift {w:World} {x:SysIn} (h:SysG w x) {g:Nat} {A:Option Addr} {C:Nat} (hw:x.wa=some (aQ g 0)) (hA:x.wn<=1\/A=some (aQ g 1)):SysG w (x.shift A C):=by
 refine ⟨h.p,h.pi,h.s,?_,fun i hi=>h.wi (i+1) (by have h1:i<x.wn - 1:=hi;omega),h.h,h.hi⟩;show RowS w A (x.wn - 1) fun i=>.slice (x.wA (i+1)) (x.wL (i+1)) (x.wC (i+1))
 rcases hA with h1 | rfl
 ·exact .inl (by omega)
 ·rcases h.w with h0 | ⟨b,off,e,hlt,hc⟩
  ·exact .inl (by omega)
  ·rw [hw] at e
   simp only [nG,Addr.mk.injEq] at e;obtain ⟨rfl,rfl,-⟩:=e;refine .inr ⟨g,1,rfl,hlt,fun i hi=>?_⟩;have:=hc (i+1) (by omega)
   rwa [show 0+(i+1)=1+i by omega] at this
theorem SysX.shift {w:World} {B T:Nat} {x:SysIn} (h:SysX w B T x) {g:Nat} {A:Option Addr} {C:Nat} (hw:x.wa=some (aQ g 0)) (hA:x.wn<=1\/A=some (aQ g 1)):SysX w B T (x.shift A C):=
 ⟨fun w' hb=>(h.g w' hb).shift hw hA,h.cap,⟨fun i hi=>h.nn.w (i+1) (by have h1:i<x.wn - 1:=hi;omega),h.nn.h⟩⟩
def Sy.setP (y:Sy) (i m:Nat) (H:Nat->I5):Sy:={ y with pL:=fun j=>if j=i then m else y.pL j,pH:=fun j=>if j=i then H else y.pH j }
theorem OwnS.putP {z:Bool} {w w1:World} {B:Nat} {c:Nat->Nat} {y:Sy} {vs vw vh:Value} {g cap:Nat} {up us uw uh:Nat->Value} (o:OwnS z w B c y (sG g y.pn cap) vs vw vh up us uw uh) {i:Nat} (hi:i<y.pn) {u':Value} {m:Nat} {H':Nat->I5} (hB:B<=w.heap.size) (hs:w.heap.size<=w1.heap.size) (g1:∀ k,k<w.heap.size->(up i).ownBlock≠some k->w1.heap[k]? = w.heap[k]?)
  (hu:w1.ownsRow 0 45 5 u' m (fI H' m)) (hne:u'≠nS) (hb:∀ k,u'.ownBlock=some k->(up i).ownBlock=some k\/w.heap.size<=k):
  OwnS z (w1.setCell (aQ g i) u') B (rcol c w.heap.size 1) (y.setP i m H') (sG g y.pn cap) vs vw vh (fun j=>if j=i then u' else up j) us uw uh:=by
 have hP:∀ q k,Cl B c q k->k<w.heap.size->Cl B (rcol c w.heap.size 1) q k:=fun q k h hl=>h.old hl;have hg:Cl B c 1 g:=o.p.rb g rfl
 have hk:∀ q,q≠1->∀ k,Cl B (rcol c w.heap.size 1) q k->k<w.heap.size->(w1.setCell ⟨g,i,none⟩ u').heap[k]? = w.heap[k]?:=fun q hq k h hl=>by
  have e:c k=q:=(qam hl).symm.trans h.2;refine (zO _ _ _ _ fun ek=>hq ?_).trans (g1 k hl fun ek=>hq ?_)
  ·rw [<- e,ek];exact hg.2
  ·rw [<- e];exact (o.p.ob i hi k ek).2
 refine ⟨?_,(o.s.mono (hP 2)).keep (hk 2 (by decide)),(o.t.mono (hP 3)).keep (hk 3 (by decide)),(o.h.mono (hP 4)).keep (hk 4 (by decide))⟩;have h:=LL.put o.p hi hs g1 hu (fun _=>hne) hb (P':=Cl B (rcol c w.heap.size 1) 1) (hP 1) fun k h _=>⟨zP hB h,qad h⟩
 have e:(fun j=>if j=i then fI H' m else fI (y.pH j) (y.pL j))=fun j=>fI ((y.setP i m H').pH j) ((y.setP i m H').pL j):=funext fun j=>by
  by_cases q:j=i
  ·simp [Sy.setP,q]
  ·simp [Sy.setP,q]
 rw [e] at h;exact h
def World.cut (w:World) (n:Nat):World:={ w with heap:=w.heap.extract 0 n }
theorem qhr (w:World) {n:Nat} (h:n<=w.heap.size):(World.cut w n).heap.size=n:=by simp [World.cut];omega
theorem qlt (w:World) {n k:Nat} (h:n<=w.heap.size) (hk:k<n):(World.cut w n).heap[k]? = w.heap[k]?:=by
 simp only [World.cut];rw [Array.getElem?_extract];simp;omega
def DrwS (w:World) (W0 c:Nat) (a0:Option Addr) (len cap:Nat) (e:Ending) (w':World):Prop:=∃ (x:SysIn) (B T:Nat),e=.returned x.v/\x.y.Sm/\SysX w' B T x/\Cur w' W0 c a0 len cap/\w.grownBy w' (some c)/\c<B/\T<=w'.heap.size
theorem SysX.keep {w w':World} {B T:Nat} {x:SysIn} (h:SysX w B T x) (hs:w.heap.size<=w'.heap.size) (hb:∀ b,B<=b->b<T->b<w.heap.size->w'.heap[b]? = w.heap[b]?):SysX w' B T x:=
 ⟨fun w2 h2=>h.g w2 fun b h1 h3 h4=>(h2 b h1 h3 (by omega)).trans (hb b h1 h3 h4),h.cap,h.nn⟩
