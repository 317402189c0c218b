import Derived.Test.YtegogmbfhddeoaaGreatDoorJk37
import Derived.Test.YtegogmbfhddeoaaGreatDoorJk38
namespace Go.Proofs.YtegogmbfhddeoaaGreatDoor
set_option maxRecDepth 100000
set_option maxHeartbeats 20000000
open Go.RowKit Go.Deep
structure DrM (w wr:World) (W0 len cap:Nat) (a0:Option Addr) (c:Nat) (v:Value) (k:Nat):Prop where
 ll:∃ u L H,LI true wr (fun b=>w.heap.size<=b) v k u L H/\∀ i,i<k->L i<=31
 cu:Cur wr W0 c a0 len cap
 gr:w.grownBy wr (some c)
 nn:v≠.slice none 0 0
theorem DrM.start {w wr:World} {W0 len cap c:Nat} {a0:Option Addr} (hc:Cur wr W0 c a0 len cap) (hg:w.grownBy wr (some c)):DrM w (wr.alloc (.cells #[] 105)) W0 len cap a0 c (.slice (some ⟨wr.heap.size,0,none⟩) 0 0) 0:=
 ⟨⟨fun _=>.slice none 0 0,fun _=>0,fun _ _=>⟨0,0,0,0,0⟩,LL.new _ _ _ _ _ hg.size _ _ _,fun i hi=>by omega⟩,hc.alloc _,hg.andThen (World.grownBy_alloc _ _ none) (fun j hj=>by cases hj),fun e=>by cases e⟩
theorem DrM.push {w wr w1 w2:World} {W0 len cap c k m:Nat} {a0:Option Addr} {v v' x:Value} {u:Nat->Value} {L:Nat->Nat} {H:Nat->Nat->I5} (hl:LI true wr (fun b=>w.heap.size<=b) v k u L H) (h31:∀ i,i<k->L i<=31) (g0:w.grownBy wr (some c)) (hc0:c<w.heap.size) (g1:wr.grownBy w1 (some c)) (hc1:Cur w1 W0 c a0 len cap) (hx:Lst w1 wr.heap.size x m) (hm:m<=31) (hne:x≠.slice none 0 0)
  (hv:w2.ownsRow 0 105 1 v' (k+1) ((List.range k).map u ++ [x])) (g2:w1.grownBy w2 v.ownBlock) (hv':∀ j,v'.ownBlock=some j->v.ownBlock=some j\/w1.heap.size<=j) (hn':v'≠.slice none 0 0):DrM w w2 W0 len cap a0 c v' (k+1):=by
 obtain ⟨G,hG⟩:=hx.known;have hvb:∀ j,v.ownBlock=some j->w.heap.size<=j:=hl.rb;have hsz:=g0.size;refine ⟨⟨_,fun j=>if j=k then m else L j,fun j=>if j=k then G else H j,(LL.ext (L':=fun j=>if j=k then m else L j) (c':=fun i=>fI (if i=k then G else H i) (if i=k then m else L i)) hl fun i hi=>?_).pushG g1.size (fun b hb hlt=>g1.block b hlt (by simp;omega)) ?_ (fun _=>hne) hv g2 hv' (fun b hb _=>hb) (fun b hb _=>by omega),fun i hi=>?_⟩,hc1.kept g2 (fun e=>?_) (fun j hj=>?_),(g0.trans g1).andThen g2 (fun j hj=>.inl ?_),hn'⟩
 ·simp only [if_neg (show ¬ i=k by omega),and_self]
 ·simp only [if_true]
  exact hG
 ·show (if i=k then m else L i)<=31
  by_cases e:i=k
  ·rw [if_pos e]
   exact hm
  ·rw [if_neg e]
   exact h31 i (by omega)
 ·have:=hvb c e.symm
  omega
 ·have:=hvb j hj
  have:=hc1.ge;omega
 ·have:=hvb j hj
  omega
theorem qjy {ops:Array Oper} {rest:List Oper} {op:Oper} {act:Act} {Q:Exit->Act->World->Prop} {w wr:World} (w1:World) {W0 len cap c k m N:Nat} {a0:Option Addr} {v y:Value} (hN:N=w1.heap.size) (hgd:op.guard=none) (s x:Operand)
  (ho:op.op=.call { callee:=.builtin .append,args:=#[s,x],argTypes:=#[24,24] }) (hs:act.eval s=v) (hxv:act.eval x=.slice (some ⟨N,0,none⟩) 1 1)
  (DR:DrM w wr W0 len cap a0 c v k) (hW:c<w.heap.size) (hk:k<=5) (g1:wr.grownBy w1 (some c)) (hc1:Cur w1 W0 c a0 len cap) (hx:Lst w1 wr.heap.size y m) (hm:m<=31) (hne:y≠.slice none 0 0)
  (h:∀ v' w',DrM w w' W0 len cap a0 c v' (k+1)->wpList Tryz.prog ops Q rest (act.put op.dst v') w'):
  wpList Tryz.prog ops Q (op :: rest) act (w1.alloc (.cells #[y] 105)):=by
 obtain ⟨u,L,H,hl,h31⟩:=DR.ll
 have hone:∀ z ∈ (#[y]:Array Value).toList,z.oneCell'=true:=by
  intro z hz;simp at hz;rw [hz];obtain ⟨xs,ho,_⟩:=hx
  rcases ho.2 with ⟨e,_⟩ | ⟨g,cp,cur,e,_⟩
  ·exact absurd e hne
  ·rw [e]
   rfl
 refine qbs qr8 w1 hN hgd s x ho 0 v k ((List.range k).map u) hs (qa2 hl.row fun b hb=>g1.block b (hl.row.lt b hb).2 (by have:=hl.rb b hb;simp;omega)) #[y] hxv rfl hone (by omega) (Nat.zero_le _) ?_;intro v' w' o g hv' hn';exact h v' w' (DrM.push hl h31 DR.gr hW g1 hc1 hx hm hne o g hv' hn')
theorem DK.weak {w wr:World} {W0 c:Nat} {a0:Option Addr} {len cap B B' T T':Nat} {y:Sy} {v:Value} (h:DK w wr W0 c a0 len cap B T y v) (hB:B'<=B) (hc:c<B') (hT:T<=T'):DK w wr W0 c a0 len cap B' T' y v:=⟨h.cu,(h.sy.base hB).top hT,h.gr,hc⟩
theorem qsi (n:Nat) (L:Nat->Nat) (H:Nat->Nat->I5):(nwY (nwN n L H) L H).Good:=by
 unfold nwN;by_cases h:snB n L H=true
 ·rw [if_pos h]
  simp only [snB,Bool.and_eq_true] at h;exact .inl (Sy.ok_of h.2)
 ·rw [if_neg h]
  exact .inr ⟨rfl,rfl,rfl,rfl⟩
theorem NwR.form {w w':World} {n:Nat} {L:Nat->Nat} {H:Nat->Nat->I5} {e:Ending} (h:NwR w n L H e w'):∃ pa sa wa ha pc sc wc hc,∃ (Y:Sy) (b:Bool),e=.returned (.tuple #[sysV pa Y.pn pc sa Y.sn sc wa Y.wn wc ha Y.hn hc,.bool b])/\Y.Good/\SysT w' w.heap.size w'.heap.size Y (sysV pa Y.pn pc sa Y.sn sc wa Y.wn wc ha Y.hn hc)/\Below w.heap.size w w':=by
 obtain ⟨pa,pc,sa,sc,wa,wc,ha,hc,rfl,o,b⟩:=h;exact ⟨pa,sa,wa,ha,pc,sc,wc,hc,nwY (nwN n L H) L H,snB n L H,rfl,qsi n L H,o.sysT,b⟩
theorem qi2 (W0 c len cap:Nat) (a0:Option Addr) (w:World) (hc:Cur w W0 c a0 len cap):
  Calls Tryz.prog 210 #[.pointer (some ⟨c,0,none⟩)] w fun e w'=>∃ pa sa wa ha pc sc wc hc y,e=.returned (sysV pa y.pn pc sa y.sn sc wa y.wn wc ha y.hn hc)/\y.Good/\DK w w' W0 c a0 len cap w.heap.size w'.heap.size y (sysV pa y.pn pc sa y.sn sc wa y.wn wc ha y.hn hc):=by
 have hcl:c<w.heap.size:=hc.lt;have hcg:W0<=c:=hc.ge;have C0:Hid (Cur (w.alloc (zQ4)) W0 c a0 len cap/\w.grownBy (w.alloc (zQ4)) (some c)/\BoxC (w.alloc (zQ4)) w.heap.size (.slice none 0 0) (.slice none 0 0) (.slice none 0 0) (.slice none 0 0)/\(∀ j,(w.alloc (zQ4)).frozen? ⟨w.heap.size,j,none⟩=false)/\(w.alloc (zQ4)).heap.size=w.heap.size+1):=⟨hc.alloc _,World.grownBy_alloc _ _ _,BoxC.new w _ _ _ _ _,fun j=>yB _ _ _ _ rfl,by simp⟩
 clear hc
 go_enter Tryz.func210,Tryz.ntmps210
 go_wp2_with fail
 generalize w.alloc (zQ4)=W2 at *;refine (zY W0 c len cap a0 4 W2 C0.1 (by omega) (by omega)).mono ?_;rintro e w1 ⟨z,rfl,⟨z0,z1⟩,hc1,hg1⟩;have D1:Hid (DrM W2 (w1.alloc (.cells #[] 105)) W0 len cap a0 c (.slice (some ⟨w1.heap.size,0,none⟩) 0 0) 0):=DrM.start hc1 hg1;obtain ⟨n,hn,hn4⟩:∃ n:Nat,1+z=(n:Int)/\n<=4:=⟨(1+z).toNat,by omega,by omega⟩
 have hn4':(n:Int)<=4:=by omega
 clear hc1 hg1;go_wp2_with fail
 clear hn z0 z1;generalize w1.alloc (.cells #[] 105)=W3 at *
 go_loopw [4,5] (fun out i wr=>∃ k:Nat,k<=n/\i=.int .i64 k/\Hid (DrM W2 wr W0 len cap a0 c out k)) (fun _ i _=>n - (intOf i).toNat)
 case atStart=>exact ⟨0,Nat.zero_le _,rfl,D1.out⟩
 case round=>
  clear D1;obtain ⟨k,hk,rfl,HR⟩:=hrel;by_cases hlt:k<n
  ·have hlt':(k:Int)<(n:Int):=by omega
   go_wp2_with fail
   refine (qel W0 c len cap a0 n k wr HR.out.cu (by omega) hlt' hn4').mono ?_;rintro e w5 ⟨x5,m5,rfl,⟨m50,m51⟩,hx5,hc5,hg5⟩
   obtain ⟨xa,xc,ex5⟩:∃ xa xc,x5=.slice xa m5 xc:=by
    obtain ⟨xs,ho,_⟩:=hx5;obtain ⟨a,cc,e⟩:=zU ho;exact ⟨a,cc,e⟩
   have hne5:x5≠.slice none 0 0:=fun e=>by
    rw [ex5] at e;simp only [Value.slice.injEq] at e;omega
   subst ex5;have H5:Hid (Lst w5 wr.heap.size (.slice xa m5 xc) m5/\m5<=31/\Value.slice xa m5 xc≠.slice none 0 0/\Cur w5 W0 c a0 len cap/\wr.grownBy w5 (some c)/\k<=5/\c<W2.heap.size):=⟨hx5,by omega,hne5,hc5,hg5,by omega,by rw [C0.2.2.2.2];omega⟩
   clear hx5 m50 m51 hne5 hc5 hg5;go_wp2_with (at_builtin;refine qjy w5 rfl rfl _ _ rfl rfl rfl HR.out H5.2.2.2.2.2.2 H5.2.2.2.2.2.1 H5.2.2.2.2.1 H5.2.2.2.1 H5.1 H5.2.1 H5.2.2.1 ?_;intro v' w6 d6;have D6:Hid (DrM W2 w6 W0 len cap a0 c v' (k+1)):=d6;clear d6)
   go_roundw
   case rel=>exact ⟨k+1,by omega,by go_num,D6.out⟩
   case measure=>simp [intOf];omega
  ·have hkn:k=n:=by omega
   have hD:=HR.out;rw [hkn] at hD;have HD:Hid (DrM W2 wr W0 len cap a0 c u4 n):=hD;clear hD HR;obtain ⟨⟨u,L,H,hl,h31⟩,hcu,hgr,hnn⟩:=HD.out;have hrow:=qex hl
   obtain ⟨g,pc,cur,eu,-⟩:∃ g pc cur,u4=.slice (some ⟨g,0,none⟩) n pc/\cur=(0:Nat):=by
    rcases hl.row.2 with ⟨e,_⟩ | ⟨g,pc,cur,e,_⟩
    ·exact absurd e hnn
    ·exact ⟨g,pc,0,e,rfl⟩
   subst eu
   have HN:Hid (∀ wx,wx=wr->Calls Tryz.prog 44 #[.slice (some ⟨g,0,none⟩) n pc] wx (NwR wx n L H)):=fun wx e=>by
    subst e
    exact qep (some ⟨g,0,none⟩) n pc (fun i=>adOf (u i)) L (fun i=>cpOf (u i)) H _ (by omega) (fun i hi=>by have:=h31 i hi;omega) hrow fun i hi=>by
     obtain ⟨b,cap,e2,hb,hI,-⟩:=atI (hl.own i hi) (hl.nn nzI i hi);rw [e2];exact srcI hb hI
   have hblk:wr.heap[w.heap.size]? = W2.heap[w.heap.size]?:=hgr.block _ (by rw [C0.2.2.2.2];omega) (by simp;omega)
   have B5:Hid (w.grownBy wr (some c)/\Cur wr W0 c a0 len cap/\BoxC wr w.heap.size (.slice none 0 0) (.slice none 0 0) (.slice none 0 0) (.slice none 0 0)/\(∀ j,wr.frozen? ⟨w.heap.size,j,none⟩=false)/\w.heap.size<wr.heap.size):=by
    obtain ⟨h0,h1,h2,h3⟩:=C0.2.2.1;exact ⟨C0.2.1.trans hgr,hcu,⟨(zH hblk).trans h0,(zH hblk).trans h1,(zH hblk).trans h2,(zH hblk).trans h3⟩,fun j=>(zI hblk).trans (C0.2.2.2.1 j),by have:=hgr.size;have:=C0.2.2.2.2;omega⟩
   clear hl h31 hcu hgr hnn hrow hblk C0 HD hkn;go_wp2_with fail
   refine (HN.out _ rfl).mono ?_;rintro e w6 h6;obtain ⟨pa,sa,wa,ha,pc6,sc,wc,hc6,Y,bb,rfl,hY,o6,q6⟩:=h6.form;have K6:Hid (DK w w6 W0 c a0 len cap wr.heap.size w6.heap.size Y (sysV pa Y.pn pc6 sa Y.sn sc wa Y.wn wc ha Y.hn hc6)):=⟨B5.2.1.kept (zZ q6) (by simp) (fun k hk=>by cases hk),o6,B5.1.andThen (zZ q6) (fun j hj=>by cases hj),by have:=B5.2.2.2.2;omega⟩
   have B6:Hid (BoxC w6 w.heap.size (.slice none 0 0) (.slice none 0 0) (.slice none 0 0) (.slice none 0 0)/\(∀ j,w6.frozen? ⟨w.heap.size,j,none⟩=false)/\w.heap.size<wr.heap.size/\wr.heap.size<=w6.heap.size):=⟨B5.2.2.1.below q6,fun j=>((qag q6).2 _ j B5.2.2.2.2).trans (B5.2.2.2.1 j),B5.2.2.2.2,q6.size⟩
   have HG:Hid Y.Good:=hY;clear h6 hY o6 q6 B5 HN;obtain ⟨⟨r0,r1,r2,r3⟩,rf,lw,lr⟩:=B6.out;have l6:w.heap.size<w6.heap.size:=by omega
   have hcN:c≠w.heap.size:=by omega
   have hcM:c≠w6.heap.size:=by omega
   go_wp2;refine bodyPost_ret (v:=sysV pa Y.pn pc6 sa Y.sn sc wa Y.wn wc ha Y.hn hc6) (by simp [results,Tryz.results210,go_sem,r0,r1,r2,r3,l6]) rfl ⟨pa,sa,wa,ha,pc6,sc,wc,hc6,Y,rfl,HG.out,DK.weak (B:=wr.heap.size) (T:=w6.heap.size) ?_ (by omega) hcl (by simp)⟩
   repeat (first | exact K6.out | (refine DK.alloc ?_ _)|(refine DK.set ?_ (by first | omega | simp) (by first | omega | simp) (by first | omega | simp) (by omega) _ _))
theorem qsp (y:Sy) (p:Int):(rdQ y p).length<=4:=by
 unfold rdQ
 split
 ·rename_i h
  have h4:=(Sy.ok_of h.1).cn.1;refine zP (qnz _ _) ?_;unfold chS
  split <;> omega
 ·simp
structure DP (w wr:World) (x:SysIn):Prop where
 bx:BoxC wr w.heap.size (.slice x.pa x.pn x.pc) (.slice x.sa x.sn x.sc) (.slice x.wa x.wn x.wc) (.slice x.ha x.hn x.hc)
 p0:wr.cell? ⟨w.heap.size+1,0,none⟩=some (.int .i64 0)
 p1:wr.cell? ⟨w.heap.size+1,1,none⟩=some (.int .i64 0)
 fr:∀ j,wr.frozen? ⟨w.heap.size+1,j,none⟩=false
theorem DP.blk {w wr w':World} {x:SysIn} (h:DP w wr x) (h0:w'.heap[w.heap.size]? = wr.heap[w.heap.size]?) (h1:w'.heap[w.heap.size+1]? = wr.heap[w.heap.size+1]?):DP w w' x:=by
 obtain ⟨⟨b0,b1,b2,b3⟩,p0,p1,fr⟩:=h;exact ⟨⟨(zH h0).trans b0,(zH h0).trans b1,(zH h0).trans b2,(zH h0).trans b3⟩,(zH h1).trans p0,(zH h1).trans p1,fun j=>(zI h1).trans (fr j)⟩
theorem DP.lt {w wr:World} {x:SysIn} (h:DP w wr x):w.heap.size+1<wr.heap.size:=zJ wr _ h.p0
theorem DP.below {w wr w':World} {x:SysIn} (h:DP w wr x) (hb:Below wr.heap.size wr w'):DP w w' x:=h.blk (hb.block _ (by have:=h.lt;omega)) (hb.block _ h.lt)
theorem DP.draw {w wr w':World} {x:SysIn} {c:Nat} (h:DP w wr x) (hg:wr.grownBy w' (some c)) (hc:c<w.heap.size):DP w w' x:=h.blk (hg.block _ (by have:=h.lt;omega) (by simp;omega)) (hg.block _ h.lt (by simp;omega))
theorem qhu (W0 c len cap B T:Nat) (a0:Option Addr) (y:Sy) (v:Value) (w:World) (hy:y.Sm) (hc:Cur w W0 c a0 len cap) (hs:SysT w B T y v) (hT:T<=w.heap.size) (hB:c<B):
  Calls Tryz.prog 211 #[.pointer (some ⟨c,0,none⟩),v] w fun e w'=>∃ p q:Int,e=.returned (.agg #[.int .i64 p,.int .i64 q])/\DK w w' W0 c a0 len cap B T y v:=by
 obtain ⟨x,rfl,rfl,hX⟩:=hs.x;have hcl:c<w.heap.size:=hc.lt;have hcg:W0<=c:=hc.ge;have hpn:x.pn<=16:=hy.n.1;have hpn':(x.pn:Int)<=16:=by omega
 have HL:Hid x.Len:=hy.inLen;have HK:Hid ((∀ w',Abv c w w'->SysG w' x)/\∀ i,i<x.hn->x.hL i<=x.hC i):=⟨fun w' h=>hX.abv hB h,hX.cap⟩
 have K0:Hid (DK w ((w.alloc (oQ5 x.pa x.pn x.pc x.sa x.sn x.sc x.wa x.wn x.wc x.ha x.hn x.hc)).alloc (.cells #[.int .i64 0,.int .i64 0] 65)) W0 c a0 len cap B T x.y x.v/\DP w ((w.alloc (oQ5 x.pa x.pn x.pc x.sa x.sn x.sc x.wa x.wn x.wc x.ha x.hn x.hc)).alloc (.cells #[.int .i64 0,.int .i64 0] 65)) x/\Abv c w ((w.alloc (oQ5 x.pa x.pn x.pc x.sa x.sn x.sc x.wa x.wn x.wc x.ha x.hn x.hc)).alloc (.cells #[.int .i64 0,.int .i64 0] 65))):=by
  have k0:DK w w W0 c a0 len cap B T x.y x.v:=⟨hc,hs,World.grownBy.refl _ _,hB⟩
  refine ⟨(k0.alloc _).alloc _,⟨(BoxC.new w _ _ _ _ _).below (zQ _ _),zW _ _ _ 0 (by simp),zW _ _ _ 1 (by simp),fun j=>yB _ _ _ _ (by simp)⟩,(Abv.below (zQ _ _)).trans (Abv.below (zQ _ _))⟩
 clear hc hs hX hy
 go_enter Tryz.func211,Tryz.ntmps211
 go_upto_region 1 with fail
 generalize (w.alloc (oQ5 x.pa x.pn x.pc x.sa x.sn x.sc x.wa x.wn x.wc x.ha x.hn x.hc)).alloc (.cells #[.int .i64 0,.int .i64 0] 65)=W2 at *;obtain ⟨b0,-,-,-⟩:=K0.2.1.bx;go_wp2_with fail
 refine (qkz _ _ _).mono ?_;rintro e w1 ⟨n,rfl,⟨n1,n2,n3⟩,rfl⟩;clear b0;have hn16:n<=16:=by omega
 go_wp2_with fail
 refine (zY W0 c len cap a0 n w1 K0.1.cu n2 (by omega)).mono ?_;rintro e w2 ⟨p,rfl,⟨p0,p1⟩,hc2,hg2⟩;have K2:Hid (DK w w2 W0 c a0 len cap B T x.y x.v/\DP w w2 x/\Abv c w w2):=⟨K0.1.draw hc2 hg2,K0.2.1.draw hg2 hcl,K0.2.2.trans (Abv.grown hg2)⟩
 clear hc2 hg2 K0;obtain ⟨b0,b1,b2,b3⟩:=K2.2.1.bx;go_wp2_with fail
 refine (qjm x p w2 (HK.1 w2 K2.2.2) HL.out HK.2).mono ?_;rintro e w3 ⟨u3,rfl,o3,q3⟩;obtain ⟨ra,rc,rfl,rsl⟩:=o3.form;have hr4:=qsp x.y p;generalize rdQ x.y p=R at *;have hr4':(R.length:Int)<=4:=by omega
 have K3:Hid (DK w w3 W0 c a0 len cap B T x.y x.v/\DP w w3 x/\OwnI w3 w2.heap.size (.slice ra R.length rc) R):=⟨K2.1.below q3,K2.2.1.below q3,o3⟩
 have LT2:Hid (w.heap.size+1<w2.heap.size):=K2.2.1.lt;clear b0 b1 b2 b3 o3 q3 K2 rsl;by_cases h0:R.length=0
 ·have h0':¬ (0:Int)<(R.length:Int):=by omega
  go_wp2_with fail
  refine (zY W0 c len cap a0 (n+1) w3 K3.1.cu (by omega) (by omega)).mono ?_;rintro e w4 ⟨q,rfl,⟨q0,q1⟩,hc4,hg4⟩;have K4:Hid (DK w w4 W0 c a0 len cap B T x.y x.v/\DP w w4 x):=⟨K3.1.draw hc4 hg4,K3.2.1.draw hg4 hcl⟩
  clear hc4 hg4 K3;obtain ⟨-,z0,z1,zf⟩:=K4.2;go_wp2;refine bodyPost_ret (v:=.agg #[.int .i64 p,.int .i64 q]) (by simp [results,Tryz.results211,go_sem,z0,z1]) rfl ⟨p,q,rfl,?_⟩;exact (K4.1.set (by omega) (by omega) (by omega) (by omega) _ _).set (by omega) (by omega) (by omega) (by omega) _ _
 ·have h0':(0:Int)<(R.length:Int):=by omega
  go_wp2_with fail
  refine (qbv W0 c len cap a0 9 w3 K3.1.cu (by omega) (by omega)).mono ?_;rintro e w4 ⟨t,rfl,hc4,hg4⟩;have K4:Hid (DK w w4 W0 c a0 len cap B T x.y x.v/\DP w w4 x/\OwnI w4 w2.heap.size (.slice ra R.length rc) R):=⟨K3.1.draw hc4 hg4,K3.2.1.draw hg4 hcl,K3.2.2.ofBlock fun k hk=>hg4.block k (K3.2.2.lt k hk).2 (by have:=(K3.2.2.lt k hk).1;have:=LT2.out;simp;omega)⟩
  clear hc4 hg4 K3
  rcases t with _ | _
  ·go_wp2_with fail
   refine (zY W0 c len cap a0 (R.length:Nat) w4 K4.1.cu (by omega) (by omega)).mono ?_;rintro e w5 ⟨j,rfl,⟨j0,j1⟩,hc5,hg5⟩;have K5:Hid (DK w w5 W0 c a0 len cap B T x.y x.v/\DP w w5 x/\OwnI w5 w2.heap.size (.slice ra R.length rc) R):=⟨K4.1.draw hc5 hg5,K4.2.1.draw hg5 hcl,K4.2.2.ofBlock fun k hk=>hg5.block k (K4.2.2.lt k hk).2 (by have:=(K4.2.2.lt k hk).1;have:=LT2.out;simp;omega)⟩
   clear hc5 hg5 K4;obtain ⟨i,rfl⟩:∃ i:Nat,j=i:=⟨j.toNat,by omega⟩
   obtain ⟨gb,go,rfl,-,gc⟩:=K5.2.2.slOf.at (k:=i) (by omega);obtain ⟨-,z0,z1,zf⟩:=K5.2.1;generalize zi R i=q at *;go_wp2;refine bodyPost_ret (v:=.agg #[.int .i64 p,.int .i64 q]) (by simp [results,Tryz.results211,go_sem,z0,z1]) rfl ⟨p,q,rfl,?_⟩;exact (K5.1.set (by omega) (by omega) (by omega) (by omega) _ _).set (by omega) (by omega) (by omega) (by omega) _ _
  ·go_wp2_with fail
   refine (zY W0 c len cap a0 (n+1) w4 K4.1.cu (by omega) (by omega)).mono ?_;rintro e w5 ⟨q,rfl,⟨q0,q1⟩,hc5,hg5⟩;have K5:Hid (DK w w5 W0 c a0 len cap B T x.y x.v/\DP w w5 x):=⟨K4.1.draw hc5 hg5,K4.2.1.draw hg5 hcl⟩
   clear hc5 hg5 K4;obtain ⟨-,z0,z1,zf⟩:=K5.2;go_wp2;refine bodyPost_ret (v:=.agg #[.int .i64 p,.int .i64 q]) (by simp [results,Tryz.results211,go_sem,z0,z1]) rfl ⟨p,q,rfl,?_⟩;exact (K5.1.set (by omega) (by omega) (by omega) (by omega) _ _).set (by omega) (by omega) (by omega) (by omega) _ _
theorem kndP:Kind 202 65 2 16:=by
 refine ⟨Tryz.underlying202,?_,by omega,by omega⟩;have hinfo:(Tryz.prog.info? 65).map (fun i=>(i.zero,i.size,i.bytes))=some (some (.agg #[.int .i64 0,.int .i64 0]),2,16):=by kernel_rfl
 cases hi:Tryz.prog.info? 65 with
 | none=>rw [hi] at hinfo;cases hinfo
 | some i=>
  rw [hi] at hinfo;simp only [Option.map_some,Option.some.injEq,Prod.mk.injEq] at hinfo;obtain ⟨hz,hs,hb⟩:=hinfo;exact ⟨i,_,rfl,hz,hs,hb,rfl⟩
structure Bx (w:World) (N:Nat) (v0 v1 v2 v3:Value):Prop where
 bx:BoxC w N v0 v1 v2 v3
 fr:∀ j,w.frozen? ⟨N,j,none⟩=false
theorem Bx.blk {w w':World} {N:Nat} {v0 v1 v2 v3:Value} (h:Bx w N v0 v1 v2 v3) (hb:w'.heap[N]? = w.heap[N]?):Bx w' N v0 v1 v2 v3:=by
 obtain ⟨⟨h0,h1,h2,h3⟩,hf⟩:=h;exact ⟨⟨(zH hb).trans h0,(zH hb).trans h1,(zH hb).trans h2,(zH hb).trans h3⟩,fun j=>(zI hb).trans (hf j)⟩
theorem Bx.lt {w:World} {N:Nat} {v0 v1 v2 v3:Value} (h:Bx w N v0 v1 v2 v3):N<w.heap.size:=zJ w _ h.bx.1
theorem Bx.new (w:World) (v0 v1 v2 v3:Value) (t:TypeId):Bx (w.alloc (.cells #[v0,v1,v2,v3] t)) w.heap.size v0 v1 v2 v3:=⟨BoxC.new w _ _ _ _ _,fun _j=>yB _ _ _ _ rfl⟩
theorem Bx.below {w w':World} {N:Nat} {v0 v1 v2 v3:Value} (h:Bx w N v0 v1 v2 v3) (hb:Below w.heap.size w w'):Bx w' N v0 v1 v2 v3:=h.blk (hb.block N h.lt)
theorem Bx.grown {w w':World} {N:Nat} {v0 v1 v2 v3:Value} {r:Option Nat} (h:Bx w N v0 v1 v2 v3) (hg:w.grownBy w' r) (hr:r≠some N):Bx w' N v0 v1 v2 v3:=h.blk (hg.block N h.lt (fun e=>hr e.symm))
theorem Bx.set {w:World} {N M j:Nat} {v0 v1 v2 v3 u:Value} (h:Bx w N v0 v1 v2 v3) (hM:N≠M):Bx (w.setCell ⟨M,j,none⟩ u) N v0 v1 v2 v3:=h.blk (zO _ _ _ _ hM)
theorem Bx.put {w:World} {N:Nat} {v0 v1 v2 v3:Value} (h:Bx w N v0 v1 v2 v3) (u0 u1 u2 u3:Value):Bx ((((w.setCell ⟨N,0,none⟩ u0).setCell ⟨N,1,none⟩ u1).setCell ⟨N,2,none⟩ u2).setCell ⟨N,3,none⟩ u3) N u0 u1 u2 u3:=by
 obtain ⟨⟨h0,h1,h2,h3⟩,hf⟩:=h;exact ⟨⟨by go_cell,by go_cell,by go_cell,by go_cell⟩,fun j=>by simpa using hf j⟩
theorem qnx {N n c k:Nat} (h:(Value.slice (some ⟨N,0,none⟩) n c).ownBlock=some k):N=k:=by
 cases h;rfl
theorem qsj (w:World) {N:Nat} (hN:N=w.heap.size):(w.alloc (.cells #[] 65)).ownsRow 0 65 2 (.slice (some ⟨N,0,none⟩) 0 0) 0 []:=by
 subst hN;exact World.ownsRow_made (base:=0) (e:=65) (size:=2) w #[] 0 (Nat.zero_le _) (by unfold maxLen;omega) (by simp)
theorem Bx.newN (w:World) {N:Nat} (hN:N=w.heap.size) (v0 v1 v2 v3:Value) (t:TypeId):Bx (w.alloc (.cells #[v0,v1,v2,v3] t)) N v0 v1 v2 v3:=by
 subst hN;exact Bx.new w v0 v1 v2 v3 t
structure DR (w wr:World) (W0 c:Nat) (a0:Option Addr) (len cap M:Nat) (s0 s1 s2 s3 v9:Value) (k:Nat):Prop where
 ex:∃ (B T:Nat) (y:Sy) (pa sa wa ha:Option Addr) (pc sc wc hc:Nat),DK w wr W0 c a0 len cap B T y (sysV pa y.pn pc sa y.sn sc wa y.wn wc ha y.hn hc)/\y.Good/\Bx wr (M+1) (.slice pa y.pn pc) (.slice sa y.sn sc) (.slice wa y.wn wc) (.slice ha y.hn hc)/\(M+1<B\/T<=M)/\T<=wr.heap.size/\w.heap.size+2<=B/\∀ g,v9.ownBlock=some g->g<B\/T<=g
 b4:Bx wr w.heap.size (.slice none 0 0) (.slice none 0 0) (.slice none 0 0) (.slice none 0 0)
 b6:Bx wr (w.heap.size+1) (.slice none 0 0) (.slice none 0 0) (.slice none 0 0) (.slice none 0 0)
 b7:Bx wr M s0 s1 s2 s3
 li:∃ m xs,m<=k/\wr.ownsRow 0 65 2 v9 m xs
 lo:∀ g,v9.ownBlock=some g->M+1<g
 le:w.heap.size+1<M/\c<w.heap.size/\W0<=c
section
variable {w wr w':World} {W0 c len cap M k:Nat} {a0:Option Addr} {s0 s1 s2 s3 v9:Value}
theorem DR.keep (h:DR w wr W0 c a0 len cap M s0 s1 s2 s3 v9 k) (hc:Cur w' W0 c a0 len cap) (hs:wr.heap.size<=w'.heap.size) (hb:∀ b,b≠c->b<wr.heap.size->w'.heap[b]? = wr.heap[b]?) (hg:wr.grownBy w' (some c)):DR w w' W0 c a0 len cap M s0 s1 s2 s3 v9 k:=by
 obtain ⟨⟨B,T,y,pa,sa,wa,ha,pc,sc,wc,hh,dk,gd,b8,h1,h2,h3,h4⟩,b4,b6,b7,⟨m,xs,hm,hl⟩,lo,le⟩:=h;refine ⟨⟨B,T,y,pa,sa,wa,ha,pc,sc,wc,hh,dk.draw hc hg,gd,b8.blk (hb _ (by omega) b8.lt),h1,by omega,h3,h4⟩,b4.blk (hb _ (by omega) b4.lt),b6.blk (hb _ (by omega) b6.lt),b7.blk (hb _ (by omega) b7.lt),⟨m,xs,hm,qa2 hl fun g hg=>hb g (by have:=lo g hg;omega) (hl.lt g hg).2⟩,lo,le⟩
theorem DR.draw (h:DR w wr W0 c a0 len cap M s0 s1 s2 s3 v9 k) (hc:Cur w' W0 c a0 len cap) (hg:wr.grownBy w' (some c)):DR w w' W0 c a0 len cap M s0 s1 s2 s3 v9 k:=h.keep hc hg.size (fun b hb hl=>hg.block b hl (by simpa using hb)) hg
theorem DR.cur (h:DR w wr W0 c a0 len cap M s0 s1 s2 s3 v9 k):Cur wr W0 c a0 len cap:=by
 obtain ⟨⟨B,T,y,pa,sa,wa,ha,pc,sc,wc,hh,dk,-⟩,-⟩:=h;exact dk.cu
theorem DR.below (h:DR w wr W0 c a0 len cap M s0 s1 s2 s3 v9 k) (hb:Below wr.heap.size wr w'):DR w w' W0 c a0 len cap M s0 s1 s2 s3 v9 k:=
 h.keep (h.cur.kept (zZ hb) (by simp) (fun k hk=>by cases hk)) hb.size (fun b _ hl=>hb.block b hl) ⟨hb.os,hb.tape,hb.output,hb.size,fun k hk _=>hb.block k hk⟩
theorem DR.app {w1:World} {v':Value} {m:Nat} {xs:List Value} (h:DR w wr W0 c a0 len cap M s0 s1 s2 s3 v9 k) (ho:w1.ownsRow 0 65 2 v' m xs) (hm:m<=k+1) (g:wr.grownBy w1 v9.ownBlock) (hv:∀ j,v'.ownBlock=some j->v9.ownBlock=some j\/wr.heap.size<=j):DR w w1 W0 c a0 len cap M s0 s1 s2 s3 v' (k+1):=by
 obtain ⟨⟨B,T,y,pa,sa,wa,ha,pc,sc,wc,hh,dk,gd,b8,h1,h2,h3,h4⟩,b4,b6,b7,-,lo,le⟩:=h;have hne:∀ b,b<=M+1->v9.ownBlock≠some b:=fun b hb e=>by have:=lo b e;omega
 have l8:=b8.lt;have hT1:=g.size;refine ⟨⟨B,T,y,pa,sa,wa,ha,pc,sc,wc,hh,⟨dk.cu.kept g (fun e=>hne c (by omega) e.symm) (fun j hj=>by have:=lo j hj;omega),dk.sy.keep fun b hB hT hl=>g.block b hl (fun e=>by have:=h4 b e.symm;omega),dk.gr.andThen g (fun j hj=>.inl (by have:=lo j hj;omega)),dk.lt⟩,gd,b8.grown g (hne _ (by omega)),h1,by omega,h3,fun j hj=>(hv j hj).elim (h4 j) fun h=>.inr (by omega)⟩,b4.grown g (hne _ (by omega)),b6.grown g (hne _ (by omega)),b7.grown g (hne _ (by omega)),⟨m,xs,hm,ho⟩,fun j hj=>(hv j hj).elim (lo j) fun h=>by omega,le⟩
end
theorem DK.drew {w wr:World} {W0 c:Nat} {a0:Option Addr} {len cap B T:Nat} {y:Sy} {v:Value} (h:DK w wr W0 c a0 len cap B T y v):DK w wr.drew W0 c a0 len cap B T y v:=⟨h.cu.drew,h.sy.keep fun _ _ _ _=>rfl,⟨h.gr.os,h.gr.tape,h.gr.output,h.gr.size,h.gr.block⟩,h.lt⟩
theorem qi3 (W0 c len cap:Nat) (a0:Option Addr) (most:Int) (w:World) (hc:Cur w W0 c a0 len cap) (m0:0<=most) (m1:most<=200):
  Calls Tryz.prog 182 #[.pointer (some ⟨c,0,none⟩),.int .i64 most] w fun e w'=>∃ (B T:Nat) (y:Sy) (qa qb qc qd:Option Addr) (n0 n1 n2 n3 e0 e1 e2 e3:Nat) (v1:Value) (pa sa wa ha:Option Addr) (pc sc wc hc:Nat),e=.returned (.tuple #[.agg #[.slice qa n0 e0,.slice qb n1 e1,.slice qc n2 e2,.slice qd n3 e3],v1,sysV pa y.pn pc sa y.sn sc wa y.wn wc ha y.hn hc])/\y.Good/\DK w w' W0 c a0 len cap B T y (sysV pa y.pn pc sa y.sn sc wa y.wn wc ha y.hn hc)/\w.heap.size<=B/\T<=w'.heap.size:=by
 have hcl:c<w.heap.size:=hc.lt;have hcg:W0<=c:=hc.ge;have C0:Hid (Cur ((w.alloc (zQ4)).alloc (zQ4)) W0 c a0 len cap/\w.grownBy ((w.alloc (zQ4)).alloc (zQ4)) (some c)/\Bx ((w.alloc (zQ4)).alloc (zQ4)) w.heap.size (.slice none 0 0) (.slice none 0 0) (.slice none 0 0) (.slice none 0 0)/\Bx ((w.alloc (zQ4)).alloc (zQ4)) (w.heap.size+1) (.slice none 0 0) (.slice none 0 0) (.slice none 0 0) (.slice none 0 0)/\((w.alloc (zQ4)).alloc (zQ4)).heap.size=w.heap.size+2):=⟨(hc.alloc _).alloc _,(World.grownBy_alloc _ _ _).trans (World.grownBy_alloc _ _ _),(Bx.new w _ _ _ _ _).below (zQ _ _),Bx.newN _ (by simp) _ _ _ _ _,by simp⟩
 clear hc
 go_enter Tryz.func182,Tryz.ntmps182
 go_wp2_with fail
 generalize (w.alloc (zQ4)).alloc (zQ4)=W2 at *;refine (qi2 W0 c len cap a0 W2 C0.1).mono ?_;rintro e w1 ⟨pa,sa,wa,ha,pc,sc,wc,hh,y,rfl,hy,k1⟩
 have D4:Hid (DR w (((w1.alloc (oQ5 pa y.pn pc sa y.sn sc wa y.wn wc ha y.hn hh)).alloc (oQ5 pa y.pn pc sa y.sn sc wa y.wn wc ha y.hn hh)).alloc (.cells #[] 65)) W0 c a0 len cap w1.heap.size (.slice pa y.pn pc) (.slice sa y.sn sc) (.slice wa y.wn wc) (.slice ha y.hn hh) (.slice (some ⟨w1.heap.size+2,0,none⟩) 0 0) 0):=by
  have hs2:=C0.2.2.2.2;have hs1:=k1.gr.size;have k2:DK w w1 W0 c a0 len cap W2.heap.size w1.heap.size y (sysV pa y.pn pc sa y.sn sc wa y.wn wc ha y.hn hh):=⟨k1.cu,k1.sy,C0.2.1.trans k1.gr,k1.lt⟩
  refine ⟨⟨_,_,y,pa,sa,wa,ha,pc,sc,wc,hh,((k2.alloc _).alloc _).alloc _,hy,(Bx.newN _ (by simp) _ _ _ _ _).below (zQ _ _),.inr (Nat.le_refl _),by simp;omega,by omega,fun g hg=>?_⟩,(((C0.2.2.1.grown k1.gr (by simp;omega)).below (zQ _ _)).below (zQ _ _)).below (zQ _ _),(((C0.2.2.2.1.grown k1.gr (by simp;omega)).below (zQ _ _)).below (zQ _ _)).below (zQ _ _),((Bx.new _ _ _ _ _ _).below (zQ _ _)).below (zQ _ _),⟨0,[],Nat.le_refl _,?_⟩,fun g hg=>?_,by omega,hcl,hcg⟩
  ·have:=qnx hg
   omega
  ·exact qsj _ (by simp)
  ·have:=qnx hg
   omega
 clear k1 hy C0;go_wp2_with fail
 generalize ((w1.alloc (oQ5 pa y.pn pc sa y.sn sc wa y.wn wc ha y.hn hh)).alloc (oQ5 pa y.pn pc sa y.sn sc wa y.wn wc ha y.hn hh)).alloc (.cells #[] 65)=W4 at *;generalize w1.heap.size=M at *;generalize y.pn=sn0 at *;generalize y.sn=sn1 at *;generalize y.wn=sn2 at *;generalize y.hn=sn3 at *;refine (zY W0 c len cap a0 (most+1) W4 D4.out.cur (by omega) (by omega)).mono ?_;rintro e w5 ⟨n,rfl,⟨n0,n1⟩,hc5,hg5⟩;have D5:Hid (DR w w5 W0 c a0 len cap M (.slice pa sn0 pc) (.slice sa sn1 sc) (.slice wa sn2 wc) (.slice ha sn3 hh) (.slice (some ⟨M+2,0,none⟩) 0 0) 0):=D4.out.draw hc5 hg5;clear hc5 hg5 D4;obtain ⟨nn,rfl⟩:∃ nn:Nat,n=nn:=⟨n.toNat,by omega⟩
 have hnn:(nn:Int)<=200:=by omega
 clear n0 n1;go_wp2_with fail
 go_loopw [9,11] (fun v i wr=>∃ k:Nat,k<=nn/\i=.int .i64 k/\Hid (DR w wr W0 c a0 len cap M (.slice pa sn0 pc) (.slice sa sn1 sc) (.slice wa sn2 wc) (.slice ha sn3 hh) v k)) (fun _ i _=>nn - (intOf i).toNat)
 case atStart=>exact ⟨0,Nat.zero_le _,rfl,D5.out⟩
 case round=>
  clear D5;obtain ⟨k,hk,rfl,HR⟩:=hrel;obtain ⟨B,T,y',pa',sa',wa',ha',pc',sc',wc',hh',dk,gd,b8,h1,h2,h3,h4⟩:=HR.out.ex;have DKr:Hid (DK w wr W0 c a0 len cap B T y' (sysV pa' y'.pn pc' sa' y'.sn sc' wa' y'.wn wc' ha' y'.hn hh')/\y'.Good/\T<=wr.heap.size/\w.heap.size+2<=B):=⟨dk,gd,h2,h3⟩
  by_cases hlt:k<nn
  ·have hlt':(k:Int)<(nn:Int):=by omega
   obtain ⟨r0,r1,r2,r3⟩:=b8.bx;clear dk gd b8 h1 h2 h3 h4;go_wp2_with fail
   refine (qhu W0 c len cap B T a0 y' _ wr DKr.2.1.sm DKr.1.cu DKr.1.sy DKr.2.2.1 DKr.1.lt).mono ?_;rintro e w2 ⟨p,q,rfl,k2⟩;have E2:Hid (DR w (w2.alloc (.cells #[.int .i64 p,.int .i64 q] 65)) W0 c a0 len cap M (.slice pa sn0 pc) (.slice sa sn1 sc) (.slice wa sn2 wc) (.slice ha sn3 hh) u9 k):=(HR.out.draw k2.cu k2.gr).below (zQ _ _);have P2:Hid ((w2.alloc (.cells #[.int .i64 p,.int .i64 q] 65)).cell? ⟨w2.heap.size,0,none⟩=some (.int .i64 p)/\(w2.alloc (.cells #[.int .i64 p,.int .i64 q] 65)).cell? ⟨w2.heap.size,1,none⟩=some (.int .i64 q)):=⟨zW _ _ _ 0 rfl,zW _ _ _ 1 rfl⟩
   have L2:Hid (∀ g,u9.ownBlock=some g->g<w2.heap.size):=fun g hg=>by
    obtain ⟨m,xs,-,ho⟩:=(HR.out.draw k2.cu k2.gr).li;exact (ho.lt g hg).2
   clear k2 r0 r1 r2 r3 HR DKr;go_upto_region 9 with fail
   generalize hW3:w2.alloc (.cells #[.int .i64 p,.int .i64 q] 65)=w3 at *;have hs3:w3.heap.size=w2.heap.size+1:=by rw [<- hW3];simp
   have HS3:Hid (w3.heap.size=w2.heap.size+1):=hs3;clear hW3 hs3;generalize w2.heap.size=N at *;obtain ⟨c0,c1⟩:=P2.out;obtain ⟨m,xs,hm,lo9⟩:=E2.out.li;have LO:Hid (w3.ownsRow 0 65 2 u9 m xs/\m<=2000000/\m+1<=k+1):=⟨lo9,by omega,by omega⟩
   clear hm lo9;go_upto_region 10 with (at_builtin;refine qbs kndP w3 rfl rfl _ _ rfl 0 u9 m xs rfl LO.1 #[.int .i64 p,.int .i64 q] rfl rfl (by intro u hu;simp at hu;rcases hu with rfl | rfl <;> rfl) LO.2.1 (Nat.zero_le _) ?_;intro v5 w5 o5 g5 q5 _;have E5:Hid (DR w w5 W0 c a0 len cap M (.slice pa sn0 pc) (.slice sa sn1 sc) (.slice wa sn2 wc) (.slice ha sn3 hh) v5 (k+1)/\w5.cell? ⟨N,0,none⟩=some (.int .i64 p)/\w5.cell? ⟨N,1,none⟩=some (.int .i64 q)):=⟨E2.out.app o5 LO.2.2 g5 q5,(zH (g5.block N (by rw [HS3.out];omega) (fun e=>by have:=L2.out N e.symm;omega))).trans P2.1,(zH (g5.block N (by rw [HS3.out];omega) (fun e=>by have:=L2.out N e.symm;omega))).trans P2.2⟩;clear o5 g5 q5)
   clear c0 c1 E2 P2 L2 LO;obtain ⟨B,T,y',pa',sa',wa',ha',pc',sc',wc',hh',dk,gd,b8,h1,h2,h3,h4⟩:=E5.1.ex;obtain ⟨r0,r1,r2,r3⟩:=b8.bx;obtain ⟨c0,c1⟩:=E5.2
   have HStep:Hid (Calls Tryz.prog 212 #[sysV pa' y'.pn pc' sa' y'.sn sc' wa' y'.wn wc' ha' y'.hn hh',.int .i64 p,.int .i64 q] w5 fun e w'=>∃ v,e=.returned (.tuple #[v,.int .i64 (stC y' p q)])/\qaw true w' w5.heap.size (stY y' p q) v/\Below w5.heap.size w5 w'):=by
    obtain ⟨x,ev,ey,hX⟩:=dk.sy.x;have:=qll x p q w5 hX.self (Sy.Sm.inLen (by rw [ey];exact gd.sm)) hX.cap;rw [<- ev,ey] at this;exact this
   have HGood:Hid (stC y' p q=0->(stY y' p q).Good):=fun h=>gd.step h;clear dk gd b8 h1 h2 h3 h4;go_wp2_with fail
   refine HStep.out.mono ?_;rintro e w6 ⟨v6,rfl,o6,q6⟩;generalize hC:stC y' p q=C at *;generalize hY:stY y' p q=Y at *;obtain ⟨pa6,pc6,sa6,sc6,wa6,wc6,ha6,hc6,rfl⟩:=o6.form;have E6:Hid (DR w w6 W0 c a0 len cap M (.slice pa sn0 pc) (.slice sa sn1 sc) (.slice wa sn2 wc) (.slice ha sn3 hh) v5 (k+1)):=E5.1.below q6;have O6:Hid (SysT w6 w5.heap.size w6.heap.size Y (sysV pa6 Y.pn pc6 sa6 Y.sn sc6 wa6 Y.wn wc6 ha6 Y.hn hc6)/\w5.heap.size<=w6.heap.size/\M+1<w5.heap.size/\(∀ g,v5.ownBlock=some g->g<w5.heap.size)):=⟨o6.sysT,q6.size,by obtain ⟨B,T,y',pa',sa',wa',ha',pc',sc',wc',hh',-,-,b8,-⟩:=E5.1.ex;exact b8.lt,fun g hg=>by obtain ⟨m,xs,-,ho⟩:=E5.1.li;exact (ho.lt g hg).2⟩
   clear hC hY o6 q6 r0 r1 r2 r3 c0 c1 HStep E5;by_cases hc0:C=0
   ·subst hc0
    have gY:=HGood.out rfl;obtain ⟨B,T,y',pa',sa',wa',ha',pc',sc',wc',hh',dk,gd,b8,h1,h2,h3,h4⟩:=E6.out.ex;obtain ⟨⟨r0,r1,r2,r3⟩,rf⟩:=b8;have l8:M+1<w6.heap.size:=by have:=O6.out;omega
    have E7:Hid (DR w ((((w6.setCell ⟨M+1,0,none⟩ (.slice pa6 Y.pn pc6)).setCell ⟨M+1,1,none⟩ (.slice sa6 Y.sn sc6)).setCell ⟨M+1,2,none⟩ (.slice wa6 Y.wn wc6)).setCell ⟨M+1,3,none⟩ (.slice ha6 Y.hn hc6)) W0 c a0 len cap M (.slice pa sn0 pc) (.slice sa sn1 sc) (.slice wa sn2 wc) (.slice ha sn3 hh) v5 (k+1)):=by
     obtain ⟨o7,hs7,hs8,hg7⟩:=O6.out;obtain ⟨-,b4,b6,b7,⟨m,xs,hm,hl⟩,lo,le⟩:=E6.out;have k7:DK w w6 W0 c a0 len cap w5.heap.size w6.heap.size Y (sysV pa6 Y.pn pc6 sa6 Y.sn sc6 wa6 Y.wn wc6 ha6 Y.hn hc6):=⟨dk.cu,o7,dk.gr,by omega⟩
     refine ⟨⟨_,_,Y,pa6,sa6,wa6,ha6,pc6,sc6,wc6,hc6,(((k7.set (by omega) (by omega) (.inl hs8) (by omega) _ _).set (by omega) (by omega) (.inl hs8) (by omega) _ _).set (by omega) (by omega) (.inl hs8) (by omega) _ _).set (by omega) (by omega) (.inl hs8) (by omega) _ _,gY,(show Bx w6 (M+1) _ _ _ _ from ⟨⟨r0,r1,r2,r3⟩,rf⟩).put _ _ _ _,.inl hs8,by simp,by omega,fun g hg=>.inl (hg7 g hg)⟩,(((b4.set (by omega)).set (by omega)).set (by omega)).set (by omega),(((b6.set (by omega)).set (by omega)).set (by omega)).set (by omega),(((b7.set (by omega)).set (by omega)).set (by omega)).set (by omega),⟨m,xs,hm,?_⟩,lo,le⟩
     exact qa2 hl fun g hg=>by
      have hne:g≠M+1:=by have:=lo g hg;omega
      exact (zO _ _ _ _ hne).trans ((zO _ _ _ _ hne).trans ((zO _ _ _ _ hne).trans (zO _ _ _ _ hne)))
    clear dk gd h1 h2 h3 h4 gY HGood E6;go_wp2;go_roundw
    case rel=>exact ⟨k+1,by omega,by go_num,E7.out.below (zQ _ _)⟩
    case measure=>simp [intOf];omega
   ·have tc:(C == 0)=false:=by simpa using hc0
    go_wp2;go_roundw
    case rel=>exact ⟨k+1,by omega,by go_num,E6.out.below (zQ _ _)⟩
    case measure=>simp [intOf];omega
  ·obtain ⟨r0,r1,r2,r3⟩:=b8.bx
   obtain ⟨⟨x0,x1,x2,x3⟩,xf⟩:=HR.out.b4;obtain ⟨⟨z0,z1,z2,z3⟩,zf⟩:=HR.out.b6;obtain ⟨⟨d0,d1,d2,d3⟩,df⟩:=HR.out.b7;have hM:=HR.out.le;have n1:w.heap.size≠M:=by omega
   have n2:w.heap.size≠M+1:=by omega
   have n3:w.heap.size+1≠M:=by omega
   have n4:w.heap.size+1≠M+1:=by omega
   have l4:w.heap.size<wr.heap.size:=zJ wr _ x0;have l6:w.heap.size+1<wr.heap.size:=zJ wr _ z0;clear dk gd b8 h1 h2 h3 h4 HR;go_wp2_with fail
   go_region
   all_goals
    go_wp2;refine bodyPost_ret (v:=.tuple #[.agg #[.slice pa sn0 pc,.slice sa sn1 sc,.slice wa sn2 wc,.slice ha sn3 hh],u9,sysV pa' y'.pn pc' sa' y'.sn sc' wa' y'.wn wc' ha' y'.hn hh']) (by simp [results,Tryz.results182,go_sem,x0,x1,x2,x3,z0,z1,z2,z3]) rfl ⟨B,T,y',pa,sa,wa,ha,sn0,sn1,sn2,sn3,pc,sc,wc,hh,u9,pa',sa',wa',ha',pc',sc',wc',hh',rfl,DKr.2.1,?_,by have:=DKr.2.2.2;omega,?_⟩
    ·refine DK.drew ?_
     iterate 8 (refine DK.set ?_ (by omega) (by omega) (by have:=DKr.out;omega) (by omega) _ _)
     exact DKr.1
    ·have:=DKr.2.2.1
     simpa using this
theorem qoq (a0:Option Addr) (len cap:Nat) (w:World) (hl:len<=1048576):Calls Tryz.prog 183 #[.slice a0 len cap,.int .i64 25,.int .i64 70] w fun e w'=>∃ z:Int,e=.returned (.int .i64 z)/\(25<=z/\z<=70)/\w'=w:=by
 have hl':(len:Int)<=1048576:=by omega
 have ed:Int.tdiv (len:Int) 4=((len / 4:Nat):Int):=(Int.ofNat_tdiv len 4).symm;have hq:len / 4<=1048576:=by omega
 generalize len / 4=q at *;have hq':(q:Int)<=1048576:=by omega
 by_cases t:(70:Int)<25+(q:Int)
 ·go_enter Tryz.func183,Tryz.ntmps183
  go_wp2;go_ret;exact ⟨_,rfl,by omega,rfl⟩
 ·go_enter Tryz.func183,Tryz.ntmps183
  go_wp2;go_ret;exact ⟨_,rfl,by omega,rfl⟩
theorem qg9 (W0 c len cap:Nat) (a0:Option Addr) (w:World) (hc:Cur w W0 c a0 len cap):
  Calls Tryz.prog 149 #[.pointer (some ⟨c,0,none⟩),.slice a0 len cap] w fun e w'=>∃ (B T:Nat) (y:Sy) (pa sa wa ha:Option Addr) (pc sc wc hc:Nat),e=.returned (sysV pa y.pn pc sa y.sn sc wa y.wn wc ha y.hn hc)/\y.Good/\DK w w' W0 c a0 len cap B T y (sysV pa y.pn pc sa y.sn sc wa y.wn wc ha y.hn hc)/\w.heap.size<=B/\T<=w'.heap.size:=by
 have hcl:c<w.heap.size:=hc.lt;have hcg:W0<=c:=hc.ge;have hln:len<=1048576:=hc.ln;have C0:Hid (Cur (w.alloc (zQ4)) W0 c a0 len cap/\w.grownBy (w.alloc (zQ4)) (some c)/\Bx (w.alloc (zQ4)) w.heap.size (.slice none 0 0) (.slice none 0 0) (.slice none 0 0) (.slice none 0 0)/\(w.alloc (zQ4)).heap.size=w.heap.size+1):=⟨hc.alloc _,World.grownBy_alloc _ _ _,Bx.new w _ _ _ _ _,by simp⟩
 clear hc
 go_enter Tryz.func149,Tryz.ntmps149
 go_wp2_with fail
 generalize w.alloc (zQ4)=W2 at *;refine (qoq a0 len cap W2 hln).mono ?_;rintro e w1 ⟨z,rfl,⟨z0,z1⟩,rfl⟩;go_wp2_with fail
 refine (qi3 W0 c len cap a0 z w1 C0.1 (by omega) (by omega)).mono ?_;rintro e w3 ⟨B,T,y,qa,qb,qc,qd,n0,n1,n2,n3,e0,e1,e2,e3,v1,pa,sa,wa,ha,pc,sc,wc,hh,rfl,gd,dk,hB,hT⟩;have K3:Hid (DK w w3 W0 c a0 len cap B T y (sysV pa y.pn pc sa y.sn sc wa y.wn wc ha y.hn hh)/\y.Good/\w.heap.size<B/\T<=w3.heap.size/\Bx w3 w.heap.size (.slice none 0 0) (.slice none 0 0) (.slice none 0 0) (.slice none 0 0)):=⟨⟨dk.cu,dk.sy,C0.2.1.trans dk.gr,dk.lt⟩,gd,by have:=C0.2.2.2;omega,hT,C0.2.2.1.grown dk.gr (by simp;omega)⟩
 clear gd dk hB hT C0;obtain ⟨⟨r0,r1,r2,r3⟩,rf⟩:=K3.2.2.2.2;have l3:w.heap.size<w3.heap.size:=zJ w3 _ r0;have hN:=K3.2.2.1;have hTT:=K3.2.2.2.1;go_wp2;refine bodyPost_ret (v:=sysV pa y.pn pc sa y.sn sc wa y.wn wc ha y.hn hh) (by simp [results,Tryz.results149,go_sem,r0,r1,r2,r3,l3]) rfl ⟨B,T,y,pa,sa,wa,ha,pc,sc,wc,hh,rfl,K3.2.1,?_,by omega,by simp;omega⟩
 repeat (first | exact K3.1 | (refine DK.alloc ?_ _)|(refine DK.set ?_ (by first | omega | simp) (by first | omega | simp) (by first | omega | simp) (by omega) _ _))
theorem qit {p code:Int} {ra oa:Option Addr} {rn rc on oc k:Nat} (h:(Value.slice ra rn rc).ownBlock=some k):qam (stV p ra rn rc oa on oc code) k:=⟨_,_,_,_,rfl,.inl h⟩
theorem LS.reg {w:World} {P:Nat->Prop} {v:Value} {n:Nat} {vs:Nat->Value} {S:Nat->S4} (o:LS w P v n vs S) {i:Nat} (hi:i<n) (h2:(S i).rs.length=4) (x:Int):∃ g cap rb rn rc oa oc,v=.slice (some ⟨g,0,none⟩) n cap/\w.cell? ⟨g,i*4+1,none⟩=some (.slice (some ⟨rb,0,none⟩) 4 rc)/\rn=4/\oa=0/\oc=0/\w.cell? ⟨rb,1,none⟩=some (.int .i64 (zi (S i).rs 1))/\w.frozen? ⟨rb,1,none⟩=false/\P g/\P rb/\rb<w.heap.size/\g<w.heap.size/\LS (w.setCell ⟨rb,1,none⟩ (.int .i64 x)) P v n vs (fun j=>if j=i then ⟨(S i).p,(S i).rs.set 1 x,(S i).os,(S i).c⟩ else S j):=by
 obtain ⟨g,cap,rfl,hPg,hg,⟨a1,c1,a2,c2,ev,-,hc1,-,-⟩,-⟩:=o.cell hi;have hso:=o.own i hi;rw [ev] at hso;obtain ⟨o1,o2,hap⟩:=hso.parts;obtain ⟨rb,cap1,er,hb1,hb2⟩:=o1.block (by rw [h2];omega)
 have hhas:qam (vs i) rb:=by
  rw [ev];exact qit (by rw [er];rfl)
 rw [h2] at er;simp only [Value.slice.injEq] at er;obtain ⟨rfl,-,ec⟩:=er;subst ec;have o1':OwnI w 0 (.slice (some ⟨rb,0,none⟩) (S i).rs.length c1) (S i).rs:=o1;have hcell:=o1'.cell (j:=1) (by rw [h2];omega);have hfr:=o1'.frozen 1;rw [h2] at hc1;refine ⟨g,cap,rb,4,c1,0,0,rfl,hc1,rfl,rfl,rfl,hcell,hfr,hPg,o.ob i hi rb hhas,hb2,hg,?_⟩;have hkeep:∀ k,k≠rb->(w.setCell ⟨rb,1,none⟩ (.int .i64 x)).heap[k]? = w.heap[k]?:=fun k hk=>zO _ _ _ _ hk;refine ⟨qa2 o.row fun k hk=>hkeep k fun e=>o.ra i hi rb hhas (by rw [<- e];exact hk),fun j hj=>?_,o.rb,o.ob,o.ra,o.oa⟩;by_cases ej:j=i
 ·subst ej
  simp only [if_true];have hs:=(o1'.set (n:=(S j).rs.length) rfl 1 x).1;rw [ev];exact ⟨_,_,rfl,hs,o2.blk fun k hk=>hkeep k fun e=>hap rb rfl (by rw [<- e];exact hk),hap⟩
 ·simp only [if_neg ej]
  exact (o.own j hj).blk fun k hk=>hkeep k fun e=>o.oa i j hi hj (fun h=>ej h.symm) rb hhas (by rw [<- e];exact hk)
theorem qus {w:World} {B n c sz:Nat} {e:TypeId} {a:Option Addr} {xs:List Value} (o:w.ownsRow B e sz (.slice a n c) n xs) (hl:xs.length=n*sz):Src w a xs:=by
 rcases o.2 with ⟨e1,h0⟩ | ⟨g,cap,cur,e1,hb,_⟩
 ·exact .inl (List.eq_nil_of_length_eq_zero (by rw [hl,h0,Nat.zero_mul]))
 ·simp only [Value.slice.injEq] at e1
  obtain ⟨rfl,-,rfl⟩:=e1;refine .inr ⟨g,0,rfl,(o.lt g rfl).2,fun j u hj=>?_⟩
  have hlt:j<xs.length:=by
   rcases Nat.lt_or_ge j xs.length with h | h
   ·exact h
   ·rw [List.getElem?_eq_none h] at hj
    cases hj
  rw [Nat.zero_add,World.ownsRow.cellAt o j (by omega)];exact hj
theorem qkr (f:Nat->List Value):∀ n,flat f (n+1)=f 0 ++ flat (fun i=>f (i+1)) n
 | 0=>by simp [flat]
 | n+1=>by
  rw [flat,qkr f n,List.append_assoc];rfl
theorem quh (H:Nat->I2) (x:I2) (n:Nat):fT (fun i=>if i=0 then x else H (i - 1)) (n+1)=cT x ++ fT H n:=by
 show flat (fun i=>cT (if i=0 then x else H (i - 1))) (n+1)=_;rw [qkr];rfl
def SysIn.shift (x:SysIn) (A:Option Addr) (C:Nat):SysIn:={ x with wa:=A,wn:=x.wn - 1,wc:=C,wA:=fun i=>x.wA (i+1),wL:=fun i=>x.wL (i+1),wC:=fun i=>x.wC (i+1),wH:=fun i=>x.wH (i+1) }
theorem SysG.shift {w:World} {x:SysIn} (h:SysG w x) {g:Nat} {A:Option Addr} {C:Nat} (hw:x.wa=some ⟨g,0,none⟩) (hA:x.wn<=1\/A=some ⟨g,1,none⟩):SysG w (x.shift A C):=by
 refine ⟨h.p,h.pi,h.s,?_,fun i hi=>h.wi (i+1) (by have h1:i<x.wn - 1:=hi;omega),h.h,h.hi⟩;show RowS w A (x.wn - 1) fun i=>.slice (x.wA (i+1)) (x.wL (i+1)) (x.wC (i+1))
 rcases hA with h1 | rfl
 ·exact .inl (by omega)
 ·rcases h.w with h0 | ⟨b,off,e,hlt,hc⟩
  ·exact .inl (by omega)
  ·rw [hw] at e
   simp only [Option.some.injEq,Addr.mk.injEq] at e;obtain ⟨rfl,rfl,-⟩:=e;refine .inr ⟨g,1,rfl,hlt,fun i hi=>?_⟩;have:=hc (i+1) (by omega)
   rwa [show 0+(i+1)=1+i by omega] at this
theorem SysX.shift {w:World} {B T:Nat} {x:SysIn} (h:SysX w B T x) {g:Nat} {A:Option Addr} {C:Nat} (hw:x.wa=some ⟨g,0,none⟩) (hA:x.wn<=1\/A=some ⟨g,1,none⟩):SysX w B T (x.shift A C):=
 ⟨fun w' hb=>(h.g w' hb).shift hw hA,h.cap,⟨fun i hi=>h.nn.w (i+1) (by have h1:i<x.wn - 1:=hi;omega),h.nn.h⟩⟩
def Sy.setP (y:Sy) (i m:Nat) (H:Nat->I5):Sy:={ y with pL:=fun j=>if j=i then m else y.pL j,pH:=fun j=>if j=i then H else y.pH j }
theorem OwnS.putP {z:Bool} {w w1:World} {B:Nat} {c:Nat->Nat} {y:Sy} {vs vw vh:Value} {g cap:Nat} {up us uw uh:Nat->Value} (o:OwnS z w B c y (.slice (some ⟨g,0,none⟩) y.pn cap) vs vw vh up us uw uh) {i:Nat} (hi:i<y.pn) {u':Value} {m:Nat} {H':Nat->I5} (hB:B<=w.heap.size) (hs:w.heap.size<=w1.heap.size) (g1:∀ k,k<w.heap.size->(up i).ownBlock≠some k->w1.heap[k]? = w.heap[k]?)
  (hu:w1.ownsRow 0 117 5 u' m (fI H' m)) (hne:u'≠.slice none 0 0) (hb:∀ k,u'.ownBlock=some k->(up i).ownBlock=some k\/w.heap.size<=k):
  OwnS z (w1.setCell ⟨g,i,none⟩ u') B (rcol c w.heap.size 1) (y.setP i m H') (.slice (some ⟨g,0,none⟩) y.pn cap) vs vw vh (fun j=>if j=i then u' else up j) us uw uh:=by
 have hP:∀ q k,Cl B c q k->k<w.heap.size->Cl B (rcol c w.heap.size 1) q k:=fun q k h hl=>h.old hl;have hg:Cl B c 1 g:=o.p.rb g rfl
 have hk:∀ q,q≠1->∀ k,Cl B (rcol c w.heap.size 1) q k->k<w.heap.size->(w1.setCell ⟨g,i,none⟩ u').heap[k]? = w.heap[k]?:=fun q hq k h hl=>by
  have e:c k=q:=(qau hl).symm.trans h.2;refine (zO _ _ _ _ fun ek=>hq ?_).trans (g1 k hl fun ek=>hq ?_)
  ·rw [<- e,ek];exact hg.2
  ·rw [<- e];exact (o.p.ob i hi k ek).2
 refine ⟨?_,(o.s.mono (hP 2)).keep (hk 2 (by decide)),(o.t.mono (hP 3)).keep (hk 3 (by decide)),(o.h.mono (hP 4)).keep (hk 4 (by decide))⟩;have h:=LL.put o.p hi hs g1 hu (fun _=>hne) hb (P':=Cl B (rcol c w.heap.size 1) 1) (hP 1) fun k h _=>⟨zP hB h,qaf h⟩
 have e:(fun j=>if j=i then fI H' m else fI (y.pH j) (y.pL j))=fun j=>fI ((y.setP i m H').pH j) ((y.setP i m H').pL j):=funext fun j=>by
  by_cases q:j=i
  ·simp [Sy.setP,q]
  ·simp [Sy.setP,q]
 rw [e] at h;exact h
def World.cut (w:World) (n:Nat):World:={ w with heap:=w.heap.extract 0 n }
theorem qgm (w:World) {n:Nat} (h:n<=w.heap.size):(World.cut w n).heap.size=n:=by simp [World.cut];omega
theorem qkl (w:World) {n k:Nat} (h:n<=w.heap.size) (hk:k<n):(World.cut w n).heap[k]? = w.heap[k]?:=by
 simp only [World.cut];rw [Array.getElem?_extract];simp;omega
def DrwS (w:World) (W0 c:Nat) (a0:Option Addr) (len cap:Nat) (e:Ending) (w':World):Prop:=∃ (x:SysIn) (B T:Nat),e=.returned x.v/\x.y.Sm/\SysX w' B T x/\Cur w' W0 c a0 len cap/\w.grownBy w' (some c)/\c<B/\T<=w'.heap.size
theorem SysX.keep {w w':World} {B T:Nat} {x:SysIn} (h:SysX w B T x) (hs:w.heap.size<=w'.heap.size) (hb:∀ b,B<=b->b<T->b<w.heap.size->w'.heap[b]? = w.heap[b]?):SysX w' B T x:=
 ⟨fun w2 h2=>h.g w2 fun b h1 h3 h4=>(h2 b h1 h3 (by omega)).trans (hb b h1 h3 h4),h.cap,h.nn⟩
open Go.ChangeShapes Go.WideShapes Go.ChangeAt
variable {z:Bool}
theorem qon (y:Sy) (p:Nat) (k q v0:Int) (w:World) (B:Nat) (c:Nat->Nat) (vp vs vw vh:Value) (up us uw uh:Nat->Value) (o:OwnS z w B c y vp vs vw vh up us uw uh) (hB:B<=w.heap.size) (hO:y.Ok) (hp:p<y.pn) (hk2:k=2->0<=q/\q<y.pn) (hk3:k=3->0<=q/\q<y.pn/\0<y.wL (q.toNat*y.pn+p)):
  Calls Tryz.prog 81 #[.agg #[vp,vs,vw,vh],.int .i64 p,evV k q v0] w fun e w'=>e=.returned (.tuple #[])/\Below B w w'/\(∀ b,b<w.heap.size->c b=0->w'.heap[b]? = w.heap[b]?)/\OwnK z w' B c w.heap.size ((y.evt p k q v0).way p k q v0) vp vs vw vh:=by
 obtain ⟨⟨h1,h4⟩,hs,hh,hw⟩:=hO.cn;have hps:p<y.sn:=by omega
 have hph:p<y.hn:=by omega
 have hw0:0<y.wn:=by rw [hw];exact Nat.mul_pos (by omega) (by omega)
 obtain ⟨gp,cp,rfl,-,-,-,-⟩:=o.p.cell hp;obtain ⟨gs,cs,rfl,-,-,-,-⟩:=o.s.cell hps;obtain ⟨gh,ch,rfl,-,-,-,-⟩:=o.h.cell hph;obtain ⟨gw,cw,rfl,-,-,-,-⟩:=o.t.cell hw0;have hL200:y.hL p<=200:=hO.le200 hp;have HP4:Hid (qad (y.pH p) (y.pL p) 4=true):=hO.four hp;have HST:Hid (OkS (y.pL p) (y.sS p)):=hO.st hp;have HLn:Hid (y.pL p<=maxLen/\(y.sS p).rs.length<=1048576/\(y.sS p).os.length<=1048576):=hO.lens hp;have HWY:Hid (∀ a b,a<y.pn->b<y.pn->y.wL (a*y.pn+b)<=12):=fun a b ha hb=>hO.way ha hb;have HK2:Hid (k=2->0<=q/\q<y.pn):=hk2;have HK3:Hid (k=3->0<=q/\q<y.pn/\0<y.wL (q.toNat*y.pn+p)):=hk3;have HN:Hid (y.sn=y.pn/\y.hn=y.pn/\y.wn=y.pn*y.pn):=⟨hs,hh,hw⟩
 have hp':(p:Int)<(y.pn:Int):=by omega
 have hps':(p:Int)<(y.sn:Int):=by omega
 have hph':(p:Int)<(y.hn:Int):=by omega
 have H0:Hid (Hp z w B c k q v0 y (.slice (some ⟨gp,0,none⟩) y.pn cp) (.slice (some ⟨gs,0,none⟩) y.sn cs) (.slice (some ⟨gw,0,none⟩) y.wn cw) (.slice (some ⟨gh,0,none⟩) y.hn ch) ((w.alloc (oQ5 (some ⟨gp,0,none⟩) y.pn cp (some ⟨gs,0,none⟩) y.sn cs (some ⟨gw,0,none⟩) y.wn cw (some ⟨gh,0,none⟩) y.hn ch)).alloc (oQ0 k q v0))):=by
  have b1:=zQ w (oQ5 (some ⟨gp,0,none⟩) y.pn cp (some ⟨gs,0,none⟩) y.sn cs (some ⟨gw,0,none⟩) y.wn cw (some ⟨gh,0,none⟩) y.hn ch);have b2:=zQ (w.alloc (oQ5 (some ⟨gp,0,none⟩) y.pn cp (some ⟨gs,0,none⟩) y.sn cs (some ⟨gw,0,none⟩) y.wn cw (some ⟨gh,0,none⟩) y.hn ch)) (oQ0 k q v0);have b:=b1.trans (b2.mono b1.size);exact ⟨b.mono hB,(BoxC.new w _ _ _ _ _).below b2,by simpa using EvK.new (w.alloc (oQ5 (some ⟨gp,0,none⟩) y.pn cp (some ⟨gs,0,none⟩) y.sn cs (some ⟨gw,0,none⟩) y.wn cw (some ⟨gh,0,none⟩) y.hn ch)) k q v0 57,fun j hj _=>b.block j hj,_,up,us,uw,uh,(o.recol 0).below b,qaf (Nat.le_refl _),qaf (Nat.le_succ _),fun j hj=>qau hj⟩
 clear o hO hk2 hk3 hw0 hs hh hw
 go_enter Tryz.func81,Tryz.ntmps81
 go_upto_region 1 with fail
 generalize (w.alloc (oQ5 (some ⟨gp,0,none⟩) y.pn cp (some ⟨gs,0,none⟩) y.sn cs (some ⟨gw,0,none⟩) y.wn cw (some ⟨gh,0,none⟩) y.hn ch)).alloc (oQ0 k q v0)=W2 at *;obtain ⟨c9,up9,us9,uw9,uh9,o9,-,-,-⟩:=H0.out.ow;obtain ⟨b0,b1,b2,b3⟩:=H0.out.bx;obtain ⟨k0,k1,k2,kf⟩:=id H0.out.ev;have m0:=H0.out.bx.ltM;have mN:=H0.out.ev.lt;obtain ⟨g9,k9,ew,-,lp,cellp,-⟩:=o9.p.cell hp;simp only [Value.slice.injEq,Option.some.injEq,Addr.mk.injEq,and_true,true_and] at ew;obtain ⟨rfl,rfl⟩:=ew;obtain ⟨b9,cb9,eup,hb9,hI,-⟩:=atI (o9.p.own p hp) (o9.p.nn nzI p hp);rw [eup] at cellp;obtain ⟨g9,k9,ew,-,ls,cels,fs⟩:=o9.s.cell hps;simp only [Value.slice.injEq,Option.some.injEq,Addr.mk.injEq,and_true,true_and] at ew;obtain ⟨rfl,rfl⟩:=ew;obtain ⟨ra9,rc9,oa9,oc9,eus,s0,s1,s2,s3⟩:=cels
 have hsl:Sl W2 ra9 (y.sS p).rs/\Sl W2 oa9 (y.sS p).os:=by
  have h4:=o9.s.own p hps;rw [eus] at h4;exact ⟨h4.parts.1.slOf,h4.parts.2.1.slOf⟩
 clear eup eus;refine qak (fun w'=>w'.cell? ⟨w.heap.size,0,none⟩=some (.slice (some ⟨gp,0,none⟩) y.pn cp)/\w'.cell? ⟨w.heap.size,1,none⟩=some (.slice (some ⟨gs,0,none⟩) y.sn cs)/\w'.cell? ⟨gp,p,none⟩=some (.slice (some ⟨b9,0,none⟩) (y.pL p) cb9)/\w'.cell? ⟨gs,p*4,none⟩=some (.int .i64 (y.sS p).p)/\w'.cell? ⟨gs,p*4+1,none⟩=some (.slice ra9 (y.sS p).rs.length rc9)/\w'.cell? ⟨gs,p*4+2,none⟩=some (.slice oa9 (y.sS p).os.length oc9)/\w'.cell? ⟨gs,p*4+3,none⟩=some (.int .i64 (y.sS p).c)/\w'.cell? ⟨w.heap.size+1,0,none⟩=some (.int .i64 k)/\w'.cell? ⟨w.heap.size+1,1,none⟩=some (.int .i64 q)/\w'.cell? ⟨w.heap.size+1,2,none⟩=some (.int .i64 v0)) (fun i=>i == 19) (by kernel_rfl) ?_;have hHeld:(fun w'=>w'.cell? ⟨w.heap.size,0,none⟩=some (.slice (some ⟨gp,0,none⟩) y.pn cp)/\w'.cell? ⟨w.heap.size,1,none⟩=some (.slice (some ⟨gs,0,none⟩) y.sn cs)/\w'.cell? ⟨gp,p,none⟩=some (.slice (some ⟨b9,0,none⟩) (y.pL p) cb9)/\w'.cell? ⟨gs,p*4,none⟩=some (.int .i64 (y.sS p).p)/\w'.cell? ⟨gs,p*4+1,none⟩=some (.slice ra9 (y.sS p).rs.length rc9)/\w'.cell? ⟨gs,p*4+2,none⟩=some (.slice oa9 (y.sS p).os.length oc9)/\w'.cell? ⟨gs,p*4+3,none⟩=some (.int .i64 (y.sS p).c)/\w'.cell? ⟨w.heap.size+1,0,none⟩=some (.int .i64 k)/\w'.cell? ⟨w.heap.size+1,1,none⟩=some (.int .i64 q)/\w'.cell? ⟨w.heap.size+1,2,none⟩=some (.int .i64 v0)) W2.drew:=⟨b0,b1,cellp,s0,s1,s2,s3,k0,k1,k2⟩
 refine qa7 [0,1,2,3,4,5,6,7,8,9,10,11,12,13] ?_;iterate 14 (refine qat rfl hHeld ?_;apply Exists.intro;refine ⟨fun wq hSw=>?_,?_⟩;(· ((try dsimp only at hSw);go_simp;try with_reducible rfl));(try simp only [Act.put,zD,zE,zF]))
 refine qay ?_;refine qac 14 rfl (by kernel_rfl) (fun K hK=>?_);refine qal rfl 138 _ _ rfl #[.slice (some ⟨b9,0,none⟩) (y.pL p) cb9,stV (y.sS p).p ra9 (y.sS p).rs.length rc9 oa9 (y.sS p).os.length oc9 (y.sS p).c,evV k q v0] (by simp [Act.eval]) (yA Tryz.func138 (by kernel_rfl) rfl) (qnk b9 0 (y.pL p) cb9 (y.pH p) (y.sS p).p (y.sS p).c ra9 oa9 rc9 oc9 (y.sS p).rs (y.sS p).os k q v0 W2.drew HLn.1 hb9 hI HLn.2.1 HLn.2.2 hsl.1 hsl.2 HP4.out) ?_;rintro e w5 ⟨u5,rfl,o5,d5⟩;refine ⟨_,rfl,?_⟩;have HT:Hid (y.evt p k q v0=(y.setS p (doS (y.pH p) (y.pL p) (y.sS p).p (y.sS p).rs (y.sS p).os (y.sS p).c k q v0)).setH p (y.hL p+1) (fun i=>if i=y.hL p then ⟨k,q,v0⟩ else y.hH p i)):=rfl;generalize doS (y.pH p) (y.pL p) (y.sS p).p (y.sS p).rs (y.sS p).os (y.sS p).c k q v0=T at o5 HT;generalize doB (y.pH p) (y.pL p) (y.sS p).p (y.sS p).rs (y.sS p).os (y.sS p).c k q v0=tb;obtain ⟨ra5,rc5,oa5,oc5,rfl,-,-⟩:=o5.read;have q5:Below W2.heap.size W2 w5:=(Below.refl W2.heap.size W2).drew.trans d5;have hc5:=(qag q5).1;have hHeld5:(fun w'=>w'.cell? ⟨w.heap.size,0,none⟩=some (.slice (some ⟨gp,0,none⟩) y.pn cp)/\w'.cell? ⟨w.heap.size,1,none⟩=some (.slice (some ⟨gs,0,none⟩) y.sn cs)/\w'.cell? ⟨gp,p,none⟩=some (.slice (some ⟨b9,0,none⟩) (y.pL p) cb9)/\w'.cell? ⟨gs,p*4,none⟩=some (.int .i64 (y.sS p).p)/\w'.cell? ⟨gs,p*4+1,none⟩=some (.slice ra9 (y.sS p).rs.length rc9)/\w'.cell? ⟨gs,p*4+2,none⟩=some (.slice oa9 (y.sS p).os.length oc9)/\w'.cell? ⟨gs,p*4+3,none⟩=some (.int .i64 (y.sS p).c)/\w'.cell? ⟨w.heap.size+1,0,none⟩=some (.int .i64 k)/\w'.cell? ⟨w.heap.size+1,1,none⟩=some (.int .i64 q)/\w'.cell? ⟨w.heap.size+1,2,none⟩=some (.int .i64 v0)) w5:=⟨(hc5 _ _ m0).trans b0,(hc5 _ _ m0).trans b1,(hc5 _ _ lp).trans cellp,(hc5 _ _ ls).trans s0,(hc5 _ _ ls).trans s1,(hc5 _ _ ls).trans s2,(hc5 _ _ ls).trans s3,(hc5 _ _ mN).trans k0,(hc5 _ _ mN).trans k1,(hc5 _ _ mN).trans k2⟩
 have hf5:∀ j,w5.frozen? ⟨gs,j,none⟩=false:=fun j=>((qag q5).2 _ j ls).trans (fs j);have H1:Hid (Hp z w B c k q v0 (y.setS p T) (.slice (some ⟨gp,0,none⟩) y.pn cp) (.slice (some ⟨gs,0,none⟩) y.sn cs) (.slice (some ⟨gw,0,none⟩) y.wn cw) (.slice (some ⟨gh,0,none⟩) y.hn ch) ((((w5.setCell ⟨gs,p*4,none⟩ (.int .i64 T.p)).setCell ⟨gs,p*4+1,none⟩ (.slice ra5 T.rs.length rc5)).setCell ⟨gs,p*4+2,none⟩ (.slice oa5 T.os.length oc5)).setCell ⟨gs,p*4+3,none⟩ (.int .i64 T.c))):=H0.out.putS hB hps q5 (o5.mono (by simp));refine hK.out _ _ (fun _=>hHeld5) ?_;clear hHeld;have hHeld:=hHeld5;clear hHeld5 hc5 d5;clear hK K
 (try simp only [Act.put,zD,zE,zF])
 refine qa7 [15,16] ?_;iterate 2 (refine qat rfl hHeld ?_;apply Exists.intro;refine ⟨fun wq hSw=>?_,?_⟩;(· ((try dsimp only at hSw);go_simp;try with_reducible rfl));(try simp only [Act.put,zD,zE,zF]))
 refine qay ?_;refine qcv 17 rfl (by kernel_rfl) (by kernel_rfl) (by kernel_rfl) (fun _ _ _ _ h=>h) (by rfl) ?_;apply Exists.intro;refine ⟨fun wq=>?_,?_⟩
 ·go_simp
  try with_reducible rfl
 (try simp only [Act.put,zD,zE,zF])
 refine qaa 18 rfl hHeld ?_;apply Exists.intro;refine ⟨fun wq hSw=>?_,?_⟩
 ·(try dsimp only at hSw)
  go_simp;try with_reducible rfl
 (try simp only [Act.put,zD,zE,zF])
 refine qac 19 rfl (by kernel_rfl) (fun K hK=>?_);obtain ⟨-,-,-,p0,p1,p2,p3,-⟩:=hHeld;go_simp;refine hK.out _ _ (fun h=>?_) ?_
 ·exact absurd h (by decide)
 clear hK K
 (try simp only [Act.put,zD,zE,zF])
 refine qas (by kernel_rfl) ?_ _;clear o9 hb9 hI hsl b0 b1 b2 b3 k0 k1 k2 kf m0 mN lp cellp ls fs s0 s1 s2 s3 q5 hf5 p0 p1 p2 p3 o5;go_upto_region 2 with fail
 generalize ((((w5.setCell ⟨gs,p*4,none⟩ (.int .i64 T.p)).setCell ⟨gs,p*4+1,none⟩ (.slice ra5 T.rs.length rc5)).setCell ⟨gs,p*4+2,none⟩ (.slice oa5 T.os.length oc5)).setCell ⟨gs,p*4+3,none⟩ (.int .i64 T.c))=W3 at *;clear H0;obtain ⟨c9,up9,us9,uw9,uh9,o9,-,-,-⟩:=H1.out.ow;obtain ⟨b0,b1,b2,b3⟩:=H1.out.bx;obtain ⟨k0,k1,k2,kf⟩:=id H1.out.ev;have m0:=H1.out.bx.ltM;have mN:=H1.out.ev.lt;have OH9:LE z W3 (Cl B c9 4) (.slice (some ⟨gh,0,none⟩) y.hn ch) y.hn uh9 y.hL y.hH:=o9.h;obtain ⟨g9,k9,ew,-,lh,cellh,fh⟩:=OH9.cell hph;simp only [Value.slice.injEq,Option.some.injEq,Addr.mk.injEq,and_true,true_and] at ew;obtain ⟨rfl,rfl⟩:=ew;clear OH9
 have HEq:Hid (∀ wx,Below W3.heap.size W3 wx->Calls Tryz.prog 139 #[sysV (some ⟨gp,0,none⟩) y.pn cp (some ⟨gs,0,none⟩) y.sn cs (some ⟨gw,0,none⟩) y.wn cw (some ⟨gh,0,none⟩) y.hn ch,.int .i64 p] wx fun e w'=>e=.returned (.agg #[.slice (adOf (uh9 p)) (y.hL p) (cpOf (uh9 p)),.int .i64 200])/\Below wx.heap.size wx w'):=fun wx hb=>by
  have h:=qek _ p wx (o9.g.below hb) hph;rw [o9.v] at h;exact h
 have HWi:Hid (∀ wx,Below W3.heap.size W3 wx->Calls Tryz.prog 140 #[.agg #[.slice (adOf (uh9 p)) (y.hL p) (cpOf (uh9 p)),.int .i64 200],.agg #[.int .i64 k,.int .i64 q,.int .i64 v0]] wx fun e w'=>∃ v,e=.returned v/\w'.ownsRow wx.heap.size 57 3 v (y.hL p+1) (fE (fun i=>if i=y.hL p then ⟨k,q,v0⟩ else y.hH p i) (y.hL p+1))/\v≠.slice none 0 0/\Below wx.heap.size wx w'):=fun wx hb=>qjv _ (y.hL p) _ 200 (y.hH p) ⟨k,q,v0⟩ wx (by omega) (srcE ((o9.g.below hb).hi p hph));refine qak (fun w'=>w'.cell? ⟨w.heap.size,0,none⟩=some (.slice (some ⟨gp,0,none⟩) y.pn cp)/\w'.cell? ⟨w.heap.size,1,none⟩=some (.slice (some ⟨gs,0,none⟩) y.sn cs)/\w'.cell? ⟨w.heap.size,2,none⟩=some (.slice (some ⟨gw,0,none⟩) y.wn cw)/\w'.cell? ⟨w.heap.size,3,none⟩=some (.slice (some ⟨gh,0,none⟩) y.hn ch)/\w'.cell? ⟨w.heap.size+1,0,none⟩=some (.int .i64 k)/\w'.cell? ⟨w.heap.size+1,1,none⟩=some (.int .i64 q)/\w'.cell? ⟨w.heap.size+1,2,none⟩=some (.int .i64 v0)/\w'.cell? ⟨gh,p,none⟩=some (uh9 p)) (fun i=>i == 9) (by kernel_rfl) ?_;have hHeld:(fun w'=>w'.cell? ⟨w.heap.size,0,none⟩=some (.slice (some ⟨gp,0,none⟩) y.pn cp)/\w'.cell? ⟨w.heap.size,1,none⟩=some (.slice (some ⟨gs,0,none⟩) y.sn cs)/\w'.cell? ⟨w.heap.size,2,none⟩=some (.slice (some ⟨gw,0,none⟩) y.wn cw)/\w'.cell? ⟨w.heap.size,3,none⟩=some (.slice (some ⟨gh,0,none⟩) y.hn ch)/\w'.cell? ⟨w.heap.size+1,0,none⟩=some (.int .i64 k)/\w'.cell? ⟨w.heap.size+1,1,none⟩=some (.int .i64 q)/\w'.cell? ⟨w.heap.size+1,2,none⟩=some (.int .i64 v0)/\w'.cell? ⟨gh,p,none⟩=some (uh9 p)) W3.drew:=⟨b0,b1,b2,b3,k0,k1,k2,cellh⟩
 refine qa7 [0,1,2,3,4,6] ?_;iterate 6 (refine qat rfl hHeld ?_;apply Exists.intro;refine ⟨fun wq hSw=>?_,?_⟩;(· ((try dsimp only at hSw);go_simp;try with_reducible rfl));(try simp only [Act.put,zD,zE,zF]))
 refine qay ?_;refine qac 5 rfl (by kernel_rfl) (fun K hK=>?_);refine qal rfl 139 _ _ rfl #[sysV (some ⟨gp,0,none⟩) y.pn cp (some ⟨gs,0,none⟩) y.sn cs (some ⟨gw,0,none⟩) y.wn cw (some ⟨gh,0,none⟩) y.hn ch,.int .i64 p] (by simp [Act.eval]) (yA Tryz.func139 (by kernel_rfl) rfl) (HEq.out W3.drew (Below.refl W3.heap.size W3).drew) ?_;rintro e w5 ⟨rfl,d5⟩;refine ⟨_,rfl,?_⟩;have q5:Below W3.heap.size W3 w5:=(Below.refl W3.heap.size W3).drew.trans d5;have hc5:=(qag q5).1;refine hK.out _ _ (fun _=>⟨(hc5 _ _ m0).trans b0,(hc5 _ _ m0).trans b1,(hc5 _ _ m0).trans b2,(hc5 _ _ m0).trans b3,(hc5 _ _ mN).trans k0,(hc5 _ _ mN).trans k1,(hc5 _ _ mN).trans k2,(hc5 _ _ lh).trans cellh⟩) ?_;clear hc5 d5;clear hK K
 (try simp only [Act.put,zD,zE,zF])
 refine qac 7 rfl (by kernel_rfl) (fun K hK=>?_);refine qal rfl 140 _ _ rfl #[.agg #[.slice (adOf (uh9 p)) (y.hL p) (cpOf (uh9 p)),.int .i64 200],.agg #[.int .i64 k,.int .i64 q,.int .i64 v0]] (by simp [Act.eval]) (yA Tryz.func140 (by kernel_rfl) rfl) (HWi.out w5 q5) ?_;rintro e w6 ⟨v6,rfl,o6,n6,d6⟩;refine ⟨_,rfl,?_⟩;have q6:Below W3.heap.size W3 w6:=q5.trans (d6.mono q5.size);have hc6:=(qag q6).1;have hHeld6:(fun w'=>w'.cell? ⟨w.heap.size,0,none⟩=some (.slice (some ⟨gp,0,none⟩) y.pn cp)/\w'.cell? ⟨w.heap.size,1,none⟩=some (.slice (some ⟨gs,0,none⟩) y.sn cs)/\w'.cell? ⟨w.heap.size,2,none⟩=some (.slice (some ⟨gw,0,none⟩) y.wn cw)/\w'.cell? ⟨w.heap.size,3,none⟩=some (.slice (some ⟨gh,0,none⟩) y.hn ch)/\w'.cell? ⟨w.heap.size+1,0,none⟩=some (.int .i64 k)/\w'.cell? ⟨w.heap.size+1,1,none⟩=some (.int .i64 q)/\w'.cell? ⟨w.heap.size+1,2,none⟩=some (.int .i64 v0)/\w'.cell? ⟨gh,p,none⟩=some (uh9 p)) w6:=⟨(hc6 _ _ m0).trans b0,(hc6 _ _ m0).trans b1,(hc6 _ _ m0).trans b2,(hc6 _ _ m0).trans b3,(hc6 _ _ mN).trans k0,(hc6 _ _ mN).trans k1,(hc6 _ _ mN).trans k2,(hc6 _ _ lh).trans cellh⟩
 have hf6:∀ j,w6.frozen? ⟨gh,j,none⟩=false:=fun j=>((qag q6).2 _ j lh).trans (fh j);obtain ⟨a6,c6,rfl⟩:=zU o6
 have H2:Hid (Hp z w B c k q v0 (y.evt p k q v0) (.slice (some ⟨gp,0,none⟩) y.pn cp) (.slice (some ⟨gs,0,none⟩) y.sn cs) (.slice (some ⟨gw,0,none⟩) y.wn cw) (.slice (some ⟨gh,0,none⟩) y.hn ch) (w6.setCell ⟨gh,p,none⟩ (.slice a6 (y.hL p+1) c6))):=by
  have h:=H1.out.putH hB hph q6 (o6.mono q5.size) n6;show Hp z w B c k q v0 (y.evt p k q v0) (.slice (some ⟨gp,0,none⟩) y.pn cp) (.slice (some ⟨gs,0,none⟩) y.sn cs) (.slice (some ⟨gw,0,none⟩) y.wn cw) (.slice (some ⟨gh,0,none⟩) y.hn ch) _;rw [HT.out];exact h
 refine hK.out _ _ (fun _=>hHeld6) ?_;clear hHeld;have hHeld:=hHeld6;clear hHeld6 hc6 d6 o6 n6;clear hK K
 (try simp only [Act.put,zD,zE,zF])
 refine qaa 8 rfl hHeld ?_;apply Exists.intro;refine ⟨fun wq hSw=>?_,?_⟩
 ·(try dsimp only at hSw)
  go_simp;try with_reducible rfl
 (try simp only [Act.put,zD,zE,zF])
 refine qac 9 rfl (by kernel_rfl) (fun K hK=>?_);have hcN:=hHeld.2.2.2.2.2.2.2;have hfN:=hf6 p;go_simp;refine hK.out _ _ (fun h=>?_) ?_
 ·exact absurd h (by decide)
 clear hK K
 (try simp only [Act.put,zD,zE,zF])
 refine qas (by kernel_rfl) ?_ _;clear o9 b0 b1 b2 b3 k0 k1 k2 kf m0 mN lh cellh fh q5 q6 hf6 hcN hfN HEq HWi hHeld HT;go_upto_region 3 with fail
 generalize w6.setCell ⟨gh,p,none⟩ (.slice a6 (y.hL p+1) c6)=W4 at *;clear H1
 rcases zK (k == 2) with t2 | t2
 ·have hk:k=2:=by simpa using t2
  obtain ⟨g1,g2⟩:=HK2.out hk;obtain ⟨r,rfl⟩:∃ r:Nat,q=r:=⟨q.toNat,by omega⟩
  have hr:r<y.pn:=by omega
  have hJ:p*y.pn+r<y.wn:=by rw [HN.2.2];exact qlt hp hr
  have h12:y.wL (p*y.pn+r)<=12:=HWY.out p r hp hr;have hr4:r<4:=by omega
  have hp4:p<4:=by omega
  have HY:Hid ((y.evt p k (r:Int) v0).way p k (r:Int) v0=(y.evt p k (r:Int) v0).setW (p*y.pn+r) (y.wL (p*y.pn+r)+1) (fun i=>if i=y.wL (p*y.pn+r) then ⟨false,v0⟩ else y.wH (p*y.pn+r) i)):=by
   show (y.evt p k (r:Int) v0).way p k (r:Int) v0=_;rw [show (y.evt p k (r:Int) v0).way p k (r:Int) v0=(y.evt p k (r:Int) v0).way p 2 (r:Int) v0 by rw [hk],Sy.way_send];rfl
  have HNu0:∀ x:SysIn,x.pn=y.pn->∀ wx,Calls Tryz.prog 143 #[x.v,.int .i64 p,.int .i64 r] wx fun e w'=>e=.returned (.int .i64 (p*y.pn+r:Nat))/\Below wx.heap.size wx w':=fun x e wx=>by
   have h:=qdq x p r wx hp4 hr4 (by omega);rw [e] at h;exact h
  have HQu0:∀ x:SysIn,x.pn=y.pn->∀ wx,SysG wx x->p*y.pn+r<x.wn->Calls Tryz.prog 141 #[x.v,.int .i64 p,.int .i64 r] wx fun e w'=>e=.returned (.agg #[.slice (x.wA (p*y.pn+r)) (x.wL (p*y.pn+r)) (x.wC (p*y.pn+r)),.int .i64 12])/\Below wx.heap.size wx w':=fun x e wx hg hw=>by
   have h:=qc4 x p r wx hg hp4 hr4 (by omega) (by rw [e];exact hw);rw [e] at h;exact h
  generalize p*y.pn+r=J at *;have hJ':(J:Int)<(y.wn:Int):=by omega
  obtain ⟨c9,up9,us9,uw9,uh9,o9,-,-,-⟩:=H2.out.ow;obtain ⟨b0,b1,b2,b3⟩:=H2.out.bx;obtain ⟨k0,k1,k2,kf⟩:=id H2.out.ev;have m0:=H2.out.bx.ltM;have mN:=H2.out.ev.lt;have OT9:LT z W4 (Cl B c9 3) (.slice (some ⟨gw,0,none⟩) y.wn cw) y.wn uw9 y.wL y.wH:=o9.t;obtain ⟨g9,k9,ew,-,lw,cellw,fw⟩:=OT9.cell hJ;simp only [Value.slice.injEq,Option.some.injEq,Addr.mk.injEq,and_true,true_and] at ew;obtain ⟨rfl,rfl⟩:=ew
  have HNu:Hid (∀ wx,Calls Tryz.prog 143 #[sysV (some ⟨gp,0,none⟩) y.pn cp (some ⟨gs,0,none⟩) y.sn cs (some ⟨gw,0,none⟩) y.wn cw (some ⟨gh,0,none⟩) y.hn ch,.int .i64 p,.int .i64 r] wx fun e w'=>e=.returned (.int .i64 (J:Nat))/\Below wx.heap.size wx w'):=fun wx=>by
   have h:=HNu0 ((y.evt p k (r:Int) v0).sysIn (.slice (some ⟨gp,0,none⟩) y.pn cp) (.slice (some ⟨gs,0,none⟩) y.sn cs) (.slice (some ⟨gw,0,none⟩) y.wn cw) (.slice (some ⟨gh,0,none⟩) y.hn ch) up9 us9 uw9 uh9) rfl wx;rw [o9.v] at h;exact h
  have HQu:Hid (∀ wx,Below W4.heap.size W4 wx->Calls Tryz.prog 141 #[sysV (some ⟨gp,0,none⟩) y.pn cp (some ⟨gs,0,none⟩) y.sn cs (some ⟨gw,0,none⟩) y.wn cw (some ⟨gh,0,none⟩) y.hn ch,.int .i64 p,.int .i64 r] wx fun e w'=>e=.returned (.agg #[.slice (adOf (uw9 J)) (y.wL J) (cpOf (uw9 J)),.int .i64 12])/\Below wx.heap.size wx w'):=fun wx hb=>by
   have h:=HQu0 ((y.evt p k (r:Int) v0).sysIn (.slice (some ⟨gp,0,none⟩) y.pn cp) (.slice (some ⟨gs,0,none⟩) y.sn cs) (.slice (some ⟨gw,0,none⟩) y.wn cw) (.slice (some ⟨gh,0,none⟩) y.hn ch) up9 us9 uw9 uh9) rfl wx (o9.g.below hb) hJ;rw [o9.v] at h;exact h
  have HWi:Hid (∀ wx,Below W4.heap.size W4 wx->Calls Tryz.prog 142 #[.agg #[.slice (adOf (uw9 J)) (y.wL J) (cpOf (uw9 J)),.int .i64 12],.agg #[.bool false,.int .i64 v0]] wx fun e w'=>∃ a c,e=.returned (.slice a (y.wL J+1) c)/\w'.ownsRow wx.heap.size 78 2 (.slice a (y.wL J+1) c) (y.wL J+1) (fT (fun i=>if i=y.wL J then ⟨false,v0⟩ else y.wH J i) (y.wL J+1))/\Value.slice a (y.wL J+1) c≠.slice none 0 0/\Below wx.heap.size wx w'):=fun wx hb=>(qlu _ (y.wL J) _ 12 (y.wH J) ⟨false,v0⟩ wx (by omega) (srcT ((o9.g.below hb).wi J hJ))).mono fun e w' ⟨v,e1,e2,e3,e4⟩=>by
   obtain ⟨a,c,rfl⟩:=zU e2;exact ⟨a,c,e1,e2,e3,e4⟩
  clear HNu0 HQu0 o9 OT9 hk;go_upto_region 5 with fail
  refine qak (fun w'=>w'.cell? ⟨w.heap.size,0,none⟩=some (.slice (some ⟨gp,0,none⟩) y.pn cp)/\w'.cell? ⟨w.heap.size,1,none⟩=some (.slice (some ⟨gs,0,none⟩) y.sn cs)/\w'.cell? ⟨w.heap.size,2,none⟩=some (.slice (some ⟨gw,0,none⟩) y.wn cw)/\w'.cell? ⟨w.heap.size,3,none⟩=some (.slice (some ⟨gh,0,none⟩) y.hn ch)/\w'.cell? ⟨w.heap.size+1,1,none⟩=some (.int .i64 (r:Int))/\w'.cell? ⟨w.heap.size+1,2,none⟩=some (.int .i64 v0)/\w'.cell? ⟨gw,J,none⟩=some (uw9 J)) (fun i=>i == 17) (by kernel_rfl) ?_;have hHeld:(fun w'=>w'.cell? ⟨w.heap.size,0,none⟩=some (.slice (some ⟨gp,0,none⟩) y.pn cp)/\w'.cell? ⟨w.heap.size,1,none⟩=some (.slice (some ⟨gs,0,none⟩) y.sn cs)/\w'.cell? ⟨w.heap.size,2,none⟩=some (.slice (some ⟨gw,0,none⟩) y.wn cw)/\w'.cell? ⟨w.heap.size,3,none⟩=some (.slice (some ⟨gh,0,none⟩) y.hn ch)/\w'.cell? ⟨w.heap.size+1,1,none⟩=some (.int .i64 (r:Int))/\w'.cell? ⟨w.heap.size+1,2,none⟩=some (.int .i64 v0)/\w'.cell? ⟨gw,J,none⟩=some (uw9 J)) W4.drew:=⟨b0,b1,b2,b3,k1,k2,cellw⟩
  have q0:Below W4.heap.size W4 W4.drew:=(Below.refl W4.heap.size W4).drew;refine qa7 [0,1,2,3,4,5,7,8,9,10,12,13,14] ?_;iterate 13 (refine qat rfl hHeld ?_;apply Exists.intro;refine ⟨fun wq hSw=>?_,?_⟩;(· ((try dsimp only at hSw);go_simp;try with_reducible rfl));(try simp only [Act.put,zD,zE,zF]))
  refine qay ?_;refine qac 6 rfl (by kernel_rfl) (fun K hK=>?_);refine qal rfl 143 _ _ rfl #[sysV (some ⟨gp,0,none⟩) y.pn cp (some ⟨gs,0,none⟩) y.sn cs (some ⟨gw,0,none⟩) y.wn cw (some ⟨gh,0,none⟩) y.hn ch,.int .i64 (p:Nat),.int .i64 (r:Nat)] (by simp [Act.eval]) (yA Tryz.func143 (by kernel_rfl) rfl) (HNu.out W4.drew) ?_;rintro e wa ⟨rfl,d5⟩;refine ⟨_,rfl,?_⟩;have qwa:Below W4.heap.size W4 wa:=q0.trans (d5.mono q0.size);have hcwa:=(qag qwa).1;have hHeldwa:(fun w'=>w'.cell? ⟨w.heap.size,0,none⟩=some (.slice (some ⟨gp,0,none⟩) y.pn cp)/\w'.cell? ⟨w.heap.size,1,none⟩=some (.slice (some ⟨gs,0,none⟩) y.sn cs)/\w'.cell? ⟨w.heap.size,2,none⟩=some (.slice (some ⟨gw,0,none⟩) y.wn cw)/\w'.cell? ⟨w.heap.size,3,none⟩=some (.slice (some ⟨gh,0,none⟩) y.hn ch)/\w'.cell? ⟨w.heap.size+1,1,none⟩=some (.int .i64 (r:Int))/\w'.cell? ⟨w.heap.size+1,2,none⟩=some (.int .i64 v0)/\w'.cell? ⟨gw,J,none⟩=some (uw9 J)) wa:=⟨(hcwa _ _ m0).trans b0,(hcwa _ _ m0).trans b1,(hcwa _ _ m0).trans b2,(hcwa _ _ m0).trans b3,(hcwa _ _ mN).trans k1,(hcwa _ _ mN).trans k2,(hcwa _ _ lw).trans cellw⟩
  refine hK.out _ _ (fun _=>hHeldwa) ?_;clear hK K d5
  (try simp only [Act.put,zD,zE,zF])
  refine qac 11 rfl (by kernel_rfl) (fun K hK=>?_);refine qal rfl 141 _ _ rfl #[sysV (some ⟨gp,0,none⟩) y.pn cp (some ⟨gs,0,none⟩) y.sn cs (some ⟨gw,0,none⟩) y.wn cw (some ⟨gh,0,none⟩) y.hn ch,.int .i64 (p:Nat),.int .i64 (r:Nat)] (by simp [Act.eval]) (yA Tryz.func141 (by kernel_rfl) rfl) (HQu.out wa qwa) ?_;rintro e wb ⟨rfl,d5⟩;refine ⟨_,rfl,?_⟩;have qwb:Below W4.heap.size W4 wb:=qwa.trans (d5.mono qwa.size);have hcwb:=(qag qwb).1;have hHeldwb:(fun w'=>w'.cell? ⟨w.heap.size,0,none⟩=some (.slice (some ⟨gp,0,none⟩) y.pn cp)/\w'.cell? ⟨w.heap.size,1,none⟩=some (.slice (some ⟨gs,0,none⟩) y.sn cs)/\w'.cell? ⟨w.heap.size,2,none⟩=some (.slice (some ⟨gw,0,none⟩) y.wn cw)/\w'.cell? ⟨w.heap.size,3,none⟩=some (.slice (some ⟨gh,0,none⟩) y.hn ch)/\w'.cell? ⟨w.heap.size+1,1,none⟩=some (.int .i64 (r:Int))/\w'.cell? ⟨w.heap.size+1,2,none⟩=some (.int .i64 v0)/\w'.cell? ⟨gw,J,none⟩=some (uw9 J)) wb:=⟨(hcwb _ _ m0).trans b0,(hcwb _ _ m0).trans b1,(hcwb _ _ m0).trans b2,(hcwb _ _ m0).trans b3,(hcwb _ _ mN).trans k1,(hcwb _ _ mN).trans k2,(hcwb _ _ lw).trans cellw⟩
  refine hK.out _ _ (fun _=>hHeldwb) ?_;clear hK K d5
  (try simp only [Act.put,zD,zE,zF])
  refine qac 15 rfl (by kernel_rfl) (fun K hK=>?_);refine qal rfl 142 _ _ rfl #[.agg #[.slice (adOf (uw9 J)) (y.wL J) (cpOf (uw9 J)),.int .i64 12],.agg #[.bool false,.int .i64 v0]] (by simp [Act.eval]) (yA Tryz.func142 (by kernel_rfl) rfl) (HWi.out wb qwb) ?_;rintro e wd ⟨a6,c6,rfl,o6,n6,d6⟩;refine ⟨_,rfl,?_⟩;have qwd:Below W4.heap.size W4 wd:=qwb.trans (d6.mono qwb.size);have hcwd:=(qag qwd).1;have hHeldwd:(fun w'=>w'.cell? ⟨w.heap.size,0,none⟩=some (.slice (some ⟨gp,0,none⟩) y.pn cp)/\w'.cell? ⟨w.heap.size,1,none⟩=some (.slice (some ⟨gs,0,none⟩) y.sn cs)/\w'.cell? ⟨w.heap.size,2,none⟩=some (.slice (some ⟨gw,0,none⟩) y.wn cw)/\w'.cell? ⟨w.heap.size,3,none⟩=some (.slice (some ⟨gh,0,none⟩) y.hn ch)/\w'.cell? ⟨w.heap.size+1,1,none⟩=some (.int .i64 (r:Int))/\w'.cell? ⟨w.heap.size+1,2,none⟩=some (.int .i64 v0)/\w'.cell? ⟨gw,J,none⟩=some (uw9 J)) wd:=⟨(hcwd _ _ m0).trans b0,(hcwd _ _ m0).trans b1,(hcwd _ _ m0).trans b2,(hcwd _ _ m0).trans b3,(hcwd _ _ mN).trans k1,(hcwd _ _ mN).trans k2,(hcwd _ _ lw).trans cellw⟩
  replace o6:=o6.mono qwb.size;have hfw:∀ j,wd.frozen? ⟨gw,j,none⟩=false:=fun j=>((qag qwd).2 _ j lw).trans (fw j);have H3:Hid (Hp z w B c k (r:Int) v0 ((y.evt p k (r:Int) v0).setW J (y.wL J+1) (fun i=>if i=y.wL J then ⟨false,v0⟩ else y.wH J i)) (.slice (some ⟨gp,0,none⟩) y.pn cp) (.slice (some ⟨gs,0,none⟩) y.sn cs) (.slice (some ⟨gw,0,none⟩) y.wn cw) (.slice (some ⟨gh,0,none⟩) y.hn ch) (wd.setCell ⟨gw,J,none⟩ (.slice a6 (y.wL J+1) c6))):=H2.out.putW hB hJ qwd o6 n6;refine hK.out _ _ (fun _=>hHeldwd) ?_;clear hHeld;have hHeld:=hHeldwd;clear hK K
  (try simp only [Act.put,zD,zE,zF])
  refine qaa 16 rfl hHeld ?_;apply Exists.intro;refine ⟨fun wq hSw=>?_,?_⟩
  ·(try dsimp only at hSw)
   go_simp;try with_reducible rfl
  (try simp only [Act.put,zD,zE,zF])
  refine qac 17 rfl (by kernel_rfl) (fun K hK=>?_);have hcN:=hHeld.2.2.2.2.2.2;have hfN:=hfw J;go_simp;refine hK.out _ _ (fun h=>?_) ?_
  ·exact absurd h (by decide)
  clear hK K
  (try simp only [Act.put,zD,zE,zF])
  refine qas (by kernel_rfl) ?_ _;clear hcN hfN hHeld hfw;go_wp2_with fail
  go_end0
  exact ⟨rfl, H3.out.be, H3.out.kp, by
   rw [HY.out]
   exact H3.out.ownK⟩
 rcases zK (k == 3) with t3 | t3
 ·have hk:k=3:=by simpa using t3
  obtain ⟨g1,g2,g3⟩:=HK3.out hk;obtain ⟨r,rfl⟩:∃ r:Nat,q=r:=⟨q.toNat,by omega⟩
  rw [Int.toNat_natCast] at g3;have hr:r<y.pn:=by omega
  have hJ:r*y.pn+p<y.wn:=by rw [HN.2.2];exact qlt hr hp
  have h12:y.wL (r*y.pn+p)<=12:=HWY.out r p hr hp;have hr4:r<4:=by omega
  have hp4:p<4:=by omega
  have HY:Hid ((y.evt p k (r:Int) v0).way p k (r:Int) v0=(y.evt p k (r:Int) v0).setW (r*y.pn+p) (y.wL (r*y.pn+p) - 1) (fun i=>y.wH (r*y.pn+p) (i+1))):=by
   show (y.evt p k (r:Int) v0).way p k (r:Int) v0=_;rw [show (y.evt p k (r:Int) v0).way p k (r:Int) v0=(y.evt p k (r:Int) v0).way p 3 (r:Int) v0 by rw [hk],Sy.way_take];rfl
  have HNu0:∀ x:SysIn,x.pn=y.pn->∀ wx,Calls Tryz.prog 143 #[x.v,.int .i64 r,.int .i64 p] wx fun e w'=>e=.returned (.int .i64 (r*y.pn+p:Nat))/\Below wx.heap.size wx w':=fun x e wx=>by
   have h:=qdq x r p wx hr4 hp4 (by omega);rw [e] at h;exact h
  have HQu0:∀ x:SysIn,x.pn=y.pn->∀ wx,SysG wx x->r*y.pn+p<x.wn->Calls Tryz.prog 141 #[x.v,.int .i64 r,.int .i64 p] wx fun e w'=>e=.returned (.agg #[.slice (x.wA (r*y.pn+p)) (x.wL (r*y.pn+p)) (x.wC (r*y.pn+p)),.int .i64 12])/\Below wx.heap.size wx w':=fun x e wx hg hw=>by
   have h:=qc4 x r p wx hg hr4 hp4 (by omega) (by rw [e];exact hw);rw [e] at h;exact h
  generalize r*y.pn+p=J at *;have hJ':(J:Int)<(y.wn:Int):=by omega
  obtain ⟨c9,up9,us9,uw9,uh9,o9,-,-,-⟩:=H2.out.ow;obtain ⟨b0,b1,b2,b3⟩:=H2.out.bx;obtain ⟨k0,k1,k2,kf⟩:=id H2.out.ev;have m0:=H2.out.bx.ltM;have mN:=H2.out.ev.lt;have OT9:LT z W4 (Cl B c9 3) (.slice (some ⟨gw,0,none⟩) y.wn cw) y.wn uw9 y.wL y.wH:=o9.t;obtain ⟨g9,k9,ew,-,lw,cellw,fw⟩:=OT9.cell hJ;simp only [Value.slice.injEq,Option.some.injEq,Addr.mk.injEq,and_true,true_and] at ew;obtain ⟨rfl,rfl⟩:=ew;obtain ⟨bw,cbw,euw,hbw,hIt,hcapw⟩:=atT (OT9.own J hJ) ((qqm (OT9.own J hJ)).resolve_left (by omega))
  have hcm:cbw<=maxLen:=by
   have h:=OT9.own J hJ;rw [euw] at h;exact qmu h
  have HNu:Hid (∀ wx,Calls Tryz.prog 143 #[sysV (some ⟨gp,0,none⟩) y.pn cp (some ⟨gs,0,none⟩) y.sn cs (some ⟨gw,0,none⟩) y.wn cw (some ⟨gh,0,none⟩) y.hn ch,.int .i64 r,.int .i64 p] wx fun e w'=>e=.returned (.int .i64 (J:Nat))/\Below wx.heap.size wx w'):=fun wx=>by
   have h:=HNu0 ((y.evt p k (r:Int) v0).sysIn (.slice (some ⟨gp,0,none⟩) y.pn cp) (.slice (some ⟨gs,0,none⟩) y.sn cs) (.slice (some ⟨gw,0,none⟩) y.wn cw) (.slice (some ⟨gh,0,none⟩) y.hn ch) up9 us9 uw9 uh9) rfl wx;rw [o9.v] at h;exact h
  have HQu:Hid (∀ wx,Below W4.heap.size W4 wx->Calls Tryz.prog 141 #[sysV (some ⟨gp,0,none⟩) y.pn cp (some ⟨gs,0,none⟩) y.sn cs (some ⟨gw,0,none⟩) y.wn cw (some ⟨gh,0,none⟩) y.hn ch,.int .i64 r,.int .i64 p] wx fun e w'=>e=.returned (.agg #[.slice (some ⟨bw,0,none⟩) (y.wL J) cbw,.int .i64 12])/\Below wx.heap.size wx w'):=fun wx hb=>by
   have h:=HQu0 ((y.evt p k (r:Int) v0).sysIn (.slice (some ⟨gp,0,none⟩) y.pn cp) (.slice (some ⟨gs,0,none⟩) y.sn cs) (.slice (some ⟨gw,0,none⟩) y.wn cw) (.slice (some ⟨gh,0,none⟩) y.hn ch) up9 us9 uw9 uh9) rfl wx (o9.g.below hb) hJ;rw [o9.v] at h;refine h.mono fun e w' hh=>⟨hh.1.trans ?_,hh.2⟩
   show Ending.returned (.agg #[.slice (adOf (uw9 J)) (y.wL J) (cpOf (uw9 J)),.int .i64 12])=_;rw [euw];rfl
  have HWi:Hid (∀ wx,Below W4.heap.size W4 wx->Calls Tryz.prog 144 #[.agg #[.slice (some ⟨bw,0,none⟩) (y.wL J) cbw,.int .i64 12]] wx fun e w'=>∃ a c,e=.returned (.slice a (y.wL J - 1) c)/\w'.ownsRow wx.heap.size 78 2 (.slice a (y.wL J - 1) c) (y.wL J - 1) (fT (fun i=>y.wH J (i+1)) (y.wL J - 1))/\Value.slice a (y.wL J - 1) c≠.slice none 0 0/\Below wx.heap.size wx w'):=fun wx hb=>qlc bw (y.wL J) cbw 12 (y.wH J) wx (by omega) (by omega) hcapw hcm (zL hbw hb.size) (hIt.below hb hbw);clear HNu0 HQu0 o9 OT9 hk hIt;go_upto_region 7 with fail
  refine qak (fun w'=>w'.cell? ⟨w.heap.size,0,none⟩=some (.slice (some ⟨gp,0,none⟩) y.pn cp)/\w'.cell? ⟨w.heap.size,1,none⟩=some (.slice (some ⟨gs,0,none⟩) y.sn cs)/\w'.cell? ⟨w.heap.size,2,none⟩=some (.slice (some ⟨gw,0,none⟩) y.wn cw)/\w'.cell? ⟨w.heap.size,3,none⟩=some (.slice (some ⟨gh,0,none⟩) y.hn ch)/\w'.cell? ⟨w.heap.size+1,1,none⟩=some (.int .i64 (r:Int))/\w'.cell? ⟨w.heap.size+1,2,none⟩=some (.int .i64 v0)/\w'.cell? ⟨gw,J,none⟩=some (uw9 J)) (fun i=>i == 14) (by kernel_rfl) ?_;have hHeld:(fun w'=>w'.cell? ⟨w.heap.size,0,none⟩=some (.slice (some ⟨gp,0,none⟩) y.pn cp)/\w'.cell? ⟨w.heap.size,1,none⟩=some (.slice (some ⟨gs,0,none⟩) y.sn cs)/\w'.cell? ⟨w.heap.size,2,none⟩=some (.slice (some ⟨gw,0,none⟩) y.wn cw)/\w'.cell? ⟨w.heap.size,3,none⟩=some (.slice (some ⟨gh,0,none⟩) y.hn ch)/\w'.cell? ⟨w.heap.size+1,1,none⟩=some (.int .i64 (r:Int))/\w'.cell? ⟨w.heap.size+1,2,none⟩=some (.int .i64 v0)/\w'.cell? ⟨gw,J,none⟩=some (uw9 J)) W4.drew:=⟨b0,b1,b2,b3,k1,k2,cellw⟩
  have q0:Below W4.heap.size W4 W4.drew:=(Below.refl W4.heap.size W4).drew;refine qa7 [0,1,2,3,4,5,7,8,9,10] ?_;iterate 10 (refine qat rfl hHeld ?_;apply Exists.intro;refine ⟨fun wq hSw=>?_,?_⟩;(· ((try dsimp only at hSw);go_simp;try with_reducible rfl));(try simp only [Act.put,zD,zE,zF]))
  refine qay ?_;refine qac 6 rfl (by kernel_rfl) (fun K hK=>?_);refine qal rfl 143 _ _ rfl #[sysV (some ⟨gp,0,none⟩) y.pn cp (some ⟨gs,0,none⟩) y.sn cs (some ⟨gw,0,none⟩) y.wn cw (some ⟨gh,0,none⟩) y.hn ch,.int .i64 (r:Nat),.int .i64 (p:Nat)] (by simp [Act.eval]) (yA Tryz.func143 (by kernel_rfl) rfl) (HNu.out W4.drew) ?_;rintro e wa ⟨rfl,d5⟩;refine ⟨_,rfl,?_⟩;have qwa:Below W4.heap.size W4 wa:=q0.trans (d5.mono q0.size);have hcwa:=(qag qwa).1;have hHeldwa:(fun w'=>w'.cell? ⟨w.heap.size,0,none⟩=some (.slice (some ⟨gp,0,none⟩) y.pn cp)/\w'.cell? ⟨w.heap.size,1,none⟩=some (.slice (some ⟨gs,0,none⟩) y.sn cs)/\w'.cell? ⟨w.heap.size,2,none⟩=some (.slice (some ⟨gw,0,none⟩) y.wn cw)/\w'.cell? ⟨w.heap.size,3,none⟩=some (.slice (some ⟨gh,0,none⟩) y.hn ch)/\w'.cell? ⟨w.heap.size+1,1,none⟩=some (.int .i64 (r:Int))/\w'.cell? ⟨w.heap.size+1,2,none⟩=some (.int .i64 v0)/\w'.cell? ⟨gw,J,none⟩=some (uw9 J)) wa:=⟨(hcwa _ _ m0).trans b0,(hcwa _ _ m0).trans b1,(hcwa _ _ m0).trans b2,(hcwa _ _ m0).trans b3,(hcwa _ _ mN).trans k1,(hcwa _ _ mN).trans k2,(hcwa _ _ lw).trans cellw⟩
  refine hK.out _ _ (fun _=>hHeldwa) ?_;clear hK K d5
  (try simp only [Act.put,zD,zE,zF])
  refine qac 11 rfl (by kernel_rfl) (fun K hK=>?_);refine qal rfl 141 _ _ rfl #[sysV (some ⟨gp,0,none⟩) y.pn cp (some ⟨gs,0,none⟩) y.sn cs (some ⟨gw,0,none⟩) y.wn cw (some ⟨gh,0,none⟩) y.hn ch,.int .i64 (r:Nat),.int .i64 (p:Nat)] (by simp [Act.eval]) (yA Tryz.func141 (by kernel_rfl) rfl) (HQu.out wa qwa) ?_;rintro e wb ⟨rfl,d5⟩;refine ⟨_,rfl,?_⟩;have qwb:Below W4.heap.size W4 wb:=qwa.trans (d5.mono qwa.size);have hcwb:=(qag qwb).1;have hHeldwb:(fun w'=>w'.cell? ⟨w.heap.size,0,none⟩=some (.slice (some ⟨gp,0,none⟩) y.pn cp)/\w'.cell? ⟨w.heap.size,1,none⟩=some (.slice (some ⟨gs,0,none⟩) y.sn cs)/\w'.cell? ⟨w.heap.size,2,none⟩=some (.slice (some ⟨gw,0,none⟩) y.wn cw)/\w'.cell? ⟨w.heap.size,3,none⟩=some (.slice (some ⟨gh,0,none⟩) y.hn ch)/\w'.cell? ⟨w.heap.size+1,1,none⟩=some (.int .i64 (r:Int))/\w'.cell? ⟨w.heap.size+1,2,none⟩=some (.int .i64 v0)/\w'.cell? ⟨gw,J,none⟩=some (uw9 J)) wb:=⟨(hcwb _ _ m0).trans b0,(hcwb _ _ m0).trans b1,(hcwb _ _ m0).trans b2,(hcwb _ _ m0).trans b3,(hcwb _ _ mN).trans k1,(hcwb _ _ mN).trans k2,(hcwb _ _ lw).trans cellw⟩
  refine hK.out _ _ (fun _=>hHeldwb) ?_;clear hK K d5
  (try simp only [Act.put,zD,zE,zF])
  refine qac 12 rfl (by kernel_rfl) (fun K hK=>?_);refine qal rfl 144 _ _ rfl #[.agg #[.slice (some ⟨bw,0,none⟩) (y.wL J) cbw,.int .i64 12]] (by simp [Act.eval]) (yA Tryz.func144 (by kernel_rfl) rfl) (HWi.out wb qwb) ?_;rintro e wd ⟨a6,c6,rfl,o6,n6,d6⟩;refine ⟨_,rfl,?_⟩;have qwd:Below W4.heap.size W4 wd:=qwb.trans (d6.mono qwb.size);have hcwd:=(qag qwd).1;have hHeldwd:(fun w'=>w'.cell? ⟨w.heap.size,0,none⟩=some (.slice (some ⟨gp,0,none⟩) y.pn cp)/\w'.cell? ⟨w.heap.size,1,none⟩=some (.slice (some ⟨gs,0,none⟩) y.sn cs)/\w'.cell? ⟨w.heap.size,2,none⟩=some (.slice (some ⟨gw,0,none⟩) y.wn cw)/\w'.cell? ⟨w.heap.size,3,none⟩=some (.slice (some ⟨gh,0,none⟩) y.hn ch)/\w'.cell? ⟨w.heap.size+1,1,none⟩=some (.int .i64 (r:Int))/\w'.cell? ⟨w.heap.size+1,2,none⟩=some (.int .i64 v0)/\w'.cell? ⟨gw,J,none⟩=some (uw9 J)) wd:=⟨(hcwd _ _ m0).trans b0,(hcwd _ _ m0).trans b1,(hcwd _ _ m0).trans b2,(hcwd _ _ m0).trans b3,(hcwd _ _ mN).trans k1,(hcwd _ _ mN).trans k2,(hcwd _ _ lw).trans cellw⟩
  replace o6:=o6.mono qwb.size;have hfw:∀ j,wd.frozen? ⟨gw,j,none⟩=false:=fun j=>((qag qwd).2 _ j lw).trans (fw j);have H3:Hid (Hp z w B c k (r:Int) v0 ((y.evt p k (r:Int) v0).setW J (y.wL J - 1) (fun i=>y.wH J (i+1))) (.slice (some ⟨gp,0,none⟩) y.pn cp) (.slice (some ⟨gs,0,none⟩) y.sn cs) (.slice (some ⟨gw,0,none⟩) y.wn cw) (.slice (some ⟨gh,0,none⟩) y.hn ch) (wd.setCell ⟨gw,J,none⟩ (.slice a6 (y.wL J - 1) c6))):=H2.out.putW hB hJ qwd o6 n6;refine hK.out _ _ (fun _=>hHeldwd) ?_;clear hHeld;have hHeld:=hHeldwd;clear hK K
  (try simp only [Act.put,zD,zE,zF])
  refine qaa 13 rfl hHeld ?_;apply Exists.intro;refine ⟨fun wq hSw=>?_,?_⟩
  ·(try dsimp only at hSw)
   go_simp;try with_reducible rfl
  (try simp only [Act.put,zD,zE,zF])
  refine qac 14 rfl (by kernel_rfl) (fun K hK=>?_);have hcN:=hHeld.2.2.2.2.2.2;have hfN:=hfw J;go_simp;refine hK.out _ _ (fun h=>?_) ?_
  ·exact absurd h (by decide)
  clear hK K
  (try simp only [Act.put,zD,zE,zF])
  refine qas (by kernel_rfl) ?_ _;clear hcN hfN hHeld hfw;go_wp2_with fail
  go_end0
  exact ⟨rfl, H3.out.be, H3.out.kp, by
   rw [HY.out]
   exact H3.out.ownK⟩
 ·have hk2:k≠2:=by simpa using t2
  have hk3:k≠3:=by simpa using t3
  have HY:Hid ((y.evt p k q v0).way p k q v0=y.evt p k q v0):=Sy.way_no _ p hk2 hk3 q v0;obtain ⟨k0,k1,k2,kf⟩:=H2.out.ev;clear hk2 hk3;go_wp2_with fail
  go_end0
  exact ⟨rfl, H2.out.be, H2.out.kp, by
   rw [HY.out]
   exact H2.out.ownK⟩
