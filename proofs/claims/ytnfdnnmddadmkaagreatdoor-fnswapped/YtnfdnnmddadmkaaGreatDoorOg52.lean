/- Proved: whatever bytes a draw is made of, two events of a drawn row that do not hang on each other change places, and it is a row still; two that do may not. One condition, tied to the program's text: errors.errorType holds what its text lays. -/
import Derived.Test.YtnfdnnmddadmkaaGreatDoorOg50
import Derived.Test.YtnfdnnmddadmkaaGreatDoorOg51
import Derived.Test.YtnfdnnmddadmkaaGreatDoorTie
import Derived.ChangeSame
import Derived.ChangeVars
import Derived.JoinedOf
import Derived.RowKit
import Derived.LaidLaws
import Derived.LaidHandle
import Derived.Stop.Joined
import Derived.Test.YtnfdnnmddadmkaaGreatDoorCards
import Derived.SevenTiedAt
namespace Go.Proofs.YtnfdnnmddadmkaaGreatDoor
set_option maxRecDepth 100000
set_option maxHeartbeats 8000000
open Go.ChangeShapes Go.WideShapes Go.ChangeAt Go.RowKit Go.Deep Go.Sort
theorem qkq {h h':Nat->Wo2}:∀ {n:Nat},(∀ i,i<n->h i=h' i)->flW h n=flW h' n
 | 0,_=>rfl
 | n+1,e=>by rw [flW,flW,qkq fun i hi=>e i (by omega),e n (by omega)]
theorem OwR.congr {w:World} {B n:Nat} {v:Value} {h h':Nat->Wo2} (o:OwR w B v n h) (e:∀ i,i<n->h i=h' i):OwR w B v n h':=⟨by have h9:=o.1;rw [qkq e] at h9;exact h9,o.2⟩
def puW (h:Nat->Wo2) (n:Nat) (a:Wo2) (i:Nat):Wo2:=if i=n then a else h i
structure Dw (w:World) (x:SysIn) (W0 c:Nat) (a0:Option Addr) (len cap g:Nat) (v:Value) (d:Nat->Nat) (n e:Nat) (wr:World):Prop where
 gb:w.grownBy wr (some c)
 cu:Cur wr W0 c a0 len cap
 cl:c<w.heap.size
 bs:BoxC wr w.heap.size (.slice x.pa x.pn x.pc) (.slice x.sa x.sn x.sc) (.slice x.wa x.wn x.wc) (.slice x.ha x.hn x.hc)
 dn:OwnI wr (w.heap.size+1) (.slice (some ⟨g,0,none⟩) x.pn x.pn) (dL d x.pn)
 ow:∃ h,OwR wr (w.heap.size+1) v n h
 ne:v.ownBlock≠some g
 le:∀ i,d i<=x.y.hL i
 sm:n=sumL d x.pn+e
section
variable {w:World} {x:SysIn} {W0 c:Nat} {a0:Option Addr} {len cap g:Nat} {v:Value} {d:Nat->Nat} {n e:Nat} {wr w':World}
theorem Dw.glt (h:Dw w x W0 c a0 len cap g v d n e wr):w.heap.size+1<=g/\g<wr.heap.size:=h.dn.lt g rfl
theorem Dw.cur (h:Dw w x W0 c a0 len cap g v d n e wr) (hc:Cur w' W0 c a0 len cap) (hg:wr.grownBy w' (some c)):Dw w x W0 c a0 len cap g v d n e w':=by
 have h1:=h.glt
 have h2:=h.cl
 refine ⟨h.gb.trans hg,hc,h.cl,h.bs.blkK (hg.block _ (by omega) (by simp;omega)),h.dn.blk fun k hk=>hg.block k (h.dn.lt k hk).2 (by have:=(h.dn.lt k hk).1;simp;omega),?_,h.ne,h.le,h.sm⟩
 obtain ⟨q,ho⟩:=h.ow
 exact ⟨q,ho.ofBlock fun k hk=>hg.block k (ho.lt k hk).2 (by have:=(ho.lt k hk).1;simp;omega)⟩
theorem Dw.below (h:Dw w x W0 c a0 len cap g v d n e wr) (hb:Below wr.heap.size wr w'):Dw w x W0 c a0 len cap g v d n e w':=
 h.cur (h.cu.kept (zZ hb) (by simp) (fun k hk=>by cases hk)) ⟨hb.os,hb.tape,hb.output,hb.size,fun k hk _=>hb.block k hk⟩
theorem Dw.cell (h:Dw w x W0 c a0 len cap g v d n e wr) {p:Nat} (hp:p<x.pn):wr.cell? ⟨g,p,none⟩=some (.int .i64 (d p:Nat))/\wr.frozen? ⟨g,p,none⟩=false:=by
 have ho:=h.dn
 have hc:=Sl.cell0 ho.slOf (k:=p) (by rw [qhc];exact hp)
 rw [qud d hp] at hc
 have ho':OwnI wr (w.heap.size+1) (.slice (some ⟨g,0,none⟩) (dL d x.pn).length x.pn) (dL d x.pn):=by rw [qhc];exact ho
 exact ⟨hc,ho'.frozen p⟩
theorem Dw.told {v':Value} {h':Nat->Wo2} (h:Dw w x W0 c a0 len cap g v d n 0 wr) (o:OwR w' (w.heap.size+1) v' (n+1) h') (gb:wr.grownBy w' v.ownBlock) (hv:∀ j,v'.ownBlock=some j->v.ownBlock=some j\/wr.heap.size<=j):Dw w x W0 c a0 len cap g v' d (n+1) 1 w':=by
 have h1:=h.glt
 have h2:=h.cl
 obtain ⟨q,ho⟩:=h.ow
 refine ⟨⟨h.gb.os ▸ gb.os,h.gb.tape ▸ gb.tape,h.gb.output ▸ gb.output,zP h.gb.size gb.size,fun k hk hne=>(gb.block k (zL hk h.gb.size) (fun e=>by have:=(ho.lt k e.symm).1;omega)).trans (h.gb.block k hk hne)⟩,h.cu.kept gb (fun e=>by have:=(ho.lt c e.symm).1;omega) (fun k hk=>by have:=(ho.lt k hk).1;have:=h.cu.ge;omega),h.cl,h.bs.blkK (gb.block _ (by omega) (fun e=>by have:=(ho.lt _ e.symm).1;omega)),h.dn.blk fun k hk=>gb.block k (h.dn.lt k hk).2 (fun e=>h.ne (by cases hk;exact e.symm)),⟨h',o⟩,fun e=>?_,h.le,by have:=h.sm;omega⟩
 rcases hv _ e with a | a
 ·exact h.ne a
 ·omega
theorem Dw.put {p:Nat} (h:Dw w x W0 c a0 len cap g v d n 1 wr) (hp:p<x.pn) (hl:d p<x.y.hL p):Dw w x W0 c a0 len cap g v (up d p) n 0 (wr.setCell ⟨g,p,none⟩ (.int .i64 ((d p:Int)+1))):=by
 have h1:=h.glt
 have h2:=h.cl
 obtain ⟨q,ho⟩:=h.ow
 have hb:∀ k,k≠g->(wr.setCell ⟨g,p,none⟩ (.int .i64 ((d p:Int)+1))).heap[k]? = wr.heap[k]?:=fun k hk=>zO wr ⟨g,p,none⟩ _ k hk
 refine ⟨zV h.gb (.inr (by show w.heap.size<=g;omega)) _,h.cu.setOther (p:=⟨g,p,none⟩) (by show g≠c;omega) (by show W0<=g;have:=h.cu.ge;omega) _,h.cl,h.bs.blkK (hb _ (by omega)),?_,⟨q,ho.ofBlock fun k hk=>hb k (fun e=>h.ne (by rw [hk,e]))⟩,h.ne,fun i=>?_,?_⟩
 ·have hs:=h.dn.set (by rw [qhc]) p ((d p:Int)+1)
  rw [qvb d hp] at hs
  exact hs.1
 ·by_cases e:i=p
  ·subst e
   rw [qbk]
   omega
  ·rw [up_other e]
   exact h.le i
 ·have:=h.sm
  rw [qcp hp]
  omega
end
def qru (w:World) (W0 c:Nat) (a0:Option Addr) (len cap:Nat) (e:Ending) (w':World):Prop:=∃ (v:Value) (n:Nat) (h:Nat->Wo2),e=.returned v/\OwV w' w.heap.size v n h/\n<=800/\Cur w' W0 c a0 len cap/\w.grownBy w' (some c)
theorem qhv (x:SysIn) (W0 c len cap B T:Nat) (a0:Option Addr) (w:World) (hX:SysX w B T x) (hL:x.Len) (hC:Cur w W0 c a0 len cap) (hcB:c<B):
  Calls Tryz.prog 90 #[.pointer (some ⟨c,0,none⟩),x.v] w (qru w W0 c a0 len cap):=by
 have HXg:Hid (∀ wx,w.grownBy wx (some c)->SysG wx x):=fun wx hg=>hX.g wx fun b hb _ hl=>hg.block b hl (by simp;omega)
 have HSo:Hid (∀ wx,w.grownBy wx (some c)->Calls Tryz.prog 48 #[x.v] wx fun e w'=>e=.returned (.bool x.y.okB)/\Below wx.heap.size wx w'):=fun wx hg=>qbz x wx (HXg.out wx hg) hL hX.cap
 have HCn:Hid (x.y.Ok->∀ g v p d n wr,Dw w x W0 c a0 len cap g v d n 0 wr->p<x.pn->Calls Tryz.prog 49 #[x.v,.slice (some ⟨g,0,none⟩) x.pn x.pn,.int .i64 (p:Nat)] wr fun e w'=>e=.returned (.bool (qB (x.y.hs.Can d p)))/\Below wr.heap.size wr w'):=fun hO g v p d n wr hr hp=>qh7 x g x.pn p d wr (HXg.out wr hr.gb) hX.cap hO hr.dn.slOf hr.le hp
 have hcl:=hC.lt
 have B0:Hid (w.grownBy ((w.alloc (oQ4 x.pa x.pn x.pc x.sa x.sn x.sc x.wa x.wn x.wc x.ha x.hn x.hc)).alloc (.cells #[] 37)) (some c)/\BoxC ((w.alloc (oQ4 x.pa x.pn x.pc x.sa x.sn x.sc x.wa x.wn x.wc x.ha x.hn x.hc)).alloc (.cells #[] 37)) w.heap.size (.slice x.pa x.pn x.pc) (.slice x.sa x.sn x.sc) (.slice x.wa x.wn x.wc) (.slice x.ha x.hn x.hc)/\OwR ((w.alloc (oQ4 x.pa x.pn x.pc x.sa x.sn x.sc x.wa x.wn x.wc x.ha x.hn x.hc)).alloc (.cells #[] 37)) (w.heap.size+1) (.slice (some ⟨w.heap.size+1,0,none⟩) 0 0) 0 (fun _=>⟨0,0⟩)/\Cur ((w.alloc (oQ4 x.pa x.pn x.pc x.sa x.sn x.sc x.wa x.wn x.wc x.ha x.hn x.hc)).alloc (.cells #[] 37)) W0 c a0 len cap):=by
  refine ⟨(World.grownBy_alloc w _ _).trans (World.grownBy_alloc _ _ _),(BoxC.new w _ _ _ _ _).below (zT _ _),?_,(hC.alloc _).alloc _⟩
  have h9:=OwR.empty (w.alloc (oQ4 x.pa x.pn x.pc x.sa x.sn x.sc x.wa x.wn x.wc x.ha x.hn x.hc)) (fun _=>⟨0,0⟩)
  rw [World.size_alloc] at h9
  exact h9
 clear hX hL hC
 go_enter Tryz.func90,Tryz.ntmps90
 go_upto_region 2 with fail
 generalize (w.alloc (oQ4 x.pa x.pn x.pc x.sa x.sn x.sc x.wa x.wn x.wc x.ha x.hn x.hc)).alloc (.cells #[] 37)=W1 at *
 obtain ⟨k0,k1,k2,k3⟩:=B0.out.2.1
 go_wp2_with fail
 clear k0 k1 k2 k3
 refine (HSo.out W1 B0.out.1).mono ?_
 rintro e w2 ⟨rfl,b2⟩
 have g2:W1.grownBy w2 (some c):=⟨b2.os,b2.tape,b2.output,b2.size,fun k hk _=>b2.block k hk⟩
 have B2:Hid (w.grownBy w2 (some c)/\BoxC w2 w.heap.size (.slice x.pa x.pn x.pc) (.slice x.sa x.sn x.sc) (.slice x.wa x.wn x.wc) (.slice x.ha x.hn x.hc)/\OwR w2 (w.heap.size+1) (.slice (some ⟨w.heap.size+1,0,none⟩) 0 0) 0 (fun _=>⟨0,0⟩)/\Cur w2 W0 c a0 len cap):=⟨B0.out.1.trans g2,B0.out.2.1.below b2,B0.out.2.2.1.below b2,B0.out.2.2.2.kept (zZ b2) (by simp) (fun k hk=>by cases hk)⟩
 clear b2 B0 HSo g2
 by_cases hok:x.y.okB=true
 case neg=>
  have hok':x.y.okB=false:=by simpa using hok
  rw [hok']
  have R4:Hid (OwV w2 w.heap.size (.slice (some ⟨w.heap.size+1,0,none⟩) 0 0) 0 (fun _=>⟨0,0⟩)/\Cur w2 W0 c a0 len cap/\w.grownBy w2 (some c)):=⟨B2.out.2.2.1.v.mono (by omega),B2.out.2.2.2,B2.out.1⟩
  clear B2
  go_wp2
  go_ret
  exact ⟨_,_,_,rfl,R4.out.1,by omega,R4.out.2⟩
 rw [hok]
 have HO:Hid (x.y.Ok):=Sy.ok_of hok
 have hhn:x.hn=x.pn:=HO.out.cn.2.2.1
 have H4:Hid (x.pn<=4/\1<=x.pn):=⟨HO.out.cn.1.2,HO.out.cn.1.1⟩
 have h4:(x.pn:Int)<=4:=by have:=H4.out.1;omega
 have h41:(1:Int)<=(x.pn:Int):=by have:=H4.out.2;omega
 have HP:Hid (∀ i,i<x.pn->x.hL i<=200):=fun i hi=>HO.out.hl200 hi
 have hto:x.y.hs.tot<=800:=Hs.tot_le H4.out.1 HP.out
 have HSm:Hid (∀ d:Nat->Nat,(∀ i,d i<=x.y.hL i)->sumL d x.pn<=x.y.hs.tot):=fun d hd=>qco hd x.pn
 have hmk:=qca x.pn (by have:=H4.out.1;omega)
 have T0:Hid (Dw w x W0 c a0 len cap w2.heap.size (.slice (some ⟨w.heap.size+1,0,none⟩) 0 0) (fun _=>0) 0 0 (w2.alloc (.cells (madeCells #[.int .i64 0] x.pn) 3))):=by
  have h9:=qeh w2 x.pn (by have:=H4.out.1;omega)
  rw [<- qpv] at h9
  refine ⟨B2.out.1.trans (World.grownBy_alloc _ _ _),B2.out.2.2.2.alloc _,hcl,B2.out.2.1.below (zT _ _),h9.mono (zJ _ _ B2.out.2.1.1),⟨_,B2.out.2.2.1.below (zT _ _)⟩,fun e=>?_,fun i=>Nat.zero_le _,?_⟩
  ·have h8:w.heap.size+1<w2.heap.size:=(B2.out.2.2.1.lt _ rfl).2
   have e9:w.heap.size+1=w2.heap.size:=by simpa [Value.ownBlock] using e
   omega
  ·have hz:∀ m,sumL (fun _=>0) m=0:=fun m=>by
    induction m with
    | zero=>rfl
    | succ m ih=>show sumL (fun _=>0) m+0=0;omega
   rw [hz]
 obtain ⟨-,-,-,k3⟩:=B2.out.2.1
 rw [hhn] at k3
 clear hok hhn
 go_upto_region 5 with fail
 clear k3 hmk B2
 generalize w2.alloc (.cells (madeCells #[.int .i64 0] x.pn) 3)=w3 at *
 generalize w2.heap.size=g at *
 go_wp2_with fail
 go_loopw [5,7] (fun v i wr=>∃ (k n ga gc:Nat),k<=600/\v=.slice (some ⟨ga,0,none⟩) n gc/\i=.int .i64 (k:Nat)/\Hid (∃ d,Dw w x W0 c a0 len cap g (.slice (some ⟨ga,0,none⟩) n gc) d n 0 wr)) (fun _ i _=>600 - (intOf i).toNat)
 case atStart=>exact ⟨0,0,_,_,by omega,by with_reducible rfl,rfl,_,T0.out⟩
 case round=>
  clear T0
  obtain ⟨k,n,ga,gc,hk,rfl,rfl,HD⟩:=hrel
  by_cases hk6:k<600
  ·have hk6':(k:Int)<600:=by omega
   go_wp2_with fail
   refine (zY W0 c len cap a0 (x.pn:Int) wr (by obtain ⟨d,hd⟩:=HD.out;exact hd.cu) h41 (by omega)).mono ?_
   rintro e w4 ⟨z,rfl,⟨z0,z1⟩,hc4,hg4⟩
   obtain ⟨p,rfl⟩:=Int.eq_ofNat_of_zero_le z0
   have hp:p<x.pn:=by omega
   obtain ⟨d,T4⟩:∃ d,Hid (Dw w x W0 c a0 len cap g (.slice (some ⟨ga,0,none⟩) n gc) d n 0 w4):=by
    obtain ⟨d,hd⟩:=HD.out
    exact ⟨d,hd.cur hc4 hg4⟩
   clear hc4 hg4 HD
   obtain ⟨k0,k1,k2,k3⟩:=T4.out.bs
   go_wp2_with fail
   clear k0 k1 k2 k3
   refine (HCn.out HO.out g _ p d n w4 T4.out hp).mono ?_
   rintro e w5 ⟨rfl,b5⟩
   have T5:Hid (Dw w x W0 c a0 len cap g (.slice (some ⟨ga,0,none⟩) n gc) d n 0 w5):=T4.out.below b5
   clear b5 T4
   by_cases hcn:x.y.hs.Can d p
   case neg=>
    rw [qap hcn]
    clear hcn
    go_wp2
    go_roundw
    case rel=>exact ⟨k+1,n,ga,gc,by omega,by with_reducible rfl,by go_num,d,T5.out⟩
    case measure=>simp [intOf];omega
   rw [qax hcn]
   have HLt:Hid (d p<x.y.hL p):=hcn.1
   have HBn:Hid (w.heap.size+1<=w5.heap.size/\n<=1000000):=⟨by have:=T5.out.glt;omega,by have h8:=HSm.out d T5.out.le;have h9:=T5.out.sm;omega⟩
   have hdk:((d p:Nat):Int)<=200:=by
    have h8:=T5.out.le p
    have h9:=HP.out p hp
    have h7:x.y.hL p=x.hL p:=rfl
    omega
   have sd:=(T5.out.cell hp).1
   obtain ⟨h5,ho5⟩:=T5.out.ow
   have HO5:Hid (OwR w5 (w.heap.size+1) (.slice (some ⟨ga,0,none⟩) n gc) n (puW h5 n ⟨(p:Nat),(d p:Nat)⟩)):=ho5.congr fun i hi=>by rw [puW,if_neg (by omega)]
   clear hcn ho5
   go_upto_region 11 with (at_builtin;refine qh3 w5 rfl _ _ rfl (w.heap.size+1) (.slice (some ⟨ga,0,none⟩) n gc) n (puW h5 n ⟨(p:Nat),(d p:Nat)⟩) rfl HO5.out (p:Nat) (d p:Nat) (if_pos rfl) rfl HBn.out.2 HBn.out.1 ?_;intro v' w6 o6 g6 h6;have T6:Hid (Dw w x W0 c a0 len cap g v' d (n+1) 1 w6):=T5.out.told o6 g6 h6;obtain ⟨ga6,gc6,rfl,-,-,-,-⟩:=o6.form;clear o6 g6 h6)
   clear sd T5 HBn HO5
   obtain ⟨sd,sf⟩:=T6.out.cell hp
   have T7:Hid (Dw w x W0 c a0 len cap g (.slice (some ⟨ga6,0,none⟩) (n+1) gc6) (up d p) (n+1) 0 (w6.setCell ⟨g,p,none⟩ (.int .i64 ((d p:Int)+1)))):=T6.out.put hp HLt.out
   clear T6 HLt
   go_wp2
   go_roundw
   case rel=>exact ⟨k+1,n+1,ga6,gc6,by omega,by with_reducible rfl,by go_num,_,T7.out⟩
   case measure=>simp [intOf];omega
  ·have hk6':¬ ((k:Int)<600):=by omega
   have HD2:Hid (n<=x.y.hs.tot/\∃ d,Dw w x W0 c a0 len cap g (.slice (some ⟨ga,0,none⟩) n gc) d n 0 wr):=by
    obtain ⟨d,hd⟩:=HD.out
    exact ⟨by have h8:=HSm.out d hd.le;have h9:=hd.sm;omega,d,hd⟩
   clear HD hk
   go_wp2_with fail
   clear hk6 hk6'
   go_loopg [5,9] ((x.y.hs.tot - n)*5+x.pn) (fun gh v i wr=>∃ (n p ga gc:Nat),gh=(x.y.hs.tot - n)*5+(x.pn - p)/\p<=x.pn/\v=.slice (some ⟨ga,0,none⟩) n gc/\i=.int .i64 (p:Nat)/\Hid (n<=x.y.hs.tot/\∃ d,Dw w x W0 c a0 len cap g (.slice (some ⟨ga,0,none⟩) n gc) d n 0 wr))
   case atStart=>exact ⟨n,0,ga,gc,by omega,Nat.zero_le _,by with_reducible rfl,rfl,HD2.out⟩
   case round=>
    clear HD2
    obtain ⟨n,p,ga,gc,hgk,hpl,rfl,rfl,HD⟩:=hrel
    have HGk:Hid (gk=(x.y.hs.tot - n)*5+(x.pn - p)):=hgk
    clear hgk
    by_cases hp:p<x.pn
    case neg=>
     have hpt':¬ ((p:Int)<(x.pn:Int)):=by omega
     obtain ⟨d,T4⟩:∃ d,Hid (Dw w x W0 c a0 len cap g (.slice (some ⟨ga,0,none⟩) n gc) d n 0 wr):=HD.out.2
     have HN8:Hid (n<=800):=zP HD.out.1 hto
     have hn8:(n:Int)<=800:=by have:=HN8.out;omega
     clear HD HGk
     by_cases hn1:1<n
     case neg=>
      have hn1':¬ ((1:Int)<(n:Int)):=by omega
      have R5:Hid (qru w W0 c a0 len cap (.returned (.slice (some ⟨ga,0,none⟩) n gc)) wr):=by
       obtain ⟨h,ho⟩:=T4.out.ow
       exact ⟨_,n,h,rfl,ho.v.mono (by omega),HN8.out,T4.out.cu,T4.out.gb⟩
      clear T4
      go_wp2
      go_ret
      exact R5.out
     have hn1':(1:Int)<(n:Int):=by omega
     go_wp2_with fail
     refine (qbw W0 c len cap a0 6 wr T4.out.cu (by omega) (by omega)).mono ?_
     rintro e w6 ⟨t,rfl,hc6,hg6⟩
     have T6:Hid (Dw w x W0 c a0 len cap g (.slice (some ⟨ga,0,none⟩) n gc) d n 0 w6):=T4.out.cur hc6 hg6
     clear hc6 hg6 T4
     cases t with
     | false=>
      have R5:Hid (qru w W0 c a0 len cap (.returned (.slice (some ⟨ga,0,none⟩) n gc)) w6):=by
       obtain ⟨h,ho⟩:=T6.out.ow
       exact ⟨_,n,h,rfl,ho.v.mono (by omega),HN8.out,T6.out.cu,T6.out.gb⟩
      clear T6
      go_wp2
      go_ret
      exact R5.out
     | true=>
      go_wp2_with fail
      refine (qgj W0 c len cap a0 ((n:Int) - 1) w6 T6.out.cu (by omega) (by omega)).mono ?_
      rintro e w7 ⟨z,rfl,⟨z0,z1⟩,hc7,hg7⟩
      obtain ⟨K,rfl⟩:=Int.eq_ofNat_of_zero_le z0
      have hK:K+1<n:=by omega
      have hK':(K:Int)+1<(n:Int):=by omega
      have T7:Hid (Dw w x W0 c a0 len cap g (.slice (some ⟨ga,0,none⟩) n gc) d n 0 w7):=T6.out.cur hc7 hg7
      clear hc7 hg7 T6
      obtain ⟨h,HV⟩:∃ h,Hid (OwV w7 (w.heap.size+1) (.slice (some ⟨ga,0,none⟩) n gc) n h):=by
       obtain ⟨h,ho⟩:=T7.out.ow
       exact ⟨h,ho.v⟩
      have HA:Hid ((w7.cell? ⟨ga,K*2,none⟩=some (.int .i64 (h K).m)/\w7.cell? ⟨ga,K*2+1,none⟩=some (.int .i64 (h K).v)/\w7.cell? ⟨ga,(K+1)*2,none⟩=some (.int .i64 (h (K+1)).m)/\w7.cell? ⟨ga,(K+1)*2+1,none⟩=some (.int .i64 (h (K+1)).v))/\(∀ j,w7.frozen? ⟨ga,j,none⟩=false)/\w.heap.size+1<=ga/\ga<w7.heap.size):=by
       obtain ⟨g9,c9,e9,q1,q2,q3,q4⟩:=HV.out
       simp only [Value.slice.injEq,Option.some.injEq,Addr.mk.injEq,and_true,true_and] at e9
       obtain ⟨rfl,rfl⟩:=e9
       have r0:=q3 K (by omega)
       have r1:=q3 (K+1) hK
       rw [Nat.zero_add] at r0 r1
       exact ⟨⟨r0.1,r0.2,r1.1,r1.2⟩,q4,q1,q2⟩
      obtain ⟨⟨a0',a1',-,-⟩,-,-,-⟩:=HA.out
      go_upto_region 22 with fail
      clear a0' a1'
      have HN:Hid (Dw w x W0 c a0 len cap g (.slice (some ⟨ga,0,none⟩) n gc) d n 0 (w7.alloc (oQ5 (h K).m (h K).v))/\OwV (w7.alloc (oQ5 (h K).m (h K).v)) (w.heap.size+1) (.slice (some ⟨ga,0,none⟩) n gc) n h/\((w7.alloc (oQ5 (h K).m (h K).v)).cell? ⟨ga,K*2,none⟩=some (.int .i64 (h K).m)/\(w7.alloc (oQ5 (h K).m (h K).v)).cell? ⟨ga,K*2+1,none⟩=some (.int .i64 (h K).v)/\(w7.alloc (oQ5 (h K).m (h K).v)).cell? ⟨ga,(K+1)*2,none⟩=some (.int .i64 (h (K+1)).m)/\(w7.alloc (oQ5 (h K).m (h K).v)).cell? ⟨ga,(K+1)*2+1,none⟩=some (.int .i64 (h (K+1)).v))/\(∀ j,(w7.alloc (oQ5 (h K).m (h K).v)).frozen? ⟨ga,j,none⟩=false)/\(w7.alloc (oQ5 (h K).m (h K).v)).cell? ⟨w7.heap.size,0,none⟩=some (.int .i64 (h K).m)/\(w7.alloc (oQ5 (h K).m (h K).v)).cell? ⟨w7.heap.size,1,none⟩=some (.int .i64 (h K).v)/\w.heap.size+1<=ga/\ga≠w7.heap.size):=by
       obtain ⟨⟨r0,r1,r2,r3⟩,rf,rl,rg⟩:=HA.out
       have hb:=zT w7 (oQ5 (h K).m (h K).v)
       exact ⟨T7.out.below hb,HV.out.below hb,⟨(hb.cell (p:=⟨ga,K*2,none⟩) rg).trans r0,(hb.cell (p:=⟨ga,K*2+1,none⟩) rg).trans r1,(hb.cell (p:=⟨ga,(K+1)*2,none⟩) rg).trans r2,(hb.cell (p:=⟨ga,(K+1)*2+1,none⟩) rg).trans r3⟩,fun j=>(hb.frozen (p:=⟨ga,j,none⟩) rg).trans (rf j),zW _ _ _ 0 rfl,zW _ _ _ 1 rfl,rl,by omega⟩
      clear HA HV T7
      generalize w7.alloc (oQ5 (h K).m (h K).v)=w8 at *
      generalize w7.heap.size=N at *
      have HM:Hid (∃ m0 v0 m1 v1:Int,(h K).m=m0/\(h K).v=v0/\(h (K+1)).m=m1/\(h (K+1)).v=v1):=⟨_,_,_,_,rfl,rfl,rfl,rfl⟩
      have HEnd:Hid (qru w W0 c a0 len cap (.returned (.slice (some ⟨ga,0,none⟩) n gc)) ((((w8.setCell ⟨ga,K*2,none⟩ (.int .i64 (h (K+1)).m)).setCell ⟨ga,K*2+1,none⟩ (.int .i64 (h (K+1)).v)).setCell ⟨ga,(K+1)*2,none⟩ (.int .i64 (h K).m)).setCell ⟨ga,(K+1)*2+1,none⟩ (.int .i64 (h K).v))):=by
       obtain ⟨t1,t2,⟨r0,r1,r2,r3⟩,rf,-,-,rl,-⟩:=HN.out
       obtain ⟨s0,s1,s2,s3,so,sf,ss,st⟩:=qmb (w:=w8) (g:=ga) (a0:=K*2) (a1:=K*2+1) (a2:=(K+1)*2) (a3:=(K+1)*2+1) (u0:=.int .i64 (h (K+1)).m) (u1:=.int .i64 (h (K+1)).v) (u2:=.int .i64 (h K).m) (u3:=.int .i64 (h K).v) (by omega) (by omega) (by omega) (by omega) (by omega) (by omega) (by rw [r0];rfl) (by rw [r1];rfl) (by rw [r2];rfl) (by rw [r3];rfl)
       have hge:=t1.cu.ge
       have hgl:w.heap.size<=ga:=by omega
       have hgc:ga≠c:=by omega
       refine ⟨_,n,swH h K,rfl,(t2.put2 (h':=swH h K) hK (qjo h K) (qjp h K) (qjq h K) _ ss sf s0 s1 s2 s3 so).mono (by omega),HN8.out,?_,?_⟩
       ·exact (((t1.cu.setOther (p:=⟨ga,K*2,none⟩) hgc (by show W0<=ga;omega) _).setOther (p:=⟨ga,K*2+1,none⟩) hgc (by show W0<=ga;omega) _).setOther (p:=⟨ga,(K+1)*2,none⟩) hgc (by show W0<=ga;omega) _).setOther (p:=⟨ga,(K+1)*2+1,none⟩) hgc (by show W0<=ga;omega) _
       ·exact zV (zV (zV (zV t1.gb (.inr hgl) _) (.inr hgl) _) (.inr hgl) _) (.inr hgl) _
      obtain ⟨-,-,⟨r0,r1,r2,r3⟩,rf,rb0,rb1,-,rN⟩:=HN.out
      clear HN
      generalize (h K).m=m0 at *
      generalize (h K).v=v0 at *
      generalize (h (K+1)).m=m1 at *
      generalize (h (K+1)).v=v1 at *
      clear HM
      have f0:=rf (K*2)
      have f1:=rf (K*2+1)
      have f2:=rf ((K+1)*2)
      have f3:=rf ((K+1)*2+1)
      clear rf
      go_wp2
      go_ret
      exact HEnd.out
    have hpt':(p:Int)<(x.pn:Int):=by omega
    obtain ⟨d,T4⟩:∃ d,Hid (Dw w x W0 c a0 len cap g (.slice (some ⟨ga,0,none⟩) n gc) d n 0 wr):=HD.out.2
    have HNt:Hid (n<=x.y.hs.tot):=HD.out.1
    clear HD
    obtain ⟨k0,k1,k2,k3⟩:=T4.out.bs
    go_wp2_with fail
    clear k0 k1 k2 k3
    refine (HCn.out HO.out g _ p d n wr T4.out hp).mono ?_
    rintro e w5 ⟨rfl,b5⟩
    have T5:Hid (Dw w x W0 c a0 len cap g (.slice (some ⟨ga,0,none⟩) n gc) d n 0 w5):=T4.out.below b5
    clear b5 T4
    by_cases hcn:x.y.hs.Can d p
    case neg=>
     rw [qap hcn]
     clear hcn
     go_wp2
     go_roundg ((x.y.hs.tot - n)*5+(x.pn - (p+1)))
     case measure=>have:=HGk.out;omega
     case rel=>exact ⟨n,p+1,ga,gc,rfl,by omega,by with_reducible rfl,by go_num,HNt.out,d,T5.out⟩
    rw [qax hcn]
    have HLt:Hid (d p<x.y.hL p):=hcn.1
    have HBn:Hid (w.heap.size+1<=w5.heap.size/\n<=1000000):=⟨by have:=T5.out.glt;omega,by have h8:=HSm.out d T5.out.le;have h9:=T5.out.sm;omega⟩
    have hdk:((d p:Nat):Int)<=200:=by
     have h8:=T5.out.le p
     have h9:=HP.out p hp
     have h7:x.y.hL p=x.hL p:=rfl
     omega
    have sd:=(T5.out.cell hp).1
    obtain ⟨h5,ho5⟩:=T5.out.ow
    have HO5:Hid (OwR w5 (w.heap.size+1) (.slice (some ⟨ga,0,none⟩) n gc) n (puW h5 n ⟨(p:Nat),(d p:Nat)⟩)):=ho5.congr fun i hi=>by rw [puW,if_neg (by omega)]
    clear hcn ho5
    go_upto_region 16 with (at_builtin;refine qh3 w5 rfl _ _ rfl (w.heap.size+1) (.slice (some ⟨ga,0,none⟩) n gc) n (puW h5 n ⟨(p:Nat),(d p:Nat)⟩) rfl HO5.out (p:Nat) (d p:Nat) (if_pos rfl) rfl HBn.out.2 HBn.out.1 ?_;intro v' w6 o6 g6 h6;have T6:Hid (Dw w x W0 c a0 len cap g v' d (n+1) 1 w6):=T5.out.told o6 g6 h6;obtain ⟨ga6,gc6,rfl,-,-,-,-⟩:=o6.form;clear o6 g6 h6)
    clear sd T5 HBn HO5
    obtain ⟨sd,sf⟩:=T6.out.cell hp
    have T7:Hid (Dw w x W0 c a0 len cap g (.slice (some ⟨ga6,0,none⟩) (n+1) gc6) (up d p) (n+1) 0 (w6.setCell ⟨g,p,none⟩ (.int .i64 ((d p:Int)+1)))):=T6.out.put hp HLt.out
    clear T6 HLt
    have HNt7:Hid (n+1<=x.y.hs.tot):=by have h8:=HSm.out _ T7.out.le;have h9:=T7.out.sm;show n+1<=x.y.hs.tot;omega
    go_wp2
    go_roundg ((x.y.hs.tot - (n+1))*5+x.pn)
    case measure=>have:=HGk.out;have:=HNt7.out;have:=H4.out;omega
    case rel=>exact ⟨n+1,0,ga6,gc6,by omega,Nat.zero_le _,by with_reducible rfl,rfl,HNt7.out,_,T7.out⟩
structure DW (w wr:World) (W0 c:Nat) (a0:Option Addr) (len cap N M B T:Nat) (x:SysIn):Prop where
 cu:Cur wr W0 c a0 len cap
 be:Below w.heap.size w wr
 sx:SysX wr B T x
 b2:Bx wr N (.slice none 0 0) (.slice none 0 0) (.slice none 0 0) (.slice none 0 0)
 b6:Bx wr M (.slice x.pa x.pn x.pc) (.slice x.sa x.sn x.sc) (.slice x.wa x.wn x.wc) (.slice x.ha x.hn x.hc)
 sz:w.heap.size<=N/\N<c/\c<B/\c<M/\T<=M
theorem DW.draw {w wr w':World} {W0 c len cap N M B T:Nat} {a0:Option Addr} {x:SysIn} (h:DW w wr W0 c a0 len cap N M B T x) (hc:Cur w' W0 c a0 len cap) (hg:wr.grownBy w' (some c)):DW w w' W0 c a0 len cap N M B T x:=
 ⟨hc,Below.grown h.be hg (by have:=h.be.size;exact this) (fun k hk=>by cases hk;have:=h.sz;omega),h.sx.keep hg.size fun b hb _ hl=>hg.block b hl (by have:=h.sz;simp;omega),h.b2.grown hg (by have:=h.sz;simp;omega),h.b6.grown hg (by have:=h.sz;simp;omega),h.sz⟩
theorem DW.set4 {w wr:World} {W0 c len cap N M B T:Nat} {a0:Option Addr} {x:SysIn} (h:DW w wr W0 c a0 len cap N M B T x) (u0 u1 u2 u3:Value):SysX ((((wr.setCell ⟨N,0,none⟩ u0).setCell ⟨N,1,none⟩ u1).setCell ⟨N,2,none⟩ u2).setCell ⟨N,3,none⟩ u3) B T x:=
 h.sx.keep (by simp) fun b hb _ _=>by
  have:=h.sz
  rw [zO _ _ _ _ (by show b≠N;omega),zO _ _ _ _ (by show b≠N;omega),zO _ _ _ _ (by show b≠N;omega),zO _ _ _ _ (by show b≠N;omega)]
theorem DW.alloc {w wr:World} {W0 c len cap N M B T:Nat} {a0:Option Addr} {x:SysIn} (h:DW w wr W0 c a0 len cap N M B T x) (o:Obj):DW w (wr.alloc o) W0 c a0 len cap N M B T x:=h.draw (h.cu.alloc o) (World.grownBy_alloc _ _ _)
structure WJ (w wr:World) (X:Nat) (x:SysIn):Prop where
 g:SysG wr x
 bx:BoxC wr X (.slice x.pa x.pn x.pc) (.slice x.sa x.sn x.sc) (.slice x.wa x.wn x.wc) (.slice x.ha x.hn x.hc)
 be:Below w.heap.size w wr
theorem WJ.below {w wr w':World} {X:Nat} {x:SysIn} (h:WJ w wr X x) (hb:Below wr.heap.size wr w'):WJ w w' X x:=⟨h.g.below hb,h.bx.below hb,h.be.trans (hb.mono h.be.size)⟩
theorem WJ.lt {w wr:World} {X:Nat} {x:SysIn} (h:WJ w wr X x):X<wr.heap.size:=zJ wr _ h.bx.1
def qu8 (w:World) (e:Ending) (w':World):Prop:=∃ (x:SysIn) (B T:Nat) (v:Value) (n:Nat) (h:Nat->Wo2),e=.returned (.tuple #[x.v,v])/\x.y.Sm/\SysX w' B T x/\OwV w' (w.heap.size+1) v n h/\n<=800/\w.heap.size<B/\T<=w'.heap.size/\Below w.heap.size w w'
theorem qml (W0 len cap:Nat) (a0:Option Addr) (w:World) (hB:qb5 w W0 a0 len) (hW:W0<=w.heap.size) (ln:len<=1048576):
  Calls Tryz.prog 35 #[.slice a0 len cap] w (qu8 w):=by
 have C0:Hid (qb5 (w.alloc (zQ3)) W0 a0 len/\W0<=(w.alloc (zQ3)).heap.size/\Below w.heap.size w (w.alloc (zQ3))/\Bx (w.alloc (zQ3)) w.heap.size (.slice none 0 0) (.slice none 0 0) (.slice none 0 0) (.slice none 0 0)/\(w.alloc (zQ3)).heap.size=w.heap.size+1):=⟨hB.kept (fun k hk=>(zQ w (zQ3)).block k (by omega)),by simp;omega,zQ _ _,Bx.new w _ _ _ _ _,by simp⟩
 clear hB
 go_enter Tryz.func35,Tryz.ntmps35
 go_wp2_with fail
 generalize w.alloc (zQ3)=W2 at *
 refine (qkz W0 len cap a0 W2 C0.out.1 C0.out.2.1 ln).mono ?_
 rintro e w1 ⟨rfl,hc1,hg1⟩
 have C1:Hid (Cur w1 W0 W2.heap.size a0 len cap/\Below w.heap.size w w1/\Bx w1 w.heap.size (.slice none 0 0) (.slice none 0 0) (.slice none 0 0) (.slice none 0 0)/\W2.heap.size=w.heap.size+1/\W2.heap.size<w1.heap.size):=⟨hc1,C0.out.2.2.1.trans ((qcq hg1).mono C0.out.2.2.1.size),C0.out.2.2.2.1.below (qcq hg1),C0.out.2.2.2.2,hc1.lt⟩
 clear hc1 hg1 C0
 generalize W2.heap.size=c at *
 go_wp2_with fail
 refine (qo3 W0 c len cap a0 w1 C1.out.1).mono ?_
 rintro e w2 ⟨x,B,T,rfl,hm,hX,hc2,hg2,hcB,hT⟩
 have DA:Hid (DW w (w2.alloc (oQ4 x.pa x.pn x.pc x.sa x.sn x.sc x.wa x.wn x.wc x.ha x.hn x.hc)) W0 c a0 len cap w.heap.size w2.heap.size B T x):=by
  have hs:=hg2.size
  have h1:=C1.out.2.2.2.1
  have h2:=C1.out.2.2.2.2
  refine ⟨hc2.alloc _,(Below.grown C1.out.2.1 hg2 C1.out.2.1.size (fun k hk=>by cases hk;omega)).trans ((zQ _ _).mono (by have:=C1.out.2.1.size;omega)),hX.keep (by simp) fun b _ _ hl=>(zQ w2 _).block b hl,(C1.out.2.2.1.grown hg2 (by simp;omega)).below (zQ _ _),Bx.new _ _ _ _ _ _,Nat.le_refl _,by omega,hcB,by omega,hT⟩
 have HM:Hid x.y.Sm:=hm
 clear hX hc2 hg2 hcB hT C1 hm
 go_upto_region 3 with fail
 generalize w2.alloc (oQ4 x.pa x.pn x.pc x.sa x.sn x.sc x.wa x.wn x.wc x.ha x.hn x.hc)=wA at *
 generalize w2.heap.size=M at *
 have q0:Below wA.heap.size wA wA.drew:=(Below.refl wA.heap.size wA).drew
 have hL:x.Len:=HM.out.inLen
 have DD:DW w wA.drew W0 c a0 len cap w.heap.size M B T x:=⟨DA.out.cu.drew,DA.out.be.drew,DA.out.sx.keep (Nat.le_refl _) fun b _ _ _=>rfl,DA.out.b2.below q0,DA.out.b6.below q0,DA.out.sz⟩
 refine qal (fun w'=>BoxC w' M (.slice x.pa x.pn x.pc) (.slice x.sa x.sn x.sc) (.slice x.wa x.wn x.wc) (.slice x.ha x.hn x.hc)) (fun _=>false) (by kernel_rfl) ?_
 have hHeld:(fun w':World=>BoxC w' M (.slice x.pa x.pn x.pc) (.slice x.sa x.sn x.sc) (.slice x.wa x.wn x.wc) (.slice x.ha x.hn x.hc)) wA.drew:=DD.b6.1
 refine qac 0 rfl hHeld ?_
 apply Exists.intro
 refine ⟨fun wq hSw=>?_,?_⟩
 ·obtain ⟨h0,h1,h2,h3⟩:=hSw
  go_simp
  try with_reducible rfl
 (try simp only [Act.put,zD,zE,zF])
 refine qac 1 rfl hHeld ?_
 apply Exists.intro
 refine ⟨fun wq hSw=>?_,?_⟩
 ·(try dsimp only at hSw)
  go_simp
  try with_reducible rfl
 (try simp only [Act.put,zD,zE,zF])
 refine qac 2 rfl hHeld ?_
 apply Exists.intro
 refine ⟨fun wq hSw=>?_,?_⟩
 ·obtain ⟨h0,h1,h2,h3⟩:=hSw
  go_simp
  try with_reducible rfl
 (try simp only [Act.put,zD,zE,zF])
 refine qab 3 rfl (by kernel_rfl) (fun K hK=>?_)
 refine qb7 rfl 90 _ _ rfl #[.pointer (some ⟨c,0,none⟩),x.v] (by simp [Act.eval]) (yA Tryz.func90 (by kernel_rfl) rfl) (qhv x W0 c len cap B T a0 wA.drew DD.sx hL DD.cu DD.sz.2.2.1) ?_
 rintro e w5 ⟨v5,n,h,rfl,o5,hn,hc5,hg5⟩
 have D5:DW w w5 W0 c a0 len cap w.heap.size M B T x:=DD.draw hc5 hg5
 have hsz:w.heap.size<wA.heap.size:=by have h1:=DD.sz;have h2:=DD.cu.lt;have h3:wA.drew.heap.size=wA.heap.size:=rfl;omega
 have o5:OwV w5 (w.heap.size+1) v5 n h:=o5.mono (by have h3:wA.drew.heap.size=wA.heap.size:=rfl;omega)
 refine ⟨_,rfl,?_⟩
 refine hK.out _ _ (fun _=>D5.b6.1) ?_
 clear hK K
 (try simp only [Act.put,zD,zE,zF])
 obtain ⟨⟨x0,x1,x2,x3⟩,xf⟩:=D5.b2
 have f0:=xf 0
 have f1:=xf 1
 have f2:=xf 2
 have f3:=xf 3
 have HF:Hid (SysX ((((w5.setCell ⟨w.heap.size,0,none⟩ (.slice x.pa x.pn x.pc)).setCell ⟨w.heap.size,1,none⟩ (.slice x.sa x.sn x.sc)).setCell ⟨w.heap.size,2,none⟩ (.slice x.wa x.wn x.wc)).setCell ⟨w.heap.size,3,none⟩ (.slice x.ha x.hn x.hc)) B T x/\OwV ((((w5.setCell ⟨w.heap.size,0,none⟩ (.slice x.pa x.pn x.pc)).setCell ⟨w.heap.size,1,none⟩ (.slice x.sa x.sn x.sc)).setCell ⟨w.heap.size,2,none⟩ (.slice x.wa x.wn x.wc)).setCell ⟨w.heap.size,3,none⟩ (.slice x.ha x.hn x.hc)) (w.heap.size+1) v5 n h/\w.heap.size<B/\T<=w5.heap.size/\Below w.heap.size w ((((w5.setCell ⟨w.heap.size,0,none⟩ (.slice x.pa x.pn x.pc)).setCell ⟨w.heap.size,1,none⟩ (.slice x.sa x.sn x.sc)).setCell ⟨w.heap.size,2,none⟩ (.slice x.wa x.wn x.wc)).setCell ⟨w.heap.size,3,none⟩ (.slice x.ha x.hn x.hc))/\BoxC ((((w5.setCell ⟨w.heap.size,0,none⟩ (.slice x.pa x.pn x.pc)).setCell ⟨w.heap.size,1,none⟩ (.slice x.sa x.sn x.sc)).setCell ⟨w.heap.size,2,none⟩ (.slice x.wa x.wn x.wc)).setCell ⟨w.heap.size,3,none⟩ (.slice x.ha x.hn x.hc)) M (.slice x.pa x.pn x.pc) (.slice x.sa x.sn x.sc) (.slice x.wa x.wn x.wc) (.slice x.ha x.hn x.hc)):=by
  refine ⟨D5.set4 _ _ _ _,o5.ofBlock (by simp) fun k hk=>?_,by have:=D5.sz;omega,by have h1:=D5.sz;have h2:=D5.b6.lt;omega,(((D5.be.setCell (Nat.le_refl _) _).setCell (Nat.le_refl _) _).setCell (Nat.le_refl _) _).setCell (Nat.le_refl _) _,D5.b6.1.blkK ?_⟩
  ·have h1:=(o5.lt k hk).1
   rw [zO _ _ _ _ (by show k≠w.heap.size;omega),zO _ _ _ _ (by show k≠w.heap.size;omega),zO _ _ _ _ (by show k≠w.heap.size;omega),zO _ _ _ _ (by show k≠w.heap.size;omega)]
  ·have h1:=D5.sz
   rw [zO _ _ _ _ (by show M≠w.heap.size;omega),zO _ _ _ _ (by show M≠w.heap.size;omega),zO _ _ _ _ (by show M≠w.heap.size;omega),zO _ _ _ _ (by show M≠w.heap.size;omega)]
 clear hHeld
 refine qab 4 rfl (by kernel_rfl) (fun K hK=>?_)
 go_simp
 refine hK.out _ _ (fun _=>HF.out.2.2.2.2.2) ?_
 clear hK K
 (try simp only [Act.put,zD,zE,zF])
 refine qab 5 rfl (by kernel_rfl) (fun K hK=>?_)
 go_simp
 refine hK.out _ _ (fun _=>HF.out.2.2.2.2.2) ?_
 clear hK K
 (try simp only [Act.put,zD,zE,zF])
 refine qat (by kernel_rfl) ?_ _
 go_wp2
 exact bodyPost_ret (v:=.tuple #[x.v,v5]) (by simp [results,Tryz.results35,go_sem,x0,x1,x2,x3]) rfl ⟨x,B,T,v5,n,h,rfl,HM.out,HF.out.1,HF.out.2.1,hn,HF.out.2.2.1,by simpa using HF.out.2.2.2.1,HF.out.2.2.2.2.1⟩
structure DZ (w wr:World) (W0 c:Nat) (a0:Option Addr) (len cap M B T:Nat) (x:SysIn) (v:Value) (n:Nat) (h:Nat->Wo2):Prop where
 cu:Cur wr W0 c a0 len cap
 be:Below w.heap.size w wr
 sx:SysX wr B T x
 ro:OwV wr (w.heap.size+1) v n h
 rl:∀ k,v.ownBlock=some k->k<M
 b2:Bx wr w.heap.size (.slice none 0 0) (.slice none 0 0) (.slice none 0 0) (.slice none 0 0)
 b6:Bx wr M (.slice x.pa x.pn x.pc) (.slice x.sa x.sn x.sc) (.slice x.wa x.wn x.wc) (.slice x.ha x.hn x.hc)
 sz:w.heap.size<B/\w.heap.size<M/\T<=M/\M<c
theorem DZ.draw {w wr w':World} {W0 c len cap M B T n:Nat} {a0:Option Addr} {x:SysIn} {v:Value} {h:Nat->Wo2} (d:DZ w wr W0 c a0 len cap M B T x v n h) (hc:Cur w' W0 c a0 len cap) (hg:wr.grownBy w' (some c)):DZ w w' W0 c a0 len cap M B T x v n h:=
 ⟨hc,Below.grown d.be hg d.be.size (fun k hk=>by cases hk;have:=d.sz;omega),d.sx.keep hg.size fun b hb ht hl=>hg.block b hl (by have:=d.sz;simp;omega),d.ro.ofBlock hg.size fun k hk=>hg.block k (d.ro.lt k hk).2 (by have h1:=d.rl k hk;have h2:=d.sz;simp;omega),d.rl,d.b2.grown hg (by have:=d.sz;simp;omega),d.b6.grown hg (by have:=d.sz;simp;omega),d.sz⟩
def qv4 (w:World) (e:Ending) (w':World):Prop:=∃ (x:SysIn) (B T:Nat) (v:Value) (n:Nat) (h:Nat->Wo2) (k:Int),e=.returned (.tuple #[x.v,v,.int .i64 k])/\x.y.Sm/\SysX w' B T x/\OwV w' w.heap.size v n h/\n<=800/\(-1<=k/\k<=1000)/\T<=w'.heap.size/\Below w.heap.size w w'
theorem qjw (W0 len cap:Nat) (a0:Option Addr) (w:World) (hB:qb5 w W0 a0 len) (hW:W0<=w.heap.size) (ln:len<=1048576):
  Calls Tryz.prog 8 #[.slice a0 len cap] w (qv4 w):=by
 have HBy:Hid (∀ wx,Below w.heap.size w wx->qb5 wx W0 a0 len):=fun wx hb=>hB.kept fun k hk=>hb.block k (by omega)
 have C0:Hid (Below w.heap.size w (w.alloc (zQ3))/\Bx (w.alloc (zQ3)) w.heap.size (.slice none 0 0) (.slice none 0 0) (.slice none 0 0) (.slice none 0 0)/\(w.alloc (zQ3)).heap.size=w.heap.size+1):=⟨zQ _ _,Bx.new _ _ _ _ _ _,by simp⟩
 clear hB
 go_enter Tryz.func8,Tryz.ntmps8
 go_wp2_with fail
 generalize w.alloc (zQ3)=W2 at *
 refine (qml W0 len cap a0 W2 (HBy.out W2 C0.out.1) (by have:=C0.out.2.2;omega) ln).mono ?_
 rintro e w2 ⟨x,B,T,v,n,h,rfl,hm,hX,hO,hn,hBl,hT,hb⟩
 have HM:Hid x.y.Sm:=hm
 have hn':(n:Int)<=800:=by omega
 obtain ⟨gv,cv,rfl,hgv1,hgv2,-,-⟩:=id hO
 have FA:Hid (Below w.heap.size w (w2.alloc (oQ4 x.pa x.pn x.pc x.sa x.sn x.sc x.wa x.wn x.wc x.ha x.hn x.hc))/\SysX (w2.alloc (oQ4 x.pa x.pn x.pc x.sa x.sn x.sc x.wa x.wn x.wc x.ha x.hn x.hc)) B T x/\OwV (w2.alloc (oQ4 x.pa x.pn x.pc x.sa x.sn x.sc x.wa x.wn x.wc x.ha x.hn x.hc)) (w.heap.size+1) (.slice (some ⟨gv,0,none⟩) n cv) n h/\Bx (w2.alloc (oQ4 x.pa x.pn x.pc x.sa x.sn x.sc x.wa x.wn x.wc x.ha x.hn x.hc)) w.heap.size (.slice none 0 0) (.slice none 0 0) (.slice none 0 0) (.slice none 0 0)/\Bx (w2.alloc (oQ4 x.pa x.pn x.pc x.sa x.sn x.sc x.wa x.wn x.wc x.ha x.hn x.hc)) w2.heap.size (.slice x.pa x.pn x.pc) (.slice x.sa x.sn x.sc) (.slice x.wa x.wn x.wc) (.slice x.ha x.hn x.hc)/\(w.heap.size<B/\w.heap.size<w2.heap.size/\T<=w2.heap.size/\gv<w2.heap.size)/\w2.heap.size<(w2.alloc (oQ4 x.pa x.pn x.pc x.sa x.sn x.sc x.wa x.wn x.wc x.ha x.hn x.hc)).heap.size):=by
  have h1:=C0.out.2.2
  have h2:=hb.size
  exact ⟨(C0.out.1.trans (hb.mono (by omega))).trans ((zQ _ _).mono (by omega)),hX.keep (by simp) fun b _ _ hl=>(zQ w2 _).block b hl,(hO.below (zQ _ _)).mono (by omega),(C0.out.2.1.below hb).below (zQ _ _),Bx.new _ _ _ _ _ _,⟨by omega,by omega,hT,hgv2⟩,by simp⟩
 clear hX hO hBl hT hb hm hgv1 hgv2 C0
 go_wp2_with fail
 generalize w2.alloc (oQ4 x.pa x.pn x.pc x.sa x.sn x.sc x.wa x.wn x.wc x.ha x.hn x.hc)=wA at *
 generalize w2.heap.size=M at *
 refine (qkz W0 len cap a0 wA (HBy.out wA FA.out.1) (by have:=FA.out.1.size;omega) ln).mono ?_
 rintro e w3 ⟨rfl,hc3,hg3⟩
 have b3:=qcq hg3
 have D3:Hid (DZ w w3 W0 wA.heap.size a0 len cap M B T x (.slice (some ⟨gv,0,none⟩) n cv) n h):=⟨hc3,FA.out.1.trans (b3.mono FA.out.1.size),FA.out.2.1.keep b3.size fun b _ _ hl=>b3.block b hl,FA.out.2.2.1.below b3,fun k hk=>by have h9:=FA.out.2.2.2.2.2.1.2.2.2;have e9:gv=k:=(by simpa [Value.ownBlock] using hk);omega,FA.out.2.2.2.1.below b3,FA.out.2.2.2.2.1.below b3,FA.out.2.2.2.2.2.1.1,FA.out.2.2.2.2.2.1.2.1,FA.out.2.2.2.2.2.1.2.2.1,FA.out.2.2.2.2.2.2⟩
 clear hc3 hg3 b3 FA
 generalize wA.heap.size=c at *
 go_upto_region 3 with fail
 have hwk:IntKind.i64.wrap ((n:Int)+1)=(n:Int)+1:=by rw [IntKind.wrap_i64];omega
 have q0:Below w3.heap.size w3 w3.drew:=(Below.refl w3.heap.size w3).drew
 have DD:DZ w w3.drew W0 c a0 len cap M B T x (.slice (some ⟨gv,0,none⟩) n cv) n h:=⟨D3.out.cu.drew,D3.out.be.drew,D3.out.sx.keep (Nat.le_refl _) fun b _ _ _=>rfl,D3.out.ro.below q0,D3.out.rl,D3.out.b2.below q0,D3.out.b6.below q0,D3.out.sz⟩
 refine qal (fun w'=>BoxC w' M (.slice x.pa x.pn x.pc) (.slice x.sa x.sn x.sc) (.slice x.wa x.wn x.wc) (.slice x.ha x.hn x.hc)) (fun _=>false) (by kernel_rfl) ?_
 have hHeld:(fun w':World=>BoxC w' M (.slice x.pa x.pn x.pc) (.slice x.sa x.sn x.sc) (.slice x.wa x.wn x.wc) (.slice x.ha x.hn x.hc)) w3.drew:=DD.b6.1
 refine qac 0 rfl hHeld ?_
 apply Exists.intro
 refine ⟨fun wq hSw=>?_,?_⟩
 ·obtain ⟨h0,h1,h2,h3⟩:=hSw
  go_simp
  try with_reducible rfl
 (try simp only [Act.put,zD,zE,zF])
 refine qa6 [1,2,3,4,5,7] ?_
 iterate 6 (refine qar rfl hHeld ?_;apply Exists.intro;refine ⟨fun wq hSw=>?_,?_⟩;(· ((try dsimp only at hSw);go_simp;try with_reducible rfl));(try simp only [Act.put,zD,zE,zF]))
 refine qaw ?_
 refine qab 6 rfl (by kernel_rfl) (fun K hK=>?_)
 refine qb7 rfl 37 _ _ rfl #[.pointer (some ⟨c,0,none⟩),.int .i64 ((n:Int)+1)] (by simp [Act.eval]) (yA Tryz.func37 (by kernel_rfl) rfl) (qgj W0 c len cap a0 ((n:Int)+1) w3.drew DD.cu (by omega) (by omega)) ?_
 rintro e w5 ⟨k5,rfl,⟨k50,k51⟩,hc5,hg5⟩
 have D5:DZ w w5 W0 c a0 len cap M B T x (.slice (some ⟨gv,0,none⟩) n cv) n h:=DD.draw hc5 hg5
 refine ⟨_,rfl,?_⟩
 refine hK.out _ _ (fun _=>D5.b6.1) ?_
 clear hK K hc5 hg5
 (try simp only [Act.put,zD,zE,zF])
 refine qab 8 rfl (by kernel_rfl) (fun K hK=>?_)
 refine qb7 rfl 37 _ _ rfl #[.pointer (some ⟨c,0,none⟩),.int .i64 20] (by simp [Act.eval]) (yA Tryz.func37 (by kernel_rfl) rfl) (zY W0 c len cap a0 20 w5 D5.cu (by omega) (by omega)) ?_
 rintro e w7 ⟨k7,rfl,⟨k70,k71⟩,hc7,hg7⟩
 have D7:DZ w w7 W0 c a0 len cap M B T x (.slice (some ⟨gv,0,none⟩) n cv) n h:=D5.draw hc7 hg7
 refine ⟨_,rfl,?_⟩
 refine hK.out _ _ (fun _=>D7.b6.1) ?_
 clear hK K hc7 hg7 hHeld
 (try simp only [Act.put,zD,zE,zF])
 have hHeld:(fun w':World=>BoxC w' M (.slice x.pa x.pn x.pc) (.slice x.sa x.sn x.sc) (.slice x.wa x.wn x.wc) (.slice x.ha x.hn x.hc)) w7:=D7.b6.1
 have htd:k7.tdiv 19=k7 / 19:=Int.tdiv_eq_ediv_of_nonneg k70
 have hw7:IntKind.i64.wrap (k7 / 19)=k7 / 19:=by rw [IntKind.wrap_i64];omega
 have hw8:IntKind.i64.wrap (k5 - k7 / 19)=k5 - k7 / 19:=by rw [IntKind.wrap_i64];omega
 refine qa6 [9,10] ?_
 iterate 2 (refine qar rfl hHeld ?_;apply Exists.intro;refine ⟨fun wq hSw=>?_,?_⟩;(· ((try dsimp only at hSw);go_simp;try with_reducible rfl));(try simp only [Act.put,zD,zE,zF]))
 refine qaw ?_
 obtain ⟨⟨x0,x1,x2,x3⟩,xf⟩:=D7.b2
 have f0:=xf 0
 have f1:=xf 1
 have f2:=xf 2
 have f3:=xf 3
 have HF:Hid (SysX ((((w7.setCell ⟨w.heap.size,0,none⟩ (.slice x.pa x.pn x.pc)).setCell ⟨w.heap.size,1,none⟩ (.slice x.sa x.sn x.sc)).setCell ⟨w.heap.size,2,none⟩ (.slice x.wa x.wn x.wc)).setCell ⟨w.heap.size,3,none⟩ (.slice x.ha x.hn x.hc)) B T x/\OwV ((((w7.setCell ⟨w.heap.size,0,none⟩ (.slice x.pa x.pn x.pc)).setCell ⟨w.heap.size,1,none⟩ (.slice x.sa x.sn x.sc)).setCell ⟨w.heap.size,2,none⟩ (.slice x.wa x.wn x.wc)).setCell ⟨w.heap.size,3,none⟩ (.slice x.ha x.hn x.hc)) w.heap.size (.slice (some ⟨gv,0,none⟩) n cv) n h/\T<=w7.heap.size/\Below w.heap.size w ((((w7.setCell ⟨w.heap.size,0,none⟩ (.slice x.pa x.pn x.pc)).setCell ⟨w.heap.size,1,none⟩ (.slice x.sa x.sn x.sc)).setCell ⟨w.heap.size,2,none⟩ (.slice x.wa x.wn x.wc)).setCell ⟨w.heap.size,3,none⟩ (.slice x.ha x.hn x.hc))/\BoxC ((((w7.setCell ⟨w.heap.size,0,none⟩ (.slice x.pa x.pn x.pc)).setCell ⟨w.heap.size,1,none⟩ (.slice x.sa x.sn x.sc)).setCell ⟨w.heap.size,2,none⟩ (.slice x.wa x.wn x.wc)).setCell ⟨w.heap.size,3,none⟩ (.slice x.ha x.hn x.hc)) M (.slice x.pa x.pn x.pc) (.slice x.sa x.sn x.sc) (.slice x.wa x.wn x.wc) (.slice x.ha x.hn x.hc)):=by
  have hz:=D7.sz
  refine ⟨D7.sx.keep (by simp) fun k hk _ _=>?_,(D7.ro.ofBlock (by simp) fun k hk=>?_).mono (by omega),by have h2:=D7.b6.lt;omega,(((D7.be.setCell (Nat.le_refl _) _).setCell (Nat.le_refl _) _).setCell (Nat.le_refl _) _).setCell (Nat.le_refl _) _,D7.b6.1.blkK ?_⟩
  ·rw [zO _ _ _ _ (by show k≠w.heap.size;omega),zO _ _ _ _ (by show k≠w.heap.size;omega),zO _ _ _ _ (by show k≠w.heap.size;omega),zO _ _ _ _ (by show k≠w.heap.size;omega)]
  ·have h1:=(D7.ro.lt k hk).1
   rw [zO _ _ _ _ (by show k≠w.heap.size;omega),zO _ _ _ _ (by show k≠w.heap.size;omega),zO _ _ _ _ (by show k≠w.heap.size;omega),zO _ _ _ _ (by show k≠w.heap.size;omega)]
  ·rw [zO _ _ _ _ (by show M≠w.heap.size;omega),zO _ _ _ _ (by show M≠w.heap.size;omega),zO _ _ _ _ (by show M≠w.heap.size;omega),zO _ _ _ _ (by show M≠w.heap.size;omega)]
 clear hHeld
 refine qab 11 rfl (by kernel_rfl) (fun K hK=>?_)
 go_simp
 refine hK.out _ _ (fun _=>HF.out.2.2.2.2) ?_
 clear hK K
 (try simp only [Act.put,zD,zE,zF])
 have hHeld:(fun w':World=>BoxC w' M (.slice x.pa x.pn x.pc) (.slice x.sa x.sn x.sc) (.slice x.wa x.wn x.wc) (.slice x.ha x.hn x.hc)) ((((w7.setCell ⟨w.heap.size,0,none⟩ (.slice x.pa x.pn x.pc)).setCell ⟨w.heap.size,1,none⟩ (.slice x.sa x.sn x.sc)).setCell ⟨w.heap.size,2,none⟩ (.slice x.wa x.wn x.wc)).setCell ⟨w.heap.size,3,none⟩ (.slice x.ha x.hn x.hc)):=HF.out.2.2.2.2
 refine qa6 [12,13] ?_
 iterate 2 (refine qar rfl hHeld ?_;apply Exists.intro;refine ⟨fun wq hSw=>?_,?_⟩;(· ((try dsimp only at hSw);go_simp;try with_reducible rfl));(try simp only [Act.put,zD,zE,zF]))
 refine qaw ?_
 refine qat (by kernel_rfl) ?_ _
 go_wp2
 exact bodyPost_ret (v:=.tuple #[x.v,.slice (some ⟨gv,0,none⟩) n cv,.int .i64 (k5 - k7 / 19)]) (by simp [results,Tryz.results8,go_sem,x0,x1,x2,x3]) rfl ⟨x,B,T,_,n,h,_,rfl,HM.out,HF.out.1,HF.out.2.1,hn,by omega,by simpa using HF.out.2.2.1,HF.out.2.2.2.1⟩
theorem qr4 (p i q j:Int) (w:World):(binOp .eql 37 (woV p i) (woV q j)).run Tryz.prog w=.ok (.bool (spEq p i q j)) w:=by
 rw [run_eql_struct,show (10000:Nat)=9998+1+1 from rfl,run_equalIn_agg w (9998+1) 37 _ _ (by kernel_rfl) (by kernel_rfl)]
 simp only [spEq]
 by_cases h1:p=q <;> by_cases h2:i=j <;> simp [go_sem,h1,h2]
theorem qgh (p i:Int) (w:World):(binOp .eql 37 (.agg #[.int .i64 p,.int .i64 i]) (.agg #[.int .i64 p,.int .i64 i])).run Tryz.prog w=.ok (.bool true) w:=by
 have h:=qr4 p i p i w
 rw [show spEq p i p i=true by simp [spEq]] at h
 exact h
theorem qv0 {y:Sy} {h:Nat->Wo2} {n:Nat} {k:Int} (hs:swB y h n k=true):∃ K:Nat,k=K/\K+1<n:=by
 unfold swB at hs
 simp only [Bool.and_eq_true] at hs
 have hb:0<=k/\k<(n:Int) - 1:=by simpa [belB] using hs.1.1
 exact ⟨k.toNat,by omega,by omega⟩
structure Dq2 (w wr:World) (X:Nat) (x:SysIn) (gr n:Nat) (h:Nat->Wo2):Prop where
 j:WJ w wr X x
 ro:WoAt wr gr 0 n h
 lt:gr<wr.heap.size
theorem Dq2.below {w wr w':World} {X gr n:Nat} {x:SysIn} {h:Nat->Wo2} (d:Dq2 w wr X x gr n h) (hb:Below wr.heap.size wr w'):Dq2 w w' X x gr n h:=⟨d.j.below hb,d.ro.below hb d.lt,zL d.lt hb.size⟩
theorem Dq2.row {w wr:World} {X gr n:Nat} {x:SysIn} {h:Nat->Wo2} (d:Dq2 w wr X x gr n h):WoL wr (some ⟨gr,0,none⟩) n h:=.inr ⟨gr,0,rfl,d.lt,d.ro⟩
theorem qh1 (a0:Option Addr) (len cap:Nat) (w:World) (hl:len<=1048576) (hB:qb5 w w.heap.size a0 len) (hV:w.cell? ⟨0,0,none⟩=some (.iface 310 (.agg #[.pointer (some ⟨1,217,none⟩)]))):
  Calls Tryz.prog 3 #[.slice a0 len cap] w fun e w'=>e=.returned (.bool true)/\Below w.heap.size w w':=by
 have HB:Hid (qb5 w w.heap.size a0 len):=hB
 have HV:Hid (∀ wx,Below w.heap.size w wx->wx.cell? ⟨0,0,none⟩=some (.iface 310 (.agg #[.pointer (some ⟨1,217,none⟩)]))):=fun wx hb=>(hb.cell (p:=⟨0,0,none⟩) (zJ w _ hV)).trans hV
 clear hB hV
 go_enter Tryz.func3,Tryz.ntmps3
 go_wp2_with fail
 refine (qps a0 len cap w).mono ?_
 rintro e w1 ⟨rfl,e1⟩
 obtain rfl:=e1.symm
 rw [decide_eq_false (show ¬ (1048576:Int)<(len:Int) by omega)]
 go_wp2_with fail
 refine (qjw w.heap.size len cap a0 w HB.out (Nat.le_refl _) hl).mono ?_
 rintro e w2 ⟨x,B,T,v,n,h,k,rfl,hm,hX,hO,hn,⟨k0,k1⟩,-,b2⟩
 have HM:Hid (x.Len/\∀ i,i<x.hn->x.hL i<=x.hC i):=⟨hm.inLen,hX.cap⟩
 obtain ⟨gr,cr,rfl,-,gr1,gr2,-⟩:=hO
 have K2:Hid (Dq2 w (w2.alloc (oQ4 x.pa x.pn x.pc x.sa x.sn x.sc x.wa x.wn x.wc x.ha x.hn x.hc)) w2.heap.size x gr n h):=⟨⟨hX.self.below (zQ _ _),BoxC.new _ _ _ _ _ _,b2.trans ((zQ _ _).mono b2.size)⟩,gr2.below (zQ _ _) gr1,by simp;omega⟩
 clear hX b2 hm HB gr1 gr2
 have hn1:(n:Int)<=800:=by omega
 have HSw:Hid (∀ go c0 H wx t,swB x.y H n k=t->WJ w wx w2.heap.size x->WoAt wx go 0 n H->go<wx.heap.size->Calls Tryz.prog 9 #[x.v,.slice (some ⟨go,0,none⟩) n c0,.int .i64 k] wx fun e w'=>∃ v,e=.returned (.tuple #[v,.bool t])/\OwV w' wx.heap.size v (swN x.y H n k) (swH H k.toNat)/\Below wx.heap.size wx w'):=fun go c0 H wx t ht hj hr hg=>by
  rw [<- ht]
  exact qkw x _ n c0 H k wx hj.g HM.out.1 HM.out.2 (.inr ⟨_,_,rfl,hg,hr⟩) (by omega) (HV.out _ hj.be)
 have HRo:Hid (∀ go c0 H wx t,rwB x.y H n=t->WJ w wx w2.heap.size x->WoAt wx go 0 n H->go<wx.heap.size->Calls Tryz.prog 11 #[x.v,.slice (some ⟨go,0,none⟩) n c0] wx fun e w'=>e=.returned (.bool t)/\Below wx.heap.size wx w'):=fun go c0 H wx t ht hj hr hg=>by
  rw [<- ht]
  exact qe9 x _ n c0 H wx hj.g HM.out.1 (.inr ⟨_,_,rfl,hg,hr⟩) (by omega) (HV.out _ hj.be)
 go_upto_region 4 with fail
 generalize w2.alloc (oQ4 x.pa x.pn x.pc x.sa x.sn x.sc x.wa x.wn x.wc x.ha x.hn x.hc)=W2 at *
 generalize w2.heap.size=X at *
 clear w2
 cases hs:swB x.y h n k with
 | false=>
  have HS:Hid (swB x.y h n k=false/\swN x.y h n k=0):=⟨hs,if_neg (by rw [hs];decide)⟩
  clear hs
  obtain ⟨z0,z1,z2,z3⟩:=K2.out.j.bx
  go_wp2_with fail
  clear z0 z1 z2 z3
  refine (HSw.out gr cr h W2 false HS.out.1 K2.out.j K2.out.ro K2.out.lt).mono ?_
  rintro e w3 ⟨v3,rfl,o3,b3⟩
  rw [HS.out.2] at o3
  obtain ⟨go,co,rfl,-,-,-,-⟩:=o3
  have K3:Hid (Dq2 w w3 X x gr n h):=K2.out.below b3
  clear b3 K2
  obtain ⟨z0,z1,z2,z3⟩:=K3.out.j.bx
  go_wp2_with fail
  clear z0 z1 z2 z3
  refine (qgn x _ n cr h k w3 K3.out.j.g HM.out.1 HM.out.2 K3.out.row (by omega)).mono ?_
  rintro e w4 ⟨v4,rfl,-,b4⟩
  have K4:Hid (Dq2 w w4 X x gr n h):=K3.out.below b4
  clear b4 K3
  rw [HS.out.1]
  go_wp2
  go_ret
  exact ⟨rfl,K4.out.j.be⟩
 | true=>
  obtain ⟨K,rfl,hK⟩:=qv0 hs
  obtain ⟨hs2,hs3⟩:=qth hs
  have HS:Hid (swB x.y h n (K:Int)=true/\swN x.y h n (K:Int)=n/\swB x.y (swH h K) n (K:Int)=true/\swN x.y (swH h K) n (K:Int)=n/\rwB x.y (swH h K) n=true/\((K:Nat):Int).toNat=K):=⟨hs,if_pos hs,hs2,if_pos hs2,hs3,Int.toNat_natCast K⟩
  clear hs hs2 hs3
  obtain ⟨z0,z1,z2,z3⟩:=K2.out.j.bx
  go_wp2_with fail
  clear z0 z1 z2 z3
  refine (HSw.out gr cr h W2 true HS.out.1 K2.out.j K2.out.ro K2.out.lt).mono ?_
  rintro e w3 ⟨v3,rfl,o3,b3⟩
  rw [HS.out.2.1,HS.out.2.2.2.2.2] at o3
  obtain ⟨go,co,rfl,-,go1,go2,-⟩:=o3
  have K3:Hid (Dq2 w w3 X x gr n h/\Dq2 w w3 X x go n (swH h K)):=⟨K2.out.below b3,(K2.out.below b3).j,go2,go1⟩
  clear b3 K2 go1 go2
  obtain ⟨z0,z1,z2,z3⟩:=K3.out.1.j.bx
  go_wp2_with fail
  clear z0 z1 z2 z3
  refine (qgn x _ n cr h (K:Int) w3 K3.out.1.j.g HM.out.1 HM.out.2 K3.out.1.row (by omega)).mono ?_
  rintro e w4 ⟨v4,rfl,-,b4⟩
  have K4:Hid (Dq2 w w4 X x gr n h/\Dq2 w w4 X x go n (swH h K)):=⟨K3.out.1.below b4,K3.out.2.below b4⟩
  clear b4 K3
  rw [HS.out.1]
  obtain ⟨z0,z1,z2,z3⟩:=K4.out.1.j.bx
  go_wp2_with fail
  clear z0 z1 z2 z3
  refine (HSw.out go co (swH h K) w4 true HS.out.2.2.1 K4.out.2.j K4.out.2.ro K4.out.2.lt).mono ?_
  rintro e w5 ⟨v5,rfl,o5,b5⟩
  rw [HS.out.2.2.2.1,HS.out.2.2.2.2.2] at o5
  obtain ⟨gb,cb,rfl,-,gb1,gb2,-⟩:=o5
  have K5:Hid (Dq2 w w5 X x gr n h/\Dq2 w w5 X x go n (swH h K)/\Dq2 w w5 X x gb n (swH (swH h K) K)):=⟨K4.out.1.below b5,K4.out.2.below b5,(K4.out.1.below b5).j,gb2,gb1⟩
  clear b5 K4 gb1 gb2
  go_upto_region 11 with fail
  have q0:Below w5.heap.size w5 w5.drew:=(Below.refl w5.heap.size w5).drew
  have hK1:(K:Int)<(n:Int):=by omega
  have hK2:(K:Int)+1<(n:Int):=by omega
  have hK3:(0:Int)<=(K:Int)+1:=by omega
  have hwk:IntKind.i64.wrap ((K:Int)+1)=(K:Int)+1:=by rw [IntKind.wrap_i64];omega
  have hnn:((n:Int) == (n:Int))=true:=by simp
  obtain ⟨m0,hm0⟩:∃ m0,(h K).m=m0:=⟨_,rfl⟩
  obtain ⟨v0,hv0⟩:∃ v0,(h K).v=v0:=⟨_,rfl⟩
  obtain ⟨m1,hm1⟩:∃ m1,(h (K+1)).m=m1:=⟨_,rfl⟩
  obtain ⟨v1,hv1⟩:∃ v1,(h (K+1)).v=v1:=⟨_,rfl⟩
  have eq0:=qgh m0 v0
  have eq1:=qgh m1 v1
  have hS:∀ wx,Below w5.heap.size w5 wx->(fun w':World=>BoxC w' X (.slice x.pa x.pn x.pc) (.slice x.sa x.sn x.sc) (.slice x.wa x.wn x.wc) (.slice x.ha x.hn x.hc)/\w'.cell? ⟨gr,K*2,none⟩=some (.int .i64 m0)/\w'.cell? ⟨gr,K*2+1,none⟩=some (.int .i64 v0)/\w'.cell? ⟨gr,(K+1)*2,none⟩=some (.int .i64 m1)/\w'.cell? ⟨gr,(K+1)*2+1,none⟩=some (.int .i64 v1)/\w'.cell? ⟨go,K*2,none⟩=some (.int .i64 m1)/\w'.cell? ⟨go,K*2+1,none⟩=some (.int .i64 v1)/\w'.cell? ⟨go,(K+1)*2,none⟩=some (.int .i64 m0)/\w'.cell? ⟨go,(K+1)*2+1,none⟩=some (.int .i64 v0)/\w'.cell? ⟨gb,K*2,none⟩=some (.int .i64 m0)/\w'.cell? ⟨gb,K*2+1,none⟩=some (.int .i64 v0)) wx:=fun wx hb=>by
   have a:=(K5.out.1.below hb).ro
   have b:=(K5.out.2.1.below hb).ro
   have d:=(K5.out.2.2.below hb).ro
   have a0:=a K (by omega)
   have a1:=a (K+1) hK
   have b0:=b K (by omega)
   have b1:=b (K+1) hK
   have d0:=d K (by omega)
   rw [Nat.zero_add] at a0 a1 b0 b1 d0
   rw [qjo] at b0
   rw [qjp] at b1
   rw [qjo,qjp] at d0
   rw [hm0,hv0] at a0 b1 d0
   rw [hm1,hv1] at a1 b0
   exact ⟨(K5.out.1.below hb).j.bx,a0.1,a0.2,a1.1,a1.2,b0.1,b0.2,b1.1,b1.2,d0.1,d0.2⟩
  have HS0:Hid (∀ wx,Below w5.heap.size w5 wx->(fun w':World=>BoxC w' X (.slice x.pa x.pn x.pc) (.slice x.sa x.sn x.sc) (.slice x.wa x.wn x.wc) (.slice x.ha x.hn x.hc)/\w'.cell? ⟨gr,K*2,none⟩=some (.int .i64 m0)/\w'.cell? ⟨gr,K*2+1,none⟩=some (.int .i64 v0)/\w'.cell? ⟨gr,(K+1)*2,none⟩=some (.int .i64 m1)/\w'.cell? ⟨gr,(K+1)*2+1,none⟩=some (.int .i64 v1)/\w'.cell? ⟨go,K*2,none⟩=some (.int .i64 m1)/\w'.cell? ⟨go,K*2+1,none⟩=some (.int .i64 v1)/\w'.cell? ⟨go,(K+1)*2,none⟩=some (.int .i64 m0)/\w'.cell? ⟨go,(K+1)*2+1,none⟩=some (.int .i64 v0)/\w'.cell? ⟨gb,K*2,none⟩=some (.int .i64 m0)/\w'.cell? ⟨gb,K*2+1,none⟩=some (.int .i64 v0)) wx):=hS
  clear hS hm0 hv0 hm1 hv1
  refine qal (fun w'=>BoxC w' X (.slice x.pa x.pn x.pc) (.slice x.sa x.sn x.sc) (.slice x.wa x.wn x.wc) (.slice x.ha x.hn x.hc)/\w'.cell? ⟨gr,K*2,none⟩=some (.int .i64 m0)/\w'.cell? ⟨gr,K*2+1,none⟩=some (.int .i64 v0)/\w'.cell? ⟨gr,(K+1)*2,none⟩=some (.int .i64 m1)/\w'.cell? ⟨gr,(K+1)*2+1,none⟩=some (.int .i64 v1)/\w'.cell? ⟨go,K*2,none⟩=some (.int .i64 m1)/\w'.cell? ⟨go,K*2+1,none⟩=some (.int .i64 v1)/\w'.cell? ⟨go,(K+1)*2,none⟩=some (.int .i64 m0)/\w'.cell? ⟨go,(K+1)*2+1,none⟩=some (.int .i64 v0)/\w'.cell? ⟨gb,K*2,none⟩=some (.int .i64 m0)/\w'.cell? ⟨gb,K*2+1,none⟩=some (.int .i64 v0)) (fun _=>false) (by kernel_rfl) ?_
  have hHeld:=HS0.out _ q0
  refine qac 0 rfl hHeld ?_
  apply Exists.intro
  refine ⟨fun wq hSw=>?_,?_⟩
  ·obtain ⟨⟨h0,h1,h2,h3⟩,-⟩:=hSw
   go_simp
   try with_reducible rfl
  (try simp only [Act.put,zD,zE,zF])
  refine qac 1 rfl hHeld ?_
  apply Exists.intro
  refine ⟨fun wq hSw=>?_,?_⟩
  ·(try dsimp only at hSw)
   go_simp
   try with_reducible rfl
  (try simp only [Act.put,zD,zE,zF])
  refine qab 2 rfl (by kernel_rfl) (fun Kc hKc=>?_)
  refine qb7 rfl 11 _ _ rfl #[x.v,.slice (some ⟨go,0,none⟩) n co] (by simp [Act.eval]) (yA Tryz.func11 (by kernel_rfl) rfl) (HRo.out go co (swH h K) w5.drew true HS.out.2.2.2.2.1 (K5.out.2.1.below q0).j (K5.out.2.1.below q0).ro (K5.out.2.1.below q0).lt) ?_
  rintro e w6 ⟨rfl,b6⟩
  have q6:Below w5.heap.size w5 w6:=q0.trans (b6.mono q0.size)
  refine ⟨_,rfl,?_⟩
  refine hKc.out _ _ (fun _=>HS0.out _ q6) ?_
  clear hKc Kc hHeld
  (try simp only [Act.put,zD,zE,zF])
  have hHeld:=HS0.out _ q6
  refine qa6 [3,4,5,6,7,8,9,10,11,12,13,14,15,16] ?_
  iterate 14 (refine qar rfl hHeld ?_;apply Exists.intro;refine ⟨fun wq hSw=>?_,?_⟩;(· ((try dsimp only at hSw);go_simp;try with_reducible rfl));(try simp only [Act.put,zD,zE,zF]))
  refine qaw ?_
  refine qac 17 rfl hHeld ?_
  apply Exists.intro
  refine ⟨fun wq hSw=>?_,?_⟩
  ·obtain ⟨-,-,-,-,-,-,-,-,-,c8,c9⟩:=hSw
   go_simp
   try with_reducible rfl
  (try simp only [Act.put,zD,zE,zF])
  refine qa6 [18,19,20] ?_
  iterate 3 (refine qar rfl hHeld ?_;apply Exists.intro;refine ⟨fun wq hSw=>?_,?_⟩;(· ((try dsimp only at hSw);go_simp;try with_reducible rfl));(try simp only [Act.put,zD,zE,zF]))
  refine qaw ?_
  refine qac 21 rfl hHeld ?_
  apply Exists.intro
  refine ⟨fun wq hSw=>?_,?_⟩
  ·obtain ⟨-,c0,c1,-,-,-,-,-,-,-,-⟩:=hSw
   go_simp
   try with_reducible rfl
  (try simp only [Act.put,zD,zE,zF])
  refine qa6 [22,23,24,25,26,27] ?_
  iterate 6 (refine qar rfl hHeld ?_;apply Exists.intro;refine ⟨fun wq hSw=>?_,?_⟩;(· ((try dsimp only at hSw);go_simp;try with_reducible rfl));(try simp only [Act.put,zD,zE,zF]))
  refine qaw ?_
  refine qac 28 rfl hHeld ?_
  apply Exists.intro
  refine ⟨fun wq hSw=>?_,?_⟩
  ·obtain ⟨-,-,-,-,-,c4,c5,-,-,-,-⟩:=hSw
   go_simp
   try with_reducible rfl
  (try simp only [Act.put,zD,zE,zF])
  refine qa6 [29,30,31,32] ?_
  iterate 4 (refine qar rfl hHeld ?_;apply Exists.intro;refine ⟨fun wq hSw=>?_,?_⟩;(· ((try dsimp only at hSw);go_simp;try with_reducible rfl));(try simp only [Act.put,zD,zE,zF]))
  refine qaw ?_
  refine qac 33 rfl hHeld ?_
  apply Exists.intro
  refine ⟨fun wq hSw=>?_,?_⟩
  ·obtain ⟨-,-,-,c2,c3,-,-,-,-,-,-⟩:=hSw
   go_simp
   try with_reducible rfl
  (try simp only [Act.put,zD,zE,zF])
  refine qa6 [34,35,36,37,38,39,40] ?_
  iterate 7 (refine qar rfl hHeld ?_;apply Exists.intro;refine ⟨fun wq hSw=>?_,?_⟩;(· ((try dsimp only at hSw);go_simp;try with_reducible rfl));(try simp only [Act.put,zD,zE,zF]))
  refine qaw ?_
  refine qac 41 rfl hHeld ?_
  apply Exists.intro
  refine ⟨fun wq hSw=>?_,?_⟩
  ·obtain ⟨-,-,-,-,-,-,-,c6,c7,-,-⟩:=hSw
   go_simp
   try with_reducible rfl
  (try simp only [Act.put,zD,zE,zF])
  refine qa6 [42,43,44] ?_
  iterate 3 (refine qar rfl hHeld ?_;apply Exists.intro;refine ⟨fun wq hSw=>?_,?_⟩;(· ((try dsimp only at hSw);go_simp;try with_reducible rfl));(try simp only [Act.put,zD,zE,zF]))
  refine qaw ?_
  refine qac 45 rfl hHeld ?_
  apply Exists.intro
  refine ⟨fun wq hSw=>?_,?_⟩
  ·obtain ⟨-,c0,c1,-,-,-,-,-,-,-,-⟩:=hSw
   go_simp
   try with_reducible rfl
  (try simp only [Act.put,zD,zE,zF])
  refine qa6 [46,47,48] ?_
  iterate 3 (refine qar rfl hHeld ?_;apply Exists.intro;refine ⟨fun wq hSw=>?_,?_⟩;(· ((try dsimp only at hSw);go_simp;try with_reducible rfl));(try simp only [Act.put,zD,zE,zF]))
  refine qaw ?_
  refine qat (by kernel_rfl) ?_ _
  go_wp2
  go_ret
  exact ⟨rfl,K5.out.1.j.be.trans (q6.mono K5.out.1.j.be.size)⟩
theorem qh0 (a0:Option Addr) (len cap:Nat) (w:World) (_:len<=maxLen) (hlen:1048576<len):
  Calls Tryz.prog 3 #[.slice a0 len cap] w fun e w'=>e=.returned (.bool true)/\Below w.heap.size w w':=by
 go_enter Tryz.func3,Tryz.ntmps3
 go_wp2_with fail
 refine (qps a0 len cap w).mono ?_
 rintro e w1 ⟨rfl,e1⟩
 obtain rfl:=e1.symm
 rw [decide_eq_true (show (1048576:Int)<(len:Int) by omega)]
 go_wp2
 go_ret
 exact ⟨rfl,Below.refl _ _⟩
theorem Tryz.et : Tryz.prog.globalNamed "errors.errorType" = some 0 := by kernel_rfl
theorem Tryz.rt : (Tryz.prog.cutTypes.find? (·.1 == "internal/reflectlite.rtype")).map (·.2) = some 310 := by kernel_rfl
theorem Tryz.oneRow:((List.range 359).filter fun t=>Tryz.prog.rowNamed t [101,114,114,111,114])=[217]:=by kernel_rfl
theorem Tryz.tsize:Tryz.prog.types.size=359:=by kernel_rfl
theorem qhs {W : World} (h : laidMetH Tryz.prog [("errors.errorType", Rows.laid_errors_errorType)] W) : W.cell? ⟨0, 0, none⟩ = some (.iface 310 (.agg #[.pointer (some ⟨1, 217, none⟩)])) := by
 have h' : laidMet Tryz.prog [] W /\ handlesMet Tryz.prog [("errors.errorType", Rows.laid_errors_errorType)] W := h
 obtain ⟨name,u,ty,e1,e2,e3,e4,e5⟩:=h'.2 _ (List.mem_singleton.2 rfl)
 have en:name=[101,114,114,111,114]:=(Option.some.inj e1).symm
 subst en
 obtain rfl:=Option.some.inj (Tryz.rt.symm.trans e2)
 have hm:ty ∈ (List.range 359).filter fun t=>Tryz.prog.rowNamed t [101,114,114,111,114]:=List.mem_filter.2 ⟨List.mem_range.2 (by rw [<- Tryz.tsize];exact e3),e4⟩
 rw [Tryz.oneRow] at hm
 obtain rfl:=List.mem_singleton.1 hm
 have hh:typeHandle Tryz.prog 217=.pointer (some ⟨1,217,none⟩):=by kernel_rfl
 rw [hh] at e5
 simpa using World.var?_cell Tryz.et e5 0
noncomputable def qk2 (os:Os):World:=
 let w0:=World.holding Tryz.prog os ⟨#[],#[],[]⟩
 { w0 with heap := w0.heap.modify 0 fun
   | .cells _ t frozen=>.cells #[.iface 310 (.agg #[.pointer (some ⟨1,217,none⟩)])] t frozen
   | o=>o }
theorem qi8 (os : Os) (args : Array Value) : laidMetH Tryz.prog [("errors.errorType", Rows.laid_errors_errorType)] ((qk2 os).forCall (fun _ _ => 0) ⟨#[], args, []⟩).memory :=
 laidMetH_of_parts (laidMet_nil _ _) (by kernel_rfl)
theorem qna (os:Os) (started:os.Started) (H:Type) (enc:TypeId × Value->H):
  ReturnsInHanded {} Tryz.checked os 3 .any (fun w args => (Rows.fnSwappedSpec.pre enc Tryz.prog Tryz.f3 [] false w args /\ laidMetH Tryz.prog [("errors.errorType", Rows.laid_errors_errorType)] w) /\ sizedMet enc Tryz.prog Tryz.f3 (OpenSpec.ofChange Rows.fnSwappedSpec) false w args)
   (Rows.fnSwappedSpec.post enc Tryz.prog Tryz.f3 false true false false):=by
 refine returnsInHanded_of_change_and (C := Tryz.checked) (X := fun w _ => laidMetH Tryz.prog [("errors.errorType", Rows.laid_errors_errorType)] w) (fun _ _ _ hh h => h.of_heap hh) Tryz.own started (by kernel_rfl) Tryz.func3
  (ChangeSpec.witness_at (enc := enc) (C := Tryz.checked) (os := os) (X := fun w _ => laidMetH Tryz.prog [("errors.errorType", Rows.laid_errors_errorType)] w) false (qk2 os) #[.slice none 0 0] 8 rfl (by kernel_rfl) (by kernel_rfl) (by kernel_rfl) (by kernel_rfl) (by kernel_rfl) (qi8 os _)) ?_
 intro W base args ds gs before hval0 hW _ _ hL _
 have hval:∀ (j:Nat) t v,Tryz.f3.params[j]? = some t->args[j]? = some v->Value.okWide Tryz.prog W .any base t v:=hval0
 have hW':=hW
 obtain ⟨p,q,hA0,hV,rfl,hfz,hnd⟩:=hW
 have hA:DataW.TrodAll enc Tryz.prog W 0 (fun _=>true) true Tryz.f3.params.toList args.toList ds p:=hA0
 rw [Tryz.params3] at hA hval
 obtain ⟨v0,d0,rfl,rfl,h0⟩:=trodAll_one hA
 obtain ⟨rfl,rfl⟩:=trodVars_none hV
 have lt0:∀ x ∈ p,x.block<W.heap.size:=by obtain ⟨m,hm⟩:=h0;exact DataW.trod_lt m _ _ _ hm
 have hg:=qhs hL
 clear hA0 hval0
 have hlaw:Calls Tryz.prog 3 #[v0] W fun e w'=>e=.returned (.bool true)/\Below W.heap.size W w':=by
  obtain ⟨a0,len,cap,rfl⟩:=okWide_slice Tryz.underlying22 (hval 0 22 v0 rfl rfl)
  obtain ⟨hm,hB⟩:=qo7 h0
  by_cases hs:len<=1048576
  ·exact qh1 a0 len cap W hs hB hg
  ·exact qh0 a0 len cap W hm (by omega)
 refine hlaw.mono fun e W' ⟨he,bel⟩=>?_
 subst he
 exact ⟨_,rfl,_,_,_,[],_,[],hW',trodAll_mk1 (shut_bool Tryz.underlying4 _),trodAll_mk1 (Below.trod Tryz.laidOut (by kernel_rfl) (of_decide_eq_true (by kernel_rfl)) h0 bel lt0),rfl,bel.frame _,fun h=>by cases h⟩
theorem qrg:Rows.FnSwappedSaid:=
 OpenClaim.holds_of_wide 3 Tryz.f3 rfl rfl rfl rfl rfl rfl rfl ⟨rfl,rfl,rfl,rfl,rfl⟩ rfl rfl rfl rfl rfl (by kernel_rfl) Tryz.func3 (by kernel_rfl)
  (of_decide_eq_true (by kernel_rfl)) (by unfold Func.isWrapper;first|(rw [if_pos (by decide +kernel)];kernel_rfl)|(rw [if_neg (by decide +kernel)];exact ⟨rfl,rfl⟩))
  (fun os started H enc _=>qna os started H enc)
theorem qpj (f : FuncId) (fn : Func) (hf : Tryz.pinned.checked.prog.funcNamed "loop.example/g00196/laws.FnSwapped" = some f) (hfn : Tryz.pinned.checked.prog.funcs[f]? = some fn) :
  true=Tryz.pinned.checked.prog.looks []/\∀ (j:Nat) t,fn.params[j]? = some t->Tryz.pinned.checked.prog.wantsStandIn t=false:=by
 obtain rfl : f = 3 := Option.some.inj ((show Tryz.prog.funcNamed "loop.example/g00196/laws.FnSwapped" = some 3 by kernel_rfl).symm.trans hf) |>.symm
 obtain rfl:fn=Tryz.f3:=(Option.some.inj (Tryz.func3.symm.trans hfn)).symm
 refine ⟨by kernel_rfl,fun j t ht=>?_⟩
 rw [Tryz.params3] at ht
 have hm:=Array.mem_of_getElem? ht
 simp at hm
 obtain rfl:=hm
 exact (show Tryz.prog.wantsStandIn 22=false by kernel_rfl)
theorem swapD_card:Rows.FnSwappedCardSaid:=
 Claim7.holds_tied_plain_at .later [] _ _ _ _ qrg (fun _ h=>by cases h) (by kernel_rfl) (fun _ h=>by cases h) fnSwapped_row_tie rfl ⟨rfl,rfl⟩ (by kernel_rfl) rfl qpj (by kernel_rfl)
