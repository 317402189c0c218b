import Derived.Test.YthdaejgmfognbaaGreatDoorTe0
import Derived.Test.YthdaejgmfognbaaGreatDoorTg46
import Derived.Test.YthdaejgmfognbaaGreatDoorTg47
import Derived.ScopeJumps
import Derived.WalkMore
namespace Go.Proofs.YthdaejgmfognbaaGreatDoor
set_option maxRecDepth 100000
set_option maxHeartbeats 1000000
open Go.ChangeShapes Go.WideShapes Go.ChangeAt Go.RowKit Go.Deep Go.Sort
theorem own_blk {N n c k:Nat} (h:(Value.slice (some ⟨N,0,none⟩) n c).ownBlock=some k):N=k:=by
 cases h
 rfl
def sm:List Int->Nat
 | []=>0
 | x :: xs=>x.toNat+sm xs
theorem sm_set:∀ (e:List Int) (b:Nat) (k:Int),b<e.length->k<zi e b->0<=k->sm (e.set b k)<sm e
 | [],b,k,hb,_,_=>by simp at hb
 | x :: xs,0,k,_,hk,h0=>by
  have h1:zi (x :: xs) 0=x:=rfl
  rw [h1] at hk
  simp only [zE,sm]
  omega
 | x :: xs,b+1,k,hb,hk,h0=>by
  have h1:zi (x :: xs) (b+1)=zi xs b:=rfl
  rw [h1] at hk
  have:=sm_set xs b k (by simpa using hb) hk h0
  simp only [zF,sm]
  omega
structure CW (w wr:World) (x:SysIn) (g cap:Nat) (c e:List Int):Prop where
 ow:OwnI wr (w.heap.size+1) (.slice (some ⟨g,0,none⟩) c.length cap) e
 be:Below w.heap.size w wr
 bx:BoxC wr w.heap.size (.slice x.pa x.pn x.pc) (.slice x.sa x.sn x.sc) (.slice x.wa x.wn x.wc) (.slice x.ha x.hn x.hc)
 cl:x.y.Cl c e
 ln:e.length=c.length
theorem CW.g {w wr:World} {x:SysIn} {g cap:Nat} {c e:List Int} (h:CW w wr x g cap c e):w.heap.size+1<=g/\g<wr.heap.size:=h.ow.lt g rfl
theorem CW.below {w wr w':World} {x:SysIn} {g cap:Nat} {c e:List Int} (h:CW w wr x g cap c e) (hb:Below wr.heap.size wr w'):CW w w' x g cap c e:=⟨h.ow.below hb,h.be.trans (hb.mono h.be.size),h.bx.below hb,h.cl,h.ln⟩
theorem CW.slOf {w wr:World} {x:SysIn} {g cap:Nat} {c e:List Int} (h:CW w wr x g cap c e):Sl wr (some ⟨g,0,none⟩) e:=h.ow.slOf
theorem CW.cell {w wr:World} {x:SysIn} {g cap:Nat} {c e:List Int} (h:CW w wr x g cap c e) {b:Nat} (hb:b<c.length):wr.cell? ⟨g,b,none⟩=some (.int .i64 (zi e b))/\wr.frozen? ⟨g,b,none⟩=false:=by
 have ho:=h.ow
 rw [<- h.ln] at ho hb
 exact ⟨ho.cell hb,ho.frozen b⟩
theorem CW.put {w wr:World} {x:SysIn} {g cap:Nat} {c e:List Int} (h:CW w wr x g cap c e) {b:Nat} {k:Int} (hn:x.y.Cl c (e.set b k)):CW w (wr.setCell ⟨g,b,none⟩ (.int .i64 k)) x g cap c (e.set b k):=by
 have hg:=h.g
 obtain ⟨h0,h1,h2,h3⟩:=h.bx
 have hc:∀ i,(wr.setCell ⟨g,b,none⟩ (.int .i64 k)).cell? ⟨w.heap.size,i,none⟩=wr.cell? ⟨w.heap.size,i,none⟩:=fun i=>World.cell?_setCell_other _ _ _ _ (by intro e;injection e with e;omega)
 exact ⟨(h.ow.set h.ln.symm b k).1,h.be.setCell (by simp;omega) _,⟨(hc _).trans h0,(hc _).trans h1,(hc _).trans h2,(hc _).trans h3⟩,hn,by rw [List.length_set];exact h.ln⟩
theorem l8Close_any (x:SysIn) (ca:Option Addr) (cc:Nat) (c:List Int) (w:World) (hG:SysG w x) (hcap:∀ i,i<x.hn->x.hL i<=x.hC i) (ht:cutB x.y c=true) (hc:Sl w ca c):
  Calls Tryz.prog 44 #[x.v,.slice ca c.length cc] w fun e w'=>∃ u,e=.returned u/\OwnI w' w.heap.size u (clS x.y c)/\Below w.heap.size w w':=by
 obtain ⟨hO,hC⟩:=cutB_parts ht
 have hln:c.length=x.pn:=hC.len
 have h1:1<=x.pn:=hO.cn.1.1
 have h4:x.pn<=4:=hO.cn.1.2
 have hl':(c.length:Int)<=4:=by omega
 have HQ:Hid (c.length=x.pn/\0<c.length/\c.length<=4):=⟨hln,by omega,by omega⟩
 have HSl:Hid (Sl w ca c):=hc
 have HWh:Hid (∀ wr g cap e,CW w wr x g cap c e->Calls Tryz.prog 93 #[x.v,.slice (some ⟨g,0,none⟩) c.length cap] wr fun r w'=>r=.returned (.bool (qB (x.y.Wh (cN e))))/\Below wr.heap.size wr w'):=fun wr g cap e h=>by
  have:=l8Whole_any x (some ⟨g,0,none⟩) cap e wr (hG.below h.be) hcap hO (h.cl.cut hC) h.slOf
  rwa [h.ln] at this
 have HOv:Hid (∀ wr g cap e a b,CW w wr x g cap c e->a<c.length->b<c.length->Calls Tryz.prog 94 #[x.v,.slice (some ⟨g,0,none⟩) c.length cap,.int .i64 (a:Nat),.int .i64 (b:Nat)] wr fun r w'=>r=.returned (.int .i64 (ovN x.y (cN e) a b))/\Below wr.heap.size wr w'):=fun wr g cap e a b h ha hb=>by
  have:=l8Over_any x (some ⟨g,0,none⟩) cap e a b wr (hG.below h.be) hcap hO (h.cl.cut hC) h.slOf (by omega) (by omega)
  rwa [h.ln] at this
 have HSt:Hid (x.y.Cl c c):=Sy.Cl.start hC
 have HEnd:Hid (∀ e,x.y.Cl c e->x.y.Wh (cN e)->clS x.y c=e):=fun e h h'=>clS_yes ht h h'
 have BW:Hid (Below w.heap.size w (w.alloc (oQ4 x.pa x.pn x.pc x.sa x.sn x.sc x.wa x.wn x.wc x.ha x.hn x.hc))):=zT _ _
 have NB:Hid (BoxC (w.alloc (oQ4 x.pa x.pn x.pc x.sa x.sn x.sc x.wa x.wn x.wc x.ha x.hn x.hc)) w.heap.size (.slice x.pa x.pn x.pc) (.slice x.sa x.sn x.sc) (.slice x.wa x.wn x.wc) (.slice x.ha x.hn x.hc)):=BoxC.new w _ _ _ _ _
 have NS:Hid ((w.alloc (oQ4 x.pa x.pn x.pc x.sa x.sn x.sc x.wa x.wn x.wc x.ha x.hn x.hc)).heap.size=w.heap.size+1):=by show _=_;simp
 clear hG hcap hO hC hc hln h1 h4 ht
 go_enter Tryz.func44,Tryz.ntmps44
 go_upto_region 1 with fail
 generalize w.alloc (oQ4 x.pa x.pn x.pc x.sa x.sn x.sc x.wa x.wn x.wc x.ha x.hn x.hc)=W2 at *
 have HL4:Hid (([]:List Int).length+c.length<=4000000/\W2.heap.size<=(W2.alloc (.cells #[] 3)).heap.size/\Sl (W2.alloc (.cells #[] 3)) ca c):=⟨by have:=HQ.out;simp;omega,by simp,(HSl.out.below BW.out).below (zT _ _)⟩
 go_wp2_with (at_builtin;refine wpList_append_ints _ rfl _ _ rfl W2.heap.size cc (.slice (some ⟨W2.heap.size,0,none⟩) 0 0) ca [] c rfl rfl (own_empty W2) HL4.out.2.2 HL4.out.1 HL4.out.2.1 ?_;intro v4 w4 o4 g4 _;obtain ⟨g,cap,rfl,-,-⟩:=(show OwnI w4 W2.heap.size v4 c from o4).block HQ.out.2.1;have H4:Hid (CW w w4 x g cap c c):=⟨OwnI.mono (show OwnI w4 W2.heap.size _ c from o4) (by rw [NS.out];omega),Below.grown (BW.out.trans ((zT _ _).mono BW.out.size)) g4 (by have:=BW.out.size;simp;omega) (fun k hk=>by have:=own_blk hk;have:=NS.out;omega),NB.out.belowB (B:=w.heap.size+1) (Below.grown ((zT _ _).mono (by rw [NS.out];omega)) g4 (by have:=NS.out;simp;omega) (fun k hk=>by have:=own_blk hk;have:=NS.out;omega)) (by omega),HSt.out,rfl⟩;clear o4 g4)
 clear BW NB NS HL4 HSt
 go_loopg [6] (sm c) (fun gn _ wr=>∃ e,gn=sm e/\Hid (CW w wr x g cap c e))
 case atStart=>exact ⟨c,rfl,H4.out⟩
 case round=>
  clear H4
  obtain ⟨e,hgn,HB⟩:=hrel
  have HGN:Hid (gk=sm e):=hgn
  clear hgn
  obtain ⟨b0,b1,b2,b3⟩:=HB.out.bx
  go_wp2_with fail
  refine (HWh.out _ g cap e HB.out).mono ?_
  rintro r w5 ⟨rfl,q5⟩
  have B5:Hid (CW w w5 x g cap c e):=HB.out.below q5
  clear q5 b0 b1 b2 b3 HB
  by_cases hw:x.y.Wh (cN e)
  ·rw [qB_true hw]
   have HV:Hid (OwnI w5 w.heap.size (.slice (some ⟨g,0,none⟩) c.length cap) (clS x.y c)/\Below w.heap.size w w5):=by
    have h:=HEnd.out e B5.out.cl hw
    refine ⟨?_,B5.out.be⟩
    rw [h]
    exact B5.out.ow.mono (by omega)
   clear hw B5
   go_wp2
   go_ret
   exact ⟨_,rfl,HV.out⟩
  rw [qB_false hw]
  have HNW:Hid (¬ x.y.Wh (cN e)):=hw
  clear hw
  go_wp2_with fail
  go_loopw [6] (fun i wr=>∃ (k:Nat) (e':List Int),k<=c.length/\i=.int .i64 k/\Hid (CW w wr x g cap c e'/\(sm e'<sm e\/(e'=e/\∀ a,a<k->∀ b,b<c.length->tN x.y (cN e) a b<=sN x.y (cN e) a b)))) (fun i _=>c.length - (intOf i).toNat)
  case atStart=>exact ⟨0,e,Nat.zero_le _,rfl,B5.out,.inr ⟨rfl,fun a ha=>by omega⟩⟩
  case round=>
   clear B5
   obtain ⟨k,e1,hk,rfl,HB⟩:=hrel
   by_cases hlt:k<c.length
   ·have hlt':(k:Int)<(c.length:Int):=by omega
    go_wp2_with fail
    go_loopw [7] (fun i wr=>∃ (j:Nat) (e':List Int),j<=c.length/\i=.int .i64 j/\Hid (CW w wr x g cap c e'/\(sm e'<sm e\/(e'=e/\(∀ a,a<k->∀ b,b<c.length->tN x.y (cN e) a b<=sN x.y (cN e) a b)/\∀ b,b<j->tN x.y (cN e) k b<=sN x.y (cN e) k b)))) (fun i _=>c.length - (intOf i).toNat)
    case atStart=>exact ⟨0,e1,Nat.zero_le _,rfl,HB.out.1,HB.out.2.imp id fun h=>⟨h.1,h.2,fun b hb=>by omega⟩⟩
    case round=>
     clear HB
     obtain ⟨j,e2,hj,rfl,HB⟩:=hrel
     by_cases hjt:j<c.length
     ·have hjt':(j:Int)<(c.length:Int):=by omega
      obtain ⟨b0,b1,b2,b3⟩:=HB.out.1.bx
      go_wp2_with fail
      refine (HOv.out _ g cap e2 k j HB.out.1 hlt hjt).mono ?_
      rintro r w6 ⟨rfl,q6⟩
      have B6:Hid (CW w w6 x g cap c e2/\(sm e2<sm e\/(e2=e/\(∀ a,a<k->∀ b,b<c.length->tN x.y (cN e) a b<=sN x.y (cN e) a b)/\∀ b,b<j->tN x.y (cN e) k b<=sN x.y (cN e) k b))):=⟨HB.out.1.below q6,HB.out.2⟩
      have HN:Hid (ovN x.y (cN e2) k j<0 ↔ tN x.y (cN e2) k j<=sN x.y (cN e2) k j):=ovN_neg
      have HX:Hid (0<=ovN x.y (cN e2) k j->x.y.Cl c (e2.set j (ovN x.y (cN e2) k j))/\sm (e2.set j (ovN x.y (cN e2) k j))<sm e2):=fun h=>by
       have hq:=HQ.out
       obtain ⟨h1,h2,h3⟩:=B6.out.1.cl.next (a:=k) (b:=j) (by show k<x.pn;omega) (by show j<x.pn;omega) h
       exact ⟨h1,sm_set e2 j _ (by rw [B6.out.1.ln];exact hjt) h3 h2⟩
      generalize ovN x.y (cN e2) k j=ov at *
      clear q6 b0 b1 b2 b3 HB
      by_cases ho:0<=ov
      ·obtain ⟨ce,cf⟩:=B6.out.1.cell hjt
       have B7 : Hid (CW w (w6.setCell ⟨g, j, none⟩ (.int .i64 ov)) x g cap c (e2.set j ov) ∧ sm (e2.set j ov) < sm e) := ⟨B6.out.1.put (HX.out ho).1, by
        have h1:=(HX.out ho).2
        rcases B6.out.2 with h | ⟨h,-⟩
        ·omega
        ·rw [<- h];exact h1⟩
       clear HN HX B6
       go_wp2
       go_roundw
       case rel=>exact ⟨j+1,_,by omega,by go_num,B7.out.1,.inl B7.out.2⟩
       case measure=>simp [intOf];omega
      ·have HJ : Hid (sm e2 < sm e ∨ (e2 = e ∧ (∀ a, a < k → ∀ b, b < c.length → tN x.y (cN e) a b ≤ sN x.y (cN e) a b) ∧ ∀ b, b < j + 1 → tN x.y (cN e) k b ≤ sN x.y (cN e) k b)) := B6.out.2.imp id fun ⟨h1, h2, h3⟩ => ⟨h1, h2, fun b hb => by
        by_cases eb:b=j
        ·subst eb
         rw [<- h1]
         exact HN.out.1 (by omega)
        ·exact h3 b (by omega)⟩
       have B7:Hid (CW w w6 x g cap c e2):=B6.out.1
       clear HN HX B6
       go_wp2
       go_roundw
       case rel=>exact ⟨j+1,e2,by omega,by go_num,B7.out,HJ.out⟩
       case measure=>simp [intOf];omega
     ·have HK : Hid (CW w wr x g cap c e2 ∧ (sm e2 < sm e ∨ (e2 = e ∧ ∀ a, a < k + 1 → ∀ b, b < c.length → tN x.y (cN e) a b ≤ sN x.y (cN e) a b))) := ⟨HB.out.1, HB.out.2.imp id fun ⟨h1, h2, h3⟩ => ⟨h1, fun a ha b hb => by
       by_cases ea:a=k
       ·subst ea
        exact h3 b (by omega)
       ·exact h2 a (by omega) b hb⟩⟩
      clear HB
      go_wp2
      go_roundw
      case rel=>exact ⟨k+1,e2,by omega,by go_num,HK.out⟩
      case measure=>simp [intOf];omega
   ·have HK : Hid (CW w wr x g cap c e1 ∧ sm e1 < gk) := ⟨HB.out.1, by
     rw [HGN.out]
     rcases HB.out.2 with h | ⟨h1,h2⟩
     ·exact h
     ·exact absurd (fun a ha b hb=>h2 a (by have:=HQ.out;have h3:a<x.pn:=ha;omega) b (by have:=HQ.out;have h3:b<x.pn:=hb;omega)) HNW.out⟩
    clear HB HGN HNW
    go_wp2
    go_roundg (sm e1)
    case measure=>exact HK.out.2
    case rel=>exact ⟨e1,rfl,HK.out.1⟩
theorem specClose_any (x:SysIn) (ca:Option Addr) (cc:Nat) (c:List Int) (w:World) (hG:SysG w x) (hL:x.Len) (hcap:∀ i,i<x.hn->x.hL i<=x.hC i) (hc:Sl w ca c) (hcl:c.length<=1048576):
  Calls Tryz.prog 13 #[x.v,.slice ca c.length cc] w fun e w'=>∃ u,e=.returned u/\OwnI w' w.heap.size u (clS x.y c)/\Below w.heap.size w w':=by
 have HS:Hid (∀ wx,Below w.heap.size w wx->Calls Tryz.prog 14 #[x.v,.slice ca c.length cc] wx fun e w'=>e=.returned (.bool (cutB x.y c))/\Below wx.heap.size wx w'):=fun wx hb=>specCutOk_any x ca cc c wx (hG.below hb) hL hcap (hc.below hb) hcl
 have HU:Hid (cutB x.y c=true->∀ wx,Below w.heap.size w wx->Calls Tryz.prog 44 #[x.v,.slice ca c.length cc] wx fun e w'=>∃ u,e=.returned u/\OwnI w' wx.heap.size u (clS x.y c)/\Below wx.heap.size wx w'):=fun t wx hb=>l8Close_any x ca cc c wx (hG.below hb) hcap t (hc.below hb)
 have HX:Hid (cutB x.y c=false->clS x.y c=[]):=clS_no
 have BW:Hid (Below w.heap.size w (w.alloc (oQ4 x.pa x.pn x.pc x.sa x.sn x.sc x.wa x.wn x.wc x.ha x.hn x.hc))):=zT _ _
 have NB:Hid (BoxC (w.alloc (oQ4 x.pa x.pn x.pc x.sa x.sn x.sc x.wa x.wn x.wc x.ha x.hn x.hc)) w.heap.size (.slice x.pa x.pn x.pc) (.slice x.sa x.sn x.sc) (.slice x.wa x.wn x.wc) (.slice x.ha x.hn x.hc)):=BoxC.new w _ _ _ _ _
 generalize clS x.y c=R at *
 generalize cutB x.y c=T at *
 clear hG hL hcap hc
 go_enter Tryz.func13,Tryz.ntmps13
 go_wp2_with fail
 generalize w.alloc (oQ4 x.pa x.pn x.pc x.sa x.sn x.sc x.wa x.wn x.wc x.ha x.hn x.hc)=W2 at *
 refine (HS.out W2 BW.out).mono ?_
 rintro e w1 ⟨rfl,q1⟩
 have B1:Hid (Below w.heap.size w w1/\BoxC w1 w.heap.size (.slice x.pa x.pn x.pc) (.slice x.sa x.sn x.sc) (.slice x.wa x.wn x.wc) (.slice x.ha x.hn x.hc)):=⟨BW.out.trans (q1.mono BW.out.size),NB.out.below q1⟩
 clear q1 BW NB HS
 cases T with
 | false=>
  have HV:Hid (R=[]):=HX.out rfl
  have OE:Hid (OwnI (w1.alloc (.cells #[] 3)) w.heap.size (.slice (some ⟨w1.heap.size,0,none⟩) 0 0) []/\Below w.heap.size w (w1.alloc (.cells #[] 3))):=⟨(own_empty w1).mono B1.out.1.size,B1.out.1.trans ((zT _ _).mono B1.out.1.size)⟩
  clear HU HX
  go_wp2
  go_ret
  rw [HV.out]
  exact ⟨_,rfl,OE.out⟩
 | true=>
  have HU':=HU.out rfl
  have HU2:Hid (∀ wx,Below w.heap.size w wx->Calls Tryz.prog 44 #[x.v,.slice ca c.length cc] wx fun e w'=>∃ u,e=.returned u/\OwnI w' wx.heap.size u R/\Below wx.heap.size wx w'):=HU'
  clear HX HU HU'
  obtain ⟨b0,b1,b2,b3⟩:=B1.out.2
  go_wp2_with fail
  refine (HU2.out w1 B1.out.1).mono ?_
  rintro e w2 ⟨u2,rfl,o2,q2⟩
  have F2:Hid (OwnI w2 w.heap.size u2 R/\Below w.heap.size w w2):=⟨o2.mono B1.out.1.size,B1.out.1.trans (q2.mono B1.out.1.size)⟩
  clear q2 o2 b0 b1 b2 b3 B1 HU2
  go_wp2
  go_ret
  exact ⟨_,rfl,F2.out⟩
