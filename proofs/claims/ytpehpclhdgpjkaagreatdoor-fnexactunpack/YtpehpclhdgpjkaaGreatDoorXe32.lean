import Derived.Test.YtpehpclhdgpjkaaGreatDoorXe0
import Derived.Test.YtpehpclhdgpjkaaGreatDoorXe28
import Derived.Lib.QuietBelow
import Derived.Test.YtpehpclhdgpjkaaGreatDoorXe27
import Derived.Test.YtpehpclhdgpjkaaGreatDoorXe21
import Derived.Test.YtpehpclhdgpjkaaGreatDoorXe20
import Derived.Test.YtpehpclhdgpjkaaGreatDoorXe29
import Derived.Test.YtpehpclhdgpjkaaGreatDoorXe23
import Derived.Deep.Cut
import Derived.Test.YtpehpclhdgpjkaaGreatDoorXe26
namespace Go.Proofs.YtpehpclhdgpjkaaGreatDoor
set_option maxRecDepth 100000
set_option maxHeartbeats 4000000
open Go.ChangeShapes Go.WideShapes Go.ChangeAt Go.RowKit Go.Deep
def Sy.Marks (y:Sy):Prop:=∃ i,i<y.wn/\∃ k,k<y.wL i/\(y.wH i k).m=true
def hasM (h:Nat->I2) (n:Nat):Prop:=∃ k,k<n/\(h k).m=true
theorem l11Marks_any (x:SysIn) (w:World) (hG:SysG w x) (hL:x.Len):
  Calls Tryz.prog 38 #[x.v] w fun e w'=>e=.returned (.bool (pB x.y.Marks))/\Below w.heap.size w w':=by
 have HG:Hid (SysG w x):=hG
 have HL:Hid x.Len:=hL
 have hn':(x.wn:Int)<=1048576:=by have:=hL.w.1;omega
 clear hG hL
 go_enter Tryz.func38,Tryz.ntmps38
 have B0:Hid (Below w.heap.size w (w.alloc (oQ4 x.pa x.pn x.pc x.sa x.sn x.sc x.wa x.wn x.wc x.ha x.hn x.hc))/\BoxC (w.alloc (oQ4 x.pa x.pn x.pc x.sa x.sn x.sc x.wa x.wn x.wc x.ha x.hn x.hc)) w.heap.size (.slice x.pa x.pn x.pc) (.slice x.sa x.sn x.sc) (.slice x.wa x.wn x.wc) (.slice x.ha x.hn x.hc)):=⟨below_allocS _ _,BoxC.new _ _ _ _ _ _⟩
 go_wp2_with fail
 generalize w.alloc (oQ4 x.pa x.pn x.pc x.sa x.sn x.sc x.wa x.wn x.wc x.ha x.hn x.hc)=wA at *
 go_loopw [3] (fun i wr=>∃ j:Nat,j<=x.wn/\i=.int .i64 j/\Hid (∀ k,k<j->¬ hasM (x.wH k) (x.wL k))/\wr=wA) (fun i _=>x.wn - (intOf i).toNat)
 case atStart=>exact ⟨0,Nat.zero_le _,rfl,fun k hk=>by omega,rfl⟩
 case round=>
  obtain ⟨j,hj,rfl,HF,rfl⟩:=hrel
  obtain ⟨-,-,p2,-⟩:=B0.out.2
  by_cases hlt:j<x.wn
  ·have hlt':(j:Int)<(x.wn:Int):=by omega
   obtain ⟨b,off,ea,c0⟩:=(HG.out.w.below B0.out.1).at hlt
   rw [ea] at p2
   clear ea
   have hll:(x.wL j:Int)<=1048576:=by have:=HL.out.w.2 j hlt;omega
   have HIt:Hid (ItL wr (x.wA j) (x.wL j) (x.wH j)):=(HG.out.wi j hlt).below B0.out.1
   go_wp2_with fail
   go_loopw [4] (fun i wq=>∃ k:Nat,k<=x.wL j/\i=.int .i64 k/\Hid (∀ m,m<k->(x.wH j m).m=false)/\wq=wr) (fun i _=>x.wL j - (intOf i).toNat)
   case atStart=>exact ⟨0,Nat.zero_le _,rfl,fun k hk=>by omega,rfl⟩
   case round=>
    obtain ⟨k,hk,rfl,HK,rfl⟩:=hrel
    by_cases hkt:k<x.wL j
    ·have hkt':(k:Int)<(x.wL j:Int):=by omega
     obtain ⟨b2,off2,eb,-,d0,d1⟩:=HIt.out.at hkt
     rw [eb] at c0
     clear eb
     generalize hm:(x.wH j k).m=t at *
     have HM:Hid ((x.wH j k).m=t):=hm
     clear hm
     cases t
     ·go_wp2
      go_roundw
      case rel=>
       refine ⟨k+1,by omega,by go_num,fun m hm=>?_,by trivial⟩
       by_cases e:m=k
       ·subst e;exact HM.out
       ·exact HK.out m (by omega)
      case measure=>simp [intOf];omega
     ·have HY:Hid x.y.Marks:=⟨j,hlt,k,hkt,HM.out⟩
      clear HF HK
      go_wp2
      go_ret
      exact ⟨ret_bool (pB_true HY.out).symm,B0.out.1⟩
    ·have HNo:Hid (¬ hasM (x.wH j) (x.wL j)):=fun ⟨m,hm,h⟩=>by
      have:=HK.out m (by omega)
      rw [this] at h
      cases h
     clear HK
     go_wp2
     go_roundw
     case rel=>
      refine ⟨j+1,by omega,by go_num,fun m hm=>?_,by trivial⟩
      by_cases e:m=j
      ·subst e;exact HNo.out
      ·exact HF.out m (by omega)
     case measure=>simp [intOf];omega
  ·have HM:Hid (¬ x.y.Marks):=fun ⟨i,hi,k,hk,hm⟩=>HF.out i (by have:i<x.wn:=hi;omega) ⟨k,hk,hm⟩
   clear HF
   go_wp2
   go_ret
   exact ⟨ret_bool (pB_false HM.out).symm,B0.out.1⟩
noncomputable def pkT (y:Sy):Bool:=y.okB && !(pB y.Marks)
noncomputable def pkS (y:Sy):List Int:=if pkT y=true then byL (pkN y y.pn) else []
structure PkR (wK wr:World) (o:Value) (L:List Int):Prop where
 ow:OwnB wr wK.heap.size o (byL L)
 be:Below wK.heap.size wK wr
theorem PkR.to {wK wr:World} {o:Value} {L M:List Int} (h:PkR wK wr o L) (e:M=L):PkR wK wr o M:=e ▸ h
theorem pk_append {ops:Array Oper} {rest:List Oper} {op:Oper} {act:Act} {Q:Exit->Act->World->Prop} {wK wr w1:World} {o:Value} {L M:List Int} (h:PkR wK wr o L) (b1:Below wr.heap.size wr w1) (hgd:op.guard=none) (s x:Operand)
  (ho:op.op=.call { callee:=.builtin .append,args:=#[s,x],argTypes:=#[22,22] }) (cp n:Nat) (ap:Option Addr) (hs:act.eval s=o) (hx:act.eval x=.slice ap n cp) (hnn:n=(byL M).length) (hy:SlB w1 ap (byL M)) (hn:L.length+M.length<=100000)
  (hK:∀ v' w4,PkR wK w4 v' (L ++ M)->wpList Tryz.prog ops Q rest (act.put op.dst v') w4):wpList Tryz.prog ops Q (op :: rest) act w1:=by
 subst hnn
 have l1:=byL_len L
 have l2:=byL_len M
 refine wpList_append_bytes w1 hgd s x ho wK.heap.size cp o ap (byL L) (byL M) hs hx (h.ow.below b1) hy (by omega) (zO h.be.size b1.size) ?_
 intro v' w4 o4 g4 _
 refine hK v' w4 ⟨by rw [byL_append];exact o4,?_⟩
 exact (h.be.trans (b1.mono h.be.size)).trans (Below.grown (Below.refl _ _) g4 (zO h.be.size b1.size) (fun j hj=>(h.ow.lt j hj).1))
theorem pk_bds {y:Sy} (h:y.Ok):(∀ k,k<=y.pn->(pkN y k).length<=4000)/\(∀ k,k<y.pn->y.pL k<=30/\y.hL k<=200)/\y.pn<=4/\y.hn=y.pn:=by
 have hb:=h.bds
 have hc:=h.cn
 have h2:∀ k,k<y.pn->y.pL k<=30/\y.hL k<=200:=fun k hk=>⟨hb.1 k hk,h.hl200 hk⟩
 refine ⟨fun k hk=>?_,h2,hc.1.2,hc.2.2.1⟩
 have:=pkN_len y y.pn h2 k hk
 omega
theorem specPack_any (x:SysIn) (w:World) (hG:SysG w x) (hL:x.Len) (hcap:∀ i,i<x.hn->x.hL i<=x.hC i):
  Calls Tryz.prog 15 #[x.v] w fun e w'=>∃ u,e=.returned (.tuple #[u,.bool (pkT x.y)])/\OwnB w' w.heap.size u (pkS x.y)/\Below w.heap.size w w':=by
 have HG:Hid (SysG w x):=hG
 have HL:Hid x.Len:=hL
 have HS:Hid (∀ wx,Below w.heap.size w wx->Calls Tryz.prog 34 #[x.v] wx fun e w'=>e=.returned (.bool x.y.okB)/\Below wx.heap.size wx w'):=fun wx hb=>specSysOk_any x wx (hG.below hb) hL hcap
 have HM:Hid (∀ wx,Below w.heap.size w wx->Calls Tryz.prog 38 #[x.v] wx fun e w'=>e=.returned (.bool (pB x.y.Marks))/\Below wx.heap.size wx w'):=fun wx hb=>l11Marks_any x wx (hG.below hb) hL
 have BW:Hid (Below w.heap.size w (w.alloc (oQ4 x.pa x.pn x.pc x.sa x.sn x.sc x.wa x.wn x.wc x.ha x.hn x.hc))):=zS _ _
 have NB:Hid (BoxC (w.alloc (oQ4 x.pa x.pn x.pc x.sa x.sn x.sc x.wa x.wn x.wc x.ha x.hn x.hc)) w.heap.size (.slice x.pa x.pn x.pc) (.slice x.sa x.sn x.sc) (.slice x.wa x.wn x.wc) (.slice x.ha x.hn x.hc)):=BoxC.new w _ _ _ _ _
 clear hG hL hcap
 go_enter Tryz.func15,Tryz.ntmps15
 go_wp2_with fail
 generalize w.alloc (oQ4 x.pa x.pn x.pc x.sa x.sn x.sc x.wa x.wn x.wc x.ha x.hn x.hc)=W2 at *
 refine (HS.out W2 BW.out).mono ?_
 rintro e w1 ⟨rfl,q1⟩
 have B1:Hid (Below w.heap.size w w1/\BoxC w1 w.heap.size (.slice x.pa x.pn x.pc) (.slice x.sa x.sn x.sc) (.slice x.wa x.wn x.wc) (.slice x.ha x.hn x.hc)):=⟨BW.out.trans (q1.mono BW.out.size),NB.out.below q1⟩
 clear q1 BW NB HS
 rcases zK x.y.okB with t | t
 case inr=>
  have HT:Hid (pkT x.y=false):=by show pkT x.y=false;rw [pkT,t];rfl
  have HV:Hid (pkS x.y=[]):=by
   show pkS x.y=[]
   rw [pkS,if_neg (by rw [HT.out];decide)]
  have OE:Hid (OwnB (w1.alloc (.cells #[] 5)) w.heap.size (.slice (some ⟨w1.heap.size,0,none⟩) 0 0) []/\Below w.heap.size w (w1.alloc (.cells #[] 5))):=⟨(ownB_empty w1).mono B1.out.1.size,B1.out.1.trans ((zS _ _).mono B1.out.1.size)⟩
  rw [t]
  clear t
  go_wp2
  exact bodyPost_ret (v:=.tuple #[.slice (some ⟨w1.heap.size,0,none⟩) 0 0,.bool false]) (by simp [results,Tryz.results15,go_sem]) rfl ⟨_,by rw [HT.out],by rw [HV.out];exact OE.out.1,OE.out.2⟩
 have HK:Hid x.y.Ok:=Sy.ok_of t
 have HT0:Hid (pkT x.y = !(pB x.y.Marks)):=by show pkT x.y=_;rw [pkT,t];rfl
 rw [t]
 clear t
 obtain ⟨b0,b1,b2,b3⟩:=B1.out.2
 go_wp2_with fail
 clear b0 b1 b2 b3
 refine (HM.out w1 B1.out.1).mono ?_
 rintro e wK ⟨rfl,q2⟩
 have B2:Hid (Below w.heap.size w wK/\BoxC wK w.heap.size (.slice x.pa x.pn x.pc) (.slice x.sa x.sn x.sc) (.slice x.wa x.wn x.wc) (.slice x.ha x.hn x.hc)):=⟨B1.out.1.trans (q2.mono B1.out.1.size),B1.out.2.below q2⟩
 clear q2 B1 HM
 rcases zK (pB x.y.Marks) with t | t
 case inl=>
  have HT:Hid (pkT x.y=false):=by show pkT x.y=false;rw [HT0.out,t];rfl
  have HV:Hid (pkS x.y=[]):=by
   show pkS x.y=[]
   rw [pkS,if_neg (by rw [HT.out];decide)]
  have OE:Hid (OwnB (wK.alloc (.cells #[] 5)) w.heap.size (.slice (some ⟨wK.heap.size,0,none⟩) 0 0) []/\Below w.heap.size w (wK.alloc (.cells #[] 5))):=⟨(ownB_empty wK).mono B2.out.1.size,B2.out.1.trans ((zS _ _).mono B2.out.1.size)⟩
  rw [t]
  clear t
  go_wp2
  exact bodyPost_ret (v:=.tuple #[.slice (some ⟨wK.heap.size,0,none⟩) 0 0,.bool false]) (by simp [results,Tryz.results15,go_sem]) rfl ⟨_,by rw [HT.out],by rw [HV.out];exact OE.out.1,OE.out.2⟩
 have HT:Hid (pkT x.y=true):=by show pkT x.y=true;rw [HT0.out,t];rfl
 have HV:Hid (pkS x.y=byL (pkN x.y x.pn)):=by show pkS x.y=_;rw [pkS,if_pos HT.out];rfl
 rw [t]
 clear t HT0
 have HB:Hid ((∀ k,k<=x.pn->(pkN x.y k).length<=4000)/\(∀ k,k<x.pn->x.pL k<=30/\x.hL k<=200)/\x.pn<=4/\x.hn=x.pn):=pk_bds HK.out
 have hpn:(x.pn:Int)<=4:=by have:=HB.out.2.2.1;omega
 have HG2:Hid (SysG wK x):=HG.out.below B2.out.1
 clear HG HL HK
 obtain ⟨b0,b1,b2,b3⟩:=B2.out.2
 go_wp2_with fail
 clear b0 b1 b2 b3
 refine (specPutNum_any (x.pn:Int) wK).mono ?_
 rintro e w3 ⟨u3,rfl,o3,q3⟩
 have R3:Hid (PkR wK w3 u3 (pkN x.y 0)):=⟨by rw [pkN,byL_one];exact o3,q3⟩
 clear o3 q3
 go_wp2_with fail
 go_loopw [4,5] (fun o i wr=>∃ k:Nat,k<=x.pn/\i=.int .i64 (k:Int)/\Hid (PkR wK wr o (pkN x.y k))) (fun _ i _=>x.pn - (intOf i).toNat)
 case atStart=>exact ⟨0,Nat.zero_le _,rfl,R3.out⟩
 case round=>
  clear R3
  obtain ⟨k,hk,rfl,HR⟩:=hrel
  by_cases hlt:k<x.pn
  ·have hlt':(k:Int)<(x.pn:Int):=by omega
   obtain ⟨bp,op,ep,cp⟩:=(HG2.out.below HR.out.be).p.at hlt
   have HEp:Hid (x.pa=some ⟨bp,op,none⟩):=ep
   obtain ⟨b0,b1,b2,b3⟩:=B2.out.2.below HR.out.be
   rw [ep] at b0
   clear ep
   have hpl:(x.pL k:Int)<=30:=by have:=(HB.out.2.1 k hlt).1;omega
   have hhl:(x.hL k:Int)<=200:=by have:=(HB.out.2.1 k hlt).2;omega
   go_wp2_with fail
   clear b0 b1 b2 b3 cp
   refine (specPutNum_any (x.pL k:Int) wr).mono ?_
   rintro e w5 ⟨u5,rfl,o5,q5⟩
   obtain ⟨ap,cq,rfl,sp⟩:=o5.form
   have SP:Hid (SlB w5 ap (byL [(x.pL k:Int)])/\Below wr.heap.size wr w5/\(puL (x.pL k:Int)).length=(byL [(x.pL k:Int)]).length):=⟨by rw [byL_one];exact sp,q5,by rw [byL_one]⟩
   clear o5 sp q5
   go_wp2_with (at_builtin;refine pk_append HR.out SP.out.2.1 rfl _ _ rfl cq _ ap rfl rfl SP.out.2.2 SP.out.1 (by have:=HB.out.1 k hk;simp only [List.length_cons,List.length_nil];omega) ?_;intro v6 w6 r6;have R6:Hid (PkR wK w6 v6 (pkN x.y k ++ ((x.pL k:Int) :: pkI (x.pH k) 0))):=r6;clear r6)
   clear SP HR
   go_loopw [4,6] (fun o i wr=>∃ j:Nat,j<=x.pL k/\i=.int .i64 (j:Int)/\Hid (PkR wK wr o (pkN x.y k ++ ((x.pL k:Int) :: pkI (x.pH k) j)))) (fun _ i _=>x.pL k - (intOf i).toNat)
   case atStart=>exact ⟨0,Nat.zero_le _,rfl,R6.out⟩
   case round=>
    clear R6
    obtain ⟨j,hj,rfl,HR⟩:=hrel
    obtain ⟨b0,b1,b2,b3⟩:=B2.out.2.below HR.out.be
    rw [HEp.out] at b0
    have cp:wr.cell? ⟨bp,op+k,none⟩=some (.slice (x.pA k) (x.pL k) (x.pC k)):=by
     obtain ⟨b',o',e',c'⟩:=(HG2.out.below HR.out.be).p.at hlt
     rw [HEp.out] at e'
     cases e'
     exact c'
    by_cases hjl:j<x.pL k
    ·have hjl':(j:Int)<(x.pL k:Int):=by omega
     obtain ⟨bi,ei,lti,ai⟩:=(HG2.out.below HR.out.be).pi k hlt
     obtain ⟨c0,c1,c2,c3,c4⟩:=ai j hjl
     rw [ei] at cp
     clear ei ai
     rw [Nat.zero_add] at c0 c1 c2 c3 c4
     have H0 : Hid (Sl ((wr.alloc (oQ2 (x.pH k j).o (x.pH k j).r (x.pH k j).a (x.pH k j).b (x.pH k j).n)).alloc (.cells #[.int .i64 (x.pH k j).o, .int .i64 (x.pH k j).r, .int .i64 (x.pH k j).a, .int .i64 (x.pH k j).b, .int .i64 (x.pH k j).n] 3)) (some ⟨wr.heap.size + 1, 0, none⟩) [(x.pH k j).o, (x.pH k j).r, (x.pH k j).a, (x.pH k j).b, (x.pH k j).n] ∧ Below wr.heap.size wr ((wr.alloc (oQ2 (x.pH k j).o (x.pH k j).r (x.pH k j).a (x.pH k j).b (x.pH k j).n)).alloc (.cells #[.int .i64 (x.pH k j).o, .int .i64 (x.pH k j).r, .int .i64 (x.pH k j).a, .int .i64 (x.pH k j).b, .int .i64 (x.pH k j).n] 3))) := ⟨by
      have h:=(own_lit (wr.alloc (oQ2 (x.pH k j).o (x.pH k j).r (x.pH k j).a (x.pH k j).b (x.pH k j).n)) [(x.pH k j).o,(x.pH k j).r,(x.pH k j).a,(x.pH k j).b,(x.pH k j).n] (by simp)).form
      obtain ⟨a1,cc,e,s⟩:=h
      simp only [Value.slice.injEq] at e
      obtain ⟨rfl,-,-⟩:=e
      simpa using s,((Below.refl _ _).alloc (Nat.le_refl _) _).alloc (by simp) _⟩
     go_wp2_with fail
     clear b0 b1 b2 b3 cp c0 c1 c2 c3 c4
     generalize (wr.alloc (oQ2 (x.pH k j).o (x.pH k j).r (x.pH k j).a (x.pH k j).b (x.pH k j).n)).alloc (.cells #[.int .i64 (x.pH k j).o,.int .i64 (x.pH k j).r,.int .i64 (x.pH k j).a,.int .i64 (x.pH k j).b,.int .i64 (x.pH k j).n] 3)=wJ at *
     refine (l14Nums_any (some ⟨wr.heap.size+1,0,none⟩) 5 [(x.pH k j).o,(x.pH k j).r,(x.pH k j).a,(x.pH k j).b,(x.pH k j).n] wJ (by simp) H0.out.1).mono ?_
     rintro e w7 ⟨u7,rfl,o7,q7⟩
     obtain ⟨ap,cq,rfl,sp⟩:=o7.form
     have SP:Hid (SlB w7 ap (byL [(x.pH k j).o,(x.pH k j).r,(x.pH k j).a,(x.pH k j).b,(x.pH k j).n])/\Below wr.heap.size wr w7):=⟨sp,H0.out.2.trans (q7.mono H0.out.2.size)⟩
     clear o7 sp q7 H0
     go_wp2_with (at_builtin;refine pk_append HR.out SP.out.2 rfl _ _ rfl cq _ ap rfl rfl rfl SP.out.1 (by have:=HB.out.1 k hk;have:=(HB.out.2.1 k hlt).1;simp only [List.length_append,List.length_cons,List.length_nil,pkI_len];omega) ?_;intro v8 w8 r8;have R8:Hid (PkR wK w8 v8 (pkN x.y k ++ ((x.pL k:Int) :: pkI (x.pH k) (j+1)))):=r8.to (by rw [pkI,List.append_assoc];rfl);clear r8)
     clear SP HR
     go_roundw
     case rel=>exact ⟨j+1,by omega,by go_num,R8.out⟩
     case measure=>simp [intOf];omega
    ·have hje:j=x.pL k:=by omega
     have HR1:Hid (PkR wK wr u4 (pkN x.y k ++ ((x.pL k:Int) :: pkI (x.pH k) (x.pL k)))):=by have h:=HR.out;rw [hje] at h;exact h
     have hjl':¬ ((j:Int)<(x.pL k:Int)):=by omega
     obtain ⟨bh,oh,eh,ch⟩:=(HG2.out.below HR.out.be).h.at (k:=k) (by have:=HB.out.2.2.2;omega)
     have HEh:Hid (x.ha=some ⟨bh,oh,none⟩):=eh
     rw [eh] at b3
     have hnn:(x.hn:Int)=(x.pn:Int):=by have:=HB.out.2.2.2;omega
     have hlh:(k:Int)<(x.hn:Int):=by omega
     clear eh hje HR hnn
     go_wp2_with fail
     clear b0 b1 b2 b3 cp ch
     refine (specPutNum_any (x.hL k:Int) wr).mono ?_
     rintro e w5 ⟨u5,rfl,o5,q5⟩
     obtain ⟨ap,cq,rfl,sp⟩:=o5.form
     have SP:Hid (SlB w5 ap (byL [(x.hL k:Int)])/\Below wr.heap.size wr w5/\(puL (x.hL k:Int)).length=(byL [(x.hL k:Int)]).length):=⟨by rw [byL_one];exact sp,q5,by rw [byL_one]⟩
     clear o5 sp q5
     go_wp2_with (at_builtin;refine pk_append HR1.out SP.out.2.1 rfl _ _ rfl cq _ ap rfl rfl SP.out.2.2 SP.out.1 (by have:=HB.out.1 k hk;have:=(HB.out.2.1 k hlt).1;simp only [List.length_append,List.length_cons,List.length_nil,pkI_len];omega) ?_;intro v6 w6 r6;have R6:Hid (PkR wK w6 v6 (pkN x.y k ++ (((x.pL k:Int) :: pkI (x.pH k) (x.pL k)) ++ ((x.hL k:Int) :: pkE (x.hH k) 0)))):=r6.to (by rw [List.append_assoc];rfl);clear r6)
     clear SP HR1
     go_loopw [4,8] (fun o i wr=>∃ j:Nat,j<=x.hL k/\i=.int .i64 (j:Int)/\Hid (PkR wK wr o (pkN x.y k ++ (((x.pL k:Int) :: pkI (x.pH k) (x.pL k)) ++ ((x.hL k:Int) :: pkE (x.hH k) j))))) (fun _ i _=>x.hL k - (intOf i).toNat)
     case atStart=>exact ⟨0,Nat.zero_le _,rfl,R6.out⟩
     case round=>
      clear R6
      obtain ⟨i,hi,rfl,HR⟩:=hrel
      obtain ⟨b0,b1,b2,b3⟩:=B2.out.2.below HR.out.be
      rw [HEh.out] at b3
      have ch:wr.cell? ⟨bh,oh+k,none⟩=some (.slice (x.hA k) (x.hL k) (x.hC k)):=by
       obtain ⟨b',o',e',c'⟩:=(HG2.out.below HR.out.be).h.at (k:=k) (by have:=HB.out.2.2.2;omega)
       rw [HEh.out] at e'
       cases e'
       exact c'
      by_cases hil:i<x.hL k
      ·have hil':(i:Int)<(x.hL k:Int):=by omega
       obtain ⟨bi,oi,ei,lti,c0,c1,c2⟩:=((HG2.out.below HR.out.be).hi k (by have:=HB.out.2.2.2;omega)).at hil
       rw [ei] at ch
       clear ei
       have H0 : Hid (Sl ((wr.alloc (oQ0 (x.hH k i).k (x.hH k i).q (x.hH k i).v)).alloc (.cells #[.int .i64 (x.hH k i).k, .int .i64 (x.hH k i).q, .int .i64 (x.hH k i).v] 3)) (some ⟨wr.heap.size + 1, 0, none⟩) [(x.hH k i).k, (x.hH k i).q, (x.hH k i).v] ∧ Below wr.heap.size wr ((wr.alloc (oQ0 (x.hH k i).k (x.hH k i).q (x.hH k i).v)).alloc (.cells #[.int .i64 (x.hH k i).k, .int .i64 (x.hH k i).q, .int .i64 (x.hH k i).v] 3))) := ⟨by
        have h:=(own_lit (wr.alloc (oQ0 (x.hH k i).k (x.hH k i).q (x.hH k i).v)) [(x.hH k i).k,(x.hH k i).q,(x.hH k i).v] (by simp)).form
        obtain ⟨a1,cc,e,s⟩:=h
        simp only [Value.slice.injEq] at e
        obtain ⟨rfl,-,-⟩:=e
        simpa using s,((Below.refl _ _).alloc (Nat.le_refl _) _).alloc (by simp) _⟩
       go_wp2_with fail
       clear b0 b1 b2 b3 ch c0 c1 c2
       generalize (wr.alloc (oQ0 (x.hH k i).k (x.hH k i).q (x.hH k i).v)).alloc (.cells #[.int .i64 (x.hH k i).k,.int .i64 (x.hH k i).q,.int .i64 (x.hH k i).v] 3)=wJ at *
       refine (l14Nums_any (some ⟨wr.heap.size+1,0,none⟩) 3 [(x.hH k i).k,(x.hH k i).q,(x.hH k i).v] wJ (by simp) H0.out.1).mono ?_
       rintro e w7 ⟨u7,rfl,o7,q7⟩
       obtain ⟨ap,cq,rfl,sp⟩:=o7.form
       have SP:Hid (SlB w7 ap (byL [(x.hH k i).k,(x.hH k i).q,(x.hH k i).v])/\Below wr.heap.size wr w7):=⟨sp,H0.out.2.trans (q7.mono H0.out.2.size)⟩
       clear o7 sp q7 H0
       go_wp2_with (at_builtin;refine pk_append HR.out SP.out.2 rfl _ _ rfl cq _ ap rfl rfl rfl SP.out.1 (by have:=HB.out.1 k hk;have:=(HB.out.2.1 k hlt).1;have:=(HB.out.2.1 k hlt).2;simp only [List.length_append,List.length_cons,List.length_nil,pkI_len,pkE_len];omega) ?_;intro v8 w8 r8;have R8:Hid (PkR wK w8 v8 (pkN x.y k ++ (((x.pL k:Int) :: pkI (x.pH k) (x.pL k)) ++ ((x.hL k:Int) :: pkE (x.hH k) (i+1))))):=r8.to (by rw [pkE];simp only [List.append_assoc,List.cons_append]);clear r8)
       clear SP HR
       go_roundw
       case rel=>exact ⟨i+1,by omega,by go_num,R8.out⟩
       case measure=>simp [intOf];omega
      ·have hie:i=x.hL k:=by omega
       have HR1:Hid (PkR wK wr u4 (pkN x.y (k+1))):=by
        have h:=HR.out
        rw [hie] at h
        exact h
       have hil':¬ ((i:Int)<(x.hL k:Int)):=by omega
       clear hie HR
       go_wp2
       go_roundw
       case rel=>exact ⟨k+1,by omega,by go_num,HR1.out⟩
       case measure=>simp [intOf];omega
  ·have hke:k=x.pn:=by omega
   have F:Hid (OwnB wr w.heap.size u4 (pkS x.y)/\Below w.heap.size w wr):=by
    have h:=HR.out
    rw [hke] at h
    exact ⟨by rw [HV.out];exact h.ow.mono B2.out.1.size,B2.out.1.trans (h.be.mono B2.out.1.size)⟩
   have hlt':¬ ((k:Int)<(x.pn:Int)):=by omega
   obtain ⟨b0,b1,b2,b3⟩:=B2.out.2.below HR.out.be
   clear hke HR
   go_wp2
   exact bodyPost_ret (v:=.tuple #[u4,.bool true]) (by simp [results,Tryz.results15,go_sem]) rfl ⟨_,by rw [HT.out],F.out⟩
def mdD (ys:List Int) (P:Nat):Nat->Nat:=cN (flT (mdY ys P) P)
noncomputable def umB (ys:List Int) (P:Nat):Bool:=decide (mP (nmA ys) P<=(nmA ys).length) && (decide (psN (nmA ys) (mP (nmA ys) P)=ys.length) && (snB P (mdY ys P).pL (mdY ys P).pH && (wfB ((mdY ys P).ah (mdD ys P)) && (pkT ((mdY ys P).atW (mdD ys P)) && decide (pkS ((mdY ys P).atW (mdD ys P))=ys)))))
def rY (ys:List Int):Sy:=rsY ys (ctN (nmA ys) 0) (ctN (nmA ys) 0)
noncomputable def upB (ys:List Int):Bool:=rsB ys && (ctB (rY ys) (rY ys).hL && (ctS (rY ys) (rY ys).hL).okB)
noncomputable def upS (ys:List Int):Sy:=if upB ys=true then (rY ys).atY (rY ys).hL else (rY ys).nil
def RsP (w:World) (N:Nat) (ys:List Int) (e:Ending) (w':World):Prop:=∃ aa an ac da dn dc,e=.returned (.tuple #[.agg #[.slice aa an ac,.slice none 0 0,.slice none 0 0,.slice da dn dc],.bool (rsB ys)])/\(rsB ys=true->∃ c up uh,OwnS false w' w.heap.size c (rsY ys (ctN (nmA ys) 0) (ctN (nmA ys) 0)) (.slice aa an ac) (.slice none 0 0) (.slice none 0 0) (.slice da dn dc) up (fun _=>.slice none 0 0) (fun _=>.slice none 0 0) uh)/\w.grownBy w' (some N)
structure RsBx (wx:World) (B F:Nat) (a0:Option Addr) (n cap N:Nat) (c:Nat->Nat):Prop where
 r:BxR wx B (.slice a0 n cap) (.pointer (some ⟨N,0,none⟩))
 o:BoxC wx (B+1) (.slice none 0 0) (.slice none 0 0) (.slice none 0 0) (.slice none 0 0)
 of:∀ j,wx.frozen? ⟨B+1,j,none⟩=false
 f:wx.cell? ⟨F,0,none⟩=some (.func (.func 42) #[] #[])/\wx.cell? ⟨F,1,none⟩=some (.func (.func 43) #[] #[])
 cc:c B=0/\c (B+1)=0/\c F=0
theorem RsBx.lt {wx:World} {B F n cap N:Nat} {a0:Option Addr} {c:Nat->Nat} (h:RsBx wx B F a0 n cap N c):B+1<wx.heap.size/\F<wx.heap.size:=⟨h.o.ltR,zJ wx _ h.f.1⟩
theorem RsBx.kept {wx w':World} {B F n cap N X i:Nat} {a0:Option Addr} {c:Nat->Nat} (h:RsBx wx B F a0 n cap N c) (hk:∀ b,b<wx.heap.size->c b=0->b≠N->b≠X->w'.heap[b]? = wx.heap[b]?) (hN:N<B) (hX:B+1<X) (hF:F≠X) (hFB:B<F):RsBx w' B F a0 n cap N (rcol c wx.heap.size i):=by
 obtain ⟨l1,l2⟩:=h.lt
 have k0:=hk B (by omega) h.cc.1 (by omega) (by omega)
 have k1:=hk (B+1) l1 h.cc.2.1 (by omega) (by omega)
 have k2:=hk F l2 h.cc.2.2 (by omega) hF
 exact ⟨⟨(zH k0).trans h.r.1,(zH k0).trans h.r.2⟩,h.o.blkR k1,fun j=>(zI k1).trans (h.of j),⟨(zH k2).trans h.f.1,(zH k2).trans h.f.2⟩,(rcol_old (by omega)).trans h.cc.1,(rcol_old l1).trans h.cc.2.1,(rcol_old l2).trans h.cc.2.2⟩
theorem RsP.no {w wx:World} {N:Nat} {ys:List Int} (h:rsB ys=false) (g:w.grownBy wx (some N)):RsP w N ys (.returned (.tuple #[.agg #[.slice none 0 0,.slice none 0 0,.slice none 0 0,.slice none 0 0],.bool false])) ((((wx.setCell ⟨w.heap.size+1,0,none⟩ (.slice none 0 0)).setCell ⟨w.heap.size+1,1,none⟩ (.slice none 0 0)).setCell ⟨w.heap.size+1,2,none⟩ (.slice none 0 0)).setCell ⟨w.heap.size+1,3,none⟩ (.slice none 0 0)):=by
 have hM:∀ j,some N=some (Addr.mk (w.heap.size+1) j none).block\/w.heap.size<=(Addr.mk (w.heap.size+1) j none).block:=fun j=>.inr (by show w.heap.size<=w.heap.size+1;omega)
 refine ⟨none,0,0,none,0,0,by rw [h],fun e=>(by rw [h] at e;cases e),?_⟩
 iterate 4 (refine zU ?_ (hM _) _)
 exact g
theorem RsJ.fin {w wx w':World} {N W0 X k np nh:Nat} {a0:Option Addr} {ys:List Int} {c:Nat->Nat} {vp vh:Value} {up uh:Nat->Value} (J:RsJ w wx N W0 X k np nh a0 ys c vp vh up uh) (hk:∀ b,b<wx.heap.size->c b≠0->w'.heap[b]? = wx.heap[b]?):OwnS false w' w.heap.size c (rsY ys np nh) vp (.slice none 0 0) (.slice none 0 0) vh up (fun _=>.slice none 0 0) (fun _=>.slice none 0 0) uh:=
 ⟨(J.p.keep fun b hb hl=>hk b hl (by rw [hb.2];decide)).weak,LS.nil _ _ _ _,LL.nil _ _ _ _ _ _ _ _,(J.h.keep fun b hb hl=>hk b hl (by rw [hb.2];decide)).weak⟩
def RsS (w wx:World) (N W0 X B F:Nat) (a0:Option Addr) (ys:List Int) (cap k np nh:Nat):Prop:=∃ c vp vh up uh,RsJ w wx N W0 X k np nh a0 ys c vp vh up uh/\RsBx wx B F a0 ys.length cap N c
theorem rsB_no {ys:List Int} {p:Nat} (hp:p<ctN (nmA ys) 0) (h:(lsK (nmA ys) 5 30 (kP (nmA ys) p)).isSome=false\/(lsK (nmA ys) 3 200 (hP (nmA ys) p)).isSome=false):rsB ys=false:=by
 unfold rsB
 cases hs:(prK (nmA ys) (ctN (nmA ys) 0)).isSome with
 | false=>simp
 | true=>
  obtain ⟨h1,h2⟩:=prK_some hs p hp
  rw [h1,h2] at h
  rcases h with h | h <;> cases h
theorem rsB_end {ys:List Int} (h1:decide (0<(nmA ys).length/\1<=zi (nmA ys) 0/\zi (nmA ys) 0<=4)=true) (h2:(prK (nmA ys) (ctN (nmA ys) 0)).isSome=true):rsB ys=(((psN (nmA ys) (kP (nmA ys) (ctN (nmA ys) 0)):Nat):Int) == ((ys.length:Nat):Int)):=by
 unfold rsB
 rw [h1,h2]
 rfl
def RsQ (w wx:World) (N W0 X B F:Nat) (a0:Option Addr) (ys:List Int) (cap p q:Nat):Prop:=
 (q=0/\RsS w wx N W0 X B F a0 ys cap (kP (nmA ys) p) p p)\/(q=1/\RsS w wx N W0 X B F a0 ys cap (hP (nmA ys) p) (p+1) p/\(lsK (nmA ys) 5 30 (kP (nmA ys) p)).isSome=true)\/(q=2/\RsS w wx N W0 X B F a0 ys cap (kP (nmA ys) (p+1)) (p+1) (p+1)/\(prK (nmA ys) (p+1)).isSome=true)
theorem run_part0 (w:World):(Instr.index 88 (.agg #[.func (.func 42) #[] #[],.func (.func 43) #[] #[]]) (.int .i64 0)).run Tryz.prog w=.ok (.func (.func 42) #[] #[]) w:=by kernel_rfl
theorem run_part1 (w:World):(Instr.index 88 (.agg #[.func (.func 42) #[] #[],.func (.func 43) #[] #[]]) (.int .i64 1)).run Tryz.prog w=.ok (.func (.func 43) #[] #[]) w:=by kernel_rfl
attribute [local go_sem] run_part0 run_part1
theorem readSys_any (a0:Option Addr) (cap N W0:Nat) (ys:List Int) (w:World) (hlen:ys.length<=1048576) (hcap:ys.length<=cap) (hb:By ys) (h:Rd w N W0 a0 ys 0):
  Calls Tryz.prog 16 #[.agg #[.slice a0 ys.length cap,.pointer (some ⟨N,0,none⟩)]] w (RsP w N ys):=by
 have HNum:Hid (∀ wx k',Rd wx N W0 a0 ys k'->Calls Tryz.prog 41 #[.agg #[.slice a0 ys.length cap,.pointer (some ⟨N,0,none⟩)]] wx fun e w'=>e=.returned (rdX ys k')/\Rd w' N W0 a0 ys (rdK ys k')/\wx.grownBy w' (some N)):=fun wx k' hx=>num_any a0 cap N W0 k' ys wx hlen hcap hb hx
 have HPr:Hid (∀ (X k np nh:Nat) (c:Nat->Nat) (vp vh:Value) (up uh:Nat->Value) (wx:World),RsJ w wx N W0 X k np nh a0 ys c vp vh up uh->np<=1000->nh<=1000->k=kP (nmA ys) np->Calls Tryz.prog 42 #[.agg #[.slice a0 ys.length cap,.pointer (some ⟨N,0,none⟩)],.pointer (some ⟨X,0,none⟩)] wx (RpP w wx N W0 X k np nh a0 ys c vp vh up uh)):=fun X k np nh c vp vh up uh wx h1 h2 h3 h4=>readProg_any a0 cap N W0 X k np nh ys c vp vh up uh w wx hlen hcap hb h1 h2 h3 h4
 have HEv:Hid (∀ (X k np nh:Nat) (c:Nat->Nat) (vp vh:Value) (up uh:Nat->Value) (wx:World),RsJ w wx N W0 X k np nh a0 ys c vp vh up uh->np<=1000->nh<=1000->k=hP (nmA ys) nh->Calls Tryz.prog 43 #[.agg #[.slice a0 ys.length cap,.pointer (some ⟨N,0,none⟩)],.pointer (some ⟨X,0,none⟩)] wx (RqvP w wx N W0 X k np nh a0 ys c vp vh up uh)):=fun X k np nh c vp vh up uh wx h1 h2 h3 h4=>readEvents_any a0 cap N W0 X k np nh ys c vp vh up uh w wx hlen hcap hb h1 h2 h3 h4
 have HEnd:Hid (∀ wx k,Rd wx N W0 a0 ys k->Calls Tryz.prog 44 #[.agg #[.slice a0 ys.length cap,.pointer (some ⟨N,0,none⟩)]] wx fun e w'=>e=.returned (.bool (((psN (nmA ys) k:Nat):Int) == ((ys.length:Nat):Int)))/\Below wx.heap.size wx w'):=fun wx k hx=>isAtEnd_any a0 cap N W0 k ys wx hx
 have hM:Hid (w.heap.size<=w.heap.size+1/\N<w.heap.size):=⟨Nat.le_succ _,h.lt⟩
 have A0:Hid (Below w.heap.size w ((w.alloc (.cells #[.slice a0 ys.length cap,.pointer (some ⟨N,0,none⟩)] 55)).alloc (zQ3))/\BxR ((w.alloc (.cells #[.slice a0 ys.length cap,.pointer (some ⟨N,0,none⟩)] 55)).alloc (zQ3)) w.heap.size (.slice a0 ys.length cap) (.pointer (some ⟨N,0,none⟩))/\BoxC ((w.alloc (.cells #[.slice a0 ys.length cap,.pointer (some ⟨N,0,none⟩)] 55)).alloc (zQ3)) (w.heap.size+1) (.slice none 0 0) (.slice none 0 0) (.slice none 0 0) (.slice none 0 0)/\(∀ j,((w.alloc (.cells #[.slice a0 ys.length cap,.pointer (some ⟨N,0,none⟩)] 55)).alloc (zQ3)).frozen? ⟨w.heap.size+1,j,none⟩=false)/\((w.alloc (.cells #[.slice a0 ys.length cap,.pointer (some ⟨N,0,none⟩)] 55)).alloc (zQ3)).heap.size=w.heap.size+2):=by
  have b2:=zP (w.alloc (.cells #[.slice a0 ys.length cap,.pointer (some ⟨N,0,none⟩)] 55)) (zQ3)
  refine ⟨(zP _ _).trans (b2.mono (by simp)),⟨?_,?_⟩,⟨zV _ _ _ 0 (by simp),zV _ _ _ 1 (by simp),zV _ _ _ 2 (by simp),zV _ _ _ 3 (by simp)⟩,fun j=>yA _ _ _ _ (by simp),by simp⟩
  ·exact (b2.cell (p:=⟨w.heap.size,0,none⟩) (by simp)).trans (zV _ _ _ 0 rfl)
  ·exact (b2.cell (p:=⟨w.heap.size,1,none⟩) (by simp)).trans (zV _ _ _ 1 rfl)
 have HR0:Hid (Rd w N W0 a0 ys 0):=h
 clear h hlen hcap hb
 go_enter Tryz.func16,Tryz.ntmps16
 go_upto_region 1 with fail
 generalize (w.alloc (.cells #[.slice a0 ys.length cap,.pointer (some ⟨N,0,none⟩)] 55)).alloc (zQ3)=w1 at *
 obtain ⟨r0,r1⟩:=A0.out.2.1
 go_wp2_with fail
 clear r0 r1
 refine (HNum.out w1 0 (HR0.out.below A0.out.1)).mono ?_
 rintro e w2 ⟨rfl,hr2,hg2⟩
 have G2:Hid (w.grownBy w2 (some N)/\w.heap.size+2<=w2.heap.size/\BxR w2 w.heap.size (.slice a0 ys.length cap) (.pointer (some ⟨N,0,none⟩))/\BoxC w2 (w.heap.size+1) (.slice none 0 0) (.slice none 0 0) (.slice none 0 0) (.slice none 0 0)/\(∀ j,w2.frozen? ⟨w.heap.size+1,j,none⟩=false)):=by
  have hs:=A0.out.2.2.2.2
  have hn:=hM.out.2
  have k0:=hg2.block w.heap.size (by omega) (by simp;omega)
  have k1:=hg2.block (w.heap.size+1) (by omega) (by simp;omega)
  exact ⟨((World.grownBy.refl w (some N)).andThen (zY A0.out.1) (fun j hj=>by cases hj)).trans hg2,by have:=hg2.size;omega,⟨(zH k0).trans A0.out.2.1.1,(zH k0).trans A0.out.2.1.2⟩,A0.out.2.2.1.blkR k1,fun j=>(zI k1).trans (A0.out.2.2.2.1 j)⟩
 clear hg2 A0 HNum HR0
 by_cases hk:0<(nmA ys).length
 case neg=>
  have HV:Hid (rsB ys=false):=by
   show rsB ys=false
   unfold rsB
   rw [decide_eq_false (fun hh=>hk hh.1)]
   rfl
  rw [show rdX ys 0=.tuple #[.int .i64 0,.bool false] from if_neg hk]
  obtain ⟨r0,r1,r2,r3⟩:=G2.out.2.2.2.1
  have rf:=G2.out.2.2.2.2
  clear hr2 hk HPr HEv HEnd
  go_wp2
  exact bodyPost_ret (v:=.tuple #[.agg #[.slice none 0 0,.slice none 0 0,.slice none 0 0,.slice none 0 0],.bool false]) (by simp [results,Tryz.results16,go_sem,r0,r1,r2,r3]) rfl (RsP.no HV.out G2.out.1)
 rw [show rdX ys 0=.tuple #[.int .i64 (zi (nmA ys) 0),.bool true] from if_pos hk]
 rw [show rdK ys 0=1 from if_pos hk] at hr2
 obtain ⟨c,hc⟩:∃ c,zi (nmA ys) 0=c:=⟨_,rfl⟩
 rw [hc]
 by_cases hcl:c<1\/4<c
 case pos=>
  have HV:Hid (rsB ys=false):=by
   show rsB ys=false
   unfold rsB
   rw [decide_eq_false (fun hh=>by omega)]
   rfl
  obtain ⟨r0,r1,r2,r3⟩:=G2.out.2.2.2.1
  have rf:=G2.out.2.2.2.2
  clear hr2 hk HPr HEv HEnd hc
  by_cases hc1:c<1
  ·clear hcl
   go_wp2
   exact bodyPost_ret (v:=.tuple #[.agg #[.slice none 0 0,.slice none 0 0,.slice none 0 0,.slice none 0 0],.bool false]) (by simp [results,Tryz.results16,go_sem,r0,r1,r2,r3]) rfl (RsP.no HV.out G2.out.1)
  ·have hc4:4<c:=by omega
   clear hcl
   go_wp2
   exact bodyPost_ret (v:=.tuple #[.agg #[.slice none 0 0,.slice none 0 0,.slice none 0 0,.slice none 0 0],.bool false]) (by simp [results,Tryz.results16,go_sem,r0,r1,r2,r3]) rfl (RsP.no HV.out G2.out.1)
 obtain ⟨n,rfl⟩:∃ n:Nat,c=n:=⟨c.toNat,by omega⟩
 have hc1:¬ (n:Int)<1:=by omega
 have hc4:¬ 4<(n:Int):=by omega
 have HC:Hid (ctN (nmA ys) 0=n/\n<=4/\decide (0<(nmA ys).length/\1<=zi (nmA ys) 0/\zi (nmA ys) 0<=4)=true):=⟨by unfold ctN;rw [hc];simp,by omega,decide_eq_true ⟨hk,by omega,by omega⟩⟩
 have HR2:Hid (Rd w2 N W0 a0 ys 1):=hr2
 clear hr2 hk hcl hc
 go_upto_region 6 with fail
 have J0:Hid (RsS w ((w2.alloc (zQ3)).alloc (.cells #[.func (.func 42) #[] #[],.func (.func 43) #[] #[]] 88)) N W0 w2.heap.size w.heap.size (w2.heap.size+1) a0 ys cap (kP (nmA ys) 0) 0 0):=by
  obtain ⟨g2,s2,b2,o2,f2⟩:=G2.out
  have bX:=zP w2 (zQ3)
  have bF:=zP (w2.alloc (zQ3)) (.cells #[.func (.func 42) #[] #[],.func (.func 43) #[] #[]] 88)
  have bb:=bX.trans (bF.mono (by simp))
  have hn:=hM.out.2
  have k0:=bb.block w.heap.size (by omega)
  have k1:=bb.block (w.heap.size+1) (by omega)
  exact ⟨fun _=>0,_,_,fun _=>.slice none 0 0,fun _=>.slice none 0 0,RsJ.start (HR2.out.below bb) ((BoxC.new w2 _ _ _ _ _).below bF) (fun j=>(zI (bF.block w2.heap.size (by simp))).trans (yA _ _ _ _ rfl)) rfl (by omega) (g2.andThen (zY bb) (fun j hj=>by cases hj)) hn _ _,⟨⟨(zH k0).trans b2.1,(zH k0).trans b2.2⟩,o2.blkR k1,fun j=>(zI k1).trans (f2 j),⟨zV _ _ _ 0 (by simp),zV _ _ _ 1 (by simp)⟩,rfl,rfl,rfl⟩⟩
 have HF:Hid (w.heap.size+1<w2.heap.size/\N<w.heap.size):=⟨by have:=G2.out.2.1;omega,hM.out.2⟩
 clear HR2 G2 hM
 generalize (w2.alloc (zQ3)).alloc (.cells #[.func (.func 42) #[] #[],.func (.func 43) #[] #[]] 88)=W3 at *
 generalize w2.heap.size=X at *
 simp only [show decide ((n:Int)<1)=false from decide_eq_false (by omega),show decide ((4:Int)<n)=false from decide_eq_false (by omega),Bool.false_or]
 clear hc1 hc4 w2
 rename (1:Int)<=n/\(n:Int)<=4=>hcc
 clear hcc
 go_upto_region 7 with fail
 go_loopw [28] (fun i wr=>∃ p:Nat,p<=n/\i=.int .i64 p/\Hid (RsS w wr N W0 X w.heap.size (X+1) a0 ys cap (kP (nmA ys) p) p p/\(prK (nmA ys) p).isSome=true)) (fun i _=>n - (intOf i).toNat)
 case atStart=>exact ⟨0,Nat.zero_le _,rfl,J0.out,rfl⟩
 case round=>
  clear J0
  rename World=>wr
  obtain ⟨p,hp,rfl,HI⟩:=hrel
  have hn4:(n:Int)<=4:=by have:=HC.out.2.1;omega
  by_cases hlt:p<n
  case neg=>
   have e9:p=n:=by omega
   have hlt':¬ (p:Int)<(n:Int):=by omega
   obtain ⟨hs,hl⟩:=HI.out
   obtain ⟨c,vp,vh,up,uh,J,BX⟩:=hs
   obtain ⟨va,vc,rfl⟩:=rowSl J.p.row
   obtain ⟨ha,hc,rfl⟩:=rowSl J.h.row
   have HJ:Hid (RsJ w wr N W0 X (kP (nmA ys) p) p p a0 ys c (.slice va p vc) (.slice ha p hc) up uh/\RsBx wr w.heap.size (X+1) a0 ys.length cap N c):=⟨J,BX⟩
   have HE:Hid (rsB ys=(((psN (nmA ys) (kP (nmA ys) p):Nat):Int) == ((ys.length:Nat):Int))):=by
    have h9:=rsB_end HC.out.2.2 (by rw [HC.out.1,<- e9];exact hl)
    rw [HC.out.1,<- e9] at h9
    exact h9
   have HPn:Hid (p=ctN (nmA ys) 0):=by rw [HC.out.1];exact e9
   clear J BX HI hl HPr HEv e9
   go_upto_region 15 with fail
   obtain ⟨x0,x1,x2,x3⟩:=HJ.out.1.bx
   obtain ⟨r0,r1⟩:=HJ.out.2.r
   refine wp_region_G (fun w'=>BoxC w' X (.slice va p vc) (.slice none 0 0) (.slice none 0 0) (.slice ha p hc)/\BxR w' w.heap.size (.slice a0 ys.length cap) (.pointer (some ⟨N,0,none⟩))) (fun _=>false) (by kernel_rfl) ?_
   have B0:Hid (Below wr.heap.size wr wr.drew):=(Below.refl _ _).drew
   have hHeld:(fun w':World=>BoxC w' X (.slice va p vc) (.slice none 0 0) (.slice none 0 0) (.slice ha p hc)/\BxR w' w.heap.size (.slice a0 ys.length cap) (.pointer (some ⟨N,0,none⟩))) wr.drew:=⟨⟨x0,x1,x2,x3⟩,r0,r1⟩
   clear x0 x1 x2 x3 r0 r1
   refine wpG_take 0 rfl hHeld ⟨.agg #[.slice va p vc,.slice none 0 0,.slice none 0 0,.slice ha p hc],fun wq hSw=>?_,?_⟩
   ·obtain ⟨⟨y0,y1,y2,y3⟩,-⟩:=hSw
    go_simp
   refine wpG_take 1 rfl hHeld ⟨.agg #[.slice a0 ys.length cap,.pointer (some ⟨N,0,none⟩)],fun wq hSw=>?_,?_⟩
   ·obtain ⟨-,y0,y1⟩:=hSw
    go_simp
   (try simp only [Act.put,zD,zE,zF])
   clear hHeld
   refine wpG_one 2 rfl (by kernel_rfl) (fun K hK=>?_)
   refine stepR_callD rfl 44 _ _ rfl #[.agg #[.slice a0 ys.length cap,.pointer (some ⟨N,0,none⟩)]] (by simp [Act.eval]) (zZ Tryz.func44 (by kernel_rfl) rfl) (HEnd.out wr.drew _ HJ.out.1.rd.drew) ?_
   rintro e w5 ⟨rfl,q5⟩
   rw [<- HE.out]
   have F5:Hid (Below wr.heap.size wr w5):=B0.out.trans (q5.mono B0.out.size)
   have X5:Hid (BoxC w5 X (.slice va p vc) (.slice none 0 0) (.slice none 0 0) (.slice ha p hc)/\BxR w5 w.heap.size (.slice a0 ys.length cap) (.pointer (some ⟨N,0,none⟩))/\BoxC w5 (w.heap.size+1) (.slice none 0 0) (.slice none 0 0) (.slice none 0 0) (.slice none 0 0)/\∀ j,w5.frozen? ⟨w.heap.size+1,j,none⟩=false):=by
    have l1:=HJ.out.2.lt.1
    have k0:=F5.out.block w.heap.size (by omega)
    have k1:=F5.out.block (w.heap.size+1) l1
    exact ⟨HJ.out.1.bx.blkR (F5.out.block X HJ.out.1.bx.ltR),⟨(zH k0).trans HJ.out.2.r.1,(zH k0).trans HJ.out.2.r.2⟩,HJ.out.2.o.blkR k1,fun j=>(zI k1).trans (HJ.out.2.of j)⟩
   refine ⟨_,rfl,?_⟩
   refine hK.out _ _ (fun _=>⟨X5.out.1,X5.out.2.1⟩) ?_
   clear hK K q5 HEnd B0
   (try simp only [Act.put,zD,zE,zF])
   refine wpG_one 3 rfl (by kernel_rfl) (fun K hK=>?_)
   obtain ⟨o0,o1,o2,o3⟩:=X5.out.2.2.1
   have rf:=X5.out.2.2.2
   have S6:Hid (BoxC ((((w5.setCell ⟨w.heap.size+1,0,none⟩ (.slice va p vc)).setCell ⟨w.heap.size+1,1,none⟩ (.slice none 0 0)).setCell ⟨w.heap.size+1,2,none⟩ (.slice none 0 0)).setCell ⟨w.heap.size+1,3,none⟩ (.slice ha p hc)) X (.slice va p vc) (.slice none 0 0) (.slice none 0 0) (.slice ha p hc)/\BxR ((((w5.setCell ⟨w.heap.size+1,0,none⟩ (.slice va p vc)).setCell ⟨w.heap.size+1,1,none⟩ (.slice none 0 0)).setCell ⟨w.heap.size+1,2,none⟩ (.slice none 0 0)).setCell ⟨w.heap.size+1,3,none⟩ (.slice ha p hc)) w.heap.size (.slice a0 ys.length cap) (.pointer (some ⟨N,0,none⟩))/\∀ b,b≠w.heap.size+1->((((w5.setCell ⟨w.heap.size+1,0,none⟩ (.slice va p vc)).setCell ⟨w.heap.size+1,1,none⟩ (.slice none 0 0)).setCell ⟨w.heap.size+1,2,none⟩ (.slice none 0 0)).setCell ⟨w.heap.size+1,3,none⟩ (.slice ha p hc)).heap[b]? = w5.heap[b]?):=by
    have kk:∀ b,b≠w.heap.size+1->((((w5.setCell ⟨w.heap.size+1,0,none⟩ (.slice va p vc)).setCell ⟨w.heap.size+1,1,none⟩ (.slice none 0 0)).setCell ⟨w.heap.size+1,2,none⟩ (.slice none 0 0)).setCell ⟨w.heap.size+1,3,none⟩ (.slice ha p hc)).heap[b]? = w5.heap[b]?:=fun b hb=>(zN _ _ _ b hb).trans ((zN _ _ _ b hb).trans ((zN _ _ _ b hb).trans (zN _ _ _ b hb)))
    have k0:=kk w.heap.size (by omega)
    exact ⟨X5.out.1.blkR (kk X (by have:=HF.out.1;omega)),⟨(zH k0).trans X5.out.2.1.1,(zH k0).trans X5.out.2.1.2⟩,kk⟩
   go_simp
   refine hK.out _ _ (fun _=>⟨S6.out.1,S6.out.2.1⟩) ?_
   clear hK K
   (try simp only [Act.put,zD,zE,zF])
   have hHeld:(fun w':World=>BoxC w' X (.slice va p vc) (.slice none 0 0) (.slice none 0 0) (.slice ha p hc)/\BxR w' w.heap.size (.slice a0 ys.length cap) (.pointer (some ⟨N,0,none⟩))) ((((w5.setCell ⟨w.heap.size+1,0,none⟩ (.slice va p vc)).setCell ⟨w.heap.size+1,1,none⟩ (.slice none 0 0)).setCell ⟨w.heap.size+1,2,none⟩ (.slice none 0 0)).setCell ⟨w.heap.size+1,3,none⟩ (.slice ha p hc)):=⟨S6.out.1,S6.out.2.1⟩
   refine wpG_k 4 rfl hHeld ?_
   clear hHeld
   refine wpG_done (by kernel_rfl) ?_ _
   have HE2:Hid (RsP w N ys (.returned (.tuple #[.agg #[.slice va p vc,.slice none 0 0,.slice none 0 0,.slice ha p hc],.bool (rsB ys)])) ((((w5.setCell ⟨w.heap.size+1,0,none⟩ (.slice va p vc)).setCell ⟨w.heap.size+1,1,none⟩ (.slice none 0 0)).setCell ⟨w.heap.size+1,2,none⟩ (.slice none 0 0)).setCell ⟨w.heap.size+1,3,none⟩ (.slice ha p hc))):=by
    refine ⟨_,_,_,_,_,_,rfl,fun _=>⟨c,up,uh,?_⟩,?_⟩
    ·rw [<- HPn.out]
     exact HJ.out.1.fin fun b hl hc=>(S6.out.2.2 b (fun e=>hc (by rw [e];exact HJ.out.2.cc.2.1))).trans (F5.out.block b hl)
    ·have hM:∀ j,some N=some (Addr.mk (w.heap.size+1) j none).block\/w.heap.size<=(Addr.mk (w.heap.size+1) j none).block:=fun j=>.inr (by show w.heap.size<=w.heap.size+1;omega)
     iterate 4 (refine zU ?_ (hM _) _)
     exact HJ.out.1.gr.andThen (zY F5.out) (fun j hj=>by cases hj)
   clear HJ F5 X5 S6 HE
   go_wp2
   exact bodyPost_ret (v:=.tuple #[.agg #[.slice va p vc,.slice none 0 0,.slice none 0 0,.slice ha p hc],.bool (rsB ys)]) (by simp [results,Tryz.results16,go_sem,o0,o1,o2,o3]) rfl HE2.out
  have hlt':(p:Int)<(n:Int):=by omega
  obtain ⟨f0,f1⟩:=HI.out.1.choose_spec.choose_spec.choose_spec.choose_spec.choose_spec.2.f
  go_upto_region 9 with fail
  clear f0 f1
  have HP:Hid (p<n/\(prK (nmA ys) p).isSome=true):=⟨hlt,HI.out.2⟩
  go_loopw [31] (fun i wr=>∃ q:Nat,q<=2/\i=.int .i64 q/\Hid (RsQ w wr N W0 X w.heap.size (X+1) a0 ys cap p q)) (fun i _=>2 - (intOf i).toNat)
  case atStart=>exact ⟨0,by omega,rfl,.inl ⟨rfl,HI.out.1⟩⟩
  case round=>
   clear HI
   rename World=>wq
   obtain ⟨q,hq,rfl,HI⟩:=hrel
   rcases HI.out with ⟨rfl,hs⟩ | ⟨rfl,hs,hl⟩ | ⟨rfl,hs,hl⟩
   ·obtain ⟨c,vp,vh,up,uh,J,BX⟩:=hs
    have HJ:Hid (RsJ w wq N W0 X (kP (nmA ys) p) p p a0 ys c vp vh up uh/\RsBx wq w.heap.size (X+1) a0 ys.length cap N c):=⟨J,BX⟩
    obtain ⟨r0,r1⟩:=BX.r
    clear J BX HI
    go_wp2_with fail
    clear r0 r1
    refine (HPr.out X (kP (nmA ys) p) p p c vp vh up uh wq HJ.out.1 (by omega) (by omega) rfl).mono ?_
    rintro e w4 ⟨rfl,hg4,hk4,hj4⟩
    have F4:Hid (w.grownBy w4 (some N)/\RsBx w4 w.heap.size (X+1) a0 ys.length cap N (rcol c wq.heap.size 1)):=⟨hg4,HJ.out.2.kept hk4 HF.out.2 HF.out.1 (by omega) (by have:=HF.out.1;omega)⟩
    cases hD:(lsK (nmA ys) 5 30 (kP (nmA ys) p)).isSome with
    | false=>
     have HV:Hid (rsB ys=false):=rsB_no (by rw [HC.out.1];exact HP.out.1) (.inl hD)
     obtain ⟨o0,o1,o2,o3⟩:=F4.out.2.o
     have rf:=F4.out.2.of
     clear hk4 hj4 hg4 hD HJ HPr HEv HEnd
     go_wp2
     exact bodyPost_ret (v:=.tuple #[.agg #[.slice none 0 0,.slice none 0 0,.slice none 0 0,.slice none 0 0],.bool false]) (by simp [results,Tryz.results16,go_sem,o0,o1,o2,o3]) rfl (RsP.no HV.out F4.out.1)
    | true=>
     have HN4:Hid (RsS w w4 N W0 X w.heap.size (X+1) a0 ys cap (hP (nmA ys) p) (p+1) p):=by
      obtain ⟨j,hj⟩:=Option.isSome_iff_exists.1 hD
      obtain ⟨vp',up',J'⟩:=hj4 j hj
      have e:=(lsK_some hj).2.2.2.1
      rw [show j=hP (nmA ys) p from e] at J'
      exact ⟨_,_,_,_,_,J',F4.out.2⟩
     have HD:Hid ((lsK (nmA ys) 5 30 (kP (nmA ys) p)).isSome=true):=hD
     clear hk4 hj4 hg4 hD HJ F4
     go_wp2
     go_roundw
     case rel=>exact ⟨1,by omega,by go_num,.inr (.inl ⟨rfl,HN4.out,HD.out⟩)⟩
     case measure=>simp [intOf]
   ·obtain ⟨c,vp,vh,up,uh,J,BX⟩:=hs
    have HJ:Hid (RsJ w wq N W0 X (hP (nmA ys) p) (p+1) p a0 ys c vp vh up uh/\RsBx wq w.heap.size (X+1) a0 ys.length cap N c/\(lsK (nmA ys) 5 30 (kP (nmA ys) p)).isSome=true):=⟨J,BX,hl⟩
    obtain ⟨r0,r1⟩:=BX.r
    clear J BX HI hl
    go_wp2_with fail
    clear r0 r1
    refine (HEv.out X (hP (nmA ys) p) (p+1) p c vp vh up uh wq HJ.out.1 (by omega) (by omega) rfl).mono ?_
    rintro e w4 ⟨rfl,hg4,hk4,hj4⟩
    have F4:Hid (w.grownBy w4 (some N)/\RsBx w4 w.heap.size (X+1) a0 ys.length cap N (rcol c wq.heap.size 4)):=⟨hg4,HJ.out.2.1.kept hk4 HF.out.2 HF.out.1 (by omega) (by have:=HF.out.1;omega)⟩
    cases hD:(lsK (nmA ys) 3 200 (hP (nmA ys) p)).isSome with
    | false=>
     have HV:Hid (rsB ys=false):=rsB_no (by rw [HC.out.1];exact HP.out.1) (.inr hD)
     obtain ⟨o0,o1,o2,o3⟩:=F4.out.2.o
     have rf:=F4.out.2.of
     clear hk4 hj4 hg4 hD HJ HPr HEv HEnd
     go_wp2
     exact bodyPost_ret (v:=.tuple #[.agg #[.slice none 0 0,.slice none 0 0,.slice none 0 0,.slice none 0 0],.bool false]) (by simp [results,Tryz.results16,go_sem,o0,o1,o2,o3]) rfl (RsP.no HV.out F4.out.1)
    | true=>
     have HN4:Hid (RsS w w4 N W0 X w.heap.size (X+1) a0 ys cap (kP (nmA ys) (p+1)) (p+1) (p+1)/\(prK (nmA ys) (p+1)).isSome=true):=by
      have hpk:(prK (nmA ys) (p+1)).isSome=true:=by rw [prK_prog HP.out.2,HJ.out.2.2,hD];rfl
      obtain ⟨j,hj⟩:=Option.isSome_iff_exists.1 hD
      obtain ⟨vh',uh',J'⟩:=hj4 j hj
      have e:=(prK_up hpk).2.2
      rw [hj] at e
      cases e
      exact ⟨⟨_,_,_,_,_,J',F4.out.2⟩,hpk⟩
     clear hk4 hj4 hg4 hD HJ F4
     go_wp2
     go_roundw
     case rel=>exact ⟨2,by omega,by go_num,.inr (.inr ⟨rfl,HN4.out.1,HN4.out.2⟩)⟩
     case measure=>simp [intOf]
   ·have HN4:Hid (RsS w wq N W0 X w.heap.size (X+1) a0 ys cap (kP (nmA ys) (p+1)) (p+1) (p+1)/\(prK (nmA ys) (p+1)).isSome=true):=⟨hs,hl⟩
    clear hs hl HI HPr HEv HEnd
    go_wp2
    go_roundw
    case rel=>exact ⟨p+1,by omega,by go_num,HN4.out⟩
    case measure=>simp [intOf];omega
theorem rsB_bds {ys:List Int} (h:rsB ys=true):(rY ys).pn<=4/\(∀ i,i<(rY ys).pn->(rY ys).pL i<=30)/\∀ i,i<(rY ys).pn->(rY ys).hL i<=200:=by
 unfold rsB at h
 rw [Bool.and_eq_true,Bool.and_eq_true,decide_eq_true_eq] at h
 obtain ⟨⟨-,-,h4⟩,hs,-⟩:=h
 refine ⟨?_,fun i hi=>?_,fun i hi=>?_⟩
 ·show ctN (nmA ys) 0<=4
  unfold ctN
  omega
 ·exact (lsK_some (prK_some hs i hi).1).2.2.1
 ·exact (lsK_some (prK_some hs i hi).2).2.2.1
theorem ctS_sm {y:Sy} {d:Nat->Nat} (h4:y.pn<=4) (hp:∀ i,i<y.pn->y.pL i<=30) (hd:∀ i,i<y.pn->d i<=200):(ctS y d).Sm:=by
 unfold ctS
 split
 ·rename_i hc
  have hw:wfB (y.ah d)=true:=by
   unfold ctB at hc
   rw [Bool.and_eq_true,Bool.and_eq_true] at hc
   exact hc.2.1
  have hw:=qB_iff.1 hw
  have h16:y.pn*y.pn<=16:=zO (Nat.mul_le_mul h4 h4) (by omega)
  refine ⟨⟨?_,?_,h16,?_⟩,fun i hi=>?_,fun i _=>resS_len _ _ _ _,fun i hi=>?_,fun i hi=>?_⟩
  ·show y.pn<=16
   omega
  ·show y.pn<=16
   omega
  ·show y.pn<=16
   omega
  ·have:=hp i hi
   show y.pL i<=1000
   omega
  ·have hi:i<y.pn*y.pn:=hi
   have ha:i / y.pn<y.pn:=Nat.div_lt_of_lt_mul hi
   have hb:i % y.pn<y.pn:=by
    refine Nat.mod_lt _ (Nat.pos_of_ne_zero fun e=>?_)
    rw [e] at hi
    omega
   have:=hw _ ha _ hb
   show (wyL (y.ah d) (i / y.pn) (i % y.pn)).length<=1000
   omega
  ·have:=hd i hi
   show d i<=1000
   omega
 ·exact y.nil_sm
theorem OwnS.lenU {z:Bool} {w:World} {B:Nat} {c:Nat->Nat} {y:Sy} {vp vs vw vh:Value} {up us uw uh:Nat->Value} (_:OwnS z w B c y vp vs vw vh up us uw uh) (h:y.Sm):(y.sysIn vp vs vw vh up us uw uh).Len:=
 ⟨⟨by have:=h.n.1;show y.pn<=_;omega,fun i hi=>by have:=h.p i hi;show y.pL i<=_;omega⟩,⟨by have:=h.n.2.1;show y.sn<=_;omega,fun i hi=>by have:=h.s i hi;show (y.sS i).rs.length<=_/\(y.sS i).os.length<=_;omega⟩,⟨by have:=h.n.2.2.1;show y.wn<=_;omega,fun i hi=>by have:=h.w i hi;show y.wL i<=_;omega⟩,⟨by have:=h.n.2.2.2;show y.hn<=_;omega,fun i hi=>by have:=h.h i hi;show y.hL i<=_;omega⟩⟩
theorem implUnpack_any (a0:Option Addr) (cap:Nat) (ys:List Int) (w:World) (hlen:ys.length<=1048576) (hcap:ys.length<=cap) (hb:By ys) (hs:SlB w a0 ys) (ha:∀ b o,a0=some ⟨b,o,none⟩->b<w.heap.size) (hV:w.cell? ⟨0,0,none⟩=some (.iface 169 (.agg #[.pointer (some ⟨1,120,none⟩)]))):
  Calls Tryz.prog 6 #[.slice a0 ys.length cap] w fun e w'=>∃ v,e=.returned (.tuple #[v,.bool (upB ys)])/\OwnSys true w' w.heap.size (upS ys) v/\Below w.heap.size w w':=by
 have HVx:Hid (∀ wx,Below w.heap.size w wx->wx.cell? ⟨0,0,none⟩=some (.iface 169 (.agg #[.pointer (some ⟨1,120,none⟩)]))):=fun wx hb=>(hb.cell (p:=⟨0,0,none⟩) (zJ w _ hV)).trans hV
 have HRs:Hid (∀ wx N,Rd wx N w.heap.size a0 ys 0->Calls Tryz.prog 16 #[.agg #[.slice a0 ys.length cap,.pointer (some ⟨N,0,none⟩)]] wx (RsP wx N ys)):=fun wx N hx=>readSys_any a0 cap N w.heap.size ys wx hlen hcap hb hx
 have BW:Hid (Below w.heap.size w ((w.alloc (zQ3)).alloc (.cells #[.int .i64 0] 3))/\Rd ((w.alloc (zQ3)).alloc (.cells #[.int .i64 0] 3)) (w.heap.size+1) w.heap.size a0 ys 0/\BoxC ((w.alloc (zQ3)).alloc (.cells #[.int .i64 0] 3)) w.heap.size (.slice none 0 0) (.slice none 0 0) (.slice none 0 0) (.slice none 0 0)/\(∀ j,((w.alloc (zQ3)).alloc (.cells #[.int .i64 0] 3)).frozen? ⟨w.heap.size,j,none⟩=false)/\((w.alloc (zQ3)).alloc (.cells #[.int .i64 0] 3)).heap.size=w.heap.size+2):=by
  have b1:=zP w (zQ3)
  have b2:=zP (w.alloc (zQ3)) (.cells #[.int .i64 0] 3)
  have bb:=b1.trans (b2.mono (by simp))
  refine ⟨bb,⟨(zV _ _ _ 0 (by simp)).trans (by simp [psN_zero]),fun j=>yA _ _ _ _ (by simp),by omega,ha,hs.below bb,Nat.zero_le _⟩,(BoxC.new w _ _ _ _ _).below b2,fun j=>?_,by simp⟩
  exact (zI (b2.block w.heap.size (by simp))).trans (yA _ _ _ _ rfl)
 have hM:w.heap.size<=w.heap.size:=Nat.le_refl _
 clear hlen hcap hb hs ha hV
 go_enter Tryz.func6,Tryz.ntmps6
 go_upto_region 2 with fail
 generalize (w.alloc (zQ3)).alloc (.cells #[.int .i64 0] 3)=W2 at *
 go_wp2_with fail
 refine (HRs.out W2 (w.heap.size+1) BW.out.2.1).mono ?_
 rintro e w1 ⟨aa,an,ac,da,dn,dc,rfl,hy,hg1⟩
 have B1:Hid (Below w.heap.size w w1/\BoxC w1 w.heap.size (.slice none 0 0) (.slice none 0 0) (.slice none 0 0) (.slice none 0 0)/\(∀ j,w1.frozen? ⟨w.heap.size,j,none⟩=false)/\w.heap.size+2<=w1.heap.size/\w.heap.size<=W2.heap.size/\W2.heap.size<=w1.heap.size):=by
  have hs:=BW.out.2.2.2.2
  have hg:=hg1.size
  have k0:=hg1.block w.heap.size (by omega) (by simp)
  exact ⟨Below.grown BW.out.1 hg1 BW.out.1.size (fun j hj=>by cases hj;omega),BW.out.2.2.1.blkR k0,fun j=>(zI k0).trans (BW.out.2.2.2.1 j),by omega,by omega,by omega⟩
 have HY:Hid (rsB ys=true->∃ c up uh,OwnS false w1 W2.heap.size c (rY ys) (.slice aa an ac) (.slice none 0 0) (.slice none 0 0) (.slice da dn dc) up (fun _=>.slice none 0 0) (fun _=>.slice none 0 0) uh):=hy
 clear hy hg1 BW HRs
 go_upto_region 3 with fail
 have BX1:=zP w1 (oQ4 aa an ac none 0 0 none 0 0 da dn dc)
 have B3:Hid (Below w.heap.size w (w1.alloc (oQ4 aa an ac none 0 0 none 0 0 da dn dc))/\BoxC (w1.alloc (oQ4 aa an ac none 0 0 none 0 0 da dn dc)) w.heap.size (.slice none 0 0) (.slice none 0 0) (.slice none 0 0) (.slice none 0 0)/\(∀ j,(w1.alloc (oQ4 aa an ac none 0 0 none 0 0 da dn dc)).frozen? ⟨w.heap.size,j,none⟩=false)/\BoxC (w1.alloc (oQ4 aa an ac none 0 0 none 0 0 da dn dc)) w1.heap.size (.slice aa an ac) (.slice none 0 0) (.slice none 0 0) (.slice da dn dc)):=by
  have hl:=B1.out.2.1.ltR
  exact ⟨B1.out.1.trans (BX1.mono B1.out.1.size),B1.out.2.1.below BX1,fun j=>(zI (BX1.block w.heap.size hl)).trans (B1.out.2.2.1 j),BoxC.new w1 _ _ _ _ _⟩
 have HB3:Hid (rsB ys=true->∃ c up uh,OwnS false (w1.alloc (oQ4 aa an ac none 0 0 none 0 0 da dn dc)) W2.heap.size c (rY ys) (.slice aa an ac) (.slice none 0 0) (.slice none 0 0) (.slice da dn dc) up (fun _=>.slice none 0 0) (fun _=>.slice none 0 0) uh):=fun h=>by
  obtain ⟨c,up,uh,o⟩:=HY.out h
  exact ⟨c,up,uh,o.below BX1⟩
 have HS1:Hid (w.heap.size+1<w1.heap.size):=by have:=B1.out.2.2.2.1;show _<_;omega
 clear HY B1 BX1
 generalize w1.alloc (oQ4 aa an ac none 0 0 none 0 0 da dn dc)=w3 at *
 generalize w1.heap.size=X1 at *
 generalize W2.heap.size=B2 at *
 clear w1 W2
 have HU:Hid (upB ys=(rsB ys && (ctB (rY ys) (rY ys).hL && (ctS (rY ys) (rY ys).hL).okB))/\(upB ys=false->upS ys=(rY ys).nil)/\(upB ys=true->upS ys=(rY ys).atY (rY ys).hL)):=⟨rfl,fun h=>if_neg (by rw [h];simp),fun h=>if_pos h⟩
 cases hrs:rsB ys with
 | false=>
  have HV:Hid (upB ys=false/\upS ys=(rY ys).nil):=by
   have h1:upB ys=false:=by rw [HU.out.1,hrs];rfl
   exact ⟨h1,HU.out.2.1 h1⟩
  obtain ⟨r0,r1,r2,r3⟩:=B3.out.2.1
  have rf:=B3.out.2.2.1
  clear hrs HU HB3 HVx HS1
  go_wp2
  exact bodyPost_ret (v:=.tuple #[sysV none 0 0 none 0 0 none 0 0 none 0 0,.bool false]) (by simp [results,Tryz.results6,go_sem,r0,r1,r2,r3]) rfl ⟨_,by rw [HV.out.1],by rw [HV.out.2];exact OwnSys.zero _ _ _,(((B3.out.1.setCell hM _).setCell hM _).setCell hM _).setCell hM _⟩
 | true=>
  obtain ⟨h4,hp30,hd200⟩:=rsB_bds hrs
  obtain ⟨c,up,uh,o⟩:=HB3.out hrs
  have hsm:(ctS (rY ys) (rY ys).hL).Sm:=ctS_sm h4 hp30 hd200
  have ea:an=(rY ys).pn:=by
   have h9:=sl_v o.p.row
   cases h9
   rfl
  have ed:dn=(rY ys).pn:=by
   have h9:=sl_v o.h.row
   cases h9
   rfl
  subst ea
  subst ed
  have HCT:Hid (∀ wx X hc0,Below w3.heap.size w3 wx->wx.cell? ⟨X,0,none⟩=some (.slice da (rY ys).pn hc0)->Calls Tryz.prog 17 #[.pointer (some ⟨X,0,none⟩),.slice aa (rY ys).pn ac] wx fun e w'=>∃ v,e=.returned (.tuple #[v,.bool (ctB (rY ys) (rY ys).hL)])/\OwnSys true w' wx.heap.size (ctS (rY ys) (rY ys).hL) v/\Below wx.heap.size wx w'):=fun wx X hc0 hb hc=>by
   have hg:=(o.below hb).g
   exact comesTo_any X hc0 da (fun i=>adOf (uh i)) (fun i=>cpOf (uh i)) (rY ys) (rY ys).hL aa ac (fun i=>adOf (up i)) (fun i=>cpOf (up i)) wx hc ⟨hg.h,hg.hi⟩ hd200 h4 hg.p hg.pi (fun i hi=>by have:=hp30 i hi;omega) (HVx.out wx (B3.out.1.trans (hb.mono B3.out.1.size)))
  have HSO:Hid (∀ wx B v,Below w.heap.size w wx->OwnSys true wx B (ctS (rY ys) (rY ys).hL) v->Calls Tryz.prog 18 #[v] wx fun e w'=>e=.returned (.bool (ctS (rY ys) (rY ys).hL).okB)/\Below wx.heap.size wx w'):=fun wx B v hb ho=>by
   obtain ⟨cc,vp,vs,vw,vh,up',us',uw',uh',rfl,o'⟩:=ho
   have h9:=implSysOk_any ((ctS (rY ys) (rY ys).hL).sysIn vp vs vw vh up' us' uw' uh') wx o'.g (o'.lenU hsm) (HVx.out wx hb)
   rw [o'.v] at h9
   exact h9
  clear o hsm h4 hp30 hd200 HB3 HVx c
  have HU2:Hid (upB ys=(ctB (rY ys) (rY ys).hL && (ctS (rY ys) (rY ys).hL).okB)/\(upB ys=false->upS ys=(rY ys).nil)/\(upB ys=true->upS ys=ctS (rY ys) (rY ys).hL)):=by
   have h1:upB ys=(ctB (rY ys) (rY ys).hL && (ctS (rY ys) (rY ys).hL).okB):=by rw [HU.out.1,hrs];rfl
   refine ⟨h1,HU.out.2.1,fun h=>?_⟩
   rw [HU.out.2.2 h]
   rw [h1,Bool.and_eq_true] at h
   exact (if_pos h.1).symm
  clear HU hrs
  generalize (rY ys).pn=n at *
  generalize ctB (rY ys) (rY ys).hL=R at *
  generalize ctS (rY ys) (rY ys).hL=RS at *
  go_upto_region 5 with fail
  obtain ⟨x0,x1,x2,x3⟩:=B3.out.2.2.2
  have hl:=hcL_len da n dc
  have ho:=hcL_one da n dc
  have hs:(hcL da n dc).toArray.size=21:=by simpa using hl
  have HI:Hid ((Tryz.prog.info? 59).map (·.size)=some (hcL da n dc).toArray.size):=by show _=_;rw [hs];exact infoHistory
  have HOc:Hid ((hcL da n dc).toArray.all (·.oneCell')=true):=all_oneCell_toArray ho
  have HT:Hid ((w3.alloc (zQ2)).there w3.heap.size 0 (hcL da n dc).toArray.size):=there_new _ _ _ _ _ (by rw [hs];rfl) rfl
  have BE:Hid (Below w3.heap.size w3 ((w3.alloc (zQ2)).setCells w3.heap.size 0 (hcL da n dc))):=(Touch.sets (P:=fun b=>b=w3.heap.size) rfl _ _ (Touch.of_below (zS _ _))).below (Nat.le_refl _) fun b e=>by omega
  have HRr:((w3.alloc (zQ2)).setCells w3.heap.size 0 (hcL da n dc)).rangeAt w3.heap.size 0 (hcL da n dc):=World.rangeAt_setCells_same _ _ _ _ (by simpa using HT.out)
  have HCe:Hid (((w3.alloc (zQ2)).setCells w3.heap.size 0 (hcL da n dc)).cell? ⟨w3.heap.size,0,none⟩=some (.slice da n dc)):=his_cell HRr rfl
  clear hl ho hs HRr
  go_upto_region 6 with (refine wpList_store_mid rfl 59 (.tmp 7) (.tmp 20) rfl w3.heap.size 0 (hcL da n dc).toArray rfl rfl HT.out HI.out HOc.out ?_)
  clear HT HI HOc
  generalize (w3.alloc (zQ2)).setCells w3.heap.size 0 (hcL da n dc)=w4 at *
  clear x0 x1 x2 x3
  obtain ⟨x0,x1,x2,x3⟩:=B3.out.2.2.2.below BE.out
  go_wp2_with fail
  refine (HCT.out w4 w3.heap.size dc BE.out HCe.out).mono ?_
  rintro e w5 ⟨v5,rfl,o5,q5⟩
  obtain ⟨pa,pc,sa,sc,wa,wc,ha,hc,rfl⟩:=o5.form
  have B5:Hid (Below w3.heap.size w3 w5/\OwnSys true w5 w4.heap.size RS (sysV pa RS.pn pc sa RS.sn sc wa RS.wn wc ha RS.hn hc)/\w.heap.size+1<w3.heap.size/\w3.heap.size<=w4.heap.size):=⟨BE.out.trans (q5.mono BE.out.size),o5,by have:=HS1.out;have:=B3.out.2.2.2.ltR;omega,BE.out.size⟩
  clear o5 q5 x0 x1 x2 x3 HCT HCe BE HS1
  have b6:=zP w5 (oQ4 pa RS.pn pc sa RS.sn sc wa RS.wn wc ha RS.hn hc)
  have B6:Hid (Below w.heap.size w (w5.alloc (oQ4 pa RS.pn pc sa RS.sn sc wa RS.wn wc ha RS.hn hc))/\OwnSys true (w5.alloc (oQ4 pa RS.pn pc sa RS.sn sc wa RS.wn wc ha RS.hn hc)) w4.heap.size RS (sysV pa RS.pn pc sa RS.sn sc wa RS.wn wc ha RS.hn hc)/\BoxC (w5.alloc (oQ4 pa RS.pn pc sa RS.sn sc wa RS.wn wc ha RS.hn hc)) w.heap.size (.slice none 0 0) (.slice none 0 0) (.slice none 0 0) (.slice none 0 0)/\(∀ j,(w5.alloc (oQ4 pa RS.pn pc sa RS.sn sc wa RS.wn wc ha RS.hn hc)).frozen? ⟨w.heap.size,j,none⟩=false)/\BoxC (w5.alloc (oQ4 pa RS.pn pc sa RS.sn sc wa RS.wn wc ha RS.hn hc)) w5.heap.size (.slice pa RS.pn pc) (.slice sa RS.sn sc) (.slice wa RS.wn wc) (.slice ha RS.hn hc)):=by
   have bb:=B5.out.1.trans (b6.mono B5.out.1.size)
   have hl:=B3.out.2.1.ltR
   exact ⟨B3.out.1.trans (bb.mono B3.out.1.size),B5.out.2.1.below b6,B3.out.2.1.below bb,fun j=>(zI (bb.block w.heap.size hl)).trans (B3.out.2.2.1 j),BoxC.new w5 _ _ _ _ _⟩
  have HL4:Hid (w.heap.size<w4.heap.size):=by have:=B5.out.2.2;show _<_;omega
  go_upto_region 7 with fail
  clear B5 b6 B3
  generalize w5.alloc (oQ4 pa RS.pn pc sa RS.sn sc wa RS.wn wc ha RS.hn hc)=w6 at *
  generalize w5.heap.size=X6 at *
  generalize w4.heap.size=B4 at *
  generalize w3.heap.size=X3 at *
  clear w3 w4 w5
  cases R with
  | false=>
   have HV:Hid (upB ys=false/\upS ys=(rY ys).nil):=by
    have h1:upB ys=false:=by rw [HU2.out.1];rfl
    exact ⟨h1,HU2.out.2.1 h1⟩
   obtain ⟨r0,r1,r2,r3⟩:=B6.out.2.2.1
   have rf:=B6.out.2.2.2.1
   clear HU2 HSO
   go_wp2
   exact bodyPost_ret (v:=.tuple #[sysV none 0 0 none 0 0 none 0 0 none 0 0,.bool false]) (by simp [results,Tryz.results6,go_sem,r0,r1,r2,r3]) rfl ⟨_,by rw [HV.out.1],by rw [HV.out.2];exact OwnSys.zero _ _ _,(((B6.out.1.setCell hM _).setCell hM _).setCell hM _).setCell hM _⟩
  | true=>
   obtain ⟨x0,x1,x2,x3⟩:=B6.out.2.2.2.2
   go_wp2_with fail
   clear x0 x1 x2 x3
   refine (HSO.out w6 B4 _ B6.out.1 B6.out.2.1).mono ?_
   rintro e w7 ⟨rfl,q7⟩
   generalize RS.okB=K at *
   have HK:Hid (upB ys=K):=HU2.out.1
   have l6:w.heap.size<w6.heap.size:=B6.out.2.2.1.ltR
   obtain ⟨r0,r1,r2,r3⟩:=B6.out.2.2.1.below q7
   have rf:∀ j,w7.frozen? ⟨w.heap.size,j,none⟩=false:=fun j=>(zI (q7.block w.heap.size l6)).trans (B6.out.2.2.2.1 j)
   have B7:Hid (Below w.heap.size w w7/\OwnSys true w7 B4 RS (sysV pa RS.pn pc sa RS.sn sc wa RS.wn wc ha RS.hn hc)):=⟨B6.out.1.trans (q7.mono B6.out.1.size),B6.out.2.1.below q7⟩
   obtain ⟨x0,x1,x2,x3⟩:=B6.out.2.2.2.2.below q7
   clear q7 B6 HSO
   cases K with
   | false=>
    have HV:Hid (upB ys=false/\upS ys=(rY ys).nil):=⟨HK.out,HU2.out.2.1 HK.out⟩
    clear HU2
    go_wp2
    exact bodyPost_ret (v:=.tuple #[sysV none 0 0 none 0 0 none 0 0 none 0 0,.bool false]) (by simp [results,Tryz.results6,go_sem,r0,r1,r2,r3]) rfl ⟨_,by rw [HV.out.1],by rw [HV.out.2];exact OwnSys.zero _ _ _,(((B7.out.1.setCell hM _).setCell hM _).setCell hM _).setCell hM _⟩
   | true=>
    have HV:Hid (upB ys=true/\upS ys=RS):=⟨HK.out,HU2.out.2.2 HK.out⟩
    clear HU2
    go_wp2
    exact bodyPost_ret (v:=.tuple #[sysV pa RS.pn pc sa RS.sn sc wa RS.wn wc ha RS.hn hc,.bool true]) (by simp [results,Tryz.results6,go_sem,r0,r1,r2,r3]) rfl ⟨_,by rw [HV.out.1],by rw [HV.out.2];exact ((((B7.out.2.setBelow HL4.out 0 _).setBelow HL4.out 1 _).setBelow HL4.out 2 _).setBelow HL4.out 3 _).base (Nat.le_of_lt HL4.out),(((B7.out.1.setCell hM _).setCell hM _).setCell hM _).setCell hM _⟩
