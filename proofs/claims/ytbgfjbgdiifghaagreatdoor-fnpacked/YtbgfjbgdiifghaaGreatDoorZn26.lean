import Derived.Test.YtbgfjbgdiifghaaGreatDoorZn24
namespace Go.Proofs.YtbgfjbgdiifghaaGreatDoor
open Go.Proofs.Tryz
set_option maxRecDepth 100000
set_option maxHeartbeats 4000000
open Go.RowKit Go.Deep
theorem qd7 (w:World) (xs:List Int) (hl:xs.length<=1000):OwnI (w.alloc (.cells (xs.map (Value.int .i64)).toArray 3)) w.heap.size (sG w.heap.size xs.length xs.length) xs:=by
 have:=World.ownsRow_lit (base:=w.heap.size) (e:=3) (size:=1) w (xs.map (Value.int .i64)).toArray xs.length (nA _) (by unfold maxLen;omega) (by simp);unfold OwnI;exact this
theorem qkc (o r a b n:Int) (w:World):
  Calls prog 18 #[insV o r a b n] w fun e w'=>∃ u,e=.returned u/\OwnI w' w.heap.size u [o,r,a,b,n]/\Bw w w':=by
 have H:Hid (OwnI ((w.alloc (oQ1 o r a b n)).alloc (.cells #[iV o,iV r,iV a,iV b,iV n] 3)) (w.alloc (oQ1 o r a b n)).heap.size (.slice (some ⟨(w.alloc (oQ1 o r a b n)).heap.size,0,none⟩) 5 5) [o,r,a,b,n]):=qd7 _ [o,r,a,b,n] (by simp);have B:Hid (Bw w ((w.alloc (oQ1 o r a b n)).alloc (.cells #[iV o,iV r,iV a,iV b,iV n] 3))):=((nE _ _).alloc (nA _) _).alloc (by simp) _
 go_enter func18,ntmps18
 go_wp2;go_ret;refine ⟨_,rfl,?_,B.out⟩;have h:=H.mono (B':=w.heap.size) (by simp);simpa using h
theorem qig (k q v:Int) (w:World):
  Calls prog 20 #[evV k q v] w fun e w'=>∃ u,e=.returned u/\OwnI w' w.heap.size u [k,q,v]/\Bw w w':=by
 have H:Hid (OwnI ((w.alloc (oQ2 k q v)).alloc (.cells #[iV k,iV q,iV v] 3)) (w.alloc (oQ2 k q v)).heap.size (.slice (some ⟨(w.alloc (oQ2 k q v)).heap.size,0,none⟩) 3 3) [k,q,v]):=qd7 _ [k,q,v] (by simp);have B:Hid (Bw w ((w.alloc (oQ2 k q v)).alloc (.cells #[iV k,iV q,iV v] 3))):=((nE _ _).alloc (nA _) _).alloc (by simp) _
 go_enter func20,ntmps20
 go_wp2;go_ret;refine ⟨_,rfl,?_,B.out⟩;have h:=H.mono (B':=w.heap.size) (by simp);simpa using h
theorem qn9 (b off len cap:Nat) (g:Nat->I5) (w:World) (hlen:len<=1000) (hb:b<w.heap.size) (hc:qaq w b off len g):
  Calls prog 17 #[.slice (some (aQ b off)) len cap,.func (.func 18) #[] #[]] w fun e w'=>∃ v,e=.returned v/\OwnI w' w.heap.size v ((len:Int) :: pkI g len)/\Bw w w':=by
 have hl':(len:Int)<=1000:=by omega
 have HC:Hid (qaq w b off len g):=hc;clear hc;have hen:∀ args wx,(callFunc 18 args).run prog wx=.ok (.enter 18 args) wx:=yA func18 (by kernel_rfl) rfl
 go_enter func17,ntmps17
 go_wp2_with fail
 go_loopw [5,13] (fun o i wr=>∃ k:Nat,k<=len/\i=.int .i64 (k:Int)/\Hid (OwnI wr w.heap.size o ((len:Int) :: pkI g k))/\Bw w wr) (fun _ i _=>len - (intOf i).toNat)
 case atStart=>exact ⟨0,nD _,rfl,qd7 w [(len:Int)] (by simp),(nE _ _).alloc (nA _) _⟩
 case round=>
  obtain ⟨k,hk,rfl,HO,hbw⟩:=hrel;have hs:=hbw.size;by_cases hlt:k<len
  ·have hlt':(k:Int)<(len:Int):=by omega
   obtain ⟨c0,c1,c2,c3,c4⟩:=HC.bw hbw hb k hlt;have bA:Bw wr (wr.alloc (oQ1 (g k).o (g k).r (g k).a (g k).b (g k).n)):=(nE _ _).alloc (nA _) _;go_wp2_with fail
   generalize wr.alloc (oQ1 (g k).o (g k).r (g k).a (g k).b (g k).n)=wA at *;have hsA:=bA.size;refine (qkc (g k).o (g k).r (g k).a (g k).b (g k).n wA).mono ?_;rintro e w1 ⟨u1,rfl,o1,b1⟩;obtain ⟨ap,cp,rfl,sp⟩:=o1.form;have hs1:=b1.size;have bA1:Bw wr w1:=bA.trans (b1.mono hsA);have hbw1:Bw w w1:=hbw.trans (bA1.mono hs);have O1:Hid (OwnI w1 w.heap.size u5 ((len:Int) :: pkI g k)):=HO.bw bA1;have LT:Hid (∀ j,(u5).ownBlock=some j->w.heap.size<=j):=fun j hj=>(HO.lt j hj).1;have SP:Hid (Sl w1 ap [(g k).o,(g k).r,(g k).a,(g k).b,(g k).n]):=sp;have HL:Hid (((len:Int) :: pkI g k).length+5<=4000000):=by show ((len:Int) :: pkI g k).length+5<=4000000;rw [List.length_cons,qcl];omega
   clear o1 sp HO;go_wp2_with (at_builtin;refine qaz w1 rfl _ _ rfl w.heap.size cp u5 ap ((len:Int) :: pkI g k) [(g k).o,(g k).r,(g k).a,(g k).b,(g k).n] rfl rfl O1.out SP.out HL.out (by omega) ?_;intro v' w4 o4 g4 _;have H4:Hid (OwnI w4 w.heap.size v' ((len:Int) :: pkI g (k+1))):=o4;have B4:Hid (Below w.heap.size w1 w4):=Below.grown (nE _ _) g4 (by omega) LT.out;clear o4 g4)
   go_roundw
   case rel=>exact ⟨k+1,by omega,by go_num,H4.out,hbw1.trans B4.out⟩
   case measure=>simp [intOf];omega
  ·have hkl:k=len:=by omega
   have H4:Hid (OwnI wr w.heap.size u5 ((len:Int) :: pkI g len)):=by
    have:=HO.out;rw [hkl] at this;exact this
   clear HO hkl;go_wp2;go_ret;exact ⟨_,rfl,H4.out,hbw⟩
theorem qqw (b off len cap:Nat) (g:Nat->E3) (w:World) (hlen:len<=1000) (hb:b<w.heap.size) (hc:EvAt w b off len g):
  Calls prog 19 #[.slice (some (aQ b off)) len cap,.func (.func 20) #[] #[]] w fun e w'=>∃ v,e=.returned v/\OwnI w' w.heap.size v ((len:Int) :: pkE g len)/\Bw w w':=by
 have hl':(len:Int)<=1000:=by omega
 have HC:Hid (EvAt w b off len g):=hc;clear hc;have hen:∀ args wx,(callFunc 20 args).run prog wx=.ok (.enter 20 args) wx:=yA func20 (by kernel_rfl) rfl
 go_enter func19,ntmps19
 go_wp2_with fail
 go_loopw [5,13] (fun o i wr=>∃ k:Nat,k<=len/\i=.int .i64 (k:Int)/\Hid (OwnI wr w.heap.size o ((len:Int) :: pkE g k))/\Bw w wr) (fun _ i _=>len - (intOf i).toNat)
 case atStart=>exact ⟨0,nD _,rfl,qd7 w [(len:Int)] (by simp),(nE _ _).alloc (nA _) _⟩
 case round=>
  obtain ⟨k,hk,rfl,HO,hbw⟩:=hrel;have hs:=hbw.size;by_cases hlt:k<len
  ·have hlt':(k:Int)<(len:Int):=by omega
   obtain ⟨c0,c1,c2⟩:=HC.bw hbw hb k hlt;have bA:Bw wr (wr.alloc (oQ2 (g k).k (g k).q (g k).v)):=(nE _ _).alloc (nA _) _;go_wp2_with fail
   generalize wr.alloc (oQ2 (g k).k (g k).q (g k).v)=wA at *;have hsA:=bA.size;refine (qig (g k).k (g k).q (g k).v wA).mono ?_;rintro e w1 ⟨u1,rfl,o1,b1⟩;obtain ⟨ap,cp,rfl,sp⟩:=o1.form;have hs1:=b1.size;have bA1:Bw wr w1:=bA.trans (b1.mono hsA);have hbw1:Bw w w1:=hbw.trans (bA1.mono hs);have O1:Hid (OwnI w1 w.heap.size u5 ((len:Int) :: pkE g k)):=HO.bw bA1;have LT:Hid (∀ j,(u5).ownBlock=some j->w.heap.size<=j):=fun j hj=>(HO.lt j hj).1;have SP:Hid (Sl w1 ap [(g k).k,(g k).q,(g k).v]):=sp;have HL:Hid (((len:Int) :: pkE g k).length+3<=4000000):=by show ((len:Int) :: pkE g k).length+3<=4000000;rw [List.length_cons,qd8];omega
   clear o1 sp HO;go_wp2_with (at_builtin;refine qaz w1 rfl _ _ rfl w.heap.size cp u5 ap ((len:Int) :: pkE g k) [(g k).k,(g k).q,(g k).v] rfl rfl O1.out SP.out HL.out (by omega) ?_;intro v' w4 o4 g4 _;have H4:Hid (OwnI w4 w.heap.size v' ((len:Int) :: pkE g (k+1))):=o4;have B4:Hid (Below w.heap.size w1 w4):=Below.grown (nE _ _) g4 (by omega) LT.out;clear o4 g4)
   go_roundw
   case rel=>exact ⟨k+1,by omega,by go_num,H4.out,hbw1.trans B4.out⟩
   case measure=>simp [intOf];omega
  ·have hkl:k=len:=by omega
   have H4:Hid (OwnI wr w.heap.size u5 ((len:Int) :: pkE g len)):=by
    have:=HO.out;rw [hkl] at this;exact this
   clear HO hkl;go_wp2;go_ret;exact ⟨_,rfl,H4.out,hbw⟩
theorem qiy (a0:Option Addr) (len cap:Nat) (g:Nat->E3) (w:World) (hlen:len<=1000) (hc:EvL w a0 len g):
  Calls prog 19 #[.slice a0 len cap,.func (.func 20) #[] #[]] w fun e w'=>∃ v,e=.returned v/\OwnI w' w.heap.size v ((len:Int) :: pkE g len)/\Bw w w':=by
 rcases hc with rfl | ⟨b,off,rfl,hb,hc⟩
 ·have H:Hid (OwnI (w.alloc (.cells #[iV 0] 3)) w.heap.size (sG w.heap.size 1 1) [0]):=qd7 w [0] (by simp)
  go_enter func19,ntmps19
  go_wp2_with fail
  go_loopw [5,13] (fun o i wr=>o=.slice (some (aQ w.heap.size 0)) 1 1/\i=.int .i64 0/\wr=w.alloc (.cells #[.int .i64 0] 3)) (fun _ _ _=>0)
  case atStart=>exact ⟨rfl,rfl,rfl⟩
  case round=>
   obtain ⟨rfl,rfl,rfl⟩:=hrel;go_wp2;go_ret;exact ⟨_,rfl,H.out,(nE _ _).alloc (nA _) _⟩
 ·exact qqw b off len cap g w hlen hb hc
noncomputable def pkT (y:Sy):Bool:=y.okB && !(pB y.Marks)
noncomputable def pkS (y:Sy):List Int:=if pkT y=true then byL (pkN y y.pn) else []
structure PkR (wK wr:World) (o:Value) (L:List Int):Prop where
 ow:OwnB wr wK.heap.size o (byL L)
 be:Bw wK wr
theorem PkR.to {wK wr:World} {o:Value} {L M:List Int} (h:PkR wK wr o L) (e:M=L):PkR wK wr o M:=e ▸ h
theorem qf0 {ops:Array Oper} {rest:List Oper} {op:Oper} {act:Act} {Q:Exit->Act->World->Prop} {wK wr w1:World} {o:Value} {L M:List Int} (h:PkR wK wr o L) (b1:Bw wr w1) (hgd:op.guard=none) (s x:Operand)
  (ho:op.op=.call { callee:=.builtin .append,args:=#[s,x],argTypes:=#[22,22] }) (cp n:Nat) (ap:Option Addr) (hs:act.eval s=o) (hx:act.eval x=.slice ap n cp) (hnn:n=(byL M).length) (hy:SlB w1 ap (byL M)) (hn:L.length+M.length<=100000)
  (hK:∀ v' w4,PkR wK w4 v' (L ++ M)->wpList prog ops Q rest (act.put op.dst v') w4):wpList prog ops Q (op :: rest) act w1:=by
 subst hnn;have l1:=qgc L;have l2:=qgc M;refine qbe w1 hgd s x ho wK.heap.size cp o ap (byL L) (byL M) hs hx (h.ow.bw b1) hy (by omega) (zP h.be.size b1.size) ?_;intro v' w4 o4 g4 _;refine hK v' w4 ⟨by rw [qi4];exact o4,?_⟩;exact (h.be.trans (b1.mono h.be.size)).trans (Below.grown (nE _ _) g4 (zP h.be.size b1.size) (fun j hj=>(h.ow.lt j hj).1))
theorem qmf {y:Sy} (h:y.Ok):(∀ k,k<=y.pn->(pkN y k).length<=4000)/\(∀ k,k<y.pn->y.pL k<=30/\y.hL k<=200)/\y.pn<=4/\y.hn=y.pn:=by
 have hb:=h.bds;have hc:=h.cn;have h2:∀ k,k<y.pn->y.pL k<=30/\y.hL k<=200:=fun k hk=>⟨hb.1 k hk,h.hl200 hk⟩
 refine ⟨fun k hk=>?_,h2,hc.1.2,hc.2.2.1⟩;have:=qs3 y y.pn h2 k hk;omega
theorem qeh (x:SysIn) (w:World) (hG:SysG w x) (hL:x.Len) (hcap:∀ i,i<x.hn->x.hL i<=x.hC i):
  Calls prog 7 #[x.v] w fun e w'=>∃ u,e=.returned (.tuple #[u,.bool (pkT x.y)])/\OwnB w' w.heap.size u (pkS x.y)/\Bw w w':=by
 have HG:Hid (SysG w x):=hG;have HL:Hid x.Len:=hL;have HS:Hid (∀ wx,Bw w wx->Calls prog 22 #[x.v] wx (rB wx (.bool x.y.okB))):=fun wx hb=>qcs x wx (hG.bw hb) hL hcap;have HM:Hid (∀ wx,Bw w wx->Calls prog 23 #[x.v] wx (rB wx (.bool (pB x.y.Marks)))):=fun wx hb=>ql6 x wx (hG.bw hb) hL;have BW:Hid (Bw w (w.alloc (x.oX))):=zT _ _;have NB:Hid (x.bX (w.alloc (x.oX)) w.heap.size):=BoxC.new w _ _ _ _ _;clear hG hL hcap
 go_enter func7,ntmps7
 go_wp2_with fail
 generalize w.alloc (x.oX)=W2 at *;refine (HS.out W2 BW.out).mono ?_;rintro e w1 ⟨rfl,q1⟩;have B1:Hid (Bw w w1/\x.bX w1 w.heap.size):=⟨BW.trans (q1.mono BW.size),NB.bw q1⟩
 clear q1 BW NB HS
 rcases zK x.y.okB with t | t
 case inr=>
  have HT:Hid (pkT x.y=false):=by show pkT x.y=false;rw [pkT,t];rfl
  have HV:Hid (pkS x.y=[]):=by
   show pkS x.y=[];rw [pkS,nB (by rw [HT.out];decide)]
  have OE:Hid (OwnB (w1.alloc (.cells #[] 5)) w.heap.size (sG w1.heap.size 0 0) []/\Bw w (w1.alloc (.cells #[] 5))):=⟨(qcv w1).mono B1.1.size,B1.1.trans ((zT _ _).mono B1.1.size)⟩
  rw [t];clear t;go_wp2;exact bodyPost_ret (v:=.tuple #[.slice (some ⟨w1.heap.size,0,none⟩) 0 0,.bool false]) (by simp [results,results7,go_sem]) rfl ⟨_,by rw [HT.out],by rw [HV.out];exact OE.1,OE.2⟩
 have HK:Hid x.y.Ok:=Sy.ok_of t;have HT0:Hid (pkT x.y = !(pB x.y.Marks)):=by show pkT x.y=_;rw [pkT,t];rfl
 rw [t];clear t;obtain ⟨b0,b1,b2,b3⟩:=B1.2;go_wp2_with fail
 clear b0 b1 b2 b3;refine (HM.out w1 B1.1).mono ?_;rintro e wK ⟨rfl,q2⟩;have B2:Hid (Bw w wK/\x.bX wK w.heap.size):=⟨B1.1.trans (q2.mono B1.1.size),B1.2.bw q2⟩
 clear q2 B1 HM
 rcases zK (pB x.y.Marks) with t | t
 case inl=>
  have HT:Hid (pkT x.y=false):=by show pkT x.y=false;rw [HT0.out,t];rfl
  have HV:Hid (pkS x.y=[]):=by
   show pkS x.y=[];rw [pkS,nB (by rw [HT.out];decide)]
  have OE:Hid (OwnB (wK.alloc (.cells #[] 5)) w.heap.size (sG wK.heap.size 0 0) []/\Bw w (wK.alloc (.cells #[] 5))):=⟨(qcv wK).mono B2.1.size,B2.1.trans ((zT _ _).mono B2.1.size)⟩
  rw [t];clear t;go_wp2;exact bodyPost_ret (v:=.tuple #[.slice (some ⟨wK.heap.size,0,none⟩) 0 0,.bool false]) (by simp [results,results7,go_sem]) rfl ⟨_,by rw [HT.out],by rw [HV.out];exact OE.1,OE.2⟩
 have HT:Hid (pkT x.y=true):=by show pkT x.y=true;rw [HT0.out,t];rfl
 have HV:Hid (pkS x.y=byL (pkN x.y x.pn)):=by show pkS x.y=_;rw [pkS,nC HT.out];rfl
 rw [t];clear t HT0;have HB:Hid ((∀ k,k<=x.pn->(pkN x.y k).length<=4000)/\(∀ k,k<x.pn->x.pL k<=30/\x.hL k<=200)/\x.pn<=4/\x.hn=x.pn):=qmf HK.out;have hpn:(x.pn:Int)<=4:=by have:=HB.2.2.1;omega
 have HG2:Hid (SysG wK x):=HG.bw B2.1;clear HG HL HK;obtain ⟨b0,b1,b2,b3⟩:=B2.2;go_wp2_with fail
 clear b0 b1 b2 b3;refine (qbi (x.pn:Int) wK).mono ?_;rintro e w3 ⟨u3,rfl,o3,q3⟩;have R3:Hid (PkR wK w3 u3 (pkN x.y 0)):=⟨by rw [pkN,qgd];exact o3,q3⟩
 clear o3 q3;go_wp2_with fail
 go_loopw [4,5] (fun o i wr=>∃ k:Nat,k<=x.pn/\i=.int .i64 (k:Int)/\Hid (PkR wK wr o (pkN x.y k))) (fun _ i _=>x.pn - (intOf i).toNat)
 case atStart=>exact ⟨0,nD _,rfl,R3.out⟩
 case round=>
  clear R3;obtain ⟨k,hk,rfl,HR⟩:=hrel;by_cases hlt:k<x.pn
  ·have hlt':(k:Int)<(x.pn:Int):=by omega
   obtain ⟨bp,op,ep,cp⟩:=(HG2.bw HR.be).p.at hlt;have HEp:Hid (x.pa=some (aQ bp op)):=ep;obtain ⟨b0,b1,b2,b3⟩:=B2.2.bw HR.be;rw [ep] at b0;clear ep;have hpl:(x.pL k:Int)<=30:=by have:=(HB.2.1 k hlt).1;omega
   have hhl:(x.hL k:Int)<=200:=by have:=(HB.2.1 k hlt).2;omega
   go_wp2_with fail
   clear b0 b1 b2 b3 cp;refine (qbi (x.pL k:Int) wr).mono ?_;rintro e w5 ⟨u5,rfl,o5,q5⟩;obtain ⟨ap,cq,rfl,sp⟩:=o5.form;have SP:Hid (SlB w5 ap (byL [(x.pL k:Int)])/\Bw wr w5/\(puL (x.pL k:Int)).length=(byL [(x.pL k:Int)]).length):=⟨by rw [qgd];exact sp,q5,by rw [qgd]⟩
   clear o5 sp q5;go_wp2_with (at_builtin;refine qf0 HR.out SP.2.1 rfl _ _ rfl cq _ ap rfl rfl SP.2.2 SP.1 (by have:=HB.1 k hk;simp only [List.length_cons,List.length_nil];omega) ?_;intro v6 w6 r6;have R6:Hid (PkR wK w6 v6 (pkN x.y k ++ ((x.pL k:Int) :: pkI (x.pH k) 0))):=r6;clear r6)
   clear SP HR
   go_loopw [4,6] (fun o i wr=>∃ j:Nat,j<=x.pL k/\i=.int .i64 (j:Int)/\Hid (PkR wK wr o (pkN x.y k ++ ((x.pL k:Int) :: pkI (x.pH k) j)))) (fun _ i _=>x.pL k - (intOf i).toNat)
   case atStart=>exact ⟨0,nD _,rfl,R6.out⟩
   case round=>
    clear R6;obtain ⟨j,hj,rfl,HR⟩:=hrel;obtain ⟨b0,b1,b2,b3⟩:=B2.2.bw HR.be;rw [HEp.out] at b0
    have cp:wr.cell? ⟨bp,op+k,none⟩=some (.slice (x.pA k) (x.pL k) (x.pC k)):=by
     obtain ⟨b',o',e',c'⟩:=(HG2.bw HR.be).p.at hlt;rw [HEp.out] at e';cases e';exact c'
    by_cases hjl:j<x.pL k
    ·have hjl':(j:Int)<(x.pL k:Int):=by omega
     obtain ⟨bi,ei,lti,ai⟩:=(HG2.bw HR.be).pi k hlt;obtain ⟨c0,c1,c2,c3,c4⟩:=ai j hjl;rw [ei] at cp;clear ei ai;rw [nL] at c0 c1 c2 c3 c4
     have H0 : Hid (Sl ((wr.alloc (oQ1 (x.pH k j).o (x.pH k j).r (x.pH k j).a (x.pH k j).b (x.pH k j).n)).alloc (.cells #[iV (x.pH k j).o, iV (x.pH k j).r, iV (x.pH k j).a, iV (x.pH k j).b, iV (x.pH k j).n] 3)) (some ⟨wr.heap.size + 1, 0, none⟩) [(x.pH k j).o, (x.pH k j).r, (x.pH k j).a, (x.pH k j).b, (x.pH k j).n] ∧ Below wr.heap.size wr ((wr.alloc (oQ1 (x.pH k j).o (x.pH k j).r (x.pH k j).a (x.pH k j).b (x.pH k j).n)).alloc (.cells #[iV (x.pH k j).o, iV (x.pH k j).r, iV (x.pH k j).a, iV (x.pH k j).b, iV (x.pH k j).n] 3))) := ⟨by
      have h:=(qd7 (wr.alloc (oQ1 (x.pH k j).o (x.pH k j).r (x.pH k j).a (x.pH k j).b (x.pH k j).n)) [(x.pH k j).o,(x.pH k j).r,(x.pH k j).a,(x.pH k j).b,(x.pH k j).n] (by simp)).form;obtain ⟨a1,cc,e,s⟩:=h;simp only [Value.slice.injEq] at e;obtain ⟨rfl,-,-⟩:=e
      simpa using s,((nE _ _).alloc (nA _) _).alloc (by simp) _⟩
     go_wp2_with fail
     clear b0 b1 b2 b3 cp c0 c1 c2 c3 c4;generalize (wr.alloc (oQ1 (x.pH k j).o (x.pH k j).r (x.pH k j).a (x.pH k j).b (x.pH k j).n)).alloc (.cells #[iV (x.pH k j).o,iV (x.pH k j).r,iV (x.pH k j).a,iV (x.pH k j).b,iV (x.pH k j).n] 3)=wJ at *;refine (qid (some ⟨wr.heap.size+1,0,none⟩) 5 [(x.pH k j).o,(x.pH k j).r,(x.pH k j).a,(x.pH k j).b,(x.pH k j).n] wJ (by simp) H0.1).mono ?_;rintro e w7 ⟨u7,rfl,o7,q7⟩;obtain ⟨ap,cq,rfl,sp⟩:=o7.form;have SP:Hid (SlB w7 ap (byL [(x.pH k j).o,(x.pH k j).r,(x.pH k j).a,(x.pH k j).b,(x.pH k j).n])/\Bw wr w7):=⟨sp,H0.2.trans (q7.mono H0.2.size)⟩
     clear o7 sp q7 H0;go_wp2_with (at_builtin;refine qf0 HR.out SP.2 rfl _ _ rfl cq _ ap rfl rfl rfl SP.1 (by have:=HB.1 k hk;have:=(HB.2.1 k hlt).1;simp only [List.length_append,List.length_cons,List.length_nil,qcl];omega) ?_;intro v8 w8 r8;have R8:Hid (PkR wK w8 v8 (pkN x.y k ++ ((x.pL k:Int) :: pkI (x.pH k) (j+1)))):=r8.to (by rw [pkI,List.append_assoc];rfl);clear r8)
     clear SP HR;go_roundw
     case rel=>exact ⟨j+1,by omega,by go_num,R8.out⟩
     case measure=>simp [intOf];omega
    ·have hje:j=x.pL k:=by omega
     have HR1:Hid (PkR wK wr u4 (pkN x.y k ++ ((x.pL k:Int) :: pkI (x.pH k) (x.pL k)))):=by have h:=HR.out;rw [hje] at h;exact h
     have hjl':¬ ((j:Int)<(x.pL k:Int)):=by omega
     obtain ⟨bh,oh,eh,ch⟩:=(HG2.bw HR.be).h.at (k:=k) (by have:=HB.2.2.2;omega);have HEh:Hid (x.ha=some (aQ bh oh)):=eh;rw [eh] at b3;have hnn:(x.hn:Int)=(x.pn:Int):=by have:=HB.2.2.2;omega
     have hlh:(k:Int)<(x.hn:Int):=by omega
     clear eh hje HR hnn;go_wp2_with fail
     clear b0 b1 b2 b3 cp ch;refine (qbi (x.hL k:Int) wr).mono ?_;rintro e w5 ⟨u5,rfl,o5,q5⟩;obtain ⟨ap,cq,rfl,sp⟩:=o5.form;have SP:Hid (SlB w5 ap (byL [(x.hL k:Int)])/\Bw wr w5/\(puL (x.hL k:Int)).length=(byL [(x.hL k:Int)]).length):=⟨by rw [qgd];exact sp,q5,by rw [qgd]⟩
     clear o5 sp q5;go_wp2_with (at_builtin;refine qf0 HR1.out SP.2.1 rfl _ _ rfl cq _ ap rfl rfl SP.2.2 SP.1 (by have:=HB.1 k hk;have:=(HB.2.1 k hlt).1;simp only [List.length_append,List.length_cons,List.length_nil,qcl];omega) ?_;intro v6 w6 r6;have R6:Hid (PkR wK w6 v6 (pkN x.y k ++ (((x.pL k:Int) :: pkI (x.pH k) (x.pL k)) ++ ((x.hL k:Int) :: pkE (x.hH k) 0)))):=r6.to (by rw [List.append_assoc];rfl);clear r6)
     clear SP HR1
     go_loopw [4,8] (fun o i wr=>∃ j:Nat,j<=x.hL k/\i=.int .i64 (j:Int)/\Hid (PkR wK wr o (pkN x.y k ++ (((x.pL k:Int) :: pkI (x.pH k) (x.pL k)) ++ ((x.hL k:Int) :: pkE (x.hH k) j))))) (fun _ i _=>x.hL k - (intOf i).toNat)
     case atStart=>exact ⟨0,nD _,rfl,R6.out⟩
     case round=>
      clear R6;obtain ⟨i,hi,rfl,HR⟩:=hrel;obtain ⟨b0,b1,b2,b3⟩:=B2.2.bw HR.be;rw [HEh.out] at b3
      have ch:wr.cell? ⟨bh,oh+k,none⟩=some (.slice (x.hA k) (x.hL k) (x.hC k)):=by
       obtain ⟨b',o',e',c'⟩:=(HG2.bw HR.be).h.at (k:=k) (by have:=HB.2.2.2;omega);rw [HEh.out] at e';cases e';exact c'
      by_cases hil:i<x.hL k
      ·have hil':(i:Int)<(x.hL k:Int):=by omega
       obtain ⟨bi,oi,ei,lti,c0,c1,c2⟩:=((HG2.bw HR.be).hi k (by have:=HB.2.2.2;omega)).at hil;rw [ei] at ch;clear ei
       have H0 : Hid (Sl ((wr.alloc (oQ2 (x.hH k i).k (x.hH k i).q (x.hH k i).v)).alloc (.cells #[iV (x.hH k i).k, iV (x.hH k i).q, iV (x.hH k i).v] 3)) (some ⟨wr.heap.size + 1, 0, none⟩) [(x.hH k i).k, (x.hH k i).q, (x.hH k i).v] ∧ Below wr.heap.size wr ((wr.alloc (oQ2 (x.hH k i).k (x.hH k i).q (x.hH k i).v)).alloc (.cells #[iV (x.hH k i).k, iV (x.hH k i).q, iV (x.hH k i).v] 3))) := ⟨by
        have h:=(qd7 (wr.alloc (oQ2 (x.hH k i).k (x.hH k i).q (x.hH k i).v)) [(x.hH k i).k,(x.hH k i).q,(x.hH k i).v] (by simp)).form;obtain ⟨a1,cc,e,s⟩:=h;simp only [Value.slice.injEq] at e;obtain ⟨rfl,-,-⟩:=e
        simpa using s,((nE _ _).alloc (nA _) _).alloc (by simp) _⟩
       go_wp2_with fail
       clear b0 b1 b2 b3 ch c0 c1 c2;generalize (wr.alloc (oQ2 (x.hH k i).k (x.hH k i).q (x.hH k i).v)).alloc (.cells #[iV (x.hH k i).k,iV (x.hH k i).q,iV (x.hH k i).v] 3)=wJ at *;refine (qid (some ⟨wr.heap.size+1,0,none⟩) 3 [(x.hH k i).k,(x.hH k i).q,(x.hH k i).v] wJ (by simp) H0.1).mono ?_;rintro e w7 ⟨u7,rfl,o7,q7⟩;obtain ⟨ap,cq,rfl,sp⟩:=o7.form;have SP:Hid (SlB w7 ap (byL [(x.hH k i).k,(x.hH k i).q,(x.hH k i).v])/\Bw wr w7):=⟨sp,H0.2.trans (q7.mono H0.2.size)⟩
       clear o7 sp q7 H0;go_wp2_with (at_builtin;refine qf0 HR.out SP.2 rfl _ _ rfl cq _ ap rfl rfl rfl SP.1 (by have:=HB.1 k hk;have:=(HB.2.1 k hlt).1;have:=(HB.2.1 k hlt).2;simp only [List.length_append,List.length_cons,List.length_nil,qcl,qd8];omega) ?_;intro v8 w8 r8;have R8:Hid (PkR wK w8 v8 (pkN x.y k ++ (((x.pL k:Int) :: pkI (x.pH k) (x.pL k)) ++ ((x.hL k:Int) :: pkE (x.hH k) (i+1))))):=r8.to (by rw [pkE];simp only [List.append_assoc,List.cons_append]);clear r8)
       clear SP HR;go_roundw
       case rel=>exact ⟨i+1,by omega,by go_num,R8.out⟩
       case measure=>simp [intOf];omega
      ·have hie:i=x.hL k:=by omega
       have HR1:Hid (PkR wK wr u4 (pkN x.y (k+1))):=by
        have h:=HR.out;rw [hie] at h;exact h
       have hil':¬ ((i:Int)<(x.hL k:Int)):=by omega
       clear hie HR;go_wp2;go_roundw
       case rel=>exact ⟨k+1,by omega,by go_num,HR1.out⟩
       case measure=>simp [intOf];omega
  ·have hke:k=x.pn:=by omega
   have F:Hid (OwnB wr w.heap.size u4 (pkS x.y)/\Bw w wr):=by
    have h:=HR.out;rw [hke] at h;exact ⟨by rw [HV.out];exact h.ow.mono B2.1.size,B2.1.trans (h.be.mono B2.1.size)⟩
   have hlt':¬ ((k:Int)<(x.pn:Int)):=by omega
   obtain ⟨b0,b1,b2,b3⟩:=B2.2.bw HR.be;clear hke HR;go_wp2;exact bodyPost_ret (v:=.tuple #[u4,.bool true]) (by simp [results,results7,go_sem]) rfl ⟨_,by rw [HT.out],F.out⟩
def nmL (ys:List Int):Nat->Int->List Int
 | 0,_=>[]
 | f+1,z=>match gnO ys z with
  | none=>[]
  | some (x,n)=>x :: nmL ys f n
def nmA (ys:List Int):List Int:=nmL ys (ys.length+1) 0
def psN (N:List Int) (k:Nat):Nat:=(byL (N.take k)).length
theorem qf5 (N:List Int):psN N 0=0:=by simp [psN,byL]
theorem qkj (x:Int) (N:List Int) (k:Nat):psN (x :: N) (k+1)=(puL x).length+psN N k:=by
 rw [psN,List.take_succ_cons,qc5,List.length_append];rfl
theorem qwn (N:List Int) (k:Nat) (h:k<N.length):psN N (k+1)=psN N k+(puL (zi N k)).length:=by
 rw [psN,qjl N k h,List.length_append];rfl
theorem qif {ys:List Int} (hb:By ys):∀ (f a:Nat),a<=ys.length->ys.length<a+f->∀ k,k<=(nmL ys f a).length->
  gnO ys ((a+psN (nmL ys f a) k:Nat):Int)=(if k<(nmL ys f a).length then some (zi (nmL ys f a) k,((a+psN (nmL ys f a) (k+1):Nat):Int)) else none)/\a+psN (nmL ys f a) k<=ys.length/\(ys.drop a).take (psN (nmL ys f a) k)=byL ((nmL ys f a).take k)/\(k<(nmL ys f a).length->puB (zi (nmL ys f a) k)=true)
 | 0,a,h1,h2,_,_=>by omega
 | f+1,a,h1,h2,k,hk=>by
  rw [nmL] at hk ⊢;cases hg:gnO ys (a:Int) with
  | none=>
   rw [hg] at hk;simp only [List.length_nil,Nat.le_zero] at hk;subst hk;simp only [qf5,Nat.add_zero,hg,List.length_nil,Nat.lt_irrefl,if_false,List.take_zero];exact ⟨trivial,h1,by simp [byL],fun h=>absurd h (by decide)⟩
  | some r=>
   obtain ⟨x,n⟩:=r;rw [hg] at hk;obtain ⟨a',m,ea,rfl,m1,m5,ml,hx⟩:=qxf hb hg;have ea':a'=a:=by omega
   subst ea'
   have hxl:(puL x).length=m:=by
    rw [hx,List.length_take,List.length_drop];omega
   have hpu:puB x=true:=by
    cases hq:puB x with
    | true=>rfl
    | false=>
     rw [qol x hq] at hxl;simp at hxl;omega
   have ih:=qif hb f (a'+m) ml (by omega);simp only [List.length_cons] at hk ⊢;cases k with
   | zero=>
    rw [qf5,qkj,qf5,hxl,Nat.add_zero,Nat.add_zero,hg,nC (Nat.succ_pos _),qeo,List.take_zero];exact ⟨rfl,h1,by simp [byL],fun _=>hpu⟩
   | succ j=>
    obtain ⟨i1,i2,i3,i4⟩:=ih j (by omega);rw [qkj,qkj,hxl,qce];refine ⟨?_,by omega,?_,fun h=>i4 (by omega)⟩
    ·rw [show a'+(m+psN (nmL ys f ((a'+m:Nat):Int)) j)=a'+m+psN (nmL ys f ((a'+m:Nat):Int)) j by omega,i1]
     by_cases hj:j<(nmL ys f ((a'+m:Nat):Int)).length
     ·rw [nC hj,nC (by omega),Nat.add_assoc]
     ·rw [nB hj,nB (by omega)]
    ·rw [List.take_succ_cons,qc5,hx,List.take_add,List.drop_drop,i3]
theorem qu4 {ys:List Int} (hb:By ys) {k:Nat} (hk:k<=(nmA ys).length):gnO ys (psN (nmA ys) k:Int)=(if k<(nmA ys).length then some (zi (nmA ys) k,(psN (nmA ys) (k+1):Int)) else none):=by
 have h:=(qif hb (ys.length+1) 0 (nD _) (by omega) k hk).1;simp only [nL] at h;exact h
theorem qyz {ys:List Int} (hb:By ys) {k:Nat} (hk:k<=(nmA ys).length):psN (nmA ys) k<=ys.length:=by
 have h:=(qif hb (ys.length+1) 0 (nD _) (by omega) k hk).2.1;simp only [nL] at h;exact h
theorem qy1 {ys:List Int} (hb:By ys) {k:Nat} (hk:k<=(nmA ys).length):ys.take (psN (nmA ys) k)=byL ((nmA ys).take k):=(qif hb (ys.length+1) 0 (nD _) (by omega) k hk).2.2.1
theorem qxo {ys:List Int} (hb:By ys) {k:Nat} (hk:k<(nmA ys).length):puB (zi (nmA ys) k)=true:=(qif hb (ys.length+1) 0 (nD _) (by omega) k (nJ hk)).2.2.2 hk
theorem qwi {ys:List Int} (hb:By ys) {k:Nat} (hk:k<=(nmA ys).length):psN (nmA ys) k=ys.length ↔ k=(nmA ys).length/\byL (nmA ys)=ys:=by
 constructor
 ·intro h
  have hkl:k=(nmA ys).length:=by
   rcases Nat.lt_or_ge k (nmA ys).length with hlt | hge
   ·have h1:=qwn (nmA ys) k hlt
    have h2:=qyz hb (k:=k+1) hlt;have h3:=qgp _ (qxo hb hlt);omega
   ·omega
  refine ⟨hkl,?_⟩;have h1:=qy1 hb hk;rw [h,List.take_length,hkl,List.take_length] at h1;exact h1.symm
 ·rintro ⟨rfl,h⟩
  rw [psN,List.take_length,h]
theorem qxe (ys:List Int) (a:Nat) (h:a<=ys.length):gnO ys (a:Int)=(gnO (ys.drop a) 0).map fun r=>(r.1,(a:Int)+r.2):=by
 unfold gnO;by_cases hl:a<ys.length
 ·have e:(0:Int).toNat=0:=rfl
  rw [nC ⟨by omega,by omega⟩,nC ⟨by omega,by rw [List.length_drop];omega⟩,e,List.drop_zero,nF];cases frm 5 (ys.drop a) with
  | none=>rfl
  | some F=>
   simp only
   split <;> simp
 ·rw [nB (by omega),nB (by rw [List.length_drop];omega)]
  rfl
theorem qwh:∀ (M ys:List Int) (f a:Nat),a<=ys.length->ys.length<a+f->ys.drop a=byL M->(∀ j,j<M.length->puB (zi M j)=true)->nmL ys f a=M
 | _,_,0,_,h1,h2,_,_=>by omega
 | [],ys,f+1,a,h1,h2,he,_=>by
  have hl:ys.length - a=0:=by rw [<- List.length_drop,he];rfl
  have hg:gnO ys (a:Int)=none:=by unfold gnO;rw [nB (by omega)]
  rw [nmL,hg]
 | x :: M,ys,f+1,a,h1,h2,he,hp=>by
  have hx:puB x=true:=by
   have:=hp 0 (by simp);rw [qeo] at this;exact this
  have hlen:ys.length - a=(puL x).length+(byL M).length:=by rw [<- List.length_drop,he,qc5,List.length_append]
  have hpos:=qgp x hx
  have hg:gnO ys (a:Int)=some (x,((a+(puL x).length:Nat):Int)):=by
   rw [qxe ys a h1,he,qc5,qys hx];simp
  rw [nmL,hg];simp only
  rw [qwh M ys f (a + (puL x).length) (by omega) (by omega) (by rw [← List.drop_drop, he, qc5, List.drop_append_of_le_length (nA _), List.drop_length, List.nil_append]) (fun j hj => by
   have:=hp (j+1) (by simp;omega);rw [qce] at this
   exact this)]
theorem qsr {M:List Int} (hp:∀ j,j<M.length->puB (zi M j)=true):nmA (byL M)=M:=qwh M (byL M) _ 0 (nD _) (by omega) (by rw [List.drop_zero]) hp
structure Rd (w:World) (N W0:Nat) (a0:Option Addr) (ys:List Int) (k:Nat):Prop where
 c0:w.cell? (aQ N 0)=some (iV (psN (nmA ys) k:Nat))
 fr:∀ j,w.frozen? ⟨N,j,none⟩=false
 ge:W0<=N
 ap:∀ b o,a0=some ⟨b,o,none⟩->b<W0
 sl:SlB w a0 ys
 le:k<=(nmA ys).length
theorem Rd.lt {w:World} {N W0 k:Nat} {a0:Option Addr} {ys:List Int} (h:Rd w N W0 a0 ys k):N<w.heap.size:=zJ w _ h.c0
theorem Rd.bw {w w':World} {N W0 k:Nat} {a0:Option Addr} {ys:List Int} (h:Rd w N W0 a0 ys k) (hb:Bw w w'):Rd w' N W0 a0 ys k:=
 ⟨(hb.cell (p:=(aQ N 0)) h.lt).trans h.c0,fun j=>(zI (hb.block N h.lt)).trans (h.fr j),h.ge,h.ap,h.sl.bw hb,h.le⟩
theorem SlB.kept {w w':World} {a0:Option Addr} {ys:List Int} {W0:Nat} (h:SlB w a0 ys) (ha:∀ b o,a0=some ⟨b,o,none⟩->b<W0) (hb:∀ b,b<W0->w'.heap[b]? = w.heap[b]?) (hs:w.heap.size<=w'.heap.size):SlB w' a0 ys:=by
 rcases h with h | ⟨b,off,e,hlt,hz⟩
 ·exact .inl h
 ·exact .inr ⟨b,off,e,zL hlt hs,fun j hj=>(zH (hb b (ha b off e))).trans (hz j hj)⟩
theorem Rd.kept {w w':World} {N W0 k:Nat} {a0:Option Addr} {ys:List Int} {row:Option Nat} (h:Rd w N W0 a0 ys k) (hg:w.grownBy w' row) (hr:∀ j,row=some j->W0<=j/\j≠N):Rd w' N W0 a0 ys k:=by
 have hN:=hg.block N h.lt (fun e=>(hr N e.symm).2 rfl);refine ⟨(zH hN).trans h.c0,fun j=>(zI hN).trans (h.fr j),h.ge,h.ap,h.sl.kept h.ap (fun b hb=>hg.block b (by have:=h.lt;have:=h.ge;omega) (fun e=>by have:=(hr b e.symm).1;omega)) hg.size,h.le⟩
theorem Rd.set {w:World} {N W0 k j:Nat} {a0:Option Addr} {ys:List Int} (h:Rd w N W0 a0 ys k) (hj:j<=(nmA ys).length) {z:Int} (hz:z=(psN (nmA ys) j:Nat)):Rd (w.setCell (aQ N 0) (iV z)) N W0 a0 ys j:=by
 have c0:=h.c0;have hlt:=h.lt;subst hz;refine ⟨by go_cell,fun j=>by simpa using h.fr j,h.ge,h.ap,h.sl.kept h.ap (fun b hb=>zO w ⟨N,0,none⟩ _ b (fun e=>by have:=h.ge;simp at e;omega)) (by simp),hj⟩
def rdK (ys:List Int) (k:Nat):Nat:=if k<(nmA ys).length then k+1 else k
def rdXp (ys:List Int) (k:Nat):Value:=if k<(nmA ys).length then .tuple #[iV (zi (nmA ys) k),.bool true] else .tuple #[iV 0,.bool false]
theorem Rd.drew {w:World} {N W0 k:Nat} {a0:Option Addr} {ys:List Int} (h:Rd w N W0 a0 ys k):Rd w.drew N W0 a0 ys k:=⟨h.c0,h.fr,h.ge,h.ap,h.sl,h.le⟩
theorem qkb (a0:Option Addr) (cap N W0 k:Nat) (ys:List Int) (w:World) (hlen:ys.length<=1048576) (hcap:ys.length<=cap) (hb:By ys) (h:Rd w N W0 a0 ys k):
  Calls prog 55 #[.agg #[.slice a0 ys.length cap,.pointer (some (aQ N 0))]] w fun e w'=>e=.returned (rdXp ys k)/\Rd w' N W0 a0 ys (rdK ys k)/\w.grownBy w' (some N):=by
 have HR:Hid (Rd w N W0 a0 ys k):=h;have B0:Hid (Bw w (w.alloc (.cells #[.slice a0 ys.length cap,.pointer (some (aQ N 0))] 57))/\(w.alloc (.cells #[.slice a0 ys.length cap,.pointer (some (aQ N 0))] 57)).cell? (aQ w.heap.size 0)=some (.slice a0 ys.length cap)/\(w.alloc (.cells #[.slice a0 ys.length cap,.pointer (some (aQ N 0))] 57)).cell? (aQ w.heap.size 1)=some (.pointer (some (aQ N 0)))):=⟨zT _ _,zW _ _ _ 0 rfl,zW _ _ _ 1 rfl⟩
 have hN:N<w.heap.size:=h.lt;clear h;by_cases hk:k<(nmA ys).length
 ·skip
  have HG:Hid (∀ wx,Rd wx N W0 a0 ys k->Calls prog 92 #[.slice a0 ys.length cap,iV (psN (nmA ys) k:Nat)] wx (rB wx (.tuple #[iV (zi (nmA ys) k),iV ((psN (nmA ys) (k+1):Nat):Int),.bool true]))):=fun wx hx=>by
   have h1:=qe4 a0 cap ys (psN (nmA ys) k:Nat) wx hlen hcap hx.sl hb;rw [qu4 hb hx.le,nC hk] at h1;exact h1
  have HK:Hid (rdK ys k=k+1/\rdXp ys k=.tuple #[iV (zi (nmA ys) k),.bool true]/\k+1<=(nmA ys).length):=⟨nC hk,nC hk,hk⟩
  clear hk hb hlen hcap
  go_enter func55,ntmps55
  go_upto_region 1 with fail
  generalize w.alloc (.cells #[.slice a0 ys.length cap,.pointer (some (aQ N 0))] 57)=wA at *;refine qag (fun w'=>w'.cell? (aQ w.heap.size 0)=some (.slice a0 ys.length cap)/\w'.cell? (aQ w.heap.size 1)=some (.pointer (some (aQ N 0)))/\w'.cell? (aQ N 0)=some (iV (psN (nmA ys) k:Nat))) (fun _=>false) (by kernel_rfl) ?_;have R0:Hid (Rd wA.drew N W0 a0 ys k/\Bw w wA.drew):=⟨(HR.bw B0.1).drew,B0.1.drew⟩
  have hHeld:(fun w':World=>w'.cell? (aQ w.heap.size 0)=some (.slice a0 ys.length cap)/\w'.cell? (aQ w.heap.size 1)=some (.pointer (some (aQ N 0)))/\w'.cell? (aQ N 0)=some (iV (psN (nmA ys) k:Nat))) wA.drew:=⟨B0.2.1,B0.2.2,R0.1.c0⟩
  have C0:Hid (wA.drew.cell? (aQ w.heap.size 0)=some (.slice a0 ys.length cap)/\wA.drew.cell? (aQ w.heap.size 1)=some (.pointer (some (aQ N 0)))):=B0.2;clear B0;generalize wA.drew=w0 at *;refine qar 0 rfl hHeld ?_;refine qar 1 rfl hHeld ?_;refine qar 2 rfl hHeld ?_;refine qar 3 rfl hHeld ?_;refine qar 4 rfl hHeld ?_;refine qar 5 rfl hHeld ?_;clear hHeld;refine yW 6 rfl fun K hK=>?_;refine qc0 rfl 92 _ _ rfl #[.slice a0 ys.length cap,iV (psN (nmA ys) k:Nat)] (by simp [Act.eval]) (yA func92) (HG.out w0 R0.1) ?_;rintro e w1 ⟨rfl,b1⟩;have R1:Hid (Rd w1 N W0 a0 ys k/\w.grownBy w1 (some N)/\w1.cell? (aQ w.heap.size 0)=some (.slice a0 ys.length cap)/\w1.cell? (aQ w.heap.size 1)=some (.pointer (some (aQ N 0)))):=⟨R0.1.bw b1,((World.grownBy.refl w (some N)).andThen (zZ R0.2) (fun j hj=>by cases hj)).andThen (zZ b1) (fun j hj=>by cases hj),(b1.cell (p:=(aQ w.heap.size 0)) (zJ w0 _ C0.1)).trans C0.1,(b1.cell (p:=(aQ w.heap.size 1)) (zJ w0 _ C0.2)).trans C0.2⟩
  refine ⟨_,rfl,?_⟩;refine hK.out _ _ (fun _=>⟨R1.2.2.1,R1.2.2.2,R1.1.c0⟩) ?_;clear hK K b1 HG HR R0 C0
  (try simp only [Act.put,zD,zE,zF])
  have hHeld:(fun w':World=>w'.cell? (aQ w.heap.size 0)=some (.slice a0 ys.length cap)/\w'.cell? (aQ w.heap.size 1)=some (.pointer (some (aQ N 0)))/\w'.cell? (aQ N 0)=some (iV (psN (nmA ys) k:Nat))) w1:=⟨R1.2.2.1,R1.2.2.2,R1.1.c0⟩
  refine qar 7 rfl hHeld ?_;refine qar 8 rfl hHeld ?_;refine qar 9 rfl hHeld ?_;refine qar 10 rfl hHeld ?_;refine qar 11 rfl hHeld ?_;refine qar 12 rfl hHeld ?_;refine qar 13 rfl hHeld ?_;refine yX ?_ _;obtain ⟨-,c1,c2⟩:=hHeld;have f0:=R1.1.fr 0;go_wp2;exact bodyPost_ret (v:=.tuple #[iV (zi (nmA ys) k),.bool true]) (by simp [results,results55,go_sem]) rfl ⟨by rw [HK.2.1],by rw [HK.1];exact R1.1.set HK.2.2 rfl,zV (p:=⟨N,0,none⟩) R1.2.1 (.inl rfl) _⟩
 ·skip
  have HG:Hid (∀ wx,Rd wx N W0 a0 ys k->Calls prog 92 #[.slice a0 ys.length cap,iV (psN (nmA ys) k:Nat)] wx (rB wx (.tuple #[iV 0,iV 0,.bool false]))):=fun wx hx=>by
   have h1:=qe4 a0 cap ys (psN (nmA ys) k:Nat) wx hlen hcap hx.sl hb;rw [qu4 hb hx.le,nB hk] at h1;exact h1
  have HK:Hid (rdK ys k=k/\rdXp ys k=.tuple #[iV 0,.bool false]):=⟨nB hk,nB hk⟩
  clear hk hb hlen hcap
  go_enter func55,ntmps55
  go_upto_region 1 with fail
  generalize w.alloc (.cells #[.slice a0 ys.length cap,.pointer (some (aQ N 0))] 57)=wA at *;refine qag (fun w'=>w'.cell? (aQ w.heap.size 0)=some (.slice a0 ys.length cap)/\w'.cell? (aQ w.heap.size 1)=some (.pointer (some (aQ N 0)))/\w'.cell? (aQ N 0)=some (iV (psN (nmA ys) k:Nat))) (fun _=>false) (by kernel_rfl) ?_;have R0:Hid (Rd wA.drew N W0 a0 ys k/\Bw w wA.drew):=⟨(HR.bw B0.1).drew,B0.1.drew⟩
  have hHeld:(fun w':World=>w'.cell? (aQ w.heap.size 0)=some (.slice a0 ys.length cap)/\w'.cell? (aQ w.heap.size 1)=some (.pointer (some (aQ N 0)))/\w'.cell? (aQ N 0)=some (iV (psN (nmA ys) k:Nat))) wA.drew:=⟨B0.2.1,B0.2.2,R0.1.c0⟩
  have C0:Hid (wA.drew.cell? (aQ w.heap.size 0)=some (.slice a0 ys.length cap)/\wA.drew.cell? (aQ w.heap.size 1)=some (.pointer (some (aQ N 0)))):=B0.2;clear B0;generalize wA.drew=w0 at *;refine qar 0 rfl hHeld ?_;refine qar 1 rfl hHeld ?_;refine qar 2 rfl hHeld ?_;refine qar 3 rfl hHeld ?_;refine qar 4 rfl hHeld ?_;refine qar 5 rfl hHeld ?_;clear hHeld;refine yW 6 rfl fun K hK=>?_;refine qc0 rfl 92 _ _ rfl #[.slice a0 ys.length cap,iV (psN (nmA ys) k:Nat)] (by simp [Act.eval]) (yA func92) (HG.out w0 R0.1) ?_;rintro e w1 ⟨rfl,b1⟩;have R1:Hid (Rd w1 N W0 a0 ys k/\w.grownBy w1 (some N)/\w1.cell? (aQ w.heap.size 0)=some (.slice a0 ys.length cap)/\w1.cell? (aQ w.heap.size 1)=some (.pointer (some (aQ N 0)))):=⟨R0.1.bw b1,((World.grownBy.refl w (some N)).andThen (zZ R0.2) (fun j hj=>by cases hj)).andThen (zZ b1) (fun j hj=>by cases hj),(b1.cell (p:=(aQ w.heap.size 0)) (zJ w0 _ C0.1)).trans C0.1,(b1.cell (p:=(aQ w.heap.size 1)) (zJ w0 _ C0.2)).trans C0.2⟩
  refine ⟨_,rfl,?_⟩;refine hK.out _ _ (fun _=>⟨R1.2.2.1,R1.2.2.2,R1.1.c0⟩) ?_;clear hK K b1 HG HR R0 C0
  (try simp only [Act.put,zD,zE,zF])
  have hHeld:(fun w':World=>w'.cell? (aQ w.heap.size 0)=some (.slice a0 ys.length cap)/\w'.cell? (aQ w.heap.size 1)=some (.pointer (some (aQ N 0)))/\w'.cell? (aQ N 0)=some (iV (psN (nmA ys) k:Nat))) w1:=⟨R1.2.2.1,R1.2.2.2,R1.1.c0⟩
  refine qar 7 rfl hHeld ?_;refine qar 8 rfl hHeld ?_;refine qar 9 rfl hHeld ?_;refine qar 10 rfl hHeld ?_;refine qar 11 rfl hHeld ?_;refine qar 12 rfl hHeld ?_;refine qar 13 rfl hHeld ?_;refine yX ?_ _;obtain ⟨-,c1,c2⟩:=hHeld;go_wp2;exact bodyPost_ret (v:=.tuple #[iV 0,.bool false]) (by simp [results,results55,go_sem]) rfl ⟨by rw [HK.2],by rw [HK.1];exact R1.1,R1.2.1⟩
def itN (N:List Int) (k:Nat) (i:Nat):I5:=⟨zi N (k+5*i),zi N (k+5*i+1),zi N (k+5*i+2),zi N (k+5*i+3),zi N (k+5*i+4)⟩
def evN (N:List Int) (k:Nat) (i:Nat):E3:=⟨zi N (k+3*i),zi N (k+3*i+1),zi N (k+3*i+2)⟩
theorem qca (N:List Int) (a:Nat) (h:a<N.length):N.take (a+1)=N.take a ++ [zi N a]:=by
 rw [List.take_succ_eq_append_getElem h]
 congr 2
 unfold zi;rw [List.getD_eq_getElem?_getD,List.getElem?_eq_getElem h];rfl
theorem qk1 (N:List Int) (k:Nat):∀ n,k+5*n<=N.length->N.take (k+5*n)=N.take k ++ pkI (itN N k) n
 | 0,_=>by simp [pkI]
 | n+1,h=>by
  rw [show k+5*(n+1)=k+5*n+1+1+1+1+1 by omega,qca N _ (by omega),qca N _ (by omega),qca N _ (by omega),qca N _ (by omega),qca N _ (by omega),qk1 N k n (by omega),pkI];simp [itN]
theorem qk0 (N:List Int) (k:Nat):∀ n,k+3*n<=N.length->N.take (k+3*n)=N.take k ++ pkE (evN N k) n
 | 0,_=>by simp [pkE]
 | n+1,h=>by
  rw [show k+3*(n+1)=k+3*n+1+1+1 by omega,qca N _ (by omega),qca N _ (by omega),qca N _ (by omega),qk0 N k n (by omega),pkE];simp [evN]
def ctN (N:List Int) (k:Nat):Nat:=(zi N k).toNat
def lsK (N:List Int) (w most k:Nat):Option Nat:=if k<N.length/\0<=zi N k/\zi N k<=most/\k+1+w*ctN N k<=N.length then some (k+1+w*ctN N k) else none
def prK (N:List Int):Nat->Option Nat
 | 0=>some 1
 | p+1=>(prK N p).bind fun k=>(lsK N 5 30 k).bind (lsK N 3 200)
theorem qcq {N:List Int} {w most k j:Nat} (h:lsK N w most k=some j):k<N.length/\zi N k=(ctN N k:Nat)/\ctN N k<=most/\j=k+1+w*ctN N k/\j<=N.length:=by
 unfold lsK at h
 split at h
 ·rename_i hc
  obtain ⟨h1,h2,h3,h4⟩:=hc;simp only [nG] at h;unfold ctN at *;exact ⟨h1,by omega,by omega,h.symm,by omega⟩
 ·cases h
def kP (N:List Int) (p:Nat):Nat:=(prK N p).getD 0
def hP (N:List Int) (p:Nat):Nat:=kP N p+1+5*ctN N (kP N p)
theorem qmi {N:List Int} {p:Nat} (h:(prK N (p+1)).isSome=true):(prK N p).isSome=true/\lsK N 5 30 (kP N p)=some (hP N p)/\lsK N 3 200 (hP N p)=some (kP N (p+1)):=by
 unfold kP hP kP;rw [prK] at h ⊢;cases hp:prK N p with
 | none=>rw [hp] at h;cases h
 | some k=>
  rw [hp] at h;simp only [Option.bind_some,Option.isSome_some,Option.getD_some] at h ⊢;cases h1:lsK N 5 30 k with
  | none=>rw [h1] at h;cases h
  | some j=>
   rw [h1] at h;simp only [Option.bind_some] at h ⊢;obtain ⟨-,-,-,e,-⟩:=qcq h1;rw [<- e];cases h2:lsK N 3 200 j with
   | none=>rw [h2] at h;cases h
   | some i=>simp
theorem qhv {N:List Int}:∀ {n:Nat},(prK N n).isSome=true->∀ p,p<n->lsK N 5 30 (kP N p)=some (hP N p)/\lsK N 3 200 (hP N p)=some (kP N (p+1))
 | 0,_,_,hp=>by omega
 | n+1,h,p,hp=>by
  obtain ⟨h1,h2,h3⟩:=qmi h
  rcases Nat.lt_succ_iff_lt_or_eq.1 hp with hlt | rfl
  ·exact qhv h1 p hlt
  ·exact ⟨h2,h3⟩
theorem qk2 {N:List Int} {y:Sy} (h0:0<N.length) (hn:zi N 0=(y.pn:Nat)):∀ n,(prK N n).isSome=true->(∀ p,p<n->y.pL p=ctN N (kP N p)/\y.pH p=itN N (kP N p+1)/\y.hL p=ctN N (hP N p)/\y.hH p=evN N (hP N p+1))->N.take (kP N n)=pkN y n
 | 0,_,_=>by
  have e:kP N 0=0+1:=rfl;rw [e,qca N 0 h0,hn];rfl
 | n+1,h,hy=>by
  obtain ⟨h1,h2,h3⟩:=qmi h;have ih:=qk2 h0 hn n h1 fun p hp=>hy p (by omega);obtain ⟨a1,a2,a3,a4⟩:=hy n (by omega);obtain ⟨b1,b2,b3,b4,b5⟩:=qcq h2;obtain ⟨c1,c2,c3,c4,c5⟩:=qcq h3;rw [c4,qk0 N (hP N n+1) _ (by omega),qca N _ c1,b4,qk1 N (kP N n+1) _ (by omega),qca N _ b1,ih,<- b4,pkN,pkP,a1,a2,a3,a4,b2,c2];simp
structure Gr2 (w w':World) (N X:Nat):Prop where
 os:w'.os=w.os
 tape:w'.tape=w.tape
 output:w'.output=w.output
 size:w.heap.size<=w'.heap.size
 block:∀ k,k<w.heap.size->k≠N->k≠X->w'.heap[k]? = w.heap[k]?
theorem Gr2.refl (w:World) (N X:Nat):Gr2 w w N X:=⟨rfl,rfl,rfl,nA _,fun _ _ _ _=>rfl⟩
theorem Gr2.of1 {w w1 w2:World} {N X:Nat} (h:Gr2 w w1 N X) (g:w1.grownBy w2 (some N)):Gr2 w w2 N X:=
 ⟨g.os.trans h.os,g.tape.trans h.tape,g.output.trans h.output,zP h.size g.size,fun k hk hn hx=>(g.block k (zL hk h.size) (by simpa using hn)).trans (h.block k hk hn hx)⟩
theorem Gr2.set {w w1:World} {N X:Nat} (h:Gr2 w w1 N X) (j:Nat) (v:Value):Gr2 w (w1.setCell (aQ X j) v) N X:=
 ⟨h.os,h.tape,h.output,by simpa using h.size,fun k hk hn hx=>(zO w1 ⟨X,j,none⟩ v k (by simpa using hx)).trans (h.block k hk hn hx)⟩
structure FlJ (w wr:World) (N X W0 m k j:Nat) (a0:Option Addr) (ys:List Int):Prop where
 rd:Rd wr N W0 a0 ys (k+j)
 cs:∀ i,i<j->wr.cell? ⟨X,i,none⟩=some (iV (zi (nmA ys) (k+i)))
 cr:∀ i,i<m->∃ v:Int,wr.cell? ⟨X,i,none⟩=some (iV v)
 fr:∀ i,wr.frozen? ⟨X,i,none⟩=false
 gr:Gr2 w wr N X
theorem FlJ.num {w wr w1:World} {N X W0 m k j:Nat} {a0:Option Addr} {ys:List Int} (h:FlJ w wr N X W0 m k j a0 ys) (hne:X≠N) (hX:X<w.heap.size) (g:wr.grownBy w1 (some N)) (hr:Rd w1 N W0 a0 ys (rdK ys (k+j))) (hk:k+j<(nmA ys).length) (hj:j<m) (h0:W0<=X):FlJ w (w1.setCell (aQ X j) (iV (zi (nmA ys) (k+j)))) N X W0 m k (j+1) a0 ys:=by
 have hb:=g.block X (zL hX h.gr.size) (by simpa using hne);have c:∀ i,w1.cell? ⟨X,i,none⟩=wr.cell? ⟨X,i,none⟩:=fun i=>zH hb;have e:rdK ys (k+j)=k+(j+1):=nC hk;obtain ⟨v0,hv0⟩:=h.cr j hj;have hv1:=(c j).trans hv0;refine ⟨?_,fun i hi=>?_,fun i hi=>?_,fun i=>by simpa using (zI hb).trans (h.fr i),(h.gr.of1 g).set j _⟩
 ·rw [e] at hr
  exact hr.kept (row:=some X) (zV (p:=(aQ X j)) (World.grownBy.refl _ _) (.inl rfl) _) (fun b hb=>by cases hb;exact ⟨h0,hne⟩)
 ·by_cases hij:i=j
  ·subst hij
   go_cell
  ·rw [World.cell?_setCell_other _ _ _ _ (fun e=>hij (by simpa using e.symm))]
   exact (c i).trans (h.cs i (by omega))
 ·by_cases hij:i=j
  ·subst hij
   exact ⟨_,World.cell?_setCell_same _ _ _ hv1⟩
  ·obtain ⟨v,hv⟩:=h.cr i hi
   refine ⟨v,?_⟩;rw [World.cell?_setCell_other _ _ _ _ (fun e=>hij (by simpa using e.symm))];exact (c i).trans hv
def FlB (wr:World) (M S X m N cap:Nat) (a0:Option Addr) (n:Nat):Prop:=wr.cell? ⟨M,0,none⟩=some (.slice a0 n cap)/\wr.cell? ⟨M,1,none⟩=some (.pointer (some ⟨N,0,none⟩))/\∀ i,i<m->wr.cell? ⟨S,i,none⟩=some (.pointer (some ⟨X,i,none⟩))
theorem FlB.kept {wr w':World} {M S X m N cap n:Nat} {a0:Option Addr} (h:FlB wr M S X m N cap a0 n) (hM:w'.heap[M]? = wr.heap[M]?) (hS:w'.heap[S]? = wr.heap[S]?):FlB w' M S X m N cap a0 n:=⟨(zH hM).trans h.1,(zH hM).trans h.2.1,fun i hi=>(zH hS).trans (h.2.2 i hi)⟩
theorem qo5 (a0:Option Addr) (cap N W0 S X m k:Nat) (ys:List Int) (w:World) (hlen:ys.length<=1048576) (hcap:ys.length<=cap) (hb:By ys) (h:Rd w N W0 a0 ys k) (hX0:W0<=X) (hne:X≠N) (hX:X<w.heap.size) (hS:S<w.heap.size) (hSX:S≠X) (hSN:S≠N) (hm:m<=5)
  (hp:∀ i,i<m->w.cell? ⟨S,i,none⟩=some (.pointer (some ⟨X,i,none⟩))) (hc:∀ i,i<m->∃ v:Int,w.cell? ⟨X,i,none⟩=some (iV v)) (hf:∀ i,w.frozen? ⟨X,i,none⟩=false):
  Calls prog 114 #[.agg #[.slice a0 ys.length cap,.pointer (some (aQ N 0))],.slice (some (aQ S 0)) m m] w fun e w'=>∃ j,e=.returned (.bool (decide (k+m<=(nmA ys).length)))/\FlJ w w' N X W0 m k j a0 ys/\(k+m<=(nmA ys).length->j=m):=by
 have HN:Hid (∀ wx k',Rd wx N W0 a0 ys k'->Calls prog 55 #[.agg #[.slice a0 ys.length cap,.pointer (some ⟨N,0,none⟩)]] wx fun e w'=>e=.returned (rdXp ys k')/\Rd w' N W0 a0 ys (rdK ys k')/\wx.grownBy w' (some N)):=fun wx k' hx=>qkb a0 cap N W0 k' ys wx hlen hcap hb hx;have HM:Hid (N<w.heap.size):=h.lt
 have A0:Hid (FlJ w (w.alloc (.cells #[.slice a0 ys.length cap,.pointer (some (aQ N 0))] 57)) N X W0 m k 0 a0 ys/\FlB (w.alloc (.cells #[.slice a0 ys.length cap,.pointer (some (aQ N 0))] 57)) w.heap.size S X m N cap a0 ys.length):=by
  have b:=zT w (.cells #[.slice a0 ys.length cap,.pointer (some (aQ N 0))] 57);refine ⟨⟨h.bw b,fun i hi=>by omega,fun i hi=>?_,fun i=>(zI (b.block X hX)).trans (hf i),⟨b.os,b.tape,b.output,b.size,fun k hk _ _=>b.block k hk⟩⟩,zW _ _ _ 0 rfl,zW _ _ _ 1 rfl,fun i hi=>(zH (b.block S hS)).trans (hp i hi)⟩;obtain ⟨v,hv⟩:=hc i hi;exact ⟨v,(zH (b.block X hX)).trans hv⟩
 clear hlen hcap hb h hp hc hf;have hm':(m:Int)<=5:=by omega
 go_enter func114,ntmps114
 go_wp2_with fail
 generalize w.alloc (.cells #[.slice a0 ys.length cap,.pointer (some (aQ N 0))] 57)=wA at *
 go_loopw [11] (fun i wr=>∃ j:Nat,j<=m/\i=.int .i64 (j:Int)/\Hid (FlJ w wr N X W0 m k j a0 ys/\FlB wr w.heap.size S X m N cap a0 ys.length/\w.heap.size<wr.heap.size)) (fun i _=>m - (intOf i).toNat)
 case atStart=>exact ⟨0,nD _,rfl,A0.1,A0.2,zJ wA _ A0.2.1⟩
 case round=>
  clear A0;obtain ⟨j,hj,rfl,HR⟩:=hrel;by_cases hlt:j<m
  ·have hlt':(j:Int)<(m:Int):=by omega
   obtain ⟨b0,b1,hp⟩:=HR.2.1;have p0:=hp j hlt;clear hp;go_wp2_with fail
   clear b0 b1 p0;refine (HN.out wr (k+j) HR.1.rd).mono ?_;rintro e w1 ⟨rfl,r1,g1⟩;have hM:=HM.out;by_cases hk:k+j<(nmA ys).length
   ·have F1:Hid (FlJ w (w1.setCell (aQ X j) (iV (zi (nmA ys) (k+j)))) N X W0 m k (j+1) a0 ys):=HR.1.num hne hX g1 r1 hk hlt hX0
    have hbX:=g1.block X (zL hX HR.1.gr.size) (by simpa using hne);have B1:Hid (FlB (w1.setCell (aQ X j) (iV (zi (nmA ys) (k+j)))) w.heap.size S X m N cap a0 ys.length/\w.heap.size<(w1.setCell (aQ X j) (iV (zi (nmA ys) (k+j)))).heap.size):=⟨HR.2.1.kept ((zO w1 ⟨X,j,none⟩ _ _ (by simp;omega)).trans (g1.block _ HR.2.2 (by simp;omega))) ((zO w1 ⟨X,j,none⟩ _ _ (by simpa using hSX)).trans (g1.block _ (by have:=HR.2.2;omega) (by simpa using hSN))),by have:=g1.size;have:=HR.2.2;simp;omega⟩
    obtain ⟨v0,hv0⟩:=HR.1.cr j hlt;have c0:w1.cell? (aQ X j)=some (iV v0):=(zH hbX).trans hv0;have f0:w1.frozen? (aQ X j)=false:=(zI hbX).trans (HR.1.fr j);rw [show rdXp ys (k+j)=.tuple #[iV (zi (nmA ys) (k+j)),.bool true] from nC hk];clear hk r1 g1 hbX hv0 HR;go_wp2;go_roundw
    case rel=>exact ⟨j+1,by omega,by go_num,F1.out,B1.out⟩
    case measure=>simp [intOf];omega
   ·rw [show rdXp ys (k+j)=.tuple #[iV 0,.bool false] from nB hk]
    have F1:Hid (FlJ w w1 N X W0 m k j a0 ys):=by
     have hbX:=g1.block X (zL hX HR.1.gr.size) (by simpa using hne);have e:rdK ys (k+j)=k+j:=nB hk;rw [e] at r1;exact ⟨r1,fun i hi=>(zH hbX).trans (HR.1.cs i hi),fun i hi=>(HR.1.cr i hi).imp fun v hv=>(zH hbX).trans hv,fun i=>(zI hbX).trans (HR.1.fr i),HR.1.gr.of1 g1⟩
    have HD:Hid (¬ k+m<=(nmA ys).length):=by show ¬ _;omega
    clear hk r1 g1 HR;go_wp2;exact bodyPost_ret (v:=.bool false) (by simp [results,results114,go_sem]) rfl ⟨j,by rw [decide_eq_false HD.out],F1.out,fun hh=>absurd hh HD.out⟩
  ·obtain rfl:j=m:=by omega
   have hlt':¬ ((j:Int)<(j:Int)):=by omega
   have HD:Hid (k+j<=(nmA ys).length):=HR.1.rd.le;go_wp2;exact bodyPost_ret (v:=.bool true) (by simp [results,results114,go_sem]) rfl ⟨by rw [decide_eq_true HD.out],j,HR.1,fun _=>rfl⟩
theorem Gr2.row {w w1 w2:World} {N X:Nat} (hb:Bw w w1) (h:Gr2 w1 w2 N X) (hX:w.heap.size<=X):w.grownBy w2 (some N):=
 ⟨h.os.trans hb.os,h.tape.trans hb.tape,h.output.trans hb.output,zP hb.size h.size,fun k hk hn=>(h.block k (zL hk hb.size) (by simpa using hn) (by omega)).trans (hb.block k hk)⟩
def RiP (w:World) (N W0:Nat) (a0:Option Addr) (ys:List Int) (k:Nat) (e:Ending) (w':World):Prop:=∃ (v0 v1 v2 v3 v4:Int) (j:Nat),e=.returned (.tuple #[.agg #[iV v0,iV v1,iV v2,iV v3,iV v4],.bool (decide (k+5<=(nmA ys).length))])/\Rd w' N W0 a0 ys (k+j)/\(k+5<=(nmA ys).length->j=5/\v0=zi (nmA ys) k/\v1=zi (nmA ys) (k+1)/\v2=zi (nmA ys) (k+2)/\v3=zi (nmA ys) (k+3)/\v4=zi (nmA ys) (k+4))/\w.grownBy w' (some N)
theorem qon (a0:Option Addr) (cap N W0 k:Nat) (ys:List Int) (w:World) (hlen:ys.length<=1048576) (hcap:ys.length<=cap) (hb:By ys) (h:Rd w N W0 a0 ys k):
  Calls prog 94 #[.agg #[.slice a0 ys.length cap,.pointer (some (aQ N 0))]] w (RiP w N W0 a0 ys k):=by
 have HF:Hid (∀ wx S X,Rd wx N W0 a0 ys k->W0<=X->X≠N->X<wx.heap.size->S<wx.heap.size->S≠X->S≠N->(∀ i,i<5->wx.cell? ⟨S,i,none⟩=some (.pointer (some ⟨X,i,none⟩)))->(∀ i,i<5->∃ v:Int,wx.cell? ⟨X,i,none⟩=some (iV v))->(∀ i,wx.frozen? ⟨X,i,none⟩=false)->Calls prog 114 #[.agg #[.slice a0 ys.length cap,.pointer (some ⟨N,0,none⟩)],.slice (some ⟨S,0,none⟩) 5 5] wx fun e w'=>∃ j,e=.returned (.bool (decide (k+5<=(nmA ys).length)))/\FlJ wx w' N X W0 5 k j a0 ys/\(k+5<=(nmA ys).length->j=5)):=fun wx S X h1 h2 h3 h4 h5 h6 h7 h8 h9 h10=>qo5 a0 cap N W0 S X 5 k ys wx hlen hcap hb h1 h2 h3 h4 h5 h6 h7 (by omega) h8 h9 h10;have HN:Hid (N<w.heap.size/\W0<=N):=⟨h.lt,h.ge⟩
 have A0:Hid (Rd ((((w.alloc (.cells #[.slice a0 ys.length cap,.pointer (some ⟨N,0,none⟩)] 57)).alloc (zQ2)).alloc (zQ2)).alloc (.cells #[.pointer (some ⟨w.heap.size+1+1,0,none⟩),.pointer (some ⟨w.heap.size+1+1,1,none⟩),.pointer (some ⟨w.heap.size+1+1,2,none⟩),.pointer (some ⟨w.heap.size+1+1,3,none⟩),.pointer (some ⟨w.heap.size+1+1,4,none⟩)] 55)) N W0 a0 ys k/\(∀ i,i<5->((((w.alloc (.cells #[.slice a0 ys.length cap,.pointer (some ⟨N,0,none⟩)] 57)).alloc (zQ2)).alloc (zQ2)).alloc (.cells #[.pointer (some ⟨w.heap.size+1+1,0,none⟩),.pointer (some ⟨w.heap.size+1+1,1,none⟩),.pointer (some ⟨w.heap.size+1+1,2,none⟩),.pointer (some ⟨w.heap.size+1+1,3,none⟩),.pointer (some ⟨w.heap.size+1+1,4,none⟩)] 55)).cell? ⟨w.heap.size+1+1+1,i,none⟩=some (.pointer (some ⟨w.heap.size+1+1,i,none⟩)))/\(∀ i,i<5->((((w.alloc (.cells #[.slice a0 ys.length cap,.pointer (some ⟨N,0,none⟩)] 57)).alloc (zQ2)).alloc (zQ2)).alloc (.cells #[.pointer (some ⟨w.heap.size+1+1,0,none⟩),.pointer (some ⟨w.heap.size+1+1,1,none⟩),.pointer (some ⟨w.heap.size+1+1,2,none⟩),.pointer (some ⟨w.heap.size+1+1,3,none⟩),.pointer (some ⟨w.heap.size+1+1,4,none⟩)] 55)).cell? ⟨w.heap.size+1+1,i,none⟩=some (iV 0))/\(∀ i,((((w.alloc (.cells #[.slice a0 ys.length cap,.pointer (some ⟨N,0,none⟩)] 57)).alloc (zQ2)).alloc (zQ2)).alloc (.cells #[.pointer (some ⟨w.heap.size+1+1,0,none⟩),.pointer (some ⟨w.heap.size+1+1,1,none⟩),.pointer (some ⟨w.heap.size+1+1,2,none⟩),.pointer (some ⟨w.heap.size+1+1,3,none⟩),.pointer (some ⟨w.heap.size+1+1,4,none⟩)] 55)).frozen? ⟨w.heap.size+1+1,i,none⟩=false)/\(∀ i,i<5->((((w.alloc (.cells #[.slice a0 ys.length cap,.pointer (some ⟨N,0,none⟩)] 57)).alloc (zQ2)).alloc (zQ2)).alloc (.cells #[.pointer (some ⟨w.heap.size+1+1,0,none⟩),.pointer (some ⟨w.heap.size+1+1,1,none⟩),.pointer (some ⟨w.heap.size+1+1,2,none⟩),.pointer (some ⟨w.heap.size+1+1,3,none⟩),.pointer (some ⟨w.heap.size+1+1,4,none⟩)] 55)).cell? ⟨w.heap.size+1,i,none⟩=some (iV 0))/\(∀ i,((((w.alloc (.cells #[.slice a0 ys.length cap,.pointer (some ⟨N,0,none⟩)] 57)).alloc (zQ2)).alloc (zQ2)).alloc (.cells #[.pointer (some ⟨w.heap.size+1+1,0,none⟩),.pointer (some ⟨w.heap.size+1+1,1,none⟩),.pointer (some ⟨w.heap.size+1+1,2,none⟩),.pointer (some ⟨w.heap.size+1+1,3,none⟩),.pointer (some ⟨w.heap.size+1+1,4,none⟩)] 55)).frozen? ⟨w.heap.size+1,i,none⟩=false)/\((((w.alloc (.cells #[.slice a0 ys.length cap,.pointer (some ⟨N,0,none⟩)] 57)).alloc (zQ2)).alloc (zQ2)).alloc (.cells #[.pointer (some ⟨w.heap.size+1+1,0,none⟩),.pointer (some ⟨w.heap.size+1+1,1,none⟩),.pointer (some ⟨w.heap.size+1+1,2,none⟩),.pointer (some ⟨w.heap.size+1+1,3,none⟩),.pointer (some ⟨w.heap.size+1+1,4,none⟩)] 55)).heap.size=w.heap.size+1+1+1+1/\Bw w ((((w.alloc (.cells #[.slice a0 ys.length cap,.pointer (some ⟨N,0,none⟩)] 57)).alloc (zQ2)).alloc (zQ2)).alloc (.cells #[.pointer (some ⟨w.heap.size+1+1,0,none⟩),.pointer (some ⟨w.heap.size+1+1,1,none⟩),.pointer (some ⟨w.heap.size+1+1,2,none⟩),.pointer (some ⟨w.heap.size+1+1,3,none⟩),.pointer (some ⟨w.heap.size+1+1,4,none⟩)] 55))):=by
  have b1:=zT w (.cells #[.slice a0 ys.length cap,.pointer (some (aQ N 0))] 57);have s1:(w.alloc (.cells #[.slice a0 ys.length cap,.pointer (some (aQ N 0))] 57)).heap.size=w.heap.size+1:=by simp
  generalize hw1:w.alloc (.cells #[.slice a0 ys.length cap,.pointer (some (aQ N 0))] 57)=w1 at *;have b2:=zT w1 (zQ2);have s2:(w1.alloc (zQ2)).heap.size=w.heap.size+1+1:=by simp [s1]
  have c2:∀ i,i<5->(w1.alloc (zQ2)).cell? ⟨w.heap.size+1,i,none⟩=some (iV 0):=fun i hi=>by
   rw [<- s1]
   match i,hi with
   | 0,_=>exact zW _ _ _ 0 rfl
   | 1,_=>exact zW _ _ _ 1 rfl
   | 2,_=>exact zW _ _ _ 2 rfl
   | 3,_=>exact zW _ _ _ 3 rfl
   | 4,_=>exact zW _ _ _ 4 rfl
  have f2:∀ i,(w1.alloc (zQ2)).frozen? ⟨w.heap.size+1,i,none⟩=false:=fun i=>by
   rw [<- s1];exact yB _ _ _ _ rfl
  generalize hw2:w1.alloc (zQ2)=w2 at *;have b3:=zT w2 (zQ2);have s3:(w2.alloc (zQ2)).heap.size=w.heap.size+1+1+1:=by simp [s2]
  have c3:∀ i,i<5->(w2.alloc (zQ2)).cell? ⟨w.heap.size+1+1,i,none⟩=some (iV 0):=fun i hi=>by
   rw [<- s2]
   match i,hi with
   | 0,_=>exact zW _ _ _ 0 rfl
   | 1,_=>exact zW _ _ _ 1 rfl
   | 2,_=>exact zW _ _ _ 2 rfl
   | 3,_=>exact zW _ _ _ 3 rfl
   | 4,_=>exact zW _ _ _ 4 rfl
  have f3:∀ i,(w2.alloc (zQ2)).frozen? ⟨w.heap.size+1+1,i,none⟩=false:=fun i=>by
   rw [<- s2];exact yB _ _ _ _ rfl
  generalize hw3:w2.alloc (zQ2)=w3 at *;have b4:=zT w3 (.cells #[.pointer (some ⟨w.heap.size+1+1,0,none⟩),.pointer (some ⟨w.heap.size+1+1,1,none⟩),.pointer (some ⟨w.heap.size+1+1,2,none⟩),.pointer (some ⟨w.heap.size+1+1,3,none⟩),.pointer (some ⟨w.heap.size+1+1,4,none⟩)] 55);have s4:(w3.alloc (.cells #[.pointer (some ⟨w.heap.size+1+1,0,none⟩),.pointer (some ⟨w.heap.size+1+1,1,none⟩),.pointer (some ⟨w.heap.size+1+1,2,none⟩),.pointer (some ⟨w.heap.size+1+1,3,none⟩),.pointer (some ⟨w.heap.size+1+1,4,none⟩)] 55)).heap.size=w.heap.size+1+1+1+1:=by simp [s3]
  have c4:∀ i,i<5->(w3.alloc (.cells #[.pointer (some ⟨w.heap.size+1+1,0,none⟩),.pointer (some ⟨w.heap.size+1+1,1,none⟩),.pointer (some ⟨w.heap.size+1+1,2,none⟩),.pointer (some ⟨w.heap.size+1+1,3,none⟩),.pointer (some ⟨w.heap.size+1+1,4,none⟩)] 55)).cell? ⟨w.heap.size+1+1+1,i,none⟩=some (.pointer (some ⟨w.heap.size+1+1,i,none⟩)):=fun i hi=>by
   rw [<- s3]
   match i,hi with
   | 0,_=>exact zW _ _ _ 0 rfl
   | 1,_=>exact zW _ _ _ 1 rfl
   | 2,_=>exact zW _ _ _ 2 rfl
   | 3,_=>exact zW _ _ _ 3 rfl
   | 4,_=>exact zW _ _ _ 4 rfl
  generalize w3.alloc (.cells #[.pointer (some ⟨w.heap.size+1+1,0,none⟩),.pointer (some ⟨w.heap.size+1+1,1,none⟩),.pointer (some ⟨w.heap.size+1+1,2,none⟩),.pointer (some ⟨w.heap.size+1+1,3,none⟩),.pointer (some ⟨w.heap.size+1+1,4,none⟩)] 55)=w4 at *;have b24:Bw w2 w4:=b3.trans (b4.mono b3.size);have b14:Bw w1 w4:=b2.trans (b24.mono b2.size);have b04:Bw w w4:=b1.trans (b14.mono b1.size);exact ⟨h.bw b04,c4,fun i hi=>(zH (b4.block (w.heap.size+1+1) (by omega))).trans (c3 i hi),fun i=>(zI (b4.block (w.heap.size+1+1) (by omega))).trans (f3 i),fun i hi=>(zH (b24.block (w.heap.size+1) (by omega))).trans (c2 i hi),fun i=>(zI (b24.block (w.heap.size+1) (by omega))).trans (f2 i),s4,b04⟩
 clear hlen hcap hb h
 go_enter func94,ntmps94
 go_upto_region 2 with fail
 go_wp2_with fail
 generalize (((w.alloc (.cells #[.slice a0 ys.length cap,.pointer (some (aQ N 0))] 57)).alloc (zQ2)).alloc (zQ2)).alloc (.cells #[.pointer (some ⟨w.heap.size+1+1,0,none⟩),.pointer (some ⟨w.heap.size+1+1,1,none⟩),.pointer (some ⟨w.heap.size+1+1,2,none⟩),.pointer (some ⟨w.heap.size+1+1,3,none⟩),.pointer (some ⟨w.heap.size+1+1,4,none⟩)] 55)=w4 at *;refine (HF.out w4 (w.heap.size+1+1+1) (w.heap.size+1+1) A0.1 (by have:=HN.out;omega) (by have:=HN.out;omega) (by have:=A0.2.2.2.2.2.2.1;omega) (by have:=A0.2.2.2.2.2.2.1;omega) (by omega) (by have:=HN.out;omega) A0.2.1 (fun i hi=>⟨_,A0.2.2.1 i hi⟩) A0.2.2.2.1).mono ?_;rintro e w5 ⟨j,rfl,F,hj⟩;obtain ⟨v0,x0⟩:=F.cr 0 (by omega);obtain ⟨v1,x1⟩:=F.cr 1 (by omega);obtain ⟨v2,x2⟩:=F.cr 2 (by omega);obtain ⟨v3,x3⟩:=F.cr 3 (by omega);obtain ⟨v4,x4⟩:=F.cr 4 (by omega)
 have E5:Hid (Rd w5 N W0 a0 ys (k+j)/\(k+5<=(nmA ys).length->j=5/\v0=zi (nmA ys) k/\v1=zi (nmA ys) (k+1)/\v2=zi (nmA ys) (k+2)/\v3=zi (nmA ys) (k+3)/\v4=zi (nmA ys) (k+4))/\w.grownBy w5 (some N)):=by
  refine ⟨F.rd,fun hh=>⟨hj hh,?_⟩,Gr2.row A0.2.2.2.2.2.2.2 F.gr (by omega)⟩;have e:=hj hh;subst e
  have q:∀ (i:Nat) (v:Int),i<5->w5.cell? ⟨w.heap.size+1+1,i,none⟩=some (iV v)->v=zi (nmA ys) (k+i):=fun i v hi hv=>by
   have h1:=F.cs i hi;rw [hv] at h1;simpa using h1
  exact ⟨q 0 v0 (by omega) x0,q 1 v1 (by omega) x1,q 2 v2 (by omega) x2,q 3 v3 (by omega) x3,q 4 v4 (by omega) x4⟩
 have hkb:w5.heap[w.heap.size+1]? = w4.heap[w.heap.size+1]?:=F.gr.block _ (by have:=A0.2.2.2.2.2.2.1;omega) (by have:=HN.out;omega) (by omega);have f0:∀ i,w5.frozen? ⟨w.heap.size+1,i,none⟩=false:=fun i=>(zI hkb).trans (A0.2.2.2.2.2.1 i);have d0:w5.cell? ⟨w.heap.size+1,0,none⟩=some (iV 0):=(zH hkb).trans (A0.2.2.2.2.1 0 (by omega));have z0:=f0 0;have d1:w5.cell? ⟨w.heap.size+1,1,none⟩=some (iV 0):=(zH hkb).trans (A0.2.2.2.2.1 1 (by omega));have z1:=f0 1;have d2:w5.cell? ⟨w.heap.size+1,2,none⟩=some (iV 0):=(zH hkb).trans (A0.2.2.2.2.1 2 (by omega));have z2:=f0 2;have d3:w5.cell? ⟨w.heap.size+1,3,none⟩=some (iV 0):=(zH hkb).trans (A0.2.2.2.2.1 3 (by omega));have z3:=f0 3;have d4:w5.cell? ⟨w.heap.size+1,4,none⟩=some (iV 0):=(zH hkb).trans (A0.2.2.2.2.1 4 (by omega));have z4:=f0 4;clear F hj hkb HF A0 f0
 have HE:Hid (Rd (((((w5.setCell ⟨w.heap.size+1,0,none⟩ (iV v0)).setCell ⟨w.heap.size+1,1,none⟩ (iV v1)).setCell ⟨w.heap.size+1,2,none⟩ (iV v2)).setCell ⟨w.heap.size+1,3,none⟩ (iV v3)).setCell ⟨w.heap.size+1,4,none⟩ (iV v4)) N W0 a0 ys (k+j)/\w.grownBy (((((w5.setCell ⟨w.heap.size+1,0,none⟩ (iV v0)).setCell ⟨w.heap.size+1,1,none⟩ (iV v1)).setCell ⟨w.heap.size+1,2,none⟩ (iV v2)).setCell ⟨w.heap.size+1,3,none⟩ (iV v3)).setCell ⟨w.heap.size+1,4,none⟩ (iV v4)) (some N)):=by
  have hM:=HN.out
  have g6:w5.grownBy (((((w5.setCell ⟨w.heap.size+1,0,none⟩ (iV v0)).setCell ⟨w.heap.size+1,1,none⟩ (iV v1)).setCell ⟨w.heap.size+1,2,none⟩ (iV v2)).setCell ⟨w.heap.size+1,3,none⟩ (iV v3)).setCell ⟨w.heap.size+1,4,none⟩ (iV v4)) (some (w.heap.size+1)):=by
   iterate 5 (refine zV ?_ (.inl rfl) _)
   exact World.grownBy.refl _ _
  exact ⟨E5.1.kept g6 (fun b hb=>by cases hb;omega),E5.2.2.andThen g6 (fun b hb=>by cases hb;exact .inl (by omega))⟩
 obtain ⟨D,hD⟩:∃ D,decide (k+5<=(nmA ys).length)=D:=⟨_,rfl⟩
 have HD:Hid (decide (k+5<=(nmA ys).length)=D):=hD;rw [hD];clear hD;go_wp2;exact bodyPost_ret (v:=.tuple #[.agg #[iV v0,iV v1,iV v2,iV v3,iV v4],.bool D]) (by simp [results,results94,go_sem,d0,d1,d2,d3,d4]) rfl ⟨v0,v1,v2,v3,v4,j,by rw [HD.out],HE.1,E5.2.1,HE.2⟩
def ReP (w:World) (N W0:Nat) (a0:Option Addr) (ys:List Int) (k:Nat) (e:Ending) (w':World):Prop:=∃ (v0 v1 v2:Int) (j:Nat),e=.returned (.tuple #[.agg #[iV v0,iV v1,iV v2],.bool (decide (k+3<=(nmA ys).length))])/\Rd w' N W0 a0 ys (k+j)/\(k+3<=(nmA ys).length->j=3/\v0=zi (nmA ys) k/\v1=zi (nmA ys) (k+1)/\v2=zi (nmA ys) (k+2))/\w.grownBy w' (some N)
theorem qkl (a0:Option Addr) (cap N W0 k:Nat) (ys:List Int) (w:World) (hlen:ys.length<=1048576) (hcap:ys.length<=cap) (hb:By ys) (h:Rd w N W0 a0 ys k):
  Calls prog 96 #[.agg #[.slice a0 ys.length cap,.pointer (some (aQ N 0))]] w (ReP w N W0 a0 ys k):=by
 have HF:Hid (∀ wx S X,Rd wx N W0 a0 ys k->W0<=X->X≠N->X<wx.heap.size->S<wx.heap.size->S≠X->S≠N->(∀ i,i<3->wx.cell? ⟨S,i,none⟩=some (.pointer (some ⟨X,i,none⟩)))->(∀ i,i<3->∃ v:Int,wx.cell? ⟨X,i,none⟩=some (iV v))->(∀ i,wx.frozen? ⟨X,i,none⟩=false)->Calls prog 114 #[.agg #[.slice a0 ys.length cap,.pointer (some ⟨N,0,none⟩)],.slice (some ⟨S,0,none⟩) 3 3] wx fun e w'=>∃ j,e=.returned (.bool (decide (k+3<=(nmA ys).length)))/\FlJ wx w' N X W0 3 k j a0 ys/\(k+3<=(nmA ys).length->j=3)):=fun wx S X h1 h2 h3 h4 h5 h6 h7 h8 h9 h10=>qo5 a0 cap N W0 S X 3 k ys wx hlen hcap hb h1 h2 h3 h4 h5 h6 h7 (by omega) h8 h9 h10;have HN:Hid (N<w.heap.size/\W0<=N):=⟨h.lt,h.ge⟩
 have A0:Hid (Rd ((((w.alloc (.cells #[.slice a0 ys.length cap,.pointer (some ⟨N,0,none⟩)] 57)).alloc (zQ6)).alloc (zQ6)).alloc (.cells #[.pointer (some ⟨w.heap.size+1+1,0,none⟩),.pointer (some ⟨w.heap.size+1+1,1,none⟩),.pointer (some ⟨w.heap.size+1+1,2,none⟩)] 55)) N W0 a0 ys k/\(∀ i,i<3->((((w.alloc (.cells #[.slice a0 ys.length cap,.pointer (some ⟨N,0,none⟩)] 57)).alloc (zQ6)).alloc (zQ6)).alloc (.cells #[.pointer (some ⟨w.heap.size+1+1,0,none⟩),.pointer (some ⟨w.heap.size+1+1,1,none⟩),.pointer (some ⟨w.heap.size+1+1,2,none⟩)] 55)).cell? ⟨w.heap.size+1+1+1,i,none⟩=some (.pointer (some ⟨w.heap.size+1+1,i,none⟩)))/\(∀ i,i<3->((((w.alloc (.cells #[.slice a0 ys.length cap,.pointer (some ⟨N,0,none⟩)] 57)).alloc (zQ6)).alloc (zQ6)).alloc (.cells #[.pointer (some ⟨w.heap.size+1+1,0,none⟩),.pointer (some ⟨w.heap.size+1+1,1,none⟩),.pointer (some ⟨w.heap.size+1+1,2,none⟩)] 55)).cell? ⟨w.heap.size+1+1,i,none⟩=some (iV 0))/\(∀ i,((((w.alloc (.cells #[.slice a0 ys.length cap,.pointer (some ⟨N,0,none⟩)] 57)).alloc (zQ6)).alloc (zQ6)).alloc (.cells #[.pointer (some ⟨w.heap.size+1+1,0,none⟩),.pointer (some ⟨w.heap.size+1+1,1,none⟩),.pointer (some ⟨w.heap.size+1+1,2,none⟩)] 55)).frozen? ⟨w.heap.size+1+1,i,none⟩=false)/\(∀ i,i<3->((((w.alloc (.cells #[.slice a0 ys.length cap,.pointer (some ⟨N,0,none⟩)] 57)).alloc (zQ6)).alloc (zQ6)).alloc (.cells #[.pointer (some ⟨w.heap.size+1+1,0,none⟩),.pointer (some ⟨w.heap.size+1+1,1,none⟩),.pointer (some ⟨w.heap.size+1+1,2,none⟩)] 55)).cell? ⟨w.heap.size+1,i,none⟩=some (iV 0))/\(∀ i,((((w.alloc (.cells #[.slice a0 ys.length cap,.pointer (some ⟨N,0,none⟩)] 57)).alloc (zQ6)).alloc (zQ6)).alloc (.cells #[.pointer (some ⟨w.heap.size+1+1,0,none⟩),.pointer (some ⟨w.heap.size+1+1,1,none⟩),.pointer (some ⟨w.heap.size+1+1,2,none⟩)] 55)).frozen? ⟨w.heap.size+1,i,none⟩=false)/\((((w.alloc (.cells #[.slice a0 ys.length cap,.pointer (some ⟨N,0,none⟩)] 57)).alloc (zQ6)).alloc (zQ6)).alloc (.cells #[.pointer (some ⟨w.heap.size+1+1,0,none⟩),.pointer (some ⟨w.heap.size+1+1,1,none⟩),.pointer (some ⟨w.heap.size+1+1,2,none⟩)] 55)).heap.size=w.heap.size+1+1+1+1/\Bw w ((((w.alloc (.cells #[.slice a0 ys.length cap,.pointer (some ⟨N,0,none⟩)] 57)).alloc (zQ6)).alloc (zQ6)).alloc (.cells #[.pointer (some ⟨w.heap.size+1+1,0,none⟩),.pointer (some ⟨w.heap.size+1+1,1,none⟩),.pointer (some ⟨w.heap.size+1+1,2,none⟩)] 55))):=by
  have b1:=zT w (.cells #[.slice a0 ys.length cap,.pointer (some (aQ N 0))] 57);have s1:(w.alloc (.cells #[.slice a0 ys.length cap,.pointer (some (aQ N 0))] 57)).heap.size=w.heap.size+1:=by simp
  generalize hw1:w.alloc (.cells #[.slice a0 ys.length cap,.pointer (some (aQ N 0))] 57)=w1 at *;have b2:=zT w1 (zQ6);have s2:(w1.alloc (zQ6)).heap.size=w.heap.size+1+1:=by simp [s1]
  have c2:∀ i,i<3->(w1.alloc (zQ6)).cell? ⟨w.heap.size+1,i,none⟩=some (iV 0):=fun i hi=>by
   rw [<- s1]
   match i,hi with
   | 0,_=>exact zW _ _ _ 0 rfl
   | 1,_=>exact zW _ _ _ 1 rfl
   | 2,_=>exact zW _ _ _ 2 rfl
  have f2:∀ i,(w1.alloc (zQ6)).frozen? ⟨w.heap.size+1,i,none⟩=false:=fun i=>by
   rw [<- s1];exact yB _ _ _ _ rfl
  generalize hw2:w1.alloc (zQ6)=w2 at *;have b3:=zT w2 (zQ6);have s3:(w2.alloc (zQ6)).heap.size=w.heap.size+1+1+1:=by simp [s2]
  have c3:∀ i,i<3->(w2.alloc (zQ6)).cell? ⟨w.heap.size+1+1,i,none⟩=some (iV 0):=fun i hi=>by
   rw [<- s2]
   match i,hi with
   | 0,_=>exact zW _ _ _ 0 rfl
   | 1,_=>exact zW _ _ _ 1 rfl
   | 2,_=>exact zW _ _ _ 2 rfl
  have f3:∀ i,(w2.alloc (zQ6)).frozen? ⟨w.heap.size+1+1,i,none⟩=false:=fun i=>by
   rw [<- s2];exact yB _ _ _ _ rfl
  generalize hw3:w2.alloc (zQ6)=w3 at *;have b4:=zT w3 (.cells #[.pointer (some ⟨w.heap.size+1+1,0,none⟩),.pointer (some ⟨w.heap.size+1+1,1,none⟩),.pointer (some ⟨w.heap.size+1+1,2,none⟩)] 55);have s4:(w3.alloc (.cells #[.pointer (some ⟨w.heap.size+1+1,0,none⟩),.pointer (some ⟨w.heap.size+1+1,1,none⟩),.pointer (some ⟨w.heap.size+1+1,2,none⟩)] 55)).heap.size=w.heap.size+1+1+1+1:=by simp [s3]
  have c4:∀ i,i<3->(w3.alloc (.cells #[.pointer (some ⟨w.heap.size+1+1,0,none⟩),.pointer (some ⟨w.heap.size+1+1,1,none⟩),.pointer (some ⟨w.heap.size+1+1,2,none⟩)] 55)).cell? ⟨w.heap.size+1+1+1,i,none⟩=some (.pointer (some ⟨w.heap.size+1+1,i,none⟩)):=fun i hi=>by
   rw [<- s3]
   match i,hi with
   | 0,_=>exact zW _ _ _ 0 rfl
   | 1,_=>exact zW _ _ _ 1 rfl
   | 2,_=>exact zW _ _ _ 2 rfl
  generalize w3.alloc (.cells #[.pointer (some ⟨w.heap.size+1+1,0,none⟩),.pointer (some ⟨w.heap.size+1+1,1,none⟩),.pointer (some ⟨w.heap.size+1+1,2,none⟩)] 55)=w4 at *;have b24:Bw w2 w4:=b3.trans (b4.mono b3.size);have b14:Bw w1 w4:=b2.trans (b24.mono b2.size);have b04:Bw w w4:=b1.trans (b14.mono b1.size);exact ⟨h.bw b04,c4,fun i hi=>(zH (b4.block (w.heap.size+1+1) (by omega))).trans (c3 i hi),fun i=>(zI (b4.block (w.heap.size+1+1) (by omega))).trans (f3 i),fun i hi=>(zH (b24.block (w.heap.size+1) (by omega))).trans (c2 i hi),fun i=>(zI (b24.block (w.heap.size+1) (by omega))).trans (f2 i),s4,b04⟩
 clear hlen hcap hb h
 go_enter func96,ntmps96
 go_upto_region 2 with fail
 go_wp2_with fail
 generalize (((w.alloc (.cells #[.slice a0 ys.length cap,.pointer (some (aQ N 0))] 57)).alloc (zQ6)).alloc (zQ6)).alloc (.cells #[.pointer (some ⟨w.heap.size+1+1,0,none⟩),.pointer (some ⟨w.heap.size+1+1,1,none⟩),.pointer (some ⟨w.heap.size+1+1,2,none⟩)] 55)=w4 at *;refine (HF.out w4 (w.heap.size+1+1+1) (w.heap.size+1+1) A0.1 (by have:=HN.out;omega) (by have:=HN.out;omega) (by have:=A0.2.2.2.2.2.2.1;omega) (by have:=A0.2.2.2.2.2.2.1;omega) (by omega) (by have:=HN.out;omega) A0.2.1 (fun i hi=>⟨_,A0.2.2.1 i hi⟩) A0.2.2.2.1).mono ?_;rintro e w5 ⟨j,rfl,F,hj⟩;obtain ⟨v0,x0⟩:=F.cr 0 (by omega);obtain ⟨v1,x1⟩:=F.cr 1 (by omega);obtain ⟨v2,x2⟩:=F.cr 2 (by omega)
 have E5:Hid (Rd w5 N W0 a0 ys (k+j)/\(k+3<=(nmA ys).length->j=3/\v0=zi (nmA ys) k/\v1=zi (nmA ys) (k+1)/\v2=zi (nmA ys) (k+2))/\w.grownBy w5 (some N)):=by
  refine ⟨F.rd,fun hh=>⟨hj hh,?_⟩,Gr2.row A0.2.2.2.2.2.2.2 F.gr (by omega)⟩;have e:=hj hh;subst e
  have q:∀ (i:Nat) (v:Int),i<3->w5.cell? ⟨w.heap.size+1+1,i,none⟩=some (iV v)->v=zi (nmA ys) (k+i):=fun i v hi hv=>by
   have h1:=F.cs i hi;rw [hv] at h1;simpa using h1
  exact ⟨q 0 v0 (by omega) x0,q 1 v1 (by omega) x1,q 2 v2 (by omega) x2⟩
 have hkb:w5.heap[w.heap.size+1]? = w4.heap[w.heap.size+1]?:=F.gr.block _ (by have:=A0.2.2.2.2.2.2.1;omega) (by have:=HN.out;omega) (by omega);have f0:∀ i,w5.frozen? ⟨w.heap.size+1,i,none⟩=false:=fun i=>(zI hkb).trans (A0.2.2.2.2.2.1 i);have d0:w5.cell? ⟨w.heap.size+1,0,none⟩=some (iV 0):=(zH hkb).trans (A0.2.2.2.2.1 0 (by omega));have z0:=f0 0;have d1:w5.cell? ⟨w.heap.size+1,1,none⟩=some (iV 0):=(zH hkb).trans (A0.2.2.2.2.1 1 (by omega));have z1:=f0 1;have d2:w5.cell? ⟨w.heap.size+1,2,none⟩=some (iV 0):=(zH hkb).trans (A0.2.2.2.2.1 2 (by omega));have z2:=f0 2;clear F hj hkb HF A0 f0
 have HE:Hid (Rd (((w5.setCell ⟨w.heap.size+1,0,none⟩ (iV v0)).setCell ⟨w.heap.size+1,1,none⟩ (iV v1)).setCell ⟨w.heap.size+1,2,none⟩ (iV v2)) N W0 a0 ys (k+j)/\w.grownBy (((w5.setCell ⟨w.heap.size+1,0,none⟩ (iV v0)).setCell ⟨w.heap.size+1,1,none⟩ (iV v1)).setCell ⟨w.heap.size+1,2,none⟩ (iV v2)) (some N)):=by
  have hM:=HN.out
  have g6:w5.grownBy (((w5.setCell ⟨w.heap.size+1,0,none⟩ (iV v0)).setCell ⟨w.heap.size+1,1,none⟩ (iV v1)).setCell ⟨w.heap.size+1,2,none⟩ (iV v2)) (some (w.heap.size+1)):=by
   iterate 3 (refine zV ?_ (.inl rfl) _)
   exact World.grownBy.refl _ _
  exact ⟨E5.1.kept g6 (fun b hb=>by cases hb;omega),E5.2.2.andThen g6 (fun b hb=>by cases hb;exact .inl (by omega))⟩
 obtain ⟨D,hD⟩:∃ D,decide (k+3<=(nmA ys).length)=D:=⟨_,rfl⟩
 have HD:Hid (decide (k+3<=(nmA ys).length)=D):=hD;rw [hD];clear hD;go_wp2;exact bodyPost_ret (v:=.tuple #[.agg #[iV v0,iV v1,iV v2],.bool D]) (by simp [results,results96,go_sem,d0,d1,d2]) rfl ⟨v0,v1,v2,j,by rw [HD.out],HE.1,E5.2.1,HE.2⟩
theorem qhd {t e:TypeId} {size bytes:Nat} (K:Kind t e size bytes) (n:Nat) (hn:n<=200):∃ cs:Array Value,cs.size=n*size/\∀ w:World,(Instr.makeSlice t (iV 0) (iV (n:Int))).run prog w=.ok (sG w.heap.size 0 n) (w.alloc (.cells cs e)):=by
 obtain ⟨i,z,hi,hz,hs,hb,hzs⟩:=K.inf;refine ⟨madeCells z.cells (n*size),size_madeCells _ _,fun w=>?_⟩
 have hby:i.bytes*n<=281474976710656:=by
  rw [hb];exact zP (Nat.mul_le_mul K.sml hn) (by omega)
 have hby':(i.bytes:Int)*(n:Int)<=281474976710656:=by rw [<- Int.natCast_mul];exact Int.ofNat_le.2 hby
 have h:=run_make (P:=prog) w t e i z K.und hi hz .i64 .i64 0 (n:Int) (by omega) (by omega) hby' (by omega);rw [hs,nF] at h;exact h
def BxR (w:World) (N:Nat) (a b:Value):Prop:=w.cell? (aQ N 0)=some a/\w.cell? (aQ N 1)=some b
def RlP (d:Nat) (E:TypeId) (cells:Nat->Nat->List Value) (w:World) (N W0:Nat) (a0:Option Addr) (ys:List Int) (most k:Nat) (e:Ending) (w':World):Prop:=∃ (u:Value) (k':Nat),e=.returned (.tuple #[u,.bool (lsK (nmA ys) d most k).isSome])/\Rd w' N W0 a0 ys k'/\(lsK (nmA ys) d most k=none->u=nS)/\(∀ j,lsK (nmA ys) d most k=some j->k'=j/\w'.ownsRow w.heap.size E d u (ctN (nmA ys) k) (cells (k+1) (ctN (nmA ys) k))/\u≠nS)/\w.grownBy w' (some N)
structure LpII (w wr:World) (N W0:Nat) (a0:Option Addr) (ys:List Int) (cap:Nat) (v:Value) (k q:Nat):Prop where
 ow:wr.ownsRow (w.heap.size+1) 45 5 v q (fI (itN (nmA ys) (k+1)) q)
 nn:v≠nS
 rd:Rd wr N W0 a0 ys (k+1+5*q)
 gr:w.grownBy wr (some N)
 bx:BxR wr w.heap.size (.slice a0 ys.length cap) (.pointer (some (aQ N 0)))
structure LpIJ (w wr:World) (N W0:Nat) (a0:Option Addr) (ys:List Int) (cap:Nat) (v:Value) (k q r:Nat):Prop where
 ow:wr.ownsRow (w.heap.size+1) 45 5 v q (fI (itN (nmA ys) (k+1)) q)
 nn:v≠nS
 rd:Rd wr N W0 a0 ys r
 gr:w.grownBy wr (some N)
 bx:BxR wr w.heap.size (.slice a0 ys.length cap) (.pointer (some (aQ N 0)))
theorem LpIJ.sz {w wr:World} {N W0 cap k q r:Nat} {a0:Option Addr} {ys:List Int} {v:Value} (h:LpIJ w wr N W0 a0 ys cap v k q r):w.heap.size+1<=wr.heap.size:=zJ wr _ h.bx.1
theorem LpII.one {w wr w4:World} {N W0 cap k q r:Nat} {a0:Option Addr} {ys:List Int} {v:Value} (h:LpII w wr N W0 a0 ys cap v k q) (hN:N<w.heap.size) (hr:Rd w4 N W0 a0 ys r) (hg:wr.grownBy w4 (some N)):LpIJ w w4 N W0 a0 ys cap v k q r:=by
 have hl:w.heap.size<wr.heap.size:=zJ wr _ h.bx.1;have hb:=hg.block w.heap.size hl (by simp;omega);refine ⟨h.ow.kept hg (.inr fun e=>?_),h.nn,hr,h.gr.trans hg,⟨(zH hb).trans h.bx.1,(zH hb).trans h.bx.2⟩⟩;have:=(h.ow.lt N e).1;omega
theorem LpIJ.alloc {w wr:World} {N W0 cap k q r:Nat} {a0:Option Addr} {ys:List Int} {v:Value} (h:LpIJ w wr N W0 a0 ys cap v k q r) (o:Obj):LpIJ w (wr.alloc o) N W0 a0 ys cap v k q r:=by
 have ba:=zT wr o;have hl:w.heap.size<wr.heap.size:=zJ wr _ h.bx.1;exact ⟨h.ow.alloc o,h.nn,h.rd.bw ba,h.gr.andThen (zZ ba) (fun j hj=>by cases hj),⟨(ba.cell (p:=(aQ w.heap.size 0)) hl).trans h.bx.1,(ba.cell (p:=(aQ w.heap.size 1)) hl).trans h.bx.2⟩⟩
theorem LpIJ.app {w wr w7:World} {N W0 cap k q:Nat} {a0:Option Addr} {ys:List Int} {v v7:Value} (h:LpIJ w wr N W0 a0 ys cap v k q (k+1+5*(q+1))) (hN:N<w.heap.size) (ho:w7.ownsRow (w.heap.size+1) 45 5 v7 (q+1) (fI (itN (nmA ys) (k+1)) (q+1))) (hg:wr.grownBy w7 v.ownBlock) (hn:v7≠nS):LpII w w7 N W0 a0 ys cap v7 k (q+1):=by
 have hl:w.heap.size<wr.heap.size:=zJ wr _ h.bx.1;have hb:=hg.block w.heap.size hl (fun e=>by have:=(h.ow.lt _ e.symm).1;omega);refine ⟨ho,hn,h.rd.kept hg (fun j hj=>?_),h.gr.andThen hg (fun j hj=>.inl ?_),⟨(zH hb).trans h.bx.1,(zH hb).trans h.bx.2⟩⟩
 ·have:=(h.ow.lt j hj).1
  have:=h.rd.ge;omega
 ·have:=(h.ow.lt j hj).1
  omega
theorem qzl (ns:List Int) (k n:Nat):fI (itN ns k) (n+1)=fI (itN ns k) n ++ cI (itN ns k n):=rfl
theorem qkn (a0:Option Addr) (cap N W0 k most:Nat) (ys:List Int) (w:World) (hlen:ys.length<=1048576) (hcap:ys.length<=cap) (hb:By ys) (hm:most<=200) (h:Rd w N W0 a0 ys k):
  Calls prog 93 #[.agg #[.slice a0 ys.length cap,.pointer (some (aQ N 0))],iV (most:Nat),.func (.func 94) #[] #[]] w (RlP 5 45 (fun k n=>fI (itN (nmA ys) k) n) w N W0 a0 ys most k):=by
 have HNum:Hid (∀ wx k',Rd wx N W0 a0 ys k'->Calls prog 55 #[.agg #[.slice a0 ys.length cap,.pointer (some ⟨N,0,none⟩)]] wx fun e w'=>e=.returned (rdXp ys k')/\Rd w' N W0 a0 ys (rdK ys k')/\wx.grownBy w' (some N)):=fun wx k' hx=>qkb a0 cap N W0 k' ys wx hlen hcap hb hx;have HOne:Hid (∀ wx k',Rd wx N W0 a0 ys k'->Calls prog 94 #[.agg #[.slice a0 ys.length cap,.pointer (some ⟨N,0,none⟩)]] wx (RiP wx N W0 a0 ys k')):=fun wx k' hx=>qon a0 cap N W0 k' ys wx hlen hcap hb hx;have HN:Hid (N<w.heap.size/\W0<=N):=⟨h.lt,h.ge⟩
 have ba:=zT w (.cells #[.slice a0 ys.length cap,.pointer (some (aQ N 0))] 57);have A0:Hid (Rd (w.alloc (.cells #[.slice a0 ys.length cap,.pointer (some (aQ N 0))] 57)) N W0 a0 ys k/\BxR (w.alloc (.cells #[.slice a0 ys.length cap,.pointer (some (aQ N 0))] 57)) w.heap.size (.slice a0 ys.length cap) (.pointer (some (aQ N 0)))/\Bw w (w.alloc (.cells #[.slice a0 ys.length cap,.pointer (some (aQ N 0))] 57))/\(w.alloc (.cells #[.slice a0 ys.length cap,.pointer (some (aQ N 0))] 57)).heap.size=w.heap.size+1):=⟨h.bw ba,⟨zW _ _ _ 0 rfl,zW _ _ _ 1 rfl⟩,ba,by simp⟩
 have hmost:(most:Int)<=200:=by omega
 clear hlen hcap hb h ba
 go_enter func93,ntmps93
 go_upto_region 1 with fail
 generalize w.alloc (.cells #[.slice a0 ys.length cap,.pointer (some (aQ N 0))] 57)=w1 at *;obtain ⟨r0,r1⟩:=A0.2.1;go_wp2_with fail
 clear r0 r1;refine (HNum.out w1 k A0.1).mono ?_;rintro e w2 ⟨rfl,hr2,hg2⟩;have hM:Hid (w.heap.size<w1.heap.size/\N<w.heap.size):=⟨by have:=A0.2.2.2;omega,HN.1⟩
 by_cases hk:k<(nmA ys).length
 case neg=>
  have e1:rdXp ys k=.tuple #[iV 0,.bool false]:=nB hk;have e2:rdK ys k=k:=nB hk;rw [e2] at hr2;rw [e1];have HE:Hid (Rd w2 N W0 a0 ys k/\lsK (nmA ys) 5 most k=none/\w.grownBy w2 (some N)):=⟨hr2,by unfold lsK;rw [nB (fun hc=>hk hc.1)],((World.grownBy.refl w (some N)).andThen (zZ A0.2.2.1) (fun j hj=>by cases hj)).trans hg2⟩
  clear hr2 hg2 A0 e1 e2 hk HNum HOne;go_wp2;exact bodyPost_ret (v:=.tuple #[nS,.bool false]) (by simp [results,results93,go_sem]) rfl ⟨_,k,by rw [HE.2.1];rfl,HE.1,fun _=>rfl,fun j hj=>(by rw [HE.2.1] at hj;cases hj),HE.2.2⟩
 have e1:rdXp ys k=.tuple #[iV (zi (nmA ys) k),.bool true]:=nC hk;have e2:rdK ys k=k+1:=nC hk;rw [e2] at hr2;rw [e1];obtain ⟨c,hc⟩:∃ c,zi (nmA ys) k=c:=⟨_,rfl⟩
 rw [hc]
 have G2:Hid (Rd w2 N W0 a0 ys (k+1)/\w.grownBy w2 (some N)/\BxR w2 w.heap.size (.slice a0 ys.length cap) (.pointer (some (aQ N 0)))/\w.heap.size<w2.heap.size):=by
  have hb2:=hg2.block w.heap.size hM.1 (by have:=hM.2;simp;omega);exact ⟨hr2,((World.grownBy.refl w (some N)).andThen (zZ A0.2.2.1) (fun j hj=>by cases hj)).trans hg2,⟨(zH hb2).trans A0.2.1.1,(zH hb2).trans A0.2.1.2⟩,by have:=hg2.size;have:=hM.1;omega⟩
 have HK:Hid (k<(nmA ys).length/\zi (nmA ys) k=c):=⟨hk,hc⟩
 clear hr2 hg2 A0 e1 e2 hk hc HNum;by_cases hcl:c<0\/(most:Int)<c
 case pos=>
  have HE:Hid (lsK (nmA ys) 5 most k=none):=by
   show lsK (nmA ys) 5 most k=none;unfold lsK;rw [nB (fun hh=>by have:=HK.2;omega)]
  by_cases hc0:c<0
  ·clear HOne
   go_wp2;exact bodyPost_ret (v:=.tuple #[nS,.bool false]) (by simp [results,results93,go_sem]) rfl ⟨_,k+1,by rw [HE.out];rfl,G2.1,fun _=>rfl,fun j hj=>(by rw [HE.out] at hj;cases hj),G2.2.1⟩
  ·have hc1:(most:Int)<c:=by omega
   clear HOne hcl;go_wp2;exact bodyPost_ret (v:=.tuple #[nS,.bool false]) (by simp [results,results93,go_sem]) rfl ⟨_,k+1,by rw [HE.out];rfl,G2.1,fun _=>rfl,fun j hj=>(by rw [HE.out] at hj;cases hj),G2.2.1⟩
 obtain ⟨n,rfl⟩:∃ n:Nat,c=n:=⟨c.toNat,by omega⟩
 have hc0:¬ (n:Int)<0:=by omega
 have hc1:¬ (most:Int)<(n:Int):=by omega
 have hn2:(n:Int)<=200:=by omega
 have hct:ctN (nmA ys) k=n:=by unfold ctN;rw [HK.2];simp
 have HL:Hid (ctN (nmA ys) k=n/\lsK (nmA ys) 5 most k=(if k+1+5*n<=(nmA ys).length then some (k+1+5*n) else none)/\n<=200):=by
  refine ⟨hct,?_,by omega⟩;unfold lsK;rw [hct,HK.2];by_cases hh:k+1+5*n<=(nmA ys).length
  ·rw [nC hh,nC ⟨HK.1,by omega,by omega,hh⟩]
  ·rw [nB hh,nB (fun h9=>hh h9.2.2.2)]
 obtain ⟨cs,hcs,hmk⟩:=qhd kndI n (by omega);have HO2:Hid ((w2.alloc (.cells cs 45)).ownsRow (w.heap.size+1) 45 5 (sG w2.heap.size 0 n) 0 []):=World.ownsRow_made (base:=w.heap.size+1) (e:=45) (size:=5) w2 cs n (by have:=G2.2.2.2;omega) (by unfold maxLen;omega) (by rw [hcs]);clear hct hcl hmost hcs HK;go_wp2_with fail
 clear hmk;have ba:=zT w2 (.cells cs 45);have L0:Hid (LpII w (w2.alloc (.cells cs 45)) N W0 a0 ys cap (sG w2.heap.size 0 n) k 0):=⟨HO2.out,by simp,G2.1.bw ba,G2.2.1.andThen (zZ ba) (fun j hj=>by cases hj),⟨(ba.cell (p:=(aQ w.heap.size 0)) G2.2.2.2).trans G2.2.2.1.1,(ba.cell (p:=(aQ w.heap.size 1)) G2.2.2.2).trans G2.2.2.1.2⟩⟩
 clear ba HO2 G2;generalize w2.alloc (.cells cs 45)=w3 at *;generalize w2.heap.size=Q2 at *;simp only [show decide ((n:Int)<0)=false from decide_eq_false (by omega),show decide (most<n)=false from decide_eq_false (by omega),Bool.false_or]
 go_loopw [10,32] (fun v i wr=>∃ q:Nat,q<=n/\i=.int .i64 (q:Nat)/\Hid (LpII w wr N W0 a0 ys cap v k q)) (fun _ i _=>n - (intOf i).toNat)
 case atStart=>exact ⟨0,nD _,rfl,L0.out⟩
 case round=>
  clear L0
  rename World=>wr
  obtain ⟨q,hq,rfl,HI⟩:=hrel;by_cases hqt:q<n
  case neg=>
   have hqn:q=n:=by omega
   have hqt':¬ (q:Int)<(n:Int):=by omega
   have HE:Hid (lsK (nmA ys) 5 most k=some (k+1+5*n)/\ctN (nmA ys) k=n/\Rd wr N W0 a0 ys (k+1+5*n)/\wr.ownsRow w.heap.size 45 5 u10 n (fI (itN (nmA ys) (k+1)) n)/\u10≠nS/\w.grownBy wr (some N)):=by
    have hr:=HI.rd;rw [hqn] at hr;have hle:=hr.le;have ho:=HI.ow;rw [hqn] at ho;exact ⟨by rw [HL.2.1,nC hle],HL.1,hr,ho.mono (nK _),HI.nn,HI.gr⟩
   clear HI hqn HOne;go_wp2;exact bodyPost_ret (v:=.tuple #[u10,.bool true]) (by simp [results,results93,go_sem]) rfl ⟨u10,k+1+5*n,by rw [HE.1];rfl,HE.2.2.1,fun hh=>(by rw [HE.1] at hh;cases hh),fun j hj=>(by rw [HE.1] at hj;cases hj;rw [HE.2.1];exact ⟨rfl,HE.2.2.2.1,HE.2.2.2.2.1⟩),HE.2.2.2.2.2⟩
  have hqt':(q:Int)<(n:Int):=by omega
  obtain ⟨r0,r1⟩:=HI.bx;go_wp2_with fail
  clear r0 r1;refine (HOne.out wr (k+1+5*q) HI.rd).mono ?_;rintro e w4 ⟨v0,v1,v2,v3,v4,j,rfl,hr4,hj4,hg4⟩;have I4:Hid (LpIJ w w4 N W0 a0 ys cap u10 k q (k+1+5*q+j)):=HI.one hM.2 hr4 hg4
  have HV:Hid (k+1+5*q+5<=(nmA ys).length->j=5/\cI (itN (nmA ys) (k+1) q)=[iV v0,iV v1,iV v2,iV v3,iV v4]):=fun hh=>by
   obtain ⟨h1,rfl,rfl,rfl,rfl,rfl⟩:=hj4 hh;refine ⟨h1,?_⟩;rfl
  clear hr4 hj4 hg4 HI;by_cases hh:k+1+5*q+5<=(nmA ys).length
  case neg=>
   have HE:Hid (lsK (nmA ys) 5 most k=none/\Rd w4 N W0 a0 ys (k+1+5*q+j)/\w.grownBy w4 (some N)):=by
    refine ⟨?_,I4.rd,I4.gr⟩;rw [HL.2.1,nB (by omega)]
   have HE2:Hid (Rd (w4.alloc (oQ1 v0 v1 v2 v3 v4)) N W0 a0 ys (k+1+5*q+j)/\w.grownBy (w4.alloc (oQ1 v0 v1 v2 v3 v4)) (some N)):=⟨HE.2.1.bw (zT _ _),HE.2.2.andThen (zZ (zT _ _)) (fun j hj=>by cases hj)⟩
   rw [decide_eq_false hh];clear I4 HV HOne hh;go_wp2;exact bodyPost_ret (v:=.tuple #[nS,.bool false]) (by simp [results,results93,go_sem]) rfl ⟨_,k+1+5*q+j,by rw [HE.1];rfl,HE2.1,fun _=>rfl,fun j hj=>(by rw [HE.1] at hj;cases hj),HE2.2⟩
  rw [decide_eq_true hh];have hV:=HV.out hh;obtain ⟨hjd,hcells⟩:=hV;subst hjd;have HC:Hid (cI (itN (nmA ys) (k+1) q)=[iV v0,iV v1,iV v2,iV v3,iV v4]):=hcells
  have I5:Hid (LpIJ w (w4.alloc (oQ1 v0 v1 v2 v3 v4)) N W0 a0 ys cap u10 k q (k+1+5*(q+1))):=by
   have h9:=I4.alloc (oQ1 v0 v1 v2 v3 v4);rw [show k+1+5*(q+1)=k+1+5*q+5 by omega];exact h9
  have hq2:Hid (q<=2000000):=by have:=HL.2.2;show q<=2000000;omega
  have k0:(w4.alloc (oQ1 v0 v1 v2 v3 v4)).cell? (aQ w4.heap.size 0)=some (iV v0):=zW _ _ _ 0 rfl;have k1:(w4.alloc (oQ1 v0 v1 v2 v3 v4)).cell? (aQ w4.heap.size 1)=some (iV v1):=zW _ _ _ 1 rfl;have k2:(w4.alloc (oQ1 v0 v1 v2 v3 v4)).cell? (aQ w4.heap.size 2)=some (iV v2):=zW _ _ _ 2 rfl;have k3:(w4.alloc (oQ1 v0 v1 v2 v3 v4)).cell? (aQ w4.heap.size 3)=some (iV v3):=zW _ _ _ 3 rfl;have k4:(w4.alloc (oQ1 v0 v1 v2 v3 v4)).cell? (aQ w4.heap.size 4)=some (iV v4):=zW _ _ _ 4 rfl;clear I4 HV hh hcells;go_upto_region 10 with fail
  generalize w4.alloc (oQ1 v0 v1 v2 v3 v4)=w5 at *;generalize w4.heap.size=Q4 at *;go_wp2_with (at_builtin;refine qai kndI w5 rfl rfl _ _ rfl (w.heap.size+1) u10 q _ rfl I5.ow #[.int .i64 v0,.int .i64 v1,.int .i64 v2,.int .i64 v3,.int .i64 v4] rfl rfl (by intro u hu;simp at hu;rcases hu with rfl | rfl | rfl | rfl | rfl <;> rfl) hq2.out I5.sz ?_;intro v7 w7 o7 g7 q7 n7;have F7:Hid (LpII w w7 N W0 a0 ys cap v7 k (q+1)):=I5.app hM.2 (by rw [qzl,HC.out];exact o7) g7 n7;clear o7 g7 q7 n7)
  go_roundw
  case rel=>exact ⟨q+1,by omega,by go_num,F7.out⟩
  case measure=>simp [intOf];omega
structure LpEI (w wr:World) (N W0:Nat) (a0:Option Addr) (ys:List Int) (cap:Nat) (v:Value) (k q:Nat):Prop where
 ow:wr.ownsRow (w.heap.size+1) 49 3 v q (fE (evN (nmA ys) (k+1)) q)
 nn:v≠nS
 rd:Rd wr N W0 a0 ys (k+1+3*q)
 gr:w.grownBy wr (some N)
 bx:BxR wr w.heap.size (.slice a0 ys.length cap) (.pointer (some (aQ N 0)))
structure LpEJ (w wr:World) (N W0:Nat) (a0:Option Addr) (ys:List Int) (cap:Nat) (v:Value) (k q r:Nat):Prop where
 ow:wr.ownsRow (w.heap.size+1) 49 3 v q (fE (evN (nmA ys) (k+1)) q)
 nn:v≠nS
 rd:Rd wr N W0 a0 ys r
 gr:w.grownBy wr (some N)
 bx:BxR wr w.heap.size (.slice a0 ys.length cap) (.pointer (some (aQ N 0)))
theorem LpEJ.sz {w wr:World} {N W0 cap k q r:Nat} {a0:Option Addr} {ys:List Int} {v:Value} (h:LpEJ w wr N W0 a0 ys cap v k q r):w.heap.size+1<=wr.heap.size:=zJ wr _ h.bx.1
theorem LpEI.one {w wr w4:World} {N W0 cap k q r:Nat} {a0:Option Addr} {ys:List Int} {v:Value} (h:LpEI w wr N W0 a0 ys cap v k q) (hN:N<w.heap.size) (hr:Rd w4 N W0 a0 ys r) (hg:wr.grownBy w4 (some N)):LpEJ w w4 N W0 a0 ys cap v k q r:=by
 have hl:w.heap.size<wr.heap.size:=zJ wr _ h.bx.1;have hb:=hg.block w.heap.size hl (by simp;omega);refine ⟨h.ow.kept hg (.inr fun e=>?_),h.nn,hr,h.gr.trans hg,⟨(zH hb).trans h.bx.1,(zH hb).trans h.bx.2⟩⟩;have:=(h.ow.lt N e).1;omega
theorem LpEJ.alloc {w wr:World} {N W0 cap k q r:Nat} {a0:Option Addr} {ys:List Int} {v:Value} (h:LpEJ w wr N W0 a0 ys cap v k q r) (o:Obj):LpEJ w (wr.alloc o) N W0 a0 ys cap v k q r:=by
 have ba:=zT wr o;have hl:w.heap.size<wr.heap.size:=zJ wr _ h.bx.1;exact ⟨h.ow.alloc o,h.nn,h.rd.bw ba,h.gr.andThen (zZ ba) (fun j hj=>by cases hj),⟨(ba.cell (p:=(aQ w.heap.size 0)) hl).trans h.bx.1,(ba.cell (p:=(aQ w.heap.size 1)) hl).trans h.bx.2⟩⟩
theorem LpEJ.app {w wr w7:World} {N W0 cap k q:Nat} {a0:Option Addr} {ys:List Int} {v v7:Value} (h:LpEJ w wr N W0 a0 ys cap v k q (k+1+3*(q+1))) (hN:N<w.heap.size) (ho:w7.ownsRow (w.heap.size+1) 49 3 v7 (q+1) (fE (evN (nmA ys) (k+1)) (q+1))) (hg:wr.grownBy w7 v.ownBlock) (hn:v7≠nS):LpEI w w7 N W0 a0 ys cap v7 k (q+1):=by
 have hl:w.heap.size<wr.heap.size:=zJ wr _ h.bx.1;have hb:=hg.block w.heap.size hl (fun e=>by have:=(h.ow.lt _ e.symm).1;omega);refine ⟨ho,hn,h.rd.kept hg (fun j hj=>?_),h.gr.andThen hg (fun j hj=>.inl ?_),⟨(zH hb).trans h.bx.1,(zH hb).trans h.bx.2⟩⟩
 ·have:=(h.ow.lt j hj).1
  have:=h.rd.ge;omega
 ·have:=(h.ow.lt j hj).1
  omega
theorem qzk (ns:List Int) (k n:Nat):fE (evN ns k) (n+1)=fE (evN ns k) n ++ cE (evN ns k n):=rfl
theorem qkm (a0:Option Addr) (cap N W0 k most:Nat) (ys:List Int) (w:World) (hlen:ys.length<=1048576) (hcap:ys.length<=cap) (hb:By ys) (hm:most<=200) (h:Rd w N W0 a0 ys k):
  Calls prog 95 #[.agg #[.slice a0 ys.length cap,.pointer (some (aQ N 0))],iV (most:Nat),.func (.func 96) #[] #[]] w (RlP 3 49 (fun k n=>fE (evN (nmA ys) k) n) w N W0 a0 ys most k):=by
 have HNum:Hid (∀ wx k',Rd wx N W0 a0 ys k'->Calls prog 55 #[.agg #[.slice a0 ys.length cap,.pointer (some ⟨N,0,none⟩)]] wx fun e w'=>e=.returned (rdXp ys k')/\Rd w' N W0 a0 ys (rdK ys k')/\wx.grownBy w' (some N)):=fun wx k' hx=>qkb a0 cap N W0 k' ys wx hlen hcap hb hx;have HOne:Hid (∀ wx k',Rd wx N W0 a0 ys k'->Calls prog 96 #[.agg #[.slice a0 ys.length cap,.pointer (some ⟨N,0,none⟩)]] wx (ReP wx N W0 a0 ys k')):=fun wx k' hx=>qkl a0 cap N W0 k' ys wx hlen hcap hb hx;have HN:Hid (N<w.heap.size/\W0<=N):=⟨h.lt,h.ge⟩
 have ba:=zT w (.cells #[.slice a0 ys.length cap,.pointer (some (aQ N 0))] 57);have A0:Hid (Rd (w.alloc (.cells #[.slice a0 ys.length cap,.pointer (some (aQ N 0))] 57)) N W0 a0 ys k/\BxR (w.alloc (.cells #[.slice a0 ys.length cap,.pointer (some (aQ N 0))] 57)) w.heap.size (.slice a0 ys.length cap) (.pointer (some (aQ N 0)))/\Bw w (w.alloc (.cells #[.slice a0 ys.length cap,.pointer (some (aQ N 0))] 57))/\(w.alloc (.cells #[.slice a0 ys.length cap,.pointer (some (aQ N 0))] 57)).heap.size=w.heap.size+1):=⟨h.bw ba,⟨zW _ _ _ 0 rfl,zW _ _ _ 1 rfl⟩,ba,by simp⟩
 have hmost:(most:Int)<=200:=by omega
 clear hlen hcap hb h ba
 go_enter func95,ntmps95
 go_upto_region 1 with fail
 generalize w.alloc (.cells #[.slice a0 ys.length cap,.pointer (some (aQ N 0))] 57)=w1 at *;obtain ⟨r0,r1⟩:=A0.2.1;go_wp2_with fail
 clear r0 r1;refine (HNum.out w1 k A0.1).mono ?_;rintro e w2 ⟨rfl,hr2,hg2⟩;have hM:Hid (w.heap.size<w1.heap.size/\N<w.heap.size):=⟨by have:=A0.2.2.2;omega,HN.1⟩
 by_cases hk:k<(nmA ys).length
 case neg=>
  have e1:rdXp ys k=.tuple #[iV 0,.bool false]:=nB hk;have e2:rdK ys k=k:=nB hk;rw [e2] at hr2;rw [e1];have HE:Hid (Rd w2 N W0 a0 ys k/\lsK (nmA ys) 3 most k=none/\w.grownBy w2 (some N)):=⟨hr2,by unfold lsK;rw [nB (fun hc=>hk hc.1)],((World.grownBy.refl w (some N)).andThen (zZ A0.2.2.1) (fun j hj=>by cases hj)).trans hg2⟩
  clear hr2 hg2 A0 e1 e2 hk HNum HOne;go_wp2;exact bodyPost_ret (v:=.tuple #[nS,.bool false]) (by simp [results,results95,go_sem]) rfl ⟨_,k,by rw [HE.2.1];rfl,HE.1,fun _=>rfl,fun j hj=>(by rw [HE.2.1] at hj;cases hj),HE.2.2⟩
 have e1:rdXp ys k=.tuple #[iV (zi (nmA ys) k),.bool true]:=nC hk;have e2:rdK ys k=k+1:=nC hk;rw [e2] at hr2;rw [e1];obtain ⟨c,hc⟩:∃ c,zi (nmA ys) k=c:=⟨_,rfl⟩
 rw [hc]
 have G2:Hid (Rd w2 N W0 a0 ys (k+1)/\w.grownBy w2 (some N)/\BxR w2 w.heap.size (.slice a0 ys.length cap) (.pointer (some (aQ N 0)))/\w.heap.size<w2.heap.size):=by
  have hb2:=hg2.block w.heap.size hM.1 (by have:=hM.2;simp;omega);exact ⟨hr2,((World.grownBy.refl w (some N)).andThen (zZ A0.2.2.1) (fun j hj=>by cases hj)).trans hg2,⟨(zH hb2).trans A0.2.1.1,(zH hb2).trans A0.2.1.2⟩,by have:=hg2.size;have:=hM.1;omega⟩
 have HK:Hid (k<(nmA ys).length/\zi (nmA ys) k=c):=⟨hk,hc⟩
 clear hr2 hg2 A0 e1 e2 hk hc HNum;by_cases hcl:c<0\/(most:Int)<c
 case pos=>
  have HE:Hid (lsK (nmA ys) 3 most k=none):=by
   show lsK (nmA ys) 3 most k=none;unfold lsK;rw [nB (fun hh=>by have:=HK.2;omega)]
  by_cases hc0:c<0
  ·clear HOne
   go_wp2;exact bodyPost_ret (v:=.tuple #[nS,.bool false]) (by simp [results,results95,go_sem]) rfl ⟨_,k+1,by rw [HE.out];rfl,G2.1,fun _=>rfl,fun j hj=>(by rw [HE.out] at hj;cases hj),G2.2.1⟩
  ·have hc1:(most:Int)<c:=by omega
   clear HOne hcl;go_wp2;exact bodyPost_ret (v:=.tuple #[nS,.bool false]) (by simp [results,results95,go_sem]) rfl ⟨_,k+1,by rw [HE.out];rfl,G2.1,fun _=>rfl,fun j hj=>(by rw [HE.out] at hj;cases hj),G2.2.1⟩
 obtain ⟨n,rfl⟩:∃ n:Nat,c=n:=⟨c.toNat,by omega⟩
 have hc0:¬ (n:Int)<0:=by omega
 have hc1:¬ (most:Int)<(n:Int):=by omega
 have hn2:(n:Int)<=200:=by omega
 have hct:ctN (nmA ys) k=n:=by unfold ctN;rw [HK.2];simp
 have HL:Hid (ctN (nmA ys) k=n/\lsK (nmA ys) 3 most k=(if k+1+3*n<=(nmA ys).length then some (k+1+3*n) else none)/\n<=200):=by
  refine ⟨hct,?_,by omega⟩;unfold lsK;rw [hct,HK.2];by_cases hh:k+1+3*n<=(nmA ys).length
  ·rw [nC hh,nC ⟨HK.1,by omega,by omega,hh⟩]
  ·rw [nB hh,nB (fun h9=>hh h9.2.2.2)]
 obtain ⟨cs,hcs,hmk⟩:=qhd kndE n (by omega);have HO2:Hid ((w2.alloc (.cells cs 49)).ownsRow (w.heap.size+1) 49 3 (sG w2.heap.size 0 n) 0 []):=World.ownsRow_made (base:=w.heap.size+1) (e:=49) (size:=3) w2 cs n (by have:=G2.2.2.2;omega) (by unfold maxLen;omega) (by rw [hcs]);clear hct hcl hmost hcs HK;go_wp2_with fail
 clear hmk;have ba:=zT w2 (.cells cs 49);have L0:Hid (LpEI w (w2.alloc (.cells cs 49)) N W0 a0 ys cap (sG w2.heap.size 0 n) k 0):=⟨HO2.out,by simp,G2.1.bw ba,G2.2.1.andThen (zZ ba) (fun j hj=>by cases hj),⟨(ba.cell (p:=(aQ w.heap.size 0)) G2.2.2.2).trans G2.2.2.1.1,(ba.cell (p:=(aQ w.heap.size 1)) G2.2.2.2).trans G2.2.2.1.2⟩⟩
 clear ba HO2 G2;generalize w2.alloc (.cells cs 49)=w3 at *;generalize w2.heap.size=Q2 at *;simp only [show decide ((n:Int)<0)=false from decide_eq_false (by omega),show decide (most<n)=false from decide_eq_false (by omega),Bool.false_or]
 go_loopw [10,32] (fun v i wr=>∃ q:Nat,q<=n/\i=.int .i64 (q:Nat)/\Hid (LpEI w wr N W0 a0 ys cap v k q)) (fun _ i _=>n - (intOf i).toNat)
 case atStart=>exact ⟨0,nD _,rfl,L0.out⟩
 case round=>
  clear L0
  rename World=>wr
  obtain ⟨q,hq,rfl,HI⟩:=hrel;by_cases hqt:q<n
  case neg=>
   have hqn:q=n:=by omega
   have hqt':¬ (q:Int)<(n:Int):=by omega
   have HE:Hid (lsK (nmA ys) 3 most k=some (k+1+3*n)/\ctN (nmA ys) k=n/\Rd wr N W0 a0 ys (k+1+3*n)/\wr.ownsRow w.heap.size 49 3 u10 n (fE (evN (nmA ys) (k+1)) n)/\u10≠nS/\w.grownBy wr (some N)):=by
    have hr:=HI.rd;rw [hqn] at hr;have hle:=hr.le;have ho:=HI.ow;rw [hqn] at ho;exact ⟨by rw [HL.2.1,nC hle],HL.1,hr,ho.mono (nK _),HI.nn,HI.gr⟩
   clear HI hqn HOne;go_wp2;exact bodyPost_ret (v:=.tuple #[u10,.bool true]) (by simp [results,results95,go_sem]) rfl ⟨u10,k+1+3*n,by rw [HE.1];rfl,HE.2.2.1,fun hh=>(by rw [HE.1] at hh;cases hh),fun j hj=>(by rw [HE.1] at hj;cases hj;rw [HE.2.1];exact ⟨rfl,HE.2.2.2.1,HE.2.2.2.2.1⟩),HE.2.2.2.2.2⟩
  have hqt':(q:Int)<(n:Int):=by omega
  obtain ⟨r0,r1⟩:=HI.bx;go_wp2_with fail
  clear r0 r1;refine (HOne.out wr (k+1+3*q) HI.rd).mono ?_;rintro e w4 ⟨v0,v1,v2,j,rfl,hr4,hj4,hg4⟩;have I4:Hid (LpEJ w w4 N W0 a0 ys cap u10 k q (k+1+3*q+j)):=HI.one hM.2 hr4 hg4
  have HV:Hid (k+1+3*q+3<=(nmA ys).length->j=3/\cE (evN (nmA ys) (k+1) q)=[iV v0,iV v1,iV v2]):=fun hh=>by
   obtain ⟨h1,rfl,rfl,rfl⟩:=hj4 hh;refine ⟨h1,?_⟩;rfl
  clear hr4 hj4 hg4 HI;by_cases hh:k+1+3*q+3<=(nmA ys).length
  case neg=>
   have HE:Hid (lsK (nmA ys) 3 most k=none/\Rd w4 N W0 a0 ys (k+1+3*q+j)/\w.grownBy w4 (some N)):=by
    refine ⟨?_,I4.rd,I4.gr⟩;rw [HL.2.1,nB (by omega)]
   have HE2:Hid (Rd (w4.alloc (oQ2 v0 v1 v2)) N W0 a0 ys (k+1+3*q+j)/\w.grownBy (w4.alloc (oQ2 v0 v1 v2)) (some N)):=⟨HE.2.1.bw (zT _ _),HE.2.2.andThen (zZ (zT _ _)) (fun j hj=>by cases hj)⟩
   rw [decide_eq_false hh];clear I4 HV HOne hh;go_wp2;exact bodyPost_ret (v:=.tuple #[nS,.bool false]) (by simp [results,results95,go_sem]) rfl ⟨_,k+1+3*q+j,by rw [HE.1];rfl,HE2.1,fun _=>rfl,fun j hj=>(by rw [HE.1] at hj;cases hj),HE2.2⟩
  rw [decide_eq_true hh];have hV:=HV.out hh;obtain ⟨hjd,hcells⟩:=hV;subst hjd;have HC:Hid (cE (evN (nmA ys) (k+1) q)=[iV v0,iV v1,iV v2]):=hcells
  have I5:Hid (LpEJ w (w4.alloc (oQ2 v0 v1 v2)) N W0 a0 ys cap u10 k q (k+1+3*(q+1))):=by
   have h9:=I4.alloc (oQ2 v0 v1 v2);rw [show k+1+3*(q+1)=k+1+3*q+3 by omega];exact h9
  have hq2:Hid (q<=2000000):=by have:=HL.2.2;show q<=2000000;omega
  have k0:(w4.alloc (oQ2 v0 v1 v2)).cell? (aQ w4.heap.size 0)=some (iV v0):=zW _ _ _ 0 rfl;have k1:(w4.alloc (oQ2 v0 v1 v2)).cell? (aQ w4.heap.size 1)=some (iV v1):=zW _ _ _ 1 rfl;have k2:(w4.alloc (oQ2 v0 v1 v2)).cell? (aQ w4.heap.size 2)=some (iV v2):=zW _ _ _ 2 rfl;clear I4 HV hh hcells;go_upto_region 10 with fail
  generalize w4.alloc (oQ2 v0 v1 v2)=w5 at *;generalize w4.heap.size=Q4 at *;go_wp2_with (at_builtin;refine qai kndE w5 rfl rfl _ _ rfl (w.heap.size+1) u10 q _ rfl I5.ow #[.int .i64 v0,.int .i64 v1,.int .i64 v2] rfl rfl (by intro u hu;simp at hu;rcases hu with rfl | rfl | rfl <;> rfl) hq2.out I5.sz ?_;intro v7 w7 o7 g7 q7 n7;have F7:Hid (LpEI w w7 N W0 a0 ys cap v7 k (q+1)):=I5.app hM.2 (by rw [qzk,HC.out];exact o7) g7 n7;clear o7 g7 q7 n7)
  go_roundw
  case rel=>exact ⟨q+1,by omega,by go_num,F7.out⟩
  case measure=>simp [intOf];omega
theorem qn0 (a0:Option Addr) (cap N W0 k:Nat) (ys:List Int) (w:World) (h:Rd w N W0 a0 ys k):
  Calls prog 58 #[.agg #[.slice a0 ys.length cap,.pointer (some (aQ N 0))]] w fun e w'=>e=.returned (.bool (((psN (nmA ys) k:Nat):Int) == ((ys.length:Nat):Int)))/\Bw w w':=by
 have ba:=zT w (.cells #[.slice a0 ys.length cap,.pointer (some (aQ N 0))] 57);have A0:Hid (Bw w (w.alloc (.cells #[.slice a0 ys.length cap,.pointer (some (aQ N 0))] 57))/\(w.alloc (.cells #[.slice a0 ys.length cap,.pointer (some (aQ N 0))] 57)).cell? (aQ w.heap.size 0)=some (.slice a0 ys.length cap)/\(w.alloc (.cells #[.slice a0 ys.length cap,.pointer (some (aQ N 0))] 57)).cell? (aQ w.heap.size 1)=some (.pointer (some (aQ N 0)))/\(w.alloc (.cells #[.slice a0 ys.length cap,.pointer (some (aQ N 0))] 57)).cell? (aQ N 0)=some (iV (psN (nmA ys) k:Nat))):=⟨ba,zW _ _ _ 0 rfl,zW _ _ _ 1 rfl,(h.bw ba).c0⟩
 clear h ba;obtain ⟨E,hE⟩:∃ E,(((psN (nmA ys) k:Nat):Int) == ((ys.length:Nat):Int))=E:=⟨_,rfl⟩
 have HE:Hid ((((psN (nmA ys) k:Nat):Int) == ((ys.length:Nat):Int))=E):=hE
 go_enter func58,ntmps58
 go_upto_region 1 with fail
 generalize w.alloc (.cells #[.slice a0 ys.length cap,.pointer (some (aQ N 0))] 57)=w1 at *;refine qag (fun w'=>w'.cell? (aQ w.heap.size 0)=some (.slice a0 ys.length cap)/\w'.cell? (aQ w.heap.size 1)=some (.pointer (some (aQ N 0)))/\w'.cell? (aQ N 0)=some (iV (psN (nmA ys) k:Nat))) (fun _=>false) (by kernel_rfl) ?_;have hHeld:(fun w':World=>w'.cell? (aQ w.heap.size 0)=some (.slice a0 ys.length cap)/\w'.cell? (aQ w.heap.size 1)=some (.pointer (some (aQ N 0)))/\w'.cell? (aQ N 0)=some (iV (psN (nmA ys) k:Nat))) w1.drew:=A0.2;have B1:Hid (Bw w w1.drew):=A0.1.drew;clear A0;refine qbb [0,1,2,3,4,5,6,7,8] ?_;iterate 9 (refine qbr rfl hHeld ?_)
 refine qa2 ?_;clear hHeld;refine yX ?_ _;go_wp2;go_ret;exact ⟨by rw [HE.out];rfl,B1.out⟩
structure RsJ (w wx:World) (N W0 X k np nh:Nat) (a0:Option Addr) (ys:List Int) (c:Nat->Nat) (vp vh:Value) (up uh:Nat->Value):Prop where
 rd:Rd wx N W0 a0 ys k
 p:LI true wx (Cl w.heap.size c 1) vp np up (fun i=>ctN (nmA ys) (kP (nmA ys) i)) (fun i=>itN (nmA ys) (kP (nmA ys) i+1))
 h:LE true wx (Cl w.heap.size c 4) vh nh uh (fun i=>ctN (nmA ys) (hP (nmA ys) i)) (fun i=>evN (nmA ys) (hP (nmA ys) i+1))
 bx:BoxC wx X vp nS nS vh
 fr:∀ j,wx.frozen? ⟨X,j,none⟩=false
 cX:c X=0
 xl:w.heap.size<=X
 gr:w.grownBy wx (some N)
 nl:N<w.heap.size
theorem rsX {z:Bool} {e:TypeId} {sz:Nat} {E:TypeId} {w w5:World} {B X q n:Nat} {c:Nat->Nat} {v:Value} {u:Nat->Value} {L:Nat->Nat} {cc:Nat->List Value} (hc:c X=0) (p:LL z e sz E w (Cl B c q) v n u L cc) (hq:q≠0) (hX:X<w.heap.size) (g:w.grownBy w5 v.ownBlock):w5.heap[X]? = w.heap[X]?:=g.block X hX (fun e=>by have:=(p.rb X e.symm).2;omega)
theorem qvf {w:World} {B sz n:Nat} {e:TypeId} {v:Value} {xs:List Value} (h:w.ownsRow B e sz v n xs):∃ a c,v=.slice a n c:=by
 rcases h.2 with ⟨rfl,h0⟩ | ⟨g,cp,cur,rfl,-⟩
 ·exact ⟨none,0,by rw [h0]⟩
 ·exact ⟨_,_,rfl⟩
theorem BoxC.ltR {w:World} {N:Nat} {p vr vo code:Value} (h:BoxC w N p vr vo code):N<w.heap.size:=zJ w _ h.1
theorem BoxC.blkR {w w':World} {N:Nat} {p vr vo code:Value} (h:BoxC w N p vr vo code) (hb:w'.heap[N]? = w.heap[N]?):BoxC w' N p vr vo code:=by
 obtain ⟨h0,h1,h2,h3⟩:=h;exact ⟨(zH hb).trans h0,(zH hb).trans h1,(zH hb).trans h2,(zH hb).trans h3⟩
theorem RsJ.putP {w wx w2 w5:World} {N W0 X k np nh j:Nat} {a0:Option Addr} {ys:List Int} {c:Nat->Nat} {vp vh u v':Value} {up uh:Nat->Value} (J:RsJ w wx N W0 X k np nh a0 ys c vp vh up uh) (hk:k=kP (nmA ys) np) (hs2:wx.heap.size<=w2.heap.size) (kb2:∀ b,b<wx.heap.size->b≠N->w2.heap[b]? = wx.heap[b]?) (hr2:Rd w2 N W0 a0 ys j) (hg2:w.grownBy w2 (some N)) (hu:w2.ownsRow wx.heap.size 45 5 u (ctN (nmA ys) k) (fI (itN (nmA ys) (k+1)) (ctN (nmA ys) k))) (hne:u≠nS) (hv:w5.ownsRow 0 42 1 v' (np+1) ((List.range np).map up ++ [u])) (g:w2.grownBy w5 vp.ownBlock) (hv':∀ j,v'.ownBlock=some j->vp.ownBlock=some j\/w2.heap.size<=j):RsJ w (w5.setCell ⟨X,0,none⟩ v') N W0 X j (np+1) nh a0 ys (rcol c wx.heap.size 1) v' vh (fun j=>if j=np then u else up j) uh:=by
 have hXl:=J.bx.ltR;have hnl:=J.nl;have hxl:=J.xl;have hge:=J.rd.ge;have pb:∀ b,vp.ownBlock=some b->w.heap.size<=b/\c b=1/\b<wx.heap.size:=fun b e=>⟨(J.p.rb b e).1,(J.p.rb b e).2,(J.p.row.lt b e).2⟩
 have k5:∀ b,b<wx.heap.size->b≠N->c b≠1->w5.heap[b]? = wx.heap[b]?:=fun b h1 h2 h3=>(g.block b (by omega) (fun e=>h3 (pb b e.symm).2.1)).trans (kb2 b h1 h2);have k6:∀ b,b≠X->(w5.setCell ⟨X,0,none⟩ v').heap[b]? = w5.heap[b]?:=fun b hb=>zO _ _ _ _ hb;have g6:w5.grownBy (w5.setCell (aQ X 0) v') (some X):=zV (World.grownBy.refl _ _) (.inl rfl) _;have hcX:c X≠1:=by rw [J.cX];decide
 have bX:=J.bx.blkR (k5 X hXl (by omega) hcX);have p5:=J.p.pushG (w1:=w2) (w2:=w5) (u':=u) (v':=v') (P':=Cl w.heap.size (rcol c wx.heap.size 1) 1) hs2 (fun b hb hl=>kb2 b hl (by have:=hb.1;omega)) (by have h9:=hu;rw [hk] at h9;exact h9) (fun _=>hne) hv g hv' (fun b hb hl=>⟨hb.1,(qam hl).trans hb.2⟩) (fun b h1 _=>⟨by have:=J.gr.size;omega,qad h1⟩);have h5:=(J.h.mono (P':=Cl w.heap.size (rcol c wx.heap.size 1) 4) (fun b hb hl=>⟨hb.1,(qam hl).trans hb.2⟩)).keep (w':=w5) fun b hb hl=>k5 b hl (by have:=hb.1;omega) (by have h9:=hb.2;rw [qam hl] at h9;rw [h9];decide);refine ⟨(hr2.kept g (fun b e=>by have:=pb b e;omega)).kept g6 (fun b e=>by cases e;omega),p5.keep fun b hb hl=>k6 b (fun e=>?_),h5.keep fun b hb hl=>k6 b (fun e=>?_),?_,fun i=>?_,(qam hXl).trans J.cX,hxl,(hg2.andThen g (fun b e=>.inl (pb b e).1)).andThen g6 (fun b e=>by cases e;exact .inl hxl),hnl⟩
 ·have h9:=hb.2
  rw [e,qam hXl,J.cX] at h9;cases h9
 ·have h9:=hb.2
  rw [e,qam hXl,J.cX] at h9;cases h9
 ·obtain ⟨b0,b1,b2,b3⟩:=bX
  exact ⟨by go_cell,by go_cell,by go_cell,by go_cell⟩
 ·rw [World.frozen?_setCell]
  exact (zI (k5 X hXl (by omega) hcX)).trans (J.fr i)
theorem RsJ.putE {w wx w2 w5:World} {N W0 X k np nh j:Nat} {a0:Option Addr} {ys:List Int} {c:Nat->Nat} {vp vh u v':Value} {up uh:Nat->Value} (J:RsJ w wx N W0 X k np nh a0 ys c vp vh up uh) (hk:k=hP (nmA ys) nh) (hs2:wx.heap.size<=w2.heap.size) (kb2:∀ b,b<wx.heap.size->b≠N->w2.heap[b]? = wx.heap[b]?) (hr2:Rd w2 N W0 a0 ys j) (hg2:w.grownBy w2 (some N)) (hu:w2.ownsRow wx.heap.size 49 3 u (ctN (nmA ys) k) (fE (evN (nmA ys) (k+1)) (ctN (nmA ys) k))) (hne:u≠nS) (hv:w5.ownsRow 0 50 1 v' (nh+1) ((List.range nh).map uh ++ [u])) (g:w2.grownBy w5 vh.ownBlock) (hv':∀ j,v'.ownBlock=some j->vh.ownBlock=some j\/w2.heap.size<=j):RsJ w (w5.setCell ⟨X,3,none⟩ v') N W0 X j np (nh+1) a0 ys (rcol c wx.heap.size 4) vp v' up (fun j=>if j=nh then u else uh j):=by
 have hXl:=J.bx.ltR;have hnl:=J.nl;have hxl:=J.xl;have hge:=J.rd.ge;have pb:∀ b,vh.ownBlock=some b->w.heap.size<=b/\c b=4/\b<wx.heap.size:=fun b e=>⟨(J.h.rb b e).1,(J.h.rb b e).2,(J.h.row.lt b e).2⟩
 have k5:∀ b,b<wx.heap.size->b≠N->c b≠4->w5.heap[b]? = wx.heap[b]?:=fun b h1 h2 h3=>(g.block b (by omega) (fun e=>h3 (pb b e.symm).2.1)).trans (kb2 b h1 h2);have k6:∀ b,b≠X->(w5.setCell ⟨X,3,none⟩ v').heap[b]? = w5.heap[b]?:=fun b hb=>zO _ _ _ _ hb;have g6:w5.grownBy (w5.setCell (aQ X 3) v') (some X):=zV (World.grownBy.refl _ _) (.inl rfl) _;have hcX:c X≠4:=by rw [J.cX];decide
 have bX:=J.bx.blkR (k5 X hXl (by omega) hcX);have h5:=J.h.pushG (w1:=w2) (w2:=w5) (u':=u) (v':=v') (P':=Cl w.heap.size (rcol c wx.heap.size 4) 4) hs2 (fun b hb hl=>kb2 b hl (by have:=hb.1;omega)) (by have h9:=hu;rw [hk] at h9;exact h9) (fun _=>hne) hv g hv' (fun b hb hl=>⟨hb.1,(qam hl).trans hb.2⟩) (fun b h1 _=>⟨by have:=J.gr.size;omega,qad h1⟩);have p5:=(J.p.mono (P':=Cl w.heap.size (rcol c wx.heap.size 4) 1) (fun b hb hl=>⟨hb.1,(qam hl).trans hb.2⟩)).keep (w':=w5) fun b hb hl=>k5 b hl (by have:=hb.1;omega) (by have h9:=hb.2;rw [qam hl] at h9;rw [h9];decide);refine ⟨(hr2.kept g (fun b e=>by have:=pb b e;omega)).kept g6 (fun b e=>by cases e;omega),p5.keep fun b hb hl=>k6 b (fun e=>?_),h5.keep fun b hb hl=>k6 b (fun e=>?_),?_,fun i=>?_,(qam hXl).trans J.cX,hxl,(hg2.andThen g (fun b e=>.inl (pb b e).1)).andThen g6 (fun b e=>by cases e;exact .inl hxl),hnl⟩
 ·have h9:=hb.2
  rw [e,qam hXl,J.cX] at h9;cases h9
 ·have h9:=hb.2
  rw [e,qam hXl,J.cX] at h9;cases h9
 ·obtain ⟨b0,b1,b2,b3⟩:=bX
  exact ⟨by go_cell,by go_cell,by go_cell,by go_cell⟩
 ·rw [World.frozen?_setCell]
  exact (zI (k5 X hXl (by omega) hcX)).trans (J.fr i)
def RpP (w wx:World) (N W0 X k np nh:Nat) (a0:Option Addr) (ys:List Int) (c:Nat->Nat) (_vp vh:Value) (_up uh:Nat->Value) (e:Ending) (w':World):Prop:=e=.returned (.bool (lsK (nmA ys) 5 30 k).isSome)/\w.grownBy w' (some N)/\(∀ b,b<wx.heap.size->c b=0->b≠N->b≠X->w'.heap[b]? = wx.heap[b]?)/\(∀ j,lsK (nmA ys) 5 30 k=some j->∃ vp' up',RsJ w w' N W0 X j (np+1) nh a0 ys (rcol c wx.heap.size 1) vp' vh up' uh)
theorem qmk (a0:Option Addr) (cap N W0 X k np nh:Nat) (ys:List Int) (c:Nat->Nat) (vp vh:Value) (up uh:Nat->Value) (w wx:World) (hlen:ys.length<=1048576) (hcap:ys.length<=cap) (hb:By ys) (h:RsJ w wx N W0 X k np nh a0 ys c vp vh up uh) (hn:np<=1000) (hh:nh<=1000) (hk:k=kP (nmA ys) np):
  Calls prog 56 #[.agg #[.slice a0 ys.length cap,.pointer (some (aQ N 0))],.pointer (some (aQ X 0))] wx (RpP w wx N W0 X k np nh a0 ys c vp vh up uh):=by
 have HJ:Hid (RsJ w wx N W0 X k np nh a0 ys c vp vh up uh/\np<=1000/\nh<=1000):=⟨h,hn,hh⟩
 have HRl:Hid (∀ wy,Rd wy N W0 a0 ys k->Calls prog 93 #[.agg #[.slice a0 ys.length cap,.pointer (some ⟨N,0,none⟩)],iV 30,.func (.func 94) #[] #[]] wy (RlP 5 45 (fun k n=>fI (itN (nmA ys) k) n) wy N W0 a0 ys 30 k)):=fun wy hy=>qkn a0 cap N W0 k 30 ys wy hlen hcap hb (by omega) hy;have ba:=zT wx (.cells #[.slice a0 ys.length cap,.pointer (some (aQ N 0))] 57);have A0:Hid (Bw wx (wx.alloc (.cells #[.slice a0 ys.length cap,.pointer (some (aQ N 0))] 57))/\(wx.alloc (.cells #[.slice a0 ys.length cap,.pointer (some (aQ N 0))] 57)).cell? (aQ wx.heap.size 0)=some (.slice a0 ys.length cap)/\(wx.alloc (.cells #[.slice a0 ys.length cap,.pointer (some (aQ N 0))] 57)).cell? (aQ wx.heap.size 1)=some (.pointer (some (aQ N 0)))/\(wx.alloc (.cells #[.slice a0 ys.length cap,.pointer (some (aQ N 0))] 57)).heap.size=wx.heap.size+1):=⟨ba,zW _ _ _ 0 rfl,zW _ _ _ 1 rfl,by simp⟩
 have HK:Hid (k=kP (nmA ys) np):=hk;clear ba h hn hh hlen hcap hb hk
 go_enter func56,ntmps56
 go_upto_region 1 with fail
 generalize wx.alloc (.cells #[.slice a0 ys.length cap,.pointer (some (aQ N 0))] 57)=w1 at *;have r0:=A0.2.1;have r1:=A0.2.2.1;go_wp2_with fail
 clear r0 r1;refine (HRl.out w1 (HJ.1.rd.bw A0.1)).mono ?_;rintro e w2 ⟨u,k',rfl,hr2,hu0,hu1,hg2⟩;have hsz:=A0.2.2.2;have hXl:X<wx.heap.size:=HJ.1.bx.ltR;have hNl:=HJ.1.nl;have hXw:=HJ.1.xl;have kb2:∀ b,b<wx.heap.size->b≠N->w2.heap[b]? = wx.heap[b]?:=fun b h1 h2=>(hg2.block b (by omega) (by simpa using h2)).trans (A0.1.block b h1);have hs2:wx.heap.size<=w2.heap.size:=by have:=hg2.size;omega
 have G2:Hid (Rd w2 N W0 a0 ys k'/\(∀ b,b<wx.heap.size->b≠N->w2.heap[b]? = wx.heap[b]?)/\w.grownBy w2 (some N)/\wx.heap.size<=w2.heap.size):=⟨hr2,kb2,(HJ.1.gr.andThen (zZ A0.1) (fun j hj=>by cases hj)).trans hg2,hs2⟩
 have G3:Hid (BoxC w2 X vp nS nS vh/\(∀ j,w2.frozen? ⟨X,j,none⟩=false)/\LI true w2 (Cl w.heap.size c 1) vp np up (fun i=>ctN (nmA ys) (kP (nmA ys) i)) (fun i=>itN (nmA ys) (kP (nmA ys) i+1))/\LE true w2 (Cl w.heap.size c 4) vh nh uh (fun i=>ctN (nmA ys) (hP (nmA ys) i)) (fun i=>evN (nmA ys) (hP (nmA ys) i+1))):=
  ⟨HJ.1.bx.blkR (kb2 X hXl (by omega)),fun j=>(zI (kb2 X hXl (by omega))).trans (HJ.1.fr j),HJ.1.p.keep fun b hb hl=>kb2 b hl (by have:=hb.1;omega),HJ.1.h.keep fun b hb hl=>kb2 b hl (by have:=hb.1;omega)⟩
 have HU:Hid ((lsK (nmA ys) 5 30 k=none->u=nS)/\(∀ j,lsK (nmA ys) 5 30 k=some j->k'=j/\w2.ownsRow w1.heap.size 45 5 u (ctN (nmA ys) k) (fI (itN (nmA ys) (k+1)) (ctN (nmA ys) k))/\u≠nS)):=⟨hu0,hu1⟩
 obtain ⟨D,hD⟩:∃ D,(lsK (nmA ys) 5 30 k).isSome=D:=⟨_,rfl⟩
 have HD:Hid ((lsK (nmA ys) 5 30 k).isSome=D):=hD;rw [hD]
 obtain ⟨ua,un,uc,hue⟩:∃ (ua:Option Addr) (un uc:Nat),u=.slice ua un uc:=by
  cases hl:lsK (nmA ys) 5 30 k with
  | none=>exact ⟨none,0,0,hu0 hl⟩
  | some j=>
   rcases (hu1 j hl).2.1.2 with ⟨e,-⟩ | ⟨g,cp,cur,e,-⟩
   ·exact ⟨_,_,_,e⟩
   ·exact ⟨_,_,_,e⟩
 subst hue;have HS:Hid (wx.heap.size<w1.heap.size):=by show _<_;omega
 clear hr2 hu0 hu1 hg2 hsz hXl hNl hXw kb2 hs2 hD HRl A0;obtain ⟨b0,b1,b2,b3⟩:=G3.1;have f3:=G3.2.1 0;have hrow:=G3.2.2.1.row;have hlen2:Hid (np<=2000000):=by have:=HJ.2;show np<=2000000;omega
 have HRow:Hid (w2.ownsRow 0 42 1 vp np ((List.range np).map up)):=hrow;clear hrow;go_wp2_with (at_builtin;refine qai qqk w2 rfl rfl _ _ rfl 0 vp np _ rfl HRow.out #[.slice ua un uc] rfl rfl (by intro z hz;simp at hz;rw [hz];rfl) hlen2.out (nD _) ?_;intro v5 w5 o5 g5 q5 n5;obtain ⟨va,vc,rfl⟩:=qvf o5;have F5:Hid (w5.ownsRow 0 42 1 (.slice va (np+1) vc) (np+1) ((List.range np).map up ++ [.slice ua un uc])/\w2.grownBy w5 (vp).ownBlock/\(∀ j,(Value.slice va (np+1) vc).ownBlock=some j->(vp).ownBlock=some j\/w2.heap.size<=j)):=⟨o5,g5,q5⟩;have X5:Hid (BoxC w5 X vp nS nS vh/\∀ j,w5.frozen? ⟨X,j,none⟩=false):=⟨G3.1.blkR (rsX HJ.1.cX G3.2.2.1 (by decide) G3.1.ltR g5),fun j=>(zI (rsX HJ.1.cX G3.2.2.1 (by decide) G3.1.ltR g5)).trans (G3.2.1 j)⟩;clear b0 b1 b2 b3 f3;obtain ⟨b0,b1,b2,b3⟩:=X5.1;have f3:=X5.2 0;clear o5 g5 q5 n5)
 have HE:Hid (RpP w wx N W0 X k np nh a0 ys c vp vh up uh (.returned (.bool D)) (w5.setCell (aQ X 0) (.slice va (np+1) vc))):=by
  have hxl:=HJ.1.xl;have hXl:=HJ.1.bx.ltR;have pb:∀ b,(vp).ownBlock=some b->w.heap.size<=b/\c b=1:=fun b e=>⟨(HJ.1.p.rb b e).1,(HJ.1.p.rb b e).2⟩
  have g6:w5.grownBy (w5.setCell (aQ X 0) (.slice va (np+1) vc)) (some X):=zV (World.grownBy.refl _ _) (.inl rfl) _;refine ⟨by rw [HD.out],(G2.2.2.1.andThen F5.2.1 (fun b e=>.inl (pb b e).1)).andThen g6 (fun b e=>by cases e;exact .inl hxl),fun b h1 h2 h3 h4=>?_,fun j hj=>?_⟩
  ·refine (zO w5 ⟨X,0,none⟩ _ b h4).trans ((F5.2.1.block b (by have:=G2.2.2.2;omega) (fun e=>?_)).trans (G2.2.1 b h1 h3))
   have:=(pb b e.symm).2;omega
  ·obtain ⟨e1,e2,e3⟩:=HU.2 j hj
   subst e1;exact ⟨_,_,HJ.1.putP HK.out G2.2.2.2 G2.2.1 G2.1 G2.2.2.1 (e2.mono (nJ HS.out)) e3 F5.1 F5.2.1 F5.2.2⟩
 clear G2 G3 F5 HU HJ;exact bodyPost_ret (v:=.bool D) (by simp [results,results56,go_sem]) rfl HE.out
def RqvP (w wx:World) (N W0 X k np nh:Nat) (a0:Option Addr) (ys:List Int) (c:Nat->Nat) (vp _vh:Value) (up _uh:Nat->Value) (e:Ending) (w':World):Prop:=e=.returned (.bool (lsK (nmA ys) 3 200 k).isSome)/\w.grownBy w' (some N)/\(∀ b,b<wx.heap.size->c b=0->b≠N->b≠X->w'.heap[b]? = wx.heap[b]?)/\(∀ j,lsK (nmA ys) 3 200 k=some j->∃ vh' uh',RsJ w w' N W0 X j np (nh+1) a0 ys (rcol c wx.heap.size 4) vp vh' up uh')
theorem qiz (a0:Option Addr) (cap N W0 X k np nh:Nat) (ys:List Int) (c:Nat->Nat) (vp vh:Value) (up uh:Nat->Value) (w wx:World) (hlen:ys.length<=1048576) (hcap:ys.length<=cap) (hb:By ys) (h:RsJ w wx N W0 X k np nh a0 ys c vp vh up uh) (hn:np<=1000) (hh:nh<=1000) (hk:k=hP (nmA ys) nh):
  Calls prog 57 #[.agg #[.slice a0 ys.length cap,.pointer (some (aQ N 0))],.pointer (some (aQ X 0))] wx (RqvP w wx N W0 X k np nh a0 ys c vp vh up uh):=by
 have HJ:Hid (RsJ w wx N W0 X k np nh a0 ys c vp vh up uh/\np<=1000/\nh<=1000):=⟨h,hn,hh⟩
 have HRl:Hid (∀ wy,Rd wy N W0 a0 ys k->Calls prog 95 #[.agg #[.slice a0 ys.length cap,.pointer (some ⟨N,0,none⟩)],iV 200,.func (.func 96) #[] #[]] wy (RlP 3 49 (fun k n=>fE (evN (nmA ys) k) n) wy N W0 a0 ys 200 k)):=fun wy hy=>qkm a0 cap N W0 k 200 ys wy hlen hcap hb (by omega) hy;have ba:=zT wx (.cells #[.slice a0 ys.length cap,.pointer (some (aQ N 0))] 57);have A0:Hid (Bw wx (wx.alloc (.cells #[.slice a0 ys.length cap,.pointer (some (aQ N 0))] 57))/\(wx.alloc (.cells #[.slice a0 ys.length cap,.pointer (some (aQ N 0))] 57)).cell? (aQ wx.heap.size 0)=some (.slice a0 ys.length cap)/\(wx.alloc (.cells #[.slice a0 ys.length cap,.pointer (some (aQ N 0))] 57)).cell? (aQ wx.heap.size 1)=some (.pointer (some (aQ N 0)))/\(wx.alloc (.cells #[.slice a0 ys.length cap,.pointer (some (aQ N 0))] 57)).heap.size=wx.heap.size+1):=⟨ba,zW _ _ _ 0 rfl,zW _ _ _ 1 rfl,by simp⟩
 have HK:Hid (k=hP (nmA ys) nh):=hk;clear ba h hn hh hlen hcap hb hk
 go_enter func57,ntmps57
 go_upto_region 1 with fail
 generalize wx.alloc (.cells #[.slice a0 ys.length cap,.pointer (some (aQ N 0))] 57)=w1 at *;have r0:=A0.2.1;have r1:=A0.2.2.1;go_wp2_with fail
 clear r0 r1;refine (HRl.out w1 (HJ.1.rd.bw A0.1)).mono ?_;rintro e w2 ⟨u,k',rfl,hr2,hu0,hu1,hg2⟩;have hsz:=A0.2.2.2;have hXl:X<wx.heap.size:=HJ.1.bx.ltR;have hNl:=HJ.1.nl;have hXw:=HJ.1.xl;have kb2:∀ b,b<wx.heap.size->b≠N->w2.heap[b]? = wx.heap[b]?:=fun b h1 h2=>(hg2.block b (by omega) (by simpa using h2)).trans (A0.1.block b h1);have hs2:wx.heap.size<=w2.heap.size:=by have:=hg2.size;omega
 have G2:Hid (Rd w2 N W0 a0 ys k'/\(∀ b,b<wx.heap.size->b≠N->w2.heap[b]? = wx.heap[b]?)/\w.grownBy w2 (some N)/\wx.heap.size<=w2.heap.size):=⟨hr2,kb2,(HJ.1.gr.andThen (zZ A0.1) (fun j hj=>by cases hj)).trans hg2,hs2⟩
 have G3:Hid (BoxC w2 X vp nS nS vh/\(∀ j,w2.frozen? ⟨X,j,none⟩=false)/\LI true w2 (Cl w.heap.size c 1) vp np up (fun i=>ctN (nmA ys) (kP (nmA ys) i)) (fun i=>itN (nmA ys) (kP (nmA ys) i+1))/\LE true w2 (Cl w.heap.size c 4) vh nh uh (fun i=>ctN (nmA ys) (hP (nmA ys) i)) (fun i=>evN (nmA ys) (hP (nmA ys) i+1))):=
  ⟨HJ.1.bx.blkR (kb2 X hXl (by omega)),fun j=>(zI (kb2 X hXl (by omega))).trans (HJ.1.fr j),HJ.1.p.keep fun b hb hl=>kb2 b hl (by have:=hb.1;omega),HJ.1.h.keep fun b hb hl=>kb2 b hl (by have:=hb.1;omega)⟩
 have HU:Hid ((lsK (nmA ys) 3 200 k=none->u=nS)/\(∀ j,lsK (nmA ys) 3 200 k=some j->k'=j/\w2.ownsRow w1.heap.size 49 3 u (ctN (nmA ys) k) (fE (evN (nmA ys) (k+1)) (ctN (nmA ys) k))/\u≠nS)):=⟨hu0,hu1⟩
 obtain ⟨D,hD⟩:∃ D,(lsK (nmA ys) 3 200 k).isSome=D:=⟨_,rfl⟩
 have HD:Hid ((lsK (nmA ys) 3 200 k).isSome=D):=hD;rw [hD]
 obtain ⟨ua,un,uc,hue⟩:∃ (ua:Option Addr) (un uc:Nat),u=.slice ua un uc:=by
  cases hl:lsK (nmA ys) 3 200 k with
  | none=>exact ⟨none,0,0,hu0 hl⟩
  | some j=>
   rcases (hu1 j hl).2.1.2 with ⟨e,-⟩ | ⟨g,cp,cur,e,-⟩
   ·exact ⟨_,_,_,e⟩
   ·exact ⟨_,_,_,e⟩
 subst hue;have HS:Hid (wx.heap.size<w1.heap.size):=by show _<_;omega
 clear hr2 hu0 hu1 hg2 hsz hXl hNl hXw kb2 hs2 hD HRl A0;obtain ⟨b0,b1,b2,b3⟩:=G3.1;have f3:=G3.2.1 3;have hrow:=G3.2.2.2.row;have hlen2:Hid (nh<=2000000):=by have:=HJ.2;show nh<=2000000;omega
 have HRow:Hid (w2.ownsRow 0 50 1 vh nh ((List.range nh).map uh)):=hrow;clear hrow;go_wp2_with (at_builtin;refine qai qqj w2 rfl rfl _ _ rfl 0 vh nh _ rfl HRow.out #[.slice ua un uc] rfl rfl (by intro z hz;simp at hz;rw [hz];rfl) hlen2.out (nD _) ?_;intro v5 w5 o5 g5 q5 n5;obtain ⟨va,vc,rfl⟩:=qvf o5;have F5:Hid (w5.ownsRow 0 50 1 (.slice va (nh+1) vc) (nh+1) ((List.range nh).map uh ++ [.slice ua un uc])/\w2.grownBy w5 (vh).ownBlock/\(∀ j,(Value.slice va (nh+1) vc).ownBlock=some j->(vh).ownBlock=some j\/w2.heap.size<=j)):=⟨o5,g5,q5⟩;have X5:Hid (BoxC w5 X vp nS nS vh/\∀ j,w5.frozen? ⟨X,j,none⟩=false):=⟨G3.1.blkR (rsX HJ.1.cX G3.2.2.2 (by decide) G3.1.ltR g5),fun j=>(zI (rsX HJ.1.cX G3.2.2.2 (by decide) G3.1.ltR g5)).trans (G3.2.1 j)⟩;clear b0 b1 b2 b3 f3;obtain ⟨b0,b1,b2,b3⟩:=X5.1;have f3:=X5.2 3;clear o5 g5 q5 n5)
 have HE:Hid (RqvP w wx N W0 X k np nh a0 ys c vp vh up uh (.returned (.bool D)) (w5.setCell (aQ X 3) (.slice va (nh+1) vc))):=by
  have hxl:=HJ.1.xl;have hXl:=HJ.1.bx.ltR;have pb:∀ b,(vh).ownBlock=some b->w.heap.size<=b/\c b=4:=fun b e=>⟨(HJ.1.h.rb b e).1,(HJ.1.h.rb b e).2⟩
  have g6:w5.grownBy (w5.setCell (aQ X 3) (.slice va (nh+1) vc)) (some X):=zV (World.grownBy.refl _ _) (.inl rfl) _;refine ⟨by rw [HD.out],(G2.2.2.1.andThen F5.2.1 (fun b e=>.inl (pb b e).1)).andThen g6 (fun b e=>by cases e;exact .inl hxl),fun b h1 h2 h3 h4=>?_,fun j hj=>?_⟩
  ·refine (zO w5 ⟨X,3,none⟩ _ b h4).trans ((F5.2.1.block b (by have:=G2.2.2.2;omega) (fun e=>?_)).trans (G2.2.1 b h1 h3))
   have:=(pb b e.symm).2;omega
  ·obtain ⟨e1,e2,e3⟩:=HU.2 j hj
   subst e1;exact ⟨_,_,HJ.1.putE HK.out G2.2.2.2 G2.2.1 G2.1 G2.2.2.1 (e2.mono (nJ HS.out)) e3 F5.1 F5.2.1 F5.2.2⟩
 clear G2 G3 F5 HU HJ;exact bodyPost_ret (v:=.bool D) (by simp [results,results57,go_sem]) rfl HE.out
def rsY (ys:List Int) (np nh:Nat):Sy where
 pn:=np
 pL:=fun i=>ctN (nmA ys) (kP (nmA ys) i)
 pH:=fun i=>itN (nmA ys) (kP (nmA ys) i+1)
 sn:=0
 sS:=fun _=>⟨0,[],[],0⟩
 wn:=0
 wL:=fun _=>0
 wH:=fun _ _=>⟨false,0⟩
 hn:=nh
 hL:=fun i=>ctN (nmA ys) (hP (nmA ys) i)
 hH:=fun i=>evN (nmA ys) (hP (nmA ys) i+1)
theorem RsJ.own {w wx:World} {N W0 X k np nh:Nat} {a0:Option Addr} {ys:List Int} {c:Nat->Nat} {vp vh:Value} {up uh:Nat->Value} (J:RsJ w wx N W0 X k np nh a0 ys c vp vh up uh):OwnS false wx w.heap.size c (rsY ys np nh) vp nS nS vh up (fun _=>.slice none 0 0) (fun _=>.slice none 0 0) uh:=
 ⟨J.p.weak,LS.nil _ _ _ _,LL.nil _ _ _ _ _ _ _ _,J.h.weak⟩
theorem RsJ.start {w wx:World} {N W0 X k:Nat} {a0:Option Addr} {ys:List Int} {c:Nat->Nat} (rd:Rd wx N W0 a0 ys k) (bx:BoxC wx X nS nS nS nS) (fr:∀ j,wx.frozen? ⟨X,j,none⟩=false) (cX:c X=0) (xl:w.heap.size<=X) (gr:w.grownBy wx (some N)) (nl:N<w.heap.size) (up uh:Nat->Value):RsJ w wx N W0 X k 0 0 a0 ys c nS nS up uh:=
 ⟨rd,LL.nil _ _ _ _ _ _ _ _,LL.nil _ _ _ _ _ _ _ _,bx,fr,cX,xl,gr,nl⟩
def rsB (ys:List Int):Bool:=decide (0<(nmA ys).length/\1<=zi (nmA ys) 0/\zi (nmA ys) 0<=4) && ((prK (nmA ys) (ctN (nmA ys) 0)).isSome && ((psN (nmA ys) (kP (nmA ys) (ctN (nmA ys) 0)):Nat):Int) == ((ys.length:Nat):Int))
theorem qvb {N:List Int} {n:Nat} (h:(prK N n).isSome=true):(prK N (n+1)).isSome=((lsK N 5 30 (kP N n)).isSome && (lsK N 3 200 (hP N n)).isSome):=by
 unfold kP hP kP;rw [prK];cases hp:prK N n with
 | none=>rw [hp] at h;cases h
 | some k=>
  simp only [Option.bind_some,Option.getD_some];cases h1:lsK N 5 30 k with
  | none=>rfl
  | some j=>
   obtain ⟨-,-,-,e,-⟩:=qcq h1;rw [<- e];simp
def rdN (M:List Int) (w:Nat) (m:Int) (j:Nat):Nat:=if j<=M.length then min m.toNat ((M.length - j) / w+1) else 0
theorem qtg {M:List Int} {w j i:Nat} {m:Int} (hw:0<w):i<rdN M w m j ↔ (i:Int)<m/\j+w*i<=M.length:=by
 unfold rdN
 split
 ·rename_i h
  rw [Nat.lt_min,Nat.lt_succ_iff,Nat.le_div_iff_mul_le hw,Nat.mul_comm i w];omega
 ·rename_i h
  constructor
  ·intro h9
   omega
  ·rintro ⟨-,h9⟩
   exact absurd (zP (Nat.le_add_right _ _) h9) h
theorem qwp {M:List Int} {w j:Nat} {m:Int} (_:0<w):rdN M w m j<=M.length+1:=by
 unfold rdN
 split
 ·have:=Nat.div_le_self (M.length - j) w
  omega
 ·omega
theorem qte {M:List Int} {w j:Nat} {m:Int} (hw:0<w) (h:j+w*rdN M w m j<=M.length):rdN M w m j=m.toNat:=by
 have h2:¬ ((rdN M w m j:Nat):Int)<m:=fun h9=>Nat.lt_irrefl _ ((qtg (M:=M) (m:=m) (j:=j) (i:=rdN M w m j) hw).2 ⟨h9,h⟩)
 have h3:rdN M w m j<=m.toNat:=by
  unfold rdN
  split <;> omega
 omega
def mQ (M:List Int) (k:Nat):Nat:=k+1+5*rdN M 5 (zi M k) (k+1)
def mR (M:List Int) (k:Nat):Nat:=k+1+3*rdN M 3 (zi M k) (k+1)
def mP (M:List Int):Nat->Nat
 | 0=>1
 | p+1=>mR M (mQ M (mP M p))
def mH (M:List Int) (p:Nat):Nat:=mQ M (mP M p)
theorem qxl (M:List Int) (p:Nat):mP M p<mH M p/\mH M p<mP M (p+1):=by
 refine ⟨?_,?_⟩
 ·unfold mH mQ
  omega
 ·show mH M p<mR M (mH M p)
  unfold mR;omega
theorem qsn (M:List Int):∀ p,2*p+1<=mP M p
 | 0=>by show 1<=1;omega
 | p+1=>by
  have:=qsn M p;have:=qxl M p;omega
theorem qj9 (M:List Int):∀ {p q:Nat},p<=q->mP M p<=mP M q
 | p,0,h=>by
  have:p=0:=by omega
  subst this;exact nA _
 | p,q+1,h=>by
  by_cases e:p=q+1
  ·subst e
   exact nA _
  ·have:=qj9 M (p:=p) (q:=q) (by omega)
   have:=qxl M q;omega
def mdY (ys:List Int) (P:Nat):Sy where
 pn:=P
 pL:=fun i=>rdN (nmA ys) 5 (zi (nmA ys) (mP (nmA ys) i)) (mP (nmA ys) i+1)
 pH:=fun i=>itN (nmA ys) (mP (nmA ys) i+1)
 sn:=0
 sS:=fun _=>⟨0,[],[],0⟩
 wn:=0
 wL:=fun _=>0
 wH:=fun _ _=>⟨false,0⟩
 hn:=P
 hL:=fun i=>rdN (nmA ys) 3 (zi (nmA ys) (mH (nmA ys) i)) (mH (nmA ys) i+1)
 hH:=fun i=>evN (nmA ys) (mH (nmA ys) i+1)
def MdP (M:List Int) (P:Nat):Prop:=(∀ p,p<P->(p:Int)<zi M 0/\mP M p<=M.length)/\¬ ((P:Int)<zi M 0/\mP M P<=M.length)
theorem MdP.le {M:List Int} {P:Nat} (h:MdP M P):P<=M.length+1:=by
 rcases Nat.eq_zero_or_pos P with e | e
 ·omega
 ·have h1:=(h.1 (P - 1) (by omega)).2
  have h2:=qsn M (P - 1);omega
theorem qwf {M:List Int} {P:Nat} (h:mP M P<=M.length):∀ p,p<P->rdN M 5 (zi M (mP M p)) (mP M p+1)=ctN M (mP M p)/\rdN M 3 (zi M (mH M p)) (mH M p+1)=ctN M (mH M p)/\mP M p<M.length/\mH M p<M.length/\mH M p=mP M p+1+5*ctN M (mP M p)/\mP M (p+1)=mH M p+1+3*ctN M (mH M p):=fun p hp=>by
 have h1:=qj9 M (p:=p+1) (q:=P) hp;have h2:=qxl M p;have e1:rdN M 5 (zi M (mP M p)) (mP M p+1)=ctN M (mP M p):=qte (by omega) (by have:mH M p=mP M p+1+5*rdN M 5 (zi M (mP M p)) (mP M p+1):=rfl;omega);have e2:rdN M 3 (zi M (mH M p)) (mH M p+1)=ctN M (mH M p):=qte (by omega) (by have:mP M (p+1)=mH M p+1+3*rdN M 3 (zi M (mH M p)) (mH M p+1):=rfl;omega);refine ⟨e1,e2,by omega,by omega,?_,?_⟩
 ·show mQ M (mP M p)=_
  unfold mQ;rw [e1]
 ·show mR M (mH M p)=_
  unfold mR;rw [e2]
theorem qph {M:List Int}:∀ {n:Nat},(prK M n).isSome=true->mP M n=kP M n/\mP M n<=M.length\/n=0
 | 0,_=>.inr rfl
 | n+1,h=>by
  obtain ⟨h1,h2,h3⟩:=qmi h
  have e0:mP M n=kP M n:=by
   rcases qph h1 with h9 | rfl
   ·exact h9.1
   ·rfl
  obtain ⟨a1,a2,a3,a4,a5⟩:=qcq h2;obtain ⟨b1,b2,b3,b4,b5⟩:=qcq h3
  have e1:rdN M 5 (zi M (mP M n)) (mP M n+1)=ctN M (kP M n):=by
   rw [e0];unfold rdN;rw [nC (by omega),a2,nF,Nat.min_eq_left]
   have:ctN M (kP M n)<=(M.length - (kP M n+1)) / 5:=by
    rw [Nat.le_div_iff_mul_le (by omega)];omega
   omega
  have e2:mH M n=hP M n:=by
   show mQ M (mP M n)=_;unfold mQ;rw [e1,e0];rfl
  have e3:rdN M 3 (zi M (mH M n)) (mH M n+1)=ctN M (hP M n):=by
   rw [e2];unfold rdN;rw [nC (by omega),b2,nF,Nat.min_eq_left]
   have:ctN M (hP M n)<=(M.length - (hP M n+1)) / 3:=by
    rw [Nat.le_div_iff_mul_le (by omega)];omega
   omega
  refine .inl ⟨?_,?_⟩
  ·show mR M (mH M n)=_
   unfold mR;rw [e3,e2,b4]
  ·show mR M (mH M n)<=_
   unfold mR;rw [e3,e2];omega
def mdD (ys:List Int) (P:Nat):Nat->Nat:=cN (flT (mdY ys P) P)
noncomputable def umB (ys:List Int) (P:Nat):Bool:=decide (mP (nmA ys) P<=(nmA ys).length) && (decide (psN (nmA ys) (mP (nmA ys) P)=ys.length) && (snB P (mdY ys P).pL (mdY ys P).pH && (wfB ((mdY ys P).ah (mdD ys P)) && (pkT ((mdY ys P).atW (mdD ys P)) && decide (pkS ((mdY ys P).atW (mdD ys P))=ys)))))
def rY (ys:List Int):Sy:=rsY ys (ctN (nmA ys) 0) (ctN (nmA ys) 0)
noncomputable def upB (ys:List Int):Bool:=rsB ys && (ctB (rY ys) (rY ys).hL && (ctS (rY ys) (rY ys).hL).okB)
noncomputable def upS (ys:List Int):Sy:=if upB ys=true then (rY ys).atY (rY ys).hL else (rY ys).nil
theorem Hs.Put.out {x:Hs} {d:Nat->Nat} (h:x.Put d):∀ i,x.n<=i->d i=0:=by
 induction h with
 | start=>exact fun _ _=>rfl
 | next _ hp _ ih=>
  intro i hi;rw [up_other (by omega)];exact ih i hi
theorem Hs.Put.same {x x':Hs} (hn:x'.n=x.n) (he:∀ p,p<x.n->x'.l p=x.l p/\x'.e p=x.e p) {d:Nat->Nat} (h:x.Put d):x'.Put d:=by
 induction h with
 | start=>exact .start
 | next h0 hp hc ih=>
  rename_i d p;refine .next ih (by omega) ⟨?_,fun h3=>?_⟩
  ·rw [(he p hp).1]
   exact hc.1
  ·rw [(he p hp).2] at h3 ⊢
   have h9:=hc.2 h3;by_cases hq:(x.e p (d p)).q.toNat<x.n
   ·rw [(he _ hq).2]
    exact h9
   ·rw [h0.out (x.e p (d p)).q.toNat (Nat.le_of_not_lt hq)] at h9
    exact absurd h9 (Nat.not_lt_zero _)
structure Sy.Eqv (t y:Sy):Prop where
 pn:t.pn=y.pn
 p:∀ i,i<y.pn->t.pL i=y.pL i/\t.pH i=y.pH i
 sn:t.sn=y.sn
 s:∀ i,i<y.sn->t.sS i=y.sS i
 wn:t.wn=y.wn
 w:∀ i,i<y.wn->t.wL i=y.wL i/\t.wH i=y.wH i
 hn:t.hn=y.hn
 h:∀ i,i<y.hn->t.hL i=y.hL i/\t.hH i=y.hH i
theorem Sy.Eqv.symm {t y:Sy} (e:t.Eqv y):y.Eqv t:=
 ⟨e.pn.symm,fun i hi=>⟨(e.p i (e.pn ▸ hi)).1.symm,(e.p i (e.pn ▸ hi)).2.symm⟩,e.sn.symm,fun i hi=>(e.s i (e.sn ▸ hi)).symm,e.wn.symm,fun i hi=>⟨(e.w i (e.wn ▸ hi)).1.symm,(e.w i (e.wn ▸ hi)).2.symm⟩,e.hn.symm,fun i hi=>⟨(e.h i (e.hn ▸ hi)).1.symm,(e.h i (e.hn ▸ hi)).2.symm⟩⟩
theorem Sy.Eqv.ok {t y:Sy} (e:t.Eqv y) (h:y.Ok):t.Ok:=by
 obtain ⟨hc,hs,hh,hw⟩:=h.cn;have e1:∀ p,p<y.pn->t.pL p=y.pL p/\t.pH p=y.pH p/\t.sS p=y.sS p/\t.hL p=y.hL p/\t.hH p=y.hH p:=fun p hp=>⟨(e.p p hp).1,(e.p p hp).2,e.s p (by omega),(e.h p (by omega)).1,(e.h p (by omega)).2⟩
 refine ⟨?_,fun p hp=>?_,fun p hp=>?_,fun p hp i hi=>?_,fun a ha b hb=>?_,?_⟩
 ·rw [e.pn,e.sn,e.hn,e.wn]
  exact h.cn
 ·rw [e.pn] at hp ⊢
  obtain ⟨a1,a2,-⟩:=e1 p hp;rw [a1,a2];exact h.pr p hp
 ·rw [e.pn] at hp
  obtain ⟨a1,a2,a3,a4,a5⟩:=e1 p hp;rw [a1,a2,a3,a4,a5];exact h.rp p hp
 ·rw [e.pn] at hp ⊢
  obtain ⟨a1,a2,a3,a4,a5⟩:=e1 p hp;rw [a4] at hi;rw [a5];exact h.pe p hp i hi
 ·rw [e.pn] at ha hb ⊢
  have hab:a*y.pn+b<y.wn:=by
   have h2:(a+1)*y.pn<=y.pn*y.pn:=Nat.mul_le_mul_right y.pn (by omega);rw [Nat.add_mul,Nat.one_mul] at h2;omega
  obtain ⟨-,-,-,a4,a5⟩:=e1 a ha;obtain ⟨-,-,-,b4,b5⟩:=e1 b hb;rw [(e.w _ hab).1,(e.w _ hab).2,a4,a5,b4,b5];exact h.wa a ha b hb
 ·obtain ⟨d,hd,hall⟩:=h.ro
  refine ⟨d,hd.same e.pn (fun p hp=>?_),fun p hp=>?_⟩
  ·obtain ⟨-,-,-,a4,a5⟩:=e1 p hp
   exact ⟨a4,a5⟩
  ·have hp':p<y.pn:=by
    have h9:p<t.pn:=hp;rw [e.pn] at h9;exact h9
   exact (hall p hp').trans (e1 p hp').2.2.2.1.symm
theorem LL.same {z:Bool} {e:TypeId} {sz:Nat} {E:TypeId} {w:World} {P:Nat->Prop} {v:Value} {n:Nat} {u:Nat->Value} {L L':Nat->Nat} {c c':Nat->List Value} (o:LL z e sz E w P v n u L c) (h:∀ i,i<n->L' i=L i/\c' i=c i):LL z e sz E w P v n u L' c':=
 ⟨o.row,fun i hi=>by rw [(h i hi).1,(h i hi).2];exact o.own i hi,o.rb,o.ob,o.ra,o.oa,o.nn⟩
theorem Sy.Eqv.own {t y:Sy} (e:t.Eqv y) {z:Bool} {w:World} {B:Nat} {v:Value} (o:qan z w B y v):qan z w B t v:=by
 obtain ⟨c,vp,vs,vw,vh,up,us,uw,uh,rfl,op,os,ot,oh⟩:=o;refine ⟨c,vp,vs,vw,vh,up,us,uw,uh,rfl,?_,?_,?_,?_⟩
 ·rw [e.pn]
  exact op.same fun i hi=>⟨(e.p i hi).1,by rw [(e.p i hi).1,(e.p i hi).2]⟩
 ·rw [e.sn]
  exact ⟨os.row,fun i hi=>by rw [e.s i hi];exact os.own i hi,os.rb,os.ob,os.ra,os.oa⟩
 ·rw [e.wn]
  exact ot.same fun i hi=>⟨(e.w i hi).1,by rw [(e.w i hi).1,(e.w i hi).2]⟩
 ·rw [e.hn]
  exact oh.same fun i hi=>⟨(e.h i hi).1,by rw [(e.h i hi).1,(e.h i hi).2]⟩
structure Sy.Par (t y:Sy) (d' d:Nat->Nat):Prop where
 pn:t.pn=y.pn
 p:∀ i,i<y.pn->t.pL i=y.pL i/\t.pH i=y.pH i
 h:∀ i,i<y.pn->d' i=d i/\t.hH i=y.hH i
theorem Sy.Par.wy {t y:Sy} {d' d:Nat->Nat} (e:t.Par y d' d) {a b:Nat} (ha:a<y.pn) (hb:b<y.pn):wyL (t.ah d') a b=wyL (y.ah d) a b:=by
 show (valL (t.hH a) 2 b (d' a)).drop (cnt (t.hH b) 3 a (d' b))=(valL (y.hH a) 2 b (d a)).drop (cnt (y.hH b) 3 a (d b));rw [(e.h a ha).1,(e.h a ha).2,(e.h b hb).1,(e.h b hb).2]
theorem Sy.Par.atY {t y:Sy} {d' d:Nat->Nat} (e:t.Par y d' d):(t.atY d').Eqv (y.atY d):=by
 refine ⟨e.pn,e.p,e.pn,fun i hi=>?_,?_,fun i hi=>?_,e.pn,e.h⟩
 ·show resS (repO (t.pH i) (t.pL i) (t.hH i) (d' i))=resS (repO (y.pH i) (y.pL i) (y.hH i) (d i))
  rw [(e.p i hi).1,(e.p i hi).2,(e.h i hi).1,(e.h i hi).2]
 ·show t.pn*t.pn=y.pn*y.pn
  rw [e.pn]
 ·have hi:i<y.pn*y.pn:=hi
  have ha:i / y.pn<y.pn:=Nat.div_lt_of_lt_mul hi
  have hb:i % y.pn<y.pn:=by
   refine Nat.mod_lt _ (Nat.pos_of_ne_zero fun e=>?_);rw [e] at hi;omega
  have h9:=e.wy ha hb;show (wyL (t.ah d') (i / t.pn) (i % t.pn)).length=(wyL (y.ah d) (i / y.pn) (i % y.pn)).length/\itL (wyL (t.ah d') (i / t.pn) (i % t.pn))=itL (wyL (y.ah d) (i / y.pn) (i % y.pn));rw [e.pn,h9];exact ⟨rfl,rfl⟩
theorem Sy.Par.wf {t y:Sy} {d' d:Nat->Nat} (e:t.Par y d' d) (h:wfB (y.ah d)=true):wfB (t.ah d')=true:=by
 refine qa5 fun a ha b hb=>?_;have ha:a<t.pn:=ha;have hb:b<t.pn:=hb;rw [e.pn] at ha hb;rw [e.wy ha hb];exact qim.1 h a ha b hb
theorem Sy.Par.symm {t y:Sy} {d' d:Nat->Nat} (e:t.Par y d' d):y.Par t d d':=
 ⟨e.pn.symm,fun i hi=>⟨(e.p i (e.pn ▸ hi)).1.symm,(e.p i (e.pn ▸ hi)).2.symm⟩,fun i hi=>⟨(e.h i (e.pn ▸ hi)).1.symm,(e.h i (e.pn ▸ hi)).2.symm⟩⟩
theorem qi8 (ys:List Int) {P i:Nat} (h:i<P):mdD ys P i=(mdY ys P).hL i:=by
 unfold mdD cN zi flT;rw [List.getD_eq_getElem?_getD,List.getElem?_map,List.getElem?_range h];show Int.toNat (((mdY ys P).hL i:Nat):Int)=_;omega
theorem qta {M:List Int}:∀ {n p:Nat},(prK M n).isSome=true->p<=n->(prK M p).isSome=true
 | 0,p,h,hp=>by
  have:p=0:=by omega
  subst this;exact h
 | n+1,p,h,hp=>by
  rcases Nat.lt_or_eq_of_le hp with h1 | rfl
  ·exact qta (qmi h).1 (by omega)
  ·exact h
theorem qy5 {M:List Int} {n:Nat} (h:(prK M n).isSome=true):∀ p,p<=n->mP M p=kP M p:=fun p hp=>by
 rcases qph (qta h hp) with h9 | rfl
 ·exact h9.1
 ·rfl
theorem qso {ys:List Int} {P:Nat} (h:(prK (nmA ys) P).isSome=true) (hl:mP (nmA ys) P<=(nmA ys).length):∀ p,p<P->((mdY ys P).pL p=ctN (nmA ys) (kP (nmA ys) p)/\(mdY ys P).pH p=itN (nmA ys) (kP (nmA ys) p+1))/\(mdY ys P).hL p=ctN (nmA ys) (hP (nmA ys) p)/\(mdY ys P).hH p=evN (nmA ys) (hP (nmA ys) p+1):=fun p hp=>by
 obtain ⟨e1,e2,-,-,e5,-⟩:=qwf hl p hp;have ek:=qy5 h p (by omega);have eh:mH (nmA ys) p=hP (nmA ys) p:=by rw [e5,ek];rfl
 refine ⟨⟨?_,?_⟩,?_,?_⟩
 ·show rdN (nmA ys) 5 (zi (nmA ys) (mP (nmA ys) p)) (mP (nmA ys) p+1)=_
  rw [e1,ek]
 ·show itN (nmA ys) (mP (nmA ys) p+1)=_
  rw [ek]
 ·show rdN (nmA ys) 3 (zi (nmA ys) (mH (nmA ys) p)) (mH (nmA ys) p+1)=_
  rw [e2,eh]
 ·show evN (nmA ys) (mH (nmA ys) p+1)=_
  rw [eh]
theorem qsp {ys:List Int} {P:Nat} (h:(prK (nmA ys) P).isSome=true) (hl:mP (nmA ys) P<=(nmA ys).length) (hP:ctN (nmA ys) 0=P):(mdY ys P).Par (rY ys) (mdD ys P) (rY ys).hL:=by
 subst hP;refine ⟨rfl,fun i hi=>(qso h hl i hi).1,fun i hi=>?_⟩;rw [qi8 ys (P:=ctN (nmA ys) 0) hi];exact (qso h hl i hi).2
theorem okNw {y:Sy} (h:y.Ok):(nwY y.pn y.pL y.pH).Ok:=by
 refine ⟨⟨h.cn.1,rfl,rfl,rfl⟩,h.pr,fun p hp=>?_,fun p hp i hi=>absurd hi (Nat.not_lt_zero _),fun a ha b hb=>⟨fun i hi=>absurd hi (Nat.not_lt_zero _),nD _,rfl⟩,⟨fun _=>0,.start,fun p hp=>rfl⟩⟩;have h9:=h.rp p hp;unfold repO at h9;by_cases e:qaa (y.pH p) (y.pL p) 4=true/\y.hL p<=200
 ·show repO (y.pH p) (y.pL p) (fun _=>⟨0,0,0⟩) 0=some newS
  unfold repO;rw [nC ⟨e.1,nD _⟩];rfl
 ·rw [nB e] at h9
  cases h9
theorem okWh {y:Sy} (h:y.Ok):y.Wh y.hL:=fun a ha b hb=>by
 have e:=congrArg List.length (h.wa a ha b hb).eq;rw [List.length_append,<- qnn,<- qnn] at e;unfold tN sN;omega
theorem qha {ys:List Int} (hb:By ys) (k:Nat):puB (zi (nmA ys) k)=true:=by
 by_cases h:k<(nmA ys).length
 ·exact qxo hb h
 ·unfold zi
  rw [List.getD_eq_getElem?_getD,List.getElem?_eq_none (by omega)];rfl
theorem qcy {x:Int} (h0:0<=x) (h:x<=1000):puB x=true:=by
 unfold puB;rw [nI];omega
theorem qoh {h:Nat->I5} {Q:Int->Prop}:∀ {n:Nat},(∀ i,i<n->Q (h i).o/\Q (h i).r/\Q (h i).a/\Q (h i).b/\Q (h i).n)->∀ x ∈ pkI h n,Q x
 | 0,_,x,hx=>by simp [pkI] at hx
 | n+1,hh,x,hx=>by
  rw [pkI,List.mem_append] at hx
  rcases hx with hx | hx
  ·exact qoh (fun i hi=>hh i (by omega)) x hx
  ·have h9:=hh n (by omega)
   simp only [List.mem_cons,List.not_mem_nil,or_false] at hx
   rcases hx with rfl | rfl | rfl | rfl | rfl
   ·exact h9.1
   ·exact h9.2.1
   ·exact h9.2.2.1
   ·exact h9.2.2.2.1
   ·exact h9.2.2.2.2
theorem qog {h:Nat->E3} {Q:Int->Prop}:∀ {n:Nat},(∀ i,i<n->Q (h i).k/\Q (h i).q/\Q (h i).v)->∀ x ∈ pkE h n,Q x
 | 0,_,x,hx=>by simp [pkE] at hx
 | n+1,hh,x,hx=>by
  rw [pkE,List.mem_append] at hx
  rcases hx with hx | hx
  ·exact qog (fun i hi=>hh i (by omega)) x hx
  ·have h9:=hh n (by omega)
   simp only [List.mem_cons,List.not_mem_nil,or_false] at hx
   rcases hx with rfl | rfl | rfl
   ·exact h9.1
   ·exact h9.2.1
   ·exact h9.2.2
theorem qoi {y:Sy} {Q:Int->Prop} (h0:Q y.pn):∀ {n:Nat},(∀ p,p<n->Q (y.pL p)/\Q (y.hL p)/\(∀ x ∈ pkI (y.pH p) (y.pL p),Q x)/\∀ x ∈ pkE (y.hH p) (y.hL p),Q x)->∀ x ∈ pkN y n,Q x
 | 0,_,x,hx=>by
  simp only [pkN,List.mem_cons,List.not_mem_nil,or_false] at hx;rw [hx];exact h0
 | n+1,hh,x,hx=>by
  rw [pkN,List.mem_append] at hx
  rcases hx with hx | hx
  ·exact qoi h0 (fun p hp=>hh p (by omega)) x hx
  ·obtain ⟨h1,h2,h3,h4⟩:=hh n (by omega)
   rw [pkP,List.mem_append,List.mem_cons,List.mem_cons] at hx
   rcases hx with (rfl | hx)|(rfl | hx)
   ·exact h1
   ·exact h3 x hx
   ·exact h2
   ·exact h4 x hx
theorem qgn (y:Sy) {p:Nat}:∀ {n:Nat},p<=n->∃ R,pkN y n=pkN y p ++ R
 | 0,h=>by
  have:p=0:=by omega
  subst this;exact ⟨[],(List.append_nil _).symm⟩
 | n+1,h=>by
  rcases Nat.lt_or_eq_of_le h with h1 | rfl
  ·obtain ⟨R,e⟩:=qgn y (p:=p) (n:=n) (by omega)
   exact ⟨R ++ pkP y n,by rw [pkN,e,List.append_assoc]⟩
  ·exact ⟨[],(List.append_nil _).symm⟩
theorem qk6 (xs ys:List Int) (x:Int):zi (xs ++ x :: ys) xs.length=x:=by
 unfold zi;rw [List.getD_eq_getElem?_getD,List.getElem?_append_right (nA _),Nat.sub_self];rfl
theorem qpm {M:List Int} {y:Sy} {n:Nat} (hy:∀ p,p<n->y.pL p=rdN M 5 (zi M (mP M p)) (mP M p+1)/\y.hL p=rdN M 3 (zi M (mH M p)) (mH M p+1)):∀ p,p<=n->(pkN y p).length=mP M p
 | 0,_=>rfl
 | p+1,hp=>by
  have ih:=qpm hy p (by omega);have h9:=hy p (by omega);have eH:mH M p=mP M p+1+5*y.pL p:=by rw [h9.1];rfl
  have eP:mP M (p+1)=mH M p+1+3*y.hL p:=by rw [h9.2];rfl
  rw [pkN,List.length_append,ih,qkf];omega
theorem qxs {M:List Int} {y:Sy} {n:Nat} (hy:∀ p,p<n->y.pL p=rdN M 5 (zi M (mP M p)) (mP M p+1)/\y.hL p=rdN M 3 (zi M (mH M p)) (mH M p+1)) (hM:M=pkN y n) (p:Nat) (hp:p<n):zi M (mP M p)=(y.pL p:Nat)/\zi M (mH M p)=(y.hL p:Nat):=by
 obtain ⟨R,e⟩:=qgn y (p:=p+1) (n:=n) hp
 have e1:M=pkN y p ++ ((y.pL p:Nat):Int) :: (pkI (y.pH p) (y.pL p) ++ (((y.hL p:Nat):Int) :: pkE (y.hH p) (y.hL p)) ++ R):=by
  rw [hM,e,pkN,pkP];simp
 have e2:M=(pkN y p ++ ((y.pL p:Nat):Int) :: pkI (y.pH p) (y.pL p)) ++ ((y.hL p:Nat):Int) :: (pkE (y.hH p) (y.hL p) ++ R):=by
  rw [hM,e,pkN,pkP];simp
 have l1:=qpm hy p (nJ hp);have h9:=hy p hp;have eH:mH M p=mP M p+1+5*y.pL p:=by rw [h9.1];rfl
 have l2:(pkN y p ++ ((y.pL p:Nat):Int) :: pkI (y.pH p) (y.pL p)).length=mH M p:=by
  rw [List.length_append,List.length_cons,qcl,l1];omega
 refine ⟨?_,?_⟩
 ·rw [<- l1]
  exact (congrArg (fun L=>zi L (pkN y p).length) e1).trans (qk6 _ _ _)
 ·rw [<- l2]
  exact (congrArg (fun L=>zi L (pkN y p ++ ((y.pL p:Nat):Int) :: pkI (y.pH p) (y.pL p)).length) e2).trans (qk6 _ _ _)
theorem qtn {ys:List Int} {P:Nat} (hz:zi (nmA ys) 0=(P:Int)) (h1:1<=P) (h4:P<=4) (hl:0<(nmA ys).length) (hp:(prK (nmA ys) P).isSome=true) (he:psN (nmA ys) (kP (nmA ys) P)=ys.length):rsB ys=true:=by
 have hc:ctN (nmA ys) 0=P:=by
  unfold ctN;rw [hz,nF]
 unfold rsB;rw [hc,hz,hp,he,decide_eq_true ⟨hl,by omega,by omega⟩,beq_self_eq_true];rfl
theorem qy9 {ys:List Int} (hb:By ys) {P:Nat} (h:umB ys P=true):upB ys=true/\((mdY ys P).atY (mdD ys P)).Eqv ((rY ys).atY (rY ys).hL):=by
 unfold umB at h;simp only [nH,nI] at h;obtain ⟨hA,hE,-,hw,hT,hK⟩:=h;have eW:(mdY ys P).atW (mdD ys P)=(mdY ys P).atY (mdD ys P):=nC hw;rw [eW] at hT hK
 have hO:((mdY ys P).atY (mdD ys P)).Ok:=by
  apply Sy.ok_of;unfold pkT at hT;rw [nH] at hT;exact hT.1
 have hK2:byL (pkN ((mdY ys P).atY (mdD ys P)) P)=ys:=by
  unfold pkS at hK;rw [nC hT] at hK;exact hK
 have h4:P<=4:=hO.cn.1.2;have h1:1<=P:=hO.cn.1.1;have hbd:∀ p,p<P->(mdY ys P).pL p<=30/\mdD ys P p<=200:=(qmf hO).2.1
 have hq:∀ x ∈ pkN ((mdY ys P).atY (mdD ys P)) P,puB x=true:=by
  refine qoi (Q:=fun x=>puB x=true) (qcy (by show (0:Int)<=(P:Int);omega) (by show (P:Int)<=1000;omega)) fun p hp=>?_;have h9:=hbd p hp;refine ⟨qcy (by omega) (by show (((mdY ys P).pL p:Nat):Int)<=1000;omega),qcy (by omega) (by show ((mdD ys P p:Nat):Int)<=1000;omega),?_,?_⟩
  ·exact qoh fun i _=>⟨qha hb _,qha hb _,qha hb _,qha hb _,qha hb _⟩
  ·exact qog fun i _=>⟨qha hb _,qha hb _,qha hb _⟩
 have hN:nmA ys=pkN ((mdY ys P).atY (mdD ys P)) P:=(congrArg nmA hK2).symm.trans (qsr fun j hj=>hq _ (qm2 hj));have hcnt:=qxs (M:=nmA ys) (y:=(mdY ys P).atY (mdD ys P)) (n:=P) (fun p hp=>⟨rfl,qi8 ys hp⟩) hN
 have hz0:zi (nmA ys) 0=(P:Int):=by
  obtain ⟨R,e⟩:=qgn ((mdY ys P).atY (mdD ys P)) (p:=0) (n:=P) (nD _);rw [hN,e];rfl
 have hc0:ctN (nmA ys) 0=P:=by
  unfold ctN;rw [hz0,nF]
 have hpr:∀ n,n<=P->(prK (nmA ys) n).isSome=true/\kP (nmA ys) n=mP (nmA ys) n:=by
  intro n
  induction n with
  | zero=>exact fun _=>⟨rfl,rfl⟩
  | succ n ih=>
   intro hn;obtain ⟨i1,i2⟩:=ih (by omega);obtain ⟨h8,h9⟩:=hcnt n (by omega);obtain ⟨b1,b2⟩:=hbd n (by omega);obtain ⟨-,-,a3,a4,a5,a6⟩:=qwf hA n (by omega);have g1:zi (nmA ys) (mP (nmA ys) n)=(((mdY ys P).pL n:Nat):Int):=h8;have g2:zi (nmA ys) (mH (nmA ys) n)=((mdD ys P n:Nat):Int):=h9;have h7:=qj9 (nmA ys) (p:=n+1) (q:=P) hn
   have l1:lsK (nmA ys) 5 30 (kP (nmA ys) n)=some (mH (nmA ys) n):=by
    rw [i2,a5];exact nC ⟨a3,by rw [g1];omega,by rw [g1];omega,by omega⟩
   have l2:lsK (nmA ys) 3 200 (mH (nmA ys) n)=some (mP (nmA ys) (n+1)):=by
    rw [a6];exact nC ⟨a4,by rw [g2];omega,by rw [g2];omega,by omega⟩
   have e:prK (nmA ys) (n+1)=some (mP (nmA ys) (n+1)):=by
    obtain ⟨k,hk⟩:=Option.isSome_iff_exists.1 i1
    have hk2:kP (nmA ys) n=k:=by
     unfold kP;rw [hk];rfl
    rw [prK,hk,Option.bind_some,<- hk2,l1,Option.bind_some,l2]
   refine ⟨by rw [e];rfl,?_⟩;unfold kP;rw [e];rfl
 have par:=qsp (hpr P (nA _)).1 hA hc0;have eq:=par.atY;have hO2:=eq.symm.ok hO;have hr:rsB ys=true:=qtn hz0 h1 h4 (by have:=qsn (nmA ys) P;omega) (hpr P (nA _)).1 (by rw [(hpr P (nA _)).2];exact hE)
 have hc:ctB (rY ys) (rY ys).hL=true:=qrt (show ((rY ys).atY (rY ys).hL).Wh ((rY ys).atY (rY ys).hL).hL from okWh hO2) (par.symm.wf hw) fun p hp=>by
  have h9:=hO2.rp p hp;exact (congrArg Option.isSome h9).trans rfl
 have hs:ctS (rY ys) (rY ys).hL=(rY ys).atY (rY ys).hL:=nC hc;refine ⟨?_,eq⟩;unfold upB;rw [hr,hc,hs,Sy.okB_true hO2];rfl
theorem qzw {ys:List Int} (hb:By ys) {P:Nat} (hM:MdP (nmA ys) P) (h:upB ys=true):umB ys P=true:=by
 unfold upB at h;simp only [nH] at h;obtain ⟨hr,hc,ho⟩:=h;have hs:ctS (rY ys) (rY ys).hL=(rY ys).atY (rY ys).hL:=nC hc;rw [hs] at ho;have hO:=Sy.ok_of ho;unfold rsB at hr;simp only [nH,nI,beq_iff_eq] at hr;obtain ⟨⟨h0,h1,h4⟩,hp,he⟩:=hr;unfold ctB at hc;simp only [nH] at hc;have hm:=qph hp;have hn:1<=ctN (nmA ys) 0:=hO.cn.1.1
 obtain ⟨m1,m2⟩:mP (nmA ys) (ctN (nmA ys) 0)=kP (nmA ys) (ctN (nmA ys) 0)/\mP (nmA ys) (ctN (nmA ys) 0)<=(nmA ys).length:=by
  rcases hm with h9 | h9
  ·exact h9
  ·omega
 have hz:zi (nmA ys) 0=((ctN (nmA ys) 0:Nat):Int):=by
  unfold ctN;omega
 have hP:ctN (nmA ys) 0=P:=by
  rcases Nat.lt_trichotomy (ctN (nmA ys) 0) P with h9 | h9 | h9
  ·have:=(hM.1 _ h9).1
   omega
  ·exact h9
  ·refine absurd ⟨?_,?_⟩ hM.2
   ·rw [hz]
    omega
   ·exact zP (qj9 (nmA ys) (nJ h9)) m2
 rw [hP] at hp he m1 m2 hn hz;have par:=qsp hp m2 hP;have hO2:=par.atY.ok hO;have hw:wfB ((mdY ys P).ah (mdD ys P))=true:=par.wf hc.2.1;have eW:(mdY ys P).atW (mdD ys P)=(mdY ys P).atY (mdD ys P):=nC hw;have he':psN (nmA ys) (kP (nmA ys) P)=ys.length:=by omega
 rw [<- m1] at he';obtain ⟨k1,k2⟩:=(qwi hb m2).1 he'
 have hT:pkT ((mdY ys P).atY (mdD ys P))=true:=by
  unfold pkT;rw [Sy.okB_true hO2]
  have hno:¬ ((mdY ys P).atY (mdD ys P)).Marks:=by
   rintro ⟨i,hi,k,hk,h9⟩;cases h9
  unfold pB;simp [hno]
 have hS:pkS ((mdY ys P).atY (mdD ys P))=ys:=by
  unfold pkS;rw [nC hT]
  have h9:=qk2 (N:=nmA ys) (y:=(mdY ys P).atY (mdD ys P)) h0 hz P hp fun p hpp=>by
   have h8:=qso hp m2 p hpp;exact ⟨h8.1.1,h8.1.2,(qi8 ys hpp).trans h8.2.1,h8.2.2⟩
  rw [<- m1,k1,List.take_length] at h9;show byL (pkN ((mdY ys P).atY (mdD ys P)) P)=ys;rw [<- h9];exact k2
 have hN:snB P (mdY ys P).pL (mdY ys P).pH=true:=by
  unfold snB;rw [decide_eq_true (show P<=4 from hO2.cn.1.2)];exact Sy.okB_true (okNw hO2)
 unfold umB;rw [eW,decide_eq_true m2,decide_eq_true he',hN,hw,hT,decide_eq_true hS];rfl
theorem qzu {ys:List Int} (hb:By ys) {P:Nat} (hM:MdP (nmA ys) P):umB ys P=upB ys:=by
 rw [Bool.eq_iff_iff];exact ⟨fun h=>(qy9 hb h).1,qzw hb hM⟩
theorem qs4 (y:Sy):∀ n,0<(pkN y n).length
 | 0=>by simp [pkN]
 | n+1=>by
  have:=qs4 y n;rw [pkN,List.length_append];omega
structure PkJ (wK wr:World) (o:Value) (L:List Int):Prop where
 ow:OwnI wr wK.heap.size o L
 be:Bw wK wr
theorem PkJ.to {wK wr:World} {o:Value} {L M:List Int} (h:PkJ wK wr o L) (e:M=L):PkJ wK wr o M:=e ▸ h
theorem qme {ops:Array Oper} {rest:List Oper} {op:Oper} {act:Act} {Q:Exit->Act->World->Prop} {wK wr w1:World} {o:Value} {L M:List Int} (h:PkJ wK wr o L) (b1:Bw wr w1) (hgd:op.guard=none) (s x:Operand)
  (ho:op.op=.call { callee:=.builtin .append,args:=#[s,x],argTypes:=#[41,41] }) (cp:Nat) (ap:Option Addr) (hs:act.eval s=o) (hx:act.eval x=.slice ap M.length cp) (hy:Sl w1 ap M) (hn:L.length+M.length<=100000)
  (hK:∀ v' w4,PkJ wK w4 v' (L ++ M)->wpList prog ops Q rest (act.put op.dst v') w4):wpList prog ops Q (op :: rest) act w1:=by
 refine qaz w1 hgd s x ho wK.heap.size cp o ap L M hs hx (h.ow.bw b1) hy (by omega) (zP h.be.size b1.size) ?_;intro v' w4 o4 g4 _;exact hK v' w4 ⟨o4,(h.be.trans (b1.mono h.be.size)).trans (Below.grown (nE _ _) g4 (zP h.be.size b1.size) (fun j hj=>(h.ow.lt j hj).1))⟩
structure PkW (w:World) (g cn:Nat) (L:List Int) (o:Value) (k:Nat) (wr:World):Prop where
 ow:OwnB wr w.heap.size o (byL (L.take k))
 nu:OwnI wr w.heap.size (sG g L.length cn) L
 ne:o.ownBlock≠some g
 be:Bw w wr
theorem qtd {ops:Array Oper} {rest:List Oper} {op:Oper} {act:Act} {Q:Exit->Act->World->Prop} {w wr w1:World} {g cn:Nat} {L:List Int} {o:Value} {k:Nat} (h:PkW w g cn L o k wr) (hk:k<L.length) (b1:Bw wr w1) (hgd:op.guard=none) (s x:Operand)
  (ho:op.op=.call { callee:=.builtin .append,args:=#[s,x],argTypes:=#[22,22] }) (cp:Nat) (ap:Option Addr) (hs:act.eval s=o) (hx:act.eval x=.slice ap (puL (zi L k)).length cp) (hy:SlB w1 ap (puL (zi L k))) (hn:L.length<=10000)
  (hK:∀ v' w4,PkW w g cn L v' (k+1) w4->wpList prog ops Q rest (act.put op.dst v') w4):wpList prog ops Q (op :: rest) act w1:=by
 have l1:=qgc (L.take k);rw [List.length_take] at l1;have l2:=qil (zi L k);have hg:=(h.nu.lt g rfl).2;have hs1:=b1.size;refine qbe w1 hgd s x ho w.heap.size cp o ap (byL (L.take k)) (puL (zi L k)) hs hx (h.ow.bw b1) hy (by omega) (zP h.be.size b1.size) ?_;intro v' w4 o4 g4 h4;refine hK v' w4 ⟨by rw [qjl L k hk];exact o4,(h.nu.bw b1).kept g4 (.inr (fun e=>h.ne e.symm)),?_,?_⟩
 ·intro e
  rcases h4 with h4 | h4
  ·exact h.ne (h4 ▸ e)
  ·rw [h4] at e
   simp only [nG] at e;omega
 ·exact (h.be.trans (b1.mono h.be.size)).trans (Below.grown (nE _ _) g4 (zP h.be.size b1.size) (fun j hj=>(h.ow.lt j hj).1))
theorem qg6 (x:SysIn) (w:World) (hG:SysG w x) (hL:x.Len) (hV:w.cell? (aQ 0 0)=some vT):
  Calls prog 6 #[x.v] w fun e w'=>∃ u,e=.returned (.tuple #[u,.bool (pkT x.y)])/\OwnB w' w.heap.size u (pkS x.y)/\Bw w w':=by
 have HG:Hid (SysG w x):=hG;have HL:Hid x.Len:=hL;have HS:Hid (∀ wx,Bw w wx->Calls prog 15 #[x.v] wx (rB wx (.bool x.y.okB))):=fun wx hb=>qfv x wx (hG.bw hb) hL ((hb.cell (p:=⟨0,0,none⟩) (zJ w _ hV)).trans hV);have HM:Hid (∀ wx,Bw w wx->Calls prog 16 #[x.v] wx (rB wx (.bool (pB x.y.Marks)))):=fun wx hb=>ql2 x wx (hG.bw hb) hL;have BW:Hid (Bw w ((w.alloc (x.oX)).alloc (.cells #[] 5))):=(zT _ _).trans ((zT _ _).mono (by simp));have NB:Hid (x.bX ((w.alloc (x.oX)).alloc (.cells #[] 5)) w.heap.size):=(BoxC.new w _ _ _ _ _).bw (zT _ _);have NO:Hid (OwnB ((w.alloc (x.oX)).alloc (.cells #[] 5)) (w.heap.size+1) (.slice (some ⟨w.heap.size+1,0,none⟩) 0 0) []):=qob (w.alloc (x.oX)) (by simp);clear hG hL hV
 go_enter func6,ntmps6
 go_wp2_with fail
 generalize (w.alloc (x.oX)).alloc (.cells #[] 5)=W2 at *;refine (HS.out W2 BW.out).mono ?_;rintro e w1 ⟨rfl,q1⟩;have B1:Hid (Bw w w1/\x.bX w1 w.heap.size):=⟨BW.trans (q1.mono BW.size),NB.bw q1⟩
 have O1:Hid (OwnB w1 (w.heap.size+1) (.slice (some ⟨w.heap.size+1,0,none⟩) 0 0) []):=NO.bw q1;clear q1 BW NB HS NO
 rcases zK x.y.okB with t | t
 case inr=>
  have HT:Hid (pkT x.y=false):=by show pkT x.y=false;rw [pkT,t];rfl
  have HV:Hid (pkS x.y=[]):=by
   show pkS x.y=[];rw [pkS,nB (by rw [HT.out];decide)]
  rw [t];clear t;go_wp2;exact bodyPost_ret (v:=.tuple #[.slice (some ⟨w.heap.size+1,0,none⟩) 0 0,.bool false]) (by simp [results,results6,go_sem]) rfl ⟨_,by rw [HT.out],by rw [HV.out];exact O1.mono (by omega),B1.1⟩
 have HK:Hid x.y.Ok:=Sy.ok_of t;have HT0:Hid (pkT x.y = !(pB x.y.Marks)):=by show pkT x.y=_;rw [pkT,t];rfl
 rw [t];clear t;obtain ⟨b0,b1,b2,b3⟩:=B1.2;go_wp2_with fail
 clear b0 b1 b2 b3;refine (HM.out w1 B1.1).mono ?_;rintro e wK ⟨rfl,q2⟩;have B2:Hid (Bw w wK/\x.bX wK w.heap.size):=⟨B1.1.trans (q2.mono B1.1.size),B1.2.bw q2⟩
 have O2:Hid (OwnB wK (w.heap.size+1) (.slice (some ⟨w.heap.size+1,0,none⟩) 0 0) []):=O1.bw q2;clear q2 B1 HM O1
 rcases zK (pB x.y.Marks) with t | t
 case inl=>
  have HT:Hid (pkT x.y=false):=by show pkT x.y=false;rw [HT0.out,t];rfl
  have HV:Hid (pkS x.y=[]):=by
   show pkS x.y=[];rw [pkS,nB (by rw [HT.out];decide)]
  rw [t];clear t;go_wp2;exact bodyPost_ret (v:=.tuple #[.slice (some ⟨w.heap.size+1,0,none⟩) 0 0,.bool false]) (by simp [results,results6,go_sem]) rfl ⟨_,by rw [HT.out],by rw [HV.out];exact O2.mono (by omega),B2.1⟩
 have HT:Hid (pkT x.y=true):=by show pkT x.y=true;rw [HT0.out,t];rfl
 have HV:Hid (pkS x.y=byL (pkN x.y x.pn)):=by show pkS x.y=_;rw [pkS,nC HT.out];rfl
 rw [t];clear t HT0;have HB:Hid ((∀ k,k<=x.pn->(pkN x.y k).length<=4000)/\(∀ k,k<x.pn->x.pL k<=30/\x.hL k<=200)/\x.pn<=4/\x.hn=x.pn):=qmf HK.out;have hpn:(x.pn:Int)<=4:=by have:=HB.2.2.1;omega
 have HG2:Hid (SysG wK x):=HG.bw B2.1;have R3:Hid (PkJ wK (wK.alloc (.cells #[iV (x.pn:Int)] 3)) (sG wK.heap.size 1 1) (pkN x.y 0)):=⟨qd7 wK [(x.pn:Int)] (by simp),zT _ _⟩
 clear HG HL HK;obtain ⟨b0,b1,b2,b3⟩:=B2.2;have hN0:w.heap.size<wK.heap.size:=zJ wK _ b0;have fb:∀ o,(wK.alloc (.cells #[iV (x.pn:Int)] 3)).cell? ⟨w.heap.size,o,none⟩=wK.cell? ⟨w.heap.size,o,none⟩:=fun o=>(zT wK (.cells #[iV (x.pn:Int)] 3)).cell (p:=⟨w.heap.size,o,none⟩) hN0;have d0:=(fb 0).trans b0;go_wp2_with fail
 clear b0 b1 b2 b3 d0 fb hN0
 go_loopw [5,26] (fun o i wr=>∃ k:Nat,k<=x.pn/\i=.int .i64 (k:Int)/\Hid (PkJ wK wr o (pkN x.y k))) (fun _ i _=>x.pn - (intOf i).toNat)
 case atStart=>exact ⟨0,nD _,rfl,R3.out⟩
 case round=>
  clear R3;obtain ⟨k,hk,rfl,HR⟩:=hrel;by_cases hlt:k<x.pn
  ·have hlt':(k:Int)<(x.pn:Int):=by omega
   obtain ⟨bp,op,ep,cp⟩:=(HG2.bw HR.be).p.at hlt;rw [ep];clear ep;obtain ⟨bi,ei,lti,ai⟩:=(HG2.bw HR.be).pi k hlt;rw [ei] at cp;clear ei;have AI:Hid (qaq wr bi 0 (x.pL k) (x.pH k)):=ai;clear ai;go_wp2_with fail
   clear cp;refine (qn9 bi 0 (x.pL k) (x.pC k) (x.pH k) wr (by have:=(HB.2.1 k hlt).1;omega) lti AI.out).mono ?_;rintro e w5 ⟨u6,rfl,o5,q5⟩;obtain ⟨ap,cq,rfl,sp⟩:=o5.form;have SP:Hid (Sl w5 ap ((x.pL k:Int) :: pkI (x.pH k) (x.pL k))/\Bw wr w5):=⟨sp,q5⟩
   clear o5 sp q5 AI lti;obtain ⟨bh,oh,eh,-⟩:=(HG2.bw HR.be).h.at (k:=k) (by have:=HB.2.2.2;omega);have HEh:Hid (x.ha=some (aQ bh oh)):=eh;clear eh;have hnn:(x.hn:Int)=(x.pn:Int):=by have:=HB.2.2.2;omega
   have hlh:(k:Int)<(x.hn:Int):=by omega
   clear hnn
   go_wp2_with (at_builtin; refine qme HR.out SP.2 rfl _ _ rfl cq ap rfl rfl SP.1 (by have := HB.1 k hk; have := (HB.2.1 k hlt).1; simp only [List.length_cons, qcl]; omega) ?_; intro v6 w6 r6; have R6 : Hid (PkJ wK w6 v6 (pkN x.y k ++ ((x.pL k : Int) :: pkI (x.pH k) (x.pL k)))) := r6; clear r6; obtain ⟨b0, b1, b2, b3⟩ := B2.2.bw R6.be; rw [HEh.out] at b3; have ch : w6.cell? ⟨bh, oh + k, none⟩ = some (.slice (x.hA k) (x.hL k) (x.hC k)) := (by
    obtain ⟨b',o',e',c'⟩:=(HG2.bw R6.be).h.at (k:=k) (by have:=HB.2.2.2;omega);rw [HEh.out] at e';cases e'
    exact c'))
   clear b0 b1 b2 b3 ch SP HR;refine (qiy (x.hA k) (x.hL k) (x.hC k) (x.hH k) w6 (by have:=(HB.2.1 k hlt).2;omega) ((HG2.bw R6.be).hi k (by have:=HB.2.2.2;omega))).mono ?_;rintro e w7 ⟨u7,rfl,o7,q7⟩;obtain ⟨ap7,cq7,rfl,sp7⟩:=o7.form;have SP:Hid (Sl w7 ap7 ((x.hL k:Int) :: pkE (x.hH k) (x.hL k))/\Bw w6 w7):=⟨sp7,q7⟩
   clear o7 sp7 q7;go_wp2_with (at_builtin;refine qme R6.out SP.2 rfl _ _ rfl cq7 ap7 rfl rfl SP.1 (by have:=HB.1 k hk;have:=(HB.2.1 k hlt).1;have:=(HB.2.1 k hlt).2;simp only [List.length_append,List.length_cons,qcl,qd8];omega) ?_;intro v8 w8 r8;have R8:Hid (PkJ wK w8 v8 (pkN x.y (k+1))):=r8.to (by rw [pkN,pkP,List.append_assoc];rfl);clear r8)
   go_roundw
   case rel=>exact ⟨k+1,by omega,by go_num,R8.out⟩
   case measure=>simp [intOf];omega
  ·have hke:k=x.pn:=by omega
   have HN:Hid (OwnI wr wK.heap.size u5 (pkN x.y x.pn)/\Bw wK wr):=by
    have h:=HR.out;rw [hke] at h;exact ⟨h.ow,h.be⟩
   have hlt':¬ ((k:Int)<(x.pn:Int)):=by omega
   clear hke HR;have hLN:=HB.1 x.pn (nA _);have hl0:=qs4 x.y x.pn;generalize hLL:pkN x.y x.pn=L at HN hLN HV hl0;clear hLL;obtain ⟨g,cn,rfl,hg,-⟩:=HN.1.block hl0;have hLi:(L.length:Int)<=4000:=by omega
   have W0 : Hid (PkW w g cn L (.slice (some ⟨w.heap.size + 1, 0, none⟩) 0 0) 0 wr) := ⟨by exact (O2.bw HN.2).mono (by omega), HN.1.mono B2.1.size, by
    intro e;have e':(some (w.heap.size+1):Option Nat)=some g:=e;simp only [nG] at e';have:=(O2.lt (w.heap.size+1) rfl).2
    omega,B2.1.trans (HN.2.mono B2.1.size)⟩
   clear HN O2 hl0 hlt';go_wp2_with fail
   go_loopw [4,46] (fun o i wr=>∃ k:Nat,k<=L.length/\i=.int .i64 (k:Int)/\Hid (PkW w g cn L o k wr)) (fun _ i _=>L.length - (intOf i).toNat)
   case atStart=>exact ⟨0,nD _,rfl,W0.out⟩
   case round=>
    clear W0;obtain ⟨j,hj,rfl,HW⟩:=hrel;by_cases hjl:j<L.length
    ·have hjl':(j:Int)<(L.length:Int):=by omega
     have ck:=HW.nu.cell hjl;go_wp2_with fail
     clear ck;refine (qe5 (zi L j) wr).mono ?_;rintro e w5 ⟨u6,rfl,o5,q5⟩;obtain ⟨ap,cq,rfl,sp⟩:=o5.form;have SP:Hid (SlB w5 ap (puL (zi L j))/\Bw wr w5):=⟨sp,q5⟩
     clear o5 sp q5;go_wp2_with (at_builtin;refine qtd HW.out hjl SP.2 rfl _ _ rfl cq ap rfl rfl SP.1 (by omega) ?_;intro v6 w6 r6;have R6:Hid (PkW w g cn L v6 (j+1) w6):=r6;clear r6)
     go_roundw
     case rel=>exact ⟨j+1,by omega,by go_num,R6.out⟩
     case measure=>simp [intOf];omega
    ·have hje:j=L.length:=by omega
     have F:Hid (OwnB wr w.heap.size u4 (pkS x.y)/\Bw w wr):=by
      have h:=HW.out;refine ⟨?_,h.be⟩;rw [HV.out];have h1:=h.ow
      rwa [hje,List.take_length] at h1
     have hjl':¬ ((j:Int)<(L.length:Int)):=by omega
     clear hje HW;go_wp2;exact bodyPost_ret (v:=.tuple #[u4,.bool true]) (by simp [results,results6,go_sem]) rfl ⟨_,by rw [HT.out],F.out⟩
