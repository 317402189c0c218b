/- Proved: called with whatever bytes, the program's Unpack answers as the model's Unpack, field by field; it writes into no argument, and its answer owns its memory. One condition, tied to the program's text: errors.errorType holds what its text lays. -/
import Derived.Test.YtpehpclhdgpjkaaGreatDoorXe0
import Derived.Test.YtpehpclhdgpjkaaGreatDoorXe31
import Derived.Test.YtpehpclhdgpjkaaGreatDoorXe24
import Derived.Test.YtpehpclhdgpjkaaGreatDoorXe32
import Derived.Test.YtpehpclhdgpjkaaGreatDoorXe12
import Derived.Test.YtpehpclhdgpjkaaGreatDoorXe33
import Derived.Test.YtpehpclhdgpjkaaGreatDoorXe21
import Derived.Deep.CutRange
import Derived.Test.YtpehpclhdgpjkaaGreatDoorXe20
import Derived.Test.YtpehpclhdgpjkaaGreatDoorXe28
import Derived.Test.YtpehpclhdgpjkaaGreatDoorXe29
import Derived.Test.YtpehpclhdgpjkaaGreatDoorCards
import Derived.SevenTiedAt
namespace Go.Proofs.YtpehpclhdgpjkaaGreatDoor
set_option maxRecDepth 100000
set_option maxHeartbeats 8000000
open Go.ChangeShapes Go.WideShapes Go.ChangeAt Go.RowKit Go.Deep
def OwnZ (w:World) (B T:Nat) (y:Sy) (vp vs vw vh:Value):Prop:=∃ c up us uw uh,OwnS false w B c y vp vs vw vh up us uw uh/\∀ b,T<=b->c b=0
theorem OwnZ.of {w:World} {B:Nat} {y:Sy} {v:Value} (o:OwnSys false w B y v):∃ pa pc sa sc wa wc ha hc,v=sysV pa y.pn pc sa y.sn sc wa y.wn wc ha y.hn hc/\OwnZ w B w.heap.size y (.slice pa y.pn pc) (.slice sa y.sn sc) (.slice wa y.wn wc) (.slice ha y.hn hc):=by
 obtain ⟨c,vp,vs,vw,vh,up,us,uw,uh,rfl,o⟩:=o
 obtain ⟨pa,pc,rfl⟩:=zT o.p.row
 obtain ⟨sa,sc,rfl⟩:=zT o.s.row
 obtain ⟨wa,wc,rfl⟩:=zT o.t.row
 obtain ⟨ha,hc,rfl⟩:=zT o.h.row
 exact ⟨pa,pc,sa,sc,wa,wc,ha,hc,rfl,_,up,us,uw,uh,o.recol 0,fun b hb=>rcol_new hb⟩
theorem OwnZ.below {w w':World} {B T:Nat} {y:Sy} {vp vs vw vh:Value} (o:OwnZ w B T y vp vs vw vh) (hb:Below w.heap.size w w'):OwnZ w' B T y vp vs vw vh:=by
 obtain ⟨c,up,us,uw,uh,o,h⟩:=o
 exact ⟨c,up,us,uw,uh,o.below hb,h⟩
theorem OwnZ.sys {w:World} {B T:Nat} {y:Sy} {vp vs vw vh:Value} (o:OwnZ w B T y vp vs vw vh):OwnSys false w B y (.agg #[vp,vs,vw,vh]):=by
 obtain ⟨c,up,us,uw,uh,o,-⟩:=o
 exact ⟨c,vp,vs,vw,vh,up,us,uw,uh,rfl,o⟩
theorem OwnZ.touch {w w':World} {B T:Nat} {y:Sy} {vp vs vw vh:Value} {P:Nat->Prop} (o:OwnZ w B T y vp vs vw vh) (ht:Touch P w w') (hp:∀ b,P b->T<=b\/b<B):OwnZ w' B T y vp vs vw vh:=by
 obtain ⟨c,up,us,uw,uh,o,h⟩:=o
 have hk:∀ i,i≠0->∀ k,Cl B c i k->k<w.heap.size->w'.heap[k]? = w.heap[k]?:=fun i hi k hk hl=>ht.block k hl fun e=>by
  rcases hp k e with h1 | h1
  ·exact hi (hk.2.symm.trans (h k h1))
  ·have:=hk.1
   omega
 exact ⟨c,up,us,uw,uh,⟨o.p.keep (hk 1 (by decide)),o.s.keep (hk 2 (by decide)),o.t.keep (hk 3 (by decide)),o.h.keep (hk 4 (by decide))⟩,h⟩
section
variable {W:World} {x:SysIn} {Y Z:Sy} {x3:SysIn} {N1 T8 lo T10 B4 T11:Nat} {a1 a2 a3 a4 g1 g2 g3 g4:Value} {w w':World}
end
theorem Hs.Put.out {x:Hs} {d:Nat->Nat} (h:x.Put d):∀ i,x.n<=i->d i=0:=by
 induction h with
 | start=>exact fun _ _=>rfl
 | next _ hp _ ih=>
  intro i hi
  rw [up_other (by omega)]
  exact ih i hi
theorem Hs.Put.same {x x':Hs} (hn:x'.n=x.n) (he:∀ p,p<x.n->x'.l p=x.l p/\x'.e p=x.e p) {d:Nat->Nat} (h:x.Put d):x'.Put d:=by
 induction h with
 | start=>exact .start
 | next h0 hp hc ih=>
  rename_i d p
  refine .next ih (by omega) ⟨?_,fun h3=>?_⟩
  ·rw [(he p hp).1]
   exact hc.1
  ·rw [(he p hp).2] at h3 ⊢
   have h9:=hc.2 h3
   by_cases hq:(x.e p (d p)).q.toNat<x.n
   ·rw [(he _ hq).2]
    exact h9
   ·rw [h0.out (x.e p (d p)).q.toNat (Nat.le_of_not_lt hq)] at h9
    exact absurd h9 (Nat.not_lt_zero _)
structure Sy.Eqv (t y:Sy):Prop where
 pn:t.pn=y.pn
 p:∀ i,i<y.pn->t.pL i=y.pL i/\t.pH i=y.pH i
 sn:t.sn=y.sn
 s:∀ i,i<y.sn->t.sS i=y.sS i
 wn:t.wn=y.wn
 w:∀ i,i<y.wn->t.wL i=y.wL i/\t.wH i=y.wH i
 hn:t.hn=y.hn
 h:∀ i,i<y.hn->t.hL i=y.hL i/\t.hH i=y.hH i
theorem Sy.Eqv.symm {t y:Sy} (e:t.Eqv y):y.Eqv t:=
 ⟨e.pn.symm,fun i hi=>⟨(e.p i (e.pn ▸ hi)).1.symm,(e.p i (e.pn ▸ hi)).2.symm⟩,e.sn.symm,fun i hi=>(e.s i (e.sn ▸ hi)).symm,e.wn.symm,fun i hi=>⟨(e.w i (e.wn ▸ hi)).1.symm,(e.w i (e.wn ▸ hi)).2.symm⟩,e.hn.symm,fun i hi=>⟨(e.h i (e.hn ▸ hi)).1.symm,(e.h i (e.hn ▸ hi)).2.symm⟩⟩
theorem Sy.Eqv.ok {t y:Sy} (e:t.Eqv y) (h:y.Ok):t.Ok:=by
 obtain ⟨hc,hs,hh,hw⟩:=h.cn
 have e1:∀ p,p<y.pn->t.pL p=y.pL p/\t.pH p=y.pH p/\t.sS p=y.sS p/\t.hL p=y.hL p/\t.hH p=y.hH p:=fun p hp=>⟨(e.p p hp).1,(e.p p hp).2,e.s p (by omega),(e.h p (by omega)).1,(e.h p (by omega)).2⟩
 refine ⟨?_,fun p hp=>?_,fun p hp=>?_,fun p hp i hi=>?_,fun a ha b hb=>?_,?_⟩
 ·rw [e.pn,e.sn,e.hn,e.wn]
  exact h.cn
 ·rw [e.pn] at hp ⊢
  obtain ⟨a1,a2,-⟩:=e1 p hp
  rw [a1,a2]
  exact h.pr p hp
 ·rw [e.pn] at hp
  obtain ⟨a1,a2,a3,a4,a5⟩:=e1 p hp
  rw [a1,a2,a3,a4,a5]
  exact h.rp p hp
 ·rw [e.pn] at hp ⊢
  obtain ⟨a1,a2,a3,a4,a5⟩:=e1 p hp
  rw [a4] at hi
  rw [a5]
  exact h.pe p hp i hi
 ·rw [e.pn] at ha hb ⊢
  have hab:a*y.pn+b<y.wn:=by
   have h2:(a+1)*y.pn<=y.pn*y.pn:=Nat.mul_le_mul_right y.pn (by omega)
   rw [Nat.add_mul,Nat.one_mul] at h2
   omega
  obtain ⟨-,-,-,a4,a5⟩:=e1 a ha
  obtain ⟨-,-,-,b4,b5⟩:=e1 b hb
  rw [(e.w _ hab).1,(e.w _ hab).2,a4,a5,b4,b5]
  exact h.wa a ha b hb
 ·obtain ⟨d,hd,hall⟩:=h.ro
  refine ⟨d,hd.same e.pn (fun p hp=>?_),fun p hp=>?_⟩
  ·obtain ⟨-,-,-,a4,a5⟩:=e1 p hp
   exact ⟨a4,a5⟩
  ·have hp':p<y.pn:=by
    have h9:p<t.pn:=hp
    rw [e.pn] at h9
    exact h9
   exact (hall p hp').trans (e1 p hp').2.2.2.1.symm
theorem LL.same {z:Bool} {e:TypeId} {sz:Nat} {E:TypeId} {w:World} {P:Nat->Prop} {v:Value} {n:Nat} {u:Nat->Value} {L L':Nat->Nat} {c c':Nat->List Value} (o:LL z e sz E w P v n u L c) (h:∀ i,i<n->L' i=L i/\c' i=c i):LL z e sz E w P v n u L' c':=
 ⟨o.row,fun i hi=>by rw [(h i hi).1,(h i hi).2];exact o.own i hi,o.rb,o.ob,o.ra,o.oa,o.nn⟩
theorem Sy.Eqv.own {t y:Sy} (e:t.Eqv y) {z:Bool} {w:World} {B:Nat} {v:Value} (o:OwnSys z w B y v):OwnSys z w B t v:=by
 obtain ⟨c,vp,vs,vw,vh,up,us,uw,uh,rfl,op,os,ot,oh⟩:=o
 refine ⟨c,vp,vs,vw,vh,up,us,uw,uh,rfl,?_,?_,?_,?_⟩
 ·rw [e.pn]
  exact op.same fun i hi=>⟨(e.p i hi).1,by rw [(e.p i hi).1,(e.p i hi).2]⟩
 ·rw [e.sn]
  exact ⟨os.row,fun i hi=>by rw [e.s i hi];exact os.own i hi,os.rb,os.ob,os.ra,os.oa⟩
 ·rw [e.wn]
  exact ot.same fun i hi=>⟨(e.w i hi).1,by rw [(e.w i hi).1,(e.w i hi).2]⟩
 ·rw [e.hn]
  exact oh.same fun i hi=>⟨(e.h i hi).1,by rw [(e.h i hi).1,(e.h i hi).2]⟩
structure Sy.Par (t y:Sy) (d' d:Nat->Nat):Prop where
 pn:t.pn=y.pn
 p:∀ i,i<y.pn->t.pL i=y.pL i/\t.pH i=y.pH i
 h:∀ i,i<y.pn->d' i=d i/\t.hH i=y.hH i
theorem Sy.Par.wy {t y:Sy} {d' d:Nat->Nat} (e:t.Par y d' d) {a b:Nat} (ha:a<y.pn) (hb:b<y.pn):wyL (t.ah d') a b=wyL (y.ah d) a b:=by
 show (valL (t.hH a) 2 b (d' a)).drop (cnt (t.hH b) 3 a (d' b))=(valL (y.hH a) 2 b (d a)).drop (cnt (y.hH b) 3 a (d b))
 rw [(e.h a ha).1,(e.h a ha).2,(e.h b hb).1,(e.h b hb).2]
theorem Sy.Par.atY {t y:Sy} {d' d:Nat->Nat} (e:t.Par y d' d):(t.atY d').Eqv (y.atY d):=by
 refine ⟨e.pn,e.p,e.pn,fun i hi=>?_,?_,fun i hi=>?_,e.pn,e.h⟩
 ·show resS (repO (t.pH i) (t.pL i) (t.hH i) (d' i))=resS (repO (y.pH i) (y.pL i) (y.hH i) (d i))
  rw [(e.p i hi).1,(e.p i hi).2,(e.h i hi).1,(e.h i hi).2]
 ·show t.pn*t.pn=y.pn*y.pn
  rw [e.pn]
 ·have hi:i<y.pn*y.pn:=hi
  have ha:i / y.pn<y.pn:=Nat.div_lt_of_lt_mul hi
  have hb:i % y.pn<y.pn:=by
   refine Nat.mod_lt _ (Nat.pos_of_ne_zero fun e=>?_)
   rw [e] at hi
   omega
  have h9:=e.wy ha hb
  show (wyL (t.ah d') (i / t.pn) (i % t.pn)).length=(wyL (y.ah d) (i / y.pn) (i % y.pn)).length/\itL (wyL (t.ah d') (i / t.pn) (i % t.pn))=itL (wyL (y.ah d) (i / y.pn) (i % y.pn))
  rw [e.pn,h9]
  exact ⟨rfl,rfl⟩
theorem Sy.Par.wf {t y:Sy} {d' d:Nat->Nat} (e:t.Par y d' d) (h:wfB (y.ah d)=true):wfB (t.ah d')=true:=by
 refine qB_true fun a ha b hb=>?_
 have ha:a<t.pn:=ha
 have hb:b<t.pn:=hb
 rw [e.pn] at ha hb
 rw [e.wy ha hb]
 exact qB_iff.1 h a ha b hb
theorem Sy.Par.symm {t y:Sy} {d' d:Nat->Nat} (e:t.Par y d' d):y.Par t d d':=
 ⟨e.pn.symm,fun i hi=>⟨(e.p i (e.pn ▸ hi)).1.symm,(e.p i (e.pn ▸ hi)).2.symm⟩,fun i hi=>⟨(e.h i (e.pn ▸ hi)).1.symm,(e.h i (e.pn ▸ hi)).2.symm⟩⟩
theorem mdD_at (ys:List Int) {P i:Nat} (h:i<P):mdD ys P i=(mdY ys P).hL i:=by
 unfold mdD cN zi flT
 rw [List.getD_eq_getElem?_getD,List.getElem?_map,List.getElem?_range h]
 show Int.toNat (((mdY ys P).hL i:Nat):Int)=_
 omega
theorem prK_pre {M:List Int}:∀ {n p:Nat},(prK M n).isSome=true->p<=n->(prK M p).isSome=true
 | 0,p,h,hp=>by
  have:p=0:=by omega
  subst this
  exact h
 | n+1,p,h,hp=>by
  rcases Nat.lt_or_eq_of_le hp with h1 | rfl
  ·exact prK_pre (prK_up h).1 (by omega)
  ·exact h
theorem prK_mP {M:List Int} {n:Nat} (h:(prK M n).isSome=true):∀ p,p<=n->mP M p=kP M p:=fun p hp=>by
 rcases md_prK (prK_pre h hp) with h9 | rfl
 ·exact h9.1
 ·rfl
theorem md_par {ys:List Int} {P:Nat} (h:(prK (nmA ys) P).isSome=true) (hl:mP (nmA ys) P<=(nmA ys).length):∀ p,p<P->((mdY ys P).pL p=ctN (nmA ys) (kP (nmA ys) p)/\(mdY ys P).pH p=itN (nmA ys) (kP (nmA ys) p+1))/\(mdY ys P).hL p=ctN (nmA ys) (hP (nmA ys) p)/\(mdY ys P).hH p=evN (nmA ys) (hP (nmA ys) p+1):=fun p hp=>by
 obtain ⟨e1,e2,-,-,e5,-⟩:=md_all hl p hp
 have ek:=prK_mP h p (by omega)
 have eh:mH (nmA ys) p=hP (nmA ys) p:=by rw [e5,ek];rfl
 refine ⟨⟨?_,?_⟩,?_,?_⟩
 ·show rdN (nmA ys) 5 (zi (nmA ys) (mP (nmA ys) p)) (mP (nmA ys) p+1)=_
  rw [e1,ek]
 ·show itN (nmA ys) (mP (nmA ys) p+1)=_
  rw [ek]
 ·show rdN (nmA ys) 3 (zi (nmA ys) (mH (nmA ys) p)) (mH (nmA ys) p+1)=_
  rw [e2,eh]
 ·show evN (nmA ys) (mH (nmA ys) p+1)=_
  rw [eh]
theorem md_parY {ys:List Int} {P:Nat} (h:(prK (nmA ys) P).isSome=true) (hl:mP (nmA ys) P<=(nmA ys).length) (hP:ctN (nmA ys) 0=P):(mdY ys P).Par (rY ys) (mdD ys P) (rY ys).hL:=by
 subst hP
 refine ⟨rfl,fun i hi=>(md_par h hl i hi).1,fun i hi=>?_⟩
 rw [mdD_at ys (P:=ctN (nmA ys) 0) hi]
 exact (md_par h hl i hi).2
theorem okNw {y:Sy} (h:y.Ok):(nwY y.pn y.pL y.pH).Ok:=by
 refine ⟨⟨h.cn.1,rfl,rfl,rfl⟩,h.pr,fun p hp=>?_,fun p hp i hi=>absurd hi (Nat.not_lt_zero _),fun a ha b hb=>⟨fun i hi=>absurd hi (Nat.not_lt_zero _),Nat.zero_le _,rfl⟩,⟨fun _=>0,.start,fun p hp=>rfl⟩⟩
 have h9:=h.rp p hp
 unfold repO at h9
 by_cases e:progOkB (y.pH p) (y.pL p) 4=true/\y.hL p<=200
 ·show repO (y.pH p) (y.pL p) (fun _=>⟨0,0,0⟩) 0=some newS
  unfold repO
  rw [if_pos ⟨e.1,Nat.zero_le _⟩]
  rfl
 ·rw [if_neg e] at h9
  cases h9
theorem okWh {y:Sy} (h:y.Ok):y.Wh y.hL:=fun a ha b hb=>by
 have e:=congrArg List.length (h.wa a ha b hb).eq
 rw [List.length_append,<- cnt_val,<- cnt_val] at e
 unfold tN sN
 omega
theorem nm_all {ys:List Int} (hb:By ys) (k:Nat):puB (zi (nmA ys) k)=true:=by
 by_cases h:k<(nmA ys).length
 ·exact nm_pu hb h
 ·unfold zi
  rw [List.getD_eq_getElem?_getD,List.getElem?_eq_none (by omega)]
  rfl
theorem puB_small {x:Int} (h0:0<=x) (h:x<=1000):puB x=true:=by
 unfold puB
 rw [decide_eq_true_eq]
 omega
theorem pkI_all {h:Nat->I5} {Q:Int->Prop}:∀ {n:Nat},(∀ i,i<n->Q (h i).o/\Q (h i).r/\Q (h i).a/\Q (h i).b/\Q (h i).n)->∀ x ∈ pkI h n,Q x
 | 0,_,x,hx=>by simp [pkI] at hx
 | n+1,hh,x,hx=>by
  rw [pkI,List.mem_append] at hx
  rcases hx with hx | hx
  ·exact pkI_all (fun i hi=>hh i (by omega)) x hx
  ·have h9:=hh n (by omega)
   simp only [List.mem_cons,List.not_mem_nil,or_false] at hx
   rcases hx with rfl | rfl | rfl | rfl | rfl
   ·exact h9.1
   ·exact h9.2.1
   ·exact h9.2.2.1
   ·exact h9.2.2.2.1
   ·exact h9.2.2.2.2
theorem pkE_all {h:Nat->E3} {Q:Int->Prop}:∀ {n:Nat},(∀ i,i<n->Q (h i).k/\Q (h i).q/\Q (h i).v)->∀ x ∈ pkE h n,Q x
 | 0,_,x,hx=>by simp [pkE] at hx
 | n+1,hh,x,hx=>by
  rw [pkE,List.mem_append] at hx
  rcases hx with hx | hx
  ·exact pkE_all (fun i hi=>hh i (by omega)) x hx
  ·have h9:=hh n (by omega)
   simp only [List.mem_cons,List.not_mem_nil,or_false] at hx
   rcases hx with rfl | rfl | rfl
   ·exact h9.1
   ·exact h9.2.1
   ·exact h9.2.2
theorem pkN_all {y:Sy} {Q:Int->Prop} (h0:Q y.pn):∀ {n:Nat},(∀ p,p<n->Q (y.pL p)/\Q (y.hL p)/\(∀ x ∈ pkI (y.pH p) (y.pL p),Q x)/\∀ x ∈ pkE (y.hH p) (y.hL p),Q x)->∀ x ∈ pkN y n,Q x
 | 0,_,x,hx=>by
  simp only [pkN,List.mem_cons,List.not_mem_nil,or_false] at hx
  rw [hx]
  exact h0
 | n+1,hh,x,hx=>by
  rw [pkN,List.mem_append] at hx
  rcases hx with hx | hx
  ·exact pkN_all h0 (fun p hp=>hh p (by omega)) x hx
  ·obtain ⟨h1,h2,h3,h4⟩:=hh n (by omega)
   rw [pkP,List.mem_append,List.mem_cons,List.mem_cons] at hx
   rcases hx with (rfl | hx)|(rfl | hx)
   ·exact h1
   ·exact h3 x hx
   ·exact h2
   ·exact h4 x hx
theorem pkN_pre (y:Sy) {p:Nat}:∀ {n:Nat},p<=n->∃ R,pkN y n=pkN y p ++ R
 | 0,h=>by
  have:p=0:=by omega
  subst this
  exact ⟨[],(List.append_nil _).symm⟩
 | n+1,h=>by
  rcases Nat.lt_or_eq_of_le h with h1 | rfl
  ·obtain ⟨R,e⟩:=pkN_pre y (p:=p) (n:=n) (by omega)
   exact ⟨R ++ pkP y n,by rw [pkN,e,List.append_assoc]⟩
  ·exact ⟨[],(List.append_nil _).symm⟩
theorem zi_app (xs ys:List Int) (x:Int):zi (xs ++ x :: ys) xs.length=x:=by
 unfold zi
 rw [List.getD_eq_getElem?_getD,List.getElem?_append_right (Nat.le_refl _),Nat.sub_self]
 rfl
theorem pkN_pos {M:List Int} {y:Sy} {n:Nat} (hy:∀ p,p<n->y.pL p=rdN M 5 (zi M (mP M p)) (mP M p+1)/\y.hL p=rdN M 3 (zi M (mH M p)) (mH M p+1)):∀ p,p<=n->(pkN y p).length=mP M p
 | 0,_=>rfl
 | p+1,hp=>by
  have ih:=pkN_pos hy p (by omega)
  have h9:=hy p (by omega)
  have eH:mH M p=mP M p+1+5*y.pL p:=by rw [h9.1];rfl
  have eP:mP M (p+1)=mH M p+1+3*y.hL p:=by rw [h9.2];rfl
  rw [pkN,List.length_append,ih,pkP_len]
  omega
theorem pkN_cnt {M:List Int} {y:Sy} {n:Nat} (hy:∀ p,p<n->y.pL p=rdN M 5 (zi M (mP M p)) (mP M p+1)/\y.hL p=rdN M 3 (zi M (mH M p)) (mH M p+1)) (hM:M=pkN y n) (p:Nat) (hp:p<n):zi M (mP M p)=(y.pL p:Nat)/\zi M (mH M p)=(y.hL p:Nat):=by
 obtain ⟨R,e⟩:=pkN_pre y (p:=p+1) (n:=n) hp
 have e1:M=pkN y p ++ ((y.pL p:Nat):Int) :: (pkI (y.pH p) (y.pL p) ++ (((y.hL p:Nat):Int) :: pkE (y.hH p) (y.hL p)) ++ R):=by
  rw [hM,e,pkN,pkP]
  simp
 have e2:M=(pkN y p ++ ((y.pL p:Nat):Int) :: pkI (y.pH p) (y.pL p)) ++ ((y.hL p:Nat):Int) :: (pkE (y.hH p) (y.hL p) ++ R):=by
  rw [hM,e,pkN,pkP]
  simp
 have l1:=pkN_pos hy p (Nat.le_of_lt hp)
 have h9:=hy p hp
 have eH:mH M p=mP M p+1+5*y.pL p:=by rw [h9.1];rfl
 have l2:(pkN y p ++ ((y.pL p:Nat):Int) :: pkI (y.pH p) (y.pL p)).length=mH M p:=by
  rw [List.length_append,List.length_cons,pkI_len,l1]
  omega
 refine ⟨?_,?_⟩
 ·rw [<- l1]
  exact (congrArg (fun L=>zi L (pkN y p).length) e1).trans (zi_app _ _ _)
 ·rw [<- l2]
  exact (congrArg (fun L=>zi L (pkN y p ++ ((y.pL p:Nat):Int) :: pkI (y.pH p) (y.pL p)).length) e2).trans (zi_app _ _ _)
theorem rsB_yes {ys:List Int} {P:Nat} (hz:zi (nmA ys) 0=(P:Int)) (h1:1<=P) (h4:P<=4) (hl:0<(nmA ys).length) (hp:(prK (nmA ys) P).isSome=true) (he:psN (nmA ys) (kP (nmA ys) P)=ys.length):rsB ys=true:=by
 have hc:ctN (nmA ys) 0=P:=by
  unfold ctN
  rw [hz,Int.toNat_natCast]
 unfold rsB
 rw [hc,hz,hp,he,decide_eq_true ⟨hl,by omega,by omega⟩,beq_self_eq_true]
 rfl
theorem um_up {ys:List Int} (hb:By ys) {P:Nat} (h:umB ys P=true):upB ys=true/\((mdY ys P).atY (mdD ys P)).Eqv ((rY ys).atY (rY ys).hL):=by
 unfold umB at h
 simp only [Bool.and_eq_true,decide_eq_true_eq] at h
 obtain ⟨hA,hE,-,hw,hT,hK⟩:=h
 have eW:(mdY ys P).atW (mdD ys P)=(mdY ys P).atY (mdD ys P):=if_pos hw
 rw [eW] at hT hK
 have hO:((mdY ys P).atY (mdD ys P)).Ok:=by
  apply Sy.ok_of
  unfold pkT at hT
  rw [Bool.and_eq_true] at hT
  exact hT.1
 have hK2:byL (pkN ((mdY ys P).atY (mdD ys P)) P)=ys:=by
  unfold pkS at hK
  rw [if_pos hT] at hK
  exact hK
 have h4:P<=4:=hO.cn.1.2
 have h1:1<=P:=hO.cn.1.1
 have hbd:∀ p,p<P->(mdY ys P).pL p<=30/\mdD ys P p<=200:=(pk_bds hO).2.1
 have hq:∀ x ∈ pkN ((mdY ys P).atY (mdD ys P)) P,puB x=true:=by
  refine pkN_all (Q:=fun x=>puB x=true) (puB_small (by show (0:Int)<=(P:Int);omega) (by show (P:Int)<=1000;omega)) fun p hp=>?_
  have h9:=hbd p hp
  refine ⟨puB_small (by omega) (by show (((mdY ys P).pL p:Nat):Int)<=1000;omega),puB_small (by omega) (by show ((mdD ys P p:Nat):Int)<=1000;omega),?_,?_⟩
  ·exact pkI_all fun i _=>⟨nm_all hb _,nm_all hb _,nm_all hb _,nm_all hb _,nm_all hb _⟩
  ·exact pkE_all fun i _=>⟨nm_all hb _,nm_all hb _,nm_all hb _⟩
 have hN:nmA ys=pkN ((mdY ys P).atY (mdD ys P)) P:=(congrArg nmA hK2).symm.trans (nmA_byL fun j hj=>hq _ (zi_mem hj))
 have hcnt:=pkN_cnt (M:=nmA ys) (y:=(mdY ys P).atY (mdD ys P)) (n:=P) (fun p hp=>⟨rfl,mdD_at ys hp⟩) hN
 have hz0:zi (nmA ys) 0=(P:Int):=by
  obtain ⟨R,e⟩:=pkN_pre ((mdY ys P).atY (mdD ys P)) (p:=0) (n:=P) (Nat.zero_le _)
  rw [hN,e]
  rfl
 have hc0:ctN (nmA ys) 0=P:=by
  unfold ctN
  rw [hz0,Int.toNat_natCast]
 have hpr:∀ n,n<=P->(prK (nmA ys) n).isSome=true/\kP (nmA ys) n=mP (nmA ys) n:=by
  intro n
  induction n with
  | zero=>exact fun _=>⟨rfl,rfl⟩
  | succ n ih=>
   intro hn
   obtain ⟨i1,i2⟩:=ih (by omega)
   obtain ⟨h8,h9⟩:=hcnt n (by omega)
   obtain ⟨b1,b2⟩:=hbd n (by omega)
   obtain ⟨-,-,a3,a4,a5,a6⟩:=md_all hA n (by omega)
   have g1:zi (nmA ys) (mP (nmA ys) n)=(((mdY ys P).pL n:Nat):Int):=h8
   have g2:zi (nmA ys) (mH (nmA ys) n)=((mdD ys P n:Nat):Int):=h9
   have h7:=mP_mono (nmA ys) (p:=n+1) (q:=P) hn
   have l1:lsK (nmA ys) 5 30 (kP (nmA ys) n)=some (mH (nmA ys) n):=by
    rw [i2,a5]
    exact if_pos ⟨a3,by rw [g1];omega,by rw [g1];omega,by omega⟩
   have l2:lsK (nmA ys) 3 200 (mH (nmA ys) n)=some (mP (nmA ys) (n+1)):=by
    rw [a6]
    exact if_pos ⟨a4,by rw [g2];omega,by rw [g2];omega,by omega⟩
   have e:prK (nmA ys) (n+1)=some (mP (nmA ys) (n+1)):=by
    obtain ⟨k,hk⟩:=Option.isSome_iff_exists.1 i1
    have hk2:kP (nmA ys) n=k:=by
     unfold kP
     rw [hk]
     rfl
    rw [prK,hk,Option.bind_some,<- hk2,l1,Option.bind_some,l2]
   refine ⟨by rw [e];rfl,?_⟩
   unfold kP
   rw [e]
   rfl
 have par:=md_parY (hpr P (Nat.le_refl _)).1 hA hc0
 have eq:=par.atY
 have hO2:=eq.symm.ok hO
 have hr:rsB ys=true:=rsB_yes hz0 h1 h4 (by have:=mP_ge (nmA ys) P;omega) (hpr P (Nat.le_refl _)).1 (by rw [(hpr P (Nat.le_refl _)).2];exact hE)
 have hc:ctB (rY ys) (rY ys).hL=true:=ct_yes (show ((rY ys).atY (rY ys).hL).Wh ((rY ys).atY (rY ys).hL).hL from okWh hO2) (par.symm.wf hw) fun p hp=>by
  have h9:=hO2.rp p hp
  exact (congrArg Option.isSome h9).trans rfl
 have hs:ctS (rY ys) (rY ys).hL=(rY ys).atY (rY ys).hL:=if_pos hc
 refine ⟨?_,eq⟩
 unfold upB
 rw [hr,hc,hs,Sy.okB_true hO2]
 rfl
theorem up_um {ys:List Int} (hb:By ys) {P:Nat} (hM:MdP (nmA ys) P) (h:upB ys=true):umB ys P=true:=by
 unfold upB at h
 simp only [Bool.and_eq_true] at h
 obtain ⟨hr,hc,ho⟩:=h
 have hs:ctS (rY ys) (rY ys).hL=(rY ys).atY (rY ys).hL:=if_pos hc
 rw [hs] at ho
 have hO:=Sy.ok_of ho
 unfold rsB at hr
 simp only [Bool.and_eq_true,decide_eq_true_eq,beq_iff_eq] at hr
 obtain ⟨⟨h0,h1,h4⟩,hp,he⟩:=hr
 unfold ctB at hc
 simp only [Bool.and_eq_true] at hc
 have hm:=md_prK hp
 have hn:1<=ctN (nmA ys) 0:=hO.cn.1.1
 obtain ⟨m1,m2⟩:mP (nmA ys) (ctN (nmA ys) 0)=kP (nmA ys) (ctN (nmA ys) 0)/\mP (nmA ys) (ctN (nmA ys) 0)<=(nmA ys).length:=by
  rcases hm with h9 | h9
  ·exact h9
  ·omega
 have hz:zi (nmA ys) 0=((ctN (nmA ys) 0:Nat):Int):=by
  unfold ctN
  omega
 have hP:ctN (nmA ys) 0=P:=by
  rcases Nat.lt_trichotomy (ctN (nmA ys) 0) P with h9 | h9 | h9
  ·have:=(hM.1 _ h9).1
   omega
  ·exact h9
  ·refine absurd ⟨?_,?_⟩ hM.2
   ·rw [hz]
    omega
   ·exact zO (mP_mono (nmA ys) (Nat.le_of_lt h9)) m2
 rw [hP] at hp he m1 m2 hn hz
 have par:=md_parY hp m2 hP
 have hO2:=par.atY.ok hO
 have hw:wfB ((mdY ys P).ah (mdD ys P))=true:=par.wf hc.2.1
 have eW:(mdY ys P).atW (mdD ys P)=(mdY ys P).atY (mdD ys P):=if_pos hw
 have he':psN (nmA ys) (kP (nmA ys) P)=ys.length:=by omega
 rw [<- m1] at he'
 obtain ⟨k1,k2⟩:=(nm_end hb m2).1 he'
 have hT:pkT ((mdY ys P).atY (mdD ys P))=true:=by
  unfold pkT
  rw [Sy.okB_true hO2]
  have hno:¬ ((mdY ys P).atY (mdD ys P)).Marks:=by
   rintro ⟨i,hi,k,hk,h9⟩
   cases h9
  unfold pB
  simp [hno]
 have hS:pkS ((mdY ys P).atY (mdD ys P))=ys:=by
  unfold pkS
  rw [if_pos hT]
  have h9:=take_pkN (N:=nmA ys) (y:=(mdY ys P).atY (mdD ys P)) h0 hz P hp fun p hpp=>by
   have h8:=md_par hp m2 p hpp
   exact ⟨h8.1.1,h8.1.2,(mdD_at ys hpp).trans h8.2.1,h8.2.2⟩
  rw [<- m1,k1,List.take_length] at h9
  show byL (pkN ((mdY ys P).atY (mdD ys P)) P)=ys
  rw [<- h9]
  exact k2
 have hN:snB P (mdY ys P).pL (mdY ys P).pH=true:=by
  unfold snB
  rw [decide_eq_true (show P<=4 from hO2.cn.1.2)]
  exact Sy.okB_true (okNw hO2)
 unfold umB
 rw [eW,decide_eq_true m2,decide_eq_true he',hN,hw,hT,decide_eq_true hS]
 rfl
theorem um_eq {ys:List Int} (hb:By ys) {P:Nat} (hM:MdP (nmA ys) P):umB ys P=upB ys:=by
 rw [Bool.eq_iff_iff]
 exact ⟨fun h=>(um_up hb h).1,up_um hb hM⟩
theorem psN_ge {ys:List Int} (hb:By ys):∀ {k:Nat},k<=(nmA ys).length->k<=psN (nmA ys) k
 | 0,_=>Nat.zero_le _
 | k+1,h=>by
  have h1:=psN_ge hb (k:=k) (by omega)
  have h2:=psN_up (nmA ys) k (by omega)
  have h3:=puL_pos _ (nm_pu hb (k:=k) (by omega))
  omega
theorem nm_len {ys:List Int} (hb:By ys):(nmA ys).length<=ys.length:=zO (psN_ge hb (Nat.le_refl _)) (nm_le hb (Nat.le_refl _))
def UmP (w:World) (ys:List Int) (e:Ending) (w':World):Prop:=∃ P,MdP (nmA ys) P/\∃ v,e=.returned (.tuple #[v,.bool (umB ys P)])/\(umB ys P=true->OwnSys false w' w.heap.size ((mdY ys P).atY (mdD ys P)) v)/\(umB ys P=false->v=sysV none 0 0 none 0 0 none 0 0 none 0 0)/\Below w.heap.size w w'
theorem UmP.no {w wx:World} {ys:List Int} {P:Nat} (hf:MdP (nmA ys) P) (h:umB ys P=false) (b:Below w.heap.size w wx):UmP w ys (.returned (.tuple #[sysV none 0 0 none 0 0 none 0 0 none 0 0,.bool false])) ((((wx.setCell ⟨w.heap.size,0,none⟩ (.slice none 0 0)).setCell ⟨w.heap.size,1,none⟩ (.slice none 0 0)).setCell ⟨w.heap.size,2,none⟩ (.slice none 0 0)).setCell ⟨w.heap.size,3,none⟩ (.slice none 0 0)):=by
 have hM:w.heap.size<=w.heap.size:=Nat.le_refl _
 exact ⟨P,hf,_,by rw [h],fun e=>(by rw [h] at e;cases e),fun _=>rfl,(((b.setCell hM _).setCell hM _).setCell hM _).setCell hM _⟩
theorem MoJ.below {w wx w':World} {cap p k:Nat} {a0:Option Addr} {ys:List Int} {c:Nat->Nat} {vp vh:Value} {up uh:Nat->Value} (J:MoJ w wx a0 cap ys c p k vp vh up uh) (hb:Below wx.heap.size wx w'):MoJ w w' a0 cap ys c p k vp vh up uh:=
 ⟨J.mc.below hb,J.lp.below hb,J.lh.below hb,J.ro.below hb,fun j=>(zI (hb.block w.heap.size J.ro.ltR)).trans (J.rf j),J.cc,J.bl.trans (hb.mono J.bl.size)⟩
theorem rdN_le1 {M:List Int} {w j:Nat} {m:Int} (hj:1<=j):rdN M w m j<=M.length:=by
 unfold rdN
 split
 ·have:=Nat.div_le_self (M.length - j) w
  omega
 ·omega
theorem progOk_le {g:Nat->I5} {len procs:Nat} (h:progOkB g len procs=true):len<=30:=by
 unfold progOkB at h
 simp [inB] at h
 omega
theorem fI_upM (ns:List Int) (k n:Nat):fI (itN ns k) (n+1)=fI (itN ns k) n ++ cI (itN ns k n):=rfl
theorem fE_upM (ns:List Int) (k n:Nat):fE (evN ns k) (n+1)=fE (evN ns k) n ++ cE (evN ns k n):=rfl
theorem by_app2 {xs ys:List Int} (h1:By xs) (h2:By ys):By (xs ++ ys):=fun i hi=>by
 rw [List.length_append] at hi
 unfold zi
 rw [List.getD_eq_getElem?_getD]
 by_cases h:i<xs.length
 ·rw [List.getElem?_append_left h,<- List.getD_eq_getElem?_getD]
  exact h1 i h
 ·rw [List.getElem?_append_right (by omega),<- List.getD_eq_getElem?_getD]
  exact h2 _ (by omega)
theorem byL_by:∀ xs:List Int,By (byL xs)
 | []=>fun i hi=>absurd hi (Nat.not_lt_zero _)
 | x :: xs=>by
  rw [byL_cons]
  exact by_app2 (puL_by x) (byL_by xs)
theorem pkS_by (y:Sy):By (pkS y):=by
 unfold pkS
 split
 ·exact byL_by _
 ·exact fun i hi=>absurd hi (Nat.not_lt_zero _)
def ynX (ys:List Int) (n:Nat):Sy:={ nwY n (mdY ys n).pL (mdY ys n).pH with hn:=n,hL:=(mdY ys n).hL,hH:=(mdY ys n).hH }
theorem mix_g {w:World} {B n:Nat} {c:Nat->Nat} {ys:List Int} {vp vs vw vh ve:Value} {up us uw uh ue:Nat->Value} {P:Nat->Prop} (o:OwnS false w B c (nwY n (mdY ys n).pL (mdY ys n).pH) vp vs vw vh up us uw uh) (l:LE true w P ve n ue (mdY ys n).hL (mdY ys n).hH):SysG w ((ynX ys n).sysIn vp vs vw ve up us uw ue):=
 ⟨o.g.p,o.g.pi,o.g.s,o.g.w,o.g.wi,rowS_of l,fun i hi=>evL_own (l.own i hi)⟩
theorem Own1.sV {w:World} {B T n:Nat} {L:Nat->Nat} {H:Nat->Nat->I5} {vp vs vw vh:Value} (o:Own1 w B T n L H vp vs vw vh):∃ c up us,OwnS false w B c (nwY n L H) vp vs vw vh up us (fun _=>.slice none 0 0) (fun _=>.slice none 0 0):=by
 obtain ⟨c,up,us,o,-⟩:=o
 exact ⟨c,up,us,o.p.weak,o.s,o.t.ll (by decide) _ (fun _=>rfl),o.h.ll (by decide) _ (fun _=>rfl)⟩
theorem cap_own {w:World} {B e sz n:Nat} {u:Value} {xs:List Value} (o:w.ownsRow B e sz u n xs):n<=cpOf u:=by
 rcases o.2 with ⟨e,h⟩ | ⟨g,cap,cur,e,_,_,hnc,_⟩
 ·rw [h]
  exact Nat.zero_le _
 ·rw [e]
  exact hnc
theorem OwnSys.inV {z:Bool} {w:World} {B:Nat} {y:Sy} {v:Value} (o:OwnSys z w B y v):∃ x:SysIn,v=x.v/\x.y=y/\SysG w x/\∀ i,i<x.hn->x.hL i<=x.hC i:=by
 obtain ⟨c,vp,vs,vw,vh,up,us,uw,uh,rfl,o⟩:=o
 exact ⟨y.sysIn vp vs vw vh up us uw uh,o.v.symm,rfl,o.g,fun i hi=>cap_own (o.h.own i hi)⟩
structure Sy.Lim (y:Sy):Prop where
 p:y.pn<=1048576/\∀ i,i<y.pn->y.pL i<=1048576
 s:y.sn<=1048576/\∀ i,i<y.sn->(y.sS i).rs.length<=1048576/\(y.sS i).os.length<=1048576
 w:y.wn<=1048576/\∀ i,i<y.wn->y.wL i<=1048576
 h:y.hn<=1048576/\∀ i,i<y.hn->y.hL i<=1048576
theorem Sy.Lim.len {x:SysIn} (h:x.y.Lim):x.Len:=⟨h.p,h.s,h.w,h.h⟩
theorem mdD_int (ys:List Int) {P i:Nat} (h:i<P):zi (flT (mdY ys P) P) i=(((mdY ys P).hL i:Nat):Int):=by
 unfold zi flT
 rw [List.getD_eq_getElem?_getD,List.getElem?_map,List.getElem?_range h]
 rfl
theorem ynX_lim {ys:List Int} {n:Nat} (h4:n<=4) (hp:∀ i,i<n->(mdY ys n).pL i<=30) (hh:∀ i,i<n->(mdY ys n).hL i<=1048576):(ynX ys n).Lim:=by
 have h16:n*n<=16:=zO (Nat.mul_le_mul h4 h4) (by omega)
 refine ⟨⟨?_,fun i hi=>?_⟩,⟨?_,fun i hi=>?_⟩,⟨?_,fun i hi=>Nat.zero_le _⟩,⟨?_,hh⟩⟩
 ·show n<=_
  omega
 ·have:=hp i hi
  show (mdY ys n).pL i<=_
  omega
 ·show n<=_
  omega
 ·show ([0,0,0,0]:List Int).length<=_/\([]:List Int).length<=_
  exact ⟨by decide,by decide⟩
 ·show n*n<=_
  omega
 ·show n<=_
  omega
theorem nil_lim (y:Sy):y.nil.Lim:=
 ⟨⟨Nat.zero_le _,fun _ hi=>absurd hi (Nat.not_lt_zero _)⟩,⟨Nat.zero_le _,fun _ hi=>absurd hi (Nat.not_lt_zero _)⟩,⟨Nat.zero_le _,fun _ hi=>absurd hi (Nat.not_lt_zero _)⟩,⟨Nat.zero_le _,fun _ hi=>absurd hi (Nat.not_lt_zero _)⟩⟩
theorem atW_lim {ys:List Int} {n:Nat} (h4:n<=4) (hp:∀ i,i<n->(mdY ys n).pL i<=30) (hh:∀ i,i<n->(mdY ys n).hL i<=1048576):((ynX ys n).atW (mdD ys n)).Lim:=by
 unfold Sy.atW
 split
 ·rename_i hw
  have hw:=qB_iff.1 hw
  have h16:n*n<=16:=zO (Nat.mul_le_mul h4 h4) (by omega)
  refine ⟨⟨?_,fun i hi=>?_⟩,⟨?_,fun i hi=>?_⟩,⟨?_,fun i hi=>?_⟩,⟨?_,fun i hi=>?_⟩⟩
  ·show n<=_
   omega
  ·have:=hp i hi
   show (mdY ys n).pL i<=_
   omega
  ·show n<=_
   omega
  ·have:=resS_len ((mdY ys n).pH i) ((mdY ys n).pL i) ((mdY ys n).hH i) (mdD ys n i)
   show (resS (repO ((mdY ys n).pH i) ((mdY ys n).pL i) ((mdY ys n).hH i) (mdD ys n i))).rs.length<=_/\(resS (repO ((mdY ys n).pH i) ((mdY ys n).pL i) ((mdY ys n).hH i) (mdD ys n i))).os.length<=_
   omega
  ·show n*n<=_
   omega
  ·have hi:i<n*n:=hi
   have ha:i / n<n:=Nat.div_lt_of_lt_mul hi
   have hb:i % n<n:=by
    refine Nat.mod_lt _ (Nat.pos_of_ne_zero fun e=>?_)
    rw [e] at hi
    omega
   have:=hw _ ha _ hb
   show (wyL ((ynX ys n).ah (mdD ys n)) (i / n) (i % n)).length<=_
   omega
  ·show n<=_
   omega
  ·have hi:i<n:=hi
   have:=hh i hi
   show mdD ys n i<=_
   rw [mdD_at ys hi]
   exact this
 ·exact nil_lim _
theorem specUnpack_any (a0:Option Addr) (cap:Nat) (ys:List Int) (w:World) (hlen:ys.length<=1048576) (_:ys.length<=cap) (hb:By ys) (hs:SlB w a0 ys) (ha:∀ b o,a0=some ⟨b,o,none⟩->b<w.heap.size):
  Calls Tryz.prog 4 #[.slice a0 ys.length cap] w (UmP w ys):=by
 have HNum:Hid (∀ wx k,Mc wx (w.heap.size+1) w.heap.size a0 cap ys k->Calls Tryz.prog 12 #[.pointer (some ⟨w.heap.size+1,0,none⟩)] wx fun e w'=>e=.returned (.int .i64 (zi (nmA ys) k))/\Mc w' (w.heap.size+1) w.heap.size a0 cap ys (k+1)/\wx.grownBy w' (some (w.heap.size+1))):=fun wx k hx=>l14Num_any a0 cap (w.heap.size+1) w.heap.size k ys wx hlen hb hx
 have BW:Hid (Below w.heap.size w ((w.alloc (zQ3)).alloc (.cells #[.slice a0 ys.length cap,.int .i64 0,.bool true] 39))/\Mc ((w.alloc (zQ3)).alloc (.cells #[.slice a0 ys.length cap,.int .i64 0,.bool true] 39)) (w.heap.size+1) w.heap.size a0 cap ys 0/\BoxC ((w.alloc (zQ3)).alloc (.cells #[.slice a0 ys.length cap,.int .i64 0,.bool true] 39)) w.heap.size (.slice none 0 0) (.slice none 0 0) (.slice none 0 0) (.slice none 0 0)/\(∀ j,((w.alloc (zQ3)).alloc (.cells #[.slice a0 ys.length cap,.int .i64 0,.bool true] 39)).frozen? ⟨w.heap.size,j,none⟩=false)/\((w.alloc (zQ3)).alloc (.cells #[.slice a0 ys.length cap,.int .i64 0,.bool true] 39)).heap.size=w.heap.size+2):=by
  have b1:=zP w (zQ3)
  have b2:=zP (w.alloc (zQ3)) (.cells #[.slice a0 ys.length cap,.int .i64 0,.bool true] 39)
  have bb:=b1.trans (b2.mono (by simp))
  refine ⟨bb,⟨(zV _ _ _ 0 (by simp)).trans (by simp),(zV _ _ _ 1 (by simp)).trans (by simp [psN_zero]),(zV _ _ _ 2 (by simp)).trans (by simp),fun j=>yA _ _ _ _ (by simp),by omega,ha,hs.below bb⟩,(BoxC.new w _ _ _ _ _).below b2,fun j=>?_,by simp⟩
  exact (zI (b2.block w.heap.size (by simp))).trans (yA _ _ _ _ rfl)
 have HML:Hid ((nmA ys).length<=1048576):=zO (nm_len hb) hlen
 have HBy:Hid (By ys):=hb
 clear hlen hb hs ha
 go_enter Tryz.func4,Tryz.ntmps4
 go_upto_region 2 with fail
 generalize (w.alloc (zQ3)).alloc (.cells #[.slice a0 ys.length cap,.int .i64 0,.bool true] 39)=W2 at *
 go_wp2_with fail
 refine (HNum.out W2 0 BW.out.2.1).mono ?_
 rintro e w1 ⟨rfl,hm1,hg1⟩
 obtain ⟨n,hn⟩:∃ n,zi (nmA ys) 0=n:=⟨_,rfl⟩
 rw [hn]
 have HZ0:Hid (zi (nmA ys) 0=n):=hn
 have J0:Hid (∀ (w3:World),w3=(w1.alloc (.cells #[] 41)).alloc (.cells #[] 44)->∃ c up uh,MoJ w w3 a0 cap ys c 0 (mP (nmA ys) 0) (.slice (some ⟨w1.heap.size,0,none⟩) 0 0) (.slice (some ⟨w1.heap.size+1,0,none⟩) 0 0) up uh):=by
  rintro w3 rfl
  have hsz:=BW.out.2.2.2.2
  have s1:=hg1.size
  have k0:=hg1.block w.heap.size (by omega) (by simp)
  have bb:=(zP w1 (.cells #[] 41)).trans ((zP (w1.alloc (.cells #[] 41)) (.cells #[] 44)).mono (by simp))
  have k1:=(bb.block w.heap.size (by omega)).trans k0
  have e1:(w1.alloc (.cells #[] 41)).heap.size=w1.heap.size+1:=by simp
  refine ⟨fun b=>if b=w1.heap.size then 1 else if b=w1.heap.size+1 then 4 else 0,fun _=>.slice none 0 0,fun _=>.slice none 0 0,hm1.below bb,(LL.new _ _ _ w1 _ ⟨by omega,if_pos rfl⟩ _ _ _).below (zP _ _),?_,BW.out.2.2.1.blkR k1,fun j=>(zI k1).trans (BW.out.2.2.2.1 j),⟨?_,?_⟩,?_⟩
  ·have e9:(fun b=>if b=w1.heap.size then 1 else if b=w1.heap.size+1 then 4 else 0) (w1.alloc (.cells #[] 41)).heap.size=4:=by
    show (if (w1.alloc (.cells #[] 41)).heap.size=w1.heap.size then 1 else if (w1.alloc (.cells #[] 41)).heap.size=w1.heap.size+1 then 4 else 0)=4
    rw [e1,if_neg (by omega),if_pos rfl]
   have h9:=fun u L c=>LL.new (z:=true) 46 3 44 (w1.alloc (.cells #[] 41)) (Cl w.heap.size (fun b=>if b=w1.heap.size then 1 else if b=w1.heap.size+1 then 4 else 0) 4) ⟨by omega,e9⟩ u L c
   rw [e1] at h9
   exact h9 _ _ _
  ·show (if w.heap.size=w1.heap.size then 1 else if w.heap.size=w1.heap.size+1 then 4 else 0)=0
   rw [if_neg (by omega),if_neg (by omega)]
  ·show (if w.heap.size+1=w1.heap.size then 1 else if w.heap.size+1=w1.heap.size+1 then 4 else 0)=0
   rw [if_neg (by omega),if_neg (by omega)]
  ·exact (Below.grown BW.out.1 hg1 BW.out.1.size (fun b e=>by cases e;omega)).trans (bb.mono (by omega))
 have J1:=J0.out _ rfl
 have J2:Hid (∃ c up uh,MoJ w ((w1.alloc (.cells #[] 41)).alloc (.cells #[] 44)) a0 cap ys c 0 (mP (nmA ys) 0) (.slice (some ⟨w1.heap.size,0,none⟩) 0 0) (.slice (some ⟨w1.heap.size+1,0,none⟩) 0 0) up uh):=J1
 clear J0 J1 hm1 hg1 hn BW
 go_upto_region 6 with fail
 go_loopw [6,7,8] (fun vp vh i wr=>∃ p:Nat,(∀ q,q<p->(q:Int)<n/\mP (nmA ys) q<=(nmA ys).length)/\i=.int .i64 p/\Hid (∃ c up uh,MoJ w wr a0 cap ys c p (mP (nmA ys) p) vp vh up uh)) (fun _ _ i _=>n.toNat - (intOf i).toNat)
 case atStart=>exact ⟨0,fun q hq=>by omega,rfl,J2.out⟩
 case round=>
  clear J2
  rename World=>wr
  obtain ⟨p,hpq,rfl,HJ⟩:=hrel
  obtain ⟨c,up,uh,hJ⟩:=HJ.out
  have J:Hid (MoJ w wr a0 cap ys c p (mP (nmA ys) p) u6 u7 up uh):=hJ
  have hJc:=hJ.mc.c2
  clear hJ HJ
  have HQ:Hid (∀ q,q<p->(q:Int)<n/\mP (nmA ys) q<=(nmA ys).length):=hpq
  clear hpq
  obtain ⟨D,hD⟩:∃ D:Prop,D=((p:Int)<n/\mP (nmA ys) p<=(nmA ys).length):=⟨_,rfl⟩
  obtain ⟨dd,hdd⟩:∃ dd:Bool,(dd=true ↔ ((p:Int)<n/\mP (nmA ys) p<=(nmA ys).length)):=⟨decide ((p:Int)<n/\mP (nmA ys) p<=(nmA ys).length),by simp⟩
  have HDD:Hid (dd=true ↔ ((p:Int)<n/\mP (nmA ys) p<=(nmA ys).length)):=hdd
  clear hdd hD D
  go_upto_region 6 with fail
  go_cut [39] from 31 to 38 (fun t wx=>t=.bool dd/\wx=wr)
  case first=>
   by_cases hp:(p:Int)<n
   ·have e1:dd=decide (mP (nmA ys) p<=(nmA ys).length):=by
     rw [Bool.eq_iff_iff,decide_eq_true_eq]
     exact ⟨fun h=>(HDD.out.1 h).2,fun h=>HDD.out.2 ⟨hp,h⟩⟩
    rw [<- e1] at hJc
    clear e1
    go_wp2_with fail
    go_meet
    exact ⟨rfl,rfl⟩
   ·have e1:dd=false:=by
     cases h9:dd with
     | false=>rfl
     | true=>exact absurd (HDD.out.1 h9).1 hp
    clear hJc
    subst e1
    go_wp2_with fail
    go_meet
    exact ⟨rfl,rfl⟩
  case rest=>
   obtain ⟨rfl,rfl⟩:=hcut
   clear hJc
   cases hdc:dd with
   | true=>
    obtain ⟨hp,hpl⟩:=HDD.out.1 hdc
    clear hdc HDD
    have HCB:Hid (w.heap.size+1<wc.heap.size):=J.out.lt
    generalize hwr:wc=wr at *
    clear hwr
    have A0:Hid (MlI wr (wr.alloc (.cells #[] 43)) (w.heap.size+1) w.heap.size a0 cap ys (.slice (some ⟨wr.heap.size,0,none⟩) 0 0) ((mP (nmA ys) p)+1) 0 (mP (nmA ys) p)):=MlI.new J.out.mc (World.grownBy.refl _ _)
    go_wp2_with fail
    refine (HNum.out _ (mP (nmA ys) p) A0.out.mc).mono ?_
    rintro e w4 ⟨rfl,hm4,hg4⟩
    have A1:Hid (MlI wr w4 (w.heap.size+1) w.heap.size a0 cap ys (.slice (some ⟨wr.heap.size,0,none⟩) 0 0) ((mP (nmA ys) p)+1) 0 ((mP (nmA ys) p)+1+5*0)):=A0.out.call HCB.out hm4 hg4
    clear hm4 hg4 A0
    obtain ⟨mI,hmI⟩:∃ m,zi (nmA ys) ((mP (nmA ys) p))=m:=⟨_,rfl⟩
    obtain ⟨RI,hRI⟩:∃ R,R=(mdY ys p).pL p:=⟨_,rfl⟩
    have HRI:Hid (RI=(mdY ys p).pL p/\(∀ q,q<RI ↔ (q:Int)<mI/\(mP (nmA ys) p)+1+5*q<=(nmA ys).length)/\RI<=1048577):=by
     refine ⟨hRI,fun q=>?_,?_⟩
     ·rw [hRI,<- hmI]
      exact rdN_lt (by omega)
     ·rw [hRI]
      exact zO (rdN_le (by omega)) (by have:=HML.out;omega)
    rw [hmI]
    clear hmI hRI
    go_upto_region 11 with fail
    go_loopw [9,11] (fun v i wx=>∃ q:Nat,q<=RI/\i=.int .i64 q/\Hid (MlI wr wx (w.heap.size+1) w.heap.size a0 cap ys v ((mP (nmA ys) p)+1) q ((mP (nmA ys) p)+1+5*q))) (fun _ i _=>RI - (intOf i).toNat)
    case atStart=>exact ⟨0,Nat.zero_le _,rfl,A1.out⟩
    case round=>
     clear A1
     rename World=>wx
     obtain ⟨q,hq,rfl,HI⟩:=hrel
     have hc2:=HI.out.mc.c2
     obtain ⟨qq,hqq⟩:∃ qq:Bool,(qq=true ↔ q<RI):=⟨decide (q<RI),by simp⟩
     have HQQ:Hid (qq=true ↔ q<RI):=hqq
     clear hqq
     go_upto_region 11 with fail
     go_cut [53] from 45 to 52 (fun t wy=>t=.bool qq/\wy=wx)
     case first=>
      by_cases hp:(q:Int)<mI
      ·have e1:qq=decide ((mP (nmA ys) p)+1+5*q<=(nmA ys).length):=by
        rw [Bool.eq_iff_iff,decide_eq_true_eq,HQQ.out,HRI.out.2.1 q]
        exact ⟨fun h=>h.2,fun h=>⟨hp,h⟩⟩
       rw [<- e1] at hc2
       clear e1
       go_wp2_with fail
       go_meet
       exact ⟨rfl,rfl⟩
      ·have e1:qq=false:=by
        cases h9:qq with
        | false=>rfl
        | true=>exact absurd ((HRI.out.2.1 q).1 (HQQ.out.1 h9)).1 hp
       clear hc2
       subst e1
       go_wp2_with fail
       go_meet
       exact ⟨rfl,rfl⟩
     case rest=>
      obtain ⟨rfl,rfl⟩:=hcut
      clear hc2
      cases hqc:qq with
      | true=>
       have hlt:q<RI:=HQQ.out.1 hqc
       have hqs:(q:Int)<=1048577:=by have:=HRI.out.2.2;omega
       clear hqc HQQ
       go_wp2_with fail
       refine (HNum.out _ ((mP (nmA ys) p)+1+5*q) HI.out.mc).mono ?_
       rintro e w5 ⟨rfl,hm5,hg5⟩
       have B1:Hid (MlI wr w5 (w.heap.size+1) w.heap.size a0 cap ys u9 ((mP (nmA ys) p)+1) q ((mP (nmA ys) p)+1+5*q+1)):=HI.out.call HCB.out hm5 hg5
       have HB5:Hid ((∀ k,u9.ownBlock=some k->k<w5.heap.size)/\wr.heap.size<=w5.heap.size):=⟨fun k hk=>(B1.out.ow.lt k hk).2,B1.out.gr.size⟩
       obtain ⟨v0,hv0⟩:∃ v,zi (nmA ys) ((mP (nmA ys) p)+1+5*q)=v:=⟨_,rfl⟩
       have HV0:Hid (zi (nmA ys) ((mP (nmA ys) p)+1+5*q)=v0):=hv0
       rw [hv0]
       clear hv0 hm5 hg5 HI
       have B2:Hid (MlI wr (w5.alloc (oQ2 v0 0 0 0 0)) (w.heap.size+1) w.heap.size a0 cap ys u9 ((mP (nmA ys) p)+1) q ((mP (nmA ys) p)+1+5*q+1)/\B5 (w5.alloc (oQ2 v0 0 0 0 0)) w5.heap.size v0 0 0 0 0):=⟨B1.out.alloc _,B5.new _ _ v0 0 0 0 0⟩
       go_upto_region 14 with fail
       generalize w5.alloc (oQ2 v0 0 0 0 0)=w6 at *
       generalize w5.heap.size=X5 at *
       clear B1 w5
       go_wp2_with fail
       refine (HNum.out w6 ((mP (nmA ys) p)+1+5*q+1) B2.out.1.mc).mono ?_
       rintro e w5 ⟨rfl,hm5,hg5⟩
       obtain ⟨v1,hv1⟩:∃ v,zi (nmA ys) ((mP (nmA ys) p)+1+5*q+1)=v:=⟨_,rfl⟩
       have HV1:Hid (zi (nmA ys) ((mP (nmA ys) p)+1+5*q+1)=v1):=hv1
       rw [hv1]
       have B3:Hid (MlI wr w5 (w.heap.size+1) w.heap.size a0 cap ys u9 ((mP (nmA ys) p)+1) q ((mP (nmA ys) p)+1+5*q+1+1)/\B5 w5 X5 v0 0 0 0 0):=⟨B2.out.1.call HCB.out hm5 hg5,B2.out.2.kept hg5 (fun e9=>by cases e9;have h9:=HCB.out;have h8:=HB5.out.2;omega)⟩
       clear hv1 hm5 hg5 B2
       obtain ⟨⟨k0,k1,k2,k3,k4⟩,kf⟩:=B3.out.2
       have B2:Hid (MlI wr (w5.setCell ⟨X5,1,none⟩ (.int .i64 v1)) (w.heap.size+1) w.heap.size a0 cap ys u9 ((mP (nmA ys) p)+1) q ((mP (nmA ys) p)+1+5*q+(1+1))/\B5 (w5.setCell ⟨X5,1,none⟩ (.int .i64 v1)) X5 v0 v1 0 0 0):=⟨B3.out.1.set HCB.out HB5.out.2 HB5.out.1 _,B3.out.2.set1 v1⟩
       go_upto_region 15 with fail
       clear k0 k1 k2 k3 k4 kf B3
       generalize w5.setCell ⟨X5,1,none⟩ (.int .i64 v1)=w7 at *
       clear w6 w5
       go_wp2_with fail
       refine (HNum.out w7 ((mP (nmA ys) p)+1+5*q+2) B2.out.1.mc).mono ?_
       rintro e w5 ⟨rfl,hm5,hg5⟩
       obtain ⟨v2,hv2⟩:∃ v,zi (nmA ys) ((mP (nmA ys) p)+1+5*q+2)=v:=⟨_,rfl⟩
       have HV2:Hid (zi (nmA ys) ((mP (nmA ys) p)+1+5*q+2)=v2):=hv2
       rw [hv2]
       have B3:Hid (MlI wr w5 (w.heap.size+1) w.heap.size a0 cap ys u9 ((mP (nmA ys) p)+1) q ((mP (nmA ys) p)+1+5*q+2+1)/\B5 w5 X5 v0 v1 0 0 0):=⟨B2.out.1.call HCB.out hm5 hg5,B2.out.2.kept hg5 (fun e9=>by cases e9;have h9:=HCB.out;have h8:=HB5.out.2;omega)⟩
       clear hv2 hm5 hg5 B2
       obtain ⟨⟨k0,k1,k2,k3,k4⟩,kf⟩:=B3.out.2
       have B2:Hid (MlI wr (w5.setCell ⟨X5,2,none⟩ (.int .i64 v2)) (w.heap.size+1) w.heap.size a0 cap ys u9 ((mP (nmA ys) p)+1) q ((mP (nmA ys) p)+1+5*q+(2+1))/\B5 (w5.setCell ⟨X5,2,none⟩ (.int .i64 v2)) X5 v0 v1 v2 0 0):=⟨B3.out.1.set HCB.out HB5.out.2 HB5.out.1 _,B3.out.2.set2 v2⟩
       go_upto_region 16 with fail
       clear k0 k1 k2 k3 k4 kf B3
       generalize w5.setCell ⟨X5,2,none⟩ (.int .i64 v2)=w8 at *
       clear w7 w5
       go_wp2_with fail
       refine (HNum.out w8 ((mP (nmA ys) p)+1+5*q+3) B2.out.1.mc).mono ?_
       rintro e w5 ⟨rfl,hm5,hg5⟩
       obtain ⟨v3,hv3⟩:∃ v,zi (nmA ys) ((mP (nmA ys) p)+1+5*q+3)=v:=⟨_,rfl⟩
       have HV3:Hid (zi (nmA ys) ((mP (nmA ys) p)+1+5*q+3)=v3):=hv3
       rw [hv3]
       have B3:Hid (MlI wr w5 (w.heap.size+1) w.heap.size a0 cap ys u9 ((mP (nmA ys) p)+1) q ((mP (nmA ys) p)+1+5*q+3+1)/\B5 w5 X5 v0 v1 v2 0 0):=⟨B2.out.1.call HCB.out hm5 hg5,B2.out.2.kept hg5 (fun e9=>by cases e9;have h9:=HCB.out;have h8:=HB5.out.2;omega)⟩
       clear hv3 hm5 hg5 B2
       obtain ⟨⟨k0,k1,k2,k3,k4⟩,kf⟩:=B3.out.2
       have B2:Hid (MlI wr (w5.setCell ⟨X5,3,none⟩ (.int .i64 v3)) (w.heap.size+1) w.heap.size a0 cap ys u9 ((mP (nmA ys) p)+1) q ((mP (nmA ys) p)+1+5*q+(3+1))/\B5 (w5.setCell ⟨X5,3,none⟩ (.int .i64 v3)) X5 v0 v1 v2 v3 0):=⟨B3.out.1.set HCB.out HB5.out.2 HB5.out.1 _,B3.out.2.set3 v3⟩
       go_upto_region 17 with fail
       clear k0 k1 k2 k3 k4 kf B3
       generalize w5.setCell ⟨X5,3,none⟩ (.int .i64 v3)=w9 at *
       clear w8 w5
       go_wp2_with fail
       refine (HNum.out w9 ((mP (nmA ys) p)+1+5*q+4) B2.out.1.mc).mono ?_
       rintro e w5 ⟨rfl,hm5,hg5⟩
       obtain ⟨v4,hv4⟩:∃ v,zi (nmA ys) ((mP (nmA ys) p)+1+5*q+4)=v:=⟨_,rfl⟩
       have HV4:Hid (zi (nmA ys) ((mP (nmA ys) p)+1+5*q+4)=v4):=hv4
       rw [hv4]
       have B3:Hid (MlI wr w5 (w.heap.size+1) w.heap.size a0 cap ys u9 ((mP (nmA ys) p)+1) q ((mP (nmA ys) p)+1+5*q+4+1)/\B5 w5 X5 v0 v1 v2 v3 0):=⟨B2.out.1.call HCB.out hm5 hg5,B2.out.2.kept hg5 (fun e9=>by cases e9;have h9:=HCB.out;have h8:=HB5.out.2;omega)⟩
       clear hv4 hm5 hg5 B2
       obtain ⟨⟨k0,k1,k2,k3,k4⟩,kf⟩:=B3.out.2
       have B2:Hid (MlI wr (w5.setCell ⟨X5,4,none⟩ (.int .i64 v4)) (w.heap.size+1) w.heap.size a0 cap ys u9 ((mP (nmA ys) p)+1) q ((mP (nmA ys) p)+1+5*q+(4+1))/\B5 (w5.setCell ⟨X5,4,none⟩ (.int .i64 v4)) X5 v0 v1 v2 v3 v4):=⟨B3.out.1.set HCB.out HB5.out.2 HB5.out.1 _,B3.out.2.set4 v4⟩
       go_upto_region 18 with fail
       clear k0 k1 k2 k3 k4 kf B3
       generalize w5.setCell ⟨X5,4,none⟩ (.int .i64 v4)=w10 at *
       clear w9 w5
       obtain ⟨⟨k0,k1,k2,k3,k4⟩,kf⟩:=B2.out.2
       have HC:Hid (cI (itN (nmA ys) ((mP (nmA ys) p)+1) q)=[.int .i64 v0,.int .i64 v1,.int .i64 v2,.int .i64 v3,.int .i64 v4]):=by
        show cI (itN (nmA ys) ((mP (nmA ys) p)+1) q)=[.int .i64 v0,.int .i64 v1,.int .i64 v2,.int .i64 v3,.int .i64 v4]
        rw [<- HV0.out,<- HV1.out,<- HV2.out,<- HV3.out,<- HV4.out]
        rfl
       have hq2:Hid (q<=2000000):=by have:=HRI.out.2.2;show q<=2000000;omega
       go_wp2_with (at_builtin;refine step_append_val kndI w10 rfl rfl _ _ rfl wr.heap.size u9 q _ rfl B2.out.1.ow #[.int .i64 v0,.int .i64 v1,.int .i64 v2,.int .i64 v3,.int .i64 v4] rfl rfl (by intro u hu;simp at hu;rcases hu with rfl | rfl | rfl | rfl | rfl <;> rfl) hq2.out B2.out.1.gr.size ?_;intro z7 w7 o7 g7 q7 n7;have F7:Hid (MlI wr w7 (w.heap.size+1) w.heap.size a0 cap ys z7 ((mP (nmA ys) p)+1) (q+1) ((mP (nmA ys) p)+1+5*(q+1))):=(B2.out.1.app HCB.out (by rw [fI_upM,HC.out];exact o7) g7 n7);clear o7 g7 q7 n7)
       go_roundw
       case rel=>exact ⟨q+1,by omega,by go_num,F7.out⟩
       case measure=>simp [intOf];omega
      | false=>
       have hR:q=RI:=by
        have h9:¬ q<RI:=fun h9=>by rw [HQQ.out.2 h9] at hqc;cases hqc
        omega
       clear hqc HQQ
       rw [hR] at HI
       clear hR hq
       have HA:Hid (MlI wr wc (w.heap.size+1) w.heap.size a0 cap ys u9 (mP (nmA ys) p+1) ((mdY ys p).pL p) (mH (nmA ys) p)):=by
        have h9:=HI.out
        rw [HRI.out.1] at h9
        exact h9
       have HM:Hid (Mc wc (w.heap.size+1) w.heap.size a0 cap ys (mH (nmA ys) p)/\w.heap.size+1<wc.heap.size):=⟨HA.out.mc,HA.out.mc.lt⟩
       clear HI HRI
       go_upto_region 19 with fail
       generalize hwm:wc=wm at *
       clear hwm
       have HM2:Hid (w.heap.size+1<wm.heap.size):=HM.out.2
       have A0:Hid (MlE wm (wm.alloc (.cells #[] 46)) (w.heap.size+1) w.heap.size a0 cap ys (.slice (some ⟨wm.heap.size,0,none⟩) 0 0) ((mH (nmA ys) p)+1) 0 (mH (nmA ys) p)):=MlE.new HM.out.1 (World.grownBy.refl _ _)
       go_wp2_with fail
       refine (HNum.out _ (mH (nmA ys) p) A0.out.mc).mono ?_
       rintro e w4 ⟨rfl,hm4,hg4⟩
       have A1:Hid (MlE wm w4 (w.heap.size+1) w.heap.size a0 cap ys (.slice (some ⟨wm.heap.size,0,none⟩) 0 0) ((mH (nmA ys) p)+1) 0 ((mH (nmA ys) p)+1+3*0)):=A0.out.call HM2.out hm4 hg4
       clear hm4 hg4 A0
       obtain ⟨mE,hmE⟩:∃ m,zi (nmA ys) ((mH (nmA ys) p))=m:=⟨_,rfl⟩
       obtain ⟨RE,hRE⟩:∃ R,R=(mdY ys p).hL p:=⟨_,rfl⟩
       have HRE:Hid (RE=(mdY ys p).hL p/\(∀ q,q<RE ↔ (q:Int)<mE/\(mH (nmA ys) p)+1+3*q<=(nmA ys).length)/\RE<=1048577):=by
        refine ⟨hRE,fun q=>?_,?_⟩
        ·rw [hRE,<- hmE]
         exact rdN_lt (by omega)
        ·rw [hRE]
         exact zO (rdN_le (by omega)) (by have:=HML.out;omega)
       rw [hmE]
       clear hmE hRE
       go_upto_region 22 with fail
       go_loopw [13,14] (fun v i wx=>∃ q:Nat,q<=RE/\i=.int .i64 q/\Hid (MlE wm wx (w.heap.size+1) w.heap.size a0 cap ys v ((mH (nmA ys) p)+1) q ((mH (nmA ys) p)+1+3*q))) (fun _ i _=>RE - (intOf i).toNat)
       case atStart=>exact ⟨0,Nat.zero_le _,rfl,A1.out⟩
       case round=>
        clear A1
        rename World=>wx
        obtain ⟨q,hq,rfl,HI⟩:=hrel
        have hc2:=HI.out.mc.c2
        obtain ⟨qq,hqq⟩:∃ qq:Bool,(qq=true ↔ q<RE):=⟨decide (q<RE),by simp⟩
        have HQQ:Hid (qq=true ↔ q<RE):=hqq
        clear hqq
        go_upto_region 22 with fail
        go_cut [86] from 78 to 85 (fun t wy=>t=.bool qq/\wy=wx)
        case first=>
         by_cases hp:(q:Int)<mE
         ·have e1:qq=decide ((mH (nmA ys) p)+1+3*q<=(nmA ys).length):=by
           rw [Bool.eq_iff_iff,decide_eq_true_eq,HQQ.out,HRE.out.2.1 q]
           exact ⟨fun h=>h.2,fun h=>⟨hp,h⟩⟩
          rw [<- e1] at hc2
          clear e1
          go_wp2_with fail
          go_meet
          exact ⟨rfl,rfl⟩
         ·have e1:qq=false:=by
           cases h9:qq with
           | false=>rfl
           | true=>exact absurd ((HRE.out.2.1 q).1 (HQQ.out.1 h9)).1 hp
          clear hc2
          subst e1
          go_wp2_with fail
          go_meet
          exact ⟨rfl,rfl⟩
        case rest=>
         obtain ⟨rfl,rfl⟩:=hcut
         clear hc2
         cases hqc:qq with
         | true=>
          have hlt:q<RE:=HQQ.out.1 hqc
          have hqs:(q:Int)<=1048577:=by have:=HRE.out.2.2;omega
          clear hqc HQQ
          go_wp2_with fail
          refine (HNum.out _ ((mH (nmA ys) p)+1+3*q) HI.out.mc).mono ?_
          rintro e w5 ⟨rfl,hm5,hg5⟩
          have B1:Hid (MlE wm w5 (w.heap.size+1) w.heap.size a0 cap ys u13 ((mH (nmA ys) p)+1) q ((mH (nmA ys) p)+1+3*q+1)):=HI.out.call HM2.out hm5 hg5
          have HB5:Hid ((∀ k,u13.ownBlock=some k->k<w5.heap.size)/\wm.heap.size<=w5.heap.size):=⟨fun k hk=>(B1.out.ow.lt k hk).2,B1.out.gr.size⟩
          obtain ⟨v0,hv0⟩:∃ v,zi (nmA ys) ((mH (nmA ys) p)+1+3*q)=v:=⟨_,rfl⟩
          have HV0:Hid (zi (nmA ys) ((mH (nmA ys) p)+1+3*q)=v0):=hv0
          rw [hv0]
          clear hv0 hm5 hg5 HI
          have B2:Hid (MlE wm (w5.alloc (oQ0 v0 0 0)) (w.heap.size+1) w.heap.size a0 cap ys u13 ((mH (nmA ys) p)+1) q ((mH (nmA ys) p)+1+3*q+1)/\B3x (w5.alloc (oQ0 v0 0 0)) w5.heap.size v0 0 0):=⟨B1.out.alloc _,B3x.new _ _ v0 0 0⟩
          go_upto_region 25 with fail
          generalize w5.alloc (oQ0 v0 0 0)=w6 at *
          generalize w5.heap.size=X5 at *
          clear B1 w5
          go_wp2_with fail
          refine (HNum.out w6 ((mH (nmA ys) p)+1+3*q+1) B2.out.1.mc).mono ?_
          rintro e w5 ⟨rfl,hm5,hg5⟩
          obtain ⟨v1,hv1⟩:∃ v,zi (nmA ys) ((mH (nmA ys) p)+1+3*q+1)=v:=⟨_,rfl⟩
          have HV1:Hid (zi (nmA ys) ((mH (nmA ys) p)+1+3*q+1)=v1):=hv1
          rw [hv1]
          have B3:Hid (MlE wm w5 (w.heap.size+1) w.heap.size a0 cap ys u13 ((mH (nmA ys) p)+1) q ((mH (nmA ys) p)+1+3*q+1+1)/\B3x w5 X5 v0 0 0):=⟨B2.out.1.call HM2.out hm5 hg5,B2.out.2.kept hg5 (fun e9=>by cases e9;have h9:=HM2.out;have h8:=HB5.out.2;omega)⟩
          clear hv1 hm5 hg5 B2
          obtain ⟨⟨k0,k1,k2⟩,kf⟩:=B3.out.2
          have B2:Hid (MlE wm (w5.setCell ⟨X5,1,none⟩ (.int .i64 v1)) (w.heap.size+1) w.heap.size a0 cap ys u13 ((mH (nmA ys) p)+1) q ((mH (nmA ys) p)+1+3*q+(1+1))/\B3x (w5.setCell ⟨X5,1,none⟩ (.int .i64 v1)) X5 v0 v1 0):=⟨B3.out.1.set HM2.out HB5.out.2 HB5.out.1 _,B3.out.2.set1 v1⟩
          go_upto_region 26 with fail
          clear k0 k1 k2 kf B3
          generalize w5.setCell ⟨X5,1,none⟩ (.int .i64 v1)=w7 at *
          clear w6 w5
          go_wp2_with fail
          refine (HNum.out w7 ((mH (nmA ys) p)+1+3*q+2) B2.out.1.mc).mono ?_
          rintro e w5 ⟨rfl,hm5,hg5⟩
          obtain ⟨v2,hv2⟩:∃ v,zi (nmA ys) ((mH (nmA ys) p)+1+3*q+2)=v:=⟨_,rfl⟩
          have HV2:Hid (zi (nmA ys) ((mH (nmA ys) p)+1+3*q+2)=v2):=hv2
          rw [hv2]
          have B3:Hid (MlE wm w5 (w.heap.size+1) w.heap.size a0 cap ys u13 ((mH (nmA ys) p)+1) q ((mH (nmA ys) p)+1+3*q+2+1)/\B3x w5 X5 v0 v1 0):=⟨B2.out.1.call HM2.out hm5 hg5,B2.out.2.kept hg5 (fun e9=>by cases e9;have h9:=HM2.out;have h8:=HB5.out.2;omega)⟩
          clear hv2 hm5 hg5 B2
          obtain ⟨⟨k0,k1,k2⟩,kf⟩:=B3.out.2
          have B2:Hid (MlE wm (w5.setCell ⟨X5,2,none⟩ (.int .i64 v2)) (w.heap.size+1) w.heap.size a0 cap ys u13 ((mH (nmA ys) p)+1) q ((mH (nmA ys) p)+1+3*q+(2+1))/\B3x (w5.setCell ⟨X5,2,none⟩ (.int .i64 v2)) X5 v0 v1 v2):=⟨B3.out.1.set HM2.out HB5.out.2 HB5.out.1 _,B3.out.2.set2 v2⟩
          go_upto_region 27 with fail
          clear k0 k1 k2 kf B3
          generalize w5.setCell ⟨X5,2,none⟩ (.int .i64 v2)=w8 at *
          clear w7 w5
          obtain ⟨⟨k0,k1,k2⟩,kf⟩:=B2.out.2
          have HC:Hid (cE (evN (nmA ys) ((mH (nmA ys) p)+1) q)=[.int .i64 v0,.int .i64 v1,.int .i64 v2]):=by
           show cE (evN (nmA ys) ((mH (nmA ys) p)+1) q)=[.int .i64 v0,.int .i64 v1,.int .i64 v2]
           rw [<- HV0.out,<- HV1.out,<- HV2.out]
           rfl
          have hq2:Hid (q<=2000000):=by have:=HRE.out.2.2;show q<=2000000;omega
          go_wp2_with (at_builtin;refine step_append_val kndE w8 rfl rfl _ _ rfl wm.heap.size u13 q _ rfl B2.out.1.ow #[.int .i64 v0,.int .i64 v1,.int .i64 v2] rfl rfl (by intro u hu;simp at hu;rcases hu with rfl | rfl | rfl <;> rfl) hq2.out B2.out.1.gr.size ?_;intro z7 w7 o7 g7 q7 n7;have F7:Hid (MlE wm w7 (w.heap.size+1) w.heap.size a0 cap ys z7 ((mH (nmA ys) p)+1) (q+1) ((mH (nmA ys) p)+1+3*(q+1))):=(B2.out.1.app HM2.out (by rw [fE_upM,HC.out];exact o7) g7 n7);clear o7 g7 q7 n7)
          go_roundw
          case rel=>exact ⟨q+1,by omega,by go_num,F7.out⟩
          case measure=>simp [intOf];omega
         | false=>
          have hR:q=RE:=by
           have h9:¬ q<RE:=fun h9=>by rw [HQQ.out.2 h9] at hqc;cases hqc
           omega
          clear hqc HQQ
          rw [hR] at HI
          clear hR hq
          have HE:Hid (MlE wm wc (w.heap.size+1) w.heap.size a0 cap ys u13 (mH (nmA ys) p+1) ((mdY ys p).hL p) (mP (nmA ys) (p+1))):=by
           have h9:=HI.out
           rw [HRE.out.1] at h9
           exact h9
          have hp2:Hid (p<=2000000):=by
           have h9:=mP_ge (nmA ys) p
           have:=HML.out
           show p<=2000000
           omega
          have HPr:Hid (wc.ownsRow 0 41 1 u6 p ((List.range p).map up)/\wc.ownsRow 0 44 1 u7 p ((List.range p).map uh)/\∀ b,u6.ownBlock=some b->u7.ownBlock≠some b):=by
           have gE:=HA.out.gr.trans HE.out.gr
           refine ⟨(J.out.lp.keep fun b hb hl=>gE.block b hl (fun e=>?_)).row,(J.out.lh.keep fun b hb hl=>gE.block b hl (fun e=>?_)).row,fun b h1 h2=>?_⟩
           ·have h9:=hb.2
            cases e
            rw [J.out.cc.2] at h9
            cases h9
           ·have h9:=hb.2
            cases e
            rw [J.out.cc.2] at h9
            cases h9
           ·have h3:=(J.out.lp.rb b h1).2
            rw [(J.out.lh.rb b h2).2] at h3
            cases h3
          obtain ⟨a9,c9,rfl⟩:=zT HA.out.ow
          obtain ⟨a13,c13,rfl⟩:=zT HE.out.ow
          have hRE:=HRE.out.1
          clear HI HM hRE
          have HPut:Hid (∀ z8 z9 w8 w9,w8.ownsRow 0 41 1 z8 (p+1) ((List.range p).map up ++ [.slice a9 ((mdY ys p).pL p) c9])->wc.grownBy w8 u6.ownBlock->(∀ j,z8.ownBlock=some j->u6.ownBlock=some j\/wc.heap.size<=j)->w9.ownsRow 0 44 1 z9 (p+1) ((List.range p).map uh ++ [.slice a13 ((mdY ys p).hL p) c13])->w8.grownBy w9 u7.ownBlock->(∀ j,z9.ownBlock=some j->u7.ownBlock=some j\/w8.heap.size<=j)->∃ c up uh,MoJ w w9 a0 cap ys c (p+1) (mP (nmA ys) (p+1)) z8 z9 up uh):=fun z8 z9 w8 w9 h1 h2 h3 h4 h5 h6=>J.out.put HA.out HE.out h1 h2 h3 h4 h5 h6
          have hn32:(p:Int)<=2000000:=by have:=hp2.out;omega
          go_wp2_with (first
           | (at_builtin;refine step_append_val kndII wc rfl rfl _ _ rfl 0 u6 p _ rfl HPr.out.1 #[.slice a9 ((mdY ys p).pL p) c9] rfl rfl (by intro u hu;simp at hu;subst hu;rfl) hp2.out (Nat.zero_le _) ?_;intro z8 w8 o8 g8 q8 n8;have F8:Hid (w8.ownsRow 0 41 1 z8 (p+1) ((List.range p).map up ++ [.slice a9 ((mdY ys p).pL p) c9])/\wc.grownBy w8 u6.ownBlock/\(∀ j,z8.ownBlock=some j->u6.ownBlock=some j\/wc.heap.size<=j)/\w8.ownsRow 0 44 1 u7 p ((List.range p).map uh)):=⟨o8,g8,q8,HPr.out.2.1.kept g8 (by cases hk:u7.ownBlock with | none=>exact .inl rfl | some k=>exact .inr fun e=>HPr.out.2.2 k e.symm hk)⟩;clear o8 g8 q8 n8)
           | (at_builtin;(refine step_append_val kndEE w8 rfl rfl _ _ rfl 0 u7 p _ rfl F8.out.2.2.2 #[.slice a13 ((mdY ys p).hL p) c13] rfl rfl (by intro u hu;simp at hu;subst hu;rfl) hp2.out (Nat.zero_le _) ?_;intro z9 w9 o9 g9 q9 n9;have F9:Hid (∃ c up uh,MoJ w w9 a0 cap ys c (p+1) (mP (nmA ys) (p+1)) z8 z9 up uh):=(HPut.out z8 z9 w8 w9 F8.out.1 F8.out.2.1 F8.out.2.2.1 o9 g9 q9);clear o9 g9 q9 n9)))
          go_roundw
          case rel=>
           refine ⟨p+1,fun q hq=>?_,by go_num,F9.out⟩
           by_cases e:q=p
           ·subst e
            exact ⟨hp,hpl⟩
           ·exact HQ.out q (by omega)
          case measure=>simp [intOf];omega
   | false=>
    have HFin:Hid (MdP (nmA ys) p):=by
     refine ⟨fun q hq=>?_,fun h9=>?_⟩
     ·rw [HZ0.out]
      exact HQ.out q hq
     ·rw [HZ0.out] at h9
      rw [HDD.out.2 h9] at hdc
      cases hdc
    have HPm:Hid (p<=1048576):=by
     show p<=1048576
     rcases Nat.eq_zero_or_pos p with e | e
     ·omega
     ·have h1:=(HQ.out (p - 1) (by omega)).2
      have h2:=mP_ge (nmA ys) (p - 1)
      have:=HML.out
      omega
    clear hdc HDD HQ
    obtain ⟨a6,c6,rfl⟩:=zT J.out.lp.row
    obtain ⟨a7,c7,rfl⟩:=zT J.out.lh.row
    have HSN : Hid (Calls Tryz.prog 13 #[.slice a6 p c6] wc (NwR wc p (mdY ys p).pL (mdY ys p).pH)) := specSysNew_any a6 p c6 (fun i => adOf (up i)) (mdY ys p).pL (fun i => cpOf (up i)) (mdY ys p).pH wc HPm.out (fun i _ => Nat.le_trans (rdN_le1 (by omega)) HML.out) (rowS_of J.out.lp) (fun i hi => by
     obtain ⟨b,cap,eu,hb,hI,-⟩:=atI (J.out.lp.own i hi) (J.out.lp.nn nzI i hi)
     rw [show adOf (up i)=some ⟨b,0,none⟩ from by rw [eu];rfl]
     exact srcI hb hI)
    go_upto_region 30 with fail
    go_wp2_with fail
    refine HSN.out.mono ?_
    rintro e w2 ⟨pa,pc,sa,sc,wa,wcc,ha,hc,rfl,o2,q2⟩
    obtain ⟨nn,hnn⟩:∃ nn,nwN p (mdY ys p).pL (mdY ys p).pH=nn:=⟨_,rfl⟩
    obtain ⟨S,hS⟩:∃ S,snB p (mdY ys p).pL (mdY ys p).pH=S:=⟨_,rfl⟩
    have HNS:Hid (snB p (mdY ys p).pL (mdY ys p).pH=S/\(S=true->nn=p)):=⟨hS,fun h=>by rw [<- hnn];exact if_pos (hS.trans h)⟩
    rw [hS]
    rw [hnn] at o2 ⊢
    clear hnn hS HSN
    have b3:=zP w2 (oQ4 pa nn pc sa nn sc wa (nn*nn) wcc ha nn hc)
    have J3:Hid (MoJ w (w2.alloc (oQ4 pa nn pc sa nn sc wa (nn*nn) wcc ha nn hc)) a0 cap ys c p (mP (nmA ys) p) (.slice a6 p c6) (.slice a7 p c7) up uh/\Own1 (w2.alloc (oQ4 pa nn pc sa nn sc wa (nn*nn) wcc ha nn hc)) wc.heap.size w2.heap.size nn (mdY ys p).pL (mdY ys p).pH (.slice pa nn pc) (.slice sa nn sc) (.slice wa (nn*nn) wcc) (.slice ha nn hc)/\BoxC (w2.alloc (oQ4 pa nn pc sa nn sc wa (nn*nn) wcc ha nn hc)) w2.heap.size (.slice pa nn pc) (.slice sa nn sc) (.slice wa (nn*nn) wcc) (.slice ha nn hc)/\(∀ j,(w2.alloc (oQ4 pa nn pc sa nn sc wa (nn*nn) wcc ha nn hc)).frozen? ⟨w2.heap.size,j,none⟩=false)/\w.heap.size+1<wc.heap.size/\wc.heap.size<=w2.heap.size/\LE true (w2.alloc (oQ4 pa nn pc sa nn sc wa (nn*nn) wcc ha nn hc)) (fun b=>b<wc.heap.size) (.slice a7 p c7) p uh (mdY ys p).hL (mdY ys p).hH):=⟨J.out.below (q2.trans (b3.mono q2.size)),o2.below b3,BoxC.new w2 _ _ _ _ _,fun j=>yA _ _ _ _ rfl,J.out.lt,q2.size,(J.out.lh.mono fun k _ hl=>hl).below (q2.trans (b3.mono q2.size))⟩
    go_upto_region 31 with fail
    clear o2 q2 J b3
    generalize w2.alloc (oQ4 pa nn pc sa nn sc wa (nn*nn) wcc ha nn hc)=w3 at *
    generalize hX2:w2.heap.size=X2 at *
    generalize wc.heap.size=B2 at *
    clear hX2 wc w2
    have m1:=J3.out.1.mc.c1
    have m2:=J3.out.1.mc.c2
    have hU:umB ys p=(decide (mP (nmA ys) p<=(nmA ys).length) && (decide (psN (nmA ys) (mP (nmA ys) p)=ys.length) && (snB p (mdY ys p).pL (mdY ys p).pH && (wfB ((mdY ys p).ah (mdD ys p)) && (pkT ((mdY ys p).atW (mdD ys p)) && decide (pkS ((mdY ys p).atW (mdD ys p))=ys)))))):=rfl
    have HU:Hid (umB ys p=(decide (mP (nmA ys) p<=(nmA ys).length) && (decide (psN (nmA ys) (mP (nmA ys) p)=ys.length) && (snB p (mdY ys p).pL (mdY ys p).pH && (wfB ((mdY ys p).ah (mdD ys p)) && (pkT ((mdY ys p).atW (mdD ys p)) && decide (pkS ((mdY ys p).atW (mdD ys p))=ys))))))):=hU
    clear hU
    by_cases hA:mP (nmA ys) p<=(nmA ys).length
    case neg=>
     have HV:Hid (umB ys p=false):=by rw [HU.out,decide_eq_false hA];rfl
     rw [decide_eq_false hA] at m2
     obtain ⟨r0,r1,r2,r3⟩:=J3.out.1.ro
     have rf:=J3.out.1.rf
     have BL:Hid (Below w.heap.size w w3):=J3.out.1.bl
     clear hA HU J3
     go_wp2
     exact bodyPost_ret (v:=.tuple #[sysV none 0 0 none 0 0 none 0 0 none 0 0,.bool false]) (by simp [results,Tryz.results4,go_sem,r0,r1,r2,r3]) rfl (UmP.no HFin.out HV.out BL.out)
    rw [decide_eq_true hA] at m2
    rw [Nat.min_eq_left hA] at m1
    by_cases hE:psN (nmA ys) (mP (nmA ys) p)=ys.length
    case neg=>
     have HV:Hid (umB ys p=false):=by rw [HU.out,decide_eq_false hE,Bool.false_and,Bool.and_false];rfl
     have hne:(((psN (nmA ys) (mP (nmA ys) p):Nat):Int) != ((ys.length:Nat):Int))=true:=by
      rw [bne_iff_ne]
      omega
     obtain ⟨r0,r1,r2,r3⟩:=J3.out.1.ro
     have rf:=J3.out.1.rf
     have BL:Hid (Below w.heap.size w w3):=J3.out.1.bl
     clear hA HU J3
     go_wp2
     exact bodyPost_ret (v:=.tuple #[sysV none 0 0 none 0 0 none 0 0 none 0 0,.bool false]) (by simp [results,Tryz.results4,go_sem,r0,r1,r2,r3]) rfl (UmP.no HFin.out HV.out BL.out)
    have hne:(((psN (nmA ys) (mP (nmA ys) p):Nat):Int) != ((ys.length:Nat):Int))=false:=by
     rw [hE]
     simp
    cases S with
    | false=>
     have HV:Hid (umB ys p=false):=by rw [HU.out,HNS.out.1,Bool.false_and,Bool.and_false,Bool.and_false];rfl
     obtain ⟨r0,r1,r2,r3⟩:=J3.out.1.ro
     have rf:=J3.out.1.rf
     have BL:Hid (Below w.heap.size w w3):=J3.out.1.bl
     clear hA hE HU J3
     go_wp2
     exact bodyPost_ret (v:=.tuple #[sysV none 0 0 none 0 0 none 0 0 none 0 0,.bool false]) (by simp [results,Tryz.results4,go_sem,r0,r1,r2,r3]) rfl (UmP.no HFin.out HV.out BL.out)
    | true=>
     have hnn:=HNS.out.2 rfl
     subst hnn
     have hk:nn<=4/\(nwY nn (mdY ys nn).pL (mdY ys nn).pH).Ok:=by
      have h9:=HNS.out.1
      unfold snB at h9
      rw [Bool.and_eq_true,decide_eq_true_eq] at h9
      exact ⟨h9.1,Sy.ok_of h9.2⟩
     have h1:1<=nn:=hk.2.cn.1.1
     have hnZ:n=(nn:Int):=by
      obtain ⟨f1,f2⟩:=HFin.out
      have f3:=(f1 (nn - 1) (by omega)).1
      rw [HZ0.out] at f2 f3
      have f4:¬ (nn:Int)<n:=fun h9=>f2 ⟨h9,hA⟩
      omega
     subst hnZ
     have HK:Hid (nn<=4/\1<=nn/\(∀ i,i<nn->(mdY ys nn).pL i<=30)/\umB ys nn=(wfB ((mdY ys nn).ah (mdD ys nn)) && (pkT ((mdY ys nn).atW (mdD ys nn)) && decide (pkS ((mdY ys nn).atW (mdD ys nn))=ys)))):=by
      refine ⟨hk.1,h1,fun i hi=>?_,?_⟩
      ·have h9:=hk.2.pr i hi
       exact progOk_le h9
      ·rw [HU.out,decide_eq_true hA,decide_eq_true hE,HNS.out.1]
       rfl
     clear hk hA hE HU HNS
     go_upto_region 33 with fail
     clear m1 m2 hne
     obtain ⟨gh,caph,e7,-,-,-,-⟩:=J3.out.1.lh.cell (i:=0) h1
     simp only [Value.slice.injEq,true_and] at e7
     obtain ⟨rfl,rfl⟩:=e7
     have HRow:Hid (∀ wx,Below w3.heap.size w3 wx->∀ k,k<nn->wx.cell? ⟨gh,k,none⟩=some (.slice (adOf (uh k)) ((mdY ys nn).hL k) (cpOf (uh k)))):=fun wx hb k hk=>by
      obtain ⟨b,off,e9,c9⟩:=(rowS_of (J3.out.1.lh.below hb)).at hk
      simp only [adOf,Option.some.injEq,Addr.mk.injEq,and_true] at e9
      obtain ⟨rfl,rfl⟩:=e9
      rw [Nat.zero_add] at c9
      exact c9
     have NO:Hid (OwnI (w3.alloc (.cells #[] 3)) w3.heap.size (.slice (some ⟨w3.heap.size,0,none⟩) 0 0) (flT (mdY ys nn) 0)/\Below w3.heap.size w3 (w3.alloc (.cells #[] 3))):=⟨own_emptyN w3 rfl,zP _ _⟩
     have HHl:Hid (∀ k,k<nn->(mdY ys nn).hL k<=1048576):=fun k hk=>zO (rdN_le1 (by omega)) HML.out
     have hn4:(nn:Int)<=4:=by have:=HK.out.1;omega
     clear h1
     go_upto_region 35 with fail
     go_loopw [18,19] (fun o i wr=>∃ k:Nat,k<=nn/\i=.int .i64 k/\Hid (OwnI wr w3.heap.size o (flT (mdY ys nn) k)/\Below w3.heap.size w3 wr)) (fun _ i _=>nn - (intOf i).toNat)
     case atStart=>exact ⟨0,Nat.zero_le _,rfl,NO.out⟩
     case round=>
      clear NO
      rename World=>wr
      obtain ⟨k,hk,rfl,HB⟩:=hrel
      by_cases hlt:k<nn
      ·have hlt':(k:Int)<(nn:Int):=by omega
       have ch:=HRow.out wr HB.out.2 k hlt
       have hlk:((mdY ys nn).hL k:Int)<=1048576:=by have:=HHl.out k hlt;omega
       have hfl:=flT_len (mdY ys nn) k
       have HF:Hid (flT (mdY ys nn) (k+1)=flT (mdY ys nn) k ++ [((mdY ys nn).hL k:Int)]):=flT_next _ _
       have HFl:Hid ((flT (mdY ys nn) k).length<=1048576):=by show _<=_;omega
       clear hfl
       go_wp2_with (at_builtin;refine append_one wr rfl _ _ rfl w3.heap.size u18 (flT (mdY ys nn) k) rfl HB.out.1 ((mdY ys nn).hL k:Int) rfl HFl.out HB.out.2.size ?_;intro v' w4 o4 b4;have H4:Hid (OwnI w4 w3.heap.size v' (flT (mdY ys nn) (k+1))/\Below w3.heap.size w3 w4):=⟨o4.to HF.out,HB.out.2.trans (b4.mono (Nat.le_refl _))⟩;clear o4 b4)
       go_roundw
       case rel=>exact ⟨k+1,by omega,by go_num,H4.out⟩
       case measure=>simp [intOf];omega
      ·have hkl:k=nn:=by omega
       have hlt':¬ (k:Int)<(nn:Int):=by omega
       have H4:Hid (OwnI wr w3.heap.size u18 (flT (mdY ys nn) nn)/\Below w3.heap.size w3 wr):=by
        have h9:=HB.out
        rw [hkl] at h9
        exact h9
       clear HB hkl HRow
       have MJ:=J3.out.1.below H4.out.2
       obtain ⟨ca,cc,rfl,hsl⟩:=H4.out.1.form
       have hlX:X2<w3.heap.size:=J3.out.2.2.1.ltR
       have gX:wr.grownBy (wr.setCell ⟨X2,3,none⟩ (.slice (some ⟨gh,0,none⟩) nn c7)) (some X2):=zU (World.grownBy.refl _ _) (.inl rfl) _
       have tX:Touch (fun b=>b=X2) wr (wr.setCell ⟨X2,3,none⟩ (.slice (some ⟨gh,0,none⟩) nn c7)):=Touch.of_grown (P:=fun b=>b=X2) gX fun b e=>by cases e;rfl
       obtain ⟨q1,q2,q3,q4,q5,q6,q7⟩:=J3.out
       have kX:∀ b,b<wr.heap.size->b≠X2->(wr.setCell ⟨X2,3,none⟩ (.slice (some ⟨gh,0,none⟩) nn c7)).heap[b]? = wr.heap[b]?:=fun b hb hn=>gX.block b hb fun e=>hn (by cases e;rfl)
       have hs3:=H4.out.2.size
       have hro:=MJ.ro.ltR
       have kr:=kX w.heap.size hro (by omega)
       obtain ⟨cX,upX,usX,oX⟩:=((q2.below H4.out.2).touch tX (fun b hb=>.inl (Nat.le_of_eq hb.symm))).sV
       have lX:=(q7.below H4.out.2).keep (w':=wr.setCell ⟨X2,3,none⟩ (.slice (some ⟨gh,0,none⟩) nn c7)) fun b hb hl=>kX b hl (by omega)
       have S8:Hid (Below w.heap.size w (wr.setCell ⟨X2,3,none⟩ (.slice (some ⟨gh,0,none⟩) nn c7))/\SysG (wr.setCell ⟨X2,3,none⟩ (.slice (some ⟨gh,0,none⟩) nn c7)) ((ynX ys nn).sysIn (.slice pa nn pc) (.slice sa nn sc) (.slice wa (nn*nn) wcc) (.slice (some ⟨gh,0,none⟩) nn c7) upX usX (fun _=>.slice none 0 0) uh)/\Sl (wr.setCell ⟨X2,3,none⟩ (.slice (some ⟨gh,0,none⟩) nn c7)) ca (flT (mdY ys nn) nn)/\SlB (wr.setCell ⟨X2,3,none⟩ (.slice (some ⟨gh,0,none⟩) nn c7)) a0 ys/\BoxC (wr.setCell ⟨X2,3,none⟩ (.slice (some ⟨gh,0,none⟩) nn c7)) w.heap.size (.slice none 0 0) (.slice none 0 0) (.slice none 0 0) (.slice none 0 0)/\(∀ j,(wr.setCell ⟨X2,3,none⟩ (.slice (some ⟨gh,0,none⟩) nn c7)).frozen? ⟨w.heap.size,j,none⟩=false)/\w.heap.size<(wr.setCell ⟨X2,3,none⟩ (.slice (some ⟨gh,0,none⟩) nn c7)).heap.size):=by
        refine ⟨MJ.bl.setCell (show w.heap.size<=X2 by omega) _,mix_g oX lX,?_,MJ.mc.sl.kept MJ.mc.ap (fun b hb=>kX b (by omega) (by omega)) gX.size,MJ.ro.blkR kr,fun j=>(zI kr).trans (MJ.rf j),by rw [World.size_setCell];exact hro⟩
        obtain ⟨ca', cc', e9, h9⟩ := (OwnI.kept H4.out.1 gX (by
         cases hk:(Value.slice ca (flT (mdY ys nn) nn).length cc).ownBlock with
         | none=>exact .inl rfl
         | some g=>
          refine .inr fun e=>?_
          have:=(H4.out.1.lt g hk).1
          cases e
          omega)).form
        simp only [Value.slice.injEq,true_and] at e9
        obtain ⟨rfl,-⟩:=e9
        exact h9
       have HCp:Hid (∀ i,i<nn->(mdY ys nn).hL i<=cpOf (uh i)):=fun i hi=>cap_own (lX.own i hi)
       obtain ⟨x0,x1,x2,x3⟩:=q3.below H4.out.2
       have xf:∀ j,wr.frozen? ⟨X2,j,none⟩=false:=fun j=>(zI (H4.out.2.block X2 hlX)).trans (q4 j)
       have y0:(wr.setCell ⟨X2,3,none⟩ (.slice (some ⟨gh,0,none⟩) nn c7)).cell? ⟨X2,0,none⟩=some (.slice pa nn pc):=by go_cell
       have y1:(wr.setCell ⟨X2,3,none⟩ (.slice (some ⟨gh,0,none⟩) nn c7)).cell? ⟨X2,1,none⟩=some (.slice sa nn sc):=by go_cell
       have y2:(wr.setCell ⟨X2,3,none⟩ (.slice (some ⟨gh,0,none⟩) nn c7)).cell? ⟨X2,2,none⟩=some (.slice wa (nn*nn) wcc):=by go_cell
       have y3:(wr.setCell ⟨X2,3,none⟩ (.slice (some ⟨gh,0,none⟩) nn c7)).cell? ⟨X2,3,none⟩=some (.slice (some ⟨gh,0,none⟩) nn c7):=by go_cell
       have YB:Hid (BoxC (wr.setCell ⟨X2,3,none⟩ (.slice (some ⟨gh,0,none⟩) nn c7)) X2 (.slice pa nn pc) (.slice sa nn sc) (.slice wa (nn*nn) wcc) (.slice (some ⟨gh,0,none⟩) nn c7)):=⟨y0,y1,y2,y3⟩
       clear q1 q2 q3 q4 q5 q6 q7 gX tX kX hs3 hro kr oX lX MJ H4 hsl J3 y0 y1 y2 y3
       go_upto_region 39 with fail
       clear x0 x1 x2 x3 xf
       generalize wr.setCell ⟨X2,3,none⟩ (.slice (some ⟨gh,0,none⟩) nn c7)=wS at *
       obtain ⟨x0,x1,x2,x3⟩:=YB.out
       go_wp2_with fail
       clear x0 x1 x2 x3 YB
       have L8:Hid (Calls Tryz.prog 14 #[.agg #[.slice pa nn pc,.slice sa nn sc,.slice wa (nn*nn) wcc,.slice (some ⟨gh,0,none⟩) nn c7],.slice ca (flT (mdY ys nn) nn).length cc] wS fun e w'=>∃ v,e=.returned (.tuple #[v,.bool (wfB ((mdY ys nn).ah (mdD ys nn)))])/\OwnSys false w' wS.heap.size ((ynX ys nn).atW (mdD ys nn)) v/\Below wS.heap.size wS w'):=
        l8At_gen ((ynX ys nn).sysIn (.slice pa nn pc) (.slice sa nn sc) (.slice wa (nn*nn) wcc) (.slice (some ⟨gh,0,none⟩) nn c7) upX usX (fun _=>.slice none 0 0) uh) ca cc (flT (mdY ys nn) nn) wS S8.out.2.1 (Sy.Lim.len (ynX_lim HK.out.1 HK.out.2.2.1 HHl.out)) HCp.out (flT_len _ _) HK.out.2.1 HK.out.1 rfl (fun k hk=>⟨(mdD_int ys (P:=nn) hk).trans (by show _=((mdD ys nn k:Nat):Int);rw [mdD_at ys (P:=nn) hk]),by show mdD ys nn k<=(mdY ys nn).hL k;rw [mdD_at ys (P:=nn) hk];exact Nat.le_refl _⟩) S8.out.2.2.1
       refine L8.out.mono ?_
       rintro e w5 ⟨v5,rfl,o5,q5⟩
       obtain ⟨x5,rfl,e5,g5,cap5⟩:=o5.inV
       have HX5:Hid (x5.Len/\(∀ i,i<x5.hn->x5.hL i<=x5.hC i)/\x5.y=(ynX ys nn).atW (mdD ys nn)):=⟨Sy.Lim.len (by rw [e5];exact atW_lim HK.out.1 HK.out.2.2.1 HHl.out),cap5,e5⟩
       have b5:=zP w5 (oQ4 x5.pa x5.pn x5.pc x5.sa x5.sn x5.sc x5.wa x5.wn x5.wc x5.ha x5.hn x5.hc)
       have qq5:=q5.trans (b5.mono q5.size)
       have S9:Hid (Below w.heap.size w (w5.alloc (oQ4 x5.pa x5.pn x5.pc x5.sa x5.sn x5.sc x5.wa x5.wn x5.wc x5.ha x5.hn x5.hc))/\SysG (w5.alloc (oQ4 x5.pa x5.pn x5.pc x5.sa x5.sn x5.sc x5.wa x5.wn x5.wc x5.ha x5.hn x5.hc)) x5/\OwnSys false (w5.alloc (oQ4 x5.pa x5.pn x5.pc x5.sa x5.sn x5.sc x5.wa x5.wn x5.wc x5.ha x5.hn x5.hc)) wS.heap.size ((ynX ys nn).atW (mdD ys nn)) x5.v/\SlB (w5.alloc (oQ4 x5.pa x5.pn x5.pc x5.sa x5.sn x5.sc x5.wa x5.wn x5.wc x5.ha x5.hn x5.hc)) a0 ys/\BoxC (w5.alloc (oQ4 x5.pa x5.pn x5.pc x5.sa x5.sn x5.sc x5.wa x5.wn x5.wc x5.ha x5.hn x5.hc)) w.heap.size (.slice none 0 0) (.slice none 0 0) (.slice none 0 0) (.slice none 0 0)/\(∀ j,(w5.alloc (oQ4 x5.pa x5.pn x5.pc x5.sa x5.sn x5.sc x5.wa x5.wn x5.wc x5.ha x5.hn x5.hc)).frozen? ⟨w.heap.size,j,none⟩=false)/\BoxC (w5.alloc (oQ4 x5.pa x5.pn x5.pc x5.sa x5.sn x5.sc x5.wa x5.wn x5.wc x5.ha x5.hn x5.hc)) w5.heap.size (.slice x5.pa x5.pn x5.pc) (.slice x5.sa x5.sn x5.sc) (.slice x5.wa x5.wn x5.wc) (.slice x5.ha x5.hn x5.hc)/\w.heap.size<wS.heap.size):=⟨S8.out.1.trans (qq5.mono S8.out.1.size),g5.below b5,o5.below b5,S8.out.2.2.2.1.below qq5,S8.out.2.2.2.2.1.below qq5,fun j=>(zI (qq5.block w.heap.size S8.out.2.2.2.2.2.2)).trans (S8.out.2.2.2.2.2.1 j),BoxC.new w5 _ _ _ _ _,S8.out.2.2.2.2.2.2⟩
       obtain ⟨wf,hwf⟩:∃ wf,wfB ((mdY ys nn).ah (mdD ys nn))=wf:=⟨_,rfl⟩
       have HWF:Hid (wfB ((mdY ys nn).ah (mdD ys nn))=wf):=hwf
       rw [hwf]
       clear hwf b5 qq5 q5 o5 g5 cap5 e5 L8 S8 HCp
       go_upto_region 40 with fail
       generalize (w5.alloc (oQ4 x5.pa x5.pn x5.pc x5.sa x5.sn x5.sc x5.wa x5.wn x5.wc x5.ha x5.hn x5.hc))=w6 at *
       generalize w5.heap.size=X5 at *
       generalize wS.heap.size=B6 at *
       clear wS w5
       obtain ⟨x0,x1,x2,x3⟩:=S9.out.2.2.2.2.2.2.1
       go_wp2_with fail
       clear x0 x1 x2 x3
       refine (specPack_any x5 w6 S9.out.2.1 HX5.out.1 HX5.out.2.1).mono ?_
       rintro e w7 ⟨u7,rfl,o7,q7⟩
       obtain ⟨ab,cb,rfl,sb⟩:=o7.form
       have HPK:Hid (By (pkS x5.y)/\By ys/\SlB w7 ab (pkS x5.y)/\SlB w7 a0 ys):=⟨pkS_by _,HBy.out,sb,S9.out.2.2.2.1.below q7⟩
       have S10:Hid (Below w.heap.size w w7/\OwnSys false w7 B6 ((ynX ys nn).atW (mdD ys nn)) x5.v/\w.heap.size<B6):=⟨S9.out.1.trans (q7.mono S9.out.1.size),S9.out.2.2.1.below q7,S9.out.2.2.2.2.2.2.2⟩
       obtain ⟨r0,r1,r2,r3⟩:=S9.out.2.2.2.2.1.below q7
       have rf:∀ j,w7.frozen? ⟨w.heap.size,j,none⟩=false:=fun j=>(zI (q7.block w.heap.size S9.out.2.2.2.2.1.ltR)).trans (S9.out.2.2.2.2.2.1 j)
       obtain ⟨x0,x1,x2,x3⟩:=S9.out.2.2.2.2.2.2.1.below q7
       clear o7 q7 sb S9
       cases wf with
       | false=>
        have HV:Hid (umB ys nn=false):=by rw [HK.out.2.2.2,HWF.out];rfl
        clear HPK
        go_wp2
        exact bodyPost_ret (v:=.tuple #[sysV none 0 0 none 0 0 none 0 0 none 0 0,.bool false]) (by simp [results,Tryz.results4,go_sem,r0,r1,r2,r3]) rfl (UmP.no HFin.out HV.out S10.out.1)
       | true=>
        have hy:x5.y=(mdY ys nn).atY (mdD ys nn):=HX5.out.2.2.trans (if_pos HWF.out)
        have HY:Hid (x5.y=(mdY ys nn).atY (mdD ys nn)/\(ynX ys nn).atW (mdD ys nn)=(mdY ys nn).atY (mdD ys nn)/\umB ys nn=(pkT x5.y && decide (pkS x5.y=ys))):=⟨hy,if_pos HWF.out,by rw [HK.out.2.2.2,HWF.out,hy,show (mdY ys nn).atW (mdD ys nn)=(mdY ys nn).atY (mdD ys nn) from if_pos HWF.out];rfl⟩
        clear hy
        generalize pkT x5.y=pt at *
        generalize pkS x5.y=ps at *
        cases pt with
        | false=>
         have HV:Hid (umB ys nn=false):=by rw [HY.out.2.2];rfl
         clear HPK HY
         go_wp2
         exact bodyPost_ret (v:=.tuple #[sysV none 0 0 none 0 0 none 0 0 none 0 0,.bool false]) (by simp [results,Tryz.results4,go_sem,r0,r1,r2,r3]) rfl (UmP.no HFin.out HV.out S10.out.1)
        | true=>
         have e0:=conv_bytes HPK.out.2.2.1 cb
         have e1:=conv_bytes HPK.out.2.2.2 cap
         have hne:((strOfNums ps).toList == (strOfNums ys).toList)=decide (ps=ys):=beq_str (strOf_eq HPK.out.1 HPK.out.2.1)
         by_cases hpy:ps=ys
         ·have HV:Hid (umB ys nn=true):=by rw [HY.out.2.2,decide_eq_true hpy];rfl
          rw [decide_eq_true hpy] at hne
          clear HPK hpy
          go_wp2
          refine bodyPost_ret (v:=.tuple #[sysV x5.pa x5.pn x5.pc x5.sa x5.sn x5.sc x5.wa x5.wn x5.wc x5.ha x5.hn x5.hc,.bool true]) (by simp [results,Tryz.results4,go_sem,r0,r1,r2,r3]) rfl ⟨nn,HFin.out,sysV x5.pa x5.pn x5.pc x5.sa x5.sn x5.sc x5.wa x5.wn x5.wc x5.ha x5.hn x5.hc,by rw [HV.out],fun _=>?_,fun h9=>absurd (HV.out.symm.trans h9) (by decide),?_⟩
          ·have h9:=S10.out.2.1
           rw [HY.out.2.1] at h9
           exact ((((h9.setBelow S10.out.2.2 0 _).setBelow S10.out.2.2 1 _).setBelow S10.out.2.2 2 _).setBelow S10.out.2.2 3 _).base (Nat.le_of_lt S10.out.2.2)
          ·have hM:w.heap.size<=w.heap.size:=Nat.le_refl _
           exact (((S10.out.1.setCell hM _).setCell hM _).setCell hM _).setCell hM _
         ·have HV:Hid (umB ys nn=false):=by rw [HY.out.2.2,decide_eq_false hpy];rfl
          rw [decide_eq_false hpy] at hne
          clear HPK HY hpy
          go_wp2
          exact bodyPost_ret (v:=.tuple #[sysV none 0 0 none 0 0 none 0 0 none 0 0,.bool false]) (by simp [results,Tryz.results4,go_sem,r0,r1,r2,r3]) rfl (UmP.no HFin.out HV.out S10.out.1)
theorem upS_sm (ys:List Int):(upS ys).Sm:=by
 unfold upS
 split
 ·rename_i h
  unfold upB at h
  simp only [Bool.and_eq_true] at h
  obtain ⟨hr,hc,-⟩:=h
  obtain ⟨b1,b2,b3⟩:=rsB_bds hr
  have h9:=ctS_sm b1 b2 b3
  rwa [show ctS (rY ys) (rY ys).hL=(rY ys).atY (rY ys).hL from if_pos hc] at h9
 ·exact Sy.nil_sm _
theorem specUnpack_up (a0:Option Addr) (cap:Nat) (ys:List Int) (w:World) (hlen:ys.length<=1048576) (hcap:ys.length<=cap) (hb:By ys) (hs:SlB w a0 ys) (ha:∀ b o,a0=some ⟨b,o,none⟩->b<w.heap.size):
  Calls Tryz.prog 4 #[.slice a0 ys.length cap] w fun e w'=>∃ v,e=.returned (.tuple #[v,.bool (upB ys)])/\OwnSys false w' w.heap.size (upS ys) v/\Below w.heap.size w w':=by
 refine (specUnpack_any a0 cap ys w hlen hcap hb hs ha).mono ?_
 rintro e w' ⟨P,hP,v,rfl,h1,h2,hbl⟩
 have hu:=um_eq hb hP
 refine ⟨v,by rw [hu],?_,hbl⟩
 cases h:upB ys with
 | true=>
  have e1:=(um_up hb (hu.trans h)).2
  have e2:upS ys=(rY ys).atY (rY ys).hL:=if_pos h
  rw [e2]
  exact e1.symm.own (h1 (hu.trans h))
 | false=>
  have e2:upS ys=(rY ys).nil:=if_neg (by rw [h];decide)
  rw [e2,h2 (hu.trans h)]
  exact OwnSys.zero _ _ _
structure UpG (W:World) (Y Z:Sy) (N1 T8 B4 T11:Nat) (a1 a2 a3 a4 g1 g2 g3 g4:Value) (w:World):Prop where
 be:Below W.heap.size W w
 o2:OwnZ w N1 T8 Y a1 a2 a3 a4
 b8:BoxC w T8 a1 a2 a3 a4
 o4:Own0 w B4 T11 Z g1 g2 g3 g4
 b11:BoxC w T11 g1 g2 g3 g4
section
variable {W:World} {Y Z:Sy} {N1 T8 B4 T11:Nat} {a1 a2 a3 a4 g1 g2 g3 g4:Value} {w w':World}
theorem UpG.below (h:UpG W Y Z N1 T8 B4 T11 a1 a2 a3 a4 g1 g2 g3 g4 w) (hb:Below w.heap.size w w'):UpG W Y Z N1 T8 B4 T11 a1 a2 a3 a4 g1 g2 g3 g4 w':=
 ⟨h.be.trans (hb.mono h.be.size),h.o2.below hb,h.b8.below hb,h.o4.below hb,h.b11.below hb⟩
theorem UpG.mid (h:UpG W Y Z N1 T8 B4 T11 a1 a2 a3 a4 g1 g2 g3 g4 w) {P:Nat->Prop} (t:Touch P w w') (hp:∀ b,P b->W.heap.size<=b/\T8<b/\b<B4) (h4:B4<=T11):UpG W Y Z N1 T8 B4 T11 a1 a2 a3 a4 g1 g2 g3 g4 w':=
 ⟨h.be.trans (t.below h.be.size fun b hb=>(hp b hb).1),h.o2.touch t fun b hb=>by have:=hp b hb;omega,h.b8.touch t fun hb=>by have:=hp _ hb;omega,h.o4.touch t fun b hb=>by have:=hp b hb;omega,h.b11.touch t fun hb=>by have:=hp _ hb;omega⟩
theorem UpG.mark (h:UpG W Y Z N1 T8 B4 T11 a1 a2 a3 a4 g1 g2 g3 g4 w) {Z':Sy} (t:Touch (fun b=>B4<=b/\b<T11) w w') (o:Own0 w' B4 T11 Z' g1 g2 g3 g4) (h1:W.heap.size<=B4) (h2:T8<B4):UpG W Y Z' N1 T8 B4 T11 a1 a2 a3 a4 g1 g2 g3 g4 w':=
 ⟨h.be.trans (t.below h.be.size fun b hb=>by omega),h.o2.touch t fun b hb=>by omega,h.b8.touch t fun hb=>by omega,o,h.b11.touch t fun hb=>by omega⟩
end
theorem unpackLaw_small (a0:Option Addr) (cap:Nat) (ys:List Int) (W:World) (hlen:ys.length<=1048576) (hc:SlB W a0 ys) (hb:By ys) (hV:W.cell? ⟨0,0,none⟩=some (.iface 169 (.agg #[.pointer (some ⟨1,120,none⟩)]))):
  Calls Tryz.prog 3 #[.slice a0 ys.length cap] W fun e w'=>e=.returned (.bool true)/\Below W.heap.size W w':=by
 have HC:Hid (SlB W a0 ys):=hc
 have HB:Hid (By ys):=hb
 have hl':(ys.length:Int)<=1048576:=by omega
 have HL:Hid (ys.length<=1048576):=hlen
 have HV:Hid (W.cell? ⟨0,0,none⟩=some (.iface 169 (.agg #[.pointer (some ⟨1,120,none⟩)]))):=hV
 have HV0:Hid (0<W.heap.size):=zJ W _ hV
 have HSM:Hid (upS ys).Sm:=upS_sm _
 clear hc hb hV hlen
 have HSp:Hid (∀ wx b,b<wx.heap.size->SlB wx (some ⟨b,0,none⟩) ys->Calls Tryz.prog 4 #[.slice (some ⟨b,0,none⟩) ys.length ys.length] wx fun e w'=>∃ v,e=.returned (.tuple #[v,.bool (upB ys)])/\OwnSys false w' wx.heap.size (upS ys) v/\Below wx.heap.size wx w'):=fun wx b hbl hx=>specUnpack_up _ _ ys wx HL.out (Nat.le_refl _) HB.out hx (fun b' o e=>by cases e;exact hbl)
 have HIm:Hid (∀ wx b,b<wx.heap.size->SlB wx (some ⟨b,0,none⟩) ys->Below W.heap.size W wx->Calls Tryz.prog 6 #[.slice (some ⟨b,0,none⟩) ys.length ys.length] wx fun e w'=>∃ v,e=.returned (.tuple #[v,.bool (upB ys)])/\OwnSys true w' wx.heap.size (upS ys) v/\Below wx.heap.size wx w'):=fun wx b hbl hx hbe=>implUnpack_any _ _ ys wx HL.out (Nat.le_refl _) HB.out hx (fun b' o e=>by cases e;exact hbl) ((hbe.cell (p:=⟨0,0,none⟩) HV0.out).trans HV.out)
 generalize upS ys=Y at *
 generalize upB ys=C at *
 go_enter Tryz.func3,Tryz.ntmps3
 go_wp2_with fail
 refine (toByteS_any a0 cap ys W HL.out HC.out).mono ?_
 rintro e w1 ⟨rfl,o1,l1,b1⟩
 have O1:Hid (SlB w1 (some ⟨W.heap.size,0,none⟩) ys/\W.heap.size<w1.heap.size/\Below W.heap.size W w1):=⟨o1.sl2,l1,b1⟩
 clear o1 l1 b1
 go_wp2_with fail
 refine (HSp.out w1 _ O1.out.2.1 O1.out.1).mono ?_
 rintro e w2 ⟨v2,rfl,o2,b2⟩
 obtain ⟨pa,pc,sa,sc,wa,wc,ha,hc,rfl,n2⟩:=OwnZ.of o2
 have ba:=below_allocS w2 (oQ4 pa Y.pn pc sa Y.sn sc wa Y.wn wc ha Y.hn hc)
 have X3:Hid (Below W.heap.size W (w2.alloc (oQ4 pa Y.pn pc sa Y.sn sc wa Y.wn wc ha Y.hn hc))/\OwnZ (w2.alloc (oQ4 pa Y.pn pc sa Y.sn sc wa Y.wn wc ha Y.hn hc)) w1.heap.size w2.heap.size Y (.slice pa Y.pn pc) (.slice sa Y.sn sc) (.slice wa Y.wn wc) (.slice ha Y.hn hc)/\BoxC (w2.alloc (oQ4 pa Y.pn pc sa Y.sn sc wa Y.wn wc ha Y.hn hc)) w2.heap.size (.slice pa Y.pn pc) (.slice sa Y.sn sc) (.slice wa Y.wn wc) (.slice ha Y.hn hc)/\W.heap.size<w1.heap.size/\w1.heap.size<=w2.heap.size/\w2.heap.size<(w2.alloc (oQ4 pa Y.pn pc sa Y.sn sc wa Y.wn wc ha Y.hn hc)).heap.size):=⟨(O1.out.2.2.trans (b2.mono O1.out.2.2.size)).trans (ba.mono (zO O1.out.2.2.size b2.size)),n2.below ba,BoxC.new w2 _ _ _ _ _,O1.out.2.1,b2.size,by simp⟩
 go_upto_region 4 with fail
 clear b2 o2 n2 O1 ba
 generalize hN1:w1.heap.size=N1 at *
 generalize hT8:w2.heap.size=T8 at *
 clear hN1 hT8
 generalize w2.alloc (oQ4 pa Y.pn pc sa Y.sn sc wa Y.wn wc ha Y.hn hc)=w2a at *
 go_wp2_with fail
 refine (toByteS_any a0 cap ys w2a HL.out (HC.out.below X3.out.1)).mono ?_
 rintro e w3 ⟨rfl,o3,l3,b3⟩
 have F3:Hid (Below W.heap.size W w3/\OwnZ w3 N1 T8 Y (.slice pa Y.pn pc) (.slice sa Y.sn sc) (.slice wa Y.wn wc) (.slice ha Y.hn hc)/\BoxC w3 T8 (.slice pa Y.pn pc) (.slice sa Y.sn sc) (.slice wa Y.wn wc) (.slice ha Y.hn hc)/\OwnB w3 w2a.heap.size (.slice (some ⟨w2a.heap.size,0,none⟩) ys.length ys.length) ys):=⟨X3.out.1.trans (b3.mono X3.out.1.size),X3.out.2.1.below b3,X3.out.2.2.1.below b3,o3⟩
 have LT:Hid (W.heap.size<N1/\N1<=T8/\T8<w2a.heap.size/\w2a.heap.size<w3.heap.size):=⟨X3.out.2.2.2.1,X3.out.2.2.2.2.1,X3.out.2.2.2.2.2,l3⟩
 clear b3 o3 l3 X3
 generalize w2a.heap.size=NX at *
 clear w2a
 go_wp2_with fail
 refine (HIm.out w3 _ LT.out.2.2.2 F3.out.2.2.2.sl2 F3.out.1).mono ?_
 rintro e w4 ⟨v4,rfl,o4,b4⟩
 obtain ⟨qa,qc,ra,rc,ta,tc,ua,uc,rfl,n4⟩:=Own0.of o4
 have ba:=below_allocS w4 (oQ4 qa Y.pn qc ra Y.sn rc ta Y.wn tc ua Y.hn uc)
 have q4:=b4.trans (ba.mono b4.size)
 have F4:Hid (UpG W Y Y N1 T8 w3.heap.size w4.heap.size (.slice pa Y.pn pc) (.slice sa Y.sn sc) (.slice wa Y.wn wc) (.slice ha Y.hn hc) (.slice qa Y.pn qc) (.slice ra Y.sn rc) (.slice ta Y.wn tc) (.slice ua Y.hn uc) (w4.alloc (oQ4 qa Y.pn qc ra Y.sn rc ta Y.wn tc ua Y.hn uc))):=⟨F3.out.1.trans (q4.mono F3.out.1.size),F3.out.2.1.below q4,F3.out.2.2.1.below q4,n4.below ba,BoxC.new w4 _ _ _ _ _⟩
 have OX:Hid (OwnB (w4.alloc (oQ4 qa Y.pn qc ra Y.sn rc ta Y.wn tc ua Y.hn uc)) NX (.slice (some ⟨NX,0,none⟩) ys.length ys.length) ys):=F3.out.2.2.2.below q4
 have LT2:Hid ((W.heap.size<N1/\N1<=T8/\T8<NX/\NX<w3.heap.size)/\w3.heap.size<=w4.heap.size):=⟨LT.out,b4.size⟩
 go_upto_region 6 with fail
 clear b4 o4 n4 ba q4 F3 LT
 generalize hB4:w3.heap.size=B4 at *
 generalize hT11:w4.heap.size=T11 at *
 clear hB4 hT11
 generalize w4.alloc (oQ4 qa Y.pn qc ra Y.sn rc ta Y.wn tc ua Y.hn uc)=wC at *
 obtain ⟨p0,p1,p2,p3⟩:=F4.out.b8
 obtain ⟨q0,q1,q2,q3⟩:=F4.out.b11
 have hcc:(C != C)=false:=by simp
 go_wp2_with fail
 clear p0 p1 p2 p3 q0 q1 q2 q3
 refine (eqSys_two Y B4 N1 _ _ wC HSM.out.len F4.out.o4.sys F4.out.o2.sys).mono ?_
 rintro e w5 ⟨rfl,b5⟩
 have F5:Hid (UpG W Y Y N1 T8 B4 T11 (.slice pa Y.pn pc) (.slice sa Y.sn sc) (.slice wa Y.wn wc) (.slice ha Y.hn hc) (.slice qa Y.pn qc) (.slice ra Y.sn rc) (.slice ta Y.wn tc) (.slice ua Y.hn uc) w5/\OwnB w5 NX (.slice (some ⟨NX,0,none⟩) ys.length ys.length) ys):=⟨F4.out.below b5,OX.out.below b5⟩
 clear b5 F4 OX
 go_wp2_with fail
 refine (toByteS_any a0 cap ys w5 HL.out (HC.out.below F5.out.1.be)).mono ?_
 rintro e w6 ⟨rfl,o6,-,b6⟩
 have F6:Hid (UpG W Y Y N1 T8 B4 T11 (.slice pa Y.pn pc) (.slice sa Y.sn sc) (.slice wa Y.wn wc) (.slice ha Y.hn hc) (.slice qa Y.pn qc) (.slice ra Y.sn rc) (.slice ta Y.wn tc) (.slice ua Y.hn uc) w6/\OwnB w6 NX (.slice (some ⟨NX,0,none⟩) ys.length ys.length) ys/\SlB w6 (some ⟨w5.heap.size,0,none⟩) ys):=⟨F5.out.1.below b6,F5.out.2.below b6,o6.sl2⟩
 clear b6 o6 F5
 generalize w5.heap.size=N6 at *
 clear w5
 go_wp2_with fail
 refine (eqByteS_same _ _ _ _ ys w6 HL.out F6.out.2.1.sl2 F6.out.2.2).mono ?_
 rintro e w7 ⟨rfl,b7⟩
 have F7:Hid (UpG W Y Y N1 T8 B4 T11 (.slice pa Y.pn pc) (.slice sa Y.sn sc) (.slice wa Y.wn wc) (.slice ha Y.hn hc) (.slice qa Y.pn qc) (.slice ra Y.sn rc) (.slice ta Y.wn tc) (.slice ua Y.hn uc) w7/\OwnB w7 NX (.slice (some ⟨NX,0,none⟩) ys.length ys.length) ys):=⟨F6.out.1.below b7,F6.out.2.1.below b7⟩
 clear b7 F6
 go_wp2_with fail
 refine (markByteS_any (some ⟨NX,0,none⟩) ys.length NX ys 1 w7 HL.out (by omega) (by omega) F7.out.2).mono ?_
 rintro e w8 ⟨rfl,-,g8⟩
 have hzc:¬ (1+(ys.length:Int)<0):=by omega
 have F8 : Hid (UpG W Y Y N1 T8 B4 T11 (.slice pa Y.pn pc) (.slice sa Y.sn sc) (.slice wa Y.wn wc) (.slice ha Y.hn hc) (.slice qa Y.pn qc) (.slice ra Y.sn rc) (.slice ta Y.wn tc) (.slice ua Y.hn uc) w8) := F7.out.1.mid (Touch.of_grown (P := fun b => (Value.slice (some ⟨NX, 0, none⟩) ys.length ys.length).ownBlock = some b) g8 fun b e => e) (fun b e => by
  have e2:NX=b:=by cases e;rfl
  have:=LT2.out
  omega) LT2.out.2
 clear g8 F7
 obtain ⟨p0,p1,p2,p3⟩:=F8.out.b8
 obtain ⟨q0,q1,q2,q3⟩:=F8.out.b11
 go_wp2_with fail
 clear p0 p1 p2 p3 q0 q1 q2 q3
 refine (eqSys_two Y B4 N1 _ _ w8 HSM.out.len F8.out.o4.sys F8.out.o2.sys).mono ?_
 rintro e w9 ⟨rfl,b9⟩
 have F9:Hid (UpG W Y Y N1 T8 B4 T11 (.slice pa Y.pn pc) (.slice sa Y.sn sc) (.slice wa Y.wn wc) (.slice ha Y.hn hc) (.slice qa Y.pn qc) (.slice ra Y.sn rc) (.slice ta Y.wn tc) (.slice ua Y.hn uc) w9):=F8.out.below b9
 clear b9 F8
 obtain ⟨q0,q1,q2,q3⟩:=F9.out.b11
 go_wp2_with fail
 clear q0 q1 q2 q3
 refine (markSys_0 Y B4 T11 _ _ _ _ w9 HSM.out.sums (by have:=F9.out.b11.ltF;have:=LT2.out;omega) F9.out.o4).mono ?_
 rintro e w10 ⟨rfl,o10,t10⟩
 have F10:Hid (UpG W Y (mkY Y 1) N1 T8 B4 T11 (.slice pa Y.pn pc) (.slice sa Y.sn sc) (.slice wa Y.wn wc) (.slice ha Y.hn hc) (.slice qa Y.pn qc) (.slice ra Y.sn rc) (.slice ta Y.wn tc) (.slice ua Y.hn uc) w10):=F9.out.mark t10 o10 (by have:=LT2.out;omega) (by have:=LT2.out;omega)
 have HZ:Hid (¬ mkZ5 Y 1<0):=by
  have:=(mkZ_bd HSM.out.sums).2.2.2
  show ¬ mkZ5 Y 1<0
  omega
 clear t10 o10 F9
 obtain ⟨q0,q1,q2,q3⟩:=F10.out.b11
 go_wp2_with fail
 clear q0 q1 q2 q3
 refine (heldSys_own Y B4 _ w10 HSM.out.sums F10.out.o4.sys).mono ?_
 rintro e w11 ⟨rfl,b11⟩
 have F11:Hid (UpG W Y (mkY Y 1) N1 T8 B4 T11 (.slice pa Y.pn pc) (.slice sa Y.sn sc) (.slice wa Y.wn wc) (.slice ha Y.hn hc) (.slice qa Y.pn qc) (.slice ra Y.sn rc) (.slice ta Y.wn tc) (.slice ua Y.hn uc) w11):=F10.out.below b11
 clear b11 F10
 have hz5:=HZ.out
 go_wp2_with fail
 clear hz5
 refine (toByteS_any a0 cap ys w11 HL.out (HC.out.below F11.out.be)).mono ?_
 rintro e w12 ⟨rfl,o12,l12,b12⟩
 have F12:Hid (UpG W Y (mkY Y 1) N1 T8 B4 T11 (.slice pa Y.pn pc) (.slice sa Y.sn sc) (.slice wa Y.wn wc) (.slice ha Y.hn hc) (.slice qa Y.pn qc) (.slice ra Y.sn rc) (.slice ta Y.wn tc) (.slice ua Y.hn uc) w12/\SlB w12 (some ⟨w11.heap.size,0,none⟩) ys/\w11.heap.size<w12.heap.size):=⟨F11.out.below b12,o12.sl2,l12⟩
 clear b12 F11 o12 l12
 generalize w11.heap.size=N12a at *
 clear w11
 go_wp2_with fail
 refine (HIm.out w12 _ F12.out.2.2 F12.out.2.1 F12.out.1.be).mono ?_
 rintro e w13 ⟨v13,rfl,o13,b13⟩
 obtain ⟨ka,kc,la,lc,ma,mc,na,nc,rfl,n13⟩:=Own0.of o13
 have ba:=below_allocS w13 (oQ4 ka Y.pn kc la Y.sn lc ma Y.wn mc na Y.hn nc)
 have q13:=b13.trans (ba.mono b13.size)
 have F13:Hid (UpG W Y (mkY Y 1) N1 T8 B4 T11 (.slice pa Y.pn pc) (.slice sa Y.sn sc) (.slice wa Y.wn wc) (.slice ha Y.hn hc) (.slice qa Y.pn qc) (.slice ra Y.sn rc) (.slice ta Y.wn tc) (.slice ua Y.hn uc) (w13.alloc (oQ4 ka Y.pn kc la Y.sn lc ma Y.wn mc na Y.hn nc))/\Own0 (w13.alloc (oQ4 ka Y.pn kc la Y.sn lc ma Y.wn mc na Y.hn nc)) w12.heap.size w13.heap.size Y (.slice ka Y.pn kc) (.slice la Y.sn lc) (.slice ma Y.wn mc) (.slice na Y.hn nc)/\BoxC (w13.alloc (oQ4 ka Y.pn kc la Y.sn lc ma Y.wn mc na Y.hn nc)) w13.heap.size (.slice ka Y.pn kc) (.slice la Y.sn lc) (.slice ma Y.wn mc) (.slice na Y.hn nc)):=⟨F12.out.1.below q13,n13.below ba,BoxC.new w13 _ _ _ _ _⟩
 go_upto_region 23 with fail
 clear b13 o13 n13 ba q13 F12
 generalize hN12:w12.heap.size=N12 at *
 generalize hT16:w13.heap.size=T16 at *
 clear hN12 hT16
 generalize w13.alloc (oQ4 ka Y.pn kc la Y.sn lc ma Y.wn mc na Y.hn nc)=wD at *
 obtain ⟨p0,p1,p2,p3⟩:=F13.out.1.b8
 obtain ⟨q0,q1,q2,q3⟩:=F13.out.2.2
 go_wp2_with fail
 clear p0 p1 p2 p3 q0 q1 q2 q3
 refine (eqSys_two Y N12 N1 _ _ wD HSM.out.len F13.out.2.1.sys F13.out.1.o2.sys).mono ?_
 rintro e w14 ⟨rfl,b14⟩
 have F14:Hid (UpG W Y (mkY Y 1) N1 T8 B4 T11 (.slice pa Y.pn pc) (.slice sa Y.sn sc) (.slice wa Y.wn wc) (.slice ha Y.hn hc) (.slice qa Y.pn qc) (.slice ra Y.sn rc) (.slice ta Y.wn tc) (.slice ua Y.hn uc) w14):=F13.out.1.below b14
 clear b14 F13
 obtain ⟨q0,q1,q2,q3⟩:=F14.out.b11
 go_wp2_with fail
 clear q0 q1 q2 q3
 refine (heldSys_own Y B4 _ w14 HSM.out.sums F14.out.o4.sys).mono ?_
 rintro e w15 ⟨rfl,b15⟩
 have F15:Hid (UpG W Y (mkY Y 1) N1 T8 B4 T11 (.slice pa Y.pn pc) (.slice sa Y.sn sc) (.slice wa Y.wn wc) (.slice ha Y.hn hc) (.slice qa Y.pn qc) (.slice ra Y.sn rc) (.slice ta Y.wn tc) (.slice ua Y.hn uc) w15):=F14.out.below b15
 clear b15 F14
 have hz5:=HZ.out
 go_wp2
 go_ret
 exact ⟨rfl,F15.out.be⟩
theorem unpackLaw_great (a0:Option Addr) (len cap:Nat) (W:World) (hlen:1048576<len):
  Calls Tryz.prog 3 #[.slice a0 len cap] W fun e w'=>e=.returned (.bool true)/\Below W.heap.size W w':=by
 have hl':(1048576:Int)<(len:Int):=by omega
 go_enter Tryz.func3,Tryz.ntmps3
 go_wp2
 go_ret
 exact ⟨rfl,Below.refl _ _⟩
theorem unpackLifted (os:Os) (started:os.Started) (H:Type) (enc:TypeId × Value->H):
  ReturnsInHanded {} Tryz.checked os 3 .any (fun w args => (Rows.fnExactUnpackSpec.pre enc Tryz.prog Tryz.f3 [] false w args /\ laidMetH Tryz.prog [("errors.errorType", Rows.laid_errors_errorType)] w) /\ sizedMet enc Tryz.prog Tryz.f3 (OpenSpec.ofChange Rows.fnExactUnpackSpec) false w args)
   (Rows.fnExactUnpackSpec.post enc Tryz.prog Tryz.f3 false true false false):=by
 refine returnsInHanded_of_change_and (C := Tryz.checked) (X := fun w _ => laidMetH Tryz.prog [("errors.errorType", Rows.laid_errors_errorType)] w) (fun _ _ _ hh h => h.of_heap hh) Tryz.own started (by kernel_rfl) Tryz.func3
  (ChangeSpec.witness_at (enc := enc) (C := Tryz.checked) (os := os) (X := fun w _ => laidMetH Tryz.prog [("errors.errorType", Rows.laid_errors_errorType)] w) false (laidWorld os) #[.slice none 0 0] 8 rfl (by kernel_rfl) (by kernel_rfl) (by kernel_rfl) (by kernel_rfl) (by kernel_rfl) (laidWorld_met os _)) ?_
 intro W base args ds gs before hval0 hW _ _ hL _
 have hval:∀ (j:Nat) t v,Tryz.f3.params[j]? = some t->args[j]? = some v->Value.okWide Tryz.prog W .any base t v:=hval0
 have hW':=hW
 obtain ⟨p,q,hA0,hV,rfl,hfz,hnd⟩:=hW
 have hA:DataW.TrodAll enc Tryz.prog W 0 (fun _=>true) true Tryz.f3.params.toList args.toList ds p:=hA0
 rw [Tryz.params3] at hA hval
 obtain ⟨v0,d0,rfl,rfl,h0⟩:=trodAll_one hA
 obtain ⟨rfl,rfl⟩:=trodVars_none hV
 have lt0:∀ x ∈ p,x.block<W.heap.size:=by obtain ⟨m,hm⟩:=h0;exact DataW.trod_lt m _ _ _ hm
 have hg:=handle_of_laid hL
 clear hA0 hval0
 have hlaw:Calls Tryz.prog 3 #[v0] W fun e w'=>e=.returned (.bool true)/\Below W.heap.size W w':=by
  obtain ⟨a0,len,cap,rfl⟩:=okWide_slice Tryz.underlying22 (hval 0 22 v0 rfl rfl)
  obtain ⟨-,ys,rfl,hs,hy⟩:=open_byteS h0
  by_cases hl:ys.length<=1048576
  ·exact unpackLaw_small a0 cap ys W hl hs hy hg
  ·exact unpackLaw_great a0 _ cap W (by omega)
 refine hlaw.mono fun e W' ⟨he,bel⟩=>?_
 subst he
 exact ⟨_,rfl,_,_,_,[],_,[],hW',trodAll_mk1 (shut_bool Tryz.underlying4 _),trodAll_mk1 (Below.trod Tryz.laidOut (by kernel_rfl) (of_decide_eq_true (by kernel_rfl)) h0 bel lt0),rfl,bel.frame _,fun h=>by cases h⟩
theorem unpackSaid:Rows.FnExactUnpackSaid:=
 OpenClaim.holds_of_wide 3 Tryz.f3 rfl rfl rfl rfl rfl rfl rfl ⟨rfl,rfl,rfl,rfl,rfl⟩ rfl rfl rfl rfl rfl (by kernel_rfl) Tryz.func3 (by kernel_rfl)
  (of_decide_eq_true (by kernel_rfl)) (by unfold Func.isWrapper;first|(rw [if_pos (by decide +kernel)];kernel_rfl)|(rw [if_neg (by decide +kernel)];exact ⟨rfl,rfl⟩))
  (fun os started H enc _=>unpackLifted os started H enc)
theorem unpackPlain (f : FuncId) (fn : Func) (hf : Tryz.pinned.checked.prog.funcNamed "loop.example/g00196/laws.FnExactUnpack" = some f) (hfn : Tryz.pinned.checked.prog.funcs[f]? = some fn) :
  true=Tryz.pinned.checked.prog.looks []/\∀ (j:Nat) t,fn.params[j]? = some t->Tryz.pinned.checked.prog.wantsStandIn t=false:=by
 obtain rfl : f = 3 := Option.some.inj ((show Tryz.prog.funcNamed "loop.example/g00196/laws.FnExactUnpack" = some 3 by kernel_rfl).symm.trans hf) |>.symm
 obtain rfl:fn=Tryz.f3:=(Option.some.inj (Tryz.func3.symm.trans hfn)).symm
 refine ⟨by kernel_rfl,fun j t ht=>?_⟩
 rw [Tryz.params3] at ht
 have hm:=Array.mem_of_getElem? ht
 simp at hm
 obtain rfl:=hm
 exact (show Tryz.prog.wantsStandIn 22=false by kernel_rfl)
theorem unpack_card:Rows.FnExactUnpackCardSaid:=
 Claim7.holds_tied_plain_at .later [] _ _ _ _ unpackSaid (fun _ h=>by cases h) (by kernel_rfl) (fun _ h=>by cases h) fnExactUnpack_row_tie rfl ⟨rfl,rfl⟩ (by kernel_rfl) rfl unpackPlain (by kernel_rfl)
