import Derived.Test.YtchhijiibjijhaaGreatDoorYf34
import Derived.Test.YtchhijiibjijhaaGreatDoorYf35
namespace Go.Proofs.YtchhijiibjijhaaGreatDoor
set_option maxRecDepth 100000
set_option maxHeartbeats 2000000
open Go.ChangeShapes Go.WideShapes Go.ChangeAt Go.RowKit Go.Deep
section
variable {P:Program} {ops:Array Oper} {Q:Exit->Act->World->Prop} {md:Region.Mode} {S:World->Prop} {G:Nat->Bool}
theorem qvf (lst:Bool->Bool->Bool->Bool->Array Bool) (i2 i3 i4 i5:Nat) {o5:Oper} (I:Bool->Bool->Bool->Act->World->Prop) (J:Bool->Act->World->Prop) {f0:Nat}
  (hrd:∀ b c d,(b && c)=false->Region.ready md ops (lst b c d false)=outI b i2 ++ (outI c i3 ++ outI d i4))
  (s2:∀ c d,(lst false c d false).setIfInBounds i2 true=lst true c d false) (s3:∀ b d,(lst b false d false).setIfInBounds i3 true=lst b true d false) (s4:∀ b c e,(lst b c false e).setIfInBounds i4 true=lst b c true e) (s5:∀ d,(lst true true d false).setIfInBounds i5 true=lst true true d true)
  (e5:ops.toList[i5]? = some o5) (hs:Region.noSelect ops=true) (hf:∀ d,Region.free md ops (lst true true d false) i5=true) (hr5:∀ d,(Region.ready md ops (lst true true d false)).contains i5=true) (hrJ:Region.ready md ops (lst true true false true)=[i4]) (hQ:∀ v c a w,Q (.panic c) (a.put o5.dst v) w->Q (.panic c) a w)
  (h2:∀ c d x w,I false c d x w->wpOp P ops Q i2 (fun x' w'=>(S w->G i2=false->S w')/\I true c d x' w') x w)
  (h3:∀ b d x w,I b false d x w->wpOp P ops Q i3 (fun x' w'=>(S w->G i3=false->S w')/\I b true d x' w') x w) (h4:∀ b c x w,I b c false x w->wpOp P ops Q i4 (fun x' w'=>(S w->G i4=false->S w')/\I b c true x' w') x w)
  (h5:∀ d x w,I true true d x w->Region.wanted o5 (yielded ops x.tmps)=true/\∃ v,(∀ w,(execOp x.eval o5).run P w=.ok (.value v) w)/\J d (x.put o5.dst v) w)
  (hJ:∀ x w,J false x w->wpOp P ops Q i4 (fun x' w'=>(S w->G i4=false->S w')/\J true x' w') x w)
  (hend:∀ x w,J true x w->wpG P md ops Q S G f0 (lst true true true true) x w):
  ∀ (m:Nat) (b c d:Bool) (x:Act) (w:World),notB b+notB c+notB d=m->I b c d x w->wpG P md ops Q S G (f0+m+1) (lst b c d false) x w:=by
 intro m
 induction m with
 | zero=>
  intro b c d x w hm hI
  obtain ⟨rfl,rfl,rfl⟩:b=true/\c=true/\d=true:=by
   cases b <;> cases c <;> cases d <;> simp [notB] at hm ⊢
  obtain ⟨hw,v,hv,hj⟩:=h5 _ x w hI
  exact qog i5 e5 hs (hf _) (hr5 _) hQ hw ⟨v,hv,by rw [s5];exact hend _ _ hj⟩
 | succ m ih=>
  intro b c d x w hm hI
  rcases zK (b && c) with hT | hne
  ·obtain ⟨rfl,rfl⟩:b=true/\c=true:=by
    cases b <;> cases c <;> simp at hT ⊢
   obtain ⟨rfl,rfl⟩:d=false/\m=0:=by
    cases d <;> simp [notB] at hm ⊢ <;> exact hm
   obtain ⟨hw,v,hv,hj⟩:=h5 _ x w hI
   refine qog i5 e5 hs (hf _) (hr5 _) hQ hw ⟨v,hv,?_⟩
   rw [s5]
   refine ⟨(fun h0=>by rw [hrJ] at h0;cases h0),fun i hi=>?_⟩
   rw [hrJ] at hi
   obtain rfl:=List.mem_singleton.1 hi
   refine wpOp_mono (fun x' w' h=>⟨h.1,?_⟩) (hJ _ _ hj)
   rw [s4]
   exact hend _ _ h.2
  have hr:=hrd b c d hne
  refine ⟨fun h0=>?_,fun i hi=>?_⟩
  ·rw [hr] at h0
   cases b <;> cases c <;> cases d <;> simp [outI] at h0 hne
  ·rw [hr,List.mem_append,List.mem_append] at hi
   rcases hi with hi | hi | hi
   ·obtain ⟨rfl,rfl⟩:=qlh hi
    refine wpOp_mono (fun x' w' h=>⟨h.1,?_⟩) (h2 c d x w hI)
    rw [s2]
    exact ih true c d x' w' (by simp [notB] at hm ⊢;omega) h.2
   ·obtain ⟨rfl,rfl⟩:=qlh hi
    refine wpOp_mono (fun x' w' h=>⟨h.1,?_⟩) (h3 b d x w hI)
    rw [s3]
    exact ih b true d x' w' (by simp [notB] at hm ⊢;omega) h.2
   ·obtain ⟨rfl,rfl⟩:=qlh hi
    refine wpOp_mono (fun x' w' h=>⟨h.1,?_⟩) (h4 b c x w hI)
    rw [s4]
    exact ih b c true x' w' (by simp [notB] at hm ⊢;omega) h.2
end
open Go.Sort
theorem qch.g2 {w:World} {lo hi:Nat} {x:SysIn} {v:Value} (o:qch w lo hi x v):∃ x':SysIn,v=x'.v/\SysG w x'/\x'.y=x.y/\∀ i,i<x'.hn->x'.hL i<=x'.hC i:=by
 obtain ⟨D1,D2,D3,D4,b1,vs,b3,b4,h1,h2,h3,o⟩:=o
 obtain ⟨q1,q2,q3,q4,-⟩:=o.hi
 have hst:∀ i,i<x.sn->∃ t:Option Addr × Nat × Option Addr × Nat,vs i=stV (x.sS i).p t.1 (x.sS i).rs.length t.2.1 t.2.2.1 (x.sS i).os.length t.2.2.2 (x.sS i).c/\w.cell? ⟨D2,i*4,none⟩=some (.int .i64 (x.sS i).p)/\w.cell? ⟨D2,i*4+1,none⟩=some (.slice t.1 (x.sS i).rs.length t.2.1)/\w.cell? ⟨D2,i*4+2,none⟩=some (.slice t.2.2.1 (x.sS i).os.length t.2.2.2)/\w.cell? ⟨D2,i*4+3,none⟩=some (.int .i64 (x.sS i).c):=by
  intro i hi
  obtain ⟨ra,rc,oa,oc,e,c0,c1,c2,c3⟩:=o.ss.cel i hi
  exact ⟨(ra,rc,oa,oc),e,c0,c1,c2,c3⟩
 have inh:Inhabited (Option Addr × Nat × Option Addr × Nat):=⟨(none,0,none,0)⟩
 obtain ⟨t,ht⟩:=Go.Deep.choose_lt hst
 refine ⟨⟨some ⟨D1,0,none⟩,x.pn,x.pn,fun i=>some ⟨b1 i,0,none⟩,x.pL,x.pL,x.pH,some ⟨D2,0,none⟩,x.sn,x.sn,fun i=>⟨(x.sS i).p,(t i).1,(t i).2.1,(x.sS i).rs,(t i).2.2.1,(t i).2.2.2,(x.sS i).os,(x.sS i).c⟩,some ⟨D3,0,none⟩,x.wn,x.wn,fun i=>some ⟨b3 i,0,none⟩,x.wL,x.wL,x.wH,some ⟨D4,0,none⟩,x.hn,x.hn,fun i=>some ⟨b4 i,0,none⟩,x.hL,x.hL,x.hH⟩,o.val,?_,rfl,fun i _=>Nat.le_refl _⟩
 have l1:=o.pp.lt
 have l2:=o.ss.lt
 have l3:=o.ww.lt
 have l4:=o.hh.lt
 refine ⟨.inr ⟨D1,0,rfl,by omega,fun i hi=>?_⟩,fun i hi=>⟨b1 i,rfl,zL (o.pp.bd i hi).2 o.pp.le,o.pp.row i hi⟩,⟨.inr ⟨D2,0,rfl,by omega,fun i hi=>?_⟩,fun i hi=>?_⟩,.inr ⟨D3,0,rfl,by omega,fun i hi=>?_⟩,fun i hi=>.inr ⟨b3 i,0,rfl,zL (o.ww.bd i hi).2 o.ww.le,o.ww.row i hi⟩,.inr ⟨D4,0,rfl,by omega,fun i hi=>?_⟩,fun i hi=>.inr ⟨b4 i,0,rfl,zL (o.hh.bd i hi).2 o.hh.le,o.hh.row i hi⟩⟩
 ·have:=o.pp.cel i hi
  simpa using this
 ·have:=(ht i hi).2
  simpa using this
 ·have h4:=o.ss.own i hi
  rw [(ht i hi).1] at h4
  exact ⟨h4.parts.1.slOf,h4.parts.2.1.slOf⟩
 ·have:=o.ww.cel i hi
  simpa using this
 ·have:=o.hh.cel i hi
  simpa using this
theorem SysIn.len_of {x x':SysIn} (hs:x.size<=1048576) (hy:x'.y=x.y):x'.Len:=by
 have l:=SysIn.lens hs
 have e1:x'.pn=x.pn:=congrArg Sy.pn hy
 have e2:x'.pL=x.pL:=congrArg Sy.pL hy
 have e3:x'.sn=x.sn:=congrArg Sy.sn hy
 have e4:x'.sS=x.sS:=congrArg Sy.sS hy
 have e5:x'.wn=x.wn:=congrArg Sy.wn hy
 have e6:x'.wL=x.wL:=congrArg Sy.wL hy
 have e7:x'.hn=x.hn:=congrArg Sy.hn hy
 have e8:x'.hL=x.hL:=congrArg Sy.hL hy
 refine ⟨⟨by omega,fun i hi=>?_⟩,⟨by omega,fun i hi=>?_⟩,⟨by omega,fun i hi=>?_⟩,⟨by omega,fun i hi=>?_⟩⟩
 ·rw [e2]
  exact qfb l.1.2 i (by omega)
 ·have h1:=SysIn.lensS hs i (by omega)
  have h2:x'.sS i=x.sS i:=by rw [e4]
  have h3:(x'.sQ i).rs=(x.sQ i).rs:=congrArg S4.rs h2
  have h4:(x'.sQ i).os=(x.sQ i).os:=congrArg S4.os h2
  rw [h3,h4]
  exact h1
 ·rw [e6]
  exact qfb l.2.2.1.2 i (by omega)
 ·rw [e8]
  exact qfb l.2.2.2.2 i (by omega)
structure Px (W:World) (x:SysIn) (w:World):Prop where
 be:Below W.heap.size W w
 bx:BoxC w W.heap.size (.slice x.pa x.pn x.pc) (.slice x.sa x.sn x.sc) (.slice x.wa x.wn x.wc) (.slice x.ha x.hn x.hc)
 lt:W.heap.size<w.heap.size
theorem Px.below {W:World} {x:SysIn} {w w':World} (h:Px W x w) (hb:Below w.heap.size w w'):Px W x w':=⟨h.be.trans (hb.mono (Nat.le_of_lt h.lt)),h.bx.below hb,zL h.lt hb.size⟩
def Own0 (w:World) (B T:Nat) (y:Sy) (vp vs vw vh:Value):Prop:=∃ c up us uw uh,OwnS true w B c y vp vs vw vh up us uw uh/\∀ b,T<=b->c b=0
theorem Own0.of {w:World} {B:Nat} {y:Sy} {v:Value} (o:qag true w B y v):∃ pa pc sa sc wa wc ha hc,v=sysV pa y.pn pc sa y.sn sc wa y.wn wc ha y.hn hc/\Own0 w B w.heap.size y (.slice pa y.pn pc) (.slice sa y.sn sc) (.slice wa y.wn wc) (.slice ha y.hn hc):=by
 obtain ⟨c,vp,vs,vw,vh,up,us,uw,uh,rfl,o⟩:=o
 obtain ⟨pa,pc,rfl⟩:=zU o.p.row
 obtain ⟨sa,sc,rfl⟩:=zU o.s.row
 obtain ⟨wa,wc,rfl⟩:=zU o.t.row
 obtain ⟨ha,hc,rfl⟩:=zU o.h.row
 exact ⟨pa,pc,sa,sc,wa,wc,ha,hc,rfl,_,up,us,uw,uh,o.recol 0,fun b hb=>qcm hb⟩
theorem Own0.below {w w':World} {B T:Nat} {y:Sy} {vp vs vw vh:Value} (o:Own0 w B T y vp vs vw vh) (hb:Below w.heap.size w w'):Own0 w' B T y vp vs vw vh:=by
 obtain ⟨c,up,us,uw,uh,o,h⟩:=o
 exact ⟨c,up,us,uw,uh,o.below hb,h⟩
theorem Own0.sys {w:World} {B T:Nat} {y:Sy} {vp vs vw vh:Value} (o:Own0 w B T y vp vs vw vh):qag true w B y (.agg #[vp,vs,vw,vh]):=by
 obtain ⟨c,up,us,uw,uh,o,-⟩:=o
 exact ⟨c,vp,vs,vw,vh,up,us,uw,uh,rfl,o⟩
theorem Own0.touch {w w':World} {B T:Nat} {y:Sy} {vp vs vw vh:Value} {P:Nat->Prop} (o:Own0 w B T y vp vs vw vh) (ht:qaa P w w') (hp:∀ b,P b->T<=b\/b<B):Own0 w' B T y vp vs vw vh:=by
 obtain ⟨c,up,us,uw,uh,o,h⟩:=o
 have hk:∀ i,i≠0->∀ k,Cl B c i k->k<w.heap.size->w'.heap[k]? = w.heap[k]?:=fun i hi k hk hl=>ht.block k hl fun e=>by
  rcases hp k e with h1 | h1
  ·exact hi (hk.2.symm.trans (h k h1))
  ·have:=hk.1
   omega
 exact ⟨c,up,us,uw,uh,⟨o.p.keep (hk 1 (by decide)),o.s.keep (hk 2 (by decide)),o.t.keep (hk 3 (by decide)),o.h.keep (hk 4 (by decide))⟩,h⟩
theorem qiy (y:Sy) (B T:Nat) (vp vs vw vh:Value) (w:World) (hS:y.Sums) (hB:B<=w.heap.size) (o:Own0 w B T y vp vs vw vh):
  Calls Tryz.prog 17 #[.agg #[vp,vs,vw,vh],.int .i64 1] w fun e w'=>e=.returned (.int .i64 (mkZ5 y 1))/\Own0 w' B T (mkY y 1) vp vs vw vh/\qaa (fun b=>B<=b/\b<T) w w':=by
 obtain ⟨c,up,us,uw,uh,o,hT⟩:=o
 have HT:Hid (∀ b,T<=b->rcol c w.heap.size 0 b=0):=fun b hb=>by
  unfold rcol
  split
  ·exact hT b hb
  ·rfl
 have HC : Hid (∀ i, i ≠ 0 → ∀ b, Cl B (rcol c w.heap.size 0) i b → B ≤ b ∧ b < T) := fun i hi b hb => ⟨hb.1, by
  rcases Nat.lt_or_ge b T with h | h
  ·exact h
  ·exact absurd (hb.2.symm.trans (HT.out b h)) hi⟩
 obtain ⟨a1,c1,rfl⟩:=zU o.p.row
 obtain ⟨a2,c2,rfl⟩:=zU o.s.row
 obtain ⟨a3,c3,rfl⟩:=zU o.t.row
 obtain ⟨a4,c4,rfl⟩:=zU o.h.row
 have HS:Hid y.Sums:=hS
 have HB:Hid (B<=w.heap.size):=hB
 have ba:=zQ w (oQ4 a1 y.pn c1 a2 y.sn c2 a3 y.wn c3 a4 y.hn c4)
 have o0:OwnS true w B (rcol c w.heap.size 0) y (.slice a1 y.pn c1) (.slice a2 y.sn c2) (.slice a3 y.wn c3) (.slice a4 y.hn c4) up us uw uh:=⟨o.p.mono fun _ h hl=>h.old hl,o.s.mono fun _ h hl=>h.old hl,o.t.mono fun _ h hl=>h.old hl,o.h.mono fun _ h hl=>h.old hl⟩
 have OA:Hid (OwnS true (w.alloc (oQ4 a1 y.pn c1 a2 y.sn c2 a3 y.wn c3 a4 y.hn c4)) B (rcol c w.heap.size 0) y (.slice a1 y.pn c1) (.slice a2 y.sn c2) (.slice a3 y.wn c3) (.slice a4 y.hn c4) up us uw uh):=⟨o0.p.below ba,o0.s.below ba,o0.t.below ba,o0.h.below ba⟩
 have NA:Hid (BoxC (w.alloc (oQ4 a1 y.pn c1 a2 y.sn c2 a3 y.wn c3 a4 y.hn c4)) w.heap.size (.slice a1 y.pn c1) (.slice a2 y.sn c2) (.slice a3 y.wn c3) (.slice a4 y.hn c4)):=BoxC.new w _ _ _ _ _
 have BA:Hid (qaa (fun b=>B<=b/\b<T) w (w.alloc (oQ4 a1 y.pn c1 a2 y.sn c2 a3 y.wn c3 a4 y.hn c4))):=qaa.of_below ba
 have HM:Hid (∀ i k,Cl B (rcol c w.heap.size 0) i k->i≠0->k<w.heap.size):=fun i k h hi=>by
  rcases Nat.lt_or_ge k w.heap.size with h1 | h1
  ·exact h1
  ·exact absurd (h.2.symm.trans (qcm h1)) hi
 have hz:=qni hS
 have HZ:Hid ((0<=mkZ2 y 1/\mkZ2 y 1<=6000000)/\(0<=mkZ3 y 1/\mkZ3 y 1<=12000000)/\(0<=mkZ4 y 1/\mkZ4 y 1<=18000000)/\(0<=mkZ5 y 1/\mkZ5 y 1<=24000000)):=hz
 clear o o0 hS hB ba hz hT
 go_enter Tryz.func17,Tryz.ntmps17
 go_wp2_with fail
 generalize w.alloc (oQ4 a1 y.pn c1 a2 y.sn c2 a3 y.wn c3 a4 y.hn c4)=wA at *
 refine (qlc _ _ y.pn up y.pL y.pH 1 wA HS.out.p.1 HS.out.p.2 (by omega) (by omega) OA.out.p).mono ?_
 rintro e w1 ⟨rfl,q1,t1⟩
 have K1:Hid (∀ i,i≠1->∀ k,Cl B (rcol c w.heap.size 0) i k->k<wA.heap.size->w1.heap[k]? = wA.heap[k]?):=fun i hi k hk hl=>t1.block k hl fun h=>hi (hk.2.symm.trans h.2)
 have F1:Hid (LI true w1 (Cl B (rcol c w.heap.size 0) 1) (.slice a1 y.pn c1) y.pn up y.pL (mkY y 1).pH/\LS w1 (Cl B (rcol c w.heap.size 0) 2) (.slice a2 y.sn c2) y.sn us y.sS/\LT true w1 (Cl B (rcol c w.heap.size 0) 3) (.slice a3 y.wn c3) y.wn uw y.wL y.wH/\LE true w1 (Cl B (rcol c w.heap.size 0) 4) (.slice a4 y.hn c4) y.hn uh y.hL y.hH):=⟨q1,OA.out.s.keep (K1.out 2 (by decide)),OA.out.t.keep (K1.out 3 (by decide)),OA.out.h.keep (K1.out 4 (by decide))⟩
 have hm1:w1.heap[w.heap.size]? = wA.heap[w.heap.size]?:=t1.block _ (zJ _ _ NA.out.1) fun h=>Nat.lt_irrefl _ (HM.out 1 _ h (by decide))
 have G1:Hid (qaa (fun b=>B<=b/\b<T) w w1/\BoxC w1 w.heap.size (.slice a1 y.pn c1) (.slice a2 y.sn c2) (.slice a3 y.wn c3) (.slice a4 y.hn c4)):=⟨BA.out.trans (t1.mono (HC.out 1 (by decide))),⟨(zH hm1).trans NA.out.1,(zH hm1).trans NA.out.2.1,(zH hm1).trans NA.out.2.2.1,(zH hm1).trans NA.out.2.2.2⟩⟩
 clear hm1
 rw [show (1:Int)+5*(sumL y.pL y.pn:Nat)=mkZ2 y 1 from rfl]
 clear t1 q1 OA NA BA K1
 obtain ⟨-,p0,p1,p2,p3⟩:=G1.out
 go_wp2_with fail
 clear p0 p1 p2 p3
 refine (qjx _ _ y.sn us y.sS (mkZ2 y 1) w1 HS.out.s.1 HS.out.s.2 HZ.out.1.1 (by have:=HZ.out;omega) F1.out.2.1).mono ?_
 rintro e w2 ⟨rfl,⟨ts,q2⟩,t2⟩
 have K2:Hid (∀ i,i≠2->∀ k,Cl B (rcol c w.heap.size 0) i k->k<w1.heap.size->w2.heap[k]? = w1.heap[k]?):=fun i hi k hk hl=>t2.block k hl fun h=>hi (hk.2.symm.trans h.2)
 have F2:Hid (LI true w2 (Cl B (rcol c w.heap.size 0) 1) (.slice a1 y.pn c1) y.pn up y.pL (mkY y 1).pH/\LS w2 (Cl B (rcol c w.heap.size 0) 2) (.slice a2 y.sn c2) y.sn ts (mkY y 1).sS/\LT true w2 (Cl B (rcol c w.heap.size 0) 3) (.slice a3 y.wn c3) y.wn uw y.wL y.wH/\LE true w2 (Cl B (rcol c w.heap.size 0) 4) (.slice a4 y.hn c4) y.hn uh y.hL y.hH):=⟨F1.out.1.keep (K2.out 1 (by decide)),q2,F1.out.2.2.1.keep (K2.out 3 (by decide)),F1.out.2.2.2.keep (K2.out 4 (by decide))⟩
 have hm2:w2.heap[w.heap.size]? = w1.heap[w.heap.size]?:=t2.block _ (zJ _ _ G1.out.2.1) fun h=>Nat.lt_irrefl _ (HM.out 2 _ h (by decide))
 have G2:Hid (qaa (fun b=>B<=b/\b<T) w w2/\BoxC w2 w.heap.size (.slice a1 y.pn c1) (.slice a2 y.sn c2) (.slice a3 y.wn c3) (.slice a4 y.hn c4)):=⟨G1.out.1.trans (t2.mono (HC.out 2 (by decide))),⟨(zH hm2).trans G1.out.2.1,(zH hm2).trans G1.out.2.2.1,(zH hm2).trans G1.out.2.2.2.1,(zH hm2).trans G1.out.2.2.2.2⟩⟩
 clear hm2
 rw [show mkZ2 y 1+(2*y.sn+sumL (lenS y.sS) y.sn:Nat)=mkZ3 y 1 from rfl]
 clear t2 q2 F1 G1 K2
 obtain ⟨-,p0,p1,p2,p3⟩:=G2.out
 go_wp2_with fail
 clear p0 p1 p2 p3
 refine (qjw _ _ y.wn uw y.wL y.wH (mkZ3 y 1) w2 HS.out.w.1 HS.out.w.2 HZ.out.2.1.1 (by have:=HZ.out;omega) F2.out.2.2.1).mono ?_
 rintro e w3 ⟨rfl,q3,t3⟩
 have K3:Hid (∀ i,i≠3->∀ k,Cl B (rcol c w.heap.size 0) i k->k<w2.heap.size->w3.heap[k]? = w2.heap[k]?):=fun i hi k hk hl=>t3.block k hl fun h=>hi (hk.2.symm.trans h.2)
 have F3:Hid (LI true w3 (Cl B (rcol c w.heap.size 0) 1) (.slice a1 y.pn c1) y.pn up y.pL (mkY y 1).pH/\LS w3 (Cl B (rcol c w.heap.size 0) 2) (.slice a2 y.sn c2) y.sn ts (mkY y 1).sS/\LT true w3 (Cl B (rcol c w.heap.size 0) 3) (.slice a3 y.wn c3) y.wn uw y.wL (mkY y 1).wH/\LE true w3 (Cl B (rcol c w.heap.size 0) 4) (.slice a4 y.hn c4) y.hn uh y.hL y.hH):=⟨F2.out.1.keep (K3.out 1 (by decide)),F2.out.2.1.keep (K3.out 2 (by decide)),q3,F2.out.2.2.2.keep (K3.out 4 (by decide))⟩
 have hm3:w3.heap[w.heap.size]? = w2.heap[w.heap.size]?:=t3.block _ (zJ _ _ G2.out.2.1) fun h=>Nat.lt_irrefl _ (HM.out 3 _ h (by decide))
 have G3:Hid (qaa (fun b=>B<=b/\b<T) w w3/\BoxC w3 w.heap.size (.slice a1 y.pn c1) (.slice a2 y.sn c2) (.slice a3 y.wn c3) (.slice a4 y.hn c4)):=⟨G2.out.1.trans (t3.mono (HC.out 3 (by decide))),⟨(zH hm3).trans G2.out.2.1,(zH hm3).trans G2.out.2.2.1,(zH hm3).trans G2.out.2.2.2.1,(zH hm3).trans G2.out.2.2.2.2⟩⟩
 clear hm3
 rw [show mkZ3 y 1+2*(sumL y.wL y.wn:Nat)=mkZ4 y 1 from rfl]
 clear t3 q3 F2 G2 K3
 obtain ⟨-,p0,p1,p2,p3⟩:=G3.out
 go_wp2_with fail
 clear p0 p1 p2 p3
 refine (qix _ _ y.hn uh y.hL y.hH (mkZ4 y 1) w3 HS.out.h.1 HS.out.h.2 HZ.out.2.2.1.1 (by have:=HZ.out;omega) F3.out.2.2.2).mono ?_
 rintro e w4 ⟨rfl,q4,t4⟩
 have K4:Hid (∀ i,i≠4->∀ k,Cl B (rcol c w.heap.size 0) i k->k<w3.heap.size->w4.heap[k]? = w3.heap[k]?):=fun i hi k hk hl=>t4.block k hl fun h=>hi (hk.2.symm.trans h.2)
 have F4:Hid (Own0 w4 B T (mkY y 1) (.slice a1 y.pn c1) (.slice a2 y.sn c2) (.slice a3 y.wn c3) (.slice a4 y.hn c4)):=⟨_,up,ts,uw,uh,⟨F3.out.1.keep (K4.out 1 (by decide)),F3.out.2.1.keep (K4.out 2 (by decide)),F3.out.2.2.1.keep (K4.out 3 (by decide)),q4⟩,HT.out⟩
 have hm4:w4.heap[w.heap.size]? = w3.heap[w.heap.size]?:=t4.block _ (zJ _ _ G3.out.2.1) fun h=>Nat.lt_irrefl _ (HM.out 4 _ h (by decide))
 have G4:Hid (qaa (fun b=>B<=b/\b<T) w w4/\BoxC w4 w.heap.size (.slice a1 y.pn c1) (.slice a2 y.sn c2) (.slice a3 y.wn c3) (.slice a4 y.hn c4)):=⟨G3.out.1.trans (t4.mono (HC.out 4 (by decide))),⟨(zH hm4).trans G3.out.2.1,(zH hm4).trans G3.out.2.2.1,(zH hm4).trans G3.out.2.2.2.1,(zH hm4).trans G3.out.2.2.2.2⟩⟩
 clear hm4
 rw [show mkZ4 y 1+3*(sumL y.hL y.hn:Nat)=mkZ5 y 1 from rfl]
 clear t4 q4 F3 G3 K4
 go_wp2
 go_ret
 exact ⟨rfl,F4.out,G4.out.1⟩
theorem qjc {L:Nat->Nat} {M:Nat}:∀ {n:Nat},(∀ i,i<n->L i<=M)->sumL L n<=n*M
 | 0,_=>by simp [sumL]
 | n+1,h=>by
  have h1:=qjc fun i hi=>h i (Nat.lt_succ_of_lt hi)
  have h2:=h n (Nat.lt_succ_self n)
  show sumL L n+L n<=(n+1)*M
  rw [Nat.add_mul,Nat.one_mul]
  omega
theorem Sy.Sm.sums {y:Sy} (h:y.Sm):y.Sums:=by
 obtain ⟨h1,h2,h3,h4⟩:=h.n
 have a1:=qjc h.p
 have a2:=qjc (L:=lenS y.sS) (M:=2000) (n:=y.sn) fun i hi=>by
  have:=h.s i hi
  simp only [lenS]
  omega
 have a3:=qjc h.w
 have a4:=qjc h.h
 exact ⟨⟨by omega,by omega⟩,⟨by omega,by omega⟩,⟨by omega,by omega⟩,⟨by omega,by omega⟩⟩
theorem Sy.Sm.len {y:Sy} (h:y.Sm):y.Len:=by
 obtain ⟨h1,h2,h3,h4⟩:=h.n
 exact ⟨⟨by omega,fun i hi=>by have:=h.p i hi;omega⟩,⟨by omega,fun i hi=>by have:=h.s i hi;omega⟩,⟨by omega,fun i hi=>by have:=h.w i hi;omega⟩,⟨by omega,fun i hi=>by have:=h.h i hi;omega⟩⟩
theorem qch.g3 {w:World} {lo hi:Nat} {x:SysIn} {v:Value} (o:qch w lo hi x v):∃ x':SysIn,v=x'.v/\SysG w x'/\x'.y=x.y/\(∀ i,i<x'.hn->x'.hL i<=x'.hC i)/\x'.Nn true:=by
 obtain ⟨D1,D2,D3,D4,b1,vs,b3,b4,h1,h2,h3,o⟩:=o
 obtain ⟨q1,q2,q3,q4,-⟩:=o.hi
 have hst:∀ i,i<x.sn->∃ t:Option Addr × Nat × Option Addr × Nat,vs i=stV (x.sS i).p t.1 (x.sS i).rs.length t.2.1 t.2.2.1 (x.sS i).os.length t.2.2.2 (x.sS i).c/\w.cell? ⟨D2,i*4,none⟩=some (.int .i64 (x.sS i).p)/\w.cell? ⟨D2,i*4+1,none⟩=some (.slice t.1 (x.sS i).rs.length t.2.1)/\w.cell? ⟨D2,i*4+2,none⟩=some (.slice t.2.2.1 (x.sS i).os.length t.2.2.2)/\w.cell? ⟨D2,i*4+3,none⟩=some (.int .i64 (x.sS i).c):=by
  intro i hi
  obtain ⟨ra,rc,oa,oc,e,c0,c1,c2,c3⟩:=o.ss.cel i hi
  exact ⟨(ra,rc,oa,oc),e,c0,c1,c2,c3⟩
 have inh:Inhabited (Option Addr × Nat × Option Addr × Nat):=⟨(none,0,none,0)⟩
 obtain ⟨t,ht⟩:=Go.Deep.choose_lt hst
 refine ⟨⟨some ⟨D1,0,none⟩,x.pn,x.pn,fun i=>some ⟨b1 i,0,none⟩,x.pL,x.pL,x.pH,some ⟨D2,0,none⟩,x.sn,x.sn,fun i=>⟨(x.sS i).p,(t i).1,(t i).2.1,(x.sS i).rs,(t i).2.2.1,(t i).2.2.2,(x.sS i).os,(x.sS i).c⟩,some ⟨D3,0,none⟩,x.wn,x.wn,fun i=>some ⟨b3 i,0,none⟩,x.wL,x.wL,x.wH,some ⟨D4,0,none⟩,x.hn,x.hn,fun i=>some ⟨b4 i,0,none⟩,x.hL,x.hL,x.hH⟩,o.val,?_,rfl,fun i _=>Nat.le_refl _,fun i _=>.inl ⟨b3 i,0,rfl⟩,fun i _=>.inl ⟨b4 i,0,rfl⟩⟩
 have l1:=o.pp.lt
 have l2:=o.ss.lt
 have l3:=o.ww.lt
 have l4:=o.hh.lt
 refine ⟨.inr ⟨D1,0,rfl,by omega,fun i hi=>?_⟩,fun i hi=>⟨b1 i,rfl,zL (o.pp.bd i hi).2 o.pp.le,o.pp.row i hi⟩,⟨.inr ⟨D2,0,rfl,by omega,fun i hi=>?_⟩,fun i hi=>?_⟩,.inr ⟨D3,0,rfl,by omega,fun i hi=>?_⟩,fun i hi=>.inr ⟨b3 i,0,rfl,zL (o.ww.bd i hi).2 o.ww.le,o.ww.row i hi⟩,.inr ⟨D4,0,rfl,by omega,fun i hi=>?_⟩,fun i hi=>.inr ⟨b4 i,0,rfl,zL (o.hh.bd i hi).2 o.hh.le,o.hh.row i hi⟩⟩
 ·have:=o.pp.cel i hi
  simpa using this
 ·have:=(ht i hi).2
  simpa using this
 ·have h4:=o.ss.own i hi
  rw [(ht i hi).1] at h4
  exact ⟨h4.parts.1.slOf,h4.parts.2.1.slOf⟩
 ·have:=o.ww.cel i hi
  simpa using this
 ·have:=o.hh.cel i hi
  simpa using this
theorem BoxC.blkF {w w':World} {N:Nat} {p vr vo code:Value} (h:BoxC w N p vr vo code) (hb:w'.heap[N]? = w.heap[N]?):BoxC w' N p vr vo code:=by
 obtain ⟨h0,h1,h2,h3⟩:=h
 exact ⟨(zH hb).trans h0,(zH hb).trans h1,(zH hb).trans h2,(zH hb).trans h3⟩
theorem BoxC.ltF {w:World} {N:Nat} {p vr vo code:Value} (h:BoxC w N p vr vo code):N<w.heap.size:=zJ w _ h.1
theorem BoxC.touch {w w':World} {N:Nat} {p vr vo code:Value} {P:Nat->Prop} (h:BoxC w N p vr vo code) (t:qaa P w w') (hp:¬ P N):BoxC w' N p vr vo code:=h.blkF (t.block N h.ltF hp)
theorem Px.touchF {W:World} {x:SysIn} {w w':World} {P:Nat->Prop} (h:Px W x w) (ht:qaa P w w') (hp:∀ b,P b->W.heap.size<b):Px W x w':=
 ⟨h.be.trans (ht.below (Nat.le_of_lt h.lt) fun b e=>by have:=hp b e;omega),h.bx.touch ht fun e=>by have:=hp _ e;omega,zL h.lt ht.size⟩
section
variable {W:World} {x:SysIn} {Y Z:Sy} {x3:SysIn} {N1 T8 lo T10 B4 T11:Nat} {a1 a2 a3 a4 g1 g2 g3 g4:Value} {w w':World}
end
def OwnZ (w:World) (B T:Nat) (y:Sy) (vp vs vw vh:Value):Prop:=∃ c up us uw uh,OwnS false w B c y vp vs vw vh up us uw uh/\∀ b,T<=b->c b=0
theorem OwnZ.of {w:World} {B:Nat} {y:Sy} {v:Value} (o:qag false w B y v):∃ pa pc sa sc wa wc ha hc,v=sysV pa y.pn pc sa y.sn sc wa y.wn wc ha y.hn hc/\OwnZ w B w.heap.size y (.slice pa y.pn pc) (.slice sa y.sn sc) (.slice wa y.wn wc) (.slice ha y.hn hc):=by
 obtain ⟨c,vp,vs,vw,vh,up,us,uw,uh,rfl,o⟩:=o
 obtain ⟨pa,pc,rfl⟩:=zU o.p.row
 obtain ⟨sa,sc,rfl⟩:=zU o.s.row
 obtain ⟨wa,wc,rfl⟩:=zU o.t.row
 obtain ⟨ha,hc,rfl⟩:=zU o.h.row
 exact ⟨pa,pc,sa,sc,wa,wc,ha,hc,rfl,_,up,us,uw,uh,o.recol 0,fun b hb=>qcm hb⟩
theorem OwnZ.below {w w':World} {B T:Nat} {y:Sy} {vp vs vw vh:Value} (o:OwnZ w B T y vp vs vw vh) (hb:Below w.heap.size w w'):OwnZ w' B T y vp vs vw vh:=by
 obtain ⟨c,up,us,uw,uh,o,h⟩:=o
 exact ⟨c,up,us,uw,uh,o.below hb,h⟩
theorem OwnZ.sys {w:World} {B T:Nat} {y:Sy} {vp vs vw vh:Value} (o:OwnZ w B T y vp vs vw vh):qag false w B y (.agg #[vp,vs,vw,vh]):=by
 obtain ⟨c,up,us,uw,uh,o,-⟩:=o
 exact ⟨c,vp,vs,vw,vh,up,us,uw,uh,rfl,o⟩
theorem OwnZ.touch {w w':World} {B T:Nat} {y:Sy} {vp vs vw vh:Value} {P:Nat->Prop} (o:OwnZ w B T y vp vs vw vh) (ht:qaa P w w') (hp:∀ b,P b->T<=b\/b<B):OwnZ w' B T y vp vs vw vh:=by
 obtain ⟨c,up,us,uw,uh,o,h⟩:=o
 have hk:∀ i,i≠0->∀ k,Cl B c i k->k<w.heap.size->w'.heap[k]? = w.heap[k]?:=fun i hi k hk hl=>ht.block k hl fun e=>by
  rcases hp k e with h1 | h1
  ·exact hi (hk.2.symm.trans (h k h1))
  ·have:=hk.1
   omega
 exact ⟨c,up,us,uw,uh,⟨o.p.keep (hk 1 (by decide)),o.s.keep (hk 2 (by decide)),o.t.keep (hk 3 (by decide)),o.h.keep (hk 4 (by decide))⟩,h⟩
structure AtF (W:World) (x:SysIn) (Y:Sy) (x3:SysIn) (N1 T8 lo T10 B4 T11:Nat) (a1 a2 a3 a4 g1 g2 g3 g4:Value) (w:World):Prop where
 px:Px W x w
 o2:OwnZ w N1 T8 Y a1 a2 a3 a4
 b8:BoxC w T8 a1 a2 a3 a4
 s3:qch w lo T10 x x3.v
 b10:BoxC w T10 (.slice x3.pa x3.pn x3.pc) (.slice x3.sa x3.sn x3.sc) (.slice x3.wa x3.wn x3.wc) (.slice x3.ha x3.hn x3.hc)
 o4:Own0 w B4 T11 Y g1 g2 g3 g4
 b11:BoxC w T11 g1 g2 g3 g4
structure AtG (W:World) (x:SysIn) (Y Z:Sy) (N1 T8 B4 T11:Nat) (a1 a2 a3 a4 g1 g2 g3 g4:Value) (w:World):Prop where
 px:Px W x w
 o2:OwnZ w N1 T8 Y a1 a2 a3 a4
 b8:BoxC w T8 a1 a2 a3 a4
 o4:Own0 w B4 T11 Z g1 g2 g3 g4
 b11:BoxC w T11 g1 g2 g3 g4
section
variable {W:World} {x:SysIn} {Y Z:Sy} {x3:SysIn} {N1 T8 lo T10 B4 T11:Nat} {a1 a2 a3 a4 g1 g2 g3 g4:Value} {w w':World}
theorem AtF.below (h:AtF W x Y x3 N1 T8 lo T10 B4 T11 a1 a2 a3 a4 g1 g2 g3 g4 w) (hb:Below w.heap.size w w'):AtF W x Y x3 N1 T8 lo T10 B4 T11 a1 a2 a3 a4 g1 g2 g3 g4 w':=
 ⟨h.px.below hb,h.o2.below hb,h.b8.below hb,h.s3.below hb (Nat.le_of_lt h.b10.ltF),h.b10.below hb,h.o4.below hb,h.b11.below hb⟩
theorem AtG.below (h:AtG W x Y Z N1 T8 B4 T11 a1 a2 a3 a4 g1 g2 g3 g4 w) (hb:Below w.heap.size w w'):AtG W x Y Z N1 T8 B4 T11 a1 a2 a3 a4 g1 g2 g3 g4 w':=
 ⟨h.px.below hb,h.o2.below hb,h.b8.below hb,h.o4.below hb,h.b11.below hb⟩
theorem AtF.mark (h:AtF W x Y x3 N1 T8 lo T10 B4 T11 a1 a2 a3 a4 g1 g2 g3 g4 w) (t:qaa (fun b=>lo<=b/\b<T10) w w') (h1:W.heap.size<lo) (h2:T8<lo) (h3:T10<=B4) (h4:B4<=T11):AtG W x Y Y N1 T8 B4 T11 a1 a2 a3 a4 g1 g2 g3 g4 w':=
 ⟨h.px.touchF t fun b hb=>by omega,h.o2.touch t fun b hb=>by omega,h.b8.touch t fun hb=>by omega,h.o4.touch t fun b hb=>by omega,h.b11.touch t fun hb=>by omega⟩
theorem AtG.mid (h:AtG W x Y Z N1 T8 B4 T11 a1 a2 a3 a4 g1 g2 g3 g4 w) {P:Nat->Prop} (t:qaa P w w') (hp:∀ b,P b->W.heap.size<b/\T8<b/\b<B4) (h4:B4<=T11):AtG W x Y Z N1 T8 B4 T11 a1 a2 a3 a4 g1 g2 g3 g4 w':=
 ⟨h.px.touchF t fun b hb=>(hp b hb).1,h.o2.touch t fun b hb=>by have:=hp b hb;omega,h.b8.touch t fun hb=>by have:=hp _ hb;omega,h.o4.touch t fun b hb=>by have:=hp b hb;omega,h.b11.touch t fun hb=>by have:=hp _ hb;omega⟩
theorem AtG.mark (h:AtG W x Y Z N1 T8 B4 T11 a1 a2 a3 a4 g1 g2 g3 g4 w) {Z':Sy} (t:qaa (fun b=>B4<=b/\b<T11) w w') (o:Own0 w' B4 T11 Z' g1 g2 g3 g4) (h1:W.heap.size<B4) (h2:T8<B4):AtG W x Y Z' N1 T8 B4 T11 a1 a2 a3 a4 g1 g2 g3 g4 w':=
 ⟨h.px.touchF t fun b hb=>by omega,h.o2.touch t fun b hb=>by omega,h.b8.touch t fun hb=>by omega,o,h.b11.touch t fun hb=>by omega⟩
end
theorem qsp (x:SysIn) (lo hi:Nat) (v:Value) (w:World) (hs:x.size<=1048576) (o:qch w lo hi x v):
  Calls Tryz.prog 17 #[v,.int .i64 1] w fun e w'=>(∃ z:Int,e=.returned (.int .i64 z)/\¬ z<0/\z<=30000000)/\qaa (fun b=>lo<=b/\b<hi) w w':=by
 obtain ⟨D1,D2,D3,D4,b1,vs,b3,b4,h1,h2,h3,o⟩:=o
 have HS:Hid (x.size<=1048576):=hs
 obtain ⟨q1,q2,q3,q4,-⟩:=o.hi
 have OO:Hid (ql8 w lo hi x v D1 D2 D3 D4 b1 vs b3 b4 h1 h2 h3):=o
 have QQ:Hid (h1<=hi/\h2<=hi/\h3<=hi/\hi<=w.heap.size):=⟨q1,q2,q3,q4⟩
 obtain ⟨rfl,p1,s1,w1,i1,y1,y2,y3,y4⟩:=o
 have Y:Hid (lo<=D1/\h1<=D2/\h2<=D3/\h3<=D4/\D1<h1/\D2<h2/\D3<h3/\D4<hi):=⟨y1,y2,y3,y4,p1.lt,s1.lt,w1.lt,i1.lt⟩
 have P1:Hid (qbm w D1 h1 x.pn x.pL b1 x.pH):=p1
 have S1:Hid (qaw w D2 h2 x.sn x.sS vs):=s1
 have W1:Hid (qa6 w D3 h3 x.wn x.wL b3 x.wH):=w1
 have I1:Hid (qav w D4 hi x.hn x.hL b4 x.hH):=i1
 clear p1 s1 w1 i1 y1 y2 y3 y4 q1 q2 q3 q4 hs OO
 have X0:Hid (MkY w (w.alloc (oQ4 (some ⟨D1,0,none⟩) x.pn x.pn (some ⟨D2,0,none⟩) x.sn x.sn (some ⟨D3,0,none⟩) x.wn x.wn (some ⟨D4,0,none⟩) x.hn x.hn)) lo hi D1 D2 D3 D4 x):=⟨qaa.of_below (qad _ _),BoxC.new w (.slice (some ⟨D1,0,none⟩) x.pn x.pn) (.slice (some ⟨D2,0,none⟩) x.sn x.sn) (.slice (some ⟨D3,0,none⟩) x.wn x.wn) (.slice (some ⟨D4,0,none⟩) x.hn x.hn) 36,by simp⟩
 have BA:Hid (Below w.heap.size w (w.alloc (oQ4 (some ⟨D1,0,none⟩) x.pn x.pn (some ⟨D2,0,none⟩) x.sn x.sn (some ⟨D3,0,none⟩) x.wn x.wn (some ⟨D4,0,none⟩) x.hn x.hn))):=qad _ _
 go_enter Tryz.func17,Tryz.ntmps17
 go_wp2_with fail
 generalize w.alloc (oQ4 (some ⟨D1,0,none⟩) x.pn x.pn (some ⟨D2,0,none⟩) x.sn x.sn (some ⟨D3,0,none⟩) x.wn x.wn (some ⟨D4,0,none⟩) x.hn x.hn)=wA at *
 refine (qf6 D1 h1 x.pn x.pn x.pL b1 x.pH 1 wA (SysIn.lens HS.out).1.1 (SysIn.lens HS.out).1.2 (by omega) (by omega) (P1.out.below BA.out (by have:=QQ.out;omega))).mono ?_
 rintro e w1 ⟨rfl,t1⟩
 have X1:Hid (MkY w w1 lo hi D1 D2 D3 D4 x):=X0.out.step (by have:=QQ.out;omega) t1 fun b hb=>by have:=QQ.out;have:=Y.out;omega
 have KS:Hid (qaw w1 D2 h2 x.sn x.sS vs):=(S1.out.below BA.out (by have:=QQ.out;omega)).keep t1.size fun k hk1 hk2=>t1.block k (by have:=BA.out.size;have:=QQ.out;omega) (fun e=>by have:=Y.out;omega)
 have KW:Hid (qa6 w1 D3 h3 x.wn x.wL b3 x.wH):=(W1.out.below BA.out (by have:=QQ.out;omega)).keep t1.size fun k hk1 hk2=>t1.block k (by have:=BA.out.size;have:=QQ.out;omega) (fun e=>by have:=Y.out;omega)
 have KI:Hid (qav w1 D4 hi x.hn x.hL b4 x.hH):=(I1.out.below BA.out (by have:=QQ.out;omega)).keep t1.size fun k hk1 hk2=>t1.block k (by have:=BA.out.size;have:=QQ.out;omega) (fun e=>by have:=Y.out;omega)
 have z1:0<=(1:Int)+5*(sumL x.pL x.pn:Nat)/\(1:Int)+5*(sumL x.pL x.pn:Nat)<=6000000:=by have:=(SysIn.lens HS.out).1.2;omega
 generalize (1:Int)+5*(sumL x.pL x.pn:Nat)=Z1 at *
 have HZ1:Hid (0<=Z1/\Z1<=6000000):=z1
 clear t1 X0 P1 S1 W1 I1 BA z1
 obtain ⟨-,⟨p0,p1,p2,p3⟩,lt⟩:=X1.out
 go_wp2_with fail
 clear p0 p1 p2 p3 lt
 refine (qe7 D2 h2 x.sn x.sn x.sS vs Z1 w1 (SysIn.lens HS.out).2.1.1 (SysIn.lens HS.out).2.1.2 HZ1.out.1 (by have:=HZ1.out;omega) KS.out).mono ?_
 rintro e w2 ⟨rfl,t2⟩
 have X2:Hid (MkY w w2 lo hi D1 D2 D3 D4 x):=X1.out.step (by have:=QQ.out;omega) t2 fun b hb=>by have:=QQ.out;have:=Y.out;omega
 have KW2:Hid (qa6 w2 D3 h3 x.wn x.wL b3 x.wH):=KW.out.keep t2.size fun k hk1 hk2=>t2.block k (zL hk2 KW.out.le) (fun e=>by have:=Y.out;omega)
 have KI2:Hid (qav w2 D4 hi x.hn x.hL b4 x.hH):=KI.out.keep t2.size fun k hk1 hk2=>t2.block k (zL hk2 KI.out.le) (fun e=>by have:=Y.out;omega)
 have z2:0<=Z1+(2*x.sn+sumL (lenS x.sS) x.sn:Nat)/\Z1+(2*x.sn+sumL (lenS x.sS) x.sn:Nat)<=12000000:=by have:=(SysIn.lens HS.out).2.1;have:=HZ1.out;omega
 generalize Z1+(2*x.sn+sumL (lenS x.sS) x.sn:Nat)=Z2 at *
 have HZ2:Hid (0<=Z2/\Z2<=12000000):=z2
 clear t2 X1 KS KW KI z2 HZ1
 obtain ⟨-,⟨p0,p1,p2,p3⟩,lt⟩:=X2.out
 go_wp2_with fail
 clear p0 p1 p2 p3 lt
 refine (qe6 D3 h3 x.wn x.wn x.wL b3 x.wH Z2 w2 (SysIn.lens HS.out).2.2.1.1 (SysIn.lens HS.out).2.2.1.2 HZ2.out.1 (by have:=HZ2.out;omega) KW2.out).mono ?_
 rintro e w3 ⟨rfl,t3⟩
 have X3:Hid (MkY w w3 lo hi D1 D2 D3 D4 x):=X2.out.step (by have:=QQ.out;omega) t3 fun b hb=>by have:=QQ.out;have:=Y.out;omega
 have KI3:Hid (qav w3 D4 hi x.hn x.hL b4 x.hH):=KI2.out.keep t3.size fun k hk1 hk2=>t3.block k (zL hk2 KI2.out.le) (fun e=>by have:=Y.out;omega)
 have z3:0<=Z2+2*(sumL x.wL x.wn:Nat)/\Z2+2*(sumL x.wL x.wn:Nat)<=18000000:=by have:=(SysIn.lens HS.out).2.2.1;have:=HZ2.out;omega
 generalize Z2+2*(sumL x.wL x.wn:Nat)=Z3 at *
 have HZ3:Hid (0<=Z3/\Z3<=18000000):=z3
 clear t3 X2 KW2 KI2 z3 HZ2
 obtain ⟨-,⟨p0,p1,p2,p3⟩,lt⟩:=X3.out
 go_wp2_with fail
 clear p0 p1 p2 p3 lt
 refine (qeg D4 hi x.hn x.hn x.hL b4 x.hH Z3 w3 (SysIn.lens HS.out).2.2.2.1 (SysIn.lens HS.out).2.2.2.2 HZ3.out.1 (by have:=HZ3.out;omega) KI3.out).mono ?_
 rintro e w4 ⟨rfl,t4⟩
 have X4:Hid (MkY w w4 lo hi D1 D2 D3 D4 x):=X3.out.step (by have:=QQ.out;omega) t4 fun b hb=>by have:=QQ.out;have:=Y.out;omega
 have HZ4:Hid (¬ Z3+3*(sumL x.hL x.hn:Nat)<0/\Z3+3*(sumL x.hL x.hn:Nat)<=30000000):=by
  show ¬ Z3+3*(sumL x.hL x.hn:Nat)<0/\Z3+3*(sumL x.hL x.hn:Nat)<=30000000
  have:=HZ3.out
  have:=(SysIn.lens HS.out).2.2.2.2
  omega
 generalize Z3+3*(sumL x.hL x.hn:Nat)=Z4 at *
 clear t4 X3 KI3 HZ3
 go_wp2
 go_ret
 exact ⟨⟨_,rfl,HZ4.out⟩,X4.out.tch⟩
theorem OwnI.far {w w':World} {B:Nat} {v:Value} {xs:List Int} {row:Option Nat} (h:OwnI w B v xs) (hg:w.grownBy w' row) (hne:∀ j,v.ownBlock=some j->row≠some j):OwnI w' B v xs:=by
 refine h.kept hg ?_
 cases hv:v.ownBlock with
 | none=>exact .inl rfl
 | some k=>exact .inr (fun e=>hne k hv e.symm)
theorem OwnI.sl {w:World} {B:Nat} {a0:Option Addr} {cap:Nat} {xs:List Int} (h:OwnI w B (.slice a0 xs.length cap) xs):Sl w a0 xs:=by
 obtain ⟨a1,c1,e,s⟩:=h.form
 simp only [Value.slice.injEq] at e
 obtain ⟨rfl,-,-⟩:=e
 exact s
theorem OwnI.touch {w w':World} {B:Nat} {v:Value} {xs:List Int} {P:Nat->Prop} (o:OwnI w B v xs) (ht:qaa P w w') (hp:∀ g,v.ownBlock=some g->¬ P g):OwnI w' B v xs:=o.blk fun k hk=>ht.block k (o.lt k hk).2 (hp k hk)
theorem Px.touch {W:World} {x:SysIn} {w w':World} {P:Nat->Prop} (h:Px W x w) (ht:qaa P w w') (hp:∀ b,P b->W.heap.size<b):Px W x w':=by
 have hc:∀ i,w'.cell? ⟨W.heap.size,i,none⟩=w.cell? ⟨W.heap.size,i,none⟩:=fun i=>ht.cell h.lt (fun e=>by have:=hp _ e;omega) i
 obtain ⟨h0,h1,h2,h3⟩:=h.bx
 exact ⟨h.be.trans (ht.below (Nat.le_of_lt h.lt) fun b e=>by have:=hp b e;omega),⟨(hc _).trans h0,(hc _).trans h1,(hc _).trans h2,(hc _).trans h3⟩,zL h.lt ht.size⟩
