import Derived.Test.YtchhijiibjijhaaGreatDoorXf33
import Derived.Test.YtchhijiibjijhaaGreatDoorXf35
namespace Go.Proofs.YtchhijiibjijhaaGreatDoor
set_option maxRecDepth 100000
set_option maxHeartbeats 2000000
open Go.ChangeShapes Go.WideShapes Go.ChangeAt Go.RowKit Go.Deep
noncomputable def stC (y:Sy) (p f:Int):Int:=if y.okB=true then (if belB p y.pn=true then cmS y p.toNat f else 2) else 1
noncomputable def stY (y:Sy) (p f:Int):Sy:=if y.okB=true then (if belB p y.pn=true then y.step p.toNat f else y) else { y with pn:=0,sn:=0,wn:=0,hn:=0 }
theorem qif {L:Nat->Nat} {M:Nat}:∀ {n:Nat},(∀ i,i<n->L i<=M)->sumL L n<=n*M
 | 0,_=>by simp [sumL]
 | n+1,h=>by
  have h1:=qif fun i hi=>h i (Nat.lt_succ_of_lt hi)
  have h2:=h n (Nat.lt_succ_self n)
  show sumL L n+L n<=(n+1)*M
  rw [Nat.add_mul,Nat.one_mul]
  omega
theorem Sy.Sm.sums {y:Sy} (h:y.Sm):y.Sums:=by
 obtain ⟨h1,h2,h3,h4⟩:=h.n
 have a1:=qif h.p
 have a2:=qif (L:=lenS y.sS) (M:=2000) (n:=y.sn) fun i hi=>by
  have:=h.s i hi
  simp only [lenS]
  omega
 have a3:=qif h.w
 have a4:=qif h.h
 exact ⟨⟨by omega,by omega⟩,⟨by omega,by omega⟩,⟨by omega,by omega⟩,⟨by omega,by omega⟩⟩
theorem Sy.Sm.len {y:Sy} (h:y.Sm):y.Len:=by
 obtain ⟨h1,h2,h3,h4⟩:=h.n
 exact ⟨⟨by omega,fun i hi=>by have:=h.p i hi;omega⟩,⟨by omega,fun i hi=>by have:=h.s i hi;omega⟩,⟨by omega,fun i hi=>by have:=h.w i hi;omega⟩,⟨by omega,fun i hi=>by have:=h.h i hi;omega⟩⟩
open Go.Sort
theorem qdu.g2 {w:World} {lo hi:Nat} {x:SysIn} {v:Value} (o:qdu w lo hi x v):∃ x':SysIn,v=x'.v/\SysG w x'/\x'.y=x.y/\∀ i,i<x'.hn->x'.hL i<=x'.hC i:=by
 obtain ⟨D1,D2,D3,D4,b1,vs,b3,b4,h1,h2,h3,o⟩:=o
 obtain ⟨q1,q2,q3,q4,-⟩:=o.hi
 have hst:∀ i,i<x.sn->∃ t:Option Addr × Nat × Option Addr × Nat,vs i=stV (x.sS i).p t.1 (x.sS i).rs.length t.2.1 t.2.2.1 (x.sS i).os.length t.2.2.2 (x.sS i).c/\w.cell? ⟨D2,i*4,none⟩=some (.int .i64 (x.sS i).p)/\w.cell? ⟨D2,i*4+1,none⟩=some (.slice t.1 (x.sS i).rs.length t.2.1)/\w.cell? ⟨D2,i*4+2,none⟩=some (.slice t.2.2.1 (x.sS i).os.length t.2.2.2)/\w.cell? ⟨D2,i*4+3,none⟩=some (.int .i64 (x.sS i).c):=by
  intro i hi
  obtain ⟨ra,rc,oa,oc,e,c0,c1,c2,c3⟩:=o.ss.cel i hi
  exact ⟨(ra,rc,oa,oc),e,c0,c1,c2,c3⟩
 have inh:Inhabited (Option Addr × Nat × Option Addr × Nat):=⟨(none,0,none,0)⟩
 obtain ⟨t,ht⟩:=Go.Deep.choose_lt hst
 refine ⟨⟨some ⟨D1,0,none⟩,x.pn,x.pn,fun i=>some ⟨b1 i,0,none⟩,x.pL,x.pL,x.pH,some ⟨D2,0,none⟩,x.sn,x.sn,fun i=>⟨(x.sS i).p,(t i).1,(t i).2.1,(x.sS i).rs,(t i).2.2.1,(t i).2.2.2,(x.sS i).os,(x.sS i).c⟩,some ⟨D3,0,none⟩,x.wn,x.wn,fun i=>some ⟨b3 i,0,none⟩,x.wL,x.wL,x.wH,some ⟨D4,0,none⟩,x.hn,x.hn,fun i=>some ⟨b4 i,0,none⟩,x.hL,x.hL,x.hH⟩,o.val,?_,rfl,fun i _=>Nat.le_refl _⟩
 have l1:=o.pp.lt
 have l2:=o.ss.lt
 have l3:=o.ww.lt
 have l4:=o.hh.lt
 refine ⟨.inr ⟨D1,0,rfl,by omega,fun i hi=>?_⟩,fun i hi=>⟨b1 i,rfl,zL (o.pp.bd i hi).2 o.pp.le,o.pp.row i hi⟩,⟨.inr ⟨D2,0,rfl,by omega,fun i hi=>?_⟩,fun i hi=>?_⟩,.inr ⟨D3,0,rfl,by omega,fun i hi=>?_⟩,fun i hi=>.inr ⟨b3 i,0,rfl,zL (o.ww.bd i hi).2 o.ww.le,o.ww.row i hi⟩,.inr ⟨D4,0,rfl,by omega,fun i hi=>?_⟩,fun i hi=>.inr ⟨b4 i,0,rfl,zL (o.hh.bd i hi).2 o.hh.le,o.hh.row i hi⟩⟩
 ·have:=o.pp.cel i hi
  simpa using this
 ·have:=(ht i hi).2
  simpa using this
 ·have h4:=o.ss.own i hi
  rw [(ht i hi).1] at h4
  exact ⟨h4.parts.1.slOf,h4.parts.2.1.slOf⟩
 ·have:=o.ww.cel i hi
  simpa using this
 ·have:=o.hh.cel i hi
  simpa using this
theorem SysIn.len_of {x x':SysIn} (hs:x.size<=1048576) (hy:x'.y=x.y):x'.Len:=by
 have l:=SysIn.lens hs
 have e1:x'.pn=x.pn:=congrArg Sy.pn hy
 have e2:x'.pL=x.pL:=congrArg Sy.pL hy
 have e3:x'.sn=x.sn:=congrArg Sy.sn hy
 have e4:x'.sS=x.sS:=congrArg Sy.sS hy
 have e5:x'.wn=x.wn:=congrArg Sy.wn hy
 have e6:x'.wL=x.wL:=congrArg Sy.wL hy
 have e7:x'.hn=x.hn:=congrArg Sy.hn hy
 have e8:x'.hL=x.hL:=congrArg Sy.hL hy
 refine ⟨⟨by omega,fun i hi=>?_⟩,⟨by omega,fun i hi=>?_⟩,⟨by omega,fun i hi=>?_⟩,⟨by omega,fun i hi=>?_⟩⟩
 ·rw [e2]
  exact qer l.1.2 i (by omega)
 ·have h1:=SysIn.lensS hs i (by omega)
  have h2:x'.sS i=x.sS i:=by rw [e4]
  have h3:(x'.sQ i).rs=(x.sQ i).rs:=congrArg S4.rs h2
  have h4:(x'.sQ i).os=(x.sQ i).os:=congrArg S4.os h2
  rw [h3,h4]
  exact h1
 ·rw [e6]
  exact qer l.2.2.1.2 i (by omega)
 ·rw [e8]
  exact qer l.2.2.2.2 i (by omega)
structure Px (W:World) (x:SysIn) (w:World):Prop where
 be:Below W.heap.size W w
 bx:BoxC w W.heap.size (.slice x.pa x.pn x.pc) (.slice x.sa x.sn x.sc) (.slice x.wa x.wn x.wc) (.slice x.ha x.hn x.hc)
 lt:W.heap.size<w.heap.size
theorem Px.below {W:World} {x:SysIn} {w w':World} (h:Px W x w) (hb:Below w.heap.size w w'):Px W x w':=⟨h.be.trans (hb.mono (Nat.le_of_lt h.lt)),h.bx.below hb,zL h.lt hb.size⟩
theorem qdu.g3 {w:World} {lo hi:Nat} {x:SysIn} {v:Value} (o:qdu w lo hi x v):∃ x':SysIn,v=x'.v/\SysG w x'/\x'.y=x.y/\(∀ i,i<x'.hn->x'.hL i<=x'.hC i)/\x'.Nn true:=by
 obtain ⟨D1,D2,D3,D4,b1,vs,b3,b4,h1,h2,h3,o⟩:=o
 obtain ⟨q1,q2,q3,q4,-⟩:=o.hi
 have hst:∀ i,i<x.sn->∃ t:Option Addr × Nat × Option Addr × Nat,vs i=stV (x.sS i).p t.1 (x.sS i).rs.length t.2.1 t.2.2.1 (x.sS i).os.length t.2.2.2 (x.sS i).c/\w.cell? ⟨D2,i*4,none⟩=some (.int .i64 (x.sS i).p)/\w.cell? ⟨D2,i*4+1,none⟩=some (.slice t.1 (x.sS i).rs.length t.2.1)/\w.cell? ⟨D2,i*4+2,none⟩=some (.slice t.2.2.1 (x.sS i).os.length t.2.2.2)/\w.cell? ⟨D2,i*4+3,none⟩=some (.int .i64 (x.sS i).c):=by
  intro i hi
  obtain ⟨ra,rc,oa,oc,e,c0,c1,c2,c3⟩:=o.ss.cel i hi
  exact ⟨(ra,rc,oa,oc),e,c0,c1,c2,c3⟩
 have inh:Inhabited (Option Addr × Nat × Option Addr × Nat):=⟨(none,0,none,0)⟩
 obtain ⟨t,ht⟩:=Go.Deep.choose_lt hst
 refine ⟨⟨some ⟨D1,0,none⟩,x.pn,x.pn,fun i=>some ⟨b1 i,0,none⟩,x.pL,x.pL,x.pH,some ⟨D2,0,none⟩,x.sn,x.sn,fun i=>⟨(x.sS i).p,(t i).1,(t i).2.1,(x.sS i).rs,(t i).2.2.1,(t i).2.2.2,(x.sS i).os,(x.sS i).c⟩,some ⟨D3,0,none⟩,x.wn,x.wn,fun i=>some ⟨b3 i,0,none⟩,x.wL,x.wL,x.wH,some ⟨D4,0,none⟩,x.hn,x.hn,fun i=>some ⟨b4 i,0,none⟩,x.hL,x.hL,x.hH⟩,o.val,?_,rfl,fun i _=>Nat.le_refl _,fun i _=>.inl ⟨b3 i,0,rfl⟩,fun i _=>.inl ⟨b4 i,0,rfl⟩⟩
 have l1:=o.pp.lt
 have l2:=o.ss.lt
 have l3:=o.ww.lt
 have l4:=o.hh.lt
 refine ⟨.inr ⟨D1,0,rfl,by omega,fun i hi=>?_⟩,fun i hi=>⟨b1 i,rfl,zL (o.pp.bd i hi).2 o.pp.le,o.pp.row i hi⟩,⟨.inr ⟨D2,0,rfl,by omega,fun i hi=>?_⟩,fun i hi=>?_⟩,.inr ⟨D3,0,rfl,by omega,fun i hi=>?_⟩,fun i hi=>.inr ⟨b3 i,0,rfl,zL (o.ww.bd i hi).2 o.ww.le,o.ww.row i hi⟩,.inr ⟨D4,0,rfl,by omega,fun i hi=>?_⟩,fun i hi=>.inr ⟨b4 i,0,rfl,zL (o.hh.bd i hi).2 o.hh.le,o.hh.row i hi⟩⟩
 ·have:=o.pp.cel i hi
  simpa using this
 ·have:=(ht i hi).2
  simpa using this
 ·have h4:=o.ss.own i hi
  rw [(ht i hi).1] at h4
  exact ⟨h4.parts.1.slOf,h4.parts.2.1.slOf⟩
 ·have:=o.ww.cel i hi
  simpa using this
 ·have:=o.hh.cel i hi
  simpa using this
theorem BoxC.blkF {w w':World} {N:Nat} {p vr vo code:Value} (h:BoxC w N p vr vo code) (hb:w'.heap[N]? = w.heap[N]?):BoxC w' N p vr vo code:=by
 obtain ⟨h0,h1,h2,h3⟩:=h
 exact ⟨(zH hb).trans h0,(zH hb).trans h1,(zH hb).trans h2,(zH hb).trans h3⟩
theorem BoxC.ltF {w:World} {N:Nat} {p vr vo code:Value} (h:BoxC w N p vr vo code):N<w.heap.size:=zJ w _ h.1
theorem BoxC.touch {w w':World} {N:Nat} {p vr vo code:Value} {P:Nat->Prop} (h:BoxC w N p vr vo code) (t:qac P w w') (hp:¬ P N):BoxC w' N p vr vo code:=h.blkF (t.block N h.ltF hp)
theorem Px.touchF {W:World} {x:SysIn} {w w':World} {P:Nat->Prop} (h:Px W x w) (ht:qac P w w') (hp:∀ b,P b->W.heap.size<b):Px W x w':=
 ⟨h.be.trans (ht.below (Nat.le_of_lt h.lt) fun b e=>by have:=hp b e;omega),h.bx.touch ht fun e=>by have:=hp _ e;omega,zL h.lt ht.size⟩
section
variable {W:World} {x:SysIn} {Y Z:Sy} {x3:SysIn} {N1 T8 lo T10 B4 T11:Nat} {a1 a2 a3 a4 g1 g2 g3 g4:Value} {w w':World}
end
def OwnZ (w:World) (B T:Nat) (y:Sy) (vp vs vw vh:Value):Prop:=∃ c up us uw uh,OwnS false w B c y vp vs vw vh up us uw uh/\∀ b,T<=b->c b=0
theorem OwnZ.of {w:World} {B:Nat} {y:Sy} {v:Value} (o:qbg false w B y v):∃ pa pc sa sc wa wc ha hc,v=sysV pa y.pn pc sa y.sn sc wa y.wn wc ha y.hn hc/\OwnZ w B w.heap.size y (.slice pa y.pn pc) (.slice sa y.sn sc) (.slice wa y.wn wc) (.slice ha y.hn hc):=by
 obtain ⟨c,vp,vs,vw,vh,up,us,uw,uh,rfl,o⟩:=o
 obtain ⟨pa,pc,rfl⟩:=zU o.p.row
 obtain ⟨sa,sc,rfl⟩:=zU o.s.row
 obtain ⟨wa,wc,rfl⟩:=zU o.t.row
 obtain ⟨ha,hc,rfl⟩:=zU o.h.row
 exact ⟨pa,pc,sa,sc,wa,wc,ha,hc,rfl,_,up,us,uw,uh,o.recol 0,fun b hb=>qah hb⟩
theorem OwnZ.below {w w':World} {B T:Nat} {y:Sy} {vp vs vw vh:Value} (o:OwnZ w B T y vp vs vw vh) (hb:Below w.heap.size w w'):OwnZ w' B T y vp vs vw vh:=by
 obtain ⟨c,up,us,uw,uh,o,h⟩:=o
 exact ⟨c,up,us,uw,uh,o.below hb,h⟩
theorem OwnZ.sys {w:World} {B T:Nat} {y:Sy} {vp vs vw vh:Value} (o:OwnZ w B T y vp vs vw vh):qbg false w B y (.agg #[vp,vs,vw,vh]):=by
 obtain ⟨c,up,us,uw,uh,o,-⟩:=o
 exact ⟨c,vp,vs,vw,vh,up,us,uw,uh,rfl,o⟩
theorem OwnZ.touch {w w':World} {B T:Nat} {y:Sy} {vp vs vw vh:Value} {P:Nat->Prop} (o:OwnZ w B T y vp vs vw vh) (ht:qac P w w') (hp:∀ b,P b->T<=b\/b<B):OwnZ w' B T y vp vs vw vh:=by
 obtain ⟨c,up,us,uw,uh,o,h⟩:=o
 have hk:∀ i,i≠0->∀ k,Cl B c i k->k<w.heap.size->w'.heap[k]? = w.heap[k]?:=fun i hi k hk hl=>ht.block k hl fun e=>by
  rcases hp k e with h1 | h1
  ·exact hi (hk.2.symm.trans (h k h1))
  ·have:=hk.1
   omega
 exact ⟨c,up,us,uw,uh,⟨o.p.keep (hk 1 (by decide)),o.s.keep (hk 2 (by decide)),o.t.keep (hk 3 (by decide)),o.h.keep (hk 4 (by decide))⟩,h⟩
section
variable {W:World} {x:SysIn} {Y Z:Sy} {x3:SysIn} {N1 T8 lo T10 B4 T11:Nat} {a1 a2 a3 a4 g1 g2 g3 g4:Value} {w w':World}
end
section
variable {P:Program} {ops:Array Oper} {Q:Exit->Act->World->Prop} {md:Region.Mode} {S:World->Prop} {G:Nat->Bool}
theorem quy (lst:Bool->Bool->Bool->Bool->Array Bool) (i2 i3 i4 i5:Nat) {o5:Oper} (I:Bool->Bool->Bool->Act->World->Prop) (J:Bool->Act->World->Prop) {f0:Nat}
  (hrd:∀ b c d,(b && c)=false->Region.ready md ops (lst b c d false)=outI b i2 ++ (outI c i3 ++ outI d i4))
  (s2:∀ c d,(lst false c d false).setIfInBounds i2 true=lst true c d false) (s3:∀ b d,(lst b false d false).setIfInBounds i3 true=lst b true d false) (s4:∀ b c e,(lst b c false e).setIfInBounds i4 true=lst b c true e) (s5:∀ d,(lst true true d false).setIfInBounds i5 true=lst true true d true)
  (e5:ops.toList[i5]? = some o5) (hs:Region.noSelect ops=true) (hf:∀ d,Region.free md ops (lst true true d false) i5=true) (hr5:∀ d,(Region.ready md ops (lst true true d false)).contains i5=true) (hrJ:Region.ready md ops (lst true true false true)=[i4]) (hQ:∀ v c a w,Q (.panic c) (a.put o5.dst v) w->Q (.panic c) a w)
  (h2:∀ c d x w,I false c d x w->wpOp P ops Q i2 (fun x' w'=>(S w->G i2=false->S w')/\I true c d x' w') x w)
  (h3:∀ b d x w,I b false d x w->wpOp P ops Q i3 (fun x' w'=>(S w->G i3=false->S w')/\I b true d x' w') x w) (h4:∀ b c x w,I b c false x w->wpOp P ops Q i4 (fun x' w'=>(S w->G i4=false->S w')/\I b c true x' w') x w)
  (h5:∀ d x w,I true true d x w->Region.wanted o5 (yielded ops x.tmps)=true/\∃ v,(∀ w,(execOp x.eval o5).run P w=.ok (.value v) w)/\J d (x.put o5.dst v) w)
  (hJ:∀ x w,J false x w->wpOp P ops Q i4 (fun x' w'=>(S w->G i4=false->S w')/\J true x' w') x w)
  (hend:∀ x w,J true x w->wpG P md ops Q S G f0 (lst true true true true) x w):
  ∀ (m:Nat) (b c d:Bool) (x:Act) (w:World),notB b+notB c+notB d=m->I b c d x w->wpG P md ops Q S G (f0+m+1) (lst b c d false) x w:=by
 intro m
 induction m with
 | zero=>
  intro b c d x w hm hI
  obtain ⟨rfl,rfl,rfl⟩:b=true/\c=true/\d=true:=by
   cases b <;> cases c <;> cases d <;> simp [notB] at hm ⊢
  obtain ⟨hw,v,hv,hj⟩:=h5 _ x w hI
  exact qcz i5 e5 hs (hf _) (hr5 _) hQ hw ⟨v,hv,by rw [s5];exact hend _ _ hj⟩
 | succ m ih=>
  intro b c d x w hm hI
  rcases zK (b && c) with hT | hne
  ·obtain ⟨rfl,rfl⟩:b=true/\c=true:=by
    cases b <;> cases c <;> simp at hT ⊢
   obtain ⟨rfl,rfl⟩:d=false/\m=0:=by
    cases d <;> simp [notB] at hm ⊢ <;> exact hm
   obtain ⟨hw,v,hv,hj⟩:=h5 _ x w hI
   refine qcz i5 e5 hs (hf _) (hr5 _) hQ hw ⟨v,hv,?_⟩
   rw [s5]
   refine ⟨(fun h0=>by rw [hrJ] at h0;cases h0),fun i hi=>?_⟩
   rw [hrJ] at hi
   obtain rfl:=List.mem_singleton.1 hi
   refine wpOp_mono (fun x' w' h=>⟨h.1,?_⟩) (hJ _ _ hj)
   rw [s4]
   exact hend _ _ h.2
  have hr:=hrd b c d hne
  refine ⟨fun h0=>?_,fun i hi=>?_⟩
  ·rw [hr] at h0
   cases b <;> cases c <;> cases d <;> simp [outI] at h0 hne
  ·rw [hr,List.mem_append,List.mem_append] at hi
   rcases hi with hi | hi | hi
   ·obtain ⟨rfl,rfl⟩:=qdn hi
    refine wpOp_mono (fun x' w' h=>⟨h.1,?_⟩) (h2 c d x w hI)
    rw [s2]
    exact ih true c d x' w' (by simp [notB] at hm ⊢;omega) h.2
   ·obtain ⟨rfl,rfl⟩:=qdn hi
    refine wpOp_mono (fun x' w' h=>⟨h.1,?_⟩) (h3 b d x w hI)
    rw [s3]
    exact ih b true d x' w' (by simp [notB] at hm ⊢;omega) h.2
   ·obtain ⟨rfl,rfl⟩:=qdn hi
    refine wpOp_mono (fun x' w' h=>⟨h.1,?_⟩) (h4 b c x w hI)
    rw [s4]
    exact ih b c true x' w' (by simp [notB] at hm ⊢;omega) h.2
end
theorem OwnI.sl {w:World} {B:Nat} {a0:Option Addr} {cap:Nat} {xs:List Int} (h:OwnI w B (.slice a0 xs.length cap) xs):Sl w a0 xs:=by
 obtain ⟨a1,c1,e,s⟩:=h.form
 simp only [Value.slice.injEq] at e
 obtain ⟨rfl,-,-⟩:=e
 exact s
theorem OwnI.touch {w w':World} {B:Nat} {v:Value} {xs:List Int} {P:Nat->Prop} (o:OwnI w B v xs) (ht:qac P w w') (hp:∀ g,v.ownBlock=some g->¬ P g):OwnI w' B v xs:=o.blk fun k hk=>ht.block k (o.lt k hk).2 (hp k hk)
theorem Px.touch {W:World} {x:SysIn} {w w':World} {P:Nat->Prop} (h:Px W x w) (ht:qac P w w') (hp:∀ b,P b->W.heap.size<b):Px W x w':=by
 have hc:∀ i,w'.cell? ⟨W.heap.size,i,none⟩=w.cell? ⟨W.heap.size,i,none⟩:=fun i=>ht.cell h.lt (fun e=>by have:=hp _ e;omega) i
 obtain ⟨h0,h1,h2,h3⟩:=h.bx
 exact ⟨h.be.trans (ht.below (Nat.le_of_lt h.lt) fun b e=>by have:=hp b e;omega),⟨(hc _).trans h0,(hc _).trans h1,(hc _).trans h2,(hc _).trans h3⟩,zL h.lt ht.size⟩
theorem qr3 (x:SysIn) (lo hi:Nat) (v:Value) (w:World) (hs:x.size<=1048576) (o:qdu w lo hi x v):
  Calls Tryz.prog 17 #[v,.int .i64 1] w fun e w'=>(∃ z:Int,e=.returned (.int .i64 z)/\¬ z<0/\z<=30000000)/\qac (fun b=>lo<=b/\b<hi) w w':=by
 obtain ⟨D1,D2,D3,D4,b1,vs,b3,b4,h1,h2,h3,o⟩:=o
 have HS:Hid (x.size<=1048576):=hs
 obtain ⟨q1,q2,q3,q4,-⟩:=o.hi
 have OO:Hid (qp0 w lo hi x v D1 D2 D3 D4 b1 vs b3 b4 h1 h2 h3):=o
 have QQ:Hid (h1<=hi/\h2<=hi/\h3<=hi/\hi<=w.heap.size):=⟨q1,q2,q3,q4⟩
 obtain ⟨rfl,p1,s1,w1,i1,y1,y2,y3,y4⟩:=o
 have Y:Hid (lo<=D1/\h1<=D2/\h2<=D3/\h3<=D4/\D1<h1/\D2<h2/\D3<h3/\D4<hi):=⟨y1,y2,y3,y4,p1.lt,s1.lt,w1.lt,i1.lt⟩
 have P1:Hid (qbo w D1 h1 x.pn x.pL b1 x.pH):=p1
 have S1:Hid (qax w D2 h2 x.sn x.sS vs):=s1
 have W1:Hid (qba w D3 h3 x.wn x.wL b3 x.wH):=w1
 have I1:Hid (qaz w D4 hi x.hn x.hL b4 x.hH):=i1
 clear p1 s1 w1 i1 y1 y2 y3 y4 q1 q2 q3 q4 hs OO
 have X0:Hid (MkY w (w.alloc (oQ4 (some ⟨D1,0,none⟩) x.pn x.pn (some ⟨D2,0,none⟩) x.sn x.sn (some ⟨D3,0,none⟩) x.wn x.wn (some ⟨D4,0,none⟩) x.hn x.hn)) lo hi D1 D2 D3 D4 x):=⟨qac.of_below (qat _ _),BoxC.new w (.slice (some ⟨D1,0,none⟩) x.pn x.pn) (.slice (some ⟨D2,0,none⟩) x.sn x.sn) (.slice (some ⟨D3,0,none⟩) x.wn x.wn) (.slice (some ⟨D4,0,none⟩) x.hn x.hn) 36,by simp⟩
 have BA:Hid (Below w.heap.size w (w.alloc (oQ4 (some ⟨D1,0,none⟩) x.pn x.pn (some ⟨D2,0,none⟩) x.sn x.sn (some ⟨D3,0,none⟩) x.wn x.wn (some ⟨D4,0,none⟩) x.hn x.hn))):=qat _ _
 go_enter Tryz.func17,Tryz.ntmps17
 go_wp2_with fail
 generalize w.alloc (oQ4 (some ⟨D1,0,none⟩) x.pn x.pn (some ⟨D2,0,none⟩) x.sn x.sn (some ⟨D3,0,none⟩) x.wn x.wn (some ⟨D4,0,none⟩) x.hn x.hn)=wA at *
 refine (qkj D1 h1 x.pn x.pn x.pL b1 x.pH 1 wA (SysIn.lens HS.out).1.1 (SysIn.lens HS.out).1.2 (by omega) (by omega) (P1.out.below BA.out (by have:=QQ.out;omega))).mono ?_
 rintro e w1 ⟨rfl,t1⟩
 have X1:Hid (MkY w w1 lo hi D1 D2 D3 D4 x):=X0.out.step (by have:=QQ.out;omega) t1 fun b hb=>by have:=QQ.out;have:=Y.out;omega
 have KS:Hid (qax w1 D2 h2 x.sn x.sS vs):=(S1.out.below BA.out (by have:=QQ.out;omega)).keep t1.size fun k hk1 hk2=>t1.block k (by have:=BA.out.size;have:=QQ.out;omega) (fun e=>by have:=Y.out;omega)
 have KW:Hid (qba w1 D3 h3 x.wn x.wL b3 x.wH):=(W1.out.below BA.out (by have:=QQ.out;omega)).keep t1.size fun k hk1 hk2=>t1.block k (by have:=BA.out.size;have:=QQ.out;omega) (fun e=>by have:=Y.out;omega)
 have KI:Hid (qaz w1 D4 hi x.hn x.hL b4 x.hH):=(I1.out.below BA.out (by have:=QQ.out;omega)).keep t1.size fun k hk1 hk2=>t1.block k (by have:=BA.out.size;have:=QQ.out;omega) (fun e=>by have:=Y.out;omega)
 have z1:0<=(1:Int)+5*(sumL x.pL x.pn:Nat)/\(1:Int)+5*(sumL x.pL x.pn:Nat)<=6000000:=by have:=(SysIn.lens HS.out).1.2;omega
 generalize (1:Int)+5*(sumL x.pL x.pn:Nat)=Z1 at *
 have HZ1:Hid (0<=Z1/\Z1<=6000000):=z1
 clear t1 X0 P1 S1 W1 I1 BA z1
 obtain ⟨-,⟨p0,p1,p2,p3⟩,lt⟩:=X1.out
 go_wp2_with fail
 clear p0 p1 p2 p3 lt
 refine (qi0 D2 h2 x.sn x.sn x.sS vs Z1 w1 (SysIn.lens HS.out).2.1.1 (SysIn.lens HS.out).2.1.2 HZ1.out.1 (by have:=HZ1.out;omega) KS.out).mono ?_
 rintro e w2 ⟨rfl,t2⟩
 have X2:Hid (MkY w w2 lo hi D1 D2 D3 D4 x):=X1.out.step (by have:=QQ.out;omega) t2 fun b hb=>by have:=QQ.out;have:=Y.out;omega
 have KW2:Hid (qba w2 D3 h3 x.wn x.wL b3 x.wH):=KW.out.keep t2.size fun k hk1 hk2=>t2.block k (zL hk2 KW.out.le) (fun e=>by have:=Y.out;omega)
 have KI2:Hid (qaz w2 D4 hi x.hn x.hL b4 x.hH):=KI.out.keep t2.size fun k hk1 hk2=>t2.block k (zL hk2 KI.out.le) (fun e=>by have:=Y.out;omega)
 have z2:0<=Z1+(2*x.sn+sumL (lenS x.sS) x.sn:Nat)/\Z1+(2*x.sn+sumL (lenS x.sS) x.sn:Nat)<=12000000:=by have:=(SysIn.lens HS.out).2.1;have:=HZ1.out;omega
 generalize Z1+(2*x.sn+sumL (lenS x.sS) x.sn:Nat)=Z2 at *
 have HZ2:Hid (0<=Z2/\Z2<=12000000):=z2
 clear t2 X1 KS KW KI z2 HZ1
 obtain ⟨-,⟨p0,p1,p2,p3⟩,lt⟩:=X2.out
 go_wp2_with fail
 clear p0 p1 p2 p3 lt
 refine (qiz D3 h3 x.wn x.wn x.wL b3 x.wH Z2 w2 (SysIn.lens HS.out).2.2.1.1 (SysIn.lens HS.out).2.2.1.2 HZ2.out.1 (by have:=HZ2.out;omega) KW2.out).mono ?_
 rintro e w3 ⟨rfl,t3⟩
 have X3:Hid (MkY w w3 lo hi D1 D2 D3 D4 x):=X2.out.step (by have:=QQ.out;omega) t3 fun b hb=>by have:=QQ.out;have:=Y.out;omega
 have KI3:Hid (qaz w3 D4 hi x.hn x.hL b4 x.hH):=KI2.out.keep t3.size fun k hk1 hk2=>t3.block k (zL hk2 KI2.out.le) (fun e=>by have:=Y.out;omega)
 have z3:0<=Z2+2*(sumL x.wL x.wn:Nat)/\Z2+2*(sumL x.wL x.wn:Nat)<=18000000:=by have:=(SysIn.lens HS.out).2.2.1;have:=HZ2.out;omega
 generalize Z2+2*(sumL x.wL x.wn:Nat)=Z3 at *
 have HZ3:Hid (0<=Z3/\Z3<=18000000):=z3
 clear t3 X2 KW2 KI2 z3 HZ2
 obtain ⟨-,⟨p0,p1,p2,p3⟩,lt⟩:=X3.out
 go_wp2_with fail
 clear p0 p1 p2 p3 lt
 refine (qh1 D4 hi x.hn x.hn x.hL b4 x.hH Z3 w3 (SysIn.lens HS.out).2.2.2.1 (SysIn.lens HS.out).2.2.2.2 HZ3.out.1 (by have:=HZ3.out;omega) KI3.out).mono ?_
 rintro e w4 ⟨rfl,t4⟩
 have X4:Hid (MkY w w4 lo hi D1 D2 D3 D4 x):=X3.out.step (by have:=QQ.out;omega) t4 fun b hb=>by have:=QQ.out;have:=Y.out;omega
 have HZ4:Hid (¬ Z3+3*(sumL x.hL x.hn:Nat)<0/\Z3+3*(sumL x.hL x.hn:Nat)<=30000000):=by
  show ¬ Z3+3*(sumL x.hL x.hn:Nat)<0/\Z3+3*(sumL x.hL x.hn:Nat)<=30000000
  have:=HZ3.out
  have:=(SysIn.lens HS.out).2.2.2.2
  omega
 generalize Z3+3*(sumL x.hL x.hn:Nat)=Z4 at *
 clear t4 X3 KI3 HZ3
 go_wp2
 go_ret
 exact ⟨⟨_,rfl,HZ4.out⟩,X4.out.tch⟩
