import Derived.Test.YtkchlgmeinfeaaaGreatDoorMn9
namespace Go.Proofs.YtkchlgmeinfeaaaGreatDoor
open Go.Proofs.Tryz
open Go.ChangeShapes Go.WideShapes Go.ChangeAt Go.RowKit Go.Deep
structure I2 where
 m:Bool
 v:Int
abbrev itV (m:Bool) (v:Int):Value:=.agg #[.bool m,iV v]
def ItAt (w:World) (b off len:Nat) (h:Nat->I2):Prop:=∀ i,i<len->
 w.cell? ⟨b,off+i*2,none⟩=some (.bool (h i).m)/\w.cell? ⟨b,off+i*2+1,none⟩=some (iV (h i).v)
theorem ItAt.bw {w w':World} {B b off len:Nat} {h:Nat->I2} (hh:ItAt w b off len h) (hb:Below B w w') (hB:b<B):ItAt w' b off len h:=by
 intro i hi;obtain ⟨h0,h1⟩:=hh i hi;exact ⟨(hb.cell hB).trans h0,(hb.cell hB).trans h1⟩
def sumL (ls:Nat->Nat):Nat->Nat
 | 0=>0
 | n+1=>sumL ls n+ls n
def RowS (w:World) (a0:Option Addr) (n:Nat) (f:Nat->Value):Prop:=
 n=0\/∃ b off,a0=some ⟨b,off,none⟩/\b<w.heap.size/\∀ i,i<n->w.cell? ⟨b,off+i,none⟩=some (f i)
theorem RowS.bw {w w':World} {a0:Option Addr} {n:Nat} {f:Nat->Value} (h:RowS w a0 n f) (hb:Bw w w'):RowS w' a0 n f:=by
 rcases h with h | ⟨b,off,e,hlt,hc⟩
 ·exact .inl h
 ·exact .inr ⟨b,off,e,zL hlt hb.size,fun i hi=>(hb.cell (p:=⟨b,off+i,none⟩) hlt).trans (hc i hi)⟩
theorem RowS.at {w:World} {a0:Option Addr} {n:Nat} {f:Nat->Value} (h:RowS w a0 n f) {k:Nat} (hk:k<n):∃ b off,a0=some (aQ b off)/\w.cell? ⟨b,off+k,none⟩=some (f k):=by
 rcases h with rfl | ⟨b,off,e,-,hc⟩
 ·omega
 ·exact ⟨b,off,e,hc k hk⟩
structure qap (P:Nat->Prop) (w w':World):Prop where
 os:w'.os=w.os
 tape:w'.tape=w.tape
 output:w'.output=w.output
 size:w.heap.size<=w'.heap.size
 block:∀ k,k<w.heap.size->¬ P k->w'.heap[k]? = w.heap[k]?
theorem qap.refl (P:Nat->Prop) (w:World):qap P w w:=⟨rfl,rfl,rfl,nA _,fun _ _ _=>rfl⟩
theorem qap.trans {P:Nat->Prop} {a b c:World} (h:qap P a b) (k:qap P b c):qap P a c:=
 ⟨k.os.trans h.os,k.tape.trans h.tape,k.output.trans h.output,zP h.size k.size,fun i hi hn=>(k.block i (zL hi h.size) hn).trans (h.block i hi hn)⟩
theorem qap.mono {P Q:Nat->Prop} {w w':World} (h:qap P w w') (hq:∀ k,P k->Q k):qap Q w w':=
 ⟨h.os,h.tape,h.output,h.size,fun k hk hn=>h.block k hk fun hp=>hn (hq k hp)⟩
theorem qap.of_below {P:Nat->Prop} {w w':World} (h:Bw w w'):qap P w w':=
 ⟨h.os,h.tape,h.output,h.size,fun k hk _=>h.block k hk⟩
theorem qap.of_set {P:Nat->Prop} (w:World) {a:Addr} (ha:P a.block) (u:Value):qap P w (w.setCell a u):=
 ⟨rfl,rfl,rfl,by simp [World.setCell],fun k _ hn=>zO _ _ _ _ fun e=>hn (e ▸ ha)⟩
theorem qap.bw {P:Nat->Prop} {w w':World} {B:Nat} (h:qap P w w') (hB:B<=w.heap.size) (hp:∀ k,P k->B<=k):Below B w w':=
 ⟨h.os,h.tape,h.output,h.size,fun k hk=>h.block k (by omega) fun e=>by have:=hp k e;omega⟩
theorem qap.cell {P:Nat->Prop} {w w':World} (h:qap P w w') {b:Nat} (hb:b<w.heap.size) (hp:¬ P b) (j:Nat):w'.cell? (aQ b j)=w.cell? (aQ b j):=zH (h.block b hb hp)
theorem qap.frozen {P:Nat->Prop} {w w':World} (h:qap P w w') {b:Nat} (hb:b<w.heap.size) (hp:¬ P b) (j:Nat):w'.frozen? (aQ b j)=w.frozen? (aQ b j):=zI (h.block b hb hp)
structure St8 where
 p:Int
 ra:Option Addr
 rc:Nat
 rs:List Int
 oa:Option Addr
 oc:Nat
 os:List Int
 c:Int
def St8.s (x:St8):S4:=⟨x.p,x.rs,x.os,x.c⟩
def lenS (S:Nat->S4) (i:Nat):Nat:=(S i).rs.length+(S i).os.length
structure qdo (W:World) (a0:Option Addr) (n:Nat) (q:Nat->St8):Prop where
 row:n=0\/∃ b off,a0=some ⟨b,off,none⟩/\b<W.heap.size/\∀ i,i<n->W.cell? ⟨b,off+i*4,none⟩=some (iV (q i).p)/\W.cell? ⟨b,off+i*4+1,none⟩=some (.slice (q i).ra (q i).rs.length (q i).rc)/\W.cell? ⟨b,off+i*4+2,none⟩=some (.slice (q i).oa (q i).os.length (q i).oc)/\W.cell? ⟨b,off+i*4+3,none⟩=some (iV (q i).c)
 lst:∀ i,i<n->Sl W (q i).ra (q i).rs/\Sl W (q i).oa (q i).os
theorem qdo.bw {w w':World} {a0:Option Addr} {n:Nat} {q:Nat->St8} (h:qdo w a0 n q) (hb:Bw w w'):qdo w' a0 n q:=by
 refine ⟨?_,fun i hi=>⟨(h.lst i hi).1.bw hb,(h.lst i hi).2.bw hb⟩⟩
 rcases h.row with h | ⟨b,off,e,hlt,hc⟩
 ·exact .inl h
 ·exact .inr ⟨b, off, e, Nat.lt_of_lt_of_le hlt hb.size, fun i hi => by
   obtain ⟨h0,h1,h2,h3⟩:=hc i hi
   exact ⟨(hb.cell hlt).trans h0,(hb.cell hlt).trans h1,(hb.cell hlt).trans h2,(hb.cell hlt).trans h3⟩⟩
theorem qdo.at {w:World} {a0:Option Addr} {n:Nat} {q:Nat->St8} (h:qdo w a0 n q) {k:Nat} (hk:k<n):∃ b off,a0=some (aQ b off)/\w.cell? ⟨b,off+k*4,none⟩=some (iV (q k).p)/\w.cell? ⟨b,off+k*4+1,none⟩=some (.slice (q k).ra (q k).rs.length (q k).rc)/\w.cell? ⟨b,off+k*4+2,none⟩=some (.slice (q k).oa (q k).os.length (q k).oc)/\w.cell? ⟨b,off+k*4+3,none⟩=some (iV (q k).c):=by
 rcases h.row with rfl | ⟨b,off,e,-,hc⟩
 ·omega
 ·exact ⟨b,off,e,hc k hk⟩
def EvL (w:World) (a:Option Addr) (len:Nat) (h:Nat->E3):Prop:=len=0\/∃ b off,a=some (aQ b off)/\b<w.heap.size/\EvAt w b off len h
theorem EvL.bw {w w':World} {a:Option Addr} {len:Nat} {h:Nat->E3} (hh:EvL w a len h) (hb:Bw w w'):EvL w' a len h:=by
 rcases hh with e | ⟨b,off,e,hlt,hc⟩
 ·exact .inl e
 ·exact .inr ⟨b,off,e,zL hlt hb.size,hc.bw hb hlt⟩
theorem EvL.at {w:World} {a:Option Addr} {len:Nat} {h:Nat->E3} (hh:EvL w a len h) {k:Nat} (hk:k<len):∃ b off,a=some (aQ b off)/\b<w.heap.size/\w.cell? ⟨b,off+k*3,none⟩=some (iV (h k).k)/\w.cell? ⟨b,off+k*3+1,none⟩=some (iV (h k).q)/\w.cell? ⟨b,off+k*3+2,none⟩=some (iV (h k).v):=by
 rcases hh with rfl | ⟨b,off,e,hlt,hc⟩
 ·omega
 ·exact ⟨b,off,e,hlt,hc k hk⟩
theorem EvL.take {w:World} {a:Option Addr} {len:Nat} {h:Nat->E3} (hh:EvL w a len h) {k:Nat} (hk:k<=len):EvL w a k h:=by
 rcases hh with rfl | ⟨b,off,e,hlt,hc⟩
 ·exact .inl (by omega)
 ·exact .inr ⟨b,off,e,hlt,fun i hi=>hc i (by omega)⟩
theorem EvL.one {w:World} {b off len:Nat} {h:Nat->E3} (hh:EvL w (some (aQ b off)) len h) {k:Nat} (hk:k<len):EvAt w b off len h/\b<w.heap.size:=by
 rcases hh with rfl | ⟨b',off',e,hlt,hc⟩
 ·omega
 ·simp only [nG,Addr.mk.injEq] at e
  obtain ⟨rfl,rfl,-⟩:=e;exact ⟨hc,hlt⟩
open Go
section
variable {P:Program} {ops:Array Oper} {Q:Exit->Act->World->Prop} {md:Region.Mode} {S:World->Prop} {G:Nat->Bool}
def wpG (P:Program) (md:Region.Mode) (ops:Array Oper) (Q:Exit->Act->World->Prop) (S:World->Prop) (G:Nat->Bool):Nat->Array Bool->Act->World->Prop
 | 0,listed,a,w=>Region.ready md ops listed=[]/\Q .normal a w
 | fuel+1,listed,a,w=>(Region.ready md ops listed=[]->Q .normal a w)/\∀ i ∈ Region.ready md ops listed,wpOp P ops Q i (fun a' w'=>(S w->G i=false->S w')/\wpG P md ops Q S G fuel (listed.setIfInBounds i true) a' w') a w
theorem qiw:∀ (fuel:Nat) (listed:Array Bool) (a:Act) (w:World),wpG P md ops Q S G fuel listed a w->wpAny P md ops Q fuel listed a w
 | 0,_,_,_,h=>h
 | fuel+1,_,_,_,h=>⟨h.1,fun i hi=>wpOp_mono (fun a' w' h'=>qiw fuel _ a' w' h'.2) (h.2 i hi)⟩
def qsj (md:Region.Mode) (ops:Array Oper) (G:Nat->Bool) (listed:Array Bool) (i:Nat):Bool:=
 (List.range ops.size).all fun j=>!G j || listed.getD j true || match ops[j]? with
  | some oj=>oj.after.any fun e=>Region.binds md e && e.on == i
  | none=>true
theorem qp4 {listed:Array Bool} {i:Nat} (h:qsj md ops G listed i=true) {j:Nat} {oj:Oper} (hj:ops[j]? = some oj) (hg:G j=true) (hu:listed.getD j true=false):∃ e ∈ oj.after,Region.binds md e=true/\e.on=i:=by
 simp only [qsj,List.all_eq_true,List.mem_range] at h;have h1:=h j (Array.getElem?_eq_some_iff.1 hj).1;simp only [hj,hg,hu,Bool.not_true,Bool.false_or] at h1;obtain ⟨e,he,hb⟩:=Array.any_eq_true'.1 h1;simp only [nH,beq_iff_eq] at hb;exact ⟨e,he,hb.1,hb.2⟩
theorem qsn {i:Nat} {oi:Oper} {v:Value} (hi:ops[i]? = some oi) (hsel:∀ (j:Nat) (o:Oper) cs b,ops[j]? = some o->o.op≠.select cs b)
  (hQ:∀ c a w,Q (.panic c) (a.put oi.dst v) w->Q (.panic c) a w):
  ∀ (fuel:Nat) (listed:Array Bool) (a:Act) (w:World),
   (∀ j oj,ops[j]? = some oj->j≠i->listed.getD j true=false->(∀ e ∈ oj.after,Region.binds md e=true->e.on≠i)->oi.apart ops oj=true)->
   (∀ j oj,ops[j]? = some oj->G j=true->listed.getD j true=false->∃ e ∈ oj.after,Region.binds md e=true/\e.on=i)->
   i ∈ Region.ready md ops listed->YieldsIf P ops S oi v a->S w->
   wpG P md ops Q S G fuel (listed.setIfInBounds i true) (a.put oi.dst v) w->wpG P md ops Q S G (fuel+1) listed a w:=by
 intro fuel
 induction fuel with
 | zero=>
  intro listed a w _ _ hr hy hS H;refine ⟨fun h=>(by rw [h] at hr;cases hr),fun j hj=>?_⟩;by_cases hji:j=i
  ·subst hji
   exact hy.wpOp hi hS ⟨fun _ _=>hS,H⟩
  ·have:=ready_mono hj hji
   rw [H.1] at this;cases this
 | succ fuel ih=>
  intro listed a w hfree hG hr hy hS H;refine ⟨fun h=>(by rw [h] at hr;cases hr),fun j hj=>?_⟩;by_cases hji:j=i
  ·subst hji
   exact hy.wpOp hi hS ⟨fun _ _=>hS,H⟩
  ·obtain ⟨hjun,oj,hoj,hall⟩:=mem_ready.1 hj
   have hiun:=(mem_ready.1 hr).1
   have hnot:∀ e ∈ oj.after,Region.binds md e=true->e.on≠i:=fun e he hb heq=>by
    have h1:=hall e he hb;rw [heq] at h1
    rcases Nat.lt_or_ge i listed.size with h' | h'
    ·simp [h'] at hiun h1
     rw [hiun] at h1;cases h1
    ·simp [Array.getElem?_eq_none h'] at h1
   have hGj:G j=false:=by
    cases hg:G j with
    | false=>rfl
    | true=>
     obtain ⟨e,he,hb,heq⟩:=hG j oj hoj hg hjun;exact absurd heq (hnot e he hb)
   have h2:=wpOp_putIf hoj (hfree j oj hoj hji hjun hnot) (fun cs b=>hsel i oi cs b hi) (fun cs b=>hsel j oj cs b hoj) hQ hy (H.2 j (ready_mono hj hji))
   have hun':∀ k,(listed.setIfInBounds j true).getD k true=false->listed.getD k true=false:=fun k hk=>by
    by_cases hjk:j=k
    ·subst hjk
     exact hjun
    ·rw [_root_.Go.getD_set_ne true hjk] at hk
     exact hk
   refine wpOp_mono (fun a' w' h3=>⟨h3.2.1,ih (listed.setIfInBounds j true) a' w' (fun k ok hk hki hun hno=>hfree k ok hk hki (hun' k hun) hno) (fun k ok hk hg hun=>hG k ok hk hg (hun' k hun)) (ready_mono hr (Ne.symm hji)) h3.1 (h3.2.1 hS hGj) ?_⟩) h2;rw [Array.setIfInBounds_comm _ _ hji];exact h3.2.2
theorem qp7 {i:Nat} {oi:Oper} {v:Value} (hi:ops[i]? = some oi) (hsel:∀ (j:Nat) (o:Oper) cs b,ops[j]? = some o->o.op≠.select cs b)
  (hQ:∀ c a w,Q (.panic c) (a.put oi.dst v) w->Q (.panic c) a w):
  ∀ (fuel:Nat) (listed:Array Bool) (a:Act) (w:World),
   (∀ j oj,ops[j]? = some oj->j≠i->listed.getD j true=false->(∀ e ∈ oj.after,Region.binds md e=true->e.on≠i)->oi.apart ops oj=true)->
   i ∈ Region.ready md ops listed->YieldsIf P ops (fun _=>True) oi v a->
   wpG P md ops Q S G fuel (listed.setIfInBounds i true) (a.put oi.dst v) w->wpG P md ops Q S G (fuel+1) listed a w:=by
 intro fuel
 induction fuel with
 | zero=>
  intro listed a w _ hr hy H;refine ⟨fun h=>(by rw [h] at hr;cases hr),fun j hj=>?_⟩;by_cases hji:j=i
  ·subst hji
   exact hy.wpOp hi trivial ⟨fun h _=>h,H⟩
  ·have:=ready_mono hj hji
   rw [H.1] at this;cases this
 | succ fuel ih=>
  intro listed a w hfree hr hy H;refine ⟨fun h=>(by rw [h] at hr;cases hr),fun j hj=>?_⟩;by_cases hji:j=i
  ·subst hji
   exact hy.wpOp hi trivial ⟨fun h _=>h,H⟩
  ·obtain ⟨hjun,oj,hoj,hall⟩:=mem_ready.1 hj
   have hiun:=(mem_ready.1 hr).1
   have hnot:∀ e ∈ oj.after,Region.binds md e=true->e.on≠i:=fun e he hb heq=>by
    have h1:=hall e he hb;rw [heq] at h1
    rcases Nat.lt_or_ge i listed.size with h' | h'
    ·simp [h'] at hiun h1
     rw [hiun] at h1;cases h1
    ·simp [Array.getElem?_eq_none h'] at h1
   have h2:=wpOp_putIf hoj (hfree j oj hoj hji hjun hnot) (fun cs b=>hsel i oi cs b hi) (fun cs b=>hsel j oj cs b hoj) hQ hy (H.2 j (ready_mono hj hji))
   have hun':∀ k,(listed.setIfInBounds j true).getD k true=false->listed.getD k true=false:=fun k hk=>by
    by_cases hjk:j=k
    ·subst hjk
     exact hjun
    ·rw [_root_.Go.getD_set_ne true hjk] at hk
     exact hk
   refine wpOp_mono (fun a' w' h3=>⟨h3.2.1,ih (listed.setIfInBounds j true) a' w' (fun k ok hk hki hun hno=>hfree k ok hk hki (hun' k hun) hno) (ready_mono hr (Ne.symm hji)) h3.1 ?_⟩) h2;rw [Array.setIfInBounds_comm _ _ hji];exact h3.2.2
theorem qdm (i:Nat) {oi:Oper} {fuel:Nat} {listed:Array Bool} {a:Act} {w:World} (hi0:ops.toList[i]? = some oi) (hs:Region.noSelect ops=true) (hf:Region.free md ops listed i=true) (hr:(Region.ready md ops listed).contains i=true)
  (hQ:∀ v c a w,Q (.panic c) (a.put oi.dst v) w->Q (.panic c) a w) (hw:Region.wanted oi (yielded ops a.tmps)=true)
  (h:∃ v,(∀ w,(execOp a.eval oi).run P w=.ok (.value v) w)/\wpG P md ops Q S G fuel (listed.setIfInBounds i true) (a.put oi.dst v) w):wpG P md ops Q S G (fuel+1) listed a w:=by
 obtain ⟨v,hv,h⟩:=h;have hi:ops[i]? = some oi:=by rw [<- Array.getElem?_toList];exact hi0
 exact qp7 hi (Region.noSelect_spec hs) (hQ v) fuel listed a w (Region.free_spec hi hf) (by simpa using hr) (.inl ⟨hw,fun w _=>hv w⟩) h
theorem qcv (i:Nat) {oi:Oper} {fuel:Nat} {listed:Array Bool} {a:Act} {w:World} (hi0:ops.toList[i]? = some oi) (hS:S w)
  (h:∃ v,(∀ w,S w->(execOp a.eval oi).run P w=.ok (.value v) w)/\wpG P md ops Q S G fuel (listed.setIfInBounds i true) (a.put oi.dst v) w) (hs:Region.noSelect ops=true:=by kernel_rfl) (hf:Region.free md ops listed i=true:=by kernel_rfl) (hr:(Region.ready md ops listed).contains i=true:=by kernel_rfl) (hg:qsj md ops G listed i=true:=by kernel_rfl)
  (hQ:∀ v c a w,Q (.panic c) (a.put oi.dst v) w->Q (.panic c) a w:=by exact fun _ _ _ _ h=>h) (hw:Region.wanted oi (yielded ops a.tmps)=true:=by rfl):wpG P md ops Q S G (fuel+1) listed a w:=by
 obtain ⟨v,hv,h⟩:=h;have hi:ops[i]? = some oi:=by rw [<- Array.getElem?_toList];exact hi0
 exact qsn hi (Region.noSelect_spec hs) (hQ v) fuel listed a w (Region.free_spec hi hf) (fun j oj hj hgj hu=>qp4 hg hj hgj hu) (by simpa using hr) (.inl ⟨hw,hv⟩) hS h
theorem qbn (i:Nat) {oi:Oper} {fuel:Nat} {listed listed':Array Bool} {a a':Act} {w:World} {v:Value} (hi0:ops.toList[i]? = some oi) (hS:S w)
  (h:wpG P md ops Q S G fuel listed' a' w) (hv:∀ w,S w->(execOp a.eval oi).run P w=.ok (.value v) w:=by (intro wq hSw;(try dsimp only at hSw);(try dsimp only [SysIn.bX] at hSw);(try dsimp only [BoxC] at hSw);(try simp only [BoxS] at hSw);(try simp only [BoxF_iff] at hSw);go_simp;try with_reducible rfl)) (ha:a.put oi.dst v=a':=by ((try simp only [Act.put,zD,zE,zF]);try with_reducible rfl)) (hl:listed.setIfInBounds i true=listed':=by with_reducible rfl) (hs:Region.noSelect ops=true:=by kernel_rfl) (hf:Region.free md ops listed i=true:=by kernel_rfl) (hr:(Region.ready md ops listed).contains i=true:=by kernel_rfl) (hg:qsj md ops G listed i=true:=by kernel_rfl)
  (hQ:∀ v c a w,Q (.panic c) (a.put oi.dst v) w->Q (.panic c) a w:=by exact fun _ _ _ _ h=>h) (hw:Region.wanted oi (yielded ops a.tmps)=true:=by rfl):wpG P md ops Q S G (fuel+1) listed a w:=by
 subst ha hl;exact qcv i hi0 hS ⟨v,hv,h⟩ hs hf hr hg hQ hw
def wpGT (P:Program) (md:Region.Mode) (ops:Array Oper) (Q:Exit->Act->World->Prop) (S:World->Prop) (G:Nat->Bool) (_:List Nat) (fuel:Nat) (listed:Array Bool) (a:Act) (w:World):Prop:=wpG P md ops Q S G fuel listed a w
theorem qa0 (is:List Nat) {fuel:Nat} {listed:Array Bool} {a:Act} {w:World} (h:wpGT P md ops Q S G is fuel listed a w):wpG P md ops Q S G fuel listed a w:=h
theorem qav {fuel:Nat} {listed:Array Bool} {a:Act} {w:World} (h:wpG P md ops Q S G fuel listed a w):wpGT P md ops Q S G [] fuel listed a w:=h
theorem qba {i:Nat} {is:List Nat} {oi:Oper} {fuel:Nat} {listed listed':Array Bool} {a a':Act} {w:World} {v:Value} (hi0:ops.toList[i]? = some oi) (hS:S w)
  (h:wpGT P md ops Q S G is fuel listed' a' w) (hv:∀ w,S w->(execOp a.eval oi).run P w=.ok (.value v) w:=by (intro wq hSw;(try dsimp only at hSw);(try dsimp only [SysIn.bX] at hSw);(try dsimp only [BoxC] at hSw);(try simp only [BoxS] at hSw);(try simp only [BoxF_iff] at hSw);go_simp;try with_reducible rfl)) (ha:a.put oi.dst v=a':=by ((try simp only [Act.put,zD,zE,zF]);try with_reducible rfl)) (hl:listed.setIfInBounds i true=listed':=by with_reducible rfl) (hs:Region.noSelect ops=true:=by kernel_rfl) (hf:Region.free md ops listed i=true:=by kernel_rfl) (hr:(Region.ready md ops listed).contains i=true:=by kernel_rfl) (hg:qsj md ops G listed i=true:=by kernel_rfl)
  (hQ:∀ v c a w,Q (.panic c) (a.put oi.dst v) w->Q (.panic c) a w:=by exact fun _ _ _ _ h=>h) (hw:Region.wanted oi (yielded ops a.tmps)=true:=by rfl):wpGT P md ops Q S G (i :: is) (fuel+1) listed a w:=qbn i hi0 hS h hv ha hl hs hf hr hg hQ hw
theorem qab (i:Nat) {oi:Oper} {fuel:Nat} {listed:Array Bool} {a:Act} {w:World} (hi0:ops.toList[i]? = some oi) (hr:Region.ready md ops listed=[i])
  (h:∀ K':Act->World->Prop,Shut (∀ a w,(G i=false->S w)->wpG P md ops Q S G fuel (listed.setIfInBounds i true) a w->K' a w)->if Region.wanted oi (yielded ops a.tmps)=true then Oper.wp P oi a w K' Q else K' (a.put oi.dst undef) w):wpG P md ops Q S G (fuel+1) listed a w:=
 ⟨fun h0 => (by rw [hr] at h0; cases h0), fun j hj => by
  rw [hr] at hj;obtain rfl:=List.mem_singleton.1 hj;have hi:ops[j]? = some oi:=by rw [<- Array.getElem?_toList];exact hi0
  exact wpOp_step hi fun K' hK=>h K' fun a w h1 h2=>hK a w ⟨fun _=>h1,h2⟩⟩
theorem qh6 (i j:Nat) {oi oj:Oper} {fuel:Nat} {listed:Array Bool} {a:Act} {w:World} (hi0:ops.toList[i]? = some oi) (hj0:ops.toList[j]? = some oj) (hr:Region.ready md ops listed=[i,j])
  (h:∀ K':Act->World->Prop,Shut (∀ a w,(G i=false->S w)->wpG P md ops Q S G fuel (listed.setIfInBounds i true) a w->K' a w)->if Region.wanted oi (yielded ops a.tmps)=true then Oper.wp P oi a w K' Q else K' (a.put oi.dst undef) w)
  (h':∀ K':Act->World->Prop,Shut (∀ a w,(G j=false->S w)->wpG P md ops Q S G fuel (listed.setIfInBounds j true) a w->K' a w)->if Region.wanted oj (yielded ops a.tmps)=true then Oper.wp P oj a w K' Q else K' (a.put oj.dst undef) w):wpG P md ops Q S G (fuel+1) listed a w:=
 ⟨fun h0 => (by rw [hr] at h0; cases h0), fun k hk => by
  rw [hr] at hk;have hi:ops[i]? = some oi:=by rw [<- Array.getElem?_toList];exact hi0
  have hj:ops[j]? = some oj:=by rw [<- Array.getElem?_toList];exact hj0
  rcases List.mem_cons.1 hk with rfl | hk
  ·exact wpOp_step hi fun K' hK=>h K' fun a w h1 h2=>hK a w ⟨fun _=>h1,h2⟩
  ·obtain rfl:=List.mem_singleton.1 hk
   exact wpOp_step hj fun K' hK=>h' K' fun a w h1 h2=>hK a w ⟨fun _=>h1,h2⟩⟩
theorem qas {listed:Array Bool} {a:Act} {w:World} (hr:Region.ready md ops listed=[]) (h:Q .normal a w):∀ fuel,wpG P md ops Q S G fuel listed a w
 | 0=>⟨hr,h⟩
 | _+1=>⟨fun _=>h,by rw [hr];simp⟩
theorem yW (i:Nat) {oi:Oper} {fuel:Nat} {listed:Array Bool} {a:Act} {w:World} (hi0:ops.toList[i]? = some oi)  (h:∀ K':Act->World->Prop,Shut (∀ a w,(G i=false->S w)->wpG P md ops Q S G fuel (listed.setIfInBounds i true) a w->K' a w)->if Region.wanted oi (yielded ops a.tmps)=true then Oper.wp P oi a w K' Q else K' (a.put oi.dst undef) w) (hr:Region.ready md ops listed=[i]:=by kernel_rfl):wpG P md ops Q S G (fuel+1) listed a w:=qab i hi0 hr h
theorem yX {listed:Array Bool} {a:Act} {w:World} (h:Q .normal a w) (f:Nat) (hr:Region.ready md ops listed=[]:=by kernel_rfl):wpG P md ops Q S G f listed a w:=qas hr h f
theorem qah {id:Nat} {a:Act} {w:World} (S:World->Prop) (G:Nat->Bool) (hm:P.follows .mixedOrders=true) (h:wpG P .any ops Q S G ops.size (Array.replicate ops.size false) a w.drew):(Code.region id ops true).wp P Q a w:=
 wp_region_any hm (qiw _ _ _ _ h)
end
theorem qh3 {ops:Array Oper} {o:Oper} {a:Act} {w:World} {K:Act->World->Prop} {Q:Exit->Act->World->Prop} {E:Prop} (hw:Region.wanted o (yielded ops a.tmps)=true) (f:FuncId) (args:Array Operand) (ts:Array TypeId)
  (ho:o.op=.call { callee:=.value (.func f),args:=args,argTypes:=ts }) (vals:Array Value) (hv:args.map a.eval=vals) (hen:∀ vs wx,(callFunc f vs).run prog wx=.ok (.enter f vs) wx) {post:Ending->World->Prop} (hc:Calls prog f vals w post)
  (h:∀ e w',post e w'->∃ v,e=.returned v/\K (a.put o.dst v) w'):
  if Region.wanted o (yielded ops a.tmps)=true then Oper.wp prog o a w K Q else E:=by
 rw [nC hw]
 have hr:(execOp a.eval o).run prog w=.ok (.enter f vals) w:=by
  unfold execOp;simp [ho,resolve,invoke,hv,hen,Act.eval,Deferred.ofValue]
 unfold Oper.wp;rw [hr,Oper.upon_enter];refine hc.mono fun e w' hp=>?_;obtain ⟨v,rfl,hk⟩:=h e w' hp;exact hk
