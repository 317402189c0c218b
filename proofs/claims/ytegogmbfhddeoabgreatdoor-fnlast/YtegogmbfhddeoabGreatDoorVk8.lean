import Derived.Test.YtegogmbfhddeoabGreatDoorVk7
import Derived.Deep.OwnRows
import Derived.OrdersHeld
import Derived.Deep.RegionHeld3
namespace Go.Proofs.YtegogmbfhddeoabGreatDoor
open Go.RowKit Go.Deep
open Go
section
variable {P:Program} {ops:Array Oper} {Q:Exit->Act->World->Prop} {md:Region.Mode} {S:World->Prop} {G:Nat->Bool}
def wpG (P:Program) (md:Region.Mode) (ops:Array Oper) (Q:Exit->Act->World->Prop) (S:World->Prop) (G:Nat->Bool):Nat->Array Bool->Act->World->Prop
 | 0,listed,a,w=>Region.ready md ops listed=[]/\Q .normal a w
 | fuel+1,listed,a,w=>(Region.ready md ops listed=[]->Q .normal a w)/\∀ i ∈ Region.ready md ops listed,wpOp P ops Q i (fun a' w'=>(S w->G i=false->S w')/\wpG P md ops Q S G fuel (listed.setIfInBounds i true) a' w') a w
theorem qio:∀ (fuel:Nat) (listed:Array Bool) (a:Act) (w:World),wpG P md ops Q S G fuel listed a w->wpAny P md ops Q fuel listed a w
 | 0,_,_,_,h=>h
 | fuel+1,_,_,_,h=>⟨h.1,fun i hi=>wpOp_mono (fun a' w' h'=>qio fuel _ a' w' h'.2) (h.2 i hi)⟩
def qp5 (md:Region.Mode) (ops:Array Oper) (G:Nat->Bool) (listed:Array Bool) (i:Nat):Bool:=
 (List.range ops.size).all fun j=>!G j || listed.getD j true || match ops[j]? with
  | some oj=>oj.after.any fun e=>Region.binds md e && e.on == i
  | none=>true
theorem qp6 {listed:Array Bool} {i:Nat} (h:qp5 md ops G listed i=true) {j:Nat} {oj:Oper} (hj:ops[j]? = some oj) (hg:G j=true) (hu:listed.getD j true=false):∃ e ∈ oj.after,Region.binds md e=true/\e.on=i:=by
 simp only [qp5,List.all_eq_true,List.mem_range] at h;have h1:=h j (Array.getElem?_eq_some_iff.1 hj).1;simp only [hj,hg,hu,Bool.not_true,Bool.false_or] at h1;obtain ⟨e,he,hb⟩:=Array.any_eq_true'.1 h1;simp only [Bool.and_eq_true,beq_iff_eq] at hb;exact ⟨e,he,hb.1,hb.2⟩
theorem qsg {i:Nat} {oi:Oper} {v:Value} (hi:ops[i]? = some oi) (hsel:∀ (j:Nat) (o:Oper) cs b,ops[j]? = some o->o.op≠.select cs b)
  (hQ:∀ c a w,Q (.panic c) (a.put oi.dst v) w->Q (.panic c) a w):
  ∀ (fuel:Nat) (listed:Array Bool) (a:Act) (w:World),
   (∀ j oj,ops[j]? = some oj->j≠i->listed.getD j true=false->(∀ e ∈ oj.after,Region.binds md e=true->e.on≠i)->oi.apart ops oj=true)->
   (∀ j oj,ops[j]? = some oj->G j=true->listed.getD j true=false->∃ e ∈ oj.after,Region.binds md e=true/\e.on=i)->
   i ∈ Region.ready md ops listed->YieldsIf P ops S oi v a->S w->
   wpG P md ops Q S G fuel (listed.setIfInBounds i true) (a.put oi.dst v) w->wpG P md ops Q S G (fuel+1) listed a w:=by
 intro fuel
 induction fuel with
 | zero=>
  intro listed a w _ _ hr hy hS H;refine ⟨fun h=>(by rw [h] at hr;cases hr),fun j hj=>?_⟩;by_cases hji:j=i
  ·subst hji
   exact hy.wpOp hi hS ⟨fun _ _=>hS,H⟩
  ·have:=ready_mono hj hji
   rw [H.1] at this;cases this
 | succ fuel ih=>
  intro listed a w hfree hG hr hy hS H;refine ⟨fun h=>(by rw [h] at hr;cases hr),fun j hj=>?_⟩;by_cases hji:j=i
  ·subst hji
   exact hy.wpOp hi hS ⟨fun _ _=>hS,H⟩
  ·obtain ⟨hjun,oj,hoj,hall⟩:=mem_ready.1 hj
   have hiun:=(mem_ready.1 hr).1
   have hnot:∀ e ∈ oj.after,Region.binds md e=true->e.on≠i:=fun e he hb heq=>by
    have h1:=hall e he hb;rw [heq] at h1
    rcases Nat.lt_or_ge i listed.size with h' | h'
    ·simp [h'] at hiun h1
     rw [hiun] at h1;cases h1
    ·simp [Array.getElem?_eq_none h'] at h1
   have hGj:G j=false:=by
    cases hg:G j with
    | false=>rfl
    | true=>
     obtain ⟨e,he,hb,heq⟩:=hG j oj hoj hg hjun;exact absurd heq (hnot e he hb)
   have h2:=wpOp_putIf hoj (hfree j oj hoj hji hjun hnot) (fun cs b=>hsel i oi cs b hi) (fun cs b=>hsel j oj cs b hoj) hQ hy (H.2 j (ready_mono hj hji))
   have hun':∀ k,(listed.setIfInBounds j true).getD k true=false->listed.getD k true=false:=fun k hk=>by
    by_cases hjk:j=k
    ·subst hjk
     exact hjun
    ·rw [_root_.Go.getD_set_ne true hjk] at hk
     exact hk
   refine wpOp_mono (fun a' w' h3=>⟨h3.2.1,ih (listed.setIfInBounds j true) a' w' (fun k ok hk hki hun hno=>hfree k ok hk hki (hun' k hun) hno) (fun k ok hk hg hun=>hG k ok hk hg (hun' k hun)) (ready_mono hr (Ne.symm hji)) h3.1 (h3.2.1 hS hGj) ?_⟩) h2;rw [Array.setIfInBounds_comm _ _ hji];exact h3.2.2
theorem qp9 {i:Nat} {oi:Oper} {v:Value} (hi:ops[i]? = some oi) (hsel:∀ (j:Nat) (o:Oper) cs b,ops[j]? = some o->o.op≠.select cs b)
  (hQ:∀ c a w,Q (.panic c) (a.put oi.dst v) w->Q (.panic c) a w):
  ∀ (fuel:Nat) (listed:Array Bool) (a:Act) (w:World),
   (∀ j oj,ops[j]? = some oj->j≠i->listed.getD j true=false->(∀ e ∈ oj.after,Region.binds md e=true->e.on≠i)->oi.apart ops oj=true)->
   i ∈ Region.ready md ops listed->YieldsIf P ops (fun _=>True) oi v a->
   wpG P md ops Q S G fuel (listed.setIfInBounds i true) (a.put oi.dst v) w->wpG P md ops Q S G (fuel+1) listed a w:=by
 intro fuel
 induction fuel with
 | zero=>
  intro listed a w _ hr hy H;refine ⟨fun h=>(by rw [h] at hr;cases hr),fun j hj=>?_⟩;by_cases hji:j=i
  ·subst hji
   exact hy.wpOp hi trivial ⟨fun h _=>h,H⟩
  ·have:=ready_mono hj hji
   rw [H.1] at this;cases this
 | succ fuel ih=>
  intro listed a w hfree hr hy H;refine ⟨fun h=>(by rw [h] at hr;cases hr),fun j hj=>?_⟩;by_cases hji:j=i
  ·subst hji
   exact hy.wpOp hi trivial ⟨fun h _=>h,H⟩
  ·obtain ⟨hjun,oj,hoj,hall⟩:=mem_ready.1 hj
   have hiun:=(mem_ready.1 hr).1
   have hnot:∀ e ∈ oj.after,Region.binds md e=true->e.on≠i:=fun e he hb heq=>by
    have h1:=hall e he hb;rw [heq] at h1
    rcases Nat.lt_or_ge i listed.size with h' | h'
    ·simp [h'] at hiun h1
     rw [hiun] at h1;cases h1
    ·simp [Array.getElem?_eq_none h'] at h1
   have h2:=wpOp_putIf hoj (hfree j oj hoj hji hjun hnot) (fun cs b=>hsel i oi cs b hi) (fun cs b=>hsel j oj cs b hoj) hQ hy (H.2 j (ready_mono hj hji))
   have hun':∀ k,(listed.setIfInBounds j true).getD k true=false->listed.getD k true=false:=fun k hk=>by
    by_cases hjk:j=k
    ·subst hjk
     exact hjun
    ·rw [_root_.Go.getD_set_ne true hjk] at hk
     exact hk
   refine wpOp_mono (fun a' w' h3=>⟨h3.2.1,ih (listed.setIfInBounds j true) a' w' (fun k ok hk hki hun hno=>hfree k ok hk hki (hun' k hun) hno) (ready_mono hr (Ne.symm hji)) h3.1 ?_⟩) h2;rw [Array.setIfInBounds_comm _ _ hji];exact h3.2.2
theorem qhy (i:Nat) {oi:Oper} {fuel:Nat} {listed:Array Bool} {a:Act} {w:World} (hi0:ops.toList[i]? = some oi) (hs:Region.noSelect ops=true) (hf:Region.free md ops listed i=true) (hr:(Region.ready md ops listed).contains i=true)
  (hQ:∀ v c a w,Q (.panic c) (a.put oi.dst v) w->Q (.panic c) a w) (hw:Region.wanted oi (yielded ops a.tmps)=true)
  (h:∃ v,(∀ w,(execOp a.eval oi).run P w=.ok (.value v) w)/\wpG P md ops Q S G fuel (listed.setIfInBounds i true) (a.put oi.dst v) w):wpG P md ops Q S G (fuel+1) listed a w:=by
 obtain ⟨v,hv,h⟩:=h;have hi:ops[i]? = some oi:=by rw [<- Array.getElem?_toList];exact hi0
 exact qp9 hi (Region.noSelect_spec hs) (hQ v) fuel listed a w (Region.free_spec hi hf) (by simpa using hr) (.inl ⟨hw,fun w _=>hv w⟩) h
theorem qj7 (i:Nat) {oi:Oper} {fuel:Nat} {listed:Array Bool} {a:Act} {w:World} (hi0:ops.toList[i]? = some oi) (hS:S w)
  (h:∃ v,(∀ w,S w->(execOp a.eval oi).run P w=.ok (.value v) w)/\wpG P md ops Q S G fuel (listed.setIfInBounds i true) (a.put oi.dst v) w) (hs:Region.noSelect ops=true:=by kernel_rfl) (hf:Region.free md ops listed i=true:=by kernel_rfl) (hr:(Region.ready md ops listed).contains i=true:=by kernel_rfl) (hg:qp5 md ops G listed i=true:=by kernel_rfl)
  (hQ:∀ v c a w,Q (.panic c) (a.put oi.dst v) w->Q (.panic c) a w:=by exact fun _ _ _ _ h=>h) (hw:Region.wanted oi (yielded ops a.tmps)=true:=by rfl):wpG P md ops Q S G (fuel+1) listed a w:=by
 obtain ⟨v,hv,h⟩:=h;have hi:ops[i]? = some oi:=by rw [<- Array.getElem?_toList];exact hi0
 exact qsg hi (Region.noSelect_spec hs) (hQ v) fuel listed a w (Region.free_spec hi hf) (fun j oj hj hgj hu=>qp6 hg hj hgj hu) (by simpa using hr) (.inl ⟨hw,hv⟩) hS h
theorem qap (i:Nat) {oi:Oper} {fuel:Nat} {listed listed':Array Bool} {a a':Act} {w:World} {v:Value} (hi0:ops.toList[i]? = some oi) (hS:S w)
  (h:wpG P md ops Q S G fuel listed' a' w) (hv:∀ w,S w->(execOp a.eval oi).run P w=.ok (.value v) w:=by (intro wq hSw;(try dsimp only at hSw);(try dsimp only [BoxC] at hSw);go_simp;try with_reducible rfl)) (ha:a.put oi.dst v=a':=by ((try simp only [Act.put,zD,zE,zF]);try with_reducible rfl)) (hl:listed.setIfInBounds i true=listed':=by with_reducible rfl) (hs:Region.noSelect ops=true:=by kernel_rfl) (hf:Region.free md ops listed i=true:=by kernel_rfl) (hr:(Region.ready md ops listed).contains i=true:=by kernel_rfl) (hg:qp5 md ops G listed i=true:=by kernel_rfl)
  (hQ:∀ v c a w,Q (.panic c) (a.put oi.dst v) w->Q (.panic c) a w:=by exact fun _ _ _ _ h=>h) (hw:Region.wanted oi (yielded ops a.tmps)=true:=by rfl):wpG P md ops Q S G (fuel+1) listed a w:=by
 subst ha hl;exact qj7 i hi0 hS ⟨v,hv,h⟩ hs hf hr hg hQ hw
def wpGT (P:Program) (md:Region.Mode) (ops:Array Oper) (Q:Exit->Act->World->Prop) (S:World->Prop) (G:Nat->Bool) (_:List Nat) (fuel:Nat) (listed:Array Bool) (a:Act) (w:World):Prop:=wpG P md ops Q S G fuel listed a w
theorem qbi (is:List Nat) {fuel:Nat} {listed:Array Bool} {a:Act} {w:World} (h:wpGT P md ops Q S G is fuel listed a w):wpG P md ops Q S G fuel listed a w:=h
theorem qa9 {fuel:Nat} {listed:Array Bool} {a:Act} {w:World} (h:wpG P md ops Q S G fuel listed a w):wpGT P md ops Q S G [] fuel listed a w:=h
theorem qv9 {i:Nat} {is:List Nat} {oi:Oper} {fuel:Nat} {listed:Array Bool} {a:Act} {w:World} (hi0:ops.toList[i]? = some oi) (hS:S w)
  (h:∃ v,(∀ w,S w->(execOp a.eval oi).run P w=.ok (.value v) w)/\wpGT P md ops Q S G is fuel (listed.setIfInBounds i true) (a.put oi.dst v) w) (hs:Region.noSelect ops=true:=by kernel_rfl) (hf:Region.free md ops listed i=true:=by kernel_rfl) (hr:(Region.ready md ops listed).contains i=true:=by kernel_rfl) (hg:qp5 md ops G listed i=true:=by kernel_rfl)
  (hQ:∀ v c a w,Q (.panic c) (a.put oi.dst v) w->Q (.panic c) a w:=by exact fun _ _ _ _ h=>h) (hw:Region.wanted oi (yielded ops a.tmps)=true:=by rfl):wpGT P md ops Q S G (i :: is) (fuel+1) listed a w:=qj7 i hi0 hS h hs hf hr hg hQ hw
theorem qb1 {i:Nat} {is:List Nat} {oi:Oper} {fuel:Nat} {listed listed':Array Bool} {a a':Act} {w:World} {v:Value} (hi0:ops.toList[i]? = some oi) (hS:S w)
  (h:wpGT P md ops Q S G is fuel listed' a' w) (hv:∀ w,S w->(execOp a.eval oi).run P w=.ok (.value v) w:=by (intro wq hSw;(try dsimp only at hSw);(try dsimp only [BoxC] at hSw);go_simp;try with_reducible rfl)) (ha:a.put oi.dst v=a':=by ((try simp only [Act.put,zD,zE,zF]);try with_reducible rfl)) (hl:listed.setIfInBounds i true=listed':=by with_reducible rfl) (hs:Region.noSelect ops=true:=by kernel_rfl) (hf:Region.free md ops listed i=true:=by kernel_rfl) (hr:(Region.ready md ops listed).contains i=true:=by kernel_rfl) (hg:qp5 md ops G listed i=true:=by kernel_rfl)
  (hQ:∀ v c a w,Q (.panic c) (a.put oi.dst v) w->Q (.panic c) a w:=by exact fun _ _ _ _ h=>h) (hw:Region.wanted oi (yielded ops a.tmps)=true:=by rfl):wpGT P md ops Q S G (i :: is) (fuel+1) listed a w:=qap i hi0 hS h hv ha hl hs hf hr hg hQ hw
theorem qaa (i:Nat) {oi:Oper} {fuel:Nat} {listed:Array Bool} {a:Act} {w:World} (hi0:ops.toList[i]? = some oi) (hr:Region.ready md ops listed=[i])
  (h:∀ K':Act->World->Prop,Shut (∀ a w,(G i=false->S w)->wpG P md ops Q S G fuel (listed.setIfInBounds i true) a w->K' a w)->if Region.wanted oi (yielded ops a.tmps)=true then Oper.wp P oi a w K' Q else K' (a.put oi.dst undef) w):wpG P md ops Q S G (fuel+1) listed a w:=
 ⟨fun h0 => (by rw [hr] at h0; cases h0), fun j hj => by
  rw [hr] at hj;obtain rfl:=List.mem_singleton.1 hj;have hi:ops[j]? = some oi:=by rw [<- Array.getElem?_toList];exact hi0
  exact wpOp_step hi fun K' hK=>h K' fun a w h1 h2=>hK a w ⟨fun _=>h1,h2⟩⟩
theorem qf9 (i j:Nat) {oi oj:Oper} {fuel:Nat} {listed:Array Bool} {a:Act} {w:World} (hi0:ops.toList[i]? = some oi) (hj0:ops.toList[j]? = some oj) (hr:Region.ready md ops listed=[i,j])
  (h:∀ K':Act->World->Prop,Shut (∀ a w,(G i=false->S w)->wpG P md ops Q S G fuel (listed.setIfInBounds i true) a w->K' a w)->if Region.wanted oi (yielded ops a.tmps)=true then Oper.wp P oi a w K' Q else K' (a.put oi.dst undef) w)
  (h':∀ K':Act->World->Prop,Shut (∀ a w,(G j=false->S w)->wpG P md ops Q S G fuel (listed.setIfInBounds j true) a w->K' a w)->if Region.wanted oj (yielded ops a.tmps)=true then Oper.wp P oj a w K' Q else K' (a.put oj.dst undef) w):wpG P md ops Q S G (fuel+1) listed a w:=
 ⟨fun h0 => (by rw [hr] at h0; cases h0), fun k hk => by
  rw [hr] at hk;have hi:ops[i]? = some oi:=by rw [<- Array.getElem?_toList];exact hi0
  have hj:ops[j]? = some oj:=by rw [<- Array.getElem?_toList];exact hj0
  rcases List.mem_cons.1 hk with rfl | hk
  ·exact wpOp_step hi fun K' hK=>h K' fun a w h1 h2=>hK a w ⟨fun _=>h1,h2⟩
  ·obtain rfl:=List.mem_singleton.1 hk
   exact wpOp_step hj fun K' hK=>h' K' fun a w h1 h2=>hK a w ⟨fun _=>h1,h2⟩⟩
theorem qau {listed:Array Bool} {a:Act} {w:World} (hr:Region.ready md ops listed=[]) (h:Q .normal a w):∀ fuel,wpG P md ops Q S G fuel listed a w
 | 0=>⟨hr,h⟩
 | _+1=>⟨fun _=>h,by rw [hr];simp⟩
theorem qan {id:Nat} {a:Act} {w:World} (S:World->Prop) (G:Nat->Bool) (hm:P.follows .mixedOrders=true) (h:wpG P .any ops Q S G ops.size (Array.replicate ops.size false) a w.drew):(Code.region id ops true).wp P Q a w:=
 wp_region_any hm (qio _ _ _ _ h)
end
theorem qbs {ops:Array Oper} {o:Oper} {a:Act} {w:World} {K:Act->World->Prop} {Q:Exit->Act->World->Prop} {E:Prop} (hw:Region.wanted o (yielded ops a.tmps)=true) (f:FuncId) (args:Array Operand) (ts:Array TypeId)
  (ho:o.op=.call { callee:=.value (.func f),args:=args,argTypes:=ts }) (vals:Array Value) (hv:args.map a.eval=vals) (hen:∀ vs wx,(callFunc f vs).run Tryz.prog wx=.ok (.enter f vs) wx) {post:Ending->World->Prop} (hc:Calls Tryz.prog f vals w post)
  (h:∀ e w',post e w'->∃ v,e=.returned v/\K (a.put o.dst v) w'):
  if Region.wanted o (yielded ops a.tmps)=true then Oper.wp Tryz.prog o a w K Q else E:=by
 rw [if_pos hw]
 have hr:(execOp a.eval o).run Tryz.prog w=.ok (.enter f vals) w:=by
  unfold execOp;simp [ho,resolve,invoke,hv,hen,Act.eval,Deferred.ofValue]
 unfold Oper.wp;rw [hr,Oper.upon_enter];refine hc.mono fun e w' hp=>?_;obtain ⟨v,rfl,hk⟩:=h e w' hp;exact hk
