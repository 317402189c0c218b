import Derived.Test.YtbgfjbgdiifghaaGreatDoorZn9
import Derived.Test.YtbgfjbgdiifghaaGreatDoorZn12
namespace Go.Proofs.YtbgfjbgdiifghaaGreatDoor
open Go.Proofs.Tryz
set_option maxRecDepth 100000
set_option maxHeartbeats 1000000
open Go.RowKit Go.Deep
def numL (h:Nat->I2):Nat->List Int
 | 0=>[]
 | n+1=>if (h n).m=true then numL h n else numL h n ++ [(h n).v]
theorem qfg (h:Nat->I2):∀ n,(numL h n).length<=n
 | 0=>nA _
 | n+1=>by
  unfold numL;have:=qfg h n
  split
  ·omega
  ·simp;omega
theorem qfy {h:Nat->I2} {n:Nat} (hh:(h n).m=false):numL h (n+1)=numL h n ++ [(h n).v]:=by
 rw [numL,nB (by rw [hh];decide)]
theorem qpk {h:Nat->I2} {n:Nat} (hh:(h n).m=true):numL h (n+1)=numL h n:=by
 rw [numL,nC hh]
open Go
section
variable {P:Program} {ops:Array Oper} {Q:Exit->Act->World->Prop} {md:Region.Mode} {S:World->Prop} {G:Nat->Bool}
def wpG (P:Program) (md:Region.Mode) (ops:Array Oper) (Q:Exit->Act->World->Prop) (S:World->Prop) (G:Nat->Bool):Nat->Array Bool->Act->World->Prop
 | 0,listed,a,w=>Region.ready md ops listed=[]/\Q .normal a w
 | fuel+1,listed,a,w=>(Region.ready md ops listed=[]->Q .normal a w)/\∀ i ∈ Region.ready md ops listed,wpOp P ops Q i (fun a' w'=>(S w->G i=false->S w')/\wpG P md ops Q S G fuel (listed.setIfInBounds i true) a' w') a w
theorem qjf:∀ (fuel:Nat) (listed:Array Bool) (a:Act) (w:World),wpG P md ops Q S G fuel listed a w->wpAny P md ops Q fuel listed a w
 | 0,_,_,_,h=>h
 | fuel+1,_,_,_,h=>⟨h.1,fun i hi=>wpOp_mono (fun a' w' h'=>qjf fuel _ a' w' h'.2) (h.2 i hi)⟩
def qrg (md:Region.Mode) (ops:Array Oper) (G:Nat->Bool) (listed:Array Bool) (i:Nat):Bool:=
 (List.range ops.size).all fun j=>!G j || listed.getD j true || match ops[j]? with
  | some oj=>oj.after.any fun e=>Region.binds md e && e.on == i
  | none=>true
theorem qrh {listed:Array Bool} {i:Nat} (h:qrg md ops G listed i=true) {j:Nat} {oj:Oper} (hj:ops[j]? = some oj) (hg:G j=true) (hu:listed.getD j true=false):∃ e ∈ oj.after,Region.binds md e=true/\e.on=i:=by
 simp only [qrg,List.all_eq_true,List.mem_range] at h;have h1:=h j (Array.getElem?_eq_some_iff.1 hj).1;simp only [hj,hg,hu,Bool.not_true,Bool.false_or] at h1;obtain ⟨e,he,hb⟩:=Array.any_eq_true'.1 h1;simp only [nH,beq_iff_eq] at hb;exact ⟨e,he,hb.1,hb.2⟩
theorem quc {i:Nat} {oi:Oper} {v:Value} (hi:ops[i]? = some oi) (hsel:∀ (j:Nat) (o:Oper) cs b,ops[j]? = some o->o.op≠.select cs b)
  (hQ:∀ c a w,Q (.panic c) (a.put oi.dst v) w->Q (.panic c) a w):
  ∀ (fuel:Nat) (listed:Array Bool) (a:Act) (w:World),
   (∀ j oj,ops[j]? = some oj->j≠i->listed.getD j true=false->(∀ e ∈ oj.after,Region.binds md e=true->e.on≠i)->oi.apart ops oj=true)->
   (∀ j oj,ops[j]? = some oj->G j=true->listed.getD j true=false->∃ e ∈ oj.after,Region.binds md e=true/\e.on=i)->
   i ∈ Region.ready md ops listed->YieldsIf P ops S oi v a->S w->
   wpG P md ops Q S G fuel (listed.setIfInBounds i true) (a.put oi.dst v) w->wpG P md ops Q S G (fuel+1) listed a w:=by
 intro fuel
 induction fuel with
 | zero=>
  intro listed a w _ _ hr hy hS H;refine ⟨fun h=>(by rw [h] at hr;cases hr),fun j hj=>?_⟩;by_cases hji:j=i
  ·subst hji
   exact hy.wpOp hi hS ⟨fun _ _=>hS,H⟩
  ·have:=ready_mono hj hji
   rw [H.1] at this;cases this
 | succ fuel ih=>
  intro listed a w hfree hG hr hy hS H;refine ⟨fun h=>(by rw [h] at hr;cases hr),fun j hj=>?_⟩;by_cases hji:j=i
  ·subst hji
   exact hy.wpOp hi hS ⟨fun _ _=>hS,H⟩
  ·obtain ⟨hjun,oj,hoj,hall⟩:=mem_ready.1 hj
   have hiun:=(mem_ready.1 hr).1
   have hnot:∀ e ∈ oj.after,Region.binds md e=true->e.on≠i:=fun e he hb heq=>by
    have h1:=hall e he hb;rw [heq] at h1
    rcases Nat.lt_or_ge i listed.size with h' | h'
    ·simp [h'] at hiun h1
     rw [hiun] at h1;cases h1
    ·simp [Array.getElem?_eq_none h'] at h1
   have hGj:G j=false:=by
    cases hg:G j with
    | false=>rfl
    | true=>
     obtain ⟨e,he,hb,heq⟩:=hG j oj hoj hg hjun;exact absurd heq (hnot e he hb)
   have h2:=wpOp_putIf hoj (hfree j oj hoj hji hjun hnot) (fun cs b=>hsel i oi cs b hi) (fun cs b=>hsel j oj cs b hoj) hQ hy (H.2 j (ready_mono hj hji))
   have hun':∀ k,(listed.setIfInBounds j true).getD k true=false->listed.getD k true=false:=fun k hk=>by
    by_cases hjk:j=k
    ·subst hjk
     exact hjun
    ·rw [_root_.Go.getD_set_ne true hjk] at hk
     exact hk
   refine wpOp_mono (fun a' w' h3=>⟨h3.2.1,ih (listed.setIfInBounds j true) a' w' (fun k ok hk hki hun hno=>hfree k ok hk hki (hun' k hun) hno) (fun k ok hk hg hun=>hG k ok hk hg (hun' k hun)) (ready_mono hr (Ne.symm hji)) h3.1 (h3.2.1 hS hGj) ?_⟩) h2;rw [Array.setIfInBounds_comm _ _ hji];exact h3.2.2
theorem qrk {i:Nat} {oi:Oper} {v:Value} (hi:ops[i]? = some oi) (hsel:∀ (j:Nat) (o:Oper) cs b,ops[j]? = some o->o.op≠.select cs b)
  (hQ:∀ c a w,Q (.panic c) (a.put oi.dst v) w->Q (.panic c) a w):
  ∀ (fuel:Nat) (listed:Array Bool) (a:Act) (w:World),
   (∀ j oj,ops[j]? = some oj->j≠i->listed.getD j true=false->(∀ e ∈ oj.after,Region.binds md e=true->e.on≠i)->oi.apart ops oj=true)->
   i ∈ Region.ready md ops listed->YieldsIf P ops (fun _=>True) oi v a->
   wpG P md ops Q S G fuel (listed.setIfInBounds i true) (a.put oi.dst v) w->wpG P md ops Q S G (fuel+1) listed a w:=by
 intro fuel
 induction fuel with
 | zero=>
  intro listed a w _ hr hy H;refine ⟨fun h=>(by rw [h] at hr;cases hr),fun j hj=>?_⟩;by_cases hji:j=i
  ·subst hji
   exact hy.wpOp hi trivial ⟨fun h _=>h,H⟩
  ·have:=ready_mono hj hji
   rw [H.1] at this;cases this
 | succ fuel ih=>
  intro listed a w hfree hr hy H;refine ⟨fun h=>(by rw [h] at hr;cases hr),fun j hj=>?_⟩;by_cases hji:j=i
  ·subst hji
   exact hy.wpOp hi trivial ⟨fun h _=>h,H⟩
  ·obtain ⟨hjun,oj,hoj,hall⟩:=mem_ready.1 hj
   have hiun:=(mem_ready.1 hr).1
   have hnot:∀ e ∈ oj.after,Region.binds md e=true->e.on≠i:=fun e he hb heq=>by
    have h1:=hall e he hb;rw [heq] at h1
    rcases Nat.lt_or_ge i listed.size with h' | h'
    ·simp [h'] at hiun h1
     rw [hiun] at h1;cases h1
    ·simp [Array.getElem?_eq_none h'] at h1
   have h2:=wpOp_putIf hoj (hfree j oj hoj hji hjun hnot) (fun cs b=>hsel i oi cs b hi) (fun cs b=>hsel j oj cs b hoj) hQ hy (H.2 j (ready_mono hj hji))
   have hun':∀ k,(listed.setIfInBounds j true).getD k true=false->listed.getD k true=false:=fun k hk=>by
    by_cases hjk:j=k
    ·subst hjk
     exact hjun
    ·rw [_root_.Go.getD_set_ne true hjk] at hk
     exact hk
   refine wpOp_mono (fun a' w' h3=>⟨h3.2.1,ih (listed.setIfInBounds j true) a' w' (fun k ok hk hki hun hno=>hfree k ok hk hki (hun' k hun) hno) (ready_mono hr (Ne.symm hji)) h3.1 ?_⟩) h2;rw [Array.setIfInBounds_comm _ _ hji];exact h3.2.2
theorem qem (i:Nat) {oi:Oper} {fuel:Nat} {listed:Array Bool} {a:Act} {w:World} (hi0:ops.toList[i]? = some oi) (hs:Region.noSelect ops=true) (hf:Region.free md ops listed i=true) (hr:(Region.ready md ops listed).contains i=true)
  (hQ:∀ v c a w,Q (.panic c) (a.put oi.dst v) w->Q (.panic c) a w) (hw:Region.wanted oi (yielded ops a.tmps)=true)
  (h:∃ v,(∀ w,(execOp a.eval oi).run P w=.ok (.value v) w)/\wpG P md ops Q S G fuel (listed.setIfInBounds i true) (a.put oi.dst v) w):wpG P md ops Q S G (fuel+1) listed a w:=by
 obtain ⟨v,hv,h⟩:=h;have hi:ops[i]? = some oi:=by rw [<- Array.getElem?_toList];exact hi0
 exact qrk hi (Region.noSelect_spec hs) (hQ v) fuel listed a w (Region.free_spec hi hf) (by simpa using hr) (.inl ⟨hw,fun w _=>hv w⟩) h
theorem qch (i:Nat) {oi:Oper} {fuel:Nat} {listed:Array Bool} {a:Act} {w:World} (hi0:ops.toList[i]? = some oi) (hS:S w)
  (h:∃ v,(∀ w,S w->(execOp a.eval oi).run P w=.ok (.value v) w)/\wpG P md ops Q S G fuel (listed.setIfInBounds i true) (a.put oi.dst v) w) (hs:Region.noSelect ops=true:=by kernel_rfl) (hf:Region.free md ops listed i=true:=by kernel_rfl) (hr:(Region.ready md ops listed).contains i=true:=by kernel_rfl) (hg:qrg md ops G listed i=true:=by kernel_rfl)
  (hQ:∀ v c a w,Q (.panic c) (a.put oi.dst v) w->Q (.panic c) a w:=by exact fun _ _ _ _ h=>h) (hw:Region.wanted oi (yielded ops a.tmps)=true:=by rfl):wpG P md ops Q S G (fuel+1) listed a w:=by
 obtain ⟨v,hv,h⟩:=h;have hi:ops[i]? = some oi:=by rw [<- Array.getElem?_toList];exact hi0
 exact quc hi (Region.noSelect_spec hs) (hQ v) fuel listed a w (Region.free_spec hi hf) (fun j oj hj hgj hu=>qrh hg hj hgj hu) (by simpa using hr) (.inl ⟨hw,hv⟩) hS h
theorem qar (i:Nat) {oi:Oper} {fuel:Nat} {listed listed':Array Bool} {a a':Act} {w:World} {v:Value} (hi0:ops.toList[i]? = some oi) (hS:S w)
  (h:wpG P md ops Q S G fuel listed' a' w) (hv:∀ w,S w->(execOp a.eval oi).run P w=.ok (.value v) w:=by (intro wq hSw;(try dsimp only at hSw);(try dsimp only [SysIn.bX] at hSw);(try dsimp only [BoxC] at hSw);(try simp only [BoxS] at hSw);(try simp only [BoxF_iff] at hSw);go_simp;try with_reducible rfl)) (ha:a.put oi.dst v=a':=by ((try simp only [Act.put,zD,zE,zF]);try with_reducible rfl)) (hl:listed.setIfInBounds i true=listed':=by with_reducible rfl) (hs:Region.noSelect ops=true:=by kernel_rfl) (hf:Region.free md ops listed i=true:=by kernel_rfl) (hr:(Region.ready md ops listed).contains i=true:=by kernel_rfl) (hg:qrg md ops G listed i=true:=by kernel_rfl)
  (hQ:∀ v c a w,Q (.panic c) (a.put oi.dst v) w->Q (.panic c) a w:=by exact fun _ _ _ _ h=>h) (hw:Region.wanted oi (yielded ops a.tmps)=true:=by rfl):wpG P md ops Q S G (fuel+1) listed a w:=by
 subst ha hl;exact qch i hi0 hS ⟨v,hv,h⟩ hs hf hr hg hQ hw
def wpGT (P:Program) (md:Region.Mode) (ops:Array Oper) (Q:Exit->Act->World->Prop) (S:World->Prop) (G:Nat->Bool) (_:List Nat) (fuel:Nat) (listed:Array Bool) (a:Act) (w:World):Prop:=wpG P md ops Q S G fuel listed a w
theorem qbb (is:List Nat) {fuel:Nat} {listed:Array Bool} {a:Act} {w:World} (h:wpGT P md ops Q S G is fuel listed a w):wpG P md ops Q S G fuel listed a w:=h
theorem qa2 {fuel:Nat} {listed:Array Bool} {a:Act} {w:World} (h:wpG P md ops Q S G fuel listed a w):wpGT P md ops Q S G [] fuel listed a w:=h
theorem qze {i:Nat} {is:List Nat} {oi:Oper} {fuel:Nat} {listed:Array Bool} {a:Act} {w:World} (hi0:ops.toList[i]? = some oi) (hS:S w)
  (h:∃ v,(∀ w,S w->(execOp a.eval oi).run P w=.ok (.value v) w)/\wpGT P md ops Q S G is fuel (listed.setIfInBounds i true) (a.put oi.dst v) w) (hs:Region.noSelect ops=true:=by kernel_rfl) (hf:Region.free md ops listed i=true:=by kernel_rfl) (hr:(Region.ready md ops listed).contains i=true:=by kernel_rfl) (hg:qrg md ops G listed i=true:=by kernel_rfl)
  (hQ:∀ v c a w,Q (.panic c) (a.put oi.dst v) w->Q (.panic c) a w:=by exact fun _ _ _ _ h=>h) (hw:Region.wanted oi (yielded ops a.tmps)=true:=by rfl):wpGT P md ops Q S G (i :: is) (fuel+1) listed a w:=qch i hi0 hS h hs hf hr hg hQ hw
theorem qbr {i:Nat} {is:List Nat} {oi:Oper} {fuel:Nat} {listed listed':Array Bool} {a a':Act} {w:World} {v:Value} (hi0:ops.toList[i]? = some oi) (hS:S w)
  (h:wpGT P md ops Q S G is fuel listed' a' w) (hv:∀ w,S w->(execOp a.eval oi).run P w=.ok (.value v) w:=by (intro wq hSw;(try dsimp only at hSw);(try dsimp only [SysIn.bX] at hSw);(try dsimp only [BoxC] at hSw);(try simp only [BoxS] at hSw);(try simp only [BoxF_iff] at hSw);go_simp;try with_reducible rfl)) (ha:a.put oi.dst v=a':=by ((try simp only [Act.put,zD,zE,zF]);try with_reducible rfl)) (hl:listed.setIfInBounds i true=listed':=by with_reducible rfl) (hs:Region.noSelect ops=true:=by kernel_rfl) (hf:Region.free md ops listed i=true:=by kernel_rfl) (hr:(Region.ready md ops listed).contains i=true:=by kernel_rfl) (hg:qrg md ops G listed i=true:=by kernel_rfl)
  (hQ:∀ v c a w,Q (.panic c) (a.put oi.dst v) w->Q (.panic c) a w:=by exact fun _ _ _ _ h=>h) (hw:Region.wanted oi (yielded ops a.tmps)=true:=by rfl):wpGT P md ops Q S G (i :: is) (fuel+1) listed a w:=qar i hi0 hS h hv ha hl hs hf hr hg hQ hw
theorem qab (i:Nat) {oi:Oper} {fuel:Nat} {listed:Array Bool} {a:Act} {w:World} (hi0:ops.toList[i]? = some oi) (hr:Region.ready md ops listed=[i])
  (h:∀ K':Act->World->Prop,Shut (∀ a w,(G i=false->S w)->wpG P md ops Q S G fuel (listed.setIfInBounds i true) a w->K' a w)->if Region.wanted oi (yielded ops a.tmps)=true then Oper.wp P oi a w K' Q else K' (a.put oi.dst undef) w):wpG P md ops Q S G (fuel+1) listed a w:=
 ⟨fun h0 => (by rw [hr] at h0; cases h0), fun j hj => by
  rw [hr] at hj;obtain rfl:=List.mem_singleton.1 hj;have hi:ops[j]? = some oi:=by rw [<- Array.getElem?_toList];exact hi0
  exact wpOp_step hi fun K' hK=>h K' fun a w h1 h2=>hK a w ⟨fun _=>h1,h2⟩⟩
theorem qk5 (i j:Nat) {oi oj:Oper} {fuel:Nat} {listed:Array Bool} {a:Act} {w:World} (hi0:ops.toList[i]? = some oi) (hj0:ops.toList[j]? = some oj) (hr:Region.ready md ops listed=[i,j])
  (h:∀ K':Act->World->Prop,Shut (∀ a w,(G i=false->S w)->wpG P md ops Q S G fuel (listed.setIfInBounds i true) a w->K' a w)->if Region.wanted oi (yielded ops a.tmps)=true then Oper.wp P oi a w K' Q else K' (a.put oi.dst undef) w)
  (h':∀ K':Act->World->Prop,Shut (∀ a w,(G j=false->S w)->wpG P md ops Q S G fuel (listed.setIfInBounds j true) a w->K' a w)->if Region.wanted oj (yielded ops a.tmps)=true then Oper.wp P oj a w K' Q else K' (a.put oj.dst undef) w):wpG P md ops Q S G (fuel+1) listed a w:=
 ⟨fun h0 => (by rw [hr] at h0; cases h0), fun k hk => by
  rw [hr] at hk;have hi:ops[i]? = some oi:=by rw [<- Array.getElem?_toList];exact hi0
  have hj:ops[j]? = some oj:=by rw [<- Array.getElem?_toList];exact hj0
  rcases List.mem_cons.1 hk with rfl | hk
  ·exact wpOp_step hi fun K' hK=>h K' fun a w h1 h2=>hK a w ⟨fun _=>h1,h2⟩
  ·obtain rfl:=List.mem_singleton.1 hk
   exact wpOp_step hj fun K' hK=>h' K' fun a w h1 h2=>hK a w ⟨fun _=>h1,h2⟩⟩
theorem qau {listed:Array Bool} {a:Act} {w:World} (hr:Region.ready md ops listed=[]) (h:Q .normal a w):∀ fuel,wpG P md ops Q S G fuel listed a w
 | 0=>⟨hr,h⟩
 | _+1=>⟨fun _=>h,by rw [hr];simp⟩
theorem yW (i:Nat) {oi:Oper} {fuel:Nat} {listed:Array Bool} {a:Act} {w:World} (hi0:ops.toList[i]? = some oi)  (h:∀ K':Act->World->Prop,Shut (∀ a w,(G i=false->S w)->wpG P md ops Q S G fuel (listed.setIfInBounds i true) a w->K' a w)->if Region.wanted oi (yielded ops a.tmps)=true then Oper.wp P oi a w K' Q else K' (a.put oi.dst undef) w) (hr:Region.ready md ops listed=[i]:=by kernel_rfl):wpG P md ops Q S G (fuel+1) listed a w:=qab i hi0 hr h
theorem yX {listed:Array Bool} {a:Act} {w:World} (h:Q .normal a w) (f:Nat) (hr:Region.ready md ops listed=[]:=by kernel_rfl):wpG P md ops Q S G f listed a w:=qau hr h f
theorem qag {id:Nat} {a:Act} {w:World} (S:World->Prop) (G:Nat->Bool) (hm:P.follows .mixedOrders=true) (h:wpG P .any ops Q S G ops.size (Array.replicate ops.size false) a w.drew):(Code.region id ops true).wp P Q a w:=
 wp_region_any hm (qjf _ _ _ _ h)
end
theorem qc0 {ops:Array Oper} {o:Oper} {a:Act} {w:World} {K:Act->World->Prop} {Q:Exit->Act->World->Prop} {E:Prop} (hw:Region.wanted o (yielded ops a.tmps)=true) (f:FuncId) (args:Array Operand) (ts:Array TypeId)
  (ho:o.op=.call { callee:=.value (.func f),args:=args,argTypes:=ts }) (vals:Array Value) (hv:args.map a.eval=vals) (hen:∀ vs wx,(callFunc f vs).run prog wx=.ok (.enter f vs) wx) {post:Ending->World->Prop} (hc:Calls prog f vals w post)
  (h:∀ e w',post e w'->∃ v,e=.returned v/\K (a.put o.dst v) w'):
  if Region.wanted o (yielded ops a.tmps)=true then Oper.wp prog o a w K Q else E:=by
 rw [nC hw]
 have hr:(execOp a.eval o).run prog w=.ok (.enter f vals) w:=by
  unfold execOp;simp [ho,resolve,invoke,hv,hen,Act.eval,Deferred.ofValue]
 unfold Oper.wp;rw [hr,Oper.upon_enter];refine hc.mono fun e w' hp=>?_;obtain ⟨v,rfl,hk⟩:=h e w' hp;exact hk
open Go.ChangeShapes Go.WideShapes Go.ChangeAt
theorem qcm {ops:Array Oper} {o:Oper} {a:Act} {K:Act->World->Prop} {Q:Exit->Act->World->Prop} {E:Prop} {t e:TypeId} {size bytes:Nat} (KK:Kind t e size bytes) (w:World) (hg:o.guard=none) (s x:Operand)
  (ho:o.op=.call { callee:=.builtin .append,args:=#[s,x],argTypes:=#[t,t] })
  (B:Nat) (v:Value) (n:Nat) (xs:List Value) (hs:a.eval s=v) (hown:w.ownsRow B e size v n xs) (a0:Option Addr) (m c:Nat) (news:List Value) (hx:a.eval x=.slice a0 m c) (hl:news.length=m*size) (hsrc:Src w a0 news) (h1:∀ u ∈ news,u.oneCell'=true) (hnm:n+m<=4000000) (hB:B<=w.heap.size)
  (h:∀ v' w',w'.ownsRow B e size v' (n+m) (xs ++ news)->w.grownBy w' v.ownBlock->(v'.ownBlock=v.ownBlock\/v'.ownBlock=some w.heap.size)->(v≠.slice none 0 0\/0<m->v'≠nS)->K (a.put o.dst v') w'):
  if Region.wanted o (yielded ops a.tmps)=true then Oper.wp prog o a w K Q else E:=by
 obtain ⟨v',w',r1,r2,r3,r4,r5⟩:=qe8 KK w o.type B v n xs hown a0 m c news hl hsrc h1 hnm hB;have hw:Region.wanted o (yielded ops a.tmps)=true:=by simp [Region.wanted,hg]
 rw [nC hw];unfold Oper.wp execOp;simp only [ho,resolve,invoke,builtin,Sem.run_bind,Sem.run_pure,Result.andThen_ok,List.map_toArray,List.map_cons,List.map_nil,hs,hx,r1];exact h v' w' r2 r3 r4 r5
theorem qbx {ops:Array Oper} {o:Oper} {a:Act} {K:Act->World->Prop} {Q:Exit->Act->World->Prop} {E:Prop} {t e:TypeId} {size bytes:Nat} (KK:Kind t e size bytes) (w:World) {N:Nat} (hN:N=w.heap.size) (hg:o.guard=none) (s x:Operand)
  (ho:o.op=.call { callee:=.builtin .append,args:=#[s,x],argTypes:=#[t,t] })
  (a0:Option Addr) (m c:Nat) (news:List Value) (hs:a.eval s=.slice (some ⟨N,0,none⟩) 0 0) (hx:a.eval x=.slice a0 m c) (hl:news.length=m*size) (hsrc:Src w a0 news) (h1:∀ u ∈ news,u.oneCell'=true) (hnm:m<=4000000)
  (h:∀ v' w',w'.ownsRow w.heap.size e size v' m news->Bw w w'->v'≠.slice none 0 0->K (a.put o.dst v') w'):
  if Region.wanted o (yielded ops a.tmps)=true then Oper.wp prog o a (w.alloc (.cells #[] e)) K Q else E:=by
 subst hN;have hb:Bw w (w.alloc (.cells #[] e)):=zQ _ _;refine qcm KK _ hg s x ho w.heap.size (sG w.heap.size 0 0) 0 [] hs (World.ownsRow_made (base:=w.heap.size) (e:=e) (size:=size) w #[] 0 (nA _) (by unfold maxLen;omega) (by simp)) a0 m c news hx hl (hsrc.bw hb) h1 (by omega) (by simp) ?_;intro v' w' o g _ hne;rw [nL,List.nil_append] at o;exact h v' w' o (hb.grown g (by simp) (fun k hk=>by cases hk;exact nA _)) (hne (.inl (by simp)))
theorem qa1 {ops:Array Oper} {o:Oper} {a:Act} {K:Act->World->Prop} {Q:Exit->Act->World->Prop} {E:Prop} {t e:TypeId} {size bytes:Nat} (KK:Kind t e size bytes) (w:World) {N:Nat} (hN:N=w.heap.size) (hg:o.guard=none) (s x:Operand)
  (ho:o.op=.call { callee:=.builtin .append,args:=#[s,x],argTypes:=#[t,t] })
  (B:Nat) (v:Value) (n:Nat) (xs:List Value) (hs:a.eval s=v) (hown:w.ownsRow B e size v n xs) (cs:Array Value) (hx:a.eval x=.slice (some ⟨N,0,none⟩) 1 1) (hl:cs.size=size) (h1:∀ u ∈ cs.toList,u.oneCell'=true) (hn:n<=2000000) (hB:B<=w.heap.size)
  (h:∀ v' w',w'.ownsRow B e size v' (n+1) (xs ++ cs.toList)->w.grownBy w' v.ownBlock->(∀ j,v'.ownBlock=some j->v.ownBlock=some j\/w.heap.size<=j)->v'≠.slice none 0 0->K (a.put o.dst v') w'):
  if Region.wanted o (yielded ops a.tmps)=true then Oper.wp prog o a (w.alloc (.cells cs e)) K Q else E:=by
 subst hN;have hb:Bw w (w.alloc (.cells cs e)):=zQ _ _;refine qcm KK _ hg s x ho B v n xs hs (hown.alloc _) (some (aQ w.heap.size 0)) 1 1 cs.toList hx (by simp [hl]) (.inr ⟨w.heap.size,0,rfl,by simp,fun j u hj=>?_⟩) h1 (by omega) (by simp;omega) ?_
 ·rw [nL,zW _ _ _ j rfl]
  simpa using hj
 ·intro v' w' o g hbk hne
  refine h v' w' o ⟨g.os,g.tape,g.output,zP hb.size g.size,fun j hj hne=>(g.block j (zL hj hb.size) hne).trans (hb.block j hj)⟩ (fun j hj=>?_) (hne (.inr (by omega)))
  rcases hbk with a | a
  ·exact .inl (a.symm.trans hj)
  ·rw [hj] at a
   simp only [nG] at a;right;rw [a];simp
theorem qat {ops:Array Oper} {o:Oper} {a:Act} {w:World} {K:Act->World->Prop} {Q:Exit->Act->World->Prop} {E:Prop} (hg:o.guard=none) (f:FuncId) (args:Array Operand) (ts:Array TypeId)
  (ho:o.op=.call { callee:=.value (.func f),args:=args,argTypes:=ts }) (vals:Array Value) (hv:args.map a.eval=vals) (hen:∀ vs wx,(callFunc f vs).run prog wx=.ok (.enter f vs) wx) {post:Ending->World->Prop} (hc:Calls prog f vals w post)
  (h:∀ e w',post e w'->∃ v,e=.returned v/\K (a.put o.dst v) w'):
  if Region.wanted o (yielded ops a.tmps)=true then Oper.wp prog o a w K Q else E:=by
 have hw:Region.wanted o (yielded ops a.tmps)=true:=by simp [Region.wanted,hg]
 rw [nC hw]
 have hr:(execOp a.eval o).run prog w=.ok (.enter f vals) w:=by
  unfold execOp;simp [ho,resolve,invoke,hv,hen,Act.eval,Deferred.ofValue]
 unfold Oper.wp;rw [hr,Oper.upon_enter];refine hc.mono fun e w' hp=>?_;obtain ⟨v,rfl,hk⟩:=h e w' hp;exact hk
theorem qdc (ea:Option Addr) (len cap:Nat) (eh:Nat->E3) (kd pr:Int) (w:World) (hlen:len<=1048576) (hc:EvL w ea len eh):
  Calls prog 52 #[.slice ea len cap,iV kd,iV pr] w fun e w'=>∃ v,e=.returned v/\OwnI w' w.heap.size v (valL eh kd pr len)/\Bw w w':=by
 have hl':(len:Int)<=1048576:=by omega
 have HC:Hid (EvL w ea len eh):=hc;clear hc
 go_enter func52,ntmps52
 go_wp2_with fail
 go_loopw [7,8] (fun o i wr=>∃ k:Nat,k<=len/\i=.int .i64 k/\Hid (OwnI wr w.heap.size o (valL eh kd pr k))/\Bw w wr) (fun _ i _=>len - (intOf i).toNat)
 case atStart=>exact ⟨0,nD _,rfl,qb8 w,(nE _ _).alloc (nA _) _⟩
 case round=>
  obtain ⟨k,hk,rfl,HO,hbw⟩:=hrel;have hs:=hbw.size;by_cases hlt:k<len
  ·have hlt':(k:Int)<(len:Int):=by omega
   have hvl:=qgs eh kd pr k;obtain ⟨b,off,rfl,-,c0,c1,c2⟩:=(HC.bw hbw).at hlt
   rcases zK ((eh k).k == kd) with t1 | t1
   ·rcases zK ((eh k).q == pr) with t2 | t2
    ·have HH : Hid (valL eh kd pr (k + 1) = valL eh kd pr k ++ [(eh k).v]) := qk3 (by
      unfold hitB;rw [t1,t2]
      rfl)
     go_wp2_with (at_builtin;refine qeq wr rfl _ _ rfl w.heap.size u7 (valL eh kd pr k) rfl HO.out (eh k).v rfl (by omega) hs ?_;intro v' w4 o4 b4;have H4:Hid (OwnI w4 w.heap.size v' (valL eh kd pr (k+1))):=o4.to HH.out;clear o4)
     go_roundw
     case rel=>exact ⟨k+1,by omega,by go_num,H4.out,hbw.trans b4⟩
     case measure=>simp [intOf];omega
    ·have HH : Hid (valL eh kd pr (k + 1) = valL eh kd pr k) := qhy (by
      unfold hitB;rw [t1,t2]
      rfl)
     go_wp2;go_roundw
     case rel=>exact ⟨k+1,by omega,by go_num,HO.to HH.out,hbw⟩
     case measure=>simp [intOf];omega
   ·have HH : Hid (valL eh kd pr (k + 1) = valL eh kd pr k) := qhy (by
     unfold hitB;rw [t1]
     rfl)
    go_wp2;go_roundw
    case rel=>exact ⟨k+1,by omega,by go_num,HO.to HH.out,hbw⟩
    case measure=>simp [intOf];omega
  ·have hkl:k=len:=by omega
   have H4:Hid (OwnI wr w.heap.size u7 (valL eh kd pr len)):=by
    have:=HO.out;rw [hkl] at this;exact this
   clear HO hkl;go_wp2;go_ret;exact ⟨_,rfl,H4.out,hbw⟩
theorem qjc (ea:Option Addr) (len cap:Nat) (eh:Nat->E3) (kd pr:Int) (w:World) (hlen:len<=1048576) (hc:EvL w ea len eh):
  Calls prog 128 #[.slice ea len cap,iV kd,iV pr] w fun e w'=>∃ v,e=.returned v/\OwnI w' w.heap.size v (plI eh kd pr len)/\Bw w w':=by
 have hl':(len:Int)<=1048576:=by omega
 have HC:Hid (EvL w ea len eh):=hc;clear hc
 go_enter func128,ntmps128
 go_wp2_with fail
 go_loopw [7,13] (fun o i wr=>∃ k:Nat,k<=len/\i=.int .i64 k/\Hid (OwnI wr w.heap.size o (plI eh kd pr k))/\Bw w wr) (fun _ i _=>len - (intOf i).toNat)
 case atStart=>exact ⟨0,nD _,rfl,qb8 w,(nE _ _).alloc (nA _) _⟩
 case round=>
  obtain ⟨k,hk,rfl,HO,hbw⟩:=hrel;have hs:=hbw.size;by_cases hlt:k<len
  ·have hlt':(k:Int)<(len:Int):=by omega
   have hvl:=qs7 eh kd pr k;obtain ⟨b,off,rfl,-,c0,c1,c2⟩:=(HC.bw hbw).at hlt
   rcases zK ((eh k).k == kd) with t1 | t1
   ·rcases zK ((eh k).q == pr) with t2 | t2
    ·have HH : Hid (plI eh kd pr (k + 1) = plI eh kd pr k ++ [(k : Int)]) := qxt (by
      unfold hitB;rw [t1,t2]
      rfl)
     go_wp2_with (at_builtin;refine qcw _ (N:=wr.heap.size+1) (by simp) rfl _ _ rfl w.heap.size u7 (plI eh kd pr k) rfl (HO.bw (by go_grown)) k rfl (by omega) (by simp;omega) ?_;intro v' w4 o4 b4;have H4:Hid (OwnI w4 w.heap.size v' (plI eh kd pr (k+1))):=o4.to HH.out;clear o4)
     go_roundw
     case rel=>exact ⟨k+1,by omega,by go_num,H4.out,Below.trans (by go_grown) b4⟩
     case measure=>simp [intOf];omega
    ·have HH : Hid (plI eh kd pr (k + 1) = plI eh kd pr k) := qs8 (by
      unfold hitB;rw [t1,t2]
      rfl)
     go_wp2;go_roundw
     case rel=>exact ⟨k+1,by omega,by go_num,(HO.bw (by go_grown)).to HH.out,by go_grown⟩
     case measure=>simp [intOf];omega
   ·have HH : Hid (plI eh kd pr (k + 1) = plI eh kd pr k) := qs8 (by
     unfold hitB;rw [t1]
     rfl)
    go_wp2;go_roundw
    case rel=>exact ⟨k+1,by omega,by go_num,(HO.bw (by go_grown)).to HH.out,by go_grown⟩
    case measure=>simp [intOf];omega
  ·have hkl:k=len:=by omega
   have H4:Hid (OwnI wr w.heap.size u7 (plI eh kd pr len)):=by
    have:=HO.out;rw [hkl] at this;exact this
   clear HO hkl;go_wp2;go_ret;exact ⟨_,rfl,H4.out,hbw⟩
theorem qfl (ea:Option Addr) (len cap:Nat) (eh:Nat->E3) (kd pr:Int) (w:World) (hlen:len<=1048576) (hc:EvL w ea len eh):
  Calls prog 71 #[.slice ea len cap,iV kd,iV pr] w (rB w (iV ((plN eh kd pr len).length:Nat))):=by
 have HC:Hid (EvL w ea len eh):=hc;clear hc
 go_enter func71,ntmps71
 go_wp2_with fail
 refine (qdc ea len cap eh kd pr w hlen HC.out).mono ?_;rintro e w1 ⟨v,rfl,o1,b1⟩;obtain ⟨a0,cp,rfl,-⟩:=o1.form;rw [qb2];go_wp2;go_ret;exact ⟨rfl,b1⟩
theorem qda (ea:Option Addr) (len cap:Nat) (eh:Nat->E3) (kd pr:Int) (w:World) (hlen:len<=1048576) (hc:EvL w ea len eh):
  Calls prog 108 #[.slice ea len cap,iV kd,iV pr] w fun e w'=>∃ v,e=.returned v/\OwnI w' w.heap.size v (valL eh kd pr len)/\Bw w w':=by
 have hl':(len:Int)<=1048576:=by omega
 have HC:Hid (EvL w ea len eh):=hc;clear hc;have hpl:=qs7 eh kd pr len
 go_enter func108,ntmps108
 go_wp2_with fail
 refine (qjc ea len cap eh kd pr _ hlen (HC.bw (by go_grown))).mono ?_;rintro e w1 ⟨v,rfl,o1,b1⟩;have B1:Hid (Bw w w1):=qah (by go_grown) b1 (by simp);obtain ⟨a0,cp,rfl,-⟩:=o1.form
 have HS:Hid (OwnI w1 (w.heap.size+1) (.slice a0 (plI eh kd pr len).length cp) (plI eh kd pr len)):=by
  (try dsimp only [aW] at o1);rw [World.size_alloc] at o1
  exact o1
 clear o1;go_wp2_with fail
 have HO:Hid (OwnI w1 w.heap.size (sG w.heap.size 0 0) []):=(qb8 w).bw b1;clear b1
 go_loopw [7,16] (fun o i wr=>∃ k:Nat,k<=(plI eh kd pr len).length/\i=.int .i64 k/\Hid (OwnI wr w.heap.size o (valT eh kd pr len k))/\Bw w wr/\Hid (Away w w1 wr o)) (fun _ i _=>(plI eh kd pr len).length - (intOf i).toNat)
 case atStart=>exact ⟨0,nD _,rfl,HO.out,B1.out,⟨fun j hj=>by simp [Value.ownBlock] at hj;exact .inl hj.symm,fun _ _ _=>rfl,nA _⟩⟩
 case round=>
  clear HO B1;obtain ⟨k,hk,rfl,HO,hbw,HA⟩:=hrel;have hs:=hbw.size;by_cases hlt:k<(plI eh kd pr len).length
  ·have hlt':(k:Int)<((plI eh kd pr len).length:Int):=by omega
   obtain ⟨b0,o0,e0,hb0,hcell⟩:=(HA.sl (Nat.lt_succ_self _) HS.out).at hlt;obtain ⟨q,hq,hql,hqe⟩:=qmg eh kd pr len k hlt;have hql':(q:Int)<(len:Int):=by omega
   rw [hq] at hcell;subst e0;have hvl:=qx0 eh kd pr len k;have HH:Hid (valT eh kd pr len (k+1)=valT eh kd pr len k ++ [(eh q).v]):=qt6 hqe;obtain ⟨b,off,rfl,-,c0,c1,c2⟩:=(HC.bw hbw).at hql;clear hq hqe;go_wp2_with (at_builtin;refine qp2 wr rfl _ _ rfl w.heap.size u7 (valT eh kd pr len k) rfl HO.out (eh q).v rfl (by omega) hs ?_;intro v' w4 o4 g4 a4;have A4:Hid (Away w w1 w4 v'):=HA.step g4 a4;have b4:Below w.heap.size wr w4:=⟨g4.os,g4.tape,g4.output,g4.size,fun j hj=>g4.block j (zL hj hs) (fun e=>Nat.not_le_of_lt hj (HO.lt j e.symm).1)⟩;have H4:Hid (OwnI w4 w.heap.size v' (valT eh kd pr len (k+1))):=o4.to HH.out;clear o4 g4 a4)
   go_roundw
   case rel=>exact ⟨k+1,by omega,by go_num,H4.out,hbw.trans b4,A4.out⟩
   case measure=>simp [intOf];omega
  ·have hkl:k=(plI eh kd pr len).length:=by omega
   have H4:Hid (OwnI wr w.heap.size u7 (valL eh kd pr len)):=by
    have:=HO.out;rw [hkl,qvz] at this;exact this
   clear HO hkl;go_wp2;go_ret;exact ⟨_,rfl,H4.out,hbw⟩
theorem qku (ea:Option Addr) (len cap:Nat) (h:Nat->I2) (w:World) (hlen:len<=1048576) (hc:ItL w ea len h):
  Calls prog 91 #[.slice ea len cap] w fun e w'=>∃ v,e=.returned v/\OwnI w' w.heap.size v (numL h len)/\Bw w w':=by
 have hl':(len:Int)<=1048576:=by omega
 have HC:Hid (ItL w ea len h):=hc;clear hc
 go_enter func91,ntmps91
 go_wp2_with fail
 go_loopw [3,4] (fun o i wr=>∃ k:Nat,k<=len/\i=.int .i64 k/\Hid (OwnI wr w.heap.size o (numL h k))/\Bw w wr) (fun _ i _=>len - (intOf i).toNat)
 case atStart=>exact ⟨0,nD _,rfl,qb8 w,(nE _ _).alloc (nA _) _⟩
 case round=>
  obtain ⟨k,hk,rfl,HO,hbw⟩:=hrel;have hs:=hbw.size;by_cases hlt:k<len
  ·have hlt':(k:Int)<(len:Int):=by omega
   have hvl:=qfg h k;obtain ⟨b,off,rfl,-,c0,c1⟩:=(HC.bw hbw).at hlt
   rcases zK (h k).m with t1 | t1
   ·have HH:Hid (numL h (k+1)=numL h k):=qpk t1
    rw [t1] at c0;go_wp2;go_roundw
    case rel=>exact ⟨k+1,by omega,by go_num,HO.to HH.out,hbw⟩
    case measure=>simp [intOf];omega
   ·have HH:Hid (numL h (k+1)=numL h k ++ [(h k).v]):=qfy t1
    rw [t1] at c0;go_wp2_with (at_builtin;refine qeq wr rfl _ _ rfl w.heap.size u3 (numL h k) rfl HO.out (h k).v rfl (by omega) hs ?_;intro v' w4 o4 b4;have H4:Hid (OwnI w4 w.heap.size v' (numL h (k+1))):=o4.to HH.out;clear o4)
    go_roundw
    case rel=>exact ⟨k+1,by omega,by go_num,H4.out,hbw.trans b4⟩
    case measure=>simp [intOf];omega
  ·have hkl:k=len:=by omega
   have H4:Hid (OwnI wr w.heap.size u3 (numL h len)):=by
    have:=HO.out;rw [hkl] at this;exact this
   clear HO hkl;go_wp2;go_ret;exact ⟨_,rfl,H4.out,hbw⟩
theorem qjy (ea:Option Addr) (len cap:Nat) (h:Nat->I2) (w:World) (hlen:len<=1048576) (hc:ItL w ea len h):
  Calls prog 80 #[.slice ea len cap] w fun e w'=>∃ v,e=.returned v/\OwnI w' w.heap.size v (numL h len)/\Bw w w':=by
 have hl':(len:Int)<=1048576:=by omega
 have HC:Hid (ItL w ea len h):=hc;clear hc
 go_enter func80,ntmps80
 go_wp2_with fail
 go_loopw [3,9] (fun o i wr=>∃ k:Nat,k<=len/\i=.int .i64 k/\Hid (OwnI wr w.heap.size o (numL h k))/\Bw w wr) (fun _ i _=>len - (intOf i).toNat)
 case atStart=>exact ⟨0,nD _,rfl,qb8 w,(nE _ _).alloc (nA _) _⟩
 case round=>
  obtain ⟨k,hk,rfl,HO,hbw⟩:=hrel;have hs:=hbw.size;by_cases hlt:k<len
  ·have hlt':(k:Int)<(len:Int):=by omega
   have hvl:=qfg h k;obtain ⟨b,off,rfl,-,c0,c1⟩:=(HC.bw hbw).at hlt
   rcases zK (h k).m with t1 | t1
   ·have HH:Hid (numL h (k+1)=numL h k):=qpk t1
    rw [t1] at c0;go_wp2;go_roundw
    case rel=>exact ⟨k+1,by omega,by go_num,(HO.bw (by go_grown)).to HH.out,by go_grown⟩
    case measure=>simp [intOf];omega
   ·have HH:Hid (numL h (k+1)=numL h k ++ [(h k).v]):=qfy t1
    rw [t1] at c0;go_wp2_with (at_builtin;refine qcw _ (N:=wr.heap.size+1) (by simp) rfl _ _ rfl w.heap.size u3 (numL h k) rfl (HO.bw (by go_grown)) (h k).v rfl (by omega) (by simp;omega) ?_;intro v' w4 o4 b4;have H4:Hid (OwnI w4 w.heap.size v' (numL h (k+1))):=o4.to HH.out;clear o4)
    go_roundw
    case rel=>exact ⟨k+1,by omega,by go_num,H4.out,Below.trans (by go_grown) b4⟩
    case measure=>simp [intOf];omega
  ·have hkl:k=len:=by omega
   have H4:Hid (OwnI wr w.heap.size u3 (numL h len)):=by
    have:=HO.out;rw [hkl] at this;exact this
   clear HO hkl;go_wp2;go_ret;exact ⟨_,rfl,H4.out,hbw⟩
