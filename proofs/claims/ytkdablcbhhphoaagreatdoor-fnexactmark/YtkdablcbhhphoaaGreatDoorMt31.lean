import Derived.Test.YtkdablcbhhphoaaGreatDoorMt30
import Derived.Test.YtkdablcbhhphoaaGreatDoorCards
import Derived.SevenTiedAt
namespace Go.Proofs.YtkdablcbhhphoaaGreatDoor
open Go.Proofs.Tryz
set_option maxRecDepth 100000
set_option maxHeartbeats 16000000
open Go.ChangeShapes Go.WideShapes Go.ChangeAt Go.RowKit Go.Deep
theorem qtj (os:Os) (started:os.Started) (H:Type) (enc:TypeId × Value->H):
  ReturnsInHanded {} Tryz.checked os 4 .any (fun w args => (Rows.fnExactMarkSpec.pre enc prog f4 [] false w args /\ laidMetH prog [("errors.errorType", Rows.laid_errors_errorType)] w) /\ sizedMet enc prog f4 (OpenSpec.ofChange Rows.fnExactMarkSpec) false w args)
   (Rows.fnExactMarkSpec.post enc prog f4 false true false false):=by
 refine returnsInHanded_of_change_and (C := Tryz.checked) (X := fun w _ => laidMetH prog [("errors.errorType", Rows.laid_errors_errorType)] w) (fun _ _ _ hh h => h.of_heap hh) Tryz.own started (by kernel_rfl) func4
  (ChangeSpec.witness_at (enc := enc) (C := Tryz.checked) (os := os) (X := fun w _ => laidMetH prog [("errors.errorType", Rows.laid_errors_errorType)] w) false (qnr os) #[.agg #[nS, nS, nS, nS, .bool false, nS, nS, nS], .int .i64 0, .int .i64 0] 8 rfl (by kernel_rfl) (by kernel_rfl) (by kernel_rfl) (by kernel_rfl) (by kernel_rfl) (qle os _)) ?_
 intro W base args ds gs before hval0 hW _ _ hL _;have hval:∀ (j:Nat) t v,f4.params[j]? = some t->args[j]? = some v->Value.okWide prog W .any base t v:=hval0;have hW':=hW;obtain ⟨p,q,hA0,hV,rfl,hfz,hnd⟩:=hW;have hA:DataW.TrodAll enc prog W 0 (fun _=>true) true f4.params.toList args.toList ds p:=hA0;rw [params4] at hA hval;obtain ⟨v0,v1,v2,d0,d1,d2,p0,p1,p2,rfl,rfl,rfl,h0,h1,h2⟩:=trodAll_three hA;obtain ⟨rfl,rfl⟩:=trodVars_none hV;obtain ⟨z1,rfl⟩:=okWide_int Tryz.underlying3 (hval 1 3 v1 rfl rfl);obtain ⟨z2,rfl⟩:=okWide_int Tryz.underlying3 (hval 2 3 v2 rfl rfl);have lt0:∀ x ∈ p0,x.block<W.heap.size:=by obtain ⟨m,hm⟩:=h0;exact DataW.trod_lt m _ _ _ hm
 have lt1:∀ x ∈ p1,x.block<W.heap.size:=by obtain ⟨m,hm⟩:=h1;exact DataW.trod_lt m _ _ _ hm
 have lt2:∀ x ∈ p2,x.block<W.heap.size:=by obtain ⟨m,hm⟩:=h2;exact DataW.trod_lt m _ _ _ hm
 have hg:=qjc hL;clear hA0 hval0
 have hlaw:Calls prog 4 #[v0,.int .i64 z1,.int .i64 z2] W (rB W (.bool true)):=by
  obtain ⟨x,e,hr,hm,hy⟩:=qvh (hval 0 34 v0 rfl rfl) h0;by_cases hs:x.size<=1048576
  ·obtain ⟨y,ey,hok,hys⟩:=hy hs
   rw [ey];exact qlq y z1 z2 W hys hok hg
  ·rw [e]
   exact qlp x z1 z2 W hr hm (by omega)
 refine hlaw.mono fun e W' ⟨he,bel⟩=>?_;subst he;exact ⟨_,rfl,_,_,_,[],_,[],hW',trodAll_mk1 (shut_bool Tryz.underlying4 _),(trodAll_cons_mk (Below.trod Tryz.laidOut (by kernel_rfl) (of_decide_eq_true (by kernel_rfl)) h0 bel lt0) (trodAll_cons_mk (Below.trod Tryz.laidOut (by kernel_rfl) (of_decide_eq_true (by kernel_rfl)) h1 bel lt1) (trodAll_cons_mk (Below.trod Tryz.laidOut (by kernel_rfl) (of_decide_eq_true (by kernel_rfl)) h2 bel lt2) trodAll_mk0))),rfl,bel.frame _,fun h=>by cases h⟩
theorem qaw {a b:Bool} (h:a=true) (k:b=true):(a && b)=true:=by rw [h,k];rfl
theorem qzb:(Rows.fnExactMarkRow.inPlace == Tryz.pinned.checked.prog.inPlace 4)=true:=by kernel_rfl
theorem qzc:(Rows.fnExactMarkRow.unfollowed == Tryz.pinned.checked.prog.unfollowed 4)=true:=by kernel_rfl
theorem qzd:(Rows.fnExactMarkRow.recurses == Tryz.pinned.checked.prog.recurses 4)=true:=by kernel_rfl
theorem qze:(Rows.fnExactMarkRow.named == Tryz.pinned.checked.prog.varsNamed 4)=true:=by kernel_rfl
theorem qti:joinedFacts Tryz.pinned.checked.prog 4 f4 Rows.fnExactMarkSpec Rows.fnExactMarkRow=true:=
 qaw (qaw (qaw (qaw (qaw (qaw (qaw (qaw (qaw (qaw (qaw (qaw (qaw (qaw (qaw (qaw (qaw (qaw (qaw (qaw (qaw (qaw (qaw (qaw (qaw (qaw (qaw (qaw (qaw (qaw (qaw (by kernel_rfl) (by kernel_rfl)) (by kernel_rfl)) (by kernel_rfl)) (by kernel_rfl)) (by kernel_rfl)) (by kernel_rfl)) (by kernel_rfl)) (by kernel_rfl)) qzb) qzc) qzd) qze) (by kernel_rfl)) (by kernel_rfl)) (by kernel_rfl)) (by kernel_rfl)) (by kernel_rfl)) (by kernel_rfl)) (by kernel_rfl)) (by kernel_rfl)) (by kernel_rfl)) (by kernel_rfl)) (by kernel_rfl)) (by kernel_rfl)) (by kernel_rfl)) (by kernel_rfl)) (by kernel_rfl)) (by kernel_rfl)) (by kernel_rfl)) (by kernel_rfl)) (by kernel_rfl)
theorem qwz:Rows.FnExactMarkSaid:=
 OpenClaim.holds_of_wide 4 f4 rfl rfl rfl rfl rfl rfl rfl ⟨rfl,rfl,rfl,rfl,rfl⟩ rfl rfl rfl rfl rfl (by kernel_rfl) func4 qti
  (of_decide_eq_true (by kernel_rfl)) (by unfold Func.isWrapper;first|(rw [nC (by decide +kernel)];kernel_rfl)|(rw [nB (by decide +kernel)];exact ⟨rfl,rfl⟩))
  (fun os started H enc _=>qtj os started H enc)
theorem qvb (f : FuncId) (fn : Func) (hf : Tryz.pinned.checked.prog.funcNamed "loop.example/g00196/laws.FnExactMark" = some f) (hfn : Tryz.pinned.checked.prog.funcs[f]? = some fn) :
  true=Tryz.pinned.checked.prog.looks []/\∀ (j:Nat) t,fn.params[j]? = some t->Tryz.pinned.checked.prog.wantsStandIn t=false:=by
 obtain rfl : f = 4 := Option.some.inj ((show prog.funcNamed "loop.example/g00196/laws.FnExactMark" = some 4 by kernel_rfl).symm.trans hf) |>.symm
 obtain rfl:fn=f4:=(Option.some.inj (func4.symm.trans hfn)).symm;refine ⟨by kernel_rfl,fun j t ht=>?_⟩;rw [params4] at ht;have hm:=Array.mem_of_getElem? ht;simp at hm
 rcases hm with rfl | rfl
 ·exact (show prog.wantsStandIn 34=false by kernel_rfl)
 ·exact (show prog.wantsStandIn 3=false by kernel_rfl)
theorem mark_card:Rows.FnExactMarkCardSaid:=
 Claim7.holds_tied_plain_at .later [] _ _ _ _ qwz (fun _ h=>by cases h) (by kernel_rfl) (fun _ h=>by cases h) fnExactMark_row_tie rfl ⟨rfl,rfl⟩ (by kernel_rfl) rfl qvb (by kernel_rfl)
