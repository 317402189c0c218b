/- The walk of the program's Restore. -/
import Derived.Test.YtkoghgnbolaooaaRows
import Derived.OrdersHeld
import Derived.Deep.RegionHeld3
import Derived.Test.YtkoghgnbolaooaaKa40
import Derived.Test.YtkoghgnbolaooaaKa43
namespace Go.Proofs.Ytkoghgnbolaooaa
open Go

section
variable {P : Program} {ops : Array Oper} {Q : Exit → Act → World → Prop} {md : Region.Mode} {S : World → Prop} {G : Nat → Bool}

/-- Whatever order is picked; S holds behind every operation that is not of G. -/
def wpG (P : Program) (md : Region.Mode) (ops : Array Oper) (Q : Exit → Act → World → Prop) (S : World → Prop) (G : Nat → Bool) : Nat → Array Bool → Act → World → Prop
  | 0, listed, a, w => Region.ready md ops listed = [] ∧ Q .normal a w
  | fuel + 1, listed, a, w => (Region.ready md ops listed = [] → Q .normal a w) ∧ ∀ i ∈ Region.ready md ops listed, wpOp P ops Q i (fun a' w' => (S w → G i = false → S w') ∧ wpG P md ops Q S G fuel (listed.setIfInBounds i true) a' w') a w
theorem wpAny_of_G : ∀ (fuel : Nat) (listed : Array Bool) (a : Act) (w : World), wpG P md ops Q S G fuel listed a w → wpAny P md ops Q fuel listed a w
  | 0, _, _, _, h => h
  | fuel + 1, _, _, _, h => ⟨h.1, fun i hi => wpOp_mono (fun a' w' h' => wpAny_of_G fuel _ a' w' h'.2) (h.2 i hi)⟩

/-- Whatever is of G and has not come up waits for number i. -/
def waitG (md : Region.Mode) (ops : Array Oper) (G : Nat → Bool) (listed : Array Bool) (i : Nat) : Bool :=
  (List.range ops.size).all fun j => !G j || listed.getD j true || match ops[j]? with
    | some oj => oj.after.any fun e => Region.binds md e && e.on == i
    | none => true
theorem waitG_spec {listed : Array Bool} {i : Nat} (h : waitG md ops G listed i = true) {j : Nat} {oj : Oper} (hj : ops[j]? = some oj) (hg : G j = true) (hu : listed.getD j true = false) : ∃ e ∈ oj.after, Region.binds md e = true ∧ e.on = i := by
  simp only [waitG, List.all_eq_true, List.mem_range] at h
  have h1 := h j (Array.getElem?_eq_some_iff.1 hj).1
  simp only [hj, hg, hu, Bool.not_true, Bool.false_or] at h1
  obtain ⟨e, he, hb⟩ := Array.any_eq_true'.1 h1
  simp only [Bool.and_eq_true, beq_iff_eq] at hb
  exact ⟨e, he, hb.1, hb.2⟩

theorem wpG_first {i : Nat} {oi : Oper} {v : Value} (hi : ops[i]? = some oi) (hsel : ∀ (j : Nat) (o : Oper) cs b, ops[j]? = some o → o.op ≠ .select cs b)
    (hQ : ∀ c a w, Q (.panic c) (a.put oi.dst v) w → Q (.panic c) a w) :
    ∀ (fuel : Nat) (listed : Array Bool) (a : Act) (w : World),
      (∀ j oj, ops[j]? = some oj → j ≠ i → listed.getD j true = false → (∀ e ∈ oj.after, Region.binds md e = true → e.on ≠ i) → oi.apart ops oj = true) →
      (∀ j oj, ops[j]? = some oj → G j = true → listed.getD j true = false → ∃ e ∈ oj.after, Region.binds md e = true ∧ e.on = i) →
      i ∈ Region.ready md ops listed → YieldsIf P ops S oi v a → S w →
      wpG P md ops Q S G fuel (listed.setIfInBounds i true) (a.put oi.dst v) w → wpG P md ops Q S G (fuel + 1) listed a w := by
  intro fuel
  induction fuel with
  | zero =>
    intro listed a w _ _ hr hy hS H
    refine ⟨fun h => (by rw [h] at hr; cases hr), fun j hj => ?_⟩
    by_cases hji : j = i
    · subst hji
      exact hy.wpOp hi hS ⟨fun _ _ => hS, H⟩
    · have := ready_mono hj hji
      rw [H.1] at this
      cases this
  | succ fuel ih =>
    intro listed a w hfree hG hr hy hS H
    refine ⟨fun h => (by rw [h] at hr; cases hr), fun j hj => ?_⟩
    by_cases hji : j = i
    · subst hji
      exact hy.wpOp hi hS ⟨fun _ _ => hS, H⟩
    · obtain ⟨hjun, oj, hoj, hall⟩ := mem_ready.1 hj
      have hiun := (mem_ready.1 hr).1
      have hnot : ∀ e ∈ oj.after, Region.binds md e = true → e.on ≠ i := fun e he hb heq => by
        have h1 := hall e he hb
        rw [heq] at h1
        rcases Nat.lt_or_ge i listed.size with h' | h'
        · simp [h'] at hiun h1
          rw [hiun] at h1
          cases h1
        · simp [Array.getElem?_eq_none h'] at h1
      have hGj : G j = false := by
        cases hg : G j with
        | false => rfl
        | true =>
          obtain ⟨e, he, hb, heq⟩ := hG j oj hoj hg hjun
          exact absurd heq (hnot e he hb)
      have h2 := wpOp_putIf hoj (hfree j oj hoj hji hjun hnot) (fun cs b => hsel i oi cs b hi) (fun cs b => hsel j oj cs b hoj) hQ hy (H.2 j (ready_mono hj hji))
      have hun' : ∀ k, (listed.setIfInBounds j true).getD k true = false → listed.getD k true = false := fun k hk => by
        by_cases hjk : j = k
        · subst hjk
          exact hjun
        · rw [_root_.Go.getD_set_ne true hjk] at hk
          exact hk
      refine wpOp_mono (fun a' w' h3 => ⟨h3.2.1, ih (listed.setIfInBounds j true) a' w' (fun k ok hk hki hun hno => hfree k ok hk hki (hun' k hun) hno) (fun k ok hk hg hun => hG k ok hk hg (hun' k hun)) (ready_mono hr (Ne.symm hji)) h3.1 (h3.2.1 hS hGj) ?_⟩) h2
      rw [Array.setIfInBounds_comm _ _ hji]
      exact h3.2.2

/-- What yields in whatever world may be taken first, whoever writes. -/
theorem wpG_firstW {i : Nat} {oi : Oper} {v : Value} (hi : ops[i]? = some oi) (hsel : ∀ (j : Nat) (o : Oper) cs b, ops[j]? = some o → o.op ≠ .select cs b)
    (hQ : ∀ c a w, Q (.panic c) (a.put oi.dst v) w → Q (.panic c) a w) :
    ∀ (fuel : Nat) (listed : Array Bool) (a : Act) (w : World),
      (∀ j oj, ops[j]? = some oj → j ≠ i → listed.getD j true = false → (∀ e ∈ oj.after, Region.binds md e = true → e.on ≠ i) → oi.apart ops oj = true) →
      i ∈ Region.ready md ops listed → YieldsIf P ops (fun _ => True) oi v a →
      wpG P md ops Q S G fuel (listed.setIfInBounds i true) (a.put oi.dst v) w → wpG P md ops Q S G (fuel + 1) listed a w := by
  intro fuel
  induction fuel with
  | zero =>
    intro listed a w _ hr hy H
    refine ⟨fun h => (by rw [h] at hr; cases hr), fun j hj => ?_⟩
    by_cases hji : j = i
    · subst hji
      exact hy.wpOp hi trivial ⟨fun h _ => h, H⟩
    · have := ready_mono hj hji
      rw [H.1] at this
      cases this
  | succ fuel ih =>
    intro listed a w hfree hr hy H
    refine ⟨fun h => (by rw [h] at hr; cases hr), fun j hj => ?_⟩
    by_cases hji : j = i
    · subst hji
      exact hy.wpOp hi trivial ⟨fun h _ => h, H⟩
    · obtain ⟨hjun, oj, hoj, hall⟩ := mem_ready.1 hj
      have hiun := (mem_ready.1 hr).1
      have hnot : ∀ e ∈ oj.after, Region.binds md e = true → e.on ≠ i := fun e he hb heq => by
        have h1 := hall e he hb
        rw [heq] at h1
        rcases Nat.lt_or_ge i listed.size with h' | h'
        · simp [h'] at hiun h1
          rw [hiun] at h1
          cases h1
        · simp [Array.getElem?_eq_none h'] at h1
      have h2 := wpOp_putIf hoj (hfree j oj hoj hji hjun hnot) (fun cs b => hsel i oi cs b hi) (fun cs b => hsel j oj cs b hoj) hQ hy (H.2 j (ready_mono hj hji))
      have hun' : ∀ k, (listed.setIfInBounds j true).getD k true = false → listed.getD k true = false := fun k hk => by
        by_cases hjk : j = k
        · subst hjk
          exact hjun
        · rw [_root_.Go.getD_set_ne true hjk] at hk
          exact hk
      refine wpOp_mono (fun a' w' h3 => ⟨h3.2.1, ih (listed.setIfInBounds j true) a' w' (fun k ok hk hki hun hno => hfree k ok hk hki (hun' k hun) hno) (ready_mono hr (Ne.symm hji)) h3.1 ?_⟩) h2
      rw [Array.setIfInBounds_comm _ _ hji]
      exact h3.2.2
theorem wpG_takeW (i : Nat) {oi : Oper} {fuel : Nat} {listed : Array Bool} {a : Act} {w : World} (hi0 : ops.toList[i]? = some oi) (hs : Region.noSelect ops = true) (hf : Region.free md ops listed i = true) (hr : (Region.ready md ops listed).contains i = true)
    (hQ : ∀ v c a w, Q (.panic c) (a.put oi.dst v) w → Q (.panic c) a w) (hw : Region.wanted oi (yielded ops a.tmps) = true)
    (h : ∃ v, (∀ w, (execOp a.eval oi).run P w = .ok (.value v) w) ∧ wpG P md ops Q S G fuel (listed.setIfInBounds i true) (a.put oi.dst v) w) : wpG P md ops Q S G (fuel + 1) listed a w := by
  obtain ⟨v, hv, h⟩ := h
  have hi : ops[i]? = some oi := by rw [← Array.getElem?_toList]; exact hi0
  exact wpG_firstW hi (Region.noSelect_spec hs) (hQ v) fuel listed a w (Region.free_spec hi hf) (by simpa using hr) (.inl ⟨hw, fun w _ => hv w⟩) h

/-- Take number i first. -/
theorem wpG_take (i : Nat) {oi : Oper} {fuel : Nat} {listed : Array Bool} {a : Act} {w : World} (hi0 : ops.toList[i]? = some oi) (hS : S w)
    (h : ∃ v, (∀ w, S w → (execOp a.eval oi).run P w = .ok (.value v) w) ∧ wpG P md ops Q S G fuel (listed.setIfInBounds i true) (a.put oi.dst v) w) (hs : Region.noSelect ops = true := by kernel_rfl) (hf : Region.free md ops listed i = true := by kernel_rfl) (hr : (Region.ready md ops listed).contains i = true := by kernel_rfl) (hg : waitG md ops G listed i = true := by kernel_rfl)
    (hQ : ∀ v c a w, Q (.panic c) (a.put oi.dst v) w → Q (.panic c) a w := by exact fun _ _ _ _ h => h) (hw : Region.wanted oi (yielded ops a.tmps) = true := by rfl) : wpG P md ops Q S G (fuel + 1) listed a w := by
  obtain ⟨v, hv, h⟩ := h
  have hi : ops[i]? = some oi := by rw [← Array.getElem?_toList]; exact hi0
  exact wpG_first hi (Region.noSelect_spec hs) (hQ v) fuel listed a w (Region.free_spec hi hf) (fun j oj hj hgj hu => waitG_spec hg hj hgj hu) (by simpa using hr) (.inl ⟨hw, hv⟩) hS h
/-- What is not wanted is passed over. -/
theorem wpG_skip (i : Nat) {oi : Oper} {fuel : Nat} {listed : Array Bool} {a : Act} {w : World} (hi0 : ops.toList[i]? = some oi)
    (h : wpG P md ops Q S G fuel (listed.setIfInBounds i true) (a.put oi.dst undef) w) (hs : Region.noSelect ops = true := by kernel_rfl) (hf : Region.free md ops listed i = true := by kernel_rfl) (hr : (Region.ready md ops listed).contains i = true := by kernel_rfl)
    (hQ : ∀ v c a w, Q (.panic c) (a.put oi.dst v) w → Q (.panic c) a w := by exact fun _ _ _ _ h => h) (hw : Region.wanted oi (yielded ops a.tmps) = false := by rfl) : wpG P md ops Q S G (fuel + 1) listed a w := by
  have hi : ops[i]? = some oi := by rw [← Array.getElem?_toList]; exact hi0
  exact wpG_firstW hi (Region.noSelect_spec hs) (hQ undef) fuel listed a w (Region.free_spec hi hf) (by simpa using hr) (.inr ⟨hw, rfl⟩) h
/-- As wpG; the numbers that come next stand by. -/
def wpGT (P : Program) (md : Region.Mode) (ops : Array Oper) (Q : Exit → Act → World → Prop) (S : World → Prop) (G : Nat → Bool) (_ : List Nat) (fuel : Nat) (listed : Array Bool) (a : Act) (w : World) : Prop := wpG P md ops Q S G fuel listed a w
theorem wpGT_of (is : List Nat) {fuel : Nat} {listed : Array Bool} {a : Act} {w : World} (h : wpGT P md ops Q S G is fuel listed a w) : wpG P md ops Q S G fuel listed a w := h
theorem wpGT_nil {fuel : Nat} {listed : Array Bool} {a : Act} {w : World} (h : wpG P md ops Q S G fuel listed a w) : wpGT P md ops Q S G [] fuel listed a w := h
theorem wpGT_take {i : Nat} {is : List Nat} {oi : Oper} {fuel : Nat} {listed : Array Bool} {a : Act} {w : World} (hi0 : ops.toList[i]? = some oi) (hS : S w)
    (h : ∃ v, (∀ w, S w → (execOp a.eval oi).run P w = .ok (.value v) w) ∧ wpGT P md ops Q S G is fuel (listed.setIfInBounds i true) (a.put oi.dst v) w) (hs : Region.noSelect ops = true := by kernel_rfl) (hf : Region.free md ops listed i = true := by kernel_rfl) (hr : (Region.ready md ops listed).contains i = true := by kernel_rfl) (hg : waitG md ops G listed i = true := by kernel_rfl)
    (hQ : ∀ v c a w, Q (.panic c) (a.put oi.dst v) w → Q (.panic c) a w := by exact fun _ _ _ _ h => h) (hw : Region.wanted oi (yielded ops a.tmps) = true := by rfl) : wpGT P md ops Q S G (i :: is) (fuel + 1) listed a w := wpG_take i hi0 hS h hs hf hr hg hQ hw
/-- Number i alone may come up. -/
theorem wpG_one (i : Nat) {oi : Oper} {fuel : Nat} {listed : Array Bool} {a : Act} {w : World} (hi0 : ops.toList[i]? = some oi) (hr : Region.ready md ops listed = [i])
    (h : ∀ K' : Act → World → Prop, Shut (∀ a w, (G i = false → S w) → wpG P md ops Q S G fuel (listed.setIfInBounds i true) a w → K' a w) → if Region.wanted oi (yielded ops a.tmps) = true then Oper.wp P oi a w K' Q else K' (a.put oi.dst undef) w) : wpG P md ops Q S G (fuel + 1) listed a w :=
  ⟨fun h0 => (by rw [hr] at h0; cases h0), fun j hj => by
    rw [hr] at hj
    obtain rfl := List.mem_singleton.1 hj
    have hi : ops[j]? = some oi := by rw [← Array.getElem?_toList]; exact hi0
    exact wpOp_step hi fun K' hK => h K' fun a w h1 h2 => hK a w ⟨fun _ => h1, h2⟩⟩
/-- Either of two may come up. -/
theorem wpG_two (i j : Nat) {oi oj : Oper} {fuel : Nat} {listed : Array Bool} {a : Act} {w : World} (hi0 : ops.toList[i]? = some oi) (hj0 : ops.toList[j]? = some oj) (hr : Region.ready md ops listed = [i, j])
    (h : ∀ K' : Act → World → Prop, Shut (∀ a w, (G i = false → S w) → wpG P md ops Q S G fuel (listed.setIfInBounds i true) a w → K' a w) → if Region.wanted oi (yielded ops a.tmps) = true then Oper.wp P oi a w K' Q else K' (a.put oi.dst undef) w)
    (h' : ∀ K' : Act → World → Prop, Shut (∀ a w, (G j = false → S w) → wpG P md ops Q S G fuel (listed.setIfInBounds j true) a w → K' a w) → if Region.wanted oj (yielded ops a.tmps) = true then Oper.wp P oj a w K' Q else K' (a.put oj.dst undef) w) : wpG P md ops Q S G (fuel + 1) listed a w :=
  ⟨fun h0 => (by rw [hr] at h0; cases h0), fun k hk => by
    rw [hr] at hk
    have hi : ops[i]? = some oi := by rw [← Array.getElem?_toList]; exact hi0
    have hj : ops[j]? = some oj := by rw [← Array.getElem?_toList]; exact hj0
    rcases List.mem_cons.1 hk with rfl | hk
    · exact wpOp_step hi fun K' hK => h K' fun a w h1 h2 => hK a w ⟨fun _ => h1, h2⟩
    · obtain rfl := List.mem_singleton.1 hk
      exact wpOp_step hj fun K' hK => h' K' fun a w h1 h2 => hK a w ⟨fun _ => h1, h2⟩⟩
theorem wpG_done {listed : Array Bool} {a : Act} {w : World} (hr : Region.ready md ops listed = []) (h : Q .normal a w) : ∀ fuel, wpG P md ops Q S G fuel listed a w
  | 0 => ⟨hr, h⟩
  | _ + 1 => ⟨fun _ => h, by rw [hr]; simp⟩
theorem wp_region_G {id : Nat} {a : Act} {w : World} (S : World → Prop) (G : Nat → Bool) (hm : P.follows .mixedOrders = true) (h : wpG P .any ops Q S G ops.size (Array.replicate ops.size false) a w.drew) : (Code.region id ops true).wp P Q a w :=
  wp_region_any hm (wpAny_of_G _ _ _ _ h)
end
/-- A call that is wanted, by its contract, as one step of a region that draws. -/
theorem stepR_callD {ops : Array Oper} {o : Oper} {a : Act} {w : World} {K : Act → World → Prop} {Q : Exit → Act → World → Prop} {E : Prop} (hw : Region.wanted o (yielded ops a.tmps) = true) (f : FuncId) (args : Array Operand) (ts : Array TypeId)
    (ho : o.op = .call { callee := .value (.func f), args := args, argTypes := ts }) (vals : Array Value) (hv : args.map a.eval = vals) (hen : ∀ vs wx, (callFunc f vs).run Try.prog wx = .ok (.enter f vs) wx) {post : Ending → World → Prop} (hc : Calls Try.prog f vals w post)
    (h : ∀ e w', post e w' → ∃ v, e = .returned v ∧ K (a.put o.dst v) w') :
    if Region.wanted o (yielded ops a.tmps) = true then Oper.wp Try.prog o a w K Q else E := by
  rw [if_pos hw]
  have hr : (execOp a.eval o).run Try.prog w = .ok (.enter f vals) w := by
    unfold execOp
    simp [ho, resolve, invoke, hv, hen, Act.eval, Deferred.ofValue]
  unfold Oper.wp
  rw [hr, Oper.upon_enter]
  refine hc.mono fun e w' hp => ?_
  obtain ⟨v, rfl, hk⟩ := h e w' hp
  exact hk

end Go.Proofs.Ytkoghgnbolaooaa

namespace Go.Proofs.Ytkoghgnbolaooaa
open Go.ChangeShapes Go.WideShapes Go.ChangeAt Go.RowKit Go.Deep Go.Sort

/-- Which of the first k is the last one that is behind no more than z events. -/
def lastI (q : Nat → K9) (z : Int) : Nat → Nat
  | 0 => 0
  | k + 1 => if (q k).n ≤ z then k else lastI q z k
theorem lastI_lt (q : Nat → K9) (z : Int) : ∀ k, 0 < k → lastI q z k < k
  | 0, h => absurd h (by omega)
  | k + 1, _ => by
    unfold lastI
    split
    · omega
    · by_cases e : k = 0
      · subst e
        simp [lastI]
      · have := lastI_lt q z k (by omega)
        omega
theorem lastI_le {q : Nat → K9} {z : Int} (h0 : (q 0).n ≤ z) : ∀ k, (q (lastI q z k)).n ≤ z
  | 0 => h0
  | k + 1 => by
    unfold lastI
    split
    · assumption
    · exact lastI_le h0 k
theorem lastI_congr {q q' : Nat → K9} (z : Int) (h : ∀ i, (q' i).n = (q i).n) : ∀ k, lastI q' z k = lastI q z k
  | 0 => rfl
  | k + 1 => by
    unfold lastI
    rw [h k, lastI_congr z h k]

abbrev BoxK (w : World) (N : Nat) (x : K9) : Prop := Box5 w N (.int .i64 x.n) (.int .i64 x.p) (.slice x.ra x.rs.length x.rc) (.slice x.oa x.os.length x.oc) (.int .i64 x.c)
/-- Between the rounds of lastWithin. -/
structure Lw (w wr : World) (N : Nat) (x : K9) : Prop where
  be : Below w.heap.size w wr
  lb : BoxK wr (N + 1) x
  lf : ∀ j, wr.frozen? ⟨N + 1, j, none⟩ = false
  rb : Box5 wr N (.int .i64 0) (.int .i64 0) (.slice none 0 0) (.slice none 0 0) (.int .i64 0)
  rf : ∀ j, wr.frozen? ⟨N, j, none⟩ = false
  hN : N = w.heap.size
theorem Lw.below {w wr w' : World} {N : Nat} {x : K9} (h : Lw w wr N x) (hb : Below wr.heap.size wr w') : Lw w w' N x := by
  have e0 := hb.block N (World.block_lt_of_cell? wr _ h.rb.1)
  have e1 := hb.block (N + 1) (World.block_lt_of_cell? wr _ h.lb.1)
  exact ⟨h.be.trans (hb.mono h.be.size), h.lb.below hb, fun j => (World.frozen?_of_block e1).trans (h.lf j), h.rb.below hb, fun j => (World.frozen?_of_block e0).trans (h.rf j), h.hN⟩
theorem Lw.put {w wr : World} {N : Nat} {x : K9} (h : Lw w wr N x) (y : K9) : Lw w (((((wr.setCell ⟨N + 1, 0, none⟩ (.int .i64 y.n)).setCell ⟨N + 1, 1, none⟩ (.int .i64 y.p)).setCell ⟨N + 1, 2, none⟩ (.slice y.ra y.rs.length y.rc)).setCell ⟨N + 1, 3, none⟩ (.slice y.oa y.os.length y.oc)).setCell ⟨N + 1, 4, none⟩ (.int .i64 y.c)) N y := by
  have hl : w.heap.size ≤ N + 1 := by have := h.hN; omega
  refine ⟨((((h.be.setCell hl _).setCell hl _).setCell hl _).setCell hl _).setCell hl _, h.lb.set5 _ _ _ _ _, fun j => ?_, ((((h.rb.setO (by omega) _ _).setO (by omega) _ _).setO (by omega) _ _).setO (by omega) _ _).setO (by omega) _ _, fun j => ?_, h.hN⟩
  · simp only [World.frozen?_setCell]
    exact h.lf j
  · simp only [World.frozen?_setCell]
    exact h.rf j

set_option maxRecDepth 100000 in
set_option maxHeartbeats 2000000 in
theorem lastWithin_any (ka : Option Addr) (c kc : Nat) (q : Nat → K9) (z : Int) (w : World) (hc : c ≤ 1048576) (h0 : 0 < c) (hA : AllKept w ka c q) :
    Calls Try.prog 43 #[.slice ka c kc, .int .i64 z] w fun e w' => e = .returned (kpV (q (lastI q z c)).n (q (lastI q z c)).p (q (lastI q z c)).ra (q (lastI q z c)).rs.length (q (lastI q z c)).rc (q (lastI q z c)).oa (q (lastI q z c)).os.length (q (lastI q z c)).oc (q (lastI q z c)).c) ∧ Below w.heap.size w w' := by
  have hc' : (c : Int) ≤ 1048576 := by omega
  have hpos : (0 : Int) < (c : Int) := by omega
  obtain ⟨b, off, rfl, d0, d1, d2, d3, d4⟩ := hA.at h0
  simp only [Nat.zero_mul, Nat.add_zero] at d0 d1 d2 d3 d4
  have zb : b < w.heap.size := World.block_lt_of_cell? w _ d0
  have HA : Hid (AllKept w (some ⟨b, off, none⟩) c q) := hA
  clear hA
  have nb : w.heap.size ≠ b := by omega
  have HL0 : Hid (Lw w ((w.alloc (.cells #[.int .i64 0, .int .i64 0, .slice none 0 0, .slice none 0 0, .int .i64 0] 51)).alloc (.cells #[.int .i64 (q 0).n, .int .i64 (q 0).p, .slice (q 0).ra (q 0).rs.length (q 0).rc, .slice (q 0).oa (q 0).os.length (q 0).oc, .int .i64 (q 0).c] 51)) w.heap.size (q 0)) := by
    have bq := below_alloc (w.alloc (.cells #[.int .i64 0, .int .i64 0, .slice none 0 0, .slice none 0 0, .int .i64 0] 51)) (.cells #[.int .i64 (q 0).n, .int .i64 (q 0).p, .slice (q 0).ra (q 0).rs.length (q 0).rc, .slice (q 0).oa (q 0).os.length (q 0).oc, .int .i64 (q 0).c] 51)
    have n1 := Box5.new (w.alloc (.cells #[.int .i64 0, .int .i64 0, .slice none 0 0, .slice none 0 0, .int .i64 0] 51)) (.int .i64 (q 0).n) (.int .i64 (q 0).p) (.slice (q 0).ra (q 0).rs.length (q 0).rc) (.slice (q 0).oa (q 0).os.length (q 0).oc) (.int .i64 (q 0).c) 51
    have n2 := fun j => new_frozen (w.alloc (.cells #[.int .i64 0, .int .i64 0, .slice none 0 0, .slice none 0 0, .int .i64 0] 51)) #[.int .i64 (q 0).n, .int .i64 (q 0).p, .slice (q 0).ra (q 0).rs.length (q 0).rc, .slice (q 0).oa (q 0).os.length (q 0).oc, .int .i64 (q 0).c] 51 j rfl
    rw [World.size_alloc] at n1 n2
    exact ⟨by go_grown, n1, n2, (Box5.new w _ _ _ _ _ _).below bq, fun j => (World.frozen?_of_block (bq.block w.heap.size (by simp))).trans (new_frozen w _ _ j rfl), rfl⟩
  go_enter Try.func43, Try.ntmps43
  go_wp2_with fail
  generalize (w.alloc (.cells #[.int .i64 0, .int .i64 0, .slice none 0 0, .slice none 0 0, .int .i64 0] 51)).alloc (.cells #[.int .i64 (q 0).n, .int .i64 (q 0).p, .slice (q 0).ra (q 0).rs.length (q 0).rc, .slice (q 0).oa (q 0).os.length (q 0).oc, .int .i64 (q 0).c] 51) = w1 at *
  clear d0 d1 d2 d3 d4
  go_loopw [13] (fun i wr => ∃ k : Nat, k ≤ c ∧ i = .int .i64 k ∧ Hid (Lw w wr w.heap.size (q (lastI q z k)))) (fun i _ => c - (intOf i).toNat)
  case atStart => exact ⟨0, Nat.zero_le _, rfl, HL0.out⟩
  case round =>
    clear HL0
    obtain ⟨k, hk, rfl, HW⟩ := hrel
    by_cases hlt : k < c
    · have hlt' : (k : Int) < (c : Int) := by omega
      obtain ⟨b1, o1, e1, c0, c1, c2, c3, c4⟩ := (HA.out.below HW.out.be).at hlt
      simp only [Option.some.injEq, Addr.mk.injEq, and_true] at e1
      obtain ⟨rfl, rfl⟩ := e1
      have zw : w.heap.size + 1 < wr.heap.size := World.block_lt_of_cell? wr _ HW.out.lb.1
      have HI : Hid (lastI q z (k + 1) = if (q k).n ≤ z then k else lastI q z k) := rfl
      have HX : Hid (Lw w (wr.alloc (.cells #[.int .i64 (q k).n, .int .i64 (q k).p, .slice (q k).ra (q k).rs.length (q k).rc, .slice (q k).oa (q k).os.length (q k).oc, .int .i64 (q k).c] 51)) w.heap.size (q (lastI q z k))) := HW.out.below (below_alloc _ _)
      have NB : Hid (BoxK (wr.alloc (.cells #[.int .i64 (q k).n, .int .i64 (q k).p, .slice (q k).ra (q k).rs.length (q k).rc, .slice (q k).oa (q k).os.length (q k).oc, .int .i64 (q k).c] 51)) wr.heap.size (q k)) := Box5.new wr _ _ _ _ _ _
      go_upto_region 5 with fail
      generalize wr.alloc (.cells #[.int .i64 (q k).n, .int .i64 (q k).p, .slice (q k).ra (q k).rs.length (q k).rc, .slice (q k).oa (q k).os.length (q k).oc, .int .i64 (q k).c] 51) = w2 at *
      generalize wr.heap.size = M at *
      obtain ⟨n0, n1, n2, n3, n4⟩ := NB.out
      clear c0 c1 c2 c3 c4
      have nM : M ≠ w.heap.size + 1 := by omega
      rcases Bool.eq_false_or_eq_true (decide ((q k).n ≤ z)) with t | t
      · have HI' : Hid (lastI q z (k + 1) = k) := by
          show lastI q z (k + 1) = k
          rw [HI.out, if_pos (of_decide_eq_true t)]
        have HY : Hid (Lw w _ w.heap.size (q k)) := HX.out.put (q k)
        obtain ⟨l0, l1, l2, l3, l4⟩ := HX.out.lb
        have lf := HX.out.lf
        go_wp2
        go_roundw
        case rel => exact ⟨k + 1, by omega, by go_num, by rw [HI'.out]; exact HY.out⟩
        case measure => simp [intOf]; omega
      · have HI' : Hid (lastI q z (k + 1) = lastI q z k) := by
          show lastI q z (k + 1) = lastI q z k
          rw [HI.out, if_neg (of_decide_eq_false t)]
        go_wp2
        go_roundw
        case rel => exact ⟨k + 1, by omega, by go_num, by rw [HI'.out]; exact HX.out⟩
        case measure => simp [intOf]; omega
    · have hkl : k = c := by omega
      subst hkl
      obtain ⟨l0, l1, l2, l3, l4⟩ := HW.out.lb
      obtain ⟨r0, r1, r2, r3, r4⟩ := HW.out.rb
      have rf := HW.out.rf
      have be := HW.out.be
      have nN : w.heap.size + 1 ≠ w.heap.size := by omega
      go_wp2
      refine bodyPost_ret (v := kpV (q (lastI q z k)).n (q (lastI q z k)).p (q (lastI q z k)).ra (q (lastI q z k)).rs.length (q (lastI q z k)).rc (q (lastI q z k)).oa (q (lastI q z k)).os.length (q (lastI q z k)).oc (q (lastI q z k)).c) (by simp [results, Try.results43, go_sem, r0, r1, r2, r3, r4]) rfl ⟨rfl, ?_⟩
      exact ((((be.setCell (Nat.le_refl _) _).setCell (Nat.le_refl _) _).setCell (Nat.le_refl _) _).setCell (Nat.le_refl _) _).setCell (Nat.le_refl _) _

end Go.Proofs.Ytkoghgnbolaooaa

namespace Go.Proofs.Ytkoghgnbolaooaa
open Go.ChangeShapes Go.WideShapes Go.ChangeAt Go.RowKit Go.Deep Go.Sort

/-- There is something to restore. -/
def RsOk (g : Nat → I5) (n : Nat) (eh : Nat → E3) (m : Nat) (q : Nat → K9) (c : Nat) (z : Int) : Prop := KpOk g n eh m q c ∧ 0 ≤ z ∧ z ≤ m
/-- What is restored, and with how many done again. -/
noncomputable def rsS (g : Nat → I5) (n : Nat) (eh : Nat → E3) (m : Nat) (q : Nat → K9) (c : Nat) (z : Int) : S4 := if pB (RsOk g n eh m q c z) = true then resS (rp g n eh z.toNat) else ⟨0, [], [], 0⟩
noncomputable def rsK (g : Nat → I5) (n : Nat) (eh : Nat → E3) (m : Nat) (q : Nat → K9) (c : Nat) (z : Int) : Int := if pB (RsOk g n eh m q c z) = true then z - (q (lastI q z c)).n else -1
def ResR (w : World) (S : S4) (k : Int) (e : Ending) (w' : World) : Prop := ∃ v, e = .returned (.tuple #[v, .int .i64 k]) ∧ StOwn w' w.heap.size v S.p S.rs S.os S.c ∧ Below w.heap.size w w'
theorem rs_no {g : Nat → I5} {n m c : Nat} {eh : Nat → E3} {q : Nat → K9} {z : Int} (h : ¬ RsOk g n eh m q c z) : rsS g n eh m q c z = ⟨0, [], [], 0⟩ ∧ rsK g n eh m q c z = -1 := by
  unfold rsS rsK
  rw [if_neg (by rw [pB_false h]; simp), if_neg (by rw [pB_false h]; simp)]
  exact ⟨rfl, rfl⟩
/-- Where there is: from the state a events in, those up to j are done again. -/
theorem rs_yes {g : Nat → I5} {n m c : Nat} {eh : Nat → E3} {q : Nat → K9} {z : Int} (h : RsOk g n eh m q c z) : ∃ (a j : Nat) (S Sm : S4), z = j ∧ a ≤ j ∧ j ≤ m ∧ m ≤ 200 ∧ (q (lastI q z c)).n = a ∧ lastI q z c < c ∧ rp g n eh a = some (q (lastI q z c)).s ∧ rp g n eh j = some S ∧ rp g n eh m = some Sm ∧ progOkB g n 4 = true ∧ rsS g n eh m q c z = S ∧ rsK g n eh m q c z = (j : Int) - (a : Int) := by
  obtain ⟨hk, h0, h1⟩ := h
  obtain ⟨hp, h2, Sm, hm⟩ := repO_prog hk.so
  have hl := lastI_lt q z c hk.li.1
  have hle : (q (lastI q z c)).n ≤ z := lastI_le (by rw [hk.li.2.1]; exact h0) c
  have ha := hk.al _ hl
  obtain ⟨S, hS⟩ := rp_some hm (show z.toNat ≤ m by omega)
  refine ⟨(q (lastI q z c)).n.toNat, z.toNat, S, Sm, by omega, ?_, by omega, h2, ?_, hl, ha.2.2, hS, hm, hp, ?_, ?_⟩
  · have := ha.1
    omega
  · have := ha.1
    omega
  · unfold rsS
    rw [if_pos (pB_true ⟨hk, h0, h1⟩), hS]
    rfl
  · unfold rsK
    rw [if_pos (pB_true ⟨hk, h0, h1⟩)]
    have := ha.1
    omega

theorem Rl.start {w w4 : World} {B4 : Nat} {S : S4} {ra oa : Option Addr} {rc oc : Nat} (b : Below (w.heap.size + 1) (w.alloc (.cells #[.int .i64 0, .slice none 0 0, .slice none 0 0, .int .i64 0] 47)) w4) (o : StOwn w4 B4 (stV S.p ra S.rs.length rc oa S.os.length oc S.c) S.p S.rs S.os S.c) (h1 : w.heap.size + 1 ≤ B4) (h2 : B4 ≤ w4.heap.size) :
    Rl w (w4.alloc (.cells #[.int .i64 S.p, .slice ra S.rs.length rc, .slice oa S.os.length oc, .int .i64 S.c] 47)) w.heap.size w4.heap.size S.p S.c ra rc oa oc S.rs S.os := by
  have bB := below_alloc w4 (.cells #[.int .i64 S.p, .slice ra S.rs.length rc, .slice oa S.os.length oc, .int .i64 S.c] 47)
  have bC := b.trans (bB.mono (Nat.le_trans h1 h2))
  have eR := bC.block w.heap.size (by omega)
  obtain ⟨r0, r1, r2, r3⟩ := BoxC.new w (.int .i64 0) (.slice none 0 0) (.slice none 0 0) (.int .i64 0) 47
  refine ⟨(Tl.of_alloc (o.mono h1) (Nat.le_trans h1 h2) _).widen (by simp) (Nat.le_refl _), fun j => new_frozen _ _ _ j rfl, ⟨(World.cell?_of_block eR).trans r0, (World.cell?_of_block eR).trans r1, (World.cell?_of_block eR).trans r2, (World.cell?_of_block eR).trans r3⟩, fun j => (World.frozen?_of_block eR).trans (new_frozen _ _ _ j rfl), (below_alloc w _).trans (bC.mono (by omega)), rfl⟩

theorem slice_ev {w : World} {ea : Option Addr} {m ec : Nat} {eh : Nat → E3} (hE : EvL w ea m eh) (hec : m ≤ ec) {a j : Nat} (haj : a ≤ j) (hj : j ≤ m) :
    ∃ a', (∀ w', (Instr.slice 31 (.slice ea m ec) (some (.int .i64 (a : Int))) (some (.int .i64 (j : Int))) none).run Try.prog w' = .ok (.slice a' (j - a) (ec - a)) w') ∧ EvL w a' (j - a) (fun i => eh (a + i)) := by
  have h1 : (a : Int) ≤ (j : Int) := by omega
  have h2 : (j : Int) ≤ (ec : Int) := by omega
  rcases hE with rfl | ⟨b, off, rfl, hb, hc⟩
  · obtain rfl : j = 0 := by omega
    obtain rfl : a = 0 := by omega
    cases ea with
    | none => exact ⟨none, fun w' => by simp [go_sem, sliced], .inl rfl⟩
    | some x => exact ⟨some x, fun w' => by simp [go_sem, sliced, Addr.add], .inl rfl⟩
  · by_cases hz : ec = a
    · refine ⟨some ⟨b, off, none⟩, fun w' => ?_, .inl (by omega)⟩
      obtain rfl : j = a := by omega
      subst hz
      simp [go_sem, sliced]
    · refine ⟨some ⟨b, off + a * 3, none⟩, fun w' => ?_, .inr ⟨b, off + a * 3, rfl, hb, fun i hi => ?_⟩⟩
      · simp [go_sem, sliced, h1, h2, hz, Addr.add]
      · have := hc (a + i) (by omega)
        rw [show off + (a + i) * 3 = off + a * 3 + i * 3 by omega] at this
        exact this

/-- An event in block N. -/
def BoxE3 (w : World) (N : Nat) (x : E3) : Prop := w.cell? ⟨N, 0, none⟩ = some (.int .i64 x.k) ∧ w.cell? ⟨N, 1, none⟩ = some (.int .i64 x.q) ∧ w.cell? ⟨N, 2, none⟩ = some (.int .i64 x.v)

set_option maxRecDepth 100000 in
set_option maxHeartbeats 2000000 in
theorem implRestore_any (gb n gc : Nat) (ea : Option Addr) (m ec : Nat) (ka : Option Addr) (c kc : Nat) (g : Nat → I5) (eh : Nat → E3) (q : Nat → K9) (z : Int) (w : World) (hn : n ≤ maxLen) (hg : gb < w.heap.size) (hI : InsAt w gb 0 n g) (hE : EvL w ea m eh) (hm : m ≤ 1048576) (hec : m ≤ ec) (hc : c ≤ 1048576) (hA : AllKept w ka c q) (hl : ∀ i, i < c → (q i).rs.length ≤ 1048576 ∧ (q i).os.length ≤ 1048576) (hw : ∀ i, i < c → (Lit.int .i64 (q i).n).wf = true) :
    Calls Try.prog 32 #[.slice (some ⟨gb, 0, none⟩) n gc, .slice ea m ec, .slice ka c kc, .int .i64 z] w (ResR w (rsS g n eh m q c z) (rsK g n eh m q c z)) := by
  have hm' : (m : Int) ≤ 1048576 := by omega
  have HI : Hid (InsAt w gb 0 n g) := hI
  have HE : Hid (EvL w ea m eh) := hE
  have HN : Hid (n ≤ maxLen) := hn
  have HA : Hid (AllKept w ka c q) := hA
  have HL : Hid (∀ i, i < c → (q i).rs.length ≤ 1048576 ∧ (q i).os.length ≤ 1048576) := hl
  have BA : Hid (Below w.heap.size w (w.alloc (.cells #[.int .i64 0, .slice none 0 0, .slice none 0 0, .int .i64 0] 47))) := below_alloc _ _
  have NB : Hid (BoxC (w.alloc (.cells #[.int .i64 0, .slice none 0 0, .slice none 0 0, .int .i64 0] 47)) w.heap.size (.int .i64 0) (.slice none 0 0) (.slice none 0 0) (.int .i64 0) ∧ ∀ j, (w.alloc (.cells #[.int .i64 0, .slice none 0 0, .slice none 0 0, .int .i64 0] 47)).frozen? ⟨w.heap.size, j, none⟩ = false) := ⟨BoxC.new w _ _ _ _ _, fun j => new_frozen _ _ _ j rfl⟩
  have HK : Hid (∀ wx, Below w.heap.size w wx → Calls Try.prog 12 #[.slice (some ⟨gb, 0, none⟩) n gc, .slice ea m ec, .slice ka c kc] wx fun e w' => e = .returned (.bool (pB (KpOk g n eh m q c))) ∧ Below wx.heap.size wx w') := fun wx hb => implKeptOk_any gb n gc ea m ec ka c kc g eh q wx hn (Nat.lt_of_lt_of_le hg hb.size) (hI.below hb hg) (hE.below hb) hm hc (hA.below hb) hl hw
  have hz0 : (w.alloc (.cells #[.int .i64 0, .slice none 0 0, .slice none 0 0, .int .i64 0] 47)).heap.size = w.heap.size + 1 := by simp
  have HB0 : Hid (∀ w4, Below (w.heap.size + 1) (w.alloc (.cells #[.int .i64 0, .slice none 0 0, .slice none 0 0, .int .i64 0] 47)) w4 → ∀ (B4 : Nat) (S : S4) (ra oa : Option Addr) (rc oc : Nat), StOwn w4 B4 (stV S.p ra S.rs.length rc oa S.os.length oc S.c) S.p S.rs S.os S.c → w.heap.size + 1 ≤ B4 → B4 ≤ w4.heap.size → Rl w (w4.alloc (.cells #[.int .i64 S.p, .slice ra S.rs.length rc, .slice oa S.os.length oc, .int .i64 S.c] 47)) w.heap.size w4.heap.size S.p S.c ra rc oa oc S.rs S.os) := fun w4 b B4 S ra oa rc oc o h1 h2 => Rl.start b o h1 h2
  clear hI hE hn hA hl hw
  rcases Bool.eq_false_or_eq_true (decide (z < 0)) with t1 | t1
  · have HV : Hid (¬ RsOk g n eh m q c z) := fun h => by
      have := of_decide_eq_true t1
      have := h.2.1
      omega
    rw [(rs_no HV.out).1, (rs_no HV.out).2]
    go_enter Try.func32, Try.ntmps32
    go_upto_region 1 with fail
    generalize w.alloc (.cells #[.int .i64 0, .slice none 0 0, .slice none 0 0, .int .i64 0] 47) = wa at *
    obtain ⟨⟨r0, r1, r2, r3⟩, rf⟩ := NB.out
    go_wp2
    refine bodyPost_ret (v := .tuple #[stV 0 none 0 0 none 0 0 0, .int .i64 (-1)]) (by simp [results, Try.results32, go_sem, r0, r1, r2, r3]) rfl ⟨_, rfl, StOwn.nil _ _, ?_⟩
    exact (((BA.out.setCell (Nat.le_refl _) _).setCell (Nat.le_refl _) _).setCell (Nat.le_refl _) _).setCell (Nat.le_refl _) _
  rcases Bool.eq_false_or_eq_true (decide (z > (m : Int))) with t2 | t2
  · have HV : Hid (¬ RsOk g n eh m q c z) := fun h => by
      have := of_decide_eq_true t2
      have := h.2.2
      omega
    rw [(rs_no HV.out).1, (rs_no HV.out).2]
    go_enter Try.func32, Try.ntmps32
    go_upto_region 1 with fail
    generalize w.alloc (.cells #[.int .i64 0, .slice none 0 0, .slice none 0 0, .int .i64 0] 47) = wa at *
    obtain ⟨⟨r0, r1, r2, r3⟩, rf⟩ := NB.out
    go_wp2
    refine bodyPost_ret (v := .tuple #[stV 0 none 0 0 none 0 0 0, .int .i64 (-1)]) (by simp [results, Try.results32, go_sem, r0, r1, r2, r3]) rfl ⟨_, rfl, StOwn.nil _ _, ?_⟩
    exact (((BA.out.setCell (Nat.le_refl _) _).setCell (Nat.le_refl _) _).setCell (Nat.le_refl _) _).setCell (Nat.le_refl _) _
  rcases Bool.eq_false_or_eq_true (pB (KpOk g n eh m q c)) with t | t
  case inr =>
    have HV : Hid (¬ RsOk g n eh m q c z) := fun h => by
      rw [pB_true h.1] at t
      cases t
    rw [(rs_no HV.out).1, (rs_no HV.out).2]
    rw [t] at HK
    clear t
    go_enter Try.func32, Try.ntmps32
    go_upto_region 1 with fail
    generalize w.alloc (.cells #[.int .i64 0, .slice none 0 0, .slice none 0 0, .int .i64 0] 47) = wa at *
    go_wp2_with fail
    refine (HK.out wa BA.out).mono ?_
    rintro e w1 ⟨rfl, b1⟩
    have B1 : Hid (Below (w.heap.size + 1) wa w1) := hz0 ▸ b1
    have B1' : Hid (Below w.heap.size w w1) := BA.out.trans (b1.mono BA.out.size)
    clear b1
    have eR := B1.out.block w.heap.size (by omega)
    obtain ⟨⟨a0, a1, a2, a3⟩, af⟩ := NB.out
    obtain ⟨r0, r1, r2, r3⟩ : BoxC w1 w.heap.size (.int .i64 0) (.slice none 0 0) (.slice none 0 0) (.int .i64 0) := ⟨(World.cell?_of_block eR).trans a0, (World.cell?_of_block eR).trans a1, (World.cell?_of_block eR).trans a2, (World.cell?_of_block eR).trans a3⟩
    have rf : ∀ j, w1.frozen? ⟨w.heap.size, j, none⟩ = false := fun j => (World.frozen?_of_block eR).trans (af j)
    clear a0 a1 a2 a3 af eR
    go_wp2
    refine bodyPost_ret (v := .tuple #[stV 0 none 0 0 none 0 0 0, .int .i64 (-1)]) (by simp [results, Try.results32, go_sem, r0, r1, r2, r3]) rfl ⟨_, rfl, StOwn.nil _ _, ?_⟩
    exact (((B1'.out.setCell (Nat.le_refl _) _).setCell (Nat.le_refl _) _).setCell (Nat.le_refl _) _).setCell (Nat.le_refl _) _
  have hK := pB_iff.1 t
  obtain ⟨a, j, S, Sm, hz, haj, hjm, hm2, hxa, hlt, hra, hrj, hrm, hpk, eS, eK⟩ := rs_yes (q := q) (z := z) ⟨hK, by have := of_decide_eq_false t1; omega, by have := of_decide_eq_false t2; omega⟩
  rw [eS, eK]
  rw [t] at HK
  have HPK : Hid (progOkB g n 4 = true) := hpk
  have HR : Hid (rp g n eh a = some (q (lastI q z c)).s ∧ rp g n eh j = some S ∧ rp g n eh m = some Sm) := ⟨hra, hrj, hrm⟩
  have HX : Hid ((q (lastI q z c)).n = a ∧ lastI q z c < c ∧ 0 < c) := ⟨hxa, hlt, hK.li.1⟩
  have HJ : Hid (a ≤ j ∧ j ≤ m ∧ m ≤ 200) := ⟨haj, hjm, hm2⟩
  have HL1 : Hid (∀ wx, Below w.heap.size w wx → Calls Try.prog 43 #[.slice ka c kc, .int .i64 z] wx fun e w' => e = .returned (kpV (q (lastI q z c)).n (q (lastI q z c)).p (q (lastI q z c)).ra (q (lastI q z c)).rs.length (q (lastI q z c)).rc (q (lastI q z c)).oa (q (lastI q z c)).os.length (q (lastI q z c)).oc (q (lastI q z c)).c) ∧ Below wx.heap.size wx w') := fun wx hb => lastWithin_any ka c kc q z wx hc hK.li.1 (HA.out.below hb)
  have HXs : Hid (∀ wx, Below w.heap.size w wx → Sl wx (q (lastI q z c)).ra (q (lastI q z c)).rs ∧ Sl wx (q (lastI q z c)).oa (q (lastI q z c)).os) := fun wx hb => (HA.out.below hb).lst _ hlt
  have HXl : Hid ((q (lastI q z c)).rs.length ≤ 1048576 ∧ (q (lastI q z c)).os.length ≤ 1048576) := HL.out _ hlt
  clear hpk hra hrj hrm hxa hlt eS eK hK t haj hjm hm2
  generalize q (lastI q z c) = x at *
  subst hz
  have g1 : j ≤ m := HJ.out.2.1
  have g2 : ¬ ((m : Int) < (j : Int)) := by omega
  go_enter Try.func32, Try.ntmps32
  go_upto_region 1 with fail
  generalize w.alloc (.cells #[.int .i64 0, .slice none 0 0, .slice none 0 0, .int .i64 0] 47) = wa at *
  go_wp2_with fail
  refine (HK.out wa BA.out).mono ?_
  rintro e w1 ⟨rfl, b1⟩
  have B1 : Hid (Below (w.heap.size + 1) wa w1) := hz0 ▸ b1
  have B1' : Hid (Below w.heap.size w w1) := BA.out.trans (b1.mono BA.out.size)
  clear b1
  clear HK NB
  go_wp2_with fail
  clear t1 t2 g1 g2
  refine (HL1.out w1 B1'.out).mono ?_
  rintro e w2 ⟨rfl, b2⟩
  have B2 : Hid (Below (w.heap.size + 1) wa w2 ∧ Below w.heap.size w w2) := ⟨B1.out.trans (b2.mono (by have := B1.out.size; omega)), B1'.out.trans (b2.mono B1'.out.size)⟩
  clear b2 B1 B1'
  rw [HX.out.1]
  have bq := below_alloc w2 (.cells #[.int .i64 (a : Int), .int .i64 x.p, .slice x.ra x.rs.length x.rc, .slice x.oa x.os.length x.oc, .int .i64 x.c] 51)
  have B3 : Hid (Below (w.heap.size + 1) wa (w2.alloc (.cells #[.int .i64 (a : Int), .int .i64 x.p, .slice x.ra x.rs.length x.rc, .slice x.oa x.os.length x.oc, .int .i64 x.c] 51)) ∧ Below w.heap.size w (w2.alloc (.cells #[.int .i64 (a : Int), .int .i64 x.p, .slice x.ra x.rs.length x.rc, .slice x.oa x.os.length x.oc, .int .i64 x.c] 51))) := ⟨B2.out.1.trans (bq.mono (by have := B2.out.1.size; omega)), B2.out.2.trans (bq.mono B2.out.2.size)⟩
  have F3 : Hid (Box5 (w2.alloc (.cells #[.int .i64 (a : Int), .int .i64 x.p, .slice x.ra x.rs.length x.rc, .slice x.oa x.os.length x.oc, .int .i64 x.c] 51)) w2.heap.size (.int .i64 (a : Int)) (.int .i64 x.p) (.slice x.ra x.rs.length x.rc) (.slice x.oa x.os.length x.oc) (.int .i64 x.c)) := Box5.new w2 _ _ _ _ _ _
  have Z3 : Hid (w.heap.size + 1 ≤ w2.heap.size ∧ (w2.alloc (.cells #[.int .i64 (a : Int), .int .i64 x.p, .slice x.ra x.rs.length x.rc, .slice x.oa x.os.length x.oc, .int .i64 x.c] 51)).heap.size = w2.heap.size + 1) := ⟨by have := B2.out.1.size; omega, by simp⟩
  clear bq B2
  go_wp2_with fail
  generalize (w2.alloc (.cells #[.int .i64 (a : Int), .int .i64 x.p, .slice x.ra x.rs.length x.rc, .slice x.oa x.os.length x.oc, .int .i64 x.c] 51)) = w3 at *
  refine (copyState_any x.p x.c x.ra x.oa x.rc x.oc x.rs x.os w3 HXl.out.1 HXl.out.2 (HXs.out w3 B3.out.2).1 (HXs.out w3 B3.out.2).2).mono ?_
  rintro e w4 ⟨v4, rfl, o4, b4⟩
  obtain ⟨ra4, rc4, oa4, oc4, rfl, -, -⟩ := o4.read
  have D5 : Hid (Rl w (w4.alloc (.cells #[.int .i64 x.p, .slice ra4 x.rs.length rc4, .slice oa4 x.os.length oc4, .int .i64 x.c] 47)) w.heap.size w4.heap.size x.p x.c ra4 rc4 oa4 oc4 x.rs x.os) := HB0.out w4 (B3.out.1.trans (b4.mono (by have := B3.out.1.size; omega))) w3.heap.size x.s ra4 oa4 rc4 oc4 o4 (by have := Z3.out; omega) b4.size
  have F5 : Hid (Box5 (w4.alloc (.cells #[.int .i64 x.p, .slice ra4 x.rs.length rc4, .slice oa4 x.os.length oc4, .int .i64 x.c] 47)) w2.heap.size (.int .i64 (a : Int)) (.int .i64 x.p) (.slice x.ra x.rs.length x.rc) (.slice x.oa x.os.length x.oc) (.int .i64 x.c)) := (F3.out.below b4).below (below_alloc _ _)
  have NF : Hid (w4.heap.size ≠ w2.heap.size ∧ w.heap.size ≠ w2.heap.size) := ⟨by have := Z3.out; have := b4.size; omega, by have := Z3.out; omega⟩
  clear o4 b4 B3 F3 Z3 HB0
  obtain ⟨sa, hsl, hSE⟩ := slice_ev HE.out hec HJ.out.1 HJ.out.2.1
  have HSE : Hid (EvL w sa (j - a) (fun i => eh (a + i))) := hSE
  have hja : ((j - a : Nat) : Int) ≤ 1048576 := by have := HJ.out; omega
  clear hSE
  obtain ⟨f0, -⟩ := F5.out
  go_upto_region 5 with fail
  generalize w4.alloc (.cells #[.int .i64 x.p, .slice ra4 x.rs.length rc4, .slice oa4 x.os.length oc4, .int .i64 x.c] 47) = w5 at *
  generalize w4.heap.size = Bs at *
  generalize w2.heap.size = Fb at *
  go_wp2_with fail
  clear hsl f0
  go_loopw [42] (fun i wr => ∃ k : Nat, k ≤ j - a ∧ i = .int .i64 k ∧ Hid (∃ (T : S4) (ra : Option Addr) (rc : Nat) (oa : Option Addr) (oc : Nat), rp g n eh (a + k) = some T ∧ Rl w wr w.heap.size Bs T.p T.c ra rc oa oc T.rs T.os ∧ Box5 wr Fb (.int .i64 (a : Int)) (.int .i64 x.p) (.slice x.ra x.rs.length x.rc) (.slice x.oa x.os.length x.oc) (.int .i64 x.c))) (fun i _ => (j - a) - (intOf i).toNat)
  case atStart => exact ⟨0, Nat.zero_le _, rfl, x.s, _, _, _, _, HR.out.1, D5.out, F5.out⟩
  case round =>
    clear D5 F5
    obtain ⟨k, hk, rfl, HD⟩ := hrel
    obtain ⟨T, ra, rc, oa, oc, hrp, hD, hF⟩ := HD.out
    have DRk : Hid (Rl w wr w.heap.size Bs T.p T.c ra rc oa oc T.rs T.os) := hD
    have FRk : Hid (Box5 wr Fb (.int .i64 (a : Int)) (.int .i64 x.p) (.slice x.ra x.rs.length x.rc) (.slice x.oa x.os.length x.oc) (.int .i64 x.c)) := hF
    have HRk : Hid (rp g n eh (a + k) = some T) := hrp
    clear HD hD hF hrp
    obtain ⟨b0, b1, b2, b3⟩ := DRk.out.tl.box
    by_cases hlt : k < j - a
    · have hlt' : (k : Int) < ((j - a : Nat) : Int) := by omega
      obtain ⟨eb, eo, rfl, ze, k0, k1, k2⟩ := (HSE.out.below DRk.out.be).at hlt
      have hlen := OkS.len (rp_ok HPK.out _ _ HRk.out)
      have HLn : Hid (T.rs.length ≤ 1048576 ∧ T.os.length ≤ 1048576) := ⟨by omega, by omega⟩
      clear hlen
      have hnx := rp_next HRk.out HR.out.2.2 (by have := HJ.out; omega)
      have HNx : Hid (doB g n T.p T.rs T.os T.c (eh (a + k)).k (eh (a + k)).q (eh (a + k)).v = true ∧ rp g n eh (a + k + 1) = some (doS g n T.p T.rs T.os T.c (eh (a + k)).k (eh (a + k)).q (eh (a + k)).v)) := hnx
      clear hnx
      have Dq : Hid (Rl w (wr.alloc (.cells #[.int .i64 (eh (a + k)).k, .int .i64 (eh (a + k)).q, .int .i64 (eh (a + k)).v] 59)) w.heap.size Bs T.p T.c ra rc oa oc T.rs T.os) := DRk.out.below (below_alloc _ _)
      have Fq : Hid (Box5 (wr.alloc (.cells #[.int .i64 (eh (a + k)).k, .int .i64 (eh (a + k)).q, .int .i64 (eh (a + k)).v] 59)) Fb (.int .i64 (a : Int)) (.int .i64 x.p) (.slice x.ra x.rs.length x.rc) (.slice x.oa x.os.length x.oc) (.int .i64 x.c)) := FRk.out.below (below_alloc _ _)
      clear b0 b1 b2 b3
      have NE : Hid (BoxE3 (wr.alloc (.cells #[.int .i64 (eh (a + k)).k, .int .i64 (eh (a + k)).q, .int .i64 (eh (a + k)).v] 59)) wr.heap.size (eh (a + k))) := by
        show BoxE3 _ _ _
        unfold BoxE3
        simp
      go_upto_region 8 with fail
      generalize wr.alloc (.cells #[.int .i64 (eh (a + k)).k, .int .i64 (eh (a + k)).q, .int .i64 (eh (a + k)).v] 59) = wq at *
      generalize wr.heap.size = Me at *
      clear k0 k1 k2
      obtain ⟨b0, b1, b2, b3⟩ := Dq.out.tl.box
      obtain ⟨e0, e1, e2⟩ := NE.out
      go_wp2_with fail
      clear b0 b1 b2 b3 e0 e1 e2
      refine (doIn_any gb 0 n gc g T.p T.c ra oa rc oc T.rs T.os _ _ _ wq HN.out (Nat.lt_of_lt_of_le hg Dq.out.be.size) (HI.out.below Dq.out.be hg) HLn.out.1 HLn.out.2 Dq.out.tl.sl.1 Dq.out.tl.sl.2 HPK.out).mono ?_
      rintro e w6 hd
      rw [HNx.out.1] at hd
      have hR7 := HNx.out.2
      generalize doS g n T.p T.rs T.os T.c (eh (a + k)).k (eh (a + k)).q (eh (a + k)).v = T7 at hd hR7
      obtain ⟨v6, rfl, o6, q6⟩ := hd
      obtain ⟨ra6, rc6, oa6, oc6, rfl, -, -⟩ := o6.read
      have zB : Bs < wq.heap.size := Dq.out.tl.hi
      have D6 := Dq.out.below q6
      have F6 := Fq.out.below q6
      have HN7 : Hid (rp g n eh (a + (k + 1)) = some T7 ∧ Rl w _ w.heap.size Bs T7.p T7.c ra6 rc6 oa6 oc6 T7.rs T7.os ∧ Box5 ((((w6.setCell ⟨Bs, 0, none⟩ (.int .i64 T7.p)).setCell ⟨Bs, 1, none⟩ (.slice ra6 T7.rs.length rc6)).setCell ⟨Bs, 2, none⟩ (.slice oa6 T7.os.length oc6)).setCell ⟨Bs, 3, none⟩ (.int .i64 T7.c)) Fb (.int .i64 (a : Int)) (.int .i64 x.p) (.slice x.ra x.rs.length x.rc) (.slice x.oa x.os.length x.oc) (.int .i64 x.c)) := ⟨hR7, D6.next o6 zB, (((F6.setO NF.out.1 _ _).setO NF.out.1 _ _).setO NF.out.1 _ _).setO NF.out.1 _ _⟩
      obtain ⟨y0, y1, y2, y3⟩ := D6.tl.box
      have yf := D6.fz
      clear D6 F6 o6 q6 hR7 HNx zB
      go_wp2
      go_roundw
      case rel => exact ⟨k + 1, by omega, by go_num, T7, _, _, _, _, HN7.out.1, HN7.out.2.1, HN7.out.2.2⟩
      case measure => simp [intOf]; omega
    · have hkj : a + k = j := by have := HJ.out; omega
      have hTS : T = S := by
        have h1 := HRk.out
        rw [hkj, HR.out.2.1] at h1
        injection h1 with h1
        exact h1.symm
      subst hTS
      obtain ⟨r0, r1, r2, r3⟩ := DRk.out.rb
      have rf := DRk.out.rf
      obtain ⟨f0, -⟩ := FRk.out
      have dn : Bs ≠ w.heap.size := by have := DRk.out.tl.lo; omega
      have hlt' : ¬ ((k : Int) < ((j - a : Nat) : Int)) := by omega
      have nf2 : w.heap.size ≠ Fb := NF.out.2
      have nf3 : Fb ≠ w.heap.size := fun e => NF.out.2 e.symm
      have ha0 : (a : Int) ≤ 200 := by have := HJ.out; omega
      have hj0 : (j : Int) ≤ 200 := by have := HJ.out; omega
      go_wp2_with fail
      go_region
      go_wp2
      refine bodyPost_ret (v := .tuple #[stV T.p ra T.rs.length rc oa T.os.length oc T.c, .int .i64 ((j : Int) - (a : Int))]) (by simp [results, Try.results32, go_sem, r0, r1, r2, r3]) rfl ⟨_, rfl, ?_, ?_⟩
      · exact StOwn.dr (DRk.out.done _ _ _ _).2
      · exact Below.drew (DRk.out.done _ _ _ _).1

end Go.Proofs.Ytkoghgnbolaooaa
