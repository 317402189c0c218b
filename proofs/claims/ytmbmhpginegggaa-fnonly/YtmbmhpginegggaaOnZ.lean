/- Proved: whatever bytes come in, where the process that is drawn from them takes nothing only what comes next can be done, and what is done leaves a state that is right; Do, Next and StateOk answer as the model's; the bytes are not written into. No condition. -/
import Derived.Test.YtmbmhpginegggaaOnY
import Derived.Test.YtmbmhpginegggaaDiJ
import Derived.Test.YtmbmhpginegggaaRpZ
import Derived.Test.YtmbmhpginegggaaDiB
namespace Go.Proofs.Ytmbmhpginegggaa
open Go.RowKit Go.Sort

theorem EvB.set0 {w : World} {N : Nat} {k q v : Int} (h : EvB w N k q v) (x : Int) : EvB (w.setCell ⟨N, 0, none⟩ (.int .i64 x)) N x q v := by
  obtain ⟨⟨h0, h1, h2⟩, h3⟩ := h
  exact ⟨⟨by go_cell, by go_cell, by go_cell⟩, fun j => by rw [World.frozen?_setCell]; exact h3 j⟩
theorem Tu.refl (lo hi : Nat) (w : World) : Tu lo hi w w := ⟨rfl, rfl, rfl, Nat.le_refl _, fun _ _ _ => rfl⟩
theorem Tu.set {lo hi : Nat} {w w' : World} (h : Tu lo hi w w') {N : Nat} (h1 : lo ≤ N) (h2 : N < hi) (j : Nat) (v : Value) : Tu lo hi w (w'.setCell ⟨N, j, none⟩ v) := by
  have gz : w'.grownBy (w'.setCell ⟨N, j, none⟩ v) (some N) := grown_setCell (p := ⟨N, j, none⟩) (World.grownBy.refl _ _) (.inl rfl) v
  exact ⟨gz.os.trans h.os, gz.tape.trans h.tape, gz.output.trans h.output, Nat.le_trans h.size gz.size, fun k hk hn => (gz.block k (Nat.lt_of_lt_of_le hk h.size) (by simp; omega)).trans (h.block k hk hn)⟩
theorem Tu.dr {lo hi : Nat} {w w' : World} (h : Tu lo hi w w') : Tu lo hi w w'.drew := ⟨h.os, h.tape, h.output, h.size, h.block⟩

/-- What was drawn, as it stands in memory from R + 2 on; R and R + 1 are the answer's own blocks. -/
structure Fq (w w4 : World) (R c gb n : Nat) (G : Nat → I5) (Bs : Nat) (p code : Int) (ra : Option Addr) (rc : Nat) (oa : Option Addr) (oc : Nat) (rs os : List Int) : Prop where
  ins : InsAt w4 gb 0 n G
  g1 : gb < w4.heap.size ∧ gb ≠ c ∧ R + 2 ≤ gb
  box : BoxC w4 Bs (.int .i64 p) (.slice ra rs.length rc) (.slice oa os.length oc) (.int .i64 code)
  b1 : Bs ≠ c ∧ R + 2 ≤ Bs
  s1 : Sl w4 ra rs
  s2 : Sl w4 oa os
  n1 : ∀ a, ra = some a → a.block ≠ c ∧ R + 2 ≤ a.block
  n2 : ∀ a, oa = some a → a.block ≠ c ∧ R + 2 ≤ a.block
  lr : rs.length ≤ 1048576
  lo : os.length ≤ 1048576
  rbox : BoxC w4 R (.int .i64 0) (.slice none 0 0) (.slice none 0 0) (.int .i64 0)
  rfz : ∀ j, w4.frozen? ⟨R, j, none⟩ = false
  ebox : EvB w4 (R + 1) 0 0 0
  be : Below w.heap.size w w4
  hR : R = w.heap.size ∧ R + 2 ≤ c

theorem Sl.turn {w w' : World} {a0 : Option Addr} {xs : List Int} {c : Nat} (h : Sl w a0 xs) (hg : w.grownBy w' (some c)) (hn : ∀ a, a0 = some a → a.block ≠ c) : Sl w' a0 xs := by
  rcases h with e | ⟨b, off, e, hlt, hcc⟩
  · exact .inl e
  · exact Sl.blk (.inr ⟨b, off, e, hlt, hcc⟩) hg.size (fun a ha => hg.block _ (by rw [e] at ha; cases ha; exact hlt) (by simp; exact hn a ha))
theorem Fq.turn {w w4 wz : World} {R c gb n : Nat} {G : Nat → I5} {Bs : Nat} {p code : Int} {ra : Option Addr} {rc : Nat} {oa : Option Addr} {oc : Nat} {rs os : List Int} (h : Fq w w4 R c gb n G Bs p code ra rc oa oc rs os) (g : w4.grownBy wz (some c)) : Fq w wz R c gb n G Bs p code ra rc oa oc rs os := by
  obtain ⟨x1, x2⟩ := h.hR
  have eB := g.block Bs h.box.lt (by simp; exact h.b1.1)
  have eR := g.block R h.rbox.lt (by simp; omega)
  have eE := g.block (R + 1) h.ebox.lt (by simp; omega)
  refine ⟨h.ins.blk (g.block gb h.g1.1 (by simp; exact h.g1.2.1)), ⟨Nat.lt_of_lt_of_le h.g1.1 g.size, h.g1.2⟩, h.box.blk eB, h.b1, h.s1.turn g (fun a ha => (h.n1 a ha).1), h.s2.turn g (fun a ha => (h.n2 a ha).1), h.n1, h.n2, h.lr, h.lo, h.rbox.blk eR, fun j => (World.frozen?_of_block eR).trans (h.rfz j), h.ebox.block eE, h.be.trans ⟨g.os, g.tape, g.output, g.size, fun k hk => g.block k (Nat.lt_of_lt_of_le hk h.be.size) (by simp; omega)⟩, h.hR⟩
theorem Fq.done {w wz wf : World} {R c gb n : Nat} {G : Nat → I5} {Bs : Nat} {p code : Int} {ra : Option Addr} {rc : Nat} {oa : Option Addr} {oc : Nat} {rs os : List Int} (h : Fq w wz R c gb n G Bs p code ra rc oa oc rs os) (t : Tu R (R + 2) wz wf) : gb < wf.heap.size ∧ InsAt wf gb 0 n G ∧ Sl wf ra rs ∧ Sl wf oa os ∧ rs.length ≤ 1048576 ∧ os.length ≤ 1048576 ∧ Below w.heap.size w wf := by
  obtain ⟨x1, x2⟩ := h.hR
  refine ⟨Nat.lt_of_lt_of_le h.g1.1 t.size, h.ins.blk (t.block gb h.g1.1 (.inr h.g1.2.2)), ?_, ?_, h.lr, h.lo, h.be.trans (t.below h.be.size (by omega))⟩
  · rcases h.s1 with e | ⟨b, off, e, hlt, hcc⟩
    · exact .inl e
    · exact Sl.blk h.s1 t.size (fun a ha => t.block _ (by rw [e] at ha; cases ha; exact hlt) (.inr (h.n1 a ha).2))
  · rcases h.s2 with e | ⟨b, off, e, hlt, hcc⟩
    · exact .inl e
    · exact Sl.blk h.s2 t.size (fun a ha => t.block _ (by rw [e] at ha; cases ha; exact hlt) (.inr (h.n2 a ha).2))

def pickD (j : Nat) : Int := [(0 : Int), 1, 5, 1000000000, 1000000001].getD j 0
theorem pickD_at (w : World) : IntsAt (w.alloc (.cells #[.int .i64 0, .int .i64 1, .int .i64 5, .int .i64 1000000000, .int .i64 1000000001] 3)) w.heap.size 5 pickD := by
  intro j hj
  match j, hj with
  | 0, _ => simp [pickD]
  | 1, _ => simp [pickD]
  | 2, _ => simp [pickD]
  | 3, _ => simp [pickD]
  | 4, _ => simp [pickD]

set_option maxRecDepth 100000 in
set_option maxHeartbeats 8000000 in
theorem DrawDo_any (W0 len cap : Nat) (a0 : Option Addr) (w : World) (hB : BytesAt w W0 a0 len) (hW : W0 ≤ w.heap.size) (ln : len ≤ 1048576) :
    Calls Try.prog 8 #[.slice a0 len cap] w fun e w' => ∃ (gb n gc : Nat) (G : Nat → I5) (p code : Int) (ra : Option Addr) (rc : Nat) (oa : Option Addr) (oc : Nat) (rs os : List Int) (ek eq ev : Int), e = .returned (.tuple #[.slice (some ⟨gb, 0, none⟩) n gc, stV p ra rs.length rc oa os.length oc code, evV ek eq ev]) ∧ n ≤ 31 ∧ gb < w'.heap.size ∧ InsAt w' gb 0 n G ∧ Sl w' ra rs ∧ Sl w' oa os ∧ rs.length ≤ 1048576 ∧ os.length ≤ 1048576 ∧ Below w.heap.size w w' := by
  have HB : Hid (BytesAt w W0 a0 len) := hB
  clear hB
  go_enter Try.func8, Try.ntmps8
  go_wp2_with fail
  have hz : ((w.alloc (.cells #[.int .i64 0, .slice none 0 0, .slice none 0 0, .int .i64 0] 27)).alloc (.cells #[.int .i64 0, .int .i64 0, .int .i64 0] 29)).heap.size = w.heap.size + 2 := by simp
  have b0 : Below w.heap.size w ((w.alloc (.cells #[.int .i64 0, .slice none 0 0, .slice none 0 0, .int .i64 0] 27)).alloc (.cells #[.int .i64 0, .int .i64 0, .int .i64 0] 29)) := by go_grown
  have HB0 : Hid (BytesAt ((w.alloc (.cells #[.int .i64 0, .slice none 0 0, .slice none 0 0, .int .i64 0] 27)).alloc (.cells #[.int .i64 0, .int .i64 0, .int .i64 0] 29)) W0 a0 len) := HB.out.kept fun j hj => b0.block j (by omega)
  have HR0 : Hid (BoxC ((w.alloc (.cells #[.int .i64 0, .slice none 0 0, .slice none 0 0, .int .i64 0] 27)).alloc (.cells #[.int .i64 0, .int .i64 0, .int .i64 0] 29)) w.heap.size (.int .i64 0) (.slice none 0 0) (.slice none 0 0) (.int .i64 0) ∧ (∀ j, ((w.alloc (.cells #[.int .i64 0, .slice none 0 0, .slice none 0 0, .int .i64 0] 27)).alloc (.cells #[.int .i64 0, .int .i64 0, .int .i64 0] 29)).frozen? ⟨w.heap.size, j, none⟩ = false) ∧ EvB ((w.alloc (.cells #[.int .i64 0, .slice none 0 0, .slice none 0 0, .int .i64 0] 27)).alloc (.cells #[.int .i64 0, .int .i64 0, .int .i64 0] 29)) (w.heap.size + 1) 0 0 0) := by
    have q := below_alloc (w.alloc (.cells #[.int .i64 0, .slice none 0 0, .slice none 0 0, .int .i64 0] 27)) (.cells #[.int .i64 0, .int .i64 0, .int .i64 0] 29)
    have e := q.block w.heap.size (by simp)
    refine ⟨(BoxC.new w _ _ _ _ _).blk e, fun j => (World.frozen?_of_block e).trans (new_frozen _ _ _ j rfl), ?_⟩
    have := EvB.new (w.alloc (.cells #[.int .i64 0, .slice none 0 0, .slice none 0 0, .int .i64 0] 27)) 0 0 0 29
    rw [World.size_alloc] at this
    exact this
  have B0 : Hid (Below w.heap.size w ((w.alloc (.cells #[.int .i64 0, .slice none 0 0, .slice none 0 0, .int .i64 0] 27)).alloc (.cells #[.int .i64 0, .int .i64 0, .int .i64 0] 29))) := b0
  clear b0 HB
  generalize (w.alloc (.cells #[.int .i64 0, .slice none 0 0, .slice none 0 0, .int .i64 0] 27)).alloc (.cells #[.int .i64 0, .int .i64 0, .int .i64 0] 29) = wa at *
  refine (l1New_any W0 len cap a0 wa HB0.out (by omega) ln).mono ?_
  rw [hz]
  rintro e w1 ⟨rfl, hc1, hg1⟩
  have e1 := below_of_grown hg1
  have HC1 : Hid (Cur w1 W0 (w.heap.size + 2) a0 len cap) := hc1
  have HR1 : Hid (BoxC w1 w.heap.size (.int .i64 0) (.slice none 0 0) (.slice none 0 0) (.int .i64 0) ∧ (∀ j, w1.frozen? ⟨w.heap.size, j, none⟩ = false) ∧ EvB w1 (w.heap.size + 1) 0 0 0) := ⟨HR0.out.1.below e1, fun j => (World.frozen?_of_block (e1.block w.heap.size (by omega))).trans (HR0.out.2.1 j), HR0.out.2.2.block (e1.block _ (by omega))⟩
  have B1 : Hid (Below w.heap.size w w1) := B0.out.trans (e1.mono B0.out.size)
  have z1 : w.heap.size + 2 < w1.heap.size := hc1.lt
  clear hc1 hg1 e1 HR0 B0 HB0 hz
  go_wp2_with fail
  refine (l2Draw_any W0 (w.heap.size + 2) len cap a0 w1 HC1.out).mono ?_
  rintro e w2 ⟨gb, n, gc, G, p, code, ra, rc, oa, oc, rs, os, rfl, hn, hg0, hgl, hI, s1, s2, hr, ho, c2, g2, u1, u2⟩
  have q2 := below_alloc w2 (.cells #[.int .i64 p, .slice ra rs.length rc, .slice oa os.length oc, .int .i64 code] 27)
  have z2 := g2.size
  have er := g2.block w.heap.size (by omega) (by simp)
  have ee := g2.block (w.heap.size + 1) (by omega) (by simp)
  have F3 : Hid (Fq w (w2.alloc (.cells #[.int .i64 p, .slice ra rs.length rc, .slice oa os.length oc, .int .i64 code] 27)) w.heap.size (w.heap.size + 2) gb n G w2.heap.size p code ra rc oa oc rs os) := by
    refine ⟨hI.below q2 hgl, ⟨Nat.lt_of_lt_of_le hgl q2.size, by omega, by omega⟩, BoxC.new w2 _ _ _ _ _, ⟨by omega, by omega⟩, s1.below q2, s2.below q2, fun a ha => ?_, fun a ha => ?_, hr, ho, (HR1.out.1.blk er).below q2, fun j => ?_, (HR1.out.2.2.block ee).block (q2.block _ (by omega)), ?_, ⟨rfl, Nat.le_refl _⟩⟩
    · have := u1 a ha
      exact ⟨by omega, by omega⟩
    · have := u2 a ha
      exact ⟨by omega, by omega⟩
    · rw [World.frozen?_of_block (q2.block w.heap.size (by omega)), World.frozen?_of_block er]
      exact HR1.out.2.1 j
    · exact (B1.out.trans ⟨g2.os, g2.tape, g2.output, g2.size, fun k hk => g2.block k (by omega) (by simp; omega)⟩).trans (q2.mono (by omega))
  have C3 : Hid (Cur (w2.alloc (.cells #[.int .i64 p, .slice ra rs.length rc, .slice oa os.length oc, .int .i64 code] 27)) W0 (w.heap.size + 2) a0 len cap) := c2.alloc _
  clear hI s1 s2 c2 g2 u1 u2 q2 er ee HR1 B1 HC1
  go_wp2_with fail
  generalize w2.alloc (.cells #[.int .i64 p, .slice ra rs.length rc, .slice oa os.length oc, .int .i64 code] 27) = w3 at *
  generalize w2.heap.size = Bs at *
  have HL : Hid (n ≤ maxLen) := by
    show n ≤ maxLen
    unfold maxLen
    omega
  refine (specNext_any _ _ _ _ G p code ra oa rc oc rs os _ HL.out F3.out.g1.1 F3.out.ins hr ho F3.out.s1 F3.out.s2).mono ?_
  rintro e w4 ⟨rfl, b4⟩
  generalize nxK G n p rs os code = K at *
  generalize nxP G n p rs os code = P at *
  generalize nxW G n p rs os code = V at *
  have F4 : Hid (Fq w w4 w.heap.size (w.heap.size + 2) gb n G Bs p code ra rc oa oc rs os) := F3.out.turn (grown_any (grown_of_below b4) _)
  have C4 : Hid (Cur w4 W0 (w.heap.size + 2) a0 len cap) := C3.out.kept (grown_of_below b4) (by simp) (fun k e => by cases e)
  have G5 : Hid (w4.grownBy (w4.alloc (.cells #[.int .i64 K, .int .i64 P, .int .i64 V] 29)) (some (w.heap.size + 2))) := grown_any (grown_of_below (below_alloc _ _)) _
  have C5 : Hid (Cur (w4.alloc (.cells #[.int .i64 K, .int .i64 P, .int .i64 V] 29)) W0 (w.heap.size + 2) a0 len cap) := C4.out.alloc _
  have E5 : Hid (EvB (w4.alloc (.cells #[.int .i64 K, .int .i64 P, .int .i64 V] 29)) w4.heap.size K P V) := EvB.new w4 K P V _
  have dc : w4.heap.size ≠ w.heap.size + 2 := by have := C4.out.lt; omega
  have hcw : W0 ≤ w.heap.size + 2 := by omega
  clear b4 F3 C3 C4
  obtain ⟨⟨e0, e1, e2⟩, ef⟩ := E5.out
  rcases Bool.eq_false_or_eq_true (K == 3) with tK | tK
  case inr =>
    go_wp2_with fail
    generalize w4.alloc (.cells #[.int .i64 K, .int .i64 P, .int .i64 V] 29) = w6 at *
    have G6 := G5
    have C6 := C5
    have E6 := E5
    clear G5 C5 E5
    refine (l1Below_any W0 (w.heap.size + 2) len cap a0 _ _ C6.out (by omega) (by omega)).mono ?_
    rintro e w7 ⟨x, rfl, ⟨x0, x1⟩, hc7, hg7⟩
    have G7 : Hid (w4.grownBy w7 (some (w.heap.size + 2))) := G6.out.trans hg7
    have C7 : Hid (Cur w7 W0 (w.heap.size + 2) a0 len cap) := hc7
    have E7 : Hid (EvB w7 w4.heap.size K P V) := E6.out.block (hg7.block _ E6.out.lt (by simp [dc]))
    clear hc7 hg7 G6 C6 E6 e0 e1 e2 ef
    obtain ⟨⟨e0, e1, e2⟩, ef⟩ := E7.out
    by_cases h0 : x = 0
    · subst h0
      go_wp2_with fail
      refine (l1Below_any W0 (w.heap.size + 2) len cap a0 _ _ C7.out (by omega) (by omega)).mono ?_
      rintro e w8 ⟨y, rfl, ⟨y0, y1⟩, hc8, hg8⟩
      have G8 : Hid (w4.grownBy w8 (some (w.heap.size + 2))) := G7.out.trans hg8
      have C8 : Hid (Cur w8 W0 (w.heap.size + 2) a0 len cap) := hc8
      have E8 : Hid (EvB w8 w4.heap.size K P V) := E7.out.block (hg8.block _ E7.out.lt (by simp [dc]))
      clear hc8 hg8 G7 C7 E7 e0 e1 e2 ef
      obtain ⟨⟨e0, e1, e2⟩, ef⟩ := E8.out
      have GZ : Hid (w4.grownBy (w8.setCell ⟨w4.heap.size, 0, none⟩ (.int .i64 y)) (some (w.heap.size + 2))) := grown_setCell (p := ⟨w4.heap.size, 0, none⟩) G8.out (.inr (Nat.le_refl _)) _
      have EZ : Hid (EvB (w8.setCell ⟨w4.heap.size, 0, none⟩ (.int .i64 y)) w4.heap.size y P V) := E8.out.set0 y
      go_wp2_with fail
      clear e0 e1 e2 ef G8 C8 E8
      generalize w8.setCell ⟨w4.heap.size, 0, none⟩ (.int .i64 y) = wz at *
      have FZ : Hid (Fq w wz w.heap.size (w.heap.size + 2) gb n G Bs p code ra rc oa oc rs os) := F4.out.turn GZ.out
      obtain ⟨k0, k1, k2, k3⟩ := FZ.out.box
      obtain ⟨a0', a1', a2', a3'⟩ := FZ.out.rbox
      have af := FZ.out.rfz
      obtain ⟨⟨d0, d1, d2⟩, df⟩ := FZ.out.ebox
      obtain ⟨⟨e0, e1, e2⟩, ef⟩ := EZ.out
      have dS : Bs ≠ w.heap.size := by have := FZ.out.b1; omega
      have dS' : w.heap.size ≠ Bs := fun e => dS e.symm
      have dT : Bs ≠ w.heap.size + 1 := by have := FZ.out.b1; omega
      have dT' : w.heap.size + 1 ≠ Bs := fun e => dT e.symm
      have dU : w4.heap.size ≠ w.heap.size := by have := F4.out.rbox.lt; omega
      have dU' : w.heap.size ≠ w4.heap.size := fun e => dU e.symm
      have dV : w4.heap.size ≠ w.heap.size + 1 := by have := F4.out.ebox.lt; omega
      have dV' : w.heap.size + 1 ≠ w4.heap.size := fun e => dV e.symm
      go_region
      go_wp2
      exact bodyPost_ret (v := .tuple #[.slice (some ⟨gb, 0, none⟩) n gc, stV p ra rs.length rc oa os.length oc code, evV y P V]) (by simp [results, Try.results8, go_sem, a0', a1', a2', a3', d0, d1, d2]) rfl ⟨gb, n, gc, G, p, code, ra, rc, oa, oc, rs, os, y, P, V, rfl, hn, FZ.out.done (by
        refine Tu.dr ?_
        repeat (refine Tu.set ?_ (by omega) (by omega) _ _)
        exact Tu.refl _ _ _)⟩
    by_cases h1 : x = 1
    · subst h1
      go_wp2_with fail
      refine (l1PickInt_any W0 (w.heap.size + 2) len cap w7.heap.size 5 5 a0 pickD _ (C7.out.alloc _) (by omega) (by omega) (by simp) (by have := C7.out.lt; omega) (pickD_at w7)).mono ?_
      rintro e w8 ⟨y, rfl, hc8, hg8'⟩
      have hg8 : w7.grownBy w8 (some (w.heap.size + 2)) := (World.grownBy_alloc w7 _ _).trans hg8'
      clear hg8'
      have G8 : Hid (w4.grownBy w8 (some (w.heap.size + 2))) := G7.out.trans hg8
      have C8 : Hid (Cur w8 W0 (w.heap.size + 2) a0 len cap) := hc8
      have E8 : Hid (EvB w8 w4.heap.size K P V) := E7.out.block (hg8.block _ E7.out.lt (by simp [dc]))
      clear hc8 hg8 G7 C7 E7 e0 e1 e2 ef
      obtain ⟨⟨e0, e1, e2⟩, ef⟩ := E8.out
      have GZ : Hid (w4.grownBy (w8.setCell ⟨w4.heap.size, 2, none⟩ (.int .i64 y)) (some (w.heap.size + 2))) := grown_setCell (p := ⟨w4.heap.size, 2, none⟩) G8.out (.inr (Nat.le_refl _)) _
      have EZ : Hid (EvB (w8.setCell ⟨w4.heap.size, 2, none⟩ (.int .i64 y)) w4.heap.size K P y) := E8.out.set2 y
      go_wp2_with fail
      clear e0 e1 e2 ef G8 C8 E8
      generalize w8.setCell ⟨w4.heap.size, 2, none⟩ (.int .i64 y) = wz at *
      have FZ : Hid (Fq w wz w.heap.size (w.heap.size + 2) gb n G Bs p code ra rc oa oc rs os) := F4.out.turn GZ.out
      obtain ⟨k0, k1, k2, k3⟩ := FZ.out.box
      obtain ⟨a0', a1', a2', a3'⟩ := FZ.out.rbox
      have af := FZ.out.rfz
      obtain ⟨⟨d0, d1, d2⟩, df⟩ := FZ.out.ebox
      obtain ⟨⟨e0, e1, e2⟩, ef⟩ := EZ.out
      have dS : Bs ≠ w.heap.size := by have := FZ.out.b1; omega
      have dS' : w.heap.size ≠ Bs := fun e => dS e.symm
      have dT : Bs ≠ w.heap.size + 1 := by have := FZ.out.b1; omega
      have dT' : w.heap.size + 1 ≠ Bs := fun e => dT e.symm
      have dU : w4.heap.size ≠ w.heap.size := by have := F4.out.rbox.lt; omega
      have dU' : w.heap.size ≠ w4.heap.size := fun e => dU e.symm
      have dV : w4.heap.size ≠ w.heap.size + 1 := by have := F4.out.ebox.lt; omega
      have dV' : w.heap.size + 1 ≠ w4.heap.size := fun e => dV e.symm
      go_region
      go_wp2
      exact bodyPost_ret (v := .tuple #[.slice (some ⟨gb, 0, none⟩) n gc, stV p ra rs.length rc oa os.length oc code, evV K P y]) (by simp [results, Try.results8, go_sem, a0', a1', a2', a3', d0, d1, d2]) rfl ⟨gb, n, gc, G, p, code, ra, rc, oa, oc, rs, os, K, P, y, rfl, hn, FZ.out.done (by
        refine Tu.dr ?_
        repeat (refine Tu.set ?_ (by omega) (by omega) _ _)
        exact Tu.refl _ _ _)⟩
    by_cases h2 : x = 2
    · subst h2
      go_wp2_with fail
      refine (l1Below_any W0 (w.heap.size + 2) len cap a0 _ _ C7.out (by omega) (by omega)).mono ?_
      rintro e w8 ⟨y, rfl, ⟨y0, y1⟩, hc8, hg8⟩
      have G8 : Hid (w4.grownBy w8 (some (w.heap.size + 2))) := G7.out.trans hg8
      have C8 : Hid (Cur w8 W0 (w.heap.size + 2) a0 len cap) := hc8
      have E8 : Hid (EvB w8 w4.heap.size K P V) := E7.out.block (hg8.block _ E7.out.lt (by simp [dc]))
      clear hc8 hg8 G7 C7 E7 e0 e1 e2 ef
      obtain ⟨⟨e0, e1, e2⟩, ef⟩ := E8.out
      have GZ : Hid (w4.grownBy (w8.setCell ⟨w4.heap.size, 1, none⟩ (.int .i64 (y - 1))) (some (w.heap.size + 2))) := grown_setCell (p := ⟨w4.heap.size, 1, none⟩) G8.out (.inr (Nat.le_refl _)) _
      have EZ : Hid (EvB (w8.setCell ⟨w4.heap.size, 1, none⟩ (.int .i64 (y - 1))) w4.heap.size K (y - 1) V) := E8.out.set1 (y - 1)
      go_wp2_with fail
      clear e0 e1 e2 ef G8 C8 E8
      generalize w8.setCell ⟨w4.heap.size, 1, none⟩ (.int .i64 (y - 1)) = wz at *
      have FZ : Hid (Fq w wz w.heap.size (w.heap.size + 2) gb n G Bs p code ra rc oa oc rs os) := F4.out.turn GZ.out
      obtain ⟨k0, k1, k2, k3⟩ := FZ.out.box
      obtain ⟨a0', a1', a2', a3'⟩ := FZ.out.rbox
      have af := FZ.out.rfz
      obtain ⟨⟨d0, d1, d2⟩, df⟩ := FZ.out.ebox
      obtain ⟨⟨e0, e1, e2⟩, ef⟩ := EZ.out
      have dS : Bs ≠ w.heap.size := by have := FZ.out.b1; omega
      have dS' : w.heap.size ≠ Bs := fun e => dS e.symm
      have dT : Bs ≠ w.heap.size + 1 := by have := FZ.out.b1; omega
      have dT' : w.heap.size + 1 ≠ Bs := fun e => dT e.symm
      have dU : w4.heap.size ≠ w.heap.size := by have := F4.out.rbox.lt; omega
      have dU' : w.heap.size ≠ w4.heap.size := fun e => dU e.symm
      have dV : w4.heap.size ≠ w.heap.size + 1 := by have := F4.out.ebox.lt; omega
      have dV' : w.heap.size + 1 ≠ w4.heap.size := fun e => dV e.symm
      go_region
      go_wp2
      exact bodyPost_ret (v := .tuple #[.slice (some ⟨gb, 0, none⟩) n gc, stV p ra rs.length rc oa os.length oc code, evV K (y - 1) V]) (by simp [results, Try.results8, go_sem, a0', a1', a2', a3', d0, d1, d2]) rfl ⟨gb, n, gc, G, p, code, ra, rc, oa, oc, rs, os, K, (y - 1), V, rfl, hn, FZ.out.done (by
        refine Tu.dr ?_
        repeat (refine Tu.set ?_ (by omega) (by omega) _ _)
        exact Tu.refl _ _ _)⟩
    have n0 : (x == 0) = false := by simpa using h0
    have n1 : (x == 1) = false := by simpa using h1
    have n2 : (x == 2) = false := by simpa using h2
    go_wp2_with fail
    have GZ := G7
    have EZ := E7
    clear e0 e1 e2 ef G7 C7 E7
    generalize w7 = wz at *
    have FZ : Hid (Fq w wz w.heap.size (w.heap.size + 2) gb n G Bs p code ra rc oa oc rs os) := F4.out.turn GZ.out
    obtain ⟨k0, k1, k2, k3⟩ := FZ.out.box
    obtain ⟨a0', a1', a2', a3'⟩ := FZ.out.rbox
    have af := FZ.out.rfz
    obtain ⟨⟨d0, d1, d2⟩, df⟩ := FZ.out.ebox
    obtain ⟨⟨e0, e1, e2⟩, ef⟩ := EZ.out
    have dS : Bs ≠ w.heap.size := by have := FZ.out.b1; omega
    have dS' : w.heap.size ≠ Bs := fun e => dS e.symm
    have dT : Bs ≠ w.heap.size + 1 := by have := FZ.out.b1; omega
    have dT' : w.heap.size + 1 ≠ Bs := fun e => dT e.symm
    have dU : w4.heap.size ≠ w.heap.size := by have := F4.out.rbox.lt; omega
    have dU' : w.heap.size ≠ w4.heap.size := fun e => dU e.symm
    have dV : w4.heap.size ≠ w.heap.size + 1 := by have := F4.out.ebox.lt; omega
    have dV' : w.heap.size + 1 ≠ w4.heap.size := fun e => dV e.symm
    go_region
    go_wp2
    exact bodyPost_ret (v := .tuple #[.slice (some ⟨gb, 0, none⟩) n gc, stV p ra rs.length rc oa os.length oc code, evV K P V]) (by simp [results, Try.results8, go_sem, a0', a1', a2', a3', d0, d1, d2]) rfl ⟨gb, n, gc, G, p, code, ra, rc, oa, oc, rs, os, K, P, V, rfl, hn, FZ.out.done (by
      refine Tu.dr ?_
      repeat (refine Tu.set ?_ (by omega) (by omega) _ _)
      exact Tu.refl _ _ _)⟩
  case inl =>
    rcases Bool.eq_false_or_eq_true (P == 9) with tP | tP
    case inr =>
      go_wp2_with fail
      generalize w4.alloc (.cells #[.int .i64 K, .int .i64 P, .int .i64 V] 29) = w6 at *
      have G6 := G5
      have C6 := C5
      have E6 := E5
      clear G5 C5 E5
      refine (l1Below_any W0 (w.heap.size + 2) len cap a0 _ _ C6.out (by omega) (by omega)).mono ?_
      rintro e w7 ⟨x, rfl, ⟨x0, x1⟩, hc7, hg7⟩
      have G7 : Hid (w4.grownBy w7 (some (w.heap.size + 2))) := G6.out.trans hg7
      have C7 : Hid (Cur w7 W0 (w.heap.size + 2) a0 len cap) := hc7
      have E7 : Hid (EvB w7 w4.heap.size K P V) := E6.out.block (hg7.block _ E6.out.lt (by simp [dc]))
      clear hc7 hg7 G6 C6 E6 e0 e1 e2 ef
      obtain ⟨⟨e0, e1, e2⟩, ef⟩ := E7.out
      by_cases h0 : x = 0
      · subst h0
        go_wp2_with fail
        refine (l1Below_any W0 (w.heap.size + 2) len cap a0 _ _ C7.out (by omega) (by omega)).mono ?_
        rintro e w8 ⟨y, rfl, ⟨y0, y1⟩, hc8, hg8⟩
        have G8 : Hid (w4.grownBy w8 (some (w.heap.size + 2))) := G7.out.trans hg8
        have C8 : Hid (Cur w8 W0 (w.heap.size + 2) a0 len cap) := hc8
        have E8 : Hid (EvB w8 w4.heap.size K P V) := E7.out.block (hg8.block _ E7.out.lt (by simp [dc]))
        clear hc8 hg8 G7 C7 E7 e0 e1 e2 ef
        obtain ⟨⟨e0, e1, e2⟩, ef⟩ := E8.out
        have GZ : Hid (w4.grownBy (w8.setCell ⟨w4.heap.size, 0, none⟩ (.int .i64 y)) (some (w.heap.size + 2))) := grown_setCell (p := ⟨w4.heap.size, 0, none⟩) G8.out (.inr (Nat.le_refl _)) _
        have EZ : Hid (EvB (w8.setCell ⟨w4.heap.size, 0, none⟩ (.int .i64 y)) w4.heap.size y P V) := E8.out.set0 y
        go_wp2_with fail
        clear e0 e1 e2 ef G8 C8 E8
        generalize w8.setCell ⟨w4.heap.size, 0, none⟩ (.int .i64 y) = wz at *
        have FZ : Hid (Fq w wz w.heap.size (w.heap.size + 2) gb n G Bs p code ra rc oa oc rs os) := F4.out.turn GZ.out
        obtain ⟨k0, k1, k2, k3⟩ := FZ.out.box
        obtain ⟨a0', a1', a2', a3'⟩ := FZ.out.rbox
        have af := FZ.out.rfz
        obtain ⟨⟨d0, d1, d2⟩, df⟩ := FZ.out.ebox
        obtain ⟨⟨e0, e1, e2⟩, ef⟩ := EZ.out
        have dS : Bs ≠ w.heap.size := by have := FZ.out.b1; omega
        have dS' : w.heap.size ≠ Bs := fun e => dS e.symm
        have dT : Bs ≠ w.heap.size + 1 := by have := FZ.out.b1; omega
        have dT' : w.heap.size + 1 ≠ Bs := fun e => dT e.symm
        have dU : w4.heap.size ≠ w.heap.size := by have := F4.out.rbox.lt; omega
        have dU' : w.heap.size ≠ w4.heap.size := fun e => dU e.symm
        have dV : w4.heap.size ≠ w.heap.size + 1 := by have := F4.out.ebox.lt; omega
        have dV' : w.heap.size + 1 ≠ w4.heap.size := fun e => dV e.symm
        go_region
        go_wp2
        exact bodyPost_ret (v := .tuple #[.slice (some ⟨gb, 0, none⟩) n gc, stV p ra rs.length rc oa os.length oc code, evV y P V]) (by simp [results, Try.results8, go_sem, a0', a1', a2', a3', d0, d1, d2]) rfl ⟨gb, n, gc, G, p, code, ra, rc, oa, oc, rs, os, y, P, V, rfl, hn, FZ.out.done (by
          refine Tu.dr ?_
          repeat (refine Tu.set ?_ (by omega) (by omega) _ _)
          exact Tu.refl _ _ _)⟩
      by_cases h1 : x = 1
      · subst h1
        go_wp2_with fail
        refine (l1PickInt_any W0 (w.heap.size + 2) len cap w7.heap.size 5 5 a0 pickD _ (C7.out.alloc _) (by omega) (by omega) (by simp) (by have := C7.out.lt; omega) (pickD_at w7)).mono ?_
        rintro e w8 ⟨y, rfl, hc8, hg8'⟩
        have hg8 : w7.grownBy w8 (some (w.heap.size + 2)) := (World.grownBy_alloc w7 _ _).trans hg8'
        clear hg8'
        have G8 : Hid (w4.grownBy w8 (some (w.heap.size + 2))) := G7.out.trans hg8
        have C8 : Hid (Cur w8 W0 (w.heap.size + 2) a0 len cap) := hc8
        have E8 : Hid (EvB w8 w4.heap.size K P V) := E7.out.block (hg8.block _ E7.out.lt (by simp [dc]))
        clear hc8 hg8 G7 C7 E7 e0 e1 e2 ef
        obtain ⟨⟨e0, e1, e2⟩, ef⟩ := E8.out
        have GZ : Hid (w4.grownBy (w8.setCell ⟨w4.heap.size, 2, none⟩ (.int .i64 y)) (some (w.heap.size + 2))) := grown_setCell (p := ⟨w4.heap.size, 2, none⟩) G8.out (.inr (Nat.le_refl _)) _
        have EZ : Hid (EvB (w8.setCell ⟨w4.heap.size, 2, none⟩ (.int .i64 y)) w4.heap.size K P y) := E8.out.set2 y
        go_wp2_with fail
        clear e0 e1 e2 ef G8 C8 E8
        generalize w8.setCell ⟨w4.heap.size, 2, none⟩ (.int .i64 y) = wz at *
        have FZ : Hid (Fq w wz w.heap.size (w.heap.size + 2) gb n G Bs p code ra rc oa oc rs os) := F4.out.turn GZ.out
        obtain ⟨k0, k1, k2, k3⟩ := FZ.out.box
        obtain ⟨a0', a1', a2', a3'⟩ := FZ.out.rbox
        have af := FZ.out.rfz
        obtain ⟨⟨d0, d1, d2⟩, df⟩ := FZ.out.ebox
        obtain ⟨⟨e0, e1, e2⟩, ef⟩ := EZ.out
        have dS : Bs ≠ w.heap.size := by have := FZ.out.b1; omega
        have dS' : w.heap.size ≠ Bs := fun e => dS e.symm
        have dT : Bs ≠ w.heap.size + 1 := by have := FZ.out.b1; omega
        have dT' : w.heap.size + 1 ≠ Bs := fun e => dT e.symm
        have dU : w4.heap.size ≠ w.heap.size := by have := F4.out.rbox.lt; omega
        have dU' : w.heap.size ≠ w4.heap.size := fun e => dU e.symm
        have dV : w4.heap.size ≠ w.heap.size + 1 := by have := F4.out.ebox.lt; omega
        have dV' : w.heap.size + 1 ≠ w4.heap.size := fun e => dV e.symm
        go_region
        go_wp2
        exact bodyPost_ret (v := .tuple #[.slice (some ⟨gb, 0, none⟩) n gc, stV p ra rs.length rc oa os.length oc code, evV K P y]) (by simp [results, Try.results8, go_sem, a0', a1', a2', a3', d0, d1, d2]) rfl ⟨gb, n, gc, G, p, code, ra, rc, oa, oc, rs, os, K, P, y, rfl, hn, FZ.out.done (by
          refine Tu.dr ?_
          repeat (refine Tu.set ?_ (by omega) (by omega) _ _)
          exact Tu.refl _ _ _)⟩
      by_cases h2 : x = 2
      · subst h2
        go_wp2_with fail
        refine (l1Below_any W0 (w.heap.size + 2) len cap a0 _ _ C7.out (by omega) (by omega)).mono ?_
        rintro e w8 ⟨y, rfl, ⟨y0, y1⟩, hc8, hg8⟩
        have G8 : Hid (w4.grownBy w8 (some (w.heap.size + 2))) := G7.out.trans hg8
        have C8 : Hid (Cur w8 W0 (w.heap.size + 2) a0 len cap) := hc8
        have E8 : Hid (EvB w8 w4.heap.size K P V) := E7.out.block (hg8.block _ E7.out.lt (by simp [dc]))
        clear hc8 hg8 G7 C7 E7 e0 e1 e2 ef
        obtain ⟨⟨e0, e1, e2⟩, ef⟩ := E8.out
        have GZ : Hid (w4.grownBy (w8.setCell ⟨w4.heap.size, 1, none⟩ (.int .i64 (y - 1))) (some (w.heap.size + 2))) := grown_setCell (p := ⟨w4.heap.size, 1, none⟩) G8.out (.inr (Nat.le_refl _)) _
        have EZ : Hid (EvB (w8.setCell ⟨w4.heap.size, 1, none⟩ (.int .i64 (y - 1))) w4.heap.size K (y - 1) V) := E8.out.set1 (y - 1)
        go_wp2_with fail
        clear e0 e1 e2 ef G8 C8 E8
        generalize w8.setCell ⟨w4.heap.size, 1, none⟩ (.int .i64 (y - 1)) = wz at *
        have FZ : Hid (Fq w wz w.heap.size (w.heap.size + 2) gb n G Bs p code ra rc oa oc rs os) := F4.out.turn GZ.out
        obtain ⟨k0, k1, k2, k3⟩ := FZ.out.box
        obtain ⟨a0', a1', a2', a3'⟩ := FZ.out.rbox
        have af := FZ.out.rfz
        obtain ⟨⟨d0, d1, d2⟩, df⟩ := FZ.out.ebox
        obtain ⟨⟨e0, e1, e2⟩, ef⟩ := EZ.out
        have dS : Bs ≠ w.heap.size := by have := FZ.out.b1; omega
        have dS' : w.heap.size ≠ Bs := fun e => dS e.symm
        have dT : Bs ≠ w.heap.size + 1 := by have := FZ.out.b1; omega
        have dT' : w.heap.size + 1 ≠ Bs := fun e => dT e.symm
        have dU : w4.heap.size ≠ w.heap.size := by have := F4.out.rbox.lt; omega
        have dU' : w.heap.size ≠ w4.heap.size := fun e => dU e.symm
        have dV : w4.heap.size ≠ w.heap.size + 1 := by have := F4.out.ebox.lt; omega
        have dV' : w.heap.size + 1 ≠ w4.heap.size := fun e => dV e.symm
        go_region
        go_wp2
        exact bodyPost_ret (v := .tuple #[.slice (some ⟨gb, 0, none⟩) n gc, stV p ra rs.length rc oa os.length oc code, evV K (y - 1) V]) (by simp [results, Try.results8, go_sem, a0', a1', a2', a3', d0, d1, d2]) rfl ⟨gb, n, gc, G, p, code, ra, rc, oa, oc, rs, os, K, (y - 1), V, rfl, hn, FZ.out.done (by
          refine Tu.dr ?_
          repeat (refine Tu.set ?_ (by omega) (by omega) _ _)
          exact Tu.refl _ _ _)⟩
      have n0 : (x == 0) = false := by simpa using h0
      have n1 : (x == 1) = false := by simpa using h1
      have n2 : (x == 2) = false := by simpa using h2
      go_wp2_with fail
      have GZ := G7
      have EZ := E7
      clear e0 e1 e2 ef G7 C7 E7
      generalize w7 = wz at *
      have FZ : Hid (Fq w wz w.heap.size (w.heap.size + 2) gb n G Bs p code ra rc oa oc rs os) := F4.out.turn GZ.out
      obtain ⟨k0, k1, k2, k3⟩ := FZ.out.box
      obtain ⟨a0', a1', a2', a3'⟩ := FZ.out.rbox
      have af := FZ.out.rfz
      obtain ⟨⟨d0, d1, d2⟩, df⟩ := FZ.out.ebox
      obtain ⟨⟨e0, e1, e2⟩, ef⟩ := EZ.out
      have dS : Bs ≠ w.heap.size := by have := FZ.out.b1; omega
      have dS' : w.heap.size ≠ Bs := fun e => dS e.symm
      have dT : Bs ≠ w.heap.size + 1 := by have := FZ.out.b1; omega
      have dT' : w.heap.size + 1 ≠ Bs := fun e => dT e.symm
      have dU : w4.heap.size ≠ w.heap.size := by have := F4.out.rbox.lt; omega
      have dU' : w.heap.size ≠ w4.heap.size := fun e => dU e.symm
      have dV : w4.heap.size ≠ w.heap.size + 1 := by have := F4.out.ebox.lt; omega
      have dV' : w.heap.size + 1 ≠ w4.heap.size := fun e => dV e.symm
      go_region
      go_wp2
      exact bodyPost_ret (v := .tuple #[.slice (some ⟨gb, 0, none⟩) n gc, stV p ra rs.length rc oa os.length oc code, evV K P V]) (by simp [results, Try.results8, go_sem, a0', a1', a2', a3', d0, d1, d2]) rfl ⟨gb, n, gc, G, p, code, ra, rc, oa, oc, rs, os, K, P, V, rfl, hn, FZ.out.done (by
        refine Tu.dr ?_
        repeat (refine Tu.set ?_ (by omega) (by omega) _ _)
        exact Tu.refl _ _ _)⟩
    case inl =>
      go_wp2_with fail
      generalize w4.alloc (.cells #[.int .i64 K, .int .i64 P, .int .i64 V] 29) = w5 at *
      refine (l1Below_any W0 (w.heap.size + 2) len cap a0 _ _ C5.out (by omega) (by omega)).mono ?_
      rintro e w5' ⟨Q, rfl, -, hc5, hg5⟩
      have h5 := E5.out.block (hg5.block _ E5.out.lt (by simp [dc]))
      have G6 : Hid (w4.grownBy (w5'.setCell ⟨w4.heap.size, 1, none⟩ (.int .i64 Q)) (some (w.heap.size + 2))) := grown_setCell (p := ⟨w4.heap.size, 1, none⟩) (G5.out.trans hg5) (.inr (Nat.le_refl _)) _
      have C6 : Hid (Cur (w5'.setCell ⟨w4.heap.size, 1, none⟩ (.int .i64 Q)) W0 (w.heap.size + 2) a0 len cap) := hc5.setOther (p := ⟨w4.heap.size, 1, none⟩) (by simp; exact dc) (by simp; have := F4.out.rbox.lt; omega) _
      have E6 : Hid (EvB (w5'.setCell ⟨w4.heap.size, 1, none⟩ (.int .i64 Q)) w4.heap.size K Q V) := h5.set1 Q
      clear G5 C5 E5 hc5 hg5 e0 e1 e2 ef
      obtain ⟨⟨e0, e1, e2⟩, ef⟩ := h5
      go_wp2_with fail
      generalize w5'.setCell ⟨w4.heap.size, 1, none⟩ (.int .i64 Q) = w6 at *
      refine (l1Below_any W0 (w.heap.size + 2) len cap a0 _ _ C6.out (by omega) (by omega)).mono ?_
      rintro e w7 ⟨x, rfl, ⟨x0, x1⟩, hc7, hg7⟩
      have G7 : Hid (w4.grownBy w7 (some (w.heap.size + 2))) := G6.out.trans hg7
      have C7 : Hid (Cur w7 W0 (w.heap.size + 2) a0 len cap) := hc7
      have E7 : Hid (EvB w7 w4.heap.size K Q V) := E6.out.block (hg7.block _ E6.out.lt (by simp [dc]))
      clear hc7 hg7 G6 C6 E6 e0 e1 e2 ef
      obtain ⟨⟨e0, e1, e2⟩, ef⟩ := E7.out
      by_cases h0 : x = 0
      · subst h0
        go_wp2_with fail
        refine (l1Below_any W0 (w.heap.size + 2) len cap a0 _ _ C7.out (by omega) (by omega)).mono ?_
        rintro e w8 ⟨y, rfl, ⟨y0, y1⟩, hc8, hg8⟩
        have G8 : Hid (w4.grownBy w8 (some (w.heap.size + 2))) := G7.out.trans hg8
        have C8 : Hid (Cur w8 W0 (w.heap.size + 2) a0 len cap) := hc8
        have E8 : Hid (EvB w8 w4.heap.size K Q V) := E7.out.block (hg8.block _ E7.out.lt (by simp [dc]))
        clear hc8 hg8 G7 C7 E7 e0 e1 e2 ef
        obtain ⟨⟨e0, e1, e2⟩, ef⟩ := E8.out
        have GZ : Hid (w4.grownBy (w8.setCell ⟨w4.heap.size, 0, none⟩ (.int .i64 y)) (some (w.heap.size + 2))) := grown_setCell (p := ⟨w4.heap.size, 0, none⟩) G8.out (.inr (Nat.le_refl _)) _
        have EZ : Hid (EvB (w8.setCell ⟨w4.heap.size, 0, none⟩ (.int .i64 y)) w4.heap.size y Q V) := E8.out.set0 y
        go_wp2_with fail
        clear e0 e1 e2 ef G8 C8 E8
        generalize w8.setCell ⟨w4.heap.size, 0, none⟩ (.int .i64 y) = wz at *
        have FZ : Hid (Fq w wz w.heap.size (w.heap.size + 2) gb n G Bs p code ra rc oa oc rs os) := F4.out.turn GZ.out
        obtain ⟨k0, k1, k2, k3⟩ := FZ.out.box
        obtain ⟨a0', a1', a2', a3'⟩ := FZ.out.rbox
        have af := FZ.out.rfz
        obtain ⟨⟨d0, d1, d2⟩, df⟩ := FZ.out.ebox
        obtain ⟨⟨e0, e1, e2⟩, ef⟩ := EZ.out
        have dS : Bs ≠ w.heap.size := by have := FZ.out.b1; omega
        have dS' : w.heap.size ≠ Bs := fun e => dS e.symm
        have dT : Bs ≠ w.heap.size + 1 := by have := FZ.out.b1; omega
        have dT' : w.heap.size + 1 ≠ Bs := fun e => dT e.symm
        have dU : w4.heap.size ≠ w.heap.size := by have := F4.out.rbox.lt; omega
        have dU' : w.heap.size ≠ w4.heap.size := fun e => dU e.symm
        have dV : w4.heap.size ≠ w.heap.size + 1 := by have := F4.out.ebox.lt; omega
        have dV' : w.heap.size + 1 ≠ w4.heap.size := fun e => dV e.symm
        go_region
        go_wp2
        exact bodyPost_ret (v := .tuple #[.slice (some ⟨gb, 0, none⟩) n gc, stV p ra rs.length rc oa os.length oc code, evV y Q V]) (by simp [results, Try.results8, go_sem, a0', a1', a2', a3', d0, d1, d2]) rfl ⟨gb, n, gc, G, p, code, ra, rc, oa, oc, rs, os, y, Q, V, rfl, hn, FZ.out.done (by
          refine Tu.dr ?_
          repeat (refine Tu.set ?_ (by omega) (by omega) _ _)
          exact Tu.refl _ _ _)⟩
      by_cases h1 : x = 1
      · subst h1
        go_wp2_with fail
        refine (l1PickInt_any W0 (w.heap.size + 2) len cap w7.heap.size 5 5 a0 pickD _ (C7.out.alloc _) (by omega) (by omega) (by simp) (by have := C7.out.lt; omega) (pickD_at w7)).mono ?_
        rintro e w8 ⟨y, rfl, hc8, hg8'⟩
        have hg8 : w7.grownBy w8 (some (w.heap.size + 2)) := (World.grownBy_alloc w7 _ _).trans hg8'
        clear hg8'
        have G8 : Hid (w4.grownBy w8 (some (w.heap.size + 2))) := G7.out.trans hg8
        have C8 : Hid (Cur w8 W0 (w.heap.size + 2) a0 len cap) := hc8
        have E8 : Hid (EvB w8 w4.heap.size K Q V) := E7.out.block (hg8.block _ E7.out.lt (by simp [dc]))
        clear hc8 hg8 G7 C7 E7 e0 e1 e2 ef
        obtain ⟨⟨e0, e1, e2⟩, ef⟩ := E8.out
        have GZ : Hid (w4.grownBy (w8.setCell ⟨w4.heap.size, 2, none⟩ (.int .i64 y)) (some (w.heap.size + 2))) := grown_setCell (p := ⟨w4.heap.size, 2, none⟩) G8.out (.inr (Nat.le_refl _)) _
        have EZ : Hid (EvB (w8.setCell ⟨w4.heap.size, 2, none⟩ (.int .i64 y)) w4.heap.size K Q y) := E8.out.set2 y
        go_wp2_with fail
        clear e0 e1 e2 ef G8 C8 E8
        generalize w8.setCell ⟨w4.heap.size, 2, none⟩ (.int .i64 y) = wz at *
        have FZ : Hid (Fq w wz w.heap.size (w.heap.size + 2) gb n G Bs p code ra rc oa oc rs os) := F4.out.turn GZ.out
        obtain ⟨k0, k1, k2, k3⟩ := FZ.out.box
        obtain ⟨a0', a1', a2', a3'⟩ := FZ.out.rbox
        have af := FZ.out.rfz
        obtain ⟨⟨d0, d1, d2⟩, df⟩ := FZ.out.ebox
        obtain ⟨⟨e0, e1, e2⟩, ef⟩ := EZ.out
        have dS : Bs ≠ w.heap.size := by have := FZ.out.b1; omega
        have dS' : w.heap.size ≠ Bs := fun e => dS e.symm
        have dT : Bs ≠ w.heap.size + 1 := by have := FZ.out.b1; omega
        have dT' : w.heap.size + 1 ≠ Bs := fun e => dT e.symm
        have dU : w4.heap.size ≠ w.heap.size := by have := F4.out.rbox.lt; omega
        have dU' : w.heap.size ≠ w4.heap.size := fun e => dU e.symm
        have dV : w4.heap.size ≠ w.heap.size + 1 := by have := F4.out.ebox.lt; omega
        have dV' : w.heap.size + 1 ≠ w4.heap.size := fun e => dV e.symm
        go_region
        go_wp2
        exact bodyPost_ret (v := .tuple #[.slice (some ⟨gb, 0, none⟩) n gc, stV p ra rs.length rc oa os.length oc code, evV K Q y]) (by simp [results, Try.results8, go_sem, a0', a1', a2', a3', d0, d1, d2]) rfl ⟨gb, n, gc, G, p, code, ra, rc, oa, oc, rs, os, K, Q, y, rfl, hn, FZ.out.done (by
          refine Tu.dr ?_
          repeat (refine Tu.set ?_ (by omega) (by omega) _ _)
          exact Tu.refl _ _ _)⟩
      by_cases h2 : x = 2
      · subst h2
        go_wp2_with fail
        refine (l1Below_any W0 (w.heap.size + 2) len cap a0 _ _ C7.out (by omega) (by omega)).mono ?_
        rintro e w8 ⟨y, rfl, ⟨y0, y1⟩, hc8, hg8⟩
        have G8 : Hid (w4.grownBy w8 (some (w.heap.size + 2))) := G7.out.trans hg8
        have C8 : Hid (Cur w8 W0 (w.heap.size + 2) a0 len cap) := hc8
        have E8 : Hid (EvB w8 w4.heap.size K Q V) := E7.out.block (hg8.block _ E7.out.lt (by simp [dc]))
        clear hc8 hg8 G7 C7 E7 e0 e1 e2 ef
        obtain ⟨⟨e0, e1, e2⟩, ef⟩ := E8.out
        have GZ : Hid (w4.grownBy (w8.setCell ⟨w4.heap.size, 1, none⟩ (.int .i64 (y - 1))) (some (w.heap.size + 2))) := grown_setCell (p := ⟨w4.heap.size, 1, none⟩) G8.out (.inr (Nat.le_refl _)) _
        have EZ : Hid (EvB (w8.setCell ⟨w4.heap.size, 1, none⟩ (.int .i64 (y - 1))) w4.heap.size K (y - 1) V) := E8.out.set1 (y - 1)
        go_wp2_with fail
        clear e0 e1 e2 ef G8 C8 E8
        generalize w8.setCell ⟨w4.heap.size, 1, none⟩ (.int .i64 (y - 1)) = wz at *
        have FZ : Hid (Fq w wz w.heap.size (w.heap.size + 2) gb n G Bs p code ra rc oa oc rs os) := F4.out.turn GZ.out
        obtain ⟨k0, k1, k2, k3⟩ := FZ.out.box
        obtain ⟨a0', a1', a2', a3'⟩ := FZ.out.rbox
        have af := FZ.out.rfz
        obtain ⟨⟨d0, d1, d2⟩, df⟩ := FZ.out.ebox
        obtain ⟨⟨e0, e1, e2⟩, ef⟩ := EZ.out
        have dS : Bs ≠ w.heap.size := by have := FZ.out.b1; omega
        have dS' : w.heap.size ≠ Bs := fun e => dS e.symm
        have dT : Bs ≠ w.heap.size + 1 := by have := FZ.out.b1; omega
        have dT' : w.heap.size + 1 ≠ Bs := fun e => dT e.symm
        have dU : w4.heap.size ≠ w.heap.size := by have := F4.out.rbox.lt; omega
        have dU' : w.heap.size ≠ w4.heap.size := fun e => dU e.symm
        have dV : w4.heap.size ≠ w.heap.size + 1 := by have := F4.out.ebox.lt; omega
        have dV' : w.heap.size + 1 ≠ w4.heap.size := fun e => dV e.symm
        go_region
        go_wp2
        exact bodyPost_ret (v := .tuple #[.slice (some ⟨gb, 0, none⟩) n gc, stV p ra rs.length rc oa os.length oc code, evV K (y - 1) V]) (by simp [results, Try.results8, go_sem, a0', a1', a2', a3', d0, d1, d2]) rfl ⟨gb, n, gc, G, p, code, ra, rc, oa, oc, rs, os, K, (y - 1), V, rfl, hn, FZ.out.done (by
          refine Tu.dr ?_
          repeat (refine Tu.set ?_ (by omega) (by omega) _ _)
          exact Tu.refl _ _ _)⟩
      have n0 : (x == 0) = false := by simpa using h0
      have n1 : (x == 1) = false := by simpa using h1
      have n2 : (x == 2) = false := by simpa using h2
      go_wp2_with fail
      have GZ := G7
      have EZ := E7
      clear e0 e1 e2 ef G7 C7 E7
      generalize w7 = wz at *
      have FZ : Hid (Fq w wz w.heap.size (w.heap.size + 2) gb n G Bs p code ra rc oa oc rs os) := F4.out.turn GZ.out
      obtain ⟨k0, k1, k2, k3⟩ := FZ.out.box
      obtain ⟨a0', a1', a2', a3'⟩ := FZ.out.rbox
      have af := FZ.out.rfz
      obtain ⟨⟨d0, d1, d2⟩, df⟩ := FZ.out.ebox
      obtain ⟨⟨e0, e1, e2⟩, ef⟩ := EZ.out
      have dS : Bs ≠ w.heap.size := by have := FZ.out.b1; omega
      have dS' : w.heap.size ≠ Bs := fun e => dS e.symm
      have dT : Bs ≠ w.heap.size + 1 := by have := FZ.out.b1; omega
      have dT' : w.heap.size + 1 ≠ Bs := fun e => dT e.symm
      have dU : w4.heap.size ≠ w.heap.size := by have := F4.out.rbox.lt; omega
      have dU' : w.heap.size ≠ w4.heap.size := fun e => dU e.symm
      have dV : w4.heap.size ≠ w.heap.size + 1 := by have := F4.out.ebox.lt; omega
      have dV' : w.heap.size + 1 ≠ w4.heap.size := fun e => dV e.symm
      go_region
      go_wp2
      exact bodyPost_ret (v := .tuple #[.slice (some ⟨gb, 0, none⟩) n gc, stV p ra rs.length rc oa os.length oc code, evV K Q V]) (by simp [results, Try.results8, go_sem, a0', a1', a2', a3', d0, d1, d2]) rfl ⟨gb, n, gc, G, p, code, ra, rc, oa, oc, rs, os, K, Q, V, rfl, hn, FZ.out.done (by
        refine Tu.dr ?_
        repeat (refine Tu.set ?_ (by omega) (by omega) _ _)
        exact Tu.refl _ _ _)⟩

end Go.Proofs.Ytmbmhpginegggaa

namespace Go.Proofs.Ytmbmhpginegggaa
open Go.RowKit

theorem stOk_mk {n : Nat} {p code : Int} {rs os : List Int} (h1 : rs.length = 4) (h2 : allN rs = true) (h3 : 0 ≤ code ∧ code ≤ 2) (h4 : belB p n = true) (h5 : os.length ≤ 60) (h6 : allN os = true) : stOkB n p rs os code = true := by
  have e : inB code 0 2 = true := by simp [inB]; omega
  have e5 : ((os.length : Int) ≤ 60) := by omega
  simp [stOkB, regsB, outB, h1, h2, e, h4, e5, h6]

theorem allN_set {xs : List Int} {j : Nat} {v : Int} (h : allN xs = true) (hv : numB v = true) : allN (xs.set j v) = true := by
  unfold allN at h ⊢
  rw [List.all_eq_true] at h ⊢
  intro x hx
  rcases List.mem_or_eq_of_mem_set hx with h1 | h1
  · exact h x h1
  · rw [h1]; exact hv

/-- A state that is right for a list of so many places. -/
def OkS (len : Nat) (S : S4) : Prop := stOkB len S.p S.rs S.os S.c = true

theorem goS_ok {len k : Nat} {rs os : List Int} (hk : k < len) (h1 : rs.length = 4) (h2 : allN rs = true) (h5 : os.length ≤ 60) (h6 : allN os = true) : OkS len (goS len k rs os 0) := by
  unfold OkS goS goP goC
  by_cases h : (len : Int) ≤ (k : Int) + 1
  · simp only [h, if_true]
    exact stOk_mk h1 h2 (by omega) (by simp [belB]; omega) h5 h6
  · simp only [h, if_false]
    exact stOk_mk h1 h2 (by omega) (by simp [belB]; omega) h5 h6

theorem doS_ok {g : Nat → I5} {len : Nat} {p : Int} {rs os : List Int} {code ek eq ev : Int} (hB : doB g len p rs os code ek eq ev = true) : OkS len (doS g len p rs os code ek eq ev) := by
  have hR := doB_right hB
  obtain ⟨hp, hs, rfl⟩ := right_parts hR
  obtain ⟨⟨a1, a2, a3, a4, rfl, n1, n2, n3, n4⟩, ⟨k, rfl, hk⟩, h60, hN⟩ := st_parts hs
  have hS : doS g len k [a1, a2, a3, a4] os 0 ek eq ev = doneS len (g k) k [a1, a2, a3, a4] os 0 ev := by
    unfold doS
    rw [if_pos hB, Int.toNat_natCast]
  rw [hS]
  have hins := right_ins hp hk
  obtain ⟨⟨o1, o11⟩, ⟨r0, r3⟩, ⟨m0, m3⟩, ⟨q0, q3⟩⟩ := ins_range hins
  have hA : allN [a1, a2, a3, a4] = true := by simp [allN, n1, n2, n3, n4]
  have hz : ∀ j, j < 4 → numB (zi [a1, a2, a3, a4] j) = true := fun j hj => by
    match j, hj with
    | 0, _ => exact n1
    | 1, _ => exact n2
    | 2, _ => exact n3
    | 3, _ => exact n4
  have hkB : belB (k : Int) len = true := by simp [belB]; omega
  have hc := hB
  unfold doB nxK nxP nxW at hc
  rw [if_pos hR, if_pos hR, if_pos hR, Int.toNat_natCast] at hc
  have v7 : (g k).o = 7 → numB ev = true := fun h => by
    rw [h, show evK 7 = 3 from rfl, canB_take] at hc
    simp only [Bool.and_eq_true] at hc
    exact hc.1.2
  have v8 : (g k).o = 8 → numB ev = true := fun h => by
    rw [h, show evK 8 = 4 from rfl, canB_other (by decide) (by decide)] at hc
    unfold evEqB at hc
    simp only [Bool.and_eq_true, beq_iff_eq] at hc
    rw [hc.2.2]
    exact hz _ (by omega)
  unfold doneS
  split
  · exact goS_ok hk rfl hA h60 hN
  split
  · rename_i h7
    exact goS_ok hk (by simp) (allN_set hA (v7 h7)) h60 hN
  split
  · rename_i h8
    split
    · exact stOk_mk rfl hA (by simp) hkB h60 hN
    · refine goS_ok hk rfl hA (by simp; omega) ?_
      unfold allN at hN ⊢
      rw [List.all_append, hN]
      simp [v8 h8]
  split
  · rename_i h9
    exact stOk_mk rfl hA (by simp) (jump_to hins (.inl h9)) h60 hN
  split
  · rename_i h10
    split
    · exact stOk_mk rfl hA (by simp) (jump_to hins (.inr h10)) h60 hN
    · exact goS_ok hk rfl hA h60 hN
  split
  · exact stOk_mk rfl hA (by simp) hkB h60 hN
  split
  · rename_i hv
    exact goS_ok hk (by simp) (allN_set hA hv) h60 hN
  · exact stOk_mk rfl hA (by simp) hkB h60 hN

/-- Where nothing is taken, what is done is what comes; a take is done where one comes. -/
theorem done_next {K P V ek eq ev : Int} (h : canB K P V ek eq ev = true) : (K = 3 ∧ ek = 3) ∨ (K ≠ 3 ∧ ek = K ∧ eq = P ∧ ev = V) := by
  unfold canB at h
  by_cases h3 : K = 3
  · rw [if_pos h3] at h
    simp only [Bool.and_eq_true, beq_iff_eq] at h
    exact .inl ⟨h3, h.1.1⟩
  · rw [if_neg h3] at h
    simp only [Bool.and_eq_true, beq_iff_eq] at h
    exact .inr ⟨h3, h.2.1, h.2.2.1, h.2.2.2⟩

end Go.Proofs.Ytmbmhpginegggaa

namespace Go.Proofs.Ytmbmhpginegggaa
open Go.RowKit Go.Sort

set_option maxRecDepth 100000 in
set_option maxHeartbeats 4000000 in
theorem sameState_same (p code : Int) (ra oa ra' oa' : Option Addr) (rc oc rc' oc' : Nat) (rs os : List Int) (w : World) (hr : rs.length ≤ 1048576) (ho : os.length ≤ 1048576) (h1 : Sl w ra rs) (h2 : Sl w oa os) (h1' : Sl w ra' rs) (h2' : Sl w oa' os) :
    Calls Try.prog 13 #[stV p ra rs.length rc oa os.length oc code, stV p ra' rs.length rc' oa' os.length oc' code] w fun e w' => e = .returned (.bool true) ∧ Below w.heap.size w w' := by
  have H1 : Hid (Sl w ra rs) := h1
  have H2 : Hid (Sl w oa os) := h2
  have H1' : Hid (Sl w ra' rs) := h1'
  have H2' : Hid (Sl w oa' os) := h2'
  clear h1 h2 h1' h2'
  go_enter Try.func13, Try.ntmps13
  go_wp2_with fail
  refine (sameInts_same ra ra' rc rc' rs _ hr (H1.out.below (by go_grown)) (H1'.out.below (by go_grown))).mono ?_
  rintro e w1 ⟨rfl, b1⟩
  have B1 : Hid (Below w.heap.size w w1) := below_up (by go_grown) b1 (by simp; omega)
  obtain ⟨hc1, hf1⟩ := bcell b1
  have l0 : w.heap.size < w.heap.size + 1 + 1 := by omega
  have l1 : w.heap.size + 1 < w.heap.size + 1 + 1 := by omega
  have k0 : w1.cell? ⟨w.heap.size, 2, none⟩ = some (.slice oa os.length oc) := (hc1 w.heap.size 2 (by simp; omega)).trans ((old_cell _ _ (by simp)).trans (new_cell _ _ _ 2 rfl))
  have k1 : w1.cell? ⟨w.heap.size + 1, 2, none⟩ = some (.slice oa' os.length oc') := (hc1 (w.heap.size + 1) 2 (by simp)).trans (new_cellB _ _ _ 2 (by simp))
  clear b1 hc1 hf1
  go_wp2_with fail
  refine (sameInts_same oa oa' oc oc' os _ ho (H2.out.below B1.out) (H2'.out.below B1.out)).mono ?_
  rintro e w2 ⟨rfl, b2⟩
  have B2 : Hid (Below w.heap.size w w2) := B1.out.trans (b2.mono B1.out.size)
  clear b2
  go_wp2
  go_ret
  exact ⟨rfl, B2.out⟩

end Go.Proofs.Ytmbmhpginegggaa

namespace Go.Proofs.Ytmbmhpginegggaa
open Go.ChangeShapes Go.WideShapes Go.ChangeAt Go.RowKit Go.Deep Go.Sort

/-- What the law has drawn, in memory: the program, the state in block N, the event behind it. -/
def Od (w wr : World) (N gb n : Nat) (G : Nat → I5) (p code : Int) (ra : Option Addr) (rc : Nat) (oa : Option Addr) (oc : Nat) (rs os : List Int) (ek eq ev : Int) : Prop :=
  Below w.heap.size w wr ∧ (gb < wr.heap.size ∧ InsAt wr gb 0 n G) ∧ (Sl wr ra rs ∧ Sl wr oa os) ∧ BoxC wr N (.int .i64 p) (.slice ra rs.length rc) (.slice oa os.length oc) (.int .i64 code) ∧ EvC3 wr (N + 1) ek eq ev
theorem Od.step {w wr w' : World} {N gb n : Nat} {G : Nat → I5} {p code : Int} {ra : Option Addr} {rc : Nat} {oa : Option Addr} {oc : Nat} {rs os : List Int} {ek eq ev : Int} (h : Od w wr N gb n G p code ra rc oa oc rs os ek eq ev) (hb : Below wr.heap.size wr w') : Od w w' N gb n G p code ra rc oa oc rs os ek eq ev :=
  ⟨h.1.trans (hb.mono h.1.size), ⟨Nat.lt_of_lt_of_le h.2.1.1 hb.size, h.2.1.2.below hb h.2.1.1⟩, ⟨h.2.2.1.1.below hb, h.2.2.1.2.below hb⟩, h.2.2.2.1.below hb, h.2.2.2.2.below hb⟩

set_option maxRecDepth 100000 in
set_option maxHeartbeats 8000000 in
theorem only_small (a0 : Option Addr) (len cap : Nat) (w : World) (hl : len ≤ 1048576) (hB : BytesAt w w.heap.size a0 len) :
    Calls Try.prog 3 #[.slice a0 len cap] w fun e w' => e = .returned (.bool true) ∧ Below w.heap.size w w' := by
  have hl' : ¬ (1048576 : Int) < (len : Int) := by omega
  have HB : Hid (BytesAt w w.heap.size a0 len) := hB
  clear hB
  go_enter Try.func3, Try.ntmps3
  go_wp2_with fail
  refine (big_any a0 len cap _).mono ?_
  rintro e w0 ⟨rfl, rfl⟩
  go_wp2_with fail
  refine (DrawDo_any w0.heap.size len cap a0 _ HB.out (Nat.le_refl _) hl).mono ?_
  rintro e w1 ⟨gb, n, gc, G, p, code, ra, rc, oa, oc, rs, os, ek, eq, ev, rfl, hn, hgl, hI, s1, s2, hr, ho, b1⟩
  have HL : Hid (n ≤ maxLen) := by
    show n ≤ maxLen
    unfold maxLen
    omega
  have bz : Below w1.heap.size w1 ((w1.alloc (.cells #[.int .i64 p, .slice ra rs.length rc, .slice oa os.length oc, .int .i64 code] 27)).alloc (.cells #[.int .i64 ek, .int .i64 eq, .int .i64 ev] 29)) := by go_grown
  have D2 : Hid (Od w0 ((w1.alloc (.cells #[.int .i64 p, .slice ra rs.length rc, .slice oa os.length oc, .int .i64 code] 27)).alloc (.cells #[.int .i64 ek, .int .i64 eq, .int .i64 ev] 29)) w1.heap.size gb n G p code ra rc oa oc rs os ek eq ev) := by
    refine ⟨b1.trans (bz.mono b1.size), ⟨Nat.lt_of_lt_of_le hgl bz.size, hI.below bz hgl⟩, ⟨s1.below bz, s2.below bz⟩, (BoxC.new w1 _ _ _ _ _).below (below_alloc _ _), ?_⟩
    have := EvC3.new (w1.alloc (.cells #[.int .i64 p, .slice ra rs.length rc, .slice oa os.length oc, .int .i64 code] 27)) ek eq ev 29
    rw [World.size_alloc] at this
    exact this
  clear b1 hI s1 s2 bz HB
  go_wp2_with fail
  generalize (w1.alloc (.cells #[.int .i64 p, .slice ra rs.length rc, .slice oa os.length oc, .int .i64 code] 27)).alloc (.cells #[.int .i64 ek, .int .i64 eq, .int .i64 ev] 29) = w2 at *
  generalize w1.heap.size = N at *
  have hok : doB G n p rs os code ek eq ev = true → OkS n (doS G n p rs os code ek eq ev) := doS_ok
  have hno : doB G n p rs os code ek eq ev = false → doS G n p rs os code ek eq ev = ⟨p, rs, os, code⟩ := fun h => by
    unfold doS
    rw [if_neg (by rw [h]; decide)]
  have hnx : doB G n p rs os code ek eq ev = true → (nxK G n p rs os code = 3 ∧ ek = 3) ∨ (nxK G n p rs os code ≠ 3 ∧ ek = nxK G n p rs os code ∧ eq = nxP G n p rs os code ∧ ev = nxW G n p rs os code) := fun h => done_next h
  have hle := doS_len G n p rs os code ek eq ev hr ho
  refine (implDo_any gb 0 n gc G p code ra oa rc oc rs os ek eq ev _ HL.out D2.out.2.1.1 D2.out.2.1.2 hr ho D2.out.2.2.1.1 D2.out.2.2.1.2).mono ?_
  rintro e w3 hd
  generalize hS : doS G n p rs os code ek eq ev = S at *
  generalize hT : doB G n p rs os code ek eq ev = T at *
  have HST : Hid (doS G n p rs os code ek eq ev = S ∧ doB G n p rs os code ek eq ev = T) := ⟨hS, hT⟩
  have HF : Hid ((T = true → OkS n S) ∧ (T = false → S = ⟨p, rs, os, code⟩) ∧ (T = true → (nxK G n p rs os code = 3 ∧ ek = 3) ∨ (nxK G n p rs os code ≠ 3 ∧ ek = nxK G n p rs os code ∧ eq = nxP G n p rs os code ∧ ev = nxW G n p rs os code)) ∧ S.rs.length ≤ 1048576 ∧ S.os.length ≤ 1048576) := ⟨hok, hno, hnx, hle⟩
  clear hS hT hok hno hnx hle
  obtain ⟨v3, rfl, o3, b3⟩ := hd
  obtain ⟨rt, ct, ot, dt, rfl, t1, t2⟩ := o3.read
  have q3 := below_alloc w3 (.cells #[.int .i64 S.p, .slice rt S.rs.length ct, .slice ot S.os.length dt, .int .i64 S.c] 27)
  have D4 : Hid (Od w0 (w3.alloc (.cells #[.int .i64 S.p, .slice rt S.rs.length ct, .slice ot S.os.length dt, .int .i64 S.c] 27)) N gb n G p code ra rc oa oc rs os ek eq ev) := (D2.out.step b3).step q3
  have T4 : Hid (BoxC (w3.alloc (.cells #[.int .i64 S.p, .slice rt S.rs.length ct, .slice ot S.os.length dt, .int .i64 S.c] 27)) w3.heap.size (.int .i64 S.p) (.slice rt S.rs.length ct) (.slice ot S.os.length dt) (.int .i64 S.c) ∧ Sl (w3.alloc (.cells #[.int .i64 S.p, .slice rt S.rs.length ct, .slice ot S.os.length dt, .int .i64 S.c] 27)) rt S.rs ∧ Sl (w3.alloc (.cells #[.int .i64 S.p, .slice rt S.rs.length ct, .slice ot S.os.length dt, .int .i64 S.c] 27)) ot S.os) := ⟨BoxC.new w3 _ _ _ _ _, t1.below q3, t2.below q3⟩
  clear o3 t1 t2 b3 q3 D2
  obtain ⟨c0, c1, c2, c3⟩ := D4.out.2.2.2.1
  obtain ⟨e0, e1, e2⟩ := D4.out.2.2.2.2
  go_wp2_with fail
  generalize w3.alloc (.cells #[.int .i64 S.p, .slice rt S.rs.length ct, .slice ot S.os.length dt, .int .i64 S.c] 27) = w4 at *
  generalize w3.heap.size = M at *
  refine (specDo_any gb 0 n gc G p code ra oa rc oc rs os ek eq ev _ HL.out D4.out.2.1.1 D4.out.2.1.2 hr ho D4.out.2.2.1.1 D4.out.2.2.1.2).mono ?_
  rintro e w5' hd
  rw [HST.out.1, HST.out.2] at hd
  obtain ⟨v5, rfl, o5, b5'⟩ := hd
  obtain ⟨ru, cu, ou, du, rfl, -, -⟩ := o5.read
  have b5 : Below w4.heap.size w4 (w5'.alloc (.cells #[.int .i64 S.p, .slice ru S.rs.length cu, .slice ou S.os.length du, .int .i64 S.c] 27)) := b5'.trans ((below_alloc _ _).mono b5'.size)
  clear o5 b5'
  have D5 : Hid (Od w0 (w5'.alloc (.cells #[.int .i64 S.p, .slice ru S.rs.length cu, .slice ou S.os.length du, .int .i64 S.c] 27)) N gb n G p code ra rc oa oc rs os ek eq ev) := D4.out.step b5
  have T5 : Hid (BoxC (w5'.alloc (.cells #[.int .i64 S.p, .slice ru S.rs.length cu, .slice ou S.os.length du, .int .i64 S.c] 27)) M (.int .i64 S.p) (.slice rt S.rs.length ct) (.slice ot S.os.length dt) (.int .i64 S.c) ∧ Sl (w5'.alloc (.cells #[.int .i64 S.p, .slice ru S.rs.length cu, .slice ou S.os.length du, .int .i64 S.c] 27)) rt S.rs ∧ Sl (w5'.alloc (.cells #[.int .i64 S.p, .slice ru S.rs.length cu, .slice ou S.os.length du, .int .i64 S.c] 27)) ot S.os) := ⟨T4.out.1.below b5, T4.out.2.1.below b5, T4.out.2.2.below b5⟩
  clear b5 D4 T4 c0 c1 c2 c3 e0 e1 e2
  obtain ⟨c0, c1, c2, c3⟩ := D5.out.2.2.2.1
  go_wp2_with fail
  generalize w5'.alloc (.cells #[.int .i64 S.p, .slice ru S.rs.length cu, .slice ou S.os.length du, .int .i64 S.c] 27) = w5 at *
  refine (implNext_any gb 0 n gc G p code ra oa rc oc rs os _ HL.out D5.out.2.1.1 D5.out.2.1.2 ho D5.out.2.2.1.1 D5.out.2.2.1.2).mono ?_
  rintro e w6 ⟨rfl, b6⟩
  have hsn := specNext_any gb 0 n gc G p code ra oa rc oc rs os
  have HSN : Hid (∀ wx, gb < wx.heap.size → InsAt wx gb 0 n G → Sl wx ra rs → Sl wx oa os → Calls Try.prog 12 #[.slice (some ⟨gb, 0, none⟩) n gc, stV p ra rs.length rc oa os.length oc code] wx fun e w' => e = .returned (evV (nxK G n p rs os code) (nxP G n p rs os code) (nxW G n p rs os code)) ∧ Below wx.heap.size wx w') := fun wx h1 h2 h3 h4 => hsn wx HL.out h1 h2 hr ho h3 h4
  clear hsn
  generalize nxK G n p rs os code = K at *
  generalize nxP G n p rs os code = P at *
  generalize nxW G n p rs os code = V at *
  have q6 := below_alloc w6 (.cells #[.int .i64 K, .int .i64 P, .int .i64 V] 29)
  have q7 : Below w5.heap.size w5 (w6.alloc (.cells #[.int .i64 K, .int .i64 P, .int .i64 V] 29)) := b6.trans (q6.mono b6.size)
  have D7 : Hid (Od w0 (w6.alloc (.cells #[.int .i64 K, .int .i64 P, .int .i64 V] 29)) N gb n G p code ra rc oa oc rs os ek eq ev) := D5.out.step q7
  have T7 : Hid (BoxC (w6.alloc (.cells #[.int .i64 K, .int .i64 P, .int .i64 V] 29)) M (.int .i64 S.p) (.slice rt S.rs.length ct) (.slice ot S.os.length dt) (.int .i64 S.c) ∧ Sl (w6.alloc (.cells #[.int .i64 K, .int .i64 P, .int .i64 V] 29)) rt S.rs ∧ Sl (w6.alloc (.cells #[.int .i64 K, .int .i64 P, .int .i64 V] 29)) ot S.os) := ⟨T5.out.1.below q7, T5.out.2.1.below q7, T5.out.2.2.below q7⟩
  have N7 : Hid (EvC3 (w6.alloc (.cells #[.int .i64 K, .int .i64 P, .int .i64 V] 29)) w6.heap.size K P V) := EvC3.new w6 K P V _
  clear b6 q6 q7 D5 T5 c0 c1 c2 c3
  have hneq : ∀ w : World, (binOp .neq 29 (.agg #[.int .i64 K, .int .i64 P, .int .i64 V]) (evV K P V)).run Try.prog w = .ok (.bool false) w := fun w => by
    have h := neq_ev K P V K P V w
    simp [evEqB] at h
    exact h
  obtain ⟨c0, c1, c2, c3⟩ := D7.out.2.2.2.1
  obtain ⟨k0, k1, k2⟩ := N7.out
  have hneq2 : ∀ w : World, (binOp .neq 29 (.agg #[.int .i64 K, .int .i64 P, .int .i64 V]) (.agg #[.int .i64 K, .int .i64 P, .int .i64 V])).run Try.prog w = .ok (.bool false) w := hneq
  have tt : (T != T) = false := by simp
  clear c0 c1 c2 c3 k0 k1 k2
  go_wp2_with fail
  generalize w6.alloc (.cells #[.int .i64 K, .int .i64 P, .int .i64 V] 29) = w7 at *
  generalize w6.heap.size = Nn at *
  obtain ⟨c0, c1, c2, c3⟩ := D7.out.2.2.2.1
  obtain ⟨k0, k1, k2⟩ := N7.out
  have HQ : Hid (∀ d os', Below w7.heap.size w7 (grow (redrawn w7 d) os')) := fun d os' => below_regrown w7 d os'
  have HCn : Hid (∀ wx, Below w7.heap.size w7 wx → Calls Try.prog 12 #[.slice (some ⟨gb, 0, none⟩) n gc, stV p ra rs.length rc oa os.length oc code] wx fun e w' => e = .returned (evV K P V) ∧ Below wx.heap.size wx w') := fun wx hb => HSN.out wx (D7.out.step hb).2.1.1 (D7.out.step hb).2.1.2 (D7.out.step hb).2.2.1.1 (D7.out.step hb).2.2.1.2
  have c0' := cell_regrown c0
  have c1' := cell_regrown c1
  have c2' := cell_regrown c2
  have c3' := cell_regrown c3
  have k0' := cell_regrown k0
  have k1' := cell_regrown k1
  have k2' := cell_regrown k2
  refine wp_region_quiet_below (by kernel_rfl) (by kernel_rfl) ?_
  repeat (quiet_step (first | (go_at_call 12; exact Calls.regrown_of (HCn.out _ (HQ.out _ _))) | fail))
  refine wpQuiet_nil ?_
  intro _ hw'
  obtain ⟨⟨dq, osq⟩, hw''⟩ := hw'
  subst hw''
  have b8 := below_regrown w7 dq osq
  have D8 : Hid (Od w0 (grow (redrawn w7 dq) osq) N gb n G p code ra rc oa oc rs os ek eq ev) := D7.out.step b8
  have T8 : Hid (BoxC (grow (redrawn w7 dq) osq) M (.int .i64 S.p) (.slice rt S.rs.length ct) (.slice ot S.os.length dt) (.int .i64 S.c) ∧ Sl (grow (redrawn w7 dq) osq) rt S.rs ∧ Sl (grow (redrawn w7 dq) osq) ot S.os) := ⟨T7.out.1.below b8, T7.out.2.1.below b8, T7.out.2.2.below b8⟩
  have N8 : Hid (EvC3 (grow (redrawn w7 dq) osq) Nn K P V) := N7.out.below b8
  generalize grow (redrawn w7 dq) osq = w8 at *
  clear c0' c1' c2' c3' k0' k1' k2' HQ HCn HSN D7 T7 N7 b8 hneq tt c0 c1 c2 c3 k0 k1 k2
  cases T
  case false =>
    have hS := HF.out.2.1 rfl
    subst hS
    clear HF HST hneq2
    obtain ⟨c0, c1, c2, c3⟩ := D8.out.2.2.2.1
    obtain ⟨t0, t1, t2, t3⟩ := T8.out.1
    dsimp only at t0 t1 t2 t3
    go_wp2_with fail
    refine (sameState_same p code ra oa rt ot rc oc ct dt rs os _ hr ho D8.out.2.2.1.1 D8.out.2.2.1.2 T8.out.2.1 T8.out.2.2).mono ?_
    rintro e w9 ⟨rfl, b9⟩
    have D9 : Hid (Od w0 w9 N gb n G p code ra rc oa oc rs os ek eq ev) := D8.out.step b9
    clear b9
    go_wp2
    go_ret
    exact ⟨rfl, D9.out.1⟩
  case true =>
    have hok := HF.out.1 rfl
    have hnx := HF.out.2.2.1 rfl
    have hSo := HF.out.2.2.2.2
    unfold OkS at hok
    have HOK : Hid (stOkB n S.p S.rs S.os S.c = true) := hok
    clear hok HF HST
    obtain ⟨k0, k1, k2⟩ := N8.out
    obtain ⟨e0, e1, e2⟩ := D8.out.2.2.2.2
    have HTk : Hid (∀ wx, Below w8.heap.size w8 wx → Calls Try.prog 14 #[.slice (some ⟨gb, 0, none⟩) n gc, stV S.p rt S.rs.length ct ot S.os.length dt S.c] wx fun e w' => e = .returned (.bool true) ∧ Below wx.heap.size wx w') := fun wx hb => by
      have h := implStateOk_any (some ⟨gb, 0, none⟩) n gc S.p S.c rt ot ct dt S.rs S.os wx hSo (T8.out.2.1.below hb) (T8.out.2.2.below hb)
      rw [HOK.out] at h
      exact h
    have HSi : Hid (∀ wx, Below w8.heap.size w8 wx → Calls Try.prog 14 #[.slice (some ⟨gb, 0, none⟩) n gc, stV p ra rs.length rc oa os.length oc code] wx fun e w' => e = .returned (.bool (stOkB n p rs os code)) ∧ Below wx.heap.size wx w') := fun wx hb => implStateOk_any (some ⟨gb, 0, none⟩) n gc p code ra oa rc oc rs os wx ho (D8.out.step hb).2.2.1.1 (D8.out.step hb).2.2.1.2
    have HSp : Hid (∀ wx, Below w8.heap.size w8 wx → Calls Try.prog 15 #[.slice (some ⟨gb, 0, none⟩) n gc, stV p ra rs.length rc oa os.length oc code] wx fun e w' => e = .returned (.bool (stOkB n p rs os code)) ∧ Below wx.heap.size wx w') := fun wx hb => specStateOk_any (some ⟨gb, 0, none⟩) n gc p code ra oa rc oc rs os wx HL.out hr ho (D8.out.step hb).2.2.1.1 (D8.out.step hb).2.2.1.2
    rcases hnx with ⟨rfl, rfl⟩ | ⟨hK, rfl, rfl, rfl⟩
    · go_wp2_with fail
      clear k0 k1 k2 e0 e1 e2
      obtain ⟨c0, c1, c2, c3⟩ := D8.out.2.2.2.1
      obtain ⟨t0, t1, t2, t3⟩ := T8.out.1
      have HQ : Hid (∀ d os', Below w8.heap.size w8 (grow (redrawn w8 d) os')) := fun d os' => below_regrown w8 d os'
      have c0' := cell_regrown c0
      have c1' := cell_regrown c1
      have c2' := cell_regrown c2
      have c3' := cell_regrown c3
      have t0' := cell_regrown t0
      have t1' := cell_regrown t1
      have t2' := cell_regrown t2
      have t3' := cell_regrown t3
      have bb : (stOkB n p rs os code == stOkB n p rs os code) = true := by simp
      generalize stOkB n p rs os code = Z at *
      refine wp_region_quiet_below (by kernel_rfl) (by kernel_rfl) ?_
      repeat (quiet_step (first | (go_at_call_of 14 (rt); exact Calls.regrown_of (HTk.out _ (HQ.out _ _))) | (go_at_call_of 14 (ra); exact Calls.regrown_of (HSi.out _ (HQ.out _ _))) | (go_at_call 15; exact Calls.regrown_of (HSp.out _ (HQ.out _ _))) | fail))
      refine wpQuiet_nil ?_
      intro _ hw'
      obtain ⟨⟨dr, osr⟩, hw''⟩ := hw'
      subst hw''
      have B9 : Hid (Below w0.heap.size w0 (grow (redrawn w8 dr) osr)) := D8.out.1.trans ((below_regrown w8 dr osr).mono D8.out.1.size)
      generalize grow (redrawn w8 dr) osr = w9 at *
      clear c0' c1' c2' c3' t0' t1' t2' t3'
      go_wp2
      go_ret
      exact ⟨rfl, B9.out⟩
    · have tK : (ek == 3) = false := by simpa using hK
      have tK' : (ek != 3) = true := by simpa using hK
      go_wp2_with fail
      clear k0 k1 k2 e0 e1 e2
      obtain ⟨c0, c1, c2, c3⟩ := D8.out.2.2.2.1
      obtain ⟨t0, t1, t2, t3⟩ := T8.out.1
      have HQ : Hid (∀ d os', Below w8.heap.size w8 (grow (redrawn w8 d) os')) := fun d os' => below_regrown w8 d os'
      have c0' := cell_regrown c0
      have c1' := cell_regrown c1
      have c2' := cell_regrown c2
      have c3' := cell_regrown c3
      have t0' := cell_regrown t0
      have t1' := cell_regrown t1
      have t2' := cell_regrown t2
      have t3' := cell_regrown t3
      have bb : (stOkB n p rs os code == stOkB n p rs os code) = true := by simp
      generalize stOkB n p rs os code = Z at *
      refine wp_region_quiet_below (by kernel_rfl) (by kernel_rfl) ?_
      repeat (quiet_step (first | (go_at_call_of 14 (rt); exact Calls.regrown_of (HTk.out _ (HQ.out _ _))) | (go_at_call_of 14 (ra); exact Calls.regrown_of (HSi.out _ (HQ.out _ _))) | (go_at_call 15; exact Calls.regrown_of (HSp.out _ (HQ.out _ _))) | fail))
      refine wpQuiet_nil ?_
      intro _ hw'
      obtain ⟨⟨dr, osr⟩, hw''⟩ := hw'
      subst hw''
      have B9 : Hid (Below w0.heap.size w0 (grow (redrawn w8 dr) osr)) := D8.out.1.trans ((below_regrown w8 dr osr).mono D8.out.1.size)
      generalize grow (redrawn w8 dr) osr = w9 at *
      clear c0' c1' c2' c3' t0' t1' t2' t3'
      go_wp2
      go_ret
      exact ⟨rfl, B9.out⟩

set_option maxHeartbeats 400000 in
theorem only_big (a0 : Option Addr) (len cap : Nat) (w : World) (hl : 1048576 < len) :
    Calls Try.prog 3 #[.slice a0 len cap] w fun e w' => e = .returned (.bool true) ∧ Below w.heap.size w w' := by
  have hl' : (1048576 : Int) < (len : Int) := by omega
  go_enter Try.func3, Try.ntmps3
  go_wp2_with fail
  refine (big_any a0 len cap _).mono ?_
  rintro e w0 ⟨rfl, rfl⟩
  go_wp2
  go_ret
  exact ⟨rfl, Below.refl _ _⟩

end Go.Proofs.Ytmbmhpginegggaa

namespace Go.Proofs.Ytmbmhpginegggaa
open Go.ChangeShapes Go.WideShapes Go.ChangeAt Go.RowKit

set_option maxRecDepth 100000 in
theorem onlyLifted (os : Os) (started : os.Started) (H : Type) (enc : TypeId × Value → H) :
    ReturnsInHanded {} Try.checked os 3 .any (Rows.fnOnlySpec.pre6 enc Try.prog Try.f3 Rows.fnOnlyRow.domain false) (Rows.fnOnlySpec.post enc Try.prog Try.f3 false true false false) := by
  refine returnsInHanded_of_change (C := Try.checked) Try.own started (by kernel_rfl) Try.func3
    (ChangeSpec.witness6 (enc := enc) (C := Try.checked) false ⟨#[], #[.slice none 0 0], []⟩ 8 (by kernel_rfl) (by kernel_rfl) (by kernel_rfl) (by kernel_rfl)) ?_
  intro W base args ds gs before hval0 hW _ _
  have hval : ∀ (j : Nat) t v, Try.f3.params[j]? = some t → args[j]? = some v → Value.okWide Try.prog W .any base t v := hval0
  have hW' := hW
  obtain ⟨p, q, hA0, hV, rfl, hfz, hnd⟩ := hW
  have hA : DataW.TrodAll enc Try.prog W 0 (fun _ => true) true Try.f3.params.toList args.toList ds p := hA0
  rw [Try.params3] at hA hval
  obtain ⟨v0, d0, rfl, rfl, h0⟩ := trodAll_one hA
  obtain ⟨rfl, rfl⟩ := trodVars_none hV
  obtain ⟨a0, len, cap, rfl⟩ := okWide_slice Try.underlying22 (hval 0 22 v0 rfl rfl)
  have lt0 : ∀ x ∈ p, x.block < W.heap.size := by obtain ⟨m, hm⟩ := h0; exact DataW.trod_lt m _ _ _ hm
  clear hA0 hval0
  have hlaw : Calls Try.prog 3 #[.slice a0 len cap] W fun e w' => e = .returned (.bool true) ∧ Below W.heap.size W w' := by
    obtain ⟨_, hB⟩ := open_bytes h0
    by_cases hl : len ≤ 1048576
    · exact only_small a0 len cap W hl hB
    · exact only_big a0 len cap W (by omega)
  refine hlaw.mono fun e W' ⟨he, bel⟩ => ?_
  subst he
  exact ⟨_, rfl, _, _, _, [], _, [], hW', trodAll_mk1 (shut_bool Try.underlying4 _), trodAll_mk1 (Below.trod Try.laidOut (by kernel_rfl) (of_decide_eq_true (by kernel_rfl)) h0 bel lt0), rfl, bel.frame _, fun h => by cases h⟩

theorem only_holds : Rows.FnOnlySaid :=
  OpenClaim.holds_of_wide 3 Try.f3 rfl rfl rfl rfl rfl rfl rfl ⟨rfl, rfl, rfl, rfl, rfl⟩ rfl rfl rfl rfl rfl (by kernel_rfl) Try.func3 (by kernel_rfl)
    (of_decide_eq_true (by kernel_rfl)) (by unfold Func.isWrapper; first | (rw [if_pos (by decide +kernel)]; kernel_rfl) | (rw [if_neg (by decide +kernel)]; exact ⟨rfl, rfl⟩))
    (fun os started H enc _ => onlyLifted os started H enc)

end Go.Proofs.Ytmbmhpginegggaa

