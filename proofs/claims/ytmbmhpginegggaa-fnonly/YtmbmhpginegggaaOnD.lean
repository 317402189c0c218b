/- The walk of DrawDo: some program, some state, some event. -/
import Derived.Test.YtmbmhpginegggaaOnC
namespace Go.Proofs.Ytmbmhpginegggaa
open Go.RowKit Go.Sort

theorem EvB.set0 {w : World} {N : Nat} {k q v : Int} (h : EvB w N k q v) (x : Int) : EvB (w.setCell ⟨N, 0, none⟩ (.int .i64 x)) N x q v := by
  obtain ⟨⟨h0, h1, h2⟩, h3⟩ := h
  exact ⟨⟨by go_cell, by go_cell, by go_cell⟩, fun j => by rw [World.frozen?_setCell]; exact h3 j⟩
theorem Tu.refl (lo hi : Nat) (w : World) : Tu lo hi w w := ⟨rfl, rfl, rfl, Nat.le_refl _, fun _ _ _ => rfl⟩
theorem Tu.set {lo hi : Nat} {w w' : World} (h : Tu lo hi w w') {N : Nat} (h1 : lo ≤ N) (h2 : N < hi) (j : Nat) (v : Value) : Tu lo hi w (w'.setCell ⟨N, j, none⟩ v) := by
  have gz : w'.grownBy (w'.setCell ⟨N, j, none⟩ v) (some N) := grown_setCell (p := ⟨N, j, none⟩) (World.grownBy.refl _ _) (.inl rfl) v
  exact ⟨gz.os.trans h.os, gz.tape.trans h.tape, gz.output.trans h.output, Nat.le_trans h.size gz.size, fun k hk hn => (gz.block k (Nat.lt_of_lt_of_le hk h.size) (by simp; omega)).trans (h.block k hk hn)⟩
theorem Tu.dr {lo hi : Nat} {w w' : World} (h : Tu lo hi w w') : Tu lo hi w w'.drew := ⟨h.os, h.tape, h.output, h.size, h.block⟩

/-- What was drawn, as it stands in memory from R + 2 on; R and R + 1 are the answer's own blocks. -/
structure Fq (w w4 : World) (R c gb n : Nat) (G : Nat → I5) (Bs : Nat) (p code : Int) (ra : Option Addr) (rc : Nat) (oa : Option Addr) (oc : Nat) (rs os : List Int) : Prop where
  ins : InsAt w4 gb 0 n G
  g1 : gb < w4.heap.size ∧ gb ≠ c ∧ R + 2 ≤ gb
  box : BoxC w4 Bs (.int .i64 p) (.slice ra rs.length rc) (.slice oa os.length oc) (.int .i64 code)
  b1 : Bs ≠ c ∧ R + 2 ≤ Bs
  s1 : Sl w4 ra rs
  s2 : Sl w4 oa os
  n1 : ∀ a, ra = some a → a.block ≠ c ∧ R + 2 ≤ a.block
  n2 : ∀ a, oa = some a → a.block ≠ c ∧ R + 2 ≤ a.block
  lr : rs.length ≤ 1048576
  lo : os.length ≤ 1048576
  rbox : BoxC w4 R (.int .i64 0) (.slice none 0 0) (.slice none 0 0) (.int .i64 0)
  rfz : ∀ j, w4.frozen? ⟨R, j, none⟩ = false
  ebox : EvB w4 (R + 1) 0 0 0
  be : Below w.heap.size w w4
  hR : R = w.heap.size ∧ R + 2 ≤ c

theorem Sl.turn {w w' : World} {a0 : Option Addr} {xs : List Int} {c : Nat} (h : Sl w a0 xs) (hg : w.grownBy w' (some c)) (hn : ∀ a, a0 = some a → a.block ≠ c) : Sl w' a0 xs := by
  rcases h with e | ⟨b, off, e, hlt, hcc⟩
  · exact .inl e
  · exact Sl.blk (.inr ⟨b, off, e, hlt, hcc⟩) hg.size (fun a ha => hg.block _ (by rw [e] at ha; cases ha; exact hlt) (by simp; exact hn a ha))
theorem Fq.turn {w w4 wz : World} {R c gb n : Nat} {G : Nat → I5} {Bs : Nat} {p code : Int} {ra : Option Addr} {rc : Nat} {oa : Option Addr} {oc : Nat} {rs os : List Int} (h : Fq w w4 R c gb n G Bs p code ra rc oa oc rs os) (g : w4.grownBy wz (some c)) : Fq w wz R c gb n G Bs p code ra rc oa oc rs os := by
  obtain ⟨x1, x2⟩ := h.hR
  have eB := g.block Bs h.box.lt (by simp; exact h.b1.1)
  have eR := g.block R h.rbox.lt (by simp; omega)
  have eE := g.block (R + 1) h.ebox.lt (by simp; omega)
  refine ⟨h.ins.blk (g.block gb h.g1.1 (by simp; exact h.g1.2.1)), ⟨Nat.lt_of_lt_of_le h.g1.1 g.size, h.g1.2⟩, h.box.blk eB, h.b1, h.s1.turn g (fun a ha => (h.n1 a ha).1), h.s2.turn g (fun a ha => (h.n2 a ha).1), h.n1, h.n2, h.lr, h.lo, h.rbox.blk eR, fun j => (World.frozen?_of_block eR).trans (h.rfz j), h.ebox.block eE, h.be.trans ⟨g.os, g.tape, g.output, g.size, fun k hk => g.block k (Nat.lt_of_lt_of_le hk h.be.size) (by simp; omega)⟩, h.hR⟩
theorem Fq.done {w wz wf : World} {R c gb n : Nat} {G : Nat → I5} {Bs : Nat} {p code : Int} {ra : Option Addr} {rc : Nat} {oa : Option Addr} {oc : Nat} {rs os : List Int} (h : Fq w wz R c gb n G Bs p code ra rc oa oc rs os) (t : Tu R (R + 2) wz wf) : gb < wf.heap.size ∧ InsAt wf gb 0 n G ∧ Sl wf ra rs ∧ Sl wf oa os ∧ rs.length ≤ 1048576 ∧ os.length ≤ 1048576 ∧ Below w.heap.size w wf := by
  obtain ⟨x1, x2⟩ := h.hR
  refine ⟨Nat.lt_of_lt_of_le h.g1.1 t.size, h.ins.blk (t.block gb h.g1.1 (.inr h.g1.2.2)), ?_, ?_, h.lr, h.lo, h.be.trans (t.below h.be.size (by omega))⟩
  · rcases h.s1 with e | ⟨b, off, e, hlt, hcc⟩
    · exact .inl e
    · exact Sl.blk h.s1 t.size (fun a ha => t.block _ (by rw [e] at ha; cases ha; exact hlt) (.inr (h.n1 a ha).2))
  · rcases h.s2 with e | ⟨b, off, e, hlt, hcc⟩
    · exact .inl e
    · exact Sl.blk h.s2 t.size (fun a ha => t.block _ (by rw [e] at ha; cases ha; exact hlt) (.inr (h.n2 a ha).2))

def pickD (j : Nat) : Int := [(0 : Int), 1, 5, 1000000000, 1000000001].getD j 0
theorem pickD_at (w : World) : IntsAt (w.alloc (.cells #[.int .i64 0, .int .i64 1, .int .i64 5, .int .i64 1000000000, .int .i64 1000000001] 3)) w.heap.size 5 pickD := by
  intro j hj
  match j, hj with
  | 0, _ => simp [pickD]
  | 1, _ => simp [pickD]
  | 2, _ => simp [pickD]
  | 3, _ => simp [pickD]
  | 4, _ => simp [pickD]

set_option maxRecDepth 100000 in
set_option maxHeartbeats 8000000 in
theorem DrawDo_any (W0 len cap : Nat) (a0 : Option Addr) (w : World) (hB : BytesAt w W0 a0 len) (hW : W0 ≤ w.heap.size) (ln : len ≤ 1048576) :
    Calls Try.prog 8 #[.slice a0 len cap] w fun e w' => ∃ (gb n gc : Nat) (G : Nat → I5) (p code : Int) (ra : Option Addr) (rc : Nat) (oa : Option Addr) (oc : Nat) (rs os : List Int) (ek eq ev : Int), e = .returned (.tuple #[.slice (some ⟨gb, 0, none⟩) n gc, stV p ra rs.length rc oa os.length oc code, evV ek eq ev]) ∧ n ≤ 31 ∧ gb < w'.heap.size ∧ InsAt w' gb 0 n G ∧ Sl w' ra rs ∧ Sl w' oa os ∧ rs.length ≤ 1048576 ∧ os.length ≤ 1048576 ∧ Below w.heap.size w w' := by
  have HB : Hid (BytesAt w W0 a0 len) := hB
  clear hB
  go_enter Try.func8, Try.ntmps8
  go_wp2_with fail
  have hz : ((w.alloc (.cells #[.int .i64 0, .slice none 0 0, .slice none 0 0, .int .i64 0] 27)).alloc (.cells #[.int .i64 0, .int .i64 0, .int .i64 0] 29)).heap.size = w.heap.size + 2 := by simp
  have b0 : Below w.heap.size w ((w.alloc (.cells #[.int .i64 0, .slice none 0 0, .slice none 0 0, .int .i64 0] 27)).alloc (.cells #[.int .i64 0, .int .i64 0, .int .i64 0] 29)) := by go_grown
  have HB0 : Hid (BytesAt ((w.alloc (.cells #[.int .i64 0, .slice none 0 0, .slice none 0 0, .int .i64 0] 27)).alloc (.cells #[.int .i64 0, .int .i64 0, .int .i64 0] 29)) W0 a0 len) := HB.out.kept fun j hj => b0.block j (by omega)
  have HR0 : Hid (BoxC ((w.alloc (.cells #[.int .i64 0, .slice none 0 0, .slice none 0 0, .int .i64 0] 27)).alloc (.cells #[.int .i64 0, .int .i64 0, .int .i64 0] 29)) w.heap.size (.int .i64 0) (.slice none 0 0) (.slice none 0 0) (.int .i64 0) ∧ (∀ j, ((w.alloc (.cells #[.int .i64 0, .slice none 0 0, .slice none 0 0, .int .i64 0] 27)).alloc (.cells #[.int .i64 0, .int .i64 0, .int .i64 0] 29)).frozen? ⟨w.heap.size, j, none⟩ = false) ∧ EvB ((w.alloc (.cells #[.int .i64 0, .slice none 0 0, .slice none 0 0, .int .i64 0] 27)).alloc (.cells #[.int .i64 0, .int .i64 0, .int .i64 0] 29)) (w.heap.size + 1) 0 0 0) := by
    have q := below_alloc (w.alloc (.cells #[.int .i64 0, .slice none 0 0, .slice none 0 0, .int .i64 0] 27)) (.cells #[.int .i64 0, .int .i64 0, .int .i64 0] 29)
    have e := q.block w.heap.size (by simp)
    refine ⟨(BoxC.new w _ _ _ _ _).blk e, fun j => (World.frozen?_of_block e).trans (new_frozen _ _ _ j rfl), ?_⟩
    have := EvB.new (w.alloc (.cells #[.int .i64 0, .slice none 0 0, .slice none 0 0, .int .i64 0] 27)) 0 0 0 29
    rw [World.size_alloc] at this
    exact this
  have B0 : Hid (Below w.heap.size w ((w.alloc (.cells #[.int .i64 0, .slice none 0 0, .slice none 0 0, .int .i64 0] 27)).alloc (.cells #[.int .i64 0, .int .i64 0, .int .i64 0] 29))) := b0
  clear b0 HB
  generalize (w.alloc (.cells #[.int .i64 0, .slice none 0 0, .slice none 0 0, .int .i64 0] 27)).alloc (.cells #[.int .i64 0, .int .i64 0, .int .i64 0] 29) = wa at *
  refine (l1New_any W0 len cap a0 wa HB0.out (by omega) ln).mono ?_
  rw [hz]
  rintro e w1 ⟨rfl, hc1, hg1⟩
  have e1 := below_of_grown hg1
  have HC1 : Hid (Cur w1 W0 (w.heap.size + 2) a0 len cap) := hc1
  have HR1 : Hid (BoxC w1 w.heap.size (.int .i64 0) (.slice none 0 0) (.slice none 0 0) (.int .i64 0) ∧ (∀ j, w1.frozen? ⟨w.heap.size, j, none⟩ = false) ∧ EvB w1 (w.heap.size + 1) 0 0 0) := ⟨HR0.out.1.below e1, fun j => (World.frozen?_of_block (e1.block w.heap.size (by omega))).trans (HR0.out.2.1 j), HR0.out.2.2.block (e1.block _ (by omega))⟩
  have B1 : Hid (Below w.heap.size w w1) := B0.out.trans (e1.mono B0.out.size)
  have z1 : w.heap.size + 2 < w1.heap.size := hc1.lt
  clear hc1 hg1 e1 HR0 B0 HB0 hz
  go_wp2_with fail
  refine (l2Draw_any W0 (w.heap.size + 2) len cap a0 w1 HC1.out).mono ?_
  rintro e w2 ⟨gb, n, gc, G, p, code, ra, rc, oa, oc, rs, os, rfl, hn, hg0, hgl, hI, s1, s2, hr, ho, c2, g2, u1, u2⟩
  have q2 := below_alloc w2 (.cells #[.int .i64 p, .slice ra rs.length rc, .slice oa os.length oc, .int .i64 code] 27)
  have z2 := g2.size
  have er := g2.block w.heap.size (by omega) (by simp)
  have ee := g2.block (w.heap.size + 1) (by omega) (by simp)
  have F3 : Hid (Fq w (w2.alloc (.cells #[.int .i64 p, .slice ra rs.length rc, .slice oa os.length oc, .int .i64 code] 27)) w.heap.size (w.heap.size + 2) gb n G w2.heap.size p code ra rc oa oc rs os) := by
    refine ⟨hI.below q2 hgl, ⟨Nat.lt_of_lt_of_le hgl q2.size, by omega, by omega⟩, BoxC.new w2 _ _ _ _ _, ⟨by omega, by omega⟩, s1.below q2, s2.below q2, fun a ha => ?_, fun a ha => ?_, hr, ho, (HR1.out.1.blk er).below q2, fun j => ?_, (HR1.out.2.2.block ee).block (q2.block _ (by omega)), ?_, ⟨rfl, Nat.le_refl _⟩⟩
    · have := u1 a ha
      exact ⟨by omega, by omega⟩
    · have := u2 a ha
      exact ⟨by omega, by omega⟩
    · rw [World.frozen?_of_block (q2.block w.heap.size (by omega)), World.frozen?_of_block er]
      exact HR1.out.2.1 j
    · exact (B1.out.trans ⟨g2.os, g2.tape, g2.output, g2.size, fun k hk => g2.block k (by omega) (by simp; omega)⟩).trans (q2.mono (by omega))
  have C3 : Hid (Cur (w2.alloc (.cells #[.int .i64 p, .slice ra rs.length rc, .slice oa os.length oc, .int .i64 code] 27)) W0 (w.heap.size + 2) a0 len cap) := c2.alloc _
  clear hI s1 s2 c2 g2 u1 u2 q2 er ee HR1 B1 HC1
  go_wp2_with fail
  generalize w2.alloc (.cells #[.int .i64 p, .slice ra rs.length rc, .slice oa os.length oc, .int .i64 code] 27) = w3 at *
  generalize w2.heap.size = Bs at *
  have HL : Hid (n ≤ maxLen) := by
    show n ≤ maxLen
    unfold maxLen
    omega
  refine (specNext_any _ _ _ _ G p code ra oa rc oc rs os _ HL.out F3.out.g1.1 F3.out.ins hr ho F3.out.s1 F3.out.s2).mono ?_
  rintro e w4 ⟨rfl, b4⟩
  generalize nxK G n p rs os code = K at *
  generalize nxP G n p rs os code = P at *
  generalize nxW G n p rs os code = V at *
  have F4 : Hid (Fq w w4 w.heap.size (w.heap.size + 2) gb n G Bs p code ra rc oa oc rs os) := F3.out.turn (grown_any (grown_of_below b4) _)
  have C4 : Hid (Cur w4 W0 (w.heap.size + 2) a0 len cap) := C3.out.kept (grown_of_below b4) (by simp) (fun k e => by cases e)
  have G5 : Hid (w4.grownBy (w4.alloc (.cells #[.int .i64 K, .int .i64 P, .int .i64 V] 29)) (some (w.heap.size + 2))) := grown_any (grown_of_below (below_alloc _ _)) _
  have C5 : Hid (Cur (w4.alloc (.cells #[.int .i64 K, .int .i64 P, .int .i64 V] 29)) W0 (w.heap.size + 2) a0 len cap) := C4.out.alloc _
  have E5 : Hid (EvB (w4.alloc (.cells #[.int .i64 K, .int .i64 P, .int .i64 V] 29)) w4.heap.size K P V) := EvB.new w4 K P V _
  have dc : w4.heap.size ≠ w.heap.size + 2 := by have := C4.out.lt; omega
  have hcw : W0 ≤ w.heap.size + 2 := by omega
  clear b4 F3 C3 C4
  obtain ⟨⟨e0, e1, e2⟩, ef⟩ := E5.out
  rcases Bool.eq_false_or_eq_true (K == 3) with tK | tK
  case inr =>
    go_wp2_with fail
    generalize w4.alloc (.cells #[.int .i64 K, .int .i64 P, .int .i64 V] 29) = w6 at *
    have G6 := G5
    have C6 := C5
    have E6 := E5
    clear G5 C5 E5
    refine (l1Below_any W0 (w.heap.size + 2) len cap a0 _ _ C6.out (by omega) (by omega)).mono ?_
    rintro e w7 ⟨x, rfl, ⟨x0, x1⟩, hc7, hg7⟩
    have G7 : Hid (w4.grownBy w7 (some (w.heap.size + 2))) := G6.out.trans hg7
    have C7 : Hid (Cur w7 W0 (w.heap.size + 2) a0 len cap) := hc7
    have E7 : Hid (EvB w7 w4.heap.size K P V) := E6.out.block (hg7.block _ E6.out.lt (by simp [dc]))
    clear hc7 hg7 G6 C6 E6 e0 e1 e2 ef
    obtain ⟨⟨e0, e1, e2⟩, ef⟩ := E7.out
    by_cases h0 : x = 0
    · subst h0
      go_wp2_with fail
      refine (l1Below_any W0 (w.heap.size + 2) len cap a0 _ _ C7.out (by omega) (by omega)).mono ?_
      rintro e w8 ⟨y, rfl, ⟨y0, y1⟩, hc8, hg8⟩
      have G8 : Hid (w4.grownBy w8 (some (w.heap.size + 2))) := G7.out.trans hg8
      have C8 : Hid (Cur w8 W0 (w.heap.size + 2) a0 len cap) := hc8
      have E8 : Hid (EvB w8 w4.heap.size K P V) := E7.out.block (hg8.block _ E7.out.lt (by simp [dc]))
      clear hc8 hg8 G7 C7 E7 e0 e1 e2 ef
      obtain ⟨⟨e0, e1, e2⟩, ef⟩ := E8.out
      have GZ : Hid (w4.grownBy (w8.setCell ⟨w4.heap.size, 0, none⟩ (.int .i64 y)) (some (w.heap.size + 2))) := grown_setCell (p := ⟨w4.heap.size, 0, none⟩) G8.out (.inr (Nat.le_refl _)) _
      have EZ : Hid (EvB (w8.setCell ⟨w4.heap.size, 0, none⟩ (.int .i64 y)) w4.heap.size y P V) := E8.out.set0 y
      go_wp2_with fail
      clear e0 e1 e2 ef G8 C8 E8
      generalize w8.setCell ⟨w4.heap.size, 0, none⟩ (.int .i64 y) = wz at *
      have FZ : Hid (Fq w wz w.heap.size (w.heap.size + 2) gb n G Bs p code ra rc oa oc rs os) := F4.out.turn GZ.out
      obtain ⟨k0, k1, k2, k3⟩ := FZ.out.box
      obtain ⟨a0', a1', a2', a3'⟩ := FZ.out.rbox
      have af := FZ.out.rfz
      obtain ⟨⟨d0, d1, d2⟩, df⟩ := FZ.out.ebox
      obtain ⟨⟨e0, e1, e2⟩, ef⟩ := EZ.out
      have dS : Bs ≠ w.heap.size := by have := FZ.out.b1; omega
      have dS' : w.heap.size ≠ Bs := fun e => dS e.symm
      have dT : Bs ≠ w.heap.size + 1 := by have := FZ.out.b1; omega
      have dT' : w.heap.size + 1 ≠ Bs := fun e => dT e.symm
      have dU : w4.heap.size ≠ w.heap.size := by have := F4.out.rbox.lt; omega
      have dU' : w.heap.size ≠ w4.heap.size := fun e => dU e.symm
      have dV : w4.heap.size ≠ w.heap.size + 1 := by have := F4.out.ebox.lt; omega
      have dV' : w.heap.size + 1 ≠ w4.heap.size := fun e => dV e.symm
      go_region
      go_wp2
      exact bodyPost_ret (v := .tuple #[.slice (some ⟨gb, 0, none⟩) n gc, stV p ra rs.length rc oa os.length oc code, evV y P V]) (by simp [results, Try.results8, go_sem, a0', a1', a2', a3', d0, d1, d2]) rfl ⟨gb, n, gc, G, p, code, ra, rc, oa, oc, rs, os, y, P, V, rfl, hn, FZ.out.done (by
        refine Tu.dr ?_
        repeat (refine Tu.set ?_ (by omega) (by omega) _ _)
        exact Tu.refl _ _ _)⟩
    by_cases h1 : x = 1
    · subst h1
      go_wp2_with fail
      refine (l1PickInt_any W0 (w.heap.size + 2) len cap w7.heap.size 5 5 a0 pickD _ (C7.out.alloc _) (by omega) (by omega) (by simp) (by have := C7.out.lt; omega) (pickD_at w7)).mono ?_
      rintro e w8 ⟨y, rfl, hc8, hg8'⟩
      have hg8 : w7.grownBy w8 (some (w.heap.size + 2)) := (World.grownBy_alloc w7 _ _).trans hg8'
      clear hg8'
      have G8 : Hid (w4.grownBy w8 (some (w.heap.size + 2))) := G7.out.trans hg8
      have C8 : Hid (Cur w8 W0 (w.heap.size + 2) a0 len cap) := hc8
      have E8 : Hid (EvB w8 w4.heap.size K P V) := E7.out.block (hg8.block _ E7.out.lt (by simp [dc]))
      clear hc8 hg8 G7 C7 E7 e0 e1 e2 ef
      obtain ⟨⟨e0, e1, e2⟩, ef⟩ := E8.out
      have GZ : Hid (w4.grownBy (w8.setCell ⟨w4.heap.size, 2, none⟩ (.int .i64 y)) (some (w.heap.size + 2))) := grown_setCell (p := ⟨w4.heap.size, 2, none⟩) G8.out (.inr (Nat.le_refl _)) _
      have EZ : Hid (EvB (w8.setCell ⟨w4.heap.size, 2, none⟩ (.int .i64 y)) w4.heap.size K P y) := E8.out.set2 y
      go_wp2_with fail
      clear e0 e1 e2 ef G8 C8 E8
      generalize w8.setCell ⟨w4.heap.size, 2, none⟩ (.int .i64 y) = wz at *
      have FZ : Hid (Fq w wz w.heap.size (w.heap.size + 2) gb n G Bs p code ra rc oa oc rs os) := F4.out.turn GZ.out
      obtain ⟨k0, k1, k2, k3⟩ := FZ.out.box
      obtain ⟨a0', a1', a2', a3'⟩ := FZ.out.rbox
      have af := FZ.out.rfz
      obtain ⟨⟨d0, d1, d2⟩, df⟩ := FZ.out.ebox
      obtain ⟨⟨e0, e1, e2⟩, ef⟩ := EZ.out
      have dS : Bs ≠ w.heap.size := by have := FZ.out.b1; omega
      have dS' : w.heap.size ≠ Bs := fun e => dS e.symm
      have dT : Bs ≠ w.heap.size + 1 := by have := FZ.out.b1; omega
      have dT' : w.heap.size + 1 ≠ Bs := fun e => dT e.symm
      have dU : w4.heap.size ≠ w.heap.size := by have := F4.out.rbox.lt; omega
      have dU' : w.heap.size ≠ w4.heap.size := fun e => dU e.symm
      have dV : w4.heap.size ≠ w.heap.size + 1 := by have := F4.out.ebox.lt; omega
      have dV' : w.heap.size + 1 ≠ w4.heap.size := fun e => dV e.symm
      go_region
      go_wp2
      exact bodyPost_ret (v := .tuple #[.slice (some ⟨gb, 0, none⟩) n gc, stV p ra rs.length rc oa os.length oc code, evV K P y]) (by simp [results, Try.results8, go_sem, a0', a1', a2', a3', d0, d1, d2]) rfl ⟨gb, n, gc, G, p, code, ra, rc, oa, oc, rs, os, K, P, y, rfl, hn, FZ.out.done (by
        refine Tu.dr ?_
        repeat (refine Tu.set ?_ (by omega) (by omega) _ _)
        exact Tu.refl _ _ _)⟩
    by_cases h2 : x = 2
    · subst h2
      go_wp2_with fail
      refine (l1Below_any W0 (w.heap.size + 2) len cap a0 _ _ C7.out (by omega) (by omega)).mono ?_
      rintro e w8 ⟨y, rfl, ⟨y0, y1⟩, hc8, hg8⟩
      have G8 : Hid (w4.grownBy w8 (some (w.heap.size + 2))) := G7.out.trans hg8
      have C8 : Hid (Cur w8 W0 (w.heap.size + 2) a0 len cap) := hc8
      have E8 : Hid (EvB w8 w4.heap.size K P V) := E7.out.block (hg8.block _ E7.out.lt (by simp [dc]))
      clear hc8 hg8 G7 C7 E7 e0 e1 e2 ef
      obtain ⟨⟨e0, e1, e2⟩, ef⟩ := E8.out
      have GZ : Hid (w4.grownBy (w8.setCell ⟨w4.heap.size, 1, none⟩ (.int .i64 (y - 1))) (some (w.heap.size + 2))) := grown_setCell (p := ⟨w4.heap.size, 1, none⟩) G8.out (.inr (Nat.le_refl _)) _
      have EZ : Hid (EvB (w8.setCell ⟨w4.heap.size, 1, none⟩ (.int .i64 (y - 1))) w4.heap.size K (y - 1) V) := E8.out.set1 (y - 1)
      go_wp2_with fail
      clear e0 e1 e2 ef G8 C8 E8
      generalize w8.setCell ⟨w4.heap.size, 1, none⟩ (.int .i64 (y - 1)) = wz at *
      have FZ : Hid (Fq w wz w.heap.size (w.heap.size + 2) gb n G Bs p code ra rc oa oc rs os) := F4.out.turn GZ.out
      obtain ⟨k0, k1, k2, k3⟩ := FZ.out.box
      obtain ⟨a0', a1', a2', a3'⟩ := FZ.out.rbox
      have af := FZ.out.rfz
      obtain ⟨⟨d0, d1, d2⟩, df⟩ := FZ.out.ebox
      obtain ⟨⟨e0, e1, e2⟩, ef⟩ := EZ.out
      have dS : Bs ≠ w.heap.size := by have := FZ.out.b1; omega
      have dS' : w.heap.size ≠ Bs := fun e => dS e.symm
      have dT : Bs ≠ w.heap.size + 1 := by have := FZ.out.b1; omega
      have dT' : w.heap.size + 1 ≠ Bs := fun e => dT e.symm
      have dU : w4.heap.size ≠ w.heap.size := by have := F4.out.rbox.lt; omega
      have dU' : w.heap.size ≠ w4.heap.size := fun e => dU e.symm
      have dV : w4.heap.size ≠ w.heap.size + 1 := by have := F4.out.ebox.lt; omega
      have dV' : w.heap.size + 1 ≠ w4.heap.size := fun e => dV e.symm
      go_region
      go_wp2
      exact bodyPost_ret (v := .tuple #[.slice (some ⟨gb, 0, none⟩) n gc, stV p ra rs.length rc oa os.length oc code, evV K (y - 1) V]) (by simp [results, Try.results8, go_sem, a0', a1', a2', a3', d0, d1, d2]) rfl ⟨gb, n, gc, G, p, code, ra, rc, oa, oc, rs, os, K, (y - 1), V, rfl, hn, FZ.out.done (by
        refine Tu.dr ?_
        repeat (refine Tu.set ?_ (by omega) (by omega) _ _)
        exact Tu.refl _ _ _)⟩
    have n0 : (x == 0) = false := by simpa using h0
    have n1 : (x == 1) = false := by simpa using h1
    have n2 : (x == 2) = false := by simpa using h2
    go_wp2_with fail
    have GZ := G7
    have EZ := E7
    clear e0 e1 e2 ef G7 C7 E7
    generalize w7 = wz at *
    have FZ : Hid (Fq w wz w.heap.size (w.heap.size + 2) gb n G Bs p code ra rc oa oc rs os) := F4.out.turn GZ.out
    obtain ⟨k0, k1, k2, k3⟩ := FZ.out.box
    obtain ⟨a0', a1', a2', a3'⟩ := FZ.out.rbox
    have af := FZ.out.rfz
    obtain ⟨⟨d0, d1, d2⟩, df⟩ := FZ.out.ebox
    obtain ⟨⟨e0, e1, e2⟩, ef⟩ := EZ.out
    have dS : Bs ≠ w.heap.size := by have := FZ.out.b1; omega
    have dS' : w.heap.size ≠ Bs := fun e => dS e.symm
    have dT : Bs ≠ w.heap.size + 1 := by have := FZ.out.b1; omega
    have dT' : w.heap.size + 1 ≠ Bs := fun e => dT e.symm
    have dU : w4.heap.size ≠ w.heap.size := by have := F4.out.rbox.lt; omega
    have dU' : w.heap.size ≠ w4.heap.size := fun e => dU e.symm
    have dV : w4.heap.size ≠ w.heap.size + 1 := by have := F4.out.ebox.lt; omega
    have dV' : w.heap.size + 1 ≠ w4.heap.size := fun e => dV e.symm
    go_region
    go_wp2
    exact bodyPost_ret (v := .tuple #[.slice (some ⟨gb, 0, none⟩) n gc, stV p ra rs.length rc oa os.length oc code, evV K P V]) (by simp [results, Try.results8, go_sem, a0', a1', a2', a3', d0, d1, d2]) rfl ⟨gb, n, gc, G, p, code, ra, rc, oa, oc, rs, os, K, P, V, rfl, hn, FZ.out.done (by
      refine Tu.dr ?_
      repeat (refine Tu.set ?_ (by omega) (by omega) _ _)
      exact Tu.refl _ _ _)⟩
  case inl =>
    rcases Bool.eq_false_or_eq_true (P == 9) with tP | tP
    case inr =>
      go_wp2_with fail
      generalize w4.alloc (.cells #[.int .i64 K, .int .i64 P, .int .i64 V] 29) = w6 at *
      have G6 := G5
      have C6 := C5
      have E6 := E5
      clear G5 C5 E5
      refine (l1Below_any W0 (w.heap.size + 2) len cap a0 _ _ C6.out (by omega) (by omega)).mono ?_
      rintro e w7 ⟨x, rfl, ⟨x0, x1⟩, hc7, hg7⟩
      have G7 : Hid (w4.grownBy w7 (some (w.heap.size + 2))) := G6.out.trans hg7
      have C7 : Hid (Cur w7 W0 (w.heap.size + 2) a0 len cap) := hc7
      have E7 : Hid (EvB w7 w4.heap.size K P V) := E6.out.block (hg7.block _ E6.out.lt (by simp [dc]))
      clear hc7 hg7 G6 C6 E6 e0 e1 e2 ef
      obtain ⟨⟨e0, e1, e2⟩, ef⟩ := E7.out
      by_cases h0 : x = 0
      · subst h0
        go_wp2_with fail
        refine (l1Below_any W0 (w.heap.size + 2) len cap a0 _ _ C7.out (by omega) (by omega)).mono ?_
        rintro e w8 ⟨y, rfl, ⟨y0, y1⟩, hc8, hg8⟩
        have G8 : Hid (w4.grownBy w8 (some (w.heap.size + 2))) := G7.out.trans hg8
        have C8 : Hid (Cur w8 W0 (w.heap.size + 2) a0 len cap) := hc8
        have E8 : Hid (EvB w8 w4.heap.size K P V) := E7.out.block (hg8.block _ E7.out.lt (by simp [dc]))
        clear hc8 hg8 G7 C7 E7 e0 e1 e2 ef
        obtain ⟨⟨e0, e1, e2⟩, ef⟩ := E8.out
        have GZ : Hid (w4.grownBy (w8.setCell ⟨w4.heap.size, 0, none⟩ (.int .i64 y)) (some (w.heap.size + 2))) := grown_setCell (p := ⟨w4.heap.size, 0, none⟩) G8.out (.inr (Nat.le_refl _)) _
        have EZ : Hid (EvB (w8.setCell ⟨w4.heap.size, 0, none⟩ (.int .i64 y)) w4.heap.size y P V) := E8.out.set0 y
        go_wp2_with fail
        clear e0 e1 e2 ef G8 C8 E8
        generalize w8.setCell ⟨w4.heap.size, 0, none⟩ (.int .i64 y) = wz at *
        have FZ : Hid (Fq w wz w.heap.size (w.heap.size + 2) gb n G Bs p code ra rc oa oc rs os) := F4.out.turn GZ.out
        obtain ⟨k0, k1, k2, k3⟩ := FZ.out.box
        obtain ⟨a0', a1', a2', a3'⟩ := FZ.out.rbox
        have af := FZ.out.rfz
        obtain ⟨⟨d0, d1, d2⟩, df⟩ := FZ.out.ebox
        obtain ⟨⟨e0, e1, e2⟩, ef⟩ := EZ.out
        have dS : Bs ≠ w.heap.size := by have := FZ.out.b1; omega
        have dS' : w.heap.size ≠ Bs := fun e => dS e.symm
        have dT : Bs ≠ w.heap.size + 1 := by have := FZ.out.b1; omega
        have dT' : w.heap.size + 1 ≠ Bs := fun e => dT e.symm
        have dU : w4.heap.size ≠ w.heap.size := by have := F4.out.rbox.lt; omega
        have dU' : w.heap.size ≠ w4.heap.size := fun e => dU e.symm
        have dV : w4.heap.size ≠ w.heap.size + 1 := by have := F4.out.ebox.lt; omega
        have dV' : w.heap.size + 1 ≠ w4.heap.size := fun e => dV e.symm
        go_region
        go_wp2
        exact bodyPost_ret (v := .tuple #[.slice (some ⟨gb, 0, none⟩) n gc, stV p ra rs.length rc oa os.length oc code, evV y P V]) (by simp [results, Try.results8, go_sem, a0', a1', a2', a3', d0, d1, d2]) rfl ⟨gb, n, gc, G, p, code, ra, rc, oa, oc, rs, os, y, P, V, rfl, hn, FZ.out.done (by
          refine Tu.dr ?_
          repeat (refine Tu.set ?_ (by omega) (by omega) _ _)
          exact Tu.refl _ _ _)⟩
      by_cases h1 : x = 1
      · subst h1
        go_wp2_with fail
        refine (l1PickInt_any W0 (w.heap.size + 2) len cap w7.heap.size 5 5 a0 pickD _ (C7.out.alloc _) (by omega) (by omega) (by simp) (by have := C7.out.lt; omega) (pickD_at w7)).mono ?_
        rintro e w8 ⟨y, rfl, hc8, hg8'⟩
        have hg8 : w7.grownBy w8 (some (w.heap.size + 2)) := (World.grownBy_alloc w7 _ _).trans hg8'
        clear hg8'
        have G8 : Hid (w4.grownBy w8 (some (w.heap.size + 2))) := G7.out.trans hg8
        have C8 : Hid (Cur w8 W0 (w.heap.size + 2) a0 len cap) := hc8
        have E8 : Hid (EvB w8 w4.heap.size K P V) := E7.out.block (hg8.block _ E7.out.lt (by simp [dc]))
        clear hc8 hg8 G7 C7 E7 e0 e1 e2 ef
        obtain ⟨⟨e0, e1, e2⟩, ef⟩ := E8.out
        have GZ : Hid (w4.grownBy (w8.setCell ⟨w4.heap.size, 2, none⟩ (.int .i64 y)) (some (w.heap.size + 2))) := grown_setCell (p := ⟨w4.heap.size, 2, none⟩) G8.out (.inr (Nat.le_refl _)) _
        have EZ : Hid (EvB (w8.setCell ⟨w4.heap.size, 2, none⟩ (.int .i64 y)) w4.heap.size K P y) := E8.out.set2 y
        go_wp2_with fail
        clear e0 e1 e2 ef G8 C8 E8
        generalize w8.setCell ⟨w4.heap.size, 2, none⟩ (.int .i64 y) = wz at *
        have FZ : Hid (Fq w wz w.heap.size (w.heap.size + 2) gb n G Bs p code ra rc oa oc rs os) := F4.out.turn GZ.out
        obtain ⟨k0, k1, k2, k3⟩ := FZ.out.box
        obtain ⟨a0', a1', a2', a3'⟩ := FZ.out.rbox
        have af := FZ.out.rfz
        obtain ⟨⟨d0, d1, d2⟩, df⟩ := FZ.out.ebox
        obtain ⟨⟨e0, e1, e2⟩, ef⟩ := EZ.out
        have dS : Bs ≠ w.heap.size := by have := FZ.out.b1; omega
        have dS' : w.heap.size ≠ Bs := fun e => dS e.symm
        have dT : Bs ≠ w.heap.size + 1 := by have := FZ.out.b1; omega
        have dT' : w.heap.size + 1 ≠ Bs := fun e => dT e.symm
        have dU : w4.heap.size ≠ w.heap.size := by have := F4.out.rbox.lt; omega
        have dU' : w.heap.size ≠ w4.heap.size := fun e => dU e.symm
        have dV : w4.heap.size ≠ w.heap.size + 1 := by have := F4.out.ebox.lt; omega
        have dV' : w.heap.size + 1 ≠ w4.heap.size := fun e => dV e.symm
        go_region
        go_wp2
        exact bodyPost_ret (v := .tuple #[.slice (some ⟨gb, 0, none⟩) n gc, stV p ra rs.length rc oa os.length oc code, evV K P y]) (by simp [results, Try.results8, go_sem, a0', a1', a2', a3', d0, d1, d2]) rfl ⟨gb, n, gc, G, p, code, ra, rc, oa, oc, rs, os, K, P, y, rfl, hn, FZ.out.done (by
          refine Tu.dr ?_
          repeat (refine Tu.set ?_ (by omega) (by omega) _ _)
          exact Tu.refl _ _ _)⟩
      by_cases h2 : x = 2
      · subst h2
        go_wp2_with fail
        refine (l1Below_any W0 (w.heap.size + 2) len cap a0 _ _ C7.out (by omega) (by omega)).mono ?_
        rintro e w8 ⟨y, rfl, ⟨y0, y1⟩, hc8, hg8⟩
        have G8 : Hid (w4.grownBy w8 (some (w.heap.size + 2))) := G7.out.trans hg8
        have C8 : Hid (Cur w8 W0 (w.heap.size + 2) a0 len cap) := hc8
        have E8 : Hid (EvB w8 w4.heap.size K P V) := E7.out.block (hg8.block _ E7.out.lt (by simp [dc]))
        clear hc8 hg8 G7 C7 E7 e0 e1 e2 ef
        obtain ⟨⟨e0, e1, e2⟩, ef⟩ := E8.out
        have GZ : Hid (w4.grownBy (w8.setCell ⟨w4.heap.size, 1, none⟩ (.int .i64 (y - 1))) (some (w.heap.size + 2))) := grown_setCell (p := ⟨w4.heap.size, 1, none⟩) G8.out (.inr (Nat.le_refl _)) _
        have EZ : Hid (EvB (w8.setCell ⟨w4.heap.size, 1, none⟩ (.int .i64 (y - 1))) w4.heap.size K (y - 1) V) := E8.out.set1 (y - 1)
        go_wp2_with fail
        clear e0 e1 e2 ef G8 C8 E8
        generalize w8.setCell ⟨w4.heap.size, 1, none⟩ (.int .i64 (y - 1)) = wz at *
        have FZ : Hid (Fq w wz w.heap.size (w.heap.size + 2) gb n G Bs p code ra rc oa oc rs os) := F4.out.turn GZ.out
        obtain ⟨k0, k1, k2, k3⟩ := FZ.out.box
        obtain ⟨a0', a1', a2', a3'⟩ := FZ.out.rbox
        have af := FZ.out.rfz
        obtain ⟨⟨d0, d1, d2⟩, df⟩ := FZ.out.ebox
        obtain ⟨⟨e0, e1, e2⟩, ef⟩ := EZ.out
        have dS : Bs ≠ w.heap.size := by have := FZ.out.b1; omega
        have dS' : w.heap.size ≠ Bs := fun e => dS e.symm
        have dT : Bs ≠ w.heap.size + 1 := by have := FZ.out.b1; omega
        have dT' : w.heap.size + 1 ≠ Bs := fun e => dT e.symm
        have dU : w4.heap.size ≠ w.heap.size := by have := F4.out.rbox.lt; omega
        have dU' : w.heap.size ≠ w4.heap.size := fun e => dU e.symm
        have dV : w4.heap.size ≠ w.heap.size + 1 := by have := F4.out.ebox.lt; omega
        have dV' : w.heap.size + 1 ≠ w4.heap.size := fun e => dV e.symm
        go_region
        go_wp2
        exact bodyPost_ret (v := .tuple #[.slice (some ⟨gb, 0, none⟩) n gc, stV p ra rs.length rc oa os.length oc code, evV K (y - 1) V]) (by simp [results, Try.results8, go_sem, a0', a1', a2', a3', d0, d1, d2]) rfl ⟨gb, n, gc, G, p, code, ra, rc, oa, oc, rs, os, K, (y - 1), V, rfl, hn, FZ.out.done (by
          refine Tu.dr ?_
          repeat (refine Tu.set ?_ (by omega) (by omega) _ _)
          exact Tu.refl _ _ _)⟩
      have n0 : (x == 0) = false := by simpa using h0
      have n1 : (x == 1) = false := by simpa using h1
      have n2 : (x == 2) = false := by simpa using h2
      go_wp2_with fail
      have GZ := G7
      have EZ := E7
      clear e0 e1 e2 ef G7 C7 E7
      generalize w7 = wz at *
      have FZ : Hid (Fq w wz w.heap.size (w.heap.size + 2) gb n G Bs p code ra rc oa oc rs os) := F4.out.turn GZ.out
      obtain ⟨k0, k1, k2, k3⟩ := FZ.out.box
      obtain ⟨a0', a1', a2', a3'⟩ := FZ.out.rbox
      have af := FZ.out.rfz
      obtain ⟨⟨d0, d1, d2⟩, df⟩ := FZ.out.ebox
      obtain ⟨⟨e0, e1, e2⟩, ef⟩ := EZ.out
      have dS : Bs ≠ w.heap.size := by have := FZ.out.b1; omega
      have dS' : w.heap.size ≠ Bs := fun e => dS e.symm
      have dT : Bs ≠ w.heap.size + 1 := by have := FZ.out.b1; omega
      have dT' : w.heap.size + 1 ≠ Bs := fun e => dT e.symm
      have dU : w4.heap.size ≠ w.heap.size := by have := F4.out.rbox.lt; omega
      have dU' : w.heap.size ≠ w4.heap.size := fun e => dU e.symm
      have dV : w4.heap.size ≠ w.heap.size + 1 := by have := F4.out.ebox.lt; omega
      have dV' : w.heap.size + 1 ≠ w4.heap.size := fun e => dV e.symm
      go_region
      go_wp2
      exact bodyPost_ret (v := .tuple #[.slice (some ⟨gb, 0, none⟩) n gc, stV p ra rs.length rc oa os.length oc code, evV K P V]) (by simp [results, Try.results8, go_sem, a0', a1', a2', a3', d0, d1, d2]) rfl ⟨gb, n, gc, G, p, code, ra, rc, oa, oc, rs, os, K, P, V, rfl, hn, FZ.out.done (by
        refine Tu.dr ?_
        repeat (refine Tu.set ?_ (by omega) (by omega) _ _)
        exact Tu.refl _ _ _)⟩
    case inl =>
      go_wp2_with fail
      generalize w4.alloc (.cells #[.int .i64 K, .int .i64 P, .int .i64 V] 29) = w5 at *
      refine (l1Below_any W0 (w.heap.size + 2) len cap a0 _ _ C5.out (by omega) (by omega)).mono ?_
      rintro e w5' ⟨Q, rfl, -, hc5, hg5⟩
      have h5 := E5.out.block (hg5.block _ E5.out.lt (by simp [dc]))
      have G6 : Hid (w4.grownBy (w5'.setCell ⟨w4.heap.size, 1, none⟩ (.int .i64 Q)) (some (w.heap.size + 2))) := grown_setCell (p := ⟨w4.heap.size, 1, none⟩) (G5.out.trans hg5) (.inr (Nat.le_refl _)) _
      have C6 : Hid (Cur (w5'.setCell ⟨w4.heap.size, 1, none⟩ (.int .i64 Q)) W0 (w.heap.size + 2) a0 len cap) := hc5.setOther (p := ⟨w4.heap.size, 1, none⟩) (by simp; exact dc) (by simp; have := F4.out.rbox.lt; omega) _
      have E6 : Hid (EvB (w5'.setCell ⟨w4.heap.size, 1, none⟩ (.int .i64 Q)) w4.heap.size K Q V) := h5.set1 Q
      clear G5 C5 E5 hc5 hg5 e0 e1 e2 ef
      obtain ⟨⟨e0, e1, e2⟩, ef⟩ := h5
      go_wp2_with fail
      generalize w5'.setCell ⟨w4.heap.size, 1, none⟩ (.int .i64 Q) = w6 at *
      refine (l1Below_any W0 (w.heap.size + 2) len cap a0 _ _ C6.out (by omega) (by omega)).mono ?_
      rintro e w7 ⟨x, rfl, ⟨x0, x1⟩, hc7, hg7⟩
      have G7 : Hid (w4.grownBy w7 (some (w.heap.size + 2))) := G6.out.trans hg7
      have C7 : Hid (Cur w7 W0 (w.heap.size + 2) a0 len cap) := hc7
      have E7 : Hid (EvB w7 w4.heap.size K Q V) := E6.out.block (hg7.block _ E6.out.lt (by simp [dc]))
      clear hc7 hg7 G6 C6 E6 e0 e1 e2 ef
      obtain ⟨⟨e0, e1, e2⟩, ef⟩ := E7.out
      by_cases h0 : x = 0
      · subst h0
        go_wp2_with fail
        refine (l1Below_any W0 (w.heap.size + 2) len cap a0 _ _ C7.out (by omega) (by omega)).mono ?_
        rintro e w8 ⟨y, rfl, ⟨y0, y1⟩, hc8, hg8⟩
        have G8 : Hid (w4.grownBy w8 (some (w.heap.size + 2))) := G7.out.trans hg8
        have C8 : Hid (Cur w8 W0 (w.heap.size + 2) a0 len cap) := hc8
        have E8 : Hid (EvB w8 w4.heap.size K Q V) := E7.out.block (hg8.block _ E7.out.lt (by simp [dc]))
        clear hc8 hg8 G7 C7 E7 e0 e1 e2 ef
        obtain ⟨⟨e0, e1, e2⟩, ef⟩ := E8.out
        have GZ : Hid (w4.grownBy (w8.setCell ⟨w4.heap.size, 0, none⟩ (.int .i64 y)) (some (w.heap.size + 2))) := grown_setCell (p := ⟨w4.heap.size, 0, none⟩) G8.out (.inr (Nat.le_refl _)) _
        have EZ : Hid (EvB (w8.setCell ⟨w4.heap.size, 0, none⟩ (.int .i64 y)) w4.heap.size y Q V) := E8.out.set0 y
        go_wp2_with fail
        clear e0 e1 e2 ef G8 C8 E8
        generalize w8.setCell ⟨w4.heap.size, 0, none⟩ (.int .i64 y) = wz at *
        have FZ : Hid (Fq w wz w.heap.size (w.heap.size + 2) gb n G Bs p code ra rc oa oc rs os) := F4.out.turn GZ.out
        obtain ⟨k0, k1, k2, k3⟩ := FZ.out.box
        obtain ⟨a0', a1', a2', a3'⟩ := FZ.out.rbox
        have af := FZ.out.rfz
        obtain ⟨⟨d0, d1, d2⟩, df⟩ := FZ.out.ebox
        obtain ⟨⟨e0, e1, e2⟩, ef⟩ := EZ.out
        have dS : Bs ≠ w.heap.size := by have := FZ.out.b1; omega
        have dS' : w.heap.size ≠ Bs := fun e => dS e.symm
        have dT : Bs ≠ w.heap.size + 1 := by have := FZ.out.b1; omega
        have dT' : w.heap.size + 1 ≠ Bs := fun e => dT e.symm
        have dU : w4.heap.size ≠ w.heap.size := by have := F4.out.rbox.lt; omega
        have dU' : w.heap.size ≠ w4.heap.size := fun e => dU e.symm
        have dV : w4.heap.size ≠ w.heap.size + 1 := by have := F4.out.ebox.lt; omega
        have dV' : w.heap.size + 1 ≠ w4.heap.size := fun e => dV e.symm
        go_region
        go_wp2
        exact bodyPost_ret (v := .tuple #[.slice (some ⟨gb, 0, none⟩) n gc, stV p ra rs.length rc oa os.length oc code, evV y Q V]) (by simp [results, Try.results8, go_sem, a0', a1', a2', a3', d0, d1, d2]) rfl ⟨gb, n, gc, G, p, code, ra, rc, oa, oc, rs, os, y, Q, V, rfl, hn, FZ.out.done (by
          refine Tu.dr ?_
          repeat (refine Tu.set ?_ (by omega) (by omega) _ _)
          exact Tu.refl _ _ _)⟩
      by_cases h1 : x = 1
      · subst h1
        go_wp2_with fail
        refine (l1PickInt_any W0 (w.heap.size + 2) len cap w7.heap.size 5 5 a0 pickD _ (C7.out.alloc _) (by omega) (by omega) (by simp) (by have := C7.out.lt; omega) (pickD_at w7)).mono ?_
        rintro e w8 ⟨y, rfl, hc8, hg8'⟩
        have hg8 : w7.grownBy w8 (some (w.heap.size + 2)) := (World.grownBy_alloc w7 _ _).trans hg8'
        clear hg8'
        have G8 : Hid (w4.grownBy w8 (some (w.heap.size + 2))) := G7.out.trans hg8
        have C8 : Hid (Cur w8 W0 (w.heap.size + 2) a0 len cap) := hc8
        have E8 : Hid (EvB w8 w4.heap.size K Q V) := E7.out.block (hg8.block _ E7.out.lt (by simp [dc]))
        clear hc8 hg8 G7 C7 E7 e0 e1 e2 ef
        obtain ⟨⟨e0, e1, e2⟩, ef⟩ := E8.out
        have GZ : Hid (w4.grownBy (w8.setCell ⟨w4.heap.size, 2, none⟩ (.int .i64 y)) (some (w.heap.size + 2))) := grown_setCell (p := ⟨w4.heap.size, 2, none⟩) G8.out (.inr (Nat.le_refl _)) _
        have EZ : Hid (EvB (w8.setCell ⟨w4.heap.size, 2, none⟩ (.int .i64 y)) w4.heap.size K Q y) := E8.out.set2 y
        go_wp2_with fail
        clear e0 e1 e2 ef G8 C8 E8
        generalize w8.setCell ⟨w4.heap.size, 2, none⟩ (.int .i64 y) = wz at *
        have FZ : Hid (Fq w wz w.heap.size (w.heap.size + 2) gb n G Bs p code ra rc oa oc rs os) := F4.out.turn GZ.out
        obtain ⟨k0, k1, k2, k3⟩ := FZ.out.box
        obtain ⟨a0', a1', a2', a3'⟩ := FZ.out.rbox
        have af := FZ.out.rfz
        obtain ⟨⟨d0, d1, d2⟩, df⟩ := FZ.out.ebox
        obtain ⟨⟨e0, e1, e2⟩, ef⟩ := EZ.out
        have dS : Bs ≠ w.heap.size := by have := FZ.out.b1; omega
        have dS' : w.heap.size ≠ Bs := fun e => dS e.symm
        have dT : Bs ≠ w.heap.size + 1 := by have := FZ.out.b1; omega
        have dT' : w.heap.size + 1 ≠ Bs := fun e => dT e.symm
        have dU : w4.heap.size ≠ w.heap.size := by have := F4.out.rbox.lt; omega
        have dU' : w.heap.size ≠ w4.heap.size := fun e => dU e.symm
        have dV : w4.heap.size ≠ w.heap.size + 1 := by have := F4.out.ebox.lt; omega
        have dV' : w.heap.size + 1 ≠ w4.heap.size := fun e => dV e.symm
        go_region
        go_wp2
        exact bodyPost_ret (v := .tuple #[.slice (some ⟨gb, 0, none⟩) n gc, stV p ra rs.length rc oa os.length oc code, evV K Q y]) (by simp [results, Try.results8, go_sem, a0', a1', a2', a3', d0, d1, d2]) rfl ⟨gb, n, gc, G, p, code, ra, rc, oa, oc, rs, os, K, Q, y, rfl, hn, FZ.out.done (by
          refine Tu.dr ?_
          repeat (refine Tu.set ?_ (by omega) (by omega) _ _)
          exact Tu.refl _ _ _)⟩
      by_cases h2 : x = 2
      · subst h2
        go_wp2_with fail
        refine (l1Below_any W0 (w.heap.size + 2) len cap a0 _ _ C7.out (by omega) (by omega)).mono ?_
        rintro e w8 ⟨y, rfl, ⟨y0, y1⟩, hc8, hg8⟩
        have G8 : Hid (w4.grownBy w8 (some (w.heap.size + 2))) := G7.out.trans hg8
        have C8 : Hid (Cur w8 W0 (w.heap.size + 2) a0 len cap) := hc8
        have E8 : Hid (EvB w8 w4.heap.size K Q V) := E7.out.block (hg8.block _ E7.out.lt (by simp [dc]))
        clear hc8 hg8 G7 C7 E7 e0 e1 e2 ef
        obtain ⟨⟨e0, e1, e2⟩, ef⟩ := E8.out
        have GZ : Hid (w4.grownBy (w8.setCell ⟨w4.heap.size, 1, none⟩ (.int .i64 (y - 1))) (some (w.heap.size + 2))) := grown_setCell (p := ⟨w4.heap.size, 1, none⟩) G8.out (.inr (Nat.le_refl _)) _
        have EZ : Hid (EvB (w8.setCell ⟨w4.heap.size, 1, none⟩ (.int .i64 (y - 1))) w4.heap.size K (y - 1) V) := E8.out.set1 (y - 1)
        go_wp2_with fail
        clear e0 e1 e2 ef G8 C8 E8
        generalize w8.setCell ⟨w4.heap.size, 1, none⟩ (.int .i64 (y - 1)) = wz at *
        have FZ : Hid (Fq w wz w.heap.size (w.heap.size + 2) gb n G Bs p code ra rc oa oc rs os) := F4.out.turn GZ.out
        obtain ⟨k0, k1, k2, k3⟩ := FZ.out.box
        obtain ⟨a0', a1', a2', a3'⟩ := FZ.out.rbox
        have af := FZ.out.rfz
        obtain ⟨⟨d0, d1, d2⟩, df⟩ := FZ.out.ebox
        obtain ⟨⟨e0, e1, e2⟩, ef⟩ := EZ.out
        have dS : Bs ≠ w.heap.size := by have := FZ.out.b1; omega
        have dS' : w.heap.size ≠ Bs := fun e => dS e.symm
        have dT : Bs ≠ w.heap.size + 1 := by have := FZ.out.b1; omega
        have dT' : w.heap.size + 1 ≠ Bs := fun e => dT e.symm
        have dU : w4.heap.size ≠ w.heap.size := by have := F4.out.rbox.lt; omega
        have dU' : w.heap.size ≠ w4.heap.size := fun e => dU e.symm
        have dV : w4.heap.size ≠ w.heap.size + 1 := by have := F4.out.ebox.lt; omega
        have dV' : w.heap.size + 1 ≠ w4.heap.size := fun e => dV e.symm
        go_region
        go_wp2
        exact bodyPost_ret (v := .tuple #[.slice (some ⟨gb, 0, none⟩) n gc, stV p ra rs.length rc oa os.length oc code, evV K (y - 1) V]) (by simp [results, Try.results8, go_sem, a0', a1', a2', a3', d0, d1, d2]) rfl ⟨gb, n, gc, G, p, code, ra, rc, oa, oc, rs, os, K, (y - 1), V, rfl, hn, FZ.out.done (by
          refine Tu.dr ?_
          repeat (refine Tu.set ?_ (by omega) (by omega) _ _)
          exact Tu.refl _ _ _)⟩
      have n0 : (x == 0) = false := by simpa using h0
      have n1 : (x == 1) = false := by simpa using h1
      have n2 : (x == 2) = false := by simpa using h2
      go_wp2_with fail
      have GZ := G7
      have EZ := E7
      clear e0 e1 e2 ef G7 C7 E7
      generalize w7 = wz at *
      have FZ : Hid (Fq w wz w.heap.size (w.heap.size + 2) gb n G Bs p code ra rc oa oc rs os) := F4.out.turn GZ.out
      obtain ⟨k0, k1, k2, k3⟩ := FZ.out.box
      obtain ⟨a0', a1', a2', a3'⟩ := FZ.out.rbox
      have af := FZ.out.rfz
      obtain ⟨⟨d0, d1, d2⟩, df⟩ := FZ.out.ebox
      obtain ⟨⟨e0, e1, e2⟩, ef⟩ := EZ.out
      have dS : Bs ≠ w.heap.size := by have := FZ.out.b1; omega
      have dS' : w.heap.size ≠ Bs := fun e => dS e.symm
      have dT : Bs ≠ w.heap.size + 1 := by have := FZ.out.b1; omega
      have dT' : w.heap.size + 1 ≠ Bs := fun e => dT e.symm
      have dU : w4.heap.size ≠ w.heap.size := by have := F4.out.rbox.lt; omega
      have dU' : w.heap.size ≠ w4.heap.size := fun e => dU e.symm
      have dV : w4.heap.size ≠ w.heap.size + 1 := by have := F4.out.ebox.lt; omega
      have dV' : w.heap.size + 1 ≠ w4.heap.size := fun e => dV e.symm
      go_region
      go_wp2
      exact bodyPost_ret (v := .tuple #[.slice (some ⟨gb, 0, none⟩) n gc, stV p ra rs.length rc oa os.length oc code, evV K Q V]) (by simp [results, Try.results8, go_sem, a0', a1', a2', a3', d0, d1, d2]) rfl ⟨gb, n, gc, G, p, code, ra, rc, oa, oc, rs, os, K, Q, V, rfl, hn, FZ.out.done (by
        refine Tu.dr ?_
        repeat (refine Tu.set ?_ (by omega) (by omega) _ _)
        exact Tu.refl _ _ _)⟩

end Go.Proofs.Ytmbmhpginegggaa
