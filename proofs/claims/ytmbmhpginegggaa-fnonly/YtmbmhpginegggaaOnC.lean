/- The walk of l2Draw: some program, and some state. -/
import Derived.Test.YtmbmhpginegggaaOnC0
import Derived.Deep.RegionHeld3
namespace Go.Proofs.Ytmbmhpginegggaa
open Go.RowKit Go.Sort

set_option maxRecDepth 100000 in
set_option maxHeartbeats 8000000 in
theorem l2Draw_any (W0 c len cap : Nat) (a0 : Option Addr) (w : World) (hc : Cur w W0 c a0 len cap) :
    Calls Try.prog 35 #[.pointer (some ⟨c, 0, none⟩)] w fun e w' => ∃ (gb n gc : Nat) (G : Nat → I5) (p code : Int) (ra : Option Addr) (rc : Nat) (oa : Option Addr) (oc : Nat) (rs os : List Int), e = .returned (.tuple #[.slice (some ⟨gb, 0, none⟩) n gc, stV p ra rs.length rc oa os.length oc code]) ∧ n ≤ 31 ∧ w.heap.size ≤ gb ∧ gb < w'.heap.size ∧ InsAt w' gb 0 n G ∧ Sl w' ra rs ∧ Sl w' oa os ∧ rs.length ≤ 1048576 ∧ os.length ≤ 1048576 ∧ Cur w' W0 c a0 len cap ∧ w.grownBy w' (some c) ∧ (∀ a, ra = some a → w.heap.size ≤ a.block) ∧ (∀ a, oa = some a → w.heap.size ≤ a.block) := by
  have HC0 : Hid (Cur w W0 c a0 len cap) := hc
  have hcl0 := hc.lt
  have hcg := hc.ge
  clear hc
  go_enter Try.func35, Try.ntmps35
  go_wp2_with fail
  have bR := below_alloc w (.cells #[.int .i64 0, .slice none 0 0, .slice none 0 0, .int .i64 0] 27)
  have HR0 : Hid (BoxC (w.alloc (.cells #[.int .i64 0, .slice none 0 0, .slice none 0 0, .int .i64 0] 27)) w.heap.size (.int .i64 0) (.slice none 0 0) (.slice none 0 0) (.int .i64 0) ∧ ∀ j, (w.alloc (.cells #[.int .i64 0, .slice none 0 0, .slice none 0 0, .int .i64 0] 27)).frozen? ⟨w.heap.size, j, none⟩ = false) := ⟨BoxC.new w _ _ _ _ _, fun j => new_frozen _ _ _ j rfl⟩
  have HG0 : Hid (w.grownBy (w.alloc (.cells #[.int .i64 0, .slice none 0 0, .slice none 0 0, .int .i64 0] 27)) (some c)) := grown_any (grown_of_below bR) _
  have hz0 : (w.alloc (.cells #[.int .i64 0, .slice none 0 0, .slice none 0 0, .int .i64 0] 27)).heap.size = w.heap.size + 1 := by simp
  refine (l2DrawBoth_any W0 c len cap a0 _ (HC0.out.alloc _)).mono ?_
  rintro e w1 ⟨gb, n, gc, G, v1, p, code, rs, os, B, rfl, hn, hg0, hgB, hI, o1, hr, ho, hc1, hg1⟩
  obtain ⟨r1, r2, r3, r4, rfl⟩ : ∃ r1 r2 r3 r4, rs = [r1, r2, r3, r4] := by
    match rs, hr with
    | [r1, r2, r3, r4], _ => exact ⟨r1, r2, r3, r4, rfl⟩
  obtain ⟨ra1, rc1, oa1, oc1, rfl, s1, s2⟩ := o1.read
  simp only [List.length_cons, List.length_nil, Nat.zero_add, Nat.reduceAdd] at o1
  rw [hz0] at hg0
  obtain ⟨q1, q2, qa⟩ := o1.parts
  have zB : B ≤ w1.heap.size ∧ gb < w1.heap.size := by
    obtain ⟨bx, ox, e1, hlt, -⟩ := s1.at (k := 0) (by simp)
    rw [e1] at q1
    have := q1.lt bx rfl
    exact ⟨by omega, by omega⟩
  obtain ⟨bx, rfl, hrc, hbx, hbx'⟩ := q1.shape (by simp)
  simp only [List.length_cons, List.length_nil, Nat.zero_add, Nat.reduceAdd] at hrc
  have m1 : ∀ a, some (⟨bx, 0, none⟩ : Addr) = some a → B ≤ a.block ∧ a.block < w1.heap.size := fun a ha => by cases ha; exact ⟨hbx, hbx'⟩
  have m2 : ∀ a, oa1 = some a → B ≤ a.block ∧ a.block < w1.heap.size := fun a ha => by rw [ha] at q2; exact q2.lt a.block rfl
  have MA : Hid (∀ a b, some (⟨bx, 0, none⟩ : Addr) = some a → oa1 = some b → a.block ≠ b.block) := fun a b ha hb e => by
    have h5 := qa a.block (by cases ha; rfl)
    rw [hb] at h5
    exact h5 (by rw [e]; rfl)
  have Q1 : Hid (OwnI w1 B (.slice (some ⟨bx, 0, none⟩) 4 rc1) [r1, r2, r3, r4]) := q1
  have hgs := hg1.size
  rw [hz0] at hgs
  have eR : w1.heap[w.heap.size]? = (w.alloc (.cells #[.int .i64 0, .slice none 0 0, .slice none 0 0, .int .i64 0] 27)).heap[w.heap.size]? := hg1.block _ (by omega) (by simp; omega)
  have b1 := below_alloc w1 (.cells #[.int .i64 p, .slice (some ⟨bx, 0, none⟩) 4 rc1, .slice oa1 os.length oc1, .int .i64 code] 27)
  have D1 : Hid (Dq w (w1.alloc (.cells #[.int .i64 p, .slice (some ⟨bx, 0, none⟩) 4 rc1, .slice oa1 os.length oc1, .int .i64 code] 27)) w.heap.size gb n G W0 c len cap a0 w1.heap.size p code (some ⟨bx, 0, none⟩) rc1 oa1 oc1 [r1, r2, r3, r4] os) := by
    refine ⟨hI.below b1 zB.2, Nat.lt_of_lt_of_le zB.2 b1.size, ⟨by omega, by omega, by omega⟩, BoxC.new w1 _ _ _ _ _, fun j => new_frozen _ _ _ j rfl, ((HR0.out.1.blk eR).below b1), fun j => ?_, s1.below b1, s2.below b1, fun a ha => ?_, fun a ha => ?_, by simp, ho, hc1.alloc _, HG0.out.trans (hg1.trans (grown_any (grown_of_below b1) _)), ⟨by omega, by omega, by omega, hcl0, hcg⟩, fun a ha => by have := m1 a ha; omega, fun a ha => by have := m2 a ha; omega⟩
    · rw [World.frozen?_of_block (b1.block w.heap.size (by omega)), World.frozen?_of_block eR]
      exact HR0.out.2 j
    · have := m1 a ha
      exact ⟨by omega, by omega, by omega⟩
    · have := m2 a ha
      exact ⟨by omega, by omega, by omega⟩
  have O1 : Hid (OwnI (w1.alloc (.cells #[.int .i64 p, .slice (some ⟨bx, 0, none⟩) 4 rc1, .slice oa1 os.length oc1, .int .i64 code] 27)) B (.slice (some ⟨bx, 0, none⟩) 4 rc1) [r1, r2, r3, r4]) := Q1.out.below b1
  clear hI o1 q1 q2 qa s1 s2 hc1 hg1 eR b1 bR HR0 HG0 hz0 Q1 hr
  go_wp2_with fail
  generalize w1.alloc (.cells #[.int .i64 p, .slice (some ⟨bx, 0, none⟩) 4 rc1, .slice oa1 os.length oc1, .int .i64 code] 27) = w2 at *
  generalize w1.heap.size = Bs at *
  refine (l1Below_any W0 c len cap a0 _ _ D1.out.cu (by omega) (by omega)).mono ?_
  rintro e w3 ⟨x, rfl, ⟨x0, x1⟩, hc3, hg3⟩
  have D3 : Hid (Dq w w3 w.heap.size gb n G W0 c len cap a0 Bs p code (some ⟨bx, 0, none⟩) rc1 oa1 oc1 [r1, r2, r3, r4] os) := D1.out.turn hc3 hg3
  have O3 : Hid (OwnI w3 B (.slice (some ⟨bx, 0, none⟩) 4 rc1) [r1, r2, r3, r4]) := O1.out.kept hg3 (by cases h5 : (Value.slice (some ⟨bx, 0, none⟩) 4 rc1).ownBlock with
    | none => exact .inl rfl
    | some j => exact .inr (fun e => by
        cases e
        simp only [Value.ownBlock, Option.some.injEq] at h5
        omega))
  clear D1 O1 hc3 hg3
  have tailP : w.heap.size ≤ gb := by omega
  obtain ⟨c0, c1, c2, c3⟩ := D3.out.box
  have cf := D3.out.fz
  by_cases h0 : x = 0
  · subst h0
    go_wp2_with fail
    refine (l1Below_any W0 c len cap a0 _ _ D3.out.cu (by omega) (by omega)).mono ?_
    rintro e w4 ⟨y, rfl, ⟨y0, y1⟩, hc4, hg4⟩
    have d4 := D3.out.turn hc4 hg4
    have DF : Hid (Dq w (w4.setCell ⟨Bs, 0, none⟩ (.int .i64 (y - 1))) w.heap.size gb n G W0 c len cap a0 Bs (y - 1) code (some ⟨bx, 0, none⟩) rc1 oa1 oc1 [r1, r2, r3, r4] os) := d4.tag 0 _ (by
      obtain ⟨c0, c1, c2, c3⟩ := d4.box
      exact ⟨by go_cell, by go_cell, by go_cell, by go_cell⟩) d4.s1 d4.s2 d4.n1 d4.n2 d4.lr d4.lo d4.u1 d4.u2
    clear c0 c1 c2 c3 cf hc4 hg4 D3 O3
    obtain ⟨c0, c1, c2, c3⟩ := d4.box
    have cf := d4.fz
    clear d4
    go_wp2_with fail
    clear c0 c1 c2 c3 cf
    generalize w4.setCell ⟨Bs, 0, none⟩ (.int .i64 (y - 1)) = wz at *
    obtain ⟨k0, k1, k2, k3⟩ := DF.out.box
    (try simp only [List.length_replicate] at k2)
    obtain ⟨b0, b1, b2, b3⟩ := DF.out.rbox
    have bf := DF.out.rfz
    have zR : w.heap.size < wz.heap.size := DF.out.rbox.lt
    have dR : Bs ≠ w.heap.size := DF.out.hR.2.2.1.symm
    have dR' : w.heap.size ≠ Bs := DF.out.hR.2.2.1
    go_region
    go_wp2
    exact bodyPost_ret (v := .tuple #[.slice (some ⟨gb, 0, none⟩) n gc, stV (y - 1) (some ⟨bx, 0, none⟩) 4 rc1 oa1 os.length oc1 code]) (by simp [results, Try.results35, go_sem, b0, b1, b2, b3]) rfl ⟨gb, n, gc, G, (y - 1), code, (some ⟨bx, 0, none⟩), rc1, oa1, oc1, [r1, r2, r3, r4], os, rfl, hn, tailP, (DF.out.done _ _ _ _).dr⟩
  by_cases h1 : x = 1
  · subst h1
    go_wp2_with fail
    have P4 : Hid (∀ w : World, IntsAt (w.alloc (.cells #[.int .i64 1000000000, .int .i64 (-1000000000), .int .i64 1000000001, .int .i64 40000] 3)) w.heap.size 4 pick4) := pick4_at
    obtain ⟨f0, f1, f2, f3⟩ := O3.out.cells4
    have ff := O3.out.frozen
    have zx3 : bx < w3.heap.size := (O3.out.lt bx rfl).2
    have zb3 : Bs < w3.heap.size := D3.out.box.lt
    have nx : bx ≠ c := (D3.out.n1 _ rfl).1
    have nxB : bx ≠ Bs := (D3.out.n1 _ rfl).2.1
    have nxB' : Bs ≠ bx := fun e => nxB e.symm
    have z3 : w3.heap.size ≠ c := by have := D3.out.cu.lt; omega
    have dB3 : w3.heap.size ≠ Bs := by omega
    have dx3 : w3.heap.size ≠ bx := by omega
    go_region_held3 (fun w' => w'.cell? ⟨Bs, 1, none⟩ = some (.slice (some ⟨bx, 0, none⟩) 4 rc1)) (go_keep)
      (first
        | (go_at_call 36; refine (l1Below_any W0 c len cap a0 _ _ (D3.out.below (by go_grown)).cu (by omega) (by omega)).mono ?_; rintro e w5 ⟨j', rfl, ⟨j0, j1⟩, hc5, hg5⟩; have D5 : Hid (Dq w w5 w.heap.size gb n G W0 c len cap a0 Bs p code (some ⟨bx, 0, none⟩) rc1 oa1 oc1 [r1, r2, r3, r4] os) := (D3.out.below (by go_grown)).turn hc5 hg5; have e5 : w5.heap[bx]? = w3.heap[bx]? := (hg5.block bx (by first | exact zx3 | (simp; omega)) (by simp [nx])).trans (Below.block (w := w3) (B := w3.heap.size) (by go_grown) bx zx3); have E5 : Hid (w5.heap[bx]? = w3.heap[bx]?) := e5; obtain ⟨m0, m1', m2', m3'⟩ := D5.out.box; have p5 := hg5.block w3.heap.size; have z5 := hg5.size; (try simp only [World.size_alloc, World.size_drew, Nat.add_one_le_iff] at z5); have zb5 : Bs < w5.heap.size := D5.out.box.lt; have dB5 : w5.heap.size ≠ Bs := (by omega); have dx5 : w5.heap.size ≠ bx := (by omega); have nc5 : w5.heap.size ≠ c := (by have := D5.out.cu.lt; omega); obtain ⟨j, rfl⟩ : ∃ j : Nat, j' = j := ⟨j'.toNat, by omega⟩; clear hc5 hg5 e5 j0)
        | (go_at_call 37; refine (l1PickInt_any W0 c len cap _ 4 4 a0 pick4 _ (D5.out.below (by go_grown)).cu (by omega) (by omega) (by first | (simp; done) | exact z5 | omega) (by first | (with_reducible exact nc5) | (with_reducible exact z3)) (by first | (with_reducible exact P4.out w5) | exact (fun i hi => (World.cell?_of_block (p5 (by simp) (by simp [z3]))).trans (P4.out w3 i hi)))).mono ?_; rintro e w6 ⟨x6, rfl, hc6, hg6⟩; have D6 : Hid (Dq w w6 w.heap.size gb n G W0 c len cap a0 Bs p code (some ⟨bx, 0, none⟩) rc1 oa1 oc1 [r1, r2, r3, r4] os) := (D5.out.below (by go_grown)).turn hc6 hg6; have e6 : w6.heap[bx]? = w3.heap[bx]? := (hg6.block bx (by have := z5; first | omega | (simp; omega)) (by simp [nx])).trans ((Below.block (w := w5) (B := w5.heap.size) (by go_grown) bx (by omega)).trans E5.out); obtain ⟨yj, hyj⟩ := D6.out.s1.at0 (k := j) (by simp; omega); have yf := (fun i => (World.frozen?_of_block e6).trans (ff i)); obtain ⟨n0, n1', n2', n3'⟩ := D6.out.box; clear hc6 hg6 e6))
    all_goals
      have DF : Hid (Dq w (w6.setCell ⟨bx, j, none⟩ (.int .i64 x6)) w.heap.size gb n G W0 c len cap a0 Bs p code (some ⟨bx, 0, none⟩) rc1 oa1 oc1 ([r1, r2, r3, r4].set j x6) os) := D6.out.reg (by simp; omega) x6 (by omega) (by omega) (fun a ha e => MA.out ⟨bx, 0, none⟩ a rfl ha (by simp; exact e.symm))
      go_wp2_with fail
      generalize w6.setCell ⟨bx, j, none⟩ (.int .i64 x6) = wz at *
      obtain ⟨k0, k1, k2, k3⟩ := DF.out.box
      rw [List.length_set, show [r1, r2, r3, r4].length = 4 from rfl] at k1
      obtain ⟨b0, b1, b2, b3⟩ := DF.out.rbox
      have bf := DF.out.rfz
      have zR : w.heap.size < wz.heap.size := DF.out.rbox.lt
      have dR : Bs ≠ w.heap.size := DF.out.hR.2.2.1.symm
      have dR' : w.heap.size ≠ Bs := DF.out.hR.2.2.1
      go_region
      go_wp2
      exact bodyPost_ret (v := .tuple #[.slice (some ⟨gb, 0, none⟩) n gc, stV p (some ⟨bx, 0, none⟩) 4 rc1 oa1 os.length oc1 code]) (by simp [results, Try.results35, go_sem, b0, b1, b2, b3]) rfl ⟨gb, n, gc, G, p, code, some ⟨bx, 0, none⟩, rc1, oa1, oc1, [r1, r2, r3, r4].set j x6, os, by rw [List.length_set]; rfl, hn, tailP, (DF.out.done _ _ _ _).dr⟩
  by_cases h2 : x = 2
  · subst h2
    go_wp2_with fail
    refine (l1Below_any W0 c len cap a0 _ _ D3.out.cu (by omega) (by omega)).mono ?_
    rintro e w4 ⟨y, rfl, ⟨y0, y1⟩, hc4, hg4⟩
    have d4 := D3.out.turn hc4 hg4
    have DF : Hid (Dq w (w4.setCell ⟨Bs, 3, none⟩ (.int .i64 y)) w.heap.size gb n G W0 c len cap a0 Bs p y (some ⟨bx, 0, none⟩) rc1 oa1 oc1 [r1, r2, r3, r4] os) := d4.tag 3 _ (by
      obtain ⟨c0, c1, c2, c3⟩ := d4.box
      exact ⟨by go_cell, by go_cell, by go_cell, by go_cell⟩) d4.s1 d4.s2 d4.n1 d4.n2 d4.lr d4.lo d4.u1 d4.u2
    clear c0 c1 c2 c3 cf hc4 hg4 D3 O3
    obtain ⟨c0, c1, c2, c3⟩ := d4.box
    have cf := d4.fz
    clear d4
    go_wp2_with fail
    clear c0 c1 c2 c3 cf
    generalize w4.setCell ⟨Bs, 3, none⟩ (.int .i64 y) = wz at *
    obtain ⟨k0, k1, k2, k3⟩ := DF.out.box
    (try simp only [List.length_replicate] at k2)
    obtain ⟨b0, b1, b2, b3⟩ := DF.out.rbox
    have bf := DF.out.rfz
    have zR : w.heap.size < wz.heap.size := DF.out.rbox.lt
    have dR : Bs ≠ w.heap.size := DF.out.hR.2.2.1.symm
    have dR' : w.heap.size ≠ Bs := DF.out.hR.2.2.1
    go_region
    go_wp2
    exact bodyPost_ret (v := .tuple #[.slice (some ⟨gb, 0, none⟩) n gc, stV p (some ⟨bx, 0, none⟩) 4 rc1 oa1 os.length oc1 y]) (by simp [results, Try.results35, go_sem, b0, b1, b2, b3]) rfl ⟨gb, n, gc, G, p, y, (some ⟨bx, 0, none⟩), rc1, oa1, oc1, [r1, r2, r3, r4], os, rfl, hn, tailP, (DF.out.done _ _ _ _).dr⟩
  by_cases h3 : x = 3
  · subst h3
    go_wp2_with fail
    refine (l1Below_any W0 c len cap a0 _ _ D3.out.cu (by omega) (by omega)).mono ?_
    rintro e w4 ⟨y, rfl, ⟨y0, y1⟩, hc4, hg4⟩
    have d4 := D3.out.turn hc4 hg4
    have hy : y = 0 ∨ y = 1 := by omega
    clear y0 y1 c0 c1 c2 c3 cf hc4 hg4 D3 O3
    obtain ⟨c0, c1, c2, c3⟩ := d4.box
    have cf := d4.fz
    have zB : Bs < w4.heap.size := d4.box.lt
    have dB : Bs ≠ w4.heap.size := by omega
    have dB' : w4.heap.size ≠ Bs := by omega
    have D4 : Hid (Dq w w4 w.heap.size gb n G W0 c len cap a0 Bs p code (some ⟨bx, 0, none⟩) rc1 oa1 oc1 [r1, r2, r3, r4] os) := d4
    clear d4
    rcases hy with rfl | rfl
    · have hmk : ∀ w : World, (Instr.makeSlice 25 (.int .i64 60) (.int .i64 60)).run Try.prog w = .ok (.slice (some ⟨w.heap.size, 0, none⟩) 60 60) (w.alloc (.cells (madeCells #[.int .i64 0] 60) 3)) := fun w => run_make_int 60 (by omega) w
      have bM := below_alloc w4 (.cells (madeCells #[.int .i64 0] 60) 3)
      have d5 := D4.out.below bM
      have sM := (made_own w4 60 (by omega)).slOf
      have eb := (bcell bM).1
      have ef := (bcell bM).2
      have DF : Hid (Dq w ((w4.alloc (.cells (madeCells #[.int .i64 0] 60) 3)).setCell ⟨Bs, 2, none⟩ (.slice (some ⟨w4.heap.size, 0, none⟩) 60 60)) w.heap.size gb n G W0 c len cap a0 Bs p code (some ⟨bx, 0, none⟩) rc1 (some ⟨w4.heap.size, 0, none⟩) 60 [r1, r2, r3, r4] (List.replicate 60 0)) := d5.tag 2 _ (by
        obtain ⟨c0, c1, c2, c3⟩ := d5.box
        rw [List.length_replicate]
        exact ⟨by go_cell, by go_cell, by go_cell, by go_cell⟩) d5.s1 sM d5.n1 (fun a ha => by
          simp only [Option.some.injEq] at ha
          subst ha
          have q1 := D4.out.cu.lt
          have q2 := D4.out.rbox.lt
          exact ⟨by simp; omega, by simp; omega, by simp; omega⟩) d5.lr (by simp) d5.u1 (fun a ha => by
          simp only [Option.some.injEq] at ha
          subst ha
          have q2 := D4.out.rbox.lt
          have q3 := D4.out.hR.1
          simp
          omega)
      rw [World.setCell_alloc_past _ _ _ _ zB] at DF
      obtain ⟨k0, k1, k2, k3⟩ := d5.box
      have kf := d5.fz
      clear d5 sM bM
      go_wp2_with fail
      clear c0 c1 c2 c3 cf hmk eb ef D4 k0 k1 k2 k3 kf
      generalize (w4.setCell ⟨Bs, 2, none⟩ (.slice (some ⟨w4.heap.size, 0, none⟩) 60 60)).alloc (.cells (madeCells #[.int .i64 0] 60) 3) = wz at *
      obtain ⟨k0, k1, k2, k3⟩ := DF.out.box
      (try simp only [List.length_replicate] at k2)
      obtain ⟨b0, b1, b2, b3⟩ := DF.out.rbox
      have bf := DF.out.rfz
      have zR : w.heap.size < wz.heap.size := DF.out.rbox.lt
      have dR : Bs ≠ w.heap.size := DF.out.hR.2.2.1.symm
      have dR' : w.heap.size ≠ Bs := DF.out.hR.2.2.1
      go_region
      go_wp2
      exact bodyPost_ret (v := .tuple #[.slice (some ⟨gb, 0, none⟩) n gc, stV p (some ⟨bx, 0, none⟩) 4 rc1 (some ⟨w4.heap.size, 0, none⟩) 60 60 code]) (by simp [results, Try.results35, go_sem, b0, b1, b2, b3]) rfl ⟨gb, n, gc, G, p, code, (some ⟨bx, 0, none⟩), rc1, (some ⟨w4.heap.size, 0, none⟩), 60, [r1, r2, r3, r4], (List.replicate 60 0), rfl, hn, tailP, (DF.out.done _ _ _ _).dr⟩
    · have hmk : ∀ w : World, (Instr.makeSlice 25 (.int .i64 61) (.int .i64 61)).run Try.prog w = .ok (.slice (some ⟨w.heap.size, 0, none⟩) 61 61) (w.alloc (.cells (madeCells #[.int .i64 0] 61) 3)) := fun w => run_make_int 61 (by omega) w
      have bM := below_alloc w4 (.cells (madeCells #[.int .i64 0] 61) 3)
      have d5 := D4.out.below bM
      have sM := (made_own w4 61 (by omega)).slOf
      have eb := (bcell bM).1
      have ef := (bcell bM).2
      have DF : Hid (Dq w ((w4.alloc (.cells (madeCells #[.int .i64 0] 61) 3)).setCell ⟨Bs, 2, none⟩ (.slice (some ⟨w4.heap.size, 0, none⟩) 61 61)) w.heap.size gb n G W0 c len cap a0 Bs p code (some ⟨bx, 0, none⟩) rc1 (some ⟨w4.heap.size, 0, none⟩) 61 [r1, r2, r3, r4] (List.replicate 61 0)) := d5.tag 2 _ (by
        obtain ⟨c0, c1, c2, c3⟩ := d5.box
        rw [List.length_replicate]
        exact ⟨by go_cell, by go_cell, by go_cell, by go_cell⟩) d5.s1 sM d5.n1 (fun a ha => by
          simp only [Option.some.injEq] at ha
          subst ha
          have q1 := D4.out.cu.lt
          have q2 := D4.out.rbox.lt
          exact ⟨by simp; omega, by simp; omega, by simp; omega⟩) d5.lr (by simp) d5.u1 (fun a ha => by
          simp only [Option.some.injEq] at ha
          subst ha
          have q2 := D4.out.rbox.lt
          have q3 := D4.out.hR.1
          simp
          omega)
      rw [World.setCell_alloc_past _ _ _ _ zB] at DF
      obtain ⟨k0, k1, k2, k3⟩ := d5.box
      have kf := d5.fz
      clear d5 sM bM
      go_wp2_with fail
      clear c0 c1 c2 c3 cf hmk eb ef D4 k0 k1 k2 k3 kf
      generalize (w4.setCell ⟨Bs, 2, none⟩ (.slice (some ⟨w4.heap.size, 0, none⟩) 61 61)).alloc (.cells (madeCells #[.int .i64 0] 61) 3) = wz at *
      obtain ⟨k0, k1, k2, k3⟩ := DF.out.box
      (try simp only [List.length_replicate] at k2)
      obtain ⟨b0, b1, b2, b3⟩ := DF.out.rbox
      have bf := DF.out.rfz
      have zR : w.heap.size < wz.heap.size := DF.out.rbox.lt
      have dR : Bs ≠ w.heap.size := DF.out.hR.2.2.1.symm
      have dR' : w.heap.size ≠ Bs := DF.out.hR.2.2.1
      go_region
      go_wp2
      exact bodyPost_ret (v := .tuple #[.slice (some ⟨gb, 0, none⟩) n gc, stV p (some ⟨bx, 0, none⟩) 4 rc1 (some ⟨w4.heap.size, 0, none⟩) 61 61 code]) (by simp [results, Try.results35, go_sem, b0, b1, b2, b3]) rfl ⟨gb, n, gc, G, p, code, (some ⟨bx, 0, none⟩), rc1, (some ⟨w4.heap.size, 0, none⟩), 61, [r1, r2, r3, r4], (List.replicate 61 0), rfl, hn, tailP, (DF.out.done _ _ _ _).dr⟩
  by_cases h4 : x = 4
  · subst h4
    have hrc1 : ¬ rc1 = 1 := by omega
    have hrc2 : (4 : Int) ≤ (rc1 : Int) := by omega
    have DF : Hid (Dq w (w3.setCell ⟨Bs, 1, none⟩ (.slice (some ⟨bx, 1, none⟩) 3 (rc1 - 1))) w.heap.size gb n G W0 c len cap a0 Bs p code (some ⟨bx, 1, none⟩) (rc1 - 1) oa1 oc1 [r2, r3, r4] os) := D3.out.tag 1 _ (by exact ⟨by go_cell, by go_cell, by go_cell, by go_cell⟩) (by
      obtain ⟨bq, oq, e, hlt, -⟩ := D3.out.s1.at (k := 0) (by simp)
      cases e
      refine .inr ⟨bx, 1, rfl, hlt, fun i hi => ?_⟩
      obtain ⟨bq, oq, e, -, hci⟩ := D3.out.s1.at (k := i + 1) (by simp at hi ⊢; omega)
      cases e
      rw [show (1 + i) = 0 + (i + 1) by omega, hci]
      rfl) D3.out.s2 (fun a ha => by
        simp only [Option.some.injEq] at ha
        subst ha
        exact D3.out.n1 ⟨bx, 0, none⟩ rfl) D3.out.n2 (by simp) D3.out.lo (fun a ha => by
        simp only [Option.some.injEq] at ha
        subst ha
        exact D3.out.u1 ⟨bx, 0, none⟩ rfl) D3.out.u2
    go_wp2_with fail
    clear c0 c1 c2 c3 cf
    generalize w3.setCell ⟨Bs, 1, none⟩ (.slice (some ⟨bx, 1, none⟩) 3 (rc1 - 1)) = wz at *
    obtain ⟨k0, k1, k2, k3⟩ := DF.out.box
    (try simp only [List.length_replicate] at k2)
    obtain ⟨b0, b1, b2, b3⟩ := DF.out.rbox
    have bf := DF.out.rfz
    have zR : w.heap.size < wz.heap.size := DF.out.rbox.lt
    have dR : Bs ≠ w.heap.size := DF.out.hR.2.2.1.symm
    have dR' : w.heap.size ≠ Bs := DF.out.hR.2.2.1
    go_region
    go_wp2
    exact bodyPost_ret (v := .tuple #[.slice (some ⟨gb, 0, none⟩) n gc, stV p (some ⟨bx, 1, none⟩) 3 (rc1 - 1) oa1 os.length oc1 code]) (by simp [results, Try.results35, go_sem, b0, b1, b2, b3]) rfl ⟨gb, n, gc, G, p, code, (some ⟨bx, 1, none⟩), (rc1 - 1), oa1, oc1, [r2, r3, r4], os, rfl, hn, tailP, (DF.out.done _ _ _ _).dr⟩
  have y0 : (x == 0) = false := by simpa using h0
  have y1 : (x == 1) = false := by simpa using h1
  have y2 : (x == 2) = false := by simpa using h2
  have y3 : (x == 3) = false := by simpa using h3
  have y4 : (x == 4) = false := by simpa using h4
  have DF := D3
  clear D3
  go_wp2_with fail
  clear c0 c1 c2 c3 cf
  generalize w3 = wz at *
  obtain ⟨k0, k1, k2, k3⟩ := DF.out.box
  (try simp only [List.length_replicate] at k2)
  obtain ⟨b0, b1, b2, b3⟩ := DF.out.rbox
  have bf := DF.out.rfz
  have zR : w.heap.size < wz.heap.size := DF.out.rbox.lt
  have dR : Bs ≠ w.heap.size := DF.out.hR.2.2.1.symm
  have dR' : w.heap.size ≠ Bs := DF.out.hR.2.2.1
  go_region
  go_wp2
  exact bodyPost_ret (v := .tuple #[.slice (some ⟨gb, 0, none⟩) n gc, stV p (some ⟨bx, 0, none⟩) 4 rc1 oa1 os.length oc1 code]) (by simp [results, Try.results35, go_sem, b0, b1, b2, b3]) rfl ⟨gb, n, gc, G, p, code, (some ⟨bx, 0, none⟩), rc1, oa1, oc1, [r1, r2, r3, r4], os, rfl, hn, tailP, (DF.out.done _ _ _ _).dr⟩

end Go.Proofs.Ytmbmhpginegggaa
