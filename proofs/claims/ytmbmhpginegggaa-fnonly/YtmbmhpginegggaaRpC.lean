/- The walks of Count, Nth and Values, the program's and the model's. -/
import Derived.Test.YtmbmhpginegggaaRpB
namespace Go.Proofs.Ytmbmhpginegggaa
open Go.RowKit Go.Deep

theorem valL_length (eh : Nat → E3) (kd pr : Int) (n : Nat) : (valL eh kd pr n).length = (plN eh kd pr n).length := by simp [valL]
theorem plI_length (eh : Nat → E3) (kd pr : Int) (n : Nat) : (plI eh kd pr n).length = (plN eh kd pr n).length := by simp [plI]
theorem zi_append {xs ys : List Int} {i : Nat} (h : i < xs.length) : zi (xs ++ ys) i = zi xs i := by
  unfold zi
  rw [List.getD_eq_getElem?_getD, List.getD_eq_getElem?_getD, List.getElem?_append_left h]
theorem zi_end (xs : List Int) (y : Int) : zi (xs ++ [y]) xs.length = y := by
  unfold zi
  rw [List.getD_eq_getElem?_getD, List.getElem?_append_right (Nat.le_refl _)]
  simp
def nthV (eh : Nat → E3) (kd pr : Int) (len : Nat) (n : Int) : Int := if belB n ((plI eh kd pr len).length : Nat) = true then zi (plI eh kd pr len) n.toNat else -1

theorem plI_at (eh : Nat → E3) (kd pr : Int) (k : Nat) (hh : hitB eh kd pr k = true) : ∀ d, zi (plI eh kd pr (k + 1 + d)) (plI eh kd pr k).length = k ∧ (plI eh kd pr k).length < (plI eh kd pr (k + 1 + d)).length
  | 0 => by
    rw [Nat.add_zero, plI_hit hh]
    exact ⟨zi_end _ _, by simp⟩
  | d + 1 => by
    obtain ⟨h1, h2⟩ := plI_at eh kd pr k hh d
    rw [← Nat.add_assoc]
    rcases Bool.eq_false_or_eq_true (hitB eh kd pr (k + 1 + d)) with h | h
    · rw [plI_hit h, zi_append h2]
      exact ⟨h1, by simp; omega⟩
    · rw [plI_not h]
      exact ⟨h1, h2⟩

theorem nthV_hit {eh : Nat → E3} {kd pr : Int} {k len : Nat} {n : Int} (hk : k < len) (hh : hitB eh kd pr k = true) (hn : n = (plI eh kd pr k).length) : nthV eh kd pr len n = k := by
  obtain ⟨d, rfl⟩ : ∃ d, len = k + 1 + d := ⟨len - k - 1, by omega⟩
  obtain ⟨h1, h2⟩ := plI_at eh kd pr k hh d
  subst hn
  unfold nthV
  rw [if_pos (by simp [belB]; omega), Int.toNat_natCast, h1]

/-- What stands at number j among the places is a place. -/
theorem plN_mem (eh : Nat → E3) (kd pr : Int) : ∀ n, ∀ q ∈ plN eh kd pr n, q < n
  | 0, q, h => by simp [plN] at h
  | n + 1, q, h => by
    unfold plN at h
    split at h
    · simp at h
      rcases h with h | h
      · have := plN_mem eh kd pr n q h
        omega
      · omega
    · have := plN_mem eh kd pr n q h
      omega
theorem plI_place (eh : Nat → E3) (kd pr : Int) (len j : Nat) (hj : j < (plI eh kd pr len).length) : ∃ q : Nat, zi (plI eh kd pr len) j = (q : Int) ∧ q < len ∧ (plN eh kd pr len)[j]? = some q := by
  have hj' : j < (plN eh kd pr len).length := by rw [plI_length] at hj; exact hj
  refine ⟨(plN eh kd pr len)[j], ?_, plN_mem eh kd pr len _ (List.getElem_mem hj'), List.getElem?_eq_getElem hj'⟩
  unfold zi plI
  rw [List.getD_eq_getElem?_getD, List.getElem?_map, List.getElem?_eq_getElem hj']
  rfl

set_option maxRecDepth 100000 in
set_option maxHeartbeats 1000000 in
theorem implCount_any (b off len cap : Nat) (eh : Nat → E3) (kd pr : Int) (w : World) (hlen : len ≤ 1048576) (hb : b < w.heap.size) (hc : EvAt w b off len eh) :
    Calls Try.prog 22 #[.slice (some ⟨b, off, none⟩) len cap, .int .i64 kd, .int .i64 pr] w fun e w' => e = .returned (.int .i64 ((plN eh kd pr len).length : Nat)) ∧ Below w.heap.size w w' := by
  have HC : Hid (EvAt w b off len eh) := hc
  clear hc
  go_enter Try.func22, Try.ntmps22
  go_wp2_with fail
  refine (placesOf_any b off len cap eh kd pr w hlen hb HC.out).mono ?_
  rintro e w1 ⟨v, rfl, o1, b1⟩
  obtain ⟨a0, cp, rfl, -⟩ := o1.form
  rw [plI_length]
  go_wp2
  go_ret
  exact ⟨rfl, b1⟩

set_option maxRecDepth 100000 in
set_option maxHeartbeats 1000000 in
theorem implNth_any (b off len cap : Nat) (eh : Nat → E3) (kd pr n : Int) (w : World) (hlen : len ≤ 1048576) (hb : b < w.heap.size) (hc : EvAt w b off len eh) :
    Calls Try.prog 18 #[.slice (some ⟨b, off, none⟩) len cap, .int .i64 kd, .int .i64 pr, .int .i64 n] w fun e w' => e = .returned (.int .i64 (nthV eh kd pr len n)) ∧ Below w.heap.size w w' := by
  have HC : Hid (EvAt w b off len eh) := hc
  clear hc
  generalize hV : nthV eh kd pr len n = V
  have HV : Hid (nthV eh kd pr len n = V) := hV
  clear hV
  have hpl := plI_le eh kd pr len
  go_enter Try.func18, Try.ntmps18
  go_wp2_with fail
  refine (placesOf_any b off len cap eh kd pr w hlen hb HC.out).mono ?_
  rintro e w1 ⟨v, rfl, o1, b1⟩
  obtain ⟨a0, cp, rfl, s1⟩ := o1.form
  have HS : Hid (Sl w1 a0 (plI eh kd pr len)) := s1
  clear o1 s1
  rcases Bool.eq_false_or_eq_true (belB n ((plI eh kd pr len).length : Nat)) with t | t
  · have hn : 0 ≤ n ∧ n < ((plI eh kd pr len).length : Int) := by simpa [belB] using t
    obtain ⟨m, rfl⟩ : ∃ m : Nat, n = m := ⟨n.toNat, by omega⟩
    have hv := HV.out
    unfold nthV at hv
    rw [if_pos t, Int.toNat_natCast] at hv
    have hm : m < (plI eh kd pr len).length := by omega
    have hm' : (m : Int) < ((plI eh kd pr len).length : Int) := by omega
    obtain ⟨b0, o0, rfl, hlt, hcell⟩ := HS.out.at hm
    rw [hv] at hcell
    clear hn hv HS
    go_wp2_with fail
    refine (isBelow_any _ _ _).mono ?_
    rintro e w2 ⟨rfl, rfl⟩
    go_wp2
    go_ret
    exact ⟨rfl, b1⟩
  · have hv := HV.out
    unfold nthV at hv
    rw [if_neg (by rw [t]; decide)] at hv
    subst hv
    go_wp2_with fail
    refine (isBelow_any _ _ _).mono ?_
    rintro e w2 ⟨rfl, rfl⟩
    go_wp2
    go_ret
    exact ⟨rfl, b1⟩

set_option maxRecDepth 100000 in
set_option maxHeartbeats 1000000 in
theorem specNth_any (b off len cap : Nat) (eh : Nat → E3) (kd pr n : Int) (w : World) (hlen : len ≤ 1048576) (hb : b < w.heap.size) (hc : EvAt w b off len eh) (n0 : -9223372036854775808 ≤ n) (n1 : n ≤ 9223372036854775807) :
    Calls Try.prog 21 #[.slice (some ⟨b, off, none⟩) len cap, .int .i64 kd, .int .i64 pr, .int .i64 n] w fun e w' => e = .returned (.int .i64 (nthV eh kd pr len n)) ∧ Below w.heap.size w w' := by
  have hl' : (len : Int) ≤ 1048576 := by omega
  have HC : Hid (EvAt w b off len eh) := hc
  have HN : Hid (-9223372036854775808 ≤ n ∧ n ≤ 9223372036854775807) := ⟨n0, n1⟩
  clear hc n0 n1
  go_enter Try.func21, Try.ntmps21
  go_wp2_with fail
  go_loopw [3, 9] (fun m i wr => ∃ (k : Nat) (z : Int), k ≤ len ∧ i = .int .i64 k ∧ m = .int .i64 z ∧ Hid (z = wrap64 (n - (plI eh kd pr k).length) ∧ belB n ((plI eh kd pr k).length : Nat) = false) ∧ Below w.heap.size w wr) (fun _ i _ => len - (intOf i).toNat)
  case atStart => exact ⟨0, n, Nat.zero_le _, rfl, rfl, ⟨by have := HN.out; unfold wrap64; simp [plI, plN]; omega, by simp [belB, plI, plN]⟩, Below.refl _ _⟩
  case round =>
    obtain ⟨k, z, hk, rfl, rfl, HZ, hbw⟩ := hrel
    by_cases hlt : k < len
    · have hlt' : (k : Int) < (len : Int) := by omega
      obtain ⟨c0, c1, c2⟩ := HC.out.below hbw hb k hlt
      rcases Bool.eq_false_or_eq_true ((eh k).k == kd) with t1 | t1
      · rcases Bool.eq_false_or_eq_true ((eh k).q == pr) with t2 | t2
        · have hh : hitB eh kd pr k = true := by
            unfold hitB
            rw [t1, t2]
            rfl
          have hle := plI_le eh kd pr k
          rcases Bool.eq_false_or_eq_true (z == 0) with t3 | t3
          · have HV : Hid (nthV eh kd pr len n = k) := nthV_hit hlt hh (by
              obtain ⟨h1, -⟩ := HZ.out
              have := HN.out
              have h3 : z = 0 := by simpa using t3
              rw [h3] at h1
              unfold wrap64 at h1
              omega)
            clear hh hle HZ HN
            go_wp2
            go_ret
            exact ⟨ret_int HV.out.symm, hbw⟩
          · have HS : Hid (wrap64 (z - 1) = wrap64 (n - (plI eh kd pr (k + 1)).length) ∧ belB n ((plI eh kd pr (k + 1)).length : Nat) = false) := by
              obtain ⟨h1, h2⟩ := HZ.out
              have h4 := HN.out
              have h3 : z ≠ 0 := by simpa using t3
              rw [plI_hit hh, List.length_append]
              refine ⟨?_, ?_⟩
              · rw [h1]
                unfold wrap64
                simp
                omega
              · simp [belB] at h2 ⊢
                intro h0
                have h5 := h2 h0
                rw [h1] at h3
                unfold wrap64 at h3
                omega
            clear hh hle HZ
            go_wp2
            go_roundw
            case rel => exact ⟨k + 1, wrap64 (z - 1), by omega, by go_num, by simp, HS.out, hbw⟩
            case measure => simp [intOf]; omega
        · have HH : Hid (plI eh kd pr (k + 1) = plI eh kd pr k) := plI_not (by
            unfold hitB
            rw [t1, t2]
            rfl)
          go_wp2
          go_roundw
          case rel => exact ⟨k + 1, z, by omega, by go_num, rfl, by rw [HH.out]; exact HZ.out, hbw⟩
          case measure => simp [intOf]; omega
      · have HH : Hid (plI eh kd pr (k + 1) = plI eh kd pr k) := plI_not (by
          unfold hitB
          rw [t1]
          rfl)
        go_wp2
        go_roundw
        case rel => exact ⟨k + 1, z, by omega, by go_num, rfl, by rw [HH.out]; exact HZ.out, hbw⟩
        case measure => simp [intOf]; omega
    · have hkl : k = len := by omega
      have HV : Hid (nthV eh kd pr len n = -1) := by
        have := HZ.out.2
        rw [hkl] at this
        show nthV eh kd pr len n = -1
        unfold nthV
        rw [if_neg (by rw [this]; decide)]
      clear HZ hkl
      go_wp2
      go_ret
      exact ⟨ret_int HV.out.symm, hbw⟩

theorem append_far {ops : Array Oper} {rest : List Oper} {op : Oper} {act : Act} {Q : Exit → Act → World → Prop} (w : World) (hgd : op.guard = none) (s x : Operand)
    (ho : op.op = .call { callee := .builtin .append, args := #[s, x], argTypes := #[25, 25] })
    (B : Nat) (v : Value) (xs : List Int) (hs : act.eval s = v) (hv : OwnI w B v xs) (y : Int) (hx : act.eval x = .slice (some ⟨w.heap.size, 0, none⟩) 1 1) (hn : xs.length ≤ 1048576) (hB : B ≤ w.heap.size)
    (h : ∀ v' w', OwnI w' B v' (xs ++ [y]) → w.grownBy w' v.ownBlock → (∀ j, v'.ownBlock = some j → v.ownBlock = some j ∨ w.heap.size ≤ j) → wpList Try.prog ops Q rest (act.put op.dst v') w') :
    wpList Try.prog ops Q (op :: rest) act (w.alloc (.cells #[.int .i64 y] 3)) := by
  have hb : Below w.heap.size w (w.alloc (.cells #[.int .i64 y] 3)) := (Below.refl _ _).alloc (Nat.le_refl _) _
  refine wpList_append_ints _ hgd s x ho B 1 v (some ⟨w.heap.size, 0, none⟩) xs [y] hs hx (hv.below hb) (.inr ⟨w.heap.size, 0, rfl, by simp, fun i hi => ?_⟩) (by simp; omega) (by simp; omega) ?_
  · have : i = 0 := by simp at hi; omega
    subst this
    exact new_cell _ _ _ 0 rfl
  · intro v' w' o g a
    refine h v' w' o ⟨g.os, g.tape, g.output, Nat.le_trans hb.size g.size, fun k hk hne => (g.block k (Nat.lt_of_lt_of_le hk hb.size) hne).trans (hb.block k hk)⟩ fun j hj => ?_
    rcases a with a | a
    · exact .inl (a.symm.trans hj)
    · rw [hj] at a
      simp only [Option.some.injEq] at a
      right
      rw [a]
      simp

/-- What is appended to stands apart from what was made between w and w1. -/
def Away (w w1 wr : World) (o : Value) : Prop := (∀ j, o.ownBlock = some j → j = w.heap.size ∨ w1.heap.size ≤ j) ∧ (∀ j, w.heap.size < j → j < w1.heap.size → wr.heap[j]? = w1.heap[j]?) ∧ w1.heap.size ≤ wr.heap.size
theorem Away.step {w w1 wr w4 : World} {o v' : Value} (h : Away w w1 wr o) (g : wr.grownBy w4 o.ownBlock) (a : ∀ j, v'.ownBlock = some j → o.ownBlock = some j ∨ wr.heap.size ≤ j) : Away w w1 w4 v' := by
  obtain ⟨h1, h2, h3⟩ := h
  refine ⟨fun j hj => ?_, fun j p1 p2 => ?_, Nat.le_trans h3 g.size⟩
  · rcases a j hj with a | a
    · exact h1 j a
    · right; omega
  · rw [g.block j (by omega) (fun e => ?_), h2 j p1 p2]
    rcases h1 j e.symm with e | e <;> omega
theorem Away.sl {w w1 wr : World} {o : Value} (h : Away w w1 wr o) {B cp : Nat} {a0 : Option Addr} {xs : List Int} (hB : w.heap.size < B) (hO : OwnI w1 B (.slice a0 xs.length cp) xs) : Sl wr a0 xs := by
  by_cases hx : 0 < xs.length
  · obtain ⟨g, cap, e, hg, hl⟩ := hO.block hx
    simp only [Value.slice.injEq] at e
    obtain ⟨rfl, -, rfl⟩ := e
    refine .inr ⟨g, 0, rfl, Nat.lt_of_lt_of_le hl h.2.2, fun i hi => ?_⟩
    rw [Nat.zero_add, World.cell?_of_block (h.2.1 g (by omega) hl)]
    exact hO.cell hi
  · exact .inl (List.eq_nil_of_length_eq_zero (by omega))

/-- The numbers of the first j of these events. -/
def valT (eh : Nat → E3) (kd pr : Int) (len j : Nat) : List Int := ((plN eh kd pr len).take j).map fun i => (eh i).v
theorem valT_le (eh : Nat → E3) (kd pr : Int) (len j : Nat) : (valT eh kd pr len j).length ≤ j := by simp [valT]; omega
theorem valT_all (eh : Nat → E3) (kd pr : Int) (len : Nat) : valT eh kd pr len (plI eh kd pr len).length = valL eh kd pr len := by
  unfold valT valL
  rw [plI_length, List.take_length]
theorem valT_next {eh : Nat → E3} {kd pr : Int} {len j q : Nat} (h : (plN eh kd pr len)[j]? = some q) : valT eh kd pr len (j + 1) = valT eh kd pr len j ++ [(eh q).v] := by
  unfold valT
  rw [List.take_add_one, h, List.map_append]
  rfl

set_option maxRecDepth 100000 in
set_option maxHeartbeats 1000000 in
theorem implValues_any (b off len cap : Nat) (eh : Nat → E3) (kd pr : Int) (w : World) (hlen : len ≤ 1048576) (hb : b < w.heap.size) (hc : EvAt w b off len eh) :
    Calls Try.prog 17 #[.slice (some ⟨b, off, none⟩) len cap, .int .i64 kd, .int .i64 pr] w fun e w' => ∃ v, e = .returned v ∧ OwnI w' w.heap.size v (valL eh kd pr len) ∧ Below w.heap.size w w' := by
  have hl' : (len : Int) ≤ 1048576 := by omega
  have HC : Hid (EvAt w b off len eh) := hc
  clear hc
  have hpl := plI_le eh kd pr len
  go_enter Try.func17, Try.ntmps17
  go_wp2_with fail
  refine (placesOf_any b off len cap eh kd pr _ hlen (by simp; omega) (HC.out.below (by go_grown) hb)).mono ?_
  rintro e w1 ⟨v, rfl, o1, b1⟩
  have B1 : Hid (Below w.heap.size w w1) := below_up (by go_grown) b1 (by simp)
  obtain ⟨a0, cp, rfl, -⟩ := o1.form
  have HS : Hid (OwnI w1 (w.heap.size + 1) (.slice a0 (plI eh kd pr len).length cp) (plI eh kd pr len)) := by
    rw [World.size_alloc] at o1
    exact o1
  clear o1
  go_wp2_with fail
  have HO : Hid (OwnI w1 w.heap.size (.slice (some ⟨w.heap.size, 0, none⟩) 0 0) []) := (own_empty w).below b1
  clear b1
  go_loopw [7, 16] (fun o i wr => ∃ k : Nat, k ≤ (plI eh kd pr len).length ∧ i = .int .i64 k ∧ Hid (OwnI wr w.heap.size o (valT eh kd pr len k)) ∧ Below w.heap.size w wr ∧ Hid (Away w w1 wr o)) (fun _ i _ => (plI eh kd pr len).length - (intOf i).toNat)
  case atStart => exact ⟨0, Nat.zero_le _, rfl, HO.out, B1.out, ⟨fun j hj => by simp [Value.ownBlock] at hj; exact .inl hj.symm, fun _ _ _ => rfl, Nat.le_refl _⟩⟩
  case round =>
    clear HO B1
    obtain ⟨k, hk, rfl, HO, hbw, HA⟩ := hrel
    have hs := hbw.size
    by_cases hlt : k < (plI eh kd pr len).length
    · have hlt' : (k : Int) < ((plI eh kd pr len).length : Int) := by omega
      obtain ⟨b0, o0, e0, hb0, hcell⟩ := (HA.out.sl (Nat.lt_succ_self _) HS.out).at hlt
      obtain ⟨q, hq, hql, hqe⟩ := plI_place eh kd pr len k hlt
      have hql' : (q : Int) < (len : Int) := by omega
      rw [hq] at hcell
      subst e0
      have hvl := valT_le eh kd pr len k
      have HH : Hid (valT eh kd pr len (k + 1) = valT eh kd pr len k ++ [(eh q).v]) := valT_next hqe
      obtain ⟨c0, c1, c2⟩ := HC.out.below hbw hb q hql
      clear hq hqe
      go_wp2_with (at_builtin; refine append_far wr rfl _ _ rfl w.heap.size u7 (valT eh kd pr len k) rfl HO.out (eh q).v rfl (by omega) hs ?_; intro v' w4 o4 g4 a4; have A4 : Hid (Away w w1 w4 v') := HA.out.step g4 a4; have b4 : Below w.heap.size wr w4 := ⟨g4.os, g4.tape, g4.output, g4.size, fun j hj => g4.block j (Nat.lt_of_lt_of_le hj hs) (fun e => Nat.not_le_of_lt hj (HO.out.lt j e.symm).1)⟩; have H4 : Hid (OwnI w4 w.heap.size v' (valT eh kd pr len (k + 1))) := o4.to HH.out; clear o4 g4 a4)
      go_roundw
      case rel => exact ⟨k + 1, by omega, by go_num, H4.out, hbw.trans b4, A4.out⟩
      case measure => simp [intOf]; omega
    · have hkl : k = (plI eh kd pr len).length := by omega
      have H4 : Hid (OwnI wr w.heap.size u7 (valL eh kd pr len)) := by
        have := HO.out
        rw [hkl, valT_all] at this
        exact this
      clear HO hkl
      go_wp2
      go_ret
      exact ⟨_, rfl, H4.out, hbw⟩

end Go.Proofs.Ytmbmhpginegggaa
