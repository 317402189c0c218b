/- Where a place stands among its kind; the walk of the law on what is counted. -/
import Derived.Test.YtmbmhpginegggaaRpA
import Derived.Test.YtmbmhpginegggaaDoA
import Derived.Test.YtmbmhpginegggaaDrawE
import Derived.Test.YtmbmhpginegggaaDjL
import Derived.Test.YtmbmhpginegggaaDoH
import Derived.Test.YtmbmhpginegggaaStO
import Derived.Lib.QuietBelow
namespace Go.Proofs.Ytmbmhpginegggaa
open Go.RowKit Go.Deep

theorem append_one {ops : Array Oper} {rest : List Oper} {op : Oper} {act : Act} {Q : Exit → Act → World → Prop} (w : World) (hgd : op.guard = none) (s x : Operand)
    (ho : op.op = .call { callee := .builtin .append, args := #[s, x], argTypes := #[25, 25] })
    (B : Nat) (v : Value) (xs : List Int) (hs : act.eval s = v) (hv : OwnI w B v xs) (y : Int) (hx : act.eval x = .slice (some ⟨w.heap.size, 0, none⟩) 1 1) (hn : xs.length ≤ 1048576) (hB : B ≤ w.heap.size)
    (h : ∀ v' w', OwnI w' B v' (xs ++ [y]) → Below B w w' → wpList Try.prog ops Q rest (act.put op.dst v') w') :
    wpList Try.prog ops Q (op :: rest) act (w.alloc (.cells #[.int .i64 y] 3)) := by
  have hb : Below w.heap.size w (w.alloc (.cells #[.int .i64 y] 3)) := (Below.refl _ _).alloc (Nat.le_refl _) _
  refine wpList_append_ints _ hgd s x ho B 1 v (some ⟨w.heap.size, 0, none⟩) xs [y] hs hx (hv.below hb) (.inr ⟨w.heap.size, 0, rfl, by simp, fun i hi => ?_⟩) (by simp; omega) (by simp; omega) ?_
  · have : i = 0 := by simp at hi; omega
    subst this
    exact new_cell _ _ _ 0 rfl
  · intro v' w' o g _
    refine h v' w' o (Below.grown (hb.mono hB) g (by simp; omega) (fun k hk => (hv.lt k hk).1))

theorem append_oneN {ops : Array Oper} {rest : List Oper} {op : Oper} {act : Act} {Q : Exit → Act → World → Prop} (w : World) {N : Nat} (hN : N = w.heap.size) (hgd : op.guard = none) (s x : Operand)
    (ho : op.op = .call { callee := .builtin .append, args := #[s, x], argTypes := #[25, 25] })
    (B : Nat) (v : Value) (xs : List Int) (hs : act.eval s = v) (hv : OwnI w B v xs) (y : Int) (hx : act.eval x = .slice (some ⟨N, 0, none⟩) 1 1) (hn : xs.length ≤ 1048576) (hB : B ≤ w.heap.size)
    (h : ∀ v' w', OwnI w' B v' (xs ++ [y]) → Below B w w' → wpList Try.prog ops Q rest (act.put op.dst v') w') :
    wpList Try.prog ops Q (op :: rest) act (w.alloc (.cells #[.int .i64 y] 3)) := by
  subst hN
  exact append_one w hgd s x ho B v xs hs hv y hx hn hB h

theorem OwnI.to {w : World} {B : Nat} {v : Value} {xs ys : List Int} (h : OwnI w B v xs) (e : ys = xs) : OwnI w B v ys := e ▸ h

def hitB (eh : Nat → E3) (kd pr : Int) (i : Nat) : Bool := ((eh i).k == kd) && ((eh i).q == pr)
/-- The places of the events of this kind with this peer, among the first n. -/
def plN (eh : Nat → E3) (kd pr : Int) : Nat → List Nat
  | 0 => []
  | n + 1 => if hitB eh kd pr n = true then plN eh kd pr n ++ [n] else plN eh kd pr n
def valL (eh : Nat → E3) (kd pr : Int) (n : Nat) : List Int := (plN eh kd pr n).map fun i => (eh i).v
def plI (eh : Nat → E3) (kd pr : Int) (n : Nat) : List Int := (plN eh kd pr n).map fun i : Nat => (i : Int)
theorem plN_le (eh : Nat → E3) (kd pr : Int) : ∀ n, (plN eh kd pr n).length ≤ n
  | 0 => Nat.le_refl _
  | n + 1 => by
    unfold plN
    have := plN_le eh kd pr n
    split
    · simp; omega
    · omega
theorem valL_le (eh : Nat → E3) (kd pr : Int) (n : Nat) : (valL eh kd pr n).length ≤ n := by
  unfold valL
  rw [List.length_map]
  exact plN_le eh kd pr n
theorem plI_le (eh : Nat → E3) (kd pr : Int) (n : Nat) : (plI eh kd pr n).length ≤ n := by
  unfold plI
  rw [List.length_map]
  exact plN_le eh kd pr n
theorem valL_hit {eh : Nat → E3} {kd pr : Int} {n : Nat} (hh : hitB eh kd pr n = true) : valL eh kd pr (n + 1) = valL eh kd pr n ++ [(eh n).v] := by
  unfold valL
  rw [plN, if_pos hh, List.map_append]
  rfl
theorem valL_not {eh : Nat → E3} {kd pr : Int} {n : Nat} (hh : hitB eh kd pr n = false) : valL eh kd pr (n + 1) = valL eh kd pr n := by
  unfold valL
  rw [plN, if_neg (by rw [hh]; decide)]
theorem plI_hit {eh : Nat → E3} {kd pr : Int} {n : Nat} (hh : hitB eh kd pr n = true) : plI eh kd pr (n + 1) = plI eh kd pr n ++ [(n : Int)] := by
  unfold plI
  rw [plN, if_pos hh, List.map_append]
  rfl
theorem plI_not {eh : Nat → E3} {kd pr : Int} {n : Nat} (hh : hitB eh kd pr n = false) : plI eh kd pr (n + 1) = plI eh kd pr n := by
  unfold plI
  rw [plN, if_neg (by rw [hh]; decide)]

set_option maxRecDepth 100000 in
set_option maxHeartbeats 1000000 in
theorem specValues_any (b off len cap : Nat) (eh : Nat → E3) (kd pr : Int) (w : World) (hlen : len ≤ 1048576) (hb : b < w.heap.size) (hc : EvAt w b off len eh) :
    Calls Try.prog 20 #[.slice (some ⟨b, off, none⟩) len cap, .int .i64 kd, .int .i64 pr] w fun e w' => ∃ v, e = .returned v ∧ OwnI w' w.heap.size v (valL eh kd pr len) ∧ Below w.heap.size w w' := by
  have hl' : (len : Int) ≤ 1048576 := by omega
  have HC : Hid (EvAt w b off len eh) := hc
  clear hc
  go_enter Try.func20, Try.ntmps20
  go_wp2_with fail
  go_loopw [7, 8] (fun o i wr => ∃ k : Nat, k ≤ len ∧ i = .int .i64 k ∧ Hid (OwnI wr w.heap.size o (valL eh kd pr k)) ∧ Below w.heap.size w wr) (fun _ i _ => len - (intOf i).toNat)
  case atStart => exact ⟨0, Nat.zero_le _, rfl, own_empty w, (Below.refl _ _).alloc (Nat.le_refl _) _⟩
  case round =>
    obtain ⟨k, hk, rfl, HO, hbw⟩ := hrel
    have hs := hbw.size
    by_cases hlt : k < len
    · have hlt' : (k : Int) < (len : Int) := by omega
      have hvl := valL_le eh kd pr k
      obtain ⟨c0, c1, c2⟩ := HC.out.below hbw hb k hlt
      rcases Bool.eq_false_or_eq_true ((eh k).k == kd) with t1 | t1
      · rcases Bool.eq_false_or_eq_true ((eh k).q == pr) with t2 | t2
        · have HH : Hid (valL eh kd pr (k + 1) = valL eh kd pr k ++ [(eh k).v]) := valL_hit (by
            unfold hitB
            rw [t1, t2]
            rfl)
          go_wp2_with (at_builtin; refine append_one wr rfl _ _ rfl w.heap.size u7 (valL eh kd pr k) rfl HO.out (eh k).v rfl (by omega) hs ?_; intro v' w4 o4 b4; have H4 : Hid (OwnI w4 w.heap.size v' (valL eh kd pr (k + 1))) := o4.to HH.out; clear o4)
          go_roundw
          case rel => exact ⟨k + 1, by omega, by go_num, H4.out, hbw.trans b4⟩
          case measure => simp [intOf]; omega
        · have HH : Hid (valL eh kd pr (k + 1) = valL eh kd pr k) := valL_not (by
            unfold hitB
            rw [t1, t2]
            rfl)
          go_wp2
          go_roundw
          case rel => exact ⟨k + 1, by omega, by go_num, HO.out.to HH.out, hbw⟩
          case measure => simp [intOf]; omega
      · have HH : Hid (valL eh kd pr (k + 1) = valL eh kd pr k) := valL_not (by
          unfold hitB
          rw [t1]
          rfl)
        go_wp2
        go_roundw
        case rel => exact ⟨k + 1, by omega, by go_num, HO.out.to HH.out, hbw⟩
        case measure => simp [intOf]; omega
    · have hkl : k = len := by omega
      have H4 : Hid (OwnI wr w.heap.size u7 (valL eh kd pr len)) := by
        have := HO.out
        rw [hkl] at this
        exact this
      clear HO hkl
      go_wp2
      go_ret
      exact ⟨_, rfl, H4.out, hbw⟩

set_option maxRecDepth 100000 in
set_option maxHeartbeats 1000000 in
theorem placesOf_any (b off len cap : Nat) (eh : Nat → E3) (kd pr : Int) (w : World) (hlen : len ≤ 1048576) (hb : b < w.heap.size) (hc : EvAt w b off len eh) :
    Calls Try.prog 54 #[.slice (some ⟨b, off, none⟩) len cap, .int .i64 kd, .int .i64 pr] w fun e w' => ∃ v, e = .returned v ∧ OwnI w' w.heap.size v (plI eh kd pr len) ∧ Below w.heap.size w w' := by
  have hl' : (len : Int) ≤ 1048576 := by omega
  have HC : Hid (EvAt w b off len eh) := hc
  clear hc
  go_enter Try.func54, Try.ntmps54
  go_wp2_with fail
  go_loopw [7, 13] (fun o i wr => ∃ k : Nat, k ≤ len ∧ i = .int .i64 k ∧ Hid (OwnI wr w.heap.size o (plI eh kd pr k)) ∧ Below w.heap.size w wr) (fun _ i _ => len - (intOf i).toNat)
  case atStart => exact ⟨0, Nat.zero_le _, rfl, own_empty w, (Below.refl _ _).alloc (Nat.le_refl _) _⟩
  case round =>
    obtain ⟨k, hk, rfl, HO, hbw⟩ := hrel
    have hs := hbw.size
    by_cases hlt : k < len
    · have hlt' : (k : Int) < (len : Int) := by omega
      have hvl := plI_le eh kd pr k
      obtain ⟨c0, c1, c2⟩ := HC.out.below hbw hb k hlt
      rcases Bool.eq_false_or_eq_true ((eh k).k == kd) with t1 | t1
      · rcases Bool.eq_false_or_eq_true ((eh k).q == pr) with t2 | t2
        · have HH : Hid (plI eh kd pr (k + 1) = plI eh kd pr k ++ [(k : Int)]) := plI_hit (by
            unfold hitB
            rw [t1, t2]
            rfl)
          go_wp2_with (at_builtin; refine append_oneN _ (N := wr.heap.size + 1) (by simp) rfl _ _ rfl w.heap.size u7 (plI eh kd pr k) rfl (HO.out.below (by go_grown)) k rfl (by omega) (by simp; omega) ?_; intro v' w4 o4 b4; have H4 : Hid (OwnI w4 w.heap.size v' (plI eh kd pr (k + 1))) := o4.to HH.out; clear o4)
          go_roundw
          case rel => exact ⟨k + 1, by omega, by go_num, H4.out, Below.trans (by go_grown) b4⟩
          case measure => simp [intOf]; omega
        · have HH : Hid (plI eh kd pr (k + 1) = plI eh kd pr k) := plI_not (by
            unfold hitB
            rw [t1, t2]
            rfl)
          go_wp2
          go_roundw
          case rel => exact ⟨k + 1, by omega, by go_num, (HO.out.below (by go_grown)).to HH.out, by go_grown⟩
          case measure => simp [intOf]; omega
      · have HH : Hid (plI eh kd pr (k + 1) = plI eh kd pr k) := plI_not (by
          unfold hitB
          rw [t1]
          rfl)
        go_wp2
        go_roundw
        case rel => exact ⟨k + 1, by omega, by go_num, (HO.out.below (by go_grown)).to HH.out, by go_grown⟩
        case measure => simp [intOf]; omega
    · have hkl : k = len := by omega
      have H4 : Hid (OwnI wr w.heap.size u7 (plI eh kd pr len)) := by
        have := HO.out
        rw [hkl] at this
        exact this
      clear HO hkl
      go_wp2
      go_ret
      exact ⟨_, rfl, H4.out, hbw⟩

end Go.Proofs.Ytmbmhpginegggaa

namespace Go.Proofs.Ytmbmhpginegggaa
open Go.RowKit Go.Deep

theorem valL_length (eh : Nat → E3) (kd pr : Int) (n : Nat) : (valL eh kd pr n).length = (plN eh kd pr n).length := by simp [valL]
theorem plI_length (eh : Nat → E3) (kd pr : Int) (n : Nat) : (plI eh kd pr n).length = (plN eh kd pr n).length := by simp [plI]
theorem zi_append {xs ys : List Int} {i : Nat} (h : i < xs.length) : zi (xs ++ ys) i = zi xs i := by
  unfold zi
  rw [List.getD_eq_getElem?_getD, List.getD_eq_getElem?_getD, List.getElem?_append_left h]
theorem zi_end (xs : List Int) (y : Int) : zi (xs ++ [y]) xs.length = y := by
  unfold zi
  rw [List.getD_eq_getElem?_getD, List.getElem?_append_right (Nat.le_refl _)]
  simp
def nthV (eh : Nat → E3) (kd pr : Int) (len : Nat) (n : Int) : Int := if belB n ((plI eh kd pr len).length : Nat) = true then zi (plI eh kd pr len) n.toNat else -1

theorem plI_at (eh : Nat → E3) (kd pr : Int) (k : Nat) (hh : hitB eh kd pr k = true) : ∀ d, zi (plI eh kd pr (k + 1 + d)) (plI eh kd pr k).length = k ∧ (plI eh kd pr k).length < (plI eh kd pr (k + 1 + d)).length
  | 0 => by
    rw [Nat.add_zero, plI_hit hh]
    exact ⟨zi_end _ _, by simp⟩
  | d + 1 => by
    obtain ⟨h1, h2⟩ := plI_at eh kd pr k hh d
    rw [← Nat.add_assoc]
    rcases Bool.eq_false_or_eq_true (hitB eh kd pr (k + 1 + d)) with h | h
    · rw [plI_hit h, zi_append h2]
      exact ⟨h1, by simp; omega⟩
    · rw [plI_not h]
      exact ⟨h1, h2⟩

theorem nthV_hit {eh : Nat → E3} {kd pr : Int} {k len : Nat} {n : Int} (hk : k < len) (hh : hitB eh kd pr k = true) (hn : n = (plI eh kd pr k).length) : nthV eh kd pr len n = k := by
  obtain ⟨d, rfl⟩ : ∃ d, len = k + 1 + d := ⟨len - k - 1, by omega⟩
  obtain ⟨h1, h2⟩ := plI_at eh kd pr k hh d
  subst hn
  unfold nthV
  rw [if_pos (by simp [belB]; omega), Int.toNat_natCast, h1]

/-- What stands at number j among the places is a place. -/
theorem plN_mem (eh : Nat → E3) (kd pr : Int) : ∀ n, ∀ q ∈ plN eh kd pr n, q < n
  | 0, q, h => by simp [plN] at h
  | n + 1, q, h => by
    unfold plN at h
    split at h
    · simp at h
      rcases h with h | h
      · have := plN_mem eh kd pr n q h
        omega
      · omega
    · have := plN_mem eh kd pr n q h
      omega
theorem plI_place (eh : Nat → E3) (kd pr : Int) (len j : Nat) (hj : j < (plI eh kd pr len).length) : ∃ q : Nat, zi (plI eh kd pr len) j = (q : Int) ∧ q < len ∧ (plN eh kd pr len)[j]? = some q := by
  have hj' : j < (plN eh kd pr len).length := by rw [plI_length] at hj; exact hj
  refine ⟨(plN eh kd pr len)[j], ?_, plN_mem eh kd pr len _ (List.getElem_mem hj'), List.getElem?_eq_getElem hj'⟩
  unfold zi plI
  rw [List.getD_eq_getElem?_getD, List.getElem?_map, List.getElem?_eq_getElem hj']
  rfl

set_option maxRecDepth 100000 in
set_option maxHeartbeats 1000000 in
theorem implCount_any (b off len cap : Nat) (eh : Nat → E3) (kd pr : Int) (w : World) (hlen : len ≤ 1048576) (hb : b < w.heap.size) (hc : EvAt w b off len eh) :
    Calls Try.prog 22 #[.slice (some ⟨b, off, none⟩) len cap, .int .i64 kd, .int .i64 pr] w fun e w' => e = .returned (.int .i64 ((plN eh kd pr len).length : Nat)) ∧ Below w.heap.size w w' := by
  have HC : Hid (EvAt w b off len eh) := hc
  clear hc
  go_enter Try.func22, Try.ntmps22
  go_wp2_with fail
  refine (placesOf_any b off len cap eh kd pr w hlen hb HC.out).mono ?_
  rintro e w1 ⟨v, rfl, o1, b1⟩
  obtain ⟨a0, cp, rfl, -⟩ := o1.form
  rw [plI_length]
  go_wp2
  go_ret
  exact ⟨rfl, b1⟩

set_option maxRecDepth 100000 in
set_option maxHeartbeats 1000000 in
theorem implNth_any (b off len cap : Nat) (eh : Nat → E3) (kd pr n : Int) (w : World) (hlen : len ≤ 1048576) (hb : b < w.heap.size) (hc : EvAt w b off len eh) :
    Calls Try.prog 18 #[.slice (some ⟨b, off, none⟩) len cap, .int .i64 kd, .int .i64 pr, .int .i64 n] w fun e w' => e = .returned (.int .i64 (nthV eh kd pr len n)) ∧ Below w.heap.size w w' := by
  have HC : Hid (EvAt w b off len eh) := hc
  clear hc
  generalize hV : nthV eh kd pr len n = V
  have HV : Hid (nthV eh kd pr len n = V) := hV
  clear hV
  have hpl := plI_le eh kd pr len
  go_enter Try.func18, Try.ntmps18
  go_wp2_with fail
  refine (placesOf_any b off len cap eh kd pr w hlen hb HC.out).mono ?_
  rintro e w1 ⟨v, rfl, o1, b1⟩
  obtain ⟨a0, cp, rfl, s1⟩ := o1.form
  have HS : Hid (Sl w1 a0 (plI eh kd pr len)) := s1
  clear o1 s1
  rcases Bool.eq_false_or_eq_true (belB n ((plI eh kd pr len).length : Nat)) with t | t
  · have hn : 0 ≤ n ∧ n < ((plI eh kd pr len).length : Int) := by simpa [belB] using t
    obtain ⟨m, rfl⟩ : ∃ m : Nat, n = m := ⟨n.toNat, by omega⟩
    have hv := HV.out
    unfold nthV at hv
    rw [if_pos t, Int.toNat_natCast] at hv
    have hm : m < (plI eh kd pr len).length := by omega
    have hm' : (m : Int) < ((plI eh kd pr len).length : Int) := by omega
    obtain ⟨b0, o0, rfl, hlt, hcell⟩ := HS.out.at hm
    rw [hv] at hcell
    clear hn hv HS
    go_wp2_with fail
    refine (isBelow_any _ _ _).mono ?_
    rintro e w2 ⟨rfl, rfl⟩
    go_wp2
    go_ret
    exact ⟨rfl, b1⟩
  · have hv := HV.out
    unfold nthV at hv
    rw [if_neg (by rw [t]; decide)] at hv
    subst hv
    go_wp2_with fail
    refine (isBelow_any _ _ _).mono ?_
    rintro e w2 ⟨rfl, rfl⟩
    go_wp2
    go_ret
    exact ⟨rfl, b1⟩

set_option maxRecDepth 100000 in
set_option maxHeartbeats 1000000 in
theorem specNth_any (b off len cap : Nat) (eh : Nat → E3) (kd pr n : Int) (w : World) (hlen : len ≤ 1048576) (hb : b < w.heap.size) (hc : EvAt w b off len eh) (n0 : -9223372036854775808 ≤ n) (n1 : n ≤ 9223372036854775807) :
    Calls Try.prog 21 #[.slice (some ⟨b, off, none⟩) len cap, .int .i64 kd, .int .i64 pr, .int .i64 n] w fun e w' => e = .returned (.int .i64 (nthV eh kd pr len n)) ∧ Below w.heap.size w w' := by
  have hl' : (len : Int) ≤ 1048576 := by omega
  have HC : Hid (EvAt w b off len eh) := hc
  have HN : Hid (-9223372036854775808 ≤ n ∧ n ≤ 9223372036854775807) := ⟨n0, n1⟩
  clear hc n0 n1
  go_enter Try.func21, Try.ntmps21
  go_wp2_with fail
  go_loopw [3, 9] (fun m i wr => ∃ (k : Nat) (z : Int), k ≤ len ∧ i = .int .i64 k ∧ m = .int .i64 z ∧ Hid (z = wrap64 (n - (plI eh kd pr k).length) ∧ belB n ((plI eh kd pr k).length : Nat) = false) ∧ Below w.heap.size w wr) (fun _ i _ => len - (intOf i).toNat)
  case atStart => exact ⟨0, n, Nat.zero_le _, rfl, rfl, ⟨by have := HN.out; unfold wrap64; simp [plI, plN]; omega, by simp [belB, plI, plN]⟩, Below.refl _ _⟩
  case round =>
    obtain ⟨k, z, hk, rfl, rfl, HZ, hbw⟩ := hrel
    by_cases hlt : k < len
    · have hlt' : (k : Int) < (len : Int) := by omega
      obtain ⟨c0, c1, c2⟩ := HC.out.below hbw hb k hlt
      rcases Bool.eq_false_or_eq_true ((eh k).k == kd) with t1 | t1
      · rcases Bool.eq_false_or_eq_true ((eh k).q == pr) with t2 | t2
        · have hh : hitB eh kd pr k = true := by
            unfold hitB
            rw [t1, t2]
            rfl
          have hle := plI_le eh kd pr k
          rcases Bool.eq_false_or_eq_true (z == 0) with t3 | t3
          · have HV : Hid (nthV eh kd pr len n = k) := nthV_hit hlt hh (by
              obtain ⟨h1, -⟩ := HZ.out
              have := HN.out
              have h3 : z = 0 := by simpa using t3
              rw [h3] at h1
              unfold wrap64 at h1
              omega)
            clear hh hle HZ HN
            go_wp2
            go_ret
            exact ⟨ret_int HV.out.symm, hbw⟩
          · have HS : Hid (wrap64 (z - 1) = wrap64 (n - (plI eh kd pr (k + 1)).length) ∧ belB n ((plI eh kd pr (k + 1)).length : Nat) = false) := by
              obtain ⟨h1, h2⟩ := HZ.out
              have h4 := HN.out
              have h3 : z ≠ 0 := by simpa using t3
              rw [plI_hit hh, List.length_append]
              refine ⟨?_, ?_⟩
              · rw [h1]
                unfold wrap64
                simp
                omega
              · simp [belB] at h2 ⊢
                intro h0
                have h5 := h2 h0
                rw [h1] at h3
                unfold wrap64 at h3
                omega
            clear hh hle HZ
            go_wp2
            go_roundw
            case rel => exact ⟨k + 1, wrap64 (z - 1), by omega, by go_num, by simp, HS.out, hbw⟩
            case measure => simp [intOf]; omega
        · have HH : Hid (plI eh kd pr (k + 1) = plI eh kd pr k) := plI_not (by
            unfold hitB
            rw [t1, t2]
            rfl)
          go_wp2
          go_roundw
          case rel => exact ⟨k + 1, z, by omega, by go_num, rfl, by rw [HH.out]; exact HZ.out, hbw⟩
          case measure => simp [intOf]; omega
      · have HH : Hid (plI eh kd pr (k + 1) = plI eh kd pr k) := plI_not (by
          unfold hitB
          rw [t1]
          rfl)
        go_wp2
        go_roundw
        case rel => exact ⟨k + 1, z, by omega, by go_num, rfl, by rw [HH.out]; exact HZ.out, hbw⟩
        case measure => simp [intOf]; omega
    · have hkl : k = len := by omega
      have HV : Hid (nthV eh kd pr len n = -1) := by
        have := HZ.out.2
        rw [hkl] at this
        show nthV eh kd pr len n = -1
        unfold nthV
        rw [if_neg (by rw [this]; decide)]
      clear HZ hkl
      go_wp2
      go_ret
      exact ⟨ret_int HV.out.symm, hbw⟩

theorem append_far {ops : Array Oper} {rest : List Oper} {op : Oper} {act : Act} {Q : Exit → Act → World → Prop} (w : World) (hgd : op.guard = none) (s x : Operand)
    (ho : op.op = .call { callee := .builtin .append, args := #[s, x], argTypes := #[25, 25] })
    (B : Nat) (v : Value) (xs : List Int) (hs : act.eval s = v) (hv : OwnI w B v xs) (y : Int) (hx : act.eval x = .slice (some ⟨w.heap.size, 0, none⟩) 1 1) (hn : xs.length ≤ 1048576) (hB : B ≤ w.heap.size)
    (h : ∀ v' w', OwnI w' B v' (xs ++ [y]) → w.grownBy w' v.ownBlock → (∀ j, v'.ownBlock = some j → v.ownBlock = some j ∨ w.heap.size ≤ j) → wpList Try.prog ops Q rest (act.put op.dst v') w') :
    wpList Try.prog ops Q (op :: rest) act (w.alloc (.cells #[.int .i64 y] 3)) := by
  have hb : Below w.heap.size w (w.alloc (.cells #[.int .i64 y] 3)) := (Below.refl _ _).alloc (Nat.le_refl _) _
  refine wpList_append_ints _ hgd s x ho B 1 v (some ⟨w.heap.size, 0, none⟩) xs [y] hs hx (hv.below hb) (.inr ⟨w.heap.size, 0, rfl, by simp, fun i hi => ?_⟩) (by simp; omega) (by simp; omega) ?_
  · have : i = 0 := by simp at hi; omega
    subst this
    exact new_cell _ _ _ 0 rfl
  · intro v' w' o g a
    refine h v' w' o ⟨g.os, g.tape, g.output, Nat.le_trans hb.size g.size, fun k hk hne => (g.block k (Nat.lt_of_lt_of_le hk hb.size) hne).trans (hb.block k hk)⟩ fun j hj => ?_
    rcases a with a | a
    · exact .inl (a.symm.trans hj)
    · rw [hj] at a
      simp only [Option.some.injEq] at a
      right
      rw [a]
      simp

/-- What is appended to stands apart from what was made between w and w1. -/
def Away (w w1 wr : World) (o : Value) : Prop := (∀ j, o.ownBlock = some j → j = w.heap.size ∨ w1.heap.size ≤ j) ∧ (∀ j, w.heap.size < j → j < w1.heap.size → wr.heap[j]? = w1.heap[j]?) ∧ w1.heap.size ≤ wr.heap.size
theorem Away.step {w w1 wr w4 : World} {o v' : Value} (h : Away w w1 wr o) (g : wr.grownBy w4 o.ownBlock) (a : ∀ j, v'.ownBlock = some j → o.ownBlock = some j ∨ wr.heap.size ≤ j) : Away w w1 w4 v' := by
  obtain ⟨h1, h2, h3⟩ := h
  refine ⟨fun j hj => ?_, fun j p1 p2 => ?_, Nat.le_trans h3 g.size⟩
  · rcases a j hj with a | a
    · exact h1 j a
    · right; omega
  · rw [g.block j (by omega) (fun e => ?_), h2 j p1 p2]
    rcases h1 j e.symm with e | e <;> omega
theorem Away.sl {w w1 wr : World} {o : Value} (h : Away w w1 wr o) {B cp : Nat} {a0 : Option Addr} {xs : List Int} (hB : w.heap.size < B) (hO : OwnI w1 B (.slice a0 xs.length cp) xs) : Sl wr a0 xs := by
  by_cases hx : 0 < xs.length
  · obtain ⟨g, cap, e, hg, hl⟩ := hO.block hx
    simp only [Value.slice.injEq] at e
    obtain ⟨rfl, -, rfl⟩ := e
    refine .inr ⟨g, 0, rfl, Nat.lt_of_lt_of_le hl h.2.2, fun i hi => ?_⟩
    rw [Nat.zero_add, World.cell?_of_block (h.2.1 g (by omega) hl)]
    exact hO.cell hi
  · exact .inl (List.eq_nil_of_length_eq_zero (by omega))

/-- The numbers of the first j of these events. -/
def valT (eh : Nat → E3) (kd pr : Int) (len j : Nat) : List Int := ((plN eh kd pr len).take j).map fun i => (eh i).v
theorem valT_le (eh : Nat → E3) (kd pr : Int) (len j : Nat) : (valT eh kd pr len j).length ≤ j := by simp [valT]; omega
theorem valT_all (eh : Nat → E3) (kd pr : Int) (len : Nat) : valT eh kd pr len (plI eh kd pr len).length = valL eh kd pr len := by
  unfold valT valL
  rw [plI_length, List.take_length]
theorem valT_next {eh : Nat → E3} {kd pr : Int} {len j q : Nat} (h : (plN eh kd pr len)[j]? = some q) : valT eh kd pr len (j + 1) = valT eh kd pr len j ++ [(eh q).v] := by
  unfold valT
  rw [List.take_add_one, h, List.map_append]
  rfl

set_option maxRecDepth 100000 in
set_option maxHeartbeats 1000000 in
theorem implValues_any (b off len cap : Nat) (eh : Nat → E3) (kd pr : Int) (w : World) (hlen : len ≤ 1048576) (hb : b < w.heap.size) (hc : EvAt w b off len eh) :
    Calls Try.prog 17 #[.slice (some ⟨b, off, none⟩) len cap, .int .i64 kd, .int .i64 pr] w fun e w' => ∃ v, e = .returned v ∧ OwnI w' w.heap.size v (valL eh kd pr len) ∧ Below w.heap.size w w' := by
  have hl' : (len : Int) ≤ 1048576 := by omega
  have HC : Hid (EvAt w b off len eh) := hc
  clear hc
  have hpl := plI_le eh kd pr len
  go_enter Try.func17, Try.ntmps17
  go_wp2_with fail
  refine (placesOf_any b off len cap eh kd pr _ hlen (by simp; omega) (HC.out.below (by go_grown) hb)).mono ?_
  rintro e w1 ⟨v, rfl, o1, b1⟩
  have B1 : Hid (Below w.heap.size w w1) := below_up (by go_grown) b1 (by simp)
  obtain ⟨a0, cp, rfl, -⟩ := o1.form
  have HS : Hid (OwnI w1 (w.heap.size + 1) (.slice a0 (plI eh kd pr len).length cp) (plI eh kd pr len)) := by
    rw [World.size_alloc] at o1
    exact o1
  clear o1
  go_wp2_with fail
  have HO : Hid (OwnI w1 w.heap.size (.slice (some ⟨w.heap.size, 0, none⟩) 0 0) []) := (own_empty w).below b1
  clear b1
  go_loopw [7, 16] (fun o i wr => ∃ k : Nat, k ≤ (plI eh kd pr len).length ∧ i = .int .i64 k ∧ Hid (OwnI wr w.heap.size o (valT eh kd pr len k)) ∧ Below w.heap.size w wr ∧ Hid (Away w w1 wr o)) (fun _ i _ => (plI eh kd pr len).length - (intOf i).toNat)
  case atStart => exact ⟨0, Nat.zero_le _, rfl, HO.out, B1.out, ⟨fun j hj => by simp [Value.ownBlock] at hj; exact .inl hj.symm, fun _ _ _ => rfl, Nat.le_refl _⟩⟩
  case round =>
    clear HO B1
    obtain ⟨k, hk, rfl, HO, hbw, HA⟩ := hrel
    have hs := hbw.size
    by_cases hlt : k < (plI eh kd pr len).length
    · have hlt' : (k : Int) < ((plI eh kd pr len).length : Int) := by omega
      obtain ⟨b0, o0, e0, hb0, hcell⟩ := (HA.out.sl (Nat.lt_succ_self _) HS.out).at hlt
      obtain ⟨q, hq, hql, hqe⟩ := plI_place eh kd pr len k hlt
      have hql' : (q : Int) < (len : Int) := by omega
      rw [hq] at hcell
      subst e0
      have hvl := valT_le eh kd pr len k
      have HH : Hid (valT eh kd pr len (k + 1) = valT eh kd pr len k ++ [(eh q).v]) := valT_next hqe
      obtain ⟨c0, c1, c2⟩ := HC.out.below hbw hb q hql
      clear hq hqe
      go_wp2_with (at_builtin; refine append_far wr rfl _ _ rfl w.heap.size u7 (valT eh kd pr len k) rfl HO.out (eh q).v rfl (by omega) hs ?_; intro v' w4 o4 g4 a4; have A4 : Hid (Away w w1 w4 v') := HA.out.step g4 a4; have b4 : Below w.heap.size wr w4 := ⟨g4.os, g4.tape, g4.output, g4.size, fun j hj => g4.block j (Nat.lt_of_lt_of_le hj hs) (fun e => Nat.not_le_of_lt hj (HO.out.lt j e.symm).1)⟩; have H4 : Hid (OwnI w4 w.heap.size v' (valT eh kd pr len (k + 1))) := o4.to HH.out; clear o4 g4 a4)
      go_roundw
      case rel => exact ⟨k + 1, by omega, by go_num, H4.out, hbw.trans b4, A4.out⟩
      case measure => simp [intOf]; omega
    · have hkl : k = (plI eh kd pr len).length := by omega
      have H4 : Hid (OwnI wr w.heap.size u7 (valL eh kd pr len)) := by
        have := HO.out
        rw [hkl, valT_all] at this
        exact this
      clear HO hkl
      go_wp2
      go_ret
      exact ⟨_, rfl, H4.out, hbw⟩

end Go.Proofs.Ytmbmhpginegggaa

namespace Go.Proofs.Ytmbmhpginegggaa
open Go.RowKit

/-- The slice v is n events in a block of its own, from block B on. -/
def LstE (w : World) (B : Nat) (v : Value) (n : Nat) : Prop := ∃ xs, w.ownsRow B 29 3 v n xs ∧ xs.all isI = true ∧ v ≠ .slice none 0 0

theorem LstE.ofBlock {w w' : World} {B n : Nat} {v : Value} (h : LstE w B v n) (ha : ∀ k, v.ownBlock = some k → w'.heap[k]? = w.heap[k]?) : LstE w' B v n := by
  obtain ⟨xs, ho, hx⟩ := h
  refine ⟨xs, ?_, hx⟩
  rcases ho.2 with ⟨rfl, h0⟩ | ⟨g, cap, cur, rfl, hb, hg, hr⟩
  · exact ⟨ho.1, .inl ⟨rfl, h0⟩⟩
  · refine ⟨ho.1, .inr ⟨g, cap, cur, rfl, hb, ?_, hr⟩⟩
    rw [ha g rfl]
    exact hg
theorem LstE.mono {w : World} {B B' n : Nat} {v : Value} (h : LstE w B v n) (hb : B' ≤ B) : LstE w B' v n := by
  obtain ⟨xs, ho, hx⟩ := h
  exact ⟨xs, ho.mono hb, hx⟩
theorem LstE.lt {w : World} {B n : Nat} {v : Value} (h : LstE w B v n) : ∀ j, v.ownBlock = some j → B ≤ j ∧ j < w.heap.size := by
  obtain ⟨xs, ho, hx⟩ := h
  exact fun j hj => ho.lt j hj
theorem LstE.kept {w w' : World} {B n : Nat} {v : Value} {row : Option Nat} (h : LstE w B v n) (hg : w.grownBy w' row) (hr : ∀ k, row = some k → v.ownBlock ≠ some k) : LstE w' B v n :=
  h.ofBlock fun k hk => hg.block k (h.lt k hk).2 (fun e => hr k e.symm hk)
theorem LstE.below {w w' : World} {B n : Nat} {v : Value} (h : LstE w B v n) (hb : Below w.heap.size w w') : LstE w' B v n := h.ofBlock fun k hk => hb.block k (h.lt k hk).2
theorem LstE.empty (w : World) : LstE (w.alloc (.cells #[] 29)) w.heap.size (.slice (some ⟨w.heap.size, 0, none⟩) 0 0) 0 :=
  ⟨[], World.ownsRow_lit w #[] 0 (Nat.le_refl _) (by unfold maxLen; omega) rfl, rfl, by simp⟩
theorem LstE.form {w : World} {B n : Nat} {v : Value} (h : LstE w B v n) : ∃ g cap, v = .slice (some ⟨g, 0, none⟩) n cap ∧ B ≤ g ∧ g < w.heap.size := by
  obtain ⟨xs, ho, hx, hv⟩ := h
  rcases ho.2 with ⟨h0, _⟩ | ⟨g, cap, cur, rfl, hb, _⟩
  · exact absurd h0 hv
  · exact ⟨g, cap, rfl, hb, (ho.lt g rfl).2⟩
theorem LstE.at {w : World} {B n g cap : Nat} (h : LstE w B (.slice (some ⟨g, 0, none⟩) n cap) n) : ∃ G, EvAt w g 0 n G := by
  obtain ⟨xs, ho, hx, -⟩ := h
  have hall := List.all_eq_true.1 hx
  have key : ∀ j, j < n * 3 → ∃ x : Int, w.cell? ⟨g, j, none⟩ = some (.int .i64 x) := by
    intro j hj
    have hl : j < xs.length := by rw [ho.1]; exact hj
    obtain ⟨x, hxx⟩ := isI_int (hall xs[j] (List.getElem_mem hl))
    exact ⟨x, by rw [ho.cellAt j hj, List.getElem?_eq_getElem hl, hxx]⟩
  have inh : Inhabited Int := ⟨0⟩
  obtain ⟨f, hf⟩ := Go.Deep.choose_lt (α := Int) key
  refine ⟨fun i => ⟨f (i * 3), f (i * 3 + 1), f (i * 3 + 2)⟩, fun i hi => ?_⟩
  simp only [Nat.zero_add]
  exact ⟨hf _ (by omega), hf _ (by omega), hf _ (by omega)⟩

theorem info_ev : ∃ i, Try.prog.info? 29 = some i ∧ i.zero = some (evV 0 0 0) ∧ i.size = 3 ∧ i.bytes = 24 := by
  have hinfo := infoEv
  cases hi : Try.prog.info? 29 with
  | none => rw [hi] at hinfo; cases hinfo
  | some i =>
    rw [hi] at hinfo
    simp only [Option.map_some, Option.some.injEq, Prod.mk.injEq] at hinfo
    exact ⟨i, rfl, hinfo⟩
theorem cell_three_new (w : World) (a b c : Value) (t : TypeId) : ∀ j u, [a, b, c][j]? = some u → (w.alloc (.cells #[a, b, c] t)).cell? ((⟨w.heap.size, 0, none⟩ : Addr).add j) = some u := by
  intro j u hj
  match j, hj with
  | 0, hj => simp at hj; subst hj; simp [Addr.add]
  | 1, hj => simp at hj; subst hj; simp [Addr.add]
  | 2, hj => simp at hj; subst hj; simp [Addr.add]
  | j + 3, hj => simp at hj

/-- One event is appended to a list of the draw's own. -/
theorem append_evt {ops : Array Oper} {rest : List Oper} {op : Oper} {act : Act} {Q : Exit → Act → World → Prop} (w : World) (hgd : op.guard = none) (s x : Operand)
    (ho : op.op = .call { callee := .builtin .append, args := #[s, x], argTypes := #[37, 37] })
    (B : Nat) (v : Value) (n : Nat) (hs : act.eval s = v) (hl : LstE w B v n) (k q y : Int) (hx : act.eval x = .slice (some ⟨w.heap.size, 0, none⟩) 1 1) (hn : n ≤ 1000) (hB : B ≤ w.heap.size)
    (h : ∀ v' w', LstE w' B v' (n + 1) → w.grownBy w' v.ownBlock → (∀ j, v'.ownBlock = some j → v.ownBlock = some j ∨ w.heap.size ≤ j) → wpList Try.prog ops Q rest (act.put op.dst v') w') :
    wpList Try.prog ops Q (op :: rest) act (w.alloc (.cells #[.int .i64 k, .int .i64 q, .int .i64 y] 29)) := by
  obtain ⟨i0, hi, hz0, hz1, hz2⟩ := info_ev
  obtain ⟨xs, how, hxs, hvn⟩ := hl
  have hb : Below w.heap.size w (w.alloc (.cells #[.int .i64 k, .int .i64 q, .int .i64 y] 29)) := below_alloc _ _
  obtain ⟨v', w', h1, h2, h3, h4, h5⟩ := run_append_own_at (P := Try.prog) (w.alloc (.cells #[.int .i64 k, .int .i64 q, .int .i64 y] 29)) B 37 op.type 29 i0 (evV 0 0 0) 3 24 Try.underlying37 hi hz0 hz1 hz2 rfl (by decide) v n xs (how.alloc _) ⟨w.heap.size, 0, none⟩ 1 1 [.int .i64 k, .int .i64 q, .int .i64 y] rfl (cell_three_new _ _ _ _ _) (fun u hu => by
    simp at hu
    rcases hu with rfl | rfl | rfl <;> rfl) (by unfold maxLen; omega) (by omega) (by simp; omega)
  refine wpList_plain hgd fun K hK => ?_
  unfold Oper.wp execOp
  simp only [ho, resolve, invoke, builtin, Sem.run_bind, Sem.run_pure, Result.andThen_ok, List.map_toArray, List.map_cons, List.map_nil, hs, hx, h1]
  refine hK _ _ (h v' w' ⟨_, h2, ?_, fun e => hvn (h4.1 e).1⟩ ⟨h3.os, h3.tape, h3.output, Nat.le_trans hb.size h3.size, fun j hj hne => (h3.block j (Nat.lt_of_lt_of_le hj hb.size) hne).trans (hb.block j hj)⟩ fun j hj => ?_)
  · rw [List.all_append, hxs]
    rfl
  · rcases h5 with a | a
    · exact .inl (a.symm.trans hj)
    · rw [hj] at a
      simp only [Option.some.injEq] at a
      right
      rw [a]
      simp

set_option maxRecDepth 100000 in
set_option maxHeartbeats 1000000 in
theorem specStateNew_any (w : World) :
    Calls Try.prog 81 #[] w fun e w' => ∃ v, e = .returned v ∧ StOwn w' w.heap.size v 0 [0, 0, 0, 0] [] 0 ∧ Below w.heap.size w w' := by
  have hmk : ∀ w : World, (Instr.makeSlice 25 (.int .i64 4) (.int .i64 4)).run Try.prog w = .ok (.slice (some ⟨w.heap.size, 0, none⟩) 4 4) (w.alloc (.cells (madeCells #[.int .i64 0] 4) 3)) := fun w => run_make_int 4 (by omega) w
  have HM : Hid (∀ w : World, OwnI (w.alloc (.cells (madeCells #[.int .i64 0] 4) 3)) w.heap.size (.slice (some ⟨w.heap.size, 0, none⟩) 4 4) [0, 0, 0, 0]) := fun w => made_own w 4 (by omega)
  go_enter Try.func81, Try.ntmps81
  go_wp2
  have hB : w.heap.size ≤ w.heap.size + 1 := by omega
  have hM := HM.out (w.alloc (.cells #[.int .i64 0, .slice (some ⟨w.heap.size + 1, 0, none⟩) 4 4, .slice none 0 0, .int .i64 0] 27))
  rw [World.size_alloc] at hM
  refine bodyPost_ret (v := stV 0 (some ⟨w.heap.size + 1, 0, none⟩) 4 4 none 0 0 0) (by simp [results, Try.results81, go_sem]) rfl ⟨_, rfl, ⟨_, _, rfl, hM.mono hB, World.ownsRow_nil _ _ _ _, fun k _ => by simp [Value.ownBlock]⟩, by go_grown⟩

end Go.Proofs.Ytmbmhpginegggaa

namespace Go.Proofs.Ytmbmhpginegggaa
open Go.RowKit

theorem Tl.widen {w : World} {B C C' N : Nat} {p c : Int} {ra : Option Addr} {rn rc : Nat} {oa : Option Addr} {on oc : Nat} {rs os : List Int} (h : Tl w B C N p c ra rn rc oa on oc rs os) (h1 : C ≤ C') (h2 : C' ≤ w.heap.size) : Tl w B C' N p c ra rn rc oa on oc rs os :=
  ⟨h.lo, Nat.lt_of_lt_of_le h.hi h1, h2, h.box, h.own, fun k hk => Nat.lt_of_lt_of_le (h.up k hk) h1, h.ne⟩

/-- What stands between the rounds of a draw of events: the events so far, the cursor, a state of the draw's own in block Bs, all of it below C. -/
structure Dr (w wr : World) (C W0 c len cap : Nat) (a0 : Option Addr) (Bs : Nat) (out : Value) (k : Nat) (p code : Int) (ra : Option Addr) (rc : Nat) (oa : Option Addr) (oc : Nat) (rs os : List Int) : Prop where
  ls : LstE wr w.heap.size out k
  cu : Cur wr W0 c a0 len cap
  gr : w.grownBy wr (some c)
  tl : Tl wr w.heap.size C Bs p code ra rs.length rc oa os.length oc rs os
  fz : ∀ j, wr.frozen? ⟨Bs, j, none⟩ = false
  oC : ∀ j, out.ownBlock = some j → j < C
  nB : out.ownBlock ≠ some Bs
  ap : ∀ j, hasBlock (stV p ra rs.length rc oa os.length oc code) j → out.ownBlock ≠ some j
  lr : rs.length ≤ 1048576
  lo : os.length ≤ 1048576

theorem Dr.tu {w wr w' : World} {C W0 c len cap : Nat} {a0 : Option Addr} {Bs : Nat} {out : Value} {k : Nat} {p code : Int} {ra : Option Addr} {rc : Nat} {oa : Option Addr} {oc : Nat} {rs os : List Int} (h : Dr w wr C W0 c len cap a0 Bs out k p code ra rc oa oc rs os) {lo hi : Nat} (t : Tu lo hi wr w') (hd : C ≤ lo ∨ hi ≤ w.heap.size) (hc : Cur w' W0 c a0 len cap) (hg : w.grownBy w' (some c)) : Dr w w' C W0 c len cap a0 Bs out k p code ra rc oa oc rs os := by
  obtain ⟨h1, h2, h3, h4, h5, h6, h7, h8, h9, h10⟩ := h
  refine ⟨h1.ofBlock fun j hj => ?_, hc, hg, h4.tu t hd, fun j => ?_, h6, h7, h8, h9, h10⟩
  · have a := h1.lt j hj
    have b := h6 j hj
    exact t.block j a.2 (by omega)
  · rw [World.frozen?_of_block (t.block Bs (Nat.lt_of_lt_of_le h4.hi h4.sz) (by have := h4.lo; have := h4.hi; omega))]
    exact h5 j
theorem Dr.turn {w wr w' : World} {C W0 c len cap : Nat} {a0 : Option Addr} {Bs : Nat} {out : Value} {k : Nat} {p code : Int} {ra : Option Addr} {rc : Nat} {oa : Option Addr} {oc : Nat} {rs os : List Int} (h : Dr w wr C W0 c len cap a0 Bs out k p code ra rc oa oc rs os) (hcl : c < w.heap.size) (hc : Cur w' W0 c a0 len cap) (hg : wr.grownBy w' (some c)) : Dr w w' C W0 c len cap a0 Bs out k p code ra rc oa oc rs os :=
  h.tu (Tu.of_row hg) (.inr hcl) hc (h.gr.trans hg)
theorem Dr.below {w wr w' : World} {C W0 c len cap : Nat} {a0 : Option Addr} {Bs : Nat} {out : Value} {k : Nat} {p code : Int} {ra : Option Addr} {rc : Nat} {oa : Option Addr} {oc : Nat} {rs os : List Int} (h : Dr w wr C W0 c len cap a0 Bs out k p code ra rc oa oc rs os) (hb : Below wr.heap.size wr w') : Dr w w' C W0 c len cap a0 Bs out k p code ra rc oa oc rs os :=
  h.tu (Tu.of_below hb) (.inr (Nat.zero_le _)) (h.cu.kept (grown_of_below hb) (by simp) (fun k e => by cases e)) (h.gr.trans (grown_any (grown_of_below hb) _))
theorem Dr.set {w wr : World} {C W0 c len cap : Nat} {a0 : Option Addr} {Bs : Nat} {out : Value} {k : Nat} {p code : Int} {ra : Option Addr} {rc : Nat} {oa : Option Addr} {oc : Nat} {rs os : List Int} (h : Dr w wr C W0 c len cap a0 Bs out k p code ra rc oa oc rs os) (hcl : c < w.heap.size) (hcg : W0 ≤ c) {N : Nat} (hN : C ≤ N) (j : Nat) (v : Value) : Dr w (wr.setCell ⟨N, j, none⟩ v) C W0 c len cap a0 Bs out k p code ra rc oa oc rs os := by
  have hw : w.heap.size ≤ N := by have := h.tl.lo; have := h.tl.hi; omega
  exact h.tu (Tu.of_row (b := N) (grown_setCell (p := ⟨N, j, none⟩) (World.grownBy.refl _ _) (.inl rfl) v)) (.inl hN) (h.cu.setOther (p := ⟨N, j, none⟩) (by simp; omega) (by simp; omega) v) (grown_setCell (p := ⟨N, j, none⟩) h.gr (.inr hw) v)
theorem Dr.widen {w wr : World} {C W0 c len cap : Nat} {a0 : Option Addr} {Bs : Nat} {out : Value} {k : Nat} {p code : Int} {ra : Option Addr} {rc : Nat} {oa : Option Addr} {oc : Nat} {rs os : List Int} (h : Dr w wr C W0 c len cap a0 Bs out k p code ra rc oa oc rs os) : Dr w wr wr.heap.size W0 c len cap a0 Bs out k p code ra rc oa oc rs os :=
  ⟨h.ls, h.cu, h.gr, h.tl.widen h.tl.sz (Nat.le_refl _), h.fz, fun j hj => Nat.lt_of_lt_of_le (h.oC j hj) h.tl.sz, h.nB, h.ap, h.lr, h.lo⟩
theorem Dr.ins {w wr : World} {C W0 c len cap : Nat} {a0 : Option Addr} {Bs : Nat} {out : Value} {k : Nat} {p code : Int} {ra : Option Addr} {rc : Nat} {oa : Option Addr} {oc : Nat} {rs os : List Int} (h : Dr w wr C W0 c len cap a0 Bs out k p code ra rc oa oc rs os) {gb n : Nat} {g : Nat → I5} (hI : InsAt w gb 0 n g) (hg : gb < w.heap.size) (hne : gb ≠ c) : InsAt wr gb 0 n g ∧ gb < wr.heap.size := by
  have hb := h.gr.block gb hg (by simp [hne])
  refine ⟨fun i hi => ?_, Nat.lt_of_lt_of_le hg h.gr.size⟩
  obtain ⟨c0, c1, c2, c3, c4⟩ := hI i hi
  exact ⟨(World.cell?_of_block hb).trans c0, (World.cell?_of_block hb).trans c1, (World.cell?_of_block hb).trans c2, (World.cell?_of_block hb).trans c3, (World.cell?_of_block hb).trans c4⟩

/-- An event in block N, that may be written. -/
def EvB (w : World) (N : Nat) (k q v : Int) : Prop := EvC3 w N k q v ∧ ∀ j, w.frozen? ⟨N, j, none⟩ = false
theorem EvB.lt {w : World} {N : Nat} {k q v : Int} (h : EvB w N k q v) : N < w.heap.size := World.block_lt_of_cell? w _ h.1.1
theorem EvB.block {w w' : World} {N : Nat} {k q v : Int} (h : EvB w N k q v) (hb : w'.heap[N]? = w.heap[N]?) : EvB w' N k q v := by
  obtain ⟨⟨h0, h1, h2⟩, h3⟩ := h
  exact ⟨⟨(World.cell?_of_block hb).trans h0, (World.cell?_of_block hb).trans h1, (World.cell?_of_block hb).trans h2⟩, fun j => (World.frozen?_of_block hb).trans (h3 j)⟩
theorem EvB.new (w : World) (k q v : Int) (t : TypeId) : EvB (w.alloc (.cells #[.int .i64 k, .int .i64 q, .int .i64 v] t)) w.heap.size k q v := ⟨EvC3.new w k q v t, fun j => new_frozen _ _ _ j rfl⟩
theorem EvB.set1 {w : World} {N : Nat} {k q v : Int} (h : EvB w N k q v) (x : Int) : EvB (w.setCell ⟨N, 1, none⟩ (.int .i64 x)) N k x v := by
  obtain ⟨⟨h0, h1, h2⟩, h3⟩ := h
  exact ⟨⟨by go_cell, by go_cell, by go_cell⟩, fun j => by rw [World.frozen?_setCell]; exact h3 j⟩
theorem EvB.set2 {w : World} {N : Nat} {k q v : Int} (h : EvB w N k q v) (x : Int) : EvB (w.setCell ⟨N, 2, none⟩ (.int .i64 x)) N k q x := by
  obtain ⟨⟨h0, h1, h2⟩, h3⟩ := h
  exact ⟨⟨by go_cell, by go_cell, by go_cell⟩, fun j => by rw [World.frozen?_setCell]; exact h3 j⟩

/-- One event more, and the state behind it. -/
theorem Dr.next {w w8 w9 : World} {C W0 c len cap : Nat} {a0 : Option Addr} {Bs : Nat} {out out' : Value} {k : Nat} {p code : Int} {ra : Option Addr} {rc : Nat} {oa : Option Addr} {oc : Nat} {rs os : List Int} (h : Dr w w8 C W0 c len cap a0 Bs out k p code ra rc oa oc rs os) (hcl : c < w.heap.size) (hcg : W0 ≤ c)
    {B7 : Nat} {S : S4} {ra7 oa7 : Option Addr} {rc7 oc7 : Nat} (o7 : StOwn w8 B7 (stV S.p ra7 S.rs.length rc7 oa7 S.os.length oc7 S.c) S.p S.rs S.os S.c) (hB : C ≤ B7) (l1 : S.rs.length ≤ 1048576) (l2 : S.os.length ≤ 1048576)
    (g9 : w8.grownBy w9 out.ownBlock) (L9 : LstE w9 w.heap.size out' (k + 1)) (a9 : ∀ j, out'.ownBlock = some j → out.ownBlock = some j ∨ w8.heap.size ≤ j) :
    Dr w ((((w9.setCell ⟨Bs, 0, none⟩ (.int .i64 S.p)).setCell ⟨Bs, 1, none⟩ (.slice ra7 S.rs.length rc7)).setCell ⟨Bs, 2, none⟩ (.slice oa7 S.os.length oc7)).setCell ⟨Bs, 3, none⟩ (.int .i64 S.c)) w9.heap.size W0 c len cap a0 Bs out' (k + 1) S.p S.c ra7 rc7 oa7 oc7 S.rs S.os := by
  have hlo := h.tl.lo
  have hhi := h.tl.hi
  have hsz := h.tl.sz
  have hs9 := g9.size
  have gz := grown4 w9 Bs (.int .i64 S.p) (.slice ra7 S.rs.length rc7) (.slice oa7 S.os.length oc7) (.int .i64 S.c)
  have hap : ∀ j, out.ownBlock = some j → w.heap.size ≤ j ∧ j < C := fun j hj => ⟨(h.ls.lt j hj).1, h.oC j hj⟩
  have eB : w9.heap[Bs]? = w8.heap[Bs]? := g9.block Bs (by omega) (fun e => h.nB e.symm)
  have nB : out'.ownBlock ≠ some Bs := fun e => by
    rcases a9 Bs e with e | e
    · exact h.nB e
    · omega
  obtain ⟨b0, b1, b2, b3⟩ := h.tl.box
  have o9 : StOwn w9 B7 (stV S.p ra7 S.rs.length rc7 oa7 S.os.length oc7 S.c) S.p S.rs S.os S.c := by
    obtain ⟨q1, q2, qa⟩ := o7.parts
    refine ⟨_, _, rfl, q1.ofBlock fun j hj => ?_, q2.ofBlock fun j hj => ?_, qa⟩
    · have := q1.lt j hj
      exact g9.block j this.2 (fun e => by have := hap j e.symm; omega)
    · have := q2.lt j hj
      exact g9.block j this.2 (fun e => by have := hap j e.symm; omega)
  have gW : w.grownBy w9 (some c) := ⟨g9.os.trans h.gr.os, g9.tape.trans h.gr.tape, g9.output.trans h.gr.output, Nat.le_trans h.gr.size g9.size, fun j hj hne => (g9.block j (Nat.lt_of_lt_of_le hj h.gr.size) (fun e => by have := hap j e.symm; omega)).trans (h.gr.block j hj hne)⟩
  have hC : C ≤ w9.heap.size := by omega
  refine ⟨?_, ?_, ?_, ⟨hlo, by omega, by simp, ?_, ?_, fun j hj => ?_, fun hj => ?_⟩, fun j => ?_, fun j hj => ?_, nB, fun j hj e => ?_, l1, l2⟩
  · exact L9.kept gz (fun j e => by cases e; exact nB)
  · have hc9 : Cur w9 W0 c a0 len cap := h.cu.kept g9 (fun e => by have := hap c e.symm; omega) (fun j e => by have := hap j e; omega)
    exact (((hc9.setOther (p := ⟨Bs, 0, none⟩) (by simp; omega) (by simp; omega) _).setOther (p := ⟨Bs, 1, none⟩) (by simp; omega) (by simp; omega) _).setOther (p := ⟨Bs, 2, none⟩) (by simp; omega) (by simp; omega) _).setOther (p := ⟨Bs, 3, none⟩) (by simp; omega) (by simp; omega) _
  · repeat (refine grown_setCell ?_ (.inr hlo) _)
    exact gW
  · exact BoxC.set4 (z0 := .int .i64 p) (z1 := .slice ra rs.length rc) (z2 := .slice oa os.length oc) (z3 := .int .i64 code) ⟨(World.cell?_of_block eB).trans b0, (World.cell?_of_block eB).trans b1, (World.cell?_of_block eB).trans b2, (World.cell?_of_block eB).trans b3⟩ _ _ _ _
  · exact o9.put4 (by omega) (by omega)
  · exact (o9.lt hj).2
  · have := (o9.lt hj).1
    omega
  · rw [World.frozen?_setCell, World.frozen?_setCell, World.frozen?_setCell, World.frozen?_setCell, World.frozen?_of_block eB]
    exact h.fz j
  · exact (L9.lt j hj).2
  · have hj7 := o7.lt hj
    rcases a9 j e with e | e
    · have := hap j e
      omega
    · omega

end Go.Proofs.Ytmbmhpginegggaa

namespace Go.Proofs.Ytmbmhpginegggaa
open Go.RowKit

set_option maxRecDepth 100000 in
set_option maxHeartbeats 8000000 in
theorem l3DrawEvents_any (W0 c len cap : Nat) (a0 : Option Addr) (gb n gc : Nat) (g : Nat → I5) (w : World) (hc : Cur w W0 c a0 len cap) (hn : n ≤ 31) (hg : gb < w.heap.size) (hgc : gb ≠ c) (hI : InsAt w gb 0 n g) :
    Calls Try.prog 78 #[.pointer (some ⟨c, 0, none⟩), .slice (some ⟨gb, 0, none⟩) n gc] w fun e w' => ∃ v k, e = .returned v ∧ k ≤ 25 ∧ LstE w' w.heap.size v k ∧ Cur w' W0 c a0 len cap ∧ w.grownBy w' (some c) := by
  have HC0 : Hid (Cur w W0 c a0 len cap) := hc
  have HI : Hid (InsAt w gb 0 n g) := hI
  have hcl := hc.lt
  have hcg := hc.ge
  have HL : Hid (n ≤ maxLen) := by
    show n ≤ maxLen
    unfold maxLen
    omega
  clear hc hI
  go_enter Try.func78, Try.ntmps78
  go_wp2_with fail
  refine (specStateNew_any _).mono ?_
  rintro e w1 ⟨v1, rfl, o1, b1⟩
  obtain ⟨ra1, rc1, oa1, oc1, rfl, -, -⟩ := o1.read
  have bA := below_alloc w (.cells #[] 29)
  have bB := below_alloc w1 (.cells #[.int .i64 0, .slice ra1 4 rc1, .slice oa1 0 oc1, .int .i64 0] 27)
  have z1 : w.heap.size < w1.heap.size := by have := b1.size; simp at this; omega
  have D1 : Hid (Dr w (w1.alloc (.cells #[.int .i64 0, .slice ra1 4 rc1, .slice oa1 0 oc1, .int .i64 0] 27)) (w1.heap.size + 1) W0 c len cap a0 w1.heap.size (.slice (some ⟨w.heap.size, 0, none⟩) 0 0) 0 0 0 ra1 rc1 oa1 oc1 [0, 0, 0, 0] []) := by
    have o1' : StOwn w1 w.heap.size (stV 0 ra1 4 rc1 oa1 0 oc1 0) 0 [0, 0, 0, 0] [] 0 := o1.mono (by simp)
    have bC : Below w.heap.size w (w1.alloc (.cells #[.int .i64 0, .slice ra1 4 rc1, .slice oa1 0 oc1, .int .i64 0] 27)) := bA.trans ((b1.trans (bB.mono b1.size)).mono bA.size)
    refine ⟨((LstE.empty w).below b1).below bB, HC0.out.kept (grown_of_below bC) (by simp) (fun k e => by cases e), grown_any (grown_of_below bC) _, Tl.of_alloc o1' (by omega) _, fun j => new_frozen _ _ _ j rfl, fun j hj => ?_, ?_, fun j hj => ?_, by simp, by simp⟩
    · simp [Value.ownBlock] at hj
      omega
    · simp [Value.ownBlock]
      omega
    · have hh := (o1.lt hj).1
      simp [Value.ownBlock] at hh ⊢
      omega
  clear o1 b1 bA bB HC0
  go_wp2_with fail
  generalize w1.alloc (.cells #[.int .i64 0, .slice ra1 4 rc1, .slice oa1 0 oc1, .int .i64 0] 27) = w2 at *
  refine (l1Below_any W0 c len cap a0 _ _ D1.out.cu (by omega) (by omega)).mono ?_
  rintro e w3 ⟨m', rfl, ⟨m0, m1⟩, hc3, hg3⟩
  obtain ⟨m, rfl⟩ : ∃ m : Nat, m' = m := ⟨m'.toNat, by omega⟩
  have D3 : Hid (Dr w w3 (w1.heap.size + 1) W0 c len cap a0 w1.heap.size (.slice (some ⟨w.heap.size, 0, none⟩) 0 0) 0 0 0 ra1 rc1 oa1 oc1 [0, 0, 0, 0] []) := D1.out.turn hcl hc3 hg3
  clear hc3 hg3 D1
  generalize w1.heap.size = Bs at *
  go_wp2_with fail
  go_loopw [5, 8] (fun o i wr => ∃ k : Nat, k ≤ m ∧ i = .int .i64 k ∧ Hid (∃ p code ra rc oa oc rs os, Dr w wr wr.heap.size W0 c len cap a0 Bs o k p code ra rc oa oc rs os)) (fun _ i _ => m - (intOf i).toNat)
  case atStart => exact ⟨0, Nat.zero_le _, rfl, _, _, _, _, _, _, _, _, D3.out.widen⟩
  case round =>
    clear D3
    obtain ⟨k, hk, rfl, HD⟩ := hrel
    obtain ⟨p, code, ra, rc, oa, oc, rs, os, hD⟩ := HD.out
    have DR : Hid (Dr w wr wr.heap.size W0 c len cap a0 Bs u5 k p code ra rc oa oc rs os) := hD
    clear HD hD
    by_cases hlt : k < m
    · have hlt' : (k : Int) < (m : Int) := by omega
      obtain ⟨c0, c1, c2, c3⟩ := DR.out.tl.box
      go_wp2_with fail
      refine (specNext_any _ _ _ _ g p code ra oa rc oc rs os _ HL.out (DR.out.ins HI.out hg hgc).2 (DR.out.ins HI.out hg hgc).1 DR.out.lr DR.out.lo DR.out.tl.sl.1 DR.out.tl.sl.2).mono ?_
      rintro e w4 ⟨rfl, b4⟩
      generalize nxK g n p rs os code = K at *
      generalize nxP g n p rs os code = P at *
      generalize nxW g n p rs os code = V at *
      have z4 : wr.heap.size ≤ w4.heap.size := b4.size
      have D5 : Hid (Dr w (w4.alloc (.cells #[.int .i64 K, .int .i64 P, .int .i64 V] 29)) wr.heap.size W0 c len cap a0 Bs u5 k p code ra rc oa oc rs os) := (DR.out.below b4).below (below_alloc _ _)
      have E5 : Hid (EvB (w4.alloc (.cells #[.int .i64 K, .int .i64 P, .int .i64 V] 29)) w4.heap.size K P V) := EvB.new w4 K P V _
      have dB : Bs ≠ w4.heap.size := by have := DR.out.tl.hi; omega
      have dB' : w4.heap.size ≠ Bs := fun e => dB e.symm
      have dc : w4.heap.size ≠ c := by have := DR.out.tl.lo; have := DR.out.tl.hi; omega
      clear b4 DR c0 c1 c2 c3
      obtain ⟨⟨e0, e1, e2⟩, ef⟩ := E5.out
      obtain ⟨c0, c1, c2, c3⟩ := D5.out.tl.box
      rcases Bool.eq_false_or_eq_true (K == 3) with tK | tK
      case inr =>
        go_wp2_with fail
        generalize w4.alloc (.cells #[.int .i64 K, .int .i64 P, .int .i64 V] 29) = wx at *
        have DX := D5
        have EX := E5
        clear D5 E5
        refine (specDo_any gb 0 n _ g p code ra oa rc oc rs os K P V _ HL.out (DX.out.ins HI.out hg hgc).2 (DX.out.ins HI.out hg hgc).1 DX.out.lr DX.out.lo DX.out.tl.sl.1 DX.out.tl.sl.2).mono ?_
        rintro e w11 hd
        have hSl := doS_len g n p rs os code K P V DX.out.lr DX.out.lo
        generalize doS g n p rs os code K P V = S at hd hSl
        generalize doB g n p rs os code K P V = T at hd
        obtain ⟨v11, rfl, o11, b11⟩ := hd
        obtain ⟨ra11, rc11, oa11, oc11, rfl, -, -⟩ := o11.read
        have SL : Hid (S.rs.length ≤ 1048576 ∧ S.os.length ≤ 1048576) := hSl
        have D12 : Hid (Dr w (w11.alloc (.cells #[.int .i64 S.p, .slice ra11 S.rs.length rc11, .slice oa11 S.os.length oc11, .int .i64 S.c] 27)) wr.heap.size W0 c len cap a0 Bs u5 k p code ra rc oa oc rs os) := (DX.out.below b11).below (below_alloc _ _)
        have E12 : Hid (EvB (w11.alloc (.cells #[.int .i64 S.p, .slice ra11 S.rs.length rc11, .slice oa11 S.os.length oc11, .int .i64 S.c] 27)) w4.heap.size K P V) := (EX.out.block (b11.block _ EX.out.lt)).block ((below_alloc _ _).block _ (Nat.lt_of_lt_of_le EX.out.lt b11.size))
        have O12 : Hid (StOwn (w11.alloc (.cells #[.int .i64 S.p, .slice ra11 S.rs.length rc11, .slice oa11 S.os.length oc11, .int .i64 S.c] 27)) wx.heap.size (stV S.p ra11 S.rs.length rc11 oa11 S.os.length oc11 S.c) S.p S.rs S.os S.c) := o11.below (below_alloc _ _)
        have N12 : Hid (BoxC (w11.alloc (.cells #[.int .i64 S.p, .slice ra11 S.rs.length rc11, .slice oa11 S.os.length oc11, .int .i64 S.c] 27)) w11.heap.size (.int .i64 S.p) (.slice ra11 S.rs.length rc11) (.slice oa11 S.os.length oc11) (.int .i64 S.c)) := BoxC.new w11 _ _ _ _ _
        have z11 : wx.heap.size ≤ w11.heap.size := b11.size
        have zX : wr.heap.size ≤ wx.heap.size := DX.out.tl.sz
        clear o11 b11 hSl c0 c1 c2 c3 e0 e1 e2 ef
        cases T
        case false =>
          go_wp2
          go_ret
          exact ⟨_, k, rfl, by omega, D12.out.ls, D12.out.cu, D12.out.gr⟩
        case true =>
          obtain ⟨⟨e0, e1, e2⟩, ef⟩ := E12.out
          go_wp2_with (at_builtin; refine append_stop rfl ?_)
          unfold STOP
          have zS : (w11.alloc (.cells #[.int .i64 S.p, .slice ra11 S.rs.length rc11, .slice oa11 S.os.length oc11, .int .i64 S.c] 27)).heap.size = w11.heap.size + 1 := by simp
          generalize w11.alloc (.cells #[.int .i64 S.p, .slice ra11 S.rs.length rc11, .slice oa11 S.os.length oc11, .int .i64 S.c] 27) = w12 at *
          have HZS : Hid (w12.heap.size = w11.heap.size + 1) := zS
          clear zS e0 e1 e2 ef
          refine append_evt w12 rfl _ _ rfl w.heap.size u5 k rfl D12.out.ls K P V (by simp [HZS.out, go_sem]) (by omega) (Nat.le_trans D12.out.tl.lo (Nat.le_of_lt (Nat.lt_of_lt_of_le D12.out.tl.hi D12.out.tl.sz))) ?_
          intro v' w13 l13 g13 a13
          have zB : Bs < w12.heap.size := Nat.lt_of_lt_of_le D12.out.tl.hi D12.out.tl.sz
          have yB := gcell g13 (b := Bs) zB (fun e => D12.out.nB e.symm)
          have yN := gcell g13 (b := w11.heap.size) (by rw [HZS.out]; exact Nat.lt_succ_self _) (fun e => by have := D12.out.oC _ e.symm; omega)
          obtain ⟨b0, b1, b2, b3⟩ := D12.out.tl.box
          obtain ⟨n0, n1, n2, n3⟩ := N12.out
          have s0 := (yB.1 0).trans b0
          have s1 := (yB.1 1).trans b1
          have s2 := (yB.1 2).trans b2
          have s3 := (yB.1 3).trans b3
          have sf := fun j => (yB.2 j).trans (D12.out.fz j)
          have t0 := (yN.1 0).trans n0
          have t1 := (yN.1 1).trans n1
          have t2 := (yN.1 2).trans n2
          have t3 := (yN.1 3).trans n3
          have L13 : Hid (LstE w13 w.heap.size v' (k + 1)) := l13
          have G13 : Hid (w12.grownBy w13 u5.ownBlock) := g13
          have A13 : Hid (∀ j, v'.ownBlock = some j → u5.ownBlock = some j ∨ w12.heap.size ≤ j) := a13
          clear yB yN b0 b1 b2 b3 n0 n1 n2 n3 l13 g13 a13
          go_wp2
          go_roundw
          case rel => exact ⟨k + 1, by omega, by go_num, _, _, _, _, _, _, _, _, (D12.out.next hcl hcg O12.out zX SL.out.1 SL.out.2 G13.out L13.out A13.out).widen⟩
          case measure => simp [intOf]; omega
      case inl =>
        rcases Bool.eq_false_or_eq_true (P == 9) with tP | tP
        case inl =>
          go_wp2_with fail
          generalize w4.alloc (.cells #[.int .i64 K, .int .i64 P, .int .i64 V] 29) = w5 at *
          refine (l1Below_any W0 c len cap a0 _ _ D5.out.cu (by omega) (by omega)).mono ?_
          rintro e w6 ⟨x, rfl, -, hc6, hg6⟩
          have D6 : Hid (Dr w (w6.setCell ⟨w4.heap.size, 1, none⟩ (.int .i64 x)) wr.heap.size W0 c len cap a0 Bs u5 k p code ra rc oa oc rs os) := (D5.out.turn hcl hc6 hg6).set hcl hcg z4 _ _
          have h6 := E5.out.block (hg6.block _ E5.out.lt (by simp [dc]))
          have E6 : Hid (EvB (w6.setCell ⟨w4.heap.size, 1, none⟩ (.int .i64 x)) w4.heap.size K x V) := h6.set1 x
          clear e0 e1 e2 ef c0 c1 c2 c3 D5 E5 hc6 hg6
          obtain ⟨⟨e0, e1, e2⟩, ef⟩ := h6
          go_wp2_with fail
          clear e0 e1 e2 ef
          generalize w6.setCell ⟨w4.heap.size, 1, none⟩ (.int .i64 x) = w7 at *
          refine (l1Below_any W0 c len cap a0 _ _ D6.out.cu (by omega) (by omega)).mono ?_
          rintro e w8 ⟨y, rfl, -, hc8, hg8⟩
          have h8 := E6.out.block (hg8.block _ E6.out.lt (by simp [dc]))
          have d8 := D6.out.turn hcl hc8 hg8
          have DX : Hid (Dr w (w8.setCell ⟨w4.heap.size, 2, none⟩ (.int .i64 y)) wr.heap.size W0 c len cap a0 Bs u5 k p code ra rc oa oc rs os) := d8.set hcl hcg z4 _ _
          have EX : Hid (EvB (w8.setCell ⟨w4.heap.size, 2, none⟩ (.int .i64 y)) w4.heap.size K x y) := h8.set2 y
          clear D6 E6 hc8 hg8
          obtain ⟨⟨e0, e1, e2⟩, ef⟩ := h8
          obtain ⟨c0, c1, c2, c3⟩ := d8.tl.box
          clear d8
          go_wp2_with fail
          generalize w8.setCell ⟨w4.heap.size, 2, none⟩ (.int .i64 y) = wx at *
          refine (specDo_any gb 0 n _ g p code ra oa rc oc rs os K x y _ HL.out (DX.out.ins HI.out hg hgc).2 (DX.out.ins HI.out hg hgc).1 DX.out.lr DX.out.lo DX.out.tl.sl.1 DX.out.tl.sl.2).mono ?_
          rintro e w11 hd
          have hSl := doS_len g n p rs os code K x y DX.out.lr DX.out.lo
          generalize doS g n p rs os code K x y = S at hd hSl
          generalize doB g n p rs os code K x y = T at hd
          obtain ⟨v11, rfl, o11, b11⟩ := hd
          obtain ⟨ra11, rc11, oa11, oc11, rfl, -, -⟩ := o11.read
          have SL : Hid (S.rs.length ≤ 1048576 ∧ S.os.length ≤ 1048576) := hSl
          have D12 : Hid (Dr w (w11.alloc (.cells #[.int .i64 S.p, .slice ra11 S.rs.length rc11, .slice oa11 S.os.length oc11, .int .i64 S.c] 27)) wr.heap.size W0 c len cap a0 Bs u5 k p code ra rc oa oc rs os) := (DX.out.below b11).below (below_alloc _ _)
          have E12 : Hid (EvB (w11.alloc (.cells #[.int .i64 S.p, .slice ra11 S.rs.length rc11, .slice oa11 S.os.length oc11, .int .i64 S.c] 27)) w4.heap.size K x y) := (EX.out.block (b11.block _ EX.out.lt)).block ((below_alloc _ _).block _ (Nat.lt_of_lt_of_le EX.out.lt b11.size))
          have O12 : Hid (StOwn (w11.alloc (.cells #[.int .i64 S.p, .slice ra11 S.rs.length rc11, .slice oa11 S.os.length oc11, .int .i64 S.c] 27)) wx.heap.size (stV S.p ra11 S.rs.length rc11 oa11 S.os.length oc11 S.c) S.p S.rs S.os S.c) := o11.below (below_alloc _ _)
          have N12 : Hid (BoxC (w11.alloc (.cells #[.int .i64 S.p, .slice ra11 S.rs.length rc11, .slice oa11 S.os.length oc11, .int .i64 S.c] 27)) w11.heap.size (.int .i64 S.p) (.slice ra11 S.rs.length rc11) (.slice oa11 S.os.length oc11) (.int .i64 S.c)) := BoxC.new w11 _ _ _ _ _
          have z11 : wx.heap.size ≤ w11.heap.size := b11.size
          have zX : wr.heap.size ≤ wx.heap.size := DX.out.tl.sz
          clear o11 b11 hSl c0 c1 c2 c3 e0 e1 e2 ef
          cases T
          case false =>
            go_wp2
            go_ret
            exact ⟨_, k, rfl, by omega, D12.out.ls, D12.out.cu, D12.out.gr⟩
          case true =>
            obtain ⟨⟨e0, e1, e2⟩, ef⟩ := E12.out
            go_wp2_with (at_builtin; refine append_stop rfl ?_)
            unfold STOP
            have zS : (w11.alloc (.cells #[.int .i64 S.p, .slice ra11 S.rs.length rc11, .slice oa11 S.os.length oc11, .int .i64 S.c] 27)).heap.size = w11.heap.size + 1 := by simp
            generalize w11.alloc (.cells #[.int .i64 S.p, .slice ra11 S.rs.length rc11, .slice oa11 S.os.length oc11, .int .i64 S.c] 27) = w12 at *
            have HZS : Hid (w12.heap.size = w11.heap.size + 1) := zS
            clear zS e0 e1 e2 ef
            refine append_evt w12 rfl _ _ rfl w.heap.size u5 k rfl D12.out.ls K x y (by simp [HZS.out, go_sem]) (by omega) (Nat.le_trans D12.out.tl.lo (Nat.le_of_lt (Nat.lt_of_lt_of_le D12.out.tl.hi D12.out.tl.sz))) ?_
            intro v' w13 l13 g13 a13
            have zB : Bs < w12.heap.size := Nat.lt_of_lt_of_le D12.out.tl.hi D12.out.tl.sz
            have yB := gcell g13 (b := Bs) zB (fun e => D12.out.nB e.symm)
            have yN := gcell g13 (b := w11.heap.size) (by rw [HZS.out]; exact Nat.lt_succ_self _) (fun e => by have := D12.out.oC _ e.symm; omega)
            obtain ⟨b0, b1, b2, b3⟩ := D12.out.tl.box
            obtain ⟨n0, n1, n2, n3⟩ := N12.out
            have s0 := (yB.1 0).trans b0
            have s1 := (yB.1 1).trans b1
            have s2 := (yB.1 2).trans b2
            have s3 := (yB.1 3).trans b3
            have sf := fun j => (yB.2 j).trans (D12.out.fz j)
            have t0 := (yN.1 0).trans n0
            have t1 := (yN.1 1).trans n1
            have t2 := (yN.1 2).trans n2
            have t3 := (yN.1 3).trans n3
            have L13 : Hid (LstE w13 w.heap.size v' (k + 1)) := l13
            have G13 : Hid (w12.grownBy w13 u5.ownBlock) := g13
            have A13 : Hid (∀ j, v'.ownBlock = some j → u5.ownBlock = some j ∨ w12.heap.size ≤ j) := a13
            clear yB yN b0 b1 b2 b3 n0 n1 n2 n3 l13 g13 a13
            go_wp2
            go_roundw
            case rel => exact ⟨k + 1, by omega, by go_num, _, _, _, _, _, _, _, _, (D12.out.next hcl hcg O12.out zX SL.out.1 SL.out.2 G13.out L13.out A13.out).widen⟩
            case measure => simp [intOf]; omega
        case inr =>
          go_wp2_with fail
          generalize w4.alloc (.cells #[.int .i64 K, .int .i64 P, .int .i64 V] 29) = w7 at *
          refine (l1Below_any W0 c len cap a0 _ _ D5.out.cu (by omega) (by omega)).mono ?_
          rintro e w8 ⟨y, rfl, -, hc8, hg8⟩
          have h8 := E5.out.block (hg8.block _ E5.out.lt (by simp [dc]))
          have d8 := D5.out.turn hcl hc8 hg8
          have DX : Hid (Dr w (w8.setCell ⟨w4.heap.size, 2, none⟩ (.int .i64 y)) wr.heap.size W0 c len cap a0 Bs u5 k p code ra rc oa oc rs os) := d8.set hcl hcg z4 _ _
          have EX : Hid (EvB (w8.setCell ⟨w4.heap.size, 2, none⟩ (.int .i64 y)) w4.heap.size K P y) := h8.set2 y
          clear D5 E5 hc8 hg8 e0 e1 e2 ef c0 c1 c2 c3
          obtain ⟨⟨e0, e1, e2⟩, ef⟩ := h8
          obtain ⟨c0, c1, c2, c3⟩ := d8.tl.box
          clear d8
          go_wp2_with fail
          generalize w8.setCell ⟨w4.heap.size, 2, none⟩ (.int .i64 y) = wx at *
          refine (specDo_any gb 0 n _ g p code ra oa rc oc rs os K P y _ HL.out (DX.out.ins HI.out hg hgc).2 (DX.out.ins HI.out hg hgc).1 DX.out.lr DX.out.lo DX.out.tl.sl.1 DX.out.tl.sl.2).mono ?_
          rintro e w11 hd
          have hSl := doS_len g n p rs os code K P y DX.out.lr DX.out.lo
          generalize doS g n p rs os code K P y = S at hd hSl
          generalize doB g n p rs os code K P y = T at hd
          obtain ⟨v11, rfl, o11, b11⟩ := hd
          obtain ⟨ra11, rc11, oa11, oc11, rfl, -, -⟩ := o11.read
          have SL : Hid (S.rs.length ≤ 1048576 ∧ S.os.length ≤ 1048576) := hSl
          have D12 : Hid (Dr w (w11.alloc (.cells #[.int .i64 S.p, .slice ra11 S.rs.length rc11, .slice oa11 S.os.length oc11, .int .i64 S.c] 27)) wr.heap.size W0 c len cap a0 Bs u5 k p code ra rc oa oc rs os) := (DX.out.below b11).below (below_alloc _ _)
          have E12 : Hid (EvB (w11.alloc (.cells #[.int .i64 S.p, .slice ra11 S.rs.length rc11, .slice oa11 S.os.length oc11, .int .i64 S.c] 27)) w4.heap.size K P y) := (EX.out.block (b11.block _ EX.out.lt)).block ((below_alloc _ _).block _ (Nat.lt_of_lt_of_le EX.out.lt b11.size))
          have O12 : Hid (StOwn (w11.alloc (.cells #[.int .i64 S.p, .slice ra11 S.rs.length rc11, .slice oa11 S.os.length oc11, .int .i64 S.c] 27)) wx.heap.size (stV S.p ra11 S.rs.length rc11 oa11 S.os.length oc11 S.c) S.p S.rs S.os S.c) := o11.below (below_alloc _ _)
          have N12 : Hid (BoxC (w11.alloc (.cells #[.int .i64 S.p, .slice ra11 S.rs.length rc11, .slice oa11 S.os.length oc11, .int .i64 S.c] 27)) w11.heap.size (.int .i64 S.p) (.slice ra11 S.rs.length rc11) (.slice oa11 S.os.length oc11) (.int .i64 S.c)) := BoxC.new w11 _ _ _ _ _
          have z11 : wx.heap.size ≤ w11.heap.size := b11.size
          have zX : wr.heap.size ≤ wx.heap.size := DX.out.tl.sz
          clear o11 b11 hSl c0 c1 c2 c3 e0 e1 e2 ef
          cases T
          case false =>
            go_wp2
            go_ret
            exact ⟨_, k, rfl, by omega, D12.out.ls, D12.out.cu, D12.out.gr⟩
          case true =>
            obtain ⟨⟨e0, e1, e2⟩, ef⟩ := E12.out
            go_wp2_with (at_builtin; refine append_stop rfl ?_)
            unfold STOP
            have zS : (w11.alloc (.cells #[.int .i64 S.p, .slice ra11 S.rs.length rc11, .slice oa11 S.os.length oc11, .int .i64 S.c] 27)).heap.size = w11.heap.size + 1 := by simp
            generalize w11.alloc (.cells #[.int .i64 S.p, .slice ra11 S.rs.length rc11, .slice oa11 S.os.length oc11, .int .i64 S.c] 27) = w12 at *
            have HZS : Hid (w12.heap.size = w11.heap.size + 1) := zS
            clear zS e0 e1 e2 ef
            refine append_evt w12 rfl _ _ rfl w.heap.size u5 k rfl D12.out.ls K P y (by simp [HZS.out, go_sem]) (by omega) (Nat.le_trans D12.out.tl.lo (Nat.le_of_lt (Nat.lt_of_lt_of_le D12.out.tl.hi D12.out.tl.sz))) ?_
            intro v' w13 l13 g13 a13
            have zB : Bs < w12.heap.size := Nat.lt_of_lt_of_le D12.out.tl.hi D12.out.tl.sz
            have yB := gcell g13 (b := Bs) zB (fun e => D12.out.nB e.symm)
            have yN := gcell g13 (b := w11.heap.size) (by rw [HZS.out]; exact Nat.lt_succ_self _) (fun e => by have := D12.out.oC _ e.symm; omega)
            obtain ⟨b0, b1, b2, b3⟩ := D12.out.tl.box
            obtain ⟨n0, n1, n2, n3⟩ := N12.out
            have s0 := (yB.1 0).trans b0
            have s1 := (yB.1 1).trans b1
            have s2 := (yB.1 2).trans b2
            have s3 := (yB.1 3).trans b3
            have sf := fun j => (yB.2 j).trans (D12.out.fz j)
            have t0 := (yN.1 0).trans n0
            have t1 := (yN.1 1).trans n1
            have t2 := (yN.1 2).trans n2
            have t3 := (yN.1 3).trans n3
            have L13 : Hid (LstE w13 w.heap.size v' (k + 1)) := l13
            have G13 : Hid (w12.grownBy w13 u5.ownBlock) := g13
            have A13 : Hid (∀ j, v'.ownBlock = some j → u5.ownBlock = some j ∨ w12.heap.size ≤ j) := a13
            clear yB yN b0 b1 b2 b3 n0 n1 n2 n3 l13 g13 a13
            go_wp2
            go_roundw
            case rel => exact ⟨k + 1, by omega, by go_num, _, _, _, _, _, _, _, _, (D12.out.next hcl hcg O12.out zX SL.out.1 SL.out.2 G13.out L13.out A13.out).widen⟩
            case measure => simp [intOf]; omega
    · have hkl : k = m := by omega
      go_wp2
      go_ret
      exact ⟨_, k, rfl, by omega, DR.out.ls, DR.out.cu, DR.out.gr⟩

end Go.Proofs.Ytmbmhpginegggaa

namespace Go.Proofs.Ytmbmhpginegggaa
open Go.RowKit Go.Deep

theorem LstE.cap {w : World} {B n g cap : Nat} (h : LstE w B (.slice (some ⟨g, 0, none⟩) n cap) n) : n ≤ cap ∧ cap ≤ maxLen := by
  obtain ⟨xs, ho, -, -⟩ := h
  rcases ho.2 with ⟨h0, _⟩ | ⟨g', cap', cur, e, _, _, h1, h2, _⟩
  · cases h0
  · simp only [Value.slice.injEq] at e
    obtain ⟨-, -, rfl⟩ := e
    exact ⟨h1, h2⟩
theorem Way.facts {w wr : World} {W0 c len cap g n gc : Nat} {a0 : Option Addr} (h : Way w wr W0 c len cap a0 g n gc) : w.heap.size ≤ g ∧ g < wr.heap.size ∧ ∃ G, InsAt wr g 0 n G := by
  refine ⟨h.1.own g rfl, ?_, h.1.at⟩
  obtain ⟨xs, ho, _⟩ := h.1
  exact (ho.lt g rfl).2
theorem grown_new' {w w1 w2 : World} {c : Nat} (h : w.grownBy w1 none) (k : w1.grownBy w2 (some c)) (hc : w.heap.size ≤ c) : w.grownBy w2 none :=
  h.andThen k (fun j hj => by cases hj; exact .inl hc)

set_option maxRecDepth 100000 in
set_option maxHeartbeats 4000000 in
theorem l3DrawOne_any (W0 len cap : Nat) (a0 : Option Addr) (w : World) (hB : BytesAt w W0 a0 len) (hW : W0 ≤ w.heap.size) (ln : len ≤ 1048576) :
    Calls Try.prog 53 #[.slice a0 len cap] w fun e w' => ∃ (v : Value) (k : Nat) (kd pr : Int), e = .returned (.tuple #[v, .int .i64 kd, .int .i64 pr]) ∧ k ≤ 25 ∧ LstE w' w.heap.size v k ∧ w.grownBy w' none := by
  have HB : Hid (BytesAt w W0 a0 len) := hB
  clear hB
  go_enter Try.func53, Try.ntmps53
  go_wp2_with fail
  refine (l1New_any W0 len cap a0 _ HB.out hW ln).mono ?_
  rintro e w1 ⟨rfl, hc1, hg1⟩
  have HC1 : Hid (Cur w1 W0 w.heap.size a0 len cap) := hc1
  have HG1 : Hid (w.grownBy w1 none) := hg1
  have hcl := hc1.lt
  clear hc1 hg1 HB
  go_wp2_with fail
  refine (l1DrawAny_any W0 w.heap.size len cap a0 _ HC1.out).mono ?_
  rintro e w2 ⟨g, n, gc, rfl, hn, hw2⟩
  obtain ⟨f1, f2, G, f3⟩ := hw2.facts
  have hs2 := hw2.2.2.size
  have HI2 : Hid (InsAt w2 g 0 n G) := f3
  have HC2 : Hid (Cur w2 W0 w.heap.size a0 len cap ∧ w.grownBy w2 none) := ⟨hw2.2.1, grown_new' HG1.out hw2.2.2 (Nat.le_refl _)⟩
  clear hw2 HC1 HG1 f3
  go_wp2_with fail
  refine (l3DrawEvents_any W0 w.heap.size len cap a0 g n gc G _ HC2.out.1 hn f2 (by omega) HI2.out).mono ?_
  rintro e w3 ⟨v, k, rfl, hk, l3, c3, g3⟩
  obtain ⟨eg, ec, rfl, hg1, hg2⟩ := l3.form
  have L3 : Hid (LstE w3 w.heap.size (.slice (some ⟨eg, 0, none⟩) k ec) k) := l3.mono (by omega)
  have HC3 : Hid (Cur w3 W0 w.heap.size a0 len cap ∧ w.grownBy w3 none) := ⟨c3, grown_new' HC2.out.2 g3 (Nat.le_refl _)⟩
  have neg : eg ≠ w.heap.size := by omega
  clear l3 c3 g3 HC2 HI2
  have tailK : (k : Int) ≤ 25 := by omega
  by_cases h0 : 0 < k
  · have h0' : (0 : Int) < (k : Int) := by omega
    go_wp2_with fail
    refine (l1Once_any W0 w.heap.size len cap a0 _ _ HC3.out.1 (by omega) (by omega)).mono ?_
    rintro e w4 ⟨t, rfl, c4, g4⟩
    have L4 : Hid (LstE w4 w.heap.size (.slice (some ⟨eg, 0, none⟩) k ec) k) := L3.out.kept g4 (fun j e => by cases e; simp [Value.ownBlock]; exact neg)
    have HC4 : Hid (Cur w4 W0 w.heap.size a0 len cap ∧ w.grownBy w4 none) := ⟨c4, grown_new' HC3.out.2 g4 (Nat.le_refl _)⟩
    clear c4 g4 HC3 L3
    cases t
    case true =>
      go_wp2_with fail
      refine (l1Below_any W0 w.heap.size len cap a0 _ _ HC4.out.1 (by omega) (by omega)).mono ?_
      rintro e w5 ⟨x, rfl, -, c5, g5⟩
      have L5 : Hid (LstE w5 w.heap.size (.slice (some ⟨eg, 0, none⟩) k ec) k) := L4.out.kept g5 (fun j e => by cases e; simp [Value.ownBlock]; exact neg)
      have HC5 : Hid (Cur w5 W0 w.heap.size a0 len cap ∧ w.grownBy w5 none) := ⟨c5, grown_new' HC4.out.2 g5 (Nat.le_refl _)⟩
      clear c5 g5 HC4 L4
      go_wp2_with fail
      refine (l1Below_any W0 w.heap.size len cap a0 _ _ HC5.out.1 (by omega) (by omega)).mono ?_
      rintro e w6 ⟨y, rfl, -, c6, g6⟩
      have L6 : Hid (LstE w6 w.heap.size (.slice (some ⟨eg, 0, none⟩) k ec) k) := L5.out.kept g6 (fun j e => by cases e; simp [Value.ownBlock]; exact neg)
      have HC6 : Hid (w.grownBy w6 none) := grown_new' HC5.out.2 g6 (Nat.le_refl _)
      clear c6 g6 HC5 L5
      go_wp2
      exact bodyPost_ret (v := .tuple #[.slice (some ⟨eg, 0, none⟩) k ec, .int .i64 x, .int .i64 y]) (by simp [results, Try.results53, go_sem]) rfl ⟨_, k, _, _, rfl, hk, L6.out, HC6.out⟩
    case false =>
      go_wp2_with fail
      refine (l1Below_any W0 w.heap.size len cap a0 _ _ HC4.out.1 (by omega) (by omega)).mono ?_
      rintro e w5 ⟨x, rfl, ⟨x0, x1⟩, c5, g5⟩
      obtain ⟨j, rfl⟩ : ∃ j : Nat, x = j := ⟨x.toNat, by omega⟩
      have L5 : Hid (LstE w5 w.heap.size (.slice (some ⟨eg, 0, none⟩) k ec) k) := L4.out.kept g5 (fun j e => by cases e; simp [Value.ownBlock]; exact neg)
      have HC5 : Hid (w.grownBy w5 none) := grown_new' HC4.out.2 g5 (Nat.le_refl _)
      obtain ⟨E, hE⟩ := L5.out.at
      obtain ⟨k0, k1, k2⟩ := hE j (by omega)
      rw [Nat.zero_add] at k0 k1 k2
      clear c5 g5 HC4 L4 hE x0
      go_wp2
      have q0 : (w5.alloc (.cells #[.int .i64 (E j).k, .int .i64 (E j).q, .int .i64 (E j).v] 29)).cell? ⟨w5.heap.size, 0, none⟩ = some (.int .i64 (E j).k) := new_cell _ _ _ 0 rfl
      have q1 : (w5.alloc (.cells #[.int .i64 (E j).k, .int .i64 (E j).q, .int .i64 (E j).v] 29)).cell? ⟨w5.heap.size, 1, none⟩ = some (.int .i64 (E j).q) := new_cell _ _ _ 1 rfl
      go_region
      go_wp2
      refine bodyPost_ret (v := .tuple #[.slice (some ⟨eg, 0, none⟩) k ec, .int .i64 (E j).k, .int .i64 (E j).q]) (by simp [results, Try.results53, go_sem]) rfl ⟨_, k, _, _, rfl, hk, ?_, ?_⟩
      · exact L5.out.below (by go_grown)
      · exact grown_of_below ((below_of_grown HC5.out).trans (Below.mono (by go_grown) HC5.out.size))
  · have h0' : ¬ (0 : Int) < (k : Int) := by omega
    go_wp2_with fail
    refine (l1Below_any W0 w.heap.size len cap a0 _ _ HC3.out.1 (by omega) (by omega)).mono ?_
    rintro e w5 ⟨x, rfl, -, c5, g5⟩
    have L5 : Hid (LstE w5 w.heap.size (.slice (some ⟨eg, 0, none⟩) k ec) k) := L3.out.kept g5 (fun j e => by cases e; simp [Value.ownBlock]; exact neg)
    have HC5 : Hid (Cur w5 W0 w.heap.size a0 len cap ∧ w.grownBy w5 none) := ⟨c5, grown_new' HC3.out.2 g5 (Nat.le_refl _)⟩
    clear c5 g5 HC3 L3
    go_wp2_with fail
    refine (l1Below_any W0 w.heap.size len cap a0 _ _ HC5.out.1 (by omega) (by omega)).mono ?_
    rintro e w6 ⟨y, rfl, -, c6, g6⟩
    have L6 : Hid (LstE w6 w.heap.size (.slice (some ⟨eg, 0, none⟩) k ec) k) := L5.out.kept g6 (fun j e => by cases e; simp [Value.ownBlock]; exact neg)
    have HC6 : Hid (w.grownBy w6 none) := grown_new' HC5.out.2 g6 (Nat.le_refl _)
    clear c6 g6 HC5 L5
    go_wp2
    exact bodyPost_ret (v := .tuple #[.slice (some ⟨eg, 0, none⟩) k ec, .int .i64 x, .int .i64 y]) (by simp [results, Try.results53, go_sem]) rfl ⟨_, k, _, _, rfl, hk, L6.out, HC6.out⟩

set_option maxRecDepth 100000 in
set_option maxHeartbeats 4000000 in
theorem DrawNth_any (W0 len cap : Nat) (a0 : Option Addr) (w : World) (hB : BytesAt w W0 a0 len) (hW : W0 ≤ w.heap.size) (ln : len ≤ 1048576) :
    Calls Try.prog 16 #[.slice a0 len cap] w fun e w' => ∃ (v : Value) (k : Nat) (kd pr n : Int), e = .returned (.tuple #[v, .int .i64 kd, .int .i64 pr, .int .i64 n]) ∧ k ≤ 25 ∧ LstE w' w.heap.size v k ∧ (-1 ≤ n ∧ n ≤ 3) ∧ w.grownBy w' none := by
  have HB : Hid (BytesAt w W0 a0 len) := hB
  clear hB
  go_enter Try.func16, Try.ntmps16
  go_wp2_with fail
  refine (l3DrawOne_any W0 len cap a0 _ HB.out hW ln).mono ?_
  rintro e w1 ⟨v, k, kd, pr, rfl, hk, l1, g1⟩
  obtain ⟨eg, ec, rfl, hg1, hg2⟩ := l1.form
  have L1 : Hid (LstE w1 w.heap.size (.slice (some ⟨eg, 0, none⟩) k ec) k) := l1
  have G1 : Hid (w.grownBy w1 none) := g1
  have HB1 : Hid (BytesAt w1 W0 a0 len) := HB.out.kept fun j hj => g1.block j (by omega) (by simp)
  have hs1 := g1.size
  clear l1 g1 HB
  go_wp2_with fail
  refine (l1New_any W0 len cap a0 _ HB1.out (by omega) ln).mono ?_
  rintro e w2 ⟨rfl, hc2, hg2'⟩
  have HC2 : Hid (Cur w2 W0 w1.heap.size a0 len cap ∧ w.grownBy w2 none) := ⟨hc2, G1.out.trans hg2'⟩
  have L2 : Hid (LstE w2 w.heap.size (.slice (some ⟨eg, 0, none⟩) k ec) k) := L1.out.kept hg2' (fun j e => by cases e)
  have neg : eg ≠ w1.heap.size := by omega
  clear hc2 hg2' HB1 G1 L1
  go_wp2_with fail
  refine (l1Below_any W0 w1.heap.size len cap a0 _ _ HC2.out.1 (by omega) (by omega)).mono ?_
  rintro e w3 ⟨x, rfl, ⟨x0, x1⟩, c3, g3⟩
  have L3 : Hid (LstE w3 w.heap.size (.slice (some ⟨eg, 0, none⟩) k ec) k) := L2.out.kept g3 (fun j e => by cases e; simp [Value.ownBlock]; exact neg)
  have HC3 : Hid (Cur w3 W0 w1.heap.size a0 len cap ∧ w.grownBy w3 none) := ⟨c3, grown_new' HC2.out.2 g3 hs1⟩
  clear c3 g3 HC2 L2
  go_wp2_with fail
  refine (l1Below_any W0 w1.heap.size len cap a0 _ _ HC3.out.1 (by omega) (by omega)).mono ?_
  rintro e w4 ⟨y, rfl, ⟨y0, y1⟩, c4, g4⟩
  have L4 : Hid (LstE w4 w.heap.size (.slice (some ⟨eg, 0, none⟩) k ec) k) := L3.out.kept g4 (fun j e => by cases e; simp [Value.ownBlock]; exact neg)
  have HC4 : Hid (w.grownBy w4 none) := grown_new' HC3.out.2 g4 hs1
  clear c4 g4 HC3 L3
  have yq : 0 ≤ y / 19 ∧ y / 19 ≤ 1 := by omega
  go_wp2
  exact bodyPost_ret (v := .tuple #[.slice (some ⟨eg, 0, none⟩) k ec, .int .i64 kd, .int .i64 pr, .int .i64 (x - y / 19)]) (by simp [results, Try.results16, go_sem]) rfl ⟨_, k, _, _, _, rfl, hk, L4.out, by omega, HC4.out⟩

end Go.Proofs.Ytmbmhpginegggaa

namespace Go.Proofs.Ytmbmhpginegggaa
open Go.ChangeShapes Go.WideShapes Go.ChangeAt Go.RowKit Go.Deep Go.Sort

set_option maxRecDepth 100000 in
set_option maxHeartbeats 1000000 in
theorem sameInts_same (a0 a1 : Option Addr) (c0 c1 : Nat) (xs : List Int) (w : World) (hlen : xs.length ≤ 1048576) (h0 : Sl w a0 xs) (h1 : Sl w a1 xs) :
    Calls Try.prog 19 #[.slice a0 xs.length c0, .slice a1 xs.length c1] w fun e w' => e = .returned (.bool true) ∧ Below w.heap.size w w' := by
  have hl' : (xs.length : Int) ≤ 1048576 := by omega
  have H0 : Hid (Sl w a0 xs) := h0
  have H1 : Hid (Sl w a1 xs) := h1
  clear h0 h1
  go_enter Try.func19, Try.ntmps19
  go_wp2_with fail
  go_loopw [5] (fun i wr => ∃ k : Nat, k ≤ xs.length ∧ i = .int .i64 k ∧ Below w.heap.size w wr) (fun i _ => xs.length - (intOf i).toNat)
  case atStart => exact ⟨0, Nat.zero_le _, rfl, Below.refl _ _⟩
  case round =>
    obtain ⟨k, hk, rfl, hbw⟩ := hrel
    by_cases hlt : k < xs.length
    · obtain ⟨b, off, rfl, hbl, ck⟩ := (H0.out.below hbw).at hlt
      obtain ⟨b', off', rfl, hbl', ck'⟩ := (H1.out.below hbw).at hlt
      have hlt' : (k : Int) < (xs.length : Int) := by omega
      go_wp2_with fail
      go_quiet (fail)
      go_wp2
      go_roundw
      case rel => exact ⟨k + 1, by omega, by go_num, below_drewN hbw _⟩
      case measure => simp [intOf]; omega
    · go_wp2
      go_ret
      exact ⟨rfl, hbw⟩

set_option maxHeartbeats 400000 in
theorem big_any (a0 : Option Addr) (len cap : Nat) (w : World) :
    Calls Try.prog 7 #[.slice a0 len cap] w fun e w' => e = .returned (.bool (decide ((1048576 : Int) < len))) ∧ w' = w := by
  go_enter Try.func7, Try.ntmps7
  go_wp2
  go_ret
  exact ⟨rfl, rfl⟩

/-- Bytes that came in: as many as an int can count, each in memory that was there. -/
theorem open_bytes {H : Type} {enc : TypeId × Value → H} {w : World} {a0 : Option Addr} {len cap : Nat} {d : DataW H} {p : List MemPlace}
    (h : DataW.Trod enc Try.prog w 0 (fun _ => true) true 22 (.slice a0 len cap) d p) : len ≤ maxLen ∧ BytesAt w w.heap.size a0 len := by
  obtain ⟨fuel, hf⟩ := h
  rcases open_ints Try.underlying22 Try.underlying5 (by kernel_rfl) hf with ⟨hcs, _⟩ | ⟨x, l, c, zs, hcs, _, hl, hm, hz, _, hcell, hwz⟩
  · simp [Value.cells] at hcs
    obtain ⟨_, rfl, _⟩ := hcs
    exact ⟨Nat.zero_le _, .inl rfl⟩
  · simp [Value.cells] at hcs
    obtain ⟨rfl, rfl, rfl⟩ := hcs
    refine ⟨Nat.le_trans hl hm, ?_⟩
    by_cases h0 : len = 0
    · exact .inl h0
    right
    have hz' : zs.length = cap := by simpa using hz
    obtain ⟨b, off, rfl, hc⟩ := ints_at hcell (by omega)
    refine ⟨b, off, rfl, cell_lt (hc 0 (by omega)), fun j hj => ⟨zs.getD j 0, hc j (by omega), ?_⟩⟩
    have hmem : zs.getD j 0 ∈ zs := by
      rw [List.getD_eq_getElem?_getD, List.getElem?_eq_getElem (by omega)]
      exact List.getElem_mem _
    exact bounds_u8 (hwz _ hmem)

theorem plN_hits (eh : Nat → E3) (kd pr : Int) : ∀ n, ∀ q ∈ plN eh kd pr n, hitB eh kd pr q = true
  | 0, q, h => by simp [plN] at h
  | n + 1, q, h => by
    unfold plN at h
    split at h
    · rename_i hh
      simp at h
      rcases h with h | h
      · exact plN_hits eh kd pr n q h
      · rw [h]; exact hh
    · exact plN_hits eh kd pr n q h
theorem plN_index (eh : Nat → E3) (kd pr : Int) : ∀ n m q, (plN eh kd pr n)[m]? = some q → (plN eh kd pr q).length = m
  | 0, m, q, h => by simp [plN] at h
  | n + 1, m, q, h => by
    unfold plN at h
    split at h
    · by_cases hm : m < (plN eh kd pr n).length
      · rw [List.getElem?_append_left hm] at h
        exact plN_index eh kd pr n m q h
      · rw [List.getElem?_append_right (by omega)] at h
        have h1 : m - (plN eh kd pr n).length = 0 := by
          apply Classical.byContradiction
          intro hn
          rw [List.getElem?_eq_none (by simp; omega)] at h
          cases h
        rw [h1] at h
        simp at h
        subst h
        omega
    · exact plN_index eh kd pr n m q h
theorem nthV_no {eh : Nat → E3} {kd pr : Int} {len : Nat} {n : Int} (h : belB n ((plI eh kd pr len).length : Nat) = false) : nthV eh kd pr len n = -1 := by
  unfold nthV
  rw [if_neg (by rw [h]; decide)]
/-- The place of number n is one of its kind, with its number, and behind n of them. -/
theorem nthV_yes {eh : Nat → E3} {kd pr : Int} {len m : Nat} (h : m < (plI eh kd pr len).length) : ∃ q : Nat, nthV eh kd pr len m = q ∧ q < len ∧ ((eh q).k == kd) = true ∧ ((eh q).q == pr) = true ∧ zi (valL eh kd pr len) m = (eh q).v ∧ (plN eh kd pr q).length = m := by
  obtain ⟨q, h1, h2, h3⟩ := plI_place eh kd pr len m h
  have hh := plN_hits eh kd pr len q (List.mem_of_getElem? h3)
  unfold hitB at hh
  simp only [Bool.and_eq_true] at hh
  refine ⟨q, ?_, h2, hh.1, hh.2, ?_, plN_index eh kd pr len m q h3⟩
  · unfold nthV
    rw [if_pos (by simp [belB]; omega), Int.toNat_natCast, h1]
  · unfold zi valL
    rw [List.getD_eq_getElem?_getD, List.getElem?_map, h3]
    rfl
theorem EvAt.take {w : World} {b off len q : Nat} {h : Nat → E3} (hh : EvAt w b off len h) (hq : q ≤ len) : EvAt w b off q h := fun i hi => hh i (by omega)

set_option maxRecDepth 100000 in
set_option maxHeartbeats 4000000 in
theorem counted_small (a0 : Option Addr) (len cap : Nat) (w : World) (hl : len ≤ 1048576) (hB : BytesAt w w.heap.size a0 len) :
    Calls Try.prog 4 #[.slice a0 len cap] w fun e w' => e = .returned (.bool true) ∧ Below w.heap.size w w' := by
  have hl' : ¬ (1048576 : Int) < (len : Int) := by omega
  have HB : Hid (BytesAt w w.heap.size a0 len) := hB
  clear hB
  go_enter Try.func4, Try.ntmps4
  go_wp2_with fail
  refine (big_any a0 len cap _).mono ?_
  rintro e w0 ⟨rfl, rfl⟩
  go_wp2_with fail
  refine (DrawNth_any w0.heap.size len cap a0 _ HB.out (Nat.le_refl _) hl).mono ?_
  rintro e w1 ⟨v, k, kd, pr, n, rfl, hk, l1, ⟨n0, n1⟩, g1⟩
  obtain ⟨eg, ec, rfl, hg1, hg2⟩ := l1.form
  obtain ⟨E, hE⟩ := l1.at
  obtain ⟨hec, hem⟩ := l1.cap
  have HE1 : Hid (EvAt w1 eg 0 k E) := hE
  have B1 : Hid (Below w0.heap.size w0 w1) := below_of_grown g1
  have hk' : k ≤ 1048576 := by omega
  clear l1 g1 hE HB
  go_wp2_with fail
  refine (implValues_any eg 0 k ec E kd pr _ hk' hg2 HE1.out).mono ?_
  rintro e w2 ⟨lv, rfl, o2, b2⟩
  have hXl := valL_length E kd pr k
  have hXp := plI_length E kd pr k
  have hXk := plN_le E kd pr k
  generalize hX : valL E kd pr k = X at o2 hXl
  have HX : Hid (valL E kd pr k = X ∧ X.length = (plN E kd pr k).length ∧ X.length ≤ 25) := ⟨hX, hXl, by omega⟩
  have hX1 : X.length ≤ 1048576 := by omega
  obtain ⟨al, cl, rfl, -⟩ := o2.form
  have O2 : Hid (OwnI w2 w1.heap.size (.slice al X.length cl) X) := o2
  have HE2 : Hid (EvAt w2 eg 0 k E) := HE1.out.below b2 hg2
  have z2 : eg < w2.heap.size := Nat.lt_of_lt_of_le hg2 b2.size
  have B2 : Hid (Below w0.heap.size w0 w2) := B1.out.trans (b2.mono B1.out.size)
  clear o2 b2 HE1 B1 hX hXl hXk
  have hcase : (nthV E kd pr k n = -1 ∧ (n < 0 ∨ (¬ n < 0 ∧ (X.length : Int) ≤ n))) ∨ ∃ m q : Nat, n = m ∧ (m : Int) < (X.length : Int) ∧ nthV E kd pr k n = q ∧ q < k ∧ ((E q).k == kd) = true ∧ ((E q).q == pr) = true ∧ zi X m = (E q).v ∧ (plN E kd pr q).length = m := by
    obtain ⟨x1, x2, -⟩ := HX.out
    rcases Bool.eq_false_or_eq_true (belB n ((plI E kd pr k).length : Nat)) with t | t
    · right
      have hn : 0 ≤ n ∧ n < ((plI E kd pr k).length : Int) := by simpa [belB] using t
      obtain ⟨m, rfl⟩ : ∃ m : Nat, n = m := ⟨n.toNat, by omega⟩
      obtain ⟨q, h1, h2, h3, h4, h5, h6⟩ := nthV_yes (eh := E) (kd := kd) (pr := pr) (len := k) (m := m) (by omega)
      rw [x1] at h5
      exact ⟨m, q, rfl, by omega, h1, h2, h3, h4, h5, h6⟩
    · left
      refine ⟨nthV_no t, ?_⟩
      simp [belB] at t
      by_cases hn : n < 0
      · exact .inl hn
      · exact .inr ⟨hn, by have := t (by omega); omega⟩
  clear hXp
  generalize hV : nthV E kd pr k n = V at hcase
  have HV : Hid (nthV E kd pr k n = V) := hV
  have HK : Hid ((V = -1 ∧ (n < 0 ∨ (¬ n < 0 ∧ (X.length : Int) ≤ n))) ∨ ∃ m q : Nat, n = m ∧ (m : Int) < (X.length : Int) ∧ V = q ∧ q < k ∧ ((E q).k == kd) = true ∧ ((E q).q == pr) = true ∧ zi X m = (E q).v ∧ (plN E kd pr q).length = m) := hcase
  clear hV hcase
  go_wp2_with fail
  refine (implNth_any eg 0 k ec E kd pr n _ hk' z2 HE2.out).mono ?_
  rintro e w3 ⟨he, b3⟩
  rw [HV.out] at he
  subst he
  have O3 : Hid (OwnI w3 w1.heap.size (.slice al X.length cl) X) := O2.out.below b3
  have HE3 : Hid (EvAt w3 eg 0 k E) := HE2.out.below b3 z2
  have z3 : eg < w3.heap.size := Nat.lt_of_lt_of_le z2 b3.size
  have B3 : Hid (Below w0.heap.size w0 w3) := B2.out.trans (b3.mono B2.out.size)
  clear O2 b3 HE2 B2
  go_wp2_with fail
  refine (specValues_any eg 0 k ec E kd pr _ hk' z3 HE3.out).mono ?_
  rintro e w4 ⟨sv, rfl, o4, b4⟩
  rw [HX.out.1] at o4
  obtain ⟨as4, cs4, rfl, s4⟩ := o4.form
  have S4' : Hid (Sl w4 as4 X) := s4
  have O4 : Hid (OwnI w4 w1.heap.size (.slice al X.length cl) X) := O3.out.below b4
  have HE4 : Hid (EvAt w4 eg 0 k E) := HE3.out.below b4 z3
  have z4 : eg < w4.heap.size := Nat.lt_of_lt_of_le z3 b4.size
  have B4 : Hid (Below w0.heap.size w0 w4) := B3.out.trans (b4.mono B3.out.size)
  clear O3 b4 HE3 B3 o4 s4
  go_wp2_with fail
  refine (sameInts_same al as4 cl cs4 X _ hX1 O4.out.slOf S4'.out).mono ?_
  rintro e w5 ⟨rfl, b5⟩
  have O5 : Hid (OwnI w5 w1.heap.size (.slice al X.length cl) X) := O4.out.below b5
  have HE5 : Hid (EvAt w5 eg 0 k E) := HE4.out.below b5 z4
  have z5 : eg < w5.heap.size := Nat.lt_of_lt_of_le z4 b5.size
  have B5 : Hid (Below w0.heap.size w0 w5) := B4.out.trans (b5.mono B4.out.size)
  clear O4 b5 HE4 B4 S4'
  go_wp2_with fail
  refine (specNth_any eg 0 k ec E kd pr n _ hk' z5 HE5.out (by omega) (by omega)).mono ?_
  rintro e w6 ⟨he, b6⟩
  rw [HV.out] at he
  subst he
  have O6 : Hid (OwnI w6 w1.heap.size (.slice al X.length cl) X) := O5.out.below b6
  have HE6 : Hid (EvAt w6 eg 0 k E) := HE5.out.below b6 z5
  have z6 : eg < w6.heap.size := Nat.lt_of_lt_of_le z5 b6.size
  have B6 : Hid (Below w0.heap.size w0 w6) := B5.out.trans (b6.mono B5.out.size)
  clear O5 b6 HE5 B5
  go_wp2_with fail
  refine (implCount_any eg 0 k ec E kd pr _ hk' z6 HE6.out).mono ?_
  rintro e w7 ⟨he, b7⟩
  rw [← HX.out.2.1] at he
  subst he
  have O7 : Hid (OwnI w7 w1.heap.size (.slice al X.length cl) X) := O6.out.below b7
  have HE7 : Hid (EvAt w7 eg 0 k E) := HE6.out.below b7 z6
  have z7 : eg < w7.heap.size := Nat.lt_of_lt_of_le z6 b7.size
  have B7 : Hid (Below w0.heap.size w0 w7) := B6.out.trans (b7.mono B6.out.size)
  clear O6 b7 HE6 B6
  rcases HK.out with ⟨rfl, hn | ⟨hn, hm⟩⟩ | ⟨m, q, rfl, hm, rfl, hq, t1, t2, hz, hp⟩
  · clear HK HV HX
    go_wp2
    go_ret
    exact ⟨rfl, B7.out⟩
  · clear HK HV HX
    go_wp2
    go_ret
    exact ⟨rfl, B7.out⟩
  · have hq' : (q : Int) < (k : Int) := by omega
    obtain ⟨c0, c1, c2⟩ := HE7.out q hq
    rw [Nat.zero_add] at c0 c1 c2
    obtain ⟨bx, ox, rfl, -, cx⟩ := O7.out.slOf.at (k := m) (by omega)
    rw [hz] at cx
    have HP : Hid ((plN E kd pr q).length = m) := hp
    have hqc : (q : Int) ≤ (ec : Int) := by omega
    clear HK HV HX hz hp
    have HQ : Hid (∀ d os', Below w7.heap.size w7 (grow (redrawn w7 d) os')) := fun d os' => below_regrown w7 d os'
    have HCt : Hid (∀ wx, Below w7.heap.size w7 wx → Calls Try.prog 22 #[.slice (some ⟨eg, 0, none⟩) q ec, .int .i64 kd, .int .i64 pr] wx fun e w' => e = .returned (.int .i64 (m : Nat)) ∧ Below wx.heap.size wx w') := fun wx hb => by
      have h := implCount_any eg 0 q ec E kd pr wx (by omega) (Nat.lt_of_lt_of_le z7 hb.size) ((HE7.out.take (by omega)).below hb z7)
      rw [HP.out] at h
      exact h
    go_wp2_with fail
    have c0' := cell_regrown c0
    have c1' := cell_regrown c1
    have c2' := cell_regrown c2
    have cx' := cell_regrown cx
    refine wp_region_quiet_below (by kernel_rfl) (by kernel_rfl) ?_
    repeat (quiet_step (first | (go_at_call 22; exact Calls.regrown_of (HCt.out _ (HQ.out _ _))) | fail))
    refine wpQuiet_nil ?_
    intro _ hw'
    obtain ⟨⟨dq, osq⟩, hw''⟩ := hw'
    subst hw''
    have B8 : Hid (Below w0.heap.size w0 (grow (redrawn w7 dq) osq)) := B7.out.trans ((below_regrown w7 dq osq).mono B7.out.size)
    generalize grow (redrawn w7 dq) osq = w8 at *
    clear c0' c1' c2' cx'
    go_wp2
    go_ret
    exact ⟨rfl, B8.out⟩

set_option maxHeartbeats 400000 in
theorem counted_big (a0 : Option Addr) (len cap : Nat) (w : World) (hl : 1048576 < len) :
    Calls Try.prog 4 #[.slice a0 len cap] w fun e w' => e = .returned (.bool true) ∧ Below w.heap.size w w' := by
  have hl' : (1048576 : Int) < (len : Int) := by omega
  go_enter Try.func4, Try.ntmps4
  go_wp2_with fail
  refine (big_any a0 len cap _).mono ?_
  rintro e w0 ⟨rfl, rfl⟩
  go_wp2
  go_ret
  exact ⟨rfl, Below.refl _ _⟩

end Go.Proofs.Ytmbmhpginegggaa

