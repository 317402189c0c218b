/- The events of one kind with one peer: the walks of the model's Values, Count and Nth, and of the program's. -/
import Derived.Test.YtmbmhpginegggaaRpA
import Derived.Test.YtmbmhpginegggaaDoA
namespace Go.Proofs.Ytmbmhpginegggaa
open Go.RowKit Go.Deep

theorem append_one {ops : Array Oper} {rest : List Oper} {op : Oper} {act : Act} {Q : Exit → Act → World → Prop} (w : World) (hgd : op.guard = none) (s x : Operand)
    (ho : op.op = .call { callee := .builtin .append, args := #[s, x], argTypes := #[25, 25] })
    (B : Nat) (v : Value) (xs : List Int) (hs : act.eval s = v) (hv : OwnI w B v xs) (y : Int) (hx : act.eval x = .slice (some ⟨w.heap.size, 0, none⟩) 1 1) (hn : xs.length ≤ 1048576) (hB : B ≤ w.heap.size)
    (h : ∀ v' w', OwnI w' B v' (xs ++ [y]) → Below B w w' → wpList Try.prog ops Q rest (act.put op.dst v') w') :
    wpList Try.prog ops Q (op :: rest) act (w.alloc (.cells #[.int .i64 y] 3)) := by
  have hb : Below w.heap.size w (w.alloc (.cells #[.int .i64 y] 3)) := (Below.refl _ _).alloc (Nat.le_refl _) _
  refine wpList_append_ints _ hgd s x ho B 1 v (some ⟨w.heap.size, 0, none⟩) xs [y] hs hx (hv.below hb) (.inr ⟨w.heap.size, 0, rfl, by simp, fun i hi => ?_⟩) (by simp; omega) (by simp; omega) ?_
  · have : i = 0 := by simp at hi; omega
    subst this
    exact new_cell _ _ _ 0 rfl
  · intro v' w' o g _
    refine h v' w' o (Below.grown (hb.mono hB) g (by simp; omega) (fun k hk => (hv.lt k hk).1))

theorem append_oneN {ops : Array Oper} {rest : List Oper} {op : Oper} {act : Act} {Q : Exit → Act → World → Prop} (w : World) {N : Nat} (hN : N = w.heap.size) (hgd : op.guard = none) (s x : Operand)
    (ho : op.op = .call { callee := .builtin .append, args := #[s, x], argTypes := #[25, 25] })
    (B : Nat) (v : Value) (xs : List Int) (hs : act.eval s = v) (hv : OwnI w B v xs) (y : Int) (hx : act.eval x = .slice (some ⟨N, 0, none⟩) 1 1) (hn : xs.length ≤ 1048576) (hB : B ≤ w.heap.size)
    (h : ∀ v' w', OwnI w' B v' (xs ++ [y]) → Below B w w' → wpList Try.prog ops Q rest (act.put op.dst v') w') :
    wpList Try.prog ops Q (op :: rest) act (w.alloc (.cells #[.int .i64 y] 3)) := by
  subst hN
  exact append_one w hgd s x ho B v xs hs hv y hx hn hB h

theorem OwnI.to {w : World} {B : Nat} {v : Value} {xs ys : List Int} (h : OwnI w B v xs) (e : ys = xs) : OwnI w B v ys := e ▸ h

def hitB (eh : Nat → E3) (kd pr : Int) (i : Nat) : Bool := ((eh i).k == kd) && ((eh i).q == pr)
/-- The places of the events of this kind with this peer, among the first n. -/
def plN (eh : Nat → E3) (kd pr : Int) : Nat → List Nat
  | 0 => []
  | n + 1 => if hitB eh kd pr n = true then plN eh kd pr n ++ [n] else plN eh kd pr n
def valL (eh : Nat → E3) (kd pr : Int) (n : Nat) : List Int := (plN eh kd pr n).map fun i => (eh i).v
def plI (eh : Nat → E3) (kd pr : Int) (n : Nat) : List Int := (plN eh kd pr n).map fun i : Nat => (i : Int)
theorem plN_le (eh : Nat → E3) (kd pr : Int) : ∀ n, (plN eh kd pr n).length ≤ n
  | 0 => Nat.le_refl _
  | n + 1 => by
    unfold plN
    have := plN_le eh kd pr n
    split
    · simp; omega
    · omega
theorem valL_le (eh : Nat → E3) (kd pr : Int) (n : Nat) : (valL eh kd pr n).length ≤ n := by
  unfold valL
  rw [List.length_map]
  exact plN_le eh kd pr n
theorem plI_le (eh : Nat → E3) (kd pr : Int) (n : Nat) : (plI eh kd pr n).length ≤ n := by
  unfold plI
  rw [List.length_map]
  exact plN_le eh kd pr n
theorem valL_hit {eh : Nat → E3} {kd pr : Int} {n : Nat} (hh : hitB eh kd pr n = true) : valL eh kd pr (n + 1) = valL eh kd pr n ++ [(eh n).v] := by
  unfold valL
  rw [plN, if_pos hh, List.map_append]
  rfl
theorem valL_not {eh : Nat → E3} {kd pr : Int} {n : Nat} (hh : hitB eh kd pr n = false) : valL eh kd pr (n + 1) = valL eh kd pr n := by
  unfold valL
  rw [plN, if_neg (by rw [hh]; decide)]
theorem plI_hit {eh : Nat → E3} {kd pr : Int} {n : Nat} (hh : hitB eh kd pr n = true) : plI eh kd pr (n + 1) = plI eh kd pr n ++ [(n : Int)] := by
  unfold plI
  rw [plN, if_pos hh, List.map_append]
  rfl
theorem plI_not {eh : Nat → E3} {kd pr : Int} {n : Nat} (hh : hitB eh kd pr n = false) : plI eh kd pr (n + 1) = plI eh kd pr n := by
  unfold plI
  rw [plN, if_neg (by rw [hh]; decide)]

set_option maxRecDepth 100000 in
set_option maxHeartbeats 1000000 in
theorem specValues_any (b off len cap : Nat) (eh : Nat → E3) (kd pr : Int) (w : World) (hlen : len ≤ 1048576) (hb : b < w.heap.size) (hc : EvAt w b off len eh) :
    Calls Try.prog 20 #[.slice (some ⟨b, off, none⟩) len cap, .int .i64 kd, .int .i64 pr] w fun e w' => ∃ v, e = .returned v ∧ OwnI w' w.heap.size v (valL eh kd pr len) ∧ Below w.heap.size w w' := by
  have hl' : (len : Int) ≤ 1048576 := by omega
  have HC : Hid (EvAt w b off len eh) := hc
  clear hc
  go_enter Try.func20, Try.ntmps20
  go_wp2_with fail
  go_loopw [7, 8] (fun o i wr => ∃ k : Nat, k ≤ len ∧ i = .int .i64 k ∧ Hid (OwnI wr w.heap.size o (valL eh kd pr k)) ∧ Below w.heap.size w wr) (fun _ i _ => len - (intOf i).toNat)
  case atStart => exact ⟨0, Nat.zero_le _, rfl, own_empty w, (Below.refl _ _).alloc (Nat.le_refl _) _⟩
  case round =>
    obtain ⟨k, hk, rfl, HO, hbw⟩ := hrel
    have hs := hbw.size
    by_cases hlt : k < len
    · have hlt' : (k : Int) < (len : Int) := by omega
      have hvl := valL_le eh kd pr k
      obtain ⟨c0, c1, c2⟩ := HC.out.below hbw hb k hlt
      rcases Bool.eq_false_or_eq_true ((eh k).k == kd) with t1 | t1
      · rcases Bool.eq_false_or_eq_true ((eh k).q == pr) with t2 | t2
        · have HH : Hid (valL eh kd pr (k + 1) = valL eh kd pr k ++ [(eh k).v]) := valL_hit (by
            unfold hitB
            rw [t1, t2]
            rfl)
          go_wp2_with (at_builtin; refine append_one wr rfl _ _ rfl w.heap.size u7 (valL eh kd pr k) rfl HO.out (eh k).v rfl (by omega) hs ?_; intro v' w4 o4 b4; have H4 : Hid (OwnI w4 w.heap.size v' (valL eh kd pr (k + 1))) := o4.to HH.out; clear o4)
          go_roundw
          case rel => exact ⟨k + 1, by omega, by go_num, H4.out, hbw.trans b4⟩
          case measure => simp [intOf]; omega
        · have HH : Hid (valL eh kd pr (k + 1) = valL eh kd pr k) := valL_not (by
            unfold hitB
            rw [t1, t2]
            rfl)
          go_wp2
          go_roundw
          case rel => exact ⟨k + 1, by omega, by go_num, HO.out.to HH.out, hbw⟩
          case measure => simp [intOf]; omega
      · have HH : Hid (valL eh kd pr (k + 1) = valL eh kd pr k) := valL_not (by
          unfold hitB
          rw [t1]
          rfl)
        go_wp2
        go_roundw
        case rel => exact ⟨k + 1, by omega, by go_num, HO.out.to HH.out, hbw⟩
        case measure => simp [intOf]; omega
    · have hkl : k = len := by omega
      have H4 : Hid (OwnI wr w.heap.size u7 (valL eh kd pr len)) := by
        have := HO.out
        rw [hkl] at this
        exact this
      clear HO hkl
      go_wp2
      go_ret
      exact ⟨_, rfl, H4.out, hbw⟩

set_option maxRecDepth 100000 in
set_option maxHeartbeats 1000000 in
theorem placesOf_any (b off len cap : Nat) (eh : Nat → E3) (kd pr : Int) (w : World) (hlen : len ≤ 1048576) (hb : b < w.heap.size) (hc : EvAt w b off len eh) :
    Calls Try.prog 54 #[.slice (some ⟨b, off, none⟩) len cap, .int .i64 kd, .int .i64 pr] w fun e w' => ∃ v, e = .returned v ∧ OwnI w' w.heap.size v (plI eh kd pr len) ∧ Below w.heap.size w w' := by
  have hl' : (len : Int) ≤ 1048576 := by omega
  have HC : Hid (EvAt w b off len eh) := hc
  clear hc
  go_enter Try.func54, Try.ntmps54
  go_wp2_with fail
  go_loopw [7, 13] (fun o i wr => ∃ k : Nat, k ≤ len ∧ i = .int .i64 k ∧ Hid (OwnI wr w.heap.size o (plI eh kd pr k)) ∧ Below w.heap.size w wr) (fun _ i _ => len - (intOf i).toNat)
  case atStart => exact ⟨0, Nat.zero_le _, rfl, own_empty w, (Below.refl _ _).alloc (Nat.le_refl _) _⟩
  case round =>
    obtain ⟨k, hk, rfl, HO, hbw⟩ := hrel
    have hs := hbw.size
    by_cases hlt : k < len
    · have hlt' : (k : Int) < (len : Int) := by omega
      have hvl := plI_le eh kd pr k
      obtain ⟨c0, c1, c2⟩ := HC.out.below hbw hb k hlt
      rcases Bool.eq_false_or_eq_true ((eh k).k == kd) with t1 | t1
      · rcases Bool.eq_false_or_eq_true ((eh k).q == pr) with t2 | t2
        · have HH : Hid (plI eh kd pr (k + 1) = plI eh kd pr k ++ [(k : Int)]) := plI_hit (by
            unfold hitB
            rw [t1, t2]
            rfl)
          go_wp2_with (at_builtin; refine append_oneN _ (N := wr.heap.size + 1) (by simp) rfl _ _ rfl w.heap.size u7 (plI eh kd pr k) rfl (HO.out.below (by go_grown)) k rfl (by omega) (by simp; omega) ?_; intro v' w4 o4 b4; have H4 : Hid (OwnI w4 w.heap.size v' (plI eh kd pr (k + 1))) := o4.to HH.out; clear o4)
          go_roundw
          case rel => exact ⟨k + 1, by omega, by go_num, H4.out, Below.trans (by go_grown) b4⟩
          case measure => simp [intOf]; omega
        · have HH : Hid (plI eh kd pr (k + 1) = plI eh kd pr k) := plI_not (by
            unfold hitB
            rw [t1, t2]
            rfl)
          go_wp2
          go_roundw
          case rel => exact ⟨k + 1, by omega, by go_num, (HO.out.below (by go_grown)).to HH.out, by go_grown⟩
          case measure => simp [intOf]; omega
      · have HH : Hid (plI eh kd pr (k + 1) = plI eh kd pr k) := plI_not (by
          unfold hitB
          rw [t1]
          rfl)
        go_wp2
        go_roundw
        case rel => exact ⟨k + 1, by omega, by go_num, (HO.out.below (by go_grown)).to HH.out, by go_grown⟩
        case measure => simp [intOf]; omega
    · have hkl : k = len := by omega
      have H4 : Hid (OwnI wr w.heap.size u7 (plI eh kd pr len)) := by
        have := HO.out
        rw [hkl] at this
        exact this
      clear HO hkl
      go_wp2
      go_ret
      exact ⟨_, rfl, H4.out, hbw⟩

end Go.Proofs.Ytmbmhpginegggaa
