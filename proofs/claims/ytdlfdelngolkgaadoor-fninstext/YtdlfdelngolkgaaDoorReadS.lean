/- The walk of the model's l1Words: the words of the line. -/
import Derived.Test.YtdlfdelngolkgaaDoorReadQ
namespace Go.Proofs.YtdlfdelngolkgaaDoor
open Go.RowKit

theorem infoStr : (Tryd.prog.info? 9).map (fun i => (i.zero, i.size, i.bytes)) = some (some (.string ⟨#[]⟩), 1, 16) := by kernel_rfl

/-- The slice v is these strings, in a block of its own from B on. -/
def Strs (w : World) (B : Nat) (v : Value) (ws : List ByteArray) : Prop := w.ownsRow B 9 1 v ws.length (ws.map Value.string)

/-- One string is appended to a list of the call's own. -/
theorem append_str {ops : Array Oper} {rest : List Oper} {op : Oper} {act : Act} {Q : Exit → Act → World → Prop} (w : World) (hgd : op.guard = none) (s x : Operand)
    (ho : op.op = .call { callee := .builtin .append, args := #[s, x], argTypes := #[43, 43] })
    (B : Nat) (v : Value) (ns : List ByteArray) (hs : act.eval s = v) (hl : Strs w B v ns) (k : ByteArray) (hx : act.eval x = .slice (some ⟨w.heap.size, 0, none⟩) 1 1) (hn : ns.length ≤ 2000000) (hB : B ≤ w.heap.size)
    (h : ∀ v' w', Strs w' B v' (ns ++ [k]) → (w.alloc (.cells #[.string k] 9)).grownBy w' v.ownBlock → wpList Tryd.prog ops Q rest (act.put op.dst v') w') :
    wpList Tryd.prog ops Q (op :: rest) act (w.alloc (.cells #[.string k] 9)) := by
  obtain ⟨i0, hi, hz0, hz1, hz2⟩ := info_parts infoStr
  refine wpList_append_own _ hgd s x 43 ho B 9 i0 (.string ⟨#[]⟩) 1 16 Tryd.underlying43 hi hz0 hz1 hz2 rfl (by decide) v ns.length (ns.map Value.string) hs (hl.alloc _) ⟨w.heap.size, 0, none⟩ 1 1
    [.string k] hx rfl (cell_one_new _ _ _) (fun u hu => ?_) (by unfold maxLen; omega) (by omega) (by simp; omega) ?_
  · simp at hu
    subst hu
    rfl
  · intro v' w' h1 h2 _
    refine h v' w' ?_ h2
    rw [Strs, List.length_append, List.map_append]
    exact h1

/-- The first k bytes are parted; the word under way begins at f. -/
structure Parted (s : ByteArray) (f k : Nat) (ws : List ByteArray) : Prop where
  le : f ≤ k
  len : ws.length ≤ f
  plain : (32 : UInt8) ∉ (s.data.toList.drop f).take (k - f)
  eq : wordsOf s.data.toList = ws.map (·.data.toList) ++ wordsOf (s.data.toList.drop f)

theorem Parted.zero (s : ByteArray) : Parted s 0 0 [] := ⟨Nat.le_refl _, Nat.le_refl _, by simp, by simp⟩
theorem Parted.on {s : ByteArray} {f k : Nat} {ws : List ByteArray} (h : Parted s f k ws) (hk : k < s.data.toList.length) (hb : s.data.toList[k] ≠ 32) : Parted s f (k + 1) ws := by
  refine ⟨Nat.le_succ_of_le h.le, h.len, ?_, h.eq⟩
  have hl := h.le
  rw [show k + 1 - f = (k - f) + 1 by omega, List.take_add_one, List.mem_append]
  rintro (hm | hm)
  · exact h.plain hm
  · rw [List.getElem?_drop, show f + (k - f) = k by omega, List.getElem?_eq_getElem hk] at hm
    simp at hm
    exact hb hm.symm
theorem Parted.cut {s : ByteArray} {f k : Nat} {ws : List ByteArray} (h : Parted s f k ws) (hk : k < s.data.toList.length) (hb : s.data.toList[k] = 32) : Parted s (k + 1) (k + 1) (ws ++ [s.extract f k]) := by
  have hl := h.le
  have hn := h.len
  refine ⟨Nat.le_refl _, by simp; omega, by simp, ?_⟩
  have e : s.data.toList.drop f = (s.data.toList.drop f).take (k - f) ++ 32 :: s.data.toList.drop (k + 1) := by
    rw [← hb, List.getElem_cons_drop hk]
    have := List.take_append_drop (k - f) (s.data.toList.drop f)
    rw [List.drop_drop, show f + (k - f) = k by omega] at this
    exact this.symm
  rw [h.eq, e, wordsOf_cut _ _ h.plain, List.map_append, List.append_assoc]
  congr 1
  rw [List.map_singleton, Lib.extract_data, List.take_drop, show f + (k - f) = k by omega]
  rfl
theorem Parted.done {s : ByteArray} {f : Nat} {ws : List ByteArray} (h : Parted s f s.data.toList.length ws) : ws ++ [s.extract f s.data.toList.length] = splitW s := by
  have hl := h.le
  have hp := h.plain
  have e : (s.data.toList.drop f).take (s.data.toList.length - f) = s.data.toList.drop f := List.take_of_length_le (by simp)
  rw [e] at hp
  have h2 := h.eq
  rw [wordsOf_plain _ hp, ← splitW_words] at h2
  have e2 : (ws ++ [s.extract f s.data.toList.length]).map (·.data.toList) = (splitW s).map (·.data.toList) := by
    rw [h2, List.map_append]
    congr 1
    rw [List.map_singleton, Lib.extract_data, e]
  exact List.map_inj_right (fun _ _ h => bytes_ext h) |>.1 e2

theorem byte_at (s : ByteArray) (k : Nat) (hk : k < s.size) : s.data.toList[k]'(by rw [← Lib.size_eq]; exact hk) = s[k] := by
  rw [Array.getElem_toList]
  rfl
theorem byte_yes {s : ByteArray} {k : Nat} (hk : k < s.size) (h : s.data.toList[k]'(by rw [← Lib.size_eq]; exact hk) = 32) : ((s[k].toNat : Int) == 32) = true := by
  rw [← byte_at s k hk, h]
  rfl
theorem byte_no {s : ByteArray} {k : Nat} (hk : k < s.size) (h : s.data.toList[k]'(by rw [← Lib.size_eq]; exact hk) ≠ 32) : ((s[k].toNat : Int) == 32) = false := by
  rw [← byte_at s k hk, beq_eq_false_iff_ne]
  intro e
  apply h
  apply UInt8.toNat_inj.1
  have e32 : (32 : UInt8).toNat = 32 := rfl
  omega

set_option maxRecDepth 100000 in
set_option maxHeartbeats 1000000 in
theorem l1Words_any (s : ByteArray) (w : World) (hs : s.size ≤ 1048576) :
    Calls Tryd.prog 30 #[.string s] w fun e w' => ∃ v, e = .returned v ∧ Strs w' w.heap.size v (splitW s) ∧ Below w.heap.size w w' := by
  have HLN : Hid (s.size = s.data.toList.length) := Lib.size_eq s
  have hs' : (s.size : Int) ≤ 1048576 := by omega
  go_enter Tryd.func30, Tryd.ntmps30
  go_wp2_with fail
  go_loopw [3, 4, 5] (fun l f i wr => ∃ (k p : Nat) (ws : List ByteArray), i = .int .i64 k ∧ f = .int .i64 p ∧ Hid (Strs wr w.heap.size l ws) ∧ Below w.heap.size w wr ∧ ((k ≤ s.size ∧ Parted s p k ws) ∨ (k = s.size + 1 ∧ ws = splitW s))) (fun _ _ i _ => s.size + 1 - (intOf i).toNat)
  case atStart => exact ⟨0, 0, [], rfl, rfl, World.ownsRow_lit w #[] 0 (Nat.le_refl _) (by unfold maxLen; omega) rfl, (Below.refl _ _).alloc (Nat.le_refl _) _, .inl ⟨Nat.zero_le _, Parted.zero s⟩⟩
  case round =>
    obtain ⟨k, p, ws, rfl, rfl, HL, hbw, hh⟩ := hrel
    have hsz := hbw.size
    rcases hh with ⟨hk, hp⟩ | ⟨hk, hp⟩
    · have hk' : (k : Int) ≤ (s.size : Int) := by omega
      have hpk : p ≤ k := hp.le
      have hpk' : (p : Int) ≤ (k : Int) := by omega
      have hwl : ws.length ≤ 2000000 := by have := hp.len; omega
      by_cases hkl : k < s.size
      · have hkl' : ((k : Int) == (s.size : Int)) = false := by simp; omega
        have hkl2 : ¬ (k : Int) = (s.size : Int) := by omega
        by_cases hb : s.data.toList[k]'(by rw [← HLN.out]; exact hkl) = 32
        · have t := byte_yes hkl hb
          have HP : Hid (Parted s (k + 1) (k + 1) (ws ++ [s.extract p k])) := hp.cut (by rw [← HLN.out]; exact hkl) hb
          clear hp hb
          go_wp2_with (at_builtin; refine append_str wr rfl _ _ rfl w.heap.size u3 ws rfl HL.out (s.extract p k) rfl hwl hsz ?_; intro v' w4 hl4 hg4; have HN4 : Hid (Strs w4 w.heap.size v' (ws ++ [s.extract p k])) := hl4; have hb4 : Below w.heap.size w w4 := Below.grown (hbw.alloc hsz _) hg4 (by simp; omega) (fun j hj => (HL.out.lt j hj).1); clear hl4 hg4)
          go_roundw
          case rel => exact ⟨k + 1, k + 1, ws ++ [s.extract p k], by go_num, by go_num, HN4, hb4, .inl ⟨by omega, HP.out⟩⟩
          case measure => simp [intOf]; omega
        · have t := byte_no hkl hb
          have HP : Hid (Parted s p (k + 1) ws) := hp.on (by rw [← HLN.out]; exact hkl) hb
          clear hp hb
          go_wp2
          go_roundw
          case rel => exact ⟨k + 1, p, ws, by go_num, rfl, HL, hbw, .inl ⟨by omega, HP.out⟩⟩
          case measure => simp [intOf]; omega
      · have HP : Hid (ws ++ [s.extract p s.size] = splitW s) := by
          have e : k = s.data.toList.length := by rw [← HLN.out]; omega
          rw [e] at hp
          rw [HLN.out]
          exact hp.done
        obtain rfl : k = s.size := by omega
        clear hp hk hk' hkl
        go_wp2_with (at_builtin; refine append_str wr rfl _ _ rfl w.heap.size u3 ws rfl HL.out (s.extract p s.size) rfl hwl hsz ?_; intro v' w4 hl4 hg4; have HN4 : Hid (Strs w4 w.heap.size v' (ws ++ [s.extract p s.size])) := hl4; have hb4 : Below w.heap.size w w4 := Below.grown (hbw.alloc hsz _) hg4 (by simp; omega) (fun j hj => (HL.out.lt j hj).1); clear hl4 hg4)
        go_roundw
        case rel => exact ⟨s.size + 1, s.size + 1, ws ++ [s.extract p s.size], by go_num, by go_num, HN4, hb4, .inr ⟨rfl, HP.out⟩⟩
        case measure => simp [intOf]
    · have hk' : ¬ (k : Int) ≤ (s.size : Int) := by omega
      have HP : Hid (Strs wr w.heap.size u3 (splitW s)) := by rw [← hp]; exact HL.out
      go_wp2
      go_ret
      exact ⟨_, rfl, HP.out, hbw⟩

end Go.Proofs.YtdlfdelngolkgaaDoor
