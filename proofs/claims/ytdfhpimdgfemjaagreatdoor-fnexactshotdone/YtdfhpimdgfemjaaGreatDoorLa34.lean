/- The walk of the model's l4Order. -/
import Derived.Test.YtdfhpimdgfemjaaGreatDoorLa27
import Derived.Test.YtdfhpimdgfemjaaGreatDoorLa24
import Derived.Test.YtdfhpimdgfemjaaGreatDoorLa23
import Derived.Test.YtdfhpimdgfemjaaGreatDoorLa33
import Derived.Test.YtdfhpimdgfemjaaGreatDoorLa22
import Derived.LaidEql
import Derived.Stop.Asserts
import Derived.RowKitTokens
import Derived.Test.YtdfhpimdgfemjaaGreatDoorLa28
namespace Go.Proofs.YtdfhpimdgfemjaaGreatDoor
open Go.ChangeShapes Go.WideShapes Go.ChangeAt Go.RowKit Go.Deep

/-- What a system holds. -/
structure Sy where
  pn : Nat
  pL : Nat → Nat
  pH : Nat → Nat → I5
  sn : Nat
  sS : Nat → S4
  wn : Nat
  wL : Nat → Nat
  wH : Nat → Nat → I2
  hn : Nat
  hL : Nat → Nat
  hH : Nat → Nat → E3
def SysIn.y (x : SysIn) : Sy := ⟨x.pn, x.pL, x.pH, x.sn, x.sS, x.wn, x.wL, x.wH, x.hn, x.hL, x.hH⟩
def Sy.hs (y : Sy) : Hs := ⟨y.pn, y.hL, y.hH⟩
def itemB (x : I2) : Bool := numB x.v && (!x.m || x.v == 0)
/-- A way is right, by what was taken and what was sent. -/
structure WayP (h : Nat → I2) (len : Nat) (took sent : List Int) : Prop where
  it : ∀ i, i < len → itemB (h i) = true
  le : len ≤ 12
  eq : took ++ numL h len = sent
structure Sy.Ok (y : Sy) : Prop where
  cn : (1 ≤ y.pn ∧ y.pn ≤ 4) ∧ y.sn = y.pn ∧ y.hn = y.pn ∧ y.wn = y.pn * y.pn
  pr : ∀ p, p < y.pn → progOkB (y.pH p) (y.pL p) y.pn = true
  rp : ∀ p, p < y.pn → repO (y.pH p) (y.pL p) (y.hH p) (y.hL p) = some (y.sS p)
  pe : ∀ p, p < y.pn → ∀ i, i < y.hL p → (y.hH p i).q < (y.pn : Int)
  wa : ∀ a, a < y.pn → ∀ b, b < y.pn → WayP (y.wH (a * y.pn + b)) (y.wL (a * y.pn + b)) (valL (y.hH b) 3 a (y.hL b)) (valL (y.hH a) 2 b (y.hL a))
  ro : y.hs.Row
noncomputable def Sy.okB (y : Sy) : Bool := @decide y.Ok (Classical.propDecidable _)
theorem Sy.okB_true {y : Sy} (h : y.Ok) : y.okB = true := by simp [Sy.okB, h]
theorem Sy.okB_false {y : Sy} (h : ¬ y.Ok) : y.okB = false := by simp [Sy.okB, h]
theorem Sy.ok_of {y : Sy} (h : y.okB = true) : y.Ok := by simpa [Sy.okB] using h

theorem evP_pos {g : Nat → I5} {len : Nat} {k : Nat} (h : progOkB g len 4 = true) (hk : k < len) : 0 ≤ evP (g k).o (g k).n := by
  have h5 := right_ins h hk
  simp only [insOkB, Bool.and_eq_true] at h5
  have h6 := h5.2
  unfold evP
  by_cases e6 : (g k).o = 6
  · rw [if_pos e6]
    simp [opOkB, e6, inB] at h6
    omega
  · rw [if_neg e6]
    by_cases e7 : (g k).o = 7
    · rw [if_pos e7]
      simp [opOkB, e7, inB] at h6
      omega
    · rw [if_neg e7]
      exact Int.le_refl _
theorem doB_peer {g : Nat → I5} {len : Nat} {p : Int} {rs os : List Int} {code k q v : Int} (h : doB g len p rs os code k q v = true) : 0 ≤ q := by
  have hr := doB_right h
  obtain ⟨h1, h2, -⟩ := right_parts hr
  obtain ⟨-, ⟨j, rfl, hj⟩, -⟩ := st_parts h2
  have hp := evP_pos h1 hj
  simp only [doB, canB, nxP, if_pos hr, Int.toNat_natCast] at h
  split at h
  · simp only [Bool.and_eq_true] at h
    have h3 := h.2
    split at h3
    · simp only [belB, decide_eq_true_eq] at h3
      omega
    · simp only [beq_iff_eq] at h3
      omega
  · simp only [Bool.and_eq_true, beq_iff_eq] at h
    have := h.2.2.1
    omega
theorem rp_peer {g : Nat → I5} {len : Nat} {eh : Nat → E3} : ∀ {k : Nat} {S : S4}, rp g len eh k = some S → ∀ i, i < k → 0 ≤ (eh i).q
  | 0, _, _, i, hi => by omega
  | k + 1, S, h, i, hi => by
    simp only [rp] at h
    cases hr : rp g len eh k with
    | none => rw [hr] at h; cases h
    | some S0 =>
      rw [hr] at h
      simp only [Option.bind_some, rpStep] at h
      split at h
      · rename_i hd
        by_cases e : i = k
        · subst e
          exact doB_peer hd
        · exact rp_peer hr i (by omega)
      · cases h
theorem repO_some {g : Nat → I5} {n : Nat} {eh : Nat → E3} {m : Nat} {S : S4} (h : repO g n eh m = some S) : progOkB g n 4 = true ∧ m ≤ 200 ∧ rp g n eh m = some S := by
  unfold repO at h
  split at h
  · rename_i hc
    exact ⟨hc.1, hc.2, h⟩
  · cases h

/-- How a system lies in memory, whoever has made it. -/
structure SysG (W : World) (x : SysIn) : Prop where
  p : RowS W x.pa x.pn fun i => .slice (x.pA i) (x.pL i) (x.pC i)
  pi : ∀ i, i < x.pn → ∃ b, x.pA i = some ⟨b, 0, none⟩ ∧ b < W.heap.size ∧ InsAt W b 0 (x.pL i) (x.pH i)
  s : AllState W x.sa x.sn x.sQ
  w : RowS W x.wa x.wn fun i => .slice (x.wA i) (x.wL i) (x.wC i)
  wi : ∀ i, i < x.wn → ItL W (x.wA i) (x.wL i) (x.wH i)
  h : RowS W x.ha x.hn fun i => .slice (x.hA i) (x.hL i) (x.hC i)
  hi : ∀ i, i < x.hn → EvL W (x.hA i) (x.hL i) (x.hH i)
theorem SysG.below {w w' : World} {x : SysIn} (o : SysG w x) (hb : Below w.heap.size w w') : SysG w' x :=
  ⟨o.p.below hb, fun i hi => by
    obtain ⟨b, e, hlt, hI⟩ := o.pi i hi
    exact ⟨b, e, Nat.lt_of_lt_of_le hlt hb.size, hI.below hb hlt⟩, o.s.below hb, o.w.below hb, fun i hi => (o.wi i hi).below hb, o.h.below hb, fun i hi => (o.hi i hi).below hb⟩
/-- No list is longer than all that is held to be small. -/
structure SysIn.Len (x : SysIn) : Prop where
  p : x.pn ≤ 1048576 ∧ ∀ i, i < x.pn → x.pL i ≤ 1048576
  s : x.sn ≤ 1048576 ∧ ∀ i, i < x.sn → (x.sQ i).rs.length ≤ 1048576 ∧ (x.sQ i).os.length ≤ 1048576
  w : x.wn ≤ 1048576 ∧ ∀ i, i < x.wn → x.wL i ≤ 1048576
  h : x.hn ≤ 1048576 ∧ ∀ i, i < x.hn → x.hL i ≤ 1048576
abbrev SysIn.v (x : SysIn) : Value := sysV x.pa x.pn x.pc x.sa x.sn x.sc x.wa x.wn x.wc x.ha x.hn x.hc

theorem IsSys.g {w : World} {lo hi : Nat} {x : SysIn} {v : Value} (o : IsSys w lo hi x v) : ∃ x' : SysIn, v = x'.v ∧ SysG w x' ∧ x'.y = x.y := by
  obtain ⟨D1, D2, D3, D4, b1, vs, b3, b4, h1, h2, h3, o⟩ := o
  obtain ⟨q1, q2, q3, q4, -⟩ := o.hi
  have hst : ∀ i, i < x.sn → ∃ t : Option Addr × Nat × Option Addr × Nat, vs i = stV (x.sS i).p t.1 (x.sS i).rs.length t.2.1 t.2.2.1 (x.sS i).os.length t.2.2.2 (x.sS i).c ∧ w.cell? ⟨D2, i * 4, none⟩ = some (.int .i64 (x.sS i).p) ∧ w.cell? ⟨D2, i * 4 + 1, none⟩ = some (.slice t.1 (x.sS i).rs.length t.2.1) ∧ w.cell? ⟨D2, i * 4 + 2, none⟩ = some (.slice t.2.2.1 (x.sS i).os.length t.2.2.2) ∧ w.cell? ⟨D2, i * 4 + 3, none⟩ = some (.int .i64 (x.sS i).c) := by
    intro i hi
    obtain ⟨ra, rc, oa, oc, e, c0, c1, c2, c3⟩ := o.ss.cel i hi
    exact ⟨(ra, rc, oa, oc), e, c0, c1, c2, c3⟩
  have inh : Inhabited (Option Addr × Nat × Option Addr × Nat) := ⟨(none, 0, none, 0)⟩
  obtain ⟨t, ht⟩ := Go.Deep.choose_lt hst
  refine ⟨⟨some ⟨D1, 0, none⟩, x.pn, x.pn, fun i => some ⟨b1 i, 0, none⟩, x.pL, x.pL, x.pH, some ⟨D2, 0, none⟩, x.sn, x.sn, fun i => ⟨(x.sS i).p, (t i).1, (t i).2.1, (x.sS i).rs, (t i).2.2.1, (t i).2.2.2, (x.sS i).os, (x.sS i).c⟩, some ⟨D3, 0, none⟩, x.wn, x.wn, fun i => some ⟨b3 i, 0, none⟩, x.wL, x.wL, x.wH, some ⟨D4, 0, none⟩, x.hn, x.hn, fun i => some ⟨b4 i, 0, none⟩, x.hL, x.hL, x.hH⟩, o.val, ?_, rfl⟩
  have l1 := o.pp.lt
  have l2 := o.ss.lt
  have l3 := o.ww.lt
  have l4 := o.hh.lt
  refine ⟨.inr ⟨D1, 0, rfl, by omega, fun i hi => ?_⟩, fun i hi => ⟨b1 i, rfl, Nat.lt_of_lt_of_le (o.pp.bd i hi).2 o.pp.le, o.pp.row i hi⟩, ⟨.inr ⟨D2, 0, rfl, by omega, fun i hi => ?_⟩, fun i hi => ?_⟩, .inr ⟨D3, 0, rfl, by omega, fun i hi => ?_⟩, fun i hi => .inr ⟨b3 i, 0, rfl, Nat.lt_of_lt_of_le (o.ww.bd i hi).2 o.ww.le, o.ww.row i hi⟩, .inr ⟨D4, 0, rfl, by omega, fun i hi => ?_⟩, fun i hi => .inr ⟨b4 i, 0, rfl, Nat.lt_of_lt_of_le (o.hh.bd i hi).2 o.hh.le, o.hh.row i hi⟩⟩
  · have := o.pp.cel i hi
    simpa using this
  · have := (ht i hi).2
    simpa using this
  · have h4 := o.ss.own i hi
    rw [(ht i hi).1] at h4
    exact ⟨h4.parts.1.slOf, h4.parts.2.1.slOf⟩
  · have := o.ww.cel i hi
    simpa using this
  · have := o.hh.cel i hi
    simpa using this

end Go.Proofs.YtdfhpimdgfemjaaGreatDoor

namespace Go.Proofs.YtdfhpimdgfemjaaGreatDoor
open Go.RowKit Go.Deep

set_option maxRecDepth 100000 in
set_option maxHeartbeats 1000000 in
theorem specValues_l (ea : Option Addr) (len cap : Nat) (eh : Nat → E3) (kd pr : Int) (w : World) (hlen : len ≤ 1048576) (hc : EvL w ea len eh) :
    Calls Tryz.prog 89 #[.slice ea len cap, .int .i64 kd, .int .i64 pr] w fun e w' => ∃ v, e = .returned v ∧ OwnI w' w.heap.size v (valL eh kd pr len) ∧ Below w.heap.size w w' := by
  have hl' : (len : Int) ≤ 1048576 := by omega
  have HC : Hid (EvL w ea len eh) := hc
  clear hc
  go_enter Tryz.func89, Tryz.ntmps89
  go_wp2_with fail
  go_loopw [7, 8] (fun o i wr => ∃ k : Nat, k ≤ len ∧ i = .int .i64 k ∧ Hid (OwnI wr w.heap.size o (valL eh kd pr k)) ∧ Below w.heap.size w wr) (fun _ i _ => len - (intOf i).toNat)
  case atStart => exact ⟨0, Nat.zero_le _, rfl, own_empty w, (Below.refl _ _).alloc (Nat.le_refl _) _⟩
  case round =>
    obtain ⟨k, hk, rfl, HO, hbw⟩ := hrel
    have hs := hbw.size
    by_cases hlt : k < len
    · have hlt' : (k : Int) < (len : Int) := by omega
      have hvl := valL_le eh kd pr k
      obtain ⟨b, off, rfl, -, c0, c1, c2⟩ := (HC.out.below hbw).at hlt
      rcases Bool.eq_false_or_eq_true ((eh k).k == kd) with t1 | t1
      · rcases Bool.eq_false_or_eq_true ((eh k).q == pr) with t2 | t2
        · have HH : Hid (valL eh kd pr (k + 1) = valL eh kd pr k ++ [(eh k).v]) := valL_hit (by
            unfold hitB
            rw [t1, t2]
            rfl)
          go_wp2_with (at_builtin; refine append_one wr rfl _ _ rfl w.heap.size u7 (valL eh kd pr k) rfl HO.out (eh k).v rfl (by omega) hs ?_; intro v' w4 o4 b4; have H4 : Hid (OwnI w4 w.heap.size v' (valL eh kd pr (k + 1))) := o4.to HH.out; clear o4)
          go_roundw
          case rel => exact ⟨k + 1, by omega, by go_num, H4.out, hbw.trans b4⟩
          case measure => simp [intOf]; omega
        · have HH : Hid (valL eh kd pr (k + 1) = valL eh kd pr k) := valL_not (by
            unfold hitB
            rw [t1, t2]
            rfl)
          go_wp2
          go_roundw
          case rel => exact ⟨k + 1, by omega, by go_num, HO.out.to HH.out, hbw⟩
          case measure => simp [intOf]; omega
      · have HH : Hid (valL eh kd pr (k + 1) = valL eh kd pr k) := valL_not (by
          unfold hitB
          rw [t1]
          rfl)
        go_wp2
        go_roundw
        case rel => exact ⟨k + 1, by omega, by go_num, HO.out.to HH.out, hbw⟩
        case measure => simp [intOf]; omega
    · have hkl : k = len := by omega
      have H4 : Hid (OwnI wr w.heap.size u7 (valL eh kd pr len)) := by
        have := HO.out
        rw [hkl] at this
        exact this
      clear HO hkl
      go_wp2
      go_ret
      exact ⟨_, rfl, H4.out, hbw⟩

set_option maxRecDepth 100000 in
set_option maxHeartbeats 1000000 in
theorem placesOf_l (ea : Option Addr) (len cap : Nat) (eh : Nat → E3) (kd pr : Int) (w : World) (hlen : len ≤ 1048576) (hc : EvL w ea len eh) :
    Calls Tryz.prog 252 #[.slice ea len cap, .int .i64 kd, .int .i64 pr] w fun e w' => ∃ v, e = .returned v ∧ OwnI w' w.heap.size v (plI eh kd pr len) ∧ Below w.heap.size w w' := by
  have hl' : (len : Int) ≤ 1048576 := by omega
  have HC : Hid (EvL w ea len eh) := hc
  clear hc
  go_enter Tryz.func252, Tryz.ntmps252
  go_wp2_with fail
  go_loopw [7, 13] (fun o i wr => ∃ k : Nat, k ≤ len ∧ i = .int .i64 k ∧ Hid (OwnI wr w.heap.size o (plI eh kd pr k)) ∧ Below w.heap.size w wr) (fun _ i _ => len - (intOf i).toNat)
  case atStart => exact ⟨0, Nat.zero_le _, rfl, own_empty w, (Below.refl _ _).alloc (Nat.le_refl _) _⟩
  case round =>
    obtain ⟨k, hk, rfl, HO, hbw⟩ := hrel
    have hs := hbw.size
    by_cases hlt : k < len
    · have hlt' : (k : Int) < (len : Int) := by omega
      have hvl := plI_le eh kd pr k
      obtain ⟨b, off, rfl, -, c0, c1, c2⟩ := (HC.out.below hbw).at hlt
      rcases Bool.eq_false_or_eq_true ((eh k).k == kd) with t1 | t1
      · rcases Bool.eq_false_or_eq_true ((eh k).q == pr) with t2 | t2
        · have HH : Hid (plI eh kd pr (k + 1) = plI eh kd pr k ++ [(k : Int)]) := plI_hit (by
            unfold hitB
            rw [t1, t2]
            rfl)
          go_wp2_with (at_builtin; refine append_oneN _ (N := wr.heap.size + 1) (by simp) rfl _ _ rfl w.heap.size u7 (plI eh kd pr k) rfl (HO.out.below (by go_grown)) k rfl (by omega) (by simp; omega) ?_; intro v' w4 o4 b4; have H4 : Hid (OwnI w4 w.heap.size v' (plI eh kd pr (k + 1))) := o4.to HH.out; clear o4)
          go_roundw
          case rel => exact ⟨k + 1, by omega, by go_num, H4.out, Below.trans (by go_grown) b4⟩
          case measure => simp [intOf]; omega
        · have HH : Hid (plI eh kd pr (k + 1) = plI eh kd pr k) := plI_not (by
            unfold hitB
            rw [t1, t2]
            rfl)
          go_wp2
          go_roundw
          case rel => exact ⟨k + 1, by omega, by go_num, (HO.out.below (by go_grown)).to HH.out, by go_grown⟩
          case measure => simp [intOf]; omega
      · have HH : Hid (plI eh kd pr (k + 1) = plI eh kd pr k) := plI_not (by
          unfold hitB
          rw [t1]
          rfl)
        go_wp2
        go_roundw
        case rel => exact ⟨k + 1, by omega, by go_num, (HO.out.below (by go_grown)).to HH.out, by go_grown⟩
        case measure => simp [intOf]; omega
    · have hkl : k = len := by omega
      have H4 : Hid (OwnI wr w.heap.size u7 (plI eh kd pr len)) := by
        have := HO.out
        rw [hkl] at this
        exact this
      clear HO hkl
      go_wp2
      go_ret
      exact ⟨_, rfl, H4.out, hbw⟩

set_option maxRecDepth 100000 in
set_option maxHeartbeats 1000000 in
theorem specCount_l (ea : Option Addr) (len cap : Nat) (eh : Nat → E3) (kd pr : Int) (w : World) (hlen : len ≤ 1048576) (hc : EvL w ea len eh) :
    Calls Tryz.prog 164 #[.slice ea len cap, .int .i64 kd, .int .i64 pr] w fun e w' => e = .returned (.int .i64 ((plN eh kd pr len).length : Nat)) ∧ Below w.heap.size w w' := by
  have HC : Hid (EvL w ea len eh) := hc
  clear hc
  go_enter Tryz.func164, Tryz.ntmps164
  go_wp2_with fail
  refine (specValues_l ea len cap eh kd pr w hlen HC.out).mono ?_
  rintro e w1 ⟨v, rfl, o1, b1⟩
  obtain ⟨a0, cp, rfl, -⟩ := o1.form
  rw [valL_length]
  go_wp2
  go_ret
  exact ⟨rfl, b1⟩

set_option maxRecDepth 100000 in
set_option maxHeartbeats 1000000 in
theorem implValues_l (ea : Option Addr) (len cap : Nat) (eh : Nat → E3) (kd pr : Int) (w : World) (hlen : len ≤ 1048576) (hc : EvL w ea len eh) :
    Calls Tryz.prog 218 #[.slice ea len cap, .int .i64 kd, .int .i64 pr] w fun e w' => ∃ v, e = .returned v ∧ OwnI w' w.heap.size v (valL eh kd pr len) ∧ Below w.heap.size w w' := by
  have hl' : (len : Int) ≤ 1048576 := by omega
  have HC : Hid (EvL w ea len eh) := hc
  clear hc
  have hpl := plI_le eh kd pr len
  go_enter Tryz.func218, Tryz.ntmps218
  go_wp2_with fail
  refine (placesOf_l ea len cap eh kd pr _ hlen (HC.out.below (by go_grown))).mono ?_
  rintro e w1 ⟨v, rfl, o1, b1⟩
  have B1 : Hid (Below w.heap.size w w1) := below_up (by go_grown) b1 (by simp)
  obtain ⟨a0, cp, rfl, -⟩ := o1.form
  have HS : Hid (OwnI w1 (w.heap.size + 1) (.slice a0 (plI eh kd pr len).length cp) (plI eh kd pr len)) := by
    rw [World.size_alloc] at o1
    exact o1
  clear o1
  go_wp2_with fail
  have HO : Hid (OwnI w1 w.heap.size (.slice (some ⟨w.heap.size, 0, none⟩) 0 0) []) := (own_empty w).below b1
  clear b1
  go_loopw [7, 16] (fun o i wr => ∃ k : Nat, k ≤ (plI eh kd pr len).length ∧ i = .int .i64 k ∧ Hid (OwnI wr w.heap.size o (valT eh kd pr len k)) ∧ Below w.heap.size w wr ∧ Hid (Away w w1 wr o)) (fun _ i _ => (plI eh kd pr len).length - (intOf i).toNat)
  case atStart => exact ⟨0, Nat.zero_le _, rfl, HO.out, B1.out, ⟨fun j hj => by simp [Value.ownBlock] at hj; exact .inl hj.symm, fun _ _ _ => rfl, Nat.le_refl _⟩⟩
  case round =>
    clear HO B1
    obtain ⟨k, hk, rfl, HO, hbw, HA⟩ := hrel
    have hs := hbw.size
    by_cases hlt : k < (plI eh kd pr len).length
    · have hlt' : (k : Int) < ((plI eh kd pr len).length : Int) := by omega
      obtain ⟨b0, o0, e0, hb0, hcell⟩ := (HA.out.sl (Nat.lt_succ_self _) HS.out).at hlt
      obtain ⟨q, hq, hql, hqe⟩ := plI_place eh kd pr len k hlt
      have hql' : (q : Int) < (len : Int) := by omega
      rw [hq] at hcell
      subst e0
      have hvl := valT_le eh kd pr len k
      have HH : Hid (valT eh kd pr len (k + 1) = valT eh kd pr len k ++ [(eh q).v]) := valT_next hqe
      obtain ⟨b, off, rfl, -, c0, c1, c2⟩ := (HC.out.below hbw).at hql
      clear hq hqe
      go_wp2_with (at_builtin; refine append_far wr rfl _ _ rfl w.heap.size u7 (valT eh kd pr len k) rfl HO.out (eh q).v rfl (by omega) hs ?_; intro v' w4 o4 g4 a4; have A4 : Hid (Away w w1 w4 v') := HA.out.step g4 a4; have b4 : Below w.heap.size wr w4 := ⟨g4.os, g4.tape, g4.output, g4.size, fun j hj => g4.block j (Nat.lt_of_lt_of_le hj hs) (fun e => Nat.not_le_of_lt hj (HO.out.lt j e.symm).1)⟩; have H4 : Hid (OwnI w4 w.heap.size v' (valT eh kd pr len (k + 1))) := o4.to HH.out; clear o4 g4 a4)
      go_roundw
      case rel => exact ⟨k + 1, by omega, by go_num, H4.out, hbw.trans b4, A4.out⟩
      case measure => simp [intOf]; omega
    · have hkl : k = (plI eh kd pr len).length := by omega
      have H4 : Hid (OwnI wr w.heap.size u7 (valL eh kd pr len)) := by
        have := HO.out
        rw [hkl, valT_all] at this
        exact this
      clear HO hkl
      go_wp2
      go_ret
      exact ⟨_, rfl, H4.out, hbw⟩

set_option maxRecDepth 100000 in
set_option maxHeartbeats 1000000 in
theorem specNumbers_l (ea : Option Addr) (len cap : Nat) (h : Nat → I2) (w : World) (hlen : len ≤ 1048576) (hc : ItL w ea len h) :
    Calls Tryz.prog 163 #[.slice ea len cap] w fun e w' => ∃ v, e = .returned v ∧ OwnI w' w.heap.size v (numL h len) ∧ Below w.heap.size w w' := by
  have hl' : (len : Int) ≤ 1048576 := by omega
  have HC : Hid (ItL w ea len h) := hc
  clear hc
  go_enter Tryz.func163, Tryz.ntmps163
  go_wp2_with fail
  go_loopw [3, 4] (fun o i wr => ∃ k : Nat, k ≤ len ∧ i = .int .i64 k ∧ Hid (OwnI wr w.heap.size o (numL h k)) ∧ Below w.heap.size w wr) (fun _ i _ => len - (intOf i).toNat)
  case atStart => exact ⟨0, Nat.zero_le _, rfl, own_empty w, (Below.refl _ _).alloc (Nat.le_refl _) _⟩
  case round =>
    obtain ⟨k, hk, rfl, HO, hbw⟩ := hrel
    have hs := hbw.size
    by_cases hlt : k < len
    · have hlt' : (k : Int) < (len : Int) := by omega
      have hvl := numL_le h k
      obtain ⟨b, off, rfl, -, c0, c1⟩ := (HC.out.below hbw).at hlt
      rcases Bool.eq_false_or_eq_true (h k).m with t1 | t1
      · have HH : Hid (numL h (k + 1) = numL h k) := numL_not t1
        rw [t1] at c0
        go_wp2
        go_roundw
        case rel => exact ⟨k + 1, by omega, by go_num, HO.out.to HH.out, hbw⟩
        case measure => simp [intOf]; omega
      · have HH : Hid (numL h (k + 1) = numL h k ++ [(h k).v]) := numL_hit t1
        rw [t1] at c0
        go_wp2_with (at_builtin; refine append_one wr rfl _ _ rfl w.heap.size u3 (numL h k) rfl HO.out (h k).v rfl (by omega) hs ?_; intro v' w4 o4 b4; have H4 : Hid (OwnI w4 w.heap.size v' (numL h (k + 1))) := o4.to HH.out; clear o4)
        go_roundw
        case rel => exact ⟨k + 1, by omega, by go_num, H4.out, hbw.trans b4⟩
        case measure => simp [intOf]; omega
    · have hkl : k = len := by omega
      have H4 : Hid (OwnI wr w.heap.size u3 (numL h len)) := by
        have := HO.out
        rw [hkl] at this
        exact this
      clear HO hkl
      go_wp2
      go_ret
      exact ⟨_, rfl, H4.out, hbw⟩

set_option maxRecDepth 100000 in
set_option maxHeartbeats 1000000 in
theorem implNumbers_l (ea : Option Addr) (len cap : Nat) (h : Nat → I2) (w : World) (hlen : len ≤ 1048576) (hc : ItL w ea len h) :
    Calls Tryz.prog 174 #[.slice ea len cap] w fun e w' => ∃ v, e = .returned v ∧ OwnI w' w.heap.size v (numL h len) ∧ Below w.heap.size w w' := by
  have hl' : (len : Int) ≤ 1048576 := by omega
  have HC : Hid (ItL w ea len h) := hc
  clear hc
  go_enter Tryz.func174, Tryz.ntmps174
  go_wp2_with fail
  go_loopw [3, 9] (fun o i wr => ∃ k : Nat, k ≤ len ∧ i = .int .i64 k ∧ Hid (OwnI wr w.heap.size o (numL h k)) ∧ Below w.heap.size w wr) (fun _ i _ => len - (intOf i).toNat)
  case atStart => exact ⟨0, Nat.zero_le _, rfl, own_empty w, (Below.refl _ _).alloc (Nat.le_refl _) _⟩
  case round =>
    obtain ⟨k, hk, rfl, HO, hbw⟩ := hrel
    have hs := hbw.size
    by_cases hlt : k < len
    · have hlt' : (k : Int) < (len : Int) := by omega
      have hvl := numL_le h k
      obtain ⟨b, off, rfl, -, c0, c1⟩ := (HC.out.below hbw).at hlt
      rcases Bool.eq_false_or_eq_true (h k).m with t1 | t1
      · have HH : Hid (numL h (k + 1) = numL h k) := numL_not t1
        rw [t1] at c0
        go_wp2
        go_roundw
        case rel => exact ⟨k + 1, by omega, by go_num, (HO.out.below (by go_grown)).to HH.out, by go_grown⟩
        case measure => simp [intOf]; omega
      · have HH : Hid (numL h (k + 1) = numL h k ++ [(h k).v]) := numL_hit t1
        rw [t1] at c0
        go_wp2_with (at_builtin; refine append_oneN _ (N := wr.heap.size + 1) (by simp) rfl _ _ rfl w.heap.size u3 (numL h k) rfl (HO.out.below (by go_grown)) (h k).v rfl (by omega) (by simp; omega) ?_; intro v' w4 o4 b4; have H4 : Hid (OwnI w4 w.heap.size v' (numL h (k + 1))) := o4.to HH.out; clear o4)
        go_roundw
        case rel => exact ⟨k + 1, by omega, by go_num, H4.out, Below.trans (by go_grown) b4⟩
        case measure => simp [intOf]; omega
    · have hkl : k = len := by omega
      have H4 : Hid (OwnI wr w.heap.size u3 (numL h len)) := by
        have := HO.out
        rw [hkl] at this
        exact this
      clear HO hkl
      go_wp2
      go_ret
      exact ⟨_, rfl, H4.out, hbw⟩

end Go.Proofs.YtdfhpimdgfemjaaGreatDoor

namespace Go.Proofs.YtdfhpimdgfemjaaGreatDoor
open Go.RowKit Go.Extern.Stop Go.Stop Go.Extern

set_option maxHeartbeats 1000000 in
/-- errors.As of no error. -/
theorem as_nil (t : Value) (w : World) :
    Calls Tryz.prog 216 #[.nilIface, t] w fun e w' => e = .returned (.bool false) ∧ w' = w := by
  go_enter Tryz.func216, Tryz.ntmps216
  go_wp2
  go_ret
  exact ⟨rfl, rfl⟩

theorem valueOfT (t : Addr) (w : World) : (ReflectliteValue.unpack (.iface 261 (.pointer (some t)))).run Tryz.prog w
    = .ok (.agg #[.pointer (some ⟨1, 261, none⟩), .pointer (some ⟨w.heap.size, 0, none⟩), .int .u64 150]) (w.alloc (.cells #[.pointer (some t)] 261)) := by kernel_rfl
theorem typeT (a : Addr) (w : World) : (ReflectliteValue.methodAny (ReflectliteValue.valueError "reflectlite.Value.Type" 0) (fun t _ _ _ => ReflectliteType.toType t) #[.agg #[.pointer (some ⟨1, 261, none⟩), .pointer (some a), .int .u64 150]]).run Tryz.prog w
    = .ok (.iface 313 (.agg #[.pointer (some ⟨1, 261, none⟩)])) w := by kernel_rfl
theorem kindT (w : World) : ((ReflectliteType.abiMethod fun t => (fun a : Nat => Value.int IntKind.u8 (a : Int)) <$> Rtype.kind t) #[.pointer (some ⟨1, 261, none⟩)]).run Tryz.prog w = .ok (.int .u8 22) w := by kernel_rfl
theorem kindE (w : World) : ((ReflectliteType.abiMethod fun t => (fun a : Nat => Value.int IntKind.u8 (a : Int)) <$> Rtype.kind t) #[.pointer (some ⟨1, 259, none⟩)]).run Tryz.prog w = .ok (.int .u8 25) w := by kernel_rfl
theorem rlm (z : Sem Value) (f : TypeId → Addr → Nat → Nat → Sem Value) (v : Value) :
    ReflectliteValue.method z f #[v] = (do match ← ReflectliteValue.parts v with | none => z | some (t, a, fl) => f t a fl (fl % 32)) := rfl
theorem partsT (a : Addr) (w : World) : (ReflectliteValue.parts (.agg #[.pointer (some ⟨1, 261, none⟩), .pointer (some a), .int .u64 150])).run Tryz.prog w = .ok (some (261, a, 150)) w := by kernel_rfl
theorem isNilT (a p : Addr) (W : World) (ha : W.cell? a = some (.pointer (some p))) :
    (ReflectliteValue.method (ReflectliteValue.valueError "reflectlite.Value.IsNil" 0) ReflectliteValue.isNil #[.agg #[.pointer (some ⟨1, 261, none⟩), .pointer (some a), .int .u64 150]]).run Tryz.prog W = .ok (.bool false) W := by
  rw [rlm]
  simp only [Sem.run_bind, partsT, Result.andThen]
  simp [ReflectliteValue.isNil, loadVar, isAgg, underlying, Tryz.underlying261, ha, Result.andThen]
theorem elemT (w : World) : (ReflectliteType.method ReflectliteType.elem #[.agg #[.pointer (some ⟨1, 261, none⟩)]]).run Tryz.prog w = .ok (.iface 313 (.agg #[.pointer (some ⟨1, 259, none⟩)])) w := by kernel_rfl
theorem implementsE (w : World) : (ReflectliteType.relation "Implements" ReflectliteType.implements_ #[.agg #[.pointer (some ⟨1, 259, none⟩)], .iface 313 (.agg #[.pointer (some ⟨1, 255, none⟩)])]).run Tryz.prog w = .ok (.bool true) w := by kernel_rfl
theorem typeOfE (v : Value) (w : World) : (ReflectliteType.typeOf #[.iface 259 v]).run Tryz.prog w = .ok (.iface 313 (.agg #[.pointer (some ⟨1, 259, none⟩)])) w := by kernel_rfl
theorem assignableE (w : World) : (ReflectliteType.relation "AssignableTo" ReflectliteType.assignableTo #[.agg #[.pointer (some ⟨1, 259, none⟩)], .iface 313 (.agg #[.pointer (some ⟨1, 259, none⟩)])]).run Tryz.prog w = .ok (.bool true) w := by kernel_rfl
theorem valueOfE (x : Int) (w : World) : (ReflectliteValue.unpack (.iface 259 (.agg #[.int .i64 x]))).run Tryz.prog w
    = .ok (.agg #[.pointer (some ⟨1, 259, none⟩), .pointer (some ⟨w.heap.size, 0, none⟩), .int .u64 153]) (w.alloc (.cells #[.int .i64 x] 259)) := by kernel_rfl
theorem elemOfT (w : World) : (Rtype.elem? 261).run Tryz.prog w = .ok (some 259) w := by kernel_rfl
theorem mkE (p : Addr) (w : World) : (ReflectliteValue.mk 259 p ReflectliteValue.flagAddr).run Tryz.prog w = .ok (.agg #[.pointer (some ⟨1, 259, none⟩), .pointer (some p), .int .u64 409]) w := by kernel_rfl

end Go.Proofs.YtdfhpimdgfemjaaGreatDoor

namespace Go.Proofs.YtdfhpimdgfemjaaGreatDoor
open Go.ChangeShapes Go.WideShapes Go.ChangeAt Go.RowKit Go.Deep Go.Sort

theorem sumL_all {d l : Nat → Nat} (h : ∀ i, d i ≤ l i) (n : Nat) (e : sumL d n = sumL l n) (p : Nat) (hp : p < n) : d p = l p := by
  induction n with
  | zero => omega
  | succ n ih =>
    have h1 := sumL_le h n
    have h2 := h n
    have e' : sumL d n + d n = sumL l n + l n := e
    by_cases hpn : p = n
    · subst hpn
      omega
    · exact ih (by omega) (by omega)
/-- How many are put of each, in block D. -/
structure OrdB (w : World) (D n : Nat) (d : Nat → Nat) : Prop where
  c : ∀ i, i < n → w.cell? ⟨D, i, none⟩ = some (.int .i64 (d i))
  fr : ∀ j, w.frozen? ⟨D, j, none⟩ = false
theorem OrdB.blk {w w' : World} {D n : Nat} {d : Nat → Nat} (h : OrdB w D n d) (hb : w'.heap[D]? = w.heap[D]?) : OrdB w' D n d := ⟨fun i hi => (World.cell?_of_block hb).trans (h.c i hi), fun j => (World.frozen?_of_block hb).trans (h.fr j)⟩
theorem OrdB.put {w : World} {D n k : Nat} {d : Nat → Nat} (h : OrdB w D n d) (hk : k < n) : OrdB (w.setCell ⟨D, k, none⟩ (.int .i64 ((d k : Int) + 1))) D n (up d k) := by
  refine ⟨fun i hi => ?_, fun j => by rw [World.frozen?_setCell]; exact h.fr j⟩
  by_cases e : i = k
  · subst e
    rw [World.cell?_setCell_same' _ _ _ (by rw [h.c i hi]; rfl), up_same]
    rfl
  · rw [World.cell?_setCell_other _ _ _ _ (by intro e'; injection e' with _ e'; exact e e'.symm), up_other e]
    exact h.c i hi
/-- What stands between the rounds. -/
structure Od (w wr : World) (B D : Nat) (ha : Option Addr) (hc : Nat) (y : Hs) (d : Nat → Nat) : Prop where
  pu : y.Put d
  od : OrdB wr D y.n d
  bx : wr.cell? ⟨B, 3, none⟩ = some (.slice ha y.n hc)
  be : Below w.heap.size w wr
theorem Od.below {w wr w' : World} {B D : Nat} {ha : Option Addr} {hc : Nat} {y : Hs} {d : Nat → Nat} (h : Od w wr B D ha hc y d) (hb : Below wr.heap.size wr w') (hD : D < wr.heap.size) : Od w w' B D ha hc y d :=
  ⟨h.pu, h.od.blk (hb.block D hD), (hb.cell (p := ⟨B, 3, none⟩) (World.block_lt_of_cell? wr _ h.bx)).trans h.bx, h.be.trans (hb.mono h.be.size)⟩
theorem Od.set {w wr : World} {B D k : Nat} {ha : Option Addr} {hc : Nat} {y : Hs} {d : Nat → Nat} (h : Od w wr B D ha hc y d) (hk : k < y.n) (hcan : y.Can d k) (hBD : B ≠ D) (hw : w.heap.size ≤ D) : Od w (wr.setCell ⟨D, k, none⟩ (.int .i64 ((d k : Int) + 1))) B D ha hc y (up d k) :=
  ⟨.next h.pu hk hcan, h.od.put hk, (World.cell?_setCell_other _ _ _ _ (by intro e; injection e with e; exact hBD e.symm)).trans h.bx, h.be.setCell hw _⟩
theorem madeInt_cell (w : World) (n i : Nat) (hi : i < n) : (w.alloc (.cells (madeCells #[.int .i64 0] n) 3)).cell? ⟨w.heap.size, i, none⟩ = some (.int .i64 0) := by
  rw [new_cell _ _ _ i rfl]
  simp [madeCells, hi, Nat.mod_one]

set_option maxHeartbeats 400000 in
theorem slice_to (a : Option Addr) (len cap h : Nat) (hh : h ≤ cap) (w : World) : (Instr.slice 84 (.slice a len cap) none (some (.int .i64 (h : Int))) none).run Tryz.prog w = .ok (.slice a h cap) w := by
  have hh' : (h : Int) ≤ (cap : Int) := by omega
  cases a with
  | none => simp [go_sem, sliced, hh']
  | some a => simp [go_sem, sliced, hh']

set_option maxRecDepth 100000 in
set_option maxHeartbeats 4000000 in
theorem l4Order_any (pa : Option Addr) (pn pc : Nat) (sa : Option Addr) (sn sc : Nat) (wa : Option Addr) (wn wc : Nat) (ha : Option Addr) (hc : Nat) (hA : Nat → Option Addr) (hC : Nat → Nat) (y : Hs) (w : World) (hE : HisE w ha hA hC y) (hcap : ∀ i, i < y.n → y.l i ≤ hC i) (h1 : 1 ≤ y.n) (h4 : y.n ≤ 4) (hp : y.Peers) (hl : ∀ i, i < y.n → y.l i ≤ 200) :
    Calls Tryz.prog 91 #[sysV pa pn pc sa sn sc wa wn wc ha y.n hc] w fun e w' => e = .returned (.bool (qB y.Row)) ∧ Below w.heap.size w w' := by
  have HE : Hid (HisE w ha hA hC y) := hE
  have HH : Hid (y.Peers ∧ (∀ i, i < y.n → y.l i ≤ 200) ∧ (∀ i, i < y.n → y.l i ≤ hC i)) := ⟨hp, hl, hcap⟩
  have hn4 : (y.n : Int) ≤ 4 := by omega
  have hmk : ∀ wx : World, (Instr.makeSlice 35 (.int .i64 (y.n : Int)) (.int .i64 (y.n : Int))).run Tryz.prog wx = .ok (.slice (some ⟨wx.heap.size, 0, none⟩) y.n y.n) (wx.alloc (.cells (madeCells #[.int .i64 0] y.n) 3)) := fun wx => run_make_int y.n (by omega) wx
  have HOd : Hid (Od w ((w.alloc (.cells #[.slice pa pn pc, .slice sa sn sc, .slice wa wn wc, .slice ha y.n hc] 34)).alloc (.cells (madeCells #[.int .i64 0] y.n) 3)) w.heap.size (w.heap.size + 1) ha hc y (fun _ => 0)) := by
    refine ⟨.start, ⟨fun i hi => ?_, fun j => new_frozen _ _ _ _ (by simp)⟩, ?_, (below_alloc _ _).trans ((below_alloc _ _).mono (by simp))⟩
    · have := madeInt_cell (w.alloc (.cells #[.slice pa pn pc, .slice sa sn sc, .slice wa wn wc, .slice ha y.n hc] 34)) y.n i hi
      rw [World.size_alloc] at this
      exact this
    · exact ((BoxC.new w _ _ _ _ _).below (below_alloc _ _)).2.2.2
  have HD : Hid (w.heap.size + 1 < ((w.alloc (.cells #[.slice pa pn pc, .slice sa sn sc, .slice wa wn wc, .slice ha y.n hc] 34)).alloc (.cells (madeCells #[.int .i64 0] y.n) 3)).heap.size) := by
    show w.heap.size + 1 < _
    simp
  clear hE hp hl hcap
  go_enter Tryz.func91, Tryz.ntmps91
  go_wp2_with fail
  generalize (w.alloc (.cells #[.slice pa pn pc, .slice sa sn sc, .slice wa wn wc, .slice ha y.n hc] 34)).alloc (.cells (madeCells #[.int .i64 0] y.n) 3) = W1 at *
  generalize hD : w.heap.size + 1 = D at *
  have HDW : Hid (w.heap.size + 1 = D) := hD
  clear hmk hD
  go_loopw [6, 7] (fun s i wr => ∃ k : Nat, k ≤ y.n ∧ i = .int .i64 k ∧ s = .int .i64 (sumL y.l k : Nat) ∧ wr = W1) (fun _ i _ => y.n - (intOf i).toNat)
  case atStart => exact ⟨0, Nat.zero_le _, rfl, rfl, rfl⟩
  case round =>
    obtain ⟨k, hk, rfl, rfl, rfl⟩ := hrel
    have hsum : sumL y.l k ≤ 200 * k := by
      have : ∀ j, j ≤ y.n → sumL y.l j ≤ 200 * j := by
        intro j
        induction j with
        | zero => exact fun _ => Nat.le_refl _
        | succ j ih =>
          intro hj
          have h5 := ih (by omega)
          have h6 := HH.out.2.1 j (by omega)
          show sumL y.l j + y.l j ≤ 200 * (j + 1)
          omega
      exact this k hk
    have hsum' : ((sumL y.l k : Nat) : Int) ≤ 1000 := by omega
    have b3 := HOd.out.bx
    by_cases hlt : k < y.n
    · have hlt' : (k : Int) < (y.n : Int) := by omega
      obtain ⟨bh, oh, eh, ch⟩ := (HE.out.below HOd.out.be).row.at hlt
      rw [eh] at b3
      have hl2 : (y.l k : Int) ≤ 200 := by have := HH.out.2.1 k hlt; omega
      clear hsum
      go_wp2
      go_roundw
      case rel => exact ⟨k + 1, by omega, by go_num, by simp only [sumL]; congr 1, by first | rfl | trivial⟩
      case measure => simp [intOf]; omega
    · have hkn : k = y.n := by omega
      subst hkn
      clear hlt hk hsum b3
      have hlt' : ¬ ((y.n : Int) < (y.n : Int)) := by omega
      have hsumI : ∀ d : Nat → Nat, y.Put d → ((sumL y.l y.n : Nat) : Int) - ((sumL d y.n : Nat) : Int) = ((sumL y.l y.n - sumL d y.n : Nat) : Int) := fun d hd => by
        have := sumL_le hd.le y.n
        omega
      have HSI : Hid (∀ d : Nat → Nat, y.Put d → ((sumL y.l y.n : Nat) : Int) - ((sumL d y.n : Nat) : Int) = ((sumL y.l y.n - sumL d y.n : Nat) : Int)) := hsumI
      have HSM : Hid (((sumL y.l y.n : Nat) : Int) ≤ 1000) := hsum'
      clear hsumI hsum'
      go_wp2_with fail
      go_loopg [5, 6] (2 * (sumL y.l y.n) + 1) (fun gn m s wr => ∃ (t : Bool) (d : Nat → Nat), m = .bool t ∧ s = .int .i64 ((sumL y.l y.n - sumL d y.n : Nat) : Int) ∧ gn = 2 * (sumL y.l y.n - sumL d y.n) + (if t = true then 1 else 0) ∧ Hid (Od w wr w.heap.size D ha hc y d ∧ D < wr.heap.size ∧ (t = false → ∀ p, p < y.n → ¬ y.Can d p)))
      case atStart => exact ⟨true, fun _ => 0, rfl, by rw [sumL_zero]; rfl, by rw [sumL_zero]; rfl, HOd.out, HD.out, fun h => by cases h⟩
      case round =>
        clear HOd HD
        obtain ⟨t, d, rfl, rfl, hgn, HI⟩ := hrel
        rcases Bool.eq_false_or_eq_true t with rfl | rfl
        · have HGN : Hid (gk = 2 * (sumL y.l y.n - sumL d y.n) + 1) := hgn
          clear hgn
          go_wp2_with fail
          go_loopw [5, 6, 8] (fun m s i wr => ∃ (k : Nat) (t' : Bool) (d' : Nat → Nat), k ≤ y.n ∧ i = .int .i64 k ∧ m = .bool t' ∧ s = .int .i64 ((sumL y.l y.n - sumL d' y.n : Nat) : Int) ∧ Hid (Od w wr w.heap.size D ha hc y d' ∧ D < wr.heap.size ∧ (t' = true → sumL d y.n < sumL d' y.n) ∧ (t' = false → d' = d ∧ ∀ p, p < k → ¬ y.Can d p))) (fun _ _ i _ => y.n - (intOf i).toNat)
          case atStart => exact ⟨0, false, d, Nat.zero_le _, rfl, rfl, rfl, HI.out.1, HI.out.2.1, (fun h => by cases h), fun _ => ⟨rfl, fun p hp => by omega⟩⟩
          case round =>
            clear HI
            obtain ⟨k, t', d', hk, rfl, rfl, rfl, HJ⟩ := hrel
            by_cases hlt : k < y.n
            · have hlt' : (k : Int) < (y.n : Int) := by omega
              have hdk : d' k ≤ y.l k := HJ.out.1.pu.le k
              have hl2 : (y.l k : Int) ≤ 200 := by have := HH.out.2.1 k hlt; omega
              have dk := HJ.out.1.od.c k hlt
              have b3 := HJ.out.1.bx
              obtain ⟨bh, oh, eh, ch⟩ := (HE.out.below HJ.out.1.be).row.at hlt
              rw [eh] at b3
              by_cases he : d' k = y.l k
              · have HNo : Hid (¬ y.Can d' k) := fun h => by have := h.1; omega
                have HJ' : ∀ nq, Hid (Od w (wr.drewN nq) w.heap.size D ha hc y d' ∧ D < (wr.drewN nq).heap.size ∧ (t' = true → sumL d y.n < sumL d' y.n) ∧ (t' = false → d' = d ∧ ∀ p, p < k + 1 → ¬ y.Can d p)) := fun nq => ⟨HJ.out.1.below (below_drewN (Below.refl _ _) _) HJ.out.2.1, HJ.out.2.1, HJ.out.2.2.1, fun h => ⟨(HJ.out.2.2.2 h).1, fun p hp => by
                  have h5 := HJ.out.2.2.2 h
                  by_cases e : p = k
                  · subst e
                    rw [← h5.1]
                    exact HNo.out
                  · exact h5.2 p (by omega)⟩⟩
                rw [he] at dk
                have HJQ : Hid (∀ nq, Hid (Od w (wr.drewN nq) w.heap.size D ha hc y d' ∧ D < (wr.drewN nq).heap.size ∧ (t' = true → sumL d y.n < sumL d' y.n) ∧ (t' = false → d' = d ∧ ∀ p, p < k + 1 → ¬ y.Can d p))) := HJ'
                clear HJ HJ' he hdk
                go_wp2_with fail
                go_quiet (fail)
                go_wp2
                go_roundw
                case rel => exact ⟨k + 1, t', d', by omega, by go_num, rfl, rfl, HJQ.out _⟩
                case measure => simp [intOf]; omega
              · have hkl : d' k < y.l k := by omega
                have hkl' : (d' k : Int) < (y.l k : Int) := by omega
                have hne : ((d' k : Int) == (y.l k : Int)) = false := by
                  have : ¬ (d' k : Int) = (y.l k : Int) := by omega
                  simpa using this
                clear he hdk
                go_wp2_with fail
                go_quiet (fail)
                go_wp2_with fail
                have OD : Hid (Od w (wr.drewN nq) w.heap.size D ha hc y d' ∧ D < (wr.drewN nq).heap.size ∧ (t' = true → sumL d y.n < sumL d' y.n) ∧ (t' = false → d' = d ∧ ∀ p, p < k → ¬ y.Can d p)) := ⟨HJ.out.1.below (below_drewN (Below.refl _ _) _) HJ.out.2.1, HJ.out.2.1, HJ.out.2.2⟩
                clear HJ dk b3 ch
                generalize wr.drewN nq = wd at *
                have dk := OD.out.1.od.c k hlt
                have b3 := OD.out.1.bx
                obtain ⟨bh', oh', eh', ch⟩ := (HE.out.below OD.out.1.be).row.at hlt
                rw [eh'] at b3
                obtain ⟨b, off, ea, zb, e0, e1, e2⟩ := ((HE.out.below OD.out.1.be).ev k hlt).at hkl
                rw [ea] at ch
                have n1 : wd.heap.size ≠ D := by have := OD.out.2.1; omega
                have n2 : wd.heap.size ≠ b := by omega
                have n3 : wd.heap.size ≠ bh' := by have := World.block_lt_of_cell? wd _ ch; simp at this; omega
                have dk' := cell_allocs dk
                have b3' := cell_allocs b3
                have ch' := cell_allocs ch
                have e0' := cell_allocs e0
                have e1' := cell_allocs e1
                have e2' := cell_allocs e2
                clear zb
                go_region
                all_goals
                  have OZ : Hid (Od w (wd.alloc (.cells #[.int .i64 (y.e k (d' k)).k, .int .i64 (y.e k (d' k)).q, .int .i64 (y.e k (d' k)).v] 112)).drew w.heap.size D ha hc y d' ∧ D < (wd.alloc (.cells #[.int .i64 (y.e k (d' k)).k, .int .i64 (y.e k (d' k)).q, .int .i64 (y.e k (d' k)).v] 112)).drew.heap.size ∧ (t' = true → sumL d y.n < sumL d' y.n) ∧ (t' = false → d' = d ∧ ∀ p, p < k → ¬ y.Can d p)) := ⟨OD.out.1.below (below_alloc _ _).drew OD.out.2.1, Nat.lt_of_lt_of_le OD.out.2.1 (below_alloc _ _).drew.size, OD.out.2.2⟩
                  have z0 : (wd.alloc (.cells #[.int .i64 (y.e k (d' k)).k, .int .i64 (y.e k (d' k)).q, .int .i64 (y.e k (d' k)).v] 112)).drew.cell? ⟨wd.heap.size, 0, none⟩ = some (.int .i64 (y.e k (d' k)).k) := new_cell wd _ _ 0 rfl
                  have z1 : (wd.alloc (.cells #[.int .i64 (y.e k (d' k)).k, .int .i64 (y.e k (d' k)).q, .int .i64 (y.e k (d' k)).v] 112)).drew.cell? ⟨wd.heap.size, 1, none⟩ = some (.int .i64 (y.e k (d' k)).q) := new_cell wd _ _ 1 rfl
                  go_wp2_with fail
                  clear dk b3 ch e0 e1 e2 dk' b3' ch' e0' e1' e2' n1 n2 n3 OD eh eh' ea
                  generalize (wd.alloc (.cells #[.int .i64 (y.e k (d' k)).k, .int .i64 (y.e k (d' k)).q, .int .i64 (y.e k (d' k)).v] 112)).drew = wz at *
                  generalize wd.heap.size = M at *
                  rcases Bool.eq_false_or_eq_true ((y.e k (d' k)).k == 3) with t3 | t3
                  case inr =>
                    have HK3 : Hid (¬ (y.e k (d' k)).k = 3) := by
                      show ¬ (y.e k (d' k)).k = 3
                      simpa using t3
                    go_quiet (fail)
                    have OQ : Hid (Od w (wz.drewN nq) w.heap.size D ha hc y d' ∧ D < (wz.drewN nq).heap.size ∧ (t' = true → sumL d y.n < sumL d' y.n) ∧ (t' = false → d' = d ∧ ∀ p, p < k → ¬ y.Can d p)) := ⟨OZ.out.1.below (below_drewN (Below.refl _ _) _) OZ.out.2.1, OZ.out.2.1, OZ.out.2.2⟩
                    clear z0 z1 OZ
                    generalize wz.drewN nq = wq at *
                    have HCn : Hid (y.Can d' k) := ⟨hkl, fun h => absurd h HK3.out⟩
                    have HPu : Hid (y.Put (up d' k)) := .next OQ.out.1.pu hlt HCn.out
                    have hsu := sumL_up (d := d') hlt
                    have hsl := sumL_le HPu.out.le y.n
                    have HLE : Hid (((sumL y.l y.n - sumL d' y.n : Nat) : Int) - 1 = ((sumL y.l y.n - sumL (up d' k) y.n : Nat) : Int)) := by
                      show ((sumL y.l y.n - sumL d' y.n : Nat) : Int) - 1 = ((sumL y.l y.n - sumL (up d' k) y.n : Nat) : Int)
                      omega
                    have hA1 : ((sumL y.l y.n - sumL d' y.n : Nat) : Int) ≤ 1000 := by have := HSM.out; omega
                    have hA0 : (1 : Int) ≤ ((sumL y.l y.n - sumL d' y.n : Nat) : Int) := by omega
                    have HNx : Hid (Od w (wq.setCell ⟨D, k, none⟩ (.int .i64 ((d' k : Int) + 1))) w.heap.size D ha hc y (up d' k) ∧ D < (wq.setCell ⟨D, k, none⟩ (.int .i64 ((d' k : Int) + 1))).heap.size ∧ (true = true → sumL d y.n < sumL (up d' k) y.n) ∧ (true = false → up d' k = d ∧ ∀ p, p < k + 1 → ¬ y.Can d p)) := ⟨OQ.out.1.set hlt HCn.out (by have := HDW.out; omega) (by have := HDW.out; omega), by simpa [World.setCell] using OQ.out.2.1, (fun _ => by
                      rcases Bool.eq_false_or_eq_true t' with h5 | h5
                      · have := OQ.out.2.2.1 h5
                        omega
                      · have := (OQ.out.2.2.2 h5).1
                        rw [this] at hsu ⊢
                        omega), (fun h => by cases h)⟩
                    have dkq := OQ.out.1.od.c k hlt
                    have frq := OQ.out.1.od.fr
                    clear hsu hsl OQ
                    generalize hAA : ((sumL y.l y.n - sumL d' y.n : Nat) : Int) = AA at *
                    clear hAA
                    go_wp2
                    go_roundw
                    case rel => exact ⟨k + 1, true, up d' k, by omega, by go_num, rfl, by rw [HLE.out], HNx.out⟩
                    case measure => simp [intOf]; omega
                  case inl =>
                    have hk3 : (y.e k (d' k)).k = 3 := by simpa using t3
                    have HK3 : Hid ((y.e k (d' k)).k = 3) := hk3
                    have hq := HH.out.1 k hlt (d' k) hkl
                    obtain ⟨q, hqe⟩ : ∃ q : Nat, (y.e k (d' k)).q = (q : Int) := ⟨(y.e k (d' k)).q.toNat, by omega⟩
                    have HQE : Hid ((y.e k (d' k)).q = (q : Int)) := hqe
                    have hqn : q < y.n := by omega
                    have hqn' : (q : Int) < (y.n : Int) := by omega
                    rw [hk3] at z0
                    rw [hqe] at z1
                    have dk := OZ.out.1.od.c k hlt
                    have dq := OZ.out.1.od.c q hqn
                    have b3 := OZ.out.1.bx
                    obtain ⟨bz, oz, ez, ch⟩ := (HE.out.below OZ.out.1.be).row.at hlt
                    obtain ⟨bz', oz', ez', cq⟩ := (HE.out.below OZ.out.1.be).row.at hqn
                    rw [ez] at b3 ez'
                    simp only [Option.some.injEq, Addr.mk.injEq] at ez'
                    obtain ⟨rfl, rfl, -⟩ := ez'
                    have ks := slice_to (hA k) (y.l k) (hC k) (d' k) (by have := HH.out.2.2 k hlt; omega)
                    have qs := slice_to (hA q) (y.l q) (hC q) (d' q) (by have := HH.out.2.2 q hqn; have := OZ.out.1.pu.le q; omega)
                    have HCk : Hid (∀ dd os, Calls Tryz.prog 164 #[.slice (hA k) (d' k) (hC k), .int .i64 3, .int .i64 q] (grow (redrawn wz dd) os) fun e w' => e = .returned (.int .i64 (cnt (y.e k) 3 q (d' k) : Nat)) ∧ Below (grow (redrawn wz dd) os).heap.size (grow (redrawn wz dd) os) w') := fun dd os => specCount_l (hA k) (d' k) (hC k) (y.e k) 3 q _ (by have := HH.out.2.1 k hlt; omega) (((HE.out.below OZ.out.1.be).below (below_regrown wz dd os)).ev k hlt |>.take (by omega))
                    have HCq : Hid (∀ dd os, Calls Tryz.prog 164 #[.slice (hA q) (d' q) (hC q), .int .i64 2, .int .i64 k] (grow (redrawn wz dd) os) fun e w' => e = .returned (.int .i64 (cnt (y.e q) 2 k (d' q) : Nat)) ∧ Below (grow (redrawn wz dd) os).heap.size (grow (redrawn wz dd) os) w') := fun dd os => specCount_l (hA q) (d' q) (hC q) (y.e q) 2 k _ (by have := HH.out.2.1 q hqn; have := OZ.out.1.pu.le q; omega) (((HE.out.below OZ.out.1.be).below (below_regrown wz dd os)).ev q hqn |>.take (OZ.out.1.pu.le q))
                    have z0' := cell_regrown z0
                    have z1' := cell_regrown z1
                    have dk' := cell_regrown dk
                    have dq' := cell_regrown dq
                    have b3' := cell_regrown b3
                    have ch' := cell_regrown ch
                    have cq' := cell_regrown cq
                    clear ez hq hqe hk3 t3
                    refine wp_region_quiet_below (by kernel_rfl) (by kernel_rfl) ?_
                    repeat (quiet_step (first | (go_at_call_of 164 (hA k); exact Calls.regrown_of (HCk.out _ _)) | (go_at_call_of 164 (hA q); exact Calls.regrown_of (HCq.out _ _))))
                    refine wpQuiet_nil ?_
                    intro _ hw'
                    obtain ⟨⟨dd, os⟩, hw''⟩ := hw'
                    subst hw''
                    have OQ : Hid (Od w (grow (redrawn wz dd) os) w.heap.size D ha hc y d' ∧ D < (grow (redrawn wz dd) os).heap.size ∧ (t' = true → sumL d y.n < sumL d' y.n) ∧ (t' = false → d' = d ∧ ∀ p, p < k → ¬ y.Can d p)) := ⟨OZ.out.1.below (below_regrown wz dd os) OZ.out.2.1, Nat.lt_of_lt_of_le OZ.out.2.1 (below_regrown wz dd os).size, OZ.out.2.2⟩
                    clear z0' z1' dk' dq' b3' ch' cq' z0 z1 dk dq b3 ch cq ks qs HCk HCq OZ
                    generalize grow (redrawn wz dd) os = wq at *
                    have HCan : Hid (y.Can d' k ↔ cnt (y.e k) 3 q (d' k) < cnt (y.e q) 2 k (d' q)) := by
                      show y.Can d' k ↔ _
                      unfold Hs.Can
                      rw [HQE.out]
                      rw [show ((q : Int)).toNat = q by omega]
                      exact ⟨fun h => h.2 HK3.out, fun h => ⟨hkl, fun _ => h⟩⟩
                    generalize cnt (y.e k) 3 q (d' k) = c1 at *
                    generalize cnt (y.e q) 2 k (d' q) = c2 at *
                    by_cases hcc : (c2 : Int) ≤ (c1 : Int)
                    · have HNo : Hid (¬ y.Can d' k) := fun h => by have := HCan.out.1 h; omega
                      have HJ2 : Hid (Od w wq w.heap.size D ha hc y d' ∧ D < wq.heap.size ∧ (t' = true → sumL d y.n < sumL d' y.n) ∧ (t' = false → d' = d ∧ ∀ p, p < k + 1 → ¬ y.Can d p)) := ⟨OQ.out.1, OQ.out.2.1, OQ.out.2.2.1, fun h => ⟨(OQ.out.2.2.2 h).1, fun p hp => by
                        have h5 := OQ.out.2.2.2 h
                        by_cases e : p = k
                        · subst e
                          rw [← h5.1]
                          exact HNo.out
                        · exact h5.2 p (by omega)⟩⟩
                      clear OQ HCan
                      go_wp2
                      go_roundw
                      case rel => exact ⟨k + 1, t', d', by omega, by go_num, rfl, rfl, HJ2.out⟩
                      case measure => simp [intOf]; omega
                    · have HCx : Hid (y.Can d' k) := HCan.out.2 (by omega)
                      clear HCan
                      have HCn : Hid (y.Can d' k) := HCx.out
                      have HPu : Hid (y.Put (up d' k)) := .next OQ.out.1.pu hlt HCn.out
                      have hsu := sumL_up (d := d') hlt
                      have hsl := sumL_le HPu.out.le y.n
                      have HLE : Hid (((sumL y.l y.n - sumL d' y.n : Nat) : Int) - 1 = ((sumL y.l y.n - sumL (up d' k) y.n : Nat) : Int)) := by
                        show ((sumL y.l y.n - sumL d' y.n : Nat) : Int) - 1 = ((sumL y.l y.n - sumL (up d' k) y.n : Nat) : Int)
                        omega
                      have hA1 : ((sumL y.l y.n - sumL d' y.n : Nat) : Int) ≤ 1000 := by have := HSM.out; omega
                      have hA0 : (1 : Int) ≤ ((sumL y.l y.n - sumL d' y.n : Nat) : Int) := by omega
                      have HNx : Hid (Od w (wq.setCell ⟨D, k, none⟩ (.int .i64 ((d' k : Int) + 1))) w.heap.size D ha hc y (up d' k) ∧ D < (wq.setCell ⟨D, k, none⟩ (.int .i64 ((d' k : Int) + 1))).heap.size ∧ (true = true → sumL d y.n < sumL (up d' k) y.n) ∧ (true = false → up d' k = d ∧ ∀ p, p < k + 1 → ¬ y.Can d p)) := ⟨OQ.out.1.set hlt HCn.out (by have := HDW.out; omega) (by have := HDW.out; omega), by simpa [World.setCell] using OQ.out.2.1, (fun _ => by
                        rcases Bool.eq_false_or_eq_true t' with h5 | h5
                        · have := OQ.out.2.2.1 h5
                          omega
                        · have := (OQ.out.2.2.2 h5).1
                          rw [this] at hsu ⊢
                          omega), (fun h => by cases h)⟩
                      have dkq := OQ.out.1.od.c k hlt
                      have frq := OQ.out.1.od.fr
                      clear hsu hsl OQ
                      generalize hAA : ((sumL y.l y.n - sumL d' y.n : Nat) : Int) = AA at *
                      clear hAA
                      go_wp2
                      go_roundw
                      case rel => exact ⟨k + 1, true, up d' k, by omega, by go_num, rfl, by rw [HLE.out], HNx.out⟩
                      case measure => simp [intOf]; omega
            · have hkn : k = y.n := by omega
              subst hkn
              have HF : Hid (2 * (sumL y.l y.n - sumL d' y.n) + (if t' = true then 1 else 0) < gk) := by
                have h2 := HGN.out
                have h3 := sumL_le HJ.out.1.pu.le y.n
                show _ < gk
                cases t' with
                | true =>
                  have h4 := HJ.out.2.2.1 rfl
                  simp only [if_true]
                  omega
                | false =>
                  have h4 := (HJ.out.2.2.2 rfl).1
                  rw [h4]
                  simp only [Bool.false_eq_true, if_false]
                  omega
              have HG2 : Hid (Od w wr w.heap.size D ha hc y d' ∧ D < wr.heap.size ∧ (t' = false → ∀ p, p < y.n → ¬ y.Can d' p)) := ⟨HJ.out.1, HJ.out.2.1, fun h p hp => by
                have := HJ.out.2.2.2 h
                rw [this.1]
                exact this.2 p hp⟩
              clear HJ
              go_wp2
              go_roundg (2 * (sumL y.l y.n - sumL d' y.n) + (if t' = true then 1 else 0))
              case measure => exact HF.out
              case rel => exact ⟨t', d', rfl, rfl, rfl, HG2.out⟩
        · have HR : Hid ((((sumL y.l y.n - sumL d y.n : Nat) : Int) == 0) = qB y.Row) := by
            show (((sumL y.l y.n - sumL d y.n : Nat) : Int) == 0) = qB y.Row
            have hi := Hs.row_iff HI.out.1.pu HH.out.1 (HI.out.2.2 rfl)
            have hle := HI.out.1.pu.le
            by_cases hr : y.Row
            · have : sumL d y.n = sumL y.l y.n := sumL_same fun i hi' => hi.1 hr i hi'
              rw [qB_true hr, this]
              simp
            · rw [qB_false hr]
              have : sumL y.l y.n - sumL d y.n ≠ 0 := fun e => hr (hi.2 (sumL_all hle _ (by have := sumL_le hle y.n; omega)))
              have h2 : ((sumL y.l y.n - sumL d y.n : Nat) : Int) ≠ 0 := by omega
              simpa using h2
          have HB : Hid (Below w.heap.size w wr) := HI.out.1.be
          clear HI hgn
          go_wp2
          go_ret
          rw [HR.out]
          exact ⟨rfl, HB.out⟩

end Go.Proofs.YtdfhpimdgfemjaaGreatDoor
