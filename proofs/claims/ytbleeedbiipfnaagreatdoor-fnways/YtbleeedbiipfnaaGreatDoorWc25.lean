/- The walks of the model's l4Ins and l4Events. -/
import Derived.Test.YtbleeedbiipfnaaGreatDoorWc0
import Derived.Test.YtbleeedbiipfnaaGreatDoorWc16
import Derived.Test.YtbleeedbiipfnaaGreatDoorWc17
import Derived.Test.YtbleeedbiipfnaaGreatDoorWc24
import Derived.Test.YtbleeedbiipfnaaGreatDoorWc15
import Derived.Test.YtbleeedbiipfnaaGreatDoorWc11
import Derived.Test.YtbleeedbiipfnaaGreatDoorWc9
import Derived.Test.YtbleeedbiipfnaaGreatDoorWc12
namespace Go.Proofs.YtbleeedbiipfnaaGreatDoor
set_option maxRecDepth 100000
set_option maxHeartbeats 1000000
open Go.ChangeShapes Go.WideShapes Go.ChangeAt Go.RowKit Go.Deep
structure SysIn where
 pa : Option Addr
 pn : Nat
 pc : Nat
 pA : Nat → Option Addr
 pL : Nat → Nat
 pC : Nat → Nat
 pH : Nat → Nat → I5
 sa : Option Addr
 sn : Nat
 sc : Nat
 sQ : Nat → St8
 wa : Option Addr
 wn : Nat
 wc : Nat
 wA : Nat → Option Addr
 wL : Nat → Nat
 wC : Nat → Nat
 wH : Nat → Nat → I2
 ha : Option Addr
 hn : Nat
 hc : Nat
 hA : Nat → Option Addr
 hL : Nat → Nat
 hC : Nat → Nat
 hH : Nat → Nat → E3
def SysIn.sS (x : SysIn) : Nat → S4 := fun i => (x.sQ i).s
def SysIn.size (x : SysIn) : Nat := x.pn + sumL x.pL x.pn + (x.sn + sumL (lenS x.sS) x.sn) + (x.wn + sumL x.wL x.wn) + (x.hn + sumL x.hL x.hn)
abbrev sysV (pa : Option Addr) (pn pc : Nat) (sa : Option Addr) (sn sc : Nat) (wa : Option Addr) (wn wc : Nat) (ha : Option Addr) (hn hc : Nat) : Value := .agg #[.slice pa pn pc, .slice sa sn sc, .slice wa wn wc, .slice ha hn hc]
structure SysIn.Row (W : World) (x : SysIn) : Prop where
 p : RowS W x.pa x.pn fun i => .slice (x.pA i) (x.pL i) (x.pC i)
 s : AllState W x.sa x.sn x.sQ
 w : RowS W x.wa x.wn fun i => .slice (x.wA i) (x.wL i) (x.wC i)
 h : RowS W x.ha x.hn fun i => .slice (x.hA i) (x.hL i) (x.hC i)
structure SysIn.Max (x : SysIn) : Prop where
 p : x.pn ≤ maxLen ∧ ∀ i, i < x.pn → x.pL i ≤ maxLen
 s : x.sn ≤ maxLen ∧ ∀ i, i < x.sn → (x.sQ i).rs.length ≤ maxLen ∧ (x.sQ i).os.length ≤ maxLen
 w : x.wn ≤ maxLen ∧ ∀ i, i < x.wn → x.wL i ≤ maxLen
 h : x.hn ≤ maxLen ∧ ∀ i, i < x.hn → x.hL i ≤ maxLen
structure SysIn.Ok (W : World) (x : SysIn) : Prop where
 p : AllIns W x.pa x.pn x.pA x.pL x.pC x.pH
 s : AllState W x.sa x.sn x.sQ
 w : AllItem W x.wa x.wn x.wA x.wL x.wC x.wH
 h : AllEvent W x.ha x.hn x.hA x.hL x.hC x.hH
structure OutSys (w : World) (lo hi : Nat) (x : SysIn) (v : Value) (D1 D2 D3 D4 : Nat) (b1 : Nat → Nat) (vs : Nat → Value) (b3 b4 : Nat → Nat) (h1 h2 h3 : Nat) : Prop where
 val : v = sysV (some ⟨D1, 0, none⟩) x.pn x.pn (some ⟨D2, 0, none⟩) x.sn x.sn (some ⟨D3, 0, none⟩) x.wn x.wn (some ⟨D4, 0, none⟩) x.hn x.hn
 pp : OutIns w D1 h1 x.pn x.pL b1 x.pH
 ss : OutState w D2 h2 x.sn x.sS vs
 ww : OutItem w D3 h3 x.wn x.wL b3 x.wH
 hh : OutEvent w D4 hi x.hn x.hL b4 x.hH
 lo : lo ≤ D1
 o1 : h1 ≤ D2
 o2 : h2 ≤ D3
 o3 : h3 ≤ D4
def IsSys (w : World) (lo hi : Nat) (x : SysIn) (v : Value) : Prop := ∃ D1 D2 D3 D4 b1 vs b3 b4 h1 h2 h3, OutSys w lo hi x v D1 D2 D3 D4 b1 vs b3 b4 h1 h2 h3
structure TB (w wx : World) (a0 a1 a2 a3 o0 o1 o2 o3 : Value) : Prop where
 p : BoxC wx w.heap.size a0 a1 a2 a3
 r : BoxC wx (w.heap.size + 1) (.slice none 0 0) (.slice none 0 0) (.slice none 0 0) (.slice none 0 0)
 o : BoxC wx (w.heap.size + 1 + 1) o0 o1 o2 o3
 fr : ∀ j, wx.frozen? ⟨w.heap.size + 1, j, none⟩ = false
 fo : ∀ j, wx.frozen? ⟨w.heap.size + 1 + 1, j, none⟩ = false
 be : Below w.heap.size w wx
 le : w.heap.size + 3 ≤ wx.heap.size
structure MkY (w wx : World) (lo hi D1 D2 D3 D4 : Nat) (x : SysIn) : Prop where
 tch : Touch (fun b => lo ≤ b ∧ b < hi) w wx
 bx : BoxC wx w.heap.size (.slice (some ⟨D1, 0, none⟩) x.pn x.pn) (.slice (some ⟨D2, 0, none⟩) x.sn x.sn) (.slice (some ⟨D3, 0, none⟩) x.wn x.wn) (.slice (some ⟨D4, 0, none⟩) x.hn x.hn)
 lt : w.heap.size < wx.heap.size
def cI (h : I5) : List Value := [.int .i64 h.o, .int .i64 h.r, .int .i64 h.a, .int .i64 h.b, .int .i64 h.n]
def cT (h : I2) : List Value := [.bool h.m, .int .i64 h.v]
def cE (h : E3) : List Value := [.int .i64 h.k, .int .i64 h.q, .int .i64 h.v]
def fI (h : Nat → I5) (n : Nat) : List Value := flat (fun i => cI (h i)) n
def fT (h : Nat → I2) (n : Nat) : List Value := flat (fun i => cT (h i)) n
def fE (h : Nat → E3) (n : Nat) : List Value := flat (fun i => cE (h i)) n
theorem fI_len (h : Nat → I5) (n : Nat) : (fI h n).length = n * 5 := flat_len fun _ _ => rfl
theorem fT_len (h : Nat → I2) (n : Nat) : (fT h n).length = n * 2 := flat_len fun _ _ => rfl
theorem fE_len (h : Nat → E3) (n : Nat) : (fE h n).length = n * 3 := flat_len fun _ _ => rfl
theorem fI_one (h : Nat → I5) (n : Nat) : ∀ u ∈ fI h n, u.oneCell' = true := flat_one fun i _ u hu => by
 simp [cI] at hu
 rcases hu with rfl | rfl | rfl | rfl | rfl <;> rfl
theorem fT_one (h : Nat → I2) (n : Nat) : ∀ u ∈ fT h n, u.oneCell' = true := flat_one fun i _ u hu => by
 simp [cT] at hu
 rcases hu with rfl | rfl <;> rfl
theorem fE_one (h : Nat → E3) (n : Nat) : ∀ u ∈ fE h n, u.oneCell' = true := flat_one fun i _ u hu => by
 simp [cE] at hu
 rcases hu with rfl | rfl | rfl <;> rfl
theorem kndI : Kind 87 136 5 40 := by
 refine ⟨Tryz.underlying87, ?_, by omega, by omega⟩
 have hinfo : (Tryz.prog.info? 136).map (fun i => (i.zero, i.size, i.bytes)) = some (some (.agg #[.int .i64 0, .int .i64 0, .int .i64 0, .int .i64 0, .int .i64 0]), 5, 40) := by kernel_rfl
 cases hi : Tryz.prog.info? 136 with
 | none => rw [hi] at hinfo; cases hinfo
 | some i =>
  rw [hi] at hinfo
  simp only [Option.map_some, Option.some.injEq, Prod.mk.injEq] at hinfo
  exact ⟨i, _, rfl, hinfo.1, hinfo.2.1, hinfo.2.2, rfl⟩
theorem kndT : Kind 32 75 2 16 := by
 refine ⟨Tryz.underlying32, ?_, by omega, by omega⟩
 have hinfo : (Tryz.prog.info? 75).map (fun i => (i.zero, i.size, i.bytes)) = some (some (.agg #[.bool false, .int .i64 0]), 2, 16) := by kernel_rfl
 cases hi : Tryz.prog.info? 75 with
 | none => rw [hi] at hinfo; cases hinfo
 | some i =>
  rw [hi] at hinfo
  simp only [Option.map_some, Option.some.injEq, Prod.mk.injEq] at hinfo
  exact ⟨i, _, rfl, hinfo.1, hinfo.2.1, hinfo.2.2, rfl⟩
theorem kndE : Kind 40 91 3 24 := by
 refine ⟨Tryz.underlying40, ?_, by omega, by omega⟩
 have hinfo : (Tryz.prog.info? 91).map (fun i => (i.zero, i.size, i.bytes)) = some (some (.agg #[.int .i64 0, .int .i64 0, .int .i64 0]), 3, 24) := by kernel_rfl
 cases hi : Tryz.prog.info? 91 with
 | none => rw [hi] at hinfo; cases hinfo
 | some i =>
  rw [hi] at hinfo
  simp only [Option.map_some, Option.some.injEq, Prod.mk.injEq] at hinfo
  exact ⟨i, _, rfl, hinfo.1, hinfo.2.1, hinfo.2.2, rfl⟩
theorem kndS : Kind 25 46 4 64 := by
 refine ⟨Tryz.underlying25, ?_, by omega, by omega⟩
 have hinfo := infoSta
 cases hi : Tryz.prog.info? 46 with
 | none => rw [hi] at hinfo; cases hinfo
 | some i =>
  rw [hi] at hinfo
  simp only [Option.map_some, Option.some.injEq, Prod.mk.injEq] at hinfo
  exact ⟨i, _, rfl, hinfo.1, hinfo.2.1, hinfo.2.2, rfl⟩
theorem kndII : Kind 24 87 1 24 := by
 refine ⟨Tryz.underlying24, ?_, by omega, by omega⟩
 have hinfo : (Tryz.prog.info? 87).map (fun i => (i.zero, i.size, i.bytes)) = some (some (.slice none 0 0), 1, 24) := by kernel_rfl
 cases hi : Tryz.prog.info? 87 with
 | none => rw [hi] at hinfo; cases hinfo
 | some i =>
  rw [hi] at hinfo
  simp only [Option.map_some, Option.some.injEq, Prod.mk.injEq] at hinfo
  exact ⟨i, _, rfl, hinfo.1, hinfo.2.1, hinfo.2.2, rfl⟩
theorem kndTT : Kind 26 32 1 24 := by
 refine ⟨Tryz.underlying26, ?_, by omega, by omega⟩
 have hinfo : (Tryz.prog.info? 32).map (fun i => (i.zero, i.size, i.bytes)) = some (some (.slice none 0 0), 1, 24) := by kernel_rfl
 cases hi : Tryz.prog.info? 32 with
 | none => rw [hi] at hinfo; cases hinfo
 | some i =>
  rw [hi] at hinfo
  simp only [Option.map_some, Option.some.injEq, Prod.mk.injEq] at hinfo
  exact ⟨i, _, rfl, hinfo.1, hinfo.2.1, hinfo.2.2, rfl⟩
theorem kndEE : Kind 27 40 1 24 := by
 refine ⟨Tryz.underlying27, ?_, by omega, by omega⟩
 have hinfo : (Tryz.prog.info? 40).map (fun i => (i.zero, i.size, i.bytes)) = some (some (.slice none 0 0), 1, 24) := by kernel_rfl
 cases hi : Tryz.prog.info? 40 with
 | none => rw [hi] at hinfo; cases hinfo
 | some i =>
  rw [hi] at hinfo
  simp only [Option.map_some, Option.some.injEq, Prod.mk.injEq] at hinfo
  exact ⟨i, _, rfl, hinfo.1, hinfo.2.1, hinfo.2.2, rfl⟩
theorem srcOf {w : World} {b off sz n : Nat} {f : Nat → List Value} (hb : b < w.heap.size) (hsz : 0 < sz) (hl : ∀ i, i < n → (f i).length = sz) (hc : ∀ i, i < n → ∀ j, j < sz → w.cell? ⟨b, off + (i * sz + j), none⟩ = (f i)[j]?) : Src w (some ⟨b, off, none⟩) (flat f n) := by
 refine .inr ⟨b, off, rfl, hb, fun q u hq => ?_⟩
 have hlen := flat_len hl
 have hq' : q < n * sz := by
  rcases Nat.lt_or_ge q (n * sz) with h | h
  ·exact h
  ·rw [List.getElem?_eq_none (by omega)] at hq
   cases hq
 have hk : q / sz < n := Nat.div_lt_of_lt_mul (by rw [Nat.mul_comm]; exact hq')
 have hr : q % sz < sz := Nat.mod_lt _ hsz
 have e : q / sz * sz + q % sz = q := by rw [Nat.mul_comm]; exact Nat.div_add_mod q sz
 have h1 := hc (q / sz) hk (q % sz) hr
 have h2 := flat_at hl hk hr
 rw [e] at h1 h2
 rw [h1, ← h2, hq]
theorem srcI {w : World} {b off len : Nat} {g : Nat → I5} (hb : b < w.heap.size) (h : InsAt w b off len g) : Src w (some ⟨b, off, none⟩) (fI g len) := srcOf (sz := 5) hb (by omega) (fun _ _ => rfl) fun i hi j hj => by
 obtain ⟨h0, h1, h2, h3, h4⟩ := h i hi
 match j, hj with
 | 0, _ => exact h0
 | 1, _ => exact h1
 | 2, _ => exact h2
 | 3, _ => exact h3
 | 4, _ => exact h4
theorem srcT {w : World} {a : Option Addr} {len : Nat} {g : Nat → I2} (h : ItL w a len g) : Src w a (fT g len) := by
 rcases h with rfl | ⟨b, off, rfl, hb, h⟩
 ·exact .inl rfl
 ·refine srcOf (sz := 2) hb (by omega) (fun _ _ => rfl) fun i hi j hj => ?_
  obtain ⟨h0, h1⟩ := h i hi
  match j, hj with
  | 0, _ => exact h0
  | 1, _ => exact h1
theorem srcE {w : World} {a : Option Addr} {len : Nat} {g : Nat → E3} (h : EvL w a len g) : Src w a (fE g len) := by
 rcases h with rfl | ⟨b, off, rfl, hb, h⟩
 ·exact .inl rfl
 ·refine srcOf (sz := 3) hb (by omega) (fun _ _ => rfl) fun i hi j hj => ?_
  obtain ⟨h0, h1, h2⟩ := h i hi
  match j, hj with
  | 0, _ => exact h0
  | 1, _ => exact h1
  | 2, _ => exact h2
theorem atI {w : World} {B : Nat} {u : Value} {n : Nat} {g : Nat → I5} (o : w.ownsRow B 136 5 u n (fI g n)) (hne : u ≠ .slice none 0 0) : ∃ b cap, u = .slice (some ⟨b, 0, none⟩) n cap ∧ b < w.heap.size ∧ InsAt w b 0 n g ∧ n ≤ cap := by
 rcases o.2 with ⟨e, _⟩ | ⟨b, cap, cur, rfl, hb, hg, hcap, _⟩
 ·exact absurd e hne
 ·refine ⟨b, cap, rfl, (o.lt b rfl).2, fun i hi => ?_, hcap⟩
  have hc : ∀ j, j < 5 → w.cell? ⟨b, 0 + (i * 5 + j), none⟩ = (cI (g i))[j]? := fun j hj => by
   rw [Nat.zero_add, o.cellAt _ (by omega)]
   exact flat_at (sz := 5) (fun _ _ => rfl) hi hj
  exact ⟨hc 0 (by omega), hc 1 (by omega), hc 2 (by omega), hc 3 (by omega), hc 4 (by omega)⟩
theorem atT {w : World} {B : Nat} {u : Value} {n : Nat} {g : Nat → I2} (o : w.ownsRow B 75 2 u n (fT g n)) (hne : u ≠ .slice none 0 0) : ∃ b cap, u = .slice (some ⟨b, 0, none⟩) n cap ∧ b < w.heap.size ∧ ItAt w b 0 n g ∧ n ≤ cap := by
 rcases o.2 with ⟨e, _⟩ | ⟨b, cap, cur, rfl, hb, hg, hcap, _⟩
 ·exact absurd e hne
 ·refine ⟨b, cap, rfl, (o.lt b rfl).2, fun i hi => ?_, hcap⟩
  have hc : ∀ j, j < 2 → w.cell? ⟨b, 0 + (i * 2 + j), none⟩ = (cT (g i))[j]? := fun j hj => by
   rw [Nat.zero_add, o.cellAt _ (by omega)]
   exact flat_at (sz := 2) (fun _ _ => rfl) hi hj
  exact ⟨hc 0 (by omega), hc 1 (by omega)⟩
theorem atE {w : World} {B : Nat} {u : Value} {n : Nat} {g : Nat → E3} (o : w.ownsRow B 91 3 u n (fE g n)) (hne : u ≠ .slice none 0 0) : ∃ b cap, u = .slice (some ⟨b, 0, none⟩) n cap ∧ b < w.heap.size ∧ EvAt w b 0 n g ∧ n ≤ cap := by
 rcases o.2 with ⟨e, _⟩ | ⟨b, cap, cur, rfl, hb, hg, hcap, _⟩
 ·exact absurd e hne
 ·refine ⟨b, cap, rfl, (o.lt b rfl).2, fun i hi => ?_, hcap⟩
  have hc : ∀ j, j < 3 → w.cell? ⟨b, 0 + (i * 3 + j), none⟩ = (cE (g i))[j]? := fun j hj => by
   rw [Nat.zero_add, o.cellAt _ (by omega)]
   exact flat_at (sz := 3) (fun _ _ => rfl) hi hj
  exact ⟨hc 0 (by omega), hc 1 (by omega), hc 2 (by omega)⟩
def Cl (B : Nat) (c : Nat → Nat) (i : Nat) : Nat → Prop := fun k => B ≤ k ∧ c k = i
abbrev LI (z : Bool) (w : World) (P : Nat → Prop) (v : Value) (n : Nat) (u : Nat → Value) (L : Nat → Nat) (H : Nat → Nat → I5) : Prop := LL z 136 5 87 w P v n u L fun i => fI (H i) (L i)
abbrev LT (z : Bool) (w : World) (P : Nat → Prop) (v : Value) (n : Nat) (u : Nat → Value) (L : Nat → Nat) (H : Nat → Nat → I2) : Prop := LL z 75 2 32 w P v n u L fun i => fT (H i) (L i)
abbrev LE (z : Bool) (w : World) (P : Nat → Prop) (v : Value) (n : Nat) (u : Nat → Value) (L : Nat → Nat) (H : Nat → Nat → E3) : Prop := LL z 91 3 40 w P v n u L fun i => fE (H i) (L i)
theorem append_one {ops : Array Oper} {rest : List Oper} {op : Oper} {act : Act} {Q : Exit → Act → World → Prop} (w : World) (hgd : op.guard = none) (s x : Operand)
  (ho : op.op = .call { callee := .builtin .append, args := #[s, x], argTypes := #[37, 37] })
  (B : Nat) (v : Value) (xs : List Int) (hs : act.eval s = v) (hv : OwnI w B v xs) (y : Int) (hx : act.eval x = .slice (some ⟨w.heap.size, 0, none⟩) 1 1) (hn : xs.length ≤ 1048576) (hB : B ≤ w.heap.size)
  (h : ∀ v' w', OwnI w' B v' (xs ++ [y]) → Below B w w' → wpList Tryz.prog ops Q rest (act.put op.dst v') w') :
  wpList Tryz.prog ops Q (op :: rest) act (w.alloc (.cells #[.int .i64 y] 3)) := by
 have hb : Below w.heap.size w (w.alloc (.cells #[.int .i64 y] 3)) := (Below.refl _ _).alloc (Nat.le_refl _) _
 refine wpList_append_ints _ hgd s x ho B 1 v (some ⟨w.heap.size, 0, none⟩) xs [y] hs hx (hv.below hb) (.inr ⟨w.heap.size, 0, rfl, by simp, fun i hi => ?_⟩) (by simp; omega) (by simp; omega) ?_
 ·have : i = 0 := by simp at hi; omega
  subst this
  exact new_cell _ _ _ 0 rfl
 ·intro v' w' o g _
  refine h v' w' o (Below.grown (hb.mono hB) g (by simp; omega) (fun k hk => (hv.lt k hk).1))
theorem append_oneN {ops : Array Oper} {rest : List Oper} {op : Oper} {act : Act} {Q : Exit → Act → World → Prop} (w : World) {N : Nat} (hN : N = w.heap.size) (hgd : op.guard = none) (s x : Operand)
  (ho : op.op = .call { callee := .builtin .append, args := #[s, x], argTypes := #[37, 37] })
  (B : Nat) (v : Value) (xs : List Int) (hs : act.eval s = v) (hv : OwnI w B v xs) (y : Int) (hx : act.eval x = .slice (some ⟨N, 0, none⟩) 1 1) (hn : xs.length ≤ 1048576) (hB : B ≤ w.heap.size)
  (h : ∀ v' w', OwnI w' B v' (xs ++ [y]) → Below B w w' → wpList Tryz.prog ops Q rest (act.put op.dst v') w') :
  wpList Tryz.prog ops Q (op :: rest) act (w.alloc (.cells #[.int .i64 y] 3)) := by
 subst hN
 exact append_one w hgd s x ho B v xs hs hv y hx hn hB h
theorem OwnI.to {w : World} {B : Nat} {v : Value} {xs ys : List Int} (h : OwnI w B v xs) (e : ys = xs) : OwnI w B v ys := e ▸ h
def hitB (eh : Nat → E3) (kd pr : Int) (i : Nat) : Bool := ((eh i).k == kd) && ((eh i).q == pr)
def plN (eh : Nat → E3) (kd pr : Int) : Nat → List Nat
 | 0 => []
 | n + 1 => if hitB eh kd pr n = true then plN eh kd pr n ++ [n] else plN eh kd pr n
def valL (eh : Nat → E3) (kd pr : Int) (n : Nat) : List Int := (plN eh kd pr n).map fun i => (eh i).v
def plI (eh : Nat → E3) (kd pr : Int) (n : Nat) : List Int := (plN eh kd pr n).map fun i : Nat => (i : Int)
theorem plN_le (eh : Nat → E3) (kd pr : Int) : ∀ n, (plN eh kd pr n).length ≤ n
 | 0 => Nat.le_refl _
 | n + 1 => by
  unfold plN
  have := plN_le eh kd pr n
  split
  ·simp; omega
  ·omega
theorem valL_le (eh : Nat → E3) (kd pr : Int) (n : Nat) : (valL eh kd pr n).length ≤ n := by
 unfold valL
 rw [List.length_map]
 exact plN_le eh kd pr n
theorem plI_le (eh : Nat → E3) (kd pr : Int) (n : Nat) : (plI eh kd pr n).length ≤ n := by
 unfold plI
 rw [List.length_map]
 exact plN_le eh kd pr n
theorem valL_hit {eh : Nat → E3} {kd pr : Int} {n : Nat} (hh : hitB eh kd pr n = true) : valL eh kd pr (n + 1) = valL eh kd pr n ++ [(eh n).v] := by
 unfold valL
 rw [plN, if_pos hh, List.map_append]
 rfl
theorem valL_not {eh : Nat → E3} {kd pr : Int} {n : Nat} (hh : hitB eh kd pr n = false) : valL eh kd pr (n + 1) = valL eh kd pr n := by
 unfold valL
 rw [plN, if_neg (by rw [hh]; decide)]
theorem plI_hit {eh : Nat → E3} {kd pr : Int} {n : Nat} (hh : hitB eh kd pr n = true) : plI eh kd pr (n + 1) = plI eh kd pr n ++ [(n : Int)] := by
 unfold plI
 rw [plN, if_pos hh, List.map_append]
 rfl
theorem plI_not {eh : Nat → E3} {kd pr : Int} {n : Nat} (hh : hitB eh kd pr n = false) : plI eh kd pr (n + 1) = plI eh kd pr n := by
 unfold plI
 rw [plN, if_neg (by rw [hh]; decide)]
def numL (h : Nat → I2) : Nat → List Int
 | 0 => []
 | n + 1 => if (h n).m = true then numL h n else numL h n ++ [(h n).v]
theorem numL_le (h : Nat → I2) : ∀ n, (numL h n).length ≤ n
 | 0 => Nat.le_refl _
 | n + 1 => by
  unfold numL
  have := numL_le h n
  split
  ·omega
  ·simp; omega
theorem numL_hit {h : Nat → I2} {n : Nat} (hh : (h n).m = false) : numL h (n + 1) = numL h n ++ [(h n).v] := by
 rw [numL, if_neg (by rw [hh]; decide)]
theorem numL_not {h : Nat → I2} {n : Nat} (hh : (h n).m = true) : numL h (n + 1) = numL h n := by
 rw [numL, if_pos hh]
theorem ownsRow_slice {w : World} {B : Nat} {e : TypeId} {sz : Nat} {v : Value} {n : Nat} {xs : List Value} (h : w.ownsRow B e sz v n xs) : ∃ a c, v = .slice a n c := by
 rcases h.2 with ⟨rfl, rfl⟩ | ⟨g, cap, cur, rfl, _⟩
 ·exact ⟨none, 0, rfl⟩
 ·exact ⟨_, _, rfl⟩
theorem l4Ins_any (a0 : Option Addr) (n cap : Nat) (A : Nat → Option Addr) (L C : Nat → Nat) (H : Nat → Nat → I5) (w : World) (hn : n ≤ 1048576) (hL : ∀ i, i < n → L i ≤ 1048576) (hr : RowS w a0 n fun i => .slice (A i) (L i) (C i)) (hI : ∀ i, i < n → Src w (A i) (fI (H i) (L i))) :
  Calls Tryz.prog 142 #[.slice a0 n cap] w fun e w' => ∃ v u, e = .returned v ∧ LI true w' (fun k => w.heap.size ≤ k ∧ k < w'.heap.size) v n u L H ∧ Below w.heap.size w w' := by
 have hn' : (n : Int) ≤ 1048576 := by omega
 have HR : Hid (RowS w a0 n fun i => .slice (A i) (L i) (C i)) := hr
 have HI : Hid (∀ i, i < n → Src w (A i) (fI (H i) (L i))) := hI
 have HL : Hid (∀ i, i < n → L i ≤ 1048576) := hL
 clear hr hI hL
 go_enter Tryz.func142, Tryz.ntmps142
 go_wp2_with fail
 go_loopw [3, 4] (fun v i wr => ∃ k : Nat, k ≤ n ∧ i = .int .i64 k ∧ Hid ((∃ u, LI true wr (fun b => w.heap.size ≤ b ∧ b < wr.heap.size) v k u L H) ∧ Below w.heap.size w wr)) (fun _ i _ => n - (intOf i).toNat)
 case atStart => exact ⟨0, Nat.zero_le _, rfl, ⟨fun _ => .slice none 0 0, LL.new _ _ _ w _ (by simp) _ _ _⟩, below_allocL _ _⟩
 case round =>
  obtain ⟨k, hk, rfl, HZ⟩ := hrel
  by_cases hlt : k < n
  ·have hlt' : (k : Int) < (n : Int) := by omega
   obtain ⟨b, off, rfl, ck⟩ := (HR.out.below HZ.out.2).at hlt
   have hbl : b < wr.heap.size := World.block_lt_of_cell? wr _ ck
   have HS : Hid (Src wr (A k) (fI (H k) (L k))) := (HI.out k hlt).below HZ.out.2
   have HLk : Hid (L k ≤ 1048576) := HL.out k hlt
   have hk2 : Hid (k ≤ 2000000) := by show k ≤ 2000000; omega
   obtain ⟨⟨u, oz⟩, bz⟩ := HZ.out
   have OZ : Hid (LI true wr (fun b => w.heap.size ≤ b ∧ b < wr.heap.size) u3 k u L H) := oz
   have BZ : Hid (Below w.heap.size w wr) := bz
   clear oz bz HZ
   go_wp2_with (first
    | (at_builtin; refine step_append_srcN kndI wr rfl rfl _ _ rfl (A k) (L k) (C k) (fI (H k) (L k)) rfl rfl (fI_len _ _) HS.out (fI_one _ _) (Nat.le_trans HLk.out (by omega)) ?_; intro v4 w4 o4 b4 n4; obtain ⟨a4, c4, rfl⟩ := ownsRow_slice o4; have F4 : Hid (w4.ownsRow wr.heap.size 136 5 (.slice a4 (L k) c4) (L k) (fI (H k) (L k)) ∧ Below wr.heap.size wr w4 ∧ Value.slice a4 (L k) c4 ≠ .slice none 0 0) := ⟨o4, b4, n4⟩; clear o4 b4 n4)
    | (at_builtin; refine step_append_val kndII w4 rfl rfl _ _ rfl 0 u3 k _ rfl (OZ.out.below F4.out.2.1).row #[.slice a4 (L k) c4] rfl rfl (by intro u hu; simp at hu; subst hu; rfl) hk2.out (Nat.zero_le _) ?_; intro v5 w5 o5 g5 q5 n5; have F5 : Hid (LI true w5 (fun b => w.heap.size ≤ b ∧ b < w5.heap.size) v5 (k + 1) (fun j => if j = k then .slice a4 (L k) c4 else u j) L H ∧ Below w.heap.size w w5) := ⟨OZ.out.push F4.out.2.1 F4.out.1 (fun _ => F4.out.2.2) o5 g5 q5 (fun j hj _ => ⟨hj.1, Nat.lt_of_lt_of_le hj.2 (Nat.le_trans F4.out.2.1.size g5.size)⟩) (fun j hj hj' => ⟨Nat.le_trans BZ.out.size hj, hj'⟩), Below.grown (BZ.out.trans (F4.out.2.1.mono BZ.out.size)) g5 (Nat.le_trans BZ.out.size F4.out.2.1.size) (fun j hj => (OZ.out.rb j hj).1)⟩; clear o5 g5 q5 n5))
   go_roundw
   case rel => exact ⟨k + 1, by omega, by go_num, ⟨_, F5.out.1⟩, F5.out.2⟩
   case measure => simp [intOf]; omega
  ·have hkn : k = n := by omega
   subst hkn
   go_wp2
   go_ret
   obtain ⟨⟨u, oz⟩, bz⟩ := HZ.out
   exact ⟨_, u, rfl, oz, bz⟩
theorem l4Events_any (a0 : Option Addr) (n cap : Nat) (A : Nat → Option Addr) (L C : Nat → Nat) (H : Nat → Nat → E3) (w : World) (hn : n ≤ 1048576) (hL : ∀ i, i < n → L i ≤ 1048576) (hr : RowS w a0 n fun i => .slice (A i) (L i) (C i)) (hI : ∀ i, i < n → Src w (A i) (fE (H i) (L i))) :
  Calls Tryz.prog 143 #[.slice a0 n cap] w fun e w' => ∃ v u, e = .returned v ∧ LE true w' (fun k => w.heap.size ≤ k ∧ k < w'.heap.size) v n u L H ∧ Below w.heap.size w w' := by
 have hn' : (n : Int) ≤ 1048576 := by omega
 have HR : Hid (RowS w a0 n fun i => .slice (A i) (L i) (C i)) := hr
 have HI : Hid (∀ i, i < n → Src w (A i) (fE (H i) (L i))) := hI
 have HL : Hid (∀ i, i < n → L i ≤ 1048576) := hL
 clear hr hI hL
 go_enter Tryz.func143, Tryz.ntmps143
 go_wp2_with fail
 go_loopw [3, 4] (fun v i wr => ∃ k : Nat, k ≤ n ∧ i = .int .i64 k ∧ Hid ((∃ u, LE true wr (fun b => w.heap.size ≤ b ∧ b < wr.heap.size) v k u L H) ∧ Below w.heap.size w wr)) (fun _ i _ => n - (intOf i).toNat)
 case atStart => exact ⟨0, Nat.zero_le _, rfl, ⟨fun _ => .slice none 0 0, LL.new _ _ _ w _ (by simp) _ _ _⟩, below_allocL _ _⟩
 case round =>
  obtain ⟨k, hk, rfl, HZ⟩ := hrel
  by_cases hlt : k < n
  ·have hlt' : (k : Int) < (n : Int) := by omega
   obtain ⟨b, off, rfl, ck⟩ := (HR.out.below HZ.out.2).at hlt
   have hbl : b < wr.heap.size := World.block_lt_of_cell? wr _ ck
   have HS : Hid (Src wr (A k) (fE (H k) (L k))) := (HI.out k hlt).below HZ.out.2
   have HLk : Hid (L k ≤ 1048576) := HL.out k hlt
   have hk2 : Hid (k ≤ 2000000) := by show k ≤ 2000000; omega
   obtain ⟨⟨u, oz⟩, bz⟩ := HZ.out
   have OZ : Hid (LE true wr (fun b => w.heap.size ≤ b ∧ b < wr.heap.size) u3 k u L H) := oz
   have BZ : Hid (Below w.heap.size w wr) := bz
   clear oz bz HZ
   go_wp2_with (first
    | (at_builtin; refine step_append_srcN kndE wr rfl rfl _ _ rfl (A k) (L k) (C k) (fE (H k) (L k)) rfl rfl (fE_len _ _) HS.out (fE_one _ _) (Nat.le_trans HLk.out (by omega)) ?_; intro v4 w4 o4 b4 n4; obtain ⟨a4, c4, rfl⟩ := ownsRow_slice o4; have F4 : Hid (w4.ownsRow wr.heap.size 91 3 (.slice a4 (L k) c4) (L k) (fE (H k) (L k)) ∧ Below wr.heap.size wr w4 ∧ Value.slice a4 (L k) c4 ≠ .slice none 0 0) := ⟨o4, b4, n4⟩; clear o4 b4 n4)
    | (at_builtin; refine step_append_val kndEE w4 rfl rfl _ _ rfl 0 u3 k _ rfl (OZ.out.below F4.out.2.1).row #[.slice a4 (L k) c4] rfl rfl (by intro u hu; simp at hu; subst hu; rfl) hk2.out (Nat.zero_le _) ?_; intro v5 w5 o5 g5 q5 n5; have F5 : Hid (LE true w5 (fun b => w.heap.size ≤ b ∧ b < w5.heap.size) v5 (k + 1) (fun j => if j = k then .slice a4 (L k) c4 else u j) L H ∧ Below w.heap.size w w5) := ⟨OZ.out.push F4.out.2.1 F4.out.1 (fun _ => F4.out.2.2) o5 g5 q5 (fun j hj _ => ⟨hj.1, Nat.lt_of_lt_of_le hj.2 (Nat.le_trans F4.out.2.1.size g5.size)⟩) (fun j hj hj' => ⟨Nat.le_trans BZ.out.size hj, hj'⟩), Below.grown (BZ.out.trans (F4.out.2.1.mono BZ.out.size)) g5 (Nat.le_trans BZ.out.size F4.out.2.1.size) (fun j hj => (OZ.out.rb j hj).1)⟩; clear o5 g5 q5 n5))
   go_roundw
   case rel => exact ⟨k + 1, by omega, by go_num, ⟨_, F5.out.1⟩, F5.out.2⟩
   case measure => simp [intOf]; omega
  ·have hkn : k = n := by omega
   subst hkn
   go_wp2
   go_ret
   obtain ⟨⟨u, oz⟩, bz⟩ := HZ.out
   exact ⟨_, u, rfl, oz, bz⟩
end Go.Proofs.YtbleeedbiipfnaaGreatDoor
