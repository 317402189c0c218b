/- Lists of lists of one's own, of whatever kind: appended to, put into. -/
import Derived.Test.YthdaejgmfognbaaGreatDoorXd0
import Derived.Test.YthdaejgmfognbaaGreatDoorXd15
import Derived.Test.YthdaejgmfognbaaGreatDoorXd16
import Derived.Maps.AppendAt
import Derived.OneCell
namespace Go.Proofs.YthdaejgmfognbaaGreatDoor
open Go.RowKit
def cnt (eh : Nat -> E3) (kd pr : Int) (n : Nat) : Nat := (plN eh kd pr n).length
theorem cnt_zero (eh : Nat -> E3) (kd pr : Int) : cnt eh kd pr 0 = 0 := rfl
theorem cnt_hit {eh : Nat -> E3} {kd pr : Int} {n : Nat} (h : hitB eh kd pr n = true) : cnt eh kd pr (n + 1) = cnt eh kd pr n + 1 := by
 unfold cnt
 rw [plN, if_pos h, List.length_append]
 rfl
theorem cnt_not {eh : Nat -> E3} {kd pr : Int} {n : Nat} (h : hitB eh kd pr n = false) : cnt eh kd pr (n + 1) = cnt eh kd pr n := by
 unfold cnt
 rw [plN, if_neg (by rw [h]; decide)]
theorem cnt_le (eh : Nat -> E3) (kd pr : Int) (n : Nat) : cnt eh kd pr n <= n := plN_le eh kd pr n
theorem cnt_mono (eh : Nat -> E3) (kd pr : Int) {a b : Nat} (h : a <= b) : cnt eh kd pr a <= cnt eh kd pr b := by
 induction b with
 | zero =>
  have : a = 0 := by omega
  subst this
  exact Nat.le_refl _
 | succ b ih =>
  by_cases e : a = b + 1
  ·subst e
   exact Nat.le_refl _
  ·have := ih (by omega)
   rcases zK (hitB eh kd pr b) with t | t
   ·rw [cnt_hit t]
    omega
   ·rw [cnt_not t]
    exact this
theorem hitB_iff {eh : Nat -> E3} {kd pr : Int} {i : Nat} : hitB eh kd pr i = true ↔ (eh i).k = kd /\ (eh i).q = pr := by
 simp [hitB]
structure Hs where
 n : Nat
 l : Nat -> Nat
 e : Nat -> Nat -> E3
def Hs.Peers (x : Hs) : Prop := ∀ p, p < x.n -> ∀ i, i < x.l p -> 0 <= (x.e p i).q /\ (x.e p i).q < (x.n : Int)
def Hs.Can (x : Hs) (d : Nat -> Nat) (p : Nat) : Prop :=
 d p < x.l p /\ ((x.e p (d p)).k = 3 -> cnt (x.e p) 3 (x.e p (d p)).q (d p) < cnt (x.e (x.e p (d p)).q.toNat) 2 p (d (x.e p (d p)).q.toNat))
def up (d : Nat -> Nat) (p : Nat) : Nat -> Nat := fun i => if i = p then d i + 1 else d i
theorem up_same (d : Nat -> Nat) (p : Nat) : up d p p = d p + 1 := by simp [up]
theorem up_other {d : Nat -> Nat} {p i : Nat} (h : i ≠ p) : up d p i = d i := by simp [up, h]
inductive Hs.Put (x : Hs) : (Nat -> Nat) -> Prop
 | start : x.Put (fun _ => 0)
 | next {d : Nat -> Nat} {p : Nat} : x.Put d -> p < x.n -> x.Can d p -> x.Put (up d p)
def Hs.All (x : Hs) (d : Nat -> Nat) : Prop := ∀ p, p < x.n -> d p = x.l p
def Hs.Row (x : Hs) : Prop := ∃ d, x.Put d /\ x.All d
theorem Hs.Put.le {x : Hs} {d : Nat -> Nat} (h : x.Put d) : ∀ p, d p <= x.l p := by
 induction h with
 | start => exact fun _ => Nat.zero_le _
 | next _ _ hc ih =>
  rename_i d p _ _
  intro i
  by_cases e : i = p
  ·subst e
   rw [up_same]
   exact hc.1
  ·rw [up_other e]
   exact ih i
theorem Hs.Put.stuck {x : Hs} {d s : Nat -> Nat} (h : x.Put d) (hp : x.Peers) (hs : ∀ p, p < x.n -> ¬ x.Can s p) : ∀ p, p < x.n -> d p <= s p := by
 induction h with
 | start => exact fun _ _ => Nat.zero_le _
 | next _ hpn hc ih =>
  rename_i d p _
  intro i hi
  by_cases e : i = p
  ·subst e
   rw [up_same]
   have h1 := ih i hi
   by_cases e : d i = s i
   ·exfalso
    refine hs i hi ⟨by rw [<- e]; exact hc.1, fun hk => ?_⟩
    rw [<- e] at hk ⊢
    have h2 := hc.2 hk
    have hq := hp i hi (d i) hc.1
    exact zL h2 (cnt_mono _ _ _ (ih _ (by omega)))
   ·omega
  ·rw [up_other e]
   exact ih i hi
theorem Hs.row_iff {x : Hs} {s : Nat -> Nat} (h : x.Put s) (hp : x.Peers) (hs : ∀ p, p < x.n -> ¬ x.Can s p) : x.Row ↔ x.All s := by
 refine ⟨fun ⟨d, hd, ha⟩ p hpn => ?_, fun ha => ⟨s, h, ha⟩⟩
 have h1 := hd.stuck hp hs p hpn
 have h2 := h.le p
 have h3 := ha p hpn
 omega
def Hs.opn (x : Hs) (d : Nat -> Nat) (a b : Nat) : Int := (cnt (x.e a) 2 b (d a) : Int) - (cnt (x.e b) 3 a (d b) : Int)
theorem Hs.opn_start (x : Hs) (a b : Nat) : x.opn (fun _ => 0) a b = 0 := by simp [Hs.opn, cnt_zero]
theorem Hs.can_iff {x : Hs} {d : Nat -> Nat} {p : Nat} (hp : x.Peers) (hpn : p < x.n) : x.Can d p ↔ d p < x.l p /\ ((x.e p (d p)).k = 3 -> 0 < x.opn d (x.e p (d p)).q.toNat p) := by
 unfold Hs.Can Hs.opn
 refine and_congr_right fun hl => ?_
 have hq := hp p hpn _ hl
 rw [show (((x.e p (d p)).q.toNat : Nat) : Int) = (x.e p (d p)).q by omega]
 refine ⟨fun h hk => ?_, fun h hk => ?_⟩
 ·have := h hk
  omega
 ·have := h hk
  omega
theorem Hs.opn_up {x : Hs} {d : Nat -> Nat} {p a b : Nat} : x.opn (up d p) a b = x.opn d a b + (if a = p /\ (x.e p (d p)).k = 2 /\ (x.e p (d p)).q = (b : Int) then 1 else 0) - (if b = p /\ (x.e p (d p)).k = 3 /\ (x.e p (d p)).q = (a : Int) then 1 else 0) := by
 have hA : (cnt (x.e a) 2 b (up d p a) : Int) = cnt (x.e a) 2 b (d a) + (if a = p /\ (x.e p (d p)).k = 2 /\ (x.e p (d p)).q = (b : Int) then 1 else 0) := by
  by_cases e : a = p
  ·subst e
   rw [up_same]
   rcases zK (hitB (x.e a) 2 b (d a)) with t | t
   ·rw [cnt_hit t, if_pos ⟨rfl, hitB_iff.1 t⟩]
    omega
   ·rw [cnt_not t, if_neg (fun h => by rw [hitB_iff.2 h.2] at t; cases t)]
    omega
  ·rw [up_other e, if_neg (fun h => e h.1)]
   omega
 have hB : (cnt (x.e b) 3 a (up d p b) : Int) = cnt (x.e b) 3 a (d b) + (if b = p /\ (x.e p (d p)).k = 3 /\ (x.e p (d p)).q = (a : Int) then 1 else 0) := by
  by_cases e : b = p
  ·subst e
   rw [up_same]
   rcases zK (hitB (x.e b) 3 a (d b)) with t | t
   ·rw [cnt_hit t, if_pos ⟨rfl, hitB_iff.1 t⟩]
    omega
   ·rw [cnt_not t, if_neg (fun h => by rw [hitB_iff.2 h.2] at t; cases t)]
    omega
  ·rw [up_other e, if_neg (fun h => e h.1)]
   omega
 unfold Hs.opn
 rw [hA, hB]
 omega
def ItL (w : World) (a : Option Addr) (len : Nat) (h : Nat -> I2) : Prop := len = 0 \/ ∃ b off, a = some ⟨b, off, none⟩ /\ b < w.heap.size /\ ItAt w b off len h
theorem ItL.below {w w' : World} {a : Option Addr} {len : Nat} {h : Nat -> I2} (hh : ItL w a len h) (hb : Below w.heap.size w w') : ItL w' a len h := by
 rcases hh with e | ⟨b, off, e, hlt, hc⟩
 ·exact .inl e
 ·exact .inr ⟨b, off, e, zL hlt hb.size, hc.below hb hlt⟩
theorem ItL.at {w : World} {a : Option Addr} {len : Nat} {h : Nat -> I2} (hh : ItL w a len h) {k : Nat} (hk : k < len) : ∃ b off, a = some ⟨b, off, none⟩ /\ b < w.heap.size /\ w.cell? ⟨b, off + k * 2, none⟩ = some (.bool (h k).m) /\ w.cell? ⟨b, off + k * 2 + 1, none⟩ = some (.int .i64 (h k).v) := by
 rcases hh with rfl | ⟨b, off, e, hlt, hc⟩
 ·omega
 ·exact ⟨b, off, e, hlt, hc k hk⟩
open Go.Deep
theorem valL_length (eh : Nat -> E3) (kd pr : Int) (n : Nat) : (valL eh kd pr n).length = (plN eh kd pr n).length := by simp [valL]
theorem plI_length (eh : Nat -> E3) (kd pr : Int) (n : Nat) : (plI eh kd pr n).length = (plN eh kd pr n).length := by simp [plI]
theorem zi_append {xs ys : List Int} {i : Nat} (h : i < xs.length) : zi (xs ++ ys) i = zi xs i := by
 unfold zi
 rw [List.getD_eq_getElem?_getD, List.getD_eq_getElem?_getD, List.getElem?_append_left h]
theorem zi_end (xs : List Int) (y : Int) : zi (xs ++ [y]) xs.length = y := by
 unfold zi
 rw [List.getD_eq_getElem?_getD, List.getElem?_append_right (Nat.le_refl _)]
 simp
def nthV (eh : Nat -> E3) (kd pr : Int) (len : Nat) (n : Int) : Int := if belB n ((plI eh kd pr len).length : Nat) = true then zi (plI eh kd pr len) n.toNat else -1
theorem plI_at (eh : Nat -> E3) (kd pr : Int) (k : Nat) (hh : hitB eh kd pr k = true) : ∀ d, zi (plI eh kd pr (k + 1 + d)) (plI eh kd pr k).length = k /\ (plI eh kd pr k).length < (plI eh kd pr (k + 1 + d)).length
 | 0 => by
  rw [Nat.add_zero, plI_hit hh]
  exact ⟨zi_end _ _, by simp⟩
 | d + 1 => by
  obtain ⟨h1, h2⟩ := plI_at eh kd pr k hh d
  rw [<- Nat.add_assoc]
  rcases zK (hitB eh kd pr (k + 1 + d)) with h | h
  ·rw [plI_hit h, zi_append h2]
   exact ⟨h1, by simp; omega⟩
  ·rw [plI_not h]
   exact ⟨h1, h2⟩
theorem nthV_hit {eh : Nat -> E3} {kd pr : Int} {k len : Nat} {n : Int} (hk : k < len) (hh : hitB eh kd pr k = true) (hn : n = (plI eh kd pr k).length) : nthV eh kd pr len n = k := by
 obtain ⟨d, rfl⟩ : ∃ d, len = k + 1 + d := ⟨len - k - 1, by omega⟩
 obtain ⟨h1, h2⟩ := plI_at eh kd pr k hh d
 subst hn
 unfold nthV
 rw [if_pos (by simp [belB]; omega), Int.toNat_natCast, h1]
theorem plN_mem (eh : Nat -> E3) (kd pr : Int) : ∀ n, ∀ q ∈ plN eh kd pr n, q < n
 | 0, q, h => by simp [plN] at h
 | n + 1, q, h => by
  unfold plN at h
  split at h
  ·simp at h
   rcases h with h | h
   ·have := plN_mem eh kd pr n q h
    omega
   ·omega
  ·have := plN_mem eh kd pr n q h
   omega
theorem plI_place (eh : Nat -> E3) (kd pr : Int) (len j : Nat) (hj : j < (plI eh kd pr len).length) : ∃ q : Nat, zi (plI eh kd pr len) j = (q : Int) /\ q < len /\ (plN eh kd pr len)[j]? = some q := by
 have hj' : j < (plN eh kd pr len).length := by rw [plI_length] at hj; exact hj
 refine ⟨(plN eh kd pr len)[j], ?_, plN_mem eh kd pr len _ (List.getElem_mem hj'), List.getElem?_eq_getElem hj'⟩
 unfold zi plI
 rw [List.getD_eq_getElem?_getD, List.getElem?_map, List.getElem?_eq_getElem hj']
 rfl
theorem append_far {ops : Array Oper} {rest : List Oper} {op : Oper} {act : Act} {Q : Exit -> Act -> World -> Prop} (w : World) (hgd : op.guard = none) (s x : Operand)
  (ho : op.op = .call { callee := .builtin .append, args := #[s, x], argTypes := #[30, 30] })
  (B : Nat) (v : Value) (xs : List Int) (hs : act.eval s = v) (hv : OwnI w B v xs) (y : Int) (hx : act.eval x = .slice (some ⟨w.heap.size, 0, none⟩) 1 1) (hn : xs.length <= 1048576) (hB : B <= w.heap.size)
  (h : ∀ v' w', OwnI w' B v' (xs ++ [y]) -> w.grownBy w' v.ownBlock -> (∀ j, v'.ownBlock = some j -> v.ownBlock = some j \/ w.heap.size <= j) -> wpList Tryz.prog ops Q rest (act.put op.dst v') w') :
  wpList Tryz.prog ops Q (op :: rest) act (w.alloc (.cells #[.int .i64 y] 3)) := by
 have hb : Below w.heap.size w (w.alloc (.cells #[.int .i64 y] 3)) := (Below.refl _ _).alloc (Nat.le_refl _) _
 refine wpList_append_ints _ hgd s x ho B 1 v (some ⟨w.heap.size, 0, none⟩) xs [y] hs hx (hv.below hb) (.inr ⟨w.heap.size, 0, rfl, by simp, fun i hi => ?_⟩) (by simp; omega) (by simp; omega) ?_
 ·have : i = 0 := by simp at hi; omega
  subst this
  exact zV _ _ _ 0 rfl
 ·intro v' w' o g a
  refine h v' w' o ⟨g.os, g.tape, g.output, zO hb.size g.size, fun k hk hne => (g.block k (zL hk hb.size) hne).trans (hb.block k hk)⟩ fun j hj => ?_
  rcases a with a | a
  ·exact .inl (a.symm.trans hj)
  ·rw [hj] at a
   simp only [Option.some.injEq] at a
   right
   rw [a]
   simp
def Away (w w1 wr : World) (o : Value) : Prop := (∀ j, o.ownBlock = some j -> j = w.heap.size \/ w1.heap.size <= j) /\ (∀ j, w.heap.size < j -> j < w1.heap.size -> wr.heap[j]? = w1.heap[j]?) /\ w1.heap.size <= wr.heap.size
theorem Away.step {w w1 wr w4 : World} {o v' : Value} (h : Away w w1 wr o) (g : wr.grownBy w4 o.ownBlock) (a : ∀ j, v'.ownBlock = some j -> o.ownBlock = some j \/ wr.heap.size <= j) : Away w w1 w4 v' := by
 obtain ⟨h1, h2, h3⟩ := h
 refine ⟨fun j hj => ?_, fun j p1 p2 => ?_, zO h3 g.size⟩
 ·rcases a j hj with a | a
  ·exact h1 j a
  ·right; omega
 ·rw [g.block j (by omega) (fun e => ?_), h2 j p1 p2]
  rcases h1 j e.symm with e | e <;> omega
theorem Away.sl {w w1 wr : World} {o : Value} (h : Away w w1 wr o) {B cp : Nat} {a0 : Option Addr} {xs : List Int} (hB : w.heap.size < B) (hO : OwnI w1 B (.slice a0 xs.length cp) xs) : Sl wr a0 xs := by
 by_cases hx : 0 < xs.length
 ·obtain ⟨g, cap, e, hg, hl⟩ := hO.block hx
  simp only [Value.slice.injEq] at e
  obtain ⟨rfl, -, rfl⟩ := e
  refine .inr ⟨g, 0, rfl, zL hl h.2.2, fun i hi => ?_⟩
  rw [Nat.zero_add, zH (h.2.1 g (by omega) hl)]
  exact hO.cell hi
 ·exact .inl (List.eq_nil_of_length_eq_zero (by omega))
def valT (eh : Nat -> E3) (kd pr : Int) (len j : Nat) : List Int := ((plN eh kd pr len).take j).map fun i => (eh i).v
theorem valT_le (eh : Nat -> E3) (kd pr : Int) (len j : Nat) : (valT eh kd pr len j).length <= j := by simp [valT]; omega
theorem valT_all (eh : Nat -> E3) (kd pr : Int) (len : Nat) : valT eh kd pr len (plI eh kd pr len).length = valL eh kd pr len := by
 unfold valT valL
 rw [plI_length, List.take_length]
theorem valT_next {eh : Nat -> E3} {kd pr : Int} {len j q : Nat} (h : (plN eh kd pr len)[j]? = some q) : valT eh kd pr len (j + 1) = valT eh kd pr len j ++ [(eh q).v] := by
 unfold valT
 rw [List.take_add_one, h, List.map_append]
 rfl
open Go.ChangeShapes Go.WideShapes Go.ChangeAt
def Nz (z : Bool) (e : TypeId) : Prop := z = true \/ e = 155
structure LL (z : Bool) (e : TypeId) (sz : Nat) (E : TypeId) (w : World) (P : Nat -> Prop) (v : Value) (n : Nat) (u : Nat -> Value) (L : Nat -> Nat) (c : Nat -> List Value) : Prop where
 row : w.ownsRow 0 E 1 v n ((List.range n).map u)
 own : ∀ i, i < n -> w.ownsRow 0 e sz (u i) (L i) (c i)
 rb : ∀ k, v.ownBlock = some k -> P k
 ob : ∀ i, i < n -> ∀ k, (u i).ownBlock = some k -> P k
 ra : ∀ i, i < n -> ∀ k, (u i).ownBlock = some k -> v.ownBlock ≠ some k
 oa : ∀ i j, i < n -> j < n -> i ≠ j -> ∀ k, (u i).ownBlock = some k -> (u j).ownBlock ≠ some k
 nn : Nz z e -> ∀ i, i < n -> u i ≠ .slice none 0 0
theorem ownsRow_blkL {w w' : World} {B size n : Nat} {e : TypeId} {v : Value} {xs : List Value} (h : w.ownsRow B e size v n xs) (hb : ∀ k, v.ownBlock = some k -> w'.heap[k]? = w.heap[k]?) : w'.ownsRow B e size v n xs := by
 refine ⟨h.1, ?_⟩
 rcases h.2 with hn | ⟨g, cap, cur, rfl, hB, hg, hr⟩
 ·exact .inl hn
 ·exact .inr ⟨g, cap, cur, rfl, hB, (hb g rfl).trans hg, hr⟩
theorem ownsRow_base0 {w : World} {B size n : Nat} {e : TypeId} {v : Value} {xs : List Value} (h : w.ownsRow B e size v n xs) : w.ownsRow 0 e size v n xs := h.mono (Nat.zero_le _)
section
variable {z : Bool} {e : TypeId} {sz : Nat} {E : TypeId} {w : World} {P : Nat -> Prop} {v : Value} {n : Nat} {u : Nat -> Value} {L : Nat -> Nat} {c : Nat -> List Value}
theorem LL.keep (o : LL z e sz E w P v n u L c) {w' : World} (hb : ∀ k, P k -> k < w.heap.size -> w'.heap[k]? = w.heap[k]?) : LL z e sz E w' P v n u L c :=
 ⟨ownsRow_blkL o.row fun k hk => hb k (o.rb k hk) (o.row.lt k hk).2, fun i hi => ownsRow_blkL (o.own i hi) fun k hk => hb k (o.ob i hi k hk) ((o.own i hi).lt k hk).2, o.rb, o.ob, o.ra, o.oa, o.nn⟩
theorem LL.below (o : LL z e sz E w P v n u L c) {w' : World} (hb : Below w.heap.size w w') : LL z e sz E w' P v n u L c := o.keep fun k _ hk => hb.block k hk
theorem LL.mono (o : LL z e sz E w P v n u L c) {P' : Nat -> Prop} (h : ∀ k, P k -> k < w.heap.size -> P' k) : LL z e sz E w P' v n u L c :=
 ⟨o.row, o.own, fun k hk => h k (o.rb k hk) (o.row.lt k hk).2, fun i hi k hk => h k (o.ob i hi k hk) ((o.own i hi).lt k hk).2, o.ra, o.oa, o.nn⟩
theorem LL.pushG (o : LL z e sz E w P v n u L c) {w1 w2 : World} {u' v' : Value} (hsz : w.heap.size <= w1.heap.size) (hb : ∀ k, P k -> k < w.heap.size -> w1.heap[k]? = w.heap[k]?) (hu : w1.ownsRow w.heap.size e sz u' (L n) (c n)) (hne : Nz z e -> u' ≠ .slice none 0 0) (hv : w2.ownsRow 0 E 1 v' (n + 1) ((List.range n).map u ++ [u'])) (g : w1.grownBy w2 v.ownBlock)
  (hv' : ∀ j, v'.ownBlock = some j -> v.ownBlock = some j \/ w1.heap.size <= j) {P' : Nat -> Prop} (hP : ∀ k, P k -> k < w.heap.size -> P' k) (hP' : ∀ k, w.heap.size <= k -> k < w2.heap.size -> P' k) : LL z e sz E w2 P' v' (n + 1) (fun j => if j = n then u' else u j) L c := by
 have hvlt : ∀ k, v.ownBlock = some k -> k < w.heap.size := fun k hk => (o.row.lt k hk).2
 have hu2 : w2.ownsRow w.heap.size e sz u' (L n) (c n) := hu.kept g (by
  cases hk : u'.ownBlock with
  | none => exact .inl rfl
  | some k =>
   refine .inr fun e => ?_
   have q1 := (hu.lt k hk).1
   have q2 := hvlt k e.symm
   omega)
 have ho2 : ∀ i, i < n -> w2.ownsRow 0 e sz (u i) (L i) (c i) := fun i hi => ownsRow_blkL (o.own i hi) fun k hk => (g.block k (zL ((o.own i hi).lt k hk).2 hsz) fun e => o.ra i hi k hk e.symm).trans (hb k (o.ob i hi k hk) ((o.own i hi).lt k hk).2)
 have lts : ∀ i, i < n -> ∀ k, (u i).ownBlock = some k -> k < w.heap.size := fun i hi k hk => ((o.own i hi).lt k hk).2
 refine ⟨?_, fun i hi => ?_, fun k hk => ?_, fun i hi k hk => ?_, fun i hi k hk => ?_, fun i j hi hj hij k hk => ?_, fun hz i hi => ?_⟩
 ·have e : (List.range (n + 1)).map (fun j => if j = n then u' else u j) = (List.range n).map u ++ [u'] := by
   rw [List.range_succ, List.map_append]
   simp only [List.map_cons, List.map_nil, if_true]
   congr 1
   exact List.map_congr_left fun j hj => by
    rw [if_neg]
    have := List.mem_range.1 hj
    omega
  rw [e]
  exact hv
 ·by_cases ei : i = n
  ·subst ei
   rw [if_pos rfl]
   exact ownsRow_base0 hu2
  ·rw [if_neg ei]
   exact ho2 i (by omega)
 ·rcases hv' k hk with h | h
  ·exact hP k (o.rb k h) (hvlt k h)
  ·exact hP' k (zO hsz h) (hv.lt k hk).2
 ·by_cases ei : i = n
  ·simp only [if_pos ei] at hk
   exact hP' k (hu.lt k hk).1 (hu2.lt k hk).2
  ·simp only [if_neg ei] at hk
   exact hP k (o.ob i (by omega) k hk) (lts i (by omega) k hk)
 ·intro hvk
  by_cases ei : i = n
  ·simp only [if_pos ei] at hk
   rcases hv' k hvk with h | h
   ·have := hvlt k h
    have := (hu.lt k hk).1
    omega
   ·have := (hu.lt k hk).2
    omega
  ·simp only [if_neg ei] at hk
   rcases hv' k hvk with h | h
   ·exact o.ra i (by omega) k hk h
   ·have := lts i (by omega) k hk
    omega
 ·intro hjk
  by_cases ei : i = n
  ·have ej : j ≠ n := fun e => hij (by omega)
   simp only [if_pos ei] at hk
   simp only [if_neg ej] at hjk
   have := lts j (by omega) k hjk
   have := (hu.lt k hk).1
   omega
  ·simp only [if_neg ei] at hk
   by_cases ej : j = n
   ·simp only [if_pos ej] at hjk
    have := lts i (by omega) k hk
    have := (hu.lt k hjk).1
    omega
   ·simp only [if_neg ej] at hjk
    exact o.oa i j (by omega) (by omega) hij k hk hjk
 ·by_cases ei : i = n
  ·rw [if_pos ei]
   exact hne hz
  ·rw [if_neg ei]
   exact o.nn hz i (by omega)
theorem LL.push (o : LL z e sz E w P v n u L c) {w1 w2 : World} {u' v' : Value} (b1 : Below w.heap.size w w1) (hu : w1.ownsRow w.heap.size e sz u' (L n) (c n)) (hne : Nz z e -> u' ≠ .slice none 0 0) (hv : w2.ownsRow 0 E 1 v' (n + 1) ((List.range n).map u ++ [u'])) (g : w1.grownBy w2 v.ownBlock)
  (hv' : ∀ j, v'.ownBlock = some j -> v.ownBlock = some j \/ w1.heap.size <= j) {P' : Nat -> Prop} (hP : ∀ k, P k -> k < w.heap.size -> P' k) (hP' : ∀ k, w.heap.size <= k -> k < w2.heap.size -> P' k) : LL z e sz E w2 P' v' (n + 1) (fun j => if j = n then u' else u j) L c :=
 o.pushG b1.size (fun k _ hk => b1.block k hk) hu hne hv g hv' hP hP'
theorem LL.nil (e : TypeId) (sz : Nat) (E : TypeId) (w : World) (P : Nat -> Prop) (u : Nat -> Value) (L : Nat -> Nat) (c : Nat -> List Value) : LL z e sz E w P (.slice none 0 0) 0 u L c :=
 ⟨World.ownsRow_nil _ _ _ _, fun i hi => (by omega), fun k hk => (by cases hk), fun i hi => (by omega), fun i hi => (by omega), fun i j hi => (by omega), fun _ i hi => by omega⟩
theorem LL.new (e : TypeId) (sz : Nat) (E : TypeId) (w : World) (P : Nat -> Prop) (hP : P w.heap.size) (u : Nat -> Value) (L : Nat -> Nat) (c : Nat -> List Value) : LL z e sz E (w.alloc (.cells #[] E)) P (.slice (some ⟨w.heap.size, 0, none⟩) 0 0) 0 u L c :=
 ⟨World.ownsRow_made (base := 0) (e := E) (size := 1) w #[] 0 (Nat.zero_le _) (by unfold maxLen; omega) rfl, fun i hi => (by omega), fun k hk => (by cases hk; exact hP), fun i hi => (by omega), fun i hi => (by omega), fun i j hi => (by omega), fun _ i hi => by omega⟩
theorem LL.cell (o : LL z e sz E w P v n u L c) {i : Nat} (hi : i < n) : ∃ g cap, v = .slice (some ⟨g, 0, none⟩) n cap /\ P g /\ g < w.heap.size /\ w.cell? ⟨g, i, none⟩ = some (u i) /\ ∀ j, w.frozen? ⟨g, j, none⟩ = false := by
 rcases o.row.2 with ⟨_, h0⟩ | ⟨g, cap, cur, rfl, hb, hg, hr⟩
 ·omega
 ·refine ⟨g, cap, rfl, o.rb g rfl, (o.row.lt g rfl).2, ?_, fun j => o.row.frozenAt j⟩
  rw [o.row.cellAt i (by omega)]
  simp [hi]
theorem LL.put {g cap : Nat} (o : LL z e sz E w P (.slice (some ⟨g, 0, none⟩) n cap) n u L c) {i : Nat} (hi : i < n) {w1 : World} {u' : Value} {m : Nat} {c' : List Value} (_hs : w.heap.size <= w1.heap.size) (g1 : ∀ k, k < w.heap.size -> (u i).ownBlock ≠ some k -> w1.heap[k]? = w.heap[k]?)
  (hu : w1.ownsRow 0 e sz u' m c') (hne : Nz z e -> u' ≠ .slice none 0 0) (hb : ∀ k, u'.ownBlock = some k -> (u i).ownBlock = some k \/ w.heap.size <= k) {P' : Nat -> Prop} (hP : ∀ k, P k -> k < w.heap.size -> P' k) (hP' : ∀ k, w.heap.size <= k -> k < w1.heap.size -> P' k) :
  LL z e sz E (w1.setCell ⟨g, i, none⟩ u') P' (.slice (some ⟨g, 0, none⟩) n cap) n (fun j => if j = i then u' else u j) (fun j => if j = i then m else L j) (fun j => if j = i then c' else c j) := by
 have hg : g < w.heap.size := (o.row.lt g rfl).2
 have hgi : (u i).ownBlock ≠ some g := fun e => o.ra i hi g e rfl
 have row1 : w1.ownsRow 0 E 1 (.slice (some ⟨g, 0, none⟩) n cap) n ((List.range n).map u) := ownsRow_blkL o.row fun k hk => by
  cases hk
  exact g1 g hg hgi
 have hu'g : u'.ownBlock ≠ some g := fun e => by
  rcases hb g e with h | h
  ·exact hgi h
  ·omega
 have lts : ∀ j, j < n -> ∀ k, (u j).ownBlock = some k -> k < w.heap.size := fun j hj k hk => ((o.own j hj).lt k hk).2
 refine ⟨?_, fun j hj => ?_, fun k hk => ?_, fun j hj k hk => ?_, fun j hj k hk => ?_, fun a b ha hb' hab k hk => ?_, fun hz j hj => ?_⟩
 ·have h := (World.ownsRow.stored row1 i u').1
  have e : (List.range n).map (fun j => if j = i then u' else u j) = ((List.range n).map u).set i u' := by
   apply List.ext_getElem (by simp)
   intro j h1 h2
   simp only [List.getElem_map, List.getElem_range, List.getElem_set]
   by_cases q : j = i
   ·rw [if_pos q, if_pos q.symm]
   ·rw [if_neg q, if_neg fun e => q e.symm]
  rw [e]
  exact h
 ·by_cases ej : j = i
  ·subst ej
   simp only [if_true]
   exact ownsRow_setCell_other hu hu'g _
  ·simp only [if_neg ej]
   refine ownsRow_setCell_other (ownsRow_blkL (o.own j hj) fun k hk => g1 k (lts j hj k hk) fun e => o.oa j i hj hi ej k hk e) (fun e => o.ra j hj g e rfl) _
 ·cases hk
  exact hP g (o.rb g rfl) hg
 ·by_cases ej : j = i
  ·simp only [if_pos ej] at hk
   rcases hb k hk with h | h
   ·exact hP k (o.ob i hi k h) (lts i hi k h)
   ·exact hP' k h (hu.lt k hk).2
  ·simp only [if_neg ej] at hk
   exact hP k (o.ob j hj k hk) (lts j hj k hk)
 ·intro hvk
  cases hvk
  by_cases ej : j = i
  ·simp only [if_pos ej] at hk
   exact hu'g hk
  ·simp only [if_neg ej] at hk
   exact o.ra j hj g hk rfl
 ·intro hbk
  by_cases ea : a = i
  ·have eb : b ≠ i := fun e => hab (by omega)
   simp only [if_pos ea] at hk
   simp only [if_neg eb] at hbk
   rcases hb k hk with h | h
   ·exact o.oa b i hb' hi eb k hbk h
   ·have := lts b hb' k hbk
    omega
  ·simp only [if_neg ea] at hk
   by_cases eb : b = i
   ·simp only [if_pos eb] at hbk
    rcases hb k hbk with h | h
    ·exact o.oa a i ha hi ea k hk h
    ·have := lts a ha k hk
     omega
   ·simp only [if_neg eb] at hbk
    exact o.oa a b ha hb' hab k hk hbk
 ·by_cases ej : j = i
  ·simp only [if_pos ej]
   exact hne hz
  ·simp only [if_neg ej]
   exact o.nn hz j hj
end
end Go.Proofs.YthdaejgmfognbaaGreatDoor
