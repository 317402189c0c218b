/- Steps of a region that draws. -/
import Derived.Test.YtdigofhceahpdaaGreatDoorSb18
import Derived.Test.YtdigofhceahpdaaGreatDoorSb22
import Derived.Test.YtdigofhceahpdaaGreatDoorSb19
import Derived.Test.YtdigofhceahpdaaGreatDoorSb10
import Derived.Deep.RegionWith
import Derived.Test.YtdigofhceahpdaaGreatDoorSb30
import Derived.Test.YtdigofhceahpdaaGreatDoorRows
import Derived.OrdersHeld
import Derived.Deep.RegionHeld3
namespace Go.Proofs.YtdigofhceahpdaaGreatDoor
open Go.RowKit
def EvL (w : World) (a : Option Addr) (len : Nat) (h : Nat → E3) : Prop := len = 0 ∨ ∃ b off, a = some ⟨b, off, none⟩ ∧ b < w.heap.size ∧ EvAt w b off len h
theorem EvL.below {w w' : World} {a : Option Addr} {len : Nat} {h : Nat → E3} (hh : EvL w a len h) (hb : Below w.heap.size w w') : EvL w' a len h := by
 rcases hh with e | ⟨b, off, e, hlt, hc⟩
 · exact .inl e
 · exact .inr ⟨b, off, e, Nat.lt_of_lt_of_le hlt hb.size, hc.below hb hlt⟩
theorem EvL.at {w : World} {a : Option Addr} {len : Nat} {h : Nat → E3} (hh : EvL w a len h) {k : Nat} (hk : k < len) : ∃ b off, a = some ⟨b, off, none⟩ ∧ b < w.heap.size ∧ w.cell? ⟨b, off + k * 3, none⟩ = some (.int .i64 (h k).k) ∧ w.cell? ⟨b, off + k * 3 + 1, none⟩ = some (.int .i64 (h k).q) ∧ w.cell? ⟨b, off + k * 3 + 2, none⟩ = some (.int .i64 (h k).v) := by
 rcases hh with rfl | ⟨b, off, e, hlt, hc⟩
 · omega
 · exact ⟨b, off, e, hlt, hc k hk⟩
theorem EvL.take {w : World} {a : Option Addr} {len : Nat} {h : Nat → E3} (hh : EvL w a len h) {k : Nat} (hk : k ≤ len) : EvL w a k h := by
 rcases hh with rfl | ⟨b, off, e, hlt, hc⟩
 · exact .inl (by omega)
 · exact .inr ⟨b, off, e, hlt, fun i hi => hc i (by omega)⟩
theorem EvL.one {w : World} {b off len : Nat} {h : Nat → E3} (hh : EvL w (some ⟨b, off, none⟩) len h) {k : Nat} (hk : k < len) : EvAt w b off len h ∧ b < w.heap.size := by
 rcases hh with rfl | ⟨b', off', e, hlt, hc⟩
 · omega
 · simp only [Option.some.injEq, Addr.mk.injEq] at e
   obtain ⟨rfl, rfl, -⟩ := e
   exact ⟨hc, hlt⟩
end Go.Proofs.YtdigofhceahpdaaGreatDoor
namespace Go.Proofs.YtdigofhceahpdaaGreatDoor
open Go.RowKit
def cnt (eh : Nat → E3) (kd pr : Int) (n : Nat) : Nat := (plN eh kd pr n).length
theorem cnt_zero (eh : Nat → E3) (kd pr : Int) : cnt eh kd pr 0 = 0 := rfl
theorem cnt_hit {eh : Nat → E3} {kd pr : Int} {n : Nat} (h : hitB eh kd pr n = true) : cnt eh kd pr (n + 1) = cnt eh kd pr n + 1 := by
 unfold cnt
 rw [plN, if_pos h, List.length_append]
 rfl
theorem cnt_not {eh : Nat → E3} {kd pr : Int} {n : Nat} (h : hitB eh kd pr n = false) : cnt eh kd pr (n + 1) = cnt eh kd pr n := by
 unfold cnt
 rw [plN, if_neg (by rw [h]; decide)]
theorem cnt_le (eh : Nat → E3) (kd pr : Int) (n : Nat) : cnt eh kd pr n ≤ n := plN_le eh kd pr n
theorem cnt_mono (eh : Nat → E3) (kd pr : Int) {a b : Nat} (h : a ≤ b) : cnt eh kd pr a ≤ cnt eh kd pr b := by
 induction b with
 | zero =>
   have : a = 0 := by omega
   subst this
   exact Nat.le_refl _
 | succ b ih =>
   by_cases e : a = b + 1
   · subst e
     exact Nat.le_refl _
   · have := ih (by omega)
     rcases Bool.eq_false_or_eq_true (hitB eh kd pr b) with t | t
     · rw [cnt_hit t]
       omega
     · rw [cnt_not t]
       exact this
theorem hitB_iff {eh : Nat → E3} {kd pr : Int} {i : Nat} : hitB eh kd pr i = true ↔ (eh i).k = kd ∧ (eh i).q = pr := by
 simp [hitB]
structure Hs where
 n : Nat
 l : Nat → Nat
 e : Nat → Nat → E3
def Hs.Peers (x : Hs) : Prop := ∀ p, p < x.n → ∀ i, i < x.l p → 0 ≤ (x.e p i).q ∧ (x.e p i).q < (x.n : Int)
def Hs.Can (x : Hs) (d : Nat → Nat) (p : Nat) : Prop :=
 d p < x.l p ∧ ((x.e p (d p)).k = 3 → cnt (x.e p) 3 (x.e p (d p)).q (d p) < cnt (x.e (x.e p (d p)).q.toNat) 2 p (d (x.e p (d p)).q.toNat))
def up (d : Nat → Nat) (p : Nat) : Nat → Nat := fun i => if i = p then d i + 1 else d i
theorem up_same (d : Nat → Nat) (p : Nat) : up d p p = d p + 1 := by simp [up]
theorem up_other {d : Nat → Nat} {p i : Nat} (h : i ≠ p) : up d p i = d i := by simp [up, h]
inductive Hs.Put (x : Hs) : (Nat → Nat) → Prop
 | start : x.Put (fun _ => 0)
 | next {d : Nat → Nat} {p : Nat} : x.Put d → p < x.n → x.Can d p → x.Put (up d p)
def Hs.All (x : Hs) (d : Nat → Nat) : Prop := ∀ p, p < x.n → d p = x.l p
def Hs.Row (x : Hs) : Prop := ∃ d, x.Put d ∧ x.All d
theorem Hs.Put.le {x : Hs} {d : Nat → Nat} (h : x.Put d) : ∀ p, d p ≤ x.l p := by
 induction h with
 | start => exact fun _ => Nat.zero_le _
 | next _ _ hc ih =>
   rename_i d p _ _
   intro i
   by_cases e : i = p
   · subst e
     rw [up_same]
     exact hc.1
   · rw [up_other e]
     exact ih i
theorem Hs.Put.stuck {x : Hs} {d s : Nat → Nat} (h : x.Put d) (hp : x.Peers) (hs : ∀ p, p < x.n → ¬ x.Can s p) : ∀ p, p < x.n → d p ≤ s p := by
 induction h with
 | start => exact fun _ _ => Nat.zero_le _
 | next _ hpn hc ih =>
   rename_i d p _
   intro i hi
   by_cases e : i = p
   · subst e
     rw [up_same]
     have h1 := ih i hi
     by_cases e : d i = s i
     · exfalso
       refine hs i hi ⟨by rw [← e]; exact hc.1, fun hk => ?_⟩
       rw [← e] at hk ⊢
       have h2 := hc.2 hk
       have hq := hp i hi (d i) hc.1
       exact Nat.lt_of_lt_of_le h2 (cnt_mono _ _ _ (ih _ (by omega)))
     · omega
   · rw [up_other e]
     exact ih i hi
theorem Hs.row_iff {x : Hs} {s : Nat → Nat} (h : x.Put s) (hp : x.Peers) (hs : ∀ p, p < x.n → ¬ x.Can s p) : x.Row ↔ x.All s := by
 refine ⟨fun ⟨d, hd, ha⟩ p hpn => ?_, fun ha => ⟨s, h, ha⟩⟩
 have h1 := hd.stuck hp hs p hpn
 have h2 := h.le p
 have h3 := ha p hpn
 omega
def Hs.opn (x : Hs) (d : Nat → Nat) (a b : Nat) : Int := (cnt (x.e a) 2 b (d a) : Int) - (cnt (x.e b) 3 a (d b) : Int)
theorem Hs.opn_start (x : Hs) (a b : Nat) : x.opn (fun _ => 0) a b = 0 := by simp [Hs.opn, cnt_zero]
theorem Hs.can_iff {x : Hs} {d : Nat → Nat} {p : Nat} (hp : x.Peers) (hpn : p < x.n) : x.Can d p ↔ d p < x.l p ∧ ((x.e p (d p)).k = 3 → 0 < x.opn d (x.e p (d p)).q.toNat p) := by
 unfold Hs.Can Hs.opn
 refine and_congr_right fun hl => ?_
 have hq := hp p hpn _ hl
 rw [show (((x.e p (d p)).q.toNat : Nat) : Int) = (x.e p (d p)).q by omega]
 refine ⟨fun h hk => ?_, fun h hk => ?_⟩
 · have := h hk
   omega
 · have := h hk
   omega
theorem Hs.opn_up {x : Hs} {d : Nat → Nat} {p a b : Nat} : x.opn (up d p) a b = x.opn d a b + (if a = p ∧ (x.e p (d p)).k = 2 ∧ (x.e p (d p)).q = (b : Int) then 1 else 0) - (if b = p ∧ (x.e p (d p)).k = 3 ∧ (x.e p (d p)).q = (a : Int) then 1 else 0) := by
 have hA : (cnt (x.e a) 2 b (up d p a) : Int) = cnt (x.e a) 2 b (d a) + (if a = p ∧ (x.e p (d p)).k = 2 ∧ (x.e p (d p)).q = (b : Int) then 1 else 0) := by
   by_cases e : a = p
   · subst e
     rw [up_same]
     rcases Bool.eq_false_or_eq_true (hitB (x.e a) 2 b (d a)) with t | t
     · rw [cnt_hit t, if_pos ⟨rfl, hitB_iff.1 t⟩]
       omega
     · rw [cnt_not t, if_neg (fun h => by rw [hitB_iff.2 h.2] at t; cases t)]
       omega
   · rw [up_other e, if_neg (fun h => e h.1)]
     omega
 have hB : (cnt (x.e b) 3 a (up d p b) : Int) = cnt (x.e b) 3 a (d b) + (if b = p ∧ (x.e p (d p)).k = 3 ∧ (x.e p (d p)).q = (a : Int) then 1 else 0) := by
   by_cases e : b = p
   · subst e
     rw [up_same]
     rcases Bool.eq_false_or_eq_true (hitB (x.e b) 3 a (d b)) with t | t
     · rw [cnt_hit t, if_pos ⟨rfl, hitB_iff.1 t⟩]
       omega
     · rw [cnt_not t, if_neg (fun h => by rw [hitB_iff.2 h.2] at t; cases t)]
       omega
   · rw [up_other e, if_neg (fun h => e h.1)]
     omega
 unfold Hs.opn
 rw [hA, hB]
 omega
end Go.Proofs.YtdigofhceahpdaaGreatDoor
namespace Go.Proofs.YtdigofhceahpdaaGreatDoor
open Go.RowKit
def ItL (w : World) (a : Option Addr) (len : Nat) (h : Nat → I2) : Prop := len = 0 ∨ ∃ b off, a = some ⟨b, off, none⟩ ∧ b < w.heap.size ∧ ItAt w b off len h
theorem ItL.below {w w' : World} {a : Option Addr} {len : Nat} {h : Nat → I2} (hh : ItL w a len h) (hb : Below w.heap.size w w') : ItL w' a len h := by
 rcases hh with e | ⟨b, off, e, hlt, hc⟩
 · exact .inl e
 · exact .inr ⟨b, off, e, Nat.lt_of_lt_of_le hlt hb.size, hc.below hb hlt⟩
theorem ItL.at {w : World} {a : Option Addr} {len : Nat} {h : Nat → I2} (hh : ItL w a len h) {k : Nat} (hk : k < len) : ∃ b off, a = some ⟨b, off, none⟩ ∧ b < w.heap.size ∧ w.cell? ⟨b, off + k * 2, none⟩ = some (.bool (h k).m) ∧ w.cell? ⟨b, off + k * 2 + 1, none⟩ = some (.int .i64 (h k).v) := by
 rcases hh with rfl | ⟨b, off, e, hlt, hc⟩
 · omega
 · exact ⟨b, off, e, hlt, hc k hk⟩
end Go.Proofs.YtdigofhceahpdaaGreatDoor
namespace Go.Proofs.YtdigofhceahpdaaGreatDoor
open Go.RowKit
def lenV : Value → Nat
 | .slice _ n _ => n
 | _ => 0
def Way (w wr : World) (W0 c len cap : Nat) (a0 : Option Addr) (g n gc : Nat) : Prop :=
 Lst wr w.heap.size (.slice (some ⟨g, 0, none⟩) n gc) n ∧ Cur wr W0 c a0 len cap ∧ w.grownBy wr (some c)
end Go.Proofs.YtdigofhceahpdaaGreatDoor
namespace Go.Proofs.YtdigofhceahpdaaGreatDoor
open Go.RowKit
def LstE (w : World) (B : Nat) (v : Value) (n : Nat) : Prop := ∃ xs, w.ownsRow B 77 3 v n xs ∧ xs.all isI = true ∧ v ≠ .slice none 0 0
set_option maxRecDepth 100000 in
set_option maxHeartbeats 1000000 in
theorem specStateNew_any (w : World) :
   Calls Tryz.prog 23 #[] w fun e w' => ∃ v, e = .returned v ∧ StOwn w' w.heap.size v 0 [0, 0, 0, 0] [] 0 ∧ Below w.heap.size w w' := by
 have hmk : ∀ w : World, (Instr.makeSlice 52 (.int .i64 4) (.int .i64 4)).run Tryz.prog w = .ok (.slice (some ⟨w.heap.size, 0, none⟩) 4 4) (w.alloc (.cells (madeCells #[.int .i64 0] 4) 3)) := fun w => run_make_int 4 (by omega) w
 have HM : Hid (∀ w : World, OwnI (w.alloc (.cells (madeCells #[.int .i64 0] 4) 3)) w.heap.size (.slice (some ⟨w.heap.size, 0, none⟩) 4 4) [0, 0, 0, 0]) := fun w => made_own w 4 (by omega)
 go_enter Tryz.func23, Tryz.ntmps23
 go_wp2
 have hB : w.heap.size ≤ w.heap.size + 1 := by omega
 have hM := HM.out (w.alloc (.cells #[.int .i64 0, .slice (some ⟨w.heap.size + 1, 0, none⟩) 4 4, .slice none 0 0, .int .i64 0] 54))
 rw [World.size_alloc] at hM
 refine bodyPost_ret (v := stV 0 (some ⟨w.heap.size + 1, 0, none⟩) 4 4 none 0 0 0) (by simp [results, Tryz.results23, go_sem]) rfl ⟨_, rfl, ⟨_, _, rfl, hM.mono hB, World.ownsRow_nil _ _ _ _, fun k _ => by simp [Value.ownBlock]⟩, by go_grown⟩
end Go.Proofs.YtdigofhceahpdaaGreatDoor
namespace Go.Proofs.YtdigofhceahpdaaGreatDoor
open Go.RowKit
theorem Tl.widen {w : World} {B C C' N : Nat} {p c : Int} {ra : Option Addr} {rn rc : Nat} {oa : Option Addr} {on oc : Nat} {rs os : List Int} (h : Tl w B C N p c ra rn rc oa on oc rs os) (h1 : C ≤ C') (h2 : C' ≤ w.heap.size) : Tl w B C' N p c ra rn rc oa on oc rs os :=
 ⟨h.lo, Nat.lt_of_lt_of_le h.hi h1, h2, h.box, h.own, fun k hk => Nat.lt_of_lt_of_le (h.up k hk) h1, h.ne⟩
structure Dr (w wr : World) (C W0 c len cap : Nat) (a0 : Option Addr) (Bs : Nat) (out : Value) (k : Nat) (p code : Int) (ra : Option Addr) (rc : Nat) (oa : Option Addr) (oc : Nat) (rs os : List Int) : Prop where
 ls : LstE wr w.heap.size out k
 cu : Cur wr W0 c a0 len cap
 gr : w.grownBy wr (some c)
 tl : Tl wr w.heap.size C Bs p code ra rs.length rc oa os.length oc rs os
 fz : ∀ j, wr.frozen? ⟨Bs, j, none⟩ = false
 oC : ∀ j, out.ownBlock = some j → j < C
 nB : out.ownBlock ≠ some Bs
 ap : ∀ j, hasBlock (stV p ra rs.length rc oa os.length oc code) j → out.ownBlock ≠ some j
 lr : rs.length ≤ 1048576
 lo : os.length ≤ 1048576
def EvB (w : World) (N : Nat) (k q v : Int) : Prop := EvC3 w N k q v ∧ ∀ j, w.frozen? ⟨N, j, none⟩ = false
end Go.Proofs.YtdigofhceahpdaaGreatDoor
namespace Go.Proofs.YtdigofhceahpdaaGreatDoor
open Go.RowKit Go.Deep
def numL (h : Nat → I2) : Nat → List Int
 | 0 => []
 | n + 1 => if (h n).m = true then numL h n else numL h n ++ [(h n).v]
theorem numL_le (h : Nat → I2) : ∀ n, (numL h n).length ≤ n
 | 0 => Nat.le_refl _
 | n + 1 => by
   unfold numL
   have := numL_le h n
   split
   · omega
   · simp; omega
theorem numL_hit {h : Nat → I2} {n : Nat} (hh : (h n).m = false) : numL h (n + 1) = numL h n ++ [(h n).v] := by
 rw [numL, if_neg (by rw [hh]; decide)]
theorem numL_not {h : Nat → I2} {n : Nat} (hh : (h n).m = true) : numL h (n + 1) = numL h n := by
 rw [numL, if_pos hh]
end Go.Proofs.YtdigofhceahpdaaGreatDoor
namespace Go.Proofs.YtdigofhceahpdaaGreatDoor
open Go
section
variable {P : Program} {ops : Array Oper} {Q : Exit → Act → World → Prop} {md : Region.Mode} {S : World → Prop} {G : Nat → Bool}
def wpG (P : Program) (md : Region.Mode) (ops : Array Oper) (Q : Exit → Act → World → Prop) (S : World → Prop) (G : Nat → Bool) : Nat → Array Bool → Act → World → Prop
 | 0, listed, a, w => Region.ready md ops listed = [] ∧ Q .normal a w
 | fuel + 1, listed, a, w => (Region.ready md ops listed = [] → Q .normal a w) ∧ ∀ i ∈ Region.ready md ops listed, wpOp P ops Q i (fun a' w' => (S w → G i = false → S w') ∧ wpG P md ops Q S G fuel (listed.setIfInBounds i true) a' w') a w
theorem wpAny_of_G : ∀ (fuel : Nat) (listed : Array Bool) (a : Act) (w : World), wpG P md ops Q S G fuel listed a w → wpAny P md ops Q fuel listed a w
 | 0, _, _, _, h => h
 | fuel + 1, _, _, _, h => ⟨h.1, fun i hi => wpOp_mono (fun a' w' h' => wpAny_of_G fuel _ a' w' h'.2) (h.2 i hi)⟩
def waitG (md : Region.Mode) (ops : Array Oper) (G : Nat → Bool) (listed : Array Bool) (i : Nat) : Bool :=
 (List.range ops.size).all fun j => !G j || listed.getD j true || match ops[j]? with
   | some oj => oj.after.any fun e => Region.binds md e && e.on == i
   | none => true
theorem waitG_spec {listed : Array Bool} {i : Nat} (h : waitG md ops G listed i = true) {j : Nat} {oj : Oper} (hj : ops[j]? = some oj) (hg : G j = true) (hu : listed.getD j true = false) : ∃ e ∈ oj.after, Region.binds md e = true ∧ e.on = i := by
 simp only [waitG, List.all_eq_true, List.mem_range] at h
 have h1 := h j (Array.getElem?_eq_some_iff.1 hj).1
 simp only [hj, hg, hu, Bool.not_true, Bool.false_or] at h1
 obtain ⟨e, he, hb⟩ := Array.any_eq_true'.1 h1
 simp only [Bool.and_eq_true, beq_iff_eq] at hb
 exact ⟨e, he, hb.1, hb.2⟩
theorem wpG_first {i : Nat} {oi : Oper} {v : Value} (hi : ops[i]? = some oi) (hsel : ∀ (j : Nat) (o : Oper) cs b, ops[j]? = some o → o.op ≠ .select cs b)
   (hQ : ∀ c a w, Q (.panic c) (a.put oi.dst v) w → Q (.panic c) a w) :
   ∀ (fuel : Nat) (listed : Array Bool) (a : Act) (w : World),
     (∀ j oj, ops[j]? = some oj → j ≠ i → listed.getD j true = false → (∀ e ∈ oj.after, Region.binds md e = true → e.on ≠ i) → oi.apart ops oj = true) →
     (∀ j oj, ops[j]? = some oj → G j = true → listed.getD j true = false → ∃ e ∈ oj.after, Region.binds md e = true ∧ e.on = i) →
     i ∈ Region.ready md ops listed → YieldsIf P ops S oi v a → S w →
     wpG P md ops Q S G fuel (listed.setIfInBounds i true) (a.put oi.dst v) w → wpG P md ops Q S G (fuel + 1) listed a w := by
 intro fuel
 induction fuel with
 | zero =>
   intro listed a w _ _ hr hy hS H
   refine ⟨fun h => (by rw [h] at hr; cases hr), fun j hj => ?_⟩
   by_cases hji : j = i
   · subst hji
     exact hy.wpOp hi hS ⟨fun _ _ => hS, H⟩
   · have := ready_mono hj hji
     rw [H.1] at this
     cases this
 | succ fuel ih =>
   intro listed a w hfree hG hr hy hS H
   refine ⟨fun h => (by rw [h] at hr; cases hr), fun j hj => ?_⟩
   by_cases hji : j = i
   · subst hji
     exact hy.wpOp hi hS ⟨fun _ _ => hS, H⟩
   · obtain ⟨hjun, oj, hoj, hall⟩ := mem_ready.1 hj
     have hiun := (mem_ready.1 hr).1
     have hnot : ∀ e ∈ oj.after, Region.binds md e = true → e.on ≠ i := fun e he hb heq => by
       have h1 := hall e he hb
       rw [heq] at h1
       rcases Nat.lt_or_ge i listed.size with h' | h'
       · simp [h'] at hiun h1
         rw [hiun] at h1
         cases h1
       · simp [Array.getElem?_eq_none h'] at h1
     have hGj : G j = false := by
       cases hg : G j with
       | false => rfl
       | true =>
         obtain ⟨e, he, hb, heq⟩ := hG j oj hoj hg hjun
         exact absurd heq (hnot e he hb)
     have h2 := wpOp_putIf hoj (hfree j oj hoj hji hjun hnot) (fun cs b => hsel i oi cs b hi) (fun cs b => hsel j oj cs b hoj) hQ hy (H.2 j (ready_mono hj hji))
     have hun' : ∀ k, (listed.setIfInBounds j true).getD k true = false → listed.getD k true = false := fun k hk => by
       by_cases hjk : j = k
       · subst hjk
         exact hjun
       · rw [_root_.Go.getD_set_ne true hjk] at hk
         exact hk
     refine wpOp_mono (fun a' w' h3 => ⟨h3.2.1, ih (listed.setIfInBounds j true) a' w' (fun k ok hk hki hun hno => hfree k ok hk hki (hun' k hun) hno) (fun k ok hk hg hun => hG k ok hk hg (hun' k hun)) (ready_mono hr (Ne.symm hji)) h3.1 (h3.2.1 hS hGj) ?_⟩) h2
     rw [Array.setIfInBounds_comm _ _ hji]
     exact h3.2.2
theorem wpG_take (i : Nat) {oi : Oper} {fuel : Nat} {listed : Array Bool} {a : Act} {w : World} (hi0 : ops.toList[i]? = some oi) (hS : S w)
   (h : ∃ v, (∀ w, S w → (execOp a.eval oi).run P w = .ok (.value v) w) ∧ wpG P md ops Q S G fuel (listed.setIfInBounds i true) (a.put oi.dst v) w) (hs : Region.noSelect ops = true := by kernel_rfl) (hf : Region.free md ops listed i = true := by kernel_rfl) (hr : (Region.ready md ops listed).contains i = true := by kernel_rfl) (hg : waitG md ops G listed i = true := by kernel_rfl)
   (hQ : ∀ v c a w, Q (.panic c) (a.put oi.dst v) w → Q (.panic c) a w := by exact fun _ _ _ _ h => h) (hw : Region.wanted oi (yielded ops a.tmps) = true := by rfl) : wpG P md ops Q S G (fuel + 1) listed a w := by
 obtain ⟨v, hv, h⟩ := h
 have hi : ops[i]? = some oi := by rw [← Array.getElem?_toList]; exact hi0
 exact wpG_first hi (Region.noSelect_spec hs) (hQ v) fuel listed a w (Region.free_spec hi hf) (fun j oj hj hgj hu => waitG_spec hg hj hgj hu) (by simpa using hr) (.inl ⟨hw, hv⟩) hS h
theorem wpG_one (i : Nat) {oi : Oper} {fuel : Nat} {listed : Array Bool} {a : Act} {w : World} (hi0 : ops.toList[i]? = some oi) (hr : Region.ready md ops listed = [i])
   (h : ∀ K' : Act → World → Prop, Shut (∀ a w, (G i = false → S w) → wpG P md ops Q S G fuel (listed.setIfInBounds i true) a w → K' a w) → if Region.wanted oi (yielded ops a.tmps) = true then Oper.wp P oi a w K' Q else K' (a.put oi.dst undef) w) : wpG P md ops Q S G (fuel + 1) listed a w :=
 ⟨fun h0 => (by rw [hr] at h0; cases h0), fun j hj => by
   rw [hr] at hj
   obtain rfl := List.mem_singleton.1 hj
   have hi : ops[j]? = some oi := by rw [← Array.getElem?_toList]; exact hi0
   exact wpOp_step hi fun K' hK => h K' fun a w h1 h2 => hK a w ⟨fun _ => h1, h2⟩⟩
theorem wpG_done {listed : Array Bool} {a : Act} {w : World} (hr : Region.ready md ops listed = []) (h : Q .normal a w) : ∀ fuel, wpG P md ops Q S G fuel listed a w
 | 0 => ⟨hr, h⟩
 | _ + 1 => ⟨fun _ => h, by rw [hr]; simp⟩
theorem wp_region_G {id : Nat} {a : Act} {w : World} (S : World → Prop) (G : Nat → Bool) (hm : P.follows .mixedOrders = true) (h : wpG P .any ops Q S G ops.size (Array.replicate ops.size false) a w.drew) : (Code.region id ops true).wp P Q a w :=
 wp_region_any hm (wpAny_of_G _ _ _ _ h)
end
end Go.Proofs.YtdigofhceahpdaaGreatDoor
namespace Go.Proofs.YtdigofhceahpdaaGreatDoor
open Go.ChangeShapes Go.WideShapes Go.ChangeAt Go.RowKit Go.Deep
def cI (h : I5) : List Value := [.int .i64 h.o, .int .i64 h.r, .int .i64 h.a, .int .i64 h.b, .int .i64 h.n]
def cT (h : I2) : List Value := [.bool h.m, .int .i64 h.v]
def cE (h : E3) : List Value := [.int .i64 h.k, .int .i64 h.q, .int .i64 h.v]
def fI (h : Nat → I5) (n : Nat) : List Value := flat (fun i => cI (h i)) n
def fT (h : Nat → I2) (n : Nat) : List Value := flat (fun i => cT (h i)) n
def fE (h : Nat → E3) (n : Nat) : List Value := flat (fun i => cE (h i)) n
def Cl (B : Nat) (c : Nat → Nat) (i : Nat) : Nat → Prop := fun k => B ≤ k ∧ c k = i
abbrev LI (w : World) (P : Nat → Prop) (v : Value) (n : Nat) (u : Nat → Value) (L : Nat → Nat) (H : Nat → Nat → I5) : Prop := LL 60 5 57 w P v n u L fun i => fI (H i) (L i)
abbrev LT (w : World) (P : Nat → Prop) (v : Value) (n : Nat) (u : Nat → Value) (L : Nat → Nat) (H : Nat → Nat → I2) : Prop := LL 122 2 95 w P v n u L fun i => fT (H i) (L i)
abbrev LE (w : World) (P : Nat → Prop) (v : Value) (n : Nat) (u : Nat → Value) (L : Nat → Nat) (H : Nat → Nat → E3) : Prop := LL 77 3 91 w P v n u L fun i => fE (H i) (L i)
end Go.Proofs.YtdigofhceahpdaaGreatDoor
namespace Go.Proofs.YtdigofhceahpdaaGreatDoor
open Go.ChangeShapes Go.WideShapes Go.ChangeAt Go.RowKit Go.Deep
end Go.Proofs.YtdigofhceahpdaaGreatDoor
namespace Go.Proofs.YtdigofhceahpdaaGreatDoor
open Go.ChangeShapes Go.WideShapes Go.ChangeAt Go.RowKit Go.Deep
theorem stepR_call {ops : Array Oper} {o : Oper} {a : Act} {w : World} {K : Act → World → Prop} {Q : Exit → Act → World → Prop} {E : Prop} (hg : o.guard = none) (f : FuncId) (args : Array Operand) (ts : Array TypeId)
   (ho : o.op = .call { callee := .value (.func f), args := args, argTypes := ts }) (vals : Array Value) (hv : args.map a.eval = vals) (hen : ∀ vs wx, (callFunc f vs).run Tryz.prog wx = .ok (.enter f vs) wx) {post : Ending → World → Prop} (hc : Calls Tryz.prog f vals w post)
   (h : ∀ e w', post e w' → ∃ v, e = .returned v ∧ K (a.put o.dst v) w') :
   if Region.wanted o (yielded ops a.tmps) = true then Oper.wp Tryz.prog o a w K Q else E := by
 have hw : Region.wanted o (yielded ops a.tmps) = true := by simp [Region.wanted, hg]
 rw [if_pos hw]
 have hr : (execOp a.eval o).run Tryz.prog w = .ok (.enter f vals) w := by
   unfold execOp
   simp [ho, resolve, invoke, hv, hen, Act.eval, Deferred.ofValue]
 unfold Oper.wp
 rw [hr, Oper.upon_enter]
 refine hc.mono fun e w' hp => ?_
 obtain ⟨v, rfl, hk⟩ := h e w' hp
 exact hk
end Go.Proofs.YtdigofhceahpdaaGreatDoor
