/- The walks of the model's cuts. -/
import Derived.Test.YtfdanemmefckpaaGreatDoorOc0
import Derived.Test.YtfdanemmefckpaaGreatDoorOc21
import Derived.Test.YtfdanemmefckpaaGreatDoorOc19
import Derived.Test.YtfdanemmefckpaaGreatDoorOc16
import Derived.Test.YtfdanemmefckpaaGreatDoorOc17
import Derived.Deep.RegionLaw
import Derived.Test.YtfdanemmefckpaaGreatDoorOc18
import Derived.Laws.CopyRow
import Derived.Deep.Cut
import Derived.Lib.QuietBelow
import Derived.Deep.RegionWith
import Derived.BigQuiet
namespace Go.Proofs.YtfdanemmefckpaaGreatDoor
set_option maxRecDepth 100000
set_option maxHeartbeats 4000000
open Go.RowKit Go.Sort
theorem runOf_no (gb n gc : Nat) (g : Nat → I5) (w : World) (hn : n ≤ maxLen) (hg : gb < w.heap.size) (hI : InsAt w gb 0 n g) (hp : progOkB g n 4 = false) :
  Calls Tryz.prog 239 #[.slice (some ⟨gb, 0, none⟩) n gc] w fun e w' => e = .returned (.tuple #[.nilFunc, .iface 254 (.agg #[.int .i64 (-1)])]) ∧ Below w.heap.size w w' := by
 have HI : Hid (InsAt w gb 0 n g) := hI
 have HL : Hid (n ≤ maxLen) := hn
 have HP : Hid (progOkB g n 4 = false) := hp
 clear hI hn
 go_enter Tryz.func239, Tryz.ntmps239
 go_wp2_with fail
 refine (implProgOk_any gb 0 n gc g 4 _ HL.out (by simp; omega) (HI.out.below (by go_grown) hg)).mono ?_
 rintro e w1 ⟨rfl, b1⟩
 have B1 : Hid (Below w.heap.size w w1) := below_up (by go_grown) b1 (by simp)
 clear b1
 go_wp2
 exact bodyPost_ret (v := .tuple #[.nilFunc, .iface 254 (.agg #[.int .i64 (-1)])]) (by simp [results, Tryz.results239, go_sem]) rfl ⟨rfl, B1.out⟩
def AllR (w : World) (O : Option S4) (e : Ending) (w' : World) : Prop :=
 ∃ v err, e = .returned (.tuple #[v, err]) ∧ Below w.heap.size w w' ∧ StOwn w' w.heap.size v (resS O).p (resS O).rs (resS O).os (resS O).c ∧ ((O.isSome = true ∧ err = .nilIface) ∨ (O.isSome = false ∧ ∃ x : Int, err = .iface 254 (.agg #[.int .i64 x])))
theorem runAll_no (gb n gc : Nat) (ea : Option Addr) (m ec : Nat) (g : Nat → I5) (eh : Nat → E3) (w : World) (hn : n ≤ maxLen) (hg : gb < w.heap.size) (hI : InsAt w gb 0 n g) (hp : progOkB g n 4 = false) :
  Calls Tryz.prog 206 #[.slice (some ⟨gb, 0, none⟩) n gc, .slice ea m ec] w (AllR w (repO g n eh m)) := by
 have HI : Hid (InsAt w gb 0 n g) := hI
 have HO : Hid (repO g n eh m = none) := by
  show repO g n eh m = none
  unfold repO
  rw [if_neg (by rw [hp]; simp)]
 have HP : Hid (progOkB g n 4 = false) := hp
 have HL : Hid (n ≤ maxLen) := hn
 clear hI hn hp
 rw [HO.out]
 have bA := below_alloc w (zQ0)
 have BA : Hid (Below w.heap.size w (w.alloc (zQ0))) := bA
 have NB : Hid (BoxC (w.alloc (zQ0)) w.heap.size (.int .i64 0) (.slice none 0 0) (.slice none 0 0) (.int .i64 0) ∧ ∀ j, (w.alloc (zQ0)).frozen? ⟨w.heap.size, j, none⟩ = false) := ⟨BoxC.new w _ _ _ _ _, fun j => new_frozen _ _ _ j rfl⟩
 clear bA
 go_enter Tryz.func206, Tryz.ntmps206
 go_wp2_with fail
 have hz : (w.alloc (zQ0)).heap.size = w.heap.size + 1 := by simp
 generalize w.alloc (zQ0) = wa at *
 refine (runOf_no gb n gc g wa HL.out (Nat.lt_of_lt_of_le hg BA.out.size) (HI.out.below BA.out hg) HP.out).mono ?_
 rintro e w1 ⟨rfl, b1⟩
 have N1 : BoxC w1 w.heap.size (.int .i64 0) (.slice none 0 0) (.slice none 0 0) (.int .i64 0) := NB.out.1.below b1
 have F1 : ∀ j, w1.frozen? ⟨w.heap.size, j, none⟩ = false := fun j => (World.frozen?_of_block (b1.block w.heap.size (by omega))).trans (NB.out.2 j)
 have B1 : Hid (Below w.heap.size w w1) := BA.out.trans (b1.mono BA.out.size)
 obtain ⟨r0, r1, r2, r3⟩ := N1
 clear b1 BA NB hz
 go_wp2
 exact bodyPost_ret (v := .tuple #[stV 0 none 0 0 none 0 0 0, .iface 254 (.agg #[.int .i64 (-1)])]) (by simp [results, Tryz.results206, go_sem, r0, r1, r2, r3]) rfl ⟨_, _, rfl, (((B1.out.setCell (Nat.le_refl _) _).setCell (Nat.le_refl _) _).setCell (Nat.le_refl _) _).setCell (Nat.le_refl _) _, StOwn.nil _ _, .inr ⟨rfl, _, rfl⟩⟩
structure Ra (wa wr : World) (A B C X gb n gc k : Nat) (S : S4) : Prop where
 rn : ∃ ra rc oa oc, Rn wa wr A B C gb n gc k S.p S.c ra rc oa oc S.rs S.os
 sb : ∃ ra rc oa oc, BoxC wr X (.int .i64 S.p) (.slice ra S.rs.length rc) (.slice oa S.os.length oc) (.int .i64 S.c) ∧ StOwn wr wa.heap.size (stV S.p ra S.rs.length rc oa S.os.length oc S.c) S.p S.rs S.os S.c ∧ ¬ hasBlock (stV S.p ra S.rs.length rc oa S.os.length oc S.c) X
 fs : ∀ j, wr.frozen? ⟨X, j, none⟩ = false
 ne : X ≠ A ∧ X ≠ B ∧ X ≠ C ∧ wa.heap.size ≤ X
theorem StOwn.setOut {w : World} {B N : Nat} {v : Value} {p code : Int} {rs os : List Int} (h : StOwn w B v p rs os code) (hN : ¬ hasBlock v N) (j : Nat) (u : Value) : StOwn (w.setCell ⟨N, j, none⟩ u) B v p rs os code := by
 obtain ⟨vr, vo, rfl, h1, h2, h3⟩ := h
 have blk : ∀ {v' : Value} {xs : List Int}, OwnI w B v' xs → (v'.ownBlock ≠ some N) → OwnI (w.setCell ⟨N, j, none⟩ u) B v' xs := by
  intro v' xs hv hne
  obtain ⟨g0, g⟩ := hv
  refine ⟨g0, ?_⟩
  rcases g with g | ⟨b, cap, cur, rfl, g1, g2, g3⟩
  ·exact .inl g
  ·refine .inr ⟨b, cap, cur, rfl, g1, (Below.heap_setCell _ _ _ _ fun e => hne ?_).trans g2, g3⟩
   show some b = some N
   rw [e]
 exact ⟨vr, vo, rfl, blk h1 fun e => hN ((hasBlock_iff _ _ _ _ _).2 (.inl e)), blk h2 fun e => hN ((hasBlock_iff _ _ _ _ _).2 (.inr e)), h3⟩
theorem Rn.setX {w wr : World} {A B C gb n gc k X : Nat} {p code : Int} {ra : Option Addr} {rc : Nat} {oa : Option Addr} {oc : Nat} {rs os : List Int} (h : Rn w wr A B C gb n gc k p code ra rc oa oc rs os) (hX : X ≠ A ∧ X ≠ B ∧ X ≠ C ∧ w.heap.size ≤ X) (hb : ¬ hasBlock (stV p ra rs.length rc oa os.length oc code) X) (j : Nat) (u : Value) : Rn w (wr.setCell ⟨X, j, none⟩ u) A B C gb n gc k p code ra rc oa oc rs os := by
 have hc : ∀ N i, X ≠ N → (wr.setCell ⟨X, j, none⟩ u).cell? ⟨N, i, none⟩ = wr.cell? ⟨N, i, none⟩ := fun N i hne => World.cell?_setCell_other _ _ _ _ fun e => hne (by injection e)
 obtain ⟨t0, t1, t2, t3⟩ := h.tl.box
 refine ⟨(hc A 0 hX.1).trans h.la, ⟨h.tl.lo, by simp; exact h.tl.hi, by simp, ⟨(hc B 0 hX.2.1).trans t0, (hc B 1 hX.2.1).trans t1, (hc B 2 hX.2.1).trans t2, (hc B 3 hX.2.1).trans t3⟩, h.tl.own.setOut hb j u, fun i hi => by simp; exact h.tl.up i hi, h.tl.ne⟩, fun i => by rw [World.frozen?_setCell]; exact h.fb i, (hc C 0 hX.2.2.1).trans h.ck, by rw [World.frozen?_setCell]; exact h.fc, h.ne, h.nh, h.be.setCell hX.2.2.2 _⟩
theorem Ra.below {wa wr w' : World} {A B C X gb n gc k : Nat} {S : S4} (h : Ra wa wr A B C X gb n gc k S) (hb : Below wr.heap.size wr w') : Ra wa w' A B C X gb n gc k S := by
 obtain ⟨ra, rc, oa, oc, b, o, nb⟩ := h.sb
 obtain ⟨ra', rc', oa', oc', r⟩ := h.rn
 exact ⟨⟨ra', rc', oa', oc', r.below hb⟩, ⟨ra, rc, oa, oc, b.below hb, o.below hb, nb⟩, fun j => (World.frozen?_of_block (hb.block X (World.block_lt_of_cell? wr _ b.1))).trans (h.fs j), h.ne⟩
theorem Ra.next {wa wq w5 : World} {A B C X gb n gc k : Nat} {S S' : S4} (h : Ra wa wq A B C X gb n gc k S) (kp : keepBC wq B C w5) {ra : Option Addr} {rc : Nat} {oa : Option Addr} {oc : Nat} (r : Rn wa w5 A B C gb n gc (k + 1) S'.p S'.c ra rc oa oc S'.rs S'.os) (hj : ∀ j, hasBlock (stV S'.p ra S'.rs.length rc oa S'.os.length oc S'.c) j → wq.heap.size ≤ j) :
  Ra wa ((((w5.setCell ⟨X, 0, none⟩ (.int .i64 S'.p)).setCell ⟨X, 1, none⟩ (.slice ra S'.rs.length rc)).setCell ⟨X, 2, none⟩ (.slice oa S'.os.length oc)).setCell ⟨X, 3, none⟩ (.int .i64 S'.c)) A B C X gb n gc (k + 1) S' := by
 obtain ⟨ra0, rc0, oa0, oc0, b, -, -⟩ := h.sb
 have zX : X < wq.heap.size := World.block_lt_of_cell? wq _ b.1
 have nX : ¬ hasBlock (stV S'.p ra S'.rs.length rc oa S'.os.length oc S'.c) X := fun e => by
  have := hj X e
  omega
 have hB5 : w5.heap[X]? = wq.heap[X]? := kp.2 X zX h.ne.2.1 h.ne.2.2.1
 have b5 : BoxC w5 X (.int .i64 S.p) (.slice ra0 S.rs.length rc0) (.slice oa0 S.os.length oc0) (.int .i64 S.c) := ⟨(World.cell?_of_block hB5).trans b.1, (World.cell?_of_block hB5).trans b.2.1, (World.cell?_of_block hB5).trans b.2.2.1, (World.cell?_of_block hB5).trans b.2.2.2⟩
 refine ⟨⟨ra, rc, oa, oc, (((r.setX h.ne nX _ _).setX h.ne nX _ _).setX h.ne nX _ _).setX h.ne nX _ _⟩, ⟨ra, rc, oa, oc, box_set4 b5 _ _ _ _, (((r.tl.own.setOut nX _ _).setOut nX _ _).setOut nX _ _).setOut nX _ _, nX⟩, fun j => ?_, h.ne⟩
 simp only [World.frozen?_setCell]
 rw [World.frozen?_of_block hB5]
 exact h.fs j
theorem runAll_yes (gb n gc : Nat) (ea : Option Addr) (m ec : Nat) (g : Nat → I5) (eh : Nat → E3) (w : World) (hn : n ≤ maxLen) (hg : gb < w.heap.size) (hI : InsAt w gb 0 n g) (hp : progOkB g n 4 = true) (hE : EvL w ea m eh) (hm : m ≤ 1048576) :
  Calls Tryz.prog 206 #[.slice (some ⟨gb, 0, none⟩) n gc, .slice ea m ec] w (AllR w (repO g n eh m)) := by
 have HI : Hid (InsAt w gb 0 n g) := hI
 have HE : Hid (EvL w ea m eh) := hE
 have HP : Hid (progOkB g n 4 = true) := hp
 have HL : Hid (n ≤ maxLen) := hn
 have hm' : (m : Int) ≤ 1048576 := by omega
 have HO : Hid (repO g n eh m = if m ≤ 200 then rp g n eh m else none) := by
  show repO g n eh m = _
  unfold repO
  by_cases h2 : m ≤ 200
  ·rw [if_pos ⟨hp, h2⟩, if_pos h2]
  ·rw [if_neg (by omega), if_neg h2]
 clear hI hn hp hE
 have bA := below_alloc w (zQ0)
 have BA : Hid (Below w.heap.size w (w.alloc (zQ0))) := bA
 have NB : Hid (BoxC (w.alloc (zQ0)) w.heap.size (.int .i64 0) (.slice none 0 0) (.slice none 0 0) (.int .i64 0) ∧ ∀ j, (w.alloc (zQ0)).frozen? ⟨w.heap.size, j, none⟩ = false) := ⟨BoxC.new w _ _ _ _ _, fun j => new_frozen _ _ _ j rfl⟩
 clear bA
 generalize hRO : repO g n eh m = O at *
 go_enter Tryz.func206, Tryz.ntmps206
 go_wp2_with fail
 have hz : (w.alloc (zQ0)).heap.size = w.heap.size + 1 := by simp
 generalize w.alloc (zQ0) = wa at *
 refine (runOf_any gb n gc g wa HL.out (Nat.lt_of_lt_of_le hg BA.out.size) (HI.out.below BA.out hg) HP.out).mono ?_
 rintro e w1 ⟨A, B, C, ra, rc, oa, oc, rfl, R1⟩
 have HR1 : Hid (Rn wa w1 A B C gb n gc 0 0 0 ra rc oa oc [0, 0, 0, 0] []) := R1
 clear R1
 go_wp2_with fail
 refine (implStateNew_any _).mono ?_
 rintro e w2 ⟨v2, rfl, o2, b2⟩
 obtain ⟨ra2, rc2, oa2, oc2, rfl, -, -⟩ := o2.read
 have HR2 : Hid (Rn wa w2 A B C gb n gc 0 0 0 ra rc oa oc [0, 0, 0, 0] []) := HR1.out.below b2
 have O2 : Hid (StOwn w2 w1.heap.size (stV 0 ra2 4 rc2 oa2 0 oc2 0) 0 [0, 0, 0, 0] [] 0) := o2
 have zX := b2.size
 have HRA : Hid (Ra wa (w2.alloc (oQ1 0 ra2 4 rc2 oa2 0 oc2 0)) A B C w2.heap.size gb n gc 0 newS) := by
  have zA : A < w2.heap.size := World.block_lt_of_cell? w2 _ HR2.out.la
  have zB : B < w2.heap.size := HR2.out.tl.hi
  have zC : C < w2.heap.size := World.block_lt_of_cell? w2 _ HR2.out.ck
  have hbe := HR2.out.be.size
  have hbe1 := HR1.out.be.size
  refine ⟨⟨_, _, _, _, HR2.out.below (below_alloc _ _)⟩, ⟨ra2, rc2, oa2, oc2, BoxC.new w2 _ _ _ _ _, (O2.out.below (below_alloc _ _)).mono hbe1, fun e => ?_⟩, fun j => new_frozen _ _ _ j rfl, by omega, by omega, by omega, hbe⟩
  have := (O2.out.lt e).2
  omega
 clear o2 b2 O2 HR1 HR2
 go_wp2_with fail
 generalize w2.alloc (oQ1 0 ra2 4 rc2 oa2 0 oc2 0) = w3 at *
 have HZ : Hid (w.heap.size < wa.heap.size) := by
  show w.heap.size < wa.heap.size
  omega
 generalize w2.heap.size = X at *
 clear zX hz
 go_loopw [23] (fun i wr => ∃ k : Nat, k ≤ m ∧ i = .int .i64 k ∧ Hid (k ≤ 200 ∧ ∃ S, rp g n eh k = some S ∧ OkS n S ∧ Ra wa wr A B C X gb n gc k S)) (fun i _ => m - (intOf i).toNat)
 case atStart => exact ⟨0, Nat.zero_le _, rfl, by omega, newS, rfl, newS_ok HP.out, HRA.out⟩
 case round =>
  clear HRA
  obtain ⟨k, hk, rfl, HK⟩ := hrel
  obtain ⟨hk2, S, hrp, hok, hra⟩ := HK.out
  obtain ⟨sra, src, soa, soc, ⟨s0, s1, s2, s3⟩, sown, snb⟩ := hra.sb
  have hbe : Below w.heap.size w wr := by
   obtain ⟨_, _, _, _, r⟩ := hra.rn
   exact BA.out.trans (r.be.mono BA.out.size)
  by_cases hlt : k < m
  ·have hlt' : (k : Int) < (m : Int) := by omega
   obtain ⟨eb, eo, rfl, -, c0, c1, c2⟩ := (HE.out.below hbe).at hlt
   have HRP : Hid (rp g n eh k = some S) := hrp
   have HOK : Hid (OkS n S) := hok
   have HRa : Hid (Ra wa wr A B C X gb n gc k S) := hra
   have HK2 : Hid (k ≤ 200) := hk2
   clear hrp hok hra hk2 sown snb HK s0 s1 s2 s3 hbe
   go_wp2_with fail
   have hRq : Ra wa (wr.alloc (oQ0 (eh k).k (eh k).q (eh k).v)) A B C X gb n gc k S := HRa.out.below (below_alloc _ _)
   generalize wr.alloc (oQ0 (eh k).k (eh k).q (eh k).v) = wq at *
   have HRq : Hid (Ra wa wq A B C X gb n gc k S) := hRq
   obtain ⟨qra, qrc, qoa, qoc, qrn⟩ := hRq.rn
   have hlen := OkS.len HOK.out
   refine (runOf1_any A B C gb n gc k g S.p S.c qra qrc qoa qoc S.rs S.os _ _ _ wa wq qrn HL.out (Nat.lt_of_lt_of_le hg BA.out.size) (HI.out.below BA.out hg) HP.out HK2.out (by omega) (by omega)).mono ?_
   rintro e w5 ⟨kp, hd⟩
   have n5 : BoxC w5 w.heap.size (.int .i64 0) (.slice none 0 0) (.slice none 0 0) (.int .i64 0) ∧ (∀ j, w5.frozen? ⟨w.heap.size, j, none⟩ = false) ∧ (∃ a b c d, BoxC w5 X a b c d) ∧ ∀ j, w5.frozen? ⟨X, j, none⟩ = false := by
    have zR : w.heap.size < wq.heap.size := Nat.lt_of_lt_of_le HZ.out qrn.be.size
    have lB := qrn.tl.lo
    have lC := qrn.ne.2.2.2.2
    have hz := HZ.out
    have eR : w5.heap[w.heap.size]? = wa.heap[w.heap.size]? := (kp.2 _ zR (by omega) (by omega)).trans (qrn.be.block _ HZ.out)
    obtain ⟨xra, xrc, xoa, xoc, xb, -, -⟩ := hRq.sb
    have eX : w5.heap[X]? = wq.heap[X]? := kp.2 X (World.block_lt_of_cell? wq _ xb.1) hRq.ne.2.1 hRq.ne.2.2.1
    obtain ⟨a0, a1, a2, a3⟩ := NB.out.1
    exact ⟨⟨(World.cell?_of_block eR).trans a0, (World.cell?_of_block eR).trans a1, (World.cell?_of_block eR).trans a2, (World.cell?_of_block eR).trans a3⟩, fun j => (World.frozen?_of_block eR).trans (NB.out.2 j), ⟨_, _, _, _, (World.cell?_of_block eX).trans xb.1, (World.cell?_of_block eX).trans xb.2.1, (World.cell?_of_block eX).trans xb.2.2.1, (World.cell?_of_block eX).trans xb.2.2.2⟩, fun j => (World.frozen?_of_block eX).trans (hRq.fs j)⟩
   obtain ⟨⟨r0, r1, r2, r3⟩, rf, ⟨xa, xb, xc, xd, x0, x1, x2, x3⟩, xf⟩ := n5
   have hRX : w.heap.size ≠ X := by
    have := hRq.ne.2.2.2
    have := HZ.out
    omega
   have hXR : X ≠ w.heap.size := fun e => hRX e.symm
   rcases hd with ⟨tT, tk, ra7, rc7, oa7, oc7, rfl, R7, J7⟩ | ⟨tF, rfl, be7⟩
   ·have HN : Hid (Ra wa _ A B C X gb n gc (k + 1) (doS g n S.p S.rs S.os S.c (eh k).k (eh k).q (eh k).v)) := hRq.next kp R7 J7
    have HS' : Hid (rp g n eh (k + 1) = some (doS g n S.p S.rs S.os S.c (eh k).k (eh k).q (eh k).v)) := rp_yes HRP.out tT
    have HO' : Hid (OkS n (doS g n S.p S.rs S.os S.c (eh k).k (eh k).q (eh k).v)) := doS_ok tT
    have HK3 : Hid (k + 1 ≤ 200) := by
     show k + 1 ≤ 200
     have := HK2.out
     omega
    generalize doS g n S.p S.rs S.os S.c (eh k).k (eh k).q (eh k).v = S' at *
    clear R7 J7 qrn hRq kp tT tk r0 r1 r2 r3 rf
    go_wp2
    go_roundw
    case rel => exact ⟨k + 1, by omega, by go_num, HK3.out, S', HS'.out, HO'.out, HN.out⟩
    case measure => simp [intOf]; omega
   ·have HON : Hid (O = none) := by
     show O = none
     rw [HO.out]
     rcases tF with tF | tF
     ·by_cases h2 : m ≤ 200
      ·rw [if_pos h2]
       exact rp_over (rp_no HRP.out tF) (by omega)
      ·rw [if_neg h2]
     ·rw [if_neg (by omega)]
    have B5 : Hid (Below w.heap.size w w5) := BA.out.trans (be7.mono BA.out.size)
    have hwX : w.heap.size ≤ X := by
     have := hRq.ne.2.2.2
     have := HZ.out
     omega
    have HW : Hid (w.heap.size ≤ X) := hwX
    clear qrn hRq kp tF be7 hwX
    go_wp2
    refine bodyPost_ret (v := .tuple #[stV 0 none 0 0 none 0 0 0, .iface 254 (.agg #[.int .i64 k])]) (by simp [results, Tryz.results206, go_sem, r0, r1, r2, r3]) rfl ?_
    rw [HON.out]
    refine ⟨_, _, rfl, ?_, StOwn.nil _ _, .inr ⟨rfl, _, rfl⟩⟩
    repeat (refine Below.setCell ?_ (by first | exact Nat.le_refl _ | exact HW.out) _)
    exact B5.out
  ·have hkm : k = m := by omega
   subst hkm
   have HOS : Hid (O = some S) := by
    show O = some S
    rw [HO.out, if_pos hk2]
    exact hrp
   obtain ⟨r0, r1, r2, r3⟩ : BoxC wr w.heap.size (.int .i64 0) (.slice none 0 0) (.slice none 0 0) (.int .i64 0) := by
    obtain ⟨_, _, _, _, r⟩ := hra.rn
    have eR : wr.heap[w.heap.size]? = wa.heap[w.heap.size]? := r.be.block _ HZ.out
    obtain ⟨a0, a1, a2, a3⟩ := NB.out.1
    exact ⟨(World.cell?_of_block eR).trans a0, (World.cell?_of_block eR).trans a1, (World.cell?_of_block eR).trans a2, (World.cell?_of_block eR).trans a3⟩
   have rf : ∀ j, wr.frozen? ⟨w.heap.size, j, none⟩ = false := by
    obtain ⟨_, _, _, _, r⟩ := hra.rn
    exact fun j => (World.frozen?_of_block (r.be.block _ HZ.out)).trans (NB.out.2 j)
   have HSO : Hid (StOwn wr wa.heap.size (stV S.p sra S.rs.length src soa S.os.length soc S.c) S.p S.rs S.os S.c) := sown
   have HBE : Hid (Below w.heap.size w wr) := hbe
   have hlt' : ¬ (k : Int) < (k : Int) := by omega
   clear hrp hok hra hk2 sown snb HK hbe
   go_wp2
   refine bodyPost_ret (v := .tuple #[stV S.p sra S.rs.length src soa S.os.length soc S.c, .nilIface]) (by simp [results, Tryz.results206, go_sem, r0, r1, r2, r3]) rfl ?_
   rw [HOS.out]
   refine ⟨_, _, rfl, ?_, ?_, .inl ⟨rfl, rfl⟩⟩
   ·exact (((HBE.out.setCell (Nat.le_refl _) _).setCell (Nat.le_refl _) _).setCell (Nat.le_refl _) _).setCell (Nat.le_refl _) _
   ·exact HSO.out.put4 HZ.out (Nat.le_of_lt HZ.out)
theorem implReplay_l (gb n gc : Nat) (ea : Option Addr) (m ec : Nat) (g : Nat → I5) (eh : Nat → E3) (w : World) (hn : n ≤ maxLen) (hg : gb < w.heap.size) (hI : InsAt w gb 0 n g) (hE : EvL w ea m eh) (hm : m ≤ 1048576) (hV : w.cell? ⟨0, 0, none⟩ = some (.iface 310 (.agg #[.pointer (some ⟨1, 250, none⟩)]))) :
  Calls Tryz.prog 161 #[.slice (some ⟨gb, 0, none⟩) n gc, .slice ea m ec] w (DoneR w (resS (repO g n eh m)) (repO g n eh m).isSome) := by
 have HI : Hid (InsAt w gb 0 n g) := hI
 have HE : Hid (EvL w ea m eh) := hE
 have HL : Hid (n ≤ maxLen) := hn
 have HV : Hid (w.cell? ⟨0, 0, none⟩ = some (.iface 310 (.agg #[.pointer (some ⟨1, 250, none⟩)]))) := hV
 have hV0 : 0 < w.heap.size := World.block_lt_of_cell? w _ hV
 clear hI hE hn hV
 have bA := below_alloc w (zQ0)
 have BA : Hid (Below w.heap.size w (w.alloc (zQ0))) := bA
 have NB : Hid (BoxC (w.alloc (zQ0)) w.heap.size (.int .i64 0) (.slice none 0 0) (.slice none 0 0) (.int .i64 0) ∧ ∀ j, (w.alloc (zQ0)).frozen? ⟨w.heap.size, j, none⟩ = false) := ⟨BoxC.new w _ _ _ _ _, fun j => new_frozen _ _ _ j rfl⟩
 clear bA
 have hrun : ∀ wx : World, Below w.heap.size w wx → Calls Tryz.prog 206 #[.slice (some ⟨gb, 0, none⟩) n gc, .slice ea m ec] wx (AllR wx (repO g n eh m)) := by
  intro wx hb
  rcases Bool.eq_false_or_eq_true (progOkB g n 4) with tp | tp
  ·exact runAll_yes gb n gc ea m ec g eh wx HL.out (Nat.lt_of_lt_of_le hg hb.size) (HI.out.below hb hg) tp (HE.out.below hb) hm
  ·exact runAll_no gb n gc ea m ec g eh wx HL.out (Nat.lt_of_lt_of_le hg hb.size) (HI.out.below hb hg) tp
 have HRn : Hid (∀ wx : World, Below w.heap.size w wx → Calls Tryz.prog 206 #[.slice (some ⟨gb, 0, none⟩) n gc, .slice ea m ec] wx (AllR wx (repO g n eh m))) := hrun
 clear hrun
 generalize repO g n eh m = O at *
 go_enter Tryz.func161, Tryz.ntmps161
 go_wp2_with fail
 have hz : (w.alloc (zQ0)).heap.size = w.heap.size + 1 := by simp
 generalize w.alloc (zQ0) = wa at *
 refine (HRn.out wa BA.out).mono ?_
 rintro e w1 ⟨v1, err, rfl, b1, o1, hO⟩
 obtain ⟨ra1, rc1, oa1, oc1, rfl, -, -⟩ := o1.read
 have B1 : Hid (Below w.heap.size w w1) := BA.out.trans (b1.mono BA.out.size)
 have N1 : Hid (BoxC w1 w.heap.size (.int .i64 0) (.slice none 0 0) (.slice none 0 0) (.int .i64 0) ∧ ∀ j, w1.frozen? ⟨w.heap.size, j, none⟩ = false) := ⟨NB.out.1.below b1, fun j => (World.frozen?_of_block (b1.block w.heap.size (by omega))).trans (NB.out.2 j)⟩
 have O1 : Hid (StOwn w1 wa.heap.size (stV (resS O).p ra1 (resS O).rs.length rc1 oa1 (resS O).os.length oc1 (resS O).c) (resS O).p (resS O).rs (resS O).os (resS O).c) := o1
 have z1 := b1.size
 have zw : w.heap.size < w1.heap.size := by omega
 clear o1 b1 BA NB
 have bq0 := below_alloc w1 (oQ1 (resS O).p ra1 (resS O).rs.length rc1 oa1 (resS O).os.length oc1 (resS O).c)
 have bq1 := below_alloc (w1.alloc (oQ1 (resS O).p ra1 (resS O).rs.length rc1 oa1 (resS O).os.length oc1 (resS O).c)) (.cells #[.int .i64 0] 254)
 have bq : Below w1.heap.size w1 ((w1.alloc (oQ1 (resS O).p ra1 (resS O).rs.length rc1 oa1 (resS O).os.length oc1 (resS O).c)).alloc (.cells #[.int .i64 0] 254)) := bq0.trans (bq1.mono bq0.size)
 have BQ : Hid (Below w.heap.size w ((w1.alloc (oQ1 (resS O).p ra1 (resS O).rs.length rc1 oa1 (resS O).os.length oc1 (resS O).c)).alloc (.cells #[.int .i64 0] 254))) := B1.out.trans (bq.mono B1.out.size)
 have NQ : Hid (BoxC ((w1.alloc (oQ1 (resS O).p ra1 (resS O).rs.length rc1 oa1 (resS O).os.length oc1 (resS O).c)).alloc (.cells #[.int .i64 0] 254)) w.heap.size (.int .i64 0) (.slice none 0 0) (.slice none 0 0) (.int .i64 0) ∧ ∀ j, ((w1.alloc (oQ1 (resS O).p ra1 (resS O).rs.length rc1 oa1 (resS O).os.length oc1 (resS O).c)).alloc (.cells #[.int .i64 0] 254)).frozen? ⟨w.heap.size, j, none⟩ = false) := ⟨N1.out.1.below bq, fun j => (World.frozen?_of_block (bq.block w.heap.size zw)).trans (N1.out.2 j)⟩
 have OQ : Hid (StOwn ((w1.alloc (oQ1 (resS O).p ra1 (resS O).rs.length rc1 oa1 (resS O).os.length oc1 (resS O).c)).alloc (.cells #[.int .i64 0] 254)) wa.heap.size (stV (resS O).p ra1 (resS O).rs.length rc1 oa1 (resS O).os.length oc1 (resS O).c) (resS O).p (resS O).rs (resS O).os (resS O).c) := O1.out.below bq
 have SQ : Hid (BoxC ((w1.alloc (oQ1 (resS O).p ra1 (resS O).rs.length rc1 oa1 (resS O).os.length oc1 (resS O).c)).alloc (.cells #[.int .i64 0] 254)) w1.heap.size (.int .i64 (resS O).p) (.slice ra1 (resS O).rs.length rc1) (.slice oa1 (resS O).os.length oc1) (.int .i64 (resS O).c)) := (BoxC.new w1 _ _ _ _ _).below bq1
 have TQ : Hid (((w1.alloc (oQ1 (resS O).p ra1 (resS O).rs.length rc1 oa1 (resS O).os.length oc1 (resS O).c)).alloc (.cells #[.int .i64 0] 254)).cell? ⟨w1.heap.size + 1, 0, none⟩ = some (.int .i64 0) ∧ ((w1.alloc (oQ1 (resS O).p ra1 (resS O).rs.length rc1 oa1 (resS O).os.length oc1 (resS O).c)).alloc (.cells #[.int .i64 0] 254)).frozen? ⟨w1.heap.size + 1, 0, none⟩ = false ∧ w1.heap.size + 2 = ((w1.alloc (oQ1 (resS O).p ra1 (resS O).rs.length rc1 oa1 (resS O).os.length oc1 (resS O).c)).alloc (.cells #[.int .i64 0] 254)).heap.size) := by
  have h1 := new_cell (w1.alloc (oQ1 (resS O).p ra1 (resS O).rs.length rc1 oa1 (resS O).os.length oc1 (resS O).c)) #[.int .i64 0] 254 0 rfl
  have h2 := new_frozen (w1.alloc (oQ1 (resS O).p ra1 (resS O).rs.length rc1 oa1 (resS O).os.length oc1 (resS O).c)) #[.int .i64 0] 254 0 rfl
  rw [World.size_alloc] at h1 h2
  exact ⟨h1, h2, by simp⟩
 clear bq0 bq1 bq N1 O1 B1
 rcases hO with ⟨tO, rfl⟩ | ⟨tO, x, rfl⟩
 ·have HT : Hid (O.isSome = true) := tO
  clear tO
  go_wp2_with fail
  generalize (w1.alloc (oQ1 (resS O).p ra1 (resS O).rs.length rc1 oa1 (resS O).os.length oc1 (resS O).c)).alloc (.cells #[.int .i64 0] 254) = wq at *
  refine (as_nil _ wq).mono ?_
  rintro e w2 ⟨rfl, rfl⟩
  obtain ⟨⟨r0, r1, r2, r3⟩, rf⟩ := NQ.out
  obtain ⟨s0, s1, s2, s3⟩ := SQ.out
  have hne : w1.heap.size ≠ w.heap.size := by omega
  go_wp2
  refine bodyPost_ret (v := .tuple #[stV (resS O).p ra1 (resS O).rs.length rc1 oa1 (resS O).os.length oc1 (resS O).c, .bool true]) (by simp [results, Tryz.results161, go_sem, r0, r1, r2, r3]) rfl ?_
  rw [HT.out]
  refine ⟨_, rfl, ?_, ?_⟩
  ·exact OQ.out.put4 (by omega) (by omega)
  ·exact (((BQ.out.setCell (Nat.le_refl _) _).setCell (Nat.le_refl _) _).setCell (Nat.le_refl _) _).setCell (Nat.le_refl _) _
 ·have HT : Hid (O = none) := by
   cases O with
   | none => rfl
   | some S => cases tO
  clear tO
  go_wp2_with fail
  generalize (w1.alloc (oQ1 (resS O).p ra1 (resS O).rs.length rc1 oa1 (resS O).os.length oc1 (resS O).c)).alloc (.cells #[.int .i64 0] 254) = wq at *
  refine (as_hit x ⟨w1.heap.size + 1, 0, none⟩ (.int .i64 0) wq ((BQ.out.cell (p := ⟨0, 0, none⟩) hV0).trans HV.out) TQ.out.1 TQ.out.2.1).mono ?_
  rintro e w2 ⟨rfl, o1, o2, o3, o4, rfl⟩
  have b2 : Below (w1.heap.size + 1) wq (((((wq.alloc o1).alloc o2).alloc o3).alloc o4).setCell ⟨w1.heap.size + 1, 0, none⟩ (.int .i64 x)) := by
   have hq := TQ.out.2.2
   exact (((((Below.refl (w1.heap.size + 1) wq).alloc (by omega) o1).alloc (by simp; omega) o2).alloc (by simp; omega) o3).alloc (by simp; omega) o4).setCell (Nat.le_refl _) _
  have eR := b2.block w.heap.size (by omega)
  have B2 : Hid (Below w.heap.size w (((((wq.alloc o1).alloc o2).alloc o3).alloc o4).setCell ⟨w1.heap.size + 1, 0, none⟩ (.int .i64 x))) := BQ.out.trans (b2.mono (by omega))
  have N2 : Hid (BoxC (((((wq.alloc o1).alloc o2).alloc o3).alloc o4).setCell ⟨w1.heap.size + 1, 0, none⟩ (.int .i64 x)) w.heap.size (.int .i64 0) (.slice none 0 0) (.slice none 0 0) (.int .i64 0) ∧ ∀ j, (((((wq.alloc o1).alloc o2).alloc o3).alloc o4).setCell ⟨w1.heap.size + 1, 0, none⟩ (.int .i64 x)).frozen? ⟨w.heap.size, j, none⟩ = false) := by
   obtain ⟨⟨a0, a1, a2, a3⟩, af⟩ := NQ.out
   exact ⟨⟨(World.cell?_of_block eR).trans a0, (World.cell?_of_block eR).trans a1, (World.cell?_of_block eR).trans a2, (World.cell?_of_block eR).trans a3⟩, fun j => (World.frozen?_of_block eR).trans (af j)⟩
  clear b2 eR NQ SQ OQ TQ BQ
  generalize ((((wq.alloc o1).alloc o2).alloc o3).alloc o4).setCell ⟨w1.heap.size + 1, 0, none⟩ (.int .i64 x) = w3 at *
  obtain ⟨⟨r0, r1, r2, r3⟩, rf⟩ := N2.out
  go_wp2
  refine bodyPost_ret (v := .tuple #[stV 0 none 0 0 none 0 0 0, .bool false]) (by simp [results, Tryz.results161, go_sem, r0, r1, r2, r3]) rfl ?_
  rw [HT.out]
  exact ⟨_, rfl, StOwn.nil _ _, (((B2.out.setCell (Nat.le_refl _) _).setCell (Nat.le_refl _) _).setCell (Nat.le_refl _) _).setCell (Nat.le_refl _) _⟩
open Go.ChangeShapes Go.WideShapes Go.ChangeAt Go.Deep
structure SysB (w : World) (X : Nat) (x : SysIn) : Prop where
 c0 : w.cell? ⟨X, 0, none⟩ = some (.slice x.pa x.pn x.pc)
 c1 : w.cell? ⟨X, 1, none⟩ = some (.slice x.sa x.sn x.sc)
 c2 : w.cell? ⟨X, 2, none⟩ = some (.slice x.wa x.wn x.wc)
 c3 : w.cell? ⟨X, 3, none⟩ = some (.slice x.ha x.hn x.hc)
 c4 : w.cell? ⟨X, 4, none⟩ = some (.slice x.ha x.hn x.hc)
theorem SysB.lt {w : World} {X : Nat} {x : SysIn} (h : SysB w X x) : X < w.heap.size := World.block_lt_of_cell? w _ h.c0
theorem SysB.blk {w w' : World} {X : Nat} {x : SysIn} (h : SysB w X x) (hb : w'.heap[X]? = w.heap[X]?) : SysB w' X x :=
 ⟨(World.cell?_of_block hb).trans h.c0, (World.cell?_of_block hb).trans h.c1, (World.cell?_of_block hb).trans h.c2, (World.cell?_of_block hb).trans h.c3, (World.cell?_of_block hb).trans h.c4⟩
theorem SysB.below {w w' : World} {X : Nat} {x : SysIn} (h : SysB w X x) (hb : Below w.heap.size w w') : SysB w' X x := h.blk (hb.block X h.lt)
theorem progsOk_any (X : Nat) (x : SysIn) (w : World) (hB : SysB w X x) (hG : SysG w x) (hL : x.Len) :
  Calls Tryz.prog 89 #[.pointer (some ⟨X, 0, none⟩)] w fun e w' => e = .returned (.bool (qB (∀ p, p < x.pn → progOkB (x.pH p) (x.pL p) x.pn = true))) ∧ Below w.heap.size w w' := by
 have HB : Hid (SysB w X x) := hB
 have HG : Hid (SysG w x) := hG
 have HL : Hid x.Len := hL
 have hpn : (x.pn : Int) ≤ 1048576 := by have := hL.p.1; omega
 obtain ⟨b0, -, -, -, -⟩ := hB
 clear hG hL
 go_enter Tryz.func89, Tryz.ntmps89
 go_wp2_with fail
 clear b0
 go_loopw [11] (fun i wr => ∃ k : Nat, k ≤ x.pn ∧ i = .int .i64 k ∧ Below w.heap.size w wr ∧ Hid (∀ j, j < k → progOkB (x.pH j) (x.pL j) x.pn = true)) (fun i _ => x.pn - (intOf i).toNat)
 case atStart => exact ⟨0, Nat.zero_le _, rfl, Below.refl _ _, fun j hj => by omega⟩
 case round =>
  obtain ⟨k, hk, rfl, hbw, HZ⟩ := hrel
  obtain ⟨b0, -, -, -, -⟩ := HB.out.below hbw
  by_cases hlt : k < x.pn
  ·have hlt' : (k : Int) < (x.pn : Int) := by omega
   obtain ⟨bp, op, ep, ck⟩ := (HG.out.below hbw).p.at hlt
   obtain ⟨b, eb, hbl, hI⟩ := (HG.out.below hbw).pi k hlt
   rw [eb] at ck
   rw [ep] at b0
   rw [ep]
   have HI : Hid (InsAt wr b 0 (x.pL k) (x.pH k)) := hI
   have hml : x.pL k ≤ maxLen := by
    have := HL.out.p.2 k hlt
    unfold maxLen
    omega
   have HM : Hid (x.pL k ≤ maxLen) := hml
   clear hI hml
   go_wp2_with fail
   refine (implProgOk_any b 0 (x.pL k) _ (x.pH k) x.pn wr HM.out hbl HI.out).mono ?_
   rintro e w1 ⟨rfl, b1⟩
   have B1 : Hid (Below w.heap.size w w1) := hbw.trans (b1.mono hbw.size)
   clear b1 b0 ck
   rcases Bool.eq_false_or_eq_true (progOkB (x.pH k) (x.pL k) x.pn) with t | t
   ·have HZ' : Hid (∀ j, j < k + 1 → progOkB (x.pH j) (x.pL j) x.pn = true) := fun j hj => by
     by_cases e : j = k
     ·subst e
      exact t
     ·exact HZ.out j (by omega)
    rw [t]
    clear HZ t
    go_wp2
    go_roundw
    case rel => exact ⟨k + 1, by omega, by go_num, B1.out, HZ'.out⟩
    case measure => simp [intOf]; omega
   ·have HN : Hid (qB (∀ p, p < x.pn → progOkB (x.pH p) (x.pL p) x.pn = true) = false) := qB_false fun h => by
     have := h k hlt
     rw [t] at this
     cases this
    rw [t]
    clear HZ t
    go_wp2
    go_ret
    rw [HN.out]
    exact ⟨rfl, B1.out⟩
  ·have HN : Hid (qB (∀ p, p < x.pn → progOkB (x.pH p) (x.pL p) x.pn = true) = true) := qB_true fun j hj => HZ.out j (by omega)
   clear HZ
   go_wp2
   go_ret
   rw [HN.out]
   exact ⟨rfl, hbw⟩
def SysIn.StP (x : SysIn) (p : Nat) : Prop := repO (x.pH p) (x.pL p) (x.hH p) (x.hL p) = some (x.sS p)
theorem statesOk_any (X : Nat) (x : SysIn) (w : World) (hB : SysB w X x) (hG : SysG w x) (hL : x.Len) (hs : x.sn = x.pn) (hh : x.hn = x.pn) (hV : w.cell? ⟨0, 0, none⟩ = some (.iface 310 (.agg #[.pointer (some ⟨1, 250, none⟩)]))) :
  Calls Tryz.prog 90 #[.pointer (some ⟨X, 0, none⟩)] w fun e w' => e = .returned (.bool (qB (∀ p, p < x.pn → x.StP p))) ∧ Below w.heap.size w w' := by
 have HB : Hid (SysB w X x) := hB
 have HG : Hid (SysG w x) := hG
 have HL : Hid x.Len := hL
 have HV : Hid (w.cell? ⟨0, 0, none⟩ = some (.iface 310 (.agg #[.pointer (some ⟨1, 250, none⟩)]))) := hV
 have HV0 : Hid (0 < w.heap.size) := World.block_lt_of_cell? w _ hV
 have HS : Hid (x.sn = x.pn ∧ x.hn = x.pn) := ⟨hs, hh⟩
 have hpn : (x.pn : Int) ≤ 1048576 := by have := hL.p.1; omega
 obtain ⟨b0, -, -, -, -⟩ := hB
 clear hG hL hV hs hh
 go_enter Tryz.func90, Tryz.ntmps90
 go_wp2_with fail
 clear b0
 go_loopw [13] (fun i wr => ∃ k : Nat, k ≤ x.pn ∧ i = .int .i64 k ∧ Below w.heap.size w wr ∧ Hid (∀ j, j < k → x.StP j)) (fun i _ => x.pn - (intOf i).toNat)
 case atStart => exact ⟨0, Nat.zero_le _, rfl, Below.refl _ _, fun j hj => by omega⟩
 case round =>
  obtain ⟨k, hk, rfl, hbw, HZ⟩ := hrel
  obtain ⟨-, -, -, -, b4⟩ := HB.out.below hbw
  by_cases hlt : k < x.pn
  ·have hlt' : (k : Int) < (x.pn : Int) := by omega
   have hkh : k < x.hn := by have := HS.out; omega
   have hks : k < x.sn := by have := HS.out; omega
   have hkh' : (k : Int) < (x.hn : Int) := by omega
   have hks' : (k : Int) < (x.sn : Int) := by omega
   obtain ⟨bp, op, ep, ck⟩ := (HG.out.below hbw).p.at hlt
   obtain ⟨b, eb, hbl, hI⟩ := (HG.out.below hbw).pi k hlt
   obtain ⟨bh, oh, eh, ch⟩ := (HG.out.below hbw).h.at hkh
   rw [eb] at ck
   rw [eh] at b4
   rw [ep]
   have EH : Hid (x.ha = some ⟨bh, oh, none⟩) := eh
   have HI : Hid (InsAt wr b 0 (x.pL k) (x.pH k)) := hI
   have hml : x.pL k ≤ maxLen := by
    have := HL.out.p.2 k hlt
    unfold maxLen
    omega
   have HM : Hid (x.pL k ≤ maxLen) := hml
   have HE : Hid (EvL wr (x.hA k) (x.hL k) (x.hH k)) := (HG.out.below hbw).hi k hkh
   have HLk : Hid (x.hL k ≤ 1048576) := HL.out.h.2 k hkh
   clear hI hml ep eh eb
   go_wp2_with fail
   refine (implReplay_l b (x.pL k) _ (x.hA k) (x.hL k) _ (x.pH k) (x.hH k) wr HM.out hbl HI.out HE.out HLk.out ((hbw.cell (p := ⟨0, 0, none⟩) HV0.out).trans HV.out)).mono ?_
   rintro e w1 ⟨v1, rfl, o1, b1⟩
   obtain ⟨ra, rc, oa, oc, rfl, s1, s2⟩ := o1.read
   generalize hR : resS (repO (x.pH k) (x.pL k) (x.hH k) (x.hL k)) = R at *
   generalize hT : (repO (x.pH k) (x.pL k) (x.hH k) (x.hL k)).isSome = T at *
   have HO : Hid (resS (repO (x.pH k) (x.pL k) (x.hH k) (x.hL k)) = R ∧ (repO (x.pH k) (x.pL k) (x.hH k) (x.hL k)).isSome = T) := ⟨hR, hT⟩
   have hRl := repO_len (x.pH k) (x.pL k) (x.hH k) (x.hL k)
   rw [hR] at hRl
   have HRL : Hid (R.rs.length ≤ 1048576 ∧ R.os.length ≤ 1048576) := hRl
   have B1 : Hid (Below w.heap.size w w1) := hbw.trans (b1.mono hbw.size)
   have N2 : Hid (BoxC (w1.alloc (oQ1 R.p ra R.rs.length rc oa R.os.length oc R.c)) w1.heap.size (.int .i64 R.p) (.slice ra R.rs.length rc) (.slice oa R.os.length oc) (.int .i64 R.c)) := BoxC.new w1 _ _ _ _ _
   have B2 : Hid (Below w.heap.size w (w1.alloc (oQ1 R.p ra R.rs.length rc oa R.os.length oc R.c))) := B1.out.trans ((below_alloc _ _).mono B1.out.size)
   have S2 : Hid (Sl (w1.alloc (oQ1 R.p ra R.rs.length rc oa R.os.length oc R.c)) ra R.rs ∧ Sl (w1.alloc (oQ1 R.p ra R.rs.length rc oa R.os.length oc R.c)) oa R.os) := ⟨s1.below (below_alloc _ _), s2.below (below_alloc _ _)⟩
   clear o1 b1 s1 s2 ck ch b4 HI HE hbw hR hT hRl B1
   rcases Bool.eq_false_or_eq_true T with rfl | rfl
   ·have HP : Hid (eqS R (x.sS k) = true ↔ x.StP k) := by
     show eqS R (x.sS k) = true ↔ x.StP k
     rw [eqS_iff]
     unfold SysIn.StP
     cases hr : repO (x.pH k) (x.pL k) (x.hH k) (x.hL k) with
     | none => have := HO.out.2; rw [hr] at this; cases this
     | some S0 =>
      have := HO.out.1
      rw [hr] at this
      rw [show S0 = R from this]
      exact ⟨fun e => by rw [e], fun e => Option.some.inj e⟩
    go_wp2_with fail
    generalize w1.alloc (oQ1 R.p ra R.rs.length rc oa R.os.length oc R.c) = w2 at *
    generalize w1.heap.size = Y at *
    obtain ⟨k0, k1, k2, k3⟩ := N2.out
    obtain ⟨-, x1, -, -, -⟩ := HB.out.below B2.out
    obtain ⟨bs, os, es, s0, s1, s2, s3⟩ := (HG.out.below B2.out).s.at hks
    rw [es] at x1
    have HST : Hid (Sl w2 (x.sQ k).ra (x.sQ k).rs ∧ Sl w2 (x.sQ k).oa (x.sQ k).os) := (HG.out.below B2.out).s.lst k hks
    have HSL : Hid ((x.sQ k).rs.length ≤ 1048576 ∧ (x.sQ k).os.length ≤ 1048576) := HL.out.s.2 k hks
    have k0' := cell_regrown k0
    have k1' := cell_regrown k1
    have k2' := cell_regrown k2
    have k3' := cell_regrown k3
    have x1' := cell_regrown x1
    have s0' := cell_regrown s0
    have s1' := cell_regrown s1
    have s2' := cell_regrown s2
    have s3' := cell_regrown s3
    clear es
    have HC : Hid (∀ d os', Calls Tryz.prog 162 #[stV R.p ra R.rs.length rc oa R.os.length oc R.c, stV (x.sQ k).p (x.sQ k).ra (x.sQ k).rs.length (x.sQ k).rc (x.sQ k).oa (x.sQ k).os.length (x.sQ k).oc (x.sQ k).c] (grow (redrawn w2 d) os') fun e w' => e = .returned (.bool (eqS R (x.sS k))) ∧ Below (grow (redrawn w2 d) os').heap.size (grow (redrawn w2 d) os') w') := fun d os' =>
     implSameState_any R (x.sS k) _ _ _ _ _ _ _ _ _ HRL.out.1 HRL.out.2 HSL.out.1 HSL.out.2 (S2.out.1.below (below_regrown w2 d os')) (S2.out.2.below (below_regrown w2 d os')) (HST.out.1.below (below_regrown w2 d os')) (HST.out.2.below (below_regrown w2 d os'))
    refine wp_region_quiet_below (by kernel_rfl) (by kernel_rfl) ?_
    repeat (quiet_step (first | (go_at_call 162; exact Calls.regrown_of (HC.out _ _))))
    refine wpQuiet_nil ?_
    intro _ hw'
    obtain ⟨⟨dq, osq⟩, hw''⟩ := hw'
    subst hw''
    have B3 : Hid (Below w.heap.size w (grow (redrawn w2 dq) osq)) := B2.out.trans ((below_regrown w2 dq osq).mono B2.out.size)
    generalize grow (redrawn w2 dq) osq = w3 at *
    clear k0' k1' k2' k3' x1' s0' s1' s2' s3' k0 k1 k2 k3 x1 s0 s1 s2 s3 HC
    rcases Bool.eq_false_or_eq_true (eqS R (x.sS k)) with t | t
    ·have HZ' : Hid (∀ j, j < k + 1 → x.StP j) := fun j hj => by
      by_cases e : j = k
      ·subst e
       exact HP.out.1 t
      ·exact HZ.out j (by omega)
     rw [t]
     clear HZ t
     go_wp2
     go_roundw
     case rel => exact ⟨k + 1, by omega, by go_num, B3.out, HZ'.out⟩
     case measure => simp [intOf]; omega
    ·have HN : Hid (qB (∀ p, p < x.pn → x.StP p) = false) := qB_false fun h => by
      have := HP.out.2 (h k hlt)
      rw [t] at this
      cases this
     rw [t]
     clear HZ t
     go_wp2
     go_ret
     rw [HN.out]
     exact ⟨rfl, B3.out⟩
   ·have HN : Hid (qB (∀ p, p < x.pn → x.StP p) = false) := qB_false fun h => by
     have h1 : repO (x.pH k) (x.pL k) (x.hH k) (x.hL k) = some (x.sS k) := h k hlt
     have h2 := HO.out.2
     rw [h1] at h2
     cases h2
    clear HZ
    go_wp2_with fail
    generalize w1.alloc (oQ1 R.p ra R.rs.length rc oa R.os.length oc R.c) = w2 at *
    go_quiet (fail)
    go_wp2
    go_ret
    rw [HN.out]
    exact ⟨rfl, below_drewN B2.out _⟩
  ·have HN : Hid (qB (∀ p, p < x.pn → x.StP p) = true) := qB_true fun j hj => HZ.out j (by omega)
   clear HZ
   go_wp2
   go_ret
   rw [HN.out]
   exact ⟨rfl, hbw⟩
theorem peersOk_any (X : Nat) (x : SysIn) (w : World) (hB : SysB w X x) (hG : SysG w x) (hL : x.Len) :
  Calls Tryz.prog 91 #[.pointer (some ⟨X, 4, none⟩)] w fun e w' => e = .returned (.bool (qB (∀ p, p < x.hn → ∀ i, i < x.hL p → belB (x.hH p i).q x.hn = true))) ∧ Below w.heap.size w w' := by
 have HB : Hid (SysB w X x) := hB
 have HG : Hid (SysG w x) := hG
 have HL : Hid x.Len := hL
 have hhn : (x.hn : Int) ≤ 1048576 := by have := hL.h.1; omega
 obtain ⟨-, -, -, -, b4⟩ := hB
 clear hG hL
 go_enter Tryz.func91, Tryz.ntmps91
 go_wp2_with fail
 clear b4
 go_loopw [12] (fun i wr => ∃ k : Nat, k ≤ x.hn ∧ i = .int .i64 k ∧ Below w.heap.size w wr ∧ Hid (∀ j, j < k → ∀ i, i < x.hL j → belB (x.hH j i).q x.hn = true)) (fun i _ => x.hn - (intOf i).toNat)
 case atStart => exact ⟨0, Nat.zero_le _, rfl, Below.refl _ _, fun j hj => by omega⟩
 case round =>
  obtain ⟨k, hk, rfl, hbw, HZ⟩ := hrel
  by_cases hlt : k < x.hn
  ·have hlt' : (k : Int) < (x.hn : Int) := by omega
   obtain ⟨bh, oh, eh, ch⟩ := (HG.out.below hbw).h.at hlt
   have hll : (x.hL k : Int) ≤ 1048576 := by have := HL.out.h.2 k hlt; omega
   rw [eh]
   go_wp2_with fail
   clear ch
   go_loopw [18] (fun i wr => ∃ j : Nat, j ≤ x.hL k ∧ i = .int .i64 j ∧ Below w.heap.size w wr ∧ Hid (∀ i, i < j → belB (x.hH k i).q x.hn = true)) (fun i _ => x.hL k - (intOf i).toNat)
   case atStart => exact ⟨0, Nat.zero_le _, rfl, hbw, fun j hj => by omega⟩
   case round =>
    clear hbw
    obtain ⟨j, hj, rfl, hbw, HY⟩ := hrel
    by_cases hjl : j < x.hL k
    ·have hjl' : (j : Int) < (x.hL k : Int) := by omega
     obtain ⟨-, -, -, -, b4⟩ := HB.out.below hbw
     obtain ⟨b, off, ea, -, c0, c1, c2⟩ := ((HG.out.below hbw).hi k hlt).at hjl
     rw [ea]
     rw [eh] at b4
     go_wp2_with fail
     have B2 : Hid (Below w.heap.size w (wr.alloc (oQ0 (x.hH k j).k (x.hH k j).q (x.hH k j).v))) := hbw.trans ((below_alloc _ _).mono hbw.size)
     have x4 : (wr.alloc (oQ0 (x.hH k j).k (x.hH k j).q (x.hH k j).v)).cell? ⟨X, 4, none⟩ = some (.slice (some ⟨bh, oh, none⟩) x.hn x.hc) := ((below_alloc _ _).cell (p := ⟨X, 4, none⟩) (World.block_lt_of_cell? wr _ b4)).trans b4
     have xe : (wr.alloc (oQ0 (x.hH k j).k (x.hH k j).q (x.hH k j).v)).cell? ⟨wr.heap.size, 1, none⟩ = some (.int .i64 (x.hH k j).q) := new_cell _ _ _ 1 rfl
     clear c0 c1 c2 b4
     generalize wr.alloc (oQ0 (x.hH k j).k (x.hH k j).q (x.hH k j).v) = w2 at *
     have x4' := cell_regrown x4
     have xe' := cell_regrown xe
     refine wp_region_quiet_below (by kernel_rfl) (by kernel_rfl) ?_
     repeat (quiet_step (first | (go_at_call 57; exact Calls.regrown_same (isBelow_any _ _ _))))
     refine wpQuiet_nil ?_
     intro _ hw'
     obtain ⟨⟨dq, osq⟩, hw''⟩ := hw'
     subst hw''
     have B3 : Hid (Below w.heap.size w (grow (redrawn w2 dq) osq)) := B2.out.trans ((below_regrown w2 dq osq).mono B2.out.size)
     generalize grow (redrawn w2 dq) osq = w3 at *
     clear x4' xe' x4 xe
     rcases Bool.eq_false_or_eq_true (belB (x.hH k j).q x.hn) with t | t
     ·have HY' : Hid (∀ i, i < j + 1 → belB (x.hH k i).q x.hn = true) := fun i hi => by
       by_cases e : i = j
       ·subst e
        exact t
       ·exact HY.out i (by omega)
      rw [t]
      clear HY t
      go_wp2
      go_roundw
      case rel => exact ⟨j + 1, by omega, by go_num, B3.out, HY'.out⟩
      case measure => simp [intOf]; omega
     ·have HN : Hid (qB (∀ p, p < x.hn → ∀ i, i < x.hL p → belB (x.hH p i).q x.hn = true) = false) := qB_false fun h => by
       have := h k hlt j hjl
       rw [t] at this
       cases this
      rw [t]
      clear HY t
      go_wp2
      go_ret
      rw [HN.out]
      exact ⟨rfl, B3.out⟩
    ·have HZ' : Hid (∀ p, p < k + 1 → ∀ i, i < x.hL p → belB (x.hH p i).q x.hn = true) := fun p hp i hi => by
      by_cases e : p = k
      ·subst e
       exact HY.out i (by omega)
      ·exact HZ.out p (by omega) i hi
     clear HZ HY
     go_wp2
     go_roundw
     case rel => exact ⟨k + 1, by omega, by go_num, hbw, HZ'.out⟩
     case measure => simp [intOf]; omega
  ·have HN : Hid (qB (∀ p, p < x.hn → ∀ i, i < x.hL p → belB (x.hH p i).q x.hn = true) = true) := qB_true fun j hj => HZ.out j (by omega)
   clear HZ
   go_wp2
   go_ret
   rw [HN.out]
   exact ⟨rfl, hbw⟩
theorem step_append_ints {ops : Array Oper} {o : Oper} {a : Act} {w : World} {K : Act → World → Prop} {Q : Exit → Act → World → Prop} {E : Prop} (hg : o.guard = none) (s x : Operand)
  (ho : o.op = .call { callee := .builtin .append, args := #[s, x], argTypes := #[35, 35] })
  (B c : Nat) (v : Value) (a0 : Option Addr) (xs ys : List Int) (hs : a.eval s = v) (hx : a.eval x = .slice a0 ys.length c) (hv : OwnI w B v xs) (hy : Sl w a0 ys) (hn : xs.length + ys.length ≤ 4000000) (hB : B ≤ w.heap.size)
  (h : ∀ v' w', OwnI w' B v' (xs ++ ys) → w.grownBy w' v.ownBlock → K (a.put o.dst v') w') :
  if Region.wanted o (yielded ops a.tmps) = true then Oper.wp Tryz.prog o a w K Q else E := by
 obtain ⟨v', w', h1, h2, h3, -⟩ := run_append_ints w o.type B c v a0 xs ys hv hy hn hB
 have hw : Region.wanted o (yielded ops a.tmps) = true := by simp [Region.wanted, hg]
 rw [if_pos hw]
 unfold Oper.wp execOp
 simp only [ho, resolve, invoke, builtin, Sem.run_bind, Sem.run_pure, Result.andThen_ok, List.map_toArray, List.map_cons, List.map_nil, hs, hx, h1]
 exact h v' w' h2 h3
theorem step_call {ops : Array Oper} {o : Oper} {a : Act} {w : World} {K : Act → World → Prop} {Q : Exit → Act → World → Prop} {E : Prop} (hg : o.guard = none) (f : FuncId) (args : Array Operand) (ts : Array TypeId)
  (ho : o.op = .call { callee := .value (.func f), args := args, argTypes := ts }) (vals : Array Value) (hv : args.map a.eval = vals) (hen : ∀ vs wx, (callFunc f vs).run Tryz.prog wx = .ok (.enter f vs) wx) {post : Ending → World → Prop} (hc : Calls Tryz.prog f vals w post)
  (h : ∀ e w', post e w' → ∃ v, e = .returned v ∧ K (a.put o.dst v) w') :
  if Region.wanted o (yielded ops a.tmps) = true then Oper.wp Tryz.prog o a w K Q else E := by
 have hw : Region.wanted o (yielded ops a.tmps) = true := by simp [Region.wanted, hg]
 rw [if_pos hw]
 have hr : (execOp a.eval o).run Tryz.prog w = .ok (.enter f vals) w := by
  unfold execOp
  simp [ho, resolve, invoke, hv, hen, Act.eval, Deferred.ofValue]
 unfold Oper.wp
 rw [hr, Oper.upon_enter]
 refine hc.mono fun e w' hp => ?_
 obtain ⟨v, rfl, hk⟩ := h e w' hp
 exact hk
theorem taken_any (X : Nat) (x : SysIn) (a b : Nat) (w : World) (hB : SysB w X x) (hG : SysG w x) (hL : x.Len) (hb : b < x.hn) :
  Calls Tryz.prog 165 #[.pointer (some ⟨X, 4, none⟩), .int .i64 a, .int .i64 b] w fun e w' => ∃ v, e = .returned v ∧ OwnI w' w.heap.size v (valL (x.hH b) 3 a (x.hL b)) ∧ Below w.heap.size w w' := by
 have HE : Hid (EvL w (x.hA b) (x.hL b) (x.hH b)) := hG.hi b hb
 have HLb : Hid (x.hL b ≤ 1048576) := hL.h.2 b hb
 have hb' : (b : Int) < (x.hn : Int) := by omega
 obtain ⟨bh, oh, eh, ch⟩ := hG.h.at hb
 obtain ⟨-, -, -, -, c4⟩ := hB
 rw [eh] at c4
 clear hG hL eh
 go_enter Tryz.func165, Tryz.ntmps165
 go_wp2_with fail
 refine (implValues_l (x.hA b) (x.hL b) _ (x.hH b) 3 a w HLb.out HE.out).mono ?_
 rintro e w1 ⟨v, rfl, o1, b1⟩
 have O1 : Hid (OwnI w1 w.heap.size v (valL (x.hH b) 3 a (x.hL b)) ∧ Below w.heap.size w w1) := ⟨o1, b1⟩
 clear o1 b1 c4 ch
 go_wp2
 go_ret
 exact ⟨_, rfl, O1.out.1, O1.out.2⟩
theorem sent_any (X : Nat) (x : SysIn) (a b : Nat) (w : World) (hB : SysB w X x) (hG : SysG w x) (hL : x.Len) (ha : a < x.hn) :
  Calls Tryz.prog 167 #[.pointer (some ⟨X, 4, none⟩), .int .i64 a, .int .i64 b] w fun e w' => ∃ v, e = .returned v ∧ OwnI w' w.heap.size v (valL (x.hH a) 2 b (x.hL a)) ∧ Below w.heap.size w w' := by
 have HE : Hid (EvL w (x.hA a) (x.hL a) (x.hH a)) := hG.hi a ha
 have HLb : Hid (x.hL a ≤ 1048576) := hL.h.2 a ha
 have ha' : (a : Int) < (x.hn : Int) := by omega
 obtain ⟨bh, oh, eh, ch⟩ := hG.h.at ha
 obtain ⟨-, -, -, -, c4⟩ := hB
 rw [eh] at c4
 clear hG hL eh
 go_enter Tryz.func167, Tryz.ntmps167
 go_wp2_with fail
 refine (implValues_l (x.hA a) (x.hL a) _ (x.hH a) 2 b w HLb.out HE.out).mono ?_
 rintro e w1 ⟨v, rfl, o1, b1⟩
 have O1 : Hid (OwnI w1 w.heap.size v (valL (x.hH a) 2 b (x.hL a)) ∧ Below w.heap.size w w1) := ⟨o1, b1⟩
 clear o1 b1 c4 ch
 go_wp2
 go_ret
 exact ⟨_, rfl, O1.out.1, O1.out.2⟩
structure SysIn.WyP (x : SysIn) (i : Nat) : Prop where
 ok : (decide (x.wL i ≤ 12) && itemsB (x.wH i) (x.wL i)) = true
 eq : valL (x.hH (i % x.pn)) 3 ((i / x.pn : Nat) : Int) (x.hL (i % x.pn)) ++ numL (x.wH i) (x.wL i) = valL (x.hH (i / x.pn)) 2 ((i % x.pn : Nat) : Int) (x.hL (i / x.pn))
theorem waysOk_any (X : Nat) (x : SysIn) (w : World) (hB : SysB w X x) (hG : SysG w x) (hL : x.Len) (hh : x.hn = x.pn) (hw : x.wn = x.pn * x.pn) (h1 : 1 ≤ x.pn) (h4 : x.pn ≤ 4) (h200 : ∀ p, p < x.hn → x.hL p ≤ 200) :
  Calls Tryz.prog 92 #[.pointer (some ⟨X, 0, none⟩)] w fun e w' => e = .returned (.bool (qB (∀ i, i < x.wn → x.WyP i))) ∧ Below w.heap.size w w' := by
 have HB : Hid (SysB w X x) := hB
 have HG : Hid (SysG w x) := hG
 have HL : Hid x.Len := hL
 have hwn : (x.wn : Int) ≤ 1048576 := by have := hL.w.1; omega
 have hp1 : (1 : Int) ≤ (x.pn : Int) := by omega
 have hp4 : (x.pn : Int) ≤ 4 := by omega
 have hp0 : ¬ (x.pn : Int) = 0 := by omega
 have HS : Hid (x.hn = x.pn ∧ x.wn = x.pn * x.pn ∧ 1 ≤ x.pn ∧ x.pn ≤ 4) := ⟨hh, hw, h1, h4⟩
 have H2 : Hid (∀ p, p < x.hn → x.hL p ≤ 200) := h200
 obtain ⟨b0, -, b2, -, -⟩ := hB
 clear hG hL hh hw h1 h4 h200
 go_enter Tryz.func92, Tryz.ntmps92
 go_wp2_with fail
 clear b0 b2
 go_loopw [20] (fun i wr => ∃ k : Nat, k ≤ x.wn ∧ i = .int .i64 k ∧ Below w.heap.size w wr ∧ Hid (∀ j, j < k → x.WyP j)) (fun i _ => x.wn - (intOf i).toNat)
 case atStart => exact ⟨0, Nat.zero_le _, rfl, Below.refl _ _, fun j hj => by omega⟩
 case round =>
  obtain ⟨k, hk, rfl, hbw, HZ⟩ := hrel
  by_cases hlt : k < x.wn
  ·have hlt' : (k : Int) < (x.wn : Int) := by omega
   obtain ⟨bp, op, ep, ck⟩ := (HG.out.below hbw).w.at hlt
   have HI : Hid (ItL wr (x.wA k) (x.wL k) (x.wH k)) := (HG.out.below hbw).wi k hlt
   have HLk : Hid (x.wL k ≤ 1048576) := HL.out.w.2 k hlt
   rw [ep]
   clear ep
   go_wp2_with fail
   refine (wayOk_any (x.wA k) (x.wL k) _ (x.wH k) wr HLk.out HI.out).mono ?_
   rintro e w1 ⟨rfl, b1⟩
   have B1 : Hid (Below w.heap.size w w1) := hbw.trans (b1.mono hbw.size)
   have HI1 : Hid (ItL w1 (x.wA k) (x.wL k) (x.wH k)) := HI.out.below b1
   clear b1 ck HI hbw
   rcases Bool.eq_false_or_eq_true (decide (x.wL k ≤ 12) && itemsB (x.wH k) (x.wL k)) with t | t
   case inr =>
    have HN : Hid (qB (∀ i, i < x.wn → x.WyP i) = false) := qB_false fun h => by
     have := (h k hlt).ok
     rw [t] at this
     cases this
    rw [t]
    clear HZ t
    go_wp2
    go_ret
    rw [HN.out]
    exact ⟨rfl, B1.out⟩
   have HT : Hid ((decide (x.wL k ≤ 12) && itemsB (x.wH k) (x.wL k)) = true) := t
   have HH : Hid (x.wL k ≤ 12 ∧ ∀ p, p < x.hn → x.hL p ≤ 200) := ⟨by simp at t; exact t.1, H2.out⟩
   rw [t]
   clear t
   have hqa : k / x.pn < x.pn := by
    have h := HS.out
    exact Nat.div_lt_of_lt_mul (by rw [← h.2.1]; exact hlt)
   have hqb : k % x.pn < x.pn := Nat.mod_lt _ (by have := HS.out; omega)
   have eq1 : Int.tdiv (k : Int) (x.pn : Int) = ((k / x.pn : Nat) : Int) := (Int.ofNat_tdiv k x.pn).symm
   have eq2 : Int.tmod (k : Int) (x.pn : Int) = ((k % x.pn : Nat) : Int) := (Int.ofNat_tmod k x.pn).symm
   have HW : Hid (x.WyP k ↔ valL (x.hH (k % x.pn)) 3 ((k / x.pn : Nat) : Int) (x.hL (k % x.pn)) ++ numL (x.wH k) (x.wL k) = valL (x.hH (k / x.pn)) 2 ((k % x.pn : Nat) : Int) (x.hL (k / x.pn))) := ⟨fun h => h.eq, fun h => ⟨HT.out, h⟩⟩
   generalize k / x.pn = a at *
   generalize k % x.pn = b at *
   have ha' : (a : Int) < 4 := by omega
   have hb' : (b : Int) < 4 := by omega
   have HAB : Hid (a < x.hn ∧ b < x.hn) := by have := HS.out; exact ⟨by omega, by omega⟩
   clear hqa hqb
   go_wp2_with fail
   go_quiet (fail)
   have B2 : Hid (Below w.heap.size w (w1.drewN nq)) := below_drewN B1.out _
   have HI2 : Hid (ItL (w1.drewN nq) (x.wA k) (x.wL k) (x.wH k)) := HI1.out
   generalize w1.drewN nq = w2 at *
   clear B1 HI1
   have HLs : Hid ((valL (x.hH b) 3 a (x.hL b)).length + (numL (x.wH k) (x.wL k)).length ≤ 4000000) := by
    have h1 := valL_le (x.hH b) 3 a (x.hL b)
    have h2 := numL_le (x.wH k) (x.wL k)
    have h3 := HL.out.h.2 b HAB.out.2
    have h4 := HLk.out
    show _ ≤ _
    omega
   have HLs2 : Hid ((valL (x.hH b) 3 a (x.hL b) ++ numL (x.wH k) (x.wL k)).length ≤ 1048576 ∧ (valL (x.hH a) 2 b (x.hL a)).length ≤ 1048576) := by
    have h1 := valL_le (x.hH b) 3 a (x.hL b)
    have h2 := numL_le (x.wH k) (x.wL k)
    have h3 := HH.out.2 b HAB.out.2
    have h4 := HH.out.1
    have h5 := valL_le (x.hH a) 2 b (x.hL a)
    have h6 := HL.out.h.2 a HAB.out.1
    refine ⟨?_, by omega⟩
    rw [List.length_append]
    omega
   go_wp2_with fail
   go_region_law (first
    | (refine step_call rfl 165 _ _ rfl #[.pointer (some ⟨X, 4, none⟩), .int .i64 a, .int .i64 b] (by simp [Act.eval, Act.put]) (run_enter Tryz.func165 (by kernel_rfl) rfl) (taken_any X x a b w2.drew (HB.out.below B2.out.drew) (HG.out.below B2.out.drew) HL.out HAB.out.2) ?_; rintro e w3 ⟨v3, rfl, o3, b3⟩; refine ⟨_, rfl, ?_⟩; have O3 : Hid (OwnI w3 w2.heap.size v3 (valL (x.hH b) 3 a (x.hL b))) := o3; have B3 : Hid (Below w.heap.size w w3 ∧ w2.heap.size ≤ w3.heap.size) := ⟨B2.out.drew.trans (b3.mono B2.out.size), b3.size⟩; clear o3 b3)
    | (refine step_call rfl 166 _ _ rfl #[.slice (x.wA k) (x.wL k) (x.wC k)] (by simp [Act.eval]) (run_enter Tryz.func166 (by kernel_rfl) rfl) (implNumbers_l (x.wA k) (x.wL k) _ (x.wH k) w3 HLk.out ((HG.out.below B3.out.1).wi k hlt)) ?_; rintro e w4 ⟨v4, rfl, o4, b4⟩; refine ⟨_, rfl, ?_⟩; obtain ⟨na, nc, rfl, s4⟩ := o4.form; have S4 : Hid (Sl w4 na (numL (x.wH k) (x.wL k))) := s4; have O4 : Hid (OwnI w4 w2.heap.size v3 (valL (x.hH b) 3 a (x.hL b))) := O3.out.below b4; have B4 : Hid (Below w.heap.size w w4 ∧ w2.heap.size ≤ w4.heap.size) := ⟨B3.out.1.trans (b4.mono B3.out.1.size), Nat.le_trans B3.out.2 b4.size⟩; clear o4 b4 s4)
    | (refine step_append_ints rfl _ _ rfl w2.heap.size nc v3 na (valL (x.hH b) 3 a (x.hL b)) (numL (x.wH k) (x.wL k)) (by simp [Act.eval]) (by simp [Act.eval]) O4.out S4.out HLs.out B4.out.2 ?_; intro v5 w5 o5 g5; obtain ⟨a5, c5, rfl, -⟩ := o5.form; have O5 : Hid (OwnI w5 w2.heap.size (.slice a5 (valL (x.hH b) 3 a (x.hL b) ++ numL (x.wH k) (x.wL k)).length c5) (valL (x.hH b) 3 a (x.hL b) ++ numL (x.wH k) (x.wL k))) := o5; have B5 : Hid (Below w.heap.size w w5) := Below.grown B4.out.1 g5 (Nat.le_trans B2.out.size B4.out.2) (fun q hq => Nat.le_trans B2.out.size (O4.out.lt q hq).1); clear o5 g5)
    | (refine step_call rfl 167 _ _ rfl #[.pointer (some ⟨X, 4, none⟩), .int .i64 a, .int .i64 b] (by simp [Act.eval]) (run_enter Tryz.func167 (by kernel_rfl) rfl) (sent_any X x a b w5 (HB.out.below B5.out) (HG.out.below B5.out) HL.out HAB.out.1) ?_; rintro e w6 ⟨v6, rfl, o6, b6⟩; refine ⟨_, rfl, ?_⟩; obtain ⟨a6, c6, rfl, s6⟩ := o6.form; have S6 : Hid (Sl w6 a6 (valL (x.hH a) 2 b (x.hL a)) ∧ Sl w6 a5 (valL (x.hH b) 3 a (x.hL b) ++ numL (x.wH k) (x.wL k))) := ⟨s6, O5.out.slOf.below b6⟩; have B6 : Hid (Below w.heap.size w w6) := B5.out.trans (b6.mono B5.out.size); clear o6 b6 s6)
    | (refine step_call rfl 164 _ _ rfl #[.slice a5 (valL (x.hH b) 3 a (x.hL b) ++ numL (x.wH k) (x.wL k)).length c5, .slice a6 (valL (x.hH a) 2 b (x.hL a)).length c6] (by simp [Act.eval]) (run_enter Tryz.func164 (by kernel_rfl) rfl) (equal_any a5 a6 c5 c6 _ _ w6 HLs2.out.1 HLs2.out.2 S6.out.2 S6.out.1) ?_; rintro e w7 ⟨rfl, b7⟩; refine ⟨_, rfl, ?_⟩; have B7 : Hid (Below w.heap.size w w7) := B6.out.trans (b7.mono B6.out.size); clear b7))
   clear O3 O4 O5 B3 B4 B5 B6 S4 S6 HLs HLs2
   have HE : Hid (x.WyP k ↔ (valL (x.hH b) 3 a (x.hL b) ++ numL (x.wH k) (x.wL k) == valL (x.hH a) 2 b (x.hL a)) = true) := by
    show x.WyP k ↔ (valL (x.hH b) 3 a (x.hL b) ++ numL (x.wH k) (x.wL k) == valL (x.hH a) 2 b (x.hL a)) = true
    rw [beq_iff_eq]
    exact HW.out
   generalize (valL (x.hH b) 3 a (x.hL b) ++ numL (x.wH k) (x.wL k) == valL (x.hH a) 2 b (x.hL a)) = T at *
   rcases Bool.eq_false_or_eq_true T with rfl | rfl
   ·have HZ' : Hid (∀ j, j < k + 1 → x.WyP j) := fun j hj => by
     by_cases e : j = k
     ·subst e
      exact HE.out.2 rfl
     ·exact HZ.out j (by omega)
    clear HZ HW
    go_wp2
    go_roundw
    case rel => exact ⟨k + 1, by omega, by go_num, B7.out, HZ'.out⟩
    case measure => simp [intOf]; omega
   ·have HN : Hid (qB (∀ i, i < x.wn → x.WyP i) = false) := qB_false fun h => by
     have := HE.out.1 (h k hlt)
     cases this
    clear HZ HW
    go_wp2
    go_ret
    rw [HN.out]
    exact ⟨rfl, B7.out⟩
  ·have HN : Hid (qB (∀ i, i < x.wn → x.WyP i) = true) := qB_true fun j hj => HZ.out j (by omega)
   clear HZ
   go_wp2
   go_ret
   rw [HN.out]
   exact ⟨rfl, hbw⟩
def sysL (pa : Option Addr) (pn pc : Nat) (sa : Option Addr) (sn sc : Nat) (wa : Option Addr) (wn wc : Nat) (ha : Option Addr) (hn hc : Nat) : List Value :=
 [.slice pa pn pc, .slice sa sn sc, .slice wa wn wc, .slice ha hn hc, .slice ha hn hc, .int .i64 0, .int .i64 0, .int .i64 0, .int .i64 0, .int .i64 0, .int .i64 0, .int .i64 0, .int .i64 0, .int .i64 0, .int .i64 0, .int .i64 0, .int .i64 0, .int .i64 0, .int .i64 0, .int .i64 0, .int .i64 0, .int .i64 0, .int .i64 0, .int .i64 0, .int .i64 0]
theorem sysL_len (pa : Option Addr) (pn pc : Nat) (sa : Option Addr) (sn sc : Nat) (wa : Option Addr) (wn wc : Nat) (ha : Option Addr) (hn hc : Nat) : (sysL pa pn pc sa sn sc wa wn wc ha hn hc).length = 25 := rfl
theorem sysL_one (pa : Option Addr) (pn pc : Nat) (sa : Option Addr) (sn sc : Nat) (wa : Option Addr) (wn wc : Nat) (ha : Option Addr) (hn hc : Nat) : ∀ v ∈ sysL pa pn pc sa sn sc wa wn wc ha hn hc, v.oneCell' = true := by
 intro v hv
 simp only [sysL, List.mem_cons, List.not_mem_nil, or_false] at hv
 rcases hv with rfl | rfl | rfl | rfl | rfl | rfl | rfl | rfl | rfl | rfl | rfl | rfl | rfl | rfl | rfl | rfl | rfl | rfl | rfl | rfl | rfl | rfl | rfl | rfl | rfl <;> rfl
theorem infoSystem : (Tryz.prog.info? 141).map (·.size) = some 25 := by kernel_rfl
theorem results_cell2 {fn : Func} {ra rb : Nat} {ty : TypeId} (h : fn.results = #[.cell ra ty, .tmp rb]) (tmps : Array Value) (w : World) (N : Nat) (cs : List Value) (d : TypeDesc) (ha : tmps.getD ra undef = .pointer (some ⟨N, 0, none⟩)) (hc : w.rangeAt N 0 cs) (hu : Tryz.prog.underlying ty = some d) (hd : d.isRow = true) (hi : (Tryz.prog.info? ty).map (·.size) = some cs.length) :
  (results fn tmps).run Tryz.prog w = .ok (.tuple #[.agg cs.toArray, tmps.getD rb undef]) w := by
 have hl := run_loadVar_mid (P := Tryz.prog) w N 0 ty cs d hc hu hd hi
 rw [Array.getD_eq_getD_getElem?] at ha
 simp [results, h, ha, asAddr, hl]
theorem there_new (w : World) (zs : Array Value) (t : TypeId) (n N : Nat) (hn : zs.size = n) (hN : N = w.heap.size) : (w.alloc (.cells zs t)).there N 0 n := fun j hj => by
 subst hN
 refine ⟨?_, new_frozen _ _ _ _ rfl⟩
 rw [Nat.zero_add, new_cell _ _ _ j rfl, Array.getElem?_eq_getElem (by omega)]
 rfl
theorem systemOf_nil (pa : Option Addr) (pn pc : Nat) (sa : Option Addr) (sn sc : Nat) (wa : Option Addr) (wn wc : Nat) (ha : Option Addr) (hn hc : Nat) (w : World) (hh : (pn : Int) < 1 ∨ (¬ (pn : Int) < 1 ∧ (4 : Int) < (pn : Int)) ∨ (¬ (pn : Int) < 1 ∧ ¬ (4 : Int) < (pn : Int) ∧ ((sn : Int) != (pn : Int)) = true) ∨ (¬ (pn : Int) < 1 ∧ ¬ (4 : Int) < (pn : Int) ∧ ((sn : Int) != (pn : Int)) = false ∧ ((hn : Int) != (pn : Int)) = true) ∨ (¬ (pn : Int) < 1 ∧ ¬ (4 : Int) < (pn : Int) ∧ ((sn : Int) != (pn : Int)) = false ∧ ((hn : Int) != (pn : Int)) = false ∧ 0 ≤ (pn : Int) * (pn : Int) ∧ (pn : Int) * (pn : Int) ≤ 16 ∧ ((wn : Int) != (pn : Int) * (pn : Int)) = true)) :
  Calls Tryz.prog 88 #[sysV pa pn pc sa sn sc wa wn wc ha hn hc] w fun e w' => e = .returned (.tuple #[.agg (sysL none 0 0 none 0 0 none 0 0 none 0 0).toArray, .bool false]) ∧ Below w.heap.size w w' := by
 have hl := sysL_len none 0 0 none 0 0 none 0 0 none 0 0
 have ho := sysL_one none 0 0 none 0 0 none 0 0 none 0 0
 generalize hcs : sysL none 0 0 none 0 0 none 0 0 none 0 0 = cs at *
 have HC : Hid (sysL none 0 0 none 0 0 none 0 0 none 0 0 = cs) := hcs
 have hs : cs.toArray.size = 25 := by simpa using hl
 have HT : Hid (((w.alloc (oQ4 pa pn pc sa sn sc wa wn wc ha hn hc)).alloc (zQ4)).there (w.heap.size + 1) 0 cs.toArray.size) := there_new _ _ _ _ _ (by rw [hs]; rfl) (by simp)
 have HI : Hid ((Tryz.prog.info? 141).map (·.size) = some cs.length) := by rw [hl]; exact infoSystem
 have HO : Hid (cs.toArray.all (·.oneCell') = true) := all_oneCell_toArray ho
 have BW : Hid (Below w.heap.size w ((w.alloc (oQ4 pa pn pc sa sn sc wa wn wc ha hn hc)).alloc (zQ4))) := (below_alloc _ _).trans ((below_alloc _ _).mono (by simp))
 have BX : Hid (BoxC ((w.alloc (oQ4 pa pn pc sa sn sc wa wn wc ha hn hc)).alloc (zQ4)) w.heap.size (.slice pa pn pc) (.slice sa sn sc) (.slice wa wn wc) (.slice ha hn hc)) := (BoxC.new w _ _ _ _ _).below (below_alloc _ _)
 clear hcs hl ho hs
 rcases hh with h1 | ⟨h1, h4⟩ | ⟨h1, h4, h5⟩ | ⟨h1, h4, h5, h6⟩ | ⟨h1, h4, h5, h6, h8, h9, h7⟩
 all_goals
  go_enter Tryz.func88, Tryz.ntmps88
  go_upto_region 1 with fail
  generalize ((w.alloc (oQ4 pa pn pc sa sn sc wa wn wc ha hn hc)).alloc (zQ4)) = W0 at *
  obtain ⟨k0, k1, k2, k3⟩ := BX.out
  go_upto_region 3 with fail
  go_wp2_with (refine wpList_store_mid rfl 141 (.tmp 2) (.tmp 37) rfl (w.heap.size + 1) 0 cs.toArray rfl (by rw [← HC.out]; rfl) HT.out (by simpa using HI.out) HO.out ?_)
  have HR : Hid ((W0.setCells (w.heap.size + 1) 0 cs).rangeAt (w.heap.size + 1) 0 cs) := World.rangeAt_setCells_same _ _ _ _ (by simpa using HT.out)
  have BE : Hid (Below w.heap.size w (W0.setCells (w.heap.size + 1) 0 cs)) := BW.out.trans ((Touch.sets (P := fun b => b = w.heap.size + 1) rfl _ _ (Touch.refl _ _)).below BW.out.size fun b e => by omega)
  clear HT HC BW BX
  generalize W0.setCells (w.heap.size + 1) 0 cs = W1 at *
  exact bodyPost_ret (results_cell2 Tryz.results88 _ _ (w.heap.size + 1) cs _ rfl HR.out Tryz.underlying141 rfl HI.out) rfl ⟨rfl, BE.out⟩
theorem systemOf_yes (pa : Option Addr) (pn pc : Nat) (sa : Option Addr) (sn sc : Nat) (wa : Option Addr) (wn wc : Nat) (ha : Option Addr) (hn hc : Nat) (w : World) (h1 : ¬ (pn : Int) < 1) (h4 : ¬ (4 : Int) < (pn : Int)) (h5 : ((sn : Int) != (pn : Int)) = false) (h6 : ((hn : Int) != (pn : Int)) = false) (h8 : 0 ≤ (pn : Int) * (pn : Int)) (h9 : (pn : Int) * (pn : Int) ≤ 16) (h7 : ((wn : Int) != (pn : Int) * (pn : Int)) = false) :
  Calls Tryz.prog 88 #[sysV pa pn pc sa sn sc wa wn wc ha hn hc] w fun e w' => e = .returned (.tuple #[.agg (sysL pa pn pc sa sn sc wa wn wc ha hn hc).toArray, .bool true]) ∧ Below w.heap.size w w' := by
 have hl := sysL_len pa pn pc sa sn sc wa wn wc ha hn hc
 have ho := sysL_one pa pn pc sa sn sc wa wn wc ha hn hc
 generalize hcs : sysL pa pn pc sa sn sc wa wn wc ha hn hc = cs at *
 have HC : Hid (sysL pa pn pc sa sn sc wa wn wc ha hn hc = cs) := hcs
 have hs : cs.toArray.size = 25 := by simpa using hl
 have HT : Hid (((w.alloc (oQ4 pa pn pc sa sn sc wa wn wc ha hn hc)).alloc (zQ4)).there (w.heap.size + 1) 0 cs.toArray.size) := there_new _ _ _ _ _ (by rw [hs]; rfl) (by simp)
 have HI : Hid ((Tryz.prog.info? 141).map (·.size) = some cs.length) := by rw [hl]; exact infoSystem
 have HO : Hid (cs.toArray.all (·.oneCell') = true) := all_oneCell_toArray ho
 have BW : Hid (Below w.heap.size w ((w.alloc (oQ4 pa pn pc sa sn sc wa wn wc ha hn hc)).alloc (zQ4))) := (below_alloc _ _).trans ((below_alloc _ _).mono (by simp))
 have BX : Hid (BoxC ((w.alloc (oQ4 pa pn pc sa sn sc wa wn wc ha hn hc)).alloc (zQ4)) w.heap.size (.slice pa pn pc) (.slice sa sn sc) (.slice wa wn wc) (.slice ha hn hc)) := (BoxC.new w _ _ _ _ _).below (below_alloc _ _)
 clear hcs hl ho hs
 go_enter Tryz.func88, Tryz.ntmps88
 go_upto_region 1 with fail
 generalize ((w.alloc (oQ4 pa pn pc sa sn sc wa wn wc ha hn hc)).alloc (zQ4)) = W0 at *
 obtain ⟨k0, k1, k2, k3⟩ := BX.out
 go_upto_region 4 with fail
 go_wp2_with (refine wpList_store_mid rfl 141 (.tmp 2) (.tmp 42) rfl (w.heap.size + 1) 0 cs.toArray rfl (by rw [← HC.out]; rfl) HT.out (by simpa using HI.out) HO.out ?_)
 have HR : Hid ((W0.setCells (w.heap.size + 1) 0 cs).rangeAt (w.heap.size + 1) 0 cs) := World.rangeAt_setCells_same _ _ _ _ (by simpa using HT.out)
 have BE : Hid (Below w.heap.size w (W0.setCells (w.heap.size + 1) 0 cs)) := BW.out.trans ((Touch.sets (P := fun b => b = w.heap.size + 1) rfl _ _ (Touch.refl _ _)).below BW.out.size fun b e => by omega)
 clear HT HC BW BX
 generalize W0.setCells (w.heap.size + 1) 0 cs = W1 at *
 exact bodyPost_ret (results_cell2 Tryz.results88 _ _ (w.heap.size + 1) cs _ rfl HR.out Tryz.underlying141 rfl HI.out) rfl ⟨rfl, BE.out⟩
theorem systemOf_no (pa : Option Addr) (pn pc : Nat) (sa : Option Addr) (sn sc : Nat) (wa : Option Addr) (wn wc : Nat) (ha : Option Addr) (hn hc : Nat) (w : World) (h : ¬ ((1 ≤ pn ∧ pn ≤ 4) ∧ sn = pn ∧ hn = pn ∧ wn = pn * pn)) :
  Calls Tryz.prog 88 #[sysV pa pn pc sa sn sc wa wn wc ha hn hc] w fun e w' => e = .returned (.tuple #[.agg (sysL none 0 0 none 0 0 none 0 0 none 0 0).toArray, .bool false]) ∧ Below w.heap.size w w' := by
 by_cases h1 : (pn : Int) < 1
 ·exact systemOf_nil pa pn pc sa sn sc wa wn wc ha hn hc w (.inl h1)
 by_cases h4 : (4 : Int) < (pn : Int)
 ·exact systemOf_nil pa pn pc sa sn sc wa wn wc ha hn hc w (.inr (.inl ⟨h1, h4⟩))
 rcases Bool.eq_false_or_eq_true ((sn : Int) != (pn : Int)) with h5 | h5
 ·exact systemOf_nil pa pn pc sa sn sc wa wn wc ha hn hc w (.inr (.inr (.inl ⟨h1, h4, h5⟩)))
 rcases Bool.eq_false_or_eq_true ((hn : Int) != (pn : Int)) with h6 | h6
 ·exact systemOf_nil pa pn pc sa sn sc wa wn wc ha hn hc w (.inr (.inr (.inr (.inl ⟨h1, h4, h5, h6⟩))))
 have h8 : 0 ≤ (pn : Int) * (pn : Int) := Int.mul_nonneg (by omega) (by omega)
 have h9 : (pn : Int) * (pn : Int) ≤ 16 := by
  have := Int.mul_le_mul (show (pn : Int) ≤ 4 by omega) (show (pn : Int) ≤ 4 by omega) (by omega) (by omega)
  omega
 rcases Bool.eq_false_or_eq_true ((wn : Int) != (pn : Int) * (pn : Int)) with h7 | h7
 ·exact systemOf_nil pa pn pc sa sn sc wa wn wc ha hn hc w (.inr (.inr (.inr (.inr ⟨h1, h4, h5, h6, h8, h9, h7⟩))))
 ·exfalso
  refine h ⟨⟨by omega, by omega⟩, ?_, ?_, ?_⟩
  ·simp at h5
   omega
  ·simp at h6
   omega
  ·have h7' : (wn : Int) = (pn : Int) * (pn : Int) := by simpa using h7
   have : ((wn : Nat) : Int) = ((pn * pn : Nat) : Int) := by rw [h7', Int.natCast_mul]
   omega
theorem systemOf_ok (pa : Option Addr) (pn pc : Nat) (sa : Option Addr) (sn sc : Nat) (wa : Option Addr) (wn wc : Nat) (ha : Option Addr) (hn hc : Nat) (w : World) (h : (1 ≤ pn ∧ pn ≤ 4) ∧ sn = pn ∧ hn = pn ∧ wn = pn * pn) :
  Calls Tryz.prog 88 #[sysV pa pn pc sa sn sc wa wn wc ha hn hc] w fun e w' => e = .returned (.tuple #[.agg (sysL pa pn pc sa sn sc wa wn wc ha hn hc).toArray, .bool true]) ∧ Below w.heap.size w w' := by
 obtain ⟨⟨h1, h4⟩, h5, h6, h7⟩ := h
 have h8 : 0 ≤ (pn : Int) * (pn : Int) := Int.mul_nonneg (by omega) (by omega)
 have h9 : (pn : Int) * (pn : Int) ≤ 16 := by
  have := Int.mul_le_mul (show (pn : Int) ≤ 4 by omega) (show (pn : Int) ≤ 4 by omega) (by omega) (by omega)
  omega
 exact systemOf_yes pa pn pc sa sn sc wa wn wc ha hn hc w (by omega) (by omega) (by simp [h5]) (by simp [h6]) h8 h9 (by rw [h7, Int.natCast_mul]; simp)
theorem sy_iff {x : SysIn} (hc : (1 ≤ x.pn ∧ x.pn ≤ 4) ∧ x.sn = x.pn ∧ x.hn = x.pn ∧ x.wn = x.pn * x.pn) :
  ((∀ p, p < x.pn → progOkB (x.pH p) (x.pL p) x.pn = true) ∧ (∀ p, p < x.pn → x.StP p) ∧ (∀ p, p < x.hn → ∀ i, i < x.hL p → belB (x.hH p i).q x.hn = true) ∧ (∀ i, i < x.wn → x.WyP i) ∧ x.y.hs.Row) ↔ x.y.Ok := by
 obtain ⟨⟨c1, c4⟩, c5, c6, c7⟩ := hc
 refine ⟨fun ⟨a, b, c, d, e⟩ => ⟨⟨⟨c1, c4⟩, c5, c6, c7⟩, a, b, fun p hp i hi => ?_, fun p hp q hq => ?_, e⟩, fun h => ⟨h.pr, h.rp, fun p hp i hi => ?_, fun i hi => ?_, h.ro⟩⟩
 ·have hp' : p < x.pn := hp
  have hi' : i < x.hL p := hi
  have := c p (by omega) i hi'
  simp only [belB, decide_eq_true_eq] at this
  show (x.hH p i).q < (x.pn : Int)
  omega
 ·have hp' : p < x.pn := hp
  have hq' : q < x.pn := hq
  have hlt : p * x.pn + q < x.wn := by
   rw [c7]
   have : (p + 1) * x.pn ≤ x.pn * x.pn := Nat.mul_le_mul_right _ (by omega)
   rw [Nat.add_mul] at this
   omega
  have h1 : (p * x.pn + q) / x.pn = p := by
   rw [Nat.add_comm, Nat.add_mul_div_right _ _ (by omega), Nat.div_eq_of_lt hq']
   omega
  have h2 : (p * x.pn + q) % x.pn = q := by
   rw [Nat.add_comm, Nat.add_mul_mod_self_right, Nat.mod_eq_of_lt hq']
  obtain ⟨ok, eq⟩ := d _ hlt
  rw [h1, h2] at eq
  simp only [Bool.and_eq_true, decide_eq_true_eq] at ok
  exact ⟨itemsB_iff.1 ok.2, ok.1, eq⟩
 ·have h1 := h.pe p (show p < x.pn by omega) i hi
  have h2 := rp_peer (repO_some (h.rp p (show p < x.pn by omega))).2.2 i hi
  have h3 : (x.hH p i).q < (x.pn : Int) := h1
  have h4 : 0 ≤ (x.hH p i).q := h2
  simp only [belB, decide_eq_true_eq]
  omega
 ·have hlt : i < x.pn * x.pn := by rw [← c7]; exact hi
  have ha : i / x.pn < x.pn := Nat.div_lt_of_lt_mul hlt
  have hb : i % x.pn < x.pn := Nat.mod_lt _ (by omega)
  have e : i / x.pn * x.pn + i % x.pn = i := by rw [Nat.mul_comm]; exact Nat.div_add_mod i x.pn
  have h1 : WayP (x.wH (i / x.pn * x.pn + i % x.pn)) (x.wL (i / x.pn * x.pn + i % x.pn)) (valL (x.hH (i % x.pn)) 3 ((i / x.pn : Nat) : Int) (x.hL (i % x.pn))) (valL (x.hH (i / x.pn)) 2 ((i % x.pn : Nat) : Int) (x.hL (i / x.pn))) := h.wa _ ha _ hb
  rw [e] at h1
  refine ⟨?_, h1.eq⟩
  simp only [Bool.and_eq_true, decide_eq_true_eq]
  exact ⟨h1.le, itemsB_iff.2 h1.it⟩
theorem SysG.his {w : World} {x : SysIn} (h : SysG w x) (hn : x.hn = x.pn) : HisE w x.ha x.hA x.hC x.y.hs := by
 refine ⟨?_, fun i hi => h.hi i (by rw [hn]; exact hi)⟩
 show RowS w x.ha x.pn fun i => .slice (x.hA i) (x.hL i) (x.hC i)
 rw [← hn]
 exact h.h
theorem SysB.of_range {w : World} {X : Nat} {x : SysIn} (h : w.rangeAt X 0 (sysL x.pa x.pn x.pc x.sa x.sn x.sc x.wa x.wn x.wc x.ha x.hn x.hc)) : SysB w X x :=
 ⟨h 0 _ rfl, h 1 _ rfl, h 2 _ rfl, h 3 _ rfl, h 4 _ rfl⟩
theorem HisP.of_range {w : World} {X : Nat} {x : SysIn} (h : w.rangeAt X 0 (sysL x.pa x.pn x.pc x.sa x.sn x.sc x.wa x.wn x.wc x.ha x.hn x.hc)) (hn : x.hn = x.pn) (hf : ∀ j, w.frozen? ⟨X, j, none⟩ = false) : HisP w X x.ha x.hc x.y.hs (fun _ => 0) := by
 have hz : ∀ j, j < 20 → w.cell? ⟨X, 5 + j, none⟩ = some (.int .i64 0) := fun j hj => by
  have h1 : (sysL x.pa x.pn x.pc x.sa x.sn x.sc x.wa x.wn x.wc x.ha x.hn x.hc)[5 + j]? = some (.int .i64 0) := by
   match j, hj with
   | 0, _ => rfl
   | 1, _ => rfl
   | 2, _ => rfl
   | 3, _ => rfl
   | 4, _ => rfl
   | 5, _ => rfl
   | 6, _ => rfl
   | 7, _ => rfl
   | 8, _ => rfl
   | 9, _ => rfl
   | 10, _ => rfl
   | 11, _ => rfl
   | 12, _ => rfl
   | 13, _ => rfl
   | 14, _ => rfl
   | 15, _ => rfl
   | 16, _ => rfl
   | 17, _ => rfl
   | 18, _ => rfl
   | 19, _ => rfl
   | n + 20, h => exact absurd h (by omega)
  have := h (5 + j) _ h1
  rwa [Nat.zero_add] at this
 refine ⟨?_, fun i hi => hz i (by omega), fun a b ha hb => ?_, hf⟩
 ·have := h 4 _ rfl
  show w.cell? ⟨X, 4, none⟩ = some (.slice x.ha x.pn x.hc)
  rw [← hn]
  exact this
 ·rw [Hs.opn_start, show 9 + a * 4 + b = 5 + (4 + a * 4 + b) by omega]
  exact hz _ (by omega)
theorem implSysOk_any (x : SysIn) (w : World) (hG : SysG w x) (hL : x.Len) (hV : w.cell? ⟨0, 0, none⟩ = some (.iface 310 (.agg #[.pointer (some ⟨1, 250, none⟩)]))) :
  Calls Tryz.prog 34 #[x.v] w fun e w' => e = .returned (.bool x.y.okB) ∧ Below w.heap.size w w' := by
 have HG : Hid (SysG w x) := hG
 have HL : Hid x.Len := hL
 have HV : Hid (w.cell? ⟨0, 0, none⟩ = some (.iface 310 (.agg #[.pointer (some ⟨1, 250, none⟩)]))) := hV
 have HV0 : Hid (0 < w.heap.size) := World.block_lt_of_cell? w _ hV
 have bA := below_alloc w (oQ4 x.pa x.pn x.pc x.sa x.sn x.sc x.wa x.wn x.wc x.ha x.hn x.hc)
 have BA : Hid (Below w.heap.size w (w.alloc (oQ4 x.pa x.pn x.pc x.sa x.sn x.sc x.wa x.wn x.wc x.ha x.hn x.hc))) := bA
 clear hG hL hV bA
 by_cases hc : (1 ≤ x.pn ∧ x.pn ≤ 4) ∧ x.sn = x.pn ∧ x.hn = x.pn ∧ x.wn = x.pn * x.pn
 case neg =>
  have HN : Hid (x.y.okB = false) := Sy.okB_false fun h => hc h.cn
  have HC : Hid (¬ ((1 ≤ x.pn ∧ x.pn ≤ 4) ∧ x.sn = x.pn ∧ x.hn = x.pn ∧ x.wn = x.pn * x.pn)) := hc
  clear hc
  go_enter Tryz.func34, Tryz.ntmps34
  go_wp2_with fail
  generalize w.alloc (oQ4 x.pa x.pn x.pc x.sa x.sn x.sc x.wa x.wn x.wc x.ha x.hn x.hc) = wa at *
  refine (systemOf_no _ _ _ _ _ _ _ _ _ _ _ _ wa HC.out).mono ?_
  rintro e w1 ⟨rfl, b1⟩
  have B1 : Hid (Below w.heap.size w w1) := BA.out.trans (b1.mono BA.out.size)
  have hl := sysL_len none 0 0 none 0 0 none 0 0 none 0 0
  have ho := sysL_one none 0 0 none 0 0 none 0 0 none 0 0
  generalize sysL none 0 0 none 0 0 none 0 0 none 0 0 = cs at *
  have hs : cs.toArray.size = 25 := by simpa using hl
  have HI : Hid ((Tryz.prog.info? 141).map (·.size) = some cs.toArray.size) := by rw [hs]; exact infoSystem
  have HO : Hid (cs.toArray.all (·.oneCell') = true) := all_oneCell_toArray ho
  have HT : Hid ((w1.alloc (zQ4)).there w1.heap.size 0 cs.toArray.size) := there_new _ _ _ _ _ (by rw [hs]; rfl) rfl
  have BE : Hid (Below w.heap.size w ((w1.alloc (zQ4)).setCells w1.heap.size 0 cs)) := B1.out.trans ((Touch.sets (P := fun b => b = w1.heap.size) rfl _ _ (Touch.of_below (below_alloc _ _))).below B1.out.size fun b e => by have := B1.out.size; omega)
  clear b1 hl ho hs B1
  go_upto_region 2 with (refine wpList_store_mid rfl 141 (.tmp 3) (.tmp 8) rfl w1.heap.size 0 cs.toArray rfl rfl HT.out HI.out HO.out ?_)
  clear HT HI HO
  generalize (w1.alloc (zQ4)).setCells w1.heap.size 0 cs = w2 at *
  go_wp2
  go_ret
  rw [HN.out]
  exact ⟨rfl, BE.out⟩
 have HC : Hid ((1 ≤ x.pn ∧ x.pn ≤ 4) ∧ x.sn = x.pn ∧ x.hn = x.pn ∧ x.wn = x.pn * x.pn) := hc
 have HIf := sy_iff hc
 have HIF : Hid (((∀ p, p < x.pn → progOkB (x.pH p) (x.pL p) x.pn = true) ∧ (∀ p, p < x.pn → x.StP p) ∧ (∀ p, p < x.hn → ∀ i, i < x.hL p → belB (x.hH p i).q x.hn = true) ∧ (∀ i, i < x.wn → x.WyP i) ∧ x.y.hs.Row) ↔ x.y.Ok) := HIf
 clear hc HIf
 go_enter Tryz.func34, Tryz.ntmps34
 go_wp2_with fail
 generalize w.alloc (oQ4 x.pa x.pn x.pc x.sa x.sn x.sc x.wa x.wn x.wc x.ha x.hn x.hc) = wa at *
 refine (systemOf_ok _ _ _ _ _ _ _ _ _ _ _ _ wa HC.out).mono ?_
 rintro e w1 ⟨rfl, b1⟩
 have B1 : Hid (Below w.heap.size w w1) := BA.out.trans (b1.mono BA.out.size)
 have hl := sysL_len x.pa x.pn x.pc x.sa x.sn x.sc x.wa x.wn x.wc x.ha x.hn x.hc
 have ho := sysL_one x.pa x.pn x.pc x.sa x.sn x.sc x.wa x.wn x.wc x.ha x.hn x.hc
 generalize hcs : sysL x.pa x.pn x.pc x.sa x.sn x.sc x.wa x.wn x.wc x.ha x.hn x.hc = cs at *
 have hs : cs.toArray.size = 25 := by simpa using hl
 have HI : Hid ((Tryz.prog.info? 141).map (·.size) = some cs.toArray.size) := by rw [hs]; exact infoSystem
 have HO : Hid (cs.toArray.all (·.oneCell') = true) := all_oneCell_toArray ho
 have HT : Hid ((w1.alloc (zQ4)).there w1.heap.size 0 cs.toArray.size) := there_new _ _ _ _ _ (by rw [hs]; rfl) rfl
 have BE : Hid (Below w.heap.size w ((w1.alloc (zQ4)).setCells w1.heap.size 0 cs) ∧ w.heap.size ≤ w1.heap.size) := ⟨B1.out.trans ((Touch.sets (P := fun b => b = w1.heap.size) rfl _ _ (Touch.of_below (below_alloc _ _))).below B1.out.size fun b e => by have := B1.out.size; omega), B1.out.size⟩
 have HR : (((w1.alloc (zQ4)).setCells w1.heap.size 0 cs).rangeAt w1.heap.size 0 cs) := World.rangeAt_setCells_same _ _ _ _ (by simpa using HT.out)
 have HF : ∀ j, ((w1.alloc (zQ4)).setCells w1.heap.size 0 cs).frozen? ⟨w1.heap.size, j, none⟩ = false := fun j => by
  rw [World.frozen?_setCells]
  exact new_frozen _ _ _ _ rfl
 rw [← hcs] at HR HF
 have SB2 : Hid (SysB ((w1.alloc (zQ4)).setCells w1.heap.size 0 cs) w1.heap.size x ∧ HisP ((w1.alloc (zQ4)).setCells w1.heap.size 0 cs) w1.heap.size x.ha x.hc x.y.hs (fun _ => 0)) := by
  rw [← hcs]
  exact ⟨SysB.of_range HR, HisP.of_range HR HC.out.2.2.1 HF⟩
 clear b1 hl ho hs B1 hcs HR HF
 go_upto_region 2 with (refine wpList_store_mid rfl 141 (.tmp 3) (.tmp 8) rfl w1.heap.size 0 cs.toArray rfl rfl HT.out HI.out HO.out ?_)
 clear HT HI HO
 generalize (w1.alloc (zQ4)).setCells w1.heap.size 0 cs = w2 at *
 generalize w1.heap.size = X at *
 go_wp2_with fail
 refine (progsOk_any X x w2 SB2.out.1 (HG.out.below BE.out.1) HL.out).mono ?_
 rintro e w3 ⟨rfl, b3⟩
 have B3 : Hid (Below w.heap.size w w3) := BE.out.1.trans (b3.mono BE.out.1.size)
 have SB3 : Hid (SysB w3 X x ∧ HisP w3 X x.ha x.hc x.y.hs (fun _ => 0)) := ⟨SB2.out.1.below b3, SB2.out.2.below b3⟩
 clear b3 SB2
 by_cases q1 : ∀ p, p < x.pn → progOkB (x.pH p) (x.pL p) x.pn = true
 case neg =>
  have HN : Hid (x.y.okB = false) := Sy.okB_false fun h => q1 (HIF.out.2 h).1
  rw [qB_false q1]
  clear q1
  go_wp2
  go_ret
  rw [HN.out]
  exact ⟨rfl, B3.out⟩
 have Q1 : Hid (∀ p, p < x.pn → progOkB (x.pH p) (x.pL p) x.pn = true) := q1
 rw [qB_true q1]
 clear q1
 go_wp2_with fail
 refine (statesOk_any X x w3 SB3.out.1 (HG.out.below B3.out) HL.out HC.out.2.1 HC.out.2.2.1 ((B3.out.cell (p := ⟨0, 0, none⟩) HV0.out).trans HV.out)).mono ?_
 rintro e w4 ⟨rfl, b4⟩
 have B4 : Hid (Below w.heap.size w w4) := B3.out.trans (b4.mono B3.out.size)
 have SB4 : Hid (SysB w4 X x ∧ HisP w4 X x.ha x.hc x.y.hs (fun _ => 0)) := ⟨SB3.out.1.below b4, SB3.out.2.below b4⟩
 clear b4 SB3
 by_cases q2 : ∀ p, p < x.pn → x.StP p
 case neg =>
  have HN : Hid (x.y.okB = false) := Sy.okB_false fun h => q2 (HIF.out.2 h).2.1
  rw [qB_false q2]
  clear q2
  go_wp2
  go_ret
  rw [HN.out]
  exact ⟨rfl, B4.out⟩
 have Q2 : Hid (∀ p, p < x.pn → x.StP p) := q2
 have H2 : Hid (∀ p, p < x.hn → x.hL p ≤ 200) := fun p hp => (repO_some (Q2.out p (by have := HC.out; omega))).2.1
 rw [qB_true q2]
 clear q2
 go_wp2_with fail
 refine (peersOk_any X x w4 SB4.out.1 (HG.out.below B4.out) HL.out).mono ?_
 rintro e w5 ⟨rfl, b5⟩
 have B5 : Hid (Below w.heap.size w w5) := B4.out.trans (b5.mono B4.out.size)
 have SB5 : Hid (SysB w5 X x ∧ HisP w5 X x.ha x.hc x.y.hs (fun _ => 0)) := ⟨SB4.out.1.below b5, SB4.out.2.below b5⟩
 clear b5 SB4
 by_cases q3 : ∀ p, p < x.hn → ∀ i, i < x.hL p → belB (x.hH p i).q x.hn = true
 case neg =>
  have HN : Hid (x.y.okB = false) := Sy.okB_false fun h => q3 (HIF.out.2 h).2.2.1
  rw [qB_false q3]
  clear q3
  go_wp2
  go_ret
  rw [HN.out]
  exact ⟨rfl, B5.out⟩
 have Q3 : Hid (∀ p, p < x.hn → ∀ i, i < x.hL p → belB (x.hH p i).q x.hn = true) := q3
 rw [qB_true q3]
 clear q3
 go_wp2_with fail
 refine (waysOk_any X x w5 SB5.out.1 (HG.out.below B5.out) HL.out HC.out.2.2.1 HC.out.2.2.2 HC.out.1.1 HC.out.1.2 H2.out).mono ?_
 rintro e w6 ⟨rfl, b6⟩
 have B6 : Hid (Below w.heap.size w w6) := B5.out.trans (b6.mono B5.out.size)
 have SB6 : Hid (SysB w6 X x ∧ HisP w6 X x.ha x.hc x.y.hs (fun _ => 0)) := ⟨SB5.out.1.below b6, SB5.out.2.below b6⟩
 clear b6 SB5
 by_cases q4 : ∀ i, i < x.wn → x.WyP i
 case neg =>
  have HN : Hid (x.y.okB = false) := Sy.okB_false fun h => q4 (HIF.out.2 h).2.2.2.1
  rw [qB_false q4]
  clear q4
  go_wp2
  go_ret
  rw [HN.out]
  exact ⟨rfl, B6.out⟩
 have Q4 : Hid (∀ i, i < x.wn → x.WyP i) := q4
 rw [qB_true q4]
 clear q4
 have HP : Hid x.y.hs.Peers := fun p hp i hi => by
  have h1 := Q3.out p (by have := HC.out; have : p < x.pn := hp; omega) i hi
  simp only [belB, decide_eq_true_eq] at h1
  rw [HC.out.2.2.1] at h1
  exact h1
 go_wp2_with fail
 refine (canRow_any X x.ha x.hc x.hA x.hC x.y.hs w w6 (HG.out.his HC.out.2.2.1) B6.out BE.out.2 SB6.out.2 HC.out.1.2 HP.out (fun i hi => H2.out i (by have := HC.out; have : i < x.pn := hi; omega))).mono ?_
 rintro e w7 ⟨rfl, b7⟩
 have B7 : Hid (Below w.heap.size w w7) := b7
 have HN : Hid (qB x.y.hs.Row = x.y.okB) := by
  show qB x.y.hs.Row = x.y.okB
  by_cases hr : x.y.hs.Row
  ·rw [qB_true hr, Sy.okB_true (HIF.out.1 ⟨Q1.out, Q2.out, Q3.out, Q4.out, hr⟩)]
  ·rw [qB_false hr, Sy.okB_false fun h => hr (HIF.out.2 h).2.2.2.2]
 rw [HN.out]
 clear b7 HN
 go_wp2
 go_ret
 exact ⟨rfl, B7.out⟩
def BlAt (w : World) (b off len : Nat) (h : Nat → Bool) : Prop := ∀ i, i < len → w.cell? ⟨b, off + i, none⟩ = some (.bool (h i))
theorem BlAt.below {w w' : World} {B b off len : Nat} {h : Nat → Bool} (hh : BlAt w b off len h) (hb : Below B w w') (hB : b < B) : BlAt w' b off len h := fun i hi => (hb.cell hB).trans (hh i hi)
theorem infoBool : (Tryz.prog.info? 4).map (fun i => (i.zero, i.size, i.bytes)) = some (some (.bool false), 1, 1) := by kernel_rfl
theorem run_make_bool (n : Nat) (hn : n ≤ 1048576) (w : World) :
  (Instr.makeSlice 36 (.int .i64 (n : Int)) (.int .i64 (n : Int))).run Tryz.prog w = .ok (.slice (some ⟨w.heap.size, 0, none⟩) n n) (w.alloc (.cells (madeCells #[.bool false] n) 4)) := by
 have hinfo := infoBool
 cases hi : Tryz.prog.info? 4 with
 | none => rw [hi] at hinfo; cases hinfo
 | some i =>
  rw [hi] at hinfo
  simp only [Option.map_some, Option.some.injEq, Prod.mk.injEq] at hinfo
  obtain ⟨hz, hs, hb⟩ := hinfo
  have h := run_make (P := Tryz.prog) w 36 4 i _ Tryz.underlying36 hi hz .i64 .i64 (n : Int) (n : Int) (by omega) (Int.le_refl _) (by rw [hb]; omega) (by omega)
  rw [hs] at h
  simpa [Value.cells] using h
def CopiesB (w : World) (a0 : Option Addr) (len cap : Nat) (h : Nat → Bool) : Prop := ∀ wx, Below w.heap.size w wx →
 Calls Tryz.prog 124 #[.slice a0 len cap] wx fun e w' => e = .returned (.slice (some ⟨wx.heap.size, 0, none⟩) len len) ∧ BlAt w' wx.heap.size 0 len h ∧ wx.heap.size < w'.heap.size ∧ Below wx.heap.size wx w' ∧ ∀ j, w'.frozen? ⟨wx.heap.size, j, none⟩ = false
section
variable {z : Bool} {B N : Nat} {c : Nat → Nat} {y : Sy} {wr : World} {vp vs vw vh : Value} {up us uw uh : Nat → Value}
end
theorem run_make_full {t e : TypeId} {size bytes : Nat} (K : Kind t e size bytes) (n : Nat) (hn : n ≤ 1048576) : ∃ cs : Array Value, cs.size = n * size ∧ ∀ w : World, (Instr.makeSlice t (.int .i64 (n : Int)) (.int .i64 (n : Int))).run Tryz.prog w = .ok (.slice (some ⟨w.heap.size, 0, none⟩) n n) (w.alloc (.cells cs e)) := by
 obtain ⟨i, z, hi, hz, hs, hb, hzs⟩ := K.inf
 refine ⟨madeCells z.cells (n * size), size_madeCells _ _, fun w => ?_⟩
 have hby : i.bytes * n ≤ 281474976710656 := by
  rw [hb]
  exact Nat.le_trans (Nat.mul_le_mul K.sml hn) (by omega)
 have hby' : (i.bytes : Int) * (n : Int) ≤ 281474976710656 := by rw [← Int.natCast_mul]; exact Int.ofNat_le.2 hby
 have h := run_make (P := Tryz.prog) w t e i z K.und hi hz .i64 .i64 (n : Int) (n : Int) (by omega) (by omega) hby' (by omega)
 rw [hs, Int.toNat_natCast] at h
 exact h
theorem plN_get (eh : Nat → E3) (kd pr : Int) : ∀ (n j q : Nat), (plN eh kd pr n)[j]? = some q → q < n ∧ hitB eh kd pr q = true ∧ cnt eh kd pr q = j
 | 0, j, q, h => by simp [plN] at h
 | n + 1, j, q, h => by
  rcases Bool.eq_false_or_eq_true (hitB eh kd pr n) with t | t
  ·rw [plN, if_pos t] at h
   by_cases hj : j < (plN eh kd pr n).length
   ·rw [List.getElem?_append_left hj] at h
    obtain ⟨h1, h2, h3⟩ := plN_get eh kd pr n j q h
    exact ⟨by omega, h2, h3⟩
   ·rw [List.getElem?_append_right (by omega)] at h
    have hj2 : j - (plN eh kd pr n).length = 0 := by
     by_cases e : j - (plN eh kd pr n).length = 0
     ·exact e
     ·rw [List.getElem?_eq_none (by simp; omega)] at h
      cases h
    rw [hj2] at h
    simp at h
    subst h
    refine ⟨by omega, t, ?_⟩
    unfold cnt
    omega
  ·rw [plN, if_neg (by rw [t]; decide)] at h
   obtain ⟨h1, h2, h3⟩ := plN_get eh kd pr n j q h
   exact ⟨by omega, h2, h3⟩
theorem nthV_some {eh : Nat → E3} {kd pr : Int} {len n : Nat} (h : n < cnt eh kd pr len) : ∃ q : Nat, nthV eh kd pr len n = q ∧ q < len ∧ hitB eh kd pr q = true ∧ cnt eh kd pr q = n := by
 have hl : n < (plI eh kd pr len).length := by rw [plI_length]; exact h
 obtain ⟨q, h1, h2, h3⟩ := plI_place eh kd pr len n hl
 obtain ⟨-, h4, h5⟩ := plN_get eh kd pr len n q h3
 refine ⟨q, ?_, h2, h4, h5⟩
 unfold nthV
 rw [if_pos (by simp [belB]; omega), Int.toNat_natCast]
 exact h1
theorem nthV_none {eh : Nat → E3} {kd pr : Int} {len n : Nat} (h : cnt eh kd pr len ≤ n) : nthV eh kd pr len n = -1 := by
 unfold nthV
 rw [if_neg]
 have hl : (plI eh kd pr len).length ≤ n := by rw [plI_length]; exact h
 simp [belB]
 omega
structure Sy.Cut (y : Sy) (c : List Int) : Prop where
 len : c.length = y.pn
 le : ∀ p, p < y.pn → 0 ≤ zi c p ∧ zi c p ≤ (y.hL p : Int)
def cN (c : List Int) (p : Nat) : Nat := (zi c p).toNat
def sN (y : Sy) (c : Nat → Nat) (a b : Nat) : Nat := cnt (y.hH a) 2 b (c a)
def tN (y : Sy) (c : Nat → Nat) (a b : Nat) : Nat := cnt (y.hH b) 3 a (c b)
def Sy.Wh (y : Sy) (c : Nat → Nat) : Prop := ∀ a, a < y.pn → ∀ b, b < y.pn → tN y c a b ≤ sN y c a b
def ovN (y : Sy) (c : Nat → Nat) (a b : Nat) : Int := nthV (y.hH b) 3 a (c b) (sN y c a b : Nat)
theorem ovN_no {y : Sy} {c : Nat → Nat} {a b : Nat} (h : tN y c a b ≤ sN y c a b) : ovN y c a b = -1 := nthV_none h
theorem ovN_yes {y : Sy} {c : Nat → Nat} {a b : Nat} (h : ¬ tN y c a b ≤ sN y c a b) : ∃ k : Nat, ovN y c a b = k ∧ k < c b ∧ hitB (y.hH b) 3 a k = true ∧ cnt (y.hH b) 3 a k = sN y c a b := nthV_some (by unfold tN at h; omega)
theorem ovN_neg {y : Sy} {c : Nat → Nat} {a b : Nat} : ovN y c a b < 0 ↔ tN y c a b ≤ sN y c a b := by
 refine ⟨fun h => ?_, fun h => by rw [ovN_no h]; decide⟩
 by_cases hc : tN y c a b ≤ sN y c a b
 ·exact hc
 ·obtain ⟨k, e, -⟩ := ovN_yes hc
  omega
structure Sy.Cl (y : Sy) (c e : List Int) : Prop where
 len : e.length = y.pn
 le : ∀ p, p < y.pn → 0 ≤ zi e p ∧ zi e p ≤ zi c p
 gr : ∀ d : Nat → Nat, (∀ p, p < y.pn → (d p : Int) ≤ zi c p) → y.Wh d → ∀ p, p < y.pn → (d p : Int) ≤ zi e p
theorem Sy.Cl.start {y : Sy} {c : List Int} (h : y.Cut c) : y.Cl c c := ⟨h.len, fun p hp => ⟨(h.le p hp).1, Int.le_refl _⟩, fun _ h _ => h⟩
theorem Sy.Cl.cut {y : Sy} {c e : List Int} (h : y.Cl c e) (hc : y.Cut c) : y.Cut e := ⟨h.len, fun p hp => ⟨(h.le p hp).1, Int.le_trans (h.le p hp).2 (hc.le p hp).2⟩⟩
theorem zi_set {e : List Int} {b p : Nat} {k : Int} (hb : b < e.length) : zi (e.set b k) p = if p = b then k else zi e p := by
 by_cases h : p = b
 ·subst h
  rw [if_pos rfl, getD_set_self e p k hb]
 ·rw [if_neg h, getD_set_ne e p b k h]
theorem Sy.Cl.next {y : Sy} {c e : List Int} {a b : Nat} (h : y.Cl c e) (ha : a < y.pn) (hb : b < y.pn) (ho : 0 ≤ ovN y (cN e) a b) : y.Cl c (e.set b (ovN y (cN e) a b)) ∧ 0 ≤ ovN y (cN e) a b ∧ ovN y (cN e) a b < zi e b := by
 have hn : ¬ tN y (cN e) a b ≤ sN y (cN e) a b := fun hc => by
  have := ovN_neg.2 hc
  omega
 obtain ⟨k, e1, e2, e3, e4⟩ := ovN_yes hn
 have eb := (h.le b hb)
 have hkb : (k : Int) < zi e b := by unfold cN at e2; omega
 refine ⟨⟨by rw [List.length_set]; exact h.len, fun p hp => ?_, fun d hd hw p hp => ?_⟩, ho, by omega⟩
 ·rw [zi_set (by rw [h.len]; exact hb)]
  by_cases ep : p = b
  ·subst ep
   rw [if_pos rfl]
   omega
  ·rw [if_neg ep]
   exact h.le p hp
 ·rw [zi_set (by rw [h.len]; exact hb)]
  have h0 := h.gr d hd hw p hp
  by_cases ep : p = b
  ·subst ep
   rw [if_pos rfl, e1]
   by_cases hc : (d p : Int) ≤ k
   ·exact hc
   ·exfalso
    have h1 : sN y d a p ≤ sN y (cN e) a p := cnt_mono _ _ _ (by
     have := h.gr d hd hw a ha
     unfold cN
     omega)
    have h2 : cnt (y.hH p) 3 a (k + 1) ≤ tN y d a p := cnt_mono _ _ _ (by omega)
    rw [cnt_hit e3, e4] at h2
    have := hw a ha p hb
    omega
  ·rw [if_neg ep]
   exact h0
theorem Sl.all {w : World} {a0 : Option Addr} {xs : List Int} (h : Sl w a0 xs) (hn : 0 < xs.length) : ∃ b off, a0 = some ⟨b, off, none⟩ ∧ b < w.heap.size ∧ ∀ i, i < xs.length → w.cell? ⟨b, off + i, none⟩ = some (.int .i64 (zi xs i)) := by
 rcases h with rfl | h
 ·simp at hn
 ·exact h
theorem RowS.all {w : World} {a0 : Option Addr} {n : Nat} {f : Nat → Value} (h : RowS w a0 n f) (hn : 0 < n) : ∃ b off, a0 = some ⟨b, off, none⟩ ∧ b < w.heap.size ∧ ∀ i, i < n → w.cell? ⟨b, off + i, none⟩ = some (f i) := by
 rcases h with rfl | h
 ·omega
 ·exact h
end Go.Proofs.YtfdanemmefckpaaGreatDoor
