/- The walks of the program's lists of numbers: of a place, of an event, of a list of them. -/
import Derived.Test.YtnfdnnmddadmkaaGreatDoorNc0
import Derived.Test.YtnfdnnmddadmkaaGreatDoorNc36
import Derived.Test.YtnfdnnmddadmkaaGreatDoorNc37
namespace Go.Proofs.YtnfdnnmddadmkaaGreatDoor
set_option maxRecDepth 100000
set_option maxHeartbeats 4000000
open Go.RowKit Go.Extern.Stop Go.Stop Go.Extern
theorem as_hit (x : Int) (t : Addr) (old : Value) (w : World) (hg : w.cell? ⟨0, 0, none⟩ = some (.iface 310 (.agg #[.pointer (some ⟨1, 217, none⟩)]))) (ht0 : w.cell? t = some old) (hf0 : w.frozen? t = false) :
  Calls Tryz.prog 181 #[.iface 221 (.agg #[.int .i64 x]), .iface 223 (.pointer (some t))] w fun ev w' => ev = .returned (.bool true) ∧ ∃ o1 o2 o3 o4, w' = ((((w.alloc o1).alloc o2).alloc o3).alloc o4).setCell t (.int .i64 x) := by
 have h6 := @run_callFunc_extern Tryz.prog 220 _ (fun args => ReflectliteValue.unpack (args.getD 0 (.tuple #[]))) Tryz.func220 (by kernel_rfl) (by kernel_rfl) (by kernel_rfl) (by kernel_rfl)
 have h7 := @run_callFunc_extern Tryz.prog 221 _ (ReflectliteValue.methodAny (ReflectliteValue.valueError "reflectlite.Value.Type" 0) (fun t _ _ _ => ReflectliteType.toType t)) Tryz.func221 (by kernel_rfl) (by kernel_rfl) (by kernel_rfl) (by kernel_rfl)
 have h8 := @run_callFunc_extern Tryz.prog 222 _ (ReflectliteValue.method (ReflectliteValue.valueError "reflectlite.Value.IsNil" 0) ReflectliteValue.isNil) Tryz.func222 (by kernel_rfl) (by kernel_rfl) (by kernel_rfl) (by kernel_rfl)
 have h27 := @run_callFunc_extern Tryz.prog 273 _ (ReflectliteType.abiMethod fun t => do pure (.int .u8 (← Rtype.kind t))) Tryz.func273 (by kernel_rfl) (by kernel_rfl) (by kernel_rfl) (by kernel_rfl)
 have h37 := @run_callFunc_extern Tryz.prog 293 _ (ReflectliteType.method ReflectliteType.elem) Tryz.func293 (by kernel_rfl) (by kernel_rfl) (by kernel_rfl) (by kernel_rfl)
 have h38 := @run_callFunc_extern Tryz.prog 294 _ (ReflectliteType.relation "Implements" ReflectliteType.implements_) Tryz.func294 (by kernel_rfl) (by kernel_rfl) (by kernel_rfl) (by kernel_rfl)
 have h10 := @run_callFunc_extern Tryz.prog 250 _ ReflectliteType.typeOf Tryz.func250 (by kernel_rfl) (by kernel_rfl) (by kernel_rfl) (by kernel_rfl)
 have h35 := @run_callFunc_extern Tryz.prog 291 _ (ReflectliteType.relation "AssignableTo" ReflectliteType.assignableTo) Tryz.func291 (by kernel_rfl) (by kernel_rfl) (by kernel_rfl) (by kernel_rfl)
 have h11 := @run_callFunc_extern Tryz.prog 251 _ (ReflectliteValue.method (ReflectliteValue.valueError "reflectlite.Value.Elem" 0) ReflectliteValue.elem) Tryz.func251 (by kernel_rfl) (by kernel_rfl) (by kernel_rfl) (by kernel_rfl)
 have h12 := @run_callFunc_extern Tryz.prog 252 _ ReflectliteValue.set Tryz.func252 (by kernel_rfl) (by kernel_rfl) (by kernel_rfl) (by kernel_rfl)
 have tO := typeOfE
 have a25 := assignableE
 have v25 := valueOfE
 have f6 := valueOfT
 have f7 := typeT
 have k27 := kindT
 have k25 := kindE
 have e27 := elemT
 have i25 := implementsE
 have n8 := isNilT ⟨w.heap.size, 0, none⟩ t ((w.alloc (.cells #[.pointer (some t)] 223)).alloc (.cells #[.pointer (some ⟨1, 223, none⟩), .pointer (some ⟨w.heap.size, 0, none⟩), .int .u64 150] 275)) (by simp)
 have hlt : 0 < w.heap.size := by
  rcases Nat.eq_zero_or_pos w.heap.size with h0 | h
  ·simp [World.cell?, h0] at hg
  ·exact h
 have hg2 : ((w.alloc (.cells #[.pointer (some t)] 223)).alloc (.cells #[.pointer (some ⟨1, 223, none⟩), .pointer (some ⟨w.heap.size, 0, none⟩), .int .u64 150] 275)).cell? ⟨0, 0, none⟩ = some (.iface 310 (.agg #[.pointer (some ⟨1, 217, none⟩)])) := by
  rw [World.cell?_alloc_lt _ _ ⟨0, 0, none⟩ (by simp), World.cell?_alloc_lt _ _ ⟨0, 0, none⟩ hlt]; exact hg
 have htl : t.block < w.heap.size := by
  rcases Nat.lt_or_ge t.block w.heap.size with h | h
  ·exact h
  ·simp [World.cell?, Array.getElem?_eq_none h] at ht0
 have el := elemVT ⟨w.heap.size, 0, none⟩ t (((w.alloc (.cells #[.pointer (some t)] 223)).alloc (.cells #[.pointer (some ⟨1, 223, none⟩), .pointer (some ⟨w.heap.size, 0, none⟩), .int .u64 150] 275)).alloc (.cells #[.pointer (some ⟨1, 223, none⟩), .pointer (some ⟨w.heap.size, 0, none⟩), .int .u64 150] 275)) (by
  rw [World.cell?_alloc_lt _ _ _ (by simp; omega), World.cell?_alloc_lt _ _ _ (by simp), World.cell?_alloc_at _ _ _ _ rfl]; rfl)
 have st := setE t ⟨w.heap.size + 1 + 1 + 1, 0, none⟩ x old ((((w.alloc (.cells #[.pointer (some t)] 223)).alloc (.cells #[.pointer (some ⟨1, 223, none⟩), .pointer (some ⟨w.heap.size, 0, none⟩), .int .u64 150] 275)).alloc (.cells #[.pointer (some ⟨1, 223, none⟩), .pointer (some ⟨w.heap.size, 0, none⟩), .int .u64 150] 275)).alloc (.cells #[.int .i64 x] 221))
  (by rw [World.cell?_alloc_at _ _ _ _ (by simp)]; rfl)
  (by rw [World.cell?_alloc_lt _ _ t (by simp; omega), World.cell?_alloc_lt _ _ t (by simp; omega), World.cell?_alloc_lt _ _ t (by simp; omega), World.cell?_alloc_lt _ _ t htl]; exact ht0)
  (by rw [World.frozen?_alloc_old _ _ t (by simp; omega), World.frozen?_alloc_old _ _ t (by simp; omega), World.frozen?_alloc_old _ _ t (by simp; omega), World.frozen?_alloc_old _ _ t (Nat.ne_of_lt htl)]; exact hf0)
 go_enter Tryz.func181, Tryz.ntmps181
 go_wp2
 refine wp_loop_rounds 1 ?_
 rw [rounds_succ]
 go_wp2
 go_ret
 exact ⟨rfl, _, _, _, _, rfl⟩
open Go.RowKit Go.Deep
def pkI (h : Nat → I5) : Nat → List Int
 | 0 => []
 | n + 1 => pkI h n ++ [(h n).o, (h n).r, (h n).a, (h n).b, (h n).n]
def pkE (h : Nat → E3) : Nat → List Int
 | 0 => []
 | n + 1 => pkE h n ++ [(h n).k, (h n).q, (h n).v]
def pkP (y : Sy) (p : Nat) : List Int := (((y.pL p : Nat) : Int) :: pkI (y.pH p) (y.pL p)) ++ (((y.hL p : Nat) : Int) :: pkE (y.hH p) (y.hL p))
def pkN (y : Sy) : Nat → List Int
 | 0 => [(y.pn : Int)]
 | p + 1 => pkN y p ++ pkP y p
def byL (xs : List Int) : List Int := xs.flatMap puL
theorem byL_append (xs ys : List Int) : byL (xs ++ ys) = byL xs ++ byL ys := List.flatMap_append
theorem byL_cons (x : Int) (xs : List Int) : byL (x :: xs) = puL x ++ byL xs := rfl
theorem byL_one (x : Int) : byL [x] = puL x := by rw [byL_cons]; exact List.append_nil _
theorem byL_len : ∀ xs : List Int, (byL xs).length ≤ 5 * xs.length
 | [] => by simp [byL]
 | x :: xs => by
  have h1 := byL_len xs
  have h2 := puL_len x
  rw [byL_cons, List.length_append, List.length_cons]
  omega
theorem byL_take (xs : List Int) (k : Nat) (h : k < xs.length) : byL (xs.take (k + 1)) = byL (xs.take k) ++ puL (zi xs k) := by
 have hz : zi xs k = xs[k] := by
  unfold zi
  rw [List.getD_eq_getElem?_getD, List.getElem?_eq_getElem h]; rfl
 rw [List.take_succ_eq_append_getElem h, byL_append, byL_one, hz]
theorem pkI_len (h : Nat → I5) : ∀ n, (pkI h n).length = 5 * n
 | 0 => rfl
 | n + 1 => by
  rw [pkI, List.length_append, pkI_len h n]
  simp
  omega
theorem pkE_len (h : Nat → E3) : ∀ n, (pkE h n).length = 3 * n
 | 0 => rfl
 | n + 1 => by
  rw [pkE, List.length_append, pkE_len h n]
  simp
  omega
theorem pkP_len (y : Sy) (p : Nat) : (pkP y p).length = 2 + 5 * y.pL p + 3 * y.hL p := by
 unfold pkP
 rw [List.length_append, List.length_cons, List.length_cons, pkI_len, pkE_len]
 omega
theorem pkN_len (y : Sy) (K : Nat) (hK : ∀ p, p < K → y.pL p ≤ 30 ∧ y.hL p ≤ 200) : ∀ n, n ≤ K → (pkN y n).length ≤ 1 + 752 * n
 | 0, _ => by simp [pkN]
 | n + 1, h => by
  have h1 := pkN_len y K hK n (by omega)
  have h2 := hK n (by omega)
  rw [pkN, List.length_append, pkP_len]
  omega
theorem l14Nums_any (a0 : Option Addr) (cap : Nat) (xs : List Int) (w : World) (hlen : xs.length ≤ 1000) (hc : Sl w a0 xs) :
  Calls Tryz.prog 82 #[.slice a0 xs.length cap] w fun e w' => ∃ v, e = .returned v ∧ OwnB w' w.heap.size v (byL xs) ∧ Below w.heap.size w w' := by
 have hl' : (xs.length : Int) ≤ 1000 := by omega
 have HC : Hid (Sl w a0 xs) := hc
 clear hc
 go_enter Tryz.func82, Tryz.ntmps82
 go_wp2_with fail
 go_loopw [3, 4] (fun o i wr => ∃ k : Nat, k ≤ xs.length ∧ i = .int .i64 (k : Int) ∧ Hid (OwnB wr w.heap.size o (byL (xs.take k))) ∧ Below w.heap.size w wr) (fun _ i _ => xs.length - (intOf i).toNat)
 case atStart => exact ⟨0, Nat.zero_le _, rfl, ownB_empty w, (Below.refl _ _).alloc (Nat.le_refl _) _⟩
 case round =>
  obtain ⟨k, hk, rfl, HO, hbw⟩ := hrel
  have hs := hbw.size
  by_cases hlt : k < xs.length
  ·have hlt' : (k : Int) < (xs.length : Int) := by omega
   obtain ⟨b, off, rfl, hbl, ck⟩ := (HC.out.below hbw).at hlt
   have HL : Hid ((byL (xs.take k)).length ≤ 5000) := by
    have := byL_len (xs.take k)
    rw [List.length_take] at this
    show (byL (xs.take k)).length ≤ 5000
    omega
   go_wp2_with fail
   refine (specPutNum_any (zi xs k) wr).mono ?_
   rintro e w1 ⟨u1, rfl, o1, b1⟩
   obtain ⟨ap, cp, rfl, sp⟩ := o1.form
   have hs1 := b1.size
   have hbw1 : Below w.heap.size w w1 := hbw.trans (b1.mono hs)
   have O1 : Hid (OwnB w1 w.heap.size u3 (byL (xs.take k))) := HO.out.below b1
   have LT : Hid (∀ j, (u3).ownBlock = some j → w.heap.size ≤ j) := fun j hj => (HO.out.lt j hj).1
   have SP : Hid (SlB w1 ap (puL (zi xs k))) := sp
   have hpl := puL_len (zi xs k)
   clear o1 sp HO
   go_wp2_with (at_builtin; refine wpList_append_bytes w1 rfl _ _ rfl w.heap.size cp u3 ap (byL (xs.take k)) (puL (zi xs k)) rfl rfl O1.out SP.out (by have := HL.out; omega) (by omega) ?_; intro v' w4 o4 g4 _; have H4 : Hid (OwnB w4 w.heap.size v' (byL (xs.take (k + 1)))) := o4.to (byL_take xs k hlt); have B4 : Hid (Below w.heap.size w1 w4) := Below.grown (Below.refl _ _) g4 (by omega) LT.out; clear o4 g4)
   go_roundw
   case rel => exact ⟨k + 1, by omega, by go_num, H4.out, hbw1.trans B4.out⟩
   case measure => simp [intOf]; omega
  ·have H4 : Hid (OwnB wr w.heap.size u3 (byL xs)) := by
    have := HO.out
    rwa [List.take_of_length_le (by omega)] at this
   clear HO
   go_wp2
   go_ret
   exact ⟨_, rfl, H4.out, hbw⟩
theorem own_lit (w : World) (xs : List Int) (hl : xs.length ≤ 1000) : OwnI (w.alloc (.cells (xs.map (Value.int .i64)).toArray 3)) w.heap.size (.slice (some ⟨w.heap.size, 0, none⟩) xs.length xs.length) xs := by
 have := World.ownsRow_lit (base := w.heap.size) (e := 3) (size := 1) w (xs.map (Value.int .i64)).toArray xs.length (Nat.le_refl _) (by unfold maxLen; omega) (by simp)
 unfold OwnI
 exact this
theorem numsOfIns_any (o r a b n : Int) (w : World) :
  Calls Tryz.prog 85 #[insV o r a b n] w fun e w' => ∃ u, e = .returned u ∧ OwnI w' w.heap.size u [o, r, a, b, n] ∧ Below w.heap.size w w' := by
 have H : Hid (OwnI ((w.alloc (oQ2 o r a b n)).alloc (.cells #[.int .i64 o, .int .i64 r, .int .i64 a, .int .i64 b, .int .i64 n] 3)) (w.alloc (oQ2 o r a b n)).heap.size (.slice (some ⟨(w.alloc (oQ2 o r a b n)).heap.size, 0, none⟩) 5 5) [o, r, a, b, n]) := own_lit _ [o, r, a, b, n] (by simp)
 have B : Hid (Below w.heap.size w ((w.alloc (oQ2 o r a b n)).alloc (.cells #[.int .i64 o, .int .i64 r, .int .i64 a, .int .i64 b, .int .i64 n] 3))) := ((Below.refl _ _).alloc (Nat.le_refl _) _).alloc (by simp) _
 go_enter Tryz.func85, Tryz.ntmps85
 go_wp2
 go_ret
 refine ⟨_, rfl, ?_, B.out⟩
 have h := H.out.mono (B' := w.heap.size) (by simp)
 simpa using h
theorem numsOfEvent_any (k q v : Int) (w : World) :
  Calls Tryz.prog 87 #[evV k q v] w fun e w' => ∃ u, e = .returned u ∧ OwnI w' w.heap.size u [k, q, v] ∧ Below w.heap.size w w' := by
 have H : Hid (OwnI ((w.alloc (oQ0 k q v)).alloc (.cells #[.int .i64 k, .int .i64 q, .int .i64 v] 3)) (w.alloc (oQ0 k q v)).heap.size (.slice (some ⟨(w.alloc (oQ0 k q v)).heap.size, 0, none⟩) 3 3) [k, q, v]) := own_lit _ [k, q, v] (by simp)
 have B : Hid (Below w.heap.size w ((w.alloc (oQ0 k q v)).alloc (.cells #[.int .i64 k, .int .i64 q, .int .i64 v] 3))) := ((Below.refl _ _).alloc (Nat.le_refl _) _).alloc (by simp) _
 go_enter Tryz.func87, Tryz.ntmps87
 go_wp2
 go_ret
 refine ⟨_, rfl, ?_, B.out⟩
 have h := H.out.mono (B' := w.heap.size) (by simp)
 simpa using h
theorem numsIns_any (b off len cap : Nat) (g : Nat → I5) (w : World) (hlen : len ≤ 1000) (hb : b < w.heap.size) (hc : InsAt w b off len g) :
  Calls Tryz.prog 84 #[.slice (some ⟨b, off, none⟩) len cap, .func (.func 85) #[] #[]] w fun e w' => ∃ v, e = .returned v ∧ OwnI w' w.heap.size v ((len : Int) :: pkI g len) ∧ Below w.heap.size w w' := by
 have hl' : (len : Int) ≤ 1000 := by omega
 have HC : Hid (InsAt w b off len g) := hc
 clear hc
 have hen : ∀ args wx, (callFunc 85 args).run Tryz.prog wx = .ok (.enter 85 args) wx := run_enter Tryz.func85 (by kernel_rfl) rfl
 go_enter Tryz.func84, Tryz.ntmps84
 go_wp2_with fail
 go_loopw [5, 13] (fun o i wr => ∃ k : Nat, k ≤ len ∧ i = .int .i64 (k : Int) ∧ Hid (OwnI wr w.heap.size o ((len : Int) :: pkI g k)) ∧ Below w.heap.size w wr) (fun _ i _ => len - (intOf i).toNat)
 case atStart => exact ⟨0, Nat.zero_le _, rfl, own_lit w [(len : Int)] (by simp), (Below.refl _ _).alloc (Nat.le_refl _) _⟩
 case round =>
  obtain ⟨k, hk, rfl, HO, hbw⟩ := hrel
  have hs := hbw.size
  by_cases hlt : k < len
  ·have hlt' : (k : Int) < (len : Int) := by omega
   obtain ⟨c0, c1, c2, c3, c4⟩ := HC.out.below hbw hb k hlt
   have bA : Below wr.heap.size wr (wr.alloc (oQ2 (g k).o (g k).r (g k).a (g k).b (g k).n)) := (Below.refl _ _).alloc (Nat.le_refl _) _
   go_wp2_with fail
   generalize wr.alloc (oQ2 (g k).o (g k).r (g k).a (g k).b (g k).n) = wA at *
   have hsA := bA.size
   refine (numsOfIns_any (g k).o (g k).r (g k).a (g k).b (g k).n wA).mono ?_
   rintro e w1 ⟨u1, rfl, o1, b1⟩
   obtain ⟨ap, cp, rfl, sp⟩ := o1.form
   have hs1 := b1.size
   have bA1 : Below wr.heap.size wr w1 := bA.trans (b1.mono hsA)
   have hbw1 : Below w.heap.size w w1 := hbw.trans (bA1.mono hs)
   have O1 : Hid (OwnI w1 w.heap.size u5 ((len : Int) :: pkI g k)) := HO.out.below bA1
   have LT : Hid (∀ j, (u5).ownBlock = some j → w.heap.size ≤ j) := fun j hj => (HO.out.lt j hj).1
   have SP : Hid (Sl w1 ap [(g k).o, (g k).r, (g k).a, (g k).b, (g k).n]) := sp
   have HL : Hid (((len : Int) :: pkI g k).length + 5 ≤ 4000000) := by show ((len : Int) :: pkI g k).length + 5 ≤ 4000000; rw [List.length_cons, pkI_len]; omega
   clear o1 sp HO
   go_wp2_with (at_builtin; refine wpList_append_ints w1 rfl _ _ rfl w.heap.size cp u5 ap ((len : Int) :: pkI g k) [(g k).o, (g k).r, (g k).a, (g k).b, (g k).n] rfl rfl O1.out SP.out HL.out (by omega) ?_; intro v' w4 o4 g4 _; have H4 : Hid (OwnI w4 w.heap.size v' ((len : Int) :: pkI g (k + 1))) := o4; have B4 : Hid (Below w.heap.size w1 w4) := Below.grown (Below.refl _ _) g4 (by omega) LT.out; clear o4 g4)
   go_roundw
   case rel => exact ⟨k + 1, by omega, by go_num, H4.out, hbw1.trans B4.out⟩
   case measure => simp [intOf]; omega
  ·have hkl : k = len := by omega
   have H4 : Hid (OwnI wr w.heap.size u5 ((len : Int) :: pkI g len)) := by
    have := HO.out
    rw [hkl] at this
    exact this
   clear HO hkl
   go_wp2
   go_ret
   exact ⟨_, rfl, H4.out, hbw⟩
theorem numsEv_any (b off len cap : Nat) (g : Nat → E3) (w : World) (hlen : len ≤ 1000) (hb : b < w.heap.size) (hc : EvAt w b off len g) :
  Calls Tryz.prog 86 #[.slice (some ⟨b, off, none⟩) len cap, .func (.func 87) #[] #[]] w fun e w' => ∃ v, e = .returned v ∧ OwnI w' w.heap.size v ((len : Int) :: pkE g len) ∧ Below w.heap.size w w' := by
 have hl' : (len : Int) ≤ 1000 := by omega
 have HC : Hid (EvAt w b off len g) := hc
 clear hc
 have hen : ∀ args wx, (callFunc 87 args).run Tryz.prog wx = .ok (.enter 87 args) wx := run_enter Tryz.func87 (by kernel_rfl) rfl
 go_enter Tryz.func86, Tryz.ntmps86
 go_wp2_with fail
 go_loopw [5, 13] (fun o i wr => ∃ k : Nat, k ≤ len ∧ i = .int .i64 (k : Int) ∧ Hid (OwnI wr w.heap.size o ((len : Int) :: pkE g k)) ∧ Below w.heap.size w wr) (fun _ i _ => len - (intOf i).toNat)
 case atStart => exact ⟨0, Nat.zero_le _, rfl, own_lit w [(len : Int)] (by simp), (Below.refl _ _).alloc (Nat.le_refl _) _⟩
 case round =>
  obtain ⟨k, hk, rfl, HO, hbw⟩ := hrel
  have hs := hbw.size
  by_cases hlt : k < len
  ·have hlt' : (k : Int) < (len : Int) := by omega
   obtain ⟨c0, c1, c2⟩ := HC.out.below hbw hb k hlt
   have bA : Below wr.heap.size wr (wr.alloc (oQ0 (g k).k (g k).q (g k).v)) := (Below.refl _ _).alloc (Nat.le_refl _) _
   go_wp2_with fail
   generalize wr.alloc (oQ0 (g k).k (g k).q (g k).v) = wA at *
   have hsA := bA.size
   refine (numsOfEvent_any (g k).k (g k).q (g k).v wA).mono ?_
   rintro e w1 ⟨u1, rfl, o1, b1⟩
   obtain ⟨ap, cp, rfl, sp⟩ := o1.form
   have hs1 := b1.size
   have bA1 : Below wr.heap.size wr w1 := bA.trans (b1.mono hsA)
   have hbw1 : Below w.heap.size w w1 := hbw.trans (bA1.mono hs)
   have O1 : Hid (OwnI w1 w.heap.size u5 ((len : Int) :: pkE g k)) := HO.out.below bA1
   have LT : Hid (∀ j, (u5).ownBlock = some j → w.heap.size ≤ j) := fun j hj => (HO.out.lt j hj).1
   have SP : Hid (Sl w1 ap [(g k).k, (g k).q, (g k).v]) := sp
   have HL : Hid (((len : Int) :: pkE g k).length + 3 ≤ 4000000) := by show ((len : Int) :: pkE g k).length + 3 ≤ 4000000; rw [List.length_cons, pkE_len]; omega
   clear o1 sp HO
   go_wp2_with (at_builtin; refine wpList_append_ints w1 rfl _ _ rfl w.heap.size cp u5 ap ((len : Int) :: pkE g k) [(g k).k, (g k).q, (g k).v] rfl rfl O1.out SP.out HL.out (by omega) ?_; intro v' w4 o4 g4 _; have H4 : Hid (OwnI w4 w.heap.size v' ((len : Int) :: pkE g (k + 1))) := o4; have B4 : Hid (Below w.heap.size w1 w4) := Below.grown (Below.refl _ _) g4 (by omega) LT.out; clear o4 g4)
   go_roundw
   case rel => exact ⟨k + 1, by omega, by go_num, H4.out, hbw1.trans B4.out⟩
   case measure => simp [intOf]; omega
  ·have hkl : k = len := by omega
   have H4 : Hid (OwnI wr w.heap.size u5 ((len : Int) :: pkE g len)) := by
    have := HO.out
    rw [hkl] at this
    exact this
   clear HO hkl
   go_wp2
   go_ret
   exact ⟨_, rfl, H4.out, hbw⟩
theorem numsEvents_any (a0 : Option Addr) (len cap : Nat) (g : Nat → E3) (w : World) (hlen : len ≤ 1000) (hc : EvL w a0 len g) :
  Calls Tryz.prog 86 #[.slice a0 len cap, .func (.func 87) #[] #[]] w fun e w' => ∃ v, e = .returned v ∧ OwnI w' w.heap.size v ((len : Int) :: pkE g len) ∧ Below w.heap.size w w' := by
 rcases hc with rfl | ⟨b, off, rfl, hb, hc⟩
 ·have H : Hid (OwnI (w.alloc (.cells #[.int .i64 0] 3)) w.heap.size (.slice (some ⟨w.heap.size, 0, none⟩) 1 1) [0]) := own_lit w [0] (by simp)
  go_enter Tryz.func86, Tryz.ntmps86
  go_wp2_with fail
  go_loopw [5, 13] (fun o i wr => o = .slice (some ⟨w.heap.size, 0, none⟩) 1 1 ∧ i = .int .i64 0 ∧ wr = w.alloc (.cells #[.int .i64 0] 3)) (fun _ _ _ => 0)
  case atStart => exact ⟨rfl, rfl, rfl⟩
  case round =>
   obtain ⟨rfl, rfl, rfl⟩ := hrel
   go_wp2
   go_ret
   exact ⟨_, rfl, H.out, (Below.refl _ _).alloc (Nat.le_refl _) _⟩
 ·exact numsEv_any b off len cap g w hlen hb hc
end Go.Proofs.YtnfdnnmddadmkaaGreatDoor
