/- Proved: called with whatever system, the program's Pack answers as the model's Pack; it writes into no argument, and its answer is its own. One condition, tied to the program's text: errors.errorType holds what its text lays. -/
import Derived.Test.YtnfdnnmddadmkaaGreatDoorNc0
import Derived.Test.YtnfdnnmddadmkaaGreatDoorNc47
import Derived.Test.YtnfdnnmddadmkaaGreatDoorNc45
import Derived.Test.YtnfdnnmddadmkaaGreatDoorNc35
import Derived.Test.YtnfdnnmddadmkaaGreatDoorCards
import Derived.SevenTiedAt
namespace Go.Proofs.YtnfdnnmddadmkaaGreatDoor
set_option maxRecDepth 100000
set_option maxHeartbeats 4000000
open Go.RowKit Go.Deep
theorem pkN_pos (y : Sy) : ∀ n, 0 < (pkN y n).length
 | 0 => by simp [pkN]
 | n + 1 => by
  have := pkN_pos y n
  rw [pkN, List.length_append]
  omega
structure PkJ (wK wr : World) (o : Value) (L : List Int) : Prop where
 ow : OwnI wr wK.heap.size o L
 be : Below wK.heap.size wK wr
theorem PkJ.to {wK wr : World} {o : Value} {L M : List Int} (h : PkJ wK wr o L) (e : M = L) : PkJ wK wr o M := e ▸ h
theorem pj_append {ops : Array Oper} {rest : List Oper} {op : Oper} {act : Act} {Q : Exit → Act → World → Prop} {wK wr w1 : World} {o : Value} {L M : List Int} (h : PkJ wK wr o L) (b1 : Below wr.heap.size wr w1) (hgd : op.guard = none) (s x : Operand)
  (ho : op.op = .call { callee := .builtin .append, args := #[s, x], argTypes := #[44, 44] }) (cp : Nat) (ap : Option Addr) (hs : act.eval s = o) (hx : act.eval x = .slice ap M.length cp) (hy : Sl w1 ap M) (hn : L.length + M.length ≤ 100000)
  (hK : ∀ v' w4, PkJ wK w4 v' (L ++ M) → wpList Tryz.prog ops Q rest (act.put op.dst v') w4) : wpList Tryz.prog ops Q (op :: rest) act w1 := by
 refine wpList_append_ints w1 hgd s x ho wK.heap.size cp o ap L M hs hx (h.ow.below b1) hy (by omega) (Nat.le_trans h.be.size b1.size) ?_
 intro v' w4 o4 g4 _
 exact hK v' w4 ⟨o4, (h.be.trans (b1.mono h.be.size)).trans (Below.grown (Below.refl _ _) g4 (Nat.le_trans h.be.size b1.size) (fun j hj => (h.ow.lt j hj).1))⟩
structure PkW (w : World) (g cn : Nat) (L : List Int) (o : Value) (k : Nat) (wr : World) : Prop where
 ow : OwnB wr w.heap.size o (byL (L.take k))
 nu : OwnI wr w.heap.size (.slice (some ⟨g, 0, none⟩) L.length cn) L
 ne : o.ownBlock ≠ some g
 be : Below w.heap.size w wr
theorem pw_append {ops : Array Oper} {rest : List Oper} {op : Oper} {act : Act} {Q : Exit → Act → World → Prop} {w wr w1 : World} {g cn : Nat} {L : List Int} {o : Value} {k : Nat} (h : PkW w g cn L o k wr) (hk : k < L.length) (b1 : Below wr.heap.size wr w1) (hgd : op.guard = none) (s x : Operand)
  (ho : op.op = .call { callee := .builtin .append, args := #[s, x], argTypes := #[22, 22] }) (cp : Nat) (ap : Option Addr) (hs : act.eval s = o) (hx : act.eval x = .slice ap (puL (zi L k)).length cp) (hy : SlB w1 ap (puL (zi L k))) (hn : L.length ≤ 10000)
  (hK : ∀ v' w4, PkW w g cn L v' (k + 1) w4 → wpList Tryz.prog ops Q rest (act.put op.dst v') w4) : wpList Tryz.prog ops Q (op :: rest) act w1 := by
 have l1 := byL_len (L.take k)
 rw [List.length_take] at l1
 have l2 := puL_len (zi L k)
 have hg := (h.nu.lt g rfl).2
 have hs1 := b1.size
 refine wpList_append_bytes w1 hgd s x ho w.heap.size cp o ap (byL (L.take k)) (puL (zi L k)) hs hx (h.ow.below b1) hy (by omega) (Nat.le_trans h.be.size b1.size) ?_
 intro v' w4 o4 g4 h4
 refine hK v' w4 ⟨by rw [byL_take L k hk]; exact o4, (h.nu.below b1).kept g4 (.inr (fun e => h.ne e.symm)), ?_, ?_⟩
 ·intro e
  rcases h4 with h4 | h4
  ·exact h.ne (h4 ▸ e)
  ·rw [h4] at e
   simp only [Option.some.injEq] at e
   omega
 ·exact (h.be.trans (b1.mono h.be.size)).trans (Below.grown (Below.refl _ _) g4 (Nat.le_trans h.be.size b1.size) (fun j hj => (h.ow.lt j hj).1))
theorem implPack_any (x : SysIn) (w : World) (hG : SysG w x) (hL : x.Len) (hV : w.cell? ⟨0, 0, none⟩ = some (.iface 310 (.agg #[.pointer (some ⟨1, 217, none⟩)]))) :
  Calls Tryz.prog 31 #[x.v] w fun e w' => ∃ u, e = .returned (.tuple #[u, .bool (pkT x.y)]) ∧ OwnB w' w.heap.size u (pkS x.y) ∧ Below w.heap.size w w' := by
 have HG : Hid (SysG w x) := hG
 have HL : Hid x.Len := hL
 have HS : Hid (∀ wx, Below w.heap.size w wx → Calls Tryz.prog 20 #[x.v] wx fun e w' => e = .returned (.bool x.y.okB) ∧ Below wx.heap.size wx w') := fun wx hb => implSysOk_any x wx (hG.below hb) hL ((hb.cell (p := ⟨0, 0, none⟩) (World.block_lt_of_cell? w _ hV)).trans hV)
 have HM : Hid (∀ wx, Below w.heap.size w wx → Calls Tryz.prog 83 #[x.v] wx fun e w' => e = .returned (.bool (pB x.y.Marks)) ∧ Below wx.heap.size wx w') := fun wx hb => hasMarks_any x wx (hG.below hb) hL
 have BW : Hid (Below w.heap.size w ((w.alloc (oQ4 x.pa x.pn x.pc x.sa x.sn x.sc x.wa x.wn x.wc x.ha x.hn x.hc)).alloc (.cells #[] 5))) := (below_alloc _ _).trans ((below_alloc _ _).mono (by simp))
 have NB : Hid (BoxC ((w.alloc (oQ4 x.pa x.pn x.pc x.sa x.sn x.sc x.wa x.wn x.wc x.ha x.hn x.hc)).alloc (.cells #[] 5)) w.heap.size (.slice x.pa x.pn x.pc) (.slice x.sa x.sn x.sc) (.slice x.wa x.wn x.wc) (.slice x.ha x.hn x.hc)) := (BoxC.new w _ _ _ _ _).below (below_alloc _ _)
 have NO : Hid (OwnB ((w.alloc (oQ4 x.pa x.pn x.pc x.sa x.sn x.sc x.wa x.wn x.wc x.ha x.hn x.hc)).alloc (.cells #[] 5)) (w.heap.size + 1) (.slice (some ⟨w.heap.size + 1, 0, none⟩) 0 0) []) := ownB_emptyN (w.alloc (oQ4 x.pa x.pn x.pc x.sa x.sn x.sc x.wa x.wn x.wc x.ha x.hn x.hc)) (by simp)
 clear hG hL hV
 go_enter Tryz.func31, Tryz.ntmps31
 go_wp2_with fail
 generalize (w.alloc (oQ4 x.pa x.pn x.pc x.sa x.sn x.sc x.wa x.wn x.wc x.ha x.hn x.hc)).alloc (.cells #[] 5) = W2 at *
 refine (HS.out W2 BW.out).mono ?_
 rintro e w1 ⟨rfl, q1⟩
 have B1 : Hid (Below w.heap.size w w1 ∧ BoxC w1 w.heap.size (.slice x.pa x.pn x.pc) (.slice x.sa x.sn x.sc) (.slice x.wa x.wn x.wc) (.slice x.ha x.hn x.hc)) := ⟨BW.out.trans (q1.mono BW.out.size), NB.out.below q1⟩
 have O1 : Hid (OwnB w1 (w.heap.size + 1) (.slice (some ⟨w.heap.size + 1, 0, none⟩) 0 0) []) := NO.out.below q1
 clear q1 BW NB HS NO
 rcases Bool.eq_false_or_eq_true x.y.okB with t | t
 case inr =>
  have HT : Hid (pkT x.y = false) := by show pkT x.y = false; rw [pkT, t]; rfl
  have HV : Hid (pkS x.y = []) := by
   show pkS x.y = []
   rw [pkS, if_neg (by rw [HT.out]; decide)]
  rw [t]
  clear t
  go_wp2
  exact bodyPost_ret (v := .tuple #[.slice (some ⟨w.heap.size + 1, 0, none⟩) 0 0, .bool false]) (by simp [results, Tryz.results31, go_sem]) rfl ⟨_, by rw [HT.out], by rw [HV.out]; exact O1.out.mono (by omega), B1.out.1⟩
 have HK : Hid x.y.Ok := Sy.ok_of t
 have HT0 : Hid (pkT x.y = !(pB x.y.Marks)) := by show pkT x.y = _; rw [pkT, t]; rfl
 rw [t]
 clear t
 obtain ⟨b0, b1, b2, b3⟩ := B1.out.2
 go_wp2_with fail
 clear b0 b1 b2 b3
 refine (HM.out w1 B1.out.1).mono ?_
 rintro e wK ⟨rfl, q2⟩
 have B2 : Hid (Below w.heap.size w wK ∧ BoxC wK w.heap.size (.slice x.pa x.pn x.pc) (.slice x.sa x.sn x.sc) (.slice x.wa x.wn x.wc) (.slice x.ha x.hn x.hc)) := ⟨B1.out.1.trans (q2.mono B1.out.1.size), B1.out.2.below q2⟩
 have O2 : Hid (OwnB wK (w.heap.size + 1) (.slice (some ⟨w.heap.size + 1, 0, none⟩) 0 0) []) := O1.out.below q2
 clear q2 B1 HM O1
 rcases Bool.eq_false_or_eq_true (pB x.y.Marks) with t | t
 case inl =>
  have HT : Hid (pkT x.y = false) := by show pkT x.y = false; rw [HT0.out, t]; rfl
  have HV : Hid (pkS x.y = []) := by
   show pkS x.y = []
   rw [pkS, if_neg (by rw [HT.out]; decide)]
  rw [t]
  clear t
  go_wp2
  exact bodyPost_ret (v := .tuple #[.slice (some ⟨w.heap.size + 1, 0, none⟩) 0 0, .bool false]) (by simp [results, Tryz.results31, go_sem]) rfl ⟨_, by rw [HT.out], by rw [HV.out]; exact O2.out.mono (by omega), B2.out.1⟩
 have HT : Hid (pkT x.y = true) := by show pkT x.y = true; rw [HT0.out, t]; rfl
 have HV : Hid (pkS x.y = byL (pkN x.y x.pn)) := by show pkS x.y = _; rw [pkS, if_pos HT.out]; rfl
 rw [t]
 clear t HT0
 have HB : Hid ((∀ k, k ≤ x.pn → (pkN x.y k).length ≤ 4000) ∧ (∀ k, k < x.pn → x.pL k ≤ 30 ∧ x.hL k ≤ 200) ∧ x.pn ≤ 4 ∧ x.hn = x.pn) := pk_bds HK.out
 have hpn : (x.pn : Int) ≤ 4 := by have := HB.out.2.2.1; omega
 have HG2 : Hid (SysG wK x) := HG.out.below B2.out.1
 have R3 : Hid (PkJ wK (wK.alloc (.cells #[.int .i64 (x.pn : Int)] 3)) (.slice (some ⟨wK.heap.size, 0, none⟩) 1 1) (pkN x.y 0)) := ⟨own_lit wK [(x.pn : Int)] (by simp), below_alloc _ _⟩
 clear HG HL HK
 obtain ⟨b0, b1, b2, b3⟩ := B2.out.2
 have hN0 : w.heap.size < wK.heap.size := World.block_lt_of_cell? wK _ b0
 have fb : ∀ o, (wK.alloc (.cells #[.int .i64 (x.pn : Int)] 3)).cell? ⟨w.heap.size, o, none⟩ = wK.cell? ⟨w.heap.size, o, none⟩ := fun o => (below_alloc wK (.cells #[.int .i64 (x.pn : Int)] 3)).cell (p := ⟨w.heap.size, o, none⟩) hN0
 have d0 := (fb 0).trans b0
 go_wp2_with fail
 clear b0 b1 b2 b3 d0 fb hN0
 go_loopw [5, 26] (fun o i wr => ∃ k : Nat, k ≤ x.pn ∧ i = .int .i64 (k : Int) ∧ Hid (PkJ wK wr o (pkN x.y k))) (fun _ i _ => x.pn - (intOf i).toNat)
 case atStart => exact ⟨0, Nat.zero_le _, rfl, R3.out⟩
 case round =>
  clear R3
  obtain ⟨k, hk, rfl, HR⟩ := hrel
  by_cases hlt : k < x.pn
  ·have hlt' : (k : Int) < (x.pn : Int) := by omega
   obtain ⟨bp, op, ep, cp⟩ := (HG2.out.below HR.out.be).p.at hlt
   rw [ep]
   clear ep
   obtain ⟨bi, ei, lti, ai⟩ := (HG2.out.below HR.out.be).pi k hlt
   rw [ei] at cp
   clear ei
   have AI : Hid (InsAt wr bi 0 (x.pL k) (x.pH k)) := ai
   clear ai
   go_wp2_with fail
   clear cp
   refine (numsIns_any bi 0 (x.pL k) (x.pC k) (x.pH k) wr (by have := (HB.out.2.1 k hlt).1; omega) lti AI.out).mono ?_
   rintro e w5 ⟨u6, rfl, o5, q5⟩
   obtain ⟨ap, cq, rfl, sp⟩ := o5.form
   have SP : Hid (Sl w5 ap ((x.pL k : Int) :: pkI (x.pH k) (x.pL k)) ∧ Below wr.heap.size wr w5) := ⟨sp, q5⟩
   clear o5 sp q5 AI lti
   obtain ⟨bh, oh, eh, -⟩ := (HG2.out.below HR.out.be).h.at (k := k) (by have := HB.out.2.2.2; omega)
   have HEh : Hid (x.ha = some ⟨bh, oh, none⟩) := eh
   clear eh
   have hnn : (x.hn : Int) = (x.pn : Int) := by have := HB.out.2.2.2; omega
   have hlh : (k : Int) < (x.hn : Int) := by omega
   clear hnn
   go_wp2_with (at_builtin; refine pj_append HR.out SP.out.2 rfl _ _ rfl cq ap rfl rfl SP.out.1 (by have := HB.out.1 k hk; have := (HB.out.2.1 k hlt).1; simp only [List.length_cons, pkI_len]; omega) ?_; intro v6 w6 r6; have R6 : Hid (PkJ wK w6 v6 (pkN x.y k ++ ((x.pL k : Int) :: pkI (x.pH k) (x.pL k)))) := r6; clear r6; obtain ⟨b0, b1, b2, b3⟩ := B2.out.2.below R6.out.be; rw [HEh.out] at b3; have ch : w6.cell? ⟨bh, oh + k, none⟩ = some (.slice (x.hA k) (x.hL k) (x.hC k)) := (by
    obtain ⟨b', o', e', c'⟩ := (HG2.out.below R6.out.be).h.at (k := k) (by have := HB.out.2.2.2; omega)
    rw [HEh.out] at e'
    cases e'
    exact c'))
   clear b0 b1 b2 b3 ch SP HR
   refine (numsEvents_any (x.hA k) (x.hL k) (x.hC k) (x.hH k) w6 (by have := (HB.out.2.1 k hlt).2; omega) ((HG2.out.below R6.out.be).hi k (by have := HB.out.2.2.2; omega))).mono ?_
   rintro e w7 ⟨u7, rfl, o7, q7⟩
   obtain ⟨ap7, cq7, rfl, sp7⟩ := o7.form
   have SP : Hid (Sl w7 ap7 ((x.hL k : Int) :: pkE (x.hH k) (x.hL k)) ∧ Below w6.heap.size w6 w7) := ⟨sp7, q7⟩
   clear o7 sp7 q7
   go_wp2_with (at_builtin; refine pj_append R6.out SP.out.2 rfl _ _ rfl cq7 ap7 rfl rfl SP.out.1 (by have := HB.out.1 k hk; have := (HB.out.2.1 k hlt).1; have := (HB.out.2.1 k hlt).2; simp only [List.length_append, List.length_cons, pkI_len, pkE_len]; omega) ?_; intro v8 w8 r8; have R8 : Hid (PkJ wK w8 v8 (pkN x.y (k + 1))) := r8.to (by rw [pkN, pkP, List.append_assoc]; rfl); clear r8)
   go_roundw
   case rel => exact ⟨k + 1, by omega, by go_num, R8.out⟩
   case measure => simp [intOf]; omega
  ·have hke : k = x.pn := by omega
   have HN : Hid (OwnI wr wK.heap.size u5 (pkN x.y x.pn) ∧ Below wK.heap.size wK wr) := by
    have h := HR.out
    rw [hke] at h
    exact ⟨h.ow, h.be⟩
   have hlt' : ¬ ((k : Int) < (x.pn : Int)) := by omega
   clear hke HR
   have hLN := HB.out.1 x.pn (Nat.le_refl _)
   have hl0 := pkN_pos x.y x.pn
   generalize hLL : pkN x.y x.pn = L at HN hLN HV hl0
   clear hLL
   obtain ⟨g, cn, rfl, hg, -⟩ := HN.out.1.block hl0
   have hLi : (L.length : Int) ≤ 4000 := by omega
   have W0 : Hid (PkW w g cn L (.slice (some ⟨w.heap.size + 1, 0, none⟩) 0 0) 0 wr) := ⟨by exact (O2.out.below HN.out.2).mono (by omega), HN.out.1.mono B2.out.1.size, by
    intro e
    have e' : (some (w.heap.size + 1) : Option Nat) = some g := e
    simp only [Option.some.injEq] at e'
    have := (O2.out.lt (w.heap.size + 1) rfl).2
    omega, B2.out.1.trans (HN.out.2.mono B2.out.1.size)⟩
   clear HN O2 hl0 hlt'
   go_wp2_with fail
   go_loopw [4, 46] (fun o i wr => ∃ k : Nat, k ≤ L.length ∧ i = .int .i64 (k : Int) ∧ Hid (PkW w g cn L o k wr)) (fun _ i _ => L.length - (intOf i).toNat)
   case atStart => exact ⟨0, Nat.zero_le _, rfl, W0.out⟩
   case round =>
    clear W0
    obtain ⟨j, hj, rfl, HW⟩ := hrel
    by_cases hjl : j < L.length
    ·have hjl' : (j : Int) < (L.length : Int) := by omega
     have ck := HW.out.nu.cell hjl
     go_wp2_with fail
     clear ck
     refine (implPutNum_any (zi L j) wr).mono ?_
     rintro e w5 ⟨u6, rfl, o5, q5⟩
     obtain ⟨ap, cq, rfl, sp⟩ := o5.form
     have SP : Hid (SlB w5 ap (puL (zi L j)) ∧ Below wr.heap.size wr w5) := ⟨sp, q5⟩
     clear o5 sp q5
     go_wp2_with (at_builtin; refine pw_append HW.out hjl SP.out.2 rfl _ _ rfl cq ap rfl rfl SP.out.1 (by omega) ?_; intro v6 w6 r6; have R6 : Hid (PkW w g cn L v6 (j + 1) w6) := r6; clear r6)
     go_roundw
     case rel => exact ⟨j + 1, by omega, by go_num, R6.out⟩
     case measure => simp [intOf]; omega
    ·have hje : j = L.length := by omega
     have F : Hid (OwnB wr w.heap.size u4 (pkS x.y) ∧ Below w.heap.size w wr) := by
      have h := HW.out
      refine ⟨?_, h.be⟩
      rw [HV.out]
      have h1 := h.ow
      rwa [hje, List.take_length] at h1
     have hjl' : ¬ ((j : Int) < (L.length : Int)) := by omega
     clear hje HW
     go_wp2
     exact bodyPost_ret (v := .tuple #[u4, .bool true]) (by simp [results, Tryz.results31, go_sem]) rfl ⟨_, by rw [HT.out], F.out⟩
open Go.ChangeShapes Go.WideShapes Go.ChangeAt
theorem pkS_len (y : Sy) : (pkS y).length ≤ 1048576 := by
 unfold pkS
 split
 ·rename_i h
  have hk : y.Ok := by
   apply Sy.ok_of
   unfold pkT at h
   rw [Bool.and_eq_true] at h
   exact h.1
  have := byL_len (pkN y y.pn)
  have := (pk_bds hk).1 y.pn (Nat.le_refl _)
  omega
 ·simp
theorem OwnB.blk {w w' : World} {B : Nat} {v : Value} {xs : List Int} (h : OwnB w B v xs) (hb : ∀ k, v.ownBlock = some k → w'.heap[k]? = w.heap[k]?) : OwnB w' B v xs := by
 rcases h.2 with ⟨rfl, h0⟩ | ⟨g, cap, cur, rfl, hbg, hg, hr⟩
 ·exact ⟨h.1, .inl ⟨rfl, h0⟩⟩
 ·refine ⟨h.1, .inr ⟨g, cap, cur, rfl, hbg, ?_, hr⟩⟩
  rw [hb g rfl]
  exact hg
theorem OwnB.far {w w' : World} {B : Nat} {v : Value} {xs : List Int} {row : Option Nat} (h : OwnB w B v xs) (hg : w.grownBy w' row) (hne : ∀ j, v.ownBlock = some j → row ≠ some j) : OwnB w' B v xs := by
 refine h.kept hg ?_
 cases hv : v.ownBlock with
 | none => exact .inl rfl
 | some k => exact .inr (fun e => hne k hv e.symm)
theorem OwnB.sl {w : World} {B : Nat} {a0 : Option Addr} {cap : Nat} {xs : List Int} (h : OwnB w B (.slice a0 xs.length cap) xs) : SlB w a0 xs := by
 obtain ⟨a1, c1, e, s⟩ := h.form
 simp only [Value.slice.injEq] at e
 obtain ⟨rfl, -, -⟩ := e
 exact s
theorem OwnB.touch {w w' : World} {B : Nat} {v : Value} {xs : List Int} {P : Nat → Prop} (o : OwnB w B v xs) (ht : Touch P w w') (hp : ∀ g, v.ownBlock = some g → ¬ P g) : OwnB w' B v xs := o.blk fun k hk => ht.block k (o.lt k hk).2 (hp k hk)
theorem packLaw_small (x : SysIn) (W : World) (hs : x.size ≤ 1048576) (hA : x.Ok W) (hV : W.cell? ⟨0, 0, none⟩ = some (.iface 310 (.agg #[.pointer (some ⟨1, 217, none⟩)]))) :
  Calls Tryz.prog 6 #[sysV x.pa x.pn x.pc x.sa x.sn x.sc x.wa x.wn x.wc x.ha x.hn x.hc] W fun e w' => e = .returned (.bool true) ∧ Below W.heap.size W w' := by
 have HS : Hid (x.size ≤ 1048576) := hs
 have HA : Hid (x.Ok W) := hA
 have HV : Hid (W.cell? ⟨0, 0, none⟩ = some (.iface 310 (.agg #[.pointer (some ⟨1, 217, none⟩)]))) := hV
 have HV0 : Hid (0 < W.heap.size) := World.block_lt_of_cell? W _ hV
 have hX : (pkS x.y).length ≤ 1048576 := pkS_len x.y
 generalize hN : pkS x.y = X at hX
 have HN : Hid (pkS x.y = X) := hN
 generalize hT : pkT x.y = T
 have HTT : Hid (pkT x.y = T) := hT
 have tt : (T != T) = false := by simp
 clear hT
 have hX' : (X.length : Int) ≤ 1048576 := by omega
 have hsz : ¬ (1048576 - (x.size : Int) < 0) := by omega
 have X0 : Hid (Px W x (W.alloc (.cells #[.slice x.pa x.pn x.pc, .slice x.sa x.sn x.sc, .slice x.wa x.wn x.wc, .slice x.ha x.hn x.hc] 53))) := ⟨below_allocS _ _, BoxC.new W _ _ _ _ _, by simp⟩
 clear hN hs hA hV
 go_enter Tryz.func6, Tryz.ntmps6
 go_wp2_with fail
 generalize W.alloc (.cells #[.slice x.pa x.pn x.pc, .slice x.sa x.sn x.sc, .slice x.wa x.wn x.wc, .slice x.ha x.hn x.hc] 53) = wA at *
 refine (szSys_small x wA (HA.out.row.below X0.out.be) HS.out).mono ?_
 rintro e w0 ⟨rfl, b0⟩
 have X1 : Hid (Px W x w0) := X0.out.below b0
 clear b0 X0
 obtain ⟨-, ⟨p0, p1, p2, p3⟩, lt⟩ := X1.out
 go_wp2_with fail
 clear p0 p1 p2 p3 lt
 refine (toSys_any x W w0 HS.out HA.out X1.out.be).mono ?_
 rintro e w1 ⟨v1, rfl, o1, b1⟩
 obtain ⟨x1, rfl, g1, y1, cp1⟩ := o1.g2
 have O1 : Hid (SysG w1 x1 ∧ x1.y = x.y ∧ ∀ i, i < x1.hn → x1.hL i ≤ x1.hC i) := ⟨g1, y1, cp1⟩
 have X2 : Hid (Px W x w1) := X1.out.below b1
 clear b1 X1 o1 g1 y1 cp1
 go_wp2_with fail
 refine (specPack_any x1 w1 O1.out.1 (SysIn.len_of HS.out O1.out.2.1) O1.out.2.2).mono ?_
 rintro e w2 ⟨u2, rfl, o2, b2⟩
 rw [O1.out.2.1, HTT.out]
 rw [O1.out.2.1, HN.out] at o2
 obtain ⟨aw, cw, rfl, -⟩ := o2.form
 have V2 : Hid (OwnB w2 w1.heap.size (.slice aw X.length cw) X) := o2
 have X3 : Hid (Px W x w2) := X2.out.below b2
 clear b2 X2 o2 O1
 obtain ⟨-, ⟨p0, p1, p2, p3⟩, lt⟩ := X3.out
 go_wp2_with fail
 clear p0 p1 p2 p3 lt
 refine (toSys_any x W w2 HS.out HA.out X3.out.be).mono ?_
 rintro e w3 ⟨v3, rfl, o3, b3⟩
 obtain ⟨x3, rfl, g3, y3, cp3⟩ := o3.g2
 have S3 : Hid (IsSys w3 w2.heap.size w3.heap.size x x3.v) := o3
 have V3 : Hid (OwnB w3 w1.heap.size (.slice aw X.length cw) X) := V2.out.below b3
 have GW : Hid (∀ j, (Value.slice aw X.length cw).ownBlock = some j → j < w2.heap.size) := fun j hj => (V2.out.lt j hj).2
 have X4 : Hid (Px W x w3) := X3.out.below b3
 have LT : Hid (W.heap.size < w2.heap.size ∧ w2.heap.size ≤ w3.heap.size) := ⟨X3.out.lt, b3.size⟩
 have ba : Below w3.heap.size w3 (w3.alloc (oQ4 x3.pa x3.pn x3.pc x3.sa x3.sn x3.sc x3.wa x3.wn x3.wc x3.ha x3.hn x3.hc)) := below_allocS _ _
 have Sa : Hid (IsSys (w3.alloc (oQ4 x3.pa x3.pn x3.pc x3.sa x3.sn x3.sc x3.wa x3.wn x3.wc x3.ha x3.hn x3.hc)) w2.heap.size w3.heap.size x x3.v) := S3.out.below ba (Nat.le_refl _)
 have Va : Hid (OwnB (w3.alloc (oQ4 x3.pa x3.pn x3.pc x3.sa x3.sn x3.sc x3.wa x3.wn x3.wc x3.ha x3.hn x3.hc)) w1.heap.size (.slice aw X.length cw) X) := V3.out.below ba
 have Xa : Hid (Px W x (w3.alloc (oQ4 x3.pa x3.pn x3.pc x3.sa x3.sn x3.sc x3.wa x3.wn x3.wc x3.ha x3.hn x3.hc))) := X4.out.below ba
 have Ga : Hid (SysG (w3.alloc (oQ4 x3.pa x3.pn x3.pc x3.sa x3.sn x3.sc x3.wa x3.wn x3.wc x3.ha x3.hn x3.hc)) x3 ∧ x3.y = x.y) := ⟨g3.below ba, y3⟩
 have Qa : Hid (BoxC (w3.alloc (oQ4 x3.pa x3.pn x3.pc x3.sa x3.sn x3.sc x3.wa x3.wn x3.wc x3.ha x3.hn x3.hc)) w3.heap.size (.slice x3.pa x3.pn x3.pc) (.slice x3.sa x3.sn x3.sc) (.slice x3.wa x3.wn x3.wc) (.slice x3.ha x3.hn x3.hc) ∧ w3.heap.size < (w3.alloc (oQ4 x3.pa x3.pn x3.pc x3.sa x3.sn x3.sc x3.wa x3.wn x3.wc x3.ha x3.hn x3.hc)).heap.size) := ⟨BoxC.new w3 _ _ _ _ _, by simp⟩
 clear b3 X3 o3 V2 V3 X4 S3 ba g3 y3 cp3
 go_wp2_with fail
 generalize w3.alloc (oQ4 x3.pa x3.pn x3.pc x3.sa x3.sn x3.sc x3.wa x3.wn x3.wc x3.ha x3.hn x3.hc) = wB at *
 refine (implPack_any x3 wB Ga.out.1 (SysIn.len_of HS.out Ga.out.2) ((Xa.out.be.cell (p := ⟨0, 0, none⟩) HV0.out).trans HV.out)).mono ?_
 rintro e w4 ⟨u4, rfl, o4, b4⟩
 rw [Ga.out.2, HTT.out]
 rw [Ga.out.2, HN.out] at o4
 obtain ⟨ag, cg, rfl, -⟩ := o4.form
 have G4 : Hid (OwnB w4 wB.heap.size (.slice ag X.length cg) X) := o4
 have GG : Hid (∀ j, (Value.slice ag X.length cg).ownBlock = some j → w3.heap.size < j) := fun j hj => Nat.lt_of_lt_of_le Qa.out.2 (o4.lt j hj).1
 have V4 : Hid (OwnB w4 w1.heap.size (.slice aw X.length cw) X) := Va.out.below b4
 have S4' : Hid (IsSys w4 w2.heap.size w3.heap.size x x3.v) := Sa.out.below b4 (Nat.le_of_lt Qa.out.2)
 have X5 : Hid (Px W x w4) := Xa.out.below b4
 have Q4 : Hid (BoxC w4 w3.heap.size (.slice x3.pa x3.pn x3.pc) (.slice x3.sa x3.sn x3.sc) (.slice x3.wa x3.wn x3.wc) (.slice x3.ha x3.hn x3.hc) ∧ w3.heap.size < w4.heap.size) := ⟨Qa.out.1.below b4, Nat.lt_of_lt_of_le Qa.out.2 b4.size⟩
 clear b4 Xa o4 Va Sa Qa Ga
 go_wp2_with fail
 refine (eqByteS_same ag aw cg cw X w4 hX G4.out.sl V4.out.sl).mono ?_
 rintro e w5 ⟨rfl, b5⟩
 have G5 : Hid (OwnB w5 wB.heap.size (.slice ag X.length cg) X) := G4.out.below b5
 have V5 : Hid (OwnB w5 w1.heap.size (.slice aw X.length cw) X) := V4.out.below b5
 have S5 : Hid (IsSys w5 w2.heap.size w3.heap.size x x3.v) := S4'.out.below b5 (by obtain ⟨_, _, _, _, _, _, _, _, _, _, _, q⟩ := S4'.out; exact q.hi.2.2.2.1)
 have X6 : Hid (Px W x w5) := X5.out.below b5
 have Q5 : Hid (BoxC w5 w3.heap.size (.slice x3.pa x3.pn x3.pc) (.slice x3.sa x3.sn x3.sc) (.slice x3.wa x3.wn x3.wc) (.slice x3.ha x3.hn x3.hc) ∧ w3.heap.size < w5.heap.size) := ⟨Q4.out.1.below b5, Nat.lt_of_lt_of_le Q4.out.2 b5.size⟩
 clear Q4
 clear b5 X5 G4 V4 S4'
 obtain ⟨-, ⟨p0, p1, p2, p3⟩, lt⟩ := X6.out
 obtain ⟨⟨q0, q1, q2, q3⟩, lq⟩ := Q5.out
 go_wp2_with fail
 first | (go_region_with (first | (go_at_call 23; refine (toSys_any x W _ HS.out HA.out (by exact X6.out.be.drew)).mono ?_; rintro e w6 ⟨v6, rfl, o6, b6⟩; have q6 : Below w5.heap.size w5 w6 := (Below.refl w5.heap.size w5).drew.trans b6; have T6 : Hid (∃ l, IsSys w6 l w6.heap.size x v6) := ⟨_, o6⟩; obtain ⟨r0, r1, r2, r3⟩ := Q5.out.1.below q6; have Q6 : Hid (Below w5.heap.size w5 w6) := q6; clear o6 b6 q6) | (go_at_call 25; refine (eqSys_same x w2.heap.size w3.heap.size T6.out.choose _ _ v6 w6 HS.out (S5.out.below Q6.out (by obtain ⟨_, _, _, _, _, _, _, _, _, _, _, q⟩ := S5.out; exact q.hi.2.2.2.1)) T6.out.choose_spec).mono ?_; rintro e w7 ⟨rfl, b7⟩; have Q7 : Hid (Below w5.heap.size w5 w7) := Q6.out.trans (b7.mono Q6.out.size); clear b7))) | fail
 all_goals
  clear r0 r1 r2 r3 p0 p1 p2 p3 lt q0 q1 q2 q3 lq T6 Q6
  have G7 : Hid (OwnB w7 wB.heap.size (.slice ag X.length cg) X) := G5.out.below Q7.out
  have V7 : Hid (OwnB w7 w1.heap.size (.slice aw X.length cw) X) := V5.out.below Q7.out
  have S7 : Hid (IsSys w7 w2.heap.size w3.heap.size x x3.v) := S5.out.below Q7.out (by obtain ⟨_, _, _, _, _, _, _, _, _, _, _, q⟩ := S5.out; exact q.hi.2.2.2.1)
  have X8 : Hid (Px W x w7) := X6.out.below Q7.out
  have R7 : Hid (BoxC w7 w3.heap.size (.slice x3.pa x3.pn x3.pc) (.slice x3.sa x3.sn x3.sc) (.slice x3.wa x3.wn x3.wc) (.slice x3.ha x3.hn x3.hc) ∧ w3.heap.size < w7.heap.size) := ⟨Q5.out.1.below Q7.out, Nat.lt_of_lt_of_le Q5.out.2 Q7.out.size⟩
  clear Q7 X6 G5 V5 S5 Q5
  obtain ⟨⟨q0, q1, q2, q3⟩, lq⟩ := R7.out
  go_wp2_with fail
  clear q0 q1 q2 q3 lq
  refine (markSys_any x _ _ _ w7 HS.out S7.out).mono ?_
  rintro e w8 ⟨⟨z, rfl, hz⟩, t8⟩
  have G8 : Hid (OwnB w8 wB.heap.size (.slice ag X.length cg) X) := G7.out.touch t8 fun g hg => by
   have := GG.out g hg
   omega
  have V8 : Hid (OwnB w8 w1.heap.size (.slice aw X.length cw) X) := V7.out.touch t8 fun g hg => by
   have := GW.out g hg
   omega
  have X9 : Hid (Px W x w8) := X8.out.touch t8 fun b hb => by have := LT.out; omega
  clear t8 X8 G7 V7 S7 R7
  go_wp2_with fail
  refine (eqByteS_same ag aw cg cw X w8 hX G8.out.sl V8.out.sl).mono ?_
  rintro e w9 ⟨rfl, b9⟩
  have G9 : Hid (OwnB w9 wB.heap.size (.slice ag X.length cg) X) := G8.out.below b9
  have V9 : Hid (OwnB w9 w1.heap.size (.slice aw X.length cw) X) := V8.out.below b9
  have X10 : Hid (Px W x w9) := X9.out.below b9
  clear b9 X9 G8 V8
  go_wp2_with fail
  refine (markByteS_any ag cg wB.heap.size X 1 w9 hX (by omega) (by omega) G9.out).mono ?_
  rintro e w10 ⟨rfl, m10, g10⟩
  have V10 : Hid (OwnB w10 w1.heap.size (.slice aw X.length cw) X) := V9.out.far g10 fun j hj e => by
   have := GW.out j hj
   have := GG.out j e
   have := LT.out
   omega
  have X11 : Hid (Px W x w10) := X10.out.touch (Touch.of_grown (P := fun b => (Value.slice ag X.length cg).ownBlock = some b) g10 fun b e => e) fun b e => by
   have := GG.out b e
   have := LT.out
   omega
  have M10 : Hid (OwnB w10 wB.heap.size (.slice ag X.length cg) (marksB 1 X.length)) := m10
  clear g10 X10 G9 V9 m10
  go_wp2_with fail
  refine (heldByteS_marks ag cg X.length 1 w10 hX (by omega) (by omega) (by have h := M10.out; have hl := marksB_length 1 X.length; obtain ⟨a1, c1, e, s⟩ := h.form; rw [hl] at e; simp only [Value.slice.injEq] at e; obtain ⟨rfl, -, -⟩ := e; exact s)).mono ?_
  rintro e w11 ⟨rfl, rfl⟩
  have hq : ¬ (1 + (X.length : Int) < 0) := by omega
  obtain ⟨-, ⟨p0, p1, p2, p3⟩, lt⟩ := X11.out
  go_wp2_with fail
  clear p0 p1 p2 p3 lt
  refine (toSys_any x W w11 HS.out HA.out X11.out.be).mono ?_
  rintro e w12 ⟨v12, rfl, o12, b12⟩
  obtain ⟨x12, rfl, g12, y12, -⟩ := o12.g2
  have S12 : Hid (SysG w12 x12 ∧ x12.y = x.y) := ⟨g12, y12⟩
  have V12 : Hid (OwnB w12 w1.heap.size (.slice aw X.length cw) X) := V10.out.below b12
  have M12 : Hid (OwnB w12 wB.heap.size (.slice ag X.length cg) (marksB 1 X.length)) := M10.out.below b12
  have X13 : Hid (Px W x w12) := X11.out.below b12
  clear b12 X11 V10 M10 o12 g12 y12
  go_wp2_with fail
  refine (implPack_any x12 w12 S12.out.1 (SysIn.len_of HS.out S12.out.2) ((X13.out.be.cell (p := ⟨0, 0, none⟩) HV0.out).trans HV.out)).mono ?_
  rintro e w13 ⟨u13, rfl, o13, b13⟩
  rw [S12.out.2, HTT.out]
  rw [S12.out.2, HN.out] at o13
  obtain ⟨ah, ch, rfl, -⟩ := o13.form
  have H13 : Hid (OwnB w13 w12.heap.size (.slice ah X.length ch) X) := o13
  have V13 : Hid (OwnB w13 w1.heap.size (.slice aw X.length cw) X) := V12.out.below b13
  have M13 : Hid (OwnB w13 wB.heap.size (.slice ag X.length cg) (marksB 1 X.length)) := M12.out.below b13
  have X14 : Hid (Px W x w13) := X13.out.below b13
  clear b13 X13 V12 M12 o13 S12
  go_wp2_with fail
  refine (eqByteS_same ah aw ch cw X w13 hX H13.out.sl V13.out.sl).mono ?_
  rintro e w14 ⟨rfl, b14⟩
  have M14 : Hid (OwnB w14 wB.heap.size (.slice ag X.length cg) (marksB 1 X.length)) := M13.out.below b14
  have X15 : Hid (Px W x w14) := X14.out.below b14
  clear b14 X14 V13 H13 M13
  go_wp2_with fail
  refine (heldByteS_marks ag cg X.length 1 w14 hX (by omega) (by omega) (by have h := M14.out; have hl := marksB_length 1 X.length; obtain ⟨a1, c1, e, s⟩ := h.form; rw [hl] at e; simp only [Value.slice.injEq] at e; obtain ⟨rfl, -, -⟩ := e; exact s)).mono ?_
  rintro e w15 ⟨rfl, rfl⟩
  go_wp2
  go_ret
  exact ⟨rfl, X15.out.be⟩
theorem packLaw_great (x : SysIn) (W : World) (hr : x.Row W) (hm : x.Max) (hs : 1048576 < x.size) :
  Calls Tryz.prog 6 #[sysV x.pa x.pn x.pc x.sa x.sn x.sc x.wa x.wn x.wc x.ha x.hn x.hc] W fun e w' => e = .returned (.bool true) ∧ Below W.heap.size W w' := by
 have HR : Hid (x.Row W) := hr
 have HM : Hid x.Max := hm
 have HS : Hid (1048576 < x.size) := hs
 clear hr hm hs
 go_enter Tryz.func6, Tryz.ntmps6
 go_wp2_with fail
 refine (szSys_great x _ (HR.out.below (below_allocS _ _)) HM.out HS.out).mono ?_
 rintro e w0 ⟨rfl, b0⟩
 have B0 : Hid (Below W.heap.size W w0) := (below_allocS _ _).trans (b0.mono (by simp))
 clear b0
 go_wp2
 go_ret
 exact ⟨rfl, B0.out⟩
theorem packLifted (os : Os) (started : os.Started) (H : Type) (enc : TypeId × Value → H) :
  ReturnsInHanded {} Tryz.checked os 6 .any (fun w args => (Rows.fnExactPackSpec.pre enc Tryz.prog Tryz.f6 [] false w args ∧ laidMetH Tryz.prog [("errors.errorType", Rows.laid_errors_errorType)] w) ∧ sizedMet enc Tryz.prog Tryz.f6 (OpenSpec.ofChange Rows.fnExactPackSpec) false w args)
   (Rows.fnExactPackSpec.post enc Tryz.prog Tryz.f6 false true false false) := by
 refine returnsInHanded_of_change_and (C := Tryz.checked) (X := fun w _ => laidMetH Tryz.prog [("errors.errorType", Rows.laid_errors_errorType)] w) (fun _ _ _ hh h => h.of_heap hh) Tryz.own started (by kernel_rfl) Tryz.func6
  (ChangeSpec.witness_at (enc := enc) (C := Tryz.checked) (os := os) (X := fun w _ => laidMetH Tryz.prog [("errors.errorType", Rows.laid_errors_errorType)] w) false (laidWorld os) #[sysV none 0 0 none 0 0 none 0 0 none 0 0] 8 rfl (by kernel_rfl) (by kernel_rfl) (by kernel_rfl) (by kernel_rfl) (by kernel_rfl) (laidWorld_met os _)) ?_
 intro W base args ds gs before hval0 hW _ _ hL _
 have hval : ∀ (j : Nat) t v, Tryz.f6.params[j]? = some t → args[j]? = some v → Value.okWide Tryz.prog W .any base t v := hval0
 have hW' := hW
 obtain ⟨p, q, hA0, hV, rfl, hfz, hnd⟩ := hW
 have hA : DataW.TrodAll enc Tryz.prog W 0 (fun _ => true) true Tryz.f6.params.toList args.toList ds p := hA0
 rw [Tryz.params6] at hA hval
 obtain ⟨v0, d0, rfl, rfl, h0⟩ := trodAll_one hA
 obtain ⟨rfl, rfl⟩ := trodVars_none hV
 have lt0 : ∀ x ∈ p, x.block < W.heap.size := by obtain ⟨m, hm⟩ := h0; exact DataW.trod_lt m _ _ _ hm
 have hg := handle_of_laid hL
 clear hA0 hval0
 have hlaw : Calls Tryz.prog 6 #[v0] W fun e w' => e = .returned (.bool true) ∧ Below W.heap.size W w' := by
  obtain ⟨x, e, hr, hm, hy⟩ := open_sys (hval 0 53 v0 rfl rfl) h0
  by_cases hs : x.size ≤ 1048576
  ·obtain ⟨y, ey, hok, hys⟩ := hy hs
   rw [ey]
   exact packLaw_small y W hys hok hg
  ·rw [e]
   exact packLaw_great x W hr hm (by omega)
 refine hlaw.mono fun e W' ⟨he, bel⟩ => ?_
 subst he
 exact ⟨_, rfl, _, _, _, [], _, [], hW', trodAll_mk1 (shut_bool Tryz.underlying4 _), trodAll_mk1 (Below.trod Tryz.laidOut (by kernel_rfl) (of_decide_eq_true (by kernel_rfl)) h0 bel lt0), rfl, bel.frame _, fun h => by cases h⟩
theorem packSaid : Rows.FnExactPackSaid :=
 OpenClaim.holds_of_wide 6 Tryz.f6 rfl rfl rfl rfl rfl rfl rfl ⟨rfl, rfl, rfl, rfl, rfl⟩ rfl rfl rfl rfl rfl (by kernel_rfl) Tryz.func6 (by kernel_rfl)
  (of_decide_eq_true (by kernel_rfl)) (by unfold Func.isWrapper; first | (rw [if_pos (by decide +kernel)]; kernel_rfl) | (rw [if_neg (by decide +kernel)]; exact ⟨rfl, rfl⟩))
  (fun os started H enc _ => packLifted os started H enc)
theorem packPlain (f : FuncId) (fn : Func) (hf : Tryz.pinned.checked.prog.funcNamed "loop.example/g00196/laws.FnExactPack" = some f) (hfn : Tryz.pinned.checked.prog.funcs[f]? = some fn) :
  true = Tryz.pinned.checked.prog.looks [] ∧ ∀ (j : Nat) t, fn.params[j]? = some t → Tryz.pinned.checked.prog.wantsStandIn t = false := by
 obtain rfl : f = 6 := Option.some.inj ((show Tryz.prog.funcNamed "loop.example/g00196/laws.FnExactPack" = some 6 by kernel_rfl).symm.trans hf) |>.symm
 obtain rfl : fn = Tryz.f6 := (Option.some.inj (Tryz.func6.symm.trans hfn)).symm
 refine ⟨by kernel_rfl, fun j t ht => ?_⟩
 rw [Tryz.params6] at ht
 have hm := Array.mem_of_getElem? ht
 simp at hm
 obtain rfl := hm
 exact (show Tryz.prog.wantsStandIn 53 = false by kernel_rfl)
theorem pack_card : Rows.FnExactPackCardSaid :=
 Claim7.holds_tied_plain_at .later [] _ _ _ _ packSaid (fun _ h => by cases h) (by kernel_rfl) (fun _ h => by cases h) fnExactPack_row_tie rfl ⟨rfl, rfl⟩ (by kernel_rfl) rfl packPlain (by kernel_rfl)
end Go.Proofs.YtnfdnnmddadmkaaGreatDoor
