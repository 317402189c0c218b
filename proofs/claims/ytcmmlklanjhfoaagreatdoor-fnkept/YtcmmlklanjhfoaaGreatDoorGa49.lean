/- The program's KeepAll. -/
import Derived.Test.YtcmmlklanjhfoaaGreatDoorGa47
import Derived.Test.YtcmmlklanjhfoaaGreatDoorGa48
namespace Go.Proofs.YtcmmlklanjhfoaaGreatDoor
open Go.ChangeShapes Go.WideShapes Go.ChangeAt Go.RowKit Go.Deep Go.Maps

/-- What the program's KeepAll answers. -/
def KiR (w : World) (g : Nat → I5) (n : Nat) (eh : Nat → E3) (m : Nat) (e : Ending) (w' : World) : Prop := ∃ D cap vs, e = .returned (.slice (some ⟨D, 0, none⟩) (kaN g n eh m) cap) ∧ OKB w' (fun k => w.heap.size ≤ k) D (kaN g n eh m) (fun i => ((8 * i : Nat) : Int)) vs (kaS g n eh) ∧ Below w.heap.size w w'

theorem storeOf_anyA (gb n gc : Nat) (ea : Option Addr) (m ec : Nat) (g : Nat → I5) (eh : Nat → E3) (w : World) (hn : n ≤ maxLen) (hg : gb < w.heap.size) (hI : InsAt w gb 0 n g) (hE : EvL w ea m eh) (hm : m ≤ 1048576) :
    Calls Tryz.prog 18 #[.slice (some ⟨gb, 0, none⟩) n gc, .slice ea m ec] w (StoRA w g n eh m) := by
  rcases Bool.eq_false_or_eq_true (progOkB g n 4) with h | h
  · exact storeOf_yesA gb n gc ea m ec g eh w hn hg hI h hE hm
  · refine (storeOf_no gb n gc ea m ec g eh w hn hg hI h).mono ?_
    rintro e w1 ⟨b1, h1 | ⟨h1, -⟩⟩
    · exact ⟨b1, .inl h1⟩
    · unfold repO at h1
      rw [if_neg (by rw [h]; simp)] at h1
      cases h1

set_option maxRecDepth 100000 in
set_option maxHeartbeats 2000000 in
theorem implKeepAll_any (gb n gc : Nat) (ea : Option Addr) (m ec : Nat) (g : Nat → I5) (eh : Nat → E3) (w : World) (hn : n ≤ maxLen) (hg : gb < w.heap.size) (hI : InsAt w gb 0 n g) (hE : EvL w ea m eh) (hm : m ≤ 1048576) :
    Calls Tryz.prog 7 #[.slice (some ⟨gb, 0, none⟩) n gc, .slice ea m ec] w (KiR w g n eh m) := by
  have HC := storeOf_anyA gb n gc ea m ec g eh w hn hg hI hE hm
  clear hI hE hn hg
  go_enter Tryz.func7, Tryz.ntmps7
  go_wp2_with fail
  refine HC.mono ?_
  clear HC
  rintro e w1 ⟨b1, ⟨hs, rfl⟩ | ⟨hs, b, T, V, D, rfl, hwb, hTw, st⟩⟩
  · have HN : Hid (kaN g n eh m = 0) := by
      show kaN g n eh m = 0
      unfold kaN
      rw [hs]
      rfl
    have B1 : Hid (Below w.heap.size w w1) := b1
    clear b1 hs
    go_wp2
    go_ret
    unfold KiR
    rw [HN.out]
    have bs := B1.out.size
    obtain ⟨D, e, o⟩ := (LK.made w1 (fun k => w.heap.size ≤ k) bs (fun i => ((8 * i : Nat) : Int)) (fun _ => .int .i64 0) (kaS g n eh)).okb (fun h => by cases h)
    cases e
    exact ⟨w1.heap.size, 0, _, rfl, o, B1.out.trans ((below_alloc _ _).mono bs)⟩
  have HM : Hid (m ≤ 200 ∧ progOkB g n 4 = true) := by
    show m ≤ 200 ∧ progOkB g n 4 = true
    unfold repO at hs
    by_cases h : progOkB g n 4 = true ∧ m ≤ 200
    · exact ⟨h.2, h.1⟩
    · rw [if_neg h] at hs
      cases hs
  have HN : Hid (kaN g n eh m = m / 8 + 1) := by
    show kaN g n eh m = m / 8 + 1
    unfold kaN
    rw [hs]
    rfl
  have B1 : Hid (Below w.heap.size w w1 ∧ w.heap.size ≤ b ∧ T ≤ w1.heap.size ∧ StA w1 b T m g n eh V D) := ⟨b1, hwb, hTw, st⟩
  clear b1 hs hwb hTw st
  go_wp2_with fail
  refine (thin_any b T m n g eh V D w1 B1.out.2.2.2.toSto).mono ?_
  rintro e w2 ⟨rfl, ⟨D2, hP⟩, g2⟩
  have HP : Hid (StoP w2 b T m g n eh V D2 (fun j => decide (j % 8 = 0)) ∧ T ≤ w2.heap.size ∧ Below w.heap.size w w2) := by
    refine ⟨hP, Nat.le_trans B1.out.2.2.1 g2.size, B1.out.1.trans ⟨g2.os, g2.tape, g2.output, g2.size, fun x hx => g2.block x (Nat.lt_of_lt_of_le hx B1.out.1.size) fun e => ?_⟩⟩
    injection e with e
    have := B1.out.2.1
    omega
  clear hP g2
  go_wp2_with fail
  refine (told_any sortC_holds b T m n g eh V D2 w2 HP.out.1 B1.out.2.2.2.ap HP.out.2.1 HM.out.1).mono ?_
  rintro e w3 ⟨D3, cap, r, rfl, o, b3⟩
  have HF : Hid (KiR w g n eh m (.returned (.slice (some ⟨D3, 0, none⟩) (m / 8 + 1) cap)) w3) := by
    show KiR w g n eh m (.returned (.slice (some ⟨D3, 0, none⟩) (m / 8 + 1) cap)) w3
    unfold KiR
    rw [HN.out]
    refine ⟨D3, cap, _, rfl, (o.mono fun k hk _ => ?_).cast fun i hi => ⟨rfl, ?_⟩, HP.out.2.2.trans (b3.mono HP.out.2.2.size)⟩
    · have h1 := B1.out.2.1
      have h2 := HP.out.1.bT
      have h3 := hk.1
      omega
    · unfold sAt kaS repO
      rw [if_pos ⟨HM.out.2, by have := HM.out.1; omega⟩]
  clear o b3
  go_wp2
  go_ret
  exact HF.out

end Go.Proofs.YtcmmlklanjhfoaaGreatDoor
