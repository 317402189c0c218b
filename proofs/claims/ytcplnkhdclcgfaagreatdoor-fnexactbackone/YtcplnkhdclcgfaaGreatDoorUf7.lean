import Derived.Test.YtcplnkhdclcgfaaGreatDoorUf0
import Derived.Test.YtcplnkhdclcgfaaGreatDoorUf2
import Derived.Test.YtcplnkhdclcgfaaGreatDoorUf3
import Derived.Test.YtcplnkhdclcgfaaGreatDoorUf4
import Derived.Test.YtcplnkhdclcgfaaGreatDoorUf5
import Derived.Test.YtcplnkhdclcgfaaGreatDoorUf6
import Derived.Maps.AppendAt
import Derived.Test.YtcplnkhdclcgfaaGreatDoorRows
import Derived.WalkKit
import Derived.WalkSpells
import Derived.WalkLawsBesides
import Derived.Handy
import Derived.Deep.QuietTactic
import Derived.BigQuiet
namespace Go.Proofs.YtcplnkhdclcgfaaGreatDoor
set_option maxRecDepth 100000
set_option maxHeartbeats 1000000
open Go.RowKit
def opOkB (op r a b n places procs:Int):Bool:=
 if op=1 then inB n (-1000000000) 1000000000 && a == 0 && b == 0
 else if op=2 then n == 0
 else if op=3 then n == 0
 else if op=4 then n == 0
 else if op=5 then n == 0
 else if op=6 then inB n 0 (procs - 1) && r == 0 && b == 0
 else if op=7 then (inB n 0 (procs - 1) || n == 9) && a == 0 && b == 0
 else if op=8 then r == 0 && b == 0 && n == 0
 else if op=9 then belB n places && r == 0 && a == 0 && b == 0
 else if op=10 then belB n places && r == 0 && b == 0
 else if op=11 then r == 0 && a == 0 && b == 0 && n == 0
 else false
def insOkB (op r a b n places procs:Int):Bool:=(inB r 0 3 && inB a 0 3 && inB b 0 3 && inB procs 1 4) && opOkB op r a b n places procs
theorem opCases (op:Int):(op<1\/11<op)\/op=1\/op=2\/op=3\/op=4\/op=5\/op=6\/op=7\/op=8\/op=9\/op=10\/op=11:=by omega
theorem opOkB_none (op r a b n places procs:Int) (h:op<1\/11<op):opOkB op r a b n places procs=false:=by
 unfold opOkB
 rw [if_neg (by omega),if_neg (by omega),if_neg (by omega),if_neg (by omega),if_neg (by omega),if_neg (by omega),if_neg (by omega),if_neg (by omega),if_neg (by omega),if_neg (by omega),if_neg (by omega)]
theorem specInsOk_any (op r a b n places procs:Int) (w:World):
  Calls Tryz.prog 191 #[insV op r a b n,.int .i64 places,.int .i64 procs] w fun e w'=>e=.returned (.bool (insOkB op r a b n places procs))/\Below w.heap.size w w':=by
 rcases zK (inB r 0 3 && inB a 0 3 && inB b 0 3 && inB procs 1 4) with h | h
 ·have hh:=h
  simp only [Bool.and_eq_true] at hh
  obtain ⟨⟨⟨h1,h2⟩,h3⟩,h4⟩:=hh
  have h5:1<=procs:=by simp [inB] at h4;omega
  have h6:procs<=4:=by simp [inB] at h4;omega
  have hv:insOkB op r a b n places procs=opOkB op r a b n places procs:=by unfold insOkB;rw [h];rfl
  rw [hv]
  rcases opCases op with g | rfl | rfl | rfl | rfl | rfl | rfl | rfl | rfl | rfl | rfl | rfl
  ·rw [opOkB_none _ _ _ _ _ _ _ g];exact specInsOk_none op r a b n places procs w h1 h2 h3 h4 h5 h6 g
  ·exact specInsOk_1 r a b n places procs w h1 h2 h3 h4 h5 h6
  ·exact specInsOk_2 r a b n places procs w h1 h2 h3 h4 h5 h6
  ·exact specInsOk_3 r a b n places procs w h1 h2 h3 h4 h5 h6
  ·exact specInsOk_4 r a b n places procs w h1 h2 h3 h4 h5 h6
  ·exact specInsOk_5 r a b n places procs w h1 h2 h3 h4 h5 h6
  ·exact specInsOk_6 r a b n places procs w h1 h2 h3 h4 h5 h6
  ·exact specInsOk_7 r a b n places procs w h1 h2 h3 h4 h5 h6
  ·exact specInsOk_8 r a b n places procs w h1 h2 h3 h4 h5 h6
  ·exact specInsOk_9 r a b n places procs w h1 h2 h3 h4 h5 h6
  ·exact specInsOk_10 r a b n places procs w h1 h2 h3 h4 h5 h6
  ·exact specInsOk_11 r a b n places procs w h1 h2 h3 h4 h5 h6
 ·have hv:insOkB op r a b n places procs=false:=by unfold insOkB;rw [h];rfl
  rw [hv]
  exact specInsOk_out op r a b n places procs w h
theorem implInsOk_out (op r a b n places procs:Int) (w:World) (h:procs<1\/4<procs):
  Calls Tryz.prog 198 #[insV op r a b n,.int .i64 places,.int .i64 procs] w fun e w'=>e=.returned (.bool false)/\Below w.heap.size w w':=by
 rcases h with h | h
 ·go_enter Tryz.func198,Tryz.ntmps198
  go_wp2
  go_ret
  exact ⟨rfl,by go_grown⟩
 ·have h':¬ procs<1:=by omega
  go_enter Tryz.func198,Tryz.ntmps198
  go_wp2
  go_ret
  exact ⟨rfl,by go_grown⟩
theorem implInsOk_none (op r a b n places procs:Int) (w:World) (h5:1<=procs) (h6:procs<=4) (h:op<1\/11<op):
  Calls Tryz.prog 198 #[insV op r a b n,.int .i64 places,.int .i64 procs] w fun e w'=>e=.returned (.bool false)/\Below w.heap.size w w':=by
 go_enter Tryz.func198,Tryz.ntmps198
 go_wp2_with (go_at_call 180;refine (placeOf_none _ _ _ _ _ _ h).mono ?_;rintro e w1 ⟨rfl,hb1⟩)
 first|(go_region_with (fail)) | fail
 all_goals
  go_wp2
  go_ret
  exact ⟨rfl,implIns_below1 hb1⟩
theorem implInsOk_any (op r a b n places procs:Int) (w:World):
  Calls Tryz.prog 198 #[insV op r a b n,.int .i64 places,.int .i64 procs] w fun e w'=>e=.returned (.bool (insOkB op r a b n places procs))/\Below w.heap.size w w':=by
 by_cases hp:procs<1\/4<procs
 ·have hv:insOkB op r a b n places procs=false:=by simp [insOkB,inB];omega
  rw [hv]
  exact implInsOk_out op r a b n places procs w hp
 ·have h5:1<=procs:=by omega
  have h6:procs<=4:=by omega
  rcases opCases op with g | rfl | rfl | rfl | rfl | rfl | rfl | rfl | rfl | rfl | rfl | rfl
  ·have hv:insOkB op r a b n places procs=false:=by unfold insOkB;rw [opOkB_none _ _ _ _ _ _ _ g];simp
   rw [hv]
   exact implInsOk_none op r a b n places procs w h5 h6 g
  ·by_cases g0:a=0
   case neg=>
    have hv:insOkB 1 r a b n places procs=false:=by simp [insOkB,opOkB,g0]
    rw [hv]
    exact implInsOk_set_ne r a b n places procs w h5 h6 (by simp [insEqB];omega)
   subst g0
   by_cases g1:b=0
   case neg=>
    have hv:insOkB 1 r 0 b n places procs=false:=by simp [insOkB,opOkB,g1]
    rw [hv]
    exact implInsOk_set_ne r 0 b n places procs w h5 h6 (by simp [insEqB];omega)
   subst g1
   refine (implInsOk_set_eq r n places procs w h5 h6).mono ?_
   rintro e w1 ⟨rfl,hb⟩
   refine ⟨ret_bool ?_,hb⟩
   rw [Bool.eq_iff_iff]
   simp [insOkB,opOkB,inB,belB] <;> omega
  ·by_cases g0:n=0
   case neg=>
    have hv:insOkB 2 r a b n places procs=false:=by simp [insOkB,opOkB,g0]
    rw [hv]
    exact implInsOk_calc_ne 2 r a b n places procs w h5 h6 (by omega) (by omega) (by simp [insEqB];omega)
   subst g0
   refine (implInsOk_calc_eq 2 r a b places procs w h5 h6 (by omega) (by omega)).mono ?_
   rintro e w1 ⟨rfl,hb⟩
   refine ⟨ret_bool ?_,hb⟩
   rw [Bool.eq_iff_iff]
   simp [insOkB,opOkB,inB,belB] <;> omega
  ·by_cases g0:n=0
   case neg=>
    have hv:insOkB 3 r a b n places procs=false:=by simp [insOkB,opOkB,g0]
    rw [hv]
    exact implInsOk_calc_ne 3 r a b n places procs w h5 h6 (by omega) (by omega) (by simp [insEqB];omega)
   subst g0
   refine (implInsOk_calc_eq 3 r a b places procs w h5 h6 (by omega) (by omega)).mono ?_
   rintro e w1 ⟨rfl,hb⟩
   refine ⟨ret_bool ?_,hb⟩
   rw [Bool.eq_iff_iff]
   simp [insOkB,opOkB,inB,belB] <;> omega
  ·by_cases g0:n=0
   case neg=>
    have hv:insOkB 4 r a b n places procs=false:=by simp [insOkB,opOkB,g0]
    rw [hv]
    exact implInsOk_calc_ne 4 r a b n places procs w h5 h6 (by omega) (by omega) (by simp [insEqB];omega)
   subst g0
   refine (implInsOk_calc_eq 4 r a b places procs w h5 h6 (by omega) (by omega)).mono ?_
   rintro e w1 ⟨rfl,hb⟩
   refine ⟨ret_bool ?_,hb⟩
   rw [Bool.eq_iff_iff]
   simp [insOkB,opOkB,inB,belB] <;> omega
  ·by_cases g0:n=0
   case neg=>
    have hv:insOkB 5 r a b n places procs=false:=by simp [insOkB,opOkB,g0]
    rw [hv]
    exact implInsOk_calc_ne 5 r a b n places procs w h5 h6 (by omega) (by omega) (by simp [insEqB];omega)
   subst g0
   refine (implInsOk_calc_eq 5 r a b places procs w h5 h6 (by omega) (by omega)).mono ?_
   rintro e w1 ⟨rfl,hb⟩
   refine ⟨ret_bool ?_,hb⟩
   rw [Bool.eq_iff_iff]
   simp [insOkB,opOkB,inB,belB] <;> omega
  ·by_cases g0:r=0
   case neg=>
    have hv:insOkB 6 r a b n places procs=false:=by simp [insOkB,opOkB,g0]
    rw [hv]
    exact implInsOk_send_ne r a b n places procs w h5 h6 (by simp [insEqB];omega)
   subst g0
   by_cases g1:b=0
   case neg=>
    have hv:insOkB 6 0 a b n places procs=false:=by simp [insOkB,opOkB,g1]
    rw [hv]
    exact implInsOk_send_ne 0 a b n places procs w h5 h6 (by simp [insEqB];omega)
   subst g1
   refine (implInsOk_send_eq a n places procs w h5 h6).mono ?_
   rintro e w1 ⟨rfl,hb⟩
   refine ⟨ret_bool ?_,hb⟩
   rw [Bool.eq_iff_iff]
   simp [insOkB,opOkB,inB,belB] <;> omega
  ·by_cases g0:a=0
   case neg=>
    have hv:insOkB 7 r a b n places procs=false:=by simp [insOkB,opOkB,g0]
    rw [hv]
    exact implInsOk_take_ne r a b n places procs w h5 h6 (by simp [insEqB];omega)
   subst g0
   by_cases g1:b=0
   case neg=>
    have hv:insOkB 7 r 0 b n places procs=false:=by simp [insOkB,opOkB,g1]
    rw [hv]
    exact implInsOk_take_ne r 0 b n places procs w h5 h6 (by simp [insEqB];omega)
   subst g1
   refine (implInsOk_take_eq r n places procs w h5 h6).mono ?_
   rintro e w1 ⟨rfl,hb⟩
   refine ⟨ret_bool ?_,hb⟩
   rw [Bool.eq_iff_iff]
   simp [insOkB,opOkB,inB,belB] <;> omega
  ·by_cases g0:r=0
   case neg=>
    have hv:insOkB 8 r a b n places procs=false:=by simp [insOkB,opOkB,g0]
    rw [hv]
    exact implInsOk_print_ne r a b n places procs w h5 h6 (by simp [insEqB];omega)
   subst g0
   by_cases g1:b=0
   case neg=>
    have hv:insOkB 8 0 a b n places procs=false:=by simp [insOkB,opOkB,g1]
    rw [hv]
    exact implInsOk_print_ne 0 a b n places procs w h5 h6 (by simp [insEqB];omega)
   subst g1
   by_cases g2:n=0
   case neg=>
    have hv:insOkB 8 0 a 0 n places procs=false:=by simp [insOkB,opOkB,g2]
    rw [hv]
    exact implInsOk_print_ne 0 a 0 n places procs w h5 h6 (by simp [insEqB];omega)
   subst g2
   refine (implInsOk_print_eq a places procs w h5 h6).mono ?_
   rintro e w1 ⟨rfl,hb⟩
   refine ⟨ret_bool ?_,hb⟩
   rw [Bool.eq_iff_iff]
   simp [insOkB,opOkB,inB,belB] <;> omega
  ·by_cases g0:r=0
   case neg=>
    have hv:insOkB 9 r a b n places procs=false:=by simp [insOkB,opOkB,g0]
    rw [hv]
    exact implInsOk_jump_ne r a b n places procs w h5 h6 (by simp [insEqB];omega)
   subst g0
   by_cases g1:a=0
   case neg=>
    have hv:insOkB 9 0 a b n places procs=false:=by simp [insOkB,opOkB,g1]
    rw [hv]
    exact implInsOk_jump_ne 0 a b n places procs w h5 h6 (by simp [insEqB];omega)
   subst g1
   by_cases g2:b=0
   case neg=>
    have hv:insOkB 9 0 0 b n places procs=false:=by simp [insOkB,opOkB,g2]
    rw [hv]
    exact implInsOk_jump_ne 0 0 b n places procs w h5 h6 (by simp [insEqB];omega)
   subst g2
   refine (implInsOk_jump_eq n places procs w h5 h6).mono ?_
   rintro e w1 ⟨rfl,hb⟩
   refine ⟨ret_bool ?_,hb⟩
   rw [Bool.eq_iff_iff]
   simp [insOkB,opOkB,inB,belB] <;> omega
  ·by_cases g0:r=0
   case neg=>
    have hv:insOkB 10 r a b n places procs=false:=by simp [insOkB,opOkB,g0]
    rw [hv]
    exact implInsOk_zero_ne r a b n places procs w h5 h6 (by simp [insEqB];omega)
   subst g0
   by_cases g1:b=0
   case neg=>
    have hv:insOkB 10 0 a b n places procs=false:=by simp [insOkB,opOkB,g1]
    rw [hv]
    exact implInsOk_zero_ne 0 a b n places procs w h5 h6 (by simp [insEqB];omega)
   subst g1
   refine (implInsOk_zero_eq a n places procs w h5 h6).mono ?_
   rintro e w1 ⟨rfl,hb⟩
   refine ⟨ret_bool ?_,hb⟩
   rw [Bool.eq_iff_iff]
   simp [insOkB,opOkB,inB,belB] <;> omega
  ·by_cases g0:r=0
   case neg=>
    have hv:insOkB 11 r a b n places procs=false:=by simp [insOkB,opOkB,g0]
    rw [hv]
    exact implInsOk_end_ne r a b n places procs w h5 h6 (by simp [insEqB];omega)
   subst g0
   by_cases g1:a=0
   case neg=>
    have hv:insOkB 11 0 a b n places procs=false:=by simp [insOkB,opOkB,g1]
    rw [hv]
    exact implInsOk_end_ne 0 a b n places procs w h5 h6 (by simp [insEqB];omega)
   subst g1
   by_cases g2:b=0
   case neg=>
    have hv:insOkB 11 0 0 b n places procs=false:=by simp [insOkB,opOkB,g2]
    rw [hv]
    exact implInsOk_end_ne 0 0 b n places procs w h5 h6 (by simp [insEqB];omega)
   subst g2
   by_cases g3:n=0
   case neg=>
    have hv:insOkB 11 0 0 0 n places procs=false:=by simp [insOkB,opOkB,g3]
    rw [hv]
    exact implInsOk_end_ne 0 0 0 n places procs w h5 h6 (by simp [insEqB];omega)
   subst g3
   refine (implInsOk_end_eq places procs w h5 h6).mono ?_
   rintro e w1 ⟨rfl,hb⟩
   refine ⟨ret_bool ?_,hb⟩
   rw [Bool.eq_iff_iff]
   simp [insOkB,opOkB,inB] <;> omega
structure I5 where
 o:Int
 r:Int
 a:Int
 b:Int
 n:Int
def InsAt (w:World) (b off len:Nat) (g:Nat->I5):Prop:=∀ i,i<len->
 w.cell? ⟨b,off+i*5,none⟩=some (.int .i64 (g i).o)/\w.cell? ⟨b,off+i*5+1,none⟩=some (.int .i64 (g i).r)/\w.cell? ⟨b,off+i*5+2,none⟩=some (.int .i64 (g i).a)/\w.cell? ⟨b,off+i*5+3,none⟩=some (.int .i64 (g i).b)/\w.cell? ⟨b,off+i*5+4,none⟩=some (.int .i64 (g i).n)
theorem InsAt.below {w w':World} {B b off len:Nat} {g:Nat->I5} (h:InsAt w b off len g) (hb:Below B w w') (hB:b<B):InsAt w' b off len g:=by
 intro i hi
 obtain ⟨h0,h1,h2,h3,h4⟩:=h i hi
 exact ⟨(hb.cell hB).trans h0,(hb.cell hB).trans h1,(hb.cell hB).trans h2,(hb.cell hB).trans h3,(hb.cell hB).trans h4⟩
def okAt (g:Nat->I5) (len procs:Int) (i:Nat):Bool:=insOkB (g i).o (g i).r (g i).a (g i).b (g i).n len procs
def allOk (g:Nat->I5) (len procs:Int) (k:Nat):Bool:=(List.range k).all (okAt g len procs)
def progOkB (g:Nat->I5) (len:Nat) (procs:Int):Bool:=allOk g len procs len && (inB len 1 30 && inB procs 1 4)
theorem allOk_succ (g:Nat->I5) (len procs:Int) (k:Nat):allOk g len procs (k+1)=(allOk g len procs k && okAt g len procs k):=by
 simp [allOk,List.range_succ]
theorem allOk_false (g:Nat->I5) (len procs:Int) {k m:Nat} (hk:k<m) (h:okAt g len procs k=false):allOk g len procs m=false:=by
 rw [allOk,List.all_eq_false]
 exact ⟨k,List.mem_range.2 hk,by simp [h]⟩
theorem specProgOk_any (b off len cap:Nat) (g:Nat->I5) (procs:Int) (w:World) (hlen:len<=maxLen) (hb:b<w.heap.size) (hc:InsAt w b off len g):
  Calls Tryz.prog 112 #[.slice (some ⟨b,off,none⟩) len cap,.int .i64 procs] w fun e w'=>e=.returned (.bool (progOkB g len procs))/\Below w.heap.size w w':=by
 unfold maxLen at hlen
 have HC:Hid (InsAt w b off len g):=hc
 clear hc
 go_enter Tryz.func112,Tryz.ntmps112
 go_wp2_with fail
 go_loopw [5] (fun i wr=>∃ k:Nat,k<=len/\i=.int .i64 k/\Hid (allOk g len procs k=true)/\Below w.heap.size w wr) (fun i _=>len - (intOf i).toNat)
 case atStart=>exact ⟨0,Nat.zero_le _,rfl,rfl,Below.refl _ _⟩
 case round=>
  obtain ⟨k,hk,rfl,HA,hbw⟩:=hrel
  by_cases hlt:k<len
  ·obtain ⟨c0,c1,c2,c3,c4⟩:=HC.out.below hbw hb k hlt
   rcases zK (okAt g len procs k) with ho | ho
   ·have HO:Hid (okAt g len procs k=true):=ho
    have ho':insOkB (g k).o (g k).r (g k).a (g k).b (g k).n len procs=true:=ho
    clear ho
    go_wp2_with (go_at_call 191;refine (specInsOk_any _ _ _ _ _ _ _ _).mono ?_;rintro e w1 ⟨rfl,hb1⟩)
    go_roundw
    case rel=>exact ⟨k+1,by omega,by go_num,by rw [Hid,allOk_succ,HA.out,HO.out];rfl,hbw.trans (hb1.mono hbw.size)⟩
    case measure=>simp [intOf];omega
   ·have HO:Hid (okAt g len procs k=false):=ho
    have ho':insOkB (g k).o (g k).r (g k).a (g k).b (g k).n len procs=false:=ho
    clear ho
    go_wp2_with (go_at_call 191;refine (specInsOk_any _ _ _ _ _ _ _ _).mono ?_;rintro e w1 ⟨rfl,hb1⟩)
    go_ret
    exact ⟨ret_bool (by rw [progOkB,allOk_false g len procs hlt HO.out];rfl),hbw.trans (hb1.mono hbw.size)⟩
  ·have hkl:k=len:=by omega
   have HP:Hid (progOkB g len procs=(inB len 1 30 && inB procs 1 4)):=by
    have hA:=HA.out
    rw [hkl] at hA
    rw [Hid,progOkB,hA];rfl
   clear HA hkl
   rcases zK (inB len 1 30) with t0 | t0
   all_goals
    go_wp2_with (go_at_call 83;refine (l1In_any _ _ _ _).mono ?_;rintro e w' ⟨rfl,rfl⟩)
    go_ret
    exact ⟨ret_bool (by rw [HP.out,t0] <;> rfl),hbw⟩
theorem implProgOk_any (b off len cap:Nat) (g:Nat->I5) (procs:Int) (w:World) (hlen:len<=maxLen) (hb:b<w.heap.size) (hc:InsAt w b off len g):
  Calls Tryz.prog 123 #[.slice (some ⟨b,off,none⟩) len cap,.int .i64 procs] w fun e w'=>e=.returned (.bool (progOkB g len procs))/\Below w.heap.size w w':=by
 unfold maxLen at hlen
 have HC:Hid (InsAt w b off len g):=hc
 clear hc
 by_cases hr:1<=len/\len<=30
 case neg=>
  have hv:progOkB g len procs=false:=by
   rw [progOkB,show inB len 1 30=false from by simp [inB];omega];simp
  rw [hv]
  clear hv
  by_cases h1:len<1
  ·have h1':(len:Int)<1:=by omega
   go_enter Tryz.func123,Tryz.ntmps123
   go_wp2
   go_ret
   exact ⟨rfl,Below.refl _ _⟩
  ·have h1':¬ (len:Int)<1:=by omega
   have h2':(30:Int)<len:=by omega
   go_enter Tryz.func123,Tryz.ntmps123
   go_wp2
   go_ret
   exact ⟨rfl,Below.refl _ _⟩
 case pos=>
 obtain ⟨r1,r2⟩:=hr
 have h1':¬ (len:Int)<1:=by omega
 have h2':¬ (30:Int)<len:=by omega
 go_enter Tryz.func123,Tryz.ntmps123
 go_wp2_with fail
 go_loopw [17] (fun i wr=>∃ k:Nat,k<=len/\i=.int .i64 k/\Hid (allOk g len procs k=true)/\Below w.heap.size w wr) (fun i _=>len - (intOf i).toNat)
 case atStart=>exact ⟨0,Nat.zero_le _,rfl,rfl,Below.refl _ _⟩
 case round=>
  obtain ⟨k,hk,rfl,HA,hbw⟩:=hrel
  have hs:=hbw.size
  by_cases hlt:k<len
  ·obtain ⟨c0,c1,c2,c3,c4⟩:=HC.out.below hbw hb k hlt
   rcases zK (okAt g len procs k) with ho | ho
   ·have HO:Hid (okAt g len procs k=true):=ho
    have ho':insOkB (g k).o (g k).r (g k).a (g k).b (g k).n len procs=true:=ho
    clear ho
    go_wp2_with (go_at_call 198;refine (implInsOk_any _ _ _ _ _ _ _ _).mono ?_;rintro e w1 ⟨rfl,hb1⟩)
    go_roundw
    case rel=>exact ⟨k+1,by omega,by go_num,by rw [Hid,allOk_succ,HA.out,HO.out];rfl,(hbw.alloc hs _).trans (hb1.mono (by simp;omega))⟩
    case measure=>simp [intOf];omega
   ·have HO:Hid (okAt g len procs k=false):=ho
    have ho':insOkB (g k).o (g k).r (g k).a (g k).b (g k).n len procs=false:=ho
    clear ho
    go_wp2_with (go_at_call 198;refine (implInsOk_any _ _ _ _ _ _ _ _).mono ?_;rintro e w1 ⟨rfl,hb1⟩)
    go_ret
    exact ⟨ret_bool (by rw [progOkB,allOk_false g len procs hlt HO.out];rfl),(hbw.alloc hs _).trans (hb1.mono (by simp;omega))⟩
  ·have hkl:k=len:=by omega
   have h30:inB len 1 30=true:=by simp [inB];omega
   have HP:Hid (progOkB g len procs=true):=by
    have hA:=HA.out
    rw [hkl] at hA
    have hp:inB procs 1 4=true:=by
     have h0:okAt g len procs 0=true:=by
      have:=(List.all_eq_true.1 (show (List.range len).all (okAt g len procs)=true from hA)) 0 (List.mem_range.2 (by omega))
      exact this
     simp only [okAt,insOkB,Bool.and_eq_true] at h0
     exact h0.1.2
    rw [Hid,progOkB,hA,h30,hp];rfl
   clear HA hkl h30
   go_wp2
   go_ret
   exact ⟨ret_bool HP.out.symm,hbw⟩
attribute [local go_sem] as_set_send as_set_take as_set_print as_calc_send as_calc_take as_calc_print as_send_send as_take_send as_take_take as_print_send as_print_take as_print_print as_jump_send as_jump_take as_jump_print as_zero_send as_zero_take as_zero_print as_end_send as_end_take as_end_print
theorem eventOf_send (n a r0 r1 r2 r3:Int) (w:World) (h0:0<=a) (h3:a<=3):
  Calls Tryz.prog 179 #[.iface 250 (sendV n a),regV r0 r1 r2 r3] w fun e w'=>e=.returned (evV 2 n (zi [r0,r1,r2,r3] a.toNat))/\Below w.heap.size w w':=by
 have ha:a=0\/a=1\/a=2\/a=3:=by omega
 clear h0 h3
 rcases ha with rfl | rfl | rfl | rfl
 ·go_enter Tryz.func179,Tryz.ntmps179
  go_wp2_with fail
  go_region
  all_goals
   go_wp2
   refine bodyPost_ret (v:=evV 2 n r0) (by simp [results,Tryz.results179,go_sem]) rfl ⟨rfl,?_⟩
   go_grown
 ·go_enter Tryz.func179,Tryz.ntmps179
  go_wp2_with fail
  go_region
  all_goals
   go_wp2
   refine bodyPost_ret (v:=evV 2 n r1) (by simp [results,Tryz.results179,go_sem]) rfl ⟨rfl,?_⟩
   go_grown
 ·go_enter Tryz.func179,Tryz.ntmps179
  go_wp2_with fail
  go_region
  all_goals
   go_wp2
   refine bodyPost_ret (v:=evV 2 n r2) (by simp [results,Tryz.results179,go_sem]) rfl ⟨rfl,?_⟩
   go_grown
 ·go_enter Tryz.func179,Tryz.ntmps179
  go_wp2_with fail
  go_region
  all_goals
   go_wp2
   refine bodyPost_ret (v:=evV 2 n r3) (by simp [results,Tryz.results179,go_sem]) rfl ⟨rfl,?_⟩
   go_grown
theorem eventOf_take (r n r0 r1 r2 r3:Int) (w:World):
  Calls Tryz.prog 179 #[.iface 252 (takeV r n),regV r0 r1 r2 r3] w fun e w'=>e=.returned (evV 3 n 0)/\Below w.heap.size w w':=by
 go_enter Tryz.func179,Tryz.ntmps179
 go_wp2
 refine bodyPost_ret (v:=evV 3 n 0) (by simp [results,Tryz.results179,go_sem]) rfl ⟨rfl,?_⟩
 go_grown
theorem eventOf_print (a r0 r1 r2 r3:Int) (w:World) (h0:0<=a) (h3:a<=3):
  Calls Tryz.prog 179 #[.iface 254 (printV a),regV r0 r1 r2 r3] w fun e w'=>e=.returned (evV 4 0 (zi [r0,r1,r2,r3] a.toNat))/\Below w.heap.size w w':=by
 have ha:a=0\/a=1\/a=2\/a=3:=by omega
 clear h0 h3
 rcases ha with rfl | rfl | rfl | rfl
 ·go_enter Tryz.func179,Tryz.ntmps179
  go_wp2
  refine bodyPost_ret (v:=evV 4 0 r0) (by simp [results,Tryz.results179,go_sem]) rfl ⟨rfl,?_⟩
  go_grown
 ·go_enter Tryz.func179,Tryz.ntmps179
  go_wp2
  refine bodyPost_ret (v:=evV 4 0 r1) (by simp [results,Tryz.results179,go_sem]) rfl ⟨rfl,?_⟩
  go_grown
 ·go_enter Tryz.func179,Tryz.ntmps179
  go_wp2
  refine bodyPost_ret (v:=evV 4 0 r2) (by simp [results,Tryz.results179,go_sem]) rfl ⟨rfl,?_⟩
  go_grown
 ·go_enter Tryz.func179,Tryz.ntmps179
  go_wp2
  refine bodyPost_ret (v:=evV 4 0 r3) (by simp [results,Tryz.results179,go_sem]) rfl ⟨rfl,?_⟩
  go_grown
theorem eventOf_set (r n r0 r1 r2 r3:Int) (w:World):
  Calls Tryz.prog 179 #[.iface 256 (setV r n),regV r0 r1 r2 r3] w fun e w'=>e=.returned (evV 1 0 0)/\Below w.heap.size w w':=by
 go_enter Tryz.func179,Tryz.ntmps179
 go_wp2
 refine bodyPost_ret (v:=evV 1 0 0) (by simp [results,Tryz.results179,go_sem]) rfl ⟨rfl,?_⟩
 go_grown
theorem eventOf_calc (op r a b r0 r1 r2 r3:Int) (w:World):
  Calls Tryz.prog 179 #[.iface 258 (calcV op r a b),regV r0 r1 r2 r3] w fun e w'=>e=.returned (evV 1 0 0)/\Below w.heap.size w w':=by
 go_enter Tryz.func179,Tryz.ntmps179
 go_wp2
 refine bodyPost_ret (v:=evV 1 0 0) (by simp [results,Tryz.results179,go_sem]) rfl ⟨rfl,?_⟩
 go_grown
theorem eventOf_jump (n r0 r1 r2 r3:Int) (w:World):
  Calls Tryz.prog 179 #[.iface 260 (jumpV n),regV r0 r1 r2 r3] w fun e w'=>e=.returned (evV 1 0 0)/\Below w.heap.size w w':=by
 go_enter Tryz.func179,Tryz.ntmps179
 go_wp2
 refine bodyPost_ret (v:=evV 1 0 0) (by simp [results,Tryz.results179,go_sem]) rfl ⟨rfl,?_⟩
 go_grown
theorem eventOf_zero (a n r0 r1 r2 r3:Int) (w:World):
  Calls Tryz.prog 179 #[.iface 262 (zeroV a n),regV r0 r1 r2 r3] w fun e w'=>e=.returned (evV 1 0 0)/\Below w.heap.size w w':=by
 go_enter Tryz.func179,Tryz.ntmps179
 go_wp2
 refine bodyPost_ret (v:=evV 1 0 0) (by simp [results,Tryz.results179,go_sem]) rfl ⟨rfl,?_⟩
 go_grown
theorem eventOf_end (r0 r1 r2 r3:Int) (w:World):
  Calls Tryz.prog 179 #[.iface 264 endV,regV r0 r1 r2 r3] w fun e w'=>e=.returned (evV 1 0 0)/\Below w.heap.size w w':=by
 go_enter Tryz.func179,Tryz.ntmps179
 go_wp2
 refine bodyPost_ret (v:=evV 1 0 0) (by simp [results,Tryz.results179,go_sem]) rfl ⟨rfl,?_⟩
 go_grown
def evK (o:Int):Int:=if o=6 then 2 else if o=7 then 3 else if o=8 then 4 else 1
def evP (o n:Int):Int:=if o=6 then n else if o=7 then n else 0
def evW (o a:Int) (rs:List Int):Int:=if o=6 then zi rs a.toNat else if o=8 then zi rs a.toNat else 0
def placeV (o r a b n:Int):Value:=
 if o=1 then .iface 256 (setV r n) else if o=6 then .iface 250 (sendV n a) else if o=7 then .iface 252 (takeV r n)
 else if o=8 then .iface 254 (printV a) else if o=9 then .iface 260 (jumpV n) else if o=10 then .iface 262 (zeroV a n)
 else if o=11 then .iface 264 endV else .iface 258 (calcV o r a b)
theorem placeOf_right (o r a b n:Int) (w:World) (h1:1<=o) (h2:o<=11):
  Calls Tryz.prog 180 #[insV o r a b n] w fun e w'=>e=.returned (placeV o r a b n)/\Below w.heap.size w w':=by
 rcases opCases o with g | rfl | rfl | rfl | rfl | rfl | rfl | rfl | rfl | rfl | rfl | rfl
 ·omega
 ·exact placeOf_set r a b n w
 ·exact placeOf_calc2 r a b n w
 ·exact placeOf_calc3 r a b n w
 ·exact placeOf_calc4 r a b n w
 ·exact placeOf_calc5 r a b n w
 ·exact placeOf_send r a b n w
 ·exact placeOf_take r a b n w
 ·exact placeOf_print r a b n w
 ·exact placeOf_jump r a b n w
 ·exact placeOf_zero r a b n w
 ·exact placeOf_end r a b n w
theorem eventOf_right (o r a b n r0 r1 r2 r3:Int) (w:World) (h1:1<=o) (h2:o<=11) (h3:0<=a) (h4:a<=3):
  Calls Tryz.prog 179 #[placeV o r a b n,regV r0 r1 r2 r3] w fun e w'=>e=.returned (evV (evK o) (evP o n) (evW o a [r0,r1,r2,r3]))/\Below w.heap.size w w':=by
 rcases opCases o with g | rfl | rfl | rfl | rfl | rfl | rfl | rfl | rfl | rfl | rfl | rfl
 ·omega
 ·exact eventOf_set r n r0 r1 r2 r3 w
 ·exact eventOf_calc 2 r a b r0 r1 r2 r3 w
 ·exact eventOf_calc 3 r a b r0 r1 r2 r3 w
 ·exact eventOf_calc 4 r a b r0 r1 r2 r3 w
 ·exact eventOf_calc 5 r a b r0 r1 r2 r3 w
 ·exact eventOf_send n a r0 r1 r2 r3 w h3 h4
 ·exact eventOf_take r n r0 r1 r2 r3 w
 ·exact eventOf_print a r0 r1 r2 r3 w h3 h4
 ·exact eventOf_jump n r0 r1 r2 r3 w
 ·exact eventOf_zero a n r0 r1 r2 r3 w
 ·exact eventOf_end r0 r1 r2 r3 w
def rightB (g:Nat->I5) (len:Nat) (p:Int) (rs os:List Int) (code:Int):Bool:=progOkB g len 4 && stOkB len p rs os code && (code == 0)
def nxK (g:Nat->I5) (len:Nat) (p:Int) (rs os:List Int) (code:Int):Int:=if rightB g len p rs os code=true then evK (g p.toNat).o else 0
def nxP (g:Nat->I5) (len:Nat) (p:Int) (rs os:List Int) (code:Int):Int:=if rightB g len p rs os code=true then evP (g p.toNat).o (g p.toNat).n else 0
def nxW (g:Nat->I5) (len:Nat) (p:Int) (rs os:List Int) (code:Int):Int:=if rightB g len p rs os code=true then evW (g p.toNat).o (g p.toNat).a rs else 0
theorem next_wrong {g:Nat->I5} {len:Nat} {p:Int} {rs os:List Int} {code:Int} (h:rightB g len p rs os code=false):evV (nxK g len p rs os code) (nxP g len p rs os code) (nxW g len p rs os code)=evV 0 0 0:=by
 simp [nxK,nxP,nxW,h]
theorem next_right {g:Nat->I5} {len k:Nat} {rs os:List Int} {code:Int} (h:rightB g len (k:Int) rs os code=true):evV (nxK g len k rs os code) (nxP g len k rs os code) (nxW g len k rs os code)=evV (evK (g k).o) (evP (g k).o (g k).n) (evW (g k).o (g k).a rs):=by
 simp [nxK,nxP,nxW,h]
theorem ret_ev {a b:Value} (h:a=b):Ending.returned a=.returned b:=by rw [h]
theorem right_ins {g:Nat->I5} {len:Nat} {procs:Int} (h:progOkB g len procs=true) {k:Nat} (hk:k<len):insOkB (g k).o (g k).r (g k).a (g k).b (g k).n len procs=true:=by
 simp only [progOkB,Bool.and_eq_true] at h
 have h1:=h.1
 rw [allOk,List.all_eq_true] at h1
 exact h1 k (List.mem_range.2 hk)
theorem ins_range {o r a b n places procs:Int} (h:insOkB o r a b n places procs=true):(1<=o/\o<=11)/\(0<=r/\r<=3)/\(0<=a/\a<=3)/\(0<=b/\b<=3):=by
 simp only [insOkB,Bool.and_eq_true] at h
 obtain ⟨⟨⟨⟨h1,h2⟩,h3⟩,_⟩,h5⟩:=h
 simp only [inB,decide_eq_true_eq] at h1 h2 h3
 refine ⟨?_,h1,h2,h3⟩
 apply Classical.byContradiction
 intro hn
 rw [opOkB_none _ _ _ _ _ _ _ (by omega)] at h5
 cases h5
theorem right_parts {g:Nat->I5} {len:Nat} {p:Int} {rs os:List Int} {code:Int} (h:rightB g len p rs os code=true):progOkB g len 4=true/\stOkB len p rs os code=true/\code=0:=by
 simp only [rightB,Bool.and_eq_true,beq_iff_eq] at h
 exact ⟨h.1.1,h.1.2,h.2⟩
theorem st_parts {n:Nat} {p:Int} {rs os:List Int} {code:Int} (h:stOkB n p rs os code=true):(∃ r0 r1 r2 r3,rs=[r0,r1,r2,r3]/\numB r0=true/\numB r1=true/\numB r2=true/\numB r3=true)/\(∃ k:Nat,p=k/\k<n)/\os.length<=60/\allN os=true:=by
 simp only [stOkB,regsB,outB,Bool.and_eq_true,beq_iff_eq,decide_eq_true_eq] at h
 obtain ⟨⟨⟨⟨h4,hr⟩,_⟩,hp⟩,h60,ho⟩:=h
 have h4':rs.length=4:=by omega
 refine ⟨?_,?_,by omega,ho⟩
 ·match rs,h4' with
  | [r0,r1,r2,r3],_=>
   simp only [allN,List.all_cons,List.all_nil,Bool.and_eq_true,and_true] at hr
   exact ⟨r0,r1,r2,r3,rfl,hr⟩
 ·simp only [belB,decide_eq_true_eq] at hp
  obtain ⟨k,rfl⟩:=Int.eq_ofNat_of_zero_le hp.1
  exact ⟨k,rfl,by omega⟩
theorem nextIn_wrong (b off len cap:Nat) (g:Nat->I5) (p code:Int) (ra oa:Option Addr) (rc oc:Nat) (rs os:List Int) (w:World) (ho:os.length<=1048576) (h1:Sl w ra rs) (h2:Sl w oa os) (t2:progOkB g len 4=true) (hw:rightB g len p rs os code=false):
  Calls Tryz.prog 101 #[.slice (some ⟨b,off,none⟩) len cap,stV p ra rs.length rc oa os.length oc code] w fun e w'=>e=.returned (evV 0 0 0)/\Below w.heap.size w w':=by
 have H1:Hid (Sl w ra rs):=h1
 have H2:Hid (Sl w oa os):=h2
 clear h1 h2
 rcases zK (code != 0) with t0 | t0
 ·clear hw t2
  go_enter Tryz.func101,Tryz.ntmps101
  go_wp2
  refine bodyPost_ret (v:=evV 0 0 0) (by simp [results,Tryz.results101,go_sem]) rfl ⟨rfl,?_⟩
  go_grown
 have hc:(code == 0)=true:=by simpa using t0
 have t1:stOkB len p rs os code=false:=by
  simp only [rightB,t2,hc,Bool.and_true,Bool.true_and] at hw
  exact hw
 clear hw hc t2
 go_enter Tryz.func101,Tryz.ntmps101
 go_wp2_with fail
 refine (implStateOk_any _ _ _ _ _ _ _ _ _ rs os _ ho (H1.out.below (by go_grown)) (H2.out.below (by go_grown))).mono ?_
 rintro e w1 ⟨rfl,b1⟩
 have B1:Hid (Below w.heap.size w w1):=below_up (by go_grown) b1 (by simp;omega)
 obtain ⟨hc1,hf1⟩:=bcell b1
 clear b1
 go_wp2
 refine bodyPost_ret (v:=evV 0 0 0) (by simp [results,Tryz.results101,go_sem,hc1]) rfl ⟨rfl,?_⟩
 have:=B1.out
 go_grown
def calcN (o a b n:Int):Int:=if o=1 then n else if o=2 then a+b else if o=3 then a - b else if o=4 then a*b else if a<b then 1 else 0
def goP (len:Nat) (p:Int):Int:=if (len:Int)<=p+1 then p else p+1
def goC (len:Nat) (p code:Int):Int:=if (len:Int)<=p+1 then 2 else code
structure S4 where
 p:Int
 rs:List Int
 os:List Int
 c:Int
def goS (len:Nat) (p:Int) (rs os:List Int) (code:Int):S4:=⟨goP len p,rs,os,goC len p code⟩
def doneS (len:Nat) (x:I5) (p:Int) (rs os:List Int) (code v:Int):S4:=
 if x.o=6 then goS len p rs os code
 else if x.o=7 then goS len p (rs.set x.r.toNat v) os code
 else if x.o=8 then (if os.length=60 then ⟨p,rs,os,2⟩ else goS len p rs (os ++ [v]) code)
 else if x.o=9 then ⟨x.n,rs,os,code⟩
 else if x.o=10 then (if zi rs x.a.toNat=0 then ⟨x.n,rs,os,code⟩ else goS len p rs os code)
 else if x.o=11 then ⟨p,rs,os,1⟩
 else (if numB (calcN x.o (zi rs x.a.toNat) (zi rs x.b.toNat) x.n)=true then goS len p (rs.set x.r.toNat (calcN x.o (zi rs x.a.toNat) (zi rs x.b.toNat) x.n)) os code else ⟨p,rs,os,2⟩)
def canB (nk np nv k p v:Int):Bool:=
 if nk=3 then (k == 3) && numB v && (if np=9 then belB p 4 else p == np) else (nk != 0) && (k == nk && (p == np && v == nv))
def doB (g:Nat->I5) (len:Nat) (p:Int) (rs os:List Int) (code k q v:Int):Bool:=canB (nxK g len p rs os code) (nxP g len p rs os code) (nxW g len p rs os code) k q v
def doS (g:Nat->I5) (len:Nat) (p:Int) (rs os:List Int) (code k q v:Int):S4:=
 if doB g len p rs os code k q v=true then doneS len (g p.toNat) p rs os code v else ⟨p,rs,os,code⟩
theorem doB_right {g:Nat->I5} {len:Nat} {p:Int} {rs os:List Int} {code k q v:Int} (h:doB g len p rs os code k q v=true):rightB g len p rs os code=true:=by
 apply Classical.byContradiction
 intro hn
 have hn':rightB g len p rs os code=false:=by simpa using hn
 simp [doB,canB,nxK,hn'] at h
theorem mul_bound {a b:Int} (ha:numB a=true) (hb:numB b=true):-1000000000000000000<=a*b/\a*b<=1000000000000000000:=by
 simp only [numB,inB,decide_eq_true_eq] at ha hb
 have h1:(a.natAbs*b.natAbs:Nat)<=1000000000*1000000000:=Nat.mul_le_mul (by omega) (by omega)
 have h2:(a*b).natAbs=a.natAbs*b.natAbs:=Int.natAbs_mul a b
 omega
theorem numB_iff {a:Int}:numB a=true ↔ -1000000000<=a/\a<=1000000000:=by simp [numB,inB]
theorem info_int:∃ i,Tryz.prog.info? 3=some i/\i.zero=some (.int .i64 0)/\i.size=1/\i.bytes=8:=by
 have hinfo:=infoInt
 cases hi:Tryz.prog.info? 3 with
 | none=>rw [hi] at hinfo;cases hinfo
 | some i=>
  rw [hi] at hinfo
  simp only [Option.map_some,Option.some.injEq,Prod.mk.injEq] at hinfo
  exact ⟨i,rfl,hinfo⟩
theorem run_append_none (w:World) (ty:TypeId) (B c:Nat) (v:Value) (xs:List Int) (h:OwnI w B v xs):
  (Builtin.append_ #[37,37] ty #[v,.slice none 0 c]).run Tryz.prog w=.ok v w:=by
 obtain ⟨i,hi,_⟩:=info_int
 rcases h.2 with ⟨rfl,_⟩ | ⟨g,cap,cur,rfl,_,_,hnc,_⟩
 ·simp [Builtin.append_,run_underlying Tryz.underlying37,sizeOf,typeInfo,hi,Builtin.lenOf,Builtin.firstCells]
 ·simp [Builtin.append_,run_underlying Tryz.underlying37,sizeOf,typeInfo,hi,Builtin.lenOf,Builtin.firstCells,hnc,storeCells]
theorem run_append_ints (w:World) (ty:TypeId) (B c:Nat) (v:Value) (a0:Option Addr) (xs ys:List Int) (h:OwnI w B v xs) (hy:Sl w a0 ys) (hn:xs.length+ys.length<=4000000) (hB:B<=w.heap.size):
  ∃ v' w',(Builtin.append_ #[37,37] ty #[v,.slice a0 ys.length c]).run Tryz.prog w=.ok v' w'/\OwnI w' B v' (xs ++ ys)/\w.grownBy w' v.ownBlock/\(v'.ownBlock=v.ownBlock\/v'.ownBlock=some w.heap.size):=by
 obtain ⟨i,hi,hz,hs,hb⟩:=info_int
 cases a0 with
 | none=>
  have hy0:ys=[]:=by
   rcases hy with h0 | ⟨b,off,e,_⟩
   ·exact h0
   ·cases e
  subst hy0
  exact ⟨v,w,run_append_none w ty B c v xs h,by simpa using h,World.grownBy.refl _ _,.inl rfl⟩
 | some a=>
  have hnews:∀ j u,(ys.map (Value.int .i64))[j]? = some u->w.cell? (a.add j)=some u:=by
   rcases hy with h0 | ⟨b,off,e,hlt,hc⟩
   ·subst h0;intro j u hj;simp at hj
   ·cases e
    exact src_of_sl (.inr ⟨b,off,rfl,hlt,hc⟩) (Below.refl _ _)
  obtain ⟨v',w',h1,h2,h3,_,h5⟩:=run_append_own_at (P:=Tryz.prog) w B 37 ty 3 i (.int .i64 0) 1 8 Tryz.underlying37 hi hz hs hb rfl (by decide) v xs.length (xs.map (Value.int .i64)) h a ys.length c (ys.map (Value.int .i64)) (by simp) hnews (one_ints ys) (by unfold maxLen;omega) (by omega) hB
  refine ⟨v',w',h1,?_,h3,h5⟩
  unfold OwnI
  rw [List.length_append,List.map_append]
  exact h2
theorem wpList_append_ints {ops:Array Oper} {rest:List Oper} {op:Oper} {act:Act} {Q:Exit->Act->World->Prop} (w:World) (hgd:op.guard=none) (s x:Operand)
  (ho:op.op=.call { callee:=.builtin .append,args:=#[s,x],argTypes:=#[37,37] })
  (B c:Nat) (v:Value) (a0:Option Addr) (xs ys:List Int) (hs:act.eval s=v) (hx:act.eval x=.slice a0 ys.length c) (hv:OwnI w B v xs) (hy:Sl w a0 ys) (hn:xs.length+ys.length<=4000000) (hB:B<=w.heap.size)
  (h:∀ v' w',OwnI w' B v' (xs ++ ys)->w.grownBy w' v.ownBlock->(v'.ownBlock=v.ownBlock\/v'.ownBlock=some w.heap.size)->wpList Tryz.prog ops Q rest (act.put op.dst v') w'):
  wpList Tryz.prog ops Q (op :: rest) act w:=by
 obtain ⟨v',w',h1,h2,h3,h4⟩:=run_append_ints w op.type B c v a0 xs ys hv hy hn hB
 refine wpList_plain hgd fun K hK=>?_
 unfold Oper.wp execOp
 simp only [ho,resolve,invoke,builtin,Sem.run_bind,Sem.run_pure,Result.andThen_ok,List.map_toArray,List.map_cons,List.map_nil,hs,hx,h1]
 exact hK _ _ (h v' w' h2 h3 h4)
theorem own_empty (w:World):OwnI (w.alloc (.cells #[] 3)) w.heap.size (.slice (some ⟨w.heap.size,0,none⟩) 0 0) []:=
 World.ownsRow_made (base:=w.heap.size) (e:=3) (size:=1) w #[] 0 (Nat.le_refl _) (by unfold maxLen;omega) rfl
theorem own_emptyN (w:World) {N:Nat} (h:N=w.heap.size):OwnI (w.alloc (.cells #[] 3)) N (.slice (some ⟨N,0,none⟩) 0 0) []:=by
 subst h
 exact own_empty w
theorem wpList_append_new {ops:Array Oper} {rest:List Oper} {op:Oper} {act:Act} {Q:Exit->Act->World->Prop} (w:World) {N:Nat} (hN:N=w.heap.size) (hgd:op.guard=none) (s x:Operand)
  (ho:op.op=.call { callee:=.builtin .append,args:=#[s,x],argTypes:=#[37,37] })
  (c:Nat) (a0:Option Addr) (ys:List Int) (hs:act.eval s=.slice (some ⟨N,0,none⟩) 0 0) (hx:act.eval x=.slice a0 ys.length c) (hy:Sl w a0 ys) (hn:ys.length<=1048576)
  (h:∀ v' w',OwnI w' w.heap.size v' ys->Below w.heap.size w w'->wpList Tryz.prog ops Q rest (act.put op.dst v') w'):
  wpList Tryz.prog ops Q (op :: rest) act (w.alloc (.cells #[] 3)):=by
 subst hN
 have hb:Below w.heap.size w (w.alloc (.cells #[] 3)):=(Below.refl _ _).alloc (Nat.le_refl _) _
 refine wpList_append_ints _ hgd s x ho w.heap.size c (.slice (some ⟨w.heap.size,0,none⟩) 0 0) a0 [] ys hs hx (own_empty w) (hy.below hb) (by simp;omega) (by simp) ?_
 intro v' w' o g _
 exact h v' w' (by simpa using o) (hb.grown g (by simp) (fun k hk=>by cases hk;exact Nat.le_refl _))
def STOP (p:Prop):Prop:=p
theorem append_stop {P:Program} {ops:Array Oper} {rest:List Oper} {op:Oper} {act:Act} {Q:Exit->Act->World->Prop} {w:World} {a:Array Operand} {t:Array TypeId} (_:op.op=.call { callee:=.builtin .append,args:=a,argTypes:=t }) (h:STOP (wpList P ops Q (op :: rest) act w)):wpList P ops Q (op :: rest) act w:=h
theorem clone_any (a0:Option Addr) (cap:Nat) (xs:List Int) (w:World) (hlen:xs.length<=1048576) (h:Sl w a0 xs):
  Calls Tryz.prog 174 #[.slice a0 xs.length cap] w fun e w'=>∃ v,e=.returned v/\OwnI w' w.heap.size v xs/\Below w.heap.size w w':=by
 cases a0 with
 | none=>
  have h0:xs=[]:=by
   rcases h with h0 | ⟨b,off,e,_⟩
   ·exact h0
   ·cases e
  subst h0
  have he:∀ wx:World,(binOp .eql 37 (.slice none 0 cap) (.slice none 0 0)).run Tryz.prog wx=.ok (.bool true) wx:=fun wx=>by kernel_rfl
  go_enter Tryz.func174,Tryz.ntmps174
  go_wp2
  go_ret
  exact ⟨_,rfl,World.ownsRow_nil _ _ _ _,Below.refl _ _⟩
 | some a=>
  have HS:Hid (Sl w (some a) xs):=h
  have he:∀ wx:World,(binOp .eql 37 (.slice (some a) xs.length cap) (.slice none 0 0)).run Tryz.prog wx=.ok (.bool false) wx:=fun wx=>by kernel_rfl
  clear h
  go_enter Tryz.func174,Tryz.ntmps174
  go_wp2_with (at_builtin;refine wpList_append_ints _ rfl _ _ rfl w.heap.size cap (.slice (some ⟨w.heap.size,0,none⟩) 0 0) (some a) [] xs rfl rfl (own_empty w) (HS.out.below ((Below.refl _ _).alloc (Nat.le_refl _) _)) (by simp;omega) (by simp) ?_;intro v' w1 o1 g1 _;have HF:Hid (OwnI w1 w.heap.size v' xs/\Below w.heap.size w w1):=⟨by simpa using o1,((Below.refl _ _).alloc (Nat.le_refl _) _).grown g1 (by simp) (fun k hk=>by cases hk;exact Nat.le_refl _)⟩;clear o1 g1)
  go_ret
  exact ⟨_,rfl,HF.out⟩
theorem copyState_any (p code:Int) (ra oa:Option Addr) (rc oc:Nat) (rs os:List Int) (w:World) (hr:rs.length<=1048576) (ho:os.length<=1048576) (h1:Sl w ra rs) (h2:Sl w oa os):
  Calls Tryz.prog 98 #[stV p ra rs.length rc oa os.length oc code] w fun e w'=>∃ v,e=.returned v/\StOwn w' w.heap.size v p rs os code/\Below w.heap.size w w':=by
 have H1:Hid (Sl w ra rs):=h1
 have H2:Hid (Sl w oa os):=h2
 clear h1 h2
 go_enter Tryz.func98,Tryz.ntmps98
 go_wp2_with fail
 refine (clone_any ra rc rs _ hr (H1.out.below (by go_grown))).mono ?_
 rintro e w1 ⟨v1,rfl,o1,b1⟩
 have B1:Hid (Below w.heap.size w w1):=below_up (by go_grown) b1 (by simp;omega)
 obtain ⟨hc1,hf1⟩:=bcell b1
 have y1:w.heap.size+1<w1.heap.size:=by have:=b1.size;simp at this;omega
 have y0:w.heap.size<w1.heap.size:=by omega
 obtain ⟨ra1,rc1,rfl,_⟩:=o1.form
 have s0:w1.cell? ⟨w.heap.size,0,none⟩=some (.int .i64 p):=by rw [hc1 _ _ (by simp;omega)];simp
 have s1:w1.cell? ⟨w.heap.size,1,none⟩=some (.slice ra rs.length rc):=by rw [hc1 _ _ (by simp;omega)];simp
 have s2:w1.cell? ⟨w.heap.size,2,none⟩=some (.slice oa os.length oc):=by rw [hc1 _ _ (by simp;omega)];simp
 have s3:w1.cell? ⟨w.heap.size,3,none⟩=some (.int .i64 code):=by rw [hc1 _ _ (by simp;omega)];simp
 have L1:Hid (∀ k,(Value.slice ra1 rs.length rc1).ownBlock=some k->w.heap.size+1<k/\k<w1.heap.size):=fun k hk=>by have:=o1.lt k hk;simp at this;omega
 have BS:Hid (Below w.heap.size w (w1.setCell ⟨w.heap.size,1,none⟩ (.slice ra1 rs.length rc1))):=B1.out.setCell (by simp) _
 have O1:Hid (OwnI (w1.setCell ⟨w.heap.size,1,none⟩ (.slice ra1 rs.length rc1)) (w.heap.size+1+1) (.slice ra1 rs.length rc1) rs):=by
  simp only [World.size_alloc] at o1
  exact o1.setBelow (by simp;omega) _
 clear o1 b1 B1
 go_wp2_with fail
 refine (clone_any oa oc os _ ho (H2.out.below BS.out)).mono ?_
 rintro e w2 ⟨v2,rfl,o2,b2⟩
 have B2:Hid (Below w.heap.size w w2):=below_up BS.out b2 (by simp;omega)
 obtain ⟨hc2,hf2⟩:=bcell b2
 obtain ⟨oa2,oc2,rfl,_⟩:=o2.form
 have O1':Hid (OwnI w2 (w.heap.size+1+1) (.slice ra1 rs.length rc1) rs):=O1.out.below b2
 simp only [World.size_setCell] at o2
 have O2:Hid (OwnI w2 w1.heap.size (.slice oa2 os.length oc2) os):=o2
 clear o2 b2 BS O1
 go_wp2
 refine bodyPost_ret (v:=stV p ra1 rs.length rc1 oa2 os.length oc2 code) (by simp [results,Tryz.results98,go_sem,hc2,y1,hc1]) rfl ⟨_,rfl,⟨_,_,rfl,?_,?_,?_⟩,?_⟩
 ·refine OwnI.mono (B:=w.heap.size+1+1) ?_ (by omega)
  repeat (refine OwnI.setBelow ?_ (by simp<;>omega) _)
  exact O1'.out
 ·refine OwnI.mono (B:=w1.heap.size) ?_ (by omega)
  repeat (refine OwnI.setBelow ?_ (by simpa using by omega) _)
  exact O2.out
 ·intro k hk hk'
  have h1:=L1.out k hk
  have h2:=O2.out.lt k hk'
  omega
 ·have:=B2.out
  go_grown
theorem l2Copy_any (p code:Int) (ra oa:Option Addr) (rc oc:Nat) (rs os:List Int) (w:World) (hr:rs.length<=1048576) (ho:os.length<=1048576) (h1:Sl w ra rs) (h2:Sl w oa os):
  Calls Tryz.prog 122 #[stV p ra rs.length rc oa os.length oc code] w fun e w'=>∃ v,e=.returned v/\StOwn w' w.heap.size v p rs os code/\Below w.heap.size w w':=by
 have H1:Hid (Sl w ra rs):=h1
 have H2:Hid (Sl w oa os):=h2
 clear h1 h2
 go_enter Tryz.func122,Tryz.ntmps122
 go_wp2_with (at_builtin;refine append_stop rfl ?_)
 unfold STOP
 refine wpList_append_new _ (N:=w.heap.size+1+1) (by simp) rfl _ _ rfl rc ra rs rfl rfl (H1.out.below (by go_grown)) hr ?_
 intro v1 w1 o1 b1
 have B1:Hid (Below w.heap.size w w1):=below_up (by go_grown) b1 (by simp;omega)
 obtain ⟨hc1,hf1⟩:=bcell b1
 have y1:w.heap.size+1<w1.heap.size:=by have:=b1.size;simp at this;omega
 have y0:w.heap.size<w1.heap.size:=by omega
 obtain ⟨ra1,rc1,rfl,_⟩:=o1.form
 have s0:w1.cell? ⟨w.heap.size,0,none⟩=some (.int .i64 p):=by rw [hc1 _ _ (by simp;omega)];simp
 have s1:w1.cell? ⟨w.heap.size,1,none⟩=some (.slice ra rs.length rc):=by rw [hc1 _ _ (by simp;omega)];simp
 have s2:w1.cell? ⟨w.heap.size,2,none⟩=some (.slice oa os.length oc):=by rw [hc1 _ _ (by simp;omega)];simp
 have s3:w1.cell? ⟨w.heap.size,3,none⟩=some (.int .i64 code):=by rw [hc1 _ _ (by simp;omega)];simp
 have L1:Hid (∀ k,(Value.slice ra1 rs.length rc1).ownBlock=some k->w.heap.size+1<k/\k<w1.heap.size):=fun k hk=>by have:=o1.lt k hk;simp at this;omega
 have BS:Hid (Below w.heap.size w (w1.setCell ⟨w.heap.size,1,none⟩ (.slice ra1 rs.length rc1))):=B1.out.setCell (by simp) _
 have O1:Hid (OwnI (w1.setCell ⟨w.heap.size,1,none⟩ (.slice ra1 rs.length rc1)) (w.heap.size+1+1) (.slice ra1 rs.length rc1) rs):=by
  simp only [World.size_alloc] at o1
  exact o1.setBelow (by simp;omega) _
 clear o1 b1 B1
 go_wp2_with (at_builtin;refine append_stop rfl ?_)
 unfold STOP
 refine wpList_append_new (w1.setCell ⟨w.heap.size,1,none⟩ (.slice ra1 rs.length rc1)) (N:=w1.heap.size) (by simp) rfl _ _ rfl oc oa os rfl rfl (H2.out.below BS.out) ho ?_
 intro v2 w2 o2 b2
 have B2:Hid (Below w.heap.size w w2):=below_up BS.out b2 (by simp;omega)
 obtain ⟨hc2,hf2⟩:=bcell b2
 obtain ⟨oa2,oc2,rfl,_⟩:=o2.form
 have O1':Hid (OwnI w2 (w.heap.size+1+1) (.slice ra1 rs.length rc1) rs):=O1.out.below b2
 simp only [World.size_setCell] at o2
 have O2:Hid (OwnI w2 w1.heap.size (.slice oa2 os.length oc2) os):=o2
 clear o2 b2 BS O1
 go_wp2
 refine bodyPost_ret (v:=stV p ra1 rs.length rc1 oa2 os.length oc2 code) (by simp [results,Tryz.results122,go_sem,hc2,y1,hc1]) rfl ⟨_,rfl,⟨_,_,rfl,?_,?_,?_⟩,?_⟩
 ·refine OwnI.mono (B:=w.heap.size+1+1) ?_ (by omega)
  repeat (refine OwnI.setBelow ?_ (by simp<;>omega) _)
  exact O1'.out
 ·refine OwnI.mono (B:=w1.heap.size) ?_ (by omega)
  repeat (refine OwnI.setBelow ?_ (by simpa using by omega) _)
  exact O2.out
 ·intro k hk hk'
  have h1:=L1.out k hk
  have h2:=O2.out.lt k hk'
  omega
 ·have:=B2.out
  go_grown
def BytesAt (w:World) (W0:Nat) (a0:Option Addr) (len:Nat):Prop:=
 len=0\/∃ b off,a0=some ⟨b,off,none⟩/\b<W0/\∀ j,j<len->∃ z:Int,w.cell? ⟨b,off+j,none⟩=some (.int .u8 z)/\0<=z/\z<=255
structure Cur (w:World) (W0 c:Nat) (a0:Option Addr) (len cap:Nat):Prop where
 ex:∃ (i:Nat) (h:Int),w.cell? ⟨c,0,none⟩=some (.slice a0 len cap)/\w.cell? ⟨c,1,none⟩=some (.int .i64 i)/\w.cell? ⟨c,2,none⟩=some (.int .i64 h)
 fr:∀ o,w.frozen? ⟨c,o,none⟩=false
 lt:c<w.heap.size
 ge:W0<=c
 by':BytesAt w W0 a0 len
 ln:len<=1048576
theorem grown_drewN {w w':World} {row:Option Nat} (h:w.grownBy w' row) (n:Nat):w.grownBy (w'.drewN n) row:=⟨h.os,h.tape,h.output,h.size,h.block⟩
theorem zV {w w':World} {row:Option Nat} (h:w.grownBy w' row) {p:Addr} (hp:row=some p.block\/w.heap.size<=p.block) (v:Value):w.grownBy (w'.setCell p v) row:=
 ⟨h.os, h.tape, h.output, by simpa using h.size, fun k hk hne => by
  rw [Below.heap_setCell w' p v k (fun e => by
   subst e
   rcases hp with hp | hp
   ·exact hne hp.symm
   ·omega)]
  exact h.block k hk hne⟩
def IntsAt (w:World) (b len:Nat) (z:Nat->Int):Prop:=∀ j,j<len->w.cell? ⟨b,j,none⟩=some (.int .i64 (z j))
theorem grown_any {w w':World} (h:w.grownBy w' none) (row:Option Nat):w.grownBy w' row:=⟨h.os,h.tape,h.output,h.size,fun k hk _=>h.block k hk (by simp)⟩
theorem OwnI.drewN {w:World} {B:Nat} {v:Value} {xs:List Int} (h:OwnI w B v xs) (n:Nat):OwnI (w.drewN n) B v xs:=h
theorem OwnI.setOther {w:World} {B:Nat} {v:Value} {xs:List Int} (h:OwnI w B v xs) {p:Addr} (hne:v.ownBlock≠some p.block) (u:Value):OwnI (w.setCell p u) B v xs:=
 h.kept (row:=some p.block) (zV (World.grownBy.refl w _) (.inl rfl) u) (.inr hne)
theorem zT (w:World) (o:Obj):Below w.heap.size w (w.alloc o):=(Below.refl _ _).alloc (Nat.le_refl _) o
theorem l2Fault_any (p code:Int) (ra oa:Option Addr) (rn rc on oc:Nat) (w:World):
  Calls Tryz.prog 196 #[stV p ra rn rc oa on oc code] w fun e w'=>e=.returned (stV p ra rn rc oa on oc 2)/\Below w.heap.size w w':=by
 go_enter Tryz.func196,Tryz.ntmps196
 go_wp2
 refine bodyPost_ret (v:=stV p ra rn rc oa on oc 2) (by simp [results,Tryz.results196,go_sem]) rfl ⟨rfl,?_⟩
 go_grown
theorem l2Go_any (la:Option Addr) (len lc:Nat) (p code:Int) (ra oa:Option Addr) (rn rc on oc:Nat) (w:World) (h0:0<=p) (h1:p<=1000000000):
  Calls Tryz.prog 195 #[.slice la len lc,stV p ra rn rc oa on oc code] w fun e w'=>e=.returned (stV (goP len p) ra rn rc oa on oc (goC len p code))/\Below w.heap.size w w':=by
 by_cases hp:(len:Int)<=p+1
 ·have e1:goP len p=p:=if_pos hp
  have e2:goC len p code=2:=if_pos hp
  rw [e1,e2]
  clear e1 e2
  go_enter Tryz.func195,Tryz.ntmps195
  go_wp2_with fail
  refine (l2Fault_any _ _ _ _ _ _ _ _ _).mono ?_
  rintro e w1 ⟨rfl,b1⟩
  have B1:Hid (Below w.heap.size w w1):=below_up (by go_grown) b1 (by simp;omega)
  obtain ⟨hc1,hf1⟩:=bcell b1
  clear b1
  go_wp2
  refine bodyPost_ret (v:=stV p ra rn rc oa on oc 2) (by simp [results,Tryz.results195,go_sem,hc1]) rfl ⟨rfl,?_⟩
  have:=B1.out
  go_grown
 ·have e1:goP len p=p+1:=if_neg hp
  have e2:goC len p code=code:=if_neg hp
  rw [e1,e2]
  clear e1 e2
  go_enter Tryz.func195,Tryz.ntmps195
  go_wp2
  refine bodyPost_ret (v:=stV (p+1) ra rn rc oa on oc code) (by simp [results,Tryz.results195,go_sem]) rfl ⟨rfl,?_⟩
  go_grown
theorem inB_below (p:Int) (n:Nat):inB p 0 ((n:Int) - 1)=belB p n:=by
 rw [Bool.eq_iff_iff];simp [inB,belB];omega
