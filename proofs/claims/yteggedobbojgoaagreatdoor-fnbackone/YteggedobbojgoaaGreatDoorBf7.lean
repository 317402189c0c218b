import Derived.Test.YteggedobbojgoaaGreatDoorBf3
import Derived.Test.YteggedobbojgoaaGreatDoorBf4
import Derived.Test.YteggedobbojgoaaGreatDoorBf5
import Derived.Test.YteggedobbojgoaaGreatDoorBf6
namespace Go.Proofs.YteggedobbojgoaaGreatDoor
set_option maxRecDepth 100000
set_option maxHeartbeats 1000000
open Go.RowKit
def qbg (op r a b n places procs:Int):Bool:=
 if op=1 then inB n (-1000000000) 1000000000 && a == 0 && b == 0
 else if op=2 then n == 0
 else if op=3 then n == 0
 else if op=4 then n == 0
 else if op=5 then n == 0
 else if op=6 then inB n 0 (procs - 1) && r == 0 && b == 0
 else if op=7 then (inB n 0 (procs - 1) || n == 9) && a == 0 && b == 0
 else if op=8 then r == 0 && b == 0 && n == 0
 else if op=9 then belB n places && r == 0 && a == 0 && b == 0
 else if op=10 then belB n places && r == 0 && b == 0
 else if op=11 then r == 0 && a == 0 && b == 0 && n == 0
 else false
def qai (op r a b n places procs:Int):Bool:=(inB r 0 3 && inB a 0 3 && inB b 0 3 && inB procs 1 4) && qbg op r a b n places procs
theorem qew (op:Int):(op<1\/11<op)\/op=1\/op=2\/op=3\/op=4\/op=5\/op=6\/op=7\/op=8\/op=9\/op=10\/op=11:=by omega
theorem qf8 (op r a b n places procs:Int) (h:op<1\/11<op):qbg op r a b n places procs=false:=by
 unfold qbg
 rw [if_neg (by omega),if_neg (by omega),if_neg (by omega),if_neg (by omega),if_neg (by omega),if_neg (by omega),if_neg (by omega),if_neg (by omega),if_neg (by omega),if_neg (by omega),if_neg (by omega)]
theorem qft (op r a b n places procs:Int) (w:World):
  Calls Tryz.prog 56 #[insV op r a b n,.int .i64 places,.int .i64 procs] w fun e w'=>e=.returned (.bool (qai op r a b n places procs))/\Bw w w':=by
 rcases zK (inB r 0 3 && inB a 0 3 && inB b 0 3 && inB procs 1 4) with h | h
 ·have hh:=h
  simp only [Bool.and_eq_true] at hh
  obtain ⟨⟨⟨h1,h2⟩,h3⟩,h4⟩:=hh
  have h5:1<=procs:=by simp [inB] at h4;omega
  have h6:procs<=4:=by simp [inB] at h4;omega
  have hv:qai op r a b n places procs=qbg op r a b n places procs:=by unfold qai;rw [h];rfl
  rw [hv]
  rcases qew op with g | rfl | rfl | rfl | rfl | rfl | rfl | rfl | rfl | rfl | rfl | rfl
  ·rw [qf8 _ _ _ _ _ _ _ g];exact qia op r a b n places procs w h1 h2 h3 h4 h5 h6 g
  ·exact qnc r a b n places procs w h1 h2 h3 h4 h5 h6
  ·exact qnd r a b n places procs w h1 h2 h3 h4 h5 h6
  ·exact qne r a b n places procs w h1 h2 h3 h4 h5 h6
  ·exact qnf r a b n places procs w h1 h2 h3 h4 h5 h6
  ·exact qng r a b n places procs w h1 h2 h3 h4 h5 h6
  ·exact qnh r a b n places procs w h1 h2 h3 h4 h5 h6
  ·exact qni r a b n places procs w h1 h2 h3 h4 h5 h6
  ·exact qnj r a b n places procs w h1 h2 h3 h4 h5 h6
  ·exact qnk r a b n places procs w h1 h2 h3 h4 h5 h6
  ·exact qln r a b n places procs w h1 h2 h3 h4 h5 h6
  ·exact qlo r a b n places procs w h1 h2 h3 h4 h5 h6
 ·have hv:qai op r a b n places procs=false:=by unfold qai;rw [h];rfl
  rw [hv]
  exact qjv op r a b n places procs w h
theorem qi6 (op r a b n places procs:Int) (w:World) (h:procs<1\/4<procs):
  Calls Tryz.prog 113 #[insV op r a b n,.int .i64 places,.int .i64 procs] w fun e w'=>e=.returned (.bool false)/\Bw w w':=by
 rcases h with h | h
 ·go_enter Tryz.func113,Tryz.ntmps113
  go_wp2
  go_ret
  exact ⟨rfl,by go_grown⟩
 ·have h':¬ procs<1:=by omega
  go_enter Tryz.func113,Tryz.ntmps113
  go_wp2
  go_ret
  exact ⟨rfl,by go_grown⟩
theorem qh5 (op r a b n places procs:Int) (w:World) (h5:1<=procs) (h6:procs<=4) (h:op<1\/11<op):
  Calls Tryz.prog 113 #[insV op r a b n,.int .i64 places,.int .i64 procs] w fun e w'=>e=.returned (.bool false)/\Bw w w':=by
 go_enter Tryz.func113,Tryz.ntmps113
 go_wp2_with (go_at_call 126;refine (qle _ _ _ _ _ _ h).mono ?_;rintro e w1 ⟨rfl,hb1⟩)
 first|(go_region_with (fail)) | fail
 all_goals
  go_wp2
  go_ret
  exact ⟨rfl,qh6 hb1⟩
theorem qff (op r a b n places procs:Int) (w:World):
  Calls Tryz.prog 113 #[insV op r a b n,.int .i64 places,.int .i64 procs] w fun e w'=>e=.returned (.bool (qai op r a b n places procs))/\Bw w w':=by
 by_cases hp:procs<1\/4<procs
 ·have hv:qai op r a b n places procs=false:=by simp [qai,inB];omega
  rw [hv]
  exact qi6 op r a b n places procs w hp
 ·have h5:1<=procs:=by omega
  have h6:procs<=4:=by omega
  rcases qew op with g | rfl | rfl | rfl | rfl | rfl | rfl | rfl | rfl | rfl | rfl | rfl
  ·have hv:qai op r a b n places procs=false:=by unfold qai;rw [qf8 _ _ _ _ _ _ _ g];simp
   rw [hv]
   exact qh5 op r a b n places procs w h5 h6 g
  ·by_cases g0:a=0
   case neg=>
    have hv:qai 1 r a b n places procs=false:=by simp [qai,qbg,g0]
    rw [hv]
    exact qds r a b n places procs w h5 h6 (by simp [qa3];omega)
   subst g0
   by_cases g1:b=0
   case neg=>
    have hv:qai 1 r 0 b n places procs=false:=by simp [qai,qbg,g1]
    rw [hv]
    exact qds r 0 b n places procs w h5 h6 (by simp [qa3];omega)
   subst g1
   refine (qgw r n places procs w h5 h6).mono ?_
   rintro e w1 ⟨rfl,hb⟩
   refine ⟨qay ?_,hb⟩
   rw [Bool.eq_iff_iff]
   simp [qai,qbg,inB,belB] <;> omega
  ·by_cases g0:n=0
   case neg=>
    have hv:qai 2 r a b n places procs=false:=by simp [qai,qbg,g0]
    rw [hv]
    exact qbu 2 r a b n places procs w h5 h6 (by omega) (by omega) (by simp [qa3];omega)
   subst g0
   refine (qbt 2 r a b places procs w h5 h6 (by omega) (by omega)).mono ?_
   rintro e w1 ⟨rfl,hb⟩
   refine ⟨qay ?_,hb⟩
   rw [Bool.eq_iff_iff]
   simp [qai,qbg,inB,belB] <;> omega
  ·by_cases g0:n=0
   case neg=>
    have hv:qai 3 r a b n places procs=false:=by simp [qai,qbg,g0]
    rw [hv]
    exact qbu 3 r a b n places procs w h5 h6 (by omega) (by omega) (by simp [qa3];omega)
   subst g0
   refine (qbt 3 r a b places procs w h5 h6 (by omega) (by omega)).mono ?_
   rintro e w1 ⟨rfl,hb⟩
   refine ⟨qay ?_,hb⟩
   rw [Bool.eq_iff_iff]
   simp [qai,qbg,inB,belB] <;> omega
  ·by_cases g0:n=0
   case neg=>
    have hv:qai 4 r a b n places procs=false:=by simp [qai,qbg,g0]
    rw [hv]
    exact qbu 4 r a b n places procs w h5 h6 (by omega) (by omega) (by simp [qa3];omega)
   subst g0
   refine (qbt 4 r a b places procs w h5 h6 (by omega) (by omega)).mono ?_
   rintro e w1 ⟨rfl,hb⟩
   refine ⟨qay ?_,hb⟩
   rw [Bool.eq_iff_iff]
   simp [qai,qbg,inB,belB] <;> omega
  ·by_cases g0:n=0
   case neg=>
    have hv:qai 5 r a b n places procs=false:=by simp [qai,qbg,g0]
    rw [hv]
    exact qbu 5 r a b n places procs w h5 h6 (by omega) (by omega) (by simp [qa3];omega)
   subst g0
   refine (qbt 5 r a b places procs w h5 h6 (by omega) (by omega)).mono ?_
   rintro e w1 ⟨rfl,hb⟩
   refine ⟨qay ?_,hb⟩
   rw [Bool.eq_iff_iff]
   simp [qai,qbg,inB,belB] <;> omega
  ·by_cases g0:r=0
   case neg=>
    have hv:qai 6 r a b n places procs=false:=by simp [qai,qbg,g0]
    rw [hv]
    exact qc8 r a b n places procs w h5 h6 (by simp [qa3];omega)
   subst g0
   by_cases g1:b=0
   case neg=>
    have hv:qai 6 0 a b n places procs=false:=by simp [qai,qbg,g1]
    rw [hv]
    exact qc8 0 a b n places procs w h5 h6 (by simp [qa3];omega)
   subst g1
   refine (qf3 a n places procs w h5 h6).mono ?_
   rintro e w1 ⟨rfl,hb⟩
   refine ⟨qay ?_,hb⟩
   rw [Bool.eq_iff_iff]
   simp [qai,qbg,inB,belB] <;> omega
  ·by_cases g0:a=0
   case neg=>
    have hv:qai 7 r a b n places procs=false:=by simp [qai,qbg,g0]
    rw [hv]
    exact qc9 r a b n places procs w h5 h6 (by simp [qa3];omega)
   subst g0
   by_cases g1:b=0
   case neg=>
    have hv:qai 7 r 0 b n places procs=false:=by simp [qai,qbg,g1]
    rw [hv]
    exact qc9 r 0 b n places procs w h5 h6 (by simp [qa3];omega)
   subst g1
   refine (qf4 r n places procs w h5 h6).mono ?_
   rintro e w1 ⟨rfl,hb⟩
   refine ⟨qay ?_,hb⟩
   rw [Bool.eq_iff_iff]
   simp [qai,qbg,inB,belB] <;> omega
  ·by_cases g0:r=0
   case neg=>
    have hv:qai 8 r a b n places procs=false:=by simp [qai,qbg,g0]
    rw [hv]
    exact qb7 r a b n places procs w h5 h6 (by simp [qa3];omega)
   subst g0
   by_cases g1:b=0
   case neg=>
    have hv:qai 8 0 a b n places procs=false:=by simp [qai,qbg,g1]
    rw [hv]
    exact qb7 0 a b n places procs w h5 h6 (by simp [qa3];omega)
   subst g1
   by_cases g2:n=0
   case neg=>
    have hv:qai 8 0 a 0 n places procs=false:=by simp [qai,qbg,g2]
    rw [hv]
    exact qb7 0 a 0 n places procs w h5 h6 (by simp [qa3];omega)
   subst g2
   refine (qfg a places procs w h5 h6).mono ?_
   rintro e w1 ⟨rfl,hb⟩
   refine ⟨qay ?_,hb⟩
   rw [Bool.eq_iff_iff]
   simp [qai,qbg,inB,belB] <;> omega
  ·by_cases g0:r=0
   case neg=>
    have hv:qai 9 r a b n places procs=false:=by simp [qai,qbg,g0]
    rw [hv]
    exact qce r a b n places procs w h5 h6 (by simp [qa3];omega)
   subst g0
   by_cases g1:a=0
   case neg=>
    have hv:qai 9 0 a b n places procs=false:=by simp [qai,qbg,g1]
    rw [hv]
    exact qce 0 a b n places procs w h5 h6 (by simp [qa3];omega)
   subst g1
   by_cases g2:b=0
   case neg=>
    have hv:qai 9 0 0 b n places procs=false:=by simp [qai,qbg,g2]
    rw [hv]
    exact qce 0 0 b n places procs w h5 h6 (by simp [qa3];omega)
   subst g2
   refine (qf2 n places procs w h5 h6).mono ?_
   rintro e w1 ⟨rfl,hb⟩
   refine ⟨qay ?_,hb⟩
   rw [Bool.eq_iff_iff]
   simp [qai,qbg,inB,belB] <;> omega
  ·by_cases g0:r=0
   case neg=>
    have hv:qai 10 r a b n places procs=false:=by simp [qai,qbg,g0]
    rw [hv]
    exact qda r a b n places procs w h5 h6 (by simp [qa3];omega)
   subst g0
   by_cases g1:b=0
   case neg=>
    have hv:qai 10 0 a b n places procs=false:=by simp [qai,qbg,g1]
    rw [hv]
    exact qda 0 a b n places procs w h5 h6 (by simp [qa3];omega)
   subst g1
   refine (qf5 a n places procs w h5 h6).mono ?_
   rintro e w1 ⟨rfl,hb⟩
   refine ⟨qay ?_,hb⟩
   rw [Bool.eq_iff_iff]
   simp [qai,qbg,inB,belB] <;> omega
  ·by_cases g0:r=0
   case neg=>
    have hv:qai 11 r a b n places procs=false:=by simp [qai,qbg,g0]
    rw [hv]
    exact qb0 r a b n places procs w h5 h6 (by simp [qa3];omega)
   subst g0
   by_cases g1:a=0
   case neg=>
    have hv:qai 11 0 a b n places procs=false:=by simp [qai,qbg,g1]
    rw [hv]
    exact qb0 0 a b n places procs w h5 h6 (by simp [qa3];omega)
   subst g1
   by_cases g2:b=0
   case neg=>
    have hv:qai 11 0 0 b n places procs=false:=by simp [qai,qbg,g2]
    rw [hv]
    exact qb0 0 0 b n places procs w h5 h6 (by simp [qa3];omega)
   subst g2
   by_cases g3:n=0
   case neg=>
    have hv:qai 11 0 0 0 n places procs=false:=by simp [qai,qbg,g3]
    rw [hv]
    exact qb0 0 0 0 n places procs w h5 h6 (by simp [qa3];omega)
   subst g3
   refine (qgv places procs w h5 h6).mono ?_
   rintro e w1 ⟨rfl,hb⟩
   refine ⟨qay ?_,hb⟩
   rw [Bool.eq_iff_iff]
   simp [qai,qbg,inB] <;> omega
