import Derived.Test.YtchhijiibjijhaaGreatDoorYf2
import Derived.Test.YtchhijiibjijhaaGreatDoorYf3
import Derived.Test.YtchhijiibjijhaaGreatDoorYf4
import Derived.Test.YtchhijiibjijhaaGreatDoorYf5
import Derived.Test.YtchhijiibjijhaaGreatDoorYf7
namespace Go.Proofs.YtchhijiibjijhaaGreatDoor
set_option maxRecDepth 100000
set_option maxHeartbeats 1000000
open Go.RowKit
def qbj (op r a b n places procs:Int):Bool:=
 if op=1 then inB n (-1000000000) 1000000000 && a == 0 && b == 0
 else if op=2 then n == 0
 else if op=3 then n == 0
 else if op=4 then n == 0
 else if op=5 then n == 0
 else if op=6 then inB n 0 (procs - 1) && r == 0 && b == 0
 else if op=7 then (inB n 0 (procs - 1) || n == 9) && a == 0 && b == 0
 else if op=8 then r == 0 && b == 0 && n == 0
 else if op=9 then belB n places && r == 0 && a == 0 && b == 0
 else if op=10 then belB n places && r == 0 && b == 0
 else if op=11 then r == 0 && a == 0 && b == 0 && n == 0
 else false
def qai (op r a b n places procs:Int):Bool:=(inB r 0 3 && inB a 0 3 && inB b 0 3 && inB procs 1 4) && qbj op r a b n places procs
theorem qfk (op:Int):(op<1\/11<op)\/op=1\/op=2\/op=3\/op=4\/op=5\/op=6\/op=7\/op=8\/op=9\/op=10\/op=11:=by omega
theorem qg1 (op r a b n places procs:Int) (h:op<1\/11<op):qbj op r a b n places procs=false:=by
 unfold qbj
 rw [if_neg (by omega),if_neg (by omega),if_neg (by omega),if_neg (by omega),if_neg (by omega),if_neg (by omega),if_neg (by omega),if_neg (by omega),if_neg (by omega),if_neg (by omega),if_neg (by omega)]
theorem qgh (op r a b n places procs:Int) (w:World):
  Calls Tryz.prog 181 #[insV op r a b n,.int .i64 places,.int .i64 procs] w fun e w'=>e=.returned (.bool (qai op r a b n places procs))/\Below w.heap.size w w':=by
 rcases zK (inB r 0 3 && inB a 0 3 && inB b 0 3 && inB procs 1 4) with h | h
 ·have hh:=h
  simp only [Bool.and_eq_true] at hh
  obtain ⟨⟨⟨h1,h2⟩,h3⟩,h4⟩:=hh
  have h5:1<=procs:=by simp [inB] at h4;omega
  have h6:procs<=4:=by simp [inB] at h4;omega
  have hv:qai op r a b n places procs=qbj op r a b n places procs:=by unfold qai;rw [h];rfl
  rw [hv]
  rcases qfk op with g | rfl | rfl | rfl | rfl | rfl | rfl | rfl | rfl | rfl | rfl | rfl
  ·rw [qg1 _ _ _ _ _ _ _ g];exact qjz op r a b n places procs w h1 h2 h3 h4 h5 h6 g
  ·exact qp3 r a b n places procs w h1 h2 h3 h4 h5 h6
  ·exact qp4 r a b n places procs w h1 h2 h3 h4 h5 h6
  ·exact qp5 r a b n places procs w h1 h2 h3 h4 h5 h6
  ·exact qp6 r a b n places procs w h1 h2 h3 h4 h5 h6
  ·exact qp7 r a b n places procs w h1 h2 h3 h4 h5 h6
  ·exact qp8 r a b n places procs w h1 h2 h3 h4 h5 h6
  ·exact qp9 r a b n places procs w h1 h2 h3 h4 h5 h6
  ·exact qqa r a b n places procs w h1 h2 h3 h4 h5 h6
  ·exact qqb r a b n places procs w h1 h2 h3 h4 h5 h6
  ·exact qn0 r a b n places procs w h1 h2 h3 h4 h5 h6
  ·exact qn1 r a b n places procs w h1 h2 h3 h4 h5 h6
 ·have hv:qai op r a b n places procs=false:=by unfold qai;rw [h];rfl
  rw [hv]
  exact qlr op r a b n places procs w h
theorem qk5 (op r a b n places procs:Int) (w:World) (h:procs<1\/4<procs):
  Calls Tryz.prog 221 #[insV op r a b n,.int .i64 places,.int .i64 procs] w fun e w'=>e=.returned (.bool false)/\Below w.heap.size w w':=by
 rcases h with h | h
 ·go_enter Tryz.func221,Tryz.ntmps221
  go_wp2
  go_ret
  exact ⟨rfl,by go_grown⟩
 ·have h':¬ procs<1:=by omega
  go_enter Tryz.func221,Tryz.ntmps221
  go_wp2
  go_ret
  exact ⟨rfl,by go_grown⟩
theorem qjr (op r a b n places procs:Int) (w:World) (h5:1<=procs) (h6:procs<=4) (h:op<1\/11<op):
  Calls Tryz.prog 221 #[insV op r a b n,.int .i64 places,.int .i64 procs] w fun e w'=>e=.returned (.bool false)/\Below w.heap.size w w':=by
 go_enter Tryz.func221,Tryz.ntmps221
 go_wp2_with (go_at_call 205;refine (qnq _ _ _ _ _ _ h).mono ?_;rintro e w1 ⟨rfl,hb1⟩)
 first|(go_region_with (fail)) | fail
 all_goals
  go_wp2
  go_ret
  exact ⟨rfl,qjs hb1⟩
theorem qf4 (op r a b n places procs:Int) (w:World):
  Calls Tryz.prog 221 #[insV op r a b n,.int .i64 places,.int .i64 procs] w fun e w'=>e=.returned (.bool (qai op r a b n places procs))/\Below w.heap.size w w':=by
 by_cases hp:procs<1\/4<procs
 ·have hv:qai op r a b n places procs=false:=by simp [qai,inB];omega
  rw [hv]
  exact qk5 op r a b n places procs w hp
 ·have h5:1<=procs:=by omega
  have h6:procs<=4:=by omega
  rcases qfk op with g | rfl | rfl | rfl | rfl | rfl | rfl | rfl | rfl | rfl | rfl | rfl
  ·have hv:qai op r a b n places procs=false:=by unfold qai;rw [qg1 _ _ _ _ _ _ _ g];simp
   rw [hv]
   exact qjr op r a b n places procs w h5 h6 g
  ·by_cases g0:a=0
   case neg=>
    have hv:qai 1 r a b n places procs=false:=by simp [qai,qbj,g0]
    rw [hv]
    exact qd3 r a b n places procs w h5 h6 (by simp [qa1];omega)
   subst g0
   by_cases g1:b=0
   case neg=>
    have hv:qai 1 r 0 b n places procs=false:=by simp [qai,qbj,g1]
    rw [hv]
    exact qd3 r 0 b n places procs w h5 h6 (by simp [qa1];omega)
   subst g1
   refine (qhy r n places procs w h5 h6).mono ?_
   rintro e w1 ⟨rfl,hb⟩
   refine ⟨qax ?_,hb⟩
   rw [Bool.eq_iff_iff]
   simp [qai,qbj,inB,belB] <;> omega
  ·by_cases g0:n=0
   case neg=>
    have hv:qai 2 r a b n places procs=false:=by simp [qai,qbj,g0]
    rw [hv]
    exact qb1 2 r a b n places procs w h5 h6 (by omega) (by omega) (by simp [qa1];omega)
   subst g0
   refine (qb0 2 r a b places procs w h5 h6 (by omega) (by omega)).mono ?_
   rintro e w1 ⟨rfl,hb⟩
   refine ⟨qax ?_,hb⟩
   rw [Bool.eq_iff_iff]
   simp [qai,qbj,inB,belB] <;> omega
  ·by_cases g0:n=0
   case neg=>
    have hv:qai 3 r a b n places procs=false:=by simp [qai,qbj,g0]
    rw [hv]
    exact qb1 3 r a b n places procs w h5 h6 (by omega) (by omega) (by simp [qa1];omega)
   subst g0
   refine (qb0 3 r a b places procs w h5 h6 (by omega) (by omega)).mono ?_
   rintro e w1 ⟨rfl,hb⟩
   refine ⟨qax ?_,hb⟩
   rw [Bool.eq_iff_iff]
   simp [qai,qbj,inB,belB] <;> omega
  ·by_cases g0:n=0
   case neg=>
    have hv:qai 4 r a b n places procs=false:=by simp [qai,qbj,g0]
    rw [hv]
    exact qb1 4 r a b n places procs w h5 h6 (by omega) (by omega) (by simp [qa1];omega)
   subst g0
   refine (qb0 4 r a b places procs w h5 h6 (by omega) (by omega)).mono ?_
   rintro e w1 ⟨rfl,hb⟩
   refine ⟨qax ?_,hb⟩
   rw [Bool.eq_iff_iff]
   simp [qai,qbj,inB,belB] <;> omega
  ·by_cases g0:n=0
   case neg=>
    have hv:qai 5 r a b n places procs=false:=by simp [qai,qbj,g0]
    rw [hv]
    exact qb1 5 r a b n places procs w h5 h6 (by omega) (by omega) (by simp [qa1];omega)
   subst g0
   refine (qb0 5 r a b places procs w h5 h6 (by omega) (by omega)).mono ?_
   rintro e w1 ⟨rfl,hb⟩
   refine ⟨qax ?_,hb⟩
   rw [Bool.eq_iff_iff]
   simp [qai,qbj,inB,belB] <;> omega
  ·by_cases g0:r=0
   case neg=>
    have hv:qai 6 r a b n places procs=false:=by simp [qai,qbj,g0]
    rw [hv]
    exact qdn r a b n places procs w h5 h6 (by simp [qa1];omega)
   subst g0
   by_cases g1:b=0
   case neg=>
    have hv:qai 6 0 a b n places procs=false:=by simp [qai,qbj,g1]
    rw [hv]
    exact qdn 0 a b n places procs w h5 h6 (by simp [qa1];omega)
   subst g1
   refine (qgv a n places procs w h5 h6).mono ?_
   rintro e w1 ⟨rfl,hb⟩
   refine ⟨qax ?_,hb⟩
   rw [Bool.eq_iff_iff]
   simp [qai,qbj,inB,belB] <;> omega
  ·by_cases g0:a=0
   case neg=>
    have hv:qai 7 r a b n places procs=false:=by simp [qai,qbj,g0]
    rw [hv]
    exact qdo r a b n places procs w h5 h6 (by simp [qa1];omega)
   subst g0
   by_cases g1:b=0
   case neg=>
    have hv:qai 7 r 0 b n places procs=false:=by simp [qai,qbj,g1]
    rw [hv]
    exact qdo r 0 b n places procs w h5 h6 (by simp [qa1];omega)
   subst g1
   refine (qgw r n places procs w h5 h6).mono ?_
   rintro e w1 ⟨rfl,hb⟩
   refine ⟨qax ?_,hb⟩
   rw [Bool.eq_iff_iff]
   simp [qai,qbj,inB,belB] <;> omega
  ·by_cases g0:r=0
   case neg=>
    have hv:qai 8 r a b n places procs=false:=by simp [qai,qbj,g0]
    rw [hv]
    exact qcj r a b n places procs w h5 h6 (by simp [qa1];omega)
   subst g0
   by_cases g1:b=0
   case neg=>
    have hv:qai 8 0 a b n places procs=false:=by simp [qai,qbj,g1]
    rw [hv]
    exact qcj 0 a b n places procs w h5 h6 (by simp [qa1];omega)
   subst g1
   by_cases g2:n=0
   case neg=>
    have hv:qai 8 0 a 0 n places procs=false:=by simp [qai,qbj,g2]
    rw [hv]
    exact qcj 0 a 0 n places procs w h5 h6 (by simp [qa1];omega)
   subst g2
   refine (qf5 a places procs w h5 h6).mono ?_
   rintro e w1 ⟨rfl,hb⟩
   refine ⟨qax ?_,hb⟩
   rw [Bool.eq_iff_iff]
   simp [qai,qbj,inB,belB] <;> omega
  ·by_cases g0:r=0
   case neg=>
    have hv:qai 9 r a b n places procs=false:=by simp [qai,qbj,g0]
    rw [hv]
    exact qct r a b n places procs w h5 h6 (by simp [qa1];omega)
   subst g0
   by_cases g1:a=0
   case neg=>
    have hv:qai 9 0 a b n places procs=false:=by simp [qai,qbj,g1]
    rw [hv]
    exact qct 0 a b n places procs w h5 h6 (by simp [qa1];omega)
   subst g1
   by_cases g2:b=0
   case neg=>
    have hv:qai 9 0 0 b n places procs=false:=by simp [qai,qbj,g2]
    rw [hv]
    exact qct 0 0 b n places procs w h5 h6 (by simp [qa1];omega)
   subst g2
   refine (qgu n places procs w h5 h6).mono ?_
   rintro e w1 ⟨rfl,hb⟩
   refine ⟨qax ?_,hb⟩
   rw [Bool.eq_iff_iff]
   simp [qai,qbj,inB,belB] <;> omega
  ·by_cases g0:r=0
   case neg=>
    have hv:qai 10 r a b n places procs=false:=by simp [qai,qbj,g0]
    rw [hv]
    exact qdp r a b n places procs w h5 h6 (by simp [qa1];omega)
   subst g0
   by_cases g1:b=0
   case neg=>
    have hv:qai 10 0 a b n places procs=false:=by simp [qai,qbj,g1]
    rw [hv]
    exact qdp 0 a b n places procs w h5 h6 (by simp [qa1];omega)
   subst g1
   refine (qgx a n places procs w h5 h6).mono ?_
   rintro e w1 ⟨rfl,hb⟩
   refine ⟨qax ?_,hb⟩
   rw [Bool.eq_iff_iff]
   simp [qai,qbj,inB,belB] <;> omega
  ·by_cases g0:r=0
   case neg=>
    have hv:qai 11 r a b n places procs=false:=by simp [qai,qbj,g0]
    rw [hv]
    exact qb8 r a b n places procs w h5 h6 (by simp [qa1];omega)
   subst g0
   by_cases g1:a=0
   case neg=>
    have hv:qai 11 0 a b n places procs=false:=by simp [qai,qbj,g1]
    rw [hv]
    exact qb8 0 a b n places procs w h5 h6 (by simp [qa1];omega)
   subst g1
   by_cases g2:b=0
   case neg=>
    have hv:qai 11 0 0 b n places procs=false:=by simp [qai,qbj,g2]
    rw [hv]
    exact qb8 0 0 b n places procs w h5 h6 (by simp [qa1];omega)
   subst g2
   by_cases g3:n=0
   case neg=>
    have hv:qai 11 0 0 0 n places procs=false:=by simp [qai,qbj,g3]
    rw [hv]
    exact qb8 0 0 0 n places procs w h5 h6 (by simp [qa1];omega)
   subst g3
   refine (qhx places procs w h5 h6).mono ?_
   rintro e w1 ⟨rfl,hb⟩
   refine ⟨qax ?_,hb⟩
   rw [Bool.eq_iff_iff]
   simp [qai,qbj,inB] <;> omega
structure I5 where
 o:Int
 r:Int
 a:Int
 b:Int
 n:Int
def qaj (w:World) (b off len:Nat) (g:Nat->I5):Prop:=∀ i,i<len->
 w.cell? ⟨b,off+i*5,none⟩=some (.int .i64 (g i).o)/\w.cell? ⟨b,off+i*5+1,none⟩=some (.int .i64 (g i).r)/\w.cell? ⟨b,off+i*5+2,none⟩=some (.int .i64 (g i).a)/\w.cell? ⟨b,off+i*5+3,none⟩=some (.int .i64 (g i).b)/\w.cell? ⟨b,off+i*5+4,none⟩=some (.int .i64 (g i).n)
theorem qaj.below {w w':World} {B b off len:Nat} {g:Nat->I5} (h:qaj w b off len g) (hb:Below B w w') (hB:b<B):qaj w' b off len g:=by
 intro i hi
 obtain ⟨h0,h1,h2,h3,h4⟩:=h i hi
 exact ⟨(hb.cell hB).trans h0,(hb.cell hB).trans h1,(hb.cell hB).trans h2,(hb.cell hB).trans h3,(hb.cell hB).trans h4⟩
def okAt (g:Nat->I5) (len procs:Int) (i:Nat):Bool:=qai (g i).o (g i).r (g i).a (g i).b (g i).n len procs
def qke (g:Nat->I5) (len procs:Int) (k:Nat):Bool:=(List.range k).all (okAt g len procs)
def qab (g:Nat->I5) (len:Nat) (procs:Int):Bool:=qke g len procs len && (inB len 1 30 && inB procs 1 4)
theorem qj4 (g:Nat->I5) (len procs:Int) (k:Nat):qke g len procs (k+1)=(qke g len procs k && okAt g len procs k):=by
 simp [qke,List.range_succ]
theorem qie (g:Nat->I5) (len procs:Int) {k m:Nat} (hk:k<m) (h:okAt g len procs k=false):qke g len procs m=false:=by
 rw [qke,List.all_eq_false]
 exact ⟨k,List.mem_range.2 hk,by simp [h]⟩
theorem qfa (b off len cap:Nat) (g:Nat->I5) (procs:Int) (w:World) (hlen:len<=maxLen) (hb:b<w.heap.size) (hc:qaj w b off len g):
  Calls Tryz.prog 121 #[.slice (some ⟨b,off,none⟩) len cap,.int .i64 procs] w fun e w'=>e=.returned (.bool (qab g len procs))/\Below w.heap.size w w':=by
 unfold maxLen at hlen
 have HC:Hid (qaj w b off len g):=hc
 clear hc
 go_enter Tryz.func121,Tryz.ntmps121
 go_wp2_with fail
 go_loopw [5] (fun i wr=>∃ k:Nat,k<=len/\i=.int .i64 k/\Hid (qke g len procs k=true)/\Below w.heap.size w wr) (fun i _=>len - (intOf i).toNat)
 case atStart=>exact ⟨0,Nat.zero_le _,rfl,rfl,Below.refl _ _⟩
 case round=>
  obtain ⟨k,hk,rfl,HA,hbw⟩:=hrel
  by_cases hlt:k<len
  ·obtain ⟨c0,c1,c2,c3,c4⟩:=HC.out.below hbw hb k hlt
   rcases zK (okAt g len procs k) with ho | ho
   ·have HO:Hid (okAt g len procs k=true):=ho
    have ho':qai (g k).o (g k).r (g k).a (g k).b (g k).n len procs=true:=ho
    clear ho
    go_wp2_with (go_at_call 181;refine (qgh _ _ _ _ _ _ _ _).mono ?_;rintro e w1 ⟨rfl,hb1⟩)
    go_roundw
    case rel=>exact ⟨k+1,by omega,by go_num,by rw [Hid,qj4,HA.out,HO.out];rfl,hbw.trans (hb1.mono hbw.size)⟩
    case measure=>simp [intOf];omega
   ·have HO:Hid (okAt g len procs k=false):=ho
    have ho':qai (g k).o (g k).r (g k).a (g k).b (g k).n len procs=false:=ho
    clear ho
    go_wp2_with (go_at_call 181;refine (qgh _ _ _ _ _ _ _ _).mono ?_;rintro e w1 ⟨rfl,hb1⟩)
    go_ret
    exact ⟨qax (by rw [qab,qie g len procs hlt HO.out];rfl),hbw.trans (hb1.mono hbw.size)⟩
  ·have hkl:k=len:=by omega
   have HP:Hid (qab g len procs=(inB len 1 30 && inB procs 1 4)):=by
    have hA:=HA.out
    rw [hkl] at hA
    rw [Hid,qab,hA];rfl
   clear HA hkl
   rcases zK (inB len 1 30) with t0 | t0
   all_goals
    go_wp2_with (go_at_call 71;refine (l1In_any _ _ _ _).mono ?_;rintro e w' ⟨rfl,rfl⟩)
    go_ret
    exact ⟨qax (by rw [HP.out,t0] <;> rfl),hbw⟩
theorem qdj (b off len cap:Nat) (g:Nat->I5) (procs:Int) (w:World) (hlen:len<=maxLen) (hb:b<w.heap.size) (hc:qaj w b off len g):
  Calls Tryz.prog 184 #[.slice (some ⟨b,off,none⟩) len cap,.int .i64 procs] w fun e w'=>e=.returned (.bool (qab g len procs))/\Below w.heap.size w w':=by
 unfold maxLen at hlen
 have HC:Hid (qaj w b off len g):=hc
 clear hc
 by_cases hr:1<=len/\len<=30
 case neg=>
  have hv:qab g len procs=false:=by
   rw [qab,show inB len 1 30=false from by simp [inB];omega];simp
  rw [hv]
  clear hv
  by_cases h1:len<1
  ·have h1':(len:Int)<1:=by omega
   go_enter Tryz.func184,Tryz.ntmps184
   go_wp2
   go_ret
   exact ⟨rfl,Below.refl _ _⟩
  ·have h1':¬ (len:Int)<1:=by omega
   have h2':(30:Int)<len:=by omega
   go_enter Tryz.func184,Tryz.ntmps184
   go_wp2
   go_ret
   exact ⟨rfl,Below.refl _ _⟩
 case pos=>
 obtain ⟨r1,r2⟩:=hr
 have h1':¬ (len:Int)<1:=by omega
 have h2':¬ (30:Int)<len:=by omega
 go_enter Tryz.func184,Tryz.ntmps184
 go_wp2_with fail
 go_loopw [17] (fun i wr=>∃ k:Nat,k<=len/\i=.int .i64 k/\Hid (qke g len procs k=true)/\Below w.heap.size w wr) (fun i _=>len - (intOf i).toNat)
 case atStart=>exact ⟨0,Nat.zero_le _,rfl,rfl,Below.refl _ _⟩
 case round=>
  obtain ⟨k,hk,rfl,HA,hbw⟩:=hrel
  have hs:=hbw.size
  by_cases hlt:k<len
  ·obtain ⟨c0,c1,c2,c3,c4⟩:=HC.out.below hbw hb k hlt
   rcases zK (okAt g len procs k) with ho | ho
   ·have HO:Hid (okAt g len procs k=true):=ho
    have ho':qai (g k).o (g k).r (g k).a (g k).b (g k).n len procs=true:=ho
    clear ho
    go_wp2_with (go_at_call 221;refine (qf4 _ _ _ _ _ _ _ _).mono ?_;rintro e w1 ⟨rfl,hb1⟩)
    go_roundw
    case rel=>exact ⟨k+1,by omega,by go_num,by rw [Hid,qj4,HA.out,HO.out];rfl,(hbw.alloc hs _).trans (hb1.mono (by simp;omega))⟩
    case measure=>simp [intOf];omega
   ·have HO:Hid (okAt g len procs k=false):=ho
    have ho':qai (g k).o (g k).r (g k).a (g k).b (g k).n len procs=false:=ho
    clear ho
    go_wp2_with (go_at_call 221;refine (qf4 _ _ _ _ _ _ _ _).mono ?_;rintro e w1 ⟨rfl,hb1⟩)
    go_ret
    exact ⟨qax (by rw [qab,qie g len procs hlt HO.out];rfl),(hbw.alloc hs _).trans (hb1.mono (by simp;omega))⟩
  ·have hkl:k=len:=by omega
   have h30:inB len 1 30=true:=by simp [inB];omega
   have HP:Hid (qab g len procs=true):=by
    have hA:=HA.out
    rw [hkl] at hA
    have hp:inB procs 1 4=true:=by
     have h0:okAt g len procs 0=true:=by
      have:=(List.all_eq_true.1 (show (List.range len).all (okAt g len procs)=true from hA)) 0 (List.mem_range.2 (by omega))
      exact this
     simp only [okAt,qai,Bool.and_eq_true] at h0
     exact h0.1.2
    rw [Hid,qab,hA,h30,hp];rfl
   clear HA hkl h30
   go_wp2
   go_ret
   exact ⟨qax HP.out.symm,hbw⟩
attribute [local go_sem] qii qij qhe qg8 qg9 qfr qhd qhf qhg qft qfu qe4 qhb qhc qfs qhh qhi qfv qig qih qha
theorem qm4 (n a r0 r1 r2 r3:Int) (w:World) (h0:0<=a) (h3:a<=3):
  Calls Tryz.prog 204 #[.iface 278 (quw n a),regV r0 r1 r2 r3] w fun e w'=>e=.returned (evV 2 n (zi [r0,r1,r2,r3] a.toNat))/\Below w.heap.size w w':=by
 have ha:a=0\/a=1\/a=2\/a=3:=by omega
 clear h0 h3
 rcases ha with rfl | rfl | rfl | rfl
 ·go_enter Tryz.func204,Tryz.ntmps204
  go_wp2_with fail
  go_region
  all_goals
   go_wp2
   refine bodyPost_ret (v:=evV 2 n r0) (by simp [results,Tryz.results204,go_sem]) rfl ⟨rfl,?_⟩
   go_grown
 ·go_enter Tryz.func204,Tryz.ntmps204
  go_wp2_with fail
  go_region
  all_goals
   go_wp2
   refine bodyPost_ret (v:=evV 2 n r1) (by simp [results,Tryz.results204,go_sem]) rfl ⟨rfl,?_⟩
   go_grown
 ·go_enter Tryz.func204,Tryz.ntmps204
  go_wp2_with fail
  go_region
  all_goals
   go_wp2
   refine bodyPost_ret (v:=evV 2 n r2) (by simp [results,Tryz.results204,go_sem]) rfl ⟨rfl,?_⟩
   go_grown
 ·go_enter Tryz.func204,Tryz.ntmps204
  go_wp2_with fail
  go_region
  all_goals
   go_wp2
   refine bodyPost_ret (v:=evV 2 n r3) (by simp [results,Tryz.results204,go_sem]) rfl ⟨rfl,?_⟩
   go_grown
theorem qm5 (r n r0 r1 r2 r3:Int) (w:World):
  Calls Tryz.prog 204 #[.iface 280 (qu5 r n),regV r0 r1 r2 r3] w fun e w'=>e=.returned (evV 3 n 0)/\Below w.heap.size w w':=by
 go_enter Tryz.func204,Tryz.ntmps204
 go_wp2
 refine bodyPost_ret (v:=evV 3 n 0) (by simp [results,Tryz.results204,go_sem]) rfl ⟨rfl,?_⟩
 go_grown
theorem qky (a r0 r1 r2 r3:Int) (w:World) (h0:0<=a) (h3:a<=3):
  Calls Tryz.prog 204 #[.iface 282 (qnr a),regV r0 r1 r2 r3] w fun e w'=>e=.returned (evV 4 0 (zi [r0,r1,r2,r3] a.toNat))/\Below w.heap.size w w':=by
 have ha:a=0\/a=1\/a=2\/a=3:=by omega
 clear h0 h3
 rcases ha with rfl | rfl | rfl | rfl
 ·go_enter Tryz.func204,Tryz.ntmps204
  go_wp2
  refine bodyPost_ret (v:=evV 4 0 r0) (by simp [results,Tryz.results204,go_sem]) rfl ⟨rfl,?_⟩
  go_grown
 ·go_enter Tryz.func204,Tryz.ntmps204
  go_wp2
  refine bodyPost_ret (v:=evV 4 0 r1) (by simp [results,Tryz.results204,go_sem]) rfl ⟨rfl,?_⟩
  go_grown
 ·go_enter Tryz.func204,Tryz.ntmps204
  go_wp2
  refine bodyPost_ret (v:=evV 4 0 r2) (by simp [results,Tryz.results204,go_sem]) rfl ⟨rfl,?_⟩
  go_grown
 ·go_enter Tryz.func204,Tryz.ntmps204
  go_wp2
  refine bodyPost_ret (v:=evV 4 0 r3) (by simp [results,Tryz.results204,go_sem]) rfl ⟨rfl,?_⟩
  go_grown
theorem qpe (r n r0 r1 r2 r3:Int) (w:World):
  Calls Tryz.prog 204 #[.iface 284 (setV r n),regV r0 r1 r2 r3] w fun e w'=>e=.returned (evV 1 0 0)/\Below w.heap.size w w':=by
 go_enter Tryz.func204,Tryz.ntmps204
 go_wp2
 refine bodyPost_ret (v:=evV 1 0 0) (by simp [results,Tryz.results204,go_sem]) rfl ⟨rfl,?_⟩
 go_grown
theorem qda (op r a b r0 r1 r2 r3:Int) (w:World):
  Calls Tryz.prog 204 #[.iface 286 (qkn op r a b),regV r0 r1 r2 r3] w fun e w'=>e=.returned (evV 1 0 0)/\Below w.heap.size w w':=by
 go_enter Tryz.func204,Tryz.ntmps204
 go_wp2
 refine bodyPost_ret (v:=evV 1 0 0) (by simp [results,Tryz.results204,go_sem]) rfl ⟨rfl,?_⟩
 go_grown
theorem qm3 (n r0 r1 r2 r3:Int) (w:World):
  Calls Tryz.prog 204 #[.iface 288 (qt4 n),regV r0 r1 r2 r3] w fun e w'=>e=.returned (evV 1 0 0)/\Below w.heap.size w w':=by
 go_enter Tryz.func204,Tryz.ntmps204
 go_wp2
 refine bodyPost_ret (v:=evV 1 0 0) (by simp [results,Tryz.results204,go_sem]) rfl ⟨rfl,?_⟩
 go_grown
theorem qm6 (a n r0 r1 r2 r3:Int) (w:World):
  Calls Tryz.prog 204 #[.iface 290 (qvh a n),regV r0 r1 r2 r3] w fun e w'=>e=.returned (evV 1 0 0)/\Below w.heap.size w w':=by
 go_enter Tryz.func204,Tryz.ntmps204
 go_wp2
 refine bodyPost_ret (v:=evV 1 0 0) (by simp [results,Tryz.results204,go_sem]) rfl ⟨rfl,?_⟩
 go_grown
theorem qpd (r0 r1 r2 r3:Int) (w:World):
  Calls Tryz.prog 204 #[.iface 292 endV,regV r0 r1 r2 r3] w fun e w'=>e=.returned (evV 1 0 0)/\Below w.heap.size w w':=by
 go_enter Tryz.func204,Tryz.ntmps204
 go_wp2
 refine bodyPost_ret (v:=evV 1 0 0) (by simp [results,Tryz.results204,go_sem]) rfl ⟨rfl,?_⟩
 go_grown
def evK (o:Int):Int:=if o=6 then 2 else if o=7 then 3 else if o=8 then 4 else 1
def evP (o n:Int):Int:=if o=6 then n else if o=7 then n else 0
def evW (o a:Int) (rs:List Int):Int:=if o=6 then zi rs a.toNat else if o=8 then zi rs a.toNat else 0
def qxl (o r a b n:Int):Value:=
 if o=1 then .iface 284 (setV r n) else if o=6 then .iface 278 (quw n a) else if o=7 then .iface 280 (qu5 r n)
 else if o=8 then .iface 282 (qnr a) else if o=9 then .iface 288 (qt4 n) else if o=10 then .iface 290 (qvh a n)
 else if o=11 then .iface 292 endV else .iface 286 (qkn o r a b)
theorem qlj (o r a b n:Int) (w:World) (h1:1<=o) (h2:o<=11):
  Calls Tryz.prog 205 #[insV o r a b n] w fun e w'=>e=.returned (qxl o r a b n)/\Below w.heap.size w w':=by
 rcases qfk o with g | rfl | rfl | rfl | rfl | rfl | rfl | rfl | rfl | rfl | rfl | rfl
 ·omega
 ·exact qfo r a b n w
 ·exact qgb r a b n w
 ·exact qgc r a b n w
 ·exact qgd r a b n w
 ·exact qge r a b n w
 ·exact qei r a b n w
 ·exact qej r a b n w
 ·exact qdz r a b n w
 ·exact qeh r a b n w
 ·exact qek r a b n w
 ·exact qfn r a b n w
theorem qkz (o r a b n r0 r1 r2 r3:Int) (w:World) (h1:1<=o) (h2:o<=11) (h3:0<=a) (h4:a<=3):
  Calls Tryz.prog 204 #[qxl o r a b n,regV r0 r1 r2 r3] w fun e w'=>e=.returned (evV (evK o) (evP o n) (evW o a [r0,r1,r2,r3]))/\Below w.heap.size w w':=by
 rcases qfk o with g | rfl | rfl | rfl | rfl | rfl | rfl | rfl | rfl | rfl | rfl | rfl
 ·omega
 ·exact qpe r n r0 r1 r2 r3 w
 ·exact qda 2 r a b r0 r1 r2 r3 w
 ·exact qda 3 r a b r0 r1 r2 r3 w
 ·exact qda 4 r a b r0 r1 r2 r3 w
 ·exact qda 5 r a b r0 r1 r2 r3 w
 ·exact qm4 n a r0 r1 r2 r3 w h3 h4
 ·exact qm5 r n r0 r1 r2 r3 w
 ·exact qky a r0 r1 r2 r3 w h3 h4
 ·exact qm3 n r0 r1 r2 r3 w
 ·exact qm6 a n r0 r1 r2 r3 w
 ·exact qpd r0 r1 r2 r3 w
def qcp (g:Nat->I5) (len:Nat) (p:Int) (rs os:List Int) (code:Int):Bool:=qab g len 4 && qc9 len p rs os code && (code == 0)
def nxK (g:Nat->I5) (len:Nat) (p:Int) (rs os:List Int) (code:Int):Int:=if qcp g len p rs os code=true then evK (g p.toNat).o else 0
def nxP (g:Nat->I5) (len:Nat) (p:Int) (rs os:List Int) (code:Int):Int:=if qcp g len p rs os code=true then evP (g p.toNat).o (g p.toNat).n else 0
def nxW (g:Nat->I5) (len:Nat) (p:Int) (rs os:List Int) (code:Int):Int:=if qcp g len p rs os code=true then evW (g p.toNat).o (g p.toNat).a rs else 0
theorem qsr {g:Nat->I5} {len:Nat} {p:Int} {rs os:List Int} {code:Int} (h:qcp g len p rs os code=false):evV (nxK g len p rs os code) (nxP g len p rs os code) (nxW g len p rs os code)=evV 0 0 0:=by
 simp [nxK,nxP,nxW,h]
theorem qsq {g:Nat->I5} {len k:Nat} {rs os:List Int} {code:Int} (h:qcp g len (k:Int) rs os code=true):evV (nxK g len k rs os code) (nxP g len k rs os code) (nxW g len k rs os code)=evV (evK (g k).o) (evP (g k).o (g k).n) (evW (g k).o (g k).a rs):=by
 simp [nxK,nxP,nxW,h]
theorem qxm {a b:Value} (h:a=b):Ending.returned a=.returned b:=by rw [h]
theorem qbx {g:Nat->I5} {len:Nat} {procs:Int} (h:qab g len procs=true) {k:Nat} (hk:k<len):qai (g k).o (g k).r (g k).a (g k).b (g k).n len procs=true:=by
 simp only [qab,Bool.and_eq_true] at h
 have h1:=h.1
 rw [qke,List.all_eq_true] at h1
 exact h1 k (List.mem_range.2 hk)
theorem qck {o r a b n places procs:Int} (h:qai o r a b n places procs=true):(1<=o/\o<=11)/\(0<=r/\r<=3)/\(0<=a/\a<=3)/\(0<=b/\b<=3):=by
 simp only [qai,Bool.and_eq_true] at h
 obtain ⟨⟨⟨⟨h1,h2⟩,h3⟩,_⟩,h5⟩:=h
 simp only [inB,decide_eq_true_eq] at h1 h2 h3
 refine ⟨?_,h1,h2,h3⟩
 apply Classical.byContradiction
 intro hn
 rw [qg1 _ _ _ _ _ _ _ (by omega)] at h5
 cases h5
theorem qbi {g:Nat->I5} {len:Nat} {p:Int} {rs os:List Int} {code:Int} (h:qcp g len p rs os code=true):qab g len 4=true/\qc9 len p rs os code=true/\code=0:=by
 simp only [qcp,Bool.and_eq_true,beq_iff_eq] at h
 exact ⟨h.1.1,h.1.2,h.2⟩
theorem qcy {n:Nat} {p:Int} {rs os:List Int} {code:Int} (h:qc9 n p rs os code=true):(∃ r0 r1 r2 r3,rs=[r0,r1,r2,r3]/\numB r0=true/\numB r1=true/\numB r2=true/\numB r3=true)/\(∃ k:Nat,p=k/\k<n)/\os.length<=60/\allN os=true:=by
 simp only [qc9,qc8,outB,Bool.and_eq_true,beq_iff_eq,decide_eq_true_eq] at h
 obtain ⟨⟨⟨⟨h4,hr⟩,_⟩,hp⟩,h60,ho⟩:=h
 have h4':rs.length=4:=by omega
 refine ⟨?_,?_,by omega,ho⟩
 ·match rs,h4' with
  | [r0,r1,r2,r3],_=>
   simp only [allN,List.all_cons,List.all_nil,Bool.and_eq_true,and_true] at hr
   exact ⟨r0,r1,r2,r3,rfl,hr⟩
 ·simp only [belB,decide_eq_true_eq] at hp
  obtain ⟨k,rfl⟩:=Int.eq_ofNat_of_zero_le hp.1
  exact ⟨k,rfl,by omega⟩
theorem qnk (b off len cap:Nat) (g:Nat->I5) (p code:Int) (ra oa:Option Addr) (rc oc:Nat) (rs os:List Int) (w:World) (ho:os.length<=1048576) (h1:Sl w ra rs) (h2:Sl w oa os) (t2:qab g len 4=true) (hw:qcp g len p rs os code=false):
  Calls Tryz.prog 162 #[.slice (some ⟨b,off,none⟩) len cap,stV p ra rs.length rc oa os.length oc code] w fun e w'=>e=.returned (evV 0 0 0)/\Below w.heap.size w w':=by
 have H1:Hid (Sl w ra rs):=h1
 have H2:Hid (Sl w oa os):=h2
 clear h1 h2
 rcases zK (code != 0) with t0 | t0
 ·clear hw t2
  go_enter Tryz.func162,Tryz.ntmps162
  go_wp2
  refine bodyPost_ret (v:=evV 0 0 0) (by simp [results,Tryz.results162,go_sem]) rfl ⟨rfl,?_⟩
  go_grown
 have hc:(code == 0)=true:=by simpa using t0
 have t1:qc9 len p rs os code=false:=by
  simp only [qcp,t2,hc,Bool.and_true,Bool.true_and] at hw
  exact hw
 clear hw hc t2
 go_enter Tryz.func162,Tryz.ntmps162
 go_wp2_with fail
 refine (qed _ _ _ _ _ _ _ _ _ rs os _ ho (H1.out.below (by go_grown)) (H2.out.below (by go_grown))).mono ?_
 rintro e w1 ⟨rfl,b1⟩
 have B1:Hid (Below w.heap.size w w1):=qah (by go_grown) b1 (by simp;omega)
 obtain ⟨hc1,hf1⟩:=qam b1
 clear b1
 go_wp2
 refine bodyPost_ret (v:=evV 0 0 0) (by simp [results,Tryz.results162,go_sem,hc1]) rfl ⟨rfl,?_⟩
 have:=B1.out
 go_grown
def qfw (o a b n:Int):Int:=if o=1 then n else if o=2 then a+b else if o=3 then a - b else if o=4 then a*b else if a<b then 1 else 0
def goP (len:Nat) (p:Int):Int:=if (len:Int)<=p+1 then p else p+1
def goC (len:Nat) (p code:Int):Int:=if (len:Int)<=p+1 then 2 else code
structure S4 where
 p:Int
 rs:List Int
 os:List Int
 c:Int
def goS (len:Nat) (p:Int) (rs os:List Int) (code:Int):S4:=⟨goP len p,rs,os,goC len p code⟩
def qac (len:Nat) (x:I5) (p:Int) (rs os:List Int) (code v:Int):S4:=
 if x.o=6 then goS len p rs os code
 else if x.o=7 then goS len p (rs.set x.r.toNat v) os code
 else if x.o=8 then (if os.length=60 then ⟨p,rs,os,2⟩ else goS len p rs (os ++ [v]) code)
 else if x.o=9 then ⟨x.n,rs,os,code⟩
 else if x.o=10 then (if zi rs x.a.toNat=0 then ⟨x.n,rs,os,code⟩ else goS len p rs os code)
 else if x.o=11 then ⟨p,rs,os,1⟩
 else (if numB (qfw x.o (zi rs x.a.toNat) (zi rs x.b.toNat) x.n)=true then goS len p (rs.set x.r.toNat (qfw x.o (zi rs x.a.toNat) (zi rs x.b.toNat) x.n)) os code else ⟨p,rs,os,2⟩)
def canB (nk np nv k p v:Int):Bool:=
 if nk=3 then (k == 3) && numB v && (if np=9 then belB p 4 else p == np) else (nk != 0) && (k == nk && (p == np && v == nv))
def doB (g:Nat->I5) (len:Nat) (p:Int) (rs os:List Int) (code k q v:Int):Bool:=canB (nxK g len p rs os code) (nxP g len p rs os code) (nxW g len p rs os code) k q v
def doS (g:Nat->I5) (len:Nat) (p:Int) (rs os:List Int) (code k q v:Int):S4:=
 if doB g len p rs os code k q v=true then qac len (g p.toNat) p rs os code v else ⟨p,rs,os,code⟩
theorem qd8 {g:Nat->I5} {len:Nat} {p:Int} {rs os:List Int} {code k q v:Int} (h:doB g len p rs os code k q v=true):qcp g len p rs os code=true:=by
 apply Classical.byContradiction
 intro hn
 have hn':qcp g len p rs os code=false:=by simpa using hn
 simp [doB,canB,nxK,hn'] at h
theorem qbv {a b:Int} (ha:numB a=true) (hb:numB b=true):-1000000000000000000<=a*b/\a*b<=1000000000000000000:=by
 simp only [numB,inB,decide_eq_true_eq] at ha hb
 have h1:(a.natAbs*b.natAbs:Nat)<=1000000000*1000000000:=Nat.mul_le_mul (by omega) (by omega)
 have h2:(a*b).natAbs=a.natAbs*b.natAbs:=Int.natAbs_mul a b
 omega
theorem qa5 {a:Int}:numB a=true ↔ -1000000000<=a/\a<=1000000000:=by simp [numB,inB]
theorem qcr {w w':World} {row:Option Nat} (h:w.grownBy w' row) (n:Nat):w.grownBy (w'.drewN n) row:=⟨h.os,h.tape,h.output,h.size,h.block⟩
theorem zV {w w':World} {row:Option Nat} (h:w.grownBy w' row) {p:Addr} (hp:row=some p.block\/w.heap.size<=p.block) (v:Value):w.grownBy (w'.setCell p v) row:=
 ⟨h.os, h.tape, h.output, by simpa using h.size, fun k hk hne => by
  rw [Below.heap_setCell w' p v k (fun e => by
   subst e
   rcases hp with hp | hp
   ·exact hne hp.symm
   ·omega)]
  exact h.block k hk hne⟩
theorem qau {w w':World} (h:w.grownBy w' none) (row:Option Nat):w.grownBy w' row:=⟨h.os,h.tape,h.output,h.size,fun k hk _=>h.block k hk (by simp)⟩
theorem OwnI.drewN {w:World} {B:Nat} {v:Value} {xs:List Int} (h:OwnI w B v xs) (n:Nat):OwnI (w.drewN n) B v xs:=h
theorem OwnI.setOther {w:World} {B:Nat} {v:Value} {xs:List Int} (h:OwnI w B v xs) {p:Addr} (hne:v.ownBlock≠some p.block) (u:Value):OwnI (w.setCell p u) B v xs:=
 h.kept (row:=some p.block) (zV (World.grownBy.refl w _) (.inl rfl) u) (.inr hne)
theorem zT (w:World) (o:Obj):Below w.heap.size w (w.alloc o):=(Below.refl _ _).alloc (Nat.le_refl _) o
theorem qcu (p code:Int) (ra oa:Option Addr) (rn rc on oc:Nat) (w:World):
  Calls Tryz.prog 153 #[stV p ra rn rc oa on oc code] w fun e w'=>e=.returned (stV p ra rn rc oa on oc 2)/\Below w.heap.size w w':=by
 go_enter Tryz.func153,Tryz.ntmps153
 go_wp2
 refine bodyPost_ret (v:=stV p ra rn rc oa on oc 2) (by simp [results,Tryz.results153,go_sem]) rfl ⟨rfl,?_⟩
 go_grown
theorem qcl (la:Option Addr) (len lc:Nat) (p code:Int) (ra oa:Option Addr) (rn rc on oc:Nat) (w:World) (h0:0<=p) (h1:p<=1000000000):
  Calls Tryz.prog 152 #[.slice la len lc,stV p ra rn rc oa on oc code] w fun e w'=>e=.returned (stV (goP len p) ra rn rc oa on oc (goC len p code))/\Below w.heap.size w w':=by
 by_cases hp:(len:Int)<=p+1
 ·have e1:goP len p=p:=if_pos hp
  have e2:goC len p code=2:=if_pos hp
  rw [e1,e2]
  clear e1 e2
  go_enter Tryz.func152,Tryz.ntmps152
  go_wp2_with fail
  refine (qcu _ _ _ _ _ _ _ _ _).mono ?_
  rintro e w1 ⟨rfl,b1⟩
  have B1:Hid (Below w.heap.size w w1):=qah (by go_grown) b1 (by simp;omega)
  obtain ⟨hc1,hf1⟩:=qam b1
  clear b1
  go_wp2
  refine bodyPost_ret (v:=stV p ra rn rc oa on oc 2) (by simp [results,Tryz.results152,go_sem,hc1]) rfl ⟨rfl,?_⟩
  have:=B1.out
  go_grown
 ·have e1:goP len p=p+1:=if_neg hp
  have e2:goC len p code=code:=if_neg hp
  rw [e1,e2]
  clear e1 e2
  go_enter Tryz.func152,Tryz.ntmps152
  go_wp2
  refine bodyPost_ret (v:=stV (p+1) ra rn rc oa on oc code) (by simp [results,Tryz.results152,go_sem]) rfl ⟨rfl,?_⟩
  go_grown
