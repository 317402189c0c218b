import Derived.Test.YthgpldgkabcopaaGreatDoorYh2
import Derived.Test.YthgpldgkabcopaaGreatDoorYh3
import Derived.Test.YthgpldgkabcopaaGreatDoorYh4
import Derived.Test.YthgpldgkabcopaaGreatDoorYh5
import Derived.Test.YthgpldgkabcopaaGreatDoorYh6
import Derived.OrdersHeld
import Derived.Deep.RegionHeld3
namespace Go.Proofs.YthgpldgkabcopaaGreatDoor
set_option maxRecDepth 100000
set_option maxHeartbeats 1000000
open Go.RowKit
def qbj (op r a b n places procs:Int):Bool:=
 if op=1 then inB n (-1000000000) 1000000000 && a == 0 && b == 0
 else if op=2 then n == 0
 else if op=3 then n == 0
 else if op=4 then n == 0
 else if op=5 then n == 0
 else if op=6 then inB n 0 (procs - 1) && r == 0 && b == 0
 else if op=7 then (inB n 0 (procs - 1) || n == 9) && a == 0 && b == 0
 else if op=8 then r == 0 && b == 0 && n == 0
 else if op=9 then belB n places && r == 0 && a == 0 && b == 0
 else if op=10 then belB n places && r == 0 && b == 0
 else if op=11 then r == 0 && a == 0 && b == 0 && n == 0
 else false
def qak (op r a b n places procs:Int):Bool:=(inB r 0 3 && inB a 0 3 && inB b 0 3 && inB procs 1 4) && qbj op r a b n places procs
theorem qfa (op:Int):(op<1\/11<op)\/op=1\/op=2\/op=3\/op=4\/op=5\/op=6\/op=7\/op=8\/op=9\/op=10\/op=11:=by omega
theorem qgj (op r a b n places procs:Int) (h:op<1\/11<op):qbj op r a b n places procs=false:=by
 unfold qbj
 rw [if_neg (by omega),if_neg (by omega),if_neg (by omega),if_neg (by omega),if_neg (by omega),if_neg (by omega),if_neg (by omega),if_neg (by omega),if_neg (by omega),if_neg (by omega),if_neg (by omega)]
theorem qf5 (op r a b n places procs:Int) (w:World):
  Calls Tryz.prog 82 #[insV op r a b n,.int .i64 places,.int .i64 procs] w fun e w'=>e=.returned (.bool (qak op r a b n places procs))/\Bw w w':=by
 rcases zK (inB r 0 3 && inB a 0 3 && inB b 0 3 && inB procs 1 4) with h | h
 ·have hh:=h
  simp only [Bool.and_eq_true] at hh
  obtain ⟨⟨⟨h1,h2⟩,h3⟩,h4⟩:=hh
  have h5:1<=procs:=by simp [inB] at h4;omega
  have h6:procs<=4:=by simp [inB] at h4;omega
  have hv:qak op r a b n places procs=qbj op r a b n places procs:=by unfold qak;rw [h];rfl
  rw [hv]
  rcases qfa op with g | rfl | rfl | rfl | rfl | rfl | rfl | rfl | rfl | rfl | rfl | rfl
  ·rw [qgj _ _ _ _ _ _ _ g];exact qiq op r a b n places procs w h1 h2 h3 h4 h5 h6 g
  ·exact qoe r a b n places procs w h1 h2 h3 h4 h5 h6
  ·exact qof r a b n places procs w h1 h2 h3 h4 h5 h6
  ·exact qog r a b n places procs w h1 h2 h3 h4 h5 h6
  ·exact qoh r a b n places procs w h1 h2 h3 h4 h5 h6
  ·exact qoi r a b n places procs w h1 h2 h3 h4 h5 h6
  ·exact qoj r a b n places procs w h1 h2 h3 h4 h5 h6
  ·exact qok r a b n places procs w h1 h2 h3 h4 h5 h6
  ·exact qol r a b n places procs w h1 h2 h3 h4 h5 h6
  ·exact qom r a b n places procs w h1 h2 h3 h4 h5 h6
  ·exact qmm r a b n places procs w h1 h2 h3 h4 h5 h6
  ·exact qmn r a b n places procs w h1 h2 h3 h4 h5 h6
 ·have hv:qak op r a b n places procs=false:=by unfold qak;rw [h];rfl
  rw [hv]
  exact qko op r a b n places procs w h
theorem qjv (op r a b n places procs:Int) (w:World) (h:procs<1\/4<procs):
  Calls Tryz.prog 117 #[insV op r a b n,.int .i64 places,.int .i64 procs] w fun e w'=>e=.returned (.bool false)/\Bw w w':=by
 rcases h with h | h
 ·go_enter Tryz.func117,Tryz.ntmps117
  go_wp2
  go_ret
  exact ⟨rfl,by go_grown⟩
 ·have h':¬ procs<1:=by omega
  go_enter Tryz.func117,Tryz.ntmps117
  go_wp2
  go_ret
  exact ⟨rfl,by go_grown⟩
theorem qik (op r a b n places procs:Int) (w:World) (h5:1<=procs) (h6:procs<=4) (h:op<1\/11<op):
  Calls Tryz.prog 117 #[insV op r a b n,.int .i64 places,.int .i64 procs] w fun e w'=>e=.returned (.bool false)/\Bw w w':=by
 go_enter Tryz.func117,Tryz.ntmps117
 go_wp2_with (go_at_call 136;refine (qmd _ _ _ _ _ _ h).mono ?_;rintro e w1 ⟨rfl,hb1⟩)
 first|(go_region_with (fail)) | fail
 all_goals
  go_wp2
  go_ret
  exact ⟨rfl,qil hb1⟩
theorem qfr (op r a b n places procs:Int) (w:World):
  Calls Tryz.prog 117 #[insV op r a b n,.int .i64 places,.int .i64 procs] w fun e w'=>e=.returned (.bool (qak op r a b n places procs))/\Bw w w':=by
 by_cases hp:procs<1\/4<procs
 ·have hv:qak op r a b n places procs=false:=by simp [qak,inB];omega
  rw [hv]
  exact qjv op r a b n places procs w hp
 ·have h5:1<=procs:=by omega
  have h6:procs<=4:=by omega
  rcases qfa op with g | rfl | rfl | rfl | rfl | rfl | rfl | rfl | rfl | rfl | rfl | rfl
  ·have hv:qak op r a b n places procs=false:=by unfold qak;rw [qgj _ _ _ _ _ _ _ g];simp
   rw [hv]
   exact qik op r a b n places procs w h5 h6 g
  ·by_cases g0:a=0
   case neg=>
    have hv:qak 1 r a b n places procs=false:=by simp [qak,qbj,g0]
    rw [hv]
    exact qd7 r a b n places procs w h5 h6 (by simp [qa6];omega)
   subst g0
   by_cases g1:b=0
   case neg=>
    have hv:qak 1 r 0 b n places procs=false:=by simp [qak,qbj,g1]
    rw [hv]
    exact qd7 r 0 b n places procs w h5 h6 (by simp [qa6];omega)
   subst g1
   refine (qg6 r n places procs w h5 h6).mono ?_
   rintro e w1 ⟨rfl,hb⟩
   refine ⟨qa3 ?_,hb⟩
   rw [Bool.eq_iff_iff]
   simp [qak,qbj,inB,belB] <;> omega
  ·by_cases g0:n=0
   case neg=>
    have hv:qak 2 r a b n places procs=false:=by simp [qak,qbj,g0]
    rw [hv]
    exact qb0 2 r a b n places procs w h5 h6 (by omega) (by omega) (by simp [qa6];omega)
   subst g0
   refine (qbz 2 r a b places procs w h5 h6 (by omega) (by omega)).mono ?_
   rintro e w1 ⟨rfl,hb⟩
   refine ⟨qa3 ?_,hb⟩
   rw [Bool.eq_iff_iff]
   simp [qak,qbj,inB,belB] <;> omega
  ·by_cases g0:n=0
   case neg=>
    have hv:qak 3 r a b n places procs=false:=by simp [qak,qbj,g0]
    rw [hv]
    exact qb0 3 r a b n places procs w h5 h6 (by omega) (by omega) (by simp [qa6];omega)
   subst g0
   refine (qbz 3 r a b places procs w h5 h6 (by omega) (by omega)).mono ?_
   rintro e w1 ⟨rfl,hb⟩
   refine ⟨qa3 ?_,hb⟩
   rw [Bool.eq_iff_iff]
   simp [qak,qbj,inB,belB] <;> omega
  ·by_cases g0:n=0
   case neg=>
    have hv:qak 4 r a b n places procs=false:=by simp [qak,qbj,g0]
    rw [hv]
    exact qb0 4 r a b n places procs w h5 h6 (by omega) (by omega) (by simp [qa6];omega)
   subst g0
   refine (qbz 4 r a b places procs w h5 h6 (by omega) (by omega)).mono ?_
   rintro e w1 ⟨rfl,hb⟩
   refine ⟨qa3 ?_,hb⟩
   rw [Bool.eq_iff_iff]
   simp [qak,qbj,inB,belB] <;> omega
  ·by_cases g0:n=0
   case neg=>
    have hv:qak 5 r a b n places procs=false:=by simp [qak,qbj,g0]
    rw [hv]
    exact qb0 5 r a b n places procs w h5 h6 (by omega) (by omega) (by simp [qa6];omega)
   subst g0
   refine (qbz 5 r a b places procs w h5 h6 (by omega) (by omega)).mono ?_
   rintro e w1 ⟨rfl,hb⟩
   refine ⟨qa3 ?_,hb⟩
   rw [Bool.eq_iff_iff]
   simp [qak,qbj,inB,belB] <;> omega
  ·by_cases g0:r=0
   case neg=>
    have hv:qak 6 r a b n places procs=false:=by simp [qak,qbj,g0]
    rw [hv]
    exact qdk r a b n places procs w h5 h6 (by simp [qa6];omega)
   subst g0
   by_cases g1:b=0
   case neg=>
    have hv:qak 6 0 a b n places procs=false:=by simp [qak,qbj,g1]
    rw [hv]
    exact qdk 0 a b n places procs w h5 h6 (by simp [qa6];omega)
   subst g1
   refine (qgd a n places procs w h5 h6).mono ?_
   rintro e w1 ⟨rfl,hb⟩
   refine ⟨qa3 ?_,hb⟩
   rw [Bool.eq_iff_iff]
   simp [qak,qbj,inB,belB] <;> omega
  ·by_cases g0:a=0
   case neg=>
    have hv:qak 7 r a b n places procs=false:=by simp [qak,qbj,g0]
    rw [hv]
    exact qdl r a b n places procs w h5 h6 (by simp [qa6];omega)
   subst g0
   by_cases g1:b=0
   case neg=>
    have hv:qak 7 r 0 b n places procs=false:=by simp [qak,qbj,g1]
    rw [hv]
    exact qdl r 0 b n places procs w h5 h6 (by simp [qa6];omega)
   subst g1
   refine (qge r n places procs w h5 h6).mono ?_
   rintro e w1 ⟨rfl,hb⟩
   refine ⟨qa3 ?_,hb⟩
   rw [Bool.eq_iff_iff]
   simp [qak,qbj,inB,belB] <;> omega
  ·by_cases g0:r=0
   case neg=>
    have hv:qak 8 r a b n places procs=false:=by simp [qak,qbj,g0]
    rw [hv]
    exact qcd r a b n places procs w h5 h6 (by simp [qa6];omega)
   subst g0
   by_cases g1:b=0
   case neg=>
    have hv:qak 8 0 a b n places procs=false:=by simp [qak,qbj,g1]
    rw [hv]
    exact qcd 0 a b n places procs w h5 h6 (by simp [qa6];omega)
   subst g1
   by_cases g2:n=0
   case neg=>
    have hv:qak 8 0 a 0 n places procs=false:=by simp [qak,qbj,g2]
    rw [hv]
    exact qcd 0 a 0 n places procs w h5 h6 (by simp [qa6];omega)
   subst g2
   refine (qfs a places procs w h5 h6).mono ?_
   rintro e w1 ⟨rfl,hb⟩
   refine ⟨qa3 ?_,hb⟩
   rw [Bool.eq_iff_iff]
   simp [qak,qbj,inB,belB] <;> omega
  ·by_cases g0:r=0
   case neg=>
    have hv:qak 9 r a b n places procs=false:=by simp [qak,qbj,g0]
    rw [hv]
    exact qcj r a b n places procs w h5 h6 (by simp [qa6];omega)
   subst g0
   by_cases g1:a=0
   case neg=>
    have hv:qak 9 0 a b n places procs=false:=by simp [qak,qbj,g1]
    rw [hv]
    exact qcj 0 a b n places procs w h5 h6 (by simp [qa6];omega)
   subst g1
   by_cases g2:b=0
   case neg=>
    have hv:qak 9 0 0 b n places procs=false:=by simp [qak,qbj,g2]
    rw [hv]
    exact qcj 0 0 b n places procs w h5 h6 (by simp [qa6];omega)
   subst g2
   refine (qgc n places procs w h5 h6).mono ?_
   rintro e w1 ⟨rfl,hb⟩
   refine ⟨qa3 ?_,hb⟩
   rw [Bool.eq_iff_iff]
   simp [qak,qbj,inB,belB] <;> omega
  ·by_cases g0:r=0
   case neg=>
    have hv:qak 10 r a b n places procs=false:=by simp [qak,qbj,g0]
    rw [hv]
    exact qdm r a b n places procs w h5 h6 (by simp [qa6];omega)
   subst g0
   by_cases g1:b=0
   case neg=>
    have hv:qak 10 0 a b n places procs=false:=by simp [qak,qbj,g1]
    rw [hv]
    exact qdm 0 a b n places procs w h5 h6 (by simp [qa6];omega)
   subst g1
   refine (qgf a n places procs w h5 h6).mono ?_
   rintro e w1 ⟨rfl,hb⟩
   refine ⟨qa3 ?_,hb⟩
   rw [Bool.eq_iff_iff]
   simp [qak,qbj,inB,belB] <;> omega
  ·by_cases g0:r=0
   case neg=>
    have hv:qak 11 r a b n places procs=false:=by simp [qak,qbj,g0]
    rw [hv]
    exact qb6 r a b n places procs w h5 h6 (by simp [qa6];omega)
   subst g0
   by_cases g1:a=0
   case neg=>
    have hv:qak 11 0 a b n places procs=false:=by simp [qak,qbj,g1]
    rw [hv]
    exact qb6 0 a b n places procs w h5 h6 (by simp [qa6];omega)
   subst g1
   by_cases g2:b=0
   case neg=>
    have hv:qak 11 0 0 b n places procs=false:=by simp [qak,qbj,g2]
    rw [hv]
    exact qb6 0 0 b n places procs w h5 h6 (by simp [qa6];omega)
   subst g2
   by_cases g3:n=0
   case neg=>
    have hv:qak 11 0 0 0 n places procs=false:=by simp [qak,qbj,g3]
    rw [hv]
    exact qb6 0 0 0 n places procs w h5 h6 (by simp [qa6];omega)
   subst g3
   refine (qg5 places procs w h5 h6).mono ?_
   rintro e w1 ⟨rfl,hb⟩
   refine ⟨qa3 ?_,hb⟩
   rw [Bool.eq_iff_iff]
   simp [qak,qbj,inB] <;> omega
structure I5 where
 o:Int
 r:Int
 a:Int
 b:Int
 n:Int
def qar (w:World) (b off len:Nat) (g:Nat->I5):Prop:=∀ i,i<len->
 w.cell? ⟨b,off+i*5,none⟩=some (.int .i64 (g i).o)/\w.cell? ⟨b,off+i*5+1,none⟩=some (.int .i64 (g i).r)/\w.cell? ⟨b,off+i*5+2,none⟩=some (.int .i64 (g i).a)/\w.cell? ⟨b,off+i*5+3,none⟩=some (.int .i64 (g i).b)/\w.cell? ⟨b,off+i*5+4,none⟩=some (.int .i64 (g i).n)
theorem qar.below {w w':World} {B b off len:Nat} {g:Nat->I5} (h:qar w b off len g) (hb:Below B w w') (hB:b<B):qar w' b off len g:=by
 intro i hi
 obtain ⟨h0,h1,h2,h3,h4⟩:=h i hi
 exact ⟨(hb.cell hB).trans h0,(hb.cell hB).trans h1,(hb.cell hB).trans h2,(hb.cell hB).trans h3,(hb.cell hB).trans h4⟩
def okAt (g:Nat->I5) (len procs:Int) (i:Nat):Bool:=qak (g i).o (g i).r (g i).a (g i).b (g i).n len procs
def qi7 (g:Nat->I5) (len procs:Int) (k:Nat):Bool:=(List.range k).all (okAt g len procs)
def qab (g:Nat->I5) (len:Nat) (procs:Int):Bool:=qi7 g len procs len && (inB len 1 30 && inB procs 1 4)
theorem qiv (g:Nat->I5) (len procs:Int) (k:Nat):qi7 g len procs (k+1)=(qi7 g len procs k && okAt g len procs k):=by
 simp [qi7,List.range_succ]
theorem qhj (g:Nat->I5) (len procs:Int) {k m:Nat} (hk:k<m) (h:okAt g len procs k=false):qi7 g len procs m=false:=by
 rw [qi7,List.all_eq_false]
 exact ⟨k,List.mem_range.2 hk,by simp [h]⟩
theorem qe7 (b off len cap:Nat) (g:Nat->I5) (procs:Int) (w:World) (hlen:len<=maxLen) (hb:b<w.heap.size) (hc:qar w b off len g):
  Calls Tryz.prog 43 #[.slice (some (aQ b off)) len cap,.int .i64 procs] w fun e w'=>e=.returned (.bool (qab g len procs))/\Bw w w':=by
 unfold maxLen at hlen
 have HC:Hid (qar w b off len g):=hc
 clear hc
 go_enter Tryz.func43,Tryz.ntmps43
 go_wp2_with fail
 go_loopw [5] (fun i wr=>∃ k:Nat,k<=len/\i=.int .i64 k/\Hid (qi7 g len procs k=true)/\Bw w wr) (fun i _=>len - (intOf i).toNat)
 case atStart=>exact ⟨0,Nat.zero_le _,rfl,rfl,Below.refl _ _⟩
 case round=>
  obtain ⟨k,hk,rfl,HA,hbw⟩:=hrel
  by_cases hlt:k<len
  ·obtain ⟨c0,c1,c2,c3,c4⟩:=HC.out.below hbw hb k hlt
   rcases zK (okAt g len procs k) with ho | ho
   ·have HO:Hid (okAt g len procs k=true):=ho
    have ho':qak (g k).o (g k).r (g k).a (g k).b (g k).n len procs=true:=ho
    clear ho
    go_wp2_with (go_at_call 82;refine (qf5 _ _ _ _ _ _ _ _).mono ?_;rintro e w1 ⟨rfl,hb1⟩)
    go_roundw
    case rel=>exact ⟨k+1,by omega,by go_num,by rw [Hid,qiv,HA.out,HO.out];rfl,hbw.trans (hb1.mono hbw.size)⟩
    case measure=>simp [intOf];omega
   ·have HO:Hid (okAt g len procs k=false):=ho
    have ho':qak (g k).o (g k).r (g k).a (g k).b (g k).n len procs=false:=ho
    clear ho
    go_wp2_with (go_at_call 82;refine (qf5 _ _ _ _ _ _ _ _).mono ?_;rintro e w1 ⟨rfl,hb1⟩)
    go_ret
    exact ⟨qa3 (by rw [qab,qhj g len procs hlt HO.out];rfl),hbw.trans (hb1.mono hbw.size)⟩
  ·have hkl:k=len:=by omega
   have HP:Hid (qab g len procs=(inB len 1 30 && inB procs 1 4)):=by
    have hA:=HA.out
    rw [hkl] at hA
    rw [Hid,qab,hA];rfl
   clear HA hkl
   rcases zK (inB len 1 30) with t0 | t0
   all_goals
    go_wp2_with (go_at_call 32;refine (l1In_any _ _ _ _).mono ?_;rintro e w' ⟨rfl,rfl⟩)
    go_ret
    exact ⟨qa3 (by rw [HP.out,t0] <;> rfl),hbw⟩
theorem qdg (b off len cap:Nat) (g:Nat->I5) (procs:Int) (w:World) (hlen:len<=maxLen) (hb:b<w.heap.size) (hc:qar w b off len g):
  Calls Tryz.prog 90 #[.slice (some (aQ b off)) len cap,.int .i64 procs] w fun e w'=>e=.returned (.bool (qab g len procs))/\Bw w w':=by
 unfold maxLen at hlen
 have HC:Hid (qar w b off len g):=hc
 clear hc
 by_cases hr:1<=len/\len<=30
 case neg=>
  have hv:qab g len procs=false:=by
   rw [qab,show inB len 1 30=false from by simp [inB];omega];simp
  rw [hv]
  clear hv
  by_cases h1:len<1
  ·have h1':(len:Int)<1:=by omega
   go_enter Tryz.func90,Tryz.ntmps90
   go_wp2
   go_ret
   exact ⟨rfl,Below.refl _ _⟩
  ·have h1':¬ (len:Int)<1:=by omega
   have h2':(30:Int)<len:=by omega
   go_enter Tryz.func90,Tryz.ntmps90
   go_wp2
   go_ret
   exact ⟨rfl,Below.refl _ _⟩
 case pos=>
 obtain ⟨r1,r2⟩:=hr
 have h1':¬ (len:Int)<1:=by omega
 have h2':¬ (30:Int)<len:=by omega
 go_enter Tryz.func90,Tryz.ntmps90
 go_wp2_with fail
 go_loopw [17] (fun i wr=>∃ k:Nat,k<=len/\i=.int .i64 k/\Hid (qi7 g len procs k=true)/\Bw w wr) (fun i _=>len - (intOf i).toNat)
 case atStart=>exact ⟨0,Nat.zero_le _,rfl,rfl,Below.refl _ _⟩
 case round=>
  obtain ⟨k,hk,rfl,HA,hbw⟩:=hrel
  have hs:=hbw.size
  by_cases hlt:k<len
  ·obtain ⟨c0,c1,c2,c3,c4⟩:=HC.out.below hbw hb k hlt
   rcases zK (okAt g len procs k) with ho | ho
   ·have HO:Hid (okAt g len procs k=true):=ho
    have ho':qak (g k).o (g k).r (g k).a (g k).b (g k).n len procs=true:=ho
    clear ho
    go_wp2_with (go_at_call 117;refine (qfr _ _ _ _ _ _ _ _).mono ?_;rintro e w1 ⟨rfl,hb1⟩)
    go_roundw
    case rel=>exact ⟨k+1,by omega,by go_num,by rw [Hid,qiv,HA.out,HO.out];rfl,(hbw.alloc hs _).trans (hb1.mono (by simp;omega))⟩
    case measure=>simp [intOf];omega
   ·have HO:Hid (okAt g len procs k=false):=ho
    have ho':qak (g k).o (g k).r (g k).a (g k).b (g k).n len procs=false:=ho
    clear ho
    go_wp2_with (go_at_call 117;refine (qfr _ _ _ _ _ _ _ _).mono ?_;rintro e w1 ⟨rfl,hb1⟩)
    go_ret
    exact ⟨qa3 (by rw [qab,qhj g len procs hlt HO.out];rfl),(hbw.alloc hs _).trans (hb1.mono (by simp;omega))⟩
  ·have hkl:k=len:=by omega
   have h30:inB len 1 30=true:=by simp [inB];omega
   have HP:Hid (qab g len procs=true):=by
    have hA:=HA.out
    rw [hkl] at hA
    have hp:inB procs 1 4=true:=by
     have h0:okAt g len procs 0=true:=by
      have:=(List.all_eq_true.1 (show (List.range len).all (okAt g len procs)=true from hA)) 0 (List.mem_range.2 (by omega))
      exact this
     simp only [okAt,qak,Bool.and_eq_true] at h0
     exact h0.1.2
    rw [Hid,qab,hA,h30,hp];rfl
   clear HA hkl h30
   go_wp2
   go_ret
   exact ⟨qa3 HP.out.symm,hbw⟩
attribute [local go_sem] qhm qhn qgw qgq qgr qff qgv qgx qgy qfh qfi qe3 qgt qgu qfg qgz qg0 qfj qhk qhl qgs
theorem qlu (n a r0 r1 r2 r3:Int) (w:World) (h0:0<=a) (h3:a<=3):
  Calls Tryz.prog 157 #[.iface 187 (qsu n a),regV r0 r1 r2 r3] w fun e w'=>e=.returned (evV 2 n (zi [r0,r1,r2,r3] a.toNat))/\Bw w w':=by
 have ha:a=0\/a=1\/a=2\/a=3:=by omega
 clear h0 h3
 rcases ha with rfl | rfl | rfl | rfl
 ·go_enter Tryz.func157,Tryz.ntmps157
  go_wp2_with fail
  go_region
  all_goals
   go_wp2
   refine bodyPost_ret (v:=evV 2 n r0) (by simp [results,Tryz.results157,go_sem]) rfl ⟨rfl,?_⟩
   go_grown
 ·go_enter Tryz.func157,Tryz.ntmps157
  go_wp2_with fail
  go_region
  all_goals
   go_wp2
   refine bodyPost_ret (v:=evV 2 n r1) (by simp [results,Tryz.results157,go_sem]) rfl ⟨rfl,?_⟩
   go_grown
 ·go_enter Tryz.func157,Tryz.ntmps157
  go_wp2_with fail
  go_region
  all_goals
   go_wp2
   refine bodyPost_ret (v:=evV 2 n r2) (by simp [results,Tryz.results157,go_sem]) rfl ⟨rfl,?_⟩
   go_grown
 ·go_enter Tryz.func157,Tryz.ntmps157
  go_wp2_with fail
  go_region
  all_goals
   go_wp2
   refine bodyPost_ret (v:=evV 2 n r3) (by simp [results,Tryz.results157,go_sem]) rfl ⟨rfl,?_⟩
   go_grown
theorem qlv (r n r0 r1 r2 r3:Int) (w:World):
  Calls Tryz.prog 157 #[.iface 189 (qs3 r n),regV r0 r1 r2 r3] w fun e w'=>e=.returned (evV 3 n 0)/\Bw w w':=by
 go_enter Tryz.func157,Tryz.ntmps157
 go_wp2
 refine bodyPost_ret (v:=evV 3 n 0) (by simp [results,Tryz.results157,go_sem]) rfl ⟨rfl,?_⟩
 go_grown
theorem qjk (a r0 r1 r2 r3:Int) (w:World) (h0:0<=a) (h3:a<=3):
  Calls Tryz.prog 157 #[.iface 191 (qme a),regV r0 r1 r2 r3] w fun e w'=>e=.returned (evV 4 0 (zi [r0,r1,r2,r3] a.toNat))/\Bw w w':=by
 have ha:a=0\/a=1\/a=2\/a=3:=by omega
 clear h0 h3
 rcases ha with rfl | rfl | rfl | rfl
 ·go_enter Tryz.func157,Tryz.ntmps157
  go_wp2
  refine bodyPost_ret (v:=evV 4 0 r0) (by simp [results,Tryz.results157,go_sem]) rfl ⟨rfl,?_⟩
  go_grown
 ·go_enter Tryz.func157,Tryz.ntmps157
  go_wp2
  refine bodyPost_ret (v:=evV 4 0 r1) (by simp [results,Tryz.results157,go_sem]) rfl ⟨rfl,?_⟩
  go_grown
 ·go_enter Tryz.func157,Tryz.ntmps157
  go_wp2
  refine bodyPost_ret (v:=evV 4 0 r2) (by simp [results,Tryz.results157,go_sem]) rfl ⟨rfl,?_⟩
  go_grown
 ·go_enter Tryz.func157,Tryz.ntmps157
  go_wp2
  refine bodyPost_ret (v:=evV 4 0 r3) (by simp [results,Tryz.results157,go_sem]) rfl ⟨rfl,?_⟩
  go_grown
theorem qnn (r n r0 r1 r2 r3:Int) (w:World):
  Calls Tryz.prog 157 #[.iface 183 (setV r n),regV r0 r1 r2 r3] w fun e w'=>e=.returned (evV 1 0 0)/\Bw w w':=by
 go_enter Tryz.func157,Tryz.ntmps157
 go_wp2
 refine bodyPost_ret (v:=evV 1 0 0) (by simp [results,Tryz.results157,go_sem]) rfl ⟨rfl,?_⟩
 go_grown
theorem qc5 (op r a b r0 r1 r2 r3:Int) (w:World):
  Calls Tryz.prog 157 #[.iface 185 (qjd op r a b),regV r0 r1 r2 r3] w fun e w'=>e=.returned (evV 1 0 0)/\Bw w w':=by
 go_enter Tryz.func157,Tryz.ntmps157
 go_wp2
 refine bodyPost_ret (v:=evV 1 0 0) (by simp [results,Tryz.results157,go_sem]) rfl ⟨rfl,?_⟩
 go_grown
theorem qlt (n r0 r1 r2 r3:Int) (w:World):
  Calls Tryz.prog 157 #[.iface 193 (qr0 n),regV r0 r1 r2 r3] w fun e w'=>e=.returned (evV 1 0 0)/\Bw w w':=by
 go_enter Tryz.func157,Tryz.ntmps157
 go_wp2
 refine bodyPost_ret (v:=evV 1 0 0) (by simp [results,Tryz.results157,go_sem]) rfl ⟨rfl,?_⟩
 go_grown
theorem qlw (a n r0 r1 r2 r3:Int) (w:World):
  Calls Tryz.prog 157 #[.iface 195 (qtg a n),regV r0 r1 r2 r3] w fun e w'=>e=.returned (evV 1 0 0)/\Bw w w':=by
 go_enter Tryz.func157,Tryz.ntmps157
 go_wp2
 refine bodyPost_ret (v:=evV 1 0 0) (by simp [results,Tryz.results157,go_sem]) rfl ⟨rfl,?_⟩
 go_grown
theorem qnm (r0 r1 r2 r3:Int) (w:World):
  Calls Tryz.prog 157 #[.iface 197 endV,regV r0 r1 r2 r3] w fun e w'=>e=.returned (evV 1 0 0)/\Bw w w':=by
 go_enter Tryz.func157,Tryz.ntmps157
 go_wp2
 refine bodyPost_ret (v:=evV 1 0 0) (by simp [results,Tryz.results157,go_sem]) rfl ⟨rfl,?_⟩
 go_grown
def evK (o:Int):Int:=if o=6 then 2 else if o=7 then 3 else if o=8 then 4 else 1
def evP (o n:Int):Int:=if o=6 then n else if o=7 then n else 0
def evW (o a:Int) (rs:List Int):Int:=if o=6 then zi rs a.toNat else if o=8 then zi rs a.toNat else 0
def qvn (o r a b n:Int):Value:=
 if o=1 then .iface 183 (setV r n) else if o=6 then .iface 187 (qsu n a) else if o=7 then .iface 189 (qs3 r n)
 else if o=8 then .iface 191 (qme a) else if o=9 then .iface 193 (qr0 n) else if o=10 then .iface 195 (qtg a n)
 else if o=11 then .iface 197 endV else .iface 185 (qjd o r a b)
theorem qkd (o r a b n:Int) (w:World) (h1:1<=o) (h2:o<=11):
  Calls Tryz.prog 136 #[insV o r a b n] w fun e w'=>e=.returned (qvn o r a b n)/\Bw w w':=by
 rcases qfa o with g | rfl | rfl | rfl | rfl | rfl | rfl | rfl | rfl | rfl | rfl | rfl
 ·omega
 ·exact qfd r a b n w
 ·exact qfz r a b n w
 ·exact qf0 r a b n w
 ·exact qf1 r a b n w
 ·exact qf2 r a b n w
 ·exact qeh r a b n w
 ·exact qei r a b n w
 ·exact qd3 r a b n w
 ·exact qeg r a b n w
 ·exact qej r a b n w
 ·exact qfc r a b n w
theorem qjl (o r a b n r0 r1 r2 r3:Int) (w:World) (h1:1<=o) (h2:o<=11) (h3:0<=a) (h4:a<=3):
  Calls Tryz.prog 157 #[qvn o r a b n,regV r0 r1 r2 r3] w fun e w'=>e=.returned (evV (evK o) (evP o n) (evW o a [r0,r1,r2,r3]))/\Bw w w':=by
 rcases qfa o with g | rfl | rfl | rfl | rfl | rfl | rfl | rfl | rfl | rfl | rfl | rfl
 ·omega
 ·exact qnn r n r0 r1 r2 r3 w
 ·exact qc5 2 r a b r0 r1 r2 r3 w
 ·exact qc5 3 r a b r0 r1 r2 r3 w
 ·exact qc5 4 r a b r0 r1 r2 r3 w
 ·exact qc5 5 r a b r0 r1 r2 r3 w
 ·exact qlu n a r0 r1 r2 r3 w h3 h4
 ·exact qlv r n r0 r1 r2 r3 w
 ·exact qjk a r0 r1 r2 r3 w h3 h4
 ·exact qlt n r0 r1 r2 r3 w
 ·exact qlw a n r0 r1 r2 r3 w
 ·exact qnm r0 r1 r2 r3 w
def qbx (g:Nat->I5) (len:Nat) (p:Int) (rs os:List Int) (code:Int):Bool:=qab g len 4 && qc4 len p rs os code && (code == 0)
def nxK (g:Nat->I5) (len:Nat) (p:Int) (rs os:List Int) (code:Int):Int:=if qbx g len p rs os code=true then evK (g p.toNat).o else 0
def nxP (g:Nat->I5) (len:Nat) (p:Int) (rs os:List Int) (code:Int):Int:=if qbx g len p rs os code=true then evP (g p.toNat).o (g p.toNat).n else 0
def nxW (g:Nat->I5) (len:Nat) (p:Int) (rs os:List Int) (code:Int):Int:=if qbx g len p rs os code=true then evW (g p.toNat).o (g p.toNat).a rs else 0
theorem qqq {g:Nat->I5} {len:Nat} {p:Int} {rs os:List Int} {code:Int} (h:qbx g len p rs os code=false):evV (nxK g len p rs os code) (nxP g len p rs os code) (nxW g len p rs os code)=evV 0 0 0:=by
 simp [nxK,nxP,nxW,h]
theorem qqp {g:Nat->I5} {len k:Nat} {rs os:List Int} {code:Int} (h:qbx g len (k:Int) rs os code=true):evV (nxK g len k rs os code) (nxP g len k rs os code) (nxW g len k rs os code)=evV (evK (g k).o) (evP (g k).o (g k).n) (evW (g k).o (g k).a rs):=by
 simp [nxK,nxP,nxW,h]
theorem qvo {a b:Value} (h:a=b):Ending.returned a=.returned b:=by rw [h]
theorem qby {g:Nat->I5} {len:Nat} {procs:Int} (h:qab g len procs=true) {k:Nat} (hk:k<len):qak (g k).o (g k).r (g k).a (g k).b (g k).n len procs=true:=by
 simp only [qab,Bool.and_eq_true] at h
 have h1:=h.1
 rw [qi7,List.all_eq_true] at h1
 exact h1 k (List.mem_range.2 hk)
theorem qcf {o r a b n places procs:Int} (h:qak o r a b n places procs=true):(1<=o/\o<=11)/\(0<=r/\r<=3)/\(0<=a/\a<=3)/\(0<=b/\b<=3):=by
 simp only [qak,Bool.and_eq_true] at h
 obtain ⟨⟨⟨⟨h1,h2⟩,h3⟩,_⟩,h5⟩:=h
 simp only [inB,decide_eq_true_eq] at h1 h2 h3
 refine ⟨?_,h1,h2,h3⟩
 apply Classical.byContradiction
 intro hn
 rw [qgj _ _ _ _ _ _ _ (by omega)] at h5
 cases h5
theorem qbd {g:Nat->I5} {len:Nat} {p:Int} {rs os:List Int} {code:Int} (h:qbx g len p rs os code=true):qab g len 4=true/\qc4 len p rs os code=true/\code=0:=by
 simp only [qbx,Bool.and_eq_true,beq_iff_eq] at h
 exact ⟨h.1.1,h.1.2,h.2⟩
theorem qb3 {n:Nat} {p:Int} {rs os:List Int} {code:Int} (h:qc4 n p rs os code=true):(∃ r0 r1 r2 r3,rs=[r0,r1,r2,r3]/\numB r0=true/\numB r1=true/\numB r2=true/\numB r3=true)/\(∃ k:Nat,p=k/\k<n)/\os.length<=60/\allN os=true:=by
 simp only [qc4,qc3,outB,Bool.and_eq_true,beq_iff_eq,decide_eq_true_eq] at h
 obtain ⟨⟨⟨⟨h4,hr⟩,_⟩,hp⟩,h60,ho⟩:=h
 have h4':rs.length=4:=by omega
 refine ⟨?_,?_,by omega,ho⟩
 ·match rs,h4' with
  | [r0,r1,r2,r3],_=>
   simp only [allN,List.all_cons,List.all_nil,Bool.and_eq_true,and_true] at hr
   exact ⟨r0,r1,r2,r3,rfl,hr⟩
 ·simp only [belB,decide_eq_true_eq] at hp
  obtain ⟨k,rfl⟩:=Int.eq_ofNat_of_zero_le hp.1
  exact ⟨k,rfl,by omega⟩
theorem qma (b off len cap:Nat) (g:Nat->I5) (p code:Int) (ra oa:Option Addr) (rc oc:Nat) (rs os:List Int) (w:World) (ho:os.length<=1048576) (h1:Sl w ra rs) (h2:Sl w oa os) (t2:qab g len 4=true) (hw:qbx g len p rs os code=false):
  Calls Tryz.prog 149 #[.slice (some (aQ b off)) len cap,stV p ra rs.length rc oa os.length oc code] w fun e w'=>e=.returned (evV 0 0 0)/\Bw w w':=by
 have H1:Hid (Sl w ra rs):=h1
 have H2:Hid (Sl w oa os):=h2
 clear h1 h2
 rcases zK (code != 0) with t0 | t0
 ·clear hw t2
  go_enter Tryz.func149,Tryz.ntmps149
  go_wp2
  refine bodyPost_ret (v:=evV 0 0 0) (by simp [results,Tryz.results149,go_sem]) rfl ⟨rfl,?_⟩
  go_grown
 have hc:(code == 0)=true:=by simpa using t0
 have t1:qc4 len p rs os code=false:=by
  simp only [qbx,t2,hc,Bool.and_true,Bool.true_and] at hw
  exact hw
 clear hw hc t2
 go_enter Tryz.func149,Tryz.ntmps149
 go_wp2_with fail
 refine (qed _ _ _ _ _ _ _ _ _ rs os _ ho (H1.out.below (by go_grown)) (H2.out.below (by go_grown))).mono ?_
 rintro e w1 ⟨rfl,b1⟩
 have B1:Hid (Bw w w1):=qam (by go_grown) b1 (by simp;omega)
 obtain ⟨hc1,hf1⟩:=qai b1
 clear b1
 go_wp2
 refine bodyPost_ret (v:=evV 0 0 0) (by simp [results,Tryz.results149,go_sem,hc1]) rfl ⟨rfl,?_⟩
 have:=B1.out
 go_grown
def qfl (o a b n:Int):Int:=if o=1 then n else if o=2 then a+b else if o=3 then a - b else if o=4 then a*b else if a<b then 1 else 0
def goP (len:Nat) (p:Int):Int:=if (len:Int)<=p+1 then p else p+1
def goC (len:Nat) (p code:Int):Int:=if (len:Int)<=p+1 then 2 else code
structure S4 where
 p:Int
 rs:List Int
 os:List Int
 c:Int
def goS (len:Nat) (p:Int) (rs os:List Int) (code:Int):S4:=⟨goP len p,rs,os,goC len p code⟩
def qac (len:Nat) (x:I5) (p:Int) (rs os:List Int) (code v:Int):S4:=
 if x.o=6 then goS len p rs os code
 else if x.o=7 then goS len p (rs.set x.r.toNat v) os code
 else if x.o=8 then (if os.length=60 then ⟨p,rs,os,2⟩ else goS len p rs (os ++ [v]) code)
 else if x.o=9 then ⟨x.n,rs,os,code⟩
 else if x.o=10 then (if zi rs x.a.toNat=0 then ⟨x.n,rs,os,code⟩ else goS len p rs os code)
 else if x.o=11 then ⟨p,rs,os,1⟩
 else (if numB (qfl x.o (zi rs x.a.toNat) (zi rs x.b.toNat) x.n)=true then goS len p (rs.set x.r.toNat (qfl x.o (zi rs x.a.toNat) (zi rs x.b.toNat) x.n)) os code else ⟨p,rs,os,2⟩)
def canB (nk np nv k p v:Int):Bool:=
 if nk=3 then (k == 3) && numB v && (if np=9 then belB p 4 else p == np) else (nk != 0) && (k == nk && (p == np && v == nv))
def doB (g:Nat->I5) (len:Nat) (p:Int) (rs os:List Int) (code k q v:Int):Bool:=canB (nxK g len p rs os code) (nxP g len p rs os code) (nxW g len p rs os code) k q v
def doS (g:Nat->I5) (len:Nat) (p:Int) (rs os:List Int) (code k q v:Int):S4:=
 if doB g len p rs os code k q v=true then qac len (g p.toNat) p rs os code v else ⟨p,rs,os,code⟩
theorem qdi {g:Nat->I5} {len:Nat} {p:Int} {rs os:List Int} {code k q v:Int} (h:doB g len p rs os code k q v=true):qbx g len p rs os code=true:=by
 apply Classical.byContradiction
 intro hn
 have hn':qbx g len p rs os code=false:=by simpa using hn
 simp [doB,canB,nxK,hn'] at h
theorem qbv {a b:Int} (ha:numB a=true) (hb:numB b=true):-1000000000000000000<=a*b/\a*b<=1000000000000000000:=by
 simp only [numB,inB,decide_eq_true_eq] at ha hb
 have h1:(a.natAbs*b.natAbs:Nat)<=1000000000*1000000000:=Nat.mul_le_mul (by omega) (by omega)
 have h2:(a*b).natAbs=a.natAbs*b.natAbs:=Int.natAbs_mul a b
 omega
theorem qa8 {a:Int}:numB a=true ↔ -1000000000<=a/\a<=1000000000:=by simp [numB,inB]
theorem qjz:∃ i,Tryz.prog.info? 3=some i/\i.zero=some (.int .i64 0)/\i.size=1/\i.bytes=8:=by
 have hinfo:=qns
 cases hi:Tryz.prog.info? 3 with
 | none=>rw [hi] at hinfo;cases hinfo
 | some i=>
  rw [hi] at hinfo
  simp only [Option.map_some,Option.some.injEq,Prod.mk.injEq] at hinfo
  exact ⟨i,rfl,hinfo⟩
theorem qh7 (w:World) (ty:TypeId) (B c:Nat) (v:Value) (xs:List Int) (h:OwnI w B v xs):
  (Builtin.append_ #[40,40] ty #[v,.slice none 0 c]).run Tryz.prog w=.ok v w:=by
 obtain ⟨i,hi,_⟩:=qjz
 rcases h.2 with ⟨rfl,_⟩ | ⟨g,cap,cur,rfl,_,_,hnc,_⟩
 ·simp [Builtin.append_,run_underlying Tryz.underlying40,sizeOf,typeInfo,hi,Builtin.lenOf,Builtin.firstCells]
 ·simp [Builtin.append_,run_underlying Tryz.underlying40,sizeOf,typeInfo,hi,Builtin.lenOf,Builtin.firstCells,hnc,storeCells]
theorem qek (w:World) (ty:TypeId) (B c:Nat) (v:Value) (a0:Option Addr) (xs ys:List Int) (h:OwnI w B v xs) (hy:Sl w a0 ys) (hn:xs.length+ys.length<=4000000) (hB:B<=w.heap.size):
  ∃ v' w',(Builtin.append_ #[40,40] ty #[v,.slice a0 ys.length c]).run Tryz.prog w=.ok v' w'/\OwnI w' B v' (xs ++ ys)/\w.grownBy w' v.ownBlock/\(v'.ownBlock=v.ownBlock\/v'.ownBlock=some w.heap.size):=by
 obtain ⟨i,hi,hz,hs,hb⟩:=qjz
 cases a0 with
 | none=>
  have hy0:ys=[]:=by
   rcases hy with h0 | ⟨b,off,e,_⟩
   ·exact h0
   ·cases e
  subst hy0
  exact ⟨v,w,qh7 w ty B c v xs h,by simpa using h,World.grownBy.refl _ _,.inl rfl⟩
 | some a=>
  have hnews:∀ j u,(ys.map (Value.int .i64))[j]? = some u->w.cell? (a.add j)=some u:=by
   rcases hy with h0 | ⟨b,off,e,hlt,hc⟩
   ·subst h0;intro j u hj;simp at hj
   ·cases e
    exact qic (.inr ⟨b,off,rfl,hlt,hc⟩) (Below.refl _ _)
  obtain ⟨v',w',h1,h2,h3,_,h5⟩:=run_append_own_at (P:=Tryz.prog) w B 40 ty 3 i (.int .i64 0) 1 8 Tryz.underlying40 hi hz hs hb rfl (by decide) v xs.length (xs.map (Value.int .i64)) h a ys.length c (ys.map (Value.int .i64)) (by simp) hnews (qfx ys) (by unfold maxLen;omega) (by omega) hB
  refine ⟨v',w',h1,?_,h3,h5⟩
  unfold OwnI
  rw [List.length_append,List.map_append]
  exact h2
theorem qbc {ops:Array Oper} {rest:List Oper} {op:Oper} {act:Act} {Q:Exit->Act->World->Prop} (w:World) (hgd:op.guard=none) (s x:Operand)
  (ho:op.op=.call { callee:=.builtin .append,args:=#[s,x],argTypes:=#[40,40] })
  (B c:Nat) (v:Value) (a0:Option Addr) (xs ys:List Int) (hs:act.eval s=v) (hx:act.eval x=.slice a0 ys.length c) (hv:OwnI w B v xs) (hy:Sl w a0 ys) (hn:xs.length+ys.length<=4000000) (hB:B<=w.heap.size)
  (h:∀ v' w',OwnI w' B v' (xs ++ ys)->w.grownBy w' v.ownBlock->(v'.ownBlock=v.ownBlock\/v'.ownBlock=some w.heap.size)->wpList Tryz.prog ops Q rest (act.put op.dst v') w'):
  wpList Tryz.prog ops Q (op :: rest) act w:=by
 obtain ⟨v',w',h1,h2,h3,h4⟩:=qek w op.type B c v a0 xs ys hv hy hn hB
 refine wpList_plain hgd fun K hK=>?_
 unfold Oper.wp execOp
 simp only [ho,resolve,invoke,builtin,Sem.run_bind,Sem.run_pure,Result.andThen_ok,List.map_toArray,List.map_cons,List.map_nil,hs,hx,h1]
 exact hK _ _ (h v' w' h2 h3 h4)
theorem qbw (w:World):OwnI (w.alloc (.cells #[] 3)) w.heap.size (.slice (some (aQ w.heap.size 0)) 0 0) []:=
 World.ownsRow_made (base:=w.heap.size) (e:=3) (size:=1) w #[] 0 (Nat.le_refl _) (by unfold maxLen;omega) rfl
theorem qcv (w:World) {N:Nat} (h:N=w.heap.size):OwnI (w.alloc (.cells #[] 3)) N (.slice (some (aQ N 0)) 0 0) []:=by
 subst h
 exact qbw w
theorem qdr {ops:Array Oper} {rest:List Oper} {op:Oper} {act:Act} {Q:Exit->Act->World->Prop} (w:World) {N:Nat} (hN:N=w.heap.size) (hgd:op.guard=none) (s x:Operand)
  (ho:op.op=.call { callee:=.builtin .append,args:=#[s,x],argTypes:=#[40,40] })
  (c:Nat) (a0:Option Addr) (ys:List Int) (hs:act.eval s=.slice (some (aQ N 0)) 0 0) (hx:act.eval x=.slice a0 ys.length c) (hy:Sl w a0 ys) (hn:ys.length<=1048576)
  (h:∀ v' w',OwnI w' w.heap.size v' ys->Bw w w'->wpList Tryz.prog ops Q rest (act.put op.dst v') w'):
  wpList Tryz.prog ops Q (op :: rest) act (w.alloc (.cells #[] 3)):=by
 subst hN
 have hb:Bw w (w.alloc (.cells #[] 3)):=(Below.refl _ _).alloc (Nat.le_refl _) _
 refine qbc _ hgd s x ho w.heap.size c (.slice (some (aQ w.heap.size 0)) 0 0) a0 [] ys hs hx (qbw w) (hy.below hb) (by simp;omega) (by simp) ?_
 intro v' w' o g _
 exact h v' w' (by simpa using o) (hb.grown g (by simp) (fun k hk=>by cases hk;exact Nat.le_refl _))
def STOP (p:Prop):Prop:=p
theorem qdt {P:Program} {ops:Array Oper} {rest:List Oper} {op:Oper} {act:Act} {Q:Exit->Act->World->Prop} {w:World} {a:Array Operand} {t:Array TypeId} (_:op.op=.call { callee:=.builtin .append,args:=a,argTypes:=t }) (h:STOP (wpList P ops Q (op :: rest) act w)):wpList P ops Q (op :: rest) act w:=h
theorem qfm (a0:Option Addr) (cap:Nat) (xs:List Int) (w:World) (hlen:xs.length<=1048576) (h:Sl w a0 xs):
  Calls Tryz.prog 101 #[.slice a0 xs.length cap] w fun e w'=>∃ v,e=.returned v/\OwnI w' w.heap.size v xs/\Bw w w':=by
 cases a0 with
 | none=>
  have h0:xs=[]:=by
   rcases h with h0 | ⟨b,off,e,_⟩
   ·exact h0
   ·cases e
  subst h0
  have he:∀ wx:World,(binOp .eql 40 (.slice none 0 cap) (.slice none 0 0)).run Tryz.prog wx=.ok (.bool true) wx:=fun wx=>by kernel_rfl
  go_enter Tryz.func101,Tryz.ntmps101
  go_wp2
  go_ret
  exact ⟨_,rfl,World.ownsRow_nil _ _ _ _,Below.refl _ _⟩
 | some a=>
  have HS:Hid (Sl w (some a) xs):=h
  have he:∀ wx:World,(binOp .eql 40 (.slice (some a) xs.length cap) (.slice none 0 0)).run Tryz.prog wx=.ok (.bool false) wx:=fun wx=>by kernel_rfl
  clear h
  go_enter Tryz.func101,Tryz.ntmps101
  go_wp2_with (at_builtin;refine qbc _ rfl _ _ rfl w.heap.size cap (.slice (some (aQ w.heap.size 0)) 0 0) (some a) [] xs rfl rfl (qbw w) (HS.out.below ((Below.refl _ _).alloc (Nat.le_refl _) _)) (by simp;omega) (by simp) ?_;intro v' w1 o1 g1 _;have HF:Hid (OwnI w1 w.heap.size v' xs/\Bw w w1):=⟨by simpa using o1,((Below.refl _ _).alloc (Nat.le_refl _) _).grown g1 (by simp) (fun k hk=>by cases hk;exact Nat.le_refl _)⟩;clear o1 g1)
  go_ret
  exact ⟨_,rfl,HF.out⟩
theorem qfo (p code:Int) (ra oa:Option Addr) (rc oc:Nat) (rs os:List Int) (w:World) (hr:rs.length<=1048576) (ho:os.length<=1048576) (h1:Sl w ra rs) (h2:Sl w oa os):
  Calls Tryz.prog 60 #[stV p ra rs.length rc oa os.length oc code] w fun e w'=>∃ v,e=.returned v/\qag w' w.heap.size v p rs os code/\Bw w w':=by
 have H1:Hid (Sl w ra rs):=h1
 have H2:Hid (Sl w oa os):=h2
 clear h1 h2
 go_enter Tryz.func60,Tryz.ntmps60
 go_wp2_with fail
 refine (qfm ra rc rs _ hr (H1.out.below (by go_grown))).mono ?_
 rintro e w1 ⟨v1,rfl,o1,b1⟩
 have B1:Hid (Bw w w1):=qam (by go_grown) b1 (by simp;omega)
 obtain ⟨hc1,hf1⟩:=qai b1
 have y1:w.heap.size+1<w1.heap.size:=by have:=b1.size;simp at this;omega
 have y0:w.heap.size<w1.heap.size:=by omega
 obtain ⟨ra1,rc1,rfl,_⟩:=o1.form
 have s0:w1.cell? (aQ w.heap.size 0)=some (.int .i64 p):=by rw [hc1 _ _ (by simp;omega)];simp
 have s1:w1.cell? (aQ w.heap.size 1)=some (.slice ra rs.length rc):=by rw [hc1 _ _ (by simp;omega)];simp
 have s2:w1.cell? (aQ w.heap.size 2)=some (.slice oa os.length oc):=by rw [hc1 _ _ (by simp;omega)];simp
 have s3:w1.cell? (aQ w.heap.size 3)=some (.int .i64 code):=by rw [hc1 _ _ (by simp;omega)];simp
 have L1:Hid (∀ k,(Value.slice ra1 rs.length rc1).ownBlock=some k->w.heap.size+1<k/\k<w1.heap.size):=fun k hk=>by have:=o1.lt k hk;simp at this;omega
 have BS:Hid (Bw w (w1.setCell (aQ w.heap.size 1) (.slice ra1 rs.length rc1))):=B1.out.setCell (by simp) _
 have O1:Hid (OwnI (w1.setCell (aQ w.heap.size 1) (.slice ra1 rs.length rc1)) (w.heap.size+1+1) (.slice ra1 rs.length rc1) rs):=by
  simp only [World.size_alloc] at o1
  exact o1.setBelow (by simp;omega) _
 clear o1 b1 B1
 go_wp2_with fail
 refine (qfm oa oc os _ ho (H2.out.below BS.out)).mono ?_
 rintro e w2 ⟨v2,rfl,o2,b2⟩
 have B2:Hid (Bw w w2):=qam BS.out b2 (by simp;omega)
 obtain ⟨hc2,hf2⟩:=qai b2
 obtain ⟨oa2,oc2,rfl,_⟩:=o2.form
 have O1':Hid (OwnI w2 (w.heap.size+1+1) (.slice ra1 rs.length rc1) rs):=O1.out.below b2
 simp only [World.size_setCell] at o2
 have O2:Hid (OwnI w2 w1.heap.size (.slice oa2 os.length oc2) os):=o2
 clear o2 b2 BS O1
 go_wp2
 refine bodyPost_ret (v:=stV p ra1 rs.length rc1 oa2 os.length oc2 code) (by simp [results,Tryz.results60,go_sem,hc2,y1,hc1]) rfl ⟨_,rfl,⟨_,_,rfl,?_,?_,?_⟩,?_⟩
 ·refine OwnI.mono (B:=w.heap.size+1+1) ?_ (by omega)
  repeat (refine OwnI.setBelow ?_ (by simp<;>omega) _)
  exact O1'.out
 ·refine OwnI.mono (B:=w1.heap.size) ?_ (by omega)
  repeat (refine OwnI.setBelow ?_ (by simpa using by omega) _)
  exact O2.out
 ·intro k hk hk'
  have h1:=L1.out k hk
  have h2:=O2.out.lt k hk'
  omega
 ·have:=B2.out
  go_grown
theorem qb1 (p code:Int) (ra oa:Option Addr) (rc oc:Nat) (rs os:List Int) (w:World) (hr:rs.length<=1048576) (ho:os.length<=1048576) (h1:Sl w ra rs) (h2:Sl w oa os):
  Calls Tryz.prog 74 #[stV p ra rs.length rc oa os.length oc code] w fun e w'=>∃ v,e=.returned v/\qag w' w.heap.size v p rs os code/\Bw w w':=by
 have H1:Hid (Sl w ra rs):=h1
 have H2:Hid (Sl w oa os):=h2
 clear h1 h2
 go_enter Tryz.func74,Tryz.ntmps74
 go_wp2_with (at_builtin;refine qdt rfl ?_)
 unfold STOP
 refine qdr _ (N:=w.heap.size+1+1) (by simp) rfl _ _ rfl rc ra rs rfl rfl (H1.out.below (by go_grown)) hr ?_
 intro v1 w1 o1 b1
 have B1:Hid (Bw w w1):=qam (by go_grown) b1 (by simp;omega)
 obtain ⟨hc1,hf1⟩:=qai b1
 have y1:w.heap.size+1<w1.heap.size:=by have:=b1.size;simp at this;omega
 have y0:w.heap.size<w1.heap.size:=by omega
 obtain ⟨ra1,rc1,rfl,_⟩:=o1.form
 have s0:w1.cell? (aQ w.heap.size 0)=some (.int .i64 p):=by rw [hc1 _ _ (by simp;omega)];simp
 have s1:w1.cell? (aQ w.heap.size 1)=some (.slice ra rs.length rc):=by rw [hc1 _ _ (by simp;omega)];simp
 have s2:w1.cell? (aQ w.heap.size 2)=some (.slice oa os.length oc):=by rw [hc1 _ _ (by simp;omega)];simp
 have s3:w1.cell? (aQ w.heap.size 3)=some (.int .i64 code):=by rw [hc1 _ _ (by simp;omega)];simp
 have L1:Hid (∀ k,(Value.slice ra1 rs.length rc1).ownBlock=some k->w.heap.size+1<k/\k<w1.heap.size):=fun k hk=>by have:=o1.lt k hk;simp at this;omega
 have BS:Hid (Bw w (w1.setCell (aQ w.heap.size 1) (.slice ra1 rs.length rc1))):=B1.out.setCell (by simp) _
 have O1:Hid (OwnI (w1.setCell (aQ w.heap.size 1) (.slice ra1 rs.length rc1)) (w.heap.size+1+1) (.slice ra1 rs.length rc1) rs):=by
  simp only [World.size_alloc] at o1
  exact o1.setBelow (by simp;omega) _
 clear o1 b1 B1
 go_wp2_with (at_builtin;refine qdt rfl ?_)
 unfold STOP
 refine qdr (w1.setCell (aQ w.heap.size 1) (.slice ra1 rs.length rc1)) (N:=w1.heap.size) (by simp) rfl _ _ rfl oc oa os rfl rfl (H2.out.below BS.out) ho ?_
 intro v2 w2 o2 b2
 have B2:Hid (Bw w w2):=qam BS.out b2 (by simp;omega)
 obtain ⟨hc2,hf2⟩:=qai b2
 obtain ⟨oa2,oc2,rfl,_⟩:=o2.form
 have O1':Hid (OwnI w2 (w.heap.size+1+1) (.slice ra1 rs.length rc1) rs):=O1.out.below b2
 simp only [World.size_setCell] at o2
 have O2:Hid (OwnI w2 w1.heap.size (.slice oa2 os.length oc2) os):=o2
 clear o2 b2 BS O1
 go_wp2
 refine bodyPost_ret (v:=stV p ra1 rs.length rc1 oa2 os.length oc2 code) (by simp [results,Tryz.results74,go_sem,hc2,y1,hc1]) rfl ⟨_,rfl,⟨_,_,rfl,?_,?_,?_⟩,?_⟩
 ·refine OwnI.mono (B:=w.heap.size+1+1) ?_ (by omega)
  repeat (refine OwnI.setBelow ?_ (by simp<;>omega) _)
  exact O1'.out
 ·refine OwnI.mono (B:=w1.heap.size) ?_ (by omega)
  repeat (refine OwnI.setBelow ?_ (by simpa using by omega) _)
  exact O2.out
 ·intro k hk hk'
  have h1:=L1.out k hk
  have h2:=O2.out.lt k hk'
  omega
 ·have:=B2.out
  go_grown
theorem qay {w w':World} (h:w.grownBy w' none) (row:Option Nat):w.grownBy w' row:=⟨h.os,h.tape,h.output,h.size,fun k hk _=>h.block k hk (by simp)⟩
theorem OwnI.drewN {w:World} {B:Nat} {v:Value} {xs:List Int} (h:OwnI w B v xs) (n:Nat):OwnI (w.drewN n) B v xs:=h
theorem OwnI.setOther {w:World} {B:Nat} {v:Value} {xs:List Int} (h:OwnI w B v xs) {p:Addr} (hne:v.ownBlock≠some p.block) (u:Value):OwnI (w.setCell p u) B v xs:=
 h.kept (row:=some p.block) (zV (World.grownBy.refl w _) (.inl rfl) u) (.inr hne)
theorem zT (w:World) (o:Obj):Bw w (w.alloc o):=(Below.refl _ _).alloc (Nat.le_refl _) o
theorem qck (p code:Int) (ra oa:Option Addr) (rn rc on oc:Nat) (w:World):
  Calls Tryz.prog 130 #[stV p ra rn rc oa on oc code] w fun e w'=>e=.returned (stV p ra rn rc oa on oc 2)/\Bw w w':=by
 go_enter Tryz.func130,Tryz.ntmps130
 go_wp2
 refine bodyPost_ret (v:=stV p ra rn rc oa on oc 2) (by simp [results,Tryz.results130,go_sem]) rfl ⟨rfl,?_⟩
 go_grown
theorem qch (la:Option Addr) (len lc:Nat) (p code:Int) (ra oa:Option Addr) (rn rc on oc:Nat) (w:World) (h0:0<=p) (h1:p<=1000000000):
  Calls Tryz.prog 129 #[.slice la len lc,stV p ra rn rc oa on oc code] w fun e w'=>e=.returned (stV (goP len p) ra rn rc oa on oc (goC len p code))/\Bw w w':=by
 by_cases hp:(len:Int)<=p+1
 ·have e1:goP len p=p:=if_pos hp
  have e2:goC len p code=2:=if_pos hp
  rw [e1,e2]
  clear e1 e2
  go_enter Tryz.func129,Tryz.ntmps129
  go_wp2_with fail
  refine (qck _ _ _ _ _ _ _ _ _).mono ?_
  rintro e w1 ⟨rfl,b1⟩
  have B1:Hid (Bw w w1):=qam (by go_grown) b1 (by simp;omega)
  obtain ⟨hc1,hf1⟩:=qai b1
  clear b1
  go_wp2
  refine bodyPost_ret (v:=stV p ra rn rc oa on oc 2) (by simp [results,Tryz.results129,go_sem,hc1]) rfl ⟨rfl,?_⟩
  have:=B1.out
  go_grown
 ·have e1:goP len p=p+1:=if_neg hp
  have e2:goC len p code=code:=if_neg hp
  rw [e1,e2]
  clear e1 e2
  go_enter Tryz.func129,Tryz.ntmps129
  go_wp2
  refine bodyPost_ret (v:=stV (p+1) ra rn rc oa on oc code) (by simp [results,Tryz.results129,go_sem]) rfl ⟨rfl,?_⟩
  go_grown
theorem qru (p:Int) (n:Nat):inB p 0 ((n:Int) - 1)=belB p n:=by
 rw [Bool.eq_iff_iff];simp [inB,belB];omega
open Go
section
variable {P:Program} {ops:Array Oper} {Q:Exit->Act->World->Prop} {md:Region.Mode} {S:World->Prop} {G:Nat->Bool}
def wpG (P:Program) (md:Region.Mode) (ops:Array Oper) (Q:Exit->Act->World->Prop) (S:World->Prop) (G:Nat->Bool):Nat->Array Bool->Act->World->Prop
 | 0,listed,a,w=>Region.ready md ops listed=[]/\Q .normal a w
 | fuel+1,listed,a,w=>(Region.ready md ops listed=[]->Q .normal a w)/\∀ i ∈ Region.ready md ops listed,wpOp P ops Q i (fun a' w'=>(S w->G i=false->S w')/\wpG P md ops Q S G fuel (listed.setIfInBounds i true) a' w') a w
theorem qi3:∀ (fuel:Nat) (listed:Array Bool) (a:Act) (w:World),wpG P md ops Q S G fuel listed a w->wpAny P md ops Q fuel listed a w
 | 0,_,_,_,h=>h
 | fuel+1,_,_,_,h=>⟨h.1,fun i hi=>wpOp_mono (fun a' w' h'=>qi3 fuel _ a' w' h'.2) (h.2 i hi)⟩
def qva (md:Region.Mode) (ops:Array Oper) (G:Nat->Bool) (listed:Array Bool) (i:Nat):Bool:=
 (List.range ops.size).all fun j=>!G j || listed.getD j true || match ops[j]? with
  | some oj=>oj.after.any fun e=>Region.binds md e && e.on == i
  | none=>true
theorem qq5 {listed:Array Bool} {i:Nat} (h:qva md ops G listed i=true) {j:Nat} {oj:Oper} (hj:ops[j]? = some oj) (hg:G j=true) (hu:listed.getD j true=false):∃ e ∈ oj.after,Region.binds md e=true/\e.on=i:=by
 simp only [qva,List.all_eq_true,List.mem_range] at h
 have h1:=h j (Array.getElem?_eq_some_iff.1 hj).1
 simp only [hj,hg,hu,Bool.not_true,Bool.false_or] at h1
 obtain ⟨e,he,hb⟩:=Array.any_eq_true'.1 h1
 simp only [Bool.and_eq_true,beq_iff_eq] at hb
 exact ⟨e,he,hb.1,hb.2⟩
theorem qtd {i:Nat} {oi:Oper} {v:Value} (hi:ops[i]? = some oi) (hsel:∀ (j:Nat) (o:Oper) cs b,ops[j]? = some o->o.op≠.select cs b)
  (hQ:∀ c a w,Q (.panic c) (a.put oi.dst v) w->Q (.panic c) a w):
  ∀ (fuel:Nat) (listed:Array Bool) (a:Act) (w:World),
   (∀ j oj,ops[j]? = some oj->j≠i->listed.getD j true=false->(∀ e ∈ oj.after,Region.binds md e=true->e.on≠i)->oi.apart ops oj=true)->
   (∀ j oj,ops[j]? = some oj->G j=true->listed.getD j true=false->∃ e ∈ oj.after,Region.binds md e=true/\e.on=i)->
   i ∈ Region.ready md ops listed->YieldsIf P ops S oi v a->S w->
   wpG P md ops Q S G fuel (listed.setIfInBounds i true) (a.put oi.dst v) w->wpG P md ops Q S G (fuel+1) listed a w:=by
 intro fuel
 induction fuel with
 | zero=>
  intro listed a w _ _ hr hy hS H
  refine ⟨fun h=>(by rw [h] at hr;cases hr),fun j hj=>?_⟩
  by_cases hji:j=i
  ·subst hji
   exact hy.wpOp hi hS ⟨fun _ _=>hS,H⟩
  ·have:=ready_mono hj hji
   rw [H.1] at this
   cases this
 | succ fuel ih=>
  intro listed a w hfree hG hr hy hS H
  refine ⟨fun h=>(by rw [h] at hr;cases hr),fun j hj=>?_⟩
  by_cases hji:j=i
  ·subst hji
   exact hy.wpOp hi hS ⟨fun _ _=>hS,H⟩
  ·obtain ⟨hjun,oj,hoj,hall⟩:=mem_ready.1 hj
   have hiun:=(mem_ready.1 hr).1
   have hnot:∀ e ∈ oj.after,Region.binds md e=true->e.on≠i:=fun e he hb heq=>by
    have h1:=hall e he hb
    rw [heq] at h1
    rcases Nat.lt_or_ge i listed.size with h' | h'
    ·simp [h'] at hiun h1
     rw [hiun] at h1
     cases h1
    ·simp [Array.getElem?_eq_none h'] at h1
   have hGj:G j=false:=by
    cases hg:G j with
    | false=>rfl
    | true=>
     obtain ⟨e,he,hb,heq⟩:=hG j oj hoj hg hjun
     exact absurd heq (hnot e he hb)
   have h2:=wpOp_putIf hoj (hfree j oj hoj hji hjun hnot) (fun cs b=>hsel i oi cs b hi) (fun cs b=>hsel j oj cs b hoj) hQ hy (H.2 j (ready_mono hj hji))
   have hun':∀ k,(listed.setIfInBounds j true).getD k true=false->listed.getD k true=false:=fun k hk=>by
    by_cases hjk:j=k
    ·subst hjk
     exact hjun
    ·rw [_root_.Go.getD_set_ne true hjk] at hk
     exact hk
   refine wpOp_mono (fun a' w' h3=>⟨h3.2.1,ih (listed.setIfInBounds j true) a' w' (fun k ok hk hki hun hno=>hfree k ok hk hki (hun' k hun) hno) (fun k ok hk hg hun=>hG k ok hk hg (hun' k hun)) (ready_mono hr (Ne.symm hji)) h3.1 (h3.2.1 hS hGj) ?_⟩) h2
   rw [Array.setIfInBounds_comm _ _ hji]
   exact h3.2.2
theorem qi4 {i:Nat} {oi:Oper} {v:Value} (hi:ops[i]? = some oi) (hsel:∀ (j:Nat) (o:Oper) cs b,ops[j]? = some o->o.op≠.select cs b)
  (hQ:∀ c a w,Q (.panic c) (a.put oi.dst v) w->Q (.panic c) a w):
  ∀ (fuel:Nat) (listed:Array Bool) (a:Act) (w:World),
   (∀ j oj,ops[j]? = some oj->j≠i->listed.getD j true=false->(∀ e ∈ oj.after,Region.binds md e=true->e.on≠i)->oi.apart ops oj=true)->
   i ∈ Region.ready md ops listed->YieldsIf P ops (fun _=>True) oi v a->
   wpG P md ops Q S G fuel (listed.setIfInBounds i true) (a.put oi.dst v) w->wpG P md ops Q S G (fuel+1) listed a w:=by
 intro fuel
 induction fuel with
 | zero=>
  intro listed a w _ hr hy H
  refine ⟨fun h=>(by rw [h] at hr;cases hr),fun j hj=>?_⟩
  by_cases hji:j=i
  ·subst hji
   exact hy.wpOp hi trivial ⟨fun h _=>h,H⟩
  ·have:=ready_mono hj hji
   rw [H.1] at this
   cases this
 | succ fuel ih=>
  intro listed a w hfree hr hy H
  refine ⟨fun h=>(by rw [h] at hr;cases hr),fun j hj=>?_⟩
  by_cases hji:j=i
  ·subst hji
   exact hy.wpOp hi trivial ⟨fun h _=>h,H⟩
  ·obtain ⟨hjun,oj,hoj,hall⟩:=mem_ready.1 hj
   have hiun:=(mem_ready.1 hr).1
   have hnot:∀ e ∈ oj.after,Region.binds md e=true->e.on≠i:=fun e he hb heq=>by
    have h1:=hall e he hb
    rw [heq] at h1
    rcases Nat.lt_or_ge i listed.size with h' | h'
    ·simp [h'] at hiun h1
     rw [hiun] at h1
     cases h1
    ·simp [Array.getElem?_eq_none h'] at h1
   have h2:=wpOp_putIf hoj (hfree j oj hoj hji hjun hnot) (fun cs b=>hsel i oi cs b hi) (fun cs b=>hsel j oj cs b hoj) hQ hy (H.2 j (ready_mono hj hji))
   have hun':∀ k,(listed.setIfInBounds j true).getD k true=false->listed.getD k true=false:=fun k hk=>by
    by_cases hjk:j=k
    ·subst hjk
     exact hjun
    ·rw [_root_.Go.getD_set_ne true hjk] at hk
     exact hk
   refine wpOp_mono (fun a' w' h3=>⟨h3.2.1,ih (listed.setIfInBounds j true) a' w' (fun k ok hk hki hun hno=>hfree k ok hk hki (hun' k hun) hno) (ready_mono hr (Ne.symm hji)) h3.1 ?_⟩) h2
   rw [Array.setIfInBounds_comm _ _ hji]
   exact h3.2.2
theorem qer (i:Nat) {oi:Oper} {fuel:Nat} {listed:Array Bool} {a:Act} {w:World} (hi0:ops.toList[i]? = some oi) (hs:Region.noSelect ops=true) (hf:Region.free md ops listed i=true) (hr:(Region.ready md ops listed).contains i=true)
  (hQ:∀ v c a w,Q (.panic c) (a.put oi.dst v) w->Q (.panic c) a w) (hw:Region.wanted oi (yielded ops a.tmps)=true)
  (h:∃ v,(∀ w,(execOp a.eval oi).run P w=.ok (.value v) w)/\wpG P md ops Q S G fuel (listed.setIfInBounds i true) (a.put oi.dst v) w):wpG P md ops Q S G (fuel+1) listed a w:=by
 obtain ⟨v,hv,h⟩:=h
 have hi:ops[i]? = some oi:=by rw [<- Array.getElem?_toList];exact hi0
 exact qi4 hi (Region.noSelect_spec hs) (hQ v) fuel listed a w (Region.free_spec hi hf) (by simpa using hr) (.inl ⟨hw,fun w _=>hv w⟩) h
theorem qad (i:Nat) {oi:Oper} {fuel:Nat} {listed:Array Bool} {a:Act} {w:World} (hi0:ops.toList[i]? = some oi) (hS:S w)
  (h:∃ v,(∀ w,S w->(execOp a.eval oi).run P w=.ok (.value v) w)/\wpG P md ops Q S G fuel (listed.setIfInBounds i true) (a.put oi.dst v) w) (hs:Region.noSelect ops=true:=by kernel_rfl) (hf:Region.free md ops listed i=true:=by kernel_rfl) (hr:(Region.ready md ops listed).contains i=true:=by kernel_rfl) (hg:qva md ops G listed i=true:=by kernel_rfl)
  (hQ:∀ v c a w,Q (.panic c) (a.put oi.dst v) w->Q (.panic c) a w:=by exact fun _ _ _ _ h=>h) (hw:Region.wanted oi (yielded ops a.tmps)=true:=by rfl):wpG P md ops Q S G (fuel+1) listed a w:=by
 obtain ⟨v,hv,h⟩:=h
 have hi:ops[i]? = some oi:=by rw [<- Array.getElem?_toList];exact hi0
 exact qtd hi (Region.noSelect_spec hs) (hQ v) fuel listed a w (Region.free_spec hi hf) (fun j oj hj hgj hu=>qq5 hg hj hgj hu) (by simpa using hr) (.inl ⟨hw,hv⟩) hS h
theorem qb7 (i:Nat) {oi:Oper} {fuel:Nat} {listed:Array Bool} {a:Act} {w:World} (hi0:ops.toList[i]? = some oi)
  (h:wpG P md ops Q S G fuel (listed.setIfInBounds i true) (a.put oi.dst undef) w) (hs:Region.noSelect ops=true:=by kernel_rfl) (hf:Region.free md ops listed i=true:=by kernel_rfl) (hr:(Region.ready md ops listed).contains i=true:=by kernel_rfl)
  (hQ:∀ v c a w,Q (.panic c) (a.put oi.dst v) w->Q (.panic c) a w:=by exact fun _ _ _ _ h=>h) (hw:Region.wanted oi (yielded ops a.tmps)=false:=by rfl):wpG P md ops Q S G (fuel+1) listed a w:=by
 have hi:ops[i]? = some oi:=by rw [<- Array.getElem?_toList];exact hi0
 exact qi4 hi (Region.noSelect_spec hs) (hQ undef) fuel listed a w (Region.free_spec hi hf) (by simpa using hr) (.inr ⟨hw,rfl⟩) h
def wpGT (P:Program) (md:Region.Mode) (ops:Array Oper) (Q:Exit->Act->World->Prop) (S:World->Prop) (G:Nat->Bool) (_:List Nat) (fuel:Nat) (listed:Array Bool) (a:Act) (w:World):Prop:=wpG P md ops Q S G fuel listed a w
theorem qau (is:List Nat) {fuel:Nat} {listed:Array Bool} {a:Act} {w:World} (h:wpGT P md ops Q S G is fuel listed a w):wpG P md ops Q S G fuel listed a w:=h
theorem qao {fuel:Nat} {listed:Array Bool} {a:Act} {w:World} (h:wpG P md ops Q S G fuel listed a w):wpGT P md ops Q S G [] fuel listed a w:=h
theorem qaf {i:Nat} {is:List Nat} {oi:Oper} {fuel:Nat} {listed:Array Bool} {a:Act} {w:World} (hi0:ops.toList[i]? = some oi) (hS:S w)
  (h:∃ v,(∀ w,S w->(execOp a.eval oi).run P w=.ok (.value v) w)/\wpGT P md ops Q S G is fuel (listed.setIfInBounds i true) (a.put oi.dst v) w) (hs:Region.noSelect ops=true:=by kernel_rfl) (hf:Region.free md ops listed i=true:=by kernel_rfl) (hr:(Region.ready md ops listed).contains i=true:=by kernel_rfl) (hg:qva md ops G listed i=true:=by kernel_rfl)
  (hQ:∀ v c a w,Q (.panic c) (a.put oi.dst v) w->Q (.panic c) a w:=by exact fun _ _ _ _ h=>h) (hw:Region.wanted oi (yielded ops a.tmps)=true:=by rfl):wpGT P md ops Q S G (i :: is) (fuel+1) listed a w:=qad i hi0 hS h hs hf hr hg hQ hw
theorem qaa (i:Nat) {oi:Oper} {fuel:Nat} {listed:Array Bool} {a:Act} {w:World} (hi0:ops.toList[i]? = some oi) (hr:Region.ready md ops listed=[i])
  (h:∀ K':Act->World->Prop,Shut (∀ a w,(G i=false->S w)->wpG P md ops Q S G fuel (listed.setIfInBounds i true) a w->K' a w)->if Region.wanted oi (yielded ops a.tmps)=true then Oper.wp P oi a w K' Q else K' (a.put oi.dst undef) w):wpG P md ops Q S G (fuel+1) listed a w:=
 ⟨fun h0 => (by rw [hr] at h0; cases h0), fun j hj => by
  rw [hr] at hj
  obtain rfl:=List.mem_singleton.1 hj
  have hi:ops[j]? = some oi:=by rw [<- Array.getElem?_toList];exact hi0
  exact wpOp_step hi fun K' hK=>h K' fun a w h1 h2=>hK a w ⟨fun _=>h1,h2⟩⟩
theorem qes (i j:Nat) {oi oj:Oper} {fuel:Nat} {listed:Array Bool} {a:Act} {w:World} (hi0:ops.toList[i]? = some oi) (hj0:ops.toList[j]? = some oj) (hr:Region.ready md ops listed=[i,j])
  (h:∀ K':Act->World->Prop,Shut (∀ a w,(G i=false->S w)->wpG P md ops Q S G fuel (listed.setIfInBounds i true) a w->K' a w)->if Region.wanted oi (yielded ops a.tmps)=true then Oper.wp P oi a w K' Q else K' (a.put oi.dst undef) w)
  (h':∀ K':Act->World->Prop,Shut (∀ a w,(G j=false->S w)->wpG P md ops Q S G fuel (listed.setIfInBounds j true) a w->K' a w)->if Region.wanted oj (yielded ops a.tmps)=true then Oper.wp P oj a w K' Q else K' (a.put oj.dst undef) w):wpG P md ops Q S G (fuel+1) listed a w:=
 ⟨fun h0 => (by rw [hr] at h0; cases h0), fun k hk => by
  rw [hr] at hk
  have hi:ops[i]? = some oi:=by rw [<- Array.getElem?_toList];exact hi0
  have hj:ops[j]? = some oj:=by rw [<- Array.getElem?_toList];exact hj0
  rcases List.mem_cons.1 hk with rfl | hk
  ·exact wpOp_step hi fun K' hK=>h K' fun a w h1 h2=>hK a w ⟨fun _=>h1,h2⟩
  ·obtain rfl:=List.mem_singleton.1 hk
   exact wpOp_step hj fun K' hK=>h' K' fun a w h1 h2=>hK a w ⟨fun _=>h1,h2⟩⟩
theorem qap {listed:Array Bool} {a:Act} {w:World} (hr:Region.ready md ops listed=[]) (h:Q .normal a w):∀ fuel,wpG P md ops Q S G fuel listed a w
 | 0=>⟨hr,h⟩
 | _+1=>⟨fun _=>h,by rw [hr];simp⟩
theorem qae {id:Nat} {a:Act} {w:World} (S:World->Prop) (G:Nat->Bool) (hm:P.follows .mixedOrders=true) (h:wpG P .any ops Q S G ops.size (Array.replicate ops.size false) a w.drew):(Code.region id ops true).wp P Q a w:=
 wp_region_any hm (qi3 _ _ _ _ h)
end
theorem qcz {ops:Array Oper} {o:Oper} {a:Act} {w:World} {K:Act->World->Prop} {Q:Exit->Act->World->Prop} {E:Prop} (hw:Region.wanted o (yielded ops a.tmps)=true) (f:FuncId) (args:Array Operand) (ts:Array TypeId)
  (ho:o.op=.call { callee:=.value (.func f),args:=args,argTypes:=ts }) (vals:Array Value) (hv:args.map a.eval=vals) (hen:∀ vs wx,(callFunc f vs).run Tryz.prog wx=.ok (.enter f vs) wx) {post:Ending->World->Prop} (hc:Calls Tryz.prog f vals w post)
  (h:∀ e w',post e w'->∃ v,e=.returned v/\K (a.put o.dst v) w'):
  if Region.wanted o (yielded ops a.tmps)=true then Oper.wp Tryz.prog o a w K Q else E:=by
 rw [if_pos hw]
 have hr:(execOp a.eval o).run Tryz.prog w=.ok (.enter f vals) w:=by
  unfold execOp
  simp [ho,resolve,invoke,hv,hen,Act.eval,Deferred.ofValue]
 unfold Oper.wp
 rw [hr,Oper.upon_enter]
 refine hc.mono fun e w' hp=>?_
 obtain ⟨v,rfl,hk⟩:=h e w' hp
 exact hk
