import Derived.Test.YtkdablcbhhphoaaGreatDoorBk2
import Derived.Test.YtkdablcbhhphoaaGreatDoorBk3
import Derived.Test.YtkdablcbhhphoaaGreatDoorBk4
import Derived.Test.YtkdablcbhhphoaaGreatDoorBk5
namespace Go.Proofs.YtkdablcbhhphoaaGreatDoor
set_option maxRecDepth 100000
set_option maxHeartbeats 4000000
open Go.RowKit
def qa8 (op r a b n places procs:Int):Bool:=
 if op=1 then inB n (-1000000000) 1000000000 && a == 0 && b == 0
 else if op=2 then n == 0
 else if op=3 then n == 0
 else if op=4 then n == 0
 else if op=5 then n == 0
 else if op=6 then inB n 0 (procs - 1) && r == 0 && b == 0
 else if op=7 then (inB n 0 (procs - 1) || n == 9) && a == 0 && b == 0
 else if op=8 then r == 0 && b == 0 && n == 0
 else if op=9 then belB n places && r == 0 && a == 0 && b == 0
 else if op=10 then belB n places && r == 0 && b == 0
 else if op=11 then r == 0 && a == 0 && b == 0 && n == 0
 else false
def qaj (op r a b n places procs:Int):Bool:=(inB r 0 3 && inB a 0 3 && inB b 0 3 && inB procs 1 4) && qa8 op r a b n places procs
theorem qe3 (op:Int):(op<1\/11<op)\/op=1\/op=2\/op=3\/op=4\/op=5\/op=6\/op=7\/op=8\/op=9\/op=10\/op=11:=by omega
theorem qgk (op r a b n places procs:Int) (h:op<1\/11<op):qa8 op r a b n places procs=false:=by
 unfold qa8;rw [if_neg (by omega),if_neg (by omega),if_neg (by omega),if_neg (by omega),if_neg (by omega),if_neg (by omega),if_neg (by omega),if_neg (by omega),if_neg (by omega),if_neg (by omega),if_neg (by omega)]
theorem qqs (op r a b n places procs:Int) (w:World) (h1:inB r 0 3=true) (h2:inB a 0 3=true) (h3:inB b 0 3=true) (h4:inB procs 1 4=true) (h5:1<=procs) (h6:procs<=4) (g:op=1\/op=2\/op=3\/op=4\/op=5\/op=6\/op=7\/op=8\/op=9\/op=10\/op=11):
  Calls Tryz.prog 173 #[insV op r a b n,.int .i64 places,.int .i64 procs] w fun e w'=>e=.returned (.bool (qa8 op r a b n places procs))/\Below w.heap.size w w':=by
 rcases g with rfl | rfl | rfl | rfl | rfl | rfl | rfl | rfl | rfl | rfl | rfl
 all_goals
  go_enter Tryz.func173,Tryz.ntmps173
  go_wp2_with (first|(go_at_call 20;refine (l1In_any _ _ _ _).mono ?_;rintro e w' ⟨rfl,rfl⟩)|(go_at_call 158;refine (l1Num_any _ _).mono ?_;rintro e w' ⟨rfl,rfl⟩))
  all_goals
   go_ret;refine ⟨qaf ?_,by go_grown⟩
   first | rfl | (simp [*,qa8,belB];done)|(simp [*,qa8,belB];omega)
theorem qfz (op r a b n places procs:Int) (w:World):
  Calls Tryz.prog 173 #[insV op r a b n,.int .i64 places,.int .i64 procs] w fun e w'=>e=.returned (.bool (qaj op r a b n places procs))/\Below w.heap.size w w':=by
 rcases zK (inB r 0 3 && inB a 0 3 && inB b 0 3 && inB procs 1 4) with h | h
 ·have hh:=h
  simp only [Bool.and_eq_true] at hh;obtain ⟨⟨⟨h1,h2⟩,h3⟩,h4⟩:=hh;have h5:1<=procs:=by simp [inB] at h4;omega
  have h6:procs<=4:=by simp [inB] at h4;omega
  have hv:qaj op r a b n places procs=qa8 op r a b n places procs:=by unfold qaj;rw [h];rfl
  rw [hv]
  rcases qe3 op with g | rfl | rfl | rfl | rfl | rfl | rfl | rfl | rfl | rfl | rfl | rfl
  ·rw [qgk _ _ _ _ _ _ _ g];exact qjs op r a b n places procs w h1 h2 h3 h4 h5 h6 g
  all_goals exact qqs _ r a b n places procs w h1 h2 h3 h4 h5 h6 (by decide)
 ·have hv:qaj op r a b n places procs=false:=by unfold qaj;rw [h];rfl
  rw [hv];exact qlv op r a b n places procs w h
theorem qk3 (op r a b n places procs:Int) (w:World) (h:procs<1\/4<procs):
  Calls Tryz.prog 225 #[insV op r a b n,.int .i64 places,.int .i64 procs] w fun e w'=>e=.returned (.bool false)/\Below w.heap.size w w':=by
 rcases h with h | h
 ·go_enter Tryz.func225,Tryz.ntmps225
  go_wp2;go_ret;exact ⟨rfl,by go_grown⟩
 ·have h':¬ procs<1:=by omega
  go_enter Tryz.func225,Tryz.ntmps225
  go_wp2;go_ret;exact ⟨rfl,by go_grown⟩
theorem qjf (op r a b n places procs:Int) (w:World) (h5:1<=procs) (h6:procs<=4) (h:op<1\/11<op):
  Calls Tryz.prog 225 #[insV op r a b n,.int .i64 places,.int .i64 procs] w fun e w'=>e=.returned (.bool false)/\Below w.heap.size w w':=by
 go_enter Tryz.func225,Tryz.ntmps225
 go_wp2_with (go_at_call 165;refine (qn6 _ _ _ _ _ _ h).mono ?_;rintro e w1 ⟨rfl,hb1⟩)
 first|(go_region_with (fail)) | fail
 all_goals
  go_wp2;go_ret;exact ⟨rfl,qjg hb1⟩
theorem qfk (op r a b n places procs:Int) (w:World):
  Calls Tryz.prog 225 #[insV op r a b n,.int .i64 places,.int .i64 procs] w fun e w'=>e=.returned (.bool (qaj op r a b n places procs))/\Below w.heap.size w w':=by
 by_cases hp:procs<1\/4<procs
 ·have hv:qaj op r a b n places procs=false:=by simp [qaj,inB];omega
  rw [hv];exact qk3 op r a b n places procs w hp
 ·have h5:1<=procs:=by omega
  have h6:procs<=4:=by omega
  rcases qe3 op with g | rfl | rfl | rfl | rfl | rfl | rfl | rfl | rfl | rfl | rfl | rfl
  ·have hv:qaj op r a b n places procs=false:=by unfold qaj;rw [qgk _ _ _ _ _ _ _ g];simp
   rw [hv];exact qjf op r a b n places procs w h5 h6 g
  ·by_cases g0:a=0
   case neg=>
    have hv:qaj 1 r a b n places procs=false:=by simp [qaj,qa8,g0]
    rw [hv];exact qdn r a b n places procs w h5 h6 (by simp [qax];omega)
   subst g0;by_cases g1:b=0
   case neg=>
    have hv:qaj 1 r 0 b n places procs=false:=by simp [qaj,qa8,g1]
    rw [hv];exact qdn r 0 b n places procs w h5 h6 (by simp [qax];omega)
   subst g1;refine (qhl r n places procs w h5 h6).mono ?_;rintro e w1 ⟨rfl,hb⟩;refine ⟨qaf ?_,hb⟩;rw [Bool.eq_iff_iff];simp [qaj,qa8,inB,belB] <;> omega
  ·by_cases g0:n=0
   case neg=>
    have hv:qaj 2 r a b n places procs=false:=by simp [qaj,qa8,g0]
    rw [hv];exact qbv 2 r a b n places procs w h5 h6 (by omega) (by omega) (by simp [qax];omega)
   subst g0;refine (qbu 2 r a b places procs w h5 h6 (by omega) (by omega)).mono ?_;rintro e w1 ⟨rfl,hb⟩;refine ⟨qaf ?_,hb⟩;rw [Bool.eq_iff_iff];simp [qaj,qa8,inB,belB] <;> omega
  ·by_cases g0:n=0
   case neg=>
    have hv:qaj 3 r a b n places procs=false:=by simp [qaj,qa8,g0]
    rw [hv];exact qbv 3 r a b n places procs w h5 h6 (by omega) (by omega) (by simp [qax];omega)
   subst g0;refine (qbu 3 r a b places procs w h5 h6 (by omega) (by omega)).mono ?_;rintro e w1 ⟨rfl,hb⟩;refine ⟨qaf ?_,hb⟩;rw [Bool.eq_iff_iff];simp [qaj,qa8,inB,belB] <;> omega
  ·by_cases g0:n=0
   case neg=>
    have hv:qaj 4 r a b n places procs=false:=by simp [qaj,qa8,g0]
    rw [hv];exact qbv 4 r a b n places procs w h5 h6 (by omega) (by omega) (by simp [qax];omega)
   subst g0;refine (qbu 4 r a b places procs w h5 h6 (by omega) (by omega)).mono ?_;rintro e w1 ⟨rfl,hb⟩;refine ⟨qaf ?_,hb⟩;rw [Bool.eq_iff_iff];simp [qaj,qa8,inB,belB] <;> omega
  ·by_cases g0:n=0
   case neg=>
    have hv:qaj 5 r a b n places procs=false:=by simp [qaj,qa8,g0]
    rw [hv];exact qbv 5 r a b n places procs w h5 h6 (by omega) (by omega) (by simp [qax];omega)
   subst g0;refine (qbu 5 r a b places procs w h5 h6 (by omega) (by omega)).mono ?_;rintro e w1 ⟨rfl,hb⟩;refine ⟨qaf ?_,hb⟩;rw [Bool.eq_iff_iff];simp [qaj,qa8,inB,belB] <;> omega
  ·by_cases g0:r=0
   case neg=>
    have hv:qaj 6 r a b n places procs=false:=by simp [qaj,qa8,g0]
    rw [hv];exact qdc r a b n places procs w h5 h6 (by simp [qax];omega)
   subst g0;by_cases g1:b=0
   case neg=>
    have hv:qaj 6 0 a b n places procs=false:=by simp [qaj,qa8,g1]
    rw [hv];exact qdc 0 a b n places procs w h5 h6 (by simp [qax];omega)
   subst g1;refine (qge a n places procs w h5 h6).mono ?_;rintro e w1 ⟨rfl,hb⟩;refine ⟨qaf ?_,hb⟩;rw [Bool.eq_iff_iff];simp [qaj,qa8,inB,belB] <;> omega
  ·by_cases g0:a=0
   case neg=>
    have hv:qaj 7 r a b n places procs=false:=by simp [qaj,qa8,g0]
    rw [hv];exact qdd r a b n places procs w h5 h6 (by simp [qax];omega)
   subst g0;by_cases g1:b=0
   case neg=>
    have hv:qaj 7 r 0 b n places procs=false:=by simp [qaj,qa8,g1]
    rw [hv];exact qdd r 0 b n places procs w h5 h6 (by simp [qax];omega)
   subst g1;refine (qgf r n places procs w h5 h6).mono ?_;rintro e w1 ⟨rfl,hb⟩;refine ⟨qaf ?_,hb⟩;rw [Bool.eq_iff_iff];simp [qaj,qa8,inB,belB] <;> omega
  ·by_cases g0:r=0
   case neg=>
    have hv:qaj 8 r a b n places procs=false:=by simp [qaj,qa8,g0]
    rw [hv];exact qca r a b n places procs w h5 h6 (by simp [qax];omega)
   subst g0;by_cases g1:b=0
   case neg=>
    have hv:qaj 8 0 a b n places procs=false:=by simp [qaj,qa8,g1]
    rw [hv];exact qca 0 a b n places procs w h5 h6 (by simp [qax];omega)
   subst g1;by_cases g2:n=0
   case neg=>
    have hv:qaj 8 0 a 0 n places procs=false:=by simp [qaj,qa8,g2]
    rw [hv];exact qca 0 a 0 n places procs w h5 h6 (by simp [qax];omega)
   subst g2;refine (qfl a places procs w h5 h6).mono ?_;rintro e w1 ⟨rfl,hb⟩;refine ⟨qaf ?_,hb⟩;rw [Bool.eq_iff_iff];simp [qaj,qa8,inB,belB] <;> omega
  ·by_cases g0:r=0
   case neg=>
    have hv:qaj 9 r a b n places procs=false:=by simp [qaj,qa8,g0]
    rw [hv];exact qci r a b n places procs w h5 h6 (by simp [qax];omega)
   subst g0;by_cases g1:a=0
   case neg=>
    have hv:qaj 9 0 a b n places procs=false:=by simp [qaj,qa8,g1]
    rw [hv];exact qci 0 a b n places procs w h5 h6 (by simp [qax];omega)
   subst g1;by_cases g2:b=0
   case neg=>
    have hv:qaj 9 0 0 b n places procs=false:=by simp [qaj,qa8,g2]
    rw [hv];exact qci 0 0 b n places procs w h5 h6 (by simp [qax];omega)
   subst g2;refine (qgd n places procs w h5 h6).mono ?_;rintro e w1 ⟨rfl,hb⟩;refine ⟨qaf ?_,hb⟩;rw [Bool.eq_iff_iff];simp [qaj,qa8,inB,belB] <;> omega
  ·by_cases g0:r=0
   case neg=>
    have hv:qaj 10 r a b n places procs=false:=by simp [qaj,qa8,g0]
    rw [hv];exact qde r a b n places procs w h5 h6 (by simp [qax];omega)
   subst g0;by_cases g1:b=0
   case neg=>
    have hv:qaj 10 0 a b n places procs=false:=by simp [qaj,qa8,g1]
    rw [hv];exact qde 0 a b n places procs w h5 h6 (by simp [qax];omega)
   subst g1;refine (qgg a n places procs w h5 h6).mono ?_;rintro e w1 ⟨rfl,hb⟩;refine ⟨qaf ?_,hb⟩;rw [Bool.eq_iff_iff];simp [qaj,qa8,inB,belB] <;> omega
  ·by_cases g0:r=0
   case neg=>
    have hv:qaj 11 r a b n places procs=false:=by simp [qaj,qa8,g0]
    rw [hv];exact qb2 r a b n places procs w h5 h6 (by simp [qax];omega)
   subst g0;by_cases g1:a=0
   case neg=>
    have hv:qaj 11 0 a b n places procs=false:=by simp [qaj,qa8,g1]
    rw [hv];exact qb2 0 a b n places procs w h5 h6 (by simp [qax];omega)
   subst g1;by_cases g2:b=0
   case neg=>
    have hv:qaj 11 0 0 b n places procs=false:=by simp [qaj,qa8,g2]
    rw [hv];exact qb2 0 0 b n places procs w h5 h6 (by simp [qax];omega)
   subst g2;by_cases g3:n=0
   case neg=>
    have hv:qaj 11 0 0 0 n places procs=false:=by simp [qaj,qa8,g3]
    rw [hv];exact qb2 0 0 0 n places procs w h5 h6 (by simp [qax];omega)
   subst g3;refine (qhk places procs w h5 h6).mono ?_;rintro e w1 ⟨rfl,hb⟩;refine ⟨qaf ?_,hb⟩;rw [Bool.eq_iff_iff];simp [qaj,qa8,inB] <;> omega
structure I5 where
 o:Int
 r:Int
 a:Int
 b:Int
 n:Int
def qan (w:World) (b off len:Nat) (g:Nat->I5):Prop:=∀ i,i<len->
 w.cell? ⟨b,off+i*5,none⟩=some (.int .i64 (g i).o)/\w.cell? ⟨b,off+i*5+1,none⟩=some (.int .i64 (g i).r)/\w.cell? ⟨b,off+i*5+2,none⟩=some (.int .i64 (g i).a)/\w.cell? ⟨b,off+i*5+3,none⟩=some (.int .i64 (g i).b)/\w.cell? ⟨b,off+i*5+4,none⟩=some (.int .i64 (g i).n)
theorem qan.below {w w':World} {B b off len:Nat} {g:Nat->I5} (h:qan w b off len g) (hb:Below B w w') (hB:b<B):qan w' b off len g:=by
 intro i hi;obtain ⟨h0,h1,h2,h3,h4⟩:=h i hi;exact ⟨(hb.cell hB).trans h0,(hb.cell hB).trans h1,(hb.cell hB).trans h2,(hb.cell hB).trans h3,(hb.cell hB).trans h4⟩
def okAt (g:Nat->I5) (len procs:Int) (i:Nat):Bool:=qaj (g i).o (g i).r (g i).a (g i).b (g i).n len procs
def qkb (g:Nat->I5) (len procs:Int) (k:Nat):Bool:=(List.range k).all (okAt g len procs)
def qac (g:Nat->I5) (len:Nat) (procs:Int):Bool:=qkb g len procs len && (inB len 1 30 && inB procs 1 4)
theorem qjy (g:Nat->I5) (len procs:Int) (k:Nat):qkb g len procs (k+1)=(qkb g len procs k && okAt g len procs k):=by
 simp [qkb,List.range_succ]
theorem qh4 (g:Nat->I5) (len procs:Int) {k m:Nat} (hk:k<m) (h:okAt g len procs k=false):qkb g len procs m=false:=by
 rw [qkb,List.all_eq_false];exact ⟨k,List.mem_range.2 hk,by simp [h]⟩
theorem qeq (b off len cap:Nat) (g:Nat->I5) (procs:Int) (w:World) (hlen:len<=maxLen) (hb:b<w.heap.size) (hc:qan w b off len g):
  Calls Tryz.prog 120 #[.slice (some ⟨b,off,none⟩) len cap,.int .i64 procs] w fun e w'=>e=.returned (.bool (qac g len procs))/\Below w.heap.size w w':=by
 unfold maxLen at hlen;have HC:Hid (qan w b off len g):=hc;clear hc
 go_enter Tryz.func120,Tryz.ntmps120
 go_wp2_with fail
 go_loopw [5] (fun i wr=>∃ k:Nat,k<=len/\i=.int .i64 k/\Hid (qkb g len procs k=true)/\Below w.heap.size w wr) (fun i _=>len - (intOf i).toNat)
 case atStart=>exact ⟨0,Nat.zero_le _,rfl,rfl,Below.refl _ _⟩
 case round=>
  obtain ⟨k,hk,rfl,HA,hbw⟩:=hrel;by_cases hlt:k<len
  ·obtain ⟨c0,c1,c2,c3,c4⟩:=HC.out.below hbw hb k hlt
   rcases zK (okAt g len procs k) with ho | ho
   ·have HO:Hid (okAt g len procs k=true):=ho
    have ho':qaj (g k).o (g k).r (g k).a (g k).b (g k).n len procs=true:=ho;clear ho;go_wp2_with (go_at_call 173;refine (qfz _ _ _ _ _ _ _ _).mono ?_;rintro e w1 ⟨rfl,hb1⟩)
    go_roundw
    case rel=>exact ⟨k+1,by omega,by go_num,by rw [Hid,qjy,HA.out,HO.out];rfl,hbw.trans (hb1.mono hbw.size)⟩
    case measure=>simp [intOf];omega
   ·have HO:Hid (okAt g len procs k=false):=ho
    have ho':qaj (g k).o (g k).r (g k).a (g k).b (g k).n len procs=false:=ho;clear ho;go_wp2_with (go_at_call 173;refine (qfz _ _ _ _ _ _ _ _).mono ?_;rintro e w1 ⟨rfl,hb1⟩)
    go_ret;exact ⟨qaf (by rw [qac,qh4 g len procs hlt HO.out];rfl),hbw.trans (hb1.mono hbw.size)⟩
  ·have hkl:k=len:=by omega
   have HP:Hid (qac g len procs=(inB len 1 30 && inB procs 1 4)):=by
    have hA:=HA.out;rw [hkl] at hA;rw [Hid,qac,hA];rfl
   clear HA hkl
   rcases zK (inB len 1 30) with t0 | t0
   all_goals
    go_wp2_with (go_at_call 20;refine (l1In_any _ _ _ _).mono ?_;rintro e w' ⟨rfl,rfl⟩)
    go_ret;exact ⟨qaf (by rw [HP.out,t0] <;> rfl),hbw⟩
theorem qc5 (b off len cap:Nat) (g:Nat->I5) (procs:Int) (w:World) (hlen:len<=maxLen) (hb:b<w.heap.size) (hc:qan w b off len g):
  Calls Tryz.prog 180 #[.slice (some ⟨b,off,none⟩) len cap,.int .i64 procs] w fun e w'=>e=.returned (.bool (qac g len procs))/\Below w.heap.size w w':=by
 unfold maxLen at hlen;have HC:Hid (qan w b off len g):=hc;clear hc;by_cases hr:1<=len/\len<=30
 case neg=>
  have hv:qac g len procs=false:=by
   rw [qac,show inB len 1 30=false from by simp [inB];omega];simp
  rw [hv];clear hv;by_cases h1:len<1
  ·have h1':(len:Int)<1:=by omega
   go_enter Tryz.func180,Tryz.ntmps180
   go_wp2;go_ret;exact ⟨rfl,Below.refl _ _⟩
  ·have h1':¬ (len:Int)<1:=by omega
   have h2':(30:Int)<len:=by omega
   go_enter Tryz.func180,Tryz.ntmps180
   go_wp2;go_ret;exact ⟨rfl,Below.refl _ _⟩
 case pos=>
 obtain ⟨r1,r2⟩:=hr;have h1':¬ (len:Int)<1:=by omega
 have h2':¬ (30:Int)<len:=by omega
 go_enter Tryz.func180,Tryz.ntmps180
 go_wp2_with fail
 go_loopw [17] (fun i wr=>∃ k:Nat,k<=len/\i=.int .i64 k/\Hid (qkb g len procs k=true)/\Below w.heap.size w wr) (fun i _=>len - (intOf i).toNat)
 case atStart=>exact ⟨0,Nat.zero_le _,rfl,rfl,Below.refl _ _⟩
 case round=>
  obtain ⟨k,hk,rfl,HA,hbw⟩:=hrel;have hs:=hbw.size;by_cases hlt:k<len
  ·obtain ⟨c0,c1,c2,c3,c4⟩:=HC.out.below hbw hb k hlt
   rcases zK (okAt g len procs k) with ho | ho
   ·have HO:Hid (okAt g len procs k=true):=ho
    have ho':qaj (g k).o (g k).r (g k).a (g k).b (g k).n len procs=true:=ho;clear ho;go_wp2_with (go_at_call 225;refine (qfk _ _ _ _ _ _ _ _).mono ?_;rintro e w1 ⟨rfl,hb1⟩)
    go_roundw
    case rel=>exact ⟨k+1,by omega,by go_num,by rw [Hid,qjy,HA.out,HO.out];rfl,(hbw.alloc hs _).trans (hb1.mono (by simp;omega))⟩
    case measure=>simp [intOf];omega
   ·have HO:Hid (okAt g len procs k=false):=ho
    have ho':qaj (g k).o (g k).r (g k).a (g k).b (g k).n len procs=false:=ho;clear ho;go_wp2_with (go_at_call 225;refine (qfk _ _ _ _ _ _ _ _).mono ?_;rintro e w1 ⟨rfl,hb1⟩)
    go_ret;exact ⟨qaf (by rw [qac,qh4 g len procs hlt HO.out];rfl),(hbw.alloc hs _).trans (hb1.mono (by simp;omega))⟩
  ·have hkl:k=len:=by omega
   have h30:inB len 1 30=true:=by simp [inB];omega
   have HP:Hid (qac g len procs=true):=by
    have hA:=HA.out;rw [hkl] at hA
    have hp:inB procs 1 4=true:=by
     have h0:okAt g len procs 0=true:=by
      have:=(List.all_eq_true.1 (show (List.range len).all (okAt g len procs)=true from hA)) 0 (List.mem_range.2 (by omega));exact this
     simp only [okAt,qaj,Bool.and_eq_true] at h0;exact h0.1.2
    rw [Hid,qac,hA,h30,hp];rfl
   clear HA hkl h30;go_wp2;go_ret;exact ⟨qaf HP.out.symm,hbw⟩
attribute [local go_sem] qh8 qh9 qgx qgr qgs qe9 qgw qgy qgz qfb qfc qem qgu qgv qfa qg0 qg1 qfd qh6 qh7 qgt
theorem qna (n a r0 r1 r2 r3:Int) (w:World) (h0:0<=a) (h3:a<=3):
  Calls Tryz.prog 164 #[.iface 251 (qvi n a),regV r0 r1 r2 r3] w fun e w'=>e=.returned (evV 2 n (zi [r0,r1,r2,r3] a.toNat))/\Below w.heap.size w w':=by
 have ha:a=0\/a=1\/a=2\/a=3:=by omega
 clear h0 h3
 rcases ha with rfl | rfl | rfl | rfl
 ·go_enter Tryz.func164,Tryz.ntmps164
  go_wp2_with fail
  go_region
  all_goals
   go_wp2;refine bodyPost_ret (v:=evV 2 n r0) (by simp [results,Tryz.results164,go_sem]) rfl ⟨rfl,?_⟩
   go_grown
 ·go_enter Tryz.func164,Tryz.ntmps164
  go_wp2_with fail
  go_region
  all_goals
   go_wp2;refine bodyPost_ret (v:=evV 2 n r1) (by simp [results,Tryz.results164,go_sem]) rfl ⟨rfl,?_⟩
   go_grown
 ·go_enter Tryz.func164,Tryz.ntmps164
  go_wp2_with fail
  go_region
  all_goals
   go_wp2;refine bodyPost_ret (v:=evV 2 n r2) (by simp [results,Tryz.results164,go_sem]) rfl ⟨rfl,?_⟩
   go_grown
 ·go_enter Tryz.func164,Tryz.ntmps164
  go_wp2_with fail
  go_region
  all_goals
   go_wp2;refine bodyPost_ret (v:=evV 2 n r3) (by simp [results,Tryz.results164,go_sem]) rfl ⟨rfl,?_⟩
   go_grown
theorem qnb (r n r0 r1 r2 r3:Int) (w:World):
  Calls Tryz.prog 164 #[.iface 253 (qvq r n),regV r0 r1 r2 r3] w fun e w'=>e=.returned (evV 3 n 0)/\Below w.heap.size w w':=by
 go_enter Tryz.func164,Tryz.ntmps164
 go_wp2;refine bodyPost_ret (v:=evV 3 n 0) (by simp [results,Tryz.results164,go_sem]) rfl ⟨rfl,?_⟩
 go_grown
theorem qkw (a r0 r1 r2 r3:Int) (w:World) (h0:0<=a) (h3:a<=3):
  Calls Tryz.prog 164 #[.iface 255 (qn7 a),regV r0 r1 r2 r3] w fun e w'=>e=.returned (evV 4 0 (zi [r0,r1,r2,r3] a.toNat))/\Below w.heap.size w w':=by
 have ha:a=0\/a=1\/a=2\/a=3:=by omega
 clear h0 h3
 rcases ha with rfl | rfl | rfl | rfl
 ·go_enter Tryz.func164,Tryz.ntmps164
  go_wp2;refine bodyPost_ret (v:=evV 4 0 r0) (by simp [results,Tryz.results164,go_sem]) rfl ⟨rfl,?_⟩
  go_grown
 ·go_enter Tryz.func164,Tryz.ntmps164
  go_wp2;refine bodyPost_ret (v:=evV 4 0 r1) (by simp [results,Tryz.results164,go_sem]) rfl ⟨rfl,?_⟩
  go_grown
 ·go_enter Tryz.func164,Tryz.ntmps164
  go_wp2;refine bodyPost_ret (v:=evV 4 0 r2) (by simp [results,Tryz.results164,go_sem]) rfl ⟨rfl,?_⟩
  go_grown
 ·go_enter Tryz.func164,Tryz.ntmps164
  go_wp2;refine bodyPost_ret (v:=evV 4 0 r3) (by simp [results,Tryz.results164,go_sem]) rfl ⟨rfl,?_⟩
  go_grown
theorem qpx (r n r0 r1 r2 r3:Int) (w:World):
  Calls Tryz.prog 164 #[.iface 257 (setV r n),regV r0 r1 r2 r3] w fun e w'=>e=.returned (evV 1 0 0)/\Below w.heap.size w w':=by
 go_enter Tryz.func164,Tryz.ntmps164
 go_wp2;refine bodyPost_ret (v:=evV 1 0 0) (by simp [results,Tryz.results164,go_sem]) rfl ⟨rfl,?_⟩
 go_grown
theorem qcz (op r a b r0 r1 r2 r3:Int) (w:World):
  Calls Tryz.prog 164 #[.iface 259 (qki op r a b),regV r0 r1 r2 r3] w fun e w'=>e=.returned (evV 1 0 0)/\Below w.heap.size w w':=by
 go_enter Tryz.func164,Tryz.ntmps164
 go_wp2;refine bodyPost_ret (v:=evV 1 0 0) (by simp [results,Tryz.results164,go_sem]) rfl ⟨rfl,?_⟩
 go_grown
theorem qm9 (n r0 r1 r2 r3:Int) (w:World):
  Calls Tryz.prog 164 #[.iface 261 (qux n),regV r0 r1 r2 r3] w fun e w'=>e=.returned (evV 1 0 0)/\Below w.heap.size w w':=by
 go_enter Tryz.func164,Tryz.ntmps164
 go_wp2;refine bodyPost_ret (v:=evV 1 0 0) (by simp [results,Tryz.results164,go_sem]) rfl ⟨rfl,?_⟩
 go_grown
theorem qnc (a n r0 r1 r2 r3:Int) (w:World):
  Calls Tryz.prog 164 #[.iface 263 (qv1 a n),regV r0 r1 r2 r3] w fun e w'=>e=.returned (evV 1 0 0)/\Below w.heap.size w w':=by
 go_enter Tryz.func164,Tryz.ntmps164
 go_wp2;refine bodyPost_ret (v:=evV 1 0 0) (by simp [results,Tryz.results164,go_sem]) rfl ⟨rfl,?_⟩
 go_grown
theorem qpw (r0 r1 r2 r3:Int) (w:World):
  Calls Tryz.prog 164 #[.iface 264 endV,regV r0 r1 r2 r3] w fun e w'=>e=.returned (evV 1 0 0)/\Below w.heap.size w w':=by
 go_enter Tryz.func164,Tryz.ntmps164
 go_wp2;refine bodyPost_ret (v:=evV 1 0 0) (by simp [results,Tryz.results164,go_sem]) rfl ⟨rfl,?_⟩
 go_grown
def evK (o:Int):Int:=if o=6 then 2 else if o=7 then 3 else if o=8 then 4 else 1
def evP (o n:Int):Int:=if o=6 then n else if o=7 then n else 0
def evW (o a:Int) (rs:List Int):Int:=if o=6 then zi rs a.toNat else if o=8 then zi rs a.toNat else 0
def qxp (o r a b n:Int):Value:=
 if o=1 then .iface 257 (setV r n) else if o=6 then .iface 251 (qvi n a) else if o=7 then .iface 253 (qvq r n)
 else if o=8 then .iface 255 (qn7 a) else if o=9 then .iface 261 (qux n) else if o=10 then .iface 263 (qv1 a n)
 else if o=11 then .iface 264 endV else .iface 259 (qki o r a b)
theorem qlr (o r a b n:Int) (w:World) (h1:1<=o) (h2:o<=11):
  Calls Tryz.prog 165 #[insV o r a b n] w fun e w'=>e=.returned (qxp o r a b n)/\Below w.heap.size w w':=by
 rcases qe3 o with g | rfl | rfl | rfl | rfl | rfl | rfl | rfl | rfl | rfl | rfl | rfl
 ·omega
 ·exact qe5 r a b n w
 ·exact qfq r a b n w
 ·exact qfr r a b n w
 ·exact qfs r a b n w
 ·exact qft r a b n w
 ·exact qdy r a b n w
 ·exact qdz r a b n w
 ·exact qdm r a b n w
 ·exact qdx r a b n w
 ·exact qd0 r a b n w
 ·exact qe4 r a b n w
theorem qkx (o r a b n r0 r1 r2 r3:Int) (w:World) (h1:1<=o) (h2:o<=11) (h3:0<=a) (h4:a<=3):
  Calls Tryz.prog 164 #[qxp o r a b n,regV r0 r1 r2 r3] w fun e w'=>e=.returned (evV (evK o) (evP o n) (evW o a [r0,r1,r2,r3]))/\Below w.heap.size w w':=by
 rcases qe3 o with g | rfl | rfl | rfl | rfl | rfl | rfl | rfl | rfl | rfl | rfl | rfl
 ·omega
 ·exact qpx r n r0 r1 r2 r3 w
 ·exact qcz 2 r a b r0 r1 r2 r3 w
 ·exact qcz 3 r a b r0 r1 r2 r3 w
 ·exact qcz 4 r a b r0 r1 r2 r3 w
 ·exact qcz 5 r a b r0 r1 r2 r3 w
 ·exact qna n a r0 r1 r2 r3 w h3 h4
 ·exact qnb r n r0 r1 r2 r3 w
 ·exact qkw a r0 r1 r2 r3 w h3 h4
 ·exact qm9 n r0 r1 r2 r3 w
 ·exact qnc a n r0 r1 r2 r3 w
 ·exact qpw r0 r1 r2 r3 w
def qch (g:Nat->I5) (len:Nat) (p:Int) (rs os:List Int) (code:Int):Bool:=qac g len 4 && qc6 len p rs os code && (code == 0)
def nxK (g:Nat->I5) (len:Nat) (p:Int) (rs os:List Int) (code:Int):Int:=if qch g len p rs os code=true then evK (g p.toNat).o else 0
def nxP (g:Nat->I5) (len:Nat) (p:Int) (rs os:List Int) (code:Int):Int:=if qch g len p rs os code=true then evP (g p.toNat).o (g p.toNat).n else 0
def nxW (g:Nat->I5) (len:Nat) (p:Int) (rs os:List Int) (code:Int):Int:=if qch g len p rs os code=true then evW (g p.toNat).o (g p.toNat).a rs else 0
theorem qtg {g:Nat->I5} {len:Nat} {p:Int} {rs os:List Int} {code:Int} (h:qch g len p rs os code=false):evV (nxK g len p rs os code) (nxP g len p rs os code) (nxW g len p rs os code)=evV 0 0 0:=by
 simp [nxK,nxP,nxW,h]
theorem qtf {g:Nat->I5} {len k:Nat} {rs os:List Int} {code:Int} (h:qch g len (k:Int) rs os code=true):evV (nxK g len k rs os code) (nxP g len k rs os code) (nxW g len k rs os code)=evV (evK (g k).o) (evP (g k).o (g k).n) (evW (g k).o (g k).a rs):=by
 simp [nxK,nxP,nxW,h]
theorem qxq {a b:Value} (h:a=b):Ending.returned a=.returned b:=by rw [h]
theorem qbt {g:Nat->I5} {len:Nat} {procs:Int} (h:qac g len procs=true) {k:Nat} (hk:k<len):qaj (g k).o (g k).r (g k).a (g k).b (g k).n len procs=true:=by
 simp only [qac,Bool.and_eq_true] at h;have h1:=h.1;rw [qkb,List.all_eq_true] at h1;exact h1 k (List.mem_range.2 hk)
theorem qcb {o r a b n places procs:Int} (h:qaj o r a b n places procs=true):(1<=o/\o<=11)/\(0<=r/\r<=3)/\(0<=a/\a<=3)/\(0<=b/\b<=3):=by
 simp only [qaj,Bool.and_eq_true] at h;obtain ⟨⟨⟨⟨h1,h2⟩,h3⟩,_⟩,h5⟩:=h;simp only [inB,decide_eq_true_eq] at h1 h2 h3;refine ⟨?_,h1,h2,h3⟩;apply Classical.byContradiction;intro hn;rw [qgk _ _ _ _ _ _ _ (by omega)] at h5;cases h5
theorem qbb {g:Nat->I5} {len:Nat} {p:Int} {rs os:List Int} {code:Int} (h:qch g len p rs os code=true):qac g len 4=true/\qc6 len p rs os code=true/\code=0:=by
 simp only [qch,Bool.and_eq_true,beq_iff_eq] at h;exact ⟨h.1.1,h.1.2,h.2⟩
theorem qck {n:Nat} {p:Int} {rs os:List Int} {code:Int} (h:qc6 n p rs os code=true):(∃ r0 r1 r2 r3,rs=[r0,r1,r2,r3]/\numB r0=true/\numB r1=true/\numB r2=true/\numB r3=true)/\(∃ k:Nat,p=k/\k<n)/\os.length<=60/\allN os=true:=by
 simp only [qc6,qcy,outB,Bool.and_eq_true,beq_iff_eq,decide_eq_true_eq] at h;obtain ⟨⟨⟨⟨h4,hr⟩,_⟩,hp⟩,h60,ho⟩:=h;have h4':rs.length=4:=by omega
 refine ⟨?_,?_,by omega,ho⟩
 ·match rs,h4' with
  | [r0,r1,r2,r3],_=>
   simp only [allN,List.all_cons,List.all_nil,Bool.and_eq_true,and_true] at hr;exact ⟨r0,r1,r2,r3,rfl,hr⟩
 ·simp only [belB,decide_eq_true_eq] at hp
  obtain ⟨k,rfl⟩:=Int.eq_ofNat_of_zero_le hp.1;exact ⟨k,rfl,by omega⟩
theorem qn0 (b off len cap:Nat) (g:Nat->I5) (p code:Int) (ra oa:Option Addr) (rc oc:Nat) (rs os:List Int) (w:World) (ho:os.length<=1048576) (h1:Sl w ra rs) (h2:Sl w oa os) (t2:qac g len 4=true) (hw:qch g len p rs os code=false):
  Calls Tryz.prog 109 #[.slice (some ⟨b,off,none⟩) len cap,stV p ra rs.length rc oa os.length oc code] w fun e w'=>e=.returned (evV 0 0 0)/\Below w.heap.size w w':=by
 have H1:Hid (Sl w ra rs):=h1;have H2:Hid (Sl w oa os):=h2;clear h1 h2
 rcases zK (code != 0) with t0 | t0
 ·clear hw t2
  go_enter Tryz.func109,Tryz.ntmps109
  go_wp2;refine bodyPost_ret (v:=evV 0 0 0) (by simp [results,Tryz.results109,go_sem]) rfl ⟨rfl,?_⟩
  go_grown
 have hc:(code == 0)=true:=by simpa using t0
 have t1:qc6 len p rs os code=false:=by
  simp only [qch,t2,hc,Bool.and_true,Bool.true_and] at hw;exact hw
 clear hw hc t2
 go_enter Tryz.func109,Tryz.ntmps109
 go_wp2_with fail
 refine (qdv _ _ _ _ _ _ _ _ _ rs os _ ho (H1.out.below (by go_grown)) (H2.out.below (by go_grown))).mono ?_;rintro e w1 ⟨rfl,b1⟩;have B1:Hid (Below w.heap.size w w1):=qai (by go_grown) b1 (by simp;omega);obtain ⟨hc1,hf1⟩:=qap b1;clear b1;go_wp2;refine bodyPost_ret (v:=evV 0 0 0) (by simp [results,Tryz.results109,go_sem,hc1]) rfl ⟨rfl,?_⟩;have:=B1.out
 go_grown
def qkh (o a b n:Int):Int:=if o=1 then n else if o=2 then a+b else if o=3 then a - b else if o=4 then a*b else if a<b then 1 else 0
def goP (len:Nat) (p:Int):Int:=if (len:Int)<=p+1 then p else p+1
def goC (len:Nat) (p code:Int):Int:=if (len:Int)<=p+1 then 2 else code
structure S4 where
 p:Int
 rs:List Int
 os:List Int
 c:Int
def goS (len:Nat) (p:Int) (rs os:List Int) (code:Int):S4:=⟨goP len p,rs,os,goC len p code⟩
def qah (len:Nat) (x:I5) (p:Int) (rs os:List Int) (code v:Int):S4:=
 if x.o=6 then goS len p rs os code
 else if x.o=7 then goS len p (rs.set x.r.toNat v) os code
 else if x.o=8 then (if os.length=60 then ⟨p,rs,os,2⟩ else goS len p rs (os ++ [v]) code)
 else if x.o=9 then ⟨x.n,rs,os,code⟩
 else if x.o=10 then (if zi rs x.a.toNat=0 then ⟨x.n,rs,os,code⟩ else goS len p rs os code)
 else if x.o=11 then ⟨p,rs,os,1⟩
 else (if numB (qkh x.o (zi rs x.a.toNat) (zi rs x.b.toNat) x.n)=true then goS len p (rs.set x.r.toNat (qkh x.o (zi rs x.a.toNat) (zi rs x.b.toNat) x.n)) os code else ⟨p,rs,os,2⟩)
def canB (nk np nv k p v:Int):Bool:=
 if nk=3 then (k == 3) && numB v && (if np=9 then belB p 4 else p == np) else (nk != 0) && (k == nk && (p == np && v == nv))
def doB (g:Nat->I5) (len:Nat) (p:Int) (rs os:List Int) (code k q v:Int):Bool:=canB (nxK g len p rs os code) (nxP g len p rs os code) (nxW g len p rs os code) k q v
def doS (g:Nat->I5) (len:Nat) (p:Int) (rs os:List Int) (code k q v:Int):S4:=
 if doB g len p rs os code k q v=true then qah len (g p.toNat) p rs os code v else ⟨p,rs,os,code⟩
theorem qdr {g:Nat->I5} {len:Nat} {p:Int} {rs os:List Int} {code k q v:Int} (h:doB g len p rs os code k q v=true):qch g len p rs os code=true:=by
 apply Classical.byContradiction;intro hn;have hn':qch g len p rs os code=false:=by simpa using hn
 simp [doB,canB,nxK,hn'] at h
theorem qcw {a b:Int} (ha:numB a=true) (hb:numB b=true):-1000000000000000000<=a*b/\a*b<=1000000000000000000:=by
 simp only [numB,inB,decide_eq_true_eq] at ha hb;have h1:(a.natAbs*b.natAbs:Nat)<=1000000000*1000000000:=Nat.mul_le_mul (by omega) (by omega);have h2:(a*b).natAbs=a.natAbs*b.natAbs:=Int.natAbs_mul a b;omega
theorem qbp {a:Int}:numB a=true ↔ -1000000000<=a/\a<=1000000000:=by simp [numB,inB]
theorem qpy {w w':World} {row:Option Nat} (h:w.grownBy w' row) (n:Nat):w.grownBy (w'.drewN n) row:=⟨h.os,h.tape,h.output,h.size,h.block⟩
theorem zU {w w':World} {row:Option Nat} (h:w.grownBy w' row) {p:Addr} (hp:row=some p.block\/w.heap.size<=p.block) (v:Value):w.grownBy (w'.setCell p v) row:=
 ⟨h.os, h.tape, h.output, by simpa using h.size, fun k hk hne => by
  rw [Below.heap_setCell w' p v k (fun e => by
   subst e
   rcases hp with hp | hp
   ·exact hne hp.symm
   ·omega)]
  exact h.block k hk hne⟩
theorem qbq {w w':World} (h:w.grownBy w' none) (row:Option Nat):w.grownBy w' row:=⟨h.os,h.tape,h.output,h.size,fun k hk _=>h.block k hk (by simp)⟩
theorem OwnI.drewN {w:World} {B:Nat} {v:Value} {xs:List Int} (h:OwnI w B v xs) (n:Nat):OwnI (w.drewN n) B v xs:=h
theorem OwnI.setOther {w:World} {B:Nat} {v:Value} {xs:List Int} (h:OwnI w B v xs) {p:Addr} (hne:v.ownBlock≠some p.block) (u:Value):OwnI (w.setCell p u) B v xs:=
 h.kept (row:=some p.block) (zU (World.grownBy.refl w _) (.inl rfl) u) (.inr hne)
theorem zS (w:World) (o:Obj):Below w.heap.size w (w.alloc o):=(Below.refl _ _).alloc (Nat.le_refl _) o
theorem qe0 (p code:Int) (ra oa:Option Addr) (rn rc on oc:Nat) (w:World):
  Calls Tryz.prog 160 #[stV p ra rn rc oa on oc code] w fun e w'=>e=.returned (stV p ra rn rc oa on oc 2)/\Below w.heap.size w w':=by
 go_enter Tryz.func160,Tryz.ntmps160
 go_wp2;refine bodyPost_ret (v:=stV p ra rn rc oa on oc 2) (by simp [results,Tryz.results160,go_sem]) rfl ⟨rfl,?_⟩
 go_grown
theorem qeg (la:Option Addr) (len lc:Nat) (p code:Int) (ra oa:Option Addr) (rn rc on oc:Nat) (w:World) (h0:0<=p) (h1:p<=1000000000):
  Calls Tryz.prog 159 #[.slice la len lc,stV p ra rn rc oa on oc code] w fun e w'=>e=.returned (stV (goP len p) ra rn rc oa on oc (goC len p code))/\Below w.heap.size w w':=by
 by_cases hp:(len:Int)<=p+1
 ·have e1:goP len p=p:=if_pos hp
  have e2:goC len p code=2:=if_pos hp;rw [e1,e2];clear e1 e2
  go_enter Tryz.func159,Tryz.ntmps159
  go_wp2_with fail
  refine (qe0 _ _ _ _ _ _ _ _ _).mono ?_;rintro e w1 ⟨rfl,b1⟩;have B1:Hid (Below w.heap.size w w1):=qai (by go_grown) b1 (by simp;omega);obtain ⟨hc1,hf1⟩:=qap b1;clear b1;go_wp2;refine bodyPost_ret (v:=stV p ra rn rc oa on oc 2) (by simp [results,Tryz.results159,go_sem,hc1]) rfl ⟨rfl,?_⟩;have:=B1.out
  go_grown
 ·have e1:goP len p=p+1:=if_neg hp
  have e2:goC len p code=code:=if_neg hp;rw [e1,e2];clear e1 e2
  go_enter Tryz.func159,Tryz.ntmps159
  go_wp2;refine bodyPost_ret (v:=stV (p+1) ra rn rc oa on oc code) (by simp [results,Tryz.results159,go_sem]) rfl ⟨rfl,?_⟩
  go_grown
open Go
section
variable {P:Program} {ops:Array Oper} {Q:Exit->Act->World->Prop} {md:Region.Mode} {S:World->Prop} {G:Nat->Bool}
theorem qq3 {α:Type} (lst:α->Array Bool) (rd:α->List Nat) (I:α->Act->World->Prop) (stop:α->Bool)
  (hrd:∀ s,stop s=false->Region.ready md ops (lst s)=rd s) (hne:∀ s,stop s=false->rd s≠[])
  (hstep:∀ s x w,I s x w->stop s=false->∀ i ∈ rd s,∃ s',(lst s).setIfInBounds i true=lst s'/\wpOp P ops Q i (fun x' w'=>(S w->G i=false->S w')/\I s' x' w') x w)
  (hstop:∀ s x w,I s x w->stop s=true->wpG P md ops Q S G ((lst s).toList.count false) (lst s) x w):
  ∀ (fuel:Nat) (s:α) (l:Array Bool) (x:Act) (w:World),lst s=l->I s x w->l.toList.count false=fuel->wpG P md ops Q S G fuel l x w:=by
 have key:∀ (L:Array Bool) (i:Nat),L.getD i true=false->∃ h:i<L.toList.length,L.toList[i]=false:=fun L i h=>by
  unfold Array.getD at h
  split at h
  ·rename_i hl
   exact ⟨by simpa using hl,by simpa using h⟩
  ·cases h
 intro fuel
 induction fuel with
 | zero=>
  intro s l x w hl hI hc;subst hl
  rcases zK (stop s) with hs | hs
  ·have:=hstop s x w hI hs
   rw [hc] at this;exact this
  ·have h0:=hne s hs
   rw [<- hrd s hs] at h0;obtain ⟨i,hi⟩:=List.exists_mem_of_ne_nil _ h0;obtain ⟨hl,he⟩:=key _ i (mem_ready.1 hi).1;have:false ∈ (lst s).toList:=by rw [<- he];exact List.getElem_mem hl
   have:=List.count_pos_iff.2 this;omega
 | succ fuel ih=>
  intro s l x w hl hI hc;subst hl
  rcases zK (stop s) with hs | hs
  ·have:=hstop s x w hI hs
   rw [hc] at this;exact this
  ·have h0:=hne s hs
   have h:=hstep s x w hI hs;rw [<- hrd s hs] at h0 h;refine ⟨fun e=>absurd e h0,fun i hi=>?_⟩;obtain ⟨s',e,hw⟩:=h i hi;refine wpOp_mono (fun x' w' h=>⟨h.1,?_⟩) hw;refine ih s' _ x' w' e.symm h.2 ?_;obtain ⟨hl,he⟩:=key _ i (mem_ready.1 hi).1;rw [Array.toList_setIfInBounds,List.count_set hl,he];show (lst s).toList.count false - 1+0=fuel;omega
end
