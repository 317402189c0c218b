import Derived.Test.YtkdablcbhhphoaaGreatDoorMt2
import Derived.Test.YtkdablcbhhphoaaGreatDoorMt3
import Derived.Test.YtkdablcbhhphoaaGreatDoorMt4
import Derived.Test.YtkdablcbhhphoaaGreatDoorMt5
namespace Go.Proofs.YtkdablcbhhphoaaGreatDoor
open Go.Proofs.Tryz
set_option maxRecDepth 100000
set_option maxHeartbeats 4000000
open Go.RowKit
def qbb (op r a b n places procs:Int):Bool:=
 if op=1 then inB n (-1000000000) 1000000000 && a == 0 && b == 0
 else if op=2 then n == 0
 else if op=3 then n == 0
 else if op=4 then n == 0
 else if op=5 then n == 0
 else if op=6 then inB n 0 (procs - 1) && r == 0 && b == 0
 else if op=7 then (inB n 0 (procs - 1) || n == 9) && a == 0 && b == 0
 else if op=8 then r == 0 && b == 0 && n == 0
 else if op=9 then belB n places && r == 0 && a == 0 && b == 0
 else if op=10 then belB n places && r == 0 && b == 0
 else if op=11 then r == 0 && a == 0 && b == 0 && n == 0
 else false
def qaj (op r a b n places procs:Int):Bool:=(inB r 0 3 && inB a 0 3 && inB b 0 3 && inB procs 1 4) && qbb op r a b n places procs
theorem qe8 (op:Int):(op<1\/11<op)\/op=1\/op=2\/op=3\/op=4\/op=5\/op=6\/op=7\/op=8\/op=9\/op=10\/op=11:=by omega
theorem qgo (op r a b n places procs:Int) (h:op<1\/11<op):qbb op r a b n places procs=false:=by
 unfold qbb;rw [nB (by omega),nB (by omega),nB (by omega),nB (by omega),nB (by omega),nB (by omega),nB (by omega),nB (by omega),nB (by omega),nB (by omega),nB (by omega)]
theorem qqx (op r a b n places procs:Int) (w:World) (h1:inB r 0 3=true) (h2:inB a 0 3=true) (h3:inB b 0 3=true) (h4:inB procs 1 4=true) (h5:1<=procs) (h6:procs<=4) (g:op=1\/op=2\/op=3\/op=4\/op=5\/op=6\/op=7\/op=8\/op=9\/op=10\/op=11):
  Calls prog 173 #[insV op r a b n,.int .i64 places,.int .i64 procs] w (rB w (.bool (qbb op r a b n places procs))):=by
 rcases g with rfl | rfl | rfl | rfl | rfl | rfl | rfl | rfl | rfl | rfl | rfl
 all_goals
  go_enter func173,ntmps173
  go_wp2_with (first|(go_at_call 20;refine (l1In_any _ _ _ _).mono ?_;rintro e w' ⟨rfl,rfl⟩)|(go_at_call 158;refine (l1Num_any _ _).mono ?_;rintro e w' ⟨rfl,rfl⟩))
  all_goals
   go_ret;refine ⟨qaf ?_,by go_grown⟩
   first | rfl | (simp [*,qbb,belB];done)|(simp [*,qbb,belB];omega)
theorem qf4 (op r a b n places procs:Int) (w:World):
  Calls prog 173 #[insV op r a b n,.int .i64 places,.int .i64 procs] w (rB w (.bool (qaj op r a b n places procs))):=by
 rcases zK (inB r 0 3 && inB a 0 3 && inB b 0 3 && inB procs 1 4) with h | h
 ·have hh:=h
  simp only [nH] at hh;obtain ⟨⟨⟨h1,h2⟩,h3⟩,h4⟩:=hh;have h5:1<=procs:=by simp [inB] at h4;omega
  have h6:procs<=4:=by simp [inB] at h4;omega
  have hv:qaj op r a b n places procs=qbb op r a b n places procs:=by unfold qaj;rw [h];rfl
  rw [hv]
  rcases qe8 op with g | rfl | rfl | rfl | rfl | rfl | rfl | rfl | rfl | rfl | rfl | rfl
  ·rw [qgo _ _ _ _ _ _ _ g];exact qju op r a b n places procs w h1 h2 h3 h4 h5 h6 g
  all_goals exact qqx _ r a b n places procs w h1 h2 h3 h4 h5 h6 (by decide)
 ·have hv:qaj op r a b n places procs=false:=by unfold qaj;rw [h];rfl
  rw [hv];exact qlz op r a b n places procs w h
theorem qk5 (op r a b n places procs:Int) (w:World) (h:procs<1\/4<procs):
  Calls prog 225 #[insV op r a b n,.int .i64 places,.int .i64 procs] w (rB w (.bool false)):=by
 rcases h with h | h
 ·go_enter func225,ntmps225
  go_wp2;go_ret;exact ⟨rfl,by go_grown⟩
 ·have h':¬ procs<1:=by omega
  go_enter func225,ntmps225
  go_wp2;go_ret;exact ⟨rfl,by go_grown⟩
theorem qjh (op r a b n places procs:Int) (w:World) (h5:1<=procs) (h6:procs<=4) (h:op<1\/11<op):
  Calls prog 225 #[insV op r a b n,.int .i64 places,.int .i64 procs] w (rB w (.bool false)):=by
 go_enter func225,ntmps225
 go_wp2_with (go_at_call 165;refine (qob _ _ _ _ _ _ h).mono ?_;rintro e w1 ⟨rfl,hb1⟩)
 first|(go_region_with (fail)) | fail
 all_goals
  go_wp2;go_ret;exact ⟨rfl,qji hb1⟩
theorem qfp (op r a b n places procs:Int) (w:World):
  Calls prog 225 #[insV op r a b n,.int .i64 places,.int .i64 procs] w (rB w (.bool (qaj op r a b n places procs))):=by
 by_cases hp:procs<1\/4<procs
 ·have hv:qaj op r a b n places procs=false:=by simp [qaj,inB];omega
  rw [hv];exact qk5 op r a b n places procs w hp
 ·have h5:1<=procs:=by omega
  have h6:procs<=4:=by omega
  rcases qe8 op with g | rfl | rfl | rfl | rfl | rfl | rfl | rfl | rfl | rfl | rfl | rfl
  ·have hv:qaj op r a b n places procs=false:=by unfold qaj;rw [qgo _ _ _ _ _ _ _ g];simp
   rw [hv];exact qjh op r a b n places procs w h5 h6 g
  ·by_cases g0:a=0
   case neg=>
    have hv:qaj 1 r a b n places procs=false:=by simp [qaj,qbb,g0]
    rw [hv];exact qdt r a b n places procs w h5 h6 (by simp [qaz];omega)
   subst g0;by_cases g1:b=0
   case neg=>
    have hv:qaj 1 r 0 b n places procs=false:=by simp [qaj,qbb,g1]
    rw [hv];exact qdt r 0 b n places procs w h5 h6 (by simp [qaz];omega)
   subst g1;refine (qhp r n places procs w h5 h6).mono ?_;rintro e w1 ⟨rfl,hb⟩;refine ⟨qaf ?_,hb⟩;rw [Bool.eq_iff_iff];simp [qaj,qbb,inB,belB] <;> omega
  ·by_cases g0:n=0
   case neg=>
    have hv:qaj 2 r a b n places procs=false:=by simp [qaj,qbb,g0]
    rw [hv];exact qby 2 r a b n places procs w h5 h6 (by omega) (by omega) (by simp [qaz];omega)
   subst g0;refine (qbx 2 r a b places procs w h5 h6 (by omega) (by omega)).mono ?_;rintro e w1 ⟨rfl,hb⟩;refine ⟨qaf ?_,hb⟩;rw [Bool.eq_iff_iff];simp [qaj,qbb,inB,belB] <;> omega
  ·by_cases g0:n=0
   case neg=>
    have hv:qaj 3 r a b n places procs=false:=by simp [qaj,qbb,g0]
    rw [hv];exact qby 3 r a b n places procs w h5 h6 (by omega) (by omega) (by simp [qaz];omega)
   subst g0;refine (qbx 3 r a b places procs w h5 h6 (by omega) (by omega)).mono ?_;rintro e w1 ⟨rfl,hb⟩;refine ⟨qaf ?_,hb⟩;rw [Bool.eq_iff_iff];simp [qaj,qbb,inB,belB] <;> omega
  ·by_cases g0:n=0
   case neg=>
    have hv:qaj 4 r a b n places procs=false:=by simp [qaj,qbb,g0]
    rw [hv];exact qby 4 r a b n places procs w h5 h6 (by omega) (by omega) (by simp [qaz];omega)
   subst g0;refine (qbx 4 r a b places procs w h5 h6 (by omega) (by omega)).mono ?_;rintro e w1 ⟨rfl,hb⟩;refine ⟨qaf ?_,hb⟩;rw [Bool.eq_iff_iff];simp [qaj,qbb,inB,belB] <;> omega
  ·by_cases g0:n=0
   case neg=>
    have hv:qaj 5 r a b n places procs=false:=by simp [qaj,qbb,g0]
    rw [hv];exact qby 5 r a b n places procs w h5 h6 (by omega) (by omega) (by simp [qaz];omega)
   subst g0;refine (qbx 5 r a b places procs w h5 h6 (by omega) (by omega)).mono ?_;rintro e w1 ⟨rfl,hb⟩;refine ⟨qaf ?_,hb⟩;rw [Bool.eq_iff_iff];simp [qaj,qbb,inB,belB] <;> omega
  ·by_cases g0:r=0
   case neg=>
    have hv:qaj 6 r a b n places procs=false:=by simp [qaj,qbb,g0]
    rw [hv];exact qdg r a b n places procs w h5 h6 (by simp [qaz];omega)
   subst g0;by_cases g1:b=0
   case neg=>
    have hv:qaj 6 0 a b n places procs=false:=by simp [qaj,qbb,g1]
    rw [hv];exact qdg 0 a b n places procs w h5 h6 (by simp [qaz];omega)
   subst g1;refine (qgi a n places procs w h5 h6).mono ?_;rintro e w1 ⟨rfl,hb⟩;refine ⟨qaf ?_,hb⟩;rw [Bool.eq_iff_iff];simp [qaj,qbb,inB,belB] <;> omega
  ·by_cases g0:a=0
   case neg=>
    have hv:qaj 7 r a b n places procs=false:=by simp [qaj,qbb,g0]
    rw [hv];exact qdh r a b n places procs w h5 h6 (by simp [qaz];omega)
   subst g0;by_cases g1:b=0
   case neg=>
    have hv:qaj 7 r 0 b n places procs=false:=by simp [qaj,qbb,g1]
    rw [hv];exact qdh r 0 b n places procs w h5 h6 (by simp [qaz];omega)
   subst g1;refine (qgj r n places procs w h5 h6).mono ?_;rintro e w1 ⟨rfl,hb⟩;refine ⟨qaf ?_,hb⟩;rw [Bool.eq_iff_iff];simp [qaj,qbb,inB,belB] <;> omega
  ·by_cases g0:r=0
   case neg=>
    have hv:qaj 8 r a b n places procs=false:=by simp [qaj,qbb,g0]
    rw [hv];exact qcd r a b n places procs w h5 h6 (by simp [qaz];omega)
   subst g0;by_cases g1:b=0
   case neg=>
    have hv:qaj 8 0 a b n places procs=false:=by simp [qaj,qbb,g1]
    rw [hv];exact qcd 0 a b n places procs w h5 h6 (by simp [qaz];omega)
   subst g1;by_cases g2:n=0
   case neg=>
    have hv:qaj 8 0 a 0 n places procs=false:=by simp [qaj,qbb,g2]
    rw [hv];exact qcd 0 a 0 n places procs w h5 h6 (by simp [qaz];omega)
   subst g2;refine (qfq a places procs w h5 h6).mono ?_;rintro e w1 ⟨rfl,hb⟩;refine ⟨qaf ?_,hb⟩;rw [Bool.eq_iff_iff];simp [qaj,qbb,inB,belB] <;> omega
  ·by_cases g0:r=0
   case neg=>
    have hv:qaj 9 r a b n places procs=false:=by simp [qaj,qbb,g0]
    rw [hv];exact qck r a b n places procs w h5 h6 (by simp [qaz];omega)
   subst g0;by_cases g1:a=0
   case neg=>
    have hv:qaj 9 0 a b n places procs=false:=by simp [qaj,qbb,g1]
    rw [hv];exact qck 0 a b n places procs w h5 h6 (by simp [qaz];omega)
   subst g1;by_cases g2:b=0
   case neg=>
    have hv:qaj 9 0 0 b n places procs=false:=by simp [qaj,qbb,g2]
    rw [hv];exact qck 0 0 b n places procs w h5 h6 (by simp [qaz];omega)
   subst g2;refine (qgh n places procs w h5 h6).mono ?_;rintro e w1 ⟨rfl,hb⟩;refine ⟨qaf ?_,hb⟩;rw [Bool.eq_iff_iff];simp [qaj,qbb,inB,belB] <;> omega
  ·by_cases g0:r=0
   case neg=>
    have hv:qaj 10 r a b n places procs=false:=by simp [qaj,qbb,g0]
    rw [hv];exact qdi r a b n places procs w h5 h6 (by simp [qaz];omega)
   subst g0;by_cases g1:b=0
   case neg=>
    have hv:qaj 10 0 a b n places procs=false:=by simp [qaj,qbb,g1]
    rw [hv];exact qdi 0 a b n places procs w h5 h6 (by simp [qaz];omega)
   subst g1;refine (qgk a n places procs w h5 h6).mono ?_;rintro e w1 ⟨rfl,hb⟩;refine ⟨qaf ?_,hb⟩;rw [Bool.eq_iff_iff];simp [qaj,qbb,inB,belB] <;> omega
  ·by_cases g0:r=0
   case neg=>
    have hv:qaj 11 r a b n places procs=false:=by simp [qaj,qbb,g0]
    rw [hv];exact qb5 r a b n places procs w h5 h6 (by simp [qaz];omega)
   subst g0;by_cases g1:a=0
   case neg=>
    have hv:qaj 11 0 a b n places procs=false:=by simp [qaj,qbb,g1]
    rw [hv];exact qb5 0 a b n places procs w h5 h6 (by simp [qaz];omega)
   subst g1;by_cases g2:b=0
   case neg=>
    have hv:qaj 11 0 0 b n places procs=false:=by simp [qaj,qbb,g2]
    rw [hv];exact qb5 0 0 b n places procs w h5 h6 (by simp [qaz];omega)
   subst g2;by_cases g3:n=0
   case neg=>
    have hv:qaj 11 0 0 0 n places procs=false:=by simp [qaj,qbb,g3]
    rw [hv];exact qb5 0 0 0 n places procs w h5 h6 (by simp [qaz];omega)
   subst g3;refine (qho places procs w h5 h6).mono ?_;rintro e w1 ⟨rfl,hb⟩;refine ⟨qaf ?_,hb⟩;rw [Bool.eq_iff_iff];simp [qaj,qbb,inB] <;> omega
structure I5 where
 o:Int
 r:Int
 a:Int
 b:Int
 n:Int
def qao (w:World) (b off len:Nat) (g:Nat->I5):Prop:=∀ i,i<len->
 w.cell? ⟨b,off+i*5,none⟩=some (.int .i64 (g i).o)/\w.cell? ⟨b,off+i*5+1,none⟩=some (.int .i64 (g i).r)/\w.cell? ⟨b,off+i*5+2,none⟩=some (.int .i64 (g i).a)/\w.cell? ⟨b,off+i*5+3,none⟩=some (.int .i64 (g i).b)/\w.cell? ⟨b,off+i*5+4,none⟩=some (.int .i64 (g i).n)
theorem qao.bw {w w':World} {B b off len:Nat} {g:Nat->I5} (h:qao w b off len g) (hb:Below B w w') (hB:b<B):qao w' b off len g:=by
 intro i hi;obtain ⟨h0,h1,h2,h3,h4⟩:=h i hi;exact ⟨(hb.cell hB).trans h0,(hb.cell hB).trans h1,(hb.cell hB).trans h2,(hb.cell hB).trans h3,(hb.cell hB).trans h4⟩
def okAt (g:Nat->I5) (len procs:Int) (i:Nat):Bool:=qaj (g i).o (g i).r (g i).a (g i).b (g i).n len procs
def qke (g:Nat->I5) (len procs:Int) (k:Nat):Bool:=(List.range k).all (okAt g len procs)
def qac (g:Nat->I5) (len:Nat) (procs:Int):Bool:=qke g len procs len && (inB len 1 30 && inB procs 1 4)
theorem qj0 (g:Nat->I5) (len procs:Int) (k:Nat):qke g len procs (k+1)=(qke g len procs k && okAt g len procs k):=by
 simp [qke,List.range_succ]
theorem qh8 (g:Nat->I5) (len procs:Int) {k m:Nat} (hk:k<m) (h:okAt g len procs k=false):qke g len procs m=false:=by
 rw [qke,List.all_eq_false];exact ⟨k,List.mem_range.2 hk,by simp [h]⟩
theorem qew (b off len cap:Nat) (g:Nat->I5) (procs:Int) (w:World) (hlen:len<=maxLen) (hb:b<w.heap.size) (hc:qao w b off len g):
  Calls prog 120 #[.slice (some ⟨b,off,none⟩) len cap,.int .i64 procs] w (rB w (.bool (qac g len procs))):=by
 unfold maxLen at hlen;have HC:Hid (qao w b off len g):=hc;clear hc
 go_enter func120,ntmps120
 go_wp2_with fail
 go_loopw [5] (fun i wr=>∃ k:Nat,k<=len/\i=.int .i64 k/\Hid (qke g len procs k=true)/\Below w.heap.size w wr) (fun i _=>len - (intOf i).toNat)
 case atStart=>exact ⟨0,nD _,rfl,rfl,nE _ _⟩
 case round=>
  obtain ⟨k,hk,rfl,HA,hbw⟩:=hrel;by_cases hlt:k<len
  ·obtain ⟨c0,c1,c2,c3,c4⟩:=HC.bw hbw hb k hlt
   rcases zK (okAt g len procs k) with ho | ho
   ·have HO:Hid (okAt g len procs k=true):=ho
    have ho':qaj (g k).o (g k).r (g k).a (g k).b (g k).n len procs=true:=ho;clear ho;go_wp2_with (go_at_call 173;refine (qf4 _ _ _ _ _ _ _ _).mono ?_;rintro e w1 ⟨rfl,hb1⟩)
    go_roundw
    case rel=>exact ⟨k+1,by omega,by go_num,by rw [Hid,qj0,HA.out,HO.out];rfl,hbw.trans (hb1.mono hbw.size)⟩
    case measure=>simp [intOf];omega
   ·have HO:Hid (okAt g len procs k=false):=ho
    have ho':qaj (g k).o (g k).r (g k).a (g k).b (g k).n len procs=false:=ho;clear ho;go_wp2_with (go_at_call 173;refine (qf4 _ _ _ _ _ _ _ _).mono ?_;rintro e w1 ⟨rfl,hb1⟩)
    go_ret;exact ⟨qaf (by rw [qac,qh8 g len procs hlt HO.out];rfl),hbw.trans (hb1.mono hbw.size)⟩
  ·have hkl:k=len:=by omega
   have HP:Hid (qac g len procs=(inB len 1 30 && inB procs 1 4)):=by
    have hA:=HA.out;rw [hkl] at hA;rw [Hid,qac,hA];rfl
   clear HA hkl
   rcases zK (inB len 1 30) with t0 | t0
   all_goals
    go_wp2_with (go_at_call 20;refine (l1In_any _ _ _ _).mono ?_;rintro e w' ⟨rfl,rfl⟩)
    go_ret;exact ⟨qaf (by rw [HP.out,t0] <;> rfl),hbw⟩
theorem qda (b off len cap:Nat) (g:Nat->I5) (procs:Int) (w:World) (hlen:len<=maxLen) (hb:b<w.heap.size) (hc:qao w b off len g):
  Calls prog 180 #[.slice (some ⟨b,off,none⟩) len cap,.int .i64 procs] w (rB w (.bool (qac g len procs))):=by
 unfold maxLen at hlen;have HC:Hid (qao w b off len g):=hc;clear hc;by_cases hr:1<=len/\len<=30
 case neg=>
  have hv:qac g len procs=false:=by
   rw [qac,show inB len 1 30=false from by simp [inB];omega];simp
  rw [hv];clear hv;by_cases h1:len<1
  ·have h1':(len:Int)<1:=by omega
   go_enter func180,ntmps180
   go_wp2;go_ret;exact ⟨rfl,nE _ _⟩
  ·have h1':¬ (len:Int)<1:=by omega
   have h2':(30:Int)<len:=by omega
   go_enter func180,ntmps180
   go_wp2;go_ret;exact ⟨rfl,nE _ _⟩
 case pos=>
 obtain ⟨r1,r2⟩:=hr;have h1':¬ (len:Int)<1:=by omega
 have h2':¬ (30:Int)<len:=by omega
 go_enter func180,ntmps180
 go_wp2_with fail
 go_loopw [17] (fun i wr=>∃ k:Nat,k<=len/\i=.int .i64 k/\Hid (qke g len procs k=true)/\Below w.heap.size w wr) (fun i _=>len - (intOf i).toNat)
 case atStart=>exact ⟨0,nD _,rfl,rfl,nE _ _⟩
 case round=>
  obtain ⟨k,hk,rfl,HA,hbw⟩:=hrel;have hs:=hbw.size;by_cases hlt:k<len
  ·obtain ⟨c0,c1,c2,c3,c4⟩:=HC.bw hbw hb k hlt
   rcases zK (okAt g len procs k) with ho | ho
   ·have HO:Hid (okAt g len procs k=true):=ho
    have ho':qaj (g k).o (g k).r (g k).a (g k).b (g k).n len procs=true:=ho;clear ho;go_wp2_with (go_at_call 225;refine (qfp _ _ _ _ _ _ _ _).mono ?_;rintro e w1 ⟨rfl,hb1⟩)
    go_roundw
    case rel=>exact ⟨k+1,by omega,by go_num,by rw [Hid,qj0,HA.out,HO.out];rfl,(hbw.alloc hs _).trans (hb1.mono (by simp;omega))⟩
    case measure=>simp [intOf];omega
   ·have HO:Hid (okAt g len procs k=false):=ho
    have ho':qaj (g k).o (g k).r (g k).a (g k).b (g k).n len procs=false:=ho;clear ho;go_wp2_with (go_at_call 225;refine (qfp _ _ _ _ _ _ _ _).mono ?_;rintro e w1 ⟨rfl,hb1⟩)
    go_ret;exact ⟨qaf (by rw [qac,qh8 g len procs hlt HO.out];rfl),(hbw.alloc hs _).trans (hb1.mono (by simp;omega))⟩
  ·have hkl:k=len:=by omega
   have h30:inB len 1 30=true:=by simp [inB];omega
   have HP:Hid (qac g len procs=true):=by
    have hA:=HA.out;rw [hkl] at hA
    have hp:inB procs 1 4=true:=by
     have h0:okAt g len procs 0=true:=by
      have:=(List.all_eq_true.1 (show (List.range len).all (okAt g len procs)=true from hA)) 0 (List.mem_range.2 (by omega));exact this
     simp only [okAt,qaj,nH] at h0;exact h0.1.2
    rw [Hid,qac,hA,h30,hp];rfl
   clear HA hkl h30;go_wp2;go_ret;exact ⟨qaf HP.symm,hbw⟩
attribute [local go_sem] qic qid qg2 qgw qgx qfe qg1 qg3 qg4 qfg qfh qer qgz qg0 qff qg5 qg6 qfi qia qib qgy
theorem qne (n a r0 r1 r2 r3:Int) (w:World) (h0:0<=a) (h3:a<=3):
  Calls prog 164 #[.iface 251 (qvr n a),regV r0 r1 r2 r3] w (rB w (evV 2 n (zi [r0,r1,r2,r3] a.toNat))):=by
 have ha:a=0\/a=1\/a=2\/a=3:=by omega
 clear h0 h3
 rcases ha with rfl | rfl | rfl | rfl
 ·go_enter func164,ntmps164
  go_wp2_with fail
  go_region
  all_goals
   go_wp2;refine bodyPost_ret (v:=evV 2 n r0) (by simp [results,results164,go_sem]) rfl ⟨rfl,?_⟩
   go_grown
 ·go_enter func164,ntmps164
  go_wp2_with fail
  go_region
  all_goals
   go_wp2;refine bodyPost_ret (v:=evV 2 n r1) (by simp [results,results164,go_sem]) rfl ⟨rfl,?_⟩
   go_grown
 ·go_enter func164,ntmps164
  go_wp2_with fail
  go_region
  all_goals
   go_wp2;refine bodyPost_ret (v:=evV 2 n r2) (by simp [results,results164,go_sem]) rfl ⟨rfl,?_⟩
   go_grown
 ·go_enter func164,ntmps164
  go_wp2_with fail
  go_region
  all_goals
   go_wp2;refine bodyPost_ret (v:=evV 2 n r3) (by simp [results,results164,go_sem]) rfl ⟨rfl,?_⟩
   go_grown
theorem qnf (r n r0 r1 r2 r3:Int) (w:World):
  Calls prog 164 #[.iface 253 (qv0 r n),regV r0 r1 r2 r3] w (rB w (evV 3 n 0)):=by
 go_enter func164,ntmps164
 go_wp2;refine bodyPost_ret (v:=evV 3 n 0) (by simp [results,results164,go_sem]) rfl ⟨rfl,?_⟩
 go_grown
theorem qky (a r0 r1 r2 r3:Int) (w:World) (h0:0<=a) (h3:a<=3):
  Calls prog 164 #[.iface 255 (qod a),regV r0 r1 r2 r3] w (rB w (evV 4 0 (zi [r0,r1,r2,r3] a.toNat))):=by
 have ha:a=0\/a=1\/a=2\/a=3:=by omega
 clear h0 h3
 rcases ha with rfl | rfl | rfl | rfl
 ·go_enter func164,ntmps164
  go_wp2;refine bodyPost_ret (v:=evV 4 0 r0) (by simp [results,results164,go_sem]) rfl ⟨rfl,?_⟩
  go_grown
 ·go_enter func164,ntmps164
  go_wp2;refine bodyPost_ret (v:=evV 4 0 r1) (by simp [results,results164,go_sem]) rfl ⟨rfl,?_⟩
  go_grown
 ·go_enter func164,ntmps164
  go_wp2;refine bodyPost_ret (v:=evV 4 0 r2) (by simp [results,results164,go_sem]) rfl ⟨rfl,?_⟩
  go_grown
 ·go_enter func164,ntmps164
  go_wp2;refine bodyPost_ret (v:=evV 4 0 r3) (by simp [results,results164,go_sem]) rfl ⟨rfl,?_⟩
  go_grown
theorem qp2 (r n r0 r1 r2 r3:Int) (w:World):
  Calls prog 164 #[.iface 257 (setV r n),regV r0 r1 r2 r3] w (rB w (evV 1 0 0)):=by
 go_enter func164,ntmps164
 go_wp2;refine bodyPost_ret (v:=evV 1 0 0) (by simp [results,results164,go_sem]) rfl ⟨rfl,?_⟩
 go_grown
theorem qc3 (op r a b r0 r1 r2 r3:Int) (w:World):
  Calls prog 164 #[.iface 259 (qkl op r a b),regV r0 r1 r2 r3] w (rB w (evV 1 0 0)):=by
 go_enter func164,ntmps164
 go_wp2;refine bodyPost_ret (v:=evV 1 0 0) (by simp [results,results164,go_sem]) rfl ⟨rfl,?_⟩
 go_grown
theorem qnd (n r0 r1 r2 r3:Int) (w:World):
  Calls prog 164 #[.iface 261 (qu5 n),regV r0 r1 r2 r3] w (rB w (evV 1 0 0)):=by
 go_enter func164,ntmps164
 go_wp2;refine bodyPost_ret (v:=evV 1 0 0) (by simp [results,results164,go_sem]) rfl ⟨rfl,?_⟩
 go_grown
theorem qng (a n r0 r1 r2 r3:Int) (w:World):
  Calls prog 164 #[.iface 263 (qwa a n),regV r0 r1 r2 r3] w (rB w (evV 1 0 0)):=by
 go_enter func164,ntmps164
 go_wp2;refine bodyPost_ret (v:=evV 1 0 0) (by simp [results,results164,go_sem]) rfl ⟨rfl,?_⟩
 go_grown
theorem qp1 (r0 r1 r2 r3:Int) (w:World):
  Calls prog 164 #[.iface 264 endV,regV r0 r1 r2 r3] w (rB w (evV 1 0 0)):=by
 go_enter func164,ntmps164
 go_wp2;refine bodyPost_ret (v:=evV 1 0 0) (by simp [results,results164,go_sem]) rfl ⟨rfl,?_⟩
 go_grown
def evK (o:Int):Int:=if o=6 then 2 else if o=7 then 3 else if o=8 then 4 else 1
def evP (o n:Int):Int:=if o=6 then n else if o=7 then n else 0
def evW (o a:Int) (rs:List Int):Int:=if o=6 then zi rs a.toNat else if o=8 then zi rs a.toNat else 0
def qx0 (o r a b n:Int):Value:=
 if o=1 then .iface 257 (setV r n) else if o=6 then .iface 251 (qvr n a) else if o=7 then .iface 253 (qv0 r n)
 else if o=8 then .iface 255 (qod a) else if o=9 then .iface 261 (qu5 n) else if o=10 then .iface 263 (qwa a n)
 else if o=11 then .iface 264 endV else .iface 259 (qkl o r a b)
theorem qlw (o r a b n:Int) (w:World) (h1:1<=o) (h2:o<=11):
  Calls prog 165 #[insV o r a b n] w (rB w (qx0 o r a b n)):=by
 rcases qe8 o with g | rfl | rfl | rfl | rfl | rfl | rfl | rfl | rfl | rfl | rfl | rfl
 ·omega
 ·exact qfa r a b n w
 ·exact qfv r a b n w
 ·exact qfw r a b n w
 ·exact qfx r a b n w
 ·exact qfy r a b n w
 ·exact qd4 r a b n w
 ·exact qd5 r a b n w
 ·exact qdr r a b n w
 ·exact qd3 r a b n w
 ·exact qd6 r a b n w
 ·exact qe9 r a b n w
theorem qkz (o r a b n r0 r1 r2 r3:Int) (w:World) (h1:1<=o) (h2:o<=11) (h3:0<=a) (h4:a<=3):
  Calls prog 164 #[qx0 o r a b n,regV r0 r1 r2 r3] w (rB w (evV (evK o) (evP o n) (evW o a [r0,r1,r2,r3]))):=by
 rcases qe8 o with g | rfl | rfl | rfl | rfl | rfl | rfl | rfl | rfl | rfl | rfl | rfl
 ·omega
 ·exact qp2 r n r0 r1 r2 r3 w
 ·exact qc3 2 r a b r0 r1 r2 r3 w
 ·exact qc3 3 r a b r0 r1 r2 r3 w
 ·exact qc3 4 r a b r0 r1 r2 r3 w
 ·exact qc3 5 r a b r0 r1 r2 r3 w
 ·exact qne n a r0 r1 r2 r3 w h3 h4
 ·exact qnf r n r0 r1 r2 r3 w
 ·exact qky a r0 r1 r2 r3 w h3 h4
 ·exact qnd n r0 r1 r2 r3 w
 ·exact qng a n r0 r1 r2 r3 w
 ·exact qp1 r0 r1 r2 r3 w
def qcj (g:Nat->I5) (len:Nat) (p:Int) (rs os:List Int) (code:Int):Bool:=qac g len 4 && qdb len p rs os code && (code == 0)
def nxK (g:Nat->I5) (len:Nat) (p:Int) (rs os:List Int) (code:Int):Int:=if qcj g len p rs os code=true then evK (g p.toNat).o else 0
def nxP (g:Nat->I5) (len:Nat) (p:Int) (rs os:List Int) (code:Int):Int:=if qcj g len p rs os code=true then evP (g p.toNat).o (g p.toNat).n else 0
def nxW (g:Nat->I5) (len:Nat) (p:Int) (rs os:List Int) (code:Int):Int:=if qcj g len p rs os code=true then evW (g p.toNat).o (g p.toNat).a rs else 0
theorem qtp {g:Nat->I5} {len:Nat} {p:Int} {rs os:List Int} {code:Int} (h:qcj g len p rs os code=false):evV (nxK g len p rs os code) (nxP g len p rs os code) (nxW g len p rs os code)=evV 0 0 0:=by
 simp [nxK,nxP,nxW,h]
theorem qto {g:Nat->I5} {len k:Nat} {rs os:List Int} {code:Int} (h:qcj g len (k:Int) rs os code=true):evV (nxK g len k rs os code) (nxP g len k rs os code) (nxW g len k rs os code)=evV (evK (g k).o) (evP (g k).o (g k).n) (evW (g k).o (g k).a rs):=by
 simp [nxK,nxP,nxW,h]
theorem qx1 {a b:Value} (h:a=b):Ending.returned a=.returned b:=by rw [h]
theorem qbw {g:Nat->I5} {len:Nat} {procs:Int} (h:qac g len procs=true) {k:Nat} (hk:k<len):qaj (g k).o (g k).r (g k).a (g k).b (g k).n len procs=true:=by
 simp only [qac,nH] at h;have h1:=h.1;rw [qke,List.all_eq_true] at h1;exact h1 k (List.mem_range.2 hk)
theorem qce {o r a b n places procs:Int} (h:qaj o r a b n places procs=true):(1<=o/\o<=11)/\(0<=r/\r<=3)/\(0<=a/\a<=3)/\(0<=b/\b<=3):=by
 simp only [qaj,nH] at h;obtain ⟨⟨⟨⟨h1,h2⟩,h3⟩,_⟩,h5⟩:=h;simp only [inB,nI] at h1 h2 h3;refine ⟨?_,h1,h2,h3⟩;apply Classical.byContradiction;intro hn;rw [qgo _ _ _ _ _ _ _ (by omega)] at h5;cases h5
theorem qbe {g:Nat->I5} {len:Nat} {p:Int} {rs os:List Int} {code:Int} (h:qcj g len p rs os code=true):qac g len 4=true/\qdb len p rs os code=true/\code=0:=by
 simp only [qcj,nH,beq_iff_eq] at h;exact ⟨h.1.1,h.1.2,h.2⟩
theorem qco {n:Nat} {p:Int} {rs os:List Int} {code:Int} (h:qdb n p rs os code=true):(∃ r0 r1 r2 r3,rs=[r0,r1,r2,r3]/\numB r0=true/\numB r1=true/\numB r2=true/\numB r3=true)/\(∃ k:Nat,p=k/\k<n)/\os.length<=60/\allN os=true:=by
 simp only [qdb,qc2,outB,nH,beq_iff_eq,nI] at h;obtain ⟨⟨⟨⟨h4,hr⟩,_⟩,hp⟩,h60,ho⟩:=h;have h4':rs.length=4:=by omega
 refine ⟨?_,?_,by omega,ho⟩
 ·match rs,h4' with
  | [r0,r1,r2,r3],_=>
   simp only [allN,List.all_cons,List.all_nil,nH,and_true] at hr;exact ⟨r0,r1,r2,r3,rfl,hr⟩
 ·simp only [belB,nI] at hp
  obtain ⟨k,rfl⟩:=Int.eq_ofNat_of_zero_le hp.1;exact ⟨k,rfl,by omega⟩
theorem qn4 (b off len cap:Nat) (g:Nat->I5) (p code:Int) (ra oa:Option Addr) (rc oc:Nat) (rs os:List Int) (w:World) (ho:os.length<=1048576) (h1:Sl w ra rs) (h2:Sl w oa os) (t2:qac g len 4=true) (hw:qcj g len p rs os code=false):
  Calls prog 109 #[.slice (some ⟨b,off,none⟩) len cap,stV p ra rs.length rc oa os.length oc code] w (rB w (evV 0 0 0)):=by
 have H1:Hid (Sl w ra rs):=h1;have H2:Hid (Sl w oa os):=h2;clear h1 h2
 rcases zK (code != 0) with t0 | t0
 ·clear hw t2
  go_enter func109,ntmps109
  go_wp2;refine bodyPost_ret (v:=evV 0 0 0) (by simp [results,results109,go_sem]) rfl ⟨rfl,?_⟩
  go_grown
 have hc:(code == 0)=true:=by simpa using t0
 have t1:qdb len p rs os code=false:=by
  simp only [qcj,t2,hc,Bool.and_true,Bool.true_and] at hw;exact hw
 clear hw hc t2
 go_enter func109,ntmps109
 go_wp2_with fail
 refine (qd1 _ _ _ _ _ _ _ _ _ rs os _ ho (H1.bw (by go_grown)) (H2.bw (by go_grown))).mono ?_;rintro e w1 ⟨rfl,b1⟩;have B1:Hid (Below w.heap.size w w1):=qai (by go_grown) b1 (by simp;omega);obtain ⟨hc1,hf1⟩:=qap b1;clear b1;go_wp2;refine bodyPost_ret (v:=evV 0 0 0) (by simp [results,results109,go_sem,hc1]) rfl ⟨rfl,?_⟩;have:=B1.out
 go_grown
def qkk (o a b n:Int):Int:=if o=1 then n else if o=2 then a+b else if o=3 then a - b else if o=4 then a*b else if a<b then 1 else 0
def goP (len:Nat) (p:Int):Int:=if (len:Int)<=p+1 then p else p+1
def goC (len:Nat) (p code:Int):Int:=if (len:Int)<=p+1 then 2 else code
structure S4 where
 p:Int
 rs:List Int
 os:List Int
 c:Int
def goS (len:Nat) (p:Int) (rs os:List Int) (code:Int):S4:=⟨goP len p,rs,os,goC len p code⟩
def qah (len:Nat) (x:I5) (p:Int) (rs os:List Int) (code v:Int):S4:=
 if x.o=6 then goS len p rs os code
 else if x.o=7 then goS len p (rs.set x.r.toNat v) os code
 else if x.o=8 then (if os.length=60 then ⟨p,rs,os,2⟩ else goS len p rs (os ++ [v]) code)
 else if x.o=9 then ⟨x.n,rs,os,code⟩
 else if x.o=10 then (if zi rs x.a.toNat=0 then ⟨x.n,rs,os,code⟩ else goS len p rs os code)
 else if x.o=11 then ⟨p,rs,os,1⟩
 else (if numB (qkk x.o (zi rs x.a.toNat) (zi rs x.b.toNat) x.n)=true then goS len p (rs.set x.r.toNat (qkk x.o (zi rs x.a.toNat) (zi rs x.b.toNat) x.n)) os code else ⟨p,rs,os,2⟩)
def canB (nk np nv k p v:Int):Bool:=
 if nk=3 then (k == 3) && numB v && (if np=9 then belB p 4 else p == np) else (nk != 0) && (k == nk && (p == np && v == nv))
def doB (g:Nat->I5) (len:Nat) (p:Int) (rs os:List Int) (code k q v:Int):Bool:=canB (nxK g len p rs os code) (nxP g len p rs os code) (nxW g len p rs os code) k q v
def doS (g:Nat->I5) (len:Nat) (p:Int) (rs os:List Int) (code k q v:Int):S4:=
 if doB g len p rs os code k q v=true then qah len (g p.toNat) p rs os code v else ⟨p,rs,os,code⟩
theorem qdx {g:Nat->I5} {len:Nat} {p:Int} {rs os:List Int} {code k q v:Int} (h:doB g len p rs os code k q v=true):qcj g len p rs os code=true:=by
 apply Classical.byContradiction;intro hn;have hn':qcj g len p rs os code=false:=by simpa using hn
 simp [doB,canB,nxK,hn'] at h
theorem qcz {a b:Int} (ha:numB a=true) (hb:numB b=true):-1000000000000000000<=a*b/\a*b<=1000000000000000000:=by
 simp only [numB,inB,nI] at ha hb;have h1:(a.natAbs*b.natAbs:Nat)<=1000000000*1000000000:=Nat.mul_le_mul (by omega) (by omega);have h2:(a*b).natAbs=a.natAbs*b.natAbs:=Int.natAbs_mul a b;omega
theorem qbs {a:Int}:numB a=true ↔ -1000000000<=a/\a<=1000000000:=by simp [numB,inB]
theorem qp3 {w w':World} {row:Option Nat} (h:w.grownBy w' row) (n:Nat):w.grownBy (w'.drewN n) row:=⟨h.os,h.tape,h.output,h.size,h.block⟩
theorem zU {w w':World} {row:Option Nat} (h:w.grownBy w' row) {p:Addr} (hp:row=some p.block\/w.heap.size<=p.block) (v:Value):w.grownBy (w'.setCell p v) row:=
 ⟨h.os, h.tape, h.output, by simpa using h.size, fun k hk hne => by
  rw [Below.heap_setCell w' p v k (fun e => by
   subst e
   rcases hp with hp | hp
   ·exact hne hp.symm
   ·omega)]
  exact h.block k hk hne⟩
theorem qbt {w w':World} (h:w.grownBy w' none) (row:Option Nat):w.grownBy w' row:=⟨h.os,h.tape,h.output,h.size,fun k hk _=>h.block k hk (by simp)⟩
theorem OwnI.drewN {w:World} {B:Nat} {v:Value} {xs:List Int} (h:OwnI w B v xs) (n:Nat):OwnI (w.drewN n) B v xs:=h
theorem OwnI.setOther {w:World} {B:Nat} {v:Value} {xs:List Int} (h:OwnI w B v xs) {p:Addr} (hne:v.ownBlock≠some p.block) (u:Value):OwnI (w.setCell p u) B v xs:=
 h.kept (row:=some p.block) (zU (World.grownBy.refl w _) (.inl rfl) u) (.inr hne)
theorem zS (w:World) (o:Obj):Below w.heap.size w (w.alloc o):=(nE _ _).alloc (nA _) o
theorem qe5 (p code:Int) (ra oa:Option Addr) (rn rc on oc:Nat) (w:World):
  Calls prog 160 #[stV p ra rn rc oa on oc code] w (rB w (stV p ra rn rc oa on oc 2)):=by
 go_enter func160,ntmps160
 go_wp2;refine bodyPost_ret (v:=stV p ra rn rc oa on oc 2) (by simp [results,results160,go_sem]) rfl ⟨rfl,?_⟩
 go_grown
theorem qel (la:Option Addr) (len lc:Nat) (p code:Int) (ra oa:Option Addr) (rn rc on oc:Nat) (w:World) (h0:0<=p) (h1:p<=1000000000):
  Calls prog 159 #[.slice la len lc,stV p ra rn rc oa on oc code] w (rB w (stV (goP len p) ra rn rc oa on oc (goC len p code))):=by
 by_cases hp:(len:Int)<=p+1
 ·have e1:goP len p=p:=nC hp
  have e2:goC len p code=2:=nC hp;rw [e1,e2];clear e1 e2
  go_enter func159,ntmps159
  go_wp2_with fail
  refine (qe5 _ _ _ _ _ _ _ _ _).mono ?_;rintro e w1 ⟨rfl,b1⟩;have B1:Hid (Below w.heap.size w w1):=qai (by go_grown) b1 (by simp;omega);obtain ⟨hc1,hf1⟩:=qap b1;clear b1;go_wp2;refine bodyPost_ret (v:=stV p ra rn rc oa on oc 2) (by simp [results,results159,go_sem,hc1]) rfl ⟨rfl,?_⟩;have:=B1.out
  go_grown
 ·have e1:goP len p=p+1:=nB hp
  have e2:goC len p code=code:=nB hp;rw [e1,e2];clear e1 e2
  go_enter func159,ntmps159
  go_wp2;refine bodyPost_ret (v:=stV (p+1) ra rn rc oa on oc code) (by simp [results,results159,go_sem]) rfl ⟨rfl,?_⟩
  go_grown
