import Derived.Test.YtbgfjbgdiifghaaGreatDoorZn2
import Derived.Test.YtbgfjbgdiifghaaGreatDoorZn3
import Derived.Test.YtbgfjbgdiifghaaGreatDoorZn4
import Derived.Test.YtbgfjbgdiifghaaGreatDoorZn5
namespace Go.Proofs.YtbgfjbgdiifghaaGreatDoor
open Go.Proofs.Tryz
set_option maxRecDepth 100000
set_option maxHeartbeats 4000000
open Go.RowKit
def qbf (op r a b n places procs:Int):Bool:=
 if op=1 then inB n (-1000000000) 1000000000 && a == 0 && b == 0
 else if op=2 then n == 0
 else if op=3 then n == 0
 else if op=4 then n == 0
 else if op=5 then n == 0
 else if op=6 then inB n 0 (procs - 1) && r == 0 && b == 0
 else if op=7 then (inB n 0 (procs - 1) || n == 9) && a == 0 && b == 0
 else if op=8 then r == 0 && b == 0 && n == 0
 else if op=9 then belB n places && r == 0 && a == 0 && b == 0
 else if op=10 then belB n places && r == 0 && b == 0
 else if op=11 then r == 0 && a == 0 && b == 0 && n == 0
 else false
def qae (op r a b n places procs:Int):Bool:=(inB r 0 3 && inB a 0 3 && inB b 0 3 && inB procs 1 4) && qbf op r a b n places procs
theorem qd6 (op:Int):(op<1\/11<op)\/op=1\/op=2\/op=3\/op=4\/op=5\/op=6\/op=7\/op=8\/op=9\/op=10\/op=11:=by omega
theorem qey (op r a b n places procs:Int) (h:op<1\/11<op):qbf op r a b n places procs=false:=by
 unfold qbf;rw [nB (by omega),nB (by omega),nB (by omega),nB (by omega),nB (by omega),nB (by omega),nB (by omega),nB (by omega),nB (by omega),nB (by omega),nB (by omega)]
theorem qos (op r a b n places procs:Int) (w:World) (h1:inB r 0 3=true) (h2:inB a 0 3=true) (h3:inB b 0 3=true) (h4:inB procs 1 4=true) (h5:1<=procs) (h6:procs<=4) (g:op=1\/op=2\/op=3\/op=4\/op=5\/op=6\/op=7\/op=8\/op=9\/op=10\/op=11):
  Calls prog 88 #[insV op r a b n,iV places,iV procs] w (rB w (.bool (qbf op r a b n places procs))):=by
 rcases g with rfl | rfl | rfl | rfl | rfl | rfl | rfl | rfl | rfl | rfl | rfl
 all_goals
  go_enter func88,ntmps88
  go_wp2_with (first|(go_at_call 48;refine (l1In_any _ _ _ _).mono ?_;rintro e w' ⟨rfl,rfl⟩)|(go_at_call 90;refine (l1Num_any _ _).mono ?_;rintro e w' ⟨rfl,rfl⟩))
  all_goals
   go_ret;refine ⟨qa6 ?_,by go_grown⟩
   first | rfl | (simp [*,qbf,belB];done)|(simp [*,qbf,belB];omega)
theorem qf9 (op r a b n places procs:Int) (w:World):
  Calls prog 88 #[insV op r a b n,iV places,iV procs] w (rB w (.bool (qae op r a b n places procs))):=by
 rcases zK (inB r 0 3 && inB a 0 3 && inB b 0 3 && inB procs 1 4) with h | h
 ·have hh:=h
  simp only [nH] at hh;obtain ⟨⟨⟨h1,h2⟩,h3⟩,h4⟩:=hh;have h5:1<=procs:=by simp [inB] at h4;omega
  have h6:procs<=4:=by simp [inB] at h4;omega
  have hv:qae op r a b n places procs=qbf op r a b n places procs:=by unfold qae;rw [h];rfl
  rw [hv]
  rcases qd6 op with g | rfl | rfl | rfl | rfl | rfl | rfl | rfl | rfl | rfl | rfl | rfl
  ·rw [qey _ _ _ _ _ _ _ g];exact qi1 op r a b n places procs w h1 h2 h3 h4 h5 h6 g
  all_goals exact qos _ r a b n places procs w h1 h2 h3 h4 h5 h6 (by decide)
 ·have hv:qae op r a b n places procs=false:=by unfold qae;rw [h];rfl
  rw [hv];exact qkt op r a b n places procs w h
theorem qjx (op r a b n places procs:Int) (w:World) (h:procs<1\/4<procs):
  Calls prog 106 #[insV op r a b n,iV places,iV procs] w (rB w (.bool false)):=by
 rcases h with h | h
 ·go_enter func106,ntmps106
  go_wp2;go_ret;exact ⟨rfl,by go_grown⟩
 ·have h':¬ procs<1:=by omega
  go_enter func106,ntmps106
  go_wp2;go_ret;exact ⟨rfl,by go_grown⟩
theorem qiu (op r a b n places procs:Int) (w:World) (h5:1<=procs) (h6:procs<=4) (h:op<1\/11<op):
  Calls prog 106 #[insV op r a b n,iV places,iV procs] w (rB w (.bool false)):=by
 go_enter func106,ntmps106
 go_wp2_with (go_at_call 125;refine (qmh _ _ _ _ _ _ h).mono ?_;rintro e w1 ⟨rfl,hb1⟩)
 first|(go_region_with (fail)) | fail
 all_goals
  go_wp2;go_ret;exact ⟨rfl,qiv hb1⟩
theorem qft (op r a b n places procs:Int) (w:World):
  Calls prog 106 #[insV op r a b n,iV places,iV procs] w (rB w (.bool (qae op r a b n places procs))):=by
 by_cases hp:procs<1\/4<procs
 ·have hv:qae op r a b n places procs=false:=by simp [qae,inB];omega
  rw [hv];exact qjx op r a b n places procs w hp
 ·have h5:1<=procs:=by omega
  have h6:procs<=4:=by omega
  rcases qd6 op with g | rfl | rfl | rfl | rfl | rfl | rfl | rfl | rfl | rfl | rfl | rfl
  ·have hv:qae op r a b n places procs=false:=by unfold qae;rw [qey _ _ _ _ _ _ _ g];simp
   rw [hv];exact qiu op r a b n places procs w h5 h6 g
  ·by_cases g0:a=0
   case neg=>
    have hv:qae 1 r a b n places procs=false:=by simp [qae,qbf,g0]
    rw [hv];exact qdx r a b n places procs w h5 h6 (by simp [qa3];omega)
   subst g0;by_cases g1:b=0
   case neg=>
    have hv:qae 1 r 0 b n places procs=false:=by simp [qae,qbf,g1]
    rw [hv];exact qdx r 0 b n places procs w h5 h6 (by simp [qa3];omega)
   subst g1;refine (qhk r n places procs w h5 h6).mono ?_;rintro e w1 ⟨rfl,hb⟩;refine ⟨qa6 ?_,hb⟩;rw [Bool.eq_iff_iff];simp [qae,qbf,inB,belB] <;> omega
  ·by_cases g0:n=0
   case neg=>
    have hv:qae 2 r a b n places procs=false:=by simp [qae,qbf,g0]
    rw [hv];exact qbv 2 r a b n places procs w h5 h6 (by omega) (by omega) (by simp [qa3];omega)
   subst g0;refine (qbu 2 r a b places procs w h5 h6 (by omega) (by omega)).mono ?_;rintro e w1 ⟨rfl,hb⟩;refine ⟨qa6 ?_,hb⟩;rw [Bool.eq_iff_iff];simp [qae,qbf,inB,belB] <;> omega
  ·by_cases g0:n=0
   case neg=>
    have hv:qae 3 r a b n places procs=false:=by simp [qae,qbf,g0]
    rw [hv];exact qbv 3 r a b n places procs w h5 h6 (by omega) (by omega) (by simp [qa3];omega)
   subst g0;refine (qbu 3 r a b places procs w h5 h6 (by omega) (by omega)).mono ?_;rintro e w1 ⟨rfl,hb⟩;refine ⟨qa6 ?_,hb⟩;rw [Bool.eq_iff_iff];simp [qae,qbf,inB,belB] <;> omega
  ·by_cases g0:n=0
   case neg=>
    have hv:qae 4 r a b n places procs=false:=by simp [qae,qbf,g0]
    rw [hv];exact qbv 4 r a b n places procs w h5 h6 (by omega) (by omega) (by simp [qa3];omega)
   subst g0;refine (qbu 4 r a b places procs w h5 h6 (by omega) (by omega)).mono ?_;rintro e w1 ⟨rfl,hb⟩;refine ⟨qa6 ?_,hb⟩;rw [Bool.eq_iff_iff];simp [qae,qbf,inB,belB] <;> omega
  ·by_cases g0:n=0
   case neg=>
    have hv:qae 5 r a b n places procs=false:=by simp [qae,qbf,g0]
    rw [hv];exact qbv 5 r a b n places procs w h5 h6 (by omega) (by omega) (by simp [qa3];omega)
   subst g0;refine (qbu 5 r a b places procs w h5 h6 (by omega) (by omega)).mono ?_;rintro e w1 ⟨rfl,hb⟩;refine ⟨qa6 ?_,hb⟩;rw [Bool.eq_iff_iff];simp [qae,qbf,inB,belB] <;> omega
  ·by_cases g0:r=0
   case neg=>
    have hv:qae 6 r a b n places procs=false:=by simp [qae,qbf,g0]
    rw [hv];exact qdg r a b n places procs w h5 h6 (by simp [qa3];omega)
   subst g0;by_cases g1:b=0
   case neg=>
    have hv:qae 6 0 a b n places procs=false:=by simp [qae,qbf,g1]
    rw [hv];exact qdg 0 a b n places procs w h5 h6 (by simp [qa3];omega)
   subst g1;refine (qgg a n places procs w h5 h6).mono ?_;rintro e w1 ⟨rfl,hb⟩;refine ⟨qa6 ?_,hb⟩;rw [Bool.eq_iff_iff];simp [qae,qbf,inB,belB] <;> omega
  ·by_cases g0:a=0
   case neg=>
    have hv:qae 7 r a b n places procs=false:=by simp [qae,qbf,g0]
    rw [hv];exact qdh r a b n places procs w h5 h6 (by simp [qa3];omega)
   subst g0;by_cases g1:b=0
   case neg=>
    have hv:qae 7 r 0 b n places procs=false:=by simp [qae,qbf,g1]
    rw [hv];exact qdh r 0 b n places procs w h5 h6 (by simp [qa3];omega)
   subst g1;refine (qgh r n places procs w h5 h6).mono ?_;rintro e w1 ⟨rfl,hb⟩;refine ⟨qa6 ?_,hb⟩;rw [Bool.eq_iff_iff];simp [qae,qbf,inB,belB] <;> omega
  ·by_cases g0:r=0
   case neg=>
    have hv:qae 8 r a b n places procs=false:=by simp [qae,qbf,g0]
    rw [hv];exact qb5 r a b n places procs w h5 h6 (by simp [qa3];omega)
   subst g0;by_cases g1:b=0
   case neg=>
    have hv:qae 8 0 a b n places procs=false:=by simp [qae,qbf,g1]
    rw [hv];exact qb5 0 a b n places procs w h5 h6 (by simp [qa3];omega)
   subst g1;by_cases g2:n=0
   case neg=>
    have hv:qae 8 0 a 0 n places procs=false:=by simp [qae,qbf,g2]
    rw [hv];exact qb5 0 a 0 n places procs w h5 h6 (by simp [qa3];omega)
   subst g2;refine (qfu a places procs w h5 h6).mono ?_;rintro e w1 ⟨rfl,hb⟩;refine ⟨qa6 ?_,hb⟩;rw [Bool.eq_iff_iff];simp [qae,qbf,inB,belB] <;> omega
  ·by_cases g0:r=0
   case neg=>
    have hv:qae 9 r a b n places procs=false:=by simp [qae,qbf,g0]
    rw [hv];exact qcb r a b n places procs w h5 h6 (by simp [qa3];omega)
   subst g0;by_cases g1:a=0
   case neg=>
    have hv:qae 9 0 a b n places procs=false:=by simp [qae,qbf,g1]
    rw [hv];exact qcb 0 a b n places procs w h5 h6 (by simp [qa3];omega)
   subst g1;by_cases g2:b=0
   case neg=>
    have hv:qae 9 0 0 b n places procs=false:=by simp [qae,qbf,g2]
    rw [hv];exact qcb 0 0 b n places procs w h5 h6 (by simp [qa3];omega)
   subst g2;refine (qgf n places procs w h5 h6).mono ?_;rintro e w1 ⟨rfl,hb⟩;refine ⟨qa6 ?_,hb⟩;rw [Bool.eq_iff_iff];simp [qae,qbf,inB,belB] <;> omega
  ·by_cases g0:r=0
   case neg=>
    have hv:qae 10 r a b n places procs=false:=by simp [qae,qbf,g0]
    rw [hv];exact qdi r a b n places procs w h5 h6 (by simp [qa3];omega)
   subst g0;by_cases g1:b=0
   case neg=>
    have hv:qae 10 0 a b n places procs=false:=by simp [qae,qbf,g1]
    rw [hv];exact qdi 0 a b n places procs w h5 h6 (by simp [qa3];omega)
   subst g1;refine (qgi a n places procs w h5 h6).mono ?_;rintro e w1 ⟨rfl,hb⟩;refine ⟨qa6 ?_,hb⟩;rw [Bool.eq_iff_iff];simp [qae,qbf,inB,belB] <;> omega
  ·by_cases g0:r=0
   case neg=>
    have hv:qae 11 r a b n places procs=false:=by simp [qae,qbf,g0]
    rw [hv];exact qbz r a b n places procs w h5 h6 (by simp [qa3];omega)
   subst g0;by_cases g1:a=0
   case neg=>
    have hv:qae 11 0 a b n places procs=false:=by simp [qae,qbf,g1]
    rw [hv];exact qbz 0 a b n places procs w h5 h6 (by simp [qa3];omega)
   subst g1;by_cases g2:b=0
   case neg=>
    have hv:qae 11 0 0 b n places procs=false:=by simp [qae,qbf,g2]
    rw [hv];exact qbz 0 0 b n places procs w h5 h6 (by simp [qa3];omega)
   subst g2;by_cases g3:n=0
   case neg=>
    have hv:qae 11 0 0 0 n places procs=false:=by simp [qae,qbf,g3]
    rw [hv];exact qbz 0 0 0 n places procs w h5 h6 (by simp [qa3];omega)
   subst g3;refine (qhj places procs w h5 h6).mono ?_;rintro e w1 ⟨rfl,hb⟩;refine ⟨qa6 ?_,hb⟩;rw [Bool.eq_iff_iff];simp [qae,qbf,inB] <;> omega
structure I5 where
 o:Int
 r:Int
 a:Int
 b:Int
 n:Int
def qaq (w:World) (b off len:Nat) (g:Nat->I5):Prop:=∀ i,i<len->
 w.cell? ⟨b,off+i*5,none⟩=some (iV (g i).o)/\w.cell? ⟨b,off+i*5+1,none⟩=some (iV (g i).r)/\w.cell? ⟨b,off+i*5+2,none⟩=some (iV (g i).a)/\w.cell? ⟨b,off+i*5+3,none⟩=some (iV (g i).b)/\w.cell? ⟨b,off+i*5+4,none⟩=some (iV (g i).n)
theorem qaq.bw {w w':World} {B b off len:Nat} {g:Nat->I5} (h:qaq w b off len g) (hb:Below B w w') (hB:b<B):qaq w' b off len g:=by
 intro i hi;obtain ⟨h0,h1,h2,h3,h4⟩:=h i hi;exact ⟨(hb.cell hB).trans h0,(hb.cell hB).trans h1,(hb.cell hB).trans h2,(hb.cell hB).trans h3,(hb.cell hB).trans h4⟩
def okAt (g:Nat->I5) (len procs:Int) (i:Nat):Bool:=qae (g i).o (g i).r (g i).a (g i).b (g i).n len procs
def qhg (g:Nat->I5) (len procs:Int) (k:Nat):Bool:=(List.range k).all (okAt g len procs)
def qaa (g:Nat->I5) (len:Nat) (procs:Int):Bool:=qhg g len procs len && (inB len 1 30 && inB procs 1 4)
theorem qi3 (g:Nat->I5) (len procs:Int) (k:Nat):qhg g len procs (k+1)=(qhg g len procs k && okAt g len procs k):=by
 simp [qhg,List.range_succ]
theorem qh1 (g:Nat->I5) (len procs:Int) {k m:Nat} (hk:k<m) (h:okAt g len procs k=false):qhg g len procs m=false:=by
 rw [qhg,List.all_eq_false];exact ⟨k,List.mem_range.2 hk,by simp [h]⟩
theorem qfa (b off len cap:Nat) (g:Nat->I5) (procs:Int) (w:World) (hlen:len<=maxLen) (hb:b<w.heap.size) (hc:qaq w b off len g):
  Calls prog 49 #[.slice (some (aQ b off)) len cap,iV procs] w (rB w (.bool (qaa g len procs))):=by
 unfold maxLen at hlen;have HC:Hid (qaq w b off len g):=hc;clear hc
 go_enter func49,ntmps49
 go_wp2_with fail
 go_loopw [5] (fun i wr=>∃ k:Nat,k<=len/\i=.int .i64 k/\Hid (qhg g len procs k=true)/\Bw w wr) (fun i _=>len - (intOf i).toNat)
 case atStart=>exact ⟨0,nD _,rfl,rfl,nE _ _⟩
 case round=>
  obtain ⟨k,hk,rfl,HA,hbw⟩:=hrel;by_cases hlt:k<len
  ·obtain ⟨c0,c1,c2,c3,c4⟩:=HC.bw hbw hb k hlt
   rcases zK (okAt g len procs k) with ho | ho
   ·have HO:Hid (okAt g len procs k=true):=ho
    have ho':qae (g k).o (g k).r (g k).a (g k).b (g k).n len procs=true:=ho;clear ho;go_wp2_with (go_at_call 88;refine (qf9 _ _ _ _ _ _ _ _).mono ?_;rintro e w1 ⟨rfl,hb1⟩)
    go_roundw
    case rel=>exact ⟨k+1,by omega,by go_num,by rw [Hid,qi3,HA.out,HO.out];rfl,hbw.trans (hb1.mono hbw.size)⟩
    case measure=>simp [intOf];omega
   ·have HO:Hid (okAt g len procs k=false):=ho
    have ho':qae (g k).o (g k).r (g k).a (g k).b (g k).n len procs=false:=ho;clear ho;go_wp2_with (go_at_call 88;refine (qf9 _ _ _ _ _ _ _ _).mono ?_;rintro e w1 ⟨rfl,hb1⟩)
    go_ret;exact ⟨qa6 (by rw [qaa,qh1 g len procs hlt HO.out];rfl),hbw.trans (hb1.mono hbw.size)⟩
  ·have hkl:k=len:=by omega
   have HP:Hid (qaa g len procs=(inB len 1 30 && inB procs 1 4)):=by
    have hA:=HA.out;rw [hkl] at hA;rw [Hid,qaa,hA];rfl
   clear HA hkl
   rcases zK (inB len 1 30) with t0 | t0
   all_goals
    go_wp2_with (go_at_call 48;refine (l1In_any _ _ _ _).mono ?_;rintro e w' ⟨rfl,rfl⟩)
    go_ret;exact ⟨qa6 (by rw [HP.out,t0] <;> rfl),hbw⟩
theorem qdd (b off len cap:Nat) (g:Nat->I5) (procs:Int) (w:World) (hlen:len<=maxLen) (hb:b<w.heap.size) (hc:qaq w b off len g):
  Calls prog 74 #[.slice (some (aQ b off)) len cap,iV procs] w (rB w (.bool (qaa g len procs))):=by
 unfold maxLen at hlen;have HC:Hid (qaq w b off len g):=hc;clear hc;by_cases hr:1<=len/\len<=30
 case neg=>
  have hv:qaa g len procs=false:=by
   rw [qaa,show inB len 1 30=false from by simp [inB];omega];simp
  rw [hv];clear hv;by_cases h1:len<1
  ·have h1':(len:Int)<1:=by omega
   go_enter func74,ntmps74
   go_wp2;go_ret;exact ⟨rfl,nE _ _⟩
  ·have h1':¬ (len:Int)<1:=by omega
   have h2':(30:Int)<len:=by omega
   go_enter func74,ntmps74
   go_wp2;go_ret;exact ⟨rfl,nE _ _⟩
 case pos=>
 obtain ⟨r1,r2⟩:=hr;have h1':¬ (len:Int)<1:=by omega
 have h2':¬ (30:Int)<len:=by omega
 go_enter func74,ntmps74
 go_wp2_with fail
 go_loopw [17] (fun i wr=>∃ k:Nat,k<=len/\i=.int .i64 k/\Hid (qhg g len procs k=true)/\Bw w wr) (fun i _=>len - (intOf i).toNat)
 case atStart=>exact ⟨0,nD _,rfl,rfl,nE _ _⟩
 case round=>
  obtain ⟨k,hk,rfl,HA,hbw⟩:=hrel;have hs:=hbw.size;by_cases hlt:k<len
  ·obtain ⟨c0,c1,c2,c3,c4⟩:=HC.bw hbw hb k hlt
   rcases zK (okAt g len procs k) with ho | ho
   ·have HO:Hid (okAt g len procs k=true):=ho
    have ho':qae (g k).o (g k).r (g k).a (g k).b (g k).n len procs=true:=ho;clear ho;go_wp2_with (go_at_call 106;refine (qft _ _ _ _ _ _ _ _).mono ?_;rintro e w1 ⟨rfl,hb1⟩)
    go_roundw
    case rel=>exact ⟨k+1,by omega,by go_num,by rw [Hid,qi3,HA.out,HO.out];rfl,(hbw.alloc hs _).trans (hb1.mono (by simp;omega))⟩
    case measure=>simp [intOf];omega
   ·have HO:Hid (okAt g len procs k=false):=ho
    have ho':qae (g k).o (g k).r (g k).a (g k).b (g k).n len procs=false:=ho;clear ho;go_wp2_with (go_at_call 106;refine (qft _ _ _ _ _ _ _ _).mono ?_;rintro e w1 ⟨rfl,hb1⟩)
    go_ret;exact ⟨qa6 (by rw [qaa,qh1 g len procs hlt HO.out];rfl),(hbw.alloc hs _).trans (hb1.mono (by simp;omega))⟩
  ·have hkl:k=len:=by omega
   have h30:inB len 1 30=true:=by simp [inB];omega
   have HP:Hid (qaa g len procs=true):=by
    have hA:=HA.out;rw [hkl] at hA
    have hp:inB procs 1 4=true:=by
     have h0:okAt g len procs 0=true:=by
      have:=(List.all_eq_true.1 (show (List.range len).all (okAt g len procs)=true from hA)) 0 (List.mem_range.2 (by omega));exact this
     simp only [okAt,qae,nH] at h0;exact h0.1.2
    rw [Hid,qaa,hA,h30,hp];rfl
   clear HA hkl h30;go_wp2;go_ret;exact ⟨qa6 HP.symm,hbw⟩
attribute [local go_sem] qh4 qh5 qg0 qgu qgv qfm qgz qg1 qg2 qfo qfp qe3 qgx qgy qfn qg3 qg4 qfq qh2 qh3 qgw
theorem qlv (n a r0 r1 r2 r3:Int) (w:World) (h0:0<=a) (h3:a<=3):
  Calls prog 151 #[.iface 211 (qtt n a),regV r0 r1 r2 r3] w (rB w (evV 2 n (zi [r0,r1,r2,r3] a.toNat))):=by
 have ha:a=0\/a=1\/a=2\/a=3:=by omega
 clear h0 h3
 rcases ha with rfl | rfl | rfl | rfl
 ·go_enter func151,ntmps151
  go_wp2_with fail
  go_region
  all_goals
   go_wp2;refine bodyPost_ret (v:=evV 2 n r0) (by simp [results,results151,go_sem]) rfl ⟨rfl,?_⟩
   go_grown
 ·go_enter func151,ntmps151
  go_wp2_with fail
  go_region
  all_goals
   go_wp2;refine bodyPost_ret (v:=evV 2 n r1) (by simp [results,results151,go_sem]) rfl ⟨rfl,?_⟩
   go_grown
 ·go_enter func151,ntmps151
  go_wp2_with fail
  go_region
  all_goals
   go_wp2;refine bodyPost_ret (v:=evV 2 n r2) (by simp [results,results151,go_sem]) rfl ⟨rfl,?_⟩
   go_grown
 ·go_enter func151,ntmps151
  go_wp2_with fail
  go_region
  all_goals
   go_wp2;refine bodyPost_ret (v:=evV 2 n r3) (by simp [results,results151,go_sem]) rfl ⟨rfl,?_⟩
   go_grown
theorem qlw (r n r0 r1 r2 r3:Int) (w:World):
  Calls prog 151 #[.iface 213 (qt2 r n),regV r0 r1 r2 r3] w (rB w (evV 3 n 0)):=by
 go_enter func151,ntmps151
 go_wp2;refine bodyPost_ret (v:=evV 3 n 0) (by simp [results,results151,go_sem]) rfl ⟨rfl,?_⟩
 go_grown
theorem qjr (a r0 r1 r2 r3:Int) (w:World) (h0:0<=a) (h3:a<=3):
  Calls prog 151 #[.iface 215 (qmj a),regV r0 r1 r2 r3] w (rB w (evV 4 0 (zi [r0,r1,r2,r3] a.toNat))):=by
 have ha:a=0\/a=1\/a=2\/a=3:=by omega
 clear h0 h3
 rcases ha with rfl | rfl | rfl | rfl
 ·go_enter func151,ntmps151
  go_wp2;refine bodyPost_ret (v:=evV 4 0 r0) (by simp [results,results151,go_sem]) rfl ⟨rfl,?_⟩
  go_grown
 ·go_enter func151,ntmps151
  go_wp2;refine bodyPost_ret (v:=evV 4 0 r1) (by simp [results,results151,go_sem]) rfl ⟨rfl,?_⟩
  go_grown
 ·go_enter func151,ntmps151
  go_wp2;refine bodyPost_ret (v:=evV 4 0 r2) (by simp [results,results151,go_sem]) rfl ⟨rfl,?_⟩
  go_grown
 ·go_enter func151,ntmps151
  go_wp2;refine bodyPost_ret (v:=evV 4 0 r3) (by simp [results,results151,go_sem]) rfl ⟨rfl,?_⟩
  go_grown
theorem qnt (r n r0 r1 r2 r3:Int) (w:World):
  Calls prog 151 #[.iface 207 (setV r n),regV r0 r1 r2 r3] w (rB w (evV 1 0 0)):=by
 go_enter func151,ntmps151
 go_wp2;refine bodyPost_ret (v:=evV 1 0 0) (by simp [results,results151,go_sem]) rfl ⟨rfl,?_⟩
 go_grown
theorem qc6 (op r a b r0 r1 r2 r3:Int) (w:World):
  Calls prog 151 #[.iface 209 (qjn op r a b),regV r0 r1 r2 r3] w (rB w (evV 1 0 0)):=by
 go_enter func151,ntmps151
 go_wp2;refine bodyPost_ret (v:=evV 1 0 0) (by simp [results,results151,go_sem]) rfl ⟨rfl,?_⟩
 go_grown
theorem qlu (n r0 r1 r2 r3:Int) (w:World):
  Calls prog 151 #[.iface 217 (qsh n),regV r0 r1 r2 r3] w (rB w (evV 1 0 0)):=by
 go_enter func151,ntmps151
 go_wp2;refine bodyPost_ret (v:=evV 1 0 0) (by simp [results,results151,go_sem]) rfl ⟨rfl,?_⟩
 go_grown
theorem qlx (a n r0 r1 r2 r3:Int) (w:World):
  Calls prog 151 #[.iface 219 (quf a n),regV r0 r1 r2 r3] w (rB w (evV 1 0 0)):=by
 go_enter func151,ntmps151
 go_wp2;refine bodyPost_ret (v:=evV 1 0 0) (by simp [results,results151,go_sem]) rfl ⟨rfl,?_⟩
 go_grown
theorem qns (r0 r1 r2 r3:Int) (w:World):
  Calls prog 151 #[.iface 220 endV,regV r0 r1 r2 r3] w (rB w (evV 1 0 0)):=by
 go_enter func151,ntmps151
 go_wp2;refine bodyPost_ret (v:=evV 1 0 0) (by simp [results,results151,go_sem]) rfl ⟨rfl,?_⟩
 go_grown
def evK (o:Int):Int:=if o=6 then 2 else if o=7 then 3 else if o=8 then 4 else 1
def evP (o n:Int):Int:=if o=6 then n else if o=7 then n else 0
def evW (o a:Int) (rs:List Int):Int:=if o=6 then zi rs a.toNat else if o=8 then zi rs a.toNat else 0
def qwl (o r a b n:Int):Value:=
 if o=1 then .iface 207 (setV r n) else if o=6 then .iface 211 (qtt n a) else if o=7 then .iface 213 (qt2 r n)
 else if o=8 then .iface 215 (qmj a) else if o=9 then .iface 217 (qsh n) else if o=10 then .iface 219 (quf a n)
 else if o=11 then .iface 220 endV else .iface 209 (qjn o r a b)
theorem qkh (o r a b n:Int) (w:World) (h1:1<=o) (h2:o<=11):
  Calls prog 125 #[insV o r a b n] w (rB w (qwl o r a b n)):=by
 rcases qd6 o with g | rfl | rfl | rfl | rfl | rfl | rfl | rfl | rfl | rfl | rfl | rfl
 ·omega
 ·exact qfi r a b n w
 ·exact qf1 r a b n w
 ·exact qf2 r a b n w
 ·exact qf3 r a b n w
 ·exact qf4 r a b n w
 ·exact qea r a b n w
 ·exact qeb r a b n w
 ·exact qdv r a b n w
 ·exact qd9 r a b n w
 ·exact qec r a b n w
 ·exact qfh r a b n w
theorem qjs (o r a b n r0 r1 r2 r3:Int) (w:World) (h1:1<=o) (h2:o<=11) (h3:0<=a) (h4:a<=3):
  Calls prog 151 #[qwl o r a b n,regV r0 r1 r2 r3] w (rB w (evV (evK o) (evP o n) (evW o a [r0,r1,r2,r3]))):=by
 rcases qd6 o with g | rfl | rfl | rfl | rfl | rfl | rfl | rfl | rfl | rfl | rfl | rfl
 ·omega
 ·exact qnt r n r0 r1 r2 r3 w
 ·exact qc6 2 r a b r0 r1 r2 r3 w
 ·exact qc6 3 r a b r0 r1 r2 r3 w
 ·exact qc6 4 r a b r0 r1 r2 r3 w
 ·exact qc6 5 r a b r0 r1 r2 r3 w
 ·exact qlv n a r0 r1 r2 r3 w h3 h4
 ·exact qlw r n r0 r1 r2 r3 w
 ·exact qjr a r0 r1 r2 r3 w h3 h4
 ·exact qlu n r0 r1 r2 r3 w
 ·exact qlx a n r0 r1 r2 r3 w
 ·exact qns r0 r1 r2 r3 w
def qbj (g:Nat->I5) (len:Nat) (p:Int) (rs os:List Int) (code:Int):Bool:=qaa g len 4 && qc4 len p rs os code && (code == 0)
def nxK (g:Nat->I5) (len:Nat) (p:Int) (rs os:List Int) (code:Int):Int:=if qbj g len p rs os code=true then evK (g p.toNat).o else 0
def nxP (g:Nat->I5) (len:Nat) (p:Int) (rs os:List Int) (code:Int):Int:=if qbj g len p rs os code=true then evP (g p.toNat).o (g p.toNat).n else 0
def nxW (g:Nat->I5) (len:Nat) (p:Int) (rs os:List Int) (code:Int):Int:=if qbj g len p rs os code=true then evW (g p.toNat).o (g p.toNat).a rs else 0
theorem qqv {g:Nat->I5} {len:Nat} {p:Int} {rs os:List Int} {code:Int} (h:qbj g len p rs os code=false):evV (nxK g len p rs os code) (nxP g len p rs os code) (nxW g len p rs os code)=evV 0 0 0:=by
 simp [nxK,nxP,nxW,h]
theorem qqu {g:Nat->I5} {len k:Nat} {rs os:List Int} {code:Int} (h:qbj g len (k:Int) rs os code=true):evV (nxK g len k rs os code) (nxP g len k rs os code) (nxW g len k rs os code)=evV (evK (g k).o) (evP (g k).o (g k).n) (evW (g k).o (g k).a rs):=by
 simp [nxK,nxP,nxW,h]
theorem qwq {a b:Value} (h:a=b):Ending.returned a=.returned b:=by rw [h]
theorem qbo {g:Nat->I5} {len:Nat} {procs:Int} (h:qaa g len procs=true) {k:Nat} (hk:k<len):qae (g k).o (g k).r (g k).a (g k).b (g k).n len procs=true:=by
 simp only [qaa,nH] at h;have h1:=h.1;rw [qhg,List.all_eq_true] at h1;exact h1 k (List.mem_range.2 hk)
theorem qb6 {o r a b n places procs:Int} (h:qae o r a b n places procs=true):(1<=o/\o<=11)/\(0<=r/\r<=3)/\(0<=a/\a<=3)/\(0<=b/\b<=3):=by
 simp only [qae,nH] at h;obtain ⟨⟨⟨⟨h1,h2⟩,h3⟩,_⟩,h5⟩:=h;simp only [inB,nI] at h1 h2 h3;refine ⟨?_,h1,h2,h3⟩;apply Classical.byContradiction;intro hn;rw [qey _ _ _ _ _ _ _ (by omega)] at h5;cases h5
theorem qa7 {g:Nat->I5} {len:Nat} {p:Int} {rs os:List Int} {code:Int} (h:qbj g len p rs os code=true):qaa g len 4=true/\qc4 len p rs os code=true/\code=0:=by
 simp only [qbj,nH,beq_iff_eq] at h;exact ⟨h.1.1,h.1.2,h.2⟩
theorem qbq {n:Nat} {p:Int} {rs os:List Int} {code:Int} (h:qc4 n p rs os code=true):(∃ r0 r1 r2 r3,rs=[r0,r1,r2,r3]/\numB r0=true/\numB r1=true/\numB r2=true/\numB r3=true)/\(∃ k:Nat,p=k/\k<n)/\os.length<=60/\allN os=true:=by
 simp only [qc4,qc3,outB,nH,beq_iff_eq,nI] at h;obtain ⟨⟨⟨⟨h4,hr⟩,_⟩,hp⟩,h60,ho⟩:=h;have h4':rs.length=4:=by omega
 refine ⟨?_,?_,by omega,ho⟩
 ·match rs,h4' with
  | [r0,r1,r2,r3],_=>
   simp only [allN,List.all_cons,List.all_nil,nH,and_true] at hr;exact ⟨r0,r1,r2,r3,rfl,hr⟩
 ·simp only [belB,nI] at hp
  obtain ⟨k,rfl⟩:=Int.eq_ofNat_of_zero_le hp.1;exact ⟨k,rfl,by omega⟩
theorem qmc (b off len cap:Nat) (g:Nat->I5) (p code:Int) (ra oa:Option Addr) (rc oc:Nat) (rs os:List Int) (w:World) (ho:os.length<=1048576) (h1:Sl w ra rs) (h2:Sl w oa os) (t2:qaa g len 4=true) (hw:qbj g len p rs os code=false):
  Calls prog 143 #[.slice (some (aQ b off)) len cap,stV p ra rs.length rc oa os.length oc code] w (rB w (evV 0 0 0)):=by
 have H1:Hid (Sl w ra rs):=h1;have H2:Hid (Sl w oa os):=h2;clear h1 h2
 rcases zK (code != 0) with t0 | t0
 ·clear hw t2
  go_enter func143,ntmps143
  go_wp2;refine bodyPost_ret (v:=evV 0 0 0) (by simp [results,results143,go_sem]) rfl ⟨rfl,?_⟩
  go_grown
 have hc:(code == 0)=true:=by simpa using t0
 have t1:qc4 len p rs os code=false:=by
  simp only [qbj,t2,hc,Bool.and_true,Bool.true_and] at hw;exact hw
 clear hw hc t2
 go_enter func143,ntmps143
 go_wp2_with fail
 refine (qd3 _ _ _ _ _ _ _ _ _ rs os _ ho (H1.bw (by go_grown)) (H2.bw (by go_grown))).mono ?_;rintro e w1 ⟨rfl,b1⟩;have B1:Hid (Bw w w1):=qah (by go_grown) b1 (by simp;omega);obtain ⟨hc1,hf1⟩:=qal b1;clear b1;go_wp2;refine bodyPost_ret (v:=evV 0 0 0) (by simp [results,results143,go_sem,hc1]) rfl ⟨rfl,?_⟩;have:=B1.out
 go_grown
def qjm (o a b n:Int):Int:=if o=1 then n else if o=2 then a+b else if o=3 then a - b else if o=4 then a*b else if a<b then 1 else 0
def goP (len:Nat) (p:Int):Int:=if (len:Int)<=p+1 then p else p+1
def goC (len:Nat) (p code:Int):Int:=if (len:Int)<=p+1 then 2 else code
structure S4 where
 p:Int
 rs:List Int
 os:List Int
 c:Int
def goS (len:Nat) (p:Int) (rs os:List Int) (code:Int):S4:=⟨goP len p,rs,os,goC len p code⟩
def qaf (len:Nat) (x:I5) (p:Int) (rs os:List Int) (code v:Int):S4:=
 if x.o=6 then goS len p rs os code
 else if x.o=7 then goS len p (rs.set x.r.toNat v) os code
 else if x.o=8 then (if os.length=60 then ⟨p,rs,os,2⟩ else goS len p rs (os ++ [v]) code)
 else if x.o=9 then ⟨x.n,rs,os,code⟩
 else if x.o=10 then (if zi rs x.a.toNat=0 then ⟨x.n,rs,os,code⟩ else goS len p rs os code)
 else if x.o=11 then ⟨p,rs,os,1⟩
 else (if numB (qjm x.o (zi rs x.a.toNat) (zi rs x.b.toNat) x.n)=true then goS len p (rs.set x.r.toNat (qjm x.o (zi rs x.a.toNat) (zi rs x.b.toNat) x.n)) os code else ⟨p,rs,os,2⟩)
def canB (nk np nv k p v:Int):Bool:=
 if nk=3 then (k == 3) && numB v && (if np=9 then belB p 4 else p == np) else (nk != 0) && (k == nk && (p == np && v == nv))
def doB (g:Nat->I5) (len:Nat) (p:Int) (rs os:List Int) (code k q v:Int):Bool:=canB (nxK g len p rs os code) (nxP g len p rs os code) (nxW g len p rs os code) k q v
def doS (g:Nat->I5) (len:Nat) (p:Int) (rs os:List Int) (code k q v:Int):S4:=
 if doB g len p rs os code k q v=true then qaf len (g p.toNat) p rs os code v else ⟨p,rs,os,code⟩
theorem qci {g:Nat->I5} {len:Nat} {p:Int} {rs os:List Int} {code k q v:Int} (h:doB g len p rs os code k q v=true):qbj g len p rs os code=true:=by
 apply Classical.byContradiction;intro hn;have hn':qbj g len p rs os code=false:=by simpa using hn
 simp [doB,canB,nxK,hn'] at h
theorem qcx {a b:Int} (ha:numB a=true) (hb:numB b=true):-1000000000000000000<=a*b/\a*b<=1000000000000000000:=by
 simp only [numB,inB,nI] at ha hb;have h1:(a.natAbs*b.natAbs:Nat)<=1000000000*1000000000:=Nat.mul_le_mul (by omega) (by omega);have h2:(a*b).natAbs=a.natAbs*b.natAbs:=Int.natAbs_mul a b;omega
theorem qbp {a:Int}:numB a=true ↔ -1000000000<=a/\a<=1000000000:=by simp [numB,inB]
theorem qj0:∃ i,prog.info? 3=some i/\i.zero=some (iV 0)/\i.size=1/\i.bytes=8:=by
 have hinfo:=qnz;cases hi:prog.info? 3 with
 | none=>rw [hi] at hinfo;cases hinfo
 | some i=>
  rw [hi] at hinfo;simp only [Option.map_some,nG,Prod.mk.injEq] at hinfo;exact ⟨i,rfl,hinfo⟩
theorem qio (w:World) (ty:TypeId) (B c:Nat) (v:Value) (xs:List Int) (h:OwnI w B v xs):
  (Builtin.append_ #[41,41] ty #[v,.slice none 0 c]).run prog w=.ok v w:=by
 obtain ⟨i,hi,_⟩:=qj0
 rcases h.2 with ⟨rfl,_⟩ | ⟨g,cap,cur,rfl,_,_,hnc,_⟩
 ·simp [Builtin.append_,run_underlying Tryz.underlying41,sizeOf,typeInfo,hi,Builtin.lenOf,Builtin.firstCells]
 ·simp [Builtin.append_,run_underlying Tryz.underlying41,sizeOf,typeInfo,hi,Builtin.lenOf,Builtin.firstCells,hnc,storeCells]
theorem qee (w:World) (ty:TypeId) (B c:Nat) (v:Value) (a0:Option Addr) (xs ys:List Int) (h:OwnI w B v xs) (hy:Sl w a0 ys) (hn:xs.length+ys.length<=4000000) (hB:B<=w.heap.size):
  ∃ v' w',(Builtin.append_ #[41,41] ty #[v,.slice a0 ys.length c]).run prog w=.ok v' w'/\OwnI w' B v' (xs ++ ys)/\w.grownBy w' v.ownBlock/\(v'.ownBlock=v.ownBlock\/v'.ownBlock=some w.heap.size):=by
 obtain ⟨i,hi,hz,hs,hb⟩:=qj0;cases a0 with
 | none=>
  have hy0:ys=[]:=by
   rcases hy with h0 | ⟨b,off,e,_⟩
   ·exact h0
   ·cases e
  subst hy0;exact ⟨v,w,qio w ty B c v xs h,by simpa using h,World.grownBy.refl _ _,.inl rfl⟩
 | some a=>
  have hnews:∀ j u,(ys.map (Value.int .i64))[j]? = some u->w.cell? (a.add j)=some u:=by
   rcases hy with h0 | ⟨b,off,e,hlt,hc⟩
   ·subst h0;intro j u hj;simp at hj
   ·cases e
    exact qms (.inr ⟨b,off,rfl,hlt,hc⟩) (nE _ _)
  obtain ⟨v',w',h1,h2,h3,_,h5⟩:=run_append_own_at (P:=prog) w B 41 ty 3 i (iV 0) 1 8 Tryz.underlying41 hi hz hs hb rfl (by decide) v xs.length (xs.map (Value.int .i64)) h a ys.length c (ys.map (Value.int .i64)) (by simp) hnews (qhu ys) (by unfold maxLen;omega) (by omega) hB;refine ⟨v',w',h1,?_,h3,h5⟩;unfold OwnI;rw [List.length_append,List.map_append];exact h2
theorem qaz {ops:Array Oper} {rest:List Oper} {op:Oper} {act:Act} {Q:Exit->Act->World->Prop} (w:World) (hgd:op.guard=none) (s x:Operand)
  (ho:op.op=.call { callee:=.builtin .append,args:=#[s,x],argTypes:=#[41,41] })
  (B c:Nat) (v:Value) (a0:Option Addr) (xs ys:List Int) (hs:act.eval s=v) (hx:act.eval x=.slice a0 ys.length c) (hv:OwnI w B v xs) (hy:Sl w a0 ys) (hn:xs.length+ys.length<=4000000) (hB:B<=w.heap.size)
  (h:∀ v' w',OwnI w' B v' (xs ++ ys)->w.grownBy w' v.ownBlock->(v'.ownBlock=v.ownBlock\/v'.ownBlock=some w.heap.size)->wpList prog ops Q rest (act.put op.dst v') w'):
  wpList prog ops Q (op :: rest) act w:=by
 obtain ⟨v',w',h1,h2,h3,h4⟩:=qee w op.type B c v a0 xs ys hv hy hn hB;refine wpList_plain hgd fun K hK=>?_;unfold Oper.wp execOp;simp only [ho,resolve,invoke,builtin,Sem.run_bind,Sem.run_pure,Result.andThen_ok,List.map_toArray,List.map_cons,List.map_nil,hs,hx,h1];exact hK _ _ (h v' w' h2 h3 h4)
theorem qb8 (w:World):OwnI (w.alloc (.cells #[] 3)) w.heap.size (sG w.heap.size 0 0) []:=
 World.ownsRow_made (base:=w.heap.size) (e:=3) (size:=1) w #[] 0 (nA _) (by unfold maxLen;omega) rfl
theorem qgl (w:World) {N:Nat} (h:N=w.heap.size):OwnI (w.alloc (.cells #[] 3)) N (sG N 0 0) []:=by
 subst h;exact qb8 w
theorem qdm {ops:Array Oper} {rest:List Oper} {op:Oper} {act:Act} {Q:Exit->Act->World->Prop} (w:World) {N:Nat} (hN:N=w.heap.size) (hgd:op.guard=none) (s x:Operand)
  (ho:op.op=.call { callee:=.builtin .append,args:=#[s,x],argTypes:=#[41,41] })
  (c:Nat) (a0:Option Addr) (ys:List Int) (hs:act.eval s=.slice (some (aQ N 0)) 0 0) (hx:act.eval x=.slice a0 ys.length c) (hy:Sl w a0 ys) (hn:ys.length<=1048576)
  (h:∀ v' w',OwnI w' w.heap.size v' ys->Bw w w'->wpList prog ops Q rest (act.put op.dst v') w'):
  wpList prog ops Q (op :: rest) act (w.alloc (.cells #[] 3)):=by
 subst hN;have hb:Bw w (w.alloc (.cells #[] 3)):=(nE _ _).alloc (nA _) _;refine qaz _ hgd s x ho w.heap.size c (sG w.heap.size 0 0) a0 [] ys hs hx (qb8 w) (hy.bw hb) (by simp;omega) (by simp) ?_;intro v' w' o g _;exact h v' w' (by simpa using o) (hb.grown g (by simp) (fun k hk=>by cases hk;exact nA _))
def STOP (p:Prop):Prop:=p
theorem qdo {P:Program} {ops:Array Oper} {rest:List Oper} {op:Oper} {act:Act} {Q:Exit->Act->World->Prop} {w:World} {a:Array Operand} {t:Array TypeId} (_:op.op=.call { callee:=.builtin .append,args:=a,argTypes:=t }) (h:STOP (wpList P ops Q (op :: rest) act w)):wpList P ops Q (op :: rest) act w:=h
theorem qfr (a0:Option Addr) (cap:Nat) (xs:List Int) (w:World) (hlen:xs.length<=1048576) (h:Sl w a0 xs):
  Calls prog 152 #[.slice a0 xs.length cap] w fun e w'=>∃ v,e=.returned v/\OwnI w' w.heap.size v xs/\Bw w w':=by
 cases a0 with
 | none=>
  have h0:xs=[]:=by
   rcases h with h0 | ⟨b,off,e,_⟩
   ·exact h0
   ·cases e
  subst h0;have he:∀ wx:World,(binOp .eql 41 (.slice none 0 cap) nS).run prog wx=.ok (.bool true) wx:=fun wx=>by kernel_rfl
  go_enter func152,ntmps152
  go_wp2;go_ret;exact ⟨_,rfl,World.ownsRow_nil _ _ _ _,nE _ _⟩
 | some a=>
  have HS:Hid (Sl w (some a) xs):=h;have he:∀ wx:World,(binOp .eql 41 (.slice (some a) xs.length cap) nS).run prog wx=.ok (.bool false) wx:=fun wx=>by kernel_rfl
  clear h
  go_enter func152,ntmps152
  go_wp2_with (at_builtin;refine qaz _ rfl _ _ rfl w.heap.size cap (sG w.heap.size 0 0) (some a) [] xs rfl rfl (qb8 w) (HS.bw ((nE _ _).alloc (nA _) _)) (by simp;omega) (by simp) ?_;intro v' w1 o1 g1 _;have HF:Hid (OwnI w1 w.heap.size v' xs/\Bw w w1):=⟨by simpa using o1,((nE _ _).alloc (nA _) _).grown g1 (by simp) (fun k hk=>by cases hk;exact nA _)⟩;clear o1 g1)
  go_ret;exact ⟨_,rfl,HF.out⟩
theorem qjp (p code:Int) (ra oa:Option Addr) (rc oc:Nat) (rs os:List Int) (w:World) (hr:rs.length<=1048576) (ho:os.length<=1048576) (h1:Sl w ra rs) (h2:Sl w oa os):
  Calls prog 144 #[stV p ra rs.length rc oa os.length oc code] w fun e w'=>∃ v,e=.returned v/\qac w' w.heap.size v p rs os code/\Bw w w':=by
 have H1:Hid (Sl w ra rs):=h1;have H2:Hid (Sl w oa os):=h2;clear h1 h2
 go_enter func144,ntmps144
 go_wp2_with fail
 refine (qfr ra rc rs _ hr (H1.bw (by go_grown))).mono ?_;rintro e w1 ⟨v1,rfl,o1,b1⟩;have B1:Hid (Bw w w1):=qah (by go_grown) b1 (by simp;omega);obtain ⟨hc1,hf1⟩:=qal b1;have y1:w.heap.size+1<w1.heap.size:=by have:=b1.size;simp at this;omega
 have y0:w.heap.size<w1.heap.size:=by omega
 obtain ⟨ra1,rc1,rfl,_⟩:=o1.form;have s0:w1.cell? (aQ w.heap.size 0)=some (iV p):=by rw [hc1 _ _ (by simp;omega)];simp
 have s1:w1.cell? (aQ w.heap.size 1)=some (.slice ra rs.length rc):=by rw [hc1 _ _ (by simp;omega)];simp
 have s2:w1.cell? (aQ w.heap.size 2)=some (.slice oa os.length oc):=by rw [hc1 _ _ (by simp;omega)];simp
 have s3:w1.cell? (aQ w.heap.size 3)=some (iV code):=by rw [hc1 _ _ (by simp;omega)];simp
 have L1:Hid (∀ k,(Value.slice ra1 rs.length rc1).ownBlock=some k->w.heap.size+1<k/\k<w1.heap.size):=fun k hk=>by have:=o1.lt k hk;simp at this;omega
 have BS:Hid (Bw w (w1.setCell (aQ w.heap.size 1) (.slice ra1 rs.length rc1))):=B1.setCell (by simp) _
 have O1:Hid (OwnI (w1.setCell (aQ w.heap.size 1) (.slice ra1 rs.length rc1)) (w.heap.size+1+1) (.slice ra1 rs.length rc1) rs):=by
  simp only [World.size_alloc] at o1;exact o1.setBelow (by simp;omega) _
 clear o1 b1 B1;go_wp2_with fail
 refine (qfr oa oc os _ ho (H2.bw BS.out)).mono ?_;rintro e w2 ⟨v2,rfl,o2,b2⟩;have B2:Hid (Bw w w2):=qah BS.out b2 (by simp;omega);obtain ⟨hc2,hf2⟩:=qal b2;obtain ⟨oa2,oc2,rfl,_⟩:=o2.form;have O1':Hid (OwnI w2 (w.heap.size+1+1) (.slice ra1 rs.length rc1) rs):=O1.bw b2;simp only [World.size_setCell] at o2;have O2:Hid (OwnI w2 w1.heap.size (.slice oa2 os.length oc2) os):=o2;clear o2 b2 BS O1;go_wp2;refine bodyPost_ret (v:=stV p ra1 rs.length rc1 oa2 os.length oc2 code) (by simp [results,results144,go_sem,hc2,y1,hc1]) rfl ⟨_,rfl,⟨_,_,rfl,?_,?_,?_⟩,?_⟩
 ·refine OwnI.mono (B:=w.heap.size+1+1) ?_ (by omega)
  repeat (refine OwnI.setBelow ?_ (by simp<;>omega) _)
  exact O1'.out
 ·refine OwnI.mono (B:=w1.heap.size) ?_ (by omega)
  repeat (refine OwnI.setBelow ?_ (by simpa using by omega) _)
  exact O2.out
 ·intro k hk hk'
  have h1:=L1.out k hk;have h2:=O2.lt k hk';omega
 ·have:=B2.out
  go_grown
theorem qbw (p code:Int) (ra oa:Option Addr) (rc oc:Nat) (rs os:List Int) (w:World) (hr:rs.length<=1048576) (ho:os.length<=1048576) (h1:Sl w ra rs) (h2:Sl w oa os):
  Calls prog 130 #[stV p ra rs.length rc oa os.length oc code] w fun e w'=>∃ v,e=.returned v/\qac w' w.heap.size v p rs os code/\Bw w w':=by
 have H1:Hid (Sl w ra rs):=h1;have H2:Hid (Sl w oa os):=h2;clear h1 h2
 go_enter func130,ntmps130
 go_wp2_with (at_builtin;refine qdo rfl ?_)
 unfold STOP;refine qdm _ (N:=w.heap.size+1+1) (by simp) rfl _ _ rfl rc ra rs rfl rfl (H1.bw (by go_grown)) hr ?_;intro v1 w1 o1 b1;have B1:Hid (Bw w w1):=qah (by go_grown) b1 (by simp;omega);obtain ⟨hc1,hf1⟩:=qal b1;have y1:w.heap.size+1<w1.heap.size:=by have:=b1.size;simp at this;omega
 have y0:w.heap.size<w1.heap.size:=by omega
 obtain ⟨ra1,rc1,rfl,_⟩:=o1.form;have s0:w1.cell? (aQ w.heap.size 0)=some (iV p):=by rw [hc1 _ _ (by simp;omega)];simp
 have s1:w1.cell? (aQ w.heap.size 1)=some (.slice ra rs.length rc):=by rw [hc1 _ _ (by simp;omega)];simp
 have s2:w1.cell? (aQ w.heap.size 2)=some (.slice oa os.length oc):=by rw [hc1 _ _ (by simp;omega)];simp
 have s3:w1.cell? (aQ w.heap.size 3)=some (iV code):=by rw [hc1 _ _ (by simp;omega)];simp
 have L1:Hid (∀ k,(Value.slice ra1 rs.length rc1).ownBlock=some k->w.heap.size+1<k/\k<w1.heap.size):=fun k hk=>by have:=o1.lt k hk;simp at this;omega
 have BS:Hid (Bw w (w1.setCell (aQ w.heap.size 1) (.slice ra1 rs.length rc1))):=B1.setCell (by simp) _
 have O1:Hid (OwnI (w1.setCell (aQ w.heap.size 1) (.slice ra1 rs.length rc1)) (w.heap.size+1+1) (.slice ra1 rs.length rc1) rs):=by
  simp only [World.size_alloc] at o1;exact o1.setBelow (by simp;omega) _
 clear o1 b1 B1;go_wp2_with (at_builtin;refine qdo rfl ?_)
 unfold STOP;refine qdm (w1.setCell (aQ w.heap.size 1) (.slice ra1 rs.length rc1)) (N:=w1.heap.size) (by simp) rfl _ _ rfl oc oa os rfl rfl (H2.bw BS.out) ho ?_;intro v2 w2 o2 b2;have B2:Hid (Bw w w2):=qah BS.out b2 (by simp;omega);obtain ⟨hc2,hf2⟩:=qal b2;obtain ⟨oa2,oc2,rfl,_⟩:=o2.form;have O1':Hid (OwnI w2 (w.heap.size+1+1) (.slice ra1 rs.length rc1) rs):=O1.bw b2;simp only [World.size_setCell] at o2;have O2:Hid (OwnI w2 w1.heap.size (.slice oa2 os.length oc2) os):=o2;clear o2 b2 BS O1;go_wp2;refine bodyPost_ret (v:=stV p ra1 rs.length rc1 oa2 os.length oc2 code) (by simp [results,results130,go_sem,hc2,y1,hc1]) rfl ⟨_,rfl,⟨_,_,rfl,?_,?_,?_⟩,?_⟩
 ·refine OwnI.mono (B:=w.heap.size+1+1) ?_ (by omega)
  repeat (refine OwnI.setBelow ?_ (by simp<;>omega) _)
  exact O1'.out
 ·refine OwnI.mono (B:=w1.heap.size) ?_ (by omega)
  repeat (refine OwnI.setBelow ?_ (by simpa using by omega) _)
  exact O2.out
 ·intro k hk hk'
  have h1:=L1.out k hk;have h2:=O2.lt k hk';omega
 ·have:=B2.out
  go_grown
theorem qqg (n:Int):bits .and .i64 n 255=n % 256:=by
 have h255:(BitVec.ofInt 64 255).toNat=2 ^ 8 - 1:=by decide
 have key:(BitVec.ofInt 64 n &&& BitVec.ofInt 64 255).toNat=(n % ((2 ^ 64:Nat):Int)).toNat % 2 ^ 8:=by
  rw [BitVec.toNat_and,BitVec.toNat_ofInt,h255,Nat.and_two_pow_sub_one_eq_mod]
 show IntKind.i64.wrap ((BitVec.ofInt 64 n &&& BitVec.ofInt 64 255).toNat:Nat)=n % 256;rw [key,IntKind.wrap_i64];omega
def qb0 (w:World) (W0:Nat) (a0:Option Addr) (len:Nat):Prop:=
 len=0\/∃ b off,a0=some ⟨b,off,none⟩/\b<W0/\∀ j,j<len->∃ z:Int,w.cell? ⟨b,off+j,none⟩=some (.int .u8 z)/\0<=z/\z<=255
structure Cur (w:World) (W0 c:Nat) (a0:Option Addr) (len cap:Nat):Prop where
 ex:∃ (i:Nat) (h:Int),w.cell? (aQ c 0)=some (.slice a0 len cap)/\w.cell? (aQ c 1)=some (iV i)/\w.cell? (aQ c 2)=some (iV h)
 fr:∀ o,w.frozen? ⟨c,o,none⟩=false
 lt:c<w.heap.size
 ge:W0<=c
 by':qb0 w W0 a0 len
 ln:len<=1048576
theorem qb0.kept {w w':World} {W0 len:Nat} {a0:Option Addr} (h:qb0 w W0 a0 len) (hb:∀ k,k<W0->w'.heap[k]? = w.heap[k]?):qb0 w' W0 a0 len:=by
 rcases h with h | ⟨b,off,e,hlt,hz⟩
 ·exact .inl h
 ·refine .inr ⟨b,off,e,hlt,fun j hj=>?_⟩
  obtain ⟨z,hz1,hz2⟩:=hz j hj;exact ⟨z,(zH (hb b hlt)).trans hz1,hz2⟩
theorem Cur.kept {w w':World} {W0 c len cap:Nat} {a0:Option Addr} {row:Option Nat} (h:Cur w W0 c a0 len cap) (hg:w.grownBy w' row) (hne:some c≠row) (hr:∀ k,row=some k->W0<=k):Cur w' W0 c a0 len cap:=by
 have hc:=hg.block c h.lt hne;obtain ⟨i,hh,h0,h1,h2⟩:=h.ex;refine ⟨⟨i,hh,(zH hc).trans h0,(zH hc).trans h1,(zH hc).trans h2⟩,fun o=>(zI hc).trans (h.fr o),zL h.lt hg.size,h.ge,?_,h.ln⟩;exact h.by'.kept fun k hk=>hg.block k (Nat.lt_trans (zL hk h.ge) h.lt) (fun e=>by have:=hr k e.symm;omega)
theorem Cur.alloc {w:World} {W0 c len cap:Nat} {a0:Option Addr} (h:Cur w W0 c a0 len cap) (o:Obj):Cur (w.alloc o) W0 c a0 len cap:=
 h.kept (World.grownBy_alloc w o none) (by simp) (fun k hk=>by cases hk)
theorem qdr {w w':World} {row:Option Nat} (h:w.grownBy w' row) (n:Nat):w.grownBy (w'.drewN n) row:=⟨h.os,h.tape,h.output,h.size,h.block⟩
theorem zV {w w':World} {row:Option Nat} (h:w.grownBy w' row) {p:Addr} (hp:row=some p.block\/w.heap.size<=p.block) (v:Value):w.grownBy (w'.setCell p v) row:=
 ⟨h.os, h.tape, h.output, by simpa using h.size, fun k hk hne => by
  rw [Below.heap_setCell w' p v k (fun e => by
   subst e
   rcases hp with hp | hp
   ·exact hne hp.symm
   ·omega)]
  exact h.block k hk hne⟩
theorem Cur.drewN {w:World} {W0 c len cap:Nat} {a0:Option Addr} (h:Cur w W0 c a0 len cap) (n:Nat):Cur (w.drewN n) W0 c a0 len cap:=⟨h.ex,h.fr,h.lt,h.ge,h.by',h.ln⟩
theorem Cur.drew {w:World} {W0 c len cap:Nat} {a0:Option Addr} (h:Cur w W0 c a0 len cap):Cur w.drew W0 c a0 len cap:=⟨h.ex,h.fr,h.lt,h.ge,h.by',h.ln⟩
theorem Cur.bytesSet {w:World} {W0 c len cap:Nat} {a0:Option Addr} (h:Cur w W0 c a0 len cap) (o:Nat) (v:Value):qb0 (w.setCell (aQ c o) v) W0 a0 len:=
 h.by'.kept fun k hk=>zO w ⟨c,o,none⟩ v k (fun e=>by have:=h.ge;simp at e;omega)
theorem Cur.set2 {w:World} {W0 c len cap:Nat} {a0:Option Addr} (h:Cur w W0 c a0 len cap) (x:Int):Cur (w.setCell (aQ c 2) (iV x)) W0 c a0 len cap:=by
 obtain ⟨i,y,h0,h1,h2⟩:=h.ex;exact ⟨⟨i,x,by go_cell,by go_cell,by go_cell⟩,fun o=>by simpa using h.fr o,by simpa using h.lt,h.ge,h.bytesSet _ _,h.ln⟩
theorem Cur.set1 {w:World} {W0 c len cap:Nat} {a0:Option Addr} (h:Cur w W0 c a0 len cap) (x:Int) (hx:0<=x):Cur (w.setCell (aQ c 1) (iV x)) W0 c a0 len cap:=by
 obtain ⟨i,y,h0,h1,h2⟩:=h.ex;obtain ⟨k,rfl⟩:=Int.eq_ofNat_of_zero_le hx;exact ⟨⟨k,y,by go_cell,by go_cell,by go_cell⟩,fun o=>by simpa using h.fr o,by simpa using h.lt,h.ge,h.bytesSet _ _,h.ln⟩
theorem qdj (W0 c len cap:Nat) (a0:Option Addr) (w:World) (hc:Cur w W0 c a0 len cap):
  Calls prog 67 #[.pointer (some (aQ c 0))] w fun e w'=>∃ x:Int,e=.returned (iV x)/\(0<=x/\x<=255)/\Cur w' W0 c a0 len cap/\w.grownBy w' (some c):=by
 have HCur:Hid (Cur w W0 c a0 len cap):=hc;obtain ⟨⟨i,h,c0,c1,c2⟩,fr,lt,ge,hby,ln⟩:=hc;have f1:=fr 1;have f2:=fr 2;have ln':(len:Int)<=1048576:=by omega
 have HB:Hid (qb0 w W0 a0 len):=hby;clear hby fr;have hand:=qqg;by_cases hil:i<len
 ·have hil':(i:Int)<(len:Int):=by omega
  rcases HB.out with hb | ⟨b,off,rfl,hbW,hz⟩
  ·omega
  obtain ⟨z,cz,z0,z1⟩:=hz i hil;have hbc:b≠c:=by omega
  clear hz
  go_enter func67,ntmps67
  go_wp2;generalize wrap64 (wrap64 (h*6364136223846793005)+1442695040888963407)=h2
  go_quiet (fail)
  go_wp2
  go_quiet (fail)
  go_wp2
  go_quiet (fail)
  go_wp2;go_ret;refine ⟨_,rfl,by omega,?_,?_⟩
  ·exact ((HCur.set2 h2).drewN _).set1 ((i:Int)+1) (by omega)
  ·exact zV (p:=(aQ c 1)) (qdr (zV (p:=(aQ c 2)) (World.grownBy.refl w (some c)) (.inl rfl) _) _) (.inl rfl) _
 ·have hil':¬ ((i:Int)<(len:Int)):=by omega
  go_enter func67,ntmps67
  go_wp2;generalize wrap64 (wrap64 (h*6364136223846793005)+1442695040888963407)=h2
  go_quiet (fail)
  go_wp2
  go_quiet (fail)
  go_wp2;go_ret;refine ⟨_,rfl,by omega,?_,?_⟩
  ·exact ((HCur.set2 h2).drewN _).drewN _
  ·exact qdr (qdr (zV (World.grownBy.refl _ _) (.inl rfl) _) _) _
theorem zY (W0 c len cap:Nat) (a0:Option Addr) (n:Int) (w:World) (hc:Cur w W0 c a0 len cap) (n1:1<=n) (n2:n<=256):
  Calls prog 31 #[.pointer (some (aQ c 0)),iV n] w fun e w'=>∃ x:Int,e=.returned (iV x)/\(0<=x/\x<n)/\Cur w' W0 c a0 len cap/\w.grownBy w' (some c):=by
 have n3:¬ n<=0:=by omega
 have n4:(n == 0)=false:=by simp;omega
 have HCur:Hid (Cur w W0 c a0 len cap):=hc;clear hc
 go_enter func31,ntmps31
 go_wp2_with fail
 refine (qdj W0 c len cap a0 _ HCur.out).mono ?_;rintro e w1 ⟨x,rfl,⟨x0,x1⟩,hc1,hg1⟩;have HC1:Hid (Cur w1 W0 c a0 len cap):=hc1;have HG1:Hid (w.grownBy w1 (some c)):=hg1;clear hc1 hg1;go_wp2;go_ret;exact ⟨_,rfl,⟨Int.emod_nonneg _ (by omega),Int.emod_lt_of_pos _ (by omega)⟩,HC1.out,HG1.out⟩
theorem qb3 (W0 c len cap:Nat) (a0:Option Addr) (n:Int) (w:World) (hc:Cur w W0 c a0 len cap) (n1:1<=n) (n2:n<=256):
  Calls prog 37 #[.pointer (some (aQ c 0)),iV n] w fun e w'=>∃ x:Bool,e=.returned (.bool x)/\Cur w' W0 c a0 len cap/\w.grownBy w' (some c):=by
 have HCur:Hid (Cur w W0 c a0 len cap):=hc;clear hc
 go_enter func37,ntmps37
 go_wp2_with fail
 refine (zY W0 c len cap a0 _ _ HCur.out n1 n2).mono ?_;rintro e w1 ⟨x,rfl,_,hc1,hg1⟩;have HC1:Hid (Cur w1 W0 c a0 len cap):=hc1;have HG1:Hid (w.grownBy w1 (some c)):=hg1;clear hc1 hg1;go_wp2;go_ret;exact ⟨_,rfl,HC1.out,HG1.out⟩
def qh0 (w:World) (b len:Nat) (z:Nat->Int):Prop:=∀ j,j<len->w.cell? ⟨b,j,none⟩=some (iV (z j))
theorem qg9 (W0 c len cap b m mc:Nat) (a0:Option Addr) (z:Nat->Int) (w:World) (hc:Cur w W0 c a0 len cap) (n1:1<=m) (n2:m<=256) (hb:b<w.heap.size) (hne:b≠c) (hz:qh0 w b m z):
  Calls prog 32 #[.pointer (some (aQ c 0)),.slice (some (aQ b 0)) m mc] w fun e w'=>∃ k:Nat,k<m/\e=.returned (iV (z k))/\Cur w' W0 c a0 len cap/\w.grownBy w' (some c):=by
 have HCur:Hid (Cur w W0 c a0 len cap):=hc;have HZ:Hid (qh0 w b m z):=hz;clear hc hz
 go_enter func32,ntmps32
 go_wp2_with fail
 refine (zY W0 c len cap a0 _ _ HCur.out (by omega) (by omega)).mono ?_;rintro e w1 ⟨x,rfl,⟨x0,x1⟩,hc1,hg1⟩;obtain ⟨k,rfl⟩:=Int.eq_ofNat_of_zero_le x0;have cz:w1.cell? (aQ b k)=some (iV (z k)):=(zH (hg1.block b hb (by simp [hne]))).trans (HZ.out k (by omega));have HC1:Hid (Cur w1 W0 c a0 len cap):=hc1;have HG1:Hid (w.grownBy w1 (some c)):=hg1;clear hc1 hg1;go_wp2;go_ret;exact ⟨k,by omega,rfl,HC1.out,HG1.out⟩
theorem qfw (W0 c len cap b m mc:Nat) (a0:Option Addr) (z:Nat->Int) (w:World) (hc:Cur w W0 c a0 len cap) (n1:1<=m) (n2:m<=256) (hb:b<w.heap.size) (hne:b≠c) (hz:qh0 w b m z):
  Calls prog 32 #[.pointer (some (aQ c 0)),.slice (some (aQ b 0)) m mc] w fun e w'=>∃ x:Int,e=.returned (iV x)/\Cur w' W0 c a0 len cap/\w.grownBy w' (some c):=by
 refine (qg9 W0 c len cap b m mc a0 z w hc n1 n2 hb hne hz).mono ?_;rintro e w' ⟨k,-,he,h⟩;exact ⟨_,he,h⟩
theorem qbt {w w':World} (h:w.grownBy w' none) (row:Option Nat):w.grownBy w' row:=⟨h.os,h.tape,h.output,h.size,fun k hk _=>h.block k hk (by simp)⟩
theorem OwnI.drewN {w:World} {B:Nat} {v:Value} {xs:List Int} (h:OwnI w B v xs) (n:Nat):OwnI (w.drewN n) B v xs:=h
theorem OwnI.setOther {w:World} {B:Nat} {v:Value} {xs:List Int} (h:OwnI w B v xs) {p:Addr} (hne:v.ownBlock≠some p.block) (u:Value):OwnI (w.setCell p u) B v xs:=
 h.kept (row:=some p.block) (zV (World.grownBy.refl w _) (.inl rfl) u) (.inr hne)
theorem zT (w:World) (o:Obj):Bw w (w.alloc o):=(nE _ _).alloc (nA _) o
theorem qfe (p code:Int) (ra oa:Option Addr) (rn rc on oc:Nat) (w:World):
  Calls prog 132 #[stV p ra rn rc oa on oc code] w (rB w (stV p ra rn rc oa on oc 2)):=by
 go_enter func132,ntmps132
 go_wp2;refine bodyPost_ret (v:=stV p ra rn rc oa on oc 2) (by simp [results,results132,go_sem]) rfl ⟨rfl,?_⟩
 go_grown
theorem qev (la:Option Addr) (len lc:Nat) (p code:Int) (ra oa:Option Addr) (rn rc on oc:Nat) (w:World) (h0:0<=p) (h1:p<=1000000000):
  Calls prog 131 #[.slice la len lc,stV p ra rn rc oa on oc code] w (rB w (stV (goP len p) ra rn rc oa on oc (goC len p code))):=by
 by_cases hp:(len:Int)<=p+1
 ·have e1:goP len p=p:=nC hp
  have e2:goC len p code=2:=nC hp;rw [e1,e2];clear e1 e2
  go_enter func131,ntmps131
  go_wp2_with fail
  refine (qfe _ _ _ _ _ _ _ _ _).mono ?_;rintro e w1 ⟨rfl,b1⟩;have B1:Hid (Bw w w1):=qah (by go_grown) b1 (by simp;omega);obtain ⟨hc1,hf1⟩:=qal b1;clear b1;go_wp2;refine bodyPost_ret (v:=stV p ra rn rc oa on oc 2) (by simp [results,results131,go_sem,hc1]) rfl ⟨rfl,?_⟩;have:=B1.out
  go_grown
 ·have e1:goP len p=p+1:=nB hp
  have e2:goC len p code=code:=nB hp;rw [e1,e2];clear e1 e2
  go_enter func131,ntmps131
  go_wp2;refine bodyPost_ret (v:=stV (p+1) ra rn rc oa on oc code) (by simp [results,results131,go_sem]) rfl ⟨rfl,?_⟩
  go_grown
theorem qdk (b off len cap k:Nat) (g:Nat->I5) (G rc:Nat) (oa:Option Addr) (on oc:Nat) (code:Int) (rs:List Int) (B:Nat) (w:World) (hl:(len:Int)<=30) (hb:b<w.heap.size) (hI:qaq w b off len g) (hO:OwnI w B (sG G 4 rc) rs) (h4:rs.length=4) (hk:k<len) (jr ja jb:Nat) (hr:(g k).r=jr) (ha:(g k).a=ja) (hbb:(g k).b=jb) (jr3:jr<4) (ja3:ja<4) (jb3:jb<4) (hnum:∀ j,j<4->numB (zi rs j)=true) (os:List Int) (o V:Int) (ho:(g k).o=o) (hV:(o=1/\V=(g k).n)\/(o=2/\V=zi rs ja+zi rs jb)\/(o=3/\V=zi rs ja - zi rs jb)\/(o=4/\V=zi rs ja*zi rs jb)\/(o=5/\V=1/\zi rs ja<zi rs jb)\/(o=5/\V=0/\¬ zi rs ja<zi rs jb)):
  Calls prog 133 #[.slice (some (aQ b off)) len cap,stV k (some (aQ G 0)) 4 rc oa on oc code] w fun e w'=>e=.returned (stV (qaf len (g k) k rs os code 0).p (some (aQ G 0)) 4 rc oa on oc (qaf len (g k) k rs os code 0).c)/\OwnI w' B (sG G 4 rc) (qaf len (g k) k rs os code 0).rs/\w.grownBy w' (some G):=by
 have hk':(k:Int)<(len:Int):=by omega
 obtain ⟨c0,c1,c2,c3,c4⟩:=hI k hk;rw [hr] at c1;rw [ha] at c2;rw [hbb] at c3;have hGl:G<w.heap.size:=(hO.lt G rfl).2;have HO:Hid (OwnI w B (sG G 4 rc) rs):=hO;have ca:w.cell? (aQ G ja)=some (iV (zi rs ja)):=by rw [<- h4] at hO ja3;exact hO.cell ja3
 have cb:w.cell? (aQ G jb)=some (iV (zi rs jb)):=by rw [<- h4] at hO jb3;exact hO.cell jb3
 have cr:w.cell? (aQ G jr)=some (iV (zi rs jr)):=by rw [<- h4] at hO jr3;exact hO.cell jr3
 have fr:w.frozen? (aQ G jr)=false:=by rw [<- h4] at hO;exact hO.frozen jr
 have na:=qbp.1 (hnum ja ja3);have nb:=qbp.1 (hnum jb jb3);have mb:=qcx (hnum ja ja3) (hnum jb jb3);obtain ⟨na1,na2⟩:=na;obtain ⟨nb1,nb2⟩:=nb;obtain ⟨mb1,mb2⟩:=mb;have hG1:G<w.heap.size+1:=by omega
 have hG2:G<w.heap.size+1+1:=by omega
 have jr':(jr:Int)<4:=by omega
 have ja':(ja:Int)<4:=by omega
 have jb':(jb:Int)<4:=by omega
 have hn0:-1000000000<=(g k).n\/True:=.inr trivial;have HH:Hid (rs.length=4/\(g k).r=jr/\(g k).a=ja/\(g k).b=jb/\(g k).o=o):=⟨h4,hr,ha,hbb,ho⟩
 have hv:qjm (g k).o (zi rs (g k).a.toNat) (zi rs (g k).b.toNat) (g k).n=V:=by
  have e1:(g k).a.toNat=ja:=by rw [HH.2.2.1];exact nF ja
  have e2:(g k).b.toNat=jb:=by rw [HH.2.2.2.1];exact nF jb
  rw [HH.2.2.2.2,e1,e2]
  rcases hV with ⟨rfl,rfl⟩ | ⟨rfl,rfl⟩ | ⟨rfl,rfl⟩ | ⟨rfl,rfl⟩ | ⟨rfl,rfl,h⟩ | ⟨rfl,rfl,h⟩
  ·rfl
  ·rfl
  ·rfl
  ·rfl
  ·exact nC h
  ·exact nB h
 have er:(g k).r.toNat=jr:=by rw [HH.2.1];exact nF jr
 have h6:o<=5:=by
  rcases hV with h | h | h | h | h | h
  all_goals omega
 have HF:Hid (∀ (ob:Obj) nq,Bw w ((((w.alloc (oQ0 k (some ⟨G,0,none⟩) 4 rc oa on oc code)).alloc (zQ0)).alloc ob).drewN nq)/\OwnI (((((w.alloc (oQ0 k (some ⟨G,0,none⟩) 4 rc oa on oc code)).alloc (zQ0)).alloc ob).drewN nq).setCell ⟨G,jr,none⟩ (iV V)) B (sG G 4 rc) (rs.set jr V)/\w.grownBy (((((w.alloc (oQ0 k (some ⟨G,0,none⟩) 4 rc oa on oc code)).alloc (zQ0)).alloc ob).drewN nq).setCell ⟨G,jr,none⟩ (iV V)) (some G)):=fun ob nq=>by
  have hbW:Bw w (((w.alloc (oQ0 k (some (aQ G 0)) 4 rc oa on oc code)).alloc (zQ0)).alloc ob):=by go_grown
  exact ⟨yC hbW nq,(((HO.bw hbW).drewN nq).set HH.1.symm jr _).1,zV (p:=(aQ G jr)) (qdr (qbt (zZ hbW) _) nq) (.inl rfl) _⟩
 have hd:qaf len (g k) k rs os code 0=if numB V=true then goS len k (rs.set jr V) os code else ⟨k,rs,os,2⟩:=by
  unfold qaf;rw [HH.2.2.2.2] at hv ⊢;rw [nB (by omega),nB (by omega),nB (by omega),nB (by omega),nB (by omega),nB (by omega),hv,er]
 rcases zK (numB V) with tn | tn
 ·rw [nC tn] at hd
  rw [hd];have tn1:inB V (-1000000000) 1000000000=true:=tn;clear hd hv tn er hr ha hbb hnum hI hO h4 h6
  rcases hV with ⟨rfl,rfl⟩ | ⟨rfl,rfl⟩ | ⟨rfl,rfl⟩ | ⟨rfl,rfl⟩ | ⟨rfl,rfl,hab⟩ | ⟨rfl,rfl,hab⟩
  all_goals
   rw [ho] at c0;clear ho
   go_enter func133,ntmps133
   go_wp2_with fail
   go_quiet (fail)
   go_wp2_with (go_at_call 90;refine (l1Num_any _ _).mono ?_;rintro e w' ⟨rfl,rfl⟩)
   refine (qev _ _ _ _ _ _ _ _ _ _ _ _ (by omega) (by omega)).mono ?_;rintro e w1 ⟨rfl,b1⟩;obtain ⟨hc1,hf1⟩:=qal b1;have HW1:Hid (OwnI w1 B (sG G 4 rc) (rs.set jr _)/\w.grownBy w1 (some G)):=⟨(HF.out _ _).2.1.bw b1,(HF.out _ _).2.2.trans (qbt (zZ b1) _)⟩
   clear b1 HF;go_wp2;refine bodyPost_ret (v:=stV (goP len k) (some ⟨G,0,none⟩) 4 rc oa on oc (goC len k code)) (by simp [results,results133,go_sem,hc1]) rfl ⟨rfl,?_,?_⟩
   ·repeat (refine OwnI.setOther ?_ (by simp [Value.ownBlock];omega) _)
    exact HW1.1
   ·repeat (refine zV ?_ (.inr (by simp)) _)
    exact HW1.2
 ·rw [nB (by rw [tn];decide)] at hd
  rw [hd];have tn1:inB V (-1000000000) 1000000000=false:=tn;clear hd hv tn er hr ha hbb hnum hI hO h4 h6
  rcases hV with ⟨rfl,rfl⟩ | ⟨rfl,rfl⟩ | ⟨rfl,rfl⟩ | ⟨rfl,rfl⟩ | ⟨rfl,rfl,hab⟩ | ⟨rfl,rfl,hab⟩
  all_goals (try exact absurd tn1 (by decide))
  all_goals
   rw [ho] at c0;clear ho
   go_enter func133,ntmps133
   go_wp2_with fail
   go_quiet (fail)
   go_wp2_with (go_at_call 90;refine (l1Num_any _ _).mono ?_;rintro e w' ⟨rfl,rfl⟩)
   refine (qfe _ _ _ _ _ _ _ _ _).mono ?_;rintro e w1 ⟨rfl,b1⟩;obtain ⟨hc1,hf1⟩:=qal b1;have b1':Bw w w1:=(HF.out _ _).1.trans (b1.mono (HF.out _ _).1.size);have HW1:Hid (OwnI w1 B (sG G 4 rc) rs/\w.grownBy w1 (some G)):=⟨HO.bw b1',qbt (zZ b1') _⟩
   clear b1 b1' HF;go_wp2;refine bodyPost_ret (v:=stV k (some ⟨G,0,none⟩) 4 rc oa on oc 2) (by simp [results,results133,go_sem,hc1]) rfl ⟨rfl,?_,?_⟩
   ·repeat (refine OwnI.setOther ?_ (by simp [Value.ownBlock];omega) _)
    exact HW1.1
   ·repeat (refine zV ?_ (.inr (by simp)) _)
    exact HW1.2
theorem qsk (b off len cap k:Nat) (g:Nat->I5) (G rc:Nat) (oa:Option Addr) (on oc:Nat) (code:Int) (rs:List Int) (B:Nat) (w:World) (_hl:(len:Int)<=30) (hb:b<w.heap.size) (hI:qaq w b off len g) (hO:OwnI w B (sG G 4 rc) rs) (h4:rs.length=4) (hk:k<len) (jr ja jb:Nat) (hr:(g k).r=jr) (ha:(g k).a=ja) (hbb:(g k).b=jb) (jr3:jr<4) (ja3:ja<4) (jb3:jb<4) (ho:(g k).o=9) (hnum:∀ j,j<4->numB (zi rs j)=true) (os:List Int):
  Calls prog 133 #[.slice (some (aQ b off)) len cap,stV k (some (aQ G 0)) 4 rc oa on oc code] w fun e w'=>e=.returned (stV (qaf len (g k) k rs os code 0).p (some (aQ G 0)) 4 rc oa on oc (qaf len (g k) k rs os code 0).c)/\OwnI w' B (sG G 4 rc) (qaf len (g k) k rs os code 0).rs/\w.grownBy w' (some G):=by
 have hk':(k:Int)<(len:Int):=by omega
 obtain ⟨c0,c1,c2,c3,c4⟩:=hI k hk;rw [ho] at c0;rw [hr] at c1;rw [ha] at c2;rw [hbb] at c3;have hGl:G<w.heap.size:=(hO.lt G rfl).2;have HO:Hid (OwnI w B (sG G 4 rc) rs):=hO;have ca:w.cell? (aQ G ja)=some (iV (zi rs ja)):=by rw [<- h4] at hO ja3;exact hO.cell ja3
 have cb:w.cell? (aQ G jb)=some (iV (zi rs jb)):=by rw [<- h4] at hO jb3;exact hO.cell jb3
 have cr:w.cell? (aQ G jr)=some (iV (zi rs jr)):=by rw [<- h4] at hO jr3;exact hO.cell jr3
 have fr:w.frozen? (aQ G jr)=false:=by rw [<- h4] at hO;exact hO.frozen jr
 have na:=qbp.1 (hnum ja ja3);have nb:=qbp.1 (hnum jb jb3);have mb:=qcx (hnum ja ja3) (hnum jb jb3);obtain ⟨na1,na2⟩:=na;obtain ⟨nb1,nb2⟩:=nb;obtain ⟨mb1,mb2⟩:=mb;have hG1:G<w.heap.size+1:=by omega
 have hG2:G<w.heap.size+1+1:=by omega
 have jr':(jr:Int)<4:=by omega
 have ja':(ja:Int)<4:=by omega
 have jb':(jb:Int)<4:=by omega
 have hn0:-1000000000<=(g k).n\/True:=.inr trivial;have HH:Hid (rs.length=4/\(g k).r=jr/\(g k).a=ja/\(g k).b=jb/\(g k).o=9):=⟨h4,hr,ha,hbb,ho⟩
 have ea:(g k).a.toNat=ja:=by rw [HH.2.2.1];exact nF ja
 have hd:qaf len (g k) k rs os code 0=⟨(g k).n,rs,os,code⟩:=by
  unfold qaf;rw [HH.2.2.2.2];rw [nB (by decide),nB (by decide),nB (by decide),nC rfl]
 rw [hd];clear hd ea hr ha hbb ho hnum hI hO h4
 go_enter func133,ntmps133
 go_wp2_with fail
 go_quiet (fail)
 have s0:((((w.alloc (oQ0 k (some (aQ G 0)) 4 rc oa on oc code)).alloc (zQ0)).alloc (oQ1 9 jr ja jb (g k).n)).drewN nq).cell? (aQ w.heap.size 0)=some (iV k):=(zS (w:=(w.alloc (oQ0 k (some (aQ G 0)) 4 rc oa on oc code)).alloc (zQ0)) _ _ (by simp;omega)).trans ((zS (w:=w.alloc (oQ0 k (some (aQ G 0)) 4 rc oa on oc code)) _ _ (by simp)).trans (by simp));have s1:((((w.alloc (oQ0 k (some (aQ G 0)) 4 rc oa on oc code)).alloc (zQ0)).alloc (oQ1 9 jr ja jb (g k).n)).drewN nq).cell? (aQ w.heap.size 1)=some (sG G 4 rc):=(zS (w:=(w.alloc (oQ0 k (some (aQ G 0)) 4 rc oa on oc code)).alloc (zQ0)) _ _ (by simp;omega)).trans ((zS (w:=w.alloc (oQ0 k (some (aQ G 0)) 4 rc oa on oc code)) _ _ (by simp)).trans (by simp));have s2:((((w.alloc (oQ0 k (some (aQ G 0)) 4 rc oa on oc code)).alloc (zQ0)).alloc (oQ1 9 jr ja jb (g k).n)).drewN nq).cell? (aQ w.heap.size 2)=some (.slice oa on oc):=(zS (w:=(w.alloc (oQ0 k (some (aQ G 0)) 4 rc oa on oc code)).alloc (zQ0)) _ _ (by simp;omega)).trans ((zS (w:=w.alloc (oQ0 k (some (aQ G 0)) 4 rc oa on oc code)) _ _ (by simp)).trans (by simp));have s3:((((w.alloc (oQ0 k (some (aQ G 0)) 4 rc oa on oc code)).alloc (zQ0)).alloc (oQ1 9 jr ja jb (g k).n)).drewN nq).cell? (aQ w.heap.size 3)=some (iV code):=(zS (w:=(w.alloc (oQ0 k (some (aQ G 0)) 4 rc oa on oc code)).alloc (zQ0)) _ _ (by simp;omega)).trans ((zS (w:=w.alloc (oQ0 k (some (aQ G 0)) 4 rc oa on oc code)) _ _ (by simp)).trans (by simp));go_wp2;have hbW:Bw w ((((w.alloc (oQ0 k (some (aQ G 0)) 4 rc oa on oc code)).alloc (zQ0)).alloc (oQ1 9 jr ja jb (g k).n)).drewN nq):=yC (by go_grown) nq
 have HW1:Hid (OwnI ((((w.alloc (oQ0 k (some (aQ G 0)) 4 rc oa on oc code)).alloc (zQ0)).alloc (oQ1 9 jr ja jb (g k).n)).drewN nq) B (sG G 4 rc) rs/\w.grownBy ((((w.alloc (oQ0 k (some (aQ G 0)) 4 rc oa on oc code)).alloc (zQ0)).alloc (oQ1 9 jr ja jb (g k).n)).drewN nq) (some G)):=⟨HO.bw hbW,qbt (zZ hbW) _⟩
 refine bodyPost_ret (v:=stV (g k).n (some ⟨G,0,none⟩) 4 rc oa on oc code) (by simp [results,results133,go_sem]) rfl ⟨rfl,?_,?_⟩
 ·repeat (refine OwnI.setOther ?_ (by simp [Value.ownBlock];omega) _)
  exact HW1.1
 ·repeat (refine zV ?_ (.inr (by simp)) _)
  exact HW1.2
theorem qqp (b off len cap k:Nat) (g:Nat->I5) (G rc:Nat) (oa:Option Addr) (on oc:Nat) (code:Int) (rs:List Int) (B:Nat) (w:World) (hl:(len:Int)<=30) (hb:b<w.heap.size) (hI:qaq w b off len g) (hO:OwnI w B (sG G 4 rc) rs) (h4:rs.length=4) (hk:k<len) (jr ja jb:Nat) (hr:(g k).r=jr) (ha:(g k).a=ja) (hbb:(g k).b=jb) (jr3:jr<4) (ja3:ja<4) (jb3:jb<4) (ho:(g k).o=10) (hnum:∀ j,j<4->numB (zi rs j)=true) (os:List Int):
  Calls prog 133 #[.slice (some (aQ b off)) len cap,stV k (some (aQ G 0)) 4 rc oa on oc code] w fun e w'=>e=.returned (stV (qaf len (g k) k rs os code 0).p (some (aQ G 0)) 4 rc oa on oc (qaf len (g k) k rs os code 0).c)/\OwnI w' B (sG G 4 rc) (qaf len (g k) k rs os code 0).rs/\w.grownBy w' (some G):=by
 have hk':(k:Int)<(len:Int):=by omega
 obtain ⟨c0,c1,c2,c3,c4⟩:=hI k hk;rw [ho] at c0;rw [hr] at c1;rw [ha] at c2;rw [hbb] at c3;have hGl:G<w.heap.size:=(hO.lt G rfl).2;have HO:Hid (OwnI w B (sG G 4 rc) rs):=hO;have ca:w.cell? (aQ G ja)=some (iV (zi rs ja)):=by rw [<- h4] at hO ja3;exact hO.cell ja3
 have cb:w.cell? (aQ G jb)=some (iV (zi rs jb)):=by rw [<- h4] at hO jb3;exact hO.cell jb3
 have cr:w.cell? (aQ G jr)=some (iV (zi rs jr)):=by rw [<- h4] at hO jr3;exact hO.cell jr3
 have fr:w.frozen? (aQ G jr)=false:=by rw [<- h4] at hO;exact hO.frozen jr
 have na:=qbp.1 (hnum ja ja3);have nb:=qbp.1 (hnum jb jb3);have mb:=qcx (hnum ja ja3) (hnum jb jb3);obtain ⟨na1,na2⟩:=na;obtain ⟨nb1,nb2⟩:=nb;obtain ⟨mb1,mb2⟩:=mb;have hG1:G<w.heap.size+1:=by omega
 have hG2:G<w.heap.size+1+1:=by omega
 have jr':(jr:Int)<4:=by omega
 have ja':(ja:Int)<4:=by omega
 have jb':(jb:Int)<4:=by omega
 have hn0:-1000000000<=(g k).n\/True:=.inr trivial;have HH:Hid (rs.length=4/\(g k).r=jr/\(g k).a=ja/\(g k).b=jb/\(g k).o=10):=⟨h4,hr,ha,hbb,ho⟩
 have ea:(g k).a.toNat=ja:=by rw [HH.2.2.1];exact nF ja
 rcases zK (zi rs ja == 0) with t0 | t0
 ·have z0:zi rs ja=0:=by simpa using t0
  have hd:qaf len (g k) k rs os code 0=⟨(g k).n,rs,os,code⟩:=by
   unfold qaf;rw [HH.2.2.2.2];rw [nB (by decide),nB (by decide),nB (by decide),nB (by decide),nC rfl,ea,nC z0]
  rw [hd];clear z0;clear hd ea hr ha hbb ho hnum hI hO h4
  go_enter func133,ntmps133
  go_wp2_with fail
  go_quiet (fail)
  have s0:((((w.alloc (oQ0 k (some (aQ G 0)) 4 rc oa on oc code)).alloc (zQ0)).alloc (oQ1 10 jr ja jb (g k).n)).drewN nq).cell? (aQ w.heap.size 0)=some (iV k):=(zS (w:=(w.alloc (oQ0 k (some (aQ G 0)) 4 rc oa on oc code)).alloc (zQ0)) _ _ (by simp;omega)).trans ((zS (w:=w.alloc (oQ0 k (some (aQ G 0)) 4 rc oa on oc code)) _ _ (by simp)).trans (by simp));have s1:((((w.alloc (oQ0 k (some (aQ G 0)) 4 rc oa on oc code)).alloc (zQ0)).alloc (oQ1 10 jr ja jb (g k).n)).drewN nq).cell? (aQ w.heap.size 1)=some (sG G 4 rc):=(zS (w:=(w.alloc (oQ0 k (some (aQ G 0)) 4 rc oa on oc code)).alloc (zQ0)) _ _ (by simp;omega)).trans ((zS (w:=w.alloc (oQ0 k (some (aQ G 0)) 4 rc oa on oc code)) _ _ (by simp)).trans (by simp));have s2:((((w.alloc (oQ0 k (some (aQ G 0)) 4 rc oa on oc code)).alloc (zQ0)).alloc (oQ1 10 jr ja jb (g k).n)).drewN nq).cell? (aQ w.heap.size 2)=some (.slice oa on oc):=(zS (w:=(w.alloc (oQ0 k (some (aQ G 0)) 4 rc oa on oc code)).alloc (zQ0)) _ _ (by simp;omega)).trans ((zS (w:=w.alloc (oQ0 k (some (aQ G 0)) 4 rc oa on oc code)) _ _ (by simp)).trans (by simp));have s3:((((w.alloc (oQ0 k (some (aQ G 0)) 4 rc oa on oc code)).alloc (zQ0)).alloc (oQ1 10 jr ja jb (g k).n)).drewN nq).cell? (aQ w.heap.size 3)=some (iV code):=(zS (w:=(w.alloc (oQ0 k (some (aQ G 0)) 4 rc oa on oc code)).alloc (zQ0)) _ _ (by simp;omega)).trans ((zS (w:=w.alloc (oQ0 k (some (aQ G 0)) 4 rc oa on oc code)) _ _ (by simp)).trans (by simp));go_wp2;have hbW:Bw w ((((w.alloc (oQ0 k (some (aQ G 0)) 4 rc oa on oc code)).alloc (zQ0)).alloc (oQ1 10 jr ja jb (g k).n)).drewN nq):=yC (by go_grown) nq
  have HW1:Hid (OwnI ((((w.alloc (oQ0 k (some (aQ G 0)) 4 rc oa on oc code)).alloc (zQ0)).alloc (oQ1 10 jr ja jb (g k).n)).drewN nq) B (sG G 4 rc) rs/\w.grownBy ((((w.alloc (oQ0 k (some (aQ G 0)) 4 rc oa on oc code)).alloc (zQ0)).alloc (oQ1 10 jr ja jb (g k).n)).drewN nq) (some G)):=⟨HO.bw hbW,qbt (zZ hbW) _⟩
  refine bodyPost_ret (v:=stV (g k).n (some ⟨G,0,none⟩) 4 rc oa on oc code) (by simp [results,results133,go_sem]) rfl ⟨rfl,?_,?_⟩
  ·repeat (refine OwnI.setOther ?_ (by simp [Value.ownBlock];omega) _)
   exact HW1.1
  ·repeat (refine zV ?_ (.inr (by simp)) _)
   exact HW1.2
 ·have z0:¬ zi rs ja=0:=by simpa using t0
  have hd:qaf len (g k) k rs os code 0=goS len k rs os code:=by
   unfold qaf;rw [HH.2.2.2.2];rw [nB (by decide),nB (by decide),nB (by decide),nB (by decide),nC rfl,ea,nB z0]
  rw [hd];clear z0;clear hd ea hr ha hbb ho hnum hI hO h4
  go_enter func133,ntmps133
  go_wp2_with fail
  go_quiet (fail)
  go_wp2_with fail
  have hbW:Bw w ((((w.alloc (oQ0 k (some (aQ G 0)) 4 rc oa on oc code)).alloc (zQ0)).alloc (oQ1 10 jr ja jb (g k).n)).drewN nq):=yC (by go_grown) nq;refine (qev _ _ _ _ _ _ _ _ _ _ _ _ (by omega) (by omega)).mono ?_;rintro e w1 ⟨rfl,b1⟩;obtain ⟨hc1,hf1⟩:=qal b1;have b1':Bw w w1:=hbW.trans (b1.mono hbW.size);have HW1:Hid (OwnI w1 B (sG G 4 rc) rs/\w.grownBy w1 (some G)):=⟨HO.bw b1',qbt (zZ b1') _⟩
  clear b1 b1' hbW;go_wp2;refine bodyPost_ret (v:=stV (goP len k) (some ⟨G,0,none⟩) 4 rc oa on oc (goC len k code)) (by simp [results,results133,go_sem,hc1]) rfl ⟨rfl,?_,?_⟩
  ·repeat (refine OwnI.setOther ?_ (by simp [Value.ownBlock];omega) _)
   exact HW1.1
  ·repeat (refine zV ?_ (.inr (by simp)) _)
   exact HW1.2
theorem qqq (b off len cap k:Nat) (g:Nat->I5) (G rc:Nat) (oa:Option Addr) (on oc:Nat) (code:Int) (rs:List Int) (B:Nat) (w:World) (_hl:(len:Int)<=30) (hb:b<w.heap.size) (hI:qaq w b off len g) (hO:OwnI w B (sG G 4 rc) rs) (h4:rs.length=4) (hk:k<len) (jr ja jb:Nat) (hr:(g k).r=jr) (ha:(g k).a=ja) (hbb:(g k).b=jb) (jr3:jr<4) (ja3:ja<4) (jb3:jb<4) (ho:(g k).o=11) (hnum:∀ j,j<4->numB (zi rs j)=true) (os:List Int):
  Calls prog 133 #[.slice (some (aQ b off)) len cap,stV k (some (aQ G 0)) 4 rc oa on oc code] w fun e w'=>e=.returned (stV (qaf len (g k) k rs os code 0).p (some (aQ G 0)) 4 rc oa on oc (qaf len (g k) k rs os code 0).c)/\OwnI w' B (sG G 4 rc) (qaf len (g k) k rs os code 0).rs/\w.grownBy w' (some G):=by
 have hk':(k:Int)<(len:Int):=by omega
 obtain ⟨c0,c1,c2,c3,c4⟩:=hI k hk;rw [ho] at c0;rw [hr] at c1;rw [ha] at c2;rw [hbb] at c3;have hGl:G<w.heap.size:=(hO.lt G rfl).2;have HO:Hid (OwnI w B (sG G 4 rc) rs):=hO;have ca:w.cell? (aQ G ja)=some (iV (zi rs ja)):=by rw [<- h4] at hO ja3;exact hO.cell ja3
 have cb:w.cell? (aQ G jb)=some (iV (zi rs jb)):=by rw [<- h4] at hO jb3;exact hO.cell jb3
 have cr:w.cell? (aQ G jr)=some (iV (zi rs jr)):=by rw [<- h4] at hO jr3;exact hO.cell jr3
 have fr:w.frozen? (aQ G jr)=false:=by rw [<- h4] at hO;exact hO.frozen jr
 have na:=qbp.1 (hnum ja ja3);have nb:=qbp.1 (hnum jb jb3);have mb:=qcx (hnum ja ja3) (hnum jb jb3);obtain ⟨na1,na2⟩:=na;obtain ⟨nb1,nb2⟩:=nb;obtain ⟨mb1,mb2⟩:=mb;have hG1:G<w.heap.size+1:=by omega
 have hG2:G<w.heap.size+1+1:=by omega
 have jr':(jr:Int)<4:=by omega
 have ja':(ja:Int)<4:=by omega
 have jb':(jb:Int)<4:=by omega
 have hn0:-1000000000<=(g k).n\/True:=.inr trivial;have HH:Hid (rs.length=4/\(g k).r=jr/\(g k).a=ja/\(g k).b=jb/\(g k).o=11):=⟨h4,hr,ha,hbb,ho⟩
 have ea:(g k).a.toNat=ja:=by rw [HH.2.2.1];exact nF ja
 have hd:qaf len (g k) k rs os code 0=⟨k,rs,os,1⟩:=by
  unfold qaf;rw [HH.2.2.2.2];rw [nB (by decide),nB (by decide),nB (by decide),nB (by decide),nB (by decide),nC rfl]
 rw [hd];clear hd ea hr ha hbb ho hnum hI hO h4
 go_enter func133,ntmps133
 go_wp2_with fail
 go_quiet (fail)
 have s0:((((w.alloc (oQ0 k (some (aQ G 0)) 4 rc oa on oc code)).alloc (zQ0)).alloc (oQ1 11 jr ja jb (g k).n)).drewN nq).cell? (aQ w.heap.size 0)=some (iV k):=(zS (w:=(w.alloc (oQ0 k (some (aQ G 0)) 4 rc oa on oc code)).alloc (zQ0)) _ _ (by simp;omega)).trans ((zS (w:=w.alloc (oQ0 k (some (aQ G 0)) 4 rc oa on oc code)) _ _ (by simp)).trans (by simp));have s1:((((w.alloc (oQ0 k (some (aQ G 0)) 4 rc oa on oc code)).alloc (zQ0)).alloc (oQ1 11 jr ja jb (g k).n)).drewN nq).cell? (aQ w.heap.size 1)=some (sG G 4 rc):=(zS (w:=(w.alloc (oQ0 k (some (aQ G 0)) 4 rc oa on oc code)).alloc (zQ0)) _ _ (by simp;omega)).trans ((zS (w:=w.alloc (oQ0 k (some (aQ G 0)) 4 rc oa on oc code)) _ _ (by simp)).trans (by simp));have s2:((((w.alloc (oQ0 k (some (aQ G 0)) 4 rc oa on oc code)).alloc (zQ0)).alloc (oQ1 11 jr ja jb (g k).n)).drewN nq).cell? (aQ w.heap.size 2)=some (.slice oa on oc):=(zS (w:=(w.alloc (oQ0 k (some (aQ G 0)) 4 rc oa on oc code)).alloc (zQ0)) _ _ (by simp;omega)).trans ((zS (w:=w.alloc (oQ0 k (some (aQ G 0)) 4 rc oa on oc code)) _ _ (by simp)).trans (by simp));have s3:((((w.alloc (oQ0 k (some (aQ G 0)) 4 rc oa on oc code)).alloc (zQ0)).alloc (oQ1 11 jr ja jb (g k).n)).drewN nq).cell? (aQ w.heap.size 3)=some (iV code):=(zS (w:=(w.alloc (oQ0 k (some (aQ G 0)) 4 rc oa on oc code)).alloc (zQ0)) _ _ (by simp;omega)).trans ((zS (w:=w.alloc (oQ0 k (some (aQ G 0)) 4 rc oa on oc code)) _ _ (by simp)).trans (by simp));go_wp2;have hbW:Bw w ((((w.alloc (oQ0 k (some (aQ G 0)) 4 rc oa on oc code)).alloc (zQ0)).alloc (oQ1 11 jr ja jb (g k).n)).drewN nq):=yC (by go_grown) nq
 have HW1:Hid (OwnI ((((w.alloc (oQ0 k (some (aQ G 0)) 4 rc oa on oc code)).alloc (zQ0)).alloc (oQ1 11 jr ja jb (g k).n)).drewN nq) B (sG G 4 rc) rs/\w.grownBy ((((w.alloc (oQ0 k (some (aQ G 0)) 4 rc oa on oc code)).alloc (zQ0)).alloc (oQ1 11 jr ja jb (g k).n)).drewN nq) (some G)):=⟨HO.bw hbW,qbt (zZ hbW) _⟩
 refine bodyPost_ret (v:=stV k (some ⟨G,0,none⟩) 4 rc oa on oc 1) (by simp [results,results133,go_sem]) rfl ⟨rfl,?_,?_⟩
 ·repeat (refine OwnI.setOther ?_ (by simp [Value.ownBlock];omega) _)
  exact HW1.1
 ·repeat (refine zV ?_ (.inr (by simp)) _)
  exact HW1.2
