import Derived.Test.YtpnlfccaggfgpaaGreatDoorEh0
import Derived.Test.YtpnlfccaggfgpaaGreatDoorEh7
import Derived.Test.YtpnlfccaggfgpaaGreatDoorEh1
namespace Go.Proofs.YtpnlfccaggfgpaaGreatDoor
set_option maxRecDepth 100000
set_option maxHeartbeats 4000000
open Go.RowKit
theorem Cur.setOther {w:World} {W0 c len cap:Nat} {a0:Option Addr} (h:Cur w W0 c a0 len cap) {p:Addr} (hp:p.block≠c) (hW:W0<=p.block) (v:Value):Cur (w.setCell p v) W0 c a0 len cap:=
 h.kept (row:=some p.block) (zV (World.grownBy.refl w _) (.inl rfl) v) (fun e=>hp (Option.some.inj e).symm) (fun k hk=>by rw [<- Option.some.inj hk];exact hW)
abbrev put5 (w:World) (N:Nat) (o r a b n:Int):World:=
 ((((w.setCell ⟨N,0,none⟩ (.int .i64 o)).setCell ⟨N,1,none⟩ (.int .i64 r)).setCell ⟨N,2,none⟩ (.int .i64 a)).setCell ⟨N,3,none⟩ (.int .i64 b)).setCell ⟨N,4,none⟩ (.int .i64 n)
theorem put5_cur {w:World} {W0 c len cap N:Nat} {a0:Option Addr} (h:Cur w W0 c a0 len cap) (hp:N≠c) (hW:W0<=N) (o r a b n:Int):Cur (put5 w N o r a b n) W0 c a0 len cap:=
 ((((h.setOther (p:=⟨N,0,none⟩) hp hW _).setOther (p:=⟨N,1,none⟩) hp hW _).setOther (p:=⟨N,2,none⟩) hp hW _).setOther (p:=⟨N,3,none⟩) hp hW _).setOther (p:=⟨N,4,none⟩) hp hW _
theorem put5_grown {w w1:World} {row:Option Nat} {N:Nat} (h:w.grownBy w1 row) (hN:w.heap.size<=N) (o r a b n:Int):w.grownBy (put5 w1 N o r a b n) row:=
 zV (zV (zV (zV (zV h (.inr hN) _) (.inr hN) _) (.inr hN) _) (.inr hN) _) (.inr hN) _
def Five (w:World) (N:Nat) (o r a b n:Int):Prop:=w.heap[N]? = some (.cells #[.int .i64 o,.int .i64 r,.int .i64 a,.int .i64 b,.int .i64 n] 84 (0,0))
theorem Five.cells {w:World} {N:Nat} {o r a b n:Int} (h:Five w N o r a b n):(w.cell? ⟨N,0,none⟩=some (.int .i64 o)/\w.cell? ⟨N,1,none⟩=some (.int .i64 r)/\w.cell? ⟨N,2,none⟩=some (.int .i64 a)/\w.cell? ⟨N,3,none⟩=some (.int .i64 b)/\w.cell? ⟨N,4,none⟩=some (.int .i64 n))/\∀ i,w.frozen? ⟨N,i,none⟩=false:=by
 unfold Five at h
 simp [World.cell?,World.frozen?,h]
theorem Five.lt {w:World} {N:Nat} {o r a b n:Int} (h:Five w N o r a b n):N<w.heap.size:=(Array.getElem?_eq_some_iff.1 h).1
theorem Five.kept {w w':World} {N:Nat} {row:Option Nat} {o r a b n:Int} (h:Five w N o r a b n) (hg:w.grownBy w' row) (hne:some N≠row):Five w' N o r a b n:=
 (hg.block N h.lt hne).trans h
theorem l1New_any (W0 len cap:Nat) (a0:Option Addr) (w:World) (hB:BytesAt w W0 a0 len) (hW:W0<=w.heap.size) (ln:len<=1048576):
  Calls Tryz.prog 14 #[.slice a0 len cap] w fun e w'=>e=.returned (.pointer (some ⟨w.heap.size,0,none⟩))/\Cur w' W0 w.heap.size a0 len cap/\w.grownBy w' none:=by
 have ln':(len:Int)<=1048576:=by omega
 have HB:Hid (BytesAt w W0 a0 len):=hB
 clear hB
 go_enter Tryz.func14,Tryz.ntmps14
 go_wp2_with fail
 go_loop [3,4] (fun h i=>∃ (k:Nat) (x:Int),k<=len/\i=.int .i64 k/\h=.int .i64 x) (fun _ i=>len - (intOf i).toNat)
 case atStart=>exact ⟨0,_,Nat.zero_le _,rfl,rfl⟩
 case round=>
  obtain ⟨k,x,hk,rfl,rfl⟩:=hrel
  by_cases hlt:k<len/\k<4000
  ·obtain ⟨h1,h2⟩:=hlt
   have h1':(k:Int)<(len:Int):=by omega
   have h2':(k:Int)<4000:=by omega
   rcases HB.out with hb | ⟨b,off,rfl,hbW,hz⟩
   ·omega
   obtain ⟨z,cz,z0,z1⟩:=hz k h1
   clear hz
   go_wp2
   go_round
   case rel=>exact ⟨k+1,_,by omega,by go_num,rfl⟩
   case measure=>simp [intOf];omega
  ·have fin:∀ x:Int,Cur (w.alloc (.cells #[.slice a0 len cap,.int .i64 0,.int .i64 x] 52)) W0 w.heap.size a0 len cap/\w.grownBy (w.alloc (.cells #[.slice a0 len cap,.int .i64 0,.int .i64 x] 52)) none:=fun x=>
    ⟨⟨⟨0,x,by simp,by simp,by simp⟩,fun o=>by simp,by simp,hW,HB.out.kept fun j hj=>Below.heap_alloc w _ j (by omega),ln⟩,World.grownBy_alloc w _ none⟩
   have FIN:Hid (∀ x:Int,Cur (w.alloc (.cells #[.slice a0 len cap,.int .i64 0,.int .i64 x] 52)) W0 w.heap.size a0 len cap/\w.grownBy (w.alloc (.cells #[.slice a0 len cap,.int .i64 0,.int .i64 x] 52)) none):=fin
   clear fin
   by_cases h1:k<len
   ·have h1':(k:Int)<(len:Int):=by omega
    have h2':¬ (k:Int)<4000:=by omega
    go_wp2
    go_ret
    exact ⟨rfl,FIN.out _⟩
   ·have h1':¬ (k:Int)<(len:Int):=by omega
    go_wp2
    go_ret
    exact ⟨rfl,FIN.out _⟩
theorem l1DrawIns_any (W0 c len cap:Nat) (a0:Option Addr) (places procs:Int) (w:World) (hc:Cur w W0 c a0 len cap) (p1:1<=places) (p2:places<=256) (q1:1<=procs) (q2:procs<=256):
  Calls Tryz.prog 110 #[.pointer (some ⟨c,0,none⟩),.int .i64 places,.int .i64 procs] w fun e w'=>∃ o r a b n:Int,e=.returned (insV o r a b n)/\Cur w' W0 c a0 len cap/\w.grownBy w' (some c):=by
 have HC0:Hid (Cur w W0 c a0 len cap):=hc
 have hcl:=hc.lt
 have hcg:=hc.ge
 clear hc
 go_enter Tryz.func110,Tryz.ntmps110
 go_wp2_with fail
 have HN0:Hid (Five (w.alloc (zQ2)) w.heap.size 0 0 0 0 0):=heap_alloc_new w _
 have hNc:some w.heap.size≠some c:=by simp;omega
 have HG0:Hid (w.grownBy (w.alloc (zQ2)) (some c)):=World.grownBy_alloc w _ _
 refine (zY W0 c len cap a0 _ _ (HC0.out.alloc _) (by omega) (by omega)).mono ?_
 rintro e w1 ⟨r,rfl,⟨rL,rH⟩,hc1,hg1⟩
 have HN1:Hid (Five w1 w.heap.size 0 0 0 0 0):=HN0.out.kept hg1 hNc
 have HG1:Hid (w.grownBy w1 (some c)):=HG0.out.trans hg1
 have HC1:Hid (Cur w1 W0 c a0 len cap):=hc1
 clear hc1 hg1 HC0 HN0 HG0
 go_wp2_with fail
 refine (zY W0 c len cap a0 _ _ HC1.out (by omega) (by omega)).mono ?_
 rintro e w2 ⟨a,rfl,⟨aL,aH⟩,hc2,hg2⟩
 have HN2:Hid (Five w2 w.heap.size 0 0 0 0 0):=HN1.out.kept hg2 hNc
 have HG2:Hid (w.grownBy w2 (some c)):=HG1.out.trans hg2
 have HC2:Hid (Cur w2 W0 c a0 len cap):=hc2
 clear hc2 hg2 HC1 HN1 HG1
 go_wp2_with fail
 refine (zY W0 c len cap a0 _ _ HC2.out (by omega) (by omega)).mono ?_
 rintro e w3 ⟨b,rfl,⟨bL,bH⟩,hc3,hg3⟩
 have HN3:Hid (Five w3 w.heap.size 0 0 0 0 0):=HN2.out.kept hg3 hNc
 have HG3:Hid (w.grownBy w3 (some c)):=HG2.out.trans hg3
 have HC3:Hid (Cur w3 W0 c a0 len cap):=hc3
 clear hc3 hg3 HC2 HN2 HG2
 go_wp2_with fail
 refine (zY W0 c len cap a0 _ _ HC3.out (by omega) (by omega)).mono ?_
 rintro e w4 ⟨x,rfl,⟨xL,xH⟩,hc4,hg4⟩
 have HN4:Hid (Five w4 w.heap.size 0 0 0 0 0):=HN3.out.kept hg4 hNc
 have HG4:Hid (w.grownBy w4 (some c)):=HG3.out.trans hg4
 have HC4:Hid (Cur w4 W0 c a0 len cap):=hc4
 clear hc4 hg4 HC3 HN3 HG3
 have hx:x=0\/x=1\/x=2\/x=3\/x=4\/x=5\/x=6\/x=7\/x=8\/x=9\/x=10\/x=11\/x=12\/x=13:=by omega
 clear xL xH
 rcases hx with rfl | rfl | rfl | rfl | rfl | rfl | rfl | rfl | rfl | rfl | rfl | rfl | rfl | rfl
 ·go_wp2_with fail
  refine (zY W0 c len cap a0 _ _ HC4.out (by omega) (by omega)).mono ?_
  rintro e w5 ⟨y,rfl,⟨yL,yH⟩,hc5,hg5⟩
  have HN5:Hid (Five w5 w.heap.size 0 0 0 0 0):=HN4.out.kept hg5 hNc
  have HG5:Hid (w.grownBy w5 (some c)):=HG4.out.trans hg5
  have HC5:Hid (Cur w5 W0 c a0 len cap):=hc5
  clear hc5 hg5 HC4 HN4 HG4
  obtain ⟨⟨e0,e1,e2,e3,e4⟩,fz⟩:=HN5.out.cells
  have z0:=fz 0
  have z1:=fz 1
  have z2:=fz 2
  have z3:=fz 3
  have z4:=fz 4
  clear fz
  go_wp2
  exact bodyPost_ret (v:=insV 1 r 0 0 (y - 2)) (by simp [results,Tryz.results110,go_sem,e0,e1,e2,e3,e4]) rfl ⟨_,_,_,_,_,rfl,put5_cur HC5.out (by omega) (by omega) _ _ _ _ _,put5_grown HG5.out (Nat.le_refl _) _ _ _ _ _⟩
 ·go_wp2_with fail
  refine (zY W0 c len cap a0 _ _ HC4.out (by omega) (by omega)).mono ?_
  rintro e w5 ⟨y,rfl,⟨yL,yH⟩,hc5,hg5⟩
  have HN5:Hid (Five w5 w.heap.size 0 0 0 0 0):=HN4.out.kept hg5 hNc
  have HG5:Hid (w.grownBy w5 (some c)):=HG4.out.trans hg5
  have HC5:Hid (Cur w5 W0 c a0 len cap):=hc5
  clear hc5 hg5 HC4 HN4 HG4
  obtain ⟨⟨e0,e1,e2,e3,e4⟩,fz⟩:=HN5.out.cells
  have z0:=fz 0
  have z1:=fz 1
  have z2:=fz 2
  have z3:=fz 3
  have z4:=fz 4
  clear fz
  go_wp2
  exact bodyPost_ret (v:=insV 1 r 0 0 (y - 2)) (by simp [results,Tryz.results110,go_sem,e0,e1,e2,e3,e4]) rfl ⟨_,_,_,_,_,rfl,put5_cur HC5.out (by omega) (by omega) _ _ _ _ _,put5_grown HG5.out (Nat.le_refl _) _ _ _ _ _⟩
 ·go_wp2_with fail
  refine (zY W0 c len cap a0 _ _ HC4.out (by omega) (by omega)).mono ?_
  rintro e w5 ⟨y,rfl,⟨yL,yH⟩,hc5,hg5⟩
  have HN5:Hid (Five w5 w.heap.size 0 0 0 0 0):=HN4.out.kept hg5 hNc
  have HG5:Hid (w.grownBy w5 (some c)):=HG4.out.trans hg5
  have HC5:Hid (Cur w5 W0 c a0 len cap):=hc5
  clear hc5 hg5 HC4 HN4 HG4
  obtain ⟨⟨e0,e1,e2,e3,e4⟩,fz⟩:=HN5.out.cells
  have z0:=fz 0
  have z1:=fz 1
  have z2:=fz 2
  have z3:=fz 3
  have z4:=fz 4
  clear fz
  go_wp2
  exact bodyPost_ret (v:=insV (2+y) r a b 0) (by simp [results,Tryz.results110,go_sem,e0,e1,e2,e3,e4]) rfl ⟨_,_,_,_,_,rfl,put5_cur HC5.out (by omega) (by omega) _ _ _ _ _,put5_grown HG5.out (Nat.le_refl _) _ _ _ _ _⟩
 ·go_wp2_with fail
  refine (zY W0 c len cap a0 _ _ HC4.out (by omega) (by omega)).mono ?_
  rintro e w5 ⟨y,rfl,⟨yL,yH⟩,hc5,hg5⟩
  have HN5:Hid (Five w5 w.heap.size 0 0 0 0 0):=HN4.out.kept hg5 hNc
  have HG5:Hid (w.grownBy w5 (some c)):=HG4.out.trans hg5
  have HC5:Hid (Cur w5 W0 c a0 len cap):=hc5
  clear hc5 hg5 HC4 HN4 HG4
  obtain ⟨⟨e0,e1,e2,e3,e4⟩,fz⟩:=HN5.out.cells
  have z0:=fz 0
  have z1:=fz 1
  have z2:=fz 2
  have z3:=fz 3
  have z4:=fz 4
  clear fz
  go_wp2
  exact bodyPost_ret (v:=insV (2+y) r a b 0) (by simp [results,Tryz.results110,go_sem,e0,e1,e2,e3,e4]) rfl ⟨_,_,_,_,_,rfl,put5_cur HC5.out (by omega) (by omega) _ _ _ _ _,put5_grown HG5.out (Nat.le_refl _) _ _ _ _ _⟩
 ·go_wp2_with fail
  refine (zY W0 c len cap a0 _ _ HC4.out (by omega) (by omega)).mono ?_
  rintro e w5 ⟨y,rfl,⟨yL,yH⟩,hc5,hg5⟩
  have HN5:Hid (Five w5 w.heap.size 0 0 0 0 0):=HN4.out.kept hg5 hNc
  have HG5:Hid (w.grownBy w5 (some c)):=HG4.out.trans hg5
  have HC5:Hid (Cur w5 W0 c a0 len cap):=hc5
  clear hc5 hg5 HC4 HN4 HG4
  obtain ⟨⟨e0,e1,e2,e3,e4⟩,fz⟩:=HN5.out.cells
  have z0:=fz 0
  have z1:=fz 1
  have z2:=fz 2
  have z3:=fz 3
  have z4:=fz 4
  clear fz
  go_wp2
  exact bodyPost_ret (v:=insV 6 0 a 0 y) (by simp [results,Tryz.results110,go_sem,e0,e1,e2,e3,e4]) rfl ⟨_,_,_,_,_,rfl,put5_cur HC5.out (by omega) (by omega) _ _ _ _ _,put5_grown HG5.out (Nat.le_refl _) _ _ _ _ _⟩
 ·go_wp2_with fail
  refine (zY W0 c len cap a0 _ _ HC4.out (by omega) (by omega)).mono ?_
  rintro e w5 ⟨y,rfl,⟨yL,yH⟩,hc5,hg5⟩
  have HN5:Hid (Five w5 w.heap.size 0 0 0 0 0):=HN4.out.kept hg5 hNc
  have HG5:Hid (w.grownBy w5 (some c)):=HG4.out.trans hg5
  have HC5:Hid (Cur w5 W0 c a0 len cap):=hc5
  clear hc5 hg5 HC4 HN4 HG4
  obtain ⟨⟨e0,e1,e2,e3,e4⟩,fz⟩:=HN5.out.cells
  have z0:=fz 0
  have z1:=fz 1
  have z2:=fz 2
  have z3:=fz 3
  have z4:=fz 4
  clear fz
  go_wp2
  exact bodyPost_ret (v:=insV 6 0 a 0 y) (by simp [results,Tryz.results110,go_sem,e0,e1,e2,e3,e4]) rfl ⟨_,_,_,_,_,rfl,put5_cur HC5.out (by omega) (by omega) _ _ _ _ _,put5_grown HG5.out (Nat.le_refl _) _ _ _ _ _⟩
 ·go_wp2_with fail
  refine (zY W0 c len cap a0 _ _ HC4.out (by omega) (by omega)).mono ?_
  rintro e w5 ⟨y,rfl,⟨yL,yH⟩,hc5,hg5⟩
  have HN5:Hid (Five w5 w.heap.size 0 0 0 0 0):=HN4.out.kept hg5 hNc
  have HG5:Hid (w.grownBy w5 (some c)):=HG4.out.trans hg5
  have HC5:Hid (Cur w5 W0 c a0 len cap):=hc5
  clear hc5 hg5 HC4 HN4 HG4
  obtain ⟨⟨e0,e1,e2,e3,e4⟩,fz⟩:=HN5.out.cells
  have z0:=fz 0
  have z1:=fz 1
  have z2:=fz 2
  have z3:=fz 3
  have z4:=fz 4
  clear fz
  go_wp2
  exact bodyPost_ret (v:=insV 6 0 a 0 y) (by simp [results,Tryz.results110,go_sem,e0,e1,e2,e3,e4]) rfl ⟨_,_,_,_,_,rfl,put5_cur HC5.out (by omega) (by omega) _ _ _ _ _,put5_grown HG5.out (Nat.le_refl _) _ _ _ _ _⟩
 ·go_wp2_with fail
  refine (l1Once_any W0 c len cap a0 _ _ HC4.out (by omega) (by omega)).mono ?_
  rintro e w5 ⟨t,rfl,hc5,hg5⟩
  have HN5:Hid (Five w5 w.heap.size 0 0 0 0 0):=HN4.out.kept hg5 hNc
  have HG5:Hid (w.grownBy w5 (some c)):=HG4.out.trans hg5
  have HC5:Hid (Cur w5 W0 c a0 len cap):=hc5
  clear hc5 hg5 HC4 HN4 HG4
  cases t
  case true=>
   obtain ⟨⟨e0,e1,e2,e3,e4⟩,fz⟩:=HN5.out.cells
   have z0:=fz 0
   have z1:=fz 1
   have z2:=fz 2
   have z3:=fz 3
   have z4:=fz 4
   clear fz
   go_wp2
   exact bodyPost_ret (v:=insV 7 r 0 0 9) (by simp [results,Tryz.results110,go_sem,e0,e1,e2,e3,e4]) rfl ⟨_,_,_,_,_,rfl,put5_cur HC5.out (by omega) (by omega) _ _ _ _ _,put5_grown HG5.out (Nat.le_refl _) _ _ _ _ _⟩
  case false=>
   go_wp2_with fail
   refine (zY W0 c len cap a0 _ _ HC5.out (by omega) (by omega)).mono ?_
   rintro e w6 ⟨y,rfl,⟨yL,yH⟩,hc6,hg6⟩
   have HN6:Hid (Five w6 w.heap.size 0 0 0 0 0):=HN5.out.kept hg6 hNc
   have HG6:Hid (w.grownBy w6 (some c)):=HG5.out.trans hg6
   have HC6:Hid (Cur w6 W0 c a0 len cap):=hc6
   clear hc6 hg6 HC5 HN5 HG5
   obtain ⟨⟨e0,e1,e2,e3,e4⟩,fz⟩:=HN6.out.cells
   have z0:=fz 0
   have z1:=fz 1
   have z2:=fz 2
   have z3:=fz 3
   have z4:=fz 4
   clear fz
   go_wp2
   exact bodyPost_ret (v:=insV 7 r 0 0 y) (by simp [results,Tryz.results110,go_sem,e0,e1,e2,e3,e4]) rfl ⟨_,_,_,_,_,rfl,put5_cur HC6.out (by omega) (by omega) _ _ _ _ _,put5_grown HG6.out (Nat.le_refl _) _ _ _ _ _⟩
 ·go_wp2_with fail
  refine (l1Once_any W0 c len cap a0 _ _ HC4.out (by omega) (by omega)).mono ?_
  rintro e w5 ⟨t,rfl,hc5,hg5⟩
  have HN5:Hid (Five w5 w.heap.size 0 0 0 0 0):=HN4.out.kept hg5 hNc
  have HG5:Hid (w.grownBy w5 (some c)):=HG4.out.trans hg5
  have HC5:Hid (Cur w5 W0 c a0 len cap):=hc5
  clear hc5 hg5 HC4 HN4 HG4
  cases t
  case true=>
   obtain ⟨⟨e0,e1,e2,e3,e4⟩,fz⟩:=HN5.out.cells
   have z0:=fz 0
   have z1:=fz 1
   have z2:=fz 2
   have z3:=fz 3
   have z4:=fz 4
   clear fz
   go_wp2
   exact bodyPost_ret (v:=insV 7 r 0 0 9) (by simp [results,Tryz.results110,go_sem,e0,e1,e2,e3,e4]) rfl ⟨_,_,_,_,_,rfl,put5_cur HC5.out (by omega) (by omega) _ _ _ _ _,put5_grown HG5.out (Nat.le_refl _) _ _ _ _ _⟩
  case false=>
   go_wp2_with fail
   refine (zY W0 c len cap a0 _ _ HC5.out (by omega) (by omega)).mono ?_
   rintro e w6 ⟨y,rfl,⟨yL,yH⟩,hc6,hg6⟩
   have HN6:Hid (Five w6 w.heap.size 0 0 0 0 0):=HN5.out.kept hg6 hNc
   have HG6:Hid (w.grownBy w6 (some c)):=HG5.out.trans hg6
   have HC6:Hid (Cur w6 W0 c a0 len cap):=hc6
   clear hc6 hg6 HC5 HN5 HG5
   obtain ⟨⟨e0,e1,e2,e3,e4⟩,fz⟩:=HN6.out.cells
   have z0:=fz 0
   have z1:=fz 1
   have z2:=fz 2
   have z3:=fz 3
   have z4:=fz 4
   clear fz
   go_wp2
   exact bodyPost_ret (v:=insV 7 r 0 0 y) (by simp [results,Tryz.results110,go_sem,e0,e1,e2,e3,e4]) rfl ⟨_,_,_,_,_,rfl,put5_cur HC6.out (by omega) (by omega) _ _ _ _ _,put5_grown HG6.out (Nat.le_refl _) _ _ _ _ _⟩
 ·go_wp2_with fail
  refine (l1Once_any W0 c len cap a0 _ _ HC4.out (by omega) (by omega)).mono ?_
  rintro e w5 ⟨t,rfl,hc5,hg5⟩
  have HN5:Hid (Five w5 w.heap.size 0 0 0 0 0):=HN4.out.kept hg5 hNc
  have HG5:Hid (w.grownBy w5 (some c)):=HG4.out.trans hg5
  have HC5:Hid (Cur w5 W0 c a0 len cap):=hc5
  clear hc5 hg5 HC4 HN4 HG4
  cases t
  case true=>
   obtain ⟨⟨e0,e1,e2,e3,e4⟩,fz⟩:=HN5.out.cells
   have z0:=fz 0
   have z1:=fz 1
   have z2:=fz 2
   have z3:=fz 3
   have z4:=fz 4
   clear fz
   go_wp2
   exact bodyPost_ret (v:=insV 7 r 0 0 9) (by simp [results,Tryz.results110,go_sem,e0,e1,e2,e3,e4]) rfl ⟨_,_,_,_,_,rfl,put5_cur HC5.out (by omega) (by omega) _ _ _ _ _,put5_grown HG5.out (Nat.le_refl _) _ _ _ _ _⟩
  case false=>
   go_wp2_with fail
   refine (zY W0 c len cap a0 _ _ HC5.out (by omega) (by omega)).mono ?_
   rintro e w6 ⟨y,rfl,⟨yL,yH⟩,hc6,hg6⟩
   have HN6:Hid (Five w6 w.heap.size 0 0 0 0 0):=HN5.out.kept hg6 hNc
   have HG6:Hid (w.grownBy w6 (some c)):=HG5.out.trans hg6
   have HC6:Hid (Cur w6 W0 c a0 len cap):=hc6
   clear hc6 hg6 HC5 HN5 HG5
   obtain ⟨⟨e0,e1,e2,e3,e4⟩,fz⟩:=HN6.out.cells
   have z0:=fz 0
   have z1:=fz 1
   have z2:=fz 2
   have z3:=fz 3
   have z4:=fz 4
   clear fz
   go_wp2
   exact bodyPost_ret (v:=insV 7 r 0 0 y) (by simp [results,Tryz.results110,go_sem,e0,e1,e2,e3,e4]) rfl ⟨_,_,_,_,_,rfl,put5_cur HC6.out (by omega) (by omega) _ _ _ _ _,put5_grown HG6.out (Nat.le_refl _) _ _ _ _ _⟩
 ·obtain ⟨⟨e0,e1,e2,e3,e4⟩,fz⟩:=HN4.out.cells
  have z0:=fz 0
  have z1:=fz 1
  have z2:=fz 2
  have z3:=fz 3
  have z4:=fz 4
  clear fz
  go_wp2
  exact bodyPost_ret (v:=insV 8 0 a 0 0) (by simp [results,Tryz.results110,go_sem,e0,e1,e2,e3,e4]) rfl ⟨_,_,_,_,_,rfl,put5_cur HC4.out (by omega) (by omega) _ _ _ _ _,put5_grown HG4.out (Nat.le_refl _) _ _ _ _ _⟩
 ·go_wp2_with fail
  refine (zY W0 c len cap a0 _ _ HC4.out (by omega) (by omega)).mono ?_
  rintro e w5 ⟨y,rfl,⟨yL,yH⟩,hc5,hg5⟩
  have HN5:Hid (Five w5 w.heap.size 0 0 0 0 0):=HN4.out.kept hg5 hNc
  have HG5:Hid (w.grownBy w5 (some c)):=HG4.out.trans hg5
  have HC5:Hid (Cur w5 W0 c a0 len cap):=hc5
  clear hc5 hg5 HC4 HN4 HG4
  obtain ⟨⟨e0,e1,e2,e3,e4⟩,fz⟩:=HN5.out.cells
  have z0:=fz 0
  have z1:=fz 1
  have z2:=fz 2
  have z3:=fz 3
  have z4:=fz 4
  clear fz
  go_wp2
  exact bodyPost_ret (v:=insV 9 0 0 0 y) (by simp [results,Tryz.results110,go_sem,e0,e1,e2,e3,e4]) rfl ⟨_,_,_,_,_,rfl,put5_cur HC5.out (by omega) (by omega) _ _ _ _ _,put5_grown HG5.out (Nat.le_refl _) _ _ _ _ _⟩
 ·go_wp2_with fail
  refine (zY W0 c len cap a0 _ _ HC4.out (by omega) (by omega)).mono ?_
  rintro e w5 ⟨y,rfl,⟨yL,yH⟩,hc5,hg5⟩
  have HN5:Hid (Five w5 w.heap.size 0 0 0 0 0):=HN4.out.kept hg5 hNc
  have HG5:Hid (w.grownBy w5 (some c)):=HG4.out.trans hg5
  have HC5:Hid (Cur w5 W0 c a0 len cap):=hc5
  clear hc5 hg5 HC4 HN4 HG4
  obtain ⟨⟨e0,e1,e2,e3,e4⟩,fz⟩:=HN5.out.cells
  have z0:=fz 0
  have z1:=fz 1
  have z2:=fz 2
  have z3:=fz 3
  have z4:=fz 4
  clear fz
  go_wp2
  exact bodyPost_ret (v:=insV 10 0 a 0 y) (by simp [results,Tryz.results110,go_sem,e0,e1,e2,e3,e4]) rfl ⟨_,_,_,_,_,rfl,put5_cur HC5.out (by omega) (by omega) _ _ _ _ _,put5_grown HG5.out (Nat.le_refl _) _ _ _ _ _⟩
 ·obtain ⟨⟨e0,e1,e2,e3,e4⟩,fz⟩:=HN4.out.cells
  have z0:=fz 0
  have z1:=fz 1
  have z2:=fz 2
  have z3:=fz 3
  have z4:=fz 4
  clear fz
  go_wp2
  exact bodyPost_ret (v:=insV 8 0 a 0 0) (by simp [results,Tryz.results110,go_sem,e0,e1,e2,e3,e4]) rfl ⟨_,_,_,_,_,rfl,put5_cur HC4.out (by omega) (by omega) _ _ _ _ _,put5_grown HG4.out (Nat.le_refl _) _ _ _ _ _⟩
def pick9 (j:Nat):Int:=[(-1:Int),0,3,4,9,29,30,1000000000,1000000001].getD j 0
theorem pick9_at (w:World):IntsAt (w.alloc (.cells #[.int .i64 (-1),.int .i64 0,.int .i64 3,.int .i64 4,.int .i64 9,.int .i64 29,.int .i64 30,.int .i64 1000000000,.int .i64 1000000001] 3)) w.heap.size 9 pick9:=by
 intro j hj
 match j,hj with
 | 0,_=>simp [pick9]
 | 1,_=>simp [pick9]
 | 2,_=>simp [pick9]
 | 3,_=>simp [pick9]
 | 4,_=>simp [pick9]
 | 5,_=>simp [pick9]
 | 6,_=>simp [pick9]
 | 7,_=>simp [pick9]
 | 8,_=>simp [pick9]
theorem l1Spoil_any (W0 c len cap:Nat) (a0:Option Addr) (o r a b n:Int) (w:World) (hc:Cur w W0 c a0 len cap):
  Calls Tryz.prog 67 #[.pointer (some ⟨c,0,none⟩),insV o r a b n] w fun e w'=>∃ o r a b n:Int,e=.returned (insV o r a b n)/\Cur w' W0 c a0 len cap/\w.grownBy w' (some c):=by
 have HC0:Hid (Cur w W0 c a0 len cap):=hc
 have hcl:=hc.lt
 have hcg:=hc.ge
 clear hc
 go_enter Tryz.func67,Tryz.ntmps67
 go_wp2_with fail
 have HG0:Hid (w.grownBy ((w.alloc (oQ3 o r a b n)).alloc (zQ2)) (some c)):=(World.grownBy_alloc w _ _).trans (World.grownBy_alloc _ _ _)
 have HX0:Hid (Five ((w.alloc (oQ3 o r a b n)).alloc (zQ2)) w.heap.size o r a b n):=Five.kept (row:=none) (heap_alloc_new w (oQ3 o r a b n)) (World.grownBy_alloc _ _ _) (by simp)
 have HN0:Hid (Five ((w.alloc (oQ3 o r a b n)).alloc (zQ2)) (w.heap.size+1) 0 0 0 0 0):=by
  have:=heap_alloc_new (w.alloc (oQ3 o r a b n)) (zQ2)
  rw [World.size_alloc] at this
  exact this
 have hXc:some w.heap.size≠some c:=by simp;omega
 have hNc:some (w.heap.size+1)≠some c:=by simp;omega
 refine (zY W0 c len cap a0 _ _ ((HC0.out.alloc _).alloc _) (by omega) (by omega)).mono ?_
 rintro e w1 ⟨x,rfl,⟨xL,xH⟩,hc1,hg1⟩
 have HX1:Hid (Five w1 w.heap.size o r a b n):=HX0.out.kept hg1 hXc
 have HN1:Hid (Five w1 (w.heap.size+1) 0 0 0 0 0):=HN0.out.kept hg1 hNc
 have HG1:Hid (w.grownBy w1 (some c)):=HG0.out.trans hg1
 have HC1:Hid (Cur w1 W0 c a0 len cap):=hc1
 clear hc1 hg1 HC0 HN0 HG0 HX0
 have hx:x=0\/x=1\/x=2\/x=3\/x=4\/x=5\/x=6\/x=7:=by omega
 clear xL xH
 rcases hx with rfl | rfl | rfl | rfl | rfl | rfl | rfl | rfl
 ·go_wp2_with fail
  refine (zY W0 c len cap a0 _ _ HC1.out (by omega) (by omega)).mono ?_
  rintro e w2 ⟨y,rfl,⟨yL,yH⟩,hc2,hg2⟩
  have HX2:Hid (Five w2 w.heap.size o r a b n):=HX1.out.kept hg2 hXc
  have HN2:Hid (Five w2 (w.heap.size+1) 0 0 0 0 0):=HN1.out.kept hg2 hNc
  have HG2:Hid (w.grownBy w2 (some c)):=HG1.out.trans hg2
  have HC2:Hid (Cur w2 W0 c a0 len cap):=hc2
  clear hc2 hg2 HC1 HN1 HG1 HX1
  obtain ⟨⟨e0,e1,e2,e3,e4⟩,fz⟩:=HN2.out.cells
  have z0:=fz 0
  have z1:=fz 1
  have z2:=fz 2
  have z3:=fz 3
  have z4:=fz 4
  clear fz
  obtain ⟨⟨g0,g1,g2,g3,g4⟩,fy⟩:=HX2.out.cells
  have y0:=fy 0
  clear fy
  go_wp2
  exact bodyPost_ret (v:=insV (y - 1) r a b n) (by simp [results,Tryz.results67,go_sem,e0,e1,e2,e3,e4]) rfl ⟨_,_,_,_,_,rfl,put5_cur (HC2.out.setOther (p:=⟨w.heap.size,0,none⟩) (by simp;omega) (by simp;omega) _) (by omega) (by omega) _ _ _ _ _,put5_grown (zV (p:=⟨w.heap.size,0,none⟩) HG2.out (.inr (Nat.le_refl _)) _) (by omega) _ _ _ _ _⟩
 ·go_wp2_with fail
  refine (zY W0 c len cap a0 _ _ HC1.out (by omega) (by omega)).mono ?_
  rintro e w2 ⟨y,rfl,⟨yL,yH⟩,hc2,hg2⟩
  have HX2:Hid (Five w2 w.heap.size o r a b n):=HX1.out.kept hg2 hXc
  have HN2:Hid (Five w2 (w.heap.size+1) 0 0 0 0 0):=HN1.out.kept hg2 hNc
  have HG2:Hid (w.grownBy w2 (some c)):=HG1.out.trans hg2
  have HC2:Hid (Cur w2 W0 c a0 len cap):=hc2
  clear hc2 hg2 HC1 HN1 HG1 HX1
  obtain ⟨⟨e0,e1,e2,e3,e4⟩,fz⟩:=HN2.out.cells
  have z0:=fz 0
  have z1:=fz 1
  have z2:=fz 2
  have z3:=fz 3
  have z4:=fz 4
  clear fz
  obtain ⟨⟨g0,g1,g2,g3,g4⟩,fy⟩:=HX2.out.cells
  have y0:=fy 1
  clear fy
  go_wp2
  exact bodyPost_ret (v:=insV o (y - 1) a b n) (by simp [results,Tryz.results67,go_sem,e0,e1,e2,e3,e4]) rfl ⟨_,_,_,_,_,rfl,put5_cur (HC2.out.setOther (p:=⟨w.heap.size,1,none⟩) (by simp;omega) (by simp;omega) _) (by omega) (by omega) _ _ _ _ _,put5_grown (zV (p:=⟨w.heap.size,1,none⟩) HG2.out (.inr (Nat.le_refl _)) _) (by omega) _ _ _ _ _⟩
 ·go_wp2_with fail
  refine (zY W0 c len cap a0 _ _ HC1.out (by omega) (by omega)).mono ?_
  rintro e w2 ⟨y,rfl,⟨yL,yH⟩,hc2,hg2⟩
  have HX2:Hid (Five w2 w.heap.size o r a b n):=HX1.out.kept hg2 hXc
  have HN2:Hid (Five w2 (w.heap.size+1) 0 0 0 0 0):=HN1.out.kept hg2 hNc
  have HG2:Hid (w.grownBy w2 (some c)):=HG1.out.trans hg2
  have HC2:Hid (Cur w2 W0 c a0 len cap):=hc2
  clear hc2 hg2 HC1 HN1 HG1 HX1
  obtain ⟨⟨e0,e1,e2,e3,e4⟩,fz⟩:=HN2.out.cells
  have z0:=fz 0
  have z1:=fz 1
  have z2:=fz 2
  have z3:=fz 3
  have z4:=fz 4
  clear fz
  obtain ⟨⟨g0,g1,g2,g3,g4⟩,fy⟩:=HX2.out.cells
  have y0:=fy 2
  clear fy
  go_wp2
  exact bodyPost_ret (v:=insV o r (y - 1) b n) (by simp [results,Tryz.results67,go_sem,e0,e1,e2,e3,e4]) rfl ⟨_,_,_,_,_,rfl,put5_cur (HC2.out.setOther (p:=⟨w.heap.size,2,none⟩) (by simp;omega) (by simp;omega) _) (by omega) (by omega) _ _ _ _ _,put5_grown (zV (p:=⟨w.heap.size,2,none⟩) HG2.out (.inr (Nat.le_refl _)) _) (by omega) _ _ _ _ _⟩
 ·go_wp2_with fail
  refine (zY W0 c len cap a0 _ _ HC1.out (by omega) (by omega)).mono ?_
  rintro e w2 ⟨y,rfl,⟨yL,yH⟩,hc2,hg2⟩
  have HX2:Hid (Five w2 w.heap.size o r a b n):=HX1.out.kept hg2 hXc
  have HN2:Hid (Five w2 (w.heap.size+1) 0 0 0 0 0):=HN1.out.kept hg2 hNc
  have HG2:Hid (w.grownBy w2 (some c)):=HG1.out.trans hg2
  have HC2:Hid (Cur w2 W0 c a0 len cap):=hc2
  clear hc2 hg2 HC1 HN1 HG1 HX1
  obtain ⟨⟨e0,e1,e2,e3,e4⟩,fz⟩:=HN2.out.cells
  have z0:=fz 0
  have z1:=fz 1
  have z2:=fz 2
  have z3:=fz 3
  have z4:=fz 4
  clear fz
  obtain ⟨⟨g0,g1,g2,g3,g4⟩,fy⟩:=HX2.out.cells
  have y0:=fy 3
  clear fy
  go_wp2
  exact bodyPost_ret (v:=insV o r a (y - 1) n) (by simp [results,Tryz.results67,go_sem,e0,e1,e2,e3,e4]) rfl ⟨_,_,_,_,_,rfl,put5_cur (HC2.out.setOther (p:=⟨w.heap.size,3,none⟩) (by simp;omega) (by simp;omega) _) (by omega) (by omega) _ _ _ _ _,put5_grown (zV (p:=⟨w.heap.size,3,none⟩) HG2.out (.inr (Nat.le_refl _)) _) (by omega) _ _ _ _ _⟩
 ·have HX2:Hid (Five (w1.alloc (.cells #[.int .i64 (-1),.int .i64 0,.int .i64 3,.int .i64 4,.int .i64 9,.int .i64 29,.int .i64 30,.int .i64 1000000000,.int .i64 1000000001] 3)) w.heap.size o r a b n):=HX1.out.kept (World.grownBy_alloc _ _ none) (by simp)
  have HN2:Hid (Five (w1.alloc (.cells #[.int .i64 (-1),.int .i64 0,.int .i64 3,.int .i64 4,.int .i64 9,.int .i64 29,.int .i64 30,.int .i64 1000000000,.int .i64 1000000001] 3)) (w.heap.size+1) 0 0 0 0 0):=HN1.out.kept (World.grownBy_alloc _ _ none) (by simp)
  have HG2:Hid (w.grownBy (w1.alloc (.cells #[.int .i64 (-1),.int .i64 0,.int .i64 3,.int .i64 4,.int .i64 9,.int .i64 29,.int .i64 30,.int .i64 1000000000,.int .i64 1000000001] 3)) (some c)):=HG1.out.trans (World.grownBy_alloc _ _ _)
  have hc1lt:=HC1.out.lt
  go_wp2_with fail
  refine (l1PickInt_any W0 c len cap w1.heap.size 9 9 a0 pick9 _ (HC1.out.alloc _) (by omega) (by omega) (by simp) (by omega) (pick9_at w1)).mono ?_
  rintro e w3 ⟨y,rfl,hc3,hg3⟩
  have HX3:Hid (Five w3 w.heap.size o r a b n):=HX2.out.kept hg3 hXc
  have HN3:Hid (Five w3 (w.heap.size+1) 0 0 0 0 0):=HN2.out.kept hg3 hNc
  have HG3:Hid (w.grownBy w3 (some c)):=HG2.out.trans hg3
  have HC3:Hid (Cur w3 W0 c a0 len cap):=hc3
  clear hc3 hg3 HN2 HG2 HX2
  obtain ⟨⟨e0,e1,e2,e3,e4⟩,fz⟩:=HN3.out.cells
  have z0:=fz 0
  have z1:=fz 1
  have z2:=fz 2
  have z3:=fz 3
  have z4:=fz 4
  clear fz
  obtain ⟨⟨g0,g1,g2,g3,g4⟩,fy⟩:=HX3.out.cells
  have y0:=fy 4
  clear fy
  go_wp2
  exact bodyPost_ret (v:=insV o r a b y) (by simp [results,Tryz.results67,go_sem,e0,e1,e2,e3,e4]) rfl ⟨_,_,_,_,_,rfl,put5_cur (HC3.out.setOther (p:=⟨w.heap.size,4,none⟩) (by simp;omega) (by simp;omega) _) (by omega) (by omega) _ _ _ _ _,put5_grown (zV (p:=⟨w.heap.size,4,none⟩) HG3.out (.inr (Nat.le_refl _)) _) (by omega) _ _ _ _ _⟩
 ·obtain ⟨⟨e0,e1,e2,e3,e4⟩,fz⟩:=HN1.out.cells
  have z0:=fz 0
  have z1:=fz 1
  have z2:=fz 2
  have z3:=fz 3
  have z4:=fz 4
  clear fz
  obtain ⟨⟨g0,g1,g2,g3,g4⟩,fy⟩:=HX1.out.cells
  clear fy
  go_wp2
  exact bodyPost_ret (v:=insV o r a b n) (by simp [results,Tryz.results67,go_sem,e0,e1,e2,e3,e4]) rfl ⟨_,_,_,_,_,rfl,put5_cur HC1.out (by omega) (by omega) _ _ _ _ _,put5_grown HG1.out (by omega) _ _ _ _ _⟩
 ·obtain ⟨⟨e0,e1,e2,e3,e4⟩,fz⟩:=HN1.out.cells
  have z0:=fz 0
  have z1:=fz 1
  have z2:=fz 2
  have z3:=fz 3
  have z4:=fz 4
  clear fz
  obtain ⟨⟨g0,g1,g2,g3,g4⟩,fy⟩:=HX1.out.cells
  clear fy
  go_wp2
  exact bodyPost_ret (v:=insV o r a b n) (by simp [results,Tryz.results67,go_sem,e0,e1,e2,e3,e4]) rfl ⟨_,_,_,_,_,rfl,put5_cur HC1.out (by omega) (by omega) _ _ _ _ _,put5_grown HG1.out (by omega) _ _ _ _ _⟩
 ·obtain ⟨⟨e0,e1,e2,e3,e4⟩,fz⟩:=HN1.out.cells
  have z0:=fz 0
  have z1:=fz 1
  have z2:=fz 2
  have z3:=fz 3
  have z4:=fz 4
  clear fz
  obtain ⟨⟨g0,g1,g2,g3,g4⟩,fy⟩:=HX1.out.cells
  clear fy
  go_wp2
  exact bodyPost_ret (v:=insV o r a b n) (by simp [results,Tryz.results67,go_sem,e0,e1,e2,e3,e4]) rfl ⟨_,_,_,_,_,rfl,put5_cur HC1.out (by omega) (by omega) _ _ _ _ _,put5_grown HG1.out (by omega) _ _ _ _ _⟩
