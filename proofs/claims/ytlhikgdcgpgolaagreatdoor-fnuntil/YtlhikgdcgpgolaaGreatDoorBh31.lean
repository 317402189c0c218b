import Derived.Test.YtlhikgdcgpgolaaGreatDoorBh0
import Derived.Test.YtlhikgdcgpgolaaGreatDoorBh19
import Derived.Test.YtlhikgdcgpgolaaGreatDoorBh13
import Derived.Lib.AppendZerosOnto
import Derived.Lib.Walk
import Derived.Lib.SliceRun
import Derived.Maps.AppendAt
import Derived.Test.YtlhikgdcgpgolaaGreatDoorBh20
import Derived.Test.YtlhikgdcgpgolaaGreatDoorBh28
import Derived.Test.YtlhikgdcgpgolaaGreatDoorBh27
import Derived.Test.YtlhikgdcgpgolaaGreatDoorBh24
import Derived.Test.YtlhikgdcgpgolaaGreatDoorBh29
import Derived.Test.YtlhikgdcgpgolaaGreatDoorBh21
import Derived.Test.YtlhikgdcgpgolaaGreatDoorBh17
import Derived.Deep.RegionHeld3
namespace Go.Proofs.YtlhikgdcgpgolaaGreatDoor
set_option maxRecDepth 100000
set_option maxHeartbeats 20000000
open Go.ChangeShapes Go.WideShapes Go.ChangeAt Go.RowKit Go.Deep
variable {z:Bool}
theorem growItem_own (n:Nat) (w:World) (h0:0<n) (hn:n<=2000000):
  Calls Tryz.prog 147 #[.slice none 0 0,.int .i64 (n:Int)] w fun e w'=>∃ c,e=.returned (.slice (some ⟨w.heap.size,0,none⟩) 0 c)/\w'.ownsRow w.heap.size 75 2 (.slice (some ⟨w.heap.size,0,none⟩) 0 c) 0 []/\Below w.heap.size w w':=by
 obtain ⟨i,z,hi,hz,hs,hb,hzs⟩:=kndT.inf
 have hby:n*i.bytes<=140737488355328:=by
  rw [hb]
  omega
 have hrz:∀ ty,(Builtin.append_ #[73,3] ty #[.slice none 0 0,.int .i64 (n:Int)]).run Tryz.prog w=.ok (.slice (some ⟨w.heap.size,0,none⟩) n (grownCap w n 0 75)) (w.drew.alloc (.cells (Builtin.zeroCells z.cells n ++ Builtin.zeroCells z.cells (grownCap w n 0 75 - n)) 75)):=fun ty=>by
  have h:=Lib.run_append_grow_zeros w 73 3 ty 75 i z .i64 .i64 kndT.und Tryz.underlying3 hi hz none 0 0 [] (run_firstCells_none w.drew i.size 0 0 0) n h0 (by omega) (by omega) (by omega) (by omega) (by rw [Nat.zero_add];exact growslice_fits (by omega) hby)
  simpa using h
 have hG:n<=grownCap w n 0 75:=grownCap_ge w _ _ _
 have hGm:grownCap w n 0 75<=maxLen:=grownCap_le_maxLen w _ _ _ (by unfold maxLen;omega)
 have OW:Hid ((w.drew.alloc (.cells (Builtin.zeroCells z.cells n ++ Builtin.zeroCells z.cells (grownCap w n 0 75 - n)) 75)).ownsRow w.heap.size 75 2 (.slice (some ⟨w.heap.size,0,none⟩) 0 (grownCap w n 0 75)) 0 []):=World.ownsRow_made (base:=w.heap.size) (e:=75) (size:=2) w.drew _ _ (Nat.le_refl _) hGm (by rw [Array.size_append,size_zeroCells,size_zeroCells,hzs];omega)
 have BW:Hid (Below w.heap.size w (w.drew.alloc (.cells (Builtin.zeroCells z.cells n ++ Builtin.zeroCells z.cells (grownCap w n 0 75 - n)) 75))):=(Below.refl w.heap.size w).drew.trans (zQ w.drew _)
 generalize grownCap w n 0 75=G at *
 generalize Builtin.zeroCells z.cells n ++ Builtin.zeroCells z.cells (G - n)=cs at *
 have hG':(n:Int)<=(G:Int):=by omega
 have hG0:(0:Int)<=(G:Int):=by omega
 have hn0:¬ ((n:Int)<0):=by omega
 have hn1:(0:Int)<(n:Int):=by omega
 clear hi hz hs hb hzs hby hGm hG
 go_enter Tryz.func147,Tryz.ntmps147
 go_wp2_with (at_builtin;refine Lib.wpList_append_run _ rfl _ _ _ _ rfl _ _ rfl rfl _ _ (hrz _) ?_)
 all_goals
  go_ret
  exact ⟨_,rfl,OW.out,BW.out⟩
theorem concatItem_own (b n1 c1 n2 c2:Nat) (a1 a2:Option Addr) (s1 s2:List Value) (w:World) (h1:n1<=1000000) (h2:n2<=1000000) (h0:0<n1+n2) (k1:w.cell? ⟨b,0,none⟩=some (.slice a1 n1 c1)) (k2:w.cell? ⟨b,1,none⟩=some (.slice a2 n2 c2)) (l1:s1.length=n1*2) (l2:s2.length=n2*2) (r1:Src w a1 s1) (r2:Src w a2 s2) (o1:∀ u ∈ s1,u.oneCell'=true) (o2:∀ u ∈ s2,u.oneCell'=true):
  Calls Tryz.prog 111 #[.slice (some ⟨b,0,none⟩) 2 2] w fun e w'=>∃ v,e=.returned v/\w'.ownsRow w.heap.size 75 2 v (n1+n2) (s1 ++ s2)/\v≠.slice none 0 0/\Below w.heap.size w w':=by
 have H1:(n1:Int)<=1000000:=by omega
 have H2:(n2:Int)<=1000000:=by omega
 have KC:Hid (w.cell? ⟨b,0,none⟩=some (.slice a1 n1 c1)/\w.cell? ⟨b,1,none⟩=some (.slice a2 n2 c2)/\b<w.heap.size):=⟨k1,k2,zJ w _ k1⟩
 have RC:Hid ((s1.length=n1*2/\Src w a1 s1/\∀ u ∈ s1,u.oneCell'=true)/\(s2.length=n2*2/\Src w a2 s2/\∀ u ∈ s2,u.oneCell'=true)):=⟨⟨l1,r1,o1⟩,⟨l2,r2,o2⟩⟩
 clear l1 l2 r1 r2 o1 o2 k1 k2
 go_enter Tryz.func111,Tryz.ntmps111
 go_wp2_with fail
 go_loopw [3,11] (fun q i wr=>∃ j:Nat,j<=2/\i=.int .i64 j/\q=.int .i64 ((if j=0 then 0 else if j=1 then n1 else n1+n2:Nat):Int)/\wr=w) (fun _ i _=>2 - (intOf i).toNat)
 case atStart=>exact ⟨0,Nat.zero_le _,rfl,rfl,rfl⟩
 case round=>
  obtain ⟨j,hj,rfl,rfl,hwr⟩:=hrel
  obtain rfl:=hwr.symm
  obtain ⟨k1,k2,-⟩:=KC.out
  by_cases hj0:j=0
  ·subst hj0
   simp only [if_true]
   go_wp2
   go_roundw
   case rel=>exact ⟨1,by omega,by go_num,by simp,by first | rfl | trivial⟩
   case measure=>simp [intOf]
  ·by_cases hj1:j=1
   ·subst hj1
    simp only [if_true,if_neg (show ¬ (1:Nat)=0 by decide)]
    have hs:¬ ((n1:Int)+(n2:Int)<0):=by omega
    go_wp2
    go_roundw
    case rel=>exact ⟨2,by omega,by go_num,by simp,by first | rfl | trivial⟩
    case measure=>simp [intOf]
   ·obtain rfl:j=2:=by omega
    simp only [if_neg (show ¬ (2:Nat)=0 by decide),if_neg (show ¬ (2:Nat)=1 by decide)]
    clear k1 k2
    go_wp2_with fail
    refine (growItem_own (n1+n2) w h0 (by omega)).mono ?_
    rintro e w1 ⟨cg,rfl,og,bg⟩
    have OG:Hid (w1.ownsRow w.heap.size 75 2 (.slice (some ⟨w.heap.size,0,none⟩) 0 cg) 0 []/\Below w.heap.size w w1):=⟨og,bg⟩
    clear og bg
    go_wp2_with fail
    go_loopw [6,27] (fun v i wx=>∃ j:Nat,j<=2/\i=.int .i64 j/\Hid (wx.ownsRow w.heap.size 75 2 v (if j=0 then 0 else if j=1 then n1 else n1+n2) (if j=0 then [] else if j=1 then s1 else s1 ++ s2)/\v≠.slice none 0 0/\Below w.heap.size w wx)) (fun _ i _=>2 - (intOf i).toNat)
    case atStart=>exact ⟨0,Nat.zero_le _,rfl,OG.out.1,by simp,OG.out.2⟩
    case round=>
     clear OG
     obtain ⟨j,hj,rfl,HZ⟩:=hrel
     obtain ⟨k1,k2,kb⟩:=KC.out
     have HB:Hid (Below w.heap.size w wr):=HZ.out.2.2
     have hne:Hid (u6≠.slice none 0 0):=HZ.out.2.1
     by_cases hj0:j=0
     ·subst hj0
      have m1:=(HB.out.cell (p:=⟨b,0,none⟩) kb).trans k1
      have OV:Hid (wr.ownsRow w.heap.size 75 2 u6 0 []):=HZ.out.1
      clear k1 k2 kb HZ
      go_wp2_with (at_builtin;refine step_append_src kndT wr rfl _ _ rfl w.heap.size u6 0 [] rfl OV.out a1 n1 c1 s1 rfl RC.out.1.1 (RC.out.1.2.1.below HB.out) RC.out.1.2.2 (by omega) HB.out.size ?_;intro v5 w5 o5 g5 q5 n5;have F5:Hid (w5.ownsRow w.heap.size 75 2 v5 n1 s1/\v5≠.slice none 0 0/\Below w.heap.size w w5):=⟨by rw [Nat.zero_add,List.nil_append] at o5;exact o5,n5 (.inl hne.out),Below.grown HB.out g5 HB.out.size (fun j hj=>(OV.out.lt j hj).1)⟩;clear o5 g5 q5 n5)
      go_roundw
      case rel=>exact ⟨1,by omega,by go_num,F5.out⟩
      case measure=>simp [intOf]
     ·by_cases hj1:j=1
      ·subst hj1
       have m2:=(HB.out.cell (p:=⟨b,1,none⟩) kb).trans k2
       have OV:Hid (wr.ownsRow w.heap.size 75 2 u6 n1 s1):=HZ.out.1
       clear k1 k2 kb HZ
       go_wp2_with (at_builtin;refine step_append_src kndT wr rfl _ _ rfl w.heap.size u6 n1 s1 rfl OV.out a2 n2 c2 s2 rfl RC.out.2.1 (RC.out.2.2.1.below HB.out) RC.out.2.2.2 (by omega) HB.out.size ?_;intro v5 w5 o5 g5 q5 n5;have F5:Hid (w5.ownsRow w.heap.size 75 2 v5 (n1+n2) (s1 ++ s2)/\v5≠.slice none 0 0/\Below w.heap.size w w5):=⟨o5,n5 (.inl hne.out),Below.grown HB.out g5 HB.out.size (fun j hj=>(OV.out.lt j hj).1)⟩;clear o5 g5 q5 n5)
       go_roundw
       case rel=>exact ⟨2,by omega,by go_num,F5.out⟩
       case measure=>simp [intOf]
      ·obtain rfl:j=2:=by omega
       have F5:Hid (wr.ownsRow w.heap.size 75 2 u6 (n1+n2) (s1 ++ s2)/\u6≠.slice none 0 0/\Below w.heap.size w wr):=HZ.out
       clear HZ k1 k2
       go_wp2
       go_ret
       exact ⟨_,rfl,F5.out⟩
theorem withItem_own (a:Option Addr) (n c:Nat) (lim:Int) (H:Nat->I2) (x:I2) (w:World) (hn:n<=1000) (hI:Src w a (fT H n)):
  Calls Tryz.prog 62 #[.agg #[.slice a n c,.int .i64 lim],.agg #[.bool x.m,.int .i64 x.v]] w fun e w'=>∃ v,e=.returned v/\w'.ownsRow w.heap.size 75 2 v (n+1) (fT (fun i=>if i=n then x else H i) (n+1))/\v≠.slice none 0 0/\Below w.heap.size w w':=by
 have HI:Hid (Src w a (fT H n)):=hI
 have HF:Hid (fT (fun i=>if i=n then x else H i) (n+1)=fT H n ++ cT x):=by
  show flat (fun i=>cT (if i=n then x else H i)) n ++ cT (if n=n then x else H n)=flat (fun i=>cT (H i)) n ++ cT x
  rw [if_pos rfl]
  congr 1
  exact flat_congr fun i hi=>by rw [if_neg (by omega)]
 clear hI
 go_enter Tryz.func62,Tryz.ntmps62
 go_wp2_with fail
 have B3:Hid (Below w.heap.size w ((((w.alloc (.cells #[.slice a n c,.int .i64 lim] 110)).alloc (.cells #[.bool x.m,.int .i64 x.v] 75)).alloc (.cells #[.bool x.m,.int .i64 x.v] 75)).alloc (.cells #[.slice a n c,.slice (some ⟨w.heap.size+2,0,none⟩) 1 1] 73))):=by
  show Below w.heap.size w ((((w.alloc (.cells #[.slice a n c,.int .i64 lim] 110)).alloc (.cells #[.bool x.m,.int .i64 x.v] 75)).alloc (.cells #[.bool x.m,.int .i64 x.v] 75)).alloc (.cells #[.slice a n c,.slice (some ⟨w.heap.size+2,0,none⟩) 1 1] 73))
  go_grown
 have k1:((((w.alloc (.cells #[.slice a n c,.int .i64 lim] 110)).alloc (.cells #[.bool x.m,.int .i64 x.v] 75)).alloc (.cells #[.bool x.m,.int .i64 x.v] 75)).alloc (.cells #[.slice a n c,.slice (some ⟨w.heap.size+2,0,none⟩) 1 1] 73)).cell? ⟨w.heap.size+3,0,none⟩=some (.slice a n c):=zW _ _ _ 0 (by simp)
 have k2:((((w.alloc (.cells #[.slice a n c,.int .i64 lim] 110)).alloc (.cells #[.bool x.m,.int .i64 x.v] 75)).alloc (.cells #[.bool x.m,.int .i64 x.v] 75)).alloc (.cells #[.slice a n c,.slice (some ⟨w.heap.size+2,0,none⟩) 1 1] 73)).cell? ⟨w.heap.size+3,1,none⟩=some (.slice (some ⟨w.heap.size+2,0,none⟩) 1 1):=zW _ _ _ 1 (by simp)
 have r2 : Src ((((w.alloc (.cells #[.slice a n c, .int .i64 lim] 110)).alloc (.cells #[.bool x.m, .int .i64 x.v] 75)).alloc (.cells #[.bool x.m, .int .i64 x.v] 75)).alloc (.cells #[.slice a n c, .slice (some ⟨w.heap.size + 2, 0, none⟩) 1 1] 73)) (some ⟨w.heap.size + 2, 0, none⟩) (cT x) :=   .inr ⟨w.heap.size + 2, 0, rfl, (by simp), fun j u hj => by
  have ba:=zQ (((w.alloc (.cells #[.slice a n c,.int .i64 lim] 110)).alloc (.cells #[.bool x.m,.int .i64 x.v] 75)).alloc (.cells #[.bool x.m,.int .i64 x.v] 75)) (.cells #[.slice a n c,.slice (some ⟨w.heap.size+2,0,none⟩) 1 1] 73)
  rw [Nat.zero_add,(bcell ba).1 _ _ (by simp),zW _ _ _ j (by simp)]
  simpa [cT] using hj⟩
 refine (concatItem_own (w.heap.size+3) n c 1 1 a (some ⟨w.heap.size+2,0,none⟩) (fT H n) (cT x) ((((w.alloc (.cells #[.slice a n c,.int .i64 lim] 110)).alloc (.cells #[.bool x.m,.int .i64 x.v] 75)).alloc (.cells #[.bool x.m,.int .i64 x.v] 75)).alloc (.cells #[.slice a n c,.slice (some ⟨w.heap.size+2,0,none⟩) 1 1] 73)) (by omega) (by omega) (by omega) k1 k2 (fT_len _ _) rfl (HI.out.below B3.out) r2 (fT_one _ _) (by intro u hu;simp [cT] at hu;rcases hu with rfl | rfl <;> rfl)).mono ?_
 rintro e w5 ⟨v5,rfl,o5,n5,b5⟩
 have F5:Hid (w5.ownsRow w.heap.size 75 2 v5 (n+1) (fT H n ++ cT x)/\v5≠.slice none 0 0/\Below w.heap.size w w5):=⟨o5.mono (by simp;omega),n5,B3.out.trans (b5.mono B3.out.size)⟩
 clear o5 n5 b5 k1 k2 r2 B3
 go_wp2
 go_ret
 rw [HF.out]
 exact ⟨_,rfl,F5.out⟩
theorem growEvent_own (n:Nat) (w:World) (h0:0<n) (hn:n<=2000000):
  Calls Tryz.prog 146 #[.slice none 0 0,.int .i64 (n:Int)] w fun e w'=>∃ c,e=.returned (.slice (some ⟨w.heap.size,0,none⟩) 0 c)/\w'.ownsRow w.heap.size 58 3 (.slice (some ⟨w.heap.size,0,none⟩) 0 c) 0 []/\Below w.heap.size w w':=by
 obtain ⟨i,z,hi,hz,hs,hb,hzs⟩:=kndE.inf
 have hby:n*i.bytes<=140737488355328:=by
  rw [hb]
  omega
 have hrz:∀ ty,(Builtin.append_ #[63,3] ty #[.slice none 0 0,.int .i64 (n:Int)]).run Tryz.prog w=.ok (.slice (some ⟨w.heap.size,0,none⟩) n (grownCap w n 0 58)) (w.drew.alloc (.cells (Builtin.zeroCells z.cells n ++ Builtin.zeroCells z.cells (grownCap w n 0 58 - n)) 58)):=fun ty=>by
  have h:=Lib.run_append_grow_zeros w 63 3 ty 58 i z .i64 .i64 kndE.und Tryz.underlying3 hi hz none 0 0 [] (run_firstCells_none w.drew i.size 0 0 0) n h0 (by omega) (by omega) (by omega) (by omega) (by rw [Nat.zero_add];exact growslice_fits (by omega) hby)
  simpa using h
 have hG:n<=grownCap w n 0 58:=grownCap_ge w _ _ _
 have hGm:grownCap w n 0 58<=maxLen:=grownCap_le_maxLen w _ _ _ (by unfold maxLen;omega)
 have OW:Hid ((w.drew.alloc (.cells (Builtin.zeroCells z.cells n ++ Builtin.zeroCells z.cells (grownCap w n 0 58 - n)) 58)).ownsRow w.heap.size 58 3 (.slice (some ⟨w.heap.size,0,none⟩) 0 (grownCap w n 0 58)) 0 []):=World.ownsRow_made (base:=w.heap.size) (e:=58) (size:=3) w.drew _ _ (Nat.le_refl _) hGm (by rw [Array.size_append,size_zeroCells,size_zeroCells,hzs];omega)
 have BW:Hid (Below w.heap.size w (w.drew.alloc (.cells (Builtin.zeroCells z.cells n ++ Builtin.zeroCells z.cells (grownCap w n 0 58 - n)) 58))):=(Below.refl w.heap.size w).drew.trans (zQ w.drew _)
 generalize grownCap w n 0 58=G at *
 generalize Builtin.zeroCells z.cells n ++ Builtin.zeroCells z.cells (G - n)=cs at *
 have hG':(n:Int)<=(G:Int):=by omega
 have hG0:(0:Int)<=(G:Int):=by omega
 have hn0:¬ ((n:Int)<0):=by omega
 have hn1:(0:Int)<(n:Int):=by omega
 clear hi hz hs hb hzs hby hGm hG
 go_enter Tryz.func146,Tryz.ntmps146
 go_wp2_with (at_builtin;refine Lib.wpList_append_run _ rfl _ _ _ _ rfl _ _ rfl rfl _ _ (hrz _) ?_)
 all_goals
  go_ret
  exact ⟨_,rfl,OW.out,BW.out⟩
theorem concatEvent_own (b n1 c1 n2 c2:Nat) (a1 a2:Option Addr) (s1 s2:List Value) (w:World) (h1:n1<=1000000) (h2:n2<=1000000) (h0:0<n1+n2) (k1:w.cell? ⟨b,0,none⟩=some (.slice a1 n1 c1)) (k2:w.cell? ⟨b,1,none⟩=some (.slice a2 n2 c2)) (l1:s1.length=n1*3) (l2:s2.length=n2*3) (r1:Src w a1 s1) (r2:Src w a2 s2) (o1:∀ u ∈ s1,u.oneCell'=true) (o2:∀ u ∈ s2,u.oneCell'=true):
  Calls Tryz.prog 110 #[.slice (some ⟨b,0,none⟩) 2 2] w fun e w'=>∃ v,e=.returned v/\w'.ownsRow w.heap.size 58 3 v (n1+n2) (s1 ++ s2)/\v≠.slice none 0 0/\Below w.heap.size w w':=by
 have H1:(n1:Int)<=1000000:=by omega
 have H2:(n2:Int)<=1000000:=by omega
 have KC:Hid (w.cell? ⟨b,0,none⟩=some (.slice a1 n1 c1)/\w.cell? ⟨b,1,none⟩=some (.slice a2 n2 c2)/\b<w.heap.size):=⟨k1,k2,zJ w _ k1⟩
 have RC:Hid ((s1.length=n1*3/\Src w a1 s1/\∀ u ∈ s1,u.oneCell'=true)/\(s2.length=n2*3/\Src w a2 s2/\∀ u ∈ s2,u.oneCell'=true)):=⟨⟨l1,r1,o1⟩,⟨l2,r2,o2⟩⟩
 clear l1 l2 r1 r2 o1 o2 k1 k2
 go_enter Tryz.func110,Tryz.ntmps110
 go_wp2_with fail
 go_loopw [3,11] (fun q i wr=>∃ j:Nat,j<=2/\i=.int .i64 j/\q=.int .i64 ((if j=0 then 0 else if j=1 then n1 else n1+n2:Nat):Int)/\wr=w) (fun _ i _=>2 - (intOf i).toNat)
 case atStart=>exact ⟨0,Nat.zero_le _,rfl,rfl,rfl⟩
 case round=>
  obtain ⟨j,hj,rfl,rfl,hwr⟩:=hrel
  obtain rfl:=hwr.symm
  obtain ⟨k1,k2,-⟩:=KC.out
  by_cases hj0:j=0
  ·subst hj0
   simp only [if_true]
   go_wp2
   go_roundw
   case rel=>exact ⟨1,by omega,by go_num,by simp,by first | rfl | trivial⟩
   case measure=>simp [intOf]
  ·by_cases hj1:j=1
   ·subst hj1
    simp only [if_true,if_neg (show ¬ (1:Nat)=0 by decide)]
    have hs:¬ ((n1:Int)+(n2:Int)<0):=by omega
    go_wp2
    go_roundw
    case rel=>exact ⟨2,by omega,by go_num,by simp,by first | rfl | trivial⟩
    case measure=>simp [intOf]
   ·obtain rfl:j=2:=by omega
    simp only [if_neg (show ¬ (2:Nat)=0 by decide),if_neg (show ¬ (2:Nat)=1 by decide)]
    clear k1 k2
    go_wp2_with fail
    refine (growEvent_own (n1+n2) w h0 (by omega)).mono ?_
    rintro e w1 ⟨cg,rfl,og,bg⟩
    have OG:Hid (w1.ownsRow w.heap.size 58 3 (.slice (some ⟨w.heap.size,0,none⟩) 0 cg) 0 []/\Below w.heap.size w w1):=⟨og,bg⟩
    clear og bg
    go_wp2_with fail
    go_loopw [6,27] (fun v i wx=>∃ j:Nat,j<=2/\i=.int .i64 j/\Hid (wx.ownsRow w.heap.size 58 3 v (if j=0 then 0 else if j=1 then n1 else n1+n2) (if j=0 then [] else if j=1 then s1 else s1 ++ s2)/\v≠.slice none 0 0/\Below w.heap.size w wx)) (fun _ i _=>2 - (intOf i).toNat)
    case atStart=>exact ⟨0,Nat.zero_le _,rfl,OG.out.1,by simp,OG.out.2⟩
    case round=>
     clear OG
     obtain ⟨j,hj,rfl,HZ⟩:=hrel
     obtain ⟨k1,k2,kb⟩:=KC.out
     have HB:Hid (Below w.heap.size w wr):=HZ.out.2.2
     have hne:Hid (u6≠.slice none 0 0):=HZ.out.2.1
     by_cases hj0:j=0
     ·subst hj0
      have m1:=(HB.out.cell (p:=⟨b,0,none⟩) kb).trans k1
      have OV:Hid (wr.ownsRow w.heap.size 58 3 u6 0 []):=HZ.out.1
      clear k1 k2 kb HZ
      go_wp2_with (at_builtin;refine step_append_src kndE wr rfl _ _ rfl w.heap.size u6 0 [] rfl OV.out a1 n1 c1 s1 rfl RC.out.1.1 (RC.out.1.2.1.below HB.out) RC.out.1.2.2 (by omega) HB.out.size ?_;intro v5 w5 o5 g5 q5 n5;have F5:Hid (w5.ownsRow w.heap.size 58 3 v5 n1 s1/\v5≠.slice none 0 0/\Below w.heap.size w w5):=⟨by rw [Nat.zero_add,List.nil_append] at o5;exact o5,n5 (.inl hne.out),Below.grown HB.out g5 HB.out.size (fun j hj=>(OV.out.lt j hj).1)⟩;clear o5 g5 q5 n5)
      go_roundw
      case rel=>exact ⟨1,by omega,by go_num,F5.out⟩
      case measure=>simp [intOf]
     ·by_cases hj1:j=1
      ·subst hj1
       have m2:=(HB.out.cell (p:=⟨b,1,none⟩) kb).trans k2
       have OV:Hid (wr.ownsRow w.heap.size 58 3 u6 n1 s1):=HZ.out.1
       clear k1 k2 kb HZ
       go_wp2_with (at_builtin;refine step_append_src kndE wr rfl _ _ rfl w.heap.size u6 n1 s1 rfl OV.out a2 n2 c2 s2 rfl RC.out.2.1 (RC.out.2.2.1.below HB.out) RC.out.2.2.2 (by omega) HB.out.size ?_;intro v5 w5 o5 g5 q5 n5;have F5:Hid (w5.ownsRow w.heap.size 58 3 v5 (n1+n2) (s1 ++ s2)/\v5≠.slice none 0 0/\Below w.heap.size w w5):=⟨o5,n5 (.inl hne.out),Below.grown HB.out g5 HB.out.size (fun j hj=>(OV.out.lt j hj).1)⟩;clear o5 g5 q5 n5)
       go_roundw
       case rel=>exact ⟨2,by omega,by go_num,F5.out⟩
       case measure=>simp [intOf]
      ·obtain rfl:j=2:=by omega
       have F5:Hid (wr.ownsRow w.heap.size 58 3 u6 (n1+n2) (s1 ++ s2)/\u6≠.slice none 0 0/\Below w.heap.size w wr):=HZ.out
       clear HZ k1 k2
       go_wp2
       go_ret
       exact ⟨_,rfl,F5.out⟩
theorem withEvent_own (a:Option Addr) (n c:Nat) (lim:Int) (H:Nat->E3) (x:E3) (w:World) (hn:n<=1000) (hI:Src w a (fE H n)):
  Calls Tryz.prog 60 #[.agg #[.slice a n c,.int .i64 lim],.agg #[.int .i64 x.k,.int .i64 x.q,.int .i64 x.v]] w fun e w'=>∃ v,e=.returned v/\w'.ownsRow w.heap.size 58 3 v (n+1) (fE (fun i=>if i=n then x else H i) (n+1))/\v≠.slice none 0 0/\Below w.heap.size w w':=by
 have HI:Hid (Src w a (fE H n)):=hI
 have HF:Hid (fE (fun i=>if i=n then x else H i) (n+1)=fE H n ++ cE x):=by
  show flat (fun i=>cE (if i=n then x else H i)) n ++ cE (if n=n then x else H n)=flat (fun i=>cE (H i)) n ++ cE x
  rw [if_pos rfl]
  congr 1
  exact flat_congr fun i hi=>by rw [if_neg (by omega)]
 clear hI
 go_enter Tryz.func60,Tryz.ntmps60
 go_wp2_with fail
 have B3:Hid (Below w.heap.size w ((((w.alloc (.cells #[.slice a n c,.int .i64 lim] 106)).alloc (oQ0 x.k x.q x.v)).alloc (oQ0 x.k x.q x.v)).alloc (.cells #[.slice a n c,.slice (some ⟨w.heap.size+2,0,none⟩) 1 1] 63))):=by
  show Below w.heap.size w ((((w.alloc (.cells #[.slice a n c,.int .i64 lim] 106)).alloc (oQ0 x.k x.q x.v)).alloc (oQ0 x.k x.q x.v)).alloc (.cells #[.slice a n c,.slice (some ⟨w.heap.size+2,0,none⟩) 1 1] 63))
  go_grown
 have k1:((((w.alloc (.cells #[.slice a n c,.int .i64 lim] 106)).alloc (oQ0 x.k x.q x.v)).alloc (oQ0 x.k x.q x.v)).alloc (.cells #[.slice a n c,.slice (some ⟨w.heap.size+2,0,none⟩) 1 1] 63)).cell? ⟨w.heap.size+3,0,none⟩=some (.slice a n c):=zW _ _ _ 0 (by simp)
 have k2:((((w.alloc (.cells #[.slice a n c,.int .i64 lim] 106)).alloc (oQ0 x.k x.q x.v)).alloc (oQ0 x.k x.q x.v)).alloc (.cells #[.slice a n c,.slice (some ⟨w.heap.size+2,0,none⟩) 1 1] 63)).cell? ⟨w.heap.size+3,1,none⟩=some (.slice (some ⟨w.heap.size+2,0,none⟩) 1 1):=zW _ _ _ 1 (by simp)
 have r2 : Src ((((w.alloc (.cells #[.slice a n c, .int .i64 lim] 106)).alloc (oQ0 x.k x.q x.v)).alloc (oQ0 x.k x.q x.v)).alloc (.cells #[.slice a n c, .slice (some ⟨w.heap.size + 2, 0, none⟩) 1 1] 63)) (some ⟨w.heap.size + 2, 0, none⟩) (cE x) :=   .inr ⟨w.heap.size + 2, 0, rfl, (by simp), fun j u hj => by
  have ba:=zQ (((w.alloc (.cells #[.slice a n c,.int .i64 lim] 106)).alloc (oQ0 x.k x.q x.v)).alloc (oQ0 x.k x.q x.v)) (.cells #[.slice a n c,.slice (some ⟨w.heap.size+2,0,none⟩) 1 1] 63)
  rw [Nat.zero_add,(bcell ba).1 _ _ (by simp),zW _ _ _ j (by simp)]
  simpa [cE] using hj⟩
 refine (concatEvent_own (w.heap.size+3) n c 1 1 a (some ⟨w.heap.size+2,0,none⟩) (fE H n) (cE x) ((((w.alloc (.cells #[.slice a n c,.int .i64 lim] 106)).alloc (oQ0 x.k x.q x.v)).alloc (oQ0 x.k x.q x.v)).alloc (.cells #[.slice a n c,.slice (some ⟨w.heap.size+2,0,none⟩) 1 1] 63)) (by omega) (by omega) (by omega) k1 k2 (fE_len _ _) rfl (HI.out.below B3.out) r2 (fE_one _ _) (by intro u hu;simp [cE] at hu;rcases hu with rfl | rfl | rfl <;> rfl)).mono ?_
 rintro e w5 ⟨v5,rfl,o5,n5,b5⟩
 have F5:Hid (w5.ownsRow w.heap.size 58 3 v5 (n+1) (fE H n ++ cE x)/\v5≠.slice none 0 0/\Below w.heap.size w w5):=⟨o5.mono (by simp;omega),n5,B3.out.trans (b5.mono B3.out.size)⟩
 clear o5 n5 b5 k1 k2 r2 B3
 go_wp2
 go_ret
 rw [HF.out]
 exact ⟨_,rfl,F5.out⟩
variable {z:Bool}
theorem restItem_own (b n cap:Nat) (lim:Int) (H:Nat->I2) (w:World) (h0:0<n) (hn:n<=1000) (hc:n<=cap) (hcm:cap<=maxLen) (hb:b<w.heap.size) (hI:ItAt w b 0 n H):
  Calls Tryz.prog 64 #[.agg #[.slice (some ⟨b,0,none⟩) n cap,.int .i64 lim]] w fun e w'=>∃ a c,e=.returned (.slice a (n - 1) c)/\w'.ownsRow w.heap.size 75 2 (.slice a (n - 1) c) (n - 1) (fT (fun i=>H (i+1)) (n - 1))/\Value.slice a (n - 1) c≠.slice none 0 0/\Below w.heap.size w w':=by
 have hn':(1:Int)<=(n:Int):=by omega
 have hnc:(n:Int)<=(cap:Int):=by omega
 have hl1:(n:Int) - 1=((n - 1:Nat):Int):=by omega
 have BA:Hid (Below w.heap.size w (w.alloc (.cells #[.slice (some ⟨b,0,none⟩) n cap,.int .i64 lim] 110))):=zQ _ _
 have SR:Hid (Src w (some ⟨b,2,none⟩) (fT (fun i=>H (i+1)) (n - 1))):=by
  refine srcOf (sz:=2) hb (by omega) (fun _ _=>rfl) fun i hi j hj=>?_
  obtain ⟨q0,q1⟩:=hI (i+1) (by omega)
  match j,hj with
  | 0,_=>rw [show 2+(i*2+0)=0+(i+1)*2 by omega];exact q0
  | 1,_=>rw [show 2+(i*2+1)=0+(i+1)*2+1 by omega];exact q1
 have HN:Hid (0<n/\n<=1000/\n<=cap):=⟨h0,hn,hc⟩
 clear hI
 by_cases hcb:cap=1
 ·subst hcb
  have hn1:n=1:=by omega
  subst hn1
  clear hl1 hnc hn' h0 hn hc
  go_enter Tryz.func64,Tryz.ntmps64
  go_wp2_with fail
  refine (cloneItem_own _ _ 0 _ (fun i=>H (i+1)) _ (by omega) (.inl rfl)).mono ?_
  rintro e w5 ⟨a5,c5,rfl,o5,n5,b5⟩
  have F5:Hid (w5.ownsRow w.heap.size 75 2 (.slice a5 0 c5) 0 (fT (fun i=>H (i+1)) 0)/\Value.slice a5 0 c5≠.slice none 0 0/\Below w.heap.size w w5):=⟨o5.mono (by simp),n5,BA.out.trans (b5.mono BA.out.size)⟩
  clear o5 n5 b5
  go_wp2
  go_ret
  exact ⟨_,_,rfl,F5.out⟩
 ·go_enter Tryz.func64,Tryz.ntmps64
  go_wp2_with fail
  refine (cloneItem_own b 2 (n - 1) _ (fun i=>H (i+1)) _ (by have:=HN.out;omega) (SR.out.below BA.out)).mono ?_
  rintro e w5 ⟨a5,c5,rfl,o5,n5,b5⟩
  have F5:Hid (w5.ownsRow w.heap.size 75 2 (.slice a5 (n - 1) c5) (n - 1) (fT (fun i=>H (i+1)) (n - 1))/\Value.slice a5 (n - 1) c5≠.slice none 0 0/\Below w.heap.size w w5):=⟨o5.mono (by simp),n5,BA.out.trans (b5.mono BA.out.size)⟩
  clear o5 n5 b5
  go_wp2
  go_ret
  exact ⟨_,_,rfl,F5.out⟩
variable {z:Bool}
structure Hp (z:Bool) (w:World) (B:Nat) (c0:Nat->Nat) (k q v:Int) (y:Sy) (vp vs vw vh:Value) (wx:World):Prop where
 be:Below B w wx
 bx:BoxC wx w.heap.size vp vs vw vh
 ev:EvK wx (w.heap.size+1) k q v
 kp:∀ b,b<w.heap.size->c0 b=0->wx.heap[b]? = w.heap[b]?
 ow:∃ c up us uw uh,OwnS z wx B c y vp vs vw vh up us uw uh/\c w.heap.size=0/\c (w.heap.size+1)=0/\∀ b,b<w.heap.size->c b=c0 b
theorem Sy.Ok.lens {y:Sy} (h:y.Ok) {p:Nat} (hp:p<y.pn):y.pL p<=maxLen/\(y.sS p).rs.length<=1048576/\(y.sS p).os.length<=1048576:=by
 have h1:=h.four hp
 simp only [progOkB,Bool.and_eq_true,inB,decide_eq_true_eq] at h1
 obtain ⟨⟨r0,r1,r2,r3,e,-⟩,-,h60,-⟩:=st_parts (h.st hp)
 refine ⟨?_,by rw [e];simp,by omega⟩
 have:=h1.2.1
 unfold maxLen
 omega
theorem ownsRow_cap {w:World} {B sz n m c:Nat} {e:TypeId} {a:Option Addr} {xs:List Value} (h:w.ownsRow B e sz (.slice a n c) m xs):c<=maxLen:=by
 rcases h.2 with ⟨e,-⟩ | ⟨g,cap,cur,e,-,-,-,hc,-⟩
 ·simp only [Value.slice.injEq] at e
  omega
 ·simp only [Value.slice.injEq] at e
  omega
theorem Hp.below {w wx wy:World} {B:Nat} {c0:Nat->Nat} {k q v:Int} {y:Sy} {vp vs vw vh:Value} (h:Hp z w B c0 k q v y vp vs vw vh wx) (hB:B<=wx.heap.size) (b:Below wx.heap.size wx wy):Hp z w B c0 k q v y vp vs vw vh wy:=by
 obtain ⟨c,up,us,uw,uh,o,z0,z1,zc⟩:=h.ow
 exact ⟨h.be.trans (b.mono hB),h.bx.below b,h.ev.below b,fun j hj hc=>(b.block j (Nat.lt_trans hj h.bx.ltM)).trans (h.kp j hj hc),c,up,us,uw,uh,o.below b,z0,z1,zc⟩
theorem Hp.le {w wx:World} {B:Nat} {c0:Nat->Nat} {k q v:Int} {y:Sy} {vp vs vw vh:Value} (h:Hp z w B c0 k q v y vp vs vw vh wx) (hB:B<=w.heap.size):B<=wx.heap.size:=zP hB (Nat.le_of_lt h.bx.ltM)
theorem col_ne {c:Nat->Nat} {a b i j:Nat} (ha:c a=i) (hb:c b=j) (h:i≠j):a≠b:=fun e=>h (by rw [<- ha,<- hb,e])
theorem Hp.putW {w wx w1:World} {B g cap:Nat} {c0:Nat->Nat} {k q v:Int} {y:Sy} {vp vs vh:Value} (h:Hp z w B c0 k q v y vp vs (.slice (some ⟨g,0,none⟩) y.wn cap) vh wx) (hB:B<=w.heap.size) {J m:Nat} {u':Value} {H':Nat->I2} (hJ:J<y.wn) (b1:Below wx.heap.size wx w1) (hu:w1.ownsRow wx.heap.size 75 2 u' m (fT H' m)) (hne:u'≠.slice none 0 0):
  Hp z w B c0 k q v (y.setW J m H') vp vs (.slice (some ⟨g,0,none⟩) y.wn cap) vh (w1.setCell ⟨g,J,none⟩ u'):=by
 obtain ⟨c,up,us,uw,uh,o,z0,z1,zc⟩:=h.ow
 have hg:=o.t.rb g rfl
 have hz:∀ b,c b=0->b<wx.heap.size->(w1.setCell ⟨g,J,none⟩ u').heap[b]? = wx.heap[b]?:=fun b hb hl=>(zO _ _ _ _ (col_ne hb hg.2 (by decide))).trans (b1.block b hl)
 have hW:=h.le hB
 exact ⟨(h.be.trans (b1.mono hW)).setCell hg.1 _,h.bx.blkM (hz _ z0 h.bx.ltM),h.ev.blk (hz _ z1 h.ev.lt),fun j hj hc=>(hz j ((zc j hj).trans hc) (Nat.lt_trans hj h.bx.ltM)).trans (h.kp j hj hc),_,up,us,_,uh,o.putW hJ hW b1.size (fun b hb _=>b1.block b hb) (ownsRow_base0 hu) hne (fun b hb=>.inr (hu.lt b hb).1),(rcol_old h.bx.ltM).trans z0,(rcol_old h.ev.lt).trans z1,fun j hj=>(rcol_old (Nat.lt_trans hj h.bx.ltM)).trans (zc j hj)⟩
theorem Hp.putH {w wx w1:World} {B g cap:Nat} {c0:Nat->Nat} {k q v:Int} {y:Sy} {vp vs vw:Value} (h:Hp z w B c0 k q v y vp vs vw (.slice (some ⟨g,0,none⟩) y.hn cap) wx) (hB:B<=w.heap.size) {J m:Nat} {u':Value} {H':Nat->E3} (hJ:J<y.hn) (b1:Below wx.heap.size wx w1) (hu:w1.ownsRow wx.heap.size 58 3 u' m (fE H' m)) (hne:u'≠.slice none 0 0):
  Hp z w B c0 k q v (y.setH J m H') vp vs vw (.slice (some ⟨g,0,none⟩) y.hn cap) (w1.setCell ⟨g,J,none⟩ u'):=by
 obtain ⟨c,up,us,uw,uh,o,z0,z1,zc⟩:=h.ow
 have hg:=o.h.rb g rfl
 have hz:∀ b,c b=0->b<wx.heap.size->(w1.setCell ⟨g,J,none⟩ u').heap[b]? = wx.heap[b]?:=fun b hb hl=>(zO _ _ _ _ (col_ne hb hg.2 (by decide))).trans (b1.block b hl)
 have hW:=h.le hB
 exact ⟨(h.be.trans (b1.mono hW)).setCell hg.1 _,h.bx.blkM (hz _ z0 h.bx.ltM),h.ev.blk (hz _ z1 h.ev.lt),fun j hj hc=>(hz j ((zc j hj).trans hc) (Nat.lt_trans hj h.bx.ltM)).trans (h.kp j hj hc),_,up,us,uw,_,o.putH hJ hW b1.size (fun b hb _=>b1.block b hb) (ownsRow_base0 hu) hne (fun b hb=>.inr (hu.lt b hb).1),(rcol_old h.bx.ltM).trans z0,(rcol_old h.ev.lt).trans z1,fun j hj=>(rcol_old (Nat.lt_trans hj h.bx.ltM)).trans (zc j hj)⟩
theorem Hp.putS {w wx w1:World} {B g cap:Nat} {c0:Nat->Nat} {k q v:Int} {y:Sy} {vp vw vh:Value} (h:Hp z w B c0 k q v y vp (.slice (some ⟨g,0,none⟩) y.sn cap) vw vh wx) (hB:B<=w.heap.size) {i:Nat} (hi:i<y.sn) {ra oa:Option Addr} {rn rc on oc:Nat} {p code:Int} {T:S4} (b1:Below wx.heap.size wx w1) (hu:StOwn w1 wx.heap.size (stV p ra rn rc oa on oc code) T.p T.rs T.os T.c):
  Hp z w B c0 k q v (y.setS i T) vp (.slice (some ⟨g,0,none⟩) y.sn cap) vw vh ((((w1.setCell ⟨g,i*4,none⟩ (.int .i64 p)).setCell ⟨g,i*4+1,none⟩ (.slice ra rn rc)).setCell ⟨g,i*4+2,none⟩ (.slice oa on oc)).setCell ⟨g,i*4+3,none⟩ (.int .i64 code)):=by
 obtain ⟨c,up,us,uw,uh,o,z0,z1,zc⟩:=h.ow
 have hg:=o.s.rb g rfl
 have hz:∀ b,c b=0->b<wx.heap.size->((((w1.setCell ⟨g,i*4,none⟩ (.int .i64 p)).setCell ⟨g,i*4+1,none⟩ (.slice ra rn rc)).setCell ⟨g,i*4+2,none⟩ (.slice oa on oc)).setCell ⟨g,i*4+3,none⟩ (.int .i64 code)).heap[b]? = wx.heap[b]?:=fun b hb hl=>by
  have hn:=col_ne hb hg.2 (by decide)
  exact ((zO _ _ _ _ hn).trans ((zO _ _ _ _ hn).trans ((zO _ _ _ _ hn).trans (zO _ _ _ _ hn)))).trans (b1.block b hl)
 have hW:=h.le hB
 exact ⟨((((h.be.trans (b1.mono hW)).setCell hg.1 _).setCell hg.1 _).setCell hg.1 _).setCell hg.1 _,h.bx.blkM (hz _ z0 h.bx.ltM),h.ev.blk (hz _ z1 h.ev.lt),fun j hj hc=>(hz j ((zc j hj).trans hc) (Nat.lt_trans hj h.bx.ltM)).trans (h.kp j hj hc),_,up,_,uw,uh,o.putS hi hW b1 hu,(rcol_old h.bx.ltM).trans z0,(rcol_old h.ev.lt).trans z1,fun j hj=>(rcol_old (Nat.lt_trans hj h.bx.ltM)).trans (zc j hj)⟩
def OwnK (z:Bool) (w:World) (B:Nat) (c0:Nat->Nat) (N:Nat) (y:Sy) (vp vs vw vh:Value):Prop:=∃ c up us uw uh,OwnS z w B c y vp vs vw vh up us uw uh/\∀ b,b<N->c b=c0 b
theorem OwnK.own {w:World} {B N:Nat} {c0:Nat->Nat} {y:Sy} {vp vs vw vh:Value} (h:OwnK z w B c0 N y vp vs vw vh):OwnSys z w B y (.agg #[vp,vs,vw,vh]):=by
 obtain ⟨c,up,us,uw,uh,o,-⟩:=h
 exact ⟨c,vp,vs,vw,vh,up,us,uw,uh,rfl,o⟩
theorem Hp.ownK {w wx:World} {B:Nat} {c0:Nat->Nat} {k q v:Int} {y:Sy} {vp vs vw vh:Value} (h:Hp z w B c0 k q v y vp vs vw vh wx):OwnK z wx B c0 w.heap.size y vp vs vw vh:=by
 obtain ⟨c,up,us,uw,uh,o,-,-,hc⟩:=h.ow
 exact ⟨c,up,us,uw,uh,o,hc⟩
variable {z:Bool}
theorem happen_own (y:Sy) (p:Nat) (k q v0:Int) (w:World) (B:Nat) (c:Nat->Nat) (vp vs vw vh:Value) (up us uw uh:Nat->Value) (o:OwnS z w B c y vp vs vw vh up us uw uh) (hB:B<=w.heap.size) (hO:y.Ok) (hp:p<y.pn) (hk2:k=2->0<=q/\q<y.pn) (hk3:k=3->0<=q/\q<y.pn/\0<y.wL (q.toNat*y.pn+p)):
  Calls Tryz.prog 26 #[.agg #[vp,vs,vw,vh],.int .i64 p,evV k q v0] w fun e w'=>e=.returned (.tuple #[])/\Below B w w'/\(∀ b,b<w.heap.size->c b=0->w'.heap[b]? = w.heap[b]?)/\OwnK z w' B c w.heap.size ((y.evt p k q v0).way p k q v0) vp vs vw vh:=by
 obtain ⟨⟨h1,h4⟩,hs,hh,hw⟩:=hO.cn
 have hps:p<y.sn:=by omega
 have hph:p<y.hn:=by omega
 have hw0:0<y.wn:=by rw [hw];exact Nat.mul_pos (by omega) (by omega)
 obtain ⟨gp,cp,rfl,-,-,-,-⟩:=o.p.cell hp
 obtain ⟨gs,cs,rfl,-,-,-,-⟩:=o.s.cell hps
 obtain ⟨gh,ch,rfl,-,-,-,-⟩:=o.h.cell hph
 obtain ⟨gw,cw,rfl,-,-,-,-⟩:=o.t.cell hw0
 have hL200:y.hL p<=200:=hO.le200 hp
 have HP4:Hid (progOkB (y.pH p) (y.pL p) 4=true):=hO.four hp
 have HST:Hid (OkS (y.pL p) (y.sS p)):=hO.st hp
 have HLn:Hid (y.pL p<=maxLen/\(y.sS p).rs.length<=1048576/\(y.sS p).os.length<=1048576):=hO.lens hp
 have HWY:Hid (∀ a b,a<y.pn->b<y.pn->y.wL (a*y.pn+b)<=12):=fun a b ha hb=>hO.way ha hb
 have HK2:Hid (k=2->0<=q/\q<y.pn):=hk2
 have HK3:Hid (k=3->0<=q/\q<y.pn/\0<y.wL (q.toNat*y.pn+p)):=hk3
 have HN:Hid (y.sn=y.pn/\y.hn=y.pn/\y.wn=y.pn*y.pn):=⟨hs,hh,hw⟩
 have hp':(p:Int)<(y.pn:Int):=by omega
 have hps':(p:Int)<(y.sn:Int):=by omega
 have hph':(p:Int)<(y.hn:Int):=by omega
 have H0:Hid (Hp z w B c k q v0 y (.slice (some ⟨gp,0,none⟩) y.pn cp) (.slice (some ⟨gs,0,none⟩) y.sn cs) (.slice (some ⟨gw,0,none⟩) y.wn cw) (.slice (some ⟨gh,0,none⟩) y.hn ch) ((w.alloc (oQ4 (some ⟨gp,0,none⟩) y.pn cp (some ⟨gs,0,none⟩) y.sn cs (some ⟨gw,0,none⟩) y.wn cw (some ⟨gh,0,none⟩) y.hn ch)).alloc (oQ0 k q v0))):=by
  have b1:=zQ w (oQ4 (some ⟨gp,0,none⟩) y.pn cp (some ⟨gs,0,none⟩) y.sn cs (some ⟨gw,0,none⟩) y.wn cw (some ⟨gh,0,none⟩) y.hn ch)
  have b2:=zQ (w.alloc (oQ4 (some ⟨gp,0,none⟩) y.pn cp (some ⟨gs,0,none⟩) y.sn cs (some ⟨gw,0,none⟩) y.wn cw (some ⟨gh,0,none⟩) y.hn ch)) (oQ0 k q v0)
  have b:=b1.trans (b2.mono b1.size)
  exact ⟨b.mono hB,(BoxC.new w _ _ _ _ _).below b2,by simpa using EvK.new (w.alloc (oQ4 (some ⟨gp,0,none⟩) y.pn cp (some ⟨gs,0,none⟩) y.sn cs (some ⟨gw,0,none⟩) y.wn cw (some ⟨gh,0,none⟩) y.hn ch)) k q v0 58,fun j hj _=>b.block j hj,_,up,us,uw,uh,(o.recol 0).below b,rcol_new (Nat.le_refl _),rcol_new (Nat.le_succ _),fun j hj=>rcol_old hj⟩
 clear o hO hk2 hk3 hw0 hs hh hw
 go_enter Tryz.func26,Tryz.ntmps26
 go_upto_region 1 with fail
 generalize (w.alloc (oQ4 (some ⟨gp,0,none⟩) y.pn cp (some ⟨gs,0,none⟩) y.sn cs (some ⟨gw,0,none⟩) y.wn cw (some ⟨gh,0,none⟩) y.hn ch)).alloc (oQ0 k q v0)=W2 at *
 obtain ⟨c9,up9,us9,uw9,uh9,o9,-,-,-⟩:=H0.out.ow
 obtain ⟨b0,b1,b2,b3⟩:=H0.out.bx
 obtain ⟨k0,k1,k2,kf⟩:=id H0.out.ev
 have m0:=H0.out.bx.ltM
 have mN:=H0.out.ev.lt
 obtain ⟨g9,k9,ew,-,lp,cellp,-⟩:=o9.p.cell hp
 simp only [Value.slice.injEq,Option.some.injEq,Addr.mk.injEq,and_true,true_and] at ew
 obtain ⟨rfl,rfl⟩:=ew
 obtain ⟨b9,cb9,eup,hb9,hI,-⟩:=atI (o9.p.own p hp) (o9.p.nn nzI p hp)
 rw [eup] at cellp
 obtain ⟨g9,k9,ew,-,ls,cels,fs⟩:=o9.s.cell hps
 simp only [Value.slice.injEq,Option.some.injEq,Addr.mk.injEq,and_true,true_and] at ew
 obtain ⟨rfl,rfl⟩:=ew
 obtain ⟨ra9,rc9,oa9,oc9,eus,s0,s1,s2,s3⟩:=cels
 have hsl:Sl W2 ra9 (y.sS p).rs/\Sl W2 oa9 (y.sS p).os:=by
  have h4:=o9.s.own p hps
  rw [eus] at h4
  exact ⟨h4.parts.1.slOf,h4.parts.2.1.slOf⟩
 clear eup eus
 refine wp_region_G (fun w'=>w'.cell? ⟨w.heap.size,0,none⟩=some (.slice (some ⟨gp,0,none⟩) y.pn cp)/\w'.cell? ⟨w.heap.size,1,none⟩=some (.slice (some ⟨gs,0,none⟩) y.sn cs)/\w'.cell? ⟨gp,p,none⟩=some (.slice (some ⟨b9,0,none⟩) (y.pL p) cb9)/\w'.cell? ⟨gs,p*4,none⟩=some (.int .i64 (y.sS p).p)/\w'.cell? ⟨gs,p*4+1,none⟩=some (.slice ra9 (y.sS p).rs.length rc9)/\w'.cell? ⟨gs,p*4+2,none⟩=some (.slice oa9 (y.sS p).os.length oc9)/\w'.cell? ⟨gs,p*4+3,none⟩=some (.int .i64 (y.sS p).c)/\w'.cell? ⟨w.heap.size+1,0,none⟩=some (.int .i64 k)/\w'.cell? ⟨w.heap.size+1,1,none⟩=some (.int .i64 q)/\w'.cell? ⟨w.heap.size+1,2,none⟩=some (.int .i64 v0)) (fun i=>i == 19) (by kernel_rfl) ?_
 have hHeld:(fun w'=>w'.cell? ⟨w.heap.size,0,none⟩=some (.slice (some ⟨gp,0,none⟩) y.pn cp)/\w'.cell? ⟨w.heap.size,1,none⟩=some (.slice (some ⟨gs,0,none⟩) y.sn cs)/\w'.cell? ⟨gp,p,none⟩=some (.slice (some ⟨b9,0,none⟩) (y.pL p) cb9)/\w'.cell? ⟨gs,p*4,none⟩=some (.int .i64 (y.sS p).p)/\w'.cell? ⟨gs,p*4+1,none⟩=some (.slice ra9 (y.sS p).rs.length rc9)/\w'.cell? ⟨gs,p*4+2,none⟩=some (.slice oa9 (y.sS p).os.length oc9)/\w'.cell? ⟨gs,p*4+3,none⟩=some (.int .i64 (y.sS p).c)/\w'.cell? ⟨w.heap.size+1,0,none⟩=some (.int .i64 k)/\w'.cell? ⟨w.heap.size+1,1,none⟩=some (.int .i64 q)/\w'.cell? ⟨w.heap.size+1,2,none⟩=some (.int .i64 v0)) W2.drew:=⟨b0,b1,cellp,s0,s1,s2,s3,k0,k1,k2⟩
 refine wpGT_of [0,1,2,3,4,5,6,7,8,9,10,11,12,13] ?_
 iterate 14 (refine wpGT_k rfl hHeld ?_)
 refine wpGT_nil ?_
 refine wpG_one 14 rfl (by kernel_rfl) (fun K hK=>?_)
 refine stepR_call rfl 58 _ _ rfl #[.slice (some ⟨b9,0,none⟩) (y.pL p) cb9,stV (y.sS p).p ra9 (y.sS p).rs.length rc9 oa9 (y.sS p).os.length oc9 (y.sS p).c,evV k q v0] (by simp [Act.eval]) (yA Tryz.func58 (by kernel_rfl) rfl) (doIn_any b9 0 (y.pL p) cb9 (y.pH p) (y.sS p).p (y.sS p).c ra9 oa9 rc9 oc9 (y.sS p).rs (y.sS p).os k q v0 W2.drew HLn.out.1 hb9 hI HLn.out.2.1 HLn.out.2.2 hsl.1 hsl.2 HP4.out) ?_
 rintro e w5 ⟨u5,rfl,o5,d5⟩
 refine ⟨_,rfl,?_⟩
 have HT:Hid (y.evt p k q v0=(y.setS p (doS (y.pH p) (y.pL p) (y.sS p).p (y.sS p).rs (y.sS p).os (y.sS p).c k q v0)).setH p (y.hL p+1) (fun i=>if i=y.hL p then ⟨k,q,v0⟩ else y.hH p i)):=rfl
 generalize doS (y.pH p) (y.pL p) (y.sS p).p (y.sS p).rs (y.sS p).os (y.sS p).c k q v0=T at o5 HT
 generalize doB (y.pH p) (y.pL p) (y.sS p).p (y.sS p).rs (y.sS p).os (y.sS p).c k q v0=tb
 obtain ⟨ra5,rc5,oa5,oc5,rfl,-,-⟩:=o5.read
 have q5:Below W2.heap.size W2 w5:=(Below.refl W2.heap.size W2).drew.trans d5
 have hc5:=(bcell q5).1
 have hHeld5:(fun w'=>w'.cell? ⟨w.heap.size,0,none⟩=some (.slice (some ⟨gp,0,none⟩) y.pn cp)/\w'.cell? ⟨w.heap.size,1,none⟩=some (.slice (some ⟨gs,0,none⟩) y.sn cs)/\w'.cell? ⟨gp,p,none⟩=some (.slice (some ⟨b9,0,none⟩) (y.pL p) cb9)/\w'.cell? ⟨gs,p*4,none⟩=some (.int .i64 (y.sS p).p)/\w'.cell? ⟨gs,p*4+1,none⟩=some (.slice ra9 (y.sS p).rs.length rc9)/\w'.cell? ⟨gs,p*4+2,none⟩=some (.slice oa9 (y.sS p).os.length oc9)/\w'.cell? ⟨gs,p*4+3,none⟩=some (.int .i64 (y.sS p).c)/\w'.cell? ⟨w.heap.size+1,0,none⟩=some (.int .i64 k)/\w'.cell? ⟨w.heap.size+1,1,none⟩=some (.int .i64 q)/\w'.cell? ⟨w.heap.size+1,2,none⟩=some (.int .i64 v0)) w5:=⟨(hc5 _ _ m0).trans b0,(hc5 _ _ m0).trans b1,(hc5 _ _ lp).trans cellp,(hc5 _ _ ls).trans s0,(hc5 _ _ ls).trans s1,(hc5 _ _ ls).trans s2,(hc5 _ _ ls).trans s3,(hc5 _ _ mN).trans k0,(hc5 _ _ mN).trans k1,(hc5 _ _ mN).trans k2⟩
 have hf5:∀ j,w5.frozen? ⟨gs,j,none⟩=false:=fun j=>((bcell q5).2 _ j ls).trans (fs j)
 have H1:Hid (Hp z w B c k q v0 (y.setS p T) (.slice (some ⟨gp,0,none⟩) y.pn cp) (.slice (some ⟨gs,0,none⟩) y.sn cs) (.slice (some ⟨gw,0,none⟩) y.wn cw) (.slice (some ⟨gh,0,none⟩) y.hn ch) ((((w5.setCell ⟨gs,p*4,none⟩ (.int .i64 T.p)).setCell ⟨gs,p*4+1,none⟩ (.slice ra5 T.rs.length rc5)).setCell ⟨gs,p*4+2,none⟩ (.slice oa5 T.os.length oc5)).setCell ⟨gs,p*4+3,none⟩ (.int .i64 T.c))):=H0.out.putS hB hps q5 (o5.mono (by simp))
 refine hK.out _ _ (fun _=>hHeld5) ?_
 clear hHeld
 have hHeld:=hHeld5
 clear hHeld5 hc5 d5
 clear hK K
 (try simp only [Act.put,zD,zE,zF])
 refine wpG_k 15 rfl hHeld ?_
 refine wpG_k 16 rfl hHeld ?_
 refine wpG_takeW 17 rfl (by kernel_rfl) (by kernel_rfl) (by kernel_rfl) (fun _ _ _ _ h=>h) (by rfl) ?_
 apply Exists.intro
 refine ⟨fun wq=>?_,?_⟩
 ·go_simp
  try with_reducible rfl
 (try simp only [Act.put,zD,zE,zF])
 refine wpG_k 18 rfl hHeld ?_
 refine wpG_one 19 rfl (by kernel_rfl) (fun K hK=>?_)
 obtain ⟨-,-,-,p0,p1,p2,p3,-⟩:=hHeld
 go_simp
 refine hK.out _ _ (fun h=>?_) ?_
 ·exact absurd h (by decide)
 clear hK K
 (try simp only [Act.put,zD,zE,zF])
 refine wpG_done (by kernel_rfl) ?_ _
 clear o9 hb9 hI hsl b0 b1 b2 b3 k0 k1 k2 kf m0 mN lp cellp ls fs s0 s1 s2 s3 q5 hf5 p0 p1 p2 p3 o5
 go_upto_region 2 with fail
 generalize ((((w5.setCell ⟨gs,p*4,none⟩ (.int .i64 T.p)).setCell ⟨gs,p*4+1,none⟩ (.slice ra5 T.rs.length rc5)).setCell ⟨gs,p*4+2,none⟩ (.slice oa5 T.os.length oc5)).setCell ⟨gs,p*4+3,none⟩ (.int .i64 T.c))=W3 at *
 clear H0
 obtain ⟨c9,up9,us9,uw9,uh9,o9,-,-,-⟩:=H1.out.ow
 obtain ⟨b0,b1,b2,b3⟩:=H1.out.bx
 obtain ⟨k0,k1,k2,kf⟩:=id H1.out.ev
 have m0:=H1.out.bx.ltM
 have mN:=H1.out.ev.lt
 have OH9:LE z W3 (Cl B c9 4) (.slice (some ⟨gh,0,none⟩) y.hn ch) y.hn uh9 y.hL y.hH:=o9.h
 obtain ⟨g9,k9,ew,-,lh,cellh,fh⟩:=OH9.cell hph
 simp only [Value.slice.injEq,Option.some.injEq,Addr.mk.injEq,and_true,true_and] at ew
 obtain ⟨rfl,rfl⟩:=ew
 clear OH9
 have HEq:Hid (∀ wx,Below W3.heap.size W3 wx->Calls Tryz.prog 59 #[sysV (some ⟨gp,0,none⟩) y.pn cp (some ⟨gs,0,none⟩) y.sn cs (some ⟨gw,0,none⟩) y.wn cw (some ⟨gh,0,none⟩) y.hn ch,.int .i64 p] wx fun e w'=>e=.returned (.agg #[.slice (adOf (uh9 p)) (y.hL p) (cpOf (uh9 p)),.int .i64 200])/\Below wx.heap.size wx w'):=fun wx hb=>by
  have h:=eventQueue_any _ p wx (o9.g.below hb) hph
  rw [o9.v] at h
  exact h
 have HWi:Hid (∀ wx,Below W3.heap.size W3 wx->Calls Tryz.prog 60 #[.agg #[.slice (adOf (uh9 p)) (y.hL p) (cpOf (uh9 p)),.int .i64 200],.agg #[.int .i64 k,.int .i64 q,.int .i64 v0]] wx fun e w'=>∃ v,e=.returned v/\w'.ownsRow wx.heap.size 58 3 v (y.hL p+1) (fE (fun i=>if i=y.hL p then ⟨k,q,v0⟩ else y.hH p i) (y.hL p+1))/\v≠.slice none 0 0/\Below wx.heap.size wx w'):=fun wx hb=>withEvent_own _ (y.hL p) _ 200 (y.hH p) ⟨k,q,v0⟩ wx (by omega) (srcE ((o9.g.below hb).hi p hph))
 refine wp_region_G (fun w'=>w'.cell? ⟨w.heap.size,0,none⟩=some (.slice (some ⟨gp,0,none⟩) y.pn cp)/\w'.cell? ⟨w.heap.size,1,none⟩=some (.slice (some ⟨gs,0,none⟩) y.sn cs)/\w'.cell? ⟨w.heap.size,2,none⟩=some (.slice (some ⟨gw,0,none⟩) y.wn cw)/\w'.cell? ⟨w.heap.size,3,none⟩=some (.slice (some ⟨gh,0,none⟩) y.hn ch)/\w'.cell? ⟨w.heap.size+1,0,none⟩=some (.int .i64 k)/\w'.cell? ⟨w.heap.size+1,1,none⟩=some (.int .i64 q)/\w'.cell? ⟨w.heap.size+1,2,none⟩=some (.int .i64 v0)/\w'.cell? ⟨gh,p,none⟩=some (uh9 p)) (fun i=>i == 9) (by kernel_rfl) ?_
 have hHeld:(fun w'=>w'.cell? ⟨w.heap.size,0,none⟩=some (.slice (some ⟨gp,0,none⟩) y.pn cp)/\w'.cell? ⟨w.heap.size,1,none⟩=some (.slice (some ⟨gs,0,none⟩) y.sn cs)/\w'.cell? ⟨w.heap.size,2,none⟩=some (.slice (some ⟨gw,0,none⟩) y.wn cw)/\w'.cell? ⟨w.heap.size,3,none⟩=some (.slice (some ⟨gh,0,none⟩) y.hn ch)/\w'.cell? ⟨w.heap.size+1,0,none⟩=some (.int .i64 k)/\w'.cell? ⟨w.heap.size+1,1,none⟩=some (.int .i64 q)/\w'.cell? ⟨w.heap.size+1,2,none⟩=some (.int .i64 v0)/\w'.cell? ⟨gh,p,none⟩=some (uh9 p)) W3.drew:=⟨b0,b1,b2,b3,k0,k1,k2,cellh⟩
 refine wpGT_of [0,1,2,3,4,6] ?_
 iterate 6 (refine wpGT_k rfl hHeld ?_)
 refine wpGT_nil ?_
 refine wpG_one 5 rfl (by kernel_rfl) (fun K hK=>?_)
 refine stepR_call rfl 59 _ _ rfl #[sysV (some ⟨gp,0,none⟩) y.pn cp (some ⟨gs,0,none⟩) y.sn cs (some ⟨gw,0,none⟩) y.wn cw (some ⟨gh,0,none⟩) y.hn ch,.int .i64 p] (by simp [Act.eval]) (yA Tryz.func59 (by kernel_rfl) rfl) (HEq.out W3.drew (Below.refl W3.heap.size W3).drew) ?_
 rintro e w5 ⟨rfl,d5⟩
 refine ⟨_,rfl,?_⟩
 have q5:Below W3.heap.size W3 w5:=(Below.refl W3.heap.size W3).drew.trans d5
 have hc5:=(bcell q5).1
 refine hK.out _ _ (fun _=>⟨(hc5 _ _ m0).trans b0,(hc5 _ _ m0).trans b1,(hc5 _ _ m0).trans b2,(hc5 _ _ m0).trans b3,(hc5 _ _ mN).trans k0,(hc5 _ _ mN).trans k1,(hc5 _ _ mN).trans k2,(hc5 _ _ lh).trans cellh⟩) ?_
 clear hc5 d5
 clear hK K
 (try simp only [Act.put,zD,zE,zF])
 refine wpG_one 7 rfl (by kernel_rfl) (fun K hK=>?_)
 refine stepR_call rfl 60 _ _ rfl #[.agg #[.slice (adOf (uh9 p)) (y.hL p) (cpOf (uh9 p)),.int .i64 200],.agg #[.int .i64 k,.int .i64 q,.int .i64 v0]] (by simp [Act.eval]) (yA Tryz.func60 (by kernel_rfl) rfl) (HWi.out w5 q5) ?_
 rintro e w6 ⟨v6,rfl,o6,n6,d6⟩
 refine ⟨_,rfl,?_⟩
 have q6:Below W3.heap.size W3 w6:=q5.trans (d6.mono q5.size)
 have hc6:=(bcell q6).1
 have hHeld6:(fun w'=>w'.cell? ⟨w.heap.size,0,none⟩=some (.slice (some ⟨gp,0,none⟩) y.pn cp)/\w'.cell? ⟨w.heap.size,1,none⟩=some (.slice (some ⟨gs,0,none⟩) y.sn cs)/\w'.cell? ⟨w.heap.size,2,none⟩=some (.slice (some ⟨gw,0,none⟩) y.wn cw)/\w'.cell? ⟨w.heap.size,3,none⟩=some (.slice (some ⟨gh,0,none⟩) y.hn ch)/\w'.cell? ⟨w.heap.size+1,0,none⟩=some (.int .i64 k)/\w'.cell? ⟨w.heap.size+1,1,none⟩=some (.int .i64 q)/\w'.cell? ⟨w.heap.size+1,2,none⟩=some (.int .i64 v0)/\w'.cell? ⟨gh,p,none⟩=some (uh9 p)) w6:=⟨(hc6 _ _ m0).trans b0,(hc6 _ _ m0).trans b1,(hc6 _ _ m0).trans b2,(hc6 _ _ m0).trans b3,(hc6 _ _ mN).trans k0,(hc6 _ _ mN).trans k1,(hc6 _ _ mN).trans k2,(hc6 _ _ lh).trans cellh⟩
 have hf6:∀ j,w6.frozen? ⟨gh,j,none⟩=false:=fun j=>((bcell q6).2 _ j lh).trans (fh j)
 obtain ⟨a6,c6,rfl⟩:=zU o6
 have H2:Hid (Hp z w B c k q v0 (y.evt p k q v0) (.slice (some ⟨gp,0,none⟩) y.pn cp) (.slice (some ⟨gs,0,none⟩) y.sn cs) (.slice (some ⟨gw,0,none⟩) y.wn cw) (.slice (some ⟨gh,0,none⟩) y.hn ch) (w6.setCell ⟨gh,p,none⟩ (.slice a6 (y.hL p+1) c6))):=by
  have h:=H1.out.putH hB hph q6 (o6.mono q5.size) n6
  show Hp z w B c k q v0 (y.evt p k q v0) (.slice (some ⟨gp,0,none⟩) y.pn cp) (.slice (some ⟨gs,0,none⟩) y.sn cs) (.slice (some ⟨gw,0,none⟩) y.wn cw) (.slice (some ⟨gh,0,none⟩) y.hn ch) _
  rw [HT.out]
  exact h
 refine hK.out _ _ (fun _=>hHeld6) ?_
 clear hHeld
 have hHeld:=hHeld6
 clear hHeld6 hc6 d6 o6 n6
 clear hK K
 (try simp only [Act.put,zD,zE,zF])
 refine wpG_k 8 rfl hHeld ?_
 refine wpG_one 9 rfl (by kernel_rfl) (fun K hK=>?_)
 have hcN:=hHeld.2.2.2.2.2.2.2
 have hfN:=hf6 p
 go_simp
 refine hK.out _ _ (fun h=>?_) ?_
 ·exact absurd h (by decide)
 clear hK K
 (try simp only [Act.put,zD,zE,zF])
 refine wpG_done (by kernel_rfl) ?_ _
 clear o9 b0 b1 b2 b3 k0 k1 k2 kf m0 mN lh cellh fh q5 q6 hf6 hcN hfN HEq HWi hHeld HT
 go_upto_region 3 with fail
 generalize w6.setCell ⟨gh,p,none⟩ (.slice a6 (y.hL p+1) c6)=W4 at *
 clear H1
 rcases zK (k == 2) with t2 | t2
 ·have hk:k=2:=by simpa using t2
  obtain ⟨g1,g2⟩:=HK2.out hk
  obtain ⟨r,rfl⟩:∃ r:Nat,q=r:=⟨q.toNat,by omega⟩
  have hr:r<y.pn:=by omega
  have hJ:p*y.pn+r<y.wn:=by rw [HN.out.2.2];exact way_lt hp hr
  have h12:y.wL (p*y.pn+r)<=12:=HWY.out p r hp hr
  have hr4:r<4:=by omega
  have hp4:p<4:=by omega
  have HY:Hid ((y.evt p k (r:Int) v0).way p k (r:Int) v0=(y.evt p k (r:Int) v0).setW (p*y.pn+r) (y.wL (p*y.pn+r)+1) (fun i=>if i=y.wL (p*y.pn+r) then ⟨false,v0⟩ else y.wH (p*y.pn+r) i)):=by
   show (y.evt p k (r:Int) v0).way p k (r:Int) v0=_
   rw [show (y.evt p k (r:Int) v0).way p k (r:Int) v0=(y.evt p k (r:Int) v0).way p 2 (r:Int) v0 by rw [hk],Sy.way_send]
   rfl
  have HNu0:∀ x:SysIn,x.pn=y.pn->∀ wx,Calls Tryz.prog 63 #[x.v,.int .i64 p,.int .i64 r] wx fun e w'=>e=.returned (.int .i64 (p*y.pn+r:Nat))/\Below wx.heap.size wx w':=fun x e wx=>by
   have h:=wayNumber_any x p r wx hp4 hr4 (by omega)
   rw [e] at h
   exact h
  have HQu0:∀ x:SysIn,x.pn=y.pn->∀ wx,SysG wx x->p*y.pn+r<x.wn->Calls Tryz.prog 61 #[x.v,.int .i64 p,.int .i64 r] wx fun e w'=>e=.returned (.agg #[.slice (x.wA (p*y.pn+r)) (x.wL (p*y.pn+r)) (x.wC (p*y.pn+r)),.int .i64 12])/\Below wx.heap.size wx w':=fun x e wx hg hw=>by
   have h:=wayQueue_any x p r wx hg hp4 hr4 (by omega) (by rw [e];exact hw)
   rw [e] at h
   exact h
  generalize p*y.pn+r=J at *
  have hJ':(J:Int)<(y.wn:Int):=by omega
  obtain ⟨c9,up9,us9,uw9,uh9,o9,-,-,-⟩:=H2.out.ow
  obtain ⟨b0,b1,b2,b3⟩:=H2.out.bx
  obtain ⟨k0,k1,k2,kf⟩:=id H2.out.ev
  have m0:=H2.out.bx.ltM
  have mN:=H2.out.ev.lt
  have OT9:LT z W4 (Cl B c9 3) (.slice (some ⟨gw,0,none⟩) y.wn cw) y.wn uw9 y.wL y.wH:=o9.t
  obtain ⟨g9,k9,ew,-,lw,cellw,fw⟩:=OT9.cell hJ
  simp only [Value.slice.injEq,Option.some.injEq,Addr.mk.injEq,and_true,true_and] at ew
  obtain ⟨rfl,rfl⟩:=ew
  have HNu:Hid (∀ wx,Calls Tryz.prog 63 #[sysV (some ⟨gp,0,none⟩) y.pn cp (some ⟨gs,0,none⟩) y.sn cs (some ⟨gw,0,none⟩) y.wn cw (some ⟨gh,0,none⟩) y.hn ch,.int .i64 p,.int .i64 r] wx fun e w'=>e=.returned (.int .i64 (J:Nat))/\Below wx.heap.size wx w'):=fun wx=>by
   have h:=HNu0 ((y.evt p k (r:Int) v0).sysIn (.slice (some ⟨gp,0,none⟩) y.pn cp) (.slice (some ⟨gs,0,none⟩) y.sn cs) (.slice (some ⟨gw,0,none⟩) y.wn cw) (.slice (some ⟨gh,0,none⟩) y.hn ch) up9 us9 uw9 uh9) rfl wx
   rw [o9.v] at h
   exact h
  have HQu:Hid (∀ wx,Below W4.heap.size W4 wx->Calls Tryz.prog 61 #[sysV (some ⟨gp,0,none⟩) y.pn cp (some ⟨gs,0,none⟩) y.sn cs (some ⟨gw,0,none⟩) y.wn cw (some ⟨gh,0,none⟩) y.hn ch,.int .i64 p,.int .i64 r] wx fun e w'=>e=.returned (.agg #[.slice (adOf (uw9 J)) (y.wL J) (cpOf (uw9 J)),.int .i64 12])/\Below wx.heap.size wx w'):=fun wx hb=>by
   have h:=HQu0 ((y.evt p k (r:Int) v0).sysIn (.slice (some ⟨gp,0,none⟩) y.pn cp) (.slice (some ⟨gs,0,none⟩) y.sn cs) (.slice (some ⟨gw,0,none⟩) y.wn cw) (.slice (some ⟨gh,0,none⟩) y.hn ch) up9 us9 uw9 uh9) rfl wx (o9.g.below hb) hJ
   rw [o9.v] at h
   exact h
  have HWi:Hid (∀ wx,Below W4.heap.size W4 wx->Calls Tryz.prog 62 #[.agg #[.slice (adOf (uw9 J)) (y.wL J) (cpOf (uw9 J)),.int .i64 12],.agg #[.bool false,.int .i64 v0]] wx fun e w'=>∃ a c,e=.returned (.slice a (y.wL J+1) c)/\w'.ownsRow wx.heap.size 75 2 (.slice a (y.wL J+1) c) (y.wL J+1) (fT (fun i=>if i=y.wL J then ⟨false,v0⟩ else y.wH J i) (y.wL J+1))/\Value.slice a (y.wL J+1) c≠.slice none 0 0/\Below wx.heap.size wx w'):=fun wx hb=>(withItem_own _ (y.wL J) _ 12 (y.wH J) ⟨false,v0⟩ wx (by omega) (srcT ((o9.g.below hb).wi J hJ))).mono fun e w' ⟨v,e1,e2,e3,e4⟩=>by
   obtain ⟨a,c,rfl⟩:=zU e2
   exact ⟨a,c,e1,e2,e3,e4⟩
  clear HNu0 HQu0 o9 OT9 hk
  go_upto_region 5 with fail
  refine wp_region_G (fun w'=>w'.cell? ⟨w.heap.size,0,none⟩=some (.slice (some ⟨gp,0,none⟩) y.pn cp)/\w'.cell? ⟨w.heap.size,1,none⟩=some (.slice (some ⟨gs,0,none⟩) y.sn cs)/\w'.cell? ⟨w.heap.size,2,none⟩=some (.slice (some ⟨gw,0,none⟩) y.wn cw)/\w'.cell? ⟨w.heap.size,3,none⟩=some (.slice (some ⟨gh,0,none⟩) y.hn ch)/\w'.cell? ⟨w.heap.size+1,1,none⟩=some (.int .i64 (r:Int))/\w'.cell? ⟨w.heap.size+1,2,none⟩=some (.int .i64 v0)/\w'.cell? ⟨gw,J,none⟩=some (uw9 J)) (fun i=>i == 17) (by kernel_rfl) ?_
  have hHeld:(fun w'=>w'.cell? ⟨w.heap.size,0,none⟩=some (.slice (some ⟨gp,0,none⟩) y.pn cp)/\w'.cell? ⟨w.heap.size,1,none⟩=some (.slice (some ⟨gs,0,none⟩) y.sn cs)/\w'.cell? ⟨w.heap.size,2,none⟩=some (.slice (some ⟨gw,0,none⟩) y.wn cw)/\w'.cell? ⟨w.heap.size,3,none⟩=some (.slice (some ⟨gh,0,none⟩) y.hn ch)/\w'.cell? ⟨w.heap.size+1,1,none⟩=some (.int .i64 (r:Int))/\w'.cell? ⟨w.heap.size+1,2,none⟩=some (.int .i64 v0)/\w'.cell? ⟨gw,J,none⟩=some (uw9 J)) W4.drew:=⟨b0,b1,b2,b3,k1,k2,cellw⟩
  have q0:Below W4.heap.size W4 W4.drew:=(Below.refl W4.heap.size W4).drew
  refine wpGT_of [0,1,2,3,4,5,7,8,9,10,12,13,14] ?_
  iterate 13 (refine wpGT_k rfl hHeld ?_)
  refine wpGT_nil ?_
  refine wpG_one 6 rfl (by kernel_rfl) (fun K hK=>?_)
  refine stepR_call rfl 63 _ _ rfl #[sysV (some ⟨gp,0,none⟩) y.pn cp (some ⟨gs,0,none⟩) y.sn cs (some ⟨gw,0,none⟩) y.wn cw (some ⟨gh,0,none⟩) y.hn ch,.int .i64 (p:Nat),.int .i64 (r:Nat)] (by simp [Act.eval]) (yA Tryz.func63 (by kernel_rfl) rfl) (HNu.out W4.drew) ?_
  rintro e wa ⟨rfl,d5⟩
  refine ⟨_,rfl,?_⟩
  have qwa:Below W4.heap.size W4 wa:=q0.trans (d5.mono q0.size)
  have hcwa:=(bcell qwa).1
  have hHeldwa:(fun w'=>w'.cell? ⟨w.heap.size,0,none⟩=some (.slice (some ⟨gp,0,none⟩) y.pn cp)/\w'.cell? ⟨w.heap.size,1,none⟩=some (.slice (some ⟨gs,0,none⟩) y.sn cs)/\w'.cell? ⟨w.heap.size,2,none⟩=some (.slice (some ⟨gw,0,none⟩) y.wn cw)/\w'.cell? ⟨w.heap.size,3,none⟩=some (.slice (some ⟨gh,0,none⟩) y.hn ch)/\w'.cell? ⟨w.heap.size+1,1,none⟩=some (.int .i64 (r:Int))/\w'.cell? ⟨w.heap.size+1,2,none⟩=some (.int .i64 v0)/\w'.cell? ⟨gw,J,none⟩=some (uw9 J)) wa:=⟨(hcwa _ _ m0).trans b0,(hcwa _ _ m0).trans b1,(hcwa _ _ m0).trans b2,(hcwa _ _ m0).trans b3,(hcwa _ _ mN).trans k1,(hcwa _ _ mN).trans k2,(hcwa _ _ lw).trans cellw⟩
  refine hK.out _ _ (fun _=>hHeldwa) ?_
  clear hK K d5
  (try simp only [Act.put,zD,zE,zF])
  refine wpG_one 11 rfl (by kernel_rfl) (fun K hK=>?_)
  refine stepR_call rfl 61 _ _ rfl #[sysV (some ⟨gp,0,none⟩) y.pn cp (some ⟨gs,0,none⟩) y.sn cs (some ⟨gw,0,none⟩) y.wn cw (some ⟨gh,0,none⟩) y.hn ch,.int .i64 (p:Nat),.int .i64 (r:Nat)] (by simp [Act.eval]) (yA Tryz.func61 (by kernel_rfl) rfl) (HQu.out wa qwa) ?_
  rintro e wb ⟨rfl,d5⟩
  refine ⟨_,rfl,?_⟩
  have qwb:Below W4.heap.size W4 wb:=qwa.trans (d5.mono qwa.size)
  have hcwb:=(bcell qwb).1
  have hHeldwb:(fun w'=>w'.cell? ⟨w.heap.size,0,none⟩=some (.slice (some ⟨gp,0,none⟩) y.pn cp)/\w'.cell? ⟨w.heap.size,1,none⟩=some (.slice (some ⟨gs,0,none⟩) y.sn cs)/\w'.cell? ⟨w.heap.size,2,none⟩=some (.slice (some ⟨gw,0,none⟩) y.wn cw)/\w'.cell? ⟨w.heap.size,3,none⟩=some (.slice (some ⟨gh,0,none⟩) y.hn ch)/\w'.cell? ⟨w.heap.size+1,1,none⟩=some (.int .i64 (r:Int))/\w'.cell? ⟨w.heap.size+1,2,none⟩=some (.int .i64 v0)/\w'.cell? ⟨gw,J,none⟩=some (uw9 J)) wb:=⟨(hcwb _ _ m0).trans b0,(hcwb _ _ m0).trans b1,(hcwb _ _ m0).trans b2,(hcwb _ _ m0).trans b3,(hcwb _ _ mN).trans k1,(hcwb _ _ mN).trans k2,(hcwb _ _ lw).trans cellw⟩
  refine hK.out _ _ (fun _=>hHeldwb) ?_
  clear hK K d5
  (try simp only [Act.put,zD,zE,zF])
  refine wpG_one 15 rfl (by kernel_rfl) (fun K hK=>?_)
  refine stepR_call rfl 62 _ _ rfl #[.agg #[.slice (adOf (uw9 J)) (y.wL J) (cpOf (uw9 J)),.int .i64 12],.agg #[.bool false,.int .i64 v0]] (by simp [Act.eval]) (yA Tryz.func62 (by kernel_rfl) rfl) (HWi.out wb qwb) ?_
  rintro e wd ⟨a6,c6,rfl,o6,n6,d6⟩
  refine ⟨_,rfl,?_⟩
  have qwd:Below W4.heap.size W4 wd:=qwb.trans (d6.mono qwb.size)
  have hcwd:=(bcell qwd).1
  have hHeldwd:(fun w'=>w'.cell? ⟨w.heap.size,0,none⟩=some (.slice (some ⟨gp,0,none⟩) y.pn cp)/\w'.cell? ⟨w.heap.size,1,none⟩=some (.slice (some ⟨gs,0,none⟩) y.sn cs)/\w'.cell? ⟨w.heap.size,2,none⟩=some (.slice (some ⟨gw,0,none⟩) y.wn cw)/\w'.cell? ⟨w.heap.size,3,none⟩=some (.slice (some ⟨gh,0,none⟩) y.hn ch)/\w'.cell? ⟨w.heap.size+1,1,none⟩=some (.int .i64 (r:Int))/\w'.cell? ⟨w.heap.size+1,2,none⟩=some (.int .i64 v0)/\w'.cell? ⟨gw,J,none⟩=some (uw9 J)) wd:=⟨(hcwd _ _ m0).trans b0,(hcwd _ _ m0).trans b1,(hcwd _ _ m0).trans b2,(hcwd _ _ m0).trans b3,(hcwd _ _ mN).trans k1,(hcwd _ _ mN).trans k2,(hcwd _ _ lw).trans cellw⟩
  replace o6:=o6.mono qwb.size
  have hfw:∀ j,wd.frozen? ⟨gw,j,none⟩=false:=fun j=>((bcell qwd).2 _ j lw).trans (fw j)
  have H3:Hid (Hp z w B c k (r:Int) v0 ((y.evt p k (r:Int) v0).setW J (y.wL J+1) (fun i=>if i=y.wL J then ⟨false,v0⟩ else y.wH J i)) (.slice (some ⟨gp,0,none⟩) y.pn cp) (.slice (some ⟨gs,0,none⟩) y.sn cs) (.slice (some ⟨gw,0,none⟩) y.wn cw) (.slice (some ⟨gh,0,none⟩) y.hn ch) (wd.setCell ⟨gw,J,none⟩ (.slice a6 (y.wL J+1) c6))):=H2.out.putW hB hJ qwd o6 n6
  refine hK.out _ _ (fun _=>hHeldwd) ?_
  clear hHeld
  have hHeld:=hHeldwd
  clear hK K
  (try simp only [Act.put,zD,zE,zF])
  refine wpG_k 16 rfl hHeld ?_
  refine wpG_one 17 rfl (by kernel_rfl) (fun K hK=>?_)
  have hcN:=hHeld.2.2.2.2.2.2
  have hfN:=hfw J
  go_simp
  refine hK.out _ _ (fun h=>?_) ?_
  ·exact absurd h (by decide)
  clear hK K
  (try simp only [Act.put,zD,zE,zF])
  refine wpG_done (by kernel_rfl) ?_ _
  clear hcN hfN hHeld hfw
  go_wp2_with fail
  go_end0
  exact ⟨rfl, H3.out.be, H3.out.kp, by
   rw [HY.out]
   exact H3.out.ownK⟩
 rcases zK (k == 3) with t3 | t3
 ·have hk:k=3:=by simpa using t3
  obtain ⟨g1,g2,g3⟩:=HK3.out hk
  obtain ⟨r,rfl⟩:∃ r:Nat,q=r:=⟨q.toNat,by omega⟩
  rw [Int.toNat_natCast] at g3
  have hr:r<y.pn:=by omega
  have hJ:r*y.pn+p<y.wn:=by rw [HN.out.2.2];exact way_lt hr hp
  have h12:y.wL (r*y.pn+p)<=12:=HWY.out r p hr hp
  have hr4:r<4:=by omega
  have hp4:p<4:=by omega
  have HY:Hid ((y.evt p k (r:Int) v0).way p k (r:Int) v0=(y.evt p k (r:Int) v0).setW (r*y.pn+p) (y.wL (r*y.pn+p) - 1) (fun i=>y.wH (r*y.pn+p) (i+1))):=by
   show (y.evt p k (r:Int) v0).way p k (r:Int) v0=_
   rw [show (y.evt p k (r:Int) v0).way p k (r:Int) v0=(y.evt p k (r:Int) v0).way p 3 (r:Int) v0 by rw [hk],Sy.way_take]
   rfl
  have HNu0:∀ x:SysIn,x.pn=y.pn->∀ wx,Calls Tryz.prog 63 #[x.v,.int .i64 r,.int .i64 p] wx fun e w'=>e=.returned (.int .i64 (r*y.pn+p:Nat))/\Below wx.heap.size wx w':=fun x e wx=>by
   have h:=wayNumber_any x r p wx hr4 hp4 (by omega)
   rw [e] at h
   exact h
  have HQu0:∀ x:SysIn,x.pn=y.pn->∀ wx,SysG wx x->r*y.pn+p<x.wn->Calls Tryz.prog 61 #[x.v,.int .i64 r,.int .i64 p] wx fun e w'=>e=.returned (.agg #[.slice (x.wA (r*y.pn+p)) (x.wL (r*y.pn+p)) (x.wC (r*y.pn+p)),.int .i64 12])/\Below wx.heap.size wx w':=fun x e wx hg hw=>by
   have h:=wayQueue_any x r p wx hg hr4 hp4 (by omega) (by rw [e];exact hw)
   rw [e] at h
   exact h
  generalize r*y.pn+p=J at *
  have hJ':(J:Int)<(y.wn:Int):=by omega
  obtain ⟨c9,up9,us9,uw9,uh9,o9,-,-,-⟩:=H2.out.ow
  obtain ⟨b0,b1,b2,b3⟩:=H2.out.bx
  obtain ⟨k0,k1,k2,kf⟩:=id H2.out.ev
  have m0:=H2.out.bx.ltM
  have mN:=H2.out.ev.lt
  have OT9:LT z W4 (Cl B c9 3) (.slice (some ⟨gw,0,none⟩) y.wn cw) y.wn uw9 y.wL y.wH:=o9.t
  obtain ⟨g9,k9,ew,-,lw,cellw,fw⟩:=OT9.cell hJ
  simp only [Value.slice.injEq,Option.some.injEq,Addr.mk.injEq,and_true,true_and] at ew
  obtain ⟨rfl,rfl⟩:=ew
  obtain ⟨bw,cbw,euw,hbw,hIt,hcapw⟩:=atT (OT9.own J hJ) ((nil_or (OT9.own J hJ)).resolve_left (by omega))
  have hcm:cbw<=maxLen:=by
   have h:=OT9.own J hJ
   rw [euw] at h
   exact ownsRow_cap h
  have HNu:Hid (∀ wx,Calls Tryz.prog 63 #[sysV (some ⟨gp,0,none⟩) y.pn cp (some ⟨gs,0,none⟩) y.sn cs (some ⟨gw,0,none⟩) y.wn cw (some ⟨gh,0,none⟩) y.hn ch,.int .i64 r,.int .i64 p] wx fun e w'=>e=.returned (.int .i64 (J:Nat))/\Below wx.heap.size wx w'):=fun wx=>by
   have h:=HNu0 ((y.evt p k (r:Int) v0).sysIn (.slice (some ⟨gp,0,none⟩) y.pn cp) (.slice (some ⟨gs,0,none⟩) y.sn cs) (.slice (some ⟨gw,0,none⟩) y.wn cw) (.slice (some ⟨gh,0,none⟩) y.hn ch) up9 us9 uw9 uh9) rfl wx
   rw [o9.v] at h
   exact h
  have HQu:Hid (∀ wx,Below W4.heap.size W4 wx->Calls Tryz.prog 61 #[sysV (some ⟨gp,0,none⟩) y.pn cp (some ⟨gs,0,none⟩) y.sn cs (some ⟨gw,0,none⟩) y.wn cw (some ⟨gh,0,none⟩) y.hn ch,.int .i64 r,.int .i64 p] wx fun e w'=>e=.returned (.agg #[.slice (some ⟨bw,0,none⟩) (y.wL J) cbw,.int .i64 12])/\Below wx.heap.size wx w'):=fun wx hb=>by
   have h:=HQu0 ((y.evt p k (r:Int) v0).sysIn (.slice (some ⟨gp,0,none⟩) y.pn cp) (.slice (some ⟨gs,0,none⟩) y.sn cs) (.slice (some ⟨gw,0,none⟩) y.wn cw) (.slice (some ⟨gh,0,none⟩) y.hn ch) up9 us9 uw9 uh9) rfl wx (o9.g.below hb) hJ
   rw [o9.v] at h
   refine h.mono fun e w' hh=>⟨hh.1.trans ?_,hh.2⟩
   show Ending.returned (.agg #[.slice (adOf (uw9 J)) (y.wL J) (cpOf (uw9 J)),.int .i64 12])=_
   rw [euw]
   rfl
  have HWi:Hid (∀ wx,Below W4.heap.size W4 wx->Calls Tryz.prog 64 #[.agg #[.slice (some ⟨bw,0,none⟩) (y.wL J) cbw,.int .i64 12]] wx fun e w'=>∃ a c,e=.returned (.slice a (y.wL J - 1) c)/\w'.ownsRow wx.heap.size 75 2 (.slice a (y.wL J - 1) c) (y.wL J - 1) (fT (fun i=>y.wH J (i+1)) (y.wL J - 1))/\Value.slice a (y.wL J - 1) c≠.slice none 0 0/\Below wx.heap.size wx w'):=fun wx hb=>restItem_own bw (y.wL J) cbw 12 (y.wH J) wx (by omega) (by omega) hcapw hcm (zL hbw hb.size) (hIt.below hb hbw)
  clear HNu0 HQu0 o9 OT9 hk hIt
  go_upto_region 7 with fail
  refine wp_region_G (fun w'=>w'.cell? ⟨w.heap.size,0,none⟩=some (.slice (some ⟨gp,0,none⟩) y.pn cp)/\w'.cell? ⟨w.heap.size,1,none⟩=some (.slice (some ⟨gs,0,none⟩) y.sn cs)/\w'.cell? ⟨w.heap.size,2,none⟩=some (.slice (some ⟨gw,0,none⟩) y.wn cw)/\w'.cell? ⟨w.heap.size,3,none⟩=some (.slice (some ⟨gh,0,none⟩) y.hn ch)/\w'.cell? ⟨w.heap.size+1,1,none⟩=some (.int .i64 (r:Int))/\w'.cell? ⟨w.heap.size+1,2,none⟩=some (.int .i64 v0)/\w'.cell? ⟨gw,J,none⟩=some (uw9 J)) (fun i=>i == 14) (by kernel_rfl) ?_
  have hHeld:(fun w'=>w'.cell? ⟨w.heap.size,0,none⟩=some (.slice (some ⟨gp,0,none⟩) y.pn cp)/\w'.cell? ⟨w.heap.size,1,none⟩=some (.slice (some ⟨gs,0,none⟩) y.sn cs)/\w'.cell? ⟨w.heap.size,2,none⟩=some (.slice (some ⟨gw,0,none⟩) y.wn cw)/\w'.cell? ⟨w.heap.size,3,none⟩=some (.slice (some ⟨gh,0,none⟩) y.hn ch)/\w'.cell? ⟨w.heap.size+1,1,none⟩=some (.int .i64 (r:Int))/\w'.cell? ⟨w.heap.size+1,2,none⟩=some (.int .i64 v0)/\w'.cell? ⟨gw,J,none⟩=some (uw9 J)) W4.drew:=⟨b0,b1,b2,b3,k1,k2,cellw⟩
  have q0:Below W4.heap.size W4 W4.drew:=(Below.refl W4.heap.size W4).drew
  refine wpGT_of [0,1,2,3,4,5,7,8,9,10] ?_
  iterate 10 (refine wpGT_k rfl hHeld ?_)
  refine wpGT_nil ?_
  refine wpG_one 6 rfl (by kernel_rfl) (fun K hK=>?_)
  refine stepR_call rfl 63 _ _ rfl #[sysV (some ⟨gp,0,none⟩) y.pn cp (some ⟨gs,0,none⟩) y.sn cs (some ⟨gw,0,none⟩) y.wn cw (some ⟨gh,0,none⟩) y.hn ch,.int .i64 (r:Nat),.int .i64 (p:Nat)] (by simp [Act.eval]) (yA Tryz.func63 (by kernel_rfl) rfl) (HNu.out W4.drew) ?_
  rintro e wa ⟨rfl,d5⟩
  refine ⟨_,rfl,?_⟩
  have qwa:Below W4.heap.size W4 wa:=q0.trans (d5.mono q0.size)
  have hcwa:=(bcell qwa).1
  have hHeldwa:(fun w'=>w'.cell? ⟨w.heap.size,0,none⟩=some (.slice (some ⟨gp,0,none⟩) y.pn cp)/\w'.cell? ⟨w.heap.size,1,none⟩=some (.slice (some ⟨gs,0,none⟩) y.sn cs)/\w'.cell? ⟨w.heap.size,2,none⟩=some (.slice (some ⟨gw,0,none⟩) y.wn cw)/\w'.cell? ⟨w.heap.size,3,none⟩=some (.slice (some ⟨gh,0,none⟩) y.hn ch)/\w'.cell? ⟨w.heap.size+1,1,none⟩=some (.int .i64 (r:Int))/\w'.cell? ⟨w.heap.size+1,2,none⟩=some (.int .i64 v0)/\w'.cell? ⟨gw,J,none⟩=some (uw9 J)) wa:=⟨(hcwa _ _ m0).trans b0,(hcwa _ _ m0).trans b1,(hcwa _ _ m0).trans b2,(hcwa _ _ m0).trans b3,(hcwa _ _ mN).trans k1,(hcwa _ _ mN).trans k2,(hcwa _ _ lw).trans cellw⟩
  refine hK.out _ _ (fun _=>hHeldwa) ?_
  clear hK K d5
  (try simp only [Act.put,zD,zE,zF])
  refine wpG_one 11 rfl (by kernel_rfl) (fun K hK=>?_)
  refine stepR_call rfl 61 _ _ rfl #[sysV (some ⟨gp,0,none⟩) y.pn cp (some ⟨gs,0,none⟩) y.sn cs (some ⟨gw,0,none⟩) y.wn cw (some ⟨gh,0,none⟩) y.hn ch,.int .i64 (r:Nat),.int .i64 (p:Nat)] (by simp [Act.eval]) (yA Tryz.func61 (by kernel_rfl) rfl) (HQu.out wa qwa) ?_
  rintro e wb ⟨rfl,d5⟩
  refine ⟨_,rfl,?_⟩
  have qwb:Below W4.heap.size W4 wb:=qwa.trans (d5.mono qwa.size)
  have hcwb:=(bcell qwb).1
  have hHeldwb:(fun w'=>w'.cell? ⟨w.heap.size,0,none⟩=some (.slice (some ⟨gp,0,none⟩) y.pn cp)/\w'.cell? ⟨w.heap.size,1,none⟩=some (.slice (some ⟨gs,0,none⟩) y.sn cs)/\w'.cell? ⟨w.heap.size,2,none⟩=some (.slice (some ⟨gw,0,none⟩) y.wn cw)/\w'.cell? ⟨w.heap.size,3,none⟩=some (.slice (some ⟨gh,0,none⟩) y.hn ch)/\w'.cell? ⟨w.heap.size+1,1,none⟩=some (.int .i64 (r:Int))/\w'.cell? ⟨w.heap.size+1,2,none⟩=some (.int .i64 v0)/\w'.cell? ⟨gw,J,none⟩=some (uw9 J)) wb:=⟨(hcwb _ _ m0).trans b0,(hcwb _ _ m0).trans b1,(hcwb _ _ m0).trans b2,(hcwb _ _ m0).trans b3,(hcwb _ _ mN).trans k1,(hcwb _ _ mN).trans k2,(hcwb _ _ lw).trans cellw⟩
  refine hK.out _ _ (fun _=>hHeldwb) ?_
  clear hK K d5
  (try simp only [Act.put,zD,zE,zF])
  refine wpG_one 12 rfl (by kernel_rfl) (fun K hK=>?_)
  refine stepR_call rfl 64 _ _ rfl #[.agg #[.slice (some ⟨bw,0,none⟩) (y.wL J) cbw,.int .i64 12]] (by simp [Act.eval]) (yA Tryz.func64 (by kernel_rfl) rfl) (HWi.out wb qwb) ?_
  rintro e wd ⟨a6,c6,rfl,o6,n6,d6⟩
  refine ⟨_,rfl,?_⟩
  have qwd:Below W4.heap.size W4 wd:=qwb.trans (d6.mono qwb.size)
  have hcwd:=(bcell qwd).1
  have hHeldwd:(fun w'=>w'.cell? ⟨w.heap.size,0,none⟩=some (.slice (some ⟨gp,0,none⟩) y.pn cp)/\w'.cell? ⟨w.heap.size,1,none⟩=some (.slice (some ⟨gs,0,none⟩) y.sn cs)/\w'.cell? ⟨w.heap.size,2,none⟩=some (.slice (some ⟨gw,0,none⟩) y.wn cw)/\w'.cell? ⟨w.heap.size,3,none⟩=some (.slice (some ⟨gh,0,none⟩) y.hn ch)/\w'.cell? ⟨w.heap.size+1,1,none⟩=some (.int .i64 (r:Int))/\w'.cell? ⟨w.heap.size+1,2,none⟩=some (.int .i64 v0)/\w'.cell? ⟨gw,J,none⟩=some (uw9 J)) wd:=⟨(hcwd _ _ m0).trans b0,(hcwd _ _ m0).trans b1,(hcwd _ _ m0).trans b2,(hcwd _ _ m0).trans b3,(hcwd _ _ mN).trans k1,(hcwd _ _ mN).trans k2,(hcwd _ _ lw).trans cellw⟩
  replace o6:=o6.mono qwb.size
  have hfw:∀ j,wd.frozen? ⟨gw,j,none⟩=false:=fun j=>((bcell qwd).2 _ j lw).trans (fw j)
  have H3:Hid (Hp z w B c k (r:Int) v0 ((y.evt p k (r:Int) v0).setW J (y.wL J - 1) (fun i=>y.wH J (i+1))) (.slice (some ⟨gp,0,none⟩) y.pn cp) (.slice (some ⟨gs,0,none⟩) y.sn cs) (.slice (some ⟨gw,0,none⟩) y.wn cw) (.slice (some ⟨gh,0,none⟩) y.hn ch) (wd.setCell ⟨gw,J,none⟩ (.slice a6 (y.wL J - 1) c6))):=H2.out.putW hB hJ qwd o6 n6
  refine hK.out _ _ (fun _=>hHeldwd) ?_
  clear hHeld
  have hHeld:=hHeldwd
  clear hK K
  (try simp only [Act.put,zD,zE,zF])
  refine wpG_k 13 rfl hHeld ?_
  refine wpG_one 14 rfl (by kernel_rfl) (fun K hK=>?_)
  have hcN:=hHeld.2.2.2.2.2.2
  have hfN:=hfw J
  go_simp
  refine hK.out _ _ (fun h=>?_) ?_
  ·exact absurd h (by decide)
  clear hK K
  (try simp only [Act.put,zD,zE,zF])
  refine wpG_done (by kernel_rfl) ?_ _
  clear hcN hfN hHeld hfw
  go_wp2_with fail
  go_end0
  exact ⟨rfl, H3.out.be, H3.out.kp, by
   rw [HY.out]
   exact H3.out.ownK⟩
 ·have hk2:k≠2:=by simpa using t2
  have hk3:k≠3:=by simpa using t3
  have HY:Hid ((y.evt p k q v0).way p k q v0=y.evt p k q v0):=Sy.way_no _ p hk2 hk3 q v0
  obtain ⟨k0,k1,k2,kf⟩:=H2.out.ev
  clear hk2 hk3
  go_wp2_with fail
  go_end0
  exact ⟨rfl, H2.out.be, H2.out.kp, by
   rw [HY.out]
   exact H2.out.ownK⟩
theorem happen_any (y:Sy) (p:Nat) (k q v0:Int) (w:World) (B:Nat) (c:Nat->Nat) (vp vs vw vh:Value) (up us uw uh:Nat->Value) (o:OwnS z w B c y vp vs vw vh up us uw uh) (hB:B<=w.heap.size) (hO:y.Ok) (hp:p<y.pn) (hk2:k=2->0<=q/\q<y.pn) (hk3:k=3->0<=q/\q<y.pn/\0<y.wL (q.toNat*y.pn+p)):
  Calls Tryz.prog 26 #[.agg #[vp,vs,vw,vh],.int .i64 p,evV k q v0] w fun e w'=>e=.returned (.tuple #[])/\Below B w w'/\(∀ b,b<w.heap.size->c b=0->w'.heap[b]? = w.heap[b]?)/\OwnSys z w' B ((y.evt p k q v0).way p k q v0) (.agg #[vp,vs,vw,vh]):=
 (happen_own y p k q v0 w B c vp vs vw vh up us uw uh o hB hO hp hk2 hk3).mono fun _ _ h=>⟨h.1,h.2.1,h.2.2.1,h.2.2.2.own⟩
variable {z:Bool}
theorem cm_take {y:Sy} {p:Nat} {f:Int} (h:cmS y p f=0) (hk:y.nk p=3):tkS y p (y.eq p f)=0:=by
 unfold cmS at h
 rw [Sy.eq,if_pos hk]
 by_cases h1:(y.sS p).c≠0
 ·rw [if_pos h1] at h
  cases h
 ·rw [if_neg h1] at h
  by_cases h2:fuS y p (y.nk p) (y.nq p)=true
  ·rw [if_pos h2] at h
   cases h
  ·rw [if_neg h2,if_pos hk] at h
   exact h
theorem tk_zero {y:Sy} {p:Nat} {g:Int} (h:tkS y p g=0):0<=g/\g<y.pn/\0<y.wL (g.toNat*y.pn+p):=by
 unfold tkS at h
 by_cases h1:belB g y.pn=true
 ·rw [if_pos h1] at h
  simp only [belB,decide_eq_true_eq] at h1
  refine ⟨h1.1,h1.2,?_⟩
  rcases Nat.eq_zero_or_pos (y.wL (g.toNat*y.pn+p)) with e | e
  ·rw [if_pos e] at h
   cases h
  ·exact e
 ·rw [if_neg h1] at h
  cases h
theorem cmV_step {x:SysIn} {p:Nat} {f:Int} (h:cmS x.y p f=0):cmV x p f=evV (x.y.nk p) (x.y.eq p f) (x.y.ev p f):=by
 have hc:cmC x p f=0:=h
 unfold cmV
 rw [if_pos hc]
 by_cases hk:x.nk p=3
 ·have ht:tkS x.y p (x.y.eq p f)=0:=cm_take h hk
  have e:x.y.eq p f=if x.nq p=9 then f else x.nq p:=if_pos hk
  have e2:x.y.ev p f=(x.y.wH ((x.y.eq p f).toNat*x.y.pn+p) 0).v:=if_pos hk
  have e3:x.y.nk p=3:=hk
  rw [if_pos hk,<- e,e2,e3,tkV]
  have ht':tkC x p (x.y.eq p f)=0:=ht
  rw [if_pos ht']
  rfl
 ·have e:x.y.eq p f=x.nq p:=if_neg hk
  have e2:x.y.ev p f=x.nv p:=if_neg hk
  rw [if_neg hk,e,e2]
  rfl
theorem implStep_any (x:SysIn) (p f:Int) (w:World) (hG:SysG w x) (hL:x.Len) (hN:x.Nn z) (hV:w.cell? ⟨0,0,none⟩=some (.iface 222 (.agg #[.pointer (some ⟨1,171,none⟩)]))):
  Calls Tryz.prog 8 #[x.v,.int .i64 p,.int .i64 f] w fun e w'=>∃ v,e=.returned (.tuple #[v,.int .i64 (stC x.y p f)])/\OwnSys z w' w.heap.size (stY x.y p f) v/\Below w.heap.size w w':=by
 have HG:Hid (SysG w x):=hG
 have HL:Hid x.Len:=hL
 have HS:Hid (∀ wx,Below w.heap.size w wx->Calls Tryz.prog 24 #[x.v] wx fun e w'=>e=.returned (.bool x.y.okB)/\Below wx.heap.size wx w'):=fun wx hb=>implSysOk_any x wx (HG.out.below hb) hL ((hb.cell (p:=⟨0,0,none⟩) (zJ w _ hV)).trans hV)
 have HC4:Hid (∀ wx,Below w.heap.size w wx->Calls Tryz.prog 17 #[x.v] wx fun e w'=>∃ v,e=.returned v/\OwnSys z w' wx.heap.size x.y v/\Below wx.heap.size wx w'):=fun wx hb=>copySys_any x wx (HG.out.below hb) hL hN
 have BW:Hid (Below w.heap.size w ((w.alloc (oQ4 x.pa x.pn x.pc x.sa x.sn x.sc x.wa x.wn x.wc x.ha x.hn x.hc)).alloc (zQ3))):=(zQ _ _).trans ((zQ _ _).mono (by simp))
 have NB:Hid (BoxC ((w.alloc (oQ4 x.pa x.pn x.pc x.sa x.sn x.sc x.wa x.wn x.wc x.ha x.hn x.hc)).alloc (zQ3)) w.heap.size (.slice x.pa x.pn x.pc) (.slice x.sa x.sn x.sc) (.slice x.wa x.wn x.wc) (.slice x.ha x.hn x.hc)):=(BoxC.new w _ _ _ _ _).below (zQ _ _)
 have RB:Hid (BoxC ((w.alloc (oQ4 x.pa x.pn x.pc x.sa x.sn x.sc x.wa x.wn x.wc x.ha x.hn x.hc)).alloc (zQ3)) (w.heap.size+1) (.slice none 0 0) (.slice none 0 0) (.slice none 0 0) (.slice none 0 0)/\∀ j,((w.alloc (oQ4 x.pa x.pn x.pc x.sa x.sn x.sc x.wa x.wn x.wc x.ha x.hn x.hc)).alloc (zQ3)).frozen? ⟨w.heap.size+1,j,none⟩=false):=⟨⟨zW _ _ _ 0 (by simp),zW _ _ _ 1 (by simp),zW _ _ _ 2 (by simp),zW _ _ _ 3 (by simp)⟩,fun j=>yB _ _ _ _ (by simp)⟩
 have hM:w.heap.size<=w.heap.size+1:=Nat.le_succ _
 clear hG hL hN hV
 go_enter Tryz.func8,Tryz.ntmps8
 go_wp2_with fail
 generalize (w.alloc (oQ4 x.pa x.pn x.pc x.sa x.sn x.sc x.wa x.wn x.wc x.ha x.hn x.hc)).alloc (zQ3)=W2 at *
 refine (HS.out W2 BW.out).mono ?_
 rintro e w1 ⟨rfl,q1⟩
 have B1:Hid (Below w.heap.size w w1/\BoxC w1 w.heap.size (.slice x.pa x.pn x.pc) (.slice x.sa x.sn x.sc) (.slice x.wa x.wn x.wc) (.slice x.ha x.hn x.hc)/\BoxC w1 (w.heap.size+1) (.slice none 0 0) (.slice none 0 0) (.slice none 0 0) (.slice none 0 0)/\∀ j,w1.frozen? ⟨w.heap.size+1,j,none⟩=false):=⟨BW.out.trans (q1.mono BW.out.size),NB.out.below q1,RB.out.1.below q1,fun j=>((bcell q1).2 _ j (zJ _ _ RB.out.1.1)).trans (RB.out.2 j)⟩
 clear q1 BW NB RB HS
 have l1:w.heap.size+1<w1.heap.size:=zJ _ _ B1.out.2.2.1.1
 obtain ⟨b0,b1,b2,b3⟩:=B1.out.2.1
 rcases zK x.y.okB with t | t
 case inr=>
  have HV:Hid (stC x.y p f=1/\stY x.y p f={ x.y with pn:=0,sn:=0,wn:=0,hn:=0 }):=⟨if_neg (by rw [t];simp),if_neg (by rw [t];simp)⟩
  obtain ⟨⟨r0,r1,r2,r3⟩,rf⟩:=B1.out.2.2
  rw [t]
  clear t
  go_wp2
  exact bodyPost_ret (v:=.tuple #[sysV none 0 0 none 0 0 none 0 0 none 0 0,.int .i64 1]) (by simp [results,Tryz.results8,go_sem,r0,r1,r2,r3]) rfl ⟨_,by rw [HV.out.1],by rw [HV.out.2];exact OwnSys.zero _ _ _,(((B1.out.1.setCell hM _).setCell hM _).setCell hM _).setCell hM _⟩
 have HO:Hid x.y.Ok:=Sy.ok_of t
 obtain ⟨k,q,v0,HCM⟩:∃ k q v0:Int,Hid ((∀ wx,Below w.heap.size w wx->Calls Tryz.prog 25 #[x.v,.int .i64 p,.int .i64 f] wx fun e w'=>e=.returned (.tuple #[evV k q v0,.int .i64 (stC x.y p f)])/\Below wx.heap.size wx w')/\(stC x.y p f≠0->stY x.y p f=x.y)/\(stC x.y p f=0->∃ a:Nat,p=a/\a<x.y.pn/\stY x.y p f=(x.y.evt a k q v0).way a k q v0/\(k=2->0<=q/\q<x.y.pn)/\(k=3->0<=q/\q<x.y.pn/\0<x.y.wL (q.toNat*x.y.pn+a)))):=by
  by_cases hb:belB p x.y.pn=true
  ·have hb':0<=p/\p<(x.y.pn:Int):=by simpa [belB] using hb
   obtain ⟨a,rfl⟩:∃ a:Nat,p=a:=⟨p.toNat,by omega⟩
   have ha:a<x.y.pn:=by omega
   obtain ⟨⟨h1,h4⟩,hs,hh,hw⟩:=HO.out.cn
   have hC:stC x.y (a:Int) f=cmS x.y a f:=by rw [stC,if_pos t,if_pos hb,Int.toNat_natCast]
   have hY:stY x.y (a:Int) f=x.y.step a f:=by rw [stY,if_pos t,if_pos hb,Int.toNat_natCast]
   have hcall:∀ wx,Below w.heap.size w wx->Calls Tryz.prog 25 #[x.v,.int .i64 a,.int .i64 f] wx fun e w'=>e=.returned (.tuple #[cmV x a f,.int .i64 (cmC x a f)])/\Below wx.heap.size wx w':=fun wx hbx=>comingIn_any x a f wx (HG.out.below hbx) HL.out ha h4 hs hh hw (HO.out.four ha) (HO.out.peer ha)
   by_cases h0:cmS x.y a f=0
   ·refine ⟨x.y.nk a,x.y.eq a f,x.y.ev a f,fun wx hbx=>?_,fun hne=>absurd (hC.trans h0) hne,fun _=>⟨a,rfl,ha,?_,fun hk=>?_,fun hk=>?_⟩⟩
    ·rw [hC,<- cmV_step h0]
     exact hcall wx hbx
    ·rw [hY,Sy.step,if_pos h0,Sy.way_evt]
    ·have:=HO.out.peer ha hk
     rw [Sy.eq,if_neg (by rw [hk];decide)]
     exact this
    ·exact tk_zero (cm_take h0 hk)
   ·refine ⟨0,0,0,fun wx hbx=>?_,fun _=>hY.trans (Sy.step_no h0),fun h=>absurd (hC.symm.trans h) h0⟩
    have e:cmV x a f=evV 0 0 0:=if_neg h0
    rw [hC,<- e]
    exact hcall wx hbx
  ·have hC:stC x.y p f=2:=by rw [stC,if_pos t,if_neg hb]
   refine ⟨0,0,0,fun wx _=>?_,fun _=>?_,fun h=>?_⟩
   ·rw [hC]
    exact comingIn_out x p f wx (by
     cases h:belB p x.pn with
     | false=>rfl
     | true=>exact absurd h hb)
   ·rw [stY,if_pos t,if_neg hb]
   ·rw [hC] at h
    cases h
 generalize hC:stC x.y p f=C at *
 generalize hY:stY x.y p f=Y at *
 have HCY:Hid (stC x.y p f=C/\stY x.y p f=Y):=⟨hC,hY⟩
 clear hC hY
 rw [t]
 clear t HL HG
 go_wp2_with fail
 refine (HC4.out w1 B1.out.1).mono ?_
 rintro e w3 ⟨v3,rfl,o3,q3⟩
 obtain ⟨c,vp,vs,vw,vh,up,us,uw,uh,rfl,o3⟩:=o3
 obtain ⟨pa,pc,rfl⟩:=zU o3.p.row
 obtain ⟨sa,sc,rfl⟩:=zU o3.s.row
 obtain ⟨wa,wc,rfl⟩:=zU o3.t.row
 obtain ⟨ha,hc,rfl⟩:=zU o3.h.row
 have ba:=zQ w3 (oQ4 pa x.y.pn pc sa x.y.sn sc wa x.y.wn wc ha x.y.hn hc)
 have Q4:=q3.trans (ba.mono q3.size)
 have B4:Hid (Below w1.heap.size w1 (w3.alloc (oQ4 pa x.y.pn pc sa x.y.sn sc wa x.y.wn wc ha x.y.hn hc))/\BoxC (w3.alloc (oQ4 pa x.y.pn pc sa x.y.sn sc wa x.y.wn wc ha x.y.hn hc)) w3.heap.size (.slice pa x.y.pn pc) (.slice sa x.y.sn sc) (.slice wa x.y.wn wc) (.slice ha x.y.hn hc)/\OwnS z (w3.alloc (oQ4 pa x.y.pn pc sa x.y.sn sc wa x.y.wn wc ha x.y.hn hc)) w1.heap.size (rcol c w3.heap.size 0) x.y (.slice pa x.y.pn pc) (.slice sa x.y.sn sc) (.slice wa x.y.wn wc) (.slice ha x.y.hn hc) up us uw uh/\w1.heap.size<=w3.heap.size):=⟨Q4,BoxC.new w3 _ _ _ _ _,(o3.recol 0).below ba,q3.size⟩
 go_upto_region 4 with fail
 clear o3 q3 ba b0 b1 b2 b3
 generalize hA:w3.heap.size=A at *
 clear hA
 generalize w3.alloc (oQ4 pa x.y.pn pc sa x.y.sn sc wa x.y.wn wc ha x.y.hn hc)=W4 at *
 have BW4:Hid (Below w.heap.size w W4):=B1.out.1.trans (B4.out.1.mono B1.out.1.size)
 obtain ⟨b0,b1,b2,b3⟩:=B1.out.2.1.below B4.out.1
 go_wp2_with fail
 refine (HCM.out.1 W4 BW4.out).mono ?_
 rintro e w5 ⟨rfl,q5⟩
 have bb:=zQ w5 (oQ0 k q v0)
 have Q6:=q5.trans (bb.mono q5.size)
 have lA:A<W4.heap.size:=zJ _ _ B4.out.2.1.1
 have B6:Hid (Below w1.heap.size w1 (w5.alloc (oQ0 k q v0))/\BoxC (w5.alloc (oQ0 k q v0)) A (.slice pa x.y.pn pc) (.slice sa x.y.sn sc) (.slice wa x.y.wn wc) (.slice ha x.y.hn hc)/\OwnS z (w5.alloc (oQ0 k q v0)) w1.heap.size (rcol c A 0) x.y (.slice pa x.y.pn pc) (.slice sa x.y.sn sc) (.slice wa x.y.wn wc) (.slice ha x.y.hn hc) up us uw uh/\w1.heap.size<=A/\A<(w5.alloc (oQ0 k q v0)).heap.size/\EvK (w5.alloc (oQ0 k q v0)) w5.heap.size k q v0):=⟨B4.out.1.trans (Q6.mono B4.out.1.size),B4.out.2.1.below Q6,B4.out.2.2.1.below Q6,B4.out.2.2.2,zL lA Q6.size,EvK.new w5 _ _ _ _⟩
 go_upto_region 5 with fail
 clear q5 bb Q6 lA B4 BW4 b0 b1 b2 b3
 generalize hE:w5.heap.size=E at *
 clear hE
 generalize w5.alloc (oQ0 k q v0)=W6 at *
 by_cases hc0:C=0
 ·obtain ⟨a,ea,ha',hY,hk2,hk3⟩:=HCM.out.2.2 hc0
  subst ea
  subst hc0
  have HH:Hid (Calls Tryz.prog 26 #[.agg #[.slice pa x.y.pn pc,.slice sa x.y.sn sc,.slice wa x.y.wn wc,.slice ha x.y.hn hc],.int .i64 a,evV k q v0] W6 fun e w'=>e=.returned (.tuple #[])/\Below w1.heap.size W6 w'/\(∀ b,b<W6.heap.size->rcol c A 0 b=0->w'.heap[b]? = W6.heap[b]?)/\OwnSys z w' w1.heap.size Y (.agg #[.slice pa x.y.pn pc,.slice sa x.y.sn sc,.slice wa x.y.wn wc,.slice ha x.y.hn hc])):=by
   have h:=happen_any x.y a k q v0 W6 w1.heap.size _ _ _ _ _ up us uw uh B6.out.2.2.1 B6.out.1.size HO.out ha' hk2 hk3
   rw [<- hY] at h
   exact h
  obtain ⟨a0,a1,a2,a3⟩:=B6.out.2.1
  obtain ⟨e0,e1,e2,-⟩:=B6.out.2.2.2.2.2
  clear hY hk2 hk3 HCM
  go_wp2_with fail
  refine HH.out.mono ?_
  rintro e w7 ⟨rfl,q7,kp,o7⟩
  have hAb:=kp A B6.out.2.2.2.2.1 (rcol_new (Nat.le_refl _))
  have B7:Hid (Below w1.heap.size w1 w7/\OwnSys z w7 w1.heap.size Y (.agg #[.slice pa x.y.pn pc,.slice sa x.y.sn sc,.slice wa x.y.wn wc,.slice ha x.y.hn hc])):=⟨B6.out.1.trans q7,o7⟩
  have c0:=(zH hAb).trans a0
  have c1:=(zH hAb).trans a1
  have c2:=(zH hAb).trans a2
  have c3:=(zH hAb).trans a3
  obtain ⟨r0,r1,r2,r3⟩:=B1.out.2.2.1.below B7.out.1
  have rf:∀ j,w7.frozen? ⟨w.heap.size+1,j,none⟩=false:=fun j=>((bcell B7.out.1).2 _ j l1).trans (B1.out.2.2.2 j)
  clear a0 a1 a2 a3 e0 e1 e2 hAb kp o7 q7 HH
  go_wp2
  exact bodyPost_ret (v := .tuple #[.agg #[.slice pa x.y.pn pc, .slice sa x.y.sn sc, .slice wa x.y.wn wc, .slice ha x.y.hn hc], .int .i64 0]) (by simp [results, Tryz.results8, go_sem, r0, r1, r2, r3]) rfl ⟨_, by rw [HCY.out.1], by
   rw [HCY.out.2]
   exact ((((B7.out.2.setBelow l1 0 _).setBelow l1 1 _).setBelow l1 2 _).setBelow l1 3 _).base B1.out.1.size,((((B1.out.1.trans (B7.out.1.mono B1.out.1.size)).setCell hM _).setCell hM _).setCell hM _).setCell hM _⟩
 ·have tc:(C == 0)=false:=by simpa using hc0
  have hY:=HCM.out.2.1 hc0
  have B7 : Hid (Below w1.heap.size w1 W6 ∧ OwnSys z W6 w1.heap.size Y (.agg #[.slice pa x.y.pn pc, .slice sa x.y.sn sc, .slice wa x.y.wn wc, .slice ha x.y.hn hc])) := ⟨B6.out.1, by
   rw [hY]
   exact ⟨_,_,_,_,_,up,us,uw,uh,rfl,B6.out.2.2.1⟩⟩
  obtain ⟨c0,c1,c2,c3⟩:=B6.out.2.1
  obtain ⟨r0,r1,r2,r3⟩:=B1.out.2.2.1.below B7.out.1
  have rf:∀ j,W6.frozen? ⟨w.heap.size+1,j,none⟩=false:=fun j=>((bcell B7.out.1).2 _ j l1).trans (B1.out.2.2.2 j)
  clear hY HCM hc0
  go_wp2
  exact bodyPost_ret (v := .tuple #[.agg #[.slice pa x.y.pn pc, .slice sa x.y.sn sc, .slice wa x.y.wn wc, .slice ha x.y.hn hc], .int .i64 C]) (by simp [results, Tryz.results8, go_sem, r0, r1, r2, r3]) rfl ⟨_, by rw [HCY.out.1], by
   rw [HCY.out.2]
   exact ((((B7.out.2.setBelow l1 0 _).setBelow l1 1 _).setBelow l1 2 _).setBelow l1 3 _).base B1.out.1.size,((((B1.out.1.trans (B7.out.1.mono B1.out.1.size)).setCell hM _).setCell hM _).setCell hM _).setCell hM _⟩
theorem Sy.Sm.len {y:Sy} (h:y.Sm):y.Len:=by
 obtain ⟨h1,h2,h3,h4⟩:=h.n
 exact ⟨⟨by omega,fun i hi=>by have:=h.p i hi;omega⟩,⟨by omega,fun i hi=>by have:=h.s i hi;omega⟩,⟨by omega,fun i hi=>by have:=h.w i hi;omega⟩,⟨by omega,fun i hi=>by have:=h.h i hi;omega⟩⟩
variable {z:Bool}
theorem Sy.Ok.stY {y:Sy} (h:y.Ok) (p f:Int):(stY y p f).Ok:=by
 unfold Go.Proofs.YtlhikgdcgpgolaaGreatDoor.stY
 rw [if_pos (Sy.okB_true h)]
 by_cases hb:belB p y.pn=true
 ·rw [if_pos hb]
  have hb':0<=p/\p<(y.pn:Int):=of_decide_eq_true hb
  by_cases hc:cmS y p.toNat f=0
  ·exact h.step (by omega) hc
  ·rw [Sy.step_no hc]
   exact h
 ·rw [if_neg hb]
  exact h
noncomputable def utY (y:Sy) (h:Nat->Pk2):Nat->Sy
 | 0=>y
 | i+1=>stY (utY y h i) (h i).m (h i).v
theorem utY_ok {y:Sy} (h:y.Ok) (g:Nat->Pk2):∀ i,(utY y g i).Ok
 | 0=>h
 | i+1=>(utY_ok h g i).stY _ _
noncomputable def utF (y:Sy) (h:Nat->Pk2) (p k v:Int) (i:Nat):Bool:=(stC (utY y h i) (h i).m (h i).v == 0) && hsB (utY y h (i+1)) p k v
def fsN (f:Nat->Bool):Nat->Nat->Nat
 | 0,i=>i
 | m+1,i=>if f i=true then i+1 else fsN f m (i+1)
theorem fsN_le (f:Nat->Bool):∀ m i,fsN f m i<=i+m
 | 0,i=>Nat.le_refl _
 | m+1,i=>by
  unfold fsN
  split
  ·omega
  ·have:=fsN_le f m (i+1)
   omega
noncomputable def unB (y:Sy) (p k:Int) (n:Nat):Bool:=spB y p k && decide (n<=200)
noncomputable def unY (y:Sy) (h:Nat->Pk2) (n:Nat) (p k v:Int):Sy:=if unB y p k n=true then utY y h (fsN (utF y h p k v) n 0) else { y with pn:=0,sn:=0,wn:=0,hn:=0 }
noncomputable def unC (y:Sy) (h:Nat->Pk2) (n:Nat) (p k v:Int):Int:=if unB y p k n=true then (fsN (utF y h p k v) n 0:Int) else -1
theorem sm_inLen {x:SysIn} (h:x.y.Sm):x.Len:=by
 obtain ⟨⟨a,b,c,d⟩,h1,h2,h3,h4⟩:=h
 refine ⟨⟨?_,fun i hi=>?_⟩,⟨?_,fun i hi=>?_⟩,⟨?_,fun i hi=>?_⟩,⟨?_,fun i hi=>?_⟩⟩
 ·exact zP a (by omega)
 ·exact zP (h1 i hi) (by omega)
 ·exact zP b (by omega)
 ·exact ⟨zP (h2 i hi).1 (by omega),zP (h2 i hi).2 (by omega)⟩
 ·exact zP c (by omega)
 ·exact zP (h3 i hi) (by omega)
 ·exact zP d (by omega)
 ·exact zP (h4 i hi) (by omega)
theorem stepIn_any (y:Sy) (p f:Int) (w:World) (B:Nat) (c:Nat->Nat) (vp vs vw vh:Value) (up us uw uh:Nat->Value) (o:OwnS z w B c y vp vs vw vh up us uw uh) (hB:B<=w.heap.size) (hO:y.Ok):
  Calls Tryz.prog 18 #[.agg #[vp,vs,vw,vh],pkV p f] w fun e w'=>e=.returned (.int .i64 (stC y p f))/\Below B w w'/\(∀ b,b<w.heap.size->c b=0->w'.heap[b]? = w.heap[b]?)/\OwnK z w' B c w.heap.size (stY y p f) vp vs vw vh:=by
 obtain ⟨x,hx⟩:∃ x,y.sysIn vp vs vw vh up us uw uh=x:=⟨_,rfl⟩
 have ey:x.y=y:=by rw [<- hx];rfl
 have ev:x.v=.agg #[vp,vs,vw,vh]:=by rw [<- hx];exact o.v
 have hG:SysG w x:=by rw [<- hx];exact o.g
 have HG:Hid (SysG w x):=hG
 have HL:Hid x.Len:=sm_inLen (by rw [ey];exact hO.sm)
 have HO:Hid x.y.Ok:=by rw [ey];exact hO
 have t:x.y.okB=true:=Sy.okB_true HO.out
 obtain ⟨k,q,v0,HCM⟩:∃ k q v0:Int,Hid ((∀ wx,Below w.heap.size w wx->Calls Tryz.prog 25 #[x.v,.int .i64 p,.int .i64 f] wx fun e w'=>e=.returned (.tuple #[evV k q v0,.int .i64 (stC x.y p f)])/\Below wx.heap.size wx w')/\(stC x.y p f≠0->stY x.y p f=x.y)/\(stC x.y p f=0->∃ a:Nat,p=a/\a<x.y.pn/\stY x.y p f=(x.y.evt a k q v0).way a k q v0/\(k=2->0<=q/\q<x.y.pn)/\(k=3->0<=q/\q<x.y.pn/\0<x.y.wL (q.toNat*x.y.pn+a)))):=by
  by_cases hb:belB p x.y.pn=true
  ·have hb':0<=p/\p<(x.y.pn:Int):=by simpa [belB] using hb
   obtain ⟨a,rfl⟩:∃ a:Nat,p=a:=⟨p.toNat,by omega⟩
   have ha:a<x.y.pn:=by omega
   obtain ⟨⟨h1,h4⟩,hs,hh,hw⟩:=HO.out.cn
   have hC:stC x.y (a:Int) f=cmS x.y a f:=by rw [stC,if_pos t,if_pos hb,Int.toNat_natCast]
   have hY:stY x.y (a:Int) f=x.y.step a f:=by rw [stY,if_pos t,if_pos hb,Int.toNat_natCast]
   have hcall:∀ wx,Below w.heap.size w wx->Calls Tryz.prog 25 #[x.v,.int .i64 a,.int .i64 f] wx fun e w'=>e=.returned (.tuple #[cmV x a f,.int .i64 (cmC x a f)])/\Below wx.heap.size wx w':=fun wx hbx=>comingIn_any x a f wx (HG.out.below hbx) HL.out ha h4 hs hh hw (HO.out.four ha) (HO.out.peer ha)
   by_cases h0:cmS x.y a f=0
   ·refine ⟨x.y.nk a,x.y.eq a f,x.y.ev a f,fun wx hbx=>?_,fun hne=>absurd (hC.trans h0) hne,fun _=>⟨a,rfl,ha,?_,fun hk=>?_,fun hk=>?_⟩⟩
    ·rw [hC,<- cmV_step h0]
     exact hcall wx hbx
    ·rw [hY,Sy.step,if_pos h0,Sy.way_evt]
    ·have:=HO.out.peer ha hk
     rw [Sy.eq,if_neg (by rw [hk];decide)]
     exact this
    ·exact tk_zero (cm_take h0 hk)
   ·refine ⟨0,0,0,fun wx hbx=>?_,fun _=>hY.trans (Sy.step_no h0),fun h=>absurd (hC.symm.trans h) h0⟩
    have e:cmV x a f=evV 0 0 0:=if_neg h0
    rw [hC,<- e]
    exact hcall wx hbx
  ·have hC:stC x.y p f=2:=by rw [stC,if_pos t,if_neg hb]
   refine ⟨0,0,0,fun wx _=>?_,fun _=>?_,fun h=>?_⟩
   ·rw [hC]
    exact comingIn_out x p f wx (by
     cases h:belB p x.pn with
     | false=>rfl
     | true=>exact absurd h hb)
   ·rw [stY,if_pos t,if_neg hb]
   ·rw [hC] at h
    cases h
 rw [ev,ey] at HCM
 obtain ⟨pa,pc,rfl⟩:=zU o.p.row
 obtain ⟨sa,sc,rfl⟩:=zU o.s.row
 obtain ⟨wa,wc,rfl⟩:=zU o.t.row
 obtain ⟨ha,hc,rfl⟩:=zU o.h.row
 have HOW:Hid (OwnS z w B c y (.slice pa y.pn pc) (.slice sa y.sn sc) (.slice wa y.wn wc) (.slice ha y.hn hc) up us uw uh/\B<=w.heap.size/\y.Ok):=⟨o,hB,hO⟩
 generalize hC:stC y p f=C at *
 generalize hY:stY y p f=Y at *
 clear hC hY
 clear HG HL HO t hG ev ey hx x o hB hO
 have BA:Hid (Below w.heap.size w ((w.alloc (oQ4 pa y.pn pc sa y.sn sc wa y.wn wc ha y.hn hc)).alloc (.cells #[.int .i64 p,.int .i64 f] 39))):=(zQ _ _).trans ((zQ _ _).mono (by simp))
 have NB:Hid (BoxC ((w.alloc (oQ4 pa y.pn pc sa y.sn sc wa y.wn wc ha y.hn hc)).alloc (.cells #[.int .i64 p,.int .i64 f] 39)) w.heap.size (.slice pa y.pn pc) (.slice sa y.sn sc) (.slice wa y.wn wc) (.slice ha y.hn hc)):=(BoxC.new w _ _ _ _ _).below (zQ _ _)
 have PB:Hid (QsC ((w.alloc (oQ4 pa y.pn pc sa y.sn sc wa y.wn wc ha y.hn hc)).alloc (.cells #[.int .i64 p,.int .i64 f] 39)) (w.heap.size+1) (.int .i64 p) (.int .i64 f)):=by
  have:=QsC.new (w.alloc (oQ4 pa y.pn pc sa y.sn sc wa y.wn wc ha y.hn hc)) (.int .i64 p) (.int .i64 f) 39
  rw [World.size_alloc] at this
  exact this
 go_enter Tryz.func18,Tryz.ntmps18
 go_wp2_with fail
 generalize (w.alloc (oQ4 pa y.pn pc sa y.sn sc wa y.wn wc ha y.hn hc)).alloc (.cells #[.int .i64 p,.int .i64 f] 39)=W2 at *
 refine (HCM.out.1 W2 BA.out).mono ?_
 rintro e w5 ⟨rfl,q5⟩
 have bb:=zQ w5 (oQ0 k q v0)
 have Q6:=q5.trans (bb.mono q5.size)
 have B6:Hid (Below w.heap.size w (w5.alloc (oQ0 k q v0))/\BoxC (w5.alloc (oQ0 k q v0)) w.heap.size (.slice pa y.pn pc) (.slice sa y.sn sc) (.slice wa y.wn wc) (.slice ha y.hn hc)/\QsC (w5.alloc (oQ0 k q v0)) (w.heap.size+1) (.int .i64 p) (.int .i64 f)/\EvK (w5.alloc (oQ0 k q v0)) w5.heap.size k q v0):=⟨BA.out.trans (Q6.mono BA.out.size),NB.out.below Q6,PB.out.below Q6,EvK.new w5 _ _ _ _⟩
 go_upto_region 2 with fail
 clear q5 bb Q6 BA NB PB
 generalize w5.heap.size=E at *
 generalize w5.alloc (oQ0 k q v0)=W6 at *
 clear w5 W2
 by_cases hc0:C=0
 ·obtain ⟨a,ea,ha',hY,hk2,hk3⟩:=HCM.out.2.2 hc0
  subst ea
  subst hc0
  have HH:Hid (Calls Tryz.prog 26 #[.agg #[.slice pa y.pn pc,.slice sa y.sn sc,.slice wa y.wn wc,.slice ha y.hn hc],.int .i64 a,evV k q v0] W6 fun e w'=>e=.returned (.tuple #[])/\Below B W6 w'/\(∀ b,b<W6.heap.size->c b=0->w'.heap[b]? = W6.heap[b]?)/\OwnK z w' B c W6.heap.size Y (.slice pa y.pn pc) (.slice sa y.sn sc) (.slice wa y.wn wc) (.slice ha y.hn hc)):=by
   have h:=happen_own y a k q v0 W6 B _ _ _ _ _ up us uw uh (HOW.out.1.below B6.out.1) (zP HOW.out.2.1 B6.out.1.size) HOW.out.2.2 ha' hk2 hk3
   rw [<- hY] at h
   exact h
  obtain ⟨a0,a1,a2,a3⟩:=B6.out.2.1
  obtain ⟨e0,e1,e2,-⟩:=B6.out.2.2.2
  obtain ⟨f0,f1,-⟩:=B6.out.2.2.1
  clear hY hk2 hk3 HCM
  go_wp2_with fail
  refine HH.out.mono ?_
  rintro e w7 ⟨rfl,q7,kp,c7,up7,us7,uw7,uh7,o7,kc7⟩
  have B7:Hid (Below B w w7/\(∀ b,b<w.heap.size->c b=0->w7.heap[b]? = w.heap[b]?)/\OwnK z w7 B c w.heap.size Y (.slice pa y.pn pc) (.slice sa y.sn sc) (.slice wa y.wn wc) (.slice ha y.hn hc)):=⟨(B6.out.1.mono HOW.out.2.1).trans q7,fun b hb hz=>(kp b (zL hb B6.out.1.size) hz).trans (B6.out.1.block b hb),c7,up7,us7,uw7,uh7,o7,fun b hb=>kc7 b (zL hb B6.out.1.size)⟩
  clear a0 a1 a2 a3 e0 e1 e2 f0 f1 kp o7 q7 HH kc7
  go_wp2
  go_ret
  exact ⟨rfl,B7.out⟩
 ·have tc:(C == 0)=false:=by simpa using hc0
  have hY:=HCM.out.2.1 hc0
  have B7:Hid (Below B w W6/\(∀ b,b<w.heap.size->c b=0->W6.heap[b]? = w.heap[b]?)/\OwnK z W6 B c w.heap.size Y (.slice pa y.pn pc) (.slice sa y.sn sc) (.slice wa y.wn wc) (.slice ha y.hn hc)):=⟨B6.out.1.mono HOW.out.2.1,fun b hb _=>B6.out.1.block b hb,c,up,us,uw,uh,by rw [hY];exact HOW.out.1.below B6.out.1,fun _ _=>rfl⟩
  clear hY HCM hc0
  go_wp2
  go_ret
  exact ⟨rfl,B7.out⟩
variable {z:Bool}
theorem stY_pn {y:Sy} (h:y.Ok) (p f:Int):(stY y p f).pn=y.pn:=by
 unfold Go.Proofs.YtlhikgdcgpgolaaGreatDoor.stY
 rw [if_pos (Sy.okB_true h)]
 by_cases hb:belB p y.pn=true
 ·rw [if_pos hb]
  unfold Sy.step
  split <;> rfl
 ·rw [if_neg hb]
theorem utY_pn {y:Sy} (h:y.Ok) (g:Nat->Pk2):∀ i,(utY y g i).pn=y.pn
 | 0=>rfl
 | i+1=>(stY_pn (utY_ok h g i) _ _).trans (utY_pn h g i)
def PkL (w:World) (a:Option Addr) (len:Nat) (h:Nat->Pk2):Prop:=len=0\/∃ b off,a=some ⟨b,off,none⟩/\b<w.heap.size/\PkAt w b off len h
theorem PkL.below {w w':World} {a:Option Addr} {len:Nat} {h:Nat->Pk2} (hh:PkL w a len h) (hb:Below w.heap.size w w'):PkL w' a len h:=by
 rcases hh with e | ⟨b,off,e,hl,ha⟩
 ·exact .inl e
 ·exact .inr ⟨b,off,e,zL hl hb.size,ha.below hb hl⟩
theorem PkL.at {w:World} {a:Option Addr} {len:Nat} {h:Nat->Pk2} (hh:PkL w a len h) {k:Nat} (hk:k<len):∃ b off,a=some ⟨b,off,none⟩/\b<w.heap.size/\w.cell? ⟨b,off+k*2,none⟩=some (.int .i64 (h k).m)/\w.cell? ⟨b,off+k*2+1,none⟩=some (.int .i64 (h k).v):=by
 rcases hh with e | ⟨b,off,e,hl,ha⟩
 ·omega
 ·exact ⟨b,off,e,hl,ha k hk⟩
structure Uw (w:World) (x:SysIn) (p k v:Int) (wx:World):Prop where
 be:Below w.heap.size w wx
 bs:BoxC wx w.heap.size (.slice x.pa x.pn x.pc) (.slice x.sa x.sn x.sc) (.slice x.wa x.wn x.wc) (.slice x.ha x.hn x.hc)
 bx:EvK wx (w.heap.size+1) p k v
 bo:BoxC wx (w.heap.size+1+1) (.slice none 0 0) (.slice none 0 0) (.slice none 0 0) (.slice none 0 0)
 fo:∀ j,wx.frozen? ⟨w.heap.size+1+1,j,none⟩=false
 lt:w.heap.size+1+1<wx.heap.size
theorem Uw.keep {w:World} {x:SysIn} {p k v:Int} {wx wy:World} {B:Nat} (h:Uw w x p k v wx) (hB:w.heap.size+1+1<B) (hb:Below B wx wy):Uw w x p k v wy:=by
 have hs:wx.heap.size<=wy.heap.size:=hb.size
 exact ⟨h.be.trans (hb.mono (by omega)),h.bs.blkM (hb.block _ (by omega)),h.bx.blk (hb.block _ (by omega)),h.bo.blkM (hb.block _ hB),fun j=>(zI (hb.block _ hB)).trans (h.fo j),zL h.lt hs⟩
theorem Uw.below {w:World} {x:SysIn} {p k v:Int} {wx wy:World} (h:Uw w x p k v wx) (hb:Below wx.heap.size wx wy):Uw w x p k v wy:=h.keep h.lt hb
theorem Uw.new (w:World) (x:SysIn) (p k v:Int) (t t' t'':TypeId):Uw w x p k v (((w.alloc (.cells #[.slice x.pa x.pn x.pc,.slice x.sa x.sn x.sc,.slice x.wa x.wn x.wc,.slice x.ha x.hn x.hc] t)).alloc (.cells #[.int .i64 p,.int .i64 k,.int .i64 v] t')).alloc (.cells #[.slice none 0 0,.slice none 0 0,.slice none 0 0,.slice none 0 0] t'')):=by
 obtain ⟨h1,h2,h3⟩:=box43 w (.slice x.pa x.pn x.pc) (.slice x.sa x.sn x.sc) (.slice x.wa x.wn x.wc) (.slice x.ha x.hn x.hc) p k v t t'
 have hsz:((w.alloc (.cells #[.slice x.pa x.pn x.pc,.slice x.sa x.sn x.sc,.slice x.wa x.wn x.wc,.slice x.ha x.hn x.hc] t)).alloc (.cells #[.int .i64 p,.int .i64 k,.int .i64 v] t')).heap.size=w.heap.size+1+1:=by simp
 generalize (w.alloc (.cells #[.slice x.pa x.pn x.pc,.slice x.sa x.sn x.sc,.slice x.wa x.wn x.wc,.slice x.ha x.hn x.hc] t)).alloc (.cells #[.int .i64 p,.int .i64 k,.int .i64 v] t')=W at *
 have ba:=zT W (.cells #[.slice none 0 0,.slice none 0 0,.slice none 0 0,.slice none 0 0] t'')
 have hn:=BoxC.new W (.slice none 0 0) (.slice none 0 0) (.slice none 0 0) (.slice none 0 0) t''
 rw [hsz] at hn
 exact ⟨h3.trans (ba.mono (by omega)),h1.below ba,h2.below ba,hn,fun j=>yB _ _ _ _ hsz.symm,by rw [World.size_alloc];omega⟩
structure UtB (z:Bool) (w:World) (x:SysIn) (p k v:Int) (N F B A:Nat) (Y:Sy) (vp vs vw vh:Value) (wx:World):Prop where
 uw:Uw w x p k v wx
 qs:QsC wx N (.int .i64 p) (.func (.func F) #[spV p k v] #[])
 bx:BoxC wx A vp vs vw vh
 ow:∃ c up us uw uh,OwnS z wx B c Y vp vs vw vh up us uw uh/\c A=0
 nb:N<B/\w.heap.size+1+1<B/\B<=A
theorem UtB.below {w:World} {x:SysIn} {p k v:Int} {N F B A:Nat} {Y:Sy} {vp vs vw vh:Value} {wx wy:World} (h:UtB z w x p k v N F B A Y vp vs vw vh wx) (hb:Below wx.heap.size wx wy):UtB z w x p k v N F B A Y vp vs vw vh wy:=by
 obtain ⟨c,up,us,uw,uh,o,hc⟩:=h.ow
 exact ⟨h.uw.below hb,h.qs.below hb,h.bx.below hb,⟨c,up,us,uw,uh,o.below hb,hc⟩,h.nb⟩
theorem UtB.lt {w:World} {x:SysIn} {p k v:Int} {N F B A:Nat} {Y:Sy} {vp vs vw vh:Value} {wx:World} (h:UtB z w x p k v N F B A Y vp vs vw vh wx):A<wx.heap.size:=zJ wx _ h.bx.1
theorem UtB.step {w:World} {x:SysIn} {p k v:Int} {N F B A:Nat} {Y:Sy} {vp vs vw vh:Value} {wx:World} (h:UtB z w x p k v N F B A Y vp vs vw vh wx) (hO:Y.Ok) (a f:Int):
  Calls Tryz.prog 18 #[.agg #[vp,vs,vw,vh],pkV a f] wx fun e w'=>e=.returned (.int .i64 (stC Y a f))/\UtB z w x p k v N F B A (stY Y a f) vp vs vw vh w':=by
 obtain ⟨c,up,us,uw,uh,o,hc⟩:=h.ow
 have hA:=h.lt
 refine (stepIn_any Y a f wx B c vp vs vw vh up us uw uh o (by have:=h.nb;omega) hO).mono ?_
 rintro e w' ⟨rfl,b1,kp,c',up',us',uw',uh',o',kc⟩
 refine ⟨rfl,h.uw.keep h.nb.2.1 b1,?_,h.bx.blkM (kp A hA hc),⟨c',up',us',uw',uh',o',(kc A hA).trans hc⟩,h.nb⟩
 have hN:=b1.block N h.nb.1
 exact ⟨(zH hN).trans h.qs.c0,(zH hN).trans h.qs.c1,fun j=>(zI hN).trans (h.qs.fz j)⟩
theorem UtB.holds {w:World} {x:SysIn} {J:Nat} {k v:Int} {N B A:Nat} {Y:Sy} {vp vs vw vh:Value} {wx:World} (h:UtB z w x J k v N (qsF k) B A Y vp vs vw vh wx) (hO:Y.Ok) (hk:knB k=true) (hJ:J<Y.pn):
  Calls Tryz.prog 19 #[qsV J k v,.agg #[vp,vs,vw,vh]] wx fun e w'=>e=.returned (.bool (hsB Y J k v))/\Below wx.heap.size wx w':=by
 obtain ⟨c,up,us,uw,uh,o,hc⟩:=h.ow
 obtain ⟨x',hx⟩:∃ x',Y.sysIn vp vs vw vh up us uw uh=x':=⟨_,rfl⟩
 have ey:x'.y=Y:=by rw [<- hx];rfl
 have ev:x'.v=.agg #[vp,vs,vw,vh]:=by rw [<- hx];exact o.v
 have hG:SysG wx x':=by rw [<- hx];exact o.g
 have e1:x'.sn=x'.pn/\x'.hn=x'.pn/\x'.pn=Y.pn:=by
  have h1:x'.y.sn=x'.y.pn:=by rw [ey];exact hO.cn.2.1
  have h2:x'.y.hn=x'.y.pn:=by rw [ey];exact hO.cn.2.2.1
  have h3:x'.y.pn=Y.pn:=by rw [ey]
  exact ⟨h1,h2,h3⟩
 have:=holdsIn_any x' J k v wx hk hG (sm_inLen (by rw [ey];exact hO.sm)) (by omega) (by omega)
 have e2:hsB Y (J:Int) k v=hoB (x'.sQ J).s (x'.hH J) (x'.hL J) k v:=by
  rw [<- ey,hsB,spB,hk,Sy.okB_true (by rw [ey];exact hO),show belB (J:Int) x'.y.pn=true from decide_eq_true ⟨by omega,by have:x'.y.pn=x'.pn:=rfl;omega⟩]
  rfl
 rw [e2,<- ev]
 exact this
theorem UtB.own {w:World} {x:SysIn} {p k v:Int} {N F B A:Nat} {Y:Sy} {vp vs vw vh:Value} {wx:World} (h:UtB z w x p k v N F B A Y vp vs vw vh wx):OwnSys z ((((wx.setCell ⟨w.heap.size+1+1,0,none⟩ vp).setCell ⟨w.heap.size+1+1,1,none⟩ vs).setCell ⟨w.heap.size+1+1,2,none⟩ vw).setCell ⟨w.heap.size+1+1,3,none⟩ vh) w.heap.size Y (.agg #[vp,vs,vw,vh])/\Below w.heap.size w ((((wx.setCell ⟨w.heap.size+1+1,0,none⟩ vp).setCell ⟨w.heap.size+1+1,1,none⟩ vs).setCell ⟨w.heap.size+1+1,2,none⟩ vw).setCell ⟨w.heap.size+1+1,3,none⟩ vh):=by
 obtain ⟨c,up,us,uw,uh,o,hc⟩:=h.ow
 have o1:OwnSys z wx B Y (.agg #[vp,vs,vw,vh]):=⟨c,vp,vs,vw,vh,up,us,uw,uh,rfl,o⟩
 have l1:=h.nb.2.1
 exact ⟨((((o1.setBelow l1 0 _).setBelow l1 1 _).setBelow l1 2 _).setBelow l1 3 _).base (by omega),(((h.uw.be.setCell (leTwo _) _).setCell (leTwo _) _).setCell (leTwo _) _).setCell (leTwo _) _⟩
variable {z:Bool}
theorem unC_no {y:Sy} {h:Nat->Pk2} {n:Nat} {p k v:Int} (e:unB y p k n=false):unC y h n p k v = -1/\unY y h n p k v={ y with pn:=0,sn:=0,wn:=0,hn:=0 }:=by
 rw [unC,unY,e]
 exact ⟨rfl,rfl⟩
theorem unC_yes {y:Sy} {h:Nat->Pk2} {n:Nat} {p k v:Int} (e:unB y p k n=true):unC y h n p k v=(fsN (utF y h p k v) n 0:Int)/\unY y h n p k v=utY y h (fsN (utF y h p k v) n 0):=by
 rw [unC,unY,e]
 exact ⟨rfl,rfl⟩
theorem implUntil_any (x:SysIn) (la:Option Addr) (n lc:Nat) (h:Nat->Pk2) (p k v:Int) (w:World) (hG:SysG w x) (hL:x.Len) (hN:x.Nn z) (hP:PkL w la n h) (hn:n<=1048576) (hV:w.cell? ⟨0,0,none⟩=some (.iface 222 (.agg #[.pointer (some ⟨1,171,none⟩)]))):
  Calls Tryz.prog 6 #[x.v,.slice la n lc,spV p k v] w fun e w'=>∃ u,e=.returned (.tuple #[u,.int .i64 (unC x.y h n p k v)])/\OwnSys z w' w.heap.size (unY x.y h n p k v) u/\Below w.heap.size w w':=by
 have HV0:0<w.heap.size:=zJ w _ hV
 have HS:Hid (∀ wx,Below w.heap.size w wx->Calls Tryz.prog 16 #[x.v,spV p k v] wx fun e w'=>e=.returned (.tuple #[qsO (spB x.y p k) p k v,.bool (spB x.y p k)])/\Below wx.heap.size wx w'):=fun wx hb=>questionIn_any x p k v wx (hG.below hb) hL ((hb.cell (p:=⟨0,0,none⟩) HV0).trans hV)
 have HC4:Hid (∀ wx,Below w.heap.size w wx->Calls Tryz.prog 17 #[x.v] wx fun e w'=>∃ v,e=.returned v/\OwnSys z w' wx.heap.size x.y v/\Below wx.heap.size wx w'):=fun wx hb=>copySys_any x wx (hG.below hb) hL hN
 have HX:Hid (Uw w x p k v (((w.alloc (oQ4 x.pa x.pn x.pc x.sa x.sn x.sc x.wa x.wn x.wc x.ha x.hn x.hc)).alloc (oQ5 p k v)).alloc (zQ3))):=Uw.new w x p k v _ _ _
 have HP:Hid (PkL w la n h):=hP
 have hn':(n:Int)<=1048576:=by omega
 rcases zK (spB x.y p k) with hT | hT
 case inr=>
  have HN:Hid (unC x.y h n p k v = -1/\unY x.y h n p k v={ x.y with pn:=0,sn:=0,wn:=0,hn:=0 }):=unC_no (by rw [unB,hT,Bool.false_and])
  rw [hT] at HS
  clear hG hL hN hP hT hV HV0 HC4 HP
  generalize unC x.y h n p k v=C at *
  generalize unY x.y h n p k v=Y at *
  go_enter Tryz.func6,Tryz.ntmps6
  go_wp2_with fail
  generalize ((w.alloc (oQ4 x.pa x.pn x.pc x.sa x.sn x.sc x.wa x.wn x.wc x.ha x.hn x.hc)).alloc (oQ5 p k v)).alloc (zQ3)=W2 at *
  refine (HS.out W2 HX.out.be).mono ?_
  rintro e w1 ⟨rfl,b1⟩
  rw [show qsO false p k v=qsZ from rfl]
  have H1:Hid (Uw w x p k v (w1.alloc (.cells #[.int .i64 0,.nilFunc] 51))):=(HX.out.below b1).below (zT _ _)
  clear b1 HX HS
  go_upto_region 2 with fail
  generalize w1.alloc (.cells #[.int .i64 0,.nilFunc] 51)=w2 at *
  obtain ⟨be,-,-,⟨r0,r1,r2,r3⟩,rf,lt⟩:=H1.out
  clear be
  go_wp2
  exact bodyPost_ret (v:=.tuple #[sysV none 0 0 none 0 0 none 0 0 none 0 0,.int .i64 (-1)]) (by simp [results,Tryz.results6,go_sem,r0,r1,r2,r3]) rfl ⟨_,by rw [HN.out.1],by rw [HN.out.2];exact OwnSys.zero _ _ _,(((H1.out.be.setCell (leTwo _) _).setCell (leTwo _) _).setCell (leTwo _) _).setCell (leTwo _) _⟩
 obtain ⟨h1,h2,h3⟩:=spB_parts hT
 have h4:0<=p/\p<(x.pn:Int):=of_decide_eq_true h2
 obtain ⟨J,rfl⟩:∃ J:Nat,p=(J:Int):=⟨p.toNat,by omega⟩
 have HO:Hid (x.y.Ok/\knB k=true/\J<x.y.pn/\spB x.y (J:Int) k=true):=⟨h3,h1,by show J<x.pn;omega,hT⟩
 rw [hT] at HS
 obtain ⟨C,hC⟩:∃ C,unC x.y h n J k v=C:=⟨_,rfl⟩
 obtain ⟨YW,hY⟩:∃ Y,unY x.y h n J k v=Y:=⟨_,rfl⟩
 have HCY:Hid (unC x.y h n J k v=C/\unY x.y h n J k v=YW):=⟨hC,hY⟩
 rw [hC,hY]
 clear hC hY
 clear hG hL hN hP hT hV HV0 h1 h2 h3 h4
 go_enter Tryz.func6,Tryz.ntmps6
 go_wp2_with fail
 generalize ((w.alloc (oQ4 x.pa x.pn x.pc x.sa x.sn x.sc x.wa x.wn x.wc x.ha x.hn x.hc)).alloc (oQ5 J k v)).alloc (zQ3)=W2 at *
 refine (HS.out W2 HX.out.be).mono ?_
 rintro e w1 ⟨rfl,b1⟩
 rw [show qsO true (J:Int) k v=qsV (J:Int) k v from rfl]
 have H1:Hid (Uw w x J k v (w1.alloc (.cells #[.int .i64 J,.func (.func (qsF k)) #[spV J k v] #[]] 51))):=(HX.out.below b1).below (zT _ _)
 have Q1:Hid (QsC (w1.alloc (.cells #[.int .i64 J,.func (.func (qsF k)) #[spV J k v] #[]] 51)) w1.heap.size (.int .i64 J) (.func (.func (qsF k)) #[spV J k v] #[])):=QsC.new w1 _ _ _
 have HHo:Hid (∀ (B A:Nat) (Y:Sy) (vp vs vw vh:Value) (wx:World),UtB z w x J k v w1.heap.size (qsF k) B A Y vp vs vw vh wx->Y.Ok->J<Y.pn->Calls Tryz.prog 19 #[.agg #[.int .i64 J,.func (.func (qsF k)) #[spV J k v] #[]],.agg #[vp,vs,vw,vh]] wx fun e w'=>e=.returned (.bool (hsB Y J k v))/\Below wx.heap.size wx w'):=fun B A Y vp vs vw vh wx hu hY hJ=>hu.holds hY HO.out.2.1 hJ
 clear b1 HX HS
 unfold qsV
 generalize qsF k=F at *
 go_upto_region 2 with fail
 generalize w1.alloc (.cells #[.int .i64 J,.func (.func F) #[spV J k v] #[]] 51)=w2 at *
 generalize w1.heap.size=N at *
 clear w1 W2
 by_cases h200:n<=200
 case neg=>
  have hgt:(200:Int)<(n:Int):=by omega
  have HN:Hid (C = -1/\YW={ x.y with pn:=0,sn:=0,wn:=0,hn:=0 }):=by
   have:=unC_no (y:=x.y) (h:=h) (n:=n) (p:=J) (k:=k) (v:=v) (by rw [unB,decide_eq_false h200,Bool.and_false])
   rw [HCY.out.1,HCY.out.2] at this
   exact this
  obtain ⟨be,-,-,⟨r0,r1,r2,r3⟩,rf,lt⟩:=H1.out
  clear be h200 HC4
  go_wp2
  exact bodyPost_ret (v:=.tuple #[sysV none 0 0 none 0 0 none 0 0 none 0 0,.int .i64 (-1)]) (by simp [results,Tryz.results6,go_sem,r0,r1,r2,r3]) rfl ⟨_,by rw [HN.out.1],by rw [HN.out.2];exact OwnSys.zero _ _ _,(((H1.out.be.setCell (leTwo _) _).setCell (leTwo _) _).setCell (leTwo _) _).setCell (leTwo _) _⟩
 have hgt:¬ (200:Int)<(n:Int):=by omega
 have HN:Hid (C=(fsN (utF x.y h J k v) n 0:Int)/\YW=utY x.y h (fsN (utF x.y h J k v) n 0)):=by
  have:=unC_yes (y:=x.y) (h:=h) (n:=n) (p:=J) (k:=k) (v:=v) (by rw [unB,HO.out.2.2.2,decide_eq_true h200];rfl)
  rw [HCY.out.1,HCY.out.2] at this
  exact this
 obtain ⟨-,⟨s0,s1,s2,s3⟩,-,-,-,lt⟩:=H1.out
 clear h200 lt
 go_wp2_with fail
 clear s0 s1 s2 s3 hgt
 refine (HC4.out w2 H1.out.be).mono ?_
 rintro e w3 ⟨v3,rfl,o3,q3⟩
 obtain ⟨c,vp,vs,vw,vh,up,us,uw,uh,rfl,o3⟩:=o3
 obtain ⟨pa,pc,rfl⟩:=zU o3.p.row
 obtain ⟨sa,sc,rfl⟩:=zU o3.s.row
 obtain ⟨wa,wc,rfl⟩:=zU o3.t.row
 obtain ⟨ha,hc,rfl⟩:=zU o3.h.row
 have ba:=zQ w3 (oQ4 pa x.y.pn pc sa x.y.sn sc wa x.y.wn wc ha x.y.hn hc)
 have Q4:=q3.trans (ba.mono q3.size)
 have L4:Hid (UtB z w x J k v N F w2.heap.size w3.heap.size (utY x.y h 0) (.slice pa x.y.pn pc) (.slice sa x.y.sn sc) (.slice wa x.y.wn wc) (.slice ha x.y.hn hc) (w3.alloc (oQ4 pa x.y.pn pc sa x.y.sn sc wa x.y.wn wc ha x.y.hn hc))):=⟨H1.out.below Q4,Q1.out.below Q4,BoxC.new w3 _ _ _ _ _,⟨_,up,us,uw,uh,(o3.recol 0).below ba,rcol_new (Nat.le_refl _)⟩,zJ w2 _ Q1.out.c0,H1.out.lt,q3.size⟩
 go_upto_region 5 with fail
 clear o3 q3 ba Q4 H1 Q1 HC4
 generalize w2.heap.size=B at *
 generalize w3.heap.size=A at *
 generalize w3.alloc (oQ4 pa x.y.pn pc sa x.y.sn sc wa x.y.wn wc ha x.y.hn hc)=w4 at *
 clear w2 w3
 go_wp2_with fail
 go_loopw [31] (fun i wr=>∃ j:Nat,j<=n/\i=.int .i64 j/\Hid (fsN (utF x.y h J k v) n 0=fsN (utF x.y h J k v) (n - j) j)/\Hid (UtB z w x J k v N F B A (utY x.y h j) (.slice pa x.y.pn pc) (.slice sa x.y.sn sc) (.slice wa x.y.wn wc) (.slice ha x.y.hn hc) wr)) (fun i _=>n - (intOf i).toNat)
 case atStart=>exact ⟨0,Nat.zero_le _,rfl,rfl,L4.out⟩
 case round=>
  clear L4
  obtain ⟨j,hj,rfl,HQ,HW⟩:=hrel
  by_cases hlt:j<n
  ·have hlt':(j:Int)<(n:Int):=by omega
   have hj1:(j:Int)<=1048576:=by omega
   obtain ⟨b,off,rfl,hb,c0,c1⟩:=(HP.out.below HW.out.uw.be).at hlt
   have HQ2:Hid (fsN (utF x.y h J k v) n 0=if utF x.y h J k v j=true then j+1 else fsN (utF x.y h J k v) (n - (j+1)) (j+1)):=by
    have e1:=HQ.out
    rw [show n - j=(n - (j+1))+1 by omega] at e1
    exact e1
   have HF:Hid (utF x.y h J k v j=((stC (utY x.y h j) (h j).m (h j).v == 0) && hsB (utY x.y h (j+1)) J k v)):=rfl
   have HOj:Hid ((utY x.y h j).Ok/\(utY x.y h (j+1)).Ok/\J<(utY x.y h (j+1)).pn):=⟨utY_ok HO.out.1 h j,utY_ok HO.out.1 h (j+1),by rw [utY_pn HO.out.1];exact HO.out.2.2.1⟩
   have HW1:Hid (UtB z w x J k v N F B A (utY x.y h j) (.slice pa x.y.pn pc) (.slice sa x.y.sn sc) (.slice wa x.y.wn wc) (.slice ha x.y.hn hc) (wr.alloc (.cells #[.int .i64 (h j).m,.int .i64 (h j).v] 39))):=HW.out.below (zT _ _)
   have K1:Hid (QsC (wr.alloc (.cells #[.int .i64 (h j).m,.int .i64 (h j).v] 39)) wr.heap.size (.int .i64 (h j).m) (.int .i64 (h j).v)):=QsC.new wr _ _ _
   clear HQ
   go_upto_region 8 with fail
   clear c0 c1 HW
   generalize wr.heap.size=P at *
   generalize wr.alloc (.cells #[.int .i64 (h j).m,.int .i64 (h j).v] 39)=w5 at *
   clear wr
   obtain ⟨a0,a1,a2,a3⟩:=HW1.out.bx
   obtain ⟨k0,k1,-⟩:=K1.out
   have HSt:=HW1.out.step HOj.out.1 (h j).m (h j).v
   have HSt2:Hid (Calls Tryz.prog 18 #[.agg #[.slice pa x.y.pn pc,.slice sa x.y.sn sc,.slice wa x.y.wn wc,.slice ha x.y.hn hc],pkV (h j).m (h j).v] w5 fun e w'=>e=.returned (.int .i64 (stC (utY x.y h j) (h j).m (h j).v))/\UtB z w x J k v N F B A (utY x.y h (j+1)) (.slice pa x.y.pn pc) (.slice sa x.y.sn sc) (.slice wa x.y.wn wc) (.slice ha x.y.hn hc) w'):=HSt
   clear HSt
   generalize stC (utY x.y h j) (h j).m (h j).v=Cd at *
   go_wp2_with fail
   refine HSt2.out.mono ?_
   clear a0 a1 a2 a3 k0 k1 HSt2 HW1 K1
   rintro e w6 ⟨rfl,u6⟩
   have U6:Hid (UtB z w x J k v N F B A (utY x.y h (j+1)) (.slice pa x.y.pn pc) (.slice sa x.y.sn sc) (.slice wa x.y.wn wc) (.slice ha x.y.hn hc) w6):=u6
   clear u6
   obtain ⟨a0,a1,a2,a3⟩:=U6.out.bx
   obtain ⟨q0,q1,-⟩:=U6.out.qs
   rcases zK (Cd == 0) with tc | tc
   case inr=>
    have HQ3:Hid (fsN (utF x.y h J k v) n 0=fsN (utF x.y h J k v) (n - (j+1)) (j+1)):=by
     show _=_
     rw [HQ2.out,HF.out,tc,Bool.false_and]
     rfl
    clear HQ2 HF
    go_wp2
    go_roundw
    case rel=>exact ⟨j+1,by omega,by go_num,HQ3.out,U6.out⟩
    case measure=>simp [intOf];omega
   have HHo2:Hid (Calls Tryz.prog 19 #[.agg #[.int .i64 J,.func (.func F) #[spV J k v] #[]],.agg #[.slice pa x.y.pn pc,.slice sa x.y.sn sc,.slice wa x.y.wn wc,.slice ha x.y.hn hc]] w6 fun e w'=>e=.returned (.bool (hsB (utY x.y h (j+1)) J k v))/\Below w6.heap.size w6 w'):=HHo.out _ _ _ _ _ _ _ w6 U6.out HOj.out.2.1 HOj.out.2.2
   have HF2:Hid (utF x.y h J k v j=hsB (utY x.y h (j+1)) J k v):=by
    show _=_
    rw [HF.out,tc,Bool.true_and]
   clear HF
   generalize hsB (utY x.y h (j+1)) J k v=R at *
   go_wp2_with fail
   refine HHo2.out.mono ?_
   clear a0 a1 a2 a3 q0 q1 HHo2
   rintro e w7 ⟨rfl,b7⟩
   have U7:Hid (UtB z w x J k v N F B A (utY x.y h (j+1)) (.slice pa x.y.pn pc) (.slice sa x.y.sn sc) (.slice wa x.y.wn wc) (.slice ha x.y.hn hc) w7):=U6.out.below b7
   clear b7 U6 tc
   cases R with
   | false=>
    have HQ3:Hid (fsN (utF x.y h J k v) n 0=fsN (utF x.y h J k v) (n - (j+1)) (j+1)):=by
     show _=_
     rw [HQ2.out,HF2.out]
     rfl
    clear HQ2 HF2
    go_wp2
    go_roundw
    case rel=>exact ⟨j+1,by omega,by go_num,HQ3.out,U7.out⟩
    case measure=>simp [intOf];omega
   | true=>
    have HQ3:Hid (C=((j+1:Nat):Int)/\YW=utY x.y h (j+1)):=by
     have e1:fsN (utF x.y h J k v) n 0=j+1:=by
      rw [HQ2.out,HF2.out]
      rfl
     exact ⟨by rw [HN.out.1,e1],by rw [HN.out.2,e1]⟩
    clear HQ2 HF2
    obtain ⟨a0,a1,a2,a3⟩:=U7.out.bx
    obtain ⟨r0,r1,r2,r3⟩:=U7.out.uw.bo
    have rf:=U7.out.uw.fo
    go_wp2
    exact bodyPost_ret (v:=.tuple #[.agg #[.slice pa x.y.pn pc,.slice sa x.y.sn sc,.slice wa x.y.wn wc,.slice ha x.y.hn hc],.int .i64 ((j:Int)+1)]) (by simp [results,Tryz.results6,go_sem,r0,r1,r2,r3]) rfl ⟨_,by rw [HQ3.out.1];rfl,by rw [HQ3.out.2];exact U7.out.own.1,U7.out.own.2⟩
  ·have hjn:j=n:=by omega
   have HQ3:Hid (C=(n:Int)/\YW=utY x.y h n):=by
    have e1:fsN (utF x.y h J k v) n 0=n:=by
     have e2:=HQ.out
     rw [hjn,Nat.sub_self] at e2
     exact e2
    exact ⟨by rw [HN.out.1,e1],by rw [HN.out.2,e1]⟩
   subst hjn
   obtain ⟨a0,a1,a2,a3⟩:=HW.out.bx
   obtain ⟨r0,r1,r2,r3⟩:=HW.out.uw.bo
   have rf:=HW.out.uw.fo
   clear HQ hlt
   go_wp2
   exact bodyPost_ret (v:=.tuple #[.agg #[.slice pa x.y.pn pc,.slice sa x.y.sn sc,.slice wa x.y.wn wc,.slice ha x.y.hn hc],.int .i64 j]) (by simp [results,Tryz.results6,go_sem,r0,r1,r2,r3]) rfl ⟨_,by rw [HQ3.out.1],by rw [HQ3.out.2];exact HW.out.own.1,HW.out.own.2⟩
theorem OwnSys.inU {z:Bool} {w:World} {B:Nat} {y:Sy} {v:Value} (o:OwnSys z w B y v):∃ x:SysIn,v=x.v/\x.y=y/\SysG w x/\∀ i,i<x.hn->x.hL i<=x.hC i:=by
 obtain ⟨c,vp,vs,vw,vh,up,us,uw,uh,rfl,o⟩:=o
 refine ⟨y.sysIn vp vs vw vh up us uw uh,o.v.symm,rfl,o.g,fun i hi=>?_⟩
 rcases (o.h.own i hi).2 with ⟨e,h⟩ | ⟨g,cap,cur,e,_,_,hnc,_⟩
 ·show y.hL i<=cpOf (uh i)
  rw [h];exact Nat.zero_le _
 ·show y.hL i<=cpOf (uh i)
  rw [e];exact hnc
structure UtO (w:World) (M B:Nat) (Y:Sy) (vp vs vw vh:Value):Prop where
 bx:BoxC w M vp vs vw vh
 ow:OwnSys true w B Y (.agg #[vp,vs,vw,vh])
theorem UtO.below {w w':World} {M B:Nat} {Y:Sy} {vp vs vw vh:Value} (h:UtO w M B Y vp vs vw vh) (hb:Below w.heap.size w w'):UtO w' M B Y vp vs vw vh:=⟨h.bx.below hb,h.ow.below hb⟩
structure UtS (w:World) (x:SysIn) (p k v:Int) (M B:Nat) (Y:Sy) (wx:World):Prop where
 uw:Uw w x p k v wx
 fm:∀ j,wx.frozen? ⟨M,j,none⟩=false
 ow:∃ pa pc sa sc wa wc ha hc,UtO wx M B Y (.slice pa Y.pn pc) (.slice sa Y.sn sc) (.slice wa Y.wn wc) (.slice ha Y.hn hc)
 nb:w.heap.size+1+1<B/\B<=M
theorem UtS.below {w:World} {x:SysIn} {p k v:Int} {M B:Nat} {Y:Sy} {wx wy:World} (h:UtS w x p k v M B Y wx) (hb:Below wx.heap.size wx wy):UtS w x p k v M B Y wy:=by
 obtain ⟨pa,pc,sa,sc,wa,wc,ha,hc,o⟩:=h.ow
 exact ⟨h.uw.below hb,fun j=>((bcell hb).2 M j (zJ wx _ o.bx.1)).trans (h.fm j),⟨pa,pc,sa,sc,wa,wc,ha,hc,o.below hb⟩,h.nb⟩
theorem UtS.put {w:World} {x:SysIn} {p k v:Int} {M B N L:Nat} {Y0 Y1:Sy} {wx:World} {pa sa wa ha:Option Addr} {pc sc wc hc:Nat} (h:UtS w x p k v M B Y0 wx) (o:UtO wx N L Y1 (.slice pa Y1.pn pc) (.slice sa Y1.sn sc) (.slice wa Y1.wn wc) (.slice ha Y1.hn hc)) (hM:M<L) (hB:B<=L):
  UtS w x p k v M B Y1 ((((wx.setCell ⟨M,0,none⟩ (.slice pa Y1.pn pc)).setCell ⟨M,1,none⟩ (.slice sa Y1.sn sc)).setCell ⟨M,2,none⟩ (.slice wa Y1.wn wc)).setCell ⟨M,3,none⟩ (.slice ha Y1.hn hc))/\UtO ((((wx.setCell ⟨M,0,none⟩ (.slice pa Y1.pn pc)).setCell ⟨M,1,none⟩ (.slice sa Y1.sn sc)).setCell ⟨M,2,none⟩ (.slice wa Y1.wn wc)).setCell ⟨M,3,none⟩ (.slice ha Y1.hn hc)) M B Y1 (.slice pa Y1.pn pc) (.slice sa Y1.sn sc) (.slice wa Y1.wn wc) (.slice ha Y1.hn hc):=by
 obtain ⟨pa',pc',sa',sc',wa',wc',ha',hc',o'⟩:=h.ow
 have hb:Below B wx ((((wx.setCell ⟨M,0,none⟩ (.slice pa Y1.pn pc)).setCell ⟨M,1,none⟩ (.slice sa Y1.sn sc)).setCell ⟨M,2,none⟩ (.slice wa Y1.wn wc)).setCell ⟨M,3,none⟩ (.slice ha Y1.hn hc)):=((((Below.refl B wx).setCell h.nb.2 _).setCell h.nb.2 _).setCell h.nb.2 _).setCell h.nb.2 _
 have u:UtO ((((wx.setCell ⟨M,0,none⟩ (.slice pa Y1.pn pc)).setCell ⟨M,1,none⟩ (.slice sa Y1.sn sc)).setCell ⟨M,2,none⟩ (.slice wa Y1.wn wc)).setCell ⟨M,3,none⟩ (.slice ha Y1.hn hc)) M B Y1 (.slice pa Y1.pn pc) (.slice sa Y1.sn sc) (.slice wa Y1.wn wc) (.slice ha Y1.hn hc):=⟨o'.bx.set4 _ _ _ _,((((o.ow.setBelow hM 0 _).setBelow hM 1 _).setBelow hM 2 _).setBelow hM 3 _).base hB⟩
 exact ⟨⟨h.uw.keep h.nb.1 hb,fun j=>by simpa using h.fm j,⟨pa,pc,sa,sc,wa,wc,ha,hc,u⟩,h.nb⟩,u⟩
theorem UtS.out {w:World} {x:SysIn} {p k v:Int} {M B:Nat} {Y:Sy} {wx:World} {vp vs vw vh:Value} (h:UtS w x p k v M B Y wx) (o:UtO wx M B Y vp vs vw vh):OwnSys true ((((wx.setCell ⟨w.heap.size+1+1,0,none⟩ vp).setCell ⟨w.heap.size+1+1,1,none⟩ vs).setCell ⟨w.heap.size+1+1,2,none⟩ vw).setCell ⟨w.heap.size+1+1,3,none⟩ vh) w.heap.size Y (.agg #[vp,vs,vw,vh])/\Below w.heap.size w ((((wx.setCell ⟨w.heap.size+1+1,0,none⟩ vp).setCell ⟨w.heap.size+1+1,1,none⟩ vs).setCell ⟨w.heap.size+1+1,2,none⟩ vw).setCell ⟨w.heap.size+1+1,3,none⟩ vh):=by
 have l1:=h.nb.1
 exact ⟨((((o.ow.setBelow l1 0 _).setBelow l1 1 _).setBelow l1 2 _).setBelow l1 3 _).base (by omega),(((h.uw.be.setCell (leTwo _) _).setCell (leTwo _) _).setCell (leTwo _) _).setCell (leTwo _) _⟩
theorem specUntil_any (x:SysIn) (la:Option Addr) (n lc:Nat) (h:Nat->Pk2) (p k v:Int) (w:World) (hG:SysG w x) (hL:x.Len) (hcap:∀ i,i<x.hn->x.hL i<=x.hC i) (hP:PkL w la n h) (hn:n<=1048576):
  Calls Tryz.prog 7 #[x.v,.slice la n lc,spV p k v] w fun e w'=>∃ u,e=.returned (.tuple #[u,.int .i64 (unC x.y h n p k v)])/\OwnSys true w' w.heap.size (unY x.y h n p k v) u/\Below w.heap.size w w':=by
 have HS:Hid (∀ wx,Below w.heap.size w wx->Calls Tryz.prog 20 #[x.v,spV p k v] wx fun e w'=>e=.returned (.bool (spB x.y p k))/\Below wx.heap.size wx w'):=fun wx hb=>specStopOk_any x p k v wx (hG.below hb) hL hcap
 have HC4:Hid (∀ wx,Below w.heap.size w wx->Calls Tryz.prog 21 #[x.v] wx fun e w'=>∃ v,e=.returned v/\OwnSys true w' wx.heap.size x.y v/\Below wx.heap.size wx w'):=fun wx hb=>l4Copy_any x wx (hG.below hb) hL
 have HX:Hid (Uw w x p k v (((w.alloc (oQ4 x.pa x.pn x.pc x.sa x.sn x.sc x.wa x.wn x.wc x.ha x.hn x.hc)).alloc (oQ5 p k v)).alloc (zQ3))):=Uw.new w x p k v _ _ _
 have HP:Hid (PkL w la n h):=hP
 have hn':(n:Int)<=1048576:=by omega
 obtain ⟨C,hC⟩:∃ C,unC x.y h n p k v=C:=⟨_,rfl⟩
 obtain ⟨YW,hY⟩:∃ Y,unY x.y h n p k v=Y:=⟨_,rfl⟩
 have HCY:Hid (unC x.y h n p k v=C/\unY x.y h n p k v=YW):=⟨hC,hY⟩
 rw [hC,hY]
 clear hC hY hP
 have HG:Hid (SysG w x):=hG
 obtain ⟨T,hT⟩:∃ T,spB x.y p k=T:=⟨_,rfl⟩
 have HT:Hid (spB x.y p k=T):=hT
 rw [hT] at HS
 clear hG hL hcap hT
 go_enter Tryz.func7,Tryz.ntmps7
 go_wp2_with fail
 generalize ((w.alloc (oQ4 x.pa x.pn x.pc x.sa x.sn x.sc x.wa x.wn x.wc x.ha x.hn x.hc)).alloc (oQ5 p k v)).alloc (zQ3)=W2 at *
 refine (HS.out W2 HX.out.be).mono ?_
 rintro e w2 ⟨rfl,b1⟩
 have H1:Hid (Uw w x p k v w2):=HX.out.below b1
 clear b1 HX HS W2
 by_cases hu:T=true/\n<=200
 case neg=>
  have HN:Hid (C = -1/\YW={ x.y with pn:=0,sn:=0,wn:=0,hn:=0 }):=by
   have := unC_no (y := x.y) (h := h) (n := n) (p := p) (k := k) (v := v) (by
    rw [unB,HT.out]
    cases T with
    | false=>rfl
    | true=>rw [decide_eq_false fun h9=>hu ⟨rfl,h9⟩];rfl)
   rw [HCY.out.1,HCY.out.2] at this
   exact this
  obtain ⟨be,-,-,⟨r0,r1,r2,r3⟩,rf,lt⟩:=H1.out
  clear be HC4 HT HCY
  cases T with
  | false=>
   clear hu
   go_wp2
   exact bodyPost_ret (v:=.tuple #[sysV none 0 0 none 0 0 none 0 0 none 0 0,.int .i64 (-1)]) (by simp [results,Tryz.results7,go_sem,r0,r1,r2,r3]) rfl ⟨_,by rw [HN.out.1],by rw [HN.out.2];exact OwnSys.zero _ _ _,(((H1.out.be.setCell (leTwo _) _).setCell (leTwo _) _).setCell (leTwo _) _).setCell (leTwo _) _⟩
  | true=>
   have hgt:(200:Int)<(n:Int):=by
    have:¬ n<=200:=fun h9=>hu ⟨rfl,h9⟩
    omega
   clear hu
   go_wp2
   exact bodyPost_ret (v:=.tuple #[sysV none 0 0 none 0 0 none 0 0 none 0 0,.int .i64 (-1)]) (by simp [results,Tryz.results7,go_sem,r0,r1,r2,r3]) rfl ⟨_,by rw [HN.out.1],by rw [HN.out.2];exact OwnSys.zero _ _ _,(((H1.out.be.setCell (leTwo _) _).setCell (leTwo _) _).setCell (leTwo _) _).setCell (leTwo _) _⟩
 obtain ⟨rfl,h200⟩:=hu
 have HN:Hid (C=(fsN (utF x.y h p k v) n 0:Int)/\YW=utY x.y h (fsN (utF x.y h p k v) n 0)):=by
  have:=unC_yes (y:=x.y) (h:=h) (n:=n) (p:=p) (k:=k) (v:=v) (by rw [unB,HT.out,decide_eq_true h200];rfl)
  rw [HCY.out.1,HCY.out.2] at this
  exact this
 have HO:Hid x.y.Ok:=(spB_parts HT.out).2.2
 have hgt:¬ (200:Int)<(n:Int):=by omega
 obtain ⟨-,⟨s0,s1,s2,s3⟩,-,-,-,lt⟩:=H1.out
 clear h200 lt HCY HT
 go_wp2_with fail
 clear s0 s1 s2 s3 hgt
 refine (HC4.out w2 H1.out.be).mono ?_
 rintro e w3 ⟨v3,rfl,o3,q3⟩
 obtain ⟨pa,pc,sa,sc,wa,wc,ha,hc,rfl⟩:=o3.form
 have ba:=zQ w3 (oQ4 pa x.y.pn pc sa x.y.sn sc wa x.y.wn wc ha x.y.hn hc)
 have Q4:=q3.trans (ba.mono q3.size)
 have L4:Hid (UtS w x p k v w3.heap.size w2.heap.size (utY x.y h 0) (w3.alloc (oQ4 pa x.y.pn pc sa x.y.sn sc wa x.y.wn wc ha x.y.hn hc))):=⟨H1.out.below Q4,fun j=>yB _ _ _ _ rfl,⟨pa,pc,sa,sc,wa,wc,ha,hc,BoxC.new w3 _ _ _ _ _,o3.below ba⟩,H1.out.lt,q3.size⟩
 go_upto_region 4 with fail
 clear o3 q3 ba Q4 H1 HC4
 generalize w2.heap.size=B at *
 generalize w3.heap.size=M at *
 generalize w3.alloc (oQ4 pa x.y.pn pc sa x.y.sn sc wa x.y.wn wc ha x.y.hn hc)=w4 at *
 clear w2 w3
 go_wp2_with fail
 go_loopw [9] (fun i wr=>∃ j:Nat,j<=n/\i=.int .i64 j/\Hid (fsN (utF x.y h p k v) n 0=fsN (utF x.y h p k v) (n - j) j)/\Hid (UtS w x p k v M B (utY x.y h j) wr)) (fun i _=>n - (intOf i).toNat)
 case atStart=>exact ⟨0,Nat.zero_le _,rfl,rfl,L4.out⟩
 case round=>
  clear L4
  obtain ⟨j,hj,rfl,HQ,HW⟩:=hrel
  obtain ⟨pa,pc,sa,sc,wa,wc,ha,hc,hUo⟩:=HW.out.ow
  have UO:Hid (UtO wr M B (utY x.y h j) (.slice pa (utY x.y h j).pn pc) (.slice sa (utY x.y h j).sn sc) (.slice wa (utY x.y h j).wn wc) (.slice ha (utY x.y h j).hn hc)):=hUo
  clear hUo
  by_cases hlt:j<n
  ·have hlt':(j:Int)<(n:Int):=by omega
   have hj1:(j:Int)<=1048576:=by omega
   obtain ⟨b,off,rfl,hb,c0,c1⟩:=(HP.out.below HW.out.uw.be).at hlt
   have HQ2:Hid (fsN (utF x.y h p k v) n 0=if utF x.y h p k v j=true then j+1 else fsN (utF x.y h p k v) (n - (j+1)) (j+1)):=by
    have e1:=HQ.out
    rw [show n - j=(n - (j+1))+1 by omega] at e1
    exact e1
   have HF:Hid (utF x.y h p k v j=((stC (utY x.y h j) (h j).m (h j).v == 0) && hsB (utY x.y h (j+1)) p k v)):=rfl
   have HSt:Hid (∀ wx,Below wr.heap.size wr wx->Calls Tryz.prog 22 #[.agg #[.slice pa (utY x.y h j).pn pc,.slice sa (utY x.y h j).sn sc,.slice wa (utY x.y h j).wn wc,.slice ha (utY x.y h j).hn hc],.int .i64 (h j).m,.int .i64 (h j).v] wx fun e w'=>∃ v,e=.returned (.tuple #[v,.int .i64 (stC (utY x.y h j) (h j).m (h j).v)])/\OwnSys true w' wx.heap.size (utY x.y h (j+1)) v/\Below wx.heap.size wx w'):=fun wx hbx=>by
    obtain ⟨x',e1,e2,g',cp'⟩:=(UO.out.ow.below hbx).inU
    have h9:=specStep_any x' (h j).m (h j).v wx g' (sm_inLen (by rw [e2];exact (utY_ok HO.out h j).sm)) cp'
    rw [e2,<- e1] at h9
    exact h9
   have HZ:Hid (stC (utY x.y h j) (h j).m (h j).v≠0->utY x.y h (j+1)=utY x.y h j):=fun h9=>by
    show stY (utY x.y h j) (h j).m (h j).v=_
    have ok:=Sy.okB_true (utY_ok HO.out h j)
    rw [stC,if_pos ok] at h9
    rw [stY,if_pos ok]
    by_cases hb9:belB (h j).m (utY x.y h j).pn=true
    ·rw [if_pos hb9] at h9 ⊢
     exact Sy.step_no h9
    ·rw [if_neg hb9]
   have HHo:Hid (∀ (B':Nat) (u:Value) (wx:World),OwnSys true wx B' (utY x.y h (j+1)) u->Calls Tryz.prog 23 #[u,spV p k v] wx fun e w'=>e=.returned (.bool (hsB (utY x.y h (j+1)) p k v))/\Below wx.heap.size wx w'):=fun B' u wx o=>by
    obtain ⟨x',rfl,e2,g',cp'⟩:=o.inU
    have h9:=specHolds_any x' p k v wx g' (sm_inLen (by rw [e2];exact (utY_ok HO.out h (j+1)).sm)) cp'
    rw [e2] at h9
    exact h9
   obtain ⟨Y0,hY0⟩:∃ Y0,utY x.y h j=Y0:=⟨_,rfl⟩
   obtain ⟨Y1,hY1⟩:∃ Y1,utY x.y h (j+1)=Y1:=⟨_,rfl⟩
   have HY1:Hid (utY x.y h (j+1)=Y1):=hY1
   have HY0:Hid (utY x.y h j=Y0):=hY0
   rw [hY0,hY1] at HF HSt HZ
   rw [hY1] at HHo
   rw [hY0] at HW UO
   clear hY0 hY1 HQ
   generalize stC Y0 (h j).m (h j).v=Cd at *
   have lM:M<wr.heap.size:=zJ wr _ UO.out.bx.1
   obtain ⟨a0,a1,a2,a3⟩:=UO.out.bx
   have d1:wr.heap.size≠M:=by omega
   have d2:wr.heap.size≠b:=by omega
   go_upto_region 7 with fail
   go_cut [10,11] from 30 to 44 (fun s t wx=>∃ N:Nat,s=.pointer (some ⟨N,0,none⟩)/\t=.int .i64 Cd/\Hid (Below wr.heap.size wr wx/\wr.heap.size<=N/\∃ pa pc sa sc wa wc ha hc,UtO wx N wr.heap.size Y1 (.slice pa Y1.pn pc) (.slice sa Y1.sn sc) (.slice wa Y1.wn wc) (.slice ha Y1.hn hc)))
   case first=>
    go_region_held3 (fun w'=>w'.cell? ⟨M,0,none⟩=some (.slice pa Y0.pn pc)/\w'.cell? ⟨M,1,none⟩=some (.slice sa Y0.sn sc)/\w'.cell? ⟨M,2,none⟩=some (.slice wa Y0.wn wc)/\w'.cell? ⟨M,3,none⟩=some (.slice ha Y0.hn hc)/\w'.cell? ⟨b,off+j*2,none⟩=some (.int .i64 (h j).m)/\w'.cell? ⟨b,off+j*2+1,none⟩=some (.int .i64 (h j).v)) (go_keep)
     (first
      | (go_at_call 22;refine (HSt.out _ (by go_grown)).mono ?_;rintro e w5 ⟨v5,rfl,o5,b5⟩;obtain ⟨pa5,pc5,sa5,sc5,wa5,wc5,ha5,hc5,rfl⟩:=o5.form;have q5:Below wr.heap.size wr w5:=below_up (by go_grown) b5 (by simp);(try simp only [World.size_alloc,World.size_drew] at o5);have O5:Hid (OwnSys true w5 _ Y1 (.agg #[.slice pa5 Y1.pn pc5,.slice sa5 Y1.sn sc5,.slice wa5 Y1.wn wc5,.slice ha5 Y1.hn hc5])):=o5;obtain ⟨hc5',hf5⟩:=bcell b5;have z5:=b5.size;(try simp only [World.size_alloc,World.size_drew,Nat.add_one_le_iff] at z5);have j5:wr.heap.size<=w5.heap.size:=q5.size;have Q5:Hid (Below wr.heap.size wr w5):=q5;have y0:=(q5.cell (p:=⟨M,0,none⟩) lM).trans a0;have y1:=(q5.cell (p:=⟨M,1,none⟩) lM).trans a1;have y2:=(q5.cell (p:=⟨M,2,none⟩) lM).trans a2;have y3:=(q5.cell (p:=⟨M,3,none⟩) lM).trans a3;have y4:=(q5.cell (p:=⟨b,off+j*2,none⟩) hb).trans c0;have y5:=(q5.cell (p:=⟨b,off+j*2+1,none⟩) hb).trans c1;clear o5 b5 q5))
    all_goals
     go_wp2_with fail
     go_meet
     case rel=>
      first
      | (refine ⟨w5.heap.size, by with_reducible rfl, rfl, ?_⟩
         exact ⟨Q5.out.trans ((zT _ _).mono j5),j5,_,_,_,_,_,_,_,_,BoxC.new _ _ _ _ _ _,(O5.out.base (by omega)).below (zT _ _)⟩)
      | (refine ⟨wr.heap.size, by with_reducible rfl, rfl, ?_⟩
         exact ⟨(((Q5.out.setCell (Nat.le_refl _) _).setCell (Nat.le_refl _) _).setCell (Nat.le_refl _) _).setCell (Nat.le_refl _) _,Nat.le_refl _,_,_,_,_,_,_,_,_,BoxC.set4 (z0:=.slice none 0 0) (z1:=.slice none 0 0) (z2:=.slice none 0 0) (z3:=.slice none 0 0) ⟨by rw [hc5' _ _ (by simp)];simp,by rw [hc5' _ _ (by simp)];simp,by rw [hc5' _ _ (by simp)];simp,by rw [hc5' _ _ (by simp)];simp⟩ _ _ _ _,((((O5.out.setBelow (Nat.lt_succ_self _) 0 _).setBelow (Nat.lt_succ_self _) 1 _).setBelow (Nat.lt_succ_self _) 2 _).setBelow (Nat.lt_succ_self _) 3 _).base (by omega)⟩)
   case rest=>
    obtain ⟨N,rfl,rfl,HR⟩:=hcut
    have W5:Hid (UtS w x p k v M B Y0 wc):=HW.out.below HR.out.1
    have LM:Hid (M<wr.heap.size/\B<=wr.heap.size):=⟨lM,by have:=HW.out.nb;omega⟩
    obtain ⟨pa,pc,sa,sc,wa,wc',ha,hc,hUn⟩:=HR.out.2.2
    have UN:Hid (UtO wc N wr.heap.size Y1 (.slice pa Y1.pn pc) (.slice sa Y1.sn sc) (.slice wa Y1.wn wc') (.slice ha Y1.hn hc)):=hUn
    clear hUn HR a0 a1 a2 a3 c0 c1 d1 d2 lM hb HW UO HSt
    by_cases hc0:Cd=0
    case neg=>
     have tc:(Cd != 0)=true:=by simpa using hc0
     have HQ3:Hid (fsN (utF x.y h p k v) n 0=fsN (utF x.y h p k v) (n - (j+1)) (j+1)):=by
      show _=_
      rw [HQ2.out,HF.out,show (Cd == 0)=false by simpa using hc0,Bool.false_and]
      rfl
     have W6:Hid (UtS w x p k v M B (utY x.y h (j+1)) wc):=by
      show UtS w x p k v M B (utY x.y h (j+1)) wc
      rw [HY1.out,HZ.out hc0]
      exact W5.out
     clear HQ2 HF hc0 HZ W5 UN HHo
     go_wp2
     go_roundw
     case rel=>exact ⟨j+1,by omega,by go_num,HQ3.out,W6.out⟩
     case measure=>simp [intOf];omega
    have tc:(Cd != 0)=false:=by simpa using hc0
    have HF2:Hid (utF x.y h p k v j=hsB Y1 p k v):=by
     show _=_
     rw [HF.out,show (Cd == 0)=true by simpa using hc0,Bool.true_and]
    have W6:Hid (UtS w x p k v M B Y1 ((((wc.setCell ⟨M,0,none⟩ (.slice pa Y1.pn pc)).setCell ⟨M,1,none⟩ (.slice sa Y1.sn sc)).setCell ⟨M,2,none⟩ (.slice wa Y1.wn wc')).setCell ⟨M,3,none⟩ (.slice ha Y1.hn hc))/\UtO ((((wc.setCell ⟨M,0,none⟩ (.slice pa Y1.pn pc)).setCell ⟨M,1,none⟩ (.slice sa Y1.sn sc)).setCell ⟨M,2,none⟩ (.slice wa Y1.wn wc')).setCell ⟨M,3,none⟩ (.slice ha Y1.hn hc)) M B Y1 (.slice pa Y1.pn pc) (.slice sa Y1.sn sc) (.slice wa Y1.wn wc') (.slice ha Y1.hn hc)):=W5.out.put UN.out LM.out.1 LM.out.2
    obtain ⟨n0,n1,n2,n3⟩:=UN.out.bx
    obtain ⟨pa0,pc0,sa0,sc0,wa0,wc0,ha0,hc9,hU0⟩:=W5.out.ow
    obtain ⟨m0,m1,m2,m3⟩:=hU0.bx
    have mf:=W5.out.fm
    clear HF hc0 HZ hU0
    go_upto_region 10 with fail
    clear n0 n1 n2 n3 m0 m1 m2 m3 mf tc UN W5 LM
    generalize (((wc.setCell ⟨M,0,none⟩ (.slice pa Y1.pn pc)).setCell ⟨M,1,none⟩ (.slice sa Y1.sn sc)).setCell ⟨M,2,none⟩ (.slice wa Y1.wn wc')).setCell ⟨M,3,none⟩ (.slice ha Y1.hn hc)=w6 at *
    have HH2:Hid (Calls Tryz.prog 23 #[.agg #[.slice pa Y1.pn pc,.slice sa Y1.sn sc,.slice wa Y1.wn wc',.slice ha Y1.hn hc],spV p k v] w6 fun e w'=>e=.returned (.bool (hsB Y1 p k v))/\Below w6.heap.size w6 w'):=HHo.out _ _ w6 W6.out.2.ow
    generalize hsB Y1 p k v=R at *
    obtain ⟨m0,m1,m2,m3⟩:=W6.out.2.bx
    obtain ⟨x0,x1,x2,-⟩:=W6.out.1.uw.bx
    clear HHo
    go_wp2_with fail
    refine HH2.out.mono ?_
    clear m0 m1 m2 m3 x0 x1 x2 HH2
    rintro e w7 ⟨rfl,b7⟩
    have W7:Hid (UtS w x p k v M B Y1 w7/\UtO w7 M B Y1 (.slice pa Y1.pn pc) (.slice sa Y1.sn sc) (.slice wa Y1.wn wc') (.slice ha Y1.hn hc)):=⟨W6.out.1.below b7,W6.out.2.below b7⟩
    clear b7 W6
    cases R with
    | false=>
     have HQ3:Hid (fsN (utF x.y h p k v) n 0=fsN (utF x.y h p k v) (n - (j+1)) (j+1)):=by
      show _=_
      rw [HQ2.out,HF2.out]
      rfl
     have W8:Hid (UtS w x p k v M B (utY x.y h (j+1)) w7):=by
      show UtS w x p k v M B (utY x.y h (j+1)) w7
      rw [HY1.out]
      exact W7.out.1
     clear HQ2 HF2 W7
     go_wp2
     go_roundw
     case rel=>exact ⟨j+1,by omega,by go_num,HQ3.out,W8.out⟩
     case measure=>simp [intOf];omega
    | true=>
     have HQ3:Hid (C=((j+1:Nat):Int)/\YW=Y1):=by
      have e1:fsN (utF x.y h p k v) n 0=j+1:=by
       rw [HQ2.out,HF2.out]
       rfl
      exact ⟨by rw [HN.out.1,e1],by rw [HN.out.2,e1,HY1.out]⟩
     clear HQ2 HF2
     obtain ⟨a0,a1,a2,a3⟩:=W7.out.2.bx
     obtain ⟨r0,r1,r2,r3⟩:=W7.out.1.uw.bo
     have rf:=W7.out.1.uw.fo
     go_wp2
     exact bodyPost_ret (v:=.tuple #[.agg #[.slice pa Y1.pn pc,.slice sa Y1.sn sc,.slice wa Y1.wn wc',.slice ha Y1.hn hc],.int .i64 ((j:Int)+1)]) (by simp [results,Tryz.results7,go_sem,r0,r1,r2,r3]) rfl ⟨_,by rw [HQ3.out.1];rfl,by rw [HQ3.out.2];exact (W7.out.1.out W7.out.2).1,(W7.out.1.out W7.out.2).2⟩
  ·have hjn:j=n:=by omega
   have HQ3:Hid (C=(n:Int)/\YW=utY x.y h n):=by
    have e1:fsN (utF x.y h p k v) n 0=n:=by
     have e2:=HQ.out
     rw [hjn,Nat.sub_self] at e2
     exact e2
    exact ⟨by rw [HN.out.1,e1],by rw [HN.out.2,e1]⟩
   subst hjn
   obtain ⟨a0,a1,a2,a3⟩:=UO.out.bx
   obtain ⟨r0,r1,r2,r3⟩:=HW.out.uw.bo
   have rf:=HW.out.uw.fo
   generalize utY x.y h j=Y0 at *
   clear HQ hlt
   go_wp2
   exact bodyPost_ret (v:=.tuple #[.agg #[.slice pa Y0.pn pc,.slice sa Y0.sn sc,.slice wa Y0.wn wc,.slice ha Y0.hn hc],.int .i64 j]) (by simp [results,Tryz.results7,go_sem,r0,r1,r2,r3]) rfl ⟨_,by rw [HQ3.out.1],by rw [HQ3.out.2];exact (HW.out.out UO.out).1,(HW.out.out UO.out).2⟩
