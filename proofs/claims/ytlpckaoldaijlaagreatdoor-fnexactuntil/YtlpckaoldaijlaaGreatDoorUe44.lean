import Derived.Test.YtlpckaoldaijlaaGreatDoorUe0
import Derived.Test.YtlpckaoldaijlaaGreatDoorUe32
import Derived.Test.YtlpckaoldaijlaaGreatDoorUe20
import Derived.Lib.AppendZerosOnto
import Derived.Lib.Walk
import Derived.Lib.SliceRun
import Derived.Maps.AppendAt
namespace Go.Proofs.YtlpckaoldaijlaaGreatDoor
set_option maxRecDepth 100000
set_option maxHeartbeats 4000000
open Go.ChangeShapes Go.WideShapes Go.ChangeAt Go.RowKit Go.Deep
variable {z:Bool}
theorem growItem_own (n:Nat) (w:World) (h0:0<n) (hn:n<=2000000):
  Calls Tryz.prog 242 #[.slice none 0 0,.int .i64 (n:Int)] w fun e w'=>∃ c,e=.returned (.slice (some ⟨w.heap.size,0,none⟩) 0 c)/\w'.ownsRow w.heap.size 131 2 (.slice (some ⟨w.heap.size,0,none⟩) 0 c) 0 []/\Below w.heap.size w w':=by
 obtain ⟨i,z,hi,hz,hs,hb,hzs⟩:=kndT.inf
 have hby:n*i.bytes<=140737488355328:=by
  rw [hb]
  omega
 have hrz:∀ ty,(Builtin.append_ #[88,3] ty #[.slice none 0 0,.int .i64 (n:Int)]).run Tryz.prog w=.ok (.slice (some ⟨w.heap.size,0,none⟩) n (grownCap w n 0 131)) (w.drew.alloc (.cells (Builtin.zeroCells z.cells n ++ Builtin.zeroCells z.cells (grownCap w n 0 131 - n)) 131)):=fun ty=>by
  have h:=Lib.run_append_grow_zeros w 88 3 ty 131 i z .i64 .i64 kndT.und Tryz.underlying3 hi hz none 0 0 [] (run_firstCells_none w.drew i.size 0 0 0) n h0 (by omega) (by omega) (by omega) (by omega) (by rw [Nat.zero_add];exact growslice_fits (by omega) hby)
  simpa using h
 have hG:n<=grownCap w n 0 131:=grownCap_ge w _ _ _
 have hGm:grownCap w n 0 131<=maxLen:=grownCap_le_maxLen w _ _ _ (by unfold maxLen;omega)
 have OW:Hid ((w.drew.alloc (.cells (Builtin.zeroCells z.cells n ++ Builtin.zeroCells z.cells (grownCap w n 0 131 - n)) 131)).ownsRow w.heap.size 131 2 (.slice (some ⟨w.heap.size,0,none⟩) 0 (grownCap w n 0 131)) 0 []):=World.ownsRow_made (base:=w.heap.size) (e:=131) (size:=2) w.drew _ _ (Nat.le_refl _) hGm (by rw [Array.size_append,size_zeroCells,size_zeroCells,hzs];omega)
 have BW:Hid (Below w.heap.size w (w.drew.alloc (.cells (Builtin.zeroCells z.cells n ++ Builtin.zeroCells z.cells (grownCap w n 0 131 - n)) 131))):=(Below.refl w.heap.size w).drew.trans (zT w.drew _)
 generalize grownCap w n 0 131=G at *
 generalize Builtin.zeroCells z.cells n ++ Builtin.zeroCells z.cells (G - n)=cs at *
 have hG':(n:Int)<=(G:Int):=by omega
 have hG0:(0:Int)<=(G:Int):=by omega
 have hn0:¬ ((n:Int)<0):=by omega
 have hn1:(0:Int)<(n:Int):=by omega
 clear hi hz hs hb hzs hby hGm hG
 go_enter Tryz.func242,Tryz.ntmps242
 go_wp2_with (at_builtin;refine Lib.wpList_append_run _ rfl _ _ _ _ rfl _ _ rfl rfl _ _ (hrz _) ?_)
 all_goals
  go_ret
  exact ⟨_,rfl,OW.out,BW.out⟩
theorem concatItem_own (b n1 c1 n2 c2:Nat) (a1 a2:Option Addr) (s1 s2:List Value) (w:World) (h1:n1<=1000000) (h2:n2<=1000000) (h0:0<n1+n2) (k1:w.cell? ⟨b,0,none⟩=some (.slice a1 n1 c1)) (k2:w.cell? ⟨b,1,none⟩=some (.slice a2 n2 c2)) (l1:s1.length=n1*2) (l2:s2.length=n2*2) (r1:Src w a1 s1) (r2:Src w a2 s2) (o1:∀ u ∈ s1,u.oneCell'=true) (o2:∀ u ∈ s2,u.oneCell'=true):
  Calls Tryz.prog 218 #[.slice (some ⟨b,0,none⟩) 2 2] w fun e w'=>∃ v,e=.returned v/\w'.ownsRow w.heap.size 131 2 v (n1+n2) (s1 ++ s2)/\v≠.slice none 0 0/\Below w.heap.size w w':=by
 have H1:(n1:Int)<=1000000:=by omega
 have H2:(n2:Int)<=1000000:=by omega
 have KC:Hid (w.cell? ⟨b,0,none⟩=some (.slice a1 n1 c1)/\w.cell? ⟨b,1,none⟩=some (.slice a2 n2 c2)/\b<w.heap.size):=⟨k1,k2,zK w _ k1⟩
 have RC:Hid ((s1.length=n1*2/\Src w a1 s1/\∀ u ∈ s1,u.oneCell'=true)/\(s2.length=n2*2/\Src w a2 s2/\∀ u ∈ s2,u.oneCell'=true)):=⟨⟨l1,r1,o1⟩,⟨l2,r2,o2⟩⟩
 clear l1 l2 r1 r2 o1 o2 k1 k2
 go_enter Tryz.func218,Tryz.ntmps218
 go_wp2_with fail
 go_loopw [3,11] (fun q i wr=>∃ j:Nat,j<=2/\i=.int .i64 j/\q=.int .i64 ((if j=0 then 0 else if j=1 then n1 else n1+n2:Nat):Int)/\wr=w) (fun _ i _=>2 - (intOf i).toNat)
 case atStart=>exact ⟨0,Nat.zero_le _,rfl,rfl,rfl⟩
 case round=>
  obtain ⟨j,hj,rfl,rfl,hwr⟩:=hrel
  obtain rfl:=hwr.symm
  obtain ⟨k1,k2,-⟩:=KC.out
  by_cases hj0:j=0
  ·subst hj0
   simp only [if_true]
   go_wp2
   go_roundw
   case rel=>exact ⟨1,by omega,by go_num,by simp,by first | rfl | trivial⟩
   case measure=>simp [intOf]
  ·by_cases hj1:j=1
   ·subst hj1
    simp only [if_true,if_neg (show ¬ (1:Nat)=0 by decide)]
    have hs:¬ ((n1:Int)+(n2:Int)<0):=by omega
    go_wp2
    go_roundw
    case rel=>exact ⟨2,by omega,by go_num,by simp,by first | rfl | trivial⟩
    case measure=>simp [intOf]
   ·obtain rfl:j=2:=by omega
    simp only [if_neg (show ¬ (2:Nat)=0 by decide),if_neg (show ¬ (2:Nat)=1 by decide)]
    clear k1 k2
    go_wp2_with fail
    refine (growItem_own (n1+n2) w h0 (by omega)).mono ?_
    rintro e w1 ⟨cg,rfl,og,bg⟩
    have OG:Hid (w1.ownsRow w.heap.size 131 2 (.slice (some ⟨w.heap.size,0,none⟩) 0 cg) 0 []/\Below w.heap.size w w1):=⟨og,bg⟩
    clear og bg
    go_wp2_with fail
    go_loopw [6,27] (fun v i wx=>∃ j:Nat,j<=2/\i=.int .i64 j/\Hid (wx.ownsRow w.heap.size 131 2 v (if j=0 then 0 else if j=1 then n1 else n1+n2) (if j=0 then [] else if j=1 then s1 else s1 ++ s2)/\v≠.slice none 0 0/\Below w.heap.size w wx)) (fun _ i _=>2 - (intOf i).toNat)
    case atStart=>exact ⟨0,Nat.zero_le _,rfl,OG.out.1,by simp,OG.out.2⟩
    case round=>
     clear OG
     obtain ⟨j,hj,rfl,HZ⟩:=hrel
     obtain ⟨k1,k2,kb⟩:=KC.out
     have HB:Hid (Below w.heap.size w wr):=HZ.out.2.2
     have hne:Hid (u6≠.slice none 0 0):=HZ.out.2.1
     by_cases hj0:j=0
     ·subst hj0
      have m1:=(HB.out.cell (p:=⟨b,0,none⟩) kb).trans k1
      have OV:Hid (wr.ownsRow w.heap.size 131 2 u6 0 []):=HZ.out.1
      clear k1 k2 kb HZ
      go_wp2_with (at_builtin;refine step_append_src kndT wr rfl _ _ rfl w.heap.size u6 0 [] rfl OV.out a1 n1 c1 s1 rfl RC.out.1.1 (RC.out.1.2.1.below HB.out) RC.out.1.2.2 (by omega) HB.out.size ?_;intro v5 w5 o5 g5 q5 n5;have F5:Hid (w5.ownsRow w.heap.size 131 2 v5 n1 s1/\v5≠.slice none 0 0/\Below w.heap.size w w5):=⟨by rw [Nat.zero_add,List.nil_append] at o5;exact o5,n5 (.inl hne.out),Below.grown HB.out g5 HB.out.size (fun j hj=>(OV.out.lt j hj).1)⟩;clear o5 g5 q5 n5)
      go_roundw
      case rel=>exact ⟨1,by omega,by go_num,F5.out⟩
      case measure=>simp [intOf]
     ·by_cases hj1:j=1
      ·subst hj1
       have m2:=(HB.out.cell (p:=⟨b,1,none⟩) kb).trans k2
       have OV:Hid (wr.ownsRow w.heap.size 131 2 u6 n1 s1):=HZ.out.1
       clear k1 k2 kb HZ
       go_wp2_with (at_builtin;refine step_append_src kndT wr rfl _ _ rfl w.heap.size u6 n1 s1 rfl OV.out a2 n2 c2 s2 rfl RC.out.2.1 (RC.out.2.2.1.below HB.out) RC.out.2.2.2 (by omega) HB.out.size ?_;intro v5 w5 o5 g5 q5 n5;have F5:Hid (w5.ownsRow w.heap.size 131 2 v5 (n1+n2) (s1 ++ s2)/\v5≠.slice none 0 0/\Below w.heap.size w w5):=⟨o5,n5 (.inl hne.out),Below.grown HB.out g5 HB.out.size (fun j hj=>(OV.out.lt j hj).1)⟩;clear o5 g5 q5 n5)
       go_roundw
       case rel=>exact ⟨2,by omega,by go_num,F5.out⟩
       case measure=>simp [intOf]
      ·obtain rfl:j=2:=by omega
       have F5:Hid (wr.ownsRow w.heap.size 131 2 u6 (n1+n2) (s1 ++ s2)/\u6≠.slice none 0 0/\Below w.heap.size w wr):=HZ.out
       clear HZ k1 k2
       go_wp2
       go_ret
       exact ⟨_,rfl,F5.out⟩
theorem withItem_own (a:Option Addr) (n c:Nat) (lim:Int) (H:Nat->I2) (x:I2) (w:World) (hn:n<=1000) (hI:Src w a (fT H n)):
  Calls Tryz.prog 188 #[.agg #[.slice a n c,.int .i64 lim],.agg #[.bool x.m,.int .i64 x.v]] w fun e w'=>∃ v,e=.returned v/\w'.ownsRow w.heap.size 131 2 v (n+1) (fT (fun i=>if i=n then x else H i) (n+1))/\v≠.slice none 0 0/\Below w.heap.size w w':=by
 have HI:Hid (Src w a (fT H n)):=hI
 have HF:Hid (fT (fun i=>if i=n then x else H i) (n+1)=fT H n ++ cT x):=by
  show flat (fun i=>cT (if i=n then x else H i)) n ++ cT (if n=n then x else H n)=flat (fun i=>cT (H i)) n ++ cT x
  rw [if_pos rfl]
  congr 1
  exact flat_congr fun i hi=>by rw [if_neg (by omega)]
 clear hI
 go_enter Tryz.func188,Tryz.ntmps188
 go_wp2_with fail
 have B3:Hid (Below w.heap.size w ((((w.alloc (.cells #[.slice a n c,.int .i64 lim] 215)).alloc (.cells #[.bool x.m,.int .i64 x.v] 131)).alloc (.cells #[.bool x.m,.int .i64 x.v] 131)).alloc (.cells #[.slice a n c,.slice (some ⟨w.heap.size+2,0,none⟩) 1 1] 88))):=by
  show Below w.heap.size w ((((w.alloc (.cells #[.slice a n c,.int .i64 lim] 215)).alloc (.cells #[.bool x.m,.int .i64 x.v] 131)).alloc (.cells #[.bool x.m,.int .i64 x.v] 131)).alloc (.cells #[.slice a n c,.slice (some ⟨w.heap.size+2,0,none⟩) 1 1] 88))
  go_grown
 have k1:((((w.alloc (.cells #[.slice a n c,.int .i64 lim] 215)).alloc (.cells #[.bool x.m,.int .i64 x.v] 131)).alloc (.cells #[.bool x.m,.int .i64 x.v] 131)).alloc (.cells #[.slice a n c,.slice (some ⟨w.heap.size+2,0,none⟩) 1 1] 88)).cell? ⟨w.heap.size+3,0,none⟩=some (.slice a n c):=zZ _ _ _ 0 (by simp)
 have k2:((((w.alloc (.cells #[.slice a n c,.int .i64 lim] 215)).alloc (.cells #[.bool x.m,.int .i64 x.v] 131)).alloc (.cells #[.bool x.m,.int .i64 x.v] 131)).alloc (.cells #[.slice a n c,.slice (some ⟨w.heap.size+2,0,none⟩) 1 1] 88)).cell? ⟨w.heap.size+3,1,none⟩=some (.slice (some ⟨w.heap.size+2,0,none⟩) 1 1):=zZ _ _ _ 1 (by simp)
 have r2 : Src ((((w.alloc (.cells #[.slice a n c, .int .i64 lim] 215)).alloc (.cells #[.bool x.m, .int .i64 x.v] 131)).alloc (.cells #[.bool x.m, .int .i64 x.v] 131)).alloc (.cells #[.slice a n c, .slice (some ⟨w.heap.size + 2, 0, none⟩) 1 1] 88)) (some ⟨w.heap.size + 2, 0, none⟩) (cT x) :=   .inr ⟨w.heap.size + 2, 0, rfl, (by simp), fun j u hj => by
  have ba:=zT (((w.alloc (.cells #[.slice a n c,.int .i64 lim] 215)).alloc (.cells #[.bool x.m,.int .i64 x.v] 131)).alloc (.cells #[.bool x.m,.int .i64 x.v] 131)) (.cells #[.slice a n c,.slice (some ⟨w.heap.size+2,0,none⟩) 1 1] 88)
  rw [Nat.zero_add,(bcell ba).1 _ _ (by simp),zZ _ _ _ j (by simp)]
  simpa [cT] using hj⟩
 refine (concatItem_own (w.heap.size+3) n c 1 1 a (some ⟨w.heap.size+2,0,none⟩) (fT H n) (cT x) ((((w.alloc (.cells #[.slice a n c,.int .i64 lim] 215)).alloc (.cells #[.bool x.m,.int .i64 x.v] 131)).alloc (.cells #[.bool x.m,.int .i64 x.v] 131)).alloc (.cells #[.slice a n c,.slice (some ⟨w.heap.size+2,0,none⟩) 1 1] 88)) (by omega) (by omega) (by omega) k1 k2 (fT_len _ _) rfl (HI.out.below B3.out) r2 (fT_one _ _) (by intro u hu;simp [cT] at hu;rcases hu with rfl | rfl <;> rfl)).mono ?_
 rintro e w5 ⟨v5,rfl,o5,n5,b5⟩
 have F5:Hid (w5.ownsRow w.heap.size 131 2 v5 (n+1) (fT H n ++ cT x)/\v5≠.slice none 0 0/\Below w.heap.size w w5):=⟨o5.mono (by simp;omega),n5,B3.out.trans (b5.mono B3.out.size)⟩
 clear o5 n5 b5 k1 k2 r2 B3
 go_wp2
 go_ret
 rw [HF.out]
 exact ⟨_,rfl,F5.out⟩
theorem growEvent_own (n:Nat) (w:World) (h0:0<n) (hn:n<=2000000):
  Calls Tryz.prog 241 #[.slice none 0 0,.int .i64 (n:Int)] w fun e w'=>∃ c,e=.returned (.slice (some ⟨w.heap.size,0,none⟩) 0 c)/\w'.ownsRow w.heap.size 85 3 (.slice (some ⟨w.heap.size,0,none⟩) 0 c) 0 []/\Below w.heap.size w w':=by
 obtain ⟨i,z,hi,hz,hs,hb,hzs⟩:=kndE.inf
 have hby:n*i.bytes<=140737488355328:=by
  rw [hb]
  omega
 have hrz:∀ ty,(Builtin.append_ #[75,3] ty #[.slice none 0 0,.int .i64 (n:Int)]).run Tryz.prog w=.ok (.slice (some ⟨w.heap.size,0,none⟩) n (grownCap w n 0 85)) (w.drew.alloc (.cells (Builtin.zeroCells z.cells n ++ Builtin.zeroCells z.cells (grownCap w n 0 85 - n)) 85)):=fun ty=>by
  have h:=Lib.run_append_grow_zeros w 75 3 ty 85 i z .i64 .i64 kndE.und Tryz.underlying3 hi hz none 0 0 [] (run_firstCells_none w.drew i.size 0 0 0) n h0 (by omega) (by omega) (by omega) (by omega) (by rw [Nat.zero_add];exact growslice_fits (by omega) hby)
  simpa using h
 have hG:n<=grownCap w n 0 85:=grownCap_ge w _ _ _
 have hGm:grownCap w n 0 85<=maxLen:=grownCap_le_maxLen w _ _ _ (by unfold maxLen;omega)
 have OW:Hid ((w.drew.alloc (.cells (Builtin.zeroCells z.cells n ++ Builtin.zeroCells z.cells (grownCap w n 0 85 - n)) 85)).ownsRow w.heap.size 85 3 (.slice (some ⟨w.heap.size,0,none⟩) 0 (grownCap w n 0 85)) 0 []):=World.ownsRow_made (base:=w.heap.size) (e:=85) (size:=3) w.drew _ _ (Nat.le_refl _) hGm (by rw [Array.size_append,size_zeroCells,size_zeroCells,hzs];omega)
 have BW:Hid (Below w.heap.size w (w.drew.alloc (.cells (Builtin.zeroCells z.cells n ++ Builtin.zeroCells z.cells (grownCap w n 0 85 - n)) 85))):=(Below.refl w.heap.size w).drew.trans (zT w.drew _)
 generalize grownCap w n 0 85=G at *
 generalize Builtin.zeroCells z.cells n ++ Builtin.zeroCells z.cells (G - n)=cs at *
 have hG':(n:Int)<=(G:Int):=by omega
 have hG0:(0:Int)<=(G:Int):=by omega
 have hn0:¬ ((n:Int)<0):=by omega
 have hn1:(0:Int)<(n:Int):=by omega
 clear hi hz hs hb hzs hby hGm hG
 go_enter Tryz.func241,Tryz.ntmps241
 go_wp2_with (at_builtin;refine Lib.wpList_append_run _ rfl _ _ _ _ rfl _ _ rfl rfl _ _ (hrz _) ?_)
 all_goals
  go_ret
  exact ⟨_,rfl,OW.out,BW.out⟩
theorem concatEvent_own (b n1 c1 n2 c2:Nat) (a1 a2:Option Addr) (s1 s2:List Value) (w:World) (h1:n1<=1000000) (h2:n2<=1000000) (h0:0<n1+n2) (k1:w.cell? ⟨b,0,none⟩=some (.slice a1 n1 c1)) (k2:w.cell? ⟨b,1,none⟩=some (.slice a2 n2 c2)) (l1:s1.length=n1*3) (l2:s2.length=n2*3) (r1:Src w a1 s1) (r2:Src w a2 s2) (o1:∀ u ∈ s1,u.oneCell'=true) (o2:∀ u ∈ s2,u.oneCell'=true):
  Calls Tryz.prog 217 #[.slice (some ⟨b,0,none⟩) 2 2] w fun e w'=>∃ v,e=.returned v/\w'.ownsRow w.heap.size 85 3 v (n1+n2) (s1 ++ s2)/\v≠.slice none 0 0/\Below w.heap.size w w':=by
 have H1:(n1:Int)<=1000000:=by omega
 have H2:(n2:Int)<=1000000:=by omega
 have KC:Hid (w.cell? ⟨b,0,none⟩=some (.slice a1 n1 c1)/\w.cell? ⟨b,1,none⟩=some (.slice a2 n2 c2)/\b<w.heap.size):=⟨k1,k2,zK w _ k1⟩
 have RC:Hid ((s1.length=n1*3/\Src w a1 s1/\∀ u ∈ s1,u.oneCell'=true)/\(s2.length=n2*3/\Src w a2 s2/\∀ u ∈ s2,u.oneCell'=true)):=⟨⟨l1,r1,o1⟩,⟨l2,r2,o2⟩⟩
 clear l1 l2 r1 r2 o1 o2 k1 k2
 go_enter Tryz.func217,Tryz.ntmps217
 go_wp2_with fail
 go_loopw [3,11] (fun q i wr=>∃ j:Nat,j<=2/\i=.int .i64 j/\q=.int .i64 ((if j=0 then 0 else if j=1 then n1 else n1+n2:Nat):Int)/\wr=w) (fun _ i _=>2 - (intOf i).toNat)
 case atStart=>exact ⟨0,Nat.zero_le _,rfl,rfl,rfl⟩
 case round=>
  obtain ⟨j,hj,rfl,rfl,hwr⟩:=hrel
  obtain rfl:=hwr.symm
  obtain ⟨k1,k2,-⟩:=KC.out
  by_cases hj0:j=0
  ·subst hj0
   simp only [if_true]
   go_wp2
   go_roundw
   case rel=>exact ⟨1,by omega,by go_num,by simp,by first | rfl | trivial⟩
   case measure=>simp [intOf]
  ·by_cases hj1:j=1
   ·subst hj1
    simp only [if_true,if_neg (show ¬ (1:Nat)=0 by decide)]
    have hs:¬ ((n1:Int)+(n2:Int)<0):=by omega
    go_wp2
    go_roundw
    case rel=>exact ⟨2,by omega,by go_num,by simp,by first | rfl | trivial⟩
    case measure=>simp [intOf]
   ·obtain rfl:j=2:=by omega
    simp only [if_neg (show ¬ (2:Nat)=0 by decide),if_neg (show ¬ (2:Nat)=1 by decide)]
    clear k1 k2
    go_wp2_with fail
    refine (growEvent_own (n1+n2) w h0 (by omega)).mono ?_
    rintro e w1 ⟨cg,rfl,og,bg⟩
    have OG:Hid (w1.ownsRow w.heap.size 85 3 (.slice (some ⟨w.heap.size,0,none⟩) 0 cg) 0 []/\Below w.heap.size w w1):=⟨og,bg⟩
    clear og bg
    go_wp2_with fail
    go_loopw [6,27] (fun v i wx=>∃ j:Nat,j<=2/\i=.int .i64 j/\Hid (wx.ownsRow w.heap.size 85 3 v (if j=0 then 0 else if j=1 then n1 else n1+n2) (if j=0 then [] else if j=1 then s1 else s1 ++ s2)/\v≠.slice none 0 0/\Below w.heap.size w wx)) (fun _ i _=>2 - (intOf i).toNat)
    case atStart=>exact ⟨0,Nat.zero_le _,rfl,OG.out.1,by simp,OG.out.2⟩
    case round=>
     clear OG
     obtain ⟨j,hj,rfl,HZ⟩:=hrel
     obtain ⟨k1,k2,kb⟩:=KC.out
     have HB:Hid (Below w.heap.size w wr):=HZ.out.2.2
     have hne:Hid (u6≠.slice none 0 0):=HZ.out.2.1
     by_cases hj0:j=0
     ·subst hj0
      have m1:=(HB.out.cell (p:=⟨b,0,none⟩) kb).trans k1
      have OV:Hid (wr.ownsRow w.heap.size 85 3 u6 0 []):=HZ.out.1
      clear k1 k2 kb HZ
      go_wp2_with (at_builtin;refine step_append_src kndE wr rfl _ _ rfl w.heap.size u6 0 [] rfl OV.out a1 n1 c1 s1 rfl RC.out.1.1 (RC.out.1.2.1.below HB.out) RC.out.1.2.2 (by omega) HB.out.size ?_;intro v5 w5 o5 g5 q5 n5;have F5:Hid (w5.ownsRow w.heap.size 85 3 v5 n1 s1/\v5≠.slice none 0 0/\Below w.heap.size w w5):=⟨by rw [Nat.zero_add,List.nil_append] at o5;exact o5,n5 (.inl hne.out),Below.grown HB.out g5 HB.out.size (fun j hj=>(OV.out.lt j hj).1)⟩;clear o5 g5 q5 n5)
      go_roundw
      case rel=>exact ⟨1,by omega,by go_num,F5.out⟩
      case measure=>simp [intOf]
     ·by_cases hj1:j=1
      ·subst hj1
       have m2:=(HB.out.cell (p:=⟨b,1,none⟩) kb).trans k2
       have OV:Hid (wr.ownsRow w.heap.size 85 3 u6 n1 s1):=HZ.out.1
       clear k1 k2 kb HZ
       go_wp2_with (at_builtin;refine step_append_src kndE wr rfl _ _ rfl w.heap.size u6 n1 s1 rfl OV.out a2 n2 c2 s2 rfl RC.out.2.1 (RC.out.2.2.1.below HB.out) RC.out.2.2.2 (by omega) HB.out.size ?_;intro v5 w5 o5 g5 q5 n5;have F5:Hid (w5.ownsRow w.heap.size 85 3 v5 (n1+n2) (s1 ++ s2)/\v5≠.slice none 0 0/\Below w.heap.size w w5):=⟨o5,n5 (.inl hne.out),Below.grown HB.out g5 HB.out.size (fun j hj=>(OV.out.lt j hj).1)⟩;clear o5 g5 q5 n5)
       go_roundw
       case rel=>exact ⟨2,by omega,by go_num,F5.out⟩
       case measure=>simp [intOf]
      ·obtain rfl:j=2:=by omega
       have F5:Hid (wr.ownsRow w.heap.size 85 3 u6 (n1+n2) (s1 ++ s2)/\u6≠.slice none 0 0/\Below w.heap.size w wr):=HZ.out
       clear HZ k1 k2
       go_wp2
       go_ret
       exact ⟨_,rfl,F5.out⟩
theorem withEvent_own (a:Option Addr) (n c:Nat) (lim:Int) (H:Nat->E3) (x:E3) (w:World) (hn:n<=1000) (hI:Src w a (fE H n)):
  Calls Tryz.prog 186 #[.agg #[.slice a n c,.int .i64 lim],.agg #[.int .i64 x.k,.int .i64 x.q,.int .i64 x.v]] w fun e w'=>∃ v,e=.returned v/\w'.ownsRow w.heap.size 85 3 v (n+1) (fE (fun i=>if i=n then x else H i) (n+1))/\v≠.slice none 0 0/\Below w.heap.size w w':=by
 have HI:Hid (Src w a (fE H n)):=hI
 have HF:Hid (fE (fun i=>if i=n then x else H i) (n+1)=fE H n ++ cE x):=by
  show flat (fun i=>cE (if i=n then x else H i)) n ++ cE (if n=n then x else H n)=flat (fun i=>cE (H i)) n ++ cE x
  rw [if_pos rfl]
  congr 1
  exact flat_congr fun i hi=>by rw [if_neg (by omega)]
 clear hI
 go_enter Tryz.func186,Tryz.ntmps186
 go_wp2_with fail
 have B3:Hid (Below w.heap.size w ((((w.alloc (.cells #[.slice a n c,.int .i64 lim] 211)).alloc (oQ0 x.k x.q x.v)).alloc (oQ0 x.k x.q x.v)).alloc (.cells #[.slice a n c,.slice (some ⟨w.heap.size+2,0,none⟩) 1 1] 75))):=by
  show Below w.heap.size w ((((w.alloc (.cells #[.slice a n c,.int .i64 lim] 211)).alloc (oQ0 x.k x.q x.v)).alloc (oQ0 x.k x.q x.v)).alloc (.cells #[.slice a n c,.slice (some ⟨w.heap.size+2,0,none⟩) 1 1] 75))
  go_grown
 have k1:((((w.alloc (.cells #[.slice a n c,.int .i64 lim] 211)).alloc (oQ0 x.k x.q x.v)).alloc (oQ0 x.k x.q x.v)).alloc (.cells #[.slice a n c,.slice (some ⟨w.heap.size+2,0,none⟩) 1 1] 75)).cell? ⟨w.heap.size+3,0,none⟩=some (.slice a n c):=zZ _ _ _ 0 (by simp)
 have k2:((((w.alloc (.cells #[.slice a n c,.int .i64 lim] 211)).alloc (oQ0 x.k x.q x.v)).alloc (oQ0 x.k x.q x.v)).alloc (.cells #[.slice a n c,.slice (some ⟨w.heap.size+2,0,none⟩) 1 1] 75)).cell? ⟨w.heap.size+3,1,none⟩=some (.slice (some ⟨w.heap.size+2,0,none⟩) 1 1):=zZ _ _ _ 1 (by simp)
 have r2 : Src ((((w.alloc (.cells #[.slice a n c, .int .i64 lim] 211)).alloc (oQ0 x.k x.q x.v)).alloc (oQ0 x.k x.q x.v)).alloc (.cells #[.slice a n c, .slice (some ⟨w.heap.size + 2, 0, none⟩) 1 1] 75)) (some ⟨w.heap.size + 2, 0, none⟩) (cE x) :=   .inr ⟨w.heap.size + 2, 0, rfl, (by simp), fun j u hj => by
  have ba:=zT (((w.alloc (.cells #[.slice a n c,.int .i64 lim] 211)).alloc (oQ0 x.k x.q x.v)).alloc (oQ0 x.k x.q x.v)) (.cells #[.slice a n c,.slice (some ⟨w.heap.size+2,0,none⟩) 1 1] 75)
  rw [Nat.zero_add,(bcell ba).1 _ _ (by simp),zZ _ _ _ j (by simp)]
  simpa [cE] using hj⟩
 refine (concatEvent_own (w.heap.size+3) n c 1 1 a (some ⟨w.heap.size+2,0,none⟩) (fE H n) (cE x) ((((w.alloc (.cells #[.slice a n c,.int .i64 lim] 211)).alloc (oQ0 x.k x.q x.v)).alloc (oQ0 x.k x.q x.v)).alloc (.cells #[.slice a n c,.slice (some ⟨w.heap.size+2,0,none⟩) 1 1] 75)) (by omega) (by omega) (by omega) k1 k2 (fE_len _ _) rfl (HI.out.below B3.out) r2 (fE_one _ _) (by intro u hu;simp [cE] at hu;rcases hu with rfl | rfl | rfl <;> rfl)).mono ?_
 rintro e w5 ⟨v5,rfl,o5,n5,b5⟩
 have F5:Hid (w5.ownsRow w.heap.size 85 3 v5 (n+1) (fE H n ++ cE x)/\v5≠.slice none 0 0/\Below w.heap.size w w5):=⟨o5.mono (by simp;omega),n5,B3.out.trans (b5.mono B3.out.size)⟩
 clear o5 n5 b5 k1 k2 r2 B3
 go_wp2
 go_ret
 rw [HF.out]
 exact ⟨_,rfl,F5.out⟩
variable {z:Bool}
theorem run_make_kind {t e:TypeId} {bytes:Nat} (K:Kind t e 1 bytes) (n:Nat) (hn:n<=1048576):∃ cs:Array Value,cs.size=n/\∀ w:World,(Instr.makeSlice t (.int .i64 0) (.int .i64 (n:Int))).run Tryz.prog w=.ok (.slice (some ⟨w.heap.size,0,none⟩) 0 n) (w.alloc (.cells cs e)):=by
 obtain ⟨i,z,hi,hz,hs,hb,hzs⟩:=K.inf
 refine ⟨madeCells z.cells n,size_madeCells _ _,fun w=>?_⟩
 have hby:i.bytes*n<=281474976710656:=by
  rw [hb]
  exact zS (Nat.mul_le_mul K.sml hn) (by omega)
 have hby':(i.bytes:Int)*(n:Int)<=281474976710656:=by rw [<- Int.natCast_mul];exact Int.ofNat_le.2 hby
 have h:=run_make (P:=Tryz.prog) w t e i z K.und hi hz .i64 .i64 0 (n:Int) (by omega) (by omega) hby' (by omega)
 rw [hs,Nat.mul_one,Int.toNat_natCast] at h
 exact h
theorem LL.made (e:TypeId) (sz:Nat) (E:TypeId) (w:World) (cs:Array Value) (n:Nat) (hn:n<=1048576) (hc:cs.size=n) (P:Nat->Prop) (hP:P w.heap.size) (u:Nat->Value) (L:Nat->Nat) (c:Nat->List Value):LL z e sz E (w.alloc (.cells cs E)) P (.slice (some ⟨w.heap.size,0,none⟩) 0 n) 0 u L c:=
 ⟨World.ownsRow_made (base:=0) (e:=E) (size:=1) w cs n (Nat.zero_le _) (by unfold maxLen;omega) (by rw [hc,Nat.mul_one]),fun i hi=>(by omega),fun k hk=>(by cases hk;exact hP),fun i hi=>(by omega),fun i hi=>(by omega),fun i j hi=>(by omega),fun i hi=>(by omega)⟩
theorem cloneIns_own (b off n cap:Nat) (H:Nat->I5) (w:World) (hn:n<=1048576) (hI:Src w (some ⟨b,off,none⟩) (fI H n)):
  Calls Tryz.prog 177 #[.slice (some ⟨b,off,none⟩) n cap] w fun e w'=>∃ a c,e=.returned (.slice a n c)/\w'.ownsRow w.heap.size 142 5 (.slice a n c) n (fI H n)/\Value.slice a n c≠.slice none 0 0/\Below w.heap.size w w':=by
 have HI:Hid (Src w (some ⟨b,off,none⟩) (fI H n)):=hI
 have he:∀ wx:World,(binOp .eql 78 (.slice (some ⟨b,off,none⟩) n cap) (.slice none 0 0)).run Tryz.prog wx=.ok (.bool false) wx:=fun wx=>by kernel_rfl
 clear hI
 go_enter Tryz.func177,Tryz.ntmps177
 go_wp2_with (at_builtin;refine step_append_srcN kndI w rfl rfl _ _ rfl (some ⟨b,off,none⟩) n cap (fI H n) rfl rfl (fI_len _ _) HI.out (fI_one _ _) (by omega) ?_;intro v4 w4 o4 b4 n4;obtain ⟨a4,c4,rfl⟩:=zW o4;have F4:Hid (w4.ownsRow w.heap.size 142 5 (.slice a4 n c4) n (fI H n)/\Value.slice a4 n c4≠.slice none 0 0/\Below w.heap.size w w4):=⟨o4,n4,b4⟩;clear o4 b4 n4)
 go_ret
 exact ⟨_,_,rfl,F4.out⟩
theorem copyListsIns_own (a0:Option Addr) (n cap:Nat) (A:Nat->Option Addr) (L C:Nat->Nat) (H:Nat->Nat->I5) (w:World) (hn:n<=1048576) (hL:∀ i,i<n->L i<=1048576) (hr:RowS w a0 n fun i=>.slice (A i) (L i) (C i)) (hI:∀ i,i<n->∃ b off,A i=some ⟨b,off,none⟩/\Src w (A i) (fI (H i) (L i))):
  Calls Tryz.prog 127 #[.slice a0 n cap] w fun e w'=>∃ v u,e=.returned v/\LI z w' (fun k=>w.heap.size<=k/\k<w'.heap.size) v n u L H/\Below w.heap.size w w':=by
 have hn':(n:Int)<=1048576:=by omega
 obtain ⟨cs,hcs,hmk⟩:=run_make_kind kndII n hn
 have HCS:Hid (cs.size=n):=hcs
 have HR:Hid (RowS w a0 n fun i=>.slice (A i) (L i) (C i)):=hr
 have HI:Hid (∀ i,i<n->∃ b off,A i=some ⟨b,off,none⟩/\Src w (A i) (fI (H i) (L i))):=hI
 have HL:Hid (∀ i,i<n->L i<=1048576):=hL
 clear hr hI hL hcs
 go_enter Tryz.func127,Tryz.ntmps127
 go_wp2_with fail
 clear hmk
 go_loopw [3,11] (fun v i wr=>∃ k:Nat,k<=n/\i=.int .i64 k/\Hid ((∃ u,LI z wr (fun b=>w.heap.size<=b/\b<wr.heap.size) v k u L H)/\Below w.heap.size w wr)) (fun _ i _=>n - (intOf i).toNat)
 case atStart=>exact ⟨0,Nat.zero_le _,rfl,⟨fun _=>.slice none 0 0,LL.made _ _ _ w _ n hn HCS.out _ (by simp) _ _ _⟩,zT _ _⟩
 case round=>
  obtain ⟨k,hk,rfl,HZ⟩:=hrel
  by_cases hlt:k<n
  ·have hlt':(k:Int)<(n:Int):=by omega
   obtain ⟨b,off,rfl,ck⟩:=(HR.out.below HZ.out.2).at hlt
   have hbl:b<wr.heap.size:=zK wr _ ck
   obtain ⟨b2,o2,ea,hsr⟩:=HI.out k hlt
   rw [ea] at hsr ck
   have HS:Hid (Src wr (some ⟨b2,o2,none⟩) (fI (H k) (L k))):=hsr.below HZ.out.2
   have HLk:Hid (L k<=1048576):=HL.out k hlt
   have hk2:Hid (k<=2000000):=by show k<=2000000;omega
   obtain ⟨⟨u,oz⟩,bz⟩:=HZ.out
   have OZ:Hid (LI z wr (fun b=>w.heap.size<=b/\b<wr.heap.size) u3 k u L H):=oz
   have BZ:Hid (Below w.heap.size w wr):=bz
   clear oz bz HZ hsr ea
   go_wp2_with fail
   refine (cloneIns_own b2 o2 (L k) (C k) (H k) wr HLk.out HS.out).mono ?_
   rintro e w4 ⟨a4,c4,rfl,o4,n4,b4⟩
   have F4:Hid (w4.ownsRow wr.heap.size 142 5 (.slice a4 (L k) c4) (L k) (fI (H k) (L k))/\Below wr.heap.size wr w4/\Value.slice a4 (L k) c4≠.slice none 0 0):=⟨o4,b4,n4⟩
   clear o4 b4 n4 ck hbl
   go_wp2_with (at_builtin;refine step_append_val kndII w4 rfl rfl _ _ rfl 0 u3 k _ rfl (OZ.out.below F4.out.2.1).row #[.slice a4 (L k) c4] rfl rfl (by intro u hu;simp at hu;subst hu;rfl) hk2.out (Nat.zero_le _) ?_;intro v5 w5 o5 g5 q5 n5;have F5:Hid (LI z w5 (fun b=>w.heap.size<=b/\b<w5.heap.size) v5 (k+1) (fun j=>if j=k then .slice a4 (L k) c4 else u j) L H/\Below w.heap.size w w5):=⟨OZ.out.push F4.out.2.1 F4.out.1 (fun _=>F4.out.2.2) o5 g5 q5 (fun j hj _=>⟨hj.1,zP hj.2 (zS F4.out.2.1.size g5.size)⟩) (fun j hj hj'=>⟨zS BZ.out.size hj,hj'⟩),Below.grown (BZ.out.trans (F4.out.2.1.mono BZ.out.size)) g5 (zS BZ.out.size F4.out.2.1.size) (fun j hj=>(OZ.out.rb j hj).1)⟩;clear o5 g5 q5 n5)
   go_roundw
   case rel=>exact ⟨k+1,by omega,by go_num,⟨_,F5.out.1⟩,F5.out.2⟩
   case measure=>simp [intOf];omega
  ·have hkn:k=n:=by omega
   subst hkn
   go_wp2
   go_ret
   obtain ⟨⟨u,oz⟩,bz⟩:=HZ.out
   exact ⟨_,u,rfl,oz,bz⟩
theorem cloneItem_own (b off n cap:Nat) (H:Nat->I2) (w:World) (hn:n<=1048576) (hI:Src w (some ⟨b,off,none⟩) (fT H n)):
  Calls Tryz.prog 178 #[.slice (some ⟨b,off,none⟩) n cap] w fun e w'=>∃ a c,e=.returned (.slice a n c)/\w'.ownsRow w.heap.size 131 2 (.slice a n c) n (fT H n)/\Value.slice a n c≠.slice none 0 0/\Below w.heap.size w w':=by
 have HI:Hid (Src w (some ⟨b,off,none⟩) (fT H n)):=hI
 have he:∀ wx:World,(binOp .eql 88 (.slice (some ⟨b,off,none⟩) n cap) (.slice none 0 0)).run Tryz.prog wx=.ok (.bool false) wx:=fun wx=>by kernel_rfl
 clear hI
 go_enter Tryz.func178,Tryz.ntmps178
 go_wp2_with (at_builtin;refine step_append_srcN kndT w rfl rfl _ _ rfl (some ⟨b,off,none⟩) n cap (fT H n) rfl rfl (fT_len _ _) HI.out (fT_one _ _) (by omega) ?_;intro v4 w4 o4 b4 n4;obtain ⟨a4,c4,rfl⟩:=zW o4;have F4:Hid (w4.ownsRow w.heap.size 131 2 (.slice a4 n c4) n (fT H n)/\Value.slice a4 n c4≠.slice none 0 0/\Below w.heap.size w w4):=⟨o4,n4,b4⟩;clear o4 b4 n4)
 go_ret
 exact ⟨_,_,rfl,F4.out⟩
theorem cloneItem_none (w:World):
  Calls Tryz.prog 178 #[.slice none 0 0] w fun e w'=>e=.returned (.slice none 0 0)/\Below w.heap.size w w':=by
 have he:∀ wx:World,(binOp .eql 88 (.slice none 0 0) (.slice none 0 0)).run Tryz.prog wx=.ok (.bool true) wx:=fun wx=>by kernel_rfl
 go_enter Tryz.func178,Tryz.ntmps178
 go_wp2
 go_ret
 exact ⟨rfl,Below.refl _ _⟩
theorem copyListsItem_own (a0:Option Addr) (n cap:Nat) (A:Nat->Option Addr) (L C:Nat->Nat) (H:Nat->Nat->I2) (w:World) (hn:n<=1048576) (hL:∀ i,i<n->L i<=1048576) (hr:RowS w a0 n fun i=>.slice (A i) (L i) (C i)) (hI:∀ i,i<n->(∃ b off,A i=some ⟨b,off,none⟩/\Src w (A i) (fT (H i) (L i)))\/(z=false/\A i=none/\L i=0/\C i=0)):
  Calls Tryz.prog 128 #[.slice a0 n cap] w fun e w'=>∃ v u,e=.returned v/\LT z w' (fun k=>w.heap.size<=k/\k<w'.heap.size) v n u L H/\Below w.heap.size w w':=by
 have hn':(n:Int)<=1048576:=by omega
 obtain ⟨cs,hcs,hmk⟩:=run_make_kind kndTT n hn
 have HCS:Hid (cs.size=n):=hcs
 have HR:Hid (RowS w a0 n fun i=>.slice (A i) (L i) (C i)):=hr
 have HI:Hid (∀ i,i<n->(∃ b off,A i=some ⟨b,off,none⟩/\Src w (A i) (fT (H i) (L i)))\/(z=false/\A i=none/\L i=0/\C i=0)):=hI
 have HL:Hid (∀ i,i<n->L i<=1048576):=hL
 clear hr hI hL hcs
 go_enter Tryz.func128,Tryz.ntmps128
 go_wp2_with fail
 clear hmk
 go_loopw [3,11] (fun v i wr=>∃ k:Nat,k<=n/\i=.int .i64 k/\Hid ((∃ u,LT z wr (fun b=>w.heap.size<=b/\b<wr.heap.size) v k u L H)/\Below w.heap.size w wr)) (fun _ i _=>n - (intOf i).toNat)
 case atStart=>exact ⟨0,Nat.zero_le _,rfl,⟨fun _=>.slice none 0 0,LL.made _ _ _ w _ n hn HCS.out _ (by simp) _ _ _⟩,zT _ _⟩
 case round=>
  obtain ⟨k,hk,rfl,HZ⟩:=hrel
  by_cases hlt:k<n
  ·have hlt':(k:Int)<(n:Int):=by omega
   obtain ⟨b,off,rfl,ck⟩:=(HR.out.below HZ.out.2).at hlt
   have hbl:b<wr.heap.size:=zK wr _ ck
   rcases HI.out k hlt with ⟨b2,o2,ea,hsr⟩ | ⟨hz,ea,eL,eC⟩
   ·rw [ea] at hsr ck
    have HS:Hid (Src wr (some ⟨b2,o2,none⟩) (fT (H k) (L k))):=hsr.below HZ.out.2
    have HLk:Hid (L k<=1048576):=HL.out k hlt
    have hk2:Hid (k<=2000000):=by show k<=2000000;omega
    obtain ⟨⟨u,oz⟩,bz⟩:=HZ.out
    have OZ:Hid (LT z wr (fun b=>w.heap.size<=b/\b<wr.heap.size) u3 k u L H):=oz
    have BZ:Hid (Below w.heap.size w wr):=bz
    clear oz bz HZ hsr ea
    go_wp2_with fail
    refine (cloneItem_own b2 o2 (L k) (C k) (H k) wr HLk.out HS.out).mono ?_
    rintro e w4 ⟨a4,c4,rfl,o4,n4,b4⟩
    have F4:Hid (w4.ownsRow wr.heap.size 131 2 (.slice a4 (L k) c4) (L k) (fT (H k) (L k))/\Below wr.heap.size wr w4/\Value.slice a4 (L k) c4≠.slice none 0 0):=⟨o4,b4,n4⟩
    clear o4 b4 n4 ck hbl
    go_wp2_with (at_builtin;refine step_append_val kndTT w4 rfl rfl _ _ rfl 0 u3 k _ rfl (OZ.out.below F4.out.2.1).row #[.slice a4 (L k) c4] rfl rfl (by intro u hu;simp at hu;subst hu;rfl) hk2.out (Nat.zero_le _) ?_;intro v5 w5 o5 g5 q5 n5;have F5:Hid (LT z w5 (fun b=>w.heap.size<=b/\b<w5.heap.size) v5 (k+1) (fun j=>if j=k then .slice a4 (L k) c4 else u j) L H/\Below w.heap.size w w5):=⟨OZ.out.push F4.out.2.1 F4.out.1 (fun _=>F4.out.2.2) o5 g5 q5 (fun j hj _=>⟨hj.1,zP hj.2 (zS F4.out.2.1.size g5.size)⟩) (fun j hj hj'=>⟨zS BZ.out.size hj,hj'⟩),Below.grown (BZ.out.trans (F4.out.2.1.mono BZ.out.size)) g5 (zS BZ.out.size F4.out.2.1.size) (fun j hj=>(OZ.out.rb j hj).1)⟩;clear o5 g5 q5 n5)
    go_roundw
    case rel=>exact ⟨k+1,by omega,by go_num,⟨_,F5.out.1⟩,F5.out.2⟩
    case measure=>simp [intOf];omega
   ·rw [ea,eL,eC] at ck
    have HNz:Hid (¬ Nz z 131):=fun h=>by
     rcases h with h | h
     ·rw [hz] at h
      cases h
     ·exact absurd h (by decide)
    have hk2:Hid (k<=2000000):=by show k<=2000000;omega
    obtain ⟨⟨u,oz⟩,bz⟩:=HZ.out
    have OZ:Hid (LT z wr (fun b=>w.heap.size<=b/\b<wr.heap.size) u3 k u L H):=oz
    have BZ:Hid (Below w.heap.size w wr):=bz
    have HE:Hid (L k=0):=eL
    clear oz bz HZ ea eL eC hz
    go_wp2_with fail
    refine (cloneItem_none wr).mono ?_
    rintro e w4 ⟨rfl,b4⟩
    have F4:Hid (w4.ownsRow wr.heap.size 131 2 (.slice none 0 0) (L k) (fT (H k) (L k))/\Below wr.heap.size wr w4):=⟨by rw [HE.out];exact World.ownsRow_nil _ _ _ _,b4⟩
    clear b4 ck hbl
    go_wp2_with (at_builtin;refine step_append_val kndTT w4 rfl rfl _ _ rfl 0 u3 k _ rfl (OZ.out.below F4.out.2).row #[.slice none 0 0] rfl rfl (by intro u hu;simp at hu;subst hu;rfl) hk2.out (Nat.zero_le _) ?_;intro v5 w5 o5 g5 q5 n5;have F5:Hid (LT z w5 (fun b=>w.heap.size<=b/\b<w5.heap.size) v5 (k+1) (fun j=>if j=k then .slice none 0 0 else u j) L H/\Below w.heap.size w w5):=⟨OZ.out.push F4.out.2 F4.out.1 (fun h=>absurd h HNz.out) o5 g5 q5 (fun j hj _=>⟨hj.1,zP hj.2 (zS F4.out.2.size g5.size)⟩) (fun j hj hj'=>⟨zS BZ.out.size hj,hj'⟩),Below.grown (BZ.out.trans (F4.out.2.mono BZ.out.size)) g5 (zS BZ.out.size F4.out.2.size) (fun j hj=>(OZ.out.rb j hj).1)⟩;clear o5 g5 q5 n5)
    go_roundw
    case rel=>exact ⟨k+1,by omega,by go_num,⟨_,F5.out.1⟩,F5.out.2⟩
    case measure=>simp [intOf];omega
  ·have hkn:k=n:=by omega
   subst hkn
   go_wp2
   go_ret
   obtain ⟨⟨u,oz⟩,bz⟩:=HZ.out
   exact ⟨_,u,rfl,oz,bz⟩
theorem cloneEvent_own (b off n cap:Nat) (H:Nat->E3) (w:World) (hn:n<=1048576) (hI:Src w (some ⟨b,off,none⟩) (fE H n)):
  Calls Tryz.prog 179 #[.slice (some ⟨b,off,none⟩) n cap] w fun e w'=>∃ a c,e=.returned (.slice a n c)/\w'.ownsRow w.heap.size 85 3 (.slice a n c) n (fE H n)/\Value.slice a n c≠.slice none 0 0/\Below w.heap.size w w':=by
 have HI:Hid (Src w (some ⟨b,off,none⟩) (fE H n)):=hI
 have he:∀ wx:World,(binOp .eql 75 (.slice (some ⟨b,off,none⟩) n cap) (.slice none 0 0)).run Tryz.prog wx=.ok (.bool false) wx:=fun wx=>by kernel_rfl
 clear hI
 go_enter Tryz.func179,Tryz.ntmps179
 go_wp2_with (at_builtin;refine step_append_srcN kndE w rfl rfl _ _ rfl (some ⟨b,off,none⟩) n cap (fE H n) rfl rfl (fE_len _ _) HI.out (fE_one _ _) (by omega) ?_;intro v4 w4 o4 b4 n4;obtain ⟨a4,c4,rfl⟩:=zW o4;have F4:Hid (w4.ownsRow w.heap.size 85 3 (.slice a4 n c4) n (fE H n)/\Value.slice a4 n c4≠.slice none 0 0/\Below w.heap.size w w4):=⟨o4,n4,b4⟩;clear o4 b4 n4)
 go_ret
 exact ⟨_,_,rfl,F4.out⟩
theorem cloneEvent_none (w:World):
  Calls Tryz.prog 179 #[.slice none 0 0] w fun e w'=>e=.returned (.slice none 0 0)/\Below w.heap.size w w':=by
 have he:∀ wx:World,(binOp .eql 75 (.slice none 0 0) (.slice none 0 0)).run Tryz.prog wx=.ok (.bool true) wx:=fun wx=>by kernel_rfl
 go_enter Tryz.func179,Tryz.ntmps179
 go_wp2
 go_ret
 exact ⟨rfl,Below.refl _ _⟩
theorem copyListsEvent_own (a0:Option Addr) (n cap:Nat) (A:Nat->Option Addr) (L C:Nat->Nat) (H:Nat->Nat->E3) (w:World) (hn:n<=1048576) (hL:∀ i,i<n->L i<=1048576) (hr:RowS w a0 n fun i=>.slice (A i) (L i) (C i)) (hI:∀ i,i<n->(∃ b off,A i=some ⟨b,off,none⟩/\Src w (A i) (fE (H i) (L i)))\/(z=false/\A i=none/\L i=0/\C i=0)):
  Calls Tryz.prog 129 #[.slice a0 n cap] w fun e w'=>∃ v u,e=.returned v/\LE z w' (fun k=>w.heap.size<=k/\k<w'.heap.size) v n u L H/\Below w.heap.size w w':=by
 have hn':(n:Int)<=1048576:=by omega
 obtain ⟨cs,hcs,hmk⟩:=run_make_kind kndEE n hn
 have HCS:Hid (cs.size=n):=hcs
 have HR:Hid (RowS w a0 n fun i=>.slice (A i) (L i) (C i)):=hr
 have HI:Hid (∀ i,i<n->(∃ b off,A i=some ⟨b,off,none⟩/\Src w (A i) (fE (H i) (L i)))\/(z=false/\A i=none/\L i=0/\C i=0)):=hI
 have HL:Hid (∀ i,i<n->L i<=1048576):=hL
 clear hr hI hL hcs
 go_enter Tryz.func129,Tryz.ntmps129
 go_wp2_with fail
 clear hmk
 go_loopw [3,11] (fun v i wr=>∃ k:Nat,k<=n/\i=.int .i64 k/\Hid ((∃ u,LE z wr (fun b=>w.heap.size<=b/\b<wr.heap.size) v k u L H)/\Below w.heap.size w wr)) (fun _ i _=>n - (intOf i).toNat)
 case atStart=>exact ⟨0,Nat.zero_le _,rfl,⟨fun _=>.slice none 0 0,LL.made _ _ _ w _ n hn HCS.out _ (by simp) _ _ _⟩,zT _ _⟩
 case round=>
  obtain ⟨k,hk,rfl,HZ⟩:=hrel
  by_cases hlt:k<n
  ·have hlt':(k:Int)<(n:Int):=by omega
   obtain ⟨b,off,rfl,ck⟩:=(HR.out.below HZ.out.2).at hlt
   have hbl:b<wr.heap.size:=zK wr _ ck
   rcases HI.out k hlt with ⟨b2,o2,ea,hsr⟩ | ⟨hz,ea,eL,eC⟩
   ·rw [ea] at hsr ck
    have HS:Hid (Src wr (some ⟨b2,o2,none⟩) (fE (H k) (L k))):=hsr.below HZ.out.2
    have HLk:Hid (L k<=1048576):=HL.out k hlt
    have hk2:Hid (k<=2000000):=by show k<=2000000;omega
    obtain ⟨⟨u,oz⟩,bz⟩:=HZ.out
    have OZ:Hid (LE z wr (fun b=>w.heap.size<=b/\b<wr.heap.size) u3 k u L H):=oz
    have BZ:Hid (Below w.heap.size w wr):=bz
    clear oz bz HZ hsr ea
    go_wp2_with fail
    refine (cloneEvent_own b2 o2 (L k) (C k) (H k) wr HLk.out HS.out).mono ?_
    rintro e w4 ⟨a4,c4,rfl,o4,n4,b4⟩
    have F4:Hid (w4.ownsRow wr.heap.size 85 3 (.slice a4 (L k) c4) (L k) (fE (H k) (L k))/\Below wr.heap.size wr w4/\Value.slice a4 (L k) c4≠.slice none 0 0):=⟨o4,b4,n4⟩
    clear o4 b4 n4 ck hbl
    go_wp2_with (at_builtin;refine step_append_val kndEE w4 rfl rfl _ _ rfl 0 u3 k _ rfl (OZ.out.below F4.out.2.1).row #[.slice a4 (L k) c4] rfl rfl (by intro u hu;simp at hu;subst hu;rfl) hk2.out (Nat.zero_le _) ?_;intro v5 w5 o5 g5 q5 n5;have F5:Hid (LE z w5 (fun b=>w.heap.size<=b/\b<w5.heap.size) v5 (k+1) (fun j=>if j=k then .slice a4 (L k) c4 else u j) L H/\Below w.heap.size w w5):=⟨OZ.out.push F4.out.2.1 F4.out.1 (fun _=>F4.out.2.2) o5 g5 q5 (fun j hj _=>⟨hj.1,zP hj.2 (zS F4.out.2.1.size g5.size)⟩) (fun j hj hj'=>⟨zS BZ.out.size hj,hj'⟩),Below.grown (BZ.out.trans (F4.out.2.1.mono BZ.out.size)) g5 (zS BZ.out.size F4.out.2.1.size) (fun j hj=>(OZ.out.rb j hj).1)⟩;clear o5 g5 q5 n5)
    go_roundw
    case rel=>exact ⟨k+1,by omega,by go_num,⟨_,F5.out.1⟩,F5.out.2⟩
    case measure=>simp [intOf];omega
   ·rw [ea,eL,eC] at ck
    have HNz:Hid (¬ Nz z 85):=fun h=>by
     rcases h with h | h
     ·rw [hz] at h
      cases h
     ·exact absurd h (by decide)
    have hk2:Hid (k<=2000000):=by show k<=2000000;omega
    obtain ⟨⟨u,oz⟩,bz⟩:=HZ.out
    have OZ:Hid (LE z wr (fun b=>w.heap.size<=b/\b<wr.heap.size) u3 k u L H):=oz
    have BZ:Hid (Below w.heap.size w wr):=bz
    have HE:Hid (L k=0):=eL
    clear oz bz HZ ea eL eC hz
    go_wp2_with fail
    refine (cloneEvent_none wr).mono ?_
    rintro e w4 ⟨rfl,b4⟩
    have F4:Hid (w4.ownsRow wr.heap.size 85 3 (.slice none 0 0) (L k) (fE (H k) (L k))/\Below wr.heap.size wr w4):=⟨by rw [HE.out];exact World.ownsRow_nil _ _ _ _,b4⟩
    clear b4 ck hbl
    go_wp2_with (at_builtin;refine step_append_val kndEE w4 rfl rfl _ _ rfl 0 u3 k _ rfl (OZ.out.below F4.out.2).row #[.slice none 0 0] rfl rfl (by intro u hu;simp at hu;subst hu;rfl) hk2.out (Nat.zero_le _) ?_;intro v5 w5 o5 g5 q5 n5;have F5:Hid (LE z w5 (fun b=>w.heap.size<=b/\b<w5.heap.size) v5 (k+1) (fun j=>if j=k then .slice none 0 0 else u j) L H/\Below w.heap.size w w5):=⟨OZ.out.push F4.out.2 F4.out.1 (fun h=>absurd h HNz.out) o5 g5 q5 (fun j hj _=>⟨hj.1,zP hj.2 (zS F4.out.2.size g5.size)⟩) (fun j hj hj'=>⟨zS BZ.out.size hj,hj'⟩),Below.grown (BZ.out.trans (F4.out.2.mono BZ.out.size)) g5 (zS BZ.out.size F4.out.2.size) (fun j hj=>(OZ.out.rb j hj).1)⟩;clear o5 g5 q5 n5)
    go_roundw
    case rel=>exact ⟨k+1,by omega,by go_num,⟨_,F5.out.1⟩,F5.out.2⟩
    case measure=>simp [intOf];omega
  ·have hkn:k=n:=by omega
   subst hkn
   go_wp2
   go_ret
   obtain ⟨⟨u,oz⟩,bz⟩:=HZ.out
   exact ⟨_,u,rfl,oz,bz⟩
variable {z:Bool}
theorem restItem_own (b n cap:Nat) (lim:Int) (H:Nat->I2) (w:World) (h0:0<n) (hn:n<=1000) (hc:n<=cap) (hcm:cap<=maxLen) (hb:b<w.heap.size) (hI:ItAt w b 0 n H):
  Calls Tryz.prog 190 #[.agg #[.slice (some ⟨b,0,none⟩) n cap,.int .i64 lim]] w fun e w'=>∃ a c,e=.returned (.slice a (n - 1) c)/\w'.ownsRow w.heap.size 131 2 (.slice a (n - 1) c) (n - 1) (fT (fun i=>H (i+1)) (n - 1))/\Value.slice a (n - 1) c≠.slice none 0 0/\Below w.heap.size w w':=by
 have hn':(1:Int)<=(n:Int):=by omega
 have hnc:(n:Int)<=(cap:Int):=by omega
 have hl1:(n:Int) - 1=((n - 1:Nat):Int):=by omega
 have BA:Hid (Below w.heap.size w (w.alloc (.cells #[.slice (some ⟨b,0,none⟩) n cap,.int .i64 lim] 215))):=zT _ _
 have SR:Hid (Src w (some ⟨b,2,none⟩) (fT (fun i=>H (i+1)) (n - 1))):=by
  refine srcOf (sz:=2) hb (by omega) (fun _ _=>rfl) fun i hi j hj=>?_
  obtain ⟨q0,q1⟩:=hI (i+1) (by omega)
  match j,hj with
  | 0,_=>rw [show 2+(i*2+0)=0+(i+1)*2 by omega];exact q0
  | 1,_=>rw [show 2+(i*2+1)=0+(i+1)*2+1 by omega];exact q1
 have HN:Hid (0<n/\n<=1000/\n<=cap):=⟨h0,hn,hc⟩
 clear hI
 by_cases hcb:cap=1
 ·subst hcb
  have hn1:n=1:=by omega
  subst hn1
  clear hl1 hnc hn' h0 hn hc
  go_enter Tryz.func190,Tryz.ntmps190
  go_wp2_with fail
  refine (cloneItem_own _ _ 0 _ (fun i=>H (i+1)) _ (by omega) (.inl rfl)).mono ?_
  rintro e w5 ⟨a5,c5,rfl,o5,n5,b5⟩
  have F5:Hid (w5.ownsRow w.heap.size 131 2 (.slice a5 0 c5) 0 (fT (fun i=>H (i+1)) 0)/\Value.slice a5 0 c5≠.slice none 0 0/\Below w.heap.size w w5):=⟨o5.mono (by simp),n5,BA.out.trans (b5.mono BA.out.size)⟩
  clear o5 n5 b5
  go_wp2
  go_ret
  exact ⟨_,_,rfl,F5.out⟩
 ·go_enter Tryz.func190,Tryz.ntmps190
  go_wp2_with fail
  refine (cloneItem_own b 2 (n - 1) _ (fun i=>H (i+1)) _ (by have:=HN.out;omega) (SR.out.below BA.out)).mono ?_
  rintro e w5 ⟨a5,c5,rfl,o5,n5,b5⟩
  have F5:Hid (w5.ownsRow w.heap.size 131 2 (.slice a5 (n - 1) c5) (n - 1) (fT (fun i=>H (i+1)) (n - 1))/\Value.slice a5 (n - 1) c5≠.slice none 0 0/\Below w.heap.size w w5):=⟨o5.mono (by simp),n5,BA.out.trans (b5.mono BA.out.size)⟩
  clear o5 n5 b5
  go_wp2
  go_ret
  exact ⟨_,_,rfl,F5.out⟩
variable {z:Bool}
structure SysIn.Nn (x:SysIn) (z:Bool):Prop where
 w:∀ i,i<x.wn->(∃ b off,x.wA i=some ⟨b,off,none⟩)\/(z=false/\x.wA i=none/\x.wL i=0/\x.wC i=0)
 h:∀ i,i<x.hn->(∃ b off,x.hA i=some ⟨b,off,none⟩)\/(z=false/\x.hA i=none/\x.hL i=0/\x.hC i=0)
theorem run_make_states (n:Nat) (hn:n<=1048576):∃ cs:Array Value,cs.size=n*4/\∀ w:World,(Instr.makeSlice 25 (.int .i64 0) (.int .i64 (n:Int))).run Tryz.prog w=.ok (.slice (some ⟨w.heap.size,0,none⟩) 0 n) (w.alloc (.cells cs 80)):=by
 obtain ⟨i,z,hi,hz,hs,hb,hzs⟩:=kndS.inf
 refine ⟨madeCells z.cells (n*4),size_madeCells _ _,fun w=>?_⟩
 have hby:i.bytes*n<=281474976710656:=by
  rw [hb]
  omega
 have hby':(i.bytes:Int)*(n:Int)<=281474976710656:=by rw [<- Int.natCast_mul];exact Int.ofNat_le.2 hby
 have h:=run_make (P:=Tryz.prog) w 25 80 i z kndS.und hi hz .i64 .i64 0 (n:Int) (by omega) (by omega) hby' (by omega)
 rw [hs,Int.toNat_natCast] at h
 exact h
theorem LS.made (w:World) (cs:Array Value) (n:Nat) (hn:n<=1048576) (hc:cs.size=n*4) (P:Nat->Prop) (hP:P w.heap.size) (vs:Nat->Value) (S:Nat->S4) {N:Nat} (hN:N=w.heap.size):LS (w.alloc (.cells cs 80)) P (.slice (some ⟨N,0,none⟩) 0 n) 0 vs S:=by
 subst hN
 exact ⟨World.ownsRow_made (base:=0) (e:=80) (size:=4) w cs n (Nat.zero_le _) (by unfold maxLen;omega) hc,fun i hi=>(by omega),fun k hk=>(by cases hk;exact hP),fun i hi=>(by omega),fun i hi=>(by omega),fun i j hi=>(by omega)⟩
theorem OwnS.four {B m1 m2 m3 m4:Nat} {w1 w2 w3 w4 wf:World} {y:Sy} {vp vs vw vh:Value} {up us uw uh:Nat->Value} (h1:m1<=w1.heap.size) (h2:w1.heap.size<=m2) (h3:w2.heap.size<=m3) (h4:w3.heap.size<=m4) (hB:B<=m1)
  (o1:LS w1 (fun k=>m1<=k/\k<w1.heap.size) vs y.sn us y.sS) (o2:LI z w2 (fun k=>m2<=k/\k<w2.heap.size) vp y.pn up y.pL y.pH) (o3:LT z w3 (fun k=>m3<=k/\k<w3.heap.size) vw y.wn uw y.wL y.wH) (o4:LE z w4 (fun k=>m4<=k/\k<w4.heap.size) vh y.hn uh y.hL y.hH)
  (b2:Below w1.heap.size w1 w2) (b3:Below w2.heap.size w2 w3) (b4:Below w3.heap.size w3 w4) (hf:∀ k,m1<=k->k<w4.heap.size->wf.heap[k]? = w4.heap[k]?):
  ∃ c,OwnS z wf B c y vp vs vw vh up us uw uh:=by
 have z2:=b2.size
 have z3:=b3.size
 have z4:=b4.size
 refine ⟨fun k=>if k<w1.heap.size then 2 else if k<w2.heap.size then 1 else if k<w3.heap.size then 3 else 4,?_,?_,?_,?_⟩
 ·refine (o2.keep (w':=wf) fun k hk hl=>(hf k (by omega) (by omega)).trans ((b4.block k (by omega)).trans (b3.block k hl))).mono fun k hk _=>⟨by omega,?_⟩
  show (if k<w1.heap.size then 2 else if k<w2.heap.size then 1 else if k<w3.heap.size then 3 else 4)=1
  rw [if_neg (by omega),if_pos (by omega)]
 ·refine (o1.keep (w':=wf) fun k hk hl=>(hf k (by omega) (by omega)).trans ((b4.block k (by omega)).trans ((b3.block k (by omega)).trans (b2.block k hl)))).mono fun k hk _=>⟨by omega,?_⟩
  show (if k<w1.heap.size then 2 else if k<w2.heap.size then 1 else if k<w3.heap.size then 3 else 4)=2
  rw [if_pos (by omega)]
 ·refine (o3.keep (w':=wf) fun k hk hl=>(hf k (by omega) (by omega)).trans (b4.block k hl)).mono fun k hk _=>⟨by omega,?_⟩
  show (if k<w1.heap.size then 2 else if k<w2.heap.size then 1 else if k<w3.heap.size then 3 else 4)=3
  rw [if_neg (by omega),if_neg (by omega),if_pos (by omega)]
 ·refine (o4.keep (w':=wf) fun k hk hl=>hf k (by omega) hl).mono fun k hk _=>⟨by omega,?_⟩
  show (if k<w1.heap.size then 2 else if k<w2.heap.size then 1 else if k<w3.heap.size then 3 else 4)=4
  rw [if_neg (by omega),if_neg (by omega),if_neg (by omega)]
theorem copySys_any (x:SysIn) (w:World) (hG:SysG w x) (hL:x.Len) (hN:x.Nn z):
  Calls Tryz.prog 77 #[x.v] w fun e w'=>∃ v,e=.returned v/\OwnSys z w' w.heap.size x.y v/\Below w.heap.size w w':=by
 have HG:Hid (SysG w x):=hG
 have HL:Hid x.Len:=hL
 have hsn':(x.sn:Int)<=1048576:=by have:=hL.s.1;omega
 obtain ⟨cs,hcs,hmk⟩:=run_make_states x.sn hL.s.1
 have HCS:Hid (cs.size=x.sn*4):=hcs
 have BW:Hid (Below w.heap.size w ((w.alloc (oQ4 x.pa x.pn x.pc x.sa x.sn x.sc x.wa x.wn x.wc x.ha x.hn x.hc)).alloc (zQ1))):=(zT _ _).trans ((zT _ _).mono (by simp))
 have NB:Hid (BoxC ((w.alloc (oQ4 x.pa x.pn x.pc x.sa x.sn x.sc x.wa x.wn x.wc x.ha x.hn x.hc)).alloc (zQ1)) w.heap.size (.slice x.pa x.pn x.pc) (.slice x.sa x.sn x.sc) (.slice x.wa x.wn x.wc) (.slice x.ha x.hn x.hc)):=(BoxC.new w _ _ _ _ _).below (zT _ _)
 have RB:Hid (BoxC ((w.alloc (oQ4 x.pa x.pn x.pc x.sa x.sn x.sc x.wa x.wn x.wc x.ha x.hn x.hc)).alloc (zQ1)) (w.heap.size+1) (.slice none 0 0) (.slice none 0 0) (.slice none 0 0) (.slice none 0 0)/\∀ j,((w.alloc (oQ4 x.pa x.pn x.pc x.sa x.sn x.sc x.wa x.wn x.wc x.ha x.hn x.hc)).alloc (zQ1)).frozen? ⟨w.heap.size+1,j,none⟩=false):=⟨⟨zZ _ _ _ 0 (by simp),zZ _ _ _ 1 (by simp),zZ _ _ _ 2 (by simp),zZ _ _ _ 3 (by simp)⟩,fun j=>yD _ _ _ _ (by simp)⟩
 have hz:((w.alloc (oQ4 x.pa x.pn x.pc x.sa x.sn x.sc x.wa x.wn x.wc x.ha x.hn x.hc)).alloc (zQ1)).heap.size=w.heap.size+2:=by simp
 have hl0:w.heap.size<((w.alloc (oQ4 x.pa x.pn x.pc x.sa x.sn x.sc x.wa x.wn x.wc x.ha x.hn x.hc)).alloc (zQ1)).heap.size:=by omega
 have hl1:w.heap.size+1<((w.alloc (oQ4 x.pa x.pn x.pc x.sa x.sn x.sc x.wa x.wn x.wc x.ha x.hn x.hc)).alloc (zQ1)).heap.size:=by omega
 have Hp : Hid (∀ wx, Below ((w.alloc (oQ4 x.pa x.pn x.pc x.sa x.sn x.sc x.wa x.wn x.wc x.ha x.hn x.hc)).alloc (zQ1)).heap.size ((w.alloc (oQ4 x.pa x.pn x.pc x.sa x.sn x.sc x.wa x.wn x.wc x.ha x.hn x.hc)).alloc (zQ1)) wx → (RowS wx x.pa x.pn fun i => .slice (x.pA i) (x.pL i) (x.pC i)) ∧ ∀ i, i < x.pn → ∃ b off, x.pA i = some ⟨b, off, none⟩ ∧ Src wx (x.pA i) (fI (x.pH i) (x.pL i))) := fun wx hb => ⟨(HG.out.below (BW.out.trans (hb.mono BW.out.size))).p, fun i hi => by
  obtain ⟨b,e,hlt,hI⟩:=(HG.out.below (BW.out.trans (hb.mono BW.out.size))).pi i hi
  exact ⟨b,0,e,by rw [e];exact srcI hlt hI⟩⟩
 have Hw : Hid (∀ wx, Below ((w.alloc (oQ4 x.pa x.pn x.pc x.sa x.sn x.sc x.wa x.wn x.wc x.ha x.hn x.hc)).alloc (zQ1)).heap.size ((w.alloc (oQ4 x.pa x.pn x.pc x.sa x.sn x.sc x.wa x.wn x.wc x.ha x.hn x.hc)).alloc (zQ1)) wx → (RowS wx x.wa x.wn fun i => .slice (x.wA i) (x.wL i) (x.wC i)) ∧ ∀ i, i < x.wn → (∃ b off, x.wA i = some ⟨b, off, none⟩ ∧ Src wx (x.wA i) (fT (x.wH i) (x.wL i))) ∨ (z = false ∧ x.wA i = none ∧ x.wL i = 0 ∧ x.wC i = 0)) := fun wx hb => ⟨(HG.out.below (BW.out.trans (hb.mono BW.out.size))).w, fun i hi => by
  rcases hN.w i hi with ⟨b,off,e⟩ | h
  ·exact .inl ⟨b,off,e,srcT ((HG.out.below (BW.out.trans (hb.mono BW.out.size))).wi i hi)⟩
  ·exact .inr h⟩
 have Hh : Hid (∀ wx, Below ((w.alloc (oQ4 x.pa x.pn x.pc x.sa x.sn x.sc x.wa x.wn x.wc x.ha x.hn x.hc)).alloc (zQ1)).heap.size ((w.alloc (oQ4 x.pa x.pn x.pc x.sa x.sn x.sc x.wa x.wn x.wc x.ha x.hn x.hc)).alloc (zQ1)) wx → (RowS wx x.ha x.hn fun i => .slice (x.hA i) (x.hL i) (x.hC i)) ∧ ∀ i, i < x.hn → (∃ b off, x.hA i = some ⟨b, off, none⟩ ∧ Src wx (x.hA i) (fE (x.hH i) (x.hL i))) ∨ (z = false ∧ x.hA i = none ∧ x.hL i = 0 ∧ x.hC i = 0)) := fun wx hb => ⟨(HG.out.below (BW.out.trans (hb.mono BW.out.size))).h, fun i hi => by
  rcases hN.h i hi with ⟨b,off,e⟩ | h
  ·exact .inl ⟨b,off,e,srcE ((HG.out.below (BW.out.trans (hb.mono BW.out.size))).hi i hi)⟩
  ·exact .inr h⟩
 have HZ2:Hid (((w.alloc (oQ4 x.pa x.pn x.pc x.sa x.sn x.sc x.wa x.wn x.wc x.ha x.hn x.hc)).alloc (zQ1)).heap.size=w.heap.size+1+1):=hz
 clear hG hL hcs hz
 go_enter Tryz.func77,Tryz.ntmps77
 go_wp2_with fail
 clear hmk
 generalize hW2:(w.alloc (oQ4 x.pa x.pn x.pc x.sa x.sn x.sc x.wa x.wn x.wc x.ha x.hn x.hc)).alloc (zQ1)=W2 at *
 clear hW2
 go_loopw [3,13] (fun v i wr=>∃ k:Nat,k<=x.sn/\i=.int .i64 k/\Hid ((∃ us,LS wr (fun b=>W2.heap.size<=b/\b<wr.heap.size) v k us x.sS)/\Below W2.heap.size W2 wr)) (fun _ i _=>x.sn - (intOf i).toNat)
 case atStart=>exact ⟨0,Nat.zero_le _,rfl,⟨fun _=>.slice none 0 0,LS.made W2 cs x.sn HL.out.s.1 HCS.out (fun b=>W2.heap.size<=b/\b<(W2.alloc (.cells cs 80)).heap.size) ⟨Nat.le_refl _,by simp⟩ _ _ HZ2.out.symm⟩,zT _ _⟩
 case round=>
  obtain ⟨k,hk,rfl,HZ⟩:=hrel
  by_cases hlt:k<x.sn
  ·have hlt':(k:Int)<(x.sn:Int):=by omega
   obtain ⟨⟨us,oz⟩,bz⟩:=HZ.out
   obtain ⟨bs,os,es,s0,s1,s2,s3⟩:=(HG.out.below (BW.out.trans (bz.mono BW.out.size))).s.at hlt
   have hls:=(HG.out.below (BW.out.trans (bz.mono BW.out.size))).s.lst k hlt
   have hbs:bs<wr.heap.size:=zK wr _ s0
   have HLk:=HL.out.s.2 k hlt
   rw [es]
   have OZ:Hid (LS wr (fun b=>W2.heap.size<=b/\b<wr.heap.size) u3 k us x.sS):=oz
   have BZ:Hid (Below W2.heap.size W2 wr):=bz
   have LSt:Hid (Sl wr (x.sQ k).ra (x.sQ k).rs/\Sl wr (x.sQ k).oa (x.sQ k).os):=hls
   clear oz bz hls HZ es
   go_wp2_with fail
   have ba:=zT wr (oQ1 (x.sQ k).p (x.sQ k).ra (x.sQ k).rs.length (x.sQ k).rc (x.sQ k).oa (x.sQ k).os.length (x.sQ k).oc (x.sQ k).c)
   refine (copyState_any _ _ _ _ _ _ (x.sQ k).rs (x.sQ k).os _ HLk.1 HLk.2 (LSt.out.1.below ba) (LSt.out.2.below ba)).mono ?_
   rintro e w1 ⟨v1,rfl,o1,d1⟩
   obtain ⟨ra1,rc1,oa1,oc1,rfl,-,-⟩:=o1.read
   have q1:Below wr.heap.size wr w1:=ba.trans (d1.mono ba.size)
   have F1:Hid (StOwn w1 wr.heap.size (stV (x.sQ k).p ra1 (x.sQ k).rs.length rc1 oa1 (x.sQ k).os.length oc1 (x.sQ k).c) (x.sQ k).p (x.sQ k).rs (x.sQ k).os (x.sQ k).c/\Below wr.heap.size wr w1):=⟨o1.mono (by simp),q1⟩
   clear o1 d1 q1 ba s0 s1 s2 s3
   go_wp2_with (at_builtin;refine step_append_val kndS w1 rfl rfl _ _ rfl 0 u3 k _ rfl (OZ.out.below F1.out.2).row #[.int .i64 (x.sQ k).p,.slice ra1 (x.sQ k).rs.length rc1,.slice oa1 (x.sQ k).os.length oc1,.int .i64 (x.sQ k).c] rfl rfl (by intro u hu;simp at hu;rcases hu with rfl | rfl | rfl | rfl <;> rfl) (by omega) (Nat.zero_le _) ?_;intro v5 w5 o5 g5 q5 n5;have F5:Hid ((∃ us,LS w5 (fun b=>W2.heap.size<=b/\b<w5.heap.size) v5 (k+1) us x.sS)/\Below W2.heap.size W2 w5):=⟨⟨_,OZ.out.push F1.out.2 F1.out.1 o5 g5 q5 (fun j hj _=>⟨hj.1,zP hj.2 (zS F1.out.2.size g5.size)⟩) (fun j hj hj'=>⟨zS BZ.out.size hj,hj'⟩)⟩,Below.grown (BZ.out.trans (F1.out.2.mono BZ.out.size)) g5 (zS BZ.out.size F1.out.2.size) (fun j hj=>(OZ.out.rb j hj).1)⟩;clear o5 g5 q5 n5)
   go_roundw
   case rel=>exact ⟨k+1,by omega,by go_num,F5.out.1,F5.out.2⟩
   case measure=>simp [intOf];omega
  ·have hkn:k=x.sn:=by omega
   subst hkn
   obtain ⟨⟨us,oz⟩,q0⟩:=HZ.out
   obtain ⟨sa,sc,rfl⟩:=zW oz.row
   have b0:=NB.out.below q0
   clear HZ
   go_wp2_with fail
   refine wp_region_G (fun w'=>w'.cell? ⟨w.heap.size,0,none⟩=some (.slice x.pa x.pn x.pc)/\w'.cell? ⟨w.heap.size,2,none⟩=some (.slice x.wa x.wn x.wc)/\w'.cell? ⟨w.heap.size,3,none⟩=some (.slice x.ha x.hn x.hc)) (fun i=>i == 11) (by kernel_rfl) ?_
   have hHeld:(fun w'=>w'.cell? ⟨w.heap.size,0,none⟩=some (.slice x.pa x.pn x.pc)/\w'.cell? ⟨w.heap.size,2,none⟩=some (.slice x.wa x.wn x.wc)/\w'.cell? ⟨w.heap.size,3,none⟩=some (.slice x.ha x.hn x.hc)) wr.drew:=⟨b0.1,b0.2.2.1,b0.2.2.2⟩
   have q0:Below W2.heap.size W2 wr.drew:=q0.drew
   refine wpGT_of [0,1,3,4,5,7,8] ?_
   iterate 7 (refine wpGT_take rfl hHeld ?_;apply Exists.intro;refine ⟨fun wq hSw=>?_,?_⟩;(· ((try dsimp only at hSw);go_simp;try with_reducible rfl));(try simp only [Act.put,zE,zF,zH]))
   refine wpGT_nil ?_
   refine wpG_one 2 rfl (by kernel_rfl) (fun K hK=>?_)
   refine stepR_call rfl 127 _ _ rfl #[.slice x.pa x.pn x.pc] (by simp [Act.eval]) (yC Tryz.func127 (by kernel_rfl) rfl) (copyListsIns_own (z:=z) x.pa x.pn x.pc x.pA x.pL x.pC x.pH wr.drew HL.out.p.1 HL.out.p.2 (Hp.out _ q0).1 (Hp.out _ q0).2) ?_
   rintro e w1 ⟨v1,u1,rfl,o1,d1⟩
   obtain ⟨a1,c1,rfl⟩:=zW o1.row
   refine ⟨_,rfl,?_⟩
   have q1:Below W2.heap.size W2 w1:=q0.trans (d1.mono q0.size)
   have b1:=NB.out.below q1
   refine hK.out _ _ (fun _=>⟨b1.1,b1.2.2.1,b1.2.2.2⟩) ?_
   clear hHeld
   have hHeld:(fun w'=>w'.cell? ⟨w.heap.size,0,none⟩=some (.slice x.pa x.pn x.pc)/\w'.cell? ⟨w.heap.size,2,none⟩=some (.slice x.wa x.wn x.wc)/\w'.cell? ⟨w.heap.size,3,none⟩=some (.slice x.ha x.hn x.hc)) w1:=⟨b1.1,b1.2.2.1,b1.2.2.2⟩
   clear hK K
   (try simp only [Act.put,zE,zF,zH])
   refine wpG_one 6 rfl (by kernel_rfl) (fun K hK=>?_)
   refine stepR_call rfl 128 _ _ rfl #[.slice x.wa x.wn x.wc] (by simp [Act.eval]) (yC Tryz.func128 (by kernel_rfl) rfl) (copyListsItem_own (z:=z) x.wa x.wn x.wc x.wA x.wL x.wC x.wH w1 HL.out.w.1 HL.out.w.2 (Hw.out _ q1).1 (Hw.out _ q1).2) ?_
   rintro e w2 ⟨v2,u2,rfl,o2,d2⟩
   obtain ⟨a2,c2,rfl⟩:=zW o2.row
   refine ⟨_,rfl,?_⟩
   have q2:Below W2.heap.size W2 w2:=q1.trans (d2.mono q1.size)
   have b2:=NB.out.below q2
   refine hK.out _ _ (fun _=>⟨b2.1,b2.2.2.1,b2.2.2.2⟩) ?_
   clear hHeld
   have hHeld:(fun w'=>w'.cell? ⟨w.heap.size,0,none⟩=some (.slice x.pa x.pn x.pc)/\w'.cell? ⟨w.heap.size,2,none⟩=some (.slice x.wa x.wn x.wc)/\w'.cell? ⟨w.heap.size,3,none⟩=some (.slice x.ha x.hn x.hc)) w2:=⟨b2.1,b2.2.2.1,b2.2.2.2⟩
   clear hK K
   (try simp only [Act.put,zE,zF,zH])
   refine wpG_one 9 rfl (by kernel_rfl) (fun K hK=>?_)
   refine stepR_call rfl 129 _ _ rfl #[.slice x.ha x.hn x.hc] (by simp [Act.eval]) (yC Tryz.func129 (by kernel_rfl) rfl) (copyListsEvent_own (z:=z) x.ha x.hn x.hc x.hA x.hL x.hC x.hH w2 HL.out.h.1 HL.out.h.2 (Hh.out _ q2).1 (Hh.out _ q2).2) ?_
   rintro e w3 ⟨v3,u3,rfl,o3,d3⟩
   obtain ⟨a3,c3,rfl⟩:=zW o3.row
   refine ⟨_,rfl,?_⟩
   have q3:Below W2.heap.size W2 w3:=q2.trans (d3.mono q2.size)
   have b3:=NB.out.below q3
   refine hK.out _ _ (fun _=>⟨b3.1,b3.2.2.1,b3.2.2.2⟩) ?_
   clear hHeld
   have hHeld:(fun w'=>w'.cell? ⟨w.heap.size,0,none⟩=some (.slice x.pa x.pn x.pc)/\w'.cell? ⟨w.heap.size,2,none⟩=some (.slice x.wa x.wn x.wc)/\w'.cell? ⟨w.heap.size,3,none⟩=some (.slice x.ha x.hn x.hc)) w3:=⟨b3.1,b3.2.2.1,b3.2.2.2⟩
   clear hK K
   (try simp only [Act.put,zE,zF,zH])
   refine wpG_take 10 rfl hHeld ?_
   apply Exists.intro
   refine ⟨fun wq hSw=>?_,?_⟩
   ·(try dsimp only at hSw)
    go_simp
    try with_reducible rfl
   (try simp only [Act.put,zE,zF,zH])
   obtain ⟨r0,r1,r2,r3⟩:=RB.out.1.below q3
   have rf:∀ j,w3.frozen? ⟨w.heap.size+1,j,none⟩=false:=fun j=>((bcell q3).2 _ j hl1).trans (RB.out.2 j)
   refine wpG_one 11 rfl (by kernel_rfl) (fun K hK=>?_)
   go_simp
   refine hK.out _ _ (fun h=>?_) ?_
   ·exact absurd h (by decide)
   clear hK K
   (try simp only [Act.put])
   refine wpG_done (by kernel_rfl) ?_ _
   go_wp2
   refine bodyPost_ret (v:=sysV a1 x.pn c1 sa x.sn sc a2 x.wn c2 a3 x.hn c3) (by simp [results,Tryz.results77,go_sem,r0,r1,r2,r3]) rfl ⟨_,rfl,?_,?_⟩
   ·obtain ⟨cc,hcc⟩:=OwnS.four (B:=w.heap.size) (m1:=W2.heap.size) (wf:=(((w3.setCell ⟨w.heap.size+1,0,none⟩ (.slice a1 x.pn c1)).setCell ⟨w.heap.size+1,1,none⟩ (.slice sa x.sn sc)).setCell ⟨w.heap.size+1,2,none⟩ (.slice a2 x.wn c2)).setCell ⟨w.heap.size+1,3,none⟩ (.slice a3 x.hn c3)) (y:=x.y) (by have:W2.heap.size<=wr.heap.size:=q0.size;omega) (by simp) (Nat.le_refl _) (Nat.le_refl _) (by omega) oz o1 o2 o3 ((Below.refl wr.heap.size wr).drew.trans d1) d2 d3 (fun k h1 h2=>by repeat (rw [zQ _ _ _ _ (show k≠w.heap.size+1 by omega)]))
    exact ⟨cc,_,_,_,_,_,_,_,_,rfl,hcc⟩
   ·have h9:=BW.out.trans (q3.mono BW.out.size)
    exact (((h9.setCell (show w.heap.size<=w.heap.size+1 by omega) _).setCell (show w.heap.size<=w.heap.size+1 by omega) _).setCell (show w.heap.size<=w.heap.size+1 by omega) _).setCell (show w.heap.size<=w.heap.size+1 by omega) _
