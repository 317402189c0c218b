import Derived.Lib.AppendZerosOnto
import Derived.Lib.Walk
import Derived.Lib.SliceRun
import Derived.Test.YtchhijiibjijhaaGreatDoorXf36
namespace Go.Proofs.YtchhijiibjijhaaGreatDoor
set_option maxRecDepth 100000
set_option maxHeartbeats 20000000
open Go.ChangeShapes Go.WideShapes Go.ChangeAt Go.RowKit Go.Deep
variable {z:Bool}
theorem qmg (n:Nat) (w:World) (h0:0<n) (hn:n<=2000000):
  Calls Tryz.prog 246 #[.slice none 0 0,.int .i64 (n:Int)] w fun e w'=>∃ c,e=.returned (.slice (some ⟨w.heap.size,0,none⟩) 0 c)/\w'.ownsRow w.heap.size 138 2 (.slice (some ⟨w.heap.size,0,none⟩) 0 c) 0 []/\Below w.heap.size w w':=by
 obtain ⟨i,z,hi,hz,hs,hb,hzs⟩:=kndT.inf
 have hby:n*i.bytes<=140737488355328:=by
  rw [hb]
  omega
 have hrz:∀ ty,(Builtin.append_ #[136,3] ty #[.slice none 0 0,.int .i64 (n:Int)]).run Tryz.prog w=.ok (.slice (some ⟨w.heap.size,0,none⟩) n (grownCap w n 0 138)) (w.drew.alloc (.cells (Builtin.zeroCells z.cells n ++ Builtin.zeroCells z.cells (grownCap w n 0 138 - n)) 138)):=fun ty=>by
  have h:=Lib.run_append_grow_zeros w 136 3 ty 138 i z .i64 .i64 kndT.und Tryz.underlying3 hi hz none 0 0 [] (run_firstCells_none w.drew i.size 0 0 0) n h0 (by omega) (by omega) (by omega) (by omega) (by rw [Nat.zero_add];exact growslice_fits (by omega) hby)
  simpa using h
 have hG:n<=grownCap w n 0 138:=grownCap_ge w _ _ _
 have hGm:grownCap w n 0 138<=maxLen:=grownCap_le_maxLen w _ _ _ (by unfold maxLen;omega)
 have OW:Hid ((w.drew.alloc (.cells (Builtin.zeroCells z.cells n ++ Builtin.zeroCells z.cells (grownCap w n 0 138 - n)) 138)).ownsRow w.heap.size 138 2 (.slice (some ⟨w.heap.size,0,none⟩) 0 (grownCap w n 0 138)) 0 []):=World.ownsRow_made (base:=w.heap.size) (e:=138) (size:=2) w.drew _ _ (Nat.le_refl _) hGm (by rw [Array.size_append,size_zeroCells,size_zeroCells,hzs];omega)
 have BW:Hid (Below w.heap.size w (w.drew.alloc (.cells (Builtin.zeroCells z.cells n ++ Builtin.zeroCells z.cells (grownCap w n 0 138 - n)) 138))):=(Below.refl w.heap.size w).drew.trans (zQ w.drew _)
 generalize grownCap w n 0 138=G at *
 generalize Builtin.zeroCells z.cells n ++ Builtin.zeroCells z.cells (G - n)=cs at *
 have hG':(n:Int)<=(G:Int):=by omega
 have hG0:(0:Int)<=(G:Int):=by omega
 have hn0:¬ ((n:Int)<0):=by omega
 have hn1:(0:Int)<(n:Int):=by omega
 clear hi hz hs hb hzs hby hGm hG
 go_enter Tryz.func246,Tryz.ntmps246
 go_wp2_with (at_builtin;refine Lib.wpList_append_run _ rfl _ _ _ _ rfl _ _ rfl rfl _ _ (hrz _) ?_)
 all_goals
  go_ret
  exact ⟨_,rfl,OW.out,BW.out⟩
theorem qil (b n1 c1 n2 c2:Nat) (a1 a2:Option Addr) (s1 s2:List Value) (w:World) (h1:n1<=1000000) (h2:n2<=1000000) (h0:0<n1+n2) (k1:w.cell? ⟨b,0,none⟩=some (.slice a1 n1 c1)) (k2:w.cell? ⟨b,1,none⟩=some (.slice a2 n2 c2)) (l1:s1.length=n1*2) (l2:s2.length=n2*2) (r1:Src w a1 s1) (r2:Src w a2 s2) (o1:∀ u ∈ s1,u.oneCell'=true) (o2:∀ u ∈ s2,u.oneCell'=true):
  Calls Tryz.prog 215 #[.slice (some ⟨b,0,none⟩) 2 2] w fun e w'=>∃ v,e=.returned v/\w'.ownsRow w.heap.size 138 2 v (n1+n2) (s1 ++ s2)/\v≠.slice none 0 0/\Below w.heap.size w w':=by
 have H1:(n1:Int)<=1000000:=by omega
 have H2:(n2:Int)<=1000000:=by omega
 have KC:Hid (w.cell? ⟨b,0,none⟩=some (.slice a1 n1 c1)/\w.cell? ⟨b,1,none⟩=some (.slice a2 n2 c2)/\b<w.heap.size):=⟨k1,k2,zJ w _ k1⟩
 have RC:Hid ((s1.length=n1*2/\Src w a1 s1/\∀ u ∈ s1,u.oneCell'=true)/\(s2.length=n2*2/\Src w a2 s2/\∀ u ∈ s2,u.oneCell'=true)):=⟨⟨l1,r1,o1⟩,⟨l2,r2,o2⟩⟩
 clear l1 l2 r1 r2 o1 o2 k1 k2
 go_enter Tryz.func215,Tryz.ntmps215
 go_wp2_with fail
 go_loopw [3,11] (fun q i wr=>∃ j:Nat,j<=2/\i=.int .i64 j/\q=.int .i64 ((if j=0 then 0 else if j=1 then n1 else n1+n2:Nat):Int)/\wr=w) (fun _ i _=>2 - (intOf i).toNat)
 case atStart=>exact ⟨0,Nat.zero_le _,rfl,rfl,rfl⟩
 case round=>
  obtain ⟨j,hj,rfl,rfl,hwr⟩:=hrel
  obtain rfl:=hwr.symm
  obtain ⟨k1,k2,-⟩:=KC.out
  by_cases hj0:j=0
  ·subst hj0
   simp only [if_true]
   go_wp2
   go_roundw
   case rel=>exact ⟨1,by omega,by go_num,by simp,by first | rfl | trivial⟩
   case measure=>simp [intOf]
  ·by_cases hj1:j=1
   ·subst hj1
    simp only [if_true,if_neg (show ¬ (1:Nat)=0 by decide)]
    have hs:¬ ((n1:Int)+(n2:Int)<0):=by omega
    go_wp2
    go_roundw
    case rel=>exact ⟨2,by omega,by go_num,by simp,by first | rfl | trivial⟩
    case measure=>simp [intOf]
   ·obtain rfl:j=2:=by omega
    simp only [if_neg (show ¬ (2:Nat)=0 by decide),if_neg (show ¬ (2:Nat)=1 by decide)]
    clear k1 k2
    go_wp2_with fail
    refine (qmg (n1+n2) w h0 (by omega)).mono ?_
    rintro e w1 ⟨cg,rfl,og,bg⟩
    have OG:Hid (w1.ownsRow w.heap.size 138 2 (.slice (some ⟨w.heap.size,0,none⟩) 0 cg) 0 []/\Below w.heap.size w w1):=⟨og,bg⟩
    clear og bg
    go_wp2_with fail
    go_loopw [6,27] (fun v i wx=>∃ j:Nat,j<=2/\i=.int .i64 j/\Hid (wx.ownsRow w.heap.size 138 2 v (if j=0 then 0 else if j=1 then n1 else n1+n2) (if j=0 then [] else if j=1 then s1 else s1 ++ s2)/\v≠.slice none 0 0/\Below w.heap.size w wx)) (fun _ i _=>2 - (intOf i).toNat)
    case atStart=>exact ⟨0,Nat.zero_le _,rfl,OG.out.1,by simp,OG.out.2⟩
    case round=>
     clear OG
     obtain ⟨j,hj,rfl,HZ⟩:=hrel
     obtain ⟨k1,k2,kb⟩:=KC.out
     have HB:Hid (Below w.heap.size w wr):=HZ.out.2.2
     have hne:Hid (u6≠.slice none 0 0):=HZ.out.2.1
     by_cases hj0:j=0
     ·subst hj0
      have m1:=(HB.out.cell (p:=⟨b,0,none⟩) kb).trans k1
      have OV:Hid (wr.ownsRow w.heap.size 138 2 u6 0 []):=HZ.out.1
      clear k1 k2 kb HZ
      go_wp2_with (at_builtin;refine qbm kndT wr rfl _ _ rfl w.heap.size u6 0 [] rfl OV.out a1 n1 c1 s1 rfl RC.out.1.1 (RC.out.1.2.1.below HB.out) RC.out.1.2.2 (by omega) HB.out.size ?_;intro v5 w5 o5 g5 q5 n5;have F5:Hid (w5.ownsRow w.heap.size 138 2 v5 n1 s1/\v5≠.slice none 0 0/\Below w.heap.size w w5):=⟨by rw [Nat.zero_add,List.nil_append] at o5;exact o5,n5 (.inl hne.out),Below.grown HB.out g5 HB.out.size (fun j hj=>(OV.out.lt j hj).1)⟩;clear o5 g5 q5 n5)
      go_roundw
      case rel=>exact ⟨1,by omega,by go_num,F5.out⟩
      case measure=>simp [intOf]
     ·by_cases hj1:j=1
      ·subst hj1
       have m2:=(HB.out.cell (p:=⟨b,1,none⟩) kb).trans k2
       have OV:Hid (wr.ownsRow w.heap.size 138 2 u6 n1 s1):=HZ.out.1
       clear k1 k2 kb HZ
       go_wp2_with (at_builtin;refine qbm kndT wr rfl _ _ rfl w.heap.size u6 n1 s1 rfl OV.out a2 n2 c2 s2 rfl RC.out.2.1 (RC.out.2.2.1.below HB.out) RC.out.2.2.2 (by omega) HB.out.size ?_;intro v5 w5 o5 g5 q5 n5;have F5:Hid (w5.ownsRow w.heap.size 138 2 v5 (n1+n2) (s1 ++ s2)/\v5≠.slice none 0 0/\Below w.heap.size w w5):=⟨o5,n5 (.inl hne.out),Below.grown HB.out g5 HB.out.size (fun j hj=>(OV.out.lt j hj).1)⟩;clear o5 g5 q5 n5)
       go_roundw
       case rel=>exact ⟨2,by omega,by go_num,F5.out⟩
       case measure=>simp [intOf]
      ·obtain rfl:j=2:=by omega
       have F5:Hid (wr.ownsRow w.heap.size 138 2 u6 (n1+n2) (s1 ++ s2)/\u6≠.slice none 0 0/\Below w.heap.size w wr):=HZ.out
       clear HZ k1 k2
       go_wp2
       go_ret
       exact ⟨_,rfl,F5.out⟩
theorem qnw (a:Option Addr) (n c:Nat) (lim:Int) (H:Nat->I2) (x:I2) (w:World) (hn:n<=1000) (hI:Src w a (fT H n)):
  Calls Tryz.prog 170 #[.agg #[.slice a n c,.int .i64 lim],.agg #[.bool x.m,.int .i64 x.v]] w fun e w'=>∃ v,e=.returned v/\w'.ownsRow w.heap.size 138 2 v (n+1) (fT (fun i=>if i=n then x else H i) (n+1))/\v≠.slice none 0 0/\Below w.heap.size w w':=by
 have HI:Hid (Src w a (fT H n)):=hI
 have HF:Hid (fT (fun i=>if i=n then x else H i) (n+1)=fT H n ++ cT x):=by
  show flat (fun i=>cT (if i=n then x else H i)) n ++ cT (if n=n then x else H n)=flat (fun i=>cT (H i)) n ++ cT x
  rw [if_pos rfl]
  congr 1
  exact qay fun i hi=>by rw [if_neg (by omega)]
 clear hI
 go_enter Tryz.func170,Tryz.ntmps170
 go_wp2_with fail
 have B3:Hid (Below w.heap.size w ((((w.alloc (.cells #[.slice a n c,.int .i64 lim] 204)).alloc (.cells #[.bool x.m,.int .i64 x.v] 138)).alloc (.cells #[.bool x.m,.int .i64 x.v] 138)).alloc (.cells #[.slice a n c,.slice (some ⟨w.heap.size+2,0,none⟩) 1 1] 136))):=by
  show Below w.heap.size w ((((w.alloc (.cells #[.slice a n c,.int .i64 lim] 204)).alloc (.cells #[.bool x.m,.int .i64 x.v] 138)).alloc (.cells #[.bool x.m,.int .i64 x.v] 138)).alloc (.cells #[.slice a n c,.slice (some ⟨w.heap.size+2,0,none⟩) 1 1] 136))
  go_grown
 have k1:((((w.alloc (.cells #[.slice a n c,.int .i64 lim] 204)).alloc (.cells #[.bool x.m,.int .i64 x.v] 138)).alloc (.cells #[.bool x.m,.int .i64 x.v] 138)).alloc (.cells #[.slice a n c,.slice (some ⟨w.heap.size+2,0,none⟩) 1 1] 136)).cell? ⟨w.heap.size+3,0,none⟩=some (.slice a n c):=zW _ _ _ 0 (by simp)
 have k2:((((w.alloc (.cells #[.slice a n c,.int .i64 lim] 204)).alloc (.cells #[.bool x.m,.int .i64 x.v] 138)).alloc (.cells #[.bool x.m,.int .i64 x.v] 138)).alloc (.cells #[.slice a n c,.slice (some ⟨w.heap.size+2,0,none⟩) 1 1] 136)).cell? ⟨w.heap.size+3,1,none⟩=some (.slice (some ⟨w.heap.size+2,0,none⟩) 1 1):=zW _ _ _ 1 (by simp)
 have r2 : Src ((((w.alloc (.cells #[.slice a n c, .int .i64 lim] 204)).alloc (.cells #[.bool x.m, .int .i64 x.v] 138)).alloc (.cells #[.bool x.m, .int .i64 x.v] 138)).alloc (.cells #[.slice a n c, .slice (some ⟨w.heap.size + 2, 0, none⟩) 1 1] 136)) (some ⟨w.heap.size + 2, 0, none⟩) (cT x) :=   .inr ⟨w.heap.size + 2, 0, rfl, (by simp), fun j u hj => by
  have ba:=zQ (((w.alloc (.cells #[.slice a n c,.int .i64 lim] 204)).alloc (.cells #[.bool x.m,.int .i64 x.v] 138)).alloc (.cells #[.bool x.m,.int .i64 x.v] 138)) (.cells #[.slice a n c,.slice (some ⟨w.heap.size+2,0,none⟩) 1 1] 136)
  rw [Nat.zero_add,(qam ba).1 _ _ (by simp),zW _ _ _ j (by simp)]
  simpa [cT] using hj⟩
 refine (qil (w.heap.size+3) n c 1 1 a (some ⟨w.heap.size+2,0,none⟩) (fT H n) (cT x) ((((w.alloc (.cells #[.slice a n c,.int .i64 lim] 204)).alloc (.cells #[.bool x.m,.int .i64 x.v] 138)).alloc (.cells #[.bool x.m,.int .i64 x.v] 138)).alloc (.cells #[.slice a n c,.slice (some ⟨w.heap.size+2,0,none⟩) 1 1] 136)) (by omega) (by omega) (by omega) k1 k2 (qp9 _ _) rfl (HI.out.below B3.out) r2 (qqa _ _) (by intro u hu;simp [cT] at hu;rcases hu with rfl | rfl <;> rfl)).mono ?_
 rintro e w5 ⟨v5,rfl,o5,n5,b5⟩
 have F5:Hid (w5.ownsRow w.heap.size 138 2 v5 (n+1) (fT H n ++ cT x)/\v5≠.slice none 0 0/\Below w.heap.size w w5):=⟨o5.mono (by simp;omega),n5,B3.out.trans (b5.mono B3.out.size)⟩
 clear o5 n5 b5 k1 k2 r2 B3
 go_wp2
 go_ret
 rw [HF.out]
 exact ⟨_,rfl,F5.out⟩
theorem qj3 (n:Nat) (w:World) (h0:0<n) (hn:n<=2000000):
  Calls Tryz.prog 245 #[.slice none 0 0,.int .i64 (n:Int)] w fun e w'=>∃ c,e=.returned (.slice (some ⟨w.heap.size,0,none⟩) 0 c)/\w'.ownsRow w.heap.size 74 3 (.slice (some ⟨w.heap.size,0,none⟩) 0 c) 0 []/\Below w.heap.size w w':=by
 obtain ⟨i,z,hi,hz,hs,hb,hzs⟩:=kndE.inf
 have hby:n*i.bytes<=140737488355328:=by
  rw [hb]
  omega
 have hrz:∀ ty,(Builtin.append_ #[75,3] ty #[.slice none 0 0,.int .i64 (n:Int)]).run Tryz.prog w=.ok (.slice (some ⟨w.heap.size,0,none⟩) n (grownCap w n 0 74)) (w.drew.alloc (.cells (Builtin.zeroCells z.cells n ++ Builtin.zeroCells z.cells (grownCap w n 0 74 - n)) 74)):=fun ty=>by
  have h:=Lib.run_append_grow_zeros w 75 3 ty 74 i z .i64 .i64 kndE.und Tryz.underlying3 hi hz none 0 0 [] (run_firstCells_none w.drew i.size 0 0 0) n h0 (by omega) (by omega) (by omega) (by omega) (by rw [Nat.zero_add];exact growslice_fits (by omega) hby)
  simpa using h
 have hG:n<=grownCap w n 0 74:=grownCap_ge w _ _ _
 have hGm:grownCap w n 0 74<=maxLen:=grownCap_le_maxLen w _ _ _ (by unfold maxLen;omega)
 have OW:Hid ((w.drew.alloc (.cells (Builtin.zeroCells z.cells n ++ Builtin.zeroCells z.cells (grownCap w n 0 74 - n)) 74)).ownsRow w.heap.size 74 3 (.slice (some ⟨w.heap.size,0,none⟩) 0 (grownCap w n 0 74)) 0 []):=World.ownsRow_made (base:=w.heap.size) (e:=74) (size:=3) w.drew _ _ (Nat.le_refl _) hGm (by rw [Array.size_append,size_zeroCells,size_zeroCells,hzs];omega)
 have BW:Hid (Below w.heap.size w (w.drew.alloc (.cells (Builtin.zeroCells z.cells n ++ Builtin.zeroCells z.cells (grownCap w n 0 74 - n)) 74))):=(Below.refl w.heap.size w).drew.trans (zQ w.drew _)
 generalize grownCap w n 0 74=G at *
 generalize Builtin.zeroCells z.cells n ++ Builtin.zeroCells z.cells (G - n)=cs at *
 have hG':(n:Int)<=(G:Int):=by omega
 have hG0:(0:Int)<=(G:Int):=by omega
 have hn0:¬ ((n:Int)<0):=by omega
 have hn1:(0:Int)<(n:Int):=by omega
 clear hi hz hs hb hzs hby hGm hG
 go_enter Tryz.func245,Tryz.ntmps245
 go_wp2_with (at_builtin;refine Lib.wpList_append_run _ rfl _ _ _ _ rfl _ _ rfl rfl _ _ (hrz _) ?_)
 all_goals
  go_ret
  exact ⟨_,rfl,OW.out,BW.out⟩
theorem qhv (b n1 c1 n2 c2:Nat) (a1 a2:Option Addr) (s1 s2:List Value) (w:World) (h1:n1<=1000000) (h2:n2<=1000000) (h0:0<n1+n2) (k1:w.cell? ⟨b,0,none⟩=some (.slice a1 n1 c1)) (k2:w.cell? ⟨b,1,none⟩=some (.slice a2 n2 c2)) (l1:s1.length=n1*3) (l2:s2.length=n2*3) (r1:Src w a1 s1) (r2:Src w a2 s2) (o1:∀ u ∈ s1,u.oneCell'=true) (o2:∀ u ∈ s2,u.oneCell'=true):
  Calls Tryz.prog 214 #[.slice (some ⟨b,0,none⟩) 2 2] w fun e w'=>∃ v,e=.returned v/\w'.ownsRow w.heap.size 74 3 v (n1+n2) (s1 ++ s2)/\v≠.slice none 0 0/\Below w.heap.size w w':=by
 have H1:(n1:Int)<=1000000:=by omega
 have H2:(n2:Int)<=1000000:=by omega
 have KC:Hid (w.cell? ⟨b,0,none⟩=some (.slice a1 n1 c1)/\w.cell? ⟨b,1,none⟩=some (.slice a2 n2 c2)/\b<w.heap.size):=⟨k1,k2,zJ w _ k1⟩
 have RC:Hid ((s1.length=n1*3/\Src w a1 s1/\∀ u ∈ s1,u.oneCell'=true)/\(s2.length=n2*3/\Src w a2 s2/\∀ u ∈ s2,u.oneCell'=true)):=⟨⟨l1,r1,o1⟩,⟨l2,r2,o2⟩⟩
 clear l1 l2 r1 r2 o1 o2 k1 k2
 go_enter Tryz.func214,Tryz.ntmps214
 go_wp2_with fail
 go_loopw [3,11] (fun q i wr=>∃ j:Nat,j<=2/\i=.int .i64 j/\q=.int .i64 ((if j=0 then 0 else if j=1 then n1 else n1+n2:Nat):Int)/\wr=w) (fun _ i _=>2 - (intOf i).toNat)
 case atStart=>exact ⟨0,Nat.zero_le _,rfl,rfl,rfl⟩
 case round=>
  obtain ⟨j,hj,rfl,rfl,hwr⟩:=hrel
  obtain rfl:=hwr.symm
  obtain ⟨k1,k2,-⟩:=KC.out
  by_cases hj0:j=0
  ·subst hj0
   simp only [if_true]
   go_wp2
   go_roundw
   case rel=>exact ⟨1,by omega,by go_num,by simp,by first | rfl | trivial⟩
   case measure=>simp [intOf]
  ·by_cases hj1:j=1
   ·subst hj1
    simp only [if_true,if_neg (show ¬ (1:Nat)=0 by decide)]
    have hs:¬ ((n1:Int)+(n2:Int)<0):=by omega
    go_wp2
    go_roundw
    case rel=>exact ⟨2,by omega,by go_num,by simp,by first | rfl | trivial⟩
    case measure=>simp [intOf]
   ·obtain rfl:j=2:=by omega
    simp only [if_neg (show ¬ (2:Nat)=0 by decide),if_neg (show ¬ (2:Nat)=1 by decide)]
    clear k1 k2
    go_wp2_with fail
    refine (qj3 (n1+n2) w h0 (by omega)).mono ?_
    rintro e w1 ⟨cg,rfl,og,bg⟩
    have OG:Hid (w1.ownsRow w.heap.size 74 3 (.slice (some ⟨w.heap.size,0,none⟩) 0 cg) 0 []/\Below w.heap.size w w1):=⟨og,bg⟩
    clear og bg
    go_wp2_with fail
    go_loopw [6,27] (fun v i wx=>∃ j:Nat,j<=2/\i=.int .i64 j/\Hid (wx.ownsRow w.heap.size 74 3 v (if j=0 then 0 else if j=1 then n1 else n1+n2) (if j=0 then [] else if j=1 then s1 else s1 ++ s2)/\v≠.slice none 0 0/\Below w.heap.size w wx)) (fun _ i _=>2 - (intOf i).toNat)
    case atStart=>exact ⟨0,Nat.zero_le _,rfl,OG.out.1,by simp,OG.out.2⟩
    case round=>
     clear OG
     obtain ⟨j,hj,rfl,HZ⟩:=hrel
     obtain ⟨k1,k2,kb⟩:=KC.out
     have HB:Hid (Below w.heap.size w wr):=HZ.out.2.2
     have hne:Hid (u6≠.slice none 0 0):=HZ.out.2.1
     by_cases hj0:j=0
     ·subst hj0
      have m1:=(HB.out.cell (p:=⟨b,0,none⟩) kb).trans k1
      have OV:Hid (wr.ownsRow w.heap.size 74 3 u6 0 []):=HZ.out.1
      clear k1 k2 kb HZ
      go_wp2_with (at_builtin;refine qbm kndE wr rfl _ _ rfl w.heap.size u6 0 [] rfl OV.out a1 n1 c1 s1 rfl RC.out.1.1 (RC.out.1.2.1.below HB.out) RC.out.1.2.2 (by omega) HB.out.size ?_;intro v5 w5 o5 g5 q5 n5;have F5:Hid (w5.ownsRow w.heap.size 74 3 v5 n1 s1/\v5≠.slice none 0 0/\Below w.heap.size w w5):=⟨by rw [Nat.zero_add,List.nil_append] at o5;exact o5,n5 (.inl hne.out),Below.grown HB.out g5 HB.out.size (fun j hj=>(OV.out.lt j hj).1)⟩;clear o5 g5 q5 n5)
      go_roundw
      case rel=>exact ⟨1,by omega,by go_num,F5.out⟩
      case measure=>simp [intOf]
     ·by_cases hj1:j=1
      ·subst hj1
       have m2:=(HB.out.cell (p:=⟨b,1,none⟩) kb).trans k2
       have OV:Hid (wr.ownsRow w.heap.size 74 3 u6 n1 s1):=HZ.out.1
       clear k1 k2 kb HZ
       go_wp2_with (at_builtin;refine qbm kndE wr rfl _ _ rfl w.heap.size u6 n1 s1 rfl OV.out a2 n2 c2 s2 rfl RC.out.2.1 (RC.out.2.2.1.below HB.out) RC.out.2.2.2 (by omega) HB.out.size ?_;intro v5 w5 o5 g5 q5 n5;have F5:Hid (w5.ownsRow w.heap.size 74 3 v5 (n1+n2) (s1 ++ s2)/\v5≠.slice none 0 0/\Below w.heap.size w w5):=⟨o5,n5 (.inl hne.out),Below.grown HB.out g5 HB.out.size (fun j hj=>(OV.out.lt j hj).1)⟩;clear o5 g5 q5 n5)
       go_roundw
       case rel=>exact ⟨2,by omega,by go_num,F5.out⟩
       case measure=>simp [intOf]
      ·obtain rfl:j=2:=by omega
       have F5:Hid (wr.ownsRow w.heap.size 74 3 u6 (n1+n2) (s1 ++ s2)/\u6≠.slice none 0 0/\Below w.heap.size w wr):=HZ.out
       clear HZ k1 k2
       go_wp2
       go_ret
       exact ⟨_,rfl,F5.out⟩
theorem qlg (a:Option Addr) (n c:Nat) (lim:Int) (H:Nat->E3) (x:E3) (w:World) (hn:n<=1000) (hI:Src w a (fE H n)):
  Calls Tryz.prog 168 #[.agg #[.slice a n c,.int .i64 lim],.agg #[.int .i64 x.k,.int .i64 x.q,.int .i64 x.v]] w fun e w'=>∃ v,e=.returned v/\w'.ownsRow w.heap.size 74 3 v (n+1) (fE (fun i=>if i=n then x else H i) (n+1))/\v≠.slice none 0 0/\Below w.heap.size w w':=by
 have HI:Hid (Src w a (fE H n)):=hI
 have HF:Hid (fE (fun i=>if i=n then x else H i) (n+1)=fE H n ++ cE x):=by
  show flat (fun i=>cE (if i=n then x else H i)) n ++ cE (if n=n then x else H n)=flat (fun i=>cE (H i)) n ++ cE x
  rw [if_pos rfl]
  congr 1
  exact qay fun i hi=>by rw [if_neg (by omega)]
 clear hI
 go_enter Tryz.func168,Tryz.ntmps168
 go_wp2_with fail
 have B3:Hid (Below w.heap.size w ((((w.alloc (.cells #[.slice a n c,.int .i64 lim] 200)).alloc (oQ0 x.k x.q x.v)).alloc (oQ0 x.k x.q x.v)).alloc (.cells #[.slice a n c,.slice (some ⟨w.heap.size+2,0,none⟩) 1 1] 75))):=by
  show Below w.heap.size w ((((w.alloc (.cells #[.slice a n c,.int .i64 lim] 200)).alloc (oQ0 x.k x.q x.v)).alloc (oQ0 x.k x.q x.v)).alloc (.cells #[.slice a n c,.slice (some ⟨w.heap.size+2,0,none⟩) 1 1] 75))
  go_grown
 have k1:((((w.alloc (.cells #[.slice a n c,.int .i64 lim] 200)).alloc (oQ0 x.k x.q x.v)).alloc (oQ0 x.k x.q x.v)).alloc (.cells #[.slice a n c,.slice (some ⟨w.heap.size+2,0,none⟩) 1 1] 75)).cell? ⟨w.heap.size+3,0,none⟩=some (.slice a n c):=zW _ _ _ 0 (by simp)
 have k2:((((w.alloc (.cells #[.slice a n c,.int .i64 lim] 200)).alloc (oQ0 x.k x.q x.v)).alloc (oQ0 x.k x.q x.v)).alloc (.cells #[.slice a n c,.slice (some ⟨w.heap.size+2,0,none⟩) 1 1] 75)).cell? ⟨w.heap.size+3,1,none⟩=some (.slice (some ⟨w.heap.size+2,0,none⟩) 1 1):=zW _ _ _ 1 (by simp)
 have r2 : Src ((((w.alloc (.cells #[.slice a n c, .int .i64 lim] 200)).alloc (oQ0 x.k x.q x.v)).alloc (oQ0 x.k x.q x.v)).alloc (.cells #[.slice a n c, .slice (some ⟨w.heap.size + 2, 0, none⟩) 1 1] 75)) (some ⟨w.heap.size + 2, 0, none⟩) (cE x) :=   .inr ⟨w.heap.size + 2, 0, rfl, (by simp), fun j u hj => by
  have ba:=zQ (((w.alloc (.cells #[.slice a n c,.int .i64 lim] 200)).alloc (oQ0 x.k x.q x.v)).alloc (oQ0 x.k x.q x.v)) (.cells #[.slice a n c,.slice (some ⟨w.heap.size+2,0,none⟩) 1 1] 75)
  rw [Nat.zero_add,(qam ba).1 _ _ (by simp),zW _ _ _ j (by simp)]
  simpa [cE] using hj⟩
 refine (qhv (w.heap.size+3) n c 1 1 a (some ⟨w.heap.size+2,0,none⟩) (fE H n) (cE x) ((((w.alloc (.cells #[.slice a n c,.int .i64 lim] 200)).alloc (oQ0 x.k x.q x.v)).alloc (oQ0 x.k x.q x.v)).alloc (.cells #[.slice a n c,.slice (some ⟨w.heap.size+2,0,none⟩) 1 1] 75)) (by omega) (by omega) (by omega) k1 k2 (qx8 _ _) rfl (HI.out.below B3.out) r2 (qx9 _ _) (by intro u hu;simp [cE] at hu;rcases hu with rfl | rfl | rfl <;> rfl)).mono ?_
 rintro e w5 ⟨v5,rfl,o5,n5,b5⟩
 have F5:Hid (w5.ownsRow w.heap.size 74 3 v5 (n+1) (fE H n ++ cE x)/\v5≠.slice none 0 0/\Below w.heap.size w w5):=⟨o5.mono (by simp;omega),n5,B3.out.trans (b5.mono B3.out.size)⟩
 clear o5 n5 b5 k1 k2 r2 B3
 go_wp2
 go_ret
 rw [HF.out]
 exact ⟨_,rfl,F5.out⟩
variable {z:Bool}
theorem qm9 (b n cap:Nat) (lim:Int) (H:Nat->I2) (w:World) (h0:0<n) (hn:n<=1000) (hc:n<=cap) (hcm:cap<=maxLen) (hb:b<w.heap.size) (hI:ItAt w b 0 n H):
  Calls Tryz.prog 172 #[.agg #[.slice (some ⟨b,0,none⟩) n cap,.int .i64 lim]] w fun e w'=>∃ a c,e=.returned (.slice a (n - 1) c)/\w'.ownsRow w.heap.size 138 2 (.slice a (n - 1) c) (n - 1) (fT (fun i=>H (i+1)) (n - 1))/\Value.slice a (n - 1) c≠.slice none 0 0/\Below w.heap.size w w':=by
 have hn':(1:Int)<=(n:Int):=by omega
 have hnc:(n:Int)<=(cap:Int):=by omega
 have hl1:(n:Int) - 1=((n - 1:Nat):Int):=by omega
 have BA:Hid (Below w.heap.size w (w.alloc (.cells #[.slice (some ⟨b,0,none⟩) n cap,.int .i64 lim] 204))):=zQ _ _
 have SR:Hid (Src w (some ⟨b,2,none⟩) (fT (fun i=>H (i+1)) (n - 1))):=by
  refine qsm (sz:=2) hb (by omega) (fun _ _=>rfl) fun i hi j hj=>?_
  obtain ⟨q0,q1⟩:=hI (i+1) (by omega)
  match j,hj with
  | 0,_=>rw [show 2+(i*2+0)=0+(i+1)*2 by omega];exact q0
  | 1,_=>rw [show 2+(i*2+1)=0+(i+1)*2+1 by omega];exact q1
 have HN:Hid (0<n/\n<=1000/\n<=cap):=⟨h0,hn,hc⟩
 clear hI
 by_cases hcb:cap=1
 ·subst hcb
  have hn1:n=1:=by omega
  subst hn1
  clear hl1 hnc hn' h0 hn hc
  go_enter Tryz.func172,Tryz.ntmps172
  go_wp2_with fail
  refine (qfd _ _ 0 _ (fun i=>H (i+1)) _ (by omega) (.inl rfl)).mono ?_
  rintro e w5 ⟨a5,c5,rfl,o5,n5,b5⟩
  have F5:Hid (w5.ownsRow w.heap.size 138 2 (.slice a5 0 c5) 0 (fT (fun i=>H (i+1)) 0)/\Value.slice a5 0 c5≠.slice none 0 0/\Below w.heap.size w w5):=⟨o5.mono (by simp),n5,BA.out.trans (b5.mono BA.out.size)⟩
  clear o5 n5 b5
  go_wp2
  go_ret
  exact ⟨_,_,rfl,F5.out⟩
 ·go_enter Tryz.func172,Tryz.ntmps172
  go_wp2_with fail
  refine (qfd b 2 (n - 1) _ (fun i=>H (i+1)) _ (by have:=HN.out;omega) (SR.out.below BA.out)).mono ?_
  rintro e w5 ⟨a5,c5,rfl,o5,n5,b5⟩
  have F5:Hid (w5.ownsRow w.heap.size 138 2 (.slice a5 (n - 1) c5) (n - 1) (fT (fun i=>H (i+1)) (n - 1))/\Value.slice a5 (n - 1) c5≠.slice none 0 0/\Below w.heap.size w w5):=⟨o5.mono (by simp),n5,BA.out.trans (b5.mono BA.out.size)⟩
  clear o5 n5 b5
  go_wp2
  go_ret
  exact ⟨_,_,rfl,F5.out⟩
open Go.Sort
structure Ev3 (w:World) (N:Nat):Prop where
 c0:∃ v,w.cell? ⟨N,0,none⟩=some v
 c1:∃ v,w.cell? ⟨N,1,none⟩=some v
 c2:∃ v,w.cell? ⟨N,2,none⟩=some v
 fr:∀ j,w.frozen? ⟨N,j,none⟩=false
theorem Ev3.below {w w':World} {N:Nat} (h:Ev3 w N) (hb:Below w.heap.size w w'):Ev3 w' N:=by
 obtain ⟨v,hv⟩:=h.c0
 have hN:=hb.block N (zJ w _ hv)
 obtain ⟨v1,hv1⟩:=h.c1
 obtain ⟨v2,hv2⟩:=h.c2
 exact ⟨⟨v,(zH hN).trans hv⟩,⟨v1,(zH hN).trans hv1⟩,⟨v2,(zH hN).trans hv2⟩,fun j=>(zI hN).trans (h.fr j)⟩
theorem qdp (x:SysIn) (a b:Nat) (w:World) (ha:a<4) (hb:b<4) (hp:x.pn<=4):
  Calls Tryz.prog 171 #[x.v,.int .i64 a,.int .i64 b] w fun e w'=>e=.returned (.int .i64 (a*x.pn+b:Nat))/\Below w.heap.size w w':=by
 have hm0:0<=(a:Int)*(x.pn:Int):=Int.mul_nonneg (by omega) (by omega)
 have hm1:(a:Int)*(x.pn:Int)<=16:=by
  have:=Int.mul_le_mul (show (a:Int)<=4 by omega) (show (x.pn:Int)<=4 by omega) (by omega) (by omega)
  omega
 have hJ:Hid (((a*x.pn+b:Nat):Int)=(a:Int)*(x.pn:Int)+(b:Int)):=by
  show ((a*x.pn+b:Nat):Int)=(a:Int)*(x.pn:Int)+(b:Int)
  rw [Int.natCast_add,Int.natCast_mul]
 have hb':(b:Int)<=4:=by omega
 go_enter Tryz.func171,Tryz.ntmps171
 go_wp2
 go_ret
 rw [hJ.out]
 exact ⟨rfl,by go_grown⟩
theorem qem (x:SysIn) (p:Nat) (w:World) (hG:SysG w x) (hp:p<x.hn):
  Calls Tryz.prog 167 #[x.v,.int .i64 p] w fun e w'=>e=.returned (.agg #[.slice (x.hA p) (x.hL p) (x.hC p),.int .i64 200])/\Below w.heap.size w w':=by
 have hp':(p:Int)<(x.hn:Int):=by omega
 obtain ⟨bh,oh,eh,ch⟩:=hG.h.at hp
 have zb:bh<w.heap.size:=zJ w _ ch
 have ch':∀ o1 o2,((w.alloc o1).alloc o2).cell? ⟨bh,oh+p,none⟩=some (.slice (x.hA p) (x.hL p) (x.hC p)):=fun o1 o2=>(World.cell?_alloc_lt _ _ _ (by simp;omega)).trans ((World.cell?_alloc_lt _ _ _ zb).trans ch)
 rw [show x.v=sysV x.pa x.pn x.pc x.sa x.sn x.sc x.wa x.wn x.wc x.ha x.hn x.hc from rfl,eh]
 clear hG eh ch
 go_enter Tryz.func167,Tryz.ntmps167
 go_wp2
 exact bodyPost_ret (v:=.agg #[.slice (x.hA p) (x.hL p) (x.hC p),.int .i64 200]) (by simp [results,Tryz.results167,go_sem]) rfl ⟨rfl,by go_grown⟩
theorem qc8 (x:SysIn) (a b:Nat) (w:World) (hG:SysG w x) (ha:a<4) (hb:b<4) (hp:x.pn<=4) (hJ:a*x.pn+b<x.wn):
  Calls Tryz.prog 169 #[x.v,.int .i64 a,.int .i64 b] w fun e w'=>e=.returned (.agg #[.slice (x.wA (a*x.pn+b)) (x.wL (a*x.pn+b)) (x.wC (a*x.pn+b)),.int .i64 12])/\Below w.heap.size w w':=by
 obtain ⟨bh,oh,eh,ch⟩:=hG.w.at hJ
 have HW:Hid (∀ wx,Calls Tryz.prog 171 #[sysV x.pa x.pn x.pc x.sa x.sn x.sc (some ⟨bh,oh,none⟩) x.wn x.wc x.ha x.hn x.hc,.int .i64 a,.int .i64 b] wx fun e w'=>e=.returned (.int .i64 (a*x.pn+b:Nat))/\Below wx.heap.size wx w'):=fun wx=>by
  have:=qdp x a b wx ha hb hp
  rw [show x.v=sysV x.pa x.pn x.pc x.sa x.sn x.sc x.wa x.wn x.wc x.ha x.hn x.hc from rfl,eh] at this
  exact this
 rw [show x.v=sysV x.pa x.pn x.pc x.sa x.sn x.sc x.wa x.wn x.wc x.ha x.hn x.hc from rfl,eh]
 generalize a*x.pn+b=J at *
 have hJ':(J:Int)<(x.wn:Int):=by omega
 have BW:Hid (Below w.heap.size w ((w.alloc (oQ4 x.pa x.pn x.pc x.sa x.sn x.sc (some ⟨bh,oh,none⟩) x.wn x.wc x.ha x.hn x.hc)).alloc (.cells #[.slice none 0 0,.int .i64 0] 204))):=(zT _ _).trans ((zT _ _).mono (by simp))
 have BX:Hid (BoxC ((w.alloc (oQ4 x.pa x.pn x.pc x.sa x.sn x.sc (some ⟨bh,oh,none⟩) x.wn x.wc x.ha x.hn x.hc)).alloc (.cells #[.slice none 0 0,.int .i64 0] 204)) w.heap.size (.slice x.pa x.pn x.pc) (.slice x.sa x.sn x.sc) (.slice (some ⟨bh,oh,none⟩) x.wn x.wc) (.slice x.ha x.hn x.hc)):=(BoxC.new w _ _ _ _ _).below (zT _ _)
 have RX:Hid (((w.alloc (oQ4 x.pa x.pn x.pc x.sa x.sn x.sc (some ⟨bh,oh,none⟩) x.wn x.wc x.ha x.hn x.hc)).alloc (.cells #[.slice none 0 0,.int .i64 0] 204)).cell? ⟨w.heap.size+1,0,none⟩=some (.slice none 0 0)/\((w.alloc (oQ4 x.pa x.pn x.pc x.sa x.sn x.sc (some ⟨bh,oh,none⟩) x.wn x.wc x.ha x.hn x.hc)).alloc (.cells #[.slice none 0 0,.int .i64 0] 204)).cell? ⟨w.heap.size+1,1,none⟩=some (.int .i64 0)/\∀ j,((w.alloc (oQ4 x.pa x.pn x.pc x.sa x.sn x.sc (some ⟨bh,oh,none⟩) x.wn x.wc x.ha x.hn x.hc)).alloc (.cells #[.slice none 0 0,.int .i64 0] 204)).frozen? ⟨w.heap.size+1,j,none⟩=false):=⟨zW _ _ _ 0 (by simp),zW _ _ _ 1 (by simp),fun j=>yB _ _ _ _ (by simp)⟩
 have HCh:Hid (w.cell? ⟨bh,oh+J,none⟩=some (.slice (x.wA J) (x.wL J) (x.wC J))):=ch
 have dN:¬ w.heap.size+1=bh:=by have:=zJ w _ ch;simp at this;omega
 clear hG eh ch
 go_enter Tryz.func169,Tryz.ntmps169
 go_wp2_with fail
 generalize ((w.alloc (oQ4 x.pa x.pn x.pc x.sa x.sn x.sc (some ⟨bh,oh,none⟩) x.wn x.wc x.ha x.hn x.hc)).alloc (.cells #[.slice none 0 0,.int .i64 0] 204))=W2 at *
 have HC2:Hid (W2.cell? ⟨bh,oh+J,none⟩=some (.slice (x.wA J) (x.wL J) (x.wC J))):=(BW.out.cell (p:=⟨bh,oh+J,none⟩) (zJ w _ HCh.out)).trans HCh.out
 obtain ⟨k0,k1,k2,k3⟩:=BX.out
 go_region_law (refine qcx rfl 171 _ _ rfl #[sysV x.pa x.pn x.pc x.sa x.sn x.sc (some ⟨bh,oh,none⟩) x.wn x.wc x.ha x.hn x.hc,.int .i64 a,.int .i64 b] (by simp [Act.eval,sysV]) (yA Tryz.func171 (by kernel_rfl) rfl) (HW.out W2.drew) ?_;rintro e w1 ⟨rfl,b1⟩;refine ⟨_,rfl,?_⟩;have q1:Below W2.heap.size W2 w1:=(Below.refl W2.heap.size W2).drew.trans b1;have c1:=(q1.cell (p:=⟨bh,oh+J,none⟩) (zJ W2 _ HC2.out)).trans HC2.out;obtain ⟨m0,m1,m2,m3⟩:=BX.out.below q1;have r0:=(q1.cell (p:=⟨w.heap.size+1,0,none⟩) (zJ W2 _ RX.out.1)).trans RX.out.1;have r1:=(q1.cell (p:=⟨w.heap.size+1,1,none⟩) (zJ W2 _ RX.out.2.1)).trans RX.out.2.1;have f1:∀ j,w1.frozen? ⟨w.heap.size+1,j,none⟩=false:=fun j=>(zI (q1.block (w.heap.size+1) (zJ W2 ⟨w.heap.size+1,0,none⟩ RX.out.1))).trans (RX.out.2.2 j);have Q1:Hid (Below w.heap.size w w1):=BW.out.trans (q1.mono BW.out.size);clear b1 q1)
 all_goals
  go_wp2
  refine bodyPost_ret (v:=.agg #[.slice (x.wA J) (x.wL J) (x.wC J),.int .i64 12]) (by simp [results,Tryz.results169,go_sem,r0,r1]) rfl ⟨rfl,?_⟩
  exact (Q1.out.setCell (Nat.le_succ _) _).setCell (Nat.le_succ _) _
theorem qh0 (a:Option Addr) (n c:Nat) (L:Int) (w:World):
  Calls Tryz.prog 207 #[.agg #[.slice a n c,.int .i64 L]] w fun e w'=>e=.returned (.bool (decide (L<=(n:Int))))/\Below w.heap.size w w':=by
 go_enter Tryz.func207,Tryz.ntmps207
 go_wp2
 go_ret
 exact ⟨rfl,by go_grown⟩
theorem qiu (a:Option Addr) (n c:Nat) (L:Int) (w:World):
  Calls Tryz.prog 208 #[.agg #[.slice a n c,.int .i64 L]] w fun e w'=>e=.returned (.bool (decide (L<=(n:Int))))/\Below w.heap.size w w':=by
 go_enter Tryz.func208,Tryz.ntmps208
 go_wp2
 go_ret
 exact ⟨rfl,by go_grown⟩
theorem qs2 (a:Option Addr) (n c:Nat) (L:Int) (h:Nat->I2) (w:World) (hn:n<=1048576) (hI:ItL w a n h):
  Calls Tryz.prog 206 #[.agg #[.slice a n c,.int .i64 L]] w fun e w'=>e=.returned (.tuple #[if n=0 then itV false 0 else itV (h 0).m (h 0).v,.bool (decide (n≠0))])/\Below w.heap.size w w':=by
 by_cases h0:n=0
 ·subst h0
  rw [if_pos rfl]
  go_enter Tryz.func206,Tryz.ntmps206
  go_wp2
  exact bodyPost_ret (v:=.tuple #[itV false 0,.bool false]) (by simp [results,Tryz.results206,go_sem]) rfl ⟨by simp,by go_grown⟩
 ·obtain ⟨b,off,rfl,zb,c0,c1⟩:=hI.at (k:=0) (by omega)
  have hne:((n:Int) == 0)=false:=by
   have:¬ (n:Int)=0:=by omega
   simpa using this
  have hpos:(0:Int)<(n:Int):=by omega
  rw [if_neg h0]
  have c0':∀ o1 o2,((w.alloc o1).alloc o2).cell? ⟨b,off,none⟩=some (.bool (h 0).m):=fun o1 o2=>(World.cell?_alloc_lt _ _ _ (by simp;omega)).trans ((World.cell?_alloc_lt _ _ _ zb).trans (by simpa using c0))
  have c1':∀ o1 o2,((w.alloc o1).alloc o2).cell? ⟨b,off+1,none⟩=some (.int .i64 (h 0).v):=fun o1 o2=>(World.cell?_alloc_lt _ _ _ (by simp;omega)).trans ((World.cell?_alloc_lt _ _ _ zb).trans (by simpa using c1))
  have hd:decide (n≠0)=true:=decide_eq_true h0
  rw [hd]
  clear hI c0 c1 hd
  go_enter Tryz.func206,Tryz.ntmps206
  go_wp2
  exact bodyPost_ret (v:=.tuple #[itV (h 0).m (h 0).v,.bool true]) (by simp [results,Tryz.results206,go_sem]) rfl ⟨rfl,by go_grown⟩
theorem qsb (k q v peer:Int) (w:World):
  Calls Tryz.prog 164 #[evV k q v,.int .i64 peer] w fun e w'=>e=.returned (.int .i64 (if q=9 then peer else q))/\Below w.heap.size w w':=by
 rcases zK (q == 9) with t | t
 ·have t':q=9:=by simpa using t
  rw [if_pos t']
  clear t'
  go_enter Tryz.func164,Tryz.ntmps164
  go_wp2
  go_ret
  exact ⟨rfl,by go_grown⟩
 ·have t':¬ q=9:=by simpa using t
  rw [if_neg t']
  clear t'
  go_enter Tryz.func164,Tryz.ntmps164
  go_wp2
  go_ret
  exact ⟨rfl,by go_grown⟩
def tkC (x:SysIn) (p:Nat) (f:Int):Int:=if belB f x.pn=true then (if x.wL (f.toNat*x.pn+p)=0 then 3 else if (x.wH (f.toNat*x.pn+p) 0).m=true then 5 else 0) else 2
def tkV (x:SysIn) (p:Nat) (f:Int):Value:=if tkC x p f=0 then evV 3 f (x.wH (f.toNat*x.pn+p) 0).v else evV 0 0 0
theorem qso (x:SysIn) (p:Nat) (f:Int) (w:World) (hG:SysG w x) (hL:x.Len) (hp:p<x.pn) (h4:x.pn<=4) (hw:x.wn=x.pn*x.pn):
  Calls Tryz.prog 163 #[x.v,.int .i64 p,.int .i64 f] w fun e w'=>e=.returned (.tuple #[tkV x p f,.int .i64 (tkC x p f)])/\Below w.heap.size w w':=by
 have HG:Hid (SysG w x):=hG
 rcases zK (belB f x.pn) with t1 | t1
 case inr=>
  have HN:Hid (tkC x p f=2/\tkV x p f=evV 0 0 0):=by
   have:tkC x p f=2:=by simp [tkC,t1]
   exact ⟨this,by simp [tkV,this]⟩
  rw [HN.out.1,HN.out.2]
  go_enter Tryz.func163,Tryz.ntmps163
  go_wp2_with fail
  refine (isBelow_any _ _ _).mono ?_
  rintro e w1 ⟨rfl,rfl⟩
  rw [t1]
  go_wp2
  exact bodyPost_ret (v:=.tuple #[evV 0 0 0,.int .i64 2]) (by simp [results,Tryz.results163,go_sem]) rfl ⟨rfl,by go_grown⟩
 obtain ⟨q,rfl,hq⟩:∃ q:Nat,f=(q:Int)/\q<x.pn:=by
  simp only [belB,decide_eq_true_eq] at t1
  exact ⟨f.toNat,by omega,by omega⟩
 have hJ:q*x.pn+p<x.wn:=by
  rw [hw]
  have:(q+1)*x.pn<=x.pn*x.pn:=Nat.mul_le_mul_right _ (by omega)
  rw [Nat.add_mul] at this
  omega
 have HI:Hid (ItL w (x.wA (q*x.pn+p)) (x.wL (q*x.pn+p)) (x.wH (q*x.pn+p))/\x.wL (q*x.pn+p)<=1048576):=⟨hG.wi _ hJ,hL.w.2 _ hJ⟩
 have HWq:Hid (∀ wx,Below w.heap.size w wx->Calls Tryz.prog 169 #[x.v,.int .i64 q,.int .i64 p] wx fun e w'=>e=.returned (.agg #[.slice (x.wA (q*x.pn+p)) (x.wL (q*x.pn+p)) (x.wC (q*x.pn+p)),.int .i64 12])/\Below wx.heap.size wx w'):=fun wx hb=>qc8 x q p wx (HG.out.below hb) (by omega) (by omega) h4 hJ
 have HT:Hid (tkC x p q=(if x.wL (q*x.pn+p)=0 then 3 else if (x.wH (q*x.pn+p) 0).m=true then 5 else 0)/\tkV x p q=if tkC x p q=0 then evV 3 q (x.wH (q*x.pn+p) 0).v else evV 0 0 0):=by
  refine ⟨?_,rfl⟩
  show tkC x p q=_
  unfold tkC
  rw [if_pos t1]
  rfl
 generalize tkV x p q=V at *
 generalize tkC x p q=C at *
 generalize q*x.pn+p=J at *
 have BW:Hid (Below w.heap.size w ((w.alloc (oQ4 x.pa x.pn x.pc x.sa x.sn x.sc x.wa x.wn x.wc x.ha x.hn x.hc)).alloc (zQ4))):=(zT _ _).trans ((zT _ _).mono (by simp))
 have RX:Hid (Ev3 ((w.alloc (oQ4 x.pa x.pn x.pc x.sa x.sn x.sc x.wa x.wn x.wc x.ha x.hn x.hc)).alloc (zQ4)) (w.heap.size+1)):=⟨⟨_,zW _ _ _ 0 (by simp)⟩,⟨_,zW _ _ _ 1 (by simp)⟩,⟨_,zW _ _ _ 2 (by simp)⟩,fun j=>yB _ _ _ _ (by simp)⟩
 clear hG hL hw hJ
 go_enter Tryz.func163,Tryz.ntmps163
 go_wp2_with fail
 refine (isBelow_any _ _ _).mono ?_
 rintro e w1 ⟨rfl,rfl⟩
 rw [t1]
 go_wp2_with fail
 generalize (w.alloc (oQ4 x.pa x.pn x.pc x.sa x.sn x.sc x.wa x.wn x.wc x.ha x.hn x.hc)).alloc (zQ4)=W2 at *
 refine (HWq.out W2 BW.out).mono ?_
 rintro e w3 ⟨rfl,b3⟩
 have B3:Hid (Below w.heap.size w w3/\Ev3 w3 (w.heap.size+1)):=⟨BW.out.trans (b3.mono BW.out.size),RX.out.below b3⟩
 clear b3
 go_wp2_with fail
 refine (qs2 (x.wA J) (x.wL J) _ 12 (x.wH J) w3 HI.out.2 (HI.out.1.below B3.out.1)).mono ?_
 rintro e w4 ⟨rfl,b4⟩
 have B4:Hid (Below w.heap.size w w4/\Ev3 w4 (w.heap.size+1)):=⟨B3.out.1.trans (b4.mono B3.out.1.size),B3.out.2.below b4⟩
 clear b4 B3
 obtain ⟨⟨v0,r0⟩,⟨v1,r1⟩,⟨v2,r2⟩,rf⟩:=B4.out.2
 have hS:∀ (a b c:Value),Below w.heap.size w (((w4.setCell ⟨w.heap.size+1,0,none⟩ a).setCell ⟨w.heap.size+1,1,none⟩ b).setCell ⟨w.heap.size+1,2,none⟩ c):=fun a b c=>((B4.out.1.setCell (Nat.le_succ _) _).setCell (Nat.le_succ _) _).setCell (Nat.le_succ _) _
 have HS:Hid (∀ (o:Obj) (a b c:Value),Below w.heap.size w ((((w4.setCell ⟨w.heap.size+1,0,none⟩ a).setCell ⟨w.heap.size+1,1,none⟩ b).setCell ⟨w.heap.size+1,2,none⟩ c).alloc o)):=fun o a b c=>(hS a b c).trans ((zT _ _).mono (hS a b c).size)
 have z4:w.heap.size+1<w4.heap.size:=zJ w4 _ r0
 clear hS
 by_cases h0:x.wL J=0
 ·have HV:Hid (C=3/\V=evV 0 0 0):=by
   have h1:C=3:=by rw [HT.out.1,if_pos h0]
   exact ⟨h1,by rw [HT.out.2,if_neg (by rw [h1];decide)]⟩
  rw [if_pos h0,show decide (x.wL J≠0)=false from decide_eq_false (by omega)]
  clear h0
  go_wp2
  exact bodyPost_ret (v:=.tuple #[evV 0 0 0,.int .i64 3]) (by simp [results,Tryz.results163,go_sem,r0,r1,r2,z4]) rfl ⟨by rw [HV.out.1,HV.out.2],HS.out _ _ _ _⟩
 rw [if_neg h0,show decide (x.wL J≠0)=true from decide_eq_true h0]
 rcases zK (x.wH J 0).m with hm | hm
 ·have HV:Hid (C=5/\V=evV 0 0 0):=by
   have h1:C=5:=by rw [HT.out.1,if_neg h0,if_pos hm]
   exact ⟨h1,by rw [HT.out.2,if_neg (by rw [h1];decide)]⟩
  rw [hm]
  clear h0
  go_wp2
  exact bodyPost_ret (v:=.tuple #[evV 0 0 0,.int .i64 5]) (by simp [results,Tryz.results163,go_sem,r0,r1,r2,z4]) rfl ⟨by rw [HV.out.1,HV.out.2],HS.out _ _ _ _⟩
 ·have HV:Hid (C=0/\V=evV 3 q (x.wH J 0).v):=by
   have h1:C=0:=by rw [HT.out.1,if_neg h0,if_neg (by rw [hm];decide)]
   exact ⟨h1,by rw [HT.out.2,if_pos h1]⟩
  rw [hm]
  clear h0
  go_wp2
  exact bodyPost_ret (v:=.tuple #[evV 3 q (x.wH J 0).v,.int .i64 0]) (by simp [results,Tryz.results163,go_sem,r0,r1,r2,z4]) rfl ⟨by rw [HV.out.1,HV.out.2],HS.out _ _ _ _⟩
def fuB (x:SysIn) (p:Nat) (k q:Int):Bool:=decide (200<=x.hL p) || (k == 2 && decide (12<=x.wL (p*x.pn+q.toNat)))
theorem qkc (x:SysIn) (p:Nat) (k q v:Int) (w:World) (hG:SysG w x) (hp:p<x.pn) (h4:x.pn<=4) (hh:x.hn=x.pn) (hw:x.wn=x.pn*x.pn) (hq:k=2->0<=q/\q<x.pn):
  Calls Tryz.prog 165 #[x.v,.int .i64 p,evV k q v] w fun e w'=>e=.returned (.bool (fuB x p k q))/\Below w.heap.size w w':=by
 have HG:Hid (SysG w x):=hG
 have HEq:Hid (∀ wx,Below w.heap.size w wx->Calls Tryz.prog 167 #[x.v,.int .i64 p] wx fun e w'=>e=.returned (.agg #[.slice (x.hA p) (x.hL p) (x.hC p),.int .i64 200])/\Below wx.heap.size wx w'):=fun wx hb=>qem x p wx (HG.out.below hb) (by omega)
 have NB:Hid (BoxC ((w.alloc (oQ4 x.pa x.pn x.pc x.sa x.sn x.sc x.wa x.wn x.wc x.ha x.hn x.hc)).alloc (oQ0 k q v)) w.heap.size (.slice x.pa x.pn x.pc) (.slice x.sa x.sn x.sc) (.slice x.wa x.wn x.wc) (.slice x.ha x.hn x.hc)):=(BoxC.new w _ _ _ _ _).below (zT _ _)
 have NE:Hid (((w.alloc (oQ4 x.pa x.pn x.pc x.sa x.sn x.sc x.wa x.wn x.wc x.ha x.hn x.hc)).alloc (oQ0 k q v)).cell? ⟨w.heap.size+1,0,none⟩=some (.int .i64 k)/\((w.alloc (oQ4 x.pa x.pn x.pc x.sa x.sn x.sc x.wa x.wn x.wc x.ha x.hn x.hc)).alloc (oQ0 k q v)).cell? ⟨w.heap.size+1,1,none⟩=some (.int .i64 q)):=⟨zW _ _ _ 0 (by simp),zW _ _ _ 1 (by simp)⟩
 have BW:Hid (Below w.heap.size w ((w.alloc (oQ4 x.pa x.pn x.pc x.sa x.sn x.sc x.wa x.wn x.wc x.ha x.hn x.hc)).alloc (oQ0 k q v))):=(zT _ _).trans ((zT _ _).mono (by simp))
 have HW2:Hid (x.wn=x.pn*x.pn):=hw
 clear hG hh hw
 go_enter Tryz.func165,Tryz.ntmps165
 go_wp2_with fail
 generalize (w.alloc (oQ4 x.pa x.pn x.pc x.sa x.sn x.sc x.wa x.wn x.wc x.ha x.hn x.hc)).alloc (oQ0 k q v)=W2 at *
 refine (HEq.out W2 BW.out).mono ?_
 rintro e w3 ⟨rfl,b3⟩
 have F3:Hid (Below w.heap.size w w3/\Below W2.heap.size W2 w3):=⟨BW.out.trans (b3.mono BW.out.size),b3⟩
 clear b3
 go_wp2_with fail
 refine (qh0 _ _ _ _ w3).mono ?_
 rintro e w4 ⟨rfl,b4⟩
 have F4:Hid (Below w.heap.size w w4/\Below W2.heap.size W2 w4):=⟨F3.out.1.trans (b4.mono F3.out.1.size),F3.out.2.trans (b4.mono F3.out.2.size)⟩
 clear b4 F3
 by_cases h200:(200:Int)<=(x.hL p:Int)
 ·have HN:Hid (fuB x p k q=true):=by
   show fuB x p k q=true
   simp [fuB,show 200<=x.hL p by omega]
  rw [decide_eq_true h200]
  clear h200
  go_wp2
  go_ret
  rw [HN.out]
  exact ⟨rfl,F4.out.1⟩
 rw [decide_eq_false h200]
 have HN0:Hid (fuB x p k q=(k == 2 && decide (12<=x.wL (p*x.pn+q.toNat)))):=by
  show fuB x p k q=_
  simp [fuB,show ¬ 200<=x.hL p by omega]
 have e0:=(F4.out.2.cell (p:=⟨w.heap.size+1,0,none⟩) (zJ W2 _ NE.out.1)).trans NE.out.1
 have e1:=(F4.out.2.cell (p:=⟨w.heap.size+1,1,none⟩) (zJ W2 _ NE.out.2)).trans NE.out.2
 clear h200
 rcases zK (k == 2) with t2 | t2
 ·have hk2:k=2:=by simpa using t2
  obtain ⟨j,rfl,hj⟩:∃ j:Nat,q=(j:Int)/\j<x.pn:=by
   have:=hq hk2
   exact ⟨q.toNat,by omega,by omega⟩
  have hJ:p*x.pn+j<x.wn:=by
   rw [HW2.out]
   have:(p+1)*x.pn<=x.pn*x.pn:=Nat.mul_le_mul_right _ (by omega)
   rw [Nat.add_mul] at this
   omega
  have HWq:Hid (∀ wx,Below w.heap.size w wx->Calls Tryz.prog 169 #[x.v,.int .i64 p,.int .i64 j] wx fun e w'=>e=.returned (.agg #[.slice (x.wA (p*x.pn+j)) (x.wL (p*x.pn+j)) (x.wC (p*x.pn+j)),.int .i64 12])/\Below wx.heap.size wx w'):=fun wx hb=>qc8 x p j wx (HG.out.below hb) (by omega) (by omega) h4 hJ
  have HN:Hid (fuB x p k j=decide ((12:Int)<=(x.wL (p*x.pn+j):Int))):=by
   show fuB x p k j=_
   rw [HN0.out,t2,Bool.true_and]
   have:(j:Int).toNat=j:=by omega
   rw [this]
   by_cases h:12<=x.wL (p*x.pn+j)
   ·rw [decide_eq_true h,decide_eq_true (by omega)]
   ·rw [decide_eq_false h,decide_eq_false (by omega)]
  rw [hk2] at e0
  generalize p*x.pn+j=J at *
  obtain ⟨k0,k1,k2,k3⟩:=NB.out.below F4.out.2
  clear hk2 t2 HN0 hq
  go_wp2_with fail
  refine (HWq.out w4 F4.out.1).mono ?_
  rintro e w5 ⟨rfl,b5⟩
  have F5:Hid (Below w.heap.size w w5):=F4.out.1.trans (b5.mono F4.out.1.size)
  clear b5 k0 k1 k2 k3 e0 e1
  go_wp2_with fail
  refine (qiu _ _ _ _ w5).mono ?_
  rintro e w6 ⟨rfl,b6⟩
  have F6:Hid (Below w.heap.size w w6):=F5.out.trans (b6.mono F5.out.size)
  clear b6
  go_wp2
  go_ret
  rw [HN.out]
  exact ⟨rfl,F6.out⟩
 ·have HN:Hid (fuB x p k q=false):=by
   show fuB x p k q=false
   rw [HN0.out,t2,Bool.false_and]
  clear HN0 hq
  go_wp2
  go_ret
  rw [HN.out]
  exact ⟨rfl,F4.out.1⟩
theorem EvK.putN {w:World} {M N:Nat} {k q v:Int} (h:EvK w M k q v) (hN:N≠M) (a b c:Value):EvK (((w.setCell ⟨N,0,none⟩ a).setCell ⟨N,1,none⟩ b).setCell ⟨N,2,none⟩ c) M k q v:=by
 obtain ⟨h0,h1,h2,hf⟩:=h
 exact ⟨by go_cell,by go_cell,by go_cell,fun j=>by simpa using hf j⟩
theorem BoxC.put3N {w:World} {M N:Nat} {p q r s:Value} (h:BoxC w M p q r s) (hN:N≠M) (a b c:Value):BoxC (((w.setCell ⟨N,0,none⟩ a).setCell ⟨N,1,none⟩ b).setCell ⟨N,2,none⟩ c) M p q r s:=by
 obtain ⟨h0,h1,h2,h3⟩:=h
 exact ⟨by go_cell,by go_cell,by go_cell,by go_cell⟩
def SysIn.nk (x:SysIn) (p:Nat):Int:=nxK (x.pH p) (x.pL p) (x.sQ p).p (x.sQ p).rs (x.sQ p).os (x.sQ p).c
def SysIn.nq (x:SysIn) (p:Nat):Int:=nxP (x.pH p) (x.pL p) (x.sQ p).p (x.sQ p).rs (x.sQ p).os (x.sQ p).c
def SysIn.nv (x:SysIn) (p:Nat):Int:=nxW (x.pH p) (x.pL p) (x.sQ p).p (x.sQ p).rs (x.sQ p).os (x.sQ p).c
def cmC (x:SysIn) (p:Nat) (f:Int):Int:=if (x.sQ p).c≠0 then 6 else if fuB x p (x.nk p) (x.nq p)=true then 4 else if x.nk p=3 then tkC x p (if x.nq p=9 then f else x.nq p) else 0
def cmV (x:SysIn) (p:Nat) (f:Int):Value:=if cmC x p f=0 then (if x.nk p=3 then tkV x p (if x.nq p=9 then f else x.nq p) else evV (x.nk p) (x.nq p) (x.nv p)) else evV 0 0 0
theorem qys (x:SysIn) (p:Nat) (g:Int):∃ k q v:Int,tkV x p g=evV k q v/\k≠2/\(tkC x p g≠0->evV k q v=evV 0 0 0):=by
 unfold tkV
 by_cases h:tkC x p g=0
 ·rw [if_pos h]
  exact ⟨3,g,_,rfl,by decide,fun hn=>absurd h hn⟩
 ·rw [if_neg h]
  exact ⟨0,0,0,rfl,by decide,fun _=>rfl⟩
theorem qwt {x:SysIn} {p:Nat} {k q k' q':Int} (h:k≠2) (h':k'≠2):fuB x p k q=fuB x p k' q':=by
 have e:(k == 2)=false:=by simpa using h
 have e':(k' == 2)=false:=by simpa using h'
 rw [fuB,fuB,e,e',Bool.false_and,Bool.false_and]
theorem ql3 (x:SysIn) (p f:Int) (w:World) (t1:belB p x.pn=false):
  Calls Tryz.prog 100 #[x.v,.int .i64 p,.int .i64 f] w fun e w'=>e=.returned (.tuple #[evV 0 0 0,.int .i64 2])/\Below w.heap.size w w':=by
 go_enter Tryz.func100,Tryz.ntmps100
 go_wp2_with fail
 refine (isBelow_any _ _ _).mono ?_
 rintro e w1 ⟨rfl,rfl⟩
 rw [t1]
 go_wp2
 exact bodyPost_ret (v:=.tuple #[evV 0 0 0,.int .i64 2]) (by simp [results,Tryz.results100,go_sem]) rfl ⟨rfl,by go_grown⟩
theorem ql2 (x:SysIn) (p:Nat) (f:Int) (w:World) (hG:SysG w x) (hL:x.Len) (hp:p<x.pn) (h4:x.pn<=4) (hs:x.sn=x.pn) (hh:x.hn=x.pn) (hw:x.wn=x.pn*x.pn) (hP:qab (x.pH p) (x.pL p) 4=true) (hq:x.nk p=2->0<=x.nq p/\x.nq p<x.pn):
  Calls Tryz.prog 100 #[x.v,.int .i64 p,.int .i64 f] w fun e w'=>e=.returned (.tuple #[cmV x p f,.int .i64 (cmC x p f)])/\Below w.heap.size w w':=by
 have HG:Hid (SysG w x):=hG
 have t1:belB (p:Int) x.pn=true:=by
  simp only [belB,decide_eq_true_eq]
  omega
 have hp':(p:Int)<(x.pn:Int):=by omega
 have hps:(p:Int)<(x.sn:Int):=by omega
 have HM:Hid (x.pL p<=maxLen/\(x.sQ p).os.length<=1048576):=⟨by have:=hL.p.2 p hp;unfold maxLen;omega,(hL.s.2 p (by omega)).2⟩
 have HT:Hid (∀ (g:Int) (wx:World),Below w.heap.size w wx->Calls Tryz.prog 163 #[x.v,.int .i64 p,.int .i64 g] wx fun e w'=>e=.returned (.tuple #[tkV x p g,.int .i64 (tkC x p g)])/\Below wx.heap.size wx w'):=fun g wx hb=>qso x p g wx (HG.out.below hb) hL hp h4 hw
 have HF:Hid (∀ (k q v:Int) (wx:World),(k=2->0<=q/\q<x.pn)->Below w.heap.size w wx->Calls Tryz.prog 165 #[x.v,.int .i64 p,evV k q v] wx fun e w'=>e=.returned (.bool (fuB x p k q))/\Below wx.heap.size wx w'):=fun k q v wx hk hb=>qkc x p k q v wx (HG.out.below hb) hp h4 hh hw hk
 have HP:Hid (qab (x.pH p) (x.pL p) 4=true):=hP
 have HQ:Hid (x.nk p=2->0<=x.nq p/\x.nq p<x.pn):=hq
 have HC:Hid (cmC x p f=(if (x.sQ p).c≠0 then 6 else if fuB x p (x.nk p) (x.nq p)=true then 4 else if x.nk p=3 then tkC x p (if x.nq p=9 then f else x.nq p) else 0)/\cmV x p f=if cmC x p f=0 then (if x.nk p=3 then tkV x p (if x.nq p=9 then f else x.nq p) else evV (x.nk p) (x.nq p) (x.nv p)) else evV 0 0 0):=⟨rfl,rfl⟩
 generalize cmV x p f=V at *
 generalize cmC x p f=C at *
 have BW:Hid (Below w.heap.size w ((w.alloc (oQ4 x.pa x.pn x.pc x.sa x.sn x.sc x.wa x.wn x.wc x.ha x.hn x.hc)).alloc (zQ4))):=(zT _ _).trans ((zT _ _).mono (by simp))
 have RX:Hid (EvK ((w.alloc (oQ4 x.pa x.pn x.pc x.sa x.sn x.sc x.wa x.wn x.wc x.ha x.hn x.hc)).alloc (zQ4)) (w.heap.size+1) 0 0 0):=⟨zW _ _ _ 0 (by simp),zW _ _ _ 1 (by simp),zW _ _ _ 2 (by simp),fun j=>yB _ _ _ _ (by simp)⟩
 have NB:Hid (BoxC ((w.alloc (oQ4 x.pa x.pn x.pc x.sa x.sn x.sc x.wa x.wn x.wc x.ha x.hn x.hc)).alloc (zQ4)) w.heap.size (.slice x.pa x.pn x.pc) (.slice x.sa x.sn x.sc) (.slice x.wa x.wn x.wc) (.slice x.ha x.hn x.hc)):=(BoxC.new w _ _ _ _ _).below (zT _ _)
 have hsp:p<x.sn:=by omega
 clear hG hL hw hh hs hP hq
 go_enter Tryz.func100,Tryz.ntmps100
 go_wp2_with fail
 refine (isBelow_any _ _ _).mono ?_
 rintro e w1 ⟨rfl,rfl⟩
 rw [t1]
 generalize (w.alloc (oQ4 x.pa x.pn x.pc x.sa x.sn x.sc x.wa x.wn x.wc x.ha x.hn x.hc)).alloc (zQ4)=W2 at *
 obtain ⟨bp,op,ep,cp⟩:=(HG.out.below BW.out).p.at hp
 obtain ⟨b',eb',hbl,hI⟩:=(HG.out.below BW.out).pi p hp
 obtain ⟨bs,os,es,s0,s1,s2,s3⟩:=(HG.out.below BW.out).s.at hsp
 obtain ⟨l1,l2⟩:=(HG.out.below BW.out).s.lst p hsp
 obtain ⟨b0,b1,b2,b3⟩:=NB.out
 rw [eb'] at cp
 rw [ep] at b0
 rw [es] at b1
 have HI:Hid (∀ wx,Below W2.heap.size W2 wx->b'<wx.heap.size/\qaj wx b' 0 (x.pL p) (x.pH p)):=fun wx hb=>⟨zL hbl hb.size,hI.below hb hbl⟩
 have HS:Hid (Sl W2 (x.sQ p).ra (x.sQ p).rs/\Sl W2 (x.sQ p).oa (x.sQ p).os):=⟨l1,l2⟩
 obtain ⟨r0,r1,r2,rf⟩:=RX.out
 have z2:w.heap.size+1<W2.heap.size:=zJ W2 _ r0
 clear hI l1 l2 ep eb' es hbl t1
 by_cases h0:(x.sQ p).c=0
 case neg=>
  have HV:Hid (C=6/\V=evV 0 0 0):=by
   have h1:C=6:=by rw [HC.out.1,if_pos h0]
   exact ⟨h1,by rw [HC.out.2,if_neg (show ¬ C=0 by rw [h1];decide)]⟩
  have t0:((x.sQ p).c == 0)=false:=by simpa using h0
  go_wp2
  exact bodyPost_ret (v:=.tuple #[evV 0 0 0,.int .i64 6]) (by simp [results,Tryz.results100,go_sem,r0,r1,r2]) rfl ⟨by rw [HV.out.1,HV.out.2],((BW.out.setCell (Nat.le_succ _) _).setCell (Nat.le_succ _) _).setCell (Nat.le_succ _) _⟩
 have HC2:Hid (C=(if fuB x p (x.nk p) (x.nq p)=true then 4 else if x.nk p=3 then tkC x p (if x.nq p=9 then f else x.nq p) else 0)):=by
  show C=_
  rw [HC.out.1,if_neg (by simpa using h0)]
 rw [h0] at s3
 have HN:Hid (nxK (x.pH p) (x.pL p) (x.sQ p).p (x.sQ p).rs (x.sQ p).os 0=x.nk p/\nxP (x.pH p) (x.pL p) (x.sQ p).p (x.sQ p).rs (x.sQ p).os 0=x.nq p/\nxW (x.pH p) (x.pL p) (x.sQ p).p (x.sQ p).rs (x.sQ p).os 0=x.nv p):=by
  refine ⟨?_,?_,?_⟩ <;> simp only [SysIn.nk,SysIn.nq,SysIn.nv,h0]
 clear h0
 generalize x.nk p=K at *
 generalize x.nq p=Q at *
 generalize x.nv p=Y at *
 generalize x.sQ p=S at *
 have d1:W2.heap.size≠w.heap.size:=by omega
 have d2:W2.heap.size≠bp:=by have:=zJ W2 _ cp;simp at this;omega
 have d3:W2.heap.size≠bs:=by have:=zJ W2 _ s0;simp at this;omega
 have d4:W2.heap.size≠w.heap.size+1:=by omega
 go_wp2_with fail
 go_cut [8,9] from 25 to 35 (fun s t wx=>∃ N:Nat,s=.pointer (some ⟨N,0,none⟩)/\t=.int .i64 0/\Hid (Below W2.heap.size W2 wx/\W2.heap.size<=N/\EvK wx N K Q Y))
 case first=>
  go_region_held3 (fun w'=>w'.cell? ⟨w.heap.size,0,none⟩=some (.slice (some ⟨bp,op,none⟩) x.pn x.pc)/\w'.cell? ⟨w.heap.size,1,none⟩=some (.slice (some ⟨bs,os,none⟩) x.sn x.sc)/\w'.cell? ⟨bp,op+p,none⟩=some (.slice (some ⟨b',0,none⟩) (x.pL p) (x.pC p))/\w'.cell? ⟨bs,os+p*4,none⟩=some (.int .i64 S.p)/\w'.cell? ⟨bs,os+p*4+1,none⟩=some (.slice S.ra S.rs.length S.rc)/\w'.cell? ⟨bs,os+p*4+2,none⟩=some (.slice S.oa S.os.length S.oc)/\w'.cell? ⟨bs,os+p*4+3,none⟩=some (.int .i64 0)) (go_keep)
   (first
    | (go_at_call 162;refine (qf9 b' 0 (x.pL p) _ (x.pH p) S.p 0 S.ra S.oa S.rc S.oc S.rs S.os _ HM.out.1 (HI.out _ (by go_grown)).1 (HI.out _ (by go_grown)).2 HM.out.2 (HS.out.1.below (by go_grown)) (HS.out.2.below (by go_grown)) HP.out).mono ?_;rintro e w5 ⟨he,b5⟩;rw [HN.out.1,HN.out.2.1,HN.out.2.2] at he;subst he;have q5:Below W2.heap.size W2 w5:=qai (by go_grown) b5 (by simp);obtain ⟨hc5,hf5⟩:=qam b5;have z5:=b5.size;(try simp only [World.size_alloc,World.size_drew,Nat.add_one_le_iff] at z5);have j5:W2.heap.size<=w5.heap.size:=q5.size;have Q5:Hid (Below W2.heap.size W2 w5):=q5;have y0:=(q5.cell (p:=⟨w.heap.size,0,none⟩) (zJ W2 _ b0)).trans b0;have y1:=(q5.cell (p:=⟨w.heap.size,1,none⟩) (zJ W2 _ b1)).trans b1;have yp:=(q5.cell (p:=⟨bp,op+p,none⟩) (zJ W2 _ cp)).trans cp;have x0:=(q5.cell (p:=⟨bs,os+p*4,none⟩) (zJ W2 _ s0)).trans s0;have x1:=(q5.cell (p:=⟨bs,os+p*4+1,none⟩) (zJ W2 _ s1)).trans s1;have x2:=(q5.cell (p:=⟨bs,os+p*4+2,none⟩) (zJ W2 _ s2)).trans s2;have x3:=(q5.cell (p:=⟨bs,os+p*4+3,none⟩) (zJ W2 _ s3)).trans s3;clear b5 q5))
  all_goals
   go_wp2_with fail
   go_meet
   case rel=>
    first
    | (refine ⟨w5.heap.size, by with_reducible rfl, rfl, ?_⟩
       exact ⟨Q5.out.trans ((zT _ _).mono j5),j5,EvK.new _ _ _ _ _⟩)
    | (refine ⟨W2.heap.size, by with_reducible rfl, rfl, ?_⟩
       exact ⟨((Q5.out.setCell (Nat.le_refl _) _).setCell (Nat.le_refl _) _).setCell (Nat.le_refl _) _,Nat.le_refl _,EvK.put (k:=0) (q:=0) (v:=0) ⟨by rw [hc5 _ _ (by simp)];simp,by rw [hc5 _ _ (by simp)];simp,by rw [hc5 _ _ (by simp)];simp,fun j=>by rw [hf5 _ _ (by simp)];simp⟩ _ _ _⟩)
 case rest=>
  obtain ⟨N,rfl,rfl,HR⟩:=hcut
  clear b0 b1 b2 b3 cp s0 s1 s2 s3 d1 d2 d3 d4 HI HS HP HM hps hsp r0 r1 r2 rf
  have FB:Hid (Below w.heap.size w wc/\BoxC wc w.heap.size (.slice x.pa x.pn x.pc) (.slice x.sa x.sn x.sc) (.slice x.wa x.wn x.wc) (.slice x.ha x.hn x.hc)/\EvK wc N K Q Y/\EvK wc (w.heap.size+1) 0 0 0):=⟨BW.out.trans (HR.out.1.mono BW.out.size),NB.out.below HR.out.1,HR.out.2.2,RX.out.below HR.out.1⟩
  have hNz:w.heap.size+1<N:=zL z2 HR.out.2.1
  have hNl:w.heap.size<=N:=by omega
  have d1:N≠w.heap.size:=by omega
  have d2:N≠w.heap.size+1:=by omega
  clear HR NB RX BW z2
  rcases zK (K == 3) with t3 | t3
  case inr=>
   have h3:¬ K=3:=by simpa using t3
   have HFull:Hid (fuB x p K Q=true->C=4/\V=evV 0 0 0):=fun h=>by
    have h1:C=4:=by rw [HC2.out,if_pos h]
    exact ⟨h1,by rw [HC.out.2,if_neg (show ¬ C=0 by rw [h1];decide)]⟩
   have HFree:Hid (fuB x p K Q=false->C=0/\V=evV K Q Y):=fun h=>by
    have h1:C=0:=by rw [HC2.out,if_neg (by rw [h];decide),if_neg h3]
    exact ⟨h1,by rw [HC.out.2,if_pos h1,if_neg h3]⟩
   have HQ2:Hid (K=2->0<=Q/\Q<x.pn):=HQ.out
   clear h3 HC HC2 HQ HT
   obtain ⟨m0,m1,m2,m3⟩:=FB.out.2.1
   obtain ⟨n0,n1,n2,-⟩:=FB.out.2.2.1
   go_wp2_with fail
   refine (HF.out K Q Y wc HQ2.out FB.out.1).mono ?_
   rintro e w9 ⟨rfl,b9⟩
   have F9:Hid (Below w.heap.size w w9/\EvK w9 N K Q Y/\EvK w9 (w.heap.size+1) 0 0 0):=⟨FB.out.1.trans (b9.mono FB.out.1.size),FB.out.2.2.1.below b9,FB.out.2.2.2.below b9⟩
   clear b9 m0 m1 m2 m3 n0 n1 n2
   obtain ⟨r0,r1,r2,rf⟩:=F9.out.2.2
   obtain ⟨n0,n1,n2,-⟩:=F9.out.2.1
   have z9:w.heap.size+1<w9.heap.size:=zJ w9 _ r0
   rcases zK (fuB x p K Q) with tf | tf
   ·have HV:Hid (C=4/\V=evV 0 0 0):=HFull.out tf
    rw [tf]
    go_wp2
    exact bodyPost_ret (v:=.tuple #[evV 0 0 0,.int .i64 4]) (by simp [results,Tryz.results100,go_sem,r0,r1,r2]) rfl ⟨by rw [HV.out.1,HV.out.2],((F9.out.1.setCell (Nat.le_succ _) _).setCell (Nat.le_succ _) _).setCell (Nat.le_succ _) _⟩
   ·have HV:Hid (C=0/\V=evV K Q Y):=HFree.out tf
    rw [tf]
    go_wp2
    exact bodyPost_ret (v:=.tuple #[evV K Q Y,.int .i64 0]) (by simp [results,Tryz.results100,go_sem,r0,r1,r2]) rfl ⟨by rw [HV.out.1,HV.out.2],((F9.out.1.setCell (Nat.le_succ _) _).setCell (Nat.le_succ _) _).setCell (Nat.le_succ _) _⟩
  case inl=>
   have h3:K=3:=by simpa using t3
   subst h3
   clear t3 HQ
   have HPo:Hid (∀ (wx:World),Calls Tryz.prog 164 #[evV 3 Q Y,.int .i64 f] wx fun e w'=>e=.returned (.int .i64 (if Q=9 then f else Q))/\Below wx.heap.size wx w'):=fun wx=>qsb 3 Q Y f wx
   generalize (if Q=9 then f else Q)=G at *
   obtain ⟨k',q',v',hE,hk2,hE0⟩:=qys x p G
   have HT2:Hid (∀ (wx:World),Below w.heap.size w wx->Calls Tryz.prog 163 #[x.v,.int .i64 p,.int .i64 G] wx fun e w'=>e=.returned (.tuple #[evV k' q' v',.int .i64 (tkC x p G)])/\Below wx.heap.size wx w'):=by
    have:=HT.out G
    rw [hE] at this
    exact this
   have HFull:Hid (fuB x p k' q'=true->C=4/\V=evV 0 0 0):=fun h=>by
    have h1:C=4:=by rw [HC2.out,if_pos ((qwt (by decide) hk2).trans h)]
    exact ⟨h1,by rw [HC.out.2,if_neg (show ¬ C=0 by rw [h1];decide)]⟩
   have HFree:Hid (fuB x p k' q'=false->C=tkC x p G/\V=evV k' q' v'):=fun h=>by
    have h1:C=tkC x p G:=by rw [HC2.out,if_neg (by rw [qwt (by decide) hk2,h];decide),if_pos rfl]
    refine ⟨h1,?_⟩
    rw [HC.out.2]
    by_cases h0:C=0
    ·rw [if_pos h0,if_pos rfl,hE]
    ·rw [if_neg h0,hE0 (by rw [<- h1];exact h0)]
   have HK2:Hid (k'=2->0<=q'/\q'<(x.pn:Int)):=fun h=>absurd h hk2
   clear HC HC2 HT hE hk2 hE0
   generalize tkC x p G=T at *
   obtain ⟨m0,m1,m2,m3⟩:=FB.out.2.1
   obtain ⟨n0,n1,n2,-⟩:=FB.out.2.2.1
   go_wp2_with fail
   go_region_law (first
    | (refine qcx rfl 164 _ _ rfl #[evV 3 Q Y,.int .i64 f] (by simp [Act.eval]) (yA Tryz.func164 (by kernel_rfl) rfl) (HPo.out _) ?_;rintro e w6 ⟨rfl,b6⟩;refine ⟨_,rfl,?_⟩;have q6:Below wc.heap.size wc w6:=qai (by go_grown) b6 (by simp);have Q6:Hid (Below wc.heap.size wc w6):=q6;have m06:=(q6.cell (p:=⟨w.heap.size,0,none⟩) (zJ wc _ m0)).trans m0;have m16:=(q6.cell (p:=⟨w.heap.size,1,none⟩) (zJ wc _ m1)).trans m1;have m26:=(q6.cell (p:=⟨w.heap.size,2,none⟩) (zJ wc _ m2)).trans m2;have m36:=(q6.cell (p:=⟨w.heap.size,3,none⟩) (zJ wc _ m3)).trans m3;clear b6 q6)
    | (refine qcx rfl 163 _ _ rfl #[x.v,.int .i64 p,.int .i64 G] (by simp [Act.eval,SysIn.v]) (yA Tryz.func163 (by kernel_rfl) rfl) (HT2.out _ (FB.out.1.trans (Q6.out.mono FB.out.1.size))) ?_;rintro e w7 ⟨rfl,b7⟩;refine ⟨_,rfl,?_⟩;have q7:Below wc.heap.size wc w7:=qai Q6.out b7 Q6.out.size;have Q7:Hid (Below wc.heap.size wc w7):=q7;have hf7:=(FB.out.2.2.1.below Q7.out).fr;have m07:=(q7.cell (p:=⟨w.heap.size,0,none⟩) (zJ wc _ m0)).trans m0;have m17:=(q7.cell (p:=⟨w.heap.size,1,none⟩) (zJ wc _ m1)).trans m1;have m27:=(q7.cell (p:=⟨w.heap.size,2,none⟩) (zJ wc _ m2)).trans m2;have m37:=(q7.cell (p:=⟨w.heap.size,3,none⟩) (zJ wc _ m3)).trans m3;have n07:=(q7.cell (p:=⟨N,0,none⟩) (zJ wc _ n0)).trans n0;have n17:=(q7.cell (p:=⟨N,1,none⟩) (zJ wc _ n1)).trans n1;have n27:=(q7.cell (p:=⟨N,2,none⟩) (zJ wc _ n2)).trans n2;clear b7 q7))
   all_goals
    go_upto_region 9 with fail
    have FD:Hid (Below w.heap.size w w7/\BoxC w7 w.heap.size (.slice x.pa x.pn x.pc) (.slice x.sa x.sn x.sc) (.slice x.wa x.wn x.wc) (.slice x.ha x.hn x.hc)/\EvK w7 N 3 Q Y/\EvK w7 (w.heap.size+1) 0 0 0):=⟨FB.out.1.trans (Q7.out.mono FB.out.1.size),FB.out.2.1.below Q7.out,FB.out.2.2.1.below Q7.out,FB.out.2.2.2.below Q7.out⟩
    have FE:Hid (Below w.heap.size w (((w7.setCell ⟨N,0,none⟩ (.int .i64 k')).setCell ⟨N,1,none⟩ (.int .i64 q')).setCell ⟨N,2,none⟩ (.int .i64 v'))/\BoxC (((w7.setCell ⟨N,0,none⟩ (.int .i64 k')).setCell ⟨N,1,none⟩ (.int .i64 q')).setCell ⟨N,2,none⟩ (.int .i64 v')) w.heap.size (.slice x.pa x.pn x.pc) (.slice x.sa x.sn x.sc) (.slice x.wa x.wn x.wc) (.slice x.ha x.hn x.hc)/\EvK (((w7.setCell ⟨N,0,none⟩ (.int .i64 k')).setCell ⟨N,1,none⟩ (.int .i64 q')).setCell ⟨N,2,none⟩ (.int .i64 v')) N k' q' v'/\EvK (((w7.setCell ⟨N,0,none⟩ (.int .i64 k')).setCell ⟨N,1,none⟩ (.int .i64 q')).setCell ⟨N,2,none⟩ (.int .i64 v')) (w.heap.size+1) 0 0 0):=⟨((FD.out.1.setCell (p:=⟨N,0,none⟩) hNl _).setCell (p:=⟨N,1,none⟩) hNl _).setCell (p:=⟨N,2,none⟩) hNl _,FD.out.2.1.put3N d1 _ _ _,FD.out.2.2.1.put _ _ _,FD.out.2.2.2.putN d2 _ _ _⟩
    generalize ((w7.setCell ⟨N,0,none⟩ (.int .i64 k')).setCell ⟨N,1,none⟩ (.int .i64 q')).setCell ⟨N,2,none⟩ (.int .i64 v')=wd at *
    clear FD FB Q6 Q7 HPo HT2 m06 m16 m26 m36 m07 m17 m27 m37 n07 n17 n27 hf7 m0 m1 m2 m3 n0 n1 n2
    obtain ⟨m0,m1,m2,m3⟩:=FE.out.2.1
    obtain ⟨n0,n1,n2,-⟩:=FE.out.2.2.1
    go_wp2_with fail
    refine (HF.out k' q' v' wd HK2.out FE.out.1).mono ?_
    rintro e w9 ⟨rfl,b9⟩
    have F9:Hid (Below w.heap.size w w9/\EvK w9 N k' q' v'/\EvK w9 (w.heap.size+1) 0 0 0):=⟨FE.out.1.trans (b9.mono FE.out.1.size),FE.out.2.2.1.below b9,FE.out.2.2.2.below b9⟩
    clear b9 m0 m1 m2 m3 n0 n1 n2
    obtain ⟨r0,r1,r2,rf⟩:=F9.out.2.2
    obtain ⟨n0,n1,n2,-⟩:=F9.out.2.1
    have z9:w.heap.size+1<w9.heap.size:=zJ w9 _ r0
    rcases zK (fuB x p k' q') with tf | tf
    ·have HV:Hid (C=4/\V=evV 0 0 0):=HFull.out tf
     rw [tf]
     go_wp2
     exact bodyPost_ret (v:=.tuple #[evV 0 0 0,.int .i64 4]) (by simp [results,Tryz.results100,go_sem,r0,r1,r2]) rfl ⟨by rw [HV.out.1,HV.out.2],((F9.out.1.setCell (Nat.le_succ _) _).setCell (Nat.le_succ _) _).setCell (Nat.le_succ _) _⟩
    ·have HV:Hid (C=T/\V=evV k' q' v'):=HFree.out tf
     rw [tf]
     go_wp2
     exact bodyPost_ret (v:=.tuple #[evV k' q' v',.int .i64 T]) (by simp [results,Tryz.results100,go_sem,r0,r1,r2]) rfl ⟨by rw [HV.out.1,HV.out.2],((F9.out.1.setCell (Nat.le_succ _) _).setCell (Nat.le_succ _) _).setCell (Nat.le_succ _) _⟩
variable {z:Bool}
structure Hp (z:Bool) (w:World) (B:Nat) (c0:Nat->Nat) (k q v:Int) (y:Sy) (vp vs vw vh:Value) (wx:World):Prop where
 be:Below B w wx
 bx:BoxC wx w.heap.size vp vs vw vh
 ev:EvK wx (w.heap.size+1) k q v
 kp:∀ b,b<w.heap.size->c0 b=0->wx.heap[b]? = w.heap[b]?
 ow:∃ c up us uw uh,OwnS z wx B c y vp vs vw vh up us uw uh/\c w.heap.size=0/\c (w.heap.size+1)=0/\∀ b,b<w.heap.size->c b=c0 b
theorem Sy.Ok.lens {y:Sy} (h:y.Ok) {p:Nat} (hp:p<y.pn):y.pL p<=maxLen/\(y.sS p).rs.length<=1048576/\(y.sS p).os.length<=1048576:=by
 have h1:=h.four hp
 simp only [qab,Bool.and_eq_true,inB,decide_eq_true_eq] at h1
 obtain ⟨⟨r0,r1,r2,r3,e,-⟩,-,h60,-⟩:=qb5 (h.st hp)
 refine ⟨?_,by rw [e];simp,by omega⟩
 have:=h1.2.1
 unfold maxLen
 omega
theorem qo8 {w:World} {B sz n m c:Nat} {e:TypeId} {a:Option Addr} {xs:List Value} (h:w.ownsRow B e sz (.slice a n c) m xs):c<=maxLen:=by
 rcases h.2 with ⟨e,-⟩ | ⟨g,cap,cur,e,-,-,-,hc,-⟩
 ·simp only [Value.slice.injEq] at e
  omega
 ·simp only [Value.slice.injEq] at e
  omega
theorem Hp.below {w wx wy:World} {B:Nat} {c0:Nat->Nat} {k q v:Int} {y:Sy} {vp vs vw vh:Value} (h:Hp z w B c0 k q v y vp vs vw vh wx) (hB:B<=wx.heap.size) (b:Below wx.heap.size wx wy):Hp z w B c0 k q v y vp vs vw vh wy:=by
 obtain ⟨c,up,us,uw,uh,o,z0,z1,zc⟩:=h.ow
 exact ⟨h.be.trans (b.mono hB),h.bx.below b,h.ev.below b,fun j hj hc=>(b.block j (Nat.lt_trans hj h.bx.ltM)).trans (h.kp j hj hc),c,up,us,uw,uh,o.below b,z0,z1,zc⟩
theorem Hp.le {w wx:World} {B:Nat} {c0:Nat->Nat} {k q v:Int} {y:Sy} {vp vs vw vh:Value} (h:Hp z w B c0 k q v y vp vs vw vh wx) (hB:B<=w.heap.size):B<=wx.heap.size:=zP hB (Nat.le_of_lt h.bx.ltM)
theorem qsy {c:Nat->Nat} {a b i j:Nat} (ha:c a=i) (hb:c b=j) (h:i≠j):a≠b:=fun e=>h (by rw [<- ha,<- hb,e])
theorem Hp.putW {w wx w1:World} {B g cap:Nat} {c0:Nat->Nat} {k q v:Int} {y:Sy} {vp vs vh:Value} (h:Hp z w B c0 k q v y vp vs (.slice (some ⟨g,0,none⟩) y.wn cap) vh wx) (hB:B<=w.heap.size) {J m:Nat} {u':Value} {H':Nat->I2} (hJ:J<y.wn) (b1:Below wx.heap.size wx w1) (hu:w1.ownsRow wx.heap.size 138 2 u' m (fT H' m)) (hne:u'≠.slice none 0 0):
  Hp z w B c0 k q v (y.setW J m H') vp vs (.slice (some ⟨g,0,none⟩) y.wn cap) vh (w1.setCell ⟨g,J,none⟩ u'):=by
 obtain ⟨c,up,us,uw,uh,o,z0,z1,zc⟩:=h.ow
 have hg:=o.t.rb g rfl
 have hz:∀ b,c b=0->b<wx.heap.size->(w1.setCell ⟨g,J,none⟩ u').heap[b]? = wx.heap[b]?:=fun b hb hl=>(zO _ _ _ _ (qsy hb hg.2 (by decide))).trans (b1.block b hl)
 have hW:=h.le hB
 exact ⟨(h.be.trans (b1.mono hW)).setCell hg.1 _,h.bx.blkM (hz _ z0 h.bx.ltM),h.ev.blk (hz _ z1 h.ev.lt),fun j hj hc=>(hz j ((zc j hj).trans hc) (Nat.lt_trans hj h.bx.ltM)).trans (h.kp j hj hc),_,up,us,_,uh,o.putW hJ hW b1.size (fun b hb _=>b1.block b hb) (qcg hu) hne (fun b hb=>.inr (hu.lt b hb).1),(qar h.bx.ltM).trans z0,(qar h.ev.lt).trans z1,fun j hj=>(qar (Nat.lt_trans hj h.bx.ltM)).trans (zc j hj)⟩
theorem Hp.putH {w wx w1:World} {B g cap:Nat} {c0:Nat->Nat} {k q v:Int} {y:Sy} {vp vs vw:Value} (h:Hp z w B c0 k q v y vp vs vw (.slice (some ⟨g,0,none⟩) y.hn cap) wx) (hB:B<=w.heap.size) {J m:Nat} {u':Value} {H':Nat->E3} (hJ:J<y.hn) (b1:Below wx.heap.size wx w1) (hu:w1.ownsRow wx.heap.size 74 3 u' m (fE H' m)) (hne:u'≠.slice none 0 0):
  Hp z w B c0 k q v (y.setH J m H') vp vs vw (.slice (some ⟨g,0,none⟩) y.hn cap) (w1.setCell ⟨g,J,none⟩ u'):=by
 obtain ⟨c,up,us,uw,uh,o,z0,z1,zc⟩:=h.ow
 have hg:=o.h.rb g rfl
 have hz:∀ b,c b=0->b<wx.heap.size->(w1.setCell ⟨g,J,none⟩ u').heap[b]? = wx.heap[b]?:=fun b hb hl=>(zO _ _ _ _ (qsy hb hg.2 (by decide))).trans (b1.block b hl)
 have hW:=h.le hB
 exact ⟨(h.be.trans (b1.mono hW)).setCell hg.1 _,h.bx.blkM (hz _ z0 h.bx.ltM),h.ev.blk (hz _ z1 h.ev.lt),fun j hj hc=>(hz j ((zc j hj).trans hc) (Nat.lt_trans hj h.bx.ltM)).trans (h.kp j hj hc),_,up,us,uw,_,o.putH hJ hW b1.size (fun b hb _=>b1.block b hb) (qcg hu) hne (fun b hb=>.inr (hu.lt b hb).1),(qar h.bx.ltM).trans z0,(qar h.ev.lt).trans z1,fun j hj=>(qar (Nat.lt_trans hj h.bx.ltM)).trans (zc j hj)⟩
theorem Hp.putS {w wx w1:World} {B g cap:Nat} {c0:Nat->Nat} {k q v:Int} {y:Sy} {vp vw vh:Value} (h:Hp z w B c0 k q v y vp (.slice (some ⟨g,0,none⟩) y.sn cap) vw vh wx) (hB:B<=w.heap.size) {i:Nat} (hi:i<y.sn) {ra oa:Option Addr} {rn rc on oc:Nat} {p code:Int} {T:S4} (b1:Below wx.heap.size wx w1) (hu:qag w1 wx.heap.size (stV p ra rn rc oa on oc code) T.p T.rs T.os T.c):
  Hp z w B c0 k q v (y.setS i T) vp (.slice (some ⟨g,0,none⟩) y.sn cap) vw vh ((((w1.setCell ⟨g,i*4,none⟩ (.int .i64 p)).setCell ⟨g,i*4+1,none⟩ (.slice ra rn rc)).setCell ⟨g,i*4+2,none⟩ (.slice oa on oc)).setCell ⟨g,i*4+3,none⟩ (.int .i64 code)):=by
 obtain ⟨c,up,us,uw,uh,o,z0,z1,zc⟩:=h.ow
 have hg:=o.s.rb g rfl
 have hz:∀ b,c b=0->b<wx.heap.size->((((w1.setCell ⟨g,i*4,none⟩ (.int .i64 p)).setCell ⟨g,i*4+1,none⟩ (.slice ra rn rc)).setCell ⟨g,i*4+2,none⟩ (.slice oa on oc)).setCell ⟨g,i*4+3,none⟩ (.int .i64 code)).heap[b]? = wx.heap[b]?:=fun b hb hl=>by
  have hn:=qsy hb hg.2 (by decide)
  exact ((zO _ _ _ _ hn).trans ((zO _ _ _ _ hn).trans ((zO _ _ _ _ hn).trans (zO _ _ _ _ hn)))).trans (b1.block b hl)
 have hW:=h.le hB
 exact ⟨((((h.be.trans (b1.mono hW)).setCell hg.1 _).setCell hg.1 _).setCell hg.1 _).setCell hg.1 _,h.bx.blkM (hz _ z0 h.bx.ltM),h.ev.blk (hz _ z1 h.ev.lt),fun j hj hc=>(hz j ((zc j hj).trans hc) (Nat.lt_trans hj h.bx.ltM)).trans (h.kp j hj hc),_,up,_,uw,uh,o.putS hi hW b1 hu,(qar h.bx.ltM).trans z0,(qar h.ev.lt).trans z1,fun j hj=>(qar (Nat.lt_trans hj h.bx.ltM)).trans (zc j hj)⟩
def OwnK (z:Bool) (w:World) (B:Nat) (c0:Nat->Nat) (N:Nat) (y:Sy) (vp vs vw vh:Value):Prop:=∃ c up us uw uh,OwnS z w B c y vp vs vw vh up us uw uh/\∀ b,b<N->c b=c0 b
theorem OwnK.own {w:World} {B N:Nat} {c0:Nat->Nat} {y:Sy} {vp vs vw vh:Value} (h:OwnK z w B c0 N y vp vs vw vh):qbg z w B y (.agg #[vp,vs,vw,vh]):=by
 obtain ⟨c,up,us,uw,uh,o,-⟩:=h
 exact ⟨c,vp,vs,vw,vh,up,us,uw,uh,rfl,o⟩
theorem Hp.ownK {w wx:World} {B:Nat} {c0:Nat->Nat} {k q v:Int} {y:Sy} {vp vs vw vh:Value} (h:Hp z w B c0 k q v y vp vs vw vh wx):OwnK z wx B c0 w.heap.size y vp vs vw vh:=by
 obtain ⟨c,up,us,uw,uh,o,-,-,hc⟩:=h.ow
 exact ⟨c,up,us,uw,uh,o,hc⟩
variable {z:Bool}
theorem qrr (y:Sy) (p:Nat) (k q v0:Int) (w:World) (B:Nat) (c:Nat->Nat) (vp vs vw vh:Value) (up us uw uh:Nat->Value) (o:OwnS z w B c y vp vs vw vh up us uw uh) (hB:B<=w.heap.size) (hO:y.Ok) (hp:p<y.pn) (hk2:k=2->0<=q/\q<y.pn) (hk3:k=3->0<=q/\q<y.pn/\0<y.wL (q.toNat*y.pn+p)):
  Calls Tryz.prog 101 #[.agg #[vp,vs,vw,vh],.int .i64 p,evV k q v0] w fun e w'=>e=.returned (.tuple #[])/\Below B w w'/\(∀ b,b<w.heap.size->c b=0->w'.heap[b]? = w.heap[b]?)/\OwnK z w' B c w.heap.size ((y.evt p k q v0).way p k q v0) vp vs vw vh:=by
 obtain ⟨⟨h1,h4⟩,hs,hh,hw⟩:=hO.cn
 have hps:p<y.sn:=by omega
 have hph:p<y.hn:=by omega
 have hw0:0<y.wn:=by rw [hw];exact Nat.mul_pos (by omega) (by omega)
 obtain ⟨gp,cp,rfl,-,-,-,-⟩:=o.p.cell hp
 obtain ⟨gs,cs,rfl,-,-,-,-⟩:=o.s.cell hps
 obtain ⟨gh,ch,rfl,-,-,-,-⟩:=o.h.cell hph
 obtain ⟨gw,cw,rfl,-,-,-,-⟩:=o.t.cell hw0
 have hL200:y.hL p<=200:=hO.le200 hp
 have HP4:Hid (qab (y.pH p) (y.pL p) 4=true):=hO.four hp
 have HST:Hid (OkS (y.pL p) (y.sS p)):=hO.st hp
 have HLn:Hid (y.pL p<=maxLen/\(y.sS p).rs.length<=1048576/\(y.sS p).os.length<=1048576):=hO.lens hp
 have HWY:Hid (∀ a b,a<y.pn->b<y.pn->y.wL (a*y.pn+b)<=12):=fun a b ha hb=>hO.way ha hb
 have HK2:Hid (k=2->0<=q/\q<y.pn):=hk2
 have HK3:Hid (k=3->0<=q/\q<y.pn/\0<y.wL (q.toNat*y.pn+p)):=hk3
 have HN:Hid (y.sn=y.pn/\y.hn=y.pn/\y.wn=y.pn*y.pn):=⟨hs,hh,hw⟩
 have hp':(p:Int)<(y.pn:Int):=by omega
 have hps':(p:Int)<(y.sn:Int):=by omega
 have hph':(p:Int)<(y.hn:Int):=by omega
 have H0:Hid (Hp z w B c k q v0 y (.slice (some ⟨gp,0,none⟩) y.pn cp) (.slice (some ⟨gs,0,none⟩) y.sn cs) (.slice (some ⟨gw,0,none⟩) y.wn cw) (.slice (some ⟨gh,0,none⟩) y.hn ch) ((w.alloc (oQ4 (some ⟨gp,0,none⟩) y.pn cp (some ⟨gs,0,none⟩) y.sn cs (some ⟨gw,0,none⟩) y.wn cw (some ⟨gh,0,none⟩) y.hn ch)).alloc (oQ0 k q v0))):=by
  have b1:=zQ w (oQ4 (some ⟨gp,0,none⟩) y.pn cp (some ⟨gs,0,none⟩) y.sn cs (some ⟨gw,0,none⟩) y.wn cw (some ⟨gh,0,none⟩) y.hn ch)
  have b2:=zQ (w.alloc (oQ4 (some ⟨gp,0,none⟩) y.pn cp (some ⟨gs,0,none⟩) y.sn cs (some ⟨gw,0,none⟩) y.wn cw (some ⟨gh,0,none⟩) y.hn ch)) (oQ0 k q v0)
  have b:=b1.trans (b2.mono b1.size)
  exact ⟨b.mono hB,(BoxC.new w _ _ _ _ _).below b2,by simpa using EvK.new (w.alloc (oQ4 (some ⟨gp,0,none⟩) y.pn cp (some ⟨gs,0,none⟩) y.sn cs (some ⟨gw,0,none⟩) y.wn cw (some ⟨gh,0,none⟩) y.hn ch)) k q v0 74,fun j hj _=>b.block j hj,_,up,us,uw,uh,(o.recol 0).below b,qah (Nat.le_refl _),qah (Nat.le_succ _),fun j hj=>qar hj⟩
 clear o hO hk2 hk3 hw0 hs hh hw
 go_enter Tryz.func101,Tryz.ntmps101
 go_upto_region 1 with fail
 generalize (w.alloc (oQ4 (some ⟨gp,0,none⟩) y.pn cp (some ⟨gs,0,none⟩) y.sn cs (some ⟨gw,0,none⟩) y.wn cw (some ⟨gh,0,none⟩) y.hn ch)).alloc (oQ0 k q v0)=W2 at *
 obtain ⟨c9,up9,us9,uw9,uh9,o9,-,-,-⟩:=H0.out.ow
 obtain ⟨b0,b1,b2,b3⟩:=H0.out.bx
 obtain ⟨k0,k1,k2,kf⟩:=id H0.out.ev
 have m0:=H0.out.bx.ltM
 have mN:=H0.out.ev.lt
 obtain ⟨g9,k9,ew,-,lp,cellp,-⟩:=o9.p.cell hp
 simp only [Value.slice.injEq,Option.some.injEq,Addr.mk.injEq,and_true,true_and] at ew
 obtain ⟨rfl,rfl⟩:=ew
 obtain ⟨b9,cb9,eup,hb9,hI,-⟩:=atI (o9.p.own p hp) (o9.p.nn nzI p hp)
 rw [eup] at cellp
 obtain ⟨g9,k9,ew,-,ls,cels,fs⟩:=o9.s.cell hps
 simp only [Value.slice.injEq,Option.some.injEq,Addr.mk.injEq,and_true,true_and] at ew
 obtain ⟨rfl,rfl⟩:=ew
 obtain ⟨ra9,rc9,oa9,oc9,eus,s0,s1,s2,s3⟩:=cels
 have hsl:Sl W2 ra9 (y.sS p).rs/\Sl W2 oa9 (y.sS p).os:=by
  have h4:=o9.s.own p hps
  rw [eus] at h4
  exact ⟨h4.parts.1.slOf,h4.parts.2.1.slOf⟩
 clear eup eus
 refine qas (fun w'=>w'.cell? ⟨w.heap.size,0,none⟩=some (.slice (some ⟨gp,0,none⟩) y.pn cp)/\w'.cell? ⟨w.heap.size,1,none⟩=some (.slice (some ⟨gs,0,none⟩) y.sn cs)/\w'.cell? ⟨gp,p,none⟩=some (.slice (some ⟨b9,0,none⟩) (y.pL p) cb9)/\w'.cell? ⟨gs,p*4,none⟩=some (.int .i64 (y.sS p).p)/\w'.cell? ⟨gs,p*4+1,none⟩=some (.slice ra9 (y.sS p).rs.length rc9)/\w'.cell? ⟨gs,p*4+2,none⟩=some (.slice oa9 (y.sS p).os.length oc9)/\w'.cell? ⟨gs,p*4+3,none⟩=some (.int .i64 (y.sS p).c)/\w'.cell? ⟨w.heap.size+1,0,none⟩=some (.int .i64 k)/\w'.cell? ⟨w.heap.size+1,1,none⟩=some (.int .i64 q)/\w'.cell? ⟨w.heap.size+1,2,none⟩=some (.int .i64 v0)) (fun i=>i == 19) (by kernel_rfl) ?_
 have hHeld:(fun w'=>w'.cell? ⟨w.heap.size,0,none⟩=some (.slice (some ⟨gp,0,none⟩) y.pn cp)/\w'.cell? ⟨w.heap.size,1,none⟩=some (.slice (some ⟨gs,0,none⟩) y.sn cs)/\w'.cell? ⟨gp,p,none⟩=some (.slice (some ⟨b9,0,none⟩) (y.pL p) cb9)/\w'.cell? ⟨gs,p*4,none⟩=some (.int .i64 (y.sS p).p)/\w'.cell? ⟨gs,p*4+1,none⟩=some (.slice ra9 (y.sS p).rs.length rc9)/\w'.cell? ⟨gs,p*4+2,none⟩=some (.slice oa9 (y.sS p).os.length oc9)/\w'.cell? ⟨gs,p*4+3,none⟩=some (.int .i64 (y.sS p).c)/\w'.cell? ⟨w.heap.size+1,0,none⟩=some (.int .i64 k)/\w'.cell? ⟨w.heap.size+1,1,none⟩=some (.int .i64 q)/\w'.cell? ⟨w.heap.size+1,2,none⟩=some (.int .i64 v0)) W2.drew:=⟨b0,b1,cellp,s0,s1,s2,s3,k0,k1,k2⟩
 refine qb1 [0,1,2,3,4,5,6,7,8,9,10,11,12,13] ?_
 iterate 14 (refine qa9 rfl hHeld ?_;apply Exists.intro;refine ⟨fun wq hSw=>?_,?_⟩;(· ((try dsimp only at hSw);go_simp;try with_reducible rfl));(try simp only [Act.put,zD,zE,zF]))
 refine qbk ?_
 refine qao 14 rfl (by kernel_rfl) (fun K hK=>?_)
 refine qa5 rfl 166 _ _ rfl #[.slice (some ⟨b9,0,none⟩) (y.pL p) cb9,stV (y.sS p).p ra9 (y.sS p).rs.length rc9 oa9 (y.sS p).os.length oc9 (y.sS p).c,evV k q v0] (by simp [Act.eval]) (yA Tryz.func166 (by kernel_rfl) rfl) (qp6 b9 0 (y.pL p) cb9 (y.pH p) (y.sS p).p (y.sS p).c ra9 oa9 rc9 oc9 (y.sS p).rs (y.sS p).os k q v0 W2.drew HLn.out.1 hb9 hI HLn.out.2.1 HLn.out.2.2 hsl.1 hsl.2 HP4.out) ?_
 rintro e w5 ⟨u5,rfl,o5,d5⟩
 refine ⟨_,rfl,?_⟩
 have HT:Hid (y.evt p k q v0=(y.setS p (doS (y.pH p) (y.pL p) (y.sS p).p (y.sS p).rs (y.sS p).os (y.sS p).c k q v0)).setH p (y.hL p+1) (fun i=>if i=y.hL p then ⟨k,q,v0⟩ else y.hH p i)):=rfl
 generalize doS (y.pH p) (y.pL p) (y.sS p).p (y.sS p).rs (y.sS p).os (y.sS p).c k q v0=T at o5 HT
 generalize doB (y.pH p) (y.pL p) (y.sS p).p (y.sS p).rs (y.sS p).os (y.sS p).c k q v0=tb
 obtain ⟨ra5,rc5,oa5,oc5,rfl,-,-⟩:=o5.read
 have q5:Below W2.heap.size W2 w5:=(Below.refl W2.heap.size W2).drew.trans d5
 have hc5:=(qam q5).1
 have hHeld5:(fun w'=>w'.cell? ⟨w.heap.size,0,none⟩=some (.slice (some ⟨gp,0,none⟩) y.pn cp)/\w'.cell? ⟨w.heap.size,1,none⟩=some (.slice (some ⟨gs,0,none⟩) y.sn cs)/\w'.cell? ⟨gp,p,none⟩=some (.slice (some ⟨b9,0,none⟩) (y.pL p) cb9)/\w'.cell? ⟨gs,p*4,none⟩=some (.int .i64 (y.sS p).p)/\w'.cell? ⟨gs,p*4+1,none⟩=some (.slice ra9 (y.sS p).rs.length rc9)/\w'.cell? ⟨gs,p*4+2,none⟩=some (.slice oa9 (y.sS p).os.length oc9)/\w'.cell? ⟨gs,p*4+3,none⟩=some (.int .i64 (y.sS p).c)/\w'.cell? ⟨w.heap.size+1,0,none⟩=some (.int .i64 k)/\w'.cell? ⟨w.heap.size+1,1,none⟩=some (.int .i64 q)/\w'.cell? ⟨w.heap.size+1,2,none⟩=some (.int .i64 v0)) w5:=⟨(hc5 _ _ m0).trans b0,(hc5 _ _ m0).trans b1,(hc5 _ _ lp).trans cellp,(hc5 _ _ ls).trans s0,(hc5 _ _ ls).trans s1,(hc5 _ _ ls).trans s2,(hc5 _ _ ls).trans s3,(hc5 _ _ mN).trans k0,(hc5 _ _ mN).trans k1,(hc5 _ _ mN).trans k2⟩
 have hf5:∀ j,w5.frozen? ⟨gs,j,none⟩=false:=fun j=>((qam q5).2 _ j ls).trans (fs j)
 have H1:Hid (Hp z w B c k q v0 (y.setS p T) (.slice (some ⟨gp,0,none⟩) y.pn cp) (.slice (some ⟨gs,0,none⟩) y.sn cs) (.slice (some ⟨gw,0,none⟩) y.wn cw) (.slice (some ⟨gh,0,none⟩) y.hn ch) ((((w5.setCell ⟨gs,p*4,none⟩ (.int .i64 T.p)).setCell ⟨gs,p*4+1,none⟩ (.slice ra5 T.rs.length rc5)).setCell ⟨gs,p*4+2,none⟩ (.slice oa5 T.os.length oc5)).setCell ⟨gs,p*4+3,none⟩ (.int .i64 T.c))):=H0.out.putS hB hps q5 (o5.mono (by simp))
 refine hK.out _ _ (fun _=>hHeld5) ?_
 clear hHeld
 have hHeld:=hHeld5
 clear hHeld5 hc5 d5
 clear hK K
 (try simp only [Act.put,zD,zE,zF])
 refine qb1 [15,16] ?_
 iterate 2 (refine qa9 rfl hHeld ?_;apply Exists.intro;refine ⟨fun wq hSw=>?_,?_⟩;(· ((try dsimp only at hSw);go_simp;try with_reducible rfl));(try simp only [Act.put,zD,zE,zF]))
 refine qbk ?_
 refine qcz 17 rfl (by kernel_rfl) (by kernel_rfl) (by kernel_rfl) (fun _ _ _ _ h=>h) (by rfl) ?_
 apply Exists.intro
 refine ⟨fun wq=>?_,?_⟩
 ·go_simp
  try with_reducible rfl
 (try simp only [Act.put,zD,zE,zF])
 refine qaf 18 rfl hHeld ?_
 apply Exists.intro
 refine ⟨fun wq hSw=>?_,?_⟩
 ·(try dsimp only at hSw)
  go_simp
  try with_reducible rfl
 (try simp only [Act.put,zD,zE,zF])
 refine qao 19 rfl (by kernel_rfl) (fun K hK=>?_)
 obtain ⟨-,-,-,p0,p1,p2,p3,-⟩:=hHeld
 go_simp
 refine hK.out _ _ (fun h=>?_) ?_
 ·exact absurd h (by decide)
 clear hK K
 (try simp only [Act.put,zD,zE,zF])
 refine qbe (by kernel_rfl) ?_ _
 clear o9 hb9 hI hsl b0 b1 b2 b3 k0 k1 k2 kf m0 mN lp cellp ls fs s0 s1 s2 s3 q5 hf5 p0 p1 p2 p3 o5
 go_upto_region 2 with fail
 generalize ((((w5.setCell ⟨gs,p*4,none⟩ (.int .i64 T.p)).setCell ⟨gs,p*4+1,none⟩ (.slice ra5 T.rs.length rc5)).setCell ⟨gs,p*4+2,none⟩ (.slice oa5 T.os.length oc5)).setCell ⟨gs,p*4+3,none⟩ (.int .i64 T.c))=W3 at *
 clear H0
 obtain ⟨c9,up9,us9,uw9,uh9,o9,-,-,-⟩:=H1.out.ow
 obtain ⟨b0,b1,b2,b3⟩:=H1.out.bx
 obtain ⟨k0,k1,k2,kf⟩:=id H1.out.ev
 have m0:=H1.out.bx.ltM
 have mN:=H1.out.ev.lt
 have OH9:LE z W3 (Cl B c9 4) (.slice (some ⟨gh,0,none⟩) y.hn ch) y.hn uh9 y.hL y.hH:=o9.h
 obtain ⟨g9,k9,ew,-,lh,cellh,fh⟩:=OH9.cell hph
 simp only [Value.slice.injEq,Option.some.injEq,Addr.mk.injEq,and_true,true_and] at ew
 obtain ⟨rfl,rfl⟩:=ew
 clear OH9
 have HEq:Hid (∀ wx,Below W3.heap.size W3 wx->Calls Tryz.prog 167 #[sysV (some ⟨gp,0,none⟩) y.pn cp (some ⟨gs,0,none⟩) y.sn cs (some ⟨gw,0,none⟩) y.wn cw (some ⟨gh,0,none⟩) y.hn ch,.int .i64 p] wx fun e w'=>e=.returned (.agg #[.slice (adOf (uh9 p)) (y.hL p) (cpOf (uh9 p)),.int .i64 200])/\Below wx.heap.size wx w'):=fun wx hb=>by
  have h:=qem _ p wx (o9.g.below hb) hph
  rw [o9.v] at h
  exact h
 have HWi:Hid (∀ wx,Below W3.heap.size W3 wx->Calls Tryz.prog 168 #[.agg #[.slice (adOf (uh9 p)) (y.hL p) (cpOf (uh9 p)),.int .i64 200],.agg #[.int .i64 k,.int .i64 q,.int .i64 v0]] wx fun e w'=>∃ v,e=.returned v/\w'.ownsRow wx.heap.size 74 3 v (y.hL p+1) (fE (fun i=>if i=y.hL p then ⟨k,q,v0⟩ else y.hH p i) (y.hL p+1))/\v≠.slice none 0 0/\Below wx.heap.size wx w'):=fun wx hb=>qlg _ (y.hL p) _ 200 (y.hH p) ⟨k,q,v0⟩ wx (by omega) (srcE ((o9.g.below hb).hi p hph))
 refine qas (fun w'=>w'.cell? ⟨w.heap.size,0,none⟩=some (.slice (some ⟨gp,0,none⟩) y.pn cp)/\w'.cell? ⟨w.heap.size,1,none⟩=some (.slice (some ⟨gs,0,none⟩) y.sn cs)/\w'.cell? ⟨w.heap.size,2,none⟩=some (.slice (some ⟨gw,0,none⟩) y.wn cw)/\w'.cell? ⟨w.heap.size,3,none⟩=some (.slice (some ⟨gh,0,none⟩) y.hn ch)/\w'.cell? ⟨w.heap.size+1,0,none⟩=some (.int .i64 k)/\w'.cell? ⟨w.heap.size+1,1,none⟩=some (.int .i64 q)/\w'.cell? ⟨w.heap.size+1,2,none⟩=some (.int .i64 v0)/\w'.cell? ⟨gh,p,none⟩=some (uh9 p)) (fun i=>i == 9) (by kernel_rfl) ?_
 have hHeld:(fun w'=>w'.cell? ⟨w.heap.size,0,none⟩=some (.slice (some ⟨gp,0,none⟩) y.pn cp)/\w'.cell? ⟨w.heap.size,1,none⟩=some (.slice (some ⟨gs,0,none⟩) y.sn cs)/\w'.cell? ⟨w.heap.size,2,none⟩=some (.slice (some ⟨gw,0,none⟩) y.wn cw)/\w'.cell? ⟨w.heap.size,3,none⟩=some (.slice (some ⟨gh,0,none⟩) y.hn ch)/\w'.cell? ⟨w.heap.size+1,0,none⟩=some (.int .i64 k)/\w'.cell? ⟨w.heap.size+1,1,none⟩=some (.int .i64 q)/\w'.cell? ⟨w.heap.size+1,2,none⟩=some (.int .i64 v0)/\w'.cell? ⟨gh,p,none⟩=some (uh9 p)) W3.drew:=⟨b0,b1,b2,b3,k0,k1,k2,cellh⟩
 refine qb1 [0,1,2,3,4,6] ?_
 iterate 6 (refine qa9 rfl hHeld ?_;apply Exists.intro;refine ⟨fun wq hSw=>?_,?_⟩;(· ((try dsimp only at hSw);go_simp;try with_reducible rfl));(try simp only [Act.put,zD,zE,zF]))
 refine qbk ?_
 refine qao 5 rfl (by kernel_rfl) (fun K hK=>?_)
 refine qa5 rfl 167 _ _ rfl #[sysV (some ⟨gp,0,none⟩) y.pn cp (some ⟨gs,0,none⟩) y.sn cs (some ⟨gw,0,none⟩) y.wn cw (some ⟨gh,0,none⟩) y.hn ch,.int .i64 p] (by simp [Act.eval]) (yA Tryz.func167 (by kernel_rfl) rfl) (HEq.out W3.drew (Below.refl W3.heap.size W3).drew) ?_
 rintro e w5 ⟨rfl,d5⟩
 refine ⟨_,rfl,?_⟩
 have q5:Below W3.heap.size W3 w5:=(Below.refl W3.heap.size W3).drew.trans d5
 have hc5:=(qam q5).1
 refine hK.out _ _ (fun _=>⟨(hc5 _ _ m0).trans b0,(hc5 _ _ m0).trans b1,(hc5 _ _ m0).trans b2,(hc5 _ _ m0).trans b3,(hc5 _ _ mN).trans k0,(hc5 _ _ mN).trans k1,(hc5 _ _ mN).trans k2,(hc5 _ _ lh).trans cellh⟩) ?_
 clear hc5 d5
 clear hK K
 (try simp only [Act.put,zD,zE,zF])
 refine qao 7 rfl (by kernel_rfl) (fun K hK=>?_)
 refine qa5 rfl 168 _ _ rfl #[.agg #[.slice (adOf (uh9 p)) (y.hL p) (cpOf (uh9 p)),.int .i64 200],.agg #[.int .i64 k,.int .i64 q,.int .i64 v0]] (by simp [Act.eval]) (yA Tryz.func168 (by kernel_rfl) rfl) (HWi.out w5 q5) ?_
 rintro e w6 ⟨v6,rfl,o6,n6,d6⟩
 refine ⟨_,rfl,?_⟩
 have q6:Below W3.heap.size W3 w6:=q5.trans (d6.mono q5.size)
 have hc6:=(qam q6).1
 have hHeld6:(fun w'=>w'.cell? ⟨w.heap.size,0,none⟩=some (.slice (some ⟨gp,0,none⟩) y.pn cp)/\w'.cell? ⟨w.heap.size,1,none⟩=some (.slice (some ⟨gs,0,none⟩) y.sn cs)/\w'.cell? ⟨w.heap.size,2,none⟩=some (.slice (some ⟨gw,0,none⟩) y.wn cw)/\w'.cell? ⟨w.heap.size,3,none⟩=some (.slice (some ⟨gh,0,none⟩) y.hn ch)/\w'.cell? ⟨w.heap.size+1,0,none⟩=some (.int .i64 k)/\w'.cell? ⟨w.heap.size+1,1,none⟩=some (.int .i64 q)/\w'.cell? ⟨w.heap.size+1,2,none⟩=some (.int .i64 v0)/\w'.cell? ⟨gh,p,none⟩=some (uh9 p)) w6:=⟨(hc6 _ _ m0).trans b0,(hc6 _ _ m0).trans b1,(hc6 _ _ m0).trans b2,(hc6 _ _ m0).trans b3,(hc6 _ _ mN).trans k0,(hc6 _ _ mN).trans k1,(hc6 _ _ mN).trans k2,(hc6 _ _ lh).trans cellh⟩
 have hf6:∀ j,w6.frozen? ⟨gh,j,none⟩=false:=fun j=>((qam q6).2 _ j lh).trans (fh j)
 obtain ⟨a6,c6,rfl⟩:=zU o6
 have H2:Hid (Hp z w B c k q v0 (y.evt p k q v0) (.slice (some ⟨gp,0,none⟩) y.pn cp) (.slice (some ⟨gs,0,none⟩) y.sn cs) (.slice (some ⟨gw,0,none⟩) y.wn cw) (.slice (some ⟨gh,0,none⟩) y.hn ch) (w6.setCell ⟨gh,p,none⟩ (.slice a6 (y.hL p+1) c6))):=by
  have h:=H1.out.putH hB hph q6 (o6.mono q5.size) n6
  show Hp z w B c k q v0 (y.evt p k q v0) (.slice (some ⟨gp,0,none⟩) y.pn cp) (.slice (some ⟨gs,0,none⟩) y.sn cs) (.slice (some ⟨gw,0,none⟩) y.wn cw) (.slice (some ⟨gh,0,none⟩) y.hn ch) _
  rw [HT.out]
  exact h
 refine hK.out _ _ (fun _=>hHeld6) ?_
 clear hHeld
 have hHeld:=hHeld6
 clear hHeld6 hc6 d6 o6 n6
 clear hK K
 (try simp only [Act.put,zD,zE,zF])
 refine qaf 8 rfl hHeld ?_
 apply Exists.intro
 refine ⟨fun wq hSw=>?_,?_⟩
 ·(try dsimp only at hSw)
  go_simp
  try with_reducible rfl
 (try simp only [Act.put,zD,zE,zF])
 refine qao 9 rfl (by kernel_rfl) (fun K hK=>?_)
 have hcN:=hHeld.2.2.2.2.2.2.2
 have hfN:=hf6 p
 go_simp
 refine hK.out _ _ (fun h=>?_) ?_
 ·exact absurd h (by decide)
 clear hK K
 (try simp only [Act.put,zD,zE,zF])
 refine qbe (by kernel_rfl) ?_ _
 clear o9 b0 b1 b2 b3 k0 k1 k2 kf m0 mN lh cellh fh q5 q6 hf6 hcN hfN HEq HWi hHeld HT
 go_upto_region 3 with fail
 generalize w6.setCell ⟨gh,p,none⟩ (.slice a6 (y.hL p+1) c6)=W4 at *
 clear H1
 rcases zK (k == 2) with t2 | t2
 ·have hk:k=2:=by simpa using t2
  obtain ⟨g1,g2⟩:=HK2.out hk
  obtain ⟨r,rfl⟩:∃ r:Nat,q=r:=⟨q.toNat,by omega⟩
  have hr:r<y.pn:=by omega
  have hJ:p*y.pn+r<y.wn:=by rw [HN.out.2.2];exact qnv hp hr
  have h12:y.wL (p*y.pn+r)<=12:=HWY.out p r hp hr
  have hr4:r<4:=by omega
  have hp4:p<4:=by omega
  have HY:Hid ((y.evt p k (r:Int) v0).way p k (r:Int) v0=(y.evt p k (r:Int) v0).setW (p*y.pn+r) (y.wL (p*y.pn+r)+1) (fun i=>if i=y.wL (p*y.pn+r) then ⟨false,v0⟩ else y.wH (p*y.pn+r) i)):=by
   show (y.evt p k (r:Int) v0).way p k (r:Int) v0=_
   rw [show (y.evt p k (r:Int) v0).way p k (r:Int) v0=(y.evt p k (r:Int) v0).way p 2 (r:Int) v0 by rw [hk],Sy.way_send]
   rfl
  have HNu0:∀ x:SysIn,x.pn=y.pn->∀ wx,Calls Tryz.prog 171 #[x.v,.int .i64 p,.int .i64 r] wx fun e w'=>e=.returned (.int .i64 (p*y.pn+r:Nat))/\Below wx.heap.size wx w':=fun x e wx=>by
   have h:=qdp x p r wx hp4 hr4 (by omega)
   rw [e] at h
   exact h
  have HQu0:∀ x:SysIn,x.pn=y.pn->∀ wx,SysG wx x->p*y.pn+r<x.wn->Calls Tryz.prog 169 #[x.v,.int .i64 p,.int .i64 r] wx fun e w'=>e=.returned (.agg #[.slice (x.wA (p*y.pn+r)) (x.wL (p*y.pn+r)) (x.wC (p*y.pn+r)),.int .i64 12])/\Below wx.heap.size wx w':=fun x e wx hg hw=>by
   have h:=qc8 x p r wx hg hp4 hr4 (by omega) (by rw [e];exact hw)
   rw [e] at h
   exact h
  generalize p*y.pn+r=J at *
  have hJ':(J:Int)<(y.wn:Int):=by omega
  obtain ⟨c9,up9,us9,uw9,uh9,o9,-,-,-⟩:=H2.out.ow
  obtain ⟨b0,b1,b2,b3⟩:=H2.out.bx
  obtain ⟨k0,k1,k2,kf⟩:=id H2.out.ev
  have m0:=H2.out.bx.ltM
  have mN:=H2.out.ev.lt
  have OT9:LT z W4 (Cl B c9 3) (.slice (some ⟨gw,0,none⟩) y.wn cw) y.wn uw9 y.wL y.wH:=o9.t
  obtain ⟨g9,k9,ew,-,lw,cellw,fw⟩:=OT9.cell hJ
  simp only [Value.slice.injEq,Option.some.injEq,Addr.mk.injEq,and_true,true_and] at ew
  obtain ⟨rfl,rfl⟩:=ew
  have HNu:Hid (∀ wx,Calls Tryz.prog 171 #[sysV (some ⟨gp,0,none⟩) y.pn cp (some ⟨gs,0,none⟩) y.sn cs (some ⟨gw,0,none⟩) y.wn cw (some ⟨gh,0,none⟩) y.hn ch,.int .i64 p,.int .i64 r] wx fun e w'=>e=.returned (.int .i64 (J:Nat))/\Below wx.heap.size wx w'):=fun wx=>by
   have h:=HNu0 ((y.evt p k (r:Int) v0).sysIn (.slice (some ⟨gp,0,none⟩) y.pn cp) (.slice (some ⟨gs,0,none⟩) y.sn cs) (.slice (some ⟨gw,0,none⟩) y.wn cw) (.slice (some ⟨gh,0,none⟩) y.hn ch) up9 us9 uw9 uh9) rfl wx
   rw [o9.v] at h
   exact h
  have HQu:Hid (∀ wx,Below W4.heap.size W4 wx->Calls Tryz.prog 169 #[sysV (some ⟨gp,0,none⟩) y.pn cp (some ⟨gs,0,none⟩) y.sn cs (some ⟨gw,0,none⟩) y.wn cw (some ⟨gh,0,none⟩) y.hn ch,.int .i64 p,.int .i64 r] wx fun e w'=>e=.returned (.agg #[.slice (adOf (uw9 J)) (y.wL J) (cpOf (uw9 J)),.int .i64 12])/\Below wx.heap.size wx w'):=fun wx hb=>by
   have h:=HQu0 ((y.evt p k (r:Int) v0).sysIn (.slice (some ⟨gp,0,none⟩) y.pn cp) (.slice (some ⟨gs,0,none⟩) y.sn cs) (.slice (some ⟨gw,0,none⟩) y.wn cw) (.slice (some ⟨gh,0,none⟩) y.hn ch) up9 us9 uw9 uh9) rfl wx (o9.g.below hb) hJ
   rw [o9.v] at h
   exact h
  have HWi:Hid (∀ wx,Below W4.heap.size W4 wx->Calls Tryz.prog 170 #[.agg #[.slice (adOf (uw9 J)) (y.wL J) (cpOf (uw9 J)),.int .i64 12],.agg #[.bool false,.int .i64 v0]] wx fun e w'=>∃ a c,e=.returned (.slice a (y.wL J+1) c)/\w'.ownsRow wx.heap.size 138 2 (.slice a (y.wL J+1) c) (y.wL J+1) (fT (fun i=>if i=y.wL J then ⟨false,v0⟩ else y.wH J i) (y.wL J+1))/\Value.slice a (y.wL J+1) c≠.slice none 0 0/\Below wx.heap.size wx w'):=fun wx hb=>(qnw _ (y.wL J) _ 12 (y.wH J) ⟨false,v0⟩ wx (by omega) (srcT ((o9.g.below hb).wi J hJ))).mono fun e w' ⟨v,e1,e2,e3,e4⟩=>by
   obtain ⟨a,c,rfl⟩:=zU e2
   exact ⟨a,c,e1,e2,e3,e4⟩
  clear HNu0 HQu0 o9 OT9 hk
  go_upto_region 5 with fail
  refine qas (fun w'=>w'.cell? ⟨w.heap.size,0,none⟩=some (.slice (some ⟨gp,0,none⟩) y.pn cp)/\w'.cell? ⟨w.heap.size,1,none⟩=some (.slice (some ⟨gs,0,none⟩) y.sn cs)/\w'.cell? ⟨w.heap.size,2,none⟩=some (.slice (some ⟨gw,0,none⟩) y.wn cw)/\w'.cell? ⟨w.heap.size,3,none⟩=some (.slice (some ⟨gh,0,none⟩) y.hn ch)/\w'.cell? ⟨w.heap.size+1,1,none⟩=some (.int .i64 (r:Int))/\w'.cell? ⟨w.heap.size+1,2,none⟩=some (.int .i64 v0)/\w'.cell? ⟨gw,J,none⟩=some (uw9 J)) (fun i=>i == 17) (by kernel_rfl) ?_
  have hHeld:(fun w'=>w'.cell? ⟨w.heap.size,0,none⟩=some (.slice (some ⟨gp,0,none⟩) y.pn cp)/\w'.cell? ⟨w.heap.size,1,none⟩=some (.slice (some ⟨gs,0,none⟩) y.sn cs)/\w'.cell? ⟨w.heap.size,2,none⟩=some (.slice (some ⟨gw,0,none⟩) y.wn cw)/\w'.cell? ⟨w.heap.size,3,none⟩=some (.slice (some ⟨gh,0,none⟩) y.hn ch)/\w'.cell? ⟨w.heap.size+1,1,none⟩=some (.int .i64 (r:Int))/\w'.cell? ⟨w.heap.size+1,2,none⟩=some (.int .i64 v0)/\w'.cell? ⟨gw,J,none⟩=some (uw9 J)) W4.drew:=⟨b0,b1,b2,b3,k1,k2,cellw⟩
  have q0:Below W4.heap.size W4 W4.drew:=(Below.refl W4.heap.size W4).drew
  refine qb1 [0,1,2,3,4,5,7,8,9,10,12,13,14] ?_
  iterate 13 (refine qa9 rfl hHeld ?_;apply Exists.intro;refine ⟨fun wq hSw=>?_,?_⟩;(· ((try dsimp only at hSw);go_simp;try with_reducible rfl));(try simp only [Act.put,zD,zE,zF]))
  refine qbk ?_
  refine qao 6 rfl (by kernel_rfl) (fun K hK=>?_)
  refine qa5 rfl 171 _ _ rfl #[sysV (some ⟨gp,0,none⟩) y.pn cp (some ⟨gs,0,none⟩) y.sn cs (some ⟨gw,0,none⟩) y.wn cw (some ⟨gh,0,none⟩) y.hn ch,.int .i64 (p:Nat),.int .i64 (r:Nat)] (by simp [Act.eval]) (yA Tryz.func171 (by kernel_rfl) rfl) (HNu.out W4.drew) ?_
  rintro e wa ⟨rfl,d5⟩
  refine ⟨_,rfl,?_⟩
  have qwa:Below W4.heap.size W4 wa:=q0.trans (d5.mono q0.size)
  have hcwa:=(qam qwa).1
  have hHeldwa:(fun w'=>w'.cell? ⟨w.heap.size,0,none⟩=some (.slice (some ⟨gp,0,none⟩) y.pn cp)/\w'.cell? ⟨w.heap.size,1,none⟩=some (.slice (some ⟨gs,0,none⟩) y.sn cs)/\w'.cell? ⟨w.heap.size,2,none⟩=some (.slice (some ⟨gw,0,none⟩) y.wn cw)/\w'.cell? ⟨w.heap.size,3,none⟩=some (.slice (some ⟨gh,0,none⟩) y.hn ch)/\w'.cell? ⟨w.heap.size+1,1,none⟩=some (.int .i64 (r:Int))/\w'.cell? ⟨w.heap.size+1,2,none⟩=some (.int .i64 v0)/\w'.cell? ⟨gw,J,none⟩=some (uw9 J)) wa:=⟨(hcwa _ _ m0).trans b0,(hcwa _ _ m0).trans b1,(hcwa _ _ m0).trans b2,(hcwa _ _ m0).trans b3,(hcwa _ _ mN).trans k1,(hcwa _ _ mN).trans k2,(hcwa _ _ lw).trans cellw⟩
  refine hK.out _ _ (fun _=>hHeldwa) ?_
  clear hK K d5
  (try simp only [Act.put,zD,zE,zF])
  refine qao 11 rfl (by kernel_rfl) (fun K hK=>?_)
  refine qa5 rfl 169 _ _ rfl #[sysV (some ⟨gp,0,none⟩) y.pn cp (some ⟨gs,0,none⟩) y.sn cs (some ⟨gw,0,none⟩) y.wn cw (some ⟨gh,0,none⟩) y.hn ch,.int .i64 (p:Nat),.int .i64 (r:Nat)] (by simp [Act.eval]) (yA Tryz.func169 (by kernel_rfl) rfl) (HQu.out wa qwa) ?_
  rintro e wb ⟨rfl,d5⟩
  refine ⟨_,rfl,?_⟩
  have qwb:Below W4.heap.size W4 wb:=qwa.trans (d5.mono qwa.size)
  have hcwb:=(qam qwb).1
  have hHeldwb:(fun w'=>w'.cell? ⟨w.heap.size,0,none⟩=some (.slice (some ⟨gp,0,none⟩) y.pn cp)/\w'.cell? ⟨w.heap.size,1,none⟩=some (.slice (some ⟨gs,0,none⟩) y.sn cs)/\w'.cell? ⟨w.heap.size,2,none⟩=some (.slice (some ⟨gw,0,none⟩) y.wn cw)/\w'.cell? ⟨w.heap.size,3,none⟩=some (.slice (some ⟨gh,0,none⟩) y.hn ch)/\w'.cell? ⟨w.heap.size+1,1,none⟩=some (.int .i64 (r:Int))/\w'.cell? ⟨w.heap.size+1,2,none⟩=some (.int .i64 v0)/\w'.cell? ⟨gw,J,none⟩=some (uw9 J)) wb:=⟨(hcwb _ _ m0).trans b0,(hcwb _ _ m0).trans b1,(hcwb _ _ m0).trans b2,(hcwb _ _ m0).trans b3,(hcwb _ _ mN).trans k1,(hcwb _ _ mN).trans k2,(hcwb _ _ lw).trans cellw⟩
  refine hK.out _ _ (fun _=>hHeldwb) ?_
  clear hK K d5
  (try simp only [Act.put,zD,zE,zF])
  refine qao 15 rfl (by kernel_rfl) (fun K hK=>?_)
  refine qa5 rfl 170 _ _ rfl #[.agg #[.slice (adOf (uw9 J)) (y.wL J) (cpOf (uw9 J)),.int .i64 12],.agg #[.bool false,.int .i64 v0]] (by simp [Act.eval]) (yA Tryz.func170 (by kernel_rfl) rfl) (HWi.out wb qwb) ?_
  rintro e wd ⟨a6,c6,rfl,o6,n6,d6⟩
  refine ⟨_,rfl,?_⟩
  have qwd:Below W4.heap.size W4 wd:=qwb.trans (d6.mono qwb.size)
  have hcwd:=(qam qwd).1
  have hHeldwd:(fun w'=>w'.cell? ⟨w.heap.size,0,none⟩=some (.slice (some ⟨gp,0,none⟩) y.pn cp)/\w'.cell? ⟨w.heap.size,1,none⟩=some (.slice (some ⟨gs,0,none⟩) y.sn cs)/\w'.cell? ⟨w.heap.size,2,none⟩=some (.slice (some ⟨gw,0,none⟩) y.wn cw)/\w'.cell? ⟨w.heap.size,3,none⟩=some (.slice (some ⟨gh,0,none⟩) y.hn ch)/\w'.cell? ⟨w.heap.size+1,1,none⟩=some (.int .i64 (r:Int))/\w'.cell? ⟨w.heap.size+1,2,none⟩=some (.int .i64 v0)/\w'.cell? ⟨gw,J,none⟩=some (uw9 J)) wd:=⟨(hcwd _ _ m0).trans b0,(hcwd _ _ m0).trans b1,(hcwd _ _ m0).trans b2,(hcwd _ _ m0).trans b3,(hcwd _ _ mN).trans k1,(hcwd _ _ mN).trans k2,(hcwd _ _ lw).trans cellw⟩
  replace o6:=o6.mono qwb.size
  have hfw:∀ j,wd.frozen? ⟨gw,j,none⟩=false:=fun j=>((qam qwd).2 _ j lw).trans (fw j)
  have H3:Hid (Hp z w B c k (r:Int) v0 ((y.evt p k (r:Int) v0).setW J (y.wL J+1) (fun i=>if i=y.wL J then ⟨false,v0⟩ else y.wH J i)) (.slice (some ⟨gp,0,none⟩) y.pn cp) (.slice (some ⟨gs,0,none⟩) y.sn cs) (.slice (some ⟨gw,0,none⟩) y.wn cw) (.slice (some ⟨gh,0,none⟩) y.hn ch) (wd.setCell ⟨gw,J,none⟩ (.slice a6 (y.wL J+1) c6))):=H2.out.putW hB hJ qwd o6 n6
  refine hK.out _ _ (fun _=>hHeldwd) ?_
  clear hHeld
  have hHeld:=hHeldwd
  clear hK K
  (try simp only [Act.put,zD,zE,zF])
  refine qaf 16 rfl hHeld ?_
  apply Exists.intro
  refine ⟨fun wq hSw=>?_,?_⟩
  ·(try dsimp only at hSw)
   go_simp
   try with_reducible rfl
  (try simp only [Act.put,zD,zE,zF])
  refine qao 17 rfl (by kernel_rfl) (fun K hK=>?_)
  have hcN:=hHeld.2.2.2.2.2.2
  have hfN:=hfw J
  go_simp
  refine hK.out _ _ (fun h=>?_) ?_
  ·exact absurd h (by decide)
  clear hK K
  (try simp only [Act.put,zD,zE,zF])
  refine qbe (by kernel_rfl) ?_ _
  clear hcN hfN hHeld hfw
  go_wp2_with fail
  go_end0
  exact ⟨rfl, H3.out.be, H3.out.kp, by
   rw [HY.out]
   exact H3.out.ownK⟩
 rcases zK (k == 3) with t3 | t3
 ·have hk:k=3:=by simpa using t3
  obtain ⟨g1,g2,g3⟩:=HK3.out hk
  obtain ⟨r,rfl⟩:∃ r:Nat,q=r:=⟨q.toNat,by omega⟩
  rw [Int.toNat_natCast] at g3
  have hr:r<y.pn:=by omega
  have hJ:r*y.pn+p<y.wn:=by rw [HN.out.2.2];exact qnv hr hp
  have h12:y.wL (r*y.pn+p)<=12:=HWY.out r p hr hp
  have hr4:r<4:=by omega
  have hp4:p<4:=by omega
  have HY:Hid ((y.evt p k (r:Int) v0).way p k (r:Int) v0=(y.evt p k (r:Int) v0).setW (r*y.pn+p) (y.wL (r*y.pn+p) - 1) (fun i=>y.wH (r*y.pn+p) (i+1))):=by
   show (y.evt p k (r:Int) v0).way p k (r:Int) v0=_
   rw [show (y.evt p k (r:Int) v0).way p k (r:Int) v0=(y.evt p k (r:Int) v0).way p 3 (r:Int) v0 by rw [hk],Sy.way_take]
   rfl
  have HNu0:∀ x:SysIn,x.pn=y.pn->∀ wx,Calls Tryz.prog 171 #[x.v,.int .i64 r,.int .i64 p] wx fun e w'=>e=.returned (.int .i64 (r*y.pn+p:Nat))/\Below wx.heap.size wx w':=fun x e wx=>by
   have h:=qdp x r p wx hr4 hp4 (by omega)
   rw [e] at h
   exact h
  have HQu0:∀ x:SysIn,x.pn=y.pn->∀ wx,SysG wx x->r*y.pn+p<x.wn->Calls Tryz.prog 169 #[x.v,.int .i64 r,.int .i64 p] wx fun e w'=>e=.returned (.agg #[.slice (x.wA (r*y.pn+p)) (x.wL (r*y.pn+p)) (x.wC (r*y.pn+p)),.int .i64 12])/\Below wx.heap.size wx w':=fun x e wx hg hw=>by
   have h:=qc8 x r p wx hg hr4 hp4 (by omega) (by rw [e];exact hw)
   rw [e] at h
   exact h
  generalize r*y.pn+p=J at *
  have hJ':(J:Int)<(y.wn:Int):=by omega
  obtain ⟨c9,up9,us9,uw9,uh9,o9,-,-,-⟩:=H2.out.ow
  obtain ⟨b0,b1,b2,b3⟩:=H2.out.bx
  obtain ⟨k0,k1,k2,kf⟩:=id H2.out.ev
  have m0:=H2.out.bx.ltM
  have mN:=H2.out.ev.lt
  have OT9:LT z W4 (Cl B c9 3) (.slice (some ⟨gw,0,none⟩) y.wn cw) y.wn uw9 y.wL y.wH:=o9.t
  obtain ⟨g9,k9,ew,-,lw,cellw,fw⟩:=OT9.cell hJ
  simp only [Value.slice.injEq,Option.some.injEq,Addr.mk.injEq,and_true,true_and] at ew
  obtain ⟨rfl,rfl⟩:=ew
  obtain ⟨bw,cbw,euw,hbw,hIt,hcapw⟩:=atT (OT9.own J hJ) ((qtx (OT9.own J hJ)).resolve_left (by omega))
  have hcm:cbw<=maxLen:=by
   have h:=OT9.own J hJ
   rw [euw] at h
   exact qo8 h
  have HNu:Hid (∀ wx,Calls Tryz.prog 171 #[sysV (some ⟨gp,0,none⟩) y.pn cp (some ⟨gs,0,none⟩) y.sn cs (some ⟨gw,0,none⟩) y.wn cw (some ⟨gh,0,none⟩) y.hn ch,.int .i64 r,.int .i64 p] wx fun e w'=>e=.returned (.int .i64 (J:Nat))/\Below wx.heap.size wx w'):=fun wx=>by
   have h:=HNu0 ((y.evt p k (r:Int) v0).sysIn (.slice (some ⟨gp,0,none⟩) y.pn cp) (.slice (some ⟨gs,0,none⟩) y.sn cs) (.slice (some ⟨gw,0,none⟩) y.wn cw) (.slice (some ⟨gh,0,none⟩) y.hn ch) up9 us9 uw9 uh9) rfl wx
   rw [o9.v] at h
   exact h
  have HQu:Hid (∀ wx,Below W4.heap.size W4 wx->Calls Tryz.prog 169 #[sysV (some ⟨gp,0,none⟩) y.pn cp (some ⟨gs,0,none⟩) y.sn cs (some ⟨gw,0,none⟩) y.wn cw (some ⟨gh,0,none⟩) y.hn ch,.int .i64 r,.int .i64 p] wx fun e w'=>e=.returned (.agg #[.slice (some ⟨bw,0,none⟩) (y.wL J) cbw,.int .i64 12])/\Below wx.heap.size wx w'):=fun wx hb=>by
   have h:=HQu0 ((y.evt p k (r:Int) v0).sysIn (.slice (some ⟨gp,0,none⟩) y.pn cp) (.slice (some ⟨gs,0,none⟩) y.sn cs) (.slice (some ⟨gw,0,none⟩) y.wn cw) (.slice (some ⟨gh,0,none⟩) y.hn ch) up9 us9 uw9 uh9) rfl wx (o9.g.below hb) hJ
   rw [o9.v] at h
   refine h.mono fun e w' hh=>⟨hh.1.trans ?_,hh.2⟩
   show Ending.returned (.agg #[.slice (adOf (uw9 J)) (y.wL J) (cpOf (uw9 J)),.int .i64 12])=_
   rw [euw]
   rfl
  have HWi:Hid (∀ wx,Below W4.heap.size W4 wx->Calls Tryz.prog 172 #[.agg #[.slice (some ⟨bw,0,none⟩) (y.wL J) cbw,.int .i64 12]] wx fun e w'=>∃ a c,e=.returned (.slice a (y.wL J - 1) c)/\w'.ownsRow wx.heap.size 138 2 (.slice a (y.wL J - 1) c) (y.wL J - 1) (fT (fun i=>y.wH J (i+1)) (y.wL J - 1))/\Value.slice a (y.wL J - 1) c≠.slice none 0 0/\Below wx.heap.size wx w'):=fun wx hb=>qm9 bw (y.wL J) cbw 12 (y.wH J) wx (by omega) (by omega) hcapw hcm (zL hbw hb.size) (hIt.below hb hbw)
  clear HNu0 HQu0 o9 OT9 hk hIt
  go_upto_region 7 with fail
  refine qas (fun w'=>w'.cell? ⟨w.heap.size,0,none⟩=some (.slice (some ⟨gp,0,none⟩) y.pn cp)/\w'.cell? ⟨w.heap.size,1,none⟩=some (.slice (some ⟨gs,0,none⟩) y.sn cs)/\w'.cell? ⟨w.heap.size,2,none⟩=some (.slice (some ⟨gw,0,none⟩) y.wn cw)/\w'.cell? ⟨w.heap.size,3,none⟩=some (.slice (some ⟨gh,0,none⟩) y.hn ch)/\w'.cell? ⟨w.heap.size+1,1,none⟩=some (.int .i64 (r:Int))/\w'.cell? ⟨w.heap.size+1,2,none⟩=some (.int .i64 v0)/\w'.cell? ⟨gw,J,none⟩=some (uw9 J)) (fun i=>i == 14) (by kernel_rfl) ?_
  have hHeld:(fun w'=>w'.cell? ⟨w.heap.size,0,none⟩=some (.slice (some ⟨gp,0,none⟩) y.pn cp)/\w'.cell? ⟨w.heap.size,1,none⟩=some (.slice (some ⟨gs,0,none⟩) y.sn cs)/\w'.cell? ⟨w.heap.size,2,none⟩=some (.slice (some ⟨gw,0,none⟩) y.wn cw)/\w'.cell? ⟨w.heap.size,3,none⟩=some (.slice (some ⟨gh,0,none⟩) y.hn ch)/\w'.cell? ⟨w.heap.size+1,1,none⟩=some (.int .i64 (r:Int))/\w'.cell? ⟨w.heap.size+1,2,none⟩=some (.int .i64 v0)/\w'.cell? ⟨gw,J,none⟩=some (uw9 J)) W4.drew:=⟨b0,b1,b2,b3,k1,k2,cellw⟩
  have q0:Below W4.heap.size W4 W4.drew:=(Below.refl W4.heap.size W4).drew
  refine qb1 [0,1,2,3,4,5,7,8,9,10] ?_
  iterate 10 (refine qa9 rfl hHeld ?_;apply Exists.intro;refine ⟨fun wq hSw=>?_,?_⟩;(· ((try dsimp only at hSw);go_simp;try with_reducible rfl));(try simp only [Act.put,zD,zE,zF]))
  refine qbk ?_
  refine qao 6 rfl (by kernel_rfl) (fun K hK=>?_)
  refine qa5 rfl 171 _ _ rfl #[sysV (some ⟨gp,0,none⟩) y.pn cp (some ⟨gs,0,none⟩) y.sn cs (some ⟨gw,0,none⟩) y.wn cw (some ⟨gh,0,none⟩) y.hn ch,.int .i64 (r:Nat),.int .i64 (p:Nat)] (by simp [Act.eval]) (yA Tryz.func171 (by kernel_rfl) rfl) (HNu.out W4.drew) ?_
  rintro e wa ⟨rfl,d5⟩
  refine ⟨_,rfl,?_⟩
  have qwa:Below W4.heap.size W4 wa:=q0.trans (d5.mono q0.size)
  have hcwa:=(qam qwa).1
  have hHeldwa:(fun w'=>w'.cell? ⟨w.heap.size,0,none⟩=some (.slice (some ⟨gp,0,none⟩) y.pn cp)/\w'.cell? ⟨w.heap.size,1,none⟩=some (.slice (some ⟨gs,0,none⟩) y.sn cs)/\w'.cell? ⟨w.heap.size,2,none⟩=some (.slice (some ⟨gw,0,none⟩) y.wn cw)/\w'.cell? ⟨w.heap.size,3,none⟩=some (.slice (some ⟨gh,0,none⟩) y.hn ch)/\w'.cell? ⟨w.heap.size+1,1,none⟩=some (.int .i64 (r:Int))/\w'.cell? ⟨w.heap.size+1,2,none⟩=some (.int .i64 v0)/\w'.cell? ⟨gw,J,none⟩=some (uw9 J)) wa:=⟨(hcwa _ _ m0).trans b0,(hcwa _ _ m0).trans b1,(hcwa _ _ m0).trans b2,(hcwa _ _ m0).trans b3,(hcwa _ _ mN).trans k1,(hcwa _ _ mN).trans k2,(hcwa _ _ lw).trans cellw⟩
  refine hK.out _ _ (fun _=>hHeldwa) ?_
  clear hK K d5
  (try simp only [Act.put,zD,zE,zF])
  refine qao 11 rfl (by kernel_rfl) (fun K hK=>?_)
  refine qa5 rfl 169 _ _ rfl #[sysV (some ⟨gp,0,none⟩) y.pn cp (some ⟨gs,0,none⟩) y.sn cs (some ⟨gw,0,none⟩) y.wn cw (some ⟨gh,0,none⟩) y.hn ch,.int .i64 (r:Nat),.int .i64 (p:Nat)] (by simp [Act.eval]) (yA Tryz.func169 (by kernel_rfl) rfl) (HQu.out wa qwa) ?_
  rintro e wb ⟨rfl,d5⟩
  refine ⟨_,rfl,?_⟩
  have qwb:Below W4.heap.size W4 wb:=qwa.trans (d5.mono qwa.size)
  have hcwb:=(qam qwb).1
  have hHeldwb:(fun w'=>w'.cell? ⟨w.heap.size,0,none⟩=some (.slice (some ⟨gp,0,none⟩) y.pn cp)/\w'.cell? ⟨w.heap.size,1,none⟩=some (.slice (some ⟨gs,0,none⟩) y.sn cs)/\w'.cell? ⟨w.heap.size,2,none⟩=some (.slice (some ⟨gw,0,none⟩) y.wn cw)/\w'.cell? ⟨w.heap.size,3,none⟩=some (.slice (some ⟨gh,0,none⟩) y.hn ch)/\w'.cell? ⟨w.heap.size+1,1,none⟩=some (.int .i64 (r:Int))/\w'.cell? ⟨w.heap.size+1,2,none⟩=some (.int .i64 v0)/\w'.cell? ⟨gw,J,none⟩=some (uw9 J)) wb:=⟨(hcwb _ _ m0).trans b0,(hcwb _ _ m0).trans b1,(hcwb _ _ m0).trans b2,(hcwb _ _ m0).trans b3,(hcwb _ _ mN).trans k1,(hcwb _ _ mN).trans k2,(hcwb _ _ lw).trans cellw⟩
  refine hK.out _ _ (fun _=>hHeldwb) ?_
  clear hK K d5
  (try simp only [Act.put,zD,zE,zF])
  refine qao 12 rfl (by kernel_rfl) (fun K hK=>?_)
  refine qa5 rfl 172 _ _ rfl #[.agg #[.slice (some ⟨bw,0,none⟩) (y.wL J) cbw,.int .i64 12]] (by simp [Act.eval]) (yA Tryz.func172 (by kernel_rfl) rfl) (HWi.out wb qwb) ?_
  rintro e wd ⟨a6,c6,rfl,o6,n6,d6⟩
  refine ⟨_,rfl,?_⟩
  have qwd:Below W4.heap.size W4 wd:=qwb.trans (d6.mono qwb.size)
  have hcwd:=(qam qwd).1
  have hHeldwd:(fun w'=>w'.cell? ⟨w.heap.size,0,none⟩=some (.slice (some ⟨gp,0,none⟩) y.pn cp)/\w'.cell? ⟨w.heap.size,1,none⟩=some (.slice (some ⟨gs,0,none⟩) y.sn cs)/\w'.cell? ⟨w.heap.size,2,none⟩=some (.slice (some ⟨gw,0,none⟩) y.wn cw)/\w'.cell? ⟨w.heap.size,3,none⟩=some (.slice (some ⟨gh,0,none⟩) y.hn ch)/\w'.cell? ⟨w.heap.size+1,1,none⟩=some (.int .i64 (r:Int))/\w'.cell? ⟨w.heap.size+1,2,none⟩=some (.int .i64 v0)/\w'.cell? ⟨gw,J,none⟩=some (uw9 J)) wd:=⟨(hcwd _ _ m0).trans b0,(hcwd _ _ m0).trans b1,(hcwd _ _ m0).trans b2,(hcwd _ _ m0).trans b3,(hcwd _ _ mN).trans k1,(hcwd _ _ mN).trans k2,(hcwd _ _ lw).trans cellw⟩
  replace o6:=o6.mono qwb.size
  have hfw:∀ j,wd.frozen? ⟨gw,j,none⟩=false:=fun j=>((qam qwd).2 _ j lw).trans (fw j)
  have H3:Hid (Hp z w B c k (r:Int) v0 ((y.evt p k (r:Int) v0).setW J (y.wL J - 1) (fun i=>y.wH J (i+1))) (.slice (some ⟨gp,0,none⟩) y.pn cp) (.slice (some ⟨gs,0,none⟩) y.sn cs) (.slice (some ⟨gw,0,none⟩) y.wn cw) (.slice (some ⟨gh,0,none⟩) y.hn ch) (wd.setCell ⟨gw,J,none⟩ (.slice a6 (y.wL J - 1) c6))):=H2.out.putW hB hJ qwd o6 n6
  refine hK.out _ _ (fun _=>hHeldwd) ?_
  clear hHeld
  have hHeld:=hHeldwd
  clear hK K
  (try simp only [Act.put,zD,zE,zF])
  refine qaf 13 rfl hHeld ?_
  apply Exists.intro
  refine ⟨fun wq hSw=>?_,?_⟩
  ·(try dsimp only at hSw)
   go_simp
   try with_reducible rfl
  (try simp only [Act.put,zD,zE,zF])
  refine qao 14 rfl (by kernel_rfl) (fun K hK=>?_)
  have hcN:=hHeld.2.2.2.2.2.2
  have hfN:=hfw J
  go_simp
  refine hK.out _ _ (fun h=>?_) ?_
  ·exact absurd h (by decide)
  clear hK K
  (try simp only [Act.put,zD,zE,zF])
  refine qbe (by kernel_rfl) ?_ _
  clear hcN hfN hHeld hfw
  go_wp2_with fail
  go_end0
  exact ⟨rfl, H3.out.be, H3.out.kp, by
   rw [HY.out]
   exact H3.out.ownK⟩
 ·have hk2:k≠2:=by simpa using t2
  have hk3:k≠3:=by simpa using t3
  have HY:Hid ((y.evt p k q v0).way p k q v0=y.evt p k q v0):=Sy.way_no _ p hk2 hk3 q v0
  obtain ⟨k0,k1,k2,kf⟩:=H2.out.ev
  clear hk2 hk3
  go_wp2_with fail
  go_end0
  exact ⟨rfl, H2.out.be, H2.out.kp, by
   rw [HY.out]
   exact H2.out.ownK⟩
variable {z:Bool}
theorem qsx {y:Sy} {p:Nat} {f:Int} (h:cmS y p f=0) (hk:y.nk p=3):tkS y p (y.eq p f)=0:=by
 unfold cmS at h
 rw [Sy.eq,if_pos hk]
 by_cases h1:(y.sS p).c≠0
 ·rw [if_pos h1] at h
  cases h
 ·rw [if_neg h1] at h
  by_cases h2:fuS y p (y.nk p) (y.nq p)=true
  ·rw [if_pos h2] at h
   cases h
  ·rw [if_neg h2,if_pos hk] at h
   exact h
theorem qxr {y:Sy} {p:Nat} {g:Int} (h:tkS y p g=0):0<=g/\g<y.pn/\0<y.wL (g.toNat*y.pn+p):=by
 unfold tkS at h
 by_cases h1:belB g y.pn=true
 ·rw [if_pos h1] at h
  simp only [belB,decide_eq_true_eq] at h1
  refine ⟨h1.1,h1.2,?_⟩
  rcases Nat.eq_zero_or_pos (y.wL (g.toNat*y.pn+p)) with e | e
  ·rw [if_pos e] at h
   cases h
  ·exact e
 ·rw [if_neg h1] at h
  cases h
theorem qu7 {x:SysIn} {p:Nat} {f:Int} (h:cmS x.y p f=0):cmV x p f=evV (x.y.nk p) (x.y.eq p f) (x.y.ev p f):=by
 have hc:cmC x p f=0:=h
 unfold cmV
 rw [if_pos hc]
 by_cases hk:x.nk p=3
 ·have ht:tkS x.y p (x.y.eq p f)=0:=qsx h hk
  have e:x.y.eq p f=if x.nq p=9 then f else x.nq p:=if_pos hk
  have e2:x.y.ev p f=(x.y.wH ((x.y.eq p f).toNat*x.y.pn+p) 0).v:=if_pos hk
  have e3:x.y.nk p=3:=hk
  rw [if_pos hk,<- e,e2,e3,tkV]
  have ht':tkC x p (x.y.eq p f)=0:=ht
  rw [if_pos ht']
  rfl
 ·have e:x.y.eq p f=x.nq p:=if_neg hk
  have e2:x.y.ev p f=x.nv p:=if_neg hk
  rw [if_neg hk,e,e2]
  rfl
structure QsC (w:World) (N:Nat) (a b:Value):Prop where
 c0:w.cell? ⟨N,0,none⟩=some a
 c1:w.cell? ⟨N,1,none⟩=some b
 fz:∀ j,w.frozen? ⟨N,j,none⟩=false
theorem QsC.below {w w':World} {N:Nat} {a b:Value} (h:QsC w N a b) (hb:Below w.heap.size w w'):QsC w' N a b:=by
 have hN:N<w.heap.size:=zJ w _ h.c0
 exact ⟨(hb.cell hN).trans h.c0,(hb.cell hN).trans h.c1,fun j=>((qam hb).2 N j hN).trans (h.fz j)⟩
theorem QsC.new (w:World) (a b:Value) (t:TypeId):QsC (w.alloc (.cells #[a,b] t)) w.heap.size a b:=
 ⟨zW _ _ _ 0 rfl,zW _ _ _ 1 rfl,fun _=>yB _ _ _ _ rfl⟩
abbrev pkV (m v:Int):Value:=.agg #[.int .i64 m,.int .i64 v]
variable {z:Bool}
theorem Sy.Ok.stY {y:Sy} (h:y.Ok) (p f:Int):(stY y p f).Ok:=by
 unfold Go.Proofs.YtchhijiibjijhaaGreatDoor.stY
 rw [if_pos (Sy.okB_true h)]
 by_cases hb:belB p y.pn=true
 ·rw [if_pos hb]
  have hb':0<=p/\p<(y.pn:Int):=of_decide_eq_true hb
  by_cases hc:cmS y p.toNat f=0
  ·exact h.step (by omega) hc
  ·rw [Sy.step_no hc]
   exact h
 ·rw [if_neg hb]
  exact h
theorem qv2 {x:SysIn} (h:x.y.Sm):x.Len:=by
 obtain ⟨⟨a,b,c,d⟩,h1,h2,h3,h4⟩:=h
 refine ⟨⟨?_,fun i hi=>?_⟩,⟨?_,fun i hi=>?_⟩,⟨?_,fun i hi=>?_⟩,⟨?_,fun i hi=>?_⟩⟩
 ·exact zP a (by omega)
 ·exact zP (h1 i hi) (by omega)
 ·exact zP b (by omega)
 ·exact ⟨zP (h2 i hi).1 (by omega),zP (h2 i hi).2 (by omega)⟩
 ·exact zP c (by omega)
 ·exact zP (h3 i hi) (by omega)
 ·exact zP d (by omega)
 ·exact zP (h4 i hi) (by omega)
theorem qje (y:Sy) (p f:Int) (w:World) (B:Nat) (c:Nat->Nat) (vp vs vw vh:Value) (up us uw uh:Nat->Value) (o:OwnS z w B c y vp vs vw vh up us uw uh) (hB:B<=w.heap.size) (hO:y.Ok):
  Calls Tryz.prog 51 #[.agg #[vp,vs,vw,vh],pkV p f] w fun e w'=>e=.returned (.int .i64 (stC y p f))/\Below B w w'/\(∀ b,b<w.heap.size->c b=0->w'.heap[b]? = w.heap[b]?)/\OwnK z w' B c w.heap.size (stY y p f) vp vs vw vh:=by
 obtain ⟨x,hx⟩:∃ x,y.sysIn vp vs vw vh up us uw uh=x:=⟨_,rfl⟩
 have ey:x.y=y:=by rw [<- hx];rfl
 have ev:x.v=.agg #[vp,vs,vw,vh]:=by rw [<- hx];exact o.v
 have hG:SysG w x:=by rw [<- hx];exact o.g
 have HG:Hid (SysG w x):=hG
 have HL:Hid x.Len:=qv2 (by rw [ey];exact hO.sm)
 have HO:Hid x.y.Ok:=by rw [ey];exact hO
 have t:x.y.okB=true:=Sy.okB_true HO.out
 obtain ⟨k,q,v0,HCM⟩:∃ k q v0:Int,Hid ((∀ wx,Below w.heap.size w wx->Calls Tryz.prog 100 #[x.v,.int .i64 p,.int .i64 f] wx fun e w'=>e=.returned (.tuple #[evV k q v0,.int .i64 (stC x.y p f)])/\Below wx.heap.size wx w')/\(stC x.y p f≠0->stY x.y p f=x.y)/\(stC x.y p f=0->∃ a:Nat,p=a/\a<x.y.pn/\stY x.y p f=(x.y.evt a k q v0).way a k q v0/\(k=2->0<=q/\q<x.y.pn)/\(k=3->0<=q/\q<x.y.pn/\0<x.y.wL (q.toNat*x.y.pn+a)))):=by
  by_cases hb:belB p x.y.pn=true
  ·have hb':0<=p/\p<(x.y.pn:Int):=by simpa [belB] using hb
   obtain ⟨a,rfl⟩:∃ a:Nat,p=a:=⟨p.toNat,by omega⟩
   have ha:a<x.y.pn:=by omega
   obtain ⟨⟨h1,h4⟩,hs,hh,hw⟩:=HO.out.cn
   have hC:stC x.y (a:Int) f=cmS x.y a f:=by rw [stC,if_pos t,if_pos hb,Int.toNat_natCast]
   have hY:stY x.y (a:Int) f=x.y.step a f:=by rw [stY,if_pos t,if_pos hb,Int.toNat_natCast]
   have hcall:∀ wx,Below w.heap.size w wx->Calls Tryz.prog 100 #[x.v,.int .i64 a,.int .i64 f] wx fun e w'=>e=.returned (.tuple #[cmV x a f,.int .i64 (cmC x a f)])/\Below wx.heap.size wx w':=fun wx hbx=>ql2 x a f wx (HG.out.below hbx) HL.out ha h4 hs hh hw (HO.out.four ha) (HO.out.peer ha)
   by_cases h0:cmS x.y a f=0
   ·refine ⟨x.y.nk a,x.y.eq a f,x.y.ev a f,fun wx hbx=>?_,fun hne=>absurd (hC.trans h0) hne,fun _=>⟨a,rfl,ha,?_,fun hk=>?_,fun hk=>?_⟩⟩
    ·rw [hC,<- qu7 h0]
     exact hcall wx hbx
    ·rw [hY,Sy.step,if_pos h0,Sy.way_evt]
    ·have:=HO.out.peer ha hk
     rw [Sy.eq,if_neg (by rw [hk];decide)]
     exact this
    ·exact qxr (qsx h0 hk)
   ·refine ⟨0,0,0,fun wx hbx=>?_,fun _=>hY.trans (Sy.step_no h0),fun h=>absurd (hC.symm.trans h) h0⟩
    have e:cmV x a f=evV 0 0 0:=if_neg h0
    rw [hC,<- e]
    exact hcall wx hbx
  ·have hC:stC x.y p f=2:=by rw [stC,if_pos t,if_neg hb]
   refine ⟨0,0,0,fun wx _=>?_,fun _=>?_,fun h=>?_⟩
   ·rw [hC]
    exact ql3 x p f wx (by
     cases h:belB p x.pn with
     | false=>rfl
     | true=>exact absurd h hb)
   ·rw [stY,if_pos t,if_neg hb]
   ·rw [hC] at h
    cases h
 rw [ev,ey] at HCM
 obtain ⟨pa,pc,rfl⟩:=zU o.p.row
 obtain ⟨sa,sc,rfl⟩:=zU o.s.row
 obtain ⟨wa,wc,rfl⟩:=zU o.t.row
 obtain ⟨ha,hc,rfl⟩:=zU o.h.row
 have HOW:Hid (OwnS z w B c y (.slice pa y.pn pc) (.slice sa y.sn sc) (.slice wa y.wn wc) (.slice ha y.hn hc) up us uw uh/\B<=w.heap.size/\y.Ok):=⟨o,hB,hO⟩
 generalize hC:stC y p f=C at *
 generalize hY:stY y p f=Y at *
 clear hC hY
 clear HG HL HO t hG ev ey hx x o hB hO
 have BA:Hid (Below w.heap.size w ((w.alloc (oQ4 pa y.pn pc sa y.sn sc wa y.wn wc ha y.hn hc)).alloc (.cells #[.int .i64 p,.int .i64 f] 84))):=(zQ _ _).trans ((zQ _ _).mono (by simp))
 have NB:Hid (BoxC ((w.alloc (oQ4 pa y.pn pc sa y.sn sc wa y.wn wc ha y.hn hc)).alloc (.cells #[.int .i64 p,.int .i64 f] 84)) w.heap.size (.slice pa y.pn pc) (.slice sa y.sn sc) (.slice wa y.wn wc) (.slice ha y.hn hc)):=(BoxC.new w _ _ _ _ _).below (zQ _ _)
 have PB:Hid (QsC ((w.alloc (oQ4 pa y.pn pc sa y.sn sc wa y.wn wc ha y.hn hc)).alloc (.cells #[.int .i64 p,.int .i64 f] 84)) (w.heap.size+1) (.int .i64 p) (.int .i64 f)):=by
  have:=QsC.new (w.alloc (oQ4 pa y.pn pc sa y.sn sc wa y.wn wc ha y.hn hc)) (.int .i64 p) (.int .i64 f) 84
  rw [World.size_alloc] at this
  exact this
 go_enter Tryz.func51,Tryz.ntmps51
 go_wp2_with fail
 generalize (w.alloc (oQ4 pa y.pn pc sa y.sn sc wa y.wn wc ha y.hn hc)).alloc (.cells #[.int .i64 p,.int .i64 f] 84)=W2 at *
 refine (HCM.out.1 W2 BA.out).mono ?_
 rintro e w5 ⟨rfl,q5⟩
 have bb:=zQ w5 (oQ0 k q v0)
 have Q6:=q5.trans (bb.mono q5.size)
 have B6:Hid (Below w.heap.size w (w5.alloc (oQ0 k q v0))/\BoxC (w5.alloc (oQ0 k q v0)) w.heap.size (.slice pa y.pn pc) (.slice sa y.sn sc) (.slice wa y.wn wc) (.slice ha y.hn hc)/\QsC (w5.alloc (oQ0 k q v0)) (w.heap.size+1) (.int .i64 p) (.int .i64 f)/\EvK (w5.alloc (oQ0 k q v0)) w5.heap.size k q v0):=⟨BA.out.trans (Q6.mono BA.out.size),NB.out.below Q6,PB.out.below Q6,EvK.new w5 _ _ _ _⟩
 go_upto_region 2 with fail
 clear q5 bb Q6 BA NB PB
 generalize w5.heap.size=E at *
 generalize w5.alloc (oQ0 k q v0)=W6 at *
 clear w5 W2
 by_cases hc0:C=0
 ·obtain ⟨a,ea,ha',hY,hk2,hk3⟩:=HCM.out.2.2 hc0
  subst ea
  subst hc0
  have HH:Hid (Calls Tryz.prog 101 #[.agg #[.slice pa y.pn pc,.slice sa y.sn sc,.slice wa y.wn wc,.slice ha y.hn hc],.int .i64 a,evV k q v0] W6 fun e w'=>e=.returned (.tuple #[])/\Below B W6 w'/\(∀ b,b<W6.heap.size->c b=0->w'.heap[b]? = W6.heap[b]?)/\OwnK z w' B c W6.heap.size Y (.slice pa y.pn pc) (.slice sa y.sn sc) (.slice wa y.wn wc) (.slice ha y.hn hc)):=by
   have h:=qrr y a k q v0 W6 B _ _ _ _ _ up us uw uh (HOW.out.1.below B6.out.1) (zP HOW.out.2.1 B6.out.1.size) HOW.out.2.2 ha' hk2 hk3
   rw [<- hY] at h
   exact h
  obtain ⟨a0,a1,a2,a3⟩:=B6.out.2.1
  obtain ⟨e0,e1,e2,-⟩:=B6.out.2.2.2
  obtain ⟨f0,f1,-⟩:=B6.out.2.2.1
  clear hY hk2 hk3 HCM
  go_wp2_with fail
  refine HH.out.mono ?_
  rintro e w7 ⟨rfl,q7,kp,c7,up7,us7,uw7,uh7,o7,kc7⟩
  have B7:Hid (Below B w w7/\(∀ b,b<w.heap.size->c b=0->w7.heap[b]? = w.heap[b]?)/\OwnK z w7 B c w.heap.size Y (.slice pa y.pn pc) (.slice sa y.sn sc) (.slice wa y.wn wc) (.slice ha y.hn hc)):=⟨(B6.out.1.mono HOW.out.2.1).trans q7,fun b hb hz=>(kp b (zL hb B6.out.1.size) hz).trans (B6.out.1.block b hb),c7,up7,us7,uw7,uh7,o7,fun b hb=>kc7 b (zL hb B6.out.1.size)⟩
  clear a0 a1 a2 a3 e0 e1 e2 f0 f1 kp o7 q7 HH kc7
  go_wp2
  go_ret
  exact ⟨rfl,B7.out⟩
 ·have tc:(C == 0)=false:=by simpa using hc0
  have hY:=HCM.out.2.1 hc0
  have B7:Hid (Below B w W6/\(∀ b,b<w.heap.size->c b=0->W6.heap[b]? = w.heap[b]?)/\OwnK z W6 B c w.heap.size Y (.slice pa y.pn pc) (.slice sa y.sn sc) (.slice wa y.wn wc) (.slice ha y.hn hc)):=⟨B6.out.1.mono HOW.out.2.1,fun b hb _=>B6.out.1.block b hb,c,up,us,uw,uh,by rw [hY];exact HOW.out.1.below B6.out.1,fun _ _=>rfl⟩
  clear hY HCM hc0
  go_wp2
  go_ret
  exact ⟨rfl,B7.out⟩
