import Derived.Test.YtkdablcbhhphoaaGreatDoorMt1
import Derived.Lib.QuietBelow
namespace Go.Proofs.YtkdablcbhhphoaaGreatDoor
open Go.Proofs.Tryz
set_option maxRecDepth 100000
set_option maxHeartbeats 1000000
open Go.RowKit
theorem qaf {x y:Bool} (h:x=y):Ending.returned (.bool x)=.returned (.bool y):=by rw [h]
theorem qju (op r a b n places procs:Int) (w:World) (h1:inB r 0 3=true) (h2:inB a 0 3=true) (h3:inB b 0 3=true) (h4:inB procs 1 4=true) (h5:1<=procs) (h6:procs<=4) (h:op<1\/11<op):
  Calls prog 173 #[insV op r a b n,.int .i64 places,.int .i64 procs] w (rB w (.bool false)):=by
 have g1:(op == 1)=false:=by simp;omega
 have g2:(op == 2)=false:=by simp;omega
 have g3:(op == 3)=false:=by simp;omega
 have g4:(op == 4)=false:=by simp;omega
 have g5:(op == 5)=false:=by simp;omega
 have g6:(op == 6)=false:=by simp;omega
 have g7:(op == 7)=false:=by simp;omega
 have g8:(op == 8)=false:=by simp;omega
 have g9:(op == 9)=false:=by simp;omega
 have g10:(op == 10)=false:=by simp;omega
 have g11:(op == 11)=false:=by simp;omega
 clear h
 go_enter func173,ntmps173
 go_wp2_with (first|(go_at_call 20;refine (l1In_any _ _ _ _).mono ?_;rintro e w' ⟨rfl,rfl⟩)|(go_at_call 158;refine (l1Num_any _ _).mono ?_;rintro e w' ⟨rfl,rfl⟩))
 all_goals
  go_ret;exact ⟨rfl,by go_grown⟩
theorem qlz (op r a b n places procs:Int) (w:World) (h:(inB r 0 3 && inB a 0 3 && inB b 0 3 && inB procs 1 4)=false):
  Calls prog 173 #[insV op r a b n,.int .i64 places,.int .i64 procs] w (rB w (.bool false)):=by
 rcases zK (inB r 0 3) with h1 | h1
 ·rcases zK (inB a 0 3) with h2 | h2
  ·rcases zK (inB b 0 3) with h3 | h3
   ·have h4:inB procs 1 4=false:=by simpa [h1,h2,h3] using h
    clear h
    go_enter func173,ntmps173
    go_wp2_with (first|(go_at_call 20;refine (l1In_any _ _ _ _).mono ?_;rintro e w' ⟨rfl,rfl⟩)|(go_at_call 158;refine (l1Num_any _ _).mono ?_;rintro e w' ⟨rfl,rfl⟩))
    go_ret;exact ⟨rfl,by go_grown⟩
   ·clear h
    go_enter func173,ntmps173
    go_wp2_with (first|(go_at_call 20;refine (l1In_any _ _ _ _).mono ?_;rintro e w' ⟨rfl,rfl⟩)|(go_at_call 158;refine (l1Num_any _ _).mono ?_;rintro e w' ⟨rfl,rfl⟩))
    go_ret;exact ⟨rfl,by go_grown⟩
  ·clear h
   go_enter func173,ntmps173
   go_wp2_with (first|(go_at_call 20;refine (l1In_any _ _ _ _).mono ?_;rintro e w' ⟨rfl,rfl⟩)|(go_at_call 158;refine (l1Num_any _ _).mono ?_;rintro e w' ⟨rfl,rfl⟩))
   go_ret;exact ⟨rfl,by go_grown⟩
 ·clear h
  go_enter func173,ntmps173
  go_wp2_with (first|(go_at_call 20;refine (l1In_any _ _ _ _).mono ?_;rintro e w' ⟨rfl,rfl⟩)|(go_at_call 158;refine (l1Num_any _ _).mono ?_;rintro e w' ⟨rfl,rfl⟩))
  go_ret;exact ⟨rfl,by go_grown⟩
abbrev regV (a b c d:Int):Value:=.agg #[.int .i64 a,.int .i64 b,.int .i64 c,.int .i64 d]
theorem qvt:(prog.info? 3).map (·.size)=some 1:=by kernel_rfl
def cmax (x:Int):Int:=if x < -1000000000 then -1000000000 else x
def cmin (x:Int):Int:=if 1000000000<x then 1000000000 else x
def qbn (x:Int):Int:=cmin (cmax x)
theorem qw2 (ts:Array TypeId) (t:TypeId) (x:Int) (w:World):(Builtin.max_ ts t #[.int .i64 x,.int .i64 (-1000000000)]).run prog w=.ok (.int .i64 (cmax x)) w:=by
 rw [run_max_int2];rfl
theorem qw3 (ts:Array TypeId) (t:TypeId) (x:Int) (w:World):(Builtin.min_ ts t #[.int .i64 x,.int .i64 1000000000]).run prog w=.ok (.int .i64 (cmin x)) w:=by
 rw [run_min_int2];rfl
theorem qt2 (a b c d:Int) (w:World):(Instr.index 203 (regV a b c d) (.int .i64 0)).run prog w=.ok (.int .i64 a) w:=by kernel_rfl
theorem qt3 (a b c d:Int) (w:World):(Instr.index 203 (regV a b c d) (.int .i64 1)).run prog w=.ok (.int .i64 b) w:=by kernel_rfl
theorem qt4 (a b c d:Int) (w:World):(Instr.index 203 (regV a b c d) (.int .i64 2)).run prog w=.ok (.int .i64 c) w:=by kernel_rfl
theorem qt5 (a b c d:Int) (w:World):(Instr.index 203 (regV a b c d) (.int .i64 3)).run prog w=.ok (.int .i64 d) w:=by kernel_rfl
section
attribute [local go_sem] qt2 qt3 qt4 qt5
theorem qc4 (a b c d:Int) (w:World):
  Calls prog 208 #[regV a b c d] w (rB w (regV (qbn a) (qbn b) (qbn c) (qbn d))):=by
 have hmx:=qw2;have hmn:=qw3
 go_enter func208,ntmps208
 go_wp2_with fail
 go_rounds 5
 refine bodyPost_ret (v:=regV (qbn a) (qbn b) (qbn c) (qbn d)) (by simp [results,results208,go_sem,qbn]) rfl ⟨rfl,?_⟩
 go_grown
end
theorem qej (x:Int) (w:World):
  Calls prog 209 #[.int .i64 x] w fun e w'=>e=.returned (.bool (inB x 0 2))/\w'=w:=by
 by_cases h0:x=0
 ·subst h0
  go_enter func209,ntmps209
  go_wp2;go_ret;exact ⟨rfl,rfl⟩
 ·have h0':(x == 0)=false:=by simp [h0]
  by_cases h1:x=1
  ·subst h1
   go_enter func209,ntmps209
   go_wp2;go_ret;exact ⟨rfl,rfl⟩
  ·have h1':(x == 1)=false:=by simp [h1]
   have hv:inB x 0 2=(x == 2):=by
    rw [Bool.eq_iff_iff];simp [inB];omega
   have HV:Hid (inB x 0 2=(x == 2)):=hv;clear h0 h1 hv
   go_enter func209,ntmps209
   go_wp2;go_ret;exact ⟨by rw [HV.out];rfl,rfl⟩
theorem qhh (w:World) (z cs:Array Value) (t:TypeId):(w.alloc (.cells z t)).setRow w.heap.size cs=w.alloc (.cells cs t):=by
 have h:((w.alloc (.cells z t)).setRow w.heap.size cs).heap=(w.alloc (.cells cs t)).heap:=by
  apply Array.ext_getElem?;intro k;by_cases hk:k=w.heap.size
  ·subst hk
   rw [setRow_heap _ _ z cs t (0,0) (heap_alloc_new w _)];exact (heap_alloc_new w _).symm
  ·rw [setRow_other _ _ _ _ hk]
   show (w.heap.push _)[k]? = (w.heap.push _)[k]?;rw [Array.getElem?_push,Array.getElem?_push,nB hk,nB hk]
 show World.mk _ _ _ _ _=World.mk _ _ _ _ _
 congr 1
theorem qvq (w:World) (a:Addr) (sLen cap:Nat) (cs:List Value) (z:Array Value) (hz:z.size=4) (hn:cs.length=Nat.min sLen 4) (hsrc:∀ j v,cs[j]? = some v->(w.alloc (.cells z 203)).cell? (a.add j)=some v) (h1:∀ v ∈ cs,v.oneCell'=true):
  (Builtin.copy_ #[28,28] 3 #[.slice (some ⟨w.heap.size,0,none⟩) 4 4,.slice (some a) sLen cap]).run prog (w.alloc (.cells z 203))=.ok (goInt cs.length) (w.alloc (.cells (cs ++ z.toList.drop cs.length).toArray 203)):=by
 have h:=run_copy_row (P:=prog) (w.alloc (.cells z 203)) 28 28 3 3 w.heap.size 0 4 4 a sLen cap z 203 cs Tryz.underlying28 qvt (heap_alloc_new w _) hn hsrc (by rw [hz,hn,nL];exact Nat.min_le_right _ _) h1;rw [h,qhh];simp only [List.take_zero,List.nil_append,nL]
theorem qwc (b off j:Nat):Addr.add ⟨b,off,none⟩ j=⟨b,off+j,none⟩:=by
 unfold Addr.add;by_cases h:j=0
 ·rw [nC h,h,nP]
 ·rw [nB h]
theorem qoo {w w':World} {b off:Nat} {xs:List Int} (h:Sl w (some ⟨b,off,none⟩) xs) (hb:Below w.heap.size w w'):∀ j v,(xs.map (Value.int .i64))[j]? = some v->w'.cell? (Addr.add ⟨b,off,none⟩ j)=some v:=by
 intro j v hj
 have hl:j<xs.length:=by
  apply Classical.byContradiction;intro hn;rw [List.getElem?_eq_none (by simp;omega)] at hj;cases hj
 rw [qd0 xs j hl] at hj;rw [qwc,<- hj];obtain ⟨b',off',e,hlt,hc⟩:=(h.bw hb).at hl;simp only [nG,Addr.mk.injEq,and_true] at e;obtain ⟨rfl,rfl⟩:=e;exact hc
theorem qh0 (xs:List Int):∀ v ∈ xs.map (Value.int .i64),v.oneCell'=true:=by
 intro v hv;obtain ⟨x,_,rfl⟩:=List.mem_map.1 hv;rfl
abbrev quf:Obj:=.cells #[.int .i64 0,.int .i64 0,.int .i64 0,.int .i64 0] 203
theorem qdv (a0:Option Addr) (n cap q:Nat) (r0 r1 r2 r3:Int) (w:World)
  (hrun:(Builtin.copy_ #[28,28] 3 #[.slice (some ⟨w.heap.size+1,0,none⟩) 4 4,.slice a0 n cap]).run prog ((w.alloc quf).alloc quf)=.ok (goInt q) ((w.alloc quf).alloc (.cells #[.int .i64 r0,.int .i64 r1,.int .i64 r2,.int .i64 r3] 203))):
  Calls prog 163 #[.slice a0 n cap] w (rB w (.tuple #[regV r0 r1 r2 r3,.bool ((n:Int) == 4)])):=by
 go_enter func163,ntmps163
 go_wp2;refine bodyPost_ret (v:=.tuple #[regV r0 r1 r2 r3,.bool ((n:Int) == 4)]) (by simp [results,results163,go_sem]) rfl ⟨rfl,?_⟩
 go_grown
theorem qbq (b off n cap:Nat) (cs:List Int) (r0 r1 r2 r3:Int) (w:World) (hn:cs.length=Nat.min n 4) (h:Sl w (some ⟨b,off,none⟩) cs)
  (hr:(cs.map (Value.int .i64) ++ [Value.int .i64 0,.int .i64 0,.int .i64 0,.int .i64 0].drop cs.length).toArray=#[.int .i64 r0,.int .i64 r1,.int .i64 r2,.int .i64 r3]):
  Calls prog 163 #[.slice (some ⟨b,off,none⟩) n cap] w (rB w (.tuple #[regV r0 r1 r2 r3,.bool ((n:Int) == 4)])):=by
 have hb:Below w.heap.size w ((w.alloc quf).alloc quf):=by go_grown
 have hrun:=qvq (w.alloc quf) ⟨b,off,none⟩ n cap (cs.map (Value.int .i64)) #[.int .i64 0,.int .i64 0,.int .i64 0,.int .i64 0] rfl (by rw [List.length_map];exact hn) (qoo h hb) (qh0 cs);rw [List.length_map,hr] at hrun
 (try dsimp only [aW] at hrun);rw [World.size_alloc] at hrun
 exact qdv _ n cap _ r0 r1 r2 r3 w hrun
theorem qhr (a0:Option Addr) (cap:Nat) (w:World):
  Calls prog 163 #[.slice a0 0 cap] w (rB w (.tuple #[regV 0 0 0 0,.bool ((0:Int) == 4)])):=
 qdv a0 0 cap 0 0 0 0 0 w (run_copy_none _ _ _ _ 3 _ _ _ _ _ _ Tryz.underlying28 qvt rfl)
theorem Sl.sub {w:World} {b off:Nat} {xs ys:List Int} (h:Sl w (some ⟨b,off,none⟩) xs) (hp:∃ t,xs=ys ++ t):Sl w (some ⟨b,off,none⟩) ys:=by
 obtain ⟨t,rfl⟩:=hp;by_cases h0:ys=[]
 ·exact .inl h0
 ·rcases h with h | ⟨b',off',e,hlt,hc⟩
  ·simp at h;exact .inl h.1
  ·refine .inr ⟨b',off',e,hlt,fun i hi=>?_⟩
   have:=hc i (by simp;omega);unfold zi at this ⊢
   rwa [List.getD_eq_getElem?_getD,List.getElem?_append_left hi,<- List.getD_eq_getElem?_getD] at this
theorem qcf (a0:Option Addr) (cap:Nat) (xs:List Int) (w:World) (h:Sl w a0 xs):
  Calls prog 163 #[.slice a0 xs.length cap] w fun e w'=>(∃ r0 r1 r2 r3,e=.returned (.tuple #[regV r0 r1 r2 r3,.bool ((xs.length:Int) == 4)])/\(xs.length=4->xs=[r0,r1,r2,r3]))/\Below w.heap.size w w':=by
 match xs,h with
 | [],_=>exact (qhr a0 cap w).mono fun e w' ⟨he,hb⟩=>⟨⟨0,0,0,0,he,fun h=>by cases h⟩,hb⟩
 | [a],h=>
  obtain ⟨b,off,rfl,_⟩:=h.at (k:=0) (by simp);exact (qbq b off 1 cap [a] a 0 0 0 w rfl h rfl).mono fun e w' ⟨he,hb⟩=>⟨⟨_,_,_,_,he,fun h=>by cases h⟩,hb⟩
 | [a,c],h=>
  obtain ⟨b,off,rfl,_⟩:=h.at (k:=0) (by simp);exact (qbq b off 2 cap [a,c] a c 0 0 w rfl h rfl).mono fun e w' ⟨he,hb⟩=>⟨⟨_,_,_,_,he,fun h=>by cases h⟩,hb⟩
 | [a,c,d],h=>
  obtain ⟨b,off,rfl,_⟩:=h.at (k:=0) (by simp);exact (qbq b off 3 cap [a,c,d] a c d 0 w rfl h rfl).mono fun e w' ⟨he,hb⟩=>⟨⟨_,_,_,_,he,fun h=>by cases h⟩,hb⟩
 | [a,c,d,f],h=>
  obtain ⟨b,off,rfl,_⟩:=h.at (k:=0) (by simp);exact (qbq b off 4 cap [a,c,d,f] a c d f w rfl h rfl).mono fun e w' ⟨he,hb⟩=>⟨⟨_,_,_,_,he,fun _=>rfl⟩,hb⟩
 | a :: c :: d :: f :: g :: t,h=>
  obtain ⟨b,off,rfl,_⟩:=h.at (k:=0) (by simp);exact (qbq b off (a :: c :: d :: f :: g :: t).length cap [a,c,d,f] a c d f w (by simp) (h.sub ⟨g :: t,rfl⟩) rfl).mono fun e w' ⟨he,hb⟩=>⟨⟨_,_,_,_,he,fun h=>by simp at h⟩,hb⟩
open Go.Sort
def numB (x:Int):Bool:=inB x (-1000000000) 1000000000
def allN (xs:List Int):Bool:=xs.all numB
theorem qx3 {xs:List Int} {k:Nat} (hk:k<xs.length):zi xs k ∈ xs:=by
 unfold zi;rw [List.getD_eq_getElem?_getD,List.getElem?_eq_getElem hk];exact List.getElem_mem hk
theorem qsc {xs:List Int} {k:Nat} (hk:k<xs.length) (h:numB (zi xs k)=false):allN xs=false:=by
 rw [allN,List.all_eq_false];exact ⟨_,qx3 hk,by simp [h]⟩
theorem qzf {xs:List Int} {x:Int} (h:x ∈ xs):∃ k,k<xs.length/\zi xs k=x:=by
 obtain ⟨k,hk,e⟩:=List.getElem_of_mem h;refine ⟨k,hk,?_⟩;unfold zi;rw [List.getD_eq_getElem?_getD,List.getElem?_eq_getElem hk];exact e
theorem qui {xs:List Int} (h:∀ k,k<xs.length->numB (zi xs k)=true):allN xs=true:=by
 rw [allN,List.all_eq_true];intro x hx;obtain ⟨k,hk,rfl⟩:=qzf hx;exact h k hk
def outB (xs:List Int):Bool:=decide ((xs.length:Int)<=60) && allN xs
def qc2 (xs:List Int):Bool:=((xs.length:Int) == 4) && allN xs
def qdb (n:Nat) (p:Int) (rs os:List Int) (code:Int):Bool:=qc2 rs && inB code 0 2 && belB p n && outB os
theorem qfs (a0:Option Addr) (cap:Nat) (xs:List Int) (w:World) (hlen:xs.length<=1048576) (h:Sl w a0 xs):
  Calls prog 210 #[.slice a0 xs.length cap] w fun e w'=>e=.returned (.bool (outB xs))/\w'=w:=by
 have hl':(xs.length:Int)<=1048576:=by omega
 by_cases h60:(xs.length:Int)<=60
 case neg=>
  have hg:60<(xs.length:Int):=by omega
  have HV:Hid (outB xs=false):=by simp [Hid,outB,h60]
  clear h60
  go_enter func210,ntmps210
  go_wp2;go_ret;exact ⟨by rw [HV.out];rfl,rfl⟩
 case pos=>
  have HV:Hid (outB xs=allN xs):=by simp [Hid,outB,h60]
  have hg:¬ 60<(xs.length:Int):=by omega
  have HS:Hid (Sl w a0 xs):=h;clear h h60
  go_enter func210,ntmps210
  go_wp2_with fail
  go_loop [10] (fun i=>∃ k:Nat,k<=xs.length/\i=.int .i64 k/\Hid (∀ t,t<k->numB (zi xs t)=true)) (fun i=>xs.length - (intOf i).toNat)
  case atStart=>exact ⟨0,nD _,rfl,fun t ht=>by omega⟩
  case round=>
   obtain ⟨k,hk,rfl,HK⟩:=hrel;by_cases hlt:k<xs.length
   ·have hlt':(k:Int)<(xs.length:Int):=by omega
    obtain ⟨b,off,rfl,hbl,ck⟩:=HS.at hlt
    rcases zK (numB (zi xs k)) with t0 | t0
    ·have T0:Hid (numB (zi xs k)=true):=t0
     have t1:inB (zi xs k) (-1000000000) 1000000000=true:=t0;clear t0;go_wp2_with (go_at_call 211;refine (isNum_any _ _).mono ?_;rintro e w' ⟨rfl,rfl⟩)
     go_round
     case rel=>
      refine ⟨k+1,by omega,by go_num,fun t ht=>?_⟩;by_cases htk:t=k
      ·subst htk;exact T0.out
      ·exact HK.out t (by omega)
     case measure=>simp [intOf];omega
    ·have T0:Hid (allN xs=false):=qsc hlt t0
     have t1:inB (zi xs k) (-1000000000) 1000000000=false:=t0;clear t0;go_wp2_with (go_at_call 211;refine (isNum_any _ _).mono ?_;rintro e w' ⟨rfl,rfl⟩)
     go_ret;exact ⟨by rw [HV.out,T0.out];rfl,rfl⟩
   ·have hlt':¬ (k:Int)<(xs.length:Int):=by omega
    have T0:Hid (allN xs=true):=qui fun t ht=>HK.out t (by omega);clear HK;go_wp2;go_ret;exact ⟨by rw [HV.out,T0.out];rfl,rfl⟩
theorem qwd {x:Int}:qbn x=x ↔ numB x=true:=by
 unfold qbn cmin cmax numB inB;simp only [nI];by_cases h1:x < -1000000000
 ·rw [nC h1,nB (by omega)];omega
 ·rw [nB h1]
  by_cases h2:1000000000<x
  ·rw [nC h2];omega
  ·rw [nB h2];simp;omega
def qof (a b c d a' b' c' d':Int):Bool:=a == a' && (b == b' && (c == c' && d == d'))
theorem qkx (a b c d a' b' c' d':Int) (w:World):(binOp .eql 203 (regV a b c d) (regV a' b' c' d')).run prog w=.ok (.bool (qof a b c d a' b' c' d')) w:=by
 have hinfo:=qp9;cases hi:prog.info? 3 with
 | none=>rw [hi] at hinfo;cases hinfo
 | some i=>
  rw [run_eql_struct,show (10000:Nat)=9998+1+1 from rfl,run_equalIn_array w (9998+1) _ _ Tryz.underlying203 hi,show prog.cellsOf 3=1 by kernel_rfl,show List.range 4=[0,1,2,3] from rfl]
  have hp:∀ (vs:Array Value) (j:Nat) (v:Value) (w:World),vs[j]? = some v->(part 3 vs j).run prog w=.ok v w:=by
   intro vs j v w hv;simp [part,go_sem,hv]
  have p0:=hp #[.int .i64 a,.int .i64 b,.int .i64 c,.int .i64 d] 0 (.int .i64 a) w rfl;have p1:=hp #[.int .i64 a,.int .i64 b,.int .i64 c,.int .i64 d] 1 (.int .i64 b) w rfl;have p2:=hp #[.int .i64 a,.int .i64 b,.int .i64 c,.int .i64 d] 2 (.int .i64 c) w rfl;have p3:=hp #[.int .i64 a,.int .i64 b,.int .i64 c,.int .i64 d] 3 (.int .i64 d) w rfl;have q0:=hp #[.int .i64 a',.int .i64 b',.int .i64 c',.int .i64 d'] 0 (.int .i64 a') w rfl;have q1:=hp #[.int .i64 a',.int .i64 b',.int .i64 c',.int .i64 d'] 1 (.int .i64 b') w rfl;have q2:=hp #[.int .i64 a',.int .i64 b',.int .i64 c',.int .i64 d'] 2 (.int .i64 c') w rfl;have q3:=hp #[.int .i64 a',.int .i64 b',.int .i64 c',.int .i64 d'] 3 (.int .i64 d') w rfl;have hq:∀ x y,(Op.equalIn 9999 3 (.int .i64 x) (.int .i64 y)).run prog w=.ok (x == y) w:=fun x y=>run_equalIn_int (P:=prog) w 9998 3 .i64 .i64 x y Tryz.underlying3;clear hp hinfo hi;simp only [qof];cases h1:(a == a') <;> cases h2:(b == b') <;> cases h3:(c == c') <;> cases h4:(d == d') <;> simp only [Op.eqItems,Sem.run_bind,Sem.run_pure,Sem.run_ite,Result.andThen_ok,Bool.not_true,Bool.not_false,nQ,if_false,Bool.false_eq_true,Nat.mul_one,Bool.and_true,Bool.and_false,p0,p1,p2,p3,q0,q1,q2,q3,hq,h1,h2,h3,h4]
theorem qca (a b c d:Int):qof a b c d (qbn a) (qbn b) (qbn c) (qbn d)=qc2 [a,b,c,d]:=by
 have h:∀ x,(x == qbn x)=numB x:=fun x=>by
  rw [Bool.eq_iff_iff,<- qwd,beq_iff_eq];exact eq_comm
 unfold qof qc2 allN;rw [h,h,h,h];simp
theorem zQ {w:World} {b:Nat} (o:Obj) (j:Nat) (h:b<w.heap.size):(w.alloc o).cell? ⟨b,j,none⟩=w.cell? ⟨b,j,none⟩:=zH (Below.heap_alloc w o b h)
theorem Calls.regrown_same {P:Program} {f:FuncId} {args:Array Value} {w:World} {d:Nat} {os:Array Obj} {v:Value}
  (h:Calls P f args (grow (redrawn w d) os) fun e w'=>e=.returned v/\w'=grow (redrawn w d) os):Calls P f args (grow (redrawn w d) os) fun e w''=>e=.returned v/\∃ p:Regrown,w''=grow (redrawn w p.d) p.os:=
 h.mono fun _ _ ⟨he,hw⟩=>⟨he,⟨d,os⟩,hw⟩
theorem qhq (la:Option Addr) (n lc:Nat) (p code:Int) (ra oa:Option Addr) (rc oc:Nat) (a b c d:Int) (os:List Int) (w:World) (ho:os.length<=1048576) (h1:Sl w ra [a,b,c,d]) (h2:Sl w oa os):
  Calls prog 162 #[.slice la n lc,stV p ra 4 rc oa os.length oc code] w (rB w (.bool (qdb n p [a,b,c,d] os code))):=by
 have H1:Hid (Sl w ra [a,b,c,d]):=h1;have H2:Hid (Sl w oa os):=h2;clear h1 h2
 go_enter func162,ntmps162
 go_wp2_with fail
 refine (qcf ra rc [a,b,c,d] _ (H1.bw (by go_grown))).mono ?_;rintro e w1 ⟨⟨r0,r1,r2,r3,rfl,hr⟩,b1⟩;have B1:Hid (Below w.heap.size w w1):=qai (by go_grown) b1 (by simp);have y0:w.heap.size<w1.heap.size:=by have:=b1.size;simp at this;omega
 have hr':=hr rfl;simp only [List.cons.injEq,and_true] at hr';obtain ⟨rfl,rfl,rfl,rfl⟩:=hr';obtain ⟨hc1,hf1⟩:=qap b1;clear b1 hr;go_wp2_with fail
 have B2:Hid (Below w.heap.size w (w1.alloc (.cells #[.int .i64 a,.int .i64 b,.int .i64 c,.int .i64 d] 203))):=B1.alloc (by omega) _;generalize hW:(w1.alloc (.cells #[.int .i64 a,.int .i64 b,.int .i64 c,.int .i64 d] 203))=W at *;have k0:W.cell? ⟨w1.heap.size,0,none⟩=some (.int .i64 a):=by rw [<- hW];simp
 have k1:W.cell? ⟨w1.heap.size,1,none⟩=some (.int .i64 b):=by rw [<- hW];simp
 have k2:W.cell? ⟨w1.heap.size,2,none⟩=some (.int .i64 c):=by rw [<- hW];simp
 have k3:W.cell? ⟨w1.heap.size,3,none⟩=some (.int .i64 d):=by rw [<- hW];simp
 have s0:W.cell? ⟨w.heap.size,0,none⟩=some (.int .i64 p):=by rw [<- hW,zQ _ _ y0,hc1 _ _ (by simp)];simp
 have s2:W.cell? ⟨w.heap.size,2,none⟩=some (.slice oa os.length oc):=by rw [<- hW,zQ _ _ y0,hc1 _ _ (by simp)];simp
 have s3:W.cell? ⟨w.heap.size,3,none⟩=some (.int .i64 code):=by rw [<- hW,zQ _ _ y0,hc1 _ _ (by simp)];simp
 clear hc1 hf1 hW B1 y0;have k0':=cell_regrown k0;have k1':=cell_regrown k1;have k2':=cell_regrown k2;have k3':=cell_regrown k3;have s0':=cell_regrown s0;have s2':=cell_regrown s2;have s3':=cell_regrown s3;have HO:Hid (∀ d os',Sl (grow (redrawn W d) os') oa os):=fun d os'=>(H2.bw B2.out).bw (below_regrown W d os')
 rcases zK (qc2 [a,b,c,d]) with t1 | t1
 case inr=>
  have HV:Hid (qdb n p [a,b,c,d] os code=false):=by simp [Hid,qdb,t1]
  have he:∀ wx,(binOp .eql 203 (regV a b c d) (regV (qbn a) (qbn b) (qbn c) (qbn d))).run prog wx=.ok (.bool false) wx:=fun wx=>by rw [qkx,qca,t1]
  clear t1;refine wp_region_quiet_below (by kernel_rfl) (by kernel_rfl) ?_
  repeat (quiet_step (first|(go_at_call 208;exact Calls.regrown_of (qc4 _ _ _ _ _))|(go_at_call 209;exact Calls.regrown_same (qej _ _))|(go_at_call 27;exact Calls.regrown_same (isBelow_any _ _ _))|(go_at_call 210;exact Calls.regrown_same (qfs _ _ _ _ ho (HO.out _ _)))))
  refine wpQuiet_nil ?_;intro _ hw';obtain ⟨⟨dq,osq⟩,hw''⟩:=hw';subst hw'';have B3:Hid (Below w.heap.size w (grow (redrawn W dq) osq)):=B2.trans ((below_regrown W dq osq).mono B2.size);generalize grow (redrawn W dq) osq=w3 at *;clear k0' k1' k2' k3' s0' s2' s3' HO he;go_wp2;go_ret;exact ⟨by rw [HV.out];rfl,B3.out⟩
 have he:∀ wx,(binOp .eql 203 (regV a b c d) (regV (qbn a) (qbn b) (qbn c) (qbn d))).run prog wx=.ok (.bool true) wx:=fun wx=>by rw [qkx,qca,t1]
 rcases zK (inB code 0 2) with t2 | t2
 case inr=>
  have HV:Hid (qdb n p [a,b,c,d] os code=false):=by simp [Hid,qdb,t2]
  clear t1;refine wp_region_quiet_below (by kernel_rfl) (by kernel_rfl) ?_
  repeat (quiet_step (first|(go_at_call 208;exact Calls.regrown_of (qc4 _ _ _ _ _))|(go_at_call 209;exact Calls.regrown_same (qej _ _))|(go_at_call 27;exact Calls.regrown_same (isBelow_any _ _ _))|(go_at_call 210;exact Calls.regrown_same (qfs _ _ _ _ ho (HO.out _ _)))))
  refine wpQuiet_nil ?_;intro _ hw';obtain ⟨⟨dq,osq⟩,hw''⟩:=hw';subst hw'';have B3:Hid (Below w.heap.size w (grow (redrawn W dq) osq)):=B2.trans ((below_regrown W dq osq).mono B2.size);generalize grow (redrawn W dq) osq=w3 at *;clear k0' k1' k2' k3' s0' s2' s3' HO he;go_wp2;go_ret;exact ⟨by rw [HV.out];rfl,B3.out⟩
 rcases zK (belB p n) with t3 | t3
 case inr=>
  have HV:Hid (qdb n p [a,b,c,d] os code=false):=by simp [Hid,qdb,t3]
  clear t1;refine wp_region_quiet_below (by kernel_rfl) (by kernel_rfl) ?_
  repeat (quiet_step (first|(go_at_call 208;exact Calls.regrown_of (qc4 _ _ _ _ _))|(go_at_call 209;exact Calls.regrown_same (qej _ _))|(go_at_call 27;exact Calls.regrown_same (isBelow_any _ _ _))|(go_at_call 210;exact Calls.regrown_same (qfs _ _ _ _ ho (HO.out _ _)))))
  refine wpQuiet_nil ?_;intro _ hw';obtain ⟨⟨dq,osq⟩,hw''⟩:=hw';subst hw'';have B3:Hid (Below w.heap.size w (grow (redrawn W dq) osq)):=B2.trans ((below_regrown W dq osq).mono B2.size);generalize grow (redrawn W dq) osq=w3 at *;clear k0' k1' k2' k3' s0' s2' s3' HO he;go_wp2;go_ret;exact ⟨by rw [HV.out];rfl,B3.out⟩
 case inl=>
  have HV:Hid (qdb n p [a,b,c,d] os code=outB os):=by simp [Hid,qdb,t1,t2,t3]
  clear t1;refine wp_region_quiet_below (by kernel_rfl) (by kernel_rfl) ?_
  repeat (quiet_step (first|(go_at_call 208;exact Calls.regrown_of (qc4 _ _ _ _ _))|(go_at_call 209;exact Calls.regrown_same (qej _ _))|(go_at_call 27;exact Calls.regrown_same (isBelow_any _ _ _))|(go_at_call 210;exact Calls.regrown_same (qfs _ _ _ _ ho (HO.out _ _)))))
  refine wpQuiet_nil ?_;intro _ hw';obtain ⟨⟨dq,osq⟩,hw''⟩:=hw';subst hw'';have B3:Hid (Below w.heap.size w (grow (redrawn W dq) osq)):=B2.trans ((below_regrown W dq osq).mono B2.size);generalize grow (redrawn W dq) osq=w3 at *;clear k0' k1' k2' k3' s0' s2' s3' HO he;go_wp2;go_ret;exact ⟨by rw [HV.out];rfl,B3.out⟩
theorem qin (la:Option Addr) (n lc:Nat) (p code:Int) (ra oa:Option Addr) (rc on oc:Nat) (rs:List Int) (w:World) (h4:rs.length≠4) (h1:Sl w ra rs):
  Calls prog 162 #[.slice la n lc,stV p ra rs.length rc oa on oc code] w (rB w (.bool false)):=by
 have H1:Hid (Sl w ra rs):=h1;have h4':((rs.length:Int) == 4)=false:=by simp;omega
 clear h1 h4
 go_enter func162,ntmps162
 go_wp2_with fail
 refine (qcf ra rc rs _ (H1.bw (by go_grown))).mono ?_;rintro e w1 ⟨⟨a,b,c,d,rfl,hr⟩,b1⟩;have B1:Hid (Below w.heap.size w w1):=qai (by go_grown) b1 (by simp);have y0:w.heap.size<w1.heap.size:=by have:=b1.size;simp at this;omega
 clear b1 hr;go_wp2_with fail
 have B2:Hid (Below w.heap.size w (w1.alloc (.cells #[.int .i64 a,.int .i64 b,.int .i64 c,.int .i64 d] 203))):=B1.alloc (by omega) _;generalize (w1.alloc (.cells #[.int .i64 a,.int .i64 b,.int .i64 c,.int .i64 d] 203))=W at *
 go_quiet (fail)
 go_wp2;go_ret;exact ⟨rfl,yB B2.out _⟩
theorem qd1 (la:Option Addr) (n lc:Nat) (p code:Int) (ra oa:Option Addr) (rc oc:Nat) (rs os:List Int) (w:World) (ho:os.length<=1048576) (h1:Sl w ra rs) (h2:Sl w oa os):
  Calls prog 162 #[.slice la n lc,stV p ra rs.length rc oa os.length oc code] w (rB w (.bool (qdb n p rs os code))):=by
 by_cases h4:rs.length=4
 ·match rs,h4,h1 with
  | [a,b,c,d],_,h1=>exact qhq la n lc p code ra oa rc oc a b c d os w ho h1 h2
 ·have hv:qdb n p rs os code=false:=by
   have:((rs.length:Int) == 4)=false:=by simp;omega
   simp [qdb,qc2,this]
  rw [hv];exact qin la n lc p code ra oa rc os.length oc rs w h4 h1
theorem qfc {k:IntKind} {a b:Int} (h:a=b):Ending.returned (.int k a)=.returned (.int k b):=by rw [h]
def qe6 (k:Int) (n:Nat):List Int:=(List.range n).map (fun i:Nat=>k+(i:Int))
theorem qc6 (k:Int) (n:Nat):(qe6 k n).length=n:=by simp [qe6]
theorem qrz (k:Int) (n j:Nat) (h:j<n):zi (qe6 k n) j=k+j:=by
 unfold zi qe6;rw [List.getD_eq_getElem?_getD,List.getElem?_map,List.getElem?_range h];rfl
theorem qh1 {w:World} {B n cap:Nat} {a0:Option Addr} {ys:List Int} (h:OwnI w B (.slice a0 n cap) ys) (hn:0<ys.length):∃ g,a0=some ⟨g,0,none⟩/\n=ys.length/\B<=g/\g<w.heap.size:=by
 obtain ⟨g,c,hv,hb,hl⟩:=h.block hn;simp only [Value.slice.injEq] at hv;exact ⟨g,hv.1,hv.2.1,hb,hl⟩
theorem qcr (a0:Option Addr) (cap B:Nat) (xs:List Int) (k:Int) (w:World) (hlen:xs.length<=1048576) (k0:0<=k) (k1:k<=100000000) (h:OwnI w B (.slice a0 xs.length cap) xs):
  Calls prog 91 #[.slice a0 xs.length cap,.int .i64 k] w fun e w'=>e=.returned (.int .i64 (k+xs.length))/\OwnI w' B (.slice a0 xs.length cap) (qe6 k xs.length)/\w.grownBy w' (Value.slice a0 xs.length cap).ownBlock:=by
 have hl':(xs.length:Int)<=1048576:=by omega
 have HO:Hid (OwnI w B (.slice a0 xs.length cap) xs):=h;clear h
 go_enter func91,ntmps91
 go_wp2_with fail
 go_loopw [1,5] (fun q i wr=>∃ j:Nat,j<=xs.length/\i=.int .i64 j/\q=.int .i64 (k+j)/\Hid ((∃ ys,ys.length=xs.length/\OwnI wr B (.slice a0 xs.length cap) ys/\∀ t,t<j->zi ys t=k+t)/\w.grownBy wr (Value.slice a0 xs.length cap).ownBlock)) (fun _ i _=>xs.length - (intOf i).toNat)
 case atStart=>exact ⟨0,nD _,rfl,by simp,⟨xs,rfl,HO.out,fun t ht=>by omega⟩,World.grownBy.refl _ _⟩
 case round=>
  clear HO;obtain ⟨j,hj,rfl,rfl,HR⟩:=hrel;by_cases hlt:j<xs.length
  ·have hlt':(j:Int)<(xs.length:Int):=by omega
   have hg:∃ g,a0=some ⟨g,0,none⟩/\g<wr.heap.size:=by
    obtain ⟨⟨ys,he,ho,_⟩,_⟩:=HR.out;obtain ⟨g,hg,_,_,hl⟩:=qh1 ho (by omega);exact ⟨g,hg,hl⟩
   obtain ⟨g,rfl,hgl⟩:=hg;have fz:wr.frozen? ⟨g,j,none⟩=false:=by obtain ⟨⟨ys,he,ho,_⟩,_⟩:=HR.out;rw [<- he] at ho;exact ho.frozen j
   have cz:∃ z:Int,wr.cell? ⟨g,j,none⟩=some (.int .i64 z):=by obtain ⟨⟨ys,he,ho,_⟩,_⟩:=HR.out;rw [<- he] at ho hlt;exact ⟨_,ho.cell hlt⟩
   obtain ⟨z,cz⟩:=cz;go_wp2;go_roundw
   case rel=>
    refine ⟨j+1,by omega,by go_num,by go_num,?_⟩;obtain ⟨⟨ys,he,ho,hy⟩,hgr⟩:=HR.out;obtain ⟨ho',hg'⟩:=ho.set he.symm j (k+j);refine ⟨⟨ys.set j (k+j),by simpa using he,ho',fun t ht=>?_⟩,hgr.trans hg'⟩;by_cases htj:t=j
    ·subst htj;exact qdp ys t _ (by omega)
    ·rw [qe4 ys t j _ htj];exact hy t (by omega)
   case measure=>simp [intOf];omega
  ·have hlt':¬ (j:Int)<(xs.length:Int):=by omega
   have HF:Hid (OwnI wr B (.slice a0 xs.length cap) (qe6 k xs.length)/\w.grownBy wr (Value.slice a0 xs.length cap).ownBlock):=by
    obtain ⟨⟨ys,he,ho,hy⟩,hgr⟩:=HR.out;have:ys=qe6 k xs.length:=qro (by rw [he,qc6]) fun i hi=>by rw [hy i (by omega),qrz _ _ _ (by omega)]
    rw [this] at ho;exact ⟨ho,hgr⟩
   have hjl:(j:Int)=xs.length:=by omega
   have HJ:Hid ((j:Int)=xs.length):=hjl;clear HR hjl;go_wp2;go_ret;exact ⟨qfc (by rw [HJ.out]),HF.out⟩
theorem qc9 (a0:Option Addr) (cap n:Nat) (k:Int) (w:World) (hlen:n<=1048576) (k0:0<=k) (k1:k<=100000000) (h:Sl w a0 (qe6 k n)):
  Calls prog 98 #[.slice a0 n cap,.int .i64 k] w fun e w'=>e=.returned (.int .i64 (k+n))/\w'=w:=by
 have hl':(n:Int)<=1048576:=by omega
 have HS:Hid (Sl w a0 (qe6 k n)):=h;clear h
 go_enter func98,ntmps98
 go_wp2_with fail
 go_loop [1,5] (fun q i=>∃ j:Nat,j<=n/\i=.int .i64 j/\q=.int .i64 (k+j)) (fun _ i=>n - (intOf i).toNat)
 case atStart=>exact ⟨0,nD _,rfl,by simp⟩
 case round=>
  obtain ⟨j,hj,rfl,rfl⟩:=hrel;by_cases hlt:j<n
  ·have hlt':(j:Int)<(n:Int):=by omega
   obtain ⟨b,off,rfl,hbl,ck⟩:=HS.at (k:=j) (by rw [qc6];exact hlt);rw [qrz _ _ _ hlt] at ck;go_wp2
   go_round
   case rel=>exact ⟨j+1,by omega,by go_num,by go_num⟩
   case measure=>simp [intOf];omega
  ·have hlt':¬ (j:Int)<(n:Int):=by omega
   have HJ:Hid ((j:Int)=n):=by show (j:Int)=n;omega
   go_wp2;go_ret;exact ⟨qfc (by rw [HJ.out]),rfl⟩
theorem qft {w w':World} {B:Nat} {v u:Value} {xs:List Int} (h:OwnI w B v xs) (hg:w.grownBy w' u.ownBlock) (ha:∀ k,u.ownBlock=some k->v.ownBlock≠some k):OwnI w' B v xs:=by
 refine h.kept hg ?_;cases hu:u.ownBlock with
 | none=>
  cases hv:v.ownBlock with
  | none=>exact .inl rfl
  | some k=>exact .inr (by simp)
 | some k=>exact .inr (ha k hu)
theorem qhn {W w1:World} {row:Option Nat} (hg:W.grownBy w1 row) {b:Nat} (hb:b<W.heap.size) (hne:some b≠row):(∀ o,w1.cell? ⟨b,o,none⟩=W.cell? ⟨b,o,none⟩)/\(∀ o,w1.frozen? ⟨b,o,none⟩=W.frozen? ⟨b,o,none⟩):=
 ⟨fun _=>zH (hg.block b hb hne),fun _=>zI (hg.block b hb hne)⟩
def qae (v:Value) (k:Nat):Prop:=∃ p vr vo code,v=.agg #[p,vr,vo,code]/\(vr.ownBlock=some k\/vo.ownBlock=some k)
theorem qal (p vr vo code:Value) (k:Nat):qae (.agg #[p,vr,vo,code]) k ↔ vr.ownBlock=some k\/vo.ownBlock=some k:=by
 constructor
 ·rintro ⟨p',vr',vo',code',e,h⟩
  simp only [Value.agg.injEq,Array.mk.injEq,List.cons.injEq,and_true] at e;obtain ⟨_,rfl,rfl,_⟩:=e;exact h
 ·exact fun h=>⟨p,vr,vo,code,rfl,h⟩
theorem qag.lt {w:World} {B:Nat} {v:Value} {p code:Int} {rs os:List Int} (h:qag w B v p rs os code) {k:Nat} (hk:qae v k):B<=k/\k<w.heap.size:=by
 obtain ⟨vr,vo,rfl,h1,h2,_⟩:=h
 rcases (qal _ _ _ _ _).1 hk with h | h
 ·exact h1.lt k h
 ·exact h2.lt k h
structure qa9 (v:Value) (w w':World):Prop where
 os:w'.os=w.os
 tape:w'.tape=w.tape
 output:w'.output=w.output
 size:w.heap.size<=w'.heap.size
 block:∀ k,k<w.heap.size->¬ qae v k->w'.heap[k]? = w.heap[k]?
theorem qa9.bw {v:Value} {w w':World} {B:Nat} (h:qa9 v w w') (hB:B<=w.heap.size) (hv:∀ k,qae v k->B<=k):Below B w w':=
 ⟨h.os,h.tape,h.output,h.size,fun k hk=>h.block k (by omega) (fun hh=>by have:=hv k hh;omega)⟩
theorem qa9.own {v:Value} {w w':World} {B:Nat} {u:Value} {xs:List Int} (h:qa9 v w w') (hu:OwnI w B u xs) (ha:∀ k,u.ownBlock=some k->¬ qae v k):OwnI w' B u xs:=by
 rcases hu.2 with ⟨rfl,h0⟩ | ⟨g,cap,cur,rfl,hb,hg,hr⟩
 ·exact ⟨hu.1,.inl ⟨rfl,h0⟩⟩
 ·refine ⟨hu.1,.inr ⟨g,cap,cur,rfl,hb,?_,hr⟩⟩
  rw [h.block g (hu.lt g rfl).2 (ha g rfl)];exact hg
theorem qa9.st {v:Value} {w w':World} {B:Nat} {u:Value} {p code:Int} {rs os:List Int} (h:qa9 v w w') (hu:qag w B u p rs os code) (ha:∀ k,qae u k->¬ qae v k):qag w' B u p rs os code:=by
 obtain ⟨vr,vo,rfl,h1,h2,h3⟩:=hu;exact ⟨vr,vo,rfl,h.own h1 fun k hk=>ha k ((qal _ _ _ _ _).2 (.inl hk)),h.own h2 fun k hk=>ha k ((qal _ _ _ _ _).2 (.inr hk)),h3⟩
theorem qa9.cell {v:Value} {w w':World} (h:qa9 v w w') {b:Nat} (hb:b<w.heap.size) (hv:¬ qae v b) (j:Nat):w'.cell? ⟨b,j,none⟩=w.cell? ⟨b,j,none⟩:=zH (h.block b hb hv)
theorem qa9.frozen {v:Value} {w w':World} (h:qa9 v w w') {b:Nat} (hb:b<w.heap.size) (hv:¬ qae v b) (j:Nat):w'.frozen? ⟨b,j,none⟩=w.frozen? ⟨b,j,none⟩:=zI (h.block b hb hv)
theorem qq1 (k p v:Int) (w:World):
  Calls prog 179 #[evV k p v] w (rB w (evV k p v)):=by
 go_enter func179,ntmps179
 go_wp2;refine bodyPost_ret (v:=evV k p v) (by simp [results,results179,go_sem]) rfl ⟨rfl,?_⟩
 go_grown
theorem qm7 (k p v:Int) (w:World):
  Calls prog 207 #[evV k p v,evV k p v] w (rB w (.bool true)):=by
 go_enter func207,ntmps207
 go_wp2;go_ret;exact ⟨rfl,by go_grown⟩
def BoxC (w:World) (N:Nat) (p vr vo code:Value):Prop:=w.cell? ⟨N,0,none⟩=some p/\w.cell? ⟨N,1,none⟩=some vr/\w.cell? ⟨N,2,none⟩=some vo/\w.cell? ⟨N,3,none⟩=some code
theorem BoxC.bw {w w':World} {N:Nat} {p vr vo code:Value} (h:BoxC w N p vr vo code) (hb:Below w.heap.size w w'):BoxC w' N p vr vo code:=by
 obtain ⟨h0,h1,h2,h3⟩:=h;have hN:N<w.heap.size:=zJ w _ h0;exact ⟨(hb.cell (p:=⟨N,0,none⟩) hN).trans h0,(hb.cell (p:=⟨N,1,none⟩) hN).trans h1,(hb.cell (p:=⟨N,2,none⟩) hN).trans h2,(hb.cell (p:=⟨N,3,none⟩) hN).trans h3⟩
theorem BoxC.new (w:World) (p vr vo code:Value) (t:TypeId):BoxC (w.alloc (.cells #[p,vr,vo,code] t)) w.heap.size p vr vo code:=by
 unfold BoxC;simp
theorem BoxC.marked {v:Value} {w w':World} {N:Nat} {p vr vo code:Value} (h:BoxC w N p vr vo code) (hm:qa9 v w w') (hv:¬ qae v N):BoxC w' N p vr vo code:=by
 obtain ⟨h0,h1,h2,h3⟩:=h;have hN:N<w.heap.size:=zJ w _ h0;exact ⟨(hm.cell hN hv _).trans h0,(hm.cell hN hv _).trans h1,(hm.cell hN hv _).trans h2,(hm.cell hN hv _).trans h3⟩
theorem qk9:∃ i,prog.info? 3=some i/\i.zero=some (.int .i64 0)/\i.size=1/\i.bytes=8:=by
 have hinfo:=qp9;cases hi:prog.info? 3 with
 | none=>rw [hi] at hinfo;cases hinfo
 | some i=>
  rw [hi] at hinfo;simp only [Option.map_some,nG,Prod.mk.injEq] at hinfo;exact ⟨i,rfl,hinfo⟩
theorem qiw (w:World) (ty:TypeId) (B c:Nat) (v:Value) (xs:List Int) (h:OwnI w B v xs):
  (Builtin.append_ #[28,28] ty #[v,.slice none 0 c]).run prog w=.ok v w:=by
 obtain ⟨i,hi,_⟩:=qk9
 rcases h.2 with ⟨rfl,_⟩ | ⟨g,cap,cur,rfl,_,_,hnc,_⟩
 ·simp [Builtin.append_,run_underlying Tryz.underlying28,sizeOf,typeInfo,hi,Builtin.lenOf,Builtin.firstCells]
 ·simp [Builtin.append_,run_underlying Tryz.underlying28,sizeOf,typeInfo,hi,Builtin.lenOf,Builtin.firstCells,hnc,storeCells]
theorem qd7 (w:World) (ty:TypeId) (B c:Nat) (v:Value) (a0:Option Addr) (xs ys:List Int) (h:OwnI w B v xs) (hy:Sl w a0 ys) (hn:xs.length+ys.length<=4000000) (hB:B<=w.heap.size):
  ∃ v' w',(Builtin.append_ #[28,28] ty #[v,.slice a0 ys.length c]).run prog w=.ok v' w'/\OwnI w' B v' (xs ++ ys)/\w.grownBy w' v.ownBlock/\(v'.ownBlock=v.ownBlock\/v'.ownBlock=some w.heap.size):=by
 obtain ⟨i,hi,hz,hs,hb⟩:=qk9;cases a0 with
 | none=>
  have hy0:ys=[]:=by
   rcases hy with h0 | ⟨b,off,e,_⟩
   ·exact h0
   ·cases e
  subst hy0;exact ⟨v,w,qiw w ty B c v xs h,by simpa using h,World.grownBy.refl _ _,.inl rfl⟩
 | some a=>
  have hnews:∀ j u,(ys.map (Value.int .i64))[j]? = some u->w.cell? (a.add j)=some u:=by
   rcases hy with h0 | ⟨b,off,e,hlt,hc⟩
   ·subst h0;intro j u hj;simp at hj
   ·cases e
    exact qoo (.inr ⟨b,off,rfl,hlt,hc⟩) (nE _ _)
  obtain ⟨v',w',h1,h2,h3,_,h5⟩:=run_append_own_at (P:=prog) w B 28 ty 3 i (.int .i64 0) 1 8 Tryz.underlying28 hi hz hs hb rfl (by decide) v xs.length (xs.map (Value.int .i64)) h a ys.length c (ys.map (Value.int .i64)) (by simp) hnews (qh0 ys) (by unfold maxLen;omega) (by omega) hB;refine ⟨v',w',h1,?_,h3,h5⟩;unfold OwnI;rw [List.length_append,List.map_append];exact h2
theorem qbd {ops:Array Oper} {rest:List Oper} {op:Oper} {act:Act} {Q:Exit->Act->World->Prop} (w:World) (hgd:op.guard=none) (s x:Operand)
  (ho:op.op=.call { callee:=.builtin .append,args:=#[s,x],argTypes:=#[28,28] })
  (B c:Nat) (v:Value) (a0:Option Addr) (xs ys:List Int) (hs:act.eval s=v) (hx:act.eval x=.slice a0 ys.length c) (hv:OwnI w B v xs) (hy:Sl w a0 ys) (hn:xs.length+ys.length<=4000000) (hB:B<=w.heap.size)
  (h:∀ v' w',OwnI w' B v' (xs ++ ys)->w.grownBy w' v.ownBlock->(v'.ownBlock=v.ownBlock\/v'.ownBlock=some w.heap.size)->wpList prog ops Q rest (act.put op.dst v') w'):
  wpList prog ops Q (op :: rest) act w:=by
 obtain ⟨v',w',h1,h2,h3,h4⟩:=qd7 w op.type B c v a0 xs ys hv hy hn hB;refine wpList_plain hgd fun K hK=>?_;unfold Oper.wp execOp;simp only [ho,resolve,invoke,builtin,Sem.run_bind,Sem.run_pure,Result.andThen_ok,List.map_toArray,List.map_cons,List.map_nil,hs,hx,h1];exact hK _ _ (h v' w' h2 h3 h4)
theorem qc0 (w:World):OwnI (w.alloc (.cells #[] 3)) w.heap.size (sG w.heap.size 0 0) []:=
 World.ownsRow_made (base:=w.heap.size) (e:=3) (size:=1) w #[] 0 (nA _) (by unfold maxLen;omega) rfl
theorem qdm {ops:Array Oper} {rest:List Oper} {op:Oper} {act:Act} {Q:Exit->Act->World->Prop} (w:World) {N:Nat} (hN:N=w.heap.size) (hgd:op.guard=none) (s x:Operand)
  (ho:op.op=.call { callee:=.builtin .append,args:=#[s,x],argTypes:=#[28,28] })
  (c:Nat) (a0:Option Addr) (ys:List Int) (hs:act.eval s=.slice (some ⟨N,0,none⟩) 0 0) (hx:act.eval x=.slice a0 ys.length c) (hy:Sl w a0 ys) (hn:ys.length<=1048576)
  (h:∀ v' w',OwnI w' w.heap.size v' ys->Below w.heap.size w w'->wpList prog ops Q rest (act.put op.dst v') w'):
  wpList prog ops Q (op :: rest) act (w.alloc (.cells #[] 3)):=by
 subst hN;have hb:Below w.heap.size w (w.alloc (.cells #[] 3)):=(nE _ _).alloc (nA _) _;refine qbd _ hgd s x ho w.heap.size c (sG w.heap.size 0 0) a0 [] ys hs hx (qc0 w) (hy.bw hb) (by simp;omega) (by simp) ?_;intro v' w' o g _;exact h v' w' (by simpa using o) (hb.grown g (by simp) (fun k hk=>by cases hk;exact nA _))
def STOP (p:Prop):Prop:=p
theorem qdn {P:Program} {ops:Array Oper} {rest:List Oper} {op:Oper} {act:Act} {Q:Exit->Act->World->Prop} {w:World} {a:Array Operand} {t:Array TypeId} (_:op.op=.call { callee:=.builtin .append,args:=a,argTypes:=t }) (h:STOP (wpList P ops Q (op :: rest) act w)):wpList P ops Q (op :: rest) act w:=h
theorem qfk (a0:Option Addr) (cap:Nat) (xs:List Int) (w:World) (hlen:xs.length<=1048576) (h:Sl w a0 xs):
  Calls prog 138 #[.slice a0 xs.length cap] w fun e w'=>∃ v,e=.returned v/\OwnI w' w.heap.size v xs/\Below w.heap.size w w':=by
 cases a0 with
 | none=>
  have h0:xs=[]:=by
   rcases h with h0 | ⟨b,off,e,_⟩
   ·exact h0
   ·cases e
  subst h0;have he:∀ wx:World,(binOp .eql 28 (.slice none 0 cap) nS).run prog wx=.ok (.bool true) wx:=fun wx=>by kernel_rfl
  go_enter func138,ntmps138
  go_wp2;go_ret;exact ⟨_,rfl,World.ownsRow_nil _ _ _ _,nE _ _⟩
 | some a=>
  have HS:Hid (Sl w (some a) xs):=h;have he:∀ wx:World,(binOp .eql 28 (.slice (some a) xs.length cap) nS).run prog wx=.ok (.bool false) wx:=fun wx=>by kernel_rfl
  clear h
  go_enter func138,ntmps138
  go_wp2_with (at_builtin;refine qbd _ rfl _ _ rfl w.heap.size cap (sG w.heap.size 0 0) (some a) [] xs rfl rfl (qc0 w) (HS.bw ((nE _ _).alloc (nA _) _)) (by simp;omega) (by simp) ?_;intro v' w1 o1 g1 _;have HF:Hid (OwnI w1 w.heap.size v' xs/\Below w.heap.size w w1):=⟨by simpa using o1,((nE _ _).alloc (nA _) _).grown g1 (by simp) (fun k hk=>by cases hk;exact nA _)⟩;clear o1 g1)
  go_ret;exact ⟨_,rfl,HF.out⟩
theorem qfm (p code:Int) (ra oa:Option Addr) (rc oc:Nat) (rs os:List Int) (w:World) (hr:rs.length<=1048576) (ho:os.length<=1048576) (h1:Sl w ra rs) (h2:Sl w oa os):
  Calls prog 139 #[stV p ra rs.length rc oa os.length oc code] w fun e w'=>∃ v,e=.returned v/\qag w' w.heap.size v p rs os code/\Below w.heap.size w w':=by
 have H1:Hid (Sl w ra rs):=h1;have H2:Hid (Sl w oa os):=h2;clear h1 h2
 go_enter func139,ntmps139
 go_wp2_with fail
 refine (qfk ra rc rs _ hr (H1.bw (by go_grown))).mono ?_;rintro e w1 ⟨v1,rfl,o1,b1⟩;have B1:Hid (Below w.heap.size w w1):=qai (by go_grown) b1 (by simp;omega);obtain ⟨hc1,hf1⟩:=qap b1;have y1:w.heap.size+1<w1.heap.size:=by have:=b1.size;simp at this;omega
 have y0:w.heap.size<w1.heap.size:=by omega
 obtain ⟨ra1,rc1,rfl,_⟩:=o1.form;have s0:w1.cell? ⟨w.heap.size,0,none⟩=some (.int .i64 p):=by rw [hc1 _ _ (by simp;omega)];simp
 have s1:w1.cell? ⟨w.heap.size,1,none⟩=some (.slice ra rs.length rc):=by rw [hc1 _ _ (by simp;omega)];simp
 have s2:w1.cell? ⟨w.heap.size,2,none⟩=some (.slice oa os.length oc):=by rw [hc1 _ _ (by simp;omega)];simp
 have s3:w1.cell? ⟨w.heap.size,3,none⟩=some (.int .i64 code):=by rw [hc1 _ _ (by simp;omega)];simp
 have L1:Hid (∀ k,(Value.slice ra1 rs.length rc1).ownBlock=some k->w.heap.size+1<k/\k<w1.heap.size):=fun k hk=>by have:=o1.lt k hk;simp at this;omega
 have BS:Hid (Below w.heap.size w (w1.setCell ⟨w.heap.size,1,none⟩ (.slice ra1 rs.length rc1))):=B1.setCell (by simp) _
 have O1:Hid (OwnI (w1.setCell ⟨w.heap.size,1,none⟩ (.slice ra1 rs.length rc1)) (w.heap.size+1+1) (.slice ra1 rs.length rc1) rs):=by
  simp only [World.size_alloc] at o1;exact o1.setBelow (by simp;omega) _
 clear o1 b1 B1;go_wp2_with fail
 refine (qfk oa oc os _ ho (H2.bw BS.out)).mono ?_;rintro e w2 ⟨v2,rfl,o2,b2⟩;have B2:Hid (Below w.heap.size w w2):=qai BS.out b2 (by simp;omega);obtain ⟨hc2,hf2⟩:=qap b2;obtain ⟨oa2,oc2,rfl,_⟩:=o2.form;have O1':Hid (OwnI w2 (w.heap.size+1+1) (.slice ra1 rs.length rc1) rs):=O1.bw b2;simp only [World.size_setCell] at o2;have O2:Hid (OwnI w2 w1.heap.size (.slice oa2 os.length oc2) os):=o2;clear o2 b2 BS O1;go_wp2;refine bodyPost_ret (v:=stV p ra1 rs.length rc1 oa2 os.length oc2 code) (by simp [results,results139,go_sem,hc2,y1,hc1]) rfl ⟨_,rfl,⟨_,_,rfl,?_,?_,?_⟩,?_⟩
 ·refine OwnI.mono (B:=w.heap.size+1+1) ?_ (by omega)
  repeat (refine OwnI.setBelow ?_ (by simp<;>omega) _)
  exact O1'.out
 ·refine OwnI.mono (B:=w1.heap.size) ?_ (by omega)
  repeat (refine OwnI.setBelow ?_ (by simpa using by omega) _)
  exact O2.out
 ·intro k hk hk'
  have h1:=L1.out k hk;have h2:=O2.lt k hk';omega
 ·have:=B2.out
  go_grown
theorem qbz (p code:Int) (ra oa:Option Addr) (rc oc:Nat) (rs os:List Int) (w:World) (hr:rs.length<=1048576) (ho:os.length<=1048576) (h1:Sl w ra rs) (h2:Sl w oa os):
  Calls prog 108 #[stV p ra rs.length rc oa os.length oc code] w fun e w'=>∃ v,e=.returned v/\qag w' w.heap.size v p rs os code/\Below w.heap.size w w':=by
 have H1:Hid (Sl w ra rs):=h1;have H2:Hid (Sl w oa os):=h2;clear h1 h2
 go_enter func108,ntmps108
 go_wp2_with (at_builtin;refine qdn rfl ?_)
 unfold STOP;refine qdm _ (N:=w.heap.size+1+1) (by simp) rfl _ _ rfl rc ra rs rfl rfl (H1.bw (by go_grown)) hr ?_;intro v1 w1 o1 b1;have B1:Hid (Below w.heap.size w w1):=qai (by go_grown) b1 (by simp;omega);obtain ⟨hc1,hf1⟩:=qap b1;have y1:w.heap.size+1<w1.heap.size:=by have:=b1.size;simp at this;omega
 have y0:w.heap.size<w1.heap.size:=by omega
 obtain ⟨ra1,rc1,rfl,_⟩:=o1.form;have s0:w1.cell? ⟨w.heap.size,0,none⟩=some (.int .i64 p):=by rw [hc1 _ _ (by simp;omega)];simp
 have s1:w1.cell? ⟨w.heap.size,1,none⟩=some (.slice ra rs.length rc):=by rw [hc1 _ _ (by simp;omega)];simp
 have s2:w1.cell? ⟨w.heap.size,2,none⟩=some (.slice oa os.length oc):=by rw [hc1 _ _ (by simp;omega)];simp
 have s3:w1.cell? ⟨w.heap.size,3,none⟩=some (.int .i64 code):=by rw [hc1 _ _ (by simp;omega)];simp
 have L1:Hid (∀ k,(Value.slice ra1 rs.length rc1).ownBlock=some k->w.heap.size+1<k/\k<w1.heap.size):=fun k hk=>by have:=o1.lt k hk;simp at this;omega
 have BS:Hid (Below w.heap.size w (w1.setCell ⟨w.heap.size,1,none⟩ (.slice ra1 rs.length rc1))):=B1.setCell (by simp) _
 have O1:Hid (OwnI (w1.setCell ⟨w.heap.size,1,none⟩ (.slice ra1 rs.length rc1)) (w.heap.size+1+1) (.slice ra1 rs.length rc1) rs):=by
  simp only [World.size_alloc] at o1;exact o1.setBelow (by simp;omega) _
 clear o1 b1 B1;go_wp2_with (at_builtin;refine qdn rfl ?_)
 unfold STOP;refine qdm (w1.setCell ⟨w.heap.size,1,none⟩ (.slice ra1 rs.length rc1)) (N:=w1.heap.size) (by simp) rfl _ _ rfl oc oa os rfl rfl (H2.bw BS.out) ho ?_;intro v2 w2 o2 b2;have B2:Hid (Below w.heap.size w w2):=qai BS.out b2 (by simp;omega);obtain ⟨hc2,hf2⟩:=qap b2;obtain ⟨oa2,oc2,rfl,_⟩:=o2.form;have O1':Hid (OwnI w2 (w.heap.size+1+1) (.slice ra1 rs.length rc1) rs):=O1.bw b2;simp only [World.size_setCell] at o2;have O2:Hid (OwnI w2 w1.heap.size (.slice oa2 os.length oc2) os):=o2;clear o2 b2 BS O1;go_wp2;refine bodyPost_ret (v:=stV p ra1 rs.length rc1 oa2 os.length oc2 code) (by simp [results,results108,go_sem,hc2,y1,hc1]) rfl ⟨_,rfl,⟨_,_,rfl,?_,?_,?_⟩,?_⟩
 ·refine OwnI.mono (B:=w.heap.size+1+1) ?_ (by omega)
  repeat (refine OwnI.setBelow ?_ (by simp<;>omega) _)
  exact O1'.out
 ·refine OwnI.mono (B:=w1.heap.size) ?_ (by omega)
  repeat (refine OwnI.setBelow ?_ (by simpa using by omega) _)
  exact O2.out
 ·intro k hk hk'
  have h1:=L1.out k hk;have h2:=O2.lt k hk';omega
 ·have:=B2.out
  go_grown
