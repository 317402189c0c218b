import Derived.Test.YtbgfjbgdiifghaaGreatDoorZn1
import Derived.Lib.QuietBelow
namespace Go.Proofs.YtbgfjbgdiifghaaGreatDoor
open Go.Proofs.Tryz
set_option maxRecDepth 100000
set_option maxHeartbeats 1000000
open Go.RowKit
theorem qa6 {x y:Bool} (h:x=y):Ending.returned (.bool x)=.returned (.bool y):=by rw [h]
theorem qi1 (op r a b n places procs:Int) (w:World) (h1:inB r 0 3=true) (h2:inB a 0 3=true) (h3:inB b 0 3=true) (h4:inB procs 1 4=true) (h5:1<=procs) (h6:procs<=4) (h:op<1\/11<op):
  Calls prog 88 #[insV op r a b n,iV places,iV procs] w (rB w (.bool false)):=by
 have g1:(op == 1)=false:=by simp;omega
 have g2:(op == 2)=false:=by simp;omega
 have g3:(op == 3)=false:=by simp;omega
 have g4:(op == 4)=false:=by simp;omega
 have g5:(op == 5)=false:=by simp;omega
 have g6:(op == 6)=false:=by simp;omega
 have g7:(op == 7)=false:=by simp;omega
 have g8:(op == 8)=false:=by simp;omega
 have g9:(op == 9)=false:=by simp;omega
 have g10:(op == 10)=false:=by simp;omega
 have g11:(op == 11)=false:=by simp;omega
 clear h
 go_enter func88,ntmps88
 go_wp2_with (first|(go_at_call 48;refine (l1In_any _ _ _ _).mono ?_;rintro e w' ⟨rfl,rfl⟩)|(go_at_call 90;refine (l1Num_any _ _).mono ?_;rintro e w' ⟨rfl,rfl⟩))
 all_goals
  go_ret;exact ⟨rfl,by go_grown⟩
theorem qkt (op r a b n places procs:Int) (w:World) (h:(inB r 0 3 && inB a 0 3 && inB b 0 3 && inB procs 1 4)=false):
  Calls prog 88 #[insV op r a b n,iV places,iV procs] w (rB w (.bool false)):=by
 rcases zK (inB r 0 3) with h1 | h1
 ·rcases zK (inB a 0 3) with h2 | h2
  ·rcases zK (inB b 0 3) with h3 | h3
   ·have h4:inB procs 1 4=false:=by simpa [h1,h2,h3] using h
    clear h
    go_enter func88,ntmps88
    go_wp2_with (first|(go_at_call 48;refine (l1In_any _ _ _ _).mono ?_;rintro e w' ⟨rfl,rfl⟩)|(go_at_call 90;refine (l1Num_any _ _).mono ?_;rintro e w' ⟨rfl,rfl⟩))
    go_ret;exact ⟨rfl,by go_grown⟩
   ·clear h
    go_enter func88,ntmps88
    go_wp2_with (first|(go_at_call 48;refine (l1In_any _ _ _ _).mono ?_;rintro e w' ⟨rfl,rfl⟩)|(go_at_call 90;refine (l1Num_any _ _).mono ?_;rintro e w' ⟨rfl,rfl⟩))
    go_ret;exact ⟨rfl,by go_grown⟩
  ·clear h
   go_enter func88,ntmps88
   go_wp2_with (first|(go_at_call 48;refine (l1In_any _ _ _ _).mono ?_;rintro e w' ⟨rfl,rfl⟩)|(go_at_call 90;refine (l1Num_any _ _).mono ?_;rintro e w' ⟨rfl,rfl⟩))
   go_ret;exact ⟨rfl,by go_grown⟩
 ·clear h
  go_enter func88,ntmps88
  go_wp2_with (first|(go_at_call 48;refine (l1In_any _ _ _ _).mono ?_;rintro e w' ⟨rfl,rfl⟩)|(go_at_call 90;refine (l1Num_any _ _).mono ?_;rintro e w' ⟨rfl,rfl⟩))
  go_ret;exact ⟨rfl,by go_grown⟩
abbrev regV (a b c d:Int):Value:=.agg #[iV a,iV b,iV c,iV d]
theorem qtv:(prog.info? 3).map (·.size)=some 1:=by kernel_rfl
def cmax (x:Int):Int:=if x < -1000000000 then -1000000000 else x
def cmin (x:Int):Int:=if 1000000000<x then 1000000000 else x
def qbm (x:Int):Int:=cmin (cmax x)
theorem qvh (ts:Array TypeId) (t:TypeId) (x:Int) (w:World):(Builtin.max_ ts t #[iV x,iV (-1000000000)]).run prog w=.ok (iV (cmax x)) w:=by
 rw [run_max_int2];rfl
theorem qvi (ts:Array TypeId) (t:TypeId) (x:Int) (w:World):(Builtin.min_ ts t #[iV x,iV 1000000000]).run prog w=.ok (iV (cmin x)) w:=by
 rw [run_min_int2];rfl
theorem qq4 (a b c d:Int) (w:World):(Instr.index 222 (regV a b c d) (iV 0)).run prog w=.ok (iV a) w:=by kernel_rfl
theorem qq6 (a b c d:Int) (w:World):(Instr.index 222 (regV a b c d) (iV 1)).run prog w=.ok (iV b) w:=by kernel_rfl
theorem qq7 (a b c d:Int) (w:World):(Instr.index 222 (regV a b c d) (iV 2)).run prog w=.ok (iV c) w:=by kernel_rfl
theorem qq8 (a b c d:Int) (w:World):(Instr.index 222 (regV a b c d) (iV 3)).run prog w=.ok (iV d) w:=by kernel_rfl
section
attribute [local go_sem] qq4 qq6 qq7 qq8
theorem qc9 (a b c d:Int) (w:World):
  Calls prog 164 #[regV a b c d] w (rB w (regV (qbm a) (qbm b) (qbm c) (qbm d))):=by
 have hmx:=qvh;have hmn:=qvi
 go_enter func164,ntmps164
 go_wp2_with fail
 go_rounds 5
 refine bodyPost_ret (v:=regV (qbm a) (qbm b) (qbm c) (qbm d)) (by simp [results,results164,go_sem,qbm]) rfl ⟨rfl,?_⟩
 go_grown
end
theorem qet (x:Int) (w:World):
  Calls prog 165 #[iV x] w fun e w'=>e=.returned (.bool (inB x 0 2))/\w'=w:=by
 by_cases h0:x=0
 ·subst h0
  go_enter func165,ntmps165
  go_wp2;go_ret;exact ⟨rfl,rfl⟩
 ·have h0':(x == 0)=false:=by simp [h0]
  by_cases h1:x=1
  ·subst h1
   go_enter func165,ntmps165
   go_wp2;go_ret;exact ⟨rfl,rfl⟩
  ·have h1':(x == 1)=false:=by simp [h1]
   have hv:inB x 0 2=(x == 2):=by
    rw [Bool.eq_iff_iff];simp [inB];omega
   have HV:Hid (inB x 0 2=(x == 2)):=hv;clear h0 h1 hv
   go_enter func165,ntmps165
   go_wp2;go_ret;exact ⟨by rw [HV.out];rfl,rfl⟩
theorem qhe (w:World) (z cs:Array Value) (t:TypeId):(w.alloc (.cells z t)).setRow w.heap.size cs=w.alloc (.cells cs t):=by
 have h:((w.alloc (.cells z t)).setRow w.heap.size cs).heap=(w.alloc (.cells cs t)).heap:=by
  apply Array.ext_getElem?;intro k;by_cases hk:k=w.heap.size
  ·subst hk
   rw [setRow_heap _ _ z cs t (0,0) (heap_alloc_new w _)];exact (heap_alloc_new w _).symm
  ·rw [setRow_other _ _ _ _ hk]
   show (w.heap.push _)[k]? = (w.heap.push _)[k]?;rw [Array.getElem?_push,Array.getElem?_push,nB hk,nB hk]
 show World.mk _ _ _ _ _=World.mk _ _ _ _ _
 congr 1
theorem qtq (w:World) (a:Addr) (sLen cap:Nat) (cs:List Value) (z:Array Value) (hz:z.size=4) (hn:cs.length=Nat.min sLen 4) (hsrc:∀ j v,cs[j]? = some v->(w.alloc (.cells z 222)).cell? (a.add j)=some v) (h1:∀ v ∈ cs,v.oneCell'=true):
  (Builtin.copy_ #[41,41] 3 #[.slice (some (aQ w.heap.size 0)) 4 4,.slice (some a) sLen cap]).run prog (w.alloc (.cells z 222))=.ok (goInt cs.length) (w.alloc (.cells (cs ++ z.toList.drop cs.length).toArray 222)):=by
 have h:=run_copy_row (P:=prog) (w.alloc (.cells z 222)) 41 41 3 3 w.heap.size 0 4 4 a sLen cap z 222 cs Tryz.underlying41 qtv (heap_alloc_new w _) hn hsrc (by rw [hz,hn,nL];exact Nat.min_le_right _ _) h1;rw [h,qhe];simp only [List.take_zero,List.nil_append,nL]
theorem qox (b off j:Nat):Addr.add ⟨b,off,none⟩ j=⟨b,off+j,none⟩:=by
 unfold Addr.add;by_cases h:j=0
 ·rw [nC h,h,Nat.add_zero]
 ·rw [nB h]
theorem qms {w w':World} {b off:Nat} {xs:List Int} (h:Sl w (some ⟨b,off,none⟩) xs) (hb:Bw w w'):∀ j v,(xs.map (Value.int .i64))[j]? = some v->w'.cell? (Addr.add ⟨b,off,none⟩ j)=some v:=by
 intro j v hj
 have hl:j<xs.length:=by
  apply Classical.byContradiction;intro hn;rw [List.getElem?_eq_none (by simp;omega)] at hj;cases hj
 rw [qc8 xs j hl] at hj;rw [qox,<- hj];obtain ⟨b',off',e,hlt,hc⟩:=(h.bw hb).at hl;simp only [nG,Addr.mk.injEq,and_true] at e;obtain ⟨rfl,rfl⟩:=e;exact hc
theorem qhu (xs:List Int):∀ v ∈ xs.map (Value.int .i64),v.oneCell'=true:=by
 intro v hv;obtain ⟨x,_,rfl⟩:=List.mem_map.1 hv;rfl
abbrev qrl:Obj:=.cells #[iV 0,iV 0,iV 0,iV 0] 222
theorem qdz (a0:Option Addr) (n cap q:Nat) (r0 r1 r2 r3:Int) (w:World)
  (hrun:(Builtin.copy_ #[41,41] 3 #[.slice (some ⟨w.heap.size+1,0,none⟩) 4 4,.slice a0 n cap]).run prog ((w.alloc qrl).alloc qrl)=.ok (goInt q) ((w.alloc qrl).alloc (.cells #[iV r0,iV r1,iV r2,iV r3] 222))):
  Calls prog 150 #[.slice a0 n cap] w (rB w (.tuple #[regV r0 r1 r2 r3,.bool ((n:Int) == 4)])):=by
 go_enter func150,ntmps150
 go_wp2;refine bodyPost_ret (v:=.tuple #[regV r0 r1 r2 r3,.bool ((n:Int) == 4)]) (by simp [results,results150,go_sem]) rfl ⟨rfl,?_⟩
 go_grown
theorem qbn (b off n cap:Nat) (cs:List Int) (r0 r1 r2 r3:Int) (w:World) (hn:cs.length=Nat.min n 4) (h:Sl w (some (aQ b off)) cs)
  (hr:(cs.map (Value.int .i64) ++ [iV 0,iV 0,iV 0,iV 0].drop cs.length).toArray=#[iV r0,iV r1,iV r2,iV r3]):
  Calls prog 150 #[.slice (some (aQ b off)) n cap] w (rB w (.tuple #[regV r0 r1 r2 r3,.bool ((n:Int) == 4)])):=by
 have hb:Bw w ((w.alloc qrl).alloc qrl):=by go_grown
 have hrun:=qtq (w.alloc qrl) ⟨b,off,none⟩ n cap (cs.map (Value.int .i64)) #[iV 0,iV 0,iV 0,iV 0] rfl (by rw [List.length_map];exact hn) (qms h hb) (qhu cs);rw [List.length_map,hr] at hrun
 (try dsimp only [aW] at hrun);rw [World.size_alloc] at hrun
 exact qdz _ n cap _ r0 r1 r2 r3 w hrun
theorem qhm (a0:Option Addr) (cap:Nat) (w:World):
  Calls prog 150 #[.slice a0 0 cap] w (rB w (.tuple #[regV 0 0 0 0,.bool ((0:Int) == 4)])):=
 qdz a0 0 cap 0 0 0 0 0 w (run_copy_none _ _ _ _ 3 _ _ _ _ _ _ Tryz.underlying41 qtv rfl)
theorem Sl.sub {w:World} {b off:Nat} {xs ys:List Int} (h:Sl w (some (aQ b off)) xs) (hp:∃ t,xs=ys ++ t):Sl w (some (aQ b off)) ys:=by
 obtain ⟨t,rfl⟩:=hp;by_cases h0:ys=[]
 ·exact .inl h0
 ·rcases h with h | ⟨b',off',e,hlt,hc⟩
  ·simp at h;exact .inl h.1
  ·refine .inr ⟨b',off',e,hlt,fun i hi=>?_⟩
   have:=hc i (by simp;omega);unfold zi at this ⊢
   rwa [List.getD_eq_getElem?_getD,List.getElem?_append_left hi,<- List.getD_eq_getElem?_getD] at this
theorem qb9 (a0:Option Addr) (cap:Nat) (xs:List Int) (w:World) (h:Sl w a0 xs):
  Calls prog 150 #[.slice a0 xs.length cap] w fun e w'=>(∃ r0 r1 r2 r3,e=.returned (.tuple #[regV r0 r1 r2 r3,.bool ((xs.length:Int) == 4)])/\(xs.length=4->xs=[r0,r1,r2,r3]))/\Bw w w':=by
 match xs,h with
 | [],_=>exact (qhm a0 cap w).mono fun e w' ⟨he,hb⟩=>⟨⟨0,0,0,0,he,fun h=>by cases h⟩,hb⟩
 | [a],h=>
  obtain ⟨b,off,rfl,_⟩:=h.at (k:=0) (by simp);exact (qbn b off 1 cap [a] a 0 0 0 w rfl h rfl).mono fun e w' ⟨he,hb⟩=>⟨⟨_,_,_,_,he,fun h=>by cases h⟩,hb⟩
 | [a,c],h=>
  obtain ⟨b,off,rfl,_⟩:=h.at (k:=0) (by simp);exact (qbn b off 2 cap [a,c] a c 0 0 w rfl h rfl).mono fun e w' ⟨he,hb⟩=>⟨⟨_,_,_,_,he,fun h=>by cases h⟩,hb⟩
 | [a,c,d],h=>
  obtain ⟨b,off,rfl,_⟩:=h.at (k:=0) (by simp);exact (qbn b off 3 cap [a,c,d] a c d 0 w rfl h rfl).mono fun e w' ⟨he,hb⟩=>⟨⟨_,_,_,_,he,fun h=>by cases h⟩,hb⟩
 | [a,c,d,f],h=>
  obtain ⟨b,off,rfl,_⟩:=h.at (k:=0) (by simp);exact (qbn b off 4 cap [a,c,d,f] a c d f w rfl h rfl).mono fun e w' ⟨he,hb⟩=>⟨⟨_,_,_,_,he,fun _=>rfl⟩,hb⟩
 | a :: c :: d :: f :: g :: t,h=>
  obtain ⟨b,off,rfl,_⟩:=h.at (k:=0) (by simp);exact (qbn b off (a :: c :: d :: f :: g :: t).length cap [a,c,d,f] a c d f w (by simp) (h.sub ⟨g :: t,rfl⟩) rfl).mono fun e w' ⟨he,hb⟩=>⟨⟨_,_,_,_,he,fun h=>by simp at h⟩,hb⟩
open Go.Sort
def numB (x:Int):Bool:=inB x (-1000000000) 1000000000
def allN (xs:List Int):Bool:=xs.all numB
theorem qm2 {xs:List Int} {k:Nat} (hk:k<xs.length):zi xs k ∈ xs:=by
 unfold zi;rw [List.getD_eq_getElem?_getD,List.getElem?_eq_getElem hk];exact List.getElem_mem hk
theorem qp0 {xs:List Int} {k:Nat} (hk:k<xs.length) (h:numB (zi xs k)=false):allN xs=false:=by
 rw [allN,List.all_eq_false];exact ⟨_,qm2 hk,by simp [h]⟩
theorem qyx {xs:List Int} {x:Int} (h:x ∈ xs):∃ k,k<xs.length/\zi xs k=x:=by
 obtain ⟨k,hk,e⟩:=List.getElem_of_mem h;refine ⟨k,hk,?_⟩;unfold zi;rw [List.getD_eq_getElem?_getD,List.getElem?_eq_getElem hk];exact e
theorem qrm {xs:List Int} (h:∀ k,k<xs.length->numB (zi xs k)=true):allN xs=true:=by
 rw [allN,List.all_eq_true];intro x hx;obtain ⟨k,hk,rfl⟩:=qyx hx;exact h k hk
def outB (xs:List Int):Bool:=decide ((xs.length:Int)<=60) && allN xs
def qc3 (xs:List Int):Bool:=((xs.length:Int) == 4) && allN xs
def qc4 (n:Nat) (p:Int) (rs os:List Int) (code:Int):Bool:=qc3 rs && inB code 0 2 && belB p n && outB os
theorem qfz (a0:Option Addr) (cap:Nat) (xs:List Int) (w:World) (hlen:xs.length<=1048576) (h:Sl w a0 xs):
  Calls prog 166 #[.slice a0 xs.length cap] w fun e w'=>e=.returned (.bool (outB xs))/\w'=w:=by
 have hl':(xs.length:Int)<=1048576:=by omega
 by_cases h60:(xs.length:Int)<=60
 case neg=>
  have hg:60<(xs.length:Int):=by omega
  have HV:Hid (outB xs=false):=by simp [Hid,outB,h60]
  clear h60
  go_enter func166,ntmps166
  go_wp2;go_ret;exact ⟨by rw [HV.out];rfl,rfl⟩
 case pos=>
  have HV:Hid (outB xs=allN xs):=by simp [Hid,outB,h60]
  have hg:¬ 60<(xs.length:Int):=by omega
  have HS:Hid (Sl w a0 xs):=h;clear h h60
  go_enter func166,ntmps166
  go_wp2_with fail
  go_loop [10] (fun i=>∃ k:Nat,k<=xs.length/\i=.int .i64 k/\Hid (∀ t,t<k->numB (zi xs t)=true)) (fun i=>xs.length - (intOf i).toNat)
  case atStart=>exact ⟨0,nD _,rfl,fun t ht=>by omega⟩
  case round=>
   obtain ⟨k,hk,rfl,HK⟩:=hrel;by_cases hlt:k<xs.length
   ·have hlt':(k:Int)<(xs.length:Int):=by omega
    obtain ⟨b,off,rfl,hbl,ck⟩:=HS.at hlt
    rcases zK (numB (zi xs k)) with t0 | t0
    ·have T0:Hid (numB (zi xs k)=true):=t0
     have t1:inB (zi xs k) (-1000000000) 1000000000=true:=t0;clear t0;go_wp2_with (go_at_call 127;refine (isNum_any _ _).mono ?_;rintro e w' ⟨rfl,rfl⟩)
     go_round
     case rel=>
      refine ⟨k+1,by omega,by go_num,fun t ht=>?_⟩;by_cases htk:t=k
      ·subst htk;exact T0.out
      ·exact HK.out t (by omega)
     case measure=>simp [intOf];omega
    ·have T0:Hid (allN xs=false):=qp0 hlt t0
     have t1:inB (zi xs k) (-1000000000) 1000000000=false:=t0;clear t0;go_wp2_with (go_at_call 127;refine (isNum_any _ _).mono ?_;rintro e w' ⟨rfl,rfl⟩)
     go_ret;exact ⟨by rw [HV.out,T0.out];rfl,rfl⟩
   ·have hlt':¬ (k:Int)<(xs.length:Int):=by omega
    have T0:Hid (allN xs=true):=qrm fun t ht=>HK.out t (by omega);clear HK;go_wp2;go_ret;exact ⟨by rw [HV.out,T0.out];rfl,rfl⟩
theorem quk {x:Int}:qbm x=x ↔ numB x=true:=by
 unfold qbm cmin cmax numB inB;simp only [nI];by_cases h1:x < -1000000000
 ·rw [nC h1,nB (by omega)];omega
 ·rw [nB h1]
  by_cases h2:1000000000<x
  ·rw [nC h2];omega
  ·rw [nB h2];simp;omega
def qml (a b c d a' b' c' d':Int):Bool:=a == a' && (b == b' && (c == c' && d == d'))
theorem qjq (a b c d a' b' c' d':Int) (w:World):(binOp .eql 222 (regV a b c d) (regV a' b' c' d')).run prog w=.ok (.bool (qml a b c d a' b' c' d')) w:=by
 have hinfo:=qnz;cases hi:prog.info? 3 with
 | none=>rw [hi] at hinfo;cases hinfo
 | some i=>
  rw [run_eql_struct,show (10000:Nat)=9998+1+1 from rfl,run_equalIn_array w (9998+1) _ _ Tryz.underlying222 hi,show prog.cellsOf 3=1 by kernel_rfl,show List.range 4=[0,1,2,3] from rfl]
  have hp:∀ (vs:Array Value) (j:Nat) (v:Value) (w:World),vs[j]? = some v->(part 3 vs j).run prog w=.ok v w:=by
   intro vs j v w hv;simp [part,go_sem,hv]
  have p0:=hp #[iV a,iV b,iV c,iV d] 0 (iV a) w rfl;have p1:=hp #[iV a,iV b,iV c,iV d] 1 (iV b) w rfl;have p2:=hp #[iV a,iV b,iV c,iV d] 2 (iV c) w rfl;have p3:=hp #[iV a,iV b,iV c,iV d] 3 (iV d) w rfl;have q0:=hp #[iV a',iV b',iV c',iV d'] 0 (iV a') w rfl;have q1:=hp #[iV a',iV b',iV c',iV d'] 1 (iV b') w rfl;have q2:=hp #[iV a',iV b',iV c',iV d'] 2 (iV c') w rfl;have q3:=hp #[iV a',iV b',iV c',iV d'] 3 (iV d') w rfl;have hq:∀ x y,(Op.equalIn 9999 3 (iV x) (iV y)).run prog w=.ok (x == y) w:=fun x y=>run_equalIn_int (P:=prog) w 9998 3 .i64 .i64 x y Tryz.underlying3;clear hp hinfo hi;simp only [qml];cases h1:(a == a') <;> cases h2:(b == b') <;> cases h3:(c == c') <;> cases h4:(d == d') <;> simp only [Op.eqItems,Sem.run_bind,Sem.run_pure,Sem.run_ite,Result.andThen_ok,Bool.not_true,Bool.not_false,if_true,if_false,Bool.false_eq_true,Nat.mul_one,Bool.and_true,Bool.and_false,p0,p1,p2,p3,q0,q1,q2,q3,hq,h1,h2,h3,h4]
theorem qb4 (a b c d:Int):qml a b c d (qbm a) (qbm b) (qbm c) (qbm d)=qc3 [a,b,c,d]:=by
 have h:∀ x,(x == qbm x)=numB x:=fun x=>by
  rw [Bool.eq_iff_iff,<- quk,beq_iff_eq];exact eq_comm
 unfold qml qc3 allN;rw [h,h,h,h];simp
theorem zS {w:World} {b:Nat} (o:Obj) (j:Nat) (h:b<w.heap.size):(w.alloc o).cell? (aQ b j)=w.cell? (aQ b j):=zH (Below.heap_alloc w o b h)
theorem Calls.regrown_same {P:Program} {f:FuncId} {args:Array Value} {w:World} {d:Nat} {os:Array Obj} {v:Value}
  (h:Calls P f args (grow (redrawn w d) os) fun e w'=>e=.returned v/\w'=grow (redrawn w d) os):Calls P f args (grow (redrawn w d) os) fun e w''=>e=.returned v/\∃ p:Regrown,w''=grow (redrawn w p.d) p.os:=
 h.mono fun _ _ ⟨he,hw⟩=>⟨he,⟨d,os⟩,hw⟩
theorem qhl (la:Option Addr) (n lc:Nat) (p code:Int) (ra oa:Option Addr) (rc oc:Nat) (a b c d:Int) (os:List Int) (w:World) (ho:os.length<=1048576) (h1:Sl w ra [a,b,c,d]) (h2:Sl w oa os):
  Calls prog 149 #[.slice la n lc,stV p ra 4 rc oa os.length oc code] w (rB w (.bool (qc4 n p [a,b,c,d] os code))):=by
 have H1:Hid (Sl w ra [a,b,c,d]):=h1;have H2:Hid (Sl w oa os):=h2;clear h1 h2
 go_enter func149,ntmps149
 go_wp2_with fail
 refine (qb9 ra rc [a,b,c,d] _ (H1.bw (by go_grown))).mono ?_;rintro e w1 ⟨⟨r0,r1,r2,r3,rfl,hr⟩,b1⟩;have B1:Hid (Bw w w1):=qah (by go_grown) b1 (by simp);have y0:w.heap.size<w1.heap.size:=by have:=b1.size;simp at this;omega
 have hr':=hr rfl;simp only [List.cons.injEq,and_true] at hr';obtain ⟨rfl,rfl,rfl,rfl⟩:=hr';obtain ⟨hc1,hf1⟩:=qal b1;clear b1 hr;go_wp2_with fail
 have B2:Hid (Bw w (w1.alloc (.cells #[iV a,iV b,iV c,iV d] 222))):=B1.alloc (by omega) _;generalize hW:(w1.alloc (.cells #[iV a,iV b,iV c,iV d] 222))=W at *;have k0:W.cell? (aQ w1.heap.size 0)=some (iV a):=by rw [<- hW];simp
 have k1:W.cell? (aQ w1.heap.size 1)=some (iV b):=by rw [<- hW];simp
 have k2:W.cell? (aQ w1.heap.size 2)=some (iV c):=by rw [<- hW];simp
 have k3:W.cell? (aQ w1.heap.size 3)=some (iV d):=by rw [<- hW];simp
 have s0:W.cell? (aQ w.heap.size 0)=some (iV p):=by rw [<- hW,zS _ _ y0,hc1 _ _ (by simp)];simp
 have s2:W.cell? (aQ w.heap.size 2)=some (.slice oa os.length oc):=by rw [<- hW,zS _ _ y0,hc1 _ _ (by simp)];simp
 have s3:W.cell? (aQ w.heap.size 3)=some (iV code):=by rw [<- hW,zS _ _ y0,hc1 _ _ (by simp)];simp
 clear hc1 hf1 hW B1 y0;have k0':=cell_regrown k0;have k1':=cell_regrown k1;have k2':=cell_regrown k2;have k3':=cell_regrown k3;have s0':=cell_regrown s0;have s2':=cell_regrown s2;have s3':=cell_regrown s3;have HO:Hid (∀ d os',Sl (grow (redrawn W d) os') oa os):=fun d os'=>(H2.bw B2.out).bw (below_regrown W d os')
 rcases zK (qc3 [a,b,c,d]) with t1 | t1
 case inr=>
  have HV:Hid (qc4 n p [a,b,c,d] os code=false):=by simp [Hid,qc4,t1]
  have he:∀ wx,(binOp .eql 222 (regV a b c d) (regV (qbm a) (qbm b) (qbm c) (qbm d))).run prog wx=.ok (.bool false) wx:=fun wx=>by rw [qjq,qb4,t1]
  clear t1;refine wp_region_quiet_below (by kernel_rfl) (by kernel_rfl) ?_
  repeat (quiet_step (first|(go_at_call 164;exact Calls.regrown_of (qc9 _ _ _ _ _))|(go_at_call 165;exact Calls.regrown_same (qet _ _))|(go_at_call 76;exact Calls.regrown_same (isBelow_any _ _ _))|(go_at_call 166;exact Calls.regrown_same (qfz _ _ _ _ ho (HO.out _ _)))))
  refine wpQuiet_nil ?_;intro _ hw';obtain ⟨⟨dq,osq⟩,hw''⟩:=hw';subst hw'';have B3:Hid (Bw w (grow (redrawn W dq) osq)):=B2.trans ((below_regrown W dq osq).mono B2.size);generalize grow (redrawn W dq) osq=w3 at *;clear k0' k1' k2' k3' s0' s2' s3' HO he;go_wp2;go_ret;exact ⟨by rw [HV.out];rfl,B3.out⟩
 have he:∀ wx,(binOp .eql 222 (regV a b c d) (regV (qbm a) (qbm b) (qbm c) (qbm d))).run prog wx=.ok (.bool true) wx:=fun wx=>by rw [qjq,qb4,t1]
 rcases zK (inB code 0 2) with t2 | t2
 case inr=>
  have HV:Hid (qc4 n p [a,b,c,d] os code=false):=by simp [Hid,qc4,t2]
  clear t1;refine wp_region_quiet_below (by kernel_rfl) (by kernel_rfl) ?_
  repeat (quiet_step (first|(go_at_call 164;exact Calls.regrown_of (qc9 _ _ _ _ _))|(go_at_call 165;exact Calls.regrown_same (qet _ _))|(go_at_call 76;exact Calls.regrown_same (isBelow_any _ _ _))|(go_at_call 166;exact Calls.regrown_same (qfz _ _ _ _ ho (HO.out _ _)))))
  refine wpQuiet_nil ?_;intro _ hw';obtain ⟨⟨dq,osq⟩,hw''⟩:=hw';subst hw'';have B3:Hid (Bw w (grow (redrawn W dq) osq)):=B2.trans ((below_regrown W dq osq).mono B2.size);generalize grow (redrawn W dq) osq=w3 at *;clear k0' k1' k2' k3' s0' s2' s3' HO he;go_wp2;go_ret;exact ⟨by rw [HV.out];rfl,B3.out⟩
 rcases zK (belB p n) with t3 | t3
 case inr=>
  have HV:Hid (qc4 n p [a,b,c,d] os code=false):=by simp [Hid,qc4,t3]
  clear t1;refine wp_region_quiet_below (by kernel_rfl) (by kernel_rfl) ?_
  repeat (quiet_step (first|(go_at_call 164;exact Calls.regrown_of (qc9 _ _ _ _ _))|(go_at_call 165;exact Calls.regrown_same (qet _ _))|(go_at_call 76;exact Calls.regrown_same (isBelow_any _ _ _))|(go_at_call 166;exact Calls.regrown_same (qfz _ _ _ _ ho (HO.out _ _)))))
  refine wpQuiet_nil ?_;intro _ hw';obtain ⟨⟨dq,osq⟩,hw''⟩:=hw';subst hw'';have B3:Hid (Bw w (grow (redrawn W dq) osq)):=B2.trans ((below_regrown W dq osq).mono B2.size);generalize grow (redrawn W dq) osq=w3 at *;clear k0' k1' k2' k3' s0' s2' s3' HO he;go_wp2;go_ret;exact ⟨by rw [HV.out];rfl,B3.out⟩
 case inl=>
  have HV:Hid (qc4 n p [a,b,c,d] os code=outB os):=by simp [Hid,qc4,t1,t2,t3]
  clear t1;refine wp_region_quiet_below (by kernel_rfl) (by kernel_rfl) ?_
  repeat (quiet_step (first|(go_at_call 164;exact Calls.regrown_of (qc9 _ _ _ _ _))|(go_at_call 165;exact Calls.regrown_same (qet _ _))|(go_at_call 76;exact Calls.regrown_same (isBelow_any _ _ _))|(go_at_call 166;exact Calls.regrown_same (qfz _ _ _ _ ho (HO.out _ _)))))
  refine wpQuiet_nil ?_;intro _ hw';obtain ⟨⟨dq,osq⟩,hw''⟩:=hw';subst hw'';have B3:Hid (Bw w (grow (redrawn W dq) osq)):=B2.trans ((below_regrown W dq osq).mono B2.size);generalize grow (redrawn W dq) osq=w3 at *;clear k0' k1' k2' k3' s0' s2' s3' HO he;go_wp2;go_ret;exact ⟨by rw [HV.out];rfl,B3.out⟩
theorem qic (la:Option Addr) (n lc:Nat) (p code:Int) (ra oa:Option Addr) (rc on oc:Nat) (rs:List Int) (w:World) (h4:rs.length≠4) (h1:Sl w ra rs):
  Calls prog 149 #[.slice la n lc,stV p ra rs.length rc oa on oc code] w (rB w (.bool false)):=by
 have H1:Hid (Sl w ra rs):=h1;have h4':((rs.length:Int) == 4)=false:=by simp;omega
 clear h1 h4
 go_enter func149,ntmps149
 go_wp2_with fail
 refine (qb9 ra rc rs _ (H1.bw (by go_grown))).mono ?_;rintro e w1 ⟨⟨a,b,c,d,rfl,hr⟩,b1⟩;have B1:Hid (Bw w w1):=qah (by go_grown) b1 (by simp);have y0:w.heap.size<w1.heap.size:=by have:=b1.size;simp at this;omega
 clear b1 hr;go_wp2_with fail
 have B2:Hid (Bw w (w1.alloc (.cells #[iV a,iV b,iV c,iV d] 222))):=B1.alloc (by omega) _;generalize (w1.alloc (.cells #[iV a,iV b,iV c,iV d] 222))=W at *
 go_quiet (fail)
 go_wp2;go_ret;exact ⟨rfl,yC B2.out _⟩
theorem qd3 (la:Option Addr) (n lc:Nat) (p code:Int) (ra oa:Option Addr) (rc oc:Nat) (rs os:List Int) (w:World) (ho:os.length<=1048576) (h1:Sl w ra rs) (h2:Sl w oa os):
  Calls prog 149 #[.slice la n lc,stV p ra rs.length rc oa os.length oc code] w (rB w (.bool (qc4 n p rs os code))):=by
 by_cases h4:rs.length=4
 ·match rs,h4,h1 with
  | [a,b,c,d],_,h1=>exact qhl la n lc p code ra oa rc oc a b c d os w ho h1 h2
 ·have hv:qc4 n p rs os code=false:=by
   have:((rs.length:Int) == 4)=false:=by simp;omega
   simp [qc4,qc3,this]
  rw [hv];exact qic la n lc p code ra oa rc os.length oc rs w h4 h1
theorem qth {k:IntKind} {a b:Int} (h:a=b):Ending.returned (.int k a)=.returned (.int k b):=by rw [h]
def qzp (k:Int) (n:Nat):List Int:=(List.range n).map (fun i:Nat=>k+(i:Int))
theorem qke {w:World} {B n cap:Nat} {a0:Option Addr} {ys:List Int} (h:OwnI w B (.slice a0 n cap) ys) (hn:0<ys.length):∃ g,a0=some (aQ g 0)/\n=ys.length/\B<=g/\g<w.heap.size:=by
 obtain ⟨g,c,hv,hb,hl⟩:=h.block hn;simp only [Value.slice.injEq] at hv;exact ⟨g,hv.1,hv.2.1,hb,hl⟩
theorem qs0 {w w':World} {B:Nat} {v u:Value} {xs:List Int} (h:OwnI w B v xs) (hg:w.grownBy w' u.ownBlock) (ha:∀ k,u.ownBlock=some k->v.ownBlock≠some k):OwnI w' B v xs:=by
 refine h.kept hg ?_;cases hu:u.ownBlock with
 | none=>
  cases hv:v.ownBlock with
  | none=>exact .inl rfl
  | some k=>exact .inr (by simp)
 | some k=>exact .inr (ha k hu)
theorem ql0 {W w1:World} {row:Option Nat} (hg:W.grownBy w1 row) {b:Nat} (hb:b<W.heap.size) (hne:some b≠row):(∀ o,w1.cell? ⟨b,o,none⟩=W.cell? ⟨b,o,none⟩)/\(∀ o,w1.frozen? ⟨b,o,none⟩=W.frozen? ⟨b,o,none⟩):=
 ⟨fun _=>zH (hg.block b hb hne),fun _=>zI (hg.block b hb hne)⟩
def qak (v:Value) (k:Nat):Prop:=∃ p vr vo code,v=.agg #[p,vr,vo,code]/\(vr.ownBlock=some k\/vo.ownBlock=some k)
theorem qav (p vr vo code:Value) (k:Nat):qak (.agg #[p,vr,vo,code]) k ↔ vr.ownBlock=some k\/vo.ownBlock=some k:=by
 constructor
 ·rintro ⟨p',vr',vo',code',e,h⟩
  simp only [Value.agg.injEq,Array.mk.injEq,List.cons.injEq,and_true] at e;obtain ⟨_,rfl,rfl,_⟩:=e;exact h
 ·exact fun h=>⟨p,vr,vo,code,rfl,h⟩
theorem qac.lt {w:World} {B:Nat} {v:Value} {p code:Int} {rs os:List Int} (h:qac w B v p rs os code) {k:Nat} (hk:qak v k):B<=k/\k<w.heap.size:=by
 obtain ⟨vr,vo,rfl,h1,h2,_⟩:=h
 rcases (qav _ _ _ _ _).1 hk with h | h
 ·exact h1.lt k h
 ·exact h2.lt k h
structure qbd (v:Value) (w w':World):Prop where
 os:w'.os=w.os
 tape:w'.tape=w.tape
 output:w'.output=w.output
 size:w.heap.size<=w'.heap.size
 block:∀ k,k<w.heap.size->¬ qak v k->w'.heap[k]? = w.heap[k]?
theorem qbd.bw {v:Value} {w w':World} {B:Nat} (h:qbd v w w') (hB:B<=w.heap.size) (hv:∀ k,qak v k->B<=k):Below B w w':=
 ⟨h.os,h.tape,h.output,h.size,fun k hk=>h.block k (by omega) (fun hh=>by have:=hv k hh;omega)⟩
theorem qbd.own {v:Value} {w w':World} {B:Nat} {u:Value} {xs:List Int} (h:qbd v w w') (hu:OwnI w B u xs) (ha:∀ k,u.ownBlock=some k->¬ qak v k):OwnI w' B u xs:=by
 rcases hu.2 with ⟨rfl,h0⟩ | ⟨g,cap,cur,rfl,hb,hg,hr⟩
 ·exact ⟨hu.1,.inl ⟨rfl,h0⟩⟩
 ·refine ⟨hu.1,.inr ⟨g,cap,cur,rfl,hb,?_,hr⟩⟩
  rw [h.block g (hu.lt g rfl).2 (ha g rfl)];exact hg
theorem qbd.st {v:Value} {w w':World} {B:Nat} {u:Value} {p code:Int} {rs os:List Int} (h:qbd v w w') (hu:qac w B u p rs os code) (ha:∀ k,qak u k->¬ qak v k):qac w' B u p rs os code:=by
 obtain ⟨vr,vo,rfl,h1,h2,h3⟩:=hu;exact ⟨vr,vo,rfl,h.own h1 fun k hk=>ha k ((qav _ _ _ _ _).2 (.inl hk)),h.own h2 fun k hk=>ha k ((qav _ _ _ _ _).2 (.inr hk)),h3⟩
theorem qbd.cell {v:Value} {w w':World} (h:qbd v w w') {b:Nat} (hb:b<w.heap.size) (hv:¬ qak v b) (j:Nat):w'.cell? (aQ b j)=w.cell? (aQ b j):=zH (h.block b hb hv)
theorem qbd.frozen {v:Value} {w w':World} (h:qbd v w w') {b:Nat} (hb:b<w.heap.size) (hv:¬ qak v b) (j:Nat):w'.frozen? (aQ b j)=w.frozen? (aQ b j):=zI (h.block b hb hv)
def BoxC (w:World) (N:Nat) (p vr vo code:Value):Prop:=w.cell? (aQ N 0)=some p/\w.cell? (aQ N 1)=some vr/\w.cell? (aQ N 2)=some vo/\w.cell? (aQ N 3)=some code
theorem BoxC.bw {w w':World} {N:Nat} {p vr vo code:Value} (h:BoxC w N p vr vo code) (hb:Bw w w'):BoxC w' N p vr vo code:=by
 obtain ⟨h0,h1,h2,h3⟩:=h;have hN:N<w.heap.size:=zJ w _ h0;exact ⟨(hb.cell (p:=(aQ N 0)) hN).trans h0,(hb.cell (p:=(aQ N 1)) hN).trans h1,(hb.cell (p:=(aQ N 2)) hN).trans h2,(hb.cell (p:=(aQ N 3)) hN).trans h3⟩
theorem BoxC.new (w:World) (p vr vo code:Value) (t:TypeId):BoxC (w.alloc (.cells #[p,vr,vo,code] t)) w.heap.size p vr vo code:=by
 unfold BoxC;simp
theorem BoxC.marked {v:Value} {w w':World} {N:Nat} {p vr vo code:Value} (h:BoxC w N p vr vo code) (hm:qbd v w w') (hv:¬ qak v N):BoxC w' N p vr vo code:=by
 obtain ⟨h0,h1,h2,h3⟩:=h;have hN:N<w.heap.size:=zJ w _ h0;exact ⟨(hm.cell hN hv _).trans h0,(hm.cell hN hv _).trans h1,(hm.cell hN hv _).trans h2,(hm.cell hN hv _).trans h3⟩
