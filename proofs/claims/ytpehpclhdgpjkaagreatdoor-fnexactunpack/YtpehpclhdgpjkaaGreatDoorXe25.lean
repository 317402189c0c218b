import Derived.Test.YtpehpclhdgpjkaaGreatDoorXe0
import Derived.Test.YtpehpclhdgpjkaaGreatDoorXe24
namespace Go.Proofs.YtpehpclhdgpjkaaGreatDoor
set_option maxRecDepth 100000
set_option maxHeartbeats 4000000
open Go.RowKit Go.Extern.Stop Go.Stop Go.Extern
theorem as_hit (x:Int) (t:Addr) (old:Value) (w:World) (hg:w.cell? ⟨0,0,none⟩=some (.iface 169 (.agg #[.pointer (some ⟨1,120,none⟩)]))) (ht0:w.cell? t=some old) (hf0:w.frozen? t=false):
  Calls Tryz.prog 83 #[.iface 124 (.agg #[.int .i64 x]),.iface 126 (.pointer (some t))] w fun ev w'=>ev=.returned (.bool true)/\∃ o1 o2 o3 o4,w'=((((w.alloc o1).alloc o2).alloc o3).alloc o4).setCell t (.int .i64 x):=by
 have h6:=@run_callFunc_extern Tryz.prog 112 _ (fun args=>ReflectliteValue.unpack (args.getD 0 (.tuple #[]))) Tryz.func112 (by kernel_rfl) (by kernel_rfl) (by kernel_rfl) (by kernel_rfl)
 have h7 := @run_callFunc_extern Tryz.prog 113 _ (ReflectliteValue.methodAny (ReflectliteValue.valueError "reflectlite.Value.Type" 0) (fun t _ _ _ => ReflectliteType.toType t)) Tryz.func113 (by kernel_rfl) (by kernel_rfl) (by kernel_rfl) (by kernel_rfl)
 have h8 := @run_callFunc_extern Tryz.prog 114 _ (ReflectliteValue.method (ReflectliteValue.valueError "reflectlite.Value.IsNil" 0) ReflectliteValue.isNil) Tryz.func114 (by kernel_rfl) (by kernel_rfl) (by kernel_rfl) (by kernel_rfl)
 have h27:=@run_callFunc_extern Tryz.prog 177 _ (ReflectliteType.abiMethod fun t=>do pure (.int .u8 (<- Rtype.kind t))) Tryz.func177 (by kernel_rfl) (by kernel_rfl) (by kernel_rfl) (by kernel_rfl)
 have h37:=@run_callFunc_extern Tryz.prog 187 _ (ReflectliteType.method ReflectliteType.elem) Tryz.func187 (by kernel_rfl) (by kernel_rfl) (by kernel_rfl) (by kernel_rfl)
 have h38 := @run_callFunc_extern Tryz.prog 188 _ (ReflectliteType.relation "Implements" ReflectliteType.implements_) Tryz.func188 (by kernel_rfl) (by kernel_rfl) (by kernel_rfl) (by kernel_rfl)
 have h10:=@run_callFunc_extern Tryz.prog 129 _ ReflectliteType.typeOf Tryz.func129 (by kernel_rfl) (by kernel_rfl) (by kernel_rfl) (by kernel_rfl)
 have h35 := @run_callFunc_extern Tryz.prog 185 _ (ReflectliteType.relation "AssignableTo" ReflectliteType.assignableTo) Tryz.func185 (by kernel_rfl) (by kernel_rfl) (by kernel_rfl) (by kernel_rfl)
 have h11 := @run_callFunc_extern Tryz.prog 130 _ (ReflectliteValue.method (ReflectliteValue.valueError "reflectlite.Value.Elem" 0) ReflectliteValue.elem) Tryz.func130 (by kernel_rfl) (by kernel_rfl) (by kernel_rfl) (by kernel_rfl)
 have h12:=@run_callFunc_extern Tryz.prog 131 _ ReflectliteValue.set Tryz.func131 (by kernel_rfl) (by kernel_rfl) (by kernel_rfl) (by kernel_rfl)
 have tO:=typeOfE
 have a25:=assignableE
 have v25:=valueOfE
 have f6:=valueOfT
 have f7:=typeT
 have k27:=kindT
 have k25:=kindE
 have e27:=elemT
 have i25:=implementsE
 have n8:=isNilT ⟨w.heap.size,0,none⟩ t ((w.alloc (.cells #[.pointer (some t)] 126)).alloc (.cells #[.pointer (some ⟨1,126,none⟩),.pointer (some ⟨w.heap.size,0,none⟩),.int .u64 150] 154)) (by simp)
 have hlt:0<w.heap.size:=by
  rcases Nat.eq_zero_or_pos w.heap.size with h0 | h
  ·simp [World.cell?,h0] at hg
  ·exact h
 have hg2:((w.alloc (.cells #[.pointer (some t)] 126)).alloc (.cells #[.pointer (some ⟨1,126,none⟩),.pointer (some ⟨w.heap.size,0,none⟩),.int .u64 150] 154)).cell? ⟨0,0,none⟩=some (.iface 169 (.agg #[.pointer (some ⟨1,120,none⟩)])):=by
  rw [World.cell?_alloc_lt _ _ ⟨0,0,none⟩ (by simp),World.cell?_alloc_lt _ _ ⟨0,0,none⟩ hlt];exact hg
 have htl:t.block<w.heap.size:=by
  rcases Nat.lt_or_ge t.block w.heap.size with h | h
  ·exact h
  ·simp [World.cell?,Array.getElem?_eq_none h] at ht0
 have el := elemVT ⟨w.heap.size, 0, none⟩ t (((w.alloc (.cells #[.pointer (some t)] 126)).alloc (.cells #[.pointer (some ⟨1, 126, none⟩), .pointer (some ⟨w.heap.size, 0, none⟩), .int .u64 150] 154)).alloc (.cells #[.pointer (some ⟨1, 126, none⟩), .pointer (some ⟨w.heap.size, 0, none⟩), .int .u64 150] 154)) (by
  rw [World.cell?_alloc_lt _ _ _ (by simp;omega),World.cell?_alloc_lt _ _ _ (by simp),World.cell?_alloc_at _ _ _ _ rfl];rfl)
 have st:=setE t ⟨w.heap.size+1+1+1,0,none⟩ x old ((((w.alloc (.cells #[.pointer (some t)] 126)).alloc (.cells #[.pointer (some ⟨1,126,none⟩),.pointer (some ⟨w.heap.size,0,none⟩),.int .u64 150] 154)).alloc (.cells #[.pointer (some ⟨1,126,none⟩),.pointer (some ⟨w.heap.size,0,none⟩),.int .u64 150] 154)).alloc (.cells #[.int .i64 x] 124))
  (by rw [World.cell?_alloc_at _ _ _ _ (by simp)];rfl)
  (by rw [World.cell?_alloc_lt _ _ t (by simp;omega),World.cell?_alloc_lt _ _ t (by simp;omega),World.cell?_alloc_lt _ _ t (by simp;omega),World.cell?_alloc_lt _ _ t htl];exact ht0)
  (by rw [World.frozen?_alloc_old _ _ t (by simp;omega),World.frozen?_alloc_old _ _ t (by simp;omega),World.frozen?_alloc_old _ _ t (by simp;omega),World.frozen?_alloc_old _ _ t (Nat.ne_of_lt htl)];exact hf0)
 go_enter Tryz.func83,Tryz.ntmps83
 go_wp2
 refine wp_loop_rounds 1 ?_
 rw [rounds_succ]
 go_wp2
 go_ret
 exact ⟨rfl,_,_,_,_,rfl⟩
open Go.RowKit Go.Deep
def nmL (ys:List Int):Nat->Int->List Int
 | 0,_=>[]
 | f+1,z=>match gnO ys z with
  | none=>[]
  | some (x,n)=>x :: nmL ys f n
def nmA (ys:List Int):List Int:=nmL ys (ys.length+1) 0
def psN (N:List Int) (k:Nat):Nat:=(byL (N.take k)).length
theorem psN_zero (N:List Int):psN N 0=0:=by simp [psN,byL]
theorem psN_cons (x:Int) (N:List Int) (k:Nat):psN (x :: N) (k+1)=(puL x).length+psN N k:=by
 rw [psN,List.take_succ_cons,byL_cons,List.length_append]
 rfl
theorem psN_up (N:List Int) (k:Nat) (h:k<N.length):psN N (k+1)=psN N k+(puL (zi N k)).length:=by
 rw [psN,byL_take N k h,List.length_append]
 rfl
theorem nm_walk {ys:List Int} (hb:By ys):∀ (f a:Nat),a<=ys.length->ys.length<a+f->∀ k,k<=(nmL ys f a).length->
  gnO ys ((a+psN (nmL ys f a) k:Nat):Int)=(if k<(nmL ys f a).length then some (zi (nmL ys f a) k,((a+psN (nmL ys f a) (k+1):Nat):Int)) else none)/\a+psN (nmL ys f a) k<=ys.length/\(ys.drop a).take (psN (nmL ys f a) k)=byL ((nmL ys f a).take k)/\(k<(nmL ys f a).length->puB (zi (nmL ys f a) k)=true)
 | 0,a,h1,h2,_,_=>by omega
 | f+1,a,h1,h2,k,hk=>by
  rw [nmL] at hk ⊢
  cases hg:gnO ys (a:Int) with
  | none=>
   rw [hg] at hk
   simp only [List.length_nil,Nat.le_zero] at hk
   subst hk
   simp only [psN_zero,Nat.add_zero,hg,List.length_nil,Nat.lt_irrefl,if_false,List.take_zero]
   exact ⟨trivial,h1,by simp [byL],fun h=>absurd h (by decide)⟩
  | some r=>
   obtain ⟨x,n⟩:=r
   rw [hg] at hk
   obtain ⟨a',m,ea,rfl,m1,m5,ml,hx⟩:=gn_some hb hg
   have ea':a'=a:=by omega
   subst ea'
   have hxl:(puL x).length=m:=by
    rw [hx,List.length_take,List.length_drop]
    omega
   have hpu:puB x=true:=by
    cases hq:puB x with
    | true=>rfl
    | false=>
     rw [puL_nil x hq] at hxl
     simp at hxl
     omega
   have ih:=nm_walk hb f (a'+m) ml (by omega)
   simp only [List.length_cons] at hk ⊢
   cases k with
   | zero=>
    rw [psN_zero,psN_cons,psN_zero,hxl,Nat.add_zero,Nat.add_zero,hg,if_pos (Nat.succ_pos _),zi_zero,List.take_zero]
    exact ⟨rfl,h1,by simp [byL],fun _=>hpu⟩
   | succ j=>
    obtain ⟨i1,i2,i3,i4⟩:=ih j (by omega)
    rw [psN_cons,psN_cons,hxl,zi_cons]
    refine ⟨?_,by omega,?_,fun h=>i4 (by omega)⟩
    ·rw [show a'+(m+psN (nmL ys f ((a'+m:Nat):Int)) j)=a'+m+psN (nmL ys f ((a'+m:Nat):Int)) j by omega,i1]
     by_cases hj:j<(nmL ys f ((a'+m:Nat):Int)).length
     ·rw [if_pos hj,if_pos (by omega),Nat.add_assoc]
     ·rw [if_neg hj,if_neg (by omega)]
    ·rw [List.take_succ_cons,byL_cons,hx,List.take_add,List.drop_drop,i3]
theorem nm_at {ys:List Int} (hb:By ys) {k:Nat} (hk:k<=(nmA ys).length):gnO ys (psN (nmA ys) k:Int)=(if k<(nmA ys).length then some (zi (nmA ys) k,(psN (nmA ys) (k+1):Int)) else none):=by
 have h:=(nm_walk hb (ys.length+1) 0 (Nat.zero_le _) (by omega) k hk).1
 simp only [Nat.zero_add] at h
 exact h
theorem nm_le {ys:List Int} (hb:By ys) {k:Nat} (hk:k<=(nmA ys).length):psN (nmA ys) k<=ys.length:=by
 have h:=(nm_walk hb (ys.length+1) 0 (Nat.zero_le _) (by omega) k hk).2.1
 simp only [Nat.zero_add] at h
 exact h
theorem nm_pre {ys:List Int} (hb:By ys) {k:Nat} (hk:k<=(nmA ys).length):ys.take (psN (nmA ys) k)=byL ((nmA ys).take k):=(nm_walk hb (ys.length+1) 0 (Nat.zero_le _) (by omega) k hk).2.2.1
theorem nm_pu {ys:List Int} (hb:By ys) {k:Nat} (hk:k<(nmA ys).length):puB (zi (nmA ys) k)=true:=(nm_walk hb (ys.length+1) 0 (Nat.zero_le _) (by omega) k (Nat.le_of_lt hk)).2.2.2 hk
theorem nm_end {ys:List Int} (hb:By ys) {k:Nat} (hk:k<=(nmA ys).length):psN (nmA ys) k=ys.length ↔ k=(nmA ys).length/\byL (nmA ys)=ys:=by
 constructor
 ·intro h
  have hkl:k=(nmA ys).length:=by
   rcases Nat.lt_or_ge k (nmA ys).length with hlt | hge
   ·have h1:=psN_up (nmA ys) k hlt
    have h2:=nm_le hb (k:=k+1) hlt
    have h3:=puL_pos _ (nm_pu hb hlt)
    omega
   ·omega
  refine ⟨hkl,?_⟩
  have h1:=nm_pre hb hk
  rw [h,List.take_length,hkl,List.take_length] at h1
  exact h1.symm
 ·rintro ⟨rfl,h⟩
  rw [psN,List.take_length,h]
theorem gn_drop (ys:List Int) (a:Nat) (h:a<=ys.length):gnO ys (a:Int)=(gnO (ys.drop a) 0).map fun r=>(r.1,(a:Int)+r.2):=by
 unfold gnO
 by_cases hl:a<ys.length
 ·have e:(0:Int).toNat=0:=rfl
  rw [if_pos ⟨by omega,by omega⟩,if_pos ⟨by omega,by rw [List.length_drop];omega⟩,e,List.drop_zero,Int.toNat_natCast]
  cases frm 5 (ys.drop a) with
  | none=>rfl
  | some F=>
   simp only
   split <;> simp
 ·rw [if_neg (by omega),if_neg (by rw [List.length_drop];omega)]
  rfl
theorem nm_byL:∀ (M ys:List Int) (f a:Nat),a<=ys.length->ys.length<a+f->ys.drop a=byL M->(∀ j,j<M.length->puB (zi M j)=true)->nmL ys f a=M
 | _,_,0,_,h1,h2,_,_=>by omega
 | [],ys,f+1,a,h1,h2,he,_=>by
  have hl:ys.length - a=0:=by rw [<- List.length_drop,he];rfl
  have hg:gnO ys (a:Int)=none:=by unfold gnO;rw [if_neg (by omega)]
  rw [nmL,hg]
 | x :: M,ys,f+1,a,h1,h2,he,hp=>by
  have hx:puB x=true:=by
   have:=hp 0 (by simp)
   rw [zi_zero] at this
   exact this
  have hlen:ys.length - a=(puL x).length+(byL M).length:=by rw [<- List.length_drop,he,byL_cons,List.length_append]
  have hpos:=puL_pos x hx
  have hg:gnO ys (a:Int)=some (x,((a+(puL x).length:Nat):Int)):=by
   rw [gn_drop ys a h1,he,byL_cons,gn_put hx]
   simp
  rw [nmL,hg]
  simp only
  rw [nm_byL M ys f (a + (puL x).length) (by omega) (by omega) (by rw [← List.drop_drop, he, byL_cons, List.drop_append_of_le_length (Nat.le_refl _), List.drop_length, List.nil_append]) (fun j hj => by
   have:=hp (j+1) (by simp;omega)
   rw [zi_cons] at this
   exact this)]
theorem nmA_byL {M:List Int} (hp:∀ j,j<M.length->puB (zi M j)=true):nmA (byL M)=M:=nm_byL M (byL M) _ 0 (Nat.zero_le _) (by omega) (by rw [List.drop_zero]) hp
def itN (N:List Int) (k:Nat) (i:Nat):I5:=⟨zi N (k+5*i),zi N (k+5*i+1),zi N (k+5*i+2),zi N (k+5*i+3),zi N (k+5*i+4)⟩
def evN (N:List Int) (k:Nat) (i:Nat):E3:=⟨zi N (k+3*i),zi N (k+3*i+1),zi N (k+3*i+2)⟩
theorem take_one (N:List Int) (a:Nat) (h:a<N.length):N.take (a+1)=N.take a ++ [zi N a]:=by
 rw [List.take_succ_eq_append_getElem h]
 congr 2
 unfold zi
 rw [List.getD_eq_getElem?_getD,List.getElem?_eq_getElem h]
 rfl
theorem take_itN (N:List Int) (k:Nat):∀ n,k+5*n<=N.length->N.take (k+5*n)=N.take k ++ pkI (itN N k) n
 | 0,_=>by simp [pkI]
 | n+1,h=>by
  rw [show k+5*(n+1)=k+5*n+1+1+1+1+1 by omega,take_one N _ (by omega),take_one N _ (by omega),take_one N _ (by omega),take_one N _ (by omega),take_one N _ (by omega),take_itN N k n (by omega),pkI]
  simp [itN]
theorem take_evN (N:List Int) (k:Nat):∀ n,k+3*n<=N.length->N.take (k+3*n)=N.take k ++ pkE (evN N k) n
 | 0,_=>by simp [pkE]
 | n+1,h=>by
  rw [show k+3*(n+1)=k+3*n+1+1+1 by omega,take_one N _ (by omega),take_one N _ (by omega),take_one N _ (by omega),take_evN N k n (by omega),pkE]
  simp [evN]
def ctN (N:List Int) (k:Nat):Nat:=(zi N k).toNat
def lsK (N:List Int) (w most k:Nat):Option Nat:=if k<N.length/\0<=zi N k/\zi N k<=most/\k+1+w*ctN N k<=N.length then some (k+1+w*ctN N k) else none
def prK (N:List Int):Nat->Option Nat
 | 0=>some 1
 | p+1=>(prK N p).bind fun k=>(lsK N 5 30 k).bind (lsK N 3 200)
theorem lsK_some {N:List Int} {w most k j:Nat} (h:lsK N w most k=some j):k<N.length/\zi N k=(ctN N k:Nat)/\ctN N k<=most/\j=k+1+w*ctN N k/\j<=N.length:=by
 unfold lsK at h
 split at h
 ·rename_i hc
  obtain ⟨h1,h2,h3,h4⟩:=hc
  simp only [Option.some.injEq] at h
  unfold ctN at *
  exact ⟨h1,by omega,by omega,h.symm,by omega⟩
 ·cases h
def kP (N:List Int) (p:Nat):Nat:=(prK N p).getD 0
def hP (N:List Int) (p:Nat):Nat:=kP N p+1+5*ctN N (kP N p)
theorem prK_up {N:List Int} {p:Nat} (h:(prK N (p+1)).isSome=true):(prK N p).isSome=true/\lsK N 5 30 (kP N p)=some (hP N p)/\lsK N 3 200 (hP N p)=some (kP N (p+1)):=by
 unfold kP hP kP
 rw [prK] at h ⊢
 cases hp:prK N p with
 | none=>rw [hp] at h;cases h
 | some k=>
  rw [hp] at h
  simp only [Option.bind_some,Option.isSome_some,Option.getD_some] at h ⊢
  cases h1:lsK N 5 30 k with
  | none=>rw [h1] at h;cases h
  | some j=>
   rw [h1] at h
   simp only [Option.bind_some] at h ⊢
   obtain ⟨-,-,-,e,-⟩:=lsK_some h1
   rw [<- e]
   cases h2:lsK N 3 200 j with
   | none=>rw [h2] at h;cases h
   | some i=>simp
theorem prK_some {N:List Int}:∀ {n:Nat},(prK N n).isSome=true->∀ p,p<n->lsK N 5 30 (kP N p)=some (hP N p)/\lsK N 3 200 (hP N p)=some (kP N (p+1))
 | 0,_,_,hp=>by omega
 | n+1,h,p,hp=>by
  obtain ⟨h1,h2,h3⟩:=prK_up h
  rcases Nat.lt_succ_iff_lt_or_eq.1 hp with hlt | rfl
  ·exact prK_some h1 p hlt
  ·exact ⟨h2,h3⟩
theorem take_pkN {N:List Int} {y:Sy} (h0:0<N.length) (hn:zi N 0=(y.pn:Nat)):∀ n,(prK N n).isSome=true->(∀ p,p<n->y.pL p=ctN N (kP N p)/\y.pH p=itN N (kP N p+1)/\y.hL p=ctN N (hP N p)/\y.hH p=evN N (hP N p+1))->N.take (kP N n)=pkN y n
 | 0,_,_=>by
  have e:kP N 0=0+1:=rfl
  rw [e,take_one N 0 h0,hn]
  rfl
 | n+1,h,hy=>by
  obtain ⟨h1,h2,h3⟩:=prK_up h
  have ih:=take_pkN h0 hn n h1 fun p hp=>hy p (by omega)
  obtain ⟨a1,a2,a3,a4⟩:=hy n (by omega)
  obtain ⟨b1,b2,b3,b4,b5⟩:=lsK_some h2
  obtain ⟨c1,c2,c3,c4,c5⟩:=lsK_some h3
  rw [c4,take_evN N (hP N n+1) _ (by omega),take_one N _ c1,b4,take_itN N (kP N n+1) _ (by omega),take_one N _ b1,ih,<- b4,pkN,pkP,a1,a2,a3,a4,b2,c2]
  simp
