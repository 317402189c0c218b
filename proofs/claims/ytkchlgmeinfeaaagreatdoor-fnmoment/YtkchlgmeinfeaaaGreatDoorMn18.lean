import Derived.Test.YtkchlgmeinfeaaaGreatDoorMn16
import Derived.Stop.Asserts
import Derived.Lib.AppendZerosOnto
import Derived.Lib.Walk
namespace Go.Proofs.YtkchlgmeinfeaaaGreatDoor
open Go.Proofs.Tryz
set_option maxRecDepth 100000
set_option maxHeartbeats 4000000
open Go.RowKit Go.Extern.Stop Go.Stop Go.Extern
theorem qv8 (t:Value) (w:World):
  Calls prog 96 #[.nilIface,t] w fun e w'=>e=.returned (.bool false)/\w'=w:=by
 go_enter func96,ntmps96
 go_wp2;go_ret;exact ⟨rfl,rfl⟩
theorem qup (t:Addr) (w:World):(ReflectliteValue.unpack (.iface 138 (.pointer (some t)))).run prog w
  = .ok (.agg #[.pointer (some ⟨1,138,none⟩),.pointer (some (aQ w.heap.size 0)),.int .u64 150]) (w.alloc (.cells #[.pointer (some t)] 138)):=by kernel_rfl
theorem qxh (a : Addr) (w : World) : (ReflectliteValue.methodAny (ReflectliteValue.valueError "reflectlite.Value.Type" 0) (fun t _ _ _ => ReflectliteType.toType t) #[.agg #[.pointer (some ⟨1,138,none⟩), .pointer (some a), .int .u64 150]]).run prog w
  = .ok (.iface 221 (.agg #[.pointer (some ⟨1,138,none⟩)])) w:=by kernel_rfl
theorem qxf (w:World):((ReflectliteType.abiMethod fun t=>(fun a:Nat=>Value.int IntKind.u8 (a:Int)) <$> Rtype.kind t) #[.pointer (some ⟨1,138,none⟩)]).run prog w=.ok (.int .u8 22) w:=by kernel_rfl
theorem qxe (w:World):((ReflectliteType.abiMethod fun t=>(fun a:Nat=>Value.int IntKind.u8 (a:Int)) <$> Rtype.kind t) #[.pointer (some ⟨1,136,none⟩)]).run prog w=.ok (.int .u8 25) w:=by kernel_rfl
theorem rlm (z:Sem Value) (f:TypeId->Addr->Nat->Nat->Sem Value) (v:Value):
  ReflectliteValue.method z f #[v]=(do match <- ReflectliteValue.parts v with | none=>z | some (t,a,fl)=>f t a fl (fl % 32)):=rfl
theorem qu1 (a:Addr) (w:World):(ReflectliteValue.parts (.agg #[.pointer (some ⟨1,138,none⟩),.pointer (some a),.int .u64 150])).run prog w=.ok (some (138,a,150)) w:=by kernel_rfl
theorem qwt (a p:Addr) (W:World) (ha:W.cell? a=some (.pointer (some p))):
  (ReflectliteValue.method (ReflectliteValue.valueError "reflectlite.Value.IsNil" 0) ReflectliteValue.isNil #[.agg #[.pointer (some ⟨1,138,none⟩), .pointer (some a), .int .u64 150]]).run prog W = .ok (.bool false) W := by
 rw [rlm];simp only [Sem.run_bind,qu1,Result.andThen];simp [ReflectliteValue.isNil,loadVar,isAgg,underlying,Tryz.underlying138,ha,Result.andThen]
theorem qxc (w:World):(ReflectliteType.method ReflectliteType.elem #[.agg #[.pointer (some ⟨1,138,none⟩)]]).run prog w=.ok (.iface 221 (.agg #[.pointer (some ⟨1,136,none⟩)])) w:=by kernel_rfl
theorem qmt (w : World) : (ReflectliteType.relation "Implements" ReflectliteType.implements_ #[.agg #[.pointer (some ⟨1,136,none⟩)], .iface 221 (.agg #[.pointer (some ⟨1,132,none⟩)])]).run prog w = .ok (.bool true) w := by kernel_rfl
theorem qv3 (v:Value) (w:World):(ReflectliteType.typeOf #[.iface 136 v]).run prog w=.ok (.iface 221 (.agg #[.pointer (some ⟨1,136,none⟩)])) w:=by kernel_rfl
theorem qme (w : World) : (ReflectliteType.relation "AssignableTo" ReflectliteType.assignableTo #[.agg #[.pointer (some ⟨1,136,none⟩)], .iface 221 (.agg #[.pointer (some ⟨1,136,none⟩)])]).run prog w = .ok (.bool true) w := by kernel_rfl
theorem quo (x:Int) (w:World):(ReflectliteValue.unpack (.iface 136 (.agg #[.int .i64 x]))).run prog w
  = .ok (.agg #[.pointer (some ⟨1,136,none⟩),.pointer (some (aQ w.heap.size 0)),.int .u64 153]) (w.alloc (.cells #[.int .i64 x] 136)):=by kernel_rfl
theorem qvm (w:World):(Rtype.elem? 138).run prog w=.ok (some 136) w:=by kernel_rfl
theorem mkE (p:Addr) (w:World):(ReflectliteValue.mk 136 p ReflectliteValue.flagAddr).run prog w=.ok (.agg #[.pointer (some ⟨1,136,none⟩),.pointer (some p),.int .u64 409]) w:=by kernel_rfl
open Go.RowKit Go.Extern.Stop Go.Stop Go.Extern
theorem qwo (a p:Addr) (W:World) (ha:W.cell? a=some (.pointer (some p))):
  (ReflectliteValue.method (ReflectliteValue.valueError "reflectlite.Value.Elem" 0) ReflectliteValue.elem #[.agg #[.pointer (some ⟨1,138,none⟩), .pointer (some a), .int .u64 150]]).run prog W
   = .ok (.agg #[.pointer (some ⟨1,136,none⟩),.pointer (some p),.int .u64 409]) W:=by
 rw [rlm];simp only [Sem.run_bind,qu1,Result.andThen];simp [ReflectliteValue.elem,loadVar,isAgg,underlying,Tryz.underlying138,ha,Result.andThen,qvm,mkE]
theorem rls (v x : Value) : ReflectliteValue.set #[v, x] = (do
  let (some (dst,a,fl),some (src,b,_)):=(<- ReflectliteValue.parts v,<- ReflectliteValue.parts x)
   | unsupported (.noEntry "extern/(internal/reflectlite.Value).Set.zeroValue")
  if fl / ReflectliteValue.flagAddr % 2 == 0 then unsupported (.noEntry "extern/(internal/reflectlite.Value).Set.unaddressable")
  let val <- loadVar src b
  if <- Rtype.directlyAssignable dst src then storeVar dst a val
  else if <- Rtype.implements dst src then
   if (<- Rtype.kind src) == 20 then
    match val with
    | .nilIface => unsupported (.noEntry "extern/reflectlite: a nil value of one interface type handed on as a value of another")
    | _=>storeVar dst a val
   else storeVar dst a (.iface src val)
  else panicString ("reflectlite.Set: value of type " ++ (<- Rtype.spelt src) ++ " is not assignable to type " ++ (<- Rtype.spelt dst))
  pure (.tuple #[])):=rfl
theorem qvx (a:Addr) (w:World):(ReflectliteValue.parts (.agg #[.pointer (some ⟨1,136,none⟩),.pointer (some a),.int .u64 409])).run prog w=.ok (some (136,a,409)) w:=by kernel_rfl
theorem qwx (a:Addr) (w:World):(ReflectliteValue.parts (.agg #[.pointer (some ⟨1,136,none⟩),.pointer (some a),.int .u64 153])).run prog w=.ok (some (136,a,153)) w:=by kernel_rfl
theorem qvg (w:World):(Rtype.directlyAssignable 136 136).run prog w=.ok true w:=by kernel_rfl
theorem setE (ta b:Addr) (x:Int) (old:Value) (W:World) (hb:W.cell? b=some (.int .i64 x)) (ht:W.cell? ta=some old) (hf:W.frozen? ta=false):
  (ReflectliteValue.set #[.agg #[.pointer (some ⟨1,136,none⟩),.pointer (some ta),.int .u64 409],.agg #[.pointer (some ⟨1,136,none⟩),.pointer (some b),.int .u64 153]]).run prog W
   = .ok (.tuple #[]) (W.setCell ta (.int .i64 x)):=by
 rw [rls];simp only [Sem.run_bind,qvx,qwx,Result.andThen];simp [ReflectliteValue.flagAddr,loadVar,loadCells,loadCellsFrom,hb,Result.andThen,qvg,storeVar,Value.cells,storeCells,Addr.add];rw [run_store prog W ta _ _ (by rfl)];simp [ht,hf]
open Go.RowKit Go.Extern.Stop Go.Stop Go.Extern
theorem qv7 (x:Int) (t:Addr) (old:Value) (w:World) (hg:w.cell? ⟨0,0,none⟩=some vT) (ht0:w.cell? t=some old) (hf0:w.frozen? t=false):
  Calls prog 96 #[.iface 136 (.agg #[.int .i64 x]),.iface 138 (.pointer (some t))] w fun ev w'=>ev=.returned (.bool true)/\∃ o1 o2 o3 o4,w'=((((w.alloc o1).alloc o2).alloc o3).alloc o4).setCell t (.int .i64 x):=by
 have h6:=@run_callFunc_extern prog 132 _ (fun args=>ReflectliteValue.unpack (args.getD 0 (.tuple #[]))) func132 (by kernel_rfl) (by kernel_rfl) (by kernel_rfl) (by kernel_rfl);have h7 := @run_callFunc_extern prog 133 _ (ReflectliteValue.methodAny (ReflectliteValue.valueError "reflectlite.Value.Type" 0) (fun t _ _ _ => ReflectliteType.toType t)) func133 (by kernel_rfl) (by kernel_rfl) (by kernel_rfl) (by kernel_rfl)
 have h8 := @run_callFunc_extern prog 134 _ (ReflectliteValue.method (ReflectliteValue.valueError "reflectlite.Value.IsNil" 0) ReflectliteValue.isNil) func134 (by kernel_rfl) (by kernel_rfl) (by kernel_rfl) (by kernel_rfl)
 have h27:=@run_callFunc_extern prog 196 _ (ReflectliteType.abiMethod fun t=>do pure (.int .u8 (<- Rtype.kind t))) func196 (by kernel_rfl) (by kernel_rfl) (by kernel_rfl) (by kernel_rfl);have h37:=@run_callFunc_extern prog 216 _ (ReflectliteType.method ReflectliteType.elem) func216 (by kernel_rfl) (by kernel_rfl) (by kernel_rfl) (by kernel_rfl);have h38 := @run_callFunc_extern prog 217 _ (ReflectliteType.relation "Implements" ReflectliteType.implements_) func217 (by kernel_rfl) (by kernel_rfl) (by kernel_rfl) (by kernel_rfl)
 have h10:=@run_callFunc_extern prog 165 _ ReflectliteType.typeOf func165 (by kernel_rfl) (by kernel_rfl) (by kernel_rfl) (by kernel_rfl);have h35 := @run_callFunc_extern prog 214 _ (ReflectliteType.relation "AssignableTo" ReflectliteType.assignableTo) func214 (by kernel_rfl) (by kernel_rfl) (by kernel_rfl) (by kernel_rfl)
 have h11 := @run_callFunc_extern prog 166 _ (ReflectliteValue.method (ReflectliteValue.valueError "reflectlite.Value.Elem" 0) ReflectliteValue.elem) func166 (by kernel_rfl) (by kernel_rfl) (by kernel_rfl) (by kernel_rfl)
 have h12:=@run_callFunc_extern prog 167 _ ReflectliteValue.set func167 (by kernel_rfl) (by kernel_rfl) (by kernel_rfl) (by kernel_rfl);have tO:=qv3;have a25:=qme;have v25:=quo;have f6:=qup;have f7:=qxh;have k27:=qxf;have k25:=qxe;have e27:=qxc;have i25:=qmt;have n8:=qwt ⟨w.heap.size,0,none⟩ t ((w.alloc (.cells #[.pointer (some t)] 138)).alloc (.cells #[.pointer (some ⟨1,138,none⟩),.pointer (some (aQ w.heap.size 0)),.int .u64 150] 181)) (by simp)
 have hlt:0<w.heap.size:=by
  rcases Nat.eq_zero_or_pos w.heap.size with h0 | h
  ·simp [World.cell?,h0] at hg
  ·exact h
 have hg2:((w.alloc (.cells #[.pointer (some t)] 138)).alloc (.cells #[.pointer (some ⟨1,138,none⟩),.pointer (some (aQ w.heap.size 0)),.int .u64 150] 181)).cell? ⟨0,0,none⟩=some vT:=by
  rw [World.cell?_alloc_lt _ _ ⟨0,0,none⟩ (by simp),World.cell?_alloc_lt _ _ ⟨0,0,none⟩ hlt];exact hg
 have htl:t.block<w.heap.size:=by
  rcases Nat.lt_or_ge t.block w.heap.size with h | h
  ·exact h
  ·simp [World.cell?,Array.getElem?_eq_none h] at ht0
 have el := qwo ⟨w.heap.size, 0, none⟩ t (((w.alloc (.cells #[.pointer (some t)] 138)).alloc (.cells #[.pointer (some ⟨1, 138, none⟩), .pointer (some ⟨w.heap.size, 0, none⟩), .int .u64 150] 181)).alloc (.cells #[.pointer (some ⟨1, 138, none⟩), .pointer (some ⟨w.heap.size, 0, none⟩), .int .u64 150] 181)) (by
  rw [World.cell?_alloc_lt _ _ _ (by simp;omega),World.cell?_alloc_lt _ _ _ (by simp),World.cell?_alloc_at _ _ _ _ rfl];rfl)
 have st:=setE t ⟨w.heap.size+1+1+1,0,none⟩ x old ((((w.alloc (.cells #[.pointer (some t)] 138)).alloc (.cells #[.pointer (some ⟨1,138,none⟩),.pointer (some (aQ w.heap.size 0)),.int .u64 150] 181)).alloc (.cells #[.pointer (some ⟨1,138,none⟩),.pointer (some (aQ w.heap.size 0)),.int .u64 150] 181)).alloc (.cells #[.int .i64 x] 136))
  (by rw [World.cell?_alloc_at _ _ _ _ (by simp)];rfl)
  (by rw [World.cell?_alloc_lt _ _ t (by simp;omega),World.cell?_alloc_lt _ _ t (by simp;omega),World.cell?_alloc_lt _ _ t (by simp;omega),World.cell?_alloc_lt _ _ t htl];exact ht0)
  (by rw [World.frozen?_alloc_old _ _ t (by simp;omega),World.frozen?_alloc_old _ _ t (by simp;omega),World.frozen?_alloc_old _ _ t (by simp;omega),World.frozen?_alloc_old _ _ t (Nat.ne_of_lt htl)];exact hf0)
 go_enter func96,ntmps96
 go_wp2;refine wp_loop_rounds 1 ?_;rw [rounds_succ];go_wp2;go_ret;exact ⟨rfl,_,_,_,_,rfl⟩
open Go.RowKit Go.Deep
theorem LL.weak {z:Bool} {e:TypeId} {sz:Nat} {E:TypeId} {w:World} {P:Nat->Prop} {v:Value} {n:Nat} {u:Nat->Value} {L:Nat->Nat} {c:Nat->List Value} (o:LL z e sz E w P v n u L c):LL false e sz E w P v n u L c:=
 ⟨o.row,o.own,o.rb,o.ob,o.ra,o.oa,fun h i hi=>o.nn (h.elim (fun h=>by cases h) .inr) i hi⟩
theorem OwnS.weak {z:Bool} {w:World} {B:Nat} {c:Nat->Nat} {y:Sy} {vp vs vw vh:Value} {up us uw uh:Nat->Value} (o:OwnS z w B c y vp vs vw vh up us uw uh):OwnS false w B c y vp vs vw vh up us uw uh:=⟨o.p.weak,o.s,o.t.weak,o.h.weak⟩
theorem ZL.ll {e:TypeId} {sz:Nat} {E:TypeId} {w:World} {P:Nat->Prop} {v:Value} {n:Nat} (o:ZL E w P v n) (he:e≠85) (c:Nat->List Value) (hc:∀ i,c i=[]):LL false e sz E w P v n (fun _=>.slice none 0 0) (fun _=>0) c:=
 ⟨(by rw [List.map_const'];simpa using o.row),fun i _=>by rw [hc];exact World.ownsRow_nil _ _ _ _,o.rb,fun i _ k hk=>(by cases hk),fun i _ k hk=>(by cases hk),fun i j _ _ _ k hk=>(by cases hk),fun h _ _=>h.elim (fun h=>by cases h) (fun h=>absurd h he)⟩
theorem qju (eh:Nat->E3) (kd pr:Int):∀ (n j q:Nat),(plN eh kd pr n)[j]? = some q->q<n/\hitB eh kd pr q=true/\cnt eh kd pr q=j
 | 0,j,q,h=>by simp [plN] at h
 | n+1,j,q,h=>by
  rcases zK (hitB eh kd pr n) with t | t
  ·rw [plN,nC t] at h
   by_cases hj:j<(plN eh kd pr n).length
   ·rw [List.getElem?_append_left hj] at h
    obtain ⟨h1,h2,h3⟩:=qju eh kd pr n j q h;exact ⟨by omega,h2,h3⟩
   ·rw [List.getElem?_append_right (by omega)] at h
    have hj2:j - (plN eh kd pr n).length=0:=by
     by_cases e:j - (plN eh kd pr n).length=0
     ·exact e
     ·rw [List.getElem?_eq_none (by simp;omega)] at h
      cases h
    rw [hj2] at h;simp at h;subst h;refine ⟨by omega,t,?_⟩;unfold cnt;omega
  ·rw [plN,nB (by rw [t];decide)] at h
   obtain ⟨h1,h2,h3⟩:=qju eh kd pr n j q h;exact ⟨by omega,h2,h3⟩
theorem qle {eh:Nat->E3} {kd pr:Int} {len n:Nat} (h:n<cnt eh kd pr len):∃ q:Nat,nthV eh kd pr len n=q/\q<len/\hitB eh kd pr q=true/\cnt eh kd pr q=n:=by
 have hl:n<(plI eh kd pr len).length:=by rw [qdl];exact h
 obtain ⟨q,h1,h2,h3⟩:=qlf eh kd pr len n hl;obtain ⟨-,h4,h5⟩:=qju eh kd pr len n q h3;refine ⟨q,?_,h2,h4,h5⟩;unfold nthV;rw [nC (by simp [belB];omega),nF];exact h1
theorem qrq {eh:Nat->E3} {kd pr:Int} {len n:Nat} (h:cnt eh kd pr len<=n):nthV eh kd pr len n = -1:=by
 unfold nthV;rw [nB];have hl:(plI eh kd pr len).length<=n:=by rw [qdl];exact h
 simp [belB];omega
theorem qrp {eh:Nat->E3} {kd pr:Int} {len len' n:Nat} (h:n<cnt eh kd pr len) (hl:len<=len'):nthV eh kd pr len' n=nthV eh kd pr len n:=by
 obtain ⟨q,h1,h2,h3,h4⟩:=qle h;rw [h1];exact qoe (by omega) h3 (by rw [qdl];show (n:Int)=(cnt eh kd pr q:Nat);omega)
structure Sy.Cut (y:Sy) (c:List Int):Prop where
 len:c.length=y.pn
 le:∀ p,p<y.pn->0<=zi c p/\zi c p<=(y.hL p:Int)
noncomputable def cutB (y:Sy) (c:List Int):Bool:=y.okB && qB (y.Cut c)
def cN (c:List Int) (p:Nat):Nat:=(zi c p).toNat
def sN (y:Sy) (c:Nat->Nat) (a b:Nat):Nat:=cnt (y.hH a) 2 b (c a)
def tN (y:Sy) (c:Nat->Nat) (a b:Nat):Nat:=cnt (y.hH b) 3 a (c b)
def Sy.Wh (y:Sy) (c:Nat->Nat):Prop:=∀ a,a<y.pn->∀ b,b<y.pn->tN y c a b<=sN y c a b
def ovN (y:Sy) (c:Nat->Nat) (a b:Nat):Int:=nthV (y.hH b) 3 a (c b) (sN y c a b:Nat)
theorem qu0 {y:Sy} {c:Nat->Nat} {a b:Nat} (h:tN y c a b<=sN y c a b):ovN y c a b = -1:=qrq h
theorem qrs {y:Sy} {c:Nat->Nat} {a b:Nat} (h:¬ tN y c a b<=sN y c a b):∃ k:Nat,ovN y c a b=k/\k<c b/\hitB (y.hH b) 3 a k=true/\cnt (y.hH b) 3 a k=sN y c a b:=qle (by unfold tN at h;omega)
theorem qtq {y:Sy} {c:Nat->Nat} {a b:Nat} (h:¬ tN y c a b<=sN y c a b) (hl:c b<=y.hL b):nthV (y.hH b) 3 a (y.hL b) (sN y c a b:Nat)=ovN y c a b:=qrp (by unfold tN at h;omega) hl
theorem qd9 {y:Sy} {c:Nat->Nat} {a b:Nat}:ovN y c a b<0 ↔ tN y c a b<=sN y c a b:=by
 refine ⟨fun h=>?_,fun h=>by rw [qu0 h];decide⟩;by_cases hc:tN y c a b<=sN y c a b
 ·exact hc
 ·obtain ⟨k,e,-⟩:=qrs hc
  omega
noncomputable def whB (y:Sy) (c:List Int):Bool:=cutB y c && qB (y.Wh (cN c))
structure Sy.Cl (y:Sy) (c e:List Int):Prop where
 len:e.length=y.pn
 le:∀ p,p<y.pn->0<=zi e p/\zi e p<=zi c p
 gr:∀ d:Nat->Nat,(∀ p,p<y.pn->(d p:Int)<=zi c p)->y.Wh d->∀ p,p<y.pn->(d p:Int)<=zi e p
theorem Sy.Cl.start {y:Sy} {c:List Int} (h:y.Cut c):y.Cl c c:=⟨h.len,fun p hp=>⟨(h.le p hp).1,Int.le_refl _⟩,fun _ h _=>h⟩
theorem Sy.Cl.cut {y:Sy} {c e:List Int} (h:y.Cl c e) (hc:y.Cut c):y.Cut e:=⟨h.len,fun p hp=>⟨(h.le p hp).1,Int.le_trans (h.le p hp).2 (hc.le p hp).2⟩⟩
theorem qu8 {e:List Int} {b p:Nat} {k:Int} (hb:b<e.length):zi (e.set b k) p=if p=b then k else zi e p:=by
 by_cases h:p=b
 ·subst h
  rw [nC rfl,qi6 e p k hb]
 ·rw [nB h,qmo e p b k h]
theorem Sy.Cl.next {y:Sy} {c e:List Int} {a b:Nat} (h:y.Cl c e) (ha:a<y.pn) (hb:b<y.pn) (ho:0<=ovN y (cN e) a b):y.Cl c (e.set b (ovN y (cN e) a b))/\0<=ovN y (cN e) a b/\ovN y (cN e) a b<zi e b:=by
 have hn:¬ tN y (cN e) a b<=sN y (cN e) a b:=fun hc=>by
  have:=qd9.2 hc;omega
 obtain ⟨k,e1,e2,e3,e4⟩:=qrs hn;have eb:=(h.le b hb)
 have hkb:(k:Int)<zi e b:=by unfold cN at e2;omega
 refine ⟨⟨by rw [List.length_set];exact h.len,fun p hp=>?_,fun d hd hw p hp=>?_⟩,ho,by omega⟩
 ·rw [qu8 (by rw [h.len];exact hb)]
  by_cases ep:p=b
  ·subst ep
   rw [nC rfl];omega
  ·rw [nB ep]
   exact h.le p hp
 ·rw [qu8 (by rw [h.len];exact hb)]
  have h0:=h.gr d hd hw p hp;by_cases ep:p=b
  ·subst ep
   rw [nC rfl,e1];by_cases hc:(d p:Int)<=k
   ·exact hc
   ·exfalso
    have h1 : sN y d a p ≤ sN y (cN e) a p := qfh _ _ _ (by
     have:=h.gr d hd hw a ha;unfold cN
     omega)
    have h2:cnt (y.hH p) 3 a (k+1)<=tN y d a p:=qfh _ _ _ (by omega);rw [qhl e3,e4] at h2;have:=hw a ha p hb;omega
  ·rw [nB ep]
   exact h0
theorem Sy.Cl.same {y:Sy} {c e e':List Int} (h:y.Cl c e) (hw:y.Wh (cN e)) (h':y.Cl c e') (hw':y.Wh (cN e')):e=e':=by
 refine qnz (h.len.trans h'.len.symm) fun p hp=>?_;have hp':p<y.pn:=by rw [<- h.len];exact hp
 have h1:=h.gr (cN e') (fun q hq=>by have:=h'.le q hq;unfold cN;omega) hw' p hp';have h2:=h'.gr (cN e) (fun q hq=>by have:=h.le q hq;unfold cN;omega) hw p hp';have h3:=h.le p hp';have h4:=h'.le p hp';unfold cN at h1 h2;omega
open Classical in
noncomputable def clS (y:Sy) (c:List Int):List Int:=if h:cutB y c=true/\∃ e,y.Cl c e/\y.Wh (cN e) then h.2.choose else []
theorem qvd {y:Sy} {c e:List Int} (h:cutB y c=true) (h1:y.Cl c e) (h2:y.Wh (cN e)):clS y c=e:=by
 unfold clS;have hx:cutB y c=true/\∃ e,y.Cl c e/\y.Wh (cN e):=⟨h,e,h1,h2⟩
 rw [dif_pos hx];exact hx.2.choose_spec.1.same hx.2.choose_spec.2 h1 h2
theorem qvc (y:Sy) (c:List Int):(clS y c).length<=4:=by
 unfold clS
 split
 ·rename_i h
  rw [h.2.choose_spec.1.len];have h1:=h.1;unfold cutB at h1;simp only [nH] at h1;exact (Sy.ok_of h1.1).cn.1.2
 ·simp
theorem qbj {y:Sy} {c:List Int} (h:cutB y c=true):y.Ok/\y.Cut c:=by
 unfold cutB at h;simp only [nH] at h;exact ⟨Sy.ok_of h.1,qhy.1 h.2⟩
noncomputable def flS (y:Sy):List Int:=if y.okB=true then (List.range y.hn).map fun p=>(y.hL p:Int) else []
def flT (y:Sy) (k:Nat):List Int:=(List.range k).map fun p=>(y.hL p:Int)
theorem qs5 (y:Sy) (k:Nat):flT y (k+1)=flT y k ++ [(y.hL k:Int)]:=by
 unfold flT;rw [List.range_succ,List.map_append];rfl
theorem qvq (y:Sy) (k:Nat):(flT y k).length=k:=by simp [flT]
open Go.ChangeShapes Go.WideShapes Go.ChangeAt Go.Sort
theorem Sl.all {w:World} {a0:Option Addr} {xs:List Int} (h:Sl w a0 xs) (hn:0<xs.length):∃ b off,a0=some ⟨b,off,none⟩/\b<w.heap.size/\∀ i,i<xs.length->w.cell? ⟨b,off+i,none⟩=some (iV (zi xs i)):=by
 rcases h with rfl | h
 ·simp at hn
 ·exact h
theorem RowS.all {w:World} {a0:Option Addr} {n:Nat} {f:Nat->Value} (h:RowS w a0 n f) (hn:0<n):∃ b off,a0=some ⟨b,off,none⟩/\b<w.heap.size/\∀ i,i<n->w.cell? ⟨b,off+i,none⟩=some (f i):=by
 rcases h with rfl | h
 ·omega
 ·exact h
theorem BoxC.belowB {w w':World} {b:Nat} {v0 v1 v2 v3:Value} {B:Nat} (h:BoxC w b v0 v1 v2 v3) (hb:Below B w w') (hB:b<B):BoxC w' b v0 v1 v2 v3:=by
 obtain ⟨h0,h1,h2,h3⟩:=h;exact ⟨(hb.cell (p:=(aQ b 0)) hB).trans h0,(hb.cell (p:=(aQ b 1)) hB).trans h1,(hb.cell (p:=(aQ b 2)) hB).trans h2,(hb.cell (p:=(aQ b 3)) hB).trans h3⟩
theorem Sy.Cut.nat {y:Sy} {c:List Int} (h:y.Cut c) {p:Nat} (hp:p<y.pn):zi c p=(cN c p:Nat):=by
 have:=h.le p hp;unfold cN;omega
theorem Sy.Cut.leN {y:Sy} {c:List Int} (h:y.Cut c) {p:Nat} (hp:p<y.pn):cN c p<=y.hL p:=by
 have:=h.le p hp;unfold cN;omega
theorem qrk (x:SysIn) (ca:Option Addr) (cc:Nat) (c:List Int) (w:World) (hG:SysG w x) (hL:x.Len) (hhn:x.hn=x.pn) (hc:Sl w ca c) (hcl:c.length<=1048576):
  Calls prog 57 #[x.v,.slice ca c.length cc] w (rB w (.bool (qB (x.y.Cut c)))):=by
 have HG:Hid (SysG w x):=hG;have HC:Hid (Sl w ca c):=hc;have hl':(c.length:Int)<=1048576:=by omega
 have hp':(x.pn:Int)<=1048576:=by have:=hL.p.1;omega
 have HLh:Hid (∀ i,i<x.hn->x.hL i<=1048576):=hL.h.2;have HN:Hid (x.hn=x.pn):=hhn;have BW:Hid (Bw w (w.alloc (x.oX))):=zT _ _;have NB:Hid (x.bX (w.alloc (x.oX)) w.heap.size):=BoxC.new w _ _ _ _ _;clear hG hL hc hhn
 rcases zK ((c.length:Int) != (x.pn:Int)) with t | t
 case inl=>
  have HV:Hid (qB (x.y.Cut c)=false):=qar fun h=>by
   have h1:c.length=x.pn:=h.len;rw [h1] at t;simp at t
  go_enter func57,ntmps57
  go_upto_region 1 with fail
  generalize w.alloc (x.oX)=W2 at *;obtain ⟨b0,-,-,-⟩:=NB.out;go_wp2;go_ret;rw [HV.out];exact ⟨rfl,BW.out⟩
 have HQ:Hid (c.length=x.pn):=by
  have h:(c.length:Int)=(x.pn:Int):=by simpa using t
  show c.length=x.pn;omega
 go_enter func57,ntmps57
 go_upto_region 1 with fail
 generalize w.alloc (x.oX)=W2 at *;obtain ⟨b0,-,-,-⟩:=NB.out;go_wp2_with fail
 clear b0 t
 go_loopw [5] (fun i wr=>∃ k:Nat,k<=c.length/\i=.int .i64 k/\Hid (Bw w wr/\x.bX wr w.heap.size)/\Hid (∀ j,j<k->0<=zi c j/\zi c j<=(x.hL j:Int))) (fun i _=>c.length - (intOf i).toNat)
 case atStart=>exact ⟨0,nD _,rfl,⟨BW.out,NB.out⟩,fun j hj=>by omega⟩
 case round=>
  clear BW NB;obtain ⟨k,hk,rfl,HB,HK⟩:=hrel;by_cases hlt:k<c.length
  ·have hlt':(k:Int)<(c.length:Int):=by omega
   have hkn:k<x.hn:=by have:=HQ.out;have:=HN.out;omega
   have hkn':(k:Int)<(x.hn:Int):=by omega
   obtain ⟨cb,co,rfl,-,c0⟩:=(HC.bw HB.1).at hlt;obtain ⟨bh,oh,eh,ch⟩:=(HG.bw HB.1).h.at hkn;have b3:=HB.2.2.2.2;rw [eh] at b3;clear eh
   have HZ:Hid (inB (zi c k) 0 (x.hL k)=true ↔ (0<=zi c k/\zi c k<=(x.hL k:Int))):=by
    show _ ↔ _;simp [inB]
   generalize hZ:zi c k=Z at *;have HX:Hid (zi c k=Z):=hZ;clear hZ;have q0:=cell_regrown c0;have qh:=cell_regrown ch;have q3:=cell_regrown b3;go_upto_region 6 with fail
   clear c0 ch b3;refine wp_region_quiet_below (by kernel_rfl) (by kernel_rfl) ?_
   repeat (quiet_step (first|(go_at_call 100;exact Calls.regrown_same (l1In_any _ _ _ _))))
   refine wpQuiet_nil ?_;intro _ hw';obtain ⟨⟨dd,os⟩,hw''⟩:=hw';subst hw'';have B3:Hid (Bw w (grow (redrawn wr dd) os)/\x.bX (grow (redrawn wr dd) os) w.heap.size):=⟨HB.1.trans ((below_regrown wr dd os).mono HB.1.size),HB.2.bw (below_regrown wr dd os)⟩
   generalize grow (redrawn wr dd) os=w3 at *;clear q0 qh q3 HB;generalize inB Z 0 (x.hL k)=T at *;cases T with
   | false=>
    have HV:Hid (qB (x.y.Cut c)=false):=qar fun h=>by
     have h1:=h.le k (by have:=HQ.out;show k<x.pn;omega);exact absurd (HZ.2 (HX.out ▸ h1)) (by decide)
    go_wp2;go_ret;rw [HV.out];exact ⟨rfl,B3.1⟩
   | true=>
    have HK':Hid (∀ j,j<k+1->0<=zi c j/\zi c j<=(x.hL j:Int)):=fun j hj=>by
     by_cases e:j=k
     ·subst e
      rw [HX.out];exact HZ.1 rfl
     ·exact HK.out j (by omega)
    clear HK HZ;go_wp2;go_roundw
    case rel=>exact ⟨k+1,by omega,by go_num,B3.out,HK'.out⟩
    case measure=>simp [intOf];omega
  ·have HV:Hid (qB (x.y.Cut c)=true):=qaz ⟨HQ.out,fun p hp=>HK.out p (by have:=HQ.out;have h1:p<x.pn:=hp;omega)⟩
   have B3:=HB.1;clear HK HB;go_wp2;go_ret;rw [HV.out];exact ⟨rfl,B3⟩
theorem qir (x:SysIn) (ca:Option Addr) (cc:Nat) (c:List Int) (a b:Nat) (w:World) (hG:SysG w x) (hcap:∀ i,i<x.hn->x.hL i<=x.hC i) (hO:x.y.Ok) (hC:x.y.Cut c) (hc:Sl w ca c) (ha:a<x.pn) (hb:b<x.pn):
  Calls prog 58 #[x.v,.slice ca c.length cc,iV a,iV b] w (rB w (iV (ovN x.y (cN c) a b))):=by
 have hhn:x.hn=x.pn:=hO.cn.2.2.1;have hah:a<x.hn:=by omega
 have hbh:b<x.hn:=by omega
 have hla:x.hL a<=200:=hO.hl200 ha;have hlb:x.hL b<=200:=hO.hl200 hb;have hka:cN c a<=x.hL a:=hC.leN ha;have hkb:cN c b<=x.hL b:=hC.leN hb;have eza:=hC.nat (p:=a) ha;have ezb:=hC.nat (p:=b) hb;have hcl:c.length=x.pn:=hC.len;have hcpa:=hcap a hah;have hcpb:=hcap b hbh;have HG:Hid (SysG w x):=hG;have HSl:Hid (Sl w ca c):=hc;have hac:(a:Int)<(c.length:Int):=by omega
 have hbc:(b:Int)<(c.length:Int):=by omega
 have ha':(a:Int)<(x.hn:Int):=by omega
 have hb':(b:Int)<(x.hn:Int):=by omega
 have HNo:Hid (tN x.y (cN c) a b<=sN x.y (cN c) a b->ovN x.y (cN c) a b = -1):=qu0;have HYes:Hid (¬ tN x.y (cN c) a b<=sN x.y (cN c) a b->nthV (x.hH b) 3 a (x.hL b) (sN x.y (cN c) a b:Nat)=ovN x.y (cN c) a b):=fun h=>qtq h hkb;have hsl:sN x.y (cN c) a b<=200:=zP (qkq _ _ _ _) (by omega);have htl:tN x.y (cN c) a b<=200:=zP (qkq _ _ _ _) (by omega);have ka:=qfx (x.hA a) (x.hL a) (x.hC a) (cN c a) (by omega);have kb:=qfx (x.hA b) (x.hL b) (x.hC b) (cN c b) (by omega);have HC1:Hid (∀ wx,Bw w wx->Calls prog 54 #[.slice (x.hA a) (cN c a) (x.hC a),iV 2,iV b] wx (rB wx (iV (sN x.y (cN c) a b:Nat)))):=fun wx hb=>qcx (x.hA a) (cN c a) (x.hC a) (x.hH a) 2 b wx (by omega) (((hG.bw hb).hi a hah).take (by omega));have HC2:Hid (∀ wx,Bw w wx->Calls prog 54 #[.slice (x.hA b) (cN c b) (x.hC b),iV 3,iV a] wx (rB wx (iV (tN x.y (cN c) a b:Nat)))):=fun wx hb=>qcx (x.hA b) (cN c b) (x.hC b) (x.hH b) 3 a wx (by omega) (((hG.bw hb).hi b hbh).take (by omega));have HNt:Hid (∀ wx,Bw w wx->Calls prog 104 #[.slice (x.hA b) (x.hL b) (x.hC b),iV 3,iV a,iV (sN x.y (cN c) a b:Nat)] wx (rB wx (iV (nthV (x.hH b) 3 a (x.hL b) (sN x.y (cN c) a b:Nat))))):=fun wx hb=>qr9 (x.hA b) (x.hL b) (x.hC b) (x.hH b) 3 a _ wx (by omega) ((hG.bw hb).hi b hbh) (by omega) (by omega);generalize sN x.y (cN c) a b=sn at *;generalize tN x.y (cN c) a b=tn at *;generalize ovN x.y (cN c) a b=ov at *;generalize nthV (x.hH b) 3 a (x.hL b) (sn:Nat)=nv at *;have HR:Hid (a<c.length/\b<c.length/\a<x.hn/\b<x.hn/\zi c a=(cN c a:Nat)/\zi c b=(cN c b:Nat)):=⟨by omega,by omega,hah,hbh,eza,ezb⟩
 have BW:Hid (Bw w (w.alloc (x.oX))):=zT _ _;have NB:Hid (x.bX (w.alloc (x.oX)) w.heap.size):=BoxC.new w _ _ _ _ _;have hsl':(sn:Int)<=200:=by omega
 have htl':(tn:Int)<=200:=by omega
 clear hG hcap hO hC hc hhn hah hbh hcl eza ezb hcpa hcpb;obtain ⟨cb,co,rfl,-,-⟩:=HSl.all (by have:=HR.out;omega)
 have HSc:Hid (∀ wx,Bw w wx->∀ i,i<c.length->wx.cell? ⟨cb,co+i,none⟩=some (iV (zi c i))):=fun wx hb i hi=>by
  obtain ⟨b',o',e,-,h⟩:=(HSl.bw hb).at hi;simp only [nG,Addr.mk.injEq] at e;obtain ⟨rfl,rfl,-⟩:=e;exact h
 have HRow:Hid (∃ hb ho,x.ha=some ⟨hb,ho,none⟩/\∀ wx,Bw w wx->∀ i,i<x.hn->wx.cell? ⟨hb,ho+i,none⟩=some (.slice (x.hA i) (x.hL i) (x.hC i))):=by
  obtain ⟨b1,o1,e1,-,-⟩:=HG.h.all (by have:=HR.out;omega);refine ⟨b1,o1,e1,fun wx hb i hi=>?_⟩;obtain ⟨b',o',e,h⟩:=(HG.bw hb).h.at hi;rw [e1] at e;simp only [nG,Addr.mk.injEq] at e;obtain ⟨rfl,rfl,-⟩:=e;exact h
 obtain ⟨hbb,hoo,ehh,hrow⟩:=HRow.out;have HRw:Hid (∀ wx,Bw w wx->∀ i,i<x.hn->wx.cell? ⟨hbb,hoo+i,none⟩=some (.slice (x.hA i) (x.hL i) (x.hC i))):=hrow;have HE:Hid (x.ha=some (aQ hbb hoo)):=ehh;clear HRow hrow ehh
 go_enter func58,ntmps58
 go_upto_region 1 with fail
 generalize w.alloc (x.oX)=W2 at *;have b3:=NB.2.2.2;rw [HE.out] at b3;have q3:=cell_regrown b3;have qa:=cell_regrown (HRw.out W2 BW.out a HR.2.2.1);have qc:=cell_regrown ((HSc.out W2 BW.out a HR.1).trans (by rw [HR.2.2.2.2.1]));have HQ2:Hid (∀ d os,Bw w (grow (redrawn W2 d) os)):=fun d os=>BW.trans ((below_regrown W2 d os).mono BW.size);clear b3;refine wp_region_quiet_below (by kernel_rfl) (by kernel_rfl) ?_
 repeat (quiet_step (first|(go_at_call 54;exact Calls.regrown_of (HC1.out _ (HQ2.out _ _)))))
 refine wpQuiet_nil ?_;intro _ hw';obtain ⟨⟨dd,os⟩,hw''⟩:=hw';subst hw'';have B3:Hid (Bw w (grow (redrawn W2 dd) os)/\x.bX (grow (redrawn W2 dd) os) w.heap.size):=⟨HQ2.out dd os,NB.bw (below_regrown W2 dd os)⟩
 generalize grow (redrawn W2 dd) os=w3 at *;clear q3 qa qc HQ2 BW NB HC1 ka;have b3:=B3.2.2.2.2;rw [HE.out] at b3;have q3:=cell_regrown b3;have qa:=cell_regrown (HRw.out w3 B3.1 b HR.2.2.2.1);have qc:=cell_regrown ((HSc.out w3 B3.1 b HR.2.1).trans (by rw [HR.2.2.2.2.2]));have HQ2:Hid (∀ d os,Bw w (grow (redrawn w3 d) os)):=fun d os=>B3.1.trans ((below_regrown w3 d os).mono B3.1.size);clear b3;go_upto_region 2 with fail
 refine wp_region_quiet_below (by kernel_rfl) (by kernel_rfl) ?_
 repeat (quiet_step (first|(go_at_call 54;exact Calls.regrown_of (HC2.out _ (HQ2.out _ _)))))
 refine wpQuiet_nil ?_;intro _ hw';obtain ⟨⟨dd,os⟩,hw''⟩:=hw';subst hw'';have B4:Hid (Bw w (grow (redrawn w3 dd) os)/\x.bX (grow (redrawn w3 dd) os) w.heap.size):=⟨HQ2.out dd os,B3.2.bw (below_regrown w3 dd os)⟩
 generalize grow (redrawn w3 dd) os=w4 at *;clear q3 qa qc HQ2 B3 HC2 kb;by_cases hts:tn<=sn
 ·have hts':(tn:Int)<=(sn:Int):=by omega
  have HV:=HNo.out hts;clear HNo HYes;go_wp2;go_ret;exact ⟨qna HV.symm,B4.1⟩
 ·have hts':¬ (tn:Int)<=(sn:Int):=by omega
  have HV:Hid (nv=ov):=HYes.out hts;clear HNo HYes;have b3:=B4.2.2.2.2;rw [HE.out] at b3;have qa:=HRw.out w4 B4.1 b HR.2.2.2.1;go_wp2_with fail
  refine (HNt.out w4 B4.1).mono ?_;rintro e w5 ⟨rfl,q5⟩;have B5:Hid (Bw w w5):=B4.1.trans (q5.mono B4.1.size);rw [HV.out];clear q5 b3 qa B4 HNt HV;go_wp2;go_ret;exact ⟨rfl,B5.out⟩
theorem qht (x:SysIn) (ca:Option Addr) (cc:Nat) (c:List Int) (w:World) (hG:SysG w x) (hcap:∀ i,i<x.hn->x.hL i<=x.hC i) (hO:x.y.Ok) (hC:x.y.Cut c) (hc:Sl w ca c):
  Calls prog 25 #[x.v,.slice ca c.length cc] w (rB w (.bool (qB (x.y.Wh (cN c))))):=by
 have hcl:c.length=x.pn:=hC.len;have h4:x.pn<=4:=hO.cn.1.2;have hl':(c.length:Int)<=4:=by omega
 have HQ:Hid (c.length=x.pn):=hcl;have HOv:Hid (∀ wx,Bw w wx->∀ a b,a<c.length->b<c.length->Calls prog 58 #[x.v,.slice ca c.length cc,iV (a:Nat),iV (b:Nat)] wx (rB wx (iV (ovN x.y (cN c) a b)))):=fun wx hb a b ha hb'=>qir x ca cc c a b wx (hG.bw hb) hcap hO hC (hc.bw hb) (by omega) (by omega);have BW:Hid (Bw w (w.alloc (x.oX))):=zT _ _;have NB:Hid (x.bX (w.alloc (x.oX)) w.heap.size):=BoxC.new w _ _ _ _ _;clear hG hcap hO hC hc hcl h4
 go_enter func25,ntmps25
 go_upto_region 1 with fail
 generalize w.alloc (x.oX)=W2 at *;go_wp2_with fail
 go_loopw [5] (fun i wr=>∃ k:Nat,k<=c.length/\i=.int .i64 k/\Hid (Bw w wr/\x.bX wr w.heap.size)/\Hid (∀ a,a<k->∀ b,b<c.length->tN x.y (cN c) a b<=sN x.y (cN c) a b)) (fun i _=>c.length - (intOf i).toNat)
 case atStart=>exact ⟨0,nD _,rfl,⟨BW.out,NB.out⟩,fun j hj=>by omega⟩
 case round=>
  clear BW NB;obtain ⟨k,hk,rfl,HB,HK⟩:=hrel;by_cases hlt:k<c.length
  ·have hlt':(k:Int)<(c.length:Int):=by omega
   go_wp2_with fail
   go_loopw [6] (fun i wr=>∃ j:Nat,j<=c.length/\i=.int .i64 j/\Hid (Bw w wr/\x.bX wr w.heap.size)/\Hid (∀ b,b<j->tN x.y (cN c) k b<=sN x.y (cN c) k b)) (fun i _=>c.length - (intOf i).toNat)
   case atStart=>exact ⟨0,nD _,rfl,HB.out,fun j hj=>by omega⟩
   case round=>
    clear HB;obtain ⟨j,hj,rfl,HB,HJ⟩:=hrel;by_cases hjt:j<c.length
    ·have hjt':(j:Int)<(c.length:Int):=by omega
     obtain ⟨b0,b1,b2,b3⟩:=HB.2;go_wp2_with fail
     refine (HOv.out _ HB.1 k j hlt hjt).mono ?_;rintro e w3 ⟨rfl,q3⟩;have B3:Hid (Bw w w3/\x.bX w3 w.heap.size):=⟨HB.1.trans (q3.mono HB.1.size),HB.2.bw q3⟩
     have HN:Hid (ovN x.y (cN c) k j<0 ↔ tN x.y (cN c) k j<=sN x.y (cN c) k j):=qd9;generalize ovN x.y (cN c) k j=ov at *;clear q3 b0 b1 b2 b3 HB;by_cases ho:0<=ov
     ·have HV:Hid (qB (x.y.Wh (cN c))=false):=qar fun h=>by
       have h1:=HN.2 (h k (by have:=HQ.out;show k<x.pn;omega) j (by have:=HQ.out;show j<x.pn;omega));omega
      go_wp2;go_ret;rw [HV.out];exact ⟨rfl,B3.1⟩
     ·have HJ':Hid (∀ b,b<j+1->tN x.y (cN c) k b<=sN x.y (cN c) k b):=fun b hb=>by
       by_cases e:b=j
       ·subst e
        exact HN.1 (by omega)
       ·exact HJ.out b (by omega)
      clear HJ HN;go_wp2;go_roundw
      case rel=>exact ⟨j+1,by omega,by go_num,B3.out,HJ'.out⟩
      case measure=>simp [intOf];omega
    ·have HK':Hid (∀ a,a<k+1->∀ b,b<c.length->tN x.y (cN c) a b<=sN x.y (cN c) a b):=fun a ha b hb=>by
      by_cases e:a=k
      ·subst e
       exact HJ.out b (by omega)
      ·exact HK.out a (by omega) b hb
     clear HK HJ;go_wp2;go_roundw
     case rel=>exact ⟨k+1,by omega,by go_num,HB.out,HK'.out⟩
     case measure=>simp [intOf];omega
  ·have HV:Hid (qB (x.y.Wh (cN c))=true):=qaz fun a ha b hb=>HK.out a (by have:=HQ.out;have h1:a<x.pn:=ha;omega) b (by have:=HQ.out;have h1:b<x.pn:=hb;omega)
   have B3:=HB.1;clear HK HB;go_wp2;go_ret;rw [HV.out];exact ⟨rfl,B3⟩
theorem qnt (xs:List Int) (n k:Nat):zi (xs.drop n) k=zi xs (n+k):=by
 unfold zi;simp [List.getD_eq_getElem?_getD,List.getElem?_drop]
def wyL (h:Hs) (a b:Nat):List Int:=(valL (h.e a) 2 b (h.l a)).drop (cnt (h.e b) 3 a (h.l b))
def itL (l:List Int):Nat->I2:=fun j=>⟨false,zi l j⟩
def Sy.ah (y:Sy) (d:Nat->Nat):Hs:=⟨y.pn,d,y.hH⟩
noncomputable def wfB (h:Hs):Bool:=qB (∀ a,a<h.n->∀ b,b<h.n->(wyL h a b).length<=12)
def Sy.atY (y:Sy) (d:Nat->Nat):Sy where
 pn:=y.pn
 pL:=y.pL
 pH:=y.pH
 sn:=y.pn
 sS:=fun p=>resS (repO (y.pH p) (y.pL p) (y.hH p) (d p))
 wn:=y.pn*y.pn
 wL:=fun i=>(wyL (y.ah d) (i / y.pn) (i % y.pn)).length
 wH:=fun i=>itL (wyL (y.ah d) (i / y.pn) (i % y.pn))
 hn:=y.pn
 hL:=d
 hH:=y.hH
def Sy.nil (y:Sy):Sy:={ y with pn:=0,sn:=0,wn:=0,hn:=0 }
noncomputable def Sy.atW (y:Sy) (d:Nat->Nat):Sy:=if wfB (y.ah d)=true then y.atY d else y.nil
noncomputable def atB (y:Sy) (c:List Int):Bool:=whB y c && wfB (y.ah (cN c))
noncomputable def atS (y:Sy) (c:List Int):Sy:=if whB y c=true then y.atW (cN c) else y.nil
theorem ql3 {y:Sy} {c:List Int} (h:whB y c=true):cutB y c=true/\y.Wh (cN c):=by
 unfold whB at h;simp only [nH] at h;exact ⟨h.1,qhy.1 h.2⟩
theorem qv5 {a b n:Nat} (hb:b<n):(a*n+b) / n=a/\(a*n+b) % n=b:=by
 have hn:0<n:=by omega
 constructor
 ·rw [Nat.mul_comm,Nat.mul_add_div hn,Nat.div_eq_of_lt hb]
  omega
 ·rw [Nat.mul_comm,Nat.mul_add_mod]
  exact Nat.mod_eq_of_lt hb
structure Al (g h:Nat->E3) (m r:Nat):Prop where
 le:r<=m
 eq:∀ i,i<r->g i=h i
 ne:r<m->g r≠h r
theorem Al.one {g h:Nat->E3} {m r r':Nat} (a:Al g h m r) (b:Al g h m r'):r=r':=by
 rcases Nat.lt_trichotomy r r' with h1 | h1 | h1
 ·exact absurd (b.eq r h1) (a.ne (zL h1 b.le))
 ·exact h1
 ·exact absurd (a.eq r' h1) (b.ne (zL h1 a.le))
theorem qqh (a b:E3):qdg a.k a.q a.v b.k b.q b.v=true ↔ a=b:=by
 cases a;cases b;simp [qdg]
theorem qp9 (ea fa:Option Addr) (n m c d:Nat) (g u:Nat->E3) (w:World) (hn:n<=1048576) (hm:m<=1048576) (h0:EvL w ea n g) (h1:EvL w fa m u):
  Calls prog 72 #[.slice ea n c,.slice fa m d] w fun e w'=>∃ r,e=.returned (iV (r:Nat))/\Al g u (min n m) r/\Bw w w':=by
 have H0:Hid (EvL w ea n g):=h0;have H1:Hid (EvL w fa m u):=h1;have hn':(n:Int)<=1048576:=by omega
 have hm':(m:Int)<=1048576:=by omega
 obtain ⟨mm,hmm⟩:∃ mm,mm=min n m:=⟨_,rfl⟩
 have hmi:min (n:Int) (m:Int)=(mm:Int):=by omega
 have HM:Hid (mm=min n m):=hmm;have hmb:(mm:Int)<=1048576:=by omega
 clear h0 h1 hmm
 go_enter func72,ntmps72
 go_wp2_with fail
 all_goals
  go_loopw [11] (fun i wr=>∃ k:Nat,k<=mm/\i=.int .i64 k/\Hid (Bw w wr/\∀ i,i<k->g i=u i)) (fun i _=>mm - (intOf i).toNat)
  case atStart=>exact ⟨0,nD _,rfl,nE _ _,fun i hi=>by omega⟩
  case round=>
   obtain ⟨k,hk,rfl,HK⟩:=hrel;by_cases hlt:k<mm
   ·have hlt':(k:Int)<(mm:Int):=by omega
    have hkn:k<n:=by have:=HM.out;omega
    have hkm:k<m:=by have:=HM.out;omega
    have hkn':(k:Int)<(n:Int):=by omega
    have hkm':(k:Int)<(m:Int):=by omega
    obtain ⟨b,off,rfl,hbl,ck0,ck1,ck2⟩:=(H0.bw HK.1).at hkn;obtain ⟨b',off',rfl,hbl',dk0,dk1,dk2⟩:=(H1.bw HK.1).at hkm;obtain ⟨T,hT⟩:∃ T,qdg (g k).k (g k).q (g k).v (u k).k (u k).q (u k).v=T:=⟨_,rfl⟩
    have HT:Hid (qdg (g k).k (g k).q (g k).v (u k).k (u k).q (u k).v=T):=hT;clear hT;go_upto_region 4 with fail
    have q0:Bw wr wr.drew:=(nE wr.heap.size wr).drew;refine qah (fun w'=>w'.cell? ⟨b,off+k*3,none⟩=some (iV (g k).k)/\w'.cell? ⟨b,off+k*3+1,none⟩=some (iV (g k).q)/\w'.cell? ⟨b,off+k*3+2,none⟩=some (iV (g k).v)/\w'.cell? ⟨b',off'+k*3,none⟩=some (iV (u k).k)/\w'.cell? ⟨b',off'+k*3+1,none⟩=some (iV (u k).q)/\w'.cell? ⟨b',off'+k*3+2,none⟩=some (iV (u k).v)) (fun _=>false) (by kernel_rfl) ?_;have hHeld:(fun w':World=>w'.cell? ⟨b,off+k*3,none⟩=some (iV (g k).k)/\w'.cell? ⟨b,off+k*3+1,none⟩=some (iV (g k).q)/\w'.cell? ⟨b,off+k*3+2,none⟩=some (iV (g k).v)/\w'.cell? ⟨b',off'+k*3,none⟩=some (iV (u k).k)/\w'.cell? ⟨b',off'+k*3+1,none⟩=some (iV (u k).q)/\w'.cell? ⟨b',off'+k*3+2,none⟩=some (iV (u k).v)) wr.drew:=⟨(q0.cell (p:=(aQ b _)) hbl).trans ck0,(q0.cell (p:=(aQ b _)) hbl).trans ck1,(q0.cell (p:=(aQ b _)) hbl).trans ck2,(q0.cell (p:=(aQ b' _)) hbl').trans dk0,(q0.cell (p:=(aQ b' _)) hbl').trans dk1,(q0.cell (p:=(aQ b' _)) hbl').trans dk2⟩
    refine qa0 [0,1,2,3,4,5,6,7] ?_;iterate 8 (refine qba rfl hHeld ?_)
    refine qav ?_;have hne:=quz (g k).k (g k).q (g k).v (u k).k (u k).q (u k).v;rw [HT.out] at hne;refine qcv 8 rfl hHeld ⟨.bool (!T),fun wq _=>?_,?_⟩
    ·go_simp
    (try simp only [Act.put,zD,zE,zF])
    refine yX ?_ _;have HK':Hid (Bw w wr.drew):=HK.1.trans (q0.mono HK.1.size);clear hHeld hne q0 ck0 ck1 ck2 dk0 dk1 dk2 hbl hbl';cases T with
    | false=>
     have HR : Hid (Al g u (min n m) k) := ⟨by have := HM.out; omega, HK.2, fun _ e => by
      have:=(qqh _ _).2 e;rw [HT.out] at this
      cases this⟩
     go_wp2;go_ret;exact ⟨k,rfl,HR.out,HK'.out⟩
    | true=>
     have HE:Hid (∀ i,i<k+1->g i=u i):=fun i hi=>by
      by_cases e:i=k
      ·subst e
       exact (qqh _ _).1 HT.out
      ·exact HK.2 i (by omega)
     go_wp2;go_roundw
     case rel=>exact ⟨k+1,by omega,by go_num,HK'.out,HE.out⟩
     case measure=>simp [intOf];omega
   ·have hkm:k=mm:=by omega
    have HR:Hid (Al g u (min n m) k):=⟨by have:=HM.out;omega,HK.2,fun hh=>by have:=HM.out;omega⟩
    have hg1:(mm:Int)<=(k:Int):=by omega
    try (first | have hg2:(m:Int)<=(k:Int):=by omega | have hg2:(n:Int)<=(k:Int):=by omega)
    clear hkm hlt;go_wp2;go_ret
    first | exact ⟨k,congrArg (fun z:Int=>Ending.returned (iV z)) (show (m:Int)=k by omega),HR.out,HK.1⟩ | exact ⟨k,congrArg (fun z:Int=>Ending.returned (iV z)) (show (n:Int)=k by omega),HR.out,HK.1⟩ | exact ⟨k,congrArg (fun z:Int=>Ending.returned (iV z)) (show (mm:Int)=k by omega),HR.out,HK.1⟩
variable {z:Bool}
theorem qk3 (n:Nat) (w:World) (h0:0<n) (hn:n<=2000000):
  Calls prog 159 #[nS,iV (n:Int)] w fun e w'=>∃ c,e=.returned (sG w.heap.size 0 c)/\w'.ownsRow w.heap.size 94 2 (sG w.heap.size 0 c) 0 []/\Bw w w':=by
 obtain ⟨i,z,hi,hz,hs,hb,hzs⟩:=kndT.inf
 have hby:n*i.bytes<=140737488355328:=by
  rw [hb];omega
 have hrz:∀ ty,(Builtin.append_ #[92,3] ty #[nS,iV (n:Int)]).run prog w=.ok (.slice (some ⟨w.heap.size,0,none⟩) n (grownCap w n 0 94)) (w.drew.alloc (.cells (Builtin.zeroCells z.cells n ++ Builtin.zeroCells z.cells (grownCap w n 0 94 - n)) 94)):=fun ty=>by
  have h:=Lib.run_append_grow_zeros w 92 3 ty 94 i z .i64 .i64 kndT.und Tryz.underlying3 hi hz none 0 0 [] (run_firstCells_none w.drew i.size 0 0 0) n h0 (by omega) (by omega) (by omega) (by omega) (by rw [nL];exact growslice_fits (by omega) hby);simpa using h
 have hG:n<=grownCap w n 0 94:=grownCap_ge w _ _ _;have hGm:grownCap w n 0 94<=maxLen:=grownCap_le_maxLen w _ _ _ (by unfold maxLen;omega);have OW:Hid ((w.drew.alloc (.cells (Builtin.zeroCells z.cells n ++ Builtin.zeroCells z.cells (grownCap w n 0 94 - n)) 94)).ownsRow w.heap.size 94 2 (.slice (some (aQ w.heap.size 0)) 0 (grownCap w n 0 94)) 0 []):=World.ownsRow_made (base:=w.heap.size) (e:=94) (size:=2) w.drew _ _ (nA _) hGm (by rw [Array.size_append,size_zeroCells,size_zeroCells,hzs];omega);have BW:Hid (Bw w (w.drew.alloc (.cells (Builtin.zeroCells z.cells n ++ Builtin.zeroCells z.cells (grownCap w n 0 94 - n)) 94))):=(nE w.heap.size w).drew.trans (zQ w.drew _);generalize grownCap w n 0 94=G at *;generalize Builtin.zeroCells z.cells n ++ Builtin.zeroCells z.cells (G - n)=cs at *;have hG':(n:Int)<=(G:Int):=by omega
 have hG0:(0:Int)<=(G:Int):=by omega
 have hn0:¬ ((n:Int)<0):=by omega
 have hn1:(0:Int)<(n:Int):=by omega
 clear hi hz hs hb hzs hby hGm hG
 go_enter func159,ntmps159
 go_wp2_with (at_builtin;refine Lib.wpList_append_run _ rfl _ _ _ _ rfl _ _ rfl rfl _ _ (hrz _) ?_)
 all_goals
  go_ret;exact ⟨_,rfl,OW.out,BW.out⟩
theorem qh9 (b n1 c1 n2 c2:Nat) (a1 a2:Option Addr) (s1 s2:List Value) (w:World) (h1:n1<=1000000) (h2:n2<=1000000) (h0:0<n1+n2) (k1:w.cell? ⟨b,0,none⟩=some (.slice a1 n1 c1)) (k2:w.cell? ⟨b,1,none⟩=some (.slice a2 n2 c2)) (l1:s1.length=n1*2) (l2:s2.length=n2*2) (r1:Src w a1 s1) (r2:Src w a2 s2) (o1:∀ u ∈ s1,u.oneCell'=true) (o2:∀ u ∈ s2,u.oneCell'=true):
  Calls prog 124 #[.slice (some (aQ b 0)) 2 2] w fun e w'=>∃ v,e=.returned v/\w'.ownsRow w.heap.size 94 2 v (n1+n2) (s1 ++ s2)/\v≠nS/\Bw w w':=by
 have H1:(n1:Int)<=1000000:=by omega
 have H2:(n2:Int)<=1000000:=by omega
 have KC:Hid (w.cell? (aQ b 0)=some (.slice a1 n1 c1)/\w.cell? (aQ b 1)=some (.slice a2 n2 c2)/\b<w.heap.size):=⟨k1,k2,zJ w _ k1⟩
 have RC:Hid ((s1.length=n1*2/\Src w a1 s1/\∀ u ∈ s1,u.oneCell'=true)/\(s2.length=n2*2/\Src w a2 s2/\∀ u ∈ s2,u.oneCell'=true)):=⟨⟨l1,r1,o1⟩,⟨l2,r2,o2⟩⟩
 clear l1 l2 r1 r2 o1 o2 k1 k2
 go_enter func124,ntmps124
 go_wp2_with fail
 go_loopw [3,11] (fun q i wr=>∃ j:Nat,j<=2/\i=.int .i64 j/\q=.int .i64 ((if j=0 then 0 else if j=1 then n1 else n1+n2:Nat):Int)/\wr=w) (fun _ i _=>2 - (intOf i).toNat)
 case atStart=>exact ⟨0,nD _,rfl,rfl,rfl⟩
 case round=>
  obtain ⟨j,hj,rfl,rfl,hwr⟩:=hrel;obtain rfl:=hwr.symm;obtain ⟨k1,k2,-⟩:=KC.out;by_cases hj0:j=0
  ·subst hj0
   simp only [if_true];go_wp2;go_roundw
   case rel=>exact ⟨1,by omega,by go_num,by simp,by first | rfl | trivial⟩
   case measure=>simp [intOf]
  ·by_cases hj1:j=1
   ·subst hj1
    simp only [if_true,nB (show ¬ (1:Nat)=0 by decide)];have hs:¬ ((n1:Int)+(n2:Int)<0):=by omega
    go_wp2;go_roundw
    case rel=>exact ⟨2,by omega,by go_num,by simp,by first | rfl | trivial⟩
    case measure=>simp [intOf]
   ·obtain rfl:j=2:=by omega
    simp only [nB (show ¬ (2:Nat)=0 by decide),nB (show ¬ (2:Nat)=1 by decide)];clear k1 k2;go_wp2_with fail
    refine (qk3 (n1+n2) w h0 (by omega)).mono ?_;rintro e w1 ⟨cg,rfl,og,bg⟩;have OG:Hid (w1.ownsRow w.heap.size 94 2 (sG w.heap.size 0 cg) 0 []/\Bw w w1):=⟨og,bg⟩
    clear og bg;go_wp2_with fail
    go_loopw [6,27] (fun v i wx=>∃ j:Nat,j<=2/\i=.int .i64 j/\Hid (wx.ownsRow w.heap.size 94 2 v (if j=0 then 0 else if j=1 then n1 else n1+n2) (if j=0 then [] else if j=1 then s1 else s1 ++ s2)/\v≠nS/\Bw w wx)) (fun _ i _=>2 - (intOf i).toNat)
    case atStart=>exact ⟨0,nD _,rfl,OG.1,by simp,OG.2⟩
    case round=>
     clear OG;obtain ⟨j,hj,rfl,HZ⟩:=hrel;obtain ⟨k1,k2,kb⟩:=KC.out;have HB:Hid (Bw w wr):=HZ.2.2;have hne:Hid (u6≠nS):=HZ.2.1;by_cases hj0:j=0
     ·subst hj0
      have m1:=(HB.cell (p:=(aQ b 0)) kb).trans k1;have OV:Hid (wr.ownsRow w.heap.size 94 2 u6 0 []):=HZ.1;clear k1 k2 kb HZ;go_wp2_with (at_builtin;refine qbl kndT wr rfl _ _ rfl w.heap.size u6 0 [] rfl OV.out a1 n1 c1 s1 rfl RC.1.1 (RC.1.2.1.bw HB.out) RC.1.2.2 (by omega) HB.size ?_;intro v5 w5 o5 g5 q5 n5;have F5:Hid (w5.ownsRow w.heap.size 94 2 v5 n1 s1/\v5≠nS/\Bw w w5):=⟨by rw [nL,List.nil_append] at o5;exact o5,n5 (.inl hne.out),Below.grown HB.out g5 HB.size (fun j hj=>(OV.lt j hj).1)⟩;clear o5 g5 q5 n5)
      go_roundw
      case rel=>exact ⟨1,by omega,by go_num,F5.out⟩
      case measure=>simp [intOf]
     ·by_cases hj1:j=1
      ·subst hj1
       have m2:=(HB.cell (p:=(aQ b 1)) kb).trans k2;have OV:Hid (wr.ownsRow w.heap.size 94 2 u6 n1 s1):=HZ.1;clear k1 k2 kb HZ;go_wp2_with (at_builtin;refine qbl kndT wr rfl _ _ rfl w.heap.size u6 n1 s1 rfl OV.out a2 n2 c2 s2 rfl RC.2.1 (RC.2.2.1.bw HB.out) RC.2.2.2 (by omega) HB.size ?_;intro v5 w5 o5 g5 q5 n5;have F5:Hid (w5.ownsRow w.heap.size 94 2 v5 (n1+n2) (s1 ++ s2)/\v5≠nS/\Bw w w5):=⟨o5,n5 (.inl hne.out),Below.grown HB.out g5 HB.size (fun j hj=>(OV.lt j hj).1)⟩;clear o5 g5 q5 n5)
       go_roundw
       case rel=>exact ⟨2,by omega,by go_num,F5.out⟩
       case measure=>simp [intOf]
      ·obtain rfl:j=2:=by omega
       have F5:Hid (wr.ownsRow w.heap.size 94 2 u6 (n1+n2) (s1 ++ s2)/\u6≠nS/\Bw w wr):=HZ.out;clear HZ k1 k2;go_wp2;go_ret;exact ⟨_,rfl,F5.out⟩
theorem ql4 (a:Option Addr) (n c:Nat) (lim:Int) (H:Nat->I2) (x:I2) (w:World) (hn:n<=1000) (hI:Src w a (fT H n)):
  Calls prog 85 #[.agg #[.slice a n c,iV lim],.agg #[.bool x.m,iV x.v]] w fun e w'=>∃ v,e=.returned v/\w'.ownsRow w.heap.size 94 2 v (n+1) (fT (fun i=>if i=n then x else H i) (n+1))/\v≠nS/\Bw w w':=by
 have HI:Hid (Src w a (fT H n)):=hI
 have HF:Hid (fT (fun i=>if i=n then x else H i) (n+1)=fT H n ++ cT x):=by
  show flat (fun i=>cT (if i=n then x else H i)) n ++ cT (if n=n then x else H n)=flat (fun i=>cT (H i)) n ++ cT x;rw [nC rfl]
  congr 1
  exact qcc fun i hi=>by rw [nB (by omega)]
 clear hI
 go_enter func85,ntmps85
 go_wp2_with fail
 have B3:Hid (Bw w ((((w.alloc (.cells #[.slice a n c,iV lim] 119)).alloc (.cells #[.bool x.m,iV x.v] 94)).alloc (.cells #[.bool x.m,iV x.v] 94)).alloc (.cells #[.slice a n c,.slice (some ⟨w.heap.size+2,0,none⟩) 1 1] 92))):=by
  show Bw w ((((w.alloc (.cells #[.slice a n c,iV lim] 119)).alloc (.cells #[.bool x.m,iV x.v] 94)).alloc (.cells #[.bool x.m,iV x.v] 94)).alloc (.cells #[.slice a n c,.slice (some ⟨w.heap.size+2,0,none⟩) 1 1] 92))
  go_grown
 have k1:((((w.alloc (.cells #[.slice a n c,iV lim] 119)).alloc (.cells #[.bool x.m,iV x.v] 94)).alloc (.cells #[.bool x.m,iV x.v] 94)).alloc (.cells #[.slice a n c,.slice (some ⟨w.heap.size+2,0,none⟩) 1 1] 92)).cell? ⟨w.heap.size+3,0,none⟩=some (.slice a n c):=zW _ _ _ 0 (by simp);have k2:((((w.alloc (.cells #[.slice a n c,iV lim] 119)).alloc (.cells #[.bool x.m,iV x.v] 94)).alloc (.cells #[.bool x.m,iV x.v] 94)).alloc (.cells #[.slice a n c,.slice (some ⟨w.heap.size+2,0,none⟩) 1 1] 92)).cell? ⟨w.heap.size+3,1,none⟩=some (.slice (some ⟨w.heap.size+2,0,none⟩) 1 1):=zW _ _ _ 1 (by simp)
 have r2 : Src ((((w.alloc (.cells #[.slice a n c, iV lim] 119)).alloc (.cells #[.bool x.m, iV x.v] 94)).alloc (.cells #[.bool x.m, iV x.v] 94)).alloc (.cells #[.slice a n c, .slice (some ⟨w.heap.size + 2, 0, none⟩) 1 1] 92)) (some ⟨w.heap.size + 2, 0, none⟩) (cT x) :=   .inr ⟨w.heap.size + 2, 0, rfl, (by simp), fun j u hj => by
  have ba:=zQ (((w.alloc (.cells #[.slice a n c,iV lim] 119)).alloc (.cells #[.bool x.m,iV x.v] 94)).alloc (.cells #[.bool x.m,iV x.v] 94)) (.cells #[.slice a n c,.slice (some ⟨w.heap.size+2,0,none⟩) 1 1] 92);rw [nL,(qae ba).1 _ _ (by simp),zW _ _ _ j (by simp)]
  simpa [cT] using hj⟩
 refine (qh9 (w.heap.size+3) n c 1 1 a (some ⟨w.heap.size+2,0,none⟩) (fT H n) (cT x) ((((w.alloc (.cells #[.slice a n c,.int .i64 lim] 119)).alloc (.cells #[.bool x.m,.int .i64 x.v] 94)).alloc (.cells #[.bool x.m,.int .i64 x.v] 94)).alloc (.cells #[.slice a n c,.slice (some ⟨w.heap.size+2,0,none⟩) 1 1] 92)) (by omega) (by omega) (by omega) k1 k2 (qho _ _) rfl (HI.bw B3.out) r2 (qio _ _) (by intro u hu;simp [cT] at hu;rcases hu with rfl | rfl <;> rfl)).mono ?_;rintro e w5 ⟨v5,rfl,o5,n5,b5⟩;have F5:Hid (w5.ownsRow w.heap.size 94 2 v5 (n+1) (fT H n ++ cT x)/\v5≠nS/\Bw w w5):=⟨o5.mono (by simp;omega),n5,B3.trans (b5.mono B3.size)⟩
 clear o5 n5 b5 k1 k2 r2 B3;go_wp2;go_ret;rw [HF.out];exact ⟨_,rfl,F5.out⟩
theorem qi7 (n:Nat) (w:World) (h0:0<n) (hn:n<=2000000):
  Calls prog 158 #[nS,iV (n:Int)] w fun e w'=>∃ c,e=.returned (sG w.heap.size 0 c)/\w'.ownsRow w.heap.size 47 3 (sG w.heap.size 0 c) 0 []/\Bw w w':=by
 obtain ⟨i,z,hi,hz,hs,hb,hzs⟩:=kndE.inf
 have hby:n*i.bytes<=140737488355328:=by
  rw [hb];omega
 have hrz:∀ ty,(Builtin.append_ #[48,3] ty #[nS,iV (n:Int)]).run prog w=.ok (.slice (some ⟨w.heap.size,0,none⟩) n (grownCap w n 0 47)) (w.drew.alloc (.cells (Builtin.zeroCells z.cells n ++ Builtin.zeroCells z.cells (grownCap w n 0 47 - n)) 47)):=fun ty=>by
  have h:=Lib.run_append_grow_zeros w 48 3 ty 47 i z .i64 .i64 kndE.und Tryz.underlying3 hi hz none 0 0 [] (run_firstCells_none w.drew i.size 0 0 0) n h0 (by omega) (by omega) (by omega) (by omega) (by rw [nL];exact growslice_fits (by omega) hby);simpa using h
 have hG:n<=grownCap w n 0 47:=grownCap_ge w _ _ _;have hGm:grownCap w n 0 47<=maxLen:=grownCap_le_maxLen w _ _ _ (by unfold maxLen;omega);have OW:Hid ((w.drew.alloc (.cells (Builtin.zeroCells z.cells n ++ Builtin.zeroCells z.cells (grownCap w n 0 47 - n)) 47)).ownsRow w.heap.size 47 3 (.slice (some (aQ w.heap.size 0)) 0 (grownCap w n 0 47)) 0 []):=World.ownsRow_made (base:=w.heap.size) (e:=47) (size:=3) w.drew _ _ (nA _) hGm (by rw [Array.size_append,size_zeroCells,size_zeroCells,hzs];omega);have BW:Hid (Bw w (w.drew.alloc (.cells (Builtin.zeroCells z.cells n ++ Builtin.zeroCells z.cells (grownCap w n 0 47 - n)) 47))):=(nE w.heap.size w).drew.trans (zQ w.drew _);generalize grownCap w n 0 47=G at *;generalize Builtin.zeroCells z.cells n ++ Builtin.zeroCells z.cells (G - n)=cs at *;have hG':(n:Int)<=(G:Int):=by omega
 have hG0:(0:Int)<=(G:Int):=by omega
 have hn0:¬ ((n:Int)<0):=by omega
 have hn1:(0:Int)<(n:Int):=by omega
 clear hi hz hs hb hzs hby hGm hG
 go_enter func158,ntmps158
 go_wp2_with (at_builtin;refine Lib.wpList_append_run _ rfl _ _ _ _ rfl _ _ rfl rfl _ _ (hrz _) ?_)
 all_goals
  go_ret;exact ⟨_,rfl,OW.out,BW.out⟩
theorem qhm (b n1 c1 n2 c2:Nat) (a1 a2:Option Addr) (s1 s2:List Value) (w:World) (h1:n1<=1000000) (h2:n2<=1000000) (h0:0<n1+n2) (k1:w.cell? ⟨b,0,none⟩=some (.slice a1 n1 c1)) (k2:w.cell? ⟨b,1,none⟩=some (.slice a2 n2 c2)) (l1:s1.length=n1*3) (l2:s2.length=n2*3) (r1:Src w a1 s1) (r2:Src w a2 s2) (o1:∀ u ∈ s1,u.oneCell'=true) (o2:∀ u ∈ s2,u.oneCell'=true):
  Calls prog 123 #[.slice (some (aQ b 0)) 2 2] w fun e w'=>∃ v,e=.returned v/\w'.ownsRow w.heap.size 47 3 v (n1+n2) (s1 ++ s2)/\v≠nS/\Bw w w':=by
 have H1:(n1:Int)<=1000000:=by omega
 have H2:(n2:Int)<=1000000:=by omega
 have KC:Hid (w.cell? (aQ b 0)=some (.slice a1 n1 c1)/\w.cell? (aQ b 1)=some (.slice a2 n2 c2)/\b<w.heap.size):=⟨k1,k2,zJ w _ k1⟩
 have RC:Hid ((s1.length=n1*3/\Src w a1 s1/\∀ u ∈ s1,u.oneCell'=true)/\(s2.length=n2*3/\Src w a2 s2/\∀ u ∈ s2,u.oneCell'=true)):=⟨⟨l1,r1,o1⟩,⟨l2,r2,o2⟩⟩
 clear l1 l2 r1 r2 o1 o2 k1 k2
 go_enter func123,ntmps123
 go_wp2_with fail
 go_loopw [3,11] (fun q i wr=>∃ j:Nat,j<=2/\i=.int .i64 j/\q=.int .i64 ((if j=0 then 0 else if j=1 then n1 else n1+n2:Nat):Int)/\wr=w) (fun _ i _=>2 - (intOf i).toNat)
 case atStart=>exact ⟨0,nD _,rfl,rfl,rfl⟩
 case round=>
  obtain ⟨j,hj,rfl,rfl,hwr⟩:=hrel;obtain rfl:=hwr.symm;obtain ⟨k1,k2,-⟩:=KC.out;by_cases hj0:j=0
  ·subst hj0
   simp only [if_true];go_wp2;go_roundw
   case rel=>exact ⟨1,by omega,by go_num,by simp,by first | rfl | trivial⟩
   case measure=>simp [intOf]
  ·by_cases hj1:j=1
   ·subst hj1
    simp only [if_true,nB (show ¬ (1:Nat)=0 by decide)];have hs:¬ ((n1:Int)+(n2:Int)<0):=by omega
    go_wp2;go_roundw
    case rel=>exact ⟨2,by omega,by go_num,by simp,by first | rfl | trivial⟩
    case measure=>simp [intOf]
   ·obtain rfl:j=2:=by omega
    simp only [nB (show ¬ (2:Nat)=0 by decide),nB (show ¬ (2:Nat)=1 by decide)];clear k1 k2;go_wp2_with fail
    refine (qi7 (n1+n2) w h0 (by omega)).mono ?_;rintro e w1 ⟨cg,rfl,og,bg⟩;have OG:Hid (w1.ownsRow w.heap.size 47 3 (sG w.heap.size 0 cg) 0 []/\Bw w w1):=⟨og,bg⟩
    clear og bg;go_wp2_with fail
    go_loopw [6,27] (fun v i wx=>∃ j:Nat,j<=2/\i=.int .i64 j/\Hid (wx.ownsRow w.heap.size 47 3 v (if j=0 then 0 else if j=1 then n1 else n1+n2) (if j=0 then [] else if j=1 then s1 else s1 ++ s2)/\v≠nS/\Bw w wx)) (fun _ i _=>2 - (intOf i).toNat)
    case atStart=>exact ⟨0,nD _,rfl,OG.1,by simp,OG.2⟩
    case round=>
     clear OG;obtain ⟨j,hj,rfl,HZ⟩:=hrel;obtain ⟨k1,k2,kb⟩:=KC.out;have HB:Hid (Bw w wr):=HZ.2.2;have hne:Hid (u6≠nS):=HZ.2.1;by_cases hj0:j=0
     ·subst hj0
      have m1:=(HB.cell (p:=(aQ b 0)) kb).trans k1;have OV:Hid (wr.ownsRow w.heap.size 47 3 u6 0 []):=HZ.1;clear k1 k2 kb HZ;go_wp2_with (at_builtin;refine qbl kndE wr rfl _ _ rfl w.heap.size u6 0 [] rfl OV.out a1 n1 c1 s1 rfl RC.1.1 (RC.1.2.1.bw HB.out) RC.1.2.2 (by omega) HB.size ?_;intro v5 w5 o5 g5 q5 n5;have F5:Hid (w5.ownsRow w.heap.size 47 3 v5 n1 s1/\v5≠nS/\Bw w w5):=⟨by rw [nL,List.nil_append] at o5;exact o5,n5 (.inl hne.out),Below.grown HB.out g5 HB.size (fun j hj=>(OV.lt j hj).1)⟩;clear o5 g5 q5 n5)
      go_roundw
      case rel=>exact ⟨1,by omega,by go_num,F5.out⟩
      case measure=>simp [intOf]
     ·by_cases hj1:j=1
      ·subst hj1
       have m2:=(HB.cell (p:=(aQ b 1)) kb).trans k2;have OV:Hid (wr.ownsRow w.heap.size 47 3 u6 n1 s1):=HZ.1;clear k1 k2 kb HZ;go_wp2_with (at_builtin;refine qbl kndE wr rfl _ _ rfl w.heap.size u6 n1 s1 rfl OV.out a2 n2 c2 s2 rfl RC.2.1 (RC.2.2.1.bw HB.out) RC.2.2.2 (by omega) HB.size ?_;intro v5 w5 o5 g5 q5 n5;have F5:Hid (w5.ownsRow w.heap.size 47 3 v5 (n1+n2) (s1 ++ s2)/\v5≠nS/\Bw w w5):=⟨o5,n5 (.inl hne.out),Below.grown HB.out g5 HB.size (fun j hj=>(OV.lt j hj).1)⟩;clear o5 g5 q5 n5)
       go_roundw
       case rel=>exact ⟨2,by omega,by go_num,F5.out⟩
       case measure=>simp [intOf]
      ·obtain rfl:j=2:=by omega
       have F5:Hid (wr.ownsRow w.heap.size 47 3 u6 (n1+n2) (s1 ++ s2)/\u6≠nS/\Bw w wr):=HZ.out;clear HZ k1 k2;go_wp2;go_ret;exact ⟨_,rfl,F5.out⟩
theorem qkd (a:Option Addr) (n c:Nat) (lim:Int) (H:Nat->E3) (x:E3) (w:World) (hn:n<=1000) (hI:Src w a (fE H n)):
  Calls prog 83 #[.agg #[.slice a n c,iV lim],.agg #[iV x.k,iV x.q,iV x.v]] w fun e w'=>∃ v,e=.returned v/\w'.ownsRow w.heap.size 47 3 v (n+1) (fE (fun i=>if i=n then x else H i) (n+1))/\v≠nS/\Bw w w':=by
 have HI:Hid (Src w a (fE H n)):=hI
 have HF:Hid (fE (fun i=>if i=n then x else H i) (n+1)=fE H n ++ cE x):=by
  show flat (fun i=>cE (if i=n then x else H i)) n ++ cE (if n=n then x else H n)=flat (fun i=>cE (H i)) n ++ cE x;rw [nC rfl]
  congr 1
  exact qcc fun i hi=>by rw [nB (by omega)]
 clear hI
 go_enter func83,ntmps83
 go_wp2_with fail
 have B3:Hid (Bw w ((((w.alloc (.cells #[.slice a n c,iV lim] 115)).alloc (oQ0 x.k x.q x.v)).alloc (oQ0 x.k x.q x.v)).alloc (.cells #[.slice a n c,.slice (some ⟨w.heap.size+2,0,none⟩) 1 1] 48))):=by
  show Bw w ((((w.alloc (.cells #[.slice a n c,iV lim] 115)).alloc (oQ0 x.k x.q x.v)).alloc (oQ0 x.k x.q x.v)).alloc (.cells #[.slice a n c,.slice (some ⟨w.heap.size+2,0,none⟩) 1 1] 48))
  go_grown
 have k1:((((w.alloc (.cells #[.slice a n c,iV lim] 115)).alloc (oQ0 x.k x.q x.v)).alloc (oQ0 x.k x.q x.v)).alloc (.cells #[.slice a n c,.slice (some ⟨w.heap.size+2,0,none⟩) 1 1] 48)).cell? ⟨w.heap.size+3,0,none⟩=some (.slice a n c):=zW _ _ _ 0 (by simp);have k2:((((w.alloc (.cells #[.slice a n c,iV lim] 115)).alloc (oQ0 x.k x.q x.v)).alloc (oQ0 x.k x.q x.v)).alloc (.cells #[.slice a n c,.slice (some ⟨w.heap.size+2,0,none⟩) 1 1] 48)).cell? ⟨w.heap.size+3,1,none⟩=some (.slice (some ⟨w.heap.size+2,0,none⟩) 1 1):=zW _ _ _ 1 (by simp)
 have r2 : Src ((((w.alloc (.cells #[.slice a n c, iV lim] 115)).alloc (oQ0 x.k x.q x.v)).alloc (oQ0 x.k x.q x.v)).alloc (.cells #[.slice a n c, .slice (some ⟨w.heap.size + 2, 0, none⟩) 1 1] 48)) (some ⟨w.heap.size + 2, 0, none⟩) (cE x) :=   .inr ⟨w.heap.size + 2, 0, rfl, (by simp), fun j u hj => by
  have ba:=zQ (((w.alloc (.cells #[.slice a n c,iV lim] 115)).alloc (oQ0 x.k x.q x.v)).alloc (oQ0 x.k x.q x.v)) (.cells #[.slice a n c,.slice (some ⟨w.heap.size+2,0,none⟩) 1 1] 48);rw [nL,(qae ba).1 _ _ (by simp),zW _ _ _ j (by simp)]
  simpa [cE] using hj⟩
 refine (qhm (w.heap.size+3) n c 1 1 a (some ⟨w.heap.size+2,0,none⟩) (fE H n) (cE x) ((((w.alloc (.cells #[.slice a n c,.int .i64 lim] 115)).alloc (oQ0 x.k x.q x.v)).alloc (oQ0 x.k x.q x.v)).alloc (.cells #[.slice a n c,.slice (some ⟨w.heap.size+2,0,none⟩) 1 1] 48)) (by omega) (by omega) (by omega) k1 k2 (qin _ _) rfl (HI.bw B3.out) r2 (qkz _ _) (by intro u hu;simp [cE] at hu;rcases hu with rfl | rfl | rfl <;> rfl)).mono ?_;rintro e w5 ⟨v5,rfl,o5,n5,b5⟩;have F5:Hid (w5.ownsRow w.heap.size 47 3 v5 (n+1) (fE H n ++ cE x)/\v5≠nS/\Bw w w5):=⟨o5.mono (by simp;omega),n5,B3.trans (b5.mono B3.size)⟩
 clear o5 n5 b5 k1 k2 r2 B3;go_wp2;go_ret;rw [HF.out];exact ⟨_,rfl,F5.out⟩
