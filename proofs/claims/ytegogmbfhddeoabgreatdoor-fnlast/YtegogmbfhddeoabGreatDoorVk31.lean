import Derived.LaidEql
import Derived.Stop.Asserts
import Derived.Test.YtegogmbfhddeoabGreatDoorVk29
namespace Go.Proofs.YtegogmbfhddeoabGreatDoor
set_option maxRecDepth 100000
set_option maxHeartbeats 4000000
open Go.RowKit Go.Extern.Stop Go.Stop Go.Extern
theorem qvg (t:Value) (w:World):
  Calls Tryz.prog 111 #[.nilIface,t] w fun e w'=>e=.returned (.bool false)/\w'=w:=by
 go_enter Tryz.func111,Tryz.ntmps111
 go_wp2;go_ret;exact ⟨rfl,rfl⟩
theorem qt5 (t:Addr) (w:World):(ReflectliteValue.unpack (.iface 157 (.pointer (some t)))).run Tryz.prog w
  = .ok (.agg #[.pointer (some ⟨1,157,none⟩),.pointer (some ⟨w.heap.size,0,none⟩),.int .u64 150]) (w.alloc (.cells #[.pointer (some t)] 157)):=by kernel_rfl
theorem qwj (a : Addr) (w : World) : (ReflectliteValue.methodAny (ReflectliteValue.valueError "reflectlite.Value.Type" 0) (fun t _ _ _ => ReflectliteType.toType t) #[.agg #[.pointer (some ⟨1, 157, none⟩), .pointer (some a), .int .u64 150]]).run Tryz.prog w
  = .ok (.iface 211 (.agg #[.pointer (some ⟨1,157,none⟩)])) w:=by kernel_rfl
theorem qwh (w:World):((ReflectliteType.abiMethod fun t=>(fun a:Nat=>Value.int IntKind.u8 (a:Int)) <$> Rtype.kind t) #[.pointer (some ⟨1,157,none⟩)]).run Tryz.prog w=.ok (.int .u8 22) w:=by kernel_rfl
theorem qwg (w:World):((ReflectliteType.abiMethod fun t=>(fun a:Nat=>Value.int IntKind.u8 (a:Int)) <$> Rtype.kind t) #[.pointer (some ⟨1,114,none⟩)]).run Tryz.prog w=.ok (.int .u8 25) w:=by kernel_rfl
theorem rlm (z:Sem Value) (f:TypeId->Addr->Nat->Nat->Sem Value) (v:Value):
  ReflectliteValue.method z f #[v]=(do match <- ReflectliteValue.parts v with | none=>z | some (t,a,fl)=>f t a fl (fl % 32)):=rfl
theorem que (a:Addr) (w:World):(ReflectliteValue.parts (.agg #[.pointer (some ⟨1,157,none⟩),.pointer (some a),.int .u64 150])).run Tryz.prog w=.ok (some (157,a,150)) w:=by kernel_rfl
theorem qvz (a p:Addr) (W:World) (ha:W.cell? a=some (.pointer (some p))):
  (ReflectliteValue.method (ReflectliteValue.valueError "reflectlite.Value.IsNil" 0) ReflectliteValue.isNil #[.agg #[.pointer (some ⟨1, 157, none⟩), .pointer (some a), .int .u64 150]]).run Tryz.prog W = .ok (.bool false) W := by
 rw [rlm];simp only [Sem.run_bind,que,Result.andThen];simp [ReflectliteValue.isNil,loadVar,isAgg,underlying,Tryz.underlying157,ha,Result.andThen]
theorem qwe (w:World):(ReflectliteType.method ReflectliteType.elem #[.agg #[.pointer (some ⟨1,157,none⟩)]]).run Tryz.prog w=.ok (.iface 211 (.agg #[.pointer (some ⟨1,114,none⟩)])) w:=by kernel_rfl
theorem qmy (w : World) : (ReflectliteType.relation "Implements" ReflectliteType.implements_ #[.agg #[.pointer (some ⟨1, 114, none⟩)], .iface 211 (.agg #[.pointer (some ⟨1, 73, none⟩)])]).run Tryz.prog w = .ok (.bool true) w := by kernel_rfl
theorem qva (v:Value) (w:World):(ReflectliteType.typeOf #[.iface 114 v]).run Tryz.prog w=.ok (.iface 211 (.agg #[.pointer (some ⟨1,114,none⟩)])) w:=by kernel_rfl
theorem qmk (w : World) : (ReflectliteType.relation "AssignableTo" ReflectliteType.assignableTo #[.agg #[.pointer (some ⟨1, 114, none⟩)], .iface 211 (.agg #[.pointer (some ⟨1, 114, none⟩)])]).run Tryz.prog w = .ok (.bool true) w := by kernel_rfl
theorem qt4 (x:Int) (w:World):(ReflectliteValue.unpack (.iface 114 (.agg #[.int .i64 x]))).run Tryz.prog w
  = .ok (.agg #[.pointer (some ⟨1,114,none⟩),.pointer (some ⟨w.heap.size,0,none⟩),.int .u64 153]) (w.alloc (.cells #[.int .i64 x] 114)):=by kernel_rfl
theorem quu (w:World):(Rtype.elem? 157).run Tryz.prog w=.ok (some 114) w:=by kernel_rfl
theorem mkE (p:Addr) (w:World):(ReflectliteValue.mk 114 p ReflectliteValue.flagAddr).run Tryz.prog w=.ok (.agg #[.pointer (some ⟨1,114,none⟩),.pointer (some p),.int .u64 409]) w:=by kernel_rfl
open Go.RowKit Go.Extern.Stop Go.Stop Go.Extern
theorem qvu (a p:Addr) (W:World) (ha:W.cell? a=some (.pointer (some p))):
  (ReflectliteValue.method (ReflectliteValue.valueError "reflectlite.Value.Elem" 0) ReflectliteValue.elem #[.agg #[.pointer (some ⟨1, 157, none⟩), .pointer (some a), .int .u64 150]]).run Tryz.prog W
   = .ok (.agg #[.pointer (some ⟨1,114,none⟩),.pointer (some p),.int .u64 409]) W:=by
 rw [rlm];simp only [Sem.run_bind,que,Result.andThen];simp [ReflectliteValue.elem,loadVar,isAgg,underlying,Tryz.underlying157,ha,Result.andThen,quu,mkE]
theorem rls (v x : Value) : ReflectliteValue.set #[v, x] = (do
  let (some (dst,a,fl),some (src,b,_)):=(<- ReflectliteValue.parts v,<- ReflectliteValue.parts x)
   | unsupported (.noEntry "extern/(internal/reflectlite.Value).Set.zeroValue")
  if fl / ReflectliteValue.flagAddr % 2 == 0 then unsupported (.noEntry "extern/(internal/reflectlite.Value).Set.unaddressable")
  let val <- loadVar src b
  if <- Rtype.directlyAssignable dst src then storeVar dst a val
  else if <- Rtype.implements dst src then
   if (<- Rtype.kind src) == 20 then
    match val with
    | .nilIface => unsupported (.noEntry "extern/reflectlite: a nil value of one interface type handed on as a value of another")
    | _=>storeVar dst a val
   else storeVar dst a (.iface src val)
  else panicString ("reflectlite.Set: value of type " ++ (<- Rtype.spelt src) ++ " is not assignable to type " ++ (<- Rtype.spelt dst))
  pure (.tuple #[])):=rfl
theorem qu5 (a:Addr) (w:World):(ReflectliteValue.parts (.agg #[.pointer (some ⟨1,114,none⟩),.pointer (some a),.int .u64 409])).run Tryz.prog w=.ok (some (114,a,409)) w:=by kernel_rfl
theorem qv3 (a:Addr) (w:World):(ReflectliteValue.parts (.agg #[.pointer (some ⟨1,114,none⟩),.pointer (some a),.int .u64 153])).run Tryz.prog w=.ok (some (114,a,153)) w:=by kernel_rfl
theorem quo (w:World):(Rtype.directlyAssignable 114 114).run Tryz.prog w=.ok true w:=by kernel_rfl
theorem setE (ta b:Addr) (x:Int) (old:Value) (W:World) (hb:W.cell? b=some (.int .i64 x)) (ht:W.cell? ta=some old) (hf:W.frozen? ta=false):
  (ReflectliteValue.set #[.agg #[.pointer (some ⟨1,114,none⟩),.pointer (some ta),.int .u64 409],.agg #[.pointer (some ⟨1,114,none⟩),.pointer (some b),.int .u64 153]]).run Tryz.prog W
   = .ok (.tuple #[]) (W.setCell ta (.int .i64 x)):=by
 rw [rls];simp only [Sem.run_bind,qu5,qv3,Result.andThen];simp [ReflectliteValue.flagAddr,loadVar,loadCells,loadCellsFrom,hb,Result.andThen,quo,storeVar,Value.cells,storeCells,Addr.add];rw [run_store Tryz.prog W ta _ _ (by rfl)];simp [ht,hf]
open Go.RowKit Go.Extern.Stop Go.Stop Go.Extern
theorem qvf (x:Int) (t:Addr) (old:Value) (w:World) (hg:w.cell? ⟨0,0,none⟩=some (.iface 211 (.agg #[.pointer (some ⟨1,73,none⟩)]))) (ht0:w.cell? t=some old) (hf0:w.frozen? t=false):
  Calls Tryz.prog 111 #[.iface 114 (.agg #[.int .i64 x]),.iface 157 (.pointer (some t))] w fun ev w'=>ev=.returned (.bool true)/\∃ o1 o2 o3 o4,w'=((((w.alloc o1).alloc o2).alloc o3).alloc o4).setCell t (.int .i64 x):=by
 have h6:=@run_callFunc_extern Tryz.prog 139 _ (fun args=>ReflectliteValue.unpack (args.getD 0 (.tuple #[]))) Tryz.func139 (by kernel_rfl) (by kernel_rfl) (by kernel_rfl) (by kernel_rfl);have h7 := @run_callFunc_extern Tryz.prog 140 _ (ReflectliteValue.methodAny (ReflectliteValue.valueError "reflectlite.Value.Type" 0) (fun t _ _ _ => ReflectliteType.toType t)) Tryz.func140 (by kernel_rfl) (by kernel_rfl) (by kernel_rfl) (by kernel_rfl)
 have h8 := @run_callFunc_extern Tryz.prog 141 _ (ReflectliteValue.method (ReflectliteValue.valueError "reflectlite.Value.IsNil" 0) ReflectliteValue.isNil) Tryz.func141 (by kernel_rfl) (by kernel_rfl) (by kernel_rfl) (by kernel_rfl)
 have h27:=@run_callFunc_extern Tryz.prog 172 _ (ReflectliteType.abiMethod fun t=>do pure (.int .u8 (<- Rtype.kind t))) Tryz.func172 (by kernel_rfl) (by kernel_rfl) (by kernel_rfl) (by kernel_rfl);have h37:=@run_callFunc_extern Tryz.prog 191 _ (ReflectliteType.method ReflectliteType.elem) Tryz.func191 (by kernel_rfl) (by kernel_rfl) (by kernel_rfl) (by kernel_rfl);have h38 := @run_callFunc_extern Tryz.prog 192 _ (ReflectliteType.relation "Implements" ReflectliteType.implements_) Tryz.func192 (by kernel_rfl) (by kernel_rfl) (by kernel_rfl) (by kernel_rfl)
 have h10:=@run_callFunc_extern Tryz.prog 152 _ ReflectliteType.typeOf Tryz.func152 (by kernel_rfl) (by kernel_rfl) (by kernel_rfl) (by kernel_rfl);have h35 := @run_callFunc_extern Tryz.prog 189 _ (ReflectliteType.relation "AssignableTo" ReflectliteType.assignableTo) Tryz.func189 (by kernel_rfl) (by kernel_rfl) (by kernel_rfl) (by kernel_rfl)
 have h11 := @run_callFunc_extern Tryz.prog 153 _ (ReflectliteValue.method (ReflectliteValue.valueError "reflectlite.Value.Elem" 0) ReflectliteValue.elem) Tryz.func153 (by kernel_rfl) (by kernel_rfl) (by kernel_rfl) (by kernel_rfl)
 have h12:=@run_callFunc_extern Tryz.prog 154 _ ReflectliteValue.set Tryz.func154 (by kernel_rfl) (by kernel_rfl) (by kernel_rfl) (by kernel_rfl);have tO:=qva;have a25:=qmk;have v25:=qt4;have f6:=qt5;have f7:=qwj;have k27:=qwh;have k25:=qwg;have e27:=qwe;have i25:=qmy;have n8:=qvz ⟨w.heap.size,0,none⟩ t ((w.alloc (.cells #[.pointer (some t)] 157)).alloc (.cells #[.pointer (some ⟨1,157,none⟩),.pointer (some ⟨w.heap.size,0,none⟩),.int .u64 150] 181)) (by simp)
 have hlt:0<w.heap.size:=by
  rcases Nat.eq_zero_or_pos w.heap.size with h0 | h
  ·simp [World.cell?,h0] at hg
  ·exact h
 have hg2:((w.alloc (.cells #[.pointer (some t)] 157)).alloc (.cells #[.pointer (some ⟨1,157,none⟩),.pointer (some ⟨w.heap.size,0,none⟩),.int .u64 150] 181)).cell? ⟨0,0,none⟩=some (.iface 211 (.agg #[.pointer (some ⟨1,73,none⟩)])):=by
  rw [World.cell?_alloc_lt _ _ ⟨0,0,none⟩ (by simp),World.cell?_alloc_lt _ _ ⟨0,0,none⟩ hlt];exact hg
 have htl:t.block<w.heap.size:=by
  rcases Nat.lt_or_ge t.block w.heap.size with h | h
  ·exact h
  ·simp [World.cell?,Array.getElem?_eq_none h] at ht0
 have el := qvu ⟨w.heap.size, 0, none⟩ t (((w.alloc (.cells #[.pointer (some t)] 157)).alloc (.cells #[.pointer (some ⟨1, 157, none⟩), .pointer (some ⟨w.heap.size, 0, none⟩), .int .u64 150] 181)).alloc (.cells #[.pointer (some ⟨1, 157, none⟩), .pointer (some ⟨w.heap.size, 0, none⟩), .int .u64 150] 181)) (by
  rw [World.cell?_alloc_lt _ _ _ (by simp;omega),World.cell?_alloc_lt _ _ _ (by simp),World.cell?_alloc_at _ _ _ _ rfl];rfl)
 have st:=setE t ⟨w.heap.size+1+1+1,0,none⟩ x old ((((w.alloc (.cells #[.pointer (some t)] 157)).alloc (.cells #[.pointer (some ⟨1,157,none⟩),.pointer (some ⟨w.heap.size,0,none⟩),.int .u64 150] 181)).alloc (.cells #[.pointer (some ⟨1,157,none⟩),.pointer (some ⟨w.heap.size,0,none⟩),.int .u64 150] 181)).alloc (.cells #[.int .i64 x] 114))
  (by rw [World.cell?_alloc_at _ _ _ _ (by simp)];rfl)
  (by rw [World.cell?_alloc_lt _ _ t (by simp;omega),World.cell?_alloc_lt _ _ t (by simp;omega),World.cell?_alloc_lt _ _ t (by simp;omega),World.cell?_alloc_lt _ _ t htl];exact ht0)
  (by rw [World.frozen?_alloc_old _ _ t (by simp;omega),World.frozen?_alloc_old _ _ t (by simp;omega),World.frozen?_alloc_old _ _ t (by simp;omega),World.frozen?_alloc_old _ _ t (Nat.ne_of_lt htl)];exact hf0)
 go_enter Tryz.func111,Tryz.ntmps111
 go_wp2;refine wp_loop_rounds 1 ?_;rw [rounds_succ];go_wp2;go_ret;exact ⟨rfl,_,_,_,_,rfl⟩
open Go.RowKit Go.Deep
theorem qjk (eh:Nat->E3) (kd pr:Int):∀ (n j q:Nat),(plN eh kd pr n)[j]? = some q->q<n/\hitB eh kd pr q=true/\cnt eh kd pr q=j
 | 0,j,q,h=>by simp [plN] at h
 | n+1,j,q,h=>by
  rcases zK (hitB eh kd pr n) with t | t
  ·rw [plN,if_pos t] at h
   by_cases hj:j<(plN eh kd pr n).length
   ·rw [List.getElem?_append_left hj] at h
    obtain ⟨h1,h2,h3⟩:=qjk eh kd pr n j q h;exact ⟨by omega,h2,h3⟩
   ·rw [List.getElem?_append_right (by omega)] at h
    have hj2:j - (plN eh kd pr n).length=0:=by
     by_cases e:j - (plN eh kd pr n).length=0
     ·exact e
     ·rw [List.getElem?_eq_none (by simp;omega)] at h
      cases h
    rw [hj2] at h;simp at h;subst h;refine ⟨by omega,t,?_⟩;unfold cnt;omega
  ·rw [plN,if_neg (by rw [t];decide)] at h
   obtain ⟨h1,h2,h3⟩:=qjk eh kd pr n j q h;exact ⟨by omega,h2,h3⟩
theorem qrk {eh:Nat->E3} {kd pr:Int} {len n:Nat} (h:n<cnt eh kd pr len):∃ q:Nat,nthV eh kd pr len n=q/\q<len/\hitB eh kd pr q=true/\cnt eh kd pr q=n:=by
 have hl:n<(plI eh kd pr len).length:=by rw [qeh];exact h
 obtain ⟨q,h1,h2,h3⟩:=qlh eh kd pr len n hl;obtain ⟨-,h4,h5⟩:=qjk eh kd pr len n q h3;refine ⟨q,?_,h2,h4,h5⟩;unfold nthV;rw [if_pos (by simp [belB];omega),Int.toNat_natCast];exact h1
theorem qrj {eh:Nat->E3} {kd pr:Int} {len n:Nat} (h:cnt eh kd pr len<=n):nthV eh kd pr len n = -1:=by
 unfold nthV;rw [if_neg];have hl:(plI eh kd pr len).length<=n:=by rw [qeh];exact h
 simp [belB];omega
structure Sy.Cut (y:Sy) (c:List Int):Prop where
 len:c.length=y.pn
 le:∀ p,p<y.pn->0<=zi c p/\zi c p<=(y.hL p:Int)
noncomputable def cutB (y:Sy) (c:List Int):Bool:=y.okB && qB (y.Cut c)
def cN (c:List Int) (p:Nat):Nat:=(zi c p).toNat
def sN (y:Sy) (c:Nat->Nat) (a b:Nat):Nat:=cnt (y.hH a) 2 b (c a)
def tN (y:Sy) (c:Nat->Nat) (a b:Nat):Nat:=cnt (y.hH b) 3 a (c b)
def Sy.Wh (y:Sy) (c:Nat->Nat):Prop:=∀ a,a<y.pn->∀ b,b<y.pn->tN y c a b<=sN y c a b
def ovN (y:Sy) (c:Nat->Nat) (a b:Nat):Int:=nthV (y.hH b) 3 a (c b) (sN y c a b:Nat)
theorem qv2 {y:Sy} {c:Nat->Nat} {a b:Nat} (h:tN y c a b<=sN y c a b):ovN y c a b = -1:=qrj h
theorem qrm {y:Sy} {c:Nat->Nat} {a b:Nat} (h:¬ tN y c a b<=sN y c a b):∃ k:Nat,ovN y c a b=k/\k<c b/\hitB (y.hH b) 3 a k=true/\cnt (y.hH b) 3 a k=sN y c a b:=qrk (by unfold tN at h;omega)
theorem qhm {y:Sy} {c:Nat->Nat} {a b:Nat}:ovN y c a b<0 ↔ tN y c a b<=sN y c a b:=by
 refine ⟨fun h=>?_,fun h=>by rw [qv2 h];decide⟩;by_cases hc:tN y c a b<=sN y c a b
 ·exact hc
 ·obtain ⟨k,e,-⟩:=qrm hc
  omega
noncomputable def whB (y:Sy) (c:List Int):Bool:=cutB y c && qB (y.Wh (cN c))
structure Sy.Cl (y:Sy) (c e:List Int):Prop where
 len:e.length=y.pn
 le:∀ p,p<y.pn->0<=zi e p/\zi e p<=zi c p
 gr:∀ d:Nat->Nat,(∀ p,p<y.pn->(d p:Int)<=zi c p)->y.Wh d->∀ p,p<y.pn->(d p:Int)<=zi e p
theorem Sy.Cl.start {y:Sy} {c:List Int} (h:y.Cut c):y.Cl c c:=⟨h.len,fun p hp=>⟨(h.le p hp).1,Int.le_refl _⟩,fun _ h _=>h⟩
theorem Sy.Cl.cut {y:Sy} {c e:List Int} (h:y.Cl c e) (hc:y.Cut c):y.Cut e:=⟨h.len,fun p hp=>⟨(h.le p hp).1,Int.le_trans (h.le p hp).2 (hc.le p hp).2⟩⟩
theorem qot {e:List Int} {b p:Nat} {k:Int} (hb:b<e.length):zi (e.set b k) p=if p=b then k else zi e p:=by
 by_cases h:p=b
 ·subst h
  rw [if_pos rfl,qi4 e p k hb]
 ·rw [if_neg h,qmu e p b k h]
theorem Sy.Cl.next {y:Sy} {c e:List Int} {a b:Nat} (h:y.Cl c e) (ha:a<y.pn) (hb:b<y.pn) (ho:0<=ovN y (cN e) a b):y.Cl c (e.set b (ovN y (cN e) a b))/\0<=ovN y (cN e) a b/\ovN y (cN e) a b<zi e b:=by
 have hn:¬ tN y (cN e) a b<=sN y (cN e) a b:=fun hc=>by
  have:=qhm.2 hc;omega
 obtain ⟨k,e1,e2,e3,e4⟩:=qrm hn;have eb:=(h.le b hb)
 have hkb:(k:Int)<zi e b:=by unfold cN at e2;omega
 refine ⟨⟨by rw [List.length_set];exact h.len,fun p hp=>?_,fun d hd hw p hp=>?_⟩,ho,by omega⟩
 ·rw [qot (by rw [h.len];exact hb)]
  by_cases ep:p=b
  ·subst ep
   rw [if_pos rfl];omega
  ·rw [if_neg ep]
   exact h.le p hp
 ·rw [qot (by rw [h.len];exact hb)]
  have h0:=h.gr d hd hw p hp;by_cases ep:p=b
  ·subst ep
   rw [if_pos rfl,e1];by_cases hc:(d p:Int)<=k
   ·exact hc
   ·exfalso
    have h1 : sN y d a p ≤ sN y (cN e) a p := qe6 _ _ _ (by
     have:=h.gr d hd hw a ha;unfold cN
     omega)
    have h2:cnt (y.hH p) 3 a (k+1)<=tN y d a p:=qe6 _ _ _ (by omega);rw [qfu e3,e4] at h2;have:=hw a ha p hb;omega
  ·rw [if_neg ep]
   exact h0
theorem Sy.Cl.same {y:Sy} {c e e':List Int} (h:y.Cl c e) (hw:y.Wh (cN e)) (h':y.Cl c e') (hw':y.Wh (cN e')):e=e':=by
 refine qsu (h.len.trans h'.len.symm) fun p hp=>?_;have hp':p<y.pn:=by rw [<- h.len];exact hp
 have h1:=h.gr (cN e') (fun q hq=>by have:=h'.le q hq;unfold cN;omega) hw' p hp';have h2:=h'.gr (cN e) (fun q hq=>by have:=h.le q hq;unfold cN;omega) hw p hp';have h3:=h.le p hp';have h4:=h'.le p hp';unfold cN at h1 h2;omega
open Classical in
noncomputable def clS (y:Sy) (c:List Int):List Int:=if h:cutB y c=true/\∃ e,y.Cl c e/\y.Wh (cN e) then h.2.choose else []
theorem qvi {y:Sy} {c:List Int} (h:cutB y c=false):clS y c=[]:=by
 unfold clS;rw [dif_neg];rw [h];simp
theorem qqe {y:Sy} {c e:List Int} (h:cutB y c=true) (h1:y.Cl c e) (h2:y.Wh (cN e)):clS y c=e:=by
 unfold clS;have hx:cutB y c=true/\∃ e,y.Cl c e/\y.Wh (cN e):=⟨h,e,h1,h2⟩
 rw [dif_pos hx];exact hx.2.choose_spec.1.same hx.2.choose_spec.2 h1 h2
theorem qcr {y:Sy} {c:List Int} (h:cutB y c=true):y.Ok/\y.Cut c:=by
 unfold cutB at h;simp only [Bool.and_eq_true] at h;exact ⟨Sy.ok_of h.1,qoh.1 h.2⟩
noncomputable def flS (y:Sy):List Int:=if y.okB=true then (List.range y.hn).map fun p=>(y.hL p:Int) else []
def flT (y:Sy) (k:Nat):List Int:=(List.range k).map fun p=>(y.hL p:Int)
theorem qsx (y:Sy) (k:Nat):flT y (k+1)=flT y k ++ [(y.hL k:Int)]:=by
 unfold flT;rw [List.range_succ,List.map_append];rfl
theorem qdq (y:Sy) (k:Nat):(flT y k).length=k:=by simp [flT]
open Go.ChangeShapes Go.WideShapes Go.ChangeAt Go.Sort
theorem Sl.all {w:World} {a0:Option Addr} {xs:List Int} (h:Sl w a0 xs) (hn:0<xs.length):∃ b off,a0=some ⟨b,off,none⟩/\b<w.heap.size/\∀ i,i<xs.length->w.cell? ⟨b,off+i,none⟩=some (.int .i64 (zi xs i)):=by
 rcases h with rfl | h
 ·simp at hn
 ·exact h
theorem RowS.all {w:World} {a0:Option Addr} {n:Nat} {f:Nat->Value} (h:RowS w a0 n f) (hn:0<n):∃ b off,a0=some ⟨b,off,none⟩/\b<w.heap.size/\∀ i,i<n->w.cell? ⟨b,off+i,none⟩=some (f i):=by
 rcases h with rfl | h
 ·omega
 ·exact h
theorem BoxC.belowB {w w':World} {b:Nat} {v0 v1 v2 v3:Value} {B:Nat} (h:BoxC w b v0 v1 v2 v3) (hb:Below B w w') (hB:b<B):BoxC w' b v0 v1 v2 v3:=by
 obtain ⟨h0,h1,h2,h3⟩:=h;exact ⟨(hb.cell (p:=⟨b,0,none⟩) hB).trans h0,(hb.cell (p:=⟨b,1,none⟩) hB).trans h1,(hb.cell (p:=⟨b,2,none⟩) hB).trans h2,(hb.cell (p:=⟨b,3,none⟩) hB).trans h3⟩
theorem Sy.Cut.nat {y:Sy} {c:List Int} (h:y.Cut c) {p:Nat} (hp:p<y.pn):zi c p=(cN c p:Nat):=by
 have:=h.le p hp;unfold cN;omega
theorem Sy.Cut.leN {y:Sy} {c:List Int} (h:y.Cut c) {p:Nat} (hp:p<y.pn):cN c p<=y.hL p:=by
 have:=h.le p hp;unfold cN;omega
