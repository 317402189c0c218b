import Derived.Test.YtchhijiibjijhaaGreatDoorYf29
namespace Go.Proofs.YtchhijiibjijhaaGreatDoor
set_option maxRecDepth 100000
set_option maxHeartbeats 4000000
open Go.ChangeShapes Go.WideShapes Go.ChangeAt Go.RowKit Go.Deep Go.Sort
theorem qse (m:Bool) (v:Int) (w:World):
  Calls Tryz.prog 222 #[itV m v] w fun e w'=>e=.returned (.bool (qco ⟨m,v⟩))/\Below w.heap.size w w':=by
 rcases zK m with rfl | rfl
 ·have HE:Hid (qco ⟨true,v⟩=(v == 0)):=by
   show qco ⟨true,v⟩=(v == 0)
   simp only [qco,Bool.not_true,Bool.false_or]
   by_cases e:v=0
   ·subst e
    rfl
   ·have:(v == 0)=false:=by simpa using e
    rw [this,Bool.and_false]
  go_enter Tryz.func222,Tryz.ntmps222
  go_wp2
  go_ret
  rw [HE.out]
  exact ⟨rfl,by go_grown⟩
 ·have HE:Hid (qco ⟨false,v⟩=inB v (-1000000000) 1000000000):=by
   show qco ⟨false,v⟩=inB v (-1000000000) 1000000000
   simp [qco,numB]
  go_enter Tryz.func222,Tryz.ntmps222
  go_wp2_with fail
  refine (isNum_any _ _).mono ?_
  rintro e w1 ⟨rfl,rfl⟩
  go_wp2
  go_ret
  rw [HE.out]
  exact ⟨rfl,by go_grown⟩
def qc1 (h:Nat->I2) (n:Nat):Bool:=(List.range n).all fun i=>qco (h i)
theorem qe0 {h:Nat->I2} {n:Nat}:qc1 h n=true ↔ ∀ i,i<n->qco (h i)=true:=by
 simp [qc1]
theorem qt3 {h:Nat->I2} {n k:Nat} (hk:k<n) (hf:qco (h k)=false):qc1 h n=false:=by
 rcases zK (qc1 h n) with t | t
 ·have:=qe0.1 t k hk
  rw [hf] at this
  cases this
 ·exact t
theorem qvb (a:Option Addr) (len cap:Nat) (h:Nat->I2) (w:World) (hlen:len<=1048576) (hc:ItL w a len h):
  Calls Tryz.prog 186 #[.slice a len cap] w fun e w'=>e=.returned (.bool (decide (len<=12) && qc1 h len))/\Below w.heap.size w w':=by
 have hl':(len:Int)<=1048576:=by omega
 have HC:Hid (ItL w a len h):=hc
 clear hc
 by_cases h12:len<=12
 case neg=>
  have h12':(12:Int)<(len:Int):=by omega
  have HE:Hid ((decide (len<=12) && qc1 h len)=false):=by
   show (decide (len<=12) && qc1 h len)=false
   simp [h12]
  go_enter Tryz.func186,Tryz.ntmps186
  go_wp2
  go_ret
  rw [HE.out]
  exact ⟨rfl,Below.refl _ _⟩
 have h12':¬ (12:Int)<(len:Int):=by omega
 have HE:Hid ((decide (len<=12) && qc1 h len)=qc1 h len):=by
  show (decide (len<=12) && qc1 h len)=qc1 h len
  simp [h12]
 clear h12
 go_enter Tryz.func186,Tryz.ntmps186
 go_wp2_with fail
 go_loopw [10] (fun i wr=>∃ k:Nat,k<=len/\i=.int .i64 k/\Below w.heap.size w wr/\Hid (∀ j,j<k->qco (h j)=true)) (fun i _=>len - (intOf i).toNat)
 case atStart=>exact ⟨0,Nat.zero_le _,rfl,Below.refl _ _,fun j hj=>by omega⟩
 case round=>
  obtain ⟨k,hk,rfl,hbw,HZ⟩:=hrel
  by_cases hlt:k<len
  ·have hlt':(k:Int)<(len:Int):=by omega
   obtain ⟨b,off,rfl,-,c0,c1⟩:=(HC.out.below hbw).at hlt
   go_wp2_with fail
   refine (qse _ _ _).mono ?_
   rintro e w1 ⟨rfl,b1⟩
   have B1:Hid (Below w.heap.size w w1):=hbw.trans (((zT wr _).trans (b1.mono (by simp))).mono hbw.size)
   clear b1
   rcases zK (qco (h k)) with t | t
   ·have HZ':Hid (∀ j,j<k+1->qco (h j)=true):=fun j hj=>by
     by_cases e:j=k
     ·subst e
      exact t
     ·exact HZ.out j (by omega)
    rw [show qco { m:=(h k).m,v:=(h k).v }=true from t]
    clear HZ t
    go_wp2
    go_roundw
    case rel=>exact ⟨k+1,by omega,by go_num,B1.out,HZ'.out⟩
    case measure=>simp [intOf];omega
   ·have HN:Hid (qc1 h len=false):=qt3 hlt t
    rw [show qco { m:=(h k).m,v:=(h k).v }=false from t]
    clear HZ t
    go_wp2
    go_ret
    rw [HE.out,HN.out]
    exact ⟨rfl,B1.out⟩
  ·have HN:Hid (qc1 h len=true):=qe0.2 fun j hj=>HZ.out j (by omega)
   clear HZ
   go_wp2
   go_ret
   rw [HE.out,HN.out]
   exact ⟨rfl,hbw⟩
open Go.RowKit Go.Extern.Stop Go.Stop Go.Extern
theorem qy0 (a p:Addr) (W:World) (ha:W.cell? a=some (.pointer (some p))):
  (ReflectliteValue.method (ReflectliteValue.valueError "reflectlite.Value.Elem" 0) ReflectliteValue.elem #[.agg #[.pointer (some ⟨1, 219, none⟩), .pointer (some a), .int .u64 150]]).run Tryz.prog W
   = .ok (.agg #[.pointer (some ⟨1,217,none⟩),.pointer (some p),.int .u64 409]) W:=by
 rw [rlm]
 simp only [Sem.run_bind,qxj,Result.andThen]
 simp [ReflectliteValue.elem,loadVar,isAgg,underlying,Tryz.underlying219,ha,Result.andThen,qx2,mkE]
theorem rls (v x : Value) : ReflectliteValue.set #[v, x] = (do
  let (some (dst,a,fl),some (src,b,_)):=(<- ReflectliteValue.parts v,<- ReflectliteValue.parts x)
   | unsupported (.noEntry "extern/(internal/reflectlite.Value).Set.zeroValue")
  if fl / ReflectliteValue.flagAddr % 2 == 0 then unsupported (.noEntry "extern/(internal/reflectlite.Value).Set.unaddressable")
  let val <- loadVar src b
  if <- Rtype.directlyAssignable dst src then storeVar dst a val
  else if <- Rtype.implements dst src then
   if (<- Rtype.kind src) == 20 then
    match val with
    | .nilIface => unsupported (.noEntry "extern/reflectlite: a nil value of one interface type handed on as a value of another")
    | _=>storeVar dst a val
   else storeVar dst a (.iface src val)
  else panicString ("reflectlite.Set: value of type " ++ (<- Rtype.spelt src) ++ " is not assignable to type " ++ (<- Rtype.spelt dst))
  pure (.tuple #[])):=rfl
theorem qx9 (a:Addr) (w:World):(ReflectliteValue.parts (.agg #[.pointer (some ⟨1,217,none⟩),.pointer (some a),.int .u64 409])).run Tryz.prog w=.ok (some (217,a,409)) w:=by kernel_rfl
theorem qy7 (a:Addr) (w:World):(ReflectliteValue.parts (.agg #[.pointer (some ⟨1,217,none⟩),.pointer (some a),.int .u64 153])).run Tryz.prog w=.ok (some (217,a,153)) w:=by kernel_rfl
theorem qxx (w:World):(Rtype.directlyAssignable 217 217).run Tryz.prog w=.ok true w:=by kernel_rfl
theorem setE (ta b:Addr) (x:Int) (old:Value) (W:World) (hb:W.cell? b=some (.int .i64 x)) (ht:W.cell? ta=some old) (hf:W.frozen? ta=false):
  (ReflectliteValue.set #[.agg #[.pointer (some ⟨1,217,none⟩),.pointer (some ta),.int .u64 409],.agg #[.pointer (some ⟨1,217,none⟩),.pointer (some b),.int .u64 153]]).run Tryz.prog W
   = .ok (.tuple #[]) (W.setCell ta (.int .i64 x)):=by
 rw [rls]
 simp only [Sem.run_bind,qx9,qy7,Result.andThen]
 simp [ReflectliteValue.flagAddr,loadVar,loadCells,loadCellsFrom,hb,Result.andThen,qxx,storeVar,Value.cells,storeCells,Addr.add]
 rw [run_store Tryz.prog W ta _ _ (by rfl)]
 simp [ht,hf]
open Go.RowKit Go.Extern.Stop Go.Stop Go.Extern
theorem qyi (x:Int) (t:Addr) (old:Value) (w:World) (hg:w.cell? ⟨0,0,none⟩=some (.iface 298 (.agg #[.pointer (some ⟨1,213,none⟩)]))) (ht0:w.cell? t=some old) (hf0:w.frozen? t=false):
  Calls Tryz.prog 180 #[.iface 217 (.agg #[.int .i64 x]),.iface 219 (.pointer (some t))] w fun ev w'=>ev=.returned (.bool true)/\∃ o1 o2 o3 o4,w'=((((w.alloc o1).alloc o2).alloc o3).alloc o4).setCell t (.int .i64 x):=by
 have h6:=@run_callFunc_extern Tryz.prog 217 _ (fun args=>ReflectliteValue.unpack (args.getD 0 (.tuple #[]))) Tryz.func217 (by kernel_rfl) (by kernel_rfl) (by kernel_rfl) (by kernel_rfl)
 have h7 := @run_callFunc_extern Tryz.prog 218 _ (ReflectliteValue.methodAny (ReflectliteValue.valueError "reflectlite.Value.Type" 0) (fun t _ _ _ => ReflectliteType.toType t)) Tryz.func218 (by kernel_rfl) (by kernel_rfl) (by kernel_rfl) (by kernel_rfl)
 have h8 := @run_callFunc_extern Tryz.prog 219 _ (ReflectliteValue.method (ReflectliteValue.valueError "reflectlite.Value.IsNil" 0) ReflectliteValue.isNil) Tryz.func219 (by kernel_rfl) (by kernel_rfl) (by kernel_rfl) (by kernel_rfl)
 have h27:=@run_callFunc_extern Tryz.prog 270 _ (ReflectliteType.abiMethod fun t=>do pure (.int .u8 (<- Rtype.kind t))) Tryz.func270 (by kernel_rfl) (by kernel_rfl) (by kernel_rfl) (by kernel_rfl)
 have h37:=@run_callFunc_extern Tryz.prog 290 _ (ReflectliteType.method ReflectliteType.elem) Tryz.func290 (by kernel_rfl) (by kernel_rfl) (by kernel_rfl) (by kernel_rfl)
 have h38 := @run_callFunc_extern Tryz.prog 291 _ (ReflectliteType.relation "Implements" ReflectliteType.implements_) Tryz.func291 (by kernel_rfl) (by kernel_rfl) (by kernel_rfl) (by kernel_rfl)
 have h10:=@run_callFunc_extern Tryz.prog 248 _ ReflectliteType.typeOf Tryz.func248 (by kernel_rfl) (by kernel_rfl) (by kernel_rfl) (by kernel_rfl)
 have h35 := @run_callFunc_extern Tryz.prog 288 _ (ReflectliteType.relation "AssignableTo" ReflectliteType.assignableTo) Tryz.func288 (by kernel_rfl) (by kernel_rfl) (by kernel_rfl) (by kernel_rfl)
 have h11 := @run_callFunc_extern Tryz.prog 249 _ (ReflectliteValue.method (ReflectliteValue.valueError "reflectlite.Value.Elem" 0) ReflectliteValue.elem) Tryz.func249 (by kernel_rfl) (by kernel_rfl) (by kernel_rfl) (by kernel_rfl)
 have h12:=@run_callFunc_extern Tryz.prog 250 _ ReflectliteValue.set Tryz.func250 (by kernel_rfl) (by kernel_rfl) (by kernel_rfl) (by kernel_rfl)
 have tO:=qye
 have a25:=qoy
 have v25:=qw1
 have f6:=qw2
 have f7:=qzh
 have k27:=qzg
 have k25:=qzf
 have e27:=qze
 have i25:=qpi
 have n8:=qy5 ⟨w.heap.size,0,none⟩ t ((w.alloc (.cells #[.pointer (some t)] 219)).alloc (.cells #[.pointer (some ⟨1,219,none⟩),.pointer (some ⟨w.heap.size,0,none⟩),.int .u64 150] 260)) (by simp)
 have hlt:0<w.heap.size:=by
  rcases Nat.eq_zero_or_pos w.heap.size with h0 | h
  ·simp [World.cell?,h0] at hg
  ·exact h
 have hg2:((w.alloc (.cells #[.pointer (some t)] 219)).alloc (.cells #[.pointer (some ⟨1,219,none⟩),.pointer (some ⟨w.heap.size,0,none⟩),.int .u64 150] 260)).cell? ⟨0,0,none⟩=some (.iface 298 (.agg #[.pointer (some ⟨1,213,none⟩)])):=by
  rw [World.cell?_alloc_lt _ _ ⟨0,0,none⟩ (by simp),World.cell?_alloc_lt _ _ ⟨0,0,none⟩ hlt];exact hg
 have htl:t.block<w.heap.size:=by
  rcases Nat.lt_or_ge t.block w.heap.size with h | h
  ·exact h
  ·simp [World.cell?,Array.getElem?_eq_none h] at ht0
 have el := qy0 ⟨w.heap.size, 0, none⟩ t (((w.alloc (.cells #[.pointer (some t)] 219)).alloc (.cells #[.pointer (some ⟨1, 219, none⟩), .pointer (some ⟨w.heap.size, 0, none⟩), .int .u64 150] 260)).alloc (.cells #[.pointer (some ⟨1, 219, none⟩), .pointer (some ⟨w.heap.size, 0, none⟩), .int .u64 150] 260)) (by
  rw [World.cell?_alloc_lt _ _ _ (by simp;omega),World.cell?_alloc_lt _ _ _ (by simp),World.cell?_alloc_at _ _ _ _ rfl];rfl)
 have st:=setE t ⟨w.heap.size+1+1+1,0,none⟩ x old ((((w.alloc (.cells #[.pointer (some t)] 219)).alloc (.cells #[.pointer (some ⟨1,219,none⟩),.pointer (some ⟨w.heap.size,0,none⟩),.int .u64 150] 260)).alloc (.cells #[.pointer (some ⟨1,219,none⟩),.pointer (some ⟨w.heap.size,0,none⟩),.int .u64 150] 260)).alloc (.cells #[.int .i64 x] 217))
  (by rw [World.cell?_alloc_at _ _ _ _ (by simp)];rfl)
  (by rw [World.cell?_alloc_lt _ _ t (by simp;omega),World.cell?_alloc_lt _ _ t (by simp;omega),World.cell?_alloc_lt _ _ t (by simp;omega),World.cell?_alloc_lt _ _ t htl];exact ht0)
  (by rw [World.frozen?_alloc_old _ _ t (by simp;omega),World.frozen?_alloc_old _ _ t (by simp;omega),World.frozen?_alloc_old _ _ t (by simp;omega),World.frozen?_alloc_old _ _ t (Nat.ne_of_lt htl)];exact hf0)
 go_enter Tryz.func180,Tryz.ntmps180
 go_wp2
 refine wp_loop_rounds 1 ?_
 rw [rounds_succ]
 go_wp2
 go_ret
 exact ⟨rfl,_,_,_,_,rfl⟩
structure LWay (h:Nat->I2) (len:Nat) (sent:List Int) (t:Nat):Prop where
 it:∀ i,i<len->qco (h i)=true
 le:len<=12
 ln:sent.length=t+(numL h len).length
 eq:∀ j,j<(numL h len).length->zi (numL h len) j=zi sent (t+j)
theorem qfe {xs ys:List Int} {j:Nat} (h:j<xs.length):zi (xs ++ ys) j=zi xs j:=by
 simp [zi,List.getD_eq_getElem?_getD,List.getElem?_append_left h]
theorem qev {xs ys:List Int} {j:Nat}:zi (xs ++ ys) (xs.length+j)=zi ys j:=by
 simp [zi,List.getD_eq_getElem?_getD,List.getElem?_append_right]
theorem LWay.iff {h:Nat->I2} {len:Nat} {took sent:List Int}:(LWay h len sent took.length/\∀ i,i<took.length->zi took i=zi sent i) ↔ WayP h len took sent:=by
 refine ⟨fun ⟨a,b⟩=>⟨a.it,a.le,?_⟩,fun a=>⟨⟨a.it,a.le,by rw [<- a.eq,List.length_append],fun j _=>by rw [<- a.eq,qev]⟩,fun i hi=>by rw [<- a.eq,qfe hi]⟩⟩
 refine qe1 (by rw [List.length_append,a.ln]) fun j hj=>?_
 by_cases hl:j<took.length
 ·rw [qfe hl,b j hl]
 ·rw [List.length_append] at hj
  have e:j=took.length+(j - took.length):=by omega
  rw [e,qev]
  exact a.eq _ (by omega)
theorem quf (a:Option Addr) (len cap:Nat) (h:Nat->I2) (sa:Option Addr) (sc:Nat) (sent:List Int) (t:Nat) (w:World) (hlen:len<=1048576) (hc:ItL w a len h) (hs:sent.length<=1048576) (hS:Sl w sa sent) (ht:t<=1048576):
  Calls Tryz.prog 123 #[.slice a len cap,.slice sa sent.length sc,.int .i64 t] w fun e w'=>e=.returned (.bool (pB (LWay h len sent t)))/\Below w.heap.size w w':=by
 have hl':(len:Int)<=1048576:=by omega
 have hs':(sent.length:Int)<=1048576:=by omega
 have ht':(t:Int)<=1048576:=by omega
 have HC:Hid (ItL w a len h):=hc
 have HS:Hid (Sl w sa sent):=hS
 clear hc hS
 go_enter Tryz.func123,Tryz.ntmps123
 go_wp2_with fail
 go_loopw [7] (fun i wr=>∃ k:Nat,k<=len/\i=.int .i64 k/\Below w.heap.size w wr/\Hid (∀ j,j<k->qco (h j)=true)) (fun i _=>len - (intOf i).toNat)
 case atStart=>exact ⟨0,Nat.zero_le _,rfl,Below.refl _ _,fun j hj=>by omega⟩
 case round=>
  obtain ⟨k,hk,rfl,hbw,HZ⟩:=hrel
  by_cases hlt:k<len
  ·have hlt':(k:Int)<(len:Int):=by omega
   obtain ⟨b,off,rfl,-,c0,c1⟩:=(HC.out.below hbw).at hlt
   have hN:∀ {x:Bool},inB (h k).v (-1000000000) 1000000000=x->numB (h k).v=x:=fun e=>e
   rcases zK (inB (h k).v (-1000000000) 1000000000) with t1 | t1
   ·have go_on:qco (h k)=true->Hid (∀ j,j<k+1->qco (h j)=true):=fun t j hj=>by
     by_cases e:j=k
     ·subst e
      exact t
     ·exact HZ.out j (by omega)
    have stop:qco (h k)=false->Hid (pB (LWay h len sent t)=false):=fun t=>qe3 fun x=>by
     have:=x.it k hlt
     rw [t] at this
     cases this
    rcases zK (h k).m with t2 | t2
    ·rcases zK ((h k).v != 0) with t3 | t3
     ·have HN := stop (by
       have:((h k).v == 0)=false:=by simpa using t3
       simp [qco,t2,this])
      rw [t2] at c0
      clear go_on stop HZ hN
      go_wp2_with fail
      refine (l1Num_any _ _).mono ?_
      rintro e w1 ⟨rfl,rfl⟩
      rw [t1]
      go_wp2
      go_ret
      rw [HN.out]
      exact ⟨rfl,hbw⟩
     ·have HZ' := go_on (by
       have:((h k).v == 0)=true:=by simpa using t3
       simp [qco,hN t1,this])
      rw [t2] at c0
      clear go_on stop HZ hN
      go_wp2_with fail
      refine (l1Num_any _ _).mono ?_
      rintro e w1 ⟨rfl,rfl⟩
      rw [t1]
      go_wp2
      go_roundw
      case rel=>exact ⟨k+1,by omega,by go_num,hbw,HZ'.out⟩
      case measure=>simp [intOf];omega
    ·have HZ':=go_on (by simp [qco,hN t1,t2])
     rw [t2] at c0
     clear go_on stop HZ hN
     go_wp2_with fail
     refine (l1Num_any _ _).mono ?_
     rintro e w1 ⟨rfl,rfl⟩
     rw [t1]
     go_wp2
     go_roundw
     case rel=>exact ⟨k+1,by omega,by go_num,hbw,HZ'.out⟩
     case measure=>simp [intOf];omega
   ·have HN:Hid (pB (LWay h len sent t)=false):=qe3 fun x=>by
     have:=x.it k hlt
     simp [qco,hN t1] at this
    clear HZ hN
    go_wp2_with fail
    refine (l1Num_any _ _).mono ?_
    rintro e w1 ⟨rfl,rfl⟩
    rw [t1]
    go_wp2
    go_ret
    rw [HN.out]
    exact ⟨rfl,hbw⟩
  ·have HZ':Hid (∀ j,j<len->qco (h j)=true):=fun j hj=>HZ.out j (by omega)
   have hkl:k=len:=by omega
   subst hkl
   clear HZ hlt hk
   go_wp2_with fail
   refine (qls a k cap h wr hlen (HC.out.below hbw)).mono ?_
   rintro e w1 ⟨v,rfl,o1,b1⟩
   obtain ⟨na,nc,rfl,s1⟩:=o1.form
   have B1:Hid (Below w.heap.size w w1):=hbw.trans (b1.mono hbw.size)
   have S1:Hid (Sl w1 na (numL h k)):=s1
   have hnl:=qg0 h k
   have hnl':((numL h k).length:Int)<=1048576:=by omega
   clear o1 b1 s1 hbw
   generalize hNU:numL h k=nu at *
   have HNU:Hid (numL h k=nu):=hNU
   clear hNU hnl
   by_cases h12:k<=12
   case neg=>
    have h12':(12:Int)<(k:Int):=by omega
    have HN:Hid (pB (LWay h k sent t)=false):=qe3 fun x=>h12 x.le
    go_wp2
    go_ret
    rw [HN.out]
    exact ⟨rfl,B1.out⟩
   have h12':¬ (12:Int)<(k:Int):=by omega
   rcases zK (((sent.length:Int) - (t:Int)) != (nu.length:Int)) with t5 | t5
   ·have HN:Hid (pB (LWay h k sent t)=false):=qe3 fun x=>by
     have:=x.ln
     rw [HNU.out] at this
     rw [this] at t5
     simp at t5
     omega
    go_wp2
    go_ret
    rw [HN.out]
    exact ⟨rfl,B1.out⟩
   have HLN:Hid (sent.length=t+nu.length):=by
    show sent.length=t+nu.length
    simp at t5
    omega
   go_wp2_with fail
   go_loopw [9] (fun i wr=>∃ j:Nat,j<=nu.length/\i=.int .i64 j/\Below w1.heap.size w1 wr/\Hid (∀ i,i<j->zi nu i=zi sent (t+i))) (fun i _=>nu.length - (intOf i).toNat)
   case atStart=>exact ⟨0,Nat.zero_le _,rfl,Below.refl _ _,fun j hj=>by omega⟩
   case round=>
    obtain ⟨j,hj,rfl,hbw,HZ⟩:=hrel
    have hw:Below w.heap.size w wr:=B1.out.trans (hbw.mono B1.out.size)
    by_cases hlt:j<nu.length
    ·have hlt2:t+j<sent.length:=by have:=HLN.out;omega
     obtain ⟨b,off,rfl,hbl,ck⟩:=(S1.out.below hbw).at hlt
     obtain ⟨b',off',rfl,hbl',ck'⟩:=(HS.out.below hw).at hlt2
     have hlt':(j:Int)<(nu.length:Int):=by omega
     have hlt2':(t:Int)+(j:Int)<(sent.length:Int):=by omega
     have hq:((t:Int)+(j:Int)).toNat=t+j:=by omega
     clear hlt2
     rcases zK (zi nu j != zi sent (t+j)) with t6 | t6
     ·have HN:Hid (pB (LWay h k sent t)=false):=qe3 fun x=>by
       have:=x.eq j (by rw [HNU.out];exact hlt)
       rw [HNU.out] at this
       rw [this] at t6
       simp at t6
      go_wp2_with fail
      go_quiet (fail)
      go_wp2
      go_ret
      rw [HN.out]
      exact ⟨rfl,yE hw _⟩
     ·have HZ2:Hid (∀ i,i<j+1->zi nu i=zi sent (t+i)):=fun i hi=>by
       by_cases e:i=j
       ·subst e
        simpa using t6
       ·exact HZ.out i (by omega)
      clear HZ
      go_wp2_with fail
      go_quiet (fail)
      go_wp2
      go_roundw
      case rel=>exact ⟨j+1,by omega,by go_num,yE hbw _,HZ2.out⟩
      case measure=>simp [intOf];omega
    ·have HN : Hid (pB (LWay h k sent t) = true) := quo ⟨HZ'.out, h12, by rw [HNU.out]; exact HLN.out, fun i hi => by
      rw [HNU.out] at hi ⊢
      exact HZ.out i (by omega)⟩
     clear HZ
     go_wp2
     go_ret
     rw [HN.out]
     exact ⟨rfl,hw⟩
def mkS (x:Int) (s:S4):S4:=⟨x,qdx (x+1) s.rs.length,qdx (x+1+s.rs.length) s.os.length,x+1+s.rs.length+s.os.length⟩
theorem qr8 {f:Nat->List Value} {n i:Nat} (hl:∀ j,j<n->(f j).length=4) (_hi:i<n) {a0 d0 b c:Value} (hf:f i=[a0,b,c,d0]) (a d:Value):
  flat (fun j=>if j=i then [a,b,c,d] else f j) n=((flat f n).set (i*4) a).set (i*4+3) d:=by
 have hl':∀ j,j<n->((fun j=>if j=i then [a,b,c,d] else f j) j).length=4:=fun j hj=>by
  by_cases e:j=i
  ·simp [e]
  ·simp [e,hl j hj]
 have n1:=qbl hl
 have n2:=qbl hl'
 apply List.ext_getElem?
 intro q
 by_cases hq:q<n*4
 ·have hk:q / 4<n:=by omega
  have hr:q % 4<4:=by omega
  have e0:q=q / 4*4+q % 4:=by omega
  have e1:=qbq hl' hk hr
  have e2:=qbq hl hk hr
  rw [<- e0] at e1 e2
  rw [e1]
  simp only [List.getElem?_set,List.length_set,n1]
  by_cases ei:q / 4=i
  ·simp only [if_pos ei]
   rw [ei,hf] at e2
   have hrK:q % 4=0\/q % 4=1\/q % 4=2\/q % 4=3:=by omega
   rcases hrK with h | h | h | h <;> rw [h] at e2 ⊢
   ·rw [if_neg (by omega),if_pos (by omega),if_pos (by omega)]
    simp
   ·rw [if_neg (by omega),if_neg (by omega),e2]
    simp
   ·rw [if_neg (by omega),if_neg (by omega),e2]
    simp
   ·rw [if_pos (by omega),if_pos (by omega)]
    simp
  ·simp only [if_neg ei]
   rw [if_neg (by omega),if_neg (by omega),e2]
 ·rw [List.getElem?_eq_none (by omega),List.getElem?_eq_none (by simp only [List.length_set];omega)]
theorem LS.mark {w:World} {P:Nat->Prop} {n:Nat} {vs:Nat->Value} {S:Nat->S4} {g cap j:Nat} (o:LS w P (.slice (some ⟨g,0,none⟩) n cap) n vs S) (hj:j<n) {p code:Int} {ra oa:Option Addr} {rn rc on oc:Nat} (hv:vs j=stV p ra rn rc oa on oc code) (X C:Int) {w1 w2:World} {rs' os':List Int}
  (g1:(w.setCell ⟨g,j*4,none⟩ (.int .i64 X)).grownBy w1 (Value.slice ra rn rc).ownBlock) (g2:w1.grownBy w2 (Value.slice oa on oc).ownBlock) (r1:OwnI w2 0 (.slice ra rn rc) rs') (r2:OwnI w2 0 (.slice oa on oc) os'):
  LS (w2.setCell ⟨g,j*4+3,none⟩ (.int .i64 C)) P (.slice (some ⟨g,0,none⟩) n cap) n (fun t=>if t=j then stV X ra rn rc oa on oc C else vs t) (fun t=>if t=j then ⟨X,rs',os',C⟩ else S t)/\qaa P w (w2.setCell ⟨g,j*4+3,none⟩ (.int .i64 C)):=by
 have hg:g<w.heap.size:=(o.row.lt g rfl).2
 have hRb:∀ k,(Value.slice ra rn rc).ownBlock=some k->qae (vs j) k:=fun k hk=>by rw [hv];exact (qak _ _ _ _ _).2 (.inl hk)
 have hOb:∀ k,(Value.slice oa on oc).ownBlock=some k->qae (vs j) k:=fun k hk=>by rw [hv];exact (qak _ _ _ _ _).2 (.inr hk)
 have ng:¬ qae (vs j) g:=fun h=>o.ra j hj g h rfl
 have z1:w.heap.size<=w1.heap.size:=by have:=g1.size;simpa using this
 have hkeep:∀ k,k<w.heap.size->k≠g->¬ qae (vs j) k->w2.heap[k]? = w.heap[k]?:=fun k hk hne hnb=>(g2.block k (by omega) fun e=>hnb (hOb k e.symm)).trans ((g1.block k (by simpa using hk) fun e=>hnb (hRb k e.symm)).trans (zO _ _ _ _ hne))
 have hgk:w2.heap[g]? = (w.setCell ⟨g,j*4,none⟩ (.int .i64 X)).heap[g]?:=(g2.block g (by omega) fun e=>ng (hOb g e.symm)).trans (g1.block g (by simpa using hg) fun e=>ng (hRb g e.symm))
 have lts:∀ t,t<n->∀ k,qae (vs t) k->k<w.heap.size:=fun t ht k hk=>((o.own t ht).lt hk).2
 have hl:∀ t,t<n->(cellsL (vs t)).length=4:=fun t ht=>(o.own t ht).cellsL.1
 have hhb:∀ k,qae (stV X ra rn rc oa on oc C) k->qae (vs j) k:=fun k hk=>by
  rcases (qak _ _ _ _ _).1 hk with h | h
  ·exact hRb k h
  ·exact hOb k h
 refine ⟨⟨?_,fun t ht=>?_,o.rb,fun t ht k hk=>?_,fun t ht k hk=>?_,fun a b ha hb hab k hk=>?_⟩,?_⟩
 ·have e:flat (fun t=>cellsL (if t=j then stV X ra rn rc oa on oc C else vs t)) n=flat (fun t=>if t=j then [.int .i64 X,.slice ra rn rc,.slice oa on oc,.int .i64 C] else cellsL (vs t)) n:=qa9 fun t _=>by
   by_cases et:t=j
   ·rw [if_pos et,if_pos et];rfl
   ·rw [if_neg et,if_neg et]
  rw [e,qr8 hl hj (by rw [hv];rfl)]
  exact (World.ownsRow.stored (qas (World.ownsRow.stored o.row (j*4) (.int .i64 X)).1 fun k hk=>by cases hk;exact hgk) _ _).1
 ·by_cases et:t=j
  ·subst et
   simp only [if_true]
   obtain ⟨vr,vo,ee,-,-,hap⟩:=o.own t hj
   rw [hv] at ee
   simp only [stV,Value.agg.injEq,Array.mk.injEq,List.cons.injEq,and_true] at ee
   obtain ⟨-,rfl,rfl,-⟩:=ee
   refine ⟨.slice ra rn rc,.slice oa on oc,rfl,r1.blk fun k hk=>zO _ _ _ _ fun (e:k=g)=>ng (by rw [<- e];exact hRb k hk),r2.blk fun k hk=>zO _ _ _ _ fun (e:k=g)=>ng (by rw [<- e];exact hOb k hk),hap⟩
  ·simp only [if_neg et]
   exact (o.own t ht).blk fun k hk=>(zO _ _ _ _ fun e=>o.ra t ht k hk (by rw [e];rfl)).trans (hkeep k (lts t ht k hk) (fun e=>o.ra t ht k hk (by rw [e];rfl)) fun h=>o.oa t j ht hj et k hk h)
 ·by_cases et:t=j
  ·simp only [if_pos et] at hk
   exact o.ob j hj k (hhb k hk)
  ·simp only [if_neg et] at hk
   exact o.ob t ht k hk
 ·by_cases et:t=j
  ·simp only [if_pos et] at hk
   exact o.ra j hj k (hhb k hk)
  ·simp only [if_neg et] at hk
   exact o.ra t ht k hk
 ·intro hbk
  by_cases ea:a=j
  ·have eb:b≠j:=fun e=>hab (by omega)
   simp only [if_pos ea] at hk
   simp only [if_neg eb] at hbk
   exact o.oa j b hj hb (Ne.symm eb) k (hhb k hk) hbk
  ·simp only [if_neg ea] at hk
   by_cases eb:b=j
   ·simp only [if_pos eb] at hbk
    exact o.oa a j ha hj ea k hk (hhb k hbk)
   ·simp only [if_neg eb] at hbk
    exact o.oa a b ha hb hab k hk hbk
 ·have t1:qaa P w (w.setCell ⟨g,j*4,none⟩ (.int .i64 X)):=qaa.of_set _ (o.rb g rfl) _
  have t2:qaa P (w.setCell ⟨g,j*4,none⟩ (.int .i64 X)) w1:=qaa.of_grown g1 fun k e=>o.ob j hj k (hRb k e)
  have t3:qaa P w1 w2:=qaa.of_grown g2 fun k e=>o.ob j hj k (hOb k e)
  exact ((t1.trans t2).trans t3).trans (qaa.of_set _ (o.rb g rfl) _)
theorem LS.cast {w:World} {P:Nat->Prop} {v:Value} {n:Nat} {vs:Nat->Value} {S S':Nat->S4} (o:LS w P v n vs S) (h:∀ i,i<n->S i=S' i):LS w P v n vs S':=
 ⟨o.row,fun i hi=>by rw [<- h i hi];exact o.own i hi,o.rb,o.ob,o.ra,o.oa⟩
theorem qjx (v:Value) (P:Nat->Prop) (n:Nat) (vs:Nat->Value) (S:Nat->S4) (k:Int) (w:World) (hn:n<=1048576) (hl:sumL (lenS S) n<=1048576) (k0:0<=k) (k1:k<=50000000) (o:LS w P v n vs S):
  Calls Tryz.prog 58 #[v,.int .i64 k] w fun e w'=>e=.returned (.int .i64 (k+(2*n+sumL (lenS S) n:Nat)))/\(∃ us,LS w' P v n us (fun i=>mkS (k+(2*i+sumL (lenS S) i:Nat)) (S i)))/\qaa P w w':=by
 have hl':(n:Int)<=1048576:=by omega
 obtain ⟨a1,c1,rfl⟩:=zU o.row
 have O:Hid (LS w P (.slice a1 n c1) n vs S):=o
 have HL:Hid (sumL (lenS S) n<=1048576):=hl
 clear o hl
 go_enter Tryz.func58,Tryz.ntmps58
 go_wp2_with fail
 go_loopw [1,5] (fun q i wr=>∃ j:Nat,j<=n/\i=.int .i64 j/\q=.int .i64 (k+(2*j+sumL (lenS S) j:Nat))/\Hid ((∃ us,LS wr P (.slice a1 n c1) n us (fun t=>if t<j then mkS (k+(2*t+sumL (lenS S) t:Nat)) (S t) else S t))/\qaa P w wr)) (fun _ i _=>n - (intOf i).toNat)
 case atStart=>exact ⟨0,Nat.zero_le _,rfl,by simp [sumL],⟨vs,O.out.cast fun i _=>by rw [if_neg (by omega)]⟩,qaa.refl _ _⟩
 case round=>
  obtain ⟨j,hj,rfl,rfl,HT⟩:=hrel
  by_cases hlt:j<n
  ·have hlt':(j:Int)<(n:Int):=by omega
   obtain ⟨⟨us,ol⟩,tw⟩:=HT.out
   obtain ⟨D,m1,e1,Pg,hD,cel,fz⟩:=ol.cell hlt
   obtain rfl:=qa4 e1
   rw [if_neg (by omega)] at cel
   obtain ⟨ra,rc,oa,oc,ev,c0,c1',c2,c3⟩:=cel
   have how:=ol.own j hlt
   rw [if_neg (by omega),ev] at how
   obtain ⟨w1r,w1o,wap⟩:=how.parts
   have OL:Hid (LS wr P (.slice (some ⟨D,0,none⟩) n c1) n us (fun t=>if t<j then mkS (k+(2*t+sumL (lenS S) t:Nat)) (S t) else S t)):=ol
   have TW:Hid (qaa P w wr):=tw
   have OR:Hid (OwnI wr 0 (.slice ra (S j).rs.length rc) (S j).rs):=w1r
   have OO:Hid (OwnI wr 0 (.slice oa (S j).os.length oc) (S j).os):=w1o
   have AP:Hid (∀ b,(Value.slice ra (S j).rs.length rc).ownBlock=some b->(Value.slice oa (S j).os.length oc).ownBlock≠some b):=wap
   have HV:Hid (us j=stV (S j).p ra (S j).rs.length rc oa (S j).os.length oc (S j).c):=ev
   have nR:some D≠(Value.slice ra (S j).rs.length rc).ownBlock:=fun e=>ol.ra j hlt D (by rw [ev];exact (qak _ _ _ _ _).2 (.inl e.symm)) rfl
   have nO:some D≠(Value.slice oa (S j).os.length oc).ownBlock:=fun e=>ol.ra j hlt D (by rw [ev];exact (qak _ _ _ _ _).2 (.inr e.symm)) rfl
   have hsl:=qby (lenS S) hlt
   have hS:=HL.out
   have hlk:lenS S j=(S j).rs.length+(S j).os.length:=rfl
   have r1:(S j).rs.length<=1048576:=by omega
   have r2:(S j).os.length<=1048576:=by omega
   have HX:Hid (mkS (k+(2*j+sumL (lenS S) j:Nat)) (S j)=mkS (k+(2*j+sumL (lenS S) j:Nat)) (S j)):=rfl
   generalize hx:k+(2*j+sumL (lenS S) j:Nat)=X at *
   have x0:0<=X:=by omega
   have x1:X<=60000000:=by omega
   have HN:Hid (X+1+(S j).rs.length+(S j).os.length+1=k+(2*(j+1)+sumL (lenS S) (j+1):Nat)):=by
    show X+1+(S j).rs.length+(S j).os.length+1=k+(2*(j+1)+sumL (lenS S) (j+1):Nat)
    simp only [sumL]
    omega
   have HJ:Hid (k+(2*j+sumL (lenS S) j:Nat)=X):=hx
   have rI:((S j).rs.length:Int)<=1048576:=by omega
   have oI:((S j).os.length:Int)<=1048576:=by omega
   clear ev wap w1r w1o how hsl hS hlk hx ol tw e1 HT HX
   go_wp2_with fail
   refine (qce ra rc 0 (S j).rs _ _ r1 (by omega) (by omega) (OR.out.blk fun b hb=>zO _ _ _ _ fun e=>nR (by rw [hb,e]))).mono ?_
   rintro e w1 ⟨rfl,q1,g1⟩
   obtain ⟨d1,f1⟩:=qhw g1 (b:=D) (by simpa using hD) nR
   have OO1:Hid (OwnI w1 0 (.slice oa (S j).os.length oc) (S j).os):=qf9 (OO.out.blk fun b hb=>zO _ _ _ _ fun e=>nO (by rw [hb,e])) g1 AP.out
   have hD1:D<w1.heap.size:=by have:=g1.size;simp at this;omega
   have G1:Hid (World.grownBy (wr.setCell ⟨D,j*4,none⟩ (.int .i64 X)) w1 (Value.slice ra (S j).rs.length rc).ownBlock):=g1
   have R1:Hid (OwnI w1 0 (.slice ra (S j).rs.length rc) (qdx (X+1) (S j).rs.length)):=q1
   clear g1 q1
   go_wp2_with fail
   refine (qce oa oc 0 (S j).os _ _ r2 (by omega) (by omega) OO1.out).mono ?_
   rintro e w2 ⟨rfl,q2,g2⟩
   obtain ⟨d2,f2⟩:=qhw g2 (b:=D) hD1 nO
   have R2:OwnI w2 0 (.slice ra (S j).rs.length rc) (qdx (X+1) (S j).rs.length):=qf9 R1.out g2 fun b hb e=>AP.out b e hb
   have HM:=OL.out.mark hlt HV.out X (X+1+(S j).rs.length+(S j).os.length) G1.out g2 R2 q2
   have HT2:Hid ((∃ us,LS (w2.setCell ⟨D,j*4+3,none⟩ (.int .i64 (X+1+(S j).rs.length+(S j).os.length))) P (.slice (some ⟨D,0,none⟩) n c1) n us (fun t=>if t<j+1 then mkS (k+(2*t+sumL (lenS S) t:Nat)) (S t) else S t))/\qaa P w (w2.setCell ⟨D,j*4+3,none⟩ (.int .i64 (X+1+(S j).rs.length+(S j).os.length)))):=by
    refine ⟨⟨_,HM.1.cast fun t ht=>?_⟩,TW.out.trans HM.2⟩
    by_cases et:t=j
    ·rw [if_pos et,if_pos (by omega),et,HJ.out]
     rfl
    ·rw [if_neg et]
     by_cases e2:t<j
     ·rw [if_pos e2,if_pos (by omega)]
     ·rw [if_neg e2,if_neg (by omega)]
   clear g2 G1 OO1 OO OR AP HV R1 R2 HM q2 OL TW
   go_wp2
   go_roundw
   case rel=>exact ⟨j+1,by omega,by go_num,by rw [HN.out],HT2.out⟩
   case measure=>simp [intOf];omega
  ·have hkl:j=n:=by omega
   subst hkl
   have HT1:Hid ((∃ us,LS wr P (.slice a1 j c1) j us (fun i=>mkS (k+(2*i+sumL (lenS S) i:Nat)) (S i)))/\qaa P w wr):=by
    obtain ⟨⟨us,ol⟩,tw⟩:=HT.out
    exact ⟨⟨us,ol.cast fun t ht=>by rw [if_pos ht]⟩,tw⟩
   clear HT
   go_wp2
   go_ret
   exact ⟨rfl,HT1.out⟩
theorem qjq (v:Value) (P:Nat->Prop) (n:Nat) (us:Nat->Value) (S:Nat->S4) (k:Int) (w:World) (hn:n<=1048576) (hl:sumL (lenS S) n<=1048576) (k0:0<=k) (k1:k<=50000000) (o:LS w P v n us (fun i=>mkS (k+(2*i+sumL (lenS S) i:Nat)) (S i))):
  Calls Tryz.prog 62 #[v,.int .i64 k] w fun e w'=>e=.returned (.int .i64 (k+(2*n+sumL (lenS S) n:Nat)))/\Below w.heap.size w w':=by
 have hl':(n:Int)<=1048576:=by omega
 obtain ⟨a1,c1,rfl⟩:=zU o.row
 have O:Hid (LS w P (.slice a1 n c1) n us (fun i=>mkS (k+(2*i+sumL (lenS S) i:Nat)) (S i))):=o
 have HL:Hid (sumL (lenS S) n<=1048576):=hl
 clear o hl
 go_enter Tryz.func62,Tryz.ntmps62
 go_wp2_with fail
 go_loopw [1,5] (fun q i wr=>∃ j:Nat,j<=n/\i=.int .i64 j/\q=.int .i64 (k+(2*j+sumL (lenS S) j:Nat))/\Below w.heap.size w wr) (fun _ i _=>n - (intOf i).toNat)
 case atStart=>exact ⟨0,Nat.zero_le _,rfl,by simp [sumL],Below.refl _ _⟩
 case round=>
  obtain ⟨j,hj,rfl,rfl,hbw⟩:=hrel
  by_cases hlt:j<n
  ·have hlt':(j:Int)<(n:Int):=by omega
   have Q:=O.out.below hbw
   obtain ⟨D,m1,e1,-,hD,⟨ra,rc,oa,oc,ev,c0,c1',c2,c3⟩,-⟩:=Q.cell hlt
   obtain rfl:=qa4 e1
   have how:=Q.own j hlt
   rw [ev] at how
   have hs1:=how.parts.1.slOf
   have hs2:=how.parts.2.1.slOf
   simp only [mkS,qc0] at c0 c1' c2 c3 hs1 hs2
   have hsl:=qby (lenS S) hlt
   have hS:=HL.out
   have hlk:lenS S j=(S j).rs.length+(S j).os.length:=rfl
   have r1:(S j).rs.length<=1048576:=by omega
   have r2:(S j).os.length<=1048576:=by omega
   generalize hx:k+(2*j+sumL (lenS S) j:Nat)=X at *
   have x0:0<=X:=by omega
   have x1:X<=60000000:=by omega
   have HN:Hid (X+1+(S j).rs.length+(S j).os.length+1=k+(2*(j+1)+sumL (lenS S) (j+1):Nat)):=by
    show X+1+(S j).rs.length+(S j).os.length+1=k+(2*(j+1)+sumL (lenS S) (j+1):Nat)
    simp only [sumL]
    omega
   have SA:Hid (Sl wr ra (qdx (X+1) (S j).rs.length)/\Sl wr oa (qdx (X+1+(S j).rs.length) (S j).os.length)):=⟨hs1,hs2⟩
   have rI:((S j).rs.length:Int)<=1048576:=by omega
   have oI:((S j).os.length:Int)<=1048576:=by omega
   have n1:¬ (X+1+((S j).rs.length:Int)<0):=by omega
   have n2:¬ (X+1+((S j).rs.length:Int)+((S j).os.length:Int)<0):=by omega
   clear hs1 hs2 how Q ev hsl hS hlk hx e1
   go_wp2_with fail
   refine (qcx ra rc (S j).rs.length (X+1) wr r1 (by omega) (by omega) SA.out.1).mono ?_
   rintro e w1 ⟨rfl,hw1⟩
   rw [hw1]
   clear hw1 w1
   go_wp2_with fail
   refine (qcx oa oc (S j).os.length (X+1+(S j).rs.length) wr r2 (by omega) (by omega) SA.out.2).mono ?_
   rintro e w1 ⟨rfl,hw1⟩
   rw [hw1]
   clear hw1 w1
   go_wp2
   go_roundw
   case rel=>exact ⟨j+1,by omega,by go_num,by rw [HN.out],hbw⟩
   case measure=>simp [intOf];omega
  ·have hkl:j=n:=by omega
   subst hkl
   go_wp2
   go_ret
   exact ⟨rfl,hbw⟩
structure Sy.Sums (y:Sy):Prop where
 p:y.pn<=1048576/\sumL y.pL y.pn<=1048576
 s:y.sn<=1048576/\sumL (lenS y.sS) y.sn<=1048576
 w:y.wn<=1048576/\sumL y.wL y.wn<=1048576
 h:y.hn<=1048576/\sumL y.hL y.hn<=1048576
def mkZ2 (y:Sy) (k:Int):Int:=k+5*(sumL y.pL y.pn:Nat)
def mkZ3 (y:Sy) (k:Int):Int:=mkZ2 y k+(2*y.sn+sumL (lenS y.sS) y.sn:Nat)
def mkZ4 (y:Sy) (k:Int):Int:=mkZ3 y k+2*(sumL y.wL y.wn:Nat)
def mkZ5 (y:Sy) (k:Int):Int:=mkZ4 y k+3*(sumL y.hL y.hn:Nat)
def mkY (y:Sy) (k:Int):Sy:=⟨y.pn,y.pL,fun i=>mkI (k+5*(sumL y.pL i:Nat)),y.sn,fun i=>mkS (mkZ2 y k+(2*i+sumL (lenS y.sS) i:Nat)) (y.sS i),y.wn,y.wL,fun i=>mkT (mkZ3 y k+2*(sumL y.wL i:Nat)),y.hn,y.hL,fun i=>mkEv (mkZ4 y k+3*(sumL y.hL i:Nat))⟩
theorem qni {y:Sy} (h:y.Sums):(0<=mkZ2 y 1/\mkZ2 y 1<=6000000)/\(0<=mkZ3 y 1/\mkZ3 y 1<=12000000)/\(0<=mkZ4 y 1/\mkZ4 y 1<=18000000)/\(0<=mkZ5 y 1/\mkZ5 y 1<=24000000):=by
 have h1:=h.p.2
 have h2:=h.s
 have h3:=h.w.2
 have h4:=h.h.2
 simp only [mkZ5,mkZ4,mkZ3,mkZ2]
 omega
theorem qcs (y:Sy) (B:Nat) (v:Value) (w:World) (hS:y.Sums) (o:qag true w B (mkY y 1) v):
  Calls Tryz.prog 19 #[v,.int .i64 1] w fun e w'=>e=.returned (.int .i64 (mkZ5 y 1))/\Below w.heap.size w w':=by
 obtain ⟨c,vp,vs,vw,vh,up,us,uw,uh,rfl,o⟩:=o
 obtain ⟨a1,c1,rfl⟩:=zU o.p.row
 obtain ⟨a2,c2,rfl⟩:=zU o.s.row
 obtain ⟨a3,c3,rfl⟩:=zU o.t.row
 obtain ⟨a4,c4,rfl⟩:=zU o.h.row
 have HS:Hid y.Sums:=hS
 have O:Hid (LI true w (Cl B c 1) (.slice a1 y.pn c1) y.pn up y.pL (mkY y 1).pH/\LS w (Cl B c 2) (.slice a2 y.sn c2) y.sn us (mkY y 1).sS/\LT true w (Cl B c 3) (.slice a3 y.wn c3) y.wn uw y.wL (mkY y 1).wH/\LE true w (Cl B c 4) (.slice a4 y.hn c4) y.hn uh y.hL (mkY y 1).hH):=⟨o.p,o.s,o.t,o.h⟩
 have BA:Hid (Below w.heap.size w (w.alloc (oQ4 a1 y.pn c1 a2 y.sn c2 a3 y.wn c3 a4 y.hn c4))):=zQ _ _
 have NA:Hid (BoxC (w.alloc (oQ4 a1 y.pn c1 a2 y.sn c2 a3 y.wn c3 a4 y.hn c4)) w.heap.size (.slice a1 y.pn c1) (.slice a2 y.sn c2) (.slice a3 y.wn c3) (.slice a4 y.hn c4)):=BoxC.new w _ _ _ _ _
 have hz:=qni hS
 have HZ:Hid ((0<=mkZ2 y 1/\mkZ2 y 1<=6000000)/\(0<=mkZ3 y 1/\mkZ3 y 1<=12000000)/\(0<=mkZ4 y 1/\mkZ4 y 1<=18000000)/\(0<=mkZ5 y 1/\mkZ5 y 1<=24000000)):=hz
 have z2:¬ mkZ2 y 1<0:=by omega
 have z3:¬ mkZ3 y 1<0:=by omega
 have z4:¬ mkZ4 y 1<0:=by omega
 have z5:¬ mkZ5 y 1<0:=by omega
 clear o hS hz
 change Calls Tryz.prog 19 #[sysV a1 y.pn c1 a2 y.sn c2 a3 y.wn c3 a4 y.hn c4,.int .i64 1] w _
 go_enter Tryz.func19,Tryz.ntmps19
 go_wp2_with fail
 generalize w.alloc (oQ4 a1 y.pn c1 a2 y.sn c2 a3 y.wn c3 a4 y.hn c4)=wA at *
 refine (qk2 _ _ y.pn up y.pL 1 wA HS.out.p.1 HS.out.p.2 (by omega) (by omega) (O.out.1.below BA.out)).mono ?_
 rintro e w1 ⟨rfl,b1⟩
 have F1:Hid (Below w.heap.size w w1/\BoxC w1 w.heap.size (.slice a1 y.pn c1) (.slice a2 y.sn c2) (.slice a3 y.wn c3) (.slice a4 y.hn c4)):=⟨BA.out.trans (b1.mono BA.out.size),NA.out.below b1⟩
 rw [show (1:Int)+5*(sumL y.pL y.pn:Nat)=mkZ2 y 1 from rfl]
 clear b1 BA NA
 obtain ⟨-,p0,p1,p2,p3⟩:=F1.out
 go_wp2_with fail
 clear p0 p1 p2 p3
 refine (qjq _ _ y.sn us y.sS (mkZ2 y 1) w1 HS.out.s.1 HS.out.s.2 HZ.out.1.1 (by have:=HZ.out;omega) (O.out.2.1.below F1.out.1)).mono ?_
 rintro e w2 ⟨rfl,b2⟩
 have F2:Hid (Below w.heap.size w w2/\BoxC w2 w.heap.size (.slice a1 y.pn c1) (.slice a2 y.sn c2) (.slice a3 y.wn c3) (.slice a4 y.hn c4)):=⟨F1.out.1.trans (b2.mono F1.out.1.size),F1.out.2.below b2⟩
 rw [show mkZ2 y 1+(2*y.sn+sumL (lenS y.sS) y.sn:Nat)=mkZ3 y 1 from rfl]
 clear b2 F1
 obtain ⟨-,p0,p1,p2,p3⟩:=F2.out
 go_wp2_with fail
 clear p0 p1 p2 p3
 refine (qjp _ _ y.wn uw y.wL (mkZ3 y 1) w2 HS.out.w.1 HS.out.w.2 HZ.out.2.1.1 (by have:=HZ.out;omega) (O.out.2.2.1.below F2.out.1)).mono ?_
 rintro e w3 ⟨rfl,b3⟩
 have F3:Hid (Below w.heap.size w w3/\BoxC w3 w.heap.size (.slice a1 y.pn c1) (.slice a2 y.sn c2) (.slice a3 y.wn c3) (.slice a4 y.hn c4)):=⟨F2.out.1.trans (b3.mono F2.out.1.size),F2.out.2.below b3⟩
 rw [show mkZ3 y 1+2*(sumL y.wL y.wn:Nat)=mkZ4 y 1 from rfl]
 clear b3 F2
 obtain ⟨-,p0,p1,p2,p3⟩:=F3.out
 go_wp2_with fail
 clear p0 p1 p2 p3
 refine (qit _ _ y.hn uh y.hL (mkZ4 y 1) w3 HS.out.h.1 HS.out.h.2 HZ.out.2.2.1.1 (by have:=HZ.out;omega) (O.out.2.2.2.below F3.out.1)).mono ?_
 rintro e w4 ⟨rfl,b4⟩
 have F4:Hid (Below w.heap.size w w4):=F3.out.1.trans (b4.mono F3.out.1.size)
 rw [show mkZ4 y 1+3*(sumL y.hL y.hn:Nat)=mkZ5 y 1 from rfl]
 clear b4 F3
 go_wp2
 go_ret
 exact ⟨rfl,F4.out⟩
