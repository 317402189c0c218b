import Derived.Test.YtmnajpgicdomcaaGreatDoorRl18
namespace Go.Proofs.YtmnajpgicdomcaaGreatDoor
set_option maxRecDepth 100000
set_option maxHeartbeats 4000000
open Go.RowKit Go.Extern.Stop Go.Stop Go.Extern
theorem qwc (a p:Addr) (W:World) (ha:W.cell? a=some (.pointer (some p))):
  (ReflectliteValue.method (ReflectliteValue.valueError "reflectlite.Value.Elem" 0) ReflectliteValue.elem #[.agg #[.pointer (some ⟨1, 132, none⟩), .pointer (some a), .int .u64 150]]).run Tryz.prog W
   = .ok (.agg #[.pointer (some ⟨1,130,none⟩),.pointer (some p),.int .u64 409]) W:=by
 rw [rlm];simp only [Sem.run_bind,quv,Result.andThen];simp [ReflectliteValue.elem,loadVar,isAgg,underlying,Tryz.underlying132,ha,Result.andThen,qve,mkE]
theorem rls (v x : Value) : ReflectliteValue.set #[v, x] = (do
  let (some (dst,a,fl),some (src,b,_)):=(<- ReflectliteValue.parts v,<- ReflectliteValue.parts x)
   | unsupported (.noEntry "extern/(internal/reflectlite.Value).Set.zeroValue")
  if fl / ReflectliteValue.flagAddr % 2 == 0 then unsupported (.noEntry "extern/(internal/reflectlite.Value).Set.unaddressable")
  let val <- loadVar src b
  if <- Rtype.directlyAssignable dst src then storeVar dst a val
  else if <- Rtype.implements dst src then
   if (<- Rtype.kind src) == 20 then
    match val with
    | .nilIface => unsupported (.noEntry "extern/reflectlite: a nil value of one interface type handed on as a value of another")
    | _=>storeVar dst a val
   else storeVar dst a (.iface src val)
  else panicString ("reflectlite.Set: value of type " ++ (<- Rtype.spelt src) ++ " is not assignable to type " ++ (<- Rtype.spelt dst))
  pure (.tuple #[])):=rfl
theorem qvm (a:Addr) (w:World):(ReflectliteValue.parts (.agg #[.pointer (some ⟨1,130,none⟩),.pointer (some a),.int .u64 409])).run Tryz.prog w=.ok (some (130,a,409)) w:=by kernel_rfl
theorem qwh (a:Addr) (w:World):(ReflectliteValue.parts (.agg #[.pointer (some ⟨1,130,none⟩),.pointer (some a),.int .u64 153])).run Tryz.prog w=.ok (some (130,a,153)) w:=by kernel_rfl
theorem qu8 (w:World):(Rtype.directlyAssignable 130 130).run Tryz.prog w=.ok true w:=by kernel_rfl
theorem setE (ta b:Addr) (x:Int) (old:Value) (W:World) (hb:W.cell? b=some (.int .i64 x)) (ht:W.cell? ta=some old) (hf:W.frozen? ta=false):
  (ReflectliteValue.set #[.agg #[.pointer (some ⟨1,130,none⟩),.pointer (some ta),.int .u64 409],.agg #[.pointer (some ⟨1,130,none⟩),.pointer (some b),.int .u64 153]]).run Tryz.prog W
   = .ok (.tuple #[]) (W.setCell ta (.int .i64 x)):=by
 rw [rls];simp only [Sem.run_bind,qvm,qwh,Result.andThen];simp [ReflectliteValue.flagAddr,loadVar,loadCells,loadCellsFrom,hb,Result.andThen,qu8,storeVar,Value.cells,storeCells,Addr.add];rw [run_store Tryz.prog W ta _ _ (by rfl)];simp [ht,hf]
open Go.RowKit Go.Extern.Stop Go.Stop Go.Extern
theorem qvv (x:Int) (t:Addr) (old:Value) (w:World) (hg:w.cell? ⟨0,0,none⟩=some (.iface 181 (.agg #[.pointer (some ⟨1,126,none⟩)]))) (ht0:w.cell? t=some old) (hf0:w.frozen? t=false):
  Calls Tryz.prog 107 #[.iface 130 (.agg #[.int .i64 x]),.iface 132 (.pointer (some t))] w fun ev w'=>ev=.returned (.bool true)/\∃ o1 o2 o3 o4,w'=((((w.alloc o1).alloc o2).alloc o3).alloc o4).setCell t (.int .i64 x):=by
 have h6:=@run_callFunc_extern Tryz.prog 125 _ (fun args=>ReflectliteValue.unpack (args.getD 0 (.tuple #[]))) Tryz.func125 (by kernel_rfl) (by kernel_rfl) (by kernel_rfl) (by kernel_rfl);have h7 := @run_callFunc_extern Tryz.prog 126 _ (ReflectliteValue.methodAny (ReflectliteValue.valueError "reflectlite.Value.Type" 0) (fun t _ _ _ => ReflectliteType.toType t)) Tryz.func126 (by kernel_rfl) (by kernel_rfl) (by kernel_rfl) (by kernel_rfl)
 have h8 := @run_callFunc_extern Tryz.prog 127 _ (ReflectliteValue.method (ReflectliteValue.valueError "reflectlite.Value.IsNil" 0) ReflectliteValue.isNil) Tryz.func127 (by kernel_rfl) (by kernel_rfl) (by kernel_rfl) (by kernel_rfl)
 have h27:=@run_callFunc_extern Tryz.prog 179 _ (ReflectliteType.abiMethod fun t=>do pure (.int .u8 (<- Rtype.kind t))) Tryz.func179 (by kernel_rfl) (by kernel_rfl) (by kernel_rfl) (by kernel_rfl);have h37:=@run_callFunc_extern Tryz.prog 197 _ (ReflectliteType.method ReflectliteType.elem) Tryz.func197 (by kernel_rfl) (by kernel_rfl) (by kernel_rfl) (by kernel_rfl);have h38 := @run_callFunc_extern Tryz.prog 198 _ (ReflectliteType.relation "Implements" ReflectliteType.implements_) Tryz.func198 (by kernel_rfl) (by kernel_rfl) (by kernel_rfl) (by kernel_rfl)
 have h10:=@run_callFunc_extern Tryz.prog 136 _ ReflectliteType.typeOf Tryz.func136 (by kernel_rfl) (by kernel_rfl) (by kernel_rfl) (by kernel_rfl);have h35 := @run_callFunc_extern Tryz.prog 195 _ (ReflectliteType.relation "AssignableTo" ReflectliteType.assignableTo) Tryz.func195 (by kernel_rfl) (by kernel_rfl) (by kernel_rfl) (by kernel_rfl)
 have h11 := @run_callFunc_extern Tryz.prog 137 _ (ReflectliteValue.method (ReflectliteValue.valueError "reflectlite.Value.Elem" 0) ReflectliteValue.elem) Tryz.func137 (by kernel_rfl) (by kernel_rfl) (by kernel_rfl) (by kernel_rfl)
 have h12:=@run_callFunc_extern Tryz.prog 138 _ ReflectliteValue.set Tryz.func138 (by kernel_rfl) (by kernel_rfl) (by kernel_rfl) (by kernel_rfl);have tO:=qvq;have a25:=qml;have v25:=quj;have f6:=quk;have f7:=qww;have k27:=qwu;have k25:=qwt;have e27:=qwr;have i25:=qmy;have n8:=qwf ⟨w.heap.size,0,none⟩ t ((w.alloc (.cells #[.pointer (some t)] 132)).alloc (.cells #[.pointer (some ⟨1,132,none⟩),.pointer (some ⟨w.heap.size,0,none⟩),.int .u64 150] 154)) (by simp)
 have hlt:0<w.heap.size:=by
  rcases Nat.eq_zero_or_pos w.heap.size with h0 | h
  ·simp [World.cell?,h0] at hg
  ·exact h
 have hg2:((w.alloc (.cells #[.pointer (some t)] 132)).alloc (.cells #[.pointer (some ⟨1,132,none⟩),.pointer (some ⟨w.heap.size,0,none⟩),.int .u64 150] 154)).cell? ⟨0,0,none⟩=some (.iface 181 (.agg #[.pointer (some ⟨1,126,none⟩)])):=by
  rw [World.cell?_alloc_lt _ _ ⟨0,0,none⟩ (by simp),World.cell?_alloc_lt _ _ ⟨0,0,none⟩ hlt];exact hg
 have htl:t.block<w.heap.size:=by
  rcases Nat.lt_or_ge t.block w.heap.size with h | h
  ·exact h
  ·simp [World.cell?,Array.getElem?_eq_none h] at ht0
 have el := qwc ⟨w.heap.size, 0, none⟩ t (((w.alloc (.cells #[.pointer (some t)] 132)).alloc (.cells #[.pointer (some ⟨1, 132, none⟩), .pointer (some ⟨w.heap.size, 0, none⟩), .int .u64 150] 154)).alloc (.cells #[.pointer (some ⟨1, 132, none⟩), .pointer (some ⟨w.heap.size, 0, none⟩), .int .u64 150] 154)) (by
  rw [World.cell?_alloc_lt _ _ _ (by simp;omega),World.cell?_alloc_lt _ _ _ (by simp),World.cell?_alloc_at _ _ _ _ rfl];rfl)
 have st:=setE t ⟨w.heap.size+1+1+1,0,none⟩ x old ((((w.alloc (.cells #[.pointer (some t)] 132)).alloc (.cells #[.pointer (some ⟨1,132,none⟩),.pointer (some ⟨w.heap.size,0,none⟩),.int .u64 150] 154)).alloc (.cells #[.pointer (some ⟨1,132,none⟩),.pointer (some ⟨w.heap.size,0,none⟩),.int .u64 150] 154)).alloc (.cells #[.int .i64 x] 130))
  (by rw [World.cell?_alloc_at _ _ _ _ (by simp)];rfl)
  (by rw [World.cell?_alloc_lt _ _ t (by simp;omega),World.cell?_alloc_lt _ _ t (by simp;omega),World.cell?_alloc_lt _ _ t (by simp;omega),World.cell?_alloc_lt _ _ t htl];exact ht0)
  (by rw [World.frozen?_alloc_old _ _ t (by simp;omega),World.frozen?_alloc_old _ _ t (by simp;omega),World.frozen?_alloc_old _ _ t (by simp;omega),World.frozen?_alloc_old _ _ t (Nat.ne_of_lt htl)];exact hf0)
 go_enter Tryz.func107,Tryz.ntmps107
 go_wp2;refine wp_loop_rounds 1 ?_;rw [rounds_succ];go_wp2;go_ret;exact ⟨rfl,_,_,_,_,rfl⟩
open Go.RowKit
open Go.Deep
theorem EvAt.put {w:World} {g n:Nat} {E:Nat->E3} (h:EvAt w g 0 n E) (t:Nat) (z:Int):∃ E',EvAt (w.setCell ⟨g,t,none⟩ (.int .i64 z)) g 0 n E':=by
 have key:∀ (o:Nat) (x:Int),w.cell? ⟨g,o,none⟩=some (.int .i64 x)->(w.setCell ⟨g,t,none⟩ (.int .i64 z)).cell? ⟨g,o,none⟩=some (.int .i64 (if o=t then z else x)):=by
  intro o x hx;by_cases e:o=t
  ·subst e
   rw [if_pos rfl];exact World.cell?_setCell_same _ _ _ hx
  ·rw [if_neg e]
   exact (World.cell?_setCell_other _ _ _ _ fun e'=>e (by injection e' with _ e2;exact e2.symm)).trans hx
 refine ⟨fun i=>⟨if 0+i*3=t then z else (E i).k,if 0+i*3+1=t then z else (E i).q,if 0+i*3+2=t then z else (E i).v⟩,fun i hi=>?_⟩;obtain ⟨h0,h1,h2⟩:=h i hi;exact ⟨key _ _ h0,key _ _ h1,key _ _ h2⟩
def qhb (E:Nat->E3):Nat->List Value
 | 0=>[]
 | n+1=>qhb E n ++ [.int .i64 (E n).k,.int .i64 (E n).q,.int .i64 (E n).v]
theorem qd8 (E:Nat->E3):∀ n,(qhb E n).length=n*3
 | 0=>rfl
 | n+1=>by
  rw [qhb,List.length_append,qd8 E n];simp;omega
theorem qn6 (E:Nat->E3):∀ n i,i<n->(qhb E n)[i*3]? = some (.int .i64 (E i).k)/\(qhb E n)[i*3+1]? = some (.int .i64 (E i).q)/\(qhb E n)[i*3+2]? = some (.int .i64 (E i).v)
 | 0,i,hi=>by omega
 | n+1,i,hi=>by
  have hl:=qd8 E n;by_cases e:i=n
  ·subst e
   rw [qhb,List.getElem?_append_right (by omega),List.getElem?_append_right (by omega),List.getElem?_append_right (by omega),hl];simp
  ·obtain ⟨h0,h1,h2⟩:=qn6 E n i (by omega)
   rw [qhb,List.getElem?_append_left (by omega),List.getElem?_append_left (by omega),List.getElem?_append_left (by omega)];exact ⟨h0,h1,h2⟩
theorem EvAt.cut {w:World} {g k j:Nat} {E:Nat->E3} (h:EvAt w g 0 k E) (hj:j<k):EvAt (w.setCells g (j*3) (qhb (fun i=>E (j+1+i)) (k - (j+1)))) g 0 (j+(k - (j+1))) (fun i=>if i<j then E i else E (i+1)):=by
 intro i hi;have hl:=qd8 (fun i=>E (j+1+i)) (k - (j+1));by_cases e:i<j
 ·have hout:∀ t,t<j*3->(w.setCells g (j*3) (qhb (fun i=>E (j+1+i)) (k - (j+1)))).cell? ⟨g,t,none⟩=w.cell? ⟨g,t,none⟩:=fun t ht=>World.cell?_setCells_out g _ _ _ _ fun _ _=>.inl ht
  obtain ⟨h0,h1,h2⟩:=h i (by omega);simp only [if_pos e];exact ⟨(hout _ (by omega)).trans h0,(hout _ (by omega)).trans h1,(hout _ (by omega)).trans h2⟩
 ·simp only [if_neg e]
  have hall:∀ t,t<(qhb (fun i=>E (j+1+i)) (k - (j+1))).length->(w.cell? ⟨g,j*3+t,none⟩).isSome=true:=by
   intro t ht;rw [hl] at ht;obtain ⟨h0,h1,h2⟩:=h (j+t / 3) (by omega);have he:t=t / 3*3\/t=t / 3*3+1\/t=t / 3*3+2:=by omega
   rcases he with e | e | e
   ·rw [show j*3+t=0+(j+t / 3)*3 from by omega,h0];rfl
   ·rw [show j*3+t=0+(j+t / 3)*3+1 from by omega,h1];rfl
   ·rw [show j*3+t=0+(j+t / 3)*3+2 from by omega,h2];rfl
  have hin:=fun t ht=>World.cell?_setCells_in g (qhb (fun i=>E (j+1+i)) (k - (j+1))) (j*3) w hall t ht;obtain ⟨f0,f1,f2⟩:=qn6 (fun i=>E (j+1+i)) (k - (j+1)) (i - j) (by omega);have hE:E (j+1+(i - j))=E (i+1):=by rw [show j+1+(i - j)=i+1 from by omega]
  rw [hE] at f0 f1 f2;refine ⟨?_,?_,?_⟩
  ·rw [show 0+i*3=j*3+(i - j)*3 from by omega,hin _ (by omega),<- f0,List.getElem?_eq_getElem (by omega)]
  ·rw [show 0+i*3+1=j*3+((i - j)*3+1) from by omega,hin _ (by omega),<- f1,List.getElem?_eq_getElem (by omega)]
  ·rw [show 0+i*3+2=j*3+((i - j)*3+2) from by omega,hin _ (by omega),<- f2,List.getElem?_eq_getElem (by omega)]
open Go.ChangeShapes Go.WideShapes Go.ChangeAt Go.Sort
theorem qd1 (a0 a1:Option Addr) (c0 c1:Nat) (xs:List Int) (w:World) (hlen:xs.length<=1048576) (h0:Sl w a0 xs) (h1:Sl w a1 xs):
  Calls Tryz.prog 9 #[.slice a0 xs.length c0,.slice a1 xs.length c1] w fun e w'=>e=.returned (.bool true)/\Below w.heap.size w w':=by
 have hl':(xs.length:Int)<=1048576:=by omega
 have H0:Hid (Sl w a0 xs):=h0;have H1:Hid (Sl w a1 xs):=h1;clear h0 h1
 go_enter Tryz.func9,Tryz.ntmps9
 go_wp2_with fail
 go_loopw [5] (fun i wr=>∃ k:Nat,k<=xs.length/\i=.int .i64 k/\Below w.heap.size w wr) (fun i _=>xs.length - (intOf i).toNat)
 case atStart=>exact ⟨0,Nat.zero_le _,rfl,Below.refl _ _⟩
 case round=>
  obtain ⟨k,hk,rfl,hbw⟩:=hrel;by_cases hlt:k<xs.length
  ·obtain ⟨b,off,rfl,hbl,ck⟩:=(H0.out.below hbw).at hlt
   obtain ⟨b',off',rfl,hbl',ck'⟩:=(H1.out.below hbw).at hlt;have hlt':(k:Int)<(xs.length:Int):=by omega
   go_wp2_with fail
   go_quiet (fail)
   go_wp2;go_roundw
   case rel=>exact ⟨k+1,by omega,by go_num,yE hbw _⟩
   case measure=>simp [intOf];omega
  ·go_wp2
   go_ret;exact ⟨rfl,hbw⟩
theorem qgd (a0:Option Addr) (len cap:Nat) (w:World):
  Calls Tryz.prog 6 #[.slice a0 len cap] w fun e w'=>e=.returned (.bool (decide ((1048576:Int)<len)))/\w'=w:=by
 go_enter Tryz.func6,Tryz.ntmps6
 go_wp2;go_ret;exact ⟨rfl,rfl⟩
theorem qgp {H:Type} {enc:TypeId × Value->H} {w:World} {a0:Option Addr} {len cap:Nat} {d:DataW H} {p:List MemPlace}
  (h:DataW.Trod enc Tryz.prog w 0 (fun _=>true) true 22 (.slice a0 len cap) d p):len<=maxLen/\qbf w w.heap.size a0 len:=by
 obtain ⟨fuel,hf⟩:=h
 rcases open_ints Tryz.underlying22 Tryz.underlying5 (by kernel_rfl) hf with ⟨hcs,_⟩ | ⟨x,l,c,zs,hcs,_,hl,hm,hz,_,hcell,hwz⟩
 ·simp [Value.cells] at hcs
  obtain ⟨_,rfl,_⟩:=hcs;exact ⟨Nat.zero_le _,.inl rfl⟩
 ·simp [Value.cells] at hcs
  obtain ⟨rfl,rfl,rfl⟩:=hcs;refine ⟨zP hl hm,?_⟩;by_cases h0:len=0
  ·exact .inl h0
  right;have hz':zs.length=cap:=by simpa using hz
  obtain ⟨b,off,rfl,hc⟩:=ints_at hcell (by omega);refine ⟨b,off,rfl,qu5 (hc 0 (by omega)),fun j hj=>⟨zs.getD j 0,hc j (by omega),?_⟩⟩
  have hmem:zs.getD j 0 ∈ zs:=by
   rw [List.getD_eq_getElem?_getD,List.getElem?_eq_getElem (by omega)];exact List.getElem_mem _
  exact bounds_u8 (hwz _ hmem)
theorem qiv (p code:Int) (ra oa ra' oa':Option Addr) (rc oc rc' oc':Nat) (rs os:List Int) (w:World) (hr:rs.length<=1048576) (ho:os.length<=1048576) (h1:Sl w ra rs) (h2:Sl w oa os) (h1':Sl w ra' rs) (h2':Sl w oa' os):
  Calls Tryz.prog 37 #[stV p ra rs.length rc oa os.length oc code,stV p ra' rs.length rc' oa' os.length oc' code] w fun e w'=>e=.returned (.bool true)/\Below w.heap.size w w':=by
 have H1:Hid (Sl w ra rs):=h1;have H2:Hid (Sl w oa os):=h2;have H1':Hid (Sl w ra' rs):=h1';have H2':Hid (Sl w oa' os):=h2';clear h1 h2 h1' h2'
 go_enter Tryz.func37,Tryz.ntmps37
 go_wp2_with fail
 refine (qd1 ra ra' rc rc' rs _ hr (H1.out.below (by go_grown)) (H1'.out.below (by go_grown))).mono ?_;rintro e w1 ⟨rfl,b1⟩;have B1:Hid (Below w.heap.size w w1):=qak (by go_grown) b1 (by simp;omega);obtain ⟨hc1,hf1⟩:=qag b1;have l0:w.heap.size<w.heap.size+1+1:=by omega
 have l1:w.heap.size+1<w.heap.size+1+1:=by omega
 have k0:w1.cell? ⟨w.heap.size,2,none⟩=some (.slice oa os.length oc):=(hc1 w.heap.size 2 (by simp;omega)).trans ((zS _ _ (by simp)).trans (zW _ _ _ 2 rfl));have k1:w1.cell? ⟨w.heap.size+1,2,none⟩=some (.slice oa' os.length oc'):=(hc1 (w.heap.size+1) 2 (by simp)).trans (qap _ _ _ 2 (by simp));clear b1 hc1 hf1;go_wp2_with fail
 refine (qd1 oa oa' oc oc' os _ ho (H2.out.below B1.out) (H2'.out.below B1.out)).mono ?_;rintro e w2 ⟨rfl,b2⟩;have B2:Hid (Below w.heap.size w w2):=B1.out.trans (b2.mono B1.out.size);clear b2;go_wp2;go_ret;exact ⟨rfl,B2.out⟩
theorem qvx (W0:Nat) (a0:Option Addr) (len cap:Nat) (w:World) (hB:qbf w W0 a0 len) (hl:len<=1048576):
  Calls Tryz.prog 20 #[.slice a0 len cap,.int .i64 1] w fun e w'=>∃ z:Int,e=.returned (.int .i64 z)/\(0<=z/\z<=255)/\w'=w:=by
 have hl':(len:Int)<=1048576:=by omega
 by_cases h1:1<len
 ·have h1':(1:Int)<(len:Int):=by omega
  rcases hB with h0 | ⟨b,off,rfl,-,hc⟩
  ·omega
  ·obtain ⟨z,cz,z0,z1⟩:=hc 1 h1
   go_enter Tryz.func20,Tryz.ntmps20
   go_wp2;go_ret;exact ⟨z,rfl,⟨z0,z1⟩,rfl⟩
 ·have h1':¬ (1:Int)<(len:Int):=by omega
  go_enter Tryz.func20,Tryz.ntmps20
  go_wp2;go_ret;exact ⟨_,rfl,by omega,rfl⟩
theorem qq1 (ea:Option Addr) (len cap:Nat) (eh:Nat->E3) (kd pr n:Int) (w:World) (hlen:len<=1048576) (hc:EvL w ea len eh):
  Calls Tryz.prog 97 #[.slice ea len cap,.int .i64 kd,.int .i64 pr,.int .i64 n] w fun e w'=>e=.returned (.int .i64 (nthV eh kd pr len n))/\Below w.heap.size w w':=by
 have HC:Hid (EvL w ea len eh):=hc;clear hc;generalize hV:nthV eh kd pr len n=V;have HV:Hid (nthV eh kd pr len n=V):=hV;clear hV;have hpl:=qor eh kd pr len
 go_enter Tryz.func97,Tryz.ntmps97
 go_wp2_with fail
 refine (qi8 ea len cap eh kd pr w hlen HC.out).mono ?_;rintro e w1 ⟨v,rfl,o1,b1⟩;obtain ⟨a0,cp,rfl,s1⟩:=o1.form;have HS:Hid (Sl w1 a0 (plI eh kd pr len)):=s1;clear o1 s1
 rcases zK (belB n ((plI eh kd pr len).length:Nat)) with t | t
 ·have hn:0<=n/\n<((plI eh kd pr len).length:Int):=by simpa [belB] using t
  obtain ⟨m,rfl⟩:∃ m:Nat,n=m:=⟨n.toNat,by omega⟩
  have hv:=HV.out;unfold nthV at hv;rw [if_pos t,Int.toNat_natCast] at hv;have hm:m<(plI eh kd pr len).length:=by omega
  have hm':(m:Int)<((plI eh kd pr len).length:Int):=by omega
  obtain ⟨b0,o0,rfl,hlt,hcell⟩:=HS.out.at hm;rw [hv] at hcell;clear hn hv HS;go_wp2_with fail
  refine (isBelow_any _ _ _).mono ?_;rintro e w2 ⟨rfl,rfl⟩;go_wp2;go_ret;exact ⟨rfl,b1⟩
 ·have hv:=HV.out
  unfold nthV at hv;rw [if_neg (by rw [t];decide)] at hv;subst hv;go_wp2_with fail
  refine (isBelow_any _ _ _).mono ?_;rintro e w2 ⟨rfl,rfl⟩;go_wp2;go_ret;exact ⟨rfl,b1⟩
theorem qr8 (ea:Option Addr) (len cap:Nat) (eh:Nat->E3) (kd pr n:Int) (w:World) (hlen:len<=1048576) (hc:EvL w ea len eh) (n0:-9223372036854775808<=n) (n1:n<=9223372036854775807):
  Calls Tryz.prog 100 #[.slice ea len cap,.int .i64 kd,.int .i64 pr,.int .i64 n] w fun e w'=>e=.returned (.int .i64 (nthV eh kd pr len n))/\Below w.heap.size w w':=by
 have hl':(len:Int)<=1048576:=by omega
 have HC:Hid (EvL w ea len eh):=hc;have HN:Hid (-9223372036854775808<=n/\n<=9223372036854775807):=⟨n0,n1⟩
 clear hc n0 n1
 go_enter Tryz.func100,Tryz.ntmps100
 go_wp2_with fail
 go_loopw [3,9] (fun m i wr=>∃ (k:Nat) (z:Int),k<=len/\i=.int .i64 k/\m=.int .i64 z/\Hid (z=wrap64 (n - (plI eh kd pr k).length)/\belB n ((plI eh kd pr k).length:Nat)=false)/\Below w.heap.size w wr) (fun _ i _=>len - (intOf i).toNat)
 case atStart=>exact ⟨0,n,Nat.zero_le _,rfl,rfl,⟨by have:=HN.out;unfold wrap64;simp [plI,plN];omega,by simp [belB,plI,plN]⟩,Below.refl _ _⟩
 case round=>
  obtain ⟨k,z,hk,rfl,rfl,HZ,hbw⟩:=hrel;by_cases hlt:k<len
  ·have hlt':(k:Int)<(len:Int):=by omega
   obtain ⟨b,off,rfl,-,c0,c1,c2⟩:=(HC.out.below hbw).at hlt
   rcases zK ((eh k).k == kd) with t1 | t1
   ·rcases zK ((eh k).q == pr) with t2 | t2
    ·have hh:hitB eh kd pr k=true:=by
      unfold hitB;rw [t1,t2];rfl
     have hle:=qor eh kd pr k
     rcases zK (z == 0) with t3 | t3
     ·have HV : Hid (nthV eh kd pr len n = k) := qoj hlt hh (by
       obtain ⟨h1,-⟩:=HZ.out;have:=HN.out;have h3:z=0:=by simpa using t3
       rw [h3] at h1;unfold wrap64 at h1
       omega)
      clear hh hle HZ HN;go_wp2;go_ret;exact ⟨qng HV.out.symm,hbw⟩
     ·have HS:Hid (wrap64 (z - 1)=wrap64 (n - (plI eh kd pr (k+1)).length)/\belB n ((plI eh kd pr (k+1)).length:Nat)=false):=by
       obtain ⟨h1,h2⟩:=HZ.out;have h4:=HN.out;have h3:z≠0:=by simpa using t3
       rw [qj5 hh,List.length_append];refine ⟨?_,?_⟩
       ·rw [h1]
        unfold wrap64;simp;omega
       ·simp [belB] at h2 ⊢
        intro h0;have h5:=h2 h0;rw [h1] at h3;unfold wrap64 at h3;omega
      clear hh hle HZ;go_wp2;go_roundw
      case rel=>exact ⟨k+1,wrap64 (z - 1),by omega,by go_num,by simp,HS.out,hbw⟩
      case measure=>simp [intOf];omega
    ·have HH : Hid (plI eh kd pr (k + 1) = plI eh kd pr k) := qh8 (by
      unfold hitB;rw [t1,t2]
      rfl)
     go_wp2;go_roundw
     case rel=>exact ⟨k+1,z,by omega,by go_num,rfl,by rw [HH.out];exact HZ.out,hbw⟩
     case measure=>simp [intOf];omega
   ·have HH : Hid (plI eh kd pr (k + 1) = plI eh kd pr k) := qh8 (by
     unfold hitB;rw [t1]
     rfl)
    go_wp2;go_roundw
    case rel=>exact ⟨k+1,z,by omega,by go_num,rfl,by rw [HH.out];exact HZ.out,hbw⟩
    case measure=>simp [intOf];omega
  ·have hkl:k=len:=by omega
   have HV:Hid (nthV eh kd pr len n = -1):=by
    have:=HZ.2;rw [hkl] at this;show nthV eh kd pr len n = -1;unfold nthV;rw [if_neg (by rw [this];decide)]
   clear HZ hkl;go_wp2;go_ret;exact ⟨qng HV.out.symm,hbw⟩
