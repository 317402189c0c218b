import Derived.Test.YtkdablcbhhphoaaGreatDoorMt18
import Derived.Test.YtkdablcbhhphoaaGreatDoorMt17
namespace Go.Proofs.YtkdablcbhhphoaaGreatDoor
open Go.Proofs.Tryz
set_option maxRecDepth 100000
set_option maxHeartbeats 4000000
open Go.ChangeShapes Go.WideShapes Go.ChangeAt Go.RowKit Go.Deep
theorem qar {a:Option Addr} {n c m g cap:Nat} (e:Value.slice a n c=.slice (some ⟨g,0,none⟩) m cap):a=some ⟨g,0,none⟩:=by
 simp only [Value.slice.injEq] at e;exact e.1
theorem qpv (v1 v2:Value) (P1 P2:Nat->Prop) (n:Nat) (u1 u2:Nat->Value) (L:Nat->Nat) (H:Nat->Nat->I5) (w:World) (hn:n<=1048576) (hl:∀ i,i<n->L i<=1048576) (o1:LI true w P1 v1 n u1 L H) (o2:LI true w P2 v2 n u2 L H):
  Calls prog 80 #[v1,v2] w (rB w (.bool true)):=by
 have hl':(n:Int)<=1048576:=by omega
 obtain ⟨a1,c1,rfl⟩:=zT o1.row;obtain ⟨a2,c2,rfl⟩:=zT o2.row;have O1:Hid (LI true w P1 (.slice a1 n c1) n u1 L H):=o1;have O2:Hid (LI true w P2 (.slice a2 n c2) n u2 L H):=o2;have HL:Hid (∀ i,i<n->L i<=1048576):=hl;clear o1 o2 hl
 go_enter func80,ntmps80
 go_wp2_with fail
 go_loopw [5] (fun i wr=>∃ k:Nat,k<=n/\i=.int .i64 k/\Below w.heap.size w wr) (fun i _=>n - (intOf i).toNat)
 case atStart=>exact ⟨0,nD _,rfl,nE _ _⟩
 case round=>
  obtain ⟨k,hk,rfl,hbw⟩:=hrel;have hs:=hbw.size;by_cases hlt:k<n
  ·have Q1:=O1.bw hbw
   have Q2:=O2.bw hbw;obtain ⟨g1,k1,e1,-,-,ck,-⟩:=Q1.cell hlt;obtain ⟨g2,k2,e2,-,-,dk,-⟩:=Q2.cell hlt;obtain rfl:=qar e1;obtain rfl:=qar e2;obtain ⟨b1,m1,f1,l1,i1,-⟩:=atI (Q1.own k hlt) (Q1.nn (nzT _) k hlt);obtain ⟨b2,m2,f2,l2,i2,-⟩:=atI (Q2.own k hlt) (Q2.nn (nzT _) k hlt);rw [f1] at ck;rw [f2] at dk;have I1:Hid (qao wr b1 0 (L k) (H k)/\b1<wr.heap.size):=⟨i1,l1⟩
   have I2:Hid (qao wr b2 0 (L k) (H k)/\b2<wr.heap.size):=⟨i2,l2⟩
   have hlt':(k:Int)<(n:Int):=by omega
   clear Q1 Q2 e1 e2 f1 f2 i1 i2 l1 l2;go_wp2_with fail
   first|(go_region_with (go_at_call 147;refine (qik b1 b2 (L k) m1 m2 (H k) wr.drew (HL.out k hlt) I1.2 I2.2 I1.1 I2.1).mono ?_;rintro e w1 ⟨rfl,hq1⟩)) | fail
   all_goals
    go_wp2;go_roundw
    case rel=>exact ⟨k+1,by omega,by go_num,hbw.drew.trans (hq1.mono hs)⟩
    case measure=>simp [intOf];omega
  ·go_wp2
   go_ret;exact ⟨rfl,hbw⟩
theorem qnc (v1 v2:Value) (P1 P2:Nat->Prop) (n:Nat) (u1 u2:Nat->Value) (S:Nat->S4) (w:World) (hn:n<=1048576) (hl:∀ i,i<n->(S i).rs.length<=1048576/\(S i).os.length<=1048576) (o1:LS w P1 v1 n u1 S) (o2:LS w P2 v2 n u2 S):
  Calls prog 81 #[v1,v2] w (rB w (.bool true)):=by
 have hl':(n:Int)<=1048576:=by omega
 obtain ⟨a1,c1,rfl⟩:=zT o1.row;obtain ⟨a2,c2,rfl⟩:=zT o2.row;have O1:Hid (LS w P1 (.slice a1 n c1) n u1 S):=o1;have O2:Hid (LS w P2 (.slice a2 n c2) n u2 S):=o2;have HL:Hid (∀ i,i<n->(S i).rs.length<=1048576/\(S i).os.length<=1048576):=hl;clear o1 o2 hl
 go_enter func81,ntmps81
 go_wp2_with fail
 go_loopw [5] (fun i wr=>∃ k:Nat,k<=n/\i=.int .i64 k/\Below w.heap.size w wr) (fun i _=>n - (intOf i).toNat)
 case atStart=>exact ⟨0,nD _,rfl,nE _ _⟩
 case round=>
  obtain ⟨k,hk,rfl,hbw⟩:=hrel;have hs:=hbw.size;by_cases hlt:k<n
  ·have Q1:=O1.bw hbw
   have Q2:=O2.bw hbw;obtain ⟨g1,k1,e1,-,-,⟨ra,rc,oa,oc,f1,x0,x1,x2,x3⟩,-⟩:=Q1.cell hlt;obtain ⟨g2,k2,e2,-,-,⟨ra',rc',oa',oc',f2,y0,y1,y2,y3⟩,-⟩:=Q2.cell hlt;obtain rfl:=qar e1;obtain rfl:=qar e2
   have hsl1:Sl wr ra (S k).rs/\Sl wr oa (S k).os:=by
    have h4:=Q1.own k hlt;rw [f1] at h4;exact ⟨h4.parts.1.slOf,h4.parts.2.1.slOf⟩
   have hsl2:Sl wr ra' (S k).rs/\Sl wr oa' (S k).os:=by
    have h4:=Q2.own k hlt;rw [f2] at h4;exact ⟨h4.parts.1.slOf,h4.parts.2.1.slOf⟩
   have H1:Hid (Sl wr ra (S k).rs/\Sl wr oa (S k).os):=hsl1;have H2:Hid (Sl wr ra' (S k).rs/\Sl wr oa' (S k).os):=hsl2;have hlt':(k:Int)<(n:Int):=by omega
   clear hsl1 hsl2 e1 e2 f1 f2 Q1 Q2;go_wp2_with fail
   first|(go_region_with (go_at_call 148;refine (qha _ _ ra oa ra' oa' rc oc rc' oc' (S k).rs (S k).os wr.drew (HL.out k hlt).1 (HL.out k hlt).2 H1.1 H1.2 H2.1 H2.2).mono ?_;rintro e w1 ⟨rfl,hq1⟩)) | fail
   all_goals
    go_wp2;go_roundw
    case rel=>exact ⟨k+1,by omega,by go_num,hbw.drew.trans (hq1.mono hs)⟩
    case measure=>simp [intOf];omega
  ·go_wp2
   go_ret;exact ⟨rfl,hbw⟩
structure Sy.Len (y:Sy):Prop where
 p:y.pn<=1048576/\∀ i,i<y.pn->y.pL i<=1048576
 s:y.sn<=1048576/\∀ i,i<y.sn->(y.sS i).rs.length<=1048576/\(y.sS i).os.length<=1048576
 w:y.wn<=1048576/\∀ i,i<y.wn->y.wL i<=1048576
 h:y.hn<=1048576/\∀ i,i<y.hn->y.hL i<=1048576
open Go.RowKit Go.Extern.Stop Go.Stop Go.Extern
theorem qy4 (a p:Addr) (W:World) (ha:W.cell? a=some (.pointer (some p))):
  (ReflectliteValue.method (ReflectliteValue.valueError "reflectlite.Value.Elem" 0) ReflectliteValue.elem #[.agg #[.pointer (some ⟨1, 275, none⟩), .pointer (some a), .int .u64 150]]).run prog W
   = .ok (.agg #[.pointer (some ⟨1,273,none⟩),.pointer (some p),.int .u64 409]) W:=by
 rw [rlm];simp only [Sem.run_bind,qxy,Result.andThen];simp [ReflectliteValue.elem,loadVar,isAgg,underlying,Tryz.underlying275,ha,Result.andThen,qyb,mkE]
theorem rls (v x : Value) : ReflectliteValue.set #[v, x] = (do
  let (some (dst,a,fl),some (src,b,_)):=(<- ReflectliteValue.parts v,<- ReflectliteValue.parts x)
   | unsupported (.noEntry "extern/(internal/reflectlite.Value).Set.zeroValue")
  if fl / ReflectliteValue.flagAddr % 2 == 0 then unsupported (.noEntry "extern/(internal/reflectlite.Value).Set.unaddressable")
  let val <- loadVar src b
  if <- Rtype.directlyAssignable dst src then storeVar dst a val
  else if <- Rtype.implements dst src then
   if (<- Rtype.kind src) == 20 then
    match val with
    | .nilIface => unsupported (.noEntry "extern/reflectlite: a nil value of one interface type handed on as a value of another")
    | _=>storeVar dst a val
   else storeVar dst a (.iface src val)
  else panicString ("reflectlite.Set: value of type " ++ (<- Rtype.spelt src) ++ " is not assignable to type " ++ (<- Rtype.spelt dst))
  pure (.tuple #[])):=rfl
theorem qyp (a:Addr) (w:World):(ReflectliteValue.parts (.agg #[.pointer (some ⟨1,273,none⟩),.pointer (some a),.int .u64 409])).run prog w=.ok (some (273,a,409)) w:=by kernel_rfl
theorem qzi (a:Addr) (w:World):(ReflectliteValue.parts (.agg #[.pointer (some ⟨1,273,none⟩),.pointer (some a),.int .u64 153])).run prog w=.ok (some (273,a,153)) w:=by kernel_rfl
theorem qx6 (w:World):(Rtype.directlyAssignable 273 273).run prog w=.ok true w:=by kernel_rfl
theorem setE (ta b:Addr) (x:Int) (old:Value) (W:World) (hb:W.cell? b=some (.int .i64 x)) (ht:W.cell? ta=some old) (hf:W.frozen? ta=false):
  (ReflectliteValue.set #[.agg #[.pointer (some ⟨1,273,none⟩),.pointer (some ta),.int .u64 409],.agg #[.pointer (some ⟨1,273,none⟩),.pointer (some b),.int .u64 153]]).run prog W
   = .ok (.tuple #[]) (W.setCell ta (.int .i64 x)):=by
 rw [rls];simp only [Sem.run_bind,qyp,qzi,Result.andThen];simp [ReflectliteValue.flagAddr,loadVar,loadCells,loadCellsFrom,hb,Result.andThen,qx6,storeVar,Value.cells,storeCells,Addr.add];rw [run_store prog W ta _ _ (by rfl)];simp [ht,hf]
open Go.RowKit Go.Extern.Stop Go.Stop Go.Extern
theorem qyw (x:Int) (t:Addr) (old:Value) (w:World) (hg:w.cell? ⟨0,0,none⟩=some (.iface 300 (.agg #[.pointer (some ⟨1,269,none⟩)]))) (ht0:w.cell? t=some old) (hf0:w.frozen? t=false):
  Calls prog 227 #[.iface 273 (.agg #[.int .i64 x]),.iface 275 (.pointer (some t))] w fun ev w'=>ev=.returned (.bool true)/\∃ o1 o2 o3 o4,w'=((((w.alloc o1).alloc o2).alloc o3).alloc o4).setCell t (.int .i64 x):=by
 have h6:=@run_callFunc_extern prog 243 _ (fun args=>ReflectliteValue.unpack (args.getD 0 (.tuple #[]))) func243 (by kernel_rfl) (by kernel_rfl) (by kernel_rfl) (by kernel_rfl);have h7 := @run_callFunc_extern prog 244 _ (ReflectliteValue.methodAny (ReflectliteValue.valueError "reflectlite.Value.Type" 0) (fun t _ _ _ => ReflectliteType.toType t)) func244 (by kernel_rfl) (by kernel_rfl) (by kernel_rfl) (by kernel_rfl)
 have h8 := @run_callFunc_extern prog 245 _ (ReflectliteValue.method (ReflectliteValue.valueError "reflectlite.Value.IsNil" 0) ReflectliteValue.isNil) func245 (by kernel_rfl) (by kernel_rfl) (by kernel_rfl) (by kernel_rfl)
 have h27:=@run_callFunc_extern prog 267 _ (ReflectliteType.abiMethod fun t=>do pure (.int .u8 (<- Rtype.kind t))) func267 (by kernel_rfl) (by kernel_rfl) (by kernel_rfl) (by kernel_rfl);have h37:=@run_callFunc_extern prog 288 _ (ReflectliteType.method ReflectliteType.elem) func288 (by kernel_rfl) (by kernel_rfl) (by kernel_rfl) (by kernel_rfl);have h38 := @run_callFunc_extern prog 289 _ (ReflectliteType.relation "Implements" ReflectliteType.implements_) func289 (by kernel_rfl) (by kernel_rfl) (by kernel_rfl) (by kernel_rfl)
 have h10:=@run_callFunc_extern prog 250 _ ReflectliteType.typeOf func250 (by kernel_rfl) (by kernel_rfl) (by kernel_rfl) (by kernel_rfl);have h35 := @run_callFunc_extern prog 286 _ (ReflectliteType.relation "AssignableTo" ReflectliteType.assignableTo) func286 (by kernel_rfl) (by kernel_rfl) (by kernel_rfl) (by kernel_rfl)
 have h11 := @run_callFunc_extern prog 251 _ (ReflectliteValue.method (ReflectliteValue.valueError "reflectlite.Value.Elem" 0) ReflectliteValue.elem) func251 (by kernel_rfl) (by kernel_rfl) (by kernel_rfl) (by kernel_rfl)
 have h12:=@run_callFunc_extern prog 252 _ ReflectliteValue.set func252 (by kernel_rfl) (by kernel_rfl) (by kernel_rfl) (by kernel_rfl);have tO:=qyt;have a25:=qpl;have v25:=qxn;have f6:=qxo;have f7:=qzt;have k27:=qzr;have k25:=qzq;have e27:=qzp;have i25:=qp8;have n8:=qza ⟨w.heap.size,0,none⟩ t ((w.alloc (.cells #[.pointer (some t)] 275)).alloc (.cells #[.pointer (some ⟨1,275,none⟩),.pointer (some ⟨w.heap.size,0,none⟩),.int .u64 150] 290)) (by simp)
 have hlt:0<w.heap.size:=by
  rcases Nat.eq_zero_or_pos w.heap.size with h0 | h
  ·simp [World.cell?,h0] at hg
  ·exact h
 have hg2:((w.alloc (.cells #[.pointer (some t)] 275)).alloc (.cells #[.pointer (some ⟨1,275,none⟩),.pointer (some ⟨w.heap.size,0,none⟩),.int .u64 150] 290)).cell? ⟨0,0,none⟩=some (.iface 300 (.agg #[.pointer (some ⟨1,269,none⟩)])):=by
  rw [World.cell?_alloc_lt _ _ ⟨0,0,none⟩ (by simp),World.cell?_alloc_lt _ _ ⟨0,0,none⟩ hlt];exact hg
 have htl:t.block<w.heap.size:=by
  rcases Nat.lt_or_ge t.block w.heap.size with h | h
  ·exact h
  ·simp [World.cell?,Array.getElem?_eq_none h] at ht0
 have el := qy4 ⟨w.heap.size, 0, none⟩ t (((w.alloc (.cells #[.pointer (some t)] 275)).alloc (.cells #[.pointer (some ⟨1, 275, none⟩), .pointer (some ⟨w.heap.size, 0, none⟩), .int .u64 150] 290)).alloc (.cells #[.pointer (some ⟨1, 275, none⟩), .pointer (some ⟨w.heap.size, 0, none⟩), .int .u64 150] 290)) (by
  rw [World.cell?_alloc_lt _ _ _ (by simp;omega),World.cell?_alloc_lt _ _ _ (by simp),World.cell?_alloc_at _ _ _ _ rfl];rfl)
 have st:=setE t ⟨w.heap.size+1+1+1,0,none⟩ x old ((((w.alloc (.cells #[.pointer (some t)] 275)).alloc (.cells #[.pointer (some ⟨1,275,none⟩),.pointer (some ⟨w.heap.size,0,none⟩),.int .u64 150] 290)).alloc (.cells #[.pointer (some ⟨1,275,none⟩),.pointer (some ⟨w.heap.size,0,none⟩),.int .u64 150] 290)).alloc (.cells #[.int .i64 x] 273))
  (by rw [World.cell?_alloc_at _ _ _ _ (by simp)];rfl)
  (by rw [World.cell?_alloc_lt _ _ t (by simp;omega),World.cell?_alloc_lt _ _ t (by simp;omega),World.cell?_alloc_lt _ _ t (by simp;omega),World.cell?_alloc_lt _ _ t htl];exact ht0)
  (by rw [World.frozen?_alloc_old _ _ t (by simp;omega),World.frozen?_alloc_old _ _ t (by simp;omega),World.frozen?_alloc_old _ _ t (by simp;omega),World.frozen?_alloc_old _ _ t (Nat.ne_of_lt htl)];exact hf0)
 go_enter func227,ntmps227
 go_wp2;refine wp_loop_rounds 1 ?_;rw [rounds_succ];go_wp2;go_ret;exact ⟨rfl,_,_,_,_,rfl⟩
def BlAt (w:World) (b off len:Nat) (h:Nat->Bool):Prop:=∀ i,i<len->w.cell? ⟨b,off+i,none⟩=some (.bool (h i))
theorem BlAt.bw {w w':World} {B b off len:Nat} {h:Nat->Bool} (hh:BlAt w b off len h) (hb:Below B w w') (hB:b<B):BlAt w' b off len h:=fun i hi=>(hb.cell hB).trans (hh i hi)
theorem qwp:(prog.info? 4).map (fun i=>(i.zero,i.size,i.bytes))=some (some (.bool false),1,1):=by kernel_rfl
theorem qf2 (n:Nat) (hn:n<=1048576) (w:World):
  (Instr.makeSlice 29 (.int .i64 (n:Int)) (.int .i64 (n:Int))).run prog w=.ok (sG w.heap.size n n) (w.alloc (.cells (madeCells #[.bool false] n) 4)):=by
 have hinfo:=qwp;cases hi:prog.info? 4 with
 | none=>rw [hi] at hinfo;cases hinfo
 | some i=>
  rw [hi] at hinfo;simp only [Option.map_some,nG,Prod.mk.injEq] at hinfo;obtain ⟨hz,hs,hb⟩:=hinfo;have h:=run_make (P:=prog) w 29 4 i _ Tryz.underlying29 hi hz .i64 .i64 (n:Int) (n:Int) (by omega) (Int.le_refl _) (by rw [hb];omega) (by omega);rw [hs] at h;simpa [Value.cells] using h
theorem qex (a0:Option Addr) (len cap:Nat) (L:Int) (w:World) (h:(len:Int)<=L) (hL:L<=1048576):
  Calls prog 53 #[.slice a0 len cap,.int .i64 L] w fun e w'=>e=.returned (.int .i64 (L - (len:Int)))/\w'=w:=by
 have h1:(len:Int)<=1048576:=by omega
 have h2:0<=L:=by omega
 have h3:¬ (L - (len:Int)<0):=by omega
 go_enter func53,ntmps53
 go_wp2;go_ret;exact ⟨rfl,rfl⟩
theorem qjw (a0:Option Addr) (len cap:Nat) (L:Int) (w:World) (h:L<(len:Int)) (h0:0<=L) (hL:L<=1048576) (hm:len<=maxLen):
  Calls prog 53 #[.slice a0 len cap,.int .i64 L] w fun e w'=>e=.returned (.int .i64 (-1))/\w'=w:=by
 unfold maxLen at hm;have h2:(len:Int)<=9223372036854775807:=by omega
 have h3:L - (len:Int)<0:=by omega
 go_enter func53,ntmps53
 go_wp2;go_ret;exact ⟨rfl,rfl⟩
theorem qns (w:World) (n:Nat):(w.alloc (.cells (madeCells #[.bool false] n) 4)).rowIs w.heap.size 4 n (fun _=>.bool false):=by
 refine ⟨_,blk_alloc_new _ _,size_madeCells _ _,fun i hi=>?_⟩;simp only [madeCells];rw [Array.getElem?_map,Array.getElem?_range,nC hi];have:i % 1=0:=Nat.mod_one i;exact congrArg some (by simp [this])
theorem qoz (b off len cap:Nat) (h:Nat->Bool) (w:World) (hlen:len<=1048576) (hb:b<w.heap.size) (hc:BlAt w b off len h):
  Calls prog 62 #[.slice (some ⟨b,off,none⟩) len cap] w fun e w'=>e=.returned (sG w.heap.size len len)/\BlAt w' w.heap.size 0 len h/\w.heap.size<w'.heap.size/\Below w.heap.size w w'/\∀ j,w'.frozen? ⟨w.heap.size,j,none⟩=false:=by
 have hl':(len:Int)<=1048576:=by omega
 have hmk:=qf2 len hlen;have HC:Hid (BlAt w b off len h):=hc;clear hc
 go_enter func62,ntmps62
 go_wp2_with fail
 clear hmk
 go_loopw [4] (fun i wr=>∃ k:Nat,k<=len/\i=.int .i64 k/\(∃ f,wr.rowIs w.heap.size 4 len f/\Hid (∀ i,i<k->f i=.bool (h i)))/\Below w.heap.size w wr) (fun i _=>len - (intOf i).toNat)
 case atStart=>exact ⟨0,nD _,rfl,⟨_,qns w len,fun i hi=>by omega⟩,(nE _ _).alloc (nA _) _⟩
 case round=>
  obtain ⟨k,hk,rfl,⟨f,hrow,HF⟩,hbw⟩:=hrel;have hs:=hrow.lt;by_cases hlt:k<len
  ·have hlt':(k:Int)<(len:Int):=by omega
   have ck:=HC.bw hbw hb k hlt;have f0:=hrow.frozen k;have g0:=hrow.cell (i:=k) hlt;have HR:Hid (wr.rowIs w.heap.size 4 len f):=hrow;clear hrow;go_wp2;go_roundw
   case rel=>
    refine ⟨k+1,by omega,by go_num,⟨_,HR.set _ _,fun i hi=>?_⟩,hbw.setCell (nA _) _⟩;by_cases e:i=k
    ·subst e;simp
    ·rw [nB e];exact HF.out i (by omega)
   case measure=>simp [intOf];omega
  ·have hkl:k=len:=by omega
   have HI:Hid (BlAt wr w.heap.size 0 len h):=fun i hi=>by
    rw [nL,hrow.cell hi,HF.out i (by omega)]
   have HZ:Hid (∀ j,wr.frozen? ⟨w.heap.size,j,none⟩=false):=fun j=>hrow.frozen j;clear hkl HF hrow;go_wp2;go_ret;exact ⟨rfl,HI.out,hs,hbw,HZ.out⟩
theorem qgr (a0:Option Addr) (cap:Nat) (h:Nat->Bool) (w:World):
  Calls prog 62 #[.slice a0 0 cap] w fun e w'=>e=.returned (sG w.heap.size 0 0)/\BlAt w' w.heap.size 0 0 h/\w.heap.size<w'.heap.size/\Below w.heap.size w w'/\∀ j,w'.frozen? ⟨w.heap.size,j,none⟩=false:=by
 have hmk:∀ w:World,(Instr.makeSlice 29 (.int .i64 0) (.int .i64 0)).run prog w=.ok (sG w.heap.size 0 0) (w.alloc (.cells (madeCells #[.bool false] 0) 4)):=fun w=>qf2 0 (by omega) w
 go_enter func62,ntmps62
 go_wp2_with fail
 clear hmk
 go_rounds 1
 go_ret;exact ⟨rfl,fun i hi=>by omega,by simp,(nE _ _).alloc (nA _) _,fun j=>yA _ _ _ j rfl⟩
def qug (w:World) (a0:Option Addr) (len cap:Nat) (h:Nat->Bool):Prop:=∀ wx,Below w.heap.size w wx->
 Calls prog 62 #[.slice a0 len cap] wx fun e w'=>e=.returned (sG wx.heap.size len len)/\BlAt w' wx.heap.size 0 len h/\wx.heap.size<w'.heap.size/\Below wx.heap.size wx w'/\∀ j,w'.frozen? ⟨wx.heap.size,j,none⟩=false
theorem qsq {W:World} {a0:Option Addr} {len cap:Nat} (hl:len<=1048576) (hr:len=0\/∃ b off h,a0=some ⟨b,off,none⟩/\b<W.heap.size/\BlAt W b off len h):∃ h,qug W a0 len cap h:=by
 rcases hr with rfl | ⟨b,off,h,rfl,hb,hI⟩
 ·exact ⟨fun _=>false,fun wx _=>qgr a0 cap _ wx⟩
 ·exact ⟨h,fun wx hB=>qoz b off len cap h wx hl (zL hb hB.size) (hI.bw hB hb)⟩
theorem qkr (b1 b2 len c1 c2:Nat) (h:Nat->Bool) (w:World) (hlen:len<=1048576) (hb1:b1<w.heap.size) (hb2:b2<w.heap.size) (hc1:BlAt w b1 0 len h) (hc2:BlAt w b2 0 len h):
  Calls prog 85 #[.slice (some ⟨b1,0,none⟩) len c1,.slice (some ⟨b2,0,none⟩) len c2] w (rB w (.bool true)):=by
 have hl':(len:Int)<=1048576:=by omega
 have HC1:Hid (BlAt w b1 0 len h):=hc1;have HC2:Hid (BlAt w b2 0 len h):=hc2;clear hc1 hc2
 go_enter func85,ntmps85
 go_wp2_with fail
 go_loopw [5] (fun i wr=>∃ k:Nat,k<=len/\i=.int .i64 k/\Below w.heap.size w wr) (fun i _=>len - (intOf i).toNat)
 case atStart=>exact ⟨0,nD _,rfl,nE _ _⟩
 case round=>
  obtain ⟨k,hk,rfl,hbw⟩:=hrel;by_cases hlt:k<len
  ·have c0:=HC1.bw hbw hb1 k hlt
   have d0:=HC2.bw hbw hb2 k hlt;have hlt':(k:Int)<(len:Int):=by omega
   rw [nL] at c0 d0;go_wp2_with fail
   go_quiet (fail)
   go_wp2;go_roundw
   case rel=>exact ⟨k+1,by omega,by go_num,yB hbw _⟩
   case measure=>simp [intOf];omega
  ·go_wp2
   go_ret;exact ⟨rfl,hbw⟩
theorem qcu.of_b {w:World} {b len:Nat} {h:Nat->Bool} (hh:BlAt w b 0 len h) (hf:∀ j,w.frozen? ⟨b,j,none⟩=false):qcu w b len:=
 ⟨fun i hi=>⟨.bool (h i),by have:=hh i hi;rw [nL] at this;exact this⟩,hf⟩
theorem qjm (b len cap:Nat) (k:Int) (w:World) (hlen:len<=1048576) (k0:0<=k) (k1:k<=100000000) (h:qcu w b len):
  Calls prog 92 #[.slice (some ⟨b,0,none⟩) len cap,.int .i64 k] w fun e w'=>e=.returned (.int .i64 (k+len))/\w.grownBy w' (some b):=by
 have hl':(len:Int)<=1048576:=by omega
 have HO:Hid (qcu w b len):=h;clear h
 go_enter func92,ntmps92
 go_wp2_with fail
 go_loopw [1,5] (fun q i wr=>∃ j:Nat,j<=len/\i=.int .i64 j/\q=.int .i64 (k+j)/\Hid (qcu wr b len/\w.grownBy wr (some b))) (fun _ i _=>len - (intOf i).toNat)
 case atStart=>exact ⟨0,nD _,rfl,by simp,HO.out,World.grownBy.refl _ _⟩
 case round=>
  clear HO;obtain ⟨j,hj,rfl,rfl,HR⟩:=hrel;by_cases hlt:j<len
  ·have hlt':(j:Int)<(len:Int):=by omega
   obtain ⟨u0,c0⟩:=HR.1.1 j hlt;have fz:=HR.1.2;go_wp2;go_roundw
   case rel=>
    refine ⟨j+1,by omega,by go_num,by go_num,?_⟩;exact ⟨HR.1.set _ _,zU HR.2 (.inl rfl) _⟩
   case measure=>simp [intOf];omega
  ·have hlt':¬ (j:Int)<(len:Int):=by omega
   have HF:Hid (w.grownBy wr (some b)):=HR.2;have hjl:(j:Int)=len:=by omega
   have HJ:Hid ((j:Int)=len):=hjl;clear HR hjl;go_wp2;go_ret;exact ⟨qfc (by rw [HJ.out]),HF.out⟩
theorem qvg {H:Type} {enc:TypeId × Value->H} {w:World} {spare:Nat->Bool} {held:Bool} {base:Nat} {a0:Option Addr} {len cap:Nat} {d:DataW H} {p:List MemPlace}
  (h:DataW.Trod enc prog w base spare held 29 (.slice a0 len cap) d p):
  len<=maxLen/\(len=0\/∃ b off h,a0=some ⟨b,off,none⟩/\b<w.heap.size/\BlAt w b off len h):=by
 obtain ⟨hm,f,hr,hf⟩:=qdk Tryz.underlying29 (el:=4) (by kernel_rfl) h;refine ⟨hm,?_⟩
 rcases hr with h0 | ⟨b,off,e,hb,hc⟩
 ·exact .inl h0
 right
 have hq:∀ i,i<len->∃ x:Bool,f i=.bool x:=by
  intro i hi;obtain ⟨m,x,hx⟩:=hf i hi;obtain ⟨z0,e0,-⟩:=DataW.trod_bool Tryz.underlying4 hx;simp only [List.cons.injEq,and_true] at e0;exact ⟨z0,e0⟩
 have inh:Inhabited Bool:=⟨false⟩
 obtain ⟨g,hg⟩:=Go.Deep.choose_lt (α:=Bool) hq;exact ⟨b,off,g,e,hb,fun i hi=>(hc i hi).trans (by rw [hg i hi])⟩
structure ShIn where
 on:Bool
 ca:Option Addr
 cn:Nat
 cc:Nat
 cH:Nat->Int
 oa:Option Addr
 ol:Nat
 oc:Nat
 oH:Nat->Bool
 ka:Option Addr
 kn:Nat
 kc:Nat
 kA:Nat->Option Addr
 kL:Nat->Nat
 kC:Nat->Nat
 kH:Nat->Nat->Int
def ShIn.size (x:ShIn):Nat:=x.cn+x.ol+(x.kn+sumL x.kL x.kn)
abbrev shV (on:Bool) (ca:Option Addr) (cn cc:Nat) (oa:Option Addr) (ol oc:Nat) (ka:Option Addr) (kn kc:Nat):Value:=.agg #[.bool on,.slice ca cn cc,.slice oa ol oc,.slice ka kn kc]
abbrev ShIn.v (x:ShIn):Value:=shV x.on x.ca x.cn x.cc x.oa x.ol x.oc x.ka x.kn x.kc
def ShIn.Row (W:World) (x:ShIn):Prop:=RowS W x.ka x.kn fun i=>.slice (x.kA i) (x.kL i) (x.kC i)
structure ShIn.Max (x:ShIn):Prop where
 c:x.cn<=maxLen
 o:x.ol<=maxLen
 k:x.kn<=maxLen/\∀ i,i<x.kn->x.kL i<=maxLen
structure ShIn.Ok (W:World) (x:ShIn):Prop where
 c:qh4 W x.ca x.cn x.cc x.cH
 o:qug W x.oa x.ol x.oc x.oH
 k:qrd W x.ka x.kn x.kA x.kL x.kC x.kH
theorem ShIn.Ok.row {W:World} {x:ShIn} (h:x.Ok W):x.Row W:=h.k.row
theorem ShIn.Row.bw {W w:World} {x:ShIn} (h:x.Row W) (hb:Below W.heap.size W w):x.Row w:=RowS.bw h hb
structure LvIn where
 s:SysIn
 h:ShIn
def LvIn.size (x:LvIn):Nat:=x.s.size+x.h.size
abbrev LvIn.v (x:LvIn):Value:=.agg #[.slice x.s.pa x.s.pn x.s.pc,.slice x.s.sa x.s.sn x.s.sc,.slice x.s.wa x.s.wn x.s.wc,.slice x.s.ha x.s.hn x.s.hc,.bool x.h.on,.slice x.h.ca x.h.cn x.h.cc,.slice x.h.oa x.h.ol x.h.oc,.slice x.h.ka x.h.kn x.h.kc]
structure LvIn.Row (W:World) (x:LvIn):Prop where
 s:x.s.Row W
 h:x.h.Row W
structure LvIn.Max (x:LvIn):Prop where
 s:x.s.Max
 h:x.h.Max
structure LvIn.Ok (W:World) (x:LvIn):Prop where
 s:x.s.Ok W
 h:x.h.Ok W
theorem LvIn.Ok.row {W:World} {x:LvIn} (h:x.Ok W):x.Row W:=⟨h.s.row,h.h.row⟩
theorem LvIn.Row.bw {W w:World} {x:LvIn} (h:x.Row W) (hb:Below W.heap.size W w):x.Row w:=⟨h.s.bw hb,h.h.bw hb⟩
theorem qoy (x:ShIn) (L:Int) (w:World) (hr:x.Row w) (h:(x.size:Int)<=L) (hL:L<=1048576):
  Calls prog 18 #[shV x.on x.ca x.cn x.cc x.oa x.ol x.oc x.ka x.kn x.kc,.int .i64 L] w (rB w (.int .i64 (L - (x.size:Nat)))):=by
 have HR:Hid (x.Row w):=hr;have hh:x.size=x.cn+x.ol+(x.kn+sumL x.kL x.kn):=rfl;have q1:(x.cn:Int)<=L:=by omega
 have q2:(x.ol:Int)<=L - x.cn:=by omega
 have q3:(x.kn:Int)+(sumL x.kL x.kn:Nat)<=L - x.cn - x.ol:=by omega
 have n1:¬ L - (x.cn:Int)<0:=by omega
 have n2:¬ L - (x.cn:Int) - (x.ol:Int)<0:=by omega
 have e3:L - (x.cn:Int) - (x.ol:Int) - x.kn - (sumL x.kL x.kn:Nat)=L - (x.size:Nat):=by omega
 have n3:¬ L - (x.size:Int)<0:=by omega
 have l1:L - (x.cn:Int)<=1048576:=by omega
 have l2:L - (x.cn:Int) - (x.ol:Int)<=1048576:=by omega
 have E3':Hid (L - (x.cn:Int) - (x.ol:Int) - x.kn - (sumL x.kL x.kn:Nat)=L - (x.size:Nat)):=e3;clear hr h hh e3
 go_enter func18,ntmps18
 go_wp2_with fail
 refine (qch _ _ _ _ _ q1 hL).mono ?_;rintro e w1 ⟨rfl,rfl⟩;go_wp2_with fail
 refine (qex _ _ _ _ _ q2 l1).mono ?_;rintro e w2 ⟨rfl,rfl⟩;go_wp2_with fail
 refine (ql8 _ _ _ _ x.kL _ _ _ (HR.bw (qad _ _)) q3 l2).mono ?_;rintro e w3 ⟨rfl,rfl⟩;rw [E3'.out];go_wp2;go_ret;exact ⟨rfl,by go_grown⟩
theorem qox (x:ShIn) (L:Int) (w:World) (hr:x.Row w) (hm:x.Max) (h:L<(x.size:Int)) (h0:0<=L) (hL:L<=1048576):
  Calls prog 18 #[shV x.on x.ca x.cn x.cc x.oa x.ol x.oc x.ka x.kn x.kc,.int .i64 L] w (rB w (.int .i64 (-1))):=by
 have HR:Hid (x.Row w):=hr;have HM:Hid x.Max:=hm;have hh:x.size=x.cn+x.ol+(x.kn+sumL x.kL x.kn):=rfl;by_cases q1:(x.cn:Int)<=L
 case neg=>
  have q1':L<(x.cn:Int):=by omega
  clear hr h hh hm q1
  go_enter func18,ntmps18
  go_wp2_with fail
  refine (qf7 _ _ _ _ _ q1' h0 hL HM.c).mono ?_;rintro e w1 ⟨rfl,rfl⟩;go_wp2;go_ret;exact ⟨rfl,by go_grown⟩
 have n1:¬ L - (x.cn:Int)<0:=by omega
 have l0:0<=L - (x.cn:Int):=by omega
 have l1:L - (x.cn:Int)<=1048576:=by omega
 by_cases q2:(x.ol:Int)<=L - x.cn
 case neg=>
  have q2':L - x.cn<(x.ol:Int):=by omega
  clear hr h hh hm q2
  go_enter func18,ntmps18
  go_wp2_with fail
  refine (qch _ _ _ _ _ q1 hL).mono ?_;rintro e w1 ⟨rfl,rfl⟩;go_wp2_with fail
  refine (qjw _ _ _ _ _ q2' l0 l1 HM.o).mono ?_;rintro e w2 ⟨rfl,rfl⟩;go_wp2;go_ret;exact ⟨rfl,by go_grown⟩
 have n2:¬ L - (x.cn:Int) - (x.ol:Int)<0:=by omega
 have l2:L - (x.cn:Int) - (x.ol:Int)<=1048576:=by omega
 have l3:0<=L - (x.cn:Int) - (x.ol:Int):=by omega
 have q3:L - x.cn - x.ol<(x.kn:Int)+(sumL x.kL x.kn:Nat):=by omega
 clear hr h hh hm
 go_enter func18,ntmps18
 go_wp2_with fail
 refine (qch _ _ _ _ _ q1 hL).mono ?_;rintro e w1 ⟨rfl,rfl⟩;go_wp2_with fail
 refine (qex _ _ _ _ _ q2 l1).mono ?_;rintro e w2 ⟨rfl,rfl⟩;go_wp2_with fail
 refine (ql7 _ _ _ _ x.kL _ _ _ (HR.bw (qad _ _)) q3 l3 l2 HM.k.1 HM.k.2).mono ?_;rintro e w3 ⟨rfl,rfl⟩;go_wp2;go_ret;exact ⟨rfl,by go_grown⟩
def BoxH (w:World) (b:Nat) (c0 c1 c2 c3 c4 c5 c6 c7:Value):Prop:=w.cell? ⟨b,0,none⟩=some c0/\w.cell? ⟨b,1,none⟩=some c1/\w.cell? ⟨b,2,none⟩=some c2/\w.cell? ⟨b,3,none⟩=some c3/\w.cell? ⟨b,4,none⟩=some c4/\w.cell? ⟨b,5,none⟩=some c5/\w.cell? ⟨b,6,none⟩=some c6/\w.cell? ⟨b,7,none⟩=some c7
section
variable {w w':World} {b:Nat} {c0 c1 c2 c3 c4 c5 c6 c7:Value}
theorem BoxH.blk (h:BoxH w b c0 c1 c2 c3 c4 c5 c6 c7) (hb:w'.heap[b]? = w.heap[b]?):BoxH w' b c0 c1 c2 c3 c4 c5 c6 c7:=by
 obtain ⟨h0,h1,h2,h3,h4,h5,h6,h7⟩:=h;have hc:∀ i,w'.cell? ⟨b,i,none⟩=w.cell? ⟨b,i,none⟩:=fun i=>zH hb;exact ⟨(hc _).trans h0,(hc _).trans h1,(hc _).trans h2,(hc _).trans h3,(hc _).trans h4,(hc _).trans h5,(hc _).trans h6,(hc _).trans h7⟩
theorem BoxH.lt (h:BoxH w b c0 c1 c2 c3 c4 c5 c6 c7):b<w.heap.size:=zJ w _ h.1
theorem BoxH.bw (h:BoxH w b c0 c1 c2 c3 c4 c5 c6 c7) (hb:Below w.heap.size w w'):BoxH w' b c0 c1 c2 c3 c4 c5 c6 c7:=h.blk (hb.block b h.lt)
theorem BoxH.new (w:World) (c0 c1 c2 c3 c4 c5 c6 c7:Value) (t:TypeId):BoxH (w.alloc (.cells #[c0,c1,c2,c3,c4,c5,c6,c7] t)) w.heap.size c0 c1 c2 c3 c4 c5 c6 c7:=
 ⟨zV _ _ _ 0 rfl,zV _ _ _ 1 rfl,zV _ _ _ 2 rfl,zV _ _ _ 3 rfl,zV _ _ _ 4 rfl,zV _ _ _ 5 rfl,zV _ _ _ 6 rfl,zV _ _ _ 7 rfl⟩
end
theorem qow (x:LvIn) (w:World) (hr:x.Row w) (h:x.size<=1048576):
  Calls prog 6 #[x.v,.int .i64 1048576] w (rB w (.int .i64 (1048576 - (x.size:Nat)))):=by
 have HR:Hid (x.Row w):=hr;have hh:x.size=x.s.size+x.h.size:=rfl;have q1:x.s.size<=1048576:=by omega
 have q2:(x.h.size:Int)<=1048576 - (x.s.size:Nat):=by omega
 have n1:¬ (1048576:Int) - (x.s.size:Nat)<0:=by omega
 have n2:¬ (1048576:Int) - (x.size:Nat)<0:=by omega
 have l2:(1048576:Int) - (x.s.size:Nat)<=1048576:=by omega
 have E2:Hid ((1048576:Int) - (x.s.size:Nat) - (x.h.size:Nat)=1048576 - (x.size:Nat)):=by
  show (1048576:Int) - (x.s.size:Nat) - (x.h.size:Nat)=1048576 - (x.size:Nat);omega
 have BA:Hid (Below w.heap.size w (w.alloc (oQ5 x.s.pa x.s.pn x.s.pc x.s.sa x.s.sn x.s.sc x.s.wa x.s.wn x.s.wc x.s.ha x.s.hn x.s.hc x.h.on x.h.ca x.h.cn x.h.cc x.h.oa x.h.ol x.h.oc x.h.ka x.h.kn x.h.kc))/\BoxH (w.alloc (oQ5 x.s.pa x.s.pn x.s.pc x.s.sa x.s.sn x.s.sc x.s.wa x.s.wn x.s.wc x.s.ha x.s.hn x.s.hc x.h.on x.h.ca x.h.cn x.h.cc x.h.oa x.h.ol x.h.oc x.h.ka x.h.kn x.h.kc)) w.heap.size (.slice x.s.pa x.s.pn x.s.pc) (.slice x.s.sa x.s.sn x.s.sc) (.slice x.s.wa x.s.wn x.s.wc) (.slice x.s.ha x.s.hn x.s.hc) (.bool x.h.on) (.slice x.h.ca x.h.cn x.h.cc) (.slice x.h.oa x.h.ol x.h.oc) (.slice x.h.ka x.h.kn x.h.kc)):=⟨qad _ _,BoxH.new _ _ _ _ _ _ _ _ _ _⟩
 clear hr h hh
 go_enter func6,ntmps6
 go_wp2_with fail
 generalize w.alloc (oQ5 x.s.pa x.s.pn x.s.pc x.s.sa x.s.sn x.s.sc x.s.wa x.s.wn x.s.wc x.s.ha x.s.hn x.s.hc x.h.on x.h.ca x.h.cn x.h.cc x.h.oa x.h.ol x.h.oc x.h.ka x.h.kn x.h.kc)=wA at *;refine (qi6 x.s wA (HR.s.bw BA.1) q1).mono ?_;rintro e w1 ⟨rfl,b1⟩;have B1:Hid (Below w.heap.size w w1/\BoxH w1 w.heap.size (.slice x.s.pa x.s.pn x.s.pc) (.slice x.s.sa x.s.sn x.s.sc) (.slice x.s.wa x.s.wn x.s.wc) (.slice x.s.ha x.s.hn x.s.hc) (.bool x.h.on) (.slice x.h.ca x.h.cn x.h.cc) (.slice x.h.oa x.h.ol x.h.oc) (.slice x.h.ka x.h.kn x.h.kc)):=⟨BA.1.trans (b1.mono BA.1.size),BA.2.bw b1⟩
 clear b1 BA;obtain ⟨p0,p1,p2,p3,p4,p5,p6,p7⟩:=B1.2;go_wp2_with fail
 clear p0 p1 p2 p3 p4 p5 p6 p7;refine (qoy x.h _ w1 (HR.h.bw B1.1) q2 l2).mono ?_;rintro e w2 ⟨rfl,b2⟩;rw [E2.out];have B2:Hid (Below w.heap.size w w2):=B1.1.trans (b2.mono B1.1.size);clear b2 B1;go_wp2;go_ret;exact ⟨rfl,B2.out⟩
theorem qov (x:LvIn) (w:World) (hr:x.Row w) (hm:x.Max) (h:1048576<x.size):
  Calls prog 6 #[x.v,.int .i64 1048576] w (rB w (.int .i64 (-1))):=by
 have HR:Hid (x.Row w):=hr;have HM:Hid x.Max:=hm;have hh:x.size=x.s.size+x.h.size:=rfl;have BA:Hid (Below w.heap.size w (w.alloc (oQ5 x.s.pa x.s.pn x.s.pc x.s.sa x.s.sn x.s.sc x.s.wa x.s.wn x.s.wc x.s.ha x.s.hn x.s.hc x.h.on x.h.ca x.h.cn x.h.cc x.h.oa x.h.ol x.h.oc x.h.ka x.h.kn x.h.kc))/\BoxH (w.alloc (oQ5 x.s.pa x.s.pn x.s.pc x.s.sa x.s.sn x.s.sc x.s.wa x.s.wn x.s.wc x.s.ha x.s.hn x.s.hc x.h.on x.h.ca x.h.cn x.h.cc x.h.oa x.h.ol x.h.oc x.h.ka x.h.kn x.h.kc)) w.heap.size (.slice x.s.pa x.s.pn x.s.pc) (.slice x.s.sa x.s.sn x.s.sc) (.slice x.s.wa x.s.wn x.s.wc) (.slice x.s.ha x.s.hn x.s.hc) (.bool x.h.on) (.slice x.h.ca x.h.cn x.h.cc) (.slice x.h.oa x.h.ol x.h.oc) (.slice x.h.ka x.h.kn x.h.kc)):=⟨qad _ _,BoxH.new _ _ _ _ _ _ _ _ _ _⟩
 by_cases q1:x.s.size<=1048576
 case neg=>
  have Q1:Hid (1048576<x.s.size):=by show 1048576<x.s.size;omega
  clear hr h hh hm q1
  go_enter func6,ntmps6
  go_wp2_with fail
  generalize w.alloc (oQ5 x.s.pa x.s.pn x.s.pc x.s.sa x.s.sn x.s.sc x.s.wa x.s.wn x.s.wc x.s.ha x.s.hn x.s.hc x.h.on x.h.ca x.h.cn x.h.cc x.h.oa x.h.ol x.h.oc x.h.ka x.h.kn x.h.kc)=wA at *;refine (qq0 x.s wA (HR.s.bw BA.1) HM.s Q1.out).mono ?_;rintro e w1 ⟨rfl,b1⟩;have B1:Hid (Below w.heap.size w w1):=BA.1.trans (b1.mono BA.1.size);clear b1 BA;go_wp2;go_ret;exact ⟨rfl,B1.out⟩
 have q2:(1048576:Int) - (x.s.size:Nat)<(x.h.size:Int):=by omega
 have n1:¬ (1048576:Int) - (x.s.size:Nat)<0:=by omega
 have l1:0<=(1048576:Int) - (x.s.size:Nat):=by omega
 have l2:(1048576:Int) - (x.s.size:Nat)<=1048576:=by omega
 clear hr h hh hm
 go_enter func6,ntmps6
 go_wp2_with fail
 generalize w.alloc (oQ5 x.s.pa x.s.pn x.s.pc x.s.sa x.s.sn x.s.sc x.s.wa x.s.wn x.s.wc x.s.ha x.s.hn x.s.hc x.h.on x.h.ca x.h.cn x.h.cc x.h.oa x.h.ol x.h.oc x.h.ka x.h.kn x.h.kc)=wA at *;refine (qi6 x.s wA (HR.s.bw BA.1) q1).mono ?_;rintro e w1 ⟨rfl,b1⟩;have B1:Hid (Below w.heap.size w w1/\BoxH w1 w.heap.size (.slice x.s.pa x.s.pn x.s.pc) (.slice x.s.sa x.s.sn x.s.sc) (.slice x.s.wa x.s.wn x.s.wc) (.slice x.s.ha x.s.hn x.s.hc) (.bool x.h.on) (.slice x.h.ca x.h.cn x.h.cc) (.slice x.h.oa x.h.ol x.h.oc) (.slice x.h.ka x.h.kn x.h.kc)):=⟨BA.1.trans (b1.mono BA.1.size),BA.2.bw b1⟩
 clear b1 BA;obtain ⟨p0,p1,p2,p3,p4,p5,p6,p7⟩:=B1.2;go_wp2_with fail
 clear p0 p1 p2 p3 p4 p5 p6 p7;refine (qox x.h _ w1 (HR.h.bw B1.1) HM.h q2 l1 l2).mono ?_;rintro e w2 ⟨rfl,b2⟩;have B2:Hid (Below w.heap.size w w2):=B1.1.trans (b2.mono B1.1.size);clear b2 B1;go_wp2;go_ret;exact ⟨rfl,B2.out⟩
theorem ZAt.blk {w w':World} {b off len:Nat} {h:Nat->Int} (hh:ZAt w b off len h) (hb:w'.heap[b]? = w.heap[b]?):ZAt w' b off len h:=fun i hi=>(zH hb).trans (hh i hi)
theorem BlAt.blk {w w':World} {b off len:Nat} {h:Nat->Bool} (hh:BlAt w b off len h) (hb:w'.heap[b]? = w.heap[b]?):BlAt w' b off len h:=fun i hi=>(zH hb).trans (hh i hi)
structure qzo (w:World) (lo hi:Nat) (x:ShIn) (v:Value) (D1 D2 D3:Nat) (bs:Nat->Nat):Prop where
 val:v=shV x.on (some ⟨D1,0,none⟩) x.cn x.cn (some ⟨D2,0,none⟩) x.ol x.ol (some ⟨D3,0,none⟩) x.kn x.kn
 cc:ZAt w D1 0 x.cn x.cH
 cf:∀ j,w.frozen? ⟨D1,j,none⟩=false
 oo:BlAt w D2 0 x.ol x.oH
 fo:∀ j,w.frozen? ⟨D2,j,none⟩=false
 kk:qbr w D3 hi x.kn x.kL bs x.kH
 lo:lo<=D1
 o1:D1<D2
 o2:D2<D3
def IsSh (w:World) (lo hi:Nat) (x:ShIn) (v:Value):Prop:=∃ D1 D2 D3 bs,qzo w lo hi x v D1 D2 D3 bs
theorem IsSh.hi {w:World} {lo hi:Nat} {x:ShIn} {v:Value} (o:IsSh w lo hi x v):lo<hi/\hi<=w.heap.size:=by
 obtain ⟨D1,D2,D3,bs,o⟩:=o;have:=o.lo;have:=o.o1;have:=o.o2;have:=o.kk.lt;have:=o.kk.le;omega
theorem IsSh.keep {w w':World} {lo hi:Nat} {x:ShIn} {v:Value} (o:IsSh w lo hi x v) (hs:w.heap.size<=w'.heap.size) (hb:∀ k,lo<=k->k<hi->w'.heap[k]? = w.heap[k]?):IsSh w' lo hi x v:=by
 obtain ⟨D1,D2,D3,bs,o⟩:=o;have q0:=o.lo;have q1:=o.o1;have q2:=o.o2;have q3:=o.kk.lt;exact ⟨D1,D2,D3,bs,o.val,o.cc.blk (hb D1 (by omega) (by omega)),fun j=>(zI (hb D1 (by omega) (by omega))).trans (o.cf j),o.oo.blk (hb D2 (by omega) (by omega)),fun j=>(zI (hb D2 (by omega) (by omega))).trans (o.fo j),o.kk.keep hs fun k h1 h2=>hb k (by omega) h2,o.lo,o.o1,o.o2⟩
theorem IsSh.bw {w w':World} {lo hi:Nat} {x:ShIn} {v:Value} {B:Nat} (o:IsSh w lo hi x v) (hb:Below B w w') (hB:hi<=B):IsSh w' lo hi x v:=o.keep hb.size fun k _ h2=>hb.block k (by omega)
theorem qcc.keep {w w':World} {lo hi:Nat} {x:SysIn} {v:Value} (o:qcc w lo hi x v) (hs:w.heap.size<=w'.heap.size) (hb:∀ k,lo<=k->k<hi->w'.heap[k]? = w.heap[k]?):qcc w' lo hi x v:=by
 obtain ⟨D1,D2,D3,D4,b1,vs,b3,b4,h1,h2,h3,o⟩:=o;obtain ⟨q1,q2,q3,q4,q5⟩:=o.hi;have:=o.lo;have:=o.o1;have:=o.o2;have:=o.o3;have:=o.pp.lt;have:=o.ss.lt;have:=o.ww.lt;exact ⟨D1,D2,D3,D4,b1,vs,b3,b4,h1,h2,h3,o.val,o.pp.keep hs fun k _ _=>hb k (by omega) (by omega),o.ss.keep hs fun k _ _=>hb k (by omega) (by omega),o.ww.keep hs fun k _ _=>hb k (by omega) (by omega),o.hh.keep hs fun k _ _=>hb k (by omega) (by omega),o.lo,o.o1,o.o2,o.o3⟩
theorem qdf {w w':World} {B b:Nat} (hb:Below B w w') (h:b<B) (j:Nat):w'.frozen? ⟨b,j,none⟩=w.frozen? ⟨b,j,none⟩:=hb.frozen (p:=⟨b,j,none⟩) h
structure TC (w wx:World) (a0 a1 a2 a3 r0 r1 r2 r3 o0 o1 o2 o3:Value):Prop where
 p:BoxC wx w.heap.size a0 a1 a2 a3
 r:BoxC wx (w.heap.size+1) r0 r1 r2 r3
 o:BoxC wx (w.heap.size+1+1) o0 o1 o2 o3
 fr:∀ j,wx.frozen? ⟨w.heap.size+1,j,none⟩=false
 fo:∀ j,wx.frozen? ⟨w.heap.size+1+1,j,none⟩=false
 be:Below w.heap.size w wx
 le:w.heap.size+3<=wx.heap.size
section
variable {w wx w':World} {a0 a1 a2 a3 r0 r1 r2 r3 o0 o1 o2 o3:Value}
theorem TC.bw (h:TC w wx a0 a1 a2 a3 r0 r1 r2 r3 o0 o1 o2 o3) (hb:Below wx.heap.size wx w'):TC w w' a0 a1 a2 a3 r0 r1 r2 r3 o0 o1 o2 o3:=
 ⟨h.p.bw hb,h.r.bw hb,h.o.bw hb,fun j=>(hb.frozen (p:=⟨w.heap.size+1,j,none⟩) (by have:=h.le;show w.heap.size+1<_;omega)).trans (h.fr j),fun j=>(hb.frozen (p:=⟨w.heap.size+1+1,j,none⟩) (by have:=h.le;show w.heap.size+1+1<_;omega)).trans (h.fo j),h.be.trans (hb.mono h.be.size),zO h.le hb.size⟩
theorem TC.first (a0 a1 a2 a3 r0 r1 r2 r3 o0 o1 o2 o3:Value) (t1 t2:TypeId):TC w (((w.alloc (.cells #[a0,a1,a2,a3] t1)).alloc (.cells #[r0,r1,r2,r3] t2)).alloc (.cells #[o0,o1,o2,o3] t2)) a0 a1 a2 a3 r0 r1 r2 r3 o0 o1 o2 o3:=by
 have hb1:=qad (w.alloc (.cells #[a0,a1,a2,a3] t1)) (.cells #[r0,r1,r2,r3] t2);have hb2:=qad ((w.alloc (.cells #[a0,a1,a2,a3] t1)).alloc (.cells #[r0,r1,r2,r3] t2)) (.cells #[o0,o1,o2,o3] t2);have n0:=BoxC.new w a0 a1 a2 a3 t1;have n1:=BoxC.new (w.alloc (.cells #[a0,a1,a2,a3] t1)) r0 r1 r2 r3 t2;have n2:=BoxC.new ((w.alloc (.cells #[a0,a1,a2,a3] t1)).alloc (.cells #[r0,r1,r2,r3] t2)) o0 o1 o2 o3 t2;have f1:=fun j=>yA (w.alloc (.cells #[a0,a1,a2,a3] t1)) #[r0,r1,r2,r3] t2 j rfl;have f2:=fun j=>yA ((w.alloc (.cells #[a0,a1,a2,a3] t1)).alloc (.cells #[r0,r1,r2,r3] t2)) #[o0,o1,o2,o3] t2 j rfl;simp only [World.size_alloc] at n1 n2 f1 f2;refine ⟨(n0.bw hb1).bw hb2,n1.bw hb2,n2,fun j=>?_,f2,?_,by simp⟩
 ·exact (hb2.frozen (p:=⟨w.heap.size+1,j,none⟩) (by simp)).trans (f1 j)
 ·exact (((nE _ _).alloc (nA _) _).alloc (by simp) _).alloc (by simp;omega) _
theorem TC.set0 (h:TC w wx a0 a1 a2 a3 r0 r1 r2 r3 o0 o1 o2 o3) (u:Value):TC w (wx.setCell ⟨w.heap.size+1+1,0,none⟩ u) a0 a1 a2 a3 r0 r1 r2 r3 u o1 o2 o3:=by
 obtain ⟨q0,q1,q2,q3⟩:=h.o;have hc:∀ i,0≠i->(wx.setCell ⟨w.heap.size+1+1,0,none⟩ u).cell? ⟨w.heap.size+1+1,i,none⟩=wx.cell? ⟨w.heap.size+1+1,i,none⟩:=fun i hi=>World.cell?_setCell_other _ _ _ _ fun e=>hi (by injection e);exact ⟨h.p.setO (by omega),h.r.setO (by omega),⟨World.cell?_setCell_same _ _ _ q0,(hc _ (by omega)).trans q1,(hc _ (by omega)).trans q2,(hc _ (by omega)).trans q3⟩,fun j=>by rw [World.frozen?_setCell];exact h.fr j,fun j=>by rw [World.frozen?_setCell];exact h.fo j,h.be.setCell (by simp;omega) _,by simp;exact h.le⟩
theorem TC.set1 (h:TC w wx a0 a1 a2 a3 r0 r1 r2 r3 o0 o1 o2 o3) (u:Value):TC w (wx.setCell ⟨w.heap.size+1+1,1,none⟩ u) a0 a1 a2 a3 r0 r1 r2 r3 o0 u o2 o3:=by
 obtain ⟨q0,q1,q2,q3⟩:=h.o;have hc:∀ i,1≠i->(wx.setCell ⟨w.heap.size+1+1,1,none⟩ u).cell? ⟨w.heap.size+1+1,i,none⟩=wx.cell? ⟨w.heap.size+1+1,i,none⟩:=fun i hi=>World.cell?_setCell_other _ _ _ _ fun e=>hi (by injection e);exact ⟨h.p.setO (by omega),h.r.setO (by omega),⟨(hc _ (by omega)).trans q0,World.cell?_setCell_same _ _ _ q1,(hc _ (by omega)).trans q2,(hc _ (by omega)).trans q3⟩,fun j=>by rw [World.frozen?_setCell];exact h.fr j,fun j=>by rw [World.frozen?_setCell];exact h.fo j,h.be.setCell (by simp;omega) _,by simp;exact h.le⟩
theorem TC.set2 (h:TC w wx a0 a1 a2 a3 r0 r1 r2 r3 o0 o1 o2 o3) (u:Value):TC w (wx.setCell ⟨w.heap.size+1+1,2,none⟩ u) a0 a1 a2 a3 r0 r1 r2 r3 o0 o1 u o3:=by
 obtain ⟨q0,q1,q2,q3⟩:=h.o;have hc:∀ i,2≠i->(wx.setCell ⟨w.heap.size+1+1,2,none⟩ u).cell? ⟨w.heap.size+1+1,i,none⟩=wx.cell? ⟨w.heap.size+1+1,i,none⟩:=fun i hi=>World.cell?_setCell_other _ _ _ _ fun e=>hi (by injection e);exact ⟨h.p.setO (by omega),h.r.setO (by omega),⟨(hc _ (by omega)).trans q0,(hc _ (by omega)).trans q1,World.cell?_setCell_same _ _ _ q2,(hc _ (by omega)).trans q3⟩,fun j=>by rw [World.frozen?_setCell];exact h.fr j,fun j=>by rw [World.frozen?_setCell];exact h.fo j,h.be.setCell (by simp;omega) _,by simp;exact h.le⟩
end
theorem qua (x:ShIn) (W w:World) (hs:x.size<=1048576) (hA:x.Ok W) (hW:Below W.heap.size W w):
  Calls prog 24 #[shV x.on x.ca x.cn x.cc x.oa x.ol x.oc x.ka x.kn x.kc] w fun e w'=>∃ v,e=.returned v/\IsSh w' w.heap.size w'.heap.size x v/\Below w.heap.size w w':=by
 have hkn:x.kn<=1048576:=by unfold ShIn.size at hs;omega
 have HA:Hid (x.Ok W):=hA;have HW:Hid (Below W.heap.size W w):=hW;have HWs:Hid (W.heap.size<=w.heap.size):=hW.size;clear hA hW hs
 go_enter func24,ntmps24
 have T1:Hid (TC w (((w.alloc (.cells #[.bool x.on,.slice x.ca x.cn x.cc,.slice x.oa x.ol x.oc,.slice x.ka x.kn x.kc] 32)).alloc (zQ4)).alloc (oQ6 x.on none 0 0 none 0 0 none 0 0)) (.bool x.on) (.slice x.ca x.cn x.cc) (.slice x.oa x.ol x.oc) (.slice x.ka x.kn x.kc) (.bool false) nS nS nS (.bool x.on) nS nS nS):=TC.first _ _ _ _ _ _ _ _ _ _ _ _ _ _
 go_wp2_with fail
 generalize ((w.alloc (.cells #[.bool x.on,.slice x.ca x.cn x.cc,.slice x.oa x.ol x.oc,.slice x.ka x.kn x.kc] 32)).alloc (zQ4)).alloc (oQ6 x.on none 0 0 none 0 0 none 0 0)=wA at *;refine (HA.c wA (HW.trans (T1.be.mono HWs.out))).mono ?_;rintro e w1 ⟨rfl,i1,z1,b1,f1⟩;have zA:w.heap.size+3<=wA.heap.size:=T1.le;have T2:Hid (TC w w1 (.bool x.on) (.slice x.ca x.cn x.cc) (.slice x.oa x.ol x.oc) (.slice x.ka x.kn x.kc) (.bool false) nS nS nS (.bool x.on) nS nS nS):=T1.bw b1;have C1:Hid (ZAt w1 wA.heap.size 0 x.cn x.cH/\(∀ j,w1.frozen? ⟨wA.heap.size,j,none⟩=false)/\wA.heap.size<w1.heap.size):=⟨i1,f1,z1⟩
 clear i1 f1 z1 b1 T1;obtain ⟨⟨p0,p1,p2,p3⟩,-,⟨q0,q1,q2,q3⟩,-,fo,-,le⟩:=T2.out;go_wp2_with fail
 have T3:Hid (TC w (w1.setCell ⟨w.heap.size+1+1,1,none⟩ (sG wA.heap.size x.cn x.cn)) (.bool x.on) (.slice x.ca x.cn x.cc) (.slice x.oa x.ol x.oc) (.slice x.ka x.kn x.kc) (.bool false) nS nS nS (.bool x.on) (sG wA.heap.size x.cn x.cn) nS nS):=T2.set1 _;have C2:Hid (ZAt (w1.setCell ⟨w.heap.size+1+1,1,none⟩ (sG wA.heap.size x.cn x.cn)) wA.heap.size 0 x.cn x.cH/\(∀ j,(w1.setCell ⟨w.heap.size+1+1,1,none⟩ (sG wA.heap.size x.cn x.cn)).frozen? ⟨wA.heap.size,j,none⟩=false)/\wA.heap.size<(w1.setCell ⟨w.heap.size+1+1,1,none⟩ (sG wA.heap.size x.cn x.cn)).heap.size):=⟨C1.1.blk (zN _ _ _ _ (by simp;omega)),fun j=>by rw [World.frozen?_setCell];exact C1.2.1 j,by simp;exact C1.2.2⟩
 clear C1 T2 p0 p1 p2 p3 q0 q1 q2 q3 fo le;generalize w1.setCell ⟨w.heap.size+1+1,1,none⟩ (sG wA.heap.size x.cn x.cn)=wB at *;refine (HA.o wB (HW.trans (T3.be.mono HWs.out))).mono ?_;rintro e w2 ⟨rfl,i2,z2,b2,f2⟩;have zB:wA.heap.size<wB.heap.size:=C2.2.2;have T4:Hid (TC w w2 (.bool x.on) (.slice x.ca x.cn x.cc) (.slice x.oa x.ol x.oc) (.slice x.ka x.kn x.kc) (.bool false) nS nS nS (.bool x.on) (sG wA.heap.size x.cn x.cn) nS nS):=T3.bw b2;have C3:Hid (ZAt w2 wA.heap.size 0 x.cn x.cH/\(∀ j,w2.frozen? ⟨wA.heap.size,j,none⟩=false)):=⟨C2.1.bw b2 zB,fun j=>(qdf b2 zB j).trans (C2.2.1 j)⟩
 have O3:Hid (BlAt w2 wB.heap.size 0 x.ol x.oH/\(∀ j,w2.frozen? ⟨wB.heap.size,j,none⟩=false)/\wB.heap.size<w2.heap.size):=⟨i2,f2,z2⟩
 clear i2 f2 z2 b2 T3 C2;obtain ⟨⟨p0,p1,p2,p3⟩,-,⟨q0,q1,q2,q3⟩,-,fo,-,le⟩:=T4.out;go_wp2_with fail
 have T5:Hid (TC w (w2.setCell ⟨w.heap.size+1+1,2,none⟩ (sG wB.heap.size x.ol x.ol)) (.bool x.on) (.slice x.ca x.cn x.cc) (.slice x.oa x.ol x.oc) (.slice x.ka x.kn x.kc) (.bool false) nS nS nS (.bool x.on) (sG wA.heap.size x.cn x.cn) (sG wB.heap.size x.ol x.ol) nS):=T4.set2 _;have C4:Hid (ZAt (w2.setCell ⟨w.heap.size+1+1,2,none⟩ (sG wB.heap.size x.ol x.ol)) wA.heap.size 0 x.cn x.cH/\(∀ j,(w2.setCell ⟨w.heap.size+1+1,2,none⟩ (sG wB.heap.size x.ol x.ol)).frozen? ⟨wA.heap.size,j,none⟩=false)):=⟨C3.1.blk (zN _ _ _ _ (by simp;omega)),fun j=>by rw [World.frozen?_setCell];exact C3.2 j⟩
 have O4:Hid (BlAt (w2.setCell ⟨w.heap.size+1+1,2,none⟩ (sG wB.heap.size x.ol x.ol)) wB.heap.size 0 x.ol x.oH/\(∀ j,(w2.setCell ⟨w.heap.size+1+1,2,none⟩ (sG wB.heap.size x.ol x.ol)).frozen? ⟨wB.heap.size,j,none⟩=false)/\wB.heap.size<(w2.setCell ⟨w.heap.size+1+1,2,none⟩ (sG wB.heap.size x.ol x.ol)).heap.size):=⟨O3.1.blk (zN _ _ _ _ (by simp;omega)),fun j=>by rw [World.frozen?_setCell];exact O3.2.1 j,by simp;exact O3.2.2⟩
 clear C3 O3 T4 p0 p1 p2 p3 q0 q1 q2 q3 fo le;generalize w2.setCell ⟨w.heap.size+1+1,2,none⟩ (sG wB.heap.size x.ol x.ol)=wC at *;refine (qq4 _ _ _ _ x.kL _ x.kH W wC hkn HA.k (HW.trans (T5.be.mono HWs.out))).mono ?_;rintro e w3 ⟨rfl,⟨bs3,o3⟩,b3⟩;have zC:wB.heap.size<wC.heap.size:=O4.2.2;have T6:Hid (TC w w3 (.bool x.on) (.slice x.ca x.cn x.cc) (.slice x.oa x.ol x.oc) (.slice x.ka x.kn x.kc) (.bool false) nS nS nS (.bool x.on) (sG wA.heap.size x.cn x.cn) (sG wB.heap.size x.ol x.ol) nS):=T5.bw b3
 have HO:Hid (∀ W9:World,(∀ k,w.heap.size+3<=k->W9.heap[k]? = w3.heap[k]?)->W9.heap.size=w3.heap.size->IsSh W9 w.heap.size W9.heap.size x (shV x.on (some ⟨wA.heap.size,0,none⟩) x.cn x.cn (some ⟨wB.heap.size,0,none⟩) x.ol x.ol (some ⟨wC.heap.size,0,none⟩) x.kn x.kn)):=by
  intro W9 hk hz;have o3':qbr w3 wC.heap.size W9.heap.size x.kn x.kL bs3 x.kH:=hz ▸ o3;exact ⟨_,_,_,bs3,rfl,(C4.1.bw b3 (by omega)).blk (hk wA.heap.size (by omega)),fun j=>(zI (hk wA.heap.size (by omega))).trans ((qdf b3 (by omega) j).trans (C4.2 j)),(O4.1.bw b3 (by omega)).blk (hk wB.heap.size (by omega)),fun j=>(zI (hk wB.heap.size (by omega))).trans ((qdf b3 (by omega) j).trans (O4.2.1 j)),o3'.keep (by omega) fun k h1 _=>hk k (by omega),by omega,zB,zC⟩
 clear b3 T5 o3 C4 O4;obtain ⟨-,⟨r0,r1,r2,r3⟩,⟨q0,q1,q2,q3⟩,fr,fo,be,le⟩:=T6.out;have BE:Hid (Below w.heap.size w w3):=be;clear be T6;go_wp2;refine bodyPost_ret (v:=shV x.on (some ⟨wA.heap.size,0,none⟩) x.cn x.cn (some ⟨wB.heap.size,0,none⟩) x.ol x.ol (some ⟨wC.heap.size,0,none⟩) x.kn x.kn) (by simp [results,results24,go_sem,r0,r1,r2,r3]) rfl ⟨_,rfl,HO.out _ ?_ ?_,?_⟩
 ·intro k hk
  repeat (rw [zN _ _ _ _ (by simp;omega)])
 ·simp
 ·have:=BE.out
  go_grown
def qb1 (w:World) (lo hi:Nat) (x:LvIn) (v:Value):Prop:=∃ D1 D2 D3 D4 E1 E2 E3 m,v=.agg #[.slice (some ⟨D1,0,none⟩) x.s.pn x.s.pn,.slice (some ⟨D2,0,none⟩) x.s.sn x.s.sn,.slice (some ⟨D3,0,none⟩) x.s.wn x.s.wn,.slice (some ⟨D4,0,none⟩) x.s.hn x.s.hn,.bool x.h.on,.slice (some ⟨E1,0,none⟩) x.h.cn x.h.cn,.slice (some ⟨E2,0,none⟩) x.h.ol x.h.ol,.slice (some ⟨E3,0,none⟩) x.h.kn x.h.kn]/\qcc w lo m x.s (sysV (some ⟨D1,0,none⟩) x.s.pn x.s.pn (some ⟨D2,0,none⟩) x.s.sn x.s.sn (some ⟨D3,0,none⟩) x.s.wn x.s.wn (some ⟨D4,0,none⟩) x.s.hn x.s.hn)/\IsSh w m hi x.h (shV x.h.on (some ⟨E1,0,none⟩) x.h.cn x.h.cn (some ⟨E2,0,none⟩) x.h.ol x.h.ol (some ⟨E3,0,none⟩) x.h.kn x.h.kn)
theorem qcc.hi {w:World} {lo hi:Nat} {x:SysIn} {v:Value} (o:qcc w lo hi x v):lo<hi/\hi<=w.heap.size:=by
 obtain ⟨D1,D2,D3,D4,b1,vs,b3,b4,h1,h2,h3,o⟩:=o;exact ⟨o.hi.2.2.2.2,o.hi.2.2.2.1⟩
theorem qb1.hi {w:World} {lo hi:Nat} {x:LvIn} {v:Value} (o:qb1 w lo hi x v):lo<hi/\hi<=w.heap.size:=by
 obtain ⟨D1,D2,D3,D4,E1,E2,E3,m,-,o1,o2⟩:=o;have:=o1.hi;have:=o2.hi;omega
theorem qb1.keep {w w':World} {lo hi:Nat} {x:LvIn} {v:Value} (o:qb1 w lo hi x v) (hs:w.heap.size<=w'.heap.size) (hb:∀ k,lo<=k->k<hi->w'.heap[k]? = w.heap[k]?):qb1 w' lo hi x v:=by
 obtain ⟨D1,D2,D3,D4,E1,E2,E3,m,e,o1,o2⟩:=o;have q1:=o1.hi;have q2:=o2.hi;exact ⟨D1,D2,D3,D4,E1,E2,E3,m,e,o1.keep hs fun k h1 h2=>hb k h1 (by omega),o2.keep hs fun k h1 h2=>hb k (by omega) h2⟩
theorem qb1.bw {w w':World} {lo hi:Nat} {x:LvIn} {v:Value} {B:Nat} (o:qb1 w lo hi x v) (hb:Below B w w') (hB:hi<=B):qb1 w' lo hi x v:=o.keep hb.size fun k _ h2=>hb.block k (by omega)
theorem qcc.val {w:World} {lo hi:Nat} {x:SysIn} {v:Value} (o:qcc w lo hi x v):∃ D1 D2 D3 D4,v=sysV (some ⟨D1,0,none⟩) x.pn x.pn (some ⟨D2,0,none⟩) x.sn x.sn (some ⟨D3,0,none⟩) x.wn x.wn (some ⟨D4,0,none⟩) x.hn x.hn:=by
 obtain ⟨D1,D2,D3,D4,b1,vs,b3,b4,h1,h2,h3,o⟩:=o;exact ⟨D1,D2,D3,D4,o.val⟩
theorem IsSh.val {w:World} {lo hi:Nat} {x:ShIn} {v:Value} (o:IsSh w lo hi x v):∃ E1 E2 E3,v=shV x.on (some ⟨E1,0,none⟩) x.cn x.cn (some ⟨E2,0,none⟩) x.ol x.ol (some ⟨E3,0,none⟩) x.kn x.kn:=by
 obtain ⟨D1,D2,D3,bs,o⟩:=o;exact ⟨D1,D2,D3,o.val⟩
structure TH (w wx:World) (a:Nat->Value) (o:Nat->Value):Prop where
 p:∀ i,i<8->wx.cell? ⟨w.heap.size,i,none⟩=some (a i)
 r:BoxH wx (w.heap.size+1) nS nS nS nS (.bool false) nS nS nS
 o:∀ i,i<8->wx.cell? ⟨w.heap.size+1+1,i,none⟩=some (o i)
 fr:∀ j,wx.frozen? ⟨w.heap.size+1,j,none⟩=false
 fo:∀ j,wx.frozen? ⟨w.heap.size+1+1,j,none⟩=false
 be:Below w.heap.size w wx
 le:w.heap.size+3<=wx.heap.size
theorem TH.bw {w wx w':World} {a o:Nat->Value} (h:TH w wx a o) (hb:Below wx.heap.size wx w'):TH w w' a o:=by
 have hl:=h.le;exact ⟨fun i hi=>(zH (hb.block w.heap.size (by omega))).trans (h.p i hi),h.r.bw hb,fun i hi=>(zH (hb.block (w.heap.size+1+1) (by omega))).trans (h.o i hi),fun j=>(qdf hb (by omega) j).trans (h.fr j),fun j=>(qdf hb (by omega) j).trans (h.fo j),h.be.trans (hb.mono h.be.size),zO hl hb.size⟩
theorem TH.set {w wx:World} {a o:Nat->Value} (h:TH w wx a o) (k:Nat) (hk:k<8) (u:Value):TH w (wx.setCell ⟨w.heap.size+1+1,k,none⟩ u) a (fun i=>if i=k then u else o i):=by
 have hl:=h.le;have hne:∀ b,b≠w.heap.size+1+1->(wx.setCell ⟨w.heap.size+1+1,k,none⟩ u).heap[b]? = wx.heap[b]?:=fun b hb=>zN _ _ _ _ hb;refine ⟨fun i hi=>(zH (hne w.heap.size (by omega))).trans (h.p i hi),h.r.blk (hne _ (by omega)),fun i hi=>?_,fun j=>by rw [World.frozen?_setCell];exact h.fr j,fun j=>by rw [World.frozen?_setCell];exact h.fo j,h.be.setCell (by simp;omega) _,by simp;exact hl⟩;by_cases e:i=k
 ·subst e
  rw [nC rfl];exact World.cell?_setCell_same _ _ _ (h.o i hi)
 ·rw [nB e]
  exact (World.cell?_setCell_other _ _ _ _ fun e'=>e (by injection e' with _ e';exact e'.symm)).trans (h.o i hi)
def v8 (c0 c1 c2 c3 c4 c5 c6 c7:Value):Nat->Value
 | 0=>c0 | 1=>c1 | 2=>c2 | 3=>c3 | 4=>c4 | 5=>c5 | 6=>c6 | _=>c7
theorem box8 {w:World} {b:Nat} {c0 c1 c2 c3 c4 c5 c6 c7:Value} (h:BoxH w b c0 c1 c2 c3 c4 c5 c6 c7):∀ i,i<8->w.cell? ⟨b,i,none⟩=some (v8 c0 c1 c2 c3 c4 c5 c6 c7 i):=by
 intro i hi;obtain ⟨h0,h1,h2,h3,h4,h5,h6,h7⟩:=h
 match i,hi with
 | 0,_=>exact h0
 | 1,_=>exact h1
 | 2,_=>exact h2
 | 3,_=>exact h3
 | 4,_=>exact h4
 | 5,_=>exact h5
 | 6,_=>exact h6
 | 7,_=>exact h7
theorem TH.first {w:World} (a0 a1 a2 a3 a4 a5 a6 a7:Value) (t1 t2:TypeId):TH w (((w.alloc (.cells #[a0,a1,a2,a3,a4,a5,a6,a7] t1)).alloc (.cells #[nS,nS,nS,nS,.bool false,nS,nS,nS] t2)).alloc (.cells #[nS,nS,nS,nS,.bool false,nS,nS,nS] t2)) (v8 a0 a1 a2 a3 a4 a5 a6 a7) (v8 nS nS nS nS (.bool false) nS nS nS):=by
 have hb1:=qad (w.alloc (.cells #[a0,a1,a2,a3,a4,a5,a6,a7] t1)) (.cells #[nS,nS,nS,nS,.bool false,nS,nS,nS] t2);have hb2:=qad ((w.alloc (.cells #[a0,a1,a2,a3,a4,a5,a6,a7] t1)).alloc (.cells #[nS,nS,nS,nS,.bool false,nS,nS,nS] t2)) (.cells #[nS,nS,nS,nS,.bool false,nS,nS,nS] t2);have n0:=BoxH.new w a0 a1 a2 a3 a4 a5 a6 a7 t1;have n1:=BoxH.new (w.alloc (.cells #[a0,a1,a2,a3,a4,a5,a6,a7] t1)) nS nS nS nS (.bool false) nS nS nS t2;have n2:=BoxH.new ((w.alloc (.cells #[a0,a1,a2,a3,a4,a5,a6,a7] t1)).alloc (.cells #[nS,nS,nS,nS,.bool false,nS,nS,nS] t2)) nS nS nS nS (.bool false) nS nS nS t2;have f1:=fun j=>yA (w.alloc (.cells #[a0,a1,a2,a3,a4,a5,a6,a7] t1)) #[nS,nS,nS,nS,.bool false,nS,nS,nS] t2 j rfl;have f2:=fun j=>yA ((w.alloc (.cells #[a0,a1,a2,a3,a4,a5,a6,a7] t1)).alloc (.cells #[nS,nS,nS,nS,.bool false,nS,nS,nS] t2)) #[nS,nS,nS,nS,.bool false,nS,nS,nS] t2 j rfl;simp only [World.size_alloc] at n1 n2 f1 f2;refine ⟨box8 ((n0.bw hb1).bw hb2),n1.bw hb2,box8 n2,fun j=>?_,f2,?_,by simp⟩
 ·exact (hb2.frozen (p:=⟨w.heap.size+1,j,none⟩) (by simp)).trans (f1 j)
 ·exact (((nE _ _).alloc (nA _) _).alloc (by simp) _).alloc (by simp;omega) _
theorem qep (x:LvIn) (W w:World) (hs:x.size<=1048576) (hA:x.Ok W) (hW:Below W.heap.size W w):
  Calls prog 8 #[x.v] w fun e w'=>∃ v,e=.returned v/\qb1 w' w.heap.size w'.heap.size x v/\Below w.heap.size w w':=by
 have hz1:x.s.size<=1048576:=by unfold LvIn.size at hs;omega
 have hz2:x.h.size<=1048576:=by unfold LvIn.size at hs;omega
 have HA:Hid (x.Ok W):=hA;have HW:Hid (Below W.heap.size W w):=hW;have HWs:Hid (W.heap.size<=w.heap.size):=hW.size;clear hA hW hs
 go_enter func8,ntmps8
 have T1:Hid (TH w (((w.alloc (oQ5 x.s.pa x.s.pn x.s.pc x.s.sa x.s.sn x.s.sc x.s.wa x.s.wn x.s.wc x.s.ha x.s.hn x.s.hc x.h.on x.h.ca x.h.cn x.h.cc x.h.oa x.h.ol x.h.oc x.h.ka x.h.kn x.h.kc)).alloc (zQ5)).alloc (zQ5)) (v8 (.slice x.s.pa x.s.pn x.s.pc) (.slice x.s.sa x.s.sn x.s.sc) (.slice x.s.wa x.s.wn x.s.wc) (.slice x.s.ha x.s.hn x.s.hc) (.bool x.h.on) (.slice x.h.ca x.h.cn x.h.cc) (.slice x.h.oa x.h.ol x.h.oc) (.slice x.h.ka x.h.kn x.h.kc)) (v8 nS nS nS nS (.bool false) nS nS nS)):=TH.first _ _ _ _ _ _ _ _ _ _
 go_wp2_with fail
 generalize ((w.alloc (oQ5 x.s.pa x.s.pn x.s.pc x.s.sa x.s.sn x.s.sc x.s.wa x.s.wn x.s.wc x.s.ha x.s.hn x.s.hc x.h.on x.h.ca x.h.cn x.h.cc x.h.oa x.h.ol x.h.oc x.h.ka x.h.kn x.h.kc)).alloc (zQ5)).alloc (zQ5)=wA at *;refine (qv4 x.s W wA hz1 HA.s (HW.trans (T1.be.mono HWs.out))).mono ?_;rintro e w1 ⟨v1,rfl,o1,b1⟩;obtain ⟨D1,D2,D3,D4,rfl⟩:=o1.val;have T2:Hid (TH w w1 (v8 (.slice x.s.pa x.s.pn x.s.pc) (.slice x.s.sa x.s.sn x.s.sc) (.slice x.s.wa x.s.wn x.s.wc) (.slice x.s.ha x.s.hn x.s.hc) (.bool x.h.on) (.slice x.h.ca x.h.cn x.h.cc) (.slice x.h.oa x.h.ol x.h.oc) (.slice x.h.ka x.h.kn x.h.kc)) (v8 nS nS nS nS (.bool false) nS nS nS)):=T1.bw b1;have S1:Hid (qcc w1 wA.heap.size w1.heap.size x.s (sysV (some ⟨D1,0,none⟩) x.s.pn x.s.pn (some ⟨D2,0,none⟩) x.s.sn x.s.sn (some ⟨D3,0,none⟩) x.s.wn x.s.wn (some ⟨D4,0,none⟩) x.s.hn x.s.hn)):=o1;have zA:w.heap.size+3<=wA.heap.size:=T1.le;clear o1 b1 T1;have p0:=T2.p 0 (by omega);have p1:=T2.p 1 (by omega);have p2:=T2.p 2 (by omega);have p3:=T2.p 3 (by omega);have p4:=T2.p 4 (by omega);have p5:=T2.p 5 (by omega);have p6:=T2.p 6 (by omega);have p7:=T2.p 7 (by omega);have q0:=T2.o 0 (by omega);have q1:=T2.o 1 (by omega);have q2:=T2.o 2 (by omega);have q3:=T2.o 3 (by omega);have fo:=T2.fo;simp only [v8] at p0 p1 p2 p3 p4 p5 p6 p7 q0 q1 q2 q3;have T3:Hid (TH w ((((w1.setCell ⟨w.heap.size+1+1,0,none⟩ (sG D1 x.s.pn x.s.pn)).setCell ⟨w.heap.size+1+1,1,none⟩ (sG D2 x.s.sn x.s.sn)).setCell ⟨w.heap.size+1+1,2,none⟩ (sG D3 x.s.wn x.s.wn)).setCell ⟨w.heap.size+1+1,3,none⟩ (sG D4 x.s.hn x.s.hn)) (v8 (.slice x.s.pa x.s.pn x.s.pc) (.slice x.s.sa x.s.sn x.s.sc) (.slice x.s.wa x.s.wn x.s.wc) (.slice x.s.ha x.s.hn x.s.hc) (.bool x.h.on) (.slice x.h.ca x.h.cn x.h.cc) (.slice x.h.oa x.h.ol x.h.oc) (.slice x.h.ka x.h.kn x.h.kc)) (fun i=>if i=3 then .slice (some ⟨D4,0,none⟩) x.s.hn x.s.hn else if i=2 then .slice (some ⟨D3,0,none⟩) x.s.wn x.s.wn else if i=1 then .slice (some ⟨D2,0,none⟩) x.s.sn x.s.sn else if i=0 then .slice (some ⟨D1,0,none⟩) x.s.pn x.s.pn else v8 nS nS nS nS (.bool false) nS nS nS i)):=(((T2.set 0 (by omega) _).set 1 (by omega) _).set 2 (by omega) _).set 3 (by omega) _
 have S2:Hid (qcc ((((w1.setCell ⟨w.heap.size+1+1,0,none⟩ (sG D1 x.s.pn x.s.pn)).setCell ⟨w.heap.size+1+1,1,none⟩ (sG D2 x.s.sn x.s.sn)).setCell ⟨w.heap.size+1+1,2,none⟩ (sG D3 x.s.wn x.s.wn)).setCell ⟨w.heap.size+1+1,3,none⟩ (sG D4 x.s.hn x.s.hn)) wA.heap.size ((((w1.setCell ⟨w.heap.size+1+1,0,none⟩ (sG D1 x.s.pn x.s.pn)).setCell ⟨w.heap.size+1+1,1,none⟩ (sG D2 x.s.sn x.s.sn)).setCell ⟨w.heap.size+1+1,2,none⟩ (sG D3 x.s.wn x.s.wn)).setCell ⟨w.heap.size+1+1,3,none⟩ (sG D4 x.s.hn x.s.hn)).heap.size x.s (sysV (some ⟨D1,0,none⟩) x.s.pn x.s.pn (some ⟨D2,0,none⟩) x.s.sn x.s.sn (some ⟨D3,0,none⟩) x.s.wn x.s.wn (some ⟨D4,0,none⟩) x.s.hn x.s.hn)):=by
  have:=S1.keep (w':=(((w1.setCell ⟨w.heap.size+1+1,0,none⟩ (sG D1 x.s.pn x.s.pn)).setCell ⟨w.heap.size+1+1,1,none⟩ (sG D2 x.s.sn x.s.sn)).setCell ⟨w.heap.size+1+1,2,none⟩ (sG D3 x.s.wn x.s.wn)).setCell ⟨w.heap.size+1+1,3,none⟩ (sG D4 x.s.hn x.s.hn)) (by simp) fun k h1 _=>by
   repeat (rw [zN _ _ _ _ (by simp;omega)])
  have ez:((((w1.setCell ⟨w.heap.size+1+1,0,none⟩ (sG D1 x.s.pn x.s.pn)).setCell ⟨w.heap.size+1+1,1,none⟩ (sG D2 x.s.sn x.s.sn)).setCell ⟨w.heap.size+1+1,2,none⟩ (sG D3 x.s.wn x.s.wn)).setCell ⟨w.heap.size+1+1,3,none⟩ (sG D4 x.s.hn x.s.hn)).heap.size=w1.heap.size:=by simp
  rw [ez];exact this
 clear T2 S1;go_wp2_with fail
 generalize (((w1.setCell ⟨w.heap.size+1+1,0,none⟩ (sG D1 x.s.pn x.s.pn)).setCell ⟨w.heap.size+1+1,1,none⟩ (sG D2 x.s.sn x.s.sn)).setCell ⟨w.heap.size+1+1,2,none⟩ (sG D3 x.s.wn x.s.wn)).setCell ⟨w.heap.size+1+1,3,none⟩ (sG D4 x.s.hn x.s.hn)=wB at *;clear p0 p1 p2 p3 p4 p5 p6 p7 q0 q1 q2 q3 fo;refine (qua x.h W wB hz2 HA.h (HW.trans (T3.be.mono HWs.out))).mono ?_;rintro e w2 ⟨v2,rfl,o2,b2⟩;obtain ⟨E1,E2,E3,rfl⟩:=o2.val;have T4:=T3.bw b2
 have HO:Hid (∀ W9:World,(∀ k,w.heap.size+3<=k->W9.heap[k]? = w2.heap[k]?)->W9.heap.size=w2.heap.size->qb1 W9 w.heap.size W9.heap.size x (.agg #[.slice (some ⟨D1,0,none⟩) x.s.pn x.s.pn,.slice (some ⟨D2,0,none⟩) x.s.sn x.s.sn,.slice (some ⟨D3,0,none⟩) x.s.wn x.s.wn,.slice (some ⟨D4,0,none⟩) x.s.hn x.s.hn,.bool x.h.on,.slice (some ⟨E1,0,none⟩) x.h.cn x.h.cn,.slice (some ⟨E2,0,none⟩) x.h.ol x.h.ol,.slice (some ⟨E3,0,none⟩) x.h.kn x.h.kn])):=by
  intro W9 hk hz;have o2':IsSh w2 wB.heap.size W9.heap.size x.h (shV x.h.on (some ⟨E1,0,none⟩) x.h.cn x.h.cn (some ⟨E2,0,none⟩) x.h.ol x.h.ol (some ⟨E3,0,none⟩) x.h.kn x.h.kn):=hz ▸ o2;have q1:=S2.hi;have q2:=o2'.hi;have o1':qcc W9 wA.heap.size wB.heap.size x.s (sysV (some ⟨D1,0,none⟩) x.s.pn x.s.pn (some ⟨D2,0,none⟩) x.s.sn x.s.sn (some ⟨D3,0,none⟩) x.s.wn x.s.wn (some ⟨D4,0,none⟩) x.s.hn x.s.hn):=(S2.bw b2 (nA _)).keep (by omega) fun k h1 _=>hk k (by omega);refine ⟨D1,D2,D3,D4,E1,E2,E3,wB.heap.size,rfl,?_,o2'.keep (by omega) fun k h1 _=>hk k (by omega)⟩;obtain ⟨C1,C2,C3,C4,b1,vs,b3,b4,h1,h2,h3,o⟩:=o1';exact ⟨C1,C2,C3,C4,b1,vs,b3,b4,h1,h2,h3,o.val,o.pp,o.ss,o.ww,o.hh,by have:=o.lo;omega,o.o1,o.o2,o.o3⟩
 clear b2 T3 o2 S2;obtain ⟨-,⟨r0,r1,r2,r3,r4,r5,r6,r7⟩,ho,fr,fo,be,le⟩:=T4;have q0:=ho 0 (by omega);have q1:=ho 1 (by omega);have q2:=ho 2 (by omega);have q3:=ho 3 (by omega);have q4:=ho 4 (by omega);have q5:=ho 5 (by omega);have q6:=ho 6 (by omega);have q7:=ho 7 (by omega);simp [v8] at q0 q1 q2 q3 q4 q5 q6 q7;have BE:Hid (Below w.heap.size w w2):=be;clear be ho;go_wp2;refine bodyPost_ret (v:=.agg #[.slice (some ⟨D1,0,none⟩) x.s.pn x.s.pn,.slice (some ⟨D2,0,none⟩) x.s.sn x.s.sn,.slice (some ⟨D3,0,none⟩) x.s.wn x.s.wn,.slice (some ⟨D4,0,none⟩) x.s.hn x.s.hn,.bool x.h.on,.slice (some ⟨E1,0,none⟩) x.h.cn x.h.cn,.slice (some ⟨E2,0,none⟩) x.h.ol x.h.ol,.slice (some ⟨E3,0,none⟩) x.h.kn x.h.kn]) (by simp [results,results8,go_sem,r0,r1,r2,r3,r4,r5,r6,r7]) rfl ⟨_,rfl,HO.out _ ?_ ?_,?_⟩
 ·intro k hk
  repeat (rw [zN _ _ _ _ (by simp;omega)])
 ·simp
 ·have:=BE.out
  go_grown
theorem ShIn.lens {x:ShIn} (h:x.size<=1048576):x.cn<=1048576/\x.ol<=1048576/\x.kn<=1048576/\sumL x.kL x.kn<=1048576:=by
 unfold ShIn.size at h;omega
structure B44 (w wx:World) (a0 a1 a2 a3 c0 c1 c2 c3:Value):Prop where
 p:BoxC wx w.heap.size a0 a1 a2 a3
 q:BoxC wx (w.heap.size+1) c0 c1 c2 c3
 be:Below w.heap.size w wx
 le:w.heap.size+2<=wx.heap.size
theorem B44.bw {w wx w':World} {a0 a1 a2 a3 c0 c1 c2 c3:Value} (h:B44 w wx a0 a1 a2 a3 c0 c1 c2 c3) (hb:Below wx.heap.size wx w'):B44 w w' a0 a1 a2 a3 c0 c1 c2 c3:=⟨h.p.bw hb,h.q.bw hb,h.be.trans (hb.mono h.be.size),zO h.le hb.size⟩
theorem B44.new (w:World) (a0 a1 a2 a3 c0 c1 c2 c3:Value) (t:TypeId):B44 w ((w.alloc (.cells #[a0,a1,a2,a3] t)).alloc (.cells #[c0,c1,c2,c3] t)) a0 a1 a2 a3 c0 c1 c2 c3:=by
 have n1:=BoxC.new w a0 a1 a2 a3 t;have n2:=BoxC.new (w.alloc (.cells #[a0,a1,a2,a3] t)) c0 c1 c2 c3 t;simp only [World.size_alloc] at n2;exact ⟨n1.bw (qad _ _),n2,((nE _ _).alloc (nA _) _).alloc (by simp) _,by simp⟩
theorem qp0 (x:ShIn) (l1 u1 l2 u2:Nat) (v1 v2:Value) (w:World) (hs:x.size<=1048576) (o1:IsSh w l1 u1 x v1) (o2:IsSh w l2 u2 x v2):
  Calls prog 33 #[v1,v2] w (rB w (.bool true)):=by
 obtain ⟨E1,E2,E3,b1,o1⟩:=o1;obtain ⟨G1,G2,G3,b2,o2⟩:=o2;have HS:Hid (x.size<=1048576):=hs;have y1:=o1.kk.lt;have y2:=o1.kk.le;have y3:=o1.o1;have y4:=o1.o2;have z1:=o2.kk.lt;have z2:=o2.kk.le;have z3:=o2.o1;have z4:=o2.o2;have ltE:E1<w.heap.size/\E2<w.heap.size:=by omega
 have ltG:G1<w.heap.size/\G2<w.heap.size:=by omega
 obtain ⟨rfl,p1,-,p2,-,p3,-,-,-⟩:=o1;obtain ⟨rfl,q1,-,q2,-,q3,-,-,-⟩:=o2;have P:Hid (ZAt w E1 0 x.cn x.cH/\BlAt w E2 0 x.ol x.oH/\qbr w E3 u1 x.kn x.kL b1 x.kH/\E1<w.heap.size/\E2<w.heap.size):=⟨p1,p2,p3,ltE⟩
 have Q:Hid (ZAt w G1 0 x.cn x.cH/\BlAt w G2 0 x.ol x.oH/\qbr w G3 u2 x.kn x.kL b2 x.kH/\G1<w.heap.size/\G2<w.heap.size):=⟨q1,q2,q3,ltG⟩
 have hon:(x.on != x.on)=false:=by simp
 clear p1 p2 p3 q1 q2 q3 ltE ltG y1 y2 y3 y4 z1 z2 z3 z4 hs
 go_enter func33,ntmps33
 have X0:Hid (B44 w ((w.alloc (oQ6 x.on (some ⟨E1,0,none⟩) x.cn x.cn (some ⟨E2,0,none⟩) x.ol x.ol (some ⟨E3,0,none⟩) x.kn x.kn)).alloc (oQ6 x.on (some ⟨G1,0,none⟩) x.cn x.cn (some ⟨G2,0,none⟩) x.ol x.ol (some ⟨G3,0,none⟩) x.kn x.kn)) (.bool x.on) (sG E1 x.cn x.cn) (sG E2 x.ol x.ol) (sG E3 x.kn x.kn) (.bool x.on) (sG G1 x.cn x.cn) (sG G2 x.ol x.ol) (sG G3 x.kn x.kn)):=B44.new _ _ _ _ _ _ _ _ _ _;obtain ⟨⟨p0,p1,p2,p3⟩,⟨q0,q1,q2,q3⟩,-,le⟩:=X0.out;go_wp2_with fail
 clear p0 p1 p2 p3 q0 q1 q2 q3 le;generalize (w.alloc (oQ6 x.on (some ⟨E1,0,none⟩) x.cn x.cn (some ⟨E2,0,none⟩) x.ol x.ol (some ⟨E3,0,none⟩) x.kn x.kn)).alloc (oQ6 x.on (some ⟨G1,0,none⟩) x.cn x.cn (some ⟨G2,0,none⟩) x.ol x.ol (some ⟨G3,0,none⟩) x.kn x.kn)=wA at *;refine (qg8 E1 G1 x.cn x.cn x.cn x.cH wA (ShIn.lens HS.out).1 (zL P.2.2.2.1 X0.be.size) (zL Q.2.2.2.1 X0.be.size) (P.1.bw X0.be P.2.2.2.1) (Q.1.bw X0.be Q.2.2.2.1)).mono ?_;rintro e w1 ⟨rfl,b1⟩;have X1:Hid (B44 w w1 (.bool x.on) (sG E1 x.cn x.cn) (sG E2 x.ol x.ol) (sG E3 x.kn x.kn) (.bool x.on) (sG G1 x.cn x.cn) (sG G2 x.ol x.ol) (sG G3 x.kn x.kn)):=X0.bw b1;clear b1 X0;obtain ⟨⟨p0,p1,p2,p3⟩,⟨q0,q1,q2,q3⟩,-,le⟩:=X1.out;go_wp2_with fail
 clear p0 p1 p2 p3 q0 q1 q2 q3 le;refine (qkr E2 G2 x.ol x.ol x.ol x.oH w1 (ShIn.lens HS.out).2.1 (zL P.2.2.2.2 X1.be.size) (zL Q.2.2.2.2 X1.be.size) (P.2.1.bw X1.be P.2.2.2.2) (Q.2.1.bw X1.be Q.2.2.2.2)).mono ?_;rintro e w2 ⟨rfl,b2⟩;have X2:Hid (B44 w w2 (.bool x.on) (sG E1 x.cn x.cn) (sG E2 x.ol x.ol) (sG E3 x.kn x.kn) (.bool x.on) (sG G1 x.cn x.cn) (sG G2 x.ol x.ol) (sG G3 x.kn x.kn)):=X1.bw b2;clear b2 X1;obtain ⟨⟨p0,p1,p2,p3⟩,⟨q0,q1,q2,q3⟩,-,le⟩:=X2.out;go_wp2_with fail
 clear p0 p1 p2 p3 q0 q1 q2 q3 le;refine (qm9 E3 u1 G3 u2 x.kn _ _ x.kL b1 b2 x.kH _ (ShIn.lens HS.out).2.2.1 (qc7 (ShIn.lens HS.out).2.2.2) (P.2.2.1.bw X2.be P.2.2.1.le) (Q.2.2.1.bw X2.be Q.2.2.1.le)).mono ?_;rintro e w3 ⟨rfl,b3⟩;have BE:Hid (Below w.heap.size w w3):=(X2.bw b3).be;clear X2 b3;go_wp2;go_ret;exact ⟨rfl,BE.out⟩
structure B88 (w wx:World) (a:Nat->Value) (c:Nat->Value):Prop where
 p:∀ i,i<8->wx.cell? ⟨w.heap.size,i,none⟩=some (a i)
 q:∀ i,i<8->wx.cell? ⟨w.heap.size+1,i,none⟩=some (c i)
 be:Below w.heap.size w wx
 le:w.heap.size+2<=wx.heap.size
theorem B88.bw {w wx w':World} {a c:Nat->Value} (h:B88 w wx a c) (hb:Below wx.heap.size wx w'):B88 w w' a c:=by
 have hl:=h.le;exact ⟨fun i hi=>(zH (hb.block w.heap.size (by omega))).trans (h.p i hi),fun i hi=>(zH (hb.block (w.heap.size+1) (by omega))).trans (h.q i hi),h.be.trans (hb.mono h.be.size),zO h.le hb.size⟩
theorem B88.new (w:World) (a0 a1 a2 a3 a4 a5 a6 a7 c0 c1 c2 c3 c4 c5 c6 c7:Value) (t:TypeId):B88 w ((w.alloc (.cells #[a0,a1,a2,a3,a4,a5,a6,a7] t)).alloc (.cells #[c0,c1,c2,c3,c4,c5,c6,c7] t)) (v8 a0 a1 a2 a3 a4 a5 a6 a7) (v8 c0 c1 c2 c3 c4 c5 c6 c7):=by
 have n1:=BoxH.new w a0 a1 a2 a3 a4 a5 a6 a7 t;have n2:=BoxH.new (w.alloc (.cells #[a0,a1,a2,a3,a4,a5,a6,a7] t)) c0 c1 c2 c3 c4 c5 c6 c7 t;simp only [World.size_alloc] at n2;exact ⟨box8 (n1.bw (qad _ _)),box8 n2,((nE _ _).alloc (nA _) _).alloc (by simp) _,by simp⟩
theorem qpz (x:LvIn) (l1 u1 l2 u2:Nat) (v1 v2:Value) (w:World) (hs:x.size<=1048576) (o1:qb1 w l1 u1 x v1) (o2:qb1 w l2 u2 x v2):
  Calls prog 10 #[v1,v2] w (rB w (.bool true)):=by
 have hz1:x.s.size<=1048576:=by unfold LvIn.size at hs;omega
 have hz2:x.h.size<=1048576:=by unfold LvIn.size at hs;omega
 obtain ⟨D1,D2,D3,D4,E1,E2,E3,m1,rfl,s1,h1⟩:=o1;obtain ⟨F1,F2,F3,F4,G1,G2,G3,m2,rfl,s2,h2⟩:=o2;have S1:Hid (qcc w l1 m1 x.s (sysV (some ⟨D1,0,none⟩) x.s.pn x.s.pn (some ⟨D2,0,none⟩) x.s.sn x.s.sn (some ⟨D3,0,none⟩) x.s.wn x.s.wn (some ⟨D4,0,none⟩) x.s.hn x.s.hn)):=s1;have S2:Hid (qcc w l2 m2 x.s (sysV (some ⟨F1,0,none⟩) x.s.pn x.s.pn (some ⟨F2,0,none⟩) x.s.sn x.s.sn (some ⟨F3,0,none⟩) x.s.wn x.s.wn (some ⟨F4,0,none⟩) x.s.hn x.s.hn)):=s2;have H1:Hid (IsSh w m1 u1 x.h (shV x.h.on (some ⟨E1,0,none⟩) x.h.cn x.h.cn (some ⟨E2,0,none⟩) x.h.ol x.h.ol (some ⟨E3,0,none⟩) x.h.kn x.h.kn)):=h1;have H2:Hid (IsSh w m2 u2 x.h (shV x.h.on (some ⟨G1,0,none⟩) x.h.cn x.h.cn (some ⟨G2,0,none⟩) x.h.ol x.h.ol (some ⟨G3,0,none⟩) x.h.kn x.h.kn)):=h2;clear s1 s2 h1 h2 hs
 go_enter func10,ntmps10
 have X0:Hid (B88 w ((w.alloc (oQ7 (some ⟨D1,0,none⟩) x.s.pn x.s.pn (some ⟨D2,0,none⟩) x.s.sn x.s.sn (some ⟨D3,0,none⟩) x.s.wn x.s.wn (some ⟨D4,0,none⟩) x.s.hn x.s.hn x.h.on (some ⟨E1,0,none⟩) x.h.cn x.h.cn (some ⟨E2,0,none⟩) x.h.ol x.h.ol (some ⟨E3,0,none⟩) x.h.kn x.h.kn)).alloc (oQ7 (some ⟨F1,0,none⟩) x.s.pn x.s.pn (some ⟨F2,0,none⟩) x.s.sn x.s.sn (some ⟨F3,0,none⟩) x.s.wn x.s.wn (some ⟨F4,0,none⟩) x.s.hn x.s.hn x.h.on (some ⟨G1,0,none⟩) x.h.cn x.h.cn (some ⟨G2,0,none⟩) x.h.ol x.h.ol (some ⟨G3,0,none⟩) x.h.kn x.h.kn)) (v8 (sG D1 x.s.pn x.s.pn) (sG D2 x.s.sn x.s.sn) (sG D3 x.s.wn x.s.wn) (sG D4 x.s.hn x.s.hn) (.bool x.h.on) (sG E1 x.h.cn x.h.cn) (sG E2 x.h.ol x.h.ol) (sG E3 x.h.kn x.h.kn)) (v8 (sG F1 x.s.pn x.s.pn) (sG F2 x.s.sn x.s.sn) (sG F3 x.s.wn x.s.wn) (sG F4 x.s.hn x.s.hn) (.bool x.h.on) (sG G1 x.h.cn x.h.cn) (sG G2 x.h.ol x.h.ol) (sG G3 x.h.kn x.h.kn))):=B88.new _ _ _ _ _ _ _ _ _ _ _ _ _ _ _ _ _ _;go_wp2_with fail
 generalize (w.alloc (oQ7 (some ⟨D1,0,none⟩) x.s.pn x.s.pn (some ⟨D2,0,none⟩) x.s.sn x.s.sn (some ⟨D3,0,none⟩) x.s.wn x.s.wn (some ⟨D4,0,none⟩) x.s.hn x.s.hn x.h.on (some ⟨E1,0,none⟩) x.h.cn x.h.cn (some ⟨E2,0,none⟩) x.h.ol x.h.ol (some ⟨E3,0,none⟩) x.h.kn x.h.kn)).alloc (oQ7 (some ⟨F1,0,none⟩) x.s.pn x.s.pn (some ⟨F2,0,none⟩) x.s.sn x.s.sn (some ⟨F3,0,none⟩) x.s.wn x.s.wn (some ⟨F4,0,none⟩) x.s.hn x.s.hn x.h.on (some ⟨G1,0,none⟩) x.h.cn x.h.cn (some ⟨G2,0,none⟩) x.h.ol x.h.ol (some ⟨G3,0,none⟩) x.h.kn x.h.kn)=wA at *;refine (qs0 x.s l1 m1 l2 m2 _ _ wA hz1 (S1.bw X0.be S1.hi.2) (S2.bw X0.be S2.hi.2)).mono ?_;rintro e w1 ⟨rfl,b1⟩;have X1:Hid (B88 w w1 (v8 (sG D1 x.s.pn x.s.pn) (sG D2 x.s.sn x.s.sn) (sG D3 x.s.wn x.s.wn) (sG D4 x.s.hn x.s.hn) (.bool x.h.on) (sG E1 x.h.cn x.h.cn) (sG E2 x.h.ol x.h.ol) (sG E3 x.h.kn x.h.kn)) (v8 (sG F1 x.s.pn x.s.pn) (sG F2 x.s.sn x.s.sn) (sG F3 x.s.wn x.s.wn) (sG F4 x.s.hn x.s.hn) (.bool x.h.on) (sG G1 x.h.cn x.h.cn) (sG G2 x.h.ol x.h.ol) (sG G3 x.h.kn x.h.kn))):=X0.bw b1;clear b1 X0;have p4:=X1.p 4 (by omega);have p5:=X1.p 5 (by omega);have p6:=X1.p 6 (by omega);have p7:=X1.p 7 (by omega);have q4:=X1.q 4 (by omega);have q5:=X1.q 5 (by omega);have q6:=X1.q 6 (by omega);have q7:=X1.q 7 (by omega);simp only [v8] at p4 p5 p6 p7 q4 q5 q6 q7;go_wp2_with fail
 clear p4 p5 p6 p7 q4 q5 q6 q7;refine (qp0 x.h m1 u1 m2 u2 _ _ w1 hz2 (H1.bw X1.be H1.hi.2) (H2.bw X1.be H2.hi.2)).mono ?_;rintro e w2 ⟨rfl,b2⟩;have BE:Hid (Below w.heap.size w w2):=X1.be.trans (b2.mono X1.be.size);clear b2 X1;go_wp2;go_ret;exact ⟨rfl,BE.out⟩
theorem qn1 (x:ShIn) (lo hi:Nat) (v:Value) (k:Int) (w:World) (hs:x.size<=1048576) (k0:0<=k) (k1:k<=30000000) (o:IsSh w lo hi x v):
  Calls prog 35 #[v,.int .i64 k] w fun e w'=>(∃ z:Int,e=.returned (.int .i64 z)/\¬ z<0)/\qaa (fun b=>lo<=b/\b<hi) w w':=by
 obtain ⟨E1,E2,E3,bs,o⟩:=o;have HL:Hid (x.cn<=1048576/\x.ol<=1048576/\x.kn<=1048576/\sumL x.kL x.kn<=1048576):=ShIn.lens hs;have Y:Hid (lo<=E1/\E1<E2/\E2<E3/\E3<hi/\hi<=w.heap.size):=⟨o.lo,o.o1,o.o2,o.kk.lt,o.kk.le⟩
 have R1:Hid (qcu w E1 x.cn):=qcu.of_z o.cc o.cf;have R2:Hid (qcu w E2 x.ol):=qcu.of_b o.oo o.fo;have R3:Hid (qbr w E3 hi x.kn x.kL bs x.kH):=o.kk;obtain ⟨rfl,-,-,-,-,-,-,-,-⟩:=o;clear hs;have X0:Hid (qaa (fun b=>lo<=b/\b<hi) w (w.alloc (oQ6 x.on (some ⟨E1,0,none⟩) x.cn x.cn (some ⟨E2,0,none⟩) x.ol x.ol (some ⟨E3,0,none⟩) x.kn x.kn))/\BoxC (w.alloc (oQ6 x.on (some ⟨E1,0,none⟩) x.cn x.cn (some ⟨E2,0,none⟩) x.ol x.ol (some ⟨E3,0,none⟩) x.kn x.kn)) w.heap.size (.bool x.on) (sG E1 x.cn x.cn) (sG E2 x.ol x.ol) (sG E3 x.kn x.kn)/\w.heap.size<(w.alloc (oQ6 x.on (some ⟨E1,0,none⟩) x.cn x.cn (some ⟨E2,0,none⟩) x.ol x.ol (some ⟨E3,0,none⟩) x.kn x.kn)).heap.size/\Below w.heap.size w (w.alloc (oQ6 x.on (some ⟨E1,0,none⟩) x.cn x.cn (some ⟨E2,0,none⟩) x.ol x.ol (some ⟨E3,0,none⟩) x.kn x.kn))):=⟨qaa.of_below (qad _ _),BoxC.new w _ _ _ _ _,by simp,qad _ _⟩
 go_enter func35,ntmps35
 go_wp2_with fail
 generalize w.alloc (oQ6 x.on (some ⟨E1,0,none⟩) x.cn x.cn (some ⟨E2,0,none⟩) x.ol x.ol (some ⟨E3,0,none⟩) x.kn x.kn)=wA at *;have rm:∀ {b n:Nat},b<w.heap.size->qcu w b n->qcu wA b n:=fun {b n} hb h=>⟨fun i hi=>(h.1 i hi).elim fun u e=>⟨u,(X0.2.2.2.cell (p:=⟨b,i,none⟩) hb).trans e⟩,fun j=>(qdf X0.2.2.2 hb j).trans (h.2 j)⟩
 have RA1:Hid (qcu wA E1 x.cn):=rm (by have:=Y.out;omega) R1.out;have RA2:Hid (qcu wA E2 x.ol):=rm (by have:=Y.out;omega) R2.out;have RA3:Hid (qbr wA E3 hi x.kn x.kL bs x.kH):=R3.bw X0.2.2.2 (by have:=Y.out;omega);clear rm R1 R2 R3;refine (qfr E1 x.cn x.cn k wA HL.1 k0 (by omega) RA1.out).mono ?_;rintro e w1 ⟨rfl,g1⟩;have t1:qaa (fun b=>lo<=b/\b<hi) wA w1:=qaa.of_grown g1 fun b e=>by have:=Y.out;injection e;omega
 have X1:Hid (qaa (fun b=>lo<=b/\b<hi) w w1/\BoxC w1 w.heap.size (.bool x.on) (sG E1 x.cn x.cn) (sG E2 x.ol x.ol) (sG E3 x.kn x.kn)/\w.heap.size<w1.heap.size):=by
  refine ⟨X0.1.trans t1,?_,zL X0.2.2.1 g1.size⟩;obtain ⟨h0,h1,h2,h3⟩:=X0.2.1;have hc:∀ i,w1.cell? ⟨w.heap.size,i,none⟩=wA.cell? ⟨w.heap.size,i,none⟩:=fun i=>zH (g1.block w.heap.size X0.2.2.1 (fun e=>by have:=Y.out;injection e;omega));exact ⟨(hc _).trans h0,(hc _).trans h1,(hc _).trans h2,(hc _).trans h3⟩
 have RB2:Hid (qcu w1 E2 x.ol):=by
  have hb:w1.heap[E2]? = wA.heap[E2]?:=g1.block E2 (by have:=Y.out;have:=X0.2.2.1;omega) (fun e=>by have:=Y.out;injection e;omega);exact ⟨fun i hi=>(RA2.1 i hi).elim fun u e=>⟨u,(zH hb).trans e⟩,fun i=>(zI hb).trans (RA2.2 i)⟩
 have RB3:Hid (qbr w1 E3 hi x.kn x.kL bs x.kH):=RA3.keep g1.size fun b h1 h2=>g1.block b (by have:=Y.out;have:=X0.2.2.1;omega) (fun e=>by have:=Y.out;injection e;omega);clear t1 g1 X0 RA1 RA2 RA3;generalize e1:k+(x.cn:Int)=K1
 have HK1:Hid (0<=K1/\K1<=40000000):=by
  show 0<=K1/\K1<=40000000;have:=HL.out;omega
 clear e1 k0 k1;obtain ⟨-,⟨p0,p1,p2,p3⟩,lt⟩:=X1.out;go_wp2_with fail
 clear p0 p1 p2 p3 lt;refine (qjm E2 x.ol x.ol K1 w1 HL.2.1 HK1.1 (by have:=HK1.out;omega) RB2.out).mono ?_;rintro e w2 ⟨rfl,g2⟩;have t2:qaa (fun b=>lo<=b/\b<hi) w1 w2:=qaa.of_grown g2 fun b e=>by have:=Y.out;injection e;omega
 have X2:Hid (qaa (fun b=>lo<=b/\b<hi) w w2/\BoxC w2 w.heap.size (.bool x.on) (sG E1 x.cn x.cn) (sG E2 x.ol x.ol) (sG E3 x.kn x.kn)/\w.heap.size<w2.heap.size):=by
  refine ⟨X1.1.trans t2,?_,zL X1.2.2 g2.size⟩;obtain ⟨h0,h1,h2,h3⟩:=X1.2.1;have hc:∀ i,w2.cell? ⟨w.heap.size,i,none⟩=w1.cell? ⟨w.heap.size,i,none⟩:=fun i=>zH (g2.block w.heap.size X1.2.2 (fun e=>by have:=Y.out;injection e;omega));exact ⟨(hc _).trans h0,(hc _).trans h1,(hc _).trans h2,(hc _).trans h3⟩
 have RC3:Hid (qbr w2 E3 hi x.kn x.kL bs x.kH):=RB3.keep g2.size fun b h1 h2=>g2.block b (by have:=Y.out;have:=X1.2.2;omega) (fun e=>by have:=Y.out;injection e;omega);clear t2 g2 X1 RB2 RB3;generalize e2:K1+(x.ol:Int)=K2
 have HK2:Hid (0<=K2/\K2<=45000000):=by
  show 0<=K2/\K2<=45000000;have:=HL.out;have:=HK1.out;omega
 clear e2 HK1;obtain ⟨-,⟨p0,p1,p2,p3⟩,lt⟩:=X2.out;go_wp2_with fail
 clear p0 p1 p2 p3 lt;refine (qll E3 hi x.kn x.kn x.kL bs x.kH K2 w2 HL.2.2.1 HL.2.2.2 HK2.1 (by have:=HK2.out;omega) RC3.out).mono ?_;rintro e w3 ⟨rfl,t3⟩;have X3:Hid (qaa (fun b=>lo<=b/\b<hi) w w3):=X2.1.trans (t3.mono fun b hb=>by have:=Y.out;omega)
 have HZ:Hid (¬ K2+(sumL x.kL x.kn:Nat)<0):=by
  show ¬ K2+(sumL x.kL x.kn:Nat)<0;have:=HK2.out;omega
 generalize K2+(sumL x.kL x.kn:Nat)=Z4 at *;clear t3 X2 RC3 HK2;go_wp2;go_ret;exact ⟨⟨_,rfl,HZ.out⟩,X3.out⟩
theorem qn0 (x:LvIn) (lo hi:Nat) (v:Value) (w:World) (hs:x.size<=1048576) (o:qb1 w lo hi x v):
  Calls prog 11 #[v,.int .i64 1] w fun e w'=>(∃ z:Int,e=.returned (.int .i64 z)/\¬ z<0)/\qaa (fun b=>lo<=b/\b<hi) w w':=by
 have hz1:x.s.size<=1048576:=by unfold LvIn.size at hs;omega
 have hz2:x.h.size<=1048576:=by unfold LvIn.size at hs;omega
 obtain ⟨D1,D2,D3,D4,E1,E2,E3,m,rfl,s1,h1⟩:=o;have Y:Hid (lo<m/\m<hi/\hi<=w.heap.size):=⟨s1.hi.1,h1.hi.1,h1.hi.2⟩
 have S1:Hid (qcc w lo m x.s (sysV (some ⟨D1,0,none⟩) x.s.pn x.s.pn (some ⟨D2,0,none⟩) x.s.sn x.s.sn (some ⟨D3,0,none⟩) x.s.wn x.s.wn (some ⟨D4,0,none⟩) x.s.hn x.s.hn)):=s1;have H1:Hid (IsSh w m hi x.h (shV x.h.on (some ⟨E1,0,none⟩) x.h.cn x.h.cn (some ⟨E2,0,none⟩) x.h.ol x.h.ol (some ⟨E3,0,none⟩) x.h.kn x.h.kn)):=h1;clear s1 h1 hs;have X0:Hid (Below w.heap.size w (w.alloc (oQ7 (some ⟨D1,0,none⟩) x.s.pn x.s.pn (some ⟨D2,0,none⟩) x.s.sn x.s.sn (some ⟨D3,0,none⟩) x.s.wn x.s.wn (some ⟨D4,0,none⟩) x.s.hn x.s.hn x.h.on (some ⟨E1,0,none⟩) x.h.cn x.h.cn (some ⟨E2,0,none⟩) x.h.ol x.h.ol (some ⟨E3,0,none⟩) x.h.kn x.h.kn))/\BoxH (w.alloc (oQ7 (some ⟨D1,0,none⟩) x.s.pn x.s.pn (some ⟨D2,0,none⟩) x.s.sn x.s.sn (some ⟨D3,0,none⟩) x.s.wn x.s.wn (some ⟨D4,0,none⟩) x.s.hn x.s.hn x.h.on (some ⟨E1,0,none⟩) x.h.cn x.h.cn (some ⟨E2,0,none⟩) x.h.ol x.h.ol (some ⟨E3,0,none⟩) x.h.kn x.h.kn)) w.heap.size (sG D1 x.s.pn x.s.pn) (sG D2 x.s.sn x.s.sn) (sG D3 x.s.wn x.s.wn) (sG D4 x.s.hn x.s.hn) (.bool x.h.on) (sG E1 x.h.cn x.h.cn) (sG E2 x.h.ol x.h.ol) (sG E3 x.h.kn x.h.kn)):=⟨qad _ _,BoxH.new _ _ _ _ _ _ _ _ _ _⟩
 go_enter func11,ntmps11
 go_wp2_with fail
 generalize w.alloc (oQ7 (some ⟨D1,0,none⟩) x.s.pn x.s.pn (some ⟨D2,0,none⟩) x.s.sn x.s.sn (some ⟨D3,0,none⟩) x.s.wn x.s.wn (some ⟨D4,0,none⟩) x.s.hn x.s.hn x.h.on (some ⟨E1,0,none⟩) x.h.cn x.h.cn (some ⟨E2,0,none⟩) x.h.ol x.h.ol (some ⟨E3,0,none⟩) x.h.kn x.h.kn)=wA at *;refine (qtm x.s lo m _ wA hz1 (S1.bw X0.1 (by have:=Y.out;omega))).mono ?_;rintro e w1 ⟨⟨z,rfl,hz0,hz9⟩,t1⟩;have X1:Hid (qaa (fun b=>lo<=b/\b<hi) w w1/\BoxH w1 w.heap.size (sG D1 x.s.pn x.s.pn) (sG D2 x.s.sn x.s.sn) (sG D3 x.s.wn x.s.wn) (sG D4 x.s.hn x.s.hn) (.bool x.h.on) (sG E1 x.h.cn x.h.cn) (sG E2 x.h.ol x.h.ol) (sG E3 x.h.kn x.h.kn)/\w.heap.size<w1.heap.size):=⟨(qaa.of_below X0.1).trans (t1.mono fun b hb=>by have:=Y.out;omega),X0.2.blk (t1.block _ X0.2.lt (fun e=>by have:=Y.out;omega)),zL X0.2.lt t1.size⟩
 have H2:Hid (IsSh w1 m hi x.h (shV x.h.on (some ⟨E1,0,none⟩) x.h.cn x.h.cn (some ⟨E2,0,none⟩) x.h.ol x.h.ol (some ⟨E3,0,none⟩) x.h.kn x.h.kn)):=(H1.bw X0.1 (by have:=Y.out;omega)).keep t1.size fun b h1 h2=>t1.block b (by have:=X0.2.lt;have:=Y.out;omega) (fun e=>by omega);have HZ:Hid (0<=z/\z<=30000000):=⟨by omega,hz9⟩
 clear t1 X0 H1 S1 hz0 hz9;obtain ⟨-,⟨p0,p1,p2,p3,p4,p5,p6,p7⟩,lt⟩:=X1.out;go_wp2_with fail
 clear p0 p1 p2 p3 p4 p5 p6 p7 lt;refine (qn1 x.h m hi _ z w1 hz2 HZ.1 HZ.2 H2.out).mono ?_;rintro e w2 ⟨⟨z2,rfl,hz2'⟩,t2⟩;have X2:Hid (qaa (fun b=>lo<=b/\b<hi) w w2/\¬ z2<0):=⟨X1.1.trans (t2.mono fun b hb=>by have:=Y.out;omega),hz2'⟩
 clear t2 X1 H2 hz2' HZ;go_wp2;go_ret;exact ⟨⟨_,rfl,X2.2⟩,X2.1⟩
theorem qvi {H:Type} {enc:TypeId × Value->H} {w:World} {base:Nat} {held:Bool} {fuel:Nat} {c0 c1 c2 c3:Value} {dp:DataW H × List MemPlace}
  (hf':DataW.trod enc prog w base (fun _=>true) held fuel 27 [c0,c1,c2,c3]=some dp):
  ∃ x:SysIn,Value.agg #[c0,c1,c2,c3]=sysV x.pa x.pn x.pc x.sa x.sn x.sc x.wa x.wn x.wc x.ha x.hn x.hc/\x.Row w/\x.Max/\(x.size<=1048576->∃ y:SysIn,Value.agg #[c0,c1,c2,c3]=sysV y.pa y.pn y.pc y.sa y.sn y.sc y.wa y.wn y.wc y.ha y.hn y.hc/\y.Ok w/\y.size=x.size):=by
 obtain ⟨xs,m,-,-,-,hl,hx⟩:=DataW.trod_struct Tryz.underlying27 hf';have hl:xs.length=4:=hl;have k0:prog.cellsOf 22=1:=by kernel_rfl
 have k1:prog.cellsOf 23=1:=by kernel_rfl
 have k2:prog.cellsOf 24=1:=by kernel_rfl
 have k3:prog.cellsOf 25=1:=by kernel_rfl
 have q0:DataW.trod enc prog w base (fun _=>true) held m 22 [c0]=xs[0]?:=by simpa [k0] using hx 0 _ rfl
 have q1:DataW.trod enc prog w base (fun _=>true) held m 23 [c1]=xs[1]?:=by simpa [k1] using hx 1 _ rfl
 have q2:DataW.trod enc prog w base (fun _=>true) held m 24 [c2]=xs[2]?:=by simpa [k2] using hx 2 _ rfl
 have q3:DataW.trod enc prog w base (fun _=>true) held m 25 [c3]=xs[3]?:=by simpa [k3] using hx 3 _ rfl
 rw [List.getElem?_eq_getElem (by omega)] at q0 q1 q2 q3
 have sl:∀ {t el:TypeId} {c:Value} {y:DataW H × List MemPlace},prog.underlying t=some (.slice el)->DataW.trod enc prog w base (fun _=>true) held m t [c]=some y->∃ a l k,c=.slice a l k:=by
  intro t el c y hu hy
  rcases Go.Deep.open_slice hu hy with ⟨hcs,_⟩ | ⟨a,len',cap',m,n,D,Pl,hcs,_⟩
  ·simp at hcs
   exact ⟨_,_,_,hcs⟩
  ·simp at hcs
   exact ⟨_,_,_,hcs⟩
 obtain ⟨pa,pn,pc,rfl⟩:=sl Tryz.underlying22 q0;obtain ⟨sa,sn,sc,rfl⟩:=sl Tryz.underlying23 q1;obtain ⟨wa,wn,wc,rfl⟩:=sl Tryz.underlying24 q2;obtain ⟨ha,hn,hc,rfl⟩:=sl Tryz.underlying25 q3;obtain ⟨m0,pA,pL,pC,r0,x0,g0⟩:=qtr (d:=(xs[0]'(by omega)).1) (p:=(xs[0]'(by omega)).2) ⟨m,by simpa [Value.cells] using q0⟩;obtain ⟨m1,sQ,r1,x1⟩:=qql (d:=(xs[1]'(by omega)).1) (p:=(xs[1]'(by omega)).2) ⟨m,by simpa [Value.cells] using q1⟩;obtain ⟨m2,wA,wL,wC,r2,x2,g2⟩:=qqk (d:=(xs[2]'(by omega)).1) (p:=(xs[2]'(by omega)).2) ⟨m,by simpa [Value.cells] using q2⟩;obtain ⟨m3,hA,hL,hC,r3,x3,g3⟩:=qn5 (d:=(xs[3]'(by omega)).1) (p:=(xs[3]'(by omega)).2) ⟨m,by simpa [Value.cells] using q3⟩;refine ⟨⟨pa,pn,pc,pA,pL,pC,fun _ _=>⟨0,0,0,0,0⟩,sa,sn,sc,sQ,wa,wn,wc,wA,wL,wC,fun _ _=>⟨false,0⟩,ha,hn,hc,hA,hL,hC,fun _ _=>⟨0,0,0⟩⟩,rfl,⟨r0,r1,r2,r3⟩,⟨⟨m0,x0⟩,⟨m1,x1⟩,⟨m2,x2⟩,⟨m3,x3⟩⟩,fun hs=>?_⟩;have hl:=SysIn.lens hs;obtain ⟨pH,a0⟩:=g0 (qc7 hl.1.2);obtain ⟨wH,a2⟩:=g2 (qc7 hl.2.2.1.2);obtain ⟨hH,a3⟩:=g3 (qc7 hl.2.2.2.2);exact ⟨⟨pa,pn,pc,pA,pL,pC,pH,sa,sn,sc,sQ,wa,wn,wc,wA,wL,wC,wH,ha,hn,hc,hA,hL,hC,hH⟩,rfl,⟨a0,r1,a2,a3⟩,rfl⟩
theorem qtv {H:Type} {enc:TypeId × Value->H} {w:World} {base:Nat} {held:Bool} {fuel:Nat} {c0 c1 c2 c3:Value} {dp:DataW H × List MemPlace}
  (hf':DataW.trod enc prog w base (fun _=>true) held fuel 32 [c0,c1,c2,c3]=some dp):
  ∃ x:ShIn,Value.agg #[c0,c1,c2,c3]=shV x.on x.ca x.cn x.cc x.oa x.ol x.oc x.ka x.kn x.kc/\x.Row w/\x.Max/\(x.size<=1048576->∃ y:ShIn,Value.agg #[c0,c1,c2,c3]=shV y.on y.ca y.cn y.cc y.oa y.ol y.oc y.ka y.kn y.kc/\y.Ok w/\y.size=x.size):=by
 obtain ⟨xs,m,-,-,-,hl,hx⟩:=DataW.trod_struct Tryz.underlying32 hf';have hl:xs.length=4:=hl;have k0:prog.cellsOf 4=1:=by kernel_rfl
 have k1:prog.cellsOf 28=1:=by kernel_rfl
 have k2:prog.cellsOf 29=1:=by kernel_rfl
 have k3:prog.cellsOf 30=1:=by kernel_rfl
 have q0:DataW.trod enc prog w base (fun _=>true) held m 4 [c0]=xs[0]?:=by simpa [k0] using hx 0 _ rfl
 have q1:DataW.trod enc prog w base (fun _=>true) held m 28 [c1]=xs[1]?:=by simpa [k0,k1] using hx 1 _ rfl
 have q2:DataW.trod enc prog w base (fun _=>true) held m 29 [c2]=xs[2]?:=by simpa [k0,k1,k2] using hx 2 _ rfl
 have q3:DataW.trod enc prog w base (fun _=>true) held m 30 [c3]=xs[3]?:=by simpa [k0,k1,k2,k3] using hx 3 _ rfl
 rw [List.getElem?_eq_getElem (by omega)] at q0 q1 q2 q3
 have sl:∀ {t el:TypeId} {c:Value} {y:DataW H × List MemPlace},prog.underlying t=some (.slice el)->DataW.trod enc prog w base (fun _=>true) held m t [c]=some y->∃ a l k,c=.slice a l k:=by
  intro t el c y hu hy
  rcases Go.Deep.open_slice hu hy with ⟨hcs,_⟩ | ⟨a,len',cap',m,n,D,Pl,hcs,_⟩
  ·simp at hcs
   exact ⟨_,_,_,hcs⟩
  ·simp at hcs
   exact ⟨_,_,_,hcs⟩
 obtain ⟨on,e0,-⟩:=DataW.trod_bool Tryz.underlying4 q0;simp only [List.cons.injEq,and_true] at e0;subst e0;obtain ⟨ca,cn,cc,rfl⟩:=sl Tryz.underlying28 q1;obtain ⟨oa,ol,oc,rfl⟩:=sl Tryz.underlying29 q2;obtain ⟨ka,kn,kc,rfl⟩:=sl Tryz.underlying30 q3;obtain ⟨m1,r1⟩:=qn8 (d:=(xs[1]'(by omega)).1) (p:=(xs[1]'(by omega)).2) ⟨m,by simpa [Value.cells] using q1⟩;obtain ⟨m2,r2⟩:=qvg (d:=(xs[2]'(by omega)).1) (p:=(xs[2]'(by omega)).2) ⟨m,by simpa [Value.cells] using q2⟩;obtain ⟨m3,kA,kL,kC,r3,x3,g3⟩:=qts (d:=(xs[3]'(by omega)).1) (p:=(xs[3]'(by omega)).2) ⟨m,by simpa [Value.cells] using q3⟩;refine ⟨⟨on,ca,cn,cc,fun _=>0,oa,ol,oc,fun _=>false,ka,kn,kc,kA,kL,kC,fun _ _=>0⟩,rfl,r3,⟨m1,m2,⟨m3,x3⟩⟩,fun hs=>?_⟩;have hl:=ShIn.lens hs;obtain ⟨cH,a1⟩:=qj1 (cap:=cc) hl.1 r1;obtain ⟨oH,a2⟩:=qsq (cap:=oc) hl.2.1 r2;obtain ⟨kH,a3⟩:=g3 (qc7 hl.2.2.2);exact ⟨⟨on,ca,cn,cc,cH,oa,ol,oc,oH,ka,kn,kc,kA,kL,kC,kH⟩,rfl,⟨a1,a2,a3⟩,rfl⟩
theorem qyv {α:Type} {a:Array α} (h:a.size=8):∃ c0 c1 c2 c3 c4 c5 c6 c7,a=#[c0,c1,c2,c3,c4,c5,c6,c7]:=by
 obtain ⟨l⟩:=a;simp at h
 match l,h with
 | [c0,c1,c2,c3,c4,c5,c6,c7],_=>exact ⟨c0,c1,c2,c3,c4,c5,c6,c7,rfl⟩
theorem qvh {H:Type} {enc:TypeId × Value->H} {w:World} {base b0:Nat} {held:Bool} {rc:Reach} {v:Value} {d:DataW H} {p:List MemPlace}
  (hv:Value.okWide prog w rc b0 34 v) (h:DataW.Trod enc prog w base (fun _=>true) held 34 v d p):
  ∃ x:LvIn,v=x.v/\x.Row w/\x.Max/\(x.size<=1048576->∃ y:LvIn,v=y.v/\y.Ok w/\y.size<=1048576):=by
 obtain ⟨cs,rfl,hsz⟩:=okWide_struct Tryz.underlying34 hv;have h8:prog.cellsOf 34=8:=by kernel_rfl
 obtain ⟨c0,c1,c2,c3,c4,c5,c6,c7,rfl⟩:=qyv (hsz.trans h8);obtain ⟨fuel,hf⟩:=h;have hf':DataW.trod enc prog w base (fun _=>true) held fuel 34 [c0,c1,c2,c3,c4,c5,c6,c7]=some (d,p):=by simpa [Value.cells] using hf
 obtain ⟨xs,m,-,-,-,hl,hx⟩:=DataW.trod_struct Tryz.underlying34 hf';have hl:xs.length=2:=hl;have k0:prog.cellsOf 27=4:=by kernel_rfl
 have k1:prog.cellsOf 32=4:=by kernel_rfl
 have q0:DataW.trod enc prog w base (fun _=>true) held m 27 [c0,c1,c2,c3]=xs[0]?:=by simpa [k0] using hx 0 _ rfl
 have q1:DataW.trod enc prog w base (fun _=>true) held m 32 [c4,c5,c6,c7]=xs[1]?:=by simpa [k0,k1] using hx 1 _ rfl
 rw [List.getElem?_eq_getElem (by omega)] at q0 q1;obtain ⟨x,e1,r1,m1,g1⟩:=qvi q0;obtain ⟨z,e2,r2,m2,g2⟩:=qtv q1;simp only [Value.agg.injEq,Array.mk.injEq,List.cons.injEq,and_true] at e1 e2;obtain ⟨rfl,rfl,rfl,rfl⟩:=e1;obtain ⟨rfl,rfl,rfl,rfl⟩:=e2;refine ⟨⟨x,z⟩,rfl,⟨r1,r2⟩,⟨m1,m2⟩,fun hs=>?_⟩;have hs':x.size+z.size<=1048576:=hs;obtain ⟨y1,f1,o1,z1⟩:=g1 (by omega);obtain ⟨y2,f2,o2,z2⟩:=g2 (by omega);simp only [Value.agg.injEq,Array.mk.injEq,List.cons.injEq,and_true] at f1 f2;obtain ⟨a1,a2,a3,a4⟩:=f1;obtain ⟨b1,b2,b3,b4⟩:=f2;refine ⟨⟨y1,y2⟩,?_,⟨o1,o2⟩,by show y1.size+y2.size<=1048576;omega⟩;show Value.agg #[.slice x.pa x.pn x.pc,.slice x.sa x.sn x.sc,.slice x.wa x.wn x.wc,.slice x.ha x.hn x.hc,.bool z.on,.slice z.ca z.cn z.cc,.slice z.oa z.ol z.oc,.slice z.ka z.kn z.kc]=.agg #[.slice y1.pa y1.pn y1.pc,.slice y1.sa y1.sn y1.sc,.slice y1.wa y1.wn y1.wc,.slice y1.ha y1.hn y1.hc,.bool y2.on,.slice y2.ca y2.cn y2.cc,.slice y2.oa y2.ol y2.oc,.slice y2.ka y2.kn y2.kc];rw [a1,a2,a3,a4,b1,b2,b3,b4]
theorem LL.weak {z:Bool} {e:TypeId} {sz:Nat} {E:TypeId} {w:World} {P:Nat->Prop} {v:Value} {n:Nat} {u:Nat->Value} {L:Nat->Nat} {c:Nat->List Value} (o:LL z e sz E w P v n u L c):LL false e sz E w P v n u L c:=
 ⟨o.row,o.own,o.rb,o.ob,o.ra,o.oa,fun h i hi=>o.nn (h.elim (fun h=>by cases h) .inr) i hi⟩
theorem OwnS.weak {z:Bool} {w:World} {B:Nat} {c:Nat->Nat} {y:Sy} {vp vs vw vh:Value} {up us uw uh:Nat->Value} (o:OwnS z w B c y vp vs vw vh up us uw uh):OwnS false w B c y vp vs vw vh up us uw uh:=⟨o.p.weak,o.s,o.t.weak,o.h.weak⟩
section
variable {z:Bool} {B N:Nat} {c:Nat->Nat} {y:Sy} {wr:World} {vp vs vw vh:Value} {up us uw uh:Nat->Value}
end
theorem qhf {t e:TypeId} {size bytes:Nat} (K:Kind t e size bytes) (w:World) (ty:TypeId) (a0:Option Addr) (m c:Nat) (news:List Value) (hl:news.length=m*size) (hsrc:Src w a0 news) (h1:∀ u ∈ news,u.oneCell'=true) (cs:Array Value) (hz:cs.size=m*size):
  (Builtin.copy_ #[t,t] ty #[.slice (some ⟨w.heap.size,0,none⟩) m m,.slice a0 m c]).run prog (w.alloc (.cells cs e))=.ok (goInt m) (w.alloc (.cells news.toArray e)):=by
 obtain ⟨i,z,hi,-,hs,-,-⟩:=K.inf;have hg:(w.alloc (.cells cs e)).heap[w.heap.size]? = some (.cells cs e (0,0)):=heap_alloc_new w _;have hst:=run_storeCells_at prog w.heap.size 0 e news 0 cs (w.alloc (.cells cs e)) hg (by rw [hl,hz];omega) h1;have hmin:Nat.min m m=m:=Nat.min_self m;cases a0 with
 | none=>
  have hn0:news=[]:=by
   rcases hsrc with h | ⟨b,off,e,_⟩
   ·exact h
   ·cases e
  subst hn0
  have hm:m=0:=by
   simp only [List.length_nil] at hl
   rcases Nat.eq_zero_or_pos m with h | h
   ·exact h
   ·have:=Nat.mul_pos h K.pos
    omega
  subst hm
  have hc:cs=#[]:=by
   have:cs.size=0:=by omega
   exact Array.eq_empty_of_size_eq_zero this
  subst hc;simp [Builtin.copy_,run_underlying K.und,Builtin.lenOf,Builtin.firstCells,sizeOf,typeInfo,hi,storeCells]
 | some a=>
  have hnews:∀ j u,news[j]? = some u->(w.alloc (.cells cs e)).cell? (a.add j)=some u:=by
   rcases hsrc with h0 | ⟨b,off,e,hlt,hc⟩
   ·subst h0
    intro j u hj;simp at hj
   ·cases e
    intro j u hj;have ha:Addr.add ⟨b,off,none⟩ j=⟨b,off+j,none⟩:=by unfold Addr.add;split <;> simp_all
    rw [ha];exact ((zP w _).cell (p:=⟨b,off+j,none⟩) hlt).trans (hc j u hj)
  have hld:=run_loadCells_list (P:=prog) (w.alloc (.cells cs e)) a news hnews;rw [hl] at hld;simp only [List.take_zero,List.nil_append,nL] at hst;rw [List.drop_of_length_le (by simp [hl,hz]),List.append_nil,qhh] at hst;simp [Builtin.copy_,run_underlying K.und,Builtin.lenOf,Builtin.firstCells,sizeOf,typeInfo,hi,hs,hld,hst]
theorem qf3 {t e:TypeId} {size bytes:Nat} (K:Kind t e size bytes) (n:Nat) (hn:n<=1048576):∃ cs:Array Value,cs.size=n*size/\∀ w:World,(Instr.makeSlice t (.int .i64 (n:Int)) (.int .i64 (n:Int))).run prog w=.ok (sG w.heap.size n n) (w.alloc (.cells cs e)):=by
 obtain ⟨i,z,hi,hz,hs,hb,hzs⟩:=K.inf;refine ⟨madeCells z.cells (n*size),size_madeCells _ _,fun w=>?_⟩
 have hby:i.bytes*n<=281474976710656:=by
  rw [hb];exact zO (Nat.mul_le_mul K.sml hn) (by omega)
 have hby':(i.bytes:Int)*(n:Int)<=281474976710656:=by rw [<- Int.natCast_mul];exact Int.ofNat_le.2 hby
 have h:=run_make (P:=prog) w t e i z K.und hi hz .i64 .i64 (n:Int) (n:Int) (by omega) (by omega) hby' (by omega);rw [hs,nF] at h;exact h
