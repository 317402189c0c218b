import Derived.Test.YtkdablcbhhphoaaGreatDoorMt16
import Derived.Stop.Asserts
namespace Go.Proofs.YtkdablcbhhphoaaGreatDoor
open Go.Proofs.Tryz
set_option maxRecDepth 100000
set_option maxHeartbeats 2000000
open Go.RowKit Go.Deep
theorem qd9 (ea:Option Addr) (len cap:Nat) (eh:Nat->E3) (kd pr:Int) (w:World) (hlen:len<=1048576) (hc:EvL w ea len eh):
  Calls prog 123 #[.slice ea len cap,.int .i64 kd,.int .i64 pr] w fun e w'=>∃ v,e=.returned v/\OwnI w' w.heap.size v (valL eh kd pr len)/\Below w.heap.size w w':=by
 have hl':(len:Int)<=1048576:=by omega
 have HC:Hid (EvL w ea len eh):=hc;clear hc
 go_enter func123,ntmps123
 go_wp2_with fail
 go_loopw [7,8] (fun o i wr=>∃ k:Nat,k<=len/\i=.int .i64 k/\Hid (OwnI wr w.heap.size o (valL eh kd pr k))/\Below w.heap.size w wr) (fun _ i _=>len - (intOf i).toNat)
 case atStart=>exact ⟨0,nD _,rfl,qc0 w,(nE _ _).alloc (nA _) _⟩
 case round=>
  obtain ⟨k,hk,rfl,HO,hbw⟩:=hrel;have hs:=hbw.size;by_cases hlt:k<len
  ·have hlt':(k:Int)<(len:Int):=by omega
   have hvl:=qgt eh kd pr k;obtain ⟨b,off,rfl,-,c0,c1,c2⟩:=(HC.bw hbw).at hlt
   rcases zK ((eh k).k == kd) with t1 | t1
   ·rcases zK ((eh k).q == pr) with t2 | t2
    ·have HH : Hid (valL eh kd pr (k + 1) = valL eh kd pr k ++ [(eh k).v]) := qsa (by
      unfold hitB;rw [t1,t2]
      rfl)
     go_wp2_with (at_builtin;refine qgd wr rfl _ _ rfl w.heap.size u7 (valL eh kd pr k) rfl HO.out (eh k).v rfl (by omega) hs ?_;intro v' w4 o4 b4;have H4:Hid (OwnI w4 w.heap.size v' (valL eh kd pr (k+1))):=o4.to HH.out;clear o4)
     go_roundw
     case rel=>exact ⟨k+1,by omega,by go_num,H4.out,hbw.trans b4⟩
     case measure=>simp [intOf];omega
    ·have HH : Hid (valL eh kd pr (k + 1) = valL eh kd pr k) := qmf (by
      unfold hitB;rw [t1,t2]
      rfl)
     go_wp2;go_roundw
     case rel=>exact ⟨k+1,by omega,by go_num,HO.to HH.out,hbw⟩
     case measure=>simp [intOf];omega
   ·have HH : Hid (valL eh kd pr (k + 1) = valL eh kd pr k) := qmf (by
     unfold hitB;rw [t1]
     rfl)
    go_wp2;go_roundw
    case rel=>exact ⟨k+1,by omega,by go_num,HO.to HH.out,hbw⟩
    case measure=>simp [intOf];omega
  ·have hkl:k=len:=by omega
   have H4:Hid (OwnI wr w.heap.size u7 (valL eh kd pr len)):=by
    have:=HO.out;rw [hkl] at this;exact this
   clear HO hkl;go_wp2;go_ret;exact ⟨_,rfl,H4.out,hbw⟩
theorem qtw (ea:Option Addr) (len cap:Nat) (eh:Nat->E3) (kd pr:Int) (w:World) (hlen:len<=1048576) (hc:EvL w ea len eh):
  Calls prog 247 #[.slice ea len cap,.int .i64 kd,.int .i64 pr] w fun e w'=>∃ v,e=.returned v/\OwnI w' w.heap.size v (plI eh kd pr len)/\Below w.heap.size w w':=by
 have hl':(len:Int)<=1048576:=by omega
 have HC:Hid (EvL w ea len eh):=hc;clear hc
 go_enter func247,ntmps247
 go_wp2_with fail
 go_loopw [7,13] (fun o i wr=>∃ k:Nat,k<=len/\i=.int .i64 k/\Hid (OwnI wr w.heap.size o (plI eh kd pr k))/\Below w.heap.size w wr) (fun _ i _=>len - (intOf i).toNat)
 case atStart=>exact ⟨0,nD _,rfl,qc0 w,(nE _ _).alloc (nA _) _⟩
 case round=>
  obtain ⟨k,hk,rfl,HO,hbw⟩:=hrel;have hs:=hbw.size;by_cases hlt:k<len
  ·have hlt':(k:Int)<(len:Int):=by omega
   have hvl:=qxz eh kd pr k;obtain ⟨b,off,rfl,-,c0,c1,c2⟩:=(HC.bw hbw).at hlt
   rcases zK ((eh k).k == kd) with t1 | t1
   ·rcases zK ((eh k).q == pr) with t2 | t2
    ·have HH : Hid (plI eh kd pr (k + 1) = plI eh kd pr k ++ [(k : Int)]) := qyq (by
      unfold hitB;rw [t1,t2]
      rfl)
     go_wp2_with (at_builtin;refine qh9 _ (N:=wr.heap.size+1) (by simp) rfl _ _ rfl w.heap.size u7 (plI eh kd pr k) rfl (HO.bw (by go_grown)) k rfl (by omega) (by simp;omega) ?_;intro v' w4 o4 b4;have H4:Hid (OwnI w4 w.heap.size v' (plI eh kd pr (k+1))):=o4.to HH.out;clear o4)
     go_roundw
     case rel=>exact ⟨k+1,by omega,by go_num,H4.out,Below.trans (by go_grown) b4⟩
     case measure=>simp [intOf];omega
    ·have HH : Hid (plI eh kd pr (k + 1) = plI eh kd pr k) := qvk (by
      unfold hitB;rw [t1,t2]
      rfl)
     go_wp2;go_roundw
     case rel=>exact ⟨k+1,by omega,by go_num,(HO.bw (by go_grown)).to HH.out,by go_grown⟩
     case measure=>simp [intOf];omega
   ·have HH : Hid (plI eh kd pr (k + 1) = plI eh kd pr k) := qvk (by
     unfold hitB;rw [t1]
     rfl)
    go_wp2;go_roundw
    case rel=>exact ⟨k+1,by omega,by go_num,(HO.bw (by go_grown)).to HH.out,by go_grown⟩
    case measure=>simp [intOf];omega
  ·have hkl:k=len:=by omega
   have H4:Hid (OwnI wr w.heap.size u7 (plI eh kd pr len)):=by
    have:=HO.out;rw [hkl] at this;exact this
   clear HO hkl;go_wp2;go_ret;exact ⟨_,rfl,H4.out,hbw⟩
theorem qi1 (ea:Option Addr) (len cap:Nat) (eh:Nat->E3) (kd pr:Int) (w:World) (hlen:len<=1048576) (hc:EvL w ea len eh):
  Calls prog 176 #[.slice ea len cap,.int .i64 kd,.int .i64 pr] w (rB w (.int .i64 ((plN eh kd pr len).length:Nat))):=by
 have HC:Hid (EvL w ea len eh):=hc;clear hc
 go_enter func176,ntmps176
 go_wp2_with fail
 refine (qd9 ea len cap eh kd pr w hlen HC.out).mono ?_;rintro e w1 ⟨v,rfl,o1,b1⟩;obtain ⟨a0,cp,rfl,-⟩:=o1.form;rw [qq7];go_wp2;go_ret;exact ⟨rfl,b1⟩
theorem qhc (ea:Option Addr) (len cap:Nat) (eh:Nat->E3) (kd pr:Int) (w:World) (hlen:len<=1048576) (hc:EvL w ea len eh):
  Calls prog 229 #[.slice ea len cap,.int .i64 kd,.int .i64 pr] w fun e w'=>∃ v,e=.returned v/\OwnI w' w.heap.size v (valL eh kd pr len)/\Below w.heap.size w w':=by
 have hl':(len:Int)<=1048576:=by omega
 have HC:Hid (EvL w ea len eh):=hc;clear hc;have hpl:=qxz eh kd pr len
 go_enter func229,ntmps229
 go_wp2_with fail
 refine (qtw ea len cap eh kd pr _ hlen (HC.bw (by go_grown))).mono ?_;rintro e w1 ⟨v,rfl,o1,b1⟩;have B1:Hid (Below w.heap.size w w1):=qai (by go_grown) b1 (by simp);obtain ⟨a0,cp,rfl,-⟩:=o1.form
 have HS:Hid (OwnI w1 (w.heap.size+1) (.slice a0 (plI eh kd pr len).length cp) (plI eh kd pr len)):=by
  (try dsimp only [aW] at o1);rw [World.size_alloc] at o1
  exact o1
 clear o1;go_wp2_with fail
 have HO:Hid (OwnI w1 w.heap.size (sG w.heap.size 0 0) []):=(qc0 w).bw b1;clear b1
 go_loopw [7,16] (fun o i wr=>∃ k:Nat,k<=(plI eh kd pr len).length/\i=.int .i64 k/\Hid (OwnI wr w.heap.size o (valT eh kd pr len k))/\Below w.heap.size w wr/\Hid (Away w w1 wr o)) (fun _ i _=>(plI eh kd pr len).length - (intOf i).toNat)
 case atStart=>exact ⟨0,nD _,rfl,HO.out,B1.out,⟨fun j hj=>by simp [Value.ownBlock] at hj;exact .inl hj.symm,fun _ _ _=>rfl,nA _⟩⟩
 case round=>
  clear HO B1;obtain ⟨k,hk,rfl,HO,hbw,HA⟩:=hrel;have hs:=hbw.size;by_cases hlt:k<(plI eh kd pr len).length
  ·have hlt':(k:Int)<((plI eh kd pr len).length:Int):=by omega
   obtain ⟨b0,o0,e0,hb0,hcell⟩:=(HA.sl (Nat.lt_succ_self _) HS.out).at hlt;obtain ⟨q,hq,hql,hqe⟩:=qn9 eh kd pr len k hlt;have hql':(q:Int)<(len:Int):=by omega
   rw [hq] at hcell;subst e0;have hvl:=qyu eh kd pr len k;have HH:Hid (valT eh kd pr len (k+1)=valT eh kd pr len k ++ [(eh q).v]):=qv6 hqe;obtain ⟨b,off,rfl,-,c0,c1,c2⟩:=(HC.bw hbw).at hql;clear hq hqe;go_wp2_with (at_builtin;refine qse wr rfl _ _ rfl w.heap.size u7 (valT eh kd pr len k) rfl HO.out (eh q).v rfl (by omega) hs ?_;intro v' w4 o4 g4 a4;have A4:Hid (Away w w1 w4 v'):=HA.step g4 a4;have b4:Below w.heap.size wr w4:=⟨g4.os,g4.tape,g4.output,g4.size,fun j hj=>g4.block j (zL hj hs) (fun e=>Nat.not_le_of_lt hj (HO.lt j e.symm).1)⟩;have H4:Hid (OwnI w4 w.heap.size v' (valT eh kd pr len (k+1))):=o4.to HH.out;clear o4 g4 a4)
   go_roundw
   case rel=>exact ⟨k+1,by omega,by go_num,H4.out,hbw.trans b4,A4.out⟩
   case measure=>simp [intOf];omega
  ·have hkl:k=(plI eh kd pr len).length:=by omega
   have H4:Hid (OwnI wr w.heap.size u7 (valL eh kd pr len)):=by
    have:=HO.out;rw [hkl,qxm] at this;exact this
   clear HO hkl;go_wp2;go_ret;exact ⟨_,rfl,H4.out,hbw⟩
theorem ql0 (ea:Option Addr) (len cap:Nat) (h:Nat->I2) (w:World) (hlen:len<=1048576) (hc:ItL w ea len h):
  Calls prog 175 #[.slice ea len cap] w fun e w'=>∃ v,e=.returned v/\OwnI w' w.heap.size v (numL h len)/\Below w.heap.size w w':=by
 have hl':(len:Int)<=1048576:=by omega
 have HC:Hid (ItL w ea len h):=hc;clear hc
 go_enter func175,ntmps175
 go_wp2_with fail
 go_loopw [3,4] (fun o i wr=>∃ k:Nat,k<=len/\i=.int .i64 k/\Hid (OwnI wr w.heap.size o (numL h k))/\Below w.heap.size w wr) (fun _ i _=>len - (intOf i).toNat)
 case atStart=>exact ⟨0,nD _,rfl,qc0 w,(nE _ _).alloc (nA _) _⟩
 case round=>
  obtain ⟨k,hk,rfl,HO,hbw⟩:=hrel;have hs:=hbw.size;by_cases hlt:k<len
  ·have hlt':(k:Int)<(len:Int):=by omega
   have hvl:=qgn h k;obtain ⟨b,off,rfl,-,c0,c1⟩:=(HC.bw hbw).at hlt
   rcases zK (h k).m with t1 | t1
   ·have HH:Hid (numL h (k+1)=numL h k):=qr1 t1
    rw [t1] at c0;go_wp2;go_roundw
    case rel=>exact ⟨k+1,by omega,by go_num,HO.to HH.out,hbw⟩
    case measure=>simp [intOf];omega
   ·have HH:Hid (numL h (k+1)=numL h k ++ [(h k).v]):=qhz t1
    rw [t1] at c0;go_wp2_with (at_builtin;refine qgd wr rfl _ _ rfl w.heap.size u3 (numL h k) rfl HO.out (h k).v rfl (by omega) hs ?_;intro v' w4 o4 b4;have H4:Hid (OwnI w4 w.heap.size v' (numL h (k+1))):=o4.to HH.out;clear o4)
    go_roundw
    case rel=>exact ⟨k+1,by omega,by go_num,H4.out,hbw.trans b4⟩
    case measure=>simp [intOf];omega
  ·have hkl:k=len:=by omega
   have H4:Hid (OwnI wr w.heap.size u3 (numL h len)):=by
    have:=HO.out;rw [hkl] at this;exact this
   clear HO hkl;go_wp2;go_ret;exact ⟨_,rfl,H4.out,hbw⟩
theorem qk6 (ea:Option Addr) (len cap:Nat) (h:Nat->I2) (w:World) (hlen:len<=1048576) (hc:ItL w ea len h):
  Calls prog 186 #[.slice ea len cap] w fun e w'=>∃ v,e=.returned v/\OwnI w' w.heap.size v (numL h len)/\Below w.heap.size w w':=by
 have hl':(len:Int)<=1048576:=by omega
 have HC:Hid (ItL w ea len h):=hc;clear hc
 go_enter func186,ntmps186
 go_wp2_with fail
 go_loopw [3,9] (fun o i wr=>∃ k:Nat,k<=len/\i=.int .i64 k/\Hid (OwnI wr w.heap.size o (numL h k))/\Below w.heap.size w wr) (fun _ i _=>len - (intOf i).toNat)
 case atStart=>exact ⟨0,nD _,rfl,qc0 w,(nE _ _).alloc (nA _) _⟩
 case round=>
  obtain ⟨k,hk,rfl,HO,hbw⟩:=hrel;have hs:=hbw.size;by_cases hlt:k<len
  ·have hlt':(k:Int)<(len:Int):=by omega
   have hvl:=qgn h k;obtain ⟨b,off,rfl,-,c0,c1⟩:=(HC.bw hbw).at hlt
   rcases zK (h k).m with t1 | t1
   ·have HH:Hid (numL h (k+1)=numL h k):=qr1 t1
    rw [t1] at c0;go_wp2;go_roundw
    case rel=>exact ⟨k+1,by omega,by go_num,(HO.bw (by go_grown)).to HH.out,by go_grown⟩
    case measure=>simp [intOf];omega
   ·have HH:Hid (numL h (k+1)=numL h k ++ [(h k).v]):=qhz t1
    rw [t1] at c0;go_wp2_with (at_builtin;refine qh9 _ (N:=wr.heap.size+1) (by simp) rfl _ _ rfl w.heap.size u3 (numL h k) rfl (HO.bw (by go_grown)) (h k).v rfl (by omega) (by simp;omega) ?_;intro v' w4 o4 b4;have H4:Hid (OwnI w4 w.heap.size v' (numL h (k+1))):=o4.to HH.out;clear o4)
    go_roundw
    case rel=>exact ⟨k+1,by omega,by go_num,H4.out,Below.trans (by go_grown) b4⟩
    case measure=>simp [intOf];omega
  ·have hkl:k=len:=by omega
   have H4:Hid (OwnI wr w.heap.size u3 (numL h len)):=by
    have:=HO.out;rw [hkl] at this;exact this
   clear HO hkl;go_wp2;go_ret;exact ⟨_,rfl,H4.out,hbw⟩
open Go.RowKit Go.Extern.Stop Go.Stop Go.Extern
theorem qyx (t:Value) (w:World):
  Calls prog 227 #[.nilIface,t] w fun e w'=>e=.returned (.bool false)/\w'=w:=by
 go_enter func227,ntmps227
 go_wp2;go_ret;exact ⟨rfl,rfl⟩
theorem qxo (t:Addr) (w:World):(ReflectliteValue.unpack (.iface 275 (.pointer (some t)))).run prog w
  = .ok (.agg #[.pointer (some ⟨1,275,none⟩),.pointer (some ⟨w.heap.size,0,none⟩),.int .u64 150]) (w.alloc (.cells #[.pointer (some t)] 275)):=by kernel_rfl
theorem qzt (a : Addr) (w : World) : (ReflectliteValue.methodAny (ReflectliteValue.valueError "reflectlite.Value.Type" 0) (fun t _ _ _ => ReflectliteType.toType t) #[.agg #[.pointer (some ⟨1, 275, none⟩), .pointer (some a), .int .u64 150]]).run prog w
  = .ok (.iface 300 (.agg #[.pointer (some ⟨1,275,none⟩)])) w:=by kernel_rfl
theorem qzr (w:World):((ReflectliteType.abiMethod fun t=>(fun a:Nat=>Value.int IntKind.u8 (a:Int)) <$> Rtype.kind t) #[.pointer (some ⟨1,275,none⟩)]).run prog w=.ok (.int .u8 22) w:=by kernel_rfl
theorem qzq (w:World):((ReflectliteType.abiMethod fun t=>(fun a:Nat=>Value.int IntKind.u8 (a:Int)) <$> Rtype.kind t) #[.pointer (some ⟨1,273,none⟩)]).run prog w=.ok (.int .u8 25) w:=by kernel_rfl
theorem rlm (z:Sem Value) (f:TypeId->Addr->Nat->Nat->Sem Value) (v:Value):
  ReflectliteValue.method z f #[v]=(do match <- ReflectliteValue.parts v with | none=>z | some (t,a,fl)=>f t a fl (fl % 32)):=rfl
theorem qxy (a:Addr) (w:World):(ReflectliteValue.parts (.agg #[.pointer (some ⟨1,275,none⟩),.pointer (some a),.int .u64 150])).run prog w=.ok (some (275,a,150)) w:=by kernel_rfl
theorem qza (a p:Addr) (W:World) (ha:W.cell? a=some (.pointer (some p))):
  (ReflectliteValue.method (ReflectliteValue.valueError "reflectlite.Value.IsNil" 0) ReflectliteValue.isNil #[.agg #[.pointer (some ⟨1, 275, none⟩), .pointer (some a), .int .u64 150]]).run prog W = .ok (.bool false) W := by
 rw [rlm];simp only [Sem.run_bind,qxy,Result.andThen];simp [ReflectliteValue.isNil,loadVar,isAgg,underlying,Tryz.underlying275,ha,Result.andThen]
theorem qzp (w:World):(ReflectliteType.method ReflectliteType.elem #[.agg #[.pointer (some ⟨1,275,none⟩)]]).run prog w=.ok (.iface 300 (.agg #[.pointer (some ⟨1,273,none⟩)])) w:=by kernel_rfl
theorem qp8 (w : World) : (ReflectliteType.relation "Implements" ReflectliteType.implements_ #[.agg #[.pointer (some ⟨1, 273, none⟩)], .iface 300 (.agg #[.pointer (some ⟨1, 269, none⟩)])]).run prog w = .ok (.bool true) w := by kernel_rfl
theorem qyt (v:Value) (w:World):(ReflectliteType.typeOf #[.iface 273 v]).run prog w=.ok (.iface 300 (.agg #[.pointer (some ⟨1,273,none⟩)])) w:=by kernel_rfl
theorem qpl (w : World) : (ReflectliteType.relation "AssignableTo" ReflectliteType.assignableTo #[.agg #[.pointer (some ⟨1, 273, none⟩)], .iface 300 (.agg #[.pointer (some ⟨1, 273, none⟩)])]).run prog w = .ok (.bool true) w := by kernel_rfl
theorem qxn (x:Int) (w:World):(ReflectliteValue.unpack (.iface 273 (.agg #[.int .i64 x]))).run prog w
  = .ok (.agg #[.pointer (some ⟨1,273,none⟩),.pointer (some ⟨w.heap.size,0,none⟩),.int .u64 153]) (w.alloc (.cells #[.int .i64 x] 273)):=by kernel_rfl
theorem qyb (w:World):(Rtype.elem? 275).run prog w=.ok (some 273) w:=by kernel_rfl
theorem mkE (p:Addr) (w:World):(ReflectliteValue.mk 273 p ReflectliteValue.flagAddr).run prog w=.ok (.agg #[.pointer (some ⟨1,273,none⟩),.pointer (some p),.int .u64 409]) w:=by kernel_rfl
open Go.ChangeShapes Go.WideShapes Go.ChangeAt Go.Sort
theorem qaa.set {P:Nat->Prop} {w w':World} (h:qaa P w w') {a:Addr} (ha:P a.block) (u:Value):qaa P w (w'.setCell a u):=h.trans (qaa.of_set w' ha u)
theorem qaa.sets {P:Nat->Prop} {b:Nat} (hb:P b):∀ (vs:List Value) (o:Nat) {w w':World},qaa P w w'->qaa P w (w'.setCells b o vs)
 | [],_,_,_,h=>h
 | v :: r,o,_,_,h=>qaa.sets hb r (o+1) (h.set (a:=⟨b,o,none⟩) hb v)
theorem quz:(prog.info? 176).map (·.size)=some 21:=by kernel_rfl
theorem qyr (X Bf Hb:Nat) (w:World) (cs:List Value) (hl:cs.length=21) (h1:∀ v ∈ cs,v.oneCell'=true) (hB:w.rangeAt Bf 0 cs) (hT:w.there X 4 21) (hH:w.cell? ⟨Hb,0,none⟩=some (.pointer (some ⟨X,4,none⟩))) (u:FrameMode):
  CallsD prog 188 #[.pointer (some ⟨Bf,0,none⟩),.pointer (some ⟨Hb,0,none⟩)] u w fun e u' w'=>u'=u/\(e=.returned (.tuple #[])/\qaa (fun b=>b=X) w w'):=by
 have HB:Hid (w.rangeAt Bf 0 cs):=hB;have HT:Hid (w.there X 4 cs.toArray.size):=by rw [show cs.toArray.size=21 by simp [hl]];exact hT
 have HI:Hid ((prog.info? 176).map (·.size)=some cs.length):=by rw [hl];exact quz
 have HO:Hid (cs.toArray.all (·.oneCell')=true):=all_oneCell_toArray h1;clear hB hT h1 hl
 go_enter_d func188,ntmps188
 go_wp2_with (first|(refine wpList_load_mid rfl 176 (.tmp 0) rfl Bf 0 rfl cs _ HB.out Tryz.underlying176 rfl HI.out ?_)|(refine wpList_store_mid rfl 176 (.tmp 4) (.tmp 3) rfl X 4 cs.toArray rfl rfl HT.out (by simpa using HI.out) HO.out ?_))
 go_end0
 exact ⟨rfl,qaa.sets (P:=fun b=>b=X) rfl _ _ (qaa.refl _ _)⟩
def hisL (ha:Option Addr) (hc:Nat) (y:Hs) (d:Nat->Nat):List Value:=
 [.slice ha y.n hc, .int .i64 (d 0), .int .i64 (d 1), .int .i64 (d 2), .int .i64 (d 3),
  .int .i64 (y.opn d 0 0),.int .i64 (y.opn d 0 1),.int .i64 (y.opn d 0 2),.int .i64 (y.opn d 0 3),.int .i64 (y.opn d 1 0),.int .i64 (y.opn d 1 1),.int .i64 (y.opn d 1 2),.int .i64 (y.opn d 1 3),
  .int .i64 (y.opn d 2 0),.int .i64 (y.opn d 2 1),.int .i64 (y.opn d 2 2),.int .i64 (y.opn d 2 3),.int .i64 (y.opn d 3 0),.int .i64 (y.opn d 3 1),.int .i64 (y.opn d 3 2),.int .i64 (y.opn d 3 3)]
theorem HisP.range {w:World} {X:Nat} {ha:Option Addr} {hc:Nat} {y:Hs} {d:Nat->Nat} (h:HisP w X ha hc y d):w.rangeAt X 4 (hisL ha hc y d):=by
 intro j v hj
 have hl:j<21:=by
  have:=(List.getElem?_eq_some_iff.1 hj).1;simpa [hisL] using this
 match j,hl,hj with
 | 0,_,hj=>rw [<- hj];exact h.c4
 | 1,_,hj=>rw [<- hj];exact h.pt 0 (by omega)
 | 2,_,hj=>rw [<- hj];exact h.pt 1 (by omega)
 | 3,_,hj=>rw [<- hj];exact h.pt 2 (by omega)
 | 4,_,hj=>rw [<- hj];exact h.pt 3 (by omega)
 | 5,_,hj=>rw [<- hj];exact h.op 0 0 (by omega) (by omega)
 | 6,_,hj=>rw [<- hj];exact h.op 0 1 (by omega) (by omega)
 | 7,_,hj=>rw [<- hj];exact h.op 0 2 (by omega) (by omega)
 | 8,_,hj=>rw [<- hj];exact h.op 0 3 (by omega) (by omega)
 | 9,_,hj=>rw [<- hj];exact h.op 1 0 (by omega) (by omega)
 | 10,_,hj=>rw [<- hj];exact h.op 1 1 (by omega) (by omega)
 | 11,_,hj=>rw [<- hj];exact h.op 1 2 (by omega) (by omega)
 | 12,_,hj=>rw [<- hj];exact h.op 1 3 (by omega) (by omega)
 | 13,_,hj=>rw [<- hj];exact h.op 2 0 (by omega) (by omega)
 | 14,_,hj=>rw [<- hj];exact h.op 2 1 (by omega) (by omega)
 | 15,_,hj=>rw [<- hj];exact h.op 2 2 (by omega) (by omega)
 | 16,_,hj=>rw [<- hj];exact h.op 2 3 (by omega) (by omega)
 | 17,_,hj=>rw [<- hj];exact h.op 3 0 (by omega) (by omega)
 | 18,_,hj=>rw [<- hj];exact h.op 3 1 (by omega) (by omega)
 | 19,_,hj=>rw [<- hj];exact h.op 3 2 (by omega) (by omega)
 | 20,_,hj=>rw [<- hj];exact h.op 3 3 (by omega) (by omega)
theorem qwo {ha:Option Addr} {hc:Nat} {y:Hs} {d:Nat->Nat}:∀ v ∈ hisL ha hc y d,v.oneCell'=true:=by
 intro v hv;simp only [hisL,List.mem_cons,List.not_mem_nil,or_false] at hv
 rcases hv with rfl | rfl | rfl | rfl | rfl | rfl | rfl | rfl | rfl | rfl | rfl | rfl | rfl | rfl | rfl | rfl | rfl | rfl | rfl | rfl | rfl <;> rfl
theorem HisP.thereX {w:World} {X:Nat} {ha:Option Addr} {hc:Nat} {y:Hs} {d:Nat->Nat} (h:HisP w X ha hc y d):w.there X 4 21:=fun j hj=>⟨h.range.isSome j (by simpa [hisL] using hj),h.fr _⟩
theorem qi3 {d e:Nat->Nat}:∀ {n:Nat},(∀ i,i<n->d i=e i)->sumL d n=sumL e n
 | 0,_=>rfl
 | n+1,h=>by
  show sumL d n+d n=sumL e n+e n;rw [qi3 fun i hi=>h i (by omega),h n (by omega)]
theorem qf5:∀ n,sumL (fun _=>0) n=0
 | 0=>rfl
 | n+1=>qf5 n
theorem ql4 {d:Nat->Nat} {k:Nat}:∀ {n:Nat},k<n->sumL (up d k) n=sumL d n+1
 | 0,h=>by omega
 | n+1,h=>by
  show sumL (up d k) n+up d k n=sumL d n+d n+1;by_cases e:k=n
  ·subst e
   rw [qee];have:sumL (up d k) k=sumL d k:=qi3 fun i hi=>up_other (by omega);omega
  ·rw [ql4 (by omega),up_other (by omega)]
   omega
theorem qec {d l:Nat->Nat} (h:∀ i,d i<=l i):∀ n,sumL d n<=sumL l n
 | 0=>nA _
 | n+1=>by
  have:=qec h n;have:=h n;show sumL d n+d n<=sumL l n+l n;omega
structure Rw (w0 W wr:World) (X Bf Hb:Nat) (ha:Option Addr) (hc:Nat) (y:Hs) (cs:List Value) (d:Nat->Nat):Prop where
 pu:y.Put d
 hp:HisP wr X ha hc y d
 be:Below w0.heap.size w0 wr
 hb:wr.cell? ⟨Hb,0,none⟩=some (.pointer (some ⟨X,4,none⟩))
 bf:wr.rangeAt Bf 0 cs
theorem qfz {P:Nat->Prop} {w w':World} {b o:Nat} {cs:List Value} (h:w.rangeAt b o cs) (t:qaa P w w') (hb:¬ P b):w'.rangeAt b o cs:=fun j v hv=>by
 have:=h j v hv;rw [t.cell (zJ w _ this) hb];exact this
theorem Rw.touch {w0 W wr w':World} {X Bf Hb:Nat} {ha:Option Addr} {hc:Nat} {y:Hs} {cs:List Value} {d d':Nat->Nat} (h:Rw w0 W wr X Bf Hb ha hc y cs d) (t:qaa (fun b=>b=X) wr w') (hX:w0.heap.size<=X) (hB:Bf≠X) (hH:Hb≠X) (pu:y.Put d') (hp:HisP w' X ha hc y d'):Rw w0 W w' X Bf Hb ha hc y cs d':=
 ⟨pu,hp,h.be.trans (t.bw h.be.size fun b e=>by omega),(t.cell (zJ wr _ h.hb) hH 0).trans h.hb,qfz h.bf t hB⟩
theorem qsl (X:Nat) (ha:Option Addr) (hc:Nat) (hA:Nat->Option Addr) (hC:Nat->Nat) (y:Hs) (w0 w:World) (hE:HisE w0 ha hA hC y) (hb:Below w0.heap.size w0 w) (hX:w0.heap.size<=X) (hP:HisP w X ha hc y (fun _=>0)) (h4:y.n<=4) (hp:y.Peers) (hl:∀ i,i<y.n->y.l i<=200):
  Calls prog 135 #[.pointer (some ⟨X,4,none⟩)] w (rB w0 (.bool (qB y.Row))):=by
 have HE:Hid (HisE w0 ha hA hC y):=hE;have HH:Hid (y.Peers/\(∀ i,i<y.n->y.l i<=200)/\w0.heap.size<=X):=⟨hp,hl,hX⟩
 have zX:=hP.lt;obtain ⟨cs,hcs,hlen,hone⟩:∃ cs,w.rangeAt X 4 cs/\cs.length=21/\∀ v ∈ cs,v.oneCell'=true:=⟨_,hP.range,rfl,qwo⟩
 have hsz:cs.toArray.size=21:=by simpa using hlen
 have HL21:Hid (cs.length=21/\∀ v ∈ cs,v.oneCell'=true):=⟨hlen,hone⟩
 have HI:Hid ((prog.info? 176).map (·.size)=some cs.length):=by rw [hlen];exact quz
 have HR:Hid ((w.alloc (.cells #[.pointer (some ⟨X,4,none⟩)] 230)).rangeAt X 4 cs):=World.rangeAt_alloc hcs _;have HO:Hid (cs.toArray.all (·.oneCell')=true):=all_oneCell_toArray hone;have hmf:∀ (fn:Fn) (first cap:Array Value) (w:World),(Instr.makeFunc fn first cap).run prog w=.ok (.func fn first cap) w:=fun _ _ _ _=>rfl
 have HT:Hid (((w.alloc (.cells #[.pointer (some ⟨X,4,none⟩)] 230)).alloc (zQ3)).there (w.heap.size+1) 0 cs.toArray.size):=fun j hj=>by
  have hj':j<21:=by rw [<- hsz];exact hj
  refine ⟨?_,yA _ _ _ _ (by simp)⟩;rw [nL,zV _ _ _ j (by simp),Array.getElem?_eq_getElem (by simpa using hj')];rfl
 have tw:qaa (fun b=>b=w.heap.size+1) w (((w.alloc (.cells #[.pointer (some ⟨X,4,none⟩)] 230)).alloc (zQ3)).setCells (w.heap.size+1) 0 cs):=qaa.sets (P:=fun b=>b=w.heap.size+1) rfl _ _ (qaa.of_below ((zS _ _).trans ((zS _ _).mono (by simp))))
 have HRw:Hid (Rw w0 w (((w.alloc (.cells #[.pointer (some ⟨X,4,none⟩)] 230)).alloc (zQ3)).setCells (w.heap.size+1) 0 cs) X (w.heap.size+1) w.heap.size ha hc y cs (fun _=>0)):=by
  refine ⟨.start,hP.blk (tw.block X zX (by omega)),hb.trans (tw.bw hb.size fun b e=>by have:=hb.size;omega),?_,World.rangeAt_setCells_same _ _ _ _ (by simpa using HT.out)⟩;rw [World.cell?_setCells_out _ _ _ _ _ (fun e=>absurd e (by simp)),World.cell?_alloc_lt _ _ _ (by simp)];exact zV _ _ _ 0 rfl
 have HX:Hid (X<w.heap.size):=zX;clear hE hp hl hX tw hb hP zX hlen hsz hcs hone
 go_enter_defers func135,ntmps135
 have h0:=HRw.hb;go_wp2_with (first|(refine wpList_load_mid rfl 176 (.tmp 6) rfl X 4 rfl cs _ HR.out Tryz.underlying176 rfl HI.out ?_)|(refine wpList_store_mid rfl 176 (.tmp 3) (.tmp 7) rfl (w.heap.size+1) 0 cs.toArray rfl rfl HT.out (by simpa using HI.out) HO.out ?_))
 clear HR HT HI HO;generalize ((w.alloc (.cells #[.pointer (some ⟨X,4,none⟩)] 230)).alloc (zQ3)).setCells (w.heap.size+1) 0 cs=W1 at *
 have nX:Hid (w.heap.size+1≠X/\w.heap.size≠X):=by
  have:=HX.out;exact ⟨by omega,by omega⟩
 refine (qr0 X ha hc hA hC y (fun _=>0) W1 (HE.bw HRw.be) HRw.hp h4 HH.1 HH.2.1 HRw.pu.le).mono ?_;rintro e w1 ⟨q1,hor⟩;have HNx:Hid (Rw w0 w w1 X (w.heap.size+1) w.heap.size ha hc y cs (fun _=>0)):=HRw.touch (qaa.of_below q1) HH.2.2 nX.1 nX.2 HRw.pu (HRw.hp.bw q1)
 obtain ⟨z,rfl,HOr⟩:∃ z:Int,e=.returned (.int .i64 z)/\Hid ((∃ k,k<y.n/\y.Can (fun _=>0) k/\z=(k:Nat))\/(z = -1/\∀ p,p<y.n->¬ y.Can (fun _=>0) p)):=by
  rcases hor with ⟨k,hk,hcan,rfl⟩ | ⟨rfl,hn⟩
  ·exact ⟨_,rfl,.inl ⟨k,hk,hcan,rfl⟩⟩
  ·exact ⟨_,rfl,.inr ⟨rfl,hn⟩⟩
 clear hor q1 h0 HRw;go_wp2_with fail
 go_loopg [4] (sumL y.l y.n) (fun k p wr=>∃ d z,k=sumL y.l y.n - sumL d y.n/\p=.int .i64 z/\Rw w0 w wr X (w.heap.size+1) w.heap.size ha hc y cs d/\Hid ((∃ k,k<y.n/\y.Can d k/\z=(k:Nat))\/(z = -1/\∀ p,p<y.n->¬ y.Can d p)))
 case atStart=>exact ⟨_,z,by simp [qf5],rfl,HNx.out,HOr.out⟩
 case round=>
  clear HNx HOr;obtain ⟨d,zz,hgk,rfl,rw0,HOr⟩:=hrel;have HRr:Hid (Rw w0 w wr X (w.heap.size+1) w.heap.size ha hc y cs d):=rw0;have h1:=rw0.hb;have HG:Hid (gk=sumL y.l y.n - sumL d y.n):=hgk;clear rw0 hgk
  rcases HOr.out with ⟨k,hk,hcan,rfl⟩ | ⟨rfl,hst⟩
  ·have HCn:Hid (y.Can d k):=hcan
   have hz:¬ (k:Int) = -1:=by omega
   have hz':((k:Int) == -1)=false:=by simp
   clear HOr hcan;go_wp2_with fail
   refine (qtx X ha hc hA hC y d k wr (HE.bw HRr.be) HRr.hp h4 hk HH.1 HH.2.1 HRr.pu.le HCn.1).mono ?_;rintro e w1 ⟨rfl,hp1,t1⟩;have hpu:y.Put (up d k):=.next HRr.pu hk HCn.out;have HN:Hid (Rw w0 w w1 X (w.heap.size+1) w.heap.size ha hc y cs (up d k)):=HRr.touch t1 HH.2.2 nX.1 nX.2 hpu hp1
   have HM:Hid (sumL y.l y.n - sumL (up d k) y.n<gk):=by
    have h2:=ql4 (d:=d) hk;have h3:=qec hpu.le y.n;have h4:=HG.out;show sumL y.l y.n - sumL (up d k) y.n<gk;omega
   clear hp1 t1 hpu h1 HRr HG hz hz';generalize up d k=d2 at *;have h1:=HN.hb;go_wp2_with fail
   refine (qr0 X ha hc hA hC y d2 w1 (HE.bw HN.be) HN.hp h4 HH.1 HH.2.1 HN.pu.le).mono ?_;rintro e w2 ⟨q2,hor⟩;have HN2:Hid (Rw w0 w w2 X (w.heap.size+1) w.heap.size ha hc y cs d2):=HN.touch (qaa.of_below q2) HH.2.2 nX.1 nX.2 HN.pu (HN.hp.bw q2)
   obtain ⟨z,rfl,HOr⟩:∃ z:Int,e=.returned (.int .i64 z)/\Hid ((∃ k,k<y.n/\y.Can d2 k/\z=(k:Nat))\/(z = -1/\∀ p,p<y.n->¬ y.Can d2 p)):=by
    rcases hor with ⟨k,hk,hcan,rfl⟩ | ⟨rfl,hn⟩
    ·exact ⟨_,rfl,.inl ⟨k,hk,hcan,rfl⟩⟩
    ·exact ⟨_,rfl,.inr ⟨rfl,hn⟩⟩
   clear hor q2 h1 HN;go_wp2
   go_roundg (sumL y.l y.n - sumL d2 y.n)
   case measure=>exact HM.out
   case rel=>exact ⟨d2,z,rfl,rfl,HN2.out,HOr.out⟩
  ·have HRow:Hid (qB (y.All d)=qB y.Row):=by
    show qB (y.All d)=qB y.Row;have hi:=Hs.row_iff HRr.pu HH.1 hst;by_cases hr:y.Row
    ·rw [qbv hr,qbv (hi.1 hr)]
    ·rw [qa7 hr,qa7 (fun h=>hr (hi.2 h))]
   have HN:Hid (Rw w0 w wr X (w.heap.size+1) w.heap.size ha hc y cs d):=HRr.out;clear hst HG HOr HRr;go_wp2_with fail
   refine (qsd X ha hc hA hC y d wr (HE.bw HN.be) HN.hp h4 HH.2.1 HN.pu.le).mono ?_;rintro e w2 ⟨rfl,b2⟩;rw [HRow.out];have B2:Hid (Below wr.heap.size wr w2):=b2;clear b2 h1
   have HB2:Hid (Below w0.heap.size w0 w2/\w2.rangeAt (w.heap.size+1) 0 cs/\w2.there X 4 21/\w2.cell? ⟨w.heap.size,0,none⟩=some (.pointer (some ⟨X,4,none⟩))):=
    ⟨HN.be.trans (B2.mono HN.be.size),qfz (P:=fun _=>False) HN.bf (qaa.of_below B2.out) (fun h=>h),(HN.hp.bw B2.out).thereX,(B2.cell (p:=⟨w.heap.size,0,none⟩) (zJ wr _ HN.hb)).trans HN.hb⟩
   go_wp2;refine leaves_cons (f:=188) (args:=#[.pointer (some ⟨w.heap.size+1,0,none⟩),.pointer (some ⟨w.heap.size,0,none⟩)]) (by simp) (by simp [go_sem]) ?_;refine (qyr X (w.heap.size+1) w.heap.size w2 cs HL21.1 HL21.2 HB2.2.1 HB2.2.2.1 HB2.2.2.2 .returning).mono ?_;rintro e u' w3 ⟨rfl,rfl,t3⟩;exact ⟨_,results_tmp rfl _ _ _,rfl,HB2.1.trans (t3.bw HB2.1.size fun b e=>by have:=HH.2.2;omega)⟩
def ZAt (w:World) (b off len:Nat) (h:Nat->Int):Prop:=∀ i,i<len->w.cell? ⟨b,off+i,none⟩=some (.int .i64 (h i))
theorem ZAt.bw {w w':World} {B b off len:Nat} {h:Nat->Int} (hh:ZAt w b off len h) (hb:Below B w w') (hB:b<B):ZAt w' b off len h:=fun i hi=>(hb.cell hB).trans (hh i hi)
theorem qch (a0:Option Addr) (len cap:Nat) (L:Int) (w:World) (h:(len:Int)<=L) (hL:L<=1048576):
  Calls prog 52 #[.slice a0 len cap,.int .i64 L] w fun e w'=>e=.returned (.int .i64 (L - (len:Int)))/\w'=w:=by
 have h1:(len:Int)<=1048576:=by omega
 have h2:0<=L:=by omega
 have h3:¬ (L - (len:Int)<0):=by omega
 go_enter func52,ntmps52
 go_wp2;go_ret;exact ⟨rfl,rfl⟩
theorem qf7 (a0:Option Addr) (len cap:Nat) (L:Int) (w:World) (h:L<(len:Int)) (h0:0<=L) (hL:L<=1048576) (hm:len<=maxLen):
  Calls prog 52 #[.slice a0 len cap,.int .i64 L] w fun e w'=>e=.returned (.int .i64 (-1))/\w'=w:=by
 unfold maxLen at hm;have h2:(len:Int)<=9223372036854775807:=by omega
 have h3:L - (len:Int)<0:=by omega
 go_enter func52,ntmps52
 go_wp2;go_ret;exact ⟨rfl,rfl⟩
theorem qqf (w:World) (n:Nat):(w.alloc (.cells (madeCells #[.int .i64 0] n) 3)).rowIs w.heap.size 3 n (fun _=>.int .i64 0):=by
 refine ⟨_,blk_alloc_new _ _,size_madeCells _ _,fun i hi=>?_⟩;simp only [madeCells];rw [Array.getElem?_map,Array.getElem?_range,nC hi];have:i % 1=0:=Nat.mod_one i;exact congrArg some (by simp [this])
theorem qq5 (b off len cap:Nat) (h:Nat->Int) (w:World) (hlen:len<=1048576) (hb:b<w.heap.size) (hc:ZAt w b off len h):
  Calls prog 61 #[.slice (some ⟨b,off,none⟩) len cap] w fun e w'=>e=.returned (sG w.heap.size len len)/\ZAt w' w.heap.size 0 len h/\w.heap.size<w'.heap.size/\Below w.heap.size w w'/\∀ j,w'.frozen? ⟨w.heap.size,j,none⟩=false:=by
 have hl':(len:Int)<=1048576:=by omega
 have hmk:=qcb len hlen;have HC:Hid (ZAt w b off len h):=hc;clear hc
 go_enter func61,ntmps61
 go_wp2_with fail
 clear hmk
 go_loopw [4] (fun i wr=>∃ k:Nat,k<=len/\i=.int .i64 k/\(∃ f,wr.rowIs w.heap.size 3 len f/\Hid (∀ i,i<k->f i=.int .i64 (h i)))/\Below w.heap.size w wr) (fun i _=>len - (intOf i).toNat)
 case atStart=>exact ⟨0,nD _,rfl,⟨_,qqf w len,fun i hi=>by omega⟩,(nE _ _).alloc (nA _) _⟩
 case round=>
  obtain ⟨k,hk,rfl,⟨f,hrow,HF⟩,hbw⟩:=hrel;have hs:=hrow.lt;by_cases hlt:k<len
  ·have hlt':(k:Int)<(len:Int):=by omega
   have ck:=HC.bw hbw hb k hlt;have f0:=hrow.frozen k;have g0:=hrow.cell (i:=k) hlt;have HR:Hid (wr.rowIs w.heap.size 3 len f):=hrow;clear hrow;go_wp2;go_roundw
   case rel=>
    refine ⟨k+1,by omega,by go_num,⟨_,HR.set _ _,fun i hi=>?_⟩,hbw.setCell (nA _) _⟩;by_cases e:i=k
    ·subst e;simp
    ·rw [nB e];exact HF.out i (by omega)
   case measure=>simp [intOf];omega
  ·have hkl:k=len:=by omega
   have HI:Hid (ZAt wr w.heap.size 0 len h):=fun i hi=>by
    rw [nL,hrow.cell hi,HF.out i (by omega)]
   have HZ:Hid (∀ j,wr.frozen? ⟨w.heap.size,j,none⟩=false):=fun j=>hrow.frozen j;clear hkl HF hrow;go_wp2;go_ret;exact ⟨rfl,HI.out,hs,hbw,HZ.out⟩
theorem qhv (a0:Option Addr) (cap:Nat) (h:Nat->Int) (w:World):
  Calls prog 61 #[.slice a0 0 cap] w fun e w'=>e=.returned (sG w.heap.size 0 0)/\ZAt w' w.heap.size 0 0 h/\w.heap.size<w'.heap.size/\Below w.heap.size w w'/\∀ j,w'.frozen? ⟨w.heap.size,j,none⟩=false:=by
 have hmk:∀ w:World,(Instr.makeSlice 28 (.int .i64 0) (.int .i64 0)).run prog w=.ok (sG w.heap.size 0 0) (w.alloc (.cells (madeCells #[.int .i64 0] 0) 3)):=fun w=>qcb 0 (by omega) w
 go_enter func61,ntmps61
 go_wp2_with fail
 clear hmk
 go_rounds 1
 go_ret;exact ⟨rfl,fun i hi=>by omega,by simp,(nE _ _).alloc (nA _) _,fun j=>yA _ _ _ j rfl⟩
def qh4 (w:World) (a0:Option Addr) (len cap:Nat) (h:Nat->Int):Prop:=∀ wx,Below w.heap.size w wx->
 Calls prog 61 #[.slice a0 len cap] wx fun e w'=>e=.returned (sG wx.heap.size len len)/\ZAt w' wx.heap.size 0 len h/\wx.heap.size<w'.heap.size/\Below wx.heap.size wx w'/\∀ j,w'.frozen? ⟨wx.heap.size,j,none⟩=false
theorem qj1 {W:World} {a0:Option Addr} {len cap:Nat} (hl:len<=1048576) (hr:len=0\/∃ b off h,a0=some ⟨b,off,none⟩/\b<W.heap.size/\ZAt W b off len h):∃ h,qh4 W a0 len cap h:=by
 rcases hr with rfl | ⟨b,off,h,rfl,hb,hI⟩
 ·exact ⟨fun _=>0,fun wx _=>qhv a0 cap _ wx⟩
 ·exact ⟨h,fun wx hB=>qq5 b off len cap h wx hl (zL hb hB.size) (hI.bw hB hb)⟩
theorem qg8 (b1 b2 len c1 c2:Nat) (h:Nat->Int) (w:World) (hlen:len<=1048576) (hb1:b1<w.heap.size) (hb2:b2<w.heap.size) (hc1:ZAt w b1 0 len h) (hc2:ZAt w b2 0 len h):
  Calls prog 84 #[.slice (some ⟨b1,0,none⟩) len c1,.slice (some ⟨b2,0,none⟩) len c2] w (rB w (.bool true)):=by
 have hl':(len:Int)<=1048576:=by omega
 have HC1:Hid (ZAt w b1 0 len h):=hc1;have HC2:Hid (ZAt w b2 0 len h):=hc2;clear hc1 hc2
 go_enter func84,ntmps84
 go_wp2_with fail
 go_loopw [5] (fun i wr=>∃ k:Nat,k<=len/\i=.int .i64 k/\Below w.heap.size w wr) (fun i _=>len - (intOf i).toNat)
 case atStart=>exact ⟨0,nD _,rfl,nE _ _⟩
 case round=>
  obtain ⟨k,hk,rfl,hbw⟩:=hrel;by_cases hlt:k<len
  ·have c0:=HC1.bw hbw hb1 k hlt
   have d0:=HC2.bw hbw hb2 k hlt;have hlt':(k:Int)<(len:Int):=by omega
   rw [nL] at c0 d0;go_wp2_with fail
   go_quiet (fail)
   go_wp2;go_roundw
   case rel=>exact ⟨k+1,by omega,by go_num,yB hbw _⟩
   case measure=>simp [intOf];omega
  ·go_wp2
   go_ret;exact ⟨rfl,hbw⟩
def qcu (w:World) (b len:Nat):Prop:=(∀ i,i<len->∃ u,w.cell? ⟨b,i,none⟩=some u)/\∀ j,w.frozen? ⟨b,j,none⟩=false
theorem qcu.set {w:World} {b len:Nat} (h:qcu w b len) (p:Addr) (v:Value):qcu (w.setCell p v) b len:=
 ⟨fun i hi=>(h.1 i hi).elim fun _ e=>cell?_setCell_some e,fun j=>by rw [World.frozen?_setCell];exact h.2 j⟩
theorem qcu.of_z {w:World} {b len:Nat} {h:Nat->Int} (hh:ZAt w b 0 len h) (hf:∀ j,w.frozen? ⟨b,j,none⟩=false):qcu w b len:=
 ⟨fun i hi=>⟨.int .i64 (h i),by have:=hh i hi;rw [nL] at this;exact this⟩,hf⟩
theorem qfr (b len cap:Nat) (k:Int) (w:World) (hlen:len<=1048576) (k0:0<=k) (k1:k<=100000000) (h:qcu w b len):
  Calls prog 91 #[.slice (some ⟨b,0,none⟩) len cap,.int .i64 k] w fun e w'=>e=.returned (.int .i64 (k+len))/\w.grownBy w' (some b):=by
 have hl':(len:Int)<=1048576:=by omega
 have HO:Hid (qcu w b len):=h;clear h
 go_enter func91,ntmps91
 go_wp2_with fail
 go_loopw [1,5] (fun q i wr=>∃ j:Nat,j<=len/\i=.int .i64 j/\q=.int .i64 (k+j)/\Hid (qcu wr b len/\w.grownBy wr (some b))) (fun _ i _=>len - (intOf i).toNat)
 case atStart=>exact ⟨0,nD _,rfl,by simp,HO.out,World.grownBy.refl _ _⟩
 case round=>
  clear HO;obtain ⟨j,hj,rfl,rfl,HR⟩:=hrel;by_cases hlt:j<len
  ·have hlt':(j:Int)<(len:Int):=by omega
   obtain ⟨u0,c0⟩:=HR.1.1 j hlt;have fz:=HR.1.2;go_wp2;go_roundw
   case rel=>
    refine ⟨j+1,by omega,by go_num,by go_num,?_⟩;exact ⟨HR.1.set _ _,zU HR.2 (.inl rfl) _⟩
   case measure=>simp [intOf];omega
  ·have hlt':¬ (j:Int)<(len:Int):=by omega
   have HF:Hid (w.grownBy wr (some b)):=HR.2;have hjl:(j:Int)=len:=by omega
   have HJ:Hid ((j:Int)=len):=hjl;clear HR hjl;go_wp2;go_ret;exact ⟨qfc (by rw [HJ.out]),HF.out⟩
theorem qn8 {H:Type} {enc:TypeId × Value->H} {w:World} {spare:Nat->Bool} {held:Bool} {base:Nat} {a0:Option Addr} {len cap:Nat} {d:DataW H} {p:List MemPlace}
  (h:DataW.Trod enc prog w base spare held 28 (.slice a0 len cap) d p):
  len<=maxLen/\(len=0\/∃ b off h,a0=some ⟨b,off,none⟩/\b<w.heap.size/\ZAt w b off len h):=by
 obtain ⟨hm,f,hr,hf⟩:=qdk Tryz.underlying28 (el:=3) (by kernel_rfl) h;refine ⟨hm,?_⟩
 rcases hr with h0 | ⟨b,off,e,hb,hc⟩
 ·exact .inl h0
 right
 have hq:∀ i,i<len->∃ x:Int,f i=.int .i64 x:=by
  intro i hi;obtain ⟨m,x,hx⟩:=hf i hi;obtain ⟨z0,e0,-,-⟩:=DataW.trod_int Tryz.underlying3 hx;simp only [List.cons.injEq,and_true] at e0;exact ⟨z0,e0⟩
 have inh:Inhabited Int:=⟨0⟩
 obtain ⟨g,hg⟩:=Go.Deep.choose_lt (α:=Int) hq;exact ⟨b,off,g,e,hb,fun i hi=>(hc i hi).trans (by rw [hg i hi])⟩
structure qbr (w:World) (D hi n:Nat) (ls:Nat->Nat) (bs:Nat->Nat) (h:Nat->Nat->Int):Prop where
 cel:∀ i,i<n->w.cell? ⟨D,i,none⟩=some (.slice (some ⟨bs i,0,none⟩) (ls i) (ls i))
 bd:∀ i,i<n->D<bs i/\bs i<hi
 row:∀ i,i<n->ZAt w (bs i) 0 (ls i) (h i)
 fr:∀ i,i<n->∀ j,w.frozen? ⟨bs i,j,none⟩=false
 up:∀ i j,i<j->j<n->bs i<bs j
 le:hi<=w.heap.size
 lt:D<hi
theorem qbr.bw {w w':World} {D hi n B:Nat} {ls:Nat->Nat} {bs:Nat->Nat} {h:Nat->Nat->Int} (o:qbr w D hi n ls bs h) (hb:Below B w w') (hB:hi<=B):qbr w' D hi n ls bs h:=
 ⟨fun i hi'=>(hb.cell (p:=⟨D,i,none⟩) (zL o.lt hB)).trans (o.cel i hi'),o.bd,fun i hi'=>(o.row i hi').bw hb (zL (o.bd i hi').2 hB),fun i hi' j=>(hb.frozen (p:=⟨bs i,j,none⟩) (zL (o.bd i hi').2 hB)).trans (o.fr i hi' j),o.up,zO o.le hb.size,o.lt⟩
theorem qbr.keep {w w':World} {D hi n:Nat} {ls:Nat->Nat} {bs:Nat->Nat} {h:Nat->Nat->Int} (o:qbr w D hi n ls bs h) (hs:w.heap.size<=w'.heap.size) (hb:∀ k,D<=k->k<hi->w'.heap[k]? = w.heap[k]?):qbr w' D hi n ls bs h:=by
 refine ⟨fun i hi'=>(zH (hb D (nA _) o.lt)).trans (o.cel i hi'),o.bd,fun i hi'=>?_,fun i hi' j=>(zI (hb _ (nJ (o.bd i hi').1) (o.bd i hi').2)).trans (o.fr i hi' j),o.up,zO o.le hs,o.lt⟩;have hc:∀ j,w'.cell? ⟨bs i,j,none⟩=w.cell? ⟨bs i,j,none⟩:=fun j=>zH (hb _ (nJ (o.bd i hi').1) (o.bd i hi').2);intro t ht;have:=o.row i hi' t ht;simp only [hc];exact this
theorem ql8 (a0:Option Addr) (n cap:Nat) (aa:Nat->Option Addr) (ls cs:Nat->Nat) (L:Int) (w:World) (hr:RowS w a0 n fun i=>.slice (aa i) (ls i) (cs i)) (h:(n:Int)+(sumL ls n:Nat)<=L) (hL:L<=1048576):
  Calls prog 54 #[.slice a0 n cap,.int .i64 L] w fun e w'=>e=.returned (.int .i64 (L - n - (sumL ls n:Nat)))/\w'=w:=by
 have hn:(n:Int)<=1048576:=by omega
 have h0:0<=L:=by omega
 have hn0:¬ (L - (n:Int)<0):=by omega
 have HR:Hid (RowS w a0 n fun i=>.slice (aa i) (ls i) (cs i)):=hr;have HS:Hid ((n:Int)+(sumL ls n:Nat)<=L):=h;clear hr h
 go_enter func54,ntmps54
 go_wp2_with fail
 go_loopw [1,5] (fun q i wr=>∃ k:Nat,k<=n/\i=.int .i64 k/\q=.int .i64 (L - n - (sumL ls k:Nat))/\wr=w) (fun _ i _=>n - (intOf i).toNat)
 case atStart=>exact ⟨0,nD _,rfl,by simp [sumL],rfl⟩
 case round=>
  obtain ⟨k,hk,rfl,rfl,rfl⟩:=hrel;by_cases hlt:k<n
  ·have hlt':(k:Int)<(n:Int):=by omega
   obtain ⟨b,off,rfl,ck⟩:=HR.at hlt;have hsl:=qbf ls hlt;have hS:=HS.out;have e1:(L - n - (sumL ls k:Nat)) - (ls k:Int)=L - n - (sumL ls (k+1):Nat):=by simp only [sumL];omega
   have HE:Hid ((L - n - (sumL ls k:Nat)) - (ls k:Int)=L - n - (sumL ls (k+1):Nat)):=e1;have e2:(ls k:Int)<=L - n - (sumL ls k:Nat):=by omega
   have e3:¬ (L - n - (sumL ls (k+1):Nat)<0):=by omega
   have e4:L - n - (sumL ls k:Nat)<=1048576:=by omega
   clear e1 hS hsl;generalize hy:L - n - (sumL ls (k+1):Nat)=Y at *;go_wp2_with fail
   refine (qch _ _ _ _ _ e2 e4).mono ?_;rintro e w1 ⟨rfl,rfl⟩;rw [HE.out];clear e2 e4;go_wp2;go_roundw
   case rel=>exact ⟨k+1,by omega,by go_num,by rw [<- hy],by trivial⟩
   case measure=>simp [intOf];omega
  ·have hkl:k=n:=by omega
   subst hkl;go_wp2;go_ret;exact ⟨rfl,rfl⟩
theorem ql7 (a0:Option Addr) (n cap:Nat) (aa:Nat->Option Addr) (ls cs:Nat->Nat) (L:Int) (w:World) (hr:RowS w a0 n fun i=>.slice (aa i) (ls i) (cs i)) (h:L<(n:Int)+(sumL ls n:Nat)) (h0:0<=L) (hL:L<=1048576) (hm:n<=maxLen) (hl:∀ i,i<n->ls i<=maxLen):
  Calls prog 54 #[.slice a0 n cap,.int .i64 L] w fun e w'=>e=.returned (.int .i64 (-1))/\w'=w:=by
 have hm':(n:Int)<=9223372036854775807:=by unfold maxLen at hm;omega
 by_cases hn0:L - (n:Int)<0
 ·go_enter func54,ntmps54
  go_wp2;go_ret;exact ⟨rfl,rfl⟩
 have hn:(n:Int)<=1048576:=by omega
 have HR:Hid (RowS w a0 n fun i=>.slice (aa i) (ls i) (cs i)):=hr;have HS:Hid (L<(n:Int)+(sumL ls n:Nat)):=h;have HL:Hid (∀ i,i<n->ls i<=maxLen):=hl;clear hr h hl hm
 go_enter func54,ntmps54
 go_wp2_with fail
 go_loopw [1,5] (fun q i wr=>∃ k:Nat,k<=n/\i=.int .i64 k/\q=.int .i64 (L - n - (sumL ls k:Nat))/\0<=L - n - (sumL ls k:Nat)/\wr=w) (fun _ i _=>n - (intOf i).toNat)
 case atStart=>exact ⟨0,nD _,rfl,by simp [sumL],by simp only [sumL];omega,rfl⟩
 case round=>
  obtain ⟨k,hk,rfl,rfl,hp,rfl⟩:=hrel;by_cases hlt:k<n
  ·have hlt':(k:Int)<(n:Int):=by omega
   obtain ⟨b,off,rfl,ck⟩:=HR.at hlt;have hml:=HL.out k hlt;have e1:(L - n - (sumL ls k:Nat)) - (ls k:Int)=L - n - (sumL ls (k+1):Nat):=by simp only [sumL];omega
   have HE:Hid ((L - n - (sumL ls k:Nat)) - (ls k:Int)=L - n - (sumL ls (k+1):Nat)):=e1;have e4:L - n - (sumL ls k:Nat)<=1048576:=by omega
   clear e1;by_cases hb:(ls k:Int)<=L - n - (sumL ls k:Nat)
   ·have e3:0<=L - n - (sumL ls (k+1):Nat):=by have:=HE.out;omega
    have e3':¬ (L - n - (sumL ls (k+1):Nat)<0):=by omega
    generalize hy:L - n - (sumL ls (k+1):Nat)=Y at *;go_wp2_with fail
    refine (qch _ _ _ _ _ hb e4).mono ?_;rintro e w1 ⟨rfl,rfl⟩;rw [HE.out];clear hb e4 hml hp;go_wp2;go_roundw
    case rel=>exact ⟨k+1,by omega,by go_num,by rw [<- hy],by omega,by trivial⟩
    case measure=>simp [intOf];omega
   ·have hb':L - n - (sumL ls k:Nat)<(ls k:Int):=by omega
    go_wp2_with fail
    refine (qf7 _ _ _ _ _ hb' hp e4 hml).mono ?_;rintro e w1 ⟨rfl,rfl⟩;clear hb hb' e4 hml hp HE;go_wp2;go_ret;exact ⟨rfl,rfl⟩
  ·have hkl:k=n:=by omega
   subst hkl;have:=HS.out;omega
theorem qwr:(prog.info? 28).map (fun i=>(i.zero,i.size,i.bytes))=some (some nS,1,24):=by kernel_rfl
theorem qly (n:Nat) (hn:n<=1048576) (w:World):
  (Instr.makeSlice 30 (.int .i64 (n:Int)) (.int .i64 (n:Int))).run prog w=.ok (sG w.heap.size n n) (w.alloc (.cells (madeCells #[nS] n) 28)):=by
 have hinfo:=qwr;cases hi:prog.info? 28 with
 | none=>rw [hi] at hinfo;cases hinfo
 | some i=>
  rw [hi] at hinfo;simp only [Option.map_some,nG,Prod.mk.injEq] at hinfo;obtain ⟨hz,hs,hb⟩:=hinfo;have h:=run_make (P:=prog) w 30 28 i _ Tryz.underlying30 hi hz .i64 .i64 (n:Int) (n:Int) (by omega) (Int.le_refl _) (by rw [hb];omega) (by omega);rw [hs] at h;simpa [Value.cells] using h
theorem qnu (w:World) (n:Nat):(w.alloc (.cells (madeCells #[nS] n) 28)).rowIs w.heap.size 28 n (fun _=>.slice none 0 0):=by
 refine ⟨_,blk_alloc_new _ _,size_madeCells _ _,fun i hi=>?_⟩;simp only [madeCells];rw [Array.getElem?_map,Array.getElem?_range,nC hi];have:i % 1=0:=Nat.mod_one i;exact congrArg some (by simp [this])
structure qh6 (w:World) (D k:Nat) (f:Nat->Value) (ls:Nat->Nat) (bs:Nat->Nat) (h:Nat->Nat->Int):Prop where
 cel:∀ i,i<k->f i=.slice (some ⟨bs i,0,none⟩) (ls i) (ls i)
 bd:∀ i,i<k->D<bs i/\bs i<w.heap.size
 row:∀ i,i<k->ZAt w (bs i) 0 (ls i) (h i)
 fr:∀ i,i<k->∀ j,w.frozen? ⟨bs i,j,none⟩=false
 up:∀ i j,i<j->j<k->bs i<bs j
theorem qh6.step {w w1:World} {D k:Nat} {f:Nat->Value} {ls:Nat->Nat} {bs:Nat->Nat} {h:Nat->Nat->Int} (o:qh6 w D k f ls bs h) (hb:Below w.heap.size w w1) (hD:D<w.heap.size) (hz:w.heap.size<w1.heap.size) (hr:ZAt w1 w.heap.size 0 (ls k) (h k)) (hf:∀ j,w1.frozen? ⟨w.heap.size,j,none⟩=false) (u:Value):
  qh6 (w1.setCell ⟨D,k,none⟩ u) D (k+1) (fun i=>if i=k then .slice (some ⟨w.heap.size,0,none⟩) (ls k) (ls k) else f i) ls (fun i=>if i=k then w.heap.size else bs i) h:=by
 have hs:∀ b,b≠D->(w1.setCell ⟨D,k,none⟩ u).heap[b]? = w1.heap[b]?:=fun b hne=>zN _ _ _ _ hne;have hat:∀ b n g,b≠D->ZAt w1 b 0 n g->ZAt (w1.setCell ⟨D,k,none⟩ u) b 0 n g:=fun b n g hne hg=>fun i hi=>(zH (hs b hne)).trans (hg i hi);refine ⟨fun i hi=>?_,fun i hi=>?_,fun i hi=>?_,fun i hi j=>?_,fun i j hij hj=>?_⟩
 ·by_cases e:i=k
  ·subst e;simp
  ·simp only [nB e];exact o.cel i (by omega)
 ·by_cases e:i=k
  ·subst e;simp;omega
  ·simp only [nB e,World.size_setCell];have:=o.bd i (by omega);omega
 ·by_cases e:i=k
  ·subst e;simp only [nQ];exact hat _ _ _ (by omega) hr
  ·simp only [nB e];have hbd:=o.bd i (by omega);exact hat _ _ _ (by omega) ((o.row i (by omega)).bw hb hbd.2)
 ·by_cases e:i=k
  ·subst e;simp only [nQ];rw [World.frozen?_setCell];exact hf j
  ·simp only [nB e];rw [World.frozen?_setCell];have hbd:=o.bd i (by omega);exact (hb.frozen (p:=⟨bs i,j,none⟩) hbd.2).trans (o.fr i (by omega) j)
 ·by_cases e:j=k
  ·have hi:i≠k:=by omega
   simp only [nB hi,nC e];exact (o.bd i (by omega)).2
  ·have hi:i≠k:=by omega
   simp only [nB hi,nB e];exact o.up i j hij (by omega)
structure qrd (W:World) (a0:Option Addr) (n:Nat) (aa:Nat->Option Addr) (ls cs:Nat->Nat) (h:Nat->Nat->Int):Prop where
 row:RowS W a0 n fun i=>.slice (aa i) (ls i) (cs i)
 cop:∀ i,i<n->qh4 W (aa i) (ls i) (cs i) (h i)
theorem qq4 (a0:Option Addr) (n cap:Nat) (aa:Nat->Option Addr) (ls cs:Nat->Nat) (h:Nat->Nat->Int) (W w:World) (hn:n<=1048576) (hA:qrd W a0 n aa ls cs h) (hW:Below W.heap.size W w):
  Calls prog 63 #[.slice a0 n cap] w fun e w'=>e=.returned (sG w.heap.size n n)/\(∃ bs,qbr w' w.heap.size w'.heap.size n ls bs h)/\Below w.heap.size w w':=by
 have hl':(n:Int)<=1048576:=by omega
 have hmk:=qly n hn;have HA:Hid (qrd W a0 n aa ls cs h):=hA;have HW:Hid (Below W.heap.size W w):=hW;clear hA hW
 go_enter func63,ntmps63
 go_wp2_with fail
 clear hmk
 go_loopw [4] (fun i wr=>∃ k:Nat,k<=n/\i=.int .i64 k/\(∃ f,wr.rowIs w.heap.size 28 n f/\Hid (∃ bs,qh6 wr w.heap.size k f ls bs h))/\Below w.heap.size w wr) (fun i _=>n - (intOf i).toNat)
 case atStart=>exact ⟨0,nD _,rfl,⟨_,qnu w n,fun _=>0,fun i hi=>by omega,fun i hi=>by omega,fun i hi=>by omega,fun i hi=>by omega,fun i j hij hj=>by omega⟩,(nE _ _).alloc (nA _) _⟩
 case round=>
  obtain ⟨k,hk,rfl,⟨f,hrow,HF⟩,hbw⟩:=hrel;have hs:=hrow.lt;by_cases hlt:k<n
  ·have hlt':(k:Int)<(n:Int):=by omega
   have HB:Hid (Below W.heap.size W wr):=HW.trans (hbw.mono HW.size);obtain ⟨b,off,rfl,ck⟩:=(HA.row.bw HB.out).at hlt;have HR:Hid (wr.rowIs w.heap.size 28 n f):=hrow;clear hrow;go_wp2_with fail
   refine (HA.cop k hlt wr HB.out).mono ?_;rintro e w1 ⟨rfl,hi1,hz1,hb1,hf1⟩;have hr1:w1.rowIs w.heap.size 28 n f:=HR.of_block (hb1.block _ hs);have f0:=hr1.frozen k;have g0:=hr1.cell (i:=k) hlt;have HR1:Hid (w1.rowIs w.heap.size 28 n f):=hr1
   have HF1:Hid (∃ bs,qh6 (w1.setCell ⟨w.heap.size,k,none⟩ (.slice (some ⟨wr.heap.size,0,none⟩) (ls k) (ls k))) w.heap.size (k+1) (fun i=>if i=k then .slice (some ⟨wr.heap.size,0,none⟩) (ls k) (ls k) else f i) ls bs h):=by
    obtain ⟨bs,o⟩:=HF.out;exact ⟨_,o.step hb1 hs hz1 hi1 hf1 _⟩
   clear hr1 hi1 HF HR hf1;go_wp2_with fail
   exact ⟨⟨k+1,by omega,by go_num,⟨_,HR1.set _ _,HF1.out⟩,(hbw.trans (hb1.mono (nJ hs))).setCell (nA _) _⟩,by simp [intOf];omega⟩
  ·have hkl:k=n:=by omega
   have HO:Hid (∃ bs,qbr wr w.heap.size wr.heap.size n ls bs h):=by
    obtain ⟨bs,o⟩:=HF.out;rw [hkl] at o;exact ⟨bs,fun i hi=>by rw [hrow.cell hi,o.cel i hi],o.bd,o.row,o.fr,o.up,nA _,hs⟩
   clear hkl HF hrow;go_wp2;go_ret;exact ⟨rfl,HO.out,hbw⟩
theorem qm9 (D1 h1 D2 h2 n c1 c2:Nat) (ls b1 b2:Nat->Nat) (h:Nat->Nat->Int) (w:World) (hn:n<=1048576) (hl:∀ i,i<n->ls i<=1048576) (o1:qbr w D1 h1 n ls b1 h) (o2:qbr w D2 h2 n ls b2 h):
  Calls prog 86 #[.slice (some ⟨D1,0,none⟩) n c1,.slice (some ⟨D2,0,none⟩) n c2] w (rB w (.bool true)):=by
 have hl':(n:Int)<=1048576:=by omega
 have O1:Hid (qbr w D1 h1 n ls b1 h):=o1;have O2:Hid (qbr w D2 h2 n ls b2 h):=o2;have HL:Hid (∀ i,i<n->ls i<=1048576):=hl;clear o1 o2 hl
 go_enter func86,ntmps86
 go_wp2_with fail
 go_loopw [5] (fun i wr=>∃ k:Nat,k<=n/\i=.int .i64 k/\Below w.heap.size w wr) (fun i _=>n - (intOf i).toNat)
 case atStart=>exact ⟨0,nD _,rfl,nE _ _⟩
 case round=>
  obtain ⟨k,hk,rfl,hbw⟩:=hrel;have hs:=hbw.size;by_cases hlt:k<n
  ·have P1:Hid (qbr wr D1 h1 n ls b1 h):=O1.bw hbw O1.le
   have P2:Hid (qbr wr D2 h2 n ls b2 h):=O2.bw hbw O2.le;have ck:=P1.cel k hlt;have dk:=P2.cel k hlt;have hlt':(k:Int)<(n:Int):=by omega
   go_wp2_with fail
   first|(go_region_with (go_at_call 84;refine (qg8 (b1 k) (b2 k) (ls k) (ls k) (ls k) (h k) wr.drew (HL.out k hlt) (zL (P1.bd k hlt).2 P1.le) (zL (P2.bd k hlt).2 P2.le) (P1.row k hlt) (P2.row k hlt)).mono ?_;rintro e w1 ⟨rfl,hq1⟩)) | fail
   all_goals
    go_wp2;go_roundw
    case rel=>exact ⟨k+1,by omega,by go_num,hbw.drew.trans (hq1.mono hs)⟩
    case measure=>simp [intOf];omega
  ·go_wp2
   go_ret;exact ⟨rfl,hbw⟩
theorem qll (D hi n cap:Nat) (ls bs:Nat->Nat) (h:Nat->Nat->Int) (k:Int) (w:World) (hn:n<=1048576) (hl:sumL ls n<=1048576) (k0:0<=k) (k1:k<=50000000) (o:qbr w D hi n ls bs h):
  Calls prog 93 #[.slice (some ⟨D,0,none⟩) n cap,.int .i64 k] w fun e w'=>e=.returned (.int .i64 (k+(sumL ls n:Nat)))/\qaa (fun b=>D<b/\b<hi) w w':=by
 have hl':(n:Int)<=1048576:=by omega
 have O:Hid (qbr w D hi n ls bs h):=o;have HL:Hid (sumL ls n<=1048576):=hl;clear o hl
 go_enter func93,ntmps93
 go_wp2_with fail
 go_loopw [1,5] (fun q i wr=>∃ j:Nat,j<=n/\i=.int .i64 j/\q=.int .i64 (k+(sumL ls j:Nat))/\Hid (qaa (fun b=>∃ t,t<j/\b=bs t) w wr)) (fun _ i _=>n - (intOf i).toNat)
 case atStart=>exact ⟨0,nD _,rfl,by simp [sumL],qaa.refl _ _⟩
 case round=>
  obtain ⟨j,hj,rfl,rfl,HT⟩:=hrel;by_cases hlt:j<n
  ·have hlt':(j:Int)<(n:Int):=by omega
   have dD:¬ ∃ t,t<j/\D=bs t:=by
    rintro ⟨t,ht,e⟩;have:=(O.bd t (by omega)).1;omega
   have dJ:¬ ∃ t,t<j/\bs j=bs t:=by
    rintro ⟨t,ht,e⟩;have:=O.up t j ht hlt;omega
   have bJ:=O.bd j hlt;have le:=O.le;have ck:wr.cell? ⟨D,j,none⟩=some (.slice (some ⟨bs j,0,none⟩) (ls j) (ls j)):=(HT.cell (zL O.lt le) dD j).trans (O.cel j hlt)
   have RM:Hid (qcu wr (bs j) (ls j)):=by
    have hb:wr.heap[bs j]? = w.heap[bs j]?:=HT.block (bs j) (by omega) dJ;have hrm:qcu w (bs j) (ls j):=qcu.of_z (O.row j hlt) (O.fr j hlt);exact ⟨fun i hi=>(hrm.1 i hi).elim fun u e=>⟨u,(zH hb).trans e⟩,fun i=>(zI hb).trans (hrm.2 i)⟩
   have hsl:=qbf ls hlt;have hS:=HL.out;have e1:k+(sumL ls j:Nat)+(ls j:Int)=k+(sumL ls (j+1):Nat):=by simp only [sumL];omega
   have HE:Hid (k+(sumL ls j:Nat)+(ls j:Int)=k+(sumL ls (j+1):Nat)):=e1;have e2:0<=k+(sumL ls j:Nat):=by omega
   have e3:k+(sumL ls j:Nat)<=100000000:=by omega
   have e4:ls j<=1048576:=by omega
   clear dD bJ le e1 hS hsl;go_wp2_with fail
   refine (qfr (bs j) (ls j) (ls j) _ wr e4 e2 e3 RM.out).mono ?_;rintro e w1 ⟨rfl,g1⟩;rw [HE.out];have HT1:Hid (qaa (fun b=>∃ t,t<j+1/\b=bs t) w w1):=(HT.mono fun b ⟨t,ht,e⟩=>⟨t,by omega,e⟩).trans (qaa.of_grown g1 fun b e=>⟨j,by omega,by simpa using e.symm⟩);clear HT dJ RM e2 e3 e4 g1;go_wp2;go_roundw
   case rel=>exact ⟨j+1,by omega,by go_num,rfl,HT1.out⟩
   case measure=>simp [intOf];omega
  ·have hkl:j=n:=by omega
   subst hkl
   have HT1:Hid (qaa (fun b=>D<b/\b<hi) w wr):=HT.mono fun b ⟨t,ht,e⟩=>by
    subst e;exact O.bd t ht
   clear HT;go_wp2;go_ret;exact ⟨rfl,HT1.out⟩
theorem qts {H:Type} {enc:TypeId × Value->H} {w:World} {spare:Nat->Bool} {held:Bool} {base:Nat} {a0:Option Addr} {len cap:Nat} {d:DataW H} {p:List MemPlace}
  (h:DataW.Trod enc prog w base spare held 30 (.slice a0 len cap) d p):
  len<=maxLen/\∃ aa ls cs,RowS w a0 len (fun i=>.slice (aa i) (ls i) (cs i))/\(∀ i,i<len->ls i<=maxLen)/\((∀ i,i<len->ls i<=1048576)->∃ hh,qrd w a0 len aa ls cs hh):=by
 obtain ⟨hm,f,hrow,hf⟩:=qdk Tryz.underlying30 (el:=28) (by kernel_rfl) h;refine ⟨hm,?_⟩
 have hpart:∀ i,i<len->∃ x:Option Addr × Nat × Nat,f i=.slice x.1 x.2.1 x.2.2/\x.2.1<=maxLen/\(x.2.1<=1048576->∃ g,qh4 w x.1 x.2.1 x.2.2 g):=by
  intro i hi;obtain ⟨m,x,hx⟩:=hf i hi
  have hsl:∃ a l c,f i=.slice a l c:=by
   rcases Go.Deep.open_slice Tryz.underlying28 hx with ⟨hcs,_⟩ | ⟨a,len',cap',m,n,D,Pl,hcs,_⟩
   ·simp at hcs
    exact ⟨_,_,_,hcs⟩
   ·simp at hcs
    exact ⟨_,_,_,hcs⟩
  obtain ⟨a,l,c,e⟩:=hsl;rw [e] at hx;obtain ⟨h1,h2⟩:=qn8 (d:=x.1) (p:=x.2) (a0:=a) (len:=l) (cap:=c) ⟨m,by simpa [Value.cells] using hx⟩;exact ⟨(a,l,c),e,h1,fun hs=>qj1 hs h2⟩
 obtain ⟨g,hg⟩:=Go.Deep.choose_lt (α:=Option Addr × Nat × Nat) hpart;refine ⟨fun i=>(g i).1,fun i=>(g i).2.1,fun i=>(g i).2.2,?_,fun i hi=>(hg i hi).2.1,fun hs=>?_⟩
 ·rcases hrow with h0 | ⟨b,off,e,hlt,hc⟩
  ·exact .inl h0
  ·exact .inr ⟨b,off,e,hlt,fun i hi=>(hc i hi).trans (by rw [(hg i hi).1])⟩
 ·have hq:∀ i,i<len->∃ q:Nat->Int,qh4 w (g i).1 (g i).2.1 (g i).2.2 q:=fun i hi=>(hg i hi).2.2 (hs i hi)
  have inh:Inhabited (Nat->Int):=⟨fun _=>0⟩
  obtain ⟨hh,hhh⟩:=Go.Deep.choose_lt (α:=Nat->Int) hq;refine ⟨hh,?_,hhh⟩
  rcases hrow with h0 | ⟨b,off,e,hlt,hc⟩
  ·exact .inl h0
  ·exact .inr ⟨b,off,e,hlt,fun i hi=>(hc i hi).trans (by rw [(hg i hi).1])⟩
