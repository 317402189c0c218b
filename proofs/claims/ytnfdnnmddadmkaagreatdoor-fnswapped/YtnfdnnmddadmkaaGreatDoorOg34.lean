import Derived.Test.YtnfdnnmddadmkaaGreatDoorOg33
import Derived.Deep.Cut
namespace Go.Proofs.YtnfdnnmddadmkaaGreatDoor
set_option maxRecDepth 100000
set_option maxHeartbeats 4000000
open Go.RowKit Go.Extern.Stop Go.Stop Go.Extern
theorem qu9 (x:Int) (t:Addr) (old:Value) (w:World) (hg:w.cell? ⟨0,0,none⟩=some (.iface 310 (.agg #[.pointer (some ⟨1,217,none⟩)]))) (ht0:w.cell? t=some old) (hf0:w.frozen? t=false):
  Calls Tryz.prog 181 #[.iface 221 (.agg #[.int .i64 x]),.iface 223 (.pointer (some t))] w fun ev w'=>ev=.returned (.bool true)/\∃ o1 o2 o3 o4,w'=((((w.alloc o1).alloc o2).alloc o3).alloc o4).setCell t (.int .i64 x):=by
 have h6:=@run_callFunc_extern Tryz.prog 220 _ (fun args=>ReflectliteValue.unpack (args.getD 0 (.tuple #[]))) Tryz.func220 (by kernel_rfl) (by kernel_rfl) (by kernel_rfl) (by kernel_rfl)
 have h7 := @run_callFunc_extern Tryz.prog 221 _ (ReflectliteValue.methodAny (ReflectliteValue.valueError "reflectlite.Value.Type" 0) (fun t _ _ _ => ReflectliteType.toType t)) Tryz.func221 (by kernel_rfl) (by kernel_rfl) (by kernel_rfl) (by kernel_rfl)
 have h8 := @run_callFunc_extern Tryz.prog 222 _ (ReflectliteValue.method (ReflectliteValue.valueError "reflectlite.Value.IsNil" 0) ReflectliteValue.isNil) Tryz.func222 (by kernel_rfl) (by kernel_rfl) (by kernel_rfl) (by kernel_rfl)
 have h27:=@run_callFunc_extern Tryz.prog 273 _ (ReflectliteType.abiMethod fun t=>do pure (.int .u8 (<- Rtype.kind t))) Tryz.func273 (by kernel_rfl) (by kernel_rfl) (by kernel_rfl) (by kernel_rfl)
 have h37:=@run_callFunc_extern Tryz.prog 293 _ (ReflectliteType.method ReflectliteType.elem) Tryz.func293 (by kernel_rfl) (by kernel_rfl) (by kernel_rfl) (by kernel_rfl)
 have h38 := @run_callFunc_extern Tryz.prog 294 _ (ReflectliteType.relation "Implements" ReflectliteType.implements_) Tryz.func294 (by kernel_rfl) (by kernel_rfl) (by kernel_rfl) (by kernel_rfl)
 have h10:=@run_callFunc_extern Tryz.prog 250 _ ReflectliteType.typeOf Tryz.func250 (by kernel_rfl) (by kernel_rfl) (by kernel_rfl) (by kernel_rfl)
 have h35 := @run_callFunc_extern Tryz.prog 291 _ (ReflectliteType.relation "AssignableTo" ReflectliteType.assignableTo) Tryz.func291 (by kernel_rfl) (by kernel_rfl) (by kernel_rfl) (by kernel_rfl)
 have h11 := @run_callFunc_extern Tryz.prog 251 _ (ReflectliteValue.method (ReflectliteValue.valueError "reflectlite.Value.Elem" 0) ReflectliteValue.elem) Tryz.func251 (by kernel_rfl) (by kernel_rfl) (by kernel_rfl) (by kernel_rfl)
 have h12:=@run_callFunc_extern Tryz.prog 252 _ ReflectliteValue.set Tryz.func252 (by kernel_rfl) (by kernel_rfl) (by kernel_rfl) (by kernel_rfl)
 have tO:=qu4
 have a25:=ql9
 have v25:=qtk
 have f6:=qtl
 have f7:=qwb
 have k27:=qv9
 have k25:=qv8
 have e27:=qv6
 have i25:=qmj
 have n8:=qvp ⟨w.heap.size,0,none⟩ t ((w.alloc (.cells #[.pointer (some t)] 223)).alloc (.cells #[.pointer (some ⟨1,223,none⟩),.pointer (some ⟨w.heap.size,0,none⟩),.int .u64 150] 275)) (by simp)
 have hlt:0<w.heap.size:=by
  rcases Nat.eq_zero_or_pos w.heap.size with h0 | h
  ·simp [World.cell?,h0] at hg
  ·exact h
 have hg2:((w.alloc (.cells #[.pointer (some t)] 223)).alloc (.cells #[.pointer (some ⟨1,223,none⟩),.pointer (some ⟨w.heap.size,0,none⟩),.int .u64 150] 275)).cell? ⟨0,0,none⟩=some (.iface 310 (.agg #[.pointer (some ⟨1,217,none⟩)])):=by
  rw [World.cell?_alloc_lt _ _ ⟨0,0,none⟩ (by simp),World.cell?_alloc_lt _ _ ⟨0,0,none⟩ hlt];exact hg
 have htl:t.block<w.heap.size:=by
  rcases Nat.lt_or_ge t.block w.heap.size with h | h
  ·exact h
  ·simp [World.cell?,Array.getElem?_eq_none h] at ht0
 have el := qvi ⟨w.heap.size, 0, none⟩ t (((w.alloc (.cells #[.pointer (some t)] 223)).alloc (.cells #[.pointer (some ⟨1, 223, none⟩), .pointer (some ⟨w.heap.size, 0, none⟩), .int .u64 150] 275)).alloc (.cells #[.pointer (some ⟨1, 223, none⟩), .pointer (some ⟨w.heap.size, 0, none⟩), .int .u64 150] 275)) (by
  rw [World.cell?_alloc_lt _ _ _ (by simp;omega),World.cell?_alloc_lt _ _ _ (by simp),World.cell?_alloc_at _ _ _ _ rfl];rfl)
 have st:=setE t ⟨w.heap.size+1+1+1,0,none⟩ x old ((((w.alloc (.cells #[.pointer (some t)] 223)).alloc (.cells #[.pointer (some ⟨1,223,none⟩),.pointer (some ⟨w.heap.size,0,none⟩),.int .u64 150] 275)).alloc (.cells #[.pointer (some ⟨1,223,none⟩),.pointer (some ⟨w.heap.size,0,none⟩),.int .u64 150] 275)).alloc (.cells #[.int .i64 x] 221))
  (by rw [World.cell?_alloc_at _ _ _ _ (by simp)];rfl)
  (by rw [World.cell?_alloc_lt _ _ t (by simp;omega),World.cell?_alloc_lt _ _ t (by simp;omega),World.cell?_alloc_lt _ _ t (by simp;omega),World.cell?_alloc_lt _ _ t htl];exact ht0)
  (by rw [World.frozen?_alloc_old _ _ t (by simp;omega),World.frozen?_alloc_old _ _ t (by simp;omega),World.frozen?_alloc_old _ _ t (by simp;omega),World.frozen?_alloc_old _ _ t (Nat.ne_of_lt htl)];exact hf0)
 go_enter Tryz.func181,Tryz.ntmps181
 go_wp2
 refine wp_loop_rounds 1 ?_
 rw [rounds_succ]
 go_wp2
 go_ret
 exact ⟨rfl,_,_,_,_,rfl⟩
open Go.RowKit Go.Deep
theorem qgj (W0 c len cap:Nat) (a0:Option Addr) (n:Int) (w:World) (hc:Cur w W0 c a0 len cap) (n1:1<=n) (n2:n<=1048576):
  Calls Tryz.prog 37 #[.pointer (some ⟨c,0,none⟩),.int .i64 n] w fun e w'=>∃ x:Int,e=.returned (.int .i64 x)/\(0<=x/\x<n)/\Cur w' W0 c a0 len cap/\w.grownBy w' (some c):=by
 by_cases hs:n<=256
 ·exact zY W0 c len cap a0 n w hc n1 hs
 have n3:¬ n<=0:=by omega
 have n4:(n == 0)=false:=by simp;omega
 have HCur:Hid (Cur w W0 c a0 len cap):=hc
 clear hc
 go_enter Tryz.func37,Tryz.ntmps37
 go_wp2_with fail
 refine (qde W0 c len cap a0 _ HCur.out).mono ?_
 rintro e w1 ⟨x,rfl,⟨x0,x1⟩,hc1,hg1⟩
 have H1:Hid (Cur w1 W0 c a0 len cap/\w.grownBy w1 (some c)):=⟨hc1,hg1⟩
 clear hc1 hg1 HCur
 go_wp2_with fail
 refine (qde W0 c len cap a0 _ H1.out.1).mono ?_
 rintro e w2 ⟨y,rfl,⟨y0,y1⟩,hc2,hg2⟩
 have H2:Hid (Cur w2 W0 c a0 len cap/\w.grownBy w2 (some c)):=⟨hc2,H1.out.2.trans hg2⟩
 clear hc2 hg2 H1
 go_wp2_with fail
 refine (qde W0 c len cap a0 _ H2.out.1).mono ?_
 rintro e w3 ⟨z,rfl,⟨z0,z1⟩,hc3,hg3⟩
 have H3:Hid (Cur w3 W0 c a0 len cap/\w.grownBy w3 (some c)):=⟨hc3,H2.out.2.trans hg3⟩
 clear hc3 hg3 H2
 go_wp2_with fail
 refine (qde W0 c len cap a0 _ H3.out.1).mono ?_
 rintro e w4 ⟨u,rfl,⟨u0,u1⟩,hc4,hg4⟩
 have H4:Hid (Cur w4 W0 c a0 len cap/\w.grownBy w4 (some c)):=⟨hc4,H3.out.2.trans hg4⟩
 clear hc4 hg4 H3
 have hp:0<=x*16777216+y*65536+z*256+u:=by omega
 go_wp2
 go_ret
 exact ⟨_,rfl,⟨Int.emod_nonneg _ (by omega),Int.emod_lt_of_pos _ (by omega)⟩,H4.out.1,H4.out.2⟩
open Go.ChangeShapes Go.WideShapes Go.ChangeAt
variable {z:Bool}
theorem LL.made (e:TypeId) (sz:Nat) (E:TypeId) (w:World) (cs:Array Value) (n:Nat) (hn:n<=1048576) (hc:cs.size=n) (P:Nat->Prop) (hP:P w.heap.size) (u:Nat->Value) (L:Nat->Nat) (c:Nat->List Value):LL z e sz E (w.alloc (.cells cs E)) P (.slice (some ⟨w.heap.size,0,none⟩) 0 n) 0 u L c:=
 ⟨World.ownsRow_made (base:=0) (e:=E) (size:=1) w cs n (Nat.zero_le _) (by unfold maxLen;omega) (by rw [hc,Nat.mul_one]),fun i hi=>(by omega),fun k hk=>(by cases hk;exact hP),fun i hi=>(by omega),fun i hi=>(by omega),fun i j hi=>(by omega),fun i hi=>(by omega)⟩
variable {z:Bool}
structure SysIn.Nn (x:SysIn) (z:Bool):Prop where
 w:∀ i,i<x.wn->(∃ b off,x.wA i=some ⟨b,off,none⟩)\/(z=false/\x.wA i=none/\x.wL i=0/\x.wC i=0)
 h:∀ i,i<x.hn->(∃ b off,x.hA i=some ⟨b,off,none⟩)\/(z=false/\x.hA i=none/\x.hL i=0/\x.hC i=0)
theorem LS.made (w:World) (cs:Array Value) (n:Nat) (hn:n<=1048576) (hc:cs.size=n*4) (P:Nat->Prop) (hP:P w.heap.size) (vs:Nat->Value) (S:Nat->S4) {N:Nat} (hN:N=w.heap.size):LS (w.alloc (.cells cs 93)) P (.slice (some ⟨N,0,none⟩) 0 n) 0 vs S:=by
 subst hN
 exact ⟨World.ownsRow_made (base:=0) (e:=93) (size:=4) w cs n (Nat.zero_le _) (by unfold maxLen;omega) hc,fun i hi=>(by omega),fun k hk=>(by cases hk;exact hP),fun i hi=>(by omega),fun i hi=>(by omega),fun i j hi=>(by omega)⟩
theorem OwnS.four {B m1 m2 m3 m4:Nat} {w1 w2 w3 w4 wf:World} {y:Sy} {vp vs vw vh:Value} {up us uw uh:Nat->Value} (h1:m1<=w1.heap.size) (h2:w1.heap.size<=m2) (h3:w2.heap.size<=m3) (h4:w3.heap.size<=m4) (hB:B<=m1)
  (o1:LS w1 (fun k=>m1<=k/\k<w1.heap.size) vs y.sn us y.sS) (o2:LI z w2 (fun k=>m2<=k/\k<w2.heap.size) vp y.pn up y.pL y.pH) (o3:LT z w3 (fun k=>m3<=k/\k<w3.heap.size) vw y.wn uw y.wL y.wH) (o4:LE z w4 (fun k=>m4<=k/\k<w4.heap.size) vh y.hn uh y.hL y.hH)
  (b2:Below w1.heap.size w1 w2) (b3:Below w2.heap.size w2 w3) (b4:Below w3.heap.size w3 w4) (hf:∀ k,m1<=k->k<w4.heap.size->wf.heap[k]? = w4.heap[k]?):
  ∃ c,OwnS z wf B c y vp vs vw vh up us uw uh:=by
 have z2:=b2.size
 have z3:=b3.size
 have z4:=b4.size
 refine ⟨fun k=>if k<w1.heap.size then 2 else if k<w2.heap.size then 1 else if k<w3.heap.size then 3 else 4,?_,?_,?_,?_⟩
 ·refine (o2.keep (w':=wf) fun k hk hl=>(hf k (by omega) (by omega)).trans ((b4.block k (by omega)).trans (b3.block k hl))).mono fun k hk _=>⟨by omega,?_⟩
  show (if k<w1.heap.size then 2 else if k<w2.heap.size then 1 else if k<w3.heap.size then 3 else 4)=1
  rw [if_neg (by omega),if_pos (by omega)]
 ·refine (o1.keep (w':=wf) fun k hk hl=>(hf k (by omega) (by omega)).trans ((b4.block k (by omega)).trans ((b3.block k (by omega)).trans (b2.block k hl)))).mono fun k hk _=>⟨by omega,?_⟩
  show (if k<w1.heap.size then 2 else if k<w2.heap.size then 1 else if k<w3.heap.size then 3 else 4)=2
  rw [if_pos (by omega)]
 ·refine (o3.keep (w':=wf) fun k hk hl=>(hf k (by omega) (by omega)).trans (b4.block k hl)).mono fun k hk _=>⟨by omega,?_⟩
  show (if k<w1.heap.size then 2 else if k<w2.heap.size then 1 else if k<w3.heap.size then 3 else 4)=3
  rw [if_neg (by omega),if_neg (by omega),if_pos (by omega)]
 ·refine (o4.keep (w':=wf) fun k hk hl=>hf k (by omega) hl).mono fun k hk _=>⟨by omega,?_⟩
  show (if k<w1.heap.size then 2 else if k<w2.heap.size then 1 else if k<w3.heap.size then 3 else 4)=4
  rw [if_neg (by omega),if_neg (by omega),if_neg (by omega)]
section
variable {P:Program} {ops:Array Oper} {Q:Exit->Act->World->Prop} {md:Region.Mode} {S:World->Prop} {G:Nat->Bool}
def notB (b:Bool):Nat:=bif b then 0 else 1
def outI (b:Bool) (i:Nat):List Nat:=bif b then [] else [i]
theorem qgz {b:Bool} {i j:Nat} (h:j ∈ outI b i):b=false/\j=i:=by
 cases b with
 | true=>cases h
 | false=>exact ⟨rfl,List.mem_singleton.1 h⟩
theorem qto (lst:Bool->Bool->Bool->Bool->Bool->Array Bool) (i1 i2 i3 i4 i5:Nat) {o5:Oper} (I:Bool->Bool->Bool->Bool->Act->World->Prop) (J:Bool->Act->World->Prop) {f0:Nat}
  (hrd:∀ a b c d,(a && b && c)=false->Region.ready md ops (lst a b c d false)=outI a i1 ++ (outI b i2 ++ (outI c i3 ++ outI d i4)))
  (s1:∀ b c d,(lst false b c d false).setIfInBounds i1 true=lst true b c d false) (s2:∀ a c d,(lst a false c d false).setIfInBounds i2 true=lst a true c d false) (s3:∀ a b d,(lst a b false d false).setIfInBounds i3 true=lst a b true d false) (s4:∀ a b c e,(lst a b c false e).setIfInBounds i4 true=lst a b c true e) (s5:∀ d,(lst true true true d false).setIfInBounds i5 true=lst true true true d true)
  (e5:ops.toList[i5]? = some o5) (hs:Region.noSelect ops=true) (hf:∀ d,Region.free md ops (lst true true true d false) i5=true) (hr5:∀ d,(Region.ready md ops (lst true true true d false)).contains i5=true) (hrJ:Region.ready md ops (lst true true true false true)=[i4]) (hQ:∀ v c a w,Q (.panic c) (a.put o5.dst v) w->Q (.panic c) a w)
  (h1:∀ b c d x w,I false b c d x w->wpOp P ops Q i1 (fun x' w'=>(S w->G i1=false->S w')/\I true b c d x' w') x w) (h2:∀ a c d x w,I a false c d x w->wpOp P ops Q i2 (fun x' w'=>(S w->G i2=false->S w')/\I a true c d x' w') x w)
  (h3:∀ a b d x w,I a b false d x w->wpOp P ops Q i3 (fun x' w'=>(S w->G i3=false->S w')/\I a b true d x' w') x w) (h4:∀ a b c x w,I a b c false x w->wpOp P ops Q i4 (fun x' w'=>(S w->G i4=false->S w')/\I a b c true x' w') x w)
  (h5:∀ d x w,I true true true d x w->Region.wanted o5 (yielded ops x.tmps)=true/\∃ v,(∀ w,(execOp x.eval o5).run P w=.ok (.value v) w)/\J d (x.put o5.dst v) w)
  (hJ:∀ x w,J false x w->wpOp P ops Q i4 (fun x' w'=>(S w->G i4=false->S w')/\J true x' w') x w)
  (hend:∀ x w,J true x w->wpG P md ops Q S G f0 (lst true true true true true) x w):
  ∀ (m:Nat) (a b c d:Bool) (x:Act) (w:World),notB a+notB b+notB c+notB d=m->I a b c d x w->wpG P md ops Q S G (f0+m+1) (lst a b c d false) x w:=by
 intro m
 induction m with
 | zero=>
  intro a b c d x w hm hI
  obtain ⟨rfl,rfl,rfl,rfl⟩:a=true/\b=true/\c=true/\d=true:=by
   cases a <;> cases b <;> cases c <;> cases d <;> simp [notB] at hm ⊢
  obtain ⟨hw,v,hv,hj⟩:=h5 _ x w hI
  exact qhq i5 e5 hs (hf _) (hr5 _) hQ hw ⟨v,hv,by rw [s5];exact hend _ _ hj⟩
 | succ m ih=>
  intro a b c d x w hm hI
  rcases zK (a && b && c) with hT | hne
  ·obtain ⟨rfl,rfl,rfl⟩:a=true/\b=true/\c=true:=by
    cases a <;> cases b <;> cases c <;> simp at hT ⊢
   obtain ⟨rfl,rfl⟩:d=false/\m=0:=by
    cases d <;> simp [notB] at hm ⊢ <;> exact hm
   obtain ⟨hw,v,hv,hj⟩:=h5 _ x w hI
   refine qhq i5 e5 hs (hf _) (hr5 _) hQ hw ⟨v,hv,?_⟩
   rw [s5]
   refine ⟨(fun h0=>by rw [hrJ] at h0;cases h0),fun i hi=>?_⟩
   rw [hrJ] at hi
   obtain rfl:=List.mem_singleton.1 hi
   refine wpOp_mono (fun x' w' h=>⟨h.1,?_⟩) (hJ _ _ hj)
   rw [s4]
   exact hend _ _ h.2
  have hr:=hrd a b c d hne
  refine ⟨fun h0=>?_,fun i hi=>?_⟩
  ·rw [hr] at h0
   cases a <;> cases b <;> cases c <;> cases d <;> simp [outI] at h0 hne
  ·rw [hr,List.mem_append,List.mem_append,List.mem_append] at hi
   rcases hi with hi | hi | hi | hi
   ·obtain ⟨rfl,rfl⟩:=qgz hi
    refine wpOp_mono (fun x' w' h=>⟨h.1,?_⟩) (h1 b c d x w hI)
    rw [s1]
    exact ih true b c d x' w' (by simp [notB] at hm ⊢;omega) h.2
   ·obtain ⟨rfl,rfl⟩:=qgz hi
    refine wpOp_mono (fun x' w' h=>⟨h.1,?_⟩) (h2 a c d x w hI)
    rw [s2]
    exact ih a true c d x' w' (by simp [notB] at hm ⊢;omega) h.2
   ·obtain ⟨rfl,rfl⟩:=qgz hi
    refine wpOp_mono (fun x' w' h=>⟨h.1,?_⟩) (h3 a b d x w hI)
    rw [s3]
    exact ih a b true d x' w' (by simp [notB] at hm ⊢;omega) h.2
   ·obtain ⟨rfl,rfl⟩:=qgz hi
    refine wpOp_mono (fun x' w' h=>⟨h.1,?_⟩) (h4 a b c x w hI)
    rw [s4]
    exact ih a b c true x' w' (by simp [notB] at hm ⊢;omega) h.2
end
structure ZL (E:TypeId) (w:World) (P:Nat->Prop) (v:Value) (n:Nat):Prop where
 row:w.ownsRow 0 E 1 v n (List.replicate n (.slice none 0 0))
 rb:∀ k,v.ownBlock=some k->P k
section
variable {E:TypeId} {w w':World} {P:Nat->Prop} {v:Value} {n:Nat}
theorem ZL.keep (o:ZL E w P v n) (hb:∀ k,P k->k<w.heap.size->w'.heap[k]? = w.heap[k]?):ZL E w' P v n:=⟨qa1 o.row fun k hk=>hb k (o.rb k hk) (o.row.lt k hk).2,o.rb⟩
theorem ZL.below (o:ZL E w P v n) (hb:Below w.heap.size w w'):ZL E w' P v n:=o.keep fun k _ hk=>hb.block k hk
theorem ZL.mono (o:ZL E w P v n) {P':Nat->Prop} (h:∀ k,P k->k<w.heap.size->P' k):ZL E w P' v n:=⟨o.row,fun k hk=>h k (o.rb k hk) (o.row.lt k hk).2⟩
theorem ZL.nil (E:TypeId) (w:World) (P:Nat->Prop):ZL E w P (.slice none 0 0) 0:=⟨World.ownsRow_nil _ _ _ _,fun k hk=>by cases hk⟩
theorem ZL.cell (o:ZL E w P v n) {i:Nat} (hi:i<n):∃ g cap,v=.slice (some ⟨g,0,none⟩) n cap/\g<w.heap.size/\w.cell? ⟨g,i,none⟩=some (.slice none 0 0):=by
 rcases o.row.2 with ⟨_,h0⟩ | ⟨g,cap,cur,rfl,hb,hg,hr⟩
 ·omega
 ·refine ⟨g,cap,rfl,(o.row.lt g rfl).2,?_⟩
  rw [o.row.cellAt i (by omega)]
  simp [hi]
theorem ZL.rowS (o:ZL E w P v n):RowS w (adOf v) n fun _=>.slice none 0 0:=by
 rcases Nat.eq_zero_or_pos n with h | h
 ·exact .inl h
 ·obtain ⟨g,cap,rfl,hg,-⟩:=o.cell h
  refine .inr ⟨g,0,rfl,hg,fun i hi=>?_⟩
  obtain ⟨g',cap',ew,-,hc⟩:=o.cell hi
  simp only [Value.slice.injEq,Option.some.injEq,Addr.mk.injEq,and_true,true_and] at ew
  obtain ⟨rfl,rfl⟩:=ew
  rw [Nat.zero_add]
  exact hc
end
theorem qfj {t e:TypeId} {bytes:Nat} (K:Kind t e 1 bytes) (hz0:(Tryz.prog.info? e).bind (·.zero)=some (.slice none 0 0)) (n:Nat) (hn:n<=1048576) (w:World):(Instr.makeSlice t (.int .i64 (n:Int)) (.int .i64 (n:Int))).run Tryz.prog w=.ok (.slice (some ⟨w.heap.size,0,none⟩) n n) (w.alloc (.cells (madeCells #[.slice none 0 0] n) e)):=by
 obtain ⟨i,z,hi,hz,hs,hb,hzs⟩:=K.inf
 have hz':z=.slice none 0 0:=by
  rw [hi] at hz0
  simp only [Option.bind_some,hz,Option.some.injEq] at hz0
  exact hz0
 subst hz'
 have hby:i.bytes*n<=281474976710656:=by
  rw [hb]
  exact zP (Nat.mul_le_mul K.sml hn) (by omega)
 have hby':(i.bytes:Int)*(n:Int)<=281474976710656:=by rw [<- Int.natCast_mul];exact Int.ofNat_le.2 hby
 have h:=run_make (P:=Tryz.prog) w t e i (.slice none 0 0) K.und hi hz .i64 .i64 (n:Int) (n:Int) (by omega) (by omega) hby' (by omega)
 rw [hs,Nat.mul_one,Int.toNat_natCast] at h
 exact h
theorem ZL.made (E:TypeId) (w:World) (P:Nat->Prop) (hP:P w.heap.size) (n:Nat) (hn:n<=1048576):ZL E (w.alloc (.cells (madeCells #[.slice none 0 0] n) E)) P (.slice (some ⟨w.heap.size,0,none⟩) n n) n:=by
 have hc:(madeCells #[Value.slice none 0 0] n).toList=List.replicate n (.slice none 0 0):=by
  apply List.ext_getElem?
  intro i
  by_cases h:i<n
  ·simp [madeCells,h,Nat.mod_one]
  ·simp [madeCells,h]
 refine ⟨⟨by simp,.inr ⟨w.heap.size,n,madeCells #[.slice none 0 0] n,rfl,Nat.zero_le _,Array.getElem?_push_size,Nat.le_refl _,by unfold maxLen;omega,by simp [size_madeCells],?_⟩⟩,fun k hk=>by cases hk;exact hP⟩
 rw [hc,Nat.mul_one]
 simp
def nwY (n:Nat) (L:Nat->Nat) (H:Nat->Nat->I5):Sy:=⟨n,L,H,n,fun _=>newS,n*n,fun _=>0,fun _ _=>⟨false,0⟩,n,fun _=>0,fun _ _=>⟨0,0,0⟩⟩
noncomputable def snB (n:Nat) (L:Nat->Nat) (H:Nat->Nat->I5):Bool:=decide (n<=4) && (nwY n L H).okB
structure OwnN (w:World) (c:Nat->Nat) (B n:Nat) (L:Nat->Nat) (H:Nat->Nat->I5) (vp vs vw vh:Value) (up us:Nat->Value):Prop where
 p:LI true w (Cl B c 1) vp n up L H
 s:LS w (Cl B c 2) vs n us fun _=>newS
 t:ZL 46 w (Cl B c 3) vw (n*n)
 h:ZL 84 w (Cl B c 4) vh n
def Own1 (w:World) (B T n:Nat) (L:Nat->Nat) (H:Nat->Nat->I5) (vp vs vw vh:Value):Prop:=∃ c up us,OwnN w c B n L H vp vs vw vh up us/\∀ b,T<=b->c b=0
theorem Own1.below {w w':World} {B T n:Nat} {L:Nat->Nat} {H:Nat->Nat->I5} {vp vs vw vh:Value} (o:Own1 w B T n L H vp vs vw vh) (hb:Below w.heap.size w w'):Own1 w' B T n L H vp vs vw vh:=by
 obtain ⟨c,up,us,o,h⟩:=o
 exact ⟨c,up,us,⟨o.p.below hb,o.s.below hb,o.t.below hb,o.h.below hb⟩,h⟩
theorem Own1.touch {w w':World} {B T n:Nat} {L:Nat->Nat} {H:Nat->Nat->I5} {vp vs vw vh:Value} {P:Nat->Prop} (o:Own1 w B T n L H vp vs vw vh) (ht:qam P w w') (hp:∀ b,P b->T<=b\/b<B):Own1 w' B T n L H vp vs vw vh:=by
 obtain ⟨c,up,us,o,h⟩:=o
 have hk:∀ i,i≠0->∀ k,Cl B c i k->k<w.heap.size->w'.heap[k]? = w.heap[k]?:=fun i hi k hk hl=>ht.block k hl fun e=>by
  rcases hp k e with h1 | h1
  ·exact hi (hk.2.symm.trans (h k h1))
  ·have:=hk.1
   omega
 exact ⟨c,up,us,⟨o.p.keep (hk 1 (by decide)),o.s.keep (hk 2 (by decide)),o.t.keep (hk 3 (by decide)),o.h.keep (hk 4 (by decide))⟩,h⟩
theorem Own1.zero (w:World) (B T:Nat) (L:Nat->Nat) (H:Nat->Nat->I5):Own1 w B T 0 L H (.slice none 0 0) (.slice none 0 0) (.slice none 0 0) (.slice none 0 0):=
 ⟨fun _=>0,fun _=>.slice none 0 0,fun _=>.slice none 0 0,⟨LL.nil _ _ _ _ _ _ _ _,LS.nil _ _ _ _,ZL.nil _ _ _,ZL.nil _ _ _⟩,fun _ _=>rfl⟩
theorem qtn {P:Program} {ops:Array Oper} {Q:Exit->Act->World->Prop} {md:Region.Mode} {S:World->Prop} {G:Nat->Bool} {fuel:Nat} {l:Array Bool} {a:Act} {w:World} (fuel':Nat) (l':Array Bool) (hf:fuel'=fuel) (hl:l'=l) (h:wpG P md ops Q S G fuel' l' a w):wpG P md ops Q S G fuel l a w:=by
 subst hf
 subst hl
 exact h
theorem qur:(Tryz.prog.info? 46).bind (·.zero)=some (.slice none 0 0):=by kernel_rfl
theorem qsm:(Tryz.prog.info? 84).bind (·.zero)=some (.slice none 0 0):=by kernel_rfl
structure NwF (W1:World) (n:Nat) (L:Nat->Nat) (H:Nat->Nat->I5) (a b c d:Bool) (v1 v2 v3 v4:Value) (w:World):Prop where
 be:Below W1.heap.size W1 w
 ow:∃ k:Nat->Nat,(a=true->∃ u,LI true w (Cl W1.heap.size k 1) v1 n u L H)/\(b=true->ZL 46 w (Cl W1.heap.size k 3) v2 (n*n))/\(c=true->ZL 84 w (Cl W1.heap.size k 4) v3 n)/\(d=true->∃ N,v4=.pointer (some ⟨N,0,none⟩)/\W1.heap.size<=N/\BoxC w N (.slice none 0 0) (.slice none 0 0) (.slice none 0 0) (.slice none 0 0)/\(∀ j,w.frozen? ⟨N,j,none⟩=false)/\k N=0)
section
variable {W1:World} {n:Nat} {L:Nat->Nat} {H:Nat->Nat->I5} {a b c d:Bool} {v1 v2 v3 v4:Value} {w w':World}
theorem NwF.keepBox {N:Nat} {k:Nat->Nat} {q:Nat} (h:v4=.pointer (some ⟨N,0,none⟩)/\W1.heap.size<=N/\BoxC w N (.slice none 0 0) (.slice none 0 0) (.slice none 0 0) (.slice none 0 0)/\(∀ j,w.frozen? ⟨N,j,none⟩=false)/\k N=0) (hb:Below w.heap.size w w'):v4=.pointer (some ⟨N,0,none⟩)/\W1.heap.size<=N/\BoxC w' N (.slice none 0 0) (.slice none 0 0) (.slice none 0 0) (.slice none 0 0)/\(∀ j,w'.frozen? ⟨N,j,none⟩=false)/\rcol k w.heap.size q N=0:=by
 have hl:=zJ w _ h.2.2.1.1
 exact ⟨h.1,h.2.1,h.2.2.1.below hb,fun j=>((qaj hb).2 _ j hl).trans (h.2.2.2.1 j),(qa5 hl).trans h.2.2.2.2⟩
theorem NwF.one (h:NwF W1 n L H a b c d v1 v2 v3 v4 w) {v:Value} {u:Nat->Value} (o:LI true w' (fun k=>w.heap.size<=k/\k<w'.heap.size) v n u L H) (hb:Below w.heap.size w w'):NwF W1 n L H true b c d v v2 v3 v4 w':=by
 obtain ⟨k,-,h2,h3,h4⟩:=h.ow
 have hs:=h.be.size
 exact ⟨h.be.trans (hb.mono hs), rcol k w.heap.size 1, fun _ => ⟨u, o.mono fun j hj _ => ⟨Nat.le_trans hs hj.1, qai hj.1⟩⟩, fun e => ((h2 e).mono fun j hj hl => hj.old hl).below hb, fun e => ((h3 e).mono fun j hj hl => hj.old hl).below hb, fun e => by
  obtain ⟨N,hN⟩:=h4 e
  exact ⟨N,NwF.keepBox hN hb⟩⟩
theorem NwF.two (h:NwF W1 n L H a b c d v1 v2 v3 v4 w) (hn:n*n<=1048576):NwF W1 n L H a true c d v1 (.slice (some ⟨w.heap.size,0,none⟩) (n*n) (n*n)) v3 v4 (w.alloc (.cells (madeCells #[.slice none 0 0] (n*n)) 46)):=by
 obtain ⟨k,h1,-,h3,h4⟩:=h.ow
 have hs:=h.be.size
 have hb:=zQ w (.cells (madeCells #[.slice none 0 0] (n*n)) 46)
 exact ⟨h.be.trans (hb.mono hs), rcol k w.heap.size 3, fun e => by
  obtain ⟨u,o⟩:=h1 e
  exact ⟨u,(o.mono fun j hj hl=>hj.old hl).below hb⟩,fun _=>ZL.made _ w _ ⟨hs,qai (Nat.le_refl _)⟩ _ hn,fun e=>((h3 e).mono fun j hj hl=>hj.old hl).below hb,fun e=>by
  obtain ⟨N,hN⟩:=h4 e
  exact ⟨N,NwF.keepBox hN hb⟩⟩
theorem NwF.three (h:NwF W1 n L H a b c d v1 v2 v3 v4 w) (hn:n<=1048576):NwF W1 n L H a b true d v1 v2 (.slice (some ⟨w.heap.size,0,none⟩) n n) v4 (w.alloc (.cells (madeCells #[.slice none 0 0] n) 84)):=by
 obtain ⟨k,h1,h2,-,h4⟩:=h.ow
 have hs:=h.be.size
 have hb:=zQ w (.cells (madeCells #[.slice none 0 0] n) 84)
 exact ⟨h.be.trans (hb.mono hs), rcol k w.heap.size 4, fun e => by
  obtain ⟨u,o⟩:=h1 e
  exact ⟨u,(o.mono fun j hj hl=>hj.old hl).below hb⟩,fun e=>((h2 e).mono fun j hj hl=>hj.old hl).below hb,fun _=>ZL.made _ w _ ⟨hs,qai (Nat.le_refl _)⟩ _ hn,fun e=>by
  obtain ⟨N,hN⟩:=h4 e
  exact ⟨N,NwF.keepBox hN hb⟩⟩
theorem NwF.four (h:NwF W1 n L H a b c d v1 v2 v3 v4 w):NwF W1 n L H a b c true v1 v2 v3 (.pointer (some ⟨w.heap.size,0,none⟩)) (w.alloc (zQ3)):=by
 obtain ⟨k,h1,h2,h3,-⟩:=h.ow
 have hs:=h.be.size
 have hb:=zQ w (zQ3)
 exact ⟨h.be.trans (hb.mono hs), rcol k w.heap.size 0, fun e => by
  obtain ⟨u,o⟩:=h1 e
  exact ⟨u,(o.mono fun j hj hl=>hj.old hl).below hb⟩,fun e=>((h2 e).mono fun j hj hl=>hj.old hl).below hb,fun e=>((h3 e).mono fun j hj hl=>hj.old hl).below hb,fun _=>⟨_,rfl,hs,BoxC.new w _ _ _ _ _,fun j=>yB _ _ _ _ rfl,qai (Nat.le_refl _)⟩⟩
end
structure NwS (W1:World) (N n:Nat) (L:Nat->Nat) (H:Nat->Nat->I5) (own:Bool) (k:Nat) (w:World) (vp vs vw vh:Value) (c:Nat->Nat) (up us:Nat->Value):Prop where
 be:Below W1.heap.size W1 w
 bx:BoxC w N vp vs vw vh
 fr:∀ j,w.frozen? ⟨N,j,none⟩=false
 bN:W1.heap.size<=N
 cN:c N=0
 p:own=true->LI true w (Cl W1.heap.size c 1) vp n up L H
 s:LS w (Cl W1.heap.size c 2) vs k us fun _=>newS
 t:ZL 46 w (Cl W1.heap.size c 3) vw (n*n)
 h:ZL 84 w (Cl W1.heap.size c 4) vh n
section
variable {W1:World} {N n:Nat} {L:Nat->Nat} {H:Nat->Nat->I5} {own:Bool} {k:Nat} {w:World} {vp vs vw vh:Value} {c:Nat->Nat} {up us:Nat->Value}
theorem NwS.lt (h:NwS W1 N n L H own k w vp vs vw vh c up us):N<w.heap.size:=zJ w _ h.bx.1
theorem NwS.below {w':World} (h:NwS W1 N n L H own k w vp vs vw vh c up us) (hb:Below w.heap.size w w'):NwS W1 N n L H own k w' vp vs vw vh c up us:=
 ⟨h.be.trans (hb.mono h.be.size),h.bx.below hb,fun j=>((qaj hb).2 _ j h.lt).trans (h.fr j),h.bN,h.cN,fun e=>(h.p e).below hb,h.s.below hb,h.t.below hb,h.h.below hb⟩
theorem NwS.start {a:Bool} {v1 v2 v3 v4:Value} (h:NwF W1 n L H own true true true v1 v2 v3 v4 w) (ho:own=a) (_hvp:a=true\/True):∃ N c up us,v4=.pointer (some ⟨N,0,none⟩)/\N<w.heap.size/\BoxC w N (.slice none 0 0) (.slice none 0 0) (.slice none 0 0) (.slice none 0 0)/\(∀ j,w.frozen? ⟨N,j,none⟩=false)/\NwS W1 N n L H own 0 ((((w.setCell ⟨N,0,none⟩ v1).setCell ⟨N,1,none⟩ (.slice none 0 0)).setCell ⟨N,2,none⟩ v2).setCell ⟨N,3,none⟩ v3) v1 (.slice none 0 0) v2 v3 c up us:=by
 obtain ⟨k,h1,h2,h3,h4⟩:=h.ow
 obtain ⟨N,e,hN,bx,fr,cN⟩:=h4 rfl
 have hl:=zJ w _ bx.1
 have hk:∀ i,i≠0->∀ j,Cl W1.heap.size k i j->j<w.heap.size->((((w.setCell ⟨N,0,none⟩ v1).setCell ⟨N,1,none⟩ (.slice none 0 0)).setCell ⟨N,2,none⟩ v2).setCell ⟨N,3,none⟩ v3).heap[j]? = w.heap[j]?:=fun i hi j hj _=>by
  have hne:j≠N:=fun e=>hi (by rw [<- hj.2,e,cN])
  exact (zO _ _ _ _ hne).trans ((zO _ _ _ _ hne).trans ((zO _ _ _ _ hne).trans (zO _ _ _ _ hne)))
 obtain ⟨u,hu⟩:∃ u,own=true->LI true w (Cl W1.heap.size k 1) v1 n u L H:=by
  cases own with
  | false=>exact ⟨fun _=>.slice none 0 0,fun e=>by cases e⟩
  | true=>obtain ⟨u,o⟩:=h1 rfl;exact ⟨u,fun _=>o⟩
 obtain ⟨g0,g1,g2,g3⟩:=id bx
 exact ⟨N,k,u,fun _=>.slice none 0 0,e,hl,bx,fr,(((h.be.setCell hN _).setCell hN _).setCell hN _).setCell hN _,BoxC.set4 ⟨g0,g1,g2,g3⟩ _ _ _ _,fun j=>by simp only [World.frozen?_setCell];exact fr j,hN,cN,fun e=>(hu e).keep (hk 1 (by decide)),LS.nil _ _ _ _,(h2 rfl).keep (hk 3 (by decide)),(h3 rfl).keep (hk 4 (by decide))⟩
theorem NwS.push (h:NwS W1 N n L H own k w vp vs vw vh c up us) {w1 w3:World} {u' v':Value} (b1:Below w.heap.size w w1) (hu:qaf w1 w.heap.size u' 0 [0,0,0,0] [] 0) (hv:w3.ownsRow 0 93 4 v' (k+1) (flat (fun i=>cellsL (us i)) k ++ cellsL u')) (g:w1.grownBy w3 vs.ownBlock) (hv':∀ j,v'.ownBlock=some j->vs.ownBlock=some j\/w1.heap.size<=j):
  NwS W1 N n L H own (k+1) (w3.setCell ⟨N,1,none⟩ v') vp v' vw vh (rcol c w.heap.size 2) up (fun j=>if j=k then u' else us j):=by
 have hN:=h.lt
 have hB:=h.be.size
 have hkeep:∀ j,j<w.heap.size->c j≠2->w3.heap[j]? = w.heap[j]?:=fun j hk hc=>(g.block j (zL hk b1.size) fun e=>hc (h.s.rb j e.symm).2).trans (b1.block j hk)
 have hset:∀ j,j≠N->(w3.setCell ⟨N,1,none⟩ v').heap[j]? = w3.heap[j]?:=fun j hk=>zO _ _ _ _ hk
 have hcN:rcol c w.heap.size 2 N=0:=(qa5 hN).trans h.cN
 have hBN:w3.heap[N]? = w.heap[N]?:=hkeep N hN (by rw [h.cN];decide)
 have hkk:∀ i,i≠2->i≠0->∀ j,Cl W1.heap.size (rcol c w.heap.size 2) i j->j<w.heap.size->(w3.setCell ⟨N,1,none⟩ v').heap[j]? = w.heap[j]?:=fun i h2 h0 j hk hl=>by
  have e:c j=i:=(qa5 hl).symm.trans hk.2
  exact (hset j fun en=>h0 (by rw [<- e,en,h.cN])).trans (hkeep j hl (by rw [e];exact h2))
 have hP:∀ i j,Cl W1.heap.size c i j->j<w.heap.size->Cl W1.heap.size (rcol c w.heap.size 2) i j:=fun i j hk hl=>hk.old hl
 have hP':∀ j,w.heap.size<=j->j<w3.heap.size->Cl W1.heap.size (rcol c w.heap.size 2) 2 j:=fun j hk _=>⟨zP hB hk,qai hk⟩
 obtain ⟨x0,x1,x2,x3⟩:=h.bx
 have hc:∀ j,w3.cell? ⟨N,j,none⟩=w.cell? ⟨N,j,none⟩:=fun j=>zH hBN
 have hnew:∀ j,Cl W1.heap.size (rcol c w.heap.size 2) 2 j->j<w3.heap.size->(w3.setCell ⟨N,1,none⟩ v').heap[j]? = w3.heap[j]?:=fun j hk _=>hset j fun e=>by
  have e2:=hk.2
  rw [e,hcN] at e2
  cases e2
 have hbe:Below W1.heap.size W1 w3:=Below.grown (h.be.trans (b1.mono hB)) g (zP hB b1.size) fun j hj=>(h.s.rb j hj).1
 refine ⟨hbe.setCell h.bN _,⟨?_,?_,?_,?_⟩,fun j=>?_,h.bN,hcN,fun e=>?_,?_,?_,?_⟩
 ·rw [World.cell?_setCell_other _ _ _ _ (by simp),hc];exact x0
 ·exact World.cell?_setCell_same _ _ _ ((hc 1).trans x1)
 ·rw [World.cell?_setCell_other _ _ _ _ (by simp),hc];exact x2
 ·rw [World.cell?_setCell_other _ _ _ _ (by simp),hc];exact x3
 ·rw [World.frozen?_setCell,zI hBN];exact h.fr j
 ·exact ((h.p e).mono (hP 1)).keep (hkk 1 (by decide) (by decide))
 ·exact (h.s.push b1 hu hv g hv' (hP 2) hP').keep hnew
 ·exact (h.t.mono (hP 3)).keep (hkk 3 (by decide) (by decide))
 ·exact (h.h.mono (hP 4)).keep (hkk 4 (by decide) (by decide))
theorem NwS.own1 (h:NwS W1 N n L H true k w vp vs vw vh c up us) (hk:k=n):Own1 w W1.heap.size w.heap.size n L H vp vs vw vh:=by
 subst hk
 exact ⟨rcol c w.heap.size 0,up,us,⟨(h.p rfl).mono fun j hj hl=>hj.old hl,h.s.mono fun j hj hl=>hj.old hl,h.t.mono fun j hj hl=>hj.old hl,h.h.mono fun j hj hl=>hj.old hl⟩,fun b hb=>qai hb⟩
theorem Own1.out4 {B T M:Nat} (o:Own1 w B T n L H vp vs vw vh) (hM:M<B) (a1 a2 a3 a4:Value):Own1 ((((w.setCell ⟨M,0,none⟩ a1).setCell ⟨M,1,none⟩ a2).setCell ⟨M,2,none⟩ a3).setCell ⟨M,3,none⟩ a4) B T n L H vp vs vw vh:=by
 have t:=(((qam.refl (fun b=>b=M) w).trans (qam.of_set (P:=fun b=>b=M) _ (a:=⟨M,0,none⟩) rfl a1)).trans (qam.of_set (P:=fun b=>b=M) _ (a:=⟨M,1,none⟩) rfl a2)).trans (qam.of_set (P:=fun b=>b=M) _ (a:=⟨M,2,none⟩) rfl a3)
 exact o.touch (t.trans (qam.of_set (P:=fun b=>b=M) _ (a:=⟨M,3,none⟩) rfl a4)) fun b e=>.inr (by omega)
theorem Own1.base {B B' T T':Nat} (o:Own1 w B T n L H vp vs vw vh) (hB:B'<=B) (hT:T'=T):Own1 w B' T' n L H vp vs vw vh:=by
 subst hT
 obtain ⟨c,up,us,o,h⟩:=o
 exact ⟨c,up,us,⟨o.p.mono fun j hj _=>⟨zP hB hj.1,hj.2⟩,o.s.mono fun j hj _=>⟨zP hB hj.1,hj.2⟩,o.t.mono fun j hj _=>⟨zP hB hj.1,hj.2⟩,o.h.mono fun j hj _=>⟨zP hB hj.1,hj.2⟩⟩,h⟩
def nwX (pa:Option Addr) (n pc:Nat) (A:Nat->Option Addr) (L C:Nat->Nat) (H:Nat->Nat->I5) (vs vw vh:Value) (us:Nat->Value):SysIn:=
 ⟨pa,n,pc,A,L,C,H,adOf vs,n,cpOf vs,fun i=>⟨0,adOf (fdOf (us i) 1),cpOf (fdOf (us i) 1),[0,0,0,0],adOf (fdOf (us i) 2),cpOf (fdOf (us i) 2),[],0⟩,adOf vw,n*n,cpOf vw,fun _=>none,fun _=>0,fun _=>0,fun _ _=>⟨false,0⟩,adOf vh,n,cpOf vh,fun _=>none,fun _=>0,fun _=>0,fun _ _=>⟨0,0,0⟩⟩
theorem qus {P1 P3 P4:Nat->Prop} {pa:Option Addr} {pc:Nat} {A:Nat->Option Addr} {C:Nat->Nat} (hs:LS w P1 vs n us fun _=>newS) (ht:ZL 46 w P3 vw (n*n)) (hh:ZL 84 w P4 vh n) (hr:RowS w pa n fun i=>.slice (A i) (L i) (C i)) (hI:∀ i,i<n->∃ b,A i=some ⟨b,0,none⟩/\b<w.heap.size/\qan w b 0 (L i) (H i)):SysG w (nwX pa n pc A L C H vs vw vh us):=by
 refine ⟨hr,hI,⟨?_,fun i hi=>?_⟩,ht.rowS,fun i hi=>.inl rfl,hh.rowS,fun i hi=>.inl rfl⟩
 ·rcases Nat.eq_zero_or_pos n with h0 | h0
  ·exact .inl h0
  ·obtain ⟨g,cap,rfl,-,hg,-,-⟩:=hs.cell h0
   refine .inr ⟨g,0,rfl,hg,fun i hi=>?_⟩
   obtain ⟨g',cap',ew,-,-,hc,-⟩:=hs.cell hi
   simp only [Value.slice.injEq,Option.some.injEq,Addr.mk.injEq,and_true,true_and] at ew
   obtain ⟨rfl,rfl⟩:=ew
   obtain ⟨ra,rc,oa,oc,eu,h0,h1,h2,h3⟩:=hc
   show w.cell? ⟨g,0+i*4,none⟩=some (.int .i64 0)/\w.cell? ⟨g,0+i*4+1,none⟩=some (.slice (adOf (fdOf (us i) 1)) 4 (cpOf (fdOf (us i) 1)))/\w.cell? ⟨g,0+i*4+2,none⟩=some (.slice (adOf (fdOf (us i) 2)) 0 (cpOf (fdOf (us i) 2)))/\w.cell? ⟨g,0+i*4+3,none⟩=some (.int .i64 0)
   rw [Nat.zero_add,eu]
   exact ⟨h0,h1,h2,h3⟩
 ·obtain ⟨g,cap,-,-,-,⟨ra,rc,oa,oc,eu,-⟩,-⟩:=hs.cell hi
  have h4:=hs.own i hi
  rw [eu] at h4
  show Sl w (adOf (fdOf (us i) 1)) [0,0,0,0]/\Sl w (adOf (fdOf (us i) 2)) []
  rw [eu]
  exact ⟨h4.parts.1.slOf,h4.parts.2.1.slOf⟩
theorem NwS.g {pa:Option Addr} {pc:Nat} {A:Nat->Option Addr} {C:Nat->Nat} (h:NwS W1 N n L H own n w vp vs vw vh c up us) (hr:RowS w pa n fun i=>.slice (A i) (L i) (C i)) (hI:∀ i,i<n->∃ b,A i=some ⟨b,0,none⟩/\b<w.heap.size/\qan w b 0 (L i) (H i)):SysG w (nwX pa n pc A L C H vs vw vh us):=
 qus h.s h.t h.h hr hI
theorem qut {pa:Option Addr} {pc:Nat} {A:Nat->Option Addr} {C:Nat->Nat} (hn:n<=4) (hL:∀ i,i<n->L i<=1048576):(nwX pa n pc A L C H vs vw vh us).Len:=by
 have h16:n*n<=16:=zP (Nat.mul_le_mul hn hn) (by omega)
 exact ⟨⟨by show n<=1048576;omega,hL⟩,⟨by show n<=1048576;omega,fun i _=>⟨by show 4<=1048576;omega,by show 0<=1048576;omega⟩⟩,⟨by show n*n<=1048576;omega,fun i _=>Nat.zero_le _⟩,⟨by show n<=1048576;omega,fun i _=>Nat.zero_le _⟩⟩
end
theorem qa7.base {z:Bool} {w:World} {B B':Nat} {y:Sy} {v:Value} (o:qa7 z w B y v) (h:B'<=B):qa7 z w B' y v:=by
 obtain ⟨c,vp,vs,vw,vh,up,us,uw,uh,e,o⟩:=o
 exact ⟨c,vp,vs,vw,vh,up,us,uw,uh,e,o.p.mono fun _ q _=>⟨zP h q.1,q.2⟩,o.s.mono fun _ q _=>⟨zP h q.1,q.2⟩,o.t.mono fun _ q _=>⟨zP h q.1,q.2⟩,o.h.mono fun _ q _=>⟨zP h q.1,q.2⟩⟩
theorem qa7.setBelow {z:Bool} {w:World} {B:Nat} {y:Sy} {v:Value} (o:qa7 z w B y v) {N:Nat} (h:N<B) (j:Nat) (u:Value):qa7 z (w.setCell ⟨N,j,none⟩ u) B y v:=by
 obtain ⟨c,vp,vs,vw,vh,up,us,uw,uh,e,o⟩:=o
 have hk:∀ i k,Cl B c i k->k<w.heap.size->(w.setCell ⟨N,j,none⟩ u).heap[k]? = w.heap[k]?:=fun i k q _=>zO _ _ _ _ fun e=>by
  have e:k=N:=e
  have:=q.1
  omega
 exact ⟨c,vp,vs,vw,vh,up,us,uw,uh,e,o.p.keep (hk 1),o.s.keep (hk 2),o.t.keep (hk 3),o.h.keep (hk 4)⟩
theorem qa7.zero {z:Bool} (w:World) (B:Nat) (y:Sy):qa7 z w B { y with pn:=0,sn:=0,wn:=0,hn:=0 } (sysV none 0 0 none 0 0 none 0 0 none 0 0):=
 ⟨fun _=>0,_,_,_,_,fun _=>.slice none 0 0,fun _=>.slice none 0 0,fun _=>.slice none 0 0,fun _=>.slice none 0 0,rfl,LL.nil _ _ _ _ _ _ _ _,LS.nil _ _ _ _,LL.nil _ _ _ _ _ _ _ _,LL.nil _ _ _ _ _ _ _ _⟩
theorem qa7.form {z:Bool} {w:World} {B:Nat} {y:Sy} {v:Value} (o:qa7 z w B y v):∃ pa pc sa sc wa wc ha hc,v=sysV pa y.pn pc sa y.sn sc wa y.wn wc ha y.hn hc:=by
 obtain ⟨c,vp,vs,vw,vh,up,us,uw,uh,rfl,o⟩:=o
 obtain ⟨pa,pc,rfl⟩:=zU o.p.row
 obtain ⟨sa,sc,rfl⟩:=zU o.s.row
 obtain ⟨wa,wc,rfl⟩:=zU o.t.row
 obtain ⟨ha,hc,rfl⟩:=zU o.h.row
 exact ⟨pa,pc,sa,sc,wa,wc,ha,hc,rfl⟩
