import Derived.Test.YtkdablcbhhphoaaGreatDoorBk17
namespace Go.Proofs.YtkdablcbhhphoaaGreatDoor
set_option maxRecDepth 100000
set_option maxHeartbeats 4000000
open Go.ChangeShapes Go.WideShapes Go.ChangeAt Go.RowKit Go.Deep
variable {z:Bool}
def adOf:Value->Option Addr
 | .slice a _ _=>a
 | _=>none
def cpOf:Value->Nat
 | .slice _ _ c=>c
 | _=>0
def fdOf (v:Value) (i:Nat):Value:=(cellsL v).getD i (.slice none 0 0)
def Sy.sysIn (y:Sy) (vp vs vw vh:Value) (up us uw uh:Nat->Value):SysIn:=
 ⟨adOf vp, y.pn, cpOf vp, fun i => adOf (up i), y.pL, fun i => cpOf (up i), y.pH,
  adOf vs,y.sn,cpOf vs,fun i=>⟨(y.sS i).p,adOf (fdOf (us i) 1),cpOf (fdOf (us i) 1),(y.sS i).rs,adOf (fdOf (us i) 2),cpOf (fdOf (us i) 2),(y.sS i).os,(y.sS i).c⟩,
  adOf vw,y.wn,cpOf vw,fun i=>adOf (uw i),y.wL,fun i=>cpOf (uw i),y.wH,
  adOf vh,y.hn,cpOf vh,fun i=>adOf (uh i),y.hL,fun i=>cpOf (uh i),y.hH⟩
theorem qqn {e:TypeId} {sz:Nat} {E:TypeId} {w:World} {P:Nat->Prop} {v:Value} {n:Nat} {u:Nat->Value} {L:Nat->Nat} {c:Nat->List Value} (o:LL z e sz E w P v n u L c):RowS w (adOf v) n fun i=>.slice (adOf (u i)) (L i) (cpOf (u i)):=by
 rcases Nat.eq_zero_or_pos n with h | h
 ·exact .inl h
 ·obtain ⟨g,cap,rfl,-,hg,-,-⟩:=o.cell h
  refine .inr ⟨g,0,rfl,hg,fun i hi=>?_⟩;obtain ⟨g',cap',ew,-,-,hc,-⟩:=o.cell hi;simp only [Value.slice.injEq,Option.some.injEq,Addr.mk.injEq,and_true,true_and] at ew;obtain ⟨rfl,rfl⟩:=ew;obtain ⟨a,c',eu⟩:=zT (o.own i hi);show w.cell? ⟨g,0+i,none⟩=some (.slice (adOf (u i)) (L i) (cpOf (u i)));rw [Nat.zero_add,hc,eu];rfl
theorem sl_v {w:World} {B:Nat} {e:TypeId} {sz n:Nat} {v:Value} {xs:List Value} (o:w.ownsRow B e sz v n xs):v=.slice (adOf v) n (cpOf v):=by
 obtain ⟨a,c,rfl⟩:=zT o;rfl
theorem OwnS.v {w:World} {B:Nat} {c:Nat->Nat} {y:Sy} {vp vs vw vh:Value} {up us uw uh:Nat->Value} (o:OwnS z w B c y vp vs vw vh up us uw uh):(y.sysIn vp vs vw vh up us uw uh).v=.agg #[vp,vs,vw,vh]:=by
 have e1:=sl_v o.p.row;have e2:=sl_v o.s.row;have e3:=sl_v o.t.row;have e4:=sl_v o.h.row
 conv=>rhs;rw [e1,e2,e3,e4]
 rfl
theorem qxl {w:World} {B sz n:Nat} {e:TypeId} {u:Value} {xs:List Value} (o:w.ownsRow B e sz u n xs):n=0\/u≠.slice none 0 0:=by
 rcases o.2 with ⟨_,h⟩ | ⟨b,cap,cur,rfl,_⟩
 ·exact .inl h
 ·exact .inr (fun e=>by cases e)
theorem qx8 {w:World} {B n:Nat} {u:Value} {g:Nat->I2} (o:w.ownsRow B 74 2 u n (fT g n)):ItL w (adOf u) n g:=by
 rcases qxl o with h | h
 ·exact .inl h
 ·obtain ⟨b,cap,eu,hb,hI,-⟩:=atT o h
  exact .inr ⟨b,0,by rw [eu];rfl,hb,hI⟩
theorem qx2 {w:World} {B n:Nat} {u:Value} {g:Nat->E3} (o:w.ownsRow B 86 3 u n (fE g n)):EvL w (adOf u) n g:=by
 rcases qxl o with h | h
 ·exact .inl h
 ·obtain ⟨b,cap,eu,hb,hI,-⟩:=atE o h
  exact .inr ⟨b,0,by rw [eu];rfl,hb,hI⟩
theorem OwnS.g {w:World} {B:Nat} {c:Nat->Nat} {y:Sy} {vp vs vw vh:Value} {up us uw uh:Nat->Value} (o:OwnS z w B c y vp vs vw vh up us uw uh):SysG w (y.sysIn vp vs vw vh up us uw uh):=by
 refine ⟨qqn o.p,fun i hi=>?_,?_,qqn o.t,fun i hi=>?_,qqn o.h,fun i hi=>?_⟩
 ·obtain ⟨b,cap,eu,hb,hI,-⟩:=atI (o.p.own i hi) (o.p.nn nzI i hi)
  exact ⟨b,by show adOf (up i)=_;rw [eu];rfl,hb,hI⟩
 ·refine ⟨?_,fun i hi=>?_⟩
  ·rcases Nat.eq_zero_or_pos y.sn with h | h
   ·exact .inl h
   ·obtain ⟨g,cap,rfl,-,hg,-,-⟩:=o.s.cell h
    refine .inr ⟨g,0,rfl,hg,fun i hi=>?_⟩;obtain ⟨g',cap',ew,-,-,hc,-⟩:=o.s.cell hi;simp only [Value.slice.injEq,Option.some.injEq,Addr.mk.injEq,and_true,true_and] at ew;obtain ⟨rfl,rfl⟩:=ew;obtain ⟨ra,rc,oa,oc,eu,h0,h1,h2,h3⟩:=hc;show w.cell? ⟨g,0+i*4,none⟩=some (.int .i64 (y.sS i).p)/\w.cell? ⟨g,0+i*4+1,none⟩=some (.slice (adOf (fdOf (us i) 1)) (y.sS i).rs.length (cpOf (fdOf (us i) 1)))/\w.cell? ⟨g,0+i*4+2,none⟩=some (.slice (adOf (fdOf (us i) 2)) (y.sS i).os.length (cpOf (fdOf (us i) 2)))/\w.cell? ⟨g,0+i*4+3,none⟩=some (.int .i64 (y.sS i).c);rw [Nat.zero_add,eu];exact ⟨h0,h1,h2,h3⟩
  ·obtain ⟨g,cap,-,-,-,⟨ra,rc,oa,oc,eu,-⟩,-⟩:=o.s.cell hi
   have h4:=o.s.own i hi;rw [eu] at h4;show Sl w (adOf (fdOf (us i) 1)) (y.sS i).rs/\Sl w (adOf (fdOf (us i) 2)) (y.sS i).os;rw [eu];exact ⟨h4.parts.1.slOf,h4.parts.2.1.slOf⟩
 ·exact qx8 (o.t.own i hi)
 ·exact qx2 (o.h.own i hi)
section
variable {P:Program} {ops:Array Oper} {Q:Exit->Act->World->Prop} {md:Region.Mode} {S:World->Prop} {G:Nat->Bool}
def outI (b:Bool) (i:Nat):List Nat:=bif b then [] else [i]
theorem qlo {b:Bool} {i j:Nat} (h:j ∈ outI b i):b=false/\j=i:=by
 cases b with
 | true=>cases h
 | false=>exact ⟨rfl,List.mem_singleton.1 h⟩
end
section
variable {E:TypeId} {w w':World} {P:Nat->Prop} {v:Value} {n:Nat}
end
open Go.RowKit Go.Extern.Stop Go.Stop Go.Extern
theorem qym (x:Int) (t:Addr) (old:Value) (w:World) (hg:w.cell? ⟨0,0,none⟩=some (.iface 300 (.agg #[.pointer (some ⟨1,269,none⟩)]))) (ht0:w.cell? t=some old) (hf0:w.frozen? t=false):
  Calls Tryz.prog 227 #[.iface 273 (.agg #[.int .i64 x]),.iface 275 (.pointer (some t))] w fun ev w'=>ev=.returned (.bool true)/\∃ o1 o2 o3 o4,w'=((((w.alloc o1).alloc o2).alloc o3).alloc o4).setCell t (.int .i64 x):=by
 have h6:=@run_callFunc_extern Tryz.prog 243 _ (fun args=>ReflectliteValue.unpack (args.getD 0 (.tuple #[]))) Tryz.func243 (by kernel_rfl) (by kernel_rfl) (by kernel_rfl) (by kernel_rfl);have h7 := @run_callFunc_extern Tryz.prog 244 _ (ReflectliteValue.methodAny (ReflectliteValue.valueError "reflectlite.Value.Type" 0) (fun t _ _ _ => ReflectliteType.toType t)) Tryz.func244 (by kernel_rfl) (by kernel_rfl) (by kernel_rfl) (by kernel_rfl)
 have h8 := @run_callFunc_extern Tryz.prog 245 _ (ReflectliteValue.method (ReflectliteValue.valueError "reflectlite.Value.IsNil" 0) ReflectliteValue.isNil) Tryz.func245 (by kernel_rfl) (by kernel_rfl) (by kernel_rfl) (by kernel_rfl)
 have h27:=@run_callFunc_extern Tryz.prog 267 _ (ReflectliteType.abiMethod fun t=>do pure (.int .u8 (<- Rtype.kind t))) Tryz.func267 (by kernel_rfl) (by kernel_rfl) (by kernel_rfl) (by kernel_rfl);have h37:=@run_callFunc_extern Tryz.prog 288 _ (ReflectliteType.method ReflectliteType.elem) Tryz.func288 (by kernel_rfl) (by kernel_rfl) (by kernel_rfl) (by kernel_rfl);have h38 := @run_callFunc_extern Tryz.prog 289 _ (ReflectliteType.relation "Implements" ReflectliteType.implements_) Tryz.func289 (by kernel_rfl) (by kernel_rfl) (by kernel_rfl) (by kernel_rfl)
 have h10:=@run_callFunc_extern Tryz.prog 250 _ ReflectliteType.typeOf Tryz.func250 (by kernel_rfl) (by kernel_rfl) (by kernel_rfl) (by kernel_rfl);have h35 := @run_callFunc_extern Tryz.prog 286 _ (ReflectliteType.relation "AssignableTo" ReflectliteType.assignableTo) Tryz.func286 (by kernel_rfl) (by kernel_rfl) (by kernel_rfl) (by kernel_rfl)
 have h11 := @run_callFunc_extern Tryz.prog 251 _ (ReflectliteValue.method (ReflectliteValue.valueError "reflectlite.Value.Elem" 0) ReflectliteValue.elem) Tryz.func251 (by kernel_rfl) (by kernel_rfl) (by kernel_rfl) (by kernel_rfl)
 have h12:=@run_callFunc_extern Tryz.prog 252 _ ReflectliteValue.set Tryz.func252 (by kernel_rfl) (by kernel_rfl) (by kernel_rfl) (by kernel_rfl);have tO:=qyj;have a25:=qpf;have v25:=qxc;have f6:=qxd;have f7:=qzf;have k27:=qze;have k25:=qzd;have e27:=qzc;have i25:=qp3;have n8:=qy0 ⟨w.heap.size,0,none⟩ t ((w.alloc (.cells #[.pointer (some t)] 275)).alloc (.cells #[.pointer (some ⟨1,275,none⟩),.pointer (some ⟨w.heap.size,0,none⟩),.int .u64 150] 290)) (by simp)
 have hlt:0<w.heap.size:=by
  rcases Nat.eq_zero_or_pos w.heap.size with h0 | h
  ·simp [World.cell?,h0] at hg
  ·exact h
 have hg2:((w.alloc (.cells #[.pointer (some t)] 275)).alloc (.cells #[.pointer (some ⟨1,275,none⟩),.pointer (some ⟨w.heap.size,0,none⟩),.int .u64 150] 290)).cell? ⟨0,0,none⟩=some (.iface 300 (.agg #[.pointer (some ⟨1,269,none⟩)])):=by
  rw [World.cell?_alloc_lt _ _ ⟨0,0,none⟩ (by simp),World.cell?_alloc_lt _ _ ⟨0,0,none⟩ hlt];exact hg
 have htl:t.block<w.heap.size:=by
  rcases Nat.lt_or_ge t.block w.heap.size with h | h
  ·exact h
  ·simp [World.cell?,Array.getElem?_eq_none h] at ht0
 have el := qyu ⟨w.heap.size, 0, none⟩ t (((w.alloc (.cells #[.pointer (some t)] 275)).alloc (.cells #[.pointer (some ⟨1, 275, none⟩), .pointer (some ⟨w.heap.size, 0, none⟩), .int .u64 150] 290)).alloc (.cells #[.pointer (some ⟨1, 275, none⟩), .pointer (some ⟨w.heap.size, 0, none⟩), .int .u64 150] 290)) (by
  rw [World.cell?_alloc_lt _ _ _ (by simp;omega),World.cell?_alloc_lt _ _ _ (by simp),World.cell?_alloc_at _ _ _ _ rfl];rfl)
 have st:=setE t ⟨w.heap.size+1+1+1,0,none⟩ x old ((((w.alloc (.cells #[.pointer (some t)] 275)).alloc (.cells #[.pointer (some ⟨1,275,none⟩),.pointer (some ⟨w.heap.size,0,none⟩),.int .u64 150] 290)).alloc (.cells #[.pointer (some ⟨1,275,none⟩),.pointer (some ⟨w.heap.size,0,none⟩),.int .u64 150] 290)).alloc (.cells #[.int .i64 x] 273))
  (by rw [World.cell?_alloc_at _ _ _ _ (by simp)];rfl)
  (by rw [World.cell?_alloc_lt _ _ t (by simp;omega),World.cell?_alloc_lt _ _ t (by simp;omega),World.cell?_alloc_lt _ _ t (by simp;omega),World.cell?_alloc_lt _ _ t htl];exact ht0)
  (by rw [World.frozen?_alloc_old _ _ t (by simp;omega),World.frozen?_alloc_old _ _ t (by simp;omega),World.frozen?_alloc_old _ _ t (by simp;omega),World.frozen?_alloc_old _ _ t (Nat.ne_of_lt htl)];exact hf0)
 go_enter Tryz.func227,Tryz.ntmps227
 go_wp2;refine wp_loop_rounds 1 ?_;rw [rounds_succ];go_wp2;go_ret;exact ⟨rfl,_,_,_,_,rfl⟩
structure ShIn where
 on:Bool
 ca:Option Addr
 cn:Nat
 cc:Nat
 cH:Nat->Int
 oa:Option Addr
 ol:Nat
 oc:Nat
 oH:Nat->Bool
 ka:Option Addr
 kn:Nat
 kc:Nat
 kA:Nat->Option Addr
 kL:Nat->Nat
 kC:Nat->Nat
 kH:Nat->Nat->Int
def ShIn.size (x:ShIn):Nat:=x.cn+x.ol+(x.kn+sumL x.kL x.kn)
abbrev shV (on:Bool) (ca:Option Addr) (cn cc:Nat) (oa:Option Addr) (ol oc:Nat) (ka:Option Addr) (kn kc:Nat):Value:=.agg #[.bool on,.slice ca cn cc,.slice oa ol oc,.slice ka kn kc]
abbrev ShIn.v (x:ShIn):Value:=shV x.on x.ca x.cn x.cc x.oa x.ol x.oc x.ka x.kn x.kc
def ShIn.Row (W:World) (x:ShIn):Prop:=RowS W x.ka x.kn fun i=>.slice (x.kA i) (x.kL i) (x.kC i)
structure ShIn.Max (x:ShIn):Prop where
 c:x.cn<=maxLen
 o:x.ol<=maxLen
 k:x.kn<=maxLen/\∀ i,i<x.kn->x.kL i<=maxLen
structure ShIn.Ok (W:World) (x:ShIn):Prop where
 c:qh0 W x.ca x.cn x.cc x.cH
 o:qt6 W x.oa x.ol x.oc x.oH
 k:qq5 W x.ka x.kn x.kA x.kL x.kC x.kH
theorem ShIn.Ok.row {W:World} {x:ShIn} (h:x.Ok W):x.Row W:=h.k.row
theorem ShIn.Row.below {W w:World} {x:ShIn} (h:x.Row W) (hb:Below W.heap.size W w):x.Row w:=RowS.below h hb
structure LvIn where
 s:SysIn
 h:ShIn
def LvIn.size (x:LvIn):Nat:=x.s.size+x.h.size
abbrev LvIn.v (x:LvIn):Value:=.agg #[.slice x.s.pa x.s.pn x.s.pc,.slice x.s.sa x.s.sn x.s.sc,.slice x.s.wa x.s.wn x.s.wc,.slice x.s.ha x.s.hn x.s.hc,.bool x.h.on,.slice x.h.ca x.h.cn x.h.cc,.slice x.h.oa x.h.ol x.h.oc,.slice x.h.ka x.h.kn x.h.kc]
structure LvIn.Row (W:World) (x:LvIn):Prop where
 s:x.s.Row W
 h:x.h.Row W
structure LvIn.Max (x:LvIn):Prop where
 s:x.s.Max
 h:x.h.Max
structure LvIn.Ok (W:World) (x:LvIn):Prop where
 s:x.s.Ok W
 h:x.h.Ok W
theorem LvIn.Ok.row {W:World} {x:LvIn} (h:x.Ok W):x.Row W:=⟨h.s.row,h.h.row⟩
theorem LvIn.Row.below {W w:World} {x:LvIn} (h:x.Row W) (hb:Below W.heap.size W w):x.Row w:=⟨h.s.below hb,h.h.below hb⟩
theorem qos (x:ShIn) (L:Int) (w:World) (hr:x.Row w) (h:(x.size:Int)<=L) (hL:L<=1048576):
  Calls Tryz.prog 18 #[shV x.on x.ca x.cn x.cc x.oa x.ol x.oc x.ka x.kn x.kc,.int .i64 L] w fun e w'=>e=.returned (.int .i64 (L - (x.size:Nat)))/\Below w.heap.size w w':=by
 have HR:Hid (x.Row w):=hr;have hh:x.size=x.cn+x.ol+(x.kn+sumL x.kL x.kn):=rfl;have q1:(x.cn:Int)<=L:=by omega
 have q2:(x.ol:Int)<=L - x.cn:=by omega
 have q3:(x.kn:Int)+(sumL x.kL x.kn:Nat)<=L - x.cn - x.ol:=by omega
 have n1:¬ L - (x.cn:Int)<0:=by omega
 have n2:¬ L - (x.cn:Int) - (x.ol:Int)<0:=by omega
 have e3:L - (x.cn:Int) - (x.ol:Int) - x.kn - (sumL x.kL x.kn:Nat)=L - (x.size:Nat):=by omega
 have n3:¬ L - (x.size:Int)<0:=by omega
 have l1:L - (x.cn:Int)<=1048576:=by omega
 have l2:L - (x.cn:Int) - (x.ol:Int)<=1048576:=by omega
 have E3':Hid (L - (x.cn:Int) - (x.ol:Int) - x.kn - (sumL x.kL x.kn:Nat)=L - (x.size:Nat)):=e3;clear hr h hh e3
 go_enter Tryz.func18,Tryz.ntmps18
 go_wp2_with fail
 refine (qce _ _ _ _ _ q1 hL).mono ?_;rintro e w1 ⟨rfl,rfl⟩;go_wp2_with fail
 refine (qer _ _ _ _ _ q2 l1).mono ?_;rintro e w2 ⟨rfl,rfl⟩;go_wp2_with fail
 refine (ql4 _ _ _ _ x.kL _ _ _ (HR.out.below (qad _ _)) q3 l2).mono ?_;rintro e w3 ⟨rfl,rfl⟩;rw [E3'.out];go_wp2;go_ret;exact ⟨rfl,by go_grown⟩
theorem qor (x:ShIn) (L:Int) (w:World) (hr:x.Row w) (hm:x.Max) (h:L<(x.size:Int)) (h0:0<=L) (hL:L<=1048576):
  Calls Tryz.prog 18 #[shV x.on x.ca x.cn x.cc x.oa x.ol x.oc x.ka x.kn x.kc,.int .i64 L] w fun e w'=>e=.returned (.int .i64 (-1))/\Below w.heap.size w w':=by
 have HR:Hid (x.Row w):=hr;have HM:Hid x.Max:=hm;have hh:x.size=x.cn+x.ol+(x.kn+sumL x.kL x.kn):=rfl;by_cases q1:(x.cn:Int)<=L
 case neg=>
  have q1':L<(x.cn:Int):=by omega
  clear hr h hh hm q1
  go_enter Tryz.func18,Tryz.ntmps18
  go_wp2_with fail
  refine (qf2 _ _ _ _ _ q1' h0 hL HM.out.c).mono ?_;rintro e w1 ⟨rfl,rfl⟩;go_wp2;go_ret;exact ⟨rfl,by go_grown⟩
 have n1:¬ L - (x.cn:Int)<0:=by omega
 have l0:0<=L - (x.cn:Int):=by omega
 have l1:L - (x.cn:Int)<=1048576:=by omega
 by_cases q2:(x.ol:Int)<=L - x.cn
 case neg=>
  have q2':L - x.cn<(x.ol:Int):=by omega
  clear hr h hh hm q2
  go_enter Tryz.func18,Tryz.ntmps18
  go_wp2_with fail
  refine (qce _ _ _ _ _ q1 hL).mono ?_;rintro e w1 ⟨rfl,rfl⟩;go_wp2_with fail
  refine (qju _ _ _ _ _ q2' l0 l1 HM.out.o).mono ?_;rintro e w2 ⟨rfl,rfl⟩;go_wp2;go_ret;exact ⟨rfl,by go_grown⟩
 have n2:¬ L - (x.cn:Int) - (x.ol:Int)<0:=by omega
 have l2:L - (x.cn:Int) - (x.ol:Int)<=1048576:=by omega
 have l3:0<=L - (x.cn:Int) - (x.ol:Int):=by omega
 have q3:L - x.cn - x.ol<(x.kn:Int)+(sumL x.kL x.kn:Nat):=by omega
 clear hr h hh hm
 go_enter Tryz.func18,Tryz.ntmps18
 go_wp2_with fail
 refine (qce _ _ _ _ _ q1 hL).mono ?_;rintro e w1 ⟨rfl,rfl⟩;go_wp2_with fail
 refine (qer _ _ _ _ _ q2 l1).mono ?_;rintro e w2 ⟨rfl,rfl⟩;go_wp2_with fail
 refine (ql3 _ _ _ _ x.kL _ _ _ (HR.out.below (qad _ _)) q3 l3 l2 HM.out.k.1 HM.out.k.2).mono ?_;rintro e w3 ⟨rfl,rfl⟩;go_wp2;go_ret;exact ⟨rfl,by go_grown⟩
def BoxH (w:World) (b:Nat) (c0 c1 c2 c3 c4 c5 c6 c7:Value):Prop:=w.cell? ⟨b,0,none⟩=some c0/\w.cell? ⟨b,1,none⟩=some c1/\w.cell? ⟨b,2,none⟩=some c2/\w.cell? ⟨b,3,none⟩=some c3/\w.cell? ⟨b,4,none⟩=some c4/\w.cell? ⟨b,5,none⟩=some c5/\w.cell? ⟨b,6,none⟩=some c6/\w.cell? ⟨b,7,none⟩=some c7
section
variable {w w':World} {b:Nat} {c0 c1 c2 c3 c4 c5 c6 c7:Value}
theorem BoxH.blk (h:BoxH w b c0 c1 c2 c3 c4 c5 c6 c7) (hb:w'.heap[b]? = w.heap[b]?):BoxH w' b c0 c1 c2 c3 c4 c5 c6 c7:=by
 obtain ⟨h0,h1,h2,h3,h4,h5,h6,h7⟩:=h;have hc:∀ i,w'.cell? ⟨b,i,none⟩=w.cell? ⟨b,i,none⟩:=fun i=>zH hb;exact ⟨(hc _).trans h0,(hc _).trans h1,(hc _).trans h2,(hc _).trans h3,(hc _).trans h4,(hc _).trans h5,(hc _).trans h6,(hc _).trans h7⟩
theorem BoxH.lt (h:BoxH w b c0 c1 c2 c3 c4 c5 c6 c7):b<w.heap.size:=zJ w _ h.1
theorem BoxH.below (h:BoxH w b c0 c1 c2 c3 c4 c5 c6 c7) (hb:Below w.heap.size w w'):BoxH w' b c0 c1 c2 c3 c4 c5 c6 c7:=h.blk (hb.block b h.lt)
theorem BoxH.new (w:World) (c0 c1 c2 c3 c4 c5 c6 c7:Value) (t:TypeId):BoxH (w.alloc (.cells #[c0,c1,c2,c3,c4,c5,c6,c7] t)) w.heap.size c0 c1 c2 c3 c4 c5 c6 c7:=
 ⟨zV _ _ _ 0 rfl,zV _ _ _ 1 rfl,zV _ _ _ 2 rfl,zV _ _ _ 3 rfl,zV _ _ _ 4 rfl,zV _ _ _ 5 rfl,zV _ _ _ 6 rfl,zV _ _ _ 7 rfl⟩
end
theorem qoq (x:LvIn) (w:World) (hr:x.Row w) (h:x.size<=1048576):
  Calls Tryz.prog 6 #[x.v,.int .i64 1048576] w fun e w'=>e=.returned (.int .i64 (1048576 - (x.size:Nat)))/\Below w.heap.size w w':=by
 have HR:Hid (x.Row w):=hr;have hh:x.size=x.s.size+x.h.size:=rfl;have q1:x.s.size<=1048576:=by omega
 have q2:(x.h.size:Int)<=1048576 - (x.s.size:Nat):=by omega
 have n1:¬ (1048576:Int) - (x.s.size:Nat)<0:=by omega
 have n2:¬ (1048576:Int) - (x.size:Nat)<0:=by omega
 have l2:(1048576:Int) - (x.s.size:Nat)<=1048576:=by omega
 have E2:Hid ((1048576:Int) - (x.s.size:Nat) - (x.h.size:Nat)=1048576 - (x.size:Nat)):=by
  show (1048576:Int) - (x.s.size:Nat) - (x.h.size:Nat)=1048576 - (x.size:Nat);omega
 have BA:Hid (Below w.heap.size w (w.alloc (oQ5 x.s.pa x.s.pn x.s.pc x.s.sa x.s.sn x.s.sc x.s.wa x.s.wn x.s.wc x.s.ha x.s.hn x.s.hc x.h.on x.h.ca x.h.cn x.h.cc x.h.oa x.h.ol x.h.oc x.h.ka x.h.kn x.h.kc))/\BoxH (w.alloc (oQ5 x.s.pa x.s.pn x.s.pc x.s.sa x.s.sn x.s.sc x.s.wa x.s.wn x.s.wc x.s.ha x.s.hn x.s.hc x.h.on x.h.ca x.h.cn x.h.cc x.h.oa x.h.ol x.h.oc x.h.ka x.h.kn x.h.kc)) w.heap.size (.slice x.s.pa x.s.pn x.s.pc) (.slice x.s.sa x.s.sn x.s.sc) (.slice x.s.wa x.s.wn x.s.wc) (.slice x.s.ha x.s.hn x.s.hc) (.bool x.h.on) (.slice x.h.ca x.h.cn x.h.cc) (.slice x.h.oa x.h.ol x.h.oc) (.slice x.h.ka x.h.kn x.h.kc)):=⟨qad _ _,BoxH.new _ _ _ _ _ _ _ _ _ _⟩
 clear hr h hh
 go_enter Tryz.func6,Tryz.ntmps6
 go_wp2_with fail
 generalize w.alloc (oQ5 x.s.pa x.s.pn x.s.pc x.s.sa x.s.sn x.s.sc x.s.wa x.s.wn x.s.wc x.s.ha x.s.hn x.s.hc x.h.on x.h.ca x.h.cn x.h.cc x.h.oa x.h.ol x.h.oc x.h.ka x.h.kn x.h.kc)=wA at *;refine (qi1 x.s wA (HR.out.s.below BA.1) q1).mono ?_;rintro e w1 ⟨rfl,b1⟩;have B1:Hid (Below w.heap.size w w1/\BoxH w1 w.heap.size (.slice x.s.pa x.s.pn x.s.pc) (.slice x.s.sa x.s.sn x.s.sc) (.slice x.s.wa x.s.wn x.s.wc) (.slice x.s.ha x.s.hn x.s.hc) (.bool x.h.on) (.slice x.h.ca x.h.cn x.h.cc) (.slice x.h.oa x.h.ol x.h.oc) (.slice x.h.ka x.h.kn x.h.kc)):=⟨BA.1.trans (b1.mono BA.1.size),BA.2.below b1⟩
 clear b1 BA;obtain ⟨p0,p1,p2,p3,p4,p5,p6,p7⟩:=B1.2;go_wp2_with fail
 clear p0 p1 p2 p3 p4 p5 p6 p7;refine (qos x.h _ w1 (HR.out.h.below B1.1) q2 l2).mono ?_;rintro e w2 ⟨rfl,b2⟩;rw [E2.out];have B2:Hid (Below w.heap.size w w2):=B1.1.trans (b2.mono B1.1.size);clear b2 B1;go_wp2;go_ret;exact ⟨rfl,B2.out⟩
theorem qop (x:LvIn) (w:World) (hr:x.Row w) (hm:x.Max) (h:1048576<x.size):
  Calls Tryz.prog 6 #[x.v,.int .i64 1048576] w fun e w'=>e=.returned (.int .i64 (-1))/\Below w.heap.size w w':=by
 have HR:Hid (x.Row w):=hr;have HM:Hid x.Max:=hm;have hh:x.size=x.s.size+x.h.size:=rfl;have BA:Hid (Below w.heap.size w (w.alloc (oQ5 x.s.pa x.s.pn x.s.pc x.s.sa x.s.sn x.s.sc x.s.wa x.s.wn x.s.wc x.s.ha x.s.hn x.s.hc x.h.on x.h.ca x.h.cn x.h.cc x.h.oa x.h.ol x.h.oc x.h.ka x.h.kn x.h.kc))/\BoxH (w.alloc (oQ5 x.s.pa x.s.pn x.s.pc x.s.sa x.s.sn x.s.sc x.s.wa x.s.wn x.s.wc x.s.ha x.s.hn x.s.hc x.h.on x.h.ca x.h.cn x.h.cc x.h.oa x.h.ol x.h.oc x.h.ka x.h.kn x.h.kc)) w.heap.size (.slice x.s.pa x.s.pn x.s.pc) (.slice x.s.sa x.s.sn x.s.sc) (.slice x.s.wa x.s.wn x.s.wc) (.slice x.s.ha x.s.hn x.s.hc) (.bool x.h.on) (.slice x.h.ca x.h.cn x.h.cc) (.slice x.h.oa x.h.ol x.h.oc) (.slice x.h.ka x.h.kn x.h.kc)):=⟨qad _ _,BoxH.new _ _ _ _ _ _ _ _ _ _⟩
 by_cases q1:x.s.size<=1048576
 case neg=>
  have Q1:Hid (1048576<x.s.size):=by show 1048576<x.s.size;omega
  clear hr h hh hm q1
  go_enter Tryz.func6,Tryz.ntmps6
  go_wp2_with fail
  generalize w.alloc (oQ5 x.s.pa x.s.pn x.s.pc x.s.sa x.s.sn x.s.sc x.s.wa x.s.wn x.s.wc x.s.ha x.s.hn x.s.hc x.h.on x.h.ca x.h.cn x.h.cc x.h.oa x.h.ol x.h.oc x.h.ka x.h.kn x.h.kc)=wA at *;refine (qqv x.s wA (HR.out.s.below BA.1) HM.out.s Q1.out).mono ?_;rintro e w1 ⟨rfl,b1⟩;have B1:Hid (Below w.heap.size w w1):=BA.1.trans (b1.mono BA.1.size);clear b1 BA;go_wp2;go_ret;exact ⟨rfl,B1.out⟩
 have q2:(1048576:Int) - (x.s.size:Nat)<(x.h.size:Int):=by omega
 have n1:¬ (1048576:Int) - (x.s.size:Nat)<0:=by omega
 have l1:0<=(1048576:Int) - (x.s.size:Nat):=by omega
 have l2:(1048576:Int) - (x.s.size:Nat)<=1048576:=by omega
 clear hr h hh hm
 go_enter Tryz.func6,Tryz.ntmps6
 go_wp2_with fail
 generalize w.alloc (oQ5 x.s.pa x.s.pn x.s.pc x.s.sa x.s.sn x.s.sc x.s.wa x.s.wn x.s.wc x.s.ha x.s.hn x.s.hc x.h.on x.h.ca x.h.cn x.h.cc x.h.oa x.h.ol x.h.oc x.h.ka x.h.kn x.h.kc)=wA at *;refine (qi1 x.s wA (HR.out.s.below BA.1) q1).mono ?_;rintro e w1 ⟨rfl,b1⟩;have B1:Hid (Below w.heap.size w w1/\BoxH w1 w.heap.size (.slice x.s.pa x.s.pn x.s.pc) (.slice x.s.sa x.s.sn x.s.sc) (.slice x.s.wa x.s.wn x.s.wc) (.slice x.s.ha x.s.hn x.s.hc) (.bool x.h.on) (.slice x.h.ca x.h.cn x.h.cc) (.slice x.h.oa x.h.ol x.h.oc) (.slice x.h.ka x.h.kn x.h.kc)):=⟨BA.1.trans (b1.mono BA.1.size),BA.2.below b1⟩
 clear b1 BA;obtain ⟨p0,p1,p2,p3,p4,p5,p6,p7⟩:=B1.2;go_wp2_with fail
 clear p0 p1 p2 p3 p4 p5 p6 p7;refine (qor x.h _ w1 (HR.out.h.below B1.1) HM.out.h q2 l1 l2).mono ?_;rintro e w2 ⟨rfl,b2⟩;have B2:Hid (Below w.heap.size w w2):=B1.1.trans (b2.mono B1.1.size);clear b2 B1;go_wp2;go_ret;exact ⟨rfl,B2.out⟩
theorem ZAt.blk {w w':World} {b off len:Nat} {h:Nat->Int} (hh:ZAt w b off len h) (hb:w'.heap[b]? = w.heap[b]?):ZAt w' b off len h:=fun i hi=>(zH hb).trans (hh i hi)
theorem BlAt.blk {w w':World} {b off len:Nat} {h:Nat->Bool} (hh:BlAt w b off len h) (hb:w'.heap[b]? = w.heap[b]?):BlAt w' b off len h:=fun i hi=>(zH hb).trans (hh i hi)
structure qza (w:World) (lo hi:Nat) (x:ShIn) (v:Value) (D1 D2 D3:Nat) (bs:Nat->Nat):Prop where
 val:v=shV x.on (some ⟨D1,0,none⟩) x.cn x.cn (some ⟨D2,0,none⟩) x.ol x.ol (some ⟨D3,0,none⟩) x.kn x.kn
 cc:ZAt w D1 0 x.cn x.cH
 cf:∀ j,w.frozen? ⟨D1,j,none⟩=false
 oo:BlAt w D2 0 x.ol x.oH
 fo:∀ j,w.frozen? ⟨D2,j,none⟩=false
 kk:qbo w D3 hi x.kn x.kL bs x.kH
 lo:lo<=D1
 o1:D1<D2
 o2:D2<D3
def IsSh (w:World) (lo hi:Nat) (x:ShIn) (v:Value):Prop:=∃ D1 D2 D3 bs,qza w lo hi x v D1 D2 D3 bs
theorem IsSh.hi {w:World} {lo hi:Nat} {x:ShIn} {v:Value} (o:IsSh w lo hi x v):lo<hi/\hi<=w.heap.size:=by
 obtain ⟨D1,D2,D3,bs,o⟩:=o;have:=o.lo;have:=o.o1;have:=o.o2;have:=o.kk.lt;have:=o.kk.le;omega
theorem IsSh.keep {w w':World} {lo hi:Nat} {x:ShIn} {v:Value} (o:IsSh w lo hi x v) (hs:w.heap.size<=w'.heap.size) (hb:∀ k,lo<=k->k<hi->w'.heap[k]? = w.heap[k]?):IsSh w' lo hi x v:=by
 obtain ⟨D1,D2,D3,bs,o⟩:=o;have q0:=o.lo;have q1:=o.o1;have q2:=o.o2;have q3:=o.kk.lt;exact ⟨D1,D2,D3,bs,o.val,o.cc.blk (hb D1 (by omega) (by omega)),fun j=>(zI (hb D1 (by omega) (by omega))).trans (o.cf j),o.oo.blk (hb D2 (by omega) (by omega)),fun j=>(zI (hb D2 (by omega) (by omega))).trans (o.fo j),o.kk.keep hs fun k h1 h2=>hb k (by omega) h2,o.lo,o.o1,o.o2⟩
theorem IsSh.below {w w':World} {lo hi:Nat} {x:ShIn} {v:Value} {B:Nat} (o:IsSh w lo hi x v) (hb:Below B w w') (hB:hi<=B):IsSh w' lo hi x v:=o.keep hb.size fun k _ h2=>hb.block k (by omega)
theorem qcf.keep {w w':World} {lo hi:Nat} {x:SysIn} {v:Value} (o:qcf w lo hi x v) (hs:w.heap.size<=w'.heap.size) (hb:∀ k,lo<=k->k<hi->w'.heap[k]? = w.heap[k]?):qcf w' lo hi x v:=by
 obtain ⟨D1,D2,D3,D4,b1,vs,b3,b4,h1,h2,h3,o⟩:=o;obtain ⟨q1,q2,q3,q4,q5⟩:=o.hi;have:=o.lo;have:=o.o1;have:=o.o2;have:=o.o3;have:=o.pp.lt;have:=o.ss.lt;have:=o.ww.lt;exact ⟨D1,D2,D3,D4,b1,vs,b3,b4,h1,h2,h3,o.val,o.pp.keep hs fun k _ _=>hb k (by omega) (by omega),o.ss.keep hs fun k _ _=>hb k (by omega) (by omega),o.ww.keep hs fun k _ _=>hb k (by omega) (by omega),o.hh.keep hs fun k _ _=>hb k (by omega) (by omega),o.lo,o.o1,o.o2,o.o3⟩
theorem qdb {w w':World} {B b:Nat} (hb:Below B w w') (h:b<B) (j:Nat):w'.frozen? ⟨b,j,none⟩=w.frozen? ⟨b,j,none⟩:=hb.frozen (p:=⟨b,j,none⟩) h
structure TC (w wx:World) (a0 a1 a2 a3 r0 r1 r2 r3 o0 o1 o2 o3:Value):Prop where
 p:BoxC wx w.heap.size a0 a1 a2 a3
 r:BoxC wx (w.heap.size+1) r0 r1 r2 r3
 o:BoxC wx (w.heap.size+1+1) o0 o1 o2 o3
 fr:∀ j,wx.frozen? ⟨w.heap.size+1,j,none⟩=false
 fo:∀ j,wx.frozen? ⟨w.heap.size+1+1,j,none⟩=false
 be:Below w.heap.size w wx
 le:w.heap.size+3<=wx.heap.size
section
variable {w wx w':World} {a0 a1 a2 a3 r0 r1 r2 r3 o0 o1 o2 o3:Value}
theorem TC.below (h:TC w wx a0 a1 a2 a3 r0 r1 r2 r3 o0 o1 o2 o3) (hb:Below wx.heap.size wx w'):TC w w' a0 a1 a2 a3 r0 r1 r2 r3 o0 o1 o2 o3:=
 ⟨h.p.below hb,h.r.below hb,h.o.below hb,fun j=>(hb.frozen (p:=⟨w.heap.size+1,j,none⟩) (by have:=h.le;show w.heap.size+1<_;omega)).trans (h.fr j),fun j=>(hb.frozen (p:=⟨w.heap.size+1+1,j,none⟩) (by have:=h.le;show w.heap.size+1+1<_;omega)).trans (h.fo j),h.be.trans (hb.mono h.be.size),zO h.le hb.size⟩
theorem TC.first (a0 a1 a2 a3 r0 r1 r2 r3 o0 o1 o2 o3:Value) (t1 t2:TypeId):TC w (((w.alloc (.cells #[a0,a1,a2,a3] t1)).alloc (.cells #[r0,r1,r2,r3] t2)).alloc (.cells #[o0,o1,o2,o3] t2)) a0 a1 a2 a3 r0 r1 r2 r3 o0 o1 o2 o3:=by
 have hb1:=qad (w.alloc (.cells #[a0,a1,a2,a3] t1)) (.cells #[r0,r1,r2,r3] t2);have hb2:=qad ((w.alloc (.cells #[a0,a1,a2,a3] t1)).alloc (.cells #[r0,r1,r2,r3] t2)) (.cells #[o0,o1,o2,o3] t2);have n0:=BoxC.new w a0 a1 a2 a3 t1;have n1:=BoxC.new (w.alloc (.cells #[a0,a1,a2,a3] t1)) r0 r1 r2 r3 t2;have n2:=BoxC.new ((w.alloc (.cells #[a0,a1,a2,a3] t1)).alloc (.cells #[r0,r1,r2,r3] t2)) o0 o1 o2 o3 t2;have f1:=fun j=>yA (w.alloc (.cells #[a0,a1,a2,a3] t1)) #[r0,r1,r2,r3] t2 j rfl;have f2:=fun j=>yA ((w.alloc (.cells #[a0,a1,a2,a3] t1)).alloc (.cells #[r0,r1,r2,r3] t2)) #[o0,o1,o2,o3] t2 j rfl;simp only [World.size_alloc] at n1 n2 f1 f2;refine ⟨(n0.below hb1).below hb2,n1.below hb2,n2,fun j=>?_,f2,?_,by simp⟩
 ·exact (hb2.frozen (p:=⟨w.heap.size+1,j,none⟩) (by simp)).trans (f1 j)
 ·exact (((Below.refl _ _).alloc (Nat.le_refl _) _).alloc (by simp) _).alloc (by simp;omega) _
theorem TC.set0 (h:TC w wx a0 a1 a2 a3 r0 r1 r2 r3 o0 o1 o2 o3) (u:Value):TC w (wx.setCell ⟨w.heap.size+1+1,0,none⟩ u) a0 a1 a2 a3 r0 r1 r2 r3 u o1 o2 o3:=by
 obtain ⟨q0,q1,q2,q3⟩:=h.o;have hc:∀ i,0≠i->(wx.setCell ⟨w.heap.size+1+1,0,none⟩ u).cell? ⟨w.heap.size+1+1,i,none⟩=wx.cell? ⟨w.heap.size+1+1,i,none⟩:=fun i hi=>World.cell?_setCell_other _ _ _ _ fun e=>hi (by injection e);exact ⟨h.p.setO (by omega),h.r.setO (by omega),⟨World.cell?_setCell_same _ _ _ q0,(hc _ (by omega)).trans q1,(hc _ (by omega)).trans q2,(hc _ (by omega)).trans q3⟩,fun j=>by rw [World.frozen?_setCell];exact h.fr j,fun j=>by rw [World.frozen?_setCell];exact h.fo j,h.be.setCell (by simp;omega) _,by simp;exact h.le⟩
theorem TC.set1 (h:TC w wx a0 a1 a2 a3 r0 r1 r2 r3 o0 o1 o2 o3) (u:Value):TC w (wx.setCell ⟨w.heap.size+1+1,1,none⟩ u) a0 a1 a2 a3 r0 r1 r2 r3 o0 u o2 o3:=by
 obtain ⟨q0,q1,q2,q3⟩:=h.o;have hc:∀ i,1≠i->(wx.setCell ⟨w.heap.size+1+1,1,none⟩ u).cell? ⟨w.heap.size+1+1,i,none⟩=wx.cell? ⟨w.heap.size+1+1,i,none⟩:=fun i hi=>World.cell?_setCell_other _ _ _ _ fun e=>hi (by injection e);exact ⟨h.p.setO (by omega),h.r.setO (by omega),⟨(hc _ (by omega)).trans q0,World.cell?_setCell_same _ _ _ q1,(hc _ (by omega)).trans q2,(hc _ (by omega)).trans q3⟩,fun j=>by rw [World.frozen?_setCell];exact h.fr j,fun j=>by rw [World.frozen?_setCell];exact h.fo j,h.be.setCell (by simp;omega) _,by simp;exact h.le⟩
theorem TC.set2 (h:TC w wx a0 a1 a2 a3 r0 r1 r2 r3 o0 o1 o2 o3) (u:Value):TC w (wx.setCell ⟨w.heap.size+1+1,2,none⟩ u) a0 a1 a2 a3 r0 r1 r2 r3 o0 o1 u o3:=by
 obtain ⟨q0,q1,q2,q3⟩:=h.o;have hc:∀ i,2≠i->(wx.setCell ⟨w.heap.size+1+1,2,none⟩ u).cell? ⟨w.heap.size+1+1,i,none⟩=wx.cell? ⟨w.heap.size+1+1,i,none⟩:=fun i hi=>World.cell?_setCell_other _ _ _ _ fun e=>hi (by injection e);exact ⟨h.p.setO (by omega),h.r.setO (by omega),⟨(hc _ (by omega)).trans q0,(hc _ (by omega)).trans q1,World.cell?_setCell_same _ _ _ q2,(hc _ (by omega)).trans q3⟩,fun j=>by rw [World.frozen?_setCell];exact h.fr j,fun j=>by rw [World.frozen?_setCell];exact h.fo j,h.be.setCell (by simp;omega) _,by simp;exact h.le⟩
end
theorem qt0 (x:ShIn) (W w:World) (hs:x.size<=1048576) (hA:x.Ok W) (hW:Below W.heap.size W w):
  Calls Tryz.prog 24 #[shV x.on x.ca x.cn x.cc x.oa x.ol x.oc x.ka x.kn x.kc] w fun e w'=>∃ v,e=.returned v/\IsSh w' w.heap.size w'.heap.size x v/\Below w.heap.size w w':=by
 have hkn:x.kn<=1048576:=by unfold ShIn.size at hs;omega
 have HA:Hid (x.Ok W):=hA;have HW:Hid (Below W.heap.size W w):=hW;have HWs:Hid (W.heap.size<=w.heap.size):=hW.size;clear hA hW hs
 go_enter Tryz.func24,Tryz.ntmps24
 have T1:Hid (TC w (((w.alloc (.cells #[.bool x.on,.slice x.ca x.cn x.cc,.slice x.oa x.ol x.oc,.slice x.ka x.kn x.kc] 32)).alloc (zQ4)).alloc (oQ6 x.on none 0 0 none 0 0 none 0 0)) (.bool x.on) (.slice x.ca x.cn x.cc) (.slice x.oa x.ol x.oc) (.slice x.ka x.kn x.kc) (.bool false) (.slice none 0 0) (.slice none 0 0) (.slice none 0 0) (.bool x.on) (.slice none 0 0) (.slice none 0 0) (.slice none 0 0)):=TC.first _ _ _ _ _ _ _ _ _ _ _ _ _ _
 go_wp2_with fail
 generalize ((w.alloc (.cells #[.bool x.on,.slice x.ca x.cn x.cc,.slice x.oa x.ol x.oc,.slice x.ka x.kn x.kc] 32)).alloc (zQ4)).alloc (oQ6 x.on none 0 0 none 0 0 none 0 0)=wA at *;refine (HA.out.c wA (HW.out.trans (T1.out.be.mono HWs.out))).mono ?_;rintro e w1 ⟨rfl,i1,z1,b1,f1⟩;have zA:w.heap.size+3<=wA.heap.size:=T1.out.le;have T2:Hid (TC w w1 (.bool x.on) (.slice x.ca x.cn x.cc) (.slice x.oa x.ol x.oc) (.slice x.ka x.kn x.kc) (.bool false) (.slice none 0 0) (.slice none 0 0) (.slice none 0 0) (.bool x.on) (.slice none 0 0) (.slice none 0 0) (.slice none 0 0)):=T1.out.below b1;have C1:Hid (ZAt w1 wA.heap.size 0 x.cn x.cH/\(∀ j,w1.frozen? ⟨wA.heap.size,j,none⟩=false)/\wA.heap.size<w1.heap.size):=⟨i1,f1,z1⟩
 clear i1 f1 z1 b1 T1;obtain ⟨⟨p0,p1,p2,p3⟩,-,⟨q0,q1,q2,q3⟩,-,fo,-,le⟩:=T2.out;go_wp2_with fail
 have T3:Hid (TC w (w1.setCell ⟨w.heap.size+1+1,1,none⟩ (.slice (some ⟨wA.heap.size,0,none⟩) x.cn x.cn)) (.bool x.on) (.slice x.ca x.cn x.cc) (.slice x.oa x.ol x.oc) (.slice x.ka x.kn x.kc) (.bool false) (.slice none 0 0) (.slice none 0 0) (.slice none 0 0) (.bool x.on) (.slice (some ⟨wA.heap.size,0,none⟩) x.cn x.cn) (.slice none 0 0) (.slice none 0 0)):=T2.out.set1 _;have C2:Hid (ZAt (w1.setCell ⟨w.heap.size+1+1,1,none⟩ (.slice (some ⟨wA.heap.size,0,none⟩) x.cn x.cn)) wA.heap.size 0 x.cn x.cH/\(∀ j,(w1.setCell ⟨w.heap.size+1+1,1,none⟩ (.slice (some ⟨wA.heap.size,0,none⟩) x.cn x.cn)).frozen? ⟨wA.heap.size,j,none⟩=false)/\wA.heap.size<(w1.setCell ⟨w.heap.size+1+1,1,none⟩ (.slice (some ⟨wA.heap.size,0,none⟩) x.cn x.cn)).heap.size):=⟨C1.1.blk (zN _ _ _ _ (by simp;omega)),fun j=>by rw [World.frozen?_setCell];exact C1.2.1 j,by simp;exact C1.2.2⟩
 clear C1 T2 p0 p1 p2 p3 q0 q1 q2 q3 fo le;generalize w1.setCell ⟨w.heap.size+1+1,1,none⟩ (.slice (some ⟨wA.heap.size,0,none⟩) x.cn x.cn)=wB at *;refine (HA.out.o wB (HW.out.trans (T3.out.be.mono HWs.out))).mono ?_;rintro e w2 ⟨rfl,i2,z2,b2,f2⟩;have zB:wA.heap.size<wB.heap.size:=C2.2.2;have T4:Hid (TC w w2 (.bool x.on) (.slice x.ca x.cn x.cc) (.slice x.oa x.ol x.oc) (.slice x.ka x.kn x.kc) (.bool false) (.slice none 0 0) (.slice none 0 0) (.slice none 0 0) (.bool x.on) (.slice (some ⟨wA.heap.size,0,none⟩) x.cn x.cn) (.slice none 0 0) (.slice none 0 0)):=T3.out.below b2;have C3:Hid (ZAt w2 wA.heap.size 0 x.cn x.cH/\(∀ j,w2.frozen? ⟨wA.heap.size,j,none⟩=false)):=⟨C2.1.below b2 zB,fun j=>(qdb b2 zB j).trans (C2.2.1 j)⟩
 have O3:Hid (BlAt w2 wB.heap.size 0 x.ol x.oH/\(∀ j,w2.frozen? ⟨wB.heap.size,j,none⟩=false)/\wB.heap.size<w2.heap.size):=⟨i2,f2,z2⟩
 clear i2 f2 z2 b2 T3 C2;obtain ⟨⟨p0,p1,p2,p3⟩,-,⟨q0,q1,q2,q3⟩,-,fo,-,le⟩:=T4.out;go_wp2_with fail
 have T5:Hid (TC w (w2.setCell ⟨w.heap.size+1+1,2,none⟩ (.slice (some ⟨wB.heap.size,0,none⟩) x.ol x.ol)) (.bool x.on) (.slice x.ca x.cn x.cc) (.slice x.oa x.ol x.oc) (.slice x.ka x.kn x.kc) (.bool false) (.slice none 0 0) (.slice none 0 0) (.slice none 0 0) (.bool x.on) (.slice (some ⟨wA.heap.size,0,none⟩) x.cn x.cn) (.slice (some ⟨wB.heap.size,0,none⟩) x.ol x.ol) (.slice none 0 0)):=T4.out.set2 _;have C4:Hid (ZAt (w2.setCell ⟨w.heap.size+1+1,2,none⟩ (.slice (some ⟨wB.heap.size,0,none⟩) x.ol x.ol)) wA.heap.size 0 x.cn x.cH/\(∀ j,(w2.setCell ⟨w.heap.size+1+1,2,none⟩ (.slice (some ⟨wB.heap.size,0,none⟩) x.ol x.ol)).frozen? ⟨wA.heap.size,j,none⟩=false)):=⟨C3.1.blk (zN _ _ _ _ (by simp;omega)),fun j=>by rw [World.frozen?_setCell];exact C3.2 j⟩
 have O4:Hid (BlAt (w2.setCell ⟨w.heap.size+1+1,2,none⟩ (.slice (some ⟨wB.heap.size,0,none⟩) x.ol x.ol)) wB.heap.size 0 x.ol x.oH/\(∀ j,(w2.setCell ⟨w.heap.size+1+1,2,none⟩ (.slice (some ⟨wB.heap.size,0,none⟩) x.ol x.ol)).frozen? ⟨wB.heap.size,j,none⟩=false)/\wB.heap.size<(w2.setCell ⟨w.heap.size+1+1,2,none⟩ (.slice (some ⟨wB.heap.size,0,none⟩) x.ol x.ol)).heap.size):=⟨O3.1.blk (zN _ _ _ _ (by simp;omega)),fun j=>by rw [World.frozen?_setCell];exact O3.2.1 j,by simp;exact O3.2.2⟩
 clear C3 O3 T4 p0 p1 p2 p3 q0 q1 q2 q3 fo le;generalize w2.setCell ⟨w.heap.size+1+1,2,none⟩ (.slice (some ⟨wB.heap.size,0,none⟩) x.ol x.ol)=wC at *;refine (qqz _ _ _ _ x.kL _ x.kH W wC hkn HA.out.k (HW.out.trans (T5.out.be.mono HWs.out))).mono ?_;rintro e w3 ⟨rfl,⟨bs3,o3⟩,b3⟩;have zC:wB.heap.size<wC.heap.size:=O4.2.2;have T6:Hid (TC w w3 (.bool x.on) (.slice x.ca x.cn x.cc) (.slice x.oa x.ol x.oc) (.slice x.ka x.kn x.kc) (.bool false) (.slice none 0 0) (.slice none 0 0) (.slice none 0 0) (.bool x.on) (.slice (some ⟨wA.heap.size,0,none⟩) x.cn x.cn) (.slice (some ⟨wB.heap.size,0,none⟩) x.ol x.ol) (.slice none 0 0)):=T5.out.below b3
 have HO:Hid (∀ W9:World,(∀ k,w.heap.size+3<=k->W9.heap[k]? = w3.heap[k]?)->W9.heap.size=w3.heap.size->IsSh W9 w.heap.size W9.heap.size x (shV x.on (some ⟨wA.heap.size,0,none⟩) x.cn x.cn (some ⟨wB.heap.size,0,none⟩) x.ol x.ol (some ⟨wC.heap.size,0,none⟩) x.kn x.kn)):=by
  intro W9 hk hz;have o3':qbo w3 wC.heap.size W9.heap.size x.kn x.kL bs3 x.kH:=hz ▸ o3;exact ⟨_,_,_,bs3,rfl,(C4.1.below b3 (by omega)).blk (hk wA.heap.size (by omega)),fun j=>(zI (hk wA.heap.size (by omega))).trans ((qdb b3 (by omega) j).trans (C4.2 j)),(O4.1.below b3 (by omega)).blk (hk wB.heap.size (by omega)),fun j=>(zI (hk wB.heap.size (by omega))).trans ((qdb b3 (by omega) j).trans (O4.2.1 j)),o3'.keep (by omega) fun k h1 _=>hk k (by omega),by omega,zB,zC⟩
 clear b3 T5 o3 C4 O4;obtain ⟨-,⟨r0,r1,r2,r3⟩,⟨q0,q1,q2,q3⟩,fr,fo,be,le⟩:=T6.out;have BE:Hid (Below w.heap.size w w3):=be;clear be T6;go_wp2;refine bodyPost_ret (v:=shV x.on (some ⟨wA.heap.size,0,none⟩) x.cn x.cn (some ⟨wB.heap.size,0,none⟩) x.ol x.ol (some ⟨wC.heap.size,0,none⟩) x.kn x.kn) (by simp [results,Tryz.results24,go_sem,r0,r1,r2,r3]) rfl ⟨_,rfl,HO.out _ ?_ ?_,?_⟩
 ·intro k hk
  repeat (rw [zN _ _ _ _ (by simp;omega)])
 ·simp
 ·have:=BE.out
  go_grown
def qb6 (w:World) (lo hi:Nat) (x:LvIn) (v:Value):Prop:=∃ D1 D2 D3 D4 E1 E2 E3 m,v=.agg #[.slice (some ⟨D1,0,none⟩) x.s.pn x.s.pn,.slice (some ⟨D2,0,none⟩) x.s.sn x.s.sn,.slice (some ⟨D3,0,none⟩) x.s.wn x.s.wn,.slice (some ⟨D4,0,none⟩) x.s.hn x.s.hn,.bool x.h.on,.slice (some ⟨E1,0,none⟩) x.h.cn x.h.cn,.slice (some ⟨E2,0,none⟩) x.h.ol x.h.ol,.slice (some ⟨E3,0,none⟩) x.h.kn x.h.kn]/\qcf w lo m x.s (sysV (some ⟨D1,0,none⟩) x.s.pn x.s.pn (some ⟨D2,0,none⟩) x.s.sn x.s.sn (some ⟨D3,0,none⟩) x.s.wn x.s.wn (some ⟨D4,0,none⟩) x.s.hn x.s.hn)/\IsSh w m hi x.h (shV x.h.on (some ⟨E1,0,none⟩) x.h.cn x.h.cn (some ⟨E2,0,none⟩) x.h.ol x.h.ol (some ⟨E3,0,none⟩) x.h.kn x.h.kn)
theorem qcf.hi {w:World} {lo hi:Nat} {x:SysIn} {v:Value} (o:qcf w lo hi x v):lo<hi/\hi<=w.heap.size:=by
 obtain ⟨D1,D2,D3,D4,b1,vs,b3,b4,h1,h2,h3,o⟩:=o;exact ⟨o.hi.2.2.2.2,o.hi.2.2.2.1⟩
theorem qb6.hi {w:World} {lo hi:Nat} {x:LvIn} {v:Value} (o:qb6 w lo hi x v):lo<hi/\hi<=w.heap.size:=by
 obtain ⟨D1,D2,D3,D4,E1,E2,E3,m,-,o1,o2⟩:=o;have:=o1.hi;have:=o2.hi;omega
theorem qb6.keep {w w':World} {lo hi:Nat} {x:LvIn} {v:Value} (o:qb6 w lo hi x v) (hs:w.heap.size<=w'.heap.size) (hb:∀ k,lo<=k->k<hi->w'.heap[k]? = w.heap[k]?):qb6 w' lo hi x v:=by
 obtain ⟨D1,D2,D3,D4,E1,E2,E3,m,e,o1,o2⟩:=o;have q1:=o1.hi;have q2:=o2.hi;exact ⟨D1,D2,D3,D4,E1,E2,E3,m,e,o1.keep hs fun k h1 h2=>hb k h1 (by omega),o2.keep hs fun k h1 h2=>hb k (by omega) h2⟩
theorem qb6.below {w w':World} {lo hi:Nat} {x:LvIn} {v:Value} {B:Nat} (o:qb6 w lo hi x v) (hb:Below B w w') (hB:hi<=B):qb6 w' lo hi x v:=o.keep hb.size fun k _ h2=>hb.block k (by omega)
theorem qcf.val {w:World} {lo hi:Nat} {x:SysIn} {v:Value} (o:qcf w lo hi x v):∃ D1 D2 D3 D4,v=sysV (some ⟨D1,0,none⟩) x.pn x.pn (some ⟨D2,0,none⟩) x.sn x.sn (some ⟨D3,0,none⟩) x.wn x.wn (some ⟨D4,0,none⟩) x.hn x.hn:=by
 obtain ⟨D1,D2,D3,D4,b1,vs,b3,b4,h1,h2,h3,o⟩:=o;exact ⟨D1,D2,D3,D4,o.val⟩
theorem IsSh.val {w:World} {lo hi:Nat} {x:ShIn} {v:Value} (o:IsSh w lo hi x v):∃ E1 E2 E3,v=shV x.on (some ⟨E1,0,none⟩) x.cn x.cn (some ⟨E2,0,none⟩) x.ol x.ol (some ⟨E3,0,none⟩) x.kn x.kn:=by
 obtain ⟨D1,D2,D3,bs,o⟩:=o;exact ⟨D1,D2,D3,o.val⟩
structure TH (w wx:World) (a:Nat->Value) (o:Nat->Value):Prop where
 p:∀ i,i<8->wx.cell? ⟨w.heap.size,i,none⟩=some (a i)
 r:BoxH wx (w.heap.size+1) (.slice none 0 0) (.slice none 0 0) (.slice none 0 0) (.slice none 0 0) (.bool false) (.slice none 0 0) (.slice none 0 0) (.slice none 0 0)
 o:∀ i,i<8->wx.cell? ⟨w.heap.size+1+1,i,none⟩=some (o i)
 fr:∀ j,wx.frozen? ⟨w.heap.size+1,j,none⟩=false
 fo:∀ j,wx.frozen? ⟨w.heap.size+1+1,j,none⟩=false
 be:Below w.heap.size w wx
 le:w.heap.size+3<=wx.heap.size
theorem TH.below {w wx w':World} {a o:Nat->Value} (h:TH w wx a o) (hb:Below wx.heap.size wx w'):TH w w' a o:=by
 have hl:=h.le;exact ⟨fun i hi=>(zH (hb.block w.heap.size (by omega))).trans (h.p i hi),h.r.below hb,fun i hi=>(zH (hb.block (w.heap.size+1+1) (by omega))).trans (h.o i hi),fun j=>(qdb hb (by omega) j).trans (h.fr j),fun j=>(qdb hb (by omega) j).trans (h.fo j),h.be.trans (hb.mono h.be.size),zO hl hb.size⟩
theorem TH.set {w wx:World} {a o:Nat->Value} (h:TH w wx a o) (k:Nat) (hk:k<8) (u:Value):TH w (wx.setCell ⟨w.heap.size+1+1,k,none⟩ u) a (fun i=>if i=k then u else o i):=by
 have hl:=h.le;have hne:∀ b,b≠w.heap.size+1+1->(wx.setCell ⟨w.heap.size+1+1,k,none⟩ u).heap[b]? = wx.heap[b]?:=fun b hb=>zN _ _ _ _ hb;refine ⟨fun i hi=>(zH (hne w.heap.size (by omega))).trans (h.p i hi),h.r.blk (hne _ (by omega)),fun i hi=>?_,fun j=>by rw [World.frozen?_setCell];exact h.fr j,fun j=>by rw [World.frozen?_setCell];exact h.fo j,h.be.setCell (by simp;omega) _,by simp;exact hl⟩;by_cases e:i=k
 ·subst e
  rw [if_pos rfl];exact World.cell?_setCell_same _ _ _ (h.o i hi)
 ·rw [if_neg e]
  exact (World.cell?_setCell_other _ _ _ _ fun e'=>e (by injection e' with _ e';exact e'.symm)).trans (h.o i hi)
def v8 (c0 c1 c2 c3 c4 c5 c6 c7:Value):Nat->Value
 | 0=>c0 | 1=>c1 | 2=>c2 | 3=>c3 | 4=>c4 | 5=>c5 | 6=>c6 | _=>c7
theorem box8 {w:World} {b:Nat} {c0 c1 c2 c3 c4 c5 c6 c7:Value} (h:BoxH w b c0 c1 c2 c3 c4 c5 c6 c7):∀ i,i<8->w.cell? ⟨b,i,none⟩=some (v8 c0 c1 c2 c3 c4 c5 c6 c7 i):=by
 intro i hi;obtain ⟨h0,h1,h2,h3,h4,h5,h6,h7⟩:=h
 match i,hi with
 | 0,_=>exact h0
 | 1,_=>exact h1
 | 2,_=>exact h2
 | 3,_=>exact h3
 | 4,_=>exact h4
 | 5,_=>exact h5
 | 6,_=>exact h6
 | 7,_=>exact h7
theorem TH.first {w:World} (a0 a1 a2 a3 a4 a5 a6 a7:Value) (t1 t2:TypeId):TH w (((w.alloc (.cells #[a0,a1,a2,a3,a4,a5,a6,a7] t1)).alloc (.cells #[.slice none 0 0,.slice none 0 0,.slice none 0 0,.slice none 0 0,.bool false,.slice none 0 0,.slice none 0 0,.slice none 0 0] t2)).alloc (.cells #[.slice none 0 0,.slice none 0 0,.slice none 0 0,.slice none 0 0,.bool false,.slice none 0 0,.slice none 0 0,.slice none 0 0] t2)) (v8 a0 a1 a2 a3 a4 a5 a6 a7) (v8 (.slice none 0 0) (.slice none 0 0) (.slice none 0 0) (.slice none 0 0) (.bool false) (.slice none 0 0) (.slice none 0 0) (.slice none 0 0)):=by
 have hb1:=qad (w.alloc (.cells #[a0,a1,a2,a3,a4,a5,a6,a7] t1)) (.cells #[.slice none 0 0,.slice none 0 0,.slice none 0 0,.slice none 0 0,.bool false,.slice none 0 0,.slice none 0 0,.slice none 0 0] t2);have hb2:=qad ((w.alloc (.cells #[a0,a1,a2,a3,a4,a5,a6,a7] t1)).alloc (.cells #[.slice none 0 0,.slice none 0 0,.slice none 0 0,.slice none 0 0,.bool false,.slice none 0 0,.slice none 0 0,.slice none 0 0] t2)) (.cells #[.slice none 0 0,.slice none 0 0,.slice none 0 0,.slice none 0 0,.bool false,.slice none 0 0,.slice none 0 0,.slice none 0 0] t2);have n0:=BoxH.new w a0 a1 a2 a3 a4 a5 a6 a7 t1;have n1:=BoxH.new (w.alloc (.cells #[a0,a1,a2,a3,a4,a5,a6,a7] t1)) (.slice none 0 0) (.slice none 0 0) (.slice none 0 0) (.slice none 0 0) (.bool false) (.slice none 0 0) (.slice none 0 0) (.slice none 0 0) t2;have n2:=BoxH.new ((w.alloc (.cells #[a0,a1,a2,a3,a4,a5,a6,a7] t1)).alloc (.cells #[.slice none 0 0,.slice none 0 0,.slice none 0 0,.slice none 0 0,.bool false,.slice none 0 0,.slice none 0 0,.slice none 0 0] t2)) (.slice none 0 0) (.slice none 0 0) (.slice none 0 0) (.slice none 0 0) (.bool false) (.slice none 0 0) (.slice none 0 0) (.slice none 0 0) t2;have f1:=fun j=>yA (w.alloc (.cells #[a0,a1,a2,a3,a4,a5,a6,a7] t1)) #[.slice none 0 0,.slice none 0 0,.slice none 0 0,.slice none 0 0,.bool false,.slice none 0 0,.slice none 0 0,.slice none 0 0] t2 j rfl;have f2:=fun j=>yA ((w.alloc (.cells #[a0,a1,a2,a3,a4,a5,a6,a7] t1)).alloc (.cells #[.slice none 0 0,.slice none 0 0,.slice none 0 0,.slice none 0 0,.bool false,.slice none 0 0,.slice none 0 0,.slice none 0 0] t2)) #[.slice none 0 0,.slice none 0 0,.slice none 0 0,.slice none 0 0,.bool false,.slice none 0 0,.slice none 0 0,.slice none 0 0] t2 j rfl
 simp only [World.size_alloc] at n1 n2 f1 f2;refine ⟨box8 ((n0.below hb1).below hb2),n1.below hb2,box8 n2,fun j=>?_,f2,?_,by simp⟩
 ·exact (hb2.frozen (p:=⟨w.heap.size+1,j,none⟩) (by simp)).trans (f1 j)
 ·exact (((Below.refl _ _).alloc (Nat.le_refl _) _).alloc (by simp) _).alloc (by simp;omega) _
theorem qek (x:LvIn) (W w:World) (hs:x.size<=1048576) (hA:x.Ok W) (hW:Below W.heap.size W w):
  Calls Tryz.prog 8 #[x.v] w fun e w'=>∃ v,e=.returned v/\qb6 w' w.heap.size w'.heap.size x v/\Below w.heap.size w w':=by
 have hz1:x.s.size<=1048576:=by unfold LvIn.size at hs;omega
 have hz2:x.h.size<=1048576:=by unfold LvIn.size at hs;omega
 have HA:Hid (x.Ok W):=hA;have HW:Hid (Below W.heap.size W w):=hW;have HWs:Hid (W.heap.size<=w.heap.size):=hW.size;clear hA hW hs
 go_enter Tryz.func8,Tryz.ntmps8
 have T1:Hid (TH w (((w.alloc (oQ5 x.s.pa x.s.pn x.s.pc x.s.sa x.s.sn x.s.sc x.s.wa x.s.wn x.s.wc x.s.ha x.s.hn x.s.hc x.h.on x.h.ca x.h.cn x.h.cc x.h.oa x.h.ol x.h.oc x.h.ka x.h.kn x.h.kc)).alloc (zQ5)).alloc (zQ5)) (v8 (.slice x.s.pa x.s.pn x.s.pc) (.slice x.s.sa x.s.sn x.s.sc) (.slice x.s.wa x.s.wn x.s.wc) (.slice x.s.ha x.s.hn x.s.hc) (.bool x.h.on) (.slice x.h.ca x.h.cn x.h.cc) (.slice x.h.oa x.h.ol x.h.oc) (.slice x.h.ka x.h.kn x.h.kc)) (v8 (.slice none 0 0) (.slice none 0 0) (.slice none 0 0) (.slice none 0 0) (.bool false) (.slice none 0 0) (.slice none 0 0) (.slice none 0 0))):=TH.first _ _ _ _ _ _ _ _ _ _
 go_wp2_with fail
 generalize ((w.alloc (oQ5 x.s.pa x.s.pn x.s.pc x.s.sa x.s.sn x.s.sc x.s.wa x.s.wn x.s.wc x.s.ha x.s.hn x.s.hc x.h.on x.h.ca x.h.cn x.h.cc x.h.oa x.h.ol x.h.oc x.h.ka x.h.kn x.h.kc)).alloc (zQ5)).alloc (zQ5)=wA at *;refine (qvu x.s W wA hz1 HA.out.s (HW.out.trans (T1.out.be.mono HWs.out))).mono ?_;rintro e w1 ⟨v1,rfl,o1,b1⟩;obtain ⟨D1,D2,D3,D4,rfl⟩:=o1.val;have T2:Hid (TH w w1 (v8 (.slice x.s.pa x.s.pn x.s.pc) (.slice x.s.sa x.s.sn x.s.sc) (.slice x.s.wa x.s.wn x.s.wc) (.slice x.s.ha x.s.hn x.s.hc) (.bool x.h.on) (.slice x.h.ca x.h.cn x.h.cc) (.slice x.h.oa x.h.ol x.h.oc) (.slice x.h.ka x.h.kn x.h.kc)) (v8 (.slice none 0 0) (.slice none 0 0) (.slice none 0 0) (.slice none 0 0) (.bool false) (.slice none 0 0) (.slice none 0 0) (.slice none 0 0))):=T1.out.below b1;have S1:Hid (qcf w1 wA.heap.size w1.heap.size x.s (sysV (some ⟨D1,0,none⟩) x.s.pn x.s.pn (some ⟨D2,0,none⟩) x.s.sn x.s.sn (some ⟨D3,0,none⟩) x.s.wn x.s.wn (some ⟨D4,0,none⟩) x.s.hn x.s.hn)):=o1;have zA:w.heap.size+3<=wA.heap.size:=T1.out.le;clear o1 b1 T1;have p0:=T2.out.p 0 (by omega);have p1:=T2.out.p 1 (by omega);have p2:=T2.out.p 2 (by omega);have p3:=T2.out.p 3 (by omega);have p4:=T2.out.p 4 (by omega);have p5:=T2.out.p 5 (by omega);have p6:=T2.out.p 6 (by omega);have p7:=T2.out.p 7 (by omega);have q0:=T2.out.o 0 (by omega);have q1:=T2.out.o 1 (by omega);have q2:=T2.out.o 2 (by omega);have q3:=T2.out.o 3 (by omega);have fo:=T2.out.fo;simp only [v8] at p0 p1 p2 p3 p4 p5 p6 p7 q0 q1 q2 q3;have T3:Hid (TH w ((((w1.setCell ⟨w.heap.size+1+1,0,none⟩ (.slice (some ⟨D1,0,none⟩) x.s.pn x.s.pn)).setCell ⟨w.heap.size+1+1,1,none⟩ (.slice (some ⟨D2,0,none⟩) x.s.sn x.s.sn)).setCell ⟨w.heap.size+1+1,2,none⟩ (.slice (some ⟨D3,0,none⟩) x.s.wn x.s.wn)).setCell ⟨w.heap.size+1+1,3,none⟩ (.slice (some ⟨D4,0,none⟩) x.s.hn x.s.hn)) (v8 (.slice x.s.pa x.s.pn x.s.pc) (.slice x.s.sa x.s.sn x.s.sc) (.slice x.s.wa x.s.wn x.s.wc) (.slice x.s.ha x.s.hn x.s.hc) (.bool x.h.on) (.slice x.h.ca x.h.cn x.h.cc) (.slice x.h.oa x.h.ol x.h.oc) (.slice x.h.ka x.h.kn x.h.kc)) (fun i=>if i=3 then .slice (some ⟨D4,0,none⟩) x.s.hn x.s.hn else if i=2 then .slice (some ⟨D3,0,none⟩) x.s.wn x.s.wn else if i=1 then .slice (some ⟨D2,0,none⟩) x.s.sn x.s.sn else if i=0 then .slice (some ⟨D1,0,none⟩) x.s.pn x.s.pn else v8 (.slice none 0 0) (.slice none 0 0) (.slice none 0 0) (.slice none 0 0) (.bool false) (.slice none 0 0) (.slice none 0 0) (.slice none 0 0) i)):=(((T2.out.set 0 (by omega) _).set 1 (by omega) _).set 2 (by omega) _).set 3 (by omega) _
 have S2:Hid (qcf ((((w1.setCell ⟨w.heap.size+1+1,0,none⟩ (.slice (some ⟨D1,0,none⟩) x.s.pn x.s.pn)).setCell ⟨w.heap.size+1+1,1,none⟩ (.slice (some ⟨D2,0,none⟩) x.s.sn x.s.sn)).setCell ⟨w.heap.size+1+1,2,none⟩ (.slice (some ⟨D3,0,none⟩) x.s.wn x.s.wn)).setCell ⟨w.heap.size+1+1,3,none⟩ (.slice (some ⟨D4,0,none⟩) x.s.hn x.s.hn)) wA.heap.size ((((w1.setCell ⟨w.heap.size+1+1,0,none⟩ (.slice (some ⟨D1,0,none⟩) x.s.pn x.s.pn)).setCell ⟨w.heap.size+1+1,1,none⟩ (.slice (some ⟨D2,0,none⟩) x.s.sn x.s.sn)).setCell ⟨w.heap.size+1+1,2,none⟩ (.slice (some ⟨D3,0,none⟩) x.s.wn x.s.wn)).setCell ⟨w.heap.size+1+1,3,none⟩ (.slice (some ⟨D4,0,none⟩) x.s.hn x.s.hn)).heap.size x.s (sysV (some ⟨D1,0,none⟩) x.s.pn x.s.pn (some ⟨D2,0,none⟩) x.s.sn x.s.sn (some ⟨D3,0,none⟩) x.s.wn x.s.wn (some ⟨D4,0,none⟩) x.s.hn x.s.hn)):=by
  have:=S1.out.keep (w':=(((w1.setCell ⟨w.heap.size+1+1,0,none⟩ (.slice (some ⟨D1,0,none⟩) x.s.pn x.s.pn)).setCell ⟨w.heap.size+1+1,1,none⟩ (.slice (some ⟨D2,0,none⟩) x.s.sn x.s.sn)).setCell ⟨w.heap.size+1+1,2,none⟩ (.slice (some ⟨D3,0,none⟩) x.s.wn x.s.wn)).setCell ⟨w.heap.size+1+1,3,none⟩ (.slice (some ⟨D4,0,none⟩) x.s.hn x.s.hn)) (by simp) fun k h1 _=>by
   repeat (rw [zN _ _ _ _ (by simp;omega)])
  have ez:((((w1.setCell ⟨w.heap.size+1+1,0,none⟩ (.slice (some ⟨D1,0,none⟩) x.s.pn x.s.pn)).setCell ⟨w.heap.size+1+1,1,none⟩ (.slice (some ⟨D2,0,none⟩) x.s.sn x.s.sn)).setCell ⟨w.heap.size+1+1,2,none⟩ (.slice (some ⟨D3,0,none⟩) x.s.wn x.s.wn)).setCell ⟨w.heap.size+1+1,3,none⟩ (.slice (some ⟨D4,0,none⟩) x.s.hn x.s.hn)).heap.size=w1.heap.size:=by simp
  rw [ez];exact this
 clear T2 S1;go_wp2_with fail
 generalize (((w1.setCell ⟨w.heap.size+1+1,0,none⟩ (.slice (some ⟨D1,0,none⟩) x.s.pn x.s.pn)).setCell ⟨w.heap.size+1+1,1,none⟩ (.slice (some ⟨D2,0,none⟩) x.s.sn x.s.sn)).setCell ⟨w.heap.size+1+1,2,none⟩ (.slice (some ⟨D3,0,none⟩) x.s.wn x.s.wn)).setCell ⟨w.heap.size+1+1,3,none⟩ (.slice (some ⟨D4,0,none⟩) x.s.hn x.s.hn)=wB at *;clear p0 p1 p2 p3 p4 p5 p6 p7 q0 q1 q2 q3 fo;refine (qt0 x.h W wB hz2 HA.out.h (HW.out.trans (T3.out.be.mono HWs.out))).mono ?_;rintro e w2 ⟨v2,rfl,o2,b2⟩;obtain ⟨E1,E2,E3,rfl⟩:=o2.val;have T4:=T3.out.below b2
 have HO:Hid (∀ W9:World,(∀ k,w.heap.size+3<=k->W9.heap[k]? = w2.heap[k]?)->W9.heap.size=w2.heap.size->qb6 W9 w.heap.size W9.heap.size x (.agg #[.slice (some ⟨D1,0,none⟩) x.s.pn x.s.pn,.slice (some ⟨D2,0,none⟩) x.s.sn x.s.sn,.slice (some ⟨D3,0,none⟩) x.s.wn x.s.wn,.slice (some ⟨D4,0,none⟩) x.s.hn x.s.hn,.bool x.h.on,.slice (some ⟨E1,0,none⟩) x.h.cn x.h.cn,.slice (some ⟨E2,0,none⟩) x.h.ol x.h.ol,.slice (some ⟨E3,0,none⟩) x.h.kn x.h.kn])):=by
  intro W9 hk hz;have o2':IsSh w2 wB.heap.size W9.heap.size x.h (shV x.h.on (some ⟨E1,0,none⟩) x.h.cn x.h.cn (some ⟨E2,0,none⟩) x.h.ol x.h.ol (some ⟨E3,0,none⟩) x.h.kn x.h.kn):=hz ▸ o2;have q1:=S2.out.hi;have q2:=o2'.hi;have o1':qcf W9 wA.heap.size wB.heap.size x.s (sysV (some ⟨D1,0,none⟩) x.s.pn x.s.pn (some ⟨D2,0,none⟩) x.s.sn x.s.sn (some ⟨D3,0,none⟩) x.s.wn x.s.wn (some ⟨D4,0,none⟩) x.s.hn x.s.hn):=(S2.out.below b2 (Nat.le_refl _)).keep (by omega) fun k h1 _=>hk k (by omega);refine ⟨D1,D2,D3,D4,E1,E2,E3,wB.heap.size,rfl,?_,o2'.keep (by omega) fun k h1 _=>hk k (by omega)⟩;obtain ⟨C1,C2,C3,C4,b1,vs,b3,b4,h1,h2,h3,o⟩:=o1';exact ⟨C1,C2,C3,C4,b1,vs,b3,b4,h1,h2,h3,o.val,o.pp,o.ss,o.ww,o.hh,by have:=o.lo;omega,o.o1,o.o2,o.o3⟩
 clear b2 T3 o2 S2;obtain ⟨-,⟨r0,r1,r2,r3,r4,r5,r6,r7⟩,ho,fr,fo,be,le⟩:=T4;have q0:=ho 0 (by omega);have q1:=ho 1 (by omega);have q2:=ho 2 (by omega);have q3:=ho 3 (by omega);have q4:=ho 4 (by omega);have q5:=ho 5 (by omega);have q6:=ho 6 (by omega);have q7:=ho 7 (by omega);simp [v8] at q0 q1 q2 q3 q4 q5 q6 q7;have BE:Hid (Below w.heap.size w w2):=be;clear be ho;go_wp2;refine bodyPost_ret (v:=.agg #[.slice (some ⟨D1,0,none⟩) x.s.pn x.s.pn,.slice (some ⟨D2,0,none⟩) x.s.sn x.s.sn,.slice (some ⟨D3,0,none⟩) x.s.wn x.s.wn,.slice (some ⟨D4,0,none⟩) x.s.hn x.s.hn,.bool x.h.on,.slice (some ⟨E1,0,none⟩) x.h.cn x.h.cn,.slice (some ⟨E2,0,none⟩) x.h.ol x.h.ol,.slice (some ⟨E3,0,none⟩) x.h.kn x.h.kn]) (by simp [results,Tryz.results8,go_sem,r0,r1,r2,r3,r4,r5,r6,r7]) rfl ⟨_,rfl,HO.out _ ?_ ?_,?_⟩
 ·intro k hk
  repeat (rw [zN _ _ _ _ (by simp;omega)])
 ·simp
 ·have:=BE.out
  go_grown
theorem ShIn.lens {x:ShIn} (h:x.size<=1048576):x.cn<=1048576/\x.ol<=1048576/\x.kn<=1048576/\sumL x.kL x.kn<=1048576:=by
 unfold ShIn.size at h;omega
structure B44 (w wx:World) (a0 a1 a2 a3 c0 c1 c2 c3:Value):Prop where
 p:BoxC wx w.heap.size a0 a1 a2 a3
 q:BoxC wx (w.heap.size+1) c0 c1 c2 c3
 be:Below w.heap.size w wx
 le:w.heap.size+2<=wx.heap.size
theorem B44.below {w wx w':World} {a0 a1 a2 a3 c0 c1 c2 c3:Value} (h:B44 w wx a0 a1 a2 a3 c0 c1 c2 c3) (hb:Below wx.heap.size wx w'):B44 w w' a0 a1 a2 a3 c0 c1 c2 c3:=⟨h.p.below hb,h.q.below hb,h.be.trans (hb.mono h.be.size),zO h.le hb.size⟩
theorem B44.new (w:World) (a0 a1 a2 a3 c0 c1 c2 c3:Value) (t:TypeId):B44 w ((w.alloc (.cells #[a0,a1,a2,a3] t)).alloc (.cells #[c0,c1,c2,c3] t)) a0 a1 a2 a3 c0 c1 c2 c3:=by
 have n1:=BoxC.new w a0 a1 a2 a3 t;have n2:=BoxC.new (w.alloc (.cells #[a0,a1,a2,a3] t)) c0 c1 c2 c3 t;simp only [World.size_alloc] at n2;exact ⟨n1.below (qad _ _),n2,((Below.refl _ _).alloc (Nat.le_refl _) _).alloc (by simp) _,by simp⟩
theorem qpv (x:ShIn) (l1 u1 l2 u2:Nat) (v1 v2:Value) (w:World) (hs:x.size<=1048576) (o1:IsSh w l1 u1 x v1) (o2:IsSh w l2 u2 x v2):
  Calls Tryz.prog 33 #[v1,v2] w fun e w'=>e=.returned (.bool true)/\Below w.heap.size w w':=by
 obtain ⟨E1,E2,E3,b1,o1⟩:=o1;obtain ⟨G1,G2,G3,b2,o2⟩:=o2;have HS:Hid (x.size<=1048576):=hs;have y1:=o1.kk.lt;have y2:=o1.kk.le;have y3:=o1.o1;have y4:=o1.o2;have z1:=o2.kk.lt;have z2:=o2.kk.le;have z3:=o2.o1;have z4:=o2.o2;have ltE:E1<w.heap.size/\E2<w.heap.size:=by omega
 have ltG:G1<w.heap.size/\G2<w.heap.size:=by omega
 obtain ⟨rfl,p1,-,p2,-,p3,-,-,-⟩:=o1;obtain ⟨rfl,q1,-,q2,-,q3,-,-,-⟩:=o2;have P:Hid (ZAt w E1 0 x.cn x.cH/\BlAt w E2 0 x.ol x.oH/\qbo w E3 u1 x.kn x.kL b1 x.kH/\E1<w.heap.size/\E2<w.heap.size):=⟨p1,p2,p3,ltE⟩
 have Q:Hid (ZAt w G1 0 x.cn x.cH/\BlAt w G2 0 x.ol x.oH/\qbo w G3 u2 x.kn x.kL b2 x.kH/\G1<w.heap.size/\G2<w.heap.size):=⟨q1,q2,q3,ltG⟩
 have hon:(x.on != x.on)=false:=by simp
 clear p1 p2 p3 q1 q2 q3 ltE ltG y1 y2 y3 y4 z1 z2 z3 z4 hs
 go_enter Tryz.func33,Tryz.ntmps33
 have X0:Hid (B44 w ((w.alloc (oQ6 x.on (some ⟨E1,0,none⟩) x.cn x.cn (some ⟨E2,0,none⟩) x.ol x.ol (some ⟨E3,0,none⟩) x.kn x.kn)).alloc (oQ6 x.on (some ⟨G1,0,none⟩) x.cn x.cn (some ⟨G2,0,none⟩) x.ol x.ol (some ⟨G3,0,none⟩) x.kn x.kn)) (.bool x.on) (.slice (some ⟨E1,0,none⟩) x.cn x.cn) (.slice (some ⟨E2,0,none⟩) x.ol x.ol) (.slice (some ⟨E3,0,none⟩) x.kn x.kn) (.bool x.on) (.slice (some ⟨G1,0,none⟩) x.cn x.cn) (.slice (some ⟨G2,0,none⟩) x.ol x.ol) (.slice (some ⟨G3,0,none⟩) x.kn x.kn)):=B44.new _ _ _ _ _ _ _ _ _ _;obtain ⟨⟨p0,p1,p2,p3⟩,⟨q0,q1,q2,q3⟩,-,le⟩:=X0.out;go_wp2_with fail
 clear p0 p1 p2 p3 q0 q1 q2 q3 le;generalize (w.alloc (oQ6 x.on (some ⟨E1,0,none⟩) x.cn x.cn (some ⟨E2,0,none⟩) x.ol x.ol (some ⟨E3,0,none⟩) x.kn x.kn)).alloc (oQ6 x.on (some ⟨G1,0,none⟩) x.cn x.cn (some ⟨G2,0,none⟩) x.ol x.ol (some ⟨G3,0,none⟩) x.kn x.kn)=wA at *;refine (qg3 E1 G1 x.cn x.cn x.cn x.cH wA (ShIn.lens HS.out).1 (zL P.2.2.2.1 X0.out.be.size) (zL Q.2.2.2.1 X0.out.be.size) (P.1.below X0.out.be P.2.2.2.1) (Q.1.below X0.out.be Q.2.2.2.1)).mono ?_;rintro e w1 ⟨rfl,b1⟩;have X1:Hid (B44 w w1 (.bool x.on) (.slice (some ⟨E1,0,none⟩) x.cn x.cn) (.slice (some ⟨E2,0,none⟩) x.ol x.ol) (.slice (some ⟨E3,0,none⟩) x.kn x.kn) (.bool x.on) (.slice (some ⟨G1,0,none⟩) x.cn x.cn) (.slice (some ⟨G2,0,none⟩) x.ol x.ol) (.slice (some ⟨G3,0,none⟩) x.kn x.kn)):=X0.out.below b1;clear b1 X0;obtain ⟨⟨p0,p1,p2,p3⟩,⟨q0,q1,q2,q3⟩,-,le⟩:=X1.out;go_wp2_with fail
 clear p0 p1 p2 p3 q0 q1 q2 q3 le;refine (qkp E2 G2 x.ol x.ol x.ol x.oH w1 (ShIn.lens HS.out).2.1 (zL P.2.2.2.2 X1.out.be.size) (zL Q.2.2.2.2 X1.out.be.size) (P.2.1.below X1.out.be P.2.2.2.2) (Q.2.1.below X1.out.be Q.2.2.2.2)).mono ?_;rintro e w2 ⟨rfl,b2⟩;have X2:Hid (B44 w w2 (.bool x.on) (.slice (some ⟨E1,0,none⟩) x.cn x.cn) (.slice (some ⟨E2,0,none⟩) x.ol x.ol) (.slice (some ⟨E3,0,none⟩) x.kn x.kn) (.bool x.on) (.slice (some ⟨G1,0,none⟩) x.cn x.cn) (.slice (some ⟨G2,0,none⟩) x.ol x.ol) (.slice (some ⟨G3,0,none⟩) x.kn x.kn)):=X1.out.below b2;clear b2 X1;obtain ⟨⟨p0,p1,p2,p3⟩,⟨q0,q1,q2,q3⟩,-,le⟩:=X2.out;go_wp2_with fail
 clear p0 p1 p2 p3 q0 q1 q2 q3 le;refine (qm5 E3 u1 G3 u2 x.kn _ _ x.kL b1 b2 x.kH _ (ShIn.lens HS.out).2.2.1 (qc3 (ShIn.lens HS.out).2.2.2) (P.2.2.1.below X2.out.be P.2.2.1.le) (Q.2.2.1.below X2.out.be Q.2.2.1.le)).mono ?_;rintro e w3 ⟨rfl,b3⟩;have BE:Hid (Below w.heap.size w w3):=(X2.out.below b3).be;clear X2 b3;go_wp2;go_ret;exact ⟨rfl,BE.out⟩
structure B88 (w wx:World) (a:Nat->Value) (c:Nat->Value):Prop where
 p:∀ i,i<8->wx.cell? ⟨w.heap.size,i,none⟩=some (a i)
 q:∀ i,i<8->wx.cell? ⟨w.heap.size+1,i,none⟩=some (c i)
 be:Below w.heap.size w wx
 le:w.heap.size+2<=wx.heap.size
theorem B88.below {w wx w':World} {a c:Nat->Value} (h:B88 w wx a c) (hb:Below wx.heap.size wx w'):B88 w w' a c:=by
 have hl:=h.le;exact ⟨fun i hi=>(zH (hb.block w.heap.size (by omega))).trans (h.p i hi),fun i hi=>(zH (hb.block (w.heap.size+1) (by omega))).trans (h.q i hi),h.be.trans (hb.mono h.be.size),zO h.le hb.size⟩
theorem B88.new (w:World) (a0 a1 a2 a3 a4 a5 a6 a7 c0 c1 c2 c3 c4 c5 c6 c7:Value) (t:TypeId):B88 w ((w.alloc (.cells #[a0,a1,a2,a3,a4,a5,a6,a7] t)).alloc (.cells #[c0,c1,c2,c3,c4,c5,c6,c7] t)) (v8 a0 a1 a2 a3 a4 a5 a6 a7) (v8 c0 c1 c2 c3 c4 c5 c6 c7):=by
 have n1:=BoxH.new w a0 a1 a2 a3 a4 a5 a6 a7 t;have n2:=BoxH.new (w.alloc (.cells #[a0,a1,a2,a3,a4,a5,a6,a7] t)) c0 c1 c2 c3 c4 c5 c6 c7 t;simp only [World.size_alloc] at n2;exact ⟨box8 (n1.below (qad _ _)),box8 n2,((Below.refl _ _).alloc (Nat.le_refl _) _).alloc (by simp) _,by simp⟩
theorem qpu (x:LvIn) (l1 u1 l2 u2:Nat) (v1 v2:Value) (w:World) (hs:x.size<=1048576) (o1:qb6 w l1 u1 x v1) (o2:qb6 w l2 u2 x v2):
  Calls Tryz.prog 10 #[v1,v2] w fun e w'=>e=.returned (.bool true)/\Below w.heap.size w w':=by
 have hz1:x.s.size<=1048576:=by unfold LvIn.size at hs;omega
 have hz2:x.h.size<=1048576:=by unfold LvIn.size at hs;omega
 obtain ⟨D1,D2,D3,D4,E1,E2,E3,m1,rfl,s1,h1⟩:=o1;obtain ⟨F1,F2,F3,F4,G1,G2,G3,m2,rfl,s2,h2⟩:=o2;have S1:Hid (qcf w l1 m1 x.s (sysV (some ⟨D1,0,none⟩) x.s.pn x.s.pn (some ⟨D2,0,none⟩) x.s.sn x.s.sn (some ⟨D3,0,none⟩) x.s.wn x.s.wn (some ⟨D4,0,none⟩) x.s.hn x.s.hn)):=s1;have S2:Hid (qcf w l2 m2 x.s (sysV (some ⟨F1,0,none⟩) x.s.pn x.s.pn (some ⟨F2,0,none⟩) x.s.sn x.s.sn (some ⟨F3,0,none⟩) x.s.wn x.s.wn (some ⟨F4,0,none⟩) x.s.hn x.s.hn)):=s2;have H1:Hid (IsSh w m1 u1 x.h (shV x.h.on (some ⟨E1,0,none⟩) x.h.cn x.h.cn (some ⟨E2,0,none⟩) x.h.ol x.h.ol (some ⟨E3,0,none⟩) x.h.kn x.h.kn)):=h1;have H2:Hid (IsSh w m2 u2 x.h (shV x.h.on (some ⟨G1,0,none⟩) x.h.cn x.h.cn (some ⟨G2,0,none⟩) x.h.ol x.h.ol (some ⟨G3,0,none⟩) x.h.kn x.h.kn)):=h2;clear s1 s2 h1 h2 hs
 go_enter Tryz.func10,Tryz.ntmps10
 have X0:Hid (B88 w ((w.alloc (oQ7 (some ⟨D1,0,none⟩) x.s.pn x.s.pn (some ⟨D2,0,none⟩) x.s.sn x.s.sn (some ⟨D3,0,none⟩) x.s.wn x.s.wn (some ⟨D4,0,none⟩) x.s.hn x.s.hn x.h.on (some ⟨E1,0,none⟩) x.h.cn x.h.cn (some ⟨E2,0,none⟩) x.h.ol x.h.ol (some ⟨E3,0,none⟩) x.h.kn x.h.kn)).alloc (oQ7 (some ⟨F1,0,none⟩) x.s.pn x.s.pn (some ⟨F2,0,none⟩) x.s.sn x.s.sn (some ⟨F3,0,none⟩) x.s.wn x.s.wn (some ⟨F4,0,none⟩) x.s.hn x.s.hn x.h.on (some ⟨G1,0,none⟩) x.h.cn x.h.cn (some ⟨G2,0,none⟩) x.h.ol x.h.ol (some ⟨G3,0,none⟩) x.h.kn x.h.kn)) (v8 (.slice (some ⟨D1,0,none⟩) x.s.pn x.s.pn) (.slice (some ⟨D2,0,none⟩) x.s.sn x.s.sn) (.slice (some ⟨D3,0,none⟩) x.s.wn x.s.wn) (.slice (some ⟨D4,0,none⟩) x.s.hn x.s.hn) (.bool x.h.on) (.slice (some ⟨E1,0,none⟩) x.h.cn x.h.cn) (.slice (some ⟨E2,0,none⟩) x.h.ol x.h.ol) (.slice (some ⟨E3,0,none⟩) x.h.kn x.h.kn)) (v8 (.slice (some ⟨F1,0,none⟩) x.s.pn x.s.pn) (.slice (some ⟨F2,0,none⟩) x.s.sn x.s.sn) (.slice (some ⟨F3,0,none⟩) x.s.wn x.s.wn) (.slice (some ⟨F4,0,none⟩) x.s.hn x.s.hn) (.bool x.h.on) (.slice (some ⟨G1,0,none⟩) x.h.cn x.h.cn) (.slice (some ⟨G2,0,none⟩) x.h.ol x.h.ol) (.slice (some ⟨G3,0,none⟩) x.h.kn x.h.kn))):=B88.new _ _ _ _ _ _ _ _ _ _ _ _ _ _ _ _ _ _;go_wp2_with fail
 generalize (w.alloc (oQ7 (some ⟨D1,0,none⟩) x.s.pn x.s.pn (some ⟨D2,0,none⟩) x.s.sn x.s.sn (some ⟨D3,0,none⟩) x.s.wn x.s.wn (some ⟨D4,0,none⟩) x.s.hn x.s.hn x.h.on (some ⟨E1,0,none⟩) x.h.cn x.h.cn (some ⟨E2,0,none⟩) x.h.ol x.h.ol (some ⟨E3,0,none⟩) x.h.kn x.h.kn)).alloc (oQ7 (some ⟨F1,0,none⟩) x.s.pn x.s.pn (some ⟨F2,0,none⟩) x.s.sn x.s.sn (some ⟨F3,0,none⟩) x.s.wn x.s.wn (some ⟨F4,0,none⟩) x.s.hn x.s.hn x.h.on (some ⟨G1,0,none⟩) x.h.cn x.h.cn (some ⟨G2,0,none⟩) x.h.ol x.h.ol (some ⟨G3,0,none⟩) x.h.kn x.h.kn)=wA at *;refine (qst x.s l1 m1 l2 m2 _ _ wA hz1 (S1.out.below X0.out.be S1.out.hi.2) (S2.out.below X0.out.be S2.out.hi.2)).mono ?_;rintro e w1 ⟨rfl,b1⟩;have X1:Hid (B88 w w1 (v8 (.slice (some ⟨D1,0,none⟩) x.s.pn x.s.pn) (.slice (some ⟨D2,0,none⟩) x.s.sn x.s.sn) (.slice (some ⟨D3,0,none⟩) x.s.wn x.s.wn) (.slice (some ⟨D4,0,none⟩) x.s.hn x.s.hn) (.bool x.h.on) (.slice (some ⟨E1,0,none⟩) x.h.cn x.h.cn) (.slice (some ⟨E2,0,none⟩) x.h.ol x.h.ol) (.slice (some ⟨E3,0,none⟩) x.h.kn x.h.kn)) (v8 (.slice (some ⟨F1,0,none⟩) x.s.pn x.s.pn) (.slice (some ⟨F2,0,none⟩) x.s.sn x.s.sn) (.slice (some ⟨F3,0,none⟩) x.s.wn x.s.wn) (.slice (some ⟨F4,0,none⟩) x.s.hn x.s.hn) (.bool x.h.on) (.slice (some ⟨G1,0,none⟩) x.h.cn x.h.cn) (.slice (some ⟨G2,0,none⟩) x.h.ol x.h.ol) (.slice (some ⟨G3,0,none⟩) x.h.kn x.h.kn))):=X0.out.below b1;clear b1 X0;have p4:=X1.out.p 4 (by omega);have p5:=X1.out.p 5 (by omega);have p6:=X1.out.p 6 (by omega);have p7:=X1.out.p 7 (by omega);have q4:=X1.out.q 4 (by omega)
 have q5:=X1.out.q 5 (by omega);have q6:=X1.out.q 6 (by omega);have q7:=X1.out.q 7 (by omega);simp only [v8] at p4 p5 p6 p7 q4 q5 q6 q7;go_wp2_with fail
 clear p4 p5 p6 p7 q4 q5 q6 q7;refine (qpv x.h m1 u1 m2 u2 _ _ w1 hz2 (H1.out.below X1.out.be H1.out.hi.2) (H2.out.below X1.out.be H2.out.hi.2)).mono ?_;rintro e w2 ⟨rfl,b2⟩;have BE:Hid (Below w.heap.size w w2):=X1.out.be.trans (b2.mono X1.out.be.size);clear b2 X1;go_wp2;go_ret;exact ⟨rfl,BE.out⟩
theorem qnx (x:ShIn) (lo hi:Nat) (v:Value) (k:Int) (w:World) (hs:x.size<=1048576) (k0:0<=k) (k1:k<=30000000) (o:IsSh w lo hi x v):
  Calls Tryz.prog 35 #[v,.int .i64 k] w fun e w'=>(∃ z:Int,e=.returned (.int .i64 z)/\¬ z<0)/\qaa (fun b=>lo<=b/\b<hi) w w':=by
 obtain ⟨E1,E2,E3,bs,o⟩:=o;have HL:Hid (x.cn<=1048576/\x.ol<=1048576/\x.kn<=1048576/\sumL x.kL x.kn<=1048576):=ShIn.lens hs;have Y:Hid (lo<=E1/\E1<E2/\E2<E3/\E3<hi/\hi<=w.heap.size):=⟨o.lo,o.o1,o.o2,o.kk.lt,o.kk.le⟩
 have R1:Hid (qcr w E1 x.cn):=qcr.of_z o.cc o.cf;have R2:Hid (qcr w E2 x.ol):=qcr.of_b o.oo o.fo;have R3:Hid (qbo w E3 hi x.kn x.kL bs x.kH):=o.kk;obtain ⟨rfl,-,-,-,-,-,-,-,-⟩:=o;clear hs;have X0:Hid (qaa (fun b=>lo<=b/\b<hi) w (w.alloc (oQ6 x.on (some ⟨E1,0,none⟩) x.cn x.cn (some ⟨E2,0,none⟩) x.ol x.ol (some ⟨E3,0,none⟩) x.kn x.kn))/\BoxC (w.alloc (oQ6 x.on (some ⟨E1,0,none⟩) x.cn x.cn (some ⟨E2,0,none⟩) x.ol x.ol (some ⟨E3,0,none⟩) x.kn x.kn)) w.heap.size (.bool x.on) (.slice (some ⟨E1,0,none⟩) x.cn x.cn) (.slice (some ⟨E2,0,none⟩) x.ol x.ol) (.slice (some ⟨E3,0,none⟩) x.kn x.kn)/\w.heap.size<(w.alloc (oQ6 x.on (some ⟨E1,0,none⟩) x.cn x.cn (some ⟨E2,0,none⟩) x.ol x.ol (some ⟨E3,0,none⟩) x.kn x.kn)).heap.size/\Below w.heap.size w (w.alloc (oQ6 x.on (some ⟨E1,0,none⟩) x.cn x.cn (some ⟨E2,0,none⟩) x.ol x.ol (some ⟨E3,0,none⟩) x.kn x.kn))):=⟨qaa.of_below (qad _ _),BoxC.new w _ _ _ _ _,by simp,qad _ _⟩
 go_enter Tryz.func35,Tryz.ntmps35
 go_wp2_with fail
 generalize w.alloc (oQ6 x.on (some ⟨E1,0,none⟩) x.cn x.cn (some ⟨E2,0,none⟩) x.ol x.ol (some ⟨E3,0,none⟩) x.kn x.kn)=wA at *;have rm:∀ {b n:Nat},b<w.heap.size->qcr w b n->qcr wA b n:=fun {b n} hb h=>⟨fun i hi=>(h.1 i hi).elim fun u e=>⟨u,(X0.2.2.2.cell (p:=⟨b,i,none⟩) hb).trans e⟩,fun j=>(qdb X0.2.2.2 hb j).trans (h.2 j)⟩
 have RA1:Hid (qcr wA E1 x.cn):=rm (by have:=Y.out;omega) R1.out;have RA2:Hid (qcr wA E2 x.ol):=rm (by have:=Y.out;omega) R2.out;have RA3:Hid (qbo wA E3 hi x.kn x.kL bs x.kH):=R3.out.below X0.2.2.2 (by have:=Y.out;omega);clear rm R1 R2 R3;refine (qfm E1 x.cn x.cn k wA HL.1 k0 (by omega) RA1.out).mono ?_;rintro e w1 ⟨rfl,g1⟩;have t1:qaa (fun b=>lo<=b/\b<hi) wA w1:=qaa.of_grown g1 fun b e=>by have:=Y.out;injection e;omega
 have X1:Hid (qaa (fun b=>lo<=b/\b<hi) w w1/\BoxC w1 w.heap.size (.bool x.on) (.slice (some ⟨E1,0,none⟩) x.cn x.cn) (.slice (some ⟨E2,0,none⟩) x.ol x.ol) (.slice (some ⟨E3,0,none⟩) x.kn x.kn)/\w.heap.size<w1.heap.size):=by
  refine ⟨X0.1.trans t1,?_,zL X0.2.2.1 g1.size⟩;obtain ⟨h0,h1,h2,h3⟩:=X0.2.1;have hc:∀ i,w1.cell? ⟨w.heap.size,i,none⟩=wA.cell? ⟨w.heap.size,i,none⟩:=fun i=>zH (g1.block w.heap.size X0.2.2.1 (fun e=>by have:=Y.out;injection e;omega));exact ⟨(hc _).trans h0,(hc _).trans h1,(hc _).trans h2,(hc _).trans h3⟩
 have RB2:Hid (qcr w1 E2 x.ol):=by
  have hb:w1.heap[E2]? = wA.heap[E2]?:=g1.block E2 (by have:=Y.out;have:=X0.2.2.1;omega) (fun e=>by have:=Y.out;injection e;omega);exact ⟨fun i hi=>(RA2.1 i hi).elim fun u e=>⟨u,(zH hb).trans e⟩,fun i=>(zI hb).trans (RA2.2 i)⟩
 have RB3:Hid (qbo w1 E3 hi x.kn x.kL bs x.kH):=RA3.out.keep g1.size fun b h1 h2=>g1.block b (by have:=Y.out;have:=X0.2.2.1;omega) (fun e=>by have:=Y.out;injection e;omega);clear t1 g1 X0 RA1 RA2 RA3;generalize e1:k+(x.cn:Int)=K1
 have HK1:Hid (0<=K1/\K1<=40000000):=by
  show 0<=K1/\K1<=40000000;have:=HL.out;omega
 clear e1 k0 k1;obtain ⟨-,⟨p0,p1,p2,p3⟩,lt⟩:=X1.out;go_wp2_with fail
 clear p0 p1 p2 p3 lt;refine (qjk E2 x.ol x.ol K1 w1 HL.2.1 HK1.1 (by have:=HK1.out;omega) RB2.out).mono ?_;rintro e w2 ⟨rfl,g2⟩;have t2:qaa (fun b=>lo<=b/\b<hi) w1 w2:=qaa.of_grown g2 fun b e=>by have:=Y.out;injection e;omega
 have X2:Hid (qaa (fun b=>lo<=b/\b<hi) w w2/\BoxC w2 w.heap.size (.bool x.on) (.slice (some ⟨E1,0,none⟩) x.cn x.cn) (.slice (some ⟨E2,0,none⟩) x.ol x.ol) (.slice (some ⟨E3,0,none⟩) x.kn x.kn)/\w.heap.size<w2.heap.size):=by
  refine ⟨X1.1.trans t2,?_,zL X1.2.2 g2.size⟩;obtain ⟨h0,h1,h2,h3⟩:=X1.2.1;have hc:∀ i,w2.cell? ⟨w.heap.size,i,none⟩=w1.cell? ⟨w.heap.size,i,none⟩:=fun i=>zH (g2.block w.heap.size X1.2.2 (fun e=>by have:=Y.out;injection e;omega));exact ⟨(hc _).trans h0,(hc _).trans h1,(hc _).trans h2,(hc _).trans h3⟩
 have RC3:Hid (qbo w2 E3 hi x.kn x.kL bs x.kH):=RB3.out.keep g2.size fun b h1 h2=>g2.block b (by have:=Y.out;have:=X1.2.2;omega) (fun e=>by have:=Y.out;injection e;omega);clear t2 g2 X1 RB2 RB3;generalize e2:K1+(x.ol:Int)=K2
 have HK2:Hid (0<=K2/\K2<=45000000):=by
  show 0<=K2/\K2<=45000000;have:=HL.out;have:=HK1.out;omega
 clear e2 HK1;obtain ⟨-,⟨p0,p1,p2,p3⟩,lt⟩:=X2.out;go_wp2_with fail
 clear p0 p1 p2 p3 lt;refine (qli E3 hi x.kn x.kn x.kL bs x.kH K2 w2 HL.2.2.1 HL.2.2.2 HK2.1 (by have:=HK2.out;omega) RC3.out).mono ?_;rintro e w3 ⟨rfl,t3⟩;have X3:Hid (qaa (fun b=>lo<=b/\b<hi) w w3):=X2.1.trans (t3.mono fun b hb=>by have:=Y.out;omega)
 have HZ:Hid (¬ K2+(sumL x.kL x.kn:Nat)<0):=by
  show ¬ K2+(sumL x.kL x.kn:Nat)<0;have:=HK2.out;omega
 generalize K2+(sumL x.kL x.kn:Nat)=Z4 at *;clear t3 X2 RC3 HK2;go_wp2;go_ret;exact ⟨⟨_,rfl,HZ.out⟩,X3.out⟩
theorem qnw (x:LvIn) (lo hi:Nat) (v:Value) (w:World) (hs:x.size<=1048576) (o:qb6 w lo hi x v):
  Calls Tryz.prog 11 #[v,.int .i64 1] w fun e w'=>(∃ z:Int,e=.returned (.int .i64 z)/\¬ z<0)/\qaa (fun b=>lo<=b/\b<hi) w w':=by
 have hz1:x.s.size<=1048576:=by unfold LvIn.size at hs;omega
 have hz2:x.h.size<=1048576:=by unfold LvIn.size at hs;omega
 obtain ⟨D1,D2,D3,D4,E1,E2,E3,m,rfl,s1,h1⟩:=o;have Y:Hid (lo<m/\m<hi/\hi<=w.heap.size):=⟨s1.hi.1,h1.hi.1,h1.hi.2⟩
 have S1:Hid (qcf w lo m x.s (sysV (some ⟨D1,0,none⟩) x.s.pn x.s.pn (some ⟨D2,0,none⟩) x.s.sn x.s.sn (some ⟨D3,0,none⟩) x.s.wn x.s.wn (some ⟨D4,0,none⟩) x.s.hn x.s.hn)):=s1;have H1:Hid (IsSh w m hi x.h (shV x.h.on (some ⟨E1,0,none⟩) x.h.cn x.h.cn (some ⟨E2,0,none⟩) x.h.ol x.h.ol (some ⟨E3,0,none⟩) x.h.kn x.h.kn)):=h1;clear s1 h1 hs;have X0:Hid (Below w.heap.size w (w.alloc (oQ7 (some ⟨D1,0,none⟩) x.s.pn x.s.pn (some ⟨D2,0,none⟩) x.s.sn x.s.sn (some ⟨D3,0,none⟩) x.s.wn x.s.wn (some ⟨D4,0,none⟩) x.s.hn x.s.hn x.h.on (some ⟨E1,0,none⟩) x.h.cn x.h.cn (some ⟨E2,0,none⟩) x.h.ol x.h.ol (some ⟨E3,0,none⟩) x.h.kn x.h.kn))/\BoxH (w.alloc (oQ7 (some ⟨D1,0,none⟩) x.s.pn x.s.pn (some ⟨D2,0,none⟩) x.s.sn x.s.sn (some ⟨D3,0,none⟩) x.s.wn x.s.wn (some ⟨D4,0,none⟩) x.s.hn x.s.hn x.h.on (some ⟨E1,0,none⟩) x.h.cn x.h.cn (some ⟨E2,0,none⟩) x.h.ol x.h.ol (some ⟨E3,0,none⟩) x.h.kn x.h.kn)) w.heap.size (.slice (some ⟨D1,0,none⟩) x.s.pn x.s.pn) (.slice (some ⟨D2,0,none⟩) x.s.sn x.s.sn) (.slice (some ⟨D3,0,none⟩) x.s.wn x.s.wn) (.slice (some ⟨D4,0,none⟩) x.s.hn x.s.hn) (.bool x.h.on) (.slice (some ⟨E1,0,none⟩) x.h.cn x.h.cn) (.slice (some ⟨E2,0,none⟩) x.h.ol x.h.ol) (.slice (some ⟨E3,0,none⟩) x.h.kn x.h.kn)):=⟨qad _ _,BoxH.new _ _ _ _ _ _ _ _ _ _⟩
 go_enter Tryz.func11,Tryz.ntmps11
 go_wp2_with fail
 generalize w.alloc (oQ7 (some ⟨D1,0,none⟩) x.s.pn x.s.pn (some ⟨D2,0,none⟩) x.s.sn x.s.sn (some ⟨D3,0,none⟩) x.s.wn x.s.wn (some ⟨D4,0,none⟩) x.s.hn x.s.hn x.h.on (some ⟨E1,0,none⟩) x.h.cn x.h.cn (some ⟨E2,0,none⟩) x.h.ol x.h.ol (some ⟨E3,0,none⟩) x.h.kn x.h.kn)=wA at *;refine (qte x.s lo m _ wA hz1 (S1.out.below X0.1 (by have:=Y.out;omega))).mono ?_;rintro e w1 ⟨⟨z,rfl,hz0,hz9⟩,t1⟩;have X1:Hid (qaa (fun b=>lo<=b/\b<hi) w w1/\BoxH w1 w.heap.size (.slice (some ⟨D1,0,none⟩) x.s.pn x.s.pn) (.slice (some ⟨D2,0,none⟩) x.s.sn x.s.sn) (.slice (some ⟨D3,0,none⟩) x.s.wn x.s.wn) (.slice (some ⟨D4,0,none⟩) x.s.hn x.s.hn) (.bool x.h.on) (.slice (some ⟨E1,0,none⟩) x.h.cn x.h.cn) (.slice (some ⟨E2,0,none⟩) x.h.ol x.h.ol) (.slice (some ⟨E3,0,none⟩) x.h.kn x.h.kn)/\w.heap.size<w1.heap.size):=⟨(qaa.of_below X0.1).trans (t1.mono fun b hb=>by have:=Y.out;omega),X0.2.blk (t1.block _ X0.2.lt (fun e=>by have:=Y.out;omega)),zL X0.2.lt t1.size⟩
 have H2:Hid (IsSh w1 m hi x.h (shV x.h.on (some ⟨E1,0,none⟩) x.h.cn x.h.cn (some ⟨E2,0,none⟩) x.h.ol x.h.ol (some ⟨E3,0,none⟩) x.h.kn x.h.kn)):=(H1.out.below X0.1 (by have:=Y.out;omega)).keep t1.size fun b h1 h2=>t1.block b (by have:=X0.2.lt;have:=Y.out;omega) (fun e=>by omega);have HZ:Hid (0<=z/\z<=30000000):=⟨by omega,hz9⟩
 clear t1 X0 H1 S1 hz0 hz9;obtain ⟨-,⟨p0,p1,p2,p3,p4,p5,p6,p7⟩,lt⟩:=X1.out;go_wp2_with fail
 clear p0 p1 p2 p3 p4 p5 p6 p7 lt;refine (qnx x.h m hi _ z w1 hz2 HZ.1 HZ.2 H2.out).mono ?_;rintro e w2 ⟨⟨z2,rfl,hz2'⟩,t2⟩;have X2:Hid (qaa (fun b=>lo<=b/\b<hi) w w2/\¬ z2<0):=⟨X1.1.trans (t2.mono fun b hb=>by have:=Y.out;omega),hz2'⟩
 clear t2 X1 H2 hz2' HZ;go_wp2;go_ret;exact ⟨⟨_,rfl,X2.2⟩,X2.1⟩
theorem qu9 {H:Type} {enc:TypeId × Value->H} {w:World} {base:Nat} {held:Bool} {fuel:Nat} {c0 c1 c2 c3:Value} {dp:DataW H × List MemPlace}
  (hf':DataW.trod enc Tryz.prog w base (fun _=>true) held fuel 27 [c0,c1,c2,c3]=some dp):
  ∃ x:SysIn,Value.agg #[c0,c1,c2,c3]=sysV x.pa x.pn x.pc x.sa x.sn x.sc x.wa x.wn x.wc x.ha x.hn x.hc/\x.Row w/\x.Max/\(x.size<=1048576->∃ y:SysIn,Value.agg #[c0,c1,c2,c3]=sysV y.pa y.pn y.pc y.sa y.sn y.sc y.wa y.wn y.wc y.ha y.hn y.hc/\y.Ok w/\y.size=x.size):=by
 obtain ⟨xs,m,-,-,-,hl,hx⟩:=DataW.trod_struct Tryz.underlying27 hf';have hl:xs.length=4:=hl;have k0:Tryz.prog.cellsOf 22=1:=by kernel_rfl
 have k1:Tryz.prog.cellsOf 23=1:=by kernel_rfl
 have k2:Tryz.prog.cellsOf 24=1:=by kernel_rfl
 have k3:Tryz.prog.cellsOf 25=1:=by kernel_rfl
 have q0:DataW.trod enc Tryz.prog w base (fun _=>true) held m 22 [c0]=xs[0]?:=by simpa [k0] using hx 0 _ rfl
 have q1:DataW.trod enc Tryz.prog w base (fun _=>true) held m 23 [c1]=xs[1]?:=by simpa [k1] using hx 1 _ rfl
 have q2:DataW.trod enc Tryz.prog w base (fun _=>true) held m 24 [c2]=xs[2]?:=by simpa [k2] using hx 2 _ rfl
 have q3:DataW.trod enc Tryz.prog w base (fun _=>true) held m 25 [c3]=xs[3]?:=by simpa [k3] using hx 3 _ rfl
 rw [List.getElem?_eq_getElem (by omega)] at q0 q1 q2 q3
 have sl:∀ {t el:TypeId} {c:Value} {y:DataW H × List MemPlace},Tryz.prog.underlying t=some (.slice el)->DataW.trod enc Tryz.prog w base (fun _=>true) held m t [c]=some y->∃ a l k,c=.slice a l k:=by
  intro t el c y hu hy
  rcases Go.Deep.open_slice hu hy with ⟨hcs,_⟩ | ⟨a,len',cap',m,n,D,Pl,hcs,_⟩
  ·simp at hcs
   exact ⟨_,_,_,hcs⟩
  ·simp at hcs
   exact ⟨_,_,_,hcs⟩
 obtain ⟨pa,pn,pc,rfl⟩:=sl Tryz.underlying22 q0;obtain ⟨sa,sn,sc,rfl⟩:=sl Tryz.underlying23 q1;obtain ⟨wa,wn,wc,rfl⟩:=sl Tryz.underlying24 q2;obtain ⟨ha,hn,hc,rfl⟩:=sl Tryz.underlying25 q3;obtain ⟨m0,pA,pL,pC,r0,x0,g0⟩:=qti (d:=(xs[0]'(by omega)).1) (p:=(xs[0]'(by omega)).2) ⟨m,by simpa [Value.cells] using q0⟩;obtain ⟨m1,sQ,r1,x1⟩:=qqg (d:=(xs[1]'(by omega)).1) (p:=(xs[1]'(by omega)).2) ⟨m,by simpa [Value.cells] using q1⟩;obtain ⟨m2,wA,wL,wC,r2,x2,g2⟩:=qqf (d:=(xs[2]'(by omega)).1) (p:=(xs[2]'(by omega)).2) ⟨m,by simpa [Value.cells] using q2⟩;obtain ⟨m3,hA,hL,hC,r3,x3,g3⟩:=qn1 (d:=(xs[3]'(by omega)).1) (p:=(xs[3]'(by omega)).2) ⟨m,by simpa [Value.cells] using q3⟩;refine ⟨⟨pa,pn,pc,pA,pL,pC,fun _ _=>⟨0,0,0,0,0⟩,sa,sn,sc,sQ,wa,wn,wc,wA,wL,wC,fun _ _=>⟨false,0⟩,ha,hn,hc,hA,hL,hC,fun _ _=>⟨0,0,0⟩⟩,rfl,⟨r0,r1,r2,r3⟩,⟨⟨m0,x0⟩,⟨m1,x1⟩,⟨m2,x2⟩,⟨m3,x3⟩⟩,fun hs=>?_⟩;have hl:=SysIn.lens hs;obtain ⟨pH,a0⟩:=g0 (qc3 hl.1.2);obtain ⟨wH,a2⟩:=g2 (qc3 hl.2.2.1.2);obtain ⟨hH,a3⟩:=g3 (qc3 hl.2.2.2.2);exact ⟨⟨pa,pn,pc,pA,pL,pC,pH,sa,sn,sc,sQ,wa,wn,wc,wA,wL,wC,wH,ha,hn,hc,hA,hL,hC,hH⟩,rfl,⟨a0,r1,a2,a3⟩,rfl⟩
theorem qtm {H:Type} {enc:TypeId × Value->H} {w:World} {base:Nat} {held:Bool} {fuel:Nat} {c0 c1 c2 c3:Value} {dp:DataW H × List MemPlace}
  (hf':DataW.trod enc Tryz.prog w base (fun _=>true) held fuel 32 [c0,c1,c2,c3]=some dp):
  ∃ x:ShIn,Value.agg #[c0,c1,c2,c3]=shV x.on x.ca x.cn x.cc x.oa x.ol x.oc x.ka x.kn x.kc/\x.Row w/\x.Max/\(x.size<=1048576->∃ y:ShIn,Value.agg #[c0,c1,c2,c3]=shV y.on y.ca y.cn y.cc y.oa y.ol y.oc y.ka y.kn y.kc/\y.Ok w/\y.size=x.size):=by
 obtain ⟨xs,m,-,-,-,hl,hx⟩:=DataW.trod_struct Tryz.underlying32 hf';have hl:xs.length=4:=hl;have k0:Tryz.prog.cellsOf 4=1:=by kernel_rfl
 have k1:Tryz.prog.cellsOf 28=1:=by kernel_rfl
 have k2:Tryz.prog.cellsOf 29=1:=by kernel_rfl
 have k3:Tryz.prog.cellsOf 30=1:=by kernel_rfl
 have q0:DataW.trod enc Tryz.prog w base (fun _=>true) held m 4 [c0]=xs[0]?:=by simpa [k0] using hx 0 _ rfl
 have q1:DataW.trod enc Tryz.prog w base (fun _=>true) held m 28 [c1]=xs[1]?:=by simpa [k0,k1] using hx 1 _ rfl
 have q2:DataW.trod enc Tryz.prog w base (fun _=>true) held m 29 [c2]=xs[2]?:=by simpa [k0,k1,k2] using hx 2 _ rfl
 have q3:DataW.trod enc Tryz.prog w base (fun _=>true) held m 30 [c3]=xs[3]?:=by simpa [k0,k1,k2,k3] using hx 3 _ rfl
 rw [List.getElem?_eq_getElem (by omega)] at q0 q1 q2 q3
 have sl:∀ {t el:TypeId} {c:Value} {y:DataW H × List MemPlace},Tryz.prog.underlying t=some (.slice el)->DataW.trod enc Tryz.prog w base (fun _=>true) held m t [c]=some y->∃ a l k,c=.slice a l k:=by
  intro t el c y hu hy
  rcases Go.Deep.open_slice hu hy with ⟨hcs,_⟩ | ⟨a,len',cap',m,n,D,Pl,hcs,_⟩
  ·simp at hcs
   exact ⟨_,_,_,hcs⟩
  ·simp at hcs
   exact ⟨_,_,_,hcs⟩
 obtain ⟨on,e0,-⟩:=DataW.trod_bool Tryz.underlying4 q0;simp only [List.cons.injEq,and_true] at e0;subst e0;obtain ⟨ca,cn,cc,rfl⟩:=sl Tryz.underlying28 q1;obtain ⟨oa,ol,oc,rfl⟩:=sl Tryz.underlying29 q2;obtain ⟨ka,kn,kc,rfl⟩:=sl Tryz.underlying30 q3;obtain ⟨m1,r1⟩:=qn4 (d:=(xs[1]'(by omega)).1) (p:=(xs[1]'(by omega)).2) ⟨m,by simpa [Value.cells] using q1⟩;obtain ⟨m2,r2⟩:=qu7 (d:=(xs[2]'(by omega)).1) (p:=(xs[2]'(by omega)).2) ⟨m,by simpa [Value.cells] using q2⟩;obtain ⟨m3,kA,kL,kC,r3,x3,g3⟩:=qtj (d:=(xs[3]'(by omega)).1) (p:=(xs[3]'(by omega)).2) ⟨m,by simpa [Value.cells] using q3⟩;refine ⟨⟨on,ca,cn,cc,fun _=>0,oa,ol,oc,fun _=>false,ka,kn,kc,kA,kL,kC,fun _ _=>0⟩,rfl,r3,⟨m1,m2,⟨m3,x3⟩⟩,fun hs=>?_⟩;have hl:=ShIn.lens hs;obtain ⟨cH,a1⟩:=qjz (cap:=cc) hl.1 r1;obtain ⟨oH,a2⟩:=qsj (cap:=oc) hl.2.1 r2;obtain ⟨kH,a3⟩:=g3 (qc3 hl.2.2.2);exact ⟨⟨on,ca,cn,cc,cH,oa,ol,oc,oH,ka,kn,kc,kA,kL,kC,kH⟩,rfl,⟨a1,a2,a3⟩,rfl⟩
theorem qyl {α:Type} {a:Array α} (h:a.size=8):∃ c0 c1 c2 c3 c4 c5 c6 c7,a=#[c0,c1,c2,c3,c4,c5,c6,c7]:=by
 obtain ⟨l⟩:=a;simp at h
 match l,h with
 | [c0,c1,c2,c3,c4,c5,c6,c7],_=>exact ⟨c0,c1,c2,c3,c4,c5,c6,c7,rfl⟩
theorem qu8 {H:Type} {enc:TypeId × Value->H} {w:World} {base b0:Nat} {held:Bool} {rc:Reach} {v:Value} {d:DataW H} {p:List MemPlace}
  (hv:Value.okWide Tryz.prog w rc b0 34 v) (h:DataW.Trod enc Tryz.prog w base (fun _=>true) held 34 v d p):
  ∃ x:LvIn,v=x.v/\x.Row w/\x.Max/\(x.size<=1048576->∃ y:LvIn,v=y.v/\y.Ok w/\y.size<=1048576):=by
 obtain ⟨cs,rfl,hsz⟩:=okWide_struct Tryz.underlying34 hv;have h8:Tryz.prog.cellsOf 34=8:=by kernel_rfl
 obtain ⟨c0,c1,c2,c3,c4,c5,c6,c7,rfl⟩:=qyl (hsz.trans h8);obtain ⟨fuel,hf⟩:=h;have hf':DataW.trod enc Tryz.prog w base (fun _=>true) held fuel 34 [c0,c1,c2,c3,c4,c5,c6,c7]=some (d,p):=by simpa [Value.cells] using hf
 obtain ⟨xs,m,-,-,-,hl,hx⟩:=DataW.trod_struct Tryz.underlying34 hf';have hl:xs.length=2:=hl;have k0:Tryz.prog.cellsOf 27=4:=by kernel_rfl
 have k1:Tryz.prog.cellsOf 32=4:=by kernel_rfl
 have q0:DataW.trod enc Tryz.prog w base (fun _=>true) held m 27 [c0,c1,c2,c3]=xs[0]?:=by simpa [k0] using hx 0 _ rfl
 have q1:DataW.trod enc Tryz.prog w base (fun _=>true) held m 32 [c4,c5,c6,c7]=xs[1]?:=by simpa [k0,k1] using hx 1 _ rfl
 rw [List.getElem?_eq_getElem (by omega)] at q0 q1;obtain ⟨x,e1,r1,m1,g1⟩:=qu9 q0;obtain ⟨z,e2,r2,m2,g2⟩:=qtm q1;simp only [Value.agg.injEq,Array.mk.injEq,List.cons.injEq,and_true] at e1 e2;obtain ⟨rfl,rfl,rfl,rfl⟩:=e1;obtain ⟨rfl,rfl,rfl,rfl⟩:=e2;refine ⟨⟨x,z⟩,rfl,⟨r1,r2⟩,⟨m1,m2⟩,fun hs=>?_⟩;have hs':x.size+z.size<=1048576:=hs;obtain ⟨y1,f1,o1,z1⟩:=g1 (by omega);obtain ⟨y2,f2,o2,z2⟩:=g2 (by omega);simp only [Value.agg.injEq,Array.mk.injEq,List.cons.injEq,and_true] at f1 f2;obtain ⟨a1,a2,a3,a4⟩:=f1;obtain ⟨b1,b2,b3,b4⟩:=f2;refine ⟨⟨y1,y2⟩,?_,⟨o1,o2⟩,by show y1.size+y2.size<=1048576;omega⟩;show Value.agg #[.slice x.pa x.pn x.pc,.slice x.sa x.sn x.sc,.slice x.wa x.wn x.wc,.slice x.ha x.hn x.hc,.bool z.on,.slice z.ca z.cn z.cc,.slice z.oa z.ol z.oc,.slice z.ka z.kn z.kc]=.agg #[.slice y1.pa y1.pn y1.pc,.slice y1.sa y1.sn y1.sc,.slice y1.wa y1.wn y1.wc,.slice y1.ha y1.hn y1.hc,.bool y2.on,.slice y2.ca y2.cn y2.cc,.slice y2.oa y2.ol y2.oc,.slice y2.ka y2.kn y2.kc];rw [a1,a2,a3,a4,b1,b2,b3,b4]
