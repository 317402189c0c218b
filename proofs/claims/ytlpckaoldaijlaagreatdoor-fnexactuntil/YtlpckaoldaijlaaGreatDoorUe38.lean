import Derived.Test.YtlpckaoldaijlaaGreatDoorUe0
import Derived.Test.YtlpckaoldaijlaaGreatDoorUe31
import Derived.LaidEql
import Derived.Stop.Asserts
import Derived.RowKitTokens
import Derived.Test.YtlpckaoldaijlaaGreatDoorUe32
import Derived.Test.YtlpckaoldaijlaaGreatDoorUe20
import Derived.Test.YtlpckaoldaijlaaGreatDoorUe37
import Derived.Test.YtlpckaoldaijlaaGreatDoorUe33
namespace Go.Proofs.YtlpckaoldaijlaaGreatDoor
set_option maxRecDepth 100000
set_option maxHeartbeats 2000000
open Go.RowKit Go.Extern.Stop Go.Stop Go.Extern
theorem as_nil (t:Value) (w:World):
  Calls Tryz.prog 197 #[.nilIface,t] w fun e w'=>e=.returned (.bool false)/\w'=w:=by
 go_enter Tryz.func197,Tryz.ntmps197
 go_wp2
 go_ret
 exact ⟨rfl,rfl⟩
theorem valueOfT (t:Addr) (w:World):(ReflectliteValue.unpack (.iface 228 (.pointer (some t)))).run Tryz.prog w
  = .ok (.agg #[.pointer (some ⟨1,228,none⟩),.pointer (some ⟨w.heap.size,0,none⟩),.int .u64 150]) (w.alloc (.cells #[.pointer (some t)] 228)):=by kernel_rfl
theorem typeT (a : Addr) (w : World) : (ReflectliteValue.methodAny (ReflectliteValue.valueError "reflectlite.Value.Type" 0) (fun t _ _ _ => ReflectliteType.toType t) #[.agg #[.pointer (some ⟨1, 228, none⟩), .pointer (some a), .int .u64 150]]).run Tryz.prog w
  = .ok (.iface 294 (.agg #[.pointer (some ⟨1,228,none⟩)])) w:=by kernel_rfl
theorem kindT (w:World):((ReflectliteType.abiMethod fun t=>(fun a:Nat=>Value.int IntKind.u8 (a:Int)) <$> Rtype.kind t) #[.pointer (some ⟨1,228,none⟩)]).run Tryz.prog w=.ok (.int .u8 22) w:=by kernel_rfl
theorem kindE (w:World):((ReflectliteType.abiMethod fun t=>(fun a:Nat=>Value.int IntKind.u8 (a:Int)) <$> Rtype.kind t) #[.pointer (some ⟨1,221,none⟩)]).run Tryz.prog w=.ok (.int .u8 25) w:=by kernel_rfl
theorem rlm (z:Sem Value) (f:TypeId->Addr->Nat->Nat->Sem Value) (v:Value):
  ReflectliteValue.method z f #[v]=(do match <- ReflectliteValue.parts v with | none=>z | some (t,a,fl)=>f t a fl (fl % 32)):=rfl
theorem partsT (a:Addr) (w:World):(ReflectliteValue.parts (.agg #[.pointer (some ⟨1,228,none⟩),.pointer (some a),.int .u64 150])).run Tryz.prog w=.ok (some (228,a,150)) w:=by kernel_rfl
theorem isNilT (a p:Addr) (W:World) (ha:W.cell? a=some (.pointer (some p))):
  (ReflectliteValue.method (ReflectliteValue.valueError "reflectlite.Value.IsNil" 0) ReflectliteValue.isNil #[.agg #[.pointer (some ⟨1, 228, none⟩), .pointer (some a), .int .u64 150]]).run Tryz.prog W = .ok (.bool false) W := by
 rw [rlm]
 simp only [Sem.run_bind,partsT,Result.andThen]
 simp [ReflectliteValue.isNil,loadVar,isAgg,underlying,Tryz.underlying228,ha,Result.andThen]
theorem elemT (w:World):(ReflectliteType.method ReflectliteType.elem #[.agg #[.pointer (some ⟨1,228,none⟩)]]).run Tryz.prog w=.ok (.iface 294 (.agg #[.pointer (some ⟨1,221,none⟩)])) w:=by kernel_rfl
theorem implementsE (w : World) : (ReflectliteType.relation "Implements" ReflectliteType.implements_ #[.agg #[.pointer (some ⟨1, 221, none⟩)], .iface 294 (.agg #[.pointer (some ⟨1, 179, none⟩)])]).run Tryz.prog w = .ok (.bool true) w := by kernel_rfl
theorem typeOfE (v:Value) (w:World):(ReflectliteType.typeOf #[.iface 221 v]).run Tryz.prog w=.ok (.iface 294 (.agg #[.pointer (some ⟨1,221,none⟩)])) w:=by kernel_rfl
theorem assignableE (w : World) : (ReflectliteType.relation "AssignableTo" ReflectliteType.assignableTo #[.agg #[.pointer (some ⟨1, 221, none⟩)], .iface 294 (.agg #[.pointer (some ⟨1, 221, none⟩)])]).run Tryz.prog w = .ok (.bool true) w := by kernel_rfl
theorem valueOfE (x:Int) (w:World):(ReflectliteValue.unpack (.iface 221 (.agg #[.int .i64 x]))).run Tryz.prog w
  = .ok (.agg #[.pointer (some ⟨1,221,none⟩),.pointer (some ⟨w.heap.size,0,none⟩),.int .u64 153]) (w.alloc (.cells #[.int .i64 x] 221)):=by kernel_rfl
theorem elemOfT (w:World):(Rtype.elem? 228).run Tryz.prog w=.ok (some 221) w:=by kernel_rfl
theorem mkE (p:Addr) (w:World):(ReflectliteValue.mk 221 p ReflectliteValue.flagAddr).run Tryz.prog w=.ok (.agg #[.pointer (some ⟨1,221,none⟩),.pointer (some p),.int .u64 409]) w:=by kernel_rfl
open Go.ChangeShapes Go.WideShapes Go.ChangeAt Go.RowKit Go.Deep
theorem slice_form {a:Option Addr} {n c m g cap:Nat} (e:Value.slice a n c=.slice (some ⟨g,0,none⟩) m cap):a=some ⟨g,0,none⟩:=by
 simp only [Value.slice.injEq] at e
 exact e.1
theorem eqInsSS_own (v1 v2:Value) (P1 P2:Nat->Prop) (n:Nat) (u1 u2:Nat->Value) (L:Nat->Nat) (H:Nat->Nat->I5) (w:World) (hn:n<=1048576) (hl:∀ i,i<n->L i<=1048576) (o1:LI true w P1 v1 n u1 L H) (o2:LI true w P2 v2 n u2 L H):
  Calls Tryz.prog 68 #[v1,v2] w fun e w'=>e=.returned (.bool true)/\Below w.heap.size w w':=by
 have hl':(n:Int)<=1048576:=by omega
 obtain ⟨a1,c1,rfl⟩:=zW o1.row
 obtain ⟨a2,c2,rfl⟩:=zW o2.row
 have O1:Hid (LI true w P1 (.slice a1 n c1) n u1 L H):=o1
 have O2:Hid (LI true w P2 (.slice a2 n c2) n u2 L H):=o2
 have HL:Hid (∀ i,i<n->L i<=1048576):=hl
 clear o1 o2 hl
 go_enter Tryz.func68,Tryz.ntmps68
 go_wp2_with fail
 go_loopw [5] (fun i wr=>∃ k:Nat,k<=n/\i=.int .i64 k/\Below w.heap.size w wr) (fun i _=>n - (intOf i).toNat)
 case atStart=>exact ⟨0,Nat.zero_le _,rfl,Below.refl _ _⟩
 case round=>
  obtain ⟨k,hk,rfl,hbw⟩:=hrel
  have hs:=hbw.size
  by_cases hlt:k<n
  ·have Q1:=O1.out.below hbw
   have Q2:=O2.out.below hbw
   obtain ⟨g1,k1,e1,-,-,ck,-⟩:=Q1.cell hlt
   obtain ⟨g2,k2,e2,-,-,dk,-⟩:=Q2.cell hlt
   obtain rfl:=slice_form e1
   obtain rfl:=slice_form e2
   obtain ⟨b1,m1,f1,l1,i1,-⟩:=atI (Q1.own k hlt) (Q1.nn (nzT _) k hlt)
   obtain ⟨b2,m2,f2,l2,i2,-⟩:=atI (Q2.own k hlt) (Q2.nn (nzT _) k hlt)
   rw [f1] at ck
   rw [f2] at dk
   have I1:Hid (InsAt wr b1 0 (L k) (H k)/\b1<wr.heap.size):=⟨i1,l1⟩
   have I2:Hid (InsAt wr b2 0 (L k) (H k)/\b2<wr.heap.size):=⟨i2,l2⟩
   have hlt':(k:Int)<(n:Int):=by omega
   clear Q1 Q2 e1 e2 f1 f2 i1 i2 l1 l2
   go_wp2_with fail
   first|(go_region_with (go_at_call 118;refine (eqInsS_same b1 b2 (L k) m1 m2 (H k) wr.drew (HL.out k hlt) I1.out.2 I2.out.2 I1.out.1 I2.out.1).mono ?_;rintro e w1 ⟨rfl,hq1⟩)) | fail
   all_goals
    go_wp2
    go_roundw
    case rel=>exact ⟨k+1,by omega,by go_num,hbw.drew.trans (hq1.mono hs)⟩
    case measure=>simp [intOf];omega
  ·go_wp2
   go_ret
   exact ⟨rfl,hbw⟩
theorem eqItemSS_own (v1 v2:Value) (P1 P2:Nat->Prop) (n:Nat) (u1 u2:Nat->Value) (L:Nat->Nat) (H:Nat->Nat->I2) (w:World) (hn:n<=1048576) (hl:∀ i,i<n->L i<=1048576) (o1:LT true w P1 v1 n u1 L H) (o2:LT true w P2 v2 n u2 L H):
  Calls Tryz.prog 70 #[v1,v2] w fun e w'=>e=.returned (.bool true)/\Below w.heap.size w w':=by
 have hl':(n:Int)<=1048576:=by omega
 obtain ⟨a1,c1,rfl⟩:=zW o1.row
 obtain ⟨a2,c2,rfl⟩:=zW o2.row
 have O1:Hid (LT true w P1 (.slice a1 n c1) n u1 L H):=o1
 have O2:Hid (LT true w P2 (.slice a2 n c2) n u2 L H):=o2
 have HL:Hid (∀ i,i<n->L i<=1048576):=hl
 clear o1 o2 hl
 go_enter Tryz.func70,Tryz.ntmps70
 go_wp2_with fail
 go_loopw [5] (fun i wr=>∃ k:Nat,k<=n/\i=.int .i64 k/\Below w.heap.size w wr) (fun i _=>n - (intOf i).toNat)
 case atStart=>exact ⟨0,Nat.zero_le _,rfl,Below.refl _ _⟩
 case round=>
  obtain ⟨k,hk,rfl,hbw⟩:=hrel
  have hs:=hbw.size
  by_cases hlt:k<n
  ·have Q1:=O1.out.below hbw
   have Q2:=O2.out.below hbw
   obtain ⟨g1,k1,e1,-,-,ck,-⟩:=Q1.cell hlt
   obtain ⟨g2,k2,e2,-,-,dk,-⟩:=Q2.cell hlt
   obtain rfl:=slice_form e1
   obtain rfl:=slice_form e2
   obtain ⟨b1,m1,f1,l1,i1,-⟩:=atT (Q1.own k hlt) (Q1.nn (nzT _) k hlt)
   obtain ⟨b2,m2,f2,l2,i2,-⟩:=atT (Q2.own k hlt) (Q2.nn (nzT _) k hlt)
   rw [f1] at ck
   rw [f2] at dk
   have I1:Hid (ItAt wr b1 0 (L k) (H k)/\b1<wr.heap.size):=⟨i1,l1⟩
   have I2:Hid (ItAt wr b2 0 (L k) (H k)/\b2<wr.heap.size):=⟨i2,l2⟩
   have hlt':(k:Int)<(n:Int):=by omega
   clear Q1 Q2 e1 e2 f1 f2 i1 i2 l1 l2
   go_wp2_with fail
   first|(go_region_with (go_at_call 120;refine (eqItemS_same b1 b2 (L k) m1 m2 (H k) wr.drew (HL.out k hlt) I1.out.2 I2.out.2 I1.out.1 I2.out.1).mono ?_;rintro e w1 ⟨rfl,hq1⟩)) | fail
   all_goals
    go_wp2
    go_roundw
    case rel=>exact ⟨k+1,by omega,by go_num,hbw.drew.trans (hq1.mono hs)⟩
    case measure=>simp [intOf];omega
  ·go_wp2
   go_ret
   exact ⟨rfl,hbw⟩
theorem eqEventSS_own (v1 v2:Value) (P1 P2:Nat->Prop) (n:Nat) (u1 u2:Nat->Value) (L:Nat->Nat) (H:Nat->Nat->E3) (w:World) (hn:n<=1048576) (hl:∀ i,i<n->L i<=1048576) (o1:LE true w P1 v1 n u1 L H) (o2:LE true w P2 v2 n u2 L H):
  Calls Tryz.prog 71 #[v1,v2] w fun e w'=>e=.returned (.bool true)/\Below w.heap.size w w':=by
 have hl':(n:Int)<=1048576:=by omega
 obtain ⟨a1,c1,rfl⟩:=zW o1.row
 obtain ⟨a2,c2,rfl⟩:=zW o2.row
 have O1:Hid (LE true w P1 (.slice a1 n c1) n u1 L H):=o1
 have O2:Hid (LE true w P2 (.slice a2 n c2) n u2 L H):=o2
 have HL:Hid (∀ i,i<n->L i<=1048576):=hl
 clear o1 o2 hl
 go_enter Tryz.func71,Tryz.ntmps71
 go_wp2_with fail
 go_loopw [5] (fun i wr=>∃ k:Nat,k<=n/\i=.int .i64 k/\Below w.heap.size w wr) (fun i _=>n - (intOf i).toNat)
 case atStart=>exact ⟨0,Nat.zero_le _,rfl,Below.refl _ _⟩
 case round=>
  obtain ⟨k,hk,rfl,hbw⟩:=hrel
  have hs:=hbw.size
  by_cases hlt:k<n
  ·have Q1:=O1.out.below hbw
   have Q2:=O2.out.below hbw
   obtain ⟨g1,k1,e1,-,-,ck,-⟩:=Q1.cell hlt
   obtain ⟨g2,k2,e2,-,-,dk,-⟩:=Q2.cell hlt
   obtain rfl:=slice_form e1
   obtain rfl:=slice_form e2
   obtain ⟨b1,m1,f1,l1,i1,-⟩:=atE (Q1.own k hlt) (Q1.nn (nzT _) k hlt)
   obtain ⟨b2,m2,f2,l2,i2,-⟩:=atE (Q2.own k hlt) (Q2.nn (nzT _) k hlt)
   rw [f1] at ck
   rw [f2] at dk
   have I1:Hid (EvAt wr b1 0 (L k) (H k)/\b1<wr.heap.size):=⟨i1,l1⟩
   have I2:Hid (EvAt wr b2 0 (L k) (H k)/\b2<wr.heap.size):=⟨i2,l2⟩
   have hlt':(k:Int)<(n:Int):=by omega
   clear Q1 Q2 e1 e2 f1 f2 i1 i2 l1 l2
   go_wp2_with fail
   first|(go_region_with (go_at_call 121;refine (eqEventS_same b1 b2 (L k) m1 m2 (H k) wr.drew (HL.out k hlt) I1.out.2 I2.out.2 I1.out.1 I2.out.1).mono ?_;rintro e w1 ⟨rfl,hq1⟩)) | fail
   all_goals
    go_wp2
    go_roundw
    case rel=>exact ⟨k+1,by omega,by go_num,hbw.drew.trans (hq1.mono hs)⟩
    case measure=>simp [intOf];omega
  ·go_wp2
   go_ret
   exact ⟨rfl,hbw⟩
theorem eqStateS_own (v1 v2:Value) (P1 P2:Nat->Prop) (n:Nat) (u1 u2:Nat->Value) (S:Nat->S4) (w:World) (hn:n<=1048576) (hl:∀ i,i<n->(S i).rs.length<=1048576/\(S i).os.length<=1048576) (o1:LS w P1 v1 n u1 S) (o2:LS w P2 v2 n u2 S):
  Calls Tryz.prog 69 #[v1,v2] w fun e w'=>e=.returned (.bool true)/\Below w.heap.size w w':=by
 have hl':(n:Int)<=1048576:=by omega
 obtain ⟨a1,c1,rfl⟩:=zW o1.row
 obtain ⟨a2,c2,rfl⟩:=zW o2.row
 have O1:Hid (LS w P1 (.slice a1 n c1) n u1 S):=o1
 have O2:Hid (LS w P2 (.slice a2 n c2) n u2 S):=o2
 have HL:Hid (∀ i,i<n->(S i).rs.length<=1048576/\(S i).os.length<=1048576):=hl
 clear o1 o2 hl
 go_enter Tryz.func69,Tryz.ntmps69
 go_wp2_with fail
 go_loopw [5] (fun i wr=>∃ k:Nat,k<=n/\i=.int .i64 k/\Below w.heap.size w wr) (fun i _=>n - (intOf i).toNat)
 case atStart=>exact ⟨0,Nat.zero_le _,rfl,Below.refl _ _⟩
 case round=>
  obtain ⟨k,hk,rfl,hbw⟩:=hrel
  have hs:=hbw.size
  by_cases hlt:k<n
  ·have Q1:=O1.out.below hbw
   have Q2:=O2.out.below hbw
   obtain ⟨g1,k1,e1,-,-,⟨ra,rc,oa,oc,f1,x0,x1,x2,x3⟩,-⟩:=Q1.cell hlt
   obtain ⟨g2,k2,e2,-,-,⟨ra',rc',oa',oc',f2,y0,y1,y2,y3⟩,-⟩:=Q2.cell hlt
   obtain rfl:=slice_form e1
   obtain rfl:=slice_form e2
   have hsl1:Sl wr ra (S k).rs/\Sl wr oa (S k).os:=by
    have h4:=Q1.own k hlt
    rw [f1] at h4
    exact ⟨h4.parts.1.slOf,h4.parts.2.1.slOf⟩
   have hsl2:Sl wr ra' (S k).rs/\Sl wr oa' (S k).os:=by
    have h4:=Q2.own k hlt
    rw [f2] at h4
    exact ⟨h4.parts.1.slOf,h4.parts.2.1.slOf⟩
   have H1:Hid (Sl wr ra (S k).rs/\Sl wr oa (S k).os):=hsl1
   have H2:Hid (Sl wr ra' (S k).rs/\Sl wr oa' (S k).os):=hsl2
   have hlt':(k:Int)<(n:Int):=by omega
   clear hsl1 hsl2 e1 e2 f1 f2 Q1 Q2
   go_wp2_with fail
   first|(go_region_with (go_at_call 119;refine (eqState_same _ _ ra oa ra' oa' rc oc rc' oc' (S k).rs (S k).os wr.drew (HL.out k hlt).1 (HL.out k hlt).2 H1.out.1 H1.out.2 H2.out.1 H2.out.2).mono ?_;rintro e w1 ⟨rfl,hq1⟩)) | fail
   all_goals
    go_wp2
    go_roundw
    case rel=>exact ⟨k+1,by omega,by go_num,hbw.drew.trans (hq1.mono hs)⟩
    case measure=>simp [intOf];omega
  ·go_wp2
   go_ret
   exact ⟨rfl,hbw⟩
structure Sy.Len (y:Sy):Prop where
 p:y.pn<=1048576/\∀ i,i<y.pn->y.pL i<=1048576
 s:y.sn<=1048576/\∀ i,i<y.sn->(y.sS i).rs.length<=1048576/\(y.sS i).os.length<=1048576
 w:y.wn<=1048576/\∀ i,i<y.wn->y.wL i<=1048576
 h:y.hn<=1048576/\∀ i,i<y.hn->y.hL i<=1048576
theorem eqSys_own (y:Sy) (B1 B2:Nat) (v1 v2:Value) (w:World) (hl:y.Len) (o1:OwnSys true w B1 y v1) (o2:OwnSys true w B2 y v2):
  Calls Tryz.prog 25 #[v1,v2] w fun e w'=>e=.returned (.bool true)/\Below w.heap.size w w':=by
 obtain ⟨c,vp,vs,vw,vh,up,us,uw,uh,rfl,o1⟩:=o1
 obtain ⟨d,xp,xs,xw,xh,tp,ts,tw,th,rfl,o2⟩:=o2
 obtain ⟨a1,c1,rfl⟩:=zW o1.p.row
 obtain ⟨a2,c2,rfl⟩:=zW o1.s.row
 obtain ⟨a3,c3,rfl⟩:=zW o1.t.row
 obtain ⟨a4,c4,rfl⟩:=zW o1.h.row
 obtain ⟨e1,d1,rfl⟩:=zW o2.p.row
 obtain ⟨e2,d2,rfl⟩:=zW o2.s.row
 obtain ⟨e3,d3,rfl⟩:=zW o2.t.row
 obtain ⟨e4,d4,rfl⟩:=zW o2.h.row
 have HL:Hid y.Len:=hl
 have O1:Hid (OwnS true w B1 c y (.slice a1 y.pn c1) (.slice a2 y.sn c2) (.slice a3 y.wn c3) (.slice a4 y.hn c4) up us uw uh):=o1
 have O2:Hid (OwnS true w B2 d y (.slice e1 y.pn d1) (.slice e2 y.sn d2) (.slice e3 y.wn d3) (.slice e4 y.hn d4) tp ts tw th):=o2
 have BW:Hid (Below w.heap.size w ((w.alloc (oQ4 a1 y.pn c1 a2 y.sn c2 a3 y.wn c3 a4 y.hn c4)).alloc (oQ4 e1 y.pn d1 e2 y.sn d2 e3 y.wn d3 e4 y.hn d4))):=(zT _ _).trans ((zT _ _).mono (by simp))
 have NA:Hid (BoxC ((w.alloc (oQ4 a1 y.pn c1 a2 y.sn c2 a3 y.wn c3 a4 y.hn c4)).alloc (oQ4 e1 y.pn d1 e2 y.sn d2 e3 y.wn d3 e4 y.hn d4)) w.heap.size (.slice a1 y.pn c1) (.slice a2 y.sn c2) (.slice a3 y.wn c3) (.slice a4 y.hn c4)):=(BoxC.new w _ _ _ _ _).below (zT _ _)
 have NB:Hid (BoxC ((w.alloc (oQ4 a1 y.pn c1 a2 y.sn c2 a3 y.wn c3 a4 y.hn c4)).alloc (oQ4 e1 y.pn d1 e2 y.sn d2 e3 y.wn d3 e4 y.hn d4)) (w.heap.size+1) (.slice e1 y.pn d1) (.slice e2 y.sn d2) (.slice e3 y.wn d3) (.slice e4 y.hn d4)):=⟨zZ _ _ _ 0 (by simp),zZ _ _ _ 1 (by simp),zZ _ _ _ 2 (by simp),zZ _ _ _ 3 (by simp)⟩
 clear o1 o2 hl
 go_enter Tryz.func25,Tryz.ntmps25
 go_wp2_with fail
 generalize (w.alloc (oQ4 a1 y.pn c1 a2 y.sn c2 a3 y.wn c3 a4 y.hn c4)).alloc (oQ4 e1 y.pn d1 e2 y.sn d2 e3 y.wn d3 e4 y.hn d4)=wA at *
 refine (eqInsSS_own _ _ _ _ y.pn up tp y.pL y.pH wA HL.out.p.1 HL.out.p.2 (O1.out.p.below BW.out) (O2.out.p.below BW.out)).mono ?_
 rintro e w1 ⟨rfl,b1⟩
 have F1:Hid (Below w.heap.size w w1/\BoxC w1 w.heap.size (.slice a1 y.pn c1) (.slice a2 y.sn c2) (.slice a3 y.wn c3) (.slice a4 y.hn c4)/\BoxC w1 (w.heap.size+1) (.slice e1 y.pn d1) (.slice e2 y.sn d2) (.slice e3 y.wn d3) (.slice e4 y.hn d4)):=⟨BW.out.trans (b1.mono BW.out.size),NA.out.below b1,NB.out.below b1⟩
 clear b1 BW NA NB
 obtain ⟨-,⟨p0,p1,p2,p3⟩,⟨q0,q1,q2,q3⟩⟩:=F1.out
 go_wp2_with fail
 clear p0 p1 p2 p3 q0 q1 q2 q3
 refine (eqStateS_own _ _ _ _ y.sn us ts y.sS w1 HL.out.s.1 HL.out.s.2 (O1.out.s.below F1.out.1) (O2.out.s.below F1.out.1)).mono ?_
 rintro e w2 ⟨rfl,b2⟩
 have F2:Hid (Below w.heap.size w w2/\BoxC w2 w.heap.size (.slice a1 y.pn c1) (.slice a2 y.sn c2) (.slice a3 y.wn c3) (.slice a4 y.hn c4)/\BoxC w2 (w.heap.size+1) (.slice e1 y.pn d1) (.slice e2 y.sn d2) (.slice e3 y.wn d3) (.slice e4 y.hn d4)):=⟨F1.out.1.trans (b2.mono F1.out.1.size),F1.out.2.1.below b2,F1.out.2.2.below b2⟩
 clear b2 F1
 obtain ⟨-,⟨p0,p1,p2,p3⟩,⟨q0,q1,q2,q3⟩⟩:=F2.out
 go_wp2_with fail
 clear p0 p1 p2 p3 q0 q1 q2 q3
 refine (eqItemSS_own _ _ _ _ y.wn uw tw y.wL y.wH w2 HL.out.w.1 HL.out.w.2 (O1.out.t.below F2.out.1) (O2.out.t.below F2.out.1)).mono ?_
 rintro e w3 ⟨rfl,b3⟩
 have F3:Hid (Below w.heap.size w w3/\BoxC w3 w.heap.size (.slice a1 y.pn c1) (.slice a2 y.sn c2) (.slice a3 y.wn c3) (.slice a4 y.hn c4)/\BoxC w3 (w.heap.size+1) (.slice e1 y.pn d1) (.slice e2 y.sn d2) (.slice e3 y.wn d3) (.slice e4 y.hn d4)):=⟨F2.out.1.trans (b3.mono F2.out.1.size),F2.out.2.1.below b3,F2.out.2.2.below b3⟩
 clear b3 F2
 obtain ⟨-,⟨p0,p1,p2,p3⟩,⟨q0,q1,q2,q3⟩⟩:=F3.out
 go_wp2_with fail
 clear p0 p1 p2 p3 q0 q1 q2 q3
 refine (eqEventSS_own _ _ _ _ y.hn uh th y.hL y.hH w3 HL.out.h.1 HL.out.h.2 (O1.out.h.below F3.out.1) (O2.out.h.below F3.out.1)).mono ?_
 rintro e w4 ⟨rfl,b4⟩
 have F4:Hid (Below w.heap.size w w4):=F3.out.1.trans (b4.mono F3.out.1.size)
 clear b4 F3
 go_wp2
 go_ret
 exact ⟨rfl,F4.out⟩
def mkI (k:Int) (i:Nat):I5:=⟨k+5*i,k+5*i+1,k+5*i+1+1,k+5*i+1+1+1,k+5*i+1+1+1+1⟩
def mkT (k:Int) (i:Nat):I2:=⟨(k+2*i) % 3 == 0,k+2*i+1⟩
def mkEv (k:Int) (i:Nat):E3:=⟨k+3*i,k+3*i+1,k+3*i+1+1⟩
theorem flat_set2_ {f:Nat->List Value} {n i:Nat} (hl:∀ j,j<n->(f j).length=2) (hi:i<n) (a b:Value):
  flat (fun j=>if j=i then [a,b] else f j) n=((flat f n).set (i*2) a).set (i*2+1) b:=by
 have hl':∀ j,j<n->((fun j=>if j=i then [a,b] else f j) j).length=2:=fun j hj=>by
  by_cases e:j=i
  ·simp [e]
  ·simp [e,hl j hj]
 have n1:=flat_len hl
 have n2:=flat_len hl'
 apply List.ext_getElem?
 intro q
 by_cases hq:q<n*2
 ·have hk:q / 2<n:=by omega
  have hr:q % 2<2:=by omega
  have e0:q=q / 2*2+q % 2:=by omega
  have e1:=flat_at hl' hk hr
  have e2:=flat_at hl hk hr
  rw [<- e0] at e1 e2
  rw [e1]
  by_cases ei:q / 2=i
  ·simp only [if_pos ei]
   have hrK:q % 2=0\/q % 2=1:=by omega
   rcases hrK with h | h <;> rw [h] <;>
    (simp only [List.getElem?_set, List.length_set, n1]
     have:i<n:=hi
     repeat (first | rw [if_pos (by omega)] | rw [if_neg (by omega)])
     simp)
  ·simp only [if_neg ei]
   simp only [List.getElem?_set,List.length_set,n1]
   repeat rw [if_neg (by omega)]
   rw [e2]
 ·rw [List.getElem?_eq_none (by omega),List.getElem?_eq_none (by simp only [List.length_set];omega)]
theorem flat_set3_ {f:Nat->List Value} {n i:Nat} (hl:∀ j,j<n->(f j).length=3) (hi:i<n) (a b c:Value):
  flat (fun j=>if j=i then [a,b,c] else f j) n=(((flat f n).set (i*3) a).set (i*3+1) b).set (i*3+2) c:=by
 have hl':∀ j,j<n->((fun j=>if j=i then [a,b,c] else f j) j).length=3:=fun j hj=>by
  by_cases e:j=i
  ·simp [e]
  ·simp [e,hl j hj]
 have n1:=flat_len hl
 have n2:=flat_len hl'
 apply List.ext_getElem?
 intro q
 by_cases hq:q<n*3
 ·have hk:q / 3<n:=by omega
  have hr:q % 3<3:=by omega
  have e0:q=q / 3*3+q % 3:=by omega
  have e1:=flat_at hl' hk hr
  have e2:=flat_at hl hk hr
  rw [<- e0] at e1 e2
  rw [e1]
  by_cases ei:q / 3=i
  ·simp only [if_pos ei]
   have hrK:q % 3=0\/q % 3=1\/q % 3=2:=by omega
   rcases hrK with h | h | h <;> rw [h] <;>
    (simp only [List.getElem?_set, List.length_set, n1]
     have:i<n:=hi
     repeat (first | rw [if_pos (by omega)] | rw [if_neg (by omega)])
     simp)
  ·simp only [if_neg ei]
   simp only [List.getElem?_set,List.length_set,n1]
   repeat rw [if_neg (by omega)]
   rw [e2]
 ·rw [List.getElem?_eq_none (by omega),List.getElem?_eq_none (by simp only [List.length_set];omega)]
theorem flat_set5_ {f:Nat->List Value} {n i:Nat} (hl:∀ j,j<n->(f j).length=5) (hi:i<n) (a b c d e:Value):
  flat (fun j=>if j=i then [a,b,c,d,e] else f j) n=(((((flat f n).set (i*5) a).set (i*5+1) b).set (i*5+2) c).set (i*5+3) d).set (i*5+4) e:=by
 have hl':∀ j,j<n->((fun j=>if j=i then [a,b,c,d,e] else f j) j).length=5:=fun j hj=>by
  by_cases e:j=i
  ·simp [e]
  ·simp [e,hl j hj]
 have n1:=flat_len hl
 have n2:=flat_len hl'
 apply List.ext_getElem?
 intro q
 by_cases hq:q<n*5
 ·have hk:q / 5<n:=by omega
  have hr:q % 5<5:=by omega
  have e0:q=q / 5*5+q % 5:=by omega
  have e1:=flat_at hl' hk hr
  have e2:=flat_at hl hk hr
  rw [<- e0] at e1 e2
  rw [e1]
  by_cases ei:q / 5=i
  ·simp only [if_pos ei]
   have hrK:q % 5=0\/q % 5=1\/q % 5=2\/q % 5=3\/q % 5=4:=by omega
   rcases hrK with h | h | h | h | h <;> rw [h] <;>
    (simp only [List.getElem?_set, List.length_set, n1]
     have:i<n:=hi
     repeat (first | rw [if_pos (by omega)] | rw [if_neg (by omega)])
     simp)
  ·simp only [if_neg ei]
   simp only [List.getElem?_set,List.length_set,n1]
   repeat rw [if_neg (by omega)]
   rw [e2]
 ·rw [List.getElem?_eq_none (by omega),List.getElem?_eq_none (by simp only [List.length_set];omega)]
theorem markInsS_own (b n cap B:Nat) (h:Nat->I5) (k:Int) (w:World) (hlen:n<=1048576) (k0:0<=k) (k1:k<=100000000) (o:w.ownsRow B 142 5 (.slice (some ⟨b,0,none⟩) n cap) n (fI h n)):
  Calls Tryz.prog 132 #[.slice (some ⟨b,0,none⟩) n cap,.int .i64 k] w fun e w'=>e=.returned (.int .i64 (k+5*n))/\w.grownBy w' (some b)/\w'.ownsRow B 142 5 (.slice (some ⟨b,0,none⟩) n cap) n (fI (mkI k) n):=by
 have hl':(n:Int)<=1048576:=by omega
 have HO:Hid (w.ownsRow B 142 5 (.slice (some ⟨b,0,none⟩) n cap) n (fI h n)):=o
 clear o
 go_enter Tryz.func132,Tryz.ntmps132
 go_wp2_with fail
 go_loopw [1,5] (fun q i wr=>∃ j:Nat,j<=n/\i=.int .i64 j/\q=.int .i64 (k+5*j)/\Hid (wr.ownsRow B 142 5 (.slice (some ⟨b,0,none⟩) n cap) n (flat (fun t=>cI (if t<j then mkI k t else h t)) n)/\w.grownBy wr (some b))) (fun _ i _=>n - (intOf i).toNat)
 case atStart=>
  refine ⟨0,Nat.zero_le _,rfl,by simp,?_,World.grownBy.refl _ _⟩
  have e:flat (fun t=>cI (if t<0 then mkI k t else h t)) n=fI h n:=flat_congr fun t _=>by rw [if_neg (by omega)]
  rw [e]
  exact HO.out
 case round=>
  clear HO
  obtain ⟨j,hj,rfl,rfl,HR⟩:=hrel
  by_cases hlt:j<n
  ·have hlt':(j:Int)<(n:Int):=by omega
   have hc:∀ r,r<5->wr.cell? ⟨b,j*5+r,none⟩=(cI (h j))[r]?:=fun r hr=>by
    rw [HR.out.1.cellAt _ (by omega)]
    have e:=flat_at (sz:=5) (f:=(fun t=>cI (if t<j then mkI k t else h t))) (n:=n) (fun _ _=>rfl) hlt hr
    rw [if_neg (by omega)] at e
    exact e
   have c0:=hc 0 (by omega)
   have c1:=hc 1 (by omega)
   have c2:=hc 2 (by omega)
   have c3:=hc 3 (by omega)
   have c4:=hc 4 (by omega)
   simp only [cI,Nat.add_zero,List.getElem?_cons_zero,List.getElem?_cons_succ] at c0 c1 c2 c3 c4
   have fz:∀ o,wr.frozen? ⟨b,o,none⟩=false:=fun o=>HR.out.1.frozenAt o
   clear hc
   go_wp2
   go_roundw
   case rel=>
    refine ⟨j+1,by omega,by go_num,by go_num,?_,?_⟩
    ·have e:flat (fun t=>cI (if t<j+1 then mkI k t else h t)) n=flat (fun t=>if t=j then cI (mkI k j) else (fun t=>cI (if t<j then mkI k t else h t)) t) n:=flat_congr fun t _=>by
      by_cases e:t=j
      ·rw [if_pos e,if_pos (by omega),e]
      ·rw [if_neg e]
       show cI (if t<j+1 then mkI k t else h t)=cI (if t<j then mkI k t else h t)
       by_cases e2:t<j
       ·rw [if_pos e2,if_pos (by omega)]
       ·rw [if_neg e2,if_neg (by omega)]
     have e2:=flat_set5_ (f:=(fun t=>cI (if t<j then mkI k t else h t))) (n:=n) (i:=j) (fun _ _=>rfl) hlt (.int .i64 (k+5*(j:Int))) (.int .i64 (k+5*(j:Int)+1)) (.int .i64 (k+5*(j:Int)+1+1)) (.int .i64 (k+5*(j:Int)+1+1+1)) (.int .i64 (k+5*(j:Int)+1+1+1+1))
     rw [e]
     refine Eq.mpr (congrArg (fun l=>World.ownsRow _ B 142 5 (.slice (some ⟨b,0,none⟩) n cap) n l) e2) ?_
     exact (World.ownsRow.stored (World.ownsRow.stored (World.ownsRow.stored (World.ownsRow.stored (World.ownsRow.stored HR.out.1 (j*5) (.int .i64 (k+5*(j:Int)))).1 (j*5+1) (.int .i64 (k+5*(j:Int)+1))).1 (j*5+2) (.int .i64 (k+5*(j:Int)+1+1))).1 (j*5+3) (.int .i64 (k+5*(j:Int)+1+1+1))).1 (j*5+4) (.int .i64 (k+5*(j:Int)+1+1+1+1))).1
    ·repeat (refine zY ?_ (.inl rfl) _)
     exact HR.out.2
   case measure=>simp [intOf];omega
  ·have hjl:j=n:=by omega
   subst hjl
   have HF:Hid (w.grownBy wr (some b)/\wr.ownsRow B 142 5 (.slice (some ⟨b,0,none⟩) j cap) j (fI (mkI k) j)):=by
    refine ⟨HR.out.2,?_⟩
    have e:flat (fun t=>cI (if t<j then mkI k t else h t)) j=fI (mkI k) j:=flat_congr fun t ht=>by rw [if_pos ht]
    have:=HR.out.1
    rw [e] at this
    exact this
   clear HR
   go_wp2
   go_ret
   exact ⟨rfl,HF.out⟩
theorem heldInsS_own (b n cap:Nat) (k:Int) (w:World) (hlen:n<=1048576) (k0:0<=k) (k1:k<=100000000) (hb:b<w.heap.size) (h:InsAt w b 0 n (mkI k)):
  Calls Tryz.prog 136 #[.slice (some ⟨b,0,none⟩) n cap,.int .i64 k] w fun e w'=>e=.returned (.int .i64 (k+5*n))/\Below w.heap.size w w':=by
 have hl':(n:Int)<=1048576:=by omega
 have HO:Hid (InsAt w b 0 n (mkI k)/\b<w.heap.size):=⟨h,hb⟩
 clear h hb
 go_enter Tryz.func136,Tryz.ntmps136
 go_wp2_with fail
 go_loopw [1,5] (fun q i wr=>∃ j:Nat,j<=n/\i=.int .i64 j/\q=.int .i64 (k+5*j)/\Below w.heap.size w wr) (fun _ i _=>n - (intOf i).toNat)
 case atStart=>exact ⟨0,Nat.zero_le _,rfl,by simp,Below.refl _ _⟩
 case round=>
  obtain ⟨j,hj,rfl,rfl,hbw⟩:=hrel
  by_cases hlt:j<n
  ·have hlt':(j:Int)<(n:Int):=by omega
   obtain ⟨d0,d1,d2,d3,d4⟩:=HO.out.1 j hlt
   have c0:wr.cell? ⟨b,j*5,none⟩=some (.int .i64 (k+5*(j:Int))):=(hbw.cell (p:=⟨b,j*5,none⟩) HO.out.2).trans (by have d:=d0;rw [Nat.zero_add] at d;exact d)
   have c1:wr.cell? ⟨b,j*5+1,none⟩=some (.int .i64 (k+5*(j:Int)+1)):=(hbw.cell (p:=⟨b,j*5+1,none⟩) HO.out.2).trans (by have d:=d1;rw [Nat.zero_add] at d;exact d)
   have c2:wr.cell? ⟨b,j*5+2,none⟩=some (.int .i64 (k+5*(j:Int)+1+1)):=(hbw.cell (p:=⟨b,j*5+2,none⟩) HO.out.2).trans (by have d:=d2;rw [Nat.zero_add] at d;exact d)
   have c3:wr.cell? ⟨b,j*5+3,none⟩=some (.int .i64 (k+5*(j:Int)+1+1+1)):=(hbw.cell (p:=⟨b,j*5+3,none⟩) HO.out.2).trans (by have d:=d3;rw [Nat.zero_add] at d;exact d)
   have c4:wr.cell? ⟨b,j*5+4,none⟩=some (.int .i64 (k+5*(j:Int)+1+1+1+1)):=(hbw.cell (p:=⟨b,j*5+4,none⟩) HO.out.2).trans (by have d:=d4;rw [Nat.zero_add] at d;exact d)
   clear d0 d1 d2 d3 d4
   go_wp2
   go_roundw
   case rel=>exact ⟨j+1,by omega,by go_num,by go_num,hbw⟩
   case measure=>simp [intOf];omega
  ·have hjl:j=n:=by omega
   subst hjl
   go_wp2
   go_ret
   exact ⟨rfl,hbw⟩
theorem markItemS_own (b n cap B:Nat) (h:Nat->I2) (k:Int) (w:World) (hlen:n<=1048576) (k0:0<=k) (k1:k<=100000000) (o:w.ownsRow B 131 2 (.slice (some ⟨b,0,none⟩) n cap) n (fT h n)):
  Calls Tryz.prog 134 #[.slice (some ⟨b,0,none⟩) n cap,.int .i64 k] w fun e w'=>e=.returned (.int .i64 (k+2*n))/\w.grownBy w' (some b)/\w'.ownsRow B 131 2 (.slice (some ⟨b,0,none⟩) n cap) n (fT (mkT k) n):=by
 have hl':(n:Int)<=1048576:=by omega
 have HO:Hid (w.ownsRow B 131 2 (.slice (some ⟨b,0,none⟩) n cap) n (fT h n)):=o
 clear o
 go_enter Tryz.func134,Tryz.ntmps134
 go_wp2_with fail
 go_loopw [1,5] (fun q i wr=>∃ j:Nat,j<=n/\i=.int .i64 j/\q=.int .i64 (k+2*j)/\Hid (wr.ownsRow B 131 2 (.slice (some ⟨b,0,none⟩) n cap) n (flat (fun t=>cT (if t<j then mkT k t else h t)) n)/\w.grownBy wr (some b))) (fun _ i _=>n - (intOf i).toNat)
 case atStart=>
  refine ⟨0,Nat.zero_le _,rfl,by simp,?_,World.grownBy.refl _ _⟩
  have e:flat (fun t=>cT (if t<0 then mkT k t else h t)) n=fT h n:=flat_congr fun t _=>by rw [if_neg (by omega)]
  rw [e]
  exact HO.out
 case round=>
  clear HO
  obtain ⟨j,hj,rfl,rfl,HR⟩:=hrel
  by_cases hlt:j<n
  ·have hlt':(j:Int)<(n:Int):=by omega
   have hc:∀ r,r<2->wr.cell? ⟨b,j*2+r,none⟩=(cT (h j))[r]?:=fun r hr=>by
    rw [HR.out.1.cellAt _ (by omega)]
    have e:=flat_at (sz:=2) (f:=(fun t=>cT (if t<j then mkT k t else h t))) (n:=n) (fun _ _=>rfl) hlt hr
    rw [if_neg (by omega)] at e
    exact e
   have c0:=hc 0 (by omega)
   have c1:=hc 1 (by omega)
   simp only [cT,Nat.add_zero,List.getElem?_cons_zero,List.getElem?_cons_succ] at c0 c1
   have fz:∀ o,wr.frozen? ⟨b,o,none⟩=false:=fun o=>HR.out.1.frozenAt o
   clear hc
   go_wp2
   go_roundw
   case rel=>
    refine ⟨j+1,by omega,by go_num,by go_num,?_,?_⟩
    ·have e:flat (fun t=>cT (if t<j+1 then mkT k t else h t)) n=flat (fun t=>if t=j then cT (mkT k j) else (fun t=>cT (if t<j then mkT k t else h t)) t) n:=flat_congr fun t _=>by
      by_cases e:t=j
      ·rw [if_pos e,if_pos (by omega),e]
      ·rw [if_neg e]
       show cT (if t<j+1 then mkT k t else h t)=cT (if t<j then mkT k t else h t)
       by_cases e2:t<j
       ·rw [if_pos e2,if_pos (by omega)]
       ·rw [if_neg e2,if_neg (by omega)]
     have e2:=flat_set2_ (f:=(fun t=>cT (if t<j then mkT k t else h t))) (n:=n) (i:=j) (fun _ _=>rfl) hlt (.bool ((k+2*(j:Int)) % 3 == 0)) (.int .i64 (k+2*(j:Int)+1))
     rw [e]
     refine Eq.mpr (congrArg (fun l=>World.ownsRow _ B 131 2 (.slice (some ⟨b,0,none⟩) n cap) n l) e2) ?_
     exact (World.ownsRow.stored (World.ownsRow.stored HR.out.1 (j*2) (.bool ((k+2*(j:Int)) % 3 == 0))).1 (j*2+1) (.int .i64 (k+2*(j:Int)+1))).1
    ·repeat (refine zY ?_ (.inl rfl) _)
     exact HR.out.2
   case measure=>simp [intOf];omega
  ·have hjl:j=n:=by omega
   subst hjl
   have HF:Hid (w.grownBy wr (some b)/\wr.ownsRow B 131 2 (.slice (some ⟨b,0,none⟩) j cap) j (fT (mkT k) j)):=by
    refine ⟨HR.out.2,?_⟩
    have e:flat (fun t=>cT (if t<j then mkT k t else h t)) j=fT (mkT k) j:=flat_congr fun t ht=>by rw [if_pos ht]
    have:=HR.out.1
    rw [e] at this
    exact this
   clear HR
   go_wp2
   go_ret
   exact ⟨rfl,HF.out⟩
theorem heldItemS_own (b n cap:Nat) (k:Int) (w:World) (hlen:n<=1048576) (k0:0<=k) (k1:k<=100000000) (hb:b<w.heap.size) (h:ItAt w b 0 n (mkT k)):
  Calls Tryz.prog 138 #[.slice (some ⟨b,0,none⟩) n cap,.int .i64 k] w fun e w'=>e=.returned (.int .i64 (k+2*n))/\Below w.heap.size w w':=by
 have hl':(n:Int)<=1048576:=by omega
 have HO:Hid (ItAt w b 0 n (mkT k)/\b<w.heap.size):=⟨h,hb⟩
 clear h hb
 go_enter Tryz.func138,Tryz.ntmps138
 go_wp2_with fail
 go_loopw [1,5] (fun q i wr=>∃ j:Nat,j<=n/\i=.int .i64 j/\q=.int .i64 (k+2*j)/\Below w.heap.size w wr) (fun _ i _=>n - (intOf i).toNat)
 case atStart=>exact ⟨0,Nat.zero_le _,rfl,by simp,Below.refl _ _⟩
 case round=>
  obtain ⟨j,hj,rfl,rfl,hbw⟩:=hrel
  by_cases hlt:j<n
  ·have hlt':(j:Int)<(n:Int):=by omega
   obtain ⟨d0,d1⟩:=HO.out.1 j hlt
   have c0:wr.cell? ⟨b,j*2,none⟩=some (.bool ((k+2*(j:Int)) % 3 == 0)):=(hbw.cell (p:=⟨b,j*2,none⟩) HO.out.2).trans (by have d:=d0;rw [Nat.zero_add] at d;exact d)
   have c1:wr.cell? ⟨b,j*2+1,none⟩=some (.int .i64 (k+2*(j:Int)+1)):=(hbw.cell (p:=⟨b,j*2+1,none⟩) HO.out.2).trans (by have d:=d1;rw [Nat.zero_add] at d;exact d)
   clear d0 d1
   rcases zO ((k+2*(j:Int)) % 3 == 0) with t | t
   ·rw [t] at c0
    go_wp2_with fail
    exact ⟨⟨j+1,by omega,by go_num,by go_num,hbw⟩,by simp [intOf];omega⟩
   ·rw [t] at c0
    go_wp2_with fail
    exact ⟨⟨j+1,by omega,by go_num,by go_num,hbw⟩,by simp [intOf];omega⟩
  ·have hjl:j=n:=by omega
   subst hjl
   go_wp2
   go_ret
   exact ⟨rfl,hbw⟩
theorem markEventS_own (b n cap B:Nat) (h:Nat->E3) (k:Int) (w:World) (hlen:n<=1048576) (k0:0<=k) (k1:k<=100000000) (o:w.ownsRow B 85 3 (.slice (some ⟨b,0,none⟩) n cap) n (fE h n)):
  Calls Tryz.prog 135 #[.slice (some ⟨b,0,none⟩) n cap,.int .i64 k] w fun e w'=>e=.returned (.int .i64 (k+3*n))/\w.grownBy w' (some b)/\w'.ownsRow B 85 3 (.slice (some ⟨b,0,none⟩) n cap) n (fE (mkEv k) n):=by
 have hl':(n:Int)<=1048576:=by omega
 have HO:Hid (w.ownsRow B 85 3 (.slice (some ⟨b,0,none⟩) n cap) n (fE h n)):=o
 clear o
 go_enter Tryz.func135,Tryz.ntmps135
 go_wp2_with fail
 go_loopw [1,5] (fun q i wr=>∃ j:Nat,j<=n/\i=.int .i64 j/\q=.int .i64 (k+3*j)/\Hid (wr.ownsRow B 85 3 (.slice (some ⟨b,0,none⟩) n cap) n (flat (fun t=>cE (if t<j then mkEv k t else h t)) n)/\w.grownBy wr (some b))) (fun _ i _=>n - (intOf i).toNat)
 case atStart=>
  refine ⟨0,Nat.zero_le _,rfl,by simp,?_,World.grownBy.refl _ _⟩
  have e:flat (fun t=>cE (if t<0 then mkEv k t else h t)) n=fE h n:=flat_congr fun t _=>by rw [if_neg (by omega)]
  rw [e]
  exact HO.out
 case round=>
  clear HO
  obtain ⟨j,hj,rfl,rfl,HR⟩:=hrel
  by_cases hlt:j<n
  ·have hlt':(j:Int)<(n:Int):=by omega
   have hc:∀ r,r<3->wr.cell? ⟨b,j*3+r,none⟩=(cE (h j))[r]?:=fun r hr=>by
    rw [HR.out.1.cellAt _ (by omega)]
    have e:=flat_at (sz:=3) (f:=(fun t=>cE (if t<j then mkEv k t else h t))) (n:=n) (fun _ _=>rfl) hlt hr
    rw [if_neg (by omega)] at e
    exact e
   have c0:=hc 0 (by omega)
   have c1:=hc 1 (by omega)
   have c2:=hc 2 (by omega)
   simp only [cE,Nat.add_zero,List.getElem?_cons_zero,List.getElem?_cons_succ] at c0 c1 c2
   have fz:∀ o,wr.frozen? ⟨b,o,none⟩=false:=fun o=>HR.out.1.frozenAt o
   clear hc
   go_wp2
   go_roundw
   case rel=>
    refine ⟨j+1,by omega,by go_num,by go_num,?_,?_⟩
    ·have e:flat (fun t=>cE (if t<j+1 then mkEv k t else h t)) n=flat (fun t=>if t=j then cE (mkEv k j) else (fun t=>cE (if t<j then mkEv k t else h t)) t) n:=flat_congr fun t _=>by
      by_cases e:t=j
      ·rw [if_pos e,if_pos (by omega),e]
      ·rw [if_neg e]
       show cE (if t<j+1 then mkEv k t else h t)=cE (if t<j then mkEv k t else h t)
       by_cases e2:t<j
       ·rw [if_pos e2,if_pos (by omega)]
       ·rw [if_neg e2,if_neg (by omega)]
     have e2:=flat_set3_ (f:=(fun t=>cE (if t<j then mkEv k t else h t))) (n:=n) (i:=j) (fun _ _=>rfl) hlt (.int .i64 (k+3*(j:Int))) (.int .i64 (k+3*(j:Int)+1)) (.int .i64 (k+3*(j:Int)+1+1))
     rw [e]
     refine Eq.mpr (congrArg (fun l=>World.ownsRow _ B 85 3 (.slice (some ⟨b,0,none⟩) n cap) n l) e2) ?_
     exact (World.ownsRow.stored (World.ownsRow.stored (World.ownsRow.stored HR.out.1 (j*3) (.int .i64 (k+3*(j:Int)))).1 (j*3+1) (.int .i64 (k+3*(j:Int)+1))).1 (j*3+2) (.int .i64 (k+3*(j:Int)+1+1))).1
    ·repeat (refine zY ?_ (.inl rfl) _)
     exact HR.out.2
   case measure=>simp [intOf];omega
  ·have hjl:j=n:=by omega
   subst hjl
   have HF:Hid (w.grownBy wr (some b)/\wr.ownsRow B 85 3 (.slice (some ⟨b,0,none⟩) j cap) j (fE (mkEv k) j)):=by
    refine ⟨HR.out.2,?_⟩
    have e:flat (fun t=>cE (if t<j then mkEv k t else h t)) j=fE (mkEv k) j:=flat_congr fun t ht=>by rw [if_pos ht]
    have:=HR.out.1
    rw [e] at this
    exact this
   clear HR
   go_wp2
   go_ret
   exact ⟨rfl,HF.out⟩
theorem heldEventS_own (b n cap:Nat) (k:Int) (w:World) (hlen:n<=1048576) (k0:0<=k) (k1:k<=100000000) (hb:b<w.heap.size) (h:EvAt w b 0 n (mkEv k)):
  Calls Tryz.prog 139 #[.slice (some ⟨b,0,none⟩) n cap,.int .i64 k] w fun e w'=>e=.returned (.int .i64 (k+3*n))/\Below w.heap.size w w':=by
 have hl':(n:Int)<=1048576:=by omega
 have HO:Hid (EvAt w b 0 n (mkEv k)/\b<w.heap.size):=⟨h,hb⟩
 clear h hb
 go_enter Tryz.func139,Tryz.ntmps139
 go_wp2_with fail
 go_loopw [1,5] (fun q i wr=>∃ j:Nat,j<=n/\i=.int .i64 j/\q=.int .i64 (k+3*j)/\Below w.heap.size w wr) (fun _ i _=>n - (intOf i).toNat)
 case atStart=>exact ⟨0,Nat.zero_le _,rfl,by simp,Below.refl _ _⟩
 case round=>
  obtain ⟨j,hj,rfl,rfl,hbw⟩:=hrel
  by_cases hlt:j<n
  ·have hlt':(j:Int)<(n:Int):=by omega
   obtain ⟨d0,d1,d2⟩:=HO.out.1 j hlt
   have c0:wr.cell? ⟨b,j*3,none⟩=some (.int .i64 (k+3*(j:Int))):=(hbw.cell (p:=⟨b,j*3,none⟩) HO.out.2).trans (by have d:=d0;rw [Nat.zero_add] at d;exact d)
   have c1:wr.cell? ⟨b,j*3+1,none⟩=some (.int .i64 (k+3*(j:Int)+1)):=(hbw.cell (p:=⟨b,j*3+1,none⟩) HO.out.2).trans (by have d:=d1;rw [Nat.zero_add] at d;exact d)
   have c2:wr.cell? ⟨b,j*3+2,none⟩=some (.int .i64 (k+3*(j:Int)+1+1)):=(hbw.cell (p:=⟨b,j*3+2,none⟩) HO.out.2).trans (by have d:=d2;rw [Nat.zero_add] at d;exact d)
   clear d0 d1 d2
   go_wp2
   go_roundw
   case rel=>exact ⟨j+1,by omega,by go_num,by go_num,hbw⟩
   case measure=>simp [intOf];omega
  ·have hjl:j=n:=by omega
   subst hjl
   go_wp2
   go_ret
   exact ⟨rfl,hbw⟩
section
variable {e:TypeId} {sz:Nat} {E:TypeId} {w:World} {P:Nat->Prop} {v:Value} {n:Nat} {u:Nat->Value} {L:Nat->Nat} {c:Nat->List Value}
theorem LL.remark (o:LL true e sz E w P v n u L c) {i:Nat} (hi:i<n) {w1:World} {c':List Value} (hu:w1.ownsRow 0 e sz (u i) (L i) c') (g:∀ k,k<w.heap.size->(u i).ownBlock≠some k->w1.heap[k]? = w.heap[k]?):LL true e sz E w1 P v n u L (fun j=>if j=i then c' else c j):=by
 refine ⟨ownsRow_blkL o.row fun k hk=>g k (o.row.lt k hk).2 fun e=>o.ra i hi k e hk,fun j hj=>?_,o.rb,o.ob,o.ra,o.oa,o.nn⟩
 by_cases ej:j=i
 ·subst ej
  simp only [if_true]
  exact hu
 ·simp only [if_neg ej]
  exact ownsRow_blkL (o.own j hj) fun k hk=>g k ((o.own j hj).lt k hk).2 fun e=>o.oa j i hj hi ej k hk e
theorem LL.cast (o:LL true e sz E w P v n u L c) {c':Nat->List Value} (h:∀ i,i<n->c i=c' i):LL true e sz E w P v n u L c':=
 ⟨o.row,fun i hi=>by rw [<- h i hi];exact o.own i hi,o.rb,o.ob,o.ra,o.oa,o.nn⟩
end
theorem markInsSS_own (v:Value) (P:Nat->Prop) (n:Nat) (u:Nat->Value) (L:Nat->Nat) (H:Nat->Nat->I5) (k:Int) (w:World) (hn:n<=1048576) (hl:sumL L n<=1048576) (k0:0<=k) (k1:k<=50000000) (o:LI true w P v n u L H):
  Calls Tryz.prog 80 #[v,.int .i64 k] w fun e w'=>e=.returned (.int .i64 (k+5*(sumL L n:Nat)))/\LI true w' P v n u L (fun i=>mkI (k+5*(sumL L i:Nat)))/\Touch P w w':=by
 have hl':(n:Int)<=1048576:=by omega
 obtain ⟨a1,c1,rfl⟩:=zW o.row
 have O:Hid (LI true w P (.slice a1 n c1) n u L H):=o
 have HL:Hid (sumL L n<=1048576):=hl
 clear o hl
 go_enter Tryz.func80,Tryz.ntmps80
 go_wp2_with fail
 go_loopw [1,5] (fun q i wr=>∃ j:Nat,j<=n/\i=.int .i64 j/\q=.int .i64 (k+5*(sumL L j:Nat))/\Hid (LL true 142 5 78 wr P (.slice a1 n c1) n u L (fun t=>fI (if t<j then mkI (k+5*(sumL L t:Nat)) else H t) (L t))/\Touch P w wr)) (fun _ i _=>n - (intOf i).toNat)
 case atStart=>exact ⟨0,Nat.zero_le _,rfl,by simp [sumL],O.out.cast fun i _=>by rw [if_neg (by omega)],Touch.refl _ _⟩
 case round=>
  obtain ⟨j,hj,rfl,rfl,HT⟩:=hrel
  by_cases hlt:j<n
  ·have hlt':(j:Int)<(n:Int):=by omega
   obtain ⟨g1,m1,e1,-,-,ck,-⟩:=HT.out.1.cell hlt
   obtain rfl:=slice_form e1
   have how:=HT.out.1.own j hlt
   rw [if_neg (by omega)] at how
   obtain ⟨b,m,f1,lb,-,-⟩:=atI how (HT.out.1.nn (nzT _) j hlt)
   rw [f1] at ck how
   have OW:Hid (wr.ownsRow 0 142 5 (.slice (some ⟨b,0,none⟩) (L j) m) (L j) (fI (H j) (L j))):=how
   have HU:Hid (u j=.slice (some ⟨b,0,none⟩) (L j) m):=f1
   have hsl:=sumL_at L hlt
   have hS:=HL.out
   have e1':k+5*(sumL L j:Nat)+5*(L j:Int)=k+5*(sumL L (j+1):Nat):=by simp only [sumL];omega
   have HE:Hid (k+5*(sumL L j:Nat)+5*(L j:Int)=k+5*(sumL L (j+1):Nat)):=e1'
   have e2:0<=k+5*(sumL L j:Nat):=by omega
   have e3:k+5*(sumL L j:Nat)<=100000000:=by omega
   have e4:L j<=1048576:=by omega
   clear e1' hS hsl how f1 e1
   go_wp2_with fail
   refine (markInsS_own b (L j) m 0 (H j) _ wr e4 e2 e3 OW.out).mono ?_
   rintro e w1 ⟨rfl,g1',o1⟩
   rw [HE.out]
   have HT1:Hid (LL true 142 5 78 w1 P (.slice (some ⟨g1,0,none⟩) n c1) n u L (fun t=>fI (if t<j+1 then mkI (k+5*(sumL L t:Nat)) else H t) (L t))/\Touch P w w1):=by
    refine ⟨(HT.out.1.remark hlt (c':=fI (mkI (k+5*(sumL L j:Nat))) (L j)) (by rw [HU.out];exact o1) fun q hq hne=>g1'.block q hq fun e=>hne (by rw [HU.out,e];rfl)).cast fun t ht=>?_,HT.out.2.trans (Touch.of_grown g1' fun q e=>HT.out.1.ob j hlt q (by rw [HU.out,<- e];rfl))⟩
    by_cases et:t=j
    ·rw [if_pos et,if_pos (by omega),et]
    ·rw [if_neg et]
     by_cases e2:t<j
     ·rw [if_pos e2,if_pos (by omega)]
     ·rw [if_neg e2,if_neg (by omega)]
   clear HT e2 e3 e4 g1' o1 ck
   go_wp2
   go_roundw
   case rel=>exact ⟨j+1,by omega,by go_num,rfl,HT1.out⟩
   case measure=>simp [intOf];omega
  ·have hkl:j=n:=by omega
   subst hkl
   have HT1:Hid (LI true wr P (.slice a1 j c1) j u L (fun i=>mkI (k+5*(sumL L i:Nat)))/\Touch P w wr):=⟨HT.out.1.cast fun t ht=>by rw [if_pos ht],HT.out.2⟩
   clear HT
   go_wp2
   go_ret
   exact ⟨rfl,HT1.out⟩
theorem heldInsSS_own (v:Value) (P:Nat->Prop) (n:Nat) (u:Nat->Value) (L:Nat->Nat) (k:Int) (w:World) (hn:n<=1048576) (hl:sumL L n<=1048576) (k0:0<=k) (k1:k<=50000000) (o:LI true w P v n u L (fun i=>mkI (k+5*(sumL L i:Nat)))):
  Calls Tryz.prog 84 #[v,.int .i64 k] w fun e w'=>e=.returned (.int .i64 (k+5*(sumL L n:Nat)))/\Below w.heap.size w w':=by
 have hl':(n:Int)<=1048576:=by omega
 obtain ⟨a1,c1,rfl⟩:=zW o.row
 have O:Hid (LI true w P (.slice a1 n c1) n u L (fun i=>mkI (k+5*(sumL L i:Nat)))):=o
 have HL:Hid (sumL L n<=1048576):=hl
 clear o hl
 go_enter Tryz.func84,Tryz.ntmps84
 go_wp2_with fail
 go_loopw [1,5] (fun q i wr=>∃ j:Nat,j<=n/\i=.int .i64 j/\q=.int .i64 (k+5*(sumL L j:Nat))/\Below w.heap.size w wr) (fun _ i _=>n - (intOf i).toNat)
 case atStart=>exact ⟨0,Nat.zero_le _,rfl,by simp [sumL],Below.refl _ _⟩
 case round=>
  obtain ⟨j,hj,rfl,rfl,hbw⟩:=hrel
  by_cases hlt:j<n
  ·have hlt':(j:Int)<(n:Int):=by omega
   have Q:=O.out.below hbw
   obtain ⟨g1,m1,e1,-,-,ck,-⟩:=Q.cell hlt
   obtain rfl:=slice_form e1
   obtain ⟨b,m,f1,lb,it,-⟩:=atI (Q.own j hlt) (Q.nn (nzT _) j hlt)
   rw [f1] at ck
   have IT:Hid (InsAt wr b 0 (L j) (mkI (k+5*(sumL L j:Nat)))/\b<wr.heap.size):=⟨it,lb⟩
   have hsl:=sumL_at L hlt
   have hS:=HL.out
   have e1':k+5*(sumL L j:Nat)+5*(L j:Int)=k+5*(sumL L (j+1):Nat):=by simp only [sumL];omega
   have HE:Hid (k+5*(sumL L j:Nat)+5*(L j:Int)=k+5*(sumL L (j+1):Nat)):=e1'
   have e2:0<=k+5*(sumL L j:Nat):=by omega
   have e3:k+5*(sumL L j:Nat)<=100000000:=by omega
   have e4:L j<=1048576:=by omega
   have e5:¬ (k+5*(sumL L (j+1):Nat)<0):=by omega
   clear e1' hS hsl Q f1 it lb e1
   go_wp2_with fail
   refine (heldInsS_own b (L j) m _ wr e4 e2 e3 IT.out.2 IT.out.1).mono ?_
   rintro e w1 ⟨rfl,b1⟩
   rw [HE.out]
   have B1:Hid (Below w.heap.size w w1):=hbw.trans (b1.mono hbw.size)
   clear b1 e2 e3 e4 ck hbw
   go_wp2
   go_roundw
   case rel=>exact ⟨j+1,by omega,by go_num,rfl,B1.out⟩
   case measure=>simp [intOf];omega
  ·have hkl:j=n:=by omega
   subst hkl
   go_wp2
   go_ret
   exact ⟨rfl,hbw⟩
theorem markItemSS_own (v:Value) (P:Nat->Prop) (n:Nat) (u:Nat->Value) (L:Nat->Nat) (H:Nat->Nat->I2) (k:Int) (w:World) (hn:n<=1048576) (hl:sumL L n<=1048576) (k0:0<=k) (k1:k<=50000000) (o:LT true w P v n u L H):
  Calls Tryz.prog 82 #[v,.int .i64 k] w fun e w'=>e=.returned (.int .i64 (k+2*(sumL L n:Nat)))/\LT true w' P v n u L (fun i=>mkT (k+2*(sumL L i:Nat)))/\Touch P w w':=by
 have hl':(n:Int)<=1048576:=by omega
 obtain ⟨a1,c1,rfl⟩:=zW o.row
 have O:Hid (LT true w P (.slice a1 n c1) n u L H):=o
 have HL:Hid (sumL L n<=1048576):=hl
 clear o hl
 go_enter Tryz.func82,Tryz.ntmps82
 go_wp2_with fail
 go_loopw [1,5] (fun q i wr=>∃ j:Nat,j<=n/\i=.int .i64 j/\q=.int .i64 (k+2*(sumL L j:Nat))/\Hid (LL true 131 2 88 wr P (.slice a1 n c1) n u L (fun t=>fT (if t<j then mkT (k+2*(sumL L t:Nat)) else H t) (L t))/\Touch P w wr)) (fun _ i _=>n - (intOf i).toNat)
 case atStart=>exact ⟨0,Nat.zero_le _,rfl,by simp [sumL],O.out.cast fun i _=>by rw [if_neg (by omega)],Touch.refl _ _⟩
 case round=>
  obtain ⟨j,hj,rfl,rfl,HT⟩:=hrel
  by_cases hlt:j<n
  ·have hlt':(j:Int)<(n:Int):=by omega
   obtain ⟨g1,m1,e1,-,-,ck,-⟩:=HT.out.1.cell hlt
   obtain rfl:=slice_form e1
   have how:=HT.out.1.own j hlt
   rw [if_neg (by omega)] at how
   obtain ⟨b,m,f1,lb,-,-⟩:=atT how (HT.out.1.nn (nzT _) j hlt)
   rw [f1] at ck how
   have OW:Hid (wr.ownsRow 0 131 2 (.slice (some ⟨b,0,none⟩) (L j) m) (L j) (fT (H j) (L j))):=how
   have HU:Hid (u j=.slice (some ⟨b,0,none⟩) (L j) m):=f1
   have hsl:=sumL_at L hlt
   have hS:=HL.out
   have e1':k+2*(sumL L j:Nat)+2*(L j:Int)=k+2*(sumL L (j+1):Nat):=by simp only [sumL];omega
   have HE:Hid (k+2*(sumL L j:Nat)+2*(L j:Int)=k+2*(sumL L (j+1):Nat)):=e1'
   have e2:0<=k+2*(sumL L j:Nat):=by omega
   have e3:k+2*(sumL L j:Nat)<=100000000:=by omega
   have e4:L j<=1048576:=by omega
   clear e1' hS hsl how f1 e1
   go_wp2_with fail
   refine (markItemS_own b (L j) m 0 (H j) _ wr e4 e2 e3 OW.out).mono ?_
   rintro e w1 ⟨rfl,g1',o1⟩
   rw [HE.out]
   have HT1:Hid (LL true 131 2 88 w1 P (.slice (some ⟨g1,0,none⟩) n c1) n u L (fun t=>fT (if t<j+1 then mkT (k+2*(sumL L t:Nat)) else H t) (L t))/\Touch P w w1):=by
    refine ⟨(HT.out.1.remark hlt (c':=fT (mkT (k+2*(sumL L j:Nat))) (L j)) (by rw [HU.out];exact o1) fun q hq hne=>g1'.block q hq fun e=>hne (by rw [HU.out,e];rfl)).cast fun t ht=>?_,HT.out.2.trans (Touch.of_grown g1' fun q e=>HT.out.1.ob j hlt q (by rw [HU.out,<- e];rfl))⟩
    by_cases et:t=j
    ·rw [if_pos et,if_pos (by omega),et]
    ·rw [if_neg et]
     by_cases e2:t<j
     ·rw [if_pos e2,if_pos (by omega)]
     ·rw [if_neg e2,if_neg (by omega)]
   clear HT e2 e3 e4 g1' o1 ck
   go_wp2
   go_roundw
   case rel=>exact ⟨j+1,by omega,by go_num,rfl,HT1.out⟩
   case measure=>simp [intOf];omega
  ·have hkl:j=n:=by omega
   subst hkl
   have HT1:Hid (LT true wr P (.slice a1 j c1) j u L (fun i=>mkT (k+2*(sumL L i:Nat)))/\Touch P w wr):=⟨HT.out.1.cast fun t ht=>by rw [if_pos ht],HT.out.2⟩
   clear HT
   go_wp2
   go_ret
   exact ⟨rfl,HT1.out⟩
theorem heldItemSS_own (v:Value) (P:Nat->Prop) (n:Nat) (u:Nat->Value) (L:Nat->Nat) (k:Int) (w:World) (hn:n<=1048576) (hl:sumL L n<=1048576) (k0:0<=k) (k1:k<=50000000) (o:LT true w P v n u L (fun i=>mkT (k+2*(sumL L i:Nat)))):
  Calls Tryz.prog 86 #[v,.int .i64 k] w fun e w'=>e=.returned (.int .i64 (k+2*(sumL L n:Nat)))/\Below w.heap.size w w':=by
 have hl':(n:Int)<=1048576:=by omega
 obtain ⟨a1,c1,rfl⟩:=zW o.row
 have O:Hid (LT true w P (.slice a1 n c1) n u L (fun i=>mkT (k+2*(sumL L i:Nat)))):=o
 have HL:Hid (sumL L n<=1048576):=hl
 clear o hl
 go_enter Tryz.func86,Tryz.ntmps86
 go_wp2_with fail
 go_loopw [1,5] (fun q i wr=>∃ j:Nat,j<=n/\i=.int .i64 j/\q=.int .i64 (k+2*(sumL L j:Nat))/\Below w.heap.size w wr) (fun _ i _=>n - (intOf i).toNat)
 case atStart=>exact ⟨0,Nat.zero_le _,rfl,by simp [sumL],Below.refl _ _⟩
 case round=>
  obtain ⟨j,hj,rfl,rfl,hbw⟩:=hrel
  by_cases hlt:j<n
  ·have hlt':(j:Int)<(n:Int):=by omega
   have Q:=O.out.below hbw
   obtain ⟨g1,m1,e1,-,-,ck,-⟩:=Q.cell hlt
   obtain rfl:=slice_form e1
   obtain ⟨b,m,f1,lb,it,-⟩:=atT (Q.own j hlt) (Q.nn (nzT _) j hlt)
   rw [f1] at ck
   have IT:Hid (ItAt wr b 0 (L j) (mkT (k+2*(sumL L j:Nat)))/\b<wr.heap.size):=⟨it,lb⟩
   have hsl:=sumL_at L hlt
   have hS:=HL.out
   have e1':k+2*(sumL L j:Nat)+2*(L j:Int)=k+2*(sumL L (j+1):Nat):=by simp only [sumL];omega
   have HE:Hid (k+2*(sumL L j:Nat)+2*(L j:Int)=k+2*(sumL L (j+1):Nat)):=e1'
   have e2:0<=k+2*(sumL L j:Nat):=by omega
   have e3:k+2*(sumL L j:Nat)<=100000000:=by omega
   have e4:L j<=1048576:=by omega
   have e5:¬ (k+2*(sumL L (j+1):Nat)<0):=by omega
   clear e1' hS hsl Q f1 it lb e1
   go_wp2_with fail
   refine (heldItemS_own b (L j) m _ wr e4 e2 e3 IT.out.2 IT.out.1).mono ?_
   rintro e w1 ⟨rfl,b1⟩
   rw [HE.out]
   have B1:Hid (Below w.heap.size w w1):=hbw.trans (b1.mono hbw.size)
   clear b1 e2 e3 e4 ck hbw
   go_wp2
   go_roundw
   case rel=>exact ⟨j+1,by omega,by go_num,rfl,B1.out⟩
   case measure=>simp [intOf];omega
  ·have hkl:j=n:=by omega
   subst hkl
   go_wp2
   go_ret
   exact ⟨rfl,hbw⟩
theorem markEventSS_own (v:Value) (P:Nat->Prop) (n:Nat) (u:Nat->Value) (L:Nat->Nat) (H:Nat->Nat->E3) (k:Int) (w:World) (hn:n<=1048576) (hl:sumL L n<=1048576) (k0:0<=k) (k1:k<=50000000) (o:LE true w P v n u L H):
  Calls Tryz.prog 83 #[v,.int .i64 k] w fun e w'=>e=.returned (.int .i64 (k+3*(sumL L n:Nat)))/\LE true w' P v n u L (fun i=>mkEv (k+3*(sumL L i:Nat)))/\Touch P w w':=by
 have hl':(n:Int)<=1048576:=by omega
 obtain ⟨a1,c1,rfl⟩:=zW o.row
 have O:Hid (LE true w P (.slice a1 n c1) n u L H):=o
 have HL:Hid (sumL L n<=1048576):=hl
 clear o hl
 go_enter Tryz.func83,Tryz.ntmps83
 go_wp2_with fail
 go_loopw [1,5] (fun q i wr=>∃ j:Nat,j<=n/\i=.int .i64 j/\q=.int .i64 (k+3*(sumL L j:Nat))/\Hid (LL true 85 3 75 wr P (.slice a1 n c1) n u L (fun t=>fE (if t<j then mkEv (k+3*(sumL L t:Nat)) else H t) (L t))/\Touch P w wr)) (fun _ i _=>n - (intOf i).toNat)
 case atStart=>exact ⟨0,Nat.zero_le _,rfl,by simp [sumL],O.out.cast fun i _=>by rw [if_neg (by omega)],Touch.refl _ _⟩
 case round=>
  obtain ⟨j,hj,rfl,rfl,HT⟩:=hrel
  by_cases hlt:j<n
  ·have hlt':(j:Int)<(n:Int):=by omega
   obtain ⟨g1,m1,e1,-,-,ck,-⟩:=HT.out.1.cell hlt
   obtain rfl:=slice_form e1
   have how:=HT.out.1.own j hlt
   rw [if_neg (by omega)] at how
   obtain ⟨b,m,f1,lb,-,-⟩:=atE how (HT.out.1.nn (nzT _) j hlt)
   rw [f1] at ck how
   have OW:Hid (wr.ownsRow 0 85 3 (.slice (some ⟨b,0,none⟩) (L j) m) (L j) (fE (H j) (L j))):=how
   have HU:Hid (u j=.slice (some ⟨b,0,none⟩) (L j) m):=f1
   have hsl:=sumL_at L hlt
   have hS:=HL.out
   have e1':k+3*(sumL L j:Nat)+3*(L j:Int)=k+3*(sumL L (j+1):Nat):=by simp only [sumL];omega
   have HE:Hid (k+3*(sumL L j:Nat)+3*(L j:Int)=k+3*(sumL L (j+1):Nat)):=e1'
   have e2:0<=k+3*(sumL L j:Nat):=by omega
   have e3:k+3*(sumL L j:Nat)<=100000000:=by omega
   have e4:L j<=1048576:=by omega
   clear e1' hS hsl how f1 e1
   go_wp2_with fail
   refine (markEventS_own b (L j) m 0 (H j) _ wr e4 e2 e3 OW.out).mono ?_
   rintro e w1 ⟨rfl,g1',o1⟩
   rw [HE.out]
   have HT1:Hid (LL true 85 3 75 w1 P (.slice (some ⟨g1,0,none⟩) n c1) n u L (fun t=>fE (if t<j+1 then mkEv (k+3*(sumL L t:Nat)) else H t) (L t))/\Touch P w w1):=by
    refine ⟨(HT.out.1.remark hlt (c':=fE (mkEv (k+3*(sumL L j:Nat))) (L j)) (by rw [HU.out];exact o1) fun q hq hne=>g1'.block q hq fun e=>hne (by rw [HU.out,e];rfl)).cast fun t ht=>?_,HT.out.2.trans (Touch.of_grown g1' fun q e=>HT.out.1.ob j hlt q (by rw [HU.out,<- e];rfl))⟩
    by_cases et:t=j
    ·rw [if_pos et,if_pos (by omega),et]
    ·rw [if_neg et]
     by_cases e2:t<j
     ·rw [if_pos e2,if_pos (by omega)]
     ·rw [if_neg e2,if_neg (by omega)]
   clear HT e2 e3 e4 g1' o1 ck
   go_wp2
   go_roundw
   case rel=>exact ⟨j+1,by omega,by go_num,rfl,HT1.out⟩
   case measure=>simp [intOf];omega
  ·have hkl:j=n:=by omega
   subst hkl
   have HT1:Hid (LE true wr P (.slice a1 j c1) j u L (fun i=>mkEv (k+3*(sumL L i:Nat)))/\Touch P w wr):=⟨HT.out.1.cast fun t ht=>by rw [if_pos ht],HT.out.2⟩
   clear HT
   go_wp2
   go_ret
   exact ⟨rfl,HT1.out⟩
theorem heldEventSS_own (v:Value) (P:Nat->Prop) (n:Nat) (u:Nat->Value) (L:Nat->Nat) (k:Int) (w:World) (hn:n<=1048576) (hl:sumL L n<=1048576) (k0:0<=k) (k1:k<=50000000) (o:LE true w P v n u L (fun i=>mkEv (k+3*(sumL L i:Nat)))):
  Calls Tryz.prog 87 #[v,.int .i64 k] w fun e w'=>e=.returned (.int .i64 (k+3*(sumL L n:Nat)))/\Below w.heap.size w w':=by
 have hl':(n:Int)<=1048576:=by omega
 obtain ⟨a1,c1,rfl⟩:=zW o.row
 have O:Hid (LE true w P (.slice a1 n c1) n u L (fun i=>mkEv (k+3*(sumL L i:Nat)))):=o
 have HL:Hid (sumL L n<=1048576):=hl
 clear o hl
 go_enter Tryz.func87,Tryz.ntmps87
 go_wp2_with fail
 go_loopw [1,5] (fun q i wr=>∃ j:Nat,j<=n/\i=.int .i64 j/\q=.int .i64 (k+3*(sumL L j:Nat))/\Below w.heap.size w wr) (fun _ i _=>n - (intOf i).toNat)
 case atStart=>exact ⟨0,Nat.zero_le _,rfl,by simp [sumL],Below.refl _ _⟩
 case round=>
  obtain ⟨j,hj,rfl,rfl,hbw⟩:=hrel
  by_cases hlt:j<n
  ·have hlt':(j:Int)<(n:Int):=by omega
   have Q:=O.out.below hbw
   obtain ⟨g1,m1,e1,-,-,ck,-⟩:=Q.cell hlt
   obtain rfl:=slice_form e1
   obtain ⟨b,m,f1,lb,it,-⟩:=atE (Q.own j hlt) (Q.nn (nzT _) j hlt)
   rw [f1] at ck
   have IT:Hid (EvAt wr b 0 (L j) (mkEv (k+3*(sumL L j:Nat)))/\b<wr.heap.size):=⟨it,lb⟩
   have hsl:=sumL_at L hlt
   have hS:=HL.out
   have e1':k+3*(sumL L j:Nat)+3*(L j:Int)=k+3*(sumL L (j+1):Nat):=by simp only [sumL];omega
   have HE:Hid (k+3*(sumL L j:Nat)+3*(L j:Int)=k+3*(sumL L (j+1):Nat)):=e1'
   have e2:0<=k+3*(sumL L j:Nat):=by omega
   have e3:k+3*(sumL L j:Nat)<=100000000:=by omega
   have e4:L j<=1048576:=by omega
   have e5:¬ (k+3*(sumL L (j+1):Nat)<0):=by omega
   clear e1' hS hsl Q f1 it lb e1
   go_wp2_with fail
   refine (heldEventS_own b (L j) m _ wr e4 e2 e3 IT.out.2 IT.out.1).mono ?_
   rintro e w1 ⟨rfl,b1⟩
   rw [HE.out]
   have B1:Hid (Below w.heap.size w w1):=hbw.trans (b1.mono hbw.size)
   clear b1 e2 e3 e4 ck hbw
   go_wp2
   go_roundw
   case rel=>exact ⟨j+1,by omega,by go_num,rfl,B1.out⟩
   case measure=>simp [intOf];omega
  ·have hkl:j=n:=by omega
   subst hkl
   go_wp2
   go_ret
   exact ⟨rfl,hbw⟩
def mkS (x:Int) (s:S4):S4:=⟨x,marks (x+1) s.rs.length,marks (x+1+s.rs.length) s.os.length,x+1+s.rs.length+s.os.length⟩
theorem flat_set14 {f:Nat->List Value} {n i:Nat} (hl:∀ j,j<n->(f j).length=4) (_hi:i<n) {a0 d0 b c:Value} (hf:f i=[a0,b,c,d0]) (a d:Value):
  flat (fun j=>if j=i then [a,b,c,d] else f j) n=((flat f n).set (i*4) a).set (i*4+3) d:=by
 have hl':∀ j,j<n->((fun j=>if j=i then [a,b,c,d] else f j) j).length=4:=fun j hj=>by
  by_cases e:j=i
  ·simp [e]
  ·simp [e,hl j hj]
 have n1:=flat_len hl
 have n2:=flat_len hl'
 apply List.ext_getElem?
 intro q
 by_cases hq:q<n*4
 ·have hk:q / 4<n:=by omega
  have hr:q % 4<4:=by omega
  have e0:q=q / 4*4+q % 4:=by omega
  have e1:=flat_at hl' hk hr
  have e2:=flat_at hl hk hr
  rw [<- e0] at e1 e2
  rw [e1]
  simp only [List.getElem?_set,List.length_set,n1]
  by_cases ei:q / 4=i
  ·simp only [if_pos ei]
   rw [ei,hf] at e2
   have hrK:q % 4=0\/q % 4=1\/q % 4=2\/q % 4=3:=by omega
   rcases hrK with h | h | h | h <;> rw [h] at e2 ⊢
   ·rw [if_neg (by omega),if_pos (by omega),if_pos (by omega)]
    simp
   ·rw [if_neg (by omega),if_neg (by omega),e2]
    simp
   ·rw [if_neg (by omega),if_neg (by omega),e2]
    simp
   ·rw [if_pos (by omega),if_pos (by omega)]
    simp
  ·simp only [if_neg ei]
   rw [if_neg (by omega),if_neg (by omega),e2]
 ·rw [List.getElem?_eq_none (by omega),List.getElem?_eq_none (by simp only [List.length_set];omega)]
theorem LS.mark {w:World} {P:Nat->Prop} {n:Nat} {vs:Nat->Value} {S:Nat->S4} {g cap j:Nat} (o:LS w P (.slice (some ⟨g,0,none⟩) n cap) n vs S) (hj:j<n) {p code:Int} {ra oa:Option Addr} {rn rc on oc:Nat} (hv:vs j=stV p ra rn rc oa on oc code) (X C:Int) {w1 w2:World} {rs' os':List Int}
  (g1:(w.setCell ⟨g,j*4,none⟩ (.int .i64 X)).grownBy w1 (Value.slice ra rn rc).ownBlock) (g2:w1.grownBy w2 (Value.slice oa on oc).ownBlock) (r1:OwnI w2 0 (.slice ra rn rc) rs') (r2:OwnI w2 0 (.slice oa on oc) os'):
  LS (w2.setCell ⟨g,j*4+3,none⟩ (.int .i64 C)) P (.slice (some ⟨g,0,none⟩) n cap) n (fun t=>if t=j then stV X ra rn rc oa on oc C else vs t) (fun t=>if t=j then ⟨X,rs',os',C⟩ else S t)/\Touch P w (w2.setCell ⟨g,j*4+3,none⟩ (.int .i64 C)):=by
 have hg:g<w.heap.size:=(o.row.lt g rfl).2
 have hRb:∀ k,(Value.slice ra rn rc).ownBlock=some k->hasBlock (vs j) k:=fun k hk=>by rw [hv];exact (hasBlock_iff _ _ _ _ _).2 (.inl hk)
 have hOb:∀ k,(Value.slice oa on oc).ownBlock=some k->hasBlock (vs j) k:=fun k hk=>by rw [hv];exact (hasBlock_iff _ _ _ _ _).2 (.inr hk)
 have ng:¬ hasBlock (vs j) g:=fun h=>o.ra j hj g h rfl
 have z1:w.heap.size<=w1.heap.size:=by have:=g1.size;simpa using this
 have hkeep:∀ k,k<w.heap.size->k≠g->¬ hasBlock (vs j) k->w2.heap[k]? = w.heap[k]?:=fun k hk hne hnb=>(g2.block k (by omega) fun e=>hnb (hOb k e.symm)).trans ((g1.block k (by simpa using hk) fun e=>hnb (hRb k e.symm)).trans (zQ _ _ _ _ hne))
 have hgk:w2.heap[g]? = (w.setCell ⟨g,j*4,none⟩ (.int .i64 X)).heap[g]?:=(g2.block g (by omega) fun e=>ng (hOb g e.symm)).trans (g1.block g (by simpa using hg) fun e=>ng (hRb g e.symm))
 have lts:∀ t,t<n->∀ k,hasBlock (vs t) k->k<w.heap.size:=fun t ht k hk=>((o.own t ht).lt hk).2
 have hl:∀ t,t<n->(cellsL (vs t)).length=4:=fun t ht=>(o.own t ht).cellsL.1
 have hhb:∀ k,hasBlock (stV X ra rn rc oa on oc C) k->hasBlock (vs j) k:=fun k hk=>by
  rcases (hasBlock_iff _ _ _ _ _).1 hk with h | h
  ·exact hRb k h
  ·exact hOb k h
 refine ⟨⟨?_,fun t ht=>?_,o.rb,fun t ht k hk=>?_,fun t ht k hk=>?_,fun a b ha hb hab k hk=>?_⟩,?_⟩
 ·have e:flat (fun t=>cellsL (if t=j then stV X ra rn rc oa on oc C else vs t)) n=flat (fun t=>if t=j then [.int .i64 X,.slice ra rn rc,.slice oa on oc,.int .i64 C] else cellsL (vs t)) n:=flat_congr fun t _=>by
   by_cases et:t=j
   ·rw [if_pos et,if_pos et];rfl
   ·rw [if_neg et,if_neg et]
  rw [e,flat_set14 hl hj (by rw [hv];rfl)]
  exact (World.ownsRow.stored (ownsRow_blkL (World.ownsRow.stored o.row (j*4) (.int .i64 X)).1 fun k hk=>by cases hk;exact hgk) _ _).1
 ·by_cases et:t=j
  ·subst et
   simp only [if_true]
   obtain ⟨vr,vo,ee,-,-,hap⟩:=o.own t hj
   rw [hv] at ee
   simp only [stV,Value.agg.injEq,Array.mk.injEq,List.cons.injEq,and_true] at ee
   obtain ⟨-,rfl,rfl,-⟩:=ee
   refine ⟨.slice ra rn rc,.slice oa on oc,rfl,r1.blk fun k hk=>zQ _ _ _ _ fun (e:k=g)=>ng (by rw [<- e];exact hRb k hk),r2.blk fun k hk=>zQ _ _ _ _ fun (e:k=g)=>ng (by rw [<- e];exact hOb k hk),hap⟩
  ·simp only [if_neg et]
   exact (o.own t ht).blk fun k hk=>(zQ _ _ _ _ fun e=>o.ra t ht k hk (by rw [e];rfl)).trans (hkeep k (lts t ht k hk) (fun e=>o.ra t ht k hk (by rw [e];rfl)) fun h=>o.oa t j ht hj et k hk h)
 ·by_cases et:t=j
  ·simp only [if_pos et] at hk
   exact o.ob j hj k (hhb k hk)
  ·simp only [if_neg et] at hk
   exact o.ob t ht k hk
 ·by_cases et:t=j
  ·simp only [if_pos et] at hk
   exact o.ra j hj k (hhb k hk)
  ·simp only [if_neg et] at hk
   exact o.ra t ht k hk
 ·intro hbk
  by_cases ea:a=j
  ·have eb:b≠j:=fun e=>hab (by omega)
   simp only [if_pos ea] at hk
   simp only [if_neg eb] at hbk
   exact o.oa j b hj hb (Ne.symm eb) k (hhb k hk) hbk
  ·simp only [if_neg ea] at hk
   by_cases eb:b=j
   ·simp only [if_pos eb] at hbk
    exact o.oa a j ha hj ea k hk (hhb k hbk)
   ·simp only [if_neg eb] at hbk
    exact o.oa a b ha hb hab k hk hbk
 ·have t1:Touch P w (w.setCell ⟨g,j*4,none⟩ (.int .i64 X)):=Touch.of_set _ (o.rb g rfl) _
  have t2:Touch P (w.setCell ⟨g,j*4,none⟩ (.int .i64 X)) w1:=Touch.of_grown g1 fun k e=>o.ob j hj k (hRb k e)
  have t3:Touch P w1 w2:=Touch.of_grown g2 fun k e=>o.ob j hj k (hOb k e)
  exact ((t1.trans t2).trans t3).trans (Touch.of_set _ (o.rb g rfl) _)
theorem LS.cast {w:World} {P:Nat->Prop} {v:Value} {n:Nat} {vs:Nat->Value} {S S':Nat->S4} (o:LS w P v n vs S) (h:∀ i,i<n->S i=S' i):LS w P v n vs S':=
 ⟨o.row,fun i hi=>by rw [<- h i hi];exact o.own i hi,o.rb,o.ob,o.ra,o.oa⟩
theorem markStateS_own (v:Value) (P:Nat->Prop) (n:Nat) (vs:Nat->Value) (S:Nat->S4) (k:Int) (w:World) (hn:n<=1048576) (hl:sumL (lenS S) n<=1048576) (k0:0<=k) (k1:k<=50000000) (o:LS w P v n vs S):
  Calls Tryz.prog 81 #[v,.int .i64 k] w fun e w'=>e=.returned (.int .i64 (k+(2*n+sumL (lenS S) n:Nat)))/\(∃ us,LS w' P v n us (fun i=>mkS (k+(2*i+sumL (lenS S) i:Nat)) (S i)))/\Touch P w w':=by
 have hl':(n:Int)<=1048576:=by omega
 obtain ⟨a1,c1,rfl⟩:=zW o.row
 have O:Hid (LS w P (.slice a1 n c1) n vs S):=o
 have HL:Hid (sumL (lenS S) n<=1048576):=hl
 clear o hl
 go_enter Tryz.func81,Tryz.ntmps81
 go_wp2_with fail
 go_loopw [1,5] (fun q i wr=>∃ j:Nat,j<=n/\i=.int .i64 j/\q=.int .i64 (k+(2*j+sumL (lenS S) j:Nat))/\Hid ((∃ us,LS wr P (.slice a1 n c1) n us (fun t=>if t<j then mkS (k+(2*t+sumL (lenS S) t:Nat)) (S t) else S t))/\Touch P w wr)) (fun _ i _=>n - (intOf i).toNat)
 case atStart=>exact ⟨0,Nat.zero_le _,rfl,by simp [sumL],⟨vs,O.out.cast fun i _=>by rw [if_neg (by omega)]⟩,Touch.refl _ _⟩
 case round=>
  obtain ⟨j,hj,rfl,rfl,HT⟩:=hrel
  by_cases hlt:j<n
  ·have hlt':(j:Int)<(n:Int):=by omega
   obtain ⟨⟨us,ol⟩,tw⟩:=HT.out
   obtain ⟨D,m1,e1,Pg,hD,cel,fz⟩:=ol.cell hlt
   obtain rfl:=slice_form e1
   rw [if_neg (by omega)] at cel
   obtain ⟨ra,rc,oa,oc,ev,c0,c1',c2,c3⟩:=cel
   have how:=ol.own j hlt
   rw [if_neg (by omega),ev] at how
   obtain ⟨w1r,w1o,wap⟩:=how.parts
   have OL:Hid (LS wr P (.slice (some ⟨D,0,none⟩) n c1) n us (fun t=>if t<j then mkS (k+(2*t+sumL (lenS S) t:Nat)) (S t) else S t)):=ol
   have TW:Hid (Touch P w wr):=tw
   have OR:Hid (OwnI wr 0 (.slice ra (S j).rs.length rc) (S j).rs):=w1r
   have OO:Hid (OwnI wr 0 (.slice oa (S j).os.length oc) (S j).os):=w1o
   have AP:Hid (∀ b,(Value.slice ra (S j).rs.length rc).ownBlock=some b->(Value.slice oa (S j).os.length oc).ownBlock≠some b):=wap
   have HV:Hid (us j=stV (S j).p ra (S j).rs.length rc oa (S j).os.length oc (S j).c):=ev
   have nR:some D≠(Value.slice ra (S j).rs.length rc).ownBlock:=fun e=>ol.ra j hlt D (by rw [ev];exact (hasBlock_iff _ _ _ _ _).2 (.inl e.symm)) rfl
   have nO:some D≠(Value.slice oa (S j).os.length oc).ownBlock:=fun e=>ol.ra j hlt D (by rw [ev];exact (hasBlock_iff _ _ _ _ _).2 (.inr e.symm)) rfl
   have hsl:=sumL_at (lenS S) hlt
   have hS:=HL.out
   have hlk:lenS S j=(S j).rs.length+(S j).os.length:=rfl
   have r1:(S j).rs.length<=1048576:=by omega
   have r2:(S j).os.length<=1048576:=by omega
   have HX:Hid (mkS (k+(2*j+sumL (lenS S) j:Nat)) (S j)=mkS (k+(2*j+sumL (lenS S) j:Nat)) (S j)):=rfl
   generalize hx:k+(2*j+sumL (lenS S) j:Nat)=X at *
   have x0:0<=X:=by omega
   have x1:X<=60000000:=by omega
   have HN:Hid (X+1+(S j).rs.length+(S j).os.length+1=k+(2*(j+1)+sumL (lenS S) (j+1):Nat)):=by
    show X+1+(S j).rs.length+(S j).os.length+1=k+(2*(j+1)+sumL (lenS S) (j+1):Nat)
    simp only [sumL]
    omega
   have HJ:Hid (k+(2*j+sumL (lenS S) j:Nat)=X):=hx
   have rI:((S j).rs.length:Int)<=1048576:=by omega
   have oI:((S j).os.length:Int)<=1048576:=by omega
   clear ev wap w1r w1o how hsl hS hlk hx ol tw e1 HT HX
   go_wp2_with fail
   refine (markIntS_any ra rc 0 (S j).rs _ _ r1 (by omega) (by omega) (OR.out.blk fun b hb=>zQ _ _ _ _ fun e=>nR (by rw [hb,e]))).mono ?_
   rintro e w1 ⟨rfl,q1,g1⟩
   obtain ⟨d1,f1⟩:=gcell g1 (b:=D) (by simpa using hD) nR
   have OO1:Hid (OwnI w1 0 (.slice oa (S j).os.length oc) (S j).os):=own_apart (OO.out.blk fun b hb=>zQ _ _ _ _ fun e=>nO (by rw [hb,e])) g1 AP.out
   have hD1:D<w1.heap.size:=by have:=g1.size;simp at this;omega
   have G1:Hid (World.grownBy (wr.setCell ⟨D,j*4,none⟩ (.int .i64 X)) w1 (Value.slice ra (S j).rs.length rc).ownBlock):=g1
   have R1:Hid (OwnI w1 0 (.slice ra (S j).rs.length rc) (marks (X+1) (S j).rs.length)):=q1
   clear g1 q1
   go_wp2_with fail
   refine (markIntS_any oa oc 0 (S j).os _ _ r2 (by omega) (by omega) OO1.out).mono ?_
   rintro e w2 ⟨rfl,q2,g2⟩
   obtain ⟨d2,f2⟩:=gcell g2 (b:=D) hD1 nO
   have R2:OwnI w2 0 (.slice ra (S j).rs.length rc) (marks (X+1) (S j).rs.length):=own_apart R1.out g2 fun b hb e=>AP.out b e hb
   have HM:=OL.out.mark hlt HV.out X (X+1+(S j).rs.length+(S j).os.length) G1.out g2 R2 q2
   have HT2:Hid ((∃ us,LS (w2.setCell ⟨D,j*4+3,none⟩ (.int .i64 (X+1+(S j).rs.length+(S j).os.length))) P (.slice (some ⟨D,0,none⟩) n c1) n us (fun t=>if t<j+1 then mkS (k+(2*t+sumL (lenS S) t:Nat)) (S t) else S t))/\Touch P w (w2.setCell ⟨D,j*4+3,none⟩ (.int .i64 (X+1+(S j).rs.length+(S j).os.length)))):=by
    refine ⟨⟨_,HM.1.cast fun t ht=>?_⟩,TW.out.trans HM.2⟩
    by_cases et:t=j
    ·rw [if_pos et,if_pos (by omega),et,HJ.out]
     rfl
    ·rw [if_neg et]
     by_cases e2:t<j
     ·rw [if_pos e2,if_pos (by omega)]
     ·rw [if_neg e2,if_neg (by omega)]
   clear g2 G1 OO1 OO OR AP HV R1 R2 HM q2 OL TW
   go_wp2
   go_roundw
   case rel=>exact ⟨j+1,by omega,by go_num,by rw [HN.out],HT2.out⟩
   case measure=>simp [intOf];omega
  ·have hkl:j=n:=by omega
   subst hkl
   have HT1:Hid ((∃ us,LS wr P (.slice a1 j c1) j us (fun i=>mkS (k+(2*i+sumL (lenS S) i:Nat)) (S i)))/\Touch P w wr):=by
    obtain ⟨⟨us,ol⟩,tw⟩:=HT.out
    exact ⟨⟨us,ol.cast fun t ht=>by rw [if_pos ht]⟩,tw⟩
   clear HT
   go_wp2
   go_ret
   exact ⟨rfl,HT1.out⟩
theorem heldStateS_own (v:Value) (P:Nat->Prop) (n:Nat) (us:Nat->Value) (S:Nat->S4) (k:Int) (w:World) (hn:n<=1048576) (hl:sumL (lenS S) n<=1048576) (k0:0<=k) (k1:k<=50000000) (o:LS w P v n us (fun i=>mkS (k+(2*i+sumL (lenS S) i:Nat)) (S i))):
  Calls Tryz.prog 85 #[v,.int .i64 k] w fun e w'=>e=.returned (.int .i64 (k+(2*n+sumL (lenS S) n:Nat)))/\Below w.heap.size w w':=by
 have hl':(n:Int)<=1048576:=by omega
 obtain ⟨a1,c1,rfl⟩:=zW o.row
 have O:Hid (LS w P (.slice a1 n c1) n us (fun i=>mkS (k+(2*i+sumL (lenS S) i:Nat)) (S i))):=o
 have HL:Hid (sumL (lenS S) n<=1048576):=hl
 clear o hl
 go_enter Tryz.func85,Tryz.ntmps85
 go_wp2_with fail
 go_loopw [1,5] (fun q i wr=>∃ j:Nat,j<=n/\i=.int .i64 j/\q=.int .i64 (k+(2*j+sumL (lenS S) j:Nat))/\Below w.heap.size w wr) (fun _ i _=>n - (intOf i).toNat)
 case atStart=>exact ⟨0,Nat.zero_le _,rfl,by simp [sumL],Below.refl _ _⟩
 case round=>
  obtain ⟨j,hj,rfl,rfl,hbw⟩:=hrel
  by_cases hlt:j<n
  ·have hlt':(j:Int)<(n:Int):=by omega
   have Q:=O.out.below hbw
   obtain ⟨D,m1,e1,-,hD,⟨ra,rc,oa,oc,ev,c0,c1',c2,c3⟩,-⟩:=Q.cell hlt
   obtain rfl:=slice_form e1
   have how:=Q.own j hlt
   rw [ev] at how
   have hs1:=how.parts.1.slOf
   have hs2:=how.parts.2.1.slOf
   simp only [mkS,marks_length] at c0 c1' c2 c3 hs1 hs2
   have hsl:=sumL_at (lenS S) hlt
   have hS:=HL.out
   have hlk:lenS S j=(S j).rs.length+(S j).os.length:=rfl
   have r1:(S j).rs.length<=1048576:=by omega
   have r2:(S j).os.length<=1048576:=by omega
   generalize hx:k+(2*j+sumL (lenS S) j:Nat)=X at *
   have x0:0<=X:=by omega
   have x1:X<=60000000:=by omega
   have HN:Hid (X+1+(S j).rs.length+(S j).os.length+1=k+(2*(j+1)+sumL (lenS S) (j+1):Nat)):=by
    show X+1+(S j).rs.length+(S j).os.length+1=k+(2*(j+1)+sumL (lenS S) (j+1):Nat)
    simp only [sumL]
    omega
   have SA:Hid (Sl wr ra (marks (X+1) (S j).rs.length)/\Sl wr oa (marks (X+1+(S j).rs.length) (S j).os.length)):=⟨hs1,hs2⟩
   have rI:((S j).rs.length:Int)<=1048576:=by omega
   have oI:((S j).os.length:Int)<=1048576:=by omega
   have n1:¬ (X+1+((S j).rs.length:Int)<0):=by omega
   have n2:¬ (X+1+((S j).rs.length:Int)+((S j).os.length:Int)<0):=by omega
   clear hs1 hs2 how Q ev hsl hS hlk hx e1
   go_wp2_with fail
   refine (heldIntS_marks ra rc (S j).rs.length (X+1) wr r1 (by omega) (by omega) SA.out.1).mono ?_
   rintro e w1 ⟨rfl,hw1⟩
   rw [hw1]
   clear hw1 w1
   go_wp2_with fail
   refine (heldIntS_marks oa oc (S j).os.length (X+1+(S j).rs.length) wr r2 (by omega) (by omega) SA.out.2).mono ?_
   rintro e w1 ⟨rfl,hw1⟩
   rw [hw1]
   clear hw1 w1
   go_wp2
   go_roundw
   case rel=>exact ⟨j+1,by omega,by go_num,by rw [HN.out],hbw⟩
   case measure=>simp [intOf];omega
  ·have hkl:j=n:=by omega
   subst hkl
   go_wp2
   go_ret
   exact ⟨rfl,hbw⟩
theorem rp_congr {g:Nat->I5} {len:Nat} {eh eh':Nat->E3}:∀ {k:Nat},(∀ i,i<k->eh' i=eh i)->rp g len eh' k=rp g len eh k
 | 0,_=>rfl
 | k+1,h=>by
  show (rp g len eh' k).bind (rpStep g len (eh' k))=(rp g len eh k).bind (rpStep g len (eh k))
  rw [rp_congr fun i hi=>h i (by omega),h k (by omega)]
theorem plN_congr {eh eh':Nat->E3} {kd pr:Int}:∀ {k:Nat},(∀ i,i<k->eh' i=eh i)->plN eh' kd pr k=plN eh kd pr k
 | 0,_=>rfl
 | k+1,h=>by
  have e:=plN_congr (kd:=kd) (pr:=pr) (k:=k) fun i hi=>h i (by omega)
  have hh:hitB eh' kd pr k=hitB eh kd pr k:=by
   unfold hitB
   rw [h k (by omega)]
  unfold plN
  rw [e,hh]
theorem plN_lt {eh:Nat->E3} {kd pr:Int}:∀ {k i:Nat},i ∈ plN eh kd pr k->i<k
 | 0,i,h=>by simp [plN] at h
 | k+1,i,h=>by
  unfold plN at h
  split at h
  ·simp only [List.mem_append,List.mem_singleton] at h
   rcases h with h | h
   ·have:=plN_lt h
    omega
   ·omega
  ·have:=plN_lt h
   omega
theorem valL_congr {eh eh':Nat->E3} {kd pr:Int} {k:Nat} (h:∀ i,i<k->eh' i=eh i):valL eh' kd pr k=valL eh kd pr k:=by
 unfold valL
 rw [plN_congr h]
 exact List.map_congr_left fun i hi=>by rw [h i (plN_lt hi)]
theorem cnt_congr {eh eh':Nat->E3} {kd pr:Int} {k:Nat} (h:∀ i,i<k->eh' i=eh i):cnt eh' kd pr k=cnt eh kd pr k:=by
 unfold cnt
 rw [plN_congr h]
theorem cnt_val (eh:Nat->E3) (kd pr:Int) (k:Nat):cnt eh kd pr k=(valL eh kd pr k).length:=by simp [cnt,valL]
theorem valL_push {eh:Nat->E3} {kd pr:Int} {n:Nat} {x:E3}:valL (fun i=>if i=n then x else eh i) kd pr (n+1)=valL eh kd pr n ++ (if x.k=kd/\x.q=pr then [x.v] else []):=by
 have e:valL (fun i=>if i=n then x else eh i) kd pr n=valL eh kd pr n:=valL_congr fun i hi=>by rw [if_neg (by omega)]
 by_cases h:x.k=kd/\x.q=pr
 ·have hh:hitB (fun i=>if i=n then x else eh i) kd pr n=true:=by
   rw [hitB_iff]
   simp only [if_true]
   exact h
  rw [valL_hit hh,e,if_pos h]
  simp
 ·have hh:hitB (fun i=>if i=n then x else eh i) kd pr n=false:=by
   rcases zO (hitB (fun i=>if i=n then x else eh i) kd pr n) with t | t
   ·rw [hitB_iff] at t
    simp only [if_true] at t
    exact absurd t h
   ·exact t
  rw [valL_not hh,e,if_neg h,List.append_nil]
theorem numL_congr {H H':Nat->I2}:∀ {n:Nat},(∀ i,i<n->H' i=H i)->numL H' n=numL H n
 | 0,_=>rfl
 | n+1,h=>by
  unfold numL
  rw [numL_congr fun i hi=>h i (by omega),h n (by omega)]
theorem numL_push (H:Nat->I2) (n:Nat) (v:Int):numL (fun i=>if i=n then ⟨false,v⟩ else H i) (n+1)=numL H n ++ [v]:=by
 rw [numL_hit (by simp)]
 rw [numL_congr (H:=H) fun i hi=>by rw [if_neg (by omega)]]
 simp
theorem numL_first {H:Nat->I2} (h0:(H 0).m=false):∀ n,numL H (n+1)=(H 0).v :: numL (fun i=>H (i+1)) n
 | 0=>by rw [numL_hit h0];rfl
 | n+1=>by
  rw [numL]
  rw [numL_first h0 n]
  conv=>rhs;rw [numL]
  split <;> simp
theorem Hs.Put.more {x x':Hs} (hn:x'.n=x.n) (hl:∀ j,x.l j<=x'.l j) (he:∀ j i,i<x.l j->x'.e j i=x.e j i) {d:Nat->Nat} (h:x.Put d):x'.Put d:=by
 induction h with
 | start=>exact .start
 | next hd hp hc ih=>
  rename_i d p
  refine .next ih (by omega) ⟨zP hc.1 (hl p),fun hk=>?_⟩
  have e:=he p (d p) hc.1
  rw [e] at hk ⊢
  have hle:=hd.le
  rw [cnt_congr (fun i hi=>he p i (Nat.lt_trans hi hc.1)),cnt_congr (fun i hi=>he _ i (zP hi (hle _)))]
  exact hc.2 hk
theorem way_inj {a b p q n:Nat} (hb:b<n) (hq:q<n) (h:a*n+b=p*n+q):a=p/\b=q:=by
 have h1:(a*n+b) / n=a:=by rw [Nat.mul_comm,Nat.mul_add_div (by omega),Nat.div_eq_of_lt hb,Nat.add_zero]
 have h2:(p*n+q) / n=p:=by rw [Nat.mul_comm,Nat.mul_add_div (by omega),Nat.div_eq_of_lt hq,Nat.add_zero]
 have h3:a=p:=by rw [<- h1,<- h2,h]
 subst h3
 exact ⟨rfl,by omega⟩
theorem same_way {a b p q n:Nat} (h1:a=p) (h2:q=b):a*n+b=p*n+q:=by rw [h1,h2]
theorem Sy.Ok.next {y:Sy} (h:y.Ok) {p:Nat} (hp:p<y.pn) (hc:(y.sS p).c=0):(y.nk p=1\/y.nk p=2\/y.nk p=3\/y.nk p=4)/\(y.nk p≠2->y.nk p≠3->y.nq p=0)/\(y.nk p=2->numB (y.nv p)=true):=by
 have hr:=h.right hp hc
 rw [<- hc] at hr
 have e1:y.nk p=evK (y.pH p (y.sS p).p.toNat).o:=if_pos hr
 have e2:y.nq p=evP (y.pH p (y.sS p).p.toNat).o (y.pH p (y.sS p).p.toNat).n:=if_pos hr
 have e3:y.nv p=evW (y.pH p (y.sS p).p.toNat).o (y.pH p (y.sS p).p.toNat).a (y.sS p).rs:=if_pos hr
 obtain ⟨hpr,hs,-⟩:=right_parts hr
 obtain ⟨⟨a1,a2,a3,a4,ers,n1,n2,n3,n4⟩,⟨k,ek,hk⟩,-,-⟩:=st_parts hs
 have ek':(y.sS p).p.toNat=k:=by omega
 obtain ⟨-,-,⟨m0,m3⟩,-⟩:=ins_range (right_ins hpr hk)
 rw [ek'] at e1 e2 e3
 refine ⟨?_,?_,?_⟩
 ·rw [e1]
  unfold evK
  split
  ·exact .inr (.inl rfl)
  ·split
   ·exact .inr (.inr (.inl rfl))
   ·split
    ·exact .inr (.inr (.inr rfl))
    ·exact .inl rfl
 ·intro h2 h3
  rw [e1] at h2 h3
  rw [e2]
  unfold evK at h2 h3
  unfold evP
  by_cases e6:(y.pH p k).o=6
  ·rw [if_pos e6] at h2
   exact absurd rfl h2
  ·rw [if_neg e6] at h3 ⊢
   by_cases e7:(y.pH p k).o=7
   ·rw [if_pos e7] at h3
    exact absurd rfl h3
   ·rw [if_neg e7]
 ·intro h2
  rw [e1] at h2
  rw [e3,ers]
  have e6:(y.pH p k).o=6:=by
   unfold evK at h2
   by_cases e6:(y.pH p k).o=6
   ·exact e6
   ·rw [if_neg e6] at h2
    split at h2
    ·cases h2
    ·split at h2 <;> cases h2
  unfold evW
  rw [if_pos e6]
  obtain ⟨j,ej⟩:∃ j:Nat,(y.pH p k).a=j:=⟨(y.pH p k).a.toNat,by omega⟩
  have hj:(y.pH p k).a.toNat<4:=by omega
  match (y.pH p k).a.toNat,hj with
  | 0,_=>exact n1
  | 1,_=>exact n2
  | 2,_=>exact n3
  | 3,_=>exact n4
structure Sy.Done (y:Sy) (p:Nat) (f:Int):Prop where
 run:(y.sS p).c=0
 room:y.hL p<200
 peer:0<=y.eq p f/\y.eq p f<(y.pn:Int)
 send:y.nk p=2->y.wL (p*y.pn+(y.eq p f).toNat)<12/\numB (y.ev p f)=true
 take:y.nk p=3->0<y.wL ((y.eq p f).toNat*y.pn+p)/\(y.wH ((y.eq p f).toNat*y.pn+p) 0).m=false/\(y.wH ((y.eq p f).toNat*y.pn+p) 0).v=y.ev p f/\numB (y.ev p f)=true
 can:doB (y.pH p) (y.pL p) (y.sS p).p (y.sS p).rs (y.sS p).os (y.sS p).c (y.nk p) (y.eq p f) (y.ev p f)=true
theorem Sy.Ok.done {y:Sy} (h:y.Ok) {p:Nat} (hp:p<y.pn) {f:Int} (hc:cmS y p f=0):y.Done p f:=by
 unfold cmS at hc
 have h4:y.pn<=4:=h.cn.1.2
 have h1:1<=y.pn:=h.cn.1.1
 by_cases c0:(y.sS p).c=0
 case neg=>
  rw [if_pos c0] at hc
  cases hc
 rw [if_neg (by simpa using c0)] at hc
 by_cases c1:fuS y p (y.nk p) (y.nq p)=true
 ·rw [if_pos c1] at hc
  cases hc
 rw [if_neg c1] at hc
 have hfu:y.hL p<200/\(y.nk p=2->y.wL (p*y.pn+(y.nq p).toNat)<12):=by
  simp only [fuS,Bool.or_eq_true,decide_eq_true_eq,Bool.and_eq_true,beq_iff_eq,not_or,not_and] at c1
  exact ⟨by omega,fun h2=>by have:=c1.2 h2;omega⟩
 obtain ⟨hk,hq0,hnv⟩:=h.next hp c0
 by_cases k3:y.nk p=3
 ·rw [if_pos k3] at hc
  have eQ:y.eq p f=if y.nq p=9 then f else y.nq p:=if_pos k3
  rw [<- eQ] at hc
  have eV:y.ev p f=(y.wH ((y.eq p f).toNat*y.pn+p) 0).v:=if_pos k3
  unfold tkS at hc
  by_cases b:belB (y.eq p f) y.pn=true
  case neg=>
   rw [if_neg b] at hc
   cases hc
  rw [if_pos b] at hc
  have hb:0<=y.eq p f/\y.eq p f<(y.pn:Int):=by simpa [belB] using b
  by_cases w0:y.wL ((y.eq p f).toNat*y.pn+p)=0
  ·rw [if_pos w0] at hc
   cases hc
  rw [if_neg w0] at hc
  by_cases m0:(y.wH ((y.eq p f).toNat*y.pn+p) 0).m=true
  ·rw [if_pos m0] at hc
   cases hc
  have hv:numB (y.ev p f)=true:=by
   have:=(h.wa (y.eq p f).toNat (by omega) p hp).it 0 (by omega)
   simp only [itemB,Bool.and_eq_true] at this
   rw [eV]
   exact this.1
  refine ⟨c0,hfu.1,hb,(fun h2=>by rw [k3] at h2;cases h2),fun _=>⟨by omega,by simpa using m0,eV.symm,hv⟩,?_⟩
  have e3:nxK (y.pH p) (y.pL p) (y.sS p).p (y.sS p).rs (y.sS p).os (y.sS p).c=3:=k3
  unfold doB canB
  rw [if_pos e3,k3,hv]
  simp only [beq_self_eq_true,Bool.true_and]
  by_cases e9:y.nq p=9
  ·have e9':nxP (y.pH p) (y.pL p) (y.sS p).p (y.sS p).rs (y.sS p).os (y.sS p).c=9:=e9
   rw [if_pos e9']
   simp only [belB,decide_eq_true_eq]
   omega
  ·have e9':¬ nxP (y.pH p) (y.pL p) (y.sS p).p (y.sS p).rs (y.sS p).os (y.sS p).c=9:=e9
   rw [if_neg e9',eQ,if_neg e9]
   simp [Sy.nq]
 ·have eQ:y.eq p f=y.nq p:=if_neg k3
  have eV:y.ev p f=y.nv p:=if_neg k3
  have hpe:0<=y.nq p/\y.nq p<(y.pn:Int):=by
   by_cases k2:y.nk p=2
   ·exact h.peer hp k2
   ·rw [hq0 k2 k3]
    omega
  refine ⟨c0,hfu.1,by rw [eQ];exact hpe,fun h2=>⟨by rw [eQ];exact hfu.2 h2,by rw [eV];exact hnv h2⟩,fun h3=>absurd h3 k3,?_⟩
  have e3:¬ nxK (y.pH p) (y.pL p) (y.sS p).p (y.sS p).rs (y.sS p).os (y.sS p).c=3:=k3
  have e0:y.nk p≠0:=by omega
  unfold doB canB
  rw [if_neg e3,eQ,eV]
  simp only [Bool.and_eq_true,bne_iff_ne,beq_iff_eq]
  exact ⟨e0,rfl,rfl,rfl⟩
theorem Sy.Ok.step {y:Sy} (h:y.Ok) {p:Nat} (hp:p<y.pn) {f:Int} (hc:cmS y p f=0):(y.step p f).Ok:=by
 have D:=h.done hp hc
 have e:y.step p f=(y.way p (y.nk p) (y.eq p f) (y.ev p f)).evt p (y.nk p) (y.eq p f) (y.ev p f):=if_pos hc
 rw [e]
 obtain ⟨q,hq⟩:∃ q:Nat,y.eq p f=q:=⟨(y.eq p f).toNat,by have:=D.peer;omega⟩
 have hqn:q<y.pn:=by have:=D.peer;omega
 have D':=D
 obtain ⟨run,room,peer,send,take,can⟩:=D
 rw [hq,Int.toNat_natCast] at send take
 rw [hq] at can ⊢
 generalize hV:y.ev p f=V at *
 obtain ⟨kk,-,-⟩:=h.next hp run
 generalize hK:y.nk p=K at *
 clear hV hK e hc hq peer D'
 -- what happened to each,now
 have hH:∀ a kd pr,valL (((y.way p K q V).evt p K q V).hH a) kd pr (((y.way p K q V).evt p K q V).hL a)=valL (y.hH a) kd pr (y.hL a) ++ (if a=p/\K=kd/\(q:Int)=pr then [V] else []):=by
  intro a kd pr
  show valL (if a=p then (fun i=>if i=y.hL p then (⟨K,q,V⟩:E3) else y.hH p i) else y.hH a) kd pr (if a=p then y.hL p+1 else y.hL a)=_
  by_cases ea:a=p
  ·subst ea
   simp only [if_true,true_and]
   exact valL_push
  ·rw [if_neg ea,if_neg ea,if_neg (fun h=>ea h.1),List.append_nil]
 refine ⟨h.cn,h.pr,fun a ha=>?_,fun a ha i hi=>?_,fun a ha b hb=>?_,?_⟩
 ·show repO (y.pH a) (y.pL a) (if a=p then (fun i=>if i=y.hL p then (⟨K,q,V⟩:E3) else y.hH p i) else y.hH a) (if a=p then y.hL p+1 else y.hL a)=some (if a=p then doS (y.pH p) (y.pL p) (y.sS p).p (y.sS p).rs (y.sS p).os (y.sS p).c K q V else y.sS a)
  by_cases ea:a=p
  ·subst ea
   simp only [if_true]
   have h0:=repO_some (h.rp a hp)
   unfold repO
   rw [if_pos ⟨h0.1,by omega⟩]
   have hr:Go.Proofs.YtlpckaoldaijlaaGreatDoor.rp (y.pH a) (y.pL a) (fun i=>if i=y.hL a then (⟨K,q,V⟩:E3) else y.hH a i) (y.hL a)=some (y.sS a):=(rp_congr fun i hi=>by rw [if_neg (by omega)]).trans h0.2.2
   have:=rp_yes hr (by simpa using can)
   simpa using this
  ·rw [if_neg ea,if_neg ea,if_neg ea]
   exact h.rp a ha
 ·have hi':i<(if a=p then y.hL p+1 else y.hL a):=hi
  show ((if a=p then (fun i=>if i=y.hL p then (⟨K,q,V⟩:E3) else y.hH p i) else y.hH a) i).q<(y.pn:Int)
  by_cases ea:a=p
  ·subst ea
   simp only [if_true] at hi' ⊢
   by_cases ei:i=y.hL a
   ·rw [if_pos ei]
    show (q:Int)<_
    omega
   ·rw [if_neg ei]
    exact h.pe a hp i (by omega)
  ·rw [if_neg ea] at hi' ⊢
   exact h.pe a ha i hi'
 ·have wab:=h.wa a ha b hb
  rw [hH b 3 a,hH a 2 b]
  show WayP (((y.way p K q V)).wH (a*y.pn+b)) ((y.way p K q V).wL (a*y.pn+b)) _ _
  by_cases k2:K=2
  ·subst k2
   rw [Sy.way_send,if_neg (fun h=>by have:=h.2.1;omega),List.append_nil]
   show WayP (if a*y.pn+b=p*y.pn+q then (fun i=>if i=y.wL (p*y.pn+q) then ⟨false,V⟩ else y.wH (p*y.pn+q) i) else y.wH (a*y.pn+b)) (if a*y.pn+b=p*y.pn+q then y.wL (p*y.pn+q)+1 else y.wL (a*y.pn+b)) _ _
   by_cases ew:a*y.pn+b=p*y.pn+q
   ·obtain ⟨rfl,rfl⟩:=way_inj hb hqn ew
    simp only [if_true]
    rw [if_pos ⟨trivial,trivial,trivial⟩]
    obtain ⟨s1,s2⟩:=send rfl
    refine ⟨fun i hi=>?_,by omega,?_⟩
    ·by_cases ei:i=y.wL (a*y.pn+b)
     ·rw [if_pos ei]
      simp [itemB,s2]
     ·rw [if_neg ei]
      exact wab.it i (by omega)
    ·rw [numL_push,<- List.append_assoc,wab.eq]
   ·rw [if_neg ew,if_neg ew,if_neg (fun h=>ew (same_way h.1 (Int.ofNat_inj.1 h.2.2))),List.append_nil]
    exact wab
  ·by_cases k3:K=3
   ·subst k3
    rw [Sy.way_take,if_neg (c:=a=p/\(3:Int)=2/\_) (fun h=>by have:=h.2.1;omega),List.append_nil]
    show WayP (if a*y.pn+b=q*y.pn+p then (fun i=>y.wH (q*y.pn+p) (i+1)) else y.wH (a*y.pn+b)) (if a*y.pn+b=q*y.pn+p then y.wL (q*y.pn+p) - 1 else y.wL (a*y.pn+b)) _ _
    by_cases ew:a*y.pn+b=q*y.pn+p
    ·obtain ⟨rfl,rfl⟩:=way_inj hb hp ew
     simp only [if_true]
     rw [if_pos ⟨trivial,trivial,trivial⟩]
     obtain ⟨t1,t2,t3,-⟩:=take rfl
     obtain ⟨m,em⟩:∃ m,y.wL (a*y.pn+b)=m+1:=⟨y.wL (a*y.pn+b) - 1,by omega⟩
     have weq:=wab.eq
     have wle:=wab.le
     have wit:=wab.it
     rw [em] at weq wle wit ⊢
     rw [Nat.add_sub_cancel]
     refine ⟨fun i hi=>wit (i+1) (by omega),by omega,?_⟩
     rw [numL_first t2,t3] at weq
     rw [List.append_assoc]
     exact weq
    ·rw [if_neg ew,if_neg ew,if_neg (fun h=>ew (same_way (Int.ofNat_inj.1 h.2.2).symm h.1.symm)),List.append_nil]
     exact wab
   ·rw [Sy.way_no y p k2 k3,if_neg (fun h=>k3 h.2.1),if_neg (fun h=>k2 h.2.1),List.append_nil,List.append_nil]
    exact wab
 ·obtain ⟨d,hd,hall⟩:=h.ro
  have hd':((y.way p K q V).evt p K q V).hs.Put d:=by
   refine Hs.Put.more (x:=y.hs) (x':=((y.way p K q V).evt p K q V).hs) rfl (fun j=>?_) (fun j i hi=>?_) hd
   ·show y.hL j<=if j=p then y.hL p+1 else y.hL j
    by_cases ej:j=p
    ·rw [if_pos ej,ej];omega
    ·rw [if_neg ej];exact Nat.le_refl _
   ·have hi':i<y.hL j:=hi
    show (if j=p then (fun i=>if i=y.hL p then (⟨K,q,V⟩:E3) else y.hH p i) else y.hH j) i=y.hH j i
    by_cases ej:j=p
    ·subst ej
     rw [if_pos rfl,if_neg (by omega)]
    ·rw [if_neg ej]
  have hdp:d p=y.hL p:=hall p hp
  have epH:∀ a,a≠p->((y.way p K q V).evt p K q V).hs.e a=y.hH a:=fun a ha=>by
   show (if a=p then _ else y.hH a)=_
   rw [if_neg ha]
  have epp:((y.way p K q V).evt p K q V).hs.e p=fun i=>if i=y.hL p then (⟨K,q,V⟩:E3) else y.hH p i:=by
   show (if p=p then _ else y.hH p)=_
   rw [if_pos rfl]
   rfl
  have elp:((y.way p K q V).evt p K q V).hs.l p=y.hL p+1:=by
   show (if p=p then _ else y.hL p)=_
   rw [if_pos rfl]
   rfl
  have ece:∀ a kd pr,a<y.pn->cnt (((y.way p K q V).evt p K q V).hs.e a) kd pr (d a)=(valL (y.hH a) kd pr (y.hL a)).length:=fun a kd pr ha=>by
   have hda:d a=y.hL a:=hall a ha
   rw [hda,<- cnt_val]
   refine cnt_congr fun i hi=>?_
   by_cases ea:a=p
   ·subst ea
    rw [epp]
    show (if i=y.hL a then (⟨K,q,V⟩:E3) else y.hH a i)=y.hH a i
    rw [if_neg (by omega)]
   ·rw [epH a ea]
  refine ⟨up d p,.next hd' hp ⟨by rw [elp,hdp];omega,fun hk=>?_⟩,fun a ha=>?_⟩
  ·have ee:((y.way p K q V).evt p K q V).hs.e p (d p)=⟨K,q,V⟩:=by rw [epp,hdp];exact if_pos rfl
   rw [ee] at hk ⊢
   have hk':K=3:=hk
   show cnt _ 3 (q:Int) _<cnt (((y.way p K q V).evt p K q V).hs.e (q:Int).toNat) 2 p (d (q:Int).toNat)
   rw [Int.toNat_natCast,ece p 3 q hp,ece q 2 p hqn]
   obtain ⟨t1,t2,-⟩:=take hk'
   obtain ⟨m,em⟩:∃ m,y.wL (q*y.pn+p)=m+1:=⟨y.wL (q*y.pn+p) - 1,by omega⟩
   have weq:=(h.wa q hqn p hp).eq
   rw [em,numL_first t2] at weq
   have:=congrArg List.length weq
   simp only [List.length_append,List.length_cons] at this
   omega
  ·have hda:d a=y.hL a:=hall a ha
   by_cases ea:a=p
   ·subst ea
    rw [up_same,elp,hdp]
   ·rw [up_other ea,hda]
    show y.hL a=if a=p then _ else y.hL a
    rw [if_neg ea]
