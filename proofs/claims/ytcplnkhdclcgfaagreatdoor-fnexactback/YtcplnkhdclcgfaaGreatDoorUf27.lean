import Derived.Test.YtcplnkhdclcgfaaGreatDoorUf0
import Derived.Test.YtcplnkhdclcgfaaGreatDoorUf24
import Derived.LaidEql
import Derived.Stop.Asserts
import Derived.RowKitTokens
import Derived.Test.YtcplnkhdclcgfaaGreatDoorUf21
import Derived.Test.YtcplnkhdclcgfaaGreatDoorUf22
namespace Go.Proofs.YtcplnkhdclcgfaaGreatDoor
set_option maxRecDepth 100000
set_option maxHeartbeats 2000000
open Go.RowKit Go.Extern.Stop Go.Stop Go.Extern
theorem as_nil (t:Value) (w:World):
  Calls Tryz.prog 150 #[.nilIface,t] w fun e w'=>e=.returned (.bool false)/\w'=w:=by
 go_enter Tryz.func150,Tryz.ntmps150
 go_wp2
 go_ret
 exact ⟨rfl,rfl⟩
theorem valueOfT (t:Addr) (w:World):(ReflectliteValue.unpack (.iface 178 (.pointer (some t)))).run Tryz.prog w
  = .ok (.agg #[.pointer (some ⟨1,178,none⟩),.pointer (some ⟨w.heap.size,0,none⟩),.int .u64 150]) (w.alloc (.cells #[.pointer (some t)] 178)):=by kernel_rfl
theorem typeT (a : Addr) (w : World) : (ReflectliteValue.methodAny (ReflectliteValue.valueError "reflectlite.Value.Type" 0) (fun t _ _ _ => ReflectliteType.toType t) #[.agg #[.pointer (some ⟨1, 178, none⟩), .pointer (some a), .int .u64 150]]).run Tryz.prog w
  = .ok (.iface 272 (.agg #[.pointer (some ⟨1,178,none⟩)])) w:=by kernel_rfl
theorem kindT (w:World):((ReflectliteType.abiMethod fun t=>(fun a:Nat=>Value.int IntKind.u8 (a:Int)) <$> Rtype.kind t) #[.pointer (some ⟨1,178,none⟩)]).run Tryz.prog w=.ok (.int .u8 22) w:=by kernel_rfl
theorem kindE (w:World):((ReflectliteType.abiMethod fun t=>(fun a:Nat=>Value.int IntKind.u8 (a:Int)) <$> Rtype.kind t) #[.pointer (some ⟨1,176,none⟩)]).run Tryz.prog w=.ok (.int .u8 25) w:=by kernel_rfl
theorem rlm (z:Sem Value) (f:TypeId->Addr->Nat->Nat->Sem Value) (v:Value):
  ReflectliteValue.method z f #[v]=(do match <- ReflectliteValue.parts v with | none=>z | some (t,a,fl)=>f t a fl (fl % 32)):=rfl
theorem partsT (a:Addr) (w:World):(ReflectliteValue.parts (.agg #[.pointer (some ⟨1,178,none⟩),.pointer (some a),.int .u64 150])).run Tryz.prog w=.ok (some (178,a,150)) w:=by kernel_rfl
theorem isNilT (a p:Addr) (W:World) (ha:W.cell? a=some (.pointer (some p))):
  (ReflectliteValue.method (ReflectliteValue.valueError "reflectlite.Value.IsNil" 0) ReflectliteValue.isNil #[.agg #[.pointer (some ⟨1, 178, none⟩), .pointer (some a), .int .u64 150]]).run Tryz.prog W = .ok (.bool false) W := by
 rw [rlm]
 simp only [Sem.run_bind,partsT,Result.andThen]
 simp [ReflectliteValue.isNil,loadVar,isAgg,underlying,Tryz.underlying178,ha,Result.andThen]
theorem elemT (w:World):(ReflectliteType.method ReflectliteType.elem #[.agg #[.pointer (some ⟨1,178,none⟩)]]).run Tryz.prog w=.ok (.iface 272 (.agg #[.pointer (some ⟨1,176,none⟩)])) w:=by kernel_rfl
theorem implementsE (w : World) : (ReflectliteType.relation "Implements" ReflectliteType.implements_ #[.agg #[.pointer (some ⟨1, 176, none⟩)], .iface 272 (.agg #[.pointer (some ⟨1, 172, none⟩)])]).run Tryz.prog w = .ok (.bool true) w := by kernel_rfl
theorem typeOfE (v:Value) (w:World):(ReflectliteType.typeOf #[.iface 176 v]).run Tryz.prog w=.ok (.iface 272 (.agg #[.pointer (some ⟨1,176,none⟩)])) w:=by kernel_rfl
theorem assignableE (w : World) : (ReflectliteType.relation "AssignableTo" ReflectliteType.assignableTo #[.agg #[.pointer (some ⟨1, 176, none⟩)], .iface 272 (.agg #[.pointer (some ⟨1, 176, none⟩)])]).run Tryz.prog w = .ok (.bool true) w := by kernel_rfl
theorem valueOfE (x:Int) (w:World):(ReflectliteValue.unpack (.iface 176 (.agg #[.int .i64 x]))).run Tryz.prog w
  = .ok (.agg #[.pointer (some ⟨1,176,none⟩),.pointer (some ⟨w.heap.size,0,none⟩),.int .u64 153]) (w.alloc (.cells #[.int .i64 x] 176)):=by kernel_rfl
theorem elemOfT (w:World):(Rtype.elem? 178).run Tryz.prog w=.ok (some 176) w:=by kernel_rfl
theorem mkE (p:Addr) (w:World):(ReflectliteValue.mk 176 p ReflectliteValue.flagAddr).run Tryz.prog w=.ok (.agg #[.pointer (some ⟨1,176,none⟩),.pointer (some p),.int .u64 409]) w:=by kernel_rfl
open Go.ChangeShapes Go.WideShapes Go.ChangeAt Go.RowKit Go.Deep
theorem slice_form {a:Option Addr} {n c m g cap:Nat} (e:Value.slice a n c=.slice (some ⟨g,0,none⟩) m cap):a=some ⟨g,0,none⟩:=by
 simp only [Value.slice.injEq] at e
 exact e.1
theorem eqInsSS_own (v1 v2:Value) (P1 P2:Nat->Prop) (n:Nat) (u1 u2:Nat->Value) (L:Nat->Nat) (H:Nat->Nat->I5) (w:World) (hn:n<=1048576) (hl:∀ i,i<n->L i<=1048576) (o1:LI true w P1 v1 n u1 L H) (o2:LI true w P2 v2 n u2 L H):
  Calls Tryz.prog 71 #[v1,v2] w fun e w'=>e=.returned (.bool true)/\Below w.heap.size w w':=by
 have hl':(n:Int)<=1048576:=by omega
 obtain ⟨a1,c1,rfl⟩:=zU o1.row
 obtain ⟨a2,c2,rfl⟩:=zU o2.row
 have O1:Hid (LI true w P1 (.slice a1 n c1) n u1 L H):=o1
 have O2:Hid (LI true w P2 (.slice a2 n c2) n u2 L H):=o2
 have HL:Hid (∀ i,i<n->L i<=1048576):=hl
 clear o1 o2 hl
 go_enter Tryz.func71,Tryz.ntmps71
 go_wp2_with fail
 go_loopw [5] (fun i wr=>∃ k:Nat,k<=n/\i=.int .i64 k/\Below w.heap.size w wr) (fun i _=>n - (intOf i).toNat)
 case atStart=>exact ⟨0,Nat.zero_le _,rfl,Below.refl _ _⟩
 case round=>
  obtain ⟨k,hk,rfl,hbw⟩:=hrel
  have hs:=hbw.size
  by_cases hlt:k<n
  ·have Q1:=O1.out.below hbw
   have Q2:=O2.out.below hbw
   obtain ⟨g1,k1,e1,-,-,ck,-⟩:=Q1.cell hlt
   obtain ⟨g2,k2,e2,-,-,dk,-⟩:=Q2.cell hlt
   obtain rfl:=slice_form e1
   obtain rfl:=slice_form e2
   obtain ⟨b1,m1,f1,l1,i1,-⟩:=atI (Q1.own k hlt) (Q1.nn (nzT _) k hlt)
   obtain ⟨b2,m2,f2,l2,i2,-⟩:=atI (Q2.own k hlt) (Q2.nn (nzT _) k hlt)
   rw [f1] at ck
   rw [f2] at dk
   have I1:Hid (InsAt wr b1 0 (L k) (H k)/\b1<wr.heap.size):=⟨i1,l1⟩
   have I2:Hid (InsAt wr b2 0 (L k) (H k)/\b2<wr.heap.size):=⟨i2,l2⟩
   have hlt':(k:Int)<(n:Int):=by omega
   clear Q1 Q2 e1 e2 f1 f2 i1 i2 l1 l2
   go_wp2_with fail
   first|(go_region_with (go_at_call 151;refine (eqInsS_same b1 b2 (L k) m1 m2 (H k) wr.drew (HL.out k hlt) I1.out.2 I2.out.2 I1.out.1 I2.out.1).mono ?_;rintro e w1 ⟨rfl,hq1⟩)) | fail
   all_goals
    go_wp2
    go_roundw
    case rel=>exact ⟨k+1,by omega,by go_num,hbw.drew.trans (hq1.mono hs)⟩
    case measure=>simp [intOf];omega
  ·go_wp2
   go_ret
   exact ⟨rfl,hbw⟩
theorem eqStateS_own (v1 v2:Value) (P1 P2:Nat->Prop) (n:Nat) (u1 u2:Nat->Value) (S:Nat->S4) (w:World) (hn:n<=1048576) (hl:∀ i,i<n->(S i).rs.length<=1048576/\(S i).os.length<=1048576) (o1:LS w P1 v1 n u1 S) (o2:LS w P2 v2 n u2 S):
  Calls Tryz.prog 72 #[v1,v2] w fun e w'=>e=.returned (.bool true)/\Below w.heap.size w w':=by
 have hl':(n:Int)<=1048576:=by omega
 obtain ⟨a1,c1,rfl⟩:=zU o1.row
 obtain ⟨a2,c2,rfl⟩:=zU o2.row
 have O1:Hid (LS w P1 (.slice a1 n c1) n u1 S):=o1
 have O2:Hid (LS w P2 (.slice a2 n c2) n u2 S):=o2
 have HL:Hid (∀ i,i<n->(S i).rs.length<=1048576/\(S i).os.length<=1048576):=hl
 clear o1 o2 hl
 go_enter Tryz.func72,Tryz.ntmps72
 go_wp2_with fail
 go_loopw [5] (fun i wr=>∃ k:Nat,k<=n/\i=.int .i64 k/\Below w.heap.size w wr) (fun i _=>n - (intOf i).toNat)
 case atStart=>exact ⟨0,Nat.zero_le _,rfl,Below.refl _ _⟩
 case round=>
  obtain ⟨k,hk,rfl,hbw⟩:=hrel
  have hs:=hbw.size
  by_cases hlt:k<n
  ·have Q1:=O1.out.below hbw
   have Q2:=O2.out.below hbw
   obtain ⟨g1,k1,e1,-,-,⟨ra,rc,oa,oc,f1,x0,x1,x2,x3⟩,-⟩:=Q1.cell hlt
   obtain ⟨g2,k2,e2,-,-,⟨ra',rc',oa',oc',f2,y0,y1,y2,y3⟩,-⟩:=Q2.cell hlt
   obtain rfl:=slice_form e1
   obtain rfl:=slice_form e2
   have hsl1:Sl wr ra (S k).rs/\Sl wr oa (S k).os:=by
    have h4:=Q1.own k hlt
    rw [f1] at h4
    exact ⟨h4.parts.1.slOf,h4.parts.2.1.slOf⟩
   have hsl2:Sl wr ra' (S k).rs/\Sl wr oa' (S k).os:=by
    have h4:=Q2.own k hlt
    rw [f2] at h4
    exact ⟨h4.parts.1.slOf,h4.parts.2.1.slOf⟩
   have H1:Hid (Sl wr ra (S k).rs/\Sl wr oa (S k).os):=hsl1
   have H2:Hid (Sl wr ra' (S k).rs/\Sl wr oa' (S k).os):=hsl2
   have hlt':(k:Int)<(n:Int):=by omega
   clear hsl1 hsl2 e1 e2 f1 f2 Q1 Q2
   go_wp2_with fail
   first|(go_region_with (go_at_call 152;refine (eqState_same _ _ ra oa ra' oa' rc oc rc' oc' (S k).rs (S k).os wr.drew (HL.out k hlt).1 (HL.out k hlt).2 H1.out.1 H1.out.2 H2.out.1 H2.out.2).mono ?_;rintro e w1 ⟨rfl,hq1⟩)) | fail
   all_goals
    go_wp2
    go_roundw
    case rel=>exact ⟨k+1,by omega,by go_num,hbw.drew.trans (hq1.mono hs)⟩
    case measure=>simp [intOf];omega
  ·go_wp2
   go_ret
   exact ⟨rfl,hbw⟩
structure Sy.Len (y:Sy):Prop where
 p:y.pn<=1048576/\∀ i,i<y.pn->y.pL i<=1048576
 s:y.sn<=1048576/\∀ i,i<y.sn->(y.sS i).rs.length<=1048576/\(y.sS i).os.length<=1048576
 w:y.wn<=1048576/\∀ i,i<y.wn->y.wL i<=1048576
 h:y.hn<=1048576/\∀ i,i<y.hn->y.hL i<=1048576
theorem LI.strong {z:Bool} {w:World} {P:Nat->Prop} {v:Value} {n:Nat} {u:Nat->Value} {L:Nat->Nat} {H:Nat->Nat->I5} (o:LI z w P v n u L H):LI true w P v n u L H:=⟨o.row,o.own,o.rb,o.ob,o.ra,o.oa,fun _=>o.nn nzI⟩
theorem eqItemS_none (b m:Nat) (w:World):Calls Tryz.prog 153 #[.slice (some ⟨b,0,none⟩) 0 m,.slice none 0 0] w fun e w'=>e=.returned (.bool true)/\Below w.heap.size w w':=by
 go_enter Tryz.func153,Tryz.ntmps153
 go_wp2_with fail
 go_loopw [5] (fun i wr=>i=.int .i64 0/\Below w.heap.size w wr) (fun _ _=>0)
 case atStart=>exact ⟨rfl,Below.refl _ _⟩
 case round=>
  obtain ⟨rfl,hbw⟩:=hrel
  go_wp2
  go_ret
  exact ⟨rfl,hbw⟩
theorem eqItemS_two {B1 B2 n:Nat} {u1 u2:Value} {g:Nat->I2} {w:World} (hn:n<=1048576) (o1:w.ownsRow B1 126 2 u1 n (fT g n)) (n1:u1≠.slice none 0 0) (o2:w.ownsRow B2 126 2 u2 n (fT g n)):
  Calls Tryz.prog 153 #[u1,u2] w fun e w'=>e=.returned (.bool true)/\Below w.heap.size w w':=by
 obtain ⟨b1,m1,rfl,l1,i1,-⟩:=atT o1 n1
 by_cases h:u2=.slice none 0 0
 ·subst h
  rcases o2.2 with ⟨-,h0⟩ | ⟨g,cap,cur,e,-⟩
  ·subst h0
   exact eqItemS_none b1 m1 w
  ·cases e
 ·obtain ⟨b2,m2,rfl,l2,i2,-⟩:=atT o2 h
  exact eqItemS_same b1 b2 n m1 m2 g w hn l1 l2 i1 i2
theorem eqItemSS_two (v1 v2:Value) (P1 P2:Nat->Prop) (n:Nat) (u1 u2:Nat->Value) (L:Nat->Nat) (H:Nat->Nat->I2) (w:World) (hn:n<=1048576) (hl:∀ i,i<n->L i<=1048576) (o1:LT true w P1 v1 n u1 L H) (o2:LT false w P2 v2 n u2 L H):
  Calls Tryz.prog 73 #[v1,v2] w fun e w'=>e=.returned (.bool true)/\Below w.heap.size w w':=by
 have hl':(n:Int)<=1048576:=by omega
 obtain ⟨a1,c1,rfl⟩:=zU o1.row
 obtain ⟨a2,c2,rfl⟩:=zU o2.row
 have O1:Hid (LT true w P1 (.slice a1 n c1) n u1 L H):=o1
 have O2:Hid (LT false w P2 (.slice a2 n c2) n u2 L H):=o2
 have HL:Hid (∀ i,i<n->L i<=1048576):=hl
 clear o1 o2 hl
 go_enter Tryz.func73,Tryz.ntmps73
 go_wp2_with fail
 go_loopw [5] (fun i wr=>∃ k:Nat,k<=n/\i=.int .i64 k/\Below w.heap.size w wr) (fun i _=>n - (intOf i).toNat)
 case atStart=>exact ⟨0,Nat.zero_le _,rfl,Below.refl _ _⟩
 case round=>
  obtain ⟨k,hk,rfl,hbw⟩:=hrel
  have hs:=hbw.size
  by_cases hlt:k<n
  ·have Q1:=O1.out.below hbw
   have Q2:=O2.out.below hbw
   obtain ⟨g1,k1,e1,-,-,ck,-⟩:=Q1.cell hlt
   obtain ⟨g2,k2,e2,-,-,dk,-⟩:=Q2.cell hlt
   obtain rfl:=slice_form e1
   obtain rfl:=slice_form e2
   obtain ⟨p1,m1,f1⟩:=zU (Q1.own k hlt)
   obtain ⟨p2,m2,f2⟩:=zU (Q2.own k hlt)
   have HC:Hid (Calls Tryz.prog 153 #[.slice p1 (L k) m1,.slice p2 (L k) m2] wr.drew fun e w'=>e=.returned (.bool true)/\Below wr.drew.heap.size wr.drew w'):=by
    have d:=(Below.refl wr.heap.size wr).drew
    have h:=eqItemS_two (HL.out k hlt) ((Q1.below d).own k hlt) (Q1.nn (nzT _) k hlt) ((Q2.below d).own k hlt)
    rw [f1,f2] at h
    exact h
   rw [f1] at ck
   rw [f2] at dk
   have hlt':(k:Int)<(n:Int):=by omega
   clear Q1 Q2 e1 e2 f1 f2
   go_wp2_with fail
   first|(go_region_with (go_at_call 153;refine HC.out.mono ?_;rintro e w1 ⟨rfl,hq1⟩)) | fail
   all_goals
    go_wp2
    go_roundw
    case rel=>exact ⟨k+1,by omega,by go_num,hbw.drew.trans (hq1.mono hs)⟩
    case measure=>simp [intOf];omega
  ·go_wp2
   go_ret
   exact ⟨rfl,hbw⟩
theorem eqEventS_none (b m:Nat) (w:World):Calls Tryz.prog 154 #[.slice (some ⟨b,0,none⟩) 0 m,.slice none 0 0] w fun e w'=>e=.returned (.bool true)/\Below w.heap.size w w':=by
 go_enter Tryz.func154,Tryz.ntmps154
 go_wp2_with fail
 go_loopw [5] (fun i wr=>i=.int .i64 0/\Below w.heap.size w wr) (fun _ _=>0)
 case atStart=>exact ⟨rfl,Below.refl _ _⟩
 case round=>
  obtain ⟨rfl,hbw⟩:=hrel
  go_wp2
  go_ret
  exact ⟨rfl,hbw⟩
theorem eqEventS_two {B1 B2 n:Nat} {u1 u2:Value} {g:Nat->E3} {w:World} (hn:n<=1048576) (o1:w.ownsRow B1 71 3 u1 n (fE g n)) (n1:u1≠.slice none 0 0) (o2:w.ownsRow B2 71 3 u2 n (fE g n)):
  Calls Tryz.prog 154 #[u1,u2] w fun e w'=>e=.returned (.bool true)/\Below w.heap.size w w':=by
 obtain ⟨b1,m1,rfl,l1,i1,-⟩:=atE o1 n1
 by_cases h:u2=.slice none 0 0
 ·subst h
  rcases o2.2 with ⟨-,h0⟩ | ⟨g,cap,cur,e,-⟩
  ·subst h0
   exact eqEventS_none b1 m1 w
  ·cases e
 ·obtain ⟨b2,m2,rfl,l2,i2,-⟩:=atE o2 h
  exact eqEventS_same b1 b2 n m1 m2 g w hn l1 l2 i1 i2
theorem eqEventSS_two (v1 v2:Value) (P1 P2:Nat->Prop) (n:Nat) (u1 u2:Nat->Value) (L:Nat->Nat) (H:Nat->Nat->E3) (w:World) (hn:n<=1048576) (hl:∀ i,i<n->L i<=1048576) (o1:LE true w P1 v1 n u1 L H) (o2:LE false w P2 v2 n u2 L H):
  Calls Tryz.prog 74 #[v1,v2] w fun e w'=>e=.returned (.bool true)/\Below w.heap.size w w':=by
 have hl':(n:Int)<=1048576:=by omega
 obtain ⟨a1,c1,rfl⟩:=zU o1.row
 obtain ⟨a2,c2,rfl⟩:=zU o2.row
 have O1:Hid (LE true w P1 (.slice a1 n c1) n u1 L H):=o1
 have O2:Hid (LE false w P2 (.slice a2 n c2) n u2 L H):=o2
 have HL:Hid (∀ i,i<n->L i<=1048576):=hl
 clear o1 o2 hl
 go_enter Tryz.func74,Tryz.ntmps74
 go_wp2_with fail
 go_loopw [5] (fun i wr=>∃ k:Nat,k<=n/\i=.int .i64 k/\Below w.heap.size w wr) (fun i _=>n - (intOf i).toNat)
 case atStart=>exact ⟨0,Nat.zero_le _,rfl,Below.refl _ _⟩
 case round=>
  obtain ⟨k,hk,rfl,hbw⟩:=hrel
  have hs:=hbw.size
  by_cases hlt:k<n
  ·have Q1:=O1.out.below hbw
   have Q2:=O2.out.below hbw
   obtain ⟨g1,k1,e1,-,-,ck,-⟩:=Q1.cell hlt
   obtain ⟨g2,k2,e2,-,-,dk,-⟩:=Q2.cell hlt
   obtain rfl:=slice_form e1
   obtain rfl:=slice_form e2
   obtain ⟨p1,m1,f1⟩:=zU (Q1.own k hlt)
   obtain ⟨p2,m2,f2⟩:=zU (Q2.own k hlt)
   have HC:Hid (Calls Tryz.prog 154 #[.slice p1 (L k) m1,.slice p2 (L k) m2] wr.drew fun e w'=>e=.returned (.bool true)/\Below wr.drew.heap.size wr.drew w'):=by
    have d:=(Below.refl wr.heap.size wr).drew
    have h:=eqEventS_two (HL.out k hlt) ((Q1.below d).own k hlt) (Q1.nn (nzT _) k hlt) ((Q2.below d).own k hlt)
    rw [f1,f2] at h
    exact h
   rw [f1] at ck
   rw [f2] at dk
   have hlt':(k:Int)<(n:Int):=by omega
   clear Q1 Q2 e1 e2 f1 f2
   go_wp2_with fail
   first|(go_region_with (go_at_call 154;refine HC.out.mono ?_;rintro e w1 ⟨rfl,hq1⟩)) | fail
   all_goals
    go_wp2
    go_roundw
    case rel=>exact ⟨k+1,by omega,by go_num,hbw.drew.trans (hq1.mono hs)⟩
    case measure=>simp [intOf];omega
  ·go_wp2
   go_ret
   exact ⟨rfl,hbw⟩
theorem eqSys_two (y:Sy) (B1 B2:Nat) (v1 v2:Value) (w:World) (hl:y.Len) (o1:OwnSys true w B1 y v1) (o2:OwnSys false w B2 y v2):
  Calls Tryz.prog 22 #[v1,v2] w fun e w'=>e=.returned (.bool true)/\Below w.heap.size w w':=by
 obtain ⟨c,vp,vs,vw,vh,up,us,uw,uh,rfl,o1⟩:=o1
 obtain ⟨d,xp,xs,xw,xh,tp,ts,tw,th,rfl,o2⟩:=o2
 obtain ⟨a1,c1,rfl⟩:=zU o1.p.row
 obtain ⟨a2,c2,rfl⟩:=zU o1.s.row
 obtain ⟨a3,c3,rfl⟩:=zU o1.t.row
 obtain ⟨a4,c4,rfl⟩:=zU o1.h.row
 obtain ⟨e1,d1,rfl⟩:=zU o2.p.row
 obtain ⟨e2,d2,rfl⟩:=zU o2.s.row
 obtain ⟨e3,d3,rfl⟩:=zU o2.t.row
 obtain ⟨e4,d4,rfl⟩:=zU o2.h.row
 have HL:Hid y.Len:=hl
 have O1:Hid (OwnS true w B1 c y (.slice a1 y.pn c1) (.slice a2 y.sn c2) (.slice a3 y.wn c3) (.slice a4 y.hn c4) up us uw uh):=o1
 have O2:Hid (OwnS false w B2 d y (.slice e1 y.pn d1) (.slice e2 y.sn d2) (.slice e3 y.wn d3) (.slice e4 y.hn d4) tp ts tw th):=o2
 have BW:Hid (Below w.heap.size w ((w.alloc (oQ5 a1 y.pn c1 a2 y.sn c2 a3 y.wn c3 a4 y.hn c4)).alloc (oQ5 e1 y.pn d1 e2 y.sn d2 e3 y.wn d3 e4 y.hn d4))):=(zQ _ _).trans ((zQ _ _).mono (by simp))
 have NA:Hid (BoxC ((w.alloc (oQ5 a1 y.pn c1 a2 y.sn c2 a3 y.wn c3 a4 y.hn c4)).alloc (oQ5 e1 y.pn d1 e2 y.sn d2 e3 y.wn d3 e4 y.hn d4)) w.heap.size (.slice a1 y.pn c1) (.slice a2 y.sn c2) (.slice a3 y.wn c3) (.slice a4 y.hn c4)):=(BoxC.new w _ _ _ _ _).below (zQ _ _)
 have NB:Hid (BoxC ((w.alloc (oQ5 a1 y.pn c1 a2 y.sn c2 a3 y.wn c3 a4 y.hn c4)).alloc (oQ5 e1 y.pn d1 e2 y.sn d2 e3 y.wn d3 e4 y.hn d4)) (w.heap.size+1) (.slice e1 y.pn d1) (.slice e2 y.sn d2) (.slice e3 y.wn d3) (.slice e4 y.hn d4)):=⟨zW _ _ _ 0 (by simp),zW _ _ _ 1 (by simp),zW _ _ _ 2 (by simp),zW _ _ _ 3 (by simp)⟩
 clear o1 o2 hl
 go_enter Tryz.func22,Tryz.ntmps22
 go_wp2_with fail
 generalize (w.alloc (oQ5 a1 y.pn c1 a2 y.sn c2 a3 y.wn c3 a4 y.hn c4)).alloc (oQ5 e1 y.pn d1 e2 y.sn d2 e3 y.wn d3 e4 y.hn d4)=wA at *
 refine (eqInsSS_own _ _ _ _ y.pn up tp y.pL y.pH wA HL.out.p.1 HL.out.p.2 (O1.out.p.below BW.out) (LI.strong (O2.out.p.below BW.out))).mono ?_
 rintro e w1 ⟨rfl,b1⟩
 have F1:Hid (Below w.heap.size w w1/\BoxC w1 w.heap.size (.slice a1 y.pn c1) (.slice a2 y.sn c2) (.slice a3 y.wn c3) (.slice a4 y.hn c4)/\BoxC w1 (w.heap.size+1) (.slice e1 y.pn d1) (.slice e2 y.sn d2) (.slice e3 y.wn d3) (.slice e4 y.hn d4)):=⟨BW.out.trans (b1.mono BW.out.size),NA.out.below b1,NB.out.below b1⟩
 clear b1 BW NA NB
 obtain ⟨-,⟨p0,p1,p2,p3⟩,⟨q0,q1,q2,q3⟩⟩:=F1.out
 go_wp2_with fail
 clear p0 p1 p2 p3 q0 q1 q2 q3
 refine (eqStateS_own _ _ _ _ y.sn us ts y.sS w1 HL.out.s.1 HL.out.s.2 (O1.out.s.below F1.out.1) (O2.out.s.below F1.out.1)).mono ?_
 rintro e w2 ⟨rfl,b2⟩
 have F2:Hid (Below w.heap.size w w2/\BoxC w2 w.heap.size (.slice a1 y.pn c1) (.slice a2 y.sn c2) (.slice a3 y.wn c3) (.slice a4 y.hn c4)/\BoxC w2 (w.heap.size+1) (.slice e1 y.pn d1) (.slice e2 y.sn d2) (.slice e3 y.wn d3) (.slice e4 y.hn d4)):=⟨F1.out.1.trans (b2.mono F1.out.1.size),F1.out.2.1.below b2,F1.out.2.2.below b2⟩
 clear b2 F1
 obtain ⟨-,⟨p0,p1,p2,p3⟩,⟨q0,q1,q2,q3⟩⟩:=F2.out
 go_wp2_with fail
 clear p0 p1 p2 p3 q0 q1 q2 q3
 refine (eqItemSS_two _ _ _ _ y.wn uw tw y.wL y.wH w2 HL.out.w.1 HL.out.w.2 (O1.out.t.below F2.out.1) (O2.out.t.below F2.out.1)).mono ?_
 rintro e w3 ⟨rfl,b3⟩
 have F3:Hid (Below w.heap.size w w3/\BoxC w3 w.heap.size (.slice a1 y.pn c1) (.slice a2 y.sn c2) (.slice a3 y.wn c3) (.slice a4 y.hn c4)/\BoxC w3 (w.heap.size+1) (.slice e1 y.pn d1) (.slice e2 y.sn d2) (.slice e3 y.wn d3) (.slice e4 y.hn d4)):=⟨F2.out.1.trans (b3.mono F2.out.1.size),F2.out.2.1.below b3,F2.out.2.2.below b3⟩
 clear b3 F2
 obtain ⟨-,⟨p0,p1,p2,p3⟩,⟨q0,q1,q2,q3⟩⟩:=F3.out
 go_wp2_with fail
 clear p0 p1 p2 p3 q0 q1 q2 q3
 refine (eqEventSS_two _ _ _ _ y.hn uh th y.hL y.hH w3 HL.out.h.1 HL.out.h.2 (O1.out.h.below F3.out.1) (O2.out.h.below F3.out.1)).mono ?_
 rintro e w4 ⟨rfl,b4⟩
 have F4:Hid (Below w.heap.size w w4):=F3.out.1.trans (b4.mono F3.out.1.size)
 clear b4 F3
 go_wp2
 go_ret
 exact ⟨rfl,F4.out⟩
