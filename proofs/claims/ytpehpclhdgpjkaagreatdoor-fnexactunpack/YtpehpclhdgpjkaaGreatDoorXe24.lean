import Derived.Test.YtpehpclhdgpjkaaGreatDoorXe0
import Derived.Test.YtpehpclhdgpjkaaGreatDoorXe23
import Derived.Test.YtpehpclhdgpjkaaGreatDoorXe21
import Derived.Test.YtpehpclhdgpjkaaGreatDoorXe20
import Derived.Test.YtpehpclhdgpjkaaGreatDoorXe18
import Derived.Laws.CopyRow
import Derived.Deep.Cut
namespace Go.Proofs.YtpehpclhdgpjkaaGreatDoor
set_option maxRecDepth 100000
set_option maxHeartbeats 2000000
open Go.RowKit Go.Extern.Stop Go.Stop Go.Extern
theorem elemVT (a p:Addr) (W:World) (ha:W.cell? a=some (.pointer (some p))):
  (ReflectliteValue.method (ReflectliteValue.valueError "reflectlite.Value.Elem" 0) ReflectliteValue.elem #[.agg #[.pointer (some ⟨1, 126, none⟩), .pointer (some a), .int .u64 150]]).run Tryz.prog W
   = .ok (.agg #[.pointer (some ⟨1,124,none⟩),.pointer (some p),.int .u64 409]) W:=by
 rw [rlm]
 simp only [Sem.run_bind,partsT,Result.andThen]
 simp [ReflectliteValue.elem,loadVar,isAgg,underlying,Tryz.underlying126,ha,Result.andThen,elemOfT,mkE]
theorem rls (v x : Value) : ReflectliteValue.set #[v, x] = (do
  let (some (dst,a,fl),some (src,b,_)):=(<- ReflectliteValue.parts v,<- ReflectliteValue.parts x)
   | unsupported (.noEntry "extern/(internal/reflectlite.Value).Set.zeroValue")
  if fl / ReflectliteValue.flagAddr % 2 == 0 then unsupported (.noEntry "extern/(internal/reflectlite.Value).Set.unaddressable")
  let val <- loadVar src b
  if <- Rtype.directlyAssignable dst src then storeVar dst a val
  else if <- Rtype.implements dst src then
   if (<- Rtype.kind src) == 20 then
    match val with
    | .nilIface => unsupported (.noEntry "extern/reflectlite: a nil value of one interface type handed on as a value of another")
    | _=>storeVar dst a val
   else storeVar dst a (.iface src val)
  else panicString ("reflectlite.Set: value of type " ++ (<- Rtype.spelt src) ++ " is not assignable to type " ++ (<- Rtype.spelt dst))
  pure (.tuple #[])):=rfl
theorem partsEa (a:Addr) (w:World):(ReflectliteValue.parts (.agg #[.pointer (some ⟨1,124,none⟩),.pointer (some a),.int .u64 409])).run Tryz.prog w=.ok (some (124,a,409)) w:=by kernel_rfl
theorem partsE (a:Addr) (w:World):(ReflectliteValue.parts (.agg #[.pointer (some ⟨1,124,none⟩),.pointer (some a),.int .u64 153])).run Tryz.prog w=.ok (some (124,a,153)) w:=by kernel_rfl
theorem directE (w:World):(Rtype.directlyAssignable 124 124).run Tryz.prog w=.ok true w:=by kernel_rfl
theorem setE (ta b:Addr) (x:Int) (old:Value) (W:World) (hb:W.cell? b=some (.int .i64 x)) (ht:W.cell? ta=some old) (hf:W.frozen? ta=false):
  (ReflectliteValue.set #[.agg #[.pointer (some ⟨1,124,none⟩),.pointer (some ta),.int .u64 409],.agg #[.pointer (some ⟨1,124,none⟩),.pointer (some b),.int .u64 153]]).run Tryz.prog W
   = .ok (.tuple #[]) (W.setCell ta (.int .i64 x)):=by
 rw [rls]
 simp only [Sem.run_bind,partsEa,partsE,Result.andThen]
 simp [ReflectliteValue.flagAddr,loadVar,loadCells,loadCellsFrom,hb,Result.andThen,directE,storeVar,Value.cells,storeCells,Addr.add]
 rw [run_store Tryz.prog W ta _ _ (by rfl)]
 simp [ht,hf]
open Go.ChangeShapes Go.WideShapes Go.ChangeAt Go.RowKit Go.Deep
theorem LI.strong {z:Bool} {w:World} {P:Nat->Prop} {v:Value} {n:Nat} {u:Nat->Value} {L:Nat->Nat} {H:Nat->Nat->I5} (o:LI z w P v n u L H):LI true w P v n u L H:=⟨o.row,o.own,o.rb,o.ob,o.ra,o.oa,fun _=>o.nn nzI⟩
theorem eqItemS_none (b m:Nat) (w:World):Calls Tryz.prog 58 #[.slice (some ⟨b,0,none⟩) 0 m,.slice none 0 0] w fun e w'=>e=.returned (.bool true)/\Below w.heap.size w w':=by
 go_enter Tryz.func58,Tryz.ntmps58
 go_wp2_with fail
 go_loopw [5] (fun i wr=>i=.int .i64 0/\Below w.heap.size w wr) (fun _ _=>0)
 case atStart=>exact ⟨rfl,Below.refl _ _⟩
 case round=>
  obtain ⟨rfl,hbw⟩:=hrel
  go_wp2
  go_ret
  exact ⟨rfl,hbw⟩
theorem eqItemS_two {B1 B2 n:Nat} {u1 u2:Value} {g:Nat->I2} {w:World} (hn:n<=1048576) (o1:w.ownsRow B1 81 2 u1 n (fT g n)) (n1:u1≠.slice none 0 0) (o2:w.ownsRow B2 81 2 u2 n (fT g n)):
  Calls Tryz.prog 58 #[u1,u2] w fun e w'=>e=.returned (.bool true)/\Below w.heap.size w w':=by
 obtain ⟨b1,m1,rfl,l1,i1,-⟩:=atT o1 n1
 by_cases h:u2=.slice none 0 0
 ·subst h
  rcases o2.2 with ⟨-,h0⟩ | ⟨g,cap,cur,e,-⟩
  ·subst h0
   exact eqItemS_none b1 m1 w
  ·cases e
 ·obtain ⟨b2,m2,rfl,l2,i2,-⟩:=atT o2 h
  exact eqItemS_same b1 b2 n m1 m2 g w hn l1 l2 i1 i2
theorem eqItemSS_two (v1 v2:Value) (P1 P2:Nat->Prop) (n:Nat) (u1 u2:Nat->Value) (L:Nat->Nat) (H:Nat->Nat->I2) (w:World) (hn:n<=1048576) (hl:∀ i,i<n->L i<=1048576) (o1:LT true w P1 v1 n u1 L H) (o2:LT false w P2 v2 n u2 L H):
  Calls Tryz.prog 21 #[v1,v2] w fun e w'=>e=.returned (.bool true)/\Below w.heap.size w w':=by
 have hl':(n:Int)<=1048576:=by omega
 obtain ⟨a1,c1,rfl⟩:=zT o1.row
 obtain ⟨a2,c2,rfl⟩:=zT o2.row
 have O1:Hid (LT true w P1 (.slice a1 n c1) n u1 L H):=o1
 have O2:Hid (LT false w P2 (.slice a2 n c2) n u2 L H):=o2
 have HL:Hid (∀ i,i<n->L i<=1048576):=hl
 clear o1 o2 hl
 go_enter Tryz.func21,Tryz.ntmps21
 go_wp2_with fail
 go_loopw [5] (fun i wr=>∃ k:Nat,k<=n/\i=.int .i64 k/\Below w.heap.size w wr) (fun i _=>n - (intOf i).toNat)
 case atStart=>exact ⟨0,Nat.zero_le _,rfl,Below.refl _ _⟩
 case round=>
  obtain ⟨k,hk,rfl,hbw⟩:=hrel
  have hs:=hbw.size
  by_cases hlt:k<n
  ·have Q1:=O1.out.below hbw
   have Q2:=O2.out.below hbw
   obtain ⟨g1,k1,e1,-,-,ck,-⟩:=Q1.cell hlt
   obtain ⟨g2,k2,e2,-,-,dk,-⟩:=Q2.cell hlt
   obtain rfl:=slice_form e1
   obtain rfl:=slice_form e2
   obtain ⟨p1,m1,f1⟩:=zT (Q1.own k hlt)
   obtain ⟨p2,m2,f2⟩:=zT (Q2.own k hlt)
   have HC:Hid (Calls Tryz.prog 58 #[.slice p1 (L k) m1,.slice p2 (L k) m2] wr.drew fun e w'=>e=.returned (.bool true)/\Below wr.drew.heap.size wr.drew w'):=by
    have d:=(Below.refl wr.heap.size wr).drew
    have h:=eqItemS_two (HL.out k hlt) ((Q1.below d).own k hlt) (Q1.nn (nzT _) k hlt) ((Q2.below d).own k hlt)
    rw [f1,f2] at h
    exact h
   rw [f1] at ck
   rw [f2] at dk
   have hlt':(k:Int)<(n:Int):=by omega
   clear Q1 Q2 e1 e2 f1 f2
   go_wp2_with fail
   first|(go_region_with (go_at_call 58;refine HC.out.mono ?_;rintro e w1 ⟨rfl,hq1⟩)) | fail
   all_goals
    go_wp2
    go_roundw
    case rel=>exact ⟨k+1,by omega,by go_num,hbw.drew.trans (hq1.mono hs)⟩
    case measure=>simp [intOf];omega
  ·go_wp2
   go_ret
   exact ⟨rfl,hbw⟩
theorem eqEventS_none (b m:Nat) (w:World):Calls Tryz.prog 59 #[.slice (some ⟨b,0,none⟩) 0 m,.slice none 0 0] w fun e w'=>e=.returned (.bool true)/\Below w.heap.size w w':=by
 go_enter Tryz.func59,Tryz.ntmps59
 go_wp2_with fail
 go_loopw [5] (fun i wr=>i=.int .i64 0/\Below w.heap.size w wr) (fun _ _=>0)
 case atStart=>exact ⟨rfl,Below.refl _ _⟩
 case round=>
  obtain ⟨rfl,hbw⟩:=hrel
  go_wp2
  go_ret
  exact ⟨rfl,hbw⟩
theorem eqEventS_two {B1 B2 n:Nat} {u1 u2:Value} {g:Nat->E3} {w:World} (hn:n<=1048576) (o1:w.ownsRow B1 46 3 u1 n (fE g n)) (n1:u1≠.slice none 0 0) (o2:w.ownsRow B2 46 3 u2 n (fE g n)):
  Calls Tryz.prog 59 #[u1,u2] w fun e w'=>e=.returned (.bool true)/\Below w.heap.size w w':=by
 obtain ⟨b1,m1,rfl,l1,i1,-⟩:=atE o1 n1
 by_cases h:u2=.slice none 0 0
 ·subst h
  rcases o2.2 with ⟨-,h0⟩ | ⟨g,cap,cur,e,-⟩
  ·subst h0
   exact eqEventS_none b1 m1 w
  ·cases e
 ·obtain ⟨b2,m2,rfl,l2,i2,-⟩:=atE o2 h
  exact eqEventS_same b1 b2 n m1 m2 g w hn l1 l2 i1 i2
theorem eqEventSS_two (v1 v2:Value) (P1 P2:Nat->Prop) (n:Nat) (u1 u2:Nat->Value) (L:Nat->Nat) (H:Nat->Nat->E3) (w:World) (hn:n<=1048576) (hl:∀ i,i<n->L i<=1048576) (o1:LE true w P1 v1 n u1 L H) (o2:LE false w P2 v2 n u2 L H):
  Calls Tryz.prog 22 #[v1,v2] w fun e w'=>e=.returned (.bool true)/\Below w.heap.size w w':=by
 have hl':(n:Int)<=1048576:=by omega
 obtain ⟨a1,c1,rfl⟩:=zT o1.row
 obtain ⟨a2,c2,rfl⟩:=zT o2.row
 have O1:Hid (LE true w P1 (.slice a1 n c1) n u1 L H):=o1
 have O2:Hid (LE false w P2 (.slice a2 n c2) n u2 L H):=o2
 have HL:Hid (∀ i,i<n->L i<=1048576):=hl
 clear o1 o2 hl
 go_enter Tryz.func22,Tryz.ntmps22
 go_wp2_with fail
 go_loopw [5] (fun i wr=>∃ k:Nat,k<=n/\i=.int .i64 k/\Below w.heap.size w wr) (fun i _=>n - (intOf i).toNat)
 case atStart=>exact ⟨0,Nat.zero_le _,rfl,Below.refl _ _⟩
 case round=>
  obtain ⟨k,hk,rfl,hbw⟩:=hrel
  have hs:=hbw.size
  by_cases hlt:k<n
  ·have Q1:=O1.out.below hbw
   have Q2:=O2.out.below hbw
   obtain ⟨g1,k1,e1,-,-,ck,-⟩:=Q1.cell hlt
   obtain ⟨g2,k2,e2,-,-,dk,-⟩:=Q2.cell hlt
   obtain rfl:=slice_form e1
   obtain rfl:=slice_form e2
   obtain ⟨p1,m1,f1⟩:=zT (Q1.own k hlt)
   obtain ⟨p2,m2,f2⟩:=zT (Q2.own k hlt)
   have HC:Hid (Calls Tryz.prog 59 #[.slice p1 (L k) m1,.slice p2 (L k) m2] wr.drew fun e w'=>e=.returned (.bool true)/\Below wr.drew.heap.size wr.drew w'):=by
    have d:=(Below.refl wr.heap.size wr).drew
    have h:=eqEventS_two (HL.out k hlt) ((Q1.below d).own k hlt) (Q1.nn (nzT _) k hlt) ((Q2.below d).own k hlt)
    rw [f1,f2] at h
    exact h
   rw [f1] at ck
   rw [f2] at dk
   have hlt':(k:Int)<(n:Int):=by omega
   clear Q1 Q2 e1 e2 f1 f2
   go_wp2_with fail
   first|(go_region_with (go_at_call 59;refine HC.out.mono ?_;rintro e w1 ⟨rfl,hq1⟩)) | fail
   all_goals
    go_wp2
    go_roundw
    case rel=>exact ⟨k+1,by omega,by go_num,hbw.drew.trans (hq1.mono hs)⟩
    case measure=>simp [intOf];omega
  ·go_wp2
   go_ret
   exact ⟨rfl,hbw⟩
theorem eqSys_two (y:Sy) (B1 B2:Nat) (v1 v2:Value) (w:World) (hl:y.Len) (o1:OwnSys true w B1 y v1) (o2:OwnSys false w B2 y v2):
  Calls Tryz.prog 7 #[v1,v2] w fun e w'=>e=.returned (.bool true)/\Below w.heap.size w w':=by
 obtain ⟨c,vp,vs,vw,vh,up,us,uw,uh,rfl,o1⟩:=o1
 obtain ⟨d,xp,xs,xw,xh,tp,ts,tw,th,rfl,o2⟩:=o2
 obtain ⟨a1,c1,rfl⟩:=zT o1.p.row
 obtain ⟨a2,c2,rfl⟩:=zT o1.s.row
 obtain ⟨a3,c3,rfl⟩:=zT o1.t.row
 obtain ⟨a4,c4,rfl⟩:=zT o1.h.row
 obtain ⟨e1,d1,rfl⟩:=zT o2.p.row
 obtain ⟨e2,d2,rfl⟩:=zT o2.s.row
 obtain ⟨e3,d3,rfl⟩:=zT o2.t.row
 obtain ⟨e4,d4,rfl⟩:=zT o2.h.row
 have HL:Hid y.Len:=hl
 have O1:Hid (OwnS true w B1 c y (.slice a1 y.pn c1) (.slice a2 y.sn c2) (.slice a3 y.wn c3) (.slice a4 y.hn c4) up us uw uh):=o1
 have O2:Hid (OwnS false w B2 d y (.slice e1 y.pn d1) (.slice e2 y.sn d2) (.slice e3 y.wn d3) (.slice e4 y.hn d4) tp ts tw th):=o2
 have BW:Hid (Below w.heap.size w ((w.alloc (oQ4 a1 y.pn c1 a2 y.sn c2 a3 y.wn c3 a4 y.hn c4)).alloc (oQ4 e1 y.pn d1 e2 y.sn d2 e3 y.wn d3 e4 y.hn d4))):=(zP _ _).trans ((zP _ _).mono (by simp))
 have NA:Hid (BoxC ((w.alloc (oQ4 a1 y.pn c1 a2 y.sn c2 a3 y.wn c3 a4 y.hn c4)).alloc (oQ4 e1 y.pn d1 e2 y.sn d2 e3 y.wn d3 e4 y.hn d4)) w.heap.size (.slice a1 y.pn c1) (.slice a2 y.sn c2) (.slice a3 y.wn c3) (.slice a4 y.hn c4)):=(BoxC.new w _ _ _ _ _).below (zP _ _)
 have NB:Hid (BoxC ((w.alloc (oQ4 a1 y.pn c1 a2 y.sn c2 a3 y.wn c3 a4 y.hn c4)).alloc (oQ4 e1 y.pn d1 e2 y.sn d2 e3 y.wn d3 e4 y.hn d4)) (w.heap.size+1) (.slice e1 y.pn d1) (.slice e2 y.sn d2) (.slice e3 y.wn d3) (.slice e4 y.hn d4)):=⟨zV _ _ _ 0 (by simp),zV _ _ _ 1 (by simp),zV _ _ _ 2 (by simp),zV _ _ _ 3 (by simp)⟩
 clear o1 o2 hl
 go_enter Tryz.func7,Tryz.ntmps7
 go_wp2_with fail
 generalize (w.alloc (oQ4 a1 y.pn c1 a2 y.sn c2 a3 y.wn c3 a4 y.hn c4)).alloc (oQ4 e1 y.pn d1 e2 y.sn d2 e3 y.wn d3 e4 y.hn d4)=wA at *
 refine (eqInsSS_own _ _ _ _ y.pn up tp y.pL y.pH wA HL.out.p.1 HL.out.p.2 (O1.out.p.below BW.out) (LI.strong (O2.out.p.below BW.out))).mono ?_
 rintro e w1 ⟨rfl,b1⟩
 have F1:Hid (Below w.heap.size w w1/\BoxC w1 w.heap.size (.slice a1 y.pn c1) (.slice a2 y.sn c2) (.slice a3 y.wn c3) (.slice a4 y.hn c4)/\BoxC w1 (w.heap.size+1) (.slice e1 y.pn d1) (.slice e2 y.sn d2) (.slice e3 y.wn d3) (.slice e4 y.hn d4)):=⟨BW.out.trans (b1.mono BW.out.size),NA.out.below b1,NB.out.below b1⟩
 clear b1 BW NA NB
 obtain ⟨-,⟨p0,p1,p2,p3⟩,⟨q0,q1,q2,q3⟩⟩:=F1.out
 go_wp2_with fail
 clear p0 p1 p2 p3 q0 q1 q2 q3
 refine (eqStateS_own _ _ _ _ y.sn us ts y.sS w1 HL.out.s.1 HL.out.s.2 (O1.out.s.below F1.out.1) (O2.out.s.below F1.out.1)).mono ?_
 rintro e w2 ⟨rfl,b2⟩
 have F2:Hid (Below w.heap.size w w2/\BoxC w2 w.heap.size (.slice a1 y.pn c1) (.slice a2 y.sn c2) (.slice a3 y.wn c3) (.slice a4 y.hn c4)/\BoxC w2 (w.heap.size+1) (.slice e1 y.pn d1) (.slice e2 y.sn d2) (.slice e3 y.wn d3) (.slice e4 y.hn d4)):=⟨F1.out.1.trans (b2.mono F1.out.1.size),F1.out.2.1.below b2,F1.out.2.2.below b2⟩
 clear b2 F1
 obtain ⟨-,⟨p0,p1,p2,p3⟩,⟨q0,q1,q2,q3⟩⟩:=F2.out
 go_wp2_with fail
 clear p0 p1 p2 p3 q0 q1 q2 q3
 refine (eqItemSS_two _ _ _ _ y.wn uw tw y.wL y.wH w2 HL.out.w.1 HL.out.w.2 (O1.out.t.below F2.out.1) (O2.out.t.below F2.out.1)).mono ?_
 rintro e w3 ⟨rfl,b3⟩
 have F3:Hid (Below w.heap.size w w3/\BoxC w3 w.heap.size (.slice a1 y.pn c1) (.slice a2 y.sn c2) (.slice a3 y.wn c3) (.slice a4 y.hn c4)/\BoxC w3 (w.heap.size+1) (.slice e1 y.pn d1) (.slice e2 y.sn d2) (.slice e3 y.wn d3) (.slice e4 y.hn d4)):=⟨F2.out.1.trans (b3.mono F2.out.1.size),F2.out.2.1.below b3,F2.out.2.2.below b3⟩
 clear b3 F2
 obtain ⟨-,⟨p0,p1,p2,p3⟩,⟨q0,q1,q2,q3⟩⟩:=F3.out
 go_wp2_with fail
 clear p0 p1 p2 p3 q0 q1 q2 q3
 refine (eqEventSS_two _ _ _ _ y.hn uh th y.hL y.hH w3 HL.out.h.1 HL.out.h.2 (O1.out.h.below F3.out.1) (O2.out.h.below F3.out.1)).mono ?_
 rintro e w4 ⟨rfl,b4⟩
 have F4:Hid (Below w.heap.size w w4):=F3.out.1.trans (b4.mono F3.out.1.size)
 clear b4 F3
 go_wp2
 go_ret
 exact ⟨rfl,F4.out⟩
theorem frm_take:∀ (k:Nat) (L F:List Int),frm k L=some F->F=L.take F.length
 | 0,_,_,h=>by simp [frm] at h
 | k+1,[],_,h=>by simp [frm] at h
 | k+1,d :: r,F,h=>by
  rw [frm] at h
  split at h
  ·cases h
   rfl
  ·cases hf:frm k r with
   | none=>rw [hf] at h;cases h
   | some G=>
    rw [hf] at h
    cases h
    rw [List.length_cons,List.take_succ_cons,<- frm_take k r G hf]
theorem frm_fm:∀ (k n:Nat) (r:List Int),n<128 ^ (k+1)->frm (k+1) (fmN k n ++ r)=some (fmN k n)
 | 0,n,r,h=>by
  simp at h
  rw [fm_last 0 n h,List.singleton_append,frm,if_pos (by omega)]
 | k+1,n,r,h=>by
  by_cases hn:n<128
  ·rw [fm_last (k+1) n hn,List.singleton_append,frm,if_pos (by omega)]
  ·obtain ⟨j,e,hj,hf⟩:=fm_step (k+1) n (by omega) h
   obtain rfl:k=j:=by omega
   rw [hf,List.cons_append,frm,if_neg (by omega),frm_fm k (n / 128) r hj]
   rfl
theorem val_fm:∀ (k n:Nat),n<128 ^ (k+1)->val (fmN k n)=n
 | 0,n,h=>by
  simp at h
  rw [fm_last 0 n h]
  simp only [val]
  omega
 | k+1,n,h=>by
  by_cases hn:n<128
  ·rw [fm_last (k+1) n hn]
   simp only [val]
   omega
  ·obtain ⟨j,e,hj,hf⟩:=fm_step (k+1) n (by omega) h
   obtain rfl:k=j:=by omega
   rw [hf,val,val_fm k (n / 128) hj]
   omega
theorem unf_fd (x:Int):unf (fd x)=x:=by
 unfold unf fd
 split <;> split <;> omega
theorem gn_put {x:Int} (h:puB x=true) (r:List Int):gnO (puL x ++ r) 0=some (x,((puL x).length:Int)):=by
 have hle:=fd_le x h
 have hb:fd x<128 ^ (4+1):=by omega
 have hp:=puL_pos x h
 have e:puL x=fmN 4 (fd x):=by rw [puL,if_pos h]
 rw [gnO,if_pos ⟨by omega,by rw [List.length_append];omega⟩]
 show (match frm 5 ((puL x ++ r).drop 0) with | none=>none | some F=>_)=_
 rw [List.drop_zero]
 have hf:frm 5 (puL x ++ r)=some (puL x):=by rw [e];exact frm_fm 4 (fd x) r hb
 have hv:val (puL x)=fd x:=by rw [e];exact val_fm 4 (fd x) hb
 have ho:okF (puL x)=true:=by
  unfold okF
  rw [e]
  exact decide_eq_true (fm_ok 4 _)
 rw [hf]
 show (if puB (unf (val (puL x)))=true/\okF (puL x)=true then some (unf (val (puL x)),(0:Int)+(puL x).length) else none)=_
 rw [hv,unf_fd,if_pos ⟨h,ho⟩,Int.zero_add]
theorem gn_some {ys:List Int} (hb:By ys) {z x e:Int} (h:gnO ys z=some (x,e)):∃ a n:Nat,z=a/\e=((a+n:Nat):Int)/\1<=n/\n<=5/\a+n<=ys.length/\puL x=(ys.drop a).take n:=by
 rw [gn_fo] at h
 cases hf:foO ys z with
 | none=>rw [hf] at h;cases h
 | some F=>
  rw [hf] at h
  obtain ⟨f1,f2,f3,f4,f5,f6⟩:=fo_is hb hf
  obtain ⟨a,rfl⟩:=Int.eq_ofNat_of_zero_le f5
  simp only at h
  split at h
  ·rename_i hc
   simp only [Option.some.injEq,Prod.mk.injEq] at h
   obtain ⟨rfl,rfl⟩:=h
   have ht:F=(ys.drop a).take F.length:=by
    refine frm_take 5 _ _ ?_
    unfold foO at hf
    rw [if_pos ⟨f5,by omega⟩] at hf
    exact hf
   refine ⟨a,F.length,rfl,by omega,f3,f2,by omega,?_⟩
   rw [<- ht]
   exact (pu_form f1 f2).2 hc
  ·cases h
def pkI (h:Nat->I5):Nat->List Int
 | 0=>[]
 | n+1=>pkI h n ++ [(h n).o,(h n).r,(h n).a,(h n).b,(h n).n]
def pkE (h:Nat->E3):Nat->List Int
 | 0=>[]
 | n+1=>pkE h n ++ [(h n).k,(h n).q,(h n).v]
def pkP (y:Sy) (p:Nat):List Int:=(((y.pL p:Nat):Int) :: pkI (y.pH p) (y.pL p)) ++ (((y.hL p:Nat):Int) :: pkE (y.hH p) (y.hL p))
def pkN (y:Sy):Nat->List Int
 | 0=>[(y.pn:Int)]
 | p+1=>pkN y p ++ pkP y p
def byL (xs:List Int):List Int:=xs.flatMap puL
theorem byL_append (xs ys:List Int):byL (xs ++ ys)=byL xs ++ byL ys:=List.flatMap_append
theorem byL_cons (x:Int) (xs:List Int):byL (x :: xs)=puL x ++ byL xs:=rfl
theorem byL_one (x:Int):byL [x]=puL x:=by rw [byL_cons];exact List.append_nil _
theorem byL_len:∀ xs:List Int,(byL xs).length<=5*xs.length
 | []=>by simp [byL]
 | x :: xs=>by
  have h1:=byL_len xs
  have h2:=puL_len x
  rw [byL_cons,List.length_append,List.length_cons]
  omega
theorem byL_take (xs:List Int) (k:Nat) (h:k<xs.length):byL (xs.take (k+1))=byL (xs.take k) ++ puL (zi xs k):=by
 have hz:zi xs k=xs[k]:=by
  unfold zi
  rw [List.getD_eq_getElem?_getD,List.getElem?_eq_getElem h];rfl
 rw [List.take_succ_eq_append_getElem h,byL_append,byL_one,hz]
theorem pkI_len (h:Nat->I5):∀ n,(pkI h n).length=5*n
 | 0=>rfl
 | n+1=>by
  rw [pkI,List.length_append,pkI_len h n]
  simp
  omega
theorem pkE_len (h:Nat->E3):∀ n,(pkE h n).length=3*n
 | 0=>rfl
 | n+1=>by
  rw [pkE,List.length_append,pkE_len h n]
  simp
  omega
theorem pkP_len (y:Sy) (p:Nat):(pkP y p).length=2+5*y.pL p+3*y.hL p:=by
 unfold pkP
 rw [List.length_append,List.length_cons,List.length_cons,pkI_len,pkE_len]
 omega
theorem pkN_len (y:Sy) (K:Nat) (hK:∀ p,p<K->y.pL p<=30/\y.hL p<=200):∀ n,n<=K->(pkN y n).length<=1+752*n
 | 0,_=>by simp [pkN]
 | n+1,h=>by
  have h1:=pkN_len y K hK n (by omega)
  have h2:=hK n (by omega)
  rw [pkN,List.length_append,pkP_len]
  omega
theorem l14Nums_any (a0:Option Addr) (cap:Nat) (xs:List Int) (w:World) (hlen:xs.length<=1000) (hc:Sl w a0 xs):
  Calls Tryz.prog 40 #[.slice a0 xs.length cap] w fun e w'=>∃ v,e=.returned v/\OwnB w' w.heap.size v (byL xs)/\Below w.heap.size w w':=by
 have hl':(xs.length:Int)<=1000:=by omega
 have HC:Hid (Sl w a0 xs):=hc
 clear hc
 go_enter Tryz.func40,Tryz.ntmps40
 go_wp2_with fail
 go_loopw [3,4] (fun o i wr=>∃ k:Nat,k<=xs.length/\i=.int .i64 (k:Int)/\Hid (OwnB wr w.heap.size o (byL (xs.take k)))/\Below w.heap.size w wr) (fun _ i _=>xs.length - (intOf i).toNat)
 case atStart=>exact ⟨0,Nat.zero_le _,rfl,ownB_empty w,(Below.refl _ _).alloc (Nat.le_refl _) _⟩
 case round=>
  obtain ⟨k,hk,rfl,HO,hbw⟩:=hrel
  have hs:=hbw.size
  by_cases hlt:k<xs.length
  ·have hlt':(k:Int)<(xs.length:Int):=by omega
   obtain ⟨b,off,rfl,hbl,ck⟩:=(HC.out.below hbw).at hlt
   have HL:Hid ((byL (xs.take k)).length<=5000):=by
    have:=byL_len (xs.take k)
    rw [List.length_take] at this
    show (byL (xs.take k)).length<=5000
    omega
   go_wp2_with fail
   refine (specPutNum_any (zi xs k) wr).mono ?_
   rintro e w1 ⟨u1,rfl,o1,b1⟩
   obtain ⟨ap,cp,rfl,sp⟩:=o1.form
   have hs1:=b1.size
   have hbw1:Below w.heap.size w w1:=hbw.trans (b1.mono hs)
   have O1:Hid (OwnB w1 w.heap.size u3 (byL (xs.take k))):=HO.out.below b1
   have LT:Hid (∀ j,(u3).ownBlock=some j->w.heap.size<=j):=fun j hj=>(HO.out.lt j hj).1
   have SP:Hid (SlB w1 ap (puL (zi xs k))):=sp
   have hpl:=puL_len (zi xs k)
   clear o1 sp HO
   go_wp2_with (at_builtin;refine wpList_append_bytes w1 rfl _ _ rfl w.heap.size cp u3 ap (byL (xs.take k)) (puL (zi xs k)) rfl rfl O1.out SP.out (by have:=HL.out;omega) (by omega) ?_;intro v' w4 o4 g4 _;have H4:Hid (OwnB w4 w.heap.size v' (byL (xs.take (k+1)))):=o4.to (byL_take xs k hlt);have B4:Hid (Below w.heap.size w1 w4):=Below.grown (Below.refl _ _) g4 (by omega) LT.out;clear o4 g4)
   go_roundw
   case rel=>exact ⟨k+1,by omega,by go_num,H4.out,hbw1.trans B4.out⟩
   case measure=>simp [intOf];omega
  ·have H4:Hid (OwnB wr w.heap.size u3 (byL xs)):=by
    have:=HO.out
    rwa [List.take_of_length_le (by omega)] at this
   clear HO
   go_wp2
   go_ret
   exact ⟨_,rfl,H4.out,hbw⟩
theorem wpG_cast {P:Program} {ops:Array Oper} {Q:Exit->Act->World->Prop} {md:Region.Mode} {S:World->Prop} {G:Nat->Bool} {fuel:Nat} {l:Array Bool} {a:Act} {w:World} (fuel':Nat) (l':Array Bool) (hf:fuel'=fuel) (hl:l'=l) (h:wpG P md ops Q S G fuel' l' a w):wpG P md ops Q S G fuel l a w:=by
 subst hf
 subst hl
 exact h
theorem nilItem:(Tryz.prog.info? 79).bind (·.zero)=some (.slice none 0 0):=by kernel_rfl
theorem nilEvent:(Tryz.prog.info? 44).bind (·.zero)=some (.slice none 0 0):=by kernel_rfl
structure NwF (W1:World) (n:Nat) (L:Nat->Nat) (H:Nat->Nat->I5) (a b c d:Bool) (v1 v2 v3 v4:Value) (w:World):Prop where
 be:Below W1.heap.size W1 w
 ow:∃ k:Nat->Nat,(a=true->∃ u,LI true w (Cl W1.heap.size k 1) v1 n u L H)/\(b=true->ZL 79 w (Cl W1.heap.size k 3) v2 (n*n))/\(c=true->ZL 44 w (Cl W1.heap.size k 4) v3 n)/\(d=true->∃ N,v4=.pointer (some ⟨N,0,none⟩)/\W1.heap.size<=N/\BoxC w N (.slice none 0 0) (.slice none 0 0) (.slice none 0 0) (.slice none 0 0)/\(∀ j,w.frozen? ⟨N,j,none⟩=false)/\k N=0)
section
variable {W1:World} {n:Nat} {L:Nat->Nat} {H:Nat->Nat->I5} {a b c d:Bool} {v1 v2 v3 v4:Value} {w w':World}
theorem NwF.keepBox {N:Nat} {k:Nat->Nat} {q:Nat} (h:v4=.pointer (some ⟨N,0,none⟩)/\W1.heap.size<=N/\BoxC w N (.slice none 0 0) (.slice none 0 0) (.slice none 0 0) (.slice none 0 0)/\(∀ j,w.frozen? ⟨N,j,none⟩=false)/\k N=0) (hb:Below w.heap.size w w'):v4=.pointer (some ⟨N,0,none⟩)/\W1.heap.size<=N/\BoxC w' N (.slice none 0 0) (.slice none 0 0) (.slice none 0 0) (.slice none 0 0)/\(∀ j,w'.frozen? ⟨N,j,none⟩=false)/\rcol k w.heap.size q N=0:=by
 have hl:=zJ w _ h.2.2.1.1
 exact ⟨h.1,h.2.1,h.2.2.1.below hb,fun j=>((bcell hb).2 _ j hl).trans (h.2.2.2.1 j),(rcol_old hl).trans h.2.2.2.2⟩
theorem NwF.one (h:NwF W1 n L H a b c d v1 v2 v3 v4 w) {v:Value} {u:Nat->Value} (o:LI true w' (fun k=>w.heap.size<=k/\k<w'.heap.size) v n u L H) (hb:Below w.heap.size w w'):NwF W1 n L H true b c d v v2 v3 v4 w':=by
 obtain ⟨k,-,h2,h3,h4⟩:=h.ow
 have hs:=h.be.size
 exact ⟨h.be.trans (hb.mono hs), rcol k w.heap.size 1, fun _ => ⟨u, o.mono fun j hj _ => ⟨Nat.le_trans hs hj.1, rcol_new hj.1⟩⟩, fun e => ((h2 e).mono fun j hj hl => hj.old hl).below hb, fun e => ((h3 e).mono fun j hj hl => hj.old hl).below hb, fun e => by
  obtain ⟨N,hN⟩:=h4 e
  exact ⟨N,NwF.keepBox hN hb⟩⟩
theorem NwF.two (h:NwF W1 n L H a b c d v1 v2 v3 v4 w) (hn:n*n<=1048576):NwF W1 n L H a true c d v1 (.slice (some ⟨w.heap.size,0,none⟩) (n*n) (n*n)) v3 v4 (w.alloc (.cells (madeCells #[.slice none 0 0] (n*n)) 79)):=by
 obtain ⟨k,h1,-,h3,h4⟩:=h.ow
 have hs:=h.be.size
 have hb:=zP w (.cells (madeCells #[.slice none 0 0] (n*n)) 79)
 exact ⟨h.be.trans (hb.mono hs), rcol k w.heap.size 3, fun e => by
  obtain ⟨u,o⟩:=h1 e
  exact ⟨u,(o.mono fun j hj hl=>hj.old hl).below hb⟩,fun _=>ZL.made _ w _ ⟨hs,rcol_new (Nat.le_refl _)⟩ _ hn,fun e=>((h3 e).mono fun j hj hl=>hj.old hl).below hb,fun e=>by
  obtain ⟨N,hN⟩:=h4 e
  exact ⟨N,NwF.keepBox hN hb⟩⟩
theorem NwF.three (h:NwF W1 n L H a b c d v1 v2 v3 v4 w) (hn:n<=1048576):NwF W1 n L H a b true d v1 v2 (.slice (some ⟨w.heap.size,0,none⟩) n n) v4 (w.alloc (.cells (madeCells #[.slice none 0 0] n) 44)):=by
 obtain ⟨k,h1,h2,-,h4⟩:=h.ow
 have hs:=h.be.size
 have hb:=zP w (.cells (madeCells #[.slice none 0 0] n) 44)
 exact ⟨h.be.trans (hb.mono hs), rcol k w.heap.size 4, fun e => by
  obtain ⟨u,o⟩:=h1 e
  exact ⟨u,(o.mono fun j hj hl=>hj.old hl).below hb⟩,fun e=>((h2 e).mono fun j hj hl=>hj.old hl).below hb,fun _=>ZL.made _ w _ ⟨hs,rcol_new (Nat.le_refl _)⟩ _ hn,fun e=>by
  obtain ⟨N,hN⟩:=h4 e
  exact ⟨N,NwF.keepBox hN hb⟩⟩
theorem NwF.four (h:NwF W1 n L H a b c d v1 v2 v3 v4 w):NwF W1 n L H a b c true v1 v2 v3 (.pointer (some ⟨w.heap.size,0,none⟩)) (w.alloc (zQ3)):=by
 obtain ⟨k,h1,h2,h3,-⟩:=h.ow
 have hs:=h.be.size
 have hb:=zP w (zQ3)
 exact ⟨h.be.trans (hb.mono hs), rcol k w.heap.size 0, fun e => by
  obtain ⟨u,o⟩:=h1 e
  exact ⟨u,(o.mono fun j hj hl=>hj.old hl).below hb⟩,fun e=>((h2 e).mono fun j hj hl=>hj.old hl).below hb,fun e=>((h3 e).mono fun j hj hl=>hj.old hl).below hb,fun _=>⟨_,rfl,hs,BoxC.new w _ _ _ _ _,fun j=>yA _ _ _ _ rfl,rcol_new (Nat.le_refl _)⟩⟩
end
structure NwS (W1:World) (N n:Nat) (L:Nat->Nat) (H:Nat->Nat->I5) (own:Bool) (k:Nat) (w:World) (vp vs vw vh:Value) (c:Nat->Nat) (up us:Nat->Value):Prop where
 be:Below W1.heap.size W1 w
 bx:BoxC w N vp vs vw vh
 fr:∀ j,w.frozen? ⟨N,j,none⟩=false
 bN:W1.heap.size<=N
 cN:c N=0
 p:own=true->LI true w (Cl W1.heap.size c 1) vp n up L H
 s:LS w (Cl W1.heap.size c 2) vs k us fun _=>newS
 t:ZL 79 w (Cl W1.heap.size c 3) vw (n*n)
 h:ZL 44 w (Cl W1.heap.size c 4) vh n
section
variable {W1:World} {N n:Nat} {L:Nat->Nat} {H:Nat->Nat->I5} {own:Bool} {k:Nat} {w:World} {vp vs vw vh:Value} {c:Nat->Nat} {up us:Nat->Value}
theorem NwS.lt (h:NwS W1 N n L H own k w vp vs vw vh c up us):N<w.heap.size:=zJ w _ h.bx.1
theorem NwS.below {w':World} (h:NwS W1 N n L H own k w vp vs vw vh c up us) (hb:Below w.heap.size w w'):NwS W1 N n L H own k w' vp vs vw vh c up us:=
 ⟨h.be.trans (hb.mono h.be.size),h.bx.below hb,fun j=>((bcell hb).2 _ j h.lt).trans (h.fr j),h.bN,h.cN,fun e=>(h.p e).below hb,h.s.below hb,h.t.below hb,h.h.below hb⟩
theorem NwS.start {a:Bool} {v1 v2 v3 v4:Value} (h:NwF W1 n L H own true true true v1 v2 v3 v4 w) (ho:own=a) (_hvp:a=true\/True):∃ N c up us,v4=.pointer (some ⟨N,0,none⟩)/\N<w.heap.size/\BoxC w N (.slice none 0 0) (.slice none 0 0) (.slice none 0 0) (.slice none 0 0)/\(∀ j,w.frozen? ⟨N,j,none⟩=false)/\NwS W1 N n L H own 0 ((((w.setCell ⟨N,0,none⟩ v1).setCell ⟨N,1,none⟩ (.slice none 0 0)).setCell ⟨N,2,none⟩ v2).setCell ⟨N,3,none⟩ v3) v1 (.slice none 0 0) v2 v3 c up us:=by
 obtain ⟨k,h1,h2,h3,h4⟩:=h.ow
 obtain ⟨N,e,hN,bx,fr,cN⟩:=h4 rfl
 have hl:=zJ w _ bx.1
 have hk:∀ i,i≠0->∀ j,Cl W1.heap.size k i j->j<w.heap.size->((((w.setCell ⟨N,0,none⟩ v1).setCell ⟨N,1,none⟩ (.slice none 0 0)).setCell ⟨N,2,none⟩ v2).setCell ⟨N,3,none⟩ v3).heap[j]? = w.heap[j]?:=fun i hi j hj _=>by
  have hne:j≠N:=fun e=>hi (by rw [<- hj.2,e,cN])
  exact (zN _ _ _ _ hne).trans ((zN _ _ _ _ hne).trans ((zN _ _ _ _ hne).trans (zN _ _ _ _ hne)))
 obtain ⟨u,hu⟩:∃ u,own=true->LI true w (Cl W1.heap.size k 1) v1 n u L H:=by
  cases own with
  | false=>exact ⟨fun _=>.slice none 0 0,fun e=>by cases e⟩
  | true=>obtain ⟨u,o⟩:=h1 rfl;exact ⟨u,fun _=>o⟩
 obtain ⟨g0,g1,g2,g3⟩:=id bx
 exact ⟨N,k,u,fun _=>.slice none 0 0,e,hl,bx,fr,(((h.be.setCell hN _).setCell hN _).setCell hN _).setCell hN _,BoxC.set4 ⟨g0,g1,g2,g3⟩ _ _ _ _,fun j=>by simp only [World.frozen?_setCell];exact fr j,hN,cN,fun e=>(hu e).keep (hk 1 (by decide)),LS.nil _ _ _ _,(h2 rfl).keep (hk 3 (by decide)),(h3 rfl).keep (hk 4 (by decide))⟩
theorem NwS.push (h:NwS W1 N n L H own k w vp vs vw vh c up us) {w1 w3:World} {u' v':Value} (b1:Below w.heap.size w w1) (hu:StOwn w1 w.heap.size u' 0 [0,0,0,0] [] 0) (hv:w3.ownsRow 0 73 4 v' (k+1) (flat (fun i=>cellsL (us i)) k ++ cellsL u')) (g:w1.grownBy w3 vs.ownBlock) (hv':∀ j,v'.ownBlock=some j->vs.ownBlock=some j\/w1.heap.size<=j):
  NwS W1 N n L H own (k+1) (w3.setCell ⟨N,1,none⟩ v') vp v' vw vh (rcol c w.heap.size 2) up (fun j=>if j=k then u' else us j):=by
 have hN:=h.lt
 have hB:=h.be.size
 have hkeep:∀ j,j<w.heap.size->c j≠2->w3.heap[j]? = w.heap[j]?:=fun j hk hc=>(g.block j (zL hk b1.size) fun e=>hc (h.s.rb j e.symm).2).trans (b1.block j hk)
 have hset:∀ j,j≠N->(w3.setCell ⟨N,1,none⟩ v').heap[j]? = w3.heap[j]?:=fun j hk=>zN _ _ _ _ hk
 have hcN:rcol c w.heap.size 2 N=0:=(rcol_old hN).trans h.cN
 have hBN:w3.heap[N]? = w.heap[N]?:=hkeep N hN (by rw [h.cN];decide)
 have hkk:∀ i,i≠2->i≠0->∀ j,Cl W1.heap.size (rcol c w.heap.size 2) i j->j<w.heap.size->(w3.setCell ⟨N,1,none⟩ v').heap[j]? = w.heap[j]?:=fun i h2 h0 j hk hl=>by
  have e:c j=i:=(rcol_old hl).symm.trans hk.2
  exact (hset j fun en=>h0 (by rw [<- e,en,h.cN])).trans (hkeep j hl (by rw [e];exact h2))
 have hP:∀ i j,Cl W1.heap.size c i j->j<w.heap.size->Cl W1.heap.size (rcol c w.heap.size 2) i j:=fun i j hk hl=>hk.old hl
 have hP':∀ j,w.heap.size<=j->j<w3.heap.size->Cl W1.heap.size (rcol c w.heap.size 2) 2 j:=fun j hk _=>⟨zO hB hk,rcol_new hk⟩
 obtain ⟨x0,x1,x2,x3⟩:=h.bx
 have hc:∀ j,w3.cell? ⟨N,j,none⟩=w.cell? ⟨N,j,none⟩:=fun j=>zH hBN
 have hnew:∀ j,Cl W1.heap.size (rcol c w.heap.size 2) 2 j->j<w3.heap.size->(w3.setCell ⟨N,1,none⟩ v').heap[j]? = w3.heap[j]?:=fun j hk _=>hset j fun e=>by
  have e2:=hk.2
  rw [e,hcN] at e2
  cases e2
 have hbe:Below W1.heap.size W1 w3:=Below.grown (h.be.trans (b1.mono hB)) g (zO hB b1.size) fun j hj=>(h.s.rb j hj).1
 refine ⟨hbe.setCell h.bN _,⟨?_,?_,?_,?_⟩,fun j=>?_,h.bN,hcN,fun e=>?_,?_,?_,?_⟩
 ·rw [World.cell?_setCell_other _ _ _ _ (by simp),hc];exact x0
 ·exact World.cell?_setCell_same _ _ _ ((hc 1).trans x1)
 ·rw [World.cell?_setCell_other _ _ _ _ (by simp),hc];exact x2
 ·rw [World.cell?_setCell_other _ _ _ _ (by simp),hc];exact x3
 ·rw [World.frozen?_setCell,zI hBN];exact h.fr j
 ·exact ((h.p e).mono (hP 1)).keep (hkk 1 (by decide) (by decide))
 ·exact (h.s.push b1 hu hv g hv' (hP 2) hP').keep hnew
 ·exact (h.t.mono (hP 3)).keep (hkk 3 (by decide) (by decide))
 ·exact (h.h.mono (hP 4)).keep (hkk 4 (by decide) (by decide))
theorem NwS.own1 (h:NwS W1 N n L H true k w vp vs vw vh c up us) (hk:k=n):Own1 w W1.heap.size w.heap.size n L H vp vs vw vh:=by
 subst hk
 exact ⟨rcol c w.heap.size 0,up,us,⟨(h.p rfl).mono fun j hj hl=>hj.old hl,h.s.mono fun j hj hl=>hj.old hl,h.t.mono fun j hj hl=>hj.old hl,h.h.mono fun j hj hl=>hj.old hl⟩,fun b hb=>rcol_new hb⟩
theorem Own1.out4 {B T M:Nat} (o:Own1 w B T n L H vp vs vw vh) (hM:M<B) (a1 a2 a3 a4:Value):Own1 ((((w.setCell ⟨M,0,none⟩ a1).setCell ⟨M,1,none⟩ a2).setCell ⟨M,2,none⟩ a3).setCell ⟨M,3,none⟩ a4) B T n L H vp vs vw vh:=by
 have t:=(((Touch.refl (fun b=>b=M) w).trans (Touch.of_set (P:=fun b=>b=M) _ (a:=⟨M,0,none⟩) rfl a1)).trans (Touch.of_set (P:=fun b=>b=M) _ (a:=⟨M,1,none⟩) rfl a2)).trans (Touch.of_set (P:=fun b=>b=M) _ (a:=⟨M,2,none⟩) rfl a3)
 exact o.touch (t.trans (Touch.of_set (P:=fun b=>b=M) _ (a:=⟨M,3,none⟩) rfl a4)) fun b e=>.inr (by omega)
theorem Own1.base {B B' T T':Nat} (o:Own1 w B T n L H vp vs vw vh) (hB:B'<=B) (hT:T'=T):Own1 w B' T' n L H vp vs vw vh:=by
 subst hT
 obtain ⟨c,up,us,o,h⟩:=o
 exact ⟨c,up,us,⟨o.p.mono fun j hj _=>⟨zO hB hj.1,hj.2⟩,o.s.mono fun j hj _=>⟨zO hB hj.1,hj.2⟩,o.t.mono fun j hj _=>⟨zO hB hj.1,hj.2⟩,o.h.mono fun j hj _=>⟨zO hB hj.1,hj.2⟩⟩,h⟩
def nwX (pa:Option Addr) (n pc:Nat) (A:Nat->Option Addr) (L C:Nat->Nat) (H:Nat->Nat->I5) (vs vw vh:Value) (us:Nat->Value):SysIn:=
 ⟨pa,n,pc,A,L,C,H,adOf vs,n,cpOf vs,fun i=>⟨0,adOf (fdOf (us i) 1),cpOf (fdOf (us i) 1),[0,0,0,0],adOf (fdOf (us i) 2),cpOf (fdOf (us i) 2),[],0⟩,adOf vw,n*n,cpOf vw,fun _=>none,fun _=>0,fun _=>0,fun _ _=>⟨false,0⟩,adOf vh,n,cpOf vh,fun _=>none,fun _=>0,fun _=>0,fun _ _=>⟨0,0,0⟩⟩
theorem nwX_g {P1 P3 P4:Nat->Prop} {pa:Option Addr} {pc:Nat} {A:Nat->Option Addr} {C:Nat->Nat} (hs:LS w P1 vs n us fun _=>newS) (ht:ZL 79 w P3 vw (n*n)) (hh:ZL 44 w P4 vh n) (hr:RowS w pa n fun i=>.slice (A i) (L i) (C i)) (hI:∀ i,i<n->∃ b,A i=some ⟨b,0,none⟩/\b<w.heap.size/\InsAt w b 0 (L i) (H i)):SysG w (nwX pa n pc A L C H vs vw vh us):=by
 refine ⟨hr,hI,⟨?_,fun i hi=>?_⟩,ht.rowS,fun i hi=>.inl rfl,hh.rowS,fun i hi=>.inl rfl⟩
 ·rcases Nat.eq_zero_or_pos n with h0 | h0
  ·exact .inl h0
  ·obtain ⟨g,cap,rfl,-,hg,-,-⟩:=hs.cell h0
   refine .inr ⟨g,0,rfl,hg,fun i hi=>?_⟩
   obtain ⟨g',cap',ew,-,-,hc,-⟩:=hs.cell hi
   simp only [Value.slice.injEq,Option.some.injEq,Addr.mk.injEq,and_true,true_and] at ew
   obtain ⟨rfl,rfl⟩:=ew
   obtain ⟨ra,rc,oa,oc,eu,h0,h1,h2,h3⟩:=hc
   show w.cell? ⟨g,0+i*4,none⟩=some (.int .i64 0)/\w.cell? ⟨g,0+i*4+1,none⟩=some (.slice (adOf (fdOf (us i) 1)) 4 (cpOf (fdOf (us i) 1)))/\w.cell? ⟨g,0+i*4+2,none⟩=some (.slice (adOf (fdOf (us i) 2)) 0 (cpOf (fdOf (us i) 2)))/\w.cell? ⟨g,0+i*4+3,none⟩=some (.int .i64 0)
   rw [Nat.zero_add,eu]
   exact ⟨h0,h1,h2,h3⟩
 ·obtain ⟨g,cap,-,-,-,⟨ra,rc,oa,oc,eu,-⟩,-⟩:=hs.cell hi
  have h4:=hs.own i hi
  rw [eu] at h4
  show Sl w (adOf (fdOf (us i) 1)) [0,0,0,0]/\Sl w (adOf (fdOf (us i) 2)) []
  rw [eu]
  exact ⟨h4.parts.1.slOf,h4.parts.2.1.slOf⟩
theorem NwS.g {pa:Option Addr} {pc:Nat} {A:Nat->Option Addr} {C:Nat->Nat} (h:NwS W1 N n L H own n w vp vs vw vh c up us) (hr:RowS w pa n fun i=>.slice (A i) (L i) (C i)) (hI:∀ i,i<n->∃ b,A i=some ⟨b,0,none⟩/\b<w.heap.size/\InsAt w b 0 (L i) (H i)):SysG w (nwX pa n pc A L C H vs vw vh us):=
 nwX_g h.s h.t h.h hr hI
theorem nwX_len {pa:Option Addr} {pc:Nat} {A:Nat->Option Addr} {C:Nat->Nat} (hn:n<=4) (hL:∀ i,i<n->L i<=1048576):(nwX pa n pc A L C H vs vw vh us).Len:=by
 have h16:n*n<=16:=zO (Nat.mul_le_mul hn hn) (by omega)
 exact ⟨⟨by show n<=1048576;omega,hL⟩,⟨by show n<=1048576;omega,fun i _=>⟨by show 4<=1048576;omega,by show 0<=1048576;omega⟩⟩,⟨by show n*n<=1048576;omega,fun i _=>Nat.zero_le _⟩,⟨by show n<=1048576;omega,fun i _=>Nat.zero_le _⟩⟩
end
structure AtP (z:Bool) (B N:Nat) (c:Nat->Nat) (y:Sy) (wx:World) (vp vs vw vh:Value) (up us uw uh:Nat->Value):Prop where
 bx:BoxC wx N vp vs vw vh
 fr:∀ j,wx.frozen? ⟨N,j,none⟩=false
 cN:c N=0
 bN:B<=N
 o:OwnS z wx B c y vp vs vw vh up us uw uh
section
variable {z:Bool} {B N:Nat} {c:Nat->Nat} {y:Sy} {wr:World} {vp vs vw vh:Value} {up us uw uh:Nat->Value}
theorem AtP.lt (h:AtP z B N c y wr vp vs vw vh up us uw uh):N<wr.heap.size:=zJ wr _ h.bx.1
theorem AtP.below (h:AtP z B N c y wr vp vs vw vh up us uw uh) {w':World} (hb:Below wr.heap.size wr w'):AtP z B N c y w' vp vs vw vh up us uw uh:=
 ⟨h.bx.below hb,fun j=>by rw [zI (hb.block N h.lt)];exact h.fr j,h.cN,h.bN,h.o.below hb⟩
theorem AtP.state (h:AtP z B N c y wr vp vs vw vh up us uw uh) {w1 w3:World} {u' v':Value} (b1:Below wr.heap.size wr w1) (hu:StOwn w1 wr.heap.size u' (y.sS y.sn).p (y.sS y.sn).rs (y.sS y.sn).os (y.sS y.sn).c) (hv:w3.ownsRow 0 73 4 v' (y.sn+1) (flat (fun i=>cellsL (us i)) y.sn ++ cellsL u')) (g:w1.grownBy w3 vs.ownBlock) (hv':∀ j,v'.ownBlock=some j->vs.ownBlock=some j\/w1.heap.size<=j):
  AtP z B N (rcol c wr.heap.size 2) { y with sn:=y.sn+1 } (w3.setCell ⟨N,1,none⟩ v') vp v' vw vh up (fun j=>if j=y.sn then u' else us j) uw uh:=by
 have hN:=h.lt
 have hkeep:∀ k,k<wr.heap.size->c k≠2->w3.heap[k]? = wr.heap[k]?:=fun k hk hc=>(g.block k (zL hk b1.size) fun e=>hc (h.o.s.rb k e.symm).2).trans (b1.block k hk)
 have hset:∀ k,k≠N->(w3.setCell ⟨N,1,none⟩ v').heap[k]? = w3.heap[k]?:=fun k hk=>zN _ _ _ _ hk
 have hcN:rcol c wr.heap.size 2 N=0:=(rcol_old hN).trans h.cN
 have hBN:w3.heap[N]? = wr.heap[N]?:=hkeep N hN (by rw [h.cN];decide)
 have hkk:∀ i,i≠2->i≠0->∀ k,Cl B (rcol c wr.heap.size 2) i k->k<wr.heap.size->(w3.setCell ⟨N,1,none⟩ v').heap[k]? = wr.heap[k]?:=fun i h2 h0 k hk hl=>by
  have e:c k=i:=(rcol_old hl).symm.trans hk.2
  exact (hset k fun en=>h0 (by rw [<- e,en,h.cN])).trans (hkeep k hl (by rw [e];exact h2))
 have hP:∀ i k,Cl B c i k->k<wr.heap.size->Cl B (rcol c wr.heap.size 2) i k:=fun i k hk hl=>hk.old hl
 have hP':∀ k,wr.heap.size<=k->k<w3.heap.size->Cl B (rcol c wr.heap.size 2) 2 k:=fun k hk _=>⟨zO h.bN (zO (Nat.le_of_lt hN) hk),rcol_new hk⟩
 obtain ⟨x0,x1,x2,x3⟩:=h.bx
 have hc:∀ j,w3.cell? ⟨N,j,none⟩=wr.cell? ⟨N,j,none⟩:=fun j=>zH hBN
 have hnew:∀ k,Cl B (rcol c wr.heap.size 2) 2 k->k<w3.heap.size->(w3.setCell ⟨N,1,none⟩ v').heap[k]? = w3.heap[k]?:=fun k hk _=>hset k fun e=>by
  have e2:=hk.2
  rw [e,hcN] at e2
  cases e2
 refine ⟨⟨?_,?_,?_,?_⟩,fun j=>?_,hcN,h.bN,⟨?_,?_,?_,?_⟩⟩
 ·rw [World.cell?_setCell_other _ _ _ _ (by simp),hc];exact x0
 ·exact World.cell?_setCell_same _ _ _ ((hc 1).trans x1)
 ·rw [World.cell?_setCell_other _ _ _ _ (by simp),hc];exact x2
 ·rw [World.cell?_setCell_other _ _ _ _ (by simp),hc];exact x3
 ·rw [World.frozen?_setCell,zI hBN];exact h.fr j
 ·exact (h.o.p.mono (hP 1)).keep (hkk 1 (by decide) (by decide))
 ·exact (h.o.s.push b1 hu hv g hv' (hP 2) hP').keep hnew
 ·exact (h.o.t.mono (hP 3)).keep (hkk 3 (by decide) (by decide))
 ·exact (h.o.h.mono (hP 4)).keep (hkk 4 (by decide) (by decide))
theorem AtP.hist (h:AtP z B N c y wr vp vs vw vh up us uw uh) {w1 w3:World} {u' v':Value} (b1:Below wr.heap.size wr w1) (hu:w1.ownsRow wr.heap.size 46 3 u' (y.hL y.hn) (fE (y.hH y.hn) (y.hL y.hn))) (hne:u'≠.slice none 0 0) (hv:w3.ownsRow 0 44 1 v' (y.hn+1) ((List.range y.hn).map uh ++ [u'])) (g:w1.grownBy w3 vh.ownBlock) (hv':∀ j,v'.ownBlock=some j->vh.ownBlock=some j\/w1.heap.size<=j):
  AtP z B N (rcol c wr.heap.size 4) { y with hn:=y.hn+1 } (w3.setCell ⟨N,3,none⟩ v') vp vs vw v' up us uw (fun j=>if j=y.hn then u' else uh j):=by
 have hN:=h.lt
 have hkeep:∀ k,k<wr.heap.size->c k≠4->w3.heap[k]? = wr.heap[k]?:=fun k hk hc=>(g.block k (zL hk b1.size) fun e=>hc (h.o.h.rb k e.symm).2).trans (b1.block k hk)
 have hset:∀ k,k≠N->(w3.setCell ⟨N,3,none⟩ v').heap[k]? = w3.heap[k]?:=fun k hk=>zN _ _ _ _ hk
 have hcN:rcol c wr.heap.size 4 N=0:=(rcol_old hN).trans h.cN
 have hBN:w3.heap[N]? = wr.heap[N]?:=hkeep N hN (by rw [h.cN];decide)
 have hkk:∀ i,i≠4->i≠0->∀ k,Cl B (rcol c wr.heap.size 4) i k->k<wr.heap.size->(w3.setCell ⟨N,3,none⟩ v').heap[k]? = wr.heap[k]?:=fun i h2 h0 k hk hl=>by
  have e:c k=i:=(rcol_old hl).symm.trans hk.2
  exact (hset k fun en=>h0 (by rw [<- e,en,h.cN])).trans (hkeep k hl (by rw [e];exact h2))
 have hP:∀ i k,Cl B c i k->k<wr.heap.size->Cl B (rcol c wr.heap.size 4) i k:=fun i k hk hl=>hk.old hl
 have hP':∀ k,wr.heap.size<=k->k<w3.heap.size->Cl B (rcol c wr.heap.size 4) 4 k:=fun k hk _=>⟨zO h.bN (zO (Nat.le_of_lt hN) hk),rcol_new hk⟩
 obtain ⟨x0,x1,x2,x3⟩:=h.bx
 have hc:∀ j,w3.cell? ⟨N,j,none⟩=wr.cell? ⟨N,j,none⟩:=fun j=>zH hBN
 have hnew:∀ k,Cl B (rcol c wr.heap.size 4) 4 k->k<w3.heap.size->(w3.setCell ⟨N,3,none⟩ v').heap[k]? = w3.heap[k]?:=fun k hk _=>hset k fun e=>by
  have e2:=hk.2
  rw [e,hcN] at e2
  cases e2
 refine ⟨⟨?_,?_,?_,?_⟩,fun j=>?_,hcN,h.bN,⟨?_,?_,?_,?_⟩⟩
 ·rw [World.cell?_setCell_other _ _ _ _ (by simp),hc];exact x0
 ·rw [World.cell?_setCell_other _ _ _ _ (by simp),hc];exact x1
 ·rw [World.cell?_setCell_other _ _ _ _ (by simp),hc];exact x2
 ·exact World.cell?_setCell_same _ _ _ ((hc 3).trans x3)
 ·rw [World.frozen?_setCell,zI hBN];exact h.fr j
 ·exact (h.o.p.mono (hP 1)).keep (hkk 1 (by decide) (by decide))
 ·exact (h.o.s.mono (hP 2)).keep (hkk 2 (by decide) (by decide))
 ·exact (h.o.t.mono (hP 3)).keep (hkk 3 (by decide) (by decide))
 ·exact (h.o.h.push b1 hu (fun _=>hne) hv g hv' (hP 4) hP').keep hnew
end
theorem AtP.box {z:Bool} {B N:Nat} {c:Nat->Nat} {y:Sy} {wr w1 w3:World} {vp vs vw vh:Value} {up us uw uh:Nat->Value} (h:AtP z B N c y wr vp vs vw vh up us uw uh) (b1:Below wr.heap.size wr w1) {ob:Option Nat} (g:w1.grownBy w3 ob) (hob:∀ k,ob=some k->c k≠0):BoxC w3 N vp vs vw vh/\∀ j,w3.frozen? ⟨N,j,none⟩=false:=by
 have hN:=h.lt
 have e:w3.heap[N]? = wr.heap[N]?:=(g.block N (zL hN b1.size) fun e=>hob N e.symm h.cN).trans (b1.block N hN)
 obtain ⟨x0,x1,x2,x3⟩:=h.bx
 exact ⟨⟨(zH e).trans x0,(zH e).trans x1,(zH e).trans x2,(zH e).trans x3⟩,fun j=>(zI e).trans (h.fr j)⟩
theorem AtP.gS {z:Bool} {B N:Nat} {c:Nat->Nat} {y:Sy} {wr:World} {vp vs vw vh:Value} {up us uw uh:Nat->Value} (h:AtP z B N c y wr vp vs vw vh up us uw uh):∀ k,vs.ownBlock=some k->B<=k/\c k≠0:=fun k hk=>⟨(h.o.s.rb k hk).1,by rw [(h.o.s.rb k hk).2];decide⟩
theorem AtP.gH {z:Bool} {B N:Nat} {c:Nat->Nat} {y:Sy} {wr:World} {vp vs vw vh:Value} {up us uw uh:Nat->Value} (h:AtP z B N c y wr vp vs vw vh up us uw uh):∀ k,vh.ownBlock=some k->B<=k/\c k≠0:=fun k hk=>⟨(h.o.h.rb k hk).1,by rw [(h.o.h.rb k hk).2];decide⟩
theorem run_copy_src {t e:TypeId} {size bytes:Nat} (K:Kind t e size bytes) (w:World) (ty:TypeId) (a0:Option Addr) (m c:Nat) (news:List Value) (hl:news.length=m*size) (hsrc:Src w a0 news) (h1:∀ u ∈ news,u.oneCell'=true) (cs:Array Value) (hz:cs.size=m*size):
  (Builtin.copy_ #[t,t] ty #[.slice (some ⟨w.heap.size,0,none⟩) m m,.slice a0 m c]).run Tryz.prog (w.alloc (.cells cs e))=.ok (goInt m) (w.alloc (.cells news.toArray e)):=by
 obtain ⟨i,z,hi,-,hs,-,-⟩:=K.inf
 have hg:(w.alloc (.cells cs e)).heap[w.heap.size]? = some (.cells cs e (0,0)):=heap_alloc_new w _
 have hst:=run_storeCells_at Tryz.prog w.heap.size 0 e news 0 cs (w.alloc (.cells cs e)) hg (by rw [hl,hz];omega) h1
 have hmin:Nat.min m m=m:=Nat.min_self m
 cases a0 with
 | none=>
  have hn0:news=[]:=by
   rcases hsrc with h | ⟨b,off,e,_⟩
   ·exact h
   ·cases e
  subst hn0
  have hm:m=0:=by
   simp only [List.length_nil] at hl
   rcases Nat.eq_zero_or_pos m with h | h
   ·exact h
   ·have:=Nat.mul_pos h K.pos
    omega
  subst hm
  have hc:cs=#[]:=by
   have:cs.size=0:=by omega
   exact Array.eq_empty_of_size_eq_zero this
  subst hc
  simp [Builtin.copy_,run_underlying K.und,Builtin.lenOf,Builtin.firstCells,sizeOf,typeInfo,hi,storeCells]
 | some a=>
  have hnews:∀ j u,news[j]? = some u->(w.alloc (.cells cs e)).cell? (a.add j)=some u:=by
   rcases hsrc with h0 | ⟨b,off,e,hlt,hc⟩
   ·subst h0
    intro j u hj
    simp at hj
   ·cases e
    intro j u hj
    have ha:Addr.add ⟨b,off,none⟩ j=⟨b,off+j,none⟩:=by unfold Addr.add;split <;> simp_all
    rw [ha]
    exact ((zP w _).cell (p:=⟨b,off+j,none⟩) hlt).trans (hc j u hj)
  have hld:=run_loadCells_list (P:=Tryz.prog) (w.alloc (.cells cs e)) a news hnews
  rw [hl] at hld
  simp only [List.take_zero,List.nil_append,Nat.zero_add] at hst
  rw [List.drop_of_length_le (by simp [hl,hz]),List.append_nil,setRow_alloc] at hst
  simp [Builtin.copy_,run_underlying K.und,Builtin.lenOf,Builtin.firstCells,sizeOf,typeInfo,hi,hs,hld,hst]
theorem run_make_full {t e:TypeId} {size bytes:Nat} (K:Kind t e size bytes) (n:Nat) (hn:n<=1048576):∃ cs:Array Value,cs.size=n*size/\∀ w:World,(Instr.makeSlice t (.int .i64 (n:Int)) (.int .i64 (n:Int))).run Tryz.prog w=.ok (.slice (some ⟨w.heap.size,0,none⟩) n n) (w.alloc (.cells cs e)):=by
 obtain ⟨i,z,hi,hz,hs,hb,hzs⟩:=K.inf
 refine ⟨madeCells z.cells (n*size),size_madeCells _ _,fun w=>?_⟩
 have hby:i.bytes*n<=281474976710656:=by
  rw [hb]
  exact zO (Nat.mul_le_mul K.sml hn) (by omega)
 have hby':(i.bytes:Int)*(n:Int)<=281474976710656:=by rw [<- Int.natCast_mul];exact Int.ofNat_le.2 hby
 have h:=run_make (P:=Tryz.prog) w t e i z K.und hi hz .i64 .i64 (n:Int) (n:Int) (by omega) (by omega) hby' (by omega)
 rw [hs,Int.toNat_natCast] at h
 exact h
theorem copyOfEvent_any (ea:Option Addr) (n cap:Nat) (H:Nat->E3) (w:World) (hn:n<=1048576) (hS:Src w ea (fE H n)):
  Calls Tryz.prog 49 #[.slice ea n cap] w fun e w'=>∃ a1 c1,e=.returned (.slice a1 n c1)/\w'.ownsRow w.heap.size 46 3 (.slice a1 n c1) n (fE H n)/\Value.slice a1 n c1≠.slice none 0 0/\Below w.heap.size w w':=by
 have hn':(n:Int)<=1048576:=by omega
 obtain ⟨cs,hcs,hmk⟩:=run_make_full kndE n hn
 have hcp:=run_copy_src kndE w 3 ea n cap (fE H n) (fE_len _ _) hS (fE_one _ _) cs hcs
 have HO:Hid ((w.alloc (.cells (fE H n).toArray 46)).ownsRow w.heap.size 46 3 (.slice (some ⟨w.heap.size,0,none⟩) n n) n (fE H n)/\Below w.heap.size w (w.alloc (.cells (fE H n).toArray 46))):=by
  refine ⟨?_,zP _ _⟩
  have:=World.ownsRow_lit (base:=w.heap.size) (e:=46) (size:=3) w (fE H n).toArray n (Nat.le_refl _) (by unfold maxLen;omega) (by simp [fE_len])
  exact this
 clear hS hcs
 go_enter Tryz.func49,Tryz.ntmps49
 go_wp2
 go_ret
 exact ⟨_,_,rfl,HO.out.1,by simp,HO.out.2⟩
def wyL (h:Hs) (a b:Nat):List Int:=(valL (h.e a) 2 b (h.l a)).drop (cnt (h.e b) 3 a (h.l b))
def itL (l:List Int):Nat->I2:=fun j=>⟨false,zi l j⟩
def Sy.ah (y:Sy) (d:Nat->Nat):Hs:=⟨y.pn,d,y.hH⟩
noncomputable def wfB (h:Hs):Bool:=qB (∀ a,a<h.n->∀ b,b<h.n->(wyL h a b).length<=12)
def Sy.atY (y:Sy) (d:Nat->Nat):Sy where
 pn:=y.pn
 pL:=y.pL
 pH:=y.pH
 sn:=y.pn
 sS:=fun p=>resS (repO (y.pH p) (y.pL p) (y.hH p) (d p))
 wn:=y.pn*y.pn
 wL:=fun i=>(wyL (y.ah d) (i / y.pn) (i % y.pn)).length
 wH:=fun i=>itL (wyL (y.ah d) (i / y.pn) (i % y.pn))
 hn:=y.pn
 hL:=d
 hH:=y.hH
def Sy.nil (y:Sy):Sy:={ y with pn:=0,sn:=0,wn:=0,hn:=0 }
theorem Sy.nil_sm (y:Sy):y.nil.Sm:=⟨⟨by simp [Sy.nil],by simp [Sy.nil],by simp [Sy.nil],by simp [Sy.nil]⟩,fun i hi=>by simp [Sy.nil] at hi,fun i hi=>by simp [Sy.nil] at hi,fun i hi=>by simp [Sy.nil] at hi,fun i hi=>by simp [Sy.nil] at hi⟩
noncomputable def Sy.atW (y:Sy) (d:Nat->Nat):Sy:=if wfB (y.ah d)=true then y.atY d else y.nil
theorem resS_len (g:Nat->I5) (n:Nat) (eh:Nat->E3) (m:Nat):(resS (repO g n eh m)).rs.length<=1000/\(resS (repO g n eh m)).os.length<=1000:=by
 cases h:repO g n eh m with
 | none=>simp [resS]
 | some S=>
  obtain ⟨h1,-,h2⟩:=repO_some h
  have:=okS_len (rp_okS h1 m S h2)
  simp only [resS,Option.getD_some]
  omega
theorem wy_at {a b n:Nat} (hb:b<n):(a*n+b) / n=a/\(a*n+b) % n=b:=by
 have hn:0<n:=by omega
 constructor
 ·rw [Nat.mul_comm,Nat.mul_add_div hn,Nat.div_eq_of_lt hb]
  omega
 ·rw [Nat.mul_comm,Nat.mul_add_mod]
  exact Nat.mod_eq_of_lt hb
section
variable {z:Bool} {e:TypeId} {sz:Nat} {E:TypeId} {w:World} {P:Nat->Prop} {v:Value} {n:Nat} {u:Nat->Value} {L:Nat->Nat} {c:Nat->List Value}
theorem LL.pushP (o:LL z e sz E w P v n u L c) {w1 w2:World} {u' v':Value} (hsz:w.heap.size<=w1.heap.size) (hb:∀ k,P k->k<w.heap.size->w1.heap[k]? = w.heap[k]?) (hu:w1.ownsRow w.heap.size e sz u' (L n) (c n)) (hne:Nz z e->u'≠.slice none 0 0) (hv:w2.ownsRow 0 E 1 v' (n+1) ((List.range n).map u ++ [u'])) (g:w1.grownBy w2 v.ownBlock)
  (hv':∀ j,v'.ownBlock=some j->v.ownBlock=some j\/w1.heap.size<=j) {P':Nat->Prop} (hP:∀ k,P k->k<w.heap.size->P' k) (hPu:∀ k,u'.ownBlock=some k->P' k) (hPv:∀ k,w1.heap.size<=k->v'.ownBlock=some k->P' k):LL z e sz E w2 P' v' (n+1) (fun j=>if j=n then u' else u j) L c:=by
 have hvlt:∀ k,v.ownBlock=some k->k<w.heap.size:=fun k hk=>(o.row.lt k hk).2
 have hu2 : w2.ownsRow w.heap.size e sz u' (L n) (c n) := hu.kept g (by
  cases hk:u'.ownBlock with
  | none=>exact .inl rfl
  | some k=>
   refine .inr fun e=>?_
   have q1:=(hu.lt k hk).1
   have q2:=hvlt k e.symm
   omega)
 have ho2:∀ i,i<n->w2.ownsRow 0 e sz (u i) (L i) (c i):=fun i hi=>ownsRow_blkL (o.own i hi) fun k hk=>(g.block k (zL ((o.own i hi).lt k hk).2 hsz) fun e=>o.ra i hi k hk e.symm).trans (hb k (o.ob i hi k hk) ((o.own i hi).lt k hk).2)
 have lts:∀ i,i<n->∀ k,(u i).ownBlock=some k->k<w.heap.size:=fun i hi k hk=>((o.own i hi).lt k hk).2
 refine ⟨?_,fun i hi=>?_,fun k hk=>?_,fun i hi k hk=>?_,fun i hi k hk=>?_,fun i j hi hj hij k hk=>?_,fun hz i hi=>?_⟩
 ·have e:(List.range (n+1)).map (fun j=>if j=n then u' else u j)=(List.range n).map u ++ [u']:=by
   rw [List.range_succ,List.map_append]
   simp only [List.map_cons,List.map_nil,if_true]
   congr 1
   exact List.map_congr_left fun j hj=>by
    rw [if_neg]
    have:=List.mem_range.1 hj
    omega
  rw [e]
  exact hv
 ·by_cases ei:i=n
  ·subst ei
   rw [if_pos rfl]
   exact ownsRow_base0 hu2
  ·rw [if_neg ei]
   exact ho2 i (by omega)
 ·rcases hv' k hk with h | h
  ·exact hP k (o.rb k h) (hvlt k h)
  ·exact hPv k h hk
 ·by_cases ei:i=n
  ·simp only [if_pos ei] at hk
   exact hPu k hk
  ·simp only [if_neg ei] at hk
   exact hP k (o.ob i (by omega) k hk) (lts i (by omega) k hk)
 ·intro hvk
  by_cases ei:i=n
  ·simp only [if_pos ei] at hk
   rcases hv' k hvk with h | h
   ·have:=hvlt k h
    have:=(hu.lt k hk).1
    omega
   ·have:=(hu.lt k hk).2
    omega
  ·simp only [if_neg ei] at hk
   rcases hv' k hvk with h | h
   ·exact o.ra i (by omega) k hk h
   ·have:=lts i (by omega) k hk
    omega
 ·intro hjk
  by_cases ei:i=n
  ·have ej:j≠n:=fun e=>hij (by omega)
   simp only [if_pos ei] at hk
   simp only [if_neg ej] at hjk
   have:=lts j (by omega) k hjk
   have:=(hu.lt k hk).1
   omega
  ·simp only [if_neg ei] at hk
   by_cases ej:j=n
   ·simp only [if_pos ej] at hjk
    have:=lts i (by omega) k hk
    have:=(hu.lt k hjk).1
    omega
   ·simp only [if_neg ej] at hjk
    exact o.oa i j (by omega) (by omega) hij k hk hjk
 ·by_cases ei:i=n
  ·rw [if_pos ei]
   exact hne hz
  ·rw [if_neg ei]
   exact o.nn hz i (by omega)
end
section
variable {w:World} {P:Nat->Prop} {v:Value} {n:Nat} {vs:Nat->Value} {S:Nat->S4}
theorem LS.pushP (o:LS w P v n vs S) {w1 w2:World} {u' v':Value} (hsz:w.heap.size<=w1.heap.size) (hb:∀ k,P k->k<w.heap.size->w1.heap[k]? = w.heap[k]?) (hu:StOwn w1 w.heap.size u' (S n).p (S n).rs (S n).os (S n).c) (hv:w2.ownsRow 0 73 4 v' (n+1) (flat (fun i=>cellsL (vs i)) n ++ cellsL u')) (g:w1.grownBy w2 v.ownBlock)
  (hv':∀ j,v'.ownBlock=some j->v.ownBlock=some j\/w1.heap.size<=j) {P':Nat->Prop} (hP:∀ k,P k->k<w.heap.size->P' k) (hPu:∀ k,hasBlock u' k->P' k) (hPv:∀ k,w1.heap.size<=k->v'.ownBlock=some k->P' k):LS w2 P' v' (n+1) (fun j=>if j=n then u' else vs j) S:=by
 have hvlt:∀ k,v.ownBlock=some k->k<w.heap.size:=fun k hk=>(o.row.lt k hk).2
 have lts:∀ i,i<n->∀ k,hasBlock (vs i) k->k<w.heap.size:=fun i hi k hk=>((o.own i hi).lt hk).2
 have hu2:StOwn w2 w.heap.size u' (S n).p (S n).rs (S n).os (S n).c:=hu.blk fun k hk=>g.block k (hu.lt hk).2 fun e=>by
  have q1:=(hu.lt hk).1
  have q2:=hvlt k e.symm
  omega
 have ho2:∀ i,i<n->StOwn w2 0 (vs i) (S i).p (S i).rs (S i).os (S i).c:=fun i hi=>(o.own i hi).blk fun k hk=>(g.block k (zL (lts i hi k hk) hsz) fun e=>o.ra i hi k hk e.symm).trans (hb k (o.ob i hi k hk) (lts i hi k hk))
 refine ⟨?_,fun i hi=>?_,fun k hk=>?_,fun i hi k hk=>?_,fun i hi k hk=>?_,fun i j hi hj hij k hk=>?_⟩
 ·have e:flat (fun i=>cellsL (if i=n then u' else vs i)) (n+1)=flat (fun i=>cellsL (vs i)) n ++ cellsL u':=by
   rw [flat,if_pos rfl]
   congr 1
   exact flat_congr fun i hi=>by rw [if_neg (by omega)]
  rw [e]
  exact hv
 ·by_cases ei:i=n
  ·subst ei
   simp only [if_true]
   exact hu2.mono (Nat.zero_le _)
  ·simp only [if_neg ei]
   exact ho2 i (by omega)
 ·rcases hv' k hk with h | h
  ·exact hP k (o.rb k h) (hvlt k h)
  ·exact hPv k h hk
 ·by_cases ei:i=n
  ·simp only [if_pos ei] at hk
   exact hPu k hk
  ·simp only [if_neg ei] at hk
   exact hP k (o.ob i (by omega) k hk) (lts i (by omega) k hk)
 ·intro hvk
  by_cases ei:i=n
  ·simp only [if_pos ei] at hk
   rcases hv' k hvk with h | h
   ·have:=hvlt k h
    have:=(hu.lt hk).1
    omega
   ·have:=(hu.lt hk).2
    omega
  ·simp only [if_neg ei] at hk
   rcases hv' k hvk with h | h
   ·exact o.ra i (by omega) k hk h
   ·have:=lts i (by omega) k hk
    omega
 ·intro hjk
  by_cases ei:i=n
  ·have ej:j≠n:=fun e=>hij (by omega)
   simp only [if_pos ei] at hk
   simp only [if_neg ej] at hjk
   have:=lts j (by omega) k hjk
   have:=(hu.lt hk).1
   omega
  ·simp only [if_neg ei] at hk
   by_cases ej:j=n
   ·simp only [if_pos ej] at hjk
    have:=lts i (by omega) k hk
    have:=(hu.lt hjk).1
    omega
   ·simp only [if_neg ej] at hjk
    exact o.oa i j (by omega) (by omega) hij k hk hjk
end
section
variable {z:Bool} {B N:Nat} {c:Nat->Nat} {y:Sy} {wr:World} {vp vs vw vh:Value} {up us uw uh:Nat->Value}
theorem AtP.both (h:AtP z B N c y wr vp vs vw vh up us uw uh) {w1 w2 w3 w4:World} {ue ust v3 v4:Value} (b1:Below wr.heap.size wr w1) (hue:w1.ownsRow wr.heap.size 46 3 ue (y.hL y.hn) (fE (y.hH y.hn) (y.hL y.hn))) (hne:ue≠.slice none 0 0) (b2:Below w1.heap.size w1 w2) (hst:StOwn w2 w1.heap.size ust (y.sS y.sn).p (y.sS y.sn).rs (y.sS y.sn).os (y.sS y.sn).c)
  (hv3:w3.ownsRow 0 44 1 v3 (y.hn+1) ((List.range y.hn).map uh ++ [ue])) (g3:w2.grownBy w3 vh.ownBlock) (hv3':∀ j,v3.ownBlock=some j->vh.ownBlock=some j\/w2.heap.size<=j)
  (hv4:w4.ownsRow 0 73 4 v4 (y.sn+1) (flat (fun i=>cellsL (us i)) y.sn ++ cellsL ust)) (g4:(w3.setCell ⟨N,3,none⟩ v3).grownBy w4 vs.ownBlock) (hv4':∀ j,v4.ownBlock=some j->vs.ownBlock=some j\/(w3.setCell ⟨N,3,none⟩ v3).heap.size<=j):
  ∃ c',AtP z B N c' { y with sn:=y.sn+1,hn:=y.hn+1 } (w4.setCell ⟨N,1,none⟩ v4) vp v4 vw v3 up (fun j=>if j=y.sn then ust else us j) uw (fun j=>if j=y.hn then ue else uh j):=by
 have hN:=h.lt
 have hBN:=h.bN
 have s1:=b1.size
 have s2:=b2.size
 have s3:=g3.size
 have s4:=g4.size
 have s3':(w3.setCell ⟨N,3,none⟩ v3).heap.size=w3.heap.size:=by simp
 rw [s3'] at s4
 obtain ⟨q,hq⟩:∃ q:Nat->Nat,q=fun k=>if k<wr.heap.size then c k else if k<w1.heap.size then 4 else if k<w2.heap.size then 2 else if k<w3.heap.size then 4 else 2:=⟨_,rfl⟩
 have q0:∀ k,k<wr.heap.size->q k=c k:=fun k hk=>by rw [hq];exact if_pos hk
 have q1:∀ k,wr.heap.size<=k->k<w1.heap.size->q k=4:=fun k h1 h2=>by rw [hq];dsimp only;rw [if_neg (by omega),if_pos h2]
 have q2:∀ k,w1.heap.size<=k->k<w2.heap.size->q k=2:=fun k h1 h2=>by rw [hq];dsimp only;rw [if_neg (by omega),if_neg (by omega),if_pos h2]
 have q3:∀ k,w2.heap.size<=k->k<w3.heap.size->q k=4:=fun k h1 h2=>by rw [hq];dsimp only;rw [if_neg (by omega),if_neg (by omega),if_neg (by omega),if_pos h2]
 have q4:∀ k,w3.heap.size<=k->q k=2:=fun k h1=>by rw [hq];dsimp only;rw [if_neg (by omega),if_neg (by omega),if_neg (by omega),if_neg (by omega)]
 clear hq
 have qN:q N=0:=(q0 N hN).trans h.cN
 have vhc:∀ k,vh.ownBlock=some k->k<wr.heap.size/\c k=4:=fun k hk=>⟨(h.o.h.row.lt k hk).2,(h.o.h.rb k hk).2⟩
 have vsc:∀ k,vs.ownBlock=some k->k<wr.heap.size/\c k=2:=fun k hk=>⟨(h.o.s.row.lt k hk).2,(h.o.s.rb k hk).2⟩
 have e12:∀ k,k<wr.heap.size->w2.heap[k]? = wr.heap[k]?:=fun k hk=>(b2.block k (by omega)).trans (b1.block k hk)
 have e3:∀ k,k<w2.heap.size->q k≠4->k≠N->(w3.setCell ⟨N,3,none⟩ v3).heap[k]? = w2.heap[k]?:=fun k hk hc hn=>(zN _ _ _ _ hn).trans (g3.block k hk fun e=>hc (by rw [q0 k (vhc k e.symm).1];exact (vhc k e.symm).2))
 have e4:∀ k,k<w3.heap.size->q k≠2->k≠N->(w4.setCell ⟨N,1,none⟩ v4).heap[k]? = (w3.setCell ⟨N,3,none⟩ v3).heap[k]?:=fun k hk hc hn=>(zN _ _ _ _ hn).trans (g4.block k (by rw [s3'];exact hk) fun e=>hc (by rw [q0 k (vsc k e.symm).1];exact (vsc k e.symm).2))
 have hP:∀ i k,Cl B c i k->k<wr.heap.size->Cl B q i k:=fun i k hk hl=>⟨hk.1,(q0 k hl).trans hk.2⟩
 have hnN:∀ i k,i≠0->Cl B q i k->k≠N:=fun i k hi hk e=>hi (by rw [<- hk.2,e,qN])
 have eN2:w2.heap[N]? = wr.heap[N]?:=e12 N hN
 have eN3 : w3.heap[N]? = wr.heap[N]? := (g3.block N (by omega) fun e => by
  have:=(vhc N e.symm).2
  rw [h.cN] at this
  cases this).trans eN2
 have eN4:w4.heap[N]? = (w3.setCell ⟨N,3,none⟩ v3).heap[N]?:=g4.block N (by rw [s3'];omega) fun e=>by
  have:=(vsc N e.symm).2
  rw [h.cN] at this
  cases this
 obtain ⟨x0,x1,x2,x3⟩:=h.bx
 have c3:∀ j,w3.cell? ⟨N,j,none⟩=wr.cell? ⟨N,j,none⟩:=fun j=>zH eN3
 have c4:∀ j,w4.cell? ⟨N,j,none⟩=(w3.setCell ⟨N,3,none⟩ v3).cell? ⟨N,j,none⟩:=fun j=>zH eN4
 have hkk:∀ i,i≠0->i≠2->i≠4->∀ k,Cl B q i k->k<wr.heap.size->(w4.setCell ⟨N,1,none⟩ v4).heap[k]? = wr.heap[k]?:=fun i h0 h2 h4 k hk hl=>((e4 k (by omega) (by rw [hk.2];exact h2) (hnN i k h0 hk)).trans (e3 k (by omega) (by rw [hk.2];exact h4) (hnN i k h0 hk))).trans (e12 k hl)
 refine ⟨q,⟨?_,?_,?_,?_⟩,fun j=>?_,qN,hBN,⟨?_,?_,?_,?_⟩⟩
 ·rw [World.cell?_setCell_other _ _ _ _ (by simp),c4,World.cell?_setCell_other _ _ _ _ (by simp),c3];exact x0
 ·exact World.cell?_setCell_same _ _ _ (((c4 1).trans ((World.cell?_setCell_other _ _ _ _ (by simp)).trans (c3 1))).trans x1)
 ·rw [World.cell?_setCell_other _ _ _ _ (by simp),c4,World.cell?_setCell_other _ _ _ _ (by simp),c3];exact x2
 ·rw [World.cell?_setCell_other _ _ _ _ (by simp),c4];exact World.cell?_setCell_same _ _ _ ((c3 3).trans x3)
 ·rw [World.frozen?_setCell,zI eN4,World.frozen?_setCell,zI eN3];exact h.fr j
 ·exact (h.o.p.mono (hP 1)).keep (hkk 1 (by decide) (by decide) (by decide))
 ·have hs':StOwn (w3.setCell ⟨N,3,none⟩ v3) wr.heap.size ust (y.sS y.sn).p (y.sS y.sn).rs (y.sS y.sn).os (y.sS y.sn).c:=(hst.mono s1).blk fun k hk=>by
   have hl:=hst.lt hk
   exact e3 k hl.2 (by rw [q2 k hl.1 hl.2];decide) (by omega)
  refine (h.o.s.pushP (w1:=w3.setCell ⟨N,3,none⟩ v3) (w2:=w4) (P':=Cl B q 2) (by omega) (fun k hk hl=>?_) hs' hv4 g4 hv4' (hP 2) (fun k hk=>?_) (fun k h1 hk=>?_)).keep fun k hk _=>zN _ _ _ _ (hnN 2 k (by decide) hk)
  ·exact (e3 k (by omega) (by rw [(hP 2 k hk hl).2];decide) (hnN 2 k (by decide) (hP 2 k hk hl))).trans (e12 k hl)
  ·have hl:=hst.lt hk
   exact ⟨by omega,q2 k hl.1 hl.2⟩
  ·exact ⟨by omega,q4 k (by omega)⟩
 ·exact (h.o.t.mono (hP 3)).keep (hkk 3 (by decide) (by decide) (by decide))
 ·have hue2:w2.ownsRow wr.heap.size 46 3 ue (y.hL y.hn) (fE (y.hH y.hn) (y.hL y.hn)):=ownsRow_blkL hue fun k hk=>b2.block k (hue.lt k hk).2
  refine (h.o.h.pushP (w1:=w2) (w2:=w3) (P':=Cl B q 4) (by omega) (fun k _ hl=>e12 k hl) hue2 (fun _=>hne) hv3 g3 hv3' (hP 4) (fun k hk=>?_) (fun k h1 hk=>?_)).keep fun k hk hl=>(e4 k hl (by rw [hk.2];decide) (hnN 4 k (by decide) hk)).trans (zN _ _ _ _ (hnN 4 k (by decide) hk))
  ·have hl:=hue.lt k hk
   exact ⟨by omega,q1 k hl.1 hl.2⟩
  ·exact ⟨by omega,q3 k h1 (hv3.lt k hk).2⟩
theorem AtP.putW {g cap:Nat} (h:AtP z B N c y wr vp vs (.slice (some ⟨g,0,none⟩) y.wn cap) vh up us uw uh) {i:Nat} (hi:i<y.wn) {w1:World} {u':Value} {m:Nat} {H':Nat->I2} (hs:wr.heap.size<=w1.heap.size) (g1:∀ k,k<wr.heap.size->(uw i).ownBlock≠some k->w1.heap[k]? = wr.heap[k]?)
  (hu:w1.ownsRow 0 81 2 u' m (fT H' m)) (hne:u'≠.slice none 0 0) (hb:∀ k,u'.ownBlock=some k->(uw i).ownBlock=some k\/wr.heap.size<=k):
  AtP z B N (rcol c wr.heap.size 3) (y.setW i m H') (w1.setCell ⟨g,i,none⟩ u') vp vs (.slice (some ⟨g,0,none⟩) y.wn cap) vh up us (fun j=>if j=i then u' else uw j) uh:=by
 have hN:=h.lt
 have hgc:c g=3:=(h.o.t.rb g rfl).2
 have hgN:N≠g:=fun e=>by rw [<- e,h.cN] at hgc;cases hgc
 have eN : (w1.setCell ⟨g, i, none⟩ u').heap[N]? = wr.heap[N]? := (Below.heap_setCell _ _ _ _ hgN).trans (g1 N hN fun e => by
  have:=(h.o.t.ob i hi N e).2
  rw [h.cN] at this
  cases this)
 obtain ⟨x0,x1,x2,x3⟩:=h.bx
 exact ⟨⟨(zH eN).trans x0,(zH eN).trans x1,(zH eN).trans x2,(zH eN).trans x3⟩,fun j=>(zI eN).trans (h.fr j),(rcol_old hN).trans h.cN,h.bN,h.o.putW hi (zO h.bN (Nat.le_of_lt hN)) hs g1 hu hne hb⟩
end
theorem BoxC.blkA {w w':World} {N:Nat} {p vr vo code:Value} (h:BoxC w N p vr vo code) (hb:w'.heap[N]? = w.heap[N]?):BoxC w' N p vr vo code:=by
 obtain ⟨h0,h1,h2,h3⟩:=h
 exact ⟨(zH hb).trans h0,(zH hb).trans h1,(zH hb).trans h2,(zH hb).trans h3⟩
theorem AtP.startM {W1 w:World} {n:Nat} {L:Nat->Nat} {H:Nat->Nat->I5} {v1 v2 v3 v4:Value} (h:NwF W1 n L H true true false true v1 v2 v3 v4 w) (S:Nat->S4) (wH:Nat->Nat->I2) (d:Nat->Nat) (hH:Nat->Nat->E3):
  ∃ N c up,v4=.pointer (some ⟨N,0,none⟩)/\N<w.heap.size/\BoxC w N (.slice none 0 0) (.slice none 0 0) (.slice none 0 0) (.slice none 0 0)/\(∀ j,w.frozen? ⟨N,j,none⟩=false)/\W1.heap.size<=N/\AtP false W1.heap.size N c ⟨n,L,H,0,S,n*n,fun _=>0,wH,0,d,hH⟩ ((((w.setCell ⟨N,0,none⟩ v1).setCell ⟨N,1,none⟩ (.slice none 0 0)).setCell ⟨N,2,none⟩ v2).setCell ⟨N,3,none⟩ (.slice none 0 0)) v1 (.slice none 0 0) v2 (.slice none 0 0) up (fun _=>.slice none 0 0) (fun _=>.slice none 0 0) (fun _=>.slice none 0 0):=by
 obtain ⟨k,h1,h2,-,h4⟩:=h.ow
 obtain ⟨N,e,hN,bx,fr,cN⟩:=h4 rfl
 obtain ⟨u,o⟩:=h1 rfl
 have hl:=zJ w _ bx.1
 have hk:∀ i,i≠0->∀ j,Cl W1.heap.size k i j->j<w.heap.size->((((w.setCell ⟨N,0,none⟩ v1).setCell ⟨N,1,none⟩ (.slice none 0 0)).setCell ⟨N,2,none⟩ v2).setCell ⟨N,3,none⟩ (.slice none 0 0)).heap[j]? = w.heap[j]?:=fun i hi j hj _=>by
  have hne:j≠N:=fun e=>hi (by rw [<- hj.2,e,cN])
  exact (zN _ _ _ _ hne).trans ((zN _ _ _ _ hne).trans ((zN _ _ _ _ hne).trans (zN _ _ _ _ hne)))
 obtain ⟨g0,g1,g2,g3⟩:=id bx
 exact ⟨N,k,u,e,hl,bx,fr,hN,BoxC.set4 ⟨g0,g1,g2,g3⟩ _ _ _ _,fun j=>by simp only [World.frozen?_setCell];exact fr j,cN,hN,⟨(o.keep (hk 1 (by decide))).weak,LS.nil _ _ _ _,((h2 rfl).keep (hk 3 (by decide))).ll (by decide) _ (fun _=>rfl),LL.nil _ _ _ _ _ _ _ _⟩⟩
section
variable {P:Program} {ops:Array Oper} {Q:Exit->Act->World->Prop} {md:Region.Mode} {S:World->Prop} {G:Nat->Bool}
theorem wpG_three (lst:Bool->Bool->Bool->Bool->Array Bool) (i2 i3 i4 i5:Nat) {o5:Oper} (I:Bool->Bool->Bool->Act->World->Prop) (J:Bool->Act->World->Prop) {f0:Nat}
  (hrd:∀ b c d,(b && c)=false->Region.ready md ops (lst b c d false)=outI b i2 ++ (outI c i3 ++ outI d i4))
  (s2:∀ c d,(lst false c d false).setIfInBounds i2 true=lst true c d false) (s3:∀ b d,(lst b false d false).setIfInBounds i3 true=lst b true d false) (s4:∀ b c e,(lst b c false e).setIfInBounds i4 true=lst b c true e) (s5:∀ d,(lst true true d false).setIfInBounds i5 true=lst true true d true)
  (e5:ops.toList[i5]? = some o5) (hs:Region.noSelect ops=true) (hf:∀ d,Region.free md ops (lst true true d false) i5=true) (hr5:∀ d,(Region.ready md ops (lst true true d false)).contains i5=true) (hrJ:Region.ready md ops (lst true true false true)=[i4]) (hQ:∀ v c a w,Q (.panic c) (a.put o5.dst v) w->Q (.panic c) a w)
  (h2:∀ c d x w,I false c d x w->wpOp P ops Q i2 (fun x' w'=>(S w->G i2=false->S w')/\I true c d x' w') x w)
  (h3:∀ b d x w,I b false d x w->wpOp P ops Q i3 (fun x' w'=>(S w->G i3=false->S w')/\I b true d x' w') x w) (h4:∀ b c x w,I b c false x w->wpOp P ops Q i4 (fun x' w'=>(S w->G i4=false->S w')/\I b c true x' w') x w)
  (h5:∀ d x w,I true true d x w->Region.wanted o5 (yielded ops x.tmps)=true/\∃ v,(∀ w,(execOp x.eval o5).run P w=.ok (.value v) w)/\J d (x.put o5.dst v) w)
  (hJ:∀ x w,J false x w->wpOp P ops Q i4 (fun x' w'=>(S w->G i4=false->S w')/\J true x' w') x w)
  (hend:∀ x w,J true x w->wpG P md ops Q S G f0 (lst true true true true) x w):
  ∀ (m:Nat) (b c d:Bool) (x:Act) (w:World),notB b+notB c+notB d=m->I b c d x w->wpG P md ops Q S G (f0+m+1) (lst b c d false) x w:=by
 intro m
 induction m with
 | zero=>
  intro b c d x w hm hI
  obtain ⟨rfl,rfl,rfl⟩:b=true/\c=true/\d=true:=by
   cases b <;> cases c <;> cases d <;> simp [notB] at hm ⊢
  obtain ⟨hw,v,hv,hj⟩:=h5 _ x w hI
  exact wpG_takeW i5 e5 hs (hf _) (hr5 _) hQ hw ⟨v,hv,by rw [s5];exact hend _ _ hj⟩
 | succ m ih=>
  intro b c d x w hm hI
  rcases zK (b && c) with hT | hne
  ·obtain ⟨rfl,rfl⟩:b=true/\c=true:=by
    cases b <;> cases c <;> simp at hT ⊢
   obtain ⟨rfl,rfl⟩:d=false/\m=0:=by
    cases d <;> simp [notB] at hm ⊢ <;> exact hm
   obtain ⟨hw,v,hv,hj⟩:=h5 _ x w hI
   refine wpG_takeW i5 e5 hs (hf _) (hr5 _) hQ hw ⟨v,hv,?_⟩
   rw [s5]
   refine ⟨(fun h0=>by rw [hrJ] at h0;cases h0),fun i hi=>?_⟩
   rw [hrJ] at hi
   obtain rfl:=List.mem_singleton.1 hi
   refine wpOp_mono (fun x' w' h=>⟨h.1,?_⟩) (hJ _ _ hj)
   rw [s4]
   exact hend _ _ h.2
  have hr:=hrd b c d hne
  refine ⟨fun h0=>?_,fun i hi=>?_⟩
  ·rw [hr] at h0
   cases b <;> cases c <;> cases d <;> simp [outI] at h0 hne
  ·rw [hr,List.mem_append,List.mem_append] at hi
   rcases hi with hi | hi | hi
   ·obtain ⟨rfl,rfl⟩:=outI_mem hi
    refine wpOp_mono (fun x' w' h=>⟨h.1,?_⟩) (h2 c d x w hI)
    rw [s2]
    exact ih true c d x' w' (by simp [notB] at hm ⊢;omega) h.2
   ·obtain ⟨rfl,rfl⟩:=outI_mem hi
    refine wpOp_mono (fun x' w' h=>⟨h.1,?_⟩) (h3 b d x w hI)
    rw [s3]
    exact ih b true d x' w' (by simp [notB] at hm ⊢;omega) h.2
   ·obtain ⟨rfl,rfl⟩:=outI_mem hi
    refine wpOp_mono (fun x' w' h=>⟨h.1,?_⟩) (h4 b c x w hI)
    rw [s4]
    exact ih b c true x' w' (by simp [notB] at hm ⊢;omega) h.2
end
