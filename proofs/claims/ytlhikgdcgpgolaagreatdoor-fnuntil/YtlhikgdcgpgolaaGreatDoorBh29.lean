import Derived.Test.YtlhikgdcgpgolaaGreatDoorBh0
import Derived.Test.YtlhikgdcgpgolaaGreatDoorBh19
import Derived.Test.YtlhikgdcgpgolaaGreatDoorBh13
import Derived.Test.YtlhikgdcgpgolaaGreatDoorBh22
import Derived.Test.YtlhikgdcgpgolaaGreatDoorBh25
import Derived.Test.YtlhikgdcgpgolaaGreatDoorBh24
import Derived.Lib.QuietBelow
import Derived.BigQuiet
import Derived.Deep.Cut
namespace Go.Proofs.YtlhikgdcgpgolaaGreatDoor
set_option maxRecDepth 100000
set_option maxHeartbeats 2000000
open Go.ChangeShapes Go.WideShapes Go.ChangeAt Go.RowKit Go.Deep
section
variable {e:TypeId} {sz:Nat} {E:TypeId} {w:World} {P:Nat->Prop} {v:Value} {n:Nat} {u:Nat->Value} {L:Nat->Nat} {c:Nat->List Value}
end
abbrev spV (p k v:Int):Value:=.agg #[.int .i64 p,.int .i64 k,.int .i64 v]
abbrev moV (q:St8) (a:Option Addr) (n c:Nat):Value:=.agg #[.int .i64 q.p,.slice q.ra q.rs.length q.rc,.slice q.oa q.os.length q.oc,.int .i64 q.c,.slice a n c]
def hoB (S:S4) (eh:Nat->E3) (n:Nat) (k v:Int):Bool:=
 if k=1 then S.p == v else if k=2 then (decide (S.os.length≠0) && (zi S.os (S.os.length - 1) == v)) else (decide (n≠0) && ((eh (n - 1)).k == 3 && (eh (n - 1)).v == v))
theorem lastInt_no (a:Option Addr) (c:Nat) (w:World):
  Calls Tryz.prog 115 #[.slice a 0 c] w fun e w'=>e=.returned (.tuple #[.int .i64 0,.bool false])/\w'=w:=by
 go_enter Tryz.func115,Tryz.ntmps115
 go_wp2
 exact bodyPost_ret (v:=.tuple #[.int .i64 0,.bool false]) (by simp [results,Tryz.results115,go_sem]) rfl ⟨rfl,rfl⟩
theorem lastInt_yes (a:Option Addr) (n c:Nat) (xs:List Int) (w:World) (h:Sl w a xs) (hn:n+1=xs.length) (hl:xs.length<=1048576):
  Calls Tryz.prog 115 #[.slice a (n+1) c] w fun e w'=>e=.returned (.tuple #[.int .i64 (zi xs n),.bool true])/\w'=w:=by
 obtain ⟨b,off,rfl,zb,c0⟩:=h.at (k:=n) (by omega)
 have e1:((n+1:Nat):Int) - 1=(n:Int):=by omega
 have hne:(((n+1:Nat):Int) == 0)=false:=by
  have:¬ ((n+1:Nat):Int)=0:=by omega
  simpa using this
 have e2:IntKind.i64.wrap (n:Int)=(n:Int):=by rw [IntKind.wrap_i64] <;> omega
 have hlt:(n:Int)<((n+1:Nat):Int):=by omega
 generalize hm:n+1=m at *
 clear h hn
 go_enter Tryz.func115,Tryz.ntmps115
 go_wp2
 exact bodyPost_ret (v:=.tuple #[.int .i64 (zi xs n),.bool true]) (by simp [results,Tryz.results115,go_sem]) rfl ⟨rfl,rfl⟩
theorem St8.os_pos {q:St8} (h:q.os.length≠0):∃ n,n+1=q.os.length:=⟨q.os.length - 1,by omega⟩
theorem lastEvent_no (a:Option Addr) (c:Nat) (w:World):
  Calls Tryz.prog 116 #[.slice a 0 c] w fun e w'=>e=.returned (.tuple #[evV 0 0 0,.bool false])/\Below w.heap.size w w':=by
 go_enter Tryz.func116,Tryz.ntmps116
 go_wp2
 exact bodyPost_ret (v:=.tuple #[evV 0 0 0,.bool false]) (by simp [results,Tryz.results116,go_sem]) rfl ⟨rfl,by go_grown⟩
theorem lastEvent_yes (a:Option Addr) (n c:Nat) (eh:Nat->E3) (w:World) (h:EvL w a (n+1) eh) (hl:n<1048576):
  Calls Tryz.prog 116 #[.slice a (n+1) c] w fun e w'=>e=.returned (.tuple #[evV (eh n).k (eh n).q (eh n).v,.bool true])/\Below w.heap.size w w':=by
 obtain ⟨b,off,rfl,zb,c0,c1,c2⟩:=h.at (k:=n) (by omega)
 have e1:((n+1:Nat):Int) - 1=(n:Int):=by omega
 have hne:(((n+1:Nat):Int) == 0)=false:=by
  have:¬ ((n+1:Nat):Int)=0:=by omega
  simpa using this
 have e2:IntKind.i64.wrap (n:Int)=(n:Int):=by rw [IntKind.wrap_i64] <;> omega
 have hlt:(n:Int)<((n+1:Nat):Int):=by omega
 have c0':∀ o1,(w.alloc o1).cell? ⟨b,off+n*3,none⟩=some (.int .i64 (eh n).k):=fun o1=>(World.cell?_alloc_lt _ _ _ zb).trans c0
 have c1':∀ o1,(w.alloc o1).cell? ⟨b,off+n*3+1,none⟩=some (.int .i64 (eh n).q):=fun o1=>(World.cell?_alloc_lt _ _ _ zb).trans c1
 have c2':∀ o1,(w.alloc o1).cell? ⟨b,off+n*3+2,none⟩=some (.int .i64 (eh n).v):=fun o1=>(World.cell?_alloc_lt _ _ _ zb).trans c2
 generalize hm:n+1=m at *
 clear h c0 c1 c2 hm
 go_enter Tryz.func116,Tryz.ntmps116
 go_wp2
 exact bodyPost_ret (v:=.tuple #[evV (eh n).k (eh n).q (eh n).v,.bool true]) (by simp [results,Tryz.results116,go_sem]) rfl ⟨rfl,by go_grown⟩
theorem isAt_any (q:St8) (a:Option Addr) (n c:Nat) (eh:Nat->E3) (p v:Int) (w:World):
  Calls Tryz.prog 71 #[spV p 1 v,moV q a n c] w fun e w'=>e=.returned (.bool (hoB q.s eh n 1 v))/\Below w.heap.size w w':=by
 have HB:Hid (hoB q.s eh n 1 v=(q.p == v)):=by simp [hoB,Hid,St8.s]
 generalize hoB q.s eh n 1 v=R at *
 go_enter Tryz.func71,Tryz.ntmps71
 go_wp2
 go_ret
 exact ⟨by rw [HB.out];rfl,by go_grown⟩
theorem wasPrinted_any (q:St8) (a:Option Addr) (n c:Nat) (eh:Nat->E3) (p v:Int) (w:World) (h:Sl w q.oa q.os) (hl:q.os.length<=1048576):
  Calls Tryz.prog 72 #[spV p 2 v,moV q a n c] w fun e w'=>e=.returned (.bool (hoB q.s eh n 2 v))/\Below w.heap.size w w':=by
 have HB:Hid (hoB q.s eh n 2 v=(decide (q.os.length≠0) && (zi q.os (q.os.length - 1) == v))):=by simp [hoB,Hid,St8.s]
 generalize hoB q.s eh n 2 v=R at *
 have HL:Hid (q.os.length<=1048576):=hl
 have HS:Hid (Sl w q.oa q.os):=h
 clear h hl
 by_cases h0:q.os.length=0
 ·have HR:Hid (R=false):=by
   show R=false
   rw [HB.out,h0];rfl
  unfold moV
  rw [h0]
  clear HB h0 HS HL
  go_enter Tryz.func72,Tryz.ntmps72
  go_wp2_with fail
  refine (lastInt_no _ _ _).mono ?_
  rintro e w1 ⟨rfl,rfl⟩
  go_wp2
  go_ret
  exact ⟨by rw [HR.out];rfl,by go_grown⟩
 ·obtain ⟨m,hm⟩:=St8.os_pos h0
  have HR:Hid (R=(zi q.os m == v)/\m+1=q.os.length):=by
   refine ⟨?_,hm⟩
   rw [HB.out,show q.os.length - 1=m by omega,decide_eq_true h0,Bool.true_and]
  unfold moV
  rw [<- hm]
  clear HB h0 hm
  go_enter Tryz.func72,Tryz.ntmps72
  go_wp2_with fail
  refine (lastInt_yes _ m _ q.os _ (HS.out.below (by go_grown)) HR.out.2 HL.out).mono ?_
  rintro e w1 ⟨rfl,rfl⟩
  go_wp2
  go_ret
  exact ⟨by rw [HR.out.1];rfl,by go_grown⟩
theorem wasTaken_any (q:St8) (a:Option Addr) (n c:Nat) (eh:Nat->E3) (p v:Int) (w:World) (h:EvL w a n eh) (hl:n<=1048576):
  Calls Tryz.prog 73 #[spV p 3 v,moV q a n c] w fun e w'=>e=.returned (.bool (hoB q.s eh n 3 v))/\Below w.heap.size w w':=by
 have HB:Hid (hoB q.s eh n 3 v=(decide (n≠0) && ((eh (n - 1)).k == 3 && (eh (n - 1)).v == v))):=by simp [hoB,Hid]
 generalize hoB q.s eh n 3 v=R at *
 have HS:Hid (EvL w a n eh):=h
 clear h
 cases n with
 | zero=>
  have HR:Hid (R=false):=by
   show R=false
   rw [HB.out];rfl
  clear HB HS
  go_enter Tryz.func73,Tryz.ntmps73
  go_wp2_with fail
  refine (lastEvent_no _ _ _).mono ?_
  rintro e w1 ⟨rfl,b1⟩
  have B1:Hid (Below w.heap.size w w1):=below_up (by go_grown) b1 (by go_size)
  clear b1
  go_wp2
  go_ret
  exact ⟨by rw [HR.out];rfl,below_up B1.out (by go_grown) B1.out.size⟩
 | succ m=>
  have HR:Hid (R=((eh m).k == 3 && (eh m).v == v)):=by
   show R=_
   rw [HB.out]
   simp
  have hm:m<1048576:=by omega
  clear HB hl
  go_enter Tryz.func73,Tryz.ntmps73
  go_wp2_with fail
  refine (lastEvent_yes _ m _ eh _ (HS.out.below (by go_grown)) hm).mono ?_
  rintro e w1 ⟨rfl,b1⟩
  have B1:Hid (Below w.heap.size w w1):=below_up (by go_grown) b1 (by go_size)
  have l1:w.heap.size<w1.heap.size:=by have:=b1.size;simp only [World.size_alloc] at this;omega
  have v1:w1.cell? ⟨w.heap.size,2,none⟩=some (.int .i64 v):=(b1.cell (p:=⟨w.heap.size,2,none⟩) (by simp;omega)).trans (by go_cell)
  clear hm b1
  rcases zK ((eh m).k == 3) with t | t
  ·go_wp2
   go_ret
   exact ⟨by rw [HR.out,t,Bool.true_and];rfl,below_up B1.out (by go_grown) B1.out.size⟩
  ·go_wp2
   go_ret
   exact ⟨by rw [HR.out,t,Bool.false_and];rfl,below_up B1.out (by go_grown) B1.out.size⟩
open Go.Sort
def knB (k:Int):Bool:=decide (1<=k/\k<=3)
def qsF (k:Int):FuncId:=if k=1 then 71 else if k=2 then 72 else 73
abbrev qsV (p k v:Int):Value:=.agg #[.int .i64 p,.func (.func (qsF k)) #[spV p k v] #[]]
abbrev qsZ:Value:=.agg #[.int .i64 0,.nilFunc]
def qsO (T:Bool) (p k v:Int):Value:=if T=true then qsV p k v else qsZ
theorem knB_cases {k:Int} (h:knB k=true):k=1\/k=2\/k=3:=by
 simp only [knB,decide_eq_true_eq] at h
 omega
noncomputable def spB (y:Sy) (p k:Int):Bool:=knB k && (belB p y.pn && y.okB)
noncomputable def hsB (y:Sy) (p k v:Int):Bool:=spB y p k && hoB (y.sS p.toNat) (y.hH p.toNat) (y.hL p.toNat) k v
theorem questionOf_yes (p k v:Int) (w:World) (hk:knB k=true):
  Calls Tryz.prog 35 #[spV p k v] w fun e w'=>e=.returned (.tuple #[qsV p k v,.bool true])/\Below w.heap.size w w':=by
 rcases knB_cases hk with rfl | rfl | rfl <;> clear hk
 all_goals
  go_enter Tryz.func35,Tryz.ntmps35
  go_wp2
 ·exact bodyPost_ret (v:=.tuple #[qsV p 1 v,.bool true]) (by simp [results,Tryz.results35,go_sem,qsF]) rfl ⟨rfl,by go_grown⟩
 ·exact bodyPost_ret (v:=.tuple #[qsV p 2 v,.bool true]) (by simp [results,Tryz.results35,go_sem,qsF]) rfl ⟨rfl,by go_grown⟩
 ·exact bodyPost_ret (v:=.tuple #[qsV p 3 v,.bool true]) (by simp [results,Tryz.results35,go_sem,qsF]) rfl ⟨rfl,by go_grown⟩
theorem questionOf_no (p k v:Int) (w:World) (hk:knB k=false):
  Calls Tryz.prog 35 #[spV p k v] w fun e w'=>e=.returned (.tuple #[qsZ,.bool false])/\Below w.heap.size w w':=by
 have t:(k == 1)=false/\(k == 2)=false/\(k == 3)=false:=by
  simp only [knB,decide_eq_false_iff_not] at hk
  refine ⟨?_,?_,?_⟩ <;> rw [beq_eq_false_iff_ne] <;> omega
 obtain ⟨t1,t2,t3⟩:=t
 clear hk
 go_enter Tryz.func35,Tryz.ntmps35
 go_wp2
 exact bodyPost_ret (v:=.tuple #[qsZ,.bool false]) (by simp [results,Tryz.results35,go_sem]) rfl ⟨rfl,by go_grown⟩
theorem leTwo (n:Nat):n<=n+1+1:=by omega
structure QsC (w:World) (N:Nat) (a b:Value):Prop where
 c0:w.cell? ⟨N,0,none⟩=some a
 c1:w.cell? ⟨N,1,none⟩=some b
 fz:∀ j,w.frozen? ⟨N,j,none⟩=false
theorem QsC.below {w w':World} {N:Nat} {a b:Value} (h:QsC w N a b) (hb:Below w.heap.size w w'):QsC w' N a b:=by
 have hN:N<w.heap.size:=zJ w _ h.c0
 exact ⟨(hb.cell hN).trans h.c0,(hb.cell hN).trans h.c1,fun j=>((bcell hb).2 N j hN).trans (h.fz j)⟩
theorem QsC.new (w:World) (a b:Value) (t:TypeId):QsC (w.alloc (.cells #[a,b] t)) w.heap.size a b:=
 ⟨zW _ _ _ 0 rfl,zW _ _ _ 1 rfl,fun _=>yB _ _ _ _ rfl⟩
structure QsI (w:World) (x:SysIn) (p k v:Int) (wx:World):Prop where
 be:Below w.heap.size w wx
 bs:BoxC wx w.heap.size (.slice x.pa x.pn x.pc) (.slice x.sa x.sn x.sc) (.slice x.wa x.wn x.wc) (.slice x.ha x.hn x.hc)
 bx:EvK wx (w.heap.size+1) p k v
 bq:QsC wx (w.heap.size+1+1) (.int .i64 0) .nilFunc
 lt:w.heap.size+1+1<wx.heap.size
theorem QsI.below {w:World} {x:SysIn} {p k v:Int} {wx wy:World} (h:QsI w x p k v wx) (hb:Below wx.heap.size wx wy):QsI w x p k v wy:=
 ⟨h.be.trans (hb.mono h.be.size),h.bs.below hb,h.bx.below hb,h.bq.below hb,zL h.lt hb.size⟩
theorem QsI.new (w:World) (x:SysIn) (p k v:Int):QsI w x p k v (((w.alloc (oQ4 x.pa x.pn x.pc x.sa x.sn x.sc x.wa x.wn x.wc x.ha x.hn x.hc)).alloc (oQ5 p k v)).alloc (.cells #[.int .i64 0,.nilFunc] 51)):=by
 have e1:(w.alloc (oQ4 x.pa x.pn x.pc x.sa x.sn x.sc x.wa x.wn x.wc x.ha x.hn x.hc)).heap.size=w.heap.size+1:=by simp
 refine ⟨by go_grown,((BoxC.new w _ _ _ _ _).below (zT _ _)).below (zT _ _),?_,?_,by simp⟩
 ·have:=(EvK.new (w.alloc (oQ4 x.pa x.pn x.pc x.sa x.sn x.sc x.wa x.wn x.wc x.ha x.hn x.hc)) p k v 32).below (zT _ (.cells #[.int .i64 0,.nilFunc] 51))
  rw [e1] at this
  exact this
 ·have:=QsC.new ((w.alloc (oQ4 x.pa x.pn x.pc x.sa x.sn x.sc x.wa x.wn x.wc x.ha x.hn x.hc)).alloc (oQ5 p k v)) (.int .i64 0) .nilFunc 51
  rw [World.size_alloc,e1] at this
  exact this
theorem questionIn_any (x:SysIn) (p k v:Int) (w:World) (hG:SysG w x) (hL:x.Len) (hV:w.cell? ⟨0,0,none⟩=some (.iface 222 (.agg #[.pointer (some ⟨1,171,none⟩)]))):
  Calls Tryz.prog 16 #[x.v,spV p k v] w fun e w'=>e=.returned (.tuple #[qsO (spB x.y p k) p k v,.bool (spB x.y p k)])/\Below w.heap.size w w':=by
 have HG:Hid (SysG w x):=hG
 have HL:Hid x.Len:=hL
 have HV:Hid (w.cell? ⟨0,0,none⟩=some (.iface 222 (.agg #[.pointer (some ⟨1,171,none⟩)]))):=hV
 have HV0:Hid (0<w.heap.size):=zJ w _ hV
 have HQ:Hid (QsI w x p k v (((w.alloc (oQ4 x.pa x.pn x.pc x.sa x.sn x.sc x.wa x.wn x.wc x.ha x.hn x.hc)).alloc (oQ5 p k v)).alloc (.cells #[.int .i64 0,.nilFunc] 51))):=QsI.new w x p k v
 have HT:Hid (spB x.y p k=(knB k && (belB p x.pn && x.y.okB))):=rfl
 have HO:Hid (qsO false p k v=qsZ/\qsO true p k v=qsV p k v):=⟨rfl,rfl⟩
 generalize spB x.y p k=T at *
 clear hG hL hV
 go_enter Tryz.func16,Tryz.ntmps16
 go_wp2_with fail
 generalize ((w.alloc (oQ4 x.pa x.pn x.pc x.sa x.sn x.sc x.wa x.wn x.wc x.ha x.hn x.hc)).alloc (oQ5 p k v)).alloc (.cells #[.int .i64 0,.nilFunc] 51)=W2 at *
 rcases zK (knB k) with tk | tk
 case inr=>
  have HZ:Hid (T=false):=by
   show T=false
   rw [HT.out,tk];rfl
  refine (questionOf_no p k v W2 tk).mono ?_
  rintro e w1 ⟨rfl,b1⟩
  have H1:Hid (QsI w x p k v w1):=HQ.out.below b1
  clear b1 HQ tk HT
  obtain ⟨be,⟨s0,s1,s2,s3⟩,⟨x0,x1,x2,xf⟩,⟨q0,q1,qf⟩,lt⟩:=H1.out
  have l0:w.heap.size<w1.heap.size:=by omega
  have l1:w.heap.size+1<w1.heap.size:=by omega
  clear be
  go_wp2
  refine bodyPost_ret (v:=.tuple #[qsZ,.bool false]) (by simp [results,Tryz.results16,go_sem,q0,q1,lt]) rfl ⟨by rw [HZ.out,HO.out.1],?_⟩
  exact H1.out.be.trans (by go_grown)
 have HK:Hid (knB k=true):=tk
 refine (questionOf_yes p k v W2 tk).mono ?_
 rintro e w1 ⟨rfl,b1⟩
 have H1:Hid (QsI w x p k v w1):=HQ.out.below b1
 clear b1 HQ tk
 have Ba:Hid (QsI w x p k v (w1.alloc (.cells #[.int .i64 p,.func (.func (qsF k)) #[spV p k v] #[]] 51))):=H1.out.below (zT _ _)
 have Qa:Hid (QsC (w1.alloc (.cells #[.int .i64 p,.func (.func (qsF k)) #[spV p k v] #[]] 51)) w1.heap.size (.int .i64 p) (.func (.func (qsF k)) #[spV p k v] #[])):=QsC.new w1 _ _ _
 obtain ⟨be,⟨s0,s1,s2,s3⟩,⟨x0,x1,x2,xf⟩,⟨q0,q1,qf⟩,lt⟩:=H1.out
 have l0:w.heap.size<w1.heap.size:=by omega
 have l1:w.heap.size+1<w1.heap.size:=by omega
 clear be
 unfold qsV at HO ⊢
 generalize qsF k=F at *
 go_wp2_with fail
 clear s0 s1 s2 s3 x0 x1 x2 xf q0 q1 qf lt l0 l1
 generalize w1.heap.size=N at *
 generalize w1.alloc (.cells #[.int .i64 p,.func (.func F) #[spV p k v] #[]] 51)=W3 at *
 refine (isBelow_any _ _ _).mono ?_
 rintro e w2 ⟨rfl,rfl⟩
 obtain ⟨be,⟨s0,s1,s2,s3⟩,⟨x0,x1,x2,xf⟩,⟨q0,q1,qf⟩,lt⟩:=Ba.out
 clear be
 rcases zK (belB p x.pn) with tb | tb
 case inr=>
  have HZ:Hid (T=false):=by
   show T=false
   rw [HT.out,tb,Bool.false_and,Bool.and_false]
  rw [tb]
  clear HT tb
  go_wp2
  refine bodyPost_ret (v:=.tuple #[qsZ,.bool false]) (by simp [results,Tryz.results16,go_sem,q0,q1]) rfl ⟨by rw [HZ.out,HO.out.1],?_⟩
  exact (Ba.out.be.setCell (leTwo _) _).setCell (leTwo _) _
 rw [tb]
 have HT2:Hid (T=x.y.okB):=by
  show T=_
  rw [HT.out,tb,HK.out,Bool.true_and,Bool.true_and]
 clear HT tb HK
 go_wp2_with fail
 refine (implSysOk_any x w2 (HG.out.below Ba.out.be) HL.out ((Ba.out.be.cell (p:=⟨0,0,none⟩) HV0.out).trans HV.out)).mono ?_
 clear s0 s1 s2 s3 x0 x1 x2 xf q0 q1 qf lt
 rintro e w3 ⟨rfl,b3⟩
 have B3:Hid (QsI w x p k v w3):=Ba.out.below b3
 have Q3:Hid (QsC w3 N (.int .i64 p) (.func (.func F) #[spV p k v] #[])):=Qa.out.below b3
 clear b3 Ba Qa HG HL HV HV0
 rw [<- HT2.out]
 clear HT2
 obtain ⟨be,⟨s0,s1,s2,s3⟩,⟨x0,x1,x2,xf⟩,⟨q0,q1,qf⟩,lt⟩:=B3.out
 obtain ⟨z0,z1,-⟩:=Q3.out
 clear be
 cases T with
 | false=>
  go_wp2
  refine bodyPost_ret (v:=.tuple #[qsZ,.bool false]) (by simp [results,Tryz.results16,go_sem,q0,q1]) rfl ⟨by rw [HO.out.1],?_⟩
  exact (B3.out.be.setCell (leTwo _) _).setCell (leTwo _) _
 | true=>
  go_wp2
  refine bodyPost_ret (v:=.tuple #[.agg #[.int .i64 p,.func (.func F) #[spV p k v] #[]],.bool true]) (by simp [results,Tryz.results16,go_sem,q0,q1]) rfl ⟨by rw [HO.out.2],?_⟩
  exact (B3.out.be.setCell (leTwo _) _).setCell (leTwo _) _
theorem isSo_any (q:St8) (a:Option Addr) (n c:Nat) (eh:Nat->E3) (p k v:Int) (w:World) (hk:knB k=true) (h:Sl w q.oa q.os) (hl:q.os.length<=1048576) (he:EvL w a n eh) (hn:n<=1048576):
  Calls Tryz.prog (qsF k) #[spV p k v,moV q a n c] w fun e w'=>e=.returned (.bool (hoB q.s eh n k v))/\Below w.heap.size w w':=by
 rcases knB_cases hk with rfl | rfl | rfl
 ·exact isAt_any q a n c eh p v w
 ·exact wasPrinted_any q a n c eh p v w h hl
 ·exact wasTaken_any q a n c eh p v w he hn
theorem enter_qsF (k:Int) (hk:knB k=true):∀ args wx,(callFunc (qsF k) args).run Tryz.prog wx=.ok (.enter (qsF k) args) wx:=by
 rcases knB_cases hk with rfl | rfl | rfl
 ·exact yA Tryz.func71 (by kernel_rfl) rfl
 ·exact yA Tryz.func72 (by kernel_rfl) rfl
 ·exact yA Tryz.func73 (by kernel_rfl) rfl
theorem holdsIn_any (x:SysIn) (p:Nat) (k v:Int) (w:World) (hk:knB k=true) (hG:SysG w x) (hL:x.Len) (hp:p<x.sn) (hh:p<x.hn):
  Calls Tryz.prog 19 #[qsV p k v,x.v] w fun e w'=>e=.returned (.bool (hoB (x.sQ p).s (x.hH p) (x.hL p) k v))/\Below w.heap.size w w':=by
 have bA:Below w.heap.size w ((w.alloc (.cells #[.int .i64 p,.func (.func (qsF k)) #[spV p k v] #[]] 51)).alloc (oQ4 x.pa x.pn x.pc x.sa x.sn x.sc x.wa x.wn x.wc x.ha x.hn x.hc)):=(zT _ _).trans ((zT _ _).mono (by simp))
 have BA:Hid (Below w.heap.size w ((w.alloc (.cells #[.int .i64 p,.func (.func (qsF k)) #[spV p k v] #[]] 51)).alloc (oQ4 x.pa x.pn x.pc x.sa x.sn x.sc x.wa x.wn x.wc x.ha x.hn x.hc))):=bA
 have hQ:QsC ((w.alloc (.cells #[.int .i64 p,.func (.func (qsF k)) #[spV p k v] #[]] 51)).alloc (oQ4 x.pa x.pn x.pc x.sa x.sn x.sc x.wa x.wn x.wc x.ha x.hn x.hc)) w.heap.size (.int .i64 p) (.func (.func (qsF k)) #[spV p k v] #[]):=(QsC.new w _ _ _).below (zT _ _)
 have hB:=BoxC.new (w.alloc (.cells #[.int .i64 p,.func (.func (qsF k)) #[spV p k v] #[]] 51)) (.slice x.pa x.pn x.pc) (.slice x.sa x.sn x.sc) (.slice x.wa x.wn x.wc) (.slice x.ha x.hn x.hc) 29
 rw [World.size_alloc] at hB
 have HE:Hid (∀ args wx,(callFunc (qsF k) args).run Tryz.prog wx=.ok (.enter (qsF k) args) wx):=enter_qsF k hk
 have HC:Hid (∀ wx,Below w.heap.size w wx->Calls Tryz.prog (qsF k) #[spV p k v,moV (x.sQ p) (x.hA p) (x.hL p) (x.hC p)] wx fun e w'=>e=.returned (.bool (hoB (x.sQ p).s (x.hH p) (x.hL p) k v))/\Below wx.heap.size wx w'):=fun wx hb=>isSo_any (x.sQ p) (x.hA p) (x.hL p) (x.hC p) (x.hH p) p k v wx hk ((hG.s.lst p hp).2.below hb) (hL.s.2 p hp).2 ((hG.hi p hh).below hb) (hL.h.2 p hh)
 have hp':(p:Int)<(x.sn:Int):=by omega
 have hh':(p:Int)<(x.hn:Int):=by omega
 obtain ⟨bs,os,es,c0,c1,c2,c3⟩:=(hG.below bA).s.at hp
 obtain ⟨bh,oh,eh,ch⟩:=(hG.below bA).h.at hh
 have HA:Hid (x.sa=some ⟨bs,os,none⟩/\x.ha=some ⟨bh,oh,none⟩):=⟨es,eh⟩
 generalize hoB (x.sQ p).s (x.hH p) (x.hL p) k v=R at *
 unfold qsV
 generalize qsF k=F at *
 clear hG hL hk bA es eh
 go_enter Tryz.func19,Tryz.ntmps19
 go_wp2_with fail
 generalize (w.alloc (.cells #[.int .i64 p,.func (.func F) #[spV p k v] #[]] 51)).alloc (oQ4 x.pa x.pn x.pc x.sa x.sn x.sc x.wa x.wn x.wc x.ha x.hn x.hc)=W2 at *
 obtain ⟨q0,q1,-⟩:=hQ
 obtain ⟨s0,s1,s2,s3⟩:=hB
 rw [HA.out.1] at s1
 rw [HA.out.2] at s3
 have hx:=HE.out
 have c0':=cell_regrown c0
 have c1':=cell_regrown c1
 have c2':=cell_regrown c2
 have c3':=cell_regrown c3
 have ch':=cell_regrown ch
 have q0':=cell_regrown q0
 have q1':=cell_regrown q1
 have s1':=cell_regrown s1
 have s3':=cell_regrown s3
 have HQ2:Hid (∀ d os,Below w.heap.size w (grow (redrawn W2 d) os)):=fun d os=>BA.out.trans ((below_regrown W2 d os).mono BA.out.size)
 refine wp_region_quiet_below (by kernel_rfl) (by kernel_rfl) ?_
 repeat (quiet_step (first|(exact Calls.regrown_of (HC.out _ (HQ2.out _ _)))))
 refine wpQuiet_nil ?_
 intro _ hw'
 obtain ⟨⟨dq,osq⟩,hw''⟩:=hw'
 subst hw''
 have B3:Hid (Below w.heap.size w (grow (redrawn W2 dq) osq)):=HQ2.out _ _
 generalize grow (redrawn W2 dq) osq=w3 at *
 clear c0' c1' c2' c3' ch' q0' q1' s1' s3' q0 q1 s0 s1 s2 s3 c0 c1 c2 c3 ch hx
 go_wp2
 go_ret
 exact ⟨rfl,B3.out⟩
theorem box43 (w:World) (a b c d:Value) (p k v:Int) (t t':TypeId):BoxC ((w.alloc (.cells #[a,b,c,d] t)).alloc (.cells #[.int .i64 p,.int .i64 k,.int .i64 v] t')) w.heap.size a b c d/\EvK ((w.alloc (.cells #[a,b,c,d] t)).alloc (.cells #[.int .i64 p,.int .i64 k,.int .i64 v] t')) (w.heap.size+1) p k v/\Below w.heap.size w ((w.alloc (.cells #[a,b,c,d] t)).alloc (.cells #[.int .i64 p,.int .i64 k,.int .i64 v] t')):=by
 refine ⟨(BoxC.new w _ _ _ _ _).below (zT _ _),?_,(zT _ _).trans ((zT _ _).mono (by simp))⟩
 have:=EvK.new (w.alloc (.cells #[a,b,c,d] t)) p k v t'
 rw [World.size_alloc] at this
 exact this
theorem l12Holds_any (q:St8) (a:Option Addr) (n c:Nat) (eh:Nat->E3) (p k v:Int) (w:World) (hk:knB k=true) (h:Sl w q.oa q.os) (hl:q.os.length<=1048576) (he:EvL w a n eh) (hn:n<=1048576):
  Calls Tryz.prog 47 #[stV q.p q.ra q.rs.length q.rc q.oa q.os.length q.oc q.c,.slice a n c,spV p k v] w fun e w'=>e=.returned (.bool (hoB q.s eh n k v))/\Below w.heap.size w w':=by
 rcases knB_cases hk with rfl | rfl | rfl
 ·have HB:Hid (hoB q.s eh n 1 v=(q.p == v)):=by simp [hoB,Hid,St8.s]
  generalize hoB q.s eh n 1 v=R at *
  clear h hl he hn hk
  go_enter Tryz.func47,Tryz.ntmps47
  go_wp2
  go_ret
  exact ⟨by rw [HB.out];rfl,by go_grown⟩
 ·have HB:Hid (hoB q.s eh n 2 v=(decide (q.os.length≠0) && (zi q.os (q.os.length - 1) == v))):=by simp [hoB,Hid,St8.s]
  generalize hoB q.s eh n 2 v=R at *
  have HS:Hid (Sl w q.oa q.os):=h
  clear h he hn hk
  by_cases h0:q.os.length=0
  ·have HR:Hid (R=false):=by
    show R=false
    rw [HB.out,h0];rfl
   unfold stV
   rw [h0]
   clear HB h0 HS hl
   have HBx:Hid (BoxC ((w.alloc (oQ1 q.p q.ra q.rs.length q.rc q.oa 0 q.oc q.c)).alloc (oQ5 p 2 v)) w.heap.size (.int .i64 q.p) (.slice q.ra q.rs.length q.rc) (.slice q.oa 0 q.oc) (.int .i64 q.c)/\EvK ((w.alloc (oQ1 q.p q.ra q.rs.length q.rc q.oa 0 q.oc q.c)).alloc (oQ5 p 2 v)) (w.heap.size+1) p 2 v/\Below w.heap.size w ((w.alloc (oQ1 q.p q.ra q.rs.length q.rc q.oa 0 q.oc q.c)).alloc (oQ5 p 2 v))):=box43 w _ _ _ _ p 2 v _ _
   go_enter Tryz.func47,Tryz.ntmps47
   go_wp2_with fail
   generalize (w.alloc (oQ1 q.p q.ra q.rs.length q.rc q.oa 0 q.oc q.c)).alloc (oQ5 p 2 v)=W2 at *
   have s2:=HBx.out.1.2.2.1
   have BW:Hid (Below w.heap.size w W2):=HBx.out.2.2
   have s2':=cell_regrown s2
   refine wp_region_quiet_below (by kernel_rfl) (by kernel_rfl) ?_
   repeat (first | go_big_quiet_skip | quiet_step (fail))
   refine wpQuiet_nil ?_
   intro _ hw'
   obtain ⟨⟨dq,osq⟩,hw''⟩:=hw'
   subst hw''
   have B3:Hid (Below w.heap.size w (grow (redrawn W2 dq) osq)):=BW.out.trans ((below_regrown W2 dq osq).mono BW.out.size)
   generalize grow (redrawn W2 dq) osq=w3 at *
   clear s2 s2'
   go_wp2
   go_ret
   exact ⟨by rw [HR.out];rfl,B3.out⟩
  ·obtain ⟨m,hm⟩:=St8.os_pos h0
   have HR:Hid (R=(zi q.os m == v)):=by
    show R=_
    rw [HB.out,show q.os.length - 1=m by omega,decide_eq_true h0,Bool.true_and]
   obtain ⟨b,off,e,zb,c0⟩:=HS.out.at (k:=m) (by omega)
   unfold stV
   rw [e,<- hm]
   have e1:((m+1:Nat):Int) - 1=(m:Int):=by omega
   have e2:IntKind.i64.wrap (m:Int)=(m:Int):=by rw [IntKind.wrap_i64] <;> omega
   have hlt:(m:Int)<((m+1:Nat):Int):=by omega
   have hps:0<m+1:=by omega
   generalize hm1:m+1=M at *
   clear HB h0 hm HS hl e hm1
   have HBx:Hid (BoxC ((w.alloc (oQ1 q.p q.ra q.rs.length q.rc (some ⟨b,off,none⟩) M q.oc q.c)).alloc (oQ5 p 2 v)) w.heap.size (.int .i64 q.p) (.slice q.ra q.rs.length q.rc) (.slice (some ⟨b,off,none⟩) M q.oc) (.int .i64 q.c)/\EvK ((w.alloc (oQ1 q.p q.ra q.rs.length q.rc (some ⟨b,off,none⟩) M q.oc q.c)).alloc (oQ5 p 2 v)) (w.heap.size+1) p 2 v/\Below w.heap.size w ((w.alloc (oQ1 q.p q.ra q.rs.length q.rc (some ⟨b,off,none⟩) M q.oc q.c)).alloc (oQ5 p 2 v))):=box43 w _ _ _ _ p 2 v _ _
   go_enter Tryz.func47,Tryz.ntmps47
   go_wp2_with fail
   generalize (w.alloc (oQ1 q.p q.ra q.rs.length q.rc (some ⟨b,off,none⟩) M q.oc q.c)).alloc (oQ5 p 2 v)=W2 at *
   have s2:=HBx.out.1.2.2.1
   have x2:=HBx.out.2.1.c2
   have BW:Hid (Below w.heap.size w W2):=HBx.out.2.2
   have cc:=(BW.out.cell (p:=⟨b,off+m,none⟩) zb).trans c0
   have s2':=cell_regrown s2
   have x2':=cell_regrown x2
   have cc':=cell_regrown cc
   refine wp_region_quiet_below (by kernel_rfl) (by kernel_rfl) ?_
   repeat (quiet_step (fail))
   refine wpQuiet_nil ?_
   intro _ hw'
   obtain ⟨⟨dq,osq⟩,hw''⟩:=hw'
   subst hw''
   have B3:Hid (Below w.heap.size w (grow (redrawn W2 dq) osq)):=BW.out.trans ((below_regrown W2 dq osq).mono BW.out.size)
   generalize grow (redrawn W2 dq) osq=w3 at *
   clear s2 s2' x2 x2' cc cc'
   go_wp2
   go_ret
   exact ⟨by rw [HR.out];rfl,B3.out⟩
 ·have HB:Hid (hoB q.s eh n 3 v=(decide (n≠0) && ((eh (n - 1)).k == 3 && (eh (n - 1)).v == v))):=by simp [hoB,Hid]
  generalize hoB q.s eh n 3 v=R at *
  have HS:Hid (EvL w a n eh):=he
  clear h he hk hl
  cases n with
  | zero=>
   have HR:Hid (R=false):=by
    show R=false
    rw [HB.out];rfl
   clear HB HS
   go_enter Tryz.func47,Tryz.ntmps47
   go_wp2
   go_ret
   exact ⟨by rw [HR.out];rfl,by go_grown⟩
  | succ m=>
   have HR:Hid (R=((eh m).k == 3 && (eh m).v == v)):=by
    show R=_
    rw [HB.out]
    simp
   obtain ⟨b,off,rfl,zb,c0,c1,c2⟩:=HS.out.at (k:=m) (by omega)
   have e1:((m+1:Nat):Int) - 1=(m:Int):=by omega
   have hne:(((m+1:Nat):Int) == 0)=false:=by
    have:¬ ((m+1:Nat):Int)=0:=by omega
    simpa using this
   have e2:IntKind.i64.wrap (m:Int)=(m:Int):=by rw [IntKind.wrap_i64] <;> omega
   have hlt:(m:Int)<((m+1:Nat):Int):=by omega
   have c0':∀ o1 o2,((w.alloc o1).alloc o2).cell? ⟨b,off+m*3,none⟩=some (.int .i64 (eh m).k):=fun o1 o2=>(World.cell?_alloc_lt _ _ _ (by simp;omega)).trans ((World.cell?_alloc_lt _ _ _ zb).trans c0)
   have c1':∀ o1 o2,((w.alloc o1).alloc o2).cell? ⟨b,off+m*3+1,none⟩=some (.int .i64 (eh m).q):=fun o1 o2=>(World.cell?_alloc_lt _ _ _ (by simp;omega)).trans ((World.cell?_alloc_lt _ _ _ zb).trans c1)
   have c2':∀ o1 o2,((w.alloc o1).alloc o2).cell? ⟨b,off+m*3+2,none⟩=some (.int .i64 (eh m).v):=fun o1 o2=>(World.cell?_alloc_lt _ _ _ (by simp;omega)).trans ((World.cell?_alloc_lt _ _ _ zb).trans c2)
   generalize hm:m+1=M at *
   clear HB HS hn c0 c1 c2 hm
   rcases zK ((eh m).k == 3) with t | t
   ·have HR2:Hid (R=((eh m).v == v)):=by
     show R=_
     rw [HR.out,t,Bool.true_and]
    clear HR
    go_enter Tryz.func47,Tryz.ntmps47
    go_wp2
    go_ret
    exact ⟨by rw [HR2.out];rfl,by go_grown⟩
   ·have HR2:Hid (R=false):=by
     show R=_
     rw [HR.out,t,Bool.false_and]
    clear HR
    go_enter Tryz.func47,Tryz.ntmps47
    go_wp2
    go_ret
    exact ⟨by rw [HR2.out];rfl,by go_grown⟩
theorem inB_bel (p:Int) (n:Nat):inB p 0 ((n:Int) - 1)=belB p n:=by
 unfold inB belB
 exact decide_eq_decide.2 (by omega)
theorem inB_kn (k:Int):inB k 1 3=knB k:=rfl
theorem spB_parts {y:Sy} {p k:Int} (h:spB y p k=true):knB k=true/\belB p y.pn=true/\y.Ok:=by
 simp only [spB,Bool.and_eq_true] at h
 exact ⟨h.1,h.2.1,Sy.ok_of h.2.2⟩
structure Hx (w:World) (x:SysIn) (p k v:Int) (wx:World):Prop where
 be:Below w.heap.size w wx
 bs:BoxC wx w.heap.size (.slice x.pa x.pn x.pc) (.slice x.sa x.sn x.sc) (.slice x.wa x.wn x.wc) (.slice x.ha x.hn x.hc)
 bx:EvK wx (w.heap.size+1) p k v
 lt:w.heap.size+1<wx.heap.size
theorem Hx.below {w:World} {x:SysIn} {p k v:Int} {wx wy:World} (h:Hx w x p k v wx) (hb:Below wx.heap.size wx wy):Hx w x p k v wy:=
 ⟨h.be.trans (hb.mono h.be.size),h.bs.below hb,h.bx.below hb,zL h.lt hb.size⟩
theorem Hx.new (w:World) (x:SysIn) (p k v:Int) (t t':TypeId):Hx w x p k v ((w.alloc (.cells #[.slice x.pa x.pn x.pc,.slice x.sa x.sn x.sc,.slice x.wa x.wn x.wc,.slice x.ha x.hn x.hc] t)).alloc (.cells #[.int .i64 p,.int .i64 k,.int .i64 v] t')):=by
 refine ⟨(zT _ _).trans ((zT _ _).mono (by simp)),(BoxC.new w _ _ _ _ _).below (zT _ _),?_,by simp⟩
 have:=EvK.new (w.alloc (.cells #[.slice x.pa x.pn x.pc,.slice x.sa x.sn x.sc,.slice x.wa x.wn x.wc,.slice x.ha x.hn x.hc] t)) p k v t'
 rw [World.size_alloc] at this
 exact this
theorem specStopOk_any (x:SysIn) (p k v:Int) (w:World) (hG:SysG w x) (hL:x.Len) (hcap:∀ i,i<x.hn->x.hL i<=x.hC i):
  Calls Tryz.prog 20 #[x.v,spV p k v] w fun e w'=>e=.returned (.bool (spB x.y p k))/\Below w.heap.size w w':=by
 have hpn:(x.pn:Int)<=1048576:=by have:=hL.p.1;omega
 have e2:IntKind.i64.wrap ((x.pn:Int) - 1)=(x.pn:Int) - 1:=by rw [IntKind.wrap_i64] <;> omega
 have HS:Hid (∀ wx,Below w.heap.size w wx->Calls Tryz.prog 41 #[x.v] wx fun e w'=>e=.returned (.bool x.y.okB)/\Below wx.heap.size wx w'):=fun wx hb=>specSysOk_any x wx (hG.below hb) hL hcap
 have HX:Hid (Hx w x p k v ((w.alloc (oQ4 x.pa x.pn x.pc x.sa x.sn x.sc x.wa x.wn x.wc x.ha x.hn x.hc)).alloc (oQ5 p k v))):=Hx.new w x p k v _ _
 have HT:Hid (spB x.y p k=(x.y.okB && (inB p 0 ((x.pn:Int) - 1) && inB k 1 3))):=by
  show spB x.y p k=_
  rw [inB_bel,inB_kn,spB]
  cases knB k <;> cases x.y.okB <;> simp [SysIn.y]
 generalize spB x.y p k=T at *
 generalize x.y.okB=O at *
 clear hG hL hcap
 go_enter Tryz.func20,Tryz.ntmps20
 go_wp2_with fail
 generalize (w.alloc (oQ4 x.pa x.pn x.pc x.sa x.sn x.sc x.wa x.wn x.wc x.ha x.hn x.hc)).alloc (oQ5 p k v)=W2 at *
 refine (HS.out W2 HX.out.be).mono ?_
 rintro e w1 ⟨rfl,b1⟩
 have H1:Hid (Hx w x p k v w1):=HX.out.below b1
 clear b1 HX HS
 obtain ⟨be,⟨s0,s1,s2,s3⟩,⟨x0,x1,x2,xf⟩,lt⟩:=H1.out
 clear be
 cases O with
 | false=>
  go_wp2
  go_ret
  exact ⟨by rw [HT.out];rfl,H1.out.be⟩
 | true=>
  have HT2:Hid (T=(inB p 0 ((x.pn:Int) - 1) && inB k 1 3)):=by
   show T=_
   rw [HT.out,Bool.true_and]
  clear HT
  go_wp2_with fail
  refine (l1In_any _ _ _ _).mono ?_
  rintro e w2 ⟨rfl,rfl⟩
  rcases zK (inB p 0 ((x.pn:Int) - 1)) with t | t
  case inr=>
   have HZ:Hid (T=false):=by
    show T=false
    rw [HT2.out,t,Bool.false_and]
   rw [t]
   clear HT2 t
   go_wp2
   go_ret
   exact ⟨by rw [HZ.out];rfl,H1.out.be⟩
  have HZ:Hid (T=inB k 1 3):=by
   show T=_
   rw [HT2.out,t,Bool.true_and]
  rw [t]
  clear HT2 t
  go_wp2_with fail
  refine (l1In_any _ _ _ _).mono ?_
  rintro e w3 ⟨rfl,rfl⟩
  rw [<- HZ.out]
  go_wp2
  go_ret
  exact ⟨rfl,H1.out.be⟩
theorem implHolds_any (x:SysIn) (p k v:Int) (w:World) (hG:SysG w x) (hL:x.Len) (hV:w.cell? ⟨0,0,none⟩=some (.iface 222 (.agg #[.pointer (some ⟨1,171,none⟩)]))):
  Calls Tryz.prog 9 #[x.v,spV p k v] w fun e w'=>e=.returned (.bool (hsB x.y p k v))/\Below w.heap.size w w':=by
 have HV0:0<w.heap.size:=zJ w _ hV
 have HS:Hid (∀ wx,Below w.heap.size w wx->Calls Tryz.prog 16 #[x.v,spV p k v] wx fun e w'=>e=.returned (.tuple #[qsO (spB x.y p k) p k v,.bool (spB x.y p k)])/\Below wx.heap.size wx w'):=fun wx hb=>questionIn_any x p k v wx (hG.below hb) hL ((hb.cell (p:=⟨0,0,none⟩) HV0).trans hV)
 have HX:Hid (Hx w x p k v ((w.alloc (oQ4 x.pa x.pn x.pc x.sa x.sn x.sc x.wa x.wn x.wc x.ha x.hn x.hc)).alloc (oQ5 p k v))):=Hx.new w x p k v _ _
 have HC:Hid (spB x.y p k=true->∀ wx,Below w.heap.size w wx->Calls Tryz.prog 19 #[qsV p k v,x.v] wx fun e w'=>e=.returned (.bool (hsB x.y p k v))/\Below wx.heap.size wx w'):=fun h wx hb=>by
  obtain ⟨h1,h2,h3⟩:=spB_parts h
  have h4:0<=p/\p<(x.pn:Int):=of_decide_eq_true h2
  obtain ⟨J,rfl⟩:∃ J:Nat,p=(J:Int):=⟨p.toNat,by omega⟩
  have e:hsB x.y (J:Int) k v=hoB (x.sQ J).s (x.hH J) (x.hL J) k v:=by
   rw [hsB,h,Bool.true_and];rfl
  rw [e]
  have c1:x.sn=x.pn:=h3.cn.2.1
  have c2:x.hn=x.pn:=h3.cn.2.2.1
  exact holdsIn_any x J k v wx h1 (hG.below hb) hL (by omega) (by omega)
 have HN:Hid (spB x.y p k=false->hsB x.y p k v=false):=fun h=>by rw [hsB,h,Bool.false_and]
 generalize spB x.y p k=T at *
 generalize hsB x.y p k v=R at *
 clear hG hL hV HV0
 go_enter Tryz.func9,Tryz.ntmps9
 go_wp2_with fail
 generalize (w.alloc (oQ4 x.pa x.pn x.pc x.sa x.sn x.sc x.wa x.wn x.wc x.ha x.hn x.hc)).alloc (oQ5 p k v)=W2 at *
 refine (HS.out W2 HX.out.be).mono ?_
 rintro e w1 ⟨rfl,b1⟩
 have H1:Hid (Hx w x p k v w1):=HX.out.below b1
 clear b1 HX HS
 obtain ⟨be,⟨s0,s1,s2,s3⟩,-,lt⟩:=H1.out
 have l0:w.heap.size<w1.heap.size:=by omega
 clear be lt
 cases T with
 | false=>
  have HZ:Hid (R=false):=HN.out rfl
  clear HN HC
  rw [show qsO false p k v=qsZ from rfl]
  go_wp2
  go_ret
  exact ⟨by rw [HZ.out];rfl,below_up H1.out.be (by go_grown) H1.out.be.size⟩
 | true=>
  rw [show qsO true p k v=qsV p k v from rfl]
  have B2:Hid (Below w.heap.size w (w1.alloc (.cells #[.int .i64 p,.func (.func (qsF k)) #[spV p k v] #[]] 51))):=below_up H1.out.be (zT _ _) H1.out.be.size
  have HC2:=HC.out rfl
  unfold qsV at HC2 ⊢
  have HC3:Hid (∀ wx,Below w.heap.size w wx->Calls Tryz.prog 19 #[.agg #[.int .i64 p,.func (.func (qsF k)) #[spV p k v] #[]],x.v] wx fun e w'=>e=.returned (.bool R)/\Below wx.heap.size wx w'):=HC2
  clear HC2 HC HN
  generalize qsF k=F at *
  go_wp2_with fail
  refine (HC3.out _ B2.out).mono ?_
  rintro e w2 ⟨rfl,b2⟩
  have B3:Hid (Below w.heap.size w w2):=below_up B2.out b2 B2.out.size
  clear b2 HC3 B2
  go_wp2
  go_ret
  exact ⟨rfl,B3.out⟩
theorem specHolds_any (x:SysIn) (p k v:Int) (w:World) (hG:SysG w x) (hL:x.Len) (hcap:∀ i,i<x.hn->x.hL i<=x.hC i):
  Calls Tryz.prog 23 #[x.v,spV p k v] w fun e w'=>e=.returned (.bool (hsB x.y p k v))/\Below w.heap.size w w':=by
 have HS:Hid (∀ wx,Below w.heap.size w wx->Calls Tryz.prog 20 #[x.v,spV p k v] wx fun e w'=>e=.returned (.bool (spB x.y p k))/\Below wx.heap.size wx w'):=fun wx hb=>specStopOk_any x p k v wx (hG.below hb) hL hcap
 have hX:Hx w x p k v ((w.alloc (oQ4 x.pa x.pn x.pc x.sa x.sn x.sc x.wa x.wn x.wc x.ha x.hn x.hc)).alloc (oQ5 p k v)):=Hx.new w x p k v _ _
 have HX:Hid (Hx w x p k v ((w.alloc (oQ4 x.pa x.pn x.pc x.sa x.sn x.sc x.wa x.wn x.wc x.ha x.hn x.hc)).alloc (oQ5 p k v))):=hX
 rcases zK (spB x.y p k) with hT | hT
 case inr=>
  have HN:Hid (hsB x.y p k v=false):=by
   show hsB x.y p k v=false
   rw [hsB,hT,Bool.false_and]
  rw [hT] at HS
  generalize hsB x.y p k v=R at *
  clear hG hL hcap hT hX
  go_enter Tryz.func23,Tryz.ntmps23
  go_wp2_with fail
  generalize (w.alloc (oQ4 x.pa x.pn x.pc x.sa x.sn x.sc x.wa x.wn x.wc x.ha x.hn x.hc)).alloc (oQ5 p k v)=W2 at *
  obtain ⟨be,⟨s0,s1,s2,s3⟩,⟨x0,x1,x2,xf⟩,lt⟩:=HX.out
  have s0':=cell_regrown s0
  have s1':=cell_regrown s1
  have s2':=cell_regrown s2
  have s3':=cell_regrown s3
  have x0':=cell_regrown x0
  have x1':=cell_regrown x1
  have x2':=cell_regrown x2
  have HQ2:Hid (∀ d os,Below w.heap.size w (grow (redrawn W2 d) os)):=fun d os=>be.trans ((below_regrown W2 d os).mono be.size)
  clear be
  refine wp_region_quiet_below (by kernel_rfl) (by kernel_rfl) ?_
  repeat (first | go_big_quiet_skip | quiet_step (first|(go_at_call 20;exact Calls.regrown_of (HS.out _ (HQ2.out _ _)))))
  refine wpQuiet_nil ?_
  intro _ hw'
  obtain ⟨⟨dq,osq⟩,hw''⟩:=hw'
  subst hw''
  have B3:Hid (Below w.heap.size w (grow (redrawn W2 dq) osq)):=HQ2.out _ _
  generalize grow (redrawn W2 dq) osq=w3 at *
  clear s0 s1 s2 s3 x0 x1 x2 xf lt s0' s1' s2' s3' x0' x1' x2'
  go_wp2
  go_ret
  exact ⟨by rw [HN.out];rfl,B3.out⟩
 obtain ⟨h1,h2,h3⟩:=spB_parts hT
 have h4:0<=p/\p<(x.pn:Int):=of_decide_eq_true h2
 obtain ⟨J,rfl⟩:∃ J:Nat,p=(J:Int):=⟨p.toNat,by omega⟩
 have c1:x.sn=x.pn:=h3.cn.2.1
 have c2:x.hn=x.pn:=h3.cn.2.2.1
 have hp:J<x.sn:=by omega
 have hh:J<x.hn:=by omega
 have e:hsB x.y (J:Int) k v=hoB (x.sQ J).s (x.hH J) (x.hL J) k v:=by
  rw [hsB,hT,Bool.true_and];rfl
 have HC:Hid (∀ wx,Below w.heap.size w wx->Calls Tryz.prog 47 #[stV (x.sQ J).p (x.sQ J).ra (x.sQ J).rs.length (x.sQ J).rc (x.sQ J).oa (x.sQ J).os.length (x.sQ J).oc (x.sQ J).c,.slice (x.hA J) (x.hL J) (x.hC J),spV (J:Int) k v] wx fun e w'=>e=.returned (.bool (hsB x.y (J:Int) k v))/\Below wx.heap.size wx w'):=fun wx hb=>by
  rw [e]
  exact l12Holds_any (x.sQ J) (x.hA J) (x.hL J) (x.hC J) (x.hH J) J k v wx h1 ((hG.s.lst J hp).2.below hb) (hL.s.2 J hp).2 ((hG.hi J hh).below hb) (hL.h.2 J hh)
 rw [hT] at HS
 have hp':(J:Int)<(x.sn:Int):=by omega
 have hh':(J:Int)<(x.hn:Int):=by omega
 obtain ⟨bs,os,es,d0,d1,d2,d3⟩:=(hG.below hX.be).s.at hp
 obtain ⟨bh,oh,eh,ch⟩:=(hG.below hX.be).h.at hh
 have HA:Hid (Value.slice x.sa x.sn x.sc=.slice (some ⟨bs,os,none⟩) x.sn x.sc/\Value.slice x.ha x.hn x.hc=.slice (some ⟨bh,oh,none⟩) x.hn x.hc):=⟨by rw [es],by rw [eh]⟩
 clear es eh
 generalize hsB x.y (J:Int) k v=R at *
 clear hG hL hcap hT hX h1 h2 h3 h4 c1 c2 e hp hh
 go_enter Tryz.func23,Tryz.ntmps23
 go_wp2_with fail
 generalize (w.alloc (oQ4 x.pa x.pn x.pc x.sa x.sn x.sc x.wa x.wn x.wc x.ha x.hn x.hc)).alloc (oQ5 J k v)=W2 at *
 obtain ⟨be,⟨s0,s1,s2,s3⟩,⟨x0,x1,x2,xf⟩,lt⟩:=HX.out
 have s0':=cell_regrown s0
 have s1':=cell_regrown (s1.trans (congrArg some HA.out.1))
 have s2':=cell_regrown s2
 have s3':=cell_regrown (s3.trans (congrArg some HA.out.2))
 have x0':=cell_regrown x0
 have x1':=cell_regrown x1
 have x2':=cell_regrown x2
 have d0':=cell_regrown d0
 have d1':=cell_regrown d1
 have d2':=cell_regrown d2
 have d3':=cell_regrown d3
 have ch':=cell_regrown ch
 have HQ2:Hid (∀ d os,Below w.heap.size w (grow (redrawn W2 d) os)):=fun d os=>be.trans ((below_regrown W2 d os).mono be.size)
 have HS2:Hid (∀ wx,Below w.heap.size w wx->Calls Tryz.prog 20 #[.agg #[.slice x.pa x.pn x.pc,.slice (some ⟨bs,os,none⟩) x.sn x.sc,.slice x.wa x.wn x.wc,.slice (some ⟨bh,oh,none⟩) x.hn x.hc],spV (J:Int) k v] wx fun e w'=>e=.returned (.bool true)/\Below wx.heap.size wx w'):=fun wx hb=>by
  have:=HS.out wx hb
  unfold SysIn.v sysV at this
  rw [HA.out.1,HA.out.2] at this
  exact this
 clear be HS HA
 refine wp_region_quiet_below (by kernel_rfl) (by kernel_rfl) ?_
 repeat (quiet_step (first|(go_at_call 20;exact Calls.regrown_of (HS2.out _ (HQ2.out _ _)))|(go_at_call 47;exact Calls.regrown_of (HC.out _ (HQ2.out _ _)))))
 refine wpQuiet_nil ?_
 intro _ hw'
 obtain ⟨⟨dq,osq⟩,hw''⟩:=hw'
 subst hw''
 have B3:Hid (Below w.heap.size w (grow (redrawn W2 dq) osq)):=HQ2.out _ _
 generalize grow (redrawn W2 dq) osq=w3 at *
 clear s0 s1 s2 s3 x0 x1 x2 xf lt s0' s1' s2' s3' x0' x1' x2' d0 d1 d2 d3 ch d0' d1' d2' d3' ch'
 go_wp2
 go_ret
 exact ⟨rfl,B3.out⟩
