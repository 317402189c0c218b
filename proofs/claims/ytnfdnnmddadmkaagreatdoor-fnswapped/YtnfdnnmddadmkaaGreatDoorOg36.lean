import Derived.Test.YtnfdnnmddadmkaaGreatDoorOg35
namespace Go.Proofs.YtnfdnnmddadmkaaGreatDoor
set_option maxRecDepth 100000
set_option maxHeartbeats 2000000
open Go.ChangeShapes Go.WideShapes Go.ChangeAt Go.RowKit Go.Deep Go.Sort
def sysL (pa:Option Addr) (pn pc:Nat) (sa:Option Addr) (sn sc:Nat) (wa:Option Addr) (wn wc:Nat) (ha:Option Addr) (hn hc:Nat):List Value:=
 [.slice pa pn pc,.slice sa sn sc,.slice wa wn wc,.slice ha hn hc,.slice ha hn hc,.int .i64 0,.int .i64 0,.int .i64 0,.int .i64 0,.int .i64 0,.int .i64 0,.int .i64 0,.int .i64 0,.int .i64 0,.int .i64 0,.int .i64 0,.int .i64 0,.int .i64 0,.int .i64 0,.int .i64 0,.int .i64 0,.int .i64 0,.int .i64 0,.int .i64 0,.int .i64 0]
theorem qc3 (pa:Option Addr) (pn pc:Nat) (sa:Option Addr) (sn sc:Nat) (wa:Option Addr) (wn wc:Nat) (ha:Option Addr) (hn hc:Nat):(sysL pa pn pc sa sn sc wa wn wc ha hn hc).length=25:=rfl
theorem qc4 (pa:Option Addr) (pn pc:Nat) (sa:Option Addr) (sn sc:Nat) (wa:Option Addr) (wn wc:Nat) (ha:Option Addr) (hn hc:Nat):∀ v ∈ sysL pa pn pc sa sn sc wa wn wc ha hn hc,v.oneCell'=true:=by
 intro v hv
 simp only [sysL,List.mem_cons,List.not_mem_nil,or_false] at hv
 rcases hv with rfl | rfl | rfl | rfl | rfl | rfl | rfl | rfl | rfl | rfl | rfl | rfl | rfl | rfl | rfl | rfl | rfl | rfl | rfl | rfl | rfl | rfl | rfl | rfl | rfl <;> rfl
theorem qb8:(Tryz.prog.info? 97).map (·.size)=some 25:=by kernel_rfl
theorem qby {fn:Func} {ra rb:Nat} {ty:TypeId} (h:fn.results=#[.cell ra ty,.tmp rb]) (tmps:Array Value) (w:World) (N:Nat) (cs:List Value) (d:TypeDesc) (ha:tmps.getD ra undef=.pointer (some ⟨N,0,none⟩)) (hc:w.rangeAt N 0 cs) (hu:Tryz.prog.underlying ty=some d) (hd:d.isRow=true) (hi:(Tryz.prog.info? ty).map (·.size)=some cs.length):
  (results fn tmps).run Tryz.prog w=.ok (.tuple #[.agg cs.toArray,tmps.getD rb undef]) w:=by
 have hl:=run_loadVar_mid (P:=Tryz.prog) w N 0 ty cs d hc hu hd hi
 rw [Array.getD_eq_getD_getElem?] at ha
 simp [results,h,ha,asAddr,hl]
theorem qbt (w:World) (zs:Array Value) (t:TypeId) (n N:Nat) (hn:zs.size=n) (hN:N=w.heap.size):(w.alloc (.cells zs t)).there N 0 n:=fun j hj=>by
 subst hN
 refine ⟨?_,yB _ _ _ _ rfl⟩
 rw [Nat.zero_add,zW _ _ _ j rfl,Array.getElem?_eq_getElem (by omega)]
 rfl
theorem qjs (pa:Option Addr) (pn pc:Nat) (sa:Option Addr) (sn sc:Nat) (wa:Option Addr) (wn wc:Nat) (ha:Option Addr) (hn hc:Nat) (w:World) (h1:(pn:Int)<1):
  Calls Tryz.prog 52 #[sysV pa pn pc sa sn sc wa wn wc ha hn hc] w fun e w'=>e=.returned (.tuple #[.agg (sysL none 0 0 none 0 0 none 0 0 none 0 0).toArray,.bool false])/\Below w.heap.size w w':=by
 have hl:=qc3 none 0 0 none 0 0 none 0 0 none 0 0
 have ho:=qc4 none 0 0 none 0 0 none 0 0 none 0 0
 generalize hcs:sysL none 0 0 none 0 0 none 0 0 none 0 0=cs at *
 have HC:Hid (sysL none 0 0 none 0 0 none 0 0 none 0 0=cs):=hcs
 have hs:cs.toArray.size=25:=by simpa using hl
 have HT:Hid (((w.alloc (oQ4 pa pn pc sa sn sc wa wn wc ha hn hc)).alloc (zQ5)).there (w.heap.size+1) 0 cs.toArray.size):=qbt _ _ _ _ _ (by rw [hs];rfl) (by simp)
 have HI:Hid ((Tryz.prog.info? 97).map (·.size)=some cs.length):=by rw [hl];exact qb8
 have HO:Hid (cs.toArray.all (·.oneCell')=true):=all_oneCell_toArray ho
 have BW:Hid (Below w.heap.size w ((w.alloc (oQ4 pa pn pc sa sn sc wa wn wc ha hn hc)).alloc (zQ5))):=(zT _ _).trans ((zT _ _).mono (by simp))
 have BX:Hid (BoxC ((w.alloc (oQ4 pa pn pc sa sn sc wa wn wc ha hn hc)).alloc (zQ5)) w.heap.size (.slice pa pn pc) (.slice sa sn sc) (.slice wa wn wc) (.slice ha hn hc)):=(BoxC.new w _ _ _ _ _).below (zT _ _)
 clear hcs hl ho hs
 go_enter Tryz.func52,Tryz.ntmps52
 go_upto_region 1 with fail
 generalize ((w.alloc (oQ4 pa pn pc sa sn sc wa wn wc ha hn hc)).alloc (zQ5))=W0 at *
 obtain ⟨k0,k1,k2,k3⟩:=BX.out
 go_upto_region 3 with fail
 go_wp2_with (refine wpList_store_mid rfl 97 (.tmp 2) (.tmp 37) rfl (w.heap.size+1) 0 cs.toArray rfl (by rw [<- HC.out];rfl) HT.out (by simpa using HI.out) HO.out ?_)
 have HR:Hid ((W0.setCells (w.heap.size+1) 0 cs).rangeAt (w.heap.size+1) 0 cs):=World.rangeAt_setCells_same _ _ _ _ (by simpa using HT.out)
 have BE:Hid (Below w.heap.size w (W0.setCells (w.heap.size+1) 0 cs)):=BW.out.trans ((qam.sets (P:=fun b=>b=w.heap.size+1) rfl _ _ (qam.refl _ _)).below BW.out.size fun b e=>by omega)
 clear HT HC BW BX
 generalize W0.setCells (w.heap.size+1) 0 cs=W1 at *
 exact bodyPost_ret (qby Tryz.results52 _ _ (w.heap.size+1) cs _ rfl HR.out Tryz.underlying97 rfl HI.out) rfl ⟨rfl,BE.out⟩
theorem qjt (pa:Option Addr) (pn pc:Nat) (sa:Option Addr) (sn sc:Nat) (wa:Option Addr) (wn wc:Nat) (ha:Option Addr) (hn hc:Nat) (w:World) (h1:¬ (pn:Int)<1) (h4:(4:Int)<(pn:Int)):
  Calls Tryz.prog 52 #[sysV pa pn pc sa sn sc wa wn wc ha hn hc] w fun e w'=>e=.returned (.tuple #[.agg (sysL none 0 0 none 0 0 none 0 0 none 0 0).toArray,.bool false])/\Below w.heap.size w w':=by
 have hl:=qc3 none 0 0 none 0 0 none 0 0 none 0 0
 have ho:=qc4 none 0 0 none 0 0 none 0 0 none 0 0
 generalize hcs:sysL none 0 0 none 0 0 none 0 0 none 0 0=cs at *
 have HC:Hid (sysL none 0 0 none 0 0 none 0 0 none 0 0=cs):=hcs
 have hs:cs.toArray.size=25:=by simpa using hl
 have HT:Hid (((w.alloc (oQ4 pa pn pc sa sn sc wa wn wc ha hn hc)).alloc (zQ5)).there (w.heap.size+1) 0 cs.toArray.size):=qbt _ _ _ _ _ (by rw [hs];rfl) (by simp)
 have HI:Hid ((Tryz.prog.info? 97).map (·.size)=some cs.length):=by rw [hl];exact qb8
 have HO:Hid (cs.toArray.all (·.oneCell')=true):=all_oneCell_toArray ho
 have BW:Hid (Below w.heap.size w ((w.alloc (oQ4 pa pn pc sa sn sc wa wn wc ha hn hc)).alloc (zQ5))):=(zT _ _).trans ((zT _ _).mono (by simp))
 have BX:Hid (BoxC ((w.alloc (oQ4 pa pn pc sa sn sc wa wn wc ha hn hc)).alloc (zQ5)) w.heap.size (.slice pa pn pc) (.slice sa sn sc) (.slice wa wn wc) (.slice ha hn hc)):=(BoxC.new w _ _ _ _ _).below (zT _ _)
 clear hcs hl ho hs
 go_enter Tryz.func52,Tryz.ntmps52
 go_upto_region 1 with fail
 generalize ((w.alloc (oQ4 pa pn pc sa sn sc wa wn wc ha hn hc)).alloc (zQ5))=W0 at *
 obtain ⟨k0,k1,k2,k3⟩:=BX.out
 go_upto_region 3 with fail
 go_wp2_with (refine wpList_store_mid rfl 97 (.tmp 2) (.tmp 37) rfl (w.heap.size+1) 0 cs.toArray rfl (by rw [<- HC.out];rfl) HT.out (by simpa using HI.out) HO.out ?_)
 have HR:Hid ((W0.setCells (w.heap.size+1) 0 cs).rangeAt (w.heap.size+1) 0 cs):=World.rangeAt_setCells_same _ _ _ _ (by simpa using HT.out)
 have BE:Hid (Below w.heap.size w (W0.setCells (w.heap.size+1) 0 cs)):=BW.out.trans ((qam.sets (P:=fun b=>b=w.heap.size+1) rfl _ _ (qam.refl _ _)).below BW.out.size fun b e=>by omega)
 clear HT HC BW BX
 generalize W0.setCells (w.heap.size+1) 0 cs=W1 at *
 exact bodyPost_ret (qby Tryz.results52 _ _ (w.heap.size+1) cs _ rfl HR.out Tryz.underlying97 rfl HI.out) rfl ⟨rfl,BE.out⟩
theorem qhp (pa:Option Addr) (pn pc:Nat) (sa:Option Addr) (sn sc:Nat) (wa:Option Addr) (wn wc:Nat) (ha:Option Addr) (hn hc:Nat) (w:World) (h1:¬ (pn:Int)<1) (h4:¬ (4:Int)<(pn:Int)) (h5:((sn:Int) != (pn:Int))=true):
  Calls Tryz.prog 52 #[sysV pa pn pc sa sn sc wa wn wc ha hn hc] w fun e w'=>e=.returned (.tuple #[.agg (sysL none 0 0 none 0 0 none 0 0 none 0 0).toArray,.bool false])/\Below w.heap.size w w':=by
 have hl:=qc3 none 0 0 none 0 0 none 0 0 none 0 0
 have ho:=qc4 none 0 0 none 0 0 none 0 0 none 0 0
 generalize hcs:sysL none 0 0 none 0 0 none 0 0 none 0 0=cs at *
 have HC:Hid (sysL none 0 0 none 0 0 none 0 0 none 0 0=cs):=hcs
 have hs:cs.toArray.size=25:=by simpa using hl
 have HT:Hid (((w.alloc (oQ4 pa pn pc sa sn sc wa wn wc ha hn hc)).alloc (zQ5)).there (w.heap.size+1) 0 cs.toArray.size):=qbt _ _ _ _ _ (by rw [hs];rfl) (by simp)
 have HI:Hid ((Tryz.prog.info? 97).map (·.size)=some cs.length):=by rw [hl];exact qb8
 have HO:Hid (cs.toArray.all (·.oneCell')=true):=all_oneCell_toArray ho
 have BW:Hid (Below w.heap.size w ((w.alloc (oQ4 pa pn pc sa sn sc wa wn wc ha hn hc)).alloc (zQ5))):=(zT _ _).trans ((zT _ _).mono (by simp))
 have BX:Hid (BoxC ((w.alloc (oQ4 pa pn pc sa sn sc wa wn wc ha hn hc)).alloc (zQ5)) w.heap.size (.slice pa pn pc) (.slice sa sn sc) (.slice wa wn wc) (.slice ha hn hc)):=(BoxC.new w _ _ _ _ _).below (zT _ _)
 clear hcs hl ho hs
 go_enter Tryz.func52,Tryz.ntmps52
 go_upto_region 1 with fail
 generalize ((w.alloc (oQ4 pa pn pc sa sn sc wa wn wc ha hn hc)).alloc (zQ5))=W0 at *
 obtain ⟨k0,k1,k2,k3⟩:=BX.out
 go_upto_region 3 with fail
 go_wp2_with (refine wpList_store_mid rfl 97 (.tmp 2) (.tmp 37) rfl (w.heap.size+1) 0 cs.toArray rfl (by rw [<- HC.out];rfl) HT.out (by simpa using HI.out) HO.out ?_)
 have HR:Hid ((W0.setCells (w.heap.size+1) 0 cs).rangeAt (w.heap.size+1) 0 cs):=World.rangeAt_setCells_same _ _ _ _ (by simpa using HT.out)
 have BE:Hid (Below w.heap.size w (W0.setCells (w.heap.size+1) 0 cs)):=BW.out.trans ((qam.sets (P:=fun b=>b=w.heap.size+1) rfl _ _ (qam.refl _ _)).below BW.out.size fun b e=>by omega)
 clear HT HC BW BX
 generalize W0.setCells (w.heap.size+1) 0 cs=W1 at *
 exact bodyPost_ret (qby Tryz.results52 _ _ (w.heap.size+1) cs _ rfl HR.out Tryz.underlying97 rfl HI.out) rfl ⟨rfl,BE.out⟩
theorem qjr (pa:Option Addr) (pn pc:Nat) (sa:Option Addr) (sn sc:Nat) (wa:Option Addr) (wn wc:Nat) (ha:Option Addr) (hn hc:Nat) (w:World) (h1:¬ (pn:Int)<1) (h4:¬ (4:Int)<(pn:Int)) (h5:((sn:Int) != (pn:Int))=false) (h6:((hn:Int) != (pn:Int))=true):
  Calls Tryz.prog 52 #[sysV pa pn pc sa sn sc wa wn wc ha hn hc] w fun e w'=>e=.returned (.tuple #[.agg (sysL none 0 0 none 0 0 none 0 0 none 0 0).toArray,.bool false])/\Below w.heap.size w w':=by
 have hl:=qc3 none 0 0 none 0 0 none 0 0 none 0 0
 have ho:=qc4 none 0 0 none 0 0 none 0 0 none 0 0
 generalize hcs:sysL none 0 0 none 0 0 none 0 0 none 0 0=cs at *
 have HC:Hid (sysL none 0 0 none 0 0 none 0 0 none 0 0=cs):=hcs
 have hs:cs.toArray.size=25:=by simpa using hl
 have HT:Hid (((w.alloc (oQ4 pa pn pc sa sn sc wa wn wc ha hn hc)).alloc (zQ5)).there (w.heap.size+1) 0 cs.toArray.size):=qbt _ _ _ _ _ (by rw [hs];rfl) (by simp)
 have HI:Hid ((Tryz.prog.info? 97).map (·.size)=some cs.length):=by rw [hl];exact qb8
 have HO:Hid (cs.toArray.all (·.oneCell')=true):=all_oneCell_toArray ho
 have BW:Hid (Below w.heap.size w ((w.alloc (oQ4 pa pn pc sa sn sc wa wn wc ha hn hc)).alloc (zQ5))):=(zT _ _).trans ((zT _ _).mono (by simp))
 have BX:Hid (BoxC ((w.alloc (oQ4 pa pn pc sa sn sc wa wn wc ha hn hc)).alloc (zQ5)) w.heap.size (.slice pa pn pc) (.slice sa sn sc) (.slice wa wn wc) (.slice ha hn hc)):=(BoxC.new w _ _ _ _ _).below (zT _ _)
 clear hcs hl ho hs
 go_enter Tryz.func52,Tryz.ntmps52
 go_upto_region 1 with fail
 generalize ((w.alloc (oQ4 pa pn pc sa sn sc wa wn wc ha hn hc)).alloc (zQ5))=W0 at *
 obtain ⟨k0,k1,k2,k3⟩:=BX.out
 go_upto_region 3 with fail
 go_wp2_with (refine wpList_store_mid rfl 97 (.tmp 2) (.tmp 37) rfl (w.heap.size+1) 0 cs.toArray rfl (by rw [<- HC.out];rfl) HT.out (by simpa using HI.out) HO.out ?_)
 have HR:Hid ((W0.setCells (w.heap.size+1) 0 cs).rangeAt (w.heap.size+1) 0 cs):=World.rangeAt_setCells_same _ _ _ _ (by simpa using HT.out)
 have BE:Hid (Below w.heap.size w (W0.setCells (w.heap.size+1) 0 cs)):=BW.out.trans ((qam.sets (P:=fun b=>b=w.heap.size+1) rfl _ _ (qam.refl _ _)).below BW.out.size fun b e=>by omega)
 clear HT HC BW BX
 generalize W0.setCells (w.heap.size+1) 0 cs=W1 at *
 exact bodyPost_ret (qby Tryz.results52 _ _ (w.heap.size+1) cs _ rfl HR.out Tryz.underlying97 rfl HI.out) rfl ⟨rfl,BE.out⟩
theorem qju (pa:Option Addr) (pn pc:Nat) (sa:Option Addr) (sn sc:Nat) (wa:Option Addr) (wn wc:Nat) (ha:Option Addr) (hn hc:Nat) (w:World) (h1:¬ (pn:Int)<1) (h4:¬ (4:Int)<(pn:Int)) (h5:((sn:Int) != (pn:Int))=false) (h6:((hn:Int) != (pn:Int))=false) (h8:0<=(pn:Int)*(pn:Int)) (h9:(pn:Int)*(pn:Int)<=16) (h7:((wn:Int) != (pn:Int)*(pn:Int))=true):
  Calls Tryz.prog 52 #[sysV pa pn pc sa sn sc wa wn wc ha hn hc] w fun e w'=>e=.returned (.tuple #[.agg (sysL none 0 0 none 0 0 none 0 0 none 0 0).toArray,.bool false])/\Below w.heap.size w w':=by
 have hl:=qc3 none 0 0 none 0 0 none 0 0 none 0 0
 have ho:=qc4 none 0 0 none 0 0 none 0 0 none 0 0
 generalize hcs:sysL none 0 0 none 0 0 none 0 0 none 0 0=cs at *
 have HC:Hid (sysL none 0 0 none 0 0 none 0 0 none 0 0=cs):=hcs
 have hs:cs.toArray.size=25:=by simpa using hl
 have HT:Hid (((w.alloc (oQ4 pa pn pc sa sn sc wa wn wc ha hn hc)).alloc (zQ5)).there (w.heap.size+1) 0 cs.toArray.size):=qbt _ _ _ _ _ (by rw [hs];rfl) (by simp)
 have HI:Hid ((Tryz.prog.info? 97).map (·.size)=some cs.length):=by rw [hl];exact qb8
 have HO:Hid (cs.toArray.all (·.oneCell')=true):=all_oneCell_toArray ho
 have BW:Hid (Below w.heap.size w ((w.alloc (oQ4 pa pn pc sa sn sc wa wn wc ha hn hc)).alloc (zQ5))):=(zT _ _).trans ((zT _ _).mono (by simp))
 have BX:Hid (BoxC ((w.alloc (oQ4 pa pn pc sa sn sc wa wn wc ha hn hc)).alloc (zQ5)) w.heap.size (.slice pa pn pc) (.slice sa sn sc) (.slice wa wn wc) (.slice ha hn hc)):=(BoxC.new w _ _ _ _ _).below (zT _ _)
 clear hcs hl ho hs
 go_enter Tryz.func52,Tryz.ntmps52
 go_upto_region 1 with fail
 generalize ((w.alloc (oQ4 pa pn pc sa sn sc wa wn wc ha hn hc)).alloc (zQ5))=W0 at *
 obtain ⟨k0,k1,k2,k3⟩:=BX.out
 go_upto_region 3 with fail
 go_wp2_with (refine wpList_store_mid rfl 97 (.tmp 2) (.tmp 37) rfl (w.heap.size+1) 0 cs.toArray rfl (by rw [<- HC.out];rfl) HT.out (by simpa using HI.out) HO.out ?_)
 have HR:Hid ((W0.setCells (w.heap.size+1) 0 cs).rangeAt (w.heap.size+1) 0 cs):=World.rangeAt_setCells_same _ _ _ _ (by simpa using HT.out)
 have BE:Hid (Below w.heap.size w (W0.setCells (w.heap.size+1) 0 cs)):=BW.out.trans ((qam.sets (P:=fun b=>b=w.heap.size+1) rfl _ _ (qam.refl _ _)).below BW.out.size fun b e=>by omega)
 clear HT HC BW BX
 generalize W0.setCells (w.heap.size+1) 0 cs=W1 at *
 exact bodyPost_ret (qby Tryz.results52 _ _ (w.heap.size+1) cs _ rfl HR.out Tryz.underlying97 rfl HI.out) rfl ⟨rfl,BE.out⟩
theorem qlr (pa:Option Addr) (pn pc:Nat) (sa:Option Addr) (sn sc:Nat) (wa:Option Addr) (wn wc:Nat) (ha:Option Addr) (hn hc:Nat) (w:World) (h1:¬ (pn:Int)<1) (h4:¬ (4:Int)<(pn:Int)) (h5:((sn:Int) != (pn:Int))=false) (h6:((hn:Int) != (pn:Int))=false) (h8:0<=(pn:Int)*(pn:Int)) (h9:(pn:Int)*(pn:Int)<=16) (h7:((wn:Int) != (pn:Int)*(pn:Int))=false):
  Calls Tryz.prog 52 #[sysV pa pn pc sa sn sc wa wn wc ha hn hc] w fun e w'=>e=.returned (.tuple #[.agg (sysL pa pn pc sa sn sc wa wn wc ha hn hc).toArray,.bool true])/\Below w.heap.size w w':=by
 have hl:=qc3 pa pn pc sa sn sc wa wn wc ha hn hc
 have ho:=qc4 pa pn pc sa sn sc wa wn wc ha hn hc
 generalize hcs:sysL pa pn pc sa sn sc wa wn wc ha hn hc=cs at *
 have HC:Hid (sysL pa pn pc sa sn sc wa wn wc ha hn hc=cs):=hcs
 have hs:cs.toArray.size=25:=by simpa using hl
 have HT:Hid (((w.alloc (oQ4 pa pn pc sa sn sc wa wn wc ha hn hc)).alloc (zQ5)).there (w.heap.size+1) 0 cs.toArray.size):=qbt _ _ _ _ _ (by rw [hs];rfl) (by simp)
 have HI:Hid ((Tryz.prog.info? 97).map (·.size)=some cs.length):=by rw [hl];exact qb8
 have HO:Hid (cs.toArray.all (·.oneCell')=true):=all_oneCell_toArray ho
 have BW:Hid (Below w.heap.size w ((w.alloc (oQ4 pa pn pc sa sn sc wa wn wc ha hn hc)).alloc (zQ5))):=(zT _ _).trans ((zT _ _).mono (by simp))
 have BX:Hid (BoxC ((w.alloc (oQ4 pa pn pc sa sn sc wa wn wc ha hn hc)).alloc (zQ5)) w.heap.size (.slice pa pn pc) (.slice sa sn sc) (.slice wa wn wc) (.slice ha hn hc)):=(BoxC.new w _ _ _ _ _).below (zT _ _)
 clear hcs hl ho hs
 go_enter Tryz.func52,Tryz.ntmps52
 go_upto_region 1 with fail
 generalize ((w.alloc (oQ4 pa pn pc sa sn sc wa wn wc ha hn hc)).alloc (zQ5))=W0 at *
 obtain ⟨k0,k1,k2,k3⟩:=BX.out
 go_upto_region 4 with fail
 go_wp2_with (refine wpList_store_mid rfl 97 (.tmp 2) (.tmp 42) rfl (w.heap.size+1) 0 cs.toArray rfl (by rw [<- HC.out];rfl) HT.out (by simpa using HI.out) HO.out ?_)
 have HR:Hid ((W0.setCells (w.heap.size+1) 0 cs).rangeAt (w.heap.size+1) 0 cs):=World.rangeAt_setCells_same _ _ _ _ (by simpa using HT.out)
 have BE:Hid (Below w.heap.size w (W0.setCells (w.heap.size+1) 0 cs)):=BW.out.trans ((qam.sets (P:=fun b=>b=w.heap.size+1) rfl _ _ (qam.refl _ _)).below BW.out.size fun b e=>by omega)
 clear HT HC BW BX
 generalize W0.setCells (w.heap.size+1) 0 cs=W1 at *
 exact bodyPost_ret (qby Tryz.results52 _ _ (w.heap.size+1) cs _ rfl HR.out Tryz.underlying97 rfl HI.out) rfl ⟨rfl,BE.out⟩
theorem qnb (pa:Option Addr) (pn pc:Nat) (sa:Option Addr) (sn sc:Nat) (wa:Option Addr) (wn wc:Nat) (ha:Option Addr) (hn hc:Nat) (w:World) (h:¬ ((1<=pn/\pn<=4)/\sn=pn/\hn=pn/\wn=pn*pn)):
  Calls Tryz.prog 52 #[sysV pa pn pc sa sn sc wa wn wc ha hn hc] w fun e w'=>e=.returned (.tuple #[.agg (sysL none 0 0 none 0 0 none 0 0 none 0 0).toArray,.bool false])/\Below w.heap.size w w':=by
 by_cases h1:(pn:Int)<1
 ·exact qjs pa pn pc sa sn sc wa wn wc ha hn hc w h1
 by_cases h4:(4:Int)<(pn:Int)
 ·exact qjt pa pn pc sa sn sc wa wn wc ha hn hc w h1 h4
 rcases zK ((sn:Int) != (pn:Int)) with h5 | h5
 ·exact qhp pa pn pc sa sn sc wa wn wc ha hn hc w h1 h4 h5
 rcases zK ((hn:Int) != (pn:Int)) with h6 | h6
 ·exact qjr pa pn pc sa sn sc wa wn wc ha hn hc w h1 h4 h5 h6
 have h8:0<=(pn:Int)*(pn:Int):=Int.mul_nonneg (by omega) (by omega)
 have h9:(pn:Int)*(pn:Int)<=16:=by
  have:=Int.mul_le_mul (show (pn:Int)<=4 by omega) (show (pn:Int)<=4 by omega) (by omega) (by omega)
  omega
 rcases zK ((wn:Int) != (pn:Int)*(pn:Int)) with h7 | h7
 ·exact qju pa pn pc sa sn sc wa wn wc ha hn hc w h1 h4 h5 h6 h8 h9 h7
 ·exfalso
  refine h ⟨⟨by omega,by omega⟩,?_,?_,?_⟩
  ·simp at h5
   omega
  ·simp at h6
   omega
  ·have h7':(wn:Int)=(pn:Int)*(pn:Int):=by simpa using h7
   have:((wn:Nat):Int)=((pn*pn:Nat):Int):=by rw [h7',Int.natCast_mul]
   omega
theorem qnc (pa:Option Addr) (pn pc:Nat) (sa:Option Addr) (sn sc:Nat) (wa:Option Addr) (wn wc:Nat) (ha:Option Addr) (hn hc:Nat) (w:World) (h:(1<=pn/\pn<=4)/\sn=pn/\hn=pn/\wn=pn*pn):
  Calls Tryz.prog 52 #[sysV pa pn pc sa sn sc wa wn wc ha hn hc] w fun e w'=>e=.returned (.tuple #[.agg (sysL pa pn pc sa sn sc wa wn wc ha hn hc).toArray,.bool true])/\Below w.heap.size w w':=by
 obtain ⟨⟨h1,h4⟩,h5,h6,h7⟩:=h
 have h8:0<=(pn:Int)*(pn:Int):=Int.mul_nonneg (by omega) (by omega)
 have h9:(pn:Int)*(pn:Int)<=16:=by
  have:=Int.mul_le_mul (show (pn:Int)<=4 by omega) (show (pn:Int)<=4 by omega) (by omega) (by omega)
  omega
 exact qlr pa pn pc sa sn sc wa wn wc ha hn hc w (by omega) (by omega) (by simp [h5]) (by simp [h6]) h8 h9 (by rw [h7,Int.natCast_mul];simp)
theorem qv1 {x:SysIn} (hc:(1<=x.pn/\x.pn<=4)/\x.sn=x.pn/\x.hn=x.pn/\x.wn=x.pn*x.pn):
  ((∀ p,p<x.pn->qad (x.pH p) (x.pL p) x.pn=true)/\(∀ p,p<x.pn->x.StP p)/\(∀ p,p<x.hn->∀ i,i<x.hL p->belB (x.hH p i).q x.hn=true)/\(∀ i,i<x.wn->x.WyP i)/\x.y.hs.Row) ↔ x.y.Ok:=by
 obtain ⟨⟨c1,c4⟩,c5,c6,c7⟩:=hc
 refine ⟨fun ⟨a,b,c,d,e⟩=>⟨⟨⟨c1,c4⟩,c5,c6,c7⟩,a,b,fun p hp i hi=>?_,fun p hp q hq=>?_,e⟩,fun h=>⟨h.pr,h.rp,fun p hp i hi=>?_,fun i hi=>?_,h.ro⟩⟩
 ·have hp':p<x.pn:=hp
  have hi':i<x.hL p:=hi
  have:=c p (by omega) i hi'
  simp only [belB,decide_eq_true_eq] at this
  show (x.hH p i).q<(x.pn:Int)
  omega
 ·have hp':p<x.pn:=hp
  have hq':q<x.pn:=hq
  have hlt:p*x.pn+q<x.wn:=by
   rw [c7]
   have:(p+1)*x.pn<=x.pn*x.pn:=Nat.mul_le_mul_right _ (by omega)
   rw [Nat.add_mul] at this
   omega
  have h1:(p*x.pn+q) / x.pn=p:=by
   rw [Nat.add_comm,Nat.add_mul_div_right _ _ (by omega),Nat.div_eq_of_lt hq']
   omega
  have h2:(p*x.pn+q) % x.pn=q:=by
   rw [Nat.add_comm,Nat.add_mul_mod_self_right,Nat.mod_eq_of_lt hq']
  obtain ⟨ok,eq⟩:=d _ hlt
  rw [h1,h2] at eq
  simp only [Bool.and_eq_true,decide_eq_true_eq] at ok
  exact ⟨qee.1 ok.2,ok.1,eq⟩
 ·have h1:=h.pe p (show p<x.pn by omega) i hi
  have h2:=qjh (qb2 (h.rp p (show p<x.pn by omega))).2.2 i hi
  have h3:(x.hH p i).q<(x.pn:Int):=h1
  have h4:0<=(x.hH p i).q:=h2
  simp only [belB,decide_eq_true_eq]
  omega
 ·have hlt:i<x.pn*x.pn:=by rw [<- c7];exact hi
  have ha:i / x.pn<x.pn:=Nat.div_lt_of_lt_mul hlt
  have hb:i % x.pn<x.pn:=Nat.mod_lt _ (by omega)
  have e:i / x.pn*x.pn+i % x.pn=i:=by rw [Nat.mul_comm];exact Nat.div_add_mod i x.pn
  have h1:WayP (x.wH (i / x.pn*x.pn+i % x.pn)) (x.wL (i / x.pn*x.pn+i % x.pn)) (valL (x.hH (i % x.pn)) 3 ((i / x.pn:Nat):Int) (x.hL (i % x.pn))) (valL (x.hH (i / x.pn)) 2 ((i % x.pn:Nat):Int) (x.hL (i / x.pn))):=h.wa _ ha _ hb
  rw [e] at h1
  refine ⟨?_,h1.eq⟩
  simp only [Bool.and_eq_true,decide_eq_true_eq]
  exact ⟨h1.le,qee.2 h1.it⟩
theorem SysG.his {w:World} {x:SysIn} (h:SysG w x) (hn:x.hn=x.pn):HisE w x.ha x.hA x.hC x.y.hs:=by
 refine ⟨?_,fun i hi=>h.hi i (by rw [hn];exact hi)⟩
 show RowS w x.ha x.pn fun i=>.slice (x.hA i) (x.hL i) (x.hC i)
 rw [<- hn]
 exact h.h
theorem SysB.of_range {w:World} {X:Nat} {x:SysIn} (h:w.rangeAt X 0 (sysL x.pa x.pn x.pc x.sa x.sn x.sc x.wa x.wn x.wc x.ha x.hn x.hc)):SysB w X x:=
 ⟨h 0 _ rfl,h 1 _ rfl,h 2 _ rfl,h 3 _ rfl,h 4 _ rfl⟩
theorem HisP.of_range {w:World} {X:Nat} {x:SysIn} (h:w.rangeAt X 0 (sysL x.pa x.pn x.pc x.sa x.sn x.sc x.wa x.wn x.wc x.ha x.hn x.hc)) (hn:x.hn=x.pn) (hf:∀ j,w.frozen? ⟨X,j,none⟩=false):HisP w X x.ha x.hc x.y.hs (fun _=>0):=by
 have hz:∀ j,j<20->w.cell? ⟨X,5+j,none⟩=some (.int .i64 0):=fun j hj=>by
  have h1:(sysL x.pa x.pn x.pc x.sa x.sn x.sc x.wa x.wn x.wc x.ha x.hn x.hc)[5+j]? = some (.int .i64 0):=by
   match j,hj with
   | 0,_=>rfl
   | 1,_=>rfl
   | 2,_=>rfl
   | 3,_=>rfl
   | 4,_=>rfl
   | 5,_=>rfl
   | 6,_=>rfl
   | 7,_=>rfl
   | 8,_=>rfl
   | 9,_=>rfl
   | 10,_=>rfl
   | 11,_=>rfl
   | 12,_=>rfl
   | 13,_=>rfl
   | 14,_=>rfl
   | 15,_=>rfl
   | 16,_=>rfl
   | 17,_=>rfl
   | 18,_=>rfl
   | 19,_=>rfl
   | n+20,h=>exact absurd h (by omega)
  have:=h (5+j) _ h1
  rwa [Nat.zero_add] at this
 refine ⟨?_,fun i hi=>hz i (by omega),fun a b ha hb=>?_,hf⟩
 ·have:=h 4 _ rfl
  show w.cell? ⟨X,4,none⟩=some (.slice x.ha x.pn x.hc)
  rw [<- hn]
  exact this
 ·rw [Hs.opn_start,show 9+a*4+b=5+(4+a*4+b) by omega]
  exact hz _ (by omega)
theorem qfa (x:SysIn) (w:World) (hG:SysG w x) (hL:x.Len) (hV:w.cell? ⟨0,0,none⟩=some (.iface 310 (.agg #[.pointer (some ⟨1,217,none⟩)]))):
  Calls Tryz.prog 20 #[x.v] w fun e w'=>e=.returned (.bool x.y.okB)/\Below w.heap.size w w':=by
 have HG:Hid (SysG w x):=hG
 have HL:Hid x.Len:=hL
 have HV:Hid (w.cell? ⟨0,0,none⟩=some (.iface 310 (.agg #[.pointer (some ⟨1,217,none⟩)]))):=hV
 have HV0:Hid (0<w.heap.size):=zJ w _ hV
 have bA:=zT w (oQ4 x.pa x.pn x.pc x.sa x.sn x.sc x.wa x.wn x.wc x.ha x.hn x.hc)
 have BA:Hid (Below w.heap.size w (w.alloc (oQ4 x.pa x.pn x.pc x.sa x.sn x.sc x.wa x.wn x.wc x.ha x.hn x.hc))):=bA
 clear hG hL hV bA
 by_cases hc:(1<=x.pn/\x.pn<=4)/\x.sn=x.pn/\x.hn=x.pn/\x.wn=x.pn*x.pn
 case neg=>
  have HN:Hid (x.y.okB=false):=Sy.okB_false fun h=>hc h.cn
  have HC:Hid (¬ ((1<=x.pn/\x.pn<=4)/\x.sn=x.pn/\x.hn=x.pn/\x.wn=x.pn*x.pn)):=hc
  clear hc
  go_enter Tryz.func20,Tryz.ntmps20
  go_wp2_with fail
  generalize w.alloc (oQ4 x.pa x.pn x.pc x.sa x.sn x.sc x.wa x.wn x.wc x.ha x.hn x.hc)=wa at *
  refine (qnb _ _ _ _ _ _ _ _ _ _ _ _ wa HC.out).mono ?_
  rintro e w1 ⟨rfl,b1⟩
  have B1:Hid (Below w.heap.size w w1):=BA.out.trans (b1.mono BA.out.size)
  have hl:=qc3 none 0 0 none 0 0 none 0 0 none 0 0
  have ho:=qc4 none 0 0 none 0 0 none 0 0 none 0 0
  generalize sysL none 0 0 none 0 0 none 0 0 none 0 0=cs at *
  have hs:cs.toArray.size=25:=by simpa using hl
  have HI:Hid ((Tryz.prog.info? 97).map (·.size)=some cs.toArray.size):=by rw [hs];exact qb8
  have HO:Hid (cs.toArray.all (·.oneCell')=true):=all_oneCell_toArray ho
  have HT:Hid ((w1.alloc (zQ5)).there w1.heap.size 0 cs.toArray.size):=qbt _ _ _ _ _ (by rw [hs];rfl) rfl
  have BE:Hid (Below w.heap.size w ((w1.alloc (zQ5)).setCells w1.heap.size 0 cs)):=B1.out.trans ((qam.sets (P:=fun b=>b=w1.heap.size) rfl _ _ (qam.of_below (zT _ _))).below B1.out.size fun b e=>by have:=B1.out.size;omega)
  clear b1 hl ho hs B1
  go_upto_region 2 with (refine wpList_store_mid rfl 97 (.tmp 3) (.tmp 8) rfl w1.heap.size 0 cs.toArray rfl rfl HT.out HI.out HO.out ?_)
  clear HT HI HO
  generalize (w1.alloc (zQ5)).setCells w1.heap.size 0 cs=w2 at *
  go_wp2
  go_ret
  rw [HN.out]
  exact ⟨rfl,BE.out⟩
 have HC:Hid ((1<=x.pn/\x.pn<=4)/\x.sn=x.pn/\x.hn=x.pn/\x.wn=x.pn*x.pn):=hc
 have HIf:=qv1 hc
 have HIF:Hid (((∀ p,p<x.pn->qad (x.pH p) (x.pL p) x.pn=true)/\(∀ p,p<x.pn->x.StP p)/\(∀ p,p<x.hn->∀ i,i<x.hL p->belB (x.hH p i).q x.hn=true)/\(∀ i,i<x.wn->x.WyP i)/\x.y.hs.Row) ↔ x.y.Ok):=HIf
 clear hc HIf
 go_enter Tryz.func20,Tryz.ntmps20
 go_wp2_with fail
 generalize w.alloc (oQ4 x.pa x.pn x.pc x.sa x.sn x.sc x.wa x.wn x.wc x.ha x.hn x.hc)=wa at *
 refine (qnc _ _ _ _ _ _ _ _ _ _ _ _ wa HC.out).mono ?_
 rintro e w1 ⟨rfl,b1⟩
 have B1:Hid (Below w.heap.size w w1):=BA.out.trans (b1.mono BA.out.size)
 have hl:=qc3 x.pa x.pn x.pc x.sa x.sn x.sc x.wa x.wn x.wc x.ha x.hn x.hc
 have ho:=qc4 x.pa x.pn x.pc x.sa x.sn x.sc x.wa x.wn x.wc x.ha x.hn x.hc
 generalize hcs:sysL x.pa x.pn x.pc x.sa x.sn x.sc x.wa x.wn x.wc x.ha x.hn x.hc=cs at *
 have hs:cs.toArray.size=25:=by simpa using hl
 have HI:Hid ((Tryz.prog.info? 97).map (·.size)=some cs.toArray.size):=by rw [hs];exact qb8
 have HO:Hid (cs.toArray.all (·.oneCell')=true):=all_oneCell_toArray ho
 have HT:Hid ((w1.alloc (zQ5)).there w1.heap.size 0 cs.toArray.size):=qbt _ _ _ _ _ (by rw [hs];rfl) rfl
 have BE:Hid (Below w.heap.size w ((w1.alloc (zQ5)).setCells w1.heap.size 0 cs)/\w.heap.size<=w1.heap.size):=⟨B1.out.trans ((qam.sets (P:=fun b=>b=w1.heap.size) rfl _ _ (qam.of_below (zT _ _))).below B1.out.size fun b e=>by have:=B1.out.size;omega),B1.out.size⟩
 have HR:(((w1.alloc (zQ5)).setCells w1.heap.size 0 cs).rangeAt w1.heap.size 0 cs):=World.rangeAt_setCells_same _ _ _ _ (by simpa using HT.out)
 have HF:∀ j,((w1.alloc (zQ5)).setCells w1.heap.size 0 cs).frozen? ⟨w1.heap.size,j,none⟩=false:=fun j=>by
  rw [World.frozen?_setCells]
  exact yB _ _ _ _ rfl
 rw [<- hcs] at HR HF
 have SB2:Hid (SysB ((w1.alloc (zQ5)).setCells w1.heap.size 0 cs) w1.heap.size x/\HisP ((w1.alloc (zQ5)).setCells w1.heap.size 0 cs) w1.heap.size x.ha x.hc x.y.hs (fun _=>0)):=by
  rw [<- hcs]
  exact ⟨SysB.of_range HR,HisP.of_range HR HC.out.2.2.1 HF⟩
 clear b1 hl ho hs B1 hcs HR HF
 go_upto_region 2 with (refine wpList_store_mid rfl 97 (.tmp 3) (.tmp 8) rfl w1.heap.size 0 cs.toArray rfl rfl HT.out HI.out HO.out ?_)
 clear HT HI HO
 generalize (w1.alloc (zQ5)).setCells w1.heap.size 0 cs=w2 at *
 generalize w1.heap.size=X at *
 go_wp2_with fail
 refine (qmw X x w2 SB2.out.1 (HG.out.below BE.out.1) HL.out).mono ?_
 rintro e w3 ⟨rfl,b3⟩
 have B3:Hid (Below w.heap.size w w3):=BE.out.1.trans (b3.mono BE.out.1.size)
 have SB3:Hid (SysB w3 X x/\HisP w3 X x.ha x.hc x.y.hs (fun _=>0)):=⟨SB2.out.1.below b3,SB2.out.2.below b3⟩
 clear b3 SB2
 by_cases q1:∀ p,p<x.pn->qad (x.pH p) (x.pL p) x.pn=true
 case neg=>
  have HN:Hid (x.y.okB=false):=Sy.okB_false fun h=>q1 (HIF.out.2 h).1
  rw [qap q1]
  clear q1
  go_wp2
  go_ret
  rw [HN.out]
  exact ⟨rfl,B3.out⟩
 have Q1:Hid (∀ p,p<x.pn->qad (x.pH p) (x.pL p) x.pn=true):=q1
 rw [qax q1]
 clear q1
 go_wp2_with fail
 refine (qlm X x w3 SB3.out.1 (HG.out.below B3.out) HL.out HC.out.2.1 HC.out.2.2.1 ((B3.out.cell (p:=⟨0,0,none⟩) HV0.out).trans HV.out)).mono ?_
 rintro e w4 ⟨rfl,b4⟩
 have B4:Hid (Below w.heap.size w w4):=B3.out.trans (b4.mono B3.out.size)
 have SB4:Hid (SysB w4 X x/\HisP w4 X x.ha x.hc x.y.hs (fun _=>0)):=⟨SB3.out.1.below b4,SB3.out.2.below b4⟩
 clear b4 SB3
 by_cases q2:∀ p,p<x.pn->x.StP p
 case neg=>
  have HN:Hid (x.y.okB=false):=Sy.okB_false fun h=>q2 (HIF.out.2 h).2.1
  rw [qap q2]
  clear q2
  go_wp2
  go_ret
  rw [HN.out]
  exact ⟨rfl,B4.out⟩
 have Q2:Hid (∀ p,p<x.pn->x.StP p):=q2
 have H2:Hid (∀ p,p<x.hn->x.hL p<=200):=fun p hp=>(qb2 (Q2.out p (by have:=HC.out;omega))).2.1
 rw [qax q2]
 clear q2
 go_wp2_with fail
 refine (qmt X x w4 SB4.out.1 (HG.out.below B4.out) HL.out).mono ?_
 rintro e w5 ⟨rfl,b5⟩
 have B5:Hid (Below w.heap.size w w5):=B4.out.trans (b5.mono B4.out.size)
 have SB5:Hid (SysB w5 X x/\HisP w5 X x.ha x.hc x.y.hs (fun _=>0)):=⟨SB4.out.1.below b5,SB4.out.2.below b5⟩
 clear b5 SB4
 by_cases q3:∀ p,p<x.hn->∀ i,i<x.hL p->belB (x.hH p i).q x.hn=true
 case neg=>
  have HN:Hid (x.y.okB=false):=Sy.okB_false fun h=>q3 (HIF.out.2 h).2.2.1
  rw [qap q3]
  clear q3
  go_wp2
  go_ret
  rw [HN.out]
  exact ⟨rfl,B5.out⟩
 have Q3:Hid (∀ p,p<x.hn->∀ i,i<x.hL p->belB (x.hH p i).q x.hn=true):=q3
 rw [qax q3]
 clear q3
 go_wp2_with fail
 refine (qpm X x w5 SB5.out.1 (HG.out.below B5.out) HL.out HC.out.2.2.1 HC.out.2.2.2 HC.out.1.1 HC.out.1.2 H2.out).mono ?_
 rintro e w6 ⟨rfl,b6⟩
 have B6:Hid (Below w.heap.size w w6):=B5.out.trans (b6.mono B5.out.size)
 have SB6:Hid (SysB w6 X x/\HisP w6 X x.ha x.hc x.y.hs (fun _=>0)):=⟨SB5.out.1.below b6,SB5.out.2.below b6⟩
 clear b6 SB5
 by_cases q4:∀ i,i<x.wn->x.WyP i
 case neg=>
  have HN:Hid (x.y.okB=false):=Sy.okB_false fun h=>q4 (HIF.out.2 h).2.2.2.1
  rw [qap q4]
  clear q4
  go_wp2
  go_ret
  rw [HN.out]
  exact ⟨rfl,B6.out⟩
 have Q4:Hid (∀ i,i<x.wn->x.WyP i):=q4
 rw [qax q4]
 clear q4
 have HP:Hid x.y.hs.Peers:=fun p hp i hi=>by
  have h1:=Q3.out p (by have:=HC.out;have:p<x.pn:=hp;omega) i hi
  simp only [belB,decide_eq_true_eq] at h1
  rw [HC.out.2.2.1] at h1
  exact h1
 go_wp2_with fail
 refine (qoo X x.ha x.hc x.hA x.hC x.y.hs w w6 (HG.out.his HC.out.2.2.1) B6.out BE.out.2 SB6.out.2 HC.out.1.2 HP.out (fun i hi=>H2.out i (by have:=HC.out;have:i<x.pn:=hi;omega))).mono ?_
 rintro e w7 ⟨rfl,b7⟩
 have B7:Hid (Below w.heap.size w w7):=b7
 have HN:Hid (qB x.y.hs.Row=x.y.okB):=by
  show qB x.y.hs.Row=x.y.okB
  by_cases hr:x.y.hs.Row
  ·rw [qax hr,Sy.okB_true (HIF.out.1 ⟨Q1.out,Q2.out,Q3.out,Q4.out,hr⟩)]
  ·rw [qap hr,Sy.okB_false fun h=>hr (HIF.out.2 h).2.2.2.2]
 rw [HN.out]
 clear b7 HN
 go_wp2
 go_ret
 exact ⟨rfl,B7.out⟩
