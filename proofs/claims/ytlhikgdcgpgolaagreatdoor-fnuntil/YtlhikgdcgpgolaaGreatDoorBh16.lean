import Derived.Test.YtlhikgdcgpgolaaGreatDoorBh0
import Derived.Test.YtlhikgdcgpgolaaGreatDoorBh14
import Derived.Test.YtlhikgdcgpgolaaGreatDoorBh11
import Derived.Test.YtlhikgdcgpgolaaGreatDoorBh15
namespace Go.Proofs.YtlhikgdcgpgolaaGreatDoor
set_option maxRecDepth 100000
set_option maxHeartbeats 1000000
open Go.RowKit
theorem yA {f : FuncId} {fn : Func} {c : Code} (hf : Tryz.prog.funcs[f]? = some fn) (hname : (fn.name == "runtime.NumGoroutine") = false) (hb : fn.body = some c) (args : Array Value) (w : World) :
  (callFunc f args).run Tryz.prog w=.ok (.enter f args) w:=by
 have h1 : fn.name ≠ "runtime.NumGoroutine" := by simpa using hname
 simp [callFunc,hf,h1,hb]
theorem stepR_below {w w':World} {B:Nat} {o1:Option Addr} {c1:Nat} {os:List Int} {p' b1 b2 b3 b4 code':Int} (hO:OwnI w B (.slice o1 os.length c1) os) (hb:Below w.heap.size w w'):
  StepR w B (.slice o1 os.length c1) os p' b1 b2 b3 b4 os code' (.returned (dV p' b1 b2 b3 b4 o1 os.length c1 code')) w':=
 ⟨o1,c1,rfl,hO.below hb,hO.below hb,grown_any (zZ hb) _,fun _ h=>.inl h⟩
theorem settled_set {len k:Nat} {a1 a2 a3 a4:Int} {os:List Int} {jr:Nat} {v:Int} (hn:numB a1=true/\numB a2=true/\numB a3=true/\numB a4=true) (h60:os.length<=60) (hj:jr<4):
  settledS len k a1 a2 a3 a4 os (k+1) (set4 a1 a2 a3 a4 jr v).1 (set4 a1 a2 a3 a4 jr v).2.1 (set4 a1 a2 a3 a4 jr v).2.2.1 (set4 a1 a2 a3 a4 jr v).2.2.2 os 0=if numB v=true then goS len k ([a1,a2,a3,a4].set jr v) os 0 else ⟨k,[a1,a2,a3,a4],os,2⟩:=by
 obtain ⟨n1,n2,n3,n4⟩:=hn
 have h1:regsB ([a1,a2,a3,a4].set jr v)=numB v:=by
  match jr,hj with
  | 0,_=>simp [regsB,allN,n2,n3,n4]
  | 1,_=>simp [regsB,allN,n1,n3,n4]
  | 2,_=>simp [regsB,allN,n1,n2,n4]
  | 3,_=>simp [regsB,allN,n1,n2,n3]
 have h2:¬ (60:Int)<(os.length:Int):=by omega
 unfold settledS
 rw [set4_list _ _ _ _ _ _ hj,h1]
 cases hv:numB v
 ·simp
 ·by_cases h3:(len:Int)<=(k:Int)+1
  ·have h4:belB ((k:Int)+1) len=false:=by simp [belB];omega
   simp [h2,h4,goS,goP,goC,h3]
  ·have h4:belB ((k:Int)+1) len=true:=by simp [belB];omega
   simp [h2,h4,goS,goP,goC,h3]
theorem settled_same {len k:Nat} {a1 a2 a3 a4:Int} {os os':List Int} (hn:numB a1=true/\numB a2=true/\numB a3=true/\numB a4=true) (h60:os'.length<=60):
  settledS len k a1 a2 a3 a4 os (k+1) a1 a2 a3 a4 os' 0=goS len k [a1,a2,a3,a4] os' 0:=by
 obtain ⟨n1,n2,n3,n4⟩:=hn
 have h1:regsB [a1,a2,a3,a4]=true:=by simp [regsB,allN,n1,n2,n3,n4]
 have h2:¬ (60:Int)<(os'.length:Int):=by omega
 unfold settledS
 rw [h1]
 by_cases h3:(len:Int)<=(k:Int)+1
 ·have h4:belB ((k:Int)+1) len=false:=by simp [belB];omega
  simp [h2,h4,goS,goP,goC,h3]
 ·have h4:belB ((k:Int)+1) len=true:=by simp [belB];omega
  simp [h2,h4,goS,goP,goC,h3]
theorem settled_over {len k:Nat} {a1 a2 a3 a4 p' b1 b2 b3 b4 code':Int} {os os':List Int} (h60:60<os'.length):
  settledS len k a1 a2 a3 a4 os p' b1 b2 b3 b4 os' code'=⟨k,[a1,a2,a3,a4],os,2⟩:=by
 unfold settledS
 rw [if_pos (.inr (by omega))]
theorem settled_to {len k:Nat} {a1 a2 a3 a4 n code':Int} {os:List Int} (hn:numB a1=true/\numB a2=true/\numB a3=true/\numB a4=true) (h60:os.length<=60) (hb:belB n len=true):
  settledS len k a1 a2 a3 a4 os n a1 a2 a3 a4 os code'=⟨n,[a1,a2,a3,a4],os,code'⟩:=by
 obtain ⟨n1,n2,n3,n4⟩:=hn
 have h1:regsB [a1,a2,a3,a4]=true:=by simp [regsB,allN,n1,n2,n3,n4]
 have h2:¬ (60:Int)<(os.length:Int):=by omega
 unfold settledS
 rw [h1,hb]
 simp [h2]
theorem do_set (b off len cap k:Nat) (g:Nat->I5) (ra oa:Option Addr) (rc oc:Nat) (a1 a2 a3 a4:Int) (os:List Int) (ek eq ev:Int) (w:World) (jr ja jb:Nat) (hj:(g k).r=jr/\(g k).a=ja/\(g k).b=jb) (j4:jr<4/\ja<4/\jb<4) (hn:numB a1=true/\numB a2=true/\numB a3=true/\numB a4=true) (_hz:∀ j,j<4->numB (zi [a1,a2,a3,a4] j)=true) (hl:(len:Int)<=30) (hb:b<w.heap.size) (hI:InsAt w b off len g) (h60:os.length<=60) (h1:Sl w ra [a1,a2,a3,a4]) (h2:Sl w oa os) (hk:k<len) (hD:canB (nxK g len k [a1,a2,a3,a4] os 0) (nxP g len k [a1,a2,a3,a4] os 0) (nxW g len k [a1,a2,a3,a4] os 0) ek eq ev=true) (ho:(g k).o=1):
  Calls Tryz.prog 58 #[.slice (some ⟨b,off,none⟩) len cap,stV k ra 4 rc oa os.length oc 0,evV ek eq ev] w (DoneR w (doneS len (g k) k [a1,a2,a3,a4] os 0 ev) true):=by
 obtain ⟨hjr,hja,hjb⟩:=hj
 obtain ⟨j1,j2,j3⟩:=j4
 have e:settledS len k a1 a2 a3 a4 os (k+1) (set4 a1 a2 a3 a4 jr ((g k).n)).1 (set4 a1 a2 a3 a4 jr ((g k).n)).2.1 (set4 a1 a2 a3 a4 jr ((g k).n)).2.2.1 (set4 a1 a2 a3 a4 jr ((g k).n)).2.2.2 os 0=doneS len (g k) k [a1,a2,a3,a4] os 0 ev:=by
  rw [settled_set hn h60 j1]
  simp [doneS,ho,calcN,hjr]
 rw [<- e]
 refine doIn_step b off len cap k g ra oa rc oc a1 a2 a3 a4 os ek eq ev w 135 (yA Tryz.func135 (by kernel_rfl) rfl) (k+1) (set4 a1 a2 a3 a4 jr ((g k).n)).1 (set4 a1 a2 a3 a4 jr ((g k).n)).2.1 (set4 a1 a2 a3 a4 jr ((g k).n)).2.2.1 (set4 a1 a2 a3 a4 jr ((g k).n)).2.2.2 os 0 (by unfold maxLen;omega) hb hI h60 h1 h2 hk hD (by rw [ho];exact stepOf_1) (fun o1 c1 B wx hB hO=>?_)
 rw [hjr,hja,hjb]
 refine (step_set _ _ _ _ _ _ _ _ _ jr ja jb _ _ _ _ _ _ (by omega) (by omega) j1).mono ?_
 rintro e w' ⟨rfl,b⟩
 exact stepR_below hO b
theorem do_add (b off len cap k:Nat) (g:Nat->I5) (ra oa:Option Addr) (rc oc:Nat) (a1 a2 a3 a4:Int) (os:List Int) (ek eq ev:Int) (w:World) (jr ja jb:Nat) (hj:(g k).r=jr/\(g k).a=ja/\(g k).b=jb) (j4:jr<4/\ja<4/\jb<4) (hn:numB a1=true/\numB a2=true/\numB a3=true/\numB a4=true) (_hz:∀ j,j<4->numB (zi [a1,a2,a3,a4] j)=true) (hl:(len:Int)<=30) (hb:b<w.heap.size) (hI:InsAt w b off len g) (h60:os.length<=60) (h1:Sl w ra [a1,a2,a3,a4]) (h2:Sl w oa os) (hk:k<len) (hD:canB (nxK g len k [a1,a2,a3,a4] os 0) (nxP g len k [a1,a2,a3,a4] os 0) (nxW g len k [a1,a2,a3,a4] os 0) ek eq ev=true) (ho:(g k).o=2):
  Calls Tryz.prog 58 #[.slice (some ⟨b,off,none⟩) len cap,stV k ra 4 rc oa os.length oc 0,evV ek eq ev] w (DoneR w (doneS len (g k) k [a1,a2,a3,a4] os 0 ev) true):=by
 obtain ⟨hjr,hja,hjb⟩:=hj
 obtain ⟨j1,j2,j3⟩:=j4
 have zA:=numB_iff.mp (_hz ja j2)
 have zB:=numB_iff.mp (_hz jb j3)
 have zM:=mul_bound (_hz ja j2) (_hz jb j3)
 have e:settledS len k a1 a2 a3 a4 os (k+1) (set4 a1 a2 a3 a4 jr (zi [a1,a2,a3,a4] ja+zi [a1,a2,a3,a4] jb)).1 (set4 a1 a2 a3 a4 jr (zi [a1,a2,a3,a4] ja+zi [a1,a2,a3,a4] jb)).2.1 (set4 a1 a2 a3 a4 jr (zi [a1,a2,a3,a4] ja+zi [a1,a2,a3,a4] jb)).2.2.1 (set4 a1 a2 a3 a4 jr (zi [a1,a2,a3,a4] ja+zi [a1,a2,a3,a4] jb)).2.2.2 os 0=doneS len (g k) k [a1,a2,a3,a4] os 0 ev:=by
  rw [settled_set hn h60 j1]
  simp [doneS,ho,calcN,hjr,hja,hjb]
 rw [<- e]
 refine doIn_step b off len cap k g ra oa rc oc a1 a2 a3 a4 os ek eq ev w 136 (yA Tryz.func136 (by kernel_rfl) rfl) (k+1) (set4 a1 a2 a3 a4 jr (zi [a1,a2,a3,a4] ja+zi [a1,a2,a3,a4] jb)).1 (set4 a1 a2 a3 a4 jr (zi [a1,a2,a3,a4] ja+zi [a1,a2,a3,a4] jb)).2.1 (set4 a1 a2 a3 a4 jr (zi [a1,a2,a3,a4] ja+zi [a1,a2,a3,a4] jb)).2.2.1 (set4 a1 a2 a3 a4 jr (zi [a1,a2,a3,a4] ja+zi [a1,a2,a3,a4] jb)).2.2.2 os 0 (by unfold maxLen;omega) hb hI h60 h1 h2 hk hD (by rw [ho];exact stepOf_2) (fun o1 c1 B wx hB hO=>?_)
 rw [hjr,hja,hjb]
 refine (step_add _ _ _ _ _ _ _ _ _ jr ja jb _ _ _ _ _ _ (by omega) (by omega) j1 j2 j3 zA.1 zA.2 zB.1 zB.2 zM.1 zM.2).mono ?_
 rintro e w' ⟨rfl,b⟩
 exact stepR_below hO b
theorem do_sub (b off len cap k:Nat) (g:Nat->I5) (ra oa:Option Addr) (rc oc:Nat) (a1 a2 a3 a4:Int) (os:List Int) (ek eq ev:Int) (w:World) (jr ja jb:Nat) (hj:(g k).r=jr/\(g k).a=ja/\(g k).b=jb) (j4:jr<4/\ja<4/\jb<4) (hn:numB a1=true/\numB a2=true/\numB a3=true/\numB a4=true) (_hz:∀ j,j<4->numB (zi [a1,a2,a3,a4] j)=true) (hl:(len:Int)<=30) (hb:b<w.heap.size) (hI:InsAt w b off len g) (h60:os.length<=60) (h1:Sl w ra [a1,a2,a3,a4]) (h2:Sl w oa os) (hk:k<len) (hD:canB (nxK g len k [a1,a2,a3,a4] os 0) (nxP g len k [a1,a2,a3,a4] os 0) (nxW g len k [a1,a2,a3,a4] os 0) ek eq ev=true) (ho:(g k).o=3):
  Calls Tryz.prog 58 #[.slice (some ⟨b,off,none⟩) len cap,stV k ra 4 rc oa os.length oc 0,evV ek eq ev] w (DoneR w (doneS len (g k) k [a1,a2,a3,a4] os 0 ev) true):=by
 obtain ⟨hjr,hja,hjb⟩:=hj
 obtain ⟨j1,j2,j3⟩:=j4
 have zA:=numB_iff.mp (_hz ja j2)
 have zB:=numB_iff.mp (_hz jb j3)
 have zM:=mul_bound (_hz ja j2) (_hz jb j3)
 have e:settledS len k a1 a2 a3 a4 os (k+1) (set4 a1 a2 a3 a4 jr (zi [a1,a2,a3,a4] ja - zi [a1,a2,a3,a4] jb)).1 (set4 a1 a2 a3 a4 jr (zi [a1,a2,a3,a4] ja - zi [a1,a2,a3,a4] jb)).2.1 (set4 a1 a2 a3 a4 jr (zi [a1,a2,a3,a4] ja - zi [a1,a2,a3,a4] jb)).2.2.1 (set4 a1 a2 a3 a4 jr (zi [a1,a2,a3,a4] ja - zi [a1,a2,a3,a4] jb)).2.2.2 os 0=doneS len (g k) k [a1,a2,a3,a4] os 0 ev:=by
  rw [settled_set hn h60 j1]
  simp [doneS,ho,calcN,hjr,hja,hjb]
 rw [<- e]
 refine doIn_step b off len cap k g ra oa rc oc a1 a2 a3 a4 os ek eq ev w 137 (yA Tryz.func137 (by kernel_rfl) rfl) (k+1) (set4 a1 a2 a3 a4 jr (zi [a1,a2,a3,a4] ja - zi [a1,a2,a3,a4] jb)).1 (set4 a1 a2 a3 a4 jr (zi [a1,a2,a3,a4] ja - zi [a1,a2,a3,a4] jb)).2.1 (set4 a1 a2 a3 a4 jr (zi [a1,a2,a3,a4] ja - zi [a1,a2,a3,a4] jb)).2.2.1 (set4 a1 a2 a3 a4 jr (zi [a1,a2,a3,a4] ja - zi [a1,a2,a3,a4] jb)).2.2.2 os 0 (by unfold maxLen;omega) hb hI h60 h1 h2 hk hD (by rw [ho];exact stepOf_3) (fun o1 c1 B wx hB hO=>?_)
 rw [hjr,hja,hjb]
 refine (step_sub _ _ _ _ _ _ _ _ _ jr ja jb _ _ _ _ _ _ (by omega) (by omega) j1 j2 j3 zA.1 zA.2 zB.1 zB.2 zM.1 zM.2).mono ?_
 rintro e w' ⟨rfl,b⟩
 exact stepR_below hO b
theorem do_mul (b off len cap k:Nat) (g:Nat->I5) (ra oa:Option Addr) (rc oc:Nat) (a1 a2 a3 a4:Int) (os:List Int) (ek eq ev:Int) (w:World) (jr ja jb:Nat) (hj:(g k).r=jr/\(g k).a=ja/\(g k).b=jb) (j4:jr<4/\ja<4/\jb<4) (hn:numB a1=true/\numB a2=true/\numB a3=true/\numB a4=true) (_hz:∀ j,j<4->numB (zi [a1,a2,a3,a4] j)=true) (hl:(len:Int)<=30) (hb:b<w.heap.size) (hI:InsAt w b off len g) (h60:os.length<=60) (h1:Sl w ra [a1,a2,a3,a4]) (h2:Sl w oa os) (hk:k<len) (hD:canB (nxK g len k [a1,a2,a3,a4] os 0) (nxP g len k [a1,a2,a3,a4] os 0) (nxW g len k [a1,a2,a3,a4] os 0) ek eq ev=true) (ho:(g k).o=4):
  Calls Tryz.prog 58 #[.slice (some ⟨b,off,none⟩) len cap,stV k ra 4 rc oa os.length oc 0,evV ek eq ev] w (DoneR w (doneS len (g k) k [a1,a2,a3,a4] os 0 ev) true):=by
 obtain ⟨hjr,hja,hjb⟩:=hj
 obtain ⟨j1,j2,j3⟩:=j4
 have zA:=numB_iff.mp (_hz ja j2)
 have zB:=numB_iff.mp (_hz jb j3)
 have zM:=mul_bound (_hz ja j2) (_hz jb j3)
 have e:settledS len k a1 a2 a3 a4 os (k+1) (set4 a1 a2 a3 a4 jr (zi [a1,a2,a3,a4] ja*zi [a1,a2,a3,a4] jb)).1 (set4 a1 a2 a3 a4 jr (zi [a1,a2,a3,a4] ja*zi [a1,a2,a3,a4] jb)).2.1 (set4 a1 a2 a3 a4 jr (zi [a1,a2,a3,a4] ja*zi [a1,a2,a3,a4] jb)).2.2.1 (set4 a1 a2 a3 a4 jr (zi [a1,a2,a3,a4] ja*zi [a1,a2,a3,a4] jb)).2.2.2 os 0=doneS len (g k) k [a1,a2,a3,a4] os 0 ev:=by
  rw [settled_set hn h60 j1]
  simp [doneS,ho,calcN,hjr,hja,hjb]
 rw [<- e]
 refine doIn_step b off len cap k g ra oa rc oc a1 a2 a3 a4 os ek eq ev w 138 (yA Tryz.func138 (by kernel_rfl) rfl) (k+1) (set4 a1 a2 a3 a4 jr (zi [a1,a2,a3,a4] ja*zi [a1,a2,a3,a4] jb)).1 (set4 a1 a2 a3 a4 jr (zi [a1,a2,a3,a4] ja*zi [a1,a2,a3,a4] jb)).2.1 (set4 a1 a2 a3 a4 jr (zi [a1,a2,a3,a4] ja*zi [a1,a2,a3,a4] jb)).2.2.1 (set4 a1 a2 a3 a4 jr (zi [a1,a2,a3,a4] ja*zi [a1,a2,a3,a4] jb)).2.2.2 os 0 (by unfold maxLen;omega) hb hI h60 h1 h2 hk hD (by rw [ho];exact stepOf_4) (fun o1 c1 B wx hB hO=>?_)
 rw [hjr,hja,hjb]
 refine (step_mul _ _ _ _ _ _ _ _ _ jr ja jb _ _ _ _ _ _ (by omega) (by omega) j1 j2 j3 zA.1 zA.2 zB.1 zB.2 zM.1 zM.2).mono ?_
 rintro e w' ⟨rfl,b⟩
 exact stepR_below hO b
theorem do_less_yes (b off len cap k:Nat) (g:Nat->I5) (ra oa:Option Addr) (rc oc:Nat) (a1 a2 a3 a4:Int) (os:List Int) (ek eq ev:Int) (w:World) (jr ja jb:Nat) (hj:(g k).r=jr/\(g k).a=ja/\(g k).b=jb) (j4:jr<4/\ja<4/\jb<4) (hn:numB a1=true/\numB a2=true/\numB a3=true/\numB a4=true) (_hz:∀ j,j<4->numB (zi [a1,a2,a3,a4] j)=true) (hl:(len:Int)<=30) (hb:b<w.heap.size) (hI:InsAt w b off len g) (h60:os.length<=60) (h1:Sl w ra [a1,a2,a3,a4]) (h2:Sl w oa os) (hk:k<len) (hD:canB (nxK g len k [a1,a2,a3,a4] os 0) (nxP g len k [a1,a2,a3,a4] os 0) (nxW g len k [a1,a2,a3,a4] os 0) ek eq ev=true) (ho:(g k).o=5) (hlt:zi [a1,a2,a3,a4] ja<zi [a1,a2,a3,a4] jb):
  Calls Tryz.prog 58 #[.slice (some ⟨b,off,none⟩) len cap,stV k ra 4 rc oa os.length oc 0,evV ek eq ev] w (DoneR w (doneS len (g k) k [a1,a2,a3,a4] os 0 ev) true):=by
 obtain ⟨hjr,hja,hjb⟩:=hj
 obtain ⟨j1,j2,j3⟩:=j4
 have e:settledS len k a1 a2 a3 a4 os (k+1) (set4 a1 a2 a3 a4 jr (1)).1 (set4 a1 a2 a3 a4 jr (1)).2.1 (set4 a1 a2 a3 a4 jr (1)).2.2.1 (set4 a1 a2 a3 a4 jr (1)).2.2.2 os 0=doneS len (g k) k [a1,a2,a3,a4] os 0 ev:=by
  rw [settled_set hn h60 j1]
  simp [doneS,ho,calcN,hjr,hja,hjb,hlt]
 rw [<- e]
 refine doIn_step b off len cap k g ra oa rc oc a1 a2 a3 a4 os ek eq ev w 139 (yA Tryz.func139 (by kernel_rfl) rfl) (k+1) (set4 a1 a2 a3 a4 jr (1)).1 (set4 a1 a2 a3 a4 jr (1)).2.1 (set4 a1 a2 a3 a4 jr (1)).2.2.1 (set4 a1 a2 a3 a4 jr (1)).2.2.2 os 0 (by unfold maxLen;omega) hb hI h60 h1 h2 hk hD (by rw [ho];exact stepOf_5) (fun o1 c1 B wx hB hO=>?_)
 rw [hjr,hja,hjb]
 refine (step_less_yes _ _ _ _ _ _ _ _ _ jr ja jb _ _ _ _ _ _ (by omega) (by omega) j1 j2 j3 hlt).mono ?_
 rintro e w' ⟨rfl,b⟩
 exact stepR_below hO b
theorem do_less_no (b off len cap k:Nat) (g:Nat->I5) (ra oa:Option Addr) (rc oc:Nat) (a1 a2 a3 a4:Int) (os:List Int) (ek eq ev:Int) (w:World) (jr ja jb:Nat) (hj:(g k).r=jr/\(g k).a=ja/\(g k).b=jb) (j4:jr<4/\ja<4/\jb<4) (hn:numB a1=true/\numB a2=true/\numB a3=true/\numB a4=true) (_hz:∀ j,j<4->numB (zi [a1,a2,a3,a4] j)=true) (hl:(len:Int)<=30) (hb:b<w.heap.size) (hI:InsAt w b off len g) (h60:os.length<=60) (h1:Sl w ra [a1,a2,a3,a4]) (h2:Sl w oa os) (hk:k<len) (hD:canB (nxK g len k [a1,a2,a3,a4] os 0) (nxP g len k [a1,a2,a3,a4] os 0) (nxW g len k [a1,a2,a3,a4] os 0) ek eq ev=true) (ho:(g k).o=5) (hlt:¬ zi [a1,a2,a3,a4] ja<zi [a1,a2,a3,a4] jb):
  Calls Tryz.prog 58 #[.slice (some ⟨b,off,none⟩) len cap,stV k ra 4 rc oa os.length oc 0,evV ek eq ev] w (DoneR w (doneS len (g k) k [a1,a2,a3,a4] os 0 ev) true):=by
 obtain ⟨hjr,hja,hjb⟩:=hj
 obtain ⟨j1,j2,j3⟩:=j4
 have e:settledS len k a1 a2 a3 a4 os (k+1) (set4 a1 a2 a3 a4 jr (0)).1 (set4 a1 a2 a3 a4 jr (0)).2.1 (set4 a1 a2 a3 a4 jr (0)).2.2.1 (set4 a1 a2 a3 a4 jr (0)).2.2.2 os 0=doneS len (g k) k [a1,a2,a3,a4] os 0 ev:=by
  rw [settled_set hn h60 j1]
  simp [doneS,ho,calcN,hjr,hja,hjb,hlt]
 rw [<- e]
 refine doIn_step b off len cap k g ra oa rc oc a1 a2 a3 a4 os ek eq ev w 139 (yA Tryz.func139 (by kernel_rfl) rfl) (k+1) (set4 a1 a2 a3 a4 jr (0)).1 (set4 a1 a2 a3 a4 jr (0)).2.1 (set4 a1 a2 a3 a4 jr (0)).2.2.1 (set4 a1 a2 a3 a4 jr (0)).2.2.2 os 0 (by unfold maxLen;omega) hb hI h60 h1 h2 hk hD (by rw [ho];exact stepOf_5) (fun o1 c1 B wx hB hO=>?_)
 rw [hjr,hja,hjb]
 refine (step_less_no _ _ _ _ _ _ _ _ _ jr ja jb _ _ _ _ _ _ (by omega) (by omega) j1 j2 j3 hlt).mono ?_
 rintro e w' ⟨rfl,b⟩
 exact stepR_below hO b
theorem do_send (b off len cap k:Nat) (g:Nat->I5) (ra oa:Option Addr) (rc oc:Nat) (a1 a2 a3 a4:Int) (os:List Int) (ek eq ev:Int) (w:World) (jr ja jb:Nat) (hj:(g k).r=jr/\(g k).a=ja/\(g k).b=jb) (j4:jr<4/\ja<4/\jb<4) (hn:numB a1=true/\numB a2=true/\numB a3=true/\numB a4=true) (_hz:∀ j,j<4->numB (zi [a1,a2,a3,a4] j)=true) (hl:(len:Int)<=30) (hb:b<w.heap.size) (hI:InsAt w b off len g) (h60:os.length<=60) (h1:Sl w ra [a1,a2,a3,a4]) (h2:Sl w oa os) (hk:k<len) (hD:canB (nxK g len k [a1,a2,a3,a4] os 0) (nxP g len k [a1,a2,a3,a4] os 0) (nxW g len k [a1,a2,a3,a4] os 0) ek eq ev=true) (ho:(g k).o=6):
  Calls Tryz.prog 58 #[.slice (some ⟨b,off,none⟩) len cap,stV k ra 4 rc oa os.length oc 0,evV ek eq ev] w (DoneR w (doneS len (g k) k [a1,a2,a3,a4] os 0 ev) true):=by
 obtain ⟨hjr,hja,hjb⟩:=hj
 obtain ⟨j1,j2,j3⟩:=j4
 have e:settledS len k a1 a2 a3 a4 os (k+1) a1 a2 a3 a4 os 0=doneS len (g k) k [a1,a2,a3,a4] os 0 ev:=by
  rw [settled_same hn h60]
  simp [doneS,ho]
 rw [<- e]
 refine doIn_step b off len cap k g ra oa rc oc a1 a2 a3 a4 os ek eq ev w 140 (yA Tryz.func140 (by kernel_rfl) rfl) (k+1) a1 a2 a3 a4 os 0 (by unfold maxLen;omega) hb hI h60 h1 h2 hk hD (by rw [ho];exact stepOf_6) (fun o1 c1 B wx hB hO=>?_)
 rw [hjr,hja,hjb]
 refine (step_send _ _ _ _ _ _ _ _ _ jr ja jb _ _ _ _ _ _ (by omega) (by omega)).mono ?_
 rintro e w' ⟨rfl,b⟩
 exact stepR_below hO b
theorem do_take (b off len cap k:Nat) (g:Nat->I5) (ra oa:Option Addr) (rc oc:Nat) (a1 a2 a3 a4:Int) (os:List Int) (ek eq ev:Int) (w:World) (jr ja jb:Nat) (hj:(g k).r=jr/\(g k).a=ja/\(g k).b=jb) (j4:jr<4/\ja<4/\jb<4) (hn:numB a1=true/\numB a2=true/\numB a3=true/\numB a4=true) (_hz:∀ j,j<4->numB (zi [a1,a2,a3,a4] j)=true) (hl:(len:Int)<=30) (hb:b<w.heap.size) (hI:InsAt w b off len g) (h60:os.length<=60) (h1:Sl w ra [a1,a2,a3,a4]) (h2:Sl w oa os) (hk:k<len) (hD:canB (nxK g len k [a1,a2,a3,a4] os 0) (nxP g len k [a1,a2,a3,a4] os 0) (nxW g len k [a1,a2,a3,a4] os 0) ek eq ev=true) (ho:(g k).o=7) (hv:numB ev=true):
  Calls Tryz.prog 58 #[.slice (some ⟨b,off,none⟩) len cap,stV k ra 4 rc oa os.length oc 0,evV ek eq ev] w (DoneR w (doneS len (g k) k [a1,a2,a3,a4] os 0 ev) true):=by
 obtain ⟨hjr,hja,hjb⟩:=hj
 obtain ⟨j1,j2,j3⟩:=j4
 have e:settledS len k a1 a2 a3 a4 os (k+1) (set4 a1 a2 a3 a4 jr (ev)).1 (set4 a1 a2 a3 a4 jr (ev)).2.1 (set4 a1 a2 a3 a4 jr (ev)).2.2.1 (set4 a1 a2 a3 a4 jr (ev)).2.2.2 os 0=doneS len (g k) k [a1,a2,a3,a4] os 0 ev:=by
  rw [settled_set hn h60 j1,if_pos hv]
  simp [doneS,ho,hjr]
 rw [<- e]
 refine doIn_step b off len cap k g ra oa rc oc a1 a2 a3 a4 os ek eq ev w 141 (yA Tryz.func141 (by kernel_rfl) rfl) (k+1) (set4 a1 a2 a3 a4 jr (ev)).1 (set4 a1 a2 a3 a4 jr (ev)).2.1 (set4 a1 a2 a3 a4 jr (ev)).2.2.1 (set4 a1 a2 a3 a4 jr (ev)).2.2.2 os 0 (by unfold maxLen;omega) hb hI h60 h1 h2 hk hD (by rw [ho];exact stepOf_7) (fun o1 c1 B wx hB hO=>?_)
 rw [hjr,hja,hjb]
 refine (step_take _ _ _ _ _ _ _ _ _ jr ja jb _ _ _ _ _ _ (by omega) (by omega) j1).mono ?_
 rintro e w' ⟨rfl,b⟩
 exact stepR_below hO b
theorem do_print (b off len cap k:Nat) (g:Nat->I5) (ra oa:Option Addr) (rc oc:Nat) (a1 a2 a3 a4:Int) (os:List Int) (ek eq ev:Int) (w:World) (jr ja jb:Nat) (hj:(g k).r=jr/\(g k).a=ja/\(g k).b=jb) (j4:jr<4/\ja<4/\jb<4) (hn:numB a1=true/\numB a2=true/\numB a3=true/\numB a4=true) (_hz:∀ j,j<4->numB (zi [a1,a2,a3,a4] j)=true) (hl:(len:Int)<=30) (hb:b<w.heap.size) (hI:InsAt w b off len g) (h60:os.length<=60) (h1:Sl w ra [a1,a2,a3,a4]) (h2:Sl w oa os) (hk:k<len) (hD:canB (nxK g len k [a1,a2,a3,a4] os 0) (nxP g len k [a1,a2,a3,a4] os 0) (nxW g len k [a1,a2,a3,a4] os 0) ek eq ev=true) (ho:(g k).o=8):
  Calls Tryz.prog 58 #[.slice (some ⟨b,off,none⟩) len cap,stV k ra 4 rc oa os.length oc 0,evV ek eq ev] w (DoneR w (doneS len (g k) k [a1,a2,a3,a4] os 0 ev) true):=by
 obtain ⟨hjr,hja,hjb⟩:=hj
 obtain ⟨j1,j2,j3⟩:=j4
 have e:settledS len k a1 a2 a3 a4 os (k+1) a1 a2 a3 a4 (os ++ [ev]) 0=doneS len (g k) k [a1,a2,a3,a4] os 0 ev:=by
  by_cases h:os.length=60
  ·rw [settled_over (by simp;omega)]
   simp [doneS,ho,h]
  ·rw [settled_same hn (by simp;omega)]
   simp [doneS,ho,h]
 rw [<- e]
 refine doIn_step b off len cap k g ra oa rc oc a1 a2 a3 a4 os ek eq ev w 142 (yA Tryz.func142 (by kernel_rfl) rfl) (k+1) a1 a2 a3 a4 (os ++ [ev]) 0 (by unfold maxLen;omega) hb hI h60 h1 h2 hk hD (by rw [ho];exact stepOf_8) (fun o1 c1 B wx hB hO=>?_)
 rw [hjr,hja,hjb]
 refine (step_print _ _ _ _ _ _ _ os _ jr ja jb _ _ _ _ _ B wx (by omega) (by omega) (by omega) hB hO).mono ?_
 rintro e w' ⟨oa',oc',rfl,p1,p2,p3,p4⟩
 have e1:(os ++ [ev]).length=os.length+1:=by simp
 unfold StepR
 rw [e1]
 exact ⟨oa',oc',rfl,p1,p2,p3,p4⟩
theorem do_jump (b off len cap k:Nat) (g:Nat->I5) (ra oa:Option Addr) (rc oc:Nat) (a1 a2 a3 a4:Int) (os:List Int) (ek eq ev:Int) (w:World) (jr ja jb:Nat) (hj:(g k).r=jr/\(g k).a=ja/\(g k).b=jb) (j4:jr<4/\ja<4/\jb<4) (hn:numB a1=true/\numB a2=true/\numB a3=true/\numB a4=true) (_hz:∀ j,j<4->numB (zi [a1,a2,a3,a4] j)=true) (hl:(len:Int)<=30) (hb:b<w.heap.size) (hI:InsAt w b off len g) (h60:os.length<=60) (h1:Sl w ra [a1,a2,a3,a4]) (h2:Sl w oa os) (hk:k<len) (hD:canB (nxK g len k [a1,a2,a3,a4] os 0) (nxP g len k [a1,a2,a3,a4] os 0) (nxW g len k [a1,a2,a3,a4] os 0) ek eq ev=true) (ho:(g k).o=9) (hb9:belB (g k).n len=true):
  Calls Tryz.prog 58 #[.slice (some ⟨b,off,none⟩) len cap,stV k ra 4 rc oa os.length oc 0,evV ek eq ev] w (DoneR w (doneS len (g k) k [a1,a2,a3,a4] os 0 ev) true):=by
 obtain ⟨hjr,hja,hjb⟩:=hj
 obtain ⟨j1,j2,j3⟩:=j4
 have e:settledS len k a1 a2 a3 a4 os (g k).n a1 a2 a3 a4 os 0=doneS len (g k) k [a1,a2,a3,a4] os 0 ev:=by
  rw [settled_to hn h60 hb9]
  simp [doneS,ho]
 rw [<- e]
 refine doIn_step b off len cap k g ra oa rc oc a1 a2 a3 a4 os ek eq ev w 143 (yA Tryz.func143 (by kernel_rfl) rfl) (g k).n a1 a2 a3 a4 os 0 (by unfold maxLen;omega) hb hI h60 h1 h2 hk hD (by rw [ho];exact stepOf_9) (fun o1 c1 B wx hB hO=>?_)
 rw [hjr,hja,hjb]
 refine (step_jump _ _ _ _ _ _ _ _ _ jr ja jb _ _ _ _ _ _ (by omega) (by omega)).mono ?_
 rintro e w' ⟨rfl,b⟩
 exact stepR_below hO b
theorem do_zero_yes (b off len cap k:Nat) (g:Nat->I5) (ra oa:Option Addr) (rc oc:Nat) (a1 a2 a3 a4:Int) (os:List Int) (ek eq ev:Int) (w:World) (jr ja jb:Nat) (hj:(g k).r=jr/\(g k).a=ja/\(g k).b=jb) (j4:jr<4/\ja<4/\jb<4) (hn:numB a1=true/\numB a2=true/\numB a3=true/\numB a4=true) (_hz:∀ j,j<4->numB (zi [a1,a2,a3,a4] j)=true) (hl:(len:Int)<=30) (hb:b<w.heap.size) (hI:InsAt w b off len g) (h60:os.length<=60) (h1:Sl w ra [a1,a2,a3,a4]) (h2:Sl w oa os) (hk:k<len) (hD:canB (nxK g len k [a1,a2,a3,a4] os 0) (nxP g len k [a1,a2,a3,a4] os 0) (nxW g len k [a1,a2,a3,a4] os 0) ek eq ev=true) (ho:(g k).o=10) (hb9:belB (g k).n len=true) (hz0:zi [a1,a2,a3,a4] ja=0):
  Calls Tryz.prog 58 #[.slice (some ⟨b,off,none⟩) len cap,stV k ra 4 rc oa os.length oc 0,evV ek eq ev] w (DoneR w (doneS len (g k) k [a1,a2,a3,a4] os 0 ev) true):=by
 obtain ⟨hjr,hja,hjb⟩:=hj
 obtain ⟨j1,j2,j3⟩:=j4
 have e:settledS len k a1 a2 a3 a4 os (g k).n a1 a2 a3 a4 os 0=doneS len (g k) k [a1,a2,a3,a4] os 0 ev:=by
  rw [settled_to hn h60 hb9]
  simp [doneS,ho,hja,hz0]
 rw [<- e]
 refine doIn_step b off len cap k g ra oa rc oc a1 a2 a3 a4 os ek eq ev w 144 (yA Tryz.func144 (by kernel_rfl) rfl) (g k).n a1 a2 a3 a4 os 0 (by unfold maxLen;omega) hb hI h60 h1 h2 hk hD (by rw [ho];exact stepOf_10) (fun o1 c1 B wx hB hO=>?_)
 rw [hjr,hja,hjb]
 refine (step_zero_yes _ _ _ _ _ _ _ _ _ jr ja jb _ _ _ _ _ _ (by omega) (by omega) j2 (by simp [hz0])).mono ?_
 rintro e w' ⟨rfl,b⟩
 exact stepR_below hO b
theorem do_zero_no (b off len cap k:Nat) (g:Nat->I5) (ra oa:Option Addr) (rc oc:Nat) (a1 a2 a3 a4:Int) (os:List Int) (ek eq ev:Int) (w:World) (jr ja jb:Nat) (hj:(g k).r=jr/\(g k).a=ja/\(g k).b=jb) (j4:jr<4/\ja<4/\jb<4) (hn:numB a1=true/\numB a2=true/\numB a3=true/\numB a4=true) (_hz:∀ j,j<4->numB (zi [a1,a2,a3,a4] j)=true) (hl:(len:Int)<=30) (hb:b<w.heap.size) (hI:InsAt w b off len g) (h60:os.length<=60) (h1:Sl w ra [a1,a2,a3,a4]) (h2:Sl w oa os) (hk:k<len) (hD:canB (nxK g len k [a1,a2,a3,a4] os 0) (nxP g len k [a1,a2,a3,a4] os 0) (nxW g len k [a1,a2,a3,a4] os 0) ek eq ev=true) (ho:(g k).o=10) (hz0:¬ zi [a1,a2,a3,a4] ja=0):
  Calls Tryz.prog 58 #[.slice (some ⟨b,off,none⟩) len cap,stV k ra 4 rc oa os.length oc 0,evV ek eq ev] w (DoneR w (doneS len (g k) k [a1,a2,a3,a4] os 0 ev) true):=by
 obtain ⟨hjr,hja,hjb⟩:=hj
 obtain ⟨j1,j2,j3⟩:=j4
 have e:settledS len k a1 a2 a3 a4 os (k+1) a1 a2 a3 a4 os 0=doneS len (g k) k [a1,a2,a3,a4] os 0 ev:=by
  rw [settled_same hn h60]
  simp [doneS,ho,hja,hz0]
 rw [<- e]
 refine doIn_step b off len cap k g ra oa rc oc a1 a2 a3 a4 os ek eq ev w 144 (yA Tryz.func144 (by kernel_rfl) rfl) (k+1) a1 a2 a3 a4 os 0 (by unfold maxLen;omega) hb hI h60 h1 h2 hk hD (by rw [ho];exact stepOf_10) (fun o1 c1 B wx hB hO=>?_)
 rw [hjr,hja,hjb]
 refine (step_zero_no _ _ _ _ _ _ _ _ _ jr ja jb _ _ _ _ _ _ (by omega) (by omega) j2 (by simpa using hz0)).mono ?_
 rintro e w' ⟨rfl,b⟩
 exact stepR_below hO b
theorem do_end (b off len cap k:Nat) (g:Nat->I5) (ra oa:Option Addr) (rc oc:Nat) (a1 a2 a3 a4:Int) (os:List Int) (ek eq ev:Int) (w:World) (jr ja jb:Nat) (hj:(g k).r=jr/\(g k).a=ja/\(g k).b=jb) (j4:jr<4/\ja<4/\jb<4) (hn:numB a1=true/\numB a2=true/\numB a3=true/\numB a4=true) (_hz:∀ j,j<4->numB (zi [a1,a2,a3,a4] j)=true) (hl:(len:Int)<=30) (hb:b<w.heap.size) (hI:InsAt w b off len g) (h60:os.length<=60) (h1:Sl w ra [a1,a2,a3,a4]) (h2:Sl w oa os) (hk:k<len) (hD:canB (nxK g len k [a1,a2,a3,a4] os 0) (nxP g len k [a1,a2,a3,a4] os 0) (nxW g len k [a1,a2,a3,a4] os 0) ek eq ev=true) (ho:(g k).o=11):
  Calls Tryz.prog 58 #[.slice (some ⟨b,off,none⟩) len cap,stV k ra 4 rc oa os.length oc 0,evV ek eq ev] w (DoneR w (doneS len (g k) k [a1,a2,a3,a4] os 0 ev) true):=by
 obtain ⟨hjr,hja,hjb⟩:=hj
 obtain ⟨j1,j2,j3⟩:=j4
 have e:settledS len k a1 a2 a3 a4 os k a1 a2 a3 a4 os 1=doneS len (g k) k [a1,a2,a3,a4] os 0 ev:=by
  rw [settled_to hn h60 (by simp [belB];omega)]
  simp [doneS,ho]
 rw [<- e]
 refine doIn_step b off len cap k g ra oa rc oc a1 a2 a3 a4 os ek eq ev w 145 (yA Tryz.func145 (by kernel_rfl) rfl) k a1 a2 a3 a4 os 1 (by unfold maxLen;omega) hb hI h60 h1 h2 hk hD (by rw [ho];exact stepOf_11) (fun o1 c1 B wx hB hO=>?_)
 rw [hjr,hja,hjb]
 refine (step_end _ _ _ _ _ _ _ _ _ jr ja jb _ _ _ _ _ _ (by omega) (by omega)).mono ?_
 rintro e w' ⟨rfl,b⟩
 exact stepR_below hO b
theorem jump_to {x:I5} {len:Nat} (h:insOkB x.o x.r x.a x.b x.n len 4=true) (h9:x.o=9\/x.o=10):belB x.n len=true:=by
 simp only [insOkB,Bool.and_eq_true] at h
 have h5:=h.2
 unfold opOkB at h5
 rcases h9 with h9 | h9 <;> (rw [h9] at h5;simp [belB] at h5 ⊢;omega)
theorem doIn_any (b off len cap:Nat) (g:Nat->I5) (p code:Int) (ra oa:Option Addr) (rc oc:Nat) (rs os:List Int) (ek eq ev:Int) (w:World) (hlen:len<=maxLen) (hb:b<w.heap.size) (hI:InsAt w b off len g) (hr:rs.length<=1048576) (ho:os.length<=1048576) (h1:Sl w ra rs) (h2:Sl w oa os) (hP:progOkB g len 4=true):
  Calls Tryz.prog 58 #[.slice (some ⟨b,off,none⟩) len cap,stV p ra rs.length rc oa os.length oc code,evV ek eq ev] w (DoneR w (doS g len p rs os code ek eq ev) (doB g len p rs os code ek eq ev)):=by
 rcases zK (doB g len p rs os code ek eq ev) with hB | hB
 case inr=>
  have hS:doS g len p rs os code ek eq ev=⟨p,rs,os,code⟩:=by
   unfold doS
   rw [if_neg (by rw [hB];decide)]
  rw [hB,hS]
  exact doIn_no b off len cap g p code ra oa rc oc rs os ek eq ev w hlen hb hI hr ho h1 h2 hB hP
 have hR:=doB_right hB
 obtain ⟨hp,hs,rfl⟩:=right_parts hR
 obtain ⟨⟨a1,a2,a3,a4,rfl,n1,n2,n3,n4⟩,⟨k,rfl,hk⟩,h60,-⟩:=st_parts hs
 have hS:doS g len k [a1,a2,a3,a4] os 0 ek eq ev=doneS len (g k) k [a1,a2,a3,a4] os 0 ev:=by
  unfold doS
  rw [if_pos hB,Int.toNat_natCast]
 rw [hB,hS]
 have hl:(len:Int)<=30:=by
  simp only [progOkB,Bool.and_eq_true] at hp
  have:=hp.2.1
  simp [inB] at this
  omega
 have hins:=right_ins hp hk
 obtain ⟨⟨o1,o11⟩,⟨r0,r3⟩,⟨m0,m3⟩,⟨q0,q3⟩⟩:=ins_range hins
 have hn:numB a1=true/\numB a2=true/\numB a3=true/\numB a4=true:=⟨n1,n2,n3,n4⟩
 have hz:∀ j,j<4->numB (zi [a1,a2,a3,a4] j)=true:=fun j hj=>by
  match j,hj with
  | 0,_=>exact n1
  | 1,_=>exact n2
  | 2,_=>exact n3
  | 3,_=>exact n4
 have hj:(g k).r=((g k).r.toNat:Int)/\(g k).a=((g k).a.toNat:Int)/\(g k).b=((g k).b.toNat:Int):=⟨by omega,by omega,by omega⟩
 have j4:(g k).r.toNat<4/\(g k).a.toNat<4/\(g k).b.toNat<4:=⟨by omega,by omega,by omega⟩
 rcases opCases (g k).o with h | h | h | h | h | h | h | h | h | h | h | h
 ·omega
 ·exact do_set b off len cap k g ra oa rc oc a1 a2 a3 a4 os ek eq ev w _ _ _ hj j4 hn hz hl hb hI h60 h1 h2 hk hB h
 ·exact do_add b off len cap k g ra oa rc oc a1 a2 a3 a4 os ek eq ev w _ _ _ hj j4 hn hz hl hb hI h60 h1 h2 hk hB h
 ·exact do_sub b off len cap k g ra oa rc oc a1 a2 a3 a4 os ek eq ev w _ _ _ hj j4 hn hz hl hb hI h60 h1 h2 hk hB h
 ·exact do_mul b off len cap k g ra oa rc oc a1 a2 a3 a4 os ek eq ev w _ _ _ hj j4 hn hz hl hb hI h60 h1 h2 hk hB h
 ·by_cases hlt:zi [a1,a2,a3,a4] (g k).a.toNat<zi [a1,a2,a3,a4] (g k).b.toNat
  ·exact do_less_yes b off len cap k g ra oa rc oc a1 a2 a3 a4 os ek eq ev w _ _ _ hj j4 hn hz hl hb hI h60 h1 h2 hk hB h hlt
  ·exact do_less_no b off len cap k g ra oa rc oc a1 a2 a3 a4 os ek eq ev w _ _ _ hj j4 hn hz hl hb hI h60 h1 h2 hk hB h hlt
 ·exact do_send b off len cap k g ra oa rc oc a1 a2 a3 a4 os ek eq ev w _ _ _ hj j4 hn hz hl hb hI h60 h1 h2 hk hB h
 ·have hv:numB ev=true:=by
   have hc:=hB
   unfold doB nxK at hc
   rw [if_pos hR,Int.toNat_natCast,h,show evK 7=3 from rfl,canB_take] at hc
   simp only [Bool.and_eq_true] at hc
   exact hc.1.2
  exact do_take b off len cap k g ra oa rc oc a1 a2 a3 a4 os ek eq ev w _ _ _ hj j4 hn hz hl hb hI h60 h1 h2 hk hB h hv
 ·exact do_print b off len cap k g ra oa rc oc a1 a2 a3 a4 os ek eq ev w _ _ _ hj j4 hn hz hl hb hI h60 h1 h2 hk hB h
 ·exact do_jump b off len cap k g ra oa rc oc a1 a2 a3 a4 os ek eq ev w _ _ _ hj j4 hn hz hl hb hI h60 h1 h2 hk hB h (jump_to hins (.inl h))
 ·by_cases hz0:zi [a1,a2,a3,a4] (g k).a.toNat=0
  ·exact do_zero_yes b off len cap k g ra oa rc oc a1 a2 a3 a4 os ek eq ev w _ _ _ hj j4 hn hz hl hb hI h60 h1 h2 hk hB h (jump_to hins (.inr h)) hz0
  ·exact do_zero_no b off len cap k g ra oa rc oc a1 a2 a3 a4 os ek eq ev w _ _ _ hj j4 hn hz hl hb hI h60 h1 h2 hk hB h hz0
 ·exact do_end b off len cap k g ra oa rc oc a1 a2 a3 a4 os ek eq ev w _ _ _ hj j4 hn hz hl hb hI h60 h1 h2 hk hB h
theorem stOk_mk {n:Nat} {p code:Int} {rs os:List Int} (h1:rs.length=4) (h2:allN rs=true) (h3:0<=code/\code<=2) (h4:belB p n=true) (h5:os.length<=60) (h6:allN os=true):stOkB n p rs os code=true:=by
 have e:inB code 0 2=true:=by simp [inB];omega
 have e5:((os.length:Int)<=60):=by omega
 simp [stOkB,regsB,outB,h1,h2,e,h4,e5,h6]
theorem allN_set {xs:List Int} {j:Nat} {v:Int} (h:allN xs=true) (hv:numB v=true):allN (xs.set j v)=true:=by
 unfold allN at h ⊢
 rw [List.all_eq_true] at h ⊢
 intro x hx
 rcases List.mem_or_eq_of_mem_set hx with h1 | h1
 ·exact h x h1
 ·rw [h1];exact hv
def OkS (len:Nat) (S:S4):Prop:=stOkB len S.p S.rs S.os S.c=true
theorem goS_ok {len k:Nat} {rs os:List Int} (hk:k<len) (h1:rs.length=4) (h2:allN rs=true) (h5:os.length<=60) (h6:allN os=true):OkS len (goS len k rs os 0):=by
 unfold OkS goS goP goC
 by_cases h:(len:Int)<=(k:Int)+1
 ·simp only [h,if_true]
  exact stOk_mk h1 h2 (by omega) (by simp [belB];omega) h5 h6
 ·simp only [h,if_false]
  exact stOk_mk h1 h2 (by omega) (by simp [belB];omega) h5 h6
theorem doS_ok {g:Nat->I5} {len:Nat} {p:Int} {rs os:List Int} {code ek eq ev:Int} (hB:doB g len p rs os code ek eq ev=true):OkS len (doS g len p rs os code ek eq ev):=by
 have hR:=doB_right hB
 obtain ⟨hp,hs,rfl⟩:=right_parts hR
 obtain ⟨⟨a1,a2,a3,a4,rfl,n1,n2,n3,n4⟩,⟨k,rfl,hk⟩,h60,hN⟩:=st_parts hs
 have hS:doS g len k [a1,a2,a3,a4] os 0 ek eq ev=doneS len (g k) k [a1,a2,a3,a4] os 0 ev:=by
  unfold doS
  rw [if_pos hB,Int.toNat_natCast]
 rw [hS]
 have hins:=right_ins hp hk
 obtain ⟨⟨o1,o11⟩,⟨r0,r3⟩,⟨m0,m3⟩,⟨q0,q3⟩⟩:=ins_range hins
 have hA:allN [a1,a2,a3,a4]=true:=by simp [allN,n1,n2,n3,n4]
 have hz:∀ j,j<4->numB (zi [a1,a2,a3,a4] j)=true:=fun j hj=>by
  match j,hj with
  | 0,_=>exact n1
  | 1,_=>exact n2
  | 2,_=>exact n3
  | 3,_=>exact n4
 have hkB:belB (k:Int) len=true:=by simp [belB];omega
 have hc:=hB
 unfold doB nxK nxP nxW at hc
 rw [if_pos hR,if_pos hR,if_pos hR,Int.toNat_natCast] at hc
 have v7:(g k).o=7->numB ev=true:=fun h=>by
  rw [h,show evK 7=3 from rfl,canB_take] at hc
  simp only [Bool.and_eq_true] at hc
  exact hc.1.2
 have v8:(g k).o=8->numB ev=true:=fun h=>by
  rw [h,show evK 8=4 from rfl,canB_other (by decide) (by decide)] at hc
  unfold evEqB at hc
  simp only [Bool.and_eq_true,beq_iff_eq] at hc
  rw [hc.2.2]
  exact hz _ (by omega)
 unfold doneS
 split
 ·exact goS_ok hk rfl hA h60 hN
 split
 ·rename_i h7
  exact goS_ok hk (by simp) (allN_set hA (v7 h7)) h60 hN
 split
 ·rename_i h8
  split
  ·exact stOk_mk rfl hA (by simp) hkB h60 hN
  ·refine goS_ok hk rfl hA (by simp;omega) ?_
   unfold allN at hN ⊢
   rw [List.all_append,hN]
   simp [v8 h8]
 split
 ·rename_i h9
  exact stOk_mk rfl hA (by simp) (jump_to hins (.inl h9)) h60 hN
 split
 ·rename_i h10
  split
  ·exact stOk_mk rfl hA (by simp) (jump_to hins (.inr h10)) h60 hN
  ·exact goS_ok hk rfl hA h60 hN
 split
 ·exact stOk_mk rfl hA (by simp) hkB h60 hN
 split
 ·rename_i hv
  exact goS_ok hk (by simp) (allN_set hA hv) h60 hN
 ·exact stOk_mk rfl hA (by simp) hkB h60 hN
theorem specStateNew_any (w:World):
  Calls Tryz.prog 113 #[] w fun e w'=>∃ v,e=.returned v/\StOwn w' w.heap.size v 0 [0,0,0,0] [] 0/\Below w.heap.size w w':=by
 have hmk:∀ w:World,(Instr.makeSlice 70 (.int .i64 4) (.int .i64 4)).run Tryz.prog w=.ok (.slice (some ⟨w.heap.size,0,none⟩) 4 4) (w.alloc (.cells (madeCells #[.int .i64 0] 4) 3)):=fun w=>run_make_int 4 (by omega) w
 have HM:Hid (∀ w:World,OwnI (w.alloc (.cells (madeCells #[.int .i64 0] 4) 3)) w.heap.size (.slice (some ⟨w.heap.size,0,none⟩) 4 4) [0,0,0,0]):=fun w=>made_own w 4 (by omega)
 go_enter Tryz.func113,Tryz.ntmps113
 go_wp2
 have hB:w.heap.size<=w.heap.size+1:=by omega
 have hM:=HM.out (w.alloc (oQ1 0 (some ⟨w.heap.size+1,0,none⟩) 4 4 none 0 0 0))
 rw [World.size_alloc] at hM
 refine bodyPost_ret (v:=stV 0 (some ⟨w.heap.size+1,0,none⟩) 4 4 none 0 0 0) (by simp [results,Tryz.results113,go_sem]) rfl ⟨_,rfl,⟨_,_,rfl,hM.mono hB,World.ownsRow_nil _ _ _ _,fun k _=>by simp [Value.ownBlock]⟩,by go_grown⟩
theorem Tl.widen {w:World} {B C C' N:Nat} {p c:Int} {ra:Option Addr} {rn rc:Nat} {oa:Option Addr} {on oc:Nat} {rs os:List Int} (h:Tl w B C N p c ra rn rc oa on oc rs os) (h1:C<=C') (h2:C'<=w.heap.size):Tl w B C' N p c ra rn rc oa on oc rs os:=
 ⟨h.lo,zL h.hi h1,h2,h.box,h.own,fun k hk=>zL (h.up k hk) h1,h.ne⟩
def newS:S4:=⟨0,[0,0,0,0],[],0⟩
def rpStep (g:Nat->I5) (len:Nat) (x:E3) (S:S4):Option S4:=if doB g len S.p S.rs S.os S.c x.k x.q x.v=true then some (doS g len S.p S.rs S.os S.c x.k x.q x.v) else none
def rp (g:Nat->I5) (len:Nat) (h:Nat->E3):Nat->Option S4
 | 0=>some newS
 | k+1=>(rp g len h k).bind (rpStep g len (h k))
theorem rp_none {g:Nat->I5} {len:Nat} {h:Nat->E3} {k:Nat} (hk:rp g len h k=none):∀ d,rp g len h (k+d)=none
 | 0=>hk
 | d+1=>by
  have:=rp_none hk d
  show (rp g len h (k+d)).bind _=none
  rw [this]
  rfl
theorem rp_over {g:Nat->I5} {len:Nat} {h:Nat->E3} {k m:Nat} (hk:rp g len h k=none) (hm:k<=m):rp g len h m=none:=by
 have:=rp_none hk (m - k)
 rwa [show k+(m - k)=m by omega] at this
theorem rp_yes {g:Nat->I5} {len:Nat} {h:Nat->E3} {k:Nat} {S:S4} (hk:rp g len h k=some S) (hd:doB g len S.p S.rs S.os S.c (h k).k (h k).q (h k).v=true):rp g len h (k+1)=some (doS g len S.p S.rs S.os S.c (h k).k (h k).q (h k).v):=by
 show (rp g len h k).bind _=_
 rw [hk]
 show rpStep g len (h k) S=_
 unfold rpStep
 rw [if_pos hd]
theorem rp_no {g:Nat->I5} {len:Nat} {h:Nat->E3} {k:Nat} {S:S4} (hk:rp g len h k=some S) (hd:doB g len S.p S.rs S.os S.c (h k).k (h k).q (h k).v=false):rp g len h (k+1)=none:=by
 show (rp g len h k).bind _=_
 rw [hk]
 show rpStep g len (h k) S=_
 unfold rpStep
 rw [if_neg (by rw [hd];decide)]
def resS (o:Option S4):S4:=o.getD ⟨0,[],[],0⟩
theorem prog_len {g:Nat->I5} {len:Nat} (hp:progOkB g len 4=true):1<=len/\len<=30:=by
 simp only [progOkB,Bool.and_eq_true] at hp
 have:=hp.2.1
 simp [inB] at this
 omega
theorem newS_ok {g:Nat->I5} {len:Nat} (hp:progOkB g len 4=true):OkS len newS:=by
 have:=prog_len hp
 exact stOk_mk rfl (by simp [newS,allN,numB,inB]) (by simp [newS]) (by simp [belB,newS];omega) (by simp [newS]) rfl
theorem right_of {g:Nat->I5} {len:Nat} {S:S4} (hp:progOkB g len 4=true) (hS:OkS len S) (hc:S.c=0):rightB g len S.p S.rs S.os S.c=true:=by
 unfold OkS at hS
 rw [rightB,hp,hS,hc]
 rfl
theorem doB_code {g:Nat->I5} {len:Nat} {S:S4} {k q v:Int} (hc:S.c≠0):doB g len S.p S.rs S.os S.c k q v=false:=by
 rcases zK (doB g len S.p S.rs S.os S.c k q v) with h | h
 ·obtain ⟨-,-,h0⟩:=right_parts (doB_right h)
  exact absurd h0 hc
 ·exact h
theorem OkS.len {n:Nat} {S:S4} (h:OkS n S):S.rs.length=4/\S.os.length<=60:=by
 obtain ⟨⟨a,b,c,d,e,-⟩,-,h60,-⟩:=st_parts h
 exact ⟨by rw [e];rfl,h60⟩
