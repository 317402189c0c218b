import Derived.Test.YthgpldgkabcopaaGreatDoorYh19
import Derived.Test.YthgpldgkabcopaaGreatDoorYh18
namespace Go.Proofs.YthgpldgkabcopaaGreatDoor
set_option maxRecDepth 100000
set_option maxHeartbeats 4000000
open Go.RowKit
theorem yB {f : FuncId} {fn : Func} {c : Code} (hf : Tryz.prog.funcs[f]? = some fn) (hname : (fn.name == "runtime.NumGoroutine") = false) (hb : fn.body = some c) (args : Array Value) (w : World) :
  (callFunc f args).run Tryz.prog w=.ok (.enter f args) w:=by
 have h1 : fn.name ≠ "runtime.NumGoroutine" := by simpa using hname
 simp [callFunc,hf,h1,hb]
theorem qbe {w w':World} {B:Nat} {o1:Option Addr} {c1:Nat} {os:List Int} {p' b1 b2 b3 b4 code':Int} (hO:OwnI w B (.slice o1 os.length c1) os) (hb:Bw w w'):
  qtm w B (.slice o1 os.length c1) os p' b1 b2 b3 b4 os code' (.returned (dV p' b1 b2 b3 b4 o1 os.length c1 code')) w':=
 ⟨o1,c1,rfl,hO.below hb,hO.below hb,qay (zZ hb) _,fun _ h=>.inl h⟩
theorem qb8 {len k:Nat} {a1 a2 a3 a4:Int} {os:List Int} {jr:Nat} {v:Int} (hn:numB a1=true/\numB a2=true/\numB a3=true/\numB a4=true) (h60:os.length<=60) (hj:jr<4):
  qa4 len k a1 a2 a3 a4 os (k+1) (set4 a1 a2 a3 a4 jr v).1 (set4 a1 a2 a3 a4 jr v).2.1 (set4 a1 a2 a3 a4 jr v).2.2.1 (set4 a1 a2 a3 a4 jr v).2.2.2 os 0=if numB v=true then goS len k ([a1,a2,a3,a4].set jr v) os 0 else ⟨k,[a1,a2,a3,a4],os,2⟩:=by
 obtain ⟨n1,n2,n3,n4⟩:=hn
 have h1:qc3 ([a1,a2,a3,a4].set jr v)=numB v:=by
  match jr,hj with
  | 0,_=>simp [qc3,allN,n2,n3,n4]
  | 1,_=>simp [qc3,allN,n1,n3,n4]
  | 2,_=>simp [qc3,allN,n1,n2,n4]
  | 3,_=>simp [qc3,allN,n1,n2,n3]
 have h2:¬ (60:Int)<(os.length:Int):=by omega
 unfold qa4
 rw [qsv _ _ _ _ _ _ hj,h1]
 cases hv:numB v
 ·simp
 ·by_cases h3:(len:Int)<=(k:Int)+1
  ·have h4:belB ((k:Int)+1) len=false:=by simp [belB];omega
   simp [h2,h4,goS,goP,goC,h3]
  ·have h4:belB ((k:Int)+1) len=true:=by simp [belB];omega
   simp [h2,h4,goS,goP,goC,h3]
theorem qem {len k:Nat} {a1 a2 a3 a4:Int} {os os':List Int} (hn:numB a1=true/\numB a2=true/\numB a3=true/\numB a4=true) (h60:os'.length<=60):
  qa4 len k a1 a2 a3 a4 os (k+1) a1 a2 a3 a4 os' 0=goS len k [a1,a2,a3,a4] os' 0:=by
 obtain ⟨n1,n2,n3,n4⟩:=hn
 have h1:qc3 [a1,a2,a3,a4]=true:=by simp [qc3,allN,n1,n2,n3,n4]
 have h2:¬ (60:Int)<(os'.length:Int):=by omega
 unfold qa4
 rw [h1]
 by_cases h3:(len:Int)<=(k:Int)+1
 ·have h4:belB ((k:Int)+1) len=false:=by simp [belB];omega
  simp [h2,h4,goS,goP,goC,h3]
 ·have h4:belB ((k:Int)+1) len=true:=by simp [belB];omega
  simp [h2,h4,goS,goP,goC,h3]
theorem qmk {len k:Nat} {a1 a2 a3 a4 p' b1 b2 b3 b4 code':Int} {os os':List Int} (h60:60<os'.length):
  qa4 len k a1 a2 a3 a4 os p' b1 b2 b3 b4 os' code'=⟨k,[a1,a2,a3,a4],os,2⟩:=by
 unfold qa4
 rw [if_pos (.inr (by omega))]
theorem qgm {len k:Nat} {a1 a2 a3 a4 n code':Int} {os:List Int} (hn:numB a1=true/\numB a2=true/\numB a3=true/\numB a4=true) (h60:os.length<=60) (hb:belB n len=true):
  qa4 len k a1 a2 a3 a4 os n a1 a2 a3 a4 os code'=⟨n,[a1,a2,a3,a4],os,code'⟩:=by
 obtain ⟨n1,n2,n3,n4⟩:=hn
 have h1:qc3 [a1,a2,a3,a4]=true:=by simp [qc3,allN,n1,n2,n3,n4]
 have h2:¬ (60:Int)<(os.length:Int):=by omega
 unfold qa4
 rw [h1,hb]
 simp [h2]
theorem qww (b off len cap k:Nat) (g:Nat->I5) (ra oa:Option Addr) (rc oc:Nat) (a1 a2 a3 a4:Int) (os:List Int) (ek eq ev:Int) (w:World) (jr ja jb:Nat) (hj:(g k).r=jr/\(g k).a=ja/\(g k).b=jb) (j4:jr<4/\ja<4/\jb<4) (hn:numB a1=true/\numB a2=true/\numB a3=true/\numB a4=true) (_hz:∀ j,j<4->numB (zi [a1,a2,a3,a4] j)=true) (hl:(len:Int)<=30) (hb:b<w.heap.size) (hI:qar w b off len g) (h60:os.length<=60) (h1:Sl w ra [a1,a2,a3,a4]) (h2:Sl w oa os) (hk:k<len) (hD:canB (nxK g len k [a1,a2,a3,a4] os 0) (nxP g len k [a1,a2,a3,a4] os 0) (nxW g len k [a1,a2,a3,a4] os 0) ek eq ev=true) (ho:(g k).o=1):
  Calls Tryz.prog 140 #[.slice (some (aQ b off)) len cap,stV k ra 4 rc oa os.length oc 0,evV ek eq ev] w (qc1 w (qac len (g k) k [a1,a2,a3,a4] os 0 ev) true):=by
 obtain ⟨hjr,hja,hjb⟩:=hj
 obtain ⟨j1,j2,j3⟩:=j4
 have e:qa4 len k a1 a2 a3 a4 os (k+1) (set4 a1 a2 a3 a4 jr ((g k).n)).1 (set4 a1 a2 a3 a4 jr ((g k).n)).2.1 (set4 a1 a2 a3 a4 jr ((g k).n)).2.2.1 (set4 a1 a2 a3 a4 jr ((g k).n)).2.2.2 os 0=qac len (g k) k [a1,a2,a3,a4] os 0 ev:=by
  rw [qb8 hn h60 j1]
  simp [qac,ho,qfl,hjr]
 rw [<- e]
 refine qbk b off len cap k g ra oa rc oc a1 a2 a3 a4 os ek eq ev w 158 (yB Tryz.func158 (by kernel_rfl) rfl) (k+1) (set4 a1 a2 a3 a4 jr ((g k).n)).1 (set4 a1 a2 a3 a4 jr ((g k).n)).2.1 (set4 a1 a2 a3 a4 jr ((g k).n)).2.2.1 (set4 a1 a2 a3 a4 jr ((g k).n)).2.2.2 os 0 (by unfold maxLen;omega) hb hI h60 h1 h2 hk hD (by rw [ho];exact qur) (fun o1 c1 B wx hB hO=>?_)
 rw [hjr,hja,hjb]
 refine (qu2 _ _ _ _ _ _ _ _ _ jr ja jb _ _ _ _ _ _ (by omega) (by omega) j1).mono ?_
 rintro e w' ⟨rfl,b⟩
 exact qbe hO b
theorem qwt (b off len cap k:Nat) (g:Nat->I5) (ra oa:Option Addr) (rc oc:Nat) (a1 a2 a3 a4:Int) (os:List Int) (ek eq ev:Int) (w:World) (jr ja jb:Nat) (hj:(g k).r=jr/\(g k).a=ja/\(g k).b=jb) (j4:jr<4/\ja<4/\jb<4) (hn:numB a1=true/\numB a2=true/\numB a3=true/\numB a4=true) (_hz:∀ j,j<4->numB (zi [a1,a2,a3,a4] j)=true) (hl:(len:Int)<=30) (hb:b<w.heap.size) (hI:qar w b off len g) (h60:os.length<=60) (h1:Sl w ra [a1,a2,a3,a4]) (h2:Sl w oa os) (hk:k<len) (hD:canB (nxK g len k [a1,a2,a3,a4] os 0) (nxP g len k [a1,a2,a3,a4] os 0) (nxW g len k [a1,a2,a3,a4] os 0) ek eq ev=true) (ho:(g k).o=2):
  Calls Tryz.prog 140 #[.slice (some (aQ b off)) len cap,stV k ra 4 rc oa os.length oc 0,evV ek eq ev] w (qc1 w (qac len (g k) k [a1,a2,a3,a4] os 0 ev) true):=by
 obtain ⟨hjr,hja,hjb⟩:=hj
 obtain ⟨j1,j2,j3⟩:=j4
 have zA:=qa8.mp (_hz ja j2)
 have zB:=qa8.mp (_hz jb j3)
 have zM:=qbv (_hz ja j2) (_hz jb j3)
 have e:qa4 len k a1 a2 a3 a4 os (k+1) (set4 a1 a2 a3 a4 jr (zi [a1,a2,a3,a4] ja+zi [a1,a2,a3,a4] jb)).1 (set4 a1 a2 a3 a4 jr (zi [a1,a2,a3,a4] ja+zi [a1,a2,a3,a4] jb)).2.1 (set4 a1 a2 a3 a4 jr (zi [a1,a2,a3,a4] ja+zi [a1,a2,a3,a4] jb)).2.2.1 (set4 a1 a2 a3 a4 jr (zi [a1,a2,a3,a4] ja+zi [a1,a2,a3,a4] jb)).2.2.2 os 0=qac len (g k) k [a1,a2,a3,a4] os 0 ev:=by
  rw [qb8 hn h60 j1]
  simp [qac,ho,qfl,hjr,hja,hjb]
 rw [<- e]
 refine qbk b off len cap k g ra oa rc oc a1 a2 a3 a4 os ek eq ev w 159 (yB Tryz.func159 (by kernel_rfl) rfl) (k+1) (set4 a1 a2 a3 a4 jr (zi [a1,a2,a3,a4] ja+zi [a1,a2,a3,a4] jb)).1 (set4 a1 a2 a3 a4 jr (zi [a1,a2,a3,a4] ja+zi [a1,a2,a3,a4] jb)).2.1 (set4 a1 a2 a3 a4 jr (zi [a1,a2,a3,a4] ja+zi [a1,a2,a3,a4] jb)).2.2.1 (set4 a1 a2 a3 a4 jr (zi [a1,a2,a3,a4] ja+zi [a1,a2,a3,a4] jb)).2.2.2 os 0 (by unfold maxLen;omega) hb hI h60 h1 h2 hk hD (by rw [ho];exact qus) (fun o1 c1 B wx hB hO=>?_)
 rw [hjr,hja,hjb]
 refine (quz _ _ _ _ _ _ _ _ _ jr ja jb _ _ _ _ _ _ (by omega) (by omega) j1 j2 j3 zA.1 zA.2 zB.1 zB.2 zM.1 zM.2).mono ?_
 rintro e w' ⟨rfl,b⟩
 exact qbe hO b
theorem qwx (b off len cap k:Nat) (g:Nat->I5) (ra oa:Option Addr) (rc oc:Nat) (a1 a2 a3 a4:Int) (os:List Int) (ek eq ev:Int) (w:World) (jr ja jb:Nat) (hj:(g k).r=jr/\(g k).a=ja/\(g k).b=jb) (j4:jr<4/\ja<4/\jb<4) (hn:numB a1=true/\numB a2=true/\numB a3=true/\numB a4=true) (_hz:∀ j,j<4->numB (zi [a1,a2,a3,a4] j)=true) (hl:(len:Int)<=30) (hb:b<w.heap.size) (hI:qar w b off len g) (h60:os.length<=60) (h1:Sl w ra [a1,a2,a3,a4]) (h2:Sl w oa os) (hk:k<len) (hD:canB (nxK g len k [a1,a2,a3,a4] os 0) (nxP g len k [a1,a2,a3,a4] os 0) (nxW g len k [a1,a2,a3,a4] os 0) ek eq ev=true) (ho:(g k).o=3):
  Calls Tryz.prog 140 #[.slice (some (aQ b off)) len cap,stV k ra 4 rc oa os.length oc 0,evV ek eq ev] w (qc1 w (qac len (g k) k [a1,a2,a3,a4] os 0 ev) true):=by
 obtain ⟨hjr,hja,hjb⟩:=hj
 obtain ⟨j1,j2,j3⟩:=j4
 have zA:=qa8.mp (_hz ja j2)
 have zB:=qa8.mp (_hz jb j3)
 have zM:=qbv (_hz ja j2) (_hz jb j3)
 have e:qa4 len k a1 a2 a3 a4 os (k+1) (set4 a1 a2 a3 a4 jr (zi [a1,a2,a3,a4] ja - zi [a1,a2,a3,a4] jb)).1 (set4 a1 a2 a3 a4 jr (zi [a1,a2,a3,a4] ja - zi [a1,a2,a3,a4] jb)).2.1 (set4 a1 a2 a3 a4 jr (zi [a1,a2,a3,a4] ja - zi [a1,a2,a3,a4] jb)).2.2.1 (set4 a1 a2 a3 a4 jr (zi [a1,a2,a3,a4] ja - zi [a1,a2,a3,a4] jb)).2.2.2 os 0=qac len (g k) k [a1,a2,a3,a4] os 0 ev:=by
  rw [qb8 hn h60 j1]
  simp [qac,ho,qfl,hjr,hja,hjb]
 rw [<- e]
 refine qbk b off len cap k g ra oa rc oc a1 a2 a3 a4 os ek eq ev w 160 (yB Tryz.func160 (by kernel_rfl) rfl) (k+1) (set4 a1 a2 a3 a4 jr (zi [a1,a2,a3,a4] ja - zi [a1,a2,a3,a4] jb)).1 (set4 a1 a2 a3 a4 jr (zi [a1,a2,a3,a4] ja - zi [a1,a2,a3,a4] jb)).2.1 (set4 a1 a2 a3 a4 jr (zi [a1,a2,a3,a4] ja - zi [a1,a2,a3,a4] jb)).2.2.1 (set4 a1 a2 a3 a4 jr (zi [a1,a2,a3,a4] ja - zi [a1,a2,a3,a4] jb)).2.2.2 os 0 (by unfold maxLen;omega) hb hI h60 h1 h2 hk hD (by rw [ho];exact qut) (fun o1 c1 B wx hB hO=>?_)
 rw [hjr,hja,hjb]
 refine (qu3 _ _ _ _ _ _ _ _ _ jr ja jb _ _ _ _ _ _ (by omega) (by omega) j1 j2 j3 zA.1 zA.2 zB.1 zB.2 zM.1 zM.2).mono ?_
 rintro e w' ⟨rfl,b⟩
 exact qbe hO b
theorem qwv (b off len cap k:Nat) (g:Nat->I5) (ra oa:Option Addr) (rc oc:Nat) (a1 a2 a3 a4:Int) (os:List Int) (ek eq ev:Int) (w:World) (jr ja jb:Nat) (hj:(g k).r=jr/\(g k).a=ja/\(g k).b=jb) (j4:jr<4/\ja<4/\jb<4) (hn:numB a1=true/\numB a2=true/\numB a3=true/\numB a4=true) (_hz:∀ j,j<4->numB (zi [a1,a2,a3,a4] j)=true) (hl:(len:Int)<=30) (hb:b<w.heap.size) (hI:qar w b off len g) (h60:os.length<=60) (h1:Sl w ra [a1,a2,a3,a4]) (h2:Sl w oa os) (hk:k<len) (hD:canB (nxK g len k [a1,a2,a3,a4] os 0) (nxP g len k [a1,a2,a3,a4] os 0) (nxW g len k [a1,a2,a3,a4] os 0) ek eq ev=true) (ho:(g k).o=4):
  Calls Tryz.prog 140 #[.slice (some (aQ b off)) len cap,stV k ra 4 rc oa os.length oc 0,evV ek eq ev] w (qc1 w (qac len (g k) k [a1,a2,a3,a4] os 0 ev) true):=by
 obtain ⟨hjr,hja,hjb⟩:=hj
 obtain ⟨j1,j2,j3⟩:=j4
 have zA:=qa8.mp (_hz ja j2)
 have zB:=qa8.mp (_hz jb j3)
 have zM:=qbv (_hz ja j2) (_hz jb j3)
 have e:qa4 len k a1 a2 a3 a4 os (k+1) (set4 a1 a2 a3 a4 jr (zi [a1,a2,a3,a4] ja*zi [a1,a2,a3,a4] jb)).1 (set4 a1 a2 a3 a4 jr (zi [a1,a2,a3,a4] ja*zi [a1,a2,a3,a4] jb)).2.1 (set4 a1 a2 a3 a4 jr (zi [a1,a2,a3,a4] ja*zi [a1,a2,a3,a4] jb)).2.2.1 (set4 a1 a2 a3 a4 jr (zi [a1,a2,a3,a4] ja*zi [a1,a2,a3,a4] jb)).2.2.2 os 0=qac len (g k) k [a1,a2,a3,a4] os 0 ev:=by
  rw [qb8 hn h60 j1]
  simp [qac,ho,qfl,hjr,hja,hjb]
 rw [<- e]
 refine qbk b off len cap k g ra oa rc oc a1 a2 a3 a4 os ek eq ev w 161 (yB Tryz.func161 (by kernel_rfl) rfl) (k+1) (set4 a1 a2 a3 a4 jr (zi [a1,a2,a3,a4] ja*zi [a1,a2,a3,a4] jb)).1 (set4 a1 a2 a3 a4 jr (zi [a1,a2,a3,a4] ja*zi [a1,a2,a3,a4] jb)).2.1 (set4 a1 a2 a3 a4 jr (zi [a1,a2,a3,a4] ja*zi [a1,a2,a3,a4] jb)).2.2.1 (set4 a1 a2 a3 a4 jr (zi [a1,a2,a3,a4] ja*zi [a1,a2,a3,a4] jb)).2.2.2 os 0 (by unfold maxLen;omega) hb hI h60 h1 h2 hk hD (by rw [ho];exact quu) (fun o1 c1 B wx hB hO=>?_)
 rw [hjr,hja,hjb]
 refine (qu1 _ _ _ _ _ _ _ _ _ jr ja jb _ _ _ _ _ _ (by omega) (by omega) j1 j2 j3 zA.1 zA.2 zB.1 zB.2 zM.1 zM.2).mono ?_
 rintro e w' ⟨rfl,b⟩
 exact qbe hO b
theorem qnj (b off len cap k:Nat) (g:Nat->I5) (ra oa:Option Addr) (rc oc:Nat) (a1 a2 a3 a4:Int) (os:List Int) (ek eq ev:Int) (w:World) (jr ja jb:Nat) (hj:(g k).r=jr/\(g k).a=ja/\(g k).b=jb) (j4:jr<4/\ja<4/\jb<4) (hn:numB a1=true/\numB a2=true/\numB a3=true/\numB a4=true) (_hz:∀ j,j<4->numB (zi [a1,a2,a3,a4] j)=true) (hl:(len:Int)<=30) (hb:b<w.heap.size) (hI:qar w b off len g) (h60:os.length<=60) (h1:Sl w ra [a1,a2,a3,a4]) (h2:Sl w oa os) (hk:k<len) (hD:canB (nxK g len k [a1,a2,a3,a4] os 0) (nxP g len k [a1,a2,a3,a4] os 0) (nxW g len k [a1,a2,a3,a4] os 0) ek eq ev=true) (ho:(g k).o=5) (hlt:zi [a1,a2,a3,a4] ja<zi [a1,a2,a3,a4] jb):
  Calls Tryz.prog 140 #[.slice (some (aQ b off)) len cap,stV k ra 4 rc oa os.length oc 0,evV ek eq ev] w (qc1 w (qac len (g k) k [a1,a2,a3,a4] os 0 ev) true):=by
 obtain ⟨hjr,hja,hjb⟩:=hj
 obtain ⟨j1,j2,j3⟩:=j4
 have e:qa4 len k a1 a2 a3 a4 os (k+1) (set4 a1 a2 a3 a4 jr (1)).1 (set4 a1 a2 a3 a4 jr (1)).2.1 (set4 a1 a2 a3 a4 jr (1)).2.2.1 (set4 a1 a2 a3 a4 jr (1)).2.2.2 os 0=qac len (g k) k [a1,a2,a3,a4] os 0 ev:=by
  rw [qb8 hn h60 j1]
  simp [qac,ho,qfl,hjr,hja,hjb,hlt]
 rw [<- e]
 refine qbk b off len cap k g ra oa rc oc a1 a2 a3 a4 os ek eq ev w 162 (yB Tryz.func162 (by kernel_rfl) rfl) (k+1) (set4 a1 a2 a3 a4 jr (1)).1 (set4 a1 a2 a3 a4 jr (1)).2.1 (set4 a1 a2 a3 a4 jr (1)).2.2.1 (set4 a1 a2 a3 a4 jr (1)).2.2.2 os 0 (by unfold maxLen;omega) hb hI h60 h1 h2 hk hD (by rw [ho];exact qpq) (fun o1 c1 B wx hB hO=>?_)
 rw [hjr,hja,hjb]
 refine (qkr _ _ _ _ _ _ _ _ _ jr ja jb _ _ _ _ _ _ (by omega) (by omega) j1 j2 j3 hlt).mono ?_
 rintro e w' ⟨rfl,b⟩
 exact qbe hO b
theorem qp9 (b off len cap k:Nat) (g:Nat->I5) (ra oa:Option Addr) (rc oc:Nat) (a1 a2 a3 a4:Int) (os:List Int) (ek eq ev:Int) (w:World) (jr ja jb:Nat) (hj:(g k).r=jr/\(g k).a=ja/\(g k).b=jb) (j4:jr<4/\ja<4/\jb<4) (hn:numB a1=true/\numB a2=true/\numB a3=true/\numB a4=true) (_hz:∀ j,j<4->numB (zi [a1,a2,a3,a4] j)=true) (hl:(len:Int)<=30) (hb:b<w.heap.size) (hI:qar w b off len g) (h60:os.length<=60) (h1:Sl w ra [a1,a2,a3,a4]) (h2:Sl w oa os) (hk:k<len) (hD:canB (nxK g len k [a1,a2,a3,a4] os 0) (nxP g len k [a1,a2,a3,a4] os 0) (nxW g len k [a1,a2,a3,a4] os 0) ek eq ev=true) (ho:(g k).o=5) (hlt:¬ zi [a1,a2,a3,a4] ja<zi [a1,a2,a3,a4] jb):
  Calls Tryz.prog 140 #[.slice (some (aQ b off)) len cap,stV k ra 4 rc oa os.length oc 0,evV ek eq ev] w (qc1 w (qac len (g k) k [a1,a2,a3,a4] os 0 ev) true):=by
 obtain ⟨hjr,hja,hjb⟩:=hj
 obtain ⟨j1,j2,j3⟩:=j4
 have e:qa4 len k a1 a2 a3 a4 os (k+1) (set4 a1 a2 a3 a4 jr (0)).1 (set4 a1 a2 a3 a4 jr (0)).2.1 (set4 a1 a2 a3 a4 jr (0)).2.2.1 (set4 a1 a2 a3 a4 jr (0)).2.2.2 os 0=qac len (g k) k [a1,a2,a3,a4] os 0 ev:=by
  rw [qb8 hn h60 j1]
  simp [qac,ho,qfl,hjr,hja,hjb,hlt]
 rw [<- e]
 refine qbk b off len cap k g ra oa rc oc a1 a2 a3 a4 os ek eq ev w 162 (yB Tryz.func162 (by kernel_rfl) rfl) (k+1) (set4 a1 a2 a3 a4 jr (0)).1 (set4 a1 a2 a3 a4 jr (0)).2.1 (set4 a1 a2 a3 a4 jr (0)).2.2.1 (set4 a1 a2 a3 a4 jr (0)).2.2.2 os 0 (by unfold maxLen;omega) hb hI h60 h1 h2 hk hD (by rw [ho];exact qpq) (fun o1 c1 B wx hB hO=>?_)
 rw [hjr,hja,hjb]
 refine (qms _ _ _ _ _ _ _ _ _ jr ja jb _ _ _ _ _ _ (by omega) (by omega) j1 j2 j3 hlt).mono ?_
 rintro e w' ⟨rfl,b⟩
 exact qbe hO b
theorem qv3 (b off len cap k:Nat) (g:Nat->I5) (ra oa:Option Addr) (rc oc:Nat) (a1 a2 a3 a4:Int) (os:List Int) (ek eq ev:Int) (w:World) (jr ja jb:Nat) (hj:(g k).r=jr/\(g k).a=ja/\(g k).b=jb) (j4:jr<4/\ja<4/\jb<4) (hn:numB a1=true/\numB a2=true/\numB a3=true/\numB a4=true) (_hz:∀ j,j<4->numB (zi [a1,a2,a3,a4] j)=true) (hl:(len:Int)<=30) (hb:b<w.heap.size) (hI:qar w b off len g) (h60:os.length<=60) (h1:Sl w ra [a1,a2,a3,a4]) (h2:Sl w oa os) (hk:k<len) (hD:canB (nxK g len k [a1,a2,a3,a4] os 0) (nxP g len k [a1,a2,a3,a4] os 0) (nxW g len k [a1,a2,a3,a4] os 0) ek eq ev=true) (ho:(g k).o=6):
  Calls Tryz.prog 140 #[.slice (some (aQ b off)) len cap,stV k ra 4 rc oa os.length oc 0,evV ek eq ev] w (qc1 w (qac len (g k) k [a1,a2,a3,a4] os 0 ev) true):=by
 obtain ⟨hjr,hja,hjb⟩:=hj
 obtain ⟨j1,j2,j3⟩:=j4
 have e:qa4 len k a1 a2 a3 a4 os (k+1) a1 a2 a3 a4 os 0=qac len (g k) k [a1,a2,a3,a4] os 0 ev:=by
  rw [qem hn h60]
  simp [qac,ho]
 rw [<- e]
 refine qbk b off len cap k g ra oa rc oc a1 a2 a3 a4 os ek eq ev w 163 (yB Tryz.func163 (by kernel_rfl) rfl) (k+1) a1 a2 a3 a4 os 0 (by unfold maxLen;omega) hb hI h60 h1 h2 hk hD (by rw [ho];exact quv) (fun o1 c1 B wx hB hO=>?_)
 rw [hjr,hja,hjb]
 refine (qs1 _ _ _ _ _ _ _ _ _ jr ja jb _ _ _ _ _ _ (by omega) (by omega)).mono ?_
 rintro e w' ⟨rfl,b⟩
 exact qbe hO b
theorem qv4 (b off len cap k:Nat) (g:Nat->I5) (ra oa:Option Addr) (rc oc:Nat) (a1 a2 a3 a4:Int) (os:List Int) (ek eq ev:Int) (w:World) (jr ja jb:Nat) (hj:(g k).r=jr/\(g k).a=ja/\(g k).b=jb) (j4:jr<4/\ja<4/\jb<4) (hn:numB a1=true/\numB a2=true/\numB a3=true/\numB a4=true) (_hz:∀ j,j<4->numB (zi [a1,a2,a3,a4] j)=true) (hl:(len:Int)<=30) (hb:b<w.heap.size) (hI:qar w b off len g) (h60:os.length<=60) (h1:Sl w ra [a1,a2,a3,a4]) (h2:Sl w oa os) (hk:k<len) (hD:canB (nxK g len k [a1,a2,a3,a4] os 0) (nxP g len k [a1,a2,a3,a4] os 0) (nxW g len k [a1,a2,a3,a4] os 0) ek eq ev=true) (ho:(g k).o=7) (hv:numB ev=true):
  Calls Tryz.prog 140 #[.slice (some (aQ b off)) len cap,stV k ra 4 rc oa os.length oc 0,evV ek eq ev] w (qc1 w (qac len (g k) k [a1,a2,a3,a4] os 0 ev) true):=by
 obtain ⟨hjr,hja,hjb⟩:=hj
 obtain ⟨j1,j2,j3⟩:=j4
 have e:qa4 len k a1 a2 a3 a4 os (k+1) (set4 a1 a2 a3 a4 jr (ev)).1 (set4 a1 a2 a3 a4 jr (ev)).2.1 (set4 a1 a2 a3 a4 jr (ev)).2.2.1 (set4 a1 a2 a3 a4 jr (ev)).2.2.2 os 0=qac len (g k) k [a1,a2,a3,a4] os 0 ev:=by
  rw [qb8 hn h60 j1,if_pos hv]
  simp [qac,ho,hjr]
 rw [<- e]
 refine qbk b off len cap k g ra oa rc oc a1 a2 a3 a4 os ek eq ev w 164 (yB Tryz.func164 (by kernel_rfl) rfl) (k+1) (set4 a1 a2 a3 a4 jr (ev)).1 (set4 a1 a2 a3 a4 jr (ev)).2.1 (set4 a1 a2 a3 a4 jr (ev)).2.2.1 (set4 a1 a2 a3 a4 jr (ev)).2.2.2 os 0 (by unfold maxLen;omega) hb hI h60 h1 h2 hk hD (by rw [ho];exact quw) (fun o1 c1 B wx hB hO=>?_)
 rw [hjr,hja,hjb]
 refine (qs2 _ _ _ _ _ _ _ _ _ jr ja jb _ _ _ _ _ _ (by omega) (by omega) j1).mono ?_
 rintro e w' ⟨rfl,b⟩
 exact qbe hO b
theorem qtv (b off len cap k:Nat) (g:Nat->I5) (ra oa:Option Addr) (rc oc:Nat) (a1 a2 a3 a4:Int) (os:List Int) (ek eq ev:Int) (w:World) (jr ja jb:Nat) (hj:(g k).r=jr/\(g k).a=ja/\(g k).b=jb) (j4:jr<4/\ja<4/\jb<4) (hn:numB a1=true/\numB a2=true/\numB a3=true/\numB a4=true) (_hz:∀ j,j<4->numB (zi [a1,a2,a3,a4] j)=true) (hl:(len:Int)<=30) (hb:b<w.heap.size) (hI:qar w b off len g) (h60:os.length<=60) (h1:Sl w ra [a1,a2,a3,a4]) (h2:Sl w oa os) (hk:k<len) (hD:canB (nxK g len k [a1,a2,a3,a4] os 0) (nxP g len k [a1,a2,a3,a4] os 0) (nxW g len k [a1,a2,a3,a4] os 0) ek eq ev=true) (ho:(g k).o=8):
  Calls Tryz.prog 140 #[.slice (some (aQ b off)) len cap,stV k ra 4 rc oa os.length oc 0,evV ek eq ev] w (qc1 w (qac len (g k) k [a1,a2,a3,a4] os 0 ev) true):=by
 obtain ⟨hjr,hja,hjb⟩:=hj
 obtain ⟨j1,j2,j3⟩:=j4
 have e:qa4 len k a1 a2 a3 a4 os (k+1) a1 a2 a3 a4 (os ++ [ev]) 0=qac len (g k) k [a1,a2,a3,a4] os 0 ev:=by
  by_cases h:os.length=60
  ·rw [qmk (by simp;omega)]
   simp [qac,ho,h]
  ·rw [qem hn (by simp;omega)]
   simp [qac,ho,h]
 rw [<- e]
 refine qbk b off len cap k g ra oa rc oc a1 a2 a3 a4 os ek eq ev w 165 (yB Tryz.func165 (by kernel_rfl) rfl) (k+1) a1 a2 a3 a4 (os ++ [ev]) 0 (by unfold maxLen;omega) hb hI h60 h1 h2 hk hD (by rw [ho];exact qux) (fun o1 c1 B wx hB hO=>?_)
 rw [hjr,hja,hjb]
 refine (qq1 _ _ _ _ _ _ _ os _ jr ja jb _ _ _ _ _ B wx (by omega) (by omega) (by omega) hB hO).mono ?_
 rintro e w' ⟨oa',oc',rfl,p1,p2,p3,p4⟩
 have e1:(os ++ [ev]).length=os.length+1:=by simp
 unfold qtm
 rw [e1]
 exact ⟨oa',oc',rfl,p1,p2,p3,p4⟩
theorem qv2 (b off len cap k:Nat) (g:Nat->I5) (ra oa:Option Addr) (rc oc:Nat) (a1 a2 a3 a4:Int) (os:List Int) (ek eq ev:Int) (w:World) (jr ja jb:Nat) (hj:(g k).r=jr/\(g k).a=ja/\(g k).b=jb) (j4:jr<4/\ja<4/\jb<4) (hn:numB a1=true/\numB a2=true/\numB a3=true/\numB a4=true) (_hz:∀ j,j<4->numB (zi [a1,a2,a3,a4] j)=true) (hl:(len:Int)<=30) (hb:b<w.heap.size) (hI:qar w b off len g) (h60:os.length<=60) (h1:Sl w ra [a1,a2,a3,a4]) (h2:Sl w oa os) (hk:k<len) (hD:canB (nxK g len k [a1,a2,a3,a4] os 0) (nxP g len k [a1,a2,a3,a4] os 0) (nxW g len k [a1,a2,a3,a4] os 0) ek eq ev=true) (ho:(g k).o=9) (hb9:belB (g k).n len=true):
  Calls Tryz.prog 140 #[.slice (some (aQ b off)) len cap,stV k ra 4 rc oa os.length oc 0,evV ek eq ev] w (qc1 w (qac len (g k) k [a1,a2,a3,a4] os 0 ev) true):=by
 obtain ⟨hjr,hja,hjb⟩:=hj
 obtain ⟨j1,j2,j3⟩:=j4
 have e:qa4 len k a1 a2 a3 a4 os (g k).n a1 a2 a3 a4 os 0=qac len (g k) k [a1,a2,a3,a4] os 0 ev:=by
  rw [qgm hn h60 hb9]
  simp [qac,ho]
 rw [<- e]
 refine qbk b off len cap k g ra oa rc oc a1 a2 a3 a4 os ek eq ev w 166 (yB Tryz.func166 (by kernel_rfl) rfl) (g k).n a1 a2 a3 a4 os 0 (by unfold maxLen;omega) hb hI h60 h1 h2 hk hD (by rw [ho];exact quy) (fun o1 c1 B wx hB hO=>?_)
 rw [hjr,hja,hjb]
 refine (qmr _ _ _ _ _ _ _ _ _ jr ja jb _ _ _ _ _ _ (by omega) (by omega)).mono ?_
 rintro e w' ⟨rfl,b⟩
 exact qbe hO b
theorem qnk (b off len cap k:Nat) (g:Nat->I5) (ra oa:Option Addr) (rc oc:Nat) (a1 a2 a3 a4:Int) (os:List Int) (ek eq ev:Int) (w:World) (jr ja jb:Nat) (hj:(g k).r=jr/\(g k).a=ja/\(g k).b=jb) (j4:jr<4/\ja<4/\jb<4) (hn:numB a1=true/\numB a2=true/\numB a3=true/\numB a4=true) (_hz:∀ j,j<4->numB (zi [a1,a2,a3,a4] j)=true) (hl:(len:Int)<=30) (hb:b<w.heap.size) (hI:qar w b off len g) (h60:os.length<=60) (h1:Sl w ra [a1,a2,a3,a4]) (h2:Sl w oa os) (hk:k<len) (hD:canB (nxK g len k [a1,a2,a3,a4] os 0) (nxP g len k [a1,a2,a3,a4] os 0) (nxW g len k [a1,a2,a3,a4] os 0) ek eq ev=true) (ho:(g k).o=10) (hb9:belB (g k).n len=true) (hz0:zi [a1,a2,a3,a4] ja=0):
  Calls Tryz.prog 140 #[.slice (some (aQ b off)) len cap,stV k ra 4 rc oa os.length oc 0,evV ek eq ev] w (qc1 w (qac len (g k) k [a1,a2,a3,a4] os 0 ev) true):=by
 obtain ⟨hjr,hja,hjb⟩:=hj
 obtain ⟨j1,j2,j3⟩:=j4
 have e:qa4 len k a1 a2 a3 a4 os (g k).n a1 a2 a3 a4 os 0=qac len (g k) k [a1,a2,a3,a4] os 0 ev:=by
  rw [qgm hn h60 hb9]
  simp [qac,ho,hja,hz0]
 rw [<- e]
 refine qbk b off len cap k g ra oa rc oc a1 a2 a3 a4 os ek eq ev w 167 (yB Tryz.func167 (by kernel_rfl) rfl) (g k).n a1 a2 a3 a4 os 0 (by unfold maxLen;omega) hb hI h60 h1 h2 hk hD (by rw [ho];exact qmq) (fun o1 c1 B wx hB hO=>?_)
 rw [hjr,hja,hjb]
 refine (qks _ _ _ _ _ _ _ _ _ jr ja jb _ _ _ _ _ _ (by omega) (by omega) j2 (by simp [hz0])).mono ?_
 rintro e w' ⟨rfl,b⟩
 exact qbe hO b
theorem qqa (b off len cap k:Nat) (g:Nat->I5) (ra oa:Option Addr) (rc oc:Nat) (a1 a2 a3 a4:Int) (os:List Int) (ek eq ev:Int) (w:World) (jr ja jb:Nat) (hj:(g k).r=jr/\(g k).a=ja/\(g k).b=jb) (j4:jr<4/\ja<4/\jb<4) (hn:numB a1=true/\numB a2=true/\numB a3=true/\numB a4=true) (_hz:∀ j,j<4->numB (zi [a1,a2,a3,a4] j)=true) (hl:(len:Int)<=30) (hb:b<w.heap.size) (hI:qar w b off len g) (h60:os.length<=60) (h1:Sl w ra [a1,a2,a3,a4]) (h2:Sl w oa os) (hk:k<len) (hD:canB (nxK g len k [a1,a2,a3,a4] os 0) (nxP g len k [a1,a2,a3,a4] os 0) (nxW g len k [a1,a2,a3,a4] os 0) ek eq ev=true) (ho:(g k).o=10) (hz0:¬ zi [a1,a2,a3,a4] ja=0):
  Calls Tryz.prog 140 #[.slice (some (aQ b off)) len cap,stV k ra 4 rc oa os.length oc 0,evV ek eq ev] w (qc1 w (qac len (g k) k [a1,a2,a3,a4] os 0 ev) true):=by
 obtain ⟨hjr,hja,hjb⟩:=hj
 obtain ⟨j1,j2,j3⟩:=j4
 have e:qa4 len k a1 a2 a3 a4 os (k+1) a1 a2 a3 a4 os 0=qac len (g k) k [a1,a2,a3,a4] os 0 ev:=by
  rw [qem hn h60]
  simp [qac,ho,hja,hz0]
 rw [<- e]
 refine qbk b off len cap k g ra oa rc oc a1 a2 a3 a4 os ek eq ev w 167 (yB Tryz.func167 (by kernel_rfl) rfl) (k+1) a1 a2 a3 a4 os 0 (by unfold maxLen;omega) hb hI h60 h1 h2 hk hD (by rw [ho];exact qmq) (fun o1 c1 B wx hB hO=>?_)
 rw [hjr,hja,hjb]
 refine (qmt _ _ _ _ _ _ _ _ _ jr ja jb _ _ _ _ _ _ (by omega) (by omega) j2 (by simpa using hz0)).mono ?_
 rintro e w' ⟨rfl,b⟩
 exact qbe hO b
theorem qwu (b off len cap k:Nat) (g:Nat->I5) (ra oa:Option Addr) (rc oc:Nat) (a1 a2 a3 a4:Int) (os:List Int) (ek eq ev:Int) (w:World) (jr ja jb:Nat) (hj:(g k).r=jr/\(g k).a=ja/\(g k).b=jb) (j4:jr<4/\ja<4/\jb<4) (hn:numB a1=true/\numB a2=true/\numB a3=true/\numB a4=true) (_hz:∀ j,j<4->numB (zi [a1,a2,a3,a4] j)=true) (hl:(len:Int)<=30) (hb:b<w.heap.size) (hI:qar w b off len g) (h60:os.length<=60) (h1:Sl w ra [a1,a2,a3,a4]) (h2:Sl w oa os) (hk:k<len) (hD:canB (nxK g len k [a1,a2,a3,a4] os 0) (nxP g len k [a1,a2,a3,a4] os 0) (nxW g len k [a1,a2,a3,a4] os 0) ek eq ev=true) (ho:(g k).o=11):
  Calls Tryz.prog 140 #[.slice (some (aQ b off)) len cap,stV k ra 4 rc oa os.length oc 0,evV ek eq ev] w (qc1 w (qac len (g k) k [a1,a2,a3,a4] os 0 ev) true):=by
 obtain ⟨hjr,hja,hjb⟩:=hj
 obtain ⟨j1,j2,j3⟩:=j4
 have e:qa4 len k a1 a2 a3 a4 os k a1 a2 a3 a4 os 1=qac len (g k) k [a1,a2,a3,a4] os 0 ev:=by
  rw [qgm hn h60 (by simp [belB];omega)]
  simp [qac,ho]
 rw [<- e]
 refine qbk b off len cap k g ra oa rc oc a1 a2 a3 a4 os ek eq ev w 168 (yB Tryz.func168 (by kernel_rfl) rfl) k a1 a2 a3 a4 os 1 (by unfold maxLen;omega) hb hI h60 h1 h2 hk hD (by rw [ho];exact qs0) (fun o1 c1 B wx hB hO=>?_)
 rw [hjr,hja,hjb]
 refine (qu0 _ _ _ _ _ _ _ _ _ jr ja jb _ _ _ _ _ _ (by omega) (by omega)).mono ?_
 rintro e w' ⟨rfl,b⟩
 exact qbe hO b
theorem qj0 {x:I5} {len:Nat} (h:qak x.o x.r x.a x.b x.n len 4=true) (h9:x.o=9\/x.o=10):belB x.n len=true:=by
 simp only [qak,Bool.and_eq_true] at h
 have h5:=h.2
 unfold qbj at h5
 rcases h9 with h9 | h9 <;> (rw [h9] at h5;simp [belB] at h5 ⊢;omega)
theorem qtu (b off len cap:Nat) (g:Nat->I5) (p code:Int) (ra oa:Option Addr) (rc oc:Nat) (rs os:List Int) (ek eq ev:Int) (w:World) (hlen:len<=maxLen) (hb:b<w.heap.size) (hI:qar w b off len g) (hr:rs.length<=1048576) (ho:os.length<=1048576) (h1:Sl w ra rs) (h2:Sl w oa os) (hP:qab g len 4=true):
  Calls Tryz.prog 140 #[.slice (some (aQ b off)) len cap,stV p ra rs.length rc oa os.length oc code,evV ek eq ev] w (qc1 w (doS g len p rs os code ek eq ev) (doB g len p rs os code ek eq ev)):=by
 rcases zK (doB g len p rs os code ek eq ev) with hB | hB
 case inr=>
  have hS:doS g len p rs os code ek eq ev=⟨p,rs,os,code⟩:=by
   unfold doS
   rw [if_neg (by rw [hB];decide)]
  rw [hB,hS]
  exact qv1 b off len cap g p code ra oa rc oc rs os ek eq ev w hlen hb hI hr ho h1 h2 hB hP
 have hR:=qdi hB
 obtain ⟨hp,hs,rfl⟩:=qbd hR
 obtain ⟨⟨a1,a2,a3,a4,rfl,n1,n2,n3,n4⟩,⟨k,rfl,hk⟩,h60,-⟩:=qb3 hs
 have hS:doS g len k [a1,a2,a3,a4] os 0 ek eq ev=qac len (g k) k [a1,a2,a3,a4] os 0 ev:=by
  unfold doS
  rw [if_pos hB,Int.toNat_natCast]
 rw [hB,hS]
 have hl:(len:Int)<=30:=by
  simp only [qab,Bool.and_eq_true] at hp
  have:=hp.2.1
  simp [inB] at this
  omega
 have hins:=qby hp hk
 obtain ⟨⟨o1,o11⟩,⟨r0,r3⟩,⟨m0,m3⟩,⟨q0,q3⟩⟩:=qcf hins
 have hn:numB a1=true/\numB a2=true/\numB a3=true/\numB a4=true:=⟨n1,n2,n3,n4⟩
 have hz:∀ j,j<4->numB (zi [a1,a2,a3,a4] j)=true:=fun j hj=>by
  match j,hj with
  | 0,_=>exact n1
  | 1,_=>exact n2
  | 2,_=>exact n3
  | 3,_=>exact n4
 have hj:(g k).r=((g k).r.toNat:Int)/\(g k).a=((g k).a.toNat:Int)/\(g k).b=((g k).b.toNat:Int):=⟨by omega,by omega,by omega⟩
 have j4:(g k).r.toNat<4/\(g k).a.toNat<4/\(g k).b.toNat<4:=⟨by omega,by omega,by omega⟩
 rcases qfa (g k).o with h | h | h | h | h | h | h | h | h | h | h | h
 ·omega
 ·exact qww b off len cap k g ra oa rc oc a1 a2 a3 a4 os ek eq ev w _ _ _ hj j4 hn hz hl hb hI h60 h1 h2 hk hB h
 ·exact qwt b off len cap k g ra oa rc oc a1 a2 a3 a4 os ek eq ev w _ _ _ hj j4 hn hz hl hb hI h60 h1 h2 hk hB h
 ·exact qwx b off len cap k g ra oa rc oc a1 a2 a3 a4 os ek eq ev w _ _ _ hj j4 hn hz hl hb hI h60 h1 h2 hk hB h
 ·exact qwv b off len cap k g ra oa rc oc a1 a2 a3 a4 os ek eq ev w _ _ _ hj j4 hn hz hl hb hI h60 h1 h2 hk hB h
 ·by_cases hlt:zi [a1,a2,a3,a4] (g k).a.toNat<zi [a1,a2,a3,a4] (g k).b.toNat
  ·exact qnj b off len cap k g ra oa rc oc a1 a2 a3 a4 os ek eq ev w _ _ _ hj j4 hn hz hl hb hI h60 h1 h2 hk hB h hlt
  ·exact qp9 b off len cap k g ra oa rc oc a1 a2 a3 a4 os ek eq ev w _ _ _ hj j4 hn hz hl hb hI h60 h1 h2 hk hB h hlt
 ·exact qv3 b off len cap k g ra oa rc oc a1 a2 a3 a4 os ek eq ev w _ _ _ hj j4 hn hz hl hb hI h60 h1 h2 hk hB h
 ·have hv:numB ev=true:=by
   have hc:=hB
   unfold doB nxK at hc
   rw [if_pos hR,Int.toNat_natCast,h,show evK 7=3 from rfl,qho] at hc
   simp only [Bool.and_eq_true] at hc
   exact hc.1.2
  exact qv4 b off len cap k g ra oa rc oc a1 a2 a3 a4 os ek eq ev w _ _ _ hj j4 hn hz hl hb hI h60 h1 h2 hk hB h hv
 ·exact qtv b off len cap k g ra oa rc oc a1 a2 a3 a4 os ek eq ev w _ _ _ hj j4 hn hz hl hb hI h60 h1 h2 hk hB h
 ·exact qv2 b off len cap k g ra oa rc oc a1 a2 a3 a4 os ek eq ev w _ _ _ hj j4 hn hz hl hb hI h60 h1 h2 hk hB h (qj0 hins (.inl h))
 ·by_cases hz0:zi [a1,a2,a3,a4] (g k).a.toNat=0
  ·exact qnk b off len cap k g ra oa rc oc a1 a2 a3 a4 os ek eq ev w _ _ _ hj j4 hn hz hl hb hI h60 h1 h2 hk hB h (qj0 hins (.inr h)) hz0
  ·exact qqa b off len cap k g ra oa rc oc a1 a2 a3 a4 os ek eq ev w _ _ _ hj j4 hn hz hl hb hI h60 h1 h2 hk hB h hz0
 ·exact qwu b off len cap k g ra oa rc oc a1 a2 a3 a4 os ek eq ev w _ _ _ hj j4 hn hz hl hb hI h60 h1 h2 hk hB h
theorem qeo {n:Nat} {p code:Int} {rs os:List Int} (h1:rs.length=4) (h2:allN rs=true) (h3:0<=code/\code<=2) (h4:belB p n=true) (h5:os.length<=60) (h6:allN os=true):qc4 n p rs os code=true:=by
 have e:inB code 0 2=true:=by simp [inB];omega
 have e5:((os.length:Int)<=60):=by omega
 simp [qc4,qc3,outB,h1,h2,e,h4,e5,h6]
theorem qot {xs:List Int} {j:Nat} {v:Int} (h:allN xs=true) (hv:numB v=true):allN (xs.set j v)=true:=by
 unfold allN at h ⊢
 rw [List.all_eq_true] at h ⊢
 intro x hx
 rcases List.mem_or_eq_of_mem_set hx with h1 | h1
 ·exact h x h1
 ·rw [h1];exact hv
def OkS (len:Nat) (S:S4):Prop:=qc4 len S.p S.rs S.os S.c=true
theorem ql2 {len k:Nat} {rs os:List Int} (hk:k<len) (h1:rs.length=4) (h2:allN rs=true) (h5:os.length<=60) (h6:allN os=true):OkS len (goS len k rs os 0):=by
 unfold OkS goS goP goC
 by_cases h:(len:Int)<=(k:Int)+1
 ·simp only [h,if_true]
  exact qeo h1 h2 (by omega) (by simp [belB];omega) h5 h6
 ·simp only [h,if_false]
  exact qeo h1 h2 (by omega) (by simp [belB];omega) h5 h6
theorem qow {g:Nat->I5} {len:Nat} {p:Int} {rs os:List Int} {code ek eq ev:Int} (hB:doB g len p rs os code ek eq ev=true):OkS len (doS g len p rs os code ek eq ev):=by
 have hR:=qdi hB
 obtain ⟨hp,hs,rfl⟩:=qbd hR
 obtain ⟨⟨a1,a2,a3,a4,rfl,n1,n2,n3,n4⟩,⟨k,rfl,hk⟩,h60,hN⟩:=qb3 hs
 have hS:doS g len k [a1,a2,a3,a4] os 0 ek eq ev=qac len (g k) k [a1,a2,a3,a4] os 0 ev:=by
  unfold doS
  rw [if_pos hB,Int.toNat_natCast]
 rw [hS]
 have hins:=qby hp hk
 obtain ⟨⟨o1,o11⟩,⟨r0,r3⟩,⟨m0,m3⟩,⟨q0,q3⟩⟩:=qcf hins
 have hA:allN [a1,a2,a3,a4]=true:=by simp [allN,n1,n2,n3,n4]
 have hz:∀ j,j<4->numB (zi [a1,a2,a3,a4] j)=true:=fun j hj=>by
  match j,hj with
  | 0,_=>exact n1
  | 1,_=>exact n2
  | 2,_=>exact n3
  | 3,_=>exact n4
 have hkB:belB (k:Int) len=true:=by simp [belB];omega
 have hc:=hB
 unfold doB nxK nxP nxW at hc
 rw [if_pos hR,if_pos hR,if_pos hR,Int.toNat_natCast] at hc
 have v7:(g k).o=7->numB ev=true:=fun h=>by
  rw [h,show evK 7=3 from rfl,qho] at hc
  simp only [Bool.and_eq_true] at hc
  exact hc.1.2
 have v8:(g k).o=8->numB ev=true:=fun h=>by
  rw [h,show evK 8=4 from rfl,qew (by decide) (by decide)] at hc
  unfold qc2 at hc
  simp only [Bool.and_eq_true,beq_iff_eq] at hc
  rw [hc.2.2]
  exact hz _ (by omega)
 unfold qac
 split
 ·exact ql2 hk rfl hA h60 hN
 split
 ·rename_i h7
  exact ql2 hk (by simp) (qot hA (v7 h7)) h60 hN
 split
 ·rename_i h8
  split
  ·exact qeo rfl hA (by simp) hkB h60 hN
  ·refine ql2 hk rfl hA (by simp;omega) ?_
   unfold allN at hN ⊢
   rw [List.all_append,hN]
   simp [v8 h8]
 split
 ·rename_i h9
  exact qeo rfl hA (by simp) (qj0 hins (.inl h9)) h60 hN
 split
 ·rename_i h10
  split
  ·exact qeo rfl hA (by simp) (qj0 hins (.inr h10)) h60 hN
  ·exact ql2 hk rfl hA h60 hN
 split
 ·exact qeo rfl hA (by simp) hkB h60 hN
 split
 ·rename_i hv
  exact ql2 hk (by simp) (qot hA hv) h60 hN
 ·exact qeo rfl hA (by simp) hkB h60 hN
def newS:S4:=⟨0,[0,0,0,0],[],0⟩
def qe5 (g:Nat->I5) (len:Nat) (x:E3) (S:S4):Option S4:=if doB g len S.p S.rs S.os S.c x.k x.q x.v=true then some (doS g len S.p S.rs S.os S.c x.k x.q x.v) else none
def rp (g:Nat->I5) (len:Nat) (h:Nat->E3):Nat->Option S4
 | 0=>some newS
 | k+1=>(rp g len h k).bind (qe5 g len (h k))
theorem qsp {g:Nat->I5} {len:Nat} {h:Nat->E3} {k:Nat} (hk:rp g len h k=none):∀ d,rp g len h (k+d)=none
 | 0=>hk
 | d+1=>by
  have:=qsp hk d
  show (rp g len h (k+d)).bind _=none
  rw [this]
  rfl
theorem qgl {g:Nat->I5} {len:Nat} {h:Nat->E3} {k m:Nat} (hk:rp g len h k=none) (hm:k<=m):rp g len h m=none:=by
 have:=qsp hk (m - k)
 rwa [show k+(m - k)=m by omega] at this
theorem qsq {g:Nat->I5} {len:Nat} {h:Nat->E3} {k:Nat} {S:S4} (hk:rp g len h k=some S) (hd:doB g len S.p S.rs S.os S.c (h k).k (h k).q (h k).v=true):rp g len h (k+1)=some (doS g len S.p S.rs S.os S.c (h k).k (h k).q (h k).v):=by
 show (rp g len h k).bind _=_
 rw [hk]
 show qe5 g len (h k) S=_
 unfold qe5
 rw [if_pos hd]
theorem qum {g:Nat->I5} {len:Nat} {h:Nat->E3} {k:Nat} {S:S4} (hk:rp g len h k=some S) (hd:doB g len S.p S.rs S.os S.c (h k).k (h k).q (h k).v=false):rp g len h (k+1)=none:=by
 show (rp g len h k).bind _=_
 rw [hk]
 show qe5 g len (h k) S=_
 unfold qe5
 rw [if_neg (by rw [hd];decide)]
def resS (o:Option S4):S4:=o.getD ⟨0,[],[],0⟩
theorem qke {g:Nat->I5} {len:Nat} (hp:qab g len 4=true):1<=len/\len<=30:=by
 simp only [qab,Bool.and_eq_true] at hp
 have:=hp.2.1
 simp [inB] at this
 omega
theorem qj9 {g:Nat->I5} {len:Nat} (hp:qab g len 4=true):OkS len newS:=by
 have:=qke hp
 exact qeo rfl (by simp [newS,allN,numB,inB]) (by simp [newS]) (by simp [belB,newS];omega) (by simp [newS]) rfl
theorem qpm {g:Nat->I5} {len:Nat} {S:S4} (hp:qab g len 4=true) (hS:OkS len S) (hc:S.c=0):qbx g len S.p S.rs S.os S.c=true:=by
 unfold OkS at hS
 rw [qbx,hp,hS,hc]
 rfl
theorem qts {g:Nat->I5} {len:Nat} {S:S4} {k q v:Int} (hc:S.c≠0):doB g len S.p S.rs S.os S.c k q v=false:=by
 rcases zK (doB g len S.p S.rs S.os S.c k q v) with h | h
 ·obtain ⟨-,-,h0⟩:=qbd (qdi h)
  exact absurd h0 hc
 ·exact h
theorem OkS.len {n:Nat} {S:S4} (h:OkS n S):S.rs.length=4/\S.os.length<=60:=by
 obtain ⟨⟨a,b,c,d,e,-⟩,-,h60,-⟩:=qb3 h
 exact ⟨by rw [e];rfl,h60⟩
open Go.Sort
structure Rl (w wr:World) (R Bs:Nat) (p code:Int) (ra:Option Addr) (rc:Nat) (oa:Option Addr) (oc:Nat) (rs os:List Int):Prop where
 tl:Tl wr (R+1) wr.heap.size Bs p code ra rs.length rc oa os.length oc rs os
 fz:∀ j,wr.frozen? ⟨Bs,j,none⟩=false
 rb:BoxC wr R (.int .i64 0) (.slice none 0 0) (.slice none 0 0) (.int .i64 0)
 rf:∀ j,wr.frozen? ⟨R,j,none⟩=false
 be:Bw w wr
 hR:R=w.heap.size
theorem Rl.below {w wr w':World} {R Bs:Nat} {p code:Int} {ra:Option Addr} {rc:Nat} {oa:Option Addr} {oc:Nat} {rs os:List Int} (h:Rl w wr R Bs p code ra rc oa oc rs os) (hb:Bw wr w'):Rl w w' R Bs p code ra rc oa oc rs os:=by
 have zB:Bs<wr.heap.size:=h.tl.hi
 have zR:R<wr.heap.size:=zJ wr _ h.rb.1
 exact ⟨(h.tl.below hb).widen hb.size (Nat.le_refl _),fun j=>(zI (hb.block Bs zB)).trans (h.fz j),h.rb.below hb,fun j=>(zI (hb.block R zR)).trans (h.rf j),h.be.trans (hb.mono h.be.size),h.hR⟩
theorem Rl.next {w w9:World} {R Bs:Nat} {p code:Int} {ra:Option Addr} {rc:Nat} {oa:Option Addr} {oc:Nat} {rs os:List Int} (h:Rl w w9 R Bs p code ra rc oa oc rs os) {B7:Nat} {S:S4} {ra7 oa7:Option Addr} {rc7 oc7:Nat} (o9:qag w9 B7 (stV S.p ra7 S.rs.length rc7 oa7 S.os.length oc7 S.c) S.p S.rs S.os S.c) (hB:Bs<B7):Rl w ((((w9.setCell (aQ Bs 0) (.int .i64 S.p)).setCell (aQ Bs 1) (.slice ra7 S.rs.length rc7)).setCell (aQ Bs 2) (.slice oa7 S.os.length oc7)).setCell (aQ Bs 3) (.int .i64 S.c)) R Bs S.p S.c ra7 rc7 oa7 oc7 S.rs S.os:=by
 have hlo:=h.tl.lo
 have hhi:=h.tl.hi
 have hR:=h.hR
 have gz:=qvh w9 Bs (.int .i64 S.p) (.slice ra7 S.rs.length rc7) (.slice oa7 S.os.length oc7) (.int .i64 S.c)
 have zR:R<w9.heap.size:=zJ w9 _ h.rb.1
 have eR:=gz.block R zR (by simp;omega)
 obtain ⟨r0,r1,r2,r3⟩:=h.rb
 have ht:Tl ((((w9.setCell (aQ Bs 0) (.int .i64 S.p)).setCell (aQ Bs 1) (.slice ra7 S.rs.length rc7)).setCell (aQ Bs 2) (.slice oa7 S.os.length oc7)).setCell (aQ Bs 3) (.int .i64 S.c)) (R+1) w9.heap.size Bs S.p S.c ra7 S.rs.length rc7 oa7 S.os.length oc7 S.rs S.os:=by
  refine ⟨hlo,hhi,by simp,h.tl.box.set4 _ _ _ _,o9.put4 hB (by omega),fun j hj=>(o9.lt hj).2,fun hj=>?_⟩
  have:=(o9.lt hj).1
  omega
 have hbe:Below w.heap.size w9 ((((w9.setCell (aQ Bs 0) (.int .i64 S.p)).setCell (aQ Bs 1) (.slice ra7 S.rs.length rc7)).setCell (aQ Bs 2) (.slice oa7 S.os.length oc7)).setCell (aQ Bs 3) (.int .i64 S.c)):=⟨gz.os,gz.tape,gz.output,gz.size,fun k hk=>gz.block k (zL hk h.be.size) (by simp;omega)⟩
 have hfz:∀ j,((((w9.setCell ⟨Bs,0,none⟩ (.int .i64 S.p)).setCell ⟨Bs,1,none⟩ (.slice ra7 S.rs.length rc7)).setCell ⟨Bs,2,none⟩ (.slice oa7 S.os.length oc7)).setCell ⟨Bs,3,none⟩ (.int .i64 S.c)).frozen? ⟨Bs,j,none⟩=false:=fun j=>by
  rw [World.frozen?_setCell,World.frozen?_setCell,World.frozen?_setCell,World.frozen?_setCell]
  exact h.fz j
 have hrf:∀ j,((((w9.setCell ⟨Bs,0,none⟩ (.int .i64 S.p)).setCell ⟨Bs,1,none⟩ (.slice ra7 S.rs.length rc7)).setCell ⟨Bs,2,none⟩ (.slice oa7 S.os.length oc7)).setCell ⟨Bs,3,none⟩ (.int .i64 S.c)).frozen? ⟨R,j,none⟩=false:=fun j=>by
  rw [World.frozen?_setCell,World.frozen?_setCell,World.frozen?_setCell,World.frozen?_setCell]
  exact h.rf j
 have hgs:=gz.size
 have hrb:BoxC ((((w9.setCell (aQ Bs 0) (.int .i64 S.p)).setCell (aQ Bs 1) (.slice ra7 S.rs.length rc7)).setCell (aQ Bs 2) (.slice oa7 S.os.length oc7)).setCell (aQ Bs 3) (.int .i64 S.c)) R (.int .i64 0) (.slice none 0 0) (.slice none 0 0) (.int .i64 0):=⟨(zH eR).trans r0,(zH eR).trans r1,(zH eR).trans r2,(zH eR).trans r3⟩
 have hbe2:=h.be.trans hbe
 generalize (((w9.setCell (aQ Bs 0) (.int .i64 S.p)).setCell (aQ Bs 1) (.slice ra7 S.rs.length rc7)).setCell (aQ Bs 2) (.slice oa7 S.os.length oc7)).setCell (aQ Bs 3) (.int .i64 S.c)=wz at *
 exact ⟨ht.widen hgs (Nat.le_refl _),hfz,hrb,hrf,hbe2,hR⟩
theorem Rl.done {w wr:World} {R Bs:Nat} {p code:Int} {ra:Option Addr} {rc:Nat} {oa:Option Addr} {oc:Nat} {rs os:List Int} (h:Rl w wr R Bs p code ra rc oa oc rs os) (a b c d:Value):Bw w ((((wr.setCell (aQ R 0) a).setCell (aQ R 1) b).setCell (aQ R 2) c).setCell (aQ R 3) d)/\qag ((((wr.setCell (aQ R 0) a).setCell (aQ R 1) b).setCell (aQ R 2) c).setCell (aQ R 3) d) w.heap.size (stV p ra rs.length rc oa os.length oc code) p rs os code:=by
 have hR:=h.hR
 have gz:=qvh wr R a b c d
 exact ⟨h.be.trans ⟨gz.os,gz.tape,gz.output,gz.size,fun k hk=>gz.block k (zL hk h.be.size) (by simp;omega)⟩,h.tl.own.put4 (Nat.lt_succ_self _) (by omega)⟩
theorem qag.nil (w:World) (B:Nat):qag w B (stV 0 none 0 0 none 0 0 0) 0 [] [] 0:=⟨_,_,rfl,World.ownsRow_nil _ _ _ _,World.ownsRow_nil _ _ _ _,fun k e=>by cases e⟩
theorem qql (gb n gc:Nat) (ea:Option Addr) (m ec:Nat) (g:Nat->I5) (eh:Nat->E3) (w:World) (hg:gb<w.heap.size) (hI:qar w gb 0 n g) (hE:EvL w ea m eh) (hm:m<=1048576) (hp:qab g n 4=true):
  Calls Tryz.prog 83 #[.slice (some (aQ gb 0)) n gc,.slice ea m ec] w (qc1 w (resS (rp g n eh m)) (rp g n eh m).isSome):=by
 have HI:Hid (qar w gb 0 n g):=hI
 have HE:Hid (EvL w ea m eh):=hE
 have HP:Hid (qab g n 4=true):=hp
 have hm':(m:Int)<=1048576:=by omega
 clear hI hE hp
 go_enter Tryz.func83,Tryz.ntmps83
 go_wp2_with fail
 refine (qea _).mono ?_
 rintro e w2 ⟨v2,rfl,o2,b2⟩
 obtain ⟨ra2,rc2,oa2,oc2,rfl,-,-⟩:=o2.read
 have bA:=zT w (zQ0)
 have bB:=zT w2 (oQ1 0 ra2 4 rc2 oa2 0 oc2 0)
 have D2:Hid (Rl w (w2.alloc (oQ1 0 ra2 4 rc2 oa2 0 oc2 0)) w.heap.size w2.heap.size 0 0 ra2 rc2 oa2 oc2 [0,0,0,0] []):=by
  have bC:Below (w.heap.size+1) (w.alloc (zQ0)) (w2.alloc (oQ1 0 ra2 4 rc2 oa2 0 oc2 0)):=by
   have h:=b2.trans (bB.mono b2.size)
   rw [World.size_alloc] at h
   exact h
  have z2:w.heap.size+1<=w2.heap.size:=by have:=b2.size;simp at this;exact this
  have eR:=bC.block w.heap.size (by omega)
  have o2':qag w2 (w.heap.size+1) (stV 0 ra2 4 rc2 oa2 0 oc2 0) 0 [0,0,0,0] [] 0:=by
   have h:=o2
   rw [World.size_alloc] at h
   exact h
  obtain ⟨r0,r1,r2,r3⟩:=BoxC.new w (.int .i64 0) (.slice none 0 0) (.slice none 0 0) (.int .i64 0) 55
  refine ⟨(Tl.of_alloc o2' z2 _).widen (by simp) (Nat.le_refl _),fun j=>yD _ _ _ j rfl,⟨(zH eR).trans r0,(zH eR).trans r1,(zH eR).trans r2,(zH eR).trans r3⟩,fun j=>(zI eR).trans (yD _ _ _ j rfl),bA.trans (bC.mono (by omega)),rfl⟩
 clear o2 b2 bA bB
 go_wp2_with fail
 generalize w2.alloc (oQ1 0 ra2 4 rc2 oa2 0 oc2 0)=w3 at *
 generalize w2.heap.size=Bs at *
 go_loopw [7] (fun i wr=>∃ k:Nat,k<=m/\i=.int .i64 k/\Hid (∃ S ra rc oa oc,rp g n eh k=some S/\OkS n S/\Rl w wr w.heap.size Bs S.p S.c ra rc oa oc S.rs S.os)) (fun i _=>m - (intOf i).toNat)
 case atStart=>exact ⟨0,Nat.zero_le _,rfl,newS,_,_,_,_,rfl,qj9 HP.out,D2.out⟩
 case round=>
  clear D2
  obtain ⟨k,hk,rfl,HD⟩:=hrel
  obtain ⟨S0,ra,rc,oa,oc,hrp,hok,hD⟩:=HD.out
  obtain ⟨p,rs,os,code⟩:=S0
  dsimp only at hD
  have DR:Hid (Rl w wr w.heap.size Bs p code ra rc oa oc rs os):=hD
  have HRP:Hid (rp g n eh k=some ⟨p,rs,os,code⟩/\OkS n ⟨p,rs,os,code⟩):=⟨hrp,hok⟩
  clear HD hD hrp hok
  obtain ⟨c0,c1,c2,c3⟩:=DR.out.tl.box
  obtain ⟨r0,r1,r2,r3⟩:=DR.out.rb
  have rf:=DR.out.rf
  have cf:=DR.out.fz
  have dR:Bs≠w.heap.size:=by have:=DR.out.tl.lo;omega
  have dR':w.heap.size≠Bs:=fun e=>dR e.symm
  have zB:Bs<wr.heap.size:=DR.out.tl.hi
  have zR:w.heap.size<wr.heap.size:=by have:=DR.out.tl.lo;omega
  by_cases hlt:k<m
  ·have hlt':(k:Int)<(m:Int):=by omega
   rcases zK (code != 0) with tc | tc
   ·have HZ:Hid (rp g n eh m=none):=qgl (qum HRP.out.1 (qts (S:=⟨p,rs,os,code⟩) (by simpa using tc))) (by omega)
    go_wp2_with fail
    refine bodyPost_ret (v:=.tuple #[stV 0 none 0 0 none 0 0 0,.bool false]) (by simp [results,Tryz.results83,go_sem,r0,r1,r2,r3]) rfl ?_
    rw [HZ.out]
    exact ⟨_,rfl,qag.nil _ _,(DR.out.done _ _ _ _).1⟩
   ·have hc0:code=0:=by simpa using tc
    subst hc0
    have hright:=qpm (S:=⟨p,rs,os,0⟩) HP.out HRP.out.2 rfl
    dsimp only at hright
    obtain ⟨-,⟨pk,hpk,hpn⟩,-,-⟩:=qb3 (qbd hright).2.1
    subst hpk
    have HRT:Hid (qbx g n (pk:Int) rs os 0=true):=hright
    have hSok:doB g n pk rs os 0 (eh k).k (eh k).q (eh k).v=true->OkS n (doS g n pk rs os 0 (eh k).k (eh k).q (eh k).v):=qow
    have hyes:=qsq (S:=⟨pk,rs,os,0⟩) HRP.out.1
    have hnot:=qum (S:=⟨pk,rs,os,0⟩) HRP.out.1
    dsimp only at hyes hnot
    generalize hS:doS g n pk rs os 0 (eh k).k (eh k).q (eh k).v=S at hSok hyes
    generalize hT:doB g n pk rs os 0 (eh k).k (eh k).q (eh k).v=T at hSok hyes hnot
    have HN:Hid (doS g n pk rs os 0 (eh k).k (eh k).q (eh k).v=S/\doB g n pk rs os 0 (eh k).k (eh k).q (eh k).v=T):=⟨hS,hT⟩
    have HY:Hid ((T=true->rp g n eh (k+1)=some S/\OkS n S)/\(T=false->rp g n eh (k+1)=none)):=⟨fun h=>⟨hyes h,hSok h⟩,hnot⟩
    clear hS hT hSok hyes hnot hright
    obtain ⟨eb,eo,rfl,ze,k0,k1,k2⟩:=(HE.out.below DR.out.be).at hlt
    have HEA:Hid (EvAt wr eb eo m eh/\eb<wr.heap.size):=(HE.out.below DR.out.be).one hlt
    have d1:wr.heap.size≠Bs:=by omega
    have d2:wr.heap.size≠eb:=by omega
    go_wp2_with fail
    go_cut [8,9] from 21 to 30 (fun s t wx=>∃ M:Nat,s=.pointer (some (aQ M 0))/\t=.bool T/\Hid (Bw wr wx/\Told wx wr.heap.size M S))
    case first=>
     go_region_held3 (fun w'=>w'.cell? (aQ Bs 0)=some (.int .i64 pk)/\w'.cell? (aQ Bs 1)=some (.slice ra rs.length rc)/\w'.cell? (aQ Bs 2)=some (.slice oa os.length oc)/\w'.cell? (aQ Bs 3)=some (.int .i64 0)/\w'.cell? ⟨eb,eo+k*3,none⟩=some (.int .i64 (eh k).k)/\w'.cell? ⟨eb,eo+k*3+1,none⟩=some (.int .i64 (eh k).q)/\w'.cell? ⟨eb,eo+k*3+2,none⟩=some (.int .i64 (eh k).v)) (go_keep)
      (first
       | (go_at_call 112;refine (qo7 gb 0 n gc pk g ra oa rc oc rs os (eh k).k (eh k).q (eh k).v _ (zL hg (DR.out.below (by go_grown)).be.size) (HI.out.below (DR.out.below (by go_grown)).be hg) (DR.out.below (by go_grown)).tl.sl.1 (DR.out.below (by go_grown)).tl.sl.2 HRT.out).mono ?_;rintro e w5 hd;rw [HN.out.1,HN.out.2] at hd;obtain ⟨v5,rfl,o5,b5⟩:=hd;obtain ⟨ra5,rc5,oa5,oc5,rfl,-,-⟩:=o5.read;have q5:Bw wr w5:=qam (by go_grown) b5 (by simp);obtain ⟨y0,y1,y2,y3⟩:=(DR.out.below q5).tl.box;obtain ⟨y4,y5,y6⟩:=HEA.out.1.below q5 HEA.out.2 k hlt;(try simp only [World.size_alloc,World.size_drew] at o5);have O5:Hid (qag w5 _ (stV S.p ra5 S.rs.length rc5 oa5 S.os.length oc5 S.c) S.p S.rs S.os S.c):=o5;obtain ⟨hc5,hf5⟩:=qai b5;have z5:=b5.size;(try simp only [World.size_alloc,World.size_drew,Nat.add_one_le_iff] at z5);have j5:wr.heap.size<=w5.heap.size:=q5.size;have Q5:Hid (Bw wr w5):=q5;clear o5 b5 q5))
     all_goals
      go_wp2_with fail
      go_meet
      case rel=>
       first
       | (refine ⟨w5.heap.size, by with_reducible rfl, rfl, ?_⟩
          exact ⟨Q5.out.trans ((zT _ _).mono j5),Told.of_alloc O5.out (by omega) (by omega) _⟩)
       | (refine ⟨wr.heap.size, by with_reducible rfl, rfl, ?_⟩
          exact ⟨(((Q5.out.setCell (Nat.le_refl _) _).setCell (Nat.le_refl _) _).setCell (Nat.le_refl _) _).setCell (Nat.le_refl _) _,Told.of_put (z0:=.int .i64 0) (z1:=.slice none 0 0) (z2:=.slice none 0 0) (z3:=.int .i64 0) O5.out (by omega) (by omega) (by omega) ⟨by rw [hc5 _ _ (by simp)];simp,by rw [hc5 _ _ (by simp)];simp,by rw [hc5 _ _ (by simp)];simp,by rw [hc5 _ _ (by simp)];simp⟩⟩)
    case rest=>
     obtain ⟨M,rfl,rfl,HM⟩:=hcut
     have bG:=HM.out.1
     obtain ⟨ra5,rc5,oa5,oc5,TG⟩:=HM.out.2.tl
     have D6:Hid (Rl w wc w.heap.size Bs pk 0 ra rc oa oc rs os):=DR.out.below bG
     have O6:Hid (qag wc wr.heap.size (stV S.p ra5 S.rs.length rc5 oa5 S.os.length oc5 S.c) S.p S.rs S.os S.c):=TG.own
     have zM:=TG.lo
     clear c0 c1 c2 c3 r0 r1 r2 r3 rf cf k0 k1 k2 HM bG
     obtain ⟨c0,c1,c2,c3⟩:=D6.out.tl.box
     obtain ⟨r0,r1,r2,r3⟩:=D6.out.rb
     obtain ⟨n0,n1,n2,n3⟩:=TG.box
     have rf:=D6.out.rf
     have cf:=D6.out.fz
     have dN:M≠Bs:=by omega
     have dN':Bs≠M:=by omega
     have dM:M≠w.heap.size:=by omega
     clear TG
     cases T
     case false=>
      have HZ:Hid (rp g n eh m=none):=qgl (HY.out.2 rfl) (by omega)
      go_wp2_with fail
      refine bodyPost_ret (v:=.tuple #[stV 0 none 0 0 none 0 0 0,.bool false]) (by simp [results,Tryz.results83,go_sem,r0,r1,r2,r3]) rfl ?_
      rw [HZ.out]
      exact ⟨_,rfl,qag.nil _ _,(D6.out.done _ _ _ _).1⟩
     case true=>
      have HW:Hid (rp g n eh (k+1)=some S/\OkS n S):=HY.out.1 rfl
      go_wp2
      go_roundw
      case rel=>exact ⟨k+1,by omega,by go_num,S,_,_,_,_,HW.out.1,HW.out.2,D6.out.next O6.out zB⟩
      case measure=>simp [intOf];omega
  ·have hkm:k=m:=by omega
   have HZ:Hid (rp g n eh m=some ⟨p,rs,os,code⟩):=by
    have:=HRP.out.1
    rw [hkm] at this
    exact this
   go_wp2_with fail
   refine bodyPost_ret (v:=.tuple #[stV p ra rs.length rc oa os.length oc code,.bool true]) (by simp [results,Tryz.results83,go_sem,r0,r1,r2,r3]) rfl ?_
   rw [HZ.out]
   exact ⟨_,rfl,(DR.out.done _ _ _ _).2,(DR.out.done _ _ _ _).1⟩
