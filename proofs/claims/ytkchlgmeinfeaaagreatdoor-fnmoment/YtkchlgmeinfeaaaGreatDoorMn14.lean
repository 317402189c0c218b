import Derived.Test.YtkchlgmeinfeaaaGreatDoorMn12
import Derived.Test.YtkchlgmeinfeaaaGreatDoorMn10
namespace Go.Proofs.YtkchlgmeinfeaaaGreatDoor
open Go.Proofs.Tryz
set_option maxRecDepth 100000
set_option maxHeartbeats 4000000
open Go.RowKit
theorem yB {f : FuncId} {fn : Func} {c : Code} (hf : prog.funcs[f]? = some fn) (hname : (fn.name == "runtime.NumGoroutine") = false:=by kernel_rfl) (hb:fn.body=some c:=by rfl) (args : Array Value) (w : World) :
  (callFunc f args).run prog w=.ok (.enter f args) w:=by
 have h1 : fn.name ≠ "runtime.NumGoroutine" := by simpa using hname
 simp [callFunc,hf,h1,hb]
theorem qbc {w w':World} {B:Nat} {o1:Option Addr} {c1:Nat} {os:List Int} {p' b1 b2 b3 b4 code':Int} (hO:OwnI w B (.slice o1 os.length c1) os) (hb:Bw w w'):
  qss w B (.slice o1 os.length c1) os p' b1 b2 b3 b4 os code' (.returned (dV p' b1 b2 b3 b4 o1 os.length c1 code')) w':=
 ⟨o1,c1,rfl,hO.bw hb,hO.bw hb,qay (zZ hb) _,fun _ h=>.inl h⟩
theorem qca {len k:Nat} {a1 a2 a3 a4:Int} {os:List Int} {jr:Nat} {v:Int} (hn:numB a1=true/\numB a2=true/\numB a3=true/\numB a4=true) (h60:os.length<=60) (hj:jr<4):
  qa2 len k a1 a2 a3 a4 os (k+1) (set4 a1 a2 a3 a4 jr v).1 (set4 a1 a2 a3 a4 jr v).2.1 (set4 a1 a2 a3 a4 jr v).2.2.1 (set4 a1 a2 a3 a4 jr v).2.2.2 os 0=if numB v=true then goS len k ([a1,a2,a3,a4].set jr v) os 0 else ⟨k,[a1,a2,a3,a4],os,2⟩:=by
 obtain ⟨n1,n2,n3,n4⟩:=hn
 have h1:qc0 ([a1,a2,a3,a4].set jr v)=numB v:=by
  match jr,hj with
  | 0,_=>simp [qc0,allN,n2,n3,n4]
  | 1,_=>simp [qc0,allN,n1,n3,n4]
  | 2,_=>simp [qc0,allN,n1,n2,n4]
  | 3,_=>simp [qc0,allN,n1,n2,n3]
 have h2:¬ (60:Int)<(os.length:Int):=by omega
 unfold qa2;rw [qr5 _ _ _ _ _ _ hj,h1];cases hv:numB v
 ·simp
 ·by_cases h3:(len:Int)<=(k:Int)+1
  ·have h4:belB ((k:Int)+1) len=false:=by simp [belB];omega
   simp [h2,h4,goS,goP,goC,h3]
  ·have h4:belB ((k:Int)+1) len=true:=by simp [belB];omega
   simp [h2,h4,goS,goP,goC,h3]
theorem qeh {len k:Nat} {a1 a2 a3 a4:Int} {os os':List Int} (hn:numB a1=true/\numB a2=true/\numB a3=true/\numB a4=true) (h60:os'.length<=60):
  qa2 len k a1 a2 a3 a4 os (k+1) a1 a2 a3 a4 os' 0=goS len k [a1,a2,a3,a4] os' 0:=by
 obtain ⟨n1,n2,n3,n4⟩:=hn;have h1:qc0 [a1,a2,a3,a4]=true:=by simp [qc0,allN,n1,n2,n3,n4]
 have h2:¬ (60:Int)<(os'.length:Int):=by omega
 unfold qa2;rw [h1];by_cases h3:(len:Int)<=(k:Int)+1
 ·have h4:belB ((k:Int)+1) len=false:=by simp [belB];omega
  simp [h2,h4,goS,goP,goC,h3]
 ·have h4:belB ((k:Int)+1) len=true:=by simp [belB];omega
  simp [h2,h4,goS,goP,goC,h3]
theorem qlp {len k:Nat} {a1 a2 a3 a4 p' b1 b2 b3 b4 code':Int} {os os':List Int} (h60:60<os'.length):
  qa2 len k a1 a2 a3 a4 os p' b1 b2 b3 b4 os' code'=⟨k,[a1,a2,a3,a4],os,2⟩:=by
 unfold qa2;rw [nC (.inr (by omega))]
theorem qgg {len k:Nat} {a1 a2 a3 a4 n code':Int} {os:List Int} (hn:numB a1=true/\numB a2=true/\numB a3=true/\numB a4=true) (h60:os.length<=60) (hb:belB n len=true):
  qa2 len k a1 a2 a3 a4 os n a1 a2 a3 a4 os code'=⟨n,[a1,a2,a3,a4],os,code'⟩:=by
 obtain ⟨n1,n2,n3,n4⟩:=hn;have h1:qc0 [a1,a2,a3,a4]=true:=by simp [qc0,allN,n1,n2,n3,n4]
 have h2:¬ (60:Int)<(os.length:Int):=by omega
 unfold qa2;rw [h1,hb];simp [h2]
theorem qwm (b off len cap k:Nat) (g:Nat->I5) (ra oa:Option Addr) (rc oc:Nat) (a1 a2 a3 a4:Int) (os:List Int) (ek eq ev:Int) (w:World) (jr ja jb:Nat) (hj:(g k).r=jr/\(g k).a=ja/\(g k).b=jb) (j4:jr<4/\ja<4/\jb<4) (hn:numB a1=true/\numB a2=true/\numB a3=true/\numB a4=true) (_hz:∀ j,j<4->numB (zi [a1,a2,a3,a4] j)=true) (hl:(len:Int)<=30) (hb:b<w.heap.size) (hI:qan w b off len g) (h60:os.length<=60) (h1:Sl w ra [a1,a2,a3,a4]) (h2:Sl w oa os) (hk:k<len) (hD:canB (nxK g len k [a1,a2,a3,a4] os 0) (nxP g len k [a1,a2,a3,a4] os 0) (nxW g len k [a1,a2,a3,a4] os 0) ek eq ev=true) (ho:(g k).o=1):
  Calls prog 81 #[.slice (some (aQ b off)) len cap,stV k ra 4 rc oa os.length oc 0,evV ek eq ev] w (qcy w (qad len (g k) k [a1,a2,a3,a4] os 0 ev) true):=by
 obtain ⟨hjr,hja,hjb⟩:=hj;obtain ⟨j1,j2,j3⟩:=j4
 have e:qa2 len k a1 a2 a3 a4 os (k+1) (set4 a1 a2 a3 a4 jr ((g k).n)).1 (set4 a1 a2 a3 a4 jr ((g k).n)).2.1 (set4 a1 a2 a3 a4 jr ((g k).n)).2.2.1 (set4 a1 a2 a3 a4 jr ((g k).n)).2.2.2 os 0=qad len (g k) k [a1,a2,a3,a4] os 0 ev:=by
  rw [qca hn h60 j1];simp [qad,ho,qff,hjr]
 rw [<- e];refine qbk b off len cap k g ra oa rc oc a1 a2 a3 a4 os ek eq ev w 147 (yB func147) (k+1) (set4 a1 a2 a3 a4 jr ((g k).n)).1 (set4 a1 a2 a3 a4 jr ((g k).n)).2.1 (set4 a1 a2 a3 a4 jr ((g k).n)).2.2.1 (set4 a1 a2 a3 a4 jr ((g k).n)).2.2.2 os 0 (by unfold maxLen;omega) hb hI h60 h1 h2 hk hD (by rw [ho];exact qt7) (fun o1 c1 B wx hB hO=>?_);rw [hjr,hja,hjb];refine (qui _ _ _ _ _ _ _ _ _ jr ja jb _ _ _ _ _ _ (by omega) (by omega) j1).mono ?_;rintro e w' ⟨rfl,b⟩;exact qbc hO b
theorem qwj (b off len cap k:Nat) (g:Nat->I5) (ra oa:Option Addr) (rc oc:Nat) (a1 a2 a3 a4:Int) (os:List Int) (ek eq ev:Int) (w:World) (jr ja jb:Nat) (hj:(g k).r=jr/\(g k).a=ja/\(g k).b=jb) (j4:jr<4/\ja<4/\jb<4) (hn:numB a1=true/\numB a2=true/\numB a3=true/\numB a4=true) (_hz:∀ j,j<4->numB (zi [a1,a2,a3,a4] j)=true) (hl:(len:Int)<=30) (hb:b<w.heap.size) (hI:qan w b off len g) (h60:os.length<=60) (h1:Sl w ra [a1,a2,a3,a4]) (h2:Sl w oa os) (hk:k<len) (hD:canB (nxK g len k [a1,a2,a3,a4] os 0) (nxP g len k [a1,a2,a3,a4] os 0) (nxW g len k [a1,a2,a3,a4] os 0) ek eq ev=true) (ho:(g k).o=2):
  Calls prog 81 #[.slice (some (aQ b off)) len cap,stV k ra 4 rc oa os.length oc 0,evV ek eq ev] w (qcy w (qad len (g k) k [a1,a2,a3,a4] os 0 ev) true):=by
 obtain ⟨hjr,hja,hjb⟩:=hj;obtain ⟨j1,j2,j3⟩:=j4;have zA:=qa8.mp (_hz ja j2);have zB:=qa8.mp (_hz jb j3);have zM:=qby (_hz ja j2) (_hz jb j3)
 have e:qa2 len k a1 a2 a3 a4 os (k+1) (set4 a1 a2 a3 a4 jr (zi [a1,a2,a3,a4] ja+zi [a1,a2,a3,a4] jb)).1 (set4 a1 a2 a3 a4 jr (zi [a1,a2,a3,a4] ja+zi [a1,a2,a3,a4] jb)).2.1 (set4 a1 a2 a3 a4 jr (zi [a1,a2,a3,a4] ja+zi [a1,a2,a3,a4] jb)).2.2.1 (set4 a1 a2 a3 a4 jr (zi [a1,a2,a3,a4] ja+zi [a1,a2,a3,a4] jb)).2.2.2 os 0=qad len (g k) k [a1,a2,a3,a4] os 0 ev:=by
  rw [qca hn h60 j1];simp [qad,ho,qff,hjr,hja,hjb]
 rw [<- e];refine qbk b off len cap k g ra oa rc oc a1 a2 a3 a4 os ek eq ev w 148 (yB func148) (k+1) (set4 a1 a2 a3 a4 jr (zi [a1,a2,a3,a4] ja+zi [a1,a2,a3,a4] jb)).1 (set4 a1 a2 a3 a4 jr (zi [a1,a2,a3,a4] ja+zi [a1,a2,a3,a4] jb)).2.1 (set4 a1 a2 a3 a4 jr (zi [a1,a2,a3,a4] ja+zi [a1,a2,a3,a4] jb)).2.2.1 (set4 a1 a2 a3 a4 jr (zi [a1,a2,a3,a4] ja+zi [a1,a2,a3,a4] jb)).2.2.2 os 0 (by unfold maxLen;omega) hb hI h60 h1 h2 hk hD (by rw [ho];exact qt8) (fun o1 c1 B wx hB hO=>?_);rw [hjr,hja,hjb];refine (quf _ _ _ _ _ _ _ _ _ jr ja jb _ _ _ _ _ _ (by omega) (by omega) j1 j2 j3 zA.1 zA.2 zB.1 zB.2 zM.1 zM.2).mono ?_;rintro e w' ⟨rfl,b⟩;exact qbc hO b
theorem qwn (b off len cap k:Nat) (g:Nat->I5) (ra oa:Option Addr) (rc oc:Nat) (a1 a2 a3 a4:Int) (os:List Int) (ek eq ev:Int) (w:World) (jr ja jb:Nat) (hj:(g k).r=jr/\(g k).a=ja/\(g k).b=jb) (j4:jr<4/\ja<4/\jb<4) (hn:numB a1=true/\numB a2=true/\numB a3=true/\numB a4=true) (_hz:∀ j,j<4->numB (zi [a1,a2,a3,a4] j)=true) (hl:(len:Int)<=30) (hb:b<w.heap.size) (hI:qan w b off len g) (h60:os.length<=60) (h1:Sl w ra [a1,a2,a3,a4]) (h2:Sl w oa os) (hk:k<len) (hD:canB (nxK g len k [a1,a2,a3,a4] os 0) (nxP g len k [a1,a2,a3,a4] os 0) (nxW g len k [a1,a2,a3,a4] os 0) ek eq ev=true) (ho:(g k).o=3):
  Calls prog 81 #[.slice (some (aQ b off)) len cap,stV k ra 4 rc oa os.length oc 0,evV ek eq ev] w (qcy w (qad len (g k) k [a1,a2,a3,a4] os 0 ev) true):=by
 obtain ⟨hjr,hja,hjb⟩:=hj;obtain ⟨j1,j2,j3⟩:=j4;have zA:=qa8.mp (_hz ja j2);have zB:=qa8.mp (_hz jb j3);have zM:=qby (_hz ja j2) (_hz jb j3)
 have e:qa2 len k a1 a2 a3 a4 os (k+1) (set4 a1 a2 a3 a4 jr (zi [a1,a2,a3,a4] ja - zi [a1,a2,a3,a4] jb)).1 (set4 a1 a2 a3 a4 jr (zi [a1,a2,a3,a4] ja - zi [a1,a2,a3,a4] jb)).2.1 (set4 a1 a2 a3 a4 jr (zi [a1,a2,a3,a4] ja - zi [a1,a2,a3,a4] jb)).2.2.1 (set4 a1 a2 a3 a4 jr (zi [a1,a2,a3,a4] ja - zi [a1,a2,a3,a4] jb)).2.2.2 os 0=qad len (g k) k [a1,a2,a3,a4] os 0 ev:=by
  rw [qca hn h60 j1];simp [qad,ho,qff,hjr,hja,hjb]
 rw [<- e];refine qbk b off len cap k g ra oa rc oc a1 a2 a3 a4 os ek eq ev w 149 (yB func149) (k+1) (set4 a1 a2 a3 a4 jr (zi [a1,a2,a3,a4] ja - zi [a1,a2,a3,a4] jb)).1 (set4 a1 a2 a3 a4 jr (zi [a1,a2,a3,a4] ja - zi [a1,a2,a3,a4] jb)).2.1 (set4 a1 a2 a3 a4 jr (zi [a1,a2,a3,a4] ja - zi [a1,a2,a3,a4] jb)).2.2.1 (set4 a1 a2 a3 a4 jr (zi [a1,a2,a3,a4] ja - zi [a1,a2,a3,a4] jb)).2.2.2 os 0 (by unfold maxLen;omega) hb hI h60 h1 h2 hk hD (by rw [ho];exact qt9) (fun o1 c1 B wx hB hO=>?_);rw [hjr,hja,hjb];refine (quj _ _ _ _ _ _ _ _ _ jr ja jb _ _ _ _ _ _ (by omega) (by omega) j1 j2 j3 zA.1 zA.2 zB.1 zB.2 zM.1 zM.2).mono ?_;rintro e w' ⟨rfl,b⟩;exact qbc hO b
theorem qwl (b off len cap k:Nat) (g:Nat->I5) (ra oa:Option Addr) (rc oc:Nat) (a1 a2 a3 a4:Int) (os:List Int) (ek eq ev:Int) (w:World) (jr ja jb:Nat) (hj:(g k).r=jr/\(g k).a=ja/\(g k).b=jb) (j4:jr<4/\ja<4/\jb<4) (hn:numB a1=true/\numB a2=true/\numB a3=true/\numB a4=true) (_hz:∀ j,j<4->numB (zi [a1,a2,a3,a4] j)=true) (hl:(len:Int)<=30) (hb:b<w.heap.size) (hI:qan w b off len g) (h60:os.length<=60) (h1:Sl w ra [a1,a2,a3,a4]) (h2:Sl w oa os) (hk:k<len) (hD:canB (nxK g len k [a1,a2,a3,a4] os 0) (nxP g len k [a1,a2,a3,a4] os 0) (nxW g len k [a1,a2,a3,a4] os 0) ek eq ev=true) (ho:(g k).o=4):
  Calls prog 81 #[.slice (some (aQ b off)) len cap,stV k ra 4 rc oa os.length oc 0,evV ek eq ev] w (qcy w (qad len (g k) k [a1,a2,a3,a4] os 0 ev) true):=by
 obtain ⟨hjr,hja,hjb⟩:=hj;obtain ⟨j1,j2,j3⟩:=j4;have zA:=qa8.mp (_hz ja j2);have zB:=qa8.mp (_hz jb j3);have zM:=qby (_hz ja j2) (_hz jb j3)
 have e:qa2 len k a1 a2 a3 a4 os (k+1) (set4 a1 a2 a3 a4 jr (zi [a1,a2,a3,a4] ja*zi [a1,a2,a3,a4] jb)).1 (set4 a1 a2 a3 a4 jr (zi [a1,a2,a3,a4] ja*zi [a1,a2,a3,a4] jb)).2.1 (set4 a1 a2 a3 a4 jr (zi [a1,a2,a3,a4] ja*zi [a1,a2,a3,a4] jb)).2.2.1 (set4 a1 a2 a3 a4 jr (zi [a1,a2,a3,a4] ja*zi [a1,a2,a3,a4] jb)).2.2.2 os 0=qad len (g k) k [a1,a2,a3,a4] os 0 ev:=by
  rw [qca hn h60 j1];simp [qad,ho,qff,hjr,hja,hjb]
 rw [<- e];refine qbk b off len cap k g ra oa rc oc a1 a2 a3 a4 os ek eq ev w 150 (yB func150) (k+1) (set4 a1 a2 a3 a4 jr (zi [a1,a2,a3,a4] ja*zi [a1,a2,a3,a4] jb)).1 (set4 a1 a2 a3 a4 jr (zi [a1,a2,a3,a4] ja*zi [a1,a2,a3,a4] jb)).2.1 (set4 a1 a2 a3 a4 jr (zi [a1,a2,a3,a4] ja*zi [a1,a2,a3,a4] jb)).2.2.1 (set4 a1 a2 a3 a4 jr (zi [a1,a2,a3,a4] ja*zi [a1,a2,a3,a4] jb)).2.2.2 os 0 (by unfold maxLen;omega) hb hI h60 h1 h2 hk hD (by rw [ho];exact qua) (fun o1 c1 B wx hB hO=>?_);rw [hjr,hja,hjb];refine (quh _ _ _ _ _ _ _ _ _ jr ja jb _ _ _ _ _ _ (by omega) (by omega) j1 j2 j3 zA.1 zA.2 zB.1 zB.2 zM.1 zM.2).mono ?_;rintro e w' ⟨rfl,b⟩;exact qbc hO b
theorem qmj (b off len cap k:Nat) (g:Nat->I5) (ra oa:Option Addr) (rc oc:Nat) (a1 a2 a3 a4:Int) (os:List Int) (ek eq ev:Int) (w:World) (jr ja jb:Nat) (hj:(g k).r=jr/\(g k).a=ja/\(g k).b=jb) (j4:jr<4/\ja<4/\jb<4) (hn:numB a1=true/\numB a2=true/\numB a3=true/\numB a4=true) (_hz:∀ j,j<4->numB (zi [a1,a2,a3,a4] j)=true) (hl:(len:Int)<=30) (hb:b<w.heap.size) (hI:qan w b off len g) (h60:os.length<=60) (h1:Sl w ra [a1,a2,a3,a4]) (h2:Sl w oa os) (hk:k<len) (hD:canB (nxK g len k [a1,a2,a3,a4] os 0) (nxP g len k [a1,a2,a3,a4] os 0) (nxW g len k [a1,a2,a3,a4] os 0) ek eq ev=true) (ho:(g k).o=5) (hlt:zi [a1,a2,a3,a4] ja<zi [a1,a2,a3,a4] jb):
  Calls prog 81 #[.slice (some (aQ b off)) len cap,stV k ra 4 rc oa os.length oc 0,evV ek eq ev] w (qcy w (qad len (g k) k [a1,a2,a3,a4] os 0 ev) true):=by
 obtain ⟨hjr,hja,hjb⟩:=hj;obtain ⟨j1,j2,j3⟩:=j4
 have e:qa2 len k a1 a2 a3 a4 os (k+1) (set4 a1 a2 a3 a4 jr (1)).1 (set4 a1 a2 a3 a4 jr (1)).2.1 (set4 a1 a2 a3 a4 jr (1)).2.2.1 (set4 a1 a2 a3 a4 jr (1)).2.2.2 os 0=qad len (g k) k [a1,a2,a3,a4] os 0 ev:=by
  rw [qca hn h60 j1];simp [qad,ho,qff,hjr,hja,hjb,hlt]
 rw [<- e];refine qbk b off len cap k g ra oa rc oc a1 a2 a3 a4 os ek eq ev w 151 (yB func151) (k+1) (set4 a1 a2 a3 a4 jr (1)).1 (set4 a1 a2 a3 a4 jr (1)).2.1 (set4 a1 a2 a3 a4 jr (1)).2.2.1 (set4 a1 a2 a3 a4 jr (1)).2.2.2 os 0 (by unfold maxLen;omega) hb hI h60 h1 h2 hk hD (by rw [ho];exact qoo) (fun o1 c1 B wx hB hO=>?_);rw [hjr,hja,hjb];refine (qj7 _ _ _ _ _ _ _ _ _ jr ja jb _ _ _ _ _ _ (by omega) (by omega) j1 j2 j3 hlt).mono ?_;rintro e w' ⟨rfl,b⟩;exact qbc hO b
theorem qo1 (b off len cap k:Nat) (g:Nat->I5) (ra oa:Option Addr) (rc oc:Nat) (a1 a2 a3 a4:Int) (os:List Int) (ek eq ev:Int) (w:World) (jr ja jb:Nat) (hj:(g k).r=jr/\(g k).a=ja/\(g k).b=jb) (j4:jr<4/\ja<4/\jb<4) (hn:numB a1=true/\numB a2=true/\numB a3=true/\numB a4=true) (_hz:∀ j,j<4->numB (zi [a1,a2,a3,a4] j)=true) (hl:(len:Int)<=30) (hb:b<w.heap.size) (hI:qan w b off len g) (h60:os.length<=60) (h1:Sl w ra [a1,a2,a3,a4]) (h2:Sl w oa os) (hk:k<len) (hD:canB (nxK g len k [a1,a2,a3,a4] os 0) (nxP g len k [a1,a2,a3,a4] os 0) (nxW g len k [a1,a2,a3,a4] os 0) ek eq ev=true) (ho:(g k).o=5) (hlt:¬ zi [a1,a2,a3,a4] ja<zi [a1,a2,a3,a4] jb):
  Calls prog 81 #[.slice (some (aQ b off)) len cap,stV k ra 4 rc oa os.length oc 0,evV ek eq ev] w (qcy w (qad len (g k) k [a1,a2,a3,a4] os 0 ev) true):=by
 obtain ⟨hjr,hja,hjb⟩:=hj;obtain ⟨j1,j2,j3⟩:=j4
 have e:qa2 len k a1 a2 a3 a4 os (k+1) (set4 a1 a2 a3 a4 jr (0)).1 (set4 a1 a2 a3 a4 jr (0)).2.1 (set4 a1 a2 a3 a4 jr (0)).2.2.1 (set4 a1 a2 a3 a4 jr (0)).2.2.2 os 0=qad len (g k) k [a1,a2,a3,a4] os 0 ev:=by
  rw [qca hn h60 j1];simp [qad,ho,qff,hjr,hja,hjb,hlt]
 rw [<- e];refine qbk b off len cap k g ra oa rc oc a1 a2 a3 a4 os ek eq ev w 151 (yB func151) (k+1) (set4 a1 a2 a3 a4 jr (0)).1 (set4 a1 a2 a3 a4 jr (0)).2.1 (set4 a1 a2 a3 a4 jr (0)).2.2.1 (set4 a1 a2 a3 a4 jr (0)).2.2.2 os 0 (by unfold maxLen;omega) hb hI h60 h1 h2 hk hD (by rw [ho];exact qoo) (fun o1 c1 B wx hB hO=>?_);rw [hjr,hja,hjb];refine (qly _ _ _ _ _ _ _ _ _ jr ja jb _ _ _ _ _ _ (by omega) (by omega) j1 j2 j3 hlt).mono ?_;rintro e w' ⟨rfl,b⟩;exact qbc hO b
theorem qvk (b off len cap k:Nat) (g:Nat->I5) (ra oa:Option Addr) (rc oc:Nat) (a1 a2 a3 a4:Int) (os:List Int) (ek eq ev:Int) (w:World) (jr ja jb:Nat) (hj:(g k).r=jr/\(g k).a=ja/\(g k).b=jb) (j4:jr<4/\ja<4/\jb<4) (hn:numB a1=true/\numB a2=true/\numB a3=true/\numB a4=true) (_hz:∀ j,j<4->numB (zi [a1,a2,a3,a4] j)=true) (hl:(len:Int)<=30) (hb:b<w.heap.size) (hI:qan w b off len g) (h60:os.length<=60) (h1:Sl w ra [a1,a2,a3,a4]) (h2:Sl w oa os) (hk:k<len) (hD:canB (nxK g len k [a1,a2,a3,a4] os 0) (nxP g len k [a1,a2,a3,a4] os 0) (nxW g len k [a1,a2,a3,a4] os 0) ek eq ev=true) (ho:(g k).o=6):
  Calls prog 81 #[.slice (some (aQ b off)) len cap,stV k ra 4 rc oa os.length oc 0,evV ek eq ev] w (qcy w (qad len (g k) k [a1,a2,a3,a4] os 0 ev) true):=by
 obtain ⟨hjr,hja,hjb⟩:=hj;obtain ⟨j1,j2,j3⟩:=j4
 have e:qa2 len k a1 a2 a3 a4 os (k+1) a1 a2 a3 a4 os 0=qad len (g k) k [a1,a2,a3,a4] os 0 ev:=by
  rw [qeh hn h60];simp [qad,ho]
 rw [<- e];refine qbk b off len cap k g ra oa rc oc a1 a2 a3 a4 os ek eq ev w 152 (yB func152) (k+1) a1 a2 a3 a4 os 0 (by unfold maxLen;omega) hb hI h60 h1 h2 hk hD (by rw [ho];exact qub) (fun o1 c1 B wx hB hO=>?_);rw [hjr,hja,hjb];refine (qsc _ _ _ _ _ _ _ _ _ jr ja jb _ _ _ _ _ _ (by omega) (by omega)).mono ?_;rintro e w' ⟨rfl,b⟩;exact qbc hO b
theorem qvl (b off len cap k:Nat) (g:Nat->I5) (ra oa:Option Addr) (rc oc:Nat) (a1 a2 a3 a4:Int) (os:List Int) (ek eq ev:Int) (w:World) (jr ja jb:Nat) (hj:(g k).r=jr/\(g k).a=ja/\(g k).b=jb) (j4:jr<4/\ja<4/\jb<4) (hn:numB a1=true/\numB a2=true/\numB a3=true/\numB a4=true) (_hz:∀ j,j<4->numB (zi [a1,a2,a3,a4] j)=true) (hl:(len:Int)<=30) (hb:b<w.heap.size) (hI:qan w b off len g) (h60:os.length<=60) (h1:Sl w ra [a1,a2,a3,a4]) (h2:Sl w oa os) (hk:k<len) (hD:canB (nxK g len k [a1,a2,a3,a4] os 0) (nxP g len k [a1,a2,a3,a4] os 0) (nxW g len k [a1,a2,a3,a4] os 0) ek eq ev=true) (ho:(g k).o=7) (hv:numB ev=true):
  Calls prog 81 #[.slice (some (aQ b off)) len cap,stV k ra 4 rc oa os.length oc 0,evV ek eq ev] w (qcy w (qad len (g k) k [a1,a2,a3,a4] os 0 ev) true):=by
 obtain ⟨hjr,hja,hjb⟩:=hj;obtain ⟨j1,j2,j3⟩:=j4
 have e:qa2 len k a1 a2 a3 a4 os (k+1) (set4 a1 a2 a3 a4 jr (ev)).1 (set4 a1 a2 a3 a4 jr (ev)).2.1 (set4 a1 a2 a3 a4 jr (ev)).2.2.1 (set4 a1 a2 a3 a4 jr (ev)).2.2.2 os 0=qad len (g k) k [a1,a2,a3,a4] os 0 ev:=by
  rw [qca hn h60 j1,nC hv];simp [qad,ho,hjr]
 rw [<- e];refine qbk b off len cap k g ra oa rc oc a1 a2 a3 a4 os ek eq ev w 153 (yB func153) (k+1) (set4 a1 a2 a3 a4 jr (ev)).1 (set4 a1 a2 a3 a4 jr (ev)).2.1 (set4 a1 a2 a3 a4 jr (ev)).2.2.1 (set4 a1 a2 a3 a4 jr (ev)).2.2.2 os 0 (by unfold maxLen;omega) hb hI h60 h1 h2 hk hD (by rw [ho];exact quc) (fun o1 c1 B wx hB hO=>?_);rw [hjr,hja,hjb];refine (qsd _ _ _ _ _ _ _ _ _ jr ja jb _ _ _ _ _ _ (by omega) (by omega) j1).mono ?_;rintro e w' ⟨rfl,b⟩;exact qbc hO b
theorem qs2 (b off len cap k:Nat) (g:Nat->I5) (ra oa:Option Addr) (rc oc:Nat) (a1 a2 a3 a4:Int) (os:List Int) (ek eq ev:Int) (w:World) (jr ja jb:Nat) (hj:(g k).r=jr/\(g k).a=ja/\(g k).b=jb) (j4:jr<4/\ja<4/\jb<4) (hn:numB a1=true/\numB a2=true/\numB a3=true/\numB a4=true) (_hz:∀ j,j<4->numB (zi [a1,a2,a3,a4] j)=true) (hl:(len:Int)<=30) (hb:b<w.heap.size) (hI:qan w b off len g) (h60:os.length<=60) (h1:Sl w ra [a1,a2,a3,a4]) (h2:Sl w oa os) (hk:k<len) (hD:canB (nxK g len k [a1,a2,a3,a4] os 0) (nxP g len k [a1,a2,a3,a4] os 0) (nxW g len k [a1,a2,a3,a4] os 0) ek eq ev=true) (ho:(g k).o=8):
  Calls prog 81 #[.slice (some (aQ b off)) len cap,stV k ra 4 rc oa os.length oc 0,evV ek eq ev] w (qcy w (qad len (g k) k [a1,a2,a3,a4] os 0 ev) true):=by
 obtain ⟨hjr,hja,hjb⟩:=hj;obtain ⟨j1,j2,j3⟩:=j4
 have e:qa2 len k a1 a2 a3 a4 os (k+1) a1 a2 a3 a4 (os ++ [ev]) 0=qad len (g k) k [a1,a2,a3,a4] os 0 ev:=by
  by_cases h:os.length=60
  ·rw [qlp (by simp;omega)]
   simp [qad,ho,h]
  ·rw [qeh hn (by simp;omega)]
   simp [qad,ho,h]
 rw [<- e];refine qbk b off len cap k g ra oa rc oc a1 a2 a3 a4 os ek eq ev w 154 (yB func154) (k+1) a1 a2 a3 a4 (os ++ [ev]) 0 (by unfold maxLen;omega) hb hI h60 h1 h2 hk hD (by rw [ho];exact qud) (fun o1 c1 B wx hB hO=>?_);rw [hjr,hja,hjb];refine (qp0 _ _ _ _ _ _ _ os _ jr ja jb _ _ _ _ _ B wx (by omega) (by omega) (by omega) hB hO).mono ?_;rintro e w' ⟨oa',oc',rfl,p1,p2,p3,p4⟩;have e1:(os ++ [ev]).length=os.length+1:=by simp
 unfold qss;rw [e1];exact ⟨oa',oc',rfl,p1,p2,p3,p4⟩
theorem qvj (b off len cap k:Nat) (g:Nat->I5) (ra oa:Option Addr) (rc oc:Nat) (a1 a2 a3 a4:Int) (os:List Int) (ek eq ev:Int) (w:World) (jr ja jb:Nat) (hj:(g k).r=jr/\(g k).a=ja/\(g k).b=jb) (j4:jr<4/\ja<4/\jb<4) (hn:numB a1=true/\numB a2=true/\numB a3=true/\numB a4=true) (_hz:∀ j,j<4->numB (zi [a1,a2,a3,a4] j)=true) (hl:(len:Int)<=30) (hb:b<w.heap.size) (hI:qan w b off len g) (h60:os.length<=60) (h1:Sl w ra [a1,a2,a3,a4]) (h2:Sl w oa os) (hk:k<len) (hD:canB (nxK g len k [a1,a2,a3,a4] os 0) (nxP g len k [a1,a2,a3,a4] os 0) (nxW g len k [a1,a2,a3,a4] os 0) ek eq ev=true) (ho:(g k).o=9) (hb9:belB (g k).n len=true):
  Calls prog 81 #[.slice (some (aQ b off)) len cap,stV k ra 4 rc oa os.length oc 0,evV ek eq ev] w (qcy w (qad len (g k) k [a1,a2,a3,a4] os 0 ev) true):=by
 obtain ⟨hjr,hja,hjb⟩:=hj;obtain ⟨j1,j2,j3⟩:=j4
 have e:qa2 len k a1 a2 a3 a4 os (g k).n a1 a2 a3 a4 os 0=qad len (g k) k [a1,a2,a3,a4] os 0 ev:=by
  rw [qgg hn h60 hb9];simp [qad,ho]
 rw [<- e];refine qbk b off len cap k g ra oa rc oc a1 a2 a3 a4 os ek eq ev w 155 (yB func155) (g k).n a1 a2 a3 a4 os 0 (by unfold maxLen;omega) hb hI h60 h1 h2 hk hD (by rw [ho];exact que) (fun o1 c1 B wx hB hO=>?_);rw [hjr,hja,hjb];refine (qlx _ _ _ _ _ _ _ _ _ jr ja jb _ _ _ _ _ _ (by omega) (by omega)).mono ?_;rintro e w' ⟨rfl,b⟩;exact qbc hO b
theorem qmk (b off len cap k:Nat) (g:Nat->I5) (ra oa:Option Addr) (rc oc:Nat) (a1 a2 a3 a4:Int) (os:List Int) (ek eq ev:Int) (w:World) (jr ja jb:Nat) (hj:(g k).r=jr/\(g k).a=ja/\(g k).b=jb) (j4:jr<4/\ja<4/\jb<4) (hn:numB a1=true/\numB a2=true/\numB a3=true/\numB a4=true) (_hz:∀ j,j<4->numB (zi [a1,a2,a3,a4] j)=true) (hl:(len:Int)<=30) (hb:b<w.heap.size) (hI:qan w b off len g) (h60:os.length<=60) (h1:Sl w ra [a1,a2,a3,a4]) (h2:Sl w oa os) (hk:k<len) (hD:canB (nxK g len k [a1,a2,a3,a4] os 0) (nxP g len k [a1,a2,a3,a4] os 0) (nxW g len k [a1,a2,a3,a4] os 0) ek eq ev=true) (ho:(g k).o=10) (hb9:belB (g k).n len=true) (hz0:zi [a1,a2,a3,a4] ja=0):
  Calls prog 81 #[.slice (some (aQ b off)) len cap,stV k ra 4 rc oa os.length oc 0,evV ek eq ev] w (qcy w (qad len (g k) k [a1,a2,a3,a4] os 0 ev) true):=by
 obtain ⟨hjr,hja,hjb⟩:=hj;obtain ⟨j1,j2,j3⟩:=j4
 have e:qa2 len k a1 a2 a3 a4 os (g k).n a1 a2 a3 a4 os 0=qad len (g k) k [a1,a2,a3,a4] os 0 ev:=by
  rw [qgg hn h60 hb9];simp [qad,ho,hja,hz0]
 rw [<- e];refine qbk b off len cap k g ra oa rc oc a1 a2 a3 a4 os ek eq ev w 156 (yB func156) (g k).n a1 a2 a3 a4 os 0 (by unfold maxLen;omega) hb hI h60 h1 h2 hk hD (by rw [ho];exact qlw) (fun o1 c1 B wx hB hO=>?_);rw [hjr,hja,hjb];refine (qj8 _ _ _ _ _ _ _ _ _ jr ja jb _ _ _ _ _ _ (by omega) (by omega) j2 (by simp [hz0])).mono ?_;rintro e w' ⟨rfl,b⟩;exact qbc hO b
theorem qo2 (b off len cap k:Nat) (g:Nat->I5) (ra oa:Option Addr) (rc oc:Nat) (a1 a2 a3 a4:Int) (os:List Int) (ek eq ev:Int) (w:World) (jr ja jb:Nat) (hj:(g k).r=jr/\(g k).a=ja/\(g k).b=jb) (j4:jr<4/\ja<4/\jb<4) (hn:numB a1=true/\numB a2=true/\numB a3=true/\numB a4=true) (_hz:∀ j,j<4->numB (zi [a1,a2,a3,a4] j)=true) (hl:(len:Int)<=30) (hb:b<w.heap.size) (hI:qan w b off len g) (h60:os.length<=60) (h1:Sl w ra [a1,a2,a3,a4]) (h2:Sl w oa os) (hk:k<len) (hD:canB (nxK g len k [a1,a2,a3,a4] os 0) (nxP g len k [a1,a2,a3,a4] os 0) (nxW g len k [a1,a2,a3,a4] os 0) ek eq ev=true) (ho:(g k).o=10) (hz0:¬ zi [a1,a2,a3,a4] ja=0):
  Calls prog 81 #[.slice (some (aQ b off)) len cap,stV k ra 4 rc oa os.length oc 0,evV ek eq ev] w (qcy w (qad len (g k) k [a1,a2,a3,a4] os 0 ev) true):=by
 obtain ⟨hjr,hja,hjb⟩:=hj;obtain ⟨j1,j2,j3⟩:=j4
 have e:qa2 len k a1 a2 a3 a4 os (k+1) a1 a2 a3 a4 os 0=qad len (g k) k [a1,a2,a3,a4] os 0 ev:=by
  rw [qeh hn h60];simp [qad,ho,hja,hz0]
 rw [<- e];refine qbk b off len cap k g ra oa rc oc a1 a2 a3 a4 os ek eq ev w 156 (yB func156) (k+1) a1 a2 a3 a4 os 0 (by unfold maxLen;omega) hb hI h60 h1 h2 hk hD (by rw [ho];exact qlw) (fun o1 c1 B wx hB hO=>?_);rw [hjr,hja,hjb];refine (qlz _ _ _ _ _ _ _ _ _ jr ja jb _ _ _ _ _ _ (by omega) (by omega) j2 (by simpa using hz0)).mono ?_;rintro e w' ⟨rfl,b⟩;exact qbc hO b
theorem qwk (b off len cap k:Nat) (g:Nat->I5) (ra oa:Option Addr) (rc oc:Nat) (a1 a2 a3 a4:Int) (os:List Int) (ek eq ev:Int) (w:World) (jr ja jb:Nat) (hj:(g k).r=jr/\(g k).a=ja/\(g k).b=jb) (j4:jr<4/\ja<4/\jb<4) (hn:numB a1=true/\numB a2=true/\numB a3=true/\numB a4=true) (_hz:∀ j,j<4->numB (zi [a1,a2,a3,a4] j)=true) (hl:(len:Int)<=30) (hb:b<w.heap.size) (hI:qan w b off len g) (h60:os.length<=60) (h1:Sl w ra [a1,a2,a3,a4]) (h2:Sl w oa os) (hk:k<len) (hD:canB (nxK g len k [a1,a2,a3,a4] os 0) (nxP g len k [a1,a2,a3,a4] os 0) (nxW g len k [a1,a2,a3,a4] os 0) ek eq ev=true) (ho:(g k).o=11):
  Calls prog 81 #[.slice (some (aQ b off)) len cap,stV k ra 4 rc oa os.length oc 0,evV ek eq ev] w (qcy w (qad len (g k) k [a1,a2,a3,a4] os 0 ev) true):=by
 obtain ⟨hjr,hja,hjb⟩:=hj;obtain ⟨j1,j2,j3⟩:=j4
 have e:qa2 len k a1 a2 a3 a4 os k a1 a2 a3 a4 os 1=qad len (g k) k [a1,a2,a3,a4] os 0 ev:=by
  rw [qgg hn h60 (by simp [belB];omega)];simp [qad,ho]
 rw [<- e];refine qbk b off len cap k g ra oa rc oc a1 a2 a3 a4 os ek eq ev w 157 (yB func157) k a1 a2 a3 a4 os 1 (by unfold maxLen;omega) hb hI h60 h1 h2 hk hD (by rw [ho];exact qsb) (fun o1 c1 B wx hB hO=>?_);rw [hjr,hja,hjb];refine (qug _ _ _ _ _ _ _ _ _ jr ja jb _ _ _ _ _ _ (by omega) (by omega)).mono ?_;rintro e w' ⟨rfl,b⟩;exact qbc hO b
theorem qjf {x:I5} {len:Nat} (h:qak x.o x.r x.a x.b x.n len 4=true) (h9:x.o=9\/x.o=10):belB x.n len=true:=by
 simp only [qak,nH] at h;have h5:=h.2;unfold qbi at h5
 rcases h9 with h9 | h9 <;> (rw [h9] at h5;simp [belB] at h5 ⊢;omega)
theorem qnx (b off len cap:Nat) (g:Nat->I5) (p code:Int) (ra oa:Option Addr) (rc oc:Nat) (rs os:List Int) (ek eq ev:Int) (w:World) (hlen:len<=maxLen) (hb:b<w.heap.size) (hI:qan w b off len g) (hr:rs.length<=1048576) (ho:os.length<=1048576) (h1:Sl w ra rs) (h2:Sl w oa os) (hP:qac g len 4=true):
  Calls prog 81 #[.slice (some (aQ b off)) len cap,stV p ra rs.length rc oa os.length oc code,evV ek eq ev] w (qcy w (doS g len p rs os code ek eq ev) (doB g len p rs os code ek eq ev)):=by
 rcases zK (doB g len p rs os code ek eq ev) with hB | hB
 case inr=>
  have hS:doS g len p rs os code ek eq ev=⟨p,rs,os,code⟩:=by
   unfold doS;rw [nB (by rw [hB];decide)]
  rw [hB,hS];exact qvi b off len cap g p code ra oa rc oc rs os ek eq ev w hlen hb hI hr ho h1 h2 hB hP
 have hR:=qcw hB;obtain ⟨hp,hs,rfl⟩:=qbb hR;obtain ⟨⟨a1,a2,a3,a4,rfl,n1,n2,n3,n4⟩,⟨k,rfl,hk⟩,h60,-⟩:=qbw hs
 have hS:doS g len k [a1,a2,a3,a4] os 0 ek eq ev=qad len (g k) k [a1,a2,a3,a4] os 0 ev:=by
  unfold doS;rw [nC hB,nF]
 rw [hB,hS]
 have hl:(len:Int)<=30:=by
  simp only [qac,nH] at hp;have:=hp.2.1;simp [inB] at this;omega
 have hins:=qb0 hp hk;obtain ⟨⟨o1,o11⟩,⟨r0,r3⟩,⟨m0,m3⟩,⟨q0,q3⟩⟩:=qch hins;have hn:numB a1=true/\numB a2=true/\numB a3=true/\numB a4=true:=⟨n1,n2,n3,n4⟩
 have hz:∀ j,j<4->numB (zi [a1,a2,a3,a4] j)=true:=fun j hj=>by
  match j,hj with
  | 0,_=>exact n1
  | 1,_=>exact n2
  | 2,_=>exact n3
  | 3,_=>exact n4
 have hj:(g k).r=((g k).r.toNat:Int)/\(g k).a=((g k).a.toNat:Int)/\(g k).b=((g k).b.toNat:Int):=⟨by omega,by omega,by omega⟩
 have j4:(g k).r.toNat<4/\(g k).a.toNat<4/\(g k).b.toNat<4:=⟨by omega,by omega,by omega⟩
 rcases qe5 (g k).o with h | h | h | h | h | h | h | h | h | h | h | h
 ·omega
 ·exact qwm b off len cap k g ra oa rc oc a1 a2 a3 a4 os ek eq ev w _ _ _ hj j4 hn hz hl hb hI h60 h1 h2 hk hB h
 ·exact qwj b off len cap k g ra oa rc oc a1 a2 a3 a4 os ek eq ev w _ _ _ hj j4 hn hz hl hb hI h60 h1 h2 hk hB h
 ·exact qwn b off len cap k g ra oa rc oc a1 a2 a3 a4 os ek eq ev w _ _ _ hj j4 hn hz hl hb hI h60 h1 h2 hk hB h
 ·exact qwl b off len cap k g ra oa rc oc a1 a2 a3 a4 os ek eq ev w _ _ _ hj j4 hn hz hl hb hI h60 h1 h2 hk hB h
 ·by_cases hlt:zi [a1,a2,a3,a4] (g k).a.toNat<zi [a1,a2,a3,a4] (g k).b.toNat
  ·exact qmj b off len cap k g ra oa rc oc a1 a2 a3 a4 os ek eq ev w _ _ _ hj j4 hn hz hl hb hI h60 h1 h2 hk hB h hlt
  ·exact qo1 b off len cap k g ra oa rc oc a1 a2 a3 a4 os ek eq ev w _ _ _ hj j4 hn hz hl hb hI h60 h1 h2 hk hB h hlt
 ·exact qvk b off len cap k g ra oa rc oc a1 a2 a3 a4 os ek eq ev w _ _ _ hj j4 hn hz hl hb hI h60 h1 h2 hk hB h
 ·have hv:numB ev=true:=by
   have hc:=hB;unfold doB nxK at hc;rw [nC hR,nF,h,show evK 7=3 from rfl,qhi] at hc;simp only [nH] at hc;exact hc.1.2
  exact qvl b off len cap k g ra oa rc oc a1 a2 a3 a4 os ek eq ev w _ _ _ hj j4 hn hz hl hb hI h60 h1 h2 hk hB h hv
 ·exact qs2 b off len cap k g ra oa rc oc a1 a2 a3 a4 os ek eq ev w _ _ _ hj j4 hn hz hl hb hI h60 h1 h2 hk hB h
 ·exact qvj b off len cap k g ra oa rc oc a1 a2 a3 a4 os ek eq ev w _ _ _ hj j4 hn hz hl hb hI h60 h1 h2 hk hB h (qjf hins (.inl h))
 ·by_cases hz0:zi [a1,a2,a3,a4] (g k).a.toNat=0
  ·exact qmk b off len cap k g ra oa rc oc a1 a2 a3 a4 os ek eq ev w _ _ _ hj j4 hn hz hl hb hI h60 h1 h2 hk hB h (qjf hins (.inr h)) hz0
  ·exact qo2 b off len cap k g ra oa rc oc a1 a2 a3 a4 os ek eq ev w _ _ _ hj j4 hn hz hl hb hI h60 h1 h2 hk hB h hz0
 ·exact qwk b off len cap k g ra oa rc oc a1 a2 a3 a4 os ek eq ev w _ _ _ hj j4 hn hz hl hb hI h60 h1 h2 hk hB h
theorem qei {n:Nat} {p code:Int} {rs os:List Int} (h1:rs.length=4) (h2:allN rs=true) (h3:0<=code/\code<=2) (h4:belB p n=true) (h5:os.length<=60) (h6:allN os=true):qc1 n p rs os code=true:=by
 have e:inB code 0 2=true:=by simp [inB];omega
 have e5:((os.length:Int)<=60):=by omega
 simp [qc1,qc0,outB,h1,h2,e,h4,e5,h6]
theorem qnu {xs:List Int} {j:Nat} {v:Int} (h:allN xs=true) (hv:numB v=true):allN (xs.set j v)=true:=by
 unfold allN at h ⊢;rw [List.all_eq_true] at h ⊢;intro x hx
 rcases List.mem_or_eq_of_mem_set hx with h1 | h1
 ·exact h x h1
 ·rw [h1];exact hv
def OkS (len:Nat) (S:S4):Prop:=qc1 len S.p S.rs S.os S.c=true
theorem qk2 {len k:Nat} {rs os:List Int} (hk:k<len) (h1:rs.length=4) (h2:allN rs=true) (h5:os.length<=60) (h6:allN os=true):OkS len (goS len k rs os 0):=by
 unfold OkS goS goP goC;by_cases h:(len:Int)<=(k:Int)+1
 ·simp only [h,if_true]
  exact qei h1 h2 (by omega) (by simp [belB];omega) h5 h6
 ·simp only [h,if_false]
  exact qei h1 h2 (by omega) (by simp [belB];omega) h5 h6
theorem qny {g:Nat->I5} {len:Nat} {p:Int} {rs os:List Int} {code ek eq ev:Int} (hB:doB g len p rs os code ek eq ev=true):OkS len (doS g len p rs os code ek eq ev):=by
 have hR:=qcw hB;obtain ⟨hp,hs,rfl⟩:=qbb hR;obtain ⟨⟨a1,a2,a3,a4,rfl,n1,n2,n3,n4⟩,⟨k,rfl,hk⟩,h60,hN⟩:=qbw hs
 have hS:doS g len k [a1,a2,a3,a4] os 0 ek eq ev=qad len (g k) k [a1,a2,a3,a4] os 0 ev:=by
  unfold doS;rw [nC hB,nF]
 rw [hS];have hins:=qb0 hp hk;obtain ⟨⟨o1,o11⟩,⟨r0,r3⟩,⟨m0,m3⟩,⟨q0,q3⟩⟩:=qch hins;have hA:allN [a1,a2,a3,a4]=true:=by simp [allN,n1,n2,n3,n4]
 have hz:∀ j,j<4->numB (zi [a1,a2,a3,a4] j)=true:=fun j hj=>by
  match j,hj with
  | 0,_=>exact n1
  | 1,_=>exact n2
  | 2,_=>exact n3
  | 3,_=>exact n4
 have hkB:belB (k:Int) len=true:=by simp [belB];omega
 have hc:=hB;unfold doB nxK nxP nxW at hc;rw [nC hR,nC hR,nC hR,nF] at hc
 have v7:(g k).o=7->numB ev=true:=fun h=>by
  rw [h,show evK 7=3 from rfl,qhi] at hc;simp only [nH] at hc;exact hc.1.2
 have v8:(g k).o=8->numB ev=true:=fun h=>by
  rw [h,show evK 8=4 from rfl,qen (by decide) (by decide)] at hc;unfold qdg at hc;simp only [nH,beq_iff_eq] at hc;rw [hc.2.2];exact hz _ (by omega)
 unfold qad
 split
 ·exact qk2 hk rfl hA h60 hN
 split
 ·rename_i h7
  exact qk2 hk (by simp) (qnu hA (v7 h7)) h60 hN
 split
 ·rename_i h8
  split
  ·exact qei rfl hA (by simp) hkB h60 hN
  ·refine qk2 hk rfl hA (by simp;omega) ?_
   unfold allN at hN ⊢;rw [List.all_append,hN];simp [v8 h8]
 split
 ·rename_i h9
  exact qei rfl hA (by simp) (qjf hins (.inl h9)) h60 hN
 split
 ·rename_i h10
  split
  ·exact qei rfl hA (by simp) (qjf hins (.inr h10)) h60 hN
  ·exact qk2 hk rfl hA h60 hN
 split
 ·exact qei rfl hA (by simp) hkB h60 hN
 split
 ·rename_i hv
  exact qk2 hk (by simp) (qnu hA hv) h60 hN
 ·exact qei rfl hA (by simp) hkB h60 hN
def newS:S4:=⟨0,[0,0,0,0],[],0⟩
def qey (g:Nat->I5) (len:Nat) (x:E3) (S:S4):Option S4:=if doB g len S.p S.rs S.os S.c x.k x.q x.v=true then some (doS g len S.p S.rs S.os S.c x.k x.q x.v) else none
def rp (g:Nat->I5) (len:Nat) (h:Nat->E3):Nat->Option S4
 | 0=>some newS
 | k+1=>(rp g len h k).bind (qey g len (h k))
theorem qrz {g:Nat->I5} {len:Nat} {h:Nat->E3} {k:Nat} (hk:rp g len h k=none):∀ d,rp g len h (k+d)=none
 | 0=>hk
 | d+1=>by
  have:=qrz hk d;show (rp g len h (k+d)).bind _=none;rw [this];rfl
theorem qee {g:Nat->I5} {len:Nat} {h:Nat->E3} {k m:Nat} (hk:rp g len h k=none) (hm:k<=m):rp g len h m=none:=by
 have:=qrz hk (m - k)
 rwa [show k+(m - k)=m by omega] at this
theorem qr0 {g:Nat->I5} {len:Nat} {h:Nat->E3} {k:Nat} {S:S4} (hk:rp g len h k=some S) (hd:doB g len S.p S.rs S.os S.c (h k).k (h k).q (h k).v=true):rp g len h (k+1)=some (doS g len S.p S.rs S.os S.c (h k).k (h k).q (h k).v):=by
 show (rp g len h k).bind _=_;rw [hk];show qey g len (h k) S=_;unfold qey;rw [nC hd]
theorem qry {g:Nat->I5} {len:Nat} {h:Nat->E3} {k:Nat} {S:S4} (hk:rp g len h k=some S) (hd:doB g len S.p S.rs S.os S.c (h k).k (h k).q (h k).v=false):rp g len h (k+1)=none:=by
 show (rp g len h k).bind _=_;rw [hk];show qey g len (h k) S=_;unfold qey;rw [nB (by rw [hd];decide)]
def resS (o:Option S4):S4:=o.getD ⟨0,[],[],0⟩
theorem qjw {g:Nat->I5} {len:Nat} (hp:qac g len 4=true):1<=len/\len<=30:=by
 simp only [qac,nH] at hp;have:=hp.2.1;simp [inB] at this;omega
theorem qjr {g:Nat->I5} {len:Nat} (hp:qac g len 4=true):OkS len newS:=by
 have:=qjw hp;exact qei rfl (by simp [newS,allN,numB,inB]) (by simp [newS]) (by simp [belB,newS];omega) (by simp [newS]) rfl
theorem qom {g:Nat->I5} {len:Nat} {S:S4} (hp:qac g len 4=true) (hS:OkS len S) (hc:S.c=0):qbv g len S.p S.rs S.os S.c=true:=by
 unfold OkS at hS;rw [qbv,hp,hS,hc];rfl
theorem qs0 {g:Nat->I5} {len:Nat} {S:S4} {k q v:Int} (hc:S.c≠0):doB g len S.p S.rs S.os S.c k q v=false:=by
 rcases zK (doB g len S.p S.rs S.os S.c k q v) with h | h
 ·obtain ⟨-,-,h0⟩:=qbb (qcw h)
  exact absurd h0 hc
 ·exact h
theorem OkS.len {n:Nat} {S:S4} (h:OkS n S):S.rs.length=4/\S.os.length<=60:=by
 obtain ⟨⟨a,b,c,d,e,-⟩,-,h60,-⟩:=qbw h;exact ⟨by rw [e];rfl,h60⟩
open Go.Sort
structure Rl (w wr:World) (R Bs:Nat) (p code:Int) (ra:Option Addr) (rc:Nat) (oa:Option Addr) (oc:Nat) (rs os:List Int):Prop where
 tl:Tl wr (R+1) wr.heap.size Bs p code ra rs.length rc oa os.length oc rs os
 fz:∀ j,wr.frozen? ⟨Bs,j,none⟩=false
 rb:BoxC wr R (iV 0) nS nS (iV 0)
 rf:∀ j,wr.frozen? ⟨R,j,none⟩=false
 be:Bw w wr
 hR:R=w.heap.size
theorem Rl.bw {w wr w':World} {R Bs:Nat} {p code:Int} {ra:Option Addr} {rc:Nat} {oa:Option Addr} {oc:Nat} {rs os:List Int} (h:Rl w wr R Bs p code ra rc oa oc rs os) (hb:Bw wr w'):Rl w w' R Bs p code ra rc oa oc rs os:=by
 have zB:Bs<wr.heap.size:=h.tl.hi;have zR:R<wr.heap.size:=zJ wr _ h.rb.1;exact ⟨(h.tl.bw hb).widen hb.size (nA _),fun j=>(zI (hb.block Bs zB)).trans (h.fz j),h.rb.bw hb,fun j=>(zI (hb.block R zR)).trans (h.rf j),h.be.trans (hb.mono h.be.size),h.hR⟩
theorem Rl.next {w w9:World} {R Bs:Nat} {p code:Int} {ra:Option Addr} {rc:Nat} {oa:Option Addr} {oc:Nat} {rs os:List Int} (h:Rl w w9 R Bs p code ra rc oa oc rs os) {B7:Nat} {S:S4} {ra7 oa7:Option Addr} {rc7 oc7:Nat} (o9:qaf w9 B7 (stV S.p ra7 S.rs.length rc7 oa7 S.os.length oc7 S.c) S.p S.rs S.os S.c) (hB:Bs<B7):Rl w ((((w9.setCell (aQ Bs 0) (iV S.p)).setCell (aQ Bs 1) (.slice ra7 S.rs.length rc7)).setCell (aQ Bs 2) (.slice oa7 S.os.length oc7)).setCell (aQ Bs 3) (iV S.c)) R Bs S.p S.c ra7 rc7 oa7 oc7 S.rs S.os:=by
 have hlo:=h.tl.lo;have hhi:=h.tl.hi;have hR:=h.hR;have gz:=qux w9 Bs (iV S.p) (.slice ra7 S.rs.length rc7) (.slice oa7 S.os.length oc7) (iV S.c);have zR:R<w9.heap.size:=zJ w9 _ h.rb.1;have eR:=gz.block R zR (by simp;omega);obtain ⟨r0,r1,r2,r3⟩:=h.rb
 have ht:Tl ((((w9.setCell (aQ Bs 0) (iV S.p)).setCell (aQ Bs 1) (.slice ra7 S.rs.length rc7)).setCell (aQ Bs 2) (.slice oa7 S.os.length oc7)).setCell (aQ Bs 3) (iV S.c)) (R+1) w9.heap.size Bs S.p S.c ra7 S.rs.length rc7 oa7 S.os.length oc7 S.rs S.os:=by
  refine ⟨hlo,hhi,by simp,h.tl.box.set4 _ _ _ _,o9.put4 hB (by omega),fun j hj=>(o9.lt hj).2,fun hj=>?_⟩;have:=(o9.lt hj).1;omega
 have hbe:Below w.heap.size w9 ((((w9.setCell (aQ Bs 0) (iV S.p)).setCell (aQ Bs 1) (.slice ra7 S.rs.length rc7)).setCell (aQ Bs 2) (.slice oa7 S.os.length oc7)).setCell (aQ Bs 3) (iV S.c)):=⟨gz.os,gz.tape,gz.output,gz.size,fun k hk=>gz.block k (zL hk h.be.size) (by simp;omega)⟩
 have hfz:∀ j,((((w9.setCell ⟨Bs,0,none⟩ (iV S.p)).setCell ⟨Bs,1,none⟩ (.slice ra7 S.rs.length rc7)).setCell ⟨Bs,2,none⟩ (.slice oa7 S.os.length oc7)).setCell ⟨Bs,3,none⟩ (iV S.c)).frozen? ⟨Bs,j,none⟩=false:=fun j=>by
  rw [World.frozen?_setCell,World.frozen?_setCell,World.frozen?_setCell,World.frozen?_setCell];exact h.fz j
 have hrf:∀ j,((((w9.setCell ⟨Bs,0,none⟩ (iV S.p)).setCell ⟨Bs,1,none⟩ (.slice ra7 S.rs.length rc7)).setCell ⟨Bs,2,none⟩ (.slice oa7 S.os.length oc7)).setCell ⟨Bs,3,none⟩ (iV S.c)).frozen? ⟨R,j,none⟩=false:=fun j=>by
  rw [World.frozen?_setCell,World.frozen?_setCell,World.frozen?_setCell,World.frozen?_setCell];exact h.rf j
 have hgs:=gz.size;have hrb:BoxC ((((w9.setCell (aQ Bs 0) (iV S.p)).setCell (aQ Bs 1) (.slice ra7 S.rs.length rc7)).setCell (aQ Bs 2) (.slice oa7 S.os.length oc7)).setCell (aQ Bs 3) (iV S.c)) R (iV 0) nS nS (iV 0):=⟨(zH eR).trans r0,(zH eR).trans r1,(zH eR).trans r2,(zH eR).trans r3⟩
 have hbe2:=h.be.trans hbe;generalize (((w9.setCell (aQ Bs 0) (iV S.p)).setCell (aQ Bs 1) (.slice ra7 S.rs.length rc7)).setCell (aQ Bs 2) (.slice oa7 S.os.length oc7)).setCell (aQ Bs 3) (iV S.c)=wz at *;exact ⟨ht.widen hgs (nA _),hfz,hrb,hrf,hbe2,hR⟩
theorem Rl.done {w wr:World} {R Bs:Nat} {p code:Int} {ra:Option Addr} {rc:Nat} {oa:Option Addr} {oc:Nat} {rs os:List Int} (h:Rl w wr R Bs p code ra rc oa oc rs os) (a b c d:Value):Bw w ((((wr.setCell (aQ R 0) a).setCell (aQ R 1) b).setCell (aQ R 2) c).setCell (aQ R 3) d)/\qaf ((((wr.setCell (aQ R 0) a).setCell (aQ R 1) b).setCell (aQ R 2) c).setCell (aQ R 3) d) w.heap.size (stV p ra rs.length rc oa os.length oc code) p rs os code:=by
 have hR:=h.hR;have gz:=qux wr R a b c d;exact ⟨h.be.trans ⟨gz.os,gz.tape,gz.output,gz.size,fun k hk=>gz.block k (zL hk h.be.size) (by simp;omega)⟩,h.tl.own.put4 (Nat.lt_succ_self _) (by omega)⟩
theorem qaf.nil (w:World) (B:Nat):qaf w B (stV 0 none 0 0 none 0 0 0) 0 [] [] 0:=⟨_,_,rfl,World.ownsRow_nil _ _ _ _,World.ownsRow_nil _ _ _ _,fun k e=>by cases e⟩
theorem qaf.dr {w:World} {B:Nat} {v:Value} {p code:Int} {rs os:List Int} (h:qaf w B v p rs os code):qaf w.drew B v p rs os code:=by
 obtain ⟨vr,vo,e,h1,h2,h3⟩:=h;exact ⟨vr,vo,e,h1.drewN 1,h2.drewN 1,h3⟩
theorem qpg (gb n gc:Nat) (ea:Option Addr) (m ec:Nat) (g:Nat->I5) (eh:Nat->E3) (w:World) (hg:gb<w.heap.size) (hI:qan w gb 0 n g) (hE:EvL w ea m eh) (hm:m<=1048576) (hp:qac g n 4=true):
  Calls prog 98 #[.slice (some (aQ gb 0)) n gc,.slice ea m ec] w (qcy w (resS (rp g n eh m)) (rp g n eh m).isSome):=by
 have HI:Hid (qan w gb 0 n g):=hI;have HE:Hid (EvL w ea m eh):=hE;have HP:Hid (qac g n 4=true):=hp;have hm':(m:Int)<=1048576:=by omega
 clear hI hE hp
 go_enter func98,ntmps98
 go_wp2_with fail
 refine (qd3 _).mono ?_;rintro e w2 ⟨v2,rfl,o2,b2⟩;obtain ⟨ra2,rc2,oa2,oc2,rfl,-,-⟩:=o2.read;have bA:=zT w (zQ0);have bB:=zT w2 (oQ1 0 ra2 4 rc2 oa2 0 oc2 0)
 have D2:Hid (Rl w (w2.alloc (oQ1 0 ra2 4 rc2 oa2 0 oc2 0)) w.heap.size w2.heap.size 0 0 ra2 rc2 oa2 oc2 [0,0,0,0] []):=by
  have bC:Below (w.heap.size+1) (w.alloc (zQ0)) (w2.alloc (oQ1 0 ra2 4 rc2 oa2 0 oc2 0)):=by
   have h:=b2.trans (bB.mono b2.size)
   (try dsimp only [aW] at h);rw [World.size_alloc] at h
   exact h
  have z2:w.heap.size+1<=w2.heap.size:=by have:=b2.size;simp at this;exact this
  have eR:=bC.block w.heap.size (by omega)
  have o2':qaf w2 (w.heap.size+1) (stV 0 ra2 4 rc2 oa2 0 oc2 0) 0 [0,0,0,0] [] 0:=by
   have h:=o2
   (try dsimp only [aW] at h);rw [World.size_alloc] at h
   exact h
  obtain ⟨r0,r1,r2,r3⟩:=BoxC.new w (iV 0) nS nS (iV 0) 73;refine ⟨(Tl.of_alloc o2' z2 _).widen (by simp) (nA _),fun j=>yD _ _ _ j rfl,⟨(zH eR).trans r0,(zH eR).trans r1,(zH eR).trans r2,(zH eR).trans r3⟩,fun j=>(zI eR).trans (yD _ _ _ j rfl),bA.trans (bC.mono (by omega)),rfl⟩
 clear o2 b2 bA bB;go_wp2_with fail
 generalize w2.alloc (oQ1 0 ra2 4 rc2 oa2 0 oc2 0)=w3 at *;generalize w2.heap.size=Bs at *
 go_loopw [7] (fun i wr=>∃ k:Nat,k<=m/\i=.int .i64 k/\Hid (∃ S ra rc oa oc,rp g n eh k=some S/\OkS n S/\Rl w wr w.heap.size Bs S.p S.c ra rc oa oc S.rs S.os)) (fun i _=>m - (intOf i).toNat)
 case atStart=>exact ⟨0,nD _,rfl,newS,_,_,_,_,rfl,qjr HP.out,D2.out⟩
 case round=>
  clear D2;obtain ⟨k,hk,rfl,HD⟩:=hrel;obtain ⟨S0,ra,rc,oa,oc,hrp,hok,hD⟩:=HD.out;obtain ⟨p,rs,os,code⟩:=S0;dsimp only at hD;have DRl:Hid (Rl w wr w.heap.size Bs p code ra rc oa oc rs os):=hD;have HRP:Hid (rp g n eh k=some ⟨p,rs,os,code⟩/\OkS n ⟨p,rs,os,code⟩):=⟨hrp,hok⟩
  clear HD hD hrp hok;obtain ⟨c0,c1,c2,c3⟩:=DRl.tl.box;obtain ⟨r0,r1,r2,r3⟩:=DRl.rb;have rf:=DRl.rf;have cf:=DRl.fz;have dR:Bs≠w.heap.size:=by have:=DRl.tl.lo;omega
  have dR':w.heap.size≠Bs:=fun e=>dR e.symm;have zB:Bs<wr.heap.size:=DRl.tl.hi;have zR:w.heap.size<wr.heap.size:=by have:=DRl.tl.lo;omega
  by_cases hlt:k<m
  ·have hlt':(k:Int)<(m:Int):=by omega
   rcases zK (code != 0) with tc | tc
   ·have HZ:Hid (rp g n eh m=none):=qee (qry HRP.1 (qs0 (S:=⟨p,rs,os,code⟩) (by simpa using tc))) (by omega)
    go_wp2_with fail
    refine bodyPost_ret (v:=.tuple #[stV 0 none 0 0 none 0 0 0,.bool false]) (by simp [results,results98,go_sem,r0,r1,r2,r3]) rfl ?_;rw [HZ.out];exact ⟨_,rfl,qaf.nil _ _,(DRl.done _ _ _ _).1⟩
   ·have hc0:code=0:=by simpa using tc
    subst hc0;have hright:=qom (S:=⟨p,rs,os,0⟩) HP.out HRP.2 rfl;dsimp only at hright;obtain ⟨-,⟨pk,hpk,hpn⟩,-,-⟩:=qbw (qbb hright).2.1;subst hpk;have HRT:Hid (qbv g n (pk:Int) rs os 0=true):=hright;have hSok:doB g n pk rs os 0 (eh k).k (eh k).q (eh k).v=true->OkS n (doS g n pk rs os 0 (eh k).k (eh k).q (eh k).v):=qny;have hyes:=qr0 (S:=⟨pk,rs,os,0⟩) HRP.1;have hnot:=qry (S:=⟨pk,rs,os,0⟩) HRP.1;dsimp only at hyes hnot;generalize hS:doS g n pk rs os 0 (eh k).k (eh k).q (eh k).v=S at hSok hyes;generalize hT:doB g n pk rs os 0 (eh k).k (eh k).q (eh k).v=T at hSok hyes hnot;have HN:Hid (doS g n pk rs os 0 (eh k).k (eh k).q (eh k).v=S/\doB g n pk rs os 0 (eh k).k (eh k).q (eh k).v=T):=⟨hS,hT⟩
    have HY:Hid ((T=true->rp g n eh (k+1)=some S/\OkS n S)/\(T=false->rp g n eh (k+1)=none)):=⟨fun h=>⟨hyes h,hSok h⟩,hnot⟩
    clear hS hT hSok hyes hnot hright;obtain ⟨eb,eo,rfl,ze,k0,k1,k2⟩:=(HE.bw DRl.be).at hlt;have HEA:Hid (EvAt wr eb eo m eh/\eb<wr.heap.size):=(HE.bw DRl.be).one hlt;have d1:wr.heap.size≠Bs:=by omega
    have d2:wr.heap.size≠eb:=by omega
    go_wp2_with fail
    go_cut [8,9] from 21 to 30 (fun s t wx=>∃ M:Nat,s=.pointer (some (aQ M 0))/\t=.bool T/\Hid (Bw wr wx/\Told wx wr.heap.size M S))
    case first=>
     go_region_held3 (fun w'=>w'.cell? (aQ Bs 0)=some (iV pk)/\w'.cell? (aQ Bs 1)=some (.slice ra rs.length rc)/\w'.cell? (aQ Bs 2)=some (.slice oa os.length oc)/\w'.cell? (aQ Bs 3)=some (iV 0)/\w'.cell? ⟨eb,eo+k*3,none⟩=some (iV (eh k).k)/\w'.cell? ⟨eb,eo+k*3+1,none⟩=some (iV (eh k).q)/\w'.cell? ⟨eb,eo+k*3+2,none⟩=some (iV (eh k).v)) (go_keep)
      (first
       | (go_at_call 138;refine (qn9 gb 0 n gc pk g ra oa rc oc rs os (eh k).k (eh k).q (eh k).v _ (zL hg (DRl.bw (by go_grown)).be.size) (HI.bw (DRl.bw (by go_grown)).be hg) (DRl.bw (by go_grown)).tl.sl.1 (DRl.bw (by go_grown)).tl.sl.2 HRT.out).mono ?_;rintro e w5 hd;rw [HN.1,HN.2] at hd;obtain ⟨v5,rfl,o5,b5⟩:=hd;obtain ⟨ra5,rc5,oa5,oc5,rfl,-,-⟩:=o5.read;have q5:Bw wr w5:=qaj (by go_grown) b5 (by simp);obtain ⟨y0,y1,y2,y3⟩:=(DRl.bw q5).tl.box;obtain ⟨y4,y5,y6⟩:=HEA.1.bw q5 HEA.2 k hlt;(try simp only [World.size_alloc,World.size_drew] at o5);have O5:Hid (qaf w5 _ (stV S.p ra5 S.rs.length rc5 oa5 S.os.length oc5 S.c) S.p S.rs S.os S.c):=o5;obtain ⟨hc5,hf5⟩:=qae b5;have z5:=b5.size;(try simp only [World.size_alloc,World.size_drew,Nat.add_one_le_iff] at z5);have j5:wr.heap.size<=w5.heap.size:=q5.size;have Q5:Hid (Bw wr w5):=q5;clear o5 b5 q5))
     all_goals
      go_wp2_with fail
      go_meet
      case rel=>
       first
       | (refine ⟨w5.heap.size, by with_reducible rfl, rfl, ?_⟩
          exact ⟨Q5.trans ((zT _ _).mono j5),Told.of_alloc O5.out (by omega) (by omega) _⟩)
       | (refine ⟨wr.heap.size, by with_reducible rfl, rfl, ?_⟩
          exact ⟨(((Q5.setCell (nA _) _).setCell (nA _) _).setCell (nA _) _).setCell (nA _) _,Told.of_put (z0:=iV 0) (z1:=nS) (z2:=nS) (z3:=iV 0) O5.out (by omega) (by omega) (by omega) ⟨by rw [hc5 _ _ (by simp)];simp,by rw [hc5 _ _ (by simp)];simp,by rw [hc5 _ _ (by simp)];simp,by rw [hc5 _ _ (by simp)];simp⟩⟩)
    case rest=>
     obtain ⟨M,rfl,rfl,HM⟩:=hcut;have bG:=HM.1;obtain ⟨ra5,rc5,oa5,oc5,TG⟩:=HM.2.tl;have D6:Hid (Rl w wc w.heap.size Bs pk 0 ra rc oa oc rs os):=DRl.bw bG;have O6:Hid (qaf wc wr.heap.size (stV S.p ra5 S.rs.length rc5 oa5 S.os.length oc5 S.c) S.p S.rs S.os S.c):=TG.own;have zM:=TG.lo;clear c0 c1 c2 c3 r0 r1 r2 r3 rf cf k0 k1 k2 HM bG;obtain ⟨c0,c1,c2,c3⟩:=D6.tl.box;obtain ⟨r0,r1,r2,r3⟩:=D6.rb;obtain ⟨n0,n1,n2,n3⟩:=TG.box;have rf:=D6.rf;have cf:=D6.fz;have dN:M≠Bs:=by omega
     have dN':Bs≠M:=by omega
     have dM:M≠w.heap.size:=by omega
     clear TG;cases T
     case false=>
      have HZ:Hid (rp g n eh m=none):=qee (HY.2 rfl) (by omega);go_wp2_with fail
      refine bodyPost_ret (v:=.tuple #[stV 0 none 0 0 none 0 0 0,.bool false]) (by simp [results,results98,go_sem,r0,r1,r2,r3]) rfl ?_;rw [HZ.out];exact ⟨_,rfl,qaf.nil _ _,(D6.done _ _ _ _).1⟩
     case true=>
      have HW:Hid (rp g n eh (k+1)=some S/\OkS n S):=HY.1 rfl;go_wp2;go_roundw
      case rel=>exact ⟨k+1,by omega,by go_num,S,_,_,_,_,HW.1,HW.2,D6.next O6.out zB⟩
      case measure=>simp [intOf];omega
  ·have hkm:k=m:=by omega
   have HZ:Hid (rp g n eh m=some ⟨p,rs,os,code⟩):=by
    have:=HRP.1;rw [hkm] at this;exact this
   go_wp2_with fail
   refine bodyPost_ret (v:=.tuple #[stV p ra rs.length rc oa os.length oc code,.bool true]) (by simp [results,results98,go_sem,r0,r1,r2,r3]) rfl ?_;rw [HZ.out];exact ⟨_,rfl,(DRl.done _ _ _ _).2,(DRl.done _ _ _ _).1⟩
def repO (g:Nat->I5) (n:Nat) (eh:Nat->E3) (m:Nat):Option S4:=if qac g n 4=true/\m<=200 then rp g n eh m else none
theorem qg0 (gb n gc:Nat) (ea:Option Addr) (m ec:Nat) (g:Nat->I5) (eh:Nat->E3) (w:World) (hn:n<=maxLen) (hg:gb<w.heap.size) (hI:qan w gb 0 n g) (hE:EvL w ea m eh) (hm:m<=1048576):
  Calls prog 52 #[.slice (some (aQ gb 0)) n gc,.slice ea m ec] w (qcy w (resS (repO g n eh m)) (repO g n eh m).isSome):=by
 have HI:Hid (qan w gb 0 n g):=hI;have HE:Hid (EvL w ea m eh):=hE;have HL:Hid (n<=maxLen):=hn;have hm':(m:Int)<=1048576:=by omega
 clear hI hE hn;have bA:=zT w (zQ0);have BA:Hid (Bw w (w.alloc (zQ0))):=bA;have NB:Hid (BoxC (w.alloc (zQ0)) w.heap.size (iV 0) nS nS (iV 0)/\∀ j,(w.alloc (zQ0)).frozen? ⟨w.heap.size,j,none⟩=false):=⟨BoxC.new w _ _ _ _ _,fun j=>yD _ _ _ j rfl⟩
 clear bA
 go_enter func52,ntmps52
 go_wp2_with fail
 have hz:(w.alloc (zQ0)).heap.size=w.heap.size+1:=by simp
 generalize w.alloc (zQ0)=wa at *;refine (qe0 gb 0 n gc g 4 wa HL.out (zL hg BA.size) (HI.bw BA.out hg)).mono ?_;rintro e w1 ⟨rfl,b1⟩;have zR:w.heap.size<w1.heap.size:=by have:=b1.size;omega
 have N1:Hid (BoxC w1 w.heap.size (iV 0) nS nS (iV 0)/\∀ j,w1.frozen? ⟨w.heap.size,j,none⟩=false):=⟨NB.1.bw b1,fun j=>(zI (b1.block w.heap.size (by omega))).trans (NB.2 j)⟩
 have B1:Hid (Bw w w1):=BA.trans (b1.mono BA.size);clear b1 NB BA hz;obtain ⟨⟨r0,r1,r2,r3⟩,rf⟩:=N1.out;have hput:∀ (a b c d:Value),Bw w ((((w1.setCell ⟨w.heap.size,0,none⟩ a).setCell ⟨w.heap.size,1,none⟩ b).setCell ⟨w.heap.size,2,none⟩ c).setCell ⟨w.heap.size,3,none⟩ d):=fun a b c d=>(((B1.setCell (nA _) _).setCell (nA _) _).setCell (nA _) _).setCell (nA _) _;have HPut:Hid (∀ (a b c d:Value),Bw w ((((w1.setCell ⟨w.heap.size,0,none⟩ a).setCell ⟨w.heap.size,1,none⟩ b).setCell ⟨w.heap.size,2,none⟩ c).setCell ⟨w.heap.size,3,none⟩ d)):=hput;clear hput
 rcases zK (qac g n 4) with tp | tp
 ·by_cases h2:m<=200
  ·have h2':¬ (200:Int)<(m:Int):=by omega
   have HO:Hid (repO g n eh m=rp g n eh m):=by
    show repO g n eh m=rp g n eh m;unfold repO;rw [nC ⟨tp,h2⟩]
   have HP:Hid (qac g n 4=true):=tp;go_wp2_with fail
   refine (qpg gb n gc ea m ec g eh w1 (zL hg B1.size) (HI.bw B1.out hg) (HE.bw B1.out) hm HP.out).mono ?_;rintro e w2 hd;rw [<- HO.out] at hd;generalize repO g n eh m=O at *;obtain ⟨v2,rfl,o2,b2⟩:=hd;obtain ⟨ra2,rc2,oa2,oc2,rfl,-,-⟩:=o2.read;have eR:=b2.block w.heap.size zR;have q0:=(zH eR).trans r0;have q1:=(zH eR).trans r1;have q2:=(zH eR).trans r2;have q3:=(zH eR).trans r3;have qf:∀ j,w2.frozen? ⟨w.heap.size,j,none⟩=false:=fun j=>(zI eR).trans (rf j);have B2:Hid (Bw w w2):=B1.trans (b2.mono B1.size);have O2:Hid (qaf w2 w1.heap.size (stV (resS O).p ra2 (resS O).rs.length rc2 oa2 (resS O).os.length oc2 (resS O).c) (resS O).p (resS O).rs (resS O).os (resS O).c):=o2;clear o2 b2 eR r0 r1 r2 r3 rf;go_wp2;refine bodyPost_ret (v:=.tuple #[stV (resS O).p ra2 (resS O).rs.length rc2 oa2 (resS O).os.length oc2 (resS O).c,.bool O.isSome]) (by simp [results,results52,go_sem,q0,q1,q2,q3]) rfl ⟨_,rfl,?_,?_⟩
   ·exact O2.put4 zR (by omega)
   ·exact (((B2.setCell (nA _) _).setCell (nA _) _).setCell (nA _) _).setCell (nA _) _
  ·have h2':(200:Int)<(m:Int):=by omega
   have HO:Hid (repO g n eh m=none):=by
    show repO g n eh m=none;unfold repO;rw [nB (by omega)]
   go_wp2;refine bodyPost_ret (v:=.tuple #[stV 0 none 0 0 none 0 0 0,.bool false]) (by simp [results,results52,go_sem,r0,r1,r2,r3]) rfl ?_;rw [HO.out];exact ⟨_,rfl,qaf.nil _ _,HPut.out _ _ _ _⟩
 ·have HO:Hid (repO g n eh m=none):=by
   show repO g n eh m=none;unfold repO;rw [nB (by rw [tp];simp)]
  go_wp2;refine bodyPost_ret (v:=.tuple #[stV 0 none 0 0 none 0 0 0,.bool false]) (by simp [results,results52,go_sem,r0,r1,r2,r3]) rfl ?_;rw [HO.out];exact ⟨_,rfl,qaf.nil _ _,HPut.out _ _ _ _⟩
theorem qol (g:Nat->I5) (n:Nat) (eh:Nat->E3) (m:Nat):(resS (repO g n eh m)).rs.length<=1048576/\(resS (repO g n eh m)).os.length<=1048576:=by
 unfold repO
 split
 ·rename_i h
  have hk:∀ k S,rp g n eh k=some S->OkS n S:=by
   intro k
   induction k with
   | zero=>
    intro S hS;simp only [rp,nG] at hS;rw [<- hS];exact qjr h.1
   | succ k ih=>
    intro S hS;simp only [rp] at hS;cases hr:rp g n eh k with
    | none=>rw [hr] at hS;cases hS
    | some S0=>
     rw [hr] at hS;simp only [Option.bind_some,qey] at hS
     split at hS
     ·rename_i hd
      simp only [nG] at hS;rw [<- hS];exact qny hd
     ·cases hS
  cases hr:rp g n eh m with
  | none=>simp [resS]
  | some S=>
   have:=OkS.len (hk m S hr);simp only [resS,Option.getD_some];omega
 ·simp [resS]
theorem qd1 (w:World):
  Calls prog 131 #[] w fun e w'=>∃ v,e=.returned v/\qaf w' w.heap.size v 0 [0,0,0,0] [] 0/\Bw w w':=by
 have hmk:∀ w:World,(Instr.makeSlice 30 (iV 4) (iV 4)).run prog w=.ok (sG w.heap.size 4 4) (w.alloc (.cells (madeCells #[iV 0] 4) 3)):=fun w=>qeg 4 (by omega) w;have HM:Hid (∀ w:World,OwnI (w.alloc (.cells (madeCells #[iV 0] 4) 3)) w.heap.size (sG w.heap.size 4 4) [0,0,0,0]):=fun w=>qob w 4 (by omega)
 go_enter func131,ntmps131
 go_wp2;have hB:w.heap.size<=w.heap.size+1:=by omega
 have hM:=HM.out (w.alloc (oQ1 0 (some ⟨w.heap.size+1,0,none⟩) 4 4 none 0 0 0))
 (try dsimp only [aW] at hM);rw [World.size_alloc] at hM
 refine bodyPost_ret (v:=stV 0 (some ⟨w.heap.size+1,0,none⟩) 4 4 none 0 0 0) (by simp [results,results131,go_sem]) rfl ⟨_,rfl,⟨_,_,rfl,hM.mono hB,World.ownsRow_nil _ _ _ _,fun k _=>by simp [Value.ownBlock]⟩,by go_grown⟩
structure Rn (w wr:World) (A B C gb n gc k:Nat) (p code:Int) (ra:Option Addr) (rc:Nat) (oa:Option Addr) (oc:Nat) (rs os:List Int):Prop where
 la:wr.cell? (aQ A 0)=some (sG gb n gc)
 tl:Tl wr w.heap.size wr.heap.size B p code ra rs.length rc oa os.length oc rs os
 fb:∀ j,wr.frozen? ⟨B,j,none⟩=false
 ck:wr.cell? (aQ C 0)=some (iV k)
 fc:wr.frozen? (aQ C 0)=false
 ne:A≠B/\C≠B/\A≠C/\w.heap.size<=A/\w.heap.size<=C
 nh:¬ qal (stV p ra rs.length rc oa os.length oc code) A/\¬ qal (stV p ra rs.length rc oa os.length oc code) C
 be:Bw w wr
theorem qr2 (gb n gc:Nat) (g:Nat->I5) (w:World) (hn:n<=maxLen) (hg:gb<w.heap.size) (hI:qan w gb 0 n g) (hp:qac g n 4=true):
  Calls prog 130 #[.slice (some (aQ gb 0)) n gc] w fun e w'=>∃ A B C ra rc oa oc,e=.returned (.tuple #[.func (.func 164) #[] #[.pointer (some (aQ A 0)),.pointer (some (aQ B 0)),.pointer (some (aQ C 0))],.nilIface])/\Rn w w' A B C gb n gc 0 0 0 ra rc oa oc [0,0,0,0] []:=by
 have HI:Hid (qan w gb 0 n g):=hI;have HL:Hid (n<=maxLen):=hn;have HP:Hid (qac g n 4=true):=hp;clear hI hn
 go_enter func130,ntmps130
 go_wp2_with fail
 refine (qdd gb 0 n gc g 4 _ HL.out (by simp;omega) (HI.bw (by go_grown) hg)).mono ?_;rintro e w1 ⟨rfl,b1⟩;have B1:Hid (Bw w w1):=qaj (by go_grown) b1 (by simp);have z1:w.heap.size<w1.heap.size:=by have:=b1.size;simp at this;omega
 have l1:w1.cell? (aQ w.heap.size 0)=some (sG gb n gc):=by rw [(qae b1).1 _ _ (by simp)];simp
 clear b1;go_wp2_with fail
 refine (qd1 _).mono ?_;rintro e w2 ⟨v2,rfl,o2,b2⟩;obtain ⟨ra2,rc2,oa2,oc2,rfl,-,-⟩:=o2.read;have z2:=b2.size;have bz:Bw w2 ((w2.alloc (oQ1 0 ra2 4 rc2 oa2 0 oc2 0)).alloc (.cells #[iV 0] 3)):=by go_grown
 have bq:=zT (w2.alloc (oQ1 0 ra2 4 rc2 oa2 0 oc2 0)) (.cells #[iV 0] 3);have b12:=b2.trans (bz.mono b2.size)
 have HR:Hid (Rn w ((w2.alloc (oQ1 0 ra2 4 rc2 oa2 0 oc2 0)).alloc (.cells #[iV 0] 3)) w.heap.size w2.heap.size (w2.heap.size+1) gb n gc 0 0 0 ra2 rc2 oa2 oc2 [0,0,0,0] []):=by
  have o2':qaf w2 w.heap.size (stV 0 ra2 4 rc2 oa2 0 oc2 0) 0 [0,0,0,0] [] 0:=o2.mono (by omega);refine ⟨(zH (b12.block w.heap.size z1)).trans l1,((Tl.of_alloc o2' (by omega) _).bw bq).widen (by simp) (nA _),fun j=>?_,?_,?_,⟨by omega,by omega,by omega,by omega,by omega⟩,⟨fun h=>?_,fun h=>?_⟩,B1.trans (b12.mono B1.size)⟩
  ·rw [zI (bq.block w2.heap.size (by simp))]
   exact yD _ _ _ j rfl
  ·have:=zW (w2.alloc (oQ1 0 ra2 4 rc2 oa2 0 oc2 0)) #[iV 0] 3 0 rfl
   (try dsimp only [aW] at this);rw [World.size_alloc] at this
   exact this
  ·have:=yD (w2.alloc (oQ1 0 ra2 4 rc2 oa2 0 oc2 0)) #[iV 0] 3 0 rfl
   (try dsimp only [aW] at this);rw [World.size_alloc] at this
   exact this
  ·have:=(o2.lt h).1
   omega
  ·have:=(o2.lt h).2
   omega
 clear o2 b2 bz bq b12 l1;go_wp2;exact bodyPost_ret (v:=.tuple #[.func (.func 164) #[] #[.pointer (some ⟨w.heap.size,0,none⟩),.pointer (some ⟨w2.heap.size,0,none⟩),.pointer (some ⟨w2.heap.size+1,0,none⟩)],.nilIface]) (by simp [results,results130,go_sem]) rfl ⟨_,_,_,_,_,_,_,rfl,HR.out⟩
theorem qaf.set1 {w:World} {B N:Nat} {v:Value} {p code:Int} {rs os:List Int} (h:qaf w B v p rs os code) (hN:N<B) (j:Nat) (u:Value):qaf (w.setCell (aQ N j) u) B v p rs os code:=by
 obtain ⟨vr,vo,e,o1,o2,ha⟩:=h;exact ⟨vr,vo,e,o1.setBelow hN _,o2.setBelow hN _,ha⟩
theorem Rn.bw {w wr w':World} {A B C gb n gc k:Nat} {p code:Int} {ra:Option Addr} {rc:Nat} {oa:Option Addr} {oc:Nat} {rs os:List Int} (h:Rn w wr A B C gb n gc k p code ra rc oa oc rs os) (hb:Bw wr w'):Rn w w' A B C gb n gc k p code ra rc oa oc rs os:=
 ⟨(zH (hb.block A (zJ wr _ h.la))).trans h.la,(h.tl.bw hb).widen hb.size (nA _),fun j=>(zI (hb.block B h.tl.hi)).trans (h.fb j),(zH (hb.block C (zJ wr _ h.ck))).trans h.ck,(zI (hb.block C (zJ wr _ h.ck))).trans h.fc,h.ne,h.nh,h.be.trans (hb.mono h.be.size)⟩
theorem Rn.next {w w4:World} {A B C gb n gc k:Nat} {p code:Int} {ra:Option Addr} {rc:Nat} {oa:Option Addr} {oc:Nat} {rs os:List Int} (h:Rn w w4 A B C gb n gc k p code ra rc oa oc rs os) {B7 R1:Nat} {S:S4} {ra7 oa7:Option Addr} {rc7 oc7:Nat} (o:qaf w4 B7 (stV S.p ra7 S.rs.length rc7 oa7 S.os.length oc7 S.c) S.p S.rs S.os S.c) (hA:A<B7) (hB:B<B7) (hC:C<B7) (hR:R1<B7) (n1:R1≠A) (n2:R1≠B) (n3:R1≠C) (n4:w.heap.size<=R1) (z7:w.heap.size<=B7):
  Rn w (((((((((w4.setCell (aQ B 0) (iV S.p)).setCell (aQ B 1) (.slice ra7 S.rs.length rc7)).setCell (aQ B 2) (.slice oa7 S.os.length oc7)).setCell (aQ B 3) (iV S.c)).setCell (aQ C 0) (iV ((k+1:Nat):Int))).setCell (aQ R1 0) (iV S.p)).setCell (aQ R1 1) (.slice ra7 S.rs.length rc7)).setCell (aQ R1 2) (.slice oa7 S.os.length oc7)).setCell (aQ R1 3) (iV S.c)) A B C gb n gc (k+1) S.p S.c ra7 rc7 oa7 oc7 S.rs S.os:=by
 obtain ⟨e1,e2,e3,e4,e5⟩:=h.ne;have zB:=h.tl.hi;have lB:=h.tl.lo;have o7:qaf (((((((((w4.setCell (aQ B 0) (iV S.p)).setCell (aQ B 1) (.slice ra7 S.rs.length rc7)).setCell (aQ B 2) (.slice oa7 S.os.length oc7)).setCell (aQ B 3) (iV S.c)).setCell (aQ C 0) (iV ((k+1:Nat):Int))).setCell (aQ R1 0) (iV S.p)).setCell (aQ R1 1) (.slice ra7 S.rs.length rc7)).setCell (aQ R1 2) (.slice oa7 S.os.length oc7)).setCell (aQ R1 3) (iV S.c)) B7 (stV S.p ra7 S.rs.length rc7 oa7 S.os.length oc7 S.c) S.p S.rs S.os S.c:=((((((((o.set1 hB _ _).set1 hB _ _).set1 hB _ _).set1 hB _ _).set1 hC _ _).set1 hR _ _).set1 hR _ _).set1 hR _ _).set1 hR _ _;obtain ⟨b0,b1,b2,b3⟩:=h.tl.box;have la:=h.la;have ck:=h.ck;have dAB:(⟨B,0,none⟩:Addr).block≠(⟨A,0,none⟩:Addr).block:=fun e=>e1 e.symm;dsimp only [aQ] at *;refine ⟨?_,⟨lB,by simp;exact zB,nA _,⟨?_,?_,?_,?_⟩,o7.mono z7,fun j hj=>(o7.lt hj).2,fun hj=>?_⟩,fun j=>?_,?_,?_,⟨e1,e2,e3,e4,e5⟩,⟨fun hj=>?_,fun hj=>?_⟩,?_⟩
 ·(dsimp only [aQ];have dAC:(⟨B,0,none⟩:Addr).block≠(⟨A,0,none⟩:Addr).block:=fun e=>e1 e.symm;go_cell)
 ·go_cell
 ·go_cell
 ·go_cell
 ·go_cell
 ·have:=(o.lt hj).1
  omega
 ·simp only [World.frozen?_setCell]
  exact h.fb j
 ·go_cell
 ·simp only [World.frozen?_setCell]
  exact h.fc
 ·have:=(o.lt hj).1
  omega
 ·have:=(o.lt hj).1
  omega
 ·exact ((((((((h.be.setCell lB _).setCell lB _).setCell lB _).setCell lB _).setCell e5 _).setCell n4 _).setCell n4 _).setCell n4 _).setCell n4 _
