import Derived.Test.YtkdablcbhhphoaaGreatDoorMt7
import Derived.Test.YtkdablcbhhphoaaGreatDoorMt8
import Derived.ShutString
namespace Go.Proofs.YtkdablcbhhphoaaGreatDoor
open Go.Proofs.Tryz
set_option maxRecDepth 100000
set_option maxHeartbeats 4000000
open Go.ChangeShapes Go.WideShapes Go.ChangeAt Go.RowKit
theorem Tryz.own:ownKnob prog.godebug=none:=by kernel_rfl
theorem Tryz.laidOut:laidOutB prog=true:=by kernel_rfl
theorem qpm:prog.cellsOf 224=5:=by kernel_rfl
theorem qkm:prog.cellsOf 159=4:=by kernel_rfl
theorem qb4:prog.cellsOf 3=1:=by kernel_rfl
theorem qm1:prog.cellsOf 28=1:=by kernel_rfl
theorem qls {H:Type} {enc:TypeId × Value->H} {w:World} {base fuel:Nat} {spare:Nat->Bool} {held:Bool} {c0 c1 c2 c3 c4:Value} {x:DataW H × List MemPlace}
  (hf:DataW.trod enc prog w base spare held fuel 224 [c0,c1,c2,c3,c4]=some x):
  ∃ op r a b n:Int,c0=.int .i64 op/\c1=.int .i64 r/\c2=.int .i64 a/\c3=.int .i64 b/\c4=.int .i64 n:=by
 obtain ⟨xs,m,-,-,-,hl,hx⟩:=DataW.trod_struct Tryz.underlying224 hf;have hl:xs.length=5:=hl;have q0:DataW.trod enc prog w base spare held m 3 [c0]=xs[0]?:=by simpa [qb4] using hx 0 _ rfl
 have q1:DataW.trod enc prog w base spare held m 3 [c1]=xs[1]?:=by simpa [qb4] using hx 1 _ rfl
 have q2:DataW.trod enc prog w base spare held m 3 [c2]=xs[2]?:=by simpa [qb4] using hx 2 _ rfl
 have q3:DataW.trod enc prog w base spare held m 3 [c3]=xs[3]?:=by simpa [qb4] using hx 3 _ rfl
 have q4:DataW.trod enc prog w base spare held m 3 [c4]=xs[4]?:=by simpa [qb4] using hx 4 _ rfl
 rw [List.getElem?_eq_getElem (by omega)] at q0 q1 q2 q3 q4;obtain ⟨z0,e0,-,-⟩:=DataW.trod_int Tryz.underlying3 q0;obtain ⟨z1,e1,-,-⟩:=DataW.trod_int Tryz.underlying3 q1;obtain ⟨z2,e2,-,-⟩:=DataW.trod_int Tryz.underlying3 q2;obtain ⟨z3,e3,-,-⟩:=DataW.trod_int Tryz.underlying3 q3;obtain ⟨z4,e4,-,-⟩:=DataW.trod_int Tryz.underlying3 q4;simp only [List.cons.injEq,and_true] at e0 e1 e2 e3 e4;exact ⟨z0,z1,z2,z3,z4,e0,e1,e2,e3,e4⟩
theorem qb3 (b off j:Nat):Addr.add ⟨b,off,none⟩ j=⟨b,off+j,none⟩:=by
 unfold Addr.add;by_cases h:j=0
 ·rw [nC h,h,nP]
 ·rw [nB h]
theorem qge {w:World} {p:Addr} {v:Value} (h:w.cell? p=some v):p.block<w.heap.size:=zJ w p h
theorem qqm {H:Type} {enc:TypeId × Value->H} {w:World} {spare:Nat->Bool} {held:Bool} {base:Nat} {a0:Option Addr} {len cap:Nat} {d:DataW H} {p:List MemPlace}
  (h:DataW.Trod enc prog w base spare held 157 (.slice a0 len cap) d p):
  len<=maxLen/\(len=0\/∃ b off g,a0=some ⟨b,off,none⟩/\b<w.heap.size/\qao w b off len g):=by
 obtain ⟨fuel,hf⟩:=h
 rcases Go.Deep.open_slice Tryz.underlying157 hf with ⟨hcs,_⟩ | ⟨a,len',cap',m,n,D,Pl,hcs,_,hl,hm,hmm,_,hx⟩
 ·simp [Value.cells] at hcs
  obtain ⟨_,rfl,_⟩:=hcs;exact ⟨nD _,.inl rfl⟩
 ·simp [Value.cells] at hcs
  obtain ⟨rfl,rfl,rfl⟩:=hcs;refine ⟨zO hl hm,?_⟩;by_cases h0:len=0
  ·exact .inl h0
  right;have hle:len<=m:=by rw [hmm];split <;> omega
  rw [qpm] at hx;obtain ⟨b,off,spot⟩:=a
  have hcell:∀ i,i<len->∃ x:I5,w.cell? (Addr.add (Addr.add ⟨b,off,spot⟩ (i*5)) 0)=some (.int .i64 x.o)/\w.cell? (Addr.add (Addr.add ⟨b,off,spot⟩ (i*5)) 1)=some (.int .i64 x.r)/\w.cell? (Addr.add (Addr.add ⟨b,off,spot⟩ (i*5)) 2)=some (.int .i64 x.a)/\w.cell? (Addr.add (Addr.add ⟨b,off,spot⟩ (i*5)) 3)=some (.int .i64 x.b)/\w.cell? (Addr.add (Addr.add ⟨b,off,spot⟩ (i*5)) 4)=some (.int .i64 x.n):=by
   intro i hi;obtain ⟨cs',h1,h2⟩:=hx i (by omega);obtain ⟨_,hlen,hc⟩:=World.cells?_some h1
   match cs',hlen with
   | [c0,c1,c2,c3,c4],_=>
    obtain ⟨o,r,a,b,n,rfl,rfl,rfl,rfl,rfl⟩:=qls h2;exact ⟨⟨o,r,a,b,n⟩,hc 0 (by omega),hc 1 (by omega),hc 2 (by omega),hc 3 (by omega),hc 4 (by omega)⟩
  have hspot:spot=none:=by
   obtain ⟨x,hx0,_⟩:=hcell 0 (by omega);simpa [Addr.add] using World.cell?_spot hx0
  subst hspot;have inh:Inhabited I5:=⟨⟨0,0,0,0,0⟩⟩
  obtain ⟨g,hg⟩:=Go.Deep.choose_lt (α:=I5) hcell
  have hI:qao w b off len g:=by
   intro i hi;obtain ⟨q0,q1,q2,q3,q4⟩:=hg i hi;rw [qb3,qb3] at q0 q1 q2 q3 q4;exact ⟨q0,q1,q2,q3,q4⟩
  exact ⟨b,off,g,rfl,qge (hI 0 (by omega)).1,hI⟩
theorem qir {H:Type} {enc:TypeId × Value->H} {w:World} {held:Bool} {base fuel:Nat} {v:Value} {x:DataW H × List MemPlace}
  (hf:DataW.trod enc prog w base (fun _=>true) held fuel 28 [v]=some x):
  ∃ a0 cap xs,v=.slice a0 xs.length cap/\xs.length<=maxLen/\Sl w a0 xs:=by
 rcases open_ints Tryz.underlying28 Tryz.underlying3 qb4 hf with ⟨hcs,_⟩ | ⟨a,l,c,zs,hcs,_,hl,hm,hz,_,hcell,_⟩
 ·simp at hcs
  exact ⟨none,0,[],hcs,nD _,.inl rfl⟩
 ·simp at hcs
  have hz':zs.length=c:=by simpa using hz
  have hlen:(zs.take l).length=l:=by simp;omega
  refine ⟨some a,c,zs.take l,by rw [hlen];exact hcs,by rw [hlen];exact zO hl hm,?_⟩;by_cases h0:l=0
  ·exact .inl (by simp [h0])
  obtain ⟨b,off,rfl,hc⟩:=ints_at hcell (by omega);refine .inr ⟨b,off,rfl,qge (hc 0 (by omega)),fun i hi=>?_⟩;rw [hlen] at hi;rw [hc i (by omega)];unfold zi;rw [List.getD_eq_getElem?_getD,List.getD_eq_getElem?_getD,List.getElem?_take,nC hi]
open Go.Deep
theorem qgd {ops:Array Oper} {rest:List Oper} {op:Oper} {act:Act} {Q:Exit->Act->World->Prop} (w:World) (hgd:op.guard=none) (s x:Operand)
  (ho:op.op=.call { callee:=.builtin .append,args:=#[s,x],argTypes:=#[28,28] })
  (B:Nat) (v:Value) (xs:List Int) (hs:act.eval s=v) (hv:OwnI w B v xs) (y:Int) (hx:act.eval x=.slice (some ⟨w.heap.size,0,none⟩) 1 1) (hn:xs.length<=1048576) (hB:B<=w.heap.size)
  (h:∀ v' w',OwnI w' B v' (xs ++ [y])->Below B w w'->wpList prog ops Q rest (act.put op.dst v') w'):
  wpList prog ops Q (op :: rest) act (w.alloc (.cells #[.int .i64 y] 3)):=by
 have hb:Below w.heap.size w (w.alloc (.cells #[.int .i64 y] 3)):=(nE _ _).alloc (nA _) _;refine qbd _ hgd s x ho B 1 v (some ⟨w.heap.size,0,none⟩) xs [y] hs hx (hv.bw hb) (.inr ⟨w.heap.size,0,rfl,by simp,fun i hi=>?_⟩) (by simp;omega) (by simp;omega) ?_
 ·have:i=0:=by simp at hi;omega
  subst this;exact zV _ _ _ 0 rfl
 ·intro v' w' o g _
  refine h v' w' o (Below.grown (hb.mono hB) g (by simp;omega) (fun k hk=>(hv.lt k hk).1))
theorem qh9 {ops:Array Oper} {rest:List Oper} {op:Oper} {act:Act} {Q:Exit->Act->World->Prop} (w:World) {N:Nat} (hN:N=w.heap.size) (hgd:op.guard=none) (s x:Operand)
  (ho:op.op=.call { callee:=.builtin .append,args:=#[s,x],argTypes:=#[28,28] })
  (B:Nat) (v:Value) (xs:List Int) (hs:act.eval s=v) (hv:OwnI w B v xs) (y:Int) (hx:act.eval x=.slice (some ⟨N,0,none⟩) 1 1) (hn:xs.length<=1048576) (hB:B<=w.heap.size)
  (h:∀ v' w',OwnI w' B v' (xs ++ [y])->Below B w w'->wpList prog ops Q rest (act.put op.dst v') w'):
  wpList prog ops Q (op :: rest) act (w.alloc (.cells #[.int .i64 y] 3)):=by
 subst hN;exact qgd w hgd s x ho B v xs hs hv y hx hn hB h
theorem OwnI.to {w:World} {B:Nat} {v:Value} {xs ys:List Int} (h:OwnI w B v xs) (e:ys=xs):OwnI w B v ys:=e ▸ h
abbrev dV (p a b c d:Int) (oa:Option Addr) (on oc:Nat) (code:Int):Value:=.agg #[.int .i64 p,.int .i64 a,.int .i64 b,.int .i64 c,.int .i64 d,.slice oa on oc,.int .i64 code]
theorem qcl (p a b c d:Int) (oa:Option Addr) (on oc:Nat) (code:Int) (w:World) (h0:0<=p) (h1:p<=1000000000):
  Calls prog 239 #[dV p a b c d oa on oc code] w (rB w (dV (p+1) a b c d oa on oc code)):=by
 go_enter func239,ntmps239
 go_wp2;refine bodyPost_ret (v:=dV (p+1) a b c d oa on oc code) (by simp [results,results239,go_sem]) rfl ⟨rfl,?_⟩
 go_grown
def set4 (a b c d:Int) (j:Nat) (v:Int):Int × Int × Int × Int:=if j=0 then (v,b,c,d) else if j=1 then (a,v,c,d) else if j=2 then (a,b,v,d) else (a,b,c,v)
theorem qfb (p a b c d:Int) (oa:Option Addr) (on oc:Nat) (code:Int) (j:Nat) (v:Int) (w:World) (h0:0<=p) (h1:p<=1000000000) (hj:j<4):
  Calls prog 238 #[dV p a b c d oa on oc code,.int .i64 j,.int .i64 v] w (rB w (dV (p+1) (set4 a b c d j v).1 (set4 a b c d j v).2.1 (set4 a b c d j v).2.2.1 (set4 a b c d j v).2.2.2 oa on oc code)):=by
 have hh:j=0\/j=1\/j=2\/j=3:=by omega
 rcases hh with rfl | rfl | rfl | rfl
 ·go_enter func238,ntmps238
  go_wp2_with fail
  refine (qcl _ _ _ _ _ _ _ _ _ _ h0 h1).mono ?_;rintro e w1 ⟨rfl,b1⟩;have B1:Hid (Below w.heap.size w w1):=qai (by go_grown) b1 (by simp;omega);obtain ⟨hc1,hf1⟩:=qap b1;clear b1;go_wp2;refine bodyPost_ret (v:=dV (p+1) v b c d oa on oc code) (by simp [results,results238,go_sem,hc1]) rfl ⟨rfl,?_⟩;have:=B1.out
  go_grown
 ·go_enter func238,ntmps238
  go_wp2_with fail
  refine (qcl _ _ _ _ _ _ _ _ _ _ h0 h1).mono ?_;rintro e w1 ⟨rfl,b1⟩;have B1:Hid (Below w.heap.size w w1):=qai (by go_grown) b1 (by simp;omega);obtain ⟨hc1,hf1⟩:=qap b1;clear b1;go_wp2;refine bodyPost_ret (v:=dV (p+1) a v c d oa on oc code) (by simp [results,results238,go_sem,hc1]) rfl ⟨rfl,?_⟩;have:=B1.out
  go_grown
 ·go_enter func238,ntmps238
  go_wp2_with fail
  refine (qcl _ _ _ _ _ _ _ _ _ _ h0 h1).mono ?_;rintro e w1 ⟨rfl,b1⟩;have B1:Hid (Below w.heap.size w w1):=qai (by go_grown) b1 (by simp;omega);obtain ⟨hc1,hf1⟩:=qap b1;clear b1;go_wp2;refine bodyPost_ret (v:=dV (p+1) a b v d oa on oc code) (by simp [results,results238,go_sem,hc1]) rfl ⟨rfl,?_⟩;have:=B1.out
  go_grown
 ·go_enter func238,ntmps238
  go_wp2_with fail
  refine (qcl _ _ _ _ _ _ _ _ _ _ h0 h1).mono ?_;rintro e w1 ⟨rfl,b1⟩;have B1:Hid (Below w.heap.size w w1):=qai (by go_grown) b1 (by simp;omega);obtain ⟨hc1,hf1⟩:=qap b1;clear b1;go_wp2;refine bodyPost_ret (v:=dV (p+1) a b c v oa on oc code) (by simp [results,results238,go_sem,hc1]) rfl ⟨rfl,?_⟩;have:=B1.out
  go_grown
theorem qps (p code:Int) (ra oa:Option Addr) (rc oc:Nat) (a b c d:Int) (os:List Int) (w:World) (ho:os.length<=1048576) (h1:Sl w ra [a,b,c,d]) (h2:Sl w oa os):
  Calls prog 168 #[stV p ra 4 rc oa os.length oc code] w fun e w'=>∃ oa' oc',e=.returned (dV p a b c d oa' os.length oc' code)/\OwnI w' w.heap.size (.slice oa' os.length oc') os/\Below w.heap.size w w':=by
 have H1:Hid (Sl w ra [a,b,c,d]):=h1;have H2:Hid (Sl w oa os):=h2;clear h1 h2
 go_enter func168,ntmps168
 go_wp2_with fail
 refine (qcf ra rc [a,b,c,d] _ (H1.bw (by go_grown))).mono ?_;rintro e w1 ⟨⟨q0,q1,q2,q3,rfl,hq⟩,b1⟩;have hq':=hq rfl;simp only [List.cons.injEq,and_true] at hq';obtain ⟨rfl,rfl,rfl,rfl⟩:=hq';have B1:Hid (Below w.heap.size w w1):=qai (by go_grown) b1 (by simp;omega);obtain ⟨hc1,hf1⟩:=qap b1;have y1:w.heap.size+1<w1.heap.size:=by have:=b1.size;simp at this;omega
 have y0:w.heap.size<w1.heap.size:=by omega
 clear b1 hq;go_wp2_with fail
 have B2:Hid (Below w.heap.size w (w1.alloc (.cells #[.int .i64 a,.int .i64 b,.int .i64 c,.int .i64 d] 203))):=B1.alloc (by omega) _;generalize hW:w1.alloc (.cells #[.int .i64 a,.int .i64 b,.int .i64 c,.int .i64 d] 203)=W at *;have lr:w1.heap.size<W.heap.size:=by rw [<- hW];simp
 have k0:W.cell? ⟨w1.heap.size,0,none⟩=some (.int .i64 a):=by rw [<- hW];simp
 have k1:W.cell? ⟨w1.heap.size,1,none⟩=some (.int .i64 b):=by rw [<- hW];simp
 have k2:W.cell? ⟨w1.heap.size,2,none⟩=some (.int .i64 c):=by rw [<- hW];simp
 have k3:W.cell? ⟨w1.heap.size,3,none⟩=some (.int .i64 d):=by rw [<- hW];simp
 have s0:W.cell? ⟨w.heap.size,0,none⟩=some (.int .i64 p):=by rw [<- hW,zQ _ _ y0,hc1 _ _ (by simp;omega)];simp
 have s2:W.cell? ⟨w.heap.size,2,none⟩=some (.slice oa os.length oc):=by rw [<- hW,zQ _ _ y0,hc1 _ _ (by simp;omega)];simp
 have s3:W.cell? ⟨w.heap.size,3,none⟩=some (.int .i64 code):=by rw [<- hW,zQ _ _ y0,hc1 _ _ (by simp;omega)];simp
 have e0:W.cell? ⟨w.heap.size+1,0,none⟩=some (.int .i64 0):=by rw [<- hW,zQ _ _ y1,hc1 _ _ (by simp)];simp
 have e1:W.cell? ⟨w.heap.size+1,1,none⟩=some (.int .i64 0):=by rw [<- hW,zQ _ _ y1,hc1 _ _ (by simp)];simp
 have e2:W.cell? ⟨w.heap.size+1,2,none⟩=some (.int .i64 0):=by rw [<- hW,zQ _ _ y1,hc1 _ _ (by simp)];simp
 have e3:W.cell? ⟨w.heap.size+1,3,none⟩=some (.int .i64 0):=by rw [<- hW,zQ _ _ y1,hc1 _ _ (by simp)];simp
 have e4:W.cell? ⟨w.heap.size+1,4,none⟩=some (.int .i64 0):=by rw [<- hW,zQ _ _ y1,hc1 _ _ (by simp)];simp
 have e5:W.cell? ⟨w.heap.size+1,5,none⟩=some nS:=by rw [<- hW,zQ _ _ y1,hc1 _ _ (by simp)];simp
 have e6:W.cell? ⟨w.heap.size+1,6,none⟩=some (.int .i64 0):=by rw [<- hW,zQ _ _ y1,hc1 _ _ (by simp)];simp
 have ef:∀ j,W.frozen? ⟨w.heap.size+1,j,none⟩=false:=fun j=>by rw [<- hW,zI (Below.heap_alloc w1 _ _ y1),hf1 _ _ (by simp)];simp
 have l0:w.heap.size<W.heap.size:=by omega
 have l1:w.heap.size+1<W.heap.size:=by omega
 have ne1:w1.heap.size≠w.heap.size+1:=by omega
 have ne2:w.heap.size+1≠w1.heap.size:=by omega
 clear hc1 hf1 hW B1 y0 y1
 go_region_held3 (fun w'=>w'.cell? ⟨w.heap.size,0,none⟩=some (.int .i64 p)/\w'.cell? ⟨w.heap.size,2,none⟩=some (.slice oa os.length oc)/\w'.cell? ⟨w.heap.size,3,none⟩=some (.int .i64 code)/\w'.cell? ⟨w1.heap.size,0,none⟩=some (.int .i64 a)/\w'.cell? ⟨w1.heap.size,1,none⟩=some (.int .i64 b)/\w'.cell? ⟨w1.heap.size,2,none⟩=some (.int .i64 c)/\w'.cell? ⟨w1.heap.size,3,none⟩=some (.int .i64 d)) (go_keep)
  (first|(go_at_call 138;refine (qfk oa oc os _ ho (by exact H2.bw B2.drew)).mono ?_;rintro e w2 ⟨v2,rfl,o2,b2'⟩;have b2:Below W.heap.size W w2:=(nE W.heap.size W).drew.trans b2';obtain ⟨oa2,oc2,rfl,-⟩:=o2.form;obtain ⟨hc2,hf2⟩:=qap b2;have O2:Hid (OwnI w2 W.heap.size (.slice oa2 os.length oc2) os):=o2;have B3:Hid (Below w.heap.size w w2):=B2.trans (b2.mono B2.size);clear o2 b2 b2'))
 go_wp2;refine bodyPost_ret (v:=dV p a b c d oa2 os.length oc2 code) (by simp [results,results168,go_sem,hc2,l1,e0,e1,e2,e3,e4,e5,e6]) rfl ⟨_,_,rfl,?_,?_⟩
 ·refine OwnI.mono (B:=W.heap.size) ?_ (by omega)
  repeat (refine OwnI.setBelow ?_ (by simpa using by omega) _)
  exact O2.out
 ·have:=B3.out
  go_grown
theorem qvv (p a b c d:Int) (oa:Option Addr) (oc:Nat) (os:List Int) (code:Int) (B:Nat) (w:World) (hB:B<=w.heap.size) (ho:OwnI w B (.slice oa os.length oc) os):
  Calls prog 171 #[dV p a b c d oa os.length oc code] w fun e w'=>∃ v,e=.returned v/\qag w' B v p [a,b,c,d] os code/\Below w.heap.size w w':=by
 have HO:Hid (OwnI w B (.slice oa os.length oc) os):=ho;clear ho
 go_enter func171,ntmps171
 go_wp2_with fail
 have B2:Hid (Below w.heap.size w ((w.alloc (oQ3 p a b c d oa os.length oc code)).alloc (zQ0))):=by
  show Below _ _ _
  go_grown
 have k0:((w.alloc (oQ3 p a b c d oa os.length oc code)).alloc (zQ0)).cell? ⟨w.heap.size,0,none⟩=some (.int .i64 p):=(zQ _ _ (by simp)).trans (by simp);have k1:((w.alloc (oQ3 p a b c d oa os.length oc code)).alloc (zQ0)).cell? ⟨w.heap.size,1,none⟩=some (.int .i64 a):=(zQ _ _ (by simp)).trans (by simp);have k2:((w.alloc (oQ3 p a b c d oa os.length oc code)).alloc (zQ0)).cell? ⟨w.heap.size,2,none⟩=some (.int .i64 b):=(zQ _ _ (by simp)).trans (by simp);have k3:((w.alloc (oQ3 p a b c d oa os.length oc code)).alloc (zQ0)).cell? ⟨w.heap.size,3,none⟩=some (.int .i64 c):=(zQ _ _ (by simp)).trans (by simp);have k4:((w.alloc (oQ3 p a b c d oa os.length oc code)).alloc (zQ0)).cell? ⟨w.heap.size,4,none⟩=some (.int .i64 d):=(zQ _ _ (by simp)).trans (by simp);have k5:((w.alloc (oQ3 p a b c d oa os.length oc code)).alloc (zQ0)).cell? ⟨w.heap.size,5,none⟩=some (.slice oa os.length oc):=(zQ _ _ (by simp)).trans (by simp);have k6:((w.alloc (oQ3 p a b c d oa os.length oc code)).alloc (zQ0)).cell? ⟨w.heap.size,6,none⟩=some (.int .i64 code):=(zQ _ _ (by simp)).trans (by simp);have e0:((w.alloc (oQ3 p a b c d oa os.length oc code)).alloc (zQ0)).cell? ⟨w.heap.size+1,0,none⟩=some (.int .i64 0):=by simp
 have e1:((w.alloc (oQ3 p a b c d oa os.length oc code)).alloc (zQ0)).cell? ⟨w.heap.size+1,1,none⟩=some nS:=by simp
 have e2:((w.alloc (oQ3 p a b c d oa os.length oc code)).alloc (zQ0)).cell? ⟨w.heap.size+1,2,none⟩=some nS:=by simp
 have e3:((w.alloc (oQ3 p a b c d oa os.length oc code)).alloc (zQ0)).cell? ⟨w.heap.size+1,3,none⟩=some (.int .i64 0):=by simp
 have ef:∀ j,((w.alloc (oQ3 p a b c d oa os.length oc code)).alloc (zQ0)).frozen? ⟨w.heap.size+1,j,none⟩=false:=fun j=>by simp
 have l1:w.heap.size+1<((w.alloc (oQ3 p a b c d oa os.length oc code)).alloc (zQ0)).heap.size:=by simp
 generalize (w.alloc (oQ3 p a b c d oa os.length oc code)).alloc (zQ0)=W at *;have l0:w.heap.size<W.heap.size:=by omega
 have HS : Hid (Sl W (some ⟨w.heap.size, 1, none⟩) [a, b, c, d]) := .inr ⟨_, _, rfl, l0, fun i hi => by
  match i,hi with
  | 0,_=>exact k1
  | 1,_=>exact k2
  | 2,_=>exact k3
  | 3,_=>exact k4⟩
 have ne2:w.heap.size+1≠w.heap.size:=by omega
 have ne1:w.heap.size≠w.heap.size+1:=by omega
 go_region_held3 (fun w'=>w'.cell? ⟨w.heap.size,0,none⟩=some (.int .i64 p)/\w'.cell? ⟨w.heap.size,5,none⟩=some (.slice oa os.length oc)/\w'.cell? ⟨w.heap.size,6,none⟩=some (.int .i64 code)) (go_keep)
  (first|(go_at_call 138;refine (qfk _ _ [a,b,c,d] _ (by simp) (by exact HS.bw ((nE W.heap.size W).drew))).mono ?_;rintro e w2 ⟨v2,rfl,o2,b2'⟩;have b2:Below W.heap.size W w2:=(nE W.heap.size W).drew.trans b2';obtain ⟨ra2,rc2,hv2,-⟩:=o2.form;rw [show [a,b,c,d].length=4 from rfl] at hv2;subst hv2;obtain ⟨hc2,hf2⟩:=qap b2;have O2:Hid (OwnI w2 W.heap.size (.slice ra2 4 rc2) [a,b,c,d]):=o2;have P2:Hid (OwnI w2 B (.slice oa os.length oc) os):=(HO.bw B2.out).bw b2;have B3:Hid (Below w.heap.size w w2):=B2.trans (b2.mono B2.size);clear o2 b2 b2'))
 have lo:∀ j,(Value.slice oa os.length oc).ownBlock=some j->j<w.heap.size:=fun j hj=>(HO.lt j hj).2;have LO:Hid (∀ j,(Value.slice oa os.length oc).ownBlock=some j->j<w.heap.size):=lo;clear lo HS k0 k1 k2 k3 k4 k5 k6;go_wp2;refine bodyPost_ret (v:=stV p ra2 4 rc2 oa os.length oc code) (by simp [results,results171,go_sem,hc2,l1,e0,e1,e2,e3]) rfl ⟨_,rfl,⟨_,_,rfl,?_,?_,?_⟩,?_⟩
 ·refine OwnI.mono (B:=W.heap.size) ?_ (by omega)
  repeat (refine OwnI.setBelow ?_ (by simpa using l1) _)
  exact O2.out
 ·repeat (refine OwnI.setOther ?_ (fun e=>by have:=LO.out _ e;simp at this;omega) _)
  exact P2.out
 ·intro j h1 h2
  have:=(O2.lt j h1).1;have:=LO.out j h2;omega
 ·have:=B3.out
  go_grown
theorem qa9.of_row {v:Value} {w w':World} {row:Option Nat} (g:w.grownBy w' row) (h:∀ k,row=some k->qae v k):qa9 v w w':=
 ⟨g.os,g.tape,g.output,g.size,fun k hk hn=>g.block k hk (fun e=>hn (h k e.symm))⟩
theorem qrs {w w':World} {row:Option Nat} (h:w.grownBy w' row):w.grownBy w'.drew row:=⟨h.os,h.tape,h.output,h.size,h.block⟩
theorem qa9.trans {v:Value} {w w1 w2:World} (h:qa9 v w w1) (k:qa9 v w1 w2):qa9 v w w2:=
 ⟨k.os.trans h.os,k.tape.trans h.tape,k.output.trans h.output,zO h.size k.size,fun j hj hn=>(k.block j (zL hj h.size) hn).trans (h.block j hj hn)⟩
theorem qa9.of_below {v:Value} {w w':World} (h:Below w.heap.size w w'):qa9 v w w':=⟨h.os,h.tape,h.output,h.size,fun k hk _=>h.block k hk⟩
theorem qag.parts {w:World} {B:Nat} {p code:Int} {ra oa:Option Addr} {rn rc on oc:Nat} {rs os:List Int} (h:qag w B (stV p ra rn rc oa on oc code) p rs os code):OwnI w B (.slice ra rn rc) rs/\OwnI w B (.slice oa on oc) os/\∀ k,(Value.slice ra rn rc).ownBlock=some k->(Value.slice oa on oc).ownBlock≠some k:=by
 obtain ⟨vr,vo,e,o1,o2,ha⟩:=h;simp only [stV,Value.agg.injEq,Array.mk.injEq,List.cons.injEq,and_true,true_and] at e;obtain ⟨rfl,rfl⟩:=e;exact ⟨o1,o2,ha⟩
theorem qqc (b off len cap k:Nat) (g:Nat->I5) (ra oa:Option Addr) (rc oc:Nat) (rs os:List Int) (B:Nat) (v:Int) (w:World) (hl:(len:Int)<=30) (hb:b<w.heap.size) (hI:qao w b off len g) (h4:rs.length=4) (hO:qag w B (stV k ra rs.length rc oa os.length oc 0) k rs os 0) (hk:k<len) (hp:qac g len 4=true) (hnum:allN rs=true) (h678:(g k).o≠6/\(g k).o≠7/\(g k).o≠8):
  Calls prog 161 #[.slice (some ⟨b,off,none⟩) len cap,stV k ra rs.length rc oa os.length oc 0] w fun e w'=>∃ u,(∃ q c,u=stV q ra rs.length rc oa os.length oc c)/\e=.returned u/\qag w' B u (qah len (g k) k rs os 0 v).p (qah len (g k) k rs os 0 v).rs (qah len (g k) k rs os 0 v).os (qah len (g k) k rs os 0 v).c/\qa9 (stV k ra rs.length rc oa os.length oc 0) w w':=by
 obtain ⟨o1,o2,ha⟩:=hO.parts;obtain ⟨G,rfl,_,_,_⟩:=qh1 o1 (by omega);obtain ⟨⟨q1,q11⟩,⟨r0,r3⟩,⟨a0,a3⟩,⟨b0,b3⟩⟩:=qce (qbw hp hk);obtain ⟨jr,hjr⟩:=Int.eq_ofNat_of_zero_le r0;obtain ⟨ja,hja⟩:=Int.eq_ofNat_of_zero_le a0;obtain ⟨jb,hjb⟩:=Int.eq_ofNat_of_zero_le b0;have hn4:∀ j,j<4->numB (zi rs j)=true:=fun j hj=>(List.all_eq_true.1 hnum) _ (qx3 (by omega));rw [h4] at o1 ha ⊢
 have key:∀ s:S4,s=qah len (g k) k rs os 0 0->s.os=os->(Calls prog 161 #[.slice (some ⟨b,off,none⟩) len cap,stV k (some ⟨G,0,none⟩) 4 rc oa os.length oc 0] w fun e w'=>e=.returned (stV s.p (some ⟨G,0,none⟩) 4 rc oa os.length oc s.c)/\OwnI w' B (sG G 4 rc) s.rs/\w.grownBy w' (some G))->qah len (g k) k rs os 0 v=qah len (g k) k rs os 0 0->(Calls prog 161 #[.slice (some ⟨b,off,none⟩) len cap,stV k (some ⟨G,0,none⟩) 4 rc oa os.length oc 0] w fun e w'=>∃ u,(∃ q c,u=stV q (some ⟨G,0,none⟩) 4 rc oa os.length oc c)/\e=.returned u/\qag w' B u (qah len (g k) k rs os 0 v).p (qah len (g k) k rs os 0 v).rs (qah len (g k) k rs os 0 v).os (qah len (g k) k rs os 0 v).c/\qa9 (stV k (some ⟨G,0,none⟩) 4 rc oa os.length oc 0) w w'):=by
  intro s hs hos h he;rw [he,<- hs];refine h.mono fun e w' ⟨h1,h2,h3⟩=>⟨_,⟨_,_,rfl⟩,h1,⟨_,_,rfl,h2,?_,ha⟩,qa9.of_row h3 fun j hj=>(qal _ _ _ _ _).2 (.inl hj)⟩
  rw [hos]
  exact o2.kept h3 (by
   cases hv:(Value.slice oa os.length oc).ownBlock with
   | none=>exact .inl rfl
   | some j=>exact .inr (fun e=>ha G rfl (by rw [hv,e])))
 have hsame:qah len (g k) k rs os 0 v=qah len (g k) k rs os 0 0:=by
  unfold qah;rw [nB h678.1,nB h678.2.1,nB h678.2.2,nB h678.1,nB h678.2.1,nB h678.2.2]
 have hos:(qah len (g k) k rs os 0 0).os=os:=by
  unfold qah;rw [nB h678.1,nB h678.2.1,nB h678.2.2]
  split
  ·rfl
  ·split
   ·split <;> rfl
   ·split
    ·rfl
    ·split <;> rfl
 refine key _ rfl hos ?_ hsame
 rcases qe8 (g k).o with ho | ho | ho | ho | ho | ho | ho | ho | ho | ho | ho | ho
 ·omega
 ·exact qdj b off len cap k g G rc oa os.length oc 0 rs B w hl hb hI o1 h4 hk jr ja jb hjr hja hjb (by omega) (by omega) (by omega) hn4 os 1 (g k).n ho (.inl ⟨rfl,rfl⟩)
 ·exact qdj b off len cap k g G rc oa os.length oc 0 rs B w hl hb hI o1 h4 hk jr ja jb hjr hja hjb (by omega) (by omega) (by omega) hn4 os 2 (zi rs ja+zi rs jb) ho (.inr (.inl ⟨rfl,rfl⟩))
 ·exact qdj b off len cap k g G rc oa os.length oc 0 rs B w hl hb hI o1 h4 hk jr ja jb hjr hja hjb (by omega) (by omega) (by omega) hn4 os 3 (zi rs ja - zi rs jb) ho (.inr (.inr (.inl ⟨rfl,rfl⟩)))
 ·exact qdj b off len cap k g G rc oa os.length oc 0 rs B w hl hb hI o1 h4 hk jr ja jb hjr hja hjb (by omega) (by omega) (by omega) hn4 os 4 (zi rs ja*zi rs jb) ho (.inr (.inr (.inr (.inl ⟨rfl,rfl⟩))))
 ·by_cases hab:zi rs ja<zi rs jb
  ·exact qdj b off len cap k g G rc oa os.length oc 0 rs B w hl hb hI o1 h4 hk jr ja jb hjr hja hjb (by omega) (by omega) (by omega) hn4 os 5 1 ho (.inr (.inr (.inr (.inr (.inl ⟨rfl,rfl,hab⟩)))))
  ·exact qdj b off len cap k g G rc oa os.length oc 0 rs B w hl hb hI o1 h4 hk jr ja jb hjr hja hjb (by omega) (by omega) (by omega) hn4 os 5 0 ho (.inr (.inr (.inr (.inr (.inr ⟨rfl,rfl,hab⟩)))))
 ·exact absurd ho h678.1
 ·exact absurd ho h678.2.1
 ·exact absurd ho h678.2.2
 ·exact qu9 b off len cap k g G rc oa os.length oc 0 rs B w hl hb hI o1 h4 hk jr ja jb hjr hja hjb (by omega) (by omega) (by omega) ho hn4 os
 ·exact qtc b off len cap k g G rc oa os.length oc 0 rs B w hl hb hI o1 h4 hk jr ja jb hjr hja hjb (by omega) (by omega) (by omega) ho hn4 os
 ·exact qtd b off len cap k g G rc oa os.length oc 0 rs B w hl hb hI o1 h4 hk jr ja jb hjr hja hjb (by omega) (by omega) (by omega) ho hn4 os
theorem qta (b off len cap k:Nat) (g:Nat->I5) (ra oa:Option Addr) (rc oc:Nat) (rs os:List Int) (w:World) (hl:(len:Int)<=30) (hb:b<w.heap.size) (hI:qao w b off len g) (h4:rs.length=4) (ho:os.length<=60) (h1:Sl w ra rs) (h2:Sl w oa os) (hk:k<len) (hp:qac g len 4=true) (np:Int) (HN:Hid (evK (g k).o=1/\evP (g k).o (g k).n=np/\evW (g k).o (g k).a rs=0)) (HL:Hid (allN rs=true/\(g k).o≠6/\(g k).o≠7/\(g k).o≠8)):
  Calls prog 105 #[.slice (some ⟨b,off,none⟩) len cap,stV k ra rs.length rc oa os.length oc 0,evV 1 np 0] w fun e w'=>∃ v,e=.returned (.tuple #[v,.bool true])/\qag w' w.heap.size v (qah len (g k) k rs os 0 0).p (qah len (g k) k rs os 0 0).rs (qah len (g k) k rs os 0 0).os (qah len (g k) k rs os 0 0).c/\Below w.heap.size w w':=by
 have HI:Hid (qao w b off len g):=hI;have H1:Hid (Sl w ra rs):=h1;have H2:Hid (Sl w oa os):=h2;have H4:Hid (rs.length=4):=h4;have HP:Hid (qac g len 4=true):=hp;have hk':(k:Int)<(len:Int):=by omega
 clear hI h1 h2 h4 hp
 go_enter func105,ntmps105
 go_wp2_with fail
 refine (qb9 _ _ _ _ k g _ _ _ _ _ _ rs _ (by unfold maxLen;omega) (by simp;omega) (HI.bw (by go_grown) hb) (H1.bw (by go_grown)) H4.out hk HP.out).mono ?_;rintro e w1 ⟨he1,b1⟩;rw [HN.1,HN.2.1,HN.2.2] at he1;subst he1;have B1:Hid (Below w.heap.size w (w1.alloc (oQ0 1 np 0))):=(qai (by go_grown) b1 (by simp;omega)).alloc (by have:=b1.size;simp at this;omega) _;have X1:Hid (qa0 (w1.alloc (oQ0 1 np 0)) w.heap.size (.int .i64 k) (.slice ra rs.length rc) (.slice oa os.length oc) (.int .i64 0) 1 np 0):=((qa0.new w _ _ _ _ _ _ _ _ _ _).bw b1).bw (zS w1 _);clear b1;obtain ⟨p0,p1,p2,p3,-,-,-,-,-,-,-,-⟩:=X1.out;go_wp2_with fail
 clear p0 p1 p2 p3;have V1:Hid (EvC3 (w1.alloc (oQ0 1 np 0)) w1.heap.size 1 np 0):=EvC3.new w1 _ _ _ _;generalize w1.alloc (oQ0 1 np 0)=W1 at *;refine (qbz _ _ _ _ _ _ rs os _ (by have:=H4.out;omega) (by omega) (H1.bw B1.out) (H2.bw B1.out)).mono ?_;rintro e w2 ⟨v2,rfl,o2,b2⟩;obtain ⟨ra2,rc2,oa2,oc2,rfl,-,-⟩:=o2.read;have bA:=zS w2 (oQ1 k ra2 rs.length rc2 oa2 os.length oc2 0);have q2:Below W1.heap.size W1 (w2.alloc (oQ1 k ra2 rs.length rc2 oa2 os.length oc2 0)):=b2.trans (bA.mono b2.size);have X2:Hid (qa0 (w2.alloc (oQ1 k ra2 rs.length rc2 oa2 os.length oc2 0)) w.heap.size (.int .i64 k) (.slice ra rs.length rc) (.slice oa os.length oc) (.int .i64 0) 1 np 0):=X1.bw q2;have V2:Hid (EvC3 (w2.alloc (oQ1 k ra2 rs.length rc2 oa2 os.length oc2 0)) w1.heap.size 1 np 0):=V1.bw q2;have Y2:Hid (BoxC (w2.alloc (oQ1 k ra2 rs.length rc2 oa2 os.length oc2 0)) w2.heap.size (.int .i64 k) (.slice ra2 rs.length rc2) (.slice oa2 os.length oc2) (.int .i64 0)):=BoxC.new w2 _ _ _ _ _;have F2:Hid (∀ j,(w2.alloc (oQ1 k ra2 rs.length rc2 oa2 os.length oc2 0)).frozen? ⟨w2.heap.size,j,none⟩=false):=fun j=>by simp
 have O2:Hid (qag (w2.alloc (oQ1 k ra2 rs.length rc2 oa2 os.length oc2 0)) W1.heap.size (stV k ra2 rs.length rc2 oa2 os.length oc2 0) k rs os 0):=o2.bw bA;have L2:Hid (∀ j,qae (stV k ra2 rs.length rc2 oa2 os.length oc2 0) j->W1.heap.size<=j/\j<w2.heap.size):=fun j hj=>o2.lt hj;have B2:Hid (Below w.heap.size w (w2.alloc (oQ1 k ra2 rs.length rc2 oa2 os.length oc2 0))):=B1.trans (q2.mono B1.size);have zw:w.heap.size+1+1<W1.heap.size:=X1.lt;have zv:w1.heap.size<W1.heap.size:=zJ W1 _ V1.1;have z2:W1.heap.size<=w2.heap.size:=b2.size;clear b2 o2 bA q2 X1 V1 B1;obtain ⟨p0,p1,p2,p3,e0,e1,e2,r0,r1,r2,r3,rf⟩:=X2.out;obtain ⟨u0,u1,u2⟩:=V2.out;obtain ⟨t0,t1,t2,t3⟩:=Y2.out;have tf:=F2.out;go_wp2_with fail
 clear p0 p1 p2 p3 e0 e1 e2 r0 r1 r2 r3 rf u0 u1 u2 t0 t1 t2 t3 tf;generalize w2.alloc (oQ1 k ra2 rs.length rc2 oa2 os.length oc2 0)=W2 at *;refine (qqc b off len cap k g ra2 oa2 rc2 oc2 rs os W1.heap.size 0 W2 hl (by have:=B2.size;omega) (HI.bw B2.out hb) H4.out O2.out hk HP.out HL.1 HL.2).mono ?_;rintro e w3 ⟨u,⟨q3,c3,hu⟩,rfl,o3,m3⟩;rw [hu];rw [hu] at o3;have X3:Hid (qa0 w3 w.heap.size (.int .i64 k) (.slice ra rs.length rc) (.slice oa os.length oc) (.int .i64 0) 1 np 0):=X2.marked m3 fun j hj=>by have:=L2.out j hj;omega
 have O3:Hid (qag w3 W1.heap.size (stV q3 ra2 rs.length rc2 oa2 os.length oc2 c3) (qah len (g k) k rs os 0 0).p (qah len (g k) k rs os 0 0).rs (qah len (g k) k rs os 0 0).os (qah len (g k) k rs os 0 0).c):=o3;have B3:Hid (Below w.heap.size w w3):=B2.trans (m3.bw B2.size fun j hj=>by have:=L2.out j hj;omega);clear o3 m3 X2 V2 Y2 F2 O2 B2 hu u;obtain ⟨-,-,-,-,-,-,-,r0,r1,r2,r3,rf⟩:=X3.out;go_wp2;refine bodyPost_ret (v:=.tuple #[stV q3 ra2 rs.length rc2 oa2 os.length oc2 c3,.bool true]) (by simp [results,results105,go_sem,r0,r1,r2,r3]) rfl ⟨_,rfl,?_,?_⟩
 ·exact qag.put4 (B':=W1.heap.size) O3.out zw (by omega)
 ·have:=B3.out
  go_grown
theorem qlc (b off len cap k:Nat) (g:Nat->I5) (ra oa:Option Addr) (rc oc:Nat) (rs os:List Int) (eq ev:Int) (w:World) (hl:(len:Int)<=30) (hb:b<w.heap.size) (hI:qao w b off len g) (h4:rs.length=4) (ho:os.length<=60) (h1:Sl w ra rs) (h2:Sl w oa os) (hk:k<len) (hp:qac g len 4=true) (np nv:Int) (HN:Hid (evK (g k).o=3/\evP (g k).o (g k).n=np/\evW (g k).o (g k).a rs=nv)) (H7:Hid ((g k).o=7)) (q2:inB ev (-1000000000) 1000000000=true) (q3:(np != 9)=false) (q5:inB eq 0 3=true):
  Calls prog 105 #[.slice (some ⟨b,off,none⟩) len cap,stV k ra rs.length rc oa os.length oc 0,evV 3 eq ev] w fun e w'=>∃ v,e=.returned (.tuple #[v,.bool true])/\qag w' w.heap.size v (qah len (g k) k rs os 0 ev).p (qah len (g k) k rs os 0 ev).rs (qah len (g k) k rs os 0 ev).os (qah len (g k) k rs os 0 ev).c/\Below w.heap.size w w':=by
 have HI:Hid (qao w b off len g):=hI;have H1:Hid (Sl w ra rs):=h1;have H2:Hid (Sl w oa os):=h2;have H4:Hid (rs.length=4):=h4;have HP:Hid (qac g len 4=true):=hp;have hk':(k:Int)<(len:Int):=by omega
 clear hI h1 h2 h4 hp
 go_enter func105,ntmps105
 go_wp2_with fail
 refine (qb9 _ _ _ _ k g _ _ _ _ _ _ rs _ (by unfold maxLen;omega) (by simp;omega) (HI.bw (by go_grown) hb) (H1.bw (by go_grown)) H4.out hk HP.out).mono ?_;rintro e w1 ⟨he1,b1⟩;rw [HN.1,HN.2.1,HN.2.2] at he1;subst he1;have B1:Hid (Below w.heap.size w (w1.alloc (oQ0 3 np nv))):=(qai (by go_grown) b1 (by simp;omega)).alloc (by have:=b1.size;simp at this;omega) _;have X1:Hid (qa0 (w1.alloc (oQ0 3 np nv)) w.heap.size (.int .i64 k) (.slice ra rs.length rc) (.slice oa os.length oc) (.int .i64 0) 3 eq ev):=((qa0.new w _ _ _ _ _ _ _ _ _ _).bw b1).bw (zS w1 _);clear b1;obtain ⟨p0,p1,p2,p3,-,-,-,-,-,-,-,-⟩:=X1.out;go_wp2_with fail
 clear p0 p1 p2 p3;have V1:Hid (EvC3 (w1.alloc (oQ0 3 np nv)) w1.heap.size 3 np nv):=EvC3.new w1 _ _ _ _;generalize w1.alloc (oQ0 3 np nv)=W1 at *;refine (qbz _ _ _ _ _ _ rs os _ (by have:=H4.out;omega) (by omega) (H1.bw B1.out) (H2.bw B1.out)).mono ?_;rintro e w2 ⟨v2,rfl,o2,b2⟩;obtain ⟨ra2,rc2,oa2,oc2,rfl,-,-⟩:=o2.read;have bA:=zS w2 (oQ1 k ra2 rs.length rc2 oa2 os.length oc2 0);have q2:Below W1.heap.size W1 (w2.alloc (oQ1 k ra2 rs.length rc2 oa2 os.length oc2 0)):=b2.trans (bA.mono b2.size);have X2:Hid (qa0 (w2.alloc (oQ1 k ra2 rs.length rc2 oa2 os.length oc2 0)) w.heap.size (.int .i64 k) (.slice ra rs.length rc) (.slice oa os.length oc) (.int .i64 0) 3 eq ev):=X1.bw q2;have V2:Hid (EvC3 (w2.alloc (oQ1 k ra2 rs.length rc2 oa2 os.length oc2 0)) w1.heap.size 3 np nv):=V1.bw q2;have Y2:Hid (BoxC (w2.alloc (oQ1 k ra2 rs.length rc2 oa2 os.length oc2 0)) w2.heap.size (.int .i64 k) (.slice ra2 rs.length rc2) (.slice oa2 os.length oc2) (.int .i64 0)):=BoxC.new w2 _ _ _ _ _;have F2:Hid (∀ j,(w2.alloc (oQ1 k ra2 rs.length rc2 oa2 os.length oc2 0)).frozen? ⟨w2.heap.size,j,none⟩=false):=fun j=>by simp
 have O2:Hid (qag (w2.alloc (oQ1 k ra2 rs.length rc2 oa2 os.length oc2 0)) W1.heap.size (stV k ra2 rs.length rc2 oa2 os.length oc2 0) k rs os 0):=o2.bw bA;have L2:Hid (∀ j,qae (stV k ra2 rs.length rc2 oa2 os.length oc2 0) j->W1.heap.size<=j/\j<w2.heap.size):=fun j hj=>o2.lt hj;have B2:Hid (Below w.heap.size w (w2.alloc (oQ1 k ra2 rs.length rc2 oa2 os.length oc2 0))):=B1.trans (q2.mono B1.size);have zw:w.heap.size+1+1<W1.heap.size:=X1.lt;have zv:w1.heap.size<W1.heap.size:=zJ W1 _ V1.1;have z2:W1.heap.size<=w2.heap.size:=b2.size;clear b2 o2 bA q2 X1 V1 B1;obtain ⟨p0,p1,p2,p3,e0,e1,e2,r0,r1,r2,r3,rf⟩:=X2.out;obtain ⟨u0,u1,u2⟩:=V2.out;obtain ⟨t0,t1,t2,t3⟩:=Y2.out;have tf:=F2.out;go_wp2_with (first|(go_at_call 158;refine (l1Num_any _ _).mono ?_;rintro e w' ⟨rfl,rfl⟩)|(go_at_call 20;refine (l1In_any _ _ _ _).mono ?_;rintro e w' ⟨rfl,rfl⟩))
 generalize w2.alloc (oQ1 k ra2 rs.length rc2 oa2 os.length oc2 0)=W2 at *;obtain ⟨o1,o2,ha⟩:=O2.parts;obtain ⟨G,rfl,_,hG1,hG2⟩:=qh1 o1 (by have:=H4.out;omega);have hGw:W1.heap.size<=G/\G<w2.heap.size:=L2.out G ((qal _ _ _ _ _).2 (.inl rfl));obtain ⟨⟨q1',q11⟩,⟨r0',r3'⟩,-,-⟩:=qce (qbw HP.out hk);obtain ⟨jr,hjr⟩:=Int.eq_ofNat_of_zero_le r0';obtain ⟨c0,c1,c2,c3,c4⟩:=HI.bw B2.out hb k hk;rw [hjr] at c1;have hj4:jr<rs.length:=by have:=H4.out;omega
 have hj4':(jr:Int)<(rs.length:Int):=by omega
 have cg:W2.cell? ⟨G,jr,none⟩=some (.int .i64 (zi rs jr)):=o1.cell hj4;have fg:W2.frozen? ⟨G,jr,none⟩=false:=o1.frozen jr
 have HD:Hid (qah len (g k) k rs os 0 ev=goS len k (rs.set jr ev) os 0):=by
  show qah len (g k) k rs os 0 ev=goS len k (rs.set jr ev) os 0;unfold qah;rw [H7.out,nB (by decide),nC rfl,hjr,nF]
 have zG:w.heap.size<G/\w.heap.size+1<G/\w.heap.size+1+1<G/\G≠w2.heap.size:=by omega
 have zb:b≠G:=by have:=B2.out;omega
 clear o1 o2 ha c0 c2 c3 c4 hjr q1' q11 r0' r3'
 go_region
 have m3:qa9 (stV k (some ⟨G,0,none⟩) rs.length rc2 oa2 os.length oc2 0) W2 (W2.setCell ⟨G,jr,none⟩ (.int .i64 ev)).drew:=qa9.of_row (row:=some G) (qrs (zU (p:=⟨G,jr,none⟩) (World.grownBy.refl W2 (some G)) (.inl rfl) _)) fun j hj=>(qal _ _ _ _ _).2 (.inl (by cases hj;rfl))
 have O3:Hid (qag (W2.setCell ⟨G,jr,none⟩ (.int .i64 ev)).drew W1.heap.size (stV k (some ⟨G,0,none⟩) rs.length rc2 oa2 os.length oc2 0) k (rs.set jr ev) os 0):=by
  obtain ⟨o1,o2,ha⟩:=O2.parts;exact ⟨_,_,rfl,(o1.set rfl jr ev).1,o2.setOther (fun e=>ha G rfl e) _,ha⟩
 have X3:Hid (qa0 (W2.setCell ⟨G,jr,none⟩ (.int .i64 ev)).drew w.heap.size (.int .i64 k) (.slice ra rs.length rc) (.slice oa os.length oc) (.int .i64 0) 3 eq ev):=X2.marked m3 fun j hj=>by have:=L2.out j hj;omega
 have Y3:Hid (BoxC (W2.setCell ⟨G,jr,none⟩ (.int .i64 ev)).drew w2.heap.size (.int .i64 k) (sG G rs.length rc2) (.slice oa2 os.length oc2) (.int .i64 0)):=Y2.marked m3 fun hh=>by have:=L2.out _ hh;omega
 have B3:Hid (Below w.heap.size w (W2.setCell ⟨G,jr,none⟩ (.int .i64 ev)).drew):=B2.trans (m3.bw B2.size fun j hj=>by have:=L2.out j hj;omega);clear p0 p1 p2 p3 e0 e1 e2 r0 r1 r2 r3 rf u0 u1 u2 t0 t1 t2 t3 tf m3 X2 V2 Y2 F2 O2 B2 cg fg c1;obtain ⟨t0,t1,t2,t3⟩:=Y3.out;go_wp2_with fail
 clear t0 t1 t2 t3;generalize (W2.setCell ⟨G,jr,none⟩ (.int .i64 ev)).drew=W3 at *;refine (qel _ _ _ _ _ _ _ _ _ _ _ _ (by omega) (by omega)).mono ?_;rintro e w4 ⟨rfl,b4⟩;have X4:Hid (qa0 w4 w.heap.size (.int .i64 k) (.slice ra rs.length rc) (.slice oa os.length oc) (.int .i64 0) 3 eq ev):=X3.bw b4;have O4:Hid (qag w4 W1.heap.size (stV k (some ⟨G,0,none⟩) rs.length rc2 oa2 os.length oc2 0) k (rs.set jr ev) os 0):=O3.bw b4;have B4:Hid (Below w.heap.size w w4):=B3.trans (b4.mono B3.size);clear b4 X3 Y3 O3 B3;obtain ⟨-,-,-,-,-,-,-,r0,r1,r2,r3,rf⟩:=X4.out;go_wp2;refine bodyPost_ret (v:=.tuple #[stV (goP len k) (some ⟨G,0,none⟩) rs.length rc2 oa2 os.length oc2 (goC len k 0),.bool true]) (by simp [results,results105,go_sem,r0,r1,r2,r3]) rfl ⟨_,rfl,?_,?_⟩
 ·rw [HD.out]
  exact qag.put4 (B':=W1.heap.size) ((O4.replace _).recode _) zw (by omega)
 ·have:=B4.out
  go_grown
theorem qld (b off len cap k:Nat) (g:Nat->I5) (ra oa:Option Addr) (rc oc:Nat) (rs os:List Int) (eq ev:Int) (w:World) (hl:(len:Int)<=30) (hb:b<w.heap.size) (hI:qao w b off len g) (h4:rs.length=4) (ho:os.length<=60) (h1:Sl w ra rs) (h2:Sl w oa os) (hk:k<len) (hp:qac g len 4=true) (np nv:Int) (HN:Hid (evK (g k).o=3/\evP (g k).o (g k).n=np/\evW (g k).o (g k).a rs=nv)) (H7:Hid ((g k).o=7)) (q2:inB ev (-1000000000) 1000000000=true) (q3:(np != 9)=true) (q4:(eq != np)=false) (q5:inB eq 0 3=true):
  Calls prog 105 #[.slice (some ⟨b,off,none⟩) len cap,stV k ra rs.length rc oa os.length oc 0,evV 3 eq ev] w fun e w'=>∃ v,e=.returned (.tuple #[v,.bool true])/\qag w' w.heap.size v (qah len (g k) k rs os 0 ev).p (qah len (g k) k rs os 0 ev).rs (qah len (g k) k rs os 0 ev).os (qah len (g k) k rs os 0 ev).c/\Below w.heap.size w w':=by
 have HI:Hid (qao w b off len g):=hI;have H1:Hid (Sl w ra rs):=h1;have H2:Hid (Sl w oa os):=h2;have H4:Hid (rs.length=4):=h4;have HP:Hid (qac g len 4=true):=hp;have hk':(k:Int)<(len:Int):=by omega
 clear hI h1 h2 h4 hp
 go_enter func105,ntmps105
 go_wp2_with fail
 refine (qb9 _ _ _ _ k g _ _ _ _ _ _ rs _ (by unfold maxLen;omega) (by simp;omega) (HI.bw (by go_grown) hb) (H1.bw (by go_grown)) H4.out hk HP.out).mono ?_;rintro e w1 ⟨he1,b1⟩;rw [HN.1,HN.2.1,HN.2.2] at he1;subst he1;have B1:Hid (Below w.heap.size w (w1.alloc (oQ0 3 np nv))):=(qai (by go_grown) b1 (by simp;omega)).alloc (by have:=b1.size;simp at this;omega) _;have X1:Hid (qa0 (w1.alloc (oQ0 3 np nv)) w.heap.size (.int .i64 k) (.slice ra rs.length rc) (.slice oa os.length oc) (.int .i64 0) 3 eq ev):=((qa0.new w _ _ _ _ _ _ _ _ _ _).bw b1).bw (zS w1 _);clear b1;obtain ⟨p0,p1,p2,p3,-,-,-,-,-,-,-,-⟩:=X1.out;go_wp2_with fail
 clear p0 p1 p2 p3;have V1:Hid (EvC3 (w1.alloc (oQ0 3 np nv)) w1.heap.size 3 np nv):=EvC3.new w1 _ _ _ _;generalize w1.alloc (oQ0 3 np nv)=W1 at *;refine (qbz _ _ _ _ _ _ rs os _ (by have:=H4.out;omega) (by omega) (H1.bw B1.out) (H2.bw B1.out)).mono ?_;rintro e w2 ⟨v2,rfl,o2,b2⟩;obtain ⟨ra2,rc2,oa2,oc2,rfl,-,-⟩:=o2.read;have bA:=zS w2 (oQ1 k ra2 rs.length rc2 oa2 os.length oc2 0);have q2:Below W1.heap.size W1 (w2.alloc (oQ1 k ra2 rs.length rc2 oa2 os.length oc2 0)):=b2.trans (bA.mono b2.size);have X2:Hid (qa0 (w2.alloc (oQ1 k ra2 rs.length rc2 oa2 os.length oc2 0)) w.heap.size (.int .i64 k) (.slice ra rs.length rc) (.slice oa os.length oc) (.int .i64 0) 3 eq ev):=X1.bw q2;have V2:Hid (EvC3 (w2.alloc (oQ1 k ra2 rs.length rc2 oa2 os.length oc2 0)) w1.heap.size 3 np nv):=V1.bw q2;have Y2:Hid (BoxC (w2.alloc (oQ1 k ra2 rs.length rc2 oa2 os.length oc2 0)) w2.heap.size (.int .i64 k) (.slice ra2 rs.length rc2) (.slice oa2 os.length oc2) (.int .i64 0)):=BoxC.new w2 _ _ _ _ _;have F2:Hid (∀ j,(w2.alloc (oQ1 k ra2 rs.length rc2 oa2 os.length oc2 0)).frozen? ⟨w2.heap.size,j,none⟩=false):=fun j=>by simp
 have O2:Hid (qag (w2.alloc (oQ1 k ra2 rs.length rc2 oa2 os.length oc2 0)) W1.heap.size (stV k ra2 rs.length rc2 oa2 os.length oc2 0) k rs os 0):=o2.bw bA;have L2:Hid (∀ j,qae (stV k ra2 rs.length rc2 oa2 os.length oc2 0) j->W1.heap.size<=j/\j<w2.heap.size):=fun j hj=>o2.lt hj;have B2:Hid (Below w.heap.size w (w2.alloc (oQ1 k ra2 rs.length rc2 oa2 os.length oc2 0))):=B1.trans (q2.mono B1.size);have zw:w.heap.size+1+1<W1.heap.size:=X1.lt;have zv:w1.heap.size<W1.heap.size:=zJ W1 _ V1.1;have z2:W1.heap.size<=w2.heap.size:=b2.size;clear b2 o2 bA q2 X1 V1 B1;obtain ⟨p0,p1,p2,p3,e0,e1,e2,r0,r1,r2,r3,rf⟩:=X2.out;obtain ⟨u0,u1,u2⟩:=V2.out;obtain ⟨t0,t1,t2,t3⟩:=Y2.out;have tf:=F2.out;go_wp2_with (first|(go_at_call 158;refine (l1Num_any _ _).mono ?_;rintro e w' ⟨rfl,rfl⟩)|(go_at_call 20;refine (l1In_any _ _ _ _).mono ?_;rintro e w' ⟨rfl,rfl⟩))
 generalize w2.alloc (oQ1 k ra2 rs.length rc2 oa2 os.length oc2 0)=W2 at *;obtain ⟨o1,o2,ha⟩:=O2.parts;obtain ⟨G,rfl,_,hG1,hG2⟩:=qh1 o1 (by have:=H4.out;omega);have hGw:W1.heap.size<=G/\G<w2.heap.size:=L2.out G ((qal _ _ _ _ _).2 (.inl rfl));obtain ⟨⟨q1',q11⟩,⟨r0',r3'⟩,-,-⟩:=qce (qbw HP.out hk);obtain ⟨jr,hjr⟩:=Int.eq_ofNat_of_zero_le r0';obtain ⟨c0,c1,c2,c3,c4⟩:=HI.bw B2.out hb k hk;rw [hjr] at c1;have hj4:jr<rs.length:=by have:=H4.out;omega
 have hj4':(jr:Int)<(rs.length:Int):=by omega
 have cg:W2.cell? ⟨G,jr,none⟩=some (.int .i64 (zi rs jr)):=o1.cell hj4;have fg:W2.frozen? ⟨G,jr,none⟩=false:=o1.frozen jr
 have HD:Hid (qah len (g k) k rs os 0 ev=goS len k (rs.set jr ev) os 0):=by
  show qah len (g k) k rs os 0 ev=goS len k (rs.set jr ev) os 0;unfold qah;rw [H7.out,nB (by decide),nC rfl,hjr,nF]
 have zG:w.heap.size<G/\w.heap.size+1<G/\w.heap.size+1+1<G/\G≠w2.heap.size:=by omega
 have zb:b≠G:=by have:=B2.out;omega
 clear o1 o2 ha c0 c2 c3 c4 hjr q1' q11 r0' r3'
 go_region
 have m3:qa9 (stV k (some ⟨G,0,none⟩) rs.length rc2 oa2 os.length oc2 0) W2 (W2.setCell ⟨G,jr,none⟩ (.int .i64 ev)).drew:=qa9.of_row (row:=some G) (qrs (zU (p:=⟨G,jr,none⟩) (World.grownBy.refl W2 (some G)) (.inl rfl) _)) fun j hj=>(qal _ _ _ _ _).2 (.inl (by cases hj;rfl))
 have O3:Hid (qag (W2.setCell ⟨G,jr,none⟩ (.int .i64 ev)).drew W1.heap.size (stV k (some ⟨G,0,none⟩) rs.length rc2 oa2 os.length oc2 0) k (rs.set jr ev) os 0):=by
  obtain ⟨o1,o2,ha⟩:=O2.parts;exact ⟨_,_,rfl,(o1.set rfl jr ev).1,o2.setOther (fun e=>ha G rfl e) _,ha⟩
 have X3:Hid (qa0 (W2.setCell ⟨G,jr,none⟩ (.int .i64 ev)).drew w.heap.size (.int .i64 k) (.slice ra rs.length rc) (.slice oa os.length oc) (.int .i64 0) 3 eq ev):=X2.marked m3 fun j hj=>by have:=L2.out j hj;omega
 have Y3:Hid (BoxC (W2.setCell ⟨G,jr,none⟩ (.int .i64 ev)).drew w2.heap.size (.int .i64 k) (sG G rs.length rc2) (.slice oa2 os.length oc2) (.int .i64 0)):=Y2.marked m3 fun hh=>by have:=L2.out _ hh;omega
 have B3:Hid (Below w.heap.size w (W2.setCell ⟨G,jr,none⟩ (.int .i64 ev)).drew):=B2.trans (m3.bw B2.size fun j hj=>by have:=L2.out j hj;omega);clear p0 p1 p2 p3 e0 e1 e2 r0 r1 r2 r3 rf u0 u1 u2 t0 t1 t2 t3 tf m3 X2 V2 Y2 F2 O2 B2 cg fg c1;obtain ⟨t0,t1,t2,t3⟩:=Y3.out;go_wp2_with fail
 clear t0 t1 t2 t3;generalize (W2.setCell ⟨G,jr,none⟩ (.int .i64 ev)).drew=W3 at *;refine (qel _ _ _ _ _ _ _ _ _ _ _ _ (by omega) (by omega)).mono ?_;rintro e w4 ⟨rfl,b4⟩;have X4:Hid (qa0 w4 w.heap.size (.int .i64 k) (.slice ra rs.length rc) (.slice oa os.length oc) (.int .i64 0) 3 eq ev):=X3.bw b4;have O4:Hid (qag w4 W1.heap.size (stV k (some ⟨G,0,none⟩) rs.length rc2 oa2 os.length oc2 0) k (rs.set jr ev) os 0):=O3.bw b4;have B4:Hid (Below w.heap.size w w4):=B3.trans (b4.mono B3.size);clear b4 X3 Y3 O3 B3;obtain ⟨-,-,-,-,-,-,-,r0,r1,r2,r3,rf⟩:=X4.out;go_wp2;refine bodyPost_ret (v:=.tuple #[stV (goP len k) (some ⟨G,0,none⟩) rs.length rc2 oa2 os.length oc2 (goC len k 0),.bool true]) (by simp [results,results105,go_sem,r0,r1,r2,r3]) rfl ⟨_,rfl,?_,?_⟩
 ·rw [HD.out]
  exact qag.put4 (B':=W1.heap.size) ((O4.replace _).recode _) zw (by omega)
 ·have:=B4.out
  go_grown
theorem qtb (b off len cap k:Nat) (g:Nat->I5) (ra oa:Option Addr) (rc oc:Nat) (rs os:List Int) (w:World) (hl:(len:Int)<=30) (hb:b<w.heap.size) (hI:qao w b off len g) (h4:rs.length=4) (ho:os.length<=60) (h1:Sl w ra rs) (h2:Sl w oa os) (hk:k<len) (hp:qac g len 4=true) (np nv:Int) (HN:Hid (evK (g k).o=4/\evP (g k).o (g k).n=np/\evW (g k).o (g k).a rs=nv)) (H8:Hid ((g k).o=8/\os.length≠60)) (h60:((os.length:Int) == 60)=false):
  Calls prog 105 #[.slice (some ⟨b,off,none⟩) len cap,stV k ra rs.length rc oa os.length oc 0,evV 4 np nv] w fun e w'=>∃ v,e=.returned (.tuple #[v,.bool true])/\qag w' w.heap.size v (qah len (g k) k rs os 0 nv).p (qah len (g k) k rs os 0 nv).rs (qah len (g k) k rs os 0 nv).os (qah len (g k) k rs os 0 nv).c/\Below w.heap.size w w':=by
 have HI:Hid (qao w b off len g):=hI;have H1:Hid (Sl w ra rs):=h1;have H2:Hid (Sl w oa os):=h2;have H4:Hid (rs.length=4):=h4;have HP:Hid (qac g len 4=true):=hp;have hk':(k:Int)<(len:Int):=by omega
 clear hI h1 h2 h4 hp
 go_enter func105,ntmps105
 go_wp2_with fail
 refine (qb9 _ _ _ _ k g _ _ _ _ _ _ rs _ (by unfold maxLen;omega) (by simp;omega) (HI.bw (by go_grown) hb) (H1.bw (by go_grown)) H4.out hk HP.out).mono ?_;rintro e w1 ⟨he1,b1⟩;rw [HN.1,HN.2.1,HN.2.2] at he1;subst he1;have B1:Hid (Below w.heap.size w (w1.alloc (oQ0 4 np nv))):=(qai (by go_grown) b1 (by simp;omega)).alloc (by have:=b1.size;simp at this;omega) _;have X1:Hid (qa0 (w1.alloc (oQ0 4 np nv)) w.heap.size (.int .i64 k) (.slice ra rs.length rc) (.slice oa os.length oc) (.int .i64 0) 4 np nv):=((qa0.new w _ _ _ _ _ _ _ _ _ _).bw b1).bw (zS w1 _);clear b1;obtain ⟨p0,p1,p2,p3,-,-,-,-,-,-,-,-⟩:=X1.out;go_wp2_with fail
 clear p0 p1 p2 p3;have V1:Hid (EvC3 (w1.alloc (oQ0 4 np nv)) w1.heap.size 4 np nv):=EvC3.new w1 _ _ _ _;generalize w1.alloc (oQ0 4 np nv)=W1 at *;refine (qbz _ _ _ _ _ _ rs os _ (by have:=H4.out;omega) (by omega) (H1.bw B1.out) (H2.bw B1.out)).mono ?_;rintro e w2 ⟨v2,rfl,o2,b2⟩;obtain ⟨ra2,rc2,oa2,oc2,rfl,-,-⟩:=o2.read;have bA:=zS w2 (oQ1 k ra2 rs.length rc2 oa2 os.length oc2 0);have q2:Below W1.heap.size W1 (w2.alloc (oQ1 k ra2 rs.length rc2 oa2 os.length oc2 0)):=b2.trans (bA.mono b2.size);have X2:Hid (qa0 (w2.alloc (oQ1 k ra2 rs.length rc2 oa2 os.length oc2 0)) w.heap.size (.int .i64 k) (.slice ra rs.length rc) (.slice oa os.length oc) (.int .i64 0) 4 np nv):=X1.bw q2;have V2:Hid (EvC3 (w2.alloc (oQ1 k ra2 rs.length rc2 oa2 os.length oc2 0)) w1.heap.size 4 np nv):=V1.bw q2;have Y2:Hid (BoxC (w2.alloc (oQ1 k ra2 rs.length rc2 oa2 os.length oc2 0)) w2.heap.size (.int .i64 k) (.slice ra2 rs.length rc2) (.slice oa2 os.length oc2) (.int .i64 0)):=BoxC.new w2 _ _ _ _ _;have F2:Hid (∀ j,(w2.alloc (oQ1 k ra2 rs.length rc2 oa2 os.length oc2 0)).frozen? ⟨w2.heap.size,j,none⟩=false):=fun j=>by simp
 have O2:Hid (qag (w2.alloc (oQ1 k ra2 rs.length rc2 oa2 os.length oc2 0)) W1.heap.size (stV k ra2 rs.length rc2 oa2 os.length oc2 0) k rs os 0):=o2.bw bA;have L2:Hid (∀ j,qae (stV k ra2 rs.length rc2 oa2 os.length oc2 0) j->W1.heap.size<=j/\j<w2.heap.size):=fun j hj=>o2.lt hj;have B2:Hid (Below w.heap.size w (w2.alloc (oQ1 k ra2 rs.length rc2 oa2 os.length oc2 0))):=B1.trans (q2.mono B1.size);have zw:w.heap.size+1+1<W1.heap.size:=X1.lt;have zv:w1.heap.size<W1.heap.size:=zJ W1 _ V1.1;have z2:W1.heap.size<=w2.heap.size:=b2.size;clear b2 o2 bA q2 X1 V1 B1;obtain ⟨p0,p1,p2,p3,e0,e1,e2,r0,r1,r2,r3,rf⟩:=X2.out;obtain ⟨u0,u1,u2⟩:=V2.out;obtain ⟨t0,t1,t2,t3⟩:=Y2.out;have tf:=F2.out;go_wp2_with (at_builtin;refine qdn rfl ?_)
 unfold STOP
 have AS : Hid (Sl ((w2.alloc (oQ1 k ra2 rs.length rc2 oa2 os.length oc2 0)).alloc (.cells #[.int .i64 nv] 3)) (some ⟨w2.heap.size + 1, 0, none⟩) [nv]) := .inr ⟨w2.heap.size + 1, 0, rfl, by simp, fun i hi => by
  obtain rfl:i=0:=by simp at hi;omega
  exact zV _ _ _ 0 (by simp)⟩
 have bA:=zS (w2.alloc (oQ1 k ra2 rs.length rc2 oa2 os.length oc2 0)) (.cells #[.int .i64 nv] 3);clear p0 p1 p2 p3 e0 e1 e2 r0 r1 r2 r3 rf u0 u1 u2 t0 t1 t2 t3 tf;have hsz:(w2.alloc (oQ1 k ra2 rs.length rc2 oa2 os.length oc2 0)).heap.size=w2.heap.size+1:=by simp
 have HZ:Hid ((w2.alloc (oQ1 k ra2 rs.length rc2 oa2 os.length oc2 0)).heap.size=w2.heap.size+1):=hsz;clear hsz;generalize w2.alloc (oQ1 k ra2 rs.length rc2 oa2 os.length oc2 0)=W2 at *;obtain ⟨o1,o2,ha⟩:=O2.parts;refine qbd _ rfl _ _ rfl W1.heap.size 1 (.slice oa2 os.length oc2) (some ⟨w2.heap.size+1,0,none⟩) os [nv] rfl rfl (o2.bw bA) AS.out (by simp;omega) (by have:=HZ.out;simp;omega) ?_;intro v3 w3 o3 g3 at3;obtain ⟨oa3,oc3,hv3,-⟩:=o3.form;rw [show (os ++ [nv]).length=os.length+1 by simp] at hv3;subst hv3;have m3:qa9 (stV k ra2 rs.length rc2 oa2 os.length oc2 0) W2 w3:=(qa9.of_below bA).trans (qa9.of_row g3 fun j hj=>(qal _ _ _ _ _).2 (.inr hj));have o1':OwnI w3 W1.heap.size (.slice ra2 rs.length rc2) rs:=qft (o1.bw bA) g3 fun j h1 h2=>ha j h2 h1;have lr:∀ j,(Value.slice ra2 rs.length rc2).ownBlock=some j->j<w2.heap.size:=fun j hj=>(L2.out j ((qal _ _ _ _ _).2 (.inl hj))).2
 have lo:∀ j,(Value.slice oa3 (os.length+1) oc3).ownBlock=some j->j<w2.heap.size\/w2.heap.size<j:=fun j hj=>by
  rcases at3 with h | h
  ·exact .inl (L2.out j ((qal _ _ _ _ _).2 (.inr (h.symm.trans hj)))).2
  ·rw [hj,World.size_alloc,HZ.out] at h
   exact .inr (by cases h;omega)
 have ha':∀ j,(Value.slice ra2 rs.length rc2).ownBlock=some j->(Value.slice oa3 (os.length+1) oc3).ownBlock≠some j:=fun j hj hj'=>by
  rcases at3 with h | h
  ·exact ha j hj (h.symm.trans hj')
  ·rw [hj',World.size_alloc,HZ.out] at h
   have:=lr j hj;cases h;omega
 have Y3:=Y2.marked m3 fun hh=>by have:=L2.out _ hh;omega
 have f3:∀ j,w3.frozen? ⟨w2.heap.size,j,none⟩=false:=fun j=>(m3.frozen (by have:=HZ.out;omega) (fun hh=>by have:=L2.out _ hh;omega) j).trans (F2.out j);have X3:Hid (qa0 w3 w.heap.size (.int .i64 k) (.slice ra rs.length rc) (.slice oa os.length oc) (.int .i64 0) 4 np nv):=X2.marked m3 fun j hj=>by have:=L2.out j hj;omega
 have X4:Hid (qa0 (w3.setCell ⟨w2.heap.size,2,none⟩ (.slice oa3 (os.length+1) oc3)) w.heap.size (.int .i64 k) (.slice ra rs.length rc) (.slice oa os.length oc) (.int .i64 0) 4 np nv):=X3.kept fun j _ hj=>zN _ _ _ _ (by simp;omega);have O4:Hid (qag (w3.setCell ⟨w2.heap.size,2,none⟩ (.slice oa3 (os.length+1) oc3)) W1.heap.size (stV k ra2 rs.length rc2 oa3 (os.length+1) oc3 0) k rs (os ++ [nv]) 0):=⟨_,_,rfl,o1'.setOther (fun e=>by have:=lr _ e;simp at this) _,o3.setOther (fun e=>by have:=lo _ e;simp at this) _,ha'⟩
 have B4:Hid (Below w.heap.size w (w3.setCell ⟨w2.heap.size,2,none⟩ (.slice oa3 (os.length+1) oc3))):=(B2.trans (m3.bw B2.size fun j hj=>by have:=L2.out j hj;omega)).setCell (by simp;omega) _;clear o1 o2 ha o3 g3 at3 bA AS m3 o1' lr lo ha' X2 V2 Y2 F2 O2 B2 X3;obtain ⟨t0,t1,t2,t3⟩:=Y3;go_wp2_with fail
 clear t0 t1 t2 t3 f3;generalize (w3.setCell ⟨w2.heap.size,2,none⟩ (.slice oa3 (os.length+1) oc3))=W4 at *;refine (qel _ _ _ _ _ _ _ _ _ _ _ _ (by omega) (by omega)).mono ?_;rintro e w5 ⟨rfl,b5⟩;have X5:Hid (qa0 w5 w.heap.size (.int .i64 k) (.slice ra rs.length rc) (.slice oa os.length oc) (.int .i64 0) 4 np nv):=X4.bw b5;have O5:Hid (qag w5 W1.heap.size (stV k ra2 rs.length rc2 oa3 (os.length+1) oc3 0) k rs (os ++ [nv]) 0):=O4.bw b5;have B5:Hid (Below w.heap.size w w5):=B4.trans (b5.mono B4.size);clear b5 X4 O4 B4;obtain ⟨-,-,-,-,-,-,-,r0,r1,r2,r3,rf⟩:=X5.out;go_wp2;refine bodyPost_ret (v:=.tuple #[stV (goP len k) ra2 rs.length rc2 oa3 (os.length+1) oc3 (goC len k 0),.bool true]) (by simp [results,results105,go_sem,r0,r1,r2,r3]) rfl ⟨_,rfl,?_,?_⟩
 ·have hd:qah len (g k) k rs os 0 nv=goS len k rs (os ++ [nv]) 0:=by
   unfold qah;rw [H8.1,nB (by decide),nB (by decide),nC rfl,nB H8.2]
  rw [hd];exact qag.put4 (B':=W1.heap.size) ((O5.replace _).recode _) zw (by omega)
 ·have:=B5.out
  go_grown
