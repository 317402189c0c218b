import Derived.Test.YtnfdnnmddadmkaaGreatDoorOg24
namespace Go.Proofs.YtnfdnnmddadmkaaGreatDoor
open Go.ChangeShapes Go.WideShapes Go.ChangeAt Go.RowKit Go.Deep
theorem qms {w w':World} {B size n:Nat} {e:TypeId} {v:Value} {xs:List Value} (h:w.ownsRow B e size v n xs) (hb:∀ k,v.ownBlock=some k->w'.heap[k]? = w.heap[k]?):w'.ownsRow B e size v n xs:=by
 obtain ⟨h0,h⟩:=h
 refine ⟨h0,?_⟩
 rcases h with h | ⟨g,cap,cur,rfl,h1,h2,h3⟩
 ·exact .inl h
 ·exact .inr ⟨g,cap,cur,rfl,h1,(hb g rfl).trans h2,h3⟩
theorem OwnI.blk {w w':World} {B:Nat} {v:Value} {xs:List Int} (h:OwnI w B v xs) (hb:∀ k,v.ownBlock=some k->w'.heap[k]? = w.heap[k]?):OwnI w' B v xs:=qms h hb
theorem qaf.blk {w w':World} {B:Nat} {v:Value} {p code:Int} {rs os:List Int} (h:qaf w B v p rs os code) (hb:∀ k,qak v k->w'.heap[k]? = w.heap[k]?):qaf w' B v p rs os code:=by
 obtain ⟨vr,vo,rfl,h1,h2,h3⟩:=h
 exact ⟨vr,vo,rfl,h1.blk fun k hk=>hb k ((qas _ _ _ _ _).2 (.inl hk)),h2.blk fun k hk=>hb k ((qas _ _ _ _ _).2 (.inr hk)),h3⟩
def Cel4 (w:World) (D j:Nat) (S:S4) (v:Value):Prop:=∃ ra rc oa oc,v=stV S.p ra S.rs.length rc oa S.os.length oc S.c/\w.cell? ⟨D,j,none⟩=some (.int .i64 S.p)/\w.cell? ⟨D,j+1,none⟩=some (.slice ra S.rs.length rc)/\w.cell? ⟨D,j+2,none⟩=some (.slice oa S.os.length oc)/\w.cell? ⟨D,j+3,none⟩=some (.int .i64 S.c)
theorem Cel4.blk {w w':World} {D j:Nat} {S:S4} {v:Value} (h:Cel4 w D j S v) (hb:w'.heap[D]? = w.heap[D]?):Cel4 w' D j S v:=by
 obtain ⟨ra,rc,oa,oc,e,h0,h1,h2,h3⟩:=h
 exact ⟨ra,rc,oa,oc,e,(zH hb).trans h0,(zH hb).trans h1,(zH hb).trans h2,(zH hb).trans h3⟩
theorem qup:(Tryz.prog.info? 93).map (fun i=>(i.zero,i.size,i.bytes))=some (some (stV 0 none 0 0 none 0 0 0),4,64):=by kernel_rfl
def flat (f:Nat->List Value):Nat->List Value
 | 0=>[]
 | n+1=>flat f n ++ f n
theorem qc0 {f:Nat->List Value} {sz:Nat}:∀ {n:Nat},(∀ i,i<n->(f i).length=sz)->(flat f n).length=n*sz
 | 0,_=>by simp [flat]
 | n+1,h=>by
  rw [flat,List.length_append,qc0 (fun i hi=>h i (by omega)),h n (by omega),Nat.add_mul,Nat.one_mul]
theorem qdi {f:Nat->List Value} {sz:Nat}:∀ {n:Nat},(∀ i,i<n->(f i).length=sz)->∀ {i j:Nat},i<n->j<sz->(flat f n)[i*sz+j]? = (f i)[j]?
 | 0,_,i,j,hi,_=>by omega
 | n+1,h,i,j,hi,hj=>by
  have hl:=qc0 (f:=f) (sz:=sz) (n:=n) fun i hi=>h i (by omega)
  by_cases e:i=n
  ·subst e
   rw [flat,List.getElem?_append_right (by omega),hl]
   congr 1
   omega
  ·have:i*sz+sz<=n*sz:=by
    have:=Nat.mul_le_mul_right sz (show i+1<=n by omega)
    rw [Nat.add_mul,Nat.one_mul] at this
    exact this
   rw [flat,List.getElem?_append_left (by omega)]
   exact qdi (fun i hi=>h i (by omega)) (by omega) hj
theorem qgv {f:Nat->List Value}:∀ {n:Nat},(∀ i,i<n->∀ u ∈ f i,u.oneCell'=true)->∀ u ∈ flat f n,u.oneCell'=true
 | 0,_,u,hu=>by simp [flat] at hu
 | n+1,h,u,hu=>by
  rw [flat,List.mem_append] at hu
  rcases hu with hu | hu
  ·exact qgv (fun i hi=>h i (by omega)) u hu
  ·exact h n (by omega) u hu
theorem qc9 {f g:Nat->List Value}:∀ {n:Nat},(∀ i,i<n->f i=g i)->flat f n=flat g n
 | 0,_=>rfl
 | n+1,h=>by rw [flat,flat,qc9 fun i hi=>h i (by omega),h n (by omega)]
theorem qp5 {f:Nat->List Value} {n i:Nat} (hl:∀ j,j<n->(f j).length=4) (hi:i<n) (a b c d:Value):
  flat (fun j=>if j=i then [a,b,c,d] else f j) n=((((flat f n).set (i*4) a).set (i*4+1) b).set (i*4+2) c).set (i*4+3) d:=by
 have hl':∀ j,j<n->((fun j=>if j=i then [a,b,c,d] else f j) j).length=4:=fun j hj=>by
  by_cases e:j=i
  ·simp [e]
  ·simp [e,hl j hj]
 have n1:=qc0 hl
 have n2:=qc0 hl'
 apply List.ext_getElem?
 intro q
 by_cases hq:q<n*4
 ·have hk:q / 4<n:=by omega
  have hr:q % 4<4:=by omega
  have e:q=q / 4*4+q % 4:=by omega
  have e1:=qdi hl' hk hr
  have e2:=qdi hl hk hr
  rw [<- e] at e1 e2
  rw [e1]
  by_cases ei:q / 4=i
  ·simp only [if_pos ei]
   have hr4:q % 4=0\/q % 4=1\/q % 4=2\/q % 4=3:=by omega
   rcases hr4 with h | h | h | h <;> rw [h] <;>
    (simp only [List.getElem?_set, List.length_set, n1]
     have:i<n:=hi
     repeat (first | rw [if_pos (by omega)] | rw [if_neg (by omega)])
     simp)
  ·simp only [if_neg ei]
   simp only [List.getElem?_set,List.length_set,n1]
   rw [if_neg (by omega),if_neg (by omega),if_neg (by omega),if_neg (by omega),e2]
 ·rw [List.getElem?_eq_none (by omega),List.getElem?_eq_none (by simp only [List.length_set];omega)]
def cellsL:Value->List Value
 | .agg a=>a.toList
 | _=>[]
theorem qaf.cellsL {w:World} {B:Nat} {v:Value} {p code:Int} {rs os:List Int} (h:qaf w B v p rs os code):(cellsL v).length=4/\∀ u ∈ cellsL v,u.oneCell'=true:=by
 obtain ⟨vr,vo,rfl,h1,h2,-⟩:=h
 obtain ⟨a1,c1,rfl,-⟩:=h1.form
 obtain ⟨a2,c2,rfl,-⟩:=h2.form
 refine ⟨rfl,fun u hu=>?_⟩
 simp [Go.Proofs.YtnfdnnmddadmkaaGreatDoor.cellsL] at hu
 rcases hu with rfl | rfl | rfl | rfl <;> rfl
structure LS (w:World) (P:Nat->Prop) (v:Value) (n:Nat) (vs:Nat->Value) (S:Nat->S4):Prop where
 row:w.ownsRow 0 93 4 v n (flat (fun i=>cellsL (vs i)) n)
 own:∀ i,i<n->qaf w 0 (vs i) (S i).p (S i).rs (S i).os (S i).c
 rb:∀ k,v.ownBlock=some k->P k
 ob:∀ i,i<n->∀ k,qak (vs i) k->P k
 ra:∀ i,i<n->∀ k,qak (vs i) k->v.ownBlock≠some k
 oa:∀ i j,i<n->j<n->i≠j->∀ k,qak (vs i) k->¬ qak (vs j) k
section
variable {w:World} {P:Nat->Prop} {v:Value} {n:Nat} {vs:Nat->Value} {S:Nat->S4}
theorem LS.keep (o:LS w P v n vs S) {w':World} (hb:∀ k,P k->k<w.heap.size->w'.heap[k]? = w.heap[k]?):LS w' P v n vs S:=
 ⟨qa1 o.row fun k hk=>hb k (o.rb k hk) (o.row.lt k hk).2,fun i hi=>(o.own i hi).blk fun k hk=>hb k (o.ob i hi k hk) ((o.own i hi).lt hk).2,o.rb,o.ob,o.ra,o.oa⟩
theorem LS.below (o:LS w P v n vs S) {w':World} (hb:Below w.heap.size w w'):LS w' P v n vs S:=o.keep fun k _ hk=>hb.block k hk
theorem LS.mono (o:LS w P v n vs S) {P':Nat->Prop} (h:∀ k,P k->k<w.heap.size->P' k):LS w P' v n vs S:=
 ⟨o.row,o.own,fun k hk=>h k (o.rb k hk) (o.row.lt k hk).2,fun i hi k hk=>h k (o.ob i hi k hk) ((o.own i hi).lt hk).2,o.ra,o.oa⟩
theorem LS.nil (w:World) (P:Nat->Prop) (vs:Nat->Value) (S:Nat->S4):LS w P (.slice none 0 0) 0 vs S:=
 ⟨World.ownsRow_nil _ _ _ _,fun i hi=>(by omega),fun k hk=>(by cases hk),fun i hi=>(by omega),fun i hi=>(by omega),fun i j hi=>(by omega)⟩
theorem LS.push (o:LS w P v n vs S) {w1 w2:World} {u' v':Value} (b1:Below w.heap.size w w1) (hu:qaf w1 w.heap.size u' (S n).p (S n).rs (S n).os (S n).c) (hv:w2.ownsRow 0 93 4 v' (n+1) (flat (fun i=>cellsL (vs i)) n ++ cellsL u')) (g:w1.grownBy w2 v.ownBlock)
  (hv':∀ j,v'.ownBlock=some j->v.ownBlock=some j\/w1.heap.size<=j) {P':Nat->Prop} (hP:∀ k,P k->k<w.heap.size->P' k) (hP':∀ k,w.heap.size<=k->k<w2.heap.size->P' k):LS w2 P' v' (n+1) (fun j=>if j=n then u' else vs j) S:=by
 have hvlt:∀ k,v.ownBlock=some k->k<w.heap.size:=fun k hk=>(o.row.lt k hk).2
 have lts:∀ i,i<n->∀ k,qak (vs i) k->k<w.heap.size:=fun i hi k hk=>((o.own i hi).lt hk).2
 have hu2:qaf w2 w.heap.size u' (S n).p (S n).rs (S n).os (S n).c:=hu.blk fun k hk=>g.block k (hu.lt hk).2 fun e=>by
  have q1:=(hu.lt hk).1
  have q2:=hvlt k e.symm
  omega
 have ho2:∀ i,i<n->qaf w2 0 (vs i) (S i).p (S i).rs (S i).os (S i).c:=fun i hi=>(o.own i hi).blk fun k hk=>(g.block k (zL (lts i hi k hk) b1.size) fun e=>o.ra i hi k hk e.symm).trans (b1.block k (lts i hi k hk))
 refine ⟨?_,fun i hi=>?_,fun k hk=>?_,fun i hi k hk=>?_,fun i hi k hk=>?_,fun i j hi hj hij k hk=>?_⟩
 ·have e:flat (fun i=>cellsL (if i=n then u' else vs i)) (n+1)=flat (fun i=>cellsL (vs i)) n ++ cellsL u':=by
   rw [flat,if_pos rfl]
   congr 1
   exact qc9 fun i hi=>by rw [if_neg (by omega)]
  rw [e]
  exact hv
 ·by_cases ei:i=n
  ·subst ei
   simp only [if_true]
   exact hu2.mono (Nat.zero_le _)
  ·simp only [if_neg ei]
   exact ho2 i (by omega)
 ·rcases hv' k hk with h | h
  ·exact hP k (o.rb k h) (hvlt k h)
  ·exact hP' k (zP b1.size h) (hv.lt k hk).2
 ·by_cases ei:i=n
  ·simp only [if_pos ei] at hk
   exact hP' k (hu.lt hk).1 (hu2.lt hk).2
  ·simp only [if_neg ei] at hk
   exact hP k (o.ob i (by omega) k hk) (lts i (by omega) k hk)
 ·intro hvk
  by_cases ei:i=n
  ·simp only [if_pos ei] at hk
   rcases hv' k hvk with h | h
   ·have:=hvlt k h
    have:=(hu.lt hk).1
    omega
   ·have:=(hu.lt hk).2
    omega
  ·simp only [if_neg ei] at hk
   rcases hv' k hvk with h | h
   ·exact o.ra i (by omega) k hk h
   ·have:=lts i (by omega) k hk
    have:=b1.size
    omega
 ·intro hjk
  by_cases ei:i=n
  ·have ej:j≠n:=fun e=>hij (by omega)
   simp only [if_pos ei] at hk
   simp only [if_neg ej] at hjk
   have:=lts j (by omega) k hjk
   have:=(hu.lt hk).1
   omega
  ·simp only [if_neg ei] at hk
   by_cases ej:j=n
   ·simp only [if_pos ej] at hjk
    have:=lts i (by omega) k hk
    have:=(hu.lt hjk).1
    omega
   ·simp only [if_neg ej] at hjk
    exact o.oa i j (by omega) (by omega) hij k hk hjk
theorem LS.cell (o:LS w P v n vs S) {i:Nat} (hi:i<n):∃ g cap,v=.slice (some ⟨g,0,none⟩) n cap/\P g/\g<w.heap.size/\Cel4 w g (i*4) (S i) (vs i)/\∀ j,w.frozen? ⟨g,j,none⟩=false:=by
 have hr:=o.row
 rcases hr.2 with ⟨_,h0⟩ | ⟨g,cap,cur,rfl,hb,hg,hcap,_⟩
 ·omega
 ·refine ⟨g,cap,rfl,o.rb g rfl,(o.row.lt g rfl).2,?_,fun j=>o.row.frozenAt j⟩
  have hl:∀ j,j<n->(cellsL (vs j)).length=4:=fun j hj=>(o.own j hj).cellsL.1
  have hc:∀ j,j<4->w.cell? ⟨g,i*4+j,none⟩=(cellsL (vs i))[j]?:=fun j hj=>by
   rw [o.row.cellAt (i*4+j) (by omega)]
   exact qdi hl hi hj
  obtain ⟨vr,vo,e,h1,h2,-⟩:=o.own i hi
  obtain ⟨a1,c1,rfl,-⟩:=h1.form
  obtain ⟨a2,c2,rfl,-⟩:=h2.form
  rw [e] at hc
  exact ⟨a1,c1,a2,c2,e,hc 0 (by omega),hc 1 (by omega),hc 2 (by omega),hc 3 (by omega)⟩
theorem LS.put {g cap:Nat} (o:LS w P (.slice (some ⟨g,0,none⟩) n cap) n vs S) {i:Nat} (hi:i<n) {w1:World} {ra oa:Option Addr} {rn rc on oc:Nat} {p code:Int} {T:S4} (b1:Below w.heap.size w w1) (hu:qaf w1 w.heap.size (stV p ra rn rc oa on oc code) T.p T.rs T.os T.c)
  {P':Nat->Prop} (hP:∀ k,P k->k<w.heap.size->P' k) (hP':∀ k,w.heap.size<=k->k<w1.heap.size->P' k):
  LS ((((w1.setCell ⟨g,i*4,none⟩ (.int .i64 p)).setCell ⟨g,i*4+1,none⟩ (.slice ra rn rc)).setCell ⟨g,i*4+2,none⟩ (.slice oa on oc)).setCell ⟨g,i*4+3,none⟩ (.int .i64 code)) P' (.slice (some ⟨g,0,none⟩) n cap) n (fun j=>if j=i then stV p ra rn rc oa on oc code else vs j) (fun j=>if j=i then T else S j):=by
 have hg:g<w.heap.size:=(o.row.lt g rfl).2
 have lts:∀ j,j<n->∀ k,qak (vs j) k->k<w.heap.size:=fun j hj k hk=>((o.own j hj).lt hk).2
 have hbk:∀ k,k≠g->((((w1.setCell ⟨g,i*4,none⟩ (.int .i64 p)).setCell ⟨g,i*4+1,none⟩ (.slice ra rn rc)).setCell ⟨g,i*4+2,none⟩ (.slice oa on oc)).setCell ⟨g,i*4+3,none⟩ (.int .i64 code)).heap[k]? = w1.heap[k]?:=fun k hne=>(zO _ _ _ _ hne).trans ((zO _ _ _ _ hne).trans ((zO _ _ _ _ hne).trans (zO _ _ _ _ hne)))
 refine ⟨?_,fun j hj=>?_,fun k hk=>?_,fun j hj k hk=>?_,fun j hj k hk=>?_,fun a b ha hb hab k hk=>?_⟩
 ·have hl:∀ j,j<n->(cellsL (vs j)).length=4:=fun j hj=>(o.own j hj).cellsL.1
  have e:flat (fun j=>cellsL (if j=i then stV p ra rn rc oa on oc code else vs j)) n=flat (fun j=>if j=i then [.int .i64 p,.slice ra rn rc,.slice oa on oc,.int .i64 code] else cellsL (vs j)) n:=qc9 fun j _=>by
   by_cases ej:j=i
   ·rw [if_pos ej,if_pos ej];rfl
   ·rw [if_neg ej,if_neg ej]
  rw [e,qp5 hl hi]
  exact (World.ownsRow.stored (World.ownsRow.stored (World.ownsRow.stored (World.ownsRow.stored (qa1 o.row fun k hk=>by cases hk;exact b1.block g hg) _ _).1 _ _).1 _ _).1 _ _).1
 ·by_cases ej:j=i
  ·subst ej
   simp only [if_true]
   refine (hu.mono (Nat.zero_le _)).blk fun k hk=>hbk k ?_
   have:=(hu.lt hk).1
   omega
  ·simp only [if_neg ej]
   refine (o.own j hj).blk fun k hk=>(hbk k fun e=>?_).trans (b1.block k (lts j hj k hk))
   exact o.ra j hj k hk (by rw [e];rfl)
 ·cases hk
  exact hP g (o.rb g rfl) hg
 ·by_cases ej:j=i
  ·simp only [if_pos ej] at hk
   exact hP' k (hu.lt hk).1 (hu.lt hk).2
  ·simp only [if_neg ej] at hk
   exact hP k (o.ob j hj k hk) (lts j hj k hk)
 ·intro hvk
  by_cases ej:j=i
  ·simp only [if_pos ej] at hk
   have:=(hu.lt hk).1
   have hkg:g=k:=by simpa [Value.ownBlock] using hvk
   omega
  ·simp only [if_neg ej] at hk
   exact o.ra j hj k hk hvk
 ·intro hbk'
  by_cases ea:a=i
  ·have eb:b≠i:=fun e=>hab (by omega)
   simp only [if_pos ea] at hk
   simp only [if_neg eb] at hbk'
   have:=lts b hb k hbk'
   have:=(hu.lt hk).1
   omega
  ·simp only [if_neg ea] at hk
   by_cases eb:b=i
   ·simp only [if_pos eb] at hbk'
    have:=lts a ha k hk
    have:=(hu.lt hbk').1
    omega
   ·simp only [if_neg eb] at hbk'
    exact o.oa a b ha hb hab k hk hbk'
end
def cI (h:I5):List Value:=[.int .i64 h.o,.int .i64 h.r,.int .i64 h.a,.int .i64 h.b,.int .i64 h.n]
def cT (h:I2):List Value:=[.bool h.m,.int .i64 h.v]
def cE (h:E3):List Value:=[.int .i64 h.k,.int .i64 h.q,.int .i64 h.v]
def fI (h:Nat->I5) (n:Nat):List Value:=flat (fun i=>cI (h i)) n
def fT (h:Nat->I2) (n:Nat):List Value:=flat (fun i=>cT (h i)) n
def fE (h:Nat->E3) (n:Nat):List Value:=flat (fun i=>cE (h i)) n
theorem qtr (h:Nat->I5) (n:Nat):(fI h n).length=n*5:=qc0 fun _ _=>rfl
theorem qko (h:Nat->I2) (n:Nat):(fT h n).length=n*2:=qc0 fun _ _=>rfl
theorem qvk (h:Nat->E3) (n:Nat):(fE h n).length=n*3:=qc0 fun _ _=>rfl
theorem qvm (h:Nat->I5) (n:Nat):∀ u ∈ fI h n,u.oneCell'=true:=qgv fun i _ u hu=>by
 simp [cI] at hu
 rcases hu with rfl | rfl | rfl | rfl | rfl <;> rfl
theorem qnk (h:Nat->I2) (n:Nat):∀ u ∈ fT h n,u.oneCell'=true:=qgv fun i _ u hu=>by
 simp [cT] at hu
 rcases hu with rfl | rfl <;> rfl
theorem qvl (h:Nat->E3) (n:Nat):∀ u ∈ fE h n,u.oneCell'=true:=qgv fun i _ u hu=>by
 simp [cE] at hu
 rcases hu with rfl | rfl | rfl <;> rfl
theorem kndI:Kind 121 123 5 40:=by
 refine ⟨Tryz.underlying121,?_,by omega,by omega⟩
 have hinfo:(Tryz.prog.info? 123).map (fun i=>(i.zero,i.size,i.bytes))=some (some (.agg #[.int .i64 0,.int .i64 0,.int .i64 0,.int .i64 0,.int .i64 0]),5,40):=by kernel_rfl
 cases hi:Tryz.prog.info? 123 with
 | none=>rw [hi] at hinfo;cases hinfo
 | some i=>
  rw [hi] at hinfo
  simp only [Option.map_some,Option.some.injEq,Prod.mk.injEq] at hinfo
  exact ⟨i,_,rfl,hinfo.1,hinfo.2.1,hinfo.2.2,rfl⟩
theorem kndT:Kind 46 95 2 16:=by
 refine ⟨Tryz.underlying46,?_,by omega,by omega⟩
 have hinfo:(Tryz.prog.info? 95).map (fun i=>(i.zero,i.size,i.bytes))=some (some (.agg #[.bool false,.int .i64 0]),2,16):=by kernel_rfl
 cases hi:Tryz.prog.info? 95 with
 | none=>rw [hi] at hinfo;cases hinfo
 | some i=>
  rw [hi] at hinfo
  simp only [Option.map_some,Option.some.injEq,Prod.mk.injEq] at hinfo
  exact ⟨i,_,rfl,hinfo.1,hinfo.2.1,hinfo.2.2,rfl⟩
theorem kndE:Kind 84 83 3 24:=by
 refine ⟨Tryz.underlying84,?_,by omega,by omega⟩
 have hinfo:(Tryz.prog.info? 83).map (fun i=>(i.zero,i.size,i.bytes))=some (some (.agg #[.int .i64 0,.int .i64 0,.int .i64 0]),3,24):=by kernel_rfl
 cases hi:Tryz.prog.info? 83 with
 | none=>rw [hi] at hinfo;cases hinfo
 | some i=>
  rw [hi] at hinfo
  simp only [Option.map_some,Option.some.injEq,Prod.mk.injEq] at hinfo
  exact ⟨i,_,rfl,hinfo.1,hinfo.2.1,hinfo.2.2,rfl⟩
theorem kndS:Kind 25 93 4 64:=by
 refine ⟨Tryz.underlying25,?_,by omega,by omega⟩
 have hinfo:=qup
 cases hi:Tryz.prog.info? 93 with
 | none=>rw [hi] at hinfo;cases hinfo
 | some i=>
  rw [hi] at hinfo
  simp only [Option.map_some,Option.some.injEq,Prod.mk.injEq] at hinfo
  exact ⟨i,_,rfl,hinfo.1,hinfo.2.1,hinfo.2.2,rfl⟩
theorem qvr:Kind 24 121 1 24:=by
 refine ⟨Tryz.underlying24,?_,by omega,by omega⟩
 have hinfo:(Tryz.prog.info? 121).map (fun i=>(i.zero,i.size,i.bytes))=some (some (.slice none 0 0),1,24):=by kernel_rfl
 cases hi:Tryz.prog.info? 121 with
 | none=>rw [hi] at hinfo;cases hinfo
 | some i=>
  rw [hi] at hinfo
  simp only [Option.map_some,Option.some.injEq,Prod.mk.injEq] at hinfo
  exact ⟨i,_,rfl,hinfo.1,hinfo.2.1,hinfo.2.2,rfl⟩
theorem qvs:Kind 26 46 1 24:=by
 refine ⟨Tryz.underlying26,?_,by omega,by omega⟩
 have hinfo:(Tryz.prog.info? 46).map (fun i=>(i.zero,i.size,i.bytes))=some (some (.slice none 0 0),1,24):=by kernel_rfl
 cases hi:Tryz.prog.info? 46 with
 | none=>rw [hi] at hinfo;cases hinfo
 | some i=>
  rw [hi] at hinfo
  simp only [Option.map_some,Option.some.injEq,Prod.mk.injEq] at hinfo
  exact ⟨i,_,rfl,hinfo.1,hinfo.2.1,hinfo.2.2,rfl⟩
theorem qvq:Kind 27 84 1 24:=by
 refine ⟨Tryz.underlying27,?_,by omega,by omega⟩
 have hinfo:(Tryz.prog.info? 84).map (fun i=>(i.zero,i.size,i.bytes))=some (some (.slice none 0 0),1,24):=by kernel_rfl
 cases hi:Tryz.prog.info? 84 with
 | none=>rw [hi] at hinfo;cases hinfo
 | some i=>
  rw [hi] at hinfo
  simp only [Option.map_some,Option.some.injEq,Prod.mk.injEq] at hinfo
  exact ⟨i,_,rfl,hinfo.1,hinfo.2.1,hinfo.2.2,rfl⟩
theorem qq9 {w:World} {b off sz n:Nat} {f:Nat->List Value} (hb:b<w.heap.size) (hsz:0<sz) (hl:∀ i,i<n->(f i).length=sz) (hc:∀ i,i<n->∀ j,j<sz->w.cell? ⟨b,off+(i*sz+j),none⟩=(f i)[j]?):Src w (some ⟨b,off,none⟩) (flat f n):=by
 refine .inr ⟨b,off,rfl,hb,fun q u hq=>?_⟩
 have hlen:=qc0 hl
 have hq':q<n*sz:=by
  rcases Nat.lt_or_ge q (n*sz) with h | h
  ·exact h
  ·rw [List.getElem?_eq_none (by omega)] at hq
   cases hq
 have hk:q / sz<n:=Nat.div_lt_of_lt_mul (by rw [Nat.mul_comm];exact hq')
 have hr:q % sz<sz:=Nat.mod_lt _ hsz
 have e:q / sz*sz+q % sz=q:=by rw [Nat.mul_comm];exact Nat.div_add_mod q sz
 have h1:=hc (q / sz) hk (q % sz) hr
 have h2:=qdi hl hk hr
 rw [e] at h1 h2
 rw [h1,<- h2,hq]
theorem srcI {w:World} {b off len:Nat} {g:Nat->I5} (hb:b<w.heap.size) (h:qan w b off len g):Src w (some ⟨b,off,none⟩) (fI g len):=qq9 (sz:=5) hb (by omega) (fun _ _=>rfl) fun i hi j hj=>by
 obtain ⟨h0,h1,h2,h3,h4⟩:=h i hi
 match j,hj with
 | 0,_=>exact h0
 | 1,_=>exact h1
 | 2,_=>exact h2
 | 3,_=>exact h3
 | 4,_=>exact h4
theorem srcT {w:World} {a:Option Addr} {len:Nat} {g:Nat->I2} (h:ItL w a len g):Src w a (fT g len):=by
 rcases h with rfl | ⟨b,off,rfl,hb,h⟩
 ·exact .inl rfl
 ·refine qq9 (sz:=2) hb (by omega) (fun _ _=>rfl) fun i hi j hj=>?_
  obtain ⟨h0,h1⟩:=h i hi
  match j,hj with
  | 0,_=>exact h0
  | 1,_=>exact h1
theorem srcE {w:World} {a:Option Addr} {len:Nat} {g:Nat->E3} (h:EvL w a len g):Src w a (fE g len):=by
 rcases h with rfl | ⟨b,off,rfl,hb,h⟩
 ·exact .inl rfl
 ·refine qq9 (sz:=3) hb (by omega) (fun _ _=>rfl) fun i hi j hj=>?_
  obtain ⟨h0,h1,h2⟩:=h i hi
  match j,hj with
  | 0,_=>exact h0
  | 1,_=>exact h1
  | 2,_=>exact h2
theorem atI {w:World} {B:Nat} {u:Value} {n:Nat} {g:Nat->I5} (o:w.ownsRow B 123 5 u n (fI g n)) (hne:u≠.slice none 0 0):∃ b cap,u=.slice (some ⟨b,0,none⟩) n cap/\b<w.heap.size/\qan w b 0 n g/\n<=cap:=by
 rcases o.2 with ⟨e,_⟩ | ⟨b,cap,cur,rfl,hb,hg,hcap,_⟩
 ·exact absurd e hne
 ·refine ⟨b,cap,rfl,(o.lt b rfl).2,fun i hi=>?_,hcap⟩
  have hc:∀ j,j<5->w.cell? ⟨b,0+(i*5+j),none⟩=(cI (g i))[j]?:=fun j hj=>by
   rw [Nat.zero_add,o.cellAt _ (by omega)]
   exact qdi (sz:=5) (fun _ _=>rfl) hi hj
  exact ⟨hc 0 (by omega),hc 1 (by omega),hc 2 (by omega),hc 3 (by omega),hc 4 (by omega)⟩
theorem atT {w:World} {B:Nat} {u:Value} {n:Nat} {g:Nat->I2} (o:w.ownsRow B 95 2 u n (fT g n)) (hne:u≠.slice none 0 0):∃ b cap,u=.slice (some ⟨b,0,none⟩) n cap/\b<w.heap.size/\ItAt w b 0 n g/\n<=cap:=by
 rcases o.2 with ⟨e,_⟩ | ⟨b,cap,cur,rfl,hb,hg,hcap,_⟩
 ·exact absurd e hne
 ·refine ⟨b,cap,rfl,(o.lt b rfl).2,fun i hi=>?_,hcap⟩
  have hc:∀ j,j<2->w.cell? ⟨b,0+(i*2+j),none⟩=(cT (g i))[j]?:=fun j hj=>by
   rw [Nat.zero_add,o.cellAt _ (by omega)]
   exact qdi (sz:=2) (fun _ _=>rfl) hi hj
  exact ⟨hc 0 (by omega),hc 1 (by omega)⟩
theorem atE {w:World} {B:Nat} {u:Value} {n:Nat} {g:Nat->E3} (o:w.ownsRow B 83 3 u n (fE g n)) (hne:u≠.slice none 0 0):∃ b cap,u=.slice (some ⟨b,0,none⟩) n cap/\b<w.heap.size/\EvAt w b 0 n g/\n<=cap:=by
 rcases o.2 with ⟨e,_⟩ | ⟨b,cap,cur,rfl,hb,hg,hcap,_⟩
 ·exact absurd e hne
 ·refine ⟨b,cap,rfl,(o.lt b rfl).2,fun i hi=>?_,hcap⟩
  have hc:∀ j,j<3->w.cell? ⟨b,0+(i*3+j),none⟩=(cE (g i))[j]?:=fun j hj=>by
   rw [Nat.zero_add,o.cellAt _ (by omega)]
   exact qdi (sz:=3) (fun _ _=>rfl) hi hj
  exact ⟨hc 0 (by omega),hc 1 (by omega),hc 2 (by omega)⟩
def Cl (B:Nat) (c:Nat->Nat) (i:Nat):Nat->Prop:=fun k=>B<=k/\c k=i
abbrev LI (z:Bool) (w:World) (P:Nat->Prop) (v:Value) (n:Nat) (u:Nat->Value) (L:Nat->Nat) (H:Nat->Nat->I5):Prop:=LL z 123 5 121 w P v n u L fun i=>fI (H i) (L i)
abbrev LT (z:Bool) (w:World) (P:Nat->Prop) (v:Value) (n:Nat) (u:Nat->Value) (L:Nat->Nat) (H:Nat->Nat->I2):Prop:=LL z 95 2 46 w P v n u L fun i=>fT (H i) (L i)
abbrev LE (z:Bool) (w:World) (P:Nat->Prop) (v:Value) (n:Nat) (u:Nat->Value) (L:Nat->Nat) (H:Nat->Nat->E3):Prop:=LL z 83 3 84 w P v n u L fun i=>fE (H i) (L i)
