import Derived.Test.YtbgfjbgdiifghaaGreatDoorZn8
import Derived.Test.YtbgfjbgdiifghaaGreatDoorZn10
import Derived.Test.YtbgfjbgdiifghaaGreatDoorZn11
import Derived.Deep.CutRange
namespace Go.Proofs.YtbgfjbgdiifghaaGreatDoor
open Go.Proofs.Tryz
set_option maxRecDepth 100000
set_option maxHeartbeats 1000000
open Go.RowKit
def cnt (eh:Nat->E3) (kd pr:Int) (n:Nat):Nat:=(plN eh kd pr n).length
theorem qul (eh:Nat->E3) (kd pr:Int):cnt eh kd pr 0=0:=rfl
theorem qh9 {eh:Nat->E3} {kd pr:Int} {n:Nat} (h:hitB eh kd pr n=true):cnt eh kd pr (n+1)=cnt eh kd pr n+1:=by
 unfold cnt;rw [plN,nC h,List.length_append];rfl
theorem qnm {eh:Nat->E3} {kd pr:Int} {n:Nat} (h:hitB eh kd pr n=false):cnt eh kd pr (n+1)=cnt eh kd pr n:=by
 unfold cnt;rw [plN,nB (by rw [h];decide)]
theorem qrs (eh:Nat->E3) (kd pr:Int) (n:Nat):cnt eh kd pr n<=n:=qhb eh kd pr n
theorem qhq (eh:Nat->E3) (kd pr:Int) {a b:Nat} (h:a<=b):cnt eh kd pr a<=cnt eh kd pr b:=by
 induction b with
 | zero=>
  have:a=0:=by omega
  subst this;exact nA _
 | succ b ih=>
  by_cases e:a=b+1
  ·subst e
   exact nA _
  ·have:=ih (by omega)
   rcases zK (hitB eh kd pr b) with t | t
   ·rw [qh9 t]
    omega
   ·rw [qnm t]
    exact this
theorem qds {eh:Nat->E3} {kd pr:Int} {i:Nat}:hitB eh kd pr i=true ↔ (eh i).k=kd/\(eh i).q=pr:=by
 simp [hitB]
structure Hs where
 n:Nat
 l:Nat->Nat
 e:Nat->Nat->E3
def Hs.Peers (x:Hs):Prop:=∀ p,p<x.n->∀ i,i<x.l p->0<=(x.e p i).q/\(x.e p i).q<(x.n:Int)
def Hs.Can (x:Hs) (d:Nat->Nat) (p:Nat):Prop:=
 d p<x.l p/\((x.e p (d p)).k=3->cnt (x.e p) 3 (x.e p (d p)).q (d p)<cnt (x.e (x.e p (d p)).q.toNat) 2 p (d (x.e p (d p)).q.toNat))
def up (d:Nat->Nat) (p:Nat):Nat->Nat:=fun i=>if i=p then d i+1 else d i
theorem qc1 (d:Nat->Nat) (p:Nat):up d p p=d p+1:=by simp [up]
theorem up_other {d:Nat->Nat} {p i:Nat} (h:i≠p):up d p i=d i:=by simp [up,h]
inductive Hs.Put (x:Hs):(Nat->Nat)->Prop
 | start:x.Put (fun _=>0)
 | next {d:Nat->Nat} {p:Nat}:x.Put d->p<x.n->x.Can d p->x.Put (up d p)
def Hs.All (x:Hs) (d:Nat->Nat):Prop:=∀ p,p<x.n->d p=x.l p
def Hs.Row (x:Hs):Prop:=∃ d,x.Put d/\x.All d
theorem Hs.Put.le {x:Hs} {d:Nat->Nat} (h:x.Put d):∀ p,d p<=x.l p:=by
 induction h with
 | start=>exact fun _=>nD _
 | next _ _ hc ih=>
  rename_i d p _ _;intro i;by_cases e:i=p
  ·subst e
   rw [qc1];exact hc.1
  ·rw [up_other e]
   exact ih i
theorem Hs.Put.stuck {x:Hs} {d s:Nat->Nat} (h:x.Put d) (hp:x.Peers) (hs:∀ p,p<x.n->¬ x.Can s p):∀ p,p<x.n->d p<=s p:=by
 induction h with
 | start=>exact fun _ _=>nD _
 | next _ hpn hc ih=>
  rename_i d p _;intro i hi;by_cases e:i=p
  ·subst e
   rw [qc1];have h1:=ih i hi;by_cases e:d i=s i
   ·exfalso
    refine hs i hi ⟨by rw [<- e];exact hc.1,fun hk=>?_⟩;rw [<- e] at hk ⊢;have h2:=hc.2 hk;have hq:=hp i hi (d i) hc.1;exact zL h2 (qhq _ _ _ (ih _ (by omega)))
   ·omega
  ·rw [up_other e]
   exact ih i hi
theorem Hs.row_iff {x:Hs} {s:Nat->Nat} (h:x.Put s) (hp:x.Peers) (hs:∀ p,p<x.n->¬ x.Can s p):x.Row ↔ x.All s:=by
 refine ⟨fun ⟨d,hd,ha⟩ p hpn=>?_,fun ha=>⟨s,h,ha⟩⟩;have h1:=hd.stuck hp hs p hpn;have h2:=h.le p;have h3:=ha p hpn;omega
def Hs.opn (x:Hs) (d:Nat->Nat) (a b:Nat):Int:=(cnt (x.e a) 2 b (d a):Int) - (cnt (x.e b) 3 a (d b):Int)
theorem Hs.opn_start (x:Hs) (a b:Nat):x.opn (fun _=>0) a b=0:=by simp [Hs.opn,qul]
theorem Hs.can_iff {x:Hs} {d:Nat->Nat} {p:Nat} (hp:x.Peers) (hpn:p<x.n):x.Can d p ↔ d p<x.l p/\((x.e p (d p)).k=3->0<x.opn d (x.e p (d p)).q.toNat p):=by
 unfold Hs.Can Hs.opn;refine and_congr_right fun hl=>?_;have hq:=hp p hpn _ hl;rw [show (((x.e p (d p)).q.toNat:Nat):Int)=(x.e p (d p)).q by omega];refine ⟨fun h hk=>?_,fun h hk=>?_⟩
 ·have:=h hk
  omega
 ·have:=h hk
  omega
theorem Hs.opn_up {x:Hs} {d:Nat->Nat} {p a b:Nat}:x.opn (up d p) a b=x.opn d a b+(if a=p/\(x.e p (d p)).k=2/\(x.e p (d p)).q=(b:Int) then 1 else 0) - (if b=p/\(x.e p (d p)).k=3/\(x.e p (d p)).q=(a:Int) then 1 else 0):=by
 have hA:(cnt (x.e a) 2 b (up d p a):Int)=cnt (x.e a) 2 b (d a)+(if a=p/\(x.e p (d p)).k=2/\(x.e p (d p)).q=(b:Int) then 1 else 0):=by
  by_cases e:a=p
  ·subst e
   rw [qc1]
   rcases zK (hitB (x.e a) 2 b (d a)) with t | t
   ·rw [qh9 t,nC ⟨rfl,qds.1 t⟩]
    omega
   ·rw [qnm t,nB (fun h=>by rw [qds.2 h.2] at t;cases t)]
    omega
  ·rw [up_other e,nB (fun h=>e h.1)]
   omega
 have hB:(cnt (x.e b) 3 a (up d p b):Int)=cnt (x.e b) 3 a (d b)+(if b=p/\(x.e p (d p)).k=3/\(x.e p (d p)).q=(a:Int) then 1 else 0):=by
  by_cases e:b=p
  ·subst e
   rw [qc1]
   rcases zK (hitB (x.e b) 3 a (d b)) with t | t
   ·rw [qh9 t,nC ⟨rfl,qds.1 t⟩]
    omega
   ·rw [qnm t,nB (fun h=>by rw [qds.2 h.2] at t;cases t)]
    omega
  ·rw [up_other e,nB (fun h=>e h.1)]
   omega
 unfold Hs.opn;rw [hA,hB];omega
open Go.Sort
def quh (w:World) (B:Nat) (v0:Value) (os:List Int) (p' a' b' c' d':Int) (os':List Int) (code':Int) (e:Ending) (w':World):Prop:=
 ∃ oa' oc',e=.returned (dV p' a' b' c' d' oa' os'.length oc' code')/\OwnI w' B (.slice oa' os'.length oc') os'/\OwnI w' B v0 os/\w.grownBy w' v0.ownBlock/\∀ j,(Value.slice oa' os'.length oc').ownBlock=some j->v0.ownBlock=some j\/w.heap.size<=j
theorem qib {w w':World} {row:Option Nat} {B:Nat} (h:w.grownBy w' row) (hr:∀ j,row=some j->B<=j) (hB:B<=w.heap.size):Below B w w':=
 ⟨h.os,h.tape,h.output,h.size,fun k hk=>h.block k (by omega) (fun e=>by have:=hr k e.symm;omega)⟩
structure DC (w:World) (N:Nat) (p a b c d:Int) (o:Option Addr) (n m:Nat) (code:Int):Prop where
 d0:w.cell? (aQ N 0)=some (iV p)
 d1:w.cell? (aQ N 1)=some (iV a)
 d2:w.cell? (aQ N 2)=some (iV b)
 d3:w.cell? (aQ N 3)=some (iV c)
 d4:w.cell? (aQ N 4)=some (iV d)
 d5:w.cell? (aQ N 5)=some (.slice o n m)
 d6:w.cell? (aQ N 6)=some (iV code)
theorem DC.kept {w w':World} {N:Nat} {p a b c d:Int} {o:Option Addr} {n m:Nat} {code:Int} (h:DC w N p a b c d o n m code) (hb:w'.heap[N]? = w.heap[N]?):DC w' N p a b c d o n m code:=
 ⟨(zH hb).trans h.d0,(zH hb).trans h.d1,(zH hb).trans h.d2,(zH hb).trans h.d3,(zH hb).trans h.d4,(zH hb).trans h.d5,(zH hb).trans h.d6⟩
theorem DC.lt {w:World} {N:Nat} {p a b c d:Int} {o:Option Addr} {n m:Nat} {code:Int} (h:DC w N p a b c d o n m code):N<w.heap.size:=zJ w _ h.d0
theorem DC.new (w:World) (p a b c d:Int) (o:Option Addr) (n m:Nat) (code:Int) (t:TypeId):DC (w.alloc (.cells #[iV p,iV a,iV b,iV c,iV d,.slice o n m,iV code] t)) w.heap.size p a b c d o n m code:=
 ⟨zW _ _ _ 0 rfl,zW _ _ _ 1 rfl,zW _ _ _ 2 rfl,zW _ _ _ 3 rfl,zW _ _ _ 4 rfl,zW _ _ _ 5 rfl,zW _ _ _ 6 rfl⟩
theorem qyu (w:World) (N:Nat) (v0 v1 v2 v3 v4 v5 v6:Value):w.grownBy (((((((w.setCell (aQ N 0) v0).setCell (aQ N 1) v1).setCell (aQ N 2) v2).setCell (aQ N 3) v3).setCell (aQ N 4) v4).setCell (aQ N 5) v5).setCell (aQ N 6) v6) (some N):=by
 repeat (refine zV ?_ (.inl rfl) _)
 exact World.grownBy.refl _ _
theorem DC.put {w:World} {N:Nat} {p a b c d:Int} {o:Option Addr} {n m:Nat} {code:Int} (h:DC w N p a b c d o n m code) (p' a' b' c' d':Int) (o':Option Addr) (n' m':Nat) (code':Int):
  DC (((((((w.setCell (aQ N 0) (iV p')).setCell (aQ N 1) (iV a')).setCell (aQ N 2) (iV b')).setCell (aQ N 3) (iV c')).setCell (aQ N 4) (iV d')).setCell (aQ N 5) (.slice o' n' m')).setCell (aQ N 6) (iV code')) N p' a' b' c' d' o' n' m' code':=by
 obtain ⟨d0,d1,d2,d3,d4,d5,d6⟩:=h;exact ⟨by go_cell,by go_cell,by go_cell,by go_cell,by go_cell,by go_cell,by go_cell⟩
def qgt (w:World) (N5 B:Nat) (k:Int) (ra oa:Option Addr) (rc oc:Nat) (a1 a2 a3 a4:Int) (os:List Int) (ek eq ev:Int) (o1:Option Addr) (c1:Nat) (p' b1 b2 b3 b4:Int) (os':List Int) (code':Int) (wx:World) (N:Nat):Prop:=
 qa4 wx w.heap.size (iV k) (.slice ra 4 rc) (.slice oa os.length oc) (iV 0) ek eq ev/\DC wx N5 k a1 a2 a3 a4 o1 os.length c1 0/\(∃ o2 c2,DC wx N p' b1 b2 b3 b4 o2 os'.length c2 code'/\OwnI wx B (.slice o2 os'.length c2) os')/\OwnI wx B (.slice o1 os.length c1) os/\Bw w wx
theorem qgt.of_alloc {w:World} {N5 B:Nat} {k:Int} {ra oa:Option Addr} {rc oc:Nat} {a1 a2 a3 a4:Int} {os:List Int} {ek eq ev:Int} {o1:Option Addr} {c1:Nat} {p' b1 b2 b3 b4:Int} {os':List Int} {code':Int} {w8:World} {o2:Option Addr} {c2:Nat} (X8:qa4 w8 w.heap.size (iV k) (.slice ra 4 rc) (.slice oa os.length oc) (iV 0) ek eq ev) (Y8:DC w8 N5 k a1 a2 a3 a4 o1 os.length c1 0) (N8:OwnI w8 B (.slice o2 os'.length c2) os') (M8:OwnI w8 B (.slice o1 os.length c1) os) (B8:Bw w w8) (t:TypeId):
  qgt w N5 B k ra oa rc oc a1 a2 a3 a4 os ek eq ev o1 c1 p' b1 b2 b3 b4 os' code' (w8.alloc (.cells #[iV p',iV b1,iV b2,iV b3,iV b4,.slice o2 os'.length c2,iV code'] t)) w8.heap.size:=by
 have ba:=zT w8 (.cells #[iV p',iV b1,iV b2,iV b3,iV b4,.slice o2 os'.length c2,iV code'] t);exact ⟨X8.bw ba,Y8.kept (ba.block N5 Y8.lt),⟨o2,c2,DC.new w8 _ _ _ _ _ _ _ _ _ _,N8.bw ba⟩,M8.bw ba,B8.trans (ba.mono B8.size)⟩
theorem qgt.of_put {w:World} {N5 B:Nat} {k:Int} {ra oa:Option Addr} {rc oc:Nat} {a1 a2 a3 a4:Int} {os:List Int} {ek eq ev:Int} {o1:Option Addr} {c1:Nat} {p' b1 b2 b3 b4:Int} {os':List Int} {code':Int} {w8:World} {o2:Option Addr} {c2 N:Nat} (X8:qa4 w8 w.heap.size (iV k) (.slice ra 4 rc) (.slice oa os.length oc) (iV 0) ek eq ev) (Y8:DC w8 N5 k a1 a2 a3 a4 o1 os.length c1 0) (N8:OwnI w8 B (.slice o2 os'.length c2) os') (M8:OwnI w8 B (.slice o1 os.length c1) os) (B8:Bw w w8)
  (hN:N5<N) (h5:w.heap.size+1+1<N5) (hZ:DC w8 N 0 0 0 0 0 none 0 0 0) (nM:∀ j,(Value.slice o1 os.length c1).ownBlock=some j->j≠N) (nN:∀ j,(Value.slice o2 os'.length c2).ownBlock=some j->j≠N):
  qgt w N5 B k ra oa rc oc a1 a2 a3 a4 os ek eq ev o1 c1 p' b1 b2 b3 b4 os' code' (((((((w8.setCell (aQ N 0) (iV p')).setCell (aQ N 1) (iV b1)).setCell (aQ N 2) (iV b2)).setCell (aQ N 3) (iV b3)).setCell (aQ N 4) (iV b4)).setCell (aQ N 5) (.slice o2 os'.length c2)).setCell (aQ N 6) (iV code')) N:=by
 have gz:=qyu w8 N (iV p') (iV b1) (iV b2) (iV b3) (iV b4) (.slice o2 os'.length c2) (iV code');have l8:=Y8.lt;refine ⟨?_,?_,⟨o2,c2,?_,?_⟩,?_,?_⟩
 ·exact X8.kept fun j h1 h2=>gz.block j (by omega) (by simp;omega)
 ·exact Y8.kept (gz.block N5 (by omega) (by simp;omega))
 ·exact hZ.put _ _ _ _ _ _ _ _ _
 ·repeat (refine OwnI.setOther ?_ (fun e=>nN _ e rfl) _)
  exact N8
 ·repeat (refine OwnI.setOther ?_ (fun e=>nM _ e rfl) _)
  exact M8
 ·exact B8.trans (qib gz (fun j hj=>by simp at hj;omega) B8.size)
def qay (len:Nat) (p a b c d:Int) (os:List Int) (p' a' b' c' d':Int) (os':List Int) (code':Int):S4:=
 if qc3 [a',b',c',d']=false\/(60:Int)<(os'.length:Int) then ⟨p,[a,b,c,d],os,2⟩ else if belB p' len=false then ⟨p,[a',b',c',d'],os',2⟩ else ⟨p',[a',b',c',d'],os',code'⟩
theorem qw7 (b off len cap:Nat) (g:Nat->I5) (p code:Int) (ra oa:Option Addr) (rc oc:Nat) (rs os:List Int) (ek eq ev:Int) (w:World) (hlen:len<=maxLen) (hb:b<w.heap.size) (hI:qaq w b off len g) (hr:rs.length<=1048576) (ho:os.length<=1048576) (h1:Sl w ra rs) (h2:Sl w oa os) (hD:canB (nxK g len p rs os code) (nxP g len p rs os code) (nxW g len p rs os code) ek eq ev=false) (hP:qaa g len 4=true):
  Calls prog 135 #[.slice (some (aQ b off)) len cap,stV p ra rs.length rc oa os.length oc code,evV ek eq ev] w (qc2 w ⟨p,rs,os,code⟩ false):=by
 have HI:Hid (qaq w b off len g):=hI;have H1:Hid (Sl w ra rs):=h1;have H2:Hid (Sl w oa os):=h2;have HL:Hid (len<=maxLen):=hlen;have HP:Hid (qaa g len 4=true):=hP;clear hI h1 h2 hlen hP
 go_enter func135,ntmps135
 go_wp2_with fail
 have X:=qa4.new w (iV (p)) (.slice ra rs.length rc) (.slice oa os.length oc) (iV code) ek eq ev 66 49 66
 have BW:Hid (Bw w (((w.alloc (oQ0 p ra rs.length rc oa os.length oc code)).alloc (oQ2 ek eq ev)).alloc (zQ0))):=by
  show Below _ _ _
  go_grown
 generalize (((w.alloc (oQ0 p ra rs.length rc oa os.length oc code)).alloc (oQ2 ek eq ev)).alloc (zQ0))=W at *;have HX:Hid (qa4 W w.heap.size (iV (p)) (.slice ra rs.length rc) (.slice oa os.length oc) (iV code) ek eq ev):=X;have l2:=X.lt;obtain ⟨p0,p1,p2,p3,e0,e1,e2,r0,r1,r2,r3,rf⟩:=X;have p0':=cell_regrown p0;have p1':=cell_regrown p1;have p2':=cell_regrown p2;have p3':=cell_regrown p3;have e0':=cell_regrown e0;have e1':=cell_regrown e1;have e2':=cell_regrown e2;have HB':Hid (∀ d os',Bw w (grow (redrawn W d) os')):=fun d os'=>BW.trans ((below_regrown W d os').mono BW.size);clear p0 p1 p2 p3 e0 e1 e2 r0 r1 r2 r3 rf;refine wp_region_quiet_below (by kernel_rfl) (by kernel_rfl) ?_
 repeat (quiet_step (first|(go_at_call 143;exact Calls.regrown_of (qja b off len cap g (p) code ra oa rc oc rs os _ HL.out (zL hb (HB'.out _ _).size) (HI.bw (HB'.out _ _) hb) ho (H1.bw (HB'.out _ _)) (H2.bw (HB'.out _ _)) HP.out))|(go_at_call 142;exact Calls.regrown_of (qh7 _ _ _ _ _ _ _))))
 refine wpQuiet_nil ?_;intro _ hw';obtain ⟨⟨dq,osq⟩,hw''⟩:=hw';subst hw'';have b3:=below_regrown W dq osq;have B3:Hid (Bw w (grow (redrawn W dq) osq)):=BW.trans (b3.mono BW.size);have X:=HX.bw b3;have l3:=X.lt;generalize grow (redrawn W dq) osq=w3 at *;clear b3 p0' p1' p2' p3' e0' e1' e2' BW HB' l2 HX;obtain ⟨p0,p1,p2,p3,e0,e1,e2,r0,r1,r2,r3,rf⟩:=X;go_wp2_with fail
 refine (qjp p code ra oa rc oc rs os _ hr ho (H1.bw B3.out) (H2.bw B3.out)).mono ?_;rintro e w4 ⟨v,rfl,o4,b4⟩;obtain ⟨ra2,rc2,oa2,oc2,rfl,-,-⟩:=o4.read;obtain ⟨hc4,hf4⟩:=qal b4;have O4:Hid (qac w4 w3.heap.size (stV p ra2 rs.length rc2 oa2 os.length oc2 code) p rs os code):=o4;have B4:Hid (Bw w w4):=B3.trans (b4.mono B3.size);clear o4 b4;go_wp2;refine bodyPost_ret (v:=.tuple #[stV p ra2 rs.length rc2 oa2 os.length oc2 code,.bool false]) (by simp [results,results135,go_sem,hc4,l3,r0,r1,r2,r3]) rfl ⟨_,rfl,?_,?_⟩
 ·exact qac.put4 (B':=w3.heap.size) O4.out l3 (by omega)
 ·have:=B4.out
  go_grown
theorem qoq (p a b c d:Int) (oa:Option Addr) (oc:Nat) (os:List Int) (code p' a' b' c' d':Int) (oa':Option Addr) (oc':Nat) (os':List Int) (code':Int) (n B:Nat) (w:World) (h1:OwnI w B (.slice oa os.length oc) os) (h2:OwnI w B (.slice oa' os'.length oc') os') (S:S4) (hS:qay n p a b c d os p' a' b' c' d' os' code'=S):
  Calls prog 147 #[dV p a b c d oa os.length oc code,dV p' a' b' c' d' oa' os'.length oc' code',iV n] w fun e w'=>∃ o3 c3 x1 x2 x3 x4,e=.returned (dV S.p x1 x2 x3 x4 o3 S.os.length c3 S.c)/\S.rs=[x1,x2,x3,x4]/\OwnI w' B (.slice o3 S.os.length c3) S.os/\Bw w w':=by
 subst hS;unfold qay
 rcases zK (qc3 [a',b',c',d']) with hr | hr
 ·by_cases hn:(60:Int)<(os'.length:Int)
  ·rw [nC (.inr hn)]
   refine (qmo _ _ _ _ _ _ _ _ _ _ _ _ _ _ _ _ _ _ _ _ hr hn).mono ?_;rintro e w1 ⟨rfl,b1⟩;exact ⟨_,_,_,_,_,_,rfl,rfl,h1.bw b1,b1⟩
  ·rw [nB (by simp [hr,hn])]
   rcases zK (belB p' n) with hp | hp
   ·rw [nB (by simp [hp])]
    refine (qq9 _ _ _ _ _ _ _ _ _ _ _ _ _ _ _ _ _ _ _ _ hr hn hp).mono ?_;rintro e w1 ⟨rfl,b1⟩;exact ⟨_,_,_,_,_,_,rfl,rfl,h2.bw b1,b1⟩
   ·rw [nC hp]
    refine (qor _ _ _ _ _ _ _ _ _ _ _ _ _ _ _ _ _ _ _ _ hr hn hp).mono ?_;rintro e w1 ⟨rfl,b1⟩;exact ⟨_,_,_,_,_,_,rfl,rfl,h2.bw b1,b1⟩
 ·rw [nC (.inl hr)]
  refine (qmq _ _ _ _ _ _ _ _ _ _ _ _ _ _ _ _ _ _ _ _ hr).mono ?_;rintro e w1 ⟨rfl,b1⟩;exact ⟨_,_,_,_,_,_,rfl,rfl,h1.bw b1,b1⟩
theorem qbl (b off len cap k:Nat) (g:Nat->I5) (ra oa:Option Addr) (rc oc:Nat) (a1 a2 a3 a4:Int) (os:List Int) (ek eq ev:Int) (w:World) (F:FuncId) (hE:∀ args wx,(callFunc F args).run prog wx=.ok (.enter F args) wx) (p' b1 b2 b3 b4:Int) (os':List Int) (code':Int) (hlen:len<=maxLen) (hb:b<w.heap.size) (hI:qaq w b off len g) (ho:os.length<=60) (h1:Sl w ra [a1,a2,a3,a4]) (h2:Sl w oa os) (hk:k<len) (hD:canB (nxK g len k [a1,a2,a3,a4] os 0) (nxP g len k [a1,a2,a3,a4] os 0) (nxW g len k [a1,a2,a3,a4] os 0) ek eq ev=true)
  (hF:∀ wx,Calls prog 146 #[iV (g k).o] wx (rB wx (.func (.func F) #[] #[])))
  (hS:∀ (o1:Option Addr) (c1 B:Nat) (wx:World),B<=wx.heap.size->OwnI wx B (.slice o1 os.length c1) os->Calls prog F #[dV k a1 a2 a3 a4 o1 os.length c1 0,insV (g k).o (g k).r (g k).a (g k).b (g k).n,evV ek eq ev] wx (quh wx B (.slice o1 os.length c1) os p' b1 b2 b3 b4 os' code')):
  Calls prog 135 #[.slice (some (aQ b off)) len cap,stV k ra 4 rc oa os.length oc 0,evV ek eq ev] w (qc2 w (qay len k a1 a2 a3 a4 os p' b1 b2 b3 b4 os' code') true):=by
 have HI:Hid (qaq w b off len g):=hI;have H1:Hid (Sl w ra [a1,a2,a3,a4]):=h1;have H2:Hid (Sl w oa os):=h2;have HL:Hid (len<=maxLen):=hlen;have HP:Hid (qaa g len 4=true):=(qa7 (qci hD)).1;have HF:Hid (∀ wx,Calls prog 146 #[iV (g k).o] wx (rB wx (.func (.func F) #[] #[]))):=hF;have HS:Hid (∀ (o1:Option Addr) (c1 B:Nat) (wx:World),B<=wx.heap.size->OwnI wx B (.slice o1 os.length c1) os->Calls prog F #[dV k a1 a2 a3 a4 o1 os.length c1 0,insV (g k).o (g k).r (g k).a (g k).b (g k).n,evV ek eq ev] wx (quh wx B (.slice o1 os.length c1) os p' b1 b2 b3 b4 os' code')):=hS;have ho':=ho;replace ho:os.length<=1048576:=by omega
 have hk':(k:Int)<(len:Int):=by omega
 have hl':(len:Int)<=9223372036854775807:=by have:=HL.out;unfold maxLen at this;omega
 clear hI h1 h2 hlen hF hS;generalize hT:qay len k a1 a2 a3 a4 os p' b1 b2 b3 b4 os' code'=S;have HT:Hid (qay len k a1 a2 a3 a4 os p' b1 b2 b3 b4 os' code'=S):=hT;clear hT
 go_enter func135,ntmps135
 go_wp2_with fail
 have X:=qa4.new w (iV (k)) (.slice ra 4 rc) (.slice oa os.length oc) (iV 0) ek eq ev 66 49 66
 have BW:Hid (Bw w (((w.alloc (oQ0 k ra 4 rc oa os.length oc 0)).alloc (oQ2 ek eq ev)).alloc (zQ0))):=by
  show Below _ _ _
  go_grown
 generalize (((w.alloc (oQ0 k ra 4 rc oa os.length oc 0)).alloc (oQ2 ek eq ev)).alloc (zQ0))=W at *;have HX:Hid (qa4 W w.heap.size (iV (k)) (.slice ra 4 rc) (.slice oa os.length oc) (iV 0) ek eq ev):=X;have l2:=X.lt;obtain ⟨p0,p1,p2,p3,e0,e1,e2,r0,r1,r2,r3,rf⟩:=X;have p0':=cell_regrown p0;have p1':=cell_regrown p1;have p2':=cell_regrown p2;have p3':=cell_regrown p3;have e0':=cell_regrown e0;have e1':=cell_regrown e1;have e2':=cell_regrown e2;have HB':Hid (∀ d os',Bw w (grow (redrawn W d) os')):=fun d os'=>BW.trans ((below_regrown W d os').mono BW.size);clear p0 p1 p2 p3 e0 e1 e2 r0 r1 r2 r3 rf;refine wp_region_quiet_below (by kernel_rfl) (by kernel_rfl) ?_
 repeat (quiet_step (first|(go_at_call 143;exact Calls.regrown_of (qja b off len cap g (k) 0 ra oa rc oc [a1,a2,a3,a4] os _ HL.out (zL hb (HB'.out _ _).size) (HI.bw (HB'.out _ _) hb) ho (H1.bw (HB'.out _ _)) (H2.bw (HB'.out _ _)) HP.out))|(go_at_call 142;exact Calls.regrown_of (qh7 _ _ _ _ _ _ _))))
 refine wpQuiet_nil ?_;intro _ hw';obtain ⟨⟨dq,osq⟩,hw''⟩:=hw';subst hw'';have b3:=below_regrown W dq osq;have B3:Hid (Bw w (grow (redrawn W dq) osq)):=BW.trans (b3.mono BW.size);have X:=HX.bw b3;have l3:=X.lt;generalize grow (redrawn W dq) osq=w3 at *;clear b3 p0' p1' p2' p3' e0' e1' e2' BW HB' l2 HX;obtain ⟨p0,p1,p2,p3,e0,e1,e2,r0,r1,r2,r3,rf⟩:=X;clear hD;obtain ⟨c0,c1,c2,c3,c4⟩:=HI.bw B3.out hb k hk;have X3:qa4 w3 w.heap.size (iV k) (.slice ra 4 rc) (.slice oa os.length oc) (iV 0) ek eq ev:=⟨p0,p1,p2,p3,e0,e1,e2,r0,r1,r2,r3,rf⟩
 have bX:=zT w3 (oQ1 (g k).o (g k).r (g k).a (g k).b (g k).n);have X4:Hid (qa4 (w3.alloc (oQ1 (g k).o (g k).r (g k).a (g k).b (g k).n)) w.heap.size (iV k) (.slice ra 4 rc) (.slice oa os.length oc) (iV 0) ek eq ev):=X3.bw bX;have B4:Hid (Bw w (w3.alloc (oQ1 (g k).o (g k).r (g k).a (g k).b (g k).n))):=B3.trans (bX.mono B3.size);obtain ⟨q0,q1,q2,q3,-,-,-,-,-,-,-,-⟩:=X4.out;clear X3 bX;go_wp2_with fail
 have i0:(w3.alloc (oQ1 (g k).o (g k).r (g k).a (g k).b (g k).n)).cell? (aQ w3.heap.size 0)=some (iV (g k).o):=zW _ _ _ 0 rfl;have i1:(w3.alloc (oQ1 (g k).o (g k).r (g k).a (g k).b (g k).n)).cell? (aQ w3.heap.size 1)=some (iV (g k).r):=zW _ _ _ 1 rfl;have i2:(w3.alloc (oQ1 (g k).o (g k).r (g k).a (g k).b (g k).n)).cell? (aQ w3.heap.size 2)=some (iV (g k).a):=zW _ _ _ 2 rfl;have i3:(w3.alloc (oQ1 (g k).o (g k).r (g k).a (g k).b (g k).n)).cell? (aQ w3.heap.size 3)=some (iV (g k).b):=zW _ _ _ 3 rfl;have i4:(w3.alloc (oQ1 (g k).o (g k).r (g k).a (g k).b (g k).n)).cell? (aQ w3.heap.size 4)=some (iV (g k).n):=zW _ _ _ 4 rfl;have zX:w3.heap.size<(w3.alloc (oQ1 (g k).o (g k).r (g k).a (g k).b (g k).n)).heap.size:=by simp
 clear p0 p1 p2 p3 e0 e1 e2 r0 r1 r2 r3 rf c0 c1 c2 c3 c4 q0 q1 q2 q3;generalize w3.alloc (oQ1 (g k).o (g k).r (g k).a (g k).b (g k).n)=W4 at *;generalize w3.heap.size=N3 at *;refine (qnr (k:Int) 0 ra oa rc oc a1 a2 a3 a4 os _ ho (H1.bw B4.out) (H2.bw B4.out)).mono ?_;rintro e w5 ⟨o1,c1,rfl,o5,b5⟩;have X5:Hid (qa4 w5 w.heap.size (iV k) (.slice ra 4 rc) (.slice oa os.length oc) (iV 0) ek eq ev):=X4.bw b5;have B5:Hid (Bw w w5):=B4.trans (b5.mono B4.size);have O5:Hid (OwnI w5 W4.heap.size (.slice o1 os.length c1) os):=o5;obtain ⟨hc5,-⟩:=qal b5;replace i0:=(hc5 _ 0 zX).trans i0;replace i1:=(hc5 _ 1 zX).trans i1;replace i2:=(hc5 _ 2 zX).trans i2;replace i3:=(hc5 _ 3 zX).trans i3;replace i4:=(hc5 _ 4 zX).trans i4;have z5:W4.heap.size<=w5.heap.size:=b5.size;clear hc5 b5 o5 X4 B4 B3;go_wp2_with fail
 have bY:=zT w5 (oQ3 k a1 a2 a3 a4 o1 os.length c1 0);have X6:Hid (qa4 (w5.alloc (oQ3 k a1 a2 a3 a4 o1 os.length c1 0)) w.heap.size (iV k) (.slice ra 4 rc) (.slice oa os.length oc) (iV 0) ek eq ev):=X5.bw bY;have Y6:Hid (DC (w5.alloc (oQ3 k a1 a2 a3 a4 o1 os.length c1 0)) w5.heap.size k a1 a2 a3 a4 o1 os.length c1 0):=DC.new w5 _ _ _ _ _ _ _ _ _ _;have B6:Hid (Bw w (w5.alloc (oQ3 k a1 a2 a3 a4 o1 os.length c1 0))):=B5.trans (bY.mono B5.size);have O6:Hid (OwnI (w5.alloc (oQ3 k a1 a2 a3 a4 o1 os.length c1 0)) W4.heap.size (.slice o1 os.length c1) os):=O5.bw bY;have LO:Hid (∀ j,(Value.slice o1 os.length c1).ownBlock=some j->W4.heap.size<=j/\j<w5.heap.size):=fun j hj=>O5.lt j hj;have l5:N3<w5.heap.size:=by omega
 obtain ⟨hcY,-⟩:=qal bY;replace i0:=(hcY _ 0 l5).trans i0;replace i1:=(hcY _ 1 l5).trans i1;replace i2:=(hcY _ 2 l5).trans i2;replace i3:=(hcY _ 3 l5).trans i3;replace i4:=(hcY _ 4 l5).trans i4;have z6:w5.heap.size<(w5.alloc (oQ3 k a1 a2 a3 a4 o1 os.length c1 0)).heap.size:=by simp
 clear X5 B5 O5 bY hcY;generalize w5.alloc (oQ3 k a1 a2 a3 a4 o1 os.length c1 0)=W6 at *;generalize w5.heap.size=N5 at *;obtain ⟨j0,j1,j2,j3,j4,j5,j6⟩:=Y6.out;obtain ⟨-,-,-,-,e0,e1,e2,-,-,-,-,-⟩:=X6.out;have g1:N3<W6.heap.size:=by omega
 have g2:w.heap.size+1<W6.heap.size:=by omega
 have d61:W6.heap.size≠N3:=by omega
 have d62:W6.heap.size≠N5:=by omega
 have d63:W6.heap.size≠w.heap.size+1:=by omega
 have z6':N5<=W6.heap.size:=nJ z6
 go_cut [10] from 26 to 32 (fun s wx=>∃ N:Nat,s=.pointer (some (aQ N 0))/\Hid (qgt w N5 W4.heap.size k ra oa rc oc a1 a2 a3 a4 os ek eq ev o1 c1 p' b1 b2 b3 b4 os' code' wx N))
 case first=>
  go_region_held3 (fun w'=>w'.cell? (aQ N3 0)=some (iV (g k).o)/\w'.cell? (aQ N3 1)=some (iV (g k).r)/\w'.cell? (aQ N3 2)=some (iV (g k).a)/\w'.cell? (aQ N3 3)=some (iV (g k).b)/\w'.cell? (aQ N3 4)=some (iV (g k).n)/\w'.cell? (aQ N5 0)=some (iV k)/\w'.cell? (aQ N5 1)=some (iV a1)/\w'.cell? (aQ N5 2)=some (iV a2)/\w'.cell? (aQ N5 3)=some (iV a3)/\w'.cell? (aQ N5 4)=some (iV a4)/\w'.cell? (aQ N5 5)=some (.slice o1 os.length c1)/\w'.cell? (aQ N5 6)=some (iV 0)/\w'.cell? ⟨w.heap.size+1,0,none⟩=some (iV ek)/\w'.cell? ⟨w.heap.size+1,1,none⟩=some (iV eq)/\w'.cell? ⟨w.heap.size+1,2,none⟩=some (iV ev)) (go_keep)
   (first
    | (go_at_call 146;refine (HF.out _).mono ?_;rintro e w7 ⟨rfl,b7⟩;have q7:Bw W6 w7:=qah (by go_grown) b7 (by simp);obtain ⟨hc7,hf7⟩:=qal b7;obtain ⟨hq7,-⟩:=qal q7;have t0:=(hq7 (N3) 0 g1).trans i0;have t1:=(hq7 (N3) 1 g1).trans i1;have t2:=(hq7 (N3) 2 g1).trans i2;have t3:=(hq7 (N3) 3 g1).trans i3;have t4:=(hq7 (N3) 4 g1).trans i4;have t5:=(hq7 (N5) 0 z6).trans j0;have t6:=(hq7 (N5) 1 z6).trans j1;have t7:=(hq7 (N5) 2 z6).trans j2;have t8:=(hq7 (N5) 3 z6).trans j3;have t9:=(hq7 (N5) 4 z6).trans j4;have t10:=(hq7 (N5) 5 z6).trans j5;have t11:=(hq7 (N5) 6 z6).trans j6;have t12:=(hq7 (w.heap.size+1) 0 g2).trans e0;have t13:=(hq7 (w.heap.size+1) 1 g2).trans e1;have t14:=(hq7 (w.heap.size+1) 2 g2).trans e2;clear hq7;have Q7:Hid (Bw W6 w7):=q7;have l71:N3<w7.heap.size:=zL g1 q7.size;have l72:N5<w7.heap.size:=zL z6 q7.size;have l73:w.heap.size+1<w7.heap.size:=zL g2 q7.size;have l75:N5<=w7.heap.size:=nJ l72;have l74:=b7.size;(try simp only [World.size_alloc,World.size_drew,Nat.add_one_le_iff] at l74);have d71:w7.heap.size≠N3:=Nat.ne_of_gt l71;have d72:w7.heap.size≠N5:=Nat.ne_of_gt l72;have d73:w7.heap.size≠w.heap.size+1:=Nat.ne_of_gt l73;have O7:Hid (OwnI w7 W4.heap.size (.slice o1 os.length c1) os):=O6.bw q7;clear b7 q7)
    | (refine (HS.out o1 c1 W4.heap.size _ (by have:=Q7.size;simp;omega) (O7.bw (by go_grown))).mono ?_;rintro e w8 ⟨o2,c2,rfl,n8,m8,g8,a8⟩;(try simp only [World.size_alloc] at a8);have A8:Hid (_):=a8;have ne8:∀ j,(j<W4.heap.size\/N5<=j)->some j≠(Value.slice o1 os.length c1).ownBlock:=(fun j hj h=>by have:=LO.out j h.symm;omega);have q8:=(qbt (zZ (show Bw w7 _ by go_grown)) (Value.slice o1 os.length c1).ownBlock).trans g8;have v3:=ql0 q8 (b:=N3) l71 (ne8 _ (.inl zX));have v5:=ql0 q8 (b:=N5) l72 (ne8 _ (.inr (nA _)));have v1:=ql0 q8 (b:=w.heap.size+1) l73 (ne8 _ (.inl (by omega)));have s0:=(v3.1 0).trans t0;have s1:=(v3.1 1).trans t1;have s2:=(v3.1 2).trans t2;have s3:=(v3.1 3).trans t3;have s4:=(v3.1 4).trans t4;have s5:=(v5.1 0).trans t5;have s6:=(v5.1 1).trans t6;have s7:=(v5.1 2).trans t7;have s8:=(v5.1 3).trans t8;have s9:=(v5.1 4).trans t9;have s10:=(v5.1 5).trans t10;have s11:=(v5.1 6).trans t11;have s12:=(v1.1 0).trans t12;have s13:=(v1.1 1).trans t13;have s14:=(v1.1 2).trans t14;have hc8:=fun b o hb hn=>(ql0 g8 (b:=b) hb (ne8 _ (.inr hn))).1 o;have hf8:=fun b o hb hn=>(ql0 g8 (b:=b) hb (ne8 _ (.inr hn))).2 o;have N8:Hid (OwnI w8 W4.heap.size (.slice o2 os'.length c2) os'):=n8;have M8:Hid (OwnI w8 W4.heap.size (.slice o1 os.length c1) os):=m8;have G8:Hid (w7.grownBy w8 (Value.slice o1 os.length c1).ownBlock):=q8;clear n8 m8 g8 q8 a8 v3 v5 v1 ne8))
  all_goals
   go_wp2_with fail
   go_meet
   case rel=>
    have K8:∀ j,j<W6.heap.size->(j<W4.heap.size\/N5<=j)->w8.heap[j]? = W6.heap[j]?:=fun j h1 h2=>(G8.block j (by have:=Q7.size;omega) (fun h=>by have:=LO.out j h.symm;omega)).trans (Q7.block j h1);have X8:=X6.kept (w':=w8) fun j h1 h2=>K8 j (by omega) (.inl (by omega));have Y8:=Y6.kept (w':=w8) (K8 N5 z6 (.inr (nA _)));have B8:Bw w w8:=(B6.trans (Q7.mono B6.size)).trans (qib G8.out (fun j hj=>by have:=LO.out j hj;omega) (by have:=(B6.trans (Q7.mono B6.size)).size;omega));have zz8:w7.heap.size<=w8.heap.size:=G8.size
    first
    | (refine ⟨w8.heap.size, by with_reducible rfl, ?_⟩
       exact qgt.of_alloc X8 Y8 N8.out M8.out B8 _)
    | (refine ⟨w7.heap.size, by with_reducible rfl, ?_⟩
       have nM:∀ j,(Value.slice o1 os.length c1).ownBlock=some j->j≠w7.heap.size:=fun j hj=>by have:=LO.out j hj;omega
       exact qgt.of_put X8 Y8 N8.out M8.out B8 (by omega) (by omega) ⟨by rw [hc8 _ _ (by simp) l75]; simp, by rw [hc8 _ _ (by simp) l75]; simp, by rw [hc8 _ _ (by simp) l75]; simp, by rw [hc8 _ _ (by simp) l75]; simp, by rw [hc8 _ _ (by simp) l75]; simp, by rw [hc8 _ _ (by simp) l75]; simp, by rw [hc8 _ _ (by simp) l75]; simp⟩ nM (fun j hj => by
       rcases A8.out j hj with h | h
       ·exact nM j h
       ·omega))
    | (refine ⟨W6.heap.size, by with_reducible rfl, ?_⟩
       have nM:∀ j,(Value.slice o1 os.length c1).ownBlock=some j->j≠W6.heap.size:=fun j hj=>by have:=LO.out j hj;omega
       exact qgt.of_put X8 Y8 N8.out M8.out B8 (by omega) (by omega) ⟨by rw [hc8 _ _ (by simpa using l74) z6', hc7 _ _ (by simp)]; simp, by rw [hc8 _ _ (by simpa using l74) z6', hc7 _ _ (by simp)]; simp, by rw [hc8 _ _ (by simpa using l74) z6', hc7 _ _ (by simp)]; simp, by rw [hc8 _ _ (by simpa using l74) z6', hc7 _ _ (by simp)]; simp, by rw [hc8 _ _ (by simpa using l74) z6', hc7 _ _ (by simp)]; simp, by rw [hc8 _ _ (by simpa using l74) z6', hc7 _ _ (by simp)]; simp, by rw [hc8 _ _ (by simpa using l74) z6', hc7 _ _ (by simp)]; simp⟩ nM (fun j hj => by
       rcases A8.out j hj with h | h
       ·exact nM j h
       ·omega))
 case rest=>
  obtain ⟨N,rfl,HA⟩:=hcut;obtain ⟨XC,YC,⟨o2,c2,ZC,NC⟩,MC,BC⟩:=HA.out;have HXC:Hid (qa4 wc w.heap.size (iV k) (.slice ra 4 rc) (.slice oa os.length oc) (iV 0) ek eq ev):=XC;have HNC:Hid (OwnI wc W4.heap.size (.slice o2 os'.length c2) os'):=NC;have HMC:Hid (OwnI wc W4.heap.size (.slice o1 os.length c1) os):=MC;have HBC:Hid (Bw w wc):=BC;have zC:W4.heap.size<=wc.heap.size:=by have:=YC.lt;omega
  clear HA XC NC MC BC i0 i1 i2 i3 i4 j0 j1 j2 j3 j4 j5 j6 e0 e1 e2 X6 Y6 B6 O6;obtain ⟨j0,j1,j2,j3,j4,j5,j6⟩:=YC;obtain ⟨i0,i1,i2,i3,i4,i5,i6⟩:=ZC;go_wp2_with fail
  refine (qoq (k:Int) a1 a2 a3 a4 o1 c1 os 0 p' b1 b2 b3 b4 o2 c2 os' code' len W4.heap.size wc HMC.out HNC.out S HT.out).mono ?_;rintro e w9 ⟨o3,c3,x1,x2,x3,x4,rfl,hrs,o9,b9⟩;have X9:Hid (qa4 w9 w.heap.size (iV k) (.slice ra 4 rc) (.slice oa os.length oc) (iV 0) ek eq ev):=HXC.bw b9;have B9:Hid (Bw w w9):=HBC.trans (b9.mono HBC.size);have O9:Hid (OwnI w9 W4.heap.size (.slice o3 S.os.length c3) S.os):=o9;have z9:W4.heap.size<=w9.heap.size:=zP zC b9.size;have HRS:Hid (S.rs=[x1,x2,x3,x4]):=hrs;clear o9 b9 hrs j0 j1 j2 j3 j4 j5 j6 i0 i1 i2 i3 i4 i5 i6 HXC HNC HMC HBC;go_wp2_with fail
  refine (qty S.p x1 x2 x3 x4 o3 c3 S.os S.c W4.heap.size w9 z9 O9.out).mono ?_;rintro e w10 ⟨v,rfl,o10,b10⟩;rw [<- HRS.out] at o10;have B10:Hid (Bw w w10):=B9.trans (b10.mono B9.size);obtain ⟨-,-,-,-,-,-,-,r0,r1,r2,r3,rf⟩:=X9.bw b10;obtain ⟨ra2,rc2,oa2,oc2,rfl,-,-⟩:=o10.read;have O10:Hid (qac w10 W4.heap.size (stV S.p ra2 S.rs.length rc2 oa2 S.os.length oc2 S.c) S.p S.rs S.os S.c):=o10;clear o10 b10;go_wp2;refine bodyPost_ret (v:=.tuple #[stV S.p ra2 S.rs.length rc2 oa2 S.os.length oc2 S.c,.bool true]) (by simp [results,results135,go_sem,r0,r1,r2,r3]) rfl ⟨_,rfl,?_,?_⟩
  ·exact qac.put4 (B':=W4.heap.size) O10.out (by omega) (by omega)
  ·have:=B10.out
   go_grown
theorem yA {f : FuncId} {fn : Func} {c : Code} (hf : prog.funcs[f]? = some fn) (hname : (fn.name == "runtime.NumGoroutine") = false:=by kernel_rfl) (hb:fn.body=some c:=by rfl) (args : Array Value) (w : World) :
  (callFunc f args).run prog w=.ok (.enter f args) w:=by
 have h1 : fn.name ≠ "runtime.NumGoroutine" := by simpa using hname
 simp [callFunc,hf,h1,hb]
theorem qa9 {w w':World} {B:Nat} {o1:Option Addr} {c1:Nat} {os:List Int} {p' b1 b2 b3 b4 code':Int} (hO:OwnI w B (.slice o1 os.length c1) os) (hb:Bw w w'):
  quh w B (.slice o1 os.length c1) os p' b1 b2 b3 b4 os code' (.returned (dV p' b1 b2 b3 b4 o1 os.length c1 code')) w':=
 ⟨o1,c1,rfl,hO.bw hb,hO.bw hb,qbt (zZ hb) _,fun _ h=>.inl h⟩
theorem qb1 {len k:Nat} {a1 a2 a3 a4:Int} {os:List Int} {jr:Nat} {v:Int} (hn:numB a1=true/\numB a2=true/\numB a3=true/\numB a4=true) (h60:os.length<=60) (hj:jr<4):
  qay len k a1 a2 a3 a4 os (k+1) (set4 a1 a2 a3 a4 jr v).1 (set4 a1 a2 a3 a4 jr v).2.1 (set4 a1 a2 a3 a4 jr v).2.2.1 (set4 a1 a2 a3 a4 jr v).2.2.2 os 0=if numB v=true then goS len k ([a1,a2,a3,a4].set jr v) os 0 else ⟨k,[a1,a2,a3,a4],os,2⟩:=by
 obtain ⟨n1,n2,n3,n4⟩:=hn
 have h1:qc3 ([a1,a2,a3,a4].set jr v)=numB v:=by
  match jr,hj with
  | 0,_=>simp [qc3,allN,n2,n3,n4]
  | 1,_=>simp [qc3,allN,n1,n3,n4]
  | 2,_=>simp [qc3,allN,n1,n2,n4]
  | 3,_=>simp [qc3,allN,n1,n2,n3]
 have h2:¬ (60:Int)<(os.length:Int):=by omega
 unfold qay;rw [qtu _ _ _ _ _ _ hj,h1];cases hv:numB v
 ·simp
 ·by_cases h3:(len:Int)<=(k:Int)+1
  ·have h4:belB ((k:Int)+1) len=false:=by simp [belB];omega
   simp [h2,h4,goS,goP,goC,h3]
  ·have h4:belB ((k:Int)+1) len=true:=by simp [belB];omega
   simp [h2,h4,goS,goP,goC,h3]
theorem qeg {len k:Nat} {a1 a2 a3 a4:Int} {os os':List Int} (hn:numB a1=true/\numB a2=true/\numB a3=true/\numB a4=true) (h60:os'.length<=60):
  qay len k a1 a2 a3 a4 os (k+1) a1 a2 a3 a4 os' 0=goS len k [a1,a2,a3,a4] os' 0:=by
 obtain ⟨n1,n2,n3,n4⟩:=hn;have h1:qc3 [a1,a2,a3,a4]=true:=by simp [qc3,allN,n1,n2,n3,n4]
 have h2:¬ (60:Int)<(os'.length:Int):=by omega
 unfold qay;rw [h1];by_cases h3:(len:Int)<=(k:Int)+1
 ·have h4:belB ((k:Int)+1) len=false:=by simp [belB];omega
  simp [h2,h4,goS,goP,goC,h3]
 ·have h4:belB ((k:Int)+1) len=true:=by simp [belB];omega
  simp [h2,h4,goS,goP,goC,h3]
theorem qmp {len k:Nat} {a1 a2 a3 a4 p' b1 b2 b3 b4 code':Int} {os os':List Int} (h60:60<os'.length):
  qay len k a1 a2 a3 a4 os p' b1 b2 b3 b4 os' code'=⟨k,[a1,a2,a3,a4],os,2⟩:=by
 unfold qay;rw [nC (.inr (by omega))]
theorem qgq {len k:Nat} {a1 a2 a3 a4 n code':Int} {os:List Int} (hn:numB a1=true/\numB a2=true/\numB a3=true/\numB a4=true) (h60:os.length<=60) (hb:belB n len=true):
  qay len k a1 a2 a3 a4 os n a1 a2 a3 a4 os code'=⟨n,[a1,a2,a3,a4],os,code'⟩:=by
 obtain ⟨n1,n2,n3,n4⟩:=hn;have h1:qc3 [a1,a2,a3,a4]=true:=by simp [qc3,allN,n1,n2,n3,n4]
 have h2:¬ (60:Int)<(os.length:Int):=by omega
 unfold qay;rw [h1,hb];simp [h2]
theorem qyd (b off len cap k:Nat) (g:Nat->I5) (ra oa:Option Addr) (rc oc:Nat) (a1 a2 a3 a4:Int) (os:List Int) (ek eq ev:Int) (w:World) (jr ja jb:Nat) (hj:(g k).r=jr/\(g k).a=ja/\(g k).b=jb) (j4:jr<4/\ja<4/\jb<4) (hn:numB a1=true/\numB a2=true/\numB a3=true/\numB a4=true) (_hz:∀ j,j<4->numB (zi [a1,a2,a3,a4] j)=true) (hl:(len:Int)<=30) (hb:b<w.heap.size) (hI:qaq w b off len g) (h60:os.length<=60) (h1:Sl w ra [a1,a2,a3,a4]) (h2:Sl w oa os) (hk:k<len) (hD:canB (nxK g len k [a1,a2,a3,a4] os 0) (nxP g len k [a1,a2,a3,a4] os 0) (nxW g len k [a1,a2,a3,a4] os 0) ek eq ev=true) (ho:(g k).o=1):
  Calls prog 135 #[.slice (some (aQ b off)) len cap,stV k ra 4 rc oa os.length oc 0,evV ek eq ev] w (qc2 w (qaf len (g k) k [a1,a2,a3,a4] os 0 ev) true):=by
 obtain ⟨hjr,hja,hjb⟩:=hj;obtain ⟨j1,j2,j3⟩:=j4
 have e:qay len k a1 a2 a3 a4 os (k+1) (set4 a1 a2 a3 a4 jr ((g k).n)).1 (set4 a1 a2 a3 a4 jr ((g k).n)).2.1 (set4 a1 a2 a3 a4 jr ((g k).n)).2.2.1 (set4 a1 a2 a3 a4 jr ((g k).n)).2.2.2 os 0=qaf len (g k) k [a1,a2,a3,a4] os 0 ev:=by
  rw [qb1 hn h60 j1];simp [qaf,ho,qjm,hjr]
 rw [<- e];refine qbl b off len cap k g ra oa rc oc a1 a2 a3 a4 os ek eq ev w 153 (yA func153) (k+1) (set4 a1 a2 a3 a4 jr ((g k).n)).1 (set4 a1 a2 a3 a4 jr ((g k).n)).2.1 (set4 a1 a2 a3 a4 jr ((g k).n)).2.2.1 (set4 a1 a2 a3 a4 jr ((g k).n)).2.2.2 os 0 (by unfold maxLen;omega) hb hI h60 h1 h2 hk hD (by rw [ho];exact qvk) (fun o1 c1 B wx hB hO=>?_);rw [hjr,hja,hjb];refine (qvv _ _ _ _ _ _ _ _ _ jr ja jb _ _ _ _ _ _ (by omega) (by omega) j1).mono ?_;rintro e w' ⟨rfl,b⟩;exact qa9 hO b
theorem qya (b off len cap k:Nat) (g:Nat->I5) (ra oa:Option Addr) (rc oc:Nat) (a1 a2 a3 a4:Int) (os:List Int) (ek eq ev:Int) (w:World) (jr ja jb:Nat) (hj:(g k).r=jr/\(g k).a=ja/\(g k).b=jb) (j4:jr<4/\ja<4/\jb<4) (hn:numB a1=true/\numB a2=true/\numB a3=true/\numB a4=true) (_hz:∀ j,j<4->numB (zi [a1,a2,a3,a4] j)=true) (hl:(len:Int)<=30) (hb:b<w.heap.size) (hI:qaq w b off len g) (h60:os.length<=60) (h1:Sl w ra [a1,a2,a3,a4]) (h2:Sl w oa os) (hk:k<len) (hD:canB (nxK g len k [a1,a2,a3,a4] os 0) (nxP g len k [a1,a2,a3,a4] os 0) (nxW g len k [a1,a2,a3,a4] os 0) ek eq ev=true) (ho:(g k).o=2):
  Calls prog 135 #[.slice (some (aQ b off)) len cap,stV k ra 4 rc oa os.length oc 0,evV ek eq ev] w (qc2 w (qaf len (g k) k [a1,a2,a3,a4] os 0 ev) true):=by
 obtain ⟨hjr,hja,hjb⟩:=hj;obtain ⟨j1,j2,j3⟩:=j4;have zA:=qbp.mp (_hz ja j2);have zB:=qbp.mp (_hz jb j3);have zM:=qcx (_hz ja j2) (_hz jb j3)
 have e:qay len k a1 a2 a3 a4 os (k+1) (set4 a1 a2 a3 a4 jr (zi [a1,a2,a3,a4] ja+zi [a1,a2,a3,a4] jb)).1 (set4 a1 a2 a3 a4 jr (zi [a1,a2,a3,a4] ja+zi [a1,a2,a3,a4] jb)).2.1 (set4 a1 a2 a3 a4 jr (zi [a1,a2,a3,a4] ja+zi [a1,a2,a3,a4] jb)).2.2.1 (set4 a1 a2 a3 a4 jr (zi [a1,a2,a3,a4] ja+zi [a1,a2,a3,a4] jb)).2.2.2 os 0=qaf len (g k) k [a1,a2,a3,a4] os 0 ev:=by
  rw [qb1 hn h60 j1];simp [qaf,ho,qjm,hjr,hja,hjb]
 rw [<- e];refine qbl b off len cap k g ra oa rc oc a1 a2 a3 a4 os ek eq ev w 154 (yA func154) (k+1) (set4 a1 a2 a3 a4 jr (zi [a1,a2,a3,a4] ja+zi [a1,a2,a3,a4] jb)).1 (set4 a1 a2 a3 a4 jr (zi [a1,a2,a3,a4] ja+zi [a1,a2,a3,a4] jb)).2.1 (set4 a1 a2 a3 a4 jr (zi [a1,a2,a3,a4] ja+zi [a1,a2,a3,a4] jb)).2.2.1 (set4 a1 a2 a3 a4 jr (zi [a1,a2,a3,a4] ja+zi [a1,a2,a3,a4] jb)).2.2.2 os 0 (by unfold maxLen;omega) hb hI h60 h1 h2 hk hD (by rw [ho];exact qvl) (fun o1 c1 B wx hB hO=>?_);rw [hjr,hja,hjb];refine (qvs _ _ _ _ _ _ _ _ _ jr ja jb _ _ _ _ _ _ (by omega) (by omega) j1 j2 j3 zA.1 zA.2 zB.1 zB.2 zM.1 zM.2).mono ?_;rintro e w' ⟨rfl,b⟩;exact qa9 hO b
theorem qye (b off len cap k:Nat) (g:Nat->I5) (ra oa:Option Addr) (rc oc:Nat) (a1 a2 a3 a4:Int) (os:List Int) (ek eq ev:Int) (w:World) (jr ja jb:Nat) (hj:(g k).r=jr/\(g k).a=ja/\(g k).b=jb) (j4:jr<4/\ja<4/\jb<4) (hn:numB a1=true/\numB a2=true/\numB a3=true/\numB a4=true) (_hz:∀ j,j<4->numB (zi [a1,a2,a3,a4] j)=true) (hl:(len:Int)<=30) (hb:b<w.heap.size) (hI:qaq w b off len g) (h60:os.length<=60) (h1:Sl w ra [a1,a2,a3,a4]) (h2:Sl w oa os) (hk:k<len) (hD:canB (nxK g len k [a1,a2,a3,a4] os 0) (nxP g len k [a1,a2,a3,a4] os 0) (nxW g len k [a1,a2,a3,a4] os 0) ek eq ev=true) (ho:(g k).o=3):
  Calls prog 135 #[.slice (some (aQ b off)) len cap,stV k ra 4 rc oa os.length oc 0,evV ek eq ev] w (qc2 w (qaf len (g k) k [a1,a2,a3,a4] os 0 ev) true):=by
 obtain ⟨hjr,hja,hjb⟩:=hj;obtain ⟨j1,j2,j3⟩:=j4;have zA:=qbp.mp (_hz ja j2);have zB:=qbp.mp (_hz jb j3);have zM:=qcx (_hz ja j2) (_hz jb j3)
 have e:qay len k a1 a2 a3 a4 os (k+1) (set4 a1 a2 a3 a4 jr (zi [a1,a2,a3,a4] ja - zi [a1,a2,a3,a4] jb)).1 (set4 a1 a2 a3 a4 jr (zi [a1,a2,a3,a4] ja - zi [a1,a2,a3,a4] jb)).2.1 (set4 a1 a2 a3 a4 jr (zi [a1,a2,a3,a4] ja - zi [a1,a2,a3,a4] jb)).2.2.1 (set4 a1 a2 a3 a4 jr (zi [a1,a2,a3,a4] ja - zi [a1,a2,a3,a4] jb)).2.2.2 os 0=qaf len (g k) k [a1,a2,a3,a4] os 0 ev:=by
  rw [qb1 hn h60 j1];simp [qaf,ho,qjm,hjr,hja,hjb]
 rw [<- e];refine qbl b off len cap k g ra oa rc oc a1 a2 a3 a4 os ek eq ev w 155 (yA func155) (k+1) (set4 a1 a2 a3 a4 jr (zi [a1,a2,a3,a4] ja - zi [a1,a2,a3,a4] jb)).1 (set4 a1 a2 a3 a4 jr (zi [a1,a2,a3,a4] ja - zi [a1,a2,a3,a4] jb)).2.1 (set4 a1 a2 a3 a4 jr (zi [a1,a2,a3,a4] ja - zi [a1,a2,a3,a4] jb)).2.2.1 (set4 a1 a2 a3 a4 jr (zi [a1,a2,a3,a4] ja - zi [a1,a2,a3,a4] jb)).2.2.2 os 0 (by unfold maxLen;omega) hb hI h60 h1 h2 hk hD (by rw [ho];exact qvm) (fun o1 c1 B wx hB hO=>?_);rw [hjr,hja,hjb];refine (qvw _ _ _ _ _ _ _ _ _ jr ja jb _ _ _ _ _ _ (by omega) (by omega) j1 j2 j3 zA.1 zA.2 zB.1 zB.2 zM.1 zM.2).mono ?_;rintro e w' ⟨rfl,b⟩;exact qa9 hO b
theorem qyc (b off len cap k:Nat) (g:Nat->I5) (ra oa:Option Addr) (rc oc:Nat) (a1 a2 a3 a4:Int) (os:List Int) (ek eq ev:Int) (w:World) (jr ja jb:Nat) (hj:(g k).r=jr/\(g k).a=ja/\(g k).b=jb) (j4:jr<4/\ja<4/\jb<4) (hn:numB a1=true/\numB a2=true/\numB a3=true/\numB a4=true) (_hz:∀ j,j<4->numB (zi [a1,a2,a3,a4] j)=true) (hl:(len:Int)<=30) (hb:b<w.heap.size) (hI:qaq w b off len g) (h60:os.length<=60) (h1:Sl w ra [a1,a2,a3,a4]) (h2:Sl w oa os) (hk:k<len) (hD:canB (nxK g len k [a1,a2,a3,a4] os 0) (nxP g len k [a1,a2,a3,a4] os 0) (nxW g len k [a1,a2,a3,a4] os 0) ek eq ev=true) (ho:(g k).o=4):
  Calls prog 135 #[.slice (some (aQ b off)) len cap,stV k ra 4 rc oa os.length oc 0,evV ek eq ev] w (qc2 w (qaf len (g k) k [a1,a2,a3,a4] os 0 ev) true):=by
 obtain ⟨hjr,hja,hjb⟩:=hj;obtain ⟨j1,j2,j3⟩:=j4;have zA:=qbp.mp (_hz ja j2);have zB:=qbp.mp (_hz jb j3);have zM:=qcx (_hz ja j2) (_hz jb j3)
 have e:qay len k a1 a2 a3 a4 os (k+1) (set4 a1 a2 a3 a4 jr (zi [a1,a2,a3,a4] ja*zi [a1,a2,a3,a4] jb)).1 (set4 a1 a2 a3 a4 jr (zi [a1,a2,a3,a4] ja*zi [a1,a2,a3,a4] jb)).2.1 (set4 a1 a2 a3 a4 jr (zi [a1,a2,a3,a4] ja*zi [a1,a2,a3,a4] jb)).2.2.1 (set4 a1 a2 a3 a4 jr (zi [a1,a2,a3,a4] ja*zi [a1,a2,a3,a4] jb)).2.2.2 os 0=qaf len (g k) k [a1,a2,a3,a4] os 0 ev:=by
  rw [qb1 hn h60 j1];simp [qaf,ho,qjm,hjr,hja,hjb]
 rw [<- e];refine qbl b off len cap k g ra oa rc oc a1 a2 a3 a4 os ek eq ev w 156 (yA func156) (k+1) (set4 a1 a2 a3 a4 jr (zi [a1,a2,a3,a4] ja*zi [a1,a2,a3,a4] jb)).1 (set4 a1 a2 a3 a4 jr (zi [a1,a2,a3,a4] ja*zi [a1,a2,a3,a4] jb)).2.1 (set4 a1 a2 a3 a4 jr (zi [a1,a2,a3,a4] ja*zi [a1,a2,a3,a4] jb)).2.2.1 (set4 a1 a2 a3 a4 jr (zi [a1,a2,a3,a4] ja*zi [a1,a2,a3,a4] jb)).2.2.2 os 0 (by unfold maxLen;omega) hb hI h60 h1 h2 hk hD (by rw [ho];exact qvn) (fun o1 c1 B wx hB hO=>?_);rw [hjr,hja,hjb];refine (qvu _ _ _ _ _ _ _ _ _ jr ja jb _ _ _ _ _ _ (by omega) (by omega) j1 j2 j3 zA.1 zA.2 zB.1 zB.2 zM.1 zM.2).mono ?_;rintro e w' ⟨rfl,b⟩;exact qa9 hO b
theorem qnp (b off len cap k:Nat) (g:Nat->I5) (ra oa:Option Addr) (rc oc:Nat) (a1 a2 a3 a4:Int) (os:List Int) (ek eq ev:Int) (w:World) (jr ja jb:Nat) (hj:(g k).r=jr/\(g k).a=ja/\(g k).b=jb) (j4:jr<4/\ja<4/\jb<4) (hn:numB a1=true/\numB a2=true/\numB a3=true/\numB a4=true) (_hz:∀ j,j<4->numB (zi [a1,a2,a3,a4] j)=true) (hl:(len:Int)<=30) (hb:b<w.heap.size) (hI:qaq w b off len g) (h60:os.length<=60) (h1:Sl w ra [a1,a2,a3,a4]) (h2:Sl w oa os) (hk:k<len) (hD:canB (nxK g len k [a1,a2,a3,a4] os 0) (nxP g len k [a1,a2,a3,a4] os 0) (nxW g len k [a1,a2,a3,a4] os 0) ek eq ev=true) (ho:(g k).o=5) (hlt:zi [a1,a2,a3,a4] ja<zi [a1,a2,a3,a4] jb):
  Calls prog 135 #[.slice (some (aQ b off)) len cap,stV k ra 4 rc oa os.length oc 0,evV ek eq ev] w (qc2 w (qaf len (g k) k [a1,a2,a3,a4] os 0 ev) true):=by
 obtain ⟨hjr,hja,hjb⟩:=hj;obtain ⟨j1,j2,j3⟩:=j4
 have e:qay len k a1 a2 a3 a4 os (k+1) (set4 a1 a2 a3 a4 jr (1)).1 (set4 a1 a2 a3 a4 jr (1)).2.1 (set4 a1 a2 a3 a4 jr (1)).2.2.1 (set4 a1 a2 a3 a4 jr (1)).2.2.2 os 0=qaf len (g k) k [a1,a2,a3,a4] os 0 ev:=by
  rw [qb1 hn h60 j1];simp [qaf,ho,qjm,hjr,hja,hjb,hlt]
 rw [<- e];refine qbl b off len cap k g ra oa rc oc a1 a2 a3 a4 os ek eq ev w 157 (yA func157) (k+1) (set4 a1 a2 a3 a4 jr (1)).1 (set4 a1 a2 a3 a4 jr (1)).2.1 (set4 a1 a2 a3 a4 jr (1)).2.2.1 (set4 a1 a2 a3 a4 jr (1)).2.2.2 os 0 (by unfold maxLen;omega) hb hI h60 h1 h2 hk hD (by rw [ho];exact qpv) (fun o1 c1 B wx hB hO=>?_);rw [hjr,hja,hjb];refine (qkx _ _ _ _ _ _ _ _ _ jr ja jb _ _ _ _ _ _ (by omega) (by omega) j1 j2 j3 hlt).mono ?_;rintro e w' ⟨rfl,b⟩;exact qa9 hO b
theorem qqc (b off len cap k:Nat) (g:Nat->I5) (ra oa:Option Addr) (rc oc:Nat) (a1 a2 a3 a4:Int) (os:List Int) (ek eq ev:Int) (w:World) (jr ja jb:Nat) (hj:(g k).r=jr/\(g k).a=ja/\(g k).b=jb) (j4:jr<4/\ja<4/\jb<4) (hn:numB a1=true/\numB a2=true/\numB a3=true/\numB a4=true) (_hz:∀ j,j<4->numB (zi [a1,a2,a3,a4] j)=true) (hl:(len:Int)<=30) (hb:b<w.heap.size) (hI:qaq w b off len g) (h60:os.length<=60) (h1:Sl w ra [a1,a2,a3,a4]) (h2:Sl w oa os) (hk:k<len) (hD:canB (nxK g len k [a1,a2,a3,a4] os 0) (nxP g len k [a1,a2,a3,a4] os 0) (nxW g len k [a1,a2,a3,a4] os 0) ek eq ev=true) (ho:(g k).o=5) (hlt:¬ zi [a1,a2,a3,a4] ja<zi [a1,a2,a3,a4] jb):
  Calls prog 135 #[.slice (some (aQ b off)) len cap,stV k ra 4 rc oa os.length oc 0,evV ek eq ev] w (qc2 w (qaf len (g k) k [a1,a2,a3,a4] os 0 ev) true):=by
 obtain ⟨hjr,hja,hjb⟩:=hj;obtain ⟨j1,j2,j3⟩:=j4
 have e:qay len k a1 a2 a3 a4 os (k+1) (set4 a1 a2 a3 a4 jr (0)).1 (set4 a1 a2 a3 a4 jr (0)).2.1 (set4 a1 a2 a3 a4 jr (0)).2.2.1 (set4 a1 a2 a3 a4 jr (0)).2.2.2 os 0=qaf len (g k) k [a1,a2,a3,a4] os 0 ev:=by
  rw [qb1 hn h60 j1];simp [qaf,ho,qjm,hjr,hja,hjb,hlt]
 rw [<- e];refine qbl b off len cap k g ra oa rc oc a1 a2 a3 a4 os ek eq ev w 157 (yA func157) (k+1) (set4 a1 a2 a3 a4 jr (0)).1 (set4 a1 a2 a3 a4 jr (0)).2.1 (set4 a1 a2 a3 a4 jr (0)).2.2.1 (set4 a1 a2 a3 a4 jr (0)).2.2.2 os 0 (by unfold maxLen;omega) hb hI h60 h1 h2 hk hD (by rw [ho];exact qpv) (fun o1 c1 B wx hB hO=>?_);rw [hjr,hja,hjb];refine (qmw _ _ _ _ _ _ _ _ _ jr ja jb _ _ _ _ _ _ (by omega) (by omega) j1 j2 j3 hlt).mono ?_;rintro e w' ⟨rfl,b⟩;exact qa9 hO b
theorem qw9 (b off len cap k:Nat) (g:Nat->I5) (ra oa:Option Addr) (rc oc:Nat) (a1 a2 a3 a4:Int) (os:List Int) (ek eq ev:Int) (w:World) (jr ja jb:Nat) (hj:(g k).r=jr/\(g k).a=ja/\(g k).b=jb) (j4:jr<4/\ja<4/\jb<4) (hn:numB a1=true/\numB a2=true/\numB a3=true/\numB a4=true) (_hz:∀ j,j<4->numB (zi [a1,a2,a3,a4] j)=true) (hl:(len:Int)<=30) (hb:b<w.heap.size) (hI:qaq w b off len g) (h60:os.length<=60) (h1:Sl w ra [a1,a2,a3,a4]) (h2:Sl w oa os) (hk:k<len) (hD:canB (nxK g len k [a1,a2,a3,a4] os 0) (nxP g len k [a1,a2,a3,a4] os 0) (nxW g len k [a1,a2,a3,a4] os 0) ek eq ev=true) (ho:(g k).o=6):
  Calls prog 135 #[.slice (some (aQ b off)) len cap,stV k ra 4 rc oa os.length oc 0,evV ek eq ev] w (qc2 w (qaf len (g k) k [a1,a2,a3,a4] os 0 ev) true):=by
 obtain ⟨hjr,hja,hjb⟩:=hj;obtain ⟨j1,j2,j3⟩:=j4
 have e:qay len k a1 a2 a3 a4 os (k+1) a1 a2 a3 a4 os 0=qaf len (g k) k [a1,a2,a3,a4] os 0 ev:=by
  rw [qeg hn h60];simp [qaf,ho]
 rw [<- e];refine qbl b off len cap k g ra oa rc oc a1 a2 a3 a4 os ek eq ev w 158 (yA func158) (k+1) a1 a2 a3 a4 os 0 (by unfold maxLen;omega) hb hI h60 h1 h2 hk hD (by rw [ho];exact qvo) (fun o1 c1 B wx hB hO=>?_);rw [hjr,hja,hjb];refine (qt0 _ _ _ _ _ _ _ _ _ jr ja jb _ _ _ _ _ _ (by omega) (by omega)).mono ?_;rintro e w' ⟨rfl,b⟩;exact qa9 hO b
theorem qxa (b off len cap k:Nat) (g:Nat->I5) (ra oa:Option Addr) (rc oc:Nat) (a1 a2 a3 a4:Int) (os:List Int) (ek eq ev:Int) (w:World) (jr ja jb:Nat) (hj:(g k).r=jr/\(g k).a=ja/\(g k).b=jb) (j4:jr<4/\ja<4/\jb<4) (hn:numB a1=true/\numB a2=true/\numB a3=true/\numB a4=true) (_hz:∀ j,j<4->numB (zi [a1,a2,a3,a4] j)=true) (hl:(len:Int)<=30) (hb:b<w.heap.size) (hI:qaq w b off len g) (h60:os.length<=60) (h1:Sl w ra [a1,a2,a3,a4]) (h2:Sl w oa os) (hk:k<len) (hD:canB (nxK g len k [a1,a2,a3,a4] os 0) (nxP g len k [a1,a2,a3,a4] os 0) (nxW g len k [a1,a2,a3,a4] os 0) ek eq ev=true) (ho:(g k).o=7) (hv:numB ev=true):
  Calls prog 135 #[.slice (some (aQ b off)) len cap,stV k ra 4 rc oa os.length oc 0,evV ek eq ev] w (qc2 w (qaf len (g k) k [a1,a2,a3,a4] os 0 ev) true):=by
 obtain ⟨hjr,hja,hjb⟩:=hj;obtain ⟨j1,j2,j3⟩:=j4
 have e:qay len k a1 a2 a3 a4 os (k+1) (set4 a1 a2 a3 a4 jr (ev)).1 (set4 a1 a2 a3 a4 jr (ev)).2.1 (set4 a1 a2 a3 a4 jr (ev)).2.2.1 (set4 a1 a2 a3 a4 jr (ev)).2.2.2 os 0=qaf len (g k) k [a1,a2,a3,a4] os 0 ev:=by
  rw [qb1 hn h60 j1,nC hv];simp [qaf,ho,hjr]
 rw [<- e];refine qbl b off len cap k g ra oa rc oc a1 a2 a3 a4 os ek eq ev w 159 (yA func159) (k+1) (set4 a1 a2 a3 a4 jr (ev)).1 (set4 a1 a2 a3 a4 jr (ev)).2.1 (set4 a1 a2 a3 a4 jr (ev)).2.2.1 (set4 a1 a2 a3 a4 jr (ev)).2.2.2 os 0 (by unfold maxLen;omega) hb hI h60 h1 h2 hk hD (by rw [ho];exact qvp) (fun o1 c1 B wx hB hO=>?_);rw [hjr,hja,hjb];refine (qt1 _ _ _ _ _ _ _ _ _ jr ja jb _ _ _ _ _ _ (by omega) (by omega) j1).mono ?_;rintro e w' ⟨rfl,b⟩;exact qa9 hO b
theorem quq (b off len cap k:Nat) (g:Nat->I5) (ra oa:Option Addr) (rc oc:Nat) (a1 a2 a3 a4:Int) (os:List Int) (ek eq ev:Int) (w:World) (jr ja jb:Nat) (hj:(g k).r=jr/\(g k).a=ja/\(g k).b=jb) (j4:jr<4/\ja<4/\jb<4) (hn:numB a1=true/\numB a2=true/\numB a3=true/\numB a4=true) (_hz:∀ j,j<4->numB (zi [a1,a2,a3,a4] j)=true) (hl:(len:Int)<=30) (hb:b<w.heap.size) (hI:qaq w b off len g) (h60:os.length<=60) (h1:Sl w ra [a1,a2,a3,a4]) (h2:Sl w oa os) (hk:k<len) (hD:canB (nxK g len k [a1,a2,a3,a4] os 0) (nxP g len k [a1,a2,a3,a4] os 0) (nxW g len k [a1,a2,a3,a4] os 0) ek eq ev=true) (ho:(g k).o=8):
  Calls prog 135 #[.slice (some (aQ b off)) len cap,stV k ra 4 rc oa os.length oc 0,evV ek eq ev] w (qc2 w (qaf len (g k) k [a1,a2,a3,a4] os 0 ev) true):=by
 obtain ⟨hjr,hja,hjb⟩:=hj;obtain ⟨j1,j2,j3⟩:=j4
 have e:qay len k a1 a2 a3 a4 os (k+1) a1 a2 a3 a4 (os ++ [ev]) 0=qaf len (g k) k [a1,a2,a3,a4] os 0 ev:=by
  by_cases h:os.length=60
  ·rw [qmp (by simp;omega)]
   simp [qaf,ho,h]
  ·rw [qeg hn (by simp;omega)]
   simp [qaf,ho,h]
 rw [<- e];refine qbl b off len cap k g ra oa rc oc a1 a2 a3 a4 os ek eq ev w 160 (yA func160) (k+1) a1 a2 a3 a4 (os ++ [ev]) 0 (by unfold maxLen;omega) hb hI h60 h1 h2 hk hD (by rw [ho];exact qvq) (fun o1 c1 B wx hB hO=>?_);rw [hjr,hja,hjb];refine (qre _ _ _ _ _ _ _ os _ jr ja jb _ _ _ _ _ B wx (by omega) (by omega) (by omega) hB hO).mono ?_;rintro e w' ⟨oa',oc',rfl,p1,p2,p3,p4⟩;have e1:(os ++ [ev]).length=os.length+1:=by simp
 unfold quh;rw [e1];exact ⟨oa',oc',rfl,p1,p2,p3,p4⟩
theorem qw8 (b off len cap k:Nat) (g:Nat->I5) (ra oa:Option Addr) (rc oc:Nat) (a1 a2 a3 a4:Int) (os:List Int) (ek eq ev:Int) (w:World) (jr ja jb:Nat) (hj:(g k).r=jr/\(g k).a=ja/\(g k).b=jb) (j4:jr<4/\ja<4/\jb<4) (hn:numB a1=true/\numB a2=true/\numB a3=true/\numB a4=true) (_hz:∀ j,j<4->numB (zi [a1,a2,a3,a4] j)=true) (hl:(len:Int)<=30) (hb:b<w.heap.size) (hI:qaq w b off len g) (h60:os.length<=60) (h1:Sl w ra [a1,a2,a3,a4]) (h2:Sl w oa os) (hk:k<len) (hD:canB (nxK g len k [a1,a2,a3,a4] os 0) (nxP g len k [a1,a2,a3,a4] os 0) (nxW g len k [a1,a2,a3,a4] os 0) ek eq ev=true) (ho:(g k).o=9) (hb9:belB (g k).n len=true):
  Calls prog 135 #[.slice (some (aQ b off)) len cap,stV k ra 4 rc oa os.length oc 0,evV ek eq ev] w (qc2 w (qaf len (g k) k [a1,a2,a3,a4] os 0 ev) true):=by
 obtain ⟨hjr,hja,hjb⟩:=hj;obtain ⟨j1,j2,j3⟩:=j4
 have e:qay len k a1 a2 a3 a4 os (g k).n a1 a2 a3 a4 os 0=qaf len (g k) k [a1,a2,a3,a4] os 0 ev:=by
  rw [qgq hn h60 hb9];simp [qaf,ho]
 rw [<- e];refine qbl b off len cap k g ra oa rc oc a1 a2 a3 a4 os ek eq ev w 161 (yA func161) (g k).n a1 a2 a3 a4 os 0 (by unfold maxLen;omega) hb hI h60 h1 h2 hk hD (by rw [ho];exact qvr) (fun o1 c1 B wx hB hO=>?_);rw [hjr,hja,hjb];refine (qmv _ _ _ _ _ _ _ _ _ jr ja jb _ _ _ _ _ _ (by omega) (by omega)).mono ?_;rintro e w' ⟨rfl,b⟩;exact qa9 hO b
theorem qnq (b off len cap k:Nat) (g:Nat->I5) (ra oa:Option Addr) (rc oc:Nat) (a1 a2 a3 a4:Int) (os:List Int) (ek eq ev:Int) (w:World) (jr ja jb:Nat) (hj:(g k).r=jr/\(g k).a=ja/\(g k).b=jb) (j4:jr<4/\ja<4/\jb<4) (hn:numB a1=true/\numB a2=true/\numB a3=true/\numB a4=true) (_hz:∀ j,j<4->numB (zi [a1,a2,a3,a4] j)=true) (hl:(len:Int)<=30) (hb:b<w.heap.size) (hI:qaq w b off len g) (h60:os.length<=60) (h1:Sl w ra [a1,a2,a3,a4]) (h2:Sl w oa os) (hk:k<len) (hD:canB (nxK g len k [a1,a2,a3,a4] os 0) (nxP g len k [a1,a2,a3,a4] os 0) (nxW g len k [a1,a2,a3,a4] os 0) ek eq ev=true) (ho:(g k).o=10) (hb9:belB (g k).n len=true) (hz0:zi [a1,a2,a3,a4] ja=0):
  Calls prog 135 #[.slice (some (aQ b off)) len cap,stV k ra 4 rc oa os.length oc 0,evV ek eq ev] w (qc2 w (qaf len (g k) k [a1,a2,a3,a4] os 0 ev) true):=by
 obtain ⟨hjr,hja,hjb⟩:=hj;obtain ⟨j1,j2,j3⟩:=j4
 have e:qay len k a1 a2 a3 a4 os (g k).n a1 a2 a3 a4 os 0=qaf len (g k) k [a1,a2,a3,a4] os 0 ev:=by
  rw [qgq hn h60 hb9];simp [qaf,ho,hja,hz0]
 rw [<- e];refine qbl b off len cap k g ra oa rc oc a1 a2 a3 a4 os ek eq ev w 162 (yA func162) (g k).n a1 a2 a3 a4 os 0 (by unfold maxLen;omega) hb hI h60 h1 h2 hk hD (by rw [ho];exact qmu) (fun o1 c1 B wx hB hO=>?_);rw [hjr,hja,hjb];refine (qky _ _ _ _ _ _ _ _ _ jr ja jb _ _ _ _ _ _ (by omega) (by omega) j2 (by simp [hz0])).mono ?_;rintro e w' ⟨rfl,b⟩;exact qa9 hO b
theorem qqd (b off len cap k:Nat) (g:Nat->I5) (ra oa:Option Addr) (rc oc:Nat) (a1 a2 a3 a4:Int) (os:List Int) (ek eq ev:Int) (w:World) (jr ja jb:Nat) (hj:(g k).r=jr/\(g k).a=ja/\(g k).b=jb) (j4:jr<4/\ja<4/\jb<4) (hn:numB a1=true/\numB a2=true/\numB a3=true/\numB a4=true) (_hz:∀ j,j<4->numB (zi [a1,a2,a3,a4] j)=true) (hl:(len:Int)<=30) (hb:b<w.heap.size) (hI:qaq w b off len g) (h60:os.length<=60) (h1:Sl w ra [a1,a2,a3,a4]) (h2:Sl w oa os) (hk:k<len) (hD:canB (nxK g len k [a1,a2,a3,a4] os 0) (nxP g len k [a1,a2,a3,a4] os 0) (nxW g len k [a1,a2,a3,a4] os 0) ek eq ev=true) (ho:(g k).o=10) (hz0:¬ zi [a1,a2,a3,a4] ja=0):
  Calls prog 135 #[.slice (some (aQ b off)) len cap,stV k ra 4 rc oa os.length oc 0,evV ek eq ev] w (qc2 w (qaf len (g k) k [a1,a2,a3,a4] os 0 ev) true):=by
 obtain ⟨hjr,hja,hjb⟩:=hj;obtain ⟨j1,j2,j3⟩:=j4
 have e:qay len k a1 a2 a3 a4 os (k+1) a1 a2 a3 a4 os 0=qaf len (g k) k [a1,a2,a3,a4] os 0 ev:=by
  rw [qeg hn h60];simp [qaf,ho,hja,hz0]
 rw [<- e];refine qbl b off len cap k g ra oa rc oc a1 a2 a3 a4 os ek eq ev w 162 (yA func162) (k+1) a1 a2 a3 a4 os 0 (by unfold maxLen;omega) hb hI h60 h1 h2 hk hD (by rw [ho];exact qmu) (fun o1 c1 B wx hB hO=>?_);rw [hjr,hja,hjb];refine (qmx _ _ _ _ _ _ _ _ _ jr ja jb _ _ _ _ _ _ (by omega) (by omega) j2 (by simpa using hz0)).mono ?_;rintro e w' ⟨rfl,b⟩;exact qa9 hO b
theorem qyb (b off len cap k:Nat) (g:Nat->I5) (ra oa:Option Addr) (rc oc:Nat) (a1 a2 a3 a4:Int) (os:List Int) (ek eq ev:Int) (w:World) (jr ja jb:Nat) (hj:(g k).r=jr/\(g k).a=ja/\(g k).b=jb) (j4:jr<4/\ja<4/\jb<4) (hn:numB a1=true/\numB a2=true/\numB a3=true/\numB a4=true) (_hz:∀ j,j<4->numB (zi [a1,a2,a3,a4] j)=true) (hl:(len:Int)<=30) (hb:b<w.heap.size) (hI:qaq w b off len g) (h60:os.length<=60) (h1:Sl w ra [a1,a2,a3,a4]) (h2:Sl w oa os) (hk:k<len) (hD:canB (nxK g len k [a1,a2,a3,a4] os 0) (nxP g len k [a1,a2,a3,a4] os 0) (nxW g len k [a1,a2,a3,a4] os 0) ek eq ev=true) (ho:(g k).o=11):
  Calls prog 135 #[.slice (some (aQ b off)) len cap,stV k ra 4 rc oa os.length oc 0,evV ek eq ev] w (qc2 w (qaf len (g k) k [a1,a2,a3,a4] os 0 ev) true):=by
 obtain ⟨hjr,hja,hjb⟩:=hj;obtain ⟨j1,j2,j3⟩:=j4
 have e:qay len k a1 a2 a3 a4 os k a1 a2 a3 a4 os 1=qaf len (g k) k [a1,a2,a3,a4] os 0 ev:=by
  rw [qgq hn h60 (by simp [belB];omega)];simp [qaf,ho]
 rw [<- e];refine qbl b off len cap k g ra oa rc oc a1 a2 a3 a4 os ek eq ev w 163 (yA func163) k a1 a2 a3 a4 os 1 (by unfold maxLen;omega) hb hI h60 h1 h2 hk hD (by rw [ho];exact qtz) (fun o1 c1 B wx hB hO=>?_);rw [hjr,hja,hjb];refine (qvt _ _ _ _ _ _ _ _ _ jr ja jb _ _ _ _ _ _ (by omega) (by omega)).mono ?_;rintro e w' ⟨rfl,b⟩;exact qa9 hO b
theorem qj1 {x:I5} {len:Nat} (h:qae x.o x.r x.a x.b x.n len 4=true) (h9:x.o=9\/x.o=10):belB x.n len=true:=by
 simp only [qae,nH] at h;have h5:=h.2;unfold qbf at h5
 rcases h9 with h9 | h9 <;> (rw [h9] at h5;simp [belB] at h5 ⊢;omega)
theorem qup (b off len cap:Nat) (g:Nat->I5) (p code:Int) (ra oa:Option Addr) (rc oc:Nat) (rs os:List Int) (ek eq ev:Int) (w:World) (hlen:len<=maxLen) (hb:b<w.heap.size) (hI:qaq w b off len g) (hr:rs.length<=1048576) (ho:os.length<=1048576) (h1:Sl w ra rs) (h2:Sl w oa os) (hP:qaa g len 4=true):
  Calls prog 135 #[.slice (some (aQ b off)) len cap,stV p ra rs.length rc oa os.length oc code,evV ek eq ev] w (qc2 w (doS g len p rs os code ek eq ev) (doB g len p rs os code ek eq ev)):=by
 rcases zK (doB g len p rs os code ek eq ev) with hB | hB
 case inr=>
  have hS:doS g len p rs os code ek eq ev=⟨p,rs,os,code⟩:=by
   unfold doS;rw [nB (by rw [hB];decide)]
  rw [hB,hS];exact qw7 b off len cap g p code ra oa rc oc rs os ek eq ev w hlen hb hI hr ho h1 h2 hB hP
 have hR:=qci hB;obtain ⟨hp,hs,rfl⟩:=qa7 hR;obtain ⟨⟨a1,a2,a3,a4,rfl,n1,n2,n3,n4⟩,⟨k,rfl,hk⟩,h60,-⟩:=qbq hs
 have hS:doS g len k [a1,a2,a3,a4] os 0 ek eq ev=qaf len (g k) k [a1,a2,a3,a4] os 0 ev:=by
  unfold doS;rw [nC hB,nF]
 rw [hB,hS]
 have hl:(len:Int)<=30:=by
  simp only [qaa,nH] at hp;have:=hp.2.1;simp [inB] at this;omega
 have hins:=qbo hp hk;obtain ⟨⟨o1,o11⟩,⟨r0,r3⟩,⟨m0,m3⟩,⟨q0,q3⟩⟩:=qb6 hins;have hn:numB a1=true/\numB a2=true/\numB a3=true/\numB a4=true:=⟨n1,n2,n3,n4⟩
 have hz:∀ j,j<4->numB (zi [a1,a2,a3,a4] j)=true:=fun j hj=>by
  match j,hj with
  | 0,_=>exact n1
  | 1,_=>exact n2
  | 2,_=>exact n3
  | 3,_=>exact n4
 have hj:(g k).r=((g k).r.toNat:Int)/\(g k).a=((g k).a.toNat:Int)/\(g k).b=((g k).b.toNat:Int):=⟨by omega,by omega,by omega⟩
 have j4:(g k).r.toNat<4/\(g k).a.toNat<4/\(g k).b.toNat<4:=⟨by omega,by omega,by omega⟩
 rcases qd6 (g k).o with h | h | h | h | h | h | h | h | h | h | h | h
 ·omega
 ·exact qyd b off len cap k g ra oa rc oc a1 a2 a3 a4 os ek eq ev w _ _ _ hj j4 hn hz hl hb hI h60 h1 h2 hk hB h
 ·exact qya b off len cap k g ra oa rc oc a1 a2 a3 a4 os ek eq ev w _ _ _ hj j4 hn hz hl hb hI h60 h1 h2 hk hB h
 ·exact qye b off len cap k g ra oa rc oc a1 a2 a3 a4 os ek eq ev w _ _ _ hj j4 hn hz hl hb hI h60 h1 h2 hk hB h
 ·exact qyc b off len cap k g ra oa rc oc a1 a2 a3 a4 os ek eq ev w _ _ _ hj j4 hn hz hl hb hI h60 h1 h2 hk hB h
 ·by_cases hlt:zi [a1,a2,a3,a4] (g k).a.toNat<zi [a1,a2,a3,a4] (g k).b.toNat
  ·exact qnp b off len cap k g ra oa rc oc a1 a2 a3 a4 os ek eq ev w _ _ _ hj j4 hn hz hl hb hI h60 h1 h2 hk hB h hlt
  ·exact qqc b off len cap k g ra oa rc oc a1 a2 a3 a4 os ek eq ev w _ _ _ hj j4 hn hz hl hb hI h60 h1 h2 hk hB h hlt
 ·exact qw9 b off len cap k g ra oa rc oc a1 a2 a3 a4 os ek eq ev w _ _ _ hj j4 hn hz hl hb hI h60 h1 h2 hk hB h
 ·have hv:numB ev=true:=by
   have hc:=hB;unfold doB nxK at hc;rw [nC hR,nF,h,show evK 7=3 from rfl,qh6] at hc;simp only [nH] at hc;exact hc.1.2
  exact qxa b off len cap k g ra oa rc oc a1 a2 a3 a4 os ek eq ev w _ _ _ hj j4 hn hz hl hb hI h60 h1 h2 hk hB h hv
 ·exact quq b off len cap k g ra oa rc oc a1 a2 a3 a4 os ek eq ev w _ _ _ hj j4 hn hz hl hb hI h60 h1 h2 hk hB h
 ·exact qw8 b off len cap k g ra oa rc oc a1 a2 a3 a4 os ek eq ev w _ _ _ hj j4 hn hz hl hb hI h60 h1 h2 hk hB h (qj1 hins (.inl h))
 ·by_cases hz0:zi [a1,a2,a3,a4] (g k).a.toNat=0
  ·exact qnq b off len cap k g ra oa rc oc a1 a2 a3 a4 os ek eq ev w _ _ _ hj j4 hn hz hl hb hI h60 h1 h2 hk hB h (qj1 hins (.inr h)) hz0
  ·exact qqd b off len cap k g ra oa rc oc a1 a2 a3 a4 os ek eq ev w _ _ _ hj j4 hn hz hl hb hI h60 h1 h2 hk hB h hz0
 ·exact qyb b off len cap k g ra oa rc oc a1 a2 a3 a4 os ek eq ev w _ _ _ hj j4 hn hz hl hb hI h60 h1 h2 hk hB h
theorem qei {n:Nat} {p code:Int} {rs os:List Int} (h1:rs.length=4) (h2:allN rs=true) (h3:0<=code/\code<=2) (h4:belB p n=true) (h5:os.length<=60) (h6:allN os=true):qc4 n p rs os code=true:=by
 have e:inB code 0 2=true:=by simp [inB];omega
 have e5:((os.length:Int)<=60):=by omega
 simp [qc4,qc3,outB,h1,h2,e,h4,e5,h6]
theorem qoy {xs:List Int} {j:Nat} {v:Int} (h:allN xs=true) (hv:numB v=true):allN (xs.set j v)=true:=by
 unfold allN at h ⊢;rw [List.all_eq_true] at h ⊢;intro x hx
 rcases List.mem_or_eq_of_mem_set hx with h1 | h1
 ·exact h x h1
 ·rw [h1];exact hv
def OkS (len:Nat) (S:S4):Prop:=qc4 len S.p S.rs S.os S.c=true
theorem ql1 {len k:Nat} {rs os:List Int} (hk:k<len) (h1:rs.length=4) (h2:allN rs=true) (h5:os.length<=60) (h6:allN os=true):OkS len (goS len k rs os 0):=by
 unfold OkS goS goP goC;by_cases h:(len:Int)<=(k:Int)+1
 ·simp only [h,if_true]
  exact qei h1 h2 (by omega) (by simp [belB];omega) h5 h6
 ·simp only [h,if_false]
  exact qei h1 h2 (by omega) (by simp [belB];omega) h5 h6
theorem qo2 {g:Nat->I5} {len:Nat} {p:Int} {rs os:List Int} {code ek eq ev:Int} (hB:doB g len p rs os code ek eq ev=true):OkS len (doS g len p rs os code ek eq ev):=by
 have hR:=qci hB;obtain ⟨hp,hs,rfl⟩:=qa7 hR;obtain ⟨⟨a1,a2,a3,a4,rfl,n1,n2,n3,n4⟩,⟨k,rfl,hk⟩,h60,hN⟩:=qbq hs
 have hS:doS g len k [a1,a2,a3,a4] os 0 ek eq ev=qaf len (g k) k [a1,a2,a3,a4] os 0 ev:=by
  unfold doS;rw [nC hB,nF]
 rw [hS];have hins:=qbo hp hk;obtain ⟨⟨o1,o11⟩,⟨r0,r3⟩,⟨m0,m3⟩,⟨q0,q3⟩⟩:=qb6 hins;have hA:allN [a1,a2,a3,a4]=true:=by simp [allN,n1,n2,n3,n4]
 have hz:∀ j,j<4->numB (zi [a1,a2,a3,a4] j)=true:=fun j hj=>by
  match j,hj with
  | 0,_=>exact n1
  | 1,_=>exact n2
  | 2,_=>exact n3
  | 3,_=>exact n4
 have hkB:belB (k:Int) len=true:=by simp [belB];omega
 have hc:=hB;unfold doB nxK nxP nxW at hc;rw [nC hR,nC hR,nC hR,nF] at hc
 have v7:(g k).o=7->numB ev=true:=fun h=>by
  rw [h,show evK 7=3 from rfl,qh6] at hc;simp only [nH] at hc;exact hc.1.2
 have v8:(g k).o=8->numB ev=true:=fun h=>by
  rw [h,show evK 8=4 from rfl,qer (by decide) (by decide)] at hc;unfold qe2 at hc;simp only [nH,beq_iff_eq] at hc;rw [hc.2.2];exact hz _ (by omega)
 unfold qaf
 split
 ·exact ql1 hk rfl hA h60 hN
 split
 ·rename_i h7
  exact ql1 hk (by simp) (qoy hA (v7 h7)) h60 hN
 split
 ·rename_i h8
  split
  ·exact qei rfl hA (by simp) hkB h60 hN
  ·refine ql1 hk rfl hA (by simp;omega) ?_
   unfold allN at hN ⊢;rw [List.all_append,hN];simp [v8 h8]
 split
 ·rename_i h9
  exact qei rfl hA (by simp) (qj1 hins (.inl h9)) h60 hN
 split
 ·rename_i h10
  split
  ·exact qei rfl hA (by simp) (qj1 hins (.inr h10)) h60 hN
  ·exact ql1 hk rfl hA h60 hN
 split
 ·exact qei rfl hA (by simp) hkB h60 hN
 split
 ·rename_i hv
  exact ql1 hk (by simp) (qoy hA hv) h60 hN
 ·exact qei rfl hA (by simp) hkB h60 hN
theorem qd0 (w:World):
  Calls prog 70 #[] w fun e w'=>∃ v,e=.returned v/\qac w' w.heap.size v 0 [0,0,0,0] [] 0/\Bw w w':=by
 have hmk:∀ w:World,(Instr.makeSlice 41 (iV 4) (iV 4)).run prog w=.ok (sG w.heap.size 4 4) (w.alloc (.cells (madeCells #[iV 0] 4) 3)):=fun w=>qef 4 (by omega) w;have HM:Hid (∀ w:World,OwnI (w.alloc (.cells (madeCells #[iV 0] 4) 3)) w.heap.size (sG w.heap.size 4 4) [0,0,0,0]):=fun w=>qpg w 4 (by omega)
 go_enter func70,ntmps70
 go_wp2;have hB:w.heap.size<=w.heap.size+1:=by omega
 have hM:=HM.out (w.alloc (oQ0 0 (some ⟨w.heap.size+1,0,none⟩) 4 4 none 0 0 0))
 (try dsimp only [aW] at hM);rw [World.size_alloc] at hM
 refine bodyPost_ret (v:=stV 0 (some ⟨w.heap.size+1,0,none⟩) 4 4 none 0 0 0) (by simp [results,results70,go_sem]) rfl ⟨_,rfl,⟨_,_,rfl,hM.mono hB,World.ownsRow_nil _ _ _ _,fun k _=>by simp [Value.ownBlock]⟩,by go_grown⟩
theorem Tl.widen {w:World} {B C C' N:Nat} {p c:Int} {ra:Option Addr} {rn rc:Nat} {oa:Option Addr} {on oc:Nat} {rs os:List Int} (h:Tl w B C N p c ra rn rc oa on oc rs os) (h1:C<=C') (h2:C'<=w.heap.size):Tl w B C' N p c ra rn rc oa on oc rs os:=
 ⟨h.lo,zL h.hi h1,h2,h.box,h.own,fun k hk=>zL (h.up k hk) h1,h.ne⟩
def newS:S4:=⟨0,[0,0,0,0],[],0⟩
def qcz (g:Nat->I5) (len:Nat) (x:E3) (S:S4):Option S4:=if doB g len S.p S.rs S.os S.c x.k x.q x.v=true then some (doS g len S.p S.rs S.os S.c x.k x.q x.v) else none
def rp (g:Nat->I5) (len:Nat) (h:Nat->E3):Nat->Option S4
 | 0=>some newS
 | k+1=>(rp g len h k).bind (qcz g len (h k))
theorem qtk {g:Nat->I5} {len:Nat} {h:Nat->E3} {k:Nat} (hk:rp g len h k=none):∀ d,rp g len h (k+d)=none
 | 0=>hk
 | d+1=>by
  have:=qtk hk d;show (rp g len h (k+d)).bind _=none;rw [this];rfl
theorem qed {g:Nat->I5} {len:Nat} {h:Nat->E3} {k m:Nat} (hk:rp g len h k=none) (hm:k<=m):rp g len h m=none:=by
 have:=qtk hk (m - k)
 rwa [show k+(m - k)=m by omega] at this
theorem qtl {g:Nat->I5} {len:Nat} {h:Nat->E3} {k:Nat} {S:S4} (hk:rp g len h k=some S) (hd:doB g len S.p S.rs S.os S.c (h k).k (h k).q (h k).v=true):rp g len h (k+1)=some (doS g len S.p S.rs S.os S.c (h k).k (h k).q (h k).v):=by
 show (rp g len h k).bind _=_;rw [hk];show qcz g len (h k) S=_;unfold qcz;rw [nC hd]
theorem qtj {g:Nat->I5} {len:Nat} {h:Nat->E3} {k:Nat} {S:S4} (hk:rp g len h k=some S) (hd:doB g len S.p S.rs S.os S.c (h k).k (h k).q (h k).v=false):rp g len h (k+1)=none:=by
 show (rp g len h k).bind _=_;rw [hk];show qcz g len (h k) S=_;unfold qcz;rw [nB (by rw [hd];decide)]
def resS (o:Option S4):S4:=o.getD ⟨0,[],[],0⟩
theorem qki {g:Nat->I5} {len:Nat} (hp:qaa g len 4=true):1<=len/\len<=30:=by
 simp only [qaa,nH] at hp;have:=hp.2.1;simp [inB] at this;omega
theorem qka {g:Nat->I5} {len:Nat} (hp:qaa g len 4=true):OkS len newS:=by
 have:=qki hp;exact qei rfl (by simp [newS,allN,numB,inB]) (by simp [newS]) (by simp [belB,newS];omega) (by simp [newS]) rfl
theorem qps {g:Nat->I5} {len:Nat} {S:S4} (hp:qaa g len 4=true) (hS:OkS len S) (hc:S.c=0):qbj g len S.p S.rs S.os S.c=true:=by
 unfold OkS at hS;rw [qbj,hp,hS,hc];rfl
theorem qum {g:Nat->I5} {len:Nat} {S:S4} {k q v:Int} (hc:S.c≠0):doB g len S.p S.rs S.os S.c k q v=false:=by
 rcases zK (doB g len S.p S.rs S.os S.c k q v) with h | h
 ·obtain ⟨-,-,h0⟩:=qa7 (qci h)
  exact absurd h0 hc
 ·exact h
theorem OkS.len {n:Nat} {S:S4} (h:OkS n S):S.rs.length=4/\S.os.length<=60:=by
 obtain ⟨⟨a,b,c,d,e,-⟩,-,h60,-⟩:=qbq h;exact ⟨by rw [e];rfl,h60⟩
open Go.Deep
theorem qb2 (eh:Nat->E3) (kd pr:Int) (n:Nat):(valL eh kd pr n).length=(plN eh kd pr n).length:=by simp [valL]
theorem qez (eh:Nat->E3) (kd pr:Int) (n:Nat):(plI eh kd pr n).length=(plN eh kd pr n).length:=by simp [plI]
def nthV (eh:Nat->E3) (kd pr:Int) (len:Nat) (n:Int):Int:=if belB n ((plI eh kd pr len).length:Nat)=true then zi (plI eh kd pr len) n.toNat else -1
theorem qoj (eh:Nat->E3) (kd pr:Int):∀ n,∀ q ∈ plN eh kd pr n,q<n
 | 0,q,h=>by simp [plN] at h
 | n+1,q,h=>by
  unfold plN at h
  split at h
  ·simp at h
   rcases h with h | h
   ·have:=qoj eh kd pr n q h
    omega
   ·omega
  ·have:=qoj eh kd pr n q h
   omega
theorem qmg (eh:Nat->E3) (kd pr:Int) (len j:Nat) (hj:j<(plI eh kd pr len).length):∃ q:Nat,zi (plI eh kd pr len) j=(q:Int)/\q<len/\(plN eh kd pr len)[j]? = some q:=by
 have hj':j<(plN eh kd pr len).length:=by rw [qez] at hj;exact hj
 refine ⟨(plN eh kd pr len)[j],?_,qoj eh kd pr len _ (List.getElem_mem hj'),List.getElem?_eq_getElem hj'⟩;unfold zi plI;rw [List.getD_eq_getElem?_getD,List.getElem?_map,List.getElem?_eq_getElem hj'];rfl
theorem qp2 {ops:Array Oper} {rest:List Oper} {op:Oper} {act:Act} {Q:Exit->Act->World->Prop} (w:World) (hgd:op.guard=none) (s x:Operand)
  (ho:op.op=.call { callee:=.builtin .append,args:=#[s,x],argTypes:=#[41,41] })
  (B:Nat) (v:Value) (xs:List Int) (hs:act.eval s=v) (hv:OwnI w B v xs) (y:Int) (hx:act.eval x=.slice (some (aQ w.heap.size 0)) 1 1) (hn:xs.length<=1048576) (hB:B<=w.heap.size)
  (h:∀ v' w',OwnI w' B v' (xs ++ [y])->w.grownBy w' v.ownBlock->(∀ j,v'.ownBlock=some j->v.ownBlock=some j\/w.heap.size<=j)->wpList prog ops Q rest (act.put op.dst v') w'):
  wpList prog ops Q (op :: rest) act (w.alloc (.cells #[iV y] 3)):=by
 have hb:Bw w (w.alloc (.cells #[iV y] 3)):=(nE _ _).alloc (nA _) _;refine qaz _ hgd s x ho B 1 v (some (aQ w.heap.size 0)) xs [y] hs hx (hv.bw hb) (.inr ⟨w.heap.size,0,rfl,by simp,fun i hi=>?_⟩) (by simp;omega) (by simp;omega) ?_
 ·have:i=0:=by simp at hi;omega
  subst this;exact zW _ _ _ 0 rfl
 ·intro v' w' o g a
  refine h v' w' o ⟨g.os,g.tape,g.output,zP hb.size g.size,fun k hk hne=>(g.block k (zL hk hb.size) hne).trans (hb.block k hk)⟩ fun j hj=>?_
  rcases a with a | a
  ·exact .inl (a.symm.trans hj)
  ·rw [hj] at a
   simp only [nG] at a;right;rw [a];simp
def Away (w w1 wr:World) (o:Value):Prop:=(∀ j,o.ownBlock=some j->j=w.heap.size\/w1.heap.size<=j)/\(∀ j,w.heap.size<j->j<w1.heap.size->wr.heap[j]? = w1.heap[j]?)/\w1.heap.size<=wr.heap.size
theorem Away.step {w w1 wr w4:World} {o v':Value} (h:Away w w1 wr o) (g:wr.grownBy w4 o.ownBlock) (a:∀ j,v'.ownBlock=some j->o.ownBlock=some j\/wr.heap.size<=j):Away w w1 w4 v':=by
 obtain ⟨h1,h2,h3⟩:=h;refine ⟨fun j hj=>?_,fun j p1 p2=>?_,zP h3 g.size⟩
 ·rcases a j hj with a | a
  ·exact h1 j a
  ·right;omega
 ·rw [g.block j (by omega) (fun e=>?_),h2 j p1 p2]
  rcases h1 j e.symm with e | e <;> omega
theorem Away.sl {w w1 wr:World} {o:Value} (h:Away w w1 wr o) {B cp:Nat} {a0:Option Addr} {xs:List Int} (hB:w.heap.size<B) (hO:OwnI w1 B (.slice a0 xs.length cp) xs):Sl wr a0 xs:=by
 by_cases hx:0<xs.length
 ·obtain ⟨g,cap,e,hg,hl⟩:=hO.block hx
  simp only [Value.slice.injEq] at e;obtain ⟨rfl,-,rfl⟩:=e;refine .inr ⟨g,0,rfl,zL hl h.2.2,fun i hi=>?_⟩;rw [nL,zH (h.2.1 g (by omega) hl)];exact hO.cell hi
 ·exact .inl (List.eq_nil_of_length_eq_zero (by omega))
def valT (eh:Nat->E3) (kd pr:Int) (len j:Nat):List Int:=((plN eh kd pr len).take j).map fun i=>(eh i).v
theorem qx0 (eh:Nat->E3) (kd pr:Int) (len j:Nat):(valT eh kd pr len j).length<=j:=by simp [valT];omega
theorem qvz (eh:Nat->E3) (kd pr:Int) (len:Nat):valT eh kd pr len (plI eh kd pr len).length=valL eh kd pr len:=by
 unfold valT valL;rw [qez,List.take_length]
theorem qt6 {eh:Nat->E3} {kd pr:Int} {len j q:Nat} (h:(plN eh kd pr len)[j]? = some q):valT eh kd pr len (j+1)=valT eh kd pr len j ++ [(eh q).v]:=by
 unfold valT;rw [List.take_add_one,h,List.map_append];rfl
