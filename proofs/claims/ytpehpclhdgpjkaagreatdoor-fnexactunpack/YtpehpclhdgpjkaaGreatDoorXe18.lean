import Derived.Test.YtpehpclhdgpjkaaGreatDoorXe0
import Derived.Test.YtpehpclhdgpjkaaGreatDoorXe11
import Derived.Test.YtpehpclhdgpjkaaGreatDoorXe12
import Derived.Test.YtpehpclhdgpjkaaGreatDoorXe17
import Derived.Test.YtpehpclhdgpjkaaGreatDoorXe3
import Derived.Deep.RegionHeld3
import Derived.Deep.RegionWith
import Derived.Deep.RegionLaw
namespace Go.Proofs.YtpehpclhdgpjkaaGreatDoor
open Go.ChangeShapes Go.WideShapes Go.ChangeAt Go.RowKit Go.Deep
structure Sy where
 pn:Nat
 pL:Nat->Nat
 pH:Nat->Nat->I5
 sn:Nat
 sS:Nat->S4
 wn:Nat
 wL:Nat->Nat
 wH:Nat->Nat->I2
 hn:Nat
 hL:Nat->Nat
 hH:Nat->Nat->E3
def SysIn.y (x:SysIn):Sy:=⟨x.pn,x.pL,x.pH,x.sn,x.sS,x.wn,x.wL,x.wH,x.hn,x.hL,x.hH⟩
def Sy.hs (y:Sy):Hs:=⟨y.pn,y.hL,y.hH⟩
def itemB (x:I2):Bool:=numB x.v && (!x.m || x.v == 0)
structure WayP (h:Nat->I2) (len:Nat) (took sent:List Int):Prop where
 it:∀ i,i<len->itemB (h i)=true
 le:len<=12
 eq:took ++ numL h len=sent
structure Sy.Ok (y:Sy):Prop where
 cn:(1<=y.pn/\y.pn<=4)/\y.sn=y.pn/\y.hn=y.pn/\y.wn=y.pn*y.pn
 pr:∀ p,p<y.pn->progOkB (y.pH p) (y.pL p) y.pn=true
 rp:∀ p,p<y.pn->repO (y.pH p) (y.pL p) (y.hH p) (y.hL p)=some (y.sS p)
 pe:∀ p,p<y.pn->∀ i,i<y.hL p->(y.hH p i).q<(y.pn:Int)
 wa:∀ a,a<y.pn->∀ b,b<y.pn->WayP (y.wH (a*y.pn+b)) (y.wL (a*y.pn+b)) (valL (y.hH b) 3 a (y.hL b)) (valL (y.hH a) 2 b (y.hL a))
 ro:y.hs.Row
noncomputable def Sy.okB (y:Sy):Bool:=@decide y.Ok (Classical.propDecidable _)
theorem Sy.okB_true {y:Sy} (h:y.Ok):y.okB=true:=by simp [Sy.okB,h]
theorem Sy.okB_false {y:Sy} (h:¬ y.Ok):y.okB=false:=by simp [Sy.okB,h]
theorem Sy.ok_of {y:Sy} (h:y.okB=true):y.Ok:=by simpa [Sy.okB] using h
theorem evP_pos {g:Nat->I5} {len:Nat} {k:Nat} (h:progOkB g len 4=true) (hk:k<len):0<=evP (g k).o (g k).n:=by
 have h5:=right_ins h hk
 simp only [insOkB,Bool.and_eq_true] at h5
 have h6:=h5.2
 unfold evP
 by_cases e6:(g k).o=6
 ·rw [if_pos e6]
  simp [opOkB,e6,inB] at h6
  omega
 ·rw [if_neg e6]
  by_cases e7:(g k).o=7
  ·rw [if_pos e7]
   simp [opOkB,e7,inB] at h6
   omega
  ·rw [if_neg e7]
   exact Int.le_refl _
theorem doB_peer {g:Nat->I5} {len:Nat} {p:Int} {rs os:List Int} {code k q v:Int} (h:doB g len p rs os code k q v=true):0<=q:=by
 have hr:=doB_right h
 obtain ⟨h1,h2,-⟩:=right_parts hr
 obtain ⟨-,⟨j,rfl,hj⟩,-⟩:=st_parts h2
 have hp:=evP_pos h1 hj
 simp only [doB,canB,nxP,if_pos hr,Int.toNat_natCast] at h
 split at h
 ·simp only [Bool.and_eq_true] at h
  have h3:=h.2
  split at h3
  ·simp only [belB,decide_eq_true_eq] at h3
   omega
  ·simp only [beq_iff_eq] at h3
   omega
 ·simp only [Bool.and_eq_true,beq_iff_eq] at h
  have:=h.2.2.1
  omega
theorem rp_peer {g:Nat->I5} {len:Nat} {eh:Nat->E3}:∀ {k:Nat} {S:S4},rp g len eh k=some S->∀ i,i<k->0<=(eh i).q
 | 0,_,_,i,hi=>by omega
 | k+1,S,h,i,hi=>by
  simp only [rp] at h
  cases hr:rp g len eh k with
  | none=>rw [hr] at h;cases h
  | some S0=>
   rw [hr] at h
   simp only [Option.bind_some,rpStep] at h
   split at h
   ·rename_i hd
    by_cases e:i=k
    ·subst e
     exact doB_peer hd
    ·exact rp_peer hr i (by omega)
   ·cases h
theorem repO_some {g:Nat->I5} {n:Nat} {eh:Nat->E3} {m:Nat} {S:S4} (h:repO g n eh m=some S):progOkB g n 4=true/\m<=200/\rp g n eh m=some S:=by
 unfold repO at h
 split at h
 ·rename_i hc
  exact ⟨hc.1,hc.2,h⟩
 ·cases h
structure SysG (W:World) (x:SysIn):Prop where
 p:RowS W x.pa x.pn fun i=>.slice (x.pA i) (x.pL i) (x.pC i)
 pi:∀ i,i<x.pn->∃ b,x.pA i=some ⟨b,0,none⟩/\b<W.heap.size/\InsAt W b 0 (x.pL i) (x.pH i)
 s:AllState W x.sa x.sn x.sQ
 w:RowS W x.wa x.wn fun i=>.slice (x.wA i) (x.wL i) (x.wC i)
 wi:∀ i,i<x.wn->ItL W (x.wA i) (x.wL i) (x.wH i)
 h:RowS W x.ha x.hn fun i=>.slice (x.hA i) (x.hL i) (x.hC i)
 hi:∀ i,i<x.hn->EvL W (x.hA i) (x.hL i) (x.hH i)
theorem SysG.below {w w':World} {x:SysIn} (o:SysG w x) (hb:Below w.heap.size w w'):SysG w' x:=
 ⟨o.p.below hb, fun i hi => by
  obtain ⟨b,e,hlt,hI⟩:=o.pi i hi
  exact ⟨b,e,zL hlt hb.size,hI.below hb hlt⟩,o.s.below hb,o.w.below hb,fun i hi=>(o.wi i hi).below hb,o.h.below hb,fun i hi=>(o.hi i hi).below hb⟩
structure SysIn.Len (x:SysIn):Prop where
 p:x.pn<=1048576/\∀ i,i<x.pn->x.pL i<=1048576
 s:x.sn<=1048576/\∀ i,i<x.sn->(x.sQ i).rs.length<=1048576/\(x.sQ i).os.length<=1048576
 w:x.wn<=1048576/\∀ i,i<x.wn->x.wL i<=1048576
 h:x.hn<=1048576/\∀ i,i<x.hn->x.hL i<=1048576
abbrev SysIn.v (x:SysIn):Value:=sysV x.pa x.pn x.pc x.sa x.sn x.sc x.wa x.wn x.wc x.ha x.hn x.hc
variable {z:Bool}
structure OwnS (z:Bool) (w:World) (B:Nat) (c:Nat->Nat) (y:Sy) (vp vs vw vh:Value) (up us uw uh:Nat->Value):Prop where
 p:LI z w (Cl B c 1) vp y.pn up y.pL y.pH
 s:LS w (Cl B c 2) vs y.sn us y.sS
 t:LT z w (Cl B c 3) vw y.wn uw y.wL y.wH
 h:LE z w (Cl B c 4) vh y.hn uh y.hL y.hH
theorem OwnS.below {w w':World} {B:Nat} {c:Nat->Nat} {y:Sy} {vp vs vw vh:Value} {up us uw uh:Nat->Value} (o:OwnS z w B c y vp vs vw vh up us uw uh) (hb:Below w.heap.size w w'):OwnS z w' B c y vp vs vw vh up us uw uh:=⟨o.p.below hb,o.s.below hb,o.t.below hb,o.h.below hb⟩
def OwnSys (z:Bool) (w:World) (B:Nat) (y:Sy) (v:Value):Prop:=∃ c vp vs vw vh up us uw uh,v=.agg #[vp,vs,vw,vh]/\OwnS z w B c y vp vs vw vh up us uw uh
theorem OwnSys.below {w w':World} {B:Nat} {y:Sy} {v:Value} (o:OwnSys z w B y v) (hb:Below w.heap.size w w'):OwnSys z w' B y v:=by
 obtain ⟨c,vp,vs,vw,vh,up,us,uw,uh,e,o⟩:=o
 exact ⟨c,vp,vs,vw,vh,up,us,uw,uh,e,o.below hb⟩
def rcol (c:Nat->Nat) (n q:Nat):Nat->Nat:=fun k=>if k<n then c k else q
theorem rcol_old {c:Nat->Nat} {n q k:Nat} (h:k<n):rcol c n q k=c k:=if_pos h
theorem rcol_new {c:Nat->Nat} {n q k:Nat} (h:n<=k):rcol c n q k=q:=if_neg (by omega)
theorem Cl.old {B:Nat} {c:Nat->Nat} {n q i k:Nat} (h:Cl B c i k) (hk:k<n):Cl B (rcol c n q) i k:=⟨h.1,(rcol_old hk).trans h.2⟩
section
variable {B N:Nat} {c:Nat->Nat} {y:Sy} {ks kw:Nat} {wr:World} {vp vs vw vh:Value} {up us uw uh:Nat->Value}
end
def Sy.nk (y:Sy) (p:Nat):Int:=nxK (y.pH p) (y.pL p) (y.sS p).p (y.sS p).rs (y.sS p).os (y.sS p).c
def Sy.nq (y:Sy) (p:Nat):Int:=nxP (y.pH p) (y.pL p) (y.sS p).p (y.sS p).rs (y.sS p).os (y.sS p).c
def Sy.nv (y:Sy) (p:Nat):Int:=nxW (y.pH p) (y.pL p) (y.sS p).p (y.sS p).rs (y.sS p).os (y.sS p).c
def tkS (y:Sy) (p:Nat) (f:Int):Int:=if belB f y.pn=true then (if y.wL (f.toNat*y.pn+p)=0 then 3 else if (y.wH (f.toNat*y.pn+p) 0).m=true then 5 else 0) else 2
def fuS (y:Sy) (p:Nat) (k q:Int):Bool:=decide (200<=y.hL p) || (k == 2 && decide (12<=y.wL (p*y.pn+q.toNat)))
def cmS (y:Sy) (p:Nat) (f:Int):Int:=if (y.sS p).c≠0 then 6 else if fuS y p (y.nk p) (y.nq p)=true then 4 else if y.nk p=3 then tkS y p (if y.nq p=9 then f else y.nq p) else 0
theorem rp_okS {g:Nat->I5} {n:Nat} {eh:Nat->E3} (hp:progOkB g n 4=true):∀ k S,rp g n eh k=some S->OkS n S
 | 0,S,h=>by
  simp only [rp,Option.some.injEq] at h
  subst h
  exact newS_ok hp
 | k+1,S,h=>by
  simp only [rp] at h
  cases hr:rp g n eh k with
  | none=>rw [hr] at h;cases h
  | some S0=>
   rw [hr] at h
   simp only [Option.bind_some,rpStep] at h
   split at h
   ·rename_i hd
    simp only [Option.some.injEq] at h
    subst h
    exact doS_ok hd
   ·cases h
theorem Sy.Ok.four {y:Sy} (h:y.Ok) {p:Nat} (hp:p<y.pn):progOkB (y.pH p) (y.pL p) 4=true:=(repO_some (h.rp p hp)).1
theorem Sy.Ok.le200 {y:Sy} (h:y.Ok) {p:Nat} (hp:p<y.pn):y.hL p<=200:=(repO_some (h.rp p hp)).2.1
theorem Sy.Ok.st {y:Sy} (h:y.Ok) {p:Nat} (hp:p<y.pn):OkS (y.pL p) (y.sS p):=rp_okS (h.four hp) _ _ (repO_some (h.rp p hp)).2.2
theorem Sy.Ok.right {y:Sy} (h:y.Ok) {p:Nat} (hp:p<y.pn) (hc:(y.sS p).c=0):rightB (y.pH p) (y.pL p) (y.sS p).p (y.sS p).rs (y.sS p).os 0=true:=by
 have:=right_of (h.four hp) (h.st hp) hc
 rwa [hc] at this
theorem Sy.Ok.peer {y:Sy} (h:y.Ok) {p:Nat} (hp:p<y.pn) (hk:y.nk p=2):0<=y.nq p/\y.nq p<y.pn:=by
 unfold Sy.nk nxK at hk
 unfold Sy.nq nxP
 by_cases hr:rightB (y.pH p) (y.pL p) (y.sS p).p (y.sS p).rs (y.sS p).os (y.sS p).c=true
 ·rw [if_pos hr] at hk ⊢
  obtain ⟨-,h4,-⟩:=right_parts hr
  obtain ⟨-,⟨k,ek,hkl⟩,-⟩:=st_parts h4
  have e:(y.sS p).p.toNat=k:=by omega
  rw [e] at hk ⊢
  have h5:=right_ins (h.pr p hp) hkl
  simp only [insOkB,Bool.and_eq_true] at h5
  have h6:=h5.2
  have e6:(y.pH p k).o=6:=by
   unfold evK at hk
   by_cases e6:(y.pH p k).o=6
   ·exact e6
   ·rw [if_neg e6] at hk
    split at hk
    ·cases hk
    ·split at hk <;> cases hk
  rw [evP,if_pos e6]
  simp [opOkB,e6,inB] at h6
  omega
 ·rw [if_neg hr] at hk
  cases hk
theorem Sy.Ok.way {y:Sy} (h:y.Ok) {a b:Nat} (ha:a<y.pn) (hb:b<y.pn):y.wL (a*y.pn+b)<=12:=(h.wa a ha b hb).le
variable {z:Bool}
def Sy.setW (y:Sy) (i m:Nat) (H:Nat->I2):Sy:={ y with wL:=fun j=>if j=i then m else y.wL j,wH:=fun j=>if j=i then H else y.wH j }
def Sy.setH (y:Sy) (i m:Nat) (H:Nat->E3):Sy:={ y with hL:=fun j=>if j=i then m else y.hL j,hH:=fun j=>if j=i then H else y.hH j }
def Sy.setS (y:Sy) (i:Nat) (T:S4):Sy:={ y with sS:=fun j=>if j=i then T else y.sS j }
theorem OwnS.putW {w w1:World} {B:Nat} {c:Nat->Nat} {y:Sy} {vp vs vh:Value} {g cap:Nat} {up us uw uh:Nat->Value} (o:OwnS z w B c y vp vs (.slice (some ⟨g,0,none⟩) y.wn cap) vh up us uw uh) {i:Nat} (hi:i<y.wn) {u':Value} {m:Nat} {H':Nat->I2} (hB:B<=w.heap.size) (hs:w.heap.size<=w1.heap.size) (g1:∀ k,k<w.heap.size->(uw i).ownBlock≠some k->w1.heap[k]? = w.heap[k]?)
  (hu:w1.ownsRow 0 81 2 u' m (fT H' m)) (hne:u'≠.slice none 0 0) (hb:∀ k,u'.ownBlock=some k->(uw i).ownBlock=some k\/w.heap.size<=k):
  OwnS z (w1.setCell ⟨g,i,none⟩ u') B (rcol c w.heap.size 3) (y.setW i m H') vp vs (.slice (some ⟨g,0,none⟩) y.wn cap) vh up us (fun j=>if j=i then u' else uw j) uh:=by
 have hP:∀ q k,Cl B c q k->k<w.heap.size->Cl B (rcol c w.heap.size 3) q k:=fun q k h hl=>h.old hl
 have hg:Cl B c 3 g:=o.t.rb g rfl
 have hgl:g<w.heap.size:=(o.t.row.lt g rfl).2
 have hk:∀ q,q≠3->∀ k,Cl B (rcol c w.heap.size 3) q k->k<w.heap.size->(w1.setCell ⟨g,i,none⟩ u').heap[k]? = w.heap[k]?:=fun q hq k h hl=>by
  have e:c k=q:=(rcol_old hl).symm.trans h.2
  refine (zN _ _ _ _ fun ek=>hq ?_).trans (g1 k hl fun ek=>hq ?_)
  ·rw [<- e,ek];exact hg.2
  ·rw [<- e];exact (o.t.ob i hi k ek).2
 refine ⟨(o.p.mono (hP 1)).keep (hk 1 (by decide)),(o.s.mono (hP 2)).keep (hk 2 (by decide)),?_,(o.h.mono (hP 4)).keep (hk 4 (by decide))⟩
 have h:=LL.put o.t hi hs g1 hu (fun _=>hne) hb (P':=Cl B (rcol c w.heap.size 3) 3) (hP 3) fun k h _=>⟨zO hB h,rcol_new h⟩
 have e:(fun j=>if j=i then fT H' m else fT (y.wH j) (y.wL j))=fun j=>fT ((y.setW i m H').wH j) ((y.setW i m H').wL j):=funext fun j=>by
  by_cases q:j=i
  ·simp [Sy.setW,q]
  ·simp [Sy.setW,q]
 rw [e] at h
 exact h
def Sy.way (y:Sy) (p:Nat) (k q v:Int):Sy:=
 { y with
  wL:=if k=2 then fun j=>if j=p*y.pn+q.toNat then y.wL (p*y.pn+q.toNat)+1 else y.wL j
   else if k=3 then fun j=>if j=q.toNat*y.pn+p then y.wL (q.toNat*y.pn+p) - 1 else y.wL j else y.wL
  wH:=if k=2 then fun j=>if j=p*y.pn+q.toNat then (fun i=>if i=y.wL (p*y.pn+q.toNat) then ⟨false,v⟩ else y.wH (p*y.pn+q.toNat) i) else y.wH j
   else if k=3 then fun j=>if j=q.toNat*y.pn+p then (fun i=>y.wH (q.toNat*y.pn+p) (i+1)) else y.wH j else y.wH }
theorem Sy.way_send (y:Sy) (p q:Nat) (v:Int):y.way p 2 q v=y.setW (p*y.pn+q) (y.wL (p*y.pn+q)+1) (fun i=>if i=y.wL (p*y.pn+q) then ⟨false,v⟩ else y.wH (p*y.pn+q) i):=by
 simp [Sy.way,Sy.setW]
theorem Sy.way_take (y:Sy) (p q:Nat) (v:Int):y.way p 3 q v=y.setW (q*y.pn+p) (y.wL (q*y.pn+p) - 1) (fun i=>y.wH (q*y.pn+p) (i+1)):=by
 simp [Sy.way,Sy.setW]
theorem Sy.way_no (y:Sy) (p:Nat) {k:Int} (h2:k≠2) (h3:k≠3) (q v:Int):y.way p k q v=y:=by
 simp [Sy.way,h2,h3]
def Sy.evt (y:Sy) (p:Nat) (k q v:Int):Sy:=
 (y.setS p (doS (y.pH p) (y.pL p) (y.sS p).p (y.sS p).rs (y.sS p).os (y.sS p).c k q v)).setH p (y.hL p+1) (fun i=>if i=y.hL p then ⟨k,q,v⟩ else y.hH p i)
def Sy.eq (y:Sy) (p:Nat) (f:Int):Int:=if y.nk p=3 then (if y.nq p=9 then f else y.nq p) else y.nq p
def Sy.ev (y:Sy) (p:Nat) (f:Int):Int:=if y.nk p=3 then (y.wH ((y.eq p f).toNat*y.pn+p) 0).v else y.nv p
def Sy.step (y:Sy) (p:Nat) (f:Int):Sy:=if cmS y p f=0 then (y.way p (y.nk p) (y.eq p f) (y.ev p f)).evt p (y.nk p) (y.eq p f) (y.ev p f) else y
