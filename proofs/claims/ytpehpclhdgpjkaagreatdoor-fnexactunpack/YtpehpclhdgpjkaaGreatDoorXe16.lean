import Derived.Test.YtpehpclhdgpjkaaGreatDoorXe0
import Derived.Test.YtpehpclhdgpjkaaGreatDoorXe10
import Derived.Test.YtpehpclhdgpjkaaGreatDoorXe14
import Derived.Test.YtpehpclhdgpjkaaGreatDoorXe13
import Derived.Test.YtpehpclhdgpjkaaGreatDoorXe8
import Derived.Deep.CutRange
import Derived.Test.YtpehpclhdgpjkaaGreatDoorXe15
namespace Go.Proofs.YtpehpclhdgpjkaaGreatDoor
set_option maxRecDepth 100000
set_option maxHeartbeats 1000000
open Go.RowKit
theorem canB_take (np nv k p v:Int):canB 3 np nv k p v=((k == 3) && numB v && (if np=9 then belB p 4 else p == np)):=by
 unfold canB
 rw [if_pos rfl]
theorem canB_other {nk:Int} (h3:nk≠3) (h0:nk≠0) (np nv k p v:Int):canB nk np nv k p v=evEqB k p v nk np nv:=by
 unfold canB evEqB
 rw [if_neg h3]
 have:(nk != 0)=true:=by simp [h0]
 rw [this,Bool.true_and]
theorem evEqB_true {a b c a' b' c':Int} (h:evEqB a b c a' b' c'=true):a=a'/\b=b'/\c=c':=by
 simpa [evEqB] using h
theorem take_from {x:I5} {len:Int} (h:insOkB x.o x.r x.a x.b x.n len 4=true) (h7:x.o=7):x.n=9\/(0<=x.n/\x.n<=3):=by
 simp only [insOkB,Bool.and_eq_true] at h
 have h5:=h.2
 unfold opOkB at h5
 rw [h7] at h5
 simp [inB] at h5
 omega
def DoneR (w:World) (s:S4) (t:Bool) (e:Ending) (w':World):Prop:=∃ v,e=.returned (.tuple #[v,.bool t])/\StOwn w' w.heap.size v s.p s.rs s.os s.c/\Below w.heap.size w w'
theorem l2Do_any (b off len cap k:Nat) (g:Nat->I5) (ra oa:Option Addr) (rc oc:Nat) (rs os:List Int) (ek eq ev:Int) (w:World) (hb:b<w.heap.size) (hI:InsAt w b off len g) (h1:Sl w ra rs) (h2:Sl w oa os) (hR:rightB g len (k:Int) rs os 0=true):
  Calls Tryz.prog 103 #[.slice (some ⟨b,off,none⟩) len cap,stV k ra rs.length rc oa os.length oc 0,evV ek eq ev] w (DoneR w (doS g len k rs os 0 ek eq ev) (doB g len k rs os 0 ek eq ev)):=by
 obtain ⟨hp,hs,-⟩:=right_parts hR
 obtain ⟨⟨r0,r1,r2,r3,hrs,hn0,hn1,hn2,hn3⟩,⟨k',hkk,hk'⟩,h60,hall⟩:=st_parts hs
 obtain rfl:k=k':=by omega
 have hk:=hk'
 have h4:rs.length=4:=by rw [hrs];rfl
 have hnum:allN rs=true:=by rw [hrs];simp [allN,hn0,hn1,hn2,hn3]
 have hl:(len:Int)<=30:=by
  simp only [progOkB,Bool.and_eq_true] at hp
  have:=hp.2.1
  simp [inB] at this
  omega
 have hins:=right_ins hp hk
 obtain ⟨⟨o1,o11⟩,-⟩:=ins_range hins
 have hN:∀ K P V,evK (g k).o=K->evP (g k).o (g k).n=P->evW (g k).o (g k).a rs=V->doB g len k rs os 0 ek eq ev=canB K P V ek eq ev:=by
  intro K P V hK hP hV
  unfold doB nxK nxP nxW
  rw [if_pos hR,if_pos hR,if_pos hR,Int.toNat_natCast,hK,hP,hV]
 have hno:doB g len k rs os 0 ek eq ev=false->doS g len k rs os 0 ek eq ev=⟨k,rs,os,0⟩:=fun h=>by
  unfold doS
  rw [if_neg (by rw [h];decide)]
 have hyes:doB g len k rs os 0 ek eq ev=true->doS g len k rs os 0 ek eq ev=doneS len (g k) k rs os 0 ev:=fun h=>by
  unfold doS
  rw [if_pos h,Int.toNat_natCast]
 by_cases h7:(g k).o=7
 ·have eK:evK (g k).o=3:=by rw [h7];rfl
  have eP:evP (g k).o (g k).n=(g k).n:=by rw [h7];rfl
  have eV:evW (g k).o (g k).a rs=0:=by rw [h7];rfl
  have hc:=hN _ _ _ eK eP eV
  rw [canB_take] at hc
  have HN:Hid (evK (g k).o=3/\evP (g k).o (g k).n=(g k).n/\evW (g k).o (g k).a rs=0):=⟨eK,eP,eV⟩
  rcases zK (ek == 3) with t1 | t1
  case inr=>
   rw [t1] at hc
   rw [hc,hno hc]
   exact l2Do_take_no b off len cap k g ra oa rc oc rs os ek eq ev w hl hb hI h4 h60 h1 h2 hk hp _ _ HN (.inl (by simpa using t1))
  have t1':(ek != 3)=false:=by simpa using t1
  obtain rfl:ek=3:=by simpa using t1
  rcases zK (numB ev) with t2 | t2
  case inr=>
   rw [t2] at hc
   rw [hc,hno hc]
   exact l2Do_take_no b off len cap k g ra oa rc oc rs os 3 eq ev w hl hb hI h4 h60 h1 h2 hk hp _ _ HN (.inr (.inl ⟨t1',t2⟩))
  rcases take_from hins h7 with h9 | ⟨n0,n3⟩
  ·have t3:((g k).n != 9)=false:=by simp [h9]
   rw [t1,t2,h9,if_pos rfl] at hc
   have hb4:inB eq 0 3=belB eq 4:=inB_below eq 4
   rcases zK (belB eq 4) with t5 | t5
   ·rw [t5] at hc
    rw [hc,hyes hc]
    exact l2Do_take_any b off len cap k g ra oa rc oc rs os eq ev w hl hb hI h4 h60 h1 h2 hk hp _ _ HN h7 t2 t3 (hb4.trans t5)
   ·rw [t5] at hc
    rw [hc,hno hc]
    exact l2Do_take_no b off len cap k g ra oa rc oc rs os 3 eq ev w hl hb hI h4 h60 h1 h2 hk hp _ _ HN (.inr (.inr (.inr ⟨t1',t2,t3,hb4.trans t5⟩)))
  ·have t3:((g k).n != 9)=true:=by simp;omega
   rw [t1,t2,if_neg (by omega)] at hc
   rcases zK (eq == (g k).n) with t4 | t4
   ·have e4:eq=(g k).n:=by simpa using t4
    rw [t4] at hc
    rw [hc,hyes hc]
    exact l2Do_take_one b off len cap k g ra oa rc oc rs os eq ev w hl hb hI h4 h60 h1 h2 hk hp _ _ HN h7 t2 t3 (by simpa using t4) (by simp [inB];omega)
   ·rw [t4] at hc
    rw [hc,hno hc]
    exact l2Do_take_no b off len cap k g ra oa rc oc rs os 3 eq ev w hl hb hI h4 h60 h1 h2 hk hp _ _ HN (.inr (.inr (.inl ⟨t1',t2,t3,by simpa using t4⟩)))
 by_cases h6:(g k).o=6
 ·have eK:evK (g k).o=2:=by rw [h6];rfl
  have hc:=hN _ _ _ eK rfl rfl
  rw [canB_other (by decide) (by decide)] at hc
  have HN:Hid (evK (g k).o=2/\evP (g k).o (g k).n=evP (g k).o (g k).n/\evW (g k).o (g k).a rs=evW (g k).o (g k).a rs):=⟨eK,rfl,rfl⟩
  rcases zK (evEqB ek eq ev 2 (evP (g k).o (g k).n) (evW (g k).o (g k).a rs)) with t | t
  ·obtain ⟨rfl,rfl,rfl⟩:=evEqB_true t
   rw [t] at hc
   rw [hc,hyes hc]
   exact l2Do_send b off len cap k g ra oa rc oc rs os w hl hb hI h4 h60 h1 h2 hk hp _ _ HN h6
  ·rw [t] at hc
   rw [hc,hno hc]
   exact l2Do_no b off len cap k g ra oa rc oc rs os ek eq ev w hl hb hI h4 h60 h1 h2 hk hp 2 _ _ rfl HN t
 by_cases h8:(g k).o=8
 ·have eK:evK (g k).o=4:=by rw [h8];rfl
  have hc:=hN _ _ _ eK rfl rfl
  rw [canB_other (by decide) (by decide)] at hc
  have HN:Hid (evK (g k).o=4/\evP (g k).o (g k).n=evP (g k).o (g k).n/\evW (g k).o (g k).a rs=evW (g k).o (g k).a rs):=⟨eK,rfl,rfl⟩
  rcases zK (evEqB ek eq ev 4 (evP (g k).o (g k).n) (evW (g k).o (g k).a rs)) with t | t
  ·obtain ⟨rfl,rfl,rfl⟩:=evEqB_true t
   rw [t] at hc
   rw [hc,hyes hc]
   by_cases h:os.length=60
   ·exact l2Do_full b off len cap k g ra oa rc oc rs os w hl hb hI h4 h60 h1 h2 hk hp _ _ HN ⟨h8,h⟩ (by simp [h])
   ·exact l2Do_print b off len cap k g ra oa rc oc rs os w hl hb hI h4 h60 h1 h2 hk hp _ _ HN ⟨h8,h⟩ (by simp;omega)
  ·rw [t] at hc
   rw [hc,hno hc]
   exact l2Do_no b off len cap k g ra oa rc oc rs os ek eq ev w hl hb hI h4 h60 h1 h2 hk hp 4 _ _ rfl HN t
 have eK:evK (g k).o=1:=by unfold evK;rw [if_neg h6,if_neg h7,if_neg h8]
 have eV:evW (g k).o (g k).a rs=0:=by unfold evW;rw [if_neg h6,if_neg h8]
 have hc:=hN _ _ _ eK rfl eV
 rw [canB_other (by decide) (by decide)] at hc
 have HN:Hid (evK (g k).o=1/\evP (g k).o (g k).n=evP (g k).o (g k).n/\evW (g k).o (g k).a rs=0):=⟨eK,rfl,eV⟩
 rcases zK (evEqB ek eq ev 1 (evP (g k).o (g k).n) 0) with t | t
 ·obtain ⟨rfl,rfl,rfl⟩:=evEqB_true t
  rw [t] at hc
  rw [hc,hyes hc]
  exact l2Do_local b off len cap k g ra oa rc oc rs os w hl hb hI h4 h60 h1 h2 hk hp _ HN ⟨hnum,h6,h7,h8⟩
 ·rw [t] at hc
  rw [hc,hno hc]
  exact l2Do_no b off len cap k g ra oa rc oc rs os ek eq ev w hl hb hI h4 h60 h1 h2 hk hp 1 _ _ rfl HN t
open Go.Sort
def StepR (w:World) (B:Nat) (v0:Value) (os:List Int) (p' a' b' c' d':Int) (os':List Int) (code':Int) (e:Ending) (w':World):Prop:=
 ∃ oa' oc',e=.returned (dV p' a' b' c' d' oa' os'.length oc' code')/\OwnI w' B (.slice oa' os'.length oc') os'/\OwnI w' B v0 os/\w.grownBy w' v0.ownBlock/\∀ j,(Value.slice oa' os'.length oc').ownBlock=some j->v0.ownBlock=some j\/w.heap.size<=j
theorem grown_below {w w':World} {row:Option Nat} {B:Nat} (h:w.grownBy w' row) (hr:∀ j,row=some j->B<=j) (hB:B<=w.heap.size):Below B w w':=
 ⟨h.os,h.tape,h.output,h.size,fun k hk=>h.block k (by omega) (fun e=>by have:=hr k e.symm;omega)⟩
structure DC (w:World) (N:Nat) (p a b c d:Int) (o:Option Addr) (n m:Nat) (code:Int):Prop where
 d0:w.cell? ⟨N,0,none⟩=some (.int .i64 p)
 d1:w.cell? ⟨N,1,none⟩=some (.int .i64 a)
 d2:w.cell? ⟨N,2,none⟩=some (.int .i64 b)
 d3:w.cell? ⟨N,3,none⟩=some (.int .i64 c)
 d4:w.cell? ⟨N,4,none⟩=some (.int .i64 d)
 d5:w.cell? ⟨N,5,none⟩=some (.slice o n m)
 d6:w.cell? ⟨N,6,none⟩=some (.int .i64 code)
theorem DC.kept {w w':World} {N:Nat} {p a b c d:Int} {o:Option Addr} {n m:Nat} {code:Int} (h:DC w N p a b c d o n m code) (hb:w'.heap[N]? = w.heap[N]?):DC w' N p a b c d o n m code:=
 ⟨(zH hb).trans h.d0,(zH hb).trans h.d1,(zH hb).trans h.d2,(zH hb).trans h.d3,(zH hb).trans h.d4,(zH hb).trans h.d5,(zH hb).trans h.d6⟩
theorem DC.lt {w:World} {N:Nat} {p a b c d:Int} {o:Option Addr} {n m:Nat} {code:Int} (h:DC w N p a b c d o n m code):N<w.heap.size:=zJ w _ h.d0
theorem DC.new (w:World) (p a b c d:Int) (o:Option Addr) (n m:Nat) (code:Int) (t:TypeId):DC (w.alloc (.cells #[.int .i64 p,.int .i64 a,.int .i64 b,.int .i64 c,.int .i64 d,.slice o n m,.int .i64 code] t)) w.heap.size p a b c d o n m code:=
 ⟨zV _ _ _ 0 rfl,zV _ _ _ 1 rfl,zV _ _ _ 2 rfl,zV _ _ _ 3 rfl,zV _ _ _ 4 rfl,zV _ _ _ 5 rfl,zV _ _ _ 6 rfl⟩
theorem grown7 (w:World) (N:Nat) (v0 v1 v2 v3 v4 v5 v6:Value):w.grownBy (((((((w.setCell ⟨N,0,none⟩ v0).setCell ⟨N,1,none⟩ v1).setCell ⟨N,2,none⟩ v2).setCell ⟨N,3,none⟩ v3).setCell ⟨N,4,none⟩ v4).setCell ⟨N,5,none⟩ v5).setCell ⟨N,6,none⟩ v6) (some N):=by
 repeat (refine zU ?_ (.inl rfl) _)
 exact World.grownBy.refl _ _
theorem DC.put {w:World} {N:Nat} {p a b c d:Int} {o:Option Addr} {n m:Nat} {code:Int} (h:DC w N p a b c d o n m code) (p' a' b' c' d':Int) (o':Option Addr) (n' m':Nat) (code':Int):
  DC (((((((w.setCell ⟨N,0,none⟩ (.int .i64 p')).setCell ⟨N,1,none⟩ (.int .i64 a')).setCell ⟨N,2,none⟩ (.int .i64 b')).setCell ⟨N,3,none⟩ (.int .i64 c')).setCell ⟨N,4,none⟩ (.int .i64 d')).setCell ⟨N,5,none⟩ (.slice o' n' m')).setCell ⟨N,6,none⟩ (.int .i64 code')) N p' a' b' c' d' o' n' m' code':=by
 obtain ⟨d0,d1,d2,d3,d4,d5,d6⟩:=h
 exact ⟨by go_cell,by go_cell,by go_cell,by go_cell,by go_cell,by go_cell,by go_cell⟩
def AfterR (w:World) (N5 B:Nat) (k:Int) (ra oa:Option Addr) (rc oc:Nat) (a1 a2 a3 a4:Int) (os:List Int) (ek eq ev:Int) (o1:Option Addr) (c1:Nat) (p' b1 b2 b3 b4:Int) (os':List Int) (code':Int) (wx:World) (N:Nat):Prop:=
 DoBox wx w.heap.size (.int .i64 k) (.slice ra 4 rc) (.slice oa os.length oc) (.int .i64 0) ek eq ev/\DC wx N5 k a1 a2 a3 a4 o1 os.length c1 0/\(∃ o2 c2,DC wx N p' b1 b2 b3 b4 o2 os'.length c2 code'/\OwnI wx B (.slice o2 os'.length c2) os')/\OwnI wx B (.slice o1 os.length c1) os/\Below w.heap.size w wx
theorem AfterR.of_alloc {w:World} {N5 B:Nat} {k:Int} {ra oa:Option Addr} {rc oc:Nat} {a1 a2 a3 a4:Int} {os:List Int} {ek eq ev:Int} {o1:Option Addr} {c1:Nat} {p' b1 b2 b3 b4:Int} {os':List Int} {code':Int} {w8:World} {o2:Option Addr} {c2:Nat} (X8:DoBox w8 w.heap.size (.int .i64 k) (.slice ra 4 rc) (.slice oa os.length oc) (.int .i64 0) ek eq ev) (Y8:DC w8 N5 k a1 a2 a3 a4 o1 os.length c1 0) (N8:OwnI w8 B (.slice o2 os'.length c2) os') (M8:OwnI w8 B (.slice o1 os.length c1) os) (B8:Below w.heap.size w w8) (t:TypeId):
  AfterR w N5 B k ra oa rc oc a1 a2 a3 a4 os ek eq ev o1 c1 p' b1 b2 b3 b4 os' code' (w8.alloc (.cells #[.int .i64 p',.int .i64 b1,.int .i64 b2,.int .i64 b3,.int .i64 b4,.slice o2 os'.length c2,.int .i64 code'] t)) w8.heap.size:=by
 have ba:=zS w8 (.cells #[.int .i64 p',.int .i64 b1,.int .i64 b2,.int .i64 b3,.int .i64 b4,.slice o2 os'.length c2,.int .i64 code'] t)
 exact ⟨X8.below ba,Y8.kept (ba.block N5 Y8.lt),⟨o2,c2,DC.new w8 _ _ _ _ _ _ _ _ _ _,N8.below ba⟩,M8.below ba,B8.trans (ba.mono B8.size)⟩
theorem AfterR.of_put {w:World} {N5 B:Nat} {k:Int} {ra oa:Option Addr} {rc oc:Nat} {a1 a2 a3 a4:Int} {os:List Int} {ek eq ev:Int} {o1:Option Addr} {c1:Nat} {p' b1 b2 b3 b4:Int} {os':List Int} {code':Int} {w8:World} {o2:Option Addr} {c2 N:Nat} (X8:DoBox w8 w.heap.size (.int .i64 k) (.slice ra 4 rc) (.slice oa os.length oc) (.int .i64 0) ek eq ev) (Y8:DC w8 N5 k a1 a2 a3 a4 o1 os.length c1 0) (N8:OwnI w8 B (.slice o2 os'.length c2) os') (M8:OwnI w8 B (.slice o1 os.length c1) os) (B8:Below w.heap.size w w8)
  (hN:N5<N) (h5:w.heap.size+1+1<N5) (hZ:DC w8 N 0 0 0 0 0 none 0 0 0) (nM:∀ j,(Value.slice o1 os.length c1).ownBlock=some j->j≠N) (nN:∀ j,(Value.slice o2 os'.length c2).ownBlock=some j->j≠N):
  AfterR w N5 B k ra oa rc oc a1 a2 a3 a4 os ek eq ev o1 c1 p' b1 b2 b3 b4 os' code' (((((((w8.setCell ⟨N,0,none⟩ (.int .i64 p')).setCell ⟨N,1,none⟩ (.int .i64 b1)).setCell ⟨N,2,none⟩ (.int .i64 b2)).setCell ⟨N,3,none⟩ (.int .i64 b3)).setCell ⟨N,4,none⟩ (.int .i64 b4)).setCell ⟨N,5,none⟩ (.slice o2 os'.length c2)).setCell ⟨N,6,none⟩ (.int .i64 code')) N:=by
 have gz:=grown7 w8 N (.int .i64 p') (.int .i64 b1) (.int .i64 b2) (.int .i64 b3) (.int .i64 b4) (.slice o2 os'.length c2) (.int .i64 code')
 have l8:=Y8.lt
 refine ⟨?_,?_,⟨o2,c2,?_,?_⟩,?_,?_⟩
 ·exact X8.kept fun j h1 h2=>gz.block j (by omega) (by simp;omega)
 ·exact Y8.kept (gz.block N5 (by omega) (by simp;omega))
 ·exact hZ.put _ _ _ _ _ _ _ _ _
 ·repeat (refine OwnI.setOther ?_ (fun e=>nN _ e rfl) _)
  exact N8
 ·repeat (refine OwnI.setOther ?_ (fun e=>nM _ e rfl) _)
  exact M8
 ·exact B8.trans (grown_below gz (fun j hj=>by simp at hj;omega) B8.size)
def settledS (len:Nat) (p a b c d:Int) (os:List Int) (p' a' b' c' d':Int) (os':List Int) (code':Int):S4:=
 if regsB [a',b',c',d']=false\/(60:Int)<(os'.length:Int) then ⟨p,[a,b,c,d],os,2⟩ else if belB p' len=false then ⟨p,[a',b',c',d'],os',2⟩ else ⟨p',[a',b',c',d'],os',code'⟩
theorem doIn_no (b off len cap:Nat) (g:Nat->I5) (p code:Int) (ra oa:Option Addr) (rc oc:Nat) (rs os:List Int) (ek eq ev:Int) (w:World) (hlen:len<=maxLen) (hb:b<w.heap.size) (hI:InsAt w b off len g) (hr:rs.length<=1048576) (ho:os.length<=1048576) (h1:Sl w ra rs) (h2:Sl w oa os) (hD:canB (nxK g len p rs os code) (nxP g len p rs os code) (nxW g len p rs os code) ek eq ev=false) (hP:progOkB g len 4=true):
  Calls Tryz.prog 128 #[.slice (some ⟨b,off,none⟩) len cap,stV p ra rs.length rc oa os.length oc code,evV ek eq ev] w (DoneR w ⟨p,rs,os,code⟩ false):=by
 have HI:Hid (InsAt w b off len g):=hI
 have H1:Hid (Sl w ra rs):=h1
 have H2:Hid (Sl w oa os):=h2
 have HL:Hid (len<=maxLen):=hlen
 have HP:Hid (progOkB g len 4=true):=hP
 clear hI h1 h2 hlen hP
 go_enter Tryz.func128,Tryz.ntmps128
 go_wp2_with fail
 have X:=DoBox.new w (.int .i64 (p)) (.slice ra rs.length rc) (.slice oa os.length oc) (.int .i64 code) ek eq ev 73 46 73
 have BW:Hid (Below w.heap.size w (((w.alloc (oQ1 p ra rs.length rc oa os.length oc code)).alloc (oQ0 ek eq ev)).alloc (zQ0))):=by
  show Below _ _ _
  go_grown
 generalize (((w.alloc (oQ1 p ra rs.length rc oa os.length oc code)).alloc (oQ0 ek eq ev)).alloc (zQ0))=W at *
 have HX:Hid (DoBox W w.heap.size (.int .i64 (p)) (.slice ra rs.length rc) (.slice oa os.length oc) (.int .i64 code) ek eq ev):=X
 have l2:=X.lt
 obtain ⟨p0,p1,p2,p3,e0,e1,e2,r0,r1,r2,r3,rf⟩:=X
 have p0':=cell_regrown p0
 have p1':=cell_regrown p1
 have p2':=cell_regrown p2
 have p3':=cell_regrown p3
 have e0':=cell_regrown e0
 have e1':=cell_regrown e1
 have e2':=cell_regrown e2
 have HB':Hid (∀ d os',Below w.heap.size w (grow (redrawn W d) os')):=fun d os'=>BW.out.trans ((below_regrown W d os').mono BW.out.size)
 clear p0 p1 p2 p3 e0 e1 e2 r0 r1 r2 r3 rf
 refine wp_region_quiet_below (by kernel_rfl) (by kernel_rfl) ?_
 repeat (quiet_step (first|(go_at_call 136;exact Calls.regrown_of (nextIn_any b off len cap g (p) code ra oa rc oc rs os _ HL.out (zL hb (HB'.out _ _).size) (HI.out.below (HB'.out _ _) hb) ho (H1.out.below (HB'.out _ _)) (H2.out.below (HB'.out _ _)) HP.out))|(go_at_call 135;exact Calls.regrown_of (canCome_any _ _ _ _ _ _ _))))
 refine wpQuiet_nil ?_
 intro _ hw'
 obtain ⟨⟨dq,osq⟩,hw''⟩:=hw'
 subst hw''
 have b3:=below_regrown W dq osq
 have B3:Hid (Below w.heap.size w (grow (redrawn W dq) osq)):=BW.out.trans (b3.mono BW.out.size)
 have X:=HX.out.below b3
 have l3:=X.lt
 generalize grow (redrawn W dq) osq=w3 at *
 clear b3 p0' p1' p2' p3' e0' e1' e2' BW HB' l2 HX
 obtain ⟨p0,p1,p2,p3,e0,e1,e2,r0,r1,r2,r3,rf⟩:=X
 go_wp2_with fail
 refine (copyState_any p code ra oa rc oc rs os _ hr ho (H1.out.below B3.out) (H2.out.below B3.out)).mono ?_
 rintro e w4 ⟨v,rfl,o4,b4⟩
 obtain ⟨ra2,rc2,oa2,oc2,rfl,-,-⟩:=o4.read
 obtain ⟨hc4,hf4⟩:=bcell b4
 have O4:Hid (StOwn w4 w3.heap.size (stV p ra2 rs.length rc2 oa2 os.length oc2 code) p rs os code):=o4
 have B4:Hid (Below w.heap.size w w4):=B3.out.trans (b4.mono B3.out.size)
 clear o4 b4
 go_wp2
 refine bodyPost_ret (v:=.tuple #[stV p ra2 rs.length rc2 oa2 os.length oc2 code,.bool false]) (by simp [results,Tryz.results128,go_sem,hc4,l3,r0,r1,r2,r3]) rfl ⟨_,rfl,?_,?_⟩
 ·exact StOwn.put4 (B':=w3.heap.size) O4.out l3 (by omega)
 ·have:=B4.out
  go_grown
theorem settled_any (p a b c d:Int) (oa:Option Addr) (oc:Nat) (os:List Int) (code p' a' b' c' d':Int) (oa':Option Addr) (oc':Nat) (os':List Int) (code':Int) (n B:Nat) (w:World) (h1:OwnI w B (.slice oa os.length oc) os) (h2:OwnI w B (.slice oa' os'.length oc') os') (S:S4) (hS:settledS n p a b c d os p' a' b' c' d' os' code'=S):
  Calls Tryz.prog 140 #[dV p a b c d oa os.length oc code,dV p' a' b' c' d' oa' os'.length oc' code',.int .i64 n] w fun e w'=>∃ o3 c3 x1 x2 x3 x4,e=.returned (dV S.p x1 x2 x3 x4 o3 S.os.length c3 S.c)/\S.rs=[x1,x2,x3,x4]/\OwnI w' B (.slice o3 S.os.length c3) S.os/\Below w.heap.size w w':=by
 subst hS
 unfold settledS
 rcases zK (regsB [a',b',c',d']) with hr | hr
 ·by_cases hn:(60:Int)<(os'.length:Int)
  ·rw [if_pos (.inr hn)]
   refine (settled_full _ _ _ _ _ _ _ _ _ _ _ _ _ _ _ _ _ _ _ _ hr hn).mono ?_
   rintro e w1 ⟨rfl,b1⟩
   exact ⟨_,_,_,_,_,_,rfl,rfl,h1.below b1,b1⟩
  ·rw [if_neg (by simp [hr,hn])]
   rcases zK (belB p' n) with hp | hp
   ·rw [if_neg (by simp [hp])]
    refine (settled_ok _ _ _ _ _ _ _ _ _ _ _ _ _ _ _ _ _ _ _ _ hr hn hp).mono ?_
    rintro e w1 ⟨rfl,b1⟩
    exact ⟨_,_,_,_,_,_,rfl,rfl,h2.below b1,b1⟩
   ·rw [if_pos hp]
    refine (settled_out _ _ _ _ _ _ _ _ _ _ _ _ _ _ _ _ _ _ _ _ hr hn hp).mono ?_
    rintro e w1 ⟨rfl,b1⟩
    exact ⟨_,_,_,_,_,_,rfl,rfl,h2.below b1,b1⟩
 ·rw [if_pos (.inl hr)]
  refine (settled_regs _ _ _ _ _ _ _ _ _ _ _ _ _ _ _ _ _ _ _ _ hr).mono ?_
  rintro e w1 ⟨rfl,b1⟩
  exact ⟨_,_,_,_,_,_,rfl,rfl,h1.below b1,b1⟩
theorem doIn_step (b off len cap k:Nat) (g:Nat->I5) (ra oa:Option Addr) (rc oc:Nat) (a1 a2 a3 a4:Int) (os:List Int) (ek eq ev:Int) (w:World) (F:FuncId) (hE:∀ args wx,(callFunc F args).run Tryz.prog wx=.ok (.enter F args) wx) (p' b1 b2 b3 b4:Int) (os':List Int) (code':Int) (hlen:len<=maxLen) (hb:b<w.heap.size) (hI:InsAt w b off len g) (ho:os.length<=60) (h1:Sl w ra [a1,a2,a3,a4]) (h2:Sl w oa os) (hk:k<len) (hD:canB (nxK g len k [a1,a2,a3,a4] os 0) (nxP g len k [a1,a2,a3,a4] os 0) (nxW g len k [a1,a2,a3,a4] os 0) ek eq ev=true)
  (hF:∀ wx,Calls Tryz.prog 139 #[.int .i64 (g k).o] wx fun e w'=>e=.returned (.func (.func F) #[] #[])/\Below wx.heap.size wx w')
  (hS:∀ (o1:Option Addr) (c1 B:Nat) (wx:World),B<=wx.heap.size->OwnI wx B (.slice o1 os.length c1) os->Calls Tryz.prog F #[dV k a1 a2 a3 a4 o1 os.length c1 0,insV (g k).o (g k).r (g k).a (g k).b (g k).n,evV ek eq ev] wx (StepR wx B (.slice o1 os.length c1) os p' b1 b2 b3 b4 os' code')):
  Calls Tryz.prog 128 #[.slice (some ⟨b,off,none⟩) len cap,stV k ra 4 rc oa os.length oc 0,evV ek eq ev] w (DoneR w (settledS len k a1 a2 a3 a4 os p' b1 b2 b3 b4 os' code') true):=by
 have HI:Hid (InsAt w b off len g):=hI
 have H1:Hid (Sl w ra [a1,a2,a3,a4]):=h1
 have H2:Hid (Sl w oa os):=h2
 have HL:Hid (len<=maxLen):=hlen
 have HP:Hid (progOkB g len 4=true):=(right_parts (doB_right hD)).1
 have HF:Hid (∀ wx,Calls Tryz.prog 139 #[.int .i64 (g k).o] wx fun e w'=>e=.returned (.func (.func F) #[] #[])/\Below wx.heap.size wx w'):=hF
 have HS:Hid (∀ (o1:Option Addr) (c1 B:Nat) (wx:World),B<=wx.heap.size->OwnI wx B (.slice o1 os.length c1) os->Calls Tryz.prog F #[dV k a1 a2 a3 a4 o1 os.length c1 0,insV (g k).o (g k).r (g k).a (g k).b (g k).n,evV ek eq ev] wx (StepR wx B (.slice o1 os.length c1) os p' b1 b2 b3 b4 os' code')):=hS
 have ho':=ho
 replace ho:os.length<=1048576:=by omega
 have hk':(k:Int)<(len:Int):=by omega
 have hl':(len:Int)<=9223372036854775807:=by have:=HL.out;unfold maxLen at this;omega
 clear hI h1 h2 hlen hF hS
 generalize hT:settledS len k a1 a2 a3 a4 os p' b1 b2 b3 b4 os' code'=S
 have HT:Hid (settledS len k a1 a2 a3 a4 os p' b1 b2 b3 b4 os' code'=S):=hT
 clear hT
 go_enter Tryz.func128,Tryz.ntmps128
 go_wp2_with fail
 have X:=DoBox.new w (.int .i64 (k)) (.slice ra 4 rc) (.slice oa os.length oc) (.int .i64 0) ek eq ev 73 46 73
 have BW:Hid (Below w.heap.size w (((w.alloc (oQ1 k ra 4 rc oa os.length oc 0)).alloc (oQ0 ek eq ev)).alloc (zQ0))):=by
  show Below _ _ _
  go_grown
 generalize (((w.alloc (oQ1 k ra 4 rc oa os.length oc 0)).alloc (oQ0 ek eq ev)).alloc (zQ0))=W at *
 have HX:Hid (DoBox W w.heap.size (.int .i64 (k)) (.slice ra 4 rc) (.slice oa os.length oc) (.int .i64 0) ek eq ev):=X
 have l2:=X.lt
 obtain ⟨p0,p1,p2,p3,e0,e1,e2,r0,r1,r2,r3,rf⟩:=X
 have p0':=cell_regrown p0
 have p1':=cell_regrown p1
 have p2':=cell_regrown p2
 have p3':=cell_regrown p3
 have e0':=cell_regrown e0
 have e1':=cell_regrown e1
 have e2':=cell_regrown e2
 have HB':Hid (∀ d os',Below w.heap.size w (grow (redrawn W d) os')):=fun d os'=>BW.out.trans ((below_regrown W d os').mono BW.out.size)
 clear p0 p1 p2 p3 e0 e1 e2 r0 r1 r2 r3 rf
 refine wp_region_quiet_below (by kernel_rfl) (by kernel_rfl) ?_
 repeat (quiet_step (first|(go_at_call 136;exact Calls.regrown_of (nextIn_any b off len cap g (k) 0 ra oa rc oc [a1,a2,a3,a4] os _ HL.out (zL hb (HB'.out _ _).size) (HI.out.below (HB'.out _ _) hb) ho (H1.out.below (HB'.out _ _)) (H2.out.below (HB'.out _ _)) HP.out))|(go_at_call 135;exact Calls.regrown_of (canCome_any _ _ _ _ _ _ _))))
 refine wpQuiet_nil ?_
 intro _ hw'
 obtain ⟨⟨dq,osq⟩,hw''⟩:=hw'
 subst hw''
 have b3:=below_regrown W dq osq
 have B3:Hid (Below w.heap.size w (grow (redrawn W dq) osq)):=BW.out.trans (b3.mono BW.out.size)
 have X:=HX.out.below b3
 have l3:=X.lt
 generalize grow (redrawn W dq) osq=w3 at *
 clear b3 p0' p1' p2' p3' e0' e1' e2' BW HB' l2 HX
 obtain ⟨p0,p1,p2,p3,e0,e1,e2,r0,r1,r2,r3,rf⟩:=X
 clear hD
 obtain ⟨c0,c1,c2,c3,c4⟩:=HI.out.below B3.out hb k hk
 have X3:DoBox w3 w.heap.size (.int .i64 k) (.slice ra 4 rc) (.slice oa os.length oc) (.int .i64 0) ek eq ev:=⟨p0,p1,p2,p3,e0,e1,e2,r0,r1,r2,r3,rf⟩
 have bX:=zS w3 (oQ2 (g k).o (g k).r (g k).a (g k).b (g k).n)
 have X4:Hid (DoBox (w3.alloc (oQ2 (g k).o (g k).r (g k).a (g k).b (g k).n)) w.heap.size (.int .i64 k) (.slice ra 4 rc) (.slice oa os.length oc) (.int .i64 0) ek eq ev):=X3.below bX
 have B4:Hid (Below w.heap.size w (w3.alloc (oQ2 (g k).o (g k).r (g k).a (g k).b (g k).n))):=B3.out.trans (bX.mono B3.out.size)
 obtain ⟨q0,q1,q2,q3,-,-,-,-,-,-,-,-⟩:=X4.out
 clear X3 bX
 go_wp2_with fail
 have i0:(w3.alloc (oQ2 (g k).o (g k).r (g k).a (g k).b (g k).n)).cell? ⟨w3.heap.size,0,none⟩=some (.int .i64 (g k).o):=zV _ _ _ 0 rfl
 have i1:(w3.alloc (oQ2 (g k).o (g k).r (g k).a (g k).b (g k).n)).cell? ⟨w3.heap.size,1,none⟩=some (.int .i64 (g k).r):=zV _ _ _ 1 rfl
 have i2:(w3.alloc (oQ2 (g k).o (g k).r (g k).a (g k).b (g k).n)).cell? ⟨w3.heap.size,2,none⟩=some (.int .i64 (g k).a):=zV _ _ _ 2 rfl
 have i3:(w3.alloc (oQ2 (g k).o (g k).r (g k).a (g k).b (g k).n)).cell? ⟨w3.heap.size,3,none⟩=some (.int .i64 (g k).b):=zV _ _ _ 3 rfl
 have i4:(w3.alloc (oQ2 (g k).o (g k).r (g k).a (g k).b (g k).n)).cell? ⟨w3.heap.size,4,none⟩=some (.int .i64 (g k).n):=zV _ _ _ 4 rfl
 have zX:w3.heap.size<(w3.alloc (oQ2 (g k).o (g k).r (g k).a (g k).b (g k).n)).heap.size:=by simp
 clear p0 p1 p2 p3 e0 e1 e2 r0 r1 r2 r3 rf c0 c1 c2 c3 c4 q0 q1 q2 q3
 generalize w3.alloc (oQ2 (g k).o (g k).r (g k).a (g k).b (g k).n)=W4 at *
 generalize w3.heap.size=N3 at *
 refine (doingOf_any (k:Int) 0 ra oa rc oc a1 a2 a3 a4 os _ ho (H1.out.below B4.out) (H2.out.below B4.out)).mono ?_
 rintro e w5 ⟨o1,c1,rfl,o5,b5⟩
 have X5:Hid (DoBox w5 w.heap.size (.int .i64 k) (.slice ra 4 rc) (.slice oa os.length oc) (.int .i64 0) ek eq ev):=X4.out.below b5
 have B5:Hid (Below w.heap.size w w5):=B4.out.trans (b5.mono B4.out.size)
 have O5:Hid (OwnI w5 W4.heap.size (.slice o1 os.length c1) os):=o5
 obtain ⟨hc5,-⟩:=bcell b5
 replace i0:=(hc5 _ 0 zX).trans i0
 replace i1:=(hc5 _ 1 zX).trans i1
 replace i2:=(hc5 _ 2 zX).trans i2
 replace i3:=(hc5 _ 3 zX).trans i3
 replace i4:=(hc5 _ 4 zX).trans i4
 have z5:W4.heap.size<=w5.heap.size:=b5.size
 clear hc5 b5 o5 X4 B4 B3
 go_wp2_with fail
 have bY:=zS w5 (oQ3 k a1 a2 a3 a4 o1 os.length c1 0)
 have X6:Hid (DoBox (w5.alloc (oQ3 k a1 a2 a3 a4 o1 os.length c1 0)) w.heap.size (.int .i64 k) (.slice ra 4 rc) (.slice oa os.length oc) (.int .i64 0) ek eq ev):=X5.out.below bY
 have Y6:Hid (DC (w5.alloc (oQ3 k a1 a2 a3 a4 o1 os.length c1 0)) w5.heap.size k a1 a2 a3 a4 o1 os.length c1 0):=DC.new w5 _ _ _ _ _ _ _ _ _ _
 have B6:Hid (Below w.heap.size w (w5.alloc (oQ3 k a1 a2 a3 a4 o1 os.length c1 0))):=B5.out.trans (bY.mono B5.out.size)
 have O6:Hid (OwnI (w5.alloc (oQ3 k a1 a2 a3 a4 o1 os.length c1 0)) W4.heap.size (.slice o1 os.length c1) os):=O5.out.below bY
 have LO:Hid (∀ j,(Value.slice o1 os.length c1).ownBlock=some j->W4.heap.size<=j/\j<w5.heap.size):=fun j hj=>O5.out.lt j hj
 have l5:N3<w5.heap.size:=by omega
 obtain ⟨hcY,-⟩:=bcell bY
 replace i0:=(hcY _ 0 l5).trans i0
 replace i1:=(hcY _ 1 l5).trans i1
 replace i2:=(hcY _ 2 l5).trans i2
 replace i3:=(hcY _ 3 l5).trans i3
 replace i4:=(hcY _ 4 l5).trans i4
 have z6:w5.heap.size<(w5.alloc (oQ3 k a1 a2 a3 a4 o1 os.length c1 0)).heap.size:=by simp
 clear X5 B5 O5 bY hcY
 generalize w5.alloc (oQ3 k a1 a2 a3 a4 o1 os.length c1 0)=W6 at *
 generalize w5.heap.size=N5 at *
 obtain ⟨j0,j1,j2,j3,j4,j5,j6⟩:=Y6.out
 obtain ⟨-,-,-,-,e0,e1,e2,-,-,-,-,-⟩:=X6.out
 have g1:N3<W6.heap.size:=by omega
 have g2:w.heap.size+1<W6.heap.size:=by omega
 have d61:W6.heap.size≠N3:=by omega
 have d62:W6.heap.size≠N5:=by omega
 have d63:W6.heap.size≠w.heap.size+1:=by omega
 have z6':N5<=W6.heap.size:=Nat.le_of_lt z6
 go_cut [10] from 26 to 32 (fun s wx=>∃ N:Nat,s=.pointer (some ⟨N,0,none⟩)/\Hid (AfterR w N5 W4.heap.size k ra oa rc oc a1 a2 a3 a4 os ek eq ev o1 c1 p' b1 b2 b3 b4 os' code' wx N))
 case first=>
  go_region_held3 (fun w'=>w'.cell? ⟨N3,0,none⟩=some (.int .i64 (g k).o)/\w'.cell? ⟨N3,1,none⟩=some (.int .i64 (g k).r)/\w'.cell? ⟨N3,2,none⟩=some (.int .i64 (g k).a)/\w'.cell? ⟨N3,3,none⟩=some (.int .i64 (g k).b)/\w'.cell? ⟨N3,4,none⟩=some (.int .i64 (g k).n)/\w'.cell? ⟨N5,0,none⟩=some (.int .i64 k)/\w'.cell? ⟨N5,1,none⟩=some (.int .i64 a1)/\w'.cell? ⟨N5,2,none⟩=some (.int .i64 a2)/\w'.cell? ⟨N5,3,none⟩=some (.int .i64 a3)/\w'.cell? ⟨N5,4,none⟩=some (.int .i64 a4)/\w'.cell? ⟨N5,5,none⟩=some (.slice o1 os.length c1)/\w'.cell? ⟨N5,6,none⟩=some (.int .i64 0)/\w'.cell? ⟨w.heap.size+1,0,none⟩=some (.int .i64 ek)/\w'.cell? ⟨w.heap.size+1,1,none⟩=some (.int .i64 eq)/\w'.cell? ⟨w.heap.size+1,2,none⟩=some (.int .i64 ev)) (go_keep)
   (first
    | (go_at_call 139;refine (HF.out _).mono ?_;rintro e w7 ⟨rfl,b7⟩;have q7:Below W6.heap.size W6 w7:=below_up (by go_grown) b7 (by simp);obtain ⟨hc7,hf7⟩:=bcell b7;obtain ⟨hq7,-⟩:=bcell q7;have t0:=(hq7 (N3) 0 g1).trans i0;have t1:=(hq7 (N3) 1 g1).trans i1;have t2:=(hq7 (N3) 2 g1).trans i2;have t3:=(hq7 (N3) 3 g1).trans i3;have t4:=(hq7 (N3) 4 g1).trans i4;have t5:=(hq7 (N5) 0 z6).trans j0;have t6:=(hq7 (N5) 1 z6).trans j1;have t7:=(hq7 (N5) 2 z6).trans j2;have t8:=(hq7 (N5) 3 z6).trans j3;have t9:=(hq7 (N5) 4 z6).trans j4;have t10:=(hq7 (N5) 5 z6).trans j5;have t11:=(hq7 (N5) 6 z6).trans j6;have t12:=(hq7 (w.heap.size+1) 0 g2).trans e0;have t13:=(hq7 (w.heap.size+1) 1 g2).trans e1;have t14:=(hq7 (w.heap.size+1) 2 g2).trans e2;clear hq7;have Q7:Hid (Below W6.heap.size W6 w7):=q7;have l71:N3<w7.heap.size:=zL g1 q7.size;have l72:N5<w7.heap.size:=zL z6 q7.size;have l73:w.heap.size+1<w7.heap.size:=zL g2 q7.size;have l75:N5<=w7.heap.size:=Nat.le_of_lt l72;have l74:=b7.size;(try simp only [World.size_alloc,World.size_drew,Nat.add_one_le_iff] at l74);have d71:w7.heap.size≠N3:=Nat.ne_of_gt l71;have d72:w7.heap.size≠N5:=Nat.ne_of_gt l72;have d73:w7.heap.size≠w.heap.size+1:=Nat.ne_of_gt l73;have O7:Hid (OwnI w7 W4.heap.size (.slice o1 os.length c1) os):=O6.out.below q7;clear b7 q7)
    | (refine (HS.out o1 c1 W4.heap.size _ (by have:=Q7.out.size;simp;omega) (O7.out.below (by go_grown))).mono ?_;rintro e w8 ⟨o2,c2,rfl,n8,m8,g8,a8⟩;(try simp only [World.size_alloc] at a8);have A8:Hid (_):=a8;have ne8:∀ j,(j<W4.heap.size\/N5<=j)->some j≠(Value.slice o1 os.length c1).ownBlock:=(fun j hj h=>by have:=LO.out j h.symm;omega);have q8:=(grown_any (zY (show Below w7.heap.size w7 _ by go_grown)) (Value.slice o1 os.length c1).ownBlock).trans g8;have v3:=gcell q8 (b:=N3) l71 (ne8 _ (.inl zX));have v5:=gcell q8 (b:=N5) l72 (ne8 _ (.inr (Nat.le_refl _)));have v1:=gcell q8 (b:=w.heap.size+1) l73 (ne8 _ (.inl (by omega)));have s0:=(v3.1 0).trans t0;have s1:=(v3.1 1).trans t1;have s2:=(v3.1 2).trans t2;have s3:=(v3.1 3).trans t3;have s4:=(v3.1 4).trans t4;have s5:=(v5.1 0).trans t5;have s6:=(v5.1 1).trans t6;have s7:=(v5.1 2).trans t7;have s8:=(v5.1 3).trans t8;have s9:=(v5.1 4).trans t9;have s10:=(v5.1 5).trans t10;have s11:=(v5.1 6).trans t11;have s12:=(v1.1 0).trans t12;have s13:=(v1.1 1).trans t13;have s14:=(v1.1 2).trans t14;have hc8:=fun b o hb hn=>(gcell g8 (b:=b) hb (ne8 _ (.inr hn))).1 o;have hf8:=fun b o hb hn=>(gcell g8 (b:=b) hb (ne8 _ (.inr hn))).2 o;have N8:Hid (OwnI w8 W4.heap.size (.slice o2 os'.length c2) os'):=n8;have M8:Hid (OwnI w8 W4.heap.size (.slice o1 os.length c1) os):=m8;have G8:Hid (w7.grownBy w8 (Value.slice o1 os.length c1).ownBlock):=q8;clear n8 m8 g8 q8 a8 v3 v5 v1 ne8))
  all_goals
   go_wp2_with fail
   go_meet
   case rel=>
    have K8:∀ j,j<W6.heap.size->(j<W4.heap.size\/N5<=j)->w8.heap[j]? = W6.heap[j]?:=fun j h1 h2=>(G8.out.block j (by have:=Q7.out.size;omega) (fun h=>by have:=LO.out j h.symm;omega)).trans (Q7.out.block j h1)
    have X8:=X6.out.kept (w':=w8) fun j h1 h2=>K8 j (by omega) (.inl (by omega))
    have Y8:=Y6.out.kept (w':=w8) (K8 N5 z6 (.inr (Nat.le_refl _)))
    have B8:Below w.heap.size w w8:=(B6.out.trans (Q7.out.mono B6.out.size)).trans (grown_below G8.out (fun j hj=>by have:=LO.out j hj;omega) (by have:=(B6.out.trans (Q7.out.mono B6.out.size)).size;omega))
    have zz8:w7.heap.size<=w8.heap.size:=G8.out.size
    first
    | (refine ⟨w8.heap.size, by with_reducible rfl, ?_⟩
       exact AfterR.of_alloc X8 Y8 N8.out M8.out B8 _)
    | (refine ⟨w7.heap.size, by with_reducible rfl, ?_⟩
       have nM:∀ j,(Value.slice o1 os.length c1).ownBlock=some j->j≠w7.heap.size:=fun j hj=>by have:=LO.out j hj;omega
       exact AfterR.of_put X8 Y8 N8.out M8.out B8 (by omega) (by omega) ⟨by rw [hc8 _ _ (by simp) l75]; simp, by rw [hc8 _ _ (by simp) l75]; simp, by rw [hc8 _ _ (by simp) l75]; simp, by rw [hc8 _ _ (by simp) l75]; simp, by rw [hc8 _ _ (by simp) l75]; simp, by rw [hc8 _ _ (by simp) l75]; simp, by rw [hc8 _ _ (by simp) l75]; simp⟩ nM (fun j hj => by
       rcases A8.out j hj with h | h
       ·exact nM j h
       ·omega))
    | (refine ⟨W6.heap.size, by with_reducible rfl, ?_⟩
       have nM:∀ j,(Value.slice o1 os.length c1).ownBlock=some j->j≠W6.heap.size:=fun j hj=>by have:=LO.out j hj;omega
       exact AfterR.of_put X8 Y8 N8.out M8.out B8 (by omega) (by omega) ⟨by rw [hc8 _ _ (by simpa using l74) z6', hc7 _ _ (by simp)]; simp, by rw [hc8 _ _ (by simpa using l74) z6', hc7 _ _ (by simp)]; simp, by rw [hc8 _ _ (by simpa using l74) z6', hc7 _ _ (by simp)]; simp, by rw [hc8 _ _ (by simpa using l74) z6', hc7 _ _ (by simp)]; simp, by rw [hc8 _ _ (by simpa using l74) z6', hc7 _ _ (by simp)]; simp, by rw [hc8 _ _ (by simpa using l74) z6', hc7 _ _ (by simp)]; simp, by rw [hc8 _ _ (by simpa using l74) z6', hc7 _ _ (by simp)]; simp⟩ nM (fun j hj => by
       rcases A8.out j hj with h | h
       ·exact nM j h
       ·omega))
 case rest=>
  obtain ⟨N,rfl,HA⟩:=hcut
  obtain ⟨XC,YC,⟨o2,c2,ZC,NC⟩,MC,BC⟩:=HA.out
  have HXC:Hid (DoBox wc w.heap.size (.int .i64 k) (.slice ra 4 rc) (.slice oa os.length oc) (.int .i64 0) ek eq ev):=XC
  have HNC:Hid (OwnI wc W4.heap.size (.slice o2 os'.length c2) os'):=NC
  have HMC:Hid (OwnI wc W4.heap.size (.slice o1 os.length c1) os):=MC
  have HBC:Hid (Below w.heap.size w wc):=BC
  have zC:W4.heap.size<=wc.heap.size:=by have:=YC.lt;omega
  clear HA XC NC MC BC i0 i1 i2 i3 i4 j0 j1 j2 j3 j4 j5 j6 e0 e1 e2 X6 Y6 B6 O6
  obtain ⟨j0,j1,j2,j3,j4,j5,j6⟩:=YC
  obtain ⟨i0,i1,i2,i3,i4,i5,i6⟩:=ZC
  go_wp2_with fail
  refine (settled_any (k:Int) a1 a2 a3 a4 o1 c1 os 0 p' b1 b2 b3 b4 o2 c2 os' code' len W4.heap.size wc HMC.out HNC.out S HT.out).mono ?_
  rintro e w9 ⟨o3,c3,x1,x2,x3,x4,rfl,hrs,o9,b9⟩
  have X9:Hid (DoBox w9 w.heap.size (.int .i64 k) (.slice ra 4 rc) (.slice oa os.length oc) (.int .i64 0) ek eq ev):=HXC.out.below b9
  have B9:Hid (Below w.heap.size w w9):=HBC.out.trans (b9.mono HBC.out.size)
  have O9:Hid (OwnI w9 W4.heap.size (.slice o3 S.os.length c3) S.os):=o9
  have z9:W4.heap.size<=w9.heap.size:=zO zC b9.size
  have HRS:Hid (S.rs=[x1,x2,x3,x4]):=hrs
  clear o9 b9 hrs j0 j1 j2 j3 j4 j5 j6 i0 i1 i2 i3 i4 i5 i6 HXC HNC HMC HBC
  go_wp2_with fail
  refine (state_any S.p x1 x2 x3 x4 o3 c3 S.os S.c W4.heap.size w9 z9 O9.out).mono ?_
  rintro e w10 ⟨v,rfl,o10,b10⟩
  rw [<- HRS.out] at o10
  have B10:Hid (Below w.heap.size w w10):=B9.out.trans (b10.mono B9.out.size)
  obtain ⟨-,-,-,-,-,-,-,r0,r1,r2,r3,rf⟩:=X9.out.below b10
  obtain ⟨ra2,rc2,oa2,oc2,rfl,-,-⟩:=o10.read
  have O10:Hid (StOwn w10 W4.heap.size (stV S.p ra2 S.rs.length rc2 oa2 S.os.length oc2 S.c) S.p S.rs S.os S.c):=o10
  clear o10 b10
  go_wp2
  refine bodyPost_ret (v:=.tuple #[stV S.p ra2 S.rs.length rc2 oa2 S.os.length oc2 S.c,.bool true]) (by simp [results,Tryz.results128,go_sem,r0,r1,r2,r3]) rfl ⟨_,rfl,?_,?_⟩
  ·exact StOwn.put4 (B':=W4.heap.size) O10.out (by omega) (by omega)
  ·have:=B10.out
   go_grown
theorem zZ {f : FuncId} {fn : Func} {c : Code} (hf : Tryz.prog.funcs[f]? = some fn) (hname : (fn.name == "runtime.NumGoroutine") = false) (hb : fn.body = some c) (args : Array Value) (w : World) :
  (callFunc f args).run Tryz.prog w=.ok (.enter f args) w:=by
 have h1 : fn.name ≠ "runtime.NumGoroutine" := by simpa using hname
 simp [callFunc,hf,h1,hb]
theorem stepR_below {w w':World} {B:Nat} {o1:Option Addr} {c1:Nat} {os:List Int} {p' b1 b2 b3 b4 code':Int} (hO:OwnI w B (.slice o1 os.length c1) os) (hb:Below w.heap.size w w'):
  StepR w B (.slice o1 os.length c1) os p' b1 b2 b3 b4 os code' (.returned (dV p' b1 b2 b3 b4 o1 os.length c1 code')) w':=
 ⟨o1,c1,rfl,hO.below hb,hO.below hb,grown_any (zY hb) _,fun _ h=>.inl h⟩
theorem settled_set {len k:Nat} {a1 a2 a3 a4:Int} {os:List Int} {jr:Nat} {v:Int} (hn:numB a1=true/\numB a2=true/\numB a3=true/\numB a4=true) (h60:os.length<=60) (hj:jr<4):
  settledS len k a1 a2 a3 a4 os (k+1) (set4 a1 a2 a3 a4 jr v).1 (set4 a1 a2 a3 a4 jr v).2.1 (set4 a1 a2 a3 a4 jr v).2.2.1 (set4 a1 a2 a3 a4 jr v).2.2.2 os 0=if numB v=true then goS len k ([a1,a2,a3,a4].set jr v) os 0 else ⟨k,[a1,a2,a3,a4],os,2⟩:=by
 obtain ⟨n1,n2,n3,n4⟩:=hn
 have h1:regsB ([a1,a2,a3,a4].set jr v)=numB v:=by
  match jr,hj with
  | 0,_=>simp [regsB,allN,n2,n3,n4]
  | 1,_=>simp [regsB,allN,n1,n3,n4]
  | 2,_=>simp [regsB,allN,n1,n2,n4]
  | 3,_=>simp [regsB,allN,n1,n2,n3]
 have h2:¬ (60:Int)<(os.length:Int):=by omega
 unfold settledS
 rw [set4_list _ _ _ _ _ _ hj,h1]
 cases hv:numB v
 ·simp
 ·by_cases h3:(len:Int)<=(k:Int)+1
  ·have h4:belB ((k:Int)+1) len=false:=by simp [belB];omega
   simp [h2,h4,goS,goP,goC,h3]
  ·have h4:belB ((k:Int)+1) len=true:=by simp [belB];omega
   simp [h2,h4,goS,goP,goC,h3]
theorem settled_same {len k:Nat} {a1 a2 a3 a4:Int} {os os':List Int} (hn:numB a1=true/\numB a2=true/\numB a3=true/\numB a4=true) (h60:os'.length<=60):
  settledS len k a1 a2 a3 a4 os (k+1) a1 a2 a3 a4 os' 0=goS len k [a1,a2,a3,a4] os' 0:=by
 obtain ⟨n1,n2,n3,n4⟩:=hn
 have h1:regsB [a1,a2,a3,a4]=true:=by simp [regsB,allN,n1,n2,n3,n4]
 have h2:¬ (60:Int)<(os'.length:Int):=by omega
 unfold settledS
 rw [h1]
 by_cases h3:(len:Int)<=(k:Int)+1
 ·have h4:belB ((k:Int)+1) len=false:=by simp [belB];omega
  simp [h2,h4,goS,goP,goC,h3]
 ·have h4:belB ((k:Int)+1) len=true:=by simp [belB];omega
  simp [h2,h4,goS,goP,goC,h3]
theorem settled_over {len k:Nat} {a1 a2 a3 a4 p' b1 b2 b3 b4 code':Int} {os os':List Int} (h60:60<os'.length):
  settledS len k a1 a2 a3 a4 os p' b1 b2 b3 b4 os' code'=⟨k,[a1,a2,a3,a4],os,2⟩:=by
 unfold settledS
 rw [if_pos (.inr (by omega))]
theorem settled_to {len k:Nat} {a1 a2 a3 a4 n code':Int} {os:List Int} (hn:numB a1=true/\numB a2=true/\numB a3=true/\numB a4=true) (h60:os.length<=60) (hb:belB n len=true):
  settledS len k a1 a2 a3 a4 os n a1 a2 a3 a4 os code'=⟨n,[a1,a2,a3,a4],os,code'⟩:=by
 obtain ⟨n1,n2,n3,n4⟩:=hn
 have h1:regsB [a1,a2,a3,a4]=true:=by simp [regsB,allN,n1,n2,n3,n4]
 have h2:¬ (60:Int)<(os.length:Int):=by omega
 unfold settledS
 rw [h1,hb]
 simp [h2]
theorem do_set (b off len cap k:Nat) (g:Nat->I5) (ra oa:Option Addr) (rc oc:Nat) (a1 a2 a3 a4:Int) (os:List Int) (ek eq ev:Int) (w:World) (jr ja jb:Nat) (hj:(g k).r=jr/\(g k).a=ja/\(g k).b=jb) (j4:jr<4/\ja<4/\jb<4) (hn:numB a1=true/\numB a2=true/\numB a3=true/\numB a4=true) (_hz:∀ j,j<4->numB (zi [a1,a2,a3,a4] j)=true) (hl:(len:Int)<=30) (hb:b<w.heap.size) (hI:InsAt w b off len g) (h60:os.length<=60) (h1:Sl w ra [a1,a2,a3,a4]) (h2:Sl w oa os) (hk:k<len) (hD:canB (nxK g len k [a1,a2,a3,a4] os 0) (nxP g len k [a1,a2,a3,a4] os 0) (nxW g len k [a1,a2,a3,a4] os 0) ek eq ev=true) (ho:(g k).o=1):
  Calls Tryz.prog 128 #[.slice (some ⟨b,off,none⟩) len cap,stV k ra 4 rc oa os.length oc 0,evV ek eq ev] w (DoneR w (doneS len (g k) k [a1,a2,a3,a4] os 0 ev) true):=by
 obtain ⟨hjr,hja,hjb⟩:=hj
 obtain ⟨j1,j2,j3⟩:=j4
 have e:settledS len k a1 a2 a3 a4 os (k+1) (set4 a1 a2 a3 a4 jr ((g k).n)).1 (set4 a1 a2 a3 a4 jr ((g k).n)).2.1 (set4 a1 a2 a3 a4 jr ((g k).n)).2.2.1 (set4 a1 a2 a3 a4 jr ((g k).n)).2.2.2 os 0=doneS len (g k) k [a1,a2,a3,a4] os 0 ev:=by
  rw [settled_set hn h60 j1]
  simp [doneS,ho,calcN,hjr]
 rw [<- e]
 refine doIn_step b off len cap k g ra oa rc oc a1 a2 a3 a4 os ek eq ev w 147 (zZ Tryz.func147 (by kernel_rfl) rfl) (k+1) (set4 a1 a2 a3 a4 jr ((g k).n)).1 (set4 a1 a2 a3 a4 jr ((g k).n)).2.1 (set4 a1 a2 a3 a4 jr ((g k).n)).2.2.1 (set4 a1 a2 a3 a4 jr ((g k).n)).2.2.2 os 0 (by unfold maxLen;omega) hb hI h60 h1 h2 hk hD (by rw [ho];exact stepOf_1) (fun o1 c1 B wx hB hO=>?_)
 rw [hjr,hja,hjb]
 refine (step_set _ _ _ _ _ _ _ _ _ jr ja jb _ _ _ _ _ _ (by omega) (by omega) j1).mono ?_
 rintro e w' ⟨rfl,b⟩
 exact stepR_below hO b
theorem do_add (b off len cap k:Nat) (g:Nat->I5) (ra oa:Option Addr) (rc oc:Nat) (a1 a2 a3 a4:Int) (os:List Int) (ek eq ev:Int) (w:World) (jr ja jb:Nat) (hj:(g k).r=jr/\(g k).a=ja/\(g k).b=jb) (j4:jr<4/\ja<4/\jb<4) (hn:numB a1=true/\numB a2=true/\numB a3=true/\numB a4=true) (_hz:∀ j,j<4->numB (zi [a1,a2,a3,a4] j)=true) (hl:(len:Int)<=30) (hb:b<w.heap.size) (hI:InsAt w b off len g) (h60:os.length<=60) (h1:Sl w ra [a1,a2,a3,a4]) (h2:Sl w oa os) (hk:k<len) (hD:canB (nxK g len k [a1,a2,a3,a4] os 0) (nxP g len k [a1,a2,a3,a4] os 0) (nxW g len k [a1,a2,a3,a4] os 0) ek eq ev=true) (ho:(g k).o=2):
  Calls Tryz.prog 128 #[.slice (some ⟨b,off,none⟩) len cap,stV k ra 4 rc oa os.length oc 0,evV ek eq ev] w (DoneR w (doneS len (g k) k [a1,a2,a3,a4] os 0 ev) true):=by
 obtain ⟨hjr,hja,hjb⟩:=hj
 obtain ⟨j1,j2,j3⟩:=j4
 have zA:=numB_iff.mp (_hz ja j2)
 have zB:=numB_iff.mp (_hz jb j3)
 have zM:=mul_bound (_hz ja j2) (_hz jb j3)
 have e:settledS len k a1 a2 a3 a4 os (k+1) (set4 a1 a2 a3 a4 jr (zi [a1,a2,a3,a4] ja+zi [a1,a2,a3,a4] jb)).1 (set4 a1 a2 a3 a4 jr (zi [a1,a2,a3,a4] ja+zi [a1,a2,a3,a4] jb)).2.1 (set4 a1 a2 a3 a4 jr (zi [a1,a2,a3,a4] ja+zi [a1,a2,a3,a4] jb)).2.2.1 (set4 a1 a2 a3 a4 jr (zi [a1,a2,a3,a4] ja+zi [a1,a2,a3,a4] jb)).2.2.2 os 0=doneS len (g k) k [a1,a2,a3,a4] os 0 ev:=by
  rw [settled_set hn h60 j1]
  simp [doneS,ho,calcN,hjr,hja,hjb]
 rw [<- e]
 refine doIn_step b off len cap k g ra oa rc oc a1 a2 a3 a4 os ek eq ev w 148 (zZ Tryz.func148 (by kernel_rfl) rfl) (k+1) (set4 a1 a2 a3 a4 jr (zi [a1,a2,a3,a4] ja+zi [a1,a2,a3,a4] jb)).1 (set4 a1 a2 a3 a4 jr (zi [a1,a2,a3,a4] ja+zi [a1,a2,a3,a4] jb)).2.1 (set4 a1 a2 a3 a4 jr (zi [a1,a2,a3,a4] ja+zi [a1,a2,a3,a4] jb)).2.2.1 (set4 a1 a2 a3 a4 jr (zi [a1,a2,a3,a4] ja+zi [a1,a2,a3,a4] jb)).2.2.2 os 0 (by unfold maxLen;omega) hb hI h60 h1 h2 hk hD (by rw [ho];exact stepOf_2) (fun o1 c1 B wx hB hO=>?_)
 rw [hjr,hja,hjb]
 refine (step_add _ _ _ _ _ _ _ _ _ jr ja jb _ _ _ _ _ _ (by omega) (by omega) j1 j2 j3 zA.1 zA.2 zB.1 zB.2 zM.1 zM.2).mono ?_
 rintro e w' ⟨rfl,b⟩
 exact stepR_below hO b
theorem do_sub (b off len cap k:Nat) (g:Nat->I5) (ra oa:Option Addr) (rc oc:Nat) (a1 a2 a3 a4:Int) (os:List Int) (ek eq ev:Int) (w:World) (jr ja jb:Nat) (hj:(g k).r=jr/\(g k).a=ja/\(g k).b=jb) (j4:jr<4/\ja<4/\jb<4) (hn:numB a1=true/\numB a2=true/\numB a3=true/\numB a4=true) (_hz:∀ j,j<4->numB (zi [a1,a2,a3,a4] j)=true) (hl:(len:Int)<=30) (hb:b<w.heap.size) (hI:InsAt w b off len g) (h60:os.length<=60) (h1:Sl w ra [a1,a2,a3,a4]) (h2:Sl w oa os) (hk:k<len) (hD:canB (nxK g len k [a1,a2,a3,a4] os 0) (nxP g len k [a1,a2,a3,a4] os 0) (nxW g len k [a1,a2,a3,a4] os 0) ek eq ev=true) (ho:(g k).o=3):
  Calls Tryz.prog 128 #[.slice (some ⟨b,off,none⟩) len cap,stV k ra 4 rc oa os.length oc 0,evV ek eq ev] w (DoneR w (doneS len (g k) k [a1,a2,a3,a4] os 0 ev) true):=by
 obtain ⟨hjr,hja,hjb⟩:=hj
 obtain ⟨j1,j2,j3⟩:=j4
 have zA:=numB_iff.mp (_hz ja j2)
 have zB:=numB_iff.mp (_hz jb j3)
 have zM:=mul_bound (_hz ja j2) (_hz jb j3)
 have e:settledS len k a1 a2 a3 a4 os (k+1) (set4 a1 a2 a3 a4 jr (zi [a1,a2,a3,a4] ja - zi [a1,a2,a3,a4] jb)).1 (set4 a1 a2 a3 a4 jr (zi [a1,a2,a3,a4] ja - zi [a1,a2,a3,a4] jb)).2.1 (set4 a1 a2 a3 a4 jr (zi [a1,a2,a3,a4] ja - zi [a1,a2,a3,a4] jb)).2.2.1 (set4 a1 a2 a3 a4 jr (zi [a1,a2,a3,a4] ja - zi [a1,a2,a3,a4] jb)).2.2.2 os 0=doneS len (g k) k [a1,a2,a3,a4] os 0 ev:=by
  rw [settled_set hn h60 j1]
  simp [doneS,ho,calcN,hjr,hja,hjb]
 rw [<- e]
 refine doIn_step b off len cap k g ra oa rc oc a1 a2 a3 a4 os ek eq ev w 149 (zZ Tryz.func149 (by kernel_rfl) rfl) (k+1) (set4 a1 a2 a3 a4 jr (zi [a1,a2,a3,a4] ja - zi [a1,a2,a3,a4] jb)).1 (set4 a1 a2 a3 a4 jr (zi [a1,a2,a3,a4] ja - zi [a1,a2,a3,a4] jb)).2.1 (set4 a1 a2 a3 a4 jr (zi [a1,a2,a3,a4] ja - zi [a1,a2,a3,a4] jb)).2.2.1 (set4 a1 a2 a3 a4 jr (zi [a1,a2,a3,a4] ja - zi [a1,a2,a3,a4] jb)).2.2.2 os 0 (by unfold maxLen;omega) hb hI h60 h1 h2 hk hD (by rw [ho];exact stepOf_3) (fun o1 c1 B wx hB hO=>?_)
 rw [hjr,hja,hjb]
 refine (step_sub _ _ _ _ _ _ _ _ _ jr ja jb _ _ _ _ _ _ (by omega) (by omega) j1 j2 j3 zA.1 zA.2 zB.1 zB.2 zM.1 zM.2).mono ?_
 rintro e w' ⟨rfl,b⟩
 exact stepR_below hO b
theorem do_mul (b off len cap k:Nat) (g:Nat->I5) (ra oa:Option Addr) (rc oc:Nat) (a1 a2 a3 a4:Int) (os:List Int) (ek eq ev:Int) (w:World) (jr ja jb:Nat) (hj:(g k).r=jr/\(g k).a=ja/\(g k).b=jb) (j4:jr<4/\ja<4/\jb<4) (hn:numB a1=true/\numB a2=true/\numB a3=true/\numB a4=true) (_hz:∀ j,j<4->numB (zi [a1,a2,a3,a4] j)=true) (hl:(len:Int)<=30) (hb:b<w.heap.size) (hI:InsAt w b off len g) (h60:os.length<=60) (h1:Sl w ra [a1,a2,a3,a4]) (h2:Sl w oa os) (hk:k<len) (hD:canB (nxK g len k [a1,a2,a3,a4] os 0) (nxP g len k [a1,a2,a3,a4] os 0) (nxW g len k [a1,a2,a3,a4] os 0) ek eq ev=true) (ho:(g k).o=4):
  Calls Tryz.prog 128 #[.slice (some ⟨b,off,none⟩) len cap,stV k ra 4 rc oa os.length oc 0,evV ek eq ev] w (DoneR w (doneS len (g k) k [a1,a2,a3,a4] os 0 ev) true):=by
 obtain ⟨hjr,hja,hjb⟩:=hj
 obtain ⟨j1,j2,j3⟩:=j4
 have zA:=numB_iff.mp (_hz ja j2)
 have zB:=numB_iff.mp (_hz jb j3)
 have zM:=mul_bound (_hz ja j2) (_hz jb j3)
 have e:settledS len k a1 a2 a3 a4 os (k+1) (set4 a1 a2 a3 a4 jr (zi [a1,a2,a3,a4] ja*zi [a1,a2,a3,a4] jb)).1 (set4 a1 a2 a3 a4 jr (zi [a1,a2,a3,a4] ja*zi [a1,a2,a3,a4] jb)).2.1 (set4 a1 a2 a3 a4 jr (zi [a1,a2,a3,a4] ja*zi [a1,a2,a3,a4] jb)).2.2.1 (set4 a1 a2 a3 a4 jr (zi [a1,a2,a3,a4] ja*zi [a1,a2,a3,a4] jb)).2.2.2 os 0=doneS len (g k) k [a1,a2,a3,a4] os 0 ev:=by
  rw [settled_set hn h60 j1]
  simp [doneS,ho,calcN,hjr,hja,hjb]
 rw [<- e]
 refine doIn_step b off len cap k g ra oa rc oc a1 a2 a3 a4 os ek eq ev w 150 (zZ Tryz.func150 (by kernel_rfl) rfl) (k+1) (set4 a1 a2 a3 a4 jr (zi [a1,a2,a3,a4] ja*zi [a1,a2,a3,a4] jb)).1 (set4 a1 a2 a3 a4 jr (zi [a1,a2,a3,a4] ja*zi [a1,a2,a3,a4] jb)).2.1 (set4 a1 a2 a3 a4 jr (zi [a1,a2,a3,a4] ja*zi [a1,a2,a3,a4] jb)).2.2.1 (set4 a1 a2 a3 a4 jr (zi [a1,a2,a3,a4] ja*zi [a1,a2,a3,a4] jb)).2.2.2 os 0 (by unfold maxLen;omega) hb hI h60 h1 h2 hk hD (by rw [ho];exact stepOf_4) (fun o1 c1 B wx hB hO=>?_)
 rw [hjr,hja,hjb]
 refine (step_mul _ _ _ _ _ _ _ _ _ jr ja jb _ _ _ _ _ _ (by omega) (by omega) j1 j2 j3 zA.1 zA.2 zB.1 zB.2 zM.1 zM.2).mono ?_
 rintro e w' ⟨rfl,b⟩
 exact stepR_below hO b
theorem do_less_yes (b off len cap k:Nat) (g:Nat->I5) (ra oa:Option Addr) (rc oc:Nat) (a1 a2 a3 a4:Int) (os:List Int) (ek eq ev:Int) (w:World) (jr ja jb:Nat) (hj:(g k).r=jr/\(g k).a=ja/\(g k).b=jb) (j4:jr<4/\ja<4/\jb<4) (hn:numB a1=true/\numB a2=true/\numB a3=true/\numB a4=true) (_hz:∀ j,j<4->numB (zi [a1,a2,a3,a4] j)=true) (hl:(len:Int)<=30) (hb:b<w.heap.size) (hI:InsAt w b off len g) (h60:os.length<=60) (h1:Sl w ra [a1,a2,a3,a4]) (h2:Sl w oa os) (hk:k<len) (hD:canB (nxK g len k [a1,a2,a3,a4] os 0) (nxP g len k [a1,a2,a3,a4] os 0) (nxW g len k [a1,a2,a3,a4] os 0) ek eq ev=true) (ho:(g k).o=5) (hlt:zi [a1,a2,a3,a4] ja<zi [a1,a2,a3,a4] jb):
  Calls Tryz.prog 128 #[.slice (some ⟨b,off,none⟩) len cap,stV k ra 4 rc oa os.length oc 0,evV ek eq ev] w (DoneR w (doneS len (g k) k [a1,a2,a3,a4] os 0 ev) true):=by
 obtain ⟨hjr,hja,hjb⟩:=hj
 obtain ⟨j1,j2,j3⟩:=j4
 have e:settledS len k a1 a2 a3 a4 os (k+1) (set4 a1 a2 a3 a4 jr (1)).1 (set4 a1 a2 a3 a4 jr (1)).2.1 (set4 a1 a2 a3 a4 jr (1)).2.2.1 (set4 a1 a2 a3 a4 jr (1)).2.2.2 os 0=doneS len (g k) k [a1,a2,a3,a4] os 0 ev:=by
  rw [settled_set hn h60 j1]
  simp [doneS,ho,calcN,hjr,hja,hjb,hlt]
 rw [<- e]
 refine doIn_step b off len cap k g ra oa rc oc a1 a2 a3 a4 os ek eq ev w 151 (zZ Tryz.func151 (by kernel_rfl) rfl) (k+1) (set4 a1 a2 a3 a4 jr (1)).1 (set4 a1 a2 a3 a4 jr (1)).2.1 (set4 a1 a2 a3 a4 jr (1)).2.2.1 (set4 a1 a2 a3 a4 jr (1)).2.2.2 os 0 (by unfold maxLen;omega) hb hI h60 h1 h2 hk hD (by rw [ho];exact stepOf_5) (fun o1 c1 B wx hB hO=>?_)
 rw [hjr,hja,hjb]
 refine (step_less_yes _ _ _ _ _ _ _ _ _ jr ja jb _ _ _ _ _ _ (by omega) (by omega) j1 j2 j3 hlt).mono ?_
 rintro e w' ⟨rfl,b⟩
 exact stepR_below hO b
theorem do_less_no (b off len cap k:Nat) (g:Nat->I5) (ra oa:Option Addr) (rc oc:Nat) (a1 a2 a3 a4:Int) (os:List Int) (ek eq ev:Int) (w:World) (jr ja jb:Nat) (hj:(g k).r=jr/\(g k).a=ja/\(g k).b=jb) (j4:jr<4/\ja<4/\jb<4) (hn:numB a1=true/\numB a2=true/\numB a3=true/\numB a4=true) (_hz:∀ j,j<4->numB (zi [a1,a2,a3,a4] j)=true) (hl:(len:Int)<=30) (hb:b<w.heap.size) (hI:InsAt w b off len g) (h60:os.length<=60) (h1:Sl w ra [a1,a2,a3,a4]) (h2:Sl w oa os) (hk:k<len) (hD:canB (nxK g len k [a1,a2,a3,a4] os 0) (nxP g len k [a1,a2,a3,a4] os 0) (nxW g len k [a1,a2,a3,a4] os 0) ek eq ev=true) (ho:(g k).o=5) (hlt:¬ zi [a1,a2,a3,a4] ja<zi [a1,a2,a3,a4] jb):
  Calls Tryz.prog 128 #[.slice (some ⟨b,off,none⟩) len cap,stV k ra 4 rc oa os.length oc 0,evV ek eq ev] w (DoneR w (doneS len (g k) k [a1,a2,a3,a4] os 0 ev) true):=by
 obtain ⟨hjr,hja,hjb⟩:=hj
 obtain ⟨j1,j2,j3⟩:=j4
 have e:settledS len k a1 a2 a3 a4 os (k+1) (set4 a1 a2 a3 a4 jr (0)).1 (set4 a1 a2 a3 a4 jr (0)).2.1 (set4 a1 a2 a3 a4 jr (0)).2.2.1 (set4 a1 a2 a3 a4 jr (0)).2.2.2 os 0=doneS len (g k) k [a1,a2,a3,a4] os 0 ev:=by
  rw [settled_set hn h60 j1]
  simp [doneS,ho,calcN,hjr,hja,hjb,hlt]
 rw [<- e]
 refine doIn_step b off len cap k g ra oa rc oc a1 a2 a3 a4 os ek eq ev w 151 (zZ Tryz.func151 (by kernel_rfl) rfl) (k+1) (set4 a1 a2 a3 a4 jr (0)).1 (set4 a1 a2 a3 a4 jr (0)).2.1 (set4 a1 a2 a3 a4 jr (0)).2.2.1 (set4 a1 a2 a3 a4 jr (0)).2.2.2 os 0 (by unfold maxLen;omega) hb hI h60 h1 h2 hk hD (by rw [ho];exact stepOf_5) (fun o1 c1 B wx hB hO=>?_)
 rw [hjr,hja,hjb]
 refine (step_less_no _ _ _ _ _ _ _ _ _ jr ja jb _ _ _ _ _ _ (by omega) (by omega) j1 j2 j3 hlt).mono ?_
 rintro e w' ⟨rfl,b⟩
 exact stepR_below hO b
theorem do_send (b off len cap k:Nat) (g:Nat->I5) (ra oa:Option Addr) (rc oc:Nat) (a1 a2 a3 a4:Int) (os:List Int) (ek eq ev:Int) (w:World) (jr ja jb:Nat) (hj:(g k).r=jr/\(g k).a=ja/\(g k).b=jb) (j4:jr<4/\ja<4/\jb<4) (hn:numB a1=true/\numB a2=true/\numB a3=true/\numB a4=true) (_hz:∀ j,j<4->numB (zi [a1,a2,a3,a4] j)=true) (hl:(len:Int)<=30) (hb:b<w.heap.size) (hI:InsAt w b off len g) (h60:os.length<=60) (h1:Sl w ra [a1,a2,a3,a4]) (h2:Sl w oa os) (hk:k<len) (hD:canB (nxK g len k [a1,a2,a3,a4] os 0) (nxP g len k [a1,a2,a3,a4] os 0) (nxW g len k [a1,a2,a3,a4] os 0) ek eq ev=true) (ho:(g k).o=6):
  Calls Tryz.prog 128 #[.slice (some ⟨b,off,none⟩) len cap,stV k ra 4 rc oa os.length oc 0,evV ek eq ev] w (DoneR w (doneS len (g k) k [a1,a2,a3,a4] os 0 ev) true):=by
 obtain ⟨hjr,hja,hjb⟩:=hj
 obtain ⟨j1,j2,j3⟩:=j4
 have e:settledS len k a1 a2 a3 a4 os (k+1) a1 a2 a3 a4 os 0=doneS len (g k) k [a1,a2,a3,a4] os 0 ev:=by
  rw [settled_same hn h60]
  simp [doneS,ho]
 rw [<- e]
 refine doIn_step b off len cap k g ra oa rc oc a1 a2 a3 a4 os ek eq ev w 152 (zZ Tryz.func152 (by kernel_rfl) rfl) (k+1) a1 a2 a3 a4 os 0 (by unfold maxLen;omega) hb hI h60 h1 h2 hk hD (by rw [ho];exact stepOf_6) (fun o1 c1 B wx hB hO=>?_)
 rw [hjr,hja,hjb]
 refine (step_send _ _ _ _ _ _ _ _ _ jr ja jb _ _ _ _ _ _ (by omega) (by omega)).mono ?_
 rintro e w' ⟨rfl,b⟩
 exact stepR_below hO b
theorem do_take (b off len cap k:Nat) (g:Nat->I5) (ra oa:Option Addr) (rc oc:Nat) (a1 a2 a3 a4:Int) (os:List Int) (ek eq ev:Int) (w:World) (jr ja jb:Nat) (hj:(g k).r=jr/\(g k).a=ja/\(g k).b=jb) (j4:jr<4/\ja<4/\jb<4) (hn:numB a1=true/\numB a2=true/\numB a3=true/\numB a4=true) (_hz:∀ j,j<4->numB (zi [a1,a2,a3,a4] j)=true) (hl:(len:Int)<=30) (hb:b<w.heap.size) (hI:InsAt w b off len g) (h60:os.length<=60) (h1:Sl w ra [a1,a2,a3,a4]) (h2:Sl w oa os) (hk:k<len) (hD:canB (nxK g len k [a1,a2,a3,a4] os 0) (nxP g len k [a1,a2,a3,a4] os 0) (nxW g len k [a1,a2,a3,a4] os 0) ek eq ev=true) (ho:(g k).o=7) (hv:numB ev=true):
  Calls Tryz.prog 128 #[.slice (some ⟨b,off,none⟩) len cap,stV k ra 4 rc oa os.length oc 0,evV ek eq ev] w (DoneR w (doneS len (g k) k [a1,a2,a3,a4] os 0 ev) true):=by
 obtain ⟨hjr,hja,hjb⟩:=hj
 obtain ⟨j1,j2,j3⟩:=j4
 have e:settledS len k a1 a2 a3 a4 os (k+1) (set4 a1 a2 a3 a4 jr (ev)).1 (set4 a1 a2 a3 a4 jr (ev)).2.1 (set4 a1 a2 a3 a4 jr (ev)).2.2.1 (set4 a1 a2 a3 a4 jr (ev)).2.2.2 os 0=doneS len (g k) k [a1,a2,a3,a4] os 0 ev:=by
  rw [settled_set hn h60 j1,if_pos hv]
  simp [doneS,ho,hjr]
 rw [<- e]
 refine doIn_step b off len cap k g ra oa rc oc a1 a2 a3 a4 os ek eq ev w 153 (zZ Tryz.func153 (by kernel_rfl) rfl) (k+1) (set4 a1 a2 a3 a4 jr (ev)).1 (set4 a1 a2 a3 a4 jr (ev)).2.1 (set4 a1 a2 a3 a4 jr (ev)).2.2.1 (set4 a1 a2 a3 a4 jr (ev)).2.2.2 os 0 (by unfold maxLen;omega) hb hI h60 h1 h2 hk hD (by rw [ho];exact stepOf_7) (fun o1 c1 B wx hB hO=>?_)
 rw [hjr,hja,hjb]
 refine (step_take _ _ _ _ _ _ _ _ _ jr ja jb _ _ _ _ _ _ (by omega) (by omega) j1).mono ?_
 rintro e w' ⟨rfl,b⟩
 exact stepR_below hO b
theorem do_print (b off len cap k:Nat) (g:Nat->I5) (ra oa:Option Addr) (rc oc:Nat) (a1 a2 a3 a4:Int) (os:List Int) (ek eq ev:Int) (w:World) (jr ja jb:Nat) (hj:(g k).r=jr/\(g k).a=ja/\(g k).b=jb) (j4:jr<4/\ja<4/\jb<4) (hn:numB a1=true/\numB a2=true/\numB a3=true/\numB a4=true) (_hz:∀ j,j<4->numB (zi [a1,a2,a3,a4] j)=true) (hl:(len:Int)<=30) (hb:b<w.heap.size) (hI:InsAt w b off len g) (h60:os.length<=60) (h1:Sl w ra [a1,a2,a3,a4]) (h2:Sl w oa os) (hk:k<len) (hD:canB (nxK g len k [a1,a2,a3,a4] os 0) (nxP g len k [a1,a2,a3,a4] os 0) (nxW g len k [a1,a2,a3,a4] os 0) ek eq ev=true) (ho:(g k).o=8):
  Calls Tryz.prog 128 #[.slice (some ⟨b,off,none⟩) len cap,stV k ra 4 rc oa os.length oc 0,evV ek eq ev] w (DoneR w (doneS len (g k) k [a1,a2,a3,a4] os 0 ev) true):=by
 obtain ⟨hjr,hja,hjb⟩:=hj
 obtain ⟨j1,j2,j3⟩:=j4
 have e:settledS len k a1 a2 a3 a4 os (k+1) a1 a2 a3 a4 (os ++ [ev]) 0=doneS len (g k) k [a1,a2,a3,a4] os 0 ev:=by
  by_cases h:os.length=60
  ·rw [settled_over (by simp;omega)]
   simp [doneS,ho,h]
  ·rw [settled_same hn (by simp;omega)]
   simp [doneS,ho,h]
 rw [<- e]
 refine doIn_step b off len cap k g ra oa rc oc a1 a2 a3 a4 os ek eq ev w 154 (zZ Tryz.func154 (by kernel_rfl) rfl) (k+1) a1 a2 a3 a4 (os ++ [ev]) 0 (by unfold maxLen;omega) hb hI h60 h1 h2 hk hD (by rw [ho];exact stepOf_8) (fun o1 c1 B wx hB hO=>?_)
 rw [hjr,hja,hjb]
 refine (step_print _ _ _ _ _ _ _ os _ jr ja jb _ _ _ _ _ B wx (by omega) (by omega) (by omega) hB hO).mono ?_
 rintro e w' ⟨oa',oc',rfl,p1,p2,p3,p4⟩
 have e1:(os ++ [ev]).length=os.length+1:=by simp
 unfold StepR
 rw [e1]
 exact ⟨oa',oc',rfl,p1,p2,p3,p4⟩
theorem do_jump (b off len cap k:Nat) (g:Nat->I5) (ra oa:Option Addr) (rc oc:Nat) (a1 a2 a3 a4:Int) (os:List Int) (ek eq ev:Int) (w:World) (jr ja jb:Nat) (hj:(g k).r=jr/\(g k).a=ja/\(g k).b=jb) (j4:jr<4/\ja<4/\jb<4) (hn:numB a1=true/\numB a2=true/\numB a3=true/\numB a4=true) (_hz:∀ j,j<4->numB (zi [a1,a2,a3,a4] j)=true) (hl:(len:Int)<=30) (hb:b<w.heap.size) (hI:InsAt w b off len g) (h60:os.length<=60) (h1:Sl w ra [a1,a2,a3,a4]) (h2:Sl w oa os) (hk:k<len) (hD:canB (nxK g len k [a1,a2,a3,a4] os 0) (nxP g len k [a1,a2,a3,a4] os 0) (nxW g len k [a1,a2,a3,a4] os 0) ek eq ev=true) (ho:(g k).o=9) (hb9:belB (g k).n len=true):
  Calls Tryz.prog 128 #[.slice (some ⟨b,off,none⟩) len cap,stV k ra 4 rc oa os.length oc 0,evV ek eq ev] w (DoneR w (doneS len (g k) k [a1,a2,a3,a4] os 0 ev) true):=by
 obtain ⟨hjr,hja,hjb⟩:=hj
 obtain ⟨j1,j2,j3⟩:=j4
 have e:settledS len k a1 a2 a3 a4 os (g k).n a1 a2 a3 a4 os 0=doneS len (g k) k [a1,a2,a3,a4] os 0 ev:=by
  rw [settled_to hn h60 hb9]
  simp [doneS,ho]
 rw [<- e]
 refine doIn_step b off len cap k g ra oa rc oc a1 a2 a3 a4 os ek eq ev w 155 (zZ Tryz.func155 (by kernel_rfl) rfl) (g k).n a1 a2 a3 a4 os 0 (by unfold maxLen;omega) hb hI h60 h1 h2 hk hD (by rw [ho];exact stepOf_9) (fun o1 c1 B wx hB hO=>?_)
 rw [hjr,hja,hjb]
 refine (step_jump _ _ _ _ _ _ _ _ _ jr ja jb _ _ _ _ _ _ (by omega) (by omega)).mono ?_
 rintro e w' ⟨rfl,b⟩
 exact stepR_below hO b
theorem do_zero_yes (b off len cap k:Nat) (g:Nat->I5) (ra oa:Option Addr) (rc oc:Nat) (a1 a2 a3 a4:Int) (os:List Int) (ek eq ev:Int) (w:World) (jr ja jb:Nat) (hj:(g k).r=jr/\(g k).a=ja/\(g k).b=jb) (j4:jr<4/\ja<4/\jb<4) (hn:numB a1=true/\numB a2=true/\numB a3=true/\numB a4=true) (_hz:∀ j,j<4->numB (zi [a1,a2,a3,a4] j)=true) (hl:(len:Int)<=30) (hb:b<w.heap.size) (hI:InsAt w b off len g) (h60:os.length<=60) (h1:Sl w ra [a1,a2,a3,a4]) (h2:Sl w oa os) (hk:k<len) (hD:canB (nxK g len k [a1,a2,a3,a4] os 0) (nxP g len k [a1,a2,a3,a4] os 0) (nxW g len k [a1,a2,a3,a4] os 0) ek eq ev=true) (ho:(g k).o=10) (hb9:belB (g k).n len=true) (hz0:zi [a1,a2,a3,a4] ja=0):
  Calls Tryz.prog 128 #[.slice (some ⟨b,off,none⟩) len cap,stV k ra 4 rc oa os.length oc 0,evV ek eq ev] w (DoneR w (doneS len (g k) k [a1,a2,a3,a4] os 0 ev) true):=by
 obtain ⟨hjr,hja,hjb⟩:=hj
 obtain ⟨j1,j2,j3⟩:=j4
 have e:settledS len k a1 a2 a3 a4 os (g k).n a1 a2 a3 a4 os 0=doneS len (g k) k [a1,a2,a3,a4] os 0 ev:=by
  rw [settled_to hn h60 hb9]
  simp [doneS,ho,hja,hz0]
 rw [<- e]
 refine doIn_step b off len cap k g ra oa rc oc a1 a2 a3 a4 os ek eq ev w 156 (zZ Tryz.func156 (by kernel_rfl) rfl) (g k).n a1 a2 a3 a4 os 0 (by unfold maxLen;omega) hb hI h60 h1 h2 hk hD (by rw [ho];exact stepOf_10) (fun o1 c1 B wx hB hO=>?_)
 rw [hjr,hja,hjb]
 refine (step_zero_yes _ _ _ _ _ _ _ _ _ jr ja jb _ _ _ _ _ _ (by omega) (by omega) j2 (by simp [hz0])).mono ?_
 rintro e w' ⟨rfl,b⟩
 exact stepR_below hO b
theorem do_zero_no (b off len cap k:Nat) (g:Nat->I5) (ra oa:Option Addr) (rc oc:Nat) (a1 a2 a3 a4:Int) (os:List Int) (ek eq ev:Int) (w:World) (jr ja jb:Nat) (hj:(g k).r=jr/\(g k).a=ja/\(g k).b=jb) (j4:jr<4/\ja<4/\jb<4) (hn:numB a1=true/\numB a2=true/\numB a3=true/\numB a4=true) (_hz:∀ j,j<4->numB (zi [a1,a2,a3,a4] j)=true) (hl:(len:Int)<=30) (hb:b<w.heap.size) (hI:InsAt w b off len g) (h60:os.length<=60) (h1:Sl w ra [a1,a2,a3,a4]) (h2:Sl w oa os) (hk:k<len) (hD:canB (nxK g len k [a1,a2,a3,a4] os 0) (nxP g len k [a1,a2,a3,a4] os 0) (nxW g len k [a1,a2,a3,a4] os 0) ek eq ev=true) (ho:(g k).o=10) (hz0:¬ zi [a1,a2,a3,a4] ja=0):
  Calls Tryz.prog 128 #[.slice (some ⟨b,off,none⟩) len cap,stV k ra 4 rc oa os.length oc 0,evV ek eq ev] w (DoneR w (doneS len (g k) k [a1,a2,a3,a4] os 0 ev) true):=by
 obtain ⟨hjr,hja,hjb⟩:=hj
 obtain ⟨j1,j2,j3⟩:=j4
 have e:settledS len k a1 a2 a3 a4 os (k+1) a1 a2 a3 a4 os 0=doneS len (g k) k [a1,a2,a3,a4] os 0 ev:=by
  rw [settled_same hn h60]
  simp [doneS,ho,hja,hz0]
 rw [<- e]
 refine doIn_step b off len cap k g ra oa rc oc a1 a2 a3 a4 os ek eq ev w 156 (zZ Tryz.func156 (by kernel_rfl) rfl) (k+1) a1 a2 a3 a4 os 0 (by unfold maxLen;omega) hb hI h60 h1 h2 hk hD (by rw [ho];exact stepOf_10) (fun o1 c1 B wx hB hO=>?_)
 rw [hjr,hja,hjb]
 refine (step_zero_no _ _ _ _ _ _ _ _ _ jr ja jb _ _ _ _ _ _ (by omega) (by omega) j2 (by simpa using hz0)).mono ?_
 rintro e w' ⟨rfl,b⟩
 exact stepR_below hO b
theorem do_end (b off len cap k:Nat) (g:Nat->I5) (ra oa:Option Addr) (rc oc:Nat) (a1 a2 a3 a4:Int) (os:List Int) (ek eq ev:Int) (w:World) (jr ja jb:Nat) (hj:(g k).r=jr/\(g k).a=ja/\(g k).b=jb) (j4:jr<4/\ja<4/\jb<4) (hn:numB a1=true/\numB a2=true/\numB a3=true/\numB a4=true) (_hz:∀ j,j<4->numB (zi [a1,a2,a3,a4] j)=true) (hl:(len:Int)<=30) (hb:b<w.heap.size) (hI:InsAt w b off len g) (h60:os.length<=60) (h1:Sl w ra [a1,a2,a3,a4]) (h2:Sl w oa os) (hk:k<len) (hD:canB (nxK g len k [a1,a2,a3,a4] os 0) (nxP g len k [a1,a2,a3,a4] os 0) (nxW g len k [a1,a2,a3,a4] os 0) ek eq ev=true) (ho:(g k).o=11):
  Calls Tryz.prog 128 #[.slice (some ⟨b,off,none⟩) len cap,stV k ra 4 rc oa os.length oc 0,evV ek eq ev] w (DoneR w (doneS len (g k) k [a1,a2,a3,a4] os 0 ev) true):=by
 obtain ⟨hjr,hja,hjb⟩:=hj
 obtain ⟨j1,j2,j3⟩:=j4
 have e:settledS len k a1 a2 a3 a4 os k a1 a2 a3 a4 os 1=doneS len (g k) k [a1,a2,a3,a4] os 0 ev:=by
  rw [settled_to hn h60 (by simp [belB];omega)]
  simp [doneS,ho]
 rw [<- e]
 refine doIn_step b off len cap k g ra oa rc oc a1 a2 a3 a4 os ek eq ev w 157 (zZ Tryz.func157 (by kernel_rfl) rfl) k a1 a2 a3 a4 os 1 (by unfold maxLen;omega) hb hI h60 h1 h2 hk hD (by rw [ho];exact stepOf_11) (fun o1 c1 B wx hB hO=>?_)
 rw [hjr,hja,hjb]
 refine (step_end _ _ _ _ _ _ _ _ _ jr ja jb _ _ _ _ _ _ (by omega) (by omega)).mono ?_
 rintro e w' ⟨rfl,b⟩
 exact stepR_below hO b
theorem jump_to {x:I5} {len:Nat} (h:insOkB x.o x.r x.a x.b x.n len 4=true) (h9:x.o=9\/x.o=10):belB x.n len=true:=by
 simp only [insOkB,Bool.and_eq_true] at h
 have h5:=h.2
 unfold opOkB at h5
 rcases h9 with h9 | h9 <;> (rw [h9] at h5;simp [belB] at h5 ⊢;omega)
theorem doIn_any (b off len cap:Nat) (g:Nat->I5) (p code:Int) (ra oa:Option Addr) (rc oc:Nat) (rs os:List Int) (ek eq ev:Int) (w:World) (hlen:len<=maxLen) (hb:b<w.heap.size) (hI:InsAt w b off len g) (hr:rs.length<=1048576) (ho:os.length<=1048576) (h1:Sl w ra rs) (h2:Sl w oa os) (hP:progOkB g len 4=true):
  Calls Tryz.prog 128 #[.slice (some ⟨b,off,none⟩) len cap,stV p ra rs.length rc oa os.length oc code,evV ek eq ev] w (DoneR w (doS g len p rs os code ek eq ev) (doB g len p rs os code ek eq ev)):=by
 rcases zK (doB g len p rs os code ek eq ev) with hB | hB
 case inr=>
  have hS:doS g len p rs os code ek eq ev=⟨p,rs,os,code⟩:=by
   unfold doS
   rw [if_neg (by rw [hB];decide)]
  rw [hB,hS]
  exact doIn_no b off len cap g p code ra oa rc oc rs os ek eq ev w hlen hb hI hr ho h1 h2 hB hP
 have hR:=doB_right hB
 obtain ⟨hp,hs,rfl⟩:=right_parts hR
 obtain ⟨⟨a1,a2,a3,a4,rfl,n1,n2,n3,n4⟩,⟨k,rfl,hk⟩,h60,-⟩:=st_parts hs
 have hS:doS g len k [a1,a2,a3,a4] os 0 ek eq ev=doneS len (g k) k [a1,a2,a3,a4] os 0 ev:=by
  unfold doS
  rw [if_pos hB,Int.toNat_natCast]
 rw [hB,hS]
 have hl:(len:Int)<=30:=by
  simp only [progOkB,Bool.and_eq_true] at hp
  have:=hp.2.1
  simp [inB] at this
  omega
 have hins:=right_ins hp hk
 obtain ⟨⟨o1,o11⟩,⟨r0,r3⟩,⟨m0,m3⟩,⟨q0,q3⟩⟩:=ins_range hins
 have hn:numB a1=true/\numB a2=true/\numB a3=true/\numB a4=true:=⟨n1,n2,n3,n4⟩
 have hz:∀ j,j<4->numB (zi [a1,a2,a3,a4] j)=true:=fun j hj=>by
  match j,hj with
  | 0,_=>exact n1
  | 1,_=>exact n2
  | 2,_=>exact n3
  | 3,_=>exact n4
 have hj:(g k).r=((g k).r.toNat:Int)/\(g k).a=((g k).a.toNat:Int)/\(g k).b=((g k).b.toNat:Int):=⟨by omega,by omega,by omega⟩
 have j4:(g k).r.toNat<4/\(g k).a.toNat<4/\(g k).b.toNat<4:=⟨by omega,by omega,by omega⟩
 rcases opCases (g k).o with h | h | h | h | h | h | h | h | h | h | h | h
 ·omega
 ·exact do_set b off len cap k g ra oa rc oc a1 a2 a3 a4 os ek eq ev w _ _ _ hj j4 hn hz hl hb hI h60 h1 h2 hk hB h
 ·exact do_add b off len cap k g ra oa rc oc a1 a2 a3 a4 os ek eq ev w _ _ _ hj j4 hn hz hl hb hI h60 h1 h2 hk hB h
 ·exact do_sub b off len cap k g ra oa rc oc a1 a2 a3 a4 os ek eq ev w _ _ _ hj j4 hn hz hl hb hI h60 h1 h2 hk hB h
 ·exact do_mul b off len cap k g ra oa rc oc a1 a2 a3 a4 os ek eq ev w _ _ _ hj j4 hn hz hl hb hI h60 h1 h2 hk hB h
 ·by_cases hlt:zi [a1,a2,a3,a4] (g k).a.toNat<zi [a1,a2,a3,a4] (g k).b.toNat
  ·exact do_less_yes b off len cap k g ra oa rc oc a1 a2 a3 a4 os ek eq ev w _ _ _ hj j4 hn hz hl hb hI h60 h1 h2 hk hB h hlt
  ·exact do_less_no b off len cap k g ra oa rc oc a1 a2 a3 a4 os ek eq ev w _ _ _ hj j4 hn hz hl hb hI h60 h1 h2 hk hB h hlt
 ·exact do_send b off len cap k g ra oa rc oc a1 a2 a3 a4 os ek eq ev w _ _ _ hj j4 hn hz hl hb hI h60 h1 h2 hk hB h
 ·have hv:numB ev=true:=by
   have hc:=hB
   unfold doB nxK at hc
   rw [if_pos hR,Int.toNat_natCast,h,show evK 7=3 from rfl,canB_take] at hc
   simp only [Bool.and_eq_true] at hc
   exact hc.1.2
  exact do_take b off len cap k g ra oa rc oc a1 a2 a3 a4 os ek eq ev w _ _ _ hj j4 hn hz hl hb hI h60 h1 h2 hk hB h hv
 ·exact do_print b off len cap k g ra oa rc oc a1 a2 a3 a4 os ek eq ev w _ _ _ hj j4 hn hz hl hb hI h60 h1 h2 hk hB h
 ·exact do_jump b off len cap k g ra oa rc oc a1 a2 a3 a4 os ek eq ev w _ _ _ hj j4 hn hz hl hb hI h60 h1 h2 hk hB h (jump_to hins (.inl h))
 ·by_cases hz0:zi [a1,a2,a3,a4] (g k).a.toNat=0
  ·exact do_zero_yes b off len cap k g ra oa rc oc a1 a2 a3 a4 os ek eq ev w _ _ _ hj j4 hn hz hl hb hI h60 h1 h2 hk hB h (jump_to hins (.inr h)) hz0
  ·exact do_zero_no b off len cap k g ra oa rc oc a1 a2 a3 a4 os ek eq ev w _ _ _ hj j4 hn hz hl hb hI h60 h1 h2 hk hB h hz0
 ·exact do_end b off len cap k g ra oa rc oc a1 a2 a3 a4 os ek eq ev w _ _ _ hj j4 hn hz hl hb hI h60 h1 h2 hk hB h
theorem stOk_mk {n:Nat} {p code:Int} {rs os:List Int} (h1:rs.length=4) (h2:allN rs=true) (h3:0<=code/\code<=2) (h4:belB p n=true) (h5:os.length<=60) (h6:allN os=true):stOkB n p rs os code=true:=by
 have e:inB code 0 2=true:=by simp [inB];omega
 have e5:((os.length:Int)<=60):=by omega
 simp [stOkB,regsB,outB,h1,h2,e,h4,e5,h6]
theorem allN_set {xs:List Int} {j:Nat} {v:Int} (h:allN xs=true) (hv:numB v=true):allN (xs.set j v)=true:=by
 unfold allN at h ⊢
 rw [List.all_eq_true] at h ⊢
 intro x hx
 rcases List.mem_or_eq_of_mem_set hx with h1 | h1
 ·exact h x h1
 ·rw [h1];exact hv
def OkS (len:Nat) (S:S4):Prop:=stOkB len S.p S.rs S.os S.c=true
theorem goS_ok {len k:Nat} {rs os:List Int} (hk:k<len) (h1:rs.length=4) (h2:allN rs=true) (h5:os.length<=60) (h6:allN os=true):OkS len (goS len k rs os 0):=by
 unfold OkS goS goP goC
 by_cases h:(len:Int)<=(k:Int)+1
 ·simp only [h,if_true]
  exact stOk_mk h1 h2 (by omega) (by simp [belB];omega) h5 h6
 ·simp only [h,if_false]
  exact stOk_mk h1 h2 (by omega) (by simp [belB];omega) h5 h6
theorem doS_ok {g:Nat->I5} {len:Nat} {p:Int} {rs os:List Int} {code ek eq ev:Int} (hB:doB g len p rs os code ek eq ev=true):OkS len (doS g len p rs os code ek eq ev):=by
 have hR:=doB_right hB
 obtain ⟨hp,hs,rfl⟩:=right_parts hR
 obtain ⟨⟨a1,a2,a3,a4,rfl,n1,n2,n3,n4⟩,⟨k,rfl,hk⟩,h60,hN⟩:=st_parts hs
 have hS:doS g len k [a1,a2,a3,a4] os 0 ek eq ev=doneS len (g k) k [a1,a2,a3,a4] os 0 ev:=by
  unfold doS
  rw [if_pos hB,Int.toNat_natCast]
 rw [hS]
 have hins:=right_ins hp hk
 obtain ⟨⟨o1,o11⟩,⟨r0,r3⟩,⟨m0,m3⟩,⟨q0,q3⟩⟩:=ins_range hins
 have hA:allN [a1,a2,a3,a4]=true:=by simp [allN,n1,n2,n3,n4]
 have hz:∀ j,j<4->numB (zi [a1,a2,a3,a4] j)=true:=fun j hj=>by
  match j,hj with
  | 0,_=>exact n1
  | 1,_=>exact n2
  | 2,_=>exact n3
  | 3,_=>exact n4
 have hkB:belB (k:Int) len=true:=by simp [belB];omega
 have hc:=hB
 unfold doB nxK nxP nxW at hc
 rw [if_pos hR,if_pos hR,if_pos hR,Int.toNat_natCast] at hc
 have v7:(g k).o=7->numB ev=true:=fun h=>by
  rw [h,show evK 7=3 from rfl,canB_take] at hc
  simp only [Bool.and_eq_true] at hc
  exact hc.1.2
 have v8:(g k).o=8->numB ev=true:=fun h=>by
  rw [h,show evK 8=4 from rfl,canB_other (by decide) (by decide)] at hc
  unfold evEqB at hc
  simp only [Bool.and_eq_true,beq_iff_eq] at hc
  rw [hc.2.2]
  exact hz _ (by omega)
 unfold doneS
 split
 ·exact goS_ok hk rfl hA h60 hN
 split
 ·rename_i h7
  exact goS_ok hk (by simp) (allN_set hA (v7 h7)) h60 hN
 split
 ·rename_i h8
  split
  ·exact stOk_mk rfl hA (by simp) hkB h60 hN
  ·refine goS_ok hk rfl hA (by simp;omega) ?_
   unfold allN at hN ⊢
   rw [List.all_append,hN]
   simp [v8 h8]
 split
 ·rename_i h9
  exact stOk_mk rfl hA (by simp) (jump_to hins (.inl h9)) h60 hN
 split
 ·rename_i h10
  split
  ·exact stOk_mk rfl hA (by simp) (jump_to hins (.inr h10)) h60 hN
  ·exact goS_ok hk rfl hA h60 hN
 split
 ·exact stOk_mk rfl hA (by simp) hkB h60 hN
 split
 ·rename_i hv
  exact goS_ok hk (by simp) (allN_set hA hv) h60 hN
 ·exact stOk_mk rfl hA (by simp) hkB h60 hN
theorem specStateNew_any (w:World):
  Calls Tryz.prog 33 #[] w fun e w'=>∃ v,e=.returned v/\StOwn w' w.heap.size v 0 [0,0,0,0] [] 0/\Below w.heap.size w w':=by
 have hmk:∀ w:World,(Instr.makeSlice 48 (.int .i64 4) (.int .i64 4)).run Tryz.prog w=.ok (.slice (some ⟨w.heap.size,0,none⟩) 4 4) (w.alloc (.cells (madeCells #[.int .i64 0] 4) 3)):=fun w=>run_make_int 4 (by omega) w
 have HM:Hid (∀ w:World,OwnI (w.alloc (.cells (madeCells #[.int .i64 0] 4) 3)) w.heap.size (.slice (some ⟨w.heap.size,0,none⟩) 4 4) [0,0,0,0]):=fun w=>made_own w 4 (by omega)
 go_enter Tryz.func33,Tryz.ntmps33
 go_wp2
 have hB:w.heap.size<=w.heap.size+1:=by omega
 have hM:=HM.out (w.alloc (oQ1 0 (some ⟨w.heap.size+1,0,none⟩) 4 4 none 0 0 0))
 rw [World.size_alloc] at hM
 refine bodyPost_ret (v:=stV 0 (some ⟨w.heap.size+1,0,none⟩) 4 4 none 0 0 0) (by simp [results,Tryz.results33,go_sem]) rfl ⟨_,rfl,⟨_,_,rfl,hM.mono hB,World.ownsRow_nil _ _ _ _,fun k _=>by simp [Value.ownBlock]⟩,by go_grown⟩
theorem Tl.widen {w:World} {B C C' N:Nat} {p c:Int} {ra:Option Addr} {rn rc:Nat} {oa:Option Addr} {on oc:Nat} {rs os:List Int} (h:Tl w B C N p c ra rn rc oa on oc rs os) (h1:C<=C') (h2:C'<=w.heap.size):Tl w B C' N p c ra rn rc oa on oc rs os:=
 ⟨h.lo,zL h.hi h1,h2,h.box,h.own,fun k hk=>zL (h.up k hk) h1,h.ne⟩
def newS:S4:=⟨0,[0,0,0,0],[],0⟩
def rpStep (g:Nat->I5) (len:Nat) (x:E3) (S:S4):Option S4:=if doB g len S.p S.rs S.os S.c x.k x.q x.v=true then some (doS g len S.p S.rs S.os S.c x.k x.q x.v) else none
def rp (g:Nat->I5) (len:Nat) (h:Nat->E3):Nat->Option S4
 | 0=>some newS
 | k+1=>(rp g len h k).bind (rpStep g len (h k))
theorem rp_none {g:Nat->I5} {len:Nat} {h:Nat->E3} {k:Nat} (hk:rp g len h k=none):∀ d,rp g len h (k+d)=none
 | 0=>hk
 | d+1=>by
  have:=rp_none hk d
  show (rp g len h (k+d)).bind _=none
  rw [this]
  rfl
theorem rp_over {g:Nat->I5} {len:Nat} {h:Nat->E3} {k m:Nat} (hk:rp g len h k=none) (hm:k<=m):rp g len h m=none:=by
 have:=rp_none hk (m - k)
 rwa [show k+(m - k)=m by omega] at this
theorem rp_yes {g:Nat->I5} {len:Nat} {h:Nat->E3} {k:Nat} {S:S4} (hk:rp g len h k=some S) (hd:doB g len S.p S.rs S.os S.c (h k).k (h k).q (h k).v=true):rp g len h (k+1)=some (doS g len S.p S.rs S.os S.c (h k).k (h k).q (h k).v):=by
 show (rp g len h k).bind _=_
 rw [hk]
 show rpStep g len (h k) S=_
 unfold rpStep
 rw [if_pos hd]
theorem rp_no {g:Nat->I5} {len:Nat} {h:Nat->E3} {k:Nat} {S:S4} (hk:rp g len h k=some S) (hd:doB g len S.p S.rs S.os S.c (h k).k (h k).q (h k).v=false):rp g len h (k+1)=none:=by
 show (rp g len h k).bind _=_
 rw [hk]
 show rpStep g len (h k) S=_
 unfold rpStep
 rw [if_neg (by rw [hd];decide)]
def resS (o:Option S4):S4:=o.getD ⟨0,[],[],0⟩
theorem prog_len {g:Nat->I5} {len:Nat} (hp:progOkB g len 4=true):1<=len/\len<=30:=by
 simp only [progOkB,Bool.and_eq_true] at hp
 have:=hp.2.1
 simp [inB] at this
 omega
theorem newS_ok {g:Nat->I5} {len:Nat} (hp:progOkB g len 4=true):OkS len newS:=by
 have:=prog_len hp
 exact stOk_mk rfl (by simp [newS,allN,numB,inB]) (by simp [newS]) (by simp [belB,newS];omega) (by simp [newS]) rfl
theorem right_of {g:Nat->I5} {len:Nat} {S:S4} (hp:progOkB g len 4=true) (hS:OkS len S) (hc:S.c=0):rightB g len S.p S.rs S.os S.c=true:=by
 unfold OkS at hS
 rw [rightB,hp,hS,hc]
 rfl
theorem doB_code {g:Nat->I5} {len:Nat} {S:S4} {k q v:Int} (hc:S.c≠0):doB g len S.p S.rs S.os S.c k q v=false:=by
 rcases zK (doB g len S.p S.rs S.os S.c k q v) with h | h
 ·obtain ⟨-,-,h0⟩:=right_parts (doB_right h)
  exact absurd h0 hc
 ·exact h
theorem OkS.len {n:Nat} {S:S4} (h:OkS n S):S.rs.length=4/\S.os.length<=60:=by
 obtain ⟨⟨a,b,c,d,e,-⟩,-,h60,-⟩:=st_parts h
 exact ⟨by rw [e];rfl,h60⟩
