import Derived.Test.YtnfdnnmddadmkaaGreatDoorOg13
namespace Go.Proofs.YtnfdnnmddadmkaaGreatDoor
set_option maxHeartbeats 1000000
open Go.RowKit
theorem qg7 (np nv k p v:Int):canB 3 np nv k p v=((k == 3) && numB v && (if np=9 then belB p 4 else p == np)):=by
 unfold canB
 rw [if_pos rfl]
theorem qea {nk:Int} (h3:nk≠3) (h0:nk≠0) (np nv k p v:Int):canB nk np nv k p v=qek k p v nk np nv:=by
 unfold canB qek
 rw [if_neg h3]
 have:(nk != 0)=true:=by simp [h0]
 rw [this,Bool.true_and]
theorem qfr {a b c a' b' c':Int} (h:qek a b c a' b' c'=true):a=a'/\b=b'/\c=c':=by
 simpa [qek] using h
theorem qri {x:I5} {len:Int} (h:qag x.o x.r x.a x.b x.n len 4=true) (h7:x.o=7):x.n=9\/(0<=x.n/\x.n<=3):=by
 simp only [qag,Bool.and_eq_true] at h
 have h5:=h.2
 unfold qbi at h5
 rw [h7] at h5
 simp [inB] at h5
 omega
def qc7 (w:World) (s:S4) (t:Bool) (e:Ending) (w':World):Prop:=∃ v,e=.returned (.tuple #[v,.bool t])/\qaf w' w.heap.size v s.p s.rs s.os s.c/\Below w.heap.size w w'
theorem qnv (b off len cap k:Nat) (g:Nat->I5) (ra oa:Option Addr) (rc oc:Nat) (rs os:List Int) (ek eq ev:Int) (w:World) (hb:b<w.heap.size) (hI:qan w b off len g) (h1:Sl w ra rs) (h2:Sl w oa os) (hR:qb0 g len (k:Int) rs os 0=true):
  Calls Tryz.prog 107 #[.slice (some ⟨b,off,none⟩) len cap,stV k ra rs.length rc oa os.length oc 0,evV ek eq ev] w (qc7 w (doS g len k rs os 0 ek eq ev) (doB g len k rs os 0 ek eq ev)):=by
 obtain ⟨hp,hs,-⟩:=qba hR
 obtain ⟨⟨r0,r1,r2,r3,hrs,hn0,hn1,hn2,hn3⟩,⟨k',hkk,hk'⟩,h60,hall⟩:=qb4 hs
 obtain rfl:k=k':=by omega
 have hk:=hk'
 have h4:rs.length=4:=by rw [hrs];rfl
 have hnum:allN rs=true:=by rw [hrs];simp [allN,hn0,hn1,hn2,hn3]
 have hl:(len:Int)<=30:=by
  simp only [qad,Bool.and_eq_true] at hp
  have:=hp.2.1
  simp [inB] at this
  omega
 have hins:=qbs hp hk
 obtain ⟨⟨o1,o11⟩,-⟩:=qcd hins
 have hN:∀ K P V,evK (g k).o=K->evP (g k).o (g k).n=P->evW (g k).o (g k).a rs=V->doB g len k rs os 0 ek eq ev=canB K P V ek eq ev:=by
  intro K P V hK hP hV
  unfold doB nxK nxP nxW
  rw [if_pos hR,if_pos hR,if_pos hR,Int.toNat_natCast,hK,hP,hV]
 have hno:doB g len k rs os 0 ek eq ev=false->doS g len k rs os 0 ek eq ev=⟨k,rs,os,0⟩:=fun h=>by
  unfold doS
  rw [if_neg (by rw [h];decide)]
 have hyes:doB g len k rs os 0 ek eq ev=true->doS g len k rs os 0 ek eq ev=qae len (g k) k rs os 0 ev:=fun h=>by
  unfold doS
  rw [if_pos h,Int.toNat_natCast]
 by_cases h7:(g k).o=7
 ·have eK:evK (g k).o=3:=by rw [h7];rfl
  have eP:evP (g k).o (g k).n=(g k).n:=by rw [h7];rfl
  have eV:evW (g k).o (g k).a rs=0:=by rw [h7];rfl
  have hc:=hN _ _ _ eK eP eV
  rw [qg7] at hc
  have HN:Hid (evK (g k).o=3/\evP (g k).o (g k).n=(g k).n/\evW (g k).o (g k).a rs=0):=⟨eK,eP,eV⟩
  rcases zK (ek == 3) with t1 | t1
  case inr=>
   rw [t1] at hc
   rw [hc,hno hc]
   exact qc2 b off len cap k g ra oa rc oc rs os ek eq ev w hl hb hI h4 h60 h1 h2 hk hp _ _ HN (.inl (by simpa using t1))
  have t1':(ek != 3)=false:=by simpa using t1
  obtain rfl:ek=3:=by simpa using t1
  rcases zK (numB ev) with t2 | t2
  case inr=>
   rw [t2] at hc
   rw [hc,hno hc]
   exact qc2 b off len cap k g ra oa rc oc rs os 3 eq ev w hl hb hI h4 h60 h1 h2 hk hp _ _ HN (.inr (.inl ⟨t1',t2⟩))
  rcases qri hins h7 with h9 | ⟨n0,n3⟩
  ·have t3:((g k).n != 9)=false:=by simp [h9]
   rw [t1,t2,h9,if_pos rfl] at hc
   have hb4:inB eq 0 3=belB eq 4:=qp8 eq 4
   rcases zK (belB eq 4) with t5 | t5
   ·rw [t5] at hc
    rw [hc,hyes hc]
    exact qi4 b off len cap k g ra oa rc oc rs os eq ev w hl hb hI h4 h60 h1 h2 hk hp _ _ HN h7 t2 t3 (hb4.trans t5)
   ·rw [t5] at hc
    rw [hc,hno hc]
    exact qc2 b off len cap k g ra oa rc oc rs os 3 eq ev w hl hb hI h4 h60 h1 h2 hk hp _ _ HN (.inr (.inr (.inr ⟨t1',t2,t3,hb4.trans t5⟩)))
  ·have t3:((g k).n != 9)=true:=by simp;omega
   rw [t1,t2,if_neg (by omega)] at hc
   rcases zK (eq == (g k).n) with t4 | t4
   ·have e4:eq=(g k).n:=by simpa using t4
    rw [t4] at hc
    rw [hc,hyes hc]
    exact qi5 b off len cap k g ra oa rc oc rs os eq ev w hl hb hI h4 h60 h1 h2 hk hp _ _ HN h7 t2 t3 (by simpa using t4) (by simp [inB];omega)
   ·rw [t4] at hc
    rw [hc,hno hc]
    exact qc2 b off len cap k g ra oa rc oc rs os 3 eq ev w hl hb hI h4 h60 h1 h2 hk hp _ _ HN (.inr (.inr (.inl ⟨t1',t2,t3,by simpa using t4⟩)))
 by_cases h6:(g k).o=6
 ·have eK:evK (g k).o=2:=by rw [h6];rfl
  have hc:=hN _ _ _ eK rfl rfl
  rw [qea (by decide) (by decide)] at hc
  have HN:Hid (evK (g k).o=2/\evP (g k).o (g k).n=evP (g k).o (g k).n/\evW (g k).o (g k).a rs=evW (g k).o (g k).a rs):=⟨eK,rfl,rfl⟩
  rcases zK (qek ek eq ev 2 (evP (g k).o (g k).n) (evW (g k).o (g k).a rs)) with t | t
  ·obtain ⟨rfl,rfl,rfl⟩:=qfr t
   rw [t] at hc
   rw [hc,hyes hc]
   exact qqg b off len cap k g ra oa rc oc rs os w hl hb hI h4 h60 h1 h2 hk hp _ _ HN h6
  ·rw [t] at hc
   rw [hc,hno hc]
   exact qmn b off len cap k g ra oa rc oc rs os ek eq ev w hl hb hI h4 h60 h1 h2 hk hp 2 _ _ rfl HN t
 by_cases h8:(g k).o=8
 ·have eK:evK (g k).o=4:=by rw [h8];rfl
  have hc:=hN _ _ _ eK rfl rfl
  rw [qea (by decide) (by decide)] at hc
  have HN:Hid (evK (g k).o=4/\evP (g k).o (g k).n=evP (g k).o (g k).n/\evW (g k).o (g k).a rs=evW (g k).o (g k).a rs):=⟨eK,rfl,rfl⟩
  rcases zK (qek ek eq ev 4 (evP (g k).o (g k).n) (evW (g k).o (g k).a rs)) with t | t
  ·obtain ⟨rfl,rfl,rfl⟩:=qfr t
   rw [t] at hc
   rw [hc,hyes hc]
   by_cases h:os.length=60
   ·exact qqf b off len cap k g ra oa rc oc rs os w hl hb hI h4 h60 h1 h2 hk hp _ _ HN ⟨h8,h⟩ (by simp [h])
   ·exact qoy b off len cap k g ra oa rc oc rs os w hl hb hI h4 h60 h1 h2 hk hp _ _ HN ⟨h8,h⟩ (by simp;omega)
  ·rw [t] at hc
   rw [hc,hno hc]
   exact qmn b off len cap k g ra oa rc oc rs os ek eq ev w hl hb hI h4 h60 h1 h2 hk hp 4 _ _ rfl HN t
 have eK:evK (g k).o=1:=by unfold evK;rw [if_neg h6,if_neg h7,if_neg h8]
 have eV:evW (g k).o (g k).a rs=0:=by unfold evW;rw [if_neg h6,if_neg h8]
 have hc:=hN _ _ _ eK rfl eV
 rw [qea (by decide) (by decide)] at hc
 have HN:Hid (evK (g k).o=1/\evP (g k).o (g k).n=evP (g k).o (g k).n/\evW (g k).o (g k).a rs=0):=⟨eK,rfl,eV⟩
 rcases zK (qek ek eq ev 1 (evP (g k).o (g k).n) 0) with t | t
 ·obtain ⟨rfl,rfl,rfl⟩:=qfr t
  rw [t] at hc
  rw [hc,hyes hc]
  exact qox b off len cap k g ra oa rc oc rs os w hl hb hI h4 h60 h1 h2 hk hp _ HN ⟨hnum,h6,h7,h8⟩
 ·rw [t] at hc
  rw [hc,hno hc]
  exact qmn b off len cap k g ra oa rc oc rs os ek eq ev w hl hb hI h4 h60 h1 h2 hk hp 1 _ _ rfl HN t
