import Derived.Test.YtkdablcbhhphoaaGreatDoorMt6
namespace Go.Proofs.YtkdablcbhhphoaaGreatDoor
open Go.Proofs.Tryz
set_option maxRecDepth 100000
set_option maxHeartbeats 4000000
open Go.RowKit
theorem qdj (b off len cap k:Nat) (g:Nat->I5) (G rc:Nat) (oa:Option Addr) (on oc:Nat) (code:Int) (rs:List Int) (B:Nat) (w:World) (hl:(len:Int)<=30) (hb:b<w.heap.size) (hI:qao w b off len g) (hO:OwnI w B (sG G 4 rc) rs) (h4:rs.length=4) (hk:k<len) (jr ja jb:Nat) (hr:(g k).r=jr) (ha:(g k).a=ja) (hbb:(g k).b=jb) (jr3:jr<4) (ja3:ja<4) (jb3:jb<4) (hnum:∀ j,j<4->numB (zi rs j)=true) (os:List Int) (o V:Int) (ho:(g k).o=o) (hV:(o=1/\V=(g k).n)\/(o=2/\V=zi rs ja+zi rs jb)\/(o=3/\V=zi rs ja - zi rs jb)\/(o=4/\V=zi rs ja*zi rs jb)\/(o=5/\V=1/\zi rs ja<zi rs jb)\/(o=5/\V=0/\¬ zi rs ja<zi rs jb)):
  Calls prog 161 #[.slice (some ⟨b,off,none⟩) len cap,stV k (some ⟨G,0,none⟩) 4 rc oa on oc code] w fun e w'=>e=.returned (stV (qah len (g k) k rs os code 0).p (some ⟨G,0,none⟩) 4 rc oa on oc (qah len (g k) k rs os code 0).c)/\OwnI w' B (sG G 4 rc) (qah len (g k) k rs os code 0).rs/\w.grownBy w' (some G):=by
 have hk':(k:Int)<(len:Int):=by omega
 obtain ⟨c0,c1,c2,c3,c4⟩:=hI k hk;rw [hr] at c1;rw [ha] at c2;rw [hbb] at c3;have hGl:G<w.heap.size:=(hO.lt G rfl).2;have HO:Hid (OwnI w B (sG G 4 rc) rs):=hO;have ca:w.cell? ⟨G,ja,none⟩=some (.int .i64 (zi rs ja)):=by rw [<- h4] at hO ja3;exact hO.cell ja3
 have cb:w.cell? ⟨G,jb,none⟩=some (.int .i64 (zi rs jb)):=by rw [<- h4] at hO jb3;exact hO.cell jb3
 have cr:w.cell? ⟨G,jr,none⟩=some (.int .i64 (zi rs jr)):=by rw [<- h4] at hO jr3;exact hO.cell jr3
 have fr:w.frozen? ⟨G,jr,none⟩=false:=by rw [<- h4] at hO;exact hO.frozen jr
 have na:=qbs.1 (hnum ja ja3);have nb:=qbs.1 (hnum jb jb3);have mb:=qcz (hnum ja ja3) (hnum jb jb3);obtain ⟨na1,na2⟩:=na;obtain ⟨nb1,nb2⟩:=nb;obtain ⟨mb1,mb2⟩:=mb;have hG1:G<w.heap.size+1:=by omega
 have hG2:G<w.heap.size+1+1:=by omega
 have jr':(jr:Int)<4:=by omega
 have ja':(ja:Int)<4:=by omega
 have jb':(jb:Int)<4:=by omega
 have hn0:-1000000000<=(g k).n\/True:=.inr trivial;have HH:Hid (rs.length=4/\(g k).r=jr/\(g k).a=ja/\(g k).b=jb/\(g k).o=o):=⟨h4,hr,ha,hbb,ho⟩
 have hv:qkk (g k).o (zi rs (g k).a.toNat) (zi rs (g k).b.toNat) (g k).n=V:=by
  have e1:(g k).a.toNat=ja:=by rw [HH.2.2.1];exact nF ja
  have e2:(g k).b.toNat=jb:=by rw [HH.2.2.2.1];exact nF jb
  rw [HH.2.2.2.2,e1,e2]
  rcases hV with ⟨rfl,rfl⟩ | ⟨rfl,rfl⟩ | ⟨rfl,rfl⟩ | ⟨rfl,rfl⟩ | ⟨rfl,rfl,h⟩ | ⟨rfl,rfl,h⟩
  ·rfl
  ·rfl
  ·rfl
  ·rfl
  ·exact nC h
  ·exact nB h
 have er:(g k).r.toNat=jr:=by rw [HH.2.1];exact nF jr
 have h6:o<=5:=by
  rcases hV with h | h | h | h | h | h
  all_goals omega
 have HF:Hid (∀ (ob:Obj) nq,Below w.heap.size w ((((w.alloc (oQ1 k (some ⟨G,0,none⟩) 4 rc oa on oc code)).alloc (zQ0)).alloc ob).drewN nq)/\OwnI (((((w.alloc (oQ1 k (some ⟨G,0,none⟩) 4 rc oa on oc code)).alloc (zQ0)).alloc ob).drewN nq).setCell ⟨G,jr,none⟩ (.int .i64 V)) B (sG G 4 rc) (rs.set jr V)/\w.grownBy (((((w.alloc (oQ1 k (some ⟨G,0,none⟩) 4 rc oa on oc code)).alloc (zQ0)).alloc ob).drewN nq).setCell ⟨G,jr,none⟩ (.int .i64 V)) (some G)):=fun ob nq=>by
  have hbW:Below w.heap.size w (((w.alloc (oQ1 k (some ⟨G,0,none⟩) 4 rc oa on oc code)).alloc (zQ0)).alloc ob):=by go_grown
  exact ⟨yB hbW nq,(((HO.bw hbW).drewN nq).set HH.1.symm jr _).1,zU (p:=⟨G,jr,none⟩) (qp3 (qbt (zY hbW) _) nq) (.inl rfl) _⟩
 have hd:qah len (g k) k rs os code 0=if numB V=true then goS len k (rs.set jr V) os code else ⟨k,rs,os,2⟩:=by
  unfold qah;rw [HH.2.2.2.2] at hv ⊢;rw [nB (by omega),nB (by omega),nB (by omega),nB (by omega),nB (by omega),nB (by omega),hv,er]
 rcases zK (numB V) with tn | tn
 ·rw [nC tn] at hd
  rw [hd];have tn1:inB V (-1000000000) 1000000000=true:=tn;clear hd hv tn er hr ha hbb hnum hI hO h4 h6
  rcases hV with ⟨rfl,rfl⟩ | ⟨rfl,rfl⟩ | ⟨rfl,rfl⟩ | ⟨rfl,rfl⟩ | ⟨rfl,rfl,hab⟩ | ⟨rfl,rfl,hab⟩
  all_goals
   rw [ho] at c0;clear ho
   go_enter func161,ntmps161
   go_wp2_with fail
   go_quiet (fail)
   go_wp2_with (go_at_call 158;refine (l1Num_any _ _).mono ?_;rintro e w' ⟨rfl,rfl⟩)
   refine (qel _ _ _ _ _ _ _ _ _ _ _ _ (by omega) (by omega)).mono ?_;rintro e w1 ⟨rfl,b1⟩;obtain ⟨hc1,hf1⟩:=qap b1;have HW1:Hid (OwnI w1 B (sG G 4 rc) (rs.set jr _)/\w.grownBy w1 (some G)):=⟨(HF.out _ _).2.1.bw b1,(HF.out _ _).2.2.trans (qbt (zY b1) _)⟩
   clear b1 HF;go_wp2;refine bodyPost_ret (v:=stV (goP len k) (some ⟨G,0,none⟩) 4 rc oa on oc (goC len k code)) (by simp [results,results161,go_sem,hc1]) rfl ⟨rfl,?_,?_⟩
   ·repeat (refine OwnI.setOther ?_ (by simp [Value.ownBlock];omega) _)
    exact HW1.1
   ·repeat (refine zU ?_ (.inr (by simp)) _)
    exact HW1.2
 ·rw [nB (by rw [tn];decide)] at hd
  rw [hd];have tn1:inB V (-1000000000) 1000000000=false:=tn;clear hd hv tn er hr ha hbb hnum hI hO h4 h6
  rcases hV with ⟨rfl,rfl⟩ | ⟨rfl,rfl⟩ | ⟨rfl,rfl⟩ | ⟨rfl,rfl⟩ | ⟨rfl,rfl,hab⟩ | ⟨rfl,rfl,hab⟩
  all_goals (try exact absurd tn1 (by decide))
  all_goals
   rw [ho] at c0;clear ho
   go_enter func161,ntmps161
   go_wp2_with fail
   go_quiet (fail)
   go_wp2_with (go_at_call 158;refine (l1Num_any _ _).mono ?_;rintro e w' ⟨rfl,rfl⟩)
   refine (qe5 _ _ _ _ _ _ _ _ _).mono ?_;rintro e w1 ⟨rfl,b1⟩;obtain ⟨hc1,hf1⟩:=qap b1;have b1':Below w.heap.size w w1:=(HF.out _ _).1.trans (b1.mono (HF.out _ _).1.size);have HW1:Hid (OwnI w1 B (sG G 4 rc) rs/\w.grownBy w1 (some G)):=⟨HO.bw b1',qbt (zY b1') _⟩
   clear b1 b1' HF;go_wp2;refine bodyPost_ret (v:=stV k (some ⟨G,0,none⟩) 4 rc oa on oc 2) (by simp [results,results161,go_sem,hc1]) rfl ⟨rfl,?_,?_⟩
   ·repeat (refine OwnI.setOther ?_ (by simp [Value.ownBlock];omega) _)
    exact HW1.1
   ·repeat (refine zU ?_ (.inr (by simp)) _)
    exact HW1.2
theorem qu9 (b off len cap k:Nat) (g:Nat->I5) (G rc:Nat) (oa:Option Addr) (on oc:Nat) (code:Int) (rs:List Int) (B:Nat) (w:World) (_hl:(len:Int)<=30) (hb:b<w.heap.size) (hI:qao w b off len g) (hO:OwnI w B (sG G 4 rc) rs) (h4:rs.length=4) (hk:k<len) (jr ja jb:Nat) (hr:(g k).r=jr) (ha:(g k).a=ja) (hbb:(g k).b=jb) (jr3:jr<4) (ja3:ja<4) (jb3:jb<4) (ho:(g k).o=9) (hnum:∀ j,j<4->numB (zi rs j)=true) (os:List Int):
  Calls prog 161 #[.slice (some ⟨b,off,none⟩) len cap,stV k (some ⟨G,0,none⟩) 4 rc oa on oc code] w fun e w'=>e=.returned (stV (qah len (g k) k rs os code 0).p (some ⟨G,0,none⟩) 4 rc oa on oc (qah len (g k) k rs os code 0).c)/\OwnI w' B (sG G 4 rc) (qah len (g k) k rs os code 0).rs/\w.grownBy w' (some G):=by
 have hk':(k:Int)<(len:Int):=by omega
 obtain ⟨c0,c1,c2,c3,c4⟩:=hI k hk;rw [ho] at c0;rw [hr] at c1;rw [ha] at c2;rw [hbb] at c3;have hGl:G<w.heap.size:=(hO.lt G rfl).2;have HO:Hid (OwnI w B (sG G 4 rc) rs):=hO;have ca:w.cell? ⟨G,ja,none⟩=some (.int .i64 (zi rs ja)):=by rw [<- h4] at hO ja3;exact hO.cell ja3
 have cb:w.cell? ⟨G,jb,none⟩=some (.int .i64 (zi rs jb)):=by rw [<- h4] at hO jb3;exact hO.cell jb3
 have cr:w.cell? ⟨G,jr,none⟩=some (.int .i64 (zi rs jr)):=by rw [<- h4] at hO jr3;exact hO.cell jr3
 have fr:w.frozen? ⟨G,jr,none⟩=false:=by rw [<- h4] at hO;exact hO.frozen jr
 have na:=qbs.1 (hnum ja ja3);have nb:=qbs.1 (hnum jb jb3);have mb:=qcz (hnum ja ja3) (hnum jb jb3);obtain ⟨na1,na2⟩:=na;obtain ⟨nb1,nb2⟩:=nb;obtain ⟨mb1,mb2⟩:=mb;have hG1:G<w.heap.size+1:=by omega
 have hG2:G<w.heap.size+1+1:=by omega
 have jr':(jr:Int)<4:=by omega
 have ja':(ja:Int)<4:=by omega
 have jb':(jb:Int)<4:=by omega
 have hn0:-1000000000<=(g k).n\/True:=.inr trivial;have HH:Hid (rs.length=4/\(g k).r=jr/\(g k).a=ja/\(g k).b=jb/\(g k).o=9):=⟨h4,hr,ha,hbb,ho⟩
 have ea:(g k).a.toNat=ja:=by rw [HH.2.2.1];exact nF ja
 have hd:qah len (g k) k rs os code 0=⟨(g k).n,rs,os,code⟩:=by
  unfold qah;rw [HH.2.2.2.2];rw [nB (by decide),nB (by decide),nB (by decide),nC rfl]
 rw [hd];clear hd ea hr ha hbb ho hnum hI hO h4
 go_enter func161,ntmps161
 go_wp2_with fail
 go_quiet (fail)
 have s0:((((w.alloc (oQ1 k (some ⟨G,0,none⟩) 4 rc oa on oc code)).alloc (zQ0)).alloc (oQ2 9 jr ja jb (g k).n)).drewN nq).cell? ⟨w.heap.size,0,none⟩=some (.int .i64 k):=(zQ (w:=(w.alloc (oQ1 k (some ⟨G,0,none⟩) 4 rc oa on oc code)).alloc (zQ0)) _ _ (by simp;omega)).trans ((zQ (w:=w.alloc (oQ1 k (some ⟨G,0,none⟩) 4 rc oa on oc code)) _ _ (by simp)).trans (by simp));have s1:((((w.alloc (oQ1 k (some ⟨G,0,none⟩) 4 rc oa on oc code)).alloc (zQ0)).alloc (oQ2 9 jr ja jb (g k).n)).drewN nq).cell? ⟨w.heap.size,1,none⟩=some (sG G 4 rc):=(zQ (w:=(w.alloc (oQ1 k (some ⟨G,0,none⟩) 4 rc oa on oc code)).alloc (zQ0)) _ _ (by simp;omega)).trans ((zQ (w:=w.alloc (oQ1 k (some ⟨G,0,none⟩) 4 rc oa on oc code)) _ _ (by simp)).trans (by simp));have s2:((((w.alloc (oQ1 k (some ⟨G,0,none⟩) 4 rc oa on oc code)).alloc (zQ0)).alloc (oQ2 9 jr ja jb (g k).n)).drewN nq).cell? ⟨w.heap.size,2,none⟩=some (.slice oa on oc):=(zQ (w:=(w.alloc (oQ1 k (some ⟨G,0,none⟩) 4 rc oa on oc code)).alloc (zQ0)) _ _ (by simp;omega)).trans ((zQ (w:=w.alloc (oQ1 k (some ⟨G,0,none⟩) 4 rc oa on oc code)) _ _ (by simp)).trans (by simp));have s3:((((w.alloc (oQ1 k (some ⟨G,0,none⟩) 4 rc oa on oc code)).alloc (zQ0)).alloc (oQ2 9 jr ja jb (g k).n)).drewN nq).cell? ⟨w.heap.size,3,none⟩=some (.int .i64 code):=(zQ (w:=(w.alloc (oQ1 k (some ⟨G,0,none⟩) 4 rc oa on oc code)).alloc (zQ0)) _ _ (by simp;omega)).trans ((zQ (w:=w.alloc (oQ1 k (some ⟨G,0,none⟩) 4 rc oa on oc code)) _ _ (by simp)).trans (by simp));go_wp2;have hbW:Below w.heap.size w ((((w.alloc (oQ1 k (some ⟨G,0,none⟩) 4 rc oa on oc code)).alloc (zQ0)).alloc (oQ2 9 jr ja jb (g k).n)).drewN nq):=yB (by go_grown) nq
 have HW1:Hid (OwnI ((((w.alloc (oQ1 k (some ⟨G,0,none⟩) 4 rc oa on oc code)).alloc (zQ0)).alloc (oQ2 9 jr ja jb (g k).n)).drewN nq) B (sG G 4 rc) rs/\w.grownBy ((((w.alloc (oQ1 k (some ⟨G,0,none⟩) 4 rc oa on oc code)).alloc (zQ0)).alloc (oQ2 9 jr ja jb (g k).n)).drewN nq) (some G)):=⟨HO.bw hbW,qbt (zY hbW) _⟩
 refine bodyPost_ret (v:=stV (g k).n (some ⟨G,0,none⟩) 4 rc oa on oc code) (by simp [results,results161,go_sem]) rfl ⟨rfl,?_,?_⟩
 ·repeat (refine OwnI.setOther ?_ (by simp [Value.ownBlock];omega) _)
  exact HW1.1
 ·repeat (refine zU ?_ (.inr (by simp)) _)
  exact HW1.2
theorem qtc (b off len cap k:Nat) (g:Nat->I5) (G rc:Nat) (oa:Option Addr) (on oc:Nat) (code:Int) (rs:List Int) (B:Nat) (w:World) (hl:(len:Int)<=30) (hb:b<w.heap.size) (hI:qao w b off len g) (hO:OwnI w B (sG G 4 rc) rs) (h4:rs.length=4) (hk:k<len) (jr ja jb:Nat) (hr:(g k).r=jr) (ha:(g k).a=ja) (hbb:(g k).b=jb) (jr3:jr<4) (ja3:ja<4) (jb3:jb<4) (ho:(g k).o=10) (hnum:∀ j,j<4->numB (zi rs j)=true) (os:List Int):
  Calls prog 161 #[.slice (some ⟨b,off,none⟩) len cap,stV k (some ⟨G,0,none⟩) 4 rc oa on oc code] w fun e w'=>e=.returned (stV (qah len (g k) k rs os code 0).p (some ⟨G,0,none⟩) 4 rc oa on oc (qah len (g k) k rs os code 0).c)/\OwnI w' B (sG G 4 rc) (qah len (g k) k rs os code 0).rs/\w.grownBy w' (some G):=by
 have hk':(k:Int)<(len:Int):=by omega
 obtain ⟨c0,c1,c2,c3,c4⟩:=hI k hk;rw [ho] at c0;rw [hr] at c1;rw [ha] at c2;rw [hbb] at c3;have hGl:G<w.heap.size:=(hO.lt G rfl).2;have HO:Hid (OwnI w B (sG G 4 rc) rs):=hO;have ca:w.cell? ⟨G,ja,none⟩=some (.int .i64 (zi rs ja)):=by rw [<- h4] at hO ja3;exact hO.cell ja3
 have cb:w.cell? ⟨G,jb,none⟩=some (.int .i64 (zi rs jb)):=by rw [<- h4] at hO jb3;exact hO.cell jb3
 have cr:w.cell? ⟨G,jr,none⟩=some (.int .i64 (zi rs jr)):=by rw [<- h4] at hO jr3;exact hO.cell jr3
 have fr:w.frozen? ⟨G,jr,none⟩=false:=by rw [<- h4] at hO;exact hO.frozen jr
 have na:=qbs.1 (hnum ja ja3);have nb:=qbs.1 (hnum jb jb3);have mb:=qcz (hnum ja ja3) (hnum jb jb3);obtain ⟨na1,na2⟩:=na;obtain ⟨nb1,nb2⟩:=nb;obtain ⟨mb1,mb2⟩:=mb;have hG1:G<w.heap.size+1:=by omega
 have hG2:G<w.heap.size+1+1:=by omega
 have jr':(jr:Int)<4:=by omega
 have ja':(ja:Int)<4:=by omega
 have jb':(jb:Int)<4:=by omega
 have hn0:-1000000000<=(g k).n\/True:=.inr trivial;have HH:Hid (rs.length=4/\(g k).r=jr/\(g k).a=ja/\(g k).b=jb/\(g k).o=10):=⟨h4,hr,ha,hbb,ho⟩
 have ea:(g k).a.toNat=ja:=by rw [HH.2.2.1];exact nF ja
 rcases zK (zi rs ja == 0) with t0 | t0
 ·have z0:zi rs ja=0:=by simpa using t0
  have hd:qah len (g k) k rs os code 0=⟨(g k).n,rs,os,code⟩:=by
   unfold qah;rw [HH.2.2.2.2];rw [nB (by decide),nB (by decide),nB (by decide),nB (by decide),nC rfl,ea,nC z0]
  rw [hd];clear z0;clear hd ea hr ha hbb ho hnum hI hO h4
  go_enter func161,ntmps161
  go_wp2_with fail
  go_quiet (fail)
  have s0:((((w.alloc (oQ1 k (some ⟨G,0,none⟩) 4 rc oa on oc code)).alloc (zQ0)).alloc (oQ2 10 jr ja jb (g k).n)).drewN nq).cell? ⟨w.heap.size,0,none⟩=some (.int .i64 k):=(zQ (w:=(w.alloc (oQ1 k (some ⟨G,0,none⟩) 4 rc oa on oc code)).alloc (zQ0)) _ _ (by simp;omega)).trans ((zQ (w:=w.alloc (oQ1 k (some ⟨G,0,none⟩) 4 rc oa on oc code)) _ _ (by simp)).trans (by simp));have s1:((((w.alloc (oQ1 k (some ⟨G,0,none⟩) 4 rc oa on oc code)).alloc (zQ0)).alloc (oQ2 10 jr ja jb (g k).n)).drewN nq).cell? ⟨w.heap.size,1,none⟩=some (sG G 4 rc):=(zQ (w:=(w.alloc (oQ1 k (some ⟨G,0,none⟩) 4 rc oa on oc code)).alloc (zQ0)) _ _ (by simp;omega)).trans ((zQ (w:=w.alloc (oQ1 k (some ⟨G,0,none⟩) 4 rc oa on oc code)) _ _ (by simp)).trans (by simp));have s2:((((w.alloc (oQ1 k (some ⟨G,0,none⟩) 4 rc oa on oc code)).alloc (zQ0)).alloc (oQ2 10 jr ja jb (g k).n)).drewN nq).cell? ⟨w.heap.size,2,none⟩=some (.slice oa on oc):=(zQ (w:=(w.alloc (oQ1 k (some ⟨G,0,none⟩) 4 rc oa on oc code)).alloc (zQ0)) _ _ (by simp;omega)).trans ((zQ (w:=w.alloc (oQ1 k (some ⟨G,0,none⟩) 4 rc oa on oc code)) _ _ (by simp)).trans (by simp));have s3:((((w.alloc (oQ1 k (some ⟨G,0,none⟩) 4 rc oa on oc code)).alloc (zQ0)).alloc (oQ2 10 jr ja jb (g k).n)).drewN nq).cell? ⟨w.heap.size,3,none⟩=some (.int .i64 code):=(zQ (w:=(w.alloc (oQ1 k (some ⟨G,0,none⟩) 4 rc oa on oc code)).alloc (zQ0)) _ _ (by simp;omega)).trans ((zQ (w:=w.alloc (oQ1 k (some ⟨G,0,none⟩) 4 rc oa on oc code)) _ _ (by simp)).trans (by simp));go_wp2;have hbW:Below w.heap.size w ((((w.alloc (oQ1 k (some ⟨G,0,none⟩) 4 rc oa on oc code)).alloc (zQ0)).alloc (oQ2 10 jr ja jb (g k).n)).drewN nq):=yB (by go_grown) nq
  have HW1:Hid (OwnI ((((w.alloc (oQ1 k (some ⟨G,0,none⟩) 4 rc oa on oc code)).alloc (zQ0)).alloc (oQ2 10 jr ja jb (g k).n)).drewN nq) B (sG G 4 rc) rs/\w.grownBy ((((w.alloc (oQ1 k (some ⟨G,0,none⟩) 4 rc oa on oc code)).alloc (zQ0)).alloc (oQ2 10 jr ja jb (g k).n)).drewN nq) (some G)):=⟨HO.bw hbW,qbt (zY hbW) _⟩
  refine bodyPost_ret (v:=stV (g k).n (some ⟨G,0,none⟩) 4 rc oa on oc code) (by simp [results,results161,go_sem]) rfl ⟨rfl,?_,?_⟩
  ·repeat (refine OwnI.setOther ?_ (by simp [Value.ownBlock];omega) _)
   exact HW1.1
  ·repeat (refine zU ?_ (.inr (by simp)) _)
   exact HW1.2
 ·have z0:¬ zi rs ja=0:=by simpa using t0
  have hd:qah len (g k) k rs os code 0=goS len k rs os code:=by
   unfold qah;rw [HH.2.2.2.2];rw [nB (by decide),nB (by decide),nB (by decide),nB (by decide),nC rfl,ea,nB z0]
  rw [hd];clear z0;clear hd ea hr ha hbb ho hnum hI hO h4
  go_enter func161,ntmps161
  go_wp2_with fail
  go_quiet (fail)
  go_wp2_with fail
  have hbW:Below w.heap.size w ((((w.alloc (oQ1 k (some ⟨G,0,none⟩) 4 rc oa on oc code)).alloc (zQ0)).alloc (oQ2 10 jr ja jb (g k).n)).drewN nq):=yB (by go_grown) nq;refine (qel _ _ _ _ _ _ _ _ _ _ _ _ (by omega) (by omega)).mono ?_;rintro e w1 ⟨rfl,b1⟩;obtain ⟨hc1,hf1⟩:=qap b1;have b1':Below w.heap.size w w1:=hbW.trans (b1.mono hbW.size);have HW1:Hid (OwnI w1 B (sG G 4 rc) rs/\w.grownBy w1 (some G)):=⟨HO.bw b1',qbt (zY b1') _⟩
  clear b1 b1' hbW;go_wp2;refine bodyPost_ret (v:=stV (goP len k) (some ⟨G,0,none⟩) 4 rc oa on oc (goC len k code)) (by simp [results,results161,go_sem,hc1]) rfl ⟨rfl,?_,?_⟩
  ·repeat (refine OwnI.setOther ?_ (by simp [Value.ownBlock];omega) _)
   exact HW1.1
  ·repeat (refine zU ?_ (.inr (by simp)) _)
   exact HW1.2
theorem qtd (b off len cap k:Nat) (g:Nat->I5) (G rc:Nat) (oa:Option Addr) (on oc:Nat) (code:Int) (rs:List Int) (B:Nat) (w:World) (_hl:(len:Int)<=30) (hb:b<w.heap.size) (hI:qao w b off len g) (hO:OwnI w B (sG G 4 rc) rs) (h4:rs.length=4) (hk:k<len) (jr ja jb:Nat) (hr:(g k).r=jr) (ha:(g k).a=ja) (hbb:(g k).b=jb) (jr3:jr<4) (ja3:ja<4) (jb3:jb<4) (ho:(g k).o=11) (hnum:∀ j,j<4->numB (zi rs j)=true) (os:List Int):
  Calls prog 161 #[.slice (some ⟨b,off,none⟩) len cap,stV k (some ⟨G,0,none⟩) 4 rc oa on oc code] w fun e w'=>e=.returned (stV (qah len (g k) k rs os code 0).p (some ⟨G,0,none⟩) 4 rc oa on oc (qah len (g k) k rs os code 0).c)/\OwnI w' B (sG G 4 rc) (qah len (g k) k rs os code 0).rs/\w.grownBy w' (some G):=by
 have hk':(k:Int)<(len:Int):=by omega
 obtain ⟨c0,c1,c2,c3,c4⟩:=hI k hk;rw [ho] at c0;rw [hr] at c1;rw [ha] at c2;rw [hbb] at c3;have hGl:G<w.heap.size:=(hO.lt G rfl).2;have HO:Hid (OwnI w B (sG G 4 rc) rs):=hO;have ca:w.cell? ⟨G,ja,none⟩=some (.int .i64 (zi rs ja)):=by rw [<- h4] at hO ja3;exact hO.cell ja3
 have cb:w.cell? ⟨G,jb,none⟩=some (.int .i64 (zi rs jb)):=by rw [<- h4] at hO jb3;exact hO.cell jb3
 have cr:w.cell? ⟨G,jr,none⟩=some (.int .i64 (zi rs jr)):=by rw [<- h4] at hO jr3;exact hO.cell jr3
 have fr:w.frozen? ⟨G,jr,none⟩=false:=by rw [<- h4] at hO;exact hO.frozen jr
 have na:=qbs.1 (hnum ja ja3);have nb:=qbs.1 (hnum jb jb3);have mb:=qcz (hnum ja ja3) (hnum jb jb3);obtain ⟨na1,na2⟩:=na;obtain ⟨nb1,nb2⟩:=nb;obtain ⟨mb1,mb2⟩:=mb;have hG1:G<w.heap.size+1:=by omega
 have hG2:G<w.heap.size+1+1:=by omega
 have jr':(jr:Int)<4:=by omega
 have ja':(ja:Int)<4:=by omega
 have jb':(jb:Int)<4:=by omega
 have hn0:-1000000000<=(g k).n\/True:=.inr trivial;have HH:Hid (rs.length=4/\(g k).r=jr/\(g k).a=ja/\(g k).b=jb/\(g k).o=11):=⟨h4,hr,ha,hbb,ho⟩
 have ea:(g k).a.toNat=ja:=by rw [HH.2.2.1];exact nF ja
 have hd:qah len (g k) k rs os code 0=⟨k,rs,os,1⟩:=by
  unfold qah;rw [HH.2.2.2.2];rw [nB (by decide),nB (by decide),nB (by decide),nB (by decide),nB (by decide),nC rfl]
 rw [hd];clear hd ea hr ha hbb ho hnum hI hO h4
 go_enter func161,ntmps161
 go_wp2_with fail
 go_quiet (fail)
 have s0:((((w.alloc (oQ1 k (some ⟨G,0,none⟩) 4 rc oa on oc code)).alloc (zQ0)).alloc (oQ2 11 jr ja jb (g k).n)).drewN nq).cell? ⟨w.heap.size,0,none⟩=some (.int .i64 k):=(zQ (w:=(w.alloc (oQ1 k (some ⟨G,0,none⟩) 4 rc oa on oc code)).alloc (zQ0)) _ _ (by simp;omega)).trans ((zQ (w:=w.alloc (oQ1 k (some ⟨G,0,none⟩) 4 rc oa on oc code)) _ _ (by simp)).trans (by simp));have s1:((((w.alloc (oQ1 k (some ⟨G,0,none⟩) 4 rc oa on oc code)).alloc (zQ0)).alloc (oQ2 11 jr ja jb (g k).n)).drewN nq).cell? ⟨w.heap.size,1,none⟩=some (sG G 4 rc):=(zQ (w:=(w.alloc (oQ1 k (some ⟨G,0,none⟩) 4 rc oa on oc code)).alloc (zQ0)) _ _ (by simp;omega)).trans ((zQ (w:=w.alloc (oQ1 k (some ⟨G,0,none⟩) 4 rc oa on oc code)) _ _ (by simp)).trans (by simp));have s2:((((w.alloc (oQ1 k (some ⟨G,0,none⟩) 4 rc oa on oc code)).alloc (zQ0)).alloc (oQ2 11 jr ja jb (g k).n)).drewN nq).cell? ⟨w.heap.size,2,none⟩=some (.slice oa on oc):=(zQ (w:=(w.alloc (oQ1 k (some ⟨G,0,none⟩) 4 rc oa on oc code)).alloc (zQ0)) _ _ (by simp;omega)).trans ((zQ (w:=w.alloc (oQ1 k (some ⟨G,0,none⟩) 4 rc oa on oc code)) _ _ (by simp)).trans (by simp));have s3:((((w.alloc (oQ1 k (some ⟨G,0,none⟩) 4 rc oa on oc code)).alloc (zQ0)).alloc (oQ2 11 jr ja jb (g k).n)).drewN nq).cell? ⟨w.heap.size,3,none⟩=some (.int .i64 code):=(zQ (w:=(w.alloc (oQ1 k (some ⟨G,0,none⟩) 4 rc oa on oc code)).alloc (zQ0)) _ _ (by simp;omega)).trans ((zQ (w:=w.alloc (oQ1 k (some ⟨G,0,none⟩) 4 rc oa on oc code)) _ _ (by simp)).trans (by simp));go_wp2;have hbW:Below w.heap.size w ((((w.alloc (oQ1 k (some ⟨G,0,none⟩) 4 rc oa on oc code)).alloc (zQ0)).alloc (oQ2 11 jr ja jb (g k).n)).drewN nq):=yB (by go_grown) nq
 have HW1:Hid (OwnI ((((w.alloc (oQ1 k (some ⟨G,0,none⟩) 4 rc oa on oc code)).alloc (zQ0)).alloc (oQ2 11 jr ja jb (g k).n)).drewN nq) B (sG G 4 rc) rs/\w.grownBy ((((w.alloc (oQ1 k (some ⟨G,0,none⟩) 4 rc oa on oc code)).alloc (zQ0)).alloc (oQ2 11 jr ja jb (g k).n)).drewN nq) (some G)):=⟨HO.bw hbW,qbt (zY hbW) _⟩
 refine bodyPost_ret (v:=stV k (some ⟨G,0,none⟩) 4 rc oa on oc 1) (by simp [results,results161,go_sem]) rfl ⟨rfl,?_,?_⟩
 ·repeat (refine OwnI.setOther ?_ (by simp [Value.ownBlock];omega) _)
  exact HW1.1
 ·repeat (refine zU ?_ (.inr (by simp)) _)
  exact HW1.2
