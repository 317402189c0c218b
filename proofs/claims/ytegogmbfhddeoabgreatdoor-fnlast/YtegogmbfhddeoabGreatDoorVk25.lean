import Derived.Test.YtegogmbfhddeoabGreatDoorVk24
import Derived.Test.YtegogmbfhddeoabGreatDoorVk19
namespace Go.Proofs.YtegogmbfhddeoabGreatDoor
set_option maxRecDepth 100000
set_option maxHeartbeats 4000000
open Go.RowKit
theorem qd5 {n:Nat} {p code:Int} {rs os:List Int} (h1:rs.length=4) (h2:allN rs=true) (h3:0<=code/\code<=2) (h4:belB p n=true) (h5:os.length<=60) (h6:allN os=true):qcv n p rs os code=true:=by
 have e:inB code 0 2=true:=by simp [inB];omega
 have e5:((os.length:Int)<=60):=by omega
 simp [qcv,qcu,outB,h1,h2,e,h4,e5,h6]
theorem qnw {xs:List Int} {j:Nat} {v:Int} (h:allN xs=true) (hv:numB v=true):allN (xs.set j v)=true:=by
 unfold allN at h ⊢;rw [List.all_eq_true] at h ⊢;intro x hx
 rcases List.mem_or_eq_of_mem_set hx with h1 | h1
 ·exact h x h1
 ·rw [h1];exact hv
def OkS (len:Nat) (S:S4):Prop:=qcv len S.p S.rs S.os S.c=true
theorem qk4 {len k:Nat} {rs os:List Int} (hk:k<len) (h1:rs.length=4) (h2:allN rs=true) (h5:os.length<=60) (h6:allN os=true):OkS len (goS len k rs os 0):=by
 unfold OkS goS goP goC;by_cases h:(len:Int)<=(k:Int)+1
 ·simp only [h,if_true]
  exact qd5 h1 h2 (by omega) (by simp [belB];omega) h5 h6
 ·simp only [h,if_false]
  exact qd5 h1 h2 (by omega) (by simp [belB];omega) h5 h6
theorem qkv {g:Nat->I5} {len:Nat} {p:Int} {rs os:List Int} {code ek eq ev:Int} (hB:doB g len p rs os code ek eq ev=true):OkS len (doS g len p rs os code ek eq ev):=by
 have hR:=qc8 hB;obtain ⟨hp,hs,rfl⟩:=qba hR;obtain ⟨⟨a1,a2,a3,a4,rfl,n1,n2,n3,n4⟩,⟨k,rfl,hk⟩,h60,hN⟩:=qby hs
 have hS:doS g len k [a1,a2,a3,a4] os 0 ek eq ev=qac len (g k) k [a1,a2,a3,a4] os 0 ev:=by
  unfold doS;rw [if_pos hB,Int.toNat_natCast]
 rw [hS];have hins:=qbr hp hk;obtain ⟨⟨o1,o11⟩,⟨r0,r3⟩,⟨m0,m3⟩,⟨q0,q3⟩⟩:=qb9 hins;have hA:allN [a1,a2,a3,a4]=true:=by simp [allN,n1,n2,n3,n4]
 have hz:∀ j,j<4->numB (zi [a1,a2,a3,a4] j)=true:=fun j hj=>by
  match j,hj with
  | 0,_=>exact n1
  | 1,_=>exact n2
  | 2,_=>exact n3
  | 3,_=>exact n4
 have hkB:belB (k:Int) len=true:=by simp [belB];omega
 have hc:=hB;unfold doB nxK nxP nxW at hc;rw [if_pos hR,if_pos hR,if_pos hR,Int.toNat_natCast] at hc
 have v7:(g k).o=7->numB ev=true:=fun h=>by
  rw [h,show evK 7=3 from rfl,qg7] at hc;simp only [Bool.and_eq_true] at hc;exact hc.1.2
 have v8:(g k).o=8->numB ev=true:=fun h=>by
  rw [h,show evK 8=4 from rfl,qeb (by decide) (by decide)] at hc;unfold qej at hc;simp only [Bool.and_eq_true,beq_iff_eq] at hc;rw [hc.2.2];exact hz _ (by omega)
 unfold qac
 split
 ·exact qk4 hk rfl hA h60 hN
 split
 ·rename_i h7
  exact qk4 hk (by simp) (qnw hA (v7 h7)) h60 hN
 split
 ·rename_i h8
  split
  ·exact qd5 rfl hA (by simp) hkB h60 hN
  ·refine qk4 hk rfl hA (by simp;omega) ?_
   unfold allN at hN ⊢;rw [List.all_append,hN];simp [v8 h8]
 split
 ·rename_i h9
  exact qd5 rfl hA (by simp) (qja hins (.inl h9)) h60 hN
 split
 ·rename_i h10
  split
  ·exact qd5 rfl hA (by simp) (qja hins (.inr h10)) h60 hN
  ·exact qk4 hk rfl hA h60 hN
 split
 ·exact qd5 rfl hA (by simp) hkB h60 hN
 split
 ·rename_i hv
  exact qk4 hk (by simp) (qnw hA hv) h60 hN
 ·exact qd5 rfl hA (by simp) hkB h60 hN
def newS:S4:=⟨0,[0,0,0,0],[],0⟩
def qen (g:Nat->I5) (len:Nat) (x:E3) (S:S4):Option S4:=if doB g len S.p S.rs S.os S.c x.k x.q x.v=true then some (doS g len S.p S.rs S.os S.c x.k x.q x.v) else none
def rp (g:Nat->I5) (len:Nat) (h:Nat->E3):Nat->Option S4
 | 0=>some newS
 | k+1=>(rp g len h k).bind (qen g len (h k))
theorem qrv {g:Nat->I5} {len:Nat} {h:Nat->E3} {k:Nat} (hk:rp g len h k=none):∀ d,rp g len h (k+d)=none
 | 0=>hk
 | d+1=>by
  have:=qrv hk d;show (rp g len h (k+d)).bind _=none;rw [this];rfl
theorem qd0 {g:Nat->I5} {len:Nat} {h:Nat->E3} {k m:Nat} (hk:rp g len h k=none) (hm:k<=m):rp g len h m=none:=by
 have:=qrv hk (m - k)
 rwa [show k+(m - k)=m by omega] at this
theorem qom {g:Nat->I5} {len:Nat} {h:Nat->E3} {k:Nat} {S:S4} (hk:rp g len h k=some S) (hd:doB g len S.p S.rs S.os S.c (h k).k (h k).q (h k).v=true):rp g len h (k+1)=some (doS g len S.p S.rs S.os S.c (h k).k (h k).q (h k).v):=by
 show (rp g len h k).bind _=_;rw [hk];show qen g len (h k) S=_;unfold qen;rw [if_pos hd]
theorem qru {g:Nat->I5} {len:Nat} {h:Nat->E3} {k:Nat} {S:S4} (hk:rp g len h k=some S) (hd:doB g len S.p S.rs S.os S.c (h k).k (h k).q (h k).v=false):rp g len h (k+1)=none:=by
 show (rp g len h k).bind _=_;rw [hk];show qen g len (h k) S=_;unfold qen;rw [if_neg (by rw [hd];decide)]
def resS (o:Option S4):S4:=o.getD ⟨0,[],[],0⟩
theorem qjm {g:Nat->I5} {len:Nat} (hp:qab g len 4=true):1<=len/\len<=30:=by
 simp only [qab,Bool.and_eq_true] at hp;have:=hp.2.1;simp [inB] at this;omega
theorem qhk {g:Nat->I5} {len:Nat} (hp:qab g len 4=true):OkS len newS:=by
 have:=qjm hp;exact qd5 rfl (by simp [newS,allN,numB,inB]) (by simp [newS]) (by simp [belB,newS];omega) (by simp [newS]) rfl
theorem qok {g:Nat->I5} {len:Nat} {S:S4} (hp:qab g len 4=true) (hS:OkS len S) (hc:S.c=0):qbq g len S.p S.rs S.os S.c=true:=by
 unfold OkS at hS;rw [qbq,hp,hS,hc];rfl
theorem qsq {g:Nat->I5} {len:Nat} {S:S4} {k q v:Int} (hc:S.c≠0):doB g len S.p S.rs S.os S.c k q v=false:=by
 rcases zK (doB g len S.p S.rs S.os S.c k q v) with h | h
 ·obtain ⟨-,-,h0⟩:=qba (qc8 h)
  exact absurd h0 hc
 ·exact h
theorem OkS.len {n:Nat} {S:S4} (h:OkS n S):S.rs.length=4/\S.os.length<=60:=by
 obtain ⟨⟨a,b,c,d,e,-⟩,-,h60,-⟩:=qby h;exact ⟨by rw [e];rfl,h60⟩
open Go.Sort
structure Rl (w wr:World) (R Bs:Nat) (p code:Int) (ra:Option Addr) (rc:Nat) (oa:Option Addr) (oc:Nat) (rs os:List Int):Prop where
 tl:Tl wr (R+1) wr.heap.size Bs p code ra rs.length rc oa os.length oc rs os
 fz:∀ j,wr.frozen? ⟨Bs,j,none⟩=false
 rb:BoxC wr R (.int .i64 0) (.slice none 0 0) (.slice none 0 0) (.int .i64 0)
 rf:∀ j,wr.frozen? ⟨R,j,none⟩=false
 be:Below w.heap.size w wr
 hR:R=w.heap.size
theorem Rl.below {w wr w':World} {R Bs:Nat} {p code:Int} {ra:Option Addr} {rc:Nat} {oa:Option Addr} {oc:Nat} {rs os:List Int} (h:Rl w wr R Bs p code ra rc oa oc rs os) (hb:Below wr.heap.size wr w'):Rl w w' R Bs p code ra rc oa oc rs os:=by
 have zB:Bs<wr.heap.size:=h.tl.hi;have zR:R<wr.heap.size:=zJ wr _ h.rb.1;exact ⟨(h.tl.below hb).widen hb.size (Nat.le_refl _),fun j=>(zI (hb.block Bs zB)).trans (h.fz j),h.rb.below hb,fun j=>(zI (hb.block R zR)).trans (h.rf j),h.be.trans (hb.mono h.be.size),h.hR⟩
theorem Rl.next {w w9:World} {R Bs:Nat} {p code:Int} {ra:Option Addr} {rc:Nat} {oa:Option Addr} {oc:Nat} {rs os:List Int} (h:Rl w w9 R Bs p code ra rc oa oc rs os) {B7:Nat} {S:S4} {ra7 oa7:Option Addr} {rc7 oc7:Nat} (o9:qae w9 B7 (stV S.p ra7 S.rs.length rc7 oa7 S.os.length oc7 S.c) S.p S.rs S.os S.c) (hB:Bs<B7):Rl w ((((w9.setCell ⟨Bs,0,none⟩ (.int .i64 S.p)).setCell ⟨Bs,1,none⟩ (.slice ra7 S.rs.length rc7)).setCell ⟨Bs,2,none⟩ (.slice oa7 S.os.length oc7)).setCell ⟨Bs,3,none⟩ (.int .i64 S.c)) R Bs S.p S.c ra7 rc7 oa7 oc7 S.rs S.os:=by
 have hlo:=h.tl.lo;have hhi:=h.tl.hi;have hR:=h.hR;have gz:=quc w9 Bs (.int .i64 S.p) (.slice ra7 S.rs.length rc7) (.slice oa7 S.os.length oc7) (.int .i64 S.c);have zR:R<w9.heap.size:=zJ w9 _ h.rb.1;have eR:=gz.block R zR (by simp;omega);obtain ⟨r0,r1,r2,r3⟩:=h.rb
 have ht:Tl ((((w9.setCell ⟨Bs,0,none⟩ (.int .i64 S.p)).setCell ⟨Bs,1,none⟩ (.slice ra7 S.rs.length rc7)).setCell ⟨Bs,2,none⟩ (.slice oa7 S.os.length oc7)).setCell ⟨Bs,3,none⟩ (.int .i64 S.c)) (R+1) w9.heap.size Bs S.p S.c ra7 S.rs.length rc7 oa7 S.os.length oc7 S.rs S.os:=by
  refine ⟨hlo,hhi,by simp,h.tl.box.set4 _ _ _ _,o9.put4 hB (by omega),fun j hj=>(o9.lt hj).2,fun hj=>?_⟩;have:=(o9.lt hj).1;omega
 have hbe:Below w.heap.size w9 ((((w9.setCell ⟨Bs,0,none⟩ (.int .i64 S.p)).setCell ⟨Bs,1,none⟩ (.slice ra7 S.rs.length rc7)).setCell ⟨Bs,2,none⟩ (.slice oa7 S.os.length oc7)).setCell ⟨Bs,3,none⟩ (.int .i64 S.c)):=⟨gz.os,gz.tape,gz.output,gz.size,fun k hk=>gz.block k (zL hk h.be.size) (by simp;omega)⟩
 have hfz:∀ j,((((w9.setCell ⟨Bs,0,none⟩ (.int .i64 S.p)).setCell ⟨Bs,1,none⟩ (.slice ra7 S.rs.length rc7)).setCell ⟨Bs,2,none⟩ (.slice oa7 S.os.length oc7)).setCell ⟨Bs,3,none⟩ (.int .i64 S.c)).frozen? ⟨Bs,j,none⟩=false:=fun j=>by
  rw [World.frozen?_setCell,World.frozen?_setCell,World.frozen?_setCell,World.frozen?_setCell];exact h.fz j
 have hrf:∀ j,((((w9.setCell ⟨Bs,0,none⟩ (.int .i64 S.p)).setCell ⟨Bs,1,none⟩ (.slice ra7 S.rs.length rc7)).setCell ⟨Bs,2,none⟩ (.slice oa7 S.os.length oc7)).setCell ⟨Bs,3,none⟩ (.int .i64 S.c)).frozen? ⟨R,j,none⟩=false:=fun j=>by
  rw [World.frozen?_setCell,World.frozen?_setCell,World.frozen?_setCell,World.frozen?_setCell];exact h.rf j
 have hgs:=gz.size;have hrb:BoxC ((((w9.setCell ⟨Bs,0,none⟩ (.int .i64 S.p)).setCell ⟨Bs,1,none⟩ (.slice ra7 S.rs.length rc7)).setCell ⟨Bs,2,none⟩ (.slice oa7 S.os.length oc7)).setCell ⟨Bs,3,none⟩ (.int .i64 S.c)) R (.int .i64 0) (.slice none 0 0) (.slice none 0 0) (.int .i64 0):=⟨(zH eR).trans r0,(zH eR).trans r1,(zH eR).trans r2,(zH eR).trans r3⟩
 have hbe2:=h.be.trans hbe;generalize (((w9.setCell ⟨Bs,0,none⟩ (.int .i64 S.p)).setCell ⟨Bs,1,none⟩ (.slice ra7 S.rs.length rc7)).setCell ⟨Bs,2,none⟩ (.slice oa7 S.os.length oc7)).setCell ⟨Bs,3,none⟩ (.int .i64 S.c)=wz at *;exact ⟨ht.widen hgs (Nat.le_refl _),hfz,hrb,hrf,hbe2,hR⟩
theorem Rl.done {w wr:World} {R Bs:Nat} {p code:Int} {ra:Option Addr} {rc:Nat} {oa:Option Addr} {oc:Nat} {rs os:List Int} (h:Rl w wr R Bs p code ra rc oa oc rs os) (a b c d:Value):Below w.heap.size w ((((wr.setCell ⟨R,0,none⟩ a).setCell ⟨R,1,none⟩ b).setCell ⟨R,2,none⟩ c).setCell ⟨R,3,none⟩ d)/\qae ((((wr.setCell ⟨R,0,none⟩ a).setCell ⟨R,1,none⟩ b).setCell ⟨R,2,none⟩ c).setCell ⟨R,3,none⟩ d) w.heap.size (stV p ra rs.length rc oa os.length oc code) p rs os code:=by
 have hR:=h.hR;have gz:=quc wr R a b c d;exact ⟨h.be.trans ⟨gz.os,gz.tape,gz.output,gz.size,fun k hk=>gz.block k (zL hk h.be.size) (by simp;omega)⟩,h.tl.own.put4 (Nat.lt_succ_self _) (by omega)⟩
theorem qae.nil (w:World) (B:Nat):qae w B (stV 0 none 0 0 none 0 0 0) 0 [] [] 0:=⟨_,_,rfl,World.ownsRow_nil _ _ _ _,World.ownsRow_nil _ _ _ _,fun k e=>by cases e⟩
theorem qae.dr {w:World} {B:Nat} {v:Value} {p code:Int} {rs os:List Int} (h:qae w B v p rs os code):qae w.drew B v p rs os code:=by
 obtain ⟨vr,vo,e,h1,h2,h3⟩:=h;exact ⟨vr,vo,e,h1.drewN 1,h2.drewN 1,h3⟩
theorem qpj (gb n gc:Nat) (ea:Option Addr) (m ec:Nat) (g:Nat->I5) (eh:Nat->E3) (w:World) (hg:gb<w.heap.size) (hI:qam w gb 0 n g) (hE:EvL w ea m eh) (hm:m<=1048576) (hp:qab g n 4=true):
  Calls Tryz.prog 34 #[.slice (some ⟨gb,0,none⟩) n gc,.slice ea m ec] w (qcs w (resS (rp g n eh m)) (rp g n eh m).isSome):=by
 have HI:Hid (qam w gb 0 n g):=hI;have HE:Hid (EvL w ea m eh):=hE;have HP:Hid (qab g n 4=true):=hp;have hm':(m:Int)<=1048576:=by omega
 clear hI hE hp
 go_enter Tryz.func34,Tryz.ntmps34
 go_wp2_with fail
 refine (qdp _).mono ?_;rintro e w2 ⟨v2,rfl,o2,b2⟩;obtain ⟨ra2,rc2,oa2,oc2,rfl,-,-⟩:=o2.read;have bA:=zT w (zQ0);have bB:=zT w2 (oQ1 0 ra2 4 rc2 oa2 0 oc2 0)
 have D2:Hid (Rl w (w2.alloc (oQ1 0 ra2 4 rc2 oa2 0 oc2 0)) w.heap.size w2.heap.size 0 0 ra2 rc2 oa2 oc2 [0,0,0,0] []):=by
  have bC:Below (w.heap.size+1) (w.alloc (zQ0)) (w2.alloc (oQ1 0 ra2 4 rc2 oa2 0 oc2 0)):=by
   have h:=b2.trans (bB.mono b2.size);rw [World.size_alloc] at h;exact h
  have z2:w.heap.size+1<=w2.heap.size:=by have:=b2.size;simp at this;exact this
  have eR:=bC.block w.heap.size (by omega)
  have o2':qae w2 (w.heap.size+1) (stV 0 ra2 4 rc2 oa2 0 oc2 0) 0 [0,0,0,0] [] 0:=by
   have h:=o2;rw [World.size_alloc] at h;exact h
  obtain ⟨r0,r1,r2,r3⟩:=BoxC.new w (.int .i64 0) (.slice none 0 0) (.slice none 0 0) (.int .i64 0) 51;refine ⟨(Tl.of_alloc o2' z2 _).widen (by simp) (Nat.le_refl _),fun j=>yB _ _ _ j rfl,⟨(zH eR).trans r0,(zH eR).trans r1,(zH eR).trans r2,(zH eR).trans r3⟩,fun j=>(zI eR).trans (yB _ _ _ j rfl),bA.trans (bC.mono (by omega)),rfl⟩
 clear o2 b2 bA bB;go_wp2_with fail
 generalize w2.alloc (oQ1 0 ra2 4 rc2 oa2 0 oc2 0)=w3 at *;generalize w2.heap.size=Bs at *
 go_loopw [7] (fun i wr=>∃ k:Nat,k<=m/\i=.int .i64 k/\Hid (∃ S ra rc oa oc,rp g n eh k=some S/\OkS n S/\Rl w wr w.heap.size Bs S.p S.c ra rc oa oc S.rs S.os)) (fun i _=>m - (intOf i).toNat)
 case atStart=>exact ⟨0,Nat.zero_le _,rfl,newS,_,_,_,_,rfl,qhk HP.out,D2.out⟩
 case round=>
  clear D2;obtain ⟨k,hk,rfl,HD⟩:=hrel;obtain ⟨S0,ra,rc,oa,oc,hrp,hok,hD⟩:=HD.out;obtain ⟨p,rs,os,code⟩:=S0;dsimp only at hD;have DRl:Hid (Rl w wr w.heap.size Bs p code ra rc oa oc rs os):=hD;have HRP:Hid (rp g n eh k=some ⟨p,rs,os,code⟩/\OkS n ⟨p,rs,os,code⟩):=⟨hrp,hok⟩
  clear HD hD hrp hok;obtain ⟨c0,c1,c2,c3⟩:=DRl.out.tl.box;obtain ⟨r0,r1,r2,r3⟩:=DRl.out.rb;have rf:=DRl.out.rf;have cf:=DRl.out.fz;have dR:Bs≠w.heap.size:=by have:=DRl.out.tl.lo;omega
  have dR':w.heap.size≠Bs:=fun e=>dR e.symm;have zB:Bs<wr.heap.size:=DRl.out.tl.hi;have zR:w.heap.size<wr.heap.size:=by have:=DRl.out.tl.lo;omega
  by_cases hlt:k<m
  ·have hlt':(k:Int)<(m:Int):=by omega
   rcases zK (code != 0) with tc | tc
   ·have HZ:Hid (rp g n eh m=none):=qd0 (qru HRP.1 (qsq (S:=⟨p,rs,os,code⟩) (by simpa using tc))) (by omega)
    go_wp2_with fail
    refine bodyPost_ret (v:=.tuple #[stV 0 none 0 0 none 0 0 0,.bool false]) (by simp [results,Tryz.results34,go_sem,r0,r1,r2,r3]) rfl ?_;rw [HZ.out];exact ⟨_,rfl,qae.nil _ _,(DRl.out.done _ _ _ _).1⟩
   ·have hc0:code=0:=by simpa using tc
    subst hc0;have hright:=qok (S:=⟨p,rs,os,0⟩) HP.out HRP.2 rfl;dsimp only at hright;obtain ⟨-,⟨pk,hpk,hpn⟩,-,-⟩:=qby (qba hright).2.1;subst hpk;have HRT:Hid (qbq g n (pk:Int) rs os 0=true):=hright;have hSok:doB g n pk rs os 0 (eh k).k (eh k).q (eh k).v=true->OkS n (doS g n pk rs os 0 (eh k).k (eh k).q (eh k).v):=qkv;have hyes:=qom (S:=⟨pk,rs,os,0⟩) HRP.1;have hnot:=qru (S:=⟨pk,rs,os,0⟩) HRP.1;dsimp only at hyes hnot;generalize hS:doS g n pk rs os 0 (eh k).k (eh k).q (eh k).v=S at hSok hyes;generalize hT:doB g n pk rs os 0 (eh k).k (eh k).q (eh k).v=T at hSok hyes hnot;have HN:Hid (doS g n pk rs os 0 (eh k).k (eh k).q (eh k).v=S/\doB g n pk rs os 0 (eh k).k (eh k).q (eh k).v=T):=⟨hS,hT⟩
    have HY:Hid ((T=true->rp g n eh (k+1)=some S/\OkS n S)/\(T=false->rp g n eh (k+1)=none)):=⟨fun h=>⟨hyes h,hSok h⟩,hnot⟩
    clear hS hT hSok hyes hnot hright;obtain ⟨eb,eo,rfl,ze,k0,k1,k2⟩:=(HE.out.below DRl.out.be).at hlt;have HEA:Hid (EvAt wr eb eo m eh/\eb<wr.heap.size):=(HE.out.below DRl.out.be).one hlt;have d1:wr.heap.size≠Bs:=by omega
    have d2:wr.heap.size≠eb:=by omega
    go_wp2_with fail
    go_cut [8,9] from 21 to 30 (fun s t wx=>∃ M:Nat,s=.pointer (some ⟨M,0,none⟩)/\t=.bool T/\Hid (Below wr.heap.size wr wx/\Told wx wr.heap.size M S))
    case first=>
     go_region_held3 (fun w'=>w'.cell? ⟨Bs,0,none⟩=some (.int .i64 pk)/\w'.cell? ⟨Bs,1,none⟩=some (.slice ra rs.length rc)/\w'.cell? ⟨Bs,2,none⟩=some (.slice oa os.length oc)/\w'.cell? ⟨Bs,3,none⟩=some (.int .i64 0)/\w'.cell? ⟨eb,eo+k*3,none⟩=some (.int .i64 (eh k).k)/\w'.cell? ⟨eb,eo+k*3+1,none⟩=some (.int .i64 (eh k).q)/\w'.cell? ⟨eb,eo+k*3+2,none⟩=some (.int .i64 (eh k).v)) (go_keep)
      (first
       | (go_at_call 68;refine (qn9 gb 0 n gc pk g ra oa rc oc rs os (eh k).k (eh k).q (eh k).v _ (zL hg (DRl.out.below (by go_grown)).be.size) (HI.out.below (DRl.out.below (by go_grown)).be hg) (DRl.out.below (by go_grown)).tl.sl.1 (DRl.out.below (by go_grown)).tl.sl.2 HRT.out).mono ?_;rintro e w5 hd;rw [HN.1,HN.2] at hd;obtain ⟨v5,rfl,o5,b5⟩:=hd;obtain ⟨ra5,rc5,oa5,oc5,rfl,-,-⟩:=o5.read;have q5:Below wr.heap.size wr w5:=qad (by go_grown) b5 (by simp);obtain ⟨y0,y1,y2,y3⟩:=(DRl.out.below q5).tl.box;obtain ⟨y4,y5,y6⟩:=HEA.1.below q5 HEA.2 k hlt;(try simp only [World.size_alloc,World.size_drew] at o5);have O5:Hid (qae w5 _ (stV S.p ra5 S.rs.length rc5 oa5 S.os.length oc5 S.c) S.p S.rs S.os S.c):=o5;obtain ⟨hc5,hf5⟩:=qah b5;have z5:=b5.size;(try simp only [World.size_alloc,World.size_drew,Nat.add_one_le_iff] at z5);have j5:wr.heap.size<=w5.heap.size:=q5.size;have Q5:Hid (Below wr.heap.size wr w5):=q5;clear o5 b5 q5))
     all_goals
      go_wp2_with fail
      go_meet
      case rel=>
       first
       | (refine ⟨w5.heap.size, by with_reducible rfl, rfl, ?_⟩
          exact ⟨Q5.out.trans ((zT _ _).mono j5),Told.of_alloc O5.out (by omega) (by omega) _⟩)
       | (refine ⟨wr.heap.size, by with_reducible rfl, rfl, ?_⟩
          exact ⟨(((Q5.out.setCell (Nat.le_refl _) _).setCell (Nat.le_refl _) _).setCell (Nat.le_refl _) _).setCell (Nat.le_refl _) _,Told.of_put (z0:=.int .i64 0) (z1:=.slice none 0 0) (z2:=.slice none 0 0) (z3:=.int .i64 0) O5.out (by omega) (by omega) (by omega) ⟨by rw [hc5 _ _ (by simp)];simp,by rw [hc5 _ _ (by simp)];simp,by rw [hc5 _ _ (by simp)];simp,by rw [hc5 _ _ (by simp)];simp⟩⟩)
    case rest=>
     obtain ⟨M,rfl,rfl,HM⟩:=hcut;have bG:=HM.1;obtain ⟨ra5,rc5,oa5,oc5,TG⟩:=HM.2.tl;have D6:Hid (Rl w wc w.heap.size Bs pk 0 ra rc oa oc rs os):=DRl.out.below bG;have O6:Hid (qae wc wr.heap.size (stV S.p ra5 S.rs.length rc5 oa5 S.os.length oc5 S.c) S.p S.rs S.os S.c):=TG.own;have zM:=TG.lo;clear c0 c1 c2 c3 r0 r1 r2 r3 rf cf k0 k1 k2 HM bG;obtain ⟨c0,c1,c2,c3⟩:=D6.out.tl.box;obtain ⟨r0,r1,r2,r3⟩:=D6.out.rb;obtain ⟨n0,n1,n2,n3⟩:=TG.box;have rf:=D6.out.rf;have cf:=D6.out.fz;have dN:M≠Bs:=by omega
     have dN':Bs≠M:=by omega
     have dM:M≠w.heap.size:=by omega
     clear TG;cases T
     case false=>
      have HZ:Hid (rp g n eh m=none):=qd0 (HY.2 rfl) (by omega);go_wp2_with fail
      refine bodyPost_ret (v:=.tuple #[stV 0 none 0 0 none 0 0 0,.bool false]) (by simp [results,Tryz.results34,go_sem,r0,r1,r2,r3]) rfl ?_;rw [HZ.out];exact ⟨_,rfl,qae.nil _ _,(D6.out.done _ _ _ _).1⟩
     case true=>
      have HW:Hid (rp g n eh (k+1)=some S/\OkS n S):=HY.1 rfl;go_wp2;go_roundw
      case rel=>exact ⟨k+1,by omega,by go_num,S,_,_,_,_,HW.1,HW.2,D6.out.next O6.out zB⟩
      case measure=>simp [intOf];omega
  ·have hkm:k=m:=by omega
   have HZ:Hid (rp g n eh m=some ⟨p,rs,os,code⟩):=by
    have:=HRP.1;rw [hkm] at this;exact this
   go_wp2_with fail
   refine bodyPost_ret (v:=.tuple #[stV p ra rs.length rc oa os.length oc code,.bool true]) (by simp [results,Tryz.results34,go_sem,r0,r1,r2,r3]) rfl ?_;rw [HZ.out];exact ⟨_,rfl,(DRl.out.done _ _ _ _).2,(DRl.out.done _ _ _ _).1⟩
