import Derived.Test.YthgpldgkabcopaaGreatDoorYh12
import Derived.Test.YthgpldgkabcopaaGreatDoorYh17
import Derived.Test.YthgpldgkabcopaaGreatDoorYh16
namespace Go.Proofs.YthgpldgkabcopaaGreatDoor
set_option maxRecDepth 100000
set_option maxHeartbeats 4000000
open Go.ChangeShapes Go.WideShapes Go.ChangeAt Go.RowKit Go.Deep
structure qtk (w:World) (D hi n:Nat) (ls:Nat->Nat) (bs:Nat->Nat) (h:Nat->Nat->E3):Prop where
 cel:∀ i,i<n->w.cell? ⟨D,i,none⟩=some (.slice (some ⟨bs i,0,none⟩) (ls i) (ls i))
 bd:∀ i,i<n->D<bs i/\bs i<hi
 row:∀ i,i<n->EvAt w (bs i) 0 (ls i) (h i)
 fr:∀ i,i<n->∀ j,w.frozen? ⟨bs i,j,none⟩=false
 up:∀ i j,i<j->j<n->bs i<bs j
 le:hi<=w.heap.size
 lt:D<hi
structure qwj (w:World) (D k:Nat) (f:Nat->Value) (ls:Nat->Nat) (bs:Nat->Nat) (h:Nat->Nat->E3):Prop where
 cel:∀ i,i<k->f i=.slice (some ⟨bs i,0,none⟩) (ls i) (ls i)
 bd:∀ i,i<k->D<bs i/\bs i<w.heap.size
 row:∀ i,i<k->EvAt w (bs i) 0 (ls i) (h i)
 fr:∀ i,i<k->∀ j,w.frozen? ⟨bs i,j,none⟩=false
 up:∀ i j,i<j->j<k->bs i<bs j
structure SysIn where
 pa:Option Addr
 pn:Nat
 pc:Nat
 pA:Nat->Option Addr
 pL:Nat->Nat
 pC:Nat->Nat
 pH:Nat->Nat->I5
 sa:Option Addr
 sn:Nat
 sc:Nat
 sQ:Nat->St8
 wa:Option Addr
 wn:Nat
 wc:Nat
 wA:Nat->Option Addr
 wL:Nat->Nat
 wC:Nat->Nat
 wH:Nat->Nat->I2
 ha:Option Addr
 hn:Nat
 hc:Nat
 hA:Nat->Option Addr
 hL:Nat->Nat
 hC:Nat->Nat
 hH:Nat->Nat->E3
abbrev SysIn.oX (x:SysIn):Obj:=oQ4 x.pa x.pn x.pc x.sa x.sn x.sc x.wa x.wn x.wc x.ha x.hn x.hc
abbrev SysIn.bX (x:SysIn) (w:World) (N:Nat):Prop:=BoxC w N (.slice x.pa x.pn x.pc) (.slice x.sa x.sn x.sc) (.slice x.wa x.wn x.wc) (.slice x.ha x.hn x.hc)
def SysIn.sS (x:SysIn):Nat->S4:=fun i=>(x.sQ i).s
def SysIn.size (x:SysIn):Nat:=x.pn+sumL x.pL x.pn+(x.sn+sumL (lenS x.sS) x.sn)+(x.wn+sumL x.wL x.wn)+(x.hn+sumL x.hL x.hn)
abbrev sysV (pa:Option Addr) (pn pc:Nat) (sa:Option Addr) (sn sc:Nat) (wa:Option Addr) (wn wc:Nat) (ha:Option Addr) (hn hc:Nat):Value:=.agg #[.slice pa pn pc,.slice sa sn sc,.slice wa wn wc,.slice ha hn hc]
structure SysIn.Row (W:World) (x:SysIn):Prop where
 p:RowS W x.pa x.pn fun i=>.slice (x.pA i) (x.pL i) (x.pC i)
 s:qds W x.sa x.sn x.sQ
 w:RowS W x.wa x.wn fun i=>.slice (x.wA i) (x.wL i) (x.wC i)
 h:RowS W x.ha x.hn fun i=>.slice (x.hA i) (x.hL i) (x.hC i)
structure SysIn.Max (x:SysIn):Prop where
 p:x.pn<=maxLen/\∀ i,i<x.pn->x.pL i<=maxLen
 s:x.sn<=maxLen/\∀ i,i<x.sn->(x.sQ i).rs.length<=maxLen/\(x.sQ i).os.length<=maxLen
 w:x.wn<=maxLen/\∀ i,i<x.wn->x.wL i<=maxLen
 h:x.hn<=maxLen/\∀ i,i<x.hn->x.hL i<=maxLen
structure qwl (w:World) (lo hi:Nat) (x:SysIn) (v:Value) (D1 D2 D3 D4:Nat) (b1:Nat->Nat) (vs:Nat->Value) (b3 b4:Nat->Nat) (h1 h2 h3:Nat):Prop where
 val:v=sysV (some (aQ D1 0)) x.pn x.pn (some (aQ D2 0)) x.sn x.sn (some (aQ D3 0)) x.wn x.wn (some (aQ D4 0)) x.hn x.hn
 pp:qwk w D1 h1 x.pn x.pL b1 x.pH
 ss:qtl w D2 h2 x.sn x.sS vs
 ww:qvt w D3 h3 x.wn x.wL b3 x.wH
 hh:qtk w D4 hi x.hn x.hL b4 x.hH
 lo:lo<=D1
 o1:h1<=D2
 o2:h2<=D3
 o3:h3<=D4
def qxs (w:World) (lo hi:Nat) (x:SysIn) (v:Value):Prop:=∃ D1 D2 D3 D4 b1 vs b3 b4 h1 h2 h3,qwl w lo hi x v D1 D2 D3 D4 b1 vs b3 b4 h1 h2 h3
def lenV:Value->Nat
 | .slice _ n _=>n
 | _=>0
theorem Lst.frozen {w:World} {B n g cap:Nat} (h:Lst w B (.slice (some (aQ g 0)) n cap) n) (j:Nat):w.frozen? (aQ g j)=false:=by
 obtain ⟨xs,ho,hx⟩:=h
 exact ho.frozenAt j
def Way (w wr:World) (W0 c len cap:Nat) (a0:Option Addr) (g n gc:Nat):Prop:=
 Lst wr w.heap.size (.slice (some (aQ g 0)) n gc) n/\Cur wr W0 c a0 len cap/\w.grownBy wr (some c)
theorem Way.step {w wr w':World} {W0 c len cap g n gc:Nat} {a0:Option Addr} (h:Way w wr W0 c len cap a0 g n gc) (hcl:c<w.heap.size) (hc:Cur w' W0 c a0 len cap) (hg:wr.grownBy w' (some c)):Way w w' W0 c len cap a0 g n gc:=
 ⟨h.1.kept hg (fun j hj=>by cases hj;exact hcl),hc,h.2.2.trans hg⟩
theorem Way.set {w wr:World} {W0 c len cap g n gc:Nat} {a0:Option Addr} (h:Way w wr W0 c len cap a0 g n gc) (hcl:c<w.heap.size) (hcg:W0<=c) (j:Nat) (x:Int):Way w (wr.setCell (aQ g j) (.int .i64 x)) W0 c len cap a0 g n gc:=by
 have hg:=h.1.own g rfl
 exact ⟨h.1.set j x,h.2.1.setOther (p:=(aQ g j)) (by simp;omega) (by simp;omega) _,zV (p:=(aQ g j)) h.2.2 (.inr hg) _⟩
theorem qj2 (W0 c len cap:Nat) (a0:Option Addr) (w:World) (hc:Cur w W0 c a0 len cap):
  Calls Tryz.prog 88 #[.pointer (some (aQ c 0))] w fun e w'=>∃ g n gc:Nat,e=.returned (.slice (some (aQ g 0)) n gc)/\n<=31/\Way w w' W0 c len cap a0 g n gc:=by
 have HC0:Hid (Cur w W0 c a0 len cap):=hc
 have hcl:=hc.lt
 have hcg:=hc.ge
 clear hc
 go_enter Tryz.func88,Tryz.ntmps88
 go_wp2_with fail
 refine (zY W0 c len cap a0 _ _ HC0.out (by omega) (by omega)).mono ?_
 rintro e w1 ⟨me,rfl,⟨m0,m1⟩,hc1,hg1⟩
 have HC1:Hid (Cur w1 W0 c a0 len cap):=hc1
 have HG1:Hid (w.grownBy w1 (some c)):=hg1
 have hs1:=hg1.size
 clear hc1 hg1 HC0
 go_wp2_with fail
 refine (qin W0 c len cap a0 _ _ HC1.out m0 m1).mono ?_
 rintro e w2 ⟨v,n,rfl,⟨n0,n1⟩,hl2,hc2,hg2⟩
 have hvf:∃ g gc,v=.slice (some (aQ g 0)) n gc/\w1.heap.size<=g/\g<w2.heap.size:=hl2.form (by omega)
 obtain ⟨g,gc,hv,hgB,hgl⟩:=hvf
 rw [hv]
 rw [hv] at hl2
 have HW2:Hid (Way w w2 W0 c len cap a0 g n gc):=⟨hl2.mono hs1,hc2,HG1.out.trans hg2⟩
 have n0':(1:Int)<=(n:Int):=by omega
 have n1':(n:Int)<=11:=by omega
 clear hl2 hc2 hg2 HC1 HG1 hv hs1
 go_wp2_with fail
 refine (qcb W0 c len cap a0 _ _ HW2.out.2.1 (by omega) (by omega)).mono ?_
 rintro e w3 ⟨t,rfl,hc3,hg3⟩
 have HW3:Hid (Way w w3 W0 c len cap a0 g n gc):=HW2.out.step hcl hc3 hg3
 clear hc3 hg3 HW2
 cases t
 case true=>
  go_wp2_with fail
  refine (zY W0 c len cap a0 _ _ HW3.out.2.1 n0' (by omega)).mono ?_
  rintro e w4 ⟨x,rfl,⟨x0,x1⟩,hc4,hg4⟩
  obtain ⟨k,rfl⟩:=Int.eq_ofNat_of_zero_le x0
  have hk:k<n:=by omega
  have HW4:Hid (Way w w4 W0 c len cap a0 g n gc):=HW3.out.step hcl hc4 hg4
  obtain ⟨G,hG⟩:=HW4.out.1.at
  obtain ⟨c0,c1,c2,c3,c4⟩:=hG k hk
  rw [Nat.zero_add] at c0 c1 c2 c3 c4
  clear hc4 hg4 HW3 hG
  go_wp2_with fail
  refine (qnu W0 c len cap a0 _ _ _ _ _ _ HW4.out.2.1).mono ?_
  rintro e w5 ⟨o,r,a,b,nn,rfl,hc5,hg5⟩
  have HW5:Hid (Way w w5 W0 c len cap a0 g n gc):=HW4.out.step hcl hc5 hg5
  obtain ⟨G5,hG5⟩:=HW5.out.1.at
  obtain ⟨d0,d1,d2,d3,d4⟩:=hG5 k hk
  rw [Nat.zero_add] at d0 d1 d2 d3 d4
  have f0:=HW5.out.1.frozen (k*5)
  have f1:=HW5.out.1.frozen (k*5+1)
  have f2:=HW5.out.1.frozen (k*5+2)
  have f3:=HW5.out.1.frozen (k*5+3)
  have f4:=HW5.out.1.frozen (k*5+4)
  clear hc5 hg5 HW4 hG5 c0 c1 c2 c3 c4
  have HW6:Hid (Way w (((((w5.setCell ⟨g,k*5,none⟩ (.int .i64 o)).setCell ⟨g,k*5+1,none⟩ (.int .i64 r)).setCell ⟨g,k*5+2,none⟩ (.int .i64 a)).setCell ⟨g,k*5+3,none⟩ (.int .i64 b)).setCell ⟨g,k*5+4,none⟩ (.int .i64 nn)) W0 c len cap a0 g n gc):=
   ((((HW5.out.set hcl hcg _ _).set hcl hcg _ _).set hcl hcg _ _).set hcl hcg _ _).set hcl hcg _ _
  go_wp2_with fail
  refine (qcb W0 c len cap a0 _ _ HW6.out.2.1 (by omega) (by omega)).mono ?_
  rintro e w7 ⟨t,rfl,hc7,hg7⟩
  have HW7:Hid (Way w w7 W0 c len cap a0 g n gc):=HW6.out.step hcl hc7 hg7
  clear hc7 hg7 HW6 HW5 d0 d1 d2 d3 d4 f0 f1 f2 f3 f4
  cases t
  case false=>
   go_wp2
   go_ret
   exact ⟨g,n,gc,rfl,by omega,HW7.out⟩
  case true=>
   go_wp2_with fail
   go_loopw [3] (fun l wr=>∃ m g' gc':Nat,(1<=m/\m<=31)/\l=.slice (some (aQ g' 0)) m gc'/\Hid (Way w wr W0 c len cap a0 g' m gc')) (fun l _=>32 - lenV l)
   case atStart=>exact ⟨n,g,gc,by omega,rfl,HW7⟩
   case round=>
    obtain ⟨m,g',gc',⟨m0,m1⟩,rfl,HR⟩:=hrel
    go_wp2_with fail
    refine (zY W0 c len cap a0 _ _ HR.out.2.1 (by omega) (by omega)).mono ?_
    rintro e w8 ⟨y,rfl,⟨y0,y1⟩,hc8,hg8⟩
    have HW8:Hid (Way w w8 W0 c len cap a0 g' m gc'):=HR.out.step hcl hc8 hg8
    have hs8:=HW8.out.2.2.size
    clear hc8 hg8 HR
    by_cases hlt:(m:Int)<30+y
    ·go_wp2_with (at_builtin;refine qeu w8 rfl _ _ rfl w.heap.size (.slice (some (aQ g' 0)) m gc') m rfl HW8.out.1 11 0 0 0 0 rfl (by omega) hs8 ?_;intro v' w9 hl9 hg9;have HC9:Hid (Cur w9 W0 c a0 len cap/\w.grownBy w9 (some c)):=⟨Lst.cur HW8.out.1 HW8.out.2.1 hg9 hcl hcg,(HW8.out.2.2.trans (World.grownBy_alloc _ _ _)).andThen hg9 (fun j hj=>.inl (HW8.out.1.own j hj))⟩;obtain ⟨g9,c9,hv9,_,_⟩:=hl9.form (by omega);rw [hv9];rw [hv9] at hl9;have HL9:Hid (Lst w9 w.heap.size (.slice (some (aQ g9 0)) (m+1) c9) (m+1)):=hl9;clear hl9 hg9 HW8 hv9 v')
     go_roundw
     case rel=>exact ⟨m+1,g9,c9,by omega,rfl,HL9.out,HC9.out⟩
     case measure=>simp [lenV];omega
    ·go_wp2
     go_ret
     exact ⟨g',m,gc',rfl,by omega,HW8.out⟩
 case false=>
  go_wp2_with fail
  refine (qcb W0 c len cap a0 _ _ HW3.out.2.1 (by omega) (by omega)).mono ?_
  rintro e w7 ⟨t,rfl,hc7,hg7⟩
  have HW7:Hid (Way w w7 W0 c len cap a0 g n gc):=HW3.out.step hcl hc7 hg7
  clear hc7 hg7 HW3
  cases t
  case false=>
   go_wp2
   go_ret
   exact ⟨g,n,gc,rfl,by omega,HW7.out⟩
  case true=>
   go_wp2_with fail
   go_loopw [3] (fun l wr=>∃ m g' gc':Nat,(1<=m/\m<=31)/\l=.slice (some (aQ g' 0)) m gc'/\Hid (Way w wr W0 c len cap a0 g' m gc')) (fun l _=>32 - lenV l)
   case atStart=>exact ⟨n,g,gc,by omega,rfl,HW7⟩
   case round=>
    obtain ⟨m,g',gc',⟨m0,m1⟩,rfl,HR⟩:=hrel
    go_wp2_with fail
    refine (zY W0 c len cap a0 _ _ HR.out.2.1 (by omega) (by omega)).mono ?_
    rintro e w8 ⟨y,rfl,⟨y0,y1⟩,hc8,hg8⟩
    have HW8:Hid (Way w w8 W0 c len cap a0 g' m gc'):=HR.out.step hcl hc8 hg8
    have hs8:=HW8.out.2.2.size
    clear hc8 hg8 HR
    by_cases hlt:(m:Int)<30+y
    ·go_wp2_with (at_builtin;refine qeu w8 rfl _ _ rfl w.heap.size (.slice (some (aQ g' 0)) m gc') m rfl HW8.out.1 11 0 0 0 0 rfl (by omega) hs8 ?_;intro v' w9 hl9 hg9;have HC9:Hid (Cur w9 W0 c a0 len cap/\w.grownBy w9 (some c)):=⟨Lst.cur HW8.out.1 HW8.out.2.1 hg9 hcl hcg,(HW8.out.2.2.trans (World.grownBy_alloc _ _ _)).andThen hg9 (fun j hj=>.inl (HW8.out.1.own j hj))⟩;obtain ⟨g9,c9,hv9,_,_⟩:=hl9.form (by omega);rw [hv9];rw [hv9] at hl9;have HL9:Hid (Lst w9 w.heap.size (.slice (some (aQ g9 0)) (m+1) c9) (m+1)):=hl9;clear hl9 hg9 HW8 hv9 v')
     go_roundw
     case rel=>exact ⟨m+1,g9,c9,by omega,rfl,HL9.out,HC9.out⟩
     case measure=>simp [lenV];omega
    ·go_wp2
     go_ret
     exact ⟨g',m,gc',rfl,by omega,HW8.out⟩
def LstE (w:World) (B:Nat) (v:Value) (n:Nat):Prop:=∃ xs,w.ownsRow B 65 3 v n xs/\xs.all isI=true/\v≠.slice none 0 0
theorem qea (w:World):
  Calls Tryz.prog 111 #[] w fun e w'=>∃ v,e=.returned v/\qag w' w.heap.size v 0 [0,0,0,0] [] 0/\Bw w w':=by
 have hmk:∀ w:World,(Instr.makeSlice 40 (.int .i64 4) (.int .i64 4)).run Tryz.prog w=.ok (.slice (some ⟨w.heap.size,0,none⟩) 4 4) (w.alloc (.cells (madeCells #[.int .i64 0] 4) 3)):=fun w=>qcp 4 (by omega) w
 have HM:Hid (∀ w:World,OwnI (w.alloc (.cells (madeCells #[.int .i64 0] 4) 3)) w.heap.size (.slice (some ⟨w.heap.size,0,none⟩) 4 4) [0,0,0,0]):=fun w=>qj8 w 4 (by omega)
 go_enter Tryz.func111,Tryz.ntmps111
 go_wp2
 have hB:w.heap.size<=w.heap.size+1:=by omega
 have hM:=HM.out (w.alloc (oQ1 0 (some ⟨w.heap.size+1,0,none⟩) 4 4 none 0 0 0))
 rw [World.size_alloc] at hM
 refine bodyPost_ret (v:=stV 0 (some ⟨w.heap.size+1,0,none⟩) 4 4 none 0 0 0) (by simp [results,Tryz.results111,go_sem]) rfl ⟨_,rfl,⟨_,_,rfl,hM.mono hB,World.ownsRow_nil _ _ _ _,fun k _=>by simp [Value.ownBlock]⟩,by go_grown⟩
theorem Tl.widen {w:World} {B C C' N:Nat} {p c:Int} {ra:Option Addr} {rn rc:Nat} {oa:Option Addr} {on oc:Nat} {rs os:List Int} (h:Tl w B C N p c ra rn rc oa on oc rs os) (h1:C<=C') (h2:C'<=w.heap.size):Tl w B C' N p c ra rn rc oa on oc rs os:=
 ⟨h.lo,zL h.hi h1,h2,h.box,h.own,fun k hk=>zL (h.up k hk) h1,h.ne⟩
structure Dr (w wr:World) (C W0 c len cap:Nat) (a0:Option Addr) (Bs:Nat) (out:Value) (k:Nat) (p code:Int) (ra:Option Addr) (rc:Nat) (oa:Option Addr) (oc:Nat) (rs os:List Int):Prop where
 ls:LstE wr w.heap.size out k
 cu:Cur wr W0 c a0 len cap
 gr:w.grownBy wr (some c)
 tl:Tl wr w.heap.size C Bs p code ra rs.length rc oa os.length oc rs os
 fz:∀ j,wr.frozen? ⟨Bs,j,none⟩=false
 oC:∀ j,out.ownBlock=some j->j<C
 nB:out.ownBlock≠some Bs
 ap:∀ j,qal (stV p ra rs.length rc oa os.length oc code) j->out.ownBlock≠some j
 lr:rs.length<=1048576
 lo:os.length<=1048576
def EvB (w:World) (N:Nat) (k q v:Int):Prop:=EvC3 w N k q v/\∀ j,w.frozen? ⟨N,j,none⟩=false
def numL (h:Nat->I2):Nat->List Int
 | 0=>[]
 | n+1=>if (h n).m=true then numL h n else numL h n ++ [(h n).v]
theorem qgi (h:Nat->I2):∀ n,(numL h n).length<=n
 | 0=>Nat.le_refl _
 | n+1=>by
  unfold numL
  have:=qgi h n
  split
  ·omega
  ·simp;omega
theorem qfw {h:Nat->I2} {n:Nat} (hh:(h n).m=false):numL h (n+1)=numL h n ++ [(h n).v]:=by
 rw [numL,if_neg (by rw [hh];decide)]
theorem qpb {h:Nat->I2} {n:Nat} (hh:(h n).m=true):numL h (n+1)=numL h n:=by
 rw [numL,if_pos hh]
theorem zU {w:World} {B:Nat} {e:TypeId} {sz:Nat} {v:Value} {n:Nat} {xs:List Value} (h:w.ownsRow B e sz v n xs):∃ a c,v=.slice a n c:=by
 rcases h.2 with ⟨rfl,rfl⟩ | ⟨g,cap,cur,rfl,_⟩
 ·exact ⟨none,0,rfl⟩
 ·exact ⟨_,_,rfl⟩
theorem qfu (a0:Option Addr) (n cap:Nat) (A:Nat->Option Addr) (L C:Nat->Nat) (H:Nat->Nat->I5) (w:World) (hn:n<=1048576) (hL:∀ i,i<n->L i<=1048576) (hr:RowS w a0 n fun i=>.slice (A i) (L i) (C i)) (hI:∀ i,i<n->Src w (A i) (fI (H i) (L i))):
  Calls Tryz.prog 72 #[.slice a0 n cap] w fun e w'=>∃ v u,e=.returned v/\LI true w' (fun k=>w.heap.size<=k/\k<w'.heap.size) v n u L H/\Bw w w':=by
 have hn':(n:Int)<=1048576:=by omega
 have HR:Hid (RowS w a0 n fun i=>.slice (A i) (L i) (C i)):=hr
 have HI:Hid (∀ i,i<n->Src w (A i) (fI (H i) (L i))):=hI
 have HL:Hid (∀ i,i<n->L i<=1048576):=hL
 clear hr hI hL
 go_enter Tryz.func72,Tryz.ntmps72
 go_wp2_with fail
 go_loopw [3,4] (fun v i wr=>∃ k:Nat,k<=n/\i=.int .i64 k/\Hid ((∃ u,LI true wr (fun b=>w.heap.size<=b/\b<wr.heap.size) v k u L H)/\Bw w wr)) (fun _ i _=>n - (intOf i).toNat)
 case atStart=>exact ⟨0,Nat.zero_le _,rfl,⟨fun _=>.slice none 0 0,LL.new _ _ _ w _ (by simp) _ _ _⟩,zQ _ _⟩
 case round=>
  obtain ⟨k,hk,rfl,HZ⟩:=hrel
  by_cases hlt:k<n
  ·have hlt':(k:Int)<(n:Int):=by omega
   obtain ⟨b,off,rfl,ck⟩:=(HR.out.below HZ.out.2).at hlt
   have hbl:b<wr.heap.size:=zJ wr _ ck
   have HS:Hid (Src wr (A k) (fI (H k) (L k))):=(HI.out k hlt).below HZ.out.2
   have HLk:Hid (L k<=1048576):=HL.out k hlt
   have hk2:Hid (k<=2000000):=by show k<=2000000;omega
   obtain ⟨⟨u,oz⟩,bz⟩:=HZ.out
   have OZ:Hid (LI true wr (fun b=>w.heap.size<=b/\b<wr.heap.size) u3 k u L H):=oz
   have BZ:Hid (Bw w wr):=bz
   clear oz bz HZ
   go_wp2_with (first
    | (at_builtin;refine qbs kndI wr rfl rfl _ _ rfl (A k) (L k) (C k) (fI (H k) (L k)) rfl rfl (qri _ _) HS.out (qvg _ _) (zP HLk.out (by omega)) ?_;intro v4 w4 o4 b4 n4;obtain ⟨a4,c4,rfl⟩:=zU o4;have F4:Hid (w4.ownsRow wr.heap.size 87 5 (.slice a4 (L k) c4) (L k) (fI (H k) (L k))/\Bw wr w4/\Value.slice a4 (L k) c4≠.slice none 0 0):=⟨o4,b4,n4⟩;clear o4 b4 n4)
    | (at_builtin;refine qas qt0 w4 rfl rfl _ _ rfl 0 u3 k _ rfl (OZ.out.below F4.out.2.1).row #[.slice a4 (L k) c4] rfl rfl (by intro u hu;simp at hu;subst hu;rfl) hk2.out (Nat.zero_le _) ?_;intro v5 w5 o5 g5 q5 n5;have F5:Hid (LI true w5 (fun b=>w.heap.size<=b/\b<w5.heap.size) v5 (k+1) (fun j=>if j=k then .slice a4 (L k) c4 else u j) L H/\Bw w w5):=⟨OZ.out.push F4.out.2.1 F4.out.1 (fun _=>F4.out.2.2) o5 g5 q5 (fun j hj _=>⟨hj.1,zL hj.2 (zP F4.out.2.1.size g5.size)⟩) (fun j hj hj'=>⟨zP BZ.out.size hj,hj'⟩),Below.grown (BZ.out.trans (F4.out.2.1.mono BZ.out.size)) g5 (zP BZ.out.size F4.out.2.1.size) (fun j hj=>(OZ.out.rb j hj).1)⟩;clear o5 g5 q5 n5))
   go_roundw
   case rel=>exact ⟨k+1,by omega,by go_num,⟨_,F5.out.1⟩,F5.out.2⟩
   case measure=>simp [intOf];omega
  ·have hkn:k=n:=by omega
   subst hkn
   go_wp2
   go_ret
   obtain ⟨⟨u,oz⟩,bz⟩:=HZ.out
   exact ⟨_,u,rfl,oz,bz⟩
theorem qee (a0:Option Addr) (n cap:Nat) (A:Nat->Option Addr) (L C:Nat->Nat) (H:Nat->Nat->E3) (w:World) (hn:n<=1048576) (hL:∀ i,i<n->L i<=1048576) (hr:RowS w a0 n fun i=>.slice (A i) (L i) (C i)) (hI:∀ i,i<n->Src w (A i) (fE (H i) (L i))):
  Calls Tryz.prog 73 #[.slice a0 n cap] w fun e w'=>∃ v u,e=.returned v/\LE true w' (fun k=>w.heap.size<=k/\k<w'.heap.size) v n u L H/\Bw w w':=by
 have hn':(n:Int)<=1048576:=by omega
 have HR:Hid (RowS w a0 n fun i=>.slice (A i) (L i) (C i)):=hr
 have HI:Hid (∀ i,i<n->Src w (A i) (fE (H i) (L i))):=hI
 have HL:Hid (∀ i,i<n->L i<=1048576):=hL
 clear hr hI hL
 go_enter Tryz.func73,Tryz.ntmps73
 go_wp2_with fail
 go_loopw [3,4] (fun v i wr=>∃ k:Nat,k<=n/\i=.int .i64 k/\Hid ((∃ u,LE true wr (fun b=>w.heap.size<=b/\b<wr.heap.size) v k u L H)/\Bw w wr)) (fun _ i _=>n - (intOf i).toNat)
 case atStart=>exact ⟨0,Nat.zero_le _,rfl,⟨fun _=>.slice none 0 0,LL.new _ _ _ w _ (by simp) _ _ _⟩,zQ _ _⟩
 case round=>
  obtain ⟨k,hk,rfl,HZ⟩:=hrel
  by_cases hlt:k<n
  ·have hlt':(k:Int)<(n:Int):=by omega
   obtain ⟨b,off,rfl,ck⟩:=(HR.out.below HZ.out.2).at hlt
   have hbl:b<wr.heap.size:=zJ wr _ ck
   have HS:Hid (Src wr (A k) (fE (H k) (L k))):=(HI.out k hlt).below HZ.out.2
   have HLk:Hid (L k<=1048576):=HL.out k hlt
   have hk2:Hid (k<=2000000):=by show k<=2000000;omega
   obtain ⟨⟨u,oz⟩,bz⟩:=HZ.out
   have OZ:Hid (LE true wr (fun b=>w.heap.size<=b/\b<wr.heap.size) u3 k u L H):=oz
   have BZ:Hid (Bw w wr):=bz
   clear oz bz HZ
   go_wp2_with (first
    | (at_builtin;refine qbs kndE wr rfl rfl _ _ rfl (A k) (L k) (C k) (fE (H k) (L k)) rfl rfl (qlx _ _) HS.out (qoy _ _) (zP HLk.out (by omega)) ?_;intro v4 w4 o4 b4 n4;obtain ⟨a4,c4,rfl⟩:=zU o4;have F4:Hid (w4.ownsRow wr.heap.size 65 3 (.slice a4 (L k) c4) (L k) (fE (H k) (L k))/\Bw wr w4/\Value.slice a4 (L k) c4≠.slice none 0 0):=⟨o4,b4,n4⟩;clear o4 b4 n4)
    | (at_builtin;refine qas qj1 w4 rfl rfl _ _ rfl 0 u3 k _ rfl (OZ.out.below F4.out.2.1).row #[.slice a4 (L k) c4] rfl rfl (by intro u hu;simp at hu;subst hu;rfl) hk2.out (Nat.zero_le _) ?_;intro v5 w5 o5 g5 q5 n5;have F5:Hid (LE true w5 (fun b=>w.heap.size<=b/\b<w5.heap.size) v5 (k+1) (fun j=>if j=k then .slice a4 (L k) c4 else u j) L H/\Bw w w5):=⟨OZ.out.push F4.out.2.1 F4.out.1 (fun _=>F4.out.2.2) o5 g5 q5 (fun j hj _=>⟨hj.1,zL hj.2 (zP F4.out.2.1.size g5.size)⟩) (fun j hj hj'=>⟨zP BZ.out.size hj,hj'⟩),Below.grown (BZ.out.trans (F4.out.2.1.mono BZ.out.size)) g5 (zP BZ.out.size F4.out.2.1.size) (fun j hj=>(OZ.out.rb j hj).1)⟩;clear o5 g5 q5 n5))
   go_roundw
   case rel=>exact ⟨k+1,by omega,by go_num,⟨_,F5.out.1⟩,F5.out.2⟩
   case measure=>simp [intOf];omega
  ·have hkn:k=n:=by omega
   subst hkn
   go_wp2
   go_ret
   obtain ⟨⟨u,oz⟩,bz⟩:=HZ.out
   exact ⟨_,u,rfl,oz,bz⟩
theorem qcq {ops:Array Oper} {o:Oper} {a:Act} {K:Act->World->Prop} {Q:Exit->Act->World->Prop} {E:Prop} {t e:TypeId} {size bytes:Nat} (KK:Kind t e size bytes) (w:World) (hg:o.guard=none) (s x:Operand)
  (ho:o.op=.call { callee:=.builtin .append,args:=#[s,x],argTypes:=#[t,t] })
  (B:Nat) (v:Value) (n:Nat) (xs:List Value) (hs:a.eval s=v) (hown:w.ownsRow B e size v n xs) (a0:Option Addr) (m c:Nat) (news:List Value) (hx:a.eval x=.slice a0 m c) (hl:news.length=m*size) (hsrc:Src w a0 news) (h1:∀ u ∈ news,u.oneCell'=true) (hnm:n+m<=4000000) (hB:B<=w.heap.size)
  (h:∀ v' w',w'.ownsRow B e size v' (n+m) (xs ++ news)->w.grownBy w' v.ownBlock->(v'.ownBlock=v.ownBlock\/v'.ownBlock=some w.heap.size)->(v≠.slice none 0 0\/0<m->v'≠.slice none 0 0)->K (a.put o.dst v') w'):
  if Region.wanted o (yielded ops a.tmps)=true then Oper.wp Tryz.prog o a w K Q else E:=by
 obtain ⟨v',w',r1,r2,r3,r4,r5⟩:=qe6 KK w o.type B v n xs hown a0 m c news hl hsrc h1 hnm hB
 have hw:Region.wanted o (yielded ops a.tmps)=true:=by simp [Region.wanted,hg]
 rw [if_pos hw]
 unfold Oper.wp execOp
 simp only [ho,resolve,invoke,builtin,Sem.run_bind,Sem.run_pure,Result.andThen_ok,List.map_toArray,List.map_cons,List.map_nil,hs,hx,r1]
 exact h v' w' r2 r3 r4 r5
theorem qb4 {ops:Array Oper} {o:Oper} {a:Act} {K:Act->World->Prop} {Q:Exit->Act->World->Prop} {E:Prop} {t e:TypeId} {size bytes:Nat} (KK:Kind t e size bytes) (w:World) {N:Nat} (hN:N=w.heap.size) (hg:o.guard=none) (s x:Operand)
  (ho:o.op=.call { callee:=.builtin .append,args:=#[s,x],argTypes:=#[t,t] })
  (a0:Option Addr) (m c:Nat) (news:List Value) (hs:a.eval s=.slice (some ⟨N,0,none⟩) 0 0) (hx:a.eval x=.slice a0 m c) (hl:news.length=m*size) (hsrc:Src w a0 news) (h1:∀ u ∈ news,u.oneCell'=true) (hnm:m<=4000000)
  (h:∀ v' w',w'.ownsRow w.heap.size e size v' m news->Bw w w'->v'≠.slice none 0 0->K (a.put o.dst v') w'):
  if Region.wanted o (yielded ops a.tmps)=true then Oper.wp Tryz.prog o a (w.alloc (.cells #[] e)) K Q else E:=by
 subst hN
 have hb:Bw w (w.alloc (.cells #[] e)):=zQ _ _
 refine qcq KK _ hg s x ho w.heap.size (.slice (some (aQ w.heap.size 0)) 0 0) 0 [] hs (World.ownsRow_made (base:=w.heap.size) (e:=e) (size:=size) w #[] 0 (Nat.le_refl _) (by unfold maxLen;omega) (by simp)) a0 m c news hx hl (hsrc.below hb) h1 (by omega) (by simp) ?_
 intro v' w' o g _ hne
 rw [Nat.zero_add,List.nil_append] at o
 exact h v' w' o (hb.grown g (by simp) (fun k hk=>by cases hk;exact Nat.le_refl _)) (hne (.inl (by simp)))
theorem qa2 {ops:Array Oper} {o:Oper} {a:Act} {K:Act->World->Prop} {Q:Exit->Act->World->Prop} {E:Prop} {t e:TypeId} {size bytes:Nat} (KK:Kind t e size bytes) (w:World) {N:Nat} (hN:N=w.heap.size) (hg:o.guard=none) (s x:Operand)
  (ho:o.op=.call { callee:=.builtin .append,args:=#[s,x],argTypes:=#[t,t] })
  (B:Nat) (v:Value) (n:Nat) (xs:List Value) (hs:a.eval s=v) (hown:w.ownsRow B e size v n xs) (cs:Array Value) (hx:a.eval x=.slice (some ⟨N,0,none⟩) 1 1) (hl:cs.size=size) (h1:∀ u ∈ cs.toList,u.oneCell'=true) (hn:n<=2000000) (hB:B<=w.heap.size)
  (h:∀ v' w',w'.ownsRow B e size v' (n+1) (xs ++ cs.toList)->w.grownBy w' v.ownBlock->(∀ j,v'.ownBlock=some j->v.ownBlock=some j\/w.heap.size<=j)->v'≠.slice none 0 0->K (a.put o.dst v') w'):
  if Region.wanted o (yielded ops a.tmps)=true then Oper.wp Tryz.prog o a (w.alloc (.cells cs e)) K Q else E:=by
 subst hN
 have hb:Bw w (w.alloc (.cells cs e)):=zQ _ _
 refine qcq KK _ hg s x ho B v n xs hs (hown.alloc _) (some (aQ w.heap.size 0)) 1 1 cs.toList hx (by simp [hl]) (.inr ⟨w.heap.size,0,rfl,by simp,fun j u hj=>?_⟩) h1 (by omega) (by simp;omega) ?_
 ·rw [Nat.zero_add,zW _ _ _ j rfl]
  simpa using hj
 ·intro v' w' o g hbk hne
  refine h v' w' o ⟨g.os,g.tape,g.output,zP hb.size g.size,fun j hj hne=>(g.block j (zL hj hb.size) hne).trans (hb.block j hj)⟩ (fun j hj=>?_) (hne (.inr (by omega)))
  rcases hbk with a | a
  ·exact .inl (a.symm.trans hj)
  ·rw [hj] at a
   simp only [Option.some.injEq] at a
   right
   rw [a]
   simp
theorem qah {ops:Array Oper} {o:Oper} {a:Act} {w:World} {K:Act->World->Prop} {Q:Exit->Act->World->Prop} {E:Prop} (hg:o.guard=none) (f:FuncId) (args:Array Operand) (ts:Array TypeId)
  (ho:o.op=.call { callee:=.value (.func f),args:=args,argTypes:=ts }) (vals:Array Value) (hv:args.map a.eval=vals) (hen:∀ vs wx,(callFunc f vs).run Tryz.prog wx=.ok (.enter f vs) wx) {post:Ending->World->Prop} (hc:Calls Tryz.prog f vals w post)
  (h:∀ e w',post e w'->∃ v,e=.returned v/\K (a.put o.dst v) w'):
  if Region.wanted o (yielded ops a.tmps)=true then Oper.wp Tryz.prog o a w K Q else E:=by
 have hw:Region.wanted o (yielded ops a.tmps)=true:=by simp [Region.wanted,hg]
 rw [if_pos hw]
 have hr:(execOp a.eval o).run Tryz.prog w=.ok (.enter f vals) w:=by
  unfold execOp
  simp [ho,resolve,invoke,hv,hen,Act.eval,Deferred.ofValue]
 unfold Oper.wp
 rw [hr,Oper.upon_enter]
 refine hc.mono fun e w' hp=>?_
 obtain ⟨v,rfl,hk⟩:=h e w' hp
 exact hk
theorem LL.ext {z:Bool} {e:TypeId} {sz:Nat} {E:TypeId} {w:World} {P:Nat->Prop} {v:Value} {n:Nat} {u:Nat->Value} {L L':Nat->Nat} {c c':Nat->List Value} (o:LL z e sz E w P v n u L c) (h:∀ i,i<n->L' i=L i/\c' i=c i):LL z e sz E w P v n u L' c':=
 ⟨o.row,fun i hi=>(by rw [(h i hi).1,(h i hi).2];exact o.own i hi),o.rb,o.ob,o.ra,o.oa,o.nn⟩
theorem Lst.known {w:World} {B n:Nat} {v:Value} (h:Lst w B v n):∃ G,w.ownsRow B 87 5 v n (fI G n):=by
 obtain ⟨xs,ho,hx⟩:=h
 have hall:=List.all_eq_true.1 hx
 have key:∀ j,j<n*5->∃ x:Int,xs[j]? = some (.int .i64 x):=by
  intro j hj
  have hl:j<xs.length:=by rw [ho.1];exact hj
  obtain ⟨x,hxx⟩:=qry (hall xs[j] (List.getElem_mem hl))
  exact ⟨x,by rw [List.getElem?_eq_getElem hl,hxx]⟩
 have inh:Inhabited Int:=⟨0⟩
 obtain ⟨f,hf⟩:=Go.Deep.choose_lt (α:=Int) key
 refine ⟨fun i=>⟨f (i*5),f (i*5+1),f (i*5+2),f (i*5+3),f (i*5+4)⟩,?_⟩
 have e:xs=fI (fun i=>⟨f (i*5),f (i*5+1),f (i*5+2),f (i*5+3),f (i*5+4)⟩) n:=by
  refine List.ext_getElem? fun k=>?_
  have hl2:=qri (fun i=>⟨f (i*5),f (i*5+1),f (i*5+2),f (i*5+3),f (i*5+4)⟩) n
  by_cases hk:k<n*5
  ·have hfl:=qdv (f:=fun i=>cI ⟨f (i*5),f (i*5+1),f (i*5+2),f (i*5+3),f (i*5+4)⟩) (sz:=5) (n:=n) (fun _ _=>rfl) (i:=k / 5) (j:=k % 5) (by omega) (by omega)
   have hkk:k / 5*5+k % 5=k:=by omega
   rw [hkk] at hfl
   rw [hf k hk]
   refine Eq.trans ?_ hfl.symm
   have hm:k % 5=0\/k % 5=1\/k % 5=2\/k % 5=3\/k % 5=4:=by omega
   rcases hm with m | m | m | m | m
   ·rw [m];rw [m] at hkk;simp only [cI];rw [show k / 5*5=k by omega];rfl
   ·rw [m];rw [m] at hkk;simp only [cI];rw [show k / 5*5+1=k by omega];rfl
   ·rw [m];rw [m] at hkk;simp only [cI];rw [show k / 5*5+2=k by omega];rfl
   ·rw [m];rw [m] at hkk;simp only [cI];rw [show k / 5*5+3=k by omega];rfl
   ·rw [m];rw [m] at hkk;simp only [cI];rw [show k / 5*5+4=k by omega];rfl
  ·rw [List.getElem?_eq_none (by rw [ho.1];omega),List.getElem?_eq_none (by rw [hl2];omega)]
 rw [<- e]
 exact ho
