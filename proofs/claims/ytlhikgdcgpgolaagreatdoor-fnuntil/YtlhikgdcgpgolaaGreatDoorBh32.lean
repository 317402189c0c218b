import Derived.Test.YtlhikgdcgpgolaaGreatDoorBh0
import Derived.Test.YtlhikgdcgpgolaaGreatDoorBh30
import Derived.Test.YtlhikgdcgpgolaaGreatDoorBh31
import Derived.Test.YtlhikgdcgpgolaaGreatDoorBh13
import Derived.Deep.Cut
namespace Go.Proofs.YtlhikgdcgpgolaaGreatDoor
set_option maxRecDepth 100000
set_option maxHeartbeats 16000000
open Go.ChangeShapes Go.WideShapes Go.ChangeAt Go.RowKit Go.Deep
def PkB (w:World) (c d:Nat) (v:Value) (n:Nat) (h:Nat->Pk2):Prop:=d<=w.heap.size/\∃ la lc,v=.slice la n lc/\(n=0\/∃ g,la=some ⟨g,0,none⟩/\c<g/\g<d/\PkAt w g 0 n h)
theorem PkB.keep {w w':World} {c d n:Nat} {v:Value} {h:Nat->Pk2} (hh:PkB w c d v n h) (hs:w.heap.size<=w'.heap.size) (hb:∀ b,c<b->b<d->w'.heap[b]? = w.heap[b]?):PkB w' c d v n h:=by
 obtain ⟨hd,la,lc,rfl,hp⟩:=hh
 refine ⟨by omega,la,lc,rfl,hp.imp id fun ⟨g,e,h1,h2,h3⟩=>⟨g,e,h1,h2,fun i hi=>?_⟩⟩
 obtain ⟨a1,a2⟩:=h3 i hi
 exact ⟨(zH (hb g h1 h2)).trans a1,(zH (hb g h1 h2)).trans a2⟩
theorem PkB.weak {w:World} {c c' d n:Nat} {v:Value} {h:Nat->Pk2} (hh:PkB w c d v n h) (hc:c'<=c):PkB w c' d v n h:=by
 obtain ⟨hd,la,lc,rfl,hp⟩:=hh
 exact ⟨hd,la,lc,rfl,hp.imp id fun ⟨g,e,h1,h2,h3⟩=>⟨g,e,by omega,h2,h3⟩⟩
theorem SysX.drw {w:World} {B T:Nat} {x:SysIn} (h:SysX w B T x):SysX w.drew B T x:=h.keep (Nat.le_refl _) fun _ _ _ _=>rfl
theorem PkB.into {w w':World} {c n:Nat} {v:Value} {h:Nat->Pk2} (hh:PkB w c w.heap.size v n h) (hs:w'.heap.size=w.heap.size) (hb:∀ b,c<b->w'.heap[b]? = w.heap[b]?):PkB w' c w'.heap.size v n h:=by
 rw [hs]
 exact hh.keep (by omega) fun b h1 _=>hb b h1
theorem PkB.drew {w:World} {c n:Nat} {v:Value} {h:Nat->Pk2} (hh:PkB w c w.heap.size v n h):PkB w.drew c w.drew.heap.size v n h:=hh.keep (Nat.le_refl _) fun _ _ _=>rfl
theorem DK.cg {w wr:World} {W0 c:Nat} {a0:Option Addr} {len cap B T:Nat} {y:Sy} {v:Value} (h:DK w wr W0 c a0 len cap B T y v):Cur wr W0 c a0 len cap/\w.grownBy wr (some c):=⟨h.cu,h.gr⟩
def pkO (xs:List Value) (i:Nat):Pk2:=⟨intOf (xs.getD (i*2) (.int .i64 0)),intOf (xs.getD (i*2+1) (.int .i64 0))⟩
theorem pkB_own {w:World} {c n:Nat} {v:Value} {xs:List Value} (h:w.ownsRow 0 39 2 v n xs) (hi:∀ u ∈ xs,∃ i:Int,u=.int .i64 i) (hc:∀ g,v.ownBlock=some g->c<g):PkB w c w.heap.size v n (pkO xs):=by
 have hx:=h.1
 rcases h.2 with ⟨rfl,e⟩ | ⟨g,cap,cur,rfl,-⟩
 ·exact ⟨Nat.le_refl _,none,0,by rw [e],.inl e⟩
 ·refine ⟨Nat.le_refl _,_,_,rfl,.inr ⟨g,rfl,hc g rfl,(h.lt g rfl).2,fun i hin=>?_⟩⟩
  have key:∀ j,j<n*2->w.cell? ⟨g,j,none⟩=some (.int .i64 (intOf (xs.getD j (.int .i64 0)))):=fun j hj=>by
   rw [h.cellAt j hj]
   have hjl:j<xs.length:=by omega
   obtain ⟨z,hz⟩:=hi _ (List.getElem_mem hjl)
   rw [List.getElem?_eq_getElem hjl,List.getD_eq_getElem?_getD,List.getElem?_eq_getElem hjl,Option.getD_some,hz]
   rfl
  rw [Nat.zero_add]
  exact ⟨key _ (by omega),key _ (by omega)⟩
theorem sysV_v {pa sa wa ha:Option Addr} {n0 n1 n2 n3 pc sc wc hc:Nat} {x:SysIn} (h:sysV pa n0 pc sa n1 sc wa n2 wc ha n3 hc=x.v):(pa=x.pa/\n0=x.pn/\pc=x.pc)/\(sa=x.sa/\n1=x.sn/\sc=x.sc)/\(wa=x.wa/\n2=x.wn/\wc=x.wc)/\(ha=x.ha/\n3=x.hn/\hc=x.hc):=by
 simpa [sysV,SysIn.v,and_assoc] using h
structure DR2 (w wr:World) (W0 c:Nat) (a0:Option Addr) (len cap M:Nat) (x0:SysIn) (B0 T0:Nat) (v9:Value) (k:Nat):Prop where
 dr:DR w wr W0 c a0 len cap M (.slice x0.pa x0.pn x0.pc) (.slice x0.sa x0.sn x0.sc) (.slice x0.wa x0.wn x0.wc) (.slice x0.ha x0.hn x0.hc) v9 k
 sx:SysX wr B0 T0 x0
 sz:w.heap.size+2<=B0/\T0<=M
 pl:∃ m xs,m<=k/\wr.ownsRow 0 39 2 v9 m xs/\∀ u ∈ xs,∃ i:Int,u=.int .i64 i
section
variable {w wr w':World} {W0 c len cap M k B0 T0:Nat} {a0:Option Addr} {x0:SysIn} {v9:Value}
theorem DR2.keep (h:DR2 w wr W0 c a0 len cap M x0 B0 T0 v9 k) (hc:Cur w' W0 c a0 len cap) (hs:wr.heap.size<=w'.heap.size) (hb:∀ b,b≠c->b<wr.heap.size->w'.heap[b]? = wr.heap[b]?) (hg:wr.grownBy w' (some c)):DR2 w w' W0 c a0 len cap M x0 B0 T0 v9 k:=by
 obtain ⟨dr,sx,sz,⟨m,xs,hm,hl,hi⟩⟩:=h
 have hle:=dr.le
 exact ⟨dr.keep hc hs hb hg,sx.keep hs fun b h1 _ hl=>hb b (by omega) hl,sz,m,xs,hm,ownsRow_blkL hl fun g hg=>hb g (by have:=dr.lo g hg;omega) (hl.lt g hg).2,hi⟩
theorem DR2.draw (h:DR2 w wr W0 c a0 len cap M x0 B0 T0 v9 k) (hc:Cur w' W0 c a0 len cap) (hg:wr.grownBy w' (some c)):DR2 w w' W0 c a0 len cap M x0 B0 T0 v9 k:=h.keep hc hg.size (fun b hb hl=>hg.block b hl (by simpa using hb)) hg
theorem DR2.below (h:DR2 w wr W0 c a0 len cap M x0 B0 T0 v9 k) (hb:Below wr.heap.size wr w'):DR2 w w' W0 c a0 len cap M x0 B0 T0 v9 k:=
 h.keep (h.dr.cur.kept (zZ hb) (by simp) (fun k hk=>by cases hk)) hb.size (fun b _ hl=>hb.block b hl) ⟨hb.os,hb.tape,hb.output,hb.size,fun k hk _=>hb.block k hk⟩
theorem DR2.app {w1:World} {v':Value} {m:Nat} {xs:List Value} (h:DR2 w wr W0 c a0 len cap M x0 B0 T0 v9 k) (ho:w1.ownsRow 0 39 2 v' m xs) (hm:m<=k+1) (g:wr.grownBy w1 v9.ownBlock) (hv:∀ j,v'.ownBlock=some j->v9.ownBlock=some j\/wr.heap.size<=j) (hi:∀ u ∈ xs,∃ i:Int,u=.int .i64 i):DR2 w w1 W0 c a0 len cap M x0 B0 T0 v' (k+1):=
 ⟨h.dr.app ho hm g hv,h.sx.keep g.size fun b _ hb hl=>g.block b hl (fun e=>by have:=h.dr.lo b e.symm;have:=h.sz;omega),h.sz,m,xs,hm,ho,hi⟩
end
theorem l6DrawRun_l (W0 c len cap:Nat) (a0:Option Addr) (most:Int) (w:World) (hc:Cur w W0 c a0 len cap) (m0:0<=most) (m1:most<=200):
  Calls Tryz.prog 12 #[.pointer (some ⟨c,0,none⟩),.int .i64 most] w fun e w'=>∃ (x0:SysIn) (B0 T0 n:Nat) (v1:Value) (qa qb qc qd:Option Addr) (n0 n1 n2 n3 e0 e1 e2 e3:Nat) (h:Nat->Pk2),e=.returned (.tuple #[x0.v,v1,sysV qa n0 e0 qb n1 e1 qc n2 e2 qd n3 e3])/\x0.y.Sm/\SysX w' B0 T0 x0/\c<B0/\w.heap.size<=B0/\T0<=w'.heap.size/\n<=200/\PkB w' c w'.heap.size v1 n h/\Cur w' W0 c a0 len cap/\w.grownBy w' (some c):=by
 have hcl:c<w.heap.size:=hc.lt
 have hcg:W0<=c:=hc.ge
 have C0:Hid (Cur ((w.alloc (zQ3)).alloc (zQ3)) W0 c a0 len cap/\w.grownBy ((w.alloc (zQ3)).alloc (zQ3)) (some c)/\Bx ((w.alloc (zQ3)).alloc (zQ3)) w.heap.size (.slice none 0 0) (.slice none 0 0) (.slice none 0 0) (.slice none 0 0)/\Bx ((w.alloc (zQ3)).alloc (zQ3)) (w.heap.size+1) (.slice none 0 0) (.slice none 0 0) (.slice none 0 0) (.slice none 0 0)/\((w.alloc (zQ3)).alloc (zQ3)).heap.size=w.heap.size+2):=⟨(hc.alloc _).alloc _,(World.grownBy_alloc _ _ _).trans (World.grownBy_alloc _ _ _),(Bx.new w _ _ _ _ _).below (zQ _ _),Bx.newN _ (by simp) _ _ _ _ _,by simp⟩
 clear hc
 go_enter Tryz.func12,Tryz.ntmps12
 go_wp2_with fail
 generalize (w.alloc (zQ3)).alloc (zQ3)=W2 at *
 refine (l6DrawNew_any W0 c len cap a0 W2 C0.out.1).mono ?_
 rintro e w1 ⟨pa,sa,wa,ha,pc,sc,wc,hh,y,rfl,hy,k1⟩
 obtain ⟨x0,ev0,ey0,hX0⟩:=k1.sy.x
 have HM0:Hid (x0.y.Sm/\c<W2.heap.size):=⟨by rw [ey0];exact hy.sm,k1.lt⟩
 have E0:Hid (pa=x0.pa/\y.pn=x0.pn/\pc=x0.pc):=(sysV_v ev0).1
 have E1:Hid (sa=x0.sa/\y.sn=x0.sn/\sc=x0.sc):=(sysV_v ev0).2.1
 have E2':Hid (wa=x0.wa/\y.wn=x0.wn/\wc=x0.wc):=(sysV_v ev0).2.2.1
 have E3:Hid (ha=x0.ha/\y.hn=x0.hn/\hh=x0.hc):=(sysV_v ev0).2.2.2
 clear ev0
 have D4:Hid (DR2 w (((w1.alloc (oQ4 pa y.pn pc sa y.sn sc wa y.wn wc ha y.hn hh)).alloc (oQ4 pa y.pn pc sa y.sn sc wa y.wn wc ha y.hn hh)).alloc (.cells #[] 39)) W0 c a0 len cap w1.heap.size x0 W2.heap.size w1.heap.size (.slice (some ⟨w1.heap.size+2,0,none⟩) 0 0) 0):=by
  have hs2:=C0.out.2.2.2.2
  have hs1:=k1.gr.size
  have k2:DK w w1 W0 c a0 len cap W2.heap.size w1.heap.size y (sysV pa y.pn pc sa y.sn sc wa y.wn wc ha y.hn hh):=⟨k1.cu,k1.sy,C0.out.2.1.trans k1.gr,k1.lt⟩
  have s4:Below w1.heap.size w1 (((w1.alloc (oQ4 pa y.pn pc sa y.sn sc wa y.wn wc ha y.hn hh)).alloc (oQ4 pa y.pn pc sa y.sn sc wa y.wn wc ha y.hn hh)).alloc (.cells #[] 39)):=(((Below.refl _ _).alloc (Nat.le_refl _) _).alloc (by simp) _).alloc (by simp;omega) _
  refine ⟨?_,hX0.keep s4.size fun b _ _ hl=>s4.block b hl,⟨by omega,Nat.le_refl _⟩,0,[],Nat.le_refl _,own_new2 _ (by simp),fun u hu=>by cases hu⟩
  rw [<- E0.out.1,<- E0.out.2.1,<- E0.out.2.2,<- E1.out.1,<- E1.out.2.1,<- E1.out.2.2,<- E2'.out.1,<- E2'.out.2.1,<- E2'.out.2.2,<- E3.out.1,<- E3.out.2.1,<- E3.out.2.2]
  refine ⟨⟨_,_,y,pa,sa,wa,ha,pc,sc,wc,hh,((k2.alloc _).alloc _).alloc _,hy,(Bx.newN _ (by simp) _ _ _ _ _).below (zQ _ _),.inr (Nat.le_refl _),by simp;omega,by omega,fun g hg=>?_⟩,(((C0.out.2.2.1.grown k1.gr (by simp;omega)).below (zQ _ _)).below (zQ _ _)).below (zQ _ _),(((C0.out.2.2.2.1.grown k1.gr (by simp;omega)).below (zQ _ _)).below (zQ _ _)).below (zQ _ _),((Bx.new _ _ _ _ _ _).below (zQ _ _)).below (zQ _ _),⟨0,[],Nat.le_refl _,?_⟩,fun g hg=>?_,by omega,hcl,hcg⟩
  ·have:=own_at hg
   omega
  ·exact own_new2 _ (by simp)
  ·have:=own_at hg
   omega
 have HB0:Hid (c<W2.heap.size/\w.heap.size<=W2.heap.size):=⟨HM0.out.2,by have:=C0.out.2.2.2.2;omega⟩
 clear k1 hy C0 hX0 ey0
 go_wp2_with fail
 generalize ((w1.alloc (oQ4 pa y.pn pc sa y.sn sc wa y.wn wc ha y.hn hh)).alloc (oQ4 pa y.pn pc sa y.sn sc wa y.wn wc ha y.hn hh)).alloc (.cells #[] 39)=W4 at *
 generalize w1.heap.size=M at *
 generalize W2.heap.size=B0 at *
 generalize y.pn=sn0 at *
 generalize y.sn=sn1 at *
 generalize y.wn=sn2 at *
 generalize y.hn=sn3 at *
 obtain ⟨rfl,rfl,rfl⟩:=E0.out
 obtain ⟨rfl,rfl,rfl⟩:=E1.out
 obtain ⟨rfl,rfl,rfl⟩:=E2'.out
 obtain ⟨rfl,rfl,rfl⟩:=E3.out
 refine (zY W0 c len cap a0 (most+1) W4 D4.out.dr.cur (by omega) (by omega)).mono ?_
 rintro e w5 ⟨n,rfl,⟨n0,n1⟩,hc5,hg5⟩
 have D5:Hid (DR2 w w5 W0 c a0 len cap M x0 B0 M (.slice (some ⟨M+2,0,none⟩) 0 0) 0):=D4.out.draw hc5 hg5
 clear hc5 hg5 D4
 obtain ⟨nn,rfl⟩:∃ nn:Nat,n=nn:=⟨n.toNat,by omega⟩
 have hnn:(nn:Int)<=200:=by omega
 clear n0 n1
 go_wp2_with fail
 go_loopw [9,11] (fun v i wr=>∃ k:Nat,k<=nn/\i=.int .i64 k/\Hid (DR2 w wr W0 c a0 len cap M x0 B0 M v k)) (fun _ i _=>nn - (intOf i).toNat)
 case atStart=>exact ⟨0,Nat.zero_le _,rfl,D5.out⟩
 case round=>
  clear D5
  obtain ⟨k,hk,rfl,HR⟩:=hrel
  obtain ⟨B,T,y',pa',sa',wa',ha',pc',sc',wc',hh',dk,gd,b8,h1,h2,h3,h4⟩:=HR.out.dr.ex
  have DKr:Hid (DK w wr W0 c a0 len cap B T y' (sysV pa' y'.pn pc' sa' y'.sn sc' wa' y'.wn wc' ha' y'.hn hh')/\y'.Good/\T<=wr.heap.size/\w.heap.size+2<=B):=⟨dk,gd,h2,h3⟩
  by_cases hlt:k<nn
  ·have hlt':(k:Int)<(nn:Int):=by omega
   obtain ⟨r0,r1,r2,r3⟩:=b8.bx
   clear dk gd b8 h1 h2 h3 h4
   go_wp2_with fail
   refine (l6DrawPick_any W0 c len cap B T a0 y' _ wr DKr.out.2.1.sm DKr.out.1.cu DKr.out.1.sy DKr.out.2.2.1 DKr.out.1.lt).mono ?_
   rintro e w2 ⟨p,q,rfl,k2⟩
   have E2:Hid (DR2 w (w2.alloc (.cells #[.int .i64 p,.int .i64 q] 39)) W0 c a0 len cap M x0 B0 M u9 k):=(HR.out.draw k2.cu k2.gr).below (zQ _ _)
   have P2:Hid ((w2.alloc (.cells #[.int .i64 p,.int .i64 q] 39)).cell? ⟨w2.heap.size,0,none⟩=some (.int .i64 p)/\(w2.alloc (.cells #[.int .i64 p,.int .i64 q] 39)).cell? ⟨w2.heap.size,1,none⟩=some (.int .i64 q)):=⟨zW _ _ _ 0 rfl,zW _ _ _ 1 rfl⟩
   have L2:Hid (∀ g,u9.ownBlock=some g->g<w2.heap.size):=fun g hg=>by
    obtain ⟨m,xs,-,ho⟩:=(HR.out.draw k2.cu k2.gr).dr.li
    exact (ho.lt g hg).2
   clear k2 r0 r1 r2 r3 HR DKr
   go_upto_region 9 with fail
   generalize hW3:w2.alloc (.cells #[.int .i64 p,.int .i64 q] 39)=w3 at *
   have hs3:w3.heap.size=w2.heap.size+1:=by rw [<- hW3];simp
   have HS3:Hid (w3.heap.size=w2.heap.size+1):=hs3
   clear hW3 hs3
   generalize w2.heap.size=N at *
   obtain ⟨c0,c1⟩:=P2.out
   obtain ⟨m,xs,hm,lo9,li9⟩:=E2.out.pl
   have LO:Hid (w3.ownsRow 0 39 2 u9 m xs/\m<=2000000/\m+1<=k+1):=⟨lo9,by omega,by omega⟩
   have LI9:Hid (∀ u ∈ xs ++ [.int .i64 p,.int .i64 q],∃ i:Int,u=.int .i64 i):=fun u hu=>by
    rcases List.mem_append.1 hu with h | h
    ·exact li9 u h
    ·simp at h
     rcases h with rfl | rfl
     ·exact ⟨_,rfl⟩
     ·exact ⟨_,rfl⟩
   clear hm lo9 li9
   go_upto_region 10 with (at_builtin;refine step_append_val kndP w3 rfl rfl _ _ rfl 0 u9 m xs rfl LO.out.1 #[.int .i64 p,.int .i64 q] rfl rfl (by intro u hu;simp at hu;rcases hu with rfl | rfl <;> rfl) LO.out.2.1 (Nat.zero_le _) ?_;intro v5 w5 o5 g5 q5 _;have E5:Hid (DR2 w w5 W0 c a0 len cap M x0 B0 M v5 (k+1)/\w5.cell? ⟨N,0,none⟩=some (.int .i64 p)/\w5.cell? ⟨N,1,none⟩=some (.int .i64 q)):=⟨E2.out.app o5 LO.out.2.2 g5 q5 LI9.out,(zH (g5.block N (by rw [HS3.out];omega) (fun e=>by have:=L2.out N e.symm;omega))).trans P2.out.1,(zH (g5.block N (by rw [HS3.out];omega) (fun e=>by have:=L2.out N e.symm;omega))).trans P2.out.2⟩;clear o5 g5 q5)
   clear c0 c1 E2 P2 L2 LO LI9
   obtain ⟨B,T,y',pa',sa',wa',ha',pc',sc',wc',hh',dk,gd,b8,h1,h2,h3,h4⟩:=E5.out.1.dr.ex
   obtain ⟨r0,r1,r2,r3⟩:=b8.bx
   obtain ⟨c0,c1⟩:=E5.out.2
   have HStep:Hid (Calls Tryz.prog 22 #[sysV pa' y'.pn pc' sa' y'.sn sc' wa' y'.wn wc' ha' y'.hn hh',.int .i64 p,.int .i64 q] w5 fun e w'=>∃ v,e=.returned (.tuple #[v,.int .i64 (stC y' p q)])/\OwnSys true w' w5.heap.size (stY y' p q) v/\Below w5.heap.size w5 w'):=by
    obtain ⟨x,ev,ey,hX⟩:=dk.sy.x
    have:=specStep_any x p q w5 hX.self (Sy.Sm.inLen (by rw [ey];exact gd.sm)) hX.cap
    rw [<- ev,ey] at this
    exact this
   have HGood:Hid (stC y' p q=0->(stY y' p q).Good):=fun h=>gd.step h
   clear dk gd b8 h1 h2 h3 h4
   go_wp2_with fail
   refine HStep.out.mono ?_
   rintro e w6 ⟨v6,rfl,o6,q6⟩
   generalize hC:stC y' p q=C at *
   generalize hY:stY y' p q=Y at *
   obtain ⟨pa6,pc6,sa6,sc6,wa6,wc6,ha6,hc6,rfl⟩:=o6.form
   have E6:Hid (DR2 w w6 W0 c a0 len cap M x0 B0 M v5 (k+1)):=E5.out.1.below q6
   have O6:Hid (SysT w6 w5.heap.size w6.heap.size Y (sysV pa6 Y.pn pc6 sa6 Y.sn sc6 wa6 Y.wn wc6 ha6 Y.hn hc6)/\w5.heap.size<=w6.heap.size/\M+1<w5.heap.size/\(∀ g,v5.ownBlock=some g->g<w5.heap.size)):=⟨o6.sysT,q6.size,by obtain ⟨B,T,y',pa',sa',wa',ha',pc',sc',wc',hh',-,-,b8,-⟩:=E5.out.1.dr.ex;exact b8.lt,fun g hg=>by obtain ⟨m,xs,-,ho⟩:=E5.out.1.dr.li;exact (ho.lt g hg).2⟩
   clear hC hY o6 q6 r0 r1 r2 r3 c0 c1 HStep E5
   by_cases hc0:C=0
   ·subst hc0
    have gY:=HGood.out rfl
    obtain ⟨B,T,y',pa',sa',wa',ha',pc',sc',wc',hh',dk,gd,b8,h1,h2,h3,h4⟩:=E6.out.dr.ex
    obtain ⟨⟨r0,r1,r2,r3⟩,rf⟩:=b8
    have l8:M+1<w6.heap.size:=by have:=O6.out;omega
    have E7:Hid (DR2 w ((((w6.setCell ⟨M+1,0,none⟩ (.slice pa6 Y.pn pc6)).setCell ⟨M+1,1,none⟩ (.slice sa6 Y.sn sc6)).setCell ⟨M+1,2,none⟩ (.slice wa6 Y.wn wc6)).setCell ⟨M+1,3,none⟩ (.slice ha6 Y.hn hc6)) W0 c a0 len cap M x0 B0 M v5 (k+1)):=by
     obtain ⟨o7,hs7,hs8,hg7⟩:=O6.out
     obtain ⟨⟨-,b4,b6,b7,⟨m,xs,hm,hl⟩,lo,le⟩,sx6,sz6,m6,xs6,hm6,hl6,hi6⟩:=E6.out
     have hk8:∀ b,b≠M+1->((((w6.setCell ⟨M+1,0,none⟩ (.slice pa6 Y.pn pc6)).setCell ⟨M+1,1,none⟩ (.slice sa6 Y.sn sc6)).setCell ⟨M+1,2,none⟩ (.slice wa6 Y.wn wc6)).setCell ⟨M+1,3,none⟩ (.slice ha6 Y.hn hc6)).heap[b]? = w6.heap[b]?:=fun b hne=>(zO _ _ _ _ hne).trans ((zO _ _ _ _ hne).trans ((zO _ _ _ _ hne).trans (zO _ _ _ _ hne)))
     refine ⟨?_,sx6.keep (by simp) fun b _ hb _=>hk8 b (by omega),sz6,m6,xs6,hm6,ownsRow_blkL hl6 fun g hg=>hk8 g (by have:=lo g hg;omega),hi6⟩
     have k7:DK w w6 W0 c a0 len cap w5.heap.size w6.heap.size Y (sysV pa6 Y.pn pc6 sa6 Y.sn sc6 wa6 Y.wn wc6 ha6 Y.hn hc6):=⟨dk.cu,o7,dk.gr,by omega⟩
     refine ⟨⟨_,_,Y,pa6,sa6,wa6,ha6,pc6,sc6,wc6,hc6,(((k7.set (by omega) (by omega) (.inl hs8) (by omega) _ _).set (by omega) (by omega) (.inl hs8) (by omega) _ _).set (by omega) (by omega) (.inl hs8) (by omega) _ _).set (by omega) (by omega) (.inl hs8) (by omega) _ _,gY,(show Bx w6 (M+1) _ _ _ _ from ⟨⟨r0,r1,r2,r3⟩,rf⟩).put _ _ _ _,.inl hs8,by simp,by omega,fun g hg=>.inl (hg7 g hg)⟩,(((b4.set (by omega)).set (by omega)).set (by omega)).set (by omega),(((b6.set (by omega)).set (by omega)).set (by omega)).set (by omega),(((b7.set (by omega)).set (by omega)).set (by omega)).set (by omega),⟨m,xs,hm,?_⟩,lo,le⟩
     exact ownsRow_blkL hl fun g hg=>by
      have hne:g≠M+1:=by have:=lo g hg;omega
      exact (zO _ _ _ _ hne).trans ((zO _ _ _ _ hne).trans ((zO _ _ _ _ hne).trans (zO _ _ _ _ hne)))
    clear dk gd h1 h2 h3 h4 gY HGood E6
    go_wp2
    go_roundw
    case rel=>exact ⟨k+1,by omega,by go_num,E7.out.below (zQ _ _)⟩
    case measure=>simp [intOf];omega
   ·have tc:(C == 0)=false:=by simpa using hc0
    go_wp2
    go_roundw
    case rel=>exact ⟨k+1,by omega,by go_num,E6.out.below (zQ _ _)⟩
    case measure=>simp [intOf];omega
  ·obtain ⟨r0,r1,r2,r3⟩:=b8.bx
   obtain ⟨⟨y0,y1,y2,y3⟩,yf⟩:=HR.out.dr.b4
   obtain ⟨⟨z0,z1,z2,z3⟩,zf⟩:=HR.out.dr.b6
   obtain ⟨⟨d0,d1,d2,d3⟩,df⟩:=HR.out.dr.b7
   have hM:=HR.out.dr.le
   have n1:w.heap.size≠M:=by omega
   have n2:w.heap.size≠M+1:=by omega
   have n3:w.heap.size+1≠M:=by omega
   have n4:w.heap.size+1≠M+1:=by omega
   have l4:w.heap.size<wr.heap.size:=zJ wr _ y0
   have l6:w.heap.size+1<wr.heap.size:=zJ wr _ z0
   have HE:Hid (SysX wr B0 M x0/\M<=wr.heap.size/\w.heap.size+2<=B0/\∃ n h,n<=200/\PkB wr (M+1) wr.heap.size u9 n h):=by
    obtain ⟨m,xs,hm,hl,hi⟩:=HR.out.pl
    exact ⟨HR.out.sx,by have:=HR.out.dr.b7.lt;omega,HR.out.sz.1,m,pkO xs,by omega,pkB_own hl hi HR.out.dr.lo⟩
   clear dk gd b8 h1 h2 h3 h4 HR
   go_wp2_with fail
   go_region
   all_goals
    go_wp2
    obtain ⟨e1,e2,e3,n,h,e4,e5⟩:=HE.out
    refine bodyPost_ret (v:=.tuple #[x0.v,u9,sysV pa' y'.pn pc' sa' y'.sn sc' wa' y'.wn wc' ha' y'.hn hh']) (by simp [results,Tryz.results12,go_sem,y0,y1,y2,y3,z0,z1,z2,z3,SysIn.v]) rfl ⟨x0,B0,M,n,u9,pa',sa',wa',ha',y'.pn,y'.sn,y'.wn,y'.hn,pc',sc',wc',hh',h,rfl,HM0.out.1,?_,HB0.out.1,HB0.out.2,by simpa using e2,e4,?_,DK.cg (B:=B) (T:=T) (y:=y') (v:=sysV pa' y'.pn pc' sa' y'.sn sc' wa' y'.wn wc' ha' y'.hn hh') ?_⟩
    ·refine SysX.drw (e1.keep (by simp) fun b hb _ _=>?_)
     iterate 4 rw [zO _ _ _ _ (show b≠w.heap.size+1 by omega)]
     iterate 4 rw [zO _ _ _ _ (show b≠w.heap.size by omega)]
    ·refine PkB.weak (c:=M+1) (PkB.drew (e5.into (by simp) fun b hb=>?_)) (by omega)
     iterate 4 rw [zO _ _ _ _ (show b≠w.heap.size+1 by omega)]
     iterate 4 rw [zO _ _ _ _ (show b≠w.heap.size by omega)]
    ·refine DK.drew ?_
     iterate 8 (refine DK.set ?_ (by omega) (by omega) (by have:=DKr.out;omega) (by omega) _ _)
     exact DKr.out.1
structure UD (w wr:World) (W0 c:Nat) (a0:Option Addr) (len cap B T M:Nat) (x:SysIn) (v1:Value) (n:Nat) (h:Nat->Pk2):Prop where
 cu:Cur wr W0 c a0 len cap
 be:Below w.heap.size w wr
 sx:SysX wr B T x
 b2:Bx wr w.heap.size (.slice none 0 0) (.slice none 0 0) (.slice none 0 0) (.slice none 0 0)
 b3:St3 wr (w.heap.size+1) 0 0 0
 b6:Bx wr M (.slice x.pa x.pn x.pc) (.slice x.sa x.sn x.sc) (.slice x.wa x.wn x.wc) (.slice x.ha x.hn x.hc)
 pl:PkB wr c M v1 n h
 sz:w.heap.size+1<B/\w.heap.size+1<M/\w.heap.size+1<c/\c<B/\c<M/\M<wr.heap.size/\T<=wr.heap.size
section
variable {w wr w':World} {W0 c len cap B T M n:Nat} {a0:Option Addr} {x:SysIn} {v1:Value} {h:Nat->Pk2}
theorem UD.draw (d:UD w wr W0 c a0 len cap B T M x v1 n h) (hc:Cur w' W0 c a0 len cap) (hg:wr.grownBy w' (some c)):UD w w' W0 c a0 len cap B T M x v1 n h:=by
 have hz:=d.sz
 have hs:=hg.size
 have hb:∀ b,b≠c->b<wr.heap.size->w'.heap[b]? = wr.heap[b]?:=fun b h1 h2=>hg.block b h2 (by simpa using h1)
 exact ⟨hc,Below.grown d.be hg d.be.size (fun k hk=>by cases hk;omega),d.sx.keep hs fun b h1 _ h3=>hb b (by omega) h3,d.b2.grown hg (by simp;omega),d.b3.blk (hb _ (by omega) d.b3.lt),d.b6.blk (hb _ (by omega) d.b6.lt),d.pl.keep hs fun b h1 h2=>hb b (by omega) (by omega),by omega⟩
theorem UD.below (d:UD w wr W0 c a0 len cap B T M x v1 n h) (hb:Below wr.heap.size wr w'):UD w w' W0 c a0 len cap B T M x v1 n h:=
 d.draw (d.cu.kept (zZ hb) (by simp) (fun k hk=>by cases hk)) ⟨hb.os,hb.tape,hb.output,hb.size,fun k hk _=>hb.block k hk⟩
end
def DrwUn (w:World) (e:Ending) (w':World):Prop:=∃ (x:SysIn) (B T:Nat) (p k v:Int) (la:Option Addr) (n lc:Nat) (h:Nat->Pk2),e=.returned (.tuple #[x.v,.slice la n lc,spV p k v])/\x.y.Sm/\SysX w' B T x/\PkL w' la n h/\n<=200/\Below w.heap.size w w'
theorem DrawUntil_any (W0 len cap:Nat) (a0:Option Addr) (w:World) (hB:BytesAt w W0 a0 len) (hW:W0<=w.heap.size) (ln:len<=1048576):
  Calls Tryz.prog 5 #[.slice a0 len cap] w (DrwUn w):=by
 have C0:Hid (BytesAt ((w.alloc (zQ3)).alloc (zQ7)) W0 a0 len/\W0<=((w.alloc (zQ3)).alloc (zQ7)).heap.size/\Below w.heap.size w ((w.alloc (zQ3)).alloc (zQ7))/\Bx ((w.alloc (zQ3)).alloc (zQ7)) w.heap.size (.slice none 0 0) (.slice none 0 0) (.slice none 0 0) (.slice none 0 0)/\St3 ((w.alloc (zQ3)).alloc (zQ7)) (w.heap.size+1) 0 0 0/\((w.alloc (zQ3)).alloc (zQ7)).heap.size=w.heap.size+2):=by
  have b2:=zQ (w.alloc (zQ3)) (zQ7)
  have b:=(zQ w (zQ3)).trans (b2.mono (by simp))
  have h3:=St3.new (w.alloc (zQ3)) 0 0 0 32
  rw [World.size_alloc] at h3
  exact ⟨hB.kept (fun k hk=>b.block k (by omega)),by simp;omega,b,(Bx.new w _ _ _ _ _).below b2,h3,by simp⟩
 clear hB
 go_enter Tryz.func5,Tryz.ntmps5
 go_wp2_with fail
 generalize (w.alloc (zQ3)).alloc (zQ7)=W2 at *
 refine (l1New_any W0 len cap a0 W2 C0.out.1 C0.out.2.1 ln).mono ?_
 rintro e w1 ⟨rfl,hc1,hg1⟩
 have b1:=below_of_grown hg1
 have C1:Hid (Cur w1 W0 W2.heap.size a0 len cap/\Below w.heap.size w w1/\Bx w1 w.heap.size (.slice none 0 0) (.slice none 0 0) (.slice none 0 0) (.slice none 0 0)/\St3 w1 (w.heap.size+1) 0 0 0/\W2.heap.size=w.heap.size+2/\W2.heap.size<w1.heap.size):=⟨hc1,C0.out.2.2.1.trans (b1.mono C0.out.2.2.1.size),C0.out.2.2.2.1.below b1,C0.out.2.2.2.2.1.blk (b1.block _ C0.out.2.2.2.2.1.lt),C0.out.2.2.2.2.2,hc1.lt⟩
 clear hc1 hg1 C0 b1
 generalize W2.heap.size=c at *
 go_wp2_with fail
 refine (l6DrawRun_l W0 c len cap a0 40 w1 C1.out.1 (by omega) (by omega)).mono ?_
 rintro e w2 ⟨x,B,T,n,v1,qa,qb,qc,qd,n0,n1,n2,n3,e0,e1,e2,e3,h,rfl,hm,hX,hcB,hB1,hT,hn,hp,hc2,hg2⟩
 have DA:Hid (UD w ((w2.alloc (oQ4 x.pa x.pn x.pc x.sa x.sn x.sc x.wa x.wn x.wc x.ha x.hn x.hc)).alloc (oQ4 qa n0 e0 qb n1 e1 qc n2 e2 qd n3 e3)) W0 c a0 len cap B T w2.heap.size x v1 n h):=by
  have h1:=C1.out.2.2.2.2.1
  have h2:=C1.out.2.2.2.2.2
  have h4:=hg2.size
  have d2:∀ b,b≠c->b<w1.heap.size->w2.heap[b]? = w1.heap[b]?:=fun b g1 g2=>hg2.block b g2 (by simpa using g1)
  have hb9:=(zQ w2 (oQ4 x.pa x.pn x.pc x.sa x.sn x.sc x.wa x.wn x.wc x.ha x.hn x.hc)).trans ((zQ (w2.alloc (oQ4 x.pa x.pn x.pc x.sa x.sn x.sc x.wa x.wn x.wc x.ha x.hn x.hc)) (oQ4 qa n0 e0 qb n1 e1 qc n2 e2 qd n3 e3)).mono (by simp))
  refine ⟨(hc2.alloc _).alloc _,(Below.grown C1.out.2.1 hg2 C1.out.2.1.size (fun k hk=>by cases hk;omega)).trans (hb9.mono (by have:=C1.out.2.1.size;omega)),hX.keep (by simp;omega) fun b _ _ hl=>hb9.block b hl,(C1.out.2.2.1.grown hg2 (by simp;omega)).below hb9,(C1.out.2.2.2.1.blk (d2 _ (by omega) C1.out.2.2.2.1.lt)).blk (hb9.block _ (by have:=C1.out.2.2.2.1.lt;omega)),(Bx.new _ _ _ _ _ _).below (zQ _ _),hp.keep (by simp;omega) fun b _ hl=>hb9.block b hl,?_⟩
  have:=C1.out.2.2.2.1.lt
  simp
  omega
 have HM:Hid (x.y.Sm/\n<=200):=⟨hm,hn⟩
 clear hX hc2 hg2 hcB hT C1 hm hB1 hn hp
 go_wp2_with fail
 generalize (w2.alloc (oQ4 x.pa x.pn x.pc x.sa x.sn x.sc x.wa x.wn x.wc x.ha x.hn x.hc)).alloc (oQ4 qa n0 e0 qb n1 e1 qc n2 e2 qd n3 e3)=wB at *
 generalize w2.heap.size=M at *
 clear w2
 refine (l1Once_any W0 c len cap a0 15 wB DA.out.cu (by omega) (by omega)).mono ?_
 rintro e w4 ⟨t,rfl,hc4,hg4⟩
 have D4:Hid (UD w w4 W0 c a0 len cap B T M x v1 n h):=DA.out.draw hc4 hg4
 clear hc4 hg4 DA wB
 rcases t with _ | _
 ·go_upto_region 5 with fail
  have hp16:x.pn<=16:=HM.out.1.n.1
  have q0:Below w4.heap.size w4 w4.drew:=(Below.refl w4.heap.size w4).drew
  have DD:UD w w4.drew W0 c a0 len cap B T M x v1 n h:=D4.out.below q0
  refine wp_region_G (fun w'=>BoxC w' M (.slice x.pa x.pn x.pc) (.slice x.sa x.sn x.sc) (.slice x.wa x.wn x.wc) (.slice x.ha x.hn x.hc)) (fun _=>false) (by kernel_rfl) ?_
  have hHeld:(fun w':World=>BoxC w' M (.slice x.pa x.pn x.pc) (.slice x.sa x.sn x.sc) (.slice x.wa x.wn x.wc) (.slice x.ha x.hn x.hc)) w4.drew:=DD.b6.1
  refine wpG_k 0 rfl hHeld ?_
  refine wpG_k 1 rfl hHeld ?_
  refine wpG_k 2 rfl hHeld ?_
  refine wpG_k 3 rfl hHeld ?_
  refine wpG_one 4 rfl (by kernel_rfl) (fun K hK=>?_)
  refine stepR_callD rfl 15 _ _ rfl #[.pointer (some ⟨c,0,none⟩),x.v] (by simp [Act.eval]) (yA Tryz.func15 (by kernel_rfl) rfl) (l12DrawStop_any W0 c len cap a0 x w4.drew DD.cu hp16) ?_
  rintro e w5 ⟨p,k,v,rfl,hc5,hg5⟩
  have D5:Hid (UD w w5 W0 c a0 len cap B T M x v1 n h):=DD.draw hc5 hg5
  refine ⟨_,rfl,?_⟩
  refine hK.out _ _ (fun _=>D5.out.b6.1) ?_
  clear hK K hc5 hg5 hHeld DD q0 D4 hp16
  (try simp only [Act.put,zD,zE,zF])
  obtain ⟨⟨x0,x1,x2,x3⟩,xf⟩:=D5.out.b2
  have f0:=xf 0
  have f1:=xf 1
  have f2:=xf 2
  have f3:=xf 3
  have hz:=D5.out.sz
  refine wpG_one 5 rfl (by kernel_rfl) (fun K hK=>?_)
  go_simp
  have F7:Hid (Below w.heap.size w5 ((((w5.setCell ⟨w.heap.size,0,none⟩ (.slice x.pa x.pn x.pc)).setCell ⟨w.heap.size,1,none⟩ (.slice x.sa x.sn x.sc)).setCell ⟨w.heap.size,2,none⟩ (.slice x.wa x.wn x.wc)).setCell ⟨w.heap.size,3,none⟩ (.slice x.ha x.hn x.hc))/\(∀ b,b≠w.heap.size->((((w5.setCell ⟨w.heap.size,0,none⟩ (.slice x.pa x.pn x.pc)).setCell ⟨w.heap.size,1,none⟩ (.slice x.sa x.sn x.sc)).setCell ⟨w.heap.size,2,none⟩ (.slice x.wa x.wn x.wc)).setCell ⟨w.heap.size,3,none⟩ (.slice x.ha x.hn x.hc)).heap[b]? = w5.heap[b]?)/\BoxC ((((w5.setCell ⟨w.heap.size,0,none⟩ (.slice x.pa x.pn x.pc)).setCell ⟨w.heap.size,1,none⟩ (.slice x.sa x.sn x.sc)).setCell ⟨w.heap.size,2,none⟩ (.slice x.wa x.wn x.wc)).setCell ⟨w.heap.size,3,none⟩ (.slice x.ha x.hn x.hc)) w.heap.size (.slice x.pa x.pn x.pc) (.slice x.sa x.sn x.sc) (.slice x.wa x.wn x.wc) (.slice x.ha x.hn x.hc)/\((((w5.setCell ⟨w.heap.size,0,none⟩ (.slice x.pa x.pn x.pc)).setCell ⟨w.heap.size,1,none⟩ (.slice x.sa x.sn x.sc)).setCell ⟨w.heap.size,2,none⟩ (.slice x.wa x.wn x.wc)).setCell ⟨w.heap.size,3,none⟩ (.slice x.ha x.hn x.hc)).heap.size=w5.heap.size):=⟨((((Below.refl w.heap.size w5).setCell (Nat.le_refl _) _).setCell (Nat.le_refl _) _).setCell (Nat.le_refl _) _).setCell (Nat.le_refl _) _,fun b hb=>by rw [zO _ _ _ _ hb,zO _ _ _ _ hb,zO _ _ _ _ hb,zO _ _ _ _ hb],⟨by go_cell,by go_cell,by go_cell,by go_cell⟩,by simp⟩
  refine hK.out _ _ (fun _=>D5.out.b6.1.blkM (F7.out.2.1 M (by omega))) ?_
  clear hK K x0 x1 x2 x3 xf f0 f1 f2 f3
  (try simp only [Act.put,zD,zE,zF])
  generalize ((((w5.setCell ⟨w.heap.size,0,none⟩ (.slice x.pa x.pn x.pc)).setCell ⟨w.heap.size,1,none⟩ (.slice x.sa x.sn x.sc)).setCell ⟨w.heap.size,2,none⟩ (.slice x.wa x.wn x.wc)).setCell ⟨w.heap.size,3,none⟩ (.slice x.ha x.hn x.hc))=w7 at *
  have hHeld:(fun w':World=>BoxC w' M (.slice x.pa x.pn x.pc) (.slice x.sa x.sn x.sc) (.slice x.wa x.wn x.wc) (.slice x.ha x.hn x.hc)) w7:=D5.out.b6.1.blkM (F7.out.2.1 M (by omega))
  refine wpG_k 6 rfl hHeld ?_
  clear hHeld
  obtain ⟨y0,y1,y2,yf⟩:=D5.out.b3.blk (F7.out.2.1 (w.heap.size+1) (by omega))
  have f0:=yf 0
  have f1:=yf 1
  have f2:=yf 2
  refine wpG_one 7 rfl (by kernel_rfl) (fun K hK=>?_)
  go_simp
  have F8:Hid (Below w.heap.size w7 (((w7.setCell ⟨w.heap.size+1,0,none⟩ (.int .i64 p)).setCell ⟨w.heap.size+1,1,none⟩ (.int .i64 k)).setCell ⟨w.heap.size+1,2,none⟩ (.int .i64 v))/\(∀ b,b≠w.heap.size+1->(((w7.setCell ⟨w.heap.size+1,0,none⟩ (.int .i64 p)).setCell ⟨w.heap.size+1,1,none⟩ (.int .i64 k)).setCell ⟨w.heap.size+1,2,none⟩ (.int .i64 v)).heap[b]? = w7.heap[b]?)/\(((w7.setCell ⟨w.heap.size+1,0,none⟩ (.int .i64 p)).setCell ⟨w.heap.size+1,1,none⟩ (.int .i64 k)).setCell ⟨w.heap.size+1,2,none⟩ (.int .i64 v)).heap.size=w7.heap.size):=⟨(((Below.refl w.heap.size w7).setCell (Nat.le_succ _) _).setCell (Nat.le_succ _) _).setCell (Nat.le_succ _) _,fun b hb=>by rw [zO _ _ _ _ hb,zO _ _ _ _ hb,zO _ _ _ _ hb],by simp⟩
  refine hK.out _ _ (fun _=>(D5.out.b6.1.blkM (F7.out.2.1 M (by omega))).blkM (F8.out.2.1 M (by omega))) ?_
  clear hK K
  (try simp only [Act.put,zD,zE,zF])
  refine wpG_done (by kernel_rfl) ?_ _
  have KK:∀ b,w.heap.size+1<b->(((w7.setCell ⟨w.heap.size+1,0,none⟩ (.int .i64 p)).setCell ⟨w.heap.size+1,1,none⟩ (.int .i64 k)).setCell ⟨w.heap.size+1,2,none⟩ (.int .i64 v)).heap[b]? = w5.heap[b]?:=fun b hb=>(F8.out.2.1 b (by omega)).trans (F7.out.2.1 b (by omega))
  have hsz:(((w7.setCell ⟨w.heap.size+1,0,none⟩ (.int .i64 p)).setCell ⟨w.heap.size+1,1,none⟩ (.int .i64 k)).setCell ⟨w.heap.size+1,2,none⟩ (.int .i64 v)).heap.size=w5.heap.size:=F8.out.2.2.trans F7.out.2.2.2
  have HF:Hid (SysX (((w7.setCell ⟨w.heap.size+1,0,none⟩ (.int .i64 p)).setCell ⟨w.heap.size+1,1,none⟩ (.int .i64 k)).setCell ⟨w.heap.size+1,2,none⟩ (.int .i64 v)) B T x/\(∃ la lc,v1=.slice la n lc/\PkL (((w7.setCell ⟨w.heap.size+1,0,none⟩ (.int .i64 p)).setCell ⟨w.heap.size+1,1,none⟩ (.int .i64 k)).setCell ⟨w.heap.size+1,2,none⟩ (.int .i64 v)) la n h)/\Below w.heap.size w (((w7.setCell ⟨w.heap.size+1,0,none⟩ (.int .i64 p)).setCell ⟨w.heap.size+1,1,none⟩ (.int .i64 k)).setCell ⟨w.heap.size+1,2,none⟩ (.int .i64 v))):=by
   refine ⟨D5.out.sx.keep (by omega) fun b h1 _ _=>KK b (by omega),?_,(D5.out.be.trans F7.out.1).trans F8.out.1⟩
   obtain ⟨-,la,lc,e,hp⟩:=D5.out.pl.keep (w':=(((w7.setCell ⟨w.heap.size+1,0,none⟩ (.int .i64 p)).setCell ⟨w.heap.size+1,1,none⟩ (.int .i64 k)).setCell ⟨w.heap.size+1,2,none⟩ (.int .i64 v))) (by omega) fun b h1 _=>KK b (by omega)
   exact ⟨la,lc,e,hp.imp id fun ⟨g,e1,g1,g2,g3⟩=>⟨g,0,e1,by omega,g3⟩⟩
  obtain ⟨x0,x1,x2,x3⟩:=F7.out.2.2.1.blkM (F8.out.2.1 w.heap.size (by omega))
  clear KK hsz
  obtain ⟨z1,⟨la,lc,ev,z2⟩,z3⟩:=HF.out
  have HG:Hid (SysX (((w7.setCell ⟨w.heap.size+1,0,none⟩ (.int .i64 p)).setCell ⟨w.heap.size+1,1,none⟩ (.int .i64 k)).setCell ⟨w.heap.size+1,2,none⟩ (.int .i64 v)) B T x/\PkL (((w7.setCell ⟨w.heap.size+1,0,none⟩ (.int .i64 p)).setCell ⟨w.heap.size+1,1,none⟩ (.int .i64 k)).setCell ⟨w.heap.size+1,2,none⟩ (.int .i64 v)) la n h/\Below w.heap.size w (((w7.setCell ⟨w.heap.size+1,0,none⟩ (.int .i64 p)).setCell ⟨w.heap.size+1,1,none⟩ (.int .i64 k)).setCell ⟨w.heap.size+1,2,none⟩ (.int .i64 v))):=⟨z1,z2,z3⟩
  clear z1 z2 z3 HF F8 F7 hz f0 f1 f2 yf
  subst ev
  go_wp2
  exact bodyPost_ret (v:=.tuple #[x.v,.slice la n lc,spV p k v]) (by simp [results,Tryz.results5,go_sem,x0,x1,x2,x3,y0,y1,y2]) rfl ⟨x,B,T,p,k,v,la,n,lc,h,rfl,HM.out.1,HG.out.1,HG.out.2.1,HM.out.2,HG.out.2.2⟩
 ·go_wp2_with fail
  refine (l6Draw_anyB W0 c len cap a0 w4 D4.out.cu).mono ?_
  rintro e w6 ⟨x',B',T',rfl,hm6,hX6,hc6,hg6,⟨hcB6,hB6⟩,hT6⟩
  have D6:Hid (UD w w6 W0 c a0 len cap B T M x v1 n h/\M<w4.heap.size):=⟨D4.out.draw hc6 hg6,D4.out.b6.lt⟩
  have HM6:Hid (x'.y.Sm/\n<=200):=⟨hm6,HM.out.2⟩
  have H6:Hid (UD w ((((w6.setCell ⟨M,0,none⟩ (.slice x'.pa x'.pn x'.pc)).setCell ⟨M,1,none⟩ (.slice x'.sa x'.sn x'.sc)).setCell ⟨M,2,none⟩ (.slice x'.wa x'.wn x'.wc)).setCell ⟨M,3,none⟩ (.slice x'.ha x'.hn x'.hc)) W0 c a0 len cap B' T' M x' v1 n h):=by
   have hz:=D6.out.1.sz
   have hz4:=D4.out.sz
   have hM:=D6.out.2
   have kk:∀ b,b≠M->((((w6.setCell ⟨M,0,none⟩ (.slice x'.pa x'.pn x'.pc)).setCell ⟨M,1,none⟩ (.slice x'.sa x'.sn x'.sc)).setCell ⟨M,2,none⟩ (.slice x'.wa x'.wn x'.wc)).setCell ⟨M,3,none⟩ (.slice x'.ha x'.hn x'.hc)).heap[b]? = w6.heap[b]?:=fun b hb=>by rw [zO _ _ _ _ hb,zO _ _ _ _ hb,zO _ _ _ _ hb,zO _ _ _ _ hb]
   have hl:w.heap.size<=M:=by omega
   have gg:w6.grownBy ((((w6.setCell ⟨M,0,none⟩ (.slice x'.pa x'.pn x'.pc)).setCell ⟨M,1,none⟩ (.slice x'.sa x'.sn x'.sc)).setCell ⟨M,2,none⟩ (.slice x'.wa x'.wn x'.wc)).setCell ⟨M,3,none⟩ (.slice x'.ha x'.hn x'.hc)) (some M):=by
    iterate 4 (refine zV ?_ (.inl rfl) _)
    exact World.grownBy.refl _ _
   have hcM:c≠M:=by omega
   have hW0:W0<=M:=by have:=D6.out.1.cu.ge;omega
   have k1:Cur ((((w6.setCell ⟨M,0,none⟩ (.slice x'.pa x'.pn x'.pc)).setCell ⟨M,1,none⟩ (.slice x'.sa x'.sn x'.sc)).setCell ⟨M,2,none⟩ (.slice x'.wa x'.wn x'.wc)).setCell ⟨M,3,none⟩ (.slice x'.ha x'.hn x'.hc)) W0 c a0 len cap:=D6.out.1.cu.kept gg (fun e=>hcM (by simpa using e)) (fun k hk=>by cases hk;exact hW0)
   have k2:Below w.heap.size w ((((w6.setCell ⟨M,0,none⟩ (.slice x'.pa x'.pn x'.pc)).setCell ⟨M,1,none⟩ (.slice x'.sa x'.sn x'.sc)).setCell ⟨M,2,none⟩ (.slice x'.wa x'.wn x'.wc)).setCell ⟨M,3,none⟩ (.slice x'.ha x'.hn x'.hc)):=D6.out.1.be.trans (((((Below.refl w.heap.size w6).setCell hl _).setCell hl _).setCell hl _).setCell hl _)
   have hs8:((((w6.setCell ⟨M,0,none⟩ (.slice x'.pa x'.pn x'.pc)).setCell ⟨M,1,none⟩ (.slice x'.sa x'.sn x'.sc)).setCell ⟨M,2,none⟩ (.slice x'.wa x'.wn x'.wc)).setCell ⟨M,3,none⟩ (.slice x'.ha x'.hn x'.hc)).heap.size=w6.heap.size:=by simp
   have k3:SysX ((((w6.setCell ⟨M,0,none⟩ (.slice x'.pa x'.pn x'.pc)).setCell ⟨M,1,none⟩ (.slice x'.sa x'.sn x'.sc)).setCell ⟨M,2,none⟩ (.slice x'.wa x'.wn x'.wc)).setCell ⟨M,3,none⟩ (.slice x'.ha x'.hn x'.hc)) B' T' x':=hX6.keep (by omega) fun b h1 _ _=>kk b (by omega)
   have k4:=D6.out.1.b2.blk (kk w.heap.size (by omega))
   have k5:=D6.out.1.b3.blk (kk (w.heap.size+1) (by omega))
   have k7:=D6.out.1.pl.keep (w':=((((w6.setCell ⟨M,0,none⟩ (.slice x'.pa x'.pn x'.pc)).setCell ⟨M,1,none⟩ (.slice x'.sa x'.sn x'.sc)).setCell ⟨M,2,none⟩ (.slice x'.wa x'.wn x'.wc)).setCell ⟨M,3,none⟩ (.slice x'.ha x'.hn x'.hc))) (by omega) fun b _ h2=>kk b (by omega)
   have k6:=D6.out.1.b6.put (.slice x'.pa x'.pn x'.pc) (.slice x'.sa x'.sn x'.sc) (.slice x'.wa x'.wn x'.wc) (.slice x'.ha x'.hn x'.hc)
   exact ⟨k1,k2,k3,k4,k5,k6,k7,by omega⟩
  obtain ⟨⟨m0,m1,m2,m3⟩,mf⟩:=D6.out.1.b6
  have g0:=mf 0
  have g1:=mf 1
  have g2:=mf 2
  have g3:=mf 3
  clear hm6 hX6 hc6 hg6 hcB6 hB6 hT6 D4 HM
  go_upto_region 5 with fail
  generalize ((((w6.setCell ⟨M,0,none⟩ (.slice x'.pa x'.pn x'.pc)).setCell ⟨M,1,none⟩ (.slice x'.sa x'.sn x'.sc)).setCell ⟨M,2,none⟩ (.slice x'.wa x'.wn x'.wc)).setCell ⟨M,3,none⟩ (.slice x'.ha x'.hn x'.hc))=w8 at *
  clear m0 m1 m2 m3 mf g0 g1 g2 g3 D6
  have hp16:x'.pn<=16:=HM6.out.1.n.1
  have q0:Below w8.heap.size w8 w8.drew:=(Below.refl w8.heap.size w8).drew
  have DD:UD w w8.drew W0 c a0 len cap B' T' M x' v1 n h:=H6.out.below q0
  refine wp_region_G (fun w'=>BoxC w' M (.slice x'.pa x'.pn x'.pc) (.slice x'.sa x'.sn x'.sc) (.slice x'.wa x'.wn x'.wc) (.slice x'.ha x'.hn x'.hc)) (fun _=>false) (by kernel_rfl) ?_
  have hHeld:(fun w':World=>BoxC w' M (.slice x'.pa x'.pn x'.pc) (.slice x'.sa x'.sn x'.sc) (.slice x'.wa x'.wn x'.wc) (.slice x'.ha x'.hn x'.hc)) w8.drew:=DD.b6.1
  refine wpG_k 0 rfl hHeld ?_
  refine wpG_k 1 rfl hHeld ?_
  refine wpG_k 2 rfl hHeld ?_
  refine wpG_k 3 rfl hHeld ?_
  refine wpG_one 4 rfl (by kernel_rfl) (fun K hK=>?_)
  refine stepR_callD rfl 15 _ _ rfl #[.pointer (some ⟨c,0,none⟩),x'.v] (by simp [Act.eval]) (yA Tryz.func15 (by kernel_rfl) rfl) (l12DrawStop_any W0 c len cap a0 x' w8.drew DD.cu hp16) ?_
  rintro e w5 ⟨p,k,v,rfl,hc5,hg5⟩
  have D5:Hid (UD w w5 W0 c a0 len cap B' T' M x' v1 n h):=DD.draw hc5 hg5
  refine ⟨_,rfl,?_⟩
  refine hK.out _ _ (fun _=>D5.out.b6.1) ?_
  clear hK K hc5 hg5 hHeld DD q0 H6 hp16
  (try simp only [Act.put,zD,zE,zF])
  obtain ⟨⟨x0,x1,x2,x3⟩,xf⟩:=D5.out.b2
  have f0:=xf 0
  have f1:=xf 1
  have f2:=xf 2
  have f3:=xf 3
  have hz:=D5.out.sz
  refine wpG_one 5 rfl (by kernel_rfl) (fun K hK=>?_)
  go_simp
  have F7:Hid (Below w.heap.size w5 ((((w5.setCell ⟨w.heap.size,0,none⟩ (.slice x'.pa x'.pn x'.pc)).setCell ⟨w.heap.size,1,none⟩ (.slice x'.sa x'.sn x'.sc)).setCell ⟨w.heap.size,2,none⟩ (.slice x'.wa x'.wn x'.wc)).setCell ⟨w.heap.size,3,none⟩ (.slice x'.ha x'.hn x'.hc))/\(∀ b,b≠w.heap.size->((((w5.setCell ⟨w.heap.size,0,none⟩ (.slice x'.pa x'.pn x'.pc)).setCell ⟨w.heap.size,1,none⟩ (.slice x'.sa x'.sn x'.sc)).setCell ⟨w.heap.size,2,none⟩ (.slice x'.wa x'.wn x'.wc)).setCell ⟨w.heap.size,3,none⟩ (.slice x'.ha x'.hn x'.hc)).heap[b]? = w5.heap[b]?)/\BoxC ((((w5.setCell ⟨w.heap.size,0,none⟩ (.slice x'.pa x'.pn x'.pc)).setCell ⟨w.heap.size,1,none⟩ (.slice x'.sa x'.sn x'.sc)).setCell ⟨w.heap.size,2,none⟩ (.slice x'.wa x'.wn x'.wc)).setCell ⟨w.heap.size,3,none⟩ (.slice x'.ha x'.hn x'.hc)) w.heap.size (.slice x'.pa x'.pn x'.pc) (.slice x'.sa x'.sn x'.sc) (.slice x'.wa x'.wn x'.wc) (.slice x'.ha x'.hn x'.hc)/\((((w5.setCell ⟨w.heap.size,0,none⟩ (.slice x'.pa x'.pn x'.pc)).setCell ⟨w.heap.size,1,none⟩ (.slice x'.sa x'.sn x'.sc)).setCell ⟨w.heap.size,2,none⟩ (.slice x'.wa x'.wn x'.wc)).setCell ⟨w.heap.size,3,none⟩ (.slice x'.ha x'.hn x'.hc)).heap.size=w5.heap.size):=⟨((((Below.refl w.heap.size w5).setCell (Nat.le_refl _) _).setCell (Nat.le_refl _) _).setCell (Nat.le_refl _) _).setCell (Nat.le_refl _) _,fun b hb=>by rw [zO _ _ _ _ hb,zO _ _ _ _ hb,zO _ _ _ _ hb,zO _ _ _ _ hb],⟨by go_cell,by go_cell,by go_cell,by go_cell⟩,by simp⟩
  refine hK.out _ _ (fun _=>D5.out.b6.1.blkM (F7.out.2.1 M (by omega))) ?_
  clear hK K x0 x1 x2 x3 xf f0 f1 f2 f3
  (try simp only [Act.put,zD,zE,zF])
  generalize ((((w5.setCell ⟨w.heap.size,0,none⟩ (.slice x'.pa x'.pn x'.pc)).setCell ⟨w.heap.size,1,none⟩ (.slice x'.sa x'.sn x'.sc)).setCell ⟨w.heap.size,2,none⟩ (.slice x'.wa x'.wn x'.wc)).setCell ⟨w.heap.size,3,none⟩ (.slice x'.ha x'.hn x'.hc))=w7 at *
  have hHeld:(fun w':World=>BoxC w' M (.slice x'.pa x'.pn x'.pc) (.slice x'.sa x'.sn x'.sc) (.slice x'.wa x'.wn x'.wc) (.slice x'.ha x'.hn x'.hc)) w7:=D5.out.b6.1.blkM (F7.out.2.1 M (by omega))
  refine wpG_k 6 rfl hHeld ?_
  clear hHeld
  obtain ⟨y0,y1,y2,yf⟩:=D5.out.b3.blk (F7.out.2.1 (w.heap.size+1) (by omega))
  have f0:=yf 0
  have f1:=yf 1
  have f2:=yf 2
  refine wpG_one 7 rfl (by kernel_rfl) (fun K hK=>?_)
  go_simp
  have F8:Hid (Below w.heap.size w7 (((w7.setCell ⟨w.heap.size+1,0,none⟩ (.int .i64 p)).setCell ⟨w.heap.size+1,1,none⟩ (.int .i64 k)).setCell ⟨w.heap.size+1,2,none⟩ (.int .i64 v))/\(∀ b,b≠w.heap.size+1->(((w7.setCell ⟨w.heap.size+1,0,none⟩ (.int .i64 p)).setCell ⟨w.heap.size+1,1,none⟩ (.int .i64 k)).setCell ⟨w.heap.size+1,2,none⟩ (.int .i64 v)).heap[b]? = w7.heap[b]?)/\(((w7.setCell ⟨w.heap.size+1,0,none⟩ (.int .i64 p)).setCell ⟨w.heap.size+1,1,none⟩ (.int .i64 k)).setCell ⟨w.heap.size+1,2,none⟩ (.int .i64 v)).heap.size=w7.heap.size):=⟨(((Below.refl w.heap.size w7).setCell (Nat.le_succ _) _).setCell (Nat.le_succ _) _).setCell (Nat.le_succ _) _,fun b hb=>by rw [zO _ _ _ _ hb,zO _ _ _ _ hb,zO _ _ _ _ hb],by simp⟩
  refine hK.out _ _ (fun _=>(D5.out.b6.1.blkM (F7.out.2.1 M (by omega))).blkM (F8.out.2.1 M (by omega))) ?_
  clear hK K
  (try simp only [Act.put,zD,zE,zF])
  refine wpG_done (by kernel_rfl) ?_ _
  have KK:∀ b,w.heap.size+1<b->(((w7.setCell ⟨w.heap.size+1,0,none⟩ (.int .i64 p)).setCell ⟨w.heap.size+1,1,none⟩ (.int .i64 k)).setCell ⟨w.heap.size+1,2,none⟩ (.int .i64 v)).heap[b]? = w5.heap[b]?:=fun b hb=>(F8.out.2.1 b (by omega)).trans (F7.out.2.1 b (by omega))
  have hsz:(((w7.setCell ⟨w.heap.size+1,0,none⟩ (.int .i64 p)).setCell ⟨w.heap.size+1,1,none⟩ (.int .i64 k)).setCell ⟨w.heap.size+1,2,none⟩ (.int .i64 v)).heap.size=w5.heap.size:=F8.out.2.2.trans F7.out.2.2.2
  have HF:Hid (SysX (((w7.setCell ⟨w.heap.size+1,0,none⟩ (.int .i64 p)).setCell ⟨w.heap.size+1,1,none⟩ (.int .i64 k)).setCell ⟨w.heap.size+1,2,none⟩ (.int .i64 v)) B' T' x'/\(∃ la lc,v1=.slice la n lc/\PkL (((w7.setCell ⟨w.heap.size+1,0,none⟩ (.int .i64 p)).setCell ⟨w.heap.size+1,1,none⟩ (.int .i64 k)).setCell ⟨w.heap.size+1,2,none⟩ (.int .i64 v)) la n h)/\Below w.heap.size w (((w7.setCell ⟨w.heap.size+1,0,none⟩ (.int .i64 p)).setCell ⟨w.heap.size+1,1,none⟩ (.int .i64 k)).setCell ⟨w.heap.size+1,2,none⟩ (.int .i64 v))):=by
   refine ⟨D5.out.sx.keep (by omega) fun b h1 _ _=>KK b (by omega),?_,(D5.out.be.trans F7.out.1).trans F8.out.1⟩
   obtain ⟨-,la,lc,e,hp⟩:=D5.out.pl.keep (w':=(((w7.setCell ⟨w.heap.size+1,0,none⟩ (.int .i64 p)).setCell ⟨w.heap.size+1,1,none⟩ (.int .i64 k)).setCell ⟨w.heap.size+1,2,none⟩ (.int .i64 v))) (by omega) fun b h1 _=>KK b (by omega)
   exact ⟨la,lc,e,hp.imp id fun ⟨g,e1,g1,g2,g3⟩=>⟨g,0,e1,by omega,g3⟩⟩
  obtain ⟨x0,x1,x2,x3⟩:=F7.out.2.2.1.blkM (F8.out.2.1 w.heap.size (by omega))
  clear KK hsz
  obtain ⟨z1,⟨la,lc,ev,z2⟩,z3⟩:=HF.out
  have HG:Hid (SysX (((w7.setCell ⟨w.heap.size+1,0,none⟩ (.int .i64 p)).setCell ⟨w.heap.size+1,1,none⟩ (.int .i64 k)).setCell ⟨w.heap.size+1,2,none⟩ (.int .i64 v)) B' T' x'/\PkL (((w7.setCell ⟨w.heap.size+1,0,none⟩ (.int .i64 p)).setCell ⟨w.heap.size+1,1,none⟩ (.int .i64 k)).setCell ⟨w.heap.size+1,2,none⟩ (.int .i64 v)) la n h/\Below w.heap.size w (((w7.setCell ⟨w.heap.size+1,0,none⟩ (.int .i64 p)).setCell ⟨w.heap.size+1,1,none⟩ (.int .i64 k)).setCell ⟨w.heap.size+1,2,none⟩ (.int .i64 v))):=⟨z1,z2,z3⟩
  clear z1 z2 z3 HF F8 F7 hz f0 f1 f2 yf
  subst ev
  go_wp2
  exact bodyPost_ret (v:=.tuple #[x'.v,.slice la n lc,spV p k v]) (by simp [results,Tryz.results5,go_sem,x0,x1,x2,x3,y0,y1,y2]) rfl ⟨x',B',T',p,k,v,la,n,lc,h,rfl,HM6.out.1,HG.out.1,HG.out.2.1,HM6.out.2,HG.out.2.2⟩
theorem sameEvents_same (a0 a1:Option Addr) (n c0 c1:Nat) (h:Nat->E3) (w:World) (hlen:n<=1048576) (h0:EvL w a0 n h) (h1:EvL w a1 n h):
  Calls Tryz.prog 27 #[.slice a0 n c0,.slice a1 n c1] w fun e w'=>e=.returned (.bool true)/\Below w.heap.size w w':=by
 have hl':(n:Int)<=1048576:=by omega
 have H0:Hid (EvL w a0 n h):=h0
 have H1:Hid (EvL w a1 n h):=h1
 clear h0 h1
 go_enter Tryz.func27,Tryz.ntmps27
 go_wp2_with fail
 go_loopw [5] (fun i wr=>∃ k:Nat,k<=n/\i=.int .i64 k/\Below w.heap.size w wr) (fun i _=>n - (intOf i).toNat)
 case atStart=>exact ⟨0,Nat.zero_le _,rfl,Below.refl _ _⟩
 case round=>
  obtain ⟨k,hk,rfl,hbw⟩:=hrel
  by_cases hlt:k<n
  ·obtain ⟨b,off,rfl,hbl,ck0,ck1,ck2⟩:=(H0.out.below hbw).at hlt
   obtain ⟨b',off',rfl,hbl',ck0',ck1',ck2'⟩:=(H1.out.below hbw).at hlt
   have hlt':(k:Int)<(n:Int):=by omega
   go_wp2_with fail
   go_quiet (fail)
   go_wp2
   go_roundw
   case rel=>exact ⟨k+1,by omega,by go_num,yC hbw _⟩
   case measure=>simp [intOf];omega
  ·go_wp2
   go_ret
   exact ⟨rfl,hbw⟩
structure Tw (w:World) (N:Nat) (x x':SysIn):Prop where
 g:SysG w x
 g':SysG w x'
 b:BoxC w N (.slice x.pa x.pn x.pc) (.slice x.sa x.sn x.sc) (.slice x.wa x.wn x.wc) (.slice x.ha x.hn x.hc)
 b':BoxC w (N+1) (.slice x'.pa x'.pn x'.pc) (.slice x'.sa x'.sn x'.sc) (.slice x'.wa x'.wn x'.wc) (.slice x'.ha x'.hn x'.hc)
theorem Tw.below {w w':World} {N:Nat} {x x':SysIn} (h:Tw w N x x') (hb:Below w.heap.size w w'):Tw w' N x x':=⟨h.g.below hb,h.g'.below hb,h.b.below hb,h.b'.below hb⟩
theorem Tw.new (w:World) (x x':SysIn) (hG:SysG w x) (hG':SysG w x'):Tw ((w.alloc (oQ4 x.pa x.pn x.pc x.sa x.sn x.sc x.wa x.wn x.wc x.ha x.hn x.hc)).alloc (oQ4 x'.pa x'.pn x'.pc x'.sa x'.sn x'.sc x'.wa x'.wn x'.wc x'.ha x'.hn x'.hc)) w.heap.size x x':=by
 have hb:Below w.heap.size w ((w.alloc (oQ4 x.pa x.pn x.pc x.sa x.sn x.sc x.wa x.wn x.wc x.ha x.hn x.hc)).alloc (oQ4 x'.pa x'.pn x'.pc x'.sa x'.sn x'.sc x'.wa x'.wn x'.wc x'.ha x'.hn x'.hc)):=(zQ _ _).trans ((zQ _ _).mono (by simp))
 refine ⟨hG.below hb,hG'.below hb,(BoxC.new w _ _ _ _ _).below (zQ _ _),?_⟩
 have h:=BoxC.new (w.alloc (oQ4 x.pa x.pn x.pc x.sa x.sn x.sc x.wa x.wn x.wc x.ha x.hn x.hc)) (.slice x'.pa x'.pn x'.pc) (.slice x'.sa x'.sn x'.sc) (.slice x'.wa x'.wn x'.wc) (.slice x'.ha x'.hn x'.hc) 29
 rw [World.size_alloc] at h
 exact h
theorem EvL.congr {w:World} {a:Option Addr} {n:Nat} {h h':Nat->E3} (o:EvL w a n h) (e:∀ i,i<n->h' i=h i):EvL w a n h':=by
 rcases o with o | ⟨b,off,ea,hb,o⟩
 ·exact .inl o
 ·exact .inr ⟨b,off,ea,hb,fun i hi=>by rw [e i hi];exact o i hi⟩
def Sy.EqH (y' y:Sy):Prop:=y'.hn=y.hn/\∀ k,k<y.hn->y'.hL k=y.hL k/\∀ i,i<y.hL k->y'.hH k i=y.hH k i
theorem sameHist_of (x x':SysIn) (w:World) (hy:x'.y.EqH x.y) (hG:SysG w x) (hG':SysG w x') (hL:x.Len):
  Calls Tryz.prog 10 #[x.v,x'.v] w fun e w'=>e=.returned (.bool true)/\Below w.heap.size w w':=by
 have hn:x'.hn=x.hn:=hy.1
 have hl':(x.hn:Int)<=1048576:=by have:=hL.h.1;omega
 have T0:Hid (Tw ((w.alloc (oQ4 x.pa x.pn x.pc x.sa x.sn x.sc x.wa x.wn x.wc x.ha x.hn x.hc)).alloc (oQ4 x'.pa x'.pn x'.pc x'.sa x'.sn x'.sc x'.wa x'.wn x'.wc x'.ha x'.hn x'.hc)) w.heap.size x x'):=Tw.new w x x' hG hG'
 have B0:Hid (Below w.heap.size w ((w.alloc (oQ4 x.pa x.pn x.pc x.sa x.sn x.sc x.wa x.wn x.wc x.ha x.hn x.hc)).alloc (oQ4 x'.pa x'.pn x'.pc x'.sa x'.sn x'.sc x'.wa x'.wn x'.wc x'.ha x'.hn x'.hc))):=(zQ _ _).trans ((zQ _ _).mono (by simp))
 have HY:Hid (x'.y.EqH x.y/\x.Len):=⟨hy,hL⟩
 have HQ:Hid (x'.hn=x.hn):=hn
 clear hG hG' hL hy hn
 go_enter Tryz.func10,Tryz.ntmps10
 go_upto_region 1 with fail
 generalize (w.alloc (oQ4 x.pa x.pn x.pc x.sa x.sn x.sc x.wa x.wn x.wc x.ha x.hn x.hc)).alloc (oQ4 x'.pa x'.pn x'.pc x'.sa x'.sn x'.sc x'.wa x'.wn x'.wc x'.ha x'.hn x'.hc)=W2 at *
 generalize hNN:w.heap.size=N at *
 have HNN:Hid (w.heap.size=N):=hNN
 clear hNN
 obtain ⟨x0,x1,x2,x3⟩:=T0.out.b
 obtain ⟨y0,y1,y2,y3⟩:=T0.out.b'
 rw [HQ.out] at y3
 go_wp2_with fail
 clear x0 x1 x2 x3 y0 y1 y2 y3
 go_loopw [5] (fun i wr=>∃ k:Nat,k<=x.hn/\i=.int .i64 k/\Hid (Tw wr N x x'/\Below N w wr)) (fun i _=>x.hn - (intOf i).toNat)
 case atStart=>exact ⟨0,Nat.zero_le _,rfl,T0.out,B0.out⟩
 case round=>
  obtain ⟨k,hk,rfl,HT⟩:=hrel
  obtain ⟨x0,x1,x2,x3⟩:=HT.out.1.b
  obtain ⟨y0,y1,y2,y3⟩:=HT.out.1.b'
  rw [HQ.out] at y3
  have lN:N<wr.heap.size:=zJ wr _ x0
  have lM:N+1<wr.heap.size:=zJ wr _ y0
  by_cases hlt:k<x.hn
  ·have hlt':(k:Int)<(x.hn:Int):=by omega
   have nlt:¬ (x.hn:Int)<=(k:Int):=by omega
   have eL:x'.hL k=x.hL k:=(HY.out.1.2 k hlt).1
   have eH:∀ i,i<x.hL k->x.hH k i=x'.hH k i:=fun i hi=>((HY.out.1.2 k hlt).2 i hi).symm
   obtain ⟨b,off,ea,ck⟩:=HT.out.1.g.h.at hlt
   obtain ⟨b',off',ea',ck'⟩:=HT.out.1.g'.h.at (show k<x'.hn by rw [HQ.out];exact hlt)
   rw [eL] at ck'
   have E:Hid (EvL wr (x.hA k) (x.hL k) (x.hH k)/\EvL wr (x'.hA k) (x.hL k) (x.hH k)/\x.hL k<=1048576):=⟨HT.out.1.g.hi k hlt,by have:=HT.out.1.g'.hi k (show k<x'.hn by rw [HQ.out];exact hlt);rw [eL] at this;exact this.congr eH,HY.out.2.h.2 k hlt⟩
   rw [ea] at x3
   rw [ea'] at y3
   clear ea ea' eL eH
   have lb:b<wr.heap.size:=zJ wr _ ck
   have lb':b'<wr.heap.size:=zJ wr _ ck'
   go_upto_region 6 with fail
   have q0:Below wr.heap.size wr wr.drew:=(Below.refl wr.heap.size wr).drew
   refine wp_region_G (fun w'=>w'.cell? ⟨N,3,none⟩=some (.slice (some ⟨b,off,none⟩) x.hn x.hc)/\w'.cell? ⟨N+1,3,none⟩=some (.slice (some ⟨b',off',none⟩) x.hn x'.hc)/\w'.cell? ⟨b,off+k,none⟩=some (.slice (x.hA k) (x.hL k) (x.hC k))/\w'.cell? ⟨b',off'+k,none⟩=some (.slice (x'.hA k) (x.hL k) (x'.hC k))) (fun _=>false) (by kernel_rfl) ?_
   have hHeld:(fun w':World=>w'.cell? ⟨N,3,none⟩=some (.slice (some ⟨b,off,none⟩) x.hn x.hc)/\w'.cell? ⟨N+1,3,none⟩=some (.slice (some ⟨b',off',none⟩) x.hn x'.hc)/\w'.cell? ⟨b,off+k,none⟩=some (.slice (x.hA k) (x.hL k) (x.hC k))/\w'.cell? ⟨b',off'+k,none⟩=some (.slice (x'.hA k) (x.hL k) (x'.hC k))) wr.drew:=⟨(q0.cell (p:=⟨N,3,none⟩) lN).trans x3,(q0.cell (p:=⟨N+1,3,none⟩) lM).trans y3,(q0.cell (p:=⟨b,_,none⟩) lb).trans ck,(q0.cell (p:=⟨b',_,none⟩) lb').trans ck'⟩
   refine wpGT_of [0,1,2,3,4,5,6,7,8,9] ?_
   iterate 10 (refine wpGT_k rfl hHeld ?_)
   refine wpGT_nil ?_
   refine wpG_one 10 rfl (by kernel_rfl) (fun K hK=>?_)
   refine stepR_call rfl 27 _ _ rfl #[.slice (x.hA k) (x.hL k) (x.hC k),.slice (x'.hA k) (x.hL k) (x'.hC k)] (by simp [Act.eval]) (yA Tryz.func27 (by kernel_rfl) rfl) (sameEvents_same (x.hA k) (x'.hA k) (x.hL k) (x.hC k) (x'.hC k) (x.hH k) wr.drew E.out.2.2 (E.out.1.below q0) (E.out.2.1.below q0)) ?_
   rintro e w5 ⟨rfl,d5⟩
   refine ⟨_,rfl,?_⟩
   have q5:Below wr.heap.size wr w5:=q0.trans d5
   have hHeld5:(fun w':World=>w'.cell? ⟨N,3,none⟩=some (.slice (some ⟨b,off,none⟩) x.hn x.hc)/\w'.cell? ⟨N+1,3,none⟩=some (.slice (some ⟨b',off',none⟩) x.hn x'.hc)/\w'.cell? ⟨b,off+k,none⟩=some (.slice (x.hA k) (x.hL k) (x.hC k))/\w'.cell? ⟨b',off'+k,none⟩=some (.slice (x'.hA k) (x.hL k) (x'.hC k))) w5:=⟨(q5.cell (p:=⟨N,3,none⟩) lN).trans x3,(q5.cell (p:=⟨N+1,3,none⟩) lM).trans y3,(q5.cell (p:=⟨b,_,none⟩) lb).trans ck,(q5.cell (p:=⟨b',_,none⟩) lb').trans ck'⟩
   refine hK.out _ _ (fun _=>hHeld5) ?_
   clear hHeld
   have hHeld:=hHeld5
   clear hHeld5 d5 hK K
   (try simp only [Act.put,zD,zE,zF])
   refine wpG_k 11 rfl hHeld ?_
   refine wpG_done (by kernel_rfl) ?_ _
   have K5:Hid (Tw w5 N x x'/\Below N w w5):=⟨HT.out.1.below q5,HT.out.2.trans (q5.mono (Nat.le_of_lt lN))⟩
   clear hHeld q5 q0 HT
   go_wp2
   go_roundw
   case rel=>exact ⟨k+1,by omega,by go_num,K5.out⟩
   case measure=>simp [intOf];omega
  ·go_wp2
   go_ret
   exact ⟨rfl,by rw [HNN.out];exact HT.out.2⟩
theorem sameHist_same (x x':SysIn) (w:World) (hy:x'.y=x.y) (hG:SysG w x) (hG':SysG w x') (hL:x.Len):
  Calls Tryz.prog 10 #[x.v,x'.v] w fun e w'=>e=.returned (.bool true)/\Below w.heap.size w w':=sameHist_of x x' w (by rw [hy];exact ⟨rfl,fun _ _=>⟨rfl,fun _ _=>rfl⟩⟩) hG hG' hL
