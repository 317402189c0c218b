import Derived.Test.YtbgfjbgdiifghaaGreatDoorZn23
import Derived.Test.YtbgfjbgdiifghaaGreatDoorZn24
namespace Go.Proofs.YtbgfjbgdiifghaaGreatDoor
open Go.Proofs.Tryz
set_option maxRecDepth 100000
set_option maxHeartbeats 16000000
open Go.RowKit Go.Deep
def qx2 (w:World) (W0 c:Nat) (a0:Option Addr) (len cap:Nat) (e:Ending) (w':World):Prop:=∃ (x:SysIn) (B T:Nat),e=.returned x.v/\x.y.Sm/\SysX w' B T x/\Cur w' W0 c a0 len cap/\w.grownBy w' (some c)/\(c<B/\w.heap.size<=B)/\T<=w'.heap.size
theorem DrwS.fin {w wz:World} {W0 c len cap N B T:Nat} {a0:Option Addr} {x:SysIn} (hX:SysX wz B T x) (hs:x.y.Sm) (hc:Cur wz W0 c a0 len cap) (hg:w.grownBy wz (some c)) (hcB:c<B) (hN:N<B) (hNw:w.heap.size<=N) (hcN:c≠N) (hW:W0<=N) (hT:T<=wz.heap.size) (u0 u1 u2 u3:Value):qx2 w W0 c a0 len cap (.returned x.v) ((((wz.setCell (aQ N 0) u0).setCell (aQ N 1) u1).setCell (aQ N 2) u2).setCell (aQ N 3) u3):=by
 have h1:∀ (wx:World) (j:Nat) (u:Value),SysX wx B T x/\Cur wx W0 c a0 len cap/\w.grownBy wx (some c)/\T<=wx.heap.size->SysX (wx.setCell ⟨N,j,none⟩ u) B T x/\Cur (wx.setCell ⟨N,j,none⟩ u) W0 c a0 len cap/\w.grownBy (wx.setCell ⟨N,j,none⟩ u) (some c)/\T<=(wx.setCell ⟨N,j,none⟩ u).heap.size:=fun wx j u ⟨a,b,d,e⟩=>by
  have hgg:wx.grownBy (wx.setCell (aQ N j) u) (some N):=zV (World.grownBy.refl _ _) (.inl rfl) u;exact ⟨a.keep (by simp) fun b hb _ hl=>hgg.block b hl (by simp;omega),b.kept hgg (fun e=>hcN (by simpa using e)) (fun k hk=>by cases hk;exact hW),d.andThen hgg (fun k hk=>by cases hk;exact .inl hNw),by simpa using e⟩
 obtain ⟨a,b,d,e⟩:=h1 _ 3 u3 (h1 _ 2 u2 (h1 _ 1 u1 (h1 _ 0 u0 ⟨hX,hc,hg,hT⟩)));exact ⟨x,B,T,rfl,hs,a,b,d,⟨hcB,by omega⟩,e⟩
theorem qe0 {pa sa wa ha:Option Addr} {pn pc sn sc wn wc hn hc:Nat} {vp vs vw vh:Value} (h:sysV pa pn pc sa sn sc wa wn wc ha hn hc=.agg #[vp,vs,vw,vh]):vp=.slice pa pn pc/\vs=.slice sa sn sc/\vw=.slice wa wn wc/\vh=.slice ha hn hc:=by
 simp only [sysV,Value.agg.injEq,Array.mk.injEq,List.cons.injEq,and_true] at h;exact ⟨h.1.symm,h.2.1.symm,h.2.2.1.symm,h.2.2.2.symm⟩
structure KX (w wr:World) (W0 c:Nat) (a0:Option Addr) (len cap N B T:Nat) (col:Nat->Nat) (y:Sy) (vp vs vw vh:Value) (up us uw uh:Nat->Value):Prop where
 cu:Cur wr W0 c a0 len cap
 gr:w.grownBy wr (some c)
 ow:OwnS false wr B col y vp vs vw vh up us uw uh
 b4:Bx wr w.heap.size nS nS nS nS
 b5:Bx wr N vp vs vw vh
 tp:∀ b,T<=b->col b=0
 sz:c<w.heap.size/\w.heap.size<B/\T<=N/\w.heap.size<N
section
variable {w wr w':World} {W0 c len cap N B T:Nat} {a0:Option Addr} {col:Nat->Nat} {y:Sy} {vp vs vw vh:Value} {up us uw uh:Nat->Value}
theorem OwnS.kept {z:Bool} (o:OwnS z wr B col y vp vs vw vh up us uw uh) (h:∀ k,B<=k->k<wr.heap.size->w'.heap[k]? = wr.heap[k]?):OwnS z w' B col y vp vs vw vh up us uw uh:=
 ⟨o.p.keep fun k hk hl=>h k hk.1 hl,o.s.keep fun k hk hl=>h k hk.1 hl,o.t.keep fun k hk hl=>h k hk.1 hl,o.h.keep fun k hk hl=>h k hk.1 hl⟩
theorem KX.draw (h:KX w wr W0 c a0 len cap N B T col y vp vs vw vh up us uw uh) (hc:Cur w' W0 c a0 len cap) (hg:wr.grownBy w' (some c)):KX w w' W0 c a0 len cap N B T col y vp vs vw vh up us uw uh:=
 ⟨hc,h.gr.trans hg,h.ow.kept fun k hk hl=>hg.block k hl (by have:=h.sz;simp;omega),h.b4.grown hg (by have:=h.sz;simp;omega),h.b5.grown hg (by have:=h.sz;simp;omega),h.tp,h.sz⟩
theorem KX.bw (h:KX w wr W0 c a0 len cap N B T col y vp vs vw vh up us uw uh) (hb:Bw wr w'):KX w w' W0 c a0 len cap N B T col y vp vs vw vh up us uw uh:=
 ⟨h.cu.kept (zZ hb) (by simp) (fun k hk=>by cases hk),h.gr.andThen (zZ hb) (fun j hj=>by cases hj),h.ow.bw hb,h.b4.bw hb,h.b5.bw hb,h.tp,h.sz⟩
theorem KX.apart (h:KX w wr W0 c a0 len cap N B T col y vp vs vw vh up us uw uh) {i g:Nat} (hi:i≠0) (hg:Cl B col i g):g≠c/\g≠w.heap.size/\g≠N/\w.heap.size<g:=by
 have h1:B<=g:=hg.1;have h2:col g=i:=hg.2
 have h3:g<T:=by
  apply Classical.byContradiction;intro hn;have:=h.tp g (by omega);omega
 have:=h.sz;omega
end
theorem qn7 (W0 c len cap:Nat) (a0:Option Addr) (w:World) (hc:Cur w W0 c a0 len cap):
  Calls prog 13 #[.pointer (some (aQ c 0)),.slice a0 len cap] w (qx2 w W0 c a0 len cap):=by
 have hcl:c<w.heap.size:=hc.lt;have hcg:W0<=c:=hc.ge;have C0:Hid (Cur (w.alloc (zQ3)) W0 c a0 len cap/\w.grownBy (w.alloc (zQ3)) (some c)/\Bx (w.alloc (zQ3)) w.heap.size nS nS nS nS/\(w.alloc (zQ3)).heap.size=w.heap.size+1):=⟨hc.alloc _,World.grownBy_alloc _ _ _,Bx.new w _ _ _ _ _,by simp⟩
 clear hc
 go_enter func13,ntmps13
 go_wp2_with fail
 generalize w.alloc (zQ3)=W2 at *;refine (qd5 W0 c len cap a0 W2 C0.1).mono ?_;rintro e w1 ⟨B,T,y,pa,sa,wa,ha,pc,sc,wc,hh,rfl,gd,dk,hB,hT⟩;have KA:Hid (DK w (w1.alloc (oQ4 pa y.pn pc sa y.sn sc wa y.wn wc ha y.hn hh)) W0 c a0 len cap B T y (sysV pa y.pn pc sa y.sn sc wa y.wn wc ha y.hn hh)/\Bx (w1.alloc (oQ4 pa y.pn pc sa y.sn sc wa y.wn wc ha y.hn hh)) w.heap.size nS nS nS nS/\Bx (w1.alloc (oQ4 pa y.pn pc sa y.sn sc wa y.wn wc ha y.hn hh)) w1.heap.size (.slice pa y.pn pc) (.slice sa y.sn sc) (.slice wa y.wn wc) (.slice ha y.hn hh)):=⟨DK.alloc ⟨dk.cu,dk.sy,C0.2.1.trans dk.gr,dk.lt⟩ _,(C0.2.2.1.grown dk.gr (by simp;omega)).bw (zQ _ _),Bx.new _ _ _ _ _ _⟩
 have HS:Hid (w.heap.size<B/\T<=w1.heap.size/\w.heap.size<w1.heap.size):=⟨by have:=C0.2.2.2;omega,hT,by have:=C0.2.2.2;have:=dk.gr.size;omega⟩
 have HG:Hid y.Good:=gd;have hpn:y.pn<=16:=gd.sm.n.1;have hpn':(y.pn:Int)<=16:=by omega
 clear gd dk hB hT C0;go_wp2_with fail
 generalize w1.alloc (oQ4 pa y.pn pc sa y.sn sc wa y.wn wc ha y.hn hh)=wA at *;generalize w1.heap.size=N at *;refine (ql7 _ _ _).mono ?_;rintro e wB ⟨n,rfl,⟨n1,n2,n3⟩,rfl⟩;go_wp2_with fail
 refine (zY W0 c len cap a0 n wB KA.1.cu n2 (by omega)).mono ?_;rintro e w2 ⟨pp,rfl,⟨p0,p1⟩,hc2,hg2⟩;have KB:Hid (DK w w2 W0 c a0 len cap B T y (sysV pa y.pn pc sa y.sn sc wa y.wn wc ha y.hn hh)/\Bx w2 w.heap.size nS nS nS nS/\Bx w2 N (.slice pa y.pn pc) (.slice sa y.sn sc) (.slice wa y.wn wc) (.slice ha y.hn hh)):=⟨KA.1.draw hc2 hg2,KA.2.1.grown hg2 (by simp;omega),KA.2.2.grown hg2 (by have:=HS.out;simp;omega)⟩
 clear hc2 hg2 KA;obtain ⟨p,rfl⟩:∃ p:Nat,pp=p:=⟨pp.toNat,by omega⟩
 have hNN:w.heap.size≠N:=by have:=HS.out;omega
 by_cases h0:y.pn=0
 ·have h0':((y.pn:Int) == 0)=true:=by simp [h0]
  clear h0;obtain ⟨⟨r0,r1,r2,r3⟩,rf⟩:=KB.2.1;obtain ⟨⟨b0,b1,b2,b3⟩,-⟩:=KB.2.2;go_wp2;obtain ⟨x,ev,ey,hX⟩:=KB.1.sy.x;refine bodyPost_ret (v:=(sysV pa y.pn pc sa y.sn sc wa y.wn wc ha y.hn hh)) (by simp [results,results13,go_sem,r0,r1,r2,r3]) rfl ?_;rw [ev];exact DrwS.fin hX (by rw [ey];exact HG.sm) KB.1.cu KB.1.gr KB.1.lt HS.1 (nA _) (by omega) (by omega) (by have:=KB.2.2.lt;have:=HS.out;omega) _ _ _ _
 have h0':((y.pn:Int) == 0)=false:=by
  have:¬ (y.pn:Int)=0:=by omega
  simpa using this
 have HO:Hid y.Ok:=HG.elim id fun h=>absurd h.1 h0;have hpp:p<y.pn:=by omega
 obtain ⟨b0,-,-,-⟩:=KB.2.2.bx;go_wp2_with fail
 clear b0;refine (zY W0 c len cap a0 25 w2 KB.1.cu (by omega) (by omega)).mono ?_;rintro e w3 ⟨jj,rfl,⟨j0,j1⟩,hc3,hg3⟩;have KC:Hid (DK w w3 W0 c a0 len cap B T y (sysV pa y.pn pc sa y.sn sc wa y.wn wc ha y.hn hh)/\Bx w3 w.heap.size nS nS nS nS/\Bx w3 N (.slice pa y.pn pc) (.slice sa y.sn sc) (.slice wa y.wn wc) (.slice ha y.hn hh)):=⟨KB.1.draw hc3 hg3,KB.2.1.grown hg3 (by simp;omega),KB.2.2.grown hg3 (by have:=HS.out;simp;omega)⟩
 clear hc3 hg3 KB HG;by_cases e0:jj=0
 ·subst e0
  obtain ⟨col,vp,vs,vw,vh,up,us,uw,uh,ev,o,ht⟩:=KC.1.sy;obtain ⟨rfl,rfl,rfl,rfl⟩:=qe0 ev;have hsn:y.sn=y.pn:=HO.cn.2.1;have hps:p<y.sn:=by omega
  have hps':(p:Int)<(y.sn:Int):=by omega
  clear hsn;obtain ⟨g,cg,rb,rn,rc,oa,oc,eg,cr,-,-,-,cz,fz,Pg,Pr,lr,lg,ls⟩:=o.s.reg hps (HO.st (p:=p) hpp).len.1 5;simp only [Value.slice.injEq] at eg;obtain ⟨rfl,-,rfl⟩:=eg
  have hrT:rb<T:=by
   apply Classical.byContradiction;intro hn;have h1:=ht rb (by omega);have h2:col rb=2:=Pr.2;omega
  have hrN:N≠rb:=by have:=HS.out;omega
  have hrM:w.heap.size≠rb:=by have h1:B<=rb:=Pr.1;have:=HS.out;omega
  have hrc:c≠rb:=by have h1:B<=rb:=Pr.1;have:=HS.out;omega
  obtain ⟨⟨r0,r1,r2,r3⟩,rf⟩:=(KC.2.1.set (j:=1) (u:=iV 5) hrM)
  obtain ⟨⟨b0,b1,b2,b3⟩,-⟩:=(KC.2.2.set (j:=1) (u:=iV 5) hrN)
  obtain ⟨⟨e0,e1,e2,e3⟩,-⟩:=KC.2.2
  have SZ:Hid (SysT (w3.setCell (aQ rb 1) (iV 5)) B T (y.setS p ⟨(y.sS p).p,(y.sS p).rs.set 1 5,(y.sS p).os,(y.sS p).c⟩) (sysV pa y.pn pc (some (aQ g 0)) y.sn sc wa y.wn wc ha y.hn hh)):=by
   have hk:∀ q,q≠2->∀ k,Cl B col q k->k<w3.heap.size->(w3.setCell ⟨rb,1,none⟩ (iV 5)).heap[k]? = w3.heap[k]?:=fun q hq k hk _=>zO _ _ _ _ fun e=>hq (by rw [<- hk.2,show k=rb from e];exact Pr.2);exact ⟨col,_,_,_,_,up,us,uw,uh,rfl,⟨o.p.keep (hk 1 (by decide)),ls,o.t.keep (hk 3 (by decide)),o.h.keep (hk 4 (by decide))⟩,ht⟩
  have SM:Hid (y.setS p ⟨(y.sS p).p,(y.sS p).rs.set 1 5,(y.sS p).os,(y.sS p).c⟩).Sm:=by
   have hm:=HO.sm;refine ⟨hm.n,hm.p,fun i hi=>?_,hm.w,hm.h⟩;show ((if i=p then _ else y.sS i:S4)).rs.length<=1000/\((if i=p then _ else y.sS i:S4)).os.length<=1000;by_cases ei:i=p
   ·subst ei
    simp only [if_true,List.length_set];exact hm.s i hi
   ·rw [nB ei]
    exact hm.s i hi
  have KZ:Hid (Cur (w3.setCell (aQ rb 1) (iV 5)) W0 c a0 len cap/\w.grownBy (w3.setCell (aQ rb 1) (iV 5)) (some c)):=by
   have hgg:w3.grownBy (w3.setCell (aQ rb 1) (iV 5)) (some rb):=zV (World.grownBy.refl _ _) (.inl rfl) _;have h1:B<=rb:=Pr.1;have:=HS.out;exact ⟨KC.1.cu.kept hgg (fun e=>hrc (by simpa using e)) (fun k hk=>by cases hk;omega),KC.1.gr.andThen hgg (fun k hk=>by cases hk;exact .inl (by omega))⟩
  clear o ht ls ev;go_upto_region 20 with fail
  clear e0 e1 e2 e3 cr cz fz;generalize w3.setCell (aQ rb 1) (iV 5)=wz at *;go_wp2;obtain ⟨x,ev,ey,hX⟩:=SZ.x;refine bodyPost_ret (v:=(sysV pa y.pn pc (some ⟨g,0,none⟩) y.sn sc wa y.wn wc ha y.hn hh)) (by simp [results,results13,go_sem,r0,r1,r2,r3]) rfl ?_;rw [show (sysV pa y.pn pc (some (aQ g 0)) y.sn sc wa y.wn wc ha y.hn hh)=x.v from ev];exact DrwS.fin hX (by rw [ey];exact SM.out) KZ.1 KZ.2 KC.1.lt HS.1 (nA _) (by omega) (by omega) (by have:=zJ wz _ b0;have:=HS.out;simp at *;omega) _ _ _ _
 have t0:(jj == 0)=false:=by simpa using e0
 by_cases e1:jj=1
 ·subst e1
  clear t0 e0;obtain ⟨col,vp,vs,vw,vh,up,us,uw,uh,ev,o,ht⟩:=KC.1.sy;obtain ⟨rfl,rfl,rfl,rfl⟩:=qe0 ev;have hsn:y.sn=y.pn:=HO.cn.2.1;have hhn:y.hn=y.pn:=HO.cn.2.2.1;have hph:p<y.hn:=by omega
  have hph':(p:Int)<(y.hn:Int):=by omega
  clear hsn hhn;have KX3:Hid (KX w w3 W0 c a0 len cap N B T col y (.slice pa y.pn pc) (.slice sa y.sn sc) (.slice wa y.wn wc) (.slice ha y.hn hh) up us uw uh):=⟨KC.1.cu,KC.1.gr,o,KC.2.1,KC.2.2,ht,hcl,HS.1,HS.2.1,HS.2.2⟩
  clear o ht ev KC;obtain ⟨g,chh,eh,Pg,lg,cg,fg⟩:=KX3.ow.h.cell hph;simp only [Value.slice.injEq] at eh;obtain ⟨rfl,-,rfl⟩:=eh;obtain ⟨ua,uc,eu⟩:=zU (KX3.ow.h.own p hph);rw [eu] at cg;have hN3:=KX3.b5.bx.2.2.2;have hlp:y.hL p<=200:=HO.le200 hpp;have AP:Hid (g≠c/\g≠w.heap.size/\g≠N/\w.heap.size<g):=KX3.apart (by decide) Pg;go_upto_region 9 with fail
  refine qag (fun w'=>w'.cell? (aQ N 3)=some (sG g y.hn hh)/\w'.cell? (aQ g p)=some (.slice ua (y.hL p) uc)) (fun i=>i == 18) (by kernel_rfl) ?_;have hHeld:=And.intro hN3 cg;refine qbb [0,1,2,3,4,5,6,7,8,10,12] ?_;iterate 11 (refine qbr rfl hHeld ?_)
  refine qa2 ?_;refine yW 9 rfl fun K hK=>?_;refine qat rfl 31 _ _ rfl #[.pointer (some (aQ c 0)),iV 5] (by simp [Act.eval]) (yA func31) (zY W0 c len cap a0 5 w3.drew KX3.cu.drew (by omega) (by omega)) ?_;rintro e w4 ⟨k1,rfl,-,hc9,hg9⟩;refine ⟨_,rfl,?_⟩;have hg9':w3.grownBy w4 (some c):=⟨hg9.os,hg9.tape,hg9.output,hg9.size,hg9.block⟩
  have KX4:Hid (KX w w4 W0 c a0 len cap N B T col y (.slice pa y.pn pc) (.slice sa y.sn sc) (.slice wa y.wn wc) (sG g y.hn hh) up us uw uh):=KX3.draw hc9 hg9';have hHeld:=And.intro KX4.b5.bx.2.2.2 ((zH (hg9'.block g lg (by have:=AP.out;simp;omega))).trans hHeld.2);have lg4:g<w4.heap.size:=zL lg hg9'.size;refine hK.out _ _ (fun _=>hHeld) ?_;clear hc9 hg9 hg9';clear hK K
  (try simp only [Act.put,zD,zE,zF])
  refine yW 11 rfl fun K hK=>?_;refine qat rfl 31 _ _ rfl #[.pointer (some (aQ c 0)),iV 3] (by simp [Act.eval]) (yA func31) (zY W0 c len cap a0 3 w4 KX4.cu (by omega) (by omega)) ?_;rintro e w5 ⟨k2,rfl,-,hc9,hg9⟩;refine ⟨_,rfl,?_⟩;have hg9':w4.grownBy w5 (some c):=⟨hg9.os,hg9.tape,hg9.output,hg9.size,hg9.block⟩
  have KX5:Hid (KX w w5 W0 c a0 len cap N B T col y (.slice pa y.pn pc) (.slice sa y.sn sc) (.slice wa y.wn wc) (sG g y.hn hh) up us uw uh):=KX4.draw hc9 hg9';have hHeld:=And.intro KX5.b5.bx.2.2.2 ((zH (hg9'.block g lg4 (by have:=AP.out;simp;omega))).trans hHeld.2);have lg5:g<w5.heap.size:=zL lg4 hg9'.size;refine hK.out _ _ (fun _=>hHeld) ?_;clear hc9 hg9 hg9';clear hK K
  (try simp only [Act.put,zD,zE,zF])
  refine yW 13 rfl fun K hK=>?_;refine qat rfl 31 _ _ rfl #[.pointer (some (aQ c 0)),iV 4] (by simp [Act.eval]) (yA func31) (zY W0 c len cap a0 4 w5 KX5.cu (by omega) (by omega)) ?_;rintro e w6 ⟨k3,rfl,-,hc9,hg9⟩;refine ⟨_,rfl,?_⟩;have hg9':w5.grownBy w6 (some c):=⟨hg9.os,hg9.tape,hg9.output,hg9.size,hg9.block⟩
  have KX6:Hid (KX w w6 W0 c a0 len cap N B T col y (.slice pa y.pn pc) (.slice sa y.sn sc) (.slice wa y.wn wc) (sG g y.hn hh) up us uw uh):=KX5.draw hc9 hg9';have hHeld:=And.intro KX6.b5.bx.2.2.2 ((zH (hg9'.block g lg5 (by have:=AP.out;simp;omega))).trans hHeld.2);have lg6:g<w6.heap.size:=zL lg5 hg9'.size;refine hK.out _ _ (fun _=>hHeld) ?_;clear hc9 hg9 hg9';clear hK K;refine qar 14 rfl hHeld ?_;refine yW 15 rfl fun K hK=>?_;go_simp;have hca:=(qal (zQ w6 (oQ2 k1 k2 k3))).1;refine hK.out _ _ (fun _=>⟨(hca _ _ KX6.b5.lt).trans hHeld.1,(hca _ _ lg6).trans hHeld.2⟩) ?_;clear hca;clear hK K
  (try simp only [Act.put,zD,zE,zF])
  refine yW 16 rfl fun K hK=>?_
  have OH2:w6.ownsRow 0 49 3 (.slice ua (y.hL p) uc) (y.hL p) (fE (y.hH p) (y.hL p)):=by
   have:=KX6.ow.h.own p hph;rw [eu] at this;exact this
  refine qa1 kndE w6 rfl rfl _ _ rfl 0 (.slice ua (y.hL p) uc) (y.hL p) _ rfl OH2 #[.int .i64 k1,.int .i64 k2,.int .i64 k3] rfl rfl (by intro u hu;simp at hu;rcases hu with rfl | rfl | rfl <;> rfl) (by omega) (nD _) ?_;intro v8 w8 o8 g8 q8 n8;obtain ⟨a8,c8,rfl⟩:=zU o8;have hob:∀ k,(Value.slice ua (y.hL p) uc).ownBlock=some k->Cl B col 4 k:=fun k hk=>KX6.ow.h.ob p hph k (by rw [eu];exact hk);have hgne:(Value.slice ua (y.hL p) uc).ownBlock≠some g:=fun e=>KX6.ow.h.ra p hph g (by rw [eu];exact e) rfl;have hb8:∀ k,k<w6.heap.size->(Value.slice ua (y.hL p) uc).ownBlock≠some k->w8.heap[k]? = w6.heap[k]?:=fun k h1 h2=>g8.block k h1 fun e=>h2 e.symm;have hap:∀ k,(Value.slice ua (y.hL p) uc).ownBlock=some k->k≠c/\k≠w.heap.size/\k≠N/\w.heap.size<k:=fun k hk=>KX6.apart (by decide) (hob k hk);have hHeld:=And.intro ((zH (hb8 N KX6.b5.lt (fun e=>(hap N e).2.2.1 rfl))).trans hHeld.1) ((zH (hb8 g lg6 hgne)).trans hHeld.2)
  have hfg:w8.frozen? (aQ g p)=false:=by
   obtain ⟨g',cap',e',-,-,-,fr'⟩:=KX6.ow.h.cell hph;simp only [Value.slice.injEq,nG,Addr.mk.injEq,and_true,true_and] at e';rw [zI (hb8 g lg6 hgne),e'.1];exact fr' p
  have SZ:Hid (SysT (w8.setCell (aQ g p) (.slice a8 (y.hL p+1) c8)) B w8.heap.size (y.setH p (y.hL p+1) (fun i=>if i=y.hL p then ⟨k1,k2,k3⟩ else y.hH p i)) (sysV pa y.pn pc sa y.sn sc wa y.wn wc (some (aQ g 0)) y.hn hh)):=by
   have h:=OwnS.putH KX6.ow hph (u':=.slice a8 (y.hL p+1) c8) (m:=y.hL p+1) (H':=fun i=>if i=y.hL p then ⟨k1,k2,k3⟩ else y.hH p i) (w1:=w8) (by have h1:B<=g:=Pg.1;omega) g8.size (fun k h1 h2=>hb8 k h1 (by rw [eu] at h2;exact h2)) (by rw [qrz];exact o8) n8 (fun k hk=>(q8 k hk).imp (fun h=>by rw [eu];exact h) id);have h2:=h.sysT;rw [World.size_setCell] at h2;exact h2
  have KZ:Hid (Cur (w8.setCell (aQ g p) (.slice a8 (y.hL p+1) c8)) W0 c a0 len cap/\w.grownBy (w8.setCell (aQ g p) (.slice a8 (y.hL p+1) c8)) (some c)/\Bx (w8.setCell (aQ g p) (.slice a8 (y.hL p+1) c8)) w.heap.size nS nS nS nS/\Bx (w8.setCell (aQ g p) (.slice a8 (y.hL p+1) c8)) N (.slice pa y.pn pc) (.slice sa y.sn sc) (.slice wa y.wn wc) (sG g y.hn hh)):=by
   have hgg:w8.grownBy (w8.setCell (aQ g p) (.slice a8 (y.hL p+1) c8)) (some g):=zV (World.grownBy.refl _ _) (.inl rfl) _;have hA:=AP.out;have hW:=KX6.cu.ge;refine ⟨(KX6.cu.kept g8 (fun e=>(hap c e.symm).1 rfl) (fun k hk=>by have:=hap k hk;omega)).kept hgg (fun e=>hA.1 (by simpa using e.symm)) (fun k hk=>by cases hk;omega),(KX6.gr.andThen g8 (fun k hk=>.inl (by have:=hap k hk;omega))).andThen hgg (fun k hk=>by cases hk;exact .inl (by omega)),(KX6.b4.grown g8 (fun e=>(hap _ e).2.1 rfl)).set (by omega),(KX6.b5.grown g8 (fun e=>(hap _ e).2.2.1 rfl)).set (by omega)⟩
  refine hK.out _ _ (fun _=>hHeld) ?_;clear o8 g8 q8 n8 hb8;clear hK K;refine qar 17 rfl hHeld ?_;refine yW 18 rfl fun K hK=>?_;have hcN:=hHeld.2;go_simp;refine hK.out _ _ (fun h=>?_) ?_
  ·exact absurd h (by decide)
  clear hK K
  (try simp only [Act.put,zD,zE,zF])
  refine yX ?_ _
  have SM:Hid (y.setH p (y.hL p+1) (fun i=>if i=y.hL p then ⟨k1,k2,k3⟩ else y.hH p i)).Sm:=by
   have hm:=HO.sm;refine ⟨hm.n,hm.p,hm.s,hm.w,fun i hi=>?_⟩;show (if i=p then y.hL p+1 else y.hL i)<=1000;by_cases ei:i=p
   ·rw [nC ei];omega
   ·rw [nB ei];exact hm.h i hi
  have hTz:w8.heap.size<=(w8.setCell (aQ g p) (.slice a8 (y.hL p+1) c8)).heap.size:=by simp
  generalize w8.setCell (aQ g p) (.slice a8 (y.hL p+1) c8)=wz at *;obtain ⟨⟨r0,r1,r2,r3⟩,rf⟩:=KZ.2.2.1;obtain ⟨⟨b0,b1,b2,b3⟩,-⟩:=KZ.2.2.2;have hsz:=KX3.sz;have hW:=KX3.cu.ge;clear hHeld;go_wp2;obtain ⟨x,ev,ey,hX⟩:=SZ.x;refine bodyPost_ret (v:=(sysV pa y.pn pc sa y.sn sc wa y.wn wc (some ⟨g,0,none⟩) y.hn hh)) (by simp [results,results13,go_sem,r0,r1,r2,r3]) rfl ?_;rw [show (sysV pa y.pn pc sa y.sn sc wa y.wn wc (some (aQ g 0)) y.hn hh)=x.v from ev];exact DrwS.fin hX (by rw [ey];exact SM.out) KZ.1 KZ.2.1 (by omega) (by omega) (nA _) (by omega) (by omega) hTz _ _ _ _
 have t1:(jj == 1)=false:=by simpa using e1
 by_cases e2:jj=2
 ·subst e2
  clear t0 e0 t1 e1;obtain ⟨col,vp,vs,vw,vh,up,us,uw,uh,ev,o,ht⟩:=KC.1.sy;obtain ⟨rfl,rfl,rfl,rfl⟩:=qe0 ev;have hsn:y.sn=y.pn:=HO.cn.2.1;have hhn:y.hn=y.pn:=HO.cn.2.2.1;have hph:p<y.hn:=by omega
  have hph':(p:Int)<(y.hn:Int):=by omega
  clear hsn hhn;have KX3:Hid (KX w w3 W0 c a0 len cap N B T col y (.slice pa y.pn pc) (.slice sa y.sn sc) (.slice wa y.wn wc) (.slice ha y.hn hh) up us uw uh):=⟨KC.1.cu,KC.1.gr,o,KC.2.1,KC.2.2,ht,hcl,HS.1,HS.2.1,HS.2.2⟩
  clear o ht ev KC
  have hw1:1<=y.wn/\y.wn<=16:=by
   obtain ⟨⟨h1,h4⟩,-,-,hw⟩:=HO.cn;rw [hw];exact ⟨Nat.mul_le_mul h1 h1,zP (Nat.mul_le_mul h4 h4) (by omega)⟩
  have b2:=KX3.b5.bx.2.2.1;go_wp2_with fail
  refine (zY W0 c len cap a0 (y.wn:Nat) w3 KX3.cu (by omega) (by omega)).mono ?_;rintro e w4 ⟨ii,rfl,⟨i0,i1⟩,hc4,hg4⟩;have KX4:Hid (KX w w4 W0 c a0 len cap N B T col y (.slice pa y.pn pc) (.slice sa y.sn sc) (.slice wa y.wn wc) (.slice ha y.hn hh) up us uw uh):=KX3.draw hc4 hg4;clear hc4 hg4 b2;obtain ⟨iw,rfl⟩:∃ iw:Nat,ii=iw:=⟨ii.toNat,by omega⟩
  have hiw:iw<y.wn:=by omega
  have hiw':(iw:Int)<(y.wn:Int):=by omega
  have hlw:y.wL iw<=12:=HO.bds.2.2.1 iw hiw;obtain ⟨g,cww,eh,Pg,lg,cg,fg⟩:=KX4.ow.t.cell hiw;simp only [Value.slice.injEq] at eh;obtain ⟨rfl,-,rfl⟩:=eh;obtain ⟨ua,uc,eu⟩:=zU (KX4.ow.t.own iw hiw);rw [eu] at cg;have hN3:=KX4.b5.bx.2.2.1;have AP:Hid (g≠c/\g≠w.heap.size/\g≠N/\w.heap.size<g):=KX4.apart (by decide) Pg;go_upto_region 12 with fail
  refine qag (fun w'=>w'.cell? (aQ N 2)=some (sG g y.wn wc)/\w'.cell? (aQ g iw)=some (.slice ua (y.wL iw) uc)) (fun i=>i == 16) (by kernel_rfl) ?_;have hHeld:=And.intro hN3 cg;refine qbb [0,1,2,3,4,5,6,7,8,10] ?_;iterate 10 (refine qbr rfl hHeld ?_)
  refine qa2 ?_;refine yW 9 rfl fun K hK=>?_;refine qat rfl 37 _ _ rfl #[.pointer (some (aQ c 0)),iV 2] (by simp [Act.eval]) (yA func37) (qb3 W0 c len cap a0 2 w4.drew KX4.cu.drew (by omega) (by omega)) ?_;rintro e w5 ⟨k1,rfl,hc9,hg9⟩;refine ⟨_,rfl,?_⟩;have hg9':w4.grownBy w5 (some c):=⟨hg9.os,hg9.tape,hg9.output,hg9.size,hg9.block⟩
  have KX5:Hid (KX w w5 W0 c a0 len cap N B T col y (.slice pa y.pn pc) (.slice sa y.sn sc) (sG g y.wn wc) (.slice ha y.hn hh) up us uw uh):=KX4.draw hc9 hg9';have hHeld:=And.intro KX5.b5.bx.2.2.1 ((zH (hg9'.block g lg (by have:=AP.out;simp;omega))).trans hHeld.2);have lg5:g<w5.heap.size:=zL lg hg9'.size;refine hK.out _ _ (fun _=>hHeld) ?_;clear hc9 hg9 hg9';clear hK K
  (try simp only [Act.put,zD,zE,zF])
  refine yW 11 rfl fun K hK=>?_;refine qat rfl 31 _ _ rfl #[.pointer (some (aQ c 0)),iV 2] (by simp [Act.eval]) (yA func31) (zY W0 c len cap a0 2 w5 KX5.cu (by omega) (by omega)) ?_;rintro e w6 ⟨k2,rfl,-,hc9,hg9⟩;refine ⟨_,rfl,?_⟩;have hg9':w5.grownBy w6 (some c):=⟨hg9.os,hg9.tape,hg9.output,hg9.size,hg9.block⟩
  have KX6:Hid (KX w w6 W0 c a0 len cap N B T col y (.slice pa y.pn pc) (.slice sa y.sn sc) (sG g y.wn wc) (.slice ha y.hn hh) up us uw uh):=KX5.draw hc9 hg9';have hHeld:=And.intro KX6.b5.bx.2.2.1 ((zH (hg9'.block g lg5 (by have:=AP.out;simp;omega))).trans hHeld.2);have lg6:g<w6.heap.size:=zL lg5 hg9'.size;refine hK.out _ _ (fun _=>hHeld) ?_;clear hc9 hg9 hg9';clear hK K;refine qar 12 rfl hHeld ?_;refine yW 13 rfl fun K hK=>?_;go_simp;have hca:=(qal (zQ w6 (.cells #[.bool k1,iV k2] 78))).1;refine hK.out _ _ (fun _=>⟨(hca _ _ KX6.b5.lt).trans hHeld.1,(hca _ _ lg6).trans hHeld.2⟩) ?_;clear hca;clear hK K
  (try simp only [Act.put,zD,zE,zF])
  refine yW 14 rfl fun K hK=>?_
  have OH2:w6.ownsRow 0 78 2 (.slice ua (y.wL iw) uc) (y.wL iw) (fT (y.wH iw) (y.wL iw)):=by
   have:=KX6.ow.t.own iw hiw;rw [eu] at this;exact this
  refine qa1 kndT w6 rfl rfl _ _ rfl 0 (.slice ua (y.wL iw) uc) (y.wL iw) _ rfl OH2 #[.bool k1,.int .i64 k2] rfl rfl (by intro u hu;simp at hu;rcases hu with rfl | rfl <;> rfl) (by omega) (nD _) ?_;intro v8 w8 o8 g8 q8 n8;obtain ⟨a8,c8,rfl⟩:=zU o8;have hob:∀ k,(Value.slice ua (y.wL iw) uc).ownBlock=some k->Cl B col 3 k:=fun k hk=>KX6.ow.t.ob iw hiw k (by rw [eu];exact hk);have hgne:(Value.slice ua (y.wL iw) uc).ownBlock≠some g:=fun e=>KX6.ow.t.ra iw hiw g (by rw [eu];exact e) rfl;have hb8:∀ k,k<w6.heap.size->(Value.slice ua (y.wL iw) uc).ownBlock≠some k->w8.heap[k]? = w6.heap[k]?:=fun k h1 h2=>g8.block k h1 fun e=>h2 e.symm;have hap:∀ k,(Value.slice ua (y.wL iw) uc).ownBlock=some k->k≠c/\k≠w.heap.size/\k≠N/\w.heap.size<k:=fun k hk=>KX6.apart (by decide) (hob k hk);have hHeld:=And.intro ((zH (hb8 N KX6.b5.lt (fun e=>(hap N e).2.2.1 rfl))).trans hHeld.1) ((zH (hb8 g lg6 hgne)).trans hHeld.2)
  have hfg:w8.frozen? (aQ g iw)=false:=by
   obtain ⟨g',cap',e',-,-,-,fr'⟩:=KX6.ow.t.cell hiw;simp only [Value.slice.injEq,nG,Addr.mk.injEq,and_true,true_and] at e';rw [zI (hb8 g lg6 hgne),e'.1];exact fr' iw
  have SZ:Hid (SysT (w8.setCell (aQ g iw) (.slice a8 (y.wL iw+1) c8)) B w8.heap.size (y.setW iw (y.wL iw+1) (fun i=>if i=y.wL iw then ⟨k1,k2⟩ else y.wH iw i)) (sysV pa y.pn pc sa y.sn sc (some (aQ g 0)) y.wn wc ha y.hn hh)):=by
   have h:=OwnS.putW KX6.ow hiw (u':=.slice a8 (y.wL iw+1) c8) (m:=y.wL iw+1) (H':=fun i=>if i=y.wL iw then ⟨k1,k2⟩ else y.wH iw i) (w1:=w8) (by have h1:B<=g:=Pg.1;omega) g8.size (fun k h1 h2=>hb8 k h1 (by rw [eu] at h2;exact h2)) (by rw [qr1];exact o8) n8 (fun k hk=>(q8 k hk).imp (fun h=>by rw [eu];exact h) id);have h2:=h.sysT;rw [World.size_setCell] at h2;exact h2
  have KZ:Hid (Cur (w8.setCell (aQ g iw) (.slice a8 (y.wL iw+1) c8)) W0 c a0 len cap/\w.grownBy (w8.setCell (aQ g iw) (.slice a8 (y.wL iw+1) c8)) (some c)/\Bx (w8.setCell (aQ g iw) (.slice a8 (y.wL iw+1) c8)) w.heap.size nS nS nS nS/\Bx (w8.setCell (aQ g iw) (.slice a8 (y.wL iw+1) c8)) N (.slice pa y.pn pc) (.slice sa y.sn sc) (sG g y.wn wc) (.slice ha y.hn hh)):=by
   have hgg:w8.grownBy (w8.setCell (aQ g iw) (.slice a8 (y.wL iw+1) c8)) (some g):=zV (World.grownBy.refl _ _) (.inl rfl) _;have hA:=AP.out;have hW:=KX6.cu.ge;refine ⟨(KX6.cu.kept g8 (fun e=>(hap c e.symm).1 rfl) (fun k hk=>by have:=hap k hk;omega)).kept hgg (fun e=>hA.1 (by simpa using e.symm)) (fun k hk=>by cases hk;omega),(KX6.gr.andThen g8 (fun k hk=>.inl (by have:=hap k hk;omega))).andThen hgg (fun k hk=>by cases hk;exact .inl (by omega)),(KX6.b4.grown g8 (fun e=>(hap _ e).2.1 rfl)).set (by omega),(KX6.b5.grown g8 (fun e=>(hap _ e).2.2.1 rfl)).set (by omega)⟩
  refine hK.out _ _ (fun _=>hHeld) ?_;clear o8 g8 q8 n8 hb8;clear hK K;refine qar 15 rfl hHeld ?_;refine yW 16 rfl fun K hK=>?_;have hcN:=hHeld.2;go_simp;refine hK.out _ _ (fun h=>?_) ?_
  ·exact absurd h (by decide)
  clear hK K
  (try simp only [Act.put,zD,zE,zF])
  refine yX ?_ _
  have SM:Hid (y.setW iw (y.wL iw+1) (fun i=>if i=y.wL iw then ⟨k1,k2⟩ else y.wH iw i)).Sm:=by
   have hm:=HO.sm;have hb:=HO.bds.2.2.1 iw hiw;refine ⟨hm.n,hm.p,hm.s,fun i hi=>?_,hm.h⟩;show (if i=iw then y.wL iw+1 else y.wL i)<=1000;by_cases ei:i=iw
   ·rw [nC ei];omega
   ·rw [nB ei];exact hm.w i hi
  have hTz:w8.heap.size<=(w8.setCell (aQ g iw) (.slice a8 (y.wL iw+1) c8)).heap.size:=by simp
  generalize w8.setCell (aQ g iw) (.slice a8 (y.wL iw+1) c8)=wz at *;obtain ⟨⟨r0,r1,r2,r3⟩,rf⟩:=KZ.2.2.1;obtain ⟨⟨b0,b1,b2,b3⟩,-⟩:=KZ.2.2.2;have hsz:=KX3.sz;have hW:=KX3.cu.ge;clear hHeld;go_wp2;obtain ⟨x,ev,ey,hX⟩:=SZ.x;refine bodyPost_ret (v:=(sysV pa y.pn pc sa y.sn sc (some ⟨g,0,none⟩) y.wn wc ha y.hn hh)) (by simp [results,results13,go_sem,r0,r1,r2,r3]) rfl ?_;rw [show (sysV pa y.pn pc sa y.sn sc (some (aQ g 0)) y.wn wc ha y.hn hh)=x.v from ev];exact DrwS.fin hX (by rw [ey];exact SM.out) KZ.1 KZ.2.1 (by omega) (by omega) (nA _) (by omega) (by omega) hTz _ _ _ _
 have t2:(jj == 2)=false:=by simpa using e2
 by_cases e3:jj=3
 ·subst e3
  clear t0 e0 t1 e1 t2 e2;obtain ⟨col,vp,vs,vw,vh,up,us,uw,uh,ev,o,ht⟩:=KC.1.sy;obtain ⟨rfl,rfl,rfl,rfl⟩:=qe0 ev;have hsn:y.sn=y.pn:=HO.cn.2.1;have hhn:y.hn=y.pn:=HO.cn.2.2.1;have hph:p<y.hn:=by omega
  have hph':(p:Int)<(y.hn:Int):=by omega
  clear hsn hhn;have KX3:Hid (KX w w3 W0 c a0 len cap N B T col y (.slice pa y.pn pc) (.slice sa y.sn sc) (.slice wa y.wn wc) (.slice ha y.hn hh) up us uw uh):=⟨KC.1.cu,KC.1.gr,o,KC.2.1,KC.2.2,ht,hcl,HS.1,HS.2.1,HS.2.2⟩
  clear o ht ev KC
  have hw1:1<=y.wn/\y.wn<=16:=by
   obtain ⟨⟨h1,h4⟩,-,-,hw⟩:=HO.cn;rw [hw];exact ⟨Nat.mul_le_mul h1 h1,zP (Nat.mul_le_mul h4 h4) (by omega)⟩
  have hw1':(1:Int)<=(y.wn:Int):=by omega
  obtain ⟨g,cww,eh,Pg,lg,-,-⟩:=KX3.ow.t.cell (i:=0) (by omega);have hcap:y.wn<=wc:=qrr KX3.ow.t.row;simp only [Value.slice.injEq] at eh;obtain ⟨rfl,-,rfl⟩:=eh;have hcap':(1:Int)<=(wc:Int):=by omega
  have hcp2:¬ (wc:Int)<1:=by omega
  obtain ⟨⟨r0,r1,r2,r3⟩,rf⟩:=KX3.b4;obtain ⟨⟨b0,b1,b2,b3⟩,bf⟩:=KX3.b5;go_upto_region 20 with fail
  have hA:y.wn<=1\/(if wc=1 then (some (aQ g 0):Option Addr) else some (aQ g 1))=some (aQ g 1):=by
   by_cases h:wc=1
   ·exact .inl (by omega)
   ·exact .inr (nB h)
  generalize (if wc=1 then (some (aQ g 0):Option Addr) else some (aQ g 1))=A at *;have hsz:=KX3.sz;have hW:=KX3.cu.ge
  have KZ:Hid (Cur (w3.setCell (aQ N 2) (.slice A (y.wn - 1) (wc - 1))) W0 c a0 len cap/\w.grownBy (w3.setCell (aQ N 2) (.slice A (y.wn - 1) (wc - 1))) (some c)/\Bx (w3.setCell (aQ N 2) (.slice A (y.wn - 1) (wc - 1))) w.heap.size nS nS nS nS/\BoxC (w3.setCell (aQ N 2) (.slice A (y.wn - 1) (wc - 1))) N (.slice pa y.pn pc) (.slice sa y.sn sc) (.slice A (y.wn - 1) (wc - 1)) (.slice ha y.hn hh)):=by
   have hgg:w3.grownBy (w3.setCell (aQ N 2) (.slice A (y.wn - 1) (wc - 1))) (some N):=zV (World.grownBy.refl _ _) (.inl rfl) _;exact ⟨KX3.cu.kept hgg (fun e=>by simp at e;omega) (fun k hk=>by cases hk;omega),KX3.gr.andThen hgg (fun k hk=>by cases hk;exact .inl (by omega)),KX3.b4.set (by omega),⟨by go_cell,by go_cell,by go_cell,by go_cell⟩⟩
  have SX:Hid (∃ x:SysIn,sysV pa y.pn pc sa y.sn sc A (y.wn - 1) (wc - 1) ha y.hn hh=x.v/\x.y.Sm/\SysX (w3.setCell (aQ N 2) (.slice A (y.wn - 1) (wc - 1))) B T x):=by
   have st:SysT w3 B T y (sysV pa y.pn pc sa y.sn sc (some (aQ g 0)) y.wn wc ha y.hn hh):=⟨col,_,_,_,_,up,us,uw,uh,rfl,KX3.ow,KX3.tp⟩
   obtain ⟨x,ev,ey,hX⟩:=st.x;have ev':=ev;simp only [sysV,Value.agg.injEq,Array.mk.injEq,List.cons.injEq,Value.slice.injEq,and_true] at ev';obtain ⟨⟨a1,a2,a3⟩,⟨a4,a5,a6⟩,⟨a7,a8,a9⟩,⟨a10,a11,a12⟩⟩:=ev';refine ⟨x.shift A (wc - 1),?_,?_,(hX.keep (by simp) fun b h1 h2 _=>zO _ _ _ _ (fun e=>by have e2:b=N:=e;omega)).shift a7.symm (hA.imp (fun h=>by rw [<- a8];exact h) id)⟩
   ·show _=sysV x.pa x.pn x.pc x.sa x.sn x.sc A (x.wn - 1) (wc - 1) x.ha x.hn x.hc
    rw [<- a1,<- a2,<- a3,<- a4,<- a5,<- a6,<- a8,<- a10,<- a11,<- a12]
   ·have hm:=HO.sm
    rw [<- ey] at hm;refine ⟨⟨hm.n.1,hm.n.2.1,by have h1:x.wn<=16:=hm.n.2.2.1;show x.wn - 1<=16;omega,hm.n.2.2.2⟩,hm.p,hm.s,fun i hi=>hm.w (i+1) (by have h1:i<x.wn - 1:=hi;show i+1<x.wn;omega),hm.h⟩
  have hTz:T<=(w3.setCell (aQ N 2) (.slice A (y.wn - 1) (wc - 1))).heap.size:=by
   have:=zJ w3 _ b0;simp at this ⊢;omega
  clear r0 r1 r2 r3 rf b0 b1 b2 b3 bf;generalize y.wn - 1=wn1 at *;generalize wc - 1=wc1 at *;generalize w3.setCell (aQ N 2) (.slice A wn1 wc1)=wz at *;obtain ⟨⟨r0,r1,r2,r3⟩,rf⟩:=KZ.2.2.1;obtain ⟨b0,b1,b2,b3⟩:=KZ.2.2.2;go_wp2;obtain ⟨x,ev,hm,hX⟩:=SX.out;refine bodyPost_ret (v:=sysV pa y.pn pc sa y.sn sc A wn1 wc1 ha y.hn hh) (by simp [results,results13,go_sem,r0,r1,r2,r3]) rfl ?_;rw [show sysV pa y.pn pc sa y.sn sc A wn1 wc1 ha y.hn hh=x.v from ev];exact DrwS.fin hX hm KZ.1 KZ.2.1 (by omega) (by omega) (nA _) (by omega) (by omega) hTz _ _ _ _
 have t3:(jj == 3)=false:=by simpa using e3
 by_cases e4:jj=4
 ·subst e4
  clear t0 e0 t1 e1 t2 e2 t3 e3;obtain ⟨col,vp,vs,vw,vh,up,us,uw,uh,ev,o,ht⟩:=KC.1.sy;obtain ⟨rfl,rfl,rfl,rfl⟩:=qe0 ev;have hsn:y.sn=y.pn:=HO.cn.2.1;have hhn:y.hn=y.pn:=HO.cn.2.2.1;have hph:p<y.hn:=by omega
  have hph':(p:Int)<(y.hn:Int):=by omega
  clear hsn hhn;have KX3:Hid (KX w w3 W0 c a0 len cap N B T col y (.slice pa y.pn pc) (.slice sa y.sn sc) (.slice wa y.wn wc) (.slice ha y.hn hh) up us uw uh):=⟨KC.1.cu,KC.1.gr,o,KC.2.1,KC.2.2,ht,hcl,HS.1,HS.2.1,HS.2.2⟩
  clear o ht ev KC;obtain ⟨g,cpp,eh,Pg,lg,cg,fg⟩:=KX3.ow.p.cell hpp;simp only [Value.slice.injEq] at eh;obtain ⟨rfl,-,rfl⟩:=eh;have hpp':(p:Int)<(y.pn:Int):=by omega
  have hN3:=KX3.b5.bx.1;have AP:Hid (g≠c/\g≠w.heap.size/\g≠N/\w.heap.size<g):=KX3.apart (by decide) Pg;go_upto_region 16 with fail
  refine qag (fun w'=>w'.cell? (aQ N 0)=some (sG g y.pn pc)/\w'.cell? (aQ g p)=some (up p)) (fun i=>i == 6) (by kernel_rfl) ?_;have hHeld:=And.intro hN3 cg;refine qbb [0,1,2,3] ?_;iterate 4 (refine qbr rfl hHeld ?_)
  refine qa2 ?_;refine yW 4 rfl fun K hK=>?_;refine qat rfl 38 _ _ rfl #[.pointer (some (aQ c 0))] (by simp [Act.eval]) (yA func38) (qj2 W0 c len cap a0 w3.drew KX3.cu.drew) ?_;rintro e w4 ⟨g4,m4,gc4,rfl,hm4,hl4,hc4,hg4⟩;refine ⟨_,rfl,?_⟩;have hg9':w3.grownBy w4 (some c):=⟨hg4.os,hg4.tape,hg4.output,hg4.size,hg4.block⟩
  have KX4:Hid (KX w w4 W0 c a0 len cap N B T col y (sG g y.pn pc) (.slice sa y.sn sc) (.slice wa y.wn wc) (.slice ha y.hn hh) up us uw uh):=KX3.draw hc4 hg9';have hHeld:=And.intro KX4.b5.bx.1 ((zH (hg9'.block g lg (by have:=AP.out;simp;omega))).trans hHeld.2);have lg4:g<w4.heap.size:=zL lg hg9'.size;obtain ⟨G4,hG4⟩:=hl4.known
  have hfg:w4.frozen? (aQ g p)=false:=by
   rw [zI (hg9'.block g lg (by have:=AP.out;simp;omega))];exact fg p
  have hupc:∃ ua uc,up p=.slice ua (y.pL p) uc:=zU (KX3.ow.p.own p hpp)
  have SZ:Hid (SysT (w4.setCell (aQ g p) (sG g4 m4 gc4)) B w4.heap.size (y.setP p m4 G4) (sysV (some (aQ g 0)) y.pn pc sa y.sn sc wa y.wn wc ha y.hn hh)):=by
   have hs3:w3.heap.size<=w4.heap.size:=hg9'.size;have ho:OwnS false (World.cut w4 w3.heap.size) B col y (sG g y.pn pc) (.slice sa y.sn sc) (.slice wa y.wn wc) (.slice ha y.hn hh) up us uw uh:=KX3.ow.kept fun k hk hl=>(qlt w4 hs3 hl).trans (hg9'.block k hl (by have:=KX3.sz;simp;omega));have h:=OwnS.putP ho hpp (u':=.slice (some (aQ g4 0)) m4 gc4) (m:=m4) (H':=G4) (w1:=w4) (by rw [qhr w4 hs3];have h1:B<=g:=Pg.1;omega) (by rw [qhr w4 hs3];exact hs3) (fun k h1 _=>by rw [qhr w4 hs3] at h1;exact (qlt w4 hs3 h1).symm) (hG4.mono (nD _)) (fun e=>by cases e) (fun k hk=>.inr (by rw [qhr w4 hs3];exact (hG4.lt k hk).1));have h2:=h.sysT;rw [World.size_setCell] at h2;exact h2
  have KZ:Hid (Cur (w4.setCell (aQ g p) (sG g4 m4 gc4)) W0 c a0 len cap/\w.grownBy (w4.setCell (aQ g p) (sG g4 m4 gc4)) (some c)/\Bx (w4.setCell (aQ g p) (sG g4 m4 gc4)) w.heap.size nS nS nS nS/\Bx (w4.setCell (aQ g p) (sG g4 m4 gc4)) N (sG g y.pn pc) (.slice sa y.sn sc) (.slice wa y.wn wc) (.slice ha y.hn hh)):=by
   have hgg:w4.grownBy (w4.setCell (aQ g p) (sG g4 m4 gc4)) (some g):=zV (World.grownBy.refl _ _) (.inl rfl) _;have hA:=AP.out;have hW:=KX4.cu.ge;exact ⟨KX4.cu.kept hgg (fun e=>hA.1 (by simpa using e.symm)) (fun k hk=>by cases hk;omega),KX4.gr.andThen hgg (fun k hk=>by cases hk;exact .inl (by omega)),KX4.b4.set (by omega),KX4.b5.set (by omega)⟩
  refine hK.out _ _ (fun _=>hHeld) ?_;clear hc4 hg4 hg9' hl4 hG4;clear hK K;refine qar 5 rfl hHeld ?_;refine yW 6 rfl fun K hK=>?_;have hcN:=hHeld.2;obtain ⟨ua,uc,eup⟩:=hupc;rw [eup] at hcN;go_simp;refine hK.out _ _ (fun h=>?_) ?_
  ·exact absurd h (by decide)
  clear hK K
  (try simp only [Act.put,zD,zE,zF])
  refine yX ?_ _
  have SM:Hid (y.setP p m4 G4).Sm:=by
   have hm:=HO.sm;refine ⟨hm.n,fun i hi=>?_,hm.s,hm.w,hm.h⟩;show (if i=p then m4 else y.pL i)<=1000;by_cases ei:i=p
   ·rw [nC ei];omega
   ·rw [nB ei];exact hm.p i hi
  have hTz:w4.heap.size<=(w4.setCell (aQ g p) (sG g4 m4 gc4)).heap.size:=by simp
  generalize w4.setCell (aQ g p) (sG g4 m4 gc4)=wz at *;obtain ⟨⟨r0,r1,r2,r3⟩,rf⟩:=KZ.2.2.1;obtain ⟨⟨b0,b1,b2,b3⟩,-⟩:=KZ.2.2.2;have hsz:=KX3.sz;have hW:=KX3.cu.ge;clear hHeld;go_wp2;obtain ⟨x,ev,ey,hX⟩:=SZ.x;refine bodyPost_ret (v:=(sysV (some ⟨g,0,none⟩) y.pn pc sa y.sn sc wa y.wn wc ha y.hn hh)) (by simp [results,results13,go_sem,r0,r1,r2,r3]) rfl ?_;rw [show (sysV (some (aQ g 0)) y.pn pc sa y.sn sc wa y.wn wc ha y.hn hh)=x.v from ev];exact DrwS.fin hX (by rw [ey];exact SM.out) KZ.1 KZ.2.1 (by omega) (by omega) (nA _) (by omega) (by omega) hTz _ _ _ _
 have t4:(jj == 4)=false:=by simpa using e4
 by_cases e5:jj=5
 ·subst e5
  clear t0 e0 t1 e1 t2 e2 t3 e3 t4 e4;obtain ⟨col,vp,vs,vw,vh,up,us,uw,uh,ev,o,ht⟩:=KC.1.sy;obtain ⟨rfl,rfl,rfl,rfl⟩:=qe0 ev;have hsn:y.sn=y.pn:=HO.cn.2.1;have hhn:y.hn=y.pn:=HO.cn.2.2.1;have hph:p<y.hn:=by omega
  have hph':(p:Int)<(y.hn:Int):=by omega
  clear hsn hhn;have KX3:Hid (KX w w3 W0 c a0 len cap N B T col y (.slice pa y.pn pc) (.slice sa y.sn sc) (.slice wa y.wn wc) (.slice ha y.hn hh) up us uw uh):=⟨KC.1.cu,KC.1.gr,o,KC.2.1,KC.2.2,ht,hcl,HS.1,HS.2.1,HS.2.2⟩
  clear o ht ev KC
  have hw1:1<=y.wn/\y.wn<=16:=by
   obtain ⟨⟨h1,h4⟩,-,-,hw⟩:=HO.cn;rw [hw];exact ⟨Nat.mul_le_mul h1 h1,zP (Nat.mul_le_mul h4 h4) (by omega)⟩
  have b2:=KX3.b5.bx.2.2.1;go_wp2_with fail
  refine (zY W0 c len cap a0 (y.wn:Nat) w3 KX3.cu (by omega) (by omega)).mono ?_;rintro e w4 ⟨ii,rfl,⟨i0,i1⟩,hc4,hg4⟩;have KX4:Hid (KX w w4 W0 c a0 len cap N B T col y (.slice pa y.pn pc) (.slice sa y.sn sc) (.slice wa y.wn wc) (.slice ha y.hn hh) up us uw uh):=KX3.draw hc4 hg4;clear hc4 hg4 b2;obtain ⟨iw,rfl⟩:∃ iw:Nat,ii=iw:=⟨ii.toNat,by omega⟩
  have hiw:iw<y.wn:=by omega
  have hiw':(iw:Int)<(y.wn:Int):=by omega
  have hlw:y.wL iw<=12:=HO.bds.2.2.1 iw hiw;obtain ⟨g,cww,eh,Pg,lg,cg,fg⟩:=KX4.ow.t.cell hiw;simp only [Value.slice.injEq] at eh;obtain ⟨rfl,-,rfl⟩:=eh;obtain ⟨ua,uc,eu⟩:=zU (KX4.ow.t.own iw hiw);rw [eu] at cg;have hN3:=KX4.b5.bx.2.2.1;have AP:Hid (g≠c/\g≠w.heap.size/\g≠N/\w.heap.size<g):=KX4.apart (by decide) Pg;have hM4:w4.drew.heap.size=w4.heap.size:=rfl;go_upto_region 19 with fail
  refine qag (fun w'=>w'.cell? (aQ N 2)=some (sG g y.wn wc)/\w'.cell? (aQ g iw)=some (.slice ua (y.wL iw) uc)) (fun i=>i == 12) (by kernel_rfl) ?_;have hHeld:=And.intro hN3 cg;refine qbb [0,1,2,3,5,6,7,8,9] ?_;iterate 9 (refine qbr rfl hHeld ?_)
  refine qa2 ?_;refine yW 4 rfl fun K hK=>?_;go_simp;have ba:Bw w4 (w4.drew.alloc (.cells #[.bool true,iV 0] 78)):=(nE w4.heap.size w4).drew.trans (zQ w4.drew _);have BA:Hid (Bw w4 (w4.drew.alloc (.cells #[.bool true,iV 0] 78))):=ba;have hca:=(qal ba).1;have hHeld:=And.intro ((hca _ _ KX4.b5.lt).trans hHeld.1) ((hca _ _ lg).trans hHeld.2);refine hK.out _ _ (fun _=>hHeld) ?_;clear hca ba;clear hK K
  (try simp only [Act.put,zD,zE,zF])
  refine yW 10 rfl fun K hK=>?_;have OH1:(w4.drew.alloc (.cells #[.bool true,iV 0] 78)).ownsRow 0 78 2 (sG w4.heap.size 1 1) 1 [.bool true,iV 0]:=World.ownsRow_lit (base:=0) (e:=78) (size:=2) w4.drew #[.bool true,iV 0] 1 (nD _) (by unfold maxLen;omega) (by simp)
  have OH2:Src (w4.drew.alloc (.cells #[.bool true,iV 0] 78)) ua (fT (y.wH iw) (y.wL iw)):=by
   have:=KX4.ow.t.own iw hiw;rw [eu] at this;exact (qxy this (qly _ _)).bw BA.out
  refine qcm kndT (w4.drew.alloc (.cells #[.bool true,iV 0] 78)) rfl _ _ rfl 0 (sG w4.heap.size 1 1) 1 [.bool true,iV 0] rfl OH1 ua (y.wL iw) uc (fT (y.wH iw) (y.wL iw)) rfl (qly _ _) OH2 (qo4 _ _) (by omega) (nD _) ?_;intro v8 w8 o8 g8 q8 n8;have n8':v8≠.slice none 0 0:=n8 (.inl (by simp));rw [Nat.add_comm 1] at o8;obtain ⟨a8,c8,rfl⟩:=zU o8;have hsA:(w4.drew.alloc (.cells #[.bool true,iV 0] 78)).heap.size=w4.heap.size+1:=by simp
  have hb8:∀ k,k<w4.heap.size->w8.heap[k]? = w4.heap[k]?:=fun k h1=>(g8.block k (by rw [hsA];omega) (fun e=>by have:=qpl e.symm;omega)).trans (BA.block k h1);have hHeld:=And.intro ((zH (hb8 N KX4.b5.lt)).trans hN3) ((zH (hb8 g lg)).trans cg);have hs8:w4.heap.size<=w8.heap.size:=by have:=g8.size;rw [hsA] at this;omega
  have hq8:∀ k,(Value.slice a8 (y.wL iw+1) c8).ownBlock=some k->w4.heap.size<=k:=fun k hk=>by
   rcases q8 with h | h
   ·rw [hk] at h
    have:=qpl h.symm;omega
   ·rw [hk,hsA] at h
    simp only [nG] at h;omega
  have hfg:w8.frozen? (aQ g iw)=false:=by
   rw [zI (hb8 g lg)];exact fg iw
  have SZ:Hid (SysT (w8.setCell (aQ g iw) (.slice a8 (y.wL iw+1) c8)) B w8.heap.size (y.setW iw (y.wL iw+1) (fun i=>if i=0 then ⟨true,0⟩ else y.wH iw (i - 1))) (sysV pa y.pn pc sa y.sn sc (some (aQ g 0)) y.wn wc ha y.hn hh)):=by
   have h:=OwnS.putW KX4.ow hiw (u':=.slice a8 (y.wL iw+1) c8) (m:=y.wL iw+1) (H':=fun i=>if i=0 then ⟨true,0⟩ else y.wH iw (i - 1)) (w1:=w8) (by have h1:B<=g:=Pg.1;omega) hs8 (fun k h1 _=>hb8 k h1) (by rw [qxd];exact o8) n8' (fun k hk=>.inr (hq8 k hk));have h2:=h.sysT;rw [World.size_setCell] at h2;exact h2
  have KZ:Hid (Cur (w8.setCell (aQ g iw) (.slice a8 (y.wL iw+1) c8)) W0 c a0 len cap/\w.grownBy (w8.setCell (aQ g iw) (.slice a8 (y.wL iw+1) c8)) (some c)/\Bx (w8.setCell (aQ g iw) (.slice a8 (y.wL iw+1) c8)) w.heap.size nS nS nS nS/\Bx (w8.setCell (aQ g iw) (.slice a8 (y.wL iw+1) c8)) N (.slice pa y.pn pc) (.slice sa y.sn sc) (sG g y.wn wc) (.slice ha y.hn hh)):=by
   have g0:w4.grownBy w8 none:=⟨g8.os.trans BA.os,g8.tape.trans BA.tape,g8.output.trans BA.output,hs8,fun k hk _=>hb8 k hk⟩
   have KX8:=KX4.bw (qcf g0);have hgg:w8.grownBy (w8.setCell (aQ g iw) (.slice a8 (y.wL iw+1) c8)) (some g):=zV (World.grownBy.refl _ _) (.inl rfl) _;have hA:=AP.out;have hW:=KX8.cu.ge;exact ⟨KX8.cu.kept hgg (fun e=>hA.1 (by simpa using e.symm)) (fun k hk=>by cases hk;omega),KX8.gr.andThen hgg (fun k hk=>by cases hk;exact .inl (by omega)),KX8.b4.set (by omega),KX8.b5.set (by omega)⟩
  refine hK.out _ _ (fun _=>hHeld) ?_;clear o8 g8 q8 n8 hb8 n8' hq8 hs8 hsA;clear hK K;refine qar 11 rfl hHeld ?_;refine yW 12 rfl fun K hK=>?_;have hcN:=hHeld.2;go_simp;refine hK.out _ _ (fun h=>?_) ?_
  ·exact absurd h (by decide)
  clear hK K
  (try simp only [Act.put,zD,zE,zF])
  refine yX ?_ _
  have SM:Hid (y.setW iw (y.wL iw+1) (fun i=>if i=0 then ⟨true,0⟩ else y.wH iw (i - 1))).Sm:=by
   have hm:=HO.sm;have hb:=HO.bds.2.2.1 iw hiw;refine ⟨hm.n,hm.p,hm.s,fun i hi=>?_,hm.h⟩;show (if i=iw then y.wL iw+1 else y.wL i)<=1000;by_cases ei:i=iw
   ·rw [nC ei];omega
   ·rw [nB ei];exact hm.w i hi
  have hTz:w8.heap.size<=(w8.setCell (aQ g iw) (.slice a8 (y.wL iw+1) c8)).heap.size:=by simp
  generalize w8.setCell (aQ g iw) (.slice a8 (y.wL iw+1) c8)=wz at *;obtain ⟨⟨r0,r1,r2,r3⟩,rf⟩:=KZ.2.2.1;obtain ⟨⟨b0,b1,b2,b3⟩,-⟩:=KZ.2.2.2;have hsz:=KX3.sz;have hW:=KX3.cu.ge;clear hHeld;go_wp2;obtain ⟨x,ev,ey,hX⟩:=SZ.x;refine bodyPost_ret (v:=(sysV pa y.pn pc sa y.sn sc (some ⟨g,0,none⟩) y.wn wc ha y.hn hh)) (by simp [results,results13,go_sem,r0,r1,r2,r3]) rfl ?_;rw [show (sysV pa y.pn pc sa y.sn sc (some (aQ g 0)) y.wn wc ha y.hn hh)=x.v from ev];exact DrwS.fin hX (by rw [ey];exact SM.out) KZ.1 KZ.2.1 (by omega) (by omega) (nA _) (by omega) (by omega) hTz _ _ _ _
 have t5:(jj == 5)=false:=by simpa using e5
 clear e0 e1 e2 e3 e4 e5 j0 j1;obtain ⟨⟨r0,r1,r2,r3⟩,rf⟩:=KC.2.1;obtain ⟨⟨b0,b1,b2,b3⟩,-⟩:=KC.2.2;go_upto_region 20 with fail
 go_wp2;obtain ⟨x,ev,ey,hX⟩:=KC.1.sy.x;refine bodyPost_ret (v:=(sysV pa y.pn pc sa y.sn sc wa y.wn wc ha y.hn hh)) (by simp [results,results13,go_sem,r0,r1,r2,r3]) rfl ?_;rw [show (sysV pa y.pn pc sa y.sn sc wa y.wn wc ha y.hn hh)=x.v from ev];exact DrwS.fin hX (by rw [ey];exact HO.sm) KC.1.cu KC.1.gr KC.1.lt HS.1 (nA _) (by omega) (by omega) (by have:=KC.2.2.lt;have:=HS.out;omega) _ _ _ _
theorem qqt (W0 c len cap:Nat) (a0:Option Addr) (w:World) (hc:Cur w W0 c a0 len cap):
  Calls prog 13 #[.pointer (some (aQ c 0)),.slice a0 len cap] w (DrwS w W0 c a0 len cap):=(qn7 W0 c len cap a0 w hc).mono fun _ _ ⟨x,B,T,h1,h2,h3,h4,h5,h6,h7⟩=>⟨x,B,T,h1,h2,h3,h4,h5,h6.1,h7⟩
open Go.ChangeShapes Go.WideShapes Go.ChangeAt
theorem OwnB.sl2 {w:World} {B n cap:Nat} {a0:Option Addr} {xs:List Int} (h:OwnB w B (.slice a0 n cap) xs):SlB w a0 xs:=by
 obtain ⟨a1,c1,e,s⟩:=h.form;simp only [Value.slice.injEq] at e;obtain ⟨rfl,-,-⟩:=e;exact s
theorem qn8 {rs:List Int} (h:allN rs=true) (k:Nat):numB (zi rs k)=true:=by
 by_cases hk:k<rs.length
 ·exact (List.all_eq_true.1 h) _ (qm2 hk)
 ·unfold zi
  rw [List.getD_eq_getElem?_getD,List.getElem?_eq_none (by omega)];decide
theorem qw5 {g:Nat->I5} {len:Nat} {p:Int} {rs os:List Int} {code k q v:Int} (h:doB g len p rs os code k q v=true):numB v=true:=by
 have hr:=qci h
 have hs:qc4 len p rs os code=true:=by
  simp only [qbj,nH] at hr;exact hr.1.2
 obtain ⟨⟨r0,r1,r2,r3,rfl,n0,n1,n2,n3⟩,-⟩:=qbq hs;have ha:allN [r0,r1,r2,r3]=true:=by simp [allN,n0,n1,n2,n3]
 unfold doB canB at h
 split at h
 ·simp only [nH] at h
  exact h.1.2
 ·simp only [nH,beq_iff_eq] at h
  rw [h.2.2.2,nxW,nC hr];unfold evW
  split
  ·exact qn8 ha _
  ·split
   ·exact qn8 ha _
   ·decide
theorem qwr {g:Nat->I5} {n:Nat} {eh:Nat->E3} {m k:Nat} {S:S4} (h:rp g n eh m=some S) (hk:k<m):numB (eh k).v=true:=by
 cases h0:rp g n eh k with
 | none=>
  have:=qed h0 (nJ hk);rw [this] at h;cases h
 | some T=>
  cases hd:doB g n T.p T.rs T.os T.c (eh k).k (eh k).q (eh k).v with
  | true=>exact qw5 hd
  | false=>
   have:=qed (qtj h0 hd) hk;rw [this] at h;cases h
theorem qvd {g:Nat->I5} {n:Nat} {eh:Nat->E3} {m k:Nat} {S:S4} (h:repO g n eh m=some S) (hk:k<=m):∃ T,repO g n eh k=some T:=by
 obtain ⟨h1,h2,h3⟩:=qbh h;unfold repO;rw [nC ⟨h1,by omega⟩];cases h0:rp g n eh k with
 | none=>
  rw [qed h0 hk] at h3;cases h3
 | some T=>exact ⟨T,rfl⟩
theorem qk4 (eh:Nat->E3) (kd pr:Int) (n:Nat):∀ k,∃ t,valL eh kd pr (n+k)=valL eh kd pr n ++ t
 | 0=>⟨[],by simp⟩
 | k+1=>by
  obtain ⟨t,h⟩:=qk4 eh kd pr n k
  rcases zK (hitB eh kd pr (n+k)) with e | e
  ·exact ⟨t ++ [(eh (n+k)).v],by rw [<- Nat.add_assoc,qk3 e,h,List.append_assoc]⟩
  ·exact ⟨t,by rw [<- Nat.add_assoc,qhy e,h]⟩
theorem qe1 (eh:Nat->E3) (kd pr:Int) (n:Nat):(valL eh kd pr n).length=cnt eh kd pr n:=by simp [valL,cnt]
theorem qvy {eh:Nat->E3} {kd pr:Int} {n:Nat} (h:∀ i,i<n->numB (eh i).v=true):allN (valL eh kd pr n)=true:=by
 rw [allN,List.all_eq_true];intro v hv;simp only [valL,List.mem_map] at hv;obtain ⟨i,hi,rfl⟩:=hv;obtain ⟨j,hj⟩:=List.mem_iff_getElem?.1 hi;exact h i (qkg eh kd pr n j i hj).1
theorem qpj (l:List Int):∀ n,n<=l.length->numL (itL l) n=l.take n
 | 0,_=>by simp [numL]
 | n+1,h=>by
  rw [qfy (by rfl),qpj l n (by omega),List.take_add_one,List.getElem?_eq_getElem (by omega)];simp [itL,zi,List.getD_eq_getElem?_getD,List.getElem?_eq_getElem (show n<l.length by omega)]
theorem qw3 {y:Sy} {d:Nat->Nat} (hO:y.Ok) (_hd:∀ p,p<y.pn->d p<=y.hL p) (hw:y.Wh d) {d':Nat->Nat} (h:y.hs.Put d'):(y.ah d).Put (fun p=>min (d' p) (d p)):=by
 induction h with
 | start=>
  have e:(fun p=>min 0 (d p))=fun _=>0:=funext fun p=>by omega
  show (y.ah d).Put (fun p=>min 0 (d p));rw [e];exact .start
 | @next d' p hput hp hc ih=>
  have hp':p<y.pn:=hp;by_cases hlt:d' p<d p
  ·have e:(fun i=>min (up d' p i) (d i))=up (fun i=>min (d' i) (d i)) p:=funext fun i=>by
    by_cases ei:i=p
    ·subst ei
     rw [qc1,qc1];omega
    ·rw [up_other ei,up_other ei]
   rw [e];have em:min (d' p) (d p)=d' p:=by omega
   refine .next ih hp ⟨by show min (d' p) (d p)<d p;omega,fun hk=>?_⟩;have hk:(y.hH p (min (d' p) (d p))).k=3:=hk;show cnt (y.hH p) 3 (y.hH p (min (d' p) (d p))).q (min (d' p) (d p))<cnt (y.hH (y.hH p (min (d' p) (d p))).q.toNat) 2 p (min (d' (y.hH p (min (d' p) (d p))).q.toNat) (d (y.hH p (min (d' p) (d p))).q.toNat));rw [em] at hk ⊢;have h1:d' p<y.hL p:=hc.1;have hq:=hO.evq hp' h1;have h2:cnt (y.hH p) 3 (y.hH p (d' p)).q (d' p)<cnt (y.hH (y.hH p (d' p)).q.toNat) 2 p (d' (y.hH p (d' p)).q.toNat):=hc.2 hk;have h3:=hw (y.hH p (d' p)).q.toNat (by omega) p hp';unfold tN sN at h3;rw [show (((y.hH p (d' p)).q.toNat:Nat):Int)=(y.hH p (d' p)).q by omega] at h3;have hh:hitB (y.hH p) 3 (y.hH p (d' p)).q (d' p)=true:=qds.2 ⟨hk,rfl⟩;have h4:=qhq (y.hH p) 3 (y.hH p (d' p)).q (show d' p+1<=d p from hlt);rw [qh9 hh] at h4
   rcases Nat.le_total (d' (y.hH p (d' p)).q.toNat) (d (y.hH p (d' p)).q.toNat) with h5 | h5
   ·rw [Nat.min_eq_left h5]
    exact h2
   ·rw [Nat.min_eq_right h5]
    omega
  ·have e:(fun i=>min (up d' p i) (d i))=fun i=>min (d' i) (d i):=funext fun i=>by
    by_cases ei:i=p
    ·subst ei
     rw [qc1];omega
    ·rw [up_other ei]
   rw [e];exact ih
theorem Sy.Ok.wayOf {y:Sy} (h:y.Ok) {a b:Nat} (ha:a<y.pn) (hb:b<y.pn):cnt (y.hH b) 3 a (y.hL b)+(numL (y.wH (a*y.pn+b)) (y.wL (a*y.pn+b))).length=cnt (y.hH a) 2 b (y.hL a):=by
 have e:=congrArg List.length (h.wa a ha b hb).eq;rw [List.length_append,qe1,qe1] at e;exact e
theorem Sy.Ok.whole {y:Sy} (h:y.Ok):y.Wh y.hL:=fun a ha b hb=>by
 have:=h.wayOf ha hb;unfold tN sN;omega
theorem Sy.Ok.full_wf {y:Sy} (h:y.Ok) {d:Nat->Nat} (hd:∀ p,p<y.pn->d p=y.hL p):wfB (y.ah d)=true:=by
 refine qa5 fun a ha b hb=>?_;have ha:a<y.pn:=ha;have hb:b<y.pn:=hb;have e:=h.wayOf ha hb;have l:=qfg (y.wH (a*y.pn+b)) (y.wL (a*y.pn+b));have l2:=(h.wa a ha b hb).le;show ((valL (y.hH a) 2 b (d a)).drop (cnt (y.hH b) 3 a (d b))).length<=12;rw [List.length_drop,qe1,hd a ha,hd b hb];omega
theorem Sy.Ok.atOk {y:Sy} {d:Nat->Nat} (h:y.Ok) (hd:∀ p,p<y.pn->d p<=y.hL p) (hw:y.Wh d) (hf:wfB (y.ah d)=true):(y.atY d).Ok:=by
 have hrp:∀ p,p<y.pn->∃ T,repO (y.pH p) (y.pL p) (y.hH p) (d p)=some T:=fun p hp=>qvd (h.rp p hp) (hd p hp);refine ⟨⟨h.cn.1,rfl,rfl,rfl⟩,h.pr,fun p hp=>?_,fun p hp i hi=>h.pe p hp i (zL hi (hd p hp)),fun a ha b hb=>?_,?_⟩
 ·obtain ⟨T,hT⟩:=hrp p hp
  show repO (y.pH p) (y.pL p) (y.hH p) (d p)=some (resS (repO (y.pH p) (y.pL p) (y.hH p) (d p)));rw [hT];rfl
 ·have ha:a<y.pn:=ha
  have hb:b<y.pn:=hb;obtain ⟨e1,e2⟩:=que (a:=a) hb;have hl:(wyL (y.ah d) a b).length<=12:=qim.1 hf a ha b hb;have hnum:allN (valL (y.hH a) 2 b (d a))=true:=qvy fun i hi=>qwr (qbh (h.rp a ha)).2.2 (zL hi (hd a ha));show WayP (itL (wyL (y.ah d) ((a*y.pn+b) / y.pn) ((a*y.pn+b) % y.pn))) (wyL (y.ah d) ((a*y.pn+b) / y.pn) ((a*y.pn+b) % y.pn)).length (valL (y.hH b) 3 a (d b)) (valL (y.hH a) 2 b (d a));rw [e1,e2];refine ⟨fun j _=>?_,hl,?_⟩
  ·have hv:numB (zi (wyL (y.ah d) a b) j)=true:=by
    show numB (zi ((valL (y.hH a) 2 b (d a)).drop (cnt (y.hH b) 3 a (d b))) j)=true;rw [qow];exact qn8 hnum _
   simp [qb7,itL,hv]
  ·rw [qpj _ _ (nA _),List.take_length]
   show valL (y.hH b) 3 a (d b) ++ (valL (y.hH a) 2 b (d a)).drop (cnt (y.hH b) 3 a (d b))=valL (y.hH a) 2 b (d a);obtain ⟨t1,h1⟩:=qk4 (y.hH b) 3 a (d b) (y.hL b - d b);obtain ⟨t2,h2⟩:=qk4 (y.hH a) 2 b (d a) (y.hL a - d a);rw [show d b+(y.hL b - d b)=y.hL b by have:=hd b hb;omega] at h1;rw [show d a+(y.hL a - d a)=y.hL a by have:=hd a ha;omega] at h2;have e:=(h.wa a ha b hb).eq;rw [h1,h2] at e
   have hle:(valL (y.hH b) 3 a (d b)).length<=(valL (y.hH a) 2 b (d a)).length:=by
    rw [qe1,qe1];exact hw a ha b hb
   have e3:valL (y.hH b) 3 a (d b)=(valL (y.hH a) 2 b (d a)).take (valL (y.hH b) 3 a (d b)).length:=by
    have e4:=congrArg (List.take (valL (y.hH b) 3 a (d b)).length) e;rw [List.append_assoc,List.take_left,List.take_append_of_le_length hle] at e4;exact e4
   rw [<- qe1 (y.hH b) 3 a (d b)]
   conv=>lhs;lhs;rw [e3]
   exact List.take_append_drop _ _
 ·obtain ⟨dA,hA,hall⟩:=h.ro
  refine ⟨_,qw3 h hd hw hA,fun p hp=>?_⟩;have:=hall p hp;have h1:dA p=y.hL p:=this;have h2:=hd p hp;show min (dA p) (d p)=d p;omega
theorem Sy.Wh.congr {y:Sy} {c d:Nat->Nat} (h:y.Wh c) (e:∀ p,p<y.pn->d p=c p):y.Wh d:=fun a ha b hb=>by
 have:=h a ha b hb;unfold tN sN at *;rw [e a ha,e b hb];exact this
theorem EvAt.put {w:World} {g n:Nat} {E:Nat->E3} (h:EvAt w g 0 n E) (t:Nat) (z:Int):∃ E',EvAt (w.setCell (aQ g t) (iV z)) g 0 n E':=by
 have key:∀ (o:Nat) (x:Int),w.cell? ⟨g,o,none⟩=some (iV x)->(w.setCell ⟨g,t,none⟩ (iV z)).cell? ⟨g,o,none⟩=some (iV (if o=t then z else x)):=by
  intro o x hx;by_cases e:o=t
  ·subst e
   rw [nC rfl];exact World.cell?_setCell_same _ _ _ hx
  ·rw [nB e]
   exact (World.cell?_setCell_other _ _ _ _ fun e'=>e (by injection e' with _ e2;exact e2.symm)).trans hx
 refine ⟨fun i=>⟨if 0+i*3=t then z else (E i).k,if 0+i*3+1=t then z else (E i).q,if 0+i*3+2=t then z else (E i).v⟩,fun i hi=>?_⟩;obtain ⟨h0,h1,h2⟩:=h i hi;exact ⟨key _ _ h0,key _ _ h1,key _ _ h2⟩
def qhi (E:Nat->E3):Nat->List Value
 | 0=>[]
 | n+1=>qhi E n ++ [.int .i64 (E n).k,.int .i64 (E n).q,.int .i64 (E n).v]
theorem qd1 (E:Nat->E3):∀ n,(qhi E n).length=n*3
 | 0=>rfl
 | n+1=>by
  rw [qhi,List.length_append,qd1 E n];simp;omega
theorem qo6 (E:Nat->E3):∀ n i,i<n->(qhi E n)[i*3]? = some (iV (E i).k)/\(qhi E n)[i*3+1]? = some (iV (E i).q)/\(qhi E n)[i*3+2]? = some (iV (E i).v)
 | 0,i,hi=>by omega
 | n+1,i,hi=>by
  have hl:=qd1 E n;by_cases e:i=n
  ·subst e
   rw [qhi,List.getElem?_append_right (by omega),List.getElem?_append_right (by omega),List.getElem?_append_right (by omega),hl];simp
  ·obtain ⟨h0,h1,h2⟩:=qo6 E n i (by omega)
   rw [qhi,List.getElem?_append_left (by omega),List.getElem?_append_left (by omega),List.getElem?_append_left (by omega)];exact ⟨h0,h1,h2⟩
theorem EvAt.cut {w:World} {g k j:Nat} {E:Nat->E3} (h:EvAt w g 0 k E) (hj:j<k):EvAt (w.setCells g (j*3) (qhi (fun i=>E (j+1+i)) (k - (j+1)))) g 0 (j+(k - (j+1))) (fun i=>if i<j then E i else E (i+1)):=by
 intro i hi;have hl:=qd1 (fun i=>E (j+1+i)) (k - (j+1));by_cases e:i<j
 ·have hout:∀ t,t<j*3->(w.setCells g (j*3) (qhi (fun i=>E (j+1+i)) (k - (j+1)))).cell? ⟨g,t,none⟩=w.cell? ⟨g,t,none⟩:=fun t ht=>World.cell?_setCells_out g _ _ _ _ fun _ _=>.inl ht
  obtain ⟨h0,h1,h2⟩:=h i (by omega);simp only [nC e];exact ⟨(hout _ (by omega)).trans h0,(hout _ (by omega)).trans h1,(hout _ (by omega)).trans h2⟩
 ·simp only [nB e]
  have hall:∀ t,t<(qhi (fun i=>E (j+1+i)) (k - (j+1))).length->(w.cell? ⟨g,j*3+t,none⟩).isSome=true:=by
   intro t ht;rw [hl] at ht;obtain ⟨h0,h1,h2⟩:=h (j+t / 3) (by omega);have he:t=t / 3*3\/t=t / 3*3+1\/t=t / 3*3+2:=by omega
   rcases he with e | e | e
   ·rw [show j*3+t=0+(j+t / 3)*3 from by omega,h0];rfl
   ·rw [show j*3+t=0+(j+t / 3)*3+1 from by omega,h1];rfl
   ·rw [show j*3+t=0+(j+t / 3)*3+2 from by omega,h2];rfl
  have hin:=fun t ht=>World.cell?_setCells_in g (qhi (fun i=>E (j+1+i)) (k - (j+1))) (j*3) w hall t ht;obtain ⟨f0,f1,f2⟩:=qo6 (fun i=>E (j+1+i)) (k - (j+1)) (i - j) (by omega);have hE:E (j+1+(i - j))=E (i+1):=by rw [show j+1+(i - j)=i+1 from by omega]
  rw [hE] at f0 f1 f2;refine ⟨?_,?_,?_⟩
  ·rw [show 0+i*3=j*3+(i - j)*3 from by omega,hin _ (by omega),<- f0,List.getElem?_eq_getElem (by omega)]
  ·rw [show 0+i*3+1=j*3+((i - j)*3+1) from by omega,hin _ (by omega),<- f1,List.getElem?_eq_getElem (by omega)]
  ·rw [show 0+i*3+2=j*3+((i - j)*3+2) from by omega,hin _ (by omega),<- f2,List.getElem?_eq_getElem (by omega)]
open Go.Sort
theorem qf8 (a0 a1:Option Addr) (c0 c1:Nat) (xs:List Int) (w:World) (hlen:xs.length<=1048576) (h0:Sl w a0 xs) (h1:Sl w a1 xs):
  Calls prog 64 #[.slice a0 xs.length c0,.slice a1 xs.length c1] w (rB w (.bool true)):=by
 have hl':(xs.length:Int)<=1048576:=by omega
 have H0:Hid (Sl w a0 xs):=h0;have H1:Hid (Sl w a1 xs):=h1;clear h0 h1
 go_enter func64,ntmps64
 go_wp2_with fail
 go_loopw [5] (fun i wr=>∃ k:Nat,k<=xs.length/\i=.int .i64 k/\Bw w wr) (fun i _=>xs.length - (intOf i).toNat)
 case atStart=>exact ⟨0,nD _,rfl,nE _ _⟩
 case round=>
  obtain ⟨k,hk,rfl,hbw⟩:=hrel;by_cases hlt:k<xs.length
  ·obtain ⟨b,off,rfl,hbl,ck⟩:=(H0.bw hbw).at hlt
   obtain ⟨b',off',rfl,hbl',ck'⟩:=(H1.bw hbw).at hlt;have hlt':(k:Int)<(xs.length:Int):=by omega
   go_wp2_with fail
   go_quiet (fail)
   go_wp2;go_roundw
   case rel=>exact ⟨k+1,by omega,by go_num,yC hbw _⟩
   case measure=>simp [intOf];omega
  ·go_wp2
   go_ret;exact ⟨rfl,hbw⟩
theorem qrp (a0:Option Addr) (len cap:Nat) (w:World):
  Calls prog 4 #[.slice a0 len cap] w fun e w'=>e=.returned (.bool (decide ((1048576:Int)<len)))/\w'=w:=by
 go_enter func4,ntmps4
 go_wp2;go_ret;exact ⟨rfl,rfl⟩
theorem qqy {H:Type} {enc:TypeId × Value->H} {w:World} {a0:Option Addr} {len cap:Nat} {d:DataW H} {p:List MemPlace}
  (h:DataW.Trod enc prog w 0 (fun _=>true) true 22 (.slice a0 len cap) d p):len<=maxLen/\qb0 w w.heap.size a0 len:=by
 obtain ⟨fuel,hf⟩:=h
 rcases open_ints Tryz.underlying22 Tryz.underlying5 (by kernel_rfl) hf with ⟨hcs,_⟩ | ⟨x,l,c,zs,hcs,_,hl,hm,hz,_,hcell,hwz⟩
 ·simp [Value.cells] at hcs
  obtain ⟨_,rfl,_⟩:=hcs;exact ⟨nD _,.inl rfl⟩
 ·simp [Value.cells] at hcs
  obtain ⟨rfl,rfl,rfl⟩:=hcs;refine ⟨zP hl hm,?_⟩;by_cases h0:len=0
  ·exact .inl h0
  right;have hz':zs.length=cap:=by simpa using hz
  obtain ⟨b,off,rfl,hc⟩:=ints_at hcell (by omega);refine ⟨b,off,rfl,qw2 (hc 0 (by omega)),fun j hj=>⟨zs.getD j 0,hc j (by omega),?_⟩⟩
  have hmem:zs.getD j 0 ∈ zs:=by
   rw [List.getD_eq_getElem?_getD,List.getElem?_eq_getElem (by omega)];exact List.getElem_mem _
  exact bounds_u8 (hwz _ hmem)
theorem qi0 (p code:Int) (ra oa ra' oa':Option Addr) (rc oc rc' oc':Nat) (rs os:List Int) (w:World) (hr:rs.length<=1048576) (ho:os.length<=1048576) (h1:Sl w ra rs) (h2:Sl w oa os) (h1':Sl w ra' rs) (h2':Sl w oa' os):
  Calls prog 29 #[stV p ra rs.length rc oa os.length oc code,stV p ra' rs.length rc' oa' os.length oc' code] w (rB w (.bool true)):=by
 have H1:Hid (Sl w ra rs):=h1;have H2:Hid (Sl w oa os):=h2;have H1':Hid (Sl w ra' rs):=h1';have H2':Hid (Sl w oa' os):=h2';clear h1 h2 h1' h2'
 go_enter func29,ntmps29
 go_wp2_with fail
 refine (qf8 ra ra' rc rc' rs _ hr (H1.bw (by go_grown)) (H1'.bw (by go_grown))).mono ?_;rintro e w1 ⟨rfl,b1⟩;have B1:Hid (Bw w w1):=qah (by go_grown) b1 (by simp;omega);obtain ⟨hc1,hf1⟩:=qal b1;have l0:w.heap.size<w.heap.size+1+1:=by omega
 have l1:w.heap.size+1<w.heap.size+1+1:=by omega
 have k0:w1.cell? (aQ w.heap.size 2)=some (.slice oa os.length oc):=(hc1 w.heap.size 2 (by simp;omega)).trans ((zS _ _ (by simp)).trans (zW _ _ _ 2 rfl));have k1:w1.cell? ⟨w.heap.size+1,2,none⟩=some (.slice oa' os.length oc'):=(hc1 (w.heap.size+1) 2 (by simp)).trans (qao _ _ _ 2 (by simp));clear b1 hc1 hf1;go_wp2_with fail
 refine (qf8 oa oa' oc oc' os _ ho (H2.bw B1.out) (H2'.bw B1.out)).mono ?_;rintro e w2 ⟨rfl,b2⟩;have B2:Hid (Bw w w2):=B1.trans (b2.mono B1.size);clear b2;go_wp2;go_ret;exact ⟨rfl,B2.out⟩
