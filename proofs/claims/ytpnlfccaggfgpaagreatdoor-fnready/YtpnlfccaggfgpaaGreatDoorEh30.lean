import Derived.Test.YtpnlfccaggfgpaaGreatDoorEh0
import Derived.Test.YtpnlfccaggfgpaaGreatDoorEh29
import Derived.Test.YtpnlfccaggfgpaaGreatDoorEh14
import Derived.Deep.RegionLaw
namespace Go.Proofs.YtpnlfccaggfgpaaGreatDoor
set_option maxRecDepth 100000
set_option maxHeartbeats 16000000
open Go.RowKit Go.Deep
def DrwSB (w:World) (W0 c:Nat) (a0:Option Addr) (len cap:Nat) (e:Ending) (w':World):Prop:=∃ (x:SysIn) (B T:Nat),e=.returned x.v/\x.y.Sm/\SysX w' B T x/\Cur w' W0 c a0 len cap/\w.grownBy w' (some c)/\(c<B/\w.heap.size<=B)/\T<=w'.heap.size
theorem DrwS.fin {w wz:World} {W0 c len cap N B T:Nat} {a0:Option Addr} {x:SysIn} (hX:SysX wz B T x) (hs:x.y.Sm) (hc:Cur wz W0 c a0 len cap) (hg:w.grownBy wz (some c)) (hcB:c<B) (hN:N<B) (hNw:w.heap.size<=N) (hcN:c≠N) (hW:W0<=N) (hT:T<=wz.heap.size) (u0 u1 u2 u3:Value):DrwSB w W0 c a0 len cap (.returned x.v) ((((wz.setCell ⟨N,0,none⟩ u0).setCell ⟨N,1,none⟩ u1).setCell ⟨N,2,none⟩ u2).setCell ⟨N,3,none⟩ u3):=by
 have h1:∀ (wx:World) (j:Nat) (u:Value),SysX wx B T x/\Cur wx W0 c a0 len cap/\w.grownBy wx (some c)/\T<=wx.heap.size->SysX (wx.setCell ⟨N,j,none⟩ u) B T x/\Cur (wx.setCell ⟨N,j,none⟩ u) W0 c a0 len cap/\w.grownBy (wx.setCell ⟨N,j,none⟩ u) (some c)/\T<=(wx.setCell ⟨N,j,none⟩ u).heap.size:=fun wx j u ⟨a,b,d,e⟩=>by
  have hgg:wx.grownBy (wx.setCell ⟨N,j,none⟩ u) (some N):=zV (World.grownBy.refl _ _) (.inl rfl) u
  exact ⟨a.keep (by simp) fun b hb _ hl=>hgg.block b hl (by simp;omega),b.kept hgg (fun e=>hcN (by simpa using e)) (fun k hk=>by cases hk;exact hW),d.andThen hgg (fun k hk=>by cases hk;exact .inl hNw),by simpa using e⟩
 obtain ⟨a,b,d,e⟩:=h1 _ 3 u3 (h1 _ 2 u2 (h1 _ 1 u1 (h1 _ 0 u0 ⟨hX,hc,hg,hT⟩)))
 exact ⟨x,B,T,rfl,hs,a,b,d,⟨hcB,by omega⟩,e⟩
theorem sysV_inj {pa sa wa ha:Option Addr} {pn pc sn sc wn wc hn hc:Nat} {vp vs vw vh:Value} (h:sysV pa pn pc sa sn sc wa wn wc ha hn hc=.agg #[vp,vs,vw,vh]):vp=.slice pa pn pc/\vs=.slice sa sn sc/\vw=.slice wa wn wc/\vh=.slice ha hn hc:=by
 simp only [sysV,Value.agg.injEq,Array.mk.injEq,List.cons.injEq,and_true] at h
 exact ⟨h.1.symm,h.2.1.symm,h.2.2.1.symm,h.2.2.2.symm⟩
structure KX (w wr:World) (W0 c:Nat) (a0:Option Addr) (len cap N B T:Nat) (col:Nat->Nat) (y:Sy) (vp vs vw vh:Value) (up us uw uh:Nat->Value):Prop where
 cu:Cur wr W0 c a0 len cap
 gr:w.grownBy wr (some c)
 ow:OwnS false wr B col y vp vs vw vh up us uw uh
 b4:Bx wr w.heap.size (.slice none 0 0) (.slice none 0 0) (.slice none 0 0) (.slice none 0 0)
 b5:Bx wr N vp vs vw vh
 tp:∀ b,T<=b->col b=0
 sz:c<w.heap.size/\w.heap.size<B/\T<=N/\w.heap.size<N
section
variable {w wr w':World} {W0 c len cap N B T:Nat} {a0:Option Addr} {col:Nat->Nat} {y:Sy} {vp vs vw vh:Value} {up us uw uh:Nat->Value}
theorem OwnS.kept {z:Bool} (o:OwnS z wr B col y vp vs vw vh up us uw uh) (h:∀ k,B<=k->k<wr.heap.size->w'.heap[k]? = wr.heap[k]?):OwnS z w' B col y vp vs vw vh up us uw uh:=
 ⟨o.p.keep fun k hk hl=>h k hk.1 hl,o.s.keep fun k hk hl=>h k hk.1 hl,o.t.keep fun k hk hl=>h k hk.1 hl,o.h.keep fun k hk hl=>h k hk.1 hl⟩
theorem KX.draw (h:KX w wr W0 c a0 len cap N B T col y vp vs vw vh up us uw uh) (hc:Cur w' W0 c a0 len cap) (hg:wr.grownBy w' (some c)):KX w w' W0 c a0 len cap N B T col y vp vs vw vh up us uw uh:=
 ⟨hc,h.gr.trans hg,h.ow.kept fun k hk hl=>hg.block k hl (by have:=h.sz;simp;omega),h.b4.grown hg (by have:=h.sz;simp;omega),h.b5.grown hg (by have:=h.sz;simp;omega),h.tp,h.sz⟩
theorem KX.below (h:KX w wr W0 c a0 len cap N B T col y vp vs vw vh up us uw uh) (hb:Below wr.heap.size wr w'):KX w w' W0 c a0 len cap N B T col y vp vs vw vh up us uw uh:=
 ⟨h.cu.kept (zZ hb) (by simp) (fun k hk=>by cases hk),h.gr.andThen (zZ hb) (fun j hj=>by cases hj),h.ow.below hb,h.b4.below hb,h.b5.below hb,h.tp,h.sz⟩
theorem KX.apart (h:KX w wr W0 c a0 len cap N B T col y vp vs vw vh up us uw uh) {i g:Nat} (hi:i≠0) (hg:Cl B col i g):g≠c/\g≠w.heap.size/\g≠N/\w.heap.size<g:=by
 have h1:B<=g:=hg.1
 have h2:col g=i:=hg.2
 have h3:g<T:=by
  apply Classical.byContradiction
  intro hn
  have:=h.tp g (by omega)
  omega
 have:=h.sz
 omega
end
theorem l6Draw_anyB (W0 c len cap:Nat) (a0:Option Addr) (w:World) (hc:Cur w W0 c a0 len cap):
  Calls Tryz.prog 15 #[.pointer (some ⟨c,0,none⟩),.slice a0 len cap] w (DrwSB w W0 c a0 len cap):=by
 have hcl:c<w.heap.size:=hc.lt
 have hcg:W0<=c:=hc.ge
 have C0:Hid (Cur (w.alloc (zQ3)) W0 c a0 len cap/\w.grownBy (w.alloc (zQ3)) (some c)/\Bx (w.alloc (zQ3)) w.heap.size (.slice none 0 0) (.slice none 0 0) (.slice none 0 0) (.slice none 0 0)/\(w.alloc (zQ3)).heap.size=w.heap.size+1):=⟨hc.alloc _,World.grownBy_alloc _ _ _,Bx.new w _ _ _ _ _,by simp⟩
 clear hc
 go_enter Tryz.func15,Tryz.ntmps15
 go_wp2_with fail
 generalize w.alloc (zQ3)=W2 at *
 refine (l6DrawRight_any W0 c len cap a0 W2 C0.out.1).mono ?_
 rintro e w1 ⟨B,T,y,pa,sa,wa,ha,pc,sc,wc,hh,rfl,gd,dk,hB,hT⟩
 have KA:Hid (DK w (w1.alloc (oQ4 pa y.pn pc sa y.sn sc wa y.wn wc ha y.hn hh)) W0 c a0 len cap B T y (sysV pa y.pn pc sa y.sn sc wa y.wn wc ha y.hn hh)/\Bx (w1.alloc (oQ4 pa y.pn pc sa y.sn sc wa y.wn wc ha y.hn hh)) w.heap.size (.slice none 0 0) (.slice none 0 0) (.slice none 0 0) (.slice none 0 0)/\Bx (w1.alloc (oQ4 pa y.pn pc sa y.sn sc wa y.wn wc ha y.hn hh)) w1.heap.size (.slice pa y.pn pc) (.slice sa y.sn sc) (.slice wa y.wn wc) (.slice ha y.hn hh)):=⟨DK.alloc ⟨dk.cu,dk.sy,C0.out.2.1.trans dk.gr,dk.lt⟩ _,(C0.out.2.2.1.grown dk.gr (by simp;omega)).below (zQ _ _),Bx.new _ _ _ _ _ _⟩
 have HS:Hid (w.heap.size<B/\T<=w1.heap.size/\w.heap.size<w1.heap.size):=⟨by have:=C0.out.2.2.2;omega,hT,by have:=C0.out.2.2.2;have:=dk.gr.size;omega⟩
 have HG:Hid y.Good:=gd
 have hpn:y.pn<=16:=gd.sm.n.1
 have hpn':(y.pn:Int)<=16:=by omega
 clear gd dk hB hT C0
 go_wp2_with fail
 generalize w1.alloc (oQ4 pa y.pn pc sa y.sn sc wa y.wn wc ha y.hn hh)=wA at *
 generalize w1.heap.size=N at *
 refine (l1Max_any _ _ _).mono ?_
 rintro e wB ⟨n,rfl,⟨n1,n2,n3⟩,rfl⟩
 go_wp2_with fail
 refine (zY W0 c len cap a0 n wB KA.out.1.cu n2 (by omega)).mono ?_
 rintro e w2 ⟨pp,rfl,⟨p0,p1⟩,hc2,hg2⟩
 have KB:Hid (DK w w2 W0 c a0 len cap B T y (sysV pa y.pn pc sa y.sn sc wa y.wn wc ha y.hn hh)/\Bx w2 w.heap.size (.slice none 0 0) (.slice none 0 0) (.slice none 0 0) (.slice none 0 0)/\Bx w2 N (.slice pa y.pn pc) (.slice sa y.sn sc) (.slice wa y.wn wc) (.slice ha y.hn hh)):=⟨KA.out.1.draw hc2 hg2,KA.out.2.1.grown hg2 (by simp;omega),KA.out.2.2.grown hg2 (by have:=HS.out;simp;omega)⟩
 clear hc2 hg2 KA
 obtain ⟨p,rfl⟩:∃ p:Nat,pp=p:=⟨pp.toNat,by omega⟩
 have hNN:w.heap.size≠N:=by have:=HS.out;omega
 by_cases h0:y.pn=0
 ·have h0':((y.pn:Int) == 0)=true:=by simp [h0]
  clear h0
  obtain ⟨⟨r0,r1,r2,r3⟩,rf⟩:=KB.out.2.1
  obtain ⟨⟨b0,b1,b2,b3⟩,-⟩:=KB.out.2.2
  go_wp2
  obtain ⟨x,ev,ey,hX⟩:=KB.out.1.sy.x
  refine bodyPost_ret (v:=(sysV pa y.pn pc sa y.sn sc wa y.wn wc ha y.hn hh)) (by simp [results,Tryz.results15,go_sem,r0,r1,r2,r3]) rfl ?_
  rw [ev]
  exact DrwS.fin hX (by rw [ey];exact HG.out.sm) KB.out.1.cu KB.out.1.gr KB.out.1.lt HS.out.1 (Nat.le_refl _) (by omega) (by omega) (by have:=KB.out.2.2.lt;have:=HS.out;omega) _ _ _ _
 have h0':((y.pn:Int) == 0)=false:=by
  have:¬ (y.pn:Int)=0:=by omega
  simpa using this
 have HO:Hid y.Ok:=HG.out.elim id fun h=>absurd h.1 h0
 have hpp:p<y.pn:=by omega
 obtain ⟨b0,-,-,-⟩:=KB.out.2.2.bx
 go_wp2_with fail
 clear b0
 refine (zY W0 c len cap a0 25 w2 KB.out.1.cu (by omega) (by omega)).mono ?_
 rintro e w3 ⟨jj,rfl,⟨j0,j1⟩,hc3,hg3⟩
 have KC:Hid (DK w w3 W0 c a0 len cap B T y (sysV pa y.pn pc sa y.sn sc wa y.wn wc ha y.hn hh)/\Bx w3 w.heap.size (.slice none 0 0) (.slice none 0 0) (.slice none 0 0) (.slice none 0 0)/\Bx w3 N (.slice pa y.pn pc) (.slice sa y.sn sc) (.slice wa y.wn wc) (.slice ha y.hn hh)):=⟨KB.out.1.draw hc3 hg3,KB.out.2.1.grown hg3 (by simp;omega),KB.out.2.2.grown hg3 (by have:=HS.out;simp;omega)⟩
 clear hc3 hg3 KB HG
 by_cases e0:jj=0
 ·subst e0
  obtain ⟨col,vp,vs,vw,vh,up,us,uw,uh,ev,o,ht⟩:=KC.out.1.sy
  obtain ⟨rfl,rfl,rfl,rfl⟩:=sysV_inj ev
  have hsn:y.sn=y.pn:=HO.out.cn.2.1
  have hps:p<y.sn:=by omega
  have hps':(p:Int)<(y.sn:Int):=by omega
  clear hsn
  obtain ⟨g,cg,rb,rn,rc,oa,oc,eg,cr,-,-,-,cz,fz,Pg,Pr,lr,lg,ls⟩:=o.s.reg hps (HO.out.st (p:=p) hpp).len.1 5
  simp only [Value.slice.injEq] at eg
  obtain ⟨rfl,-,rfl⟩:=eg
  have hrT:rb<T:=by
   apply Classical.byContradiction
   intro hn
   have h1:=ht rb (by omega)
   have h2:col rb=2:=Pr.2
   omega
  have hrN:N≠rb:=by have:=HS.out;omega
  have hrM:w.heap.size≠rb:=by have h1:B<=rb:=Pr.1;have:=HS.out;omega
  have hrc:c≠rb:=by have h1:B<=rb:=Pr.1;have:=HS.out;omega
  obtain ⟨⟨r0,r1,r2,r3⟩,rf⟩:=(KC.out.2.1.set (j:=1) (u:=.int .i64 5) hrM)
  obtain ⟨⟨b0,b1,b2,b3⟩,-⟩:=(KC.out.2.2.set (j:=1) (u:=.int .i64 5) hrN)
  obtain ⟨⟨e0,e1,e2,e3⟩,-⟩:=KC.out.2.2
  have SZ:Hid (SysT (w3.setCell ⟨rb,1,none⟩ (.int .i64 5)) B T (y.setS p ⟨(y.sS p).p,(y.sS p).rs.set 1 5,(y.sS p).os,(y.sS p).c⟩) (sysV pa y.pn pc (some ⟨g,0,none⟩) y.sn sc wa y.wn wc ha y.hn hh)):=by
   have hk:∀ q,q≠2->∀ k,Cl B col q k->k<w3.heap.size->(w3.setCell ⟨rb,1,none⟩ (.int .i64 5)).heap[k]? = w3.heap[k]?:=fun q hq k hk _=>zO _ _ _ _ fun e=>hq (by rw [<- hk.2,show k=rb from e];exact Pr.2)
   exact ⟨col,_,_,_,_,up,us,uw,uh,rfl,⟨o.p.keep (hk 1 (by decide)),ls,o.t.keep (hk 3 (by decide)),o.h.keep (hk 4 (by decide))⟩,ht⟩
  have SM:Hid (y.setS p ⟨(y.sS p).p,(y.sS p).rs.set 1 5,(y.sS p).os,(y.sS p).c⟩).Sm:=by
   have hm:=HO.out.sm
   refine ⟨hm.n,hm.p,fun i hi=>?_,hm.w,hm.h⟩
   show ((if i=p then _ else y.sS i:S4)).rs.length<=1000/\((if i=p then _ else y.sS i:S4)).os.length<=1000
   by_cases ei:i=p
   ·subst ei
    simp only [if_true,List.length_set]
    exact hm.s i hi
   ·rw [if_neg ei]
    exact hm.s i hi
  have KZ:Hid (Cur (w3.setCell ⟨rb,1,none⟩ (.int .i64 5)) W0 c a0 len cap/\w.grownBy (w3.setCell ⟨rb,1,none⟩ (.int .i64 5)) (some c)):=by
   have hgg:w3.grownBy (w3.setCell ⟨rb,1,none⟩ (.int .i64 5)) (some rb):=zV (World.grownBy.refl _ _) (.inl rfl) _
   have h1:B<=rb:=Pr.1
   have:=HS.out
   exact ⟨KC.out.1.cu.kept hgg (fun e=>hrc (by simpa using e)) (fun k hk=>by cases hk;omega),KC.out.1.gr.andThen hgg (fun k hk=>by cases hk;exact .inl (by omega))⟩
  clear o ht ls ev
  go_upto_region 20 with fail
  clear e0 e1 e2 e3 cr cz fz
  generalize w3.setCell ⟨rb,1,none⟩ (.int .i64 5)=wz at *
  go_wp2
  obtain ⟨x,ev,ey,hX⟩:=SZ.out.x
  refine bodyPost_ret (v:=(sysV pa y.pn pc (some ⟨g,0,none⟩) y.sn sc wa y.wn wc ha y.hn hh)) (by simp [results,Tryz.results15,go_sem,r0,r1,r2,r3]) rfl ?_
  rw [show (sysV pa y.pn pc (some ⟨g,0,none⟩) y.sn sc wa y.wn wc ha y.hn hh)=x.v from ev]
  exact DrwS.fin hX (by rw [ey];exact SM.out) KZ.out.1 KZ.out.2 KC.out.1.lt HS.out.1 (Nat.le_refl _) (by omega) (by omega) (by have:=zJ wz _ b0;have:=HS.out;simp at *;omega) _ _ _ _
 have t0:(jj == 0)=false:=by simpa using e0
 by_cases e1:jj=1
 ·subst e1
  clear t0 e0
  obtain ⟨col,vp,vs,vw,vh,up,us,uw,uh,ev,o,ht⟩:=KC.out.1.sy
  obtain ⟨rfl,rfl,rfl,rfl⟩:=sysV_inj ev
  have hsn:y.sn=y.pn:=HO.out.cn.2.1
  have hhn:y.hn=y.pn:=HO.out.cn.2.2.1
  have hph:p<y.hn:=by omega
  have hph':(p:Int)<(y.hn:Int):=by omega
  clear hsn hhn
  have KX3:Hid (KX w w3 W0 c a0 len cap N B T col y (.slice pa y.pn pc) (.slice sa y.sn sc) (.slice wa y.wn wc) (.slice ha y.hn hh) up us uw uh):=⟨KC.out.1.cu,KC.out.1.gr,o,KC.out.2.1,KC.out.2.2,ht,hcl,HS.out.1,HS.out.2.1,HS.out.2.2⟩
  clear o ht ev KC
  obtain ⟨g,chh,eh,Pg,lg,cg,fg⟩:=KX3.out.ow.h.cell hph
  simp only [Value.slice.injEq] at eh
  obtain ⟨rfl,-,rfl⟩:=eh
  obtain ⟨ua,uc,eu⟩:=zU (KX3.out.ow.h.own p hph)
  rw [eu] at cg
  have hN3:=KX3.out.b5.bx.2.2.2
  have hlp:y.hL p<=200:=HO.out.le200 hpp
  have AP:Hid (g≠c/\g≠w.heap.size/\g≠N/\w.heap.size<g):=KX3.out.apart (by decide) Pg
  go_upto_region 9 with fail
  refine wp_region_G (fun w'=>w'.cell? ⟨N,3,none⟩=some (.slice (some ⟨g,0,none⟩) y.hn hh)/\w'.cell? ⟨g,p,none⟩=some (.slice ua (y.hL p) uc)) (fun i=>i == 18) (by kernel_rfl) ?_
  have hHeld:=And.intro hN3 cg
  refine wpGT_of [0,1,2,3,4,5,6,7,8,10,12] ?_
  iterate 11 (refine wpGT_k rfl hHeld ?_)
  refine wpGT_nil ?_
  refine wpG_one 9 rfl (by kernel_rfl) (fun K hK=>?_)
  refine stepR_call rfl 16 _ _ rfl #[.pointer (some ⟨c,0,none⟩),.int .i64 5] (by simp [Act.eval]) (yA Tryz.func16 (by kernel_rfl) rfl) (zY W0 c len cap a0 5 w3.drew KX3.out.cu.drew (by omega) (by omega)) ?_
  rintro e w4 ⟨k1,rfl,-,hc9,hg9⟩
  refine ⟨_,rfl,?_⟩
  have hg9':w3.grownBy w4 (some c):=⟨hg9.os,hg9.tape,hg9.output,hg9.size,hg9.block⟩
  have KX4:Hid (KX w w4 W0 c a0 len cap N B T col y (.slice pa y.pn pc) (.slice sa y.sn sc) (.slice wa y.wn wc) (.slice (some ⟨g,0,none⟩) y.hn hh) up us uw uh):=KX3.out.draw hc9 hg9'
  have hHeld:=And.intro KX4.out.b5.bx.2.2.2 ((zH (hg9'.block g lg (by have:=AP.out;simp;omega))).trans hHeld.2)
  have lg4:g<w4.heap.size:=zL lg hg9'.size
  refine hK.out _ _ (fun _=>hHeld) ?_
  clear hc9 hg9 hg9'
  clear hK K
  (try simp only [Act.put,zD,zE,zF])
  refine wpG_one 11 rfl (by kernel_rfl) (fun K hK=>?_)
  refine stepR_call rfl 16 _ _ rfl #[.pointer (some ⟨c,0,none⟩),.int .i64 3] (by simp [Act.eval]) (yA Tryz.func16 (by kernel_rfl) rfl) (zY W0 c len cap a0 3 w4 KX4.out.cu (by omega) (by omega)) ?_
  rintro e w5 ⟨k2,rfl,-,hc9,hg9⟩
  refine ⟨_,rfl,?_⟩
  have hg9':w4.grownBy w5 (some c):=⟨hg9.os,hg9.tape,hg9.output,hg9.size,hg9.block⟩
  have KX5:Hid (KX w w5 W0 c a0 len cap N B T col y (.slice pa y.pn pc) (.slice sa y.sn sc) (.slice wa y.wn wc) (.slice (some ⟨g,0,none⟩) y.hn hh) up us uw uh):=KX4.out.draw hc9 hg9'
  have hHeld:=And.intro KX5.out.b5.bx.2.2.2 ((zH (hg9'.block g lg4 (by have:=AP.out;simp;omega))).trans hHeld.2)
  have lg5:g<w5.heap.size:=zL lg4 hg9'.size
  refine hK.out _ _ (fun _=>hHeld) ?_
  clear hc9 hg9 hg9'
  clear hK K
  (try simp only [Act.put,zD,zE,zF])
  refine wpG_one 13 rfl (by kernel_rfl) (fun K hK=>?_)
  refine stepR_call rfl 16 _ _ rfl #[.pointer (some ⟨c,0,none⟩),.int .i64 4] (by simp [Act.eval]) (yA Tryz.func16 (by kernel_rfl) rfl) (zY W0 c len cap a0 4 w5 KX5.out.cu (by omega) (by omega)) ?_
  rintro e w6 ⟨k3,rfl,-,hc9,hg9⟩
  refine ⟨_,rfl,?_⟩
  have hg9':w5.grownBy w6 (some c):=⟨hg9.os,hg9.tape,hg9.output,hg9.size,hg9.block⟩
  have KX6:Hid (KX w w6 W0 c a0 len cap N B T col y (.slice pa y.pn pc) (.slice sa y.sn sc) (.slice wa y.wn wc) (.slice (some ⟨g,0,none⟩) y.hn hh) up us uw uh):=KX5.out.draw hc9 hg9'
  have hHeld:=And.intro KX6.out.b5.bx.2.2.2 ((zH (hg9'.block g lg5 (by have:=AP.out;simp;omega))).trans hHeld.2)
  have lg6:g<w6.heap.size:=zL lg5 hg9'.size
  refine hK.out _ _ (fun _=>hHeld) ?_
  clear hc9 hg9 hg9'
  clear hK K
  (try simp only [Act.put,zD,zE,zF])
  refine wpG_k 14 rfl hHeld ?_
  refine wpG_one 15 rfl (by kernel_rfl) (fun K hK=>?_)
  go_simp
  have hca:=(bcell (zQ w6 (oQ0 k1 k2 k3))).1
  refine hK.out _ _ (fun _=>⟨(hca _ _ KX6.out.b5.lt).trans hHeld.1,(hca _ _ lg6).trans hHeld.2⟩) ?_
  clear hca
  clear hK K
  (try simp only [Act.put,zD,zE,zF])
  refine wpG_one 16 rfl (by kernel_rfl) (fun K hK=>?_)
  have OH2:w6.ownsRow 0 47 3 (.slice ua (y.hL p) uc) (y.hL p) (fE (y.hH p) (y.hL p)):=by
   have:=KX6.out.ow.h.own p hph
   rw [eu] at this
   exact this
  refine stepR_append_val kndE w6 rfl rfl _ _ rfl 0 (.slice ua (y.hL p) uc) (y.hL p) _ rfl OH2 #[.int .i64 k1,.int .i64 k2,.int .i64 k3] rfl rfl (by intro u hu;simp at hu;rcases hu with rfl | rfl | rfl <;> rfl) (by omega) (Nat.zero_le _) ?_
  intro v8 w8 o8 g8 q8 n8
  obtain ⟨a8,c8,rfl⟩:=zU o8
  have hob:∀ k,(Value.slice ua (y.hL p) uc).ownBlock=some k->Cl B col 4 k:=fun k hk=>KX6.out.ow.h.ob p hph k (by rw [eu];exact hk)
  have hgne:(Value.slice ua (y.hL p) uc).ownBlock≠some g:=fun e=>KX6.out.ow.h.ra p hph g (by rw [eu];exact e) rfl
  have hb8:∀ k,k<w6.heap.size->(Value.slice ua (y.hL p) uc).ownBlock≠some k->w8.heap[k]? = w6.heap[k]?:=fun k h1 h2=>g8.block k h1 fun e=>h2 e.symm
  have hap:∀ k,(Value.slice ua (y.hL p) uc).ownBlock=some k->k≠c/\k≠w.heap.size/\k≠N/\w.heap.size<k:=fun k hk=>KX6.out.apart (by decide) (hob k hk)
  have hHeld:=And.intro ((zH (hb8 N KX6.out.b5.lt (fun e=>(hap N e).2.2.1 rfl))).trans hHeld.1) ((zH (hb8 g lg6 hgne)).trans hHeld.2)
  have hfg:w8.frozen? ⟨g,p,none⟩=false:=by
   obtain ⟨g',cap',e',-,-,-,fr'⟩:=KX6.out.ow.h.cell hph
   simp only [Value.slice.injEq,Option.some.injEq,Addr.mk.injEq,and_true,true_and] at e'
   rw [zI (hb8 g lg6 hgne),e'.1]
   exact fr' p
  have SZ:Hid (SysT (w8.setCell ⟨g,p,none⟩ (.slice a8 (y.hL p+1) c8)) B w8.heap.size (y.setH p (y.hL p+1) (fun i=>if i=y.hL p then ⟨k1,k2,k3⟩ else y.hH p i)) (sysV pa y.pn pc sa y.sn sc wa y.wn wc (some ⟨g,0,none⟩) y.hn hh)):=by
   have h:=OwnS.putH KX6.out.ow hph (u':=.slice a8 (y.hL p+1) c8) (m:=y.hL p+1) (H':=fun i=>if i=y.hL p then ⟨k1,k2,k3⟩ else y.hH p i) (w1:=w8) (by have h1:B<=g:=Pg.1;omega) g8.size (fun k h1 h2=>hb8 k h1 (by rw [eu] at h2;exact h2)) (by rw [fE_push];exact o8) n8 (fun k hk=>(q8 k hk).imp (fun h=>by rw [eu];exact h) id)
   have h2:=h.sysT
   rw [World.size_setCell] at h2
   exact h2
  have KZ:Hid (Cur (w8.setCell ⟨g,p,none⟩ (.slice a8 (y.hL p+1) c8)) W0 c a0 len cap/\w.grownBy (w8.setCell ⟨g,p,none⟩ (.slice a8 (y.hL p+1) c8)) (some c)/\Bx (w8.setCell ⟨g,p,none⟩ (.slice a8 (y.hL p+1) c8)) w.heap.size (.slice none 0 0) (.slice none 0 0) (.slice none 0 0) (.slice none 0 0)/\Bx (w8.setCell ⟨g,p,none⟩ (.slice a8 (y.hL p+1) c8)) N (.slice pa y.pn pc) (.slice sa y.sn sc) (.slice wa y.wn wc) (.slice (some ⟨g,0,none⟩) y.hn hh)):=by
   have hgg:w8.grownBy (w8.setCell ⟨g,p,none⟩ (.slice a8 (y.hL p+1) c8)) (some g):=zV (World.grownBy.refl _ _) (.inl rfl) _
   have hA:=AP.out
   have hW:=KX6.out.cu.ge
   refine ⟨(KX6.out.cu.kept g8 (fun e=>(hap c e.symm).1 rfl) (fun k hk=>by have:=hap k hk;omega)).kept hgg (fun e=>hA.1 (by simpa using e.symm)) (fun k hk=>by cases hk;omega),(KX6.out.gr.andThen g8 (fun k hk=>.inl (by have:=hap k hk;omega))).andThen hgg (fun k hk=>by cases hk;exact .inl (by omega)),(KX6.out.b4.grown g8 (fun e=>(hap _ e).2.1 rfl)).set (by omega),(KX6.out.b5.grown g8 (fun e=>(hap _ e).2.2.1 rfl)).set (by omega)⟩
  refine hK.out _ _ (fun _=>hHeld) ?_
  clear o8 g8 q8 n8 hb8
  clear hK K
  (try simp only [Act.put,zD,zE,zF])
  refine wpG_k 17 rfl hHeld ?_
  refine wpG_one 18 rfl (by kernel_rfl) (fun K hK=>?_)
  have hcN:=hHeld.2
  go_simp
  refine hK.out _ _ (fun h=>?_) ?_
  ·exact absurd h (by decide)
  clear hK K
  (try simp only [Act.put,zD,zE,zF])
  refine wpG_done (by kernel_rfl) ?_ _
  have SM:Hid (y.setH p (y.hL p+1) (fun i=>if i=y.hL p then ⟨k1,k2,k3⟩ else y.hH p i)).Sm:=by
   have hm:=HO.out.sm
   refine ⟨hm.n,hm.p,hm.s,hm.w,fun i hi=>?_⟩
   show (if i=p then y.hL p+1 else y.hL i)<=1000
   by_cases ei:i=p
   ·rw [if_pos ei];omega
   ·rw [if_neg ei];exact hm.h i hi
  have hTz:w8.heap.size<=(w8.setCell ⟨g,p,none⟩ (.slice a8 (y.hL p+1) c8)).heap.size:=by simp
  generalize w8.setCell ⟨g,p,none⟩ (.slice a8 (y.hL p+1) c8)=wz at *
  obtain ⟨⟨r0,r1,r2,r3⟩,rf⟩:=KZ.out.2.2.1
  obtain ⟨⟨b0,b1,b2,b3⟩,-⟩:=KZ.out.2.2.2
  have hsz:=KX3.out.sz
  have hW:=KX3.out.cu.ge
  clear hHeld
  go_wp2
  obtain ⟨x,ev,ey,hX⟩:=SZ.out.x
  refine bodyPost_ret (v:=(sysV pa y.pn pc sa y.sn sc wa y.wn wc (some ⟨g,0,none⟩) y.hn hh)) (by simp [results,Tryz.results15,go_sem,r0,r1,r2,r3]) rfl ?_
  rw [show (sysV pa y.pn pc sa y.sn sc wa y.wn wc (some ⟨g,0,none⟩) y.hn hh)=x.v from ev]
  exact DrwS.fin hX (by rw [ey];exact SM.out) KZ.out.1 KZ.out.2.1 (by omega) (by omega) (Nat.le_refl _) (by omega) (by omega) hTz _ _ _ _
 have t1:(jj == 1)=false:=by simpa using e1
 by_cases e2:jj=2
 ·subst e2
  clear t0 e0 t1 e1
  obtain ⟨col,vp,vs,vw,vh,up,us,uw,uh,ev,o,ht⟩:=KC.out.1.sy
  obtain ⟨rfl,rfl,rfl,rfl⟩:=sysV_inj ev
  have hsn:y.sn=y.pn:=HO.out.cn.2.1
  have hhn:y.hn=y.pn:=HO.out.cn.2.2.1
  have hph:p<y.hn:=by omega
  have hph':(p:Int)<(y.hn:Int):=by omega
  clear hsn hhn
  have KX3:Hid (KX w w3 W0 c a0 len cap N B T col y (.slice pa y.pn pc) (.slice sa y.sn sc) (.slice wa y.wn wc) (.slice ha y.hn hh) up us uw uh):=⟨KC.out.1.cu,KC.out.1.gr,o,KC.out.2.1,KC.out.2.2,ht,hcl,HS.out.1,HS.out.2.1,HS.out.2.2⟩
  clear o ht ev KC
  have hw1:1<=y.wn/\y.wn<=16:=by
   obtain ⟨⟨h1,h4⟩,-,-,hw⟩:=HO.out.cn
   rw [hw]
   exact ⟨Nat.mul_le_mul h1 h1,zP (Nat.mul_le_mul h4 h4) (by omega)⟩
  have b2:=KX3.out.b5.bx.2.2.1
  go_wp2_with fail
  refine (zY W0 c len cap a0 (y.wn:Nat) w3 KX3.out.cu (by omega) (by omega)).mono ?_
  rintro e w4 ⟨ii,rfl,⟨i0,i1⟩,hc4,hg4⟩
  have KX4:Hid (KX w w4 W0 c a0 len cap N B T col y (.slice pa y.pn pc) (.slice sa y.sn sc) (.slice wa y.wn wc) (.slice ha y.hn hh) up us uw uh):=KX3.out.draw hc4 hg4
  clear hc4 hg4 b2
  obtain ⟨iw,rfl⟩:∃ iw:Nat,ii=iw:=⟨ii.toNat,by omega⟩
  have hiw:iw<y.wn:=by omega
  have hiw':(iw:Int)<(y.wn:Int):=by omega
  have hlw:y.wL iw<=12:=HO.out.bds.2.2.1 iw hiw
  obtain ⟨g,cww,eh,Pg,lg,cg,fg⟩:=KX4.out.ow.t.cell hiw
  simp only [Value.slice.injEq] at eh
  obtain ⟨rfl,-,rfl⟩:=eh
  obtain ⟨ua,uc,eu⟩:=zU (KX4.out.ow.t.own iw hiw)
  rw [eu] at cg
  have hN3:=KX4.out.b5.bx.2.2.1
  have AP:Hid (g≠c/\g≠w.heap.size/\g≠N/\w.heap.size<g):=KX4.out.apart (by decide) Pg
  go_upto_region 12 with fail
  refine wp_region_G (fun w'=>w'.cell? ⟨N,2,none⟩=some (.slice (some ⟨g,0,none⟩) y.wn wc)/\w'.cell? ⟨g,iw,none⟩=some (.slice ua (y.wL iw) uc)) (fun i=>i == 16) (by kernel_rfl) ?_
  have hHeld:=And.intro hN3 cg
  refine wpGT_of [0,1,2,3,4,5,6,7,8,10] ?_
  iterate 10 (refine wpGT_k rfl hHeld ?_)
  refine wpGT_nil ?_
  refine wpG_one 9 rfl (by kernel_rfl) (fun K hK=>?_)
  refine stepR_call rfl 21 _ _ rfl #[.pointer (some ⟨c,0,none⟩),.int .i64 2] (by simp [Act.eval]) (yA Tryz.func21 (by kernel_rfl) rfl) (l1Once_any W0 c len cap a0 2 w4.drew KX4.out.cu.drew (by omega) (by omega)) ?_
  rintro e w5 ⟨k1,rfl,hc9,hg9⟩
  refine ⟨_,rfl,?_⟩
  have hg9':w4.grownBy w5 (some c):=⟨hg9.os,hg9.tape,hg9.output,hg9.size,hg9.block⟩
  have KX5:Hid (KX w w5 W0 c a0 len cap N B T col y (.slice pa y.pn pc) (.slice sa y.sn sc) (.slice (some ⟨g,0,none⟩) y.wn wc) (.slice ha y.hn hh) up us uw uh):=KX4.out.draw hc9 hg9'
  have hHeld:=And.intro KX5.out.b5.bx.2.2.1 ((zH (hg9'.block g lg (by have:=AP.out;simp;omega))).trans hHeld.2)
  have lg5:g<w5.heap.size:=zL lg hg9'.size
  refine hK.out _ _ (fun _=>hHeld) ?_
  clear hc9 hg9 hg9'
  clear hK K
  (try simp only [Act.put,zD,zE,zF])
  refine wpG_one 11 rfl (by kernel_rfl) (fun K hK=>?_)
  refine stepR_call rfl 16 _ _ rfl #[.pointer (some ⟨c,0,none⟩),.int .i64 2] (by simp [Act.eval]) (yA Tryz.func16 (by kernel_rfl) rfl) (zY W0 c len cap a0 2 w5 KX5.out.cu (by omega) (by omega)) ?_
  rintro e w6 ⟨k2,rfl,-,hc9,hg9⟩
  refine ⟨_,rfl,?_⟩
  have hg9':w5.grownBy w6 (some c):=⟨hg9.os,hg9.tape,hg9.output,hg9.size,hg9.block⟩
  have KX6:Hid (KX w w6 W0 c a0 len cap N B T col y (.slice pa y.pn pc) (.slice sa y.sn sc) (.slice (some ⟨g,0,none⟩) y.wn wc) (.slice ha y.hn hh) up us uw uh):=KX5.out.draw hc9 hg9'
  have hHeld:=And.intro KX6.out.b5.bx.2.2.1 ((zH (hg9'.block g lg5 (by have:=AP.out;simp;omega))).trans hHeld.2)
  have lg6:g<w6.heap.size:=zL lg5 hg9'.size
  refine hK.out _ _ (fun _=>hHeld) ?_
  clear hc9 hg9 hg9'
  clear hK K
  (try simp only [Act.put,zD,zE,zF])
  refine wpG_k 12 rfl hHeld ?_
  refine wpG_one 13 rfl (by kernel_rfl) (fun K hK=>?_)
  go_simp
  have hca:=(bcell (zQ w6 (.cells #[.bool k1,.int .i64 k2] 59))).1
  refine hK.out _ _ (fun _=>⟨(hca _ _ KX6.out.b5.lt).trans hHeld.1,(hca _ _ lg6).trans hHeld.2⟩) ?_
  clear hca
  clear hK K
  (try simp only [Act.put,zD,zE,zF])
  refine wpG_one 14 rfl (by kernel_rfl) (fun K hK=>?_)
  have OH2:w6.ownsRow 0 59 2 (.slice ua (y.wL iw) uc) (y.wL iw) (fT (y.wH iw) (y.wL iw)):=by
   have:=KX6.out.ow.t.own iw hiw
   rw [eu] at this
   exact this
  refine stepR_append_val kndT w6 rfl rfl _ _ rfl 0 (.slice ua (y.wL iw) uc) (y.wL iw) _ rfl OH2 #[.bool k1,.int .i64 k2] rfl rfl (by intro u hu;simp at hu;rcases hu with rfl | rfl <;> rfl) (by omega) (Nat.zero_le _) ?_
  intro v8 w8 o8 g8 q8 n8
  obtain ⟨a8,c8,rfl⟩:=zU o8
  have hob:∀ k,(Value.slice ua (y.wL iw) uc).ownBlock=some k->Cl B col 3 k:=fun k hk=>KX6.out.ow.t.ob iw hiw k (by rw [eu];exact hk)
  have hgne:(Value.slice ua (y.wL iw) uc).ownBlock≠some g:=fun e=>KX6.out.ow.t.ra iw hiw g (by rw [eu];exact e) rfl
  have hb8:∀ k,k<w6.heap.size->(Value.slice ua (y.wL iw) uc).ownBlock≠some k->w8.heap[k]? = w6.heap[k]?:=fun k h1 h2=>g8.block k h1 fun e=>h2 e.symm
  have hap:∀ k,(Value.slice ua (y.wL iw) uc).ownBlock=some k->k≠c/\k≠w.heap.size/\k≠N/\w.heap.size<k:=fun k hk=>KX6.out.apart (by decide) (hob k hk)
  have hHeld:=And.intro ((zH (hb8 N KX6.out.b5.lt (fun e=>(hap N e).2.2.1 rfl))).trans hHeld.1) ((zH (hb8 g lg6 hgne)).trans hHeld.2)
  have hfg:w8.frozen? ⟨g,iw,none⟩=false:=by
   obtain ⟨g',cap',e',-,-,-,fr'⟩:=KX6.out.ow.t.cell hiw
   simp only [Value.slice.injEq,Option.some.injEq,Addr.mk.injEq,and_true,true_and] at e'
   rw [zI (hb8 g lg6 hgne),e'.1]
   exact fr' iw
  have SZ:Hid (SysT (w8.setCell ⟨g,iw,none⟩ (.slice a8 (y.wL iw+1) c8)) B w8.heap.size (y.setW iw (y.wL iw+1) (fun i=>if i=y.wL iw then ⟨k1,k2⟩ else y.wH iw i)) (sysV pa y.pn pc sa y.sn sc (some ⟨g,0,none⟩) y.wn wc ha y.hn hh)):=by
   have h:=OwnS.putW KX6.out.ow hiw (u':=.slice a8 (y.wL iw+1) c8) (m:=y.wL iw+1) (H':=fun i=>if i=y.wL iw then ⟨k1,k2⟩ else y.wH iw i) (w1:=w8) (by have h1:B<=g:=Pg.1;omega) g8.size (fun k h1 h2=>hb8 k h1 (by rw [eu] at h2;exact h2)) (by rw [fT_push];exact o8) n8 (fun k hk=>(q8 k hk).imp (fun h=>by rw [eu];exact h) id)
   have h2:=h.sysT
   rw [World.size_setCell] at h2
   exact h2
  have KZ:Hid (Cur (w8.setCell ⟨g,iw,none⟩ (.slice a8 (y.wL iw+1) c8)) W0 c a0 len cap/\w.grownBy (w8.setCell ⟨g,iw,none⟩ (.slice a8 (y.wL iw+1) c8)) (some c)/\Bx (w8.setCell ⟨g,iw,none⟩ (.slice a8 (y.wL iw+1) c8)) w.heap.size (.slice none 0 0) (.slice none 0 0) (.slice none 0 0) (.slice none 0 0)/\Bx (w8.setCell ⟨g,iw,none⟩ (.slice a8 (y.wL iw+1) c8)) N (.slice pa y.pn pc) (.slice sa y.sn sc) (.slice (some ⟨g,0,none⟩) y.wn wc) (.slice ha y.hn hh)):=by
   have hgg:w8.grownBy (w8.setCell ⟨g,iw,none⟩ (.slice a8 (y.wL iw+1) c8)) (some g):=zV (World.grownBy.refl _ _) (.inl rfl) _
   have hA:=AP.out
   have hW:=KX6.out.cu.ge
   refine ⟨(KX6.out.cu.kept g8 (fun e=>(hap c e.symm).1 rfl) (fun k hk=>by have:=hap k hk;omega)).kept hgg (fun e=>hA.1 (by simpa using e.symm)) (fun k hk=>by cases hk;omega),(KX6.out.gr.andThen g8 (fun k hk=>.inl (by have:=hap k hk;omega))).andThen hgg (fun k hk=>by cases hk;exact .inl (by omega)),(KX6.out.b4.grown g8 (fun e=>(hap _ e).2.1 rfl)).set (by omega),(KX6.out.b5.grown g8 (fun e=>(hap _ e).2.2.1 rfl)).set (by omega)⟩
  refine hK.out _ _ (fun _=>hHeld) ?_
  clear o8 g8 q8 n8 hb8
  clear hK K
  (try simp only [Act.put,zD,zE,zF])
  refine wpG_k 15 rfl hHeld ?_
  refine wpG_one 16 rfl (by kernel_rfl) (fun K hK=>?_)
  have hcN:=hHeld.2
  go_simp
  refine hK.out _ _ (fun h=>?_) ?_
  ·exact absurd h (by decide)
  clear hK K
  (try simp only [Act.put,zD,zE,zF])
  refine wpG_done (by kernel_rfl) ?_ _
  have SM:Hid (y.setW iw (y.wL iw+1) (fun i=>if i=y.wL iw then ⟨k1,k2⟩ else y.wH iw i)).Sm:=by
   have hm:=HO.out.sm
   have hb:=HO.out.bds.2.2.1 iw hiw
   refine ⟨hm.n,hm.p,hm.s,fun i hi=>?_,hm.h⟩
   show (if i=iw then y.wL iw+1 else y.wL i)<=1000
   by_cases ei:i=iw
   ·rw [if_pos ei];omega
   ·rw [if_neg ei];exact hm.w i hi
  have hTz:w8.heap.size<=(w8.setCell ⟨g,iw,none⟩ (.slice a8 (y.wL iw+1) c8)).heap.size:=by simp
  generalize w8.setCell ⟨g,iw,none⟩ (.slice a8 (y.wL iw+1) c8)=wz at *
  obtain ⟨⟨r0,r1,r2,r3⟩,rf⟩:=KZ.out.2.2.1
  obtain ⟨⟨b0,b1,b2,b3⟩,-⟩:=KZ.out.2.2.2
  have hsz:=KX3.out.sz
  have hW:=KX3.out.cu.ge
  clear hHeld
  go_wp2
  obtain ⟨x,ev,ey,hX⟩:=SZ.out.x
  refine bodyPost_ret (v:=(sysV pa y.pn pc sa y.sn sc (some ⟨g,0,none⟩) y.wn wc ha y.hn hh)) (by simp [results,Tryz.results15,go_sem,r0,r1,r2,r3]) rfl ?_
  rw [show (sysV pa y.pn pc sa y.sn sc (some ⟨g,0,none⟩) y.wn wc ha y.hn hh)=x.v from ev]
  exact DrwS.fin hX (by rw [ey];exact SM.out) KZ.out.1 KZ.out.2.1 (by omega) (by omega) (Nat.le_refl _) (by omega) (by omega) hTz _ _ _ _
 have t2:(jj == 2)=false:=by simpa using e2
 by_cases e3:jj=3
 ·subst e3
  clear t0 e0 t1 e1 t2 e2
  obtain ⟨col,vp,vs,vw,vh,up,us,uw,uh,ev,o,ht⟩:=KC.out.1.sy
  obtain ⟨rfl,rfl,rfl,rfl⟩:=sysV_inj ev
  have hsn:y.sn=y.pn:=HO.out.cn.2.1
  have hhn:y.hn=y.pn:=HO.out.cn.2.2.1
  have hph:p<y.hn:=by omega
  have hph':(p:Int)<(y.hn:Int):=by omega
  clear hsn hhn
  have KX3:Hid (KX w w3 W0 c a0 len cap N B T col y (.slice pa y.pn pc) (.slice sa y.sn sc) (.slice wa y.wn wc) (.slice ha y.hn hh) up us uw uh):=⟨KC.out.1.cu,KC.out.1.gr,o,KC.out.2.1,KC.out.2.2,ht,hcl,HS.out.1,HS.out.2.1,HS.out.2.2⟩
  clear o ht ev KC
  have hw1:1<=y.wn/\y.wn<=16:=by
   obtain ⟨⟨h1,h4⟩,-,-,hw⟩:=HO.out.cn
   rw [hw]
   exact ⟨Nat.mul_le_mul h1 h1,zP (Nat.mul_le_mul h4 h4) (by omega)⟩
  have hw1':(1:Int)<=(y.wn:Int):=by omega
  obtain ⟨g,cww,eh,Pg,lg,-,-⟩:=KX3.out.ow.t.cell (i:=0) (by omega)
  have hcap:y.wn<=wc:=cap_own KX3.out.ow.t.row
  simp only [Value.slice.injEq] at eh
  obtain ⟨rfl,-,rfl⟩:=eh
  have hcap':(1:Int)<=(wc:Int):=by omega
  have hcp2:¬ (wc:Int)<1:=by omega
  obtain ⟨⟨r0,r1,r2,r3⟩,rf⟩:=KX3.out.b4
  obtain ⟨⟨b0,b1,b2,b3⟩,bf⟩:=KX3.out.b5
  go_upto_region 20 with fail
  have hA:y.wn<=1\/(if wc=1 then (some ⟨g,0,none⟩:Option Addr) else some ⟨g,1,none⟩)=some ⟨g,1,none⟩:=by
   by_cases h:wc=1
   ·exact .inl (by omega)
   ·exact .inr (if_neg h)
  generalize (if wc=1 then (some ⟨g,0,none⟩:Option Addr) else some ⟨g,1,none⟩)=A at *
  have hsz:=KX3.out.sz
  have hW:=KX3.out.cu.ge
  have KZ:Hid (Cur (w3.setCell ⟨N,2,none⟩ (.slice A (y.wn - 1) (wc - 1))) W0 c a0 len cap/\w.grownBy (w3.setCell ⟨N,2,none⟩ (.slice A (y.wn - 1) (wc - 1))) (some c)/\Bx (w3.setCell ⟨N,2,none⟩ (.slice A (y.wn - 1) (wc - 1))) w.heap.size (.slice none 0 0) (.slice none 0 0) (.slice none 0 0) (.slice none 0 0)/\BoxC (w3.setCell ⟨N,2,none⟩ (.slice A (y.wn - 1) (wc - 1))) N (.slice pa y.pn pc) (.slice sa y.sn sc) (.slice A (y.wn - 1) (wc - 1)) (.slice ha y.hn hh)):=by
   have hgg:w3.grownBy (w3.setCell ⟨N,2,none⟩ (.slice A (y.wn - 1) (wc - 1))) (some N):=zV (World.grownBy.refl _ _) (.inl rfl) _
   exact ⟨KX3.out.cu.kept hgg (fun e=>by simp at e;omega) (fun k hk=>by cases hk;omega),KX3.out.gr.andThen hgg (fun k hk=>by cases hk;exact .inl (by omega)),KX3.out.b4.set (by omega),⟨by go_cell,by go_cell,by go_cell,by go_cell⟩⟩
  have SX:Hid (∃ x:SysIn,sysV pa y.pn pc sa y.sn sc A (y.wn - 1) (wc - 1) ha y.hn hh=x.v/\x.y.Sm/\SysX (w3.setCell ⟨N,2,none⟩ (.slice A (y.wn - 1) (wc - 1))) B T x):=by
   have st:SysT w3 B T y (sysV pa y.pn pc sa y.sn sc (some ⟨g,0,none⟩) y.wn wc ha y.hn hh):=⟨col,_,_,_,_,up,us,uw,uh,rfl,KX3.out.ow,KX3.out.tp⟩
   obtain ⟨x,ev,ey,hX⟩:=st.x
   have ev':=ev
   simp only [sysV,Value.agg.injEq,Array.mk.injEq,List.cons.injEq,Value.slice.injEq,and_true] at ev'
   obtain ⟨⟨a1,a2,a3⟩,⟨a4,a5,a6⟩,⟨a7,a8,a9⟩,⟨a10,a11,a12⟩⟩:=ev'
   refine ⟨x.shift A (wc - 1),?_,?_,(hX.keep (by simp) fun b h1 h2 _=>zO _ _ _ _ (fun e=>by have e2:b=N:=e;omega)).shift a7.symm (hA.imp (fun h=>by rw [<- a8];exact h) id)⟩
   ·show _=sysV x.pa x.pn x.pc x.sa x.sn x.sc A (x.wn - 1) (wc - 1) x.ha x.hn x.hc
    rw [<- a1,<- a2,<- a3,<- a4,<- a5,<- a6,<- a8,<- a10,<- a11,<- a12]
   ·have hm:=HO.out.sm
    rw [<- ey] at hm
    refine ⟨⟨hm.n.1,hm.n.2.1,by have h1:x.wn<=16:=hm.n.2.2.1;show x.wn - 1<=16;omega,hm.n.2.2.2⟩,hm.p,hm.s,fun i hi=>hm.w (i+1) (by have h1:i<x.wn - 1:=hi;show i+1<x.wn;omega),hm.h⟩
  have hTz:T<=(w3.setCell ⟨N,2,none⟩ (.slice A (y.wn - 1) (wc - 1))).heap.size:=by
   have:=zJ w3 _ b0
   simp at this ⊢
   omega
  clear r0 r1 r2 r3 rf b0 b1 b2 b3 bf
  generalize y.wn - 1=wn1 at *
  generalize wc - 1=wc1 at *
  generalize w3.setCell ⟨N,2,none⟩ (.slice A wn1 wc1)=wz at *
  obtain ⟨⟨r0,r1,r2,r3⟩,rf⟩:=KZ.out.2.2.1
  obtain ⟨b0,b1,b2,b3⟩:=KZ.out.2.2.2
  go_wp2
  obtain ⟨x,ev,hm,hX⟩:=SX.out
  refine bodyPost_ret (v:=sysV pa y.pn pc sa y.sn sc A wn1 wc1 ha y.hn hh) (by simp [results,Tryz.results15,go_sem,r0,r1,r2,r3]) rfl ?_
  rw [show sysV pa y.pn pc sa y.sn sc A wn1 wc1 ha y.hn hh=x.v from ev]
  exact DrwS.fin hX hm KZ.out.1 KZ.out.2.1 (by omega) (by omega) (Nat.le_refl _) (by omega) (by omega) hTz _ _ _ _
 have t3:(jj == 3)=false:=by simpa using e3
 by_cases e4:jj=4
 ·subst e4
  clear t0 e0 t1 e1 t2 e2 t3 e3
  obtain ⟨col,vp,vs,vw,vh,up,us,uw,uh,ev,o,ht⟩:=KC.out.1.sy
  obtain ⟨rfl,rfl,rfl,rfl⟩:=sysV_inj ev
  have hsn:y.sn=y.pn:=HO.out.cn.2.1
  have hhn:y.hn=y.pn:=HO.out.cn.2.2.1
  have hph:p<y.hn:=by omega
  have hph':(p:Int)<(y.hn:Int):=by omega
  clear hsn hhn
  have KX3:Hid (KX w w3 W0 c a0 len cap N B T col y (.slice pa y.pn pc) (.slice sa y.sn sc) (.slice wa y.wn wc) (.slice ha y.hn hh) up us uw uh):=⟨KC.out.1.cu,KC.out.1.gr,o,KC.out.2.1,KC.out.2.2,ht,hcl,HS.out.1,HS.out.2.1,HS.out.2.2⟩
  clear o ht ev KC
  obtain ⟨g,cpp,eh,Pg,lg,cg,fg⟩:=KX3.out.ow.p.cell hpp
  simp only [Value.slice.injEq] at eh
  obtain ⟨rfl,-,rfl⟩:=eh
  have hpp':(p:Int)<(y.pn:Int):=by omega
  have hN3:=KX3.out.b5.bx.1
  have AP:Hid (g≠c/\g≠w.heap.size/\g≠N/\w.heap.size<g):=KX3.out.apart (by decide) Pg
  go_upto_region 16 with fail
  refine wp_region_G (fun w'=>w'.cell? ⟨N,0,none⟩=some (.slice (some ⟨g,0,none⟩) y.pn pc)/\w'.cell? ⟨g,p,none⟩=some (up p)) (fun i=>i == 6) (by kernel_rfl) ?_
  have hHeld:=And.intro hN3 cg
  refine wpGT_of [0,1,2,3] ?_
  iterate 4 (refine wpGT_k rfl hHeld ?_)
  refine wpGT_nil ?_
  refine wpG_one 4 rfl (by kernel_rfl) (fun K hK=>?_)
  refine stepR_call rfl 28 _ _ rfl #[.pointer (some ⟨c,0,none⟩)] (by simp [Act.eval]) (yA Tryz.func28 (by kernel_rfl) rfl) (l1DrawAny_any W0 c len cap a0 w3.drew KX3.out.cu.drew) ?_
  rintro e w4 ⟨g4,m4,gc4,rfl,hm4,hl4,hc4,hg4⟩
  refine ⟨_,rfl,?_⟩
  have hg9':w3.grownBy w4 (some c):=⟨hg4.os,hg4.tape,hg4.output,hg4.size,hg4.block⟩
  have KX4:Hid (KX w w4 W0 c a0 len cap N B T col y (.slice (some ⟨g,0,none⟩) y.pn pc) (.slice sa y.sn sc) (.slice wa y.wn wc) (.slice ha y.hn hh) up us uw uh):=KX3.out.draw hc4 hg9'
  have hHeld:=And.intro KX4.out.b5.bx.1 ((zH (hg9'.block g lg (by have:=AP.out;simp;omega))).trans hHeld.2)
  have lg4:g<w4.heap.size:=zL lg hg9'.size
  obtain ⟨G4,hG4⟩:=hl4.known
  have hfg:w4.frozen? ⟨g,p,none⟩=false:=by
   rw [zI (hg9'.block g lg (by have:=AP.out;simp;omega))]
   exact fg p
  have hupc:∃ ua uc,up p=.slice ua (y.pL p) uc:=zU (KX3.out.ow.p.own p hpp)
  have SZ:Hid (SysT (w4.setCell ⟨g,p,none⟩ (.slice (some ⟨g4,0,none⟩) m4 gc4)) B w4.heap.size (y.setP p m4 G4) (sysV (some ⟨g,0,none⟩) y.pn pc sa y.sn sc wa y.wn wc ha y.hn hh)):=by
   have hs3:w3.heap.size<=w4.heap.size:=hg9'.size
   have ho:OwnS false (World.cut w4 w3.heap.size) B col y (.slice (some ⟨g,0,none⟩) y.pn pc) (.slice sa y.sn sc) (.slice wa y.wn wc) (.slice ha y.hn hh) up us uw uh:=KX3.out.ow.kept fun k hk hl=>(cut_block w4 hs3 hl).trans (hg9'.block k hl (by have:=KX3.out.sz;simp;omega))
   have h:=OwnS.putP ho hpp (u':=.slice (some ⟨g4,0,none⟩) m4 gc4) (m:=m4) (H':=G4) (w1:=w4) (by rw [cut_size w4 hs3];have h1:B<=g:=Pg.1;omega) (by rw [cut_size w4 hs3];exact hs3) (fun k h1 _=>by rw [cut_size w4 hs3] at h1;exact (cut_block w4 hs3 h1).symm) (hG4.mono (Nat.zero_le _)) (fun e=>by cases e) (fun k hk=>.inr (by rw [cut_size w4 hs3];exact (hG4.lt k hk).1))
   have h2:=h.sysT
   rw [World.size_setCell] at h2
   exact h2
  have KZ:Hid (Cur (w4.setCell ⟨g,p,none⟩ (.slice (some ⟨g4,0,none⟩) m4 gc4)) W0 c a0 len cap/\w.grownBy (w4.setCell ⟨g,p,none⟩ (.slice (some ⟨g4,0,none⟩) m4 gc4)) (some c)/\Bx (w4.setCell ⟨g,p,none⟩ (.slice (some ⟨g4,0,none⟩) m4 gc4)) w.heap.size (.slice none 0 0) (.slice none 0 0) (.slice none 0 0) (.slice none 0 0)/\Bx (w4.setCell ⟨g,p,none⟩ (.slice (some ⟨g4,0,none⟩) m4 gc4)) N (.slice (some ⟨g,0,none⟩) y.pn pc) (.slice sa y.sn sc) (.slice wa y.wn wc) (.slice ha y.hn hh)):=by
   have hgg:w4.grownBy (w4.setCell ⟨g,p,none⟩ (.slice (some ⟨g4,0,none⟩) m4 gc4)) (some g):=zV (World.grownBy.refl _ _) (.inl rfl) _
   have hA:=AP.out
   have hW:=KX4.out.cu.ge
   exact ⟨KX4.out.cu.kept hgg (fun e=>hA.1 (by simpa using e.symm)) (fun k hk=>by cases hk;omega),KX4.out.gr.andThen hgg (fun k hk=>by cases hk;exact .inl (by omega)),KX4.out.b4.set (by omega),KX4.out.b5.set (by omega)⟩
  refine hK.out _ _ (fun _=>hHeld) ?_
  clear hc4 hg4 hg9' hl4 hG4
  clear hK K
  (try simp only [Act.put,zD,zE,zF])
  refine wpG_k 5 rfl hHeld ?_
  refine wpG_one 6 rfl (by kernel_rfl) (fun K hK=>?_)
  have hcN:=hHeld.2
  obtain ⟨ua,uc,eup⟩:=hupc
  rw [eup] at hcN
  go_simp
  refine hK.out _ _ (fun h=>?_) ?_
  ·exact absurd h (by decide)
  clear hK K
  (try simp only [Act.put,zD,zE,zF])
  refine wpG_done (by kernel_rfl) ?_ _
  have SM:Hid (y.setP p m4 G4).Sm:=by
   have hm:=HO.out.sm
   refine ⟨hm.n,fun i hi=>?_,hm.s,hm.w,hm.h⟩
   show (if i=p then m4 else y.pL i)<=1000
   by_cases ei:i=p
   ·rw [if_pos ei];omega
   ·rw [if_neg ei];exact hm.p i hi
  have hTz:w4.heap.size<=(w4.setCell ⟨g,p,none⟩ (.slice (some ⟨g4,0,none⟩) m4 gc4)).heap.size:=by simp
  generalize w4.setCell ⟨g,p,none⟩ (.slice (some ⟨g4,0,none⟩) m4 gc4)=wz at *
  obtain ⟨⟨r0,r1,r2,r3⟩,rf⟩:=KZ.out.2.2.1
  obtain ⟨⟨b0,b1,b2,b3⟩,-⟩:=KZ.out.2.2.2
  have hsz:=KX3.out.sz
  have hW:=KX3.out.cu.ge
  clear hHeld
  go_wp2
  obtain ⟨x,ev,ey,hX⟩:=SZ.out.x
  refine bodyPost_ret (v:=(sysV (some ⟨g,0,none⟩) y.pn pc sa y.sn sc wa y.wn wc ha y.hn hh)) (by simp [results,Tryz.results15,go_sem,r0,r1,r2,r3]) rfl ?_
  rw [show (sysV (some ⟨g,0,none⟩) y.pn pc sa y.sn sc wa y.wn wc ha y.hn hh)=x.v from ev]
  exact DrwS.fin hX (by rw [ey];exact SM.out) KZ.out.1 KZ.out.2.1 (by omega) (by omega) (Nat.le_refl _) (by omega) (by omega) hTz _ _ _ _
 have t4:(jj == 4)=false:=by simpa using e4
 by_cases e5:jj=5
 ·subst e5
  clear t0 e0 t1 e1 t2 e2 t3 e3 t4 e4
  obtain ⟨col,vp,vs,vw,vh,up,us,uw,uh,ev,o,ht⟩:=KC.out.1.sy
  obtain ⟨rfl,rfl,rfl,rfl⟩:=sysV_inj ev
  have hsn:y.sn=y.pn:=HO.out.cn.2.1
  have hhn:y.hn=y.pn:=HO.out.cn.2.2.1
  have hph:p<y.hn:=by omega
  have hph':(p:Int)<(y.hn:Int):=by omega
  clear hsn hhn
  have KX3:Hid (KX w w3 W0 c a0 len cap N B T col y (.slice pa y.pn pc) (.slice sa y.sn sc) (.slice wa y.wn wc) (.slice ha y.hn hh) up us uw uh):=⟨KC.out.1.cu,KC.out.1.gr,o,KC.out.2.1,KC.out.2.2,ht,hcl,HS.out.1,HS.out.2.1,HS.out.2.2⟩
  clear o ht ev KC
  have hw1:1<=y.wn/\y.wn<=16:=by
   obtain ⟨⟨h1,h4⟩,-,-,hw⟩:=HO.out.cn
   rw [hw]
   exact ⟨Nat.mul_le_mul h1 h1,zP (Nat.mul_le_mul h4 h4) (by omega)⟩
  have b2:=KX3.out.b5.bx.2.2.1
  go_wp2_with fail
  refine (zY W0 c len cap a0 (y.wn:Nat) w3 KX3.out.cu (by omega) (by omega)).mono ?_
  rintro e w4 ⟨ii,rfl,⟨i0,i1⟩,hc4,hg4⟩
  have KX4:Hid (KX w w4 W0 c a0 len cap N B T col y (.slice pa y.pn pc) (.slice sa y.sn sc) (.slice wa y.wn wc) (.slice ha y.hn hh) up us uw uh):=KX3.out.draw hc4 hg4
  clear hc4 hg4 b2
  obtain ⟨iw,rfl⟩:∃ iw:Nat,ii=iw:=⟨ii.toNat,by omega⟩
  have hiw:iw<y.wn:=by omega
  have hiw':(iw:Int)<(y.wn:Int):=by omega
  have hlw:y.wL iw<=12:=HO.out.bds.2.2.1 iw hiw
  obtain ⟨g,cww,eh,Pg,lg,cg,fg⟩:=KX4.out.ow.t.cell hiw
  simp only [Value.slice.injEq] at eh
  obtain ⟨rfl,-,rfl⟩:=eh
  obtain ⟨ua,uc,eu⟩:=zU (KX4.out.ow.t.own iw hiw)
  rw [eu] at cg
  have hN3:=KX4.out.b5.bx.2.2.1
  have AP:Hid (g≠c/\g≠w.heap.size/\g≠N/\w.heap.size<g):=KX4.out.apart (by decide) Pg
  have hM4:w4.drew.heap.size=w4.heap.size:=rfl
  go_upto_region 19 with fail
  refine wp_region_G (fun w'=>w'.cell? ⟨N,2,none⟩=some (.slice (some ⟨g,0,none⟩) y.wn wc)/\w'.cell? ⟨g,iw,none⟩=some (.slice ua (y.wL iw) uc)) (fun i=>i == 12) (by kernel_rfl) ?_
  have hHeld:=And.intro hN3 cg
  refine wpGT_of [0,1,2,3,5,6,7,8,9] ?_
  iterate 9 (refine wpGT_k rfl hHeld ?_)
  refine wpGT_nil ?_
  refine wpG_one 4 rfl (by kernel_rfl) (fun K hK=>?_)
  go_simp
  have ba:Below w4.heap.size w4 (w4.drew.alloc (.cells #[.bool true,.int .i64 0] 59)):=(Below.refl w4.heap.size w4).drew.trans (zQ w4.drew _)
  have BA:Hid (Below w4.heap.size w4 (w4.drew.alloc (.cells #[.bool true,.int .i64 0] 59))):=ba
  have hca:=(bcell ba).1
  have hHeld:=And.intro ((hca _ _ KX4.out.b5.lt).trans hHeld.1) ((hca _ _ lg).trans hHeld.2)
  refine hK.out _ _ (fun _=>hHeld) ?_
  clear hca ba
  clear hK K
  (try simp only [Act.put,zD,zE,zF])
  refine wpG_one 10 rfl (by kernel_rfl) (fun K hK=>?_)
  have OH1:(w4.drew.alloc (.cells #[.bool true,.int .i64 0] 59)).ownsRow 0 59 2 (.slice (some ⟨w4.heap.size,0,none⟩) 1 1) 1 [.bool true,.int .i64 0]:=World.ownsRow_lit (base:=0) (e:=59) (size:=2) w4.drew #[.bool true,.int .i64 0] 1 (Nat.zero_le _) (by unfold maxLen;omega) (by simp)
  have OH2:Src (w4.drew.alloc (.cells #[.bool true,.int .i64 0] 59)) ua (fT (y.wH iw) (y.wL iw)):=by
   have:=KX4.out.ow.t.own iw hiw
   rw [eu] at this
   exact (src_own this (fT_len _ _)).below BA.out
  refine stepR_append_src kndT (w4.drew.alloc (.cells #[.bool true,.int .i64 0] 59)) rfl _ _ rfl 0 (.slice (some ⟨w4.heap.size,0,none⟩) 1 1) 1 [.bool true,.int .i64 0] rfl OH1 ua (y.wL iw) uc (fT (y.wH iw) (y.wL iw)) rfl (fT_len _ _) OH2 (fT_one _ _) (by omega) (Nat.zero_le _) ?_
  intro v8 w8 o8 g8 q8 n8
  have n8':v8≠.slice none 0 0:=n8 (.inl (by simp))
  rw [Nat.add_comm 1] at o8
  obtain ⟨a8,c8,rfl⟩:=zU o8
  have hsA:(w4.drew.alloc (.cells #[.bool true,.int .i64 0] 59)).heap.size=w4.heap.size+1:=by simp
  have hb8:∀ k,k<w4.heap.size->w8.heap[k]? = w4.heap[k]?:=fun k h1=>(g8.block k (by rw [hsA];omega) (fun e=>by have:=own_at e.symm;omega)).trans (BA.out.block k h1)
  have hHeld:=And.intro ((zH (hb8 N KX4.out.b5.lt)).trans hN3) ((zH (hb8 g lg)).trans cg)
  have hs8:w4.heap.size<=w8.heap.size:=by have:=g8.size;rw [hsA] at this;omega
  have hq8:∀ k,(Value.slice a8 (y.wL iw+1) c8).ownBlock=some k->w4.heap.size<=k:=fun k hk=>by
   rcases q8 with h | h
   ·rw [hk] at h
    have:=own_at h.symm
    omega
   ·rw [hk,hsA] at h
    simp only [Option.some.injEq] at h
    omega
  have hfg:w8.frozen? ⟨g,iw,none⟩=false:=by
   rw [zI (hb8 g lg)]
   exact fg iw
  have SZ:Hid (SysT (w8.setCell ⟨g,iw,none⟩ (.slice a8 (y.wL iw+1) c8)) B w8.heap.size (y.setW iw (y.wL iw+1) (fun i=>if i=0 then ⟨true,0⟩ else y.wH iw (i - 1))) (sysV pa y.pn pc sa y.sn sc (some ⟨g,0,none⟩) y.wn wc ha y.hn hh)):=by
   have h:=OwnS.putW KX4.out.ow hiw (u':=.slice a8 (y.wL iw+1) c8) (m:=y.wL iw+1) (H':=fun i=>if i=0 then ⟨true,0⟩ else y.wH iw (i - 1)) (w1:=w8) (by have h1:B<=g:=Pg.1;omega) hs8 (fun k h1 _=>hb8 k h1) (by rw [fT_cons];exact o8) n8' (fun k hk=>.inr (hq8 k hk))
   have h2:=h.sysT
   rw [World.size_setCell] at h2
   exact h2
  have KZ:Hid (Cur (w8.setCell ⟨g,iw,none⟩ (.slice a8 (y.wL iw+1) c8)) W0 c a0 len cap/\w.grownBy (w8.setCell ⟨g,iw,none⟩ (.slice a8 (y.wL iw+1) c8)) (some c)/\Bx (w8.setCell ⟨g,iw,none⟩ (.slice a8 (y.wL iw+1) c8)) w.heap.size (.slice none 0 0) (.slice none 0 0) (.slice none 0 0) (.slice none 0 0)/\Bx (w8.setCell ⟨g,iw,none⟩ (.slice a8 (y.wL iw+1) c8)) N (.slice pa y.pn pc) (.slice sa y.sn sc) (.slice (some ⟨g,0,none⟩) y.wn wc) (.slice ha y.hn hh)):=by
   have g0:w4.grownBy w8 none:=⟨g8.os.trans BA.out.os,g8.tape.trans BA.out.tape,g8.output.trans BA.out.output,hs8,fun k hk _=>hb8 k hk⟩
   have KX8:=KX4.out.below (below_of_grown g0)
   have hgg:w8.grownBy (w8.setCell ⟨g,iw,none⟩ (.slice a8 (y.wL iw+1) c8)) (some g):=zV (World.grownBy.refl _ _) (.inl rfl) _
   have hA:=AP.out
   have hW:=KX8.cu.ge
   exact ⟨KX8.cu.kept hgg (fun e=>hA.1 (by simpa using e.symm)) (fun k hk=>by cases hk;omega),KX8.gr.andThen hgg (fun k hk=>by cases hk;exact .inl (by omega)),KX8.b4.set (by omega),KX8.b5.set (by omega)⟩
  refine hK.out _ _ (fun _=>hHeld) ?_
  clear o8 g8 q8 n8 hb8 n8' hq8 hs8 hsA
  clear hK K
  (try simp only [Act.put,zD,zE,zF])
  refine wpG_k 11 rfl hHeld ?_
  refine wpG_one 12 rfl (by kernel_rfl) (fun K hK=>?_)
  have hcN:=hHeld.2
  go_simp
  refine hK.out _ _ (fun h=>?_) ?_
  ·exact absurd h (by decide)
  clear hK K
  (try simp only [Act.put,zD,zE,zF])
  refine wpG_done (by kernel_rfl) ?_ _
  have SM:Hid (y.setW iw (y.wL iw+1) (fun i=>if i=0 then ⟨true,0⟩ else y.wH iw (i - 1))).Sm:=by
   have hm:=HO.out.sm
   have hb:=HO.out.bds.2.2.1 iw hiw
   refine ⟨hm.n,hm.p,hm.s,fun i hi=>?_,hm.h⟩
   show (if i=iw then y.wL iw+1 else y.wL i)<=1000
   by_cases ei:i=iw
   ·rw [if_pos ei];omega
   ·rw [if_neg ei];exact hm.w i hi
  have hTz:w8.heap.size<=(w8.setCell ⟨g,iw,none⟩ (.slice a8 (y.wL iw+1) c8)).heap.size:=by simp
  generalize w8.setCell ⟨g,iw,none⟩ (.slice a8 (y.wL iw+1) c8)=wz at *
  obtain ⟨⟨r0,r1,r2,r3⟩,rf⟩:=KZ.out.2.2.1
  obtain ⟨⟨b0,b1,b2,b3⟩,-⟩:=KZ.out.2.2.2
  have hsz:=KX3.out.sz
  have hW:=KX3.out.cu.ge
  clear hHeld
  go_wp2
  obtain ⟨x,ev,ey,hX⟩:=SZ.out.x
  refine bodyPost_ret (v:=(sysV pa y.pn pc sa y.sn sc (some ⟨g,0,none⟩) y.wn wc ha y.hn hh)) (by simp [results,Tryz.results15,go_sem,r0,r1,r2,r3]) rfl ?_
  rw [show (sysV pa y.pn pc sa y.sn sc (some ⟨g,0,none⟩) y.wn wc ha y.hn hh)=x.v from ev]
  exact DrwS.fin hX (by rw [ey];exact SM.out) KZ.out.1 KZ.out.2.1 (by omega) (by omega) (Nat.le_refl _) (by omega) (by omega) hTz _ _ _ _
 have t5:(jj == 5)=false:=by simpa using e5
 clear e0 e1 e2 e3 e4 e5 j0 j1
 obtain ⟨⟨r0,r1,r2,r3⟩,rf⟩:=KC.out.2.1
 obtain ⟨⟨b0,b1,b2,b3⟩,-⟩:=KC.out.2.2
 go_upto_region 20 with fail
 go_wp2
 obtain ⟨x,ev,ey,hX⟩:=KC.out.1.sy.x
 refine bodyPost_ret (v:=(sysV pa y.pn pc sa y.sn sc wa y.wn wc ha y.hn hh)) (by simp [results,Tryz.results15,go_sem,r0,r1,r2,r3]) rfl ?_
 rw [show (sysV pa y.pn pc sa y.sn sc wa y.wn wc ha y.hn hh)=x.v from ev]
 exact DrwS.fin hX (by rw [ey];exact HO.out.sm) KC.out.1.cu KC.out.1.gr KC.out.1.lt HS.out.1 (Nat.le_refl _) (by omega) (by omega) (by have:=KC.out.2.2.lt;have:=HS.out;omega) _ _ _ _
theorem l6Draw_any (W0 c len cap:Nat) (a0:Option Addr) (w:World) (hc:Cur w W0 c a0 len cap):
  Calls Tryz.prog 15 #[.pointer (some ⟨c,0,none⟩),.slice a0 len cap] w (DrwS w W0 c a0 len cap):=(l6Draw_anyB W0 c len cap a0 w hc).mono fun _ _ ⟨x,B,T,h1,h2,h3,h4,h5,h6,h7⟩=>⟨x,B,T,h1,h2,h3,h4,h5,h6.1,h7⟩
structure DW (w wr:World) (W0 c:Nat) (a0:Option Addr) (len cap N M B T:Nat) (x:SysIn):Prop where
 cu:Cur wr W0 c a0 len cap
 be:Below w.heap.size w wr
 sx:SysX wr B T x
 b2:Bx wr N (.slice none 0 0) (.slice none 0 0) (.slice none 0 0) (.slice none 0 0)
 b6:Bx wr M (.slice x.pa x.pn x.pc) (.slice x.sa x.sn x.sc) (.slice x.wa x.wn x.wc) (.slice x.ha x.hn x.hc)
 sz:w.heap.size<=N/\N<c/\c<B/\c<M/\T<=M
theorem DW.draw {w wr w':World} {W0 c len cap N M B T:Nat} {a0:Option Addr} {x:SysIn} (h:DW w wr W0 c a0 len cap N M B T x) (hc:Cur w' W0 c a0 len cap) (hg:wr.grownBy w' (some c)):DW w w' W0 c a0 len cap N M B T x:=
 ⟨hc,Below.grown h.be hg (by have:=h.be.size;exact this) (fun k hk=>by cases hk;have:=h.sz;omega),h.sx.keep hg.size fun b hb _ hl=>hg.block b hl (by have:=h.sz;simp;omega),h.b2.grown hg (by have:=h.sz;simp;omega),h.b6.grown hg (by have:=h.sz;simp;omega),h.sz⟩
theorem DW.set4 {w wr:World} {W0 c len cap N M B T:Nat} {a0:Option Addr} {x:SysIn} (h:DW w wr W0 c a0 len cap N M B T x) (u0 u1 u2 u3:Value):SysX ((((wr.setCell ⟨N,0,none⟩ u0).setCell ⟨N,1,none⟩ u1).setCell ⟨N,2,none⟩ u2).setCell ⟨N,3,none⟩ u3) B T x:=
 h.sx.keep (by simp) fun b hb _ _=>by
  have:=h.sz
  rw [zO _ _ _ _ (by show b≠N;omega),zO _ _ _ _ (by show b≠N;omega),zO _ _ _ _ (by show b≠N;omega),zO _ _ _ _ (by show b≠N;omega)]
