import Derived.Test.YtlhikgdcgpgolaaGreatDoorBh0
import Derived.Test.YtlhikgdcgpgolaaGreatDoorBh28
import Derived.Test.YtlhikgdcgpgolaaGreatDoorBh2
import Derived.Deep.RegionLaw
import Derived.Test.YtlhikgdcgpgolaaGreatDoorBh22
import Derived.Test.YtlhikgdcgpgolaaGreatDoorBh29
import Derived.Deep.Cut
import Derived.Test.YtlhikgdcgpgolaaGreatDoorBh17
import Derived.Test.YtlhikgdcgpgolaaGreatDoorBh7
import Derived.Test.YtlhikgdcgpgolaaGreatDoorBh8
import Derived.Lib.QuietBelow
namespace Go.Proofs.YtlhikgdcgpgolaaGreatDoor
set_option maxRecDepth 100000
set_option maxHeartbeats 16000000
open Go.RowKit Go.Deep
theorem kndP:Kind 30 39 2 16:=by
 refine ⟨Tryz.underlying30,?_,by omega,by omega⟩
 have hinfo:(Tryz.prog.info? 39).map (fun i=>(i.zero,i.size,i.bytes))=some (some (.agg #[.int .i64 0,.int .i64 0]),2,16):=by kernel_rfl
 cases hi:Tryz.prog.info? 39 with
 | none=>rw [hi] at hinfo;cases hinfo
 | some i=>
  rw [hi] at hinfo
  simp only [Option.map_some,Option.some.injEq,Prod.mk.injEq] at hinfo
  obtain ⟨hz,hs,hb⟩:=hinfo
  exact ⟨i,_,rfl,hz,hs,hb,rfl⟩
structure Bx (w:World) (N:Nat) (v0 v1 v2 v3:Value):Prop where
 bx:BoxC w N v0 v1 v2 v3
 fr:∀ j,w.frozen? ⟨N,j,none⟩=false
theorem Bx.blk {w w':World} {N:Nat} {v0 v1 v2 v3:Value} (h:Bx w N v0 v1 v2 v3) (hb:w'.heap[N]? = w.heap[N]?):Bx w' N v0 v1 v2 v3:=by
 obtain ⟨⟨h0,h1,h2,h3⟩,hf⟩:=h
 exact ⟨⟨(zH hb).trans h0,(zH hb).trans h1,(zH hb).trans h2,(zH hb).trans h3⟩,fun j=>(zI hb).trans (hf j)⟩
theorem Bx.lt {w:World} {N:Nat} {v0 v1 v2 v3:Value} (h:Bx w N v0 v1 v2 v3):N<w.heap.size:=zJ w _ h.bx.1
theorem Bx.new (w:World) (v0 v1 v2 v3:Value) (t:TypeId):Bx (w.alloc (.cells #[v0,v1,v2,v3] t)) w.heap.size v0 v1 v2 v3:=⟨BoxC.new w _ _ _ _ _,fun _j=>yB _ _ _ _ rfl⟩
theorem Bx.below {w w':World} {N:Nat} {v0 v1 v2 v3:Value} (h:Bx w N v0 v1 v2 v3) (hb:Below w.heap.size w w'):Bx w' N v0 v1 v2 v3:=h.blk (hb.block N h.lt)
theorem Bx.grown {w w':World} {N:Nat} {v0 v1 v2 v3:Value} {r:Option Nat} (h:Bx w N v0 v1 v2 v3) (hg:w.grownBy w' r) (hr:r≠some N):Bx w' N v0 v1 v2 v3:=h.blk (hg.block N h.lt (fun e=>hr e.symm))
theorem Bx.set {w:World} {N M j:Nat} {v0 v1 v2 v3 u:Value} (h:Bx w N v0 v1 v2 v3) (hM:N≠M):Bx (w.setCell ⟨M,j,none⟩ u) N v0 v1 v2 v3:=h.blk (zO _ _ _ _ hM)
theorem Bx.put {w:World} {N:Nat} {v0 v1 v2 v3:Value} (h:Bx w N v0 v1 v2 v3) (u0 u1 u2 u3:Value):Bx ((((w.setCell ⟨N,0,none⟩ u0).setCell ⟨N,1,none⟩ u1).setCell ⟨N,2,none⟩ u2).setCell ⟨N,3,none⟩ u3) N u0 u1 u2 u3:=by
 obtain ⟨⟨h0,h1,h2,h3⟩,hf⟩:=h
 exact ⟨⟨by go_cell,by go_cell,by go_cell,by go_cell⟩,fun j=>by simpa using hf j⟩
theorem own_at {N n c k:Nat} (h:(Value.slice (some ⟨N,0,none⟩) n c).ownBlock=some k):N=k:=by
 cases h
 rfl
theorem own_new2 (w:World) {N:Nat} (hN:N=w.heap.size):(w.alloc (.cells #[] 39)).ownsRow 0 39 2 (.slice (some ⟨N,0,none⟩) 0 0) 0 []:=by
 subst hN
 exact World.ownsRow_made (base:=0) (e:=39) (size:=2) w #[] 0 (Nat.zero_le _) (by unfold maxLen;omega) (by simp)
theorem Bx.newN (w:World) {N:Nat} (hN:N=w.heap.size) (v0 v1 v2 v3:Value) (t:TypeId):Bx (w.alloc (.cells #[v0,v1,v2,v3] t)) N v0 v1 v2 v3:=by
 subst hN
 exact Bx.new w v0 v1 v2 v3 t
structure DR (w wr:World) (W0 c:Nat) (a0:Option Addr) (len cap M:Nat) (s0 s1 s2 s3 v9:Value) (k:Nat):Prop where
 ex:∃ (B T:Nat) (y:Sy) (pa sa wa ha:Option Addr) (pc sc wc hc:Nat),DK w wr W0 c a0 len cap B T y (sysV pa y.pn pc sa y.sn sc wa y.wn wc ha y.hn hc)/\y.Good/\Bx wr (M+1) (.slice pa y.pn pc) (.slice sa y.sn sc) (.slice wa y.wn wc) (.slice ha y.hn hc)/\(M+1<B\/T<=M)/\T<=wr.heap.size/\w.heap.size+2<=B/\∀ g,v9.ownBlock=some g->g<B\/T<=g
 b4:Bx wr w.heap.size (.slice none 0 0) (.slice none 0 0) (.slice none 0 0) (.slice none 0 0)
 b6:Bx wr (w.heap.size+1) (.slice none 0 0) (.slice none 0 0) (.slice none 0 0) (.slice none 0 0)
 b7:Bx wr M s0 s1 s2 s3
 li:∃ m xs,m<=k/\wr.ownsRow 0 39 2 v9 m xs
 lo:∀ g,v9.ownBlock=some g->M+1<g
 le:w.heap.size+1<M/\c<w.heap.size/\W0<=c
section
variable {w wr w':World} {W0 c len cap M k:Nat} {a0:Option Addr} {s0 s1 s2 s3 v9:Value}
theorem DR.keep (h:DR w wr W0 c a0 len cap M s0 s1 s2 s3 v9 k) (hc:Cur w' W0 c a0 len cap) (hs:wr.heap.size<=w'.heap.size) (hb:∀ b,b≠c->b<wr.heap.size->w'.heap[b]? = wr.heap[b]?) (hg:wr.grownBy w' (some c)):DR w w' W0 c a0 len cap M s0 s1 s2 s3 v9 k:=by
 obtain ⟨⟨B,T,y,pa,sa,wa,ha,pc,sc,wc,hh,dk,gd,b8,h1,h2,h3,h4⟩,b4,b6,b7,⟨m,xs,hm,hl⟩,lo,le⟩:=h
 refine ⟨⟨B,T,y,pa,sa,wa,ha,pc,sc,wc,hh,dk.draw hc hg,gd,b8.blk (hb _ (by omega) b8.lt),h1,by omega,h3,h4⟩,b4.blk (hb _ (by omega) b4.lt),b6.blk (hb _ (by omega) b6.lt),b7.blk (hb _ (by omega) b7.lt),⟨m,xs,hm,ownsRow_blkL hl fun g hg=>hb g (by have:=lo g hg;omega) (hl.lt g hg).2⟩,lo,le⟩
theorem DR.draw (h:DR w wr W0 c a0 len cap M s0 s1 s2 s3 v9 k) (hc:Cur w' W0 c a0 len cap) (hg:wr.grownBy w' (some c)):DR w w' W0 c a0 len cap M s0 s1 s2 s3 v9 k:=h.keep hc hg.size (fun b hb hl=>hg.block b hl (by simpa using hb)) hg
theorem DR.cur (h:DR w wr W0 c a0 len cap M s0 s1 s2 s3 v9 k):Cur wr W0 c a0 len cap:=by
 obtain ⟨⟨B,T,y,pa,sa,wa,ha,pc,sc,wc,hh,dk,-⟩,-⟩:=h
 exact dk.cu
theorem DR.below (h:DR w wr W0 c a0 len cap M s0 s1 s2 s3 v9 k) (hb:Below wr.heap.size wr w'):DR w w' W0 c a0 len cap M s0 s1 s2 s3 v9 k:=
 h.keep (h.cur.kept (zZ hb) (by simp) (fun k hk=>by cases hk)) hb.size (fun b _ hl=>hb.block b hl) ⟨hb.os,hb.tape,hb.output,hb.size,fun k hk _=>hb.block k hk⟩
theorem DR.app {w1:World} {v':Value} {m:Nat} {xs:List Value} (h:DR w wr W0 c a0 len cap M s0 s1 s2 s3 v9 k) (ho:w1.ownsRow 0 39 2 v' m xs) (hm:m<=k+1) (g:wr.grownBy w1 v9.ownBlock) (hv:∀ j,v'.ownBlock=some j->v9.ownBlock=some j\/wr.heap.size<=j):DR w w1 W0 c a0 len cap M s0 s1 s2 s3 v' (k+1):=by
 obtain ⟨⟨B,T,y,pa,sa,wa,ha,pc,sc,wc,hh,dk,gd,b8,h1,h2,h3,h4⟩,b4,b6,b7,-,lo,le⟩:=h
 have hne:∀ b,b<=M+1->v9.ownBlock≠some b:=fun b hb e=>by have:=lo b e;omega
 have l8:=b8.lt
 have hT1:=g.size
 refine ⟨⟨B,T,y,pa,sa,wa,ha,pc,sc,wc,hh,⟨dk.cu.kept g (fun e=>hne c (by omega) e.symm) (fun j hj=>by have:=lo j hj;omega),dk.sy.keep fun b hB hT hl=>g.block b hl (fun e=>by have:=h4 b e.symm;omega),dk.gr.andThen g (fun j hj=>.inl (by have:=lo j hj;omega)),dk.lt⟩,gd,b8.grown g (hne _ (by omega)),h1,by omega,h3,fun j hj=>(hv j hj).elim (h4 j) fun h=>.inr (by omega)⟩,b4.grown g (hne _ (by omega)),b6.grown g (hne _ (by omega)),b7.grown g (hne _ (by omega)),⟨m,xs,hm,ho⟩,fun j hj=>(hv j hj).elim (lo j) fun h=>by omega,le⟩
end
theorem DK.drew {w wr:World} {W0 c:Nat} {a0:Option Addr} {len cap B T:Nat} {y:Sy} {v:Value} (h:DK w wr W0 c a0 len cap B T y v):DK w wr.drew W0 c a0 len cap B T y v:=⟨h.cu.drew,h.sy.keep fun _ _ _ _=>rfl,⟨h.gr.os,h.gr.tape,h.gr.output,h.gr.size,h.gr.block⟩,h.lt⟩
theorem l6DrawRun_any (W0 c len cap:Nat) (a0:Option Addr) (most:Int) (w:World) (hc:Cur w W0 c a0 len cap) (m0:0<=most) (m1:most<=200):
  Calls Tryz.prog 12 #[.pointer (some ⟨c,0,none⟩),.int .i64 most] w fun e w'=>∃ (B T:Nat) (y:Sy) (qa qb qc qd:Option Addr) (n0 n1 n2 n3 e0 e1 e2 e3:Nat) (v1:Value) (pa sa wa ha:Option Addr) (pc sc wc hc:Nat),e=.returned (.tuple #[.agg #[.slice qa n0 e0,.slice qb n1 e1,.slice qc n2 e2,.slice qd n3 e3],v1,sysV pa y.pn pc sa y.sn sc wa y.wn wc ha y.hn hc])/\y.Good/\DK w w' W0 c a0 len cap B T y (sysV pa y.pn pc sa y.sn sc wa y.wn wc ha y.hn hc)/\w.heap.size<=B/\T<=w'.heap.size:=by
 have hcl:c<w.heap.size:=hc.lt
 have hcg:W0<=c:=hc.ge
 have C0:Hid (Cur ((w.alloc (zQ3)).alloc (zQ3)) W0 c a0 len cap/\w.grownBy ((w.alloc (zQ3)).alloc (zQ3)) (some c)/\Bx ((w.alloc (zQ3)).alloc (zQ3)) w.heap.size (.slice none 0 0) (.slice none 0 0) (.slice none 0 0) (.slice none 0 0)/\Bx ((w.alloc (zQ3)).alloc (zQ3)) (w.heap.size+1) (.slice none 0 0) (.slice none 0 0) (.slice none 0 0) (.slice none 0 0)/\((w.alloc (zQ3)).alloc (zQ3)).heap.size=w.heap.size+2):=⟨(hc.alloc _).alloc _,(World.grownBy_alloc _ _ _).trans (World.grownBy_alloc _ _ _),(Bx.new w _ _ _ _ _).below (zQ _ _),Bx.newN _ (by simp) _ _ _ _ _,by simp⟩
 clear hc
 go_enter Tryz.func12,Tryz.ntmps12
 go_wp2_with fail
 generalize (w.alloc (zQ3)).alloc (zQ3)=W2 at *
 refine (l6DrawNew_any W0 c len cap a0 W2 C0.out.1).mono ?_
 rintro e w1 ⟨pa,sa,wa,ha,pc,sc,wc,hh,y,rfl,hy,k1⟩
 have D4:Hid (DR w (((w1.alloc (oQ4 pa y.pn pc sa y.sn sc wa y.wn wc ha y.hn hh)).alloc (oQ4 pa y.pn pc sa y.sn sc wa y.wn wc ha y.hn hh)).alloc (.cells #[] 39)) W0 c a0 len cap w1.heap.size (.slice pa y.pn pc) (.slice sa y.sn sc) (.slice wa y.wn wc) (.slice ha y.hn hh) (.slice (some ⟨w1.heap.size+2,0,none⟩) 0 0) 0):=by
  have hs2:=C0.out.2.2.2.2
  have hs1:=k1.gr.size
  have k2:DK w w1 W0 c a0 len cap W2.heap.size w1.heap.size y (sysV pa y.pn pc sa y.sn sc wa y.wn wc ha y.hn hh):=⟨k1.cu,k1.sy,C0.out.2.1.trans k1.gr,k1.lt⟩
  refine ⟨⟨_,_,y,pa,sa,wa,ha,pc,sc,wc,hh,((k2.alloc _).alloc _).alloc _,hy,(Bx.newN _ (by simp) _ _ _ _ _).below (zQ _ _),.inr (Nat.le_refl _),by simp;omega,by omega,fun g hg=>?_⟩,(((C0.out.2.2.1.grown k1.gr (by simp;omega)).below (zQ _ _)).below (zQ _ _)).below (zQ _ _),(((C0.out.2.2.2.1.grown k1.gr (by simp;omega)).below (zQ _ _)).below (zQ _ _)).below (zQ _ _),((Bx.new _ _ _ _ _ _).below (zQ _ _)).below (zQ _ _),⟨0,[],Nat.le_refl _,?_⟩,fun g hg=>?_,by omega,hcl,hcg⟩
  ·have:=own_at hg
   omega
  ·exact own_new2 _ (by simp)
  ·have:=own_at hg
   omega
 clear k1 hy C0
 go_wp2_with fail
 generalize ((w1.alloc (oQ4 pa y.pn pc sa y.sn sc wa y.wn wc ha y.hn hh)).alloc (oQ4 pa y.pn pc sa y.sn sc wa y.wn wc ha y.hn hh)).alloc (.cells #[] 39)=W4 at *
 generalize w1.heap.size=M at *
 generalize y.pn=sn0 at *
 generalize y.sn=sn1 at *
 generalize y.wn=sn2 at *
 generalize y.hn=sn3 at *
 refine (zY W0 c len cap a0 (most+1) W4 D4.out.cur (by omega) (by omega)).mono ?_
 rintro e w5 ⟨n,rfl,⟨n0,n1⟩,hc5,hg5⟩
 have D5:Hid (DR w w5 W0 c a0 len cap M (.slice pa sn0 pc) (.slice sa sn1 sc) (.slice wa sn2 wc) (.slice ha sn3 hh) (.slice (some ⟨M+2,0,none⟩) 0 0) 0):=D4.out.draw hc5 hg5
 clear hc5 hg5 D4
 obtain ⟨nn,rfl⟩:∃ nn:Nat,n=nn:=⟨n.toNat,by omega⟩
 have hnn:(nn:Int)<=200:=by omega
 clear n0 n1
 go_wp2_with fail
 go_loopw [9,11] (fun v i wr=>∃ k:Nat,k<=nn/\i=.int .i64 k/\Hid (DR w wr W0 c a0 len cap M (.slice pa sn0 pc) (.slice sa sn1 sc) (.slice wa sn2 wc) (.slice ha sn3 hh) v k)) (fun _ i _=>nn - (intOf i).toNat)
 case atStart=>exact ⟨0,Nat.zero_le _,rfl,D5.out⟩
 case round=>
  clear D5
  obtain ⟨k,hk,rfl,HR⟩:=hrel
  obtain ⟨B,T,y',pa',sa',wa',ha',pc',sc',wc',hh',dk,gd,b8,h1,h2,h3,h4⟩:=HR.out.ex
  have DKr:Hid (DK w wr W0 c a0 len cap B T y' (sysV pa' y'.pn pc' sa' y'.sn sc' wa' y'.wn wc' ha' y'.hn hh')/\y'.Good/\T<=wr.heap.size/\w.heap.size+2<=B):=⟨dk,gd,h2,h3⟩
  by_cases hlt:k<nn
  ·have hlt':(k:Int)<(nn:Int):=by omega
   obtain ⟨r0,r1,r2,r3⟩:=b8.bx
   clear dk gd b8 h1 h2 h3 h4
   go_wp2_with fail
   refine (l6DrawPick_any W0 c len cap B T a0 y' _ wr DKr.out.2.1.sm DKr.out.1.cu DKr.out.1.sy DKr.out.2.2.1 DKr.out.1.lt).mono ?_
   rintro e w2 ⟨p,q,rfl,k2⟩
   have E2:Hid (DR w (w2.alloc (.cells #[.int .i64 p,.int .i64 q] 39)) W0 c a0 len cap M (.slice pa sn0 pc) (.slice sa sn1 sc) (.slice wa sn2 wc) (.slice ha sn3 hh) u9 k):=(HR.out.draw k2.cu k2.gr).below (zQ _ _)
   have P2:Hid ((w2.alloc (.cells #[.int .i64 p,.int .i64 q] 39)).cell? ⟨w2.heap.size,0,none⟩=some (.int .i64 p)/\(w2.alloc (.cells #[.int .i64 p,.int .i64 q] 39)).cell? ⟨w2.heap.size,1,none⟩=some (.int .i64 q)):=⟨zW _ _ _ 0 rfl,zW _ _ _ 1 rfl⟩
   have L2:Hid (∀ g,u9.ownBlock=some g->g<w2.heap.size):=fun g hg=>by
    obtain ⟨m,xs,-,ho⟩:=(HR.out.draw k2.cu k2.gr).li
    exact (ho.lt g hg).2
   clear k2 r0 r1 r2 r3 HR DKr
   go_upto_region 9 with fail
   generalize hW3:w2.alloc (.cells #[.int .i64 p,.int .i64 q] 39)=w3 at *
   have hs3:w3.heap.size=w2.heap.size+1:=by rw [<- hW3];simp
   have HS3:Hid (w3.heap.size=w2.heap.size+1):=hs3
   clear hW3 hs3
   generalize w2.heap.size=N at *
   obtain ⟨c0,c1⟩:=P2.out
   obtain ⟨m,xs,hm,lo9⟩:=E2.out.li
   have LO:Hid (w3.ownsRow 0 39 2 u9 m xs/\m<=2000000/\m+1<=k+1):=⟨lo9,by omega,by omega⟩
   clear hm lo9
   go_upto_region 10 with (at_builtin;refine step_append_val kndP w3 rfl rfl _ _ rfl 0 u9 m xs rfl LO.out.1 #[.int .i64 p,.int .i64 q] rfl rfl (by intro u hu;simp at hu;rcases hu with rfl | rfl <;> rfl) LO.out.2.1 (Nat.zero_le _) ?_;intro v5 w5 o5 g5 q5 _;have E5:Hid (DR w w5 W0 c a0 len cap M (.slice pa sn0 pc) (.slice sa sn1 sc) (.slice wa sn2 wc) (.slice ha sn3 hh) v5 (k+1)/\w5.cell? ⟨N,0,none⟩=some (.int .i64 p)/\w5.cell? ⟨N,1,none⟩=some (.int .i64 q)):=⟨E2.out.app o5 LO.out.2.2 g5 q5,(zH (g5.block N (by rw [HS3.out];omega) (fun e=>by have:=L2.out N e.symm;omega))).trans P2.out.1,(zH (g5.block N (by rw [HS3.out];omega) (fun e=>by have:=L2.out N e.symm;omega))).trans P2.out.2⟩;clear o5 g5 q5)
   clear c0 c1 E2 P2 L2 LO
   obtain ⟨B,T,y',pa',sa',wa',ha',pc',sc',wc',hh',dk,gd,b8,h1,h2,h3,h4⟩:=E5.out.1.ex
   obtain ⟨r0,r1,r2,r3⟩:=b8.bx
   obtain ⟨c0,c1⟩:=E5.out.2
   have HStep:Hid (Calls Tryz.prog 22 #[sysV pa' y'.pn pc' sa' y'.sn sc' wa' y'.wn wc' ha' y'.hn hh',.int .i64 p,.int .i64 q] w5 fun e w'=>∃ v,e=.returned (.tuple #[v,.int .i64 (stC y' p q)])/\OwnSys true w' w5.heap.size (stY y' p q) v/\Below w5.heap.size w5 w'):=by
    obtain ⟨x,ev,ey,hX⟩:=dk.sy.x
    have:=specStep_any x p q w5 hX.self (Sy.Sm.inLen (by rw [ey];exact gd.sm)) hX.cap
    rw [<- ev,ey] at this
    exact this
   have HGood:Hid (stC y' p q=0->(stY y' p q).Good):=fun h=>gd.step h
   clear dk gd b8 h1 h2 h3 h4
   go_wp2_with fail
   refine HStep.out.mono ?_
   rintro e w6 ⟨v6,rfl,o6,q6⟩
   generalize hC:stC y' p q=C at *
   generalize hY:stY y' p q=Y at *
   obtain ⟨pa6,pc6,sa6,sc6,wa6,wc6,ha6,hc6,rfl⟩:=o6.form
   have E6:Hid (DR w w6 W0 c a0 len cap M (.slice pa sn0 pc) (.slice sa sn1 sc) (.slice wa sn2 wc) (.slice ha sn3 hh) v5 (k+1)):=E5.out.1.below q6
   have O6:Hid (SysT w6 w5.heap.size w6.heap.size Y (sysV pa6 Y.pn pc6 sa6 Y.sn sc6 wa6 Y.wn wc6 ha6 Y.hn hc6)/\w5.heap.size<=w6.heap.size/\M+1<w5.heap.size/\(∀ g,v5.ownBlock=some g->g<w5.heap.size)):=⟨o6.sysT,q6.size,by obtain ⟨B,T,y',pa',sa',wa',ha',pc',sc',wc',hh',-,-,b8,-⟩:=E5.out.1.ex;exact b8.lt,fun g hg=>by obtain ⟨m,xs,-,ho⟩:=E5.out.1.li;exact (ho.lt g hg).2⟩
   clear hC hY o6 q6 r0 r1 r2 r3 c0 c1 HStep E5
   by_cases hc0:C=0
   ·subst hc0
    have gY:=HGood.out rfl
    obtain ⟨B,T,y',pa',sa',wa',ha',pc',sc',wc',hh',dk,gd,b8,h1,h2,h3,h4⟩:=E6.out.ex
    obtain ⟨⟨r0,r1,r2,r3⟩,rf⟩:=b8
    have l8:M+1<w6.heap.size:=by have:=O6.out;omega
    have E7:Hid (DR w ((((w6.setCell ⟨M+1,0,none⟩ (.slice pa6 Y.pn pc6)).setCell ⟨M+1,1,none⟩ (.slice sa6 Y.sn sc6)).setCell ⟨M+1,2,none⟩ (.slice wa6 Y.wn wc6)).setCell ⟨M+1,3,none⟩ (.slice ha6 Y.hn hc6)) W0 c a0 len cap M (.slice pa sn0 pc) (.slice sa sn1 sc) (.slice wa sn2 wc) (.slice ha sn3 hh) v5 (k+1)):=by
     obtain ⟨o7,hs7,hs8,hg7⟩:=O6.out
     obtain ⟨-,b4,b6,b7,⟨m,xs,hm,hl⟩,lo,le⟩:=E6.out
     have k7:DK w w6 W0 c a0 len cap w5.heap.size w6.heap.size Y (sysV pa6 Y.pn pc6 sa6 Y.sn sc6 wa6 Y.wn wc6 ha6 Y.hn hc6):=⟨dk.cu,o7,dk.gr,by omega⟩
     refine ⟨⟨_,_,Y,pa6,sa6,wa6,ha6,pc6,sc6,wc6,hc6,(((k7.set (by omega) (by omega) (.inl hs8) (by omega) _ _).set (by omega) (by omega) (.inl hs8) (by omega) _ _).set (by omega) (by omega) (.inl hs8) (by omega) _ _).set (by omega) (by omega) (.inl hs8) (by omega) _ _,gY,(show Bx w6 (M+1) _ _ _ _ from ⟨⟨r0,r1,r2,r3⟩,rf⟩).put _ _ _ _,.inl hs8,by simp,by omega,fun g hg=>.inl (hg7 g hg)⟩,(((b4.set (by omega)).set (by omega)).set (by omega)).set (by omega),(((b6.set (by omega)).set (by omega)).set (by omega)).set (by omega),(((b7.set (by omega)).set (by omega)).set (by omega)).set (by omega),⟨m,xs,hm,?_⟩,lo,le⟩
     exact ownsRow_blkL hl fun g hg=>by
      have hne:g≠M+1:=by have:=lo g hg;omega
      exact (zO _ _ _ _ hne).trans ((zO _ _ _ _ hne).trans ((zO _ _ _ _ hne).trans (zO _ _ _ _ hne)))
    clear dk gd h1 h2 h3 h4 gY HGood E6
    go_wp2
    go_roundw
    case rel=>exact ⟨k+1,by omega,by go_num,E7.out.below (zQ _ _)⟩
    case measure=>simp [intOf];omega
   ·have tc:(C == 0)=false:=by simpa using hc0
    go_wp2
    go_roundw
    case rel=>exact ⟨k+1,by omega,by go_num,E6.out.below (zQ _ _)⟩
    case measure=>simp [intOf];omega
  ·obtain ⟨r0,r1,r2,r3⟩:=b8.bx
   obtain ⟨⟨x0,x1,x2,x3⟩,xf⟩:=HR.out.b4
   obtain ⟨⟨z0,z1,z2,z3⟩,zf⟩:=HR.out.b6
   obtain ⟨⟨d0,d1,d2,d3⟩,df⟩:=HR.out.b7
   have hM:=HR.out.le
   have n1:w.heap.size≠M:=by omega
   have n2:w.heap.size≠M+1:=by omega
   have n3:w.heap.size+1≠M:=by omega
   have n4:w.heap.size+1≠M+1:=by omega
   have l4:w.heap.size<wr.heap.size:=zJ wr _ x0
   have l6:w.heap.size+1<wr.heap.size:=zJ wr _ z0
   clear dk gd b8 h1 h2 h3 h4 HR
   go_wp2_with fail
   go_region
   all_goals
    go_wp2
    refine bodyPost_ret (v:=.tuple #[.agg #[.slice pa sn0 pc,.slice sa sn1 sc,.slice wa sn2 wc,.slice ha sn3 hh],u9,sysV pa' y'.pn pc' sa' y'.sn sc' wa' y'.wn wc' ha' y'.hn hh']) (by simp [results,Tryz.results12,go_sem,x0,x1,x2,x3,z0,z1,z2,z3]) rfl ⟨B,T,y',pa,sa,wa,ha,sn0,sn1,sn2,sn3,pc,sc,wc,hh,u9,pa',sa',wa',ha',pc',sc',wc',hh',rfl,DKr.out.2.1,?_,by have:=DKr.out.2.2.2;omega,?_⟩
    ·refine DK.drew ?_
     iterate 8 (refine DK.set ?_ (by omega) (by omega) (by have:=DKr.out;omega) (by omega) _ _)
     exact DKr.out.1
    ·have:=DKr.out.2.2.1
     simpa using this
theorem l1Long_any (a0:Option Addr) (len cap:Nat) (w:World) (hl:len<=1048576):Calls Tryz.prog 69 #[.slice a0 len cap,.int .i64 25,.int .i64 70] w fun e w'=>∃ z:Int,e=.returned (.int .i64 z)/\(25<=z/\z<=70)/\w'=w:=by
 have hl':(len:Int)<=1048576:=by omega
 have ed:Int.tdiv (len:Int) 4=((len / 4:Nat):Int):=(Int.ofNat_tdiv len 4).symm
 have hq:len / 4<=1048576:=by omega
 generalize len / 4=q at *
 have hq':(q:Int)<=1048576:=by omega
 by_cases t:(70:Int)<25+(q:Int)
 ·go_enter Tryz.func69,Tryz.ntmps69
  go_wp2
  go_ret
  exact ⟨_,rfl,by omega,rfl⟩
 ·go_enter Tryz.func69,Tryz.ntmps69
  go_wp2
  go_ret
  exact ⟨_,rfl,by omega,rfl⟩
theorem l6DrawRight_any (W0 c len cap:Nat) (a0:Option Addr) (w:World) (hc:Cur w W0 c a0 len cap):
  Calls Tryz.prog 31 #[.pointer (some ⟨c,0,none⟩),.slice a0 len cap] w fun e w'=>∃ (B T:Nat) (y:Sy) (pa sa wa ha:Option Addr) (pc sc wc hc:Nat),e=.returned (sysV pa y.pn pc sa y.sn sc wa y.wn wc ha y.hn hc)/\y.Good/\DK w w' W0 c a0 len cap B T y (sysV pa y.pn pc sa y.sn sc wa y.wn wc ha y.hn hc)/\w.heap.size<=B/\T<=w'.heap.size:=by
 have hcl:c<w.heap.size:=hc.lt
 have hcg:W0<=c:=hc.ge
 have hln:len<=1048576:=hc.ln
 have C0:Hid (Cur (w.alloc (zQ3)) W0 c a0 len cap/\w.grownBy (w.alloc (zQ3)) (some c)/\Bx (w.alloc (zQ3)) w.heap.size (.slice none 0 0) (.slice none 0 0) (.slice none 0 0) (.slice none 0 0)/\(w.alloc (zQ3)).heap.size=w.heap.size+1):=⟨hc.alloc _,World.grownBy_alloc _ _ _,Bx.new w _ _ _ _ _,by simp⟩
 clear hc
 go_enter Tryz.func31,Tryz.ntmps31
 go_wp2_with fail
 generalize w.alloc (zQ3)=W2 at *
 refine (l1Long_any a0 len cap W2 hln).mono ?_
 rintro e w1 ⟨z,rfl,⟨z0,z1⟩,rfl⟩
 go_wp2_with fail
 refine (l6DrawRun_any W0 c len cap a0 z w1 C0.out.1 (by omega) (by omega)).mono ?_
 rintro e w3 ⟨B,T,y,qa,qb,qc,qd,n0,n1,n2,n3,e0,e1,e2,e3,v1,pa,sa,wa,ha,pc,sc,wc,hh,rfl,gd,dk,hB,hT⟩
 have K3:Hid (DK w w3 W0 c a0 len cap B T y (sysV pa y.pn pc sa y.sn sc wa y.wn wc ha y.hn hh)/\y.Good/\w.heap.size<B/\T<=w3.heap.size/\Bx w3 w.heap.size (.slice none 0 0) (.slice none 0 0) (.slice none 0 0) (.slice none 0 0)):=⟨⟨dk.cu,dk.sy,C0.out.2.1.trans dk.gr,dk.lt⟩,gd,by have:=C0.out.2.2.2;omega,hT,C0.out.2.2.1.grown dk.gr (by simp;omega)⟩
 clear gd dk hB hT C0
 obtain ⟨⟨r0,r1,r2,r3⟩,rf⟩:=K3.out.2.2.2.2
 have l3:w.heap.size<w3.heap.size:=zJ w3 _ r0
 have hN:=K3.out.2.2.1
 have hTT:=K3.out.2.2.2.1
 go_wp2
 refine bodyPost_ret (v:=sysV pa y.pn pc sa y.sn sc wa y.wn wc ha y.hn hh) (by simp [results,Tryz.results31,go_sem,r0,r1,r2,r3,l3]) rfl ⟨B,T,y,pa,sa,wa,ha,pc,sc,wc,hh,rfl,K3.out.2.1,?_,by omega,by simp;omega⟩
 repeat (first | exact K3.out.1 | (refine DK.alloc ?_ _)|(refine DK.set ?_ (by first | omega | simp) (by first | omega | simp) (by first | omega | simp) (by omega) _ _))
theorem hasBlock_regs {p code:Int} {ra oa:Option Addr} {rn rc on oc k:Nat} (h:(Value.slice ra rn rc).ownBlock=some k):hasBlock (stV p ra rn rc oa on oc code) k:=⟨_,_,_,_,rfl,.inl h⟩
theorem LS.reg {w:World} {P:Nat->Prop} {v:Value} {n:Nat} {vs:Nat->Value} {S:Nat->S4} (o:LS w P v n vs S) {i:Nat} (hi:i<n) (h2:(S i).rs.length=4) (x:Int):∃ g cap rb rn rc oa oc,v=.slice (some ⟨g,0,none⟩) n cap/\w.cell? ⟨g,i*4+1,none⟩=some (.slice (some ⟨rb,0,none⟩) 4 rc)/\rn=4/\oa=0/\oc=0/\w.cell? ⟨rb,1,none⟩=some (.int .i64 (zi (S i).rs 1))/\w.frozen? ⟨rb,1,none⟩=false/\P g/\P rb/\rb<w.heap.size/\g<w.heap.size/\LS (w.setCell ⟨rb,1,none⟩ (.int .i64 x)) P v n vs (fun j=>if j=i then ⟨(S i).p,(S i).rs.set 1 x,(S i).os,(S i).c⟩ else S j):=by
 obtain ⟨g,cap,rfl,hPg,hg,⟨a1,c1,a2,c2,ev,-,hc1,-,-⟩,-⟩:=o.cell hi
 have hso:=o.own i hi
 rw [ev] at hso
 obtain ⟨o1,o2,hap⟩:=hso.parts
 obtain ⟨rb,cap1,er,hb1,hb2⟩:=o1.block (by rw [h2];omega)
 have hhas:hasBlock (vs i) rb:=by
  rw [ev]
  exact hasBlock_regs (by rw [er];rfl)
 rw [h2] at er
 simp only [Value.slice.injEq] at er
 obtain ⟨rfl,-,ec⟩:=er
 subst ec
 have o1':OwnI w 0 (.slice (some ⟨rb,0,none⟩) (S i).rs.length c1) (S i).rs:=o1
 have hcell:=o1'.cell (j:=1) (by rw [h2];omega)
 have hfr:=o1'.frozen 1
 rw [h2] at hc1
 refine ⟨g,cap,rb,4,c1,0,0,rfl,hc1,rfl,rfl,rfl,hcell,hfr,hPg,o.ob i hi rb hhas,hb2,hg,?_⟩
 have hkeep:∀ k,k≠rb->(w.setCell ⟨rb,1,none⟩ (.int .i64 x)).heap[k]? = w.heap[k]?:=fun k hk=>zO _ _ _ _ hk
 refine ⟨ownsRow_blkL o.row fun k hk=>hkeep k fun e=>o.ra i hi rb hhas (by rw [<- e];exact hk),fun j hj=>?_,o.rb,o.ob,o.ra,o.oa⟩
 by_cases ej:j=i
 ·subst ej
  simp only [if_true]
  have hs:=(o1'.set (n:=(S j).rs.length) rfl 1 x).1
  rw [ev]
  exact ⟨_,_,rfl,hs,o2.blk fun k hk=>hkeep k fun e=>hap rb rfl (by rw [<- e];exact hk),hap⟩
 ·simp only [if_neg ej]
  exact (o.own j hj).blk fun k hk=>hkeep k fun e=>o.oa i j hi hj (fun h=>ej h.symm) rb hhas (by rw [<- e];exact hk)
theorem src_own {w:World} {B n c sz:Nat} {e:TypeId} {a:Option Addr} {xs:List Value} (o:w.ownsRow B e sz (.slice a n c) n xs) (hl:xs.length=n*sz):Src w a xs:=by
 rcases o.2 with ⟨e1,h0⟩ | ⟨g,cap,cur,e1,hb,_⟩
 ·exact .inl (List.eq_nil_of_length_eq_zero (by rw [hl,h0,Nat.zero_mul]))
 ·simp only [Value.slice.injEq] at e1
  obtain ⟨rfl,-,rfl⟩:=e1
  refine .inr ⟨g,0,rfl,(o.lt g rfl).2,fun j u hj=>?_⟩
  have hlt:j<xs.length:=by
   rcases Nat.lt_or_ge j xs.length with h | h
   ·exact h
   ·rw [List.getElem?_eq_none h] at hj
    cases hj
  rw [Nat.zero_add,World.ownsRow.cellAt o j (by omega)]
  exact hj
theorem flat_cons (f:Nat->List Value):∀ n,flat f (n+1)=f 0 ++ flat (fun i=>f (i+1)) n
 | 0=>by simp [flat]
 | n+1=>by
  rw [flat,flat_cons f n,List.append_assoc]
  rfl
theorem fT_cons (H:Nat->I2) (x:I2) (n:Nat):fT (fun i=>if i=0 then x else H (i - 1)) (n+1)=cT x ++ fT H n:=by
 show flat (fun i=>cT (if i=0 then x else H (i - 1))) (n+1)=_
 rw [flat_cons]
 rfl
def SysIn.shift (x:SysIn) (A:Option Addr) (C:Nat):SysIn:={ x with wa:=A,wn:=x.wn - 1,wc:=C,wA:=fun i=>x.wA (i+1),wL:=fun i=>x.wL (i+1),wC:=fun i=>x.wC (i+1),wH:=fun i=>x.wH (i+1) }
theorem SysG.shift {w:World} {x:SysIn} (h:SysG w x) {g:Nat} {A:Option Addr} {C:Nat} (hw:x.wa=some ⟨g,0,none⟩) (hA:x.wn<=1\/A=some ⟨g,1,none⟩):SysG w (x.shift A C):=by
 refine ⟨h.p,h.pi,h.s,?_,fun i hi=>h.wi (i+1) (by have h1:i<x.wn - 1:=hi;omega),h.h,h.hi⟩
 show RowS w A (x.wn - 1) fun i=>.slice (x.wA (i+1)) (x.wL (i+1)) (x.wC (i+1))
 rcases hA with h1 | rfl
 ·exact .inl (by omega)
 ·rcases h.w with h0 | ⟨b,off,e,hlt,hc⟩
  ·exact .inl (by omega)
  ·rw [hw] at e
   simp only [Option.some.injEq,Addr.mk.injEq] at e
   obtain ⟨rfl,rfl,-⟩:=e
   refine .inr ⟨g,1,rfl,hlt,fun i hi=>?_⟩
   have:=hc (i+1) (by omega)
   rwa [show 0+(i+1)=1+i by omega] at this
theorem SysX.shift {w:World} {B T:Nat} {x:SysIn} (h:SysX w B T x) {g:Nat} {A:Option Addr} {C:Nat} (hw:x.wa=some ⟨g,0,none⟩) (hA:x.wn<=1\/A=some ⟨g,1,none⟩):SysX w B T (x.shift A C):=
 ⟨fun w' hb=>(h.g w' hb).shift hw hA,h.cap,⟨fun i hi=>h.nn.w (i+1) (by have h1:i<x.wn - 1:=hi;omega),h.nn.h⟩⟩
def Sy.setP (y:Sy) (i m:Nat) (H:Nat->I5):Sy:={ y with pL:=fun j=>if j=i then m else y.pL j,pH:=fun j=>if j=i then H else y.pH j }
theorem OwnS.putP {z:Bool} {w w1:World} {B:Nat} {c:Nat->Nat} {y:Sy} {vs vw vh:Value} {g cap:Nat} {up us uw uh:Nat->Value} (o:OwnS z w B c y (.slice (some ⟨g,0,none⟩) y.pn cap) vs vw vh up us uw uh) {i:Nat} (hi:i<y.pn) {u':Value} {m:Nat} {H':Nat->I5} (hB:B<=w.heap.size) (hs:w.heap.size<=w1.heap.size) (g1:∀ k,k<w.heap.size->(up i).ownBlock≠some k->w1.heap[k]? = w.heap[k]?)
  (hu:w1.ownsRow 0 84 5 u' m (fI H' m)) (hne:u'≠.slice none 0 0) (hb:∀ k,u'.ownBlock=some k->(up i).ownBlock=some k\/w.heap.size<=k):
  OwnS z (w1.setCell ⟨g,i,none⟩ u') B (rcol c w.heap.size 1) (y.setP i m H') (.slice (some ⟨g,0,none⟩) y.pn cap) vs vw vh (fun j=>if j=i then u' else up j) us uw uh:=by
 have hP:∀ q k,Cl B c q k->k<w.heap.size->Cl B (rcol c w.heap.size 1) q k:=fun q k h hl=>h.old hl
 have hg:Cl B c 1 g:=o.p.rb g rfl
 have hk:∀ q,q≠1->∀ k,Cl B (rcol c w.heap.size 1) q k->k<w.heap.size->(w1.setCell ⟨g,i,none⟩ u').heap[k]? = w.heap[k]?:=fun q hq k h hl=>by
  have e:c k=q:=(rcol_old hl).symm.trans h.2
  refine (zO _ _ _ _ fun ek=>hq ?_).trans (g1 k hl fun ek=>hq ?_)
  ·rw [<- e,ek];exact hg.2
  ·rw [<- e];exact (o.p.ob i hi k ek).2
 refine ⟨?_,(o.s.mono (hP 2)).keep (hk 2 (by decide)),(o.t.mono (hP 3)).keep (hk 3 (by decide)),(o.h.mono (hP 4)).keep (hk 4 (by decide))⟩
 have h:=LL.put o.p hi hs g1 hu (fun _=>hne) hb (P':=Cl B (rcol c w.heap.size 1) 1) (hP 1) fun k h _=>⟨zP hB h,rcol_new h⟩
 have e:(fun j=>if j=i then fI H' m else fI (y.pH j) (y.pL j))=fun j=>fI ((y.setP i m H').pH j) ((y.setP i m H').pL j):=funext fun j=>by
  by_cases q:j=i
  ·simp [Sy.setP,q]
  ·simp [Sy.setP,q]
 rw [e] at h
 exact h
def World.cut (w:World) (n:Nat):World:={ w with heap:=w.heap.extract 0 n }
theorem cut_size (w:World) {n:Nat} (h:n<=w.heap.size):(World.cut w n).heap.size=n:=by simp [World.cut];omega
theorem cut_block (w:World) {n k:Nat} (h:n<=w.heap.size) (hk:k<n):(World.cut w n).heap[k]? = w.heap[k]?:=by
 simp only [World.cut]
 rw [Array.getElem?_extract]
 simp
 omega
def DrwS (w:World) (W0 c:Nat) (a0:Option Addr) (len cap:Nat) (e:Ending) (w':World):Prop:=∃ (x:SysIn) (B T:Nat),e=.returned x.v/\x.y.Sm/\SysX w' B T x/\Cur w' W0 c a0 len cap/\w.grownBy w' (some c)/\c<B/\T<=w'.heap.size
theorem SysX.keep {w w':World} {B T:Nat} {x:SysIn} (h:SysX w B T x) (hs:w.heap.size<=w'.heap.size) (hb:∀ b,B<=b->b<T->b<w.heap.size->w'.heap[b]? = w.heap[b]?):SysX w' B T x:=
 ⟨fun w2 h2=>h.g w2 fun b h1 h3 h4=>(h2 b h1 h3 (by omega)).trans (hb b h1 h3 h4),h.cap,h.nn⟩
def DrwSB (w:World) (W0 c:Nat) (a0:Option Addr) (len cap:Nat) (e:Ending) (w':World):Prop:=∃ (x:SysIn) (B T:Nat),e=.returned x.v/\x.y.Sm/\SysX w' B T x/\Cur w' W0 c a0 len cap/\w.grownBy w' (some c)/\(c<B/\w.heap.size<=B)/\T<=w'.heap.size
theorem DrwS.fin {w wz:World} {W0 c len cap N B T:Nat} {a0:Option Addr} {x:SysIn} (hX:SysX wz B T x) (hs:x.y.Sm) (hc:Cur wz W0 c a0 len cap) (hg:w.grownBy wz (some c)) (hcB:c<B) (hN:N<B) (hNw:w.heap.size<=N) (hcN:c≠N) (hW:W0<=N) (hT:T<=wz.heap.size) (u0 u1 u2 u3:Value):DrwSB w W0 c a0 len cap (.returned x.v) ((((wz.setCell ⟨N,0,none⟩ u0).setCell ⟨N,1,none⟩ u1).setCell ⟨N,2,none⟩ u2).setCell ⟨N,3,none⟩ u3):=by
 have h1:∀ (wx:World) (j:Nat) (u:Value),SysX wx B T x/\Cur wx W0 c a0 len cap/\w.grownBy wx (some c)/\T<=wx.heap.size->SysX (wx.setCell ⟨N,j,none⟩ u) B T x/\Cur (wx.setCell ⟨N,j,none⟩ u) W0 c a0 len cap/\w.grownBy (wx.setCell ⟨N,j,none⟩ u) (some c)/\T<=(wx.setCell ⟨N,j,none⟩ u).heap.size:=fun wx j u ⟨a,b,d,e⟩=>by
  have hgg:wx.grownBy (wx.setCell ⟨N,j,none⟩ u) (some N):=zV (World.grownBy.refl _ _) (.inl rfl) u
  exact ⟨a.keep (by simp) fun b hb _ hl=>hgg.block b hl (by simp;omega),b.kept hgg (fun e=>hcN (by simpa using e)) (fun k hk=>by cases hk;exact hW),d.andThen hgg (fun k hk=>by cases hk;exact .inl hNw),by simpa using e⟩
 obtain ⟨a,b,d,e⟩:=h1 _ 3 u3 (h1 _ 2 u2 (h1 _ 1 u1 (h1 _ 0 u0 ⟨hX,hc,hg,hT⟩)))
 exact ⟨x,B,T,rfl,hs,a,b,d,⟨hcB,by omega⟩,e⟩
theorem sysV_inj {pa sa wa ha:Option Addr} {pn pc sn sc wn wc hn hc:Nat} {vp vs vw vh:Value} (h:sysV pa pn pc sa sn sc wa wn wc ha hn hc=.agg #[vp,vs,vw,vh]):vp=.slice pa pn pc/\vs=.slice sa sn sc/\vw=.slice wa wn wc/\vh=.slice ha hn hc:=by
 simp only [sysV,Value.agg.injEq,Array.mk.injEq,List.cons.injEq,and_true] at h
 exact ⟨h.1.symm,h.2.1.symm,h.2.2.1.symm,h.2.2.2.symm⟩
structure KX (w wr:World) (W0 c:Nat) (a0:Option Addr) (len cap N B T:Nat) (col:Nat->Nat) (y:Sy) (vp vs vw vh:Value) (up us uw uh:Nat->Value):Prop where
 cu:Cur wr W0 c a0 len cap
 gr:w.grownBy wr (some c)
 ow:OwnS false wr B col y vp vs vw vh up us uw uh
 b4:Bx wr w.heap.size (.slice none 0 0) (.slice none 0 0) (.slice none 0 0) (.slice none 0 0)
 b5:Bx wr N vp vs vw vh
 tp:∀ b,T<=b->col b=0
 sz:c<w.heap.size/\w.heap.size<B/\T<=N/\w.heap.size<N
section
variable {w wr w':World} {W0 c len cap N B T:Nat} {a0:Option Addr} {col:Nat->Nat} {y:Sy} {vp vs vw vh:Value} {up us uw uh:Nat->Value}
theorem OwnS.kept {z:Bool} (o:OwnS z wr B col y vp vs vw vh up us uw uh) (h:∀ k,B<=k->k<wr.heap.size->w'.heap[k]? = wr.heap[k]?):OwnS z w' B col y vp vs vw vh up us uw uh:=
 ⟨o.p.keep fun k hk hl=>h k hk.1 hl,o.s.keep fun k hk hl=>h k hk.1 hl,o.t.keep fun k hk hl=>h k hk.1 hl,o.h.keep fun k hk hl=>h k hk.1 hl⟩
theorem KX.draw (h:KX w wr W0 c a0 len cap N B T col y vp vs vw vh up us uw uh) (hc:Cur w' W0 c a0 len cap) (hg:wr.grownBy w' (some c)):KX w w' W0 c a0 len cap N B T col y vp vs vw vh up us uw uh:=
 ⟨hc,h.gr.trans hg,h.ow.kept fun k hk hl=>hg.block k hl (by have:=h.sz;simp;omega),h.b4.grown hg (by have:=h.sz;simp;omega),h.b5.grown hg (by have:=h.sz;simp;omega),h.tp,h.sz⟩
theorem KX.below (h:KX w wr W0 c a0 len cap N B T col y vp vs vw vh up us uw uh) (hb:Below wr.heap.size wr w'):KX w w' W0 c a0 len cap N B T col y vp vs vw vh up us uw uh:=
 ⟨h.cu.kept (zZ hb) (by simp) (fun k hk=>by cases hk),h.gr.andThen (zZ hb) (fun j hj=>by cases hj),h.ow.below hb,h.b4.below hb,h.b5.below hb,h.tp,h.sz⟩
theorem KX.apart (h:KX w wr W0 c a0 len cap N B T col y vp vs vw vh up us uw uh) {i g:Nat} (hi:i≠0) (hg:Cl B col i g):g≠c/\g≠w.heap.size/\g≠N/\w.heap.size<g:=by
 have h1:B<=g:=hg.1
 have h2:col g=i:=hg.2
 have h3:g<T:=by
  apply Classical.byContradiction
  intro hn
  have:=h.tp g (by omega)
  omega
 have:=h.sz
 omega
end
theorem l6Draw_anyB (W0 c len cap:Nat) (a0:Option Addr) (w:World) (hc:Cur w W0 c a0 len cap):
  Calls Tryz.prog 14 #[.pointer (some ⟨c,0,none⟩),.slice a0 len cap] w (DrwSB w W0 c a0 len cap):=by
 have hcl:c<w.heap.size:=hc.lt
 have hcg:W0<=c:=hc.ge
 have C0:Hid (Cur (w.alloc (zQ3)) W0 c a0 len cap/\w.grownBy (w.alloc (zQ3)) (some c)/\Bx (w.alloc (zQ3)) w.heap.size (.slice none 0 0) (.slice none 0 0) (.slice none 0 0) (.slice none 0 0)/\(w.alloc (zQ3)).heap.size=w.heap.size+1):=⟨hc.alloc _,World.grownBy_alloc _ _ _,Bx.new w _ _ _ _ _,by simp⟩
 clear hc
 go_enter Tryz.func14,Tryz.ntmps14
 go_wp2_with fail
 generalize w.alloc (zQ3)=W2 at *
 refine (l6DrawRight_any W0 c len cap a0 W2 C0.out.1).mono ?_
 rintro e w1 ⟨B,T,y,pa,sa,wa,ha,pc,sc,wc,hh,rfl,gd,dk,hB,hT⟩
 have KA:Hid (DK w (w1.alloc (oQ4 pa y.pn pc sa y.sn sc wa y.wn wc ha y.hn hh)) W0 c a0 len cap B T y (sysV pa y.pn pc sa y.sn sc wa y.wn wc ha y.hn hh)/\Bx (w1.alloc (oQ4 pa y.pn pc sa y.sn sc wa y.wn wc ha y.hn hh)) w.heap.size (.slice none 0 0) (.slice none 0 0) (.slice none 0 0) (.slice none 0 0)/\Bx (w1.alloc (oQ4 pa y.pn pc sa y.sn sc wa y.wn wc ha y.hn hh)) w1.heap.size (.slice pa y.pn pc) (.slice sa y.sn sc) (.slice wa y.wn wc) (.slice ha y.hn hh)):=⟨DK.alloc ⟨dk.cu,dk.sy,C0.out.2.1.trans dk.gr,dk.lt⟩ _,(C0.out.2.2.1.grown dk.gr (by simp;omega)).below (zQ _ _),Bx.new _ _ _ _ _ _⟩
 have HS:Hid (w.heap.size<B/\T<=w1.heap.size/\w.heap.size<w1.heap.size):=⟨by have:=C0.out.2.2.2;omega,hT,by have:=C0.out.2.2.2;have:=dk.gr.size;omega⟩
 have HG:Hid y.Good:=gd
 have hpn:y.pn<=16:=gd.sm.n.1
 have hpn':(y.pn:Int)<=16:=by omega
 clear gd dk hB hT C0
 go_wp2_with fail
 generalize w1.alloc (oQ4 pa y.pn pc sa y.sn sc wa y.wn wc ha y.hn hh)=wA at *
 generalize w1.heap.size=N at *
 refine (l1Max_any _ _ _).mono ?_
 rintro e wB ⟨n,rfl,⟨n1,n2,n3⟩,rfl⟩
 go_wp2_with fail
 refine (zY W0 c len cap a0 n wB KA.out.1.cu n2 (by omega)).mono ?_
 rintro e w2 ⟨pp,rfl,⟨p0,p1⟩,hc2,hg2⟩
 have KB:Hid (DK w w2 W0 c a0 len cap B T y (sysV pa y.pn pc sa y.sn sc wa y.wn wc ha y.hn hh)/\Bx w2 w.heap.size (.slice none 0 0) (.slice none 0 0) (.slice none 0 0) (.slice none 0 0)/\Bx w2 N (.slice pa y.pn pc) (.slice sa y.sn sc) (.slice wa y.wn wc) (.slice ha y.hn hh)):=⟨KA.out.1.draw hc2 hg2,KA.out.2.1.grown hg2 (by simp;omega),KA.out.2.2.grown hg2 (by have:=HS.out;simp;omega)⟩
 clear hc2 hg2 KA
 obtain ⟨p,rfl⟩:∃ p:Nat,pp=p:=⟨pp.toNat,by omega⟩
 have hNN:w.heap.size≠N:=by have:=HS.out;omega
 by_cases h0:y.pn=0
 ·have h0':((y.pn:Int) == 0)=true:=by simp [h0]
  clear h0
  obtain ⟨⟨r0,r1,r2,r3⟩,rf⟩:=KB.out.2.1
  obtain ⟨⟨b0,b1,b2,b3⟩,-⟩:=KB.out.2.2
  go_wp2
  obtain ⟨x,ev,ey,hX⟩:=KB.out.1.sy.x
  refine bodyPost_ret (v:=(sysV pa y.pn pc sa y.sn sc wa y.wn wc ha y.hn hh)) (by simp [results,Tryz.results14,go_sem,r0,r1,r2,r3]) rfl ?_
  rw [ev]
  exact DrwS.fin hX (by rw [ey];exact HG.out.sm) KB.out.1.cu KB.out.1.gr KB.out.1.lt HS.out.1 (Nat.le_refl _) (by omega) (by omega) (by have:=KB.out.2.2.lt;have:=HS.out;omega) _ _ _ _
 have h0':((y.pn:Int) == 0)=false:=by
  have:¬ (y.pn:Int)=0:=by omega
  simpa using this
 have HO:Hid y.Ok:=HG.out.elim id fun h=>absurd h.1 h0
 have hpp:p<y.pn:=by omega
 obtain ⟨b0,-,-,-⟩:=KB.out.2.2.bx
 go_wp2_with fail
 clear b0
 refine (zY W0 c len cap a0 25 w2 KB.out.1.cu (by omega) (by omega)).mono ?_
 rintro e w3 ⟨jj,rfl,⟨j0,j1⟩,hc3,hg3⟩
 have KC:Hid (DK w w3 W0 c a0 len cap B T y (sysV pa y.pn pc sa y.sn sc wa y.wn wc ha y.hn hh)/\Bx w3 w.heap.size (.slice none 0 0) (.slice none 0 0) (.slice none 0 0) (.slice none 0 0)/\Bx w3 N (.slice pa y.pn pc) (.slice sa y.sn sc) (.slice wa y.wn wc) (.slice ha y.hn hh)):=⟨KB.out.1.draw hc3 hg3,KB.out.2.1.grown hg3 (by simp;omega),KB.out.2.2.grown hg3 (by have:=HS.out;simp;omega)⟩
 clear hc3 hg3 KB HG
 by_cases e0:jj=0
 ·subst e0
  obtain ⟨col,vp,vs,vw,vh,up,us,uw,uh,ev,o,ht⟩:=KC.out.1.sy
  obtain ⟨rfl,rfl,rfl,rfl⟩:=sysV_inj ev
  have hsn:y.sn=y.pn:=HO.out.cn.2.1
  have hps:p<y.sn:=by omega
  have hps':(p:Int)<(y.sn:Int):=by omega
  clear hsn
  obtain ⟨g,cg,rb,rn,rc,oa,oc,eg,cr,-,-,-,cz,fz,Pg,Pr,lr,lg,ls⟩:=o.s.reg hps (HO.out.st (p:=p) hpp).len.1 5
  simp only [Value.slice.injEq] at eg
  obtain ⟨rfl,-,rfl⟩:=eg
  have hrT:rb<T:=by
   apply Classical.byContradiction
   intro hn
   have h1:=ht rb (by omega)
   have h2:col rb=2:=Pr.2
   omega
  have hrN:N≠rb:=by have:=HS.out;omega
  have hrM:w.heap.size≠rb:=by have h1:B<=rb:=Pr.1;have:=HS.out;omega
  have hrc:c≠rb:=by have h1:B<=rb:=Pr.1;have:=HS.out;omega
  obtain ⟨⟨r0,r1,r2,r3⟩,rf⟩:=(KC.out.2.1.set (j:=1) (u:=.int .i64 5) hrM)
  obtain ⟨⟨b0,b1,b2,b3⟩,-⟩:=(KC.out.2.2.set (j:=1) (u:=.int .i64 5) hrN)
  obtain ⟨⟨e0,e1,e2,e3⟩,-⟩:=KC.out.2.2
  have SZ:Hid (SysT (w3.setCell ⟨rb,1,none⟩ (.int .i64 5)) B T (y.setS p ⟨(y.sS p).p,(y.sS p).rs.set 1 5,(y.sS p).os,(y.sS p).c⟩) (sysV pa y.pn pc (some ⟨g,0,none⟩) y.sn sc wa y.wn wc ha y.hn hh)):=by
   have hk:∀ q,q≠2->∀ k,Cl B col q k->k<w3.heap.size->(w3.setCell ⟨rb,1,none⟩ (.int .i64 5)).heap[k]? = w3.heap[k]?:=fun q hq k hk _=>zO _ _ _ _ fun e=>hq (by rw [<- hk.2,show k=rb from e];exact Pr.2)
   exact ⟨col,_,_,_,_,up,us,uw,uh,rfl,⟨o.p.keep (hk 1 (by decide)),ls,o.t.keep (hk 3 (by decide)),o.h.keep (hk 4 (by decide))⟩,ht⟩
  have SM:Hid (y.setS p ⟨(y.sS p).p,(y.sS p).rs.set 1 5,(y.sS p).os,(y.sS p).c⟩).Sm:=by
   have hm:=HO.out.sm
   refine ⟨hm.n,hm.p,fun i hi=>?_,hm.w,hm.h⟩
   show ((if i=p then _ else y.sS i:S4)).rs.length<=1000/\((if i=p then _ else y.sS i:S4)).os.length<=1000
   by_cases ei:i=p
   ·subst ei
    simp only [if_true,List.length_set]
    exact hm.s i hi
   ·rw [if_neg ei]
    exact hm.s i hi
  have KZ:Hid (Cur (w3.setCell ⟨rb,1,none⟩ (.int .i64 5)) W0 c a0 len cap/\w.grownBy (w3.setCell ⟨rb,1,none⟩ (.int .i64 5)) (some c)):=by
   have hgg:w3.grownBy (w3.setCell ⟨rb,1,none⟩ (.int .i64 5)) (some rb):=zV (World.grownBy.refl _ _) (.inl rfl) _
   have h1:B<=rb:=Pr.1
   have:=HS.out
   exact ⟨KC.out.1.cu.kept hgg (fun e=>hrc (by simpa using e)) (fun k hk=>by cases hk;omega),KC.out.1.gr.andThen hgg (fun k hk=>by cases hk;exact .inl (by omega))⟩
  clear o ht ls ev
  go_upto_region 20 with fail
  clear e0 e1 e2 e3 cr cz fz
  generalize w3.setCell ⟨rb,1,none⟩ (.int .i64 5)=wz at *
  go_wp2
  obtain ⟨x,ev,ey,hX⟩:=SZ.out.x
  refine bodyPost_ret (v:=(sysV pa y.pn pc (some ⟨g,0,none⟩) y.sn sc wa y.wn wc ha y.hn hh)) (by simp [results,Tryz.results14,go_sem,r0,r1,r2,r3]) rfl ?_
  rw [show (sysV pa y.pn pc (some ⟨g,0,none⟩) y.sn sc wa y.wn wc ha y.hn hh)=x.v from ev]
  exact DrwS.fin hX (by rw [ey];exact SM.out) KZ.out.1 KZ.out.2 KC.out.1.lt HS.out.1 (Nat.le_refl _) (by omega) (by omega) (by have:=zJ wz _ b0;have:=HS.out;simp at *;omega) _ _ _ _
 have t0:(jj == 0)=false:=by simpa using e0
 by_cases e1:jj=1
 ·subst e1
  clear t0 e0
  obtain ⟨col,vp,vs,vw,vh,up,us,uw,uh,ev,o,ht⟩:=KC.out.1.sy
  obtain ⟨rfl,rfl,rfl,rfl⟩:=sysV_inj ev
  have hsn:y.sn=y.pn:=HO.out.cn.2.1
  have hhn:y.hn=y.pn:=HO.out.cn.2.2.1
  have hph:p<y.hn:=by omega
  have hph':(p:Int)<(y.hn:Int):=by omega
  clear hsn hhn
  have KX3:Hid (KX w w3 W0 c a0 len cap N B T col y (.slice pa y.pn pc) (.slice sa y.sn sc) (.slice wa y.wn wc) (.slice ha y.hn hh) up us uw uh):=⟨KC.out.1.cu,KC.out.1.gr,o,KC.out.2.1,KC.out.2.2,ht,hcl,HS.out.1,HS.out.2.1,HS.out.2.2⟩
  clear o ht ev KC
  obtain ⟨g,chh,eh,Pg,lg,cg,fg⟩:=KX3.out.ow.h.cell hph
  simp only [Value.slice.injEq] at eh
  obtain ⟨rfl,-,rfl⟩:=eh
  obtain ⟨ua,uc,eu⟩:=zU (KX3.out.ow.h.own p hph)
  rw [eu] at cg
  have hN3:=KX3.out.b5.bx.2.2.2
  have hlp:y.hL p<=200:=HO.out.le200 hpp
  have AP:Hid (g≠c/\g≠w.heap.size/\g≠N/\w.heap.size<g):=KX3.out.apart (by decide) Pg
  go_upto_region 9 with fail
  refine wp_region_G (fun w'=>w'.cell? ⟨N,3,none⟩=some (.slice (some ⟨g,0,none⟩) y.hn hh)/\w'.cell? ⟨g,p,none⟩=some (.slice ua (y.hL p) uc)) (fun i=>i == 18) (by kernel_rfl) ?_
  have hHeld:=And.intro hN3 cg
  refine wpGT_of [0,1,2,3,4,5,6,7,8,10,12] ?_
  iterate 11 (refine wpGT_k rfl hHeld ?_)
  refine wpGT_nil ?_
  refine wpG_one 9 rfl (by kernel_rfl) (fun K hK=>?_)
  refine stepR_call rfl 29 _ _ rfl #[.pointer (some ⟨c,0,none⟩),.int .i64 5] (by simp [Act.eval]) (yA Tryz.func29 (by kernel_rfl) rfl) (zY W0 c len cap a0 5 w3.drew KX3.out.cu.drew (by omega) (by omega)) ?_
  rintro e w4 ⟨k1,rfl,-,hc9,hg9⟩
  refine ⟨_,rfl,?_⟩
  have hg9':w3.grownBy w4 (some c):=⟨hg9.os,hg9.tape,hg9.output,hg9.size,hg9.block⟩
  have KX4:Hid (KX w w4 W0 c a0 len cap N B T col y (.slice pa y.pn pc) (.slice sa y.sn sc) (.slice wa y.wn wc) (.slice (some ⟨g,0,none⟩) y.hn hh) up us uw uh):=KX3.out.draw hc9 hg9'
  have hHeld:=And.intro KX4.out.b5.bx.2.2.2 ((zH (hg9'.block g lg (by have:=AP.out;simp;omega))).trans hHeld.2)
  have lg4:g<w4.heap.size:=zL lg hg9'.size
  refine hK.out _ _ (fun _=>hHeld) ?_
  clear hc9 hg9 hg9'
  clear hK K
  (try simp only [Act.put,zD,zE,zF])
  refine wpG_one 11 rfl (by kernel_rfl) (fun K hK=>?_)
  refine stepR_call rfl 29 _ _ rfl #[.pointer (some ⟨c,0,none⟩),.int .i64 3] (by simp [Act.eval]) (yA Tryz.func29 (by kernel_rfl) rfl) (zY W0 c len cap a0 3 w4 KX4.out.cu (by omega) (by omega)) ?_
  rintro e w5 ⟨k2,rfl,-,hc9,hg9⟩
  refine ⟨_,rfl,?_⟩
  have hg9':w4.grownBy w5 (some c):=⟨hg9.os,hg9.tape,hg9.output,hg9.size,hg9.block⟩
  have KX5:Hid (KX w w5 W0 c a0 len cap N B T col y (.slice pa y.pn pc) (.slice sa y.sn sc) (.slice wa y.wn wc) (.slice (some ⟨g,0,none⟩) y.hn hh) up us uw uh):=KX4.out.draw hc9 hg9'
  have hHeld:=And.intro KX5.out.b5.bx.2.2.2 ((zH (hg9'.block g lg4 (by have:=AP.out;simp;omega))).trans hHeld.2)
  have lg5:g<w5.heap.size:=zL lg4 hg9'.size
  refine hK.out _ _ (fun _=>hHeld) ?_
  clear hc9 hg9 hg9'
  clear hK K
  (try simp only [Act.put,zD,zE,zF])
  refine wpG_one 13 rfl (by kernel_rfl) (fun K hK=>?_)
  refine stepR_call rfl 29 _ _ rfl #[.pointer (some ⟨c,0,none⟩),.int .i64 4] (by simp [Act.eval]) (yA Tryz.func29 (by kernel_rfl) rfl) (zY W0 c len cap a0 4 w5 KX5.out.cu (by omega) (by omega)) ?_
  rintro e w6 ⟨k3,rfl,-,hc9,hg9⟩
  refine ⟨_,rfl,?_⟩
  have hg9':w5.grownBy w6 (some c):=⟨hg9.os,hg9.tape,hg9.output,hg9.size,hg9.block⟩
  have KX6:Hid (KX w w6 W0 c a0 len cap N B T col y (.slice pa y.pn pc) (.slice sa y.sn sc) (.slice wa y.wn wc) (.slice (some ⟨g,0,none⟩) y.hn hh) up us uw uh):=KX5.out.draw hc9 hg9'
  have hHeld:=And.intro KX6.out.b5.bx.2.2.2 ((zH (hg9'.block g lg5 (by have:=AP.out;simp;omega))).trans hHeld.2)
  have lg6:g<w6.heap.size:=zL lg5 hg9'.size
  refine hK.out _ _ (fun _=>hHeld) ?_
  clear hc9 hg9 hg9'
  clear hK K
  (try simp only [Act.put,zD,zE,zF])
  refine wpG_k 14 rfl hHeld ?_
  refine wpG_one 15 rfl (by kernel_rfl) (fun K hK=>?_)
  go_simp
  have hca:=(bcell (zQ w6 (oQ0 k1 k2 k3))).1
  refine hK.out _ _ (fun _=>⟨(hca _ _ KX6.out.b5.lt).trans hHeld.1,(hca _ _ lg6).trans hHeld.2⟩) ?_
  clear hca
  clear hK K
  (try simp only [Act.put,zD,zE,zF])
  refine wpG_one 16 rfl (by kernel_rfl) (fun K hK=>?_)
  have OH2:w6.ownsRow 0 58 3 (.slice ua (y.hL p) uc) (y.hL p) (fE (y.hH p) (y.hL p)):=by
   have:=KX6.out.ow.h.own p hph
   rw [eu] at this
   exact this
  refine stepR_append_val kndE w6 rfl rfl _ _ rfl 0 (.slice ua (y.hL p) uc) (y.hL p) _ rfl OH2 #[.int .i64 k1,.int .i64 k2,.int .i64 k3] rfl rfl (by intro u hu;simp at hu;rcases hu with rfl | rfl | rfl <;> rfl) (by omega) (Nat.zero_le _) ?_
  intro v8 w8 o8 g8 q8 n8
  obtain ⟨a8,c8,rfl⟩:=zU o8
  have hob:∀ k,(Value.slice ua (y.hL p) uc).ownBlock=some k->Cl B col 4 k:=fun k hk=>KX6.out.ow.h.ob p hph k (by rw [eu];exact hk)
  have hgne:(Value.slice ua (y.hL p) uc).ownBlock≠some g:=fun e=>KX6.out.ow.h.ra p hph g (by rw [eu];exact e) rfl
  have hb8:∀ k,k<w6.heap.size->(Value.slice ua (y.hL p) uc).ownBlock≠some k->w8.heap[k]? = w6.heap[k]?:=fun k h1 h2=>g8.block k h1 fun e=>h2 e.symm
  have hap:∀ k,(Value.slice ua (y.hL p) uc).ownBlock=some k->k≠c/\k≠w.heap.size/\k≠N/\w.heap.size<k:=fun k hk=>KX6.out.apart (by decide) (hob k hk)
  have hHeld:=And.intro ((zH (hb8 N KX6.out.b5.lt (fun e=>(hap N e).2.2.1 rfl))).trans hHeld.1) ((zH (hb8 g lg6 hgne)).trans hHeld.2)
  have hfg:w8.frozen? ⟨g,p,none⟩=false:=by
   obtain ⟨g',cap',e',-,-,-,fr'⟩:=KX6.out.ow.h.cell hph
   simp only [Value.slice.injEq,Option.some.injEq,Addr.mk.injEq,and_true,true_and] at e'
   rw [zI (hb8 g lg6 hgne),e'.1]
   exact fr' p
  have SZ:Hid (SysT (w8.setCell ⟨g,p,none⟩ (.slice a8 (y.hL p+1) c8)) B w8.heap.size (y.setH p (y.hL p+1) (fun i=>if i=y.hL p then ⟨k1,k2,k3⟩ else y.hH p i)) (sysV pa y.pn pc sa y.sn sc wa y.wn wc (some ⟨g,0,none⟩) y.hn hh)):=by
   have h:=OwnS.putH KX6.out.ow hph (u':=.slice a8 (y.hL p+1) c8) (m:=y.hL p+1) (H':=fun i=>if i=y.hL p then ⟨k1,k2,k3⟩ else y.hH p i) (w1:=w8) (by have h1:B<=g:=Pg.1;omega) g8.size (fun k h1 h2=>hb8 k h1 (by rw [eu] at h2;exact h2)) (by rw [fE_push];exact o8) n8 (fun k hk=>(q8 k hk).imp (fun h=>by rw [eu];exact h) id)
   have h2:=h.sysT
   rw [World.size_setCell] at h2
   exact h2
  have KZ:Hid (Cur (w8.setCell ⟨g,p,none⟩ (.slice a8 (y.hL p+1) c8)) W0 c a0 len cap/\w.grownBy (w8.setCell ⟨g,p,none⟩ (.slice a8 (y.hL p+1) c8)) (some c)/\Bx (w8.setCell ⟨g,p,none⟩ (.slice a8 (y.hL p+1) c8)) w.heap.size (.slice none 0 0) (.slice none 0 0) (.slice none 0 0) (.slice none 0 0)/\Bx (w8.setCell ⟨g,p,none⟩ (.slice a8 (y.hL p+1) c8)) N (.slice pa y.pn pc) (.slice sa y.sn sc) (.slice wa y.wn wc) (.slice (some ⟨g,0,none⟩) y.hn hh)):=by
   have hgg:w8.grownBy (w8.setCell ⟨g,p,none⟩ (.slice a8 (y.hL p+1) c8)) (some g):=zV (World.grownBy.refl _ _) (.inl rfl) _
   have hA:=AP.out
   have hW:=KX6.out.cu.ge
   refine ⟨(KX6.out.cu.kept g8 (fun e=>(hap c e.symm).1 rfl) (fun k hk=>by have:=hap k hk;omega)).kept hgg (fun e=>hA.1 (by simpa using e.symm)) (fun k hk=>by cases hk;omega),(KX6.out.gr.andThen g8 (fun k hk=>.inl (by have:=hap k hk;omega))).andThen hgg (fun k hk=>by cases hk;exact .inl (by omega)),(KX6.out.b4.grown g8 (fun e=>(hap _ e).2.1 rfl)).set (by omega),(KX6.out.b5.grown g8 (fun e=>(hap _ e).2.2.1 rfl)).set (by omega)⟩
  refine hK.out _ _ (fun _=>hHeld) ?_
  clear o8 g8 q8 n8 hb8
  clear hK K
  (try simp only [Act.put,zD,zE,zF])
  refine wpG_k 17 rfl hHeld ?_
  refine wpG_one 18 rfl (by kernel_rfl) (fun K hK=>?_)
  have hcN:=hHeld.2
  go_simp
  refine hK.out _ _ (fun h=>?_) ?_
  ·exact absurd h (by decide)
  clear hK K
  (try simp only [Act.put,zD,zE,zF])
  refine wpG_done (by kernel_rfl) ?_ _
  have SM:Hid (y.setH p (y.hL p+1) (fun i=>if i=y.hL p then ⟨k1,k2,k3⟩ else y.hH p i)).Sm:=by
   have hm:=HO.out.sm
   refine ⟨hm.n,hm.p,hm.s,hm.w,fun i hi=>?_⟩
   show (if i=p then y.hL p+1 else y.hL i)<=1000
   by_cases ei:i=p
   ·rw [if_pos ei];omega
   ·rw [if_neg ei];exact hm.h i hi
  have hTz:w8.heap.size<=(w8.setCell ⟨g,p,none⟩ (.slice a8 (y.hL p+1) c8)).heap.size:=by simp
  generalize w8.setCell ⟨g,p,none⟩ (.slice a8 (y.hL p+1) c8)=wz at *
  obtain ⟨⟨r0,r1,r2,r3⟩,rf⟩:=KZ.out.2.2.1
  obtain ⟨⟨b0,b1,b2,b3⟩,-⟩:=KZ.out.2.2.2
  have hsz:=KX3.out.sz
  have hW:=KX3.out.cu.ge
  clear hHeld
  go_wp2
  obtain ⟨x,ev,ey,hX⟩:=SZ.out.x
  refine bodyPost_ret (v:=(sysV pa y.pn pc sa y.sn sc wa y.wn wc (some ⟨g,0,none⟩) y.hn hh)) (by simp [results,Tryz.results14,go_sem,r0,r1,r2,r3]) rfl ?_
  rw [show (sysV pa y.pn pc sa y.sn sc wa y.wn wc (some ⟨g,0,none⟩) y.hn hh)=x.v from ev]
  exact DrwS.fin hX (by rw [ey];exact SM.out) KZ.out.1 KZ.out.2.1 (by omega) (by omega) (Nat.le_refl _) (by omega) (by omega) hTz _ _ _ _
 have t1:(jj == 1)=false:=by simpa using e1
 by_cases e2:jj=2
 ·subst e2
  clear t0 e0 t1 e1
  obtain ⟨col,vp,vs,vw,vh,up,us,uw,uh,ev,o,ht⟩:=KC.out.1.sy
  obtain ⟨rfl,rfl,rfl,rfl⟩:=sysV_inj ev
  have hsn:y.sn=y.pn:=HO.out.cn.2.1
  have hhn:y.hn=y.pn:=HO.out.cn.2.2.1
  have hph:p<y.hn:=by omega
  have hph':(p:Int)<(y.hn:Int):=by omega
  clear hsn hhn
  have KX3:Hid (KX w w3 W0 c a0 len cap N B T col y (.slice pa y.pn pc) (.slice sa y.sn sc) (.slice wa y.wn wc) (.slice ha y.hn hh) up us uw uh):=⟨KC.out.1.cu,KC.out.1.gr,o,KC.out.2.1,KC.out.2.2,ht,hcl,HS.out.1,HS.out.2.1,HS.out.2.2⟩
  clear o ht ev KC
  have hw1:1<=y.wn/\y.wn<=16:=by
   obtain ⟨⟨h1,h4⟩,-,-,hw⟩:=HO.out.cn
   rw [hw]
   exact ⟨Nat.mul_le_mul h1 h1,zP (Nat.mul_le_mul h4 h4) (by omega)⟩
  have b2:=KX3.out.b5.bx.2.2.1
  go_wp2_with fail
  refine (zY W0 c len cap a0 (y.wn:Nat) w3 KX3.out.cu (by omega) (by omega)).mono ?_
  rintro e w4 ⟨ii,rfl,⟨i0,i1⟩,hc4,hg4⟩
  have KX4:Hid (KX w w4 W0 c a0 len cap N B T col y (.slice pa y.pn pc) (.slice sa y.sn sc) (.slice wa y.wn wc) (.slice ha y.hn hh) up us uw uh):=KX3.out.draw hc4 hg4
  clear hc4 hg4 b2
  obtain ⟨iw,rfl⟩:∃ iw:Nat,ii=iw:=⟨ii.toNat,by omega⟩
  have hiw:iw<y.wn:=by omega
  have hiw':(iw:Int)<(y.wn:Int):=by omega
  have hlw:y.wL iw<=12:=HO.out.bds.2.2.1 iw hiw
  obtain ⟨g,cww,eh,Pg,lg,cg,fg⟩:=KX4.out.ow.t.cell hiw
  simp only [Value.slice.injEq] at eh
  obtain ⟨rfl,-,rfl⟩:=eh
  obtain ⟨ua,uc,eu⟩:=zU (KX4.out.ow.t.own iw hiw)
  rw [eu] at cg
  have hN3:=KX4.out.b5.bx.2.2.1
  have AP:Hid (g≠c/\g≠w.heap.size/\g≠N/\w.heap.size<g):=KX4.out.apart (by decide) Pg
  go_upto_region 12 with fail
  refine wp_region_G (fun w'=>w'.cell? ⟨N,2,none⟩=some (.slice (some ⟨g,0,none⟩) y.wn wc)/\w'.cell? ⟨g,iw,none⟩=some (.slice ua (y.wL iw) uc)) (fun i=>i == 16) (by kernel_rfl) ?_
  have hHeld:=And.intro hN3 cg
  refine wpGT_of [0,1,2,3,4,5,6,7,8,10] ?_
  iterate 10 (refine wpGT_k rfl hHeld ?_)
  refine wpGT_nil ?_
  refine wpG_one 9 rfl (by kernel_rfl) (fun K hK=>?_)
  refine stepR_call rfl 13 _ _ rfl #[.pointer (some ⟨c,0,none⟩),.int .i64 2] (by simp [Act.eval]) (yA Tryz.func13 (by kernel_rfl) rfl) (l1Once_any W0 c len cap a0 2 w4.drew KX4.out.cu.drew (by omega) (by omega)) ?_
  rintro e w5 ⟨k1,rfl,hc9,hg9⟩
  refine ⟨_,rfl,?_⟩
  have hg9':w4.grownBy w5 (some c):=⟨hg9.os,hg9.tape,hg9.output,hg9.size,hg9.block⟩
  have KX5:Hid (KX w w5 W0 c a0 len cap N B T col y (.slice pa y.pn pc) (.slice sa y.sn sc) (.slice (some ⟨g,0,none⟩) y.wn wc) (.slice ha y.hn hh) up us uw uh):=KX4.out.draw hc9 hg9'
  have hHeld:=And.intro KX5.out.b5.bx.2.2.1 ((zH (hg9'.block g lg (by have:=AP.out;simp;omega))).trans hHeld.2)
  have lg5:g<w5.heap.size:=zL lg hg9'.size
  refine hK.out _ _ (fun _=>hHeld) ?_
  clear hc9 hg9 hg9'
  clear hK K
  (try simp only [Act.put,zD,zE,zF])
  refine wpG_one 11 rfl (by kernel_rfl) (fun K hK=>?_)
  refine stepR_call rfl 29 _ _ rfl #[.pointer (some ⟨c,0,none⟩),.int .i64 2] (by simp [Act.eval]) (yA Tryz.func29 (by kernel_rfl) rfl) (zY W0 c len cap a0 2 w5 KX5.out.cu (by omega) (by omega)) ?_
  rintro e w6 ⟨k2,rfl,-,hc9,hg9⟩
  refine ⟨_,rfl,?_⟩
  have hg9':w5.grownBy w6 (some c):=⟨hg9.os,hg9.tape,hg9.output,hg9.size,hg9.block⟩
  have KX6:Hid (KX w w6 W0 c a0 len cap N B T col y (.slice pa y.pn pc) (.slice sa y.sn sc) (.slice (some ⟨g,0,none⟩) y.wn wc) (.slice ha y.hn hh) up us uw uh):=KX5.out.draw hc9 hg9'
  have hHeld:=And.intro KX6.out.b5.bx.2.2.1 ((zH (hg9'.block g lg5 (by have:=AP.out;simp;omega))).trans hHeld.2)
  have lg6:g<w6.heap.size:=zL lg5 hg9'.size
  refine hK.out _ _ (fun _=>hHeld) ?_
  clear hc9 hg9 hg9'
  clear hK K
  (try simp only [Act.put,zD,zE,zF])
  refine wpG_k 12 rfl hHeld ?_
  refine wpG_one 13 rfl (by kernel_rfl) (fun K hK=>?_)
  go_simp
  have hca:=(bcell (zQ w6 (.cells #[.bool k1,.int .i64 k2] 75))).1
  refine hK.out _ _ (fun _=>⟨(hca _ _ KX6.out.b5.lt).trans hHeld.1,(hca _ _ lg6).trans hHeld.2⟩) ?_
  clear hca
  clear hK K
  (try simp only [Act.put,zD,zE,zF])
  refine wpG_one 14 rfl (by kernel_rfl) (fun K hK=>?_)
  have OH2:w6.ownsRow 0 75 2 (.slice ua (y.wL iw) uc) (y.wL iw) (fT (y.wH iw) (y.wL iw)):=by
   have:=KX6.out.ow.t.own iw hiw
   rw [eu] at this
   exact this
  refine stepR_append_val kndT w6 rfl rfl _ _ rfl 0 (.slice ua (y.wL iw) uc) (y.wL iw) _ rfl OH2 #[.bool k1,.int .i64 k2] rfl rfl (by intro u hu;simp at hu;rcases hu with rfl | rfl <;> rfl) (by omega) (Nat.zero_le _) ?_
  intro v8 w8 o8 g8 q8 n8
  obtain ⟨a8,c8,rfl⟩:=zU o8
  have hob:∀ k,(Value.slice ua (y.wL iw) uc).ownBlock=some k->Cl B col 3 k:=fun k hk=>KX6.out.ow.t.ob iw hiw k (by rw [eu];exact hk)
  have hgne:(Value.slice ua (y.wL iw) uc).ownBlock≠some g:=fun e=>KX6.out.ow.t.ra iw hiw g (by rw [eu];exact e) rfl
  have hb8:∀ k,k<w6.heap.size->(Value.slice ua (y.wL iw) uc).ownBlock≠some k->w8.heap[k]? = w6.heap[k]?:=fun k h1 h2=>g8.block k h1 fun e=>h2 e.symm
  have hap:∀ k,(Value.slice ua (y.wL iw) uc).ownBlock=some k->k≠c/\k≠w.heap.size/\k≠N/\w.heap.size<k:=fun k hk=>KX6.out.apart (by decide) (hob k hk)
  have hHeld:=And.intro ((zH (hb8 N KX6.out.b5.lt (fun e=>(hap N e).2.2.1 rfl))).trans hHeld.1) ((zH (hb8 g lg6 hgne)).trans hHeld.2)
  have hfg:w8.frozen? ⟨g,iw,none⟩=false:=by
   obtain ⟨g',cap',e',-,-,-,fr'⟩:=KX6.out.ow.t.cell hiw
   simp only [Value.slice.injEq,Option.some.injEq,Addr.mk.injEq,and_true,true_and] at e'
   rw [zI (hb8 g lg6 hgne),e'.1]
   exact fr' iw
  have SZ:Hid (SysT (w8.setCell ⟨g,iw,none⟩ (.slice a8 (y.wL iw+1) c8)) B w8.heap.size (y.setW iw (y.wL iw+1) (fun i=>if i=y.wL iw then ⟨k1,k2⟩ else y.wH iw i)) (sysV pa y.pn pc sa y.sn sc (some ⟨g,0,none⟩) y.wn wc ha y.hn hh)):=by
   have h:=OwnS.putW KX6.out.ow hiw (u':=.slice a8 (y.wL iw+1) c8) (m:=y.wL iw+1) (H':=fun i=>if i=y.wL iw then ⟨k1,k2⟩ else y.wH iw i) (w1:=w8) (by have h1:B<=g:=Pg.1;omega) g8.size (fun k h1 h2=>hb8 k h1 (by rw [eu] at h2;exact h2)) (by rw [fT_push];exact o8) n8 (fun k hk=>(q8 k hk).imp (fun h=>by rw [eu];exact h) id)
   have h2:=h.sysT
   rw [World.size_setCell] at h2
   exact h2
  have KZ:Hid (Cur (w8.setCell ⟨g,iw,none⟩ (.slice a8 (y.wL iw+1) c8)) W0 c a0 len cap/\w.grownBy (w8.setCell ⟨g,iw,none⟩ (.slice a8 (y.wL iw+1) c8)) (some c)/\Bx (w8.setCell ⟨g,iw,none⟩ (.slice a8 (y.wL iw+1) c8)) w.heap.size (.slice none 0 0) (.slice none 0 0) (.slice none 0 0) (.slice none 0 0)/\Bx (w8.setCell ⟨g,iw,none⟩ (.slice a8 (y.wL iw+1) c8)) N (.slice pa y.pn pc) (.slice sa y.sn sc) (.slice (some ⟨g,0,none⟩) y.wn wc) (.slice ha y.hn hh)):=by
   have hgg:w8.grownBy (w8.setCell ⟨g,iw,none⟩ (.slice a8 (y.wL iw+1) c8)) (some g):=zV (World.grownBy.refl _ _) (.inl rfl) _
   have hA:=AP.out
   have hW:=KX6.out.cu.ge
   refine ⟨(KX6.out.cu.kept g8 (fun e=>(hap c e.symm).1 rfl) (fun k hk=>by have:=hap k hk;omega)).kept hgg (fun e=>hA.1 (by simpa using e.symm)) (fun k hk=>by cases hk;omega),(KX6.out.gr.andThen g8 (fun k hk=>.inl (by have:=hap k hk;omega))).andThen hgg (fun k hk=>by cases hk;exact .inl (by omega)),(KX6.out.b4.grown g8 (fun e=>(hap _ e).2.1 rfl)).set (by omega),(KX6.out.b5.grown g8 (fun e=>(hap _ e).2.2.1 rfl)).set (by omega)⟩
  refine hK.out _ _ (fun _=>hHeld) ?_
  clear o8 g8 q8 n8 hb8
  clear hK K
  (try simp only [Act.put,zD,zE,zF])
  refine wpG_k 15 rfl hHeld ?_
  refine wpG_one 16 rfl (by kernel_rfl) (fun K hK=>?_)
  have hcN:=hHeld.2
  go_simp
  refine hK.out _ _ (fun h=>?_) ?_
  ·exact absurd h (by decide)
  clear hK K
  (try simp only [Act.put,zD,zE,zF])
  refine wpG_done (by kernel_rfl) ?_ _
  have SM:Hid (y.setW iw (y.wL iw+1) (fun i=>if i=y.wL iw then ⟨k1,k2⟩ else y.wH iw i)).Sm:=by
   have hm:=HO.out.sm
   have hb:=HO.out.bds.2.2.1 iw hiw
   refine ⟨hm.n,hm.p,hm.s,fun i hi=>?_,hm.h⟩
   show (if i=iw then y.wL iw+1 else y.wL i)<=1000
   by_cases ei:i=iw
   ·rw [if_pos ei];omega
   ·rw [if_neg ei];exact hm.w i hi
  have hTz:w8.heap.size<=(w8.setCell ⟨g,iw,none⟩ (.slice a8 (y.wL iw+1) c8)).heap.size:=by simp
  generalize w8.setCell ⟨g,iw,none⟩ (.slice a8 (y.wL iw+1) c8)=wz at *
  obtain ⟨⟨r0,r1,r2,r3⟩,rf⟩:=KZ.out.2.2.1
  obtain ⟨⟨b0,b1,b2,b3⟩,-⟩:=KZ.out.2.2.2
  have hsz:=KX3.out.sz
  have hW:=KX3.out.cu.ge
  clear hHeld
  go_wp2
  obtain ⟨x,ev,ey,hX⟩:=SZ.out.x
  refine bodyPost_ret (v:=(sysV pa y.pn pc sa y.sn sc (some ⟨g,0,none⟩) y.wn wc ha y.hn hh)) (by simp [results,Tryz.results14,go_sem,r0,r1,r2,r3]) rfl ?_
  rw [show (sysV pa y.pn pc sa y.sn sc (some ⟨g,0,none⟩) y.wn wc ha y.hn hh)=x.v from ev]
  exact DrwS.fin hX (by rw [ey];exact SM.out) KZ.out.1 KZ.out.2.1 (by omega) (by omega) (Nat.le_refl _) (by omega) (by omega) hTz _ _ _ _
 have t2:(jj == 2)=false:=by simpa using e2
 by_cases e3:jj=3
 ·subst e3
  clear t0 e0 t1 e1 t2 e2
  obtain ⟨col,vp,vs,vw,vh,up,us,uw,uh,ev,o,ht⟩:=KC.out.1.sy
  obtain ⟨rfl,rfl,rfl,rfl⟩:=sysV_inj ev
  have hsn:y.sn=y.pn:=HO.out.cn.2.1
  have hhn:y.hn=y.pn:=HO.out.cn.2.2.1
  have hph:p<y.hn:=by omega
  have hph':(p:Int)<(y.hn:Int):=by omega
  clear hsn hhn
  have KX3:Hid (KX w w3 W0 c a0 len cap N B T col y (.slice pa y.pn pc) (.slice sa y.sn sc) (.slice wa y.wn wc) (.slice ha y.hn hh) up us uw uh):=⟨KC.out.1.cu,KC.out.1.gr,o,KC.out.2.1,KC.out.2.2,ht,hcl,HS.out.1,HS.out.2.1,HS.out.2.2⟩
  clear o ht ev KC
  have hw1:1<=y.wn/\y.wn<=16:=by
   obtain ⟨⟨h1,h4⟩,-,-,hw⟩:=HO.out.cn
   rw [hw]
   exact ⟨Nat.mul_le_mul h1 h1,zP (Nat.mul_le_mul h4 h4) (by omega)⟩
  have hw1':(1:Int)<=(y.wn:Int):=by omega
  obtain ⟨g,cww,eh,Pg,lg,-,-⟩:=KX3.out.ow.t.cell (i:=0) (by omega)
  have hcap:y.wn<=wc:=cap_own KX3.out.ow.t.row
  simp only [Value.slice.injEq] at eh
  obtain ⟨rfl,-,rfl⟩:=eh
  have hcap':(1:Int)<=(wc:Int):=by omega
  have hcp2:¬ (wc:Int)<1:=by omega
  obtain ⟨⟨r0,r1,r2,r3⟩,rf⟩:=KX3.out.b4
  obtain ⟨⟨b0,b1,b2,b3⟩,bf⟩:=KX3.out.b5
  go_upto_region 20 with fail
  have hA:y.wn<=1\/(if wc=1 then (some ⟨g,0,none⟩:Option Addr) else some ⟨g,1,none⟩)=some ⟨g,1,none⟩:=by
   by_cases h:wc=1
   ·exact .inl (by omega)
   ·exact .inr (if_neg h)
  generalize (if wc=1 then (some ⟨g,0,none⟩:Option Addr) else some ⟨g,1,none⟩)=A at *
  have hsz:=KX3.out.sz
  have hW:=KX3.out.cu.ge
  have KZ:Hid (Cur (w3.setCell ⟨N,2,none⟩ (.slice A (y.wn - 1) (wc - 1))) W0 c a0 len cap/\w.grownBy (w3.setCell ⟨N,2,none⟩ (.slice A (y.wn - 1) (wc - 1))) (some c)/\Bx (w3.setCell ⟨N,2,none⟩ (.slice A (y.wn - 1) (wc - 1))) w.heap.size (.slice none 0 0) (.slice none 0 0) (.slice none 0 0) (.slice none 0 0)/\BoxC (w3.setCell ⟨N,2,none⟩ (.slice A (y.wn - 1) (wc - 1))) N (.slice pa y.pn pc) (.slice sa y.sn sc) (.slice A (y.wn - 1) (wc - 1)) (.slice ha y.hn hh)):=by
   have hgg:w3.grownBy (w3.setCell ⟨N,2,none⟩ (.slice A (y.wn - 1) (wc - 1))) (some N):=zV (World.grownBy.refl _ _) (.inl rfl) _
   exact ⟨KX3.out.cu.kept hgg (fun e=>by simp at e;omega) (fun k hk=>by cases hk;omega),KX3.out.gr.andThen hgg (fun k hk=>by cases hk;exact .inl (by omega)),KX3.out.b4.set (by omega),⟨by go_cell,by go_cell,by go_cell,by go_cell⟩⟩
  have SX:Hid (∃ x:SysIn,sysV pa y.pn pc sa y.sn sc A (y.wn - 1) (wc - 1) ha y.hn hh=x.v/\x.y.Sm/\SysX (w3.setCell ⟨N,2,none⟩ (.slice A (y.wn - 1) (wc - 1))) B T x):=by
   have st:SysT w3 B T y (sysV pa y.pn pc sa y.sn sc (some ⟨g,0,none⟩) y.wn wc ha y.hn hh):=⟨col,_,_,_,_,up,us,uw,uh,rfl,KX3.out.ow,KX3.out.tp⟩
   obtain ⟨x,ev,ey,hX⟩:=st.x
   have ev':=ev
   simp only [sysV,Value.agg.injEq,Array.mk.injEq,List.cons.injEq,Value.slice.injEq,and_true] at ev'
   obtain ⟨⟨a1,a2,a3⟩,⟨a4,a5,a6⟩,⟨a7,a8,a9⟩,⟨a10,a11,a12⟩⟩:=ev'
   refine ⟨x.shift A (wc - 1),?_,?_,(hX.keep (by simp) fun b h1 h2 _=>zO _ _ _ _ (fun e=>by have e2:b=N:=e;omega)).shift a7.symm (hA.imp (fun h=>by rw [<- a8];exact h) id)⟩
   ·show _=sysV x.pa x.pn x.pc x.sa x.sn x.sc A (x.wn - 1) (wc - 1) x.ha x.hn x.hc
    rw [<- a1,<- a2,<- a3,<- a4,<- a5,<- a6,<- a8,<- a10,<- a11,<- a12]
   ·have hm:=HO.out.sm
    rw [<- ey] at hm
    refine ⟨⟨hm.n.1,hm.n.2.1,by have h1:x.wn<=16:=hm.n.2.2.1;show x.wn - 1<=16;omega,hm.n.2.2.2⟩,hm.p,hm.s,fun i hi=>hm.w (i+1) (by have h1:i<x.wn - 1:=hi;show i+1<x.wn;omega),hm.h⟩
  have hTz:T<=(w3.setCell ⟨N,2,none⟩ (.slice A (y.wn - 1) (wc - 1))).heap.size:=by
   have:=zJ w3 _ b0
   simp at this ⊢
   omega
  clear r0 r1 r2 r3 rf b0 b1 b2 b3 bf
  generalize y.wn - 1=wn1 at *
  generalize wc - 1=wc1 at *
  generalize w3.setCell ⟨N,2,none⟩ (.slice A wn1 wc1)=wz at *
  obtain ⟨⟨r0,r1,r2,r3⟩,rf⟩:=KZ.out.2.2.1
  obtain ⟨b0,b1,b2,b3⟩:=KZ.out.2.2.2
  go_wp2
  obtain ⟨x,ev,hm,hX⟩:=SX.out
  refine bodyPost_ret (v:=sysV pa y.pn pc sa y.sn sc A wn1 wc1 ha y.hn hh) (by simp [results,Tryz.results14,go_sem,r0,r1,r2,r3]) rfl ?_
  rw [show sysV pa y.pn pc sa y.sn sc A wn1 wc1 ha y.hn hh=x.v from ev]
  exact DrwS.fin hX hm KZ.out.1 KZ.out.2.1 (by omega) (by omega) (Nat.le_refl _) (by omega) (by omega) hTz _ _ _ _
 have t3:(jj == 3)=false:=by simpa using e3
 by_cases e4:jj=4
 ·subst e4
  clear t0 e0 t1 e1 t2 e2 t3 e3
  obtain ⟨col,vp,vs,vw,vh,up,us,uw,uh,ev,o,ht⟩:=KC.out.1.sy
  obtain ⟨rfl,rfl,rfl,rfl⟩:=sysV_inj ev
  have hsn:y.sn=y.pn:=HO.out.cn.2.1
  have hhn:y.hn=y.pn:=HO.out.cn.2.2.1
  have hph:p<y.hn:=by omega
  have hph':(p:Int)<(y.hn:Int):=by omega
  clear hsn hhn
  have KX3:Hid (KX w w3 W0 c a0 len cap N B T col y (.slice pa y.pn pc) (.slice sa y.sn sc) (.slice wa y.wn wc) (.slice ha y.hn hh) up us uw uh):=⟨KC.out.1.cu,KC.out.1.gr,o,KC.out.2.1,KC.out.2.2,ht,hcl,HS.out.1,HS.out.2.1,HS.out.2.2⟩
  clear o ht ev KC
  obtain ⟨g,cpp,eh,Pg,lg,cg,fg⟩:=KX3.out.ow.p.cell hpp
  simp only [Value.slice.injEq] at eh
  obtain ⟨rfl,-,rfl⟩:=eh
  have hpp':(p:Int)<(y.pn:Int):=by omega
  have hN3:=KX3.out.b5.bx.1
  have AP:Hid (g≠c/\g≠w.heap.size/\g≠N/\w.heap.size<g):=KX3.out.apart (by decide) Pg
  go_upto_region 16 with fail
  refine wp_region_G (fun w'=>w'.cell? ⟨N,0,none⟩=some (.slice (some ⟨g,0,none⟩) y.pn pc)/\w'.cell? ⟨g,p,none⟩=some (up p)) (fun i=>i == 6) (by kernel_rfl) ?_
  have hHeld:=And.intro hN3 cg
  refine wpGT_of [0,1,2,3] ?_
  iterate 4 (refine wpGT_k rfl hHeld ?_)
  refine wpGT_nil ?_
  refine wpG_one 4 rfl (by kernel_rfl) (fun K hK=>?_)
  refine stepR_call rfl 33 _ _ rfl #[.pointer (some ⟨c,0,none⟩)] (by simp [Act.eval]) (yA Tryz.func33 (by kernel_rfl) rfl) (l1DrawAny_any W0 c len cap a0 w3.drew KX3.out.cu.drew) ?_
  rintro e w4 ⟨g4,m4,gc4,rfl,hm4,hl4,hc4,hg4⟩
  refine ⟨_,rfl,?_⟩
  have hg9':w3.grownBy w4 (some c):=⟨hg4.os,hg4.tape,hg4.output,hg4.size,hg4.block⟩
  have KX4:Hid (KX w w4 W0 c a0 len cap N B T col y (.slice (some ⟨g,0,none⟩) y.pn pc) (.slice sa y.sn sc) (.slice wa y.wn wc) (.slice ha y.hn hh) up us uw uh):=KX3.out.draw hc4 hg9'
  have hHeld:=And.intro KX4.out.b5.bx.1 ((zH (hg9'.block g lg (by have:=AP.out;simp;omega))).trans hHeld.2)
  have lg4:g<w4.heap.size:=zL lg hg9'.size
  obtain ⟨G4,hG4⟩:=hl4.known
  have hfg:w4.frozen? ⟨g,p,none⟩=false:=by
   rw [zI (hg9'.block g lg (by have:=AP.out;simp;omega))]
   exact fg p
  have hupc:∃ ua uc,up p=.slice ua (y.pL p) uc:=zU (KX3.out.ow.p.own p hpp)
  have SZ:Hid (SysT (w4.setCell ⟨g,p,none⟩ (.slice (some ⟨g4,0,none⟩) m4 gc4)) B w4.heap.size (y.setP p m4 G4) (sysV (some ⟨g,0,none⟩) y.pn pc sa y.sn sc wa y.wn wc ha y.hn hh)):=by
   have hs3:w3.heap.size<=w4.heap.size:=hg9'.size
   have ho:OwnS false (World.cut w4 w3.heap.size) B col y (.slice (some ⟨g,0,none⟩) y.pn pc) (.slice sa y.sn sc) (.slice wa y.wn wc) (.slice ha y.hn hh) up us uw uh:=KX3.out.ow.kept fun k hk hl=>(cut_block w4 hs3 hl).trans (hg9'.block k hl (by have:=KX3.out.sz;simp;omega))
   have h:=OwnS.putP ho hpp (u':=.slice (some ⟨g4,0,none⟩) m4 gc4) (m:=m4) (H':=G4) (w1:=w4) (by rw [cut_size w4 hs3];have h1:B<=g:=Pg.1;omega) (by rw [cut_size w4 hs3];exact hs3) (fun k h1 _=>by rw [cut_size w4 hs3] at h1;exact (cut_block w4 hs3 h1).symm) (hG4.mono (Nat.zero_le _)) (fun e=>by cases e) (fun k hk=>.inr (by rw [cut_size w4 hs3];exact (hG4.lt k hk).1))
   have h2:=h.sysT
   rw [World.size_setCell] at h2
   exact h2
  have KZ:Hid (Cur (w4.setCell ⟨g,p,none⟩ (.slice (some ⟨g4,0,none⟩) m4 gc4)) W0 c a0 len cap/\w.grownBy (w4.setCell ⟨g,p,none⟩ (.slice (some ⟨g4,0,none⟩) m4 gc4)) (some c)/\Bx (w4.setCell ⟨g,p,none⟩ (.slice (some ⟨g4,0,none⟩) m4 gc4)) w.heap.size (.slice none 0 0) (.slice none 0 0) (.slice none 0 0) (.slice none 0 0)/\Bx (w4.setCell ⟨g,p,none⟩ (.slice (some ⟨g4,0,none⟩) m4 gc4)) N (.slice (some ⟨g,0,none⟩) y.pn pc) (.slice sa y.sn sc) (.slice wa y.wn wc) (.slice ha y.hn hh)):=by
   have hgg:w4.grownBy (w4.setCell ⟨g,p,none⟩ (.slice (some ⟨g4,0,none⟩) m4 gc4)) (some g):=zV (World.grownBy.refl _ _) (.inl rfl) _
   have hA:=AP.out
   have hW:=KX4.out.cu.ge
   exact ⟨KX4.out.cu.kept hgg (fun e=>hA.1 (by simpa using e.symm)) (fun k hk=>by cases hk;omega),KX4.out.gr.andThen hgg (fun k hk=>by cases hk;exact .inl (by omega)),KX4.out.b4.set (by omega),KX4.out.b5.set (by omega)⟩
  refine hK.out _ _ (fun _=>hHeld) ?_
  clear hc4 hg4 hg9' hl4 hG4
  clear hK K
  (try simp only [Act.put,zD,zE,zF])
  refine wpG_k 5 rfl hHeld ?_
  refine wpG_one 6 rfl (by kernel_rfl) (fun K hK=>?_)
  have hcN:=hHeld.2
  obtain ⟨ua,uc,eup⟩:=hupc
  rw [eup] at hcN
  go_simp
  refine hK.out _ _ (fun h=>?_) ?_
  ·exact absurd h (by decide)
  clear hK K
  (try simp only [Act.put,zD,zE,zF])
  refine wpG_done (by kernel_rfl) ?_ _
  have SM:Hid (y.setP p m4 G4).Sm:=by
   have hm:=HO.out.sm
   refine ⟨hm.n,fun i hi=>?_,hm.s,hm.w,hm.h⟩
   show (if i=p then m4 else y.pL i)<=1000
   by_cases ei:i=p
   ·rw [if_pos ei];omega
   ·rw [if_neg ei];exact hm.p i hi
  have hTz:w4.heap.size<=(w4.setCell ⟨g,p,none⟩ (.slice (some ⟨g4,0,none⟩) m4 gc4)).heap.size:=by simp
  generalize w4.setCell ⟨g,p,none⟩ (.slice (some ⟨g4,0,none⟩) m4 gc4)=wz at *
  obtain ⟨⟨r0,r1,r2,r3⟩,rf⟩:=KZ.out.2.2.1
  obtain ⟨⟨b0,b1,b2,b3⟩,-⟩:=KZ.out.2.2.2
  have hsz:=KX3.out.sz
  have hW:=KX3.out.cu.ge
  clear hHeld
  go_wp2
  obtain ⟨x,ev,ey,hX⟩:=SZ.out.x
  refine bodyPost_ret (v:=(sysV (some ⟨g,0,none⟩) y.pn pc sa y.sn sc wa y.wn wc ha y.hn hh)) (by simp [results,Tryz.results14,go_sem,r0,r1,r2,r3]) rfl ?_
  rw [show (sysV (some ⟨g,0,none⟩) y.pn pc sa y.sn sc wa y.wn wc ha y.hn hh)=x.v from ev]
  exact DrwS.fin hX (by rw [ey];exact SM.out) KZ.out.1 KZ.out.2.1 (by omega) (by omega) (Nat.le_refl _) (by omega) (by omega) hTz _ _ _ _
 have t4:(jj == 4)=false:=by simpa using e4
 by_cases e5:jj=5
 ·subst e5
  clear t0 e0 t1 e1 t2 e2 t3 e3 t4 e4
  obtain ⟨col,vp,vs,vw,vh,up,us,uw,uh,ev,o,ht⟩:=KC.out.1.sy
  obtain ⟨rfl,rfl,rfl,rfl⟩:=sysV_inj ev
  have hsn:y.sn=y.pn:=HO.out.cn.2.1
  have hhn:y.hn=y.pn:=HO.out.cn.2.2.1
  have hph:p<y.hn:=by omega
  have hph':(p:Int)<(y.hn:Int):=by omega
  clear hsn hhn
  have KX3:Hid (KX w w3 W0 c a0 len cap N B T col y (.slice pa y.pn pc) (.slice sa y.sn sc) (.slice wa y.wn wc) (.slice ha y.hn hh) up us uw uh):=⟨KC.out.1.cu,KC.out.1.gr,o,KC.out.2.1,KC.out.2.2,ht,hcl,HS.out.1,HS.out.2.1,HS.out.2.2⟩
  clear o ht ev KC
  have hw1:1<=y.wn/\y.wn<=16:=by
   obtain ⟨⟨h1,h4⟩,-,-,hw⟩:=HO.out.cn
   rw [hw]
   exact ⟨Nat.mul_le_mul h1 h1,zP (Nat.mul_le_mul h4 h4) (by omega)⟩
  have b2:=KX3.out.b5.bx.2.2.1
  go_wp2_with fail
  refine (zY W0 c len cap a0 (y.wn:Nat) w3 KX3.out.cu (by omega) (by omega)).mono ?_
  rintro e w4 ⟨ii,rfl,⟨i0,i1⟩,hc4,hg4⟩
  have KX4:Hid (KX w w4 W0 c a0 len cap N B T col y (.slice pa y.pn pc) (.slice sa y.sn sc) (.slice wa y.wn wc) (.slice ha y.hn hh) up us uw uh):=KX3.out.draw hc4 hg4
  clear hc4 hg4 b2
  obtain ⟨iw,rfl⟩:∃ iw:Nat,ii=iw:=⟨ii.toNat,by omega⟩
  have hiw:iw<y.wn:=by omega
  have hiw':(iw:Int)<(y.wn:Int):=by omega
  have hlw:y.wL iw<=12:=HO.out.bds.2.2.1 iw hiw
  obtain ⟨g,cww,eh,Pg,lg,cg,fg⟩:=KX4.out.ow.t.cell hiw
  simp only [Value.slice.injEq] at eh
  obtain ⟨rfl,-,rfl⟩:=eh
  obtain ⟨ua,uc,eu⟩:=zU (KX4.out.ow.t.own iw hiw)
  rw [eu] at cg
  have hN3:=KX4.out.b5.bx.2.2.1
  have AP:Hid (g≠c/\g≠w.heap.size/\g≠N/\w.heap.size<g):=KX4.out.apart (by decide) Pg
  have hM4:w4.drew.heap.size=w4.heap.size:=rfl
  go_upto_region 19 with fail
  refine wp_region_G (fun w'=>w'.cell? ⟨N,2,none⟩=some (.slice (some ⟨g,0,none⟩) y.wn wc)/\w'.cell? ⟨g,iw,none⟩=some (.slice ua (y.wL iw) uc)) (fun i=>i == 12) (by kernel_rfl) ?_
  have hHeld:=And.intro hN3 cg
  refine wpGT_of [0,1,2,3,5,6,7,8,9] ?_
  iterate 9 (refine wpGT_k rfl hHeld ?_)
  refine wpGT_nil ?_
  refine wpG_one 4 rfl (by kernel_rfl) (fun K hK=>?_)
  go_simp
  have ba:Below w4.heap.size w4 (w4.drew.alloc (.cells #[.bool true,.int .i64 0] 75)):=(Below.refl w4.heap.size w4).drew.trans (zQ w4.drew _)
  have BA:Hid (Below w4.heap.size w4 (w4.drew.alloc (.cells #[.bool true,.int .i64 0] 75))):=ba
  have hca:=(bcell ba).1
  have hHeld:=And.intro ((hca _ _ KX4.out.b5.lt).trans hHeld.1) ((hca _ _ lg).trans hHeld.2)
  refine hK.out _ _ (fun _=>hHeld) ?_
  clear hca ba
  clear hK K
  (try simp only [Act.put,zD,zE,zF])
  refine wpG_one 10 rfl (by kernel_rfl) (fun K hK=>?_)
  have OH1:(w4.drew.alloc (.cells #[.bool true,.int .i64 0] 75)).ownsRow 0 75 2 (.slice (some ⟨w4.heap.size,0,none⟩) 1 1) 1 [.bool true,.int .i64 0]:=World.ownsRow_lit (base:=0) (e:=75) (size:=2) w4.drew #[.bool true,.int .i64 0] 1 (Nat.zero_le _) (by unfold maxLen;omega) (by simp)
  have OH2:Src (w4.drew.alloc (.cells #[.bool true,.int .i64 0] 75)) ua (fT (y.wH iw) (y.wL iw)):=by
   have:=KX4.out.ow.t.own iw hiw
   rw [eu] at this
   exact (src_own this (fT_len _ _)).below BA.out
  refine stepR_append_src kndT (w4.drew.alloc (.cells #[.bool true,.int .i64 0] 75)) rfl _ _ rfl 0 (.slice (some ⟨w4.heap.size,0,none⟩) 1 1) 1 [.bool true,.int .i64 0] rfl OH1 ua (y.wL iw) uc (fT (y.wH iw) (y.wL iw)) rfl (fT_len _ _) OH2 (fT_one _ _) (by omega) (Nat.zero_le _) ?_
  intro v8 w8 o8 g8 q8 n8
  have n8':v8≠.slice none 0 0:=n8 (.inl (by simp))
  rw [Nat.add_comm 1] at o8
  obtain ⟨a8,c8,rfl⟩:=zU o8
  have hsA:(w4.drew.alloc (.cells #[.bool true,.int .i64 0] 75)).heap.size=w4.heap.size+1:=by simp
  have hb8:∀ k,k<w4.heap.size->w8.heap[k]? = w4.heap[k]?:=fun k h1=>(g8.block k (by rw [hsA];omega) (fun e=>by have:=own_at e.symm;omega)).trans (BA.out.block k h1)
  have hHeld:=And.intro ((zH (hb8 N KX4.out.b5.lt)).trans hN3) ((zH (hb8 g lg)).trans cg)
  have hs8:w4.heap.size<=w8.heap.size:=by have:=g8.size;rw [hsA] at this;omega
  have hq8:∀ k,(Value.slice a8 (y.wL iw+1) c8).ownBlock=some k->w4.heap.size<=k:=fun k hk=>by
   rcases q8 with h | h
   ·rw [hk] at h
    have:=own_at h.symm
    omega
   ·rw [hk,hsA] at h
    simp only [Option.some.injEq] at h
    omega
  have hfg:w8.frozen? ⟨g,iw,none⟩=false:=by
   rw [zI (hb8 g lg)]
   exact fg iw
  have SZ:Hid (SysT (w8.setCell ⟨g,iw,none⟩ (.slice a8 (y.wL iw+1) c8)) B w8.heap.size (y.setW iw (y.wL iw+1) (fun i=>if i=0 then ⟨true,0⟩ else y.wH iw (i - 1))) (sysV pa y.pn pc sa y.sn sc (some ⟨g,0,none⟩) y.wn wc ha y.hn hh)):=by
   have h:=OwnS.putW KX4.out.ow hiw (u':=.slice a8 (y.wL iw+1) c8) (m:=y.wL iw+1) (H':=fun i=>if i=0 then ⟨true,0⟩ else y.wH iw (i - 1)) (w1:=w8) (by have h1:B<=g:=Pg.1;omega) hs8 (fun k h1 _=>hb8 k h1) (by rw [fT_cons];exact o8) n8' (fun k hk=>.inr (hq8 k hk))
   have h2:=h.sysT
   rw [World.size_setCell] at h2
   exact h2
  have KZ:Hid (Cur (w8.setCell ⟨g,iw,none⟩ (.slice a8 (y.wL iw+1) c8)) W0 c a0 len cap/\w.grownBy (w8.setCell ⟨g,iw,none⟩ (.slice a8 (y.wL iw+1) c8)) (some c)/\Bx (w8.setCell ⟨g,iw,none⟩ (.slice a8 (y.wL iw+1) c8)) w.heap.size (.slice none 0 0) (.slice none 0 0) (.slice none 0 0) (.slice none 0 0)/\Bx (w8.setCell ⟨g,iw,none⟩ (.slice a8 (y.wL iw+1) c8)) N (.slice pa y.pn pc) (.slice sa y.sn sc) (.slice (some ⟨g,0,none⟩) y.wn wc) (.slice ha y.hn hh)):=by
   have g0:w4.grownBy w8 none:=⟨g8.os.trans BA.out.os,g8.tape.trans BA.out.tape,g8.output.trans BA.out.output,hs8,fun k hk _=>hb8 k hk⟩
   have KX8:=KX4.out.below (below_of_grown g0)
   have hgg:w8.grownBy (w8.setCell ⟨g,iw,none⟩ (.slice a8 (y.wL iw+1) c8)) (some g):=zV (World.grownBy.refl _ _) (.inl rfl) _
   have hA:=AP.out
   have hW:=KX8.cu.ge
   exact ⟨KX8.cu.kept hgg (fun e=>hA.1 (by simpa using e.symm)) (fun k hk=>by cases hk;omega),KX8.gr.andThen hgg (fun k hk=>by cases hk;exact .inl (by omega)),KX8.b4.set (by omega),KX8.b5.set (by omega)⟩
  refine hK.out _ _ (fun _=>hHeld) ?_
  clear o8 g8 q8 n8 hb8 n8' hq8 hs8 hsA
  clear hK K
  (try simp only [Act.put,zD,zE,zF])
  refine wpG_k 11 rfl hHeld ?_
  refine wpG_one 12 rfl (by kernel_rfl) (fun K hK=>?_)
  have hcN:=hHeld.2
  go_simp
  refine hK.out _ _ (fun h=>?_) ?_
  ·exact absurd h (by decide)
  clear hK K
  (try simp only [Act.put,zD,zE,zF])
  refine wpG_done (by kernel_rfl) ?_ _
  have SM:Hid (y.setW iw (y.wL iw+1) (fun i=>if i=0 then ⟨true,0⟩ else y.wH iw (i - 1))).Sm:=by
   have hm:=HO.out.sm
   have hb:=HO.out.bds.2.2.1 iw hiw
   refine ⟨hm.n,hm.p,hm.s,fun i hi=>?_,hm.h⟩
   show (if i=iw then y.wL iw+1 else y.wL i)<=1000
   by_cases ei:i=iw
   ·rw [if_pos ei];omega
   ·rw [if_neg ei];exact hm.w i hi
  have hTz:w8.heap.size<=(w8.setCell ⟨g,iw,none⟩ (.slice a8 (y.wL iw+1) c8)).heap.size:=by simp
  generalize w8.setCell ⟨g,iw,none⟩ (.slice a8 (y.wL iw+1) c8)=wz at *
  obtain ⟨⟨r0,r1,r2,r3⟩,rf⟩:=KZ.out.2.2.1
  obtain ⟨⟨b0,b1,b2,b3⟩,-⟩:=KZ.out.2.2.2
  have hsz:=KX3.out.sz
  have hW:=KX3.out.cu.ge
  clear hHeld
  go_wp2
  obtain ⟨x,ev,ey,hX⟩:=SZ.out.x
  refine bodyPost_ret (v:=(sysV pa y.pn pc sa y.sn sc (some ⟨g,0,none⟩) y.wn wc ha y.hn hh)) (by simp [results,Tryz.results14,go_sem,r0,r1,r2,r3]) rfl ?_
  rw [show (sysV pa y.pn pc sa y.sn sc (some ⟨g,0,none⟩) y.wn wc ha y.hn hh)=x.v from ev]
  exact DrwS.fin hX (by rw [ey];exact SM.out) KZ.out.1 KZ.out.2.1 (by omega) (by omega) (Nat.le_refl _) (by omega) (by omega) hTz _ _ _ _
 have t5:(jj == 5)=false:=by simpa using e5
 clear e0 e1 e2 e3 e4 e5 j0 j1
 obtain ⟨⟨r0,r1,r2,r3⟩,rf⟩:=KC.out.2.1
 obtain ⟨⟨b0,b1,b2,b3⟩,-⟩:=KC.out.2.2
 go_upto_region 20 with fail
 go_wp2
 obtain ⟨x,ev,ey,hX⟩:=KC.out.1.sy.x
 refine bodyPost_ret (v:=(sysV pa y.pn pc sa y.sn sc wa y.wn wc ha y.hn hh)) (by simp [results,Tryz.results14,go_sem,r0,r1,r2,r3]) rfl ?_
 rw [show (sysV pa y.pn pc sa y.sn sc wa y.wn wc ha y.hn hh)=x.v from ev]
 exact DrwS.fin hX (by rw [ey];exact HO.out.sm) KC.out.1.cu KC.out.1.gr KC.out.1.lt HS.out.1 (Nat.le_refl _) (by omega) (by omega) (by have:=KC.out.2.2.lt;have:=HS.out;omega) _ _ _ _
theorem cur_below {w wr w':World} {W0 c len cap:Nat} {a0:Option Addr} (hc:Cur wr W0 c a0 len cap) (g:w.grownBy wr (some c)) (hl:c<w.heap.size) (hb:Below w.heap.size wr w'):Cur w' W0 c a0 len cap/\w.grownBy w' (some c):=by
 have hblk:w'.heap[c]? = wr.heap[c]?:=hb.block c hl
 refine ⟨⟨hc.ex.imp fun i=>fun ⟨z,e⟩=>⟨z,(zH hblk).trans e.1,(zH hblk).trans e.2.1,(zH hblk).trans e.2.2⟩,fun o=>(zI hblk).trans (hc.fr o),by have:=hb.size;have:=hc.lt;omega,hc.ge,hc.by'.kept fun k hk=>hb.block k (by have:=hc.ge;omega),hc.ln⟩,⟨hb.os.trans g.os,hb.tape.trans g.tape,hb.output.trans g.output,zP g.size hb.size,fun k hk hne=>(hb.block k hk).trans (g.block k hk hne)⟩⟩
structure St3 (w:World) (N:Nat) (p k v:Int):Prop where
 c0:w.cell? ⟨N,0,none⟩=some (.int .i64 p)
 c1:w.cell? ⟨N,1,none⟩=some (.int .i64 k)
 c2:w.cell? ⟨N,2,none⟩=some (.int .i64 v)
 fr:∀ j,w.frozen? ⟨N,j,none⟩=false
theorem St3.blk {w w':World} {N:Nat} {p k v:Int} (h:St3 w N p k v) (hN:w'.heap[N]? = w.heap[N]?):St3 w' N p k v:=
 ⟨(zH hN).trans h.c0,(zH hN).trans h.c1,(zH hN).trans h.c2,fun j=>(zI hN).trans (h.fr j)⟩
theorem St3.lt {w:World} {N:Nat} {p k v:Int} (h:St3 w N p k v):N<w.heap.size:=zJ w _ h.c0
theorem St3.new (w:World) (p k v:Int) (t:TypeId):St3 (w.alloc (.cells #[.int .i64 p,.int .i64 k,.int .i64 v] t)) w.heap.size p k v:=
 ⟨zW _ _ _ 0 (by simp),zW _ _ _ 1 (by simp),zW _ _ _ 2 (by simp),fun j=>yB _ _ _ _ (by simp)⟩
structure SD (w wr:World) (W0 c:Nat) (a0:Option Addr) (len cap:Nat) (x:SysIn):Prop where
 cu:Cur wr W0 c a0 len cap
 gr:w.grownBy wr (some c)
 bx:BoxC wr w.heap.size (.slice x.pa x.pn x.pc) (.slice x.sa x.sn x.sc) (.slice x.wa x.wn x.wc) (.slice x.ha x.hn x.hc)
 bo:St3 wr (w.heap.size+1) 0 0 0
 lt:c<w.heap.size
section
variable {w wr w':World} {W0 c len cap:Nat} {a0:Option Addr} {x:SysIn}
theorem SD.draw (h:SD w wr W0 c a0 len cap x) (hc:Cur w' W0 c a0 len cap) (hg:wr.grownBy w' (some c)):SD w w' W0 c a0 len cap x:=by
 have hl:=h.lt
 have b1:=hg.block w.heap.size (zJ _ _ h.bx.1) (fun e=>by injection e;omega)
 exact ⟨hc,h.gr.trans hg,⟨(zH b1).trans h.bx.1,(zH b1).trans h.bx.2.1,(zH b1).trans h.bx.2.2.1,(zH b1).trans h.bx.2.2.2⟩,h.bo.blk (hg.block _ h.bo.lt (fun e=>by injection e;omega)),hl⟩
end
def DrwSt (w:World) (W0 c:Nat) (a0:Option Addr) (len cap:Nat) (e:Ending) (w':World):Prop:=∃ p k v,e=.returned (spV p k v)/\Cur w' W0 c a0 len cap/\w.grownBy w' (some c)
theorem l12DrawStop_any (W0 c len cap:Nat) (a0:Option Addr) (x:SysIn) (w:World) (hc:Cur w W0 c a0 len cap) (hm:x.pn<=16):
  Calls Tryz.prog 15 #[.pointer (some ⟨c,0,none⟩),x.v] w (DrwSt w W0 c a0 len cap):=by
 have D2:Hid (SD w ((w.alloc (oQ4 x.pa x.pn x.pc x.sa x.sn x.sc x.wa x.wn x.wc x.ha x.hn x.hc)).alloc (zQ7)) W0 c a0 len cap x):=by
  have hcl:=hc.lt
  have b2:=zQ (w.alloc (oQ4 x.pa x.pn x.pc x.sa x.sn x.sc x.wa x.wn x.wc x.ha x.hn x.hc)) (zQ7)
  have h3:=St3.new (w.alloc (oQ4 x.pa x.pn x.pc x.sa x.sn x.sc x.wa x.wn x.wc x.ha x.hn x.hc)) 0 0 0 32
  rw [World.size_alloc] at h3
  exact ⟨(hc.alloc _).alloc _,(World.grownBy_alloc _ _ _).trans (World.grownBy_alloc _ _ _),(BoxC.new w _ _ _ _ _).below b2,h3,hcl⟩
 have hm':(x.pn:Int)<=16:=by omega
 clear hc hm
 go_enter Tryz.func15,Tryz.ntmps15
 obtain ⟨z0,z1,z2,z3⟩:=D2.out.bx
 go_wp2_with fail
 generalize (w.alloc (oQ4 x.pa x.pn x.pc x.sa x.sn x.sc x.wa x.wn x.wc x.ha x.hn x.hc)).alloc (zQ7)=W2 at *
 clear z0 z1 z2 z3
 refine (l1Max_any (x.pn:Int) 1 W2).mono ?_
 rintro e w' ⟨m,rfl,⟨m1,m2,m3⟩,rfl⟩
 go_wp2_with fail
 refine (zY W0 c len cap a0 m _ D2.out.cu (by omega) (by omega)).mono ?_
 rintro e w3 ⟨p,rfl,⟨p0,p1⟩,hc3,hg3⟩
 have D3:Hid (SD w w3 W0 c a0 len cap x):=D2.out.draw hc3 hg3
 clear hc3 hg3 D2
 go_wp2_with fail
 refine (zY W0 c len cap a0 3 _ D3.out.cu (by omega) (by omega)).mono ?_
 rintro e w4 ⟨k,rfl,⟨k0,k1⟩,hc4,hg4⟩
 have D4:Hid (SD w w4 W0 c a0 len cap x):=D3.out.draw hc4 hg4
 clear hc4 hg4 D3
 go_wp2_with fail
 refine (zY W0 c len cap a0 7 _ D4.out.cu (by omega) (by omega)).mono ?_
 rintro e w5 ⟨v,rfl,⟨v0,v1⟩,hc5,hg5⟩
 have D5:Hid (SD w w5 W0 c a0 len cap x):=D4.out.draw hc5 hg5
 clear hc5 hg5 D4
 have hwk:IntKind.i64.wrap (1+k)=1+k:=by rw [IntKind.wrap_i64];omega
 have D6:Hid (SD w (w5.alloc (oQ5 p (1+k) v)) W0 c a0 len cap x/\St3 (w5.alloc (oQ5 p (1+k) v)) w5.heap.size p (1+k) v/\w.heap.size+1<w5.heap.size):=⟨D5.out.draw (D5.out.cu.alloc _) (World.grownBy_alloc _ _ _),St3.new _ _ _ _ _,D5.out.bo.lt⟩
 go_upto_region 2 with fail
 clear D5 hwk
 generalize w5.alloc (oQ5 p (1+k) v)=w6 at *
 generalize w5.heap.size=K at *
 generalize 1+k=k2 at *
 clear p0 p1 k0 k1 v0 v1 m1 m2 m3 w5
 go_wp2_with fail
 refine (zY W0 c len cap a0 20 w6 D6.out.1.cu (by omega) (by omega)).mono ?_
 rintro e w7 ⟨r,rfl,-,hc7,hg7⟩
 have D7:Hid (SD w w7 W0 c a0 len cap x/\St3 w7 K p k2 v/\w.heap.size+1<K):=⟨D6.out.1.draw hc7 hg7,D6.out.2.1.blk (hg7.block _ D6.out.2.1.lt (fun e=>by have:=D6.out.1.lt;have:=D6.out.2.2;injection e;omega)),D6.out.2.2⟩
 clear hc7 hg7 D6
 by_cases e0:r=0
 ·subst e0
  go_wp2_with fail
  refine (l1PickInt_of W0 c len cap w7.heap.size 2 2 a0 pickP _ (D7.out.1.cu.alloc _) (by omega) (by omega) (by simp) (by have:=D7.out.1.lt;have:=D7.out.2.1.lt;have:=D7.out.2.2;omega) (pickP_at w7)).mono ?_
  rintro e w8 ⟨i,hi,rfl,hc8,hg8⟩
  have hl8:K<(w7.alloc (.cells #[.int .i64 (-1),.int .i64 4] 3)).heap.size:=by have:=D7.out.2.1.lt;simp;omega
  have D8:Hid (SD w w8 W0 c a0 len cap x/\St3 w8 K p k2 v/\w.heap.size+1<K):=⟨(D7.out.1.draw (D7.out.1.cu.alloc _) (World.grownBy_alloc _ _ _)).draw hc8 hg8,(D7.out.2.1.blk ((zQ w7 (.cells #[.int .i64 (-1),.int .i64 4] 3)).block K D7.out.2.1.lt)).blk (hg8.block _ hl8 (fun e=>by have:=D7.out.1.lt;have:=D7.out.2.2;injection e;omega)),D7.out.2.2⟩
  clear hc8 hg8 D7 hl8
  generalize pickP i=pv at *
  obtain ⟨y0,y1,y2,yf⟩:=D8.out.2.1
  obtain ⟨o0,o1,o2,of⟩:=D8.out.1.bo
  have yf0:=yf 0
  have yf1:=yf 1
  have of0:=of 0
  have of1:=of 1
  have of2:=of 2
  have hne:K≠w.heap.size+1:=by have:=D8.out.2.2;omega
  have hne2:w.heap.size+1≠K:=by have:=D8.out.2.2;omega
  have hK:w.heap.size<=K:=by have:=D8.out.2.2;omega
  have hR:w.heap.size<=w.heap.size+1:=Nat.le_succ _
  have HE:Hid (Cur ((((w8.setCell ⟨K,0,none⟩ (.int .i64 pv)).setCell ⟨w.heap.size+1,0,none⟩ (.int .i64 pv)).setCell ⟨w.heap.size+1,1,none⟩ (.int .i64 k2)).setCell ⟨w.heap.size+1,2,none⟩ (.int .i64 v)) W0 c a0 len cap/\w.grownBy ((((w8.setCell ⟨K,0,none⟩ (.int .i64 pv)).setCell ⟨w.heap.size+1,0,none⟩ (.int .i64 pv)).setCell ⟨w.heap.size+1,1,none⟩ (.int .i64 k2)).setCell ⟨w.heap.size+1,2,none⟩ (.int .i64 v)) (some c)):=cur_below D8.out.1.cu D8.out.1.gr D8.out.1.lt (((((Below.refl w.heap.size w8).setCell hK _).setCell hR _).setCell hR _).setCell hR _)
  clear D8
  go_wp2
  exact bodyPost_ret (v:=spV pv k2 v) (by simp [results,Tryz.results15,go_sem,o0,o1,o2]) rfl ⟨_,_,_,rfl,HE.out⟩
 by_cases e1:r=1
 ·subst e1
  go_wp2_with fail
  refine (zY W0 c len cap a0 5 w7 D7.out.1.cu (by omega) (by omega)).mono ?_
  rintro e w8 ⟨kv,rfl,-,hc8,hg8⟩
  have D8:Hid (SD w w8 W0 c a0 len cap x/\St3 w8 K p k2 v/\w.heap.size+1<K):=⟨D7.out.1.draw hc8 hg8,D7.out.2.1.blk (hg8.block _ D7.out.2.1.lt (fun e=>by have:=D7.out.1.lt;have:=D7.out.2.2;injection e;omega)),D7.out.2.2⟩
  clear hc8 hg8 D7
  obtain ⟨y0,y1,y2,yf⟩:=D8.out.2.1
  obtain ⟨o0,o1,o2,of⟩:=D8.out.1.bo
  have yf0:=yf 0
  have yf1:=yf 1
  have of0:=of 0
  have of1:=of 1
  have of2:=of 2
  have hne:K≠w.heap.size+1:=by have:=D8.out.2.2;omega
  have hne2:w.heap.size+1≠K:=by have:=D8.out.2.2;omega
  have hK:w.heap.size<=K:=by have:=D8.out.2.2;omega
  have hR:w.heap.size<=w.heap.size+1:=Nat.le_succ _
  have HE:Hid (Cur ((((w8.setCell ⟨K,1,none⟩ (.int .i64 kv)).setCell ⟨w.heap.size+1,0,none⟩ (.int .i64 p)).setCell ⟨w.heap.size+1,1,none⟩ (.int .i64 kv)).setCell ⟨w.heap.size+1,2,none⟩ (.int .i64 v)) W0 c a0 len cap/\w.grownBy ((((w8.setCell ⟨K,1,none⟩ (.int .i64 kv)).setCell ⟨w.heap.size+1,0,none⟩ (.int .i64 p)).setCell ⟨w.heap.size+1,1,none⟩ (.int .i64 kv)).setCell ⟨w.heap.size+1,2,none⟩ (.int .i64 v)) (some c)):=cur_below D8.out.1.cu D8.out.1.gr D8.out.1.lt (((((Below.refl w.heap.size w8).setCell hK _).setCell hR _).setCell hR _).setCell hR _)
  clear D8
  go_wp2
  exact bodyPost_ret (v:=spV p kv v) (by simp [results,Tryz.results15,go_sem,o0,o1,o2]) rfl ⟨_,_,_,rfl,HE.out⟩
 have e0':(r == 0)=false:=by simpa using e0
 have e1':(r == 1)=false:=by simpa using e1
 obtain ⟨y0,y1,y2,yf⟩:=D7.out.2.1
 obtain ⟨o0,o1,o2,of⟩:=D7.out.1.bo
 have yf0:=yf 0
 have yf1:=yf 1
 have of0:=of 0
 have of1:=of 1
 have of2:=of 2
 have hne:K≠w.heap.size+1:=by have:=D7.out.2.2;omega
 have hne2:w.heap.size+1≠K:=by have:=D7.out.2.2;omega
 have hK:w.heap.size<=K:=by have:=D7.out.2.2;omega
 have hR:w.heap.size<=w.heap.size+1:=Nat.le_succ _
 have HE:Hid (Cur (((w7.setCell ⟨w.heap.size+1,0,none⟩ (.int .i64 p)).setCell ⟨w.heap.size+1,1,none⟩ (.int .i64 k2)).setCell ⟨w.heap.size+1,2,none⟩ (.int .i64 v)) W0 c a0 len cap/\w.grownBy (((w7.setCell ⟨w.heap.size+1,0,none⟩ (.int .i64 p)).setCell ⟨w.heap.size+1,1,none⟩ (.int .i64 k2)).setCell ⟨w.heap.size+1,2,none⟩ (.int .i64 v)) (some c)):=cur_below D7.out.1.cu D7.out.1.gr D7.out.1.lt ((((Below.refl w.heap.size w7).setCell hR _).setCell hR _).setCell hR _)
 clear D7
 go_wp2
 exact bodyPost_ret (v:=spV p k2 v) (by simp [results,Tryz.results15,go_sem,o0,o1,o2]) rfl ⟨_,_,_,rfl,HE.out⟩
open Go.ChangeShapes Go.WideShapes Go.ChangeAt Go.Sort
theorem big_any (a0:Option Addr) (len cap:Nat) (w:World):
  Calls Tryz.prog 4 #[.slice a0 len cap] w fun e w'=>e=.returned (.bool (decide ((1048576:Int)<len)))/\w'=w:=by
 go_enter Tryz.func4,Tryz.ntmps4
 go_wp2
 go_ret
 exact ⟨rfl,rfl⟩
theorem open_bytes {H:Type} {enc:TypeId × Value->H} {w:World} {a0:Option Addr} {len cap:Nat} {d:DataW H} {p:List MemPlace}
  (h:DataW.Trod enc Tryz.prog w 0 (fun _=>true) true 22 (.slice a0 len cap) d p):len<=maxLen/\BytesAt w w.heap.size a0 len:=by
 obtain ⟨fuel,hf⟩:=h
 rcases open_ints Tryz.underlying22 Tryz.underlying5 (by kernel_rfl) hf with ⟨hcs,_⟩ | ⟨x,l,c,zs,hcs,_,hl,hm,hz,_,hcell,hwz⟩
 ·simp [Value.cells] at hcs
  obtain ⟨_,rfl,_⟩:=hcs
  exact ⟨Nat.zero_le _,.inl rfl⟩
 ·simp [Value.cells] at hcs
  obtain ⟨rfl,rfl,rfl⟩:=hcs
  refine ⟨zP hl hm,?_⟩
  by_cases h0:len=0
  ·exact .inl h0
  right
  have hz':zs.length=cap:=by simpa using hz
  obtain ⟨b,off,rfl,hc⟩:=ints_at hcell (by omega)
  refine ⟨b,off,rfl,cell_lt (hc 0 (by omega)),fun j hj=>⟨zs.getD j 0,hc j (by omega),?_⟩⟩
  have hmem:zs.getD j 0 ∈ zs:=by
   rw [List.getD_eq_getElem?_getD,List.getElem?_eq_getElem (by omega)]
   exact List.getElem_mem _
  exact bounds_u8 (hwz _ hmem)
