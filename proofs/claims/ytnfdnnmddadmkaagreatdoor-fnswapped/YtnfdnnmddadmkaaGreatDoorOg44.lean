import Derived.Test.YtnfdnnmddadmkaaGreatDoorOg42
namespace Go.Proofs.YtnfdnnmddadmkaaGreatDoor
set_option maxRecDepth 100000
set_option maxHeartbeats 16000000
open Go.ChangeShapes Go.WideShapes Go.ChangeAt Go.RowKit Go.Deep Go.Sort
theorem kndZ:Kind 44 3 1 8:=by
 refine ⟨Tryz.underlying44,?_,by omega,by omega⟩
 have hinfo:(Tryz.prog.info? 3).map (fun i=>(i.zero,i.size,i.bytes))=some (some (.int .i64 0),1,8):=by kernel_rfl
 cases hi:Tryz.prog.info? 3 with
 | none=>rw [hi] at hinfo;cases hinfo
 | some i=>
  rw [hi] at hinfo
  simp only [Option.map_some,Option.some.injEq,Prod.mk.injEq] at hinfo
  exact ⟨i,_,rfl,hinfo.1,hinfo.2.1,hinfo.2.2,rfl⟩
theorem qsb:Kind 196 44 1 24:=by
 refine ⟨Tryz.underlying196,?_,by omega,by omega⟩
 have hinfo:(Tryz.prog.info? 44).map (fun i=>(i.zero,i.size,i.bytes))=some (some (.slice none 0 0),1,24):=by kernel_rfl
 cases hi:Tryz.prog.info? 44 with
 | none=>rw [hi] at hinfo;cases hinfo
 | some i=>
  rw [hi] at hinfo
  simp only [Option.map_some,Option.some.injEq,Prod.mk.injEq] at hinfo
  exact ⟨i,_,rfl,hinfo.1,hinfo.2.1,hinfo.2.2,rfl⟩
theorem qow (a b:Int) (w:World):Calls Tryz.prog 148 #[.int .i64 a,.int .i64 b] w fun e w'=>e=.returned (.int .i64 (cMx a b))/\w'=w:=by
 by_cases t:b<a
 ·have h1:cMx a b=a:=if_neg (by omega)
  rw [h1]
  go_enter Tryz.func148,Tryz.ntmps148
  go_wp2
  go_ret
  exact ⟨rfl,rfl⟩
 ·have h1:cMx a b=b:=by unfold cMx;split <;> omega
  rw [h1]
  go_enter Tryz.func148,Tryz.ntmps148
  go_wp2
  go_ret
  exact ⟨rfl,rfl⟩
def jnL (xs ys:List Int) (k:Nat):List Int:=(List.range k).map fun i=>cMx (zi xs i) (zi ys i)
theorem qr9 (xs ys:List Int) (k:Nat):jnL xs ys (k+1)=jnL xs ys k ++ [cMx (zi xs k) (zi ys k)]:=by simp [jnL,List.range_succ]
theorem qhf (xs ys:List Int) (k:Nat):(jnL xs ys k).length=k:=by simp [jnL]
theorem qh9 (aa ab:Option Addr) (ca cb:Nat) (xs ys:List Int) (n:Nat) (w:World) (hx:Sl w aa xs) (hy:Sl w ab ys) (lx:xs.length=n) (ly:ys.length=n) (hn:n<=1000):
  Calls Tryz.prog 201 #[.slice aa n ca,.slice ab n cb] w fun e w'=>∃ v,e=.returned v/\OwnI w' w.heap.size v (jnL xs ys n)/\Below w.heap.size w w':=by
 have HX:Hid (Sl w aa xs/\Sl w ab ys/\xs.length=n/\ys.length=n):=⟨hx,hy,lx,ly⟩
 have hn':(n:Int)<=1000:=by omega
 have O0:Hid (OwnI (w.alloc (.cells #[] 3)) w.heap.size (.slice (some ⟨w.heap.size,0,none⟩) 0 0) []):=by
  have h9:=qeh w 0 (by omega)
  rw [show madeCells #[Value.int .i64 0] 0=#[] by simp [madeCells]] at h9
  exact h9
 clear hx hy lx ly
 go_enter Tryz.func201,Tryz.ntmps201
 go_wp2_with fail
 go_loopw [5,6] (fun v i wr=>∃ k:Nat,k<=n/\i=.int .i64 k/\Hid (OwnI wr w.heap.size v (jnL xs ys k)/\Below w.heap.size w wr)) (fun _ i _=>n - (intOf i).toNat)
 case atStart=>exact ⟨0,Nat.zero_le _,rfl,O0.out,zQ _ _⟩
 case round=>
  clear O0
  obtain ⟨k,hk,rfl,HK⟩:=hrel
  obtain ⟨a5,c5,rfl,-⟩:=HK.out.1.form
  by_cases hlt:k<n
  ·have hlt':(k:Int)<(n:Int):=by omega
   obtain ⟨b1,o1,rfl,z1,d1⟩:=(HX.out.1.below HK.out.2).at (k:=k) (by rw [HX.out.2.2.1];exact hlt)
   obtain ⟨b2,o2,rfl,z2,d2⟩:=(HX.out.2.1.below HK.out.2).at (k:=k) (by rw [HX.out.2.2.2];exact hlt)
   have HL:Hid ((jnL xs ys k).length+[cMx (zi xs k) (zi ys k)].length<=4000000):=by
    show _<=_
    rw [qhf]
    simp
    omega
   have hJ:jnL xs ys (k+1)=jnL xs ys k ++ [cMx (zi xs k) (zi ys k)]:=qr9 xs ys k
   have HJ:Hid (jnL xs ys (k+1)=jnL xs ys k ++ [cMx (zi xs k) (zi ys k)]):=hJ
   clear hJ
   go_wp2_with fail
   go_region_law (first
    | (refine qd7 rfl 148 _ _ rfl #[.int .i64 (zi xs k),.int .i64 (zi ys k)] (by simp [Act.eval]) (yA Tryz.func148 (by kernel_rfl) rfl) (qow _ _ _) ?_;rintro e w5 ⟨rfl,rfl⟩;refine ⟨_,rfl,?_⟩)
    | (refine qdq rfl _ _ rfl w.heap.size 1 (.slice a5 (jnL xs ys k).length c5) (some ⟨wr.heap.size,0,none⟩) (jnL xs ys k) [cMx (zi xs k) (zi ys k)] (by simp [Act.eval]) (by simp [Act.eval]) (HK.out.1.below (by go_grown)) (.inr ⟨_,0,rfl,by simp,fun j hj=>by (obtain rfl:j=0:=by simpa using hj);exact zW _ _ _ 0 rfl⟩) HL.out (by have:=HK.out.2.size;simp;omega) ?_;intro v6 w6 o6 g6;have F6:Hid (OwnI w6 w.heap.size v6 (jnL xs ys (k+1))/\Below w.heap.size w w6):=⟨by rw [HJ.out];exact o6,Below.grown (HK.out.2.trans (by have:=HK.out.2.size;go_grown)) g6 (by have:=HK.out.2.size;simp;omega) (fun q hq=>(HK.out.1.lt q hq).1)⟩;clear o6 g6))
   all_goals
    go_wp2
    go_roundw
    case rel=>exact ⟨k+1,by omega,by go_num,F6.out⟩
    case measure=>simp [intOf];omega
  ·have hkn:k=n:=by omega
   subst hkn
   go_wp2
   refine bodyPost_ret (v:=.slice a5 (jnL xs ys k).length c5) (by simp [results,Tryz.results201,go_sem]) rfl ⟨_,rfl,HK.out.1,HK.out.2⟩
theorem qla (n:Nat) (hn:n<=1000) (w:World):
  (Instr.makeSlice 197 (.int .i64 (n:Int)) (.int .i64 (n:Int))).run Tryz.prog w=.ok (.slice (some ⟨w.heap.size,0,none⟩) n n) (w.alloc (.cells (madeCells #[.slice none 0 0] n) 196)):=by
 have hinfo:(Tryz.prog.info? 196).map (fun i=>(i.zero,i.size,i.bytes))=some (some (.slice none 0 0),1,24):=by kernel_rfl
 cases hi:Tryz.prog.info? 196 with
 | none=>rw [hi] at hinfo;cases hinfo
 | some i=>
  rw [hi] at hinfo
  simp only [Option.map_some,Option.some.injEq,Prod.mk.injEq] at hinfo
  obtain ⟨hz,hs,hb⟩:=hinfo
  have h:=run_make (P:=Tryz.prog) w 197 196 i _ Tryz.underlying197 hi hz .i64 .i64 (n:Int) (n:Int) (by omega) (Int.le_refl _) (by rw [hb];omega) (by omega)
  rw [hs] at h
  simpa [Value.cells] using h
abbrev LLc (w:World) (P:Nat->Prop) (v:Value) (m:Nat) (u:Nat->Value) (y:Sy) (p:Nat):Prop:=LL true 3 1 44 w P v m u (fun _=>y.pn) (fun i=>(ckN y p i).map (Value.int .i64))
structure C3 (w:World) (B O:Nat) (y:Sy) (d c:Nat->Nat) (V:Nat->Value) (U:Nat->Nat->Value):Prop where
 top:∀ p,p<y.pn->w.cell? ⟨O,p,none⟩=some (V p)
 ll:∀ p,p<y.pn->LLc w (fun k=>B<=k/\c k=p+1) (V p) (d p) (U p) y p
 co:c O=0
 fz:∀ j,w.frozen? ⟨O,j,none⟩=false
 lo:B<=O
 lt:O<w.heap.size
theorem C3.below {w w':World} {B O:Nat} {y:Sy} {d c:Nat->Nat} {V:Nat->Value} {U:Nat->Nat->Value} (h:C3 w B O y d c V U) (hb:Below w.heap.size w w'):C3 w' B O y d c V U:=
 ⟨fun p hp=>(hb.cell h.lt).trans (h.top p hp),fun p hp=>(h.ll p hp).below hb,h.co,fun j=>((qaj hb).2 O j h.lt).trans (h.fz j),h.lo,zL h.lt hb.size⟩
theorem C3.new (w:World) (y:Sy):C3 (w.alloc (.cells (madeCells #[.slice none 0 0] y.pn) 196)) w.heap.size w.heap.size y (fun _=>0) (fun _=>0) (fun _=>.slice none 0 0) (fun _ _=>.slice none 0 0):=by
 refine ⟨fun p hp=>?_,fun p _=>LL.nil _ _ _ _ _ _ _ _,rfl,fun j=>yB _ _ _ _ rfl,Nat.le_refl _,by simp⟩
 rw [zW _ _ _ p rfl,<- Array.getElem?_toList,toList_madeCells_one,List.getElem?_replicate,if_pos hp]
theorem C3.push {w w1 w2:World} {B O p:Nat} {y:Sy} {d c:Nat->Nat} {V:Nat->Value} {U:Nat->Nat->Value} {u' v':Value} (h:C3 w B O y d c V U) (hB:B<=w.heap.size) (hp:p<y.pn) (b1:Below w.heap.size w w1) (hu:OwnI w1 w.heap.size u' (ckN y p (d p))) (hne:u'≠.slice none 0 0)
  (hv:w2.ownsRow 0 44 1 v' (d p+1) ((List.range (d p)).map (U p) ++ [u'])) (g:w1.grownBy w2 (V p).ownBlock) (hv':∀ j,v'.ownBlock=some j->(V p).ownBlock=some j\/w1.heap.size<=j):
  C3 (w2.setCell ⟨O,p,none⟩ v') B O y (up d p) (rcol c w.heap.size (p+1)) (fun q=>if q=p then v' else V q) (fun q=>if q=p then (fun j=>if j=d p then u' else U p j) else U q)/\Below B w (w2.setCell ⟨O,p,none⟩ v'):=by
 have hw12:w1.heap.size<=w2.heap.size:=g.size
 have ob:∀ k,(V p).ownBlock=some k->B<=k/\c k=p+1:=(h.ll p hp).rb
 have lk:∀ k,(V p).ownBlock=some k->k<w.heap.size:=fun k hk=>((h.ll p hp).row.lt k hk).2
 have l2:O<w2.heap.size:=zL h.lt (zP b1.size hw12)
 have keep:∀ k,k<w.heap.size->c k≠p+1->w2.heap[k]? = w.heap[k]?:=fun k hk hc=>(g.block k (zL hk b1.size) fun e=>hc (ob k e.symm).2).trans (b1.block k hk)
 have kO:w2.heap[O]? = w.heap[O]?:=keep O h.lt (by rw [h.co];omega)
 have hown:w1.ownsRow w.heap.size 3 1 u' y.pn ((ckN y p (d p)).map (Value.int .i64)):=by
  have h9:w1.ownsRow w.heap.size 3 1 u' (ckN y p (d p)).length ((ckN y p (d p)).map (Value.int .i64)):=hu
  rw [qbq] at h9
  exact h9
 have hpush:=(h.ll p hp).push b1 hown (fun _=>hne) hv g hv' (P':=fun k=>B<=k/\rcol c w.heap.size (p+1) k=p+1) (fun k hk hl=>⟨hk.1,(qa5 hl).trans hk.2⟩) (fun k hk _=>⟨zP hB hk,qai hk⟩)
 have setO:∀ k,k≠O->(w2.setCell ⟨O,p,none⟩ v').heap[k]? = w2.heap[k]?:=fun k hk=>zO _ _ _ _ hk
 refine ⟨⟨fun q hq=>?_,fun q hq=>?_,(qa5 h.lt).trans h.co,fun j=>?_,h.lo,by simpa using l2⟩,?_⟩
 ·have hc:w2.cell? ⟨O,q,none⟩=some (V q):=(zH kO).trans (h.top q hq)
  by_cases e:q=p
  ·subst e
   rw [if_pos rfl]
   go_cell
  ·rw [if_neg e]
   have:(⟨O,q,none⟩:Addr)≠⟨O,p,none⟩:=fun h9=>e (by injection h9)
   go_cell
 ·by_cases e:q=p
  ·subst e
   simp only [if_true]
   rw [qbk]
   exact hpush.keep fun k hk _=>setO k fun e9=>by
    have:=hk.2
    rw [e9,qa5 h.lt,h.co] at this
    omega
  ·simp only [if_neg e]
   rw [up_other e]
   refine ((h.ll q hq).mono (P':=fun k=>B<=k/\rcol c w.heap.size (p+1) k=q+1) fun k hk hl=>⟨hk.1,(qa5 hl).trans hk.2⟩).keep fun k hk hl=>?_
   have h9:c k=q+1:=(qa5 (c:=c) hl).symm.trans hk.2
   rw [setO k fun e9=>by rw [e9,h.co] at h9;omega]
   exact keep k hl (by omega)
 ·have:w2.frozen? ⟨O,j,none⟩=false:=(zI kO).trans (h.fz j)
  simpa using this
 ·refine Below.setCell ?_ h.lo _
  exact Below.grown (b1.mono hB) g (zP hB b1.size) (fun k hk=>(ob k hk).1)
def pvL (y:Sy) (p i:Nat):List Int:=if i=0 then List.replicate y.pn 0 else ckN y p (i - 1)
theorem qf1 (y:Sy) (p i:Nat):(pvL y p i).length=y.pn:=by
 unfold pvL
 split
 ·simp
 ·exact qbq _ _ _
theorem qn2 (y:Sy) (p i q:Nat) (hq:q<y.pn):zi (pvL y p i) q=((if i=0 then 0 else clk y p (i - 1) q:Nat):Int):=by
 unfold pvL
 split
 ·unfold zi
  rw [List.getD_eq_getElem?_getD,List.getElem?_replicate,if_pos hq]
  rfl
 ·exact qh6 y p (i - 1) q hq
theorem qio {y:Sy} {d:Nat->Nat} (hO:y.Ok) (h:y.hs.Put d) {p:Nat} (hp:p<y.pn) (hc:y.hs.Can d p) {nw:List Int} (hl:nw.length=y.pn)
  (hn:∀ q,q<y.pn->zi nw q=((max (if d p=0 then 0 else clk y p (d p - 1) q) (match sdr y p (d p) with | none=>0 | some s=>clk y s.1 s.2 q):Nat):Int)):nw.set p ((d p:Int)+1)=ckN y p (d p):=by
 refine qr5 (by rw [List.length_set,qbq,hl]) fun q hq=>?_
 rw [List.length_set,hl] at hq
 rw [qh6 y p (d p) q hq,qin hO h hp hc q]
 by_cases e:q=p
 ·subst e
  rw [qe6 _ _ _ (by rw [hl];exact hq),if_pos rfl]
  rfl
 ·rw [Go.Proofs.YtnfdnnmddadmkaaGreatDoor.getD_set_ne _ _ _ _ e,if_neg e,hn q hq]
  cases sdr y p (d p) <;> rfl
open Go.Maps
theorem qkv (x:SysIn) (p i q j:Int) (w:World) (hG:SysG w x) (hL:x.Len) (hcap:∀ i,i<x.hn->x.hL i<=x.hC i) (hV:w.cell? ⟨0,0,none⟩=some (.iface 310 (.agg #[.pointer (some ⟨1,217,none⟩)]))):
  Calls Tryz.prog 39 #[x.v,.int .i64 p,.int .i64 i,.int .i64 q,.int .i64 j] w fun e w'=>e=.returned (.bool (sdB x.y p i q j))/\Below w.heap.size w w':=by
 have HV0:0<w.heap.size:=zJ w _ hV
 have HX:Hid (HgX w x p i q j (((w.alloc (oQ4 x.pa x.pn x.pc x.sa x.sn x.sc x.wa x.wn x.wc x.ha x.hn x.hc)).alloc (oQ6 p i)).alloc (oQ6 q j))):=HgX.new w x p i q j
 have HA:Hid (∀ wx b,Below w.heap.size w wx->b<wx.heap.size->SpAt wx b 2 (fun k=>if k=0 then (p,i) else (q,j))->Calls Tryz.prog 92 #[x.v,.slice (some ⟨b,0,none⟩) 2 2] wx fun e w'=>e=.returned (.bool (bothB x.y p i q j))/\Below wx.heap.size wx w'):=fun wx b hb hbl hs=>by
  have h:=qpr x b 2 2 (fun k=>if k=0 then (p,i) else (q,j)) wx (hG.below hb) hL ((hb.cell (p:=⟨0,0,none⟩) HV0).trans hV) hbl (by omega) hs
  rw [qua] at h
  exact h
 have HCk:Hid (bothB x.y p i q j=true->∀ wx,Below w.heap.size w wx->Calls Tryz.prog 93 #[x.v] wx fun e w'=>∃ b,e=.returned (.map (some b))/\Below wx.heap.size wx w'/\∀ wy,Below w'.heap.size w' wy->Calls Tryz.prog 94 #[.map (some b),sptV p i,sptV q j] wy (fun e w'=>e=.returned (.bool (hgN x.y p.toNat i.toNat q.toNat j.toNat))/\Below wy.heap.size wy w')/\Calls Tryz.prog 94 #[.map (some b),sptV q j,sptV p i] wy (fun e w'=>e=.returned (.bool (hgN x.y q.toNat j.toNat p.toNat i.toNat))/\Below wy.heap.size wy w')):=fun h wx hb=>by
  simp only [bothB,Bool.and_eq_true] at h
  obtain ⟨hO,a,c,rfl,rfl,ha,hc⟩:=qbp h.1
  obtain ⟨-,a',c',rfl,rfl,ha',hc'⟩:=qbp h.2
  refine (qki x wx (hG.below hb) hcap hO).mono ?_
  rintro e w' ⟨b,D,d,rfl,hb0,hd,hC,hbw⟩
  have hbl:b<w'.heap.size:=hC.own.lt
  have h4:=hO.cn.1.2
  refine ⟨b,rfl,hbw,fun wy hy=>?_⟩
  have hC':Ckm wy b x.y d D:=hC.blk (hy.block b hbl)
  have hbl':b<wy.heap.size:=zL hbl hy.size
  have h5:=hO.hl200 ha
  have h6:=hO.hl200 ha'
  exact ⟨qnn b x.y d D a c a' c' wy hC' hbl' h4 ha (by rw [hd a ha];exact hc) (by omega) ha',qnn b x.y d D a' c' a c wy hC' hbl' h4 ha' (by rw [hd a' ha'];exact hc') (by omega) ha⟩
 have HR:Hid (sdB x.y p i q j=((!spEq p i q j && bothB x.y p i q j) && (!hgN x.y p.toNat i.toNat q.toNat j.toNat && !hgN x.y q.toNat j.toNat p.toNat i.toNat))):=rfl
 have heq:=qr3 p i q j
 generalize sdB x.y p i q j=R at *
 generalize bothB x.y p i q j=T at *
 generalize hgN x.y p.toNat i.toNat q.toNat j.toNat=V at *
 generalize hgN x.y q.toNat j.toNat p.toNat i.toNat=V' at *
 generalize spEq p i q j=E at *
 clear hG hL hcap hV HV0
 go_enter Tryz.func39,Tryz.ntmps39
 go_upto_region 2 with fail
 generalize ((w.alloc (oQ4 x.pa x.pn x.pc x.sa x.sn x.sc x.wa x.wn x.wc x.ha x.hn x.hc)).alloc (oQ6 p i)).alloc (oQ6 q j)=W2 at *
 obtain ⟨-,⟨b0,b1,b2,b3⟩,⟨s0,s1⟩,t0,t1⟩:=HX.out
 cases E with
 | true=>
  go_wp2
  go_ret
  exact ⟨by rw [HR.out];rfl,HX.out.be⟩
 | false=>
  have q3:Below W2.heap.size W2 (W2.alloc (.cells #[.int .i64 p,.int .i64 i,.int .i64 q,.int .i64 j] 135)):=zT _ _
  have X3:Hid (HgX w x p i q j (W2.alloc (.cells #[.int .i64 p,.int .i64 i,.int .i64 q,.int .i64 j] 135))):=HX.out.below q3
  have SP:Hid (SpAt (W2.alloc (.cells #[.int .i64 p,.int .i64 i,.int .i64 q,.int .i64 j] 135)) W2.heap.size 2 (fun k=>if k=0 then (p,i) else (q,j))/\W2.heap.size<(W2.alloc (.cells #[.int .i64 p,.int .i64 i,.int .i64 q,.int .i64 j] 135)).heap.size):=⟨SpAt.two _ _ _ _ _ _,by simp⟩
  clear q3 HX
  go_wp2_with fail
  clear b0 b1 b2 b3 s0 s1 t0 t1 heq
  generalize W2.heap.size=N at *
  generalize W2.alloc (.cells #[.int .i64 p,.int .i64 i,.int .i64 q,.int .i64 j] 135)=W3 at *
  refine (HA.out W3 N X3.out.be SP.out.2 SP.out.1).mono ?_
  rintro e w4 ⟨rfl,b4⟩
  have X4:Hid (HgX w x p i q j w4):=X3.out.below b4
  clear b4 X3 SP HA
  cases T with
  | false=>
   go_wp2
   go_ret
   exact ⟨by rw [HR.out];rfl,X4.out.be⟩
  | true=>
   obtain ⟨-,⟨b0,b1,b2,b3⟩,-,-⟩:=X4.out
   go_wp2_with fail
   clear b0 b1 b2 b3
   refine (HCk.out trivial w4 X4.out.be).mono ?_
   rintro e w5 ⟨b,rfl,b5,hH⟩
   have HH:Hid (∀ wy,Below w5.heap.size w5 wy->Calls Tryz.prog 94 #[.map (some b),sptV p i,sptV q j] wy (fun e w'=>e=.returned (.bool V)/\Below wy.heap.size wy w')/\Calls Tryz.prog 94 #[.map (some b),sptV q j,sptV p i] wy (fun e w'=>e=.returned (.bool V')/\Below wy.heap.size wy w')):=hH
   have X5:Hid (HgX w x p i q j w5):=X4.out.below b5
   clear b5 hH X4 HCk
   obtain ⟨-,-,⟨s0,s1⟩,t0,t1⟩:=X5.out
   go_wp2_with fail
   clear s0 s1 t0 t1
   refine (HH.out w5 (Below.refl _ _)).1.mono ?_
   rintro e w6 ⟨rfl,b6⟩
   have X6:Hid (HgX w x p i q j w6/\Below w5.heap.size w5 w6):=⟨X5.out.below b6,b6⟩
   clear b6 X5
   cases V with
   | true=>
    go_wp2
    go_ret
    exact ⟨by rw [HR.out];rfl,X6.out.1.be⟩
   | false=>
    obtain ⟨-,-,⟨s0,s1⟩,t0,t1⟩:=X6.out.1
    go_wp2_with fail
    clear s0 s1 t0 t1
    refine (HH.out w6 X6.out.2).2.mono ?_
    rintro e w7 ⟨rfl,b7⟩
    have X7:Hid (HgX w x p i q j w7):=X6.out.1.below b7
    clear b7 X6
    go_wp2
    go_ret
    exact ⟨by rw [HR.out];rfl,X7.out.be⟩
structure Cf (w:World) (x:SysIn) (O:Nat) (d c:Nat->Nat) (V:Nat->Value) (U:Nat->Nat->Value) (wx:World):Prop where
 be:Below w.heap.size w wx
 bs:BoxC wx w.heap.size (.slice x.pa x.pn x.pc) (.slice x.sa x.sn x.sc) (.slice x.wa x.wn x.wc) (.slice x.ha x.hn x.hc)
 c3:C3 wx O O x.y d c V U
 nb:w.heap.size<O
theorem Cf.below {w:World} {x:SysIn} {O:Nat} {d c:Nat->Nat} {V:Nat->Value} {U:Nat->Nat->Value} {wx wy:World} (h:Cf w x O d c V U wx) (hb:Below wx.heap.size wx wy):Cf w x O d c V U wy:=⟨h.be.trans (hb.mono h.be.size),h.bs.below hb,h.c3.below hb,h.nb⟩
theorem Cf.next {w:World} {x:SysIn} {O:Nat} {d c d' c':Nat->Nat} {V V':Nat->Value} {U U':Nat->Nat->Value} {wx wy:World} (h:Cf w x O d c V U wx) (h3:C3 wy O O x.y d' c' V' U') (hb:Below O wx wy):Cf w x O d' c' V' U' wy:=
 ⟨h.be.trans (hb.mono (Nat.le_of_lt h.nb)),h.bs.blkK (hb.block _ h.nb),h3,h.nb⟩
theorem qk1 (x:SysIn) (w:World) (hG:SysG w x) (hcap:∀ i,i<x.hn->x.hL i<=x.hC i) (hO:x.y.Ok):
  Calls Tryz.prog 156 #[x.v] w fun e w'=>∃ O d c V U,e=.returned (.slice (some ⟨O,0,none⟩) x.pn x.pn)/\(∀ p,p<x.pn->d p=x.y.hL p)/\C3 w' O O x.y d c V U/\Below w.heap.size w w':=by
 have HO:Hid (x.y.Ok/\∀ i,i<x.hn->x.hL i<=x.hC i):=⟨hO,hcap⟩
 have hhn:x.hn=x.pn:=hO.cn.2.2.1
 have H4:Hid (x.pn<=4):=hO.cn.1.2
 have HP1:Hid (0<x.pn):=hO.cn.1.1
 have h4:(x.pn:Int)<=4:=by have:=H4.out;omega
 have HP:Hid (x.y.hs.Peers/\(∀ i,i<x.pn->x.y.hL i<=200)):=⟨fun p hp i hi=>hO.evq hp hi,fun i hi=>hO.hl200 hi⟩
 have HSn:Hid (∀ (p i:Nat) (wx:World),Below w.heap.size w wx->p<x.pn->i<x.y.hL p->Calls Tryz.prog 114 #[x.v,.int .i64 p,.int .i64 i] wx fun e w'=>e=.returned (.int .i64 (sndN x.y p i))/\Below wx.heap.size wx w'):=fun p i wx hb hp hi=>qgk x p i wx (hG.below hb) hcap hO hp hi
 obtain ⟨bh,oh,eh,hbl,hcl⟩:∃ b off,x.ha=some ⟨b,off,none⟩/\b<w.heap.size/\∀ i,i<x.hn->w.cell? ⟨b,off+i,none⟩=some (.slice (x.hA i) (x.hL i) (x.hC i)):=by
  rcases hG.h with h9 | h9
  ·have:=HP1.out
   omega
  ·exact h9
 have HHa:Hid ((Value.slice x.ha x.hn x.hc=.slice (some ⟨bh,oh,none⟩) x.pn x.hc)/\∀ wx,Below w.heap.size w wx->∀ j,j<x.pn->wx.cell? ⟨bh,oh+j,none⟩=some (.slice (x.hA j) (x.hL j) (x.hC j))):=⟨by rw [eh,hhn],fun wx hb j hj=>(hb.cell hbl).trans (hcl j (by omega))⟩
 have HHe:Hid (∀ wx,Below w.heap.size w wx->∀ j,j<x.pn->EvL wx (x.hA j) (x.hL j) (x.hH j)):=fun wx hb j hj=>(hG.hi j (by omega)).below hb
 have hmk:=qla x.pn (by have:=H4.out;omega)
 have F0:Hid (Cf w x (w.heap.size+1) (fun _=>0) (fun _=>0) (fun _=>.slice none 0 0) (fun _ _=>.slice none 0 0) ((w.alloc (oQ4 x.pa x.pn x.pc x.sa x.sn x.sc x.wa x.wn x.wc x.ha x.hn x.hc)).alloc (.cells (madeCells #[.slice none 0 0] x.pn) 196))):=by
  have h9:=C3.new (w.alloc (oQ4 x.pa x.pn x.pc x.sa x.sn x.sc x.wa x.wn x.wc x.ha x.hn x.hc)) x.y
  rw [World.size_alloc] at h9
  exact ⟨(zT _ _).trans ((zT _ _).mono (by simp)),(BoxC.new w _ _ _ _ _).below (zT _ _),h9,Nat.lt_succ_self _⟩
 clear hG hcap hO hhn eh hbl hcl
 go_enter Tryz.func156,Tryz.ntmps156
 go_upto_region 3 with fail
 generalize (w.alloc (oQ4 x.pa x.pn x.pc x.sa x.sn x.sc x.wa x.wn x.wc x.ha x.hn x.hc)).alloc (.cells (madeCells #[.slice none 0 0] x.pn) 196)=w2 at *
 generalize w.heap.size+1=O at *
 clear hmk
 go_wp2_with fail
 go_loopg [5] (sumL x.y.hs.l x.pn+1) (fun g m wr=>∃ d c V U T,g=(sumL x.y.hs.l x.pn - sumL d x.pn)+(if T=true then 1 else 0)/\m=.bool T/\Hid (Cf w x O d c V U wr/\x.y.hs.Put d)/\Hid (T=false->∀ p,p<x.pn->¬ x.y.hs.Can d p))
 case atStart=>exact ⟨_,_,_,_,true,by simp [qcw],rfl,⟨F0.out,.start⟩,fun h=>by cases h⟩
 case round=>
  clear F0
  obtain ⟨d,c,V,U,T,hgk,rfl,HF,HNs⟩:=hrel
  have HGk:Hid (gk=(sumL x.y.hs.l x.pn - sumL d x.pn)+(if T=true then 1 else 0)):=hgk
  clear hgk
  cases T with
  | false=>
   have HD:Hid (∀ p,p<x.pn->d p=x.y.hL p):=(Hs.row_iff HF.out.2 HP.out.1 (HNs.out rfl)).1 HO.out.1.ro
   clear HGk HNs
   go_wp2
   refine bodyPost_ret (v:=.slice (some ⟨O,0,none⟩) x.pn x.pn) (by simp [results,Tryz.results156,go_sem]) rfl ⟨O,d,c,V,U,rfl,HD.out,HF.out.1.c3,HF.out.1.be⟩
  | true=>
   clear HNs
   go_wp2_with fail
   rename World=>wi0
   go_loopw [5,6] (fun m i wi=>∃ d2 c2 V2 U2 T2 j,j<=x.pn/\i=.int .i64 (j:Nat)/\m=.bool T2/\Hid (Cf w x O d2 c2 V2 U2 wi/\x.y.hs.Put d2)/\Hid ((T2=false->d2=d/\∀ q,q<j->¬ x.y.hs.Can d q)/\(T2=true->sumL d x.pn<sumL d2 x.pn))) (fun _ i _=>x.pn - (intOf i).toNat)
   case atStart=>exact ⟨d,c,V,U,false,0,Nat.zero_le _,rfl,rfl,HF.out,fun _=>⟨rfl,fun q hq=>absurd hq (Nat.not_lt_zero _)⟩,fun h=>by cases h⟩
   case round=>
    clear HF
    rename World=>wi
    obtain ⟨d2,c2,V2,U2,T2,j,hj,rfl,rfl,HF2,HSt⟩:=hrel
    by_cases hj':j<x.pn
    case neg=>
     have hjn:j=x.pn:=by omega
     have HG2:Hid ((sumL x.y.hs.l x.pn - sumL d2 x.pn)+(if T2=true then 1 else 0)<gk):=by
      show _<_
      rw [HGk.out,if_pos trivial]
      cases T2 with
      | false=>
       rw [(HSt.out.1 rfl).1]
       simp
      | true=>
       have h1:=HSt.out.2 rfl
       have h2:=qco HF2.out.2.le x.pn
       simp only [if_true]
       omega
     have HNs:Hid (T2=false->∀ p,p<x.pn->¬ x.y.hs.Can d2 p):=fun h p hp=>by
      have h9:=HSt.out.1 h
      rw [h9.1]
      exact h9.2 p (by omega)
     clear HSt HGk
     go_wp2
     go_roundg ((sumL x.y.hs.l x.pn - sumL d2 x.pn)+(if T2=true then 1 else 0))
     case measure=>exact HG2.out
     case rel=>exact ⟨d2,c2,V2,U2,T2,rfl,rfl,HF2.out,HNs.out⟩
    have hjI:(j:Int)<(x.pn:Int):=by omega
    have HSm:Hid (sumL d x.pn<=sumL d2 x.pn):=by
     show _<=_
     cases hT:T2 with
     | false=>rw [(HSt.out.1 hT).1];exact Nat.le_refl _
     | true=>exact Nat.le_of_lt (HSt.out.2 hT)
    obtain ⟨av,cv,eV⟩:=zU (HF2.out.1.c3.ll j hj').row
    have HVj:Hid (V2 j=.slice av (d2 j) cv):=eV
    have tj:=HF2.out.1.c3.top j hj'
    rw [eV] at tj
    clear eV
    obtain ⟨s0,s1,s2,s3⟩:=HF2.out.1.bs
    rw [HHa.out.1] at s3
    have ch:=HHa.out.2 wi HF2.out.1.be j hj'
    have hdl:d2 j<=x.y.hL j:=HF2.out.2.le j
    by_cases hfull:d2 j=x.y.hL j
    case pos=>
     have he:((d2 j:Int) == (x.hL j:Int))=true:=by
      have h9:x.y.hL j=x.hL j:=rfl
      simp [hfull,h9]
     have HNo:Hid (¬ x.y.hs.Can d2 j):=fun h9=>by
      have h8:d2 j<x.y.hL j:=h9.1
      omega
     have HSt2 : Hid ((T2 = false → d2 = d ∧ ∀ q, q < j + 1 → ¬ x.y.hs.Can d q) ∧ (T2 = true → sumL d x.pn < sumL d2 x.pn)) := ⟨fun h => ⟨(HSt.out.1 h).1, fun q hq => by
      have h9:=HSt.out.1 h
      by_cases e:q=j
      ·subst e
       rw [<- h9.1]
       exact HNo.out
      ·exact h9.2 q (by omega)⟩,HSt.out.2⟩
     have F5:Hid (Cf w x O d2 c2 V2 U2 wi/\x.y.hs.Put d2):=HF2.out
     clear hfull hdl
     go_wp2
     go_roundw
     case rel=>exact ⟨d2,c2,V2,U2,T2,j+1,by omega,by go_num,rfl,F5.out,HSt2.out⟩
     case measure=>simp [intOf];omega
    have he:((d2 j:Int) == (x.hL j:Int))=false:=by
     have h9:x.y.hL j=x.hL j:=rfl
     have:¬ (d2 j:Int)=(x.hL j:Int):=by omega
     simpa using this
    have HDj:Hid (d2 j<x.y.hL j/\d2 j<=200):=⟨by omega,by have:=HP.out.2 j hj';omega⟩
    have hd200:(d2 j:Int)<=200:=by have:=HDj.out.2;omega
    clear hfull hdl
    have hmk:=qca x.pn (by have:=H4.out;omega)
    have O3:Hid (OwnI (wi.alloc (.cells (madeCells #[.int .i64 0] x.pn) 3)) wi.heap.size (.slice (some ⟨wi.heap.size,0,none⟩) x.pn x.pn) (List.replicate x.pn 0)):=qeh wi x.pn (by have:=H4.out;omega)
    have B3:Hid (Below wi.heap.size wi (wi.alloc (.cells (madeCells #[.int .i64 0] x.pn) 3))):=zT _ _
    go_upto_region 12 with fail
    clear s0 s1 s2 s3 ch tj hmk he
    generalize wi.alloc (.cells (madeCells #[.int .i64 0] x.pn) 3)=w3 at *
    by_cases h0:d2 j=0
    ·have O4:Hid (OwnI w3 wi.heap.size (.slice (some ⟨wi.heap.size,0,none⟩) x.pn x.pn) (pvL x.y j (d2 j))):=by
      have h9:=O3.out
      show OwnI _ _ _ _
      unfold pvL
      rw [if_pos h0]
      exact h9
     have B4:Hid (Below wi.heap.size wi w3):=B3.out
     have hng:¬ (0:Int)<(d2 j:Int):=by omega
     have HN0:Hid (d2 j=0):=h0
     clear O3 B3 h0
     go_upto_region 14 with fail
     generalize hval:Value.slice (some ⟨wi.heap.size,0,none⟩) x.pn x.pn=vv at *
     obtain ⟨a4,c4,rfl⟩:∃ a c,vv=.slice a x.pn c:=⟨_,_,hval.symm⟩
     clear hval hng
     obtain ⟨s0,s1,s2,s3⟩:=(HF2.out.1.below B4.out).bs
     go_wp2_with fail
     clear s0 s1 s2 s3
     refine (HSn.out j (d2 j) w3 (HF2.out.1.below B4.out).be hj' HDj.out.1).mono ?_
     rintro e w5 ⟨rfl,b5⟩
     have BQ5:Hid (Below wi.heap.size wi w5):=B4.out.trans (b5.mono B4.out.size)
     have O5:Hid (OwnI w5 wi.heap.size (.slice a4 x.pn c4) (pvL x.y j (d2 j))):=O4.out.below b5
     clear b5 O4 B4
     cases hsd:sdr x.y j (d2 j) with
     | none=>
      have HCan:Hid (x.y.hs.Can d2 j):=(qbm HO.out.1 hj' HDj.out.1).2 fun s hs=>by rw [hsd] at hs;cases hs
      have hk3:=qg0 hsd
      rw [show sndN x.y j (d2 j) = -1 from if_neg hk3]
      have HNw:Hid (∀ q,q<x.pn->zi (pvL x.y j (d2 j)) q=((max (if d2 j=0 then 0 else clk x.y j (d2 j - 1) q) (match sdr x.y j (d2 j) with | none=>0 | some s=>clk x.y s.1 s.2 q):Nat):Int)):=fun q hq=>by
       rw [hsd,qn2 _ _ _ _ hq]
       simp
      have OQ:Hid (OwnI w5 wi.heap.size (.slice a4 x.pn c4) (pvL x.y j (d2 j))/\(pvL x.y j (d2 j)).length=x.pn):=⟨O5.out,qf1 _ _ _⟩
      have BQ:Hid (Below wi.heap.size wi w5):=BQ5.out
      clear hk3 hsd O5 BQ5
      obtain ⟨gq,cq',eq',hgq,hgl⟩:=OQ.out.1.block (by rw [OQ.out.2];exact HP1.out)
      rw [OQ.out.2] at eq'
      obtain ⟨rfl,rfl⟩:a4=some ⟨gq,0,none⟩/\c4=cq':=by
       simp only [Value.slice.injEq,true_and] at eq'
       exact eq'
      clear eq'
      have cN:w5.cell? ⟨gq,j,none⟩=some (.int .i64 (zi (pvL x.y j (d2 j)) j)):=by
       have o9:OwnI w5 wi.heap.size (.slice (some ⟨gq,0,none⟩) (pvL x.y j (d2 j)).length c4) (pvL x.y j (d2 j)):=by rw [OQ.out.2];exact OQ.out.1
       exact o9.cell (by rw [OQ.out.2];exact hj')
      have fN:w5.frozen? ⟨gq,j,none⟩=false:=by
       have o9:OwnI w5 wi.heap.size (.slice (some ⟨gq,0,none⟩) (pvL x.y j (d2 j)).length c4) (pvL x.y j (d2 j)):=by rw [OQ.out.2];exact OQ.out.1
       exact o9.frozen j
      have O8:Hid (OwnI (w5.setCell ⟨gq,j,none⟩ (.int .i64 ((d2 j:Int)+1))) wi.heap.size (.slice (some ⟨gq,0,none⟩) x.pn c4) (ckN x.y j (d2 j))/\Below wi.heap.size wi (w5.setCell ⟨gq,j,none⟩ (.int .i64 ((d2 j:Int)+1)))):=by
       refine ⟨?_,BQ.out.setCell hgq _⟩
       have h9:=(OQ.out.1.set OQ.out.2.symm j ((d2 j:Int)+1)).1
       rw [qio HO.out.1 HF2.out.2 hj' HCan.out OQ.out.2 HNw.out] at h9
       exact h9
      go_upto_region 20 with fail
      clear cN fN OQ BQ
      generalize w5.setCell ⟨gq,j,none⟩ (.int .i64 ((d2 j:Int)+1))=w8 at *
      have C8:Hid (C3 w8 O O x.y d2 c2 V2 U2):=HF2.out.1.c3.below O8.out.2
      have t8:=C8.out.top j hj'
      have f8:=C8.out.fz j
      rw [HVj.out] at t8
      have hO8:O<w8.heap.size:=C8.out.lt
      have HRow:Hid (w8.ownsRow 0 44 1 (.slice av (d2 j) cv) (d2 j) ((List.range (d2 j)).map (U2 j))):=by
       have h9:=(C8.out.ll j hj').row
       rw [HVj.out] at h9
       exact h9
      go_wp2_with (at_builtin;refine qa9 qsb w8 rfl rfl _ _ rfl 0 (.slice av (d2 j) cv) (d2 j) _ rfl HRow.out #[.slice (some ⟨gq,0,none⟩) x.pn c4] rfl rfl (by intro u hu;simp at hu;subst hu;rfl) (by have:=HDj.out;omega) (Nat.zero_le _) ?_;intro v5 w9 o5 g5 q5 n5;obtain ⟨a9,c9,rfl⟩:=zU o5;have P9:Hid ((C3 (w9.setCell ⟨O,j,none⟩ (.slice a9 (d2 j+1) c9)) O O x.y (up d2 j) (rcol c2 wi.heap.size (j+1)) (fun q=>if q=j then .slice a9 (d2 j+1) c9 else V2 q) (fun q=>if q=j then (fun i=>if i=d2 j then .slice (some ⟨gq,0,none⟩) x.pn c4 else U2 j i) else U2 q))/\Below O wi (w9.setCell ⟨O,j,none⟩ (.slice a9 (d2 j+1) c9))):=HF2.out.1.c3.push (Nat.le_of_lt HF2.out.1.c3.lt) hj' O8.out.2 O8.out.1 (fun e=>by cases e) o5 (by rw [HVj.out];exact g5) (by rw [HVj.out];exact q5);have t9:(w9.cell? ⟨O,j,none⟩).isSome=true:=(by have kO:w9.heap[O]? = w8.heap[O]?:=g5.block O hO8 (fun e=>by have h9:=(C8.out.ll j hj').rb O (by rw [HVj.out];exact e.symm);have h8:=h9.2;rw [C8.out.co] at h8;omega);rw [zH kO,t8];rfl);have f9:w9.frozen? ⟨O,j,none⟩=false:=(by have kO:w9.heap[O]? = w8.heap[O]?:=g5.block O hO8 (fun e=>by have h9:=(C8.out.ll j hj').rb O (by rw [HVj.out];exact e.symm);have h8:=h9.2;rw [C8.out.co] at h8;omega);rw [zI kO];exact f8);obtain ⟨z9,t9'⟩:=Option.isSome_iff_exists.1 t9;clear o5 g5 q5 n5 t9 t8 f8)
      have F9:Hid (Cf w x O (up d2 j) (rcol c2 wi.heap.size (j+1)) (fun q=>if q=j then .slice a9 (d2 j+1) c9 else V2 q) (fun q=>if q=j then (fun i=>if i=d2 j then .slice (some ⟨gq,0,none⟩) x.pn c4 else U2 j i) else U2 q) (w9.setCell ⟨O,j,none⟩ (.slice a9 (d2 j+1) c9))/\x.y.hs.Put (up d2 j)):=⟨HF2.out.1.next P9.out.1 P9.out.2,.next HF2.out.2 hj' HCan.out⟩
      have HS9:Hid (sumL d x.pn<sumL (up d2 j) x.pn):=by
       show sumL d x.pn<sumL (up d2 j) x.pn
       rw [qcp hj']
       exact Nat.lt_succ_of_le (HSm.out)
      go_roundw
      case rel=>exact ⟨_,_,_,_,true,j+1,by omega,by go_num,rfl,F9.out,fun h=>(by cases h),fun _=>HS9.out⟩
      case measure=>simp [intOf];omega
     | some s=>
      obtain ⟨s1,s2⟩:=s
      obtain ⟨m1,m2,m3,m4,m5,-,-,m8⟩:=qlb HO.out.1 hj' HDj.out.1 hsd
      have HSd:Hid (sdr x.y j (d2 j)=some (s1,s2)):=hsd
      have HM:Hid ((x.y.hH j (d2 j)).q=(s1:Int)/\s1<x.pn/\s2<x.y.hL s1/\(s1=j->s2<d2 j)):=⟨m2,m3,m4,m8⟩
      rw [m5]
      have hs2:(0:Int)<=(s2:Int):=by omega
      have hs1':(s1:Int)<(x.pn:Int):=by have:s1<x.pn:=m3;omega
      clear m1 m2 m3 m4 m5 m8 hsd
      obtain ⟨s0,s1x,s2x,s3⟩:=(HF2.out.1.below BQ5.out).bs
      rw [HHa.out.1] at s3
      have ch:=HHa.out.2 w5 (HF2.out.1.below BQ5.out).be j hj'
      obtain ⟨be,oe,ee,ze,-,ce,-⟩:=((HHe.out w5 (HF2.out.1.below BQ5.out).be) j hj').at HDj.out.1
      rw [ee] at ch
      have ceq:w5.cell? ⟨be,oe+d2 j*3+1,none⟩=some (.int .i64 (s1:Int)):=by rw [<- HM.out.1];exact ce
      have C5:Hid (C3 w5 O O x.y d2 c2 V2 U2):=HF2.out.1.c3.below BQ5.out
      obtain ⟨as1,cs,eVs⟩:=zU (C5.out.ll s1 HM.out.2.1).row
      have ts:=C5.out.top s1 HM.out.2.1
      rw [eVs] at ts
      have hdi:(d2 j:Int)<(x.hL j:Int):=by have:=HDj.out.1;have h9:x.y.hL j=x.hL j:=rfl;omega
      clear ce ee
      by_cases hcan:s2<d2 s1
      case neg=>
       have hne:((s1:Int) != (j:Int))=true:=by
        have h9:¬ s1=j:=fun e=>hcan (by rw [e];exact HM.out.2.2.2 e)
        have:¬ (s1:Int)=(j:Int):=by omega
        simpa using this
       have hge:(d2 s1:Int)<=(s2:Int):=by omega
       have HNo:Hid (¬ x.y.hs.Can d2 j):=fun h9=>hcan ((qbm HO.out.1 hj' HDj.out.1).1 h9 _ HSd.out)
       have HSt2 : Hid ((T2 = false → d2 = d ∧ ∀ q, q < j + 1 → ¬ x.y.hs.Can d q) ∧ (T2 = true → sumL d x.pn < sumL d2 x.pn)) := ⟨fun h => ⟨(HSt.out.1 h).1, fun q hq => by
        have h9:=HSt.out.1 h
        by_cases e:q=j
        ·subst e
         rw [<- h9.1]
         exact HNo.out
        ·exact h9.2 q (by omega)⟩,HSt.out.2⟩
       have F5:Hid (Cf w x O d2 c2 V2 U2 w5/\x.y.hs.Put d2):=⟨HF2.out.1.below BQ5.out,HF2.out.2⟩
       clear hcan eVs
       go_wp2
       go_roundw
       case rel=>exact ⟨d2,c2,V2,U2,T2,j+1,by omega,by go_num,rfl,F5.out,HSt2.out⟩
       case measure=>simp [intOf];omega
      have HCan:Hid (x.y.hs.Can d2 j):=(qbm HO.out.1 hj' HDj.out.1).2 fun s hs=>by
       rw [HSd.out] at hs
       obtain rfl:=Option.some.inj hs
       exact hcan
      have hge:¬ (d2 s1:Int)<=(s2:Int):=by omega
      have hlt2:(s2:Int)<(d2 s1:Int):=by omega
      obtain ⟨gs,cs',eV',-,hgs,cs2,-⟩:=(C5.out.ll s1 HM.out.2.1).cell hcan
      have eas:as1=some ⟨gs,0,none⟩:=by
       rw [eVs] at eV'
       simp only [Value.slice.injEq] at eV'
       exact eV'.1
      subst eas
      have oU:OwnI w5 0 (U2 s1 s2) (ckN x.y s1 s2):=by
       have h9:=(C5.out.ll s1 HM.out.2.1).own s2 hcan
       unfold OwnI
       rw [qbq]
       exact h9
      obtain ⟨au,cu,eU,sU⟩:=oU.form
      rw [qbq] at eU
      rw [eU] at cs2
      have HSu:Hid (Sl w5 au (ckN x.y s1 s2)):=sU
      have HS4:Hid (Sl w5 a4 (pvL x.y j (d2 j))):=by
       have o9:OwnI w5 wi.heap.size (.slice a4 (pvL x.y j (d2 j)).length c4) (pvL x.y j (d2 j)):=by rw [qf1];exact O5.out
       exact o9.slOf
      have HNe:Hid ((((s1:Int) != (j:Int))=true)\/(((s1:Int) != (j:Int))=false)):=by
       show _\/_
       cases h9:((s1:Int) != (j:Int))
       ·exact .inr rfl
       ·exact .inl rfl
      clear hcan eVs eV' eU sU oU
      rcases HNe.out with hne | hne
      all_goals
       go_wp2_with fail
       clear s0 s1x s2x s3 ch ceq ts cs2 hge hlt2 hne hdi ze hgs HNe
       refine (qh9 a4 au c4 cu (pvL x.y j (d2 j)) (ckN x.y s1 s2) x.pn w5 HS4.out HSu.out (qf1 _ _ _) (qbq _ _ _) (by have:=H4.out;omega)).mono ?_
       rintro e w6 ⟨v6,rfl,o6,b6⟩
       obtain ⟨a6,c6,rfl,-⟩:=o6.form
       rw [qhf] at o6 ⊢
       have BQ:Hid (Below wi.heap.size wi w6):=BQ5.out.trans (b6.mono BQ5.out.size)
       have OQ:Hid (OwnI w6 wi.heap.size (.slice a6 x.pn c6) (jnL (pvL x.y j (d2 j)) (ckN x.y s1 s2) x.pn)/\(jnL (pvL x.y j (d2 j)) (ckN x.y s1 s2) x.pn).length=x.pn):=⟨o6.mono BQ5.out.size,qhf _ _ _⟩
       have HNw:Hid (∀ q,q<x.pn->zi (jnL (pvL x.y j (d2 j)) (ckN x.y s1 s2) x.pn) q=((max (if d2 j=0 then 0 else clk x.y j (d2 j - 1) q) (match sdr x.y j (d2 j) with | none=>0 | some s=>clk x.y s.1 s.2 q):Nat):Int)):=fun q hq=>by
        rw [HSd.out]
        unfold zi jnL
        rw [List.getD_eq_getElem?_getD,List.getElem?_map,List.getElem?_range hq]
        show cMx (zi (pvL x.y j (d2 j)) q) (zi (ckN x.y s1 s2) q)=_
        rw [qn2 _ _ _ _ hq,qh6 _ _ _ _ hq,qfp]
       clear o6 b6 BQ5 O5 C5 HSu HS4
       obtain ⟨gq,cq',eq',hgq,hgl⟩:=OQ.out.1.block (by rw [OQ.out.2];exact HP1.out)
       rw [OQ.out.2] at eq'
       obtain ⟨rfl,rfl⟩:a6=some ⟨gq,0,none⟩/\c6=cq':=by
        simp only [Value.slice.injEq,true_and] at eq'
        exact eq'
       clear eq'
       have cN:w6.cell? ⟨gq,j,none⟩=some (.int .i64 (zi (jnL (pvL x.y j (d2 j)) (ckN x.y s1 s2) x.pn) j)):=by
        have o9:OwnI w6 wi.heap.size (.slice (some ⟨gq,0,none⟩) (jnL (pvL x.y j (d2 j)) (ckN x.y s1 s2) x.pn).length c6) (jnL (pvL x.y j (d2 j)) (ckN x.y s1 s2) x.pn):=by rw [OQ.out.2];exact OQ.out.1
        exact o9.cell (by rw [OQ.out.2];exact hj')
       have fN:w6.frozen? ⟨gq,j,none⟩=false:=by
        have o9:OwnI w6 wi.heap.size (.slice (some ⟨gq,0,none⟩) (jnL (pvL x.y j (d2 j)) (ckN x.y s1 s2) x.pn).length c6) (jnL (pvL x.y j (d2 j)) (ckN x.y s1 s2) x.pn):=by rw [OQ.out.2];exact OQ.out.1
        exact o9.frozen j
       have O8:Hid (OwnI (w6.setCell ⟨gq,j,none⟩ (.int .i64 ((d2 j:Int)+1))) wi.heap.size (.slice (some ⟨gq,0,none⟩) x.pn c6) (ckN x.y j (d2 j))/\Below wi.heap.size wi (w6.setCell ⟨gq,j,none⟩ (.int .i64 ((d2 j:Int)+1)))):=by
        refine ⟨?_,BQ.out.setCell hgq _⟩
        have h9:=(OQ.out.1.set OQ.out.2.symm j ((d2 j:Int)+1)).1
        rw [qio HO.out.1 HF2.out.2 hj' HCan.out OQ.out.2 HNw.out] at h9
        exact h9
       go_upto_region 20 with fail
       clear cN fN OQ BQ
       generalize w6.setCell ⟨gq,j,none⟩ (.int .i64 ((d2 j:Int)+1))=w8 at *
       have C8:Hid (C3 w8 O O x.y d2 c2 V2 U2):=HF2.out.1.c3.below O8.out.2
       have t8:=C8.out.top j hj'
       have f8:=C8.out.fz j
       rw [HVj.out] at t8
       have hO8:O<w8.heap.size:=C8.out.lt
       have HRow:Hid (w8.ownsRow 0 44 1 (.slice av (d2 j) cv) (d2 j) ((List.range (d2 j)).map (U2 j))):=by
        have h9:=(C8.out.ll j hj').row
        rw [HVj.out] at h9
        exact h9
       go_wp2_with (at_builtin;refine qa9 qsb w8 rfl rfl _ _ rfl 0 (.slice av (d2 j) cv) (d2 j) _ rfl HRow.out #[.slice (some ⟨gq,0,none⟩) x.pn c6] rfl rfl (by intro u hu;simp at hu;subst hu;rfl) (by have:=HDj.out;omega) (Nat.zero_le _) ?_;intro v5 w9 o5 g5 q5 n5;obtain ⟨a9,c9,rfl⟩:=zU o5;have P9:Hid ((C3 (w9.setCell ⟨O,j,none⟩ (.slice a9 (d2 j+1) c9)) O O x.y (up d2 j) (rcol c2 wi.heap.size (j+1)) (fun q=>if q=j then .slice a9 (d2 j+1) c9 else V2 q) (fun q=>if q=j then (fun i=>if i=d2 j then .slice (some ⟨gq,0,none⟩) x.pn c6 else U2 j i) else U2 q))/\Below O wi (w9.setCell ⟨O,j,none⟩ (.slice a9 (d2 j+1) c9))):=HF2.out.1.c3.push (Nat.le_of_lt HF2.out.1.c3.lt) hj' O8.out.2 O8.out.1 (fun e=>by cases e) o5 (by rw [HVj.out];exact g5) (by rw [HVj.out];exact q5);have t9:(w9.cell? ⟨O,j,none⟩).isSome=true:=(by have kO:w9.heap[O]? = w8.heap[O]?:=g5.block O hO8 (fun e=>by have h9:=(C8.out.ll j hj').rb O (by rw [HVj.out];exact e.symm);have h8:=h9.2;rw [C8.out.co] at h8;omega);rw [zH kO,t8];rfl);have f9:w9.frozen? ⟨O,j,none⟩=false:=(by have kO:w9.heap[O]? = w8.heap[O]?:=g5.block O hO8 (fun e=>by have h9:=(C8.out.ll j hj').rb O (by rw [HVj.out];exact e.symm);have h8:=h9.2;rw [C8.out.co] at h8;omega);rw [zI kO];exact f8);obtain ⟨z9,t9'⟩:=Option.isSome_iff_exists.1 t9;clear o5 g5 q5 n5 t9 t8 f8)
       have F9:Hid (Cf w x O (up d2 j) (rcol c2 wi.heap.size (j+1)) (fun q=>if q=j then .slice a9 (d2 j+1) c9 else V2 q) (fun q=>if q=j then (fun i=>if i=d2 j then .slice (some ⟨gq,0,none⟩) x.pn c6 else U2 j i) else U2 q) (w9.setCell ⟨O,j,none⟩ (.slice a9 (d2 j+1) c9))/\x.y.hs.Put (up d2 j)):=⟨HF2.out.1.next P9.out.1 P9.out.2,.next HF2.out.2 hj' HCan.out⟩
       have HS9:Hid (sumL d x.pn<sumL (up d2 j) x.pn):=by
        show sumL d x.pn<sumL (up d2 j) x.pn
        rw [qcp hj']
        exact Nat.lt_succ_of_le (HSm.out)
       go_roundw
       case rel=>exact ⟨_,_,_,_,true,j+1,by omega,by go_num,rfl,F9.out,fun h=>(by cases h),fun _=>HS9.out⟩
       case measure=>simp [intOf];omega
    ·have HN0:Hid (¬ d2 j=0):=h0
     have C4:Hid (C3 w3 O O x.y d2 c2 V2 U2):=HF2.out.1.c3.below B3.out
     have hpos:(0:Int)<(d2 j:Int):=by omega
     have hm1:(d2 j:Int) - 1=((d2 j - 1:Nat):Int):=by omega
     have hm2:d2 j - 1<d2 j:=by omega
     have hm3:((d2 j - 1:Nat):Int)<(d2 j:Int):=by omega
     have t4:=C4.out.top j hj'
     rw [HVj.out] at t4
     have hO4:O<w3.heap.size:=C4.out.lt
     obtain ⟨gs,cs',eV',-,hgs,cs2,-⟩:=(C4.out.ll j hj').cell hm2
     have eas:av=some ⟨gs,0,none⟩:=by
      rw [HVj.out] at eV'
      simp only [Value.slice.injEq] at eV'
      exact eV'.1
     subst eas
     have oU:OwnI w3 0 (U2 j (d2 j - 1)) (ckN x.y j (d2 j - 1)):=by
      have h9:=(C4.out.ll j hj').own (d2 j - 1) hm2
      unfold OwnI
      rw [qbq]
      exact h9
     obtain ⟨au,cu,eU,sU⟩:=oU.form
     rw [show (ckN x.y j (d2 j - 1)).length=x.pn from qbq _ _ _] at eU
     rw [eU] at cs2
     have HSc:Hid (Src w3 au ((ckN x.y j (d2 j - 1)).map (Value.int .i64))):=by
      rcases sU with h9 | ⟨b,off,h7,h8,h9⟩
      ·exact .inl (by rw [h9];rfl)
      ·refine .inr ⟨b,off,h7,h8,fun i u hu=>?_⟩
       rw [List.getElem?_map] at hu
       cases h6:(ckN x.y j (d2 j - 1))[i]? with
       | none=>rw [h6] at hu;cases hu
       | some z=>
        rw [h6] at hu
        obtain rfl:=Option.some.inj hu
        rw [h9 i (List.getElem?_eq_some_iff.1 h6).1]
        unfold zi
        rw [List.getD_eq_getElem?_getD,h6]
        rfl
     clear h0 eV' eU sU oU O3
     go_upto_region 14 with (at_builtin;refine qct kndZ w3 rfl rfl _ _ rfl au x.pn cu ((ckN x.y j (d2 j - 1)).map (Value.int .i64)) rfl rfl (by rw [List.length_map,qbq,Nat.mul_one];rfl) HSc.out (by intro u hu;obtain ⟨z,-,rfl⟩:=List.mem_map.1 hu;rfl) (by have:=H4.out;omega) ?_;intro v4 w4 o4 b4 n4;obtain ⟨a4,c4,rfl⟩:=zU o4;have O4:Hid (OwnI w4 wi.heap.size (.slice a4 x.pn c4) (pvL x.y j (d2 j))):=(by show OwnI _ _ _ _;unfold pvL;rw [if_neg HN0.out];refine OwnI.mono (B:=w3.heap.size) ?_ B3.out.size;unfold OwnI;rw [qbq];exact o4);have B4:Hid (Below wi.heap.size wi w4):=B3.out.trans (b4.mono B3.out.size);clear o4 b4 n4 B3 HSc cs2 t4 hgs hO4 hm1 hm2 hm3 hpos C4)
     generalize hav:(some ⟨gs,0,none⟩:Option Addr)=av at *
     clear hav
     obtain ⟨s0,s1,s2,s3⟩:=(HF2.out.1.below B4.out).bs
     go_wp2_with fail
     clear s0 s1 s2 s3
     refine (HSn.out j (d2 j) w4 (HF2.out.1.below B4.out).be hj' HDj.out.1).mono ?_
     rintro e w5 ⟨rfl,b5⟩
     have BQ5:Hid (Below wi.heap.size wi w5):=B4.out.trans (b5.mono B4.out.size)
     have O5:Hid (OwnI w5 wi.heap.size (.slice a4 x.pn c4) (pvL x.y j (d2 j))):=O4.out.below b5
     clear b5 O4 B4
     cases hsd:sdr x.y j (d2 j) with
     | none=>
      have HCan:Hid (x.y.hs.Can d2 j):=(qbm HO.out.1 hj' HDj.out.1).2 fun s hs=>by rw [hsd] at hs;cases hs
      have hk3:=qg0 hsd
      rw [show sndN x.y j (d2 j) = -1 from if_neg hk3]
      have HNw:Hid (∀ q,q<x.pn->zi (pvL x.y j (d2 j)) q=((max (if d2 j=0 then 0 else clk x.y j (d2 j - 1) q) (match sdr x.y j (d2 j) with | none=>0 | some s=>clk x.y s.1 s.2 q):Nat):Int)):=fun q hq=>by
       rw [hsd,qn2 _ _ _ _ hq]
       simp
      have OQ:Hid (OwnI w5 wi.heap.size (.slice a4 x.pn c4) (pvL x.y j (d2 j))/\(pvL x.y j (d2 j)).length=x.pn):=⟨O5.out,qf1 _ _ _⟩
      have BQ:Hid (Below wi.heap.size wi w5):=BQ5.out
      clear hk3 hsd O5 BQ5
      obtain ⟨gq,cq',eq',hgq,hgl⟩:=OQ.out.1.block (by rw [OQ.out.2];exact HP1.out)
      rw [OQ.out.2] at eq'
      obtain ⟨rfl,rfl⟩:a4=some ⟨gq,0,none⟩/\c4=cq':=by
       simp only [Value.slice.injEq,true_and] at eq'
       exact eq'
      clear eq'
      have cN:w5.cell? ⟨gq,j,none⟩=some (.int .i64 (zi (pvL x.y j (d2 j)) j)):=by
       have o9:OwnI w5 wi.heap.size (.slice (some ⟨gq,0,none⟩) (pvL x.y j (d2 j)).length c4) (pvL x.y j (d2 j)):=by rw [OQ.out.2];exact OQ.out.1
       exact o9.cell (by rw [OQ.out.2];exact hj')
      have fN:w5.frozen? ⟨gq,j,none⟩=false:=by
       have o9:OwnI w5 wi.heap.size (.slice (some ⟨gq,0,none⟩) (pvL x.y j (d2 j)).length c4) (pvL x.y j (d2 j)):=by rw [OQ.out.2];exact OQ.out.1
       exact o9.frozen j
      have O8:Hid (OwnI (w5.setCell ⟨gq,j,none⟩ (.int .i64 ((d2 j:Int)+1))) wi.heap.size (.slice (some ⟨gq,0,none⟩) x.pn c4) (ckN x.y j (d2 j))/\Below wi.heap.size wi (w5.setCell ⟨gq,j,none⟩ (.int .i64 ((d2 j:Int)+1)))):=by
       refine ⟨?_,BQ.out.setCell hgq _⟩
       have h9:=(OQ.out.1.set OQ.out.2.symm j ((d2 j:Int)+1)).1
       rw [qio HO.out.1 HF2.out.2 hj' HCan.out OQ.out.2 HNw.out] at h9
       exact h9
      go_upto_region 20 with fail
      clear cN fN OQ BQ
      generalize w5.setCell ⟨gq,j,none⟩ (.int .i64 ((d2 j:Int)+1))=w8 at *
      have C8:Hid (C3 w8 O O x.y d2 c2 V2 U2):=HF2.out.1.c3.below O8.out.2
      have t8:=C8.out.top j hj'
      have f8:=C8.out.fz j
      rw [HVj.out] at t8
      have hO8:O<w8.heap.size:=C8.out.lt
      have HRow:Hid (w8.ownsRow 0 44 1 (.slice av (d2 j) cv) (d2 j) ((List.range (d2 j)).map (U2 j))):=by
       have h9:=(C8.out.ll j hj').row
       rw [HVj.out] at h9
       exact h9
      go_wp2_with (at_builtin;refine qa9 qsb w8 rfl rfl _ _ rfl 0 (.slice av (d2 j) cv) (d2 j) _ rfl HRow.out #[.slice (some ⟨gq,0,none⟩) x.pn c4] rfl rfl (by intro u hu;simp at hu;subst hu;rfl) (by have:=HDj.out;omega) (Nat.zero_le _) ?_;intro v5 w9 o5 g5 q5 n5;obtain ⟨a9,c9,rfl⟩:=zU o5;have P9:Hid ((C3 (w9.setCell ⟨O,j,none⟩ (.slice a9 (d2 j+1) c9)) O O x.y (up d2 j) (rcol c2 wi.heap.size (j+1)) (fun q=>if q=j then .slice a9 (d2 j+1) c9 else V2 q) (fun q=>if q=j then (fun i=>if i=d2 j then .slice (some ⟨gq,0,none⟩) x.pn c4 else U2 j i) else U2 q))/\Below O wi (w9.setCell ⟨O,j,none⟩ (.slice a9 (d2 j+1) c9))):=HF2.out.1.c3.push (Nat.le_of_lt HF2.out.1.c3.lt) hj' O8.out.2 O8.out.1 (fun e=>by cases e) o5 (by rw [HVj.out];exact g5) (by rw [HVj.out];exact q5);have t9:(w9.cell? ⟨O,j,none⟩).isSome=true:=(by have kO:w9.heap[O]? = w8.heap[O]?:=g5.block O hO8 (fun e=>by have h9:=(C8.out.ll j hj').rb O (by rw [HVj.out];exact e.symm);have h8:=h9.2;rw [C8.out.co] at h8;omega);rw [zH kO,t8];rfl);have f9:w9.frozen? ⟨O,j,none⟩=false:=(by have kO:w9.heap[O]? = w8.heap[O]?:=g5.block O hO8 (fun e=>by have h9:=(C8.out.ll j hj').rb O (by rw [HVj.out];exact e.symm);have h8:=h9.2;rw [C8.out.co] at h8;omega);rw [zI kO];exact f8);obtain ⟨z9,t9'⟩:=Option.isSome_iff_exists.1 t9;clear o5 g5 q5 n5 t9 t8 f8)
      have F9:Hid (Cf w x O (up d2 j) (rcol c2 wi.heap.size (j+1)) (fun q=>if q=j then .slice a9 (d2 j+1) c9 else V2 q) (fun q=>if q=j then (fun i=>if i=d2 j then .slice (some ⟨gq,0,none⟩) x.pn c4 else U2 j i) else U2 q) (w9.setCell ⟨O,j,none⟩ (.slice a9 (d2 j+1) c9))/\x.y.hs.Put (up d2 j)):=⟨HF2.out.1.next P9.out.1 P9.out.2,.next HF2.out.2 hj' HCan.out⟩
      have HS9:Hid (sumL d x.pn<sumL (up d2 j) x.pn):=by
       show sumL d x.pn<sumL (up d2 j) x.pn
       rw [qcp hj']
       exact Nat.lt_succ_of_le (HSm.out)
      go_roundw
      case rel=>exact ⟨_,_,_,_,true,j+1,by omega,by go_num,rfl,F9.out,fun h=>(by cases h),fun _=>HS9.out⟩
      case measure=>simp [intOf];omega
     | some s=>
      obtain ⟨s1,s2⟩:=s
      obtain ⟨m1,m2,m3,m4,m5,-,-,m8⟩:=qlb HO.out.1 hj' HDj.out.1 hsd
      have HSd:Hid (sdr x.y j (d2 j)=some (s1,s2)):=hsd
      have HM:Hid ((x.y.hH j (d2 j)).q=(s1:Int)/\s1<x.pn/\s2<x.y.hL s1/\(s1=j->s2<d2 j)):=⟨m2,m3,m4,m8⟩
      rw [m5]
      have hs2:(0:Int)<=(s2:Int):=by omega
      have hs1':(s1:Int)<(x.pn:Int):=by have:s1<x.pn:=m3;omega
      clear m1 m2 m3 m4 m5 m8 hsd
      obtain ⟨s0,s1x,s2x,s3⟩:=(HF2.out.1.below BQ5.out).bs
      rw [HHa.out.1] at s3
      have ch:=HHa.out.2 w5 (HF2.out.1.below BQ5.out).be j hj'
      obtain ⟨be,oe,ee,ze,-,ce,-⟩:=((HHe.out w5 (HF2.out.1.below BQ5.out).be) j hj').at HDj.out.1
      rw [ee] at ch
      have ceq:w5.cell? ⟨be,oe+d2 j*3+1,none⟩=some (.int .i64 (s1:Int)):=by rw [<- HM.out.1];exact ce
      have C5:Hid (C3 w5 O O x.y d2 c2 V2 U2):=HF2.out.1.c3.below BQ5.out
      obtain ⟨as1,cs,eVs⟩:=zU (C5.out.ll s1 HM.out.2.1).row
      have ts:=C5.out.top s1 HM.out.2.1
      rw [eVs] at ts
      have hdi:(d2 j:Int)<(x.hL j:Int):=by have:=HDj.out.1;have h9:x.y.hL j=x.hL j:=rfl;omega
      clear ce ee
      by_cases hcan:s2<d2 s1
      case neg=>
       have hne:((s1:Int) != (j:Int))=true:=by
        have h9:¬ s1=j:=fun e=>hcan (by rw [e];exact HM.out.2.2.2 e)
        have:¬ (s1:Int)=(j:Int):=by omega
        simpa using this
       have hge:(d2 s1:Int)<=(s2:Int):=by omega
       have HNo:Hid (¬ x.y.hs.Can d2 j):=fun h9=>hcan ((qbm HO.out.1 hj' HDj.out.1).1 h9 _ HSd.out)
       have HSt2 : Hid ((T2 = false → d2 = d ∧ ∀ q, q < j + 1 → ¬ x.y.hs.Can d q) ∧ (T2 = true → sumL d x.pn < sumL d2 x.pn)) := ⟨fun h => ⟨(HSt.out.1 h).1, fun q hq => by
        have h9:=HSt.out.1 h
        by_cases e:q=j
        ·subst e
         rw [<- h9.1]
         exact HNo.out
        ·exact h9.2 q (by omega)⟩,HSt.out.2⟩
       have F5:Hid (Cf w x O d2 c2 V2 U2 w5/\x.y.hs.Put d2):=⟨HF2.out.1.below BQ5.out,HF2.out.2⟩
       clear hcan eVs
       go_wp2
       go_roundw
       case rel=>exact ⟨d2,c2,V2,U2,T2,j+1,by omega,by go_num,rfl,F5.out,HSt2.out⟩
       case measure=>simp [intOf];omega
      have HCan:Hid (x.y.hs.Can d2 j):=(qbm HO.out.1 hj' HDj.out.1).2 fun s hs=>by
       rw [HSd.out] at hs
       obtain rfl:=Option.some.inj hs
       exact hcan
      have hge:¬ (d2 s1:Int)<=(s2:Int):=by omega
      have hlt2:(s2:Int)<(d2 s1:Int):=by omega
      obtain ⟨gs,cs',eV',-,hgs,cs2,-⟩:=(C5.out.ll s1 HM.out.2.1).cell hcan
      have eas:as1=some ⟨gs,0,none⟩:=by
       rw [eVs] at eV'
       simp only [Value.slice.injEq] at eV'
       exact eV'.1
      subst eas
      have oU:OwnI w5 0 (U2 s1 s2) (ckN x.y s1 s2):=by
       have h9:=(C5.out.ll s1 HM.out.2.1).own s2 hcan
       unfold OwnI
       rw [qbq]
       exact h9
      obtain ⟨au,cu,eU,sU⟩:=oU.form
      rw [qbq] at eU
      rw [eU] at cs2
      have HSu:Hid (Sl w5 au (ckN x.y s1 s2)):=sU
      have HS4:Hid (Sl w5 a4 (pvL x.y j (d2 j))):=by
       have o9:OwnI w5 wi.heap.size (.slice a4 (pvL x.y j (d2 j)).length c4) (pvL x.y j (d2 j)):=by rw [qf1];exact O5.out
       exact o9.slOf
      have HNe:Hid ((((s1:Int) != (j:Int))=true)\/(((s1:Int) != (j:Int))=false)):=by
       show _\/_
       cases h9:((s1:Int) != (j:Int))
       ·exact .inr rfl
       ·exact .inl rfl
      clear hcan eVs eV' eU sU oU
      rcases HNe.out with hne | hne
      all_goals
       go_wp2_with fail
       clear s0 s1x s2x s3 ch ceq ts cs2 hge hlt2 hne hdi ze hgs HNe
       refine (qh9 a4 au c4 cu (pvL x.y j (d2 j)) (ckN x.y s1 s2) x.pn w5 HS4.out HSu.out (qf1 _ _ _) (qbq _ _ _) (by have:=H4.out;omega)).mono ?_
       rintro e w6 ⟨v6,rfl,o6,b6⟩
       obtain ⟨a6,c6,rfl,-⟩:=o6.form
       rw [qhf] at o6 ⊢
       have BQ:Hid (Below wi.heap.size wi w6):=BQ5.out.trans (b6.mono BQ5.out.size)
       have OQ:Hid (OwnI w6 wi.heap.size (.slice a6 x.pn c6) (jnL (pvL x.y j (d2 j)) (ckN x.y s1 s2) x.pn)/\(jnL (pvL x.y j (d2 j)) (ckN x.y s1 s2) x.pn).length=x.pn):=⟨o6.mono BQ5.out.size,qhf _ _ _⟩
       have HNw:Hid (∀ q,q<x.pn->zi (jnL (pvL x.y j (d2 j)) (ckN x.y s1 s2) x.pn) q=((max (if d2 j=0 then 0 else clk x.y j (d2 j - 1) q) (match sdr x.y j (d2 j) with | none=>0 | some s=>clk x.y s.1 s.2 q):Nat):Int)):=fun q hq=>by
        rw [HSd.out]
        unfold zi jnL
        rw [List.getD_eq_getElem?_getD,List.getElem?_map,List.getElem?_range hq]
        show cMx (zi (pvL x.y j (d2 j)) q) (zi (ckN x.y s1 s2) q)=_
        rw [qn2 _ _ _ _ hq,qh6 _ _ _ _ hq,qfp]
       clear o6 b6 BQ5 O5 C5 HSu HS4
       obtain ⟨gq,cq',eq',hgq,hgl⟩:=OQ.out.1.block (by rw [OQ.out.2];exact HP1.out)
       rw [OQ.out.2] at eq'
       obtain ⟨rfl,rfl⟩:a6=some ⟨gq,0,none⟩/\c6=cq':=by
        simp only [Value.slice.injEq,true_and] at eq'
        exact eq'
       clear eq'
       have cN:w6.cell? ⟨gq,j,none⟩=some (.int .i64 (zi (jnL (pvL x.y j (d2 j)) (ckN x.y s1 s2) x.pn) j)):=by
        have o9:OwnI w6 wi.heap.size (.slice (some ⟨gq,0,none⟩) (jnL (pvL x.y j (d2 j)) (ckN x.y s1 s2) x.pn).length c6) (jnL (pvL x.y j (d2 j)) (ckN x.y s1 s2) x.pn):=by rw [OQ.out.2];exact OQ.out.1
        exact o9.cell (by rw [OQ.out.2];exact hj')
       have fN:w6.frozen? ⟨gq,j,none⟩=false:=by
        have o9:OwnI w6 wi.heap.size (.slice (some ⟨gq,0,none⟩) (jnL (pvL x.y j (d2 j)) (ckN x.y s1 s2) x.pn).length c6) (jnL (pvL x.y j (d2 j)) (ckN x.y s1 s2) x.pn):=by rw [OQ.out.2];exact OQ.out.1
        exact o9.frozen j
       have O8:Hid (OwnI (w6.setCell ⟨gq,j,none⟩ (.int .i64 ((d2 j:Int)+1))) wi.heap.size (.slice (some ⟨gq,0,none⟩) x.pn c6) (ckN x.y j (d2 j))/\Below wi.heap.size wi (w6.setCell ⟨gq,j,none⟩ (.int .i64 ((d2 j:Int)+1)))):=by
        refine ⟨?_,BQ.out.setCell hgq _⟩
        have h9:=(OQ.out.1.set OQ.out.2.symm j ((d2 j:Int)+1)).1
        rw [qio HO.out.1 HF2.out.2 hj' HCan.out OQ.out.2 HNw.out] at h9
        exact h9
       go_upto_region 20 with fail
       clear cN fN OQ BQ
       generalize w6.setCell ⟨gq,j,none⟩ (.int .i64 ((d2 j:Int)+1))=w8 at *
       have C8:Hid (C3 w8 O O x.y d2 c2 V2 U2):=HF2.out.1.c3.below O8.out.2
       have t8:=C8.out.top j hj'
       have f8:=C8.out.fz j
       rw [HVj.out] at t8
       have hO8:O<w8.heap.size:=C8.out.lt
       have HRow:Hid (w8.ownsRow 0 44 1 (.slice av (d2 j) cv) (d2 j) ((List.range (d2 j)).map (U2 j))):=by
        have h9:=(C8.out.ll j hj').row
        rw [HVj.out] at h9
        exact h9
       go_wp2_with (at_builtin;refine qa9 qsb w8 rfl rfl _ _ rfl 0 (.slice av (d2 j) cv) (d2 j) _ rfl HRow.out #[.slice (some ⟨gq,0,none⟩) x.pn c6] rfl rfl (by intro u hu;simp at hu;subst hu;rfl) (by have:=HDj.out;omega) (Nat.zero_le _) ?_;intro v5 w9 o5 g5 q5 n5;obtain ⟨a9,c9,rfl⟩:=zU o5;have P9:Hid ((C3 (w9.setCell ⟨O,j,none⟩ (.slice a9 (d2 j+1) c9)) O O x.y (up d2 j) (rcol c2 wi.heap.size (j+1)) (fun q=>if q=j then .slice a9 (d2 j+1) c9 else V2 q) (fun q=>if q=j then (fun i=>if i=d2 j then .slice (some ⟨gq,0,none⟩) x.pn c6 else U2 j i) else U2 q))/\Below O wi (w9.setCell ⟨O,j,none⟩ (.slice a9 (d2 j+1) c9))):=HF2.out.1.c3.push (Nat.le_of_lt HF2.out.1.c3.lt) hj' O8.out.2 O8.out.1 (fun e=>by cases e) o5 (by rw [HVj.out];exact g5) (by rw [HVj.out];exact q5);have t9:(w9.cell? ⟨O,j,none⟩).isSome=true:=(by have kO:w9.heap[O]? = w8.heap[O]?:=g5.block O hO8 (fun e=>by have h9:=(C8.out.ll j hj').rb O (by rw [HVj.out];exact e.symm);have h8:=h9.2;rw [C8.out.co] at h8;omega);rw [zH kO,t8];rfl);have f9:w9.frozen? ⟨O,j,none⟩=false:=(by have kO:w9.heap[O]? = w8.heap[O]?:=g5.block O hO8 (fun e=>by have h9:=(C8.out.ll j hj').rb O (by rw [HVj.out];exact e.symm);have h8:=h9.2;rw [C8.out.co] at h8;omega);rw [zI kO];exact f8);obtain ⟨z9,t9'⟩:=Option.isSome_iff_exists.1 t9;clear o5 g5 q5 n5 t9 t8 f8)
       have F9:Hid (Cf w x O (up d2 j) (rcol c2 wi.heap.size (j+1)) (fun q=>if q=j then .slice a9 (d2 j+1) c9 else V2 q) (fun q=>if q=j then (fun i=>if i=d2 j then .slice (some ⟨gq,0,none⟩) x.pn c6 else U2 j i) else U2 q) (w9.setCell ⟨O,j,none⟩ (.slice a9 (d2 j+1) c9))/\x.y.hs.Put (up d2 j)):=⟨HF2.out.1.next P9.out.1 P9.out.2,.next HF2.out.2 hj' HCan.out⟩
       have HS9:Hid (sumL d x.pn<sumL (up d2 j) x.pn):=by
        show sumL d x.pn<sumL (up d2 j) x.pn
        rw [qcp hj']
        exact Nat.lt_succ_of_le (HSm.out)
       go_roundw
       case rel=>exact ⟨_,_,_,_,true,j+1,by omega,by go_num,rfl,F9.out,fun h=>(by cases h),fun _=>HS9.out⟩
       case measure=>simp [intOf];omega
