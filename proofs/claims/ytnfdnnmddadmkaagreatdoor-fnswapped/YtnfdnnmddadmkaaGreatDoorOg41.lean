import Derived.Test.YtnfdnnmddadmkaaGreatDoorOg39
import Derived.Test.YtnfdnnmddadmkaaGreatDoorOg40
namespace Go.Proofs.YtnfdnnmddadmkaaGreatDoor
set_option maxRecDepth 100000
set_option maxHeartbeats 2000000
open Go.ChangeShapes Go.WideShapes Go.ChangeAt Go.RowKit Go.Deep Go.Sort
def snV (y:Sy) (p i:Nat):Value:=if (y.hH p i).k=3 then .tuple #[.agg #[.int .i64 (y.hH p i).q,.int .i64 (sndN y p i)],.bool true] else .tuple #[.agg #[.int .i64 0,.int .i64 0],.bool false]
theorem qlc (x:SysIn) (p i:Nat) (w:World) (hG:SysG w x) (hcap:∀ i,i<x.hn->x.hL i<=x.hC i) (hO:x.y.Ok) (hp:p<x.pn) (hi:i<x.hL p):
  Calls Tryz.prog 152 #[x.v,.agg #[.int .i64 p,.int .i64 i]] w fun e w'=>e=.returned (snV x.y p i)/\Below w.heap.size w w':=by
 have hhn:x.hn=x.pn:=hO.cn.2.2.1
 have hph:p<x.hn:=by omega
 have hq:0<=(x.hH p i).q/\(x.hH p i).q<(x.pn:Int):=hO.evq hp hi
 have hlp:x.hL p<=200:=hO.hl200 hp
 obtain ⟨q,hqe⟩:∃ q:Nat,(x.hH p i).q=q:=⟨(x.hH p i).q.toNat,by omega⟩
 have hqn:q<x.hn:=by omega
 have hlq:x.hL q<=200:=hO.hl200 (by show q<x.pn;omega)
 have hcp:=hcap p hph
 have hph':(p:Int)<(x.hn:Int):=by omega
 have hqn':(q:Int)<(x.hn:Int):=by omega
 have hi':(i:Int)<(x.hL p:Int):=by omega
 have HG:Hid (SysG w x):=hG
 have HV:Hid (sndN x.y p i=if (x.hH p i).k=3 then nthV (x.hH q) 2 p (x.hL q) ((plN (x.hH p) 3 q i).length:Nat) else -1):=by
  show sndN x.y p i=_
  unfold sndN
  show (if (x.hH p i).k=3 then nthV (x.hH (x.hH p i).q.toNat) 2 p (x.hL (x.hH p i).q.toNat) ((plN (x.hH p) 3 (x.hH p i).q i).length:Nat) else -1)=_
  rw [hqe,Int.toNat_natCast]
 have hcn:(plN (x.hH p) 3 q i).length<=i:=qid _ _ _ _
 have ks:=qg1 (x.hA p) (x.hL p) (x.hC p) i (by omega)
 have HCk:Hid (∀ wx,Below w.heap.size w wx->Calls Tryz.prog 199 #[.slice (x.hA p) i (x.hC p),.int .i64 3,.int .i64 q] wx fun e w'=>e=.returned (.int .i64 ((plN (x.hH p) 3 q i).length:Nat))/\Below wx.heap.size wx w'):=fun wx hb=>qmi (x.hA p) i (x.hC p) (x.hH p) 3 q wx (by omega) (((hG.below hb).hi p hph).take (by omega))
 have HNt:Hid (∀ wx,Below w.heap.size w wx->Calls Tryz.prog 200 #[.slice (x.hA q) (x.hL q) (x.hC q),.int .i64 2,.int .i64 p,.int .i64 ((plN (x.hH p) 3 q i).length:Nat)] wx fun e w'=>e=.returned (.int .i64 (nthV (x.hH q) 2 p (x.hL q) ((plN (x.hH p) 3 q i).length:Nat)))/\Below wx.heap.size wx w'):=fun wx hb=>qp7 (x.hA q) (x.hL q) (x.hC q) (x.hH q) 2 p _ wx (by omega) ((hG.below hb).hi q hqn)
 generalize hCn:(plN (x.hH p) 3 q i).length=cn at *
 generalize hNv:nthV (x.hH q) 2 p (x.hL q) (cn:Nat)=nv at *
 have HQ:Hid ((x.hH p i).q=q):=hqe
 clear hG hcap hO hq hqe hNv hCn hhn
 have HSV:Hid (snV x.y p i=if (x.hH p i).k=3 then .tuple #[.agg #[.int .i64 (x.hH p i).q,.int .i64 (sndN x.y p i)],.bool true] else .tuple #[.agg #[.int .i64 0,.int .i64 0],.bool false]):=rfl
 generalize snV x.y p i=R at *
 have BW:Hid (Below w.heap.size w (((w.alloc (oQ4 x.pa x.pn x.pc x.sa x.sn x.sc x.wa x.wn x.wc x.ha x.hn x.hc)).alloc (oQ6 p i)).alloc (zQ6))):=(zT _ _).trans (((zT _ _).trans ((zT _ _).mono (by simp))).mono (by simp))
 have NB:Hid (BoxC (((w.alloc (oQ4 x.pa x.pn x.pc x.sa x.sn x.sc x.wa x.wn x.wc x.ha x.hn x.hc)).alloc (oQ6 p i)).alloc (zQ6)) w.heap.size (.slice x.pa x.pn x.pc) (.slice x.sa x.sn x.sc) (.slice x.wa x.wn x.wc) (.slice x.ha x.hn x.hc)):=((BoxC.new w _ _ _ _ _).below (zT _ _)).below (zT _ _)
 have NS:Hid ((((w.alloc (oQ4 x.pa x.pn x.pc x.sa x.sn x.sc x.wa x.wn x.wc x.ha x.hn x.hc)).alloc (oQ6 p i)).alloc (zQ6)).cell? ⟨w.heap.size+1,0,none⟩=some (.int .i64 p)/\(((w.alloc (oQ4 x.pa x.pn x.pc x.sa x.sn x.sc x.wa x.wn x.wc x.ha x.hn x.hc)).alloc (oQ6 p i)).alloc (zQ6)).cell? ⟨w.heap.size+1,1,none⟩=some (.int .i64 i)):=⟨qaa (zW (w.alloc (oQ4 x.pa x.pn x.pc x.sa x.sn x.sc x.wa x.wn x.wc x.ha x.hn x.hc)) _ _ 0 (by simp)) _,qaa (zW (w.alloc (oQ4 x.pa x.pn x.pc x.sa x.sn x.sc x.wa x.wn x.wc x.ha x.hn x.hc)) _ _ 1 (by simp)) _⟩
 have NZ:Hid ((((w.alloc (oQ4 x.pa x.pn x.pc x.sa x.sn x.sc x.wa x.wn x.wc x.ha x.hn x.hc)).alloc (oQ6 p i)).alloc (zQ6)).cell? ⟨w.heap.size+2,0,none⟩=some (.int .i64 0)/\(((w.alloc (oQ4 x.pa x.pn x.pc x.sa x.sn x.sc x.wa x.wn x.wc x.ha x.hn x.hc)).alloc (oQ6 p i)).alloc (zQ6)).cell? ⟨w.heap.size+2,1,none⟩=some (.int .i64 0)/\∀ j,(((w.alloc (oQ4 x.pa x.pn x.pc x.sa x.sn x.sc x.wa x.wn x.wc x.ha x.hn x.hc)).alloc (oQ6 p i)).alloc (zQ6)).frozen? ⟨w.heap.size+2,j,none⟩=false):=⟨zW ((w.alloc (oQ4 x.pa x.pn x.pc x.sa x.sn x.sc x.wa x.wn x.wc x.ha x.hn x.hc)).alloc (oQ6 p i)) _ _ 0 (by simp),zW ((w.alloc (oQ4 x.pa x.pn x.pc x.sa x.sn x.sc x.wa x.wn x.wc x.ha x.hn x.hc)).alloc (oQ6 p i)) _ _ 1 (by simp),fun j=>yB ((w.alloc (oQ4 x.pa x.pn x.pc x.sa x.sn x.sc x.wa x.wn x.wc x.ha x.hn x.hc)).alloc (oQ6 p i)) _ _ _ (by simp)⟩
 have hM2:w.heap.size<=w.heap.size+2:=Nat.le_add_right _ _
 go_enter Tryz.func152,Tryz.ntmps152
 go_upto_region 1 with fail
 generalize ((w.alloc (oQ4 x.pa x.pn x.pc x.sa x.sn x.sc x.wa x.wn x.wc x.ha x.hn x.hc)).alloc (oQ6 p i)).alloc (zQ6)=W2 at *
 obtain ⟨-,-,-,b3⟩:=NB.out
 obtain ⟨d0,d1⟩:=NS.out
 obtain ⟨z0,z1,zf⟩:=NZ.out
 obtain ⟨bh,oh,eh,cp⟩:=(HG.out.below BW.out).h.at hph
 obtain ⟨bh',oh',eh',cq⟩:=(HG.out.below BW.out).h.at hqn
 rw [eh] at eh' b3
 simp only [Option.some.injEq,Addr.mk.injEq] at eh'
 obtain ⟨rfl,rfl,-⟩:=eh'
 obtain ⟨b,off,ea,zb,e0,e1,e2⟩:=((HG.out.below BW.out).hi p hph).at hi
 rw [ea] at cp ks
 rw [HQ.out] at e1
 have HCk':=HCk.out
 rw [ea] at HCk'
 clear HCk
 have HCk:Hid (∀ wx,Below w.heap.size w wx->Calls Tryz.prog 199 #[.slice (some ⟨b,off,none⟩) i (x.hC p),.int .i64 3,.int .i64 q] wx fun e w'=>e=.returned (.int .i64 (cn:Nat))/\Below wx.heap.size wx w'):=HCk'
 have hSV:=HSV.out
 rw [HQ.out] at hSV
 clear HSV HCk' eh ea NB NS NZ
 generalize (x.hH p i).k=K at *
 generalize (x.hH p i).v=V at *
 have HSV:Hid (R=if K=3 then .tuple #[.agg #[.int .i64 q,.int .i64 (sndN x.y p i)],.bool true] else .tuple #[.agg #[.int .i64 0,.int .i64 0],.bool false]):=hSV
 clear hSV
 have BW3:Hid (Below w.heap.size w (W2.alloc (oQ0 K q V)).drew):=(BW.out.trans ((zT _ _).mono BW.out.size)).drew
 have c0:(W2.alloc (oQ0 K q V)).drew.cell? ⟨W2.heap.size,0,none⟩=some (.int .i64 K):=zW W2 #[.int .i64 K,.int .i64 q,.int .i64 V] 83 0 rfl
 have c1:(W2.alloc (oQ0 K q V)).drew.cell? ⟨W2.heap.size,1,none⟩=some (.int .i64 q):=zW W2 #[.int .i64 K,.int .i64 q,.int .i64 V] 83 1 rfl
 have hb3:∀ o,(W2.alloc o).cell? _=_:=qaa b3
 have hd0:∀ o,(W2.alloc o).cell? _=_:=qaa d0
 have hd1:∀ o,(W2.alloc o).cell? _=_:=qaa d1
 have hcpo:∀ o,(W2.alloc o).cell? _=_:=qaa cp
 have he0:∀ o,(W2.alloc o).cell? _=_:=qaa e0
 have he1:∀ o,(W2.alloc o).cell? _=_:=qaa e1
 have he2:∀ o,(W2.alloc o).cell? _=_:=qaa e2
 have F3:Hid ((W2.alloc (oQ0 K q V)).drew.cell? ⟨w.heap.size,3,none⟩=some (.slice (some ⟨bh,oh,none⟩) x.hn x.hc)/\(W2.alloc (oQ0 K q V)).drew.cell? ⟨bh,oh+p,none⟩=some (.slice (some ⟨b,off,none⟩) (x.hL p) (x.hC p))/\(W2.alloc (oQ0 K q V)).drew.cell? ⟨bh,oh+q,none⟩=some (.slice (x.hA q) (x.hL q) (x.hC q))/\(W2.alloc (oQ0 K q V)).drew.cell? ⟨w.heap.size+1,0,none⟩=some (.int .i64 p)/\(W2.alloc (oQ0 K q V)).drew.cell? ⟨w.heap.size+1,1,none⟩=some (.int .i64 i)):=⟨qaa b3 _,qaa cp _,qaa cq _,qaa d0 _,qaa d1 _⟩
 have Z3:Hid ((W2.alloc (oQ0 K q V)).drew.cell? ⟨w.heap.size+2,0,none⟩=some (.int .i64 0)/\(W2.alloc (oQ0 K q V)).drew.cell? ⟨w.heap.size+2,1,none⟩=some (.int .i64 0)/\∀ j,(W2.alloc (oQ0 K q V)).drew.frozen? ⟨w.heap.size+2,j,none⟩=false):=⟨qaa z0 _,qaa z1 _,fun j=>((qaj (zT W2 _)).2 _ j (zJ W2 _ z0)).trans (zf j)⟩
 go_wp2_with fail
 go_region
 all_goals
  go_upto_region 2 with fail
  clear b3 d0 d1 z0 z1 zf cp cq e0 e1 e2 zb BW hb3 hd0 hd1 hcpo he0 he1 he2
  generalize hN2:W2.heap.size=N2 at *
  clear hN2
  generalize (W2.alloc (oQ0 K q V)).drew=W3 at *
  obtain ⟨z0,z1,zf⟩:=Z3.out
  rcases zK (K == 3) with t | t
  case inr=>
   have HV2:Hid (R=.tuple #[.agg #[.int .i64 0,.int .i64 0],.bool false]):=by
    show R=_
    rw [HSV.out,if_neg (by simpa using t)]
   clear HV HSV
   go_wp2
   exact bodyPost_ret (v:=.tuple #[.agg #[.int .i64 0,.int .i64 0],.bool false]) (by simp [results,Tryz.results152,go_sem,z0,z1]) rfl ⟨by rw [HV2.out],(BW3.out.setCell hM2 _).setCell hM2 _⟩
  case inl=>
   have HV2:Hid (R=.tuple #[.agg #[.int .i64 q,.int .i64 nv],.bool true]):=by
    show R=_
    have hk:K=3:=by simpa using t
    rw [HSV.out,if_pos hk,HV.out,if_pos hk]
   clear HV HSV
   obtain ⟨b3,cp,cq,d0,d1⟩:=F3.out
   have q1:=cell_regrown c1
   have q3:=cell_regrown b3
   have qp:=cell_regrown cp
   have qd0:=cell_regrown d0
   have qd1:=cell_regrown d1
   have HQ2:Hid (∀ d os,Below w.heap.size w (grow (redrawn W3 d) os)):=fun d os=>BW3.out.trans ((below_regrown W3 d os).mono BW3.out.size)
   go_upto_region 4 with fail
   refine wp_region_quiet_below (by kernel_rfl) (by kernel_rfl) ?_
   repeat (quiet_step (first|(go_at_call 199;exact Calls.regrown_of (HCk.out _ (HQ2.out _ _)))))
   refine wpQuiet_nil ?_
   intro _ hw'
   obtain ⟨⟨dd,os⟩,hw''⟩:=hw'
   subst hw''
   have B4:Hid (Below w.heap.size w (grow (redrawn W3 dd) os)):=HQ2.out dd os
   have br:=below_regrown W3 dd os
   have F4:Hid (∀ wx,Below (grow (redrawn W3 dd) os).heap.size (grow (redrawn W3 dd) os) wx->wx.cell? ⟨N2,1,none⟩=some (.int .i64 q)/\wx.cell? ⟨w.heap.size,3,none⟩=some (.slice (some ⟨bh,oh,none⟩) x.hn x.hc)/\wx.cell? ⟨bh,oh+q,none⟩=some (.slice (x.hA q) (x.hL q) (x.hC q))/\wx.cell? ⟨w.heap.size+1,0,none⟩=some (.int .i64 p)/\wx.cell? ⟨w.heap.size+2,0,none⟩=some (.int .i64 0)/\wx.cell? ⟨w.heap.size+2,1,none⟩=some (.int .i64 0)/\∀ j,wx.frozen? ⟨w.heap.size+2,j,none⟩=false):=fun wx hx=>by
    have hx':Below W3.heap.size W3 wx:=br.trans (hx.mono br.size)
    have hcl:∀ a v,W3.cell? a=some v->wx.cell? a=some v:=fun a v ha=>(hx'.cell (zJ W3 _ ha)).trans ha
    exact ⟨hcl _ _ c1,hcl _ _ b3,hcl _ _ cq,hcl _ _ d0,hcl _ _ z0,hcl _ _ z1,fun j=>((qaj hx').2 _ j (zJ W3 _ z0)).trans (zf j)⟩
   clear q1 q3 qp qd0 qd1 c0 c1 b3 cp cq d0 d1 z0 z1 zf F3 Z3 HCk BW3 HQ2 br
   generalize grow (redrawn W3 dd) os=W4 at *
   obtain ⟨c1,b3,cq,d0,z0,z1,zf⟩:=F4.out W4 (Below.refl _ _)
   have HNw:Hid (Calls Tryz.prog 200 #[.slice (x.hA q) (x.hL q) (x.hC q),.int .i64 2,.int .i64 p,.int .i64 (cn:Nat)] W4.drew fun e w'=>e=.returned (.int .i64 nv)/\Below W4.drew.heap.size W4.drew w'):=HNt.out W4.drew B4.out.drew
   go_upto_region 5 with fail
   refine qal (fun w'=>w'.cell? ⟨N2,1,none⟩=some (.int .i64 q)/\w'.cell? ⟨w.heap.size,3,none⟩=some (.slice (some ⟨bh,oh,none⟩) x.hn x.hc)/\w'.cell? ⟨bh,oh+q,none⟩=some (.slice (x.hA q) (x.hL q) (x.hC q))/\w'.cell? ⟨w.heap.size+1,0,none⟩=some (.int .i64 p)/\w'.cell? ⟨w.heap.size+2,0,none⟩=some (.int .i64 0)/\w'.cell? ⟨w.heap.size+2,1,none⟩=some (.int .i64 0)) (fun i=>i == 13 || i == 14) (by kernel_rfl) ?_
   have hHeld:(fun w'=>w'.cell? ⟨N2,1,none⟩=some (.int .i64 q)/\w'.cell? ⟨w.heap.size,3,none⟩=some (.slice (some ⟨bh,oh,none⟩) x.hn x.hc)/\w'.cell? ⟨bh,oh+q,none⟩=some (.slice (x.hA q) (x.hL q) (x.hC q))/\w'.cell? ⟨w.heap.size+1,0,none⟩=some (.int .i64 p)/\w'.cell? ⟨w.heap.size+2,0,none⟩=some (.int .i64 0)/\w'.cell? ⟨w.heap.size+2,1,none⟩=some (.int .i64 0)) W4.drew:=⟨c1,b3,cq,d0,z0,z1⟩
   refine qa6 [0,1,2,3,4,5,6,7,8,9,10] ?_
   iterate 11 (refine qar rfl hHeld ?_;apply Exists.intro;refine ⟨fun wq hSw=>?_,?_⟩;(· ((try dsimp only at hSw);go_simp;try with_reducible rfl));(try simp only [Act.put,zD,zE,zF]))
   refine qaw ?_
   refine qab 11 rfl (by kernel_rfl) (fun K hK=>?_)
   refine qav rfl 200 _ _ rfl #[.slice (x.hA q) (x.hL q) (x.hC q),.int .i64 2,.int .i64 p,.int .i64 (cn:Nat)] (by simp [Act.eval]) (yA Tryz.func200 (by kernel_rfl) rfl) HNw.out ?_
   rintro e w1 ⟨rfl,b1⟩
   refine ⟨_,rfl,?_⟩
   have q1:Below W4.heap.size W4 w1:=(Below.refl W4.heap.size W4).drew.trans b1
   obtain ⟨r1,r3,rq,rd,rz0,rz1,rzf⟩:=F4.out w1 q1
   have Q1:Hid (Below w.heap.size w w1):=B4.out.trans (q1.mono B4.out.size)
   refine hK.out _ _ (fun _=>⟨r1,r3,rq,rd,rz0,rz1⟩) ?_
   clear hHeld
   have hHeld:(fun w'=>w'.cell? ⟨N2,1,none⟩=some (.int .i64 q)/\w'.cell? ⟨w.heap.size,3,none⟩=some (.slice (some ⟨bh,oh,none⟩) x.hn x.hc)/\w'.cell? ⟨bh,oh+q,none⟩=some (.slice (x.hA q) (x.hL q) (x.hC q))/\w'.cell? ⟨w.heap.size+1,0,none⟩=some (.int .i64 p)/\w'.cell? ⟨w.heap.size+2,0,none⟩=some (.int .i64 0)/\w'.cell? ⟨w.heap.size+2,1,none⟩=some (.int .i64 0)) w1:=⟨r1,r3,rq,rd,rz0,rz1⟩
   clear b1 q1
   clear hK K
   (try simp only [Act.put,zD,zE,zF])
   refine qac 12 rfl hHeld ?_
   apply Exists.intro
   refine ⟨fun wq hSw=>?_,?_⟩
   ·(try dsimp only at hSw)
    go_simp
    try with_reducible rfl
   (try simp only [Act.put,zD,zE,zF])
   refine qab 13 rfl (by kernel_rfl) (fun K hK=>?_)
   go_simp
   refine hK.out _ _ (fun h=>?_) ?_
   ·exact absurd h (by decide)
   clear hK K
   (try simp only [Act.put,zD,zE,zF])
   refine qab 14 rfl (by kernel_rfl) (fun K hK=>?_)
   go_simp
   refine hK.out _ _ (fun h=>?_) ?_
   ·exact absurd h (by decide)
   clear hK K
   (try simp only [Act.put,zD,zE,zF])
   refine qat (by kernel_rfl) ?_ _
   go_wp2
   refine bodyPost_ret (v:=.tuple #[.agg #[.int .i64 q,.int .i64 nv],.bool true]) (by simp [results,Tryz.results152,go_sem,rz0,rz1]) rfl ⟨by rw [HV2.out],?_⟩
   exact (Q1.out.setCell hM2 _).setCell hM2 _
def SpAt (w:World) (b n:Nat) (f:Nat->Int × Int):Prop:=∀ k,k<n->w.cell? ⟨b,k*2,none⟩=some (.int .i64 (f k).1)/\w.cell? ⟨b,k*2+1,none⟩=some (.int .i64 (f k).2)
theorem SpAt.below {w w':World} {b n:Nat} {f:Nat->Int × Int} (h:SpAt w b n f) (hb:b<w.heap.size) (q:Below w.heap.size w w'):SpAt w' b n f:=fun k hk=>⟨(q.cell (p:=⟨b,_,none⟩) hb).trans (h k hk).1,(q.cell (p:=⟨b,_,none⟩) hb).trans (h k hk).2⟩
def Sy.Has (y:Sy) (u:Int × Int):Prop:=belB u.1 y.hn=true/\belB u.2 (y.hL u.1.toNat)=true
noncomputable def arB (y:Sy) (n:Nat) (f:Nat->Int × Int):Bool:=y.okB && qB (∀ k,k<n->y.Has (f k))
theorem qpr (x:SysIn) (b n cap:Nat) (f:Nat->Int × Int) (w:World) (hG:SysG w x) (hL:x.Len) (hV:w.cell? ⟨0,0,none⟩=some (.iface 310 (.agg #[.pointer (some ⟨1,217,none⟩)]))) (hb:b<w.heap.size) (hn:n<=1000) (hS:SpAt w b n f):
  Calls Tryz.prog 92 #[x.v,.slice (some ⟨b,0,none⟩) n cap] w fun e w'=>e=.returned (.bool (arB x.y n f))/\Below w.heap.size w w':=by
 have HG:Hid (SysG w x):=hG
 have HSp:Hid (SpAt w b n f):=hS
 have hn':(n:Int)<=1000:=by omega
 have HS:Hid (∀ wx,Below w.heap.size w wx->Calls Tryz.prog 20 #[x.v] wx fun e w'=>e=.returned (.bool x.y.okB)/\Below wx.heap.size wx w'):=fun wx hb=>qfa x wx (HG.out.below hb) hL ((hb.cell (p:=⟨0,0,none⟩) (zJ w _ hV)).trans hV)
 have BW:Hid (Below w.heap.size w (w.alloc (oQ4 x.pa x.pn x.pc x.sa x.sn x.sc x.wa x.wn x.wc x.ha x.hn x.hc))):=zT _ _
 have NB:Hid (BoxC (w.alloc (oQ4 x.pa x.pn x.pc x.sa x.sn x.sc x.wa x.wn x.wc x.ha x.hn x.hc)) w.heap.size (.slice x.pa x.pn x.pc) (.slice x.sa x.sn x.sc) (.slice x.wa x.wn x.wc) (.slice x.ha x.hn x.hc)):=BoxC.new w _ _ _ _ _
 have HR:Hid (arB x.y n f=(x.y.okB && qB (∀ k,k<n->x.y.Has (f k)))):=rfl
 generalize arB x.y n f=R at *
 clear hG hL hV hS
 go_enter Tryz.func92,Tryz.ntmps92
 go_wp2_with fail
 generalize w.alloc (oQ4 x.pa x.pn x.pc x.sa x.sn x.sc x.wa x.wn x.wc x.ha x.hn x.hc)=W2 at *
 refine (HS.out W2 BW.out).mono ?_
 rintro e w1 ⟨rfl,q1⟩
 have B1:Hid (Below w.heap.size w w1/\BoxC w1 w.heap.size (.slice x.pa x.pn x.pc) (.slice x.sa x.sn x.sc) (.slice x.wa x.wn x.wc) (.slice x.ha x.hn x.hc)):=⟨BW.out.trans (q1.mono BW.out.size),NB.out.below q1⟩
 clear q1 BW NB HS
 rcases zK x.y.okB with t | t
 case inr=>
  have HV:Hid (R=false):=by
   show R=false
   rw [HR.out,t]
   rfl
  rw [t]
  clear t
  go_wp2
  go_ret
  rw [HV.out]
  exact ⟨rfl,B1.out.1⟩
 have HO:Hid x.y.Ok:=Sy.ok_of t
 have HV:Hid (R=qB (∀ k,k<n->x.y.Has (f k))):=by
  show R=_
  rw [HR.out,t]
  rfl
 have h4:(x.hn:Int)<=4:=by
  have h1:x.pn<=4:=HO.out.cn.1.2
  have h2:x.hn=x.pn:=HO.out.cn.2.2.1
  omega
 have HH : Hid (∀ a, a < x.hn → x.hL a ≤ 200) := fun a ha => HO.out.hl200 (by
  show a<x.pn
  have h2:x.hn=x.pn:=HO.out.cn.2.2.1
  omega)
 rw [t]
 clear t HR
 go_wp2_with fail
 go_loopw [12] (fun i wr=>∃ k:Nat,k<=n/\i=.int .i64 k/\Hid (Below w.heap.size w wr/\BoxC wr w.heap.size (.slice x.pa x.pn x.pc) (.slice x.sa x.sn x.sc) (.slice x.wa x.wn x.wc) (.slice x.ha x.hn x.hc)/\∀ j,j<k->x.y.Has (f j))) (fun i _=>n - (intOf i).toNat)
 case atStart=>exact ⟨0,Nat.zero_le _,rfl,B1.out.1,B1.out.2,fun j hj=>by omega⟩
 case round=>
  clear B1
  obtain ⟨k,hk,rfl,HK⟩:=hrel
  by_cases hlt:k<n
  ·have hlt':(k:Int)<(n:Int):=by omega
   obtain ⟨c0,c1⟩:=HSp.out.below hb HK.out.1 k hlt
   have HU:Hid (x.y.Has (f k) ↔ (belB (f k).1 x.hn=true/\belB (f k).2 (x.hL (f k).1.toNat)=true)):=Iff.rfl
   have BA:Hid (Below w.heap.size w (wr.alloc (oQ6 (f k).1 (f k).2))/\BoxC (wr.alloc (oQ6 (f k).1 (f k).2)) w.heap.size (.slice x.pa x.pn x.pc) (.slice x.sa x.sn x.sc) (.slice x.wa x.wn x.wc) (.slice x.ha x.hn x.hc)):=⟨HK.out.1.trans ((zT _ _).mono HK.out.1.size),HK.out.2.1.below (zT _ _)⟩
   have NA:Hid ((wr.alloc (oQ6 (f k).1 (f k).2)).cell? ⟨wr.heap.size,0,none⟩=some (.int .i64 (f k).1)/\(wr.alloc (oQ6 (f k).1 (f k).2)).cell? ⟨wr.heap.size,1,none⟩=some (.int .i64 (f k).2)):=⟨zW wr _ _ 0 rfl,zW wr _ _ 1 rfl⟩
   generalize (f k).1=P at *
   generalize (f k).2=I at *
   go_upto_region 6 with fail
   clear c0 c1
   generalize hNN:wr.heap.size=NN at *
   clear hNN
   generalize wr.alloc (oQ6 P I)=W3 at *
   have z0:=cell_regrown NA.out.1
   have z1:=cell_regrown NA.out.2
   have z3:=cell_regrown BA.out.2.2.2.2
   rcases zK (belB P x.hn) with tp | tp
   case inr=>
    have HT:Hid (belB P x.hn=false):=tp
    have HZ:Hid (R=false):=by
     show R=false
     rw [HV.out,qap fun h=>by have:=(HU.out.1 (h k hlt)).1;rw [tp] at this;cases this]
    clear tp
    refine wp_region_quiet_below (by kernel_rfl) (by kernel_rfl) ?_
    iterate 5 (quiet_step (fail))
    quiet_step (first|(go_at_call 38;exact Calls.regrown_same (isBelow_any P x.hn _)))
    rw [HT.out]
    repeat (first | go_big_quiet_skip | quiet_step (fail))
    refine wpQuiet_nil ?_
    intro _ hw'
    obtain ⟨⟨dq,osq⟩,hw''⟩:=hw'
    subst hw''
    have B3:Hid (Below w.heap.size w (grow (redrawn W3 dq) osq)):=BA.out.1.trans ((below_regrown W3 dq osq).mono BA.out.1.size)
    generalize grow (redrawn W3 dq) osq=w3 at *
    clear z0 z1 z3
    go_wp2
    go_ret
    rw [HZ.out]
    exact ⟨rfl,B3.out⟩
   have hP:0<=P/\P<(x.hn:Int):=by simpa [belB] using tp
   obtain ⟨a,rfl⟩:∃ a:Nat,P=a:=⟨P.toNat,by omega⟩
   have ha:a<x.hn:=by omega
   have ha':(a:Int)<(x.hn:Int):=by omega
   have hl:(x.hL a:Int)<=200:=by have:=HH.out a ha;omega
   obtain ⟨bh,oh,eh,ca⟩:=(HG.out.below BA.out.1).h.at ha
   rw [eh] at z3
   clear eh
   have zc:=cell_regrown ca
   have HB1:Hid (∀ wx,Calls Tryz.prog 38 #[.int .i64 a,.int .i64 x.hn] wx fun e w'=>e=.returned (.bool true)/\w'=wx):=fun wx=>by
    have:=isBelow_any a x.hn wx
    rw [tp] at this
    exact this
   have HB2:Hid (∀ wx,Calls Tryz.prog 38 #[.int .i64 I,.int .i64 (x.hL a)] wx fun e w'=>e=.returned (.bool (belB I (x.hL a)))/\w'=wx):=fun wx=>isBelow_any I (x.hL a) wx
   have HU2:Hid (x.y.Has (f k) ↔ belB I (x.hL a)=true):=by
    show x.y.Has (f k) ↔ _
    rw [HU.out,Int.toNat_natCast]
    exact ⟨fun h=>h.2,fun h=>⟨tp,h⟩⟩
   clear HU tp hP
   generalize belB I (x.hL a)=T at *
   refine wp_region_quiet_below (by kernel_rfl) (by kernel_rfl) ?_
   repeat (quiet_step (first|(go_at_call_of 38 (x.hn);exact Calls.regrown_same (HB1.out _))|(go_at_call_of 38 (I);exact Calls.regrown_same (HB2.out _))))
   refine wpQuiet_nil ?_
   intro _ hw'
   obtain ⟨⟨dq,osq⟩,hw''⟩:=hw'
   subst hw''
   have B3:Hid (Below w.heap.size w (grow (redrawn W3 dq) osq)/\BoxC (grow (redrawn W3 dq) osq) w.heap.size (.slice x.pa x.pn x.pc) (.slice x.sa x.sn x.sc) (.slice x.wa x.wn x.wc) (.slice x.ha x.hn x.hc)):=⟨BA.out.1.trans ((below_regrown W3 dq osq).mono BA.out.1.size),BA.out.2.below (below_regrown W3 dq osq)⟩
   generalize grow (redrawn W3 dq) osq=w3 at *
   clear z0 z1 z3 zc NA BA HB1 HB2 ca
   cases T with
   | false=>
    have HZ:Hid (R=false):=by
     show R=false
     rw [HV.out,qap fun h=>by have:=HU2.out.1 (h k hlt);cases this]
    go_wp2
    go_ret
    rw [HZ.out]
    exact ⟨rfl,B3.out.1⟩
   | true=>
    have HZ:Hid (∀ j,j<k+1->x.y.Has (f j)):=fun j hj=>by
     by_cases e:j=k
     ·rw [e];exact HU2.out.2 rfl
     ·exact HK.out.2.2 j (by omega)
    clear HU2 HK
    go_wp2
    go_roundw
    case rel=>exact ⟨k+1,by omega,by go_num,B3.out.1,B3.out.2,HZ.out⟩
    case measure=>simp [intOf];omega
  ·have HZ:Hid (R=true):=by
    show R=true
    rw [HV.out,qax fun j hj=>HK.out.2.2 j (by omega)]
   have B3:=HK.out.1
   clear HK
   go_wp2
   go_ret
   rw [HZ.out]
   exact ⟨rfl,B3⟩
def rdX (x:SysIn) (p:Nat):List Int:=rdL (fun j=>cmC x p j) (chN x p)
