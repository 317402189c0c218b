import Derived.Test.YtegogmbfhddeoaaGreatDoorJk30
namespace Go.Proofs.YtegogmbfhddeoaaGreatDoor
set_option maxRecDepth 100000
set_option maxHeartbeats 1000000
open Go.ChangeShapes Go.WideShapes Go.ChangeAt Go.RowKit Go.Deep Go.Sort
def sndN (y:Sy) (p i:Nat):Int:=if (y.hH p i).k=3 then nthV (y.hH (y.hH p i).q.toNat) 2 p (y.hL (y.hH p i).q.toNat) ((plN (y.hH p) 3 (y.hH p i).q i).length:Nat) else -1
open Classical in
noncomputable def hasB (y:Sy) (p i:Int):Bool:=y.okB && belB p y.pn && belB i (y.hL p.toNat)
theorem qk2 (x:SysIn) (p i:Nat) (w:World) (hG:SysG w x) (hcap:∀ i,i<x.hn->x.hL i<=x.hC i) (hO:x.y.Ok) (hp:p<x.pn) (hi:i<x.hL p):
  Calls Tryz.prog 99 #[x.v,.int .i64 p,.int .i64 i] w fun e w'=>e=.returned (.int .i64 (sndN x.y p i))/\Below w.heap.size w w':=by
 have hhn:x.hn=x.pn:=hO.cn.2.2.1;have hph:p<x.hn:=by omega
 have hq:0<=(x.hH p i).q/\(x.hH p i).q<(x.pn:Int):=hO.evq hp hi;have hlp:x.hL p<=200:=hO.hl200 hp;obtain ⟨q,hqe⟩:∃ q:Nat,(x.hH p i).q=q:=⟨(x.hH p i).q.toNat,by omega⟩
 have hqn:q<x.hn:=by omega
 have hlq:x.hL q<=200:=hO.hl200 (by show q<x.pn;omega);have hcp:=hcap p hph;have hph':(p:Int)<(x.hn:Int):=by omega
 have hqn':(q:Int)<(x.hn:Int):=by omega
 have hi':(i:Int)<(x.hL p:Int):=by omega
 have HG:Hid (SysG w x):=hG
 have HV:Hid (sndN x.y p i=if (x.hH p i).k=3 then nthV (x.hH q) 2 p (x.hL q) ((plN (x.hH p) 3 q i).length:Nat) else -1):=by
  show sndN x.y p i=_;unfold sndN;show (if (x.hH p i).k=3 then nthV (x.hH (x.hH p i).q.toNat) 2 p (x.hL (x.hH p i).q.toNat) ((plN (x.hH p) 3 (x.hH p i).q i).length:Nat) else -1)=_;rw [hqe,Int.toNat_natCast]
 have hcn:(plN (x.hH p) 3 q i).length<=i:=qk8 _ _ _ _;have ks:=qjj (x.hA p) (x.hL p) (x.hC p) i (by omega);have HCk:Hid (∀ wx,Below w.heap.size w wx->Calls Tryz.prog 118 #[.slice (x.hA p) i (x.hC p),.int .i64 3,.int .i64 q] wx fun e w'=>e=.returned (.int .i64 ((plN (x.hH p) 3 q i).length:Nat))/\Below wx.heap.size wx w'):=fun wx hb=>qey (x.hA p) i (x.hC p) (x.hH p) 3 q wx (by omega) (((hG.below hb).hi p hph).take (by omega));have HNt:Hid (∀ wx,Below w.heap.size w wx->Calls Tryz.prog 155 #[.slice (x.hA q) (x.hL q) (x.hC q),.int .i64 2,.int .i64 p,.int .i64 ((plN (x.hH p) 3 q i).length:Nat)] wx fun e w'=>e=.returned (.int .i64 (nthV (x.hH q) 2 p (x.hL q) ((plN (x.hH p) 3 q i).length:Nat)))/\Below wx.heap.size wx w'):=fun wx hb=>qq7 (x.hA q) (x.hL q) (x.hC q) (x.hH q) 2 p _ wx (by omega) ((hG.below hb).hi q hqn) (by omega) (by omega);generalize hCn:(plN (x.hH p) 3 q i).length=cn at *;generalize hNv:nthV (x.hH q) 2 p (x.hL q) (cn:Nat)=nv at *;have HQ:Hid ((x.hH p i).q=q):=hqe;clear hG hcap hO hq hqe hNv hCn hhn;have BW:Hid (Below w.heap.size w (w.alloc (oQ5 x.pa x.pn x.pc x.sa x.sn x.sc x.wa x.wn x.wc x.ha x.hn x.hc))):=zT _ _;have NB:Hid (BoxC (w.alloc (oQ5 x.pa x.pn x.pc x.sa x.sn x.sc x.wa x.wn x.wc x.ha x.hn x.hc)) w.heap.size (.slice x.pa x.pn x.pc) (.slice x.sa x.sn x.sc) (.slice x.wa x.wn x.wc) (.slice x.ha x.hn x.hc)):=BoxC.new w _ _ _ _ _
 go_enter Tryz.func99,Tryz.ntmps99
 go_upto_region 1 with fail
 generalize w.alloc (oQ5 x.pa x.pn x.pc x.sa x.sn x.sc x.wa x.wn x.wc x.ha x.hn x.hc)=W2 at *;obtain ⟨-,-,-,b3⟩:=NB.out;obtain ⟨bh,oh,eh,cp⟩:=(HG.out.below BW.out).h.at hph;obtain ⟨bh',oh',eh',cq⟩:=(HG.out.below BW.out).h.at hqn;rw [eh] at eh' b3;simp only [Option.some.injEq,Addr.mk.injEq] at eh';obtain ⟨rfl,rfl,-⟩:=eh';obtain ⟨b,off,ea,zb,e0,e1,e2⟩:=((HG.out.below BW.out).hi p hph).at hi;rw [ea] at cp ks;rw [HQ.out] at e1;have HCk':=HCk.out;rw [ea] at HCk';clear HCk;have HCk:Hid (∀ wx,Below w.heap.size w wx->Calls Tryz.prog 118 #[.slice (some ⟨b,off,none⟩) i (x.hC p),.int .i64 3,.int .i64 q] wx fun e w'=>e=.returned (.int .i64 (cn:Nat))/\Below wx.heap.size wx w'):=HCk';clear HCk' eh ea;generalize (x.hH p i).k=K at *;generalize (x.hH p i).v=V at *;have BW3:Hid (Below w.heap.size w (W2.alloc (oQ0 K q V))):=BW.out.trans ((zT _ _).mono BW.out.size);have c0:=zW W2 #[.int .i64 K,.int .i64 q,.int .i64 V] 57 0 rfl;have c1:=zW W2 #[.int .i64 K,.int .i64 q,.int .i64 V] 57 1 rfl;have b3':=qab b3 (oQ0 K q V);have cp':=qab cp (oQ0 K q V);have cq':=qab cq (oQ0 K q V);go_upto_region 2 with fail
 clear b3 cp cq e0 e1 e2 zb BW NB;generalize hN2:W2.heap.size=N2 at *;clear hN2;generalize W2.alloc (oQ0 K q V)=W3 at *
 rcases zK (K == 3) with t | t
 case inr=>
  have HV2:Hid (sndN x.y p i = -1):=by
   show sndN x.y p i = -1;rw [HV.out,if_neg (by simpa using t)]
  clear HV;go_wp2;go_ret;exact ⟨qjd HV2.out.symm,BW3.out⟩
 case inl=>
  have HV2:Hid (sndN x.y p i=nv):=by
   show sndN x.y p i=nv;rw [HV.out,if_pos (by simpa using t)]
  clear HV;have q1:=cell_regrown c1;have q3:=cell_regrown b3';have qp:=cell_regrown cp';have qq:=cell_regrown cq';have HQ2:Hid (∀ d os,Below w.heap.size w (grow (redrawn W3 d) os)):=fun d os=>BW3.out.trans ((below_regrown W3 d os).mono BW3.out.size);go_upto_region 4 with fail
  clear c1 b3' cp' cq';refine wp_region_quiet_below (by kernel_rfl) (by kernel_rfl) ?_
  repeat (quiet_step (first|(go_at_call 118;exact Calls.regrown_of (HCk.out _ (HQ2.out _ _)))|(go_at_call 155;exact Calls.regrown_of (HNt.out _ (HQ2.out _ _)))))
  refine wpQuiet_nil ?_;intro _ hw';obtain ⟨⟨dd,os⟩,hw''⟩:=hw';subst hw'';have B3:=HQ2.out dd os;generalize grow (redrawn W3 dd) os=w3 at *;go_wp2;go_ret;exact ⟨qjd HV2.out.symm,B3⟩
theorem qgl {eh:Nat->E3} {kd pr:Int}:∀ {m j:Nat},j<cnt eh kd pr m->∃ k,k<m/\hitB eh kd pr k=true/\cnt eh kd pr k=j
 | 0,j,h=>by
  rw [qni] at h;omega
 | m+1,j,h=>by
  by_cases hh:hitB eh kd pr m=true
  ·rw [qfo hh] at h
   by_cases e:j<cnt eh kd pr m
   ·obtain ⟨k,h1,h2⟩:=qgl e
    exact ⟨k,by omega,h2⟩
   ·exact ⟨m,by omega,hh,by omega⟩
  ·rw [qim (by simpa using hh)] at h
   obtain ⟨k,h1,h2⟩:=qgl h;exact ⟨k,by omega,h2⟩
def sdr (y:Sy) (p i:Nat):Option (Nat × Nat):=if (y.hH p i).k=3 then some ((y.hH p i).q.toNat,(sndN y p i).toNat) else none
def clkF (y:Sy):Nat->Nat->Nat->Nat->Nat
 | 0,_,_,_=>0
 | f+1,p,i,q=>if q=p then i+1 else max (if i=0 then 0 else clkF y f p (i - 1) q) (match sdr y p i with | none=>0 | some s=>clkF y f s.1 s.2 q)
def clk (y:Sy) (p i q:Nat):Nat:=clkF y 801 p i q
theorem qt3 {y:Sy} {d:Nat->Nat} {p:Nat} (hO:y.Ok) (hd:∀ a,d a<=y.hL a) (hp:p<y.pn) (hc:y.hs.Can d p) {s:Nat × Nat} (hs:sdr y p (d p)=some s):s.1<y.pn/\s.2<d s.1/\sndN y p (d p)=(s.2:Int):=by
 obtain ⟨h1,h2⟩:=hc;have h1':d p<y.hL p:=h1;unfold sdr at hs;by_cases e:(y.hH p (d p)).k=3
 ·rw [if_pos e] at hs
  simp only [Option.some.injEq] at hs;have hq:=hO.evq hp h1';have h3:cnt (y.hH p) 3 (y.hH p (d p)).q (d p)<cnt (y.hH (y.hH p (d p)).q.toNat) 2 p (d (y.hH p (d p)).q.toNat):=h2 e;obtain ⟨k,k1,k2,k3⟩:=qgl h3
  have hk:sndN y p (d p)=(k:Int):=by
   unfold sndN;rw [if_pos e];refine qi6 (zL k1 (hd _)) k2 ?_;rw [plI,List.length_map];exact congrArg Nat.cast k3.symm
  rw [<- hs];refine ⟨by show (y.hH p (d p)).q.toNat<y.pn;omega,?_,?_⟩
  ·show (sndN y p (d p)).toNat<d (y.hH p (d p)).q.toNat
   rw [hk];simpa using k1
  ·show sndN y p (d p)=((sndN y p (d p)).toNat:Int)
   rw [hk];simp
 ·rw [if_neg e] at hs
  cases hs
theorem Hs.Put.was {x:Hs} {d:Nat->Nat} (h:x.Put d):∀ p i,i<d p->p<x.n/\∃ d',x.Put d'/\d' p=i/\x.Can d' p:=by
 induction h with
 | start=>
  intro p i hi;exact absurd hi (Nat.not_lt_zero _)
 | @next d p0 hput hp0 hc ih=>
  intro p i hi;by_cases e:p=p0/\i=d p0
  ·obtain ⟨rfl,rfl⟩:=e
   exact ⟨hp0,d,hput,rfl,hc⟩
  ·refine ih p i ?_
   by_cases ep:p=p0
   ·subst ep
    rw [qb5] at hi;have:i≠d p:=fun h=>e ⟨rfl,h⟩;omega
   ·rw [up_other ep] at hi
    exact hi
theorem qq3 {y:Sy} (hO:y.Ok) {p i:Nat} (hp:p<y.pn) (hi:i<y.hL p) {s:Nat × Nat} (hs:sdr y p i=some s):
  (y.hH p i).k=3/\(y.hH p i).q=(s.1:Int)/\s.1<y.pn/\s.2<y.hL s.1/\sndN y p i=(s.2:Int)/\hitB (y.hH s.1) 2 p s.2=true/\cnt (y.hH s.1) 2 p s.2=cnt (y.hH p) 3 s.1 i/\(s.1=p->s.2<i):=by
 obtain ⟨dA,hA,hall⟩:=hO.ro;have hi':i<dA p:=by rw [hall p hp];exact hi
 obtain ⟨-,d,hput,rfl,hc⟩:=hA.was p i hi';obtain ⟨h1,h2,h3⟩:=qt3 hO hput.le hp hc hs;have hq:=hO.evq hp hi;unfold sdr at hs;by_cases e:(y.hH p (d p)).k=3
 ·rw [if_pos e] at hs
  simp only [Option.some.injEq] at hs;have e1:(y.hH p (d p)).q.toNat=s.1:=by rw [<- hs]
  have e2:(y.hH p (d p)).q=(s.1:Int):=by omega
  have h4:cnt (y.hH p) 3 (y.hH p (d p)).q (d p)<cnt (y.hH (y.hH p (d p)).q.toNat) 2 p (d (y.hH p (d p)).q.toNat):=hc.2 e;rw [e1,e2] at h4;obtain ⟨k,k1,k2,k3⟩:=qgl h4
  have hk:sndN y p (d p)=(k:Int):=by
   unfold sndN;rw [if_pos e,e1,e2];refine qi6 (zL k1 (hput.le _)) k2 ?_;rw [plI,List.length_map];exact congrArg Nat.cast k3.symm
  have e3:k=s.2:=by
   rw [hk] at h3;omega
  subst e3;exact ⟨e,e2,h1,zL k1 (hput.le _),hk,k2,k3,fun ep=>by rw [ep] at k1;exact k1⟩
 ·rw [if_neg e] at hs
  cases hs
theorem qn4 {y:Sy} {p i:Nat} (h:sdr y p i=none):(y.hH p i).k≠3:=by
 intro e;rw [sdr,if_pos e] at h;cases h
theorem qmd {y:Sy} (hO:y.Ok) {d:Nat->Nat} {p:Nat} (hp:p<y.pn) (hl:d p<y.hL p):y.hs.Can d p ↔ ∀ s,sdr y p (d p)=some s->s.2<d s.1:=by
 constructor
 ·intro hc s hs
  obtain ⟨h1,h2,h3,h4,h5,h6,h7,-⟩:=qq3 hO hp hl hs;have h8:cnt (y.hH p) 3 (y.hH p (d p)).q (d p)<cnt (y.hH (y.hH p (d p)).q.toNat) 2 p (d (y.hH p (d p)).q.toNat):=hc.2 h1;rw [h2,Int.toNat_natCast,<- h7] at h8;refine Decidable.byContradiction fun hn=>?_;have:=qe7 (y.hH s.1) 2 p (show d s.1<=s.2 by omega);omega
 ·intro h
  refine ⟨hl,fun e=>?_⟩;cases hs:sdr y p (d p) with
  | none=>exact absurd e (qn4 hs)
  | some s=>
   obtain ⟨h1,h2,h3,h4,h5,h6,h7,-⟩:=qq3 hO hp hl hs;have hlt:=h s hs;show cnt (y.hH p) 3 (y.hH p (d p)).q (d p)<cnt (y.hH (y.hH p (d p)).q.toNat) 2 p (d (y.hH p (d p)).q.toNat);rw [h2,Int.toNat_natCast,<- h7];have h9:=qe7 (y.hH s.1) 2 p (show s.2+1<=d s.1 by omega);rw [qfo h6] at h9;omega
