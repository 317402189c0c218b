import Derived.Test.YtnfdnnmddadmkaaGreatDoorOg38
namespace Go.Proofs.YtnfdnnmddadmkaaGreatDoor
set_option maxRecDepth 100000
set_option maxHeartbeats 1000000
open Go.ChangeShapes Go.WideShapes Go.ChangeAt Go.RowKit Go.Deep Go.Sort
def sndN (y:Sy) (p i:Nat):Int:=if (y.hH p i).k=3 then nthV (y.hH (y.hH p i).q.toNat) 2 p (y.hL (y.hH p i).q.toNat) ((plN (y.hH p) 3 (y.hH p i).q i).length:Nat) else -1
open Classical in
noncomputable def hasB (y:Sy) (p i:Int):Bool:=y.okB && belB p y.pn && belB i (y.hL p.toNat)
theorem qbp {y:Sy} {p i:Int} (h:hasB y p i=true):y.Ok/\∃ a b:Nat,p=a/\i=b/\a<y.pn/\b<y.hL a:=by
 simp only [hasB,Bool.and_eq_true,belB,decide_eq_true_eq] at h
 obtain ⟨⟨h1,h2⟩,h3⟩:=h
 refine ⟨Sy.ok_of h1,p.toNat,i.toNat,by omega,by omega,by omega,by omega⟩
theorem qiv {y:Sy} {a b:Nat} (h:y.okB=true) (ha:a<y.pn) (hb:b<y.hL a):hasB y a b=true:=by
 simp only [hasB,h,belB,Bool.true_and,Int.toNat_natCast,Bool.and_eq_true,decide_eq_true_eq]
 omega
theorem qgk (x:SysIn) (p i:Nat) (w:World) (hG:SysG w x) (hcap:∀ i,i<x.hn->x.hL i<=x.hC i) (hO:x.y.Ok) (hp:p<x.pn) (hi:i<x.hL p):
  Calls Tryz.prog 114 #[x.v,.int .i64 p,.int .i64 i] w fun e w'=>e=.returned (.int .i64 (sndN x.y p i))/\Below w.heap.size w w':=by
 have hhn:x.hn=x.pn:=hO.cn.2.2.1
 have hph:p<x.hn:=by omega
 have hq:0<=(x.hH p i).q/\(x.hH p i).q<(x.pn:Int):=hO.evq hp hi
 have hlp:x.hL p<=200:=hO.hl200 hp
 obtain ⟨q,hqe⟩:∃ q:Nat,(x.hH p i).q=q:=⟨(x.hH p i).q.toNat,by omega⟩
 have hqn:q<x.hn:=by omega
 have hlq:x.hL q<=200:=hO.hl200 (by show q<x.pn;omega)
 have hcp:=hcap p hph
 have hph':(p:Int)<(x.hn:Int):=by omega
 have hqn':(q:Int)<(x.hn:Int):=by omega
 have hi':(i:Int)<(x.hL p:Int):=by omega
 have HG:Hid (SysG w x):=hG
 have HV:Hid (sndN x.y p i=if (x.hH p i).k=3 then nthV (x.hH q) 2 p (x.hL q) ((plN (x.hH p) 3 q i).length:Nat) else -1):=by
  show sndN x.y p i=_
  unfold sndN
  show (if (x.hH p i).k=3 then nthV (x.hH (x.hH p i).q.toNat) 2 p (x.hL (x.hH p i).q.toNat) ((plN (x.hH p) 3 (x.hH p i).q i).length:Nat) else -1)=_
  rw [hqe,Int.toNat_natCast]
 have hcn:(plN (x.hH p) 3 q i).length<=i:=qid _ _ _ _
 have ks:=qg1 (x.hA p) (x.hL p) (x.hC p) i (by omega)
 have HCk:Hid (∀ wx,Below w.heap.size w wx->Calls Tryz.prog 177 #[.slice (x.hA p) i (x.hC p),.int .i64 3,.int .i64 q] wx fun e w'=>e=.returned (.int .i64 ((plN (x.hH p) 3 q i).length:Nat))/\Below wx.heap.size wx w'):=fun wx hb=>qex (x.hA p) i (x.hC p) (x.hH p) 3 q wx (by omega) (((hG.below hb).hi p hph).take (by omega))
 have HNt:Hid (∀ wx,Below w.heap.size w wx->Calls Tryz.prog 178 #[.slice (x.hA q) (x.hL q) (x.hC q),.int .i64 2,.int .i64 p,.int .i64 ((plN (x.hH p) 3 q i).length:Nat)] wx fun e w'=>e=.returned (.int .i64 (nthV (x.hH q) 2 p (x.hL q) ((plN (x.hH p) 3 q i).length:Nat)))/\Below wx.heap.size wx w'):=fun wx hb=>qq8 (x.hA q) (x.hL q) (x.hC q) (x.hH q) 2 p _ wx (by omega) ((hG.below hb).hi q hqn) (by omega) (by omega)
 generalize hCn:(plN (x.hH p) 3 q i).length=cn at *
 generalize hNv:nthV (x.hH q) 2 p (x.hL q) (cn:Nat)=nv at *
 have HQ:Hid ((x.hH p i).q=q):=hqe
 clear hG hcap hO hq hqe hNv hCn hhn
 have BW:Hid (Below w.heap.size w (w.alloc (oQ4 x.pa x.pn x.pc x.sa x.sn x.sc x.wa x.wn x.wc x.ha x.hn x.hc))):=zT _ _
 have NB:Hid (BoxC (w.alloc (oQ4 x.pa x.pn x.pc x.sa x.sn x.sc x.wa x.wn x.wc x.ha x.hn x.hc)) w.heap.size (.slice x.pa x.pn x.pc) (.slice x.sa x.sn x.sc) (.slice x.wa x.wn x.wc) (.slice x.ha x.hn x.hc)):=BoxC.new w _ _ _ _ _
 go_enter Tryz.func114,Tryz.ntmps114
 go_upto_region 1 with fail
 generalize w.alloc (oQ4 x.pa x.pn x.pc x.sa x.sn x.sc x.wa x.wn x.wc x.ha x.hn x.hc)=W2 at *
 obtain ⟨-,-,-,b3⟩:=NB.out
 obtain ⟨bh,oh,eh,cp⟩:=(HG.out.below BW.out).h.at hph
 obtain ⟨bh',oh',eh',cq⟩:=(HG.out.below BW.out).h.at hqn
 rw [eh] at eh' b3
 simp only [Option.some.injEq,Addr.mk.injEq] at eh'
 obtain ⟨rfl,rfl,-⟩:=eh'
 obtain ⟨b,off,ea,zb,e0,e1,e2⟩:=((HG.out.below BW.out).hi p hph).at hi
 rw [ea] at cp ks
 rw [HQ.out] at e1
 have HCk':=HCk.out
 rw [ea] at HCk'
 clear HCk
 have HCk:Hid (∀ wx,Below w.heap.size w wx->Calls Tryz.prog 177 #[.slice (some ⟨b,off,none⟩) i (x.hC p),.int .i64 3,.int .i64 q] wx fun e w'=>e=.returned (.int .i64 (cn:Nat))/\Below wx.heap.size wx w'):=HCk'
 clear HCk' eh ea
 generalize (x.hH p i).k=K at *
 generalize (x.hH p i).v=V at *
 have BW3:Hid (Below w.heap.size w (W2.alloc (oQ0 K q V))):=BW.out.trans ((zT _ _).mono BW.out.size)
 have c0:=zW W2 #[.int .i64 K,.int .i64 q,.int .i64 V] 83 0 rfl
 have c1:=zW W2 #[.int .i64 K,.int .i64 q,.int .i64 V] 83 1 rfl
 have b3':=qaa b3 (oQ0 K q V)
 have cp':=qaa cp (oQ0 K q V)
 have cq':=qaa cq (oQ0 K q V)
 go_upto_region 2 with fail
 clear b3 cp cq e0 e1 e2 zb BW NB
 generalize hN2:W2.heap.size=N2 at *
 clear hN2
 generalize W2.alloc (oQ0 K q V)=W3 at *
 rcases zK (K == 3) with t | t
 case inr=>
  have HV2:Hid (sndN x.y p i = -1):=by
   show sndN x.y p i = -1
   rw [HV.out,if_neg (by simpa using t)]
  clear HV
  go_wp2
  go_ret
  exact ⟨qjg HV2.out.symm,BW3.out⟩
 case inl=>
  have HV2:Hid (sndN x.y p i=nv):=by
   show sndN x.y p i=nv
   rw [HV.out,if_pos (by simpa using t)]
  clear HV
  have q1:=cell_regrown c1
  have q3:=cell_regrown b3'
  have qp:=cell_regrown cp'
  have qq:=cell_regrown cq'
  have HQ2:Hid (∀ d os,Below w.heap.size w (grow (redrawn W3 d) os)):=fun d os=>BW3.out.trans ((below_regrown W3 d os).mono BW3.out.size)
  go_upto_region 4 with fail
  clear c1 b3' cp' cq'
  refine wp_region_quiet_below (by kernel_rfl) (by kernel_rfl) ?_
  repeat (quiet_step (first|(go_at_call 177;exact Calls.regrown_of (HCk.out _ (HQ2.out _ _)))|(go_at_call 178;exact Calls.regrown_of (HNt.out _ (HQ2.out _ _)))))
  refine wpQuiet_nil ?_
  intro _ hw'
  obtain ⟨⟨dd,os⟩,hw''⟩:=hw'
  subst hw''
  have B3:=HQ2.out dd os
  generalize grow (redrawn W3 dd) os=w3 at *
  go_wp2
  go_ret
  exact ⟨qjg HV2.out.symm,B3⟩
theorem qfc (x:SysIn) (p i:Int) (w:World) (hG:SysG w x) (hL:x.Len) (hcap:∀ i,i<x.hn->x.hL i<=x.hC i):
  Calls Tryz.prog 95 #[x.v,.int .i64 p,.int .i64 i] w fun e w'=>e=.returned (.bool (hasB x.y p i))/\Below w.heap.size w w':=by
 have HG:Hid (SysG w x):=hG
 have HL:Hid x.Len:=hL
 have HS:Hid (∀ wx,Below w.heap.size w wx->Calls Tryz.prog 48 #[x.v] wx fun e w'=>e=.returned (.bool x.y.okB)/\Below wx.heap.size wx w'):=fun wx hb=>qbz x wx (HG.out.below hb) hL hcap
 have BW:Hid (Below w.heap.size w (w.alloc (oQ4 x.pa x.pn x.pc x.sa x.sn x.sc x.wa x.wn x.wc x.ha x.hn x.hc))):=zT _ _
 have NB:Hid (BoxC (w.alloc (oQ4 x.pa x.pn x.pc x.sa x.sn x.sc x.wa x.wn x.wc x.ha x.hn x.hc)) w.heap.size (.slice x.pa x.pn x.pc) (.slice x.sa x.sn x.sc) (.slice x.wa x.wn x.wc) (.slice x.ha x.hn x.hc)):=BoxC.new w _ _ _ _ _
 clear hG hL hcap
 go_enter Tryz.func95,Tryz.ntmps95
 go_wp2_with fail
 generalize w.alloc (oQ4 x.pa x.pn x.pc x.sa x.sn x.sc x.wa x.wn x.wc x.ha x.hn x.hc)=W2 at *
 refine (HS.out W2 BW.out).mono ?_
 rintro e w1 ⟨rfl,q1⟩
 have B1:Hid (Below w.heap.size w w1/\BoxC w1 w.heap.size (.slice x.pa x.pn x.pc) (.slice x.sa x.sn x.sc) (.slice x.wa x.wn x.wc) (.slice x.ha x.hn x.hc)):=⟨BW.out.trans (q1.mono BW.out.size),NB.out.below q1⟩
 clear q1 BW NB HS
 rcases zK x.y.okB with t | t
 case inr=>
  have HV:Hid (hasB x.y p i=false):=by
   show hasB x.y p i=false
   rw [hasB,t]
   rfl
  rw [t]
  clear t
  go_wp2
  go_ret
  rw [HV.out]
  exact ⟨rfl,B1.out.1⟩
 have HO:Hid x.y.Ok:=Sy.ok_of t
 have h4:(x.pn:Int)<=4:=by have:x.pn<=4:=HO.out.cn.1.2;omega
 have HT:Hid (x.y.okB=true):=t
 rw [t]
 clear t
 obtain ⟨b0,-,-,b3⟩:=B1.out.2
 go_wp2_with fail
 refine (l1In_any _ _ _ _).mono ?_
 rintro e w2 ⟨rfl,rfl⟩
 rcases zK (inB p 0 ((x.pn:Int) - 1)) with tp | tp
 case inr=>
  have HV:Hid (hasB x.y p i=false):=by
   show hasB x.y p i=false
   have:belB p x.y.pn=false:=by
    simp only [inB,decide_eq_false_iff_not] at tp
    simp only [belB,decide_eq_false_iff_not]
    show ¬ (0<=p/\p<(x.pn:Int))
    omega
   rw [hasB,this]
   simp
  rw [tp]
  clear tp
  go_wp2
  go_ret
  rw [HV.out]
  exact ⟨rfl,B1.out.1⟩
 have hp0:0<=p/\p<(x.pn:Int):=by
  simp only [inB,decide_eq_true_eq] at tp
  omega
 obtain ⟨a,rfl⟩:∃ a:Nat,p=a:=⟨p.toNat,by omega⟩
 have hhn:x.hn=x.pn:=HO.out.cn.2.2.1
 have ha:a<x.hn:=by omega
 have ha':(a:Int)<(x.hn:Int):=by omega
 have hl:(x.hL a:Int)<=200:=by have:x.hL a<=200:=HO.out.hl200 (by show a<x.pn;omega);omega
 obtain ⟨bh,oh,eh,ca⟩:=(HG.out.below B1.out.1).h.at ha
 rw [eh] at b3
 rw [tp]
 have HV:Hid (hasB x.y a i=inB i 0 ((x.hL a:Int) - 1)):=by
  show hasB x.y a i=_
  have h1:belB (a:Int) x.y.pn=true:=by
   simp only [belB,decide_eq_true_eq]
   show 0<=(a:Int)/\(a:Int)<(x.pn:Int)
   omega
  rw [hasB,HT.out,h1,Int.toNat_natCast]
  show belB i (x.hL a)=_
  simp only [belB,inB]
  by_cases h:0<=i/\i<(x.hL a:Int)
  ·rw [decide_eq_true h,decide_eq_true (by omega)]
  ·rw [decide_eq_false h,decide_eq_false (by omega)]
 clear tp eh hhn hp0
 go_wp2_with fail
 refine (l1In_any _ _ _ _).mono ?_
 rintro e w2 ⟨rfl,rfl⟩
 rw [<- HV.out]
 go_wp2
 go_ret
 exact ⟨rfl,B1.out.1⟩
theorem qgt {eh:Nat->E3} {kd pr:Int}:∀ {m j:Nat},j<cnt eh kd pr m->∃ k,k<m/\hitB eh kd pr k=true/\cnt eh kd pr k=j
 | 0,j,h=>by
  rw [qnh] at h
  omega
 | m+1,j,h=>by
  by_cases hh:hitB eh kd pr m=true
  ·rw [qfq hh] at h
   by_cases e:j<cnt eh kd pr m
   ·obtain ⟨k,h1,h2⟩:=qgt e
    exact ⟨k,by omega,h2⟩
   ·exact ⟨m,by omega,hh,by omega⟩
  ·rw [qip (by simpa using hh)] at h
   obtain ⟨k,h1,h2⟩:=qgt h
   exact ⟨k,by omega,h2⟩
def sdr (y:Sy) (p i:Nat):Option (Nat × Nat):=if (y.hH p i).k=3 then some ((y.hH p i).q.toNat,(sndN y p i).toNat) else none
def clkF (y:Sy):Nat->Nat->Nat->Nat->Nat
 | 0,_,_,_=>0
 | f+1,p,i,q=>if q=p then i+1 else max (if i=0 then 0 else clkF y f p (i - 1) q) (match sdr y p i with | none=>0 | some s=>clkF y f s.1 s.2 q)
theorem qha (y:Sy) (f p i q:Nat):clkF y (f+1) p i q=if q=p then i+1 else max (if i=0 then 0 else clkF y f p (i - 1) q) (match sdr y p i with | none=>0 | some s=>clkF y f s.1 s.2 q):=by rw [clkF]
def clk (y:Sy) (p i q:Nat):Nat:=clkF y 801 p i q
theorem qg9 {y:Sy} {d:Nat->Nat} {p:Nat} (hO:y.Ok) (hd:∀ a,d a<=y.hL a) (hp:p<y.pn) (hc:y.hs.Can d p) {s:Nat × Nat} (hs:sdr y p (d p)=some s):s.1<y.pn/\s.2<d s.1/\sndN y p (d p)=(s.2:Int):=by
 obtain ⟨h1,h2⟩:=hc
 have h1':d p<y.hL p:=h1
 unfold sdr at hs
 by_cases e:(y.hH p (d p)).k=3
 ·rw [if_pos e] at hs
  simp only [Option.some.injEq] at hs
  have hq:=hO.evq hp h1'
  have h3:cnt (y.hH p) 3 (y.hH p (d p)).q (d p)<cnt (y.hH (y.hH p (d p)).q.toNat) 2 p (d (y.hH p (d p)).q.toNat):=h2 e
  obtain ⟨k,k1,k2,k3⟩:=qgt h3
  have hk:sndN y p (d p)=(k:Int):=by
   unfold sndN
   rw [if_pos e]
   refine qja (zL k1 (hd _)) k2 ?_
   rw [plI,List.length_map]
   exact congrArg Nat.cast k3.symm
  rw [<- hs]
  refine ⟨by show (y.hH p (d p)).q.toNat<y.pn;omega,?_,?_⟩
  ·show (sndN y p (d p)).toNat<d (y.hH p (d p)).q.toNat
   rw [hk]
   simpa using k1
  ·show sndN y p (d p)=((sndN y p (d p)).toNat:Int)
   rw [hk]
   simp
 ·rw [if_neg e] at hs
  cases hs
theorem qn1 {y:Sy} {d:Nat->Nat} (hO:y.Ok) (h:y.hs.Put d):∀ p,p<y.pn->∀ i,i<d p->∀ f,sumL d y.pn<=f->∀ q,clkF y f p i q=clkF y (sumL d y.pn) p i q:=by
 induction h with
 | start=>
  intro p _ i hi
  exact absurd hi (Nat.not_lt_zero _)
 | @next d p0 hput hp0 hc ih=>
  have hp0':p0<y.pn:=hp0
  intro p hp i hi f hf q
  have hs:sumL (up d p0) y.pn=sumL d y.pn+1:=qcp hp0'
  rw [hs] at hf ⊢
  have old:∀ p,p<y.pn->∀ i,i<d p->∀ f,sumL d y.pn<=f->∀ q,clkF y f p i q=clkF y (sumL d y.pn) p i q:=ih
  by_cases e:p=p0/\i=d p0
  ·obtain ⟨rfl,rfl⟩:=e
   obtain ⟨g,rfl⟩:∃ g,f=g+1:=⟨f - 1,by omega⟩
   rw [qha,qha]
   by_cases eq:q=p
   ·rw [if_pos eq,if_pos eq]
   ·rw [if_neg eq,if_neg eq]
    congr 1
    ·by_cases e0:d p=0
     ·rw [if_pos e0,if_pos e0]
     ·rw [if_neg e0,if_neg e0]
      exact old p hp (d p - 1) (by omega) g (by omega) q
    ·cases hs':sdr y p (d p) with
     | none=>rfl
     | some s=>
      obtain ⟨s1,s2,-⟩:=qg9 hO hput.le hp hc hs'
      exact old s.1 s1 s.2 s2 g (by omega) q
  ·have hi':i<d p:=by
    by_cases ep:p=p0
    ·subst ep
     rw [qbk] at hi
     have:i≠d p:=fun h=>e ⟨rfl,h⟩
     omega
    ·rw [up_other ep] at hi
     exact hi
   rw [old p hp i hi' f (by omega) q,old p hp i hi' (sumL d y.pn+1) (by omega) q]
theorem qin {y:Sy} {d:Nat->Nat} (hO:y.Ok) (h:y.hs.Put d) {p:Nat} (hp:p<y.pn) (hc:y.hs.Can d p) (q:Nat):
  clk y p (d p) q=if q=p then d p+1 else max (if d p=0 then 0 else clk y p (d p - 1) q) (match sdr y p (d p) with | none=>0 | some s=>clk y s.1 s.2 q):=by
 have hle:sumL d y.pn<=800:=by
  have h1:∀ n,n<=y.pn->sumL d n<=n*200:=by
   intro n
   induction n with
   | zero=>exact fun _=>Nat.le_refl _
   | succ n ih=>
    intro hn
    have h2:=ih (by omega)
    have h3:d n<=200:=zP (h.le n) (hO.hl200 (by omega))
    show sumL d n+d n<=(n+1)*200
    omega
  have h2:=h1 y.pn (Nat.le_refl _)
  have h3:=hO.cn.1.2
  omega
 obtain ⟨N,hN⟩:∃ N,N=800:=⟨_,rfl⟩
 have key:∀ a,a<y.pn->∀ k,k<d a->clkF y N a k q=clk y a k q:=fun a ha k hk=>(qn1 hO h a ha k hk N (by omega) q).trans (qn1 hO h a ha k hk 801 (by omega) q).symm
 have e1:clk y p (d p) q=clkF y (N+1) p (d p) q:=by rw [hN];rfl
 rw [e1,qha]
 by_cases eq:q=p
 ·rw [if_pos eq,if_pos eq]
 ·rw [if_neg eq,if_neg eq]
  refine congr (congrArg max ?_) ?_
  ·by_cases e0:d p=0
   ·rw [if_pos e0,if_pos e0]
   ·rw [if_neg e0,if_neg e0]
    exact key p hp (d p - 1) (by omega)
  ·cases hs':sdr y p (d p) with
   | none=>rfl
   | some s=>
    obtain ⟨s1,s2,-⟩:=qg9 hO h.le hp hc hs'
    exact key s.1 s1 s.2 s2
theorem Hs.Put.was {x:Hs} {d:Nat->Nat} (h:x.Put d):∀ p i,i<d p->p<x.n/\∃ d',x.Put d'/\d' p=i/\x.Can d' p:=by
 induction h with
 | start=>
  intro p i hi
  exact absurd hi (Nat.not_lt_zero _)
 | @next d p0 hput hp0 hc ih=>
  intro p i hi
  by_cases e:p=p0/\i=d p0
  ·obtain ⟨rfl,rfl⟩:=e
   exact ⟨hp0,d,hput,rfl,hc⟩
  ·refine ih p i ?_
   by_cases ep:p=p0
   ·subst ep
    rw [qbk] at hi
    have:i≠d p:=fun h=>e ⟨rfl,h⟩
    omega
   ·rw [up_other ep] at hi
    exact hi
theorem qlb {y:Sy} (hO:y.Ok) {p i:Nat} (hp:p<y.pn) (hi:i<y.hL p) {s:Nat × Nat} (hs:sdr y p i=some s):
  (y.hH p i).k=3/\(y.hH p i).q=(s.1:Int)/\s.1<y.pn/\s.2<y.hL s.1/\sndN y p i=(s.2:Int)/\hitB (y.hH s.1) 2 p s.2=true/\cnt (y.hH s.1) 2 p s.2=cnt (y.hH p) 3 s.1 i/\(s.1=p->s.2<i):=by
 obtain ⟨dA,hA,hall⟩:=hO.ro
 have hi':i<dA p:=by rw [hall p hp];exact hi
 obtain ⟨-,d,hput,rfl,hc⟩:=hA.was p i hi'
 obtain ⟨h1,h2,h3⟩:=qg9 hO hput.le hp hc hs
 have hq:=hO.evq hp hi
 unfold sdr at hs
 by_cases e:(y.hH p (d p)).k=3
 ·rw [if_pos e] at hs
  simp only [Option.some.injEq] at hs
  have e1:(y.hH p (d p)).q.toNat=s.1:=by rw [<- hs]
  have e2:(y.hH p (d p)).q=(s.1:Int):=by omega
  have h4:cnt (y.hH p) 3 (y.hH p (d p)).q (d p)<cnt (y.hH (y.hH p (d p)).q.toNat) 2 p (d (y.hH p (d p)).q.toNat):=hc.2 e
  rw [e1,e2] at h4
  obtain ⟨k,k1,k2,k3⟩:=qgt h4
  have hk:sndN y p (d p)=(k:Int):=by
   unfold sndN
   rw [if_pos e,e1,e2]
   refine qja (zL k1 (hput.le _)) k2 ?_
   rw [plI,List.length_map]
   exact congrArg Nat.cast k3.symm
  have e3:k=s.2:=by
   rw [hk] at h3
   omega
  subst e3
  exact ⟨e,e2,h1,zL k1 (hput.le _),hk,k2,k3,fun ep=>by rw [ep] at k1;exact k1⟩
 ·rw [if_neg e] at hs
  cases hs
theorem qg0 {y:Sy} {p i:Nat} (h:sdr y p i=none):(y.hH p i).k≠3:=by
 intro e
 rw [sdr,if_pos e] at h
 cases h
theorem qbm {y:Sy} (hO:y.Ok) {d:Nat->Nat} {p:Nat} (hp:p<y.pn) (hl:d p<y.hL p):y.hs.Can d p ↔ ∀ s,sdr y p (d p)=some s->s.2<d s.1:=by
 constructor
 ·intro hc s hs
  obtain ⟨h1,h2,h3,h4,h5,h6,h7,-⟩:=qlb hO hp hl hs
  have h8:cnt (y.hH p) 3 (y.hH p (d p)).q (d p)<cnt (y.hH (y.hH p (d p)).q.toNat) 2 p (d (y.hH p (d p)).q.toNat):=hc.2 h1
  rw [h2,Int.toNat_natCast,<- h7] at h8
  refine Decidable.byContradiction fun hn=>?_
  have:=qeb (y.hH s.1) 2 p (show d s.1<=s.2 by omega)
  omega
 ·intro h
  refine ⟨hl,fun e=>?_⟩
  cases hs:sdr y p (d p) with
  | none=>exact absurd e (qg0 hs)
  | some s=>
   obtain ⟨h1,h2,h3,h4,h5,h6,h7,-⟩:=qlb hO hp hl hs
   have hlt:=h s hs
   show cnt (y.hH p) 3 (y.hH p (d p)).q (d p)<cnt (y.hH (y.hH p (d p)).q.toNat) 2 p (d (y.hH p (d p)).q.toNat)
   rw [h2,Int.toNat_natCast,<- h7]
   have h9:=qeb (y.hH s.1) 2 p (show s.2+1<=d s.1 by omega)
   rw [qfq h6] at h9
   omega
