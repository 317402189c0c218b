import Derived.Test.YtlpckaoldaijlaaGreatDoorSe0
import Derived.Test.YtlpckaoldaijlaaGreatDoorSe25
import Derived.Test.YtlpckaoldaijlaaGreatDoorSe27
import Derived.Test.YtlpckaoldaijlaaGreatDoorSe38
import Derived.Test.YtlpckaoldaijlaaGreatDoorSe39
import Derived.Test.YtlpckaoldaijlaaGreatDoorSe26
namespace Go.Proofs.YtlpckaoldaijlaaGreatDoor
open Go.ChangeShapes Go.WideShapes Go.ChangeAt Go.RowKit Go.Deep
theorem OwnSys.base {z:Bool} {w:World} {B B':Nat} {y:Sy} {v:Value} (o:OwnSys z w B y v) (h:B'<=B):OwnSys z w B' y v:=by
 obtain ⟨c,vp,vs,vw,vh,up,us,uw,uh,e,o⟩:=o
 exact ⟨c,vp,vs,vw,vh,up,us,uw,uh,e,o.p.mono fun _ q _=>⟨zP h q.1,q.2⟩,o.s.mono fun _ q _=>⟨zP h q.1,q.2⟩,o.t.mono fun _ q _=>⟨zP h q.1,q.2⟩,o.h.mono fun _ q _=>⟨zP h q.1,q.2⟩⟩
theorem OwnSys.setBelow {z:Bool} {w:World} {B:Nat} {y:Sy} {v:Value} (o:OwnSys z w B y v) {N:Nat} (h:N<B) (j:Nat) (u:Value):OwnSys z (w.setCell ⟨N,j,none⟩ u) B y v:=by
 obtain ⟨c,vp,vs,vw,vh,up,us,uw,uh,e,o⟩:=o
 have hk:∀ i k,Cl B c i k->k<w.heap.size->(w.setCell ⟨N,j,none⟩ u).heap[k]? = w.heap[k]?:=fun i k q _=>zO _ _ _ _ fun e=>by
  have e:k=N:=e
  have:=q.1
  omega
 exact ⟨c,vp,vs,vw,vh,up,us,uw,uh,e,o.p.keep (hk 1),o.s.keep (hk 2),o.t.keep (hk 3),o.h.keep (hk 4)⟩
theorem OwnSys.zero {z:Bool} (w:World) (B:Nat) (y:Sy):OwnSys z w B { y with pn:=0,sn:=0,wn:=0,hn:=0 } (sysV none 0 0 none 0 0 none 0 0 none 0 0):=
 ⟨fun _=>0,_,_,_,_,fun _=>.slice none 0 0,fun _=>.slice none 0 0,fun _=>.slice none 0 0,fun _=>.slice none 0 0,rfl,LL.nil _ _ _ _ _ _ _ _,LS.nil _ _ _ _,LL.nil _ _ _ _ _ _ _ _,LL.nil _ _ _ _ _ _ _ _⟩
theorem OwnSys.form {z:Bool} {w:World} {B:Nat} {y:Sy} {v:Value} (o:OwnSys z w B y v):∃ pa pc sa sc wa wc ha hc,v=sysV pa y.pn pc sa y.sn sc wa y.wn wc ha y.hn hc:=by
 obtain ⟨c,vp,vs,vw,vh,up,us,uw,uh,rfl,o⟩:=o
 obtain ⟨pa,pc,rfl⟩:=zU o.p.row
 obtain ⟨sa,sc,rfl⟩:=zU o.s.row
 obtain ⟨wa,wc,rfl⟩:=zU o.t.row
 obtain ⟨ha,hc,rfl⟩:=zU o.h.row
 exact ⟨pa,pc,sa,sc,wa,wc,ha,hc,rfl⟩
variable {z:Bool}
def adOf:Value->Option Addr
 | .slice a _ _=>a
 | _=>none
def cpOf:Value->Nat
 | .slice _ _ c=>c
 | _=>0
def fdOf (v:Value) (i:Nat):Value:=(cellsL v).getD i (.slice none 0 0)
def Sy.sysIn (y:Sy) (vp vs vw vh:Value) (up us uw uh:Nat->Value):SysIn:=
 ⟨adOf vp, y.pn, cpOf vp, fun i => adOf (up i), y.pL, fun i => cpOf (up i), y.pH,
  adOf vs,y.sn,cpOf vs,fun i=>⟨(y.sS i).p,adOf (fdOf (us i) 1),cpOf (fdOf (us i) 1),(y.sS i).rs,adOf (fdOf (us i) 2),cpOf (fdOf (us i) 2),(y.sS i).os,(y.sS i).c⟩,
  adOf vw,y.wn,cpOf vw,fun i=>adOf (uw i),y.wL,fun i=>cpOf (uw i),y.wH,
  adOf vh,y.hn,cpOf vh,fun i=>adOf (uh i),y.hL,fun i=>cpOf (uh i),y.hH⟩
theorem rowS_of {e:TypeId} {sz:Nat} {E:TypeId} {w:World} {P:Nat->Prop} {v:Value} {n:Nat} {u:Nat->Value} {L:Nat->Nat} {c:Nat->List Value} (o:LL z e sz E w P v n u L c):RowS w (adOf v) n fun i=>.slice (adOf (u i)) (L i) (cpOf (u i)):=by
 rcases Nat.eq_zero_or_pos n with h | h
 ·exact .inl h
 ·obtain ⟨g,cap,rfl,-,hg,-,-⟩:=o.cell h
  refine .inr ⟨g,0,rfl,hg,fun i hi=>?_⟩
  obtain ⟨g',cap',ew,-,-,hc,-⟩:=o.cell hi
  simp only [Value.slice.injEq,Option.some.injEq,Addr.mk.injEq,and_true,true_and] at ew
  obtain ⟨rfl,rfl⟩:=ew
  obtain ⟨a,c',eu⟩:=zU (o.own i hi)
  show w.cell? ⟨g,0+i,none⟩=some (.slice (adOf (u i)) (L i) (cpOf (u i)))
  rw [Nat.zero_add,hc,eu]
  rfl
theorem sl_v {w:World} {B:Nat} {e:TypeId} {sz n:Nat} {v:Value} {xs:List Value} (o:w.ownsRow B e sz v n xs):v=.slice (adOf v) n (cpOf v):=by
 obtain ⟨a,c,rfl⟩:=zU o
 rfl
theorem OwnS.v {w:World} {B:Nat} {c:Nat->Nat} {y:Sy} {vp vs vw vh:Value} {up us uw uh:Nat->Value} (o:OwnS z w B c y vp vs vw vh up us uw uh):(y.sysIn vp vs vw vh up us uw uh).v=.agg #[vp,vs,vw,vh]:=by
 have e1:=sl_v o.p.row
 have e2:=sl_v o.s.row
 have e3:=sl_v o.t.row
 have e4:=sl_v o.h.row
 conv=>rhs;rw [e1,e2,e3,e4]
 rfl
theorem nil_or {w:World} {B sz n:Nat} {e:TypeId} {u:Value} {xs:List Value} (o:w.ownsRow B e sz u n xs):n=0\/u≠.slice none 0 0:=by
 rcases o.2 with ⟨_,h⟩ | ⟨b,cap,cur,rfl,_⟩
 ·exact .inl h
 ·exact .inr (fun e=>by cases e)
theorem itL_own {w:World} {B n:Nat} {u:Value} {g:Nat->I2} (o:w.ownsRow B 131 2 u n (fT g n)):ItL w (adOf u) n g:=by
 rcases nil_or o with h | h
 ·exact .inl h
 ·obtain ⟨b,cap,eu,hb,hI,-⟩:=atT o h
  exact .inr ⟨b,0,by rw [eu];rfl,hb,hI⟩
theorem evL_own {w:World} {B n:Nat} {u:Value} {g:Nat->E3} (o:w.ownsRow B 85 3 u n (fE g n)):EvL w (adOf u) n g:=by
 rcases nil_or o with h | h
 ·exact .inl h
 ·obtain ⟨b,cap,eu,hb,hI,-⟩:=atE o h
  exact .inr ⟨b,0,by rw [eu];rfl,hb,hI⟩
theorem OwnS.g {w:World} {B:Nat} {c:Nat->Nat} {y:Sy} {vp vs vw vh:Value} {up us uw uh:Nat->Value} (o:OwnS z w B c y vp vs vw vh up us uw uh):SysG w (y.sysIn vp vs vw vh up us uw uh):=by
 refine ⟨rowS_of o.p,fun i hi=>?_,?_,rowS_of o.t,fun i hi=>?_,rowS_of o.h,fun i hi=>?_⟩
 ·obtain ⟨b,cap,eu,hb,hI,-⟩:=atI (o.p.own i hi) (o.p.nn nzI i hi)
  exact ⟨b,by show adOf (up i)=_;rw [eu];rfl,hb,hI⟩
 ·refine ⟨?_,fun i hi=>?_⟩
  ·rcases Nat.eq_zero_or_pos y.sn with h | h
   ·exact .inl h
   ·obtain ⟨g,cap,rfl,-,hg,-,-⟩:=o.s.cell h
    refine .inr ⟨g,0,rfl,hg,fun i hi=>?_⟩
    obtain ⟨g',cap',ew,-,-,hc,-⟩:=o.s.cell hi
    simp only [Value.slice.injEq,Option.some.injEq,Addr.mk.injEq,and_true,true_and] at ew
    obtain ⟨rfl,rfl⟩:=ew
    obtain ⟨ra,rc,oa,oc,eu,h0,h1,h2,h3⟩:=hc
    show w.cell? ⟨g,0+i*4,none⟩=some (.int .i64 (y.sS i).p)/\w.cell? ⟨g,0+i*4+1,none⟩=some (.slice (adOf (fdOf (us i) 1)) (y.sS i).rs.length (cpOf (fdOf (us i) 1)))/\w.cell? ⟨g,0+i*4+2,none⟩=some (.slice (adOf (fdOf (us i) 2)) (y.sS i).os.length (cpOf (fdOf (us i) 2)))/\w.cell? ⟨g,0+i*4+3,none⟩=some (.int .i64 (y.sS i).c)
    rw [Nat.zero_add,eu]
    exact ⟨h0,h1,h2,h3⟩
  ·obtain ⟨g,cap,-,-,-,⟨ra,rc,oa,oc,eu,-⟩,-⟩:=o.s.cell hi
   have h4:=o.s.own i hi
   rw [eu] at h4
   show Sl w (adOf (fdOf (us i) 1)) (y.sS i).rs/\Sl w (adOf (fdOf (us i) 2)) (y.sS i).os
   rw [eu]
   exact ⟨h4.parts.1.slOf,h4.parts.2.1.slOf⟩
 ·exact itL_own (o.t.own i hi)
 ·exact evL_own (o.h.own i hi)
variable {z:Bool}
structure SysIn.Nn (x:SysIn) (z:Bool):Prop where
 w:∀ i,i<x.wn->(∃ b off,x.wA i=some ⟨b,off,none⟩)\/(z=false/\x.wA i=none/\x.wL i=0/\x.wC i=0)
 h:∀ i,i<x.hn->(∃ b off,x.hA i=some ⟨b,off,none⟩)\/(z=false/\x.hA i=none/\x.hL i=0/\x.hC i=0)
theorem LS.made (w:World) (cs:Array Value) (n:Nat) (hn:n<=1048576) (hc:cs.size=n*4) (P:Nat->Prop) (hP:P w.heap.size) (vs:Nat->Value) (S:Nat->S4) {N:Nat} (hN:N=w.heap.size):LS (w.alloc (.cells cs 80)) P (.slice (some ⟨N,0,none⟩) 0 n) 0 vs S:=by
 subst hN
 exact ⟨World.ownsRow_made (base:=0) (e:=80) (size:=4) w cs n (Nat.zero_le _) (by unfold maxLen;omega) hc,fun i hi=>(by omega),fun k hk=>(by cases hk;exact hP),fun i hi=>(by omega),fun i hi=>(by omega),fun i j hi=>(by omega)⟩
theorem OwnS.four {B m1 m2 m3 m4:Nat} {w1 w2 w3 w4 wf:World} {y:Sy} {vp vs vw vh:Value} {up us uw uh:Nat->Value} (h1:m1<=w1.heap.size) (h2:w1.heap.size<=m2) (h3:w2.heap.size<=m3) (h4:w3.heap.size<=m4) (hB:B<=m1)
  (o1:LS w1 (fun k=>m1<=k/\k<w1.heap.size) vs y.sn us y.sS) (o2:LI z w2 (fun k=>m2<=k/\k<w2.heap.size) vp y.pn up y.pL y.pH) (o3:LT z w3 (fun k=>m3<=k/\k<w3.heap.size) vw y.wn uw y.wL y.wH) (o4:LE z w4 (fun k=>m4<=k/\k<w4.heap.size) vh y.hn uh y.hL y.hH)
  (b2:Below w1.heap.size w1 w2) (b3:Below w2.heap.size w2 w3) (b4:Below w3.heap.size w3 w4) (hf:∀ k,m1<=k->k<w4.heap.size->wf.heap[k]? = w4.heap[k]?):
  ∃ c,OwnS z wf B c y vp vs vw vh up us uw uh:=by
 have z2:=b2.size
 have z3:=b3.size
 have z4:=b4.size
 refine ⟨fun k=>if k<w1.heap.size then 2 else if k<w2.heap.size then 1 else if k<w3.heap.size then 3 else 4,?_,?_,?_,?_⟩
 ·refine (o2.keep (w':=wf) fun k hk hl=>(hf k (by omega) (by omega)).trans ((b4.block k (by omega)).trans (b3.block k hl))).mono fun k hk _=>⟨by omega,?_⟩
  show (if k<w1.heap.size then 2 else if k<w2.heap.size then 1 else if k<w3.heap.size then 3 else 4)=1
  rw [if_neg (by omega),if_pos (by omega)]
 ·refine (o1.keep (w':=wf) fun k hk hl=>(hf k (by omega) (by omega)).trans ((b4.block k (by omega)).trans ((b3.block k (by omega)).trans (b2.block k hl)))).mono fun k hk _=>⟨by omega,?_⟩
  show (if k<w1.heap.size then 2 else if k<w2.heap.size then 1 else if k<w3.heap.size then 3 else 4)=2
  rw [if_pos (by omega)]
 ·refine (o3.keep (w':=wf) fun k hk hl=>(hf k (by omega) (by omega)).trans (b4.block k hl)).mono fun k hk _=>⟨by omega,?_⟩
  show (if k<w1.heap.size then 2 else if k<w2.heap.size then 1 else if k<w3.heap.size then 3 else 4)=3
  rw [if_neg (by omega),if_neg (by omega),if_pos (by omega)]
 ·refine (o4.keep (w':=wf) fun k hk hl=>hf k (by omega) hl).mono fun k hk _=>⟨by omega,?_⟩
  show (if k<w1.heap.size then 2 else if k<w2.heap.size then 1 else if k<w3.heap.size then 3 else 4)=4
  rw [if_neg (by omega),if_neg (by omega),if_neg (by omega)]
section
variable {P:Program} {ops:Array Oper} {Q:Exit->Act->World->Prop} {md:Region.Mode} {S:World->Prop} {G:Nat->Bool}
def notB (b:Bool):Nat:=bif b then 0 else 1
def outI (b:Bool) (i:Nat):List Nat:=bif b then [] else [i]
theorem outI_mem {b:Bool} {i j:Nat} (h:j ∈ outI b i):b=false/\j=i:=by
 cases b with
 | true=>cases h
 | false=>exact ⟨rfl,List.mem_singleton.1 h⟩
theorem wpG_four (lst:Bool->Bool->Bool->Bool->Bool->Array Bool) (i1 i2 i3 i4 i5:Nat) {o5:Oper} (I:Bool->Bool->Bool->Bool->Act->World->Prop) (J:Bool->Act->World->Prop) {f0:Nat}
  (hrd:∀ a b c d,(a && b && c)=false->Region.ready md ops (lst a b c d false)=outI a i1 ++ (outI b i2 ++ (outI c i3 ++ outI d i4)))
  (s1:∀ b c d,(lst false b c d false).setIfInBounds i1 true=lst true b c d false) (s2:∀ a c d,(lst a false c d false).setIfInBounds i2 true=lst a true c d false) (s3:∀ a b d,(lst a b false d false).setIfInBounds i3 true=lst a b true d false) (s4:∀ a b c e,(lst a b c false e).setIfInBounds i4 true=lst a b c true e) (s5:∀ d,(lst true true true d false).setIfInBounds i5 true=lst true true true d true)
  (e5:ops.toList[i5]? = some o5) (hs:Region.noSelect ops=true) (hf:∀ d,Region.free md ops (lst true true true d false) i5=true) (hr5:∀ d,(Region.ready md ops (lst true true true d false)).contains i5=true) (hrJ:Region.ready md ops (lst true true true false true)=[i4]) (hQ:∀ v c a w,Q (.panic c) (a.put o5.dst v) w->Q (.panic c) a w)
  (h1:∀ b c d x w,I false b c d x w->wpOp P ops Q i1 (fun x' w'=>(S w->G i1=false->S w')/\I true b c d x' w') x w) (h2:∀ a c d x w,I a false c d x w->wpOp P ops Q i2 (fun x' w'=>(S w->G i2=false->S w')/\I a true c d x' w') x w)
  (h3:∀ a b d x w,I a b false d x w->wpOp P ops Q i3 (fun x' w'=>(S w->G i3=false->S w')/\I a b true d x' w') x w) (h4:∀ a b c x w,I a b c false x w->wpOp P ops Q i4 (fun x' w'=>(S w->G i4=false->S w')/\I a b c true x' w') x w)
  (h5:∀ d x w,I true true true d x w->Region.wanted o5 (yielded ops x.tmps)=true/\∃ v,(∀ w,(execOp x.eval o5).run P w=.ok (.value v) w)/\J d (x.put o5.dst v) w)
  (hJ:∀ x w,J false x w->wpOp P ops Q i4 (fun x' w'=>(S w->G i4=false->S w')/\J true x' w') x w)
  (hend:∀ x w,J true x w->wpG P md ops Q S G f0 (lst true true true true true) x w):
  ∀ (m:Nat) (a b c d:Bool) (x:Act) (w:World),notB a+notB b+notB c+notB d=m->I a b c d x w->wpG P md ops Q S G (f0+m+1) (lst a b c d false) x w:=by
 intro m
 induction m with
 | zero=>
  intro a b c d x w hm hI
  obtain ⟨rfl,rfl,rfl,rfl⟩:a=true/\b=true/\c=true/\d=true:=by
   cases a <;> cases b <;> cases c <;> cases d <;> simp [notB] at hm ⊢
  obtain ⟨hw,v,hv,hj⟩:=h5 _ x w hI
  exact wpG_takeW i5 e5 hs (hf _) (hr5 _) hQ hw ⟨v,hv,by rw [s5];exact hend _ _ hj⟩
 | succ m ih=>
  intro a b c d x w hm hI
  rcases zK (a && b && c) with hT | hne
  ·obtain ⟨rfl,rfl,rfl⟩:a=true/\b=true/\c=true:=by
    cases a <;> cases b <;> cases c <;> simp at hT ⊢
   obtain ⟨rfl,rfl⟩:d=false/\m=0:=by
    cases d <;> simp [notB] at hm ⊢ <;> exact hm
   obtain ⟨hw,v,hv,hj⟩:=h5 _ x w hI
   refine wpG_takeW i5 e5 hs (hf _) (hr5 _) hQ hw ⟨v,hv,?_⟩
   rw [s5]
   refine ⟨(fun h0=>by rw [hrJ] at h0;cases h0),fun i hi=>?_⟩
   rw [hrJ] at hi
   obtain rfl:=List.mem_singleton.1 hi
   refine wpOp_mono (fun x' w' h=>⟨h.1,?_⟩) (hJ _ _ hj)
   rw [s4]
   exact hend _ _ h.2
  have hr:=hrd a b c d hne
  refine ⟨fun h0=>?_,fun i hi=>?_⟩
  ·rw [hr] at h0
   cases a <;> cases b <;> cases c <;> cases d <;> simp [outI] at h0 hne
  ·rw [hr,List.mem_append,List.mem_append,List.mem_append] at hi
   rcases hi with hi | hi | hi | hi
   ·obtain ⟨rfl,rfl⟩:=outI_mem hi
    refine wpOp_mono (fun x' w' h=>⟨h.1,?_⟩) (h1 b c d x w hI)
    rw [s1]
    exact ih true b c d x' w' (by simp [notB] at hm ⊢;omega) h.2
   ·obtain ⟨rfl,rfl⟩:=outI_mem hi
    refine wpOp_mono (fun x' w' h=>⟨h.1,?_⟩) (h2 a c d x w hI)
    rw [s2]
    exact ih a true c d x' w' (by simp [notB] at hm ⊢;omega) h.2
   ·obtain ⟨rfl,rfl⟩:=outI_mem hi
    refine wpOp_mono (fun x' w' h=>⟨h.1,?_⟩) (h3 a b d x w hI)
    rw [s3]
    exact ih a b true d x' w' (by simp [notB] at hm ⊢;omega) h.2
   ·obtain ⟨rfl,rfl⟩:=outI_mem hi
    refine wpOp_mono (fun x' w' h=>⟨h.1,?_⟩) (h4 a b c x w hI)
    rw [s4]
    exact ih a b c true x' w' (by simp [notB] at hm ⊢;omega) h.2
end
structure ZL (E:TypeId) (w:World) (P:Nat->Prop) (v:Value) (n:Nat):Prop where
 row:w.ownsRow 0 E 1 v n (List.replicate n (.slice none 0 0))
 rb:∀ k,v.ownBlock=some k->P k
section
variable {E:TypeId} {w w':World} {P:Nat->Prop} {v:Value} {n:Nat}
theorem ZL.keep (o:ZL E w P v n) (hb:∀ k,P k->k<w.heap.size->w'.heap[k]? = w.heap[k]?):ZL E w' P v n:=⟨ownsRow_blkL o.row fun k hk=>hb k (o.rb k hk) (o.row.lt k hk).2,o.rb⟩
theorem ZL.below (o:ZL E w P v n) (hb:Below w.heap.size w w'):ZL E w' P v n:=o.keep fun k _ hk=>hb.block k hk
theorem ZL.mono (o:ZL E w P v n) {P':Nat->Prop} (h:∀ k,P k->k<w.heap.size->P' k):ZL E w P' v n:=⟨o.row,fun k hk=>h k (o.rb k hk) (o.row.lt k hk).2⟩
theorem ZL.nil (E:TypeId) (w:World) (P:Nat->Prop):ZL E w P (.slice none 0 0) 0:=⟨World.ownsRow_nil _ _ _ _,fun k hk=>by cases hk⟩
theorem ZL.cell (o:ZL E w P v n) {i:Nat} (hi:i<n):∃ g cap,v=.slice (some ⟨g,0,none⟩) n cap/\g<w.heap.size/\w.cell? ⟨g,i,none⟩=some (.slice none 0 0):=by
 rcases o.row.2 with ⟨_,h0⟩ | ⟨g,cap,cur,rfl,hb,hg,hr⟩
 ·omega
 ·refine ⟨g,cap,rfl,(o.row.lt g rfl).2,?_⟩
  rw [o.row.cellAt i (by omega)]
  simp [hi]
theorem ZL.rowS (o:ZL E w P v n):RowS w (adOf v) n fun _=>.slice none 0 0:=by
 rcases Nat.eq_zero_or_pos n with h | h
 ·exact .inl h
 ·obtain ⟨g,cap,rfl,hg,-⟩:=o.cell h
  refine .inr ⟨g,0,rfl,hg,fun i hi=>?_⟩
  obtain ⟨g',cap',ew,-,hc⟩:=o.cell hi
  simp only [Value.slice.injEq,Option.some.injEq,Addr.mk.injEq,and_true,true_and] at ew
  obtain ⟨rfl,rfl⟩:=ew
  rw [Nat.zero_add]
  exact hc
end
theorem run_make_nils {t e:TypeId} {bytes:Nat} (K:Kind t e 1 bytes) (hz0:(Tryz.prog.info? e).bind (·.zero)=some (.slice none 0 0)) (n:Nat) (hn:n<=1048576) (w:World):(Instr.makeSlice t (.int .i64 (n:Int)) (.int .i64 (n:Int))).run Tryz.prog w=.ok (.slice (some ⟨w.heap.size,0,none⟩) n n) (w.alloc (.cells (madeCells #[.slice none 0 0] n) e)):=by
 obtain ⟨i,z,hi,hz,hs,hb,hzs⟩:=K.inf
 have hz':z=.slice none 0 0:=by
  rw [hi] at hz0
  simp only [Option.bind_some,hz,Option.some.injEq] at hz0
  exact hz0
 subst hz'
 have hby:i.bytes*n<=281474976710656:=by
  rw [hb]
  exact zP (Nat.mul_le_mul K.sml hn) (by omega)
 have hby':(i.bytes:Int)*(n:Int)<=281474976710656:=by rw [<- Int.natCast_mul];exact Int.ofNat_le.2 hby
 have h:=run_make (P:=Tryz.prog) w t e i (.slice none 0 0) K.und hi hz .i64 .i64 (n:Int) (n:Int) (by omega) (by omega) hby' (by omega)
 rw [hs,Nat.mul_one,Int.toNat_natCast] at h
 exact h
theorem ZL.made (E:TypeId) (w:World) (P:Nat->Prop) (hP:P w.heap.size) (n:Nat) (hn:n<=1048576):ZL E (w.alloc (.cells (madeCells #[.slice none 0 0] n) E)) P (.slice (some ⟨w.heap.size,0,none⟩) n n) n:=by
 have hc:(madeCells #[Value.slice none 0 0] n).toList=List.replicate n (.slice none 0 0):=by
  apply List.ext_getElem?
  intro i
  by_cases h:i<n
  ·simp [madeCells,h,Nat.mod_one]
  ·simp [madeCells,h]
 refine ⟨⟨by simp,.inr ⟨w.heap.size,n,madeCells #[.slice none 0 0] n,rfl,Nat.zero_le _,Array.getElem?_push_size,Nat.le_refl _,by unfold maxLen;omega,by simp [size_madeCells],?_⟩⟩,fun k hk=>by cases hk;exact hP⟩
 rw [hc,Nat.mul_one]
 simp
def nwY (n:Nat) (L:Nat->Nat) (H:Nat->Nat->I5):Sy:=⟨n,L,H,n,fun _=>newS,n*n,fun _=>0,fun _ _=>⟨false,0⟩,n,fun _=>0,fun _ _=>⟨0,0,0⟩⟩
noncomputable def snB (n:Nat) (L:Nat->Nat) (H:Nat->Nat->I5):Bool:=decide (n<=4) && (nwY n L H).okB
structure OwnN (w:World) (c:Nat->Nat) (B n:Nat) (L:Nat->Nat) (H:Nat->Nat->I5) (vp vs vw vh:Value) (up us:Nat->Value):Prop where
 p:LI true w (Cl B c 1) vp n up L H
 s:LS w (Cl B c 2) vs n us fun _=>newS
 t:ZL 88 w (Cl B c 3) vw (n*n)
 h:ZL 75 w (Cl B c 4) vh n
def Own1 (w:World) (B T n:Nat) (L:Nat->Nat) (H:Nat->Nat->I5) (vp vs vw vh:Value):Prop:=∃ c up us,OwnN w c B n L H vp vs vw vh up us/\∀ b,T<=b->c b=0
theorem Own1.below {w w':World} {B T n:Nat} {L:Nat->Nat} {H:Nat->Nat->I5} {vp vs vw vh:Value} (o:Own1 w B T n L H vp vs vw vh) (hb:Below w.heap.size w w'):Own1 w' B T n L H vp vs vw vh:=by
 obtain ⟨c,up,us,o,h⟩:=o
 exact ⟨c,up,us,⟨o.p.below hb,o.s.below hb,o.t.below hb,o.h.below hb⟩,h⟩
theorem Own1.touch {w w':World} {B T n:Nat} {L:Nat->Nat} {H:Nat->Nat->I5} {vp vs vw vh:Value} {P:Nat->Prop} (o:Own1 w B T n L H vp vs vw vh) (ht:Touch P w w') (hp:∀ b,P b->T<=b\/b<B):Own1 w' B T n L H vp vs vw vh:=by
 obtain ⟨c,up,us,o,h⟩:=o
 have hk:∀ i,i≠0->∀ k,Cl B c i k->k<w.heap.size->w'.heap[k]? = w.heap[k]?:=fun i hi k hk hl=>ht.block k hl fun e=>by
  rcases hp k e with h1 | h1
  ·exact hi (hk.2.symm.trans (h k h1))
  ·have:=hk.1
   omega
 exact ⟨c,up,us,⟨o.p.keep (hk 1 (by decide)),o.s.keep (hk 2 (by decide)),o.t.keep (hk 3 (by decide)),o.h.keep (hk 4 (by decide))⟩,h⟩
theorem Own1.zero (w:World) (B T:Nat) (L:Nat->Nat) (H:Nat->Nat->I5):Own1 w B T 0 L H (.slice none 0 0) (.slice none 0 0) (.slice none 0 0) (.slice none 0 0):=
 ⟨fun _=>0,fun _=>.slice none 0 0,fun _=>.slice none 0 0,⟨LL.nil _ _ _ _ _ _ _ _,LS.nil _ _ _ _,ZL.nil _ _ _,ZL.nil _ _ _⟩,fun _ _=>rfl⟩
theorem LL.weak {z:Bool} {e:TypeId} {sz:Nat} {E:TypeId} {w:World} {P:Nat->Prop} {v:Value} {n:Nat} {u:Nat->Value} {L:Nat->Nat} {c:Nat->List Value} (o:LL z e sz E w P v n u L c):LL false e sz E w P v n u L c:=
 ⟨o.row,o.own,o.rb,o.ob,o.ra,o.oa,fun h i hi=>o.nn (h.elim (fun h=>by cases h) .inr) i hi⟩
theorem OwnS.weak {z:Bool} {w:World} {B:Nat} {c:Nat->Nat} {y:Sy} {vp vs vw vh:Value} {up us uw uh:Nat->Value} (o:OwnS z w B c y vp vs vw vh up us uw uh):OwnS false w B c y vp vs vw vh up us uw uh:=⟨o.p.weak,o.s,o.t.weak,o.h.weak⟩
theorem ZL.ll {e:TypeId} {sz:Nat} {E:TypeId} {w:World} {P:Nat->Prop} {v:Value} {n:Nat} (o:ZL E w P v n) (he:e≠142) (c:Nat->List Value) (hc:∀ i,c i=[]):LL false e sz E w P v n (fun _=>.slice none 0 0) (fun _=>0) c:=
 ⟨(by rw [List.map_const'];simpa using o.row),fun i _=>by rw [hc];exact World.ownsRow_nil _ _ _ _,o.rb,fun i _ k hk=>(by cases hk),fun i _ k hk=>(by cases hk),fun i j _ _ _ k hk=>(by cases hk),fun h _ _=>h.elim (fun h=>by cases h) (fun h=>absurd h he)⟩
theorem Sy.Cl.ex {y:Sy} {c:List Int}:∀ (n:Nat) (e:List Int),sm e<=n->y.Cl c e->∃ e',y.Cl c e'/\y.Wh (cN e')
 | n,e,hn,h=>by
  by_cases hw:y.Wh (cN e)
  ·exact ⟨e,h,hw⟩
  ·obtain ⟨a,ha,b,hb,hno⟩:∃ a,a<y.pn/\∃ b,b<y.pn/\¬ tN y (cN e) a b<=sN y (cN e) a b:=by
    apply Classical.byContradiction
    intro hc
    exact hw fun a ha b hb=>Classical.byContradiction fun h'=>hc ⟨a,ha,b,hb,h'⟩
   have ho:0<=ovN y (cN e) a b:=by
    apply Classical.byContradiction
    intro h0
    exact hno (ovN_neg.1 (by omega))
   obtain ⟨h1,h2,h3⟩:=h.next ha hb ho
   have hlt:=sm_set e b _ (by rw [h.len];exact hb) h3 h2
   cases n with
   | zero=>omega
   | succ n=>exact Sy.Cl.ex n _ (by omega) h1
theorem clS_spec {y:Sy} {c:List Int} (h:cutB y c=true):y.Cl c (clS y c)/\y.Wh (cN (clS y c)):=by
 obtain ⟨e,h1,h2⟩:=Sy.Cl.ex (sm c) c (Nat.le_refl _) (Sy.Cl.start (cutB_parts h).2)
 rw [clS_yes h h1 h2]
 exact ⟨h1,h2⟩
theorem cutB_true {y:Sy} {c:List Int} (hO:y.Ok) (hC:y.Cut c):cutB y c=true:=by
 unfold cutB
 rw [Sy.okB_true hO,qB_true hC]
 rfl
theorem clS_cut {y:Sy} {c:List Int} (h:cutB y c=true):y.Cut (clS y c):=(clS_spec h).1.cut (cutB_parts h).2
theorem clS_wh {y:Sy} {c:List Int} (h:cutB y c=true):whB y (clS y c)=true:=by
 unfold whB
 rw [cutB_true (cutB_parts h).1 (clS_cut h),qB_true (clS_spec h).2]
 rfl
theorem zi_flT {y:Sy} {n p:Nat} (h:p<n):zi (flT y n) p=(y.hL p:Int):=by
 unfold zi flT
 simp [List.getD_eq_getElem?_getD,h]
theorem OwnSys.weak {z:Bool} {w:World} {B:Nat} {y:Sy} {v:Value} (o:OwnSys z w B y v):OwnSys false w B y v:=by
 obtain ⟨c,vp,vs,vw,vh,up,us,uw,uh,e,o⟩:=o
 exact ⟨c,vp,vs,vw,vh,up,us,uw,uh,e,o.weak⟩
theorem valL_cnt (eh:Nat->E3) (kd pr:Int) (n:Nat):(valL eh kd pr n).length=cnt eh kd pr n:=by simp [valL,cnt]
theorem Sy.Ok.wayOf {y:Sy} (h:y.Ok) {a b:Nat} (ha:a<y.pn) (hb:b<y.pn):cnt (y.hH b) 3 a (y.hL b)+(numL (y.wH (a*y.pn+b)) (y.wL (a*y.pn+b))).length=cnt (y.hH a) 2 b (y.hL a):=by
 have e:=congrArg List.length (h.wa a ha b hb).eq
 rw [List.length_append,valL_cnt,valL_cnt] at e
 exact e
theorem Sy.Ok.whole {y:Sy} (h:y.Ok):y.Wh y.hL:=fun a ha b hb=>by
 have:=h.wayOf ha hb
 unfold tN sN
 omega
theorem Sy.Wh.congr {y:Sy} {c d:Nat->Nat} (h:y.Wh c) (e:∀ p,p<y.pn->d p=c p):y.Wh d:=fun a ha b hb=>by
 have:=h a ha b hb
 unfold tN sN at *
 rw [e a ha,e b hb]
 exact this
theorem wh_max {y:Sy} {c d:Nat->Nat} (hc:y.Wh c) (hd:y.Wh d):y.Wh (fun p=>max (c p) (d p)):=fun a ha b hb=>by
 have h1:=hc a ha b hb
 have h2:=hd a ha b hb
 unfold tN sN at *
 have m1:=cnt_mono (y.hH a) 2 b (show c a<=max (c a) (d a) by omega)
 have m2:=cnt_mono (y.hH a) 2 b (show d a<=max (c a) (d a) by omega)
 by_cases h:c b<=d b
 ·show cnt _ _ _ (max (c b) (d b))<=cnt _ _ _ (max (c a) (d a))
  rw [show max (c b) (d b)=d b by omega];omega
 ·show cnt _ _ _ (max (c b) (d b))<=cnt _ _ _ (max (c a) (d a))
  rw [show max (c b) (d b)=c b by omega];omega
theorem wh_min {y:Sy} {c d:Nat->Nat} (hc:y.Wh c) (hd:y.Wh d):y.Wh (fun p=>min (c p) (d p)):=fun a ha b hb=>by
 have h1:=hc a ha b hb
 have h2:=hd a ha b hb
 unfold tN sN at *
 have m1:=cnt_mono (y.hH b) 3 a (show min (c b) (d b)<=c b by omega)
 have m2:=cnt_mono (y.hH b) 3 a (show min (c b) (d b)<=d b by omega)
 by_cases h:c a<=d a
 ·show cnt _ _ _ (min (c b) (d b))<=cnt _ _ _ (min (c a) (d a))
  rw [show min (c a) (d a)=c a by omega];omega
 ·show cnt _ _ _ (min (c b) (d b))<=cnt _ _ _ (min (c a) (d a))
  rw [show min (c a) (d a)=d a by omega];omega
theorem whB_iff {y:Sy} {c:List Int}:whB y c=true ↔ y.Ok/\y.Cut c/\y.Wh (cN c):=by
 unfold whB
 rw [Bool.and_eq_true]
 constructor
 ·rintro ⟨h1,h2⟩
  exact ⟨(cutB_parts h1).1,(cutB_parts h1).2,qB_iff.1 h2⟩
 ·rintro ⟨h1,h2,h3⟩
  exact ⟨cutB_true h1 h2,qB_iff.2 h3⟩
def mxL (a b:List Int):Nat->List Int
 | 0=>[]
 | n+1=>mxL a b n ++ [if zi a n<zi b n then zi b n else zi a n]
def mnL (a b:List Int):Nat->List Int
 | 0=>[]
 | n+1=>mnL a b n ++ [if zi a n<zi b n then zi a n else zi b n]
theorem mxL_len (a b:List Int):∀ n,(mxL a b n).length=n
 | 0=>rfl
 | n+1=>by simp [mxL,mxL_len a b n]
theorem mnL_len (a b:List Int):∀ n,(mnL a b n).length=n
 | 0=>rfl
 | n+1=>by simp [mnL,mnL_len a b n]
theorem zi_app (xs:List Int) (z:Int) (p:Nat):zi (xs ++ [z]) p=if p<xs.length then zi xs p else if p=xs.length then z else 0:=by
 unfold zi
 rw [List.getD_eq_getElem?_getD,List.getElem?_append]
 by_cases h:p<xs.length
 ·rw [if_pos h,if_pos h,List.getD_eq_getElem?_getD]
 ·rw [if_neg h,if_neg h]
  by_cases e:p=xs.length
  ·subst e;simp
  ·rw [if_neg e,List.getElem?_eq_none (by simp;omega)];rfl
theorem zi_mxL (a b:List Int):∀ n p,p<n->zi (mxL a b n) p=max (zi a p) (zi b p)
 | 0,p,h=>by omega
 | n+1,p,h=>by
  rw [mxL,zi_app,mxL_len]
  by_cases e:p<n
  ·rw [if_pos e];exact zi_mxL a b n p e
  ·obtain rfl:p=n:=by omega
   rw [if_neg (by omega),if_pos rfl]
   split <;> omega
theorem zi_mnL (a b:List Int):∀ n p,p<n->zi (mnL a b n) p=min (zi a p) (zi b p)
 | 0,p,h=>by omega
 | n+1,p,h=>by
  rw [mnL,zi_app,mnL_len]
  by_cases e:p<n
  ·rw [if_pos e];exact zi_mnL a b n p e
  ·obtain rfl:p=n:=by omega
   rw [if_neg (by omega),if_pos rfl]
   split <;> omega
theorem wh_more {y:Sy} {a b:List Int} (ha:whB y a=true) (hb:whB y b=true):whB y (mxL a b a.length)=true/\whB y (mnL a b a.length)=true:=by
 obtain ⟨hO,hA,hw⟩:=whB_iff.1 ha
 obtain ⟨-,hB,hv⟩:=whB_iff.1 hb
 have la:=hA.len
 refine ⟨whB_iff.2 ⟨hO,⟨by rw [mxL_len,la],fun p hp=>?_⟩,?_⟩,whB_iff.2 ⟨hO,⟨by rw [mnL_len,la],fun p hp=>?_⟩,?_⟩⟩
 ·rw [zi_mxL a b _ p (by omega)]
  have h1:=hA.le p hp
  have h2:=hB.le p hp
  omega
 ·refine Sy.Wh.congr (wh_max hw hv) fun p hp=>?_
  unfold cN
  rw [zi_mxL a b _ p (by omega)]
  have h1:=hA.le p hp
  have h2:=hB.le p hp
  omega
 ·rw [zi_mnL a b _ p (by omega)]
  have h1:=hA.le p hp
  have h2:=hB.le p hp
  omega
 ·refine Sy.Wh.congr (wh_min hw hv) fun p hp=>?_
  unfold cN
  rw [zi_mnL a b _ p (by omega)]
  have h1:=hA.le p hp
  have h2:=hB.le p hp
  omega
theorem wh_all {y:Sy} (hO:y.Ok):whB y (flS y)=true:=by
 have e:flS y=flT y y.hn:=by
  unfold flS flT
  rw [if_pos (Sy.okB_true hO)]
 have hn:=hO.cn.2.2.1
 rw [e]
 refine whB_iff.2 ⟨hO,⟨by rw [flT_len,hn],fun p hp=>?_⟩,Sy.Wh.congr hO.whole fun p hp=>?_⟩
 ·rw [zi_flT (show p<y.hn by omega)]
  omega
 ·unfold cN
  rw [zi_flT (show p<y.hn by omega)]
  omega
theorem zi_rep (n p:Nat):zi (List.replicate n (0:Int)) p=0:=by
 unfold zi
 rw [List.getD_eq_getElem?_getD,List.getElem?_replicate]
 split <;> rfl
theorem wh_none {y:Sy} (hO:y.Ok):whB y (List.replicate y.hn (0:Int))=true:=by
 have hn:=hO.cn.2.2.1
 refine whB_iff.2 ⟨hO,⟨by simp [hn],fun p hp=>?_⟩,fun a ha b hb=>?_⟩
 ·rw [zi_rep]
  omega
 ·unfold tN sN cN
  rw [zi_rep,zi_rep]
  show cnt _ _ _ 0<=cnt _ _ _ 0
  rw [cnt_zero,cnt_zero]
  exact Nat.le_refl _
