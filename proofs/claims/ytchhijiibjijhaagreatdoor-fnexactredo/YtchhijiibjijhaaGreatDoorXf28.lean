import Derived.Test.YtchhijiibjijhaaGreatDoorXf25
import Derived.Test.YtchhijiibjijhaaGreatDoorXf27
namespace Go.Proofs.YtchhijiibjijhaaGreatDoor
set_option maxRecDepth 100000
set_option maxHeartbeats 1000000
open Go.ChangeShapes Go.WideShapes Go.ChangeAt Go.RowKit Go.Deep
section
variable {P:Program} {ops:Array Oper} {Q:Exit->Act->World->Prop} {md:Region.Mode} {S:World->Prop} {G:Nat->Bool}
def notB (b:Bool):Nat:=bif b then 0 else 1
def outI (b:Bool) (i:Nat):List Nat:=bif b then [] else [i]
theorem qdn {b:Bool} {i j:Nat} (h:j ∈ outI b i):b=false/\j=i:=by
 cases b with
 | true=>cases h
 | false=>exact ⟨rfl,List.mem_singleton.1 h⟩
theorem qwo (lst:Bool->Bool->Bool->Bool->Bool->Array Bool) (i1 i2 i3 i4 i5:Nat) {o5:Oper} (I:Bool->Bool->Bool->Bool->Act->World->Prop) (J:Bool->Act->World->Prop) {f0:Nat}
  (hrd:∀ a b c d,(a && b && c)=false->Region.ready md ops (lst a b c d false)=outI a i1 ++ (outI b i2 ++ (outI c i3 ++ outI d i4)))
  (s1:∀ b c d,(lst false b c d false).setIfInBounds i1 true=lst true b c d false) (s2:∀ a c d,(lst a false c d false).setIfInBounds i2 true=lst a true c d false) (s3:∀ a b d,(lst a b false d false).setIfInBounds i3 true=lst a b true d false) (s4:∀ a b c e,(lst a b c false e).setIfInBounds i4 true=lst a b c true e) (s5:∀ d,(lst true true true d false).setIfInBounds i5 true=lst true true true d true)
  (e5:ops.toList[i5]? = some o5) (hs:Region.noSelect ops=true) (hf:∀ d,Region.free md ops (lst true true true d false) i5=true) (hr5:∀ d,(Region.ready md ops (lst true true true d false)).contains i5=true) (hrJ:Region.ready md ops (lst true true true false true)=[i4]) (hQ:∀ v c a w,Q (.panic c) (a.put o5.dst v) w->Q (.panic c) a w)
  (h1:∀ b c d x w,I false b c d x w->wpOp P ops Q i1 (fun x' w'=>(S w->G i1=false->S w')/\I true b c d x' w') x w) (h2:∀ a c d x w,I a false c d x w->wpOp P ops Q i2 (fun x' w'=>(S w->G i2=false->S w')/\I a true c d x' w') x w)
  (h3:∀ a b d x w,I a b false d x w->wpOp P ops Q i3 (fun x' w'=>(S w->G i3=false->S w')/\I a b true d x' w') x w) (h4:∀ a b c x w,I a b c false x w->wpOp P ops Q i4 (fun x' w'=>(S w->G i4=false->S w')/\I a b c true x' w') x w)
  (h5:∀ d x w,I true true true d x w->Region.wanted o5 (yielded ops x.tmps)=true/\∃ v,(∀ w,(execOp x.eval o5).run P w=.ok (.value v) w)/\J d (x.put o5.dst v) w)
  (hJ:∀ x w,J false x w->wpOp P ops Q i4 (fun x' w'=>(S w->G i4=false->S w')/\J true x' w') x w)
  (hend:∀ x w,J true x w->wpG P md ops Q S G f0 (lst true true true true true) x w):
  ∀ (m:Nat) (a b c d:Bool) (x:Act) (w:World),notB a+notB b+notB c+notB d=m->I a b c d x w->wpG P md ops Q S G (f0+m+1) (lst a b c d false) x w:=by
 intro m
 induction m with
 | zero=>
  intro a b c d x w hm hI
  obtain ⟨rfl,rfl,rfl,rfl⟩:a=true/\b=true/\c=true/\d=true:=by
   cases a <;> cases b <;> cases c <;> cases d <;> simp [notB] at hm ⊢
  obtain ⟨hw,v,hv,hj⟩:=h5 _ x w hI
  exact qcz i5 e5 hs (hf _) (hr5 _) hQ hw ⟨v,hv,by rw [s5];exact hend _ _ hj⟩
 | succ m ih=>
  intro a b c d x w hm hI
  rcases zK (a && b && c) with hT | hne
  ·obtain ⟨rfl,rfl,rfl⟩:a=true/\b=true/\c=true:=by
    cases a <;> cases b <;> cases c <;> simp at hT ⊢
   obtain ⟨rfl,rfl⟩:d=false/\m=0:=by
    cases d <;> simp [notB] at hm ⊢ <;> exact hm
   obtain ⟨hw,v,hv,hj⟩:=h5 _ x w hI
   refine qcz i5 e5 hs (hf _) (hr5 _) hQ hw ⟨v,hv,?_⟩
   rw [s5]
   refine ⟨(fun h0=>by rw [hrJ] at h0;cases h0),fun i hi=>?_⟩
   rw [hrJ] at hi
   obtain rfl:=List.mem_singleton.1 hi
   refine wpOp_mono (fun x' w' h=>⟨h.1,?_⟩) (hJ _ _ hj)
   rw [s4]
   exact hend _ _ h.2
  have hr:=hrd a b c d hne
  refine ⟨fun h0=>?_,fun i hi=>?_⟩
  ·rw [hr] at h0
   cases a <;> cases b <;> cases c <;> cases d <;> simp [outI] at h0 hne
  ·rw [hr,List.mem_append,List.mem_append,List.mem_append] at hi
   rcases hi with hi | hi | hi | hi
   ·obtain ⟨rfl,rfl⟩:=qdn hi
    refine wpOp_mono (fun x' w' h=>⟨h.1,?_⟩) (h1 b c d x w hI)
    rw [s1]
    exact ih true b c d x' w' (by simp [notB] at hm ⊢;omega) h.2
   ·obtain ⟨rfl,rfl⟩:=qdn hi
    refine wpOp_mono (fun x' w' h=>⟨h.1,?_⟩) (h2 a c d x w hI)
    rw [s2]
    exact ih a true c d x' w' (by simp [notB] at hm ⊢;omega) h.2
   ·obtain ⟨rfl,rfl⟩:=qdn hi
    refine wpOp_mono (fun x' w' h=>⟨h.1,?_⟩) (h3 a b d x w hI)
    rw [s3]
    exact ih a b true d x' w' (by simp [notB] at hm ⊢;omega) h.2
   ·obtain ⟨rfl,rfl⟩:=qdn hi
    refine wpOp_mono (fun x' w' h=>⟨h.1,?_⟩) (h4 a b c x w hI)
    rw [s4]
    exact ih a b c true x' w' (by simp [notB] at hm ⊢;omega) h.2
end
structure ZL (E:TypeId) (w:World) (P:Nat->Prop) (v:Value) (n:Nat):Prop where
 row:w.ownsRow 0 E 1 v n (List.replicate n (.slice none 0 0))
 rb:∀ k,v.ownBlock=some k->P k
section
variable {E:TypeId} {w w':World} {P:Nat->Prop} {v:Value} {n:Nat}
theorem ZL.keep (o:ZL E w P v n) (hb:∀ k,P k->k<w.heap.size->w'.heap[k]? = w.heap[k]?):ZL E w' P v n:=⟨qau o.row fun k hk=>hb k (o.rb k hk) (o.row.lt k hk).2,o.rb⟩
theorem ZL.below (o:ZL E w P v n) (hb:Below w.heap.size w w'):ZL E w' P v n:=o.keep fun k _ hk=>hb.block k hk
theorem ZL.mono (o:ZL E w P v n) {P':Nat->Prop} (h:∀ k,P k->k<w.heap.size->P' k):ZL E w P' v n:=⟨o.row,fun k hk=>h k (o.rb k hk) (o.row.lt k hk).2⟩
theorem ZL.nil (E:TypeId) (w:World) (P:Nat->Prop):ZL E w P (.slice none 0 0) 0:=⟨World.ownsRow_nil _ _ _ _,fun k hk=>by cases hk⟩
theorem ZL.cell (o:ZL E w P v n) {i:Nat} (hi:i<n):∃ g cap,v=.slice (some ⟨g,0,none⟩) n cap/\g<w.heap.size/\w.cell? ⟨g,i,none⟩=some (.slice none 0 0):=by
 rcases o.row.2 with ⟨_,h0⟩ | ⟨g,cap,cur,rfl,hb,hg,hr⟩
 ·omega
 ·refine ⟨g,cap,rfl,(o.row.lt g rfl).2,?_⟩
  rw [o.row.cellAt i (by omega)]
  simp [hi]
theorem ZL.rowS (o:ZL E w P v n):RowS w (adOf v) n fun _=>.slice none 0 0:=by
 rcases Nat.eq_zero_or_pos n with h | h
 ·exact .inl h
 ·obtain ⟨g,cap,rfl,hg,-⟩:=o.cell h
  refine .inr ⟨g,0,rfl,hg,fun i hi=>?_⟩
  obtain ⟨g',cap',ew,-,hc⟩:=o.cell hi
  simp only [Value.slice.injEq,Option.some.injEq,Addr.mk.injEq,and_true,true_and] at ew
  obtain ⟨rfl,rfl⟩:=ew
  rw [Nat.zero_add]
  exact hc
end
theorem qcu {t e:TypeId} {bytes:Nat} (K:Kind t e 1 bytes) (hz0:(Tryz.prog.info? e).bind (·.zero)=some (.slice none 0 0)) (n:Nat) (hn:n<=1048576) (w:World):(Instr.makeSlice t (.int .i64 (n:Int)) (.int .i64 (n:Int))).run Tryz.prog w=.ok (.slice (some ⟨w.heap.size,0,none⟩) n n) (w.alloc (.cells (madeCells #[.slice none 0 0] n) e)):=by
 obtain ⟨i,z,hi,hz,hs,hb,hzs⟩:=K.inf
 have hz':z=.slice none 0 0:=by
  rw [hi] at hz0
  simp only [Option.bind_some,hz,Option.some.injEq] at hz0
  exact hz0
 subst hz'
 have hby:i.bytes*n<=281474976710656:=by
  rw [hb]
  exact zP (Nat.mul_le_mul K.sml hn) (by omega)
 have hby':(i.bytes:Int)*(n:Int)<=281474976710656:=by rw [<- Int.natCast_mul];exact Int.ofNat_le.2 hby
 have h:=run_make (P:=Tryz.prog) w t e i (.slice none 0 0) K.und hi hz .i64 .i64 (n:Int) (n:Int) (by omega) (by omega) hby' (by omega)
 rw [hs,Nat.mul_one,Int.toNat_natCast] at h
 exact h
theorem ZL.made (E:TypeId) (w:World) (P:Nat->Prop) (hP:P w.heap.size) (n:Nat) (hn:n<=1048576):ZL E (w.alloc (.cells (madeCells #[.slice none 0 0] n) E)) P (.slice (some ⟨w.heap.size,0,none⟩) n n) n:=by
 have hc:(madeCells #[Value.slice none 0 0] n).toList=List.replicate n (.slice none 0 0):=by
  apply List.ext_getElem?
  intro i
  by_cases h:i<n
  ·simp [madeCells,h,Nat.mod_one]
  ·simp [madeCells,h]
 refine ⟨⟨by simp,.inr ⟨w.heap.size,n,madeCells #[.slice none 0 0] n,rfl,Nat.zero_le _,Array.getElem?_push_size,Nat.le_refl _,by unfold maxLen;omega,by simp [size_madeCells],?_⟩⟩,fun k hk=>by cases hk;exact hP⟩
 rw [hc,Nat.mul_one]
 simp
def nwY (n:Nat) (L:Nat->Nat) (H:Nat->Nat->I5):Sy:=⟨n,L,H,n,fun _=>newS,n*n,fun _=>0,fun _ _=>⟨false,0⟩,n,fun _=>0,fun _ _=>⟨0,0,0⟩⟩
noncomputable def snB (n:Nat) (L:Nat->Nat) (H:Nat->Nat->I5):Bool:=decide (n<=4) && (nwY n L H).okB
structure OwnN (w:World) (c:Nat->Nat) (B n:Nat) (L:Nat->Nat) (H:Nat->Nat->I5) (vp vs vw vh:Value) (up us:Nat->Value):Prop where
 p:LI true w (Cl B c 1) vp n up L H
 s:LS w (Cl B c 2) vs n us fun _=>newS
 t:ZL 136 w (Cl B c 3) vw (n*n)
 h:ZL 75 w (Cl B c 4) vh n
def Own1 (w:World) (B T n:Nat) (L:Nat->Nat) (H:Nat->Nat->I5) (vp vs vw vh:Value):Prop:=∃ c up us,OwnN w c B n L H vp vs vw vh up us/\∀ b,T<=b->c b=0
theorem Own1.below {w w':World} {B T n:Nat} {L:Nat->Nat} {H:Nat->Nat->I5} {vp vs vw vh:Value} (o:Own1 w B T n L H vp vs vw vh) (hb:Below w.heap.size w w'):Own1 w' B T n L H vp vs vw vh:=by
 obtain ⟨c,up,us,o,h⟩:=o
 exact ⟨c,up,us,⟨o.p.below hb,o.s.below hb,o.t.below hb,o.h.below hb⟩,h⟩
theorem Own1.touch {w w':World} {B T n:Nat} {L:Nat->Nat} {H:Nat->Nat->I5} {vp vs vw vh:Value} {P:Nat->Prop} (o:Own1 w B T n L H vp vs vw vh) (ht:qac P w w') (hp:∀ b,P b->T<=b\/b<B):Own1 w' B T n L H vp vs vw vh:=by
 obtain ⟨c,up,us,o,h⟩:=o
 have hk:∀ i,i≠0->∀ k,Cl B c i k->k<w.heap.size->w'.heap[k]? = w.heap[k]?:=fun i hi k hk hl=>ht.block k hl fun e=>by
  rcases hp k e with h1 | h1
  ·exact hi (hk.2.symm.trans (h k h1))
  ·have:=hk.1
   omega
 exact ⟨c,up,us,⟨o.p.keep (hk 1 (by decide)),o.s.keep (hk 2 (by decide)),o.t.keep (hk 3 (by decide)),o.h.keep (hk 4 (by decide))⟩,h⟩
theorem Own1.zero (w:World) (B T:Nat) (L:Nat->Nat) (H:Nat->Nat->I5):Own1 w B T 0 L H (.slice none 0 0) (.slice none 0 0) (.slice none 0 0) (.slice none 0 0):=
 ⟨fun _=>0,fun _=>.slice none 0 0,fun _=>.slice none 0 0,⟨LL.nil _ _ _ _ _ _ _ _,LS.nil _ _ _ _,ZL.nil _ _ _,ZL.nil _ _ _⟩,fun _ _=>rfl⟩
theorem qa2 {a:Option Addr} {n c m g cap:Nat} (e:Value.slice a n c=.slice (some ⟨g,0,none⟩) m cap):a=some ⟨g,0,none⟩:=by
 simp only [Value.slice.injEq] at e
 exact e.1
theorem qon (v1 v2:Value) (P1 P2:Nat->Prop) (n:Nat) (u1 u2:Nat->Value) (L:Nat->Nat) (H:Nat->Nat->I5) (w:World) (hn:n<=1048576) (hl:∀ i,i<n->L i<=1048576) (o1:LI true w P1 v1 n u1 L H) (o2:LI true w P2 v2 n u2 L H):
  Calls Tryz.prog 52 #[v1,v2] w fun e w'=>e=.returned (.bool true)/\Below w.heap.size w w':=by
 have hl':(n:Int)<=1048576:=by omega
 obtain ⟨a1,c1,rfl⟩:=zU o1.row
 obtain ⟨a2,c2,rfl⟩:=zU o2.row
 have O1:Hid (LI true w P1 (.slice a1 n c1) n u1 L H):=o1
 have O2:Hid (LI true w P2 (.slice a2 n c2) n u2 L H):=o2
 have HL:Hid (∀ i,i<n->L i<=1048576):=hl
 clear o1 o2 hl
 go_enter Tryz.func52,Tryz.ntmps52
 go_wp2_with fail
 go_loopw [5] (fun i wr=>∃ k:Nat,k<=n/\i=.int .i64 k/\Below w.heap.size w wr) (fun i _=>n - (intOf i).toNat)
 case atStart=>exact ⟨0,Nat.zero_le _,rfl,Below.refl _ _⟩
 case round=>
  obtain ⟨k,hk,rfl,hbw⟩:=hrel
  have hs:=hbw.size
  by_cases hlt:k<n
  ·have Q1:=O1.out.below hbw
   have Q2:=O2.out.below hbw
   obtain ⟨g1,k1,e1,-,-,ck,-⟩:=Q1.cell hlt
   obtain ⟨g2,k2,e2,-,-,dk,-⟩:=Q2.cell hlt
   obtain rfl:=qa2 e1
   obtain rfl:=qa2 e2
   obtain ⟨b1,m1,f1,l1,i1,-⟩:=atI (Q1.own k hlt) (Q1.nn (nzT _) k hlt)
   obtain ⟨b2,m2,f2,l2,i2,-⟩:=atI (Q2.own k hlt) (Q2.nn (nzT _) k hlt)
   rw [f1] at ck
   rw [f2] at dk
   have I1:Hid (qaj wr b1 0 (L k) (H k)/\b1<wr.heap.size):=⟨i1,l1⟩
   have I2:Hid (qaj wr b2 0 (L k) (H k)/\b2<wr.heap.size):=⟨i2,l2⟩
   have hlt':(k:Int)<(n:Int):=by omega
   clear Q1 Q2 e1 e2 f1 f2 i1 i2 l1 l2
   go_wp2_with fail
   first|(go_region_with (go_at_call 102;refine (qhw b1 b2 (L k) m1 m2 (H k) wr.drew (HL.out k hlt) I1.out.2 I2.out.2 I1.out.1 I2.out.1).mono ?_;rintro e w1 ⟨rfl,hq1⟩)) | fail
   all_goals
    go_wp2
    go_roundw
    case rel=>exact ⟨k+1,by omega,by go_num,hbw.drew.trans (hq1.mono hs)⟩
    case measure=>simp [intOf];omega
  ·go_wp2
   go_ret
   exact ⟨rfl,hbw⟩
theorem qma (v1 v2:Value) (P1 P2:Nat->Prop) (n:Nat) (u1 u2:Nat->Value) (S:Nat->S4) (w:World) (hn:n<=1048576) (hl:∀ i,i<n->(S i).rs.length<=1048576/\(S i).os.length<=1048576) (o1:LS w P1 v1 n u1 S) (o2:LS w P2 v2 n u2 S):
  Calls Tryz.prog 53 #[v1,v2] w fun e w'=>e=.returned (.bool true)/\Below w.heap.size w w':=by
 have hl':(n:Int)<=1048576:=by omega
 obtain ⟨a1,c1,rfl⟩:=zU o1.row
 obtain ⟨a2,c2,rfl⟩:=zU o2.row
 have O1:Hid (LS w P1 (.slice a1 n c1) n u1 S):=o1
 have O2:Hid (LS w P2 (.slice a2 n c2) n u2 S):=o2
 have HL:Hid (∀ i,i<n->(S i).rs.length<=1048576/\(S i).os.length<=1048576):=hl
 clear o1 o2 hl
 go_enter Tryz.func53,Tryz.ntmps53
 go_wp2_with fail
 go_loopw [5] (fun i wr=>∃ k:Nat,k<=n/\i=.int .i64 k/\Below w.heap.size w wr) (fun i _=>n - (intOf i).toNat)
 case atStart=>exact ⟨0,Nat.zero_le _,rfl,Below.refl _ _⟩
 case round=>
  obtain ⟨k,hk,rfl,hbw⟩:=hrel
  have hs:=hbw.size
  by_cases hlt:k<n
  ·have Q1:=O1.out.below hbw
   have Q2:=O2.out.below hbw
   obtain ⟨g1,k1,e1,-,-,⟨ra,rc,oa,oc,f1,x0,x1,x2,x3⟩,-⟩:=Q1.cell hlt
   obtain ⟨g2,k2,e2,-,-,⟨ra',rc',oa',oc',f2,y0,y1,y2,y3⟩,-⟩:=Q2.cell hlt
   obtain rfl:=qa2 e1
   obtain rfl:=qa2 e2
   have hsl1:Sl wr ra (S k).rs/\Sl wr oa (S k).os:=by
    have h4:=Q1.own k hlt
    rw [f1] at h4
    exact ⟨h4.parts.1.slOf,h4.parts.2.1.slOf⟩
   have hsl2:Sl wr ra' (S k).rs/\Sl wr oa' (S k).os:=by
    have h4:=Q2.own k hlt
    rw [f2] at h4
    exact ⟨h4.parts.1.slOf,h4.parts.2.1.slOf⟩
   have H1:Hid (Sl wr ra (S k).rs/\Sl wr oa (S k).os):=hsl1
   have H2:Hid (Sl wr ra' (S k).rs/\Sl wr oa' (S k).os):=hsl2
   have hlt':(k:Int)<(n:Int):=by omega
   clear hsl1 hsl2 e1 e2 f1 f2 Q1 Q2
   go_wp2_with fail
   first|(go_region_with (go_at_call 103;refine (qgv _ _ ra oa ra' oa' rc oc rc' oc' (S k).rs (S k).os wr.drew (HL.out k hlt).1 (HL.out k hlt).2 H1.out.1 H1.out.2 H2.out.1 H2.out.2).mono ?_;rintro e w1 ⟨rfl,hq1⟩)) | fail
   all_goals
    go_wp2
    go_roundw
    case rel=>exact ⟨k+1,by omega,by go_num,hbw.drew.trans (hq1.mono hs)⟩
    case measure=>simp [intOf];omega
  ·go_wp2
   go_ret
   exact ⟨rfl,hbw⟩
structure Sy.Len (y:Sy):Prop where
 p:y.pn<=1048576/\∀ i,i<y.pn->y.pL i<=1048576
 s:y.sn<=1048576/\∀ i,i<y.sn->(y.sS i).rs.length<=1048576/\(y.sS i).os.length<=1048576
 w:y.wn<=1048576/\∀ i,i<y.wn->y.wL i<=1048576
 h:y.hn<=1048576/\∀ i,i<y.hn->y.hL i<=1048576
theorem qqw {P:Program} {ops:Array Oper} {Q:Exit->Act->World->Prop} {md:Region.Mode} {S:World->Prop} {G:Nat->Bool} {fuel:Nat} {l:Array Bool} {a:Act} {w:World} (fuel':Nat) (l':Array Bool) (hf:fuel'=fuel) (hl:l'=l) (h:wpG P md ops Q S G fuel' l' a w):wpG P md ops Q S G fuel l a w:=by
 subst hf
 subst hl
 exact h
theorem qtw:(Tryz.prog.info? 136).bind (·.zero)=some (.slice none 0 0):=by kernel_rfl
theorem qqk:(Tryz.prog.info? 75).bind (·.zero)=some (.slice none 0 0):=by kernel_rfl
structure NwF (W1:World) (n:Nat) (L:Nat->Nat) (H:Nat->Nat->I5) (a b c d:Bool) (v1 v2 v3 v4:Value) (w:World):Prop where
 be:Below W1.heap.size W1 w
 ow:∃ k:Nat->Nat,(a=true->∃ u,LI true w (Cl W1.heap.size k 1) v1 n u L H)/\(b=true->ZL 136 w (Cl W1.heap.size k 3) v2 (n*n))/\(c=true->ZL 75 w (Cl W1.heap.size k 4) v3 n)/\(d=true->∃ N,v4=.pointer (some ⟨N,0,none⟩)/\W1.heap.size<=N/\BoxC w N (.slice none 0 0) (.slice none 0 0) (.slice none 0 0) (.slice none 0 0)/\(∀ j,w.frozen? ⟨N,j,none⟩=false)/\k N=0)
section
variable {W1:World} {n:Nat} {L:Nat->Nat} {H:Nat->Nat->I5} {a b c d:Bool} {v1 v2 v3 v4:Value} {w w':World}
theorem NwF.keepBox {N:Nat} {k:Nat->Nat} {q:Nat} (h:v4=.pointer (some ⟨N,0,none⟩)/\W1.heap.size<=N/\BoxC w N (.slice none 0 0) (.slice none 0 0) (.slice none 0 0) (.slice none 0 0)/\(∀ j,w.frozen? ⟨N,j,none⟩=false)/\k N=0) (hb:Below w.heap.size w w'):v4=.pointer (some ⟨N,0,none⟩)/\W1.heap.size<=N/\BoxC w' N (.slice none 0 0) (.slice none 0 0) (.slice none 0 0) (.slice none 0 0)/\(∀ j,w'.frozen? ⟨N,j,none⟩=false)/\rcol k w.heap.size q N=0:=by
 have hl:=zJ w _ h.2.2.1.1
 exact ⟨h.1,h.2.1,h.2.2.1.below hb,fun j=>((qam hb).2 _ j hl).trans (h.2.2.2.1 j),(qar hl).trans h.2.2.2.2⟩
theorem NwF.one (h:NwF W1 n L H a b c d v1 v2 v3 v4 w) {v:Value} {u:Nat->Value} (o:LI true w' (fun k=>w.heap.size<=k/\k<w'.heap.size) v n u L H) (hb:Below w.heap.size w w'):NwF W1 n L H true b c d v v2 v3 v4 w':=by
 obtain ⟨k,-,h2,h3,h4⟩:=h.ow
 have hs:=h.be.size
 exact ⟨h.be.trans (hb.mono hs), rcol k w.heap.size 1, fun _ => ⟨u, o.mono fun j hj _ => ⟨Nat.le_trans hs hj.1, qah hj.1⟩⟩, fun e => ((h2 e).mono fun j hj hl => hj.old hl).below hb, fun e => ((h3 e).mono fun j hj hl => hj.old hl).below hb, fun e => by
  obtain ⟨N,hN⟩:=h4 e
  exact ⟨N,NwF.keepBox hN hb⟩⟩
theorem NwF.two (h:NwF W1 n L H a b c d v1 v2 v3 v4 w) (hn:n*n<=1048576):NwF W1 n L H a true c d v1 (.slice (some ⟨w.heap.size,0,none⟩) (n*n) (n*n)) v3 v4 (w.alloc (.cells (madeCells #[.slice none 0 0] (n*n)) 136)):=by
 obtain ⟨k,h1,-,h3,h4⟩:=h.ow
 have hs:=h.be.size
 have hb:=zQ w (.cells (madeCells #[.slice none 0 0] (n*n)) 136)
 exact ⟨h.be.trans (hb.mono hs), rcol k w.heap.size 3, fun e => by
  obtain ⟨u,o⟩:=h1 e
  exact ⟨u,(o.mono fun j hj hl=>hj.old hl).below hb⟩,fun _=>ZL.made _ w _ ⟨hs,qah (Nat.le_refl _)⟩ _ hn,fun e=>((h3 e).mono fun j hj hl=>hj.old hl).below hb,fun e=>by
  obtain ⟨N,hN⟩:=h4 e
  exact ⟨N,NwF.keepBox hN hb⟩⟩
theorem NwF.three (h:NwF W1 n L H a b c d v1 v2 v3 v4 w) (hn:n<=1048576):NwF W1 n L H a b true d v1 v2 (.slice (some ⟨w.heap.size,0,none⟩) n n) v4 (w.alloc (.cells (madeCells #[.slice none 0 0] n) 75)):=by
 obtain ⟨k,h1,h2,-,h4⟩:=h.ow
 have hs:=h.be.size
 have hb:=zQ w (.cells (madeCells #[.slice none 0 0] n) 75)
 exact ⟨h.be.trans (hb.mono hs), rcol k w.heap.size 4, fun e => by
  obtain ⟨u,o⟩:=h1 e
  exact ⟨u,(o.mono fun j hj hl=>hj.old hl).below hb⟩,fun e=>((h2 e).mono fun j hj hl=>hj.old hl).below hb,fun _=>ZL.made _ w _ ⟨hs,qah (Nat.le_refl _)⟩ _ hn,fun e=>by
  obtain ⟨N,hN⟩:=h4 e
  exact ⟨N,NwF.keepBox hN hb⟩⟩
theorem NwF.four (h:NwF W1 n L H a b c d v1 v2 v3 v4 w):NwF W1 n L H a b c true v1 v2 v3 (.pointer (some ⟨w.heap.size,0,none⟩)) (w.alloc (zQ2)):=by
 obtain ⟨k,h1,h2,h3,-⟩:=h.ow
 have hs:=h.be.size
 have hb:=zQ w (zQ2)
 exact ⟨h.be.trans (hb.mono hs), rcol k w.heap.size 0, fun e => by
  obtain ⟨u,o⟩:=h1 e
  exact ⟨u,(o.mono fun j hj hl=>hj.old hl).below hb⟩,fun e=>((h2 e).mono fun j hj hl=>hj.old hl).below hb,fun e=>((h3 e).mono fun j hj hl=>hj.old hl).below hb,fun _=>⟨_,rfl,hs,BoxC.new w _ _ _ _ _,fun j=>yB _ _ _ _ rfl,qah (Nat.le_refl _)⟩⟩
end
structure NwS (W1:World) (N n:Nat) (L:Nat->Nat) (H:Nat->Nat->I5) (own:Bool) (k:Nat) (w:World) (vp vs vw vh:Value) (c:Nat->Nat) (up us:Nat->Value):Prop where
 be:Below W1.heap.size W1 w
 bx:BoxC w N vp vs vw vh
 fr:∀ j,w.frozen? ⟨N,j,none⟩=false
 bN:W1.heap.size<=N
 cN:c N=0
 p:own=true->LI true w (Cl W1.heap.size c 1) vp n up L H
 s:LS w (Cl W1.heap.size c 2) vs k us fun _=>newS
 t:ZL 136 w (Cl W1.heap.size c 3) vw (n*n)
 h:ZL 75 w (Cl W1.heap.size c 4) vh n
section
variable {W1:World} {N n:Nat} {L:Nat->Nat} {H:Nat->Nat->I5} {own:Bool} {k:Nat} {w:World} {vp vs vw vh:Value} {c:Nat->Nat} {up us:Nat->Value}
theorem NwS.lt (h:NwS W1 N n L H own k w vp vs vw vh c up us):N<w.heap.size:=zJ w _ h.bx.1
theorem NwS.below {w':World} (h:NwS W1 N n L H own k w vp vs vw vh c up us) (hb:Below w.heap.size w w'):NwS W1 N n L H own k w' vp vs vw vh c up us:=
 ⟨h.be.trans (hb.mono h.be.size),h.bx.below hb,fun j=>((qam hb).2 _ j h.lt).trans (h.fr j),h.bN,h.cN,fun e=>(h.p e).below hb,h.s.below hb,h.t.below hb,h.h.below hb⟩
theorem NwS.start {a:Bool} {v1 v2 v3 v4:Value} (h:NwF W1 n L H own true true true v1 v2 v3 v4 w) (ho:own=a) (_hvp:a=true\/True):∃ N c up us,v4=.pointer (some ⟨N,0,none⟩)/\N<w.heap.size/\BoxC w N (.slice none 0 0) (.slice none 0 0) (.slice none 0 0) (.slice none 0 0)/\(∀ j,w.frozen? ⟨N,j,none⟩=false)/\NwS W1 N n L H own 0 ((((w.setCell ⟨N,0,none⟩ v1).setCell ⟨N,1,none⟩ (.slice none 0 0)).setCell ⟨N,2,none⟩ v2).setCell ⟨N,3,none⟩ v3) v1 (.slice none 0 0) v2 v3 c up us:=by
 obtain ⟨k,h1,h2,h3,h4⟩:=h.ow
 obtain ⟨N,e,hN,bx,fr,cN⟩:=h4 rfl
 have hl:=zJ w _ bx.1
 have hk:∀ i,i≠0->∀ j,Cl W1.heap.size k i j->j<w.heap.size->((((w.setCell ⟨N,0,none⟩ v1).setCell ⟨N,1,none⟩ (.slice none 0 0)).setCell ⟨N,2,none⟩ v2).setCell ⟨N,3,none⟩ v3).heap[j]? = w.heap[j]?:=fun i hi j hj _=>by
  have hne:j≠N:=fun e=>hi (by rw [<- hj.2,e,cN])
  exact (zO _ _ _ _ hne).trans ((zO _ _ _ _ hne).trans ((zO _ _ _ _ hne).trans (zO _ _ _ _ hne)))
 obtain ⟨u,hu⟩:∃ u,own=true->LI true w (Cl W1.heap.size k 1) v1 n u L H:=by
  cases own with
  | false=>exact ⟨fun _=>.slice none 0 0,fun e=>by cases e⟩
  | true=>obtain ⟨u,o⟩:=h1 rfl;exact ⟨u,fun _=>o⟩
 obtain ⟨g0,g1,g2,g3⟩:=id bx
 exact ⟨N,k,u,fun _=>.slice none 0 0,e,hl,bx,fr,(((h.be.setCell hN _).setCell hN _).setCell hN _).setCell hN _,BoxC.set4 ⟨g0,g1,g2,g3⟩ _ _ _ _,fun j=>by simp only [World.frozen?_setCell];exact fr j,hN,cN,fun e=>(hu e).keep (hk 1 (by decide)),LS.nil _ _ _ _,(h2 rfl).keep (hk 3 (by decide)),(h3 rfl).keep (hk 4 (by decide))⟩
theorem NwS.push (h:NwS W1 N n L H own k w vp vs vw vh c up us) {w1 w3:World} {u' v':Value} (b1:Below w.heap.size w w1) (hu:qag w1 w.heap.size u' 0 [0,0,0,0] [] 0) (hv:w3.ownsRow 0 133 4 v' (k+1) (flat (fun i=>cellsL (us i)) k ++ cellsL u')) (g:w1.grownBy w3 vs.ownBlock) (hv':∀ j,v'.ownBlock=some j->vs.ownBlock=some j\/w1.heap.size<=j):
  NwS W1 N n L H own (k+1) (w3.setCell ⟨N,1,none⟩ v') vp v' vw vh (rcol c w.heap.size 2) up (fun j=>if j=k then u' else us j):=by
 have hN:=h.lt
 have hB:=h.be.size
 have hkeep:∀ j,j<w.heap.size->c j≠2->w3.heap[j]? = w.heap[j]?:=fun j hk hc=>(g.block j (zL hk b1.size) fun e=>hc (h.s.rb j e.symm).2).trans (b1.block j hk)
 have hset:∀ j,j≠N->(w3.setCell ⟨N,1,none⟩ v').heap[j]? = w3.heap[j]?:=fun j hk=>zO _ _ _ _ hk
 have hcN:rcol c w.heap.size 2 N=0:=(qar hN).trans h.cN
 have hBN:w3.heap[N]? = w.heap[N]?:=hkeep N hN (by rw [h.cN];decide)
 have hkk:∀ i,i≠2->i≠0->∀ j,Cl W1.heap.size (rcol c w.heap.size 2) i j->j<w.heap.size->(w3.setCell ⟨N,1,none⟩ v').heap[j]? = w.heap[j]?:=fun i h2 h0 j hk hl=>by
  have e:c j=i:=(qar hl).symm.trans hk.2
  exact (hset j fun en=>h0 (by rw [<- e,en,h.cN])).trans (hkeep j hl (by rw [e];exact h2))
 have hP:∀ i j,Cl W1.heap.size c i j->j<w.heap.size->Cl W1.heap.size (rcol c w.heap.size 2) i j:=fun i j hk hl=>hk.old hl
 have hP':∀ j,w.heap.size<=j->j<w3.heap.size->Cl W1.heap.size (rcol c w.heap.size 2) 2 j:=fun j hk _=>⟨zP hB hk,qah hk⟩
 obtain ⟨x0,x1,x2,x3⟩:=h.bx
 have hc:∀ j,w3.cell? ⟨N,j,none⟩=w.cell? ⟨N,j,none⟩:=fun j=>zH hBN
 have hnew:∀ j,Cl W1.heap.size (rcol c w.heap.size 2) 2 j->j<w3.heap.size->(w3.setCell ⟨N,1,none⟩ v').heap[j]? = w3.heap[j]?:=fun j hk _=>hset j fun e=>by
  have e2:=hk.2
  rw [e,hcN] at e2
  cases e2
 have hbe:Below W1.heap.size W1 w3:=Below.grown (h.be.trans (b1.mono hB)) g (zP hB b1.size) fun j hj=>(h.s.rb j hj).1
 refine ⟨hbe.setCell h.bN _,⟨?_,?_,?_,?_⟩,fun j=>?_,h.bN,hcN,fun e=>?_,?_,?_,?_⟩
 ·rw [World.cell?_setCell_other _ _ _ _ (by simp),hc];exact x0
 ·exact World.cell?_setCell_same _ _ _ ((hc 1).trans x1)
 ·rw [World.cell?_setCell_other _ _ _ _ (by simp),hc];exact x2
 ·rw [World.cell?_setCell_other _ _ _ _ (by simp),hc];exact x3
 ·rw [World.frozen?_setCell,zI hBN];exact h.fr j
 ·exact ((h.p e).mono (hP 1)).keep (hkk 1 (by decide) (by decide))
 ·exact (h.s.push b1 hu hv g hv' (hP 2) hP').keep hnew
 ·exact (h.t.mono (hP 3)).keep (hkk 3 (by decide) (by decide))
 ·exact (h.h.mono (hP 4)).keep (hkk 4 (by decide) (by decide))
theorem NwS.own1 (h:NwS W1 N n L H true k w vp vs vw vh c up us) (hk:k=n):Own1 w W1.heap.size w.heap.size n L H vp vs vw vh:=by
 subst hk
 exact ⟨rcol c w.heap.size 0,up,us,⟨(h.p rfl).mono fun j hj hl=>hj.old hl,h.s.mono fun j hj hl=>hj.old hl,h.t.mono fun j hj hl=>hj.old hl,h.h.mono fun j hj hl=>hj.old hl⟩,fun b hb=>qah hb⟩
theorem Own1.out4 {B T M:Nat} (o:Own1 w B T n L H vp vs vw vh) (hM:M<B) (a1 a2 a3 a4:Value):Own1 ((((w.setCell ⟨M,0,none⟩ a1).setCell ⟨M,1,none⟩ a2).setCell ⟨M,2,none⟩ a3).setCell ⟨M,3,none⟩ a4) B T n L H vp vs vw vh:=by
 have t:=(((qac.refl (fun b=>b=M) w).trans (qac.of_set (P:=fun b=>b=M) _ (a:=⟨M,0,none⟩) rfl a1)).trans (qac.of_set (P:=fun b=>b=M) _ (a:=⟨M,1,none⟩) rfl a2)).trans (qac.of_set (P:=fun b=>b=M) _ (a:=⟨M,2,none⟩) rfl a3)
 exact o.touch (t.trans (qac.of_set (P:=fun b=>b=M) _ (a:=⟨M,3,none⟩) rfl a4)) fun b e=>.inr (by omega)
theorem Own1.base {B B' T T':Nat} (o:Own1 w B T n L H vp vs vw vh) (hB:B'<=B) (hT:T'=T):Own1 w B' T' n L H vp vs vw vh:=by
 subst hT
 obtain ⟨c,up,us,o,h⟩:=o
 exact ⟨c,up,us,⟨o.p.mono fun j hj _=>⟨zP hB hj.1,hj.2⟩,o.s.mono fun j hj _=>⟨zP hB hj.1,hj.2⟩,o.t.mono fun j hj _=>⟨zP hB hj.1,hj.2⟩,o.h.mono fun j hj _=>⟨zP hB hj.1,hj.2⟩⟩,h⟩
def nwX (pa:Option Addr) (n pc:Nat) (A:Nat->Option Addr) (L C:Nat->Nat) (H:Nat->Nat->I5) (vs vw vh:Value) (us:Nat->Value):SysIn:=
 ⟨pa,n,pc,A,L,C,H,adOf vs,n,cpOf vs,fun i=>⟨0,adOf (fdOf (us i) 1),cpOf (fdOf (us i) 1),[0,0,0,0],adOf (fdOf (us i) 2),cpOf (fdOf (us i) 2),[],0⟩,adOf vw,n*n,cpOf vw,fun _=>none,fun _=>0,fun _=>0,fun _ _=>⟨false,0⟩,adOf vh,n,cpOf vh,fun _=>none,fun _=>0,fun _=>0,fun _ _=>⟨0,0,0⟩⟩
theorem qxl {P1 P3 P4:Nat->Prop} {pa:Option Addr} {pc:Nat} {A:Nat->Option Addr} {C:Nat->Nat} (hs:LS w P1 vs n us fun _=>newS) (ht:ZL 136 w P3 vw (n*n)) (hh:ZL 75 w P4 vh n) (hr:RowS w pa n fun i=>.slice (A i) (L i) (C i)) (hI:∀ i,i<n->∃ b,A i=some ⟨b,0,none⟩/\b<w.heap.size/\qaj w b 0 (L i) (H i)):SysG w (nwX pa n pc A L C H vs vw vh us):=by
 refine ⟨hr,hI,⟨?_,fun i hi=>?_⟩,ht.rowS,fun i hi=>.inl rfl,hh.rowS,fun i hi=>.inl rfl⟩
 ·rcases Nat.eq_zero_or_pos n with h0 | h0
  ·exact .inl h0
  ·obtain ⟨g,cap,rfl,-,hg,-,-⟩:=hs.cell h0
   refine .inr ⟨g,0,rfl,hg,fun i hi=>?_⟩
   obtain ⟨g',cap',ew,-,-,hc,-⟩:=hs.cell hi
   simp only [Value.slice.injEq,Option.some.injEq,Addr.mk.injEq,and_true,true_and] at ew
   obtain ⟨rfl,rfl⟩:=ew
   obtain ⟨ra,rc,oa,oc,eu,h0,h1,h2,h3⟩:=hc
   show w.cell? ⟨g,0+i*4,none⟩=some (.int .i64 0)/\w.cell? ⟨g,0+i*4+1,none⟩=some (.slice (adOf (fdOf (us i) 1)) 4 (cpOf (fdOf (us i) 1)))/\w.cell? ⟨g,0+i*4+2,none⟩=some (.slice (adOf (fdOf (us i) 2)) 0 (cpOf (fdOf (us i) 2)))/\w.cell? ⟨g,0+i*4+3,none⟩=some (.int .i64 0)
   rw [Nat.zero_add,eu]
   exact ⟨h0,h1,h2,h3⟩
 ·obtain ⟨g,cap,-,-,-,⟨ra,rc,oa,oc,eu,-⟩,-⟩:=hs.cell hi
  have h4:=hs.own i hi
  rw [eu] at h4
  show Sl w (adOf (fdOf (us i) 1)) [0,0,0,0]/\Sl w (adOf (fdOf (us i) 2)) []
  rw [eu]
  exact ⟨h4.parts.1.slOf,h4.parts.2.1.slOf⟩
theorem NwS.g {pa:Option Addr} {pc:Nat} {A:Nat->Option Addr} {C:Nat->Nat} (h:NwS W1 N n L H own n w vp vs vw vh c up us) (hr:RowS w pa n fun i=>.slice (A i) (L i) (C i)) (hI:∀ i,i<n->∃ b,A i=some ⟨b,0,none⟩/\b<w.heap.size/\qaj w b 0 (L i) (H i)):SysG w (nwX pa n pc A L C H vs vw vh us):=
 qxl h.s h.t h.h hr hI
theorem qt1 {pa:Option Addr} {pc:Nat} {A:Nat->Option Addr} {C:Nat->Nat} (hn:n<=4) (hL:∀ i,i<n->L i<=1048576):(nwX pa n pc A L C H vs vw vh us).Len:=by
 have h16:n*n<=16:=zP (Nat.mul_le_mul hn hn) (by omega)
 exact ⟨⟨by show n<=1048576;omega,hL⟩,⟨by show n<=1048576;omega,fun i _=>⟨by show 4<=1048576;omega,by show 0<=1048576;omega⟩⟩,⟨by show n*n<=1048576;omega,fun i _=>Nat.zero_le _⟩,⟨by show n<=1048576;omega,fun i _=>Nat.zero_le _⟩⟩
end
theorem LL.weak {z:Bool} {e:TypeId} {sz:Nat} {E:TypeId} {w:World} {P:Nat->Prop} {v:Value} {n:Nat} {u:Nat->Value} {L:Nat->Nat} {c:Nat->List Value} (o:LL z e sz E w P v n u L c):LL false e sz E w P v n u L c:=
 ⟨o.row,o.own,o.rb,o.ob,o.ra,o.oa,fun h i hi=>o.nn (h.elim (fun h=>by cases h) .inr) i hi⟩
theorem OwnS.weak {z:Bool} {w:World} {B:Nat} {c:Nat->Nat} {y:Sy} {vp vs vw vh:Value} {up us uw uh:Nat->Value} (o:OwnS z w B c y vp vs vw vh up us uw uh):OwnS false w B c y vp vs vw vh up us uw uh:=⟨o.p.weak,o.s,o.t.weak,o.h.weak⟩
theorem ZL.ll {e:TypeId} {sz:Nat} {E:TypeId} {w:World} {P:Nat->Prop} {v:Value} {n:Nat} (o:ZL E w P v n) (he:e≠115) (c:Nat->List Value) (hc:∀ i,c i=[]):LL false e sz E w P v n (fun _=>.slice none 0 0) (fun _=>0) c:=
 ⟨(by rw [List.map_const'];simpa using o.row),fun i _=>by rw [hc];exact World.ownsRow_nil _ _ _ _,o.rb,fun i _ k hk=>(by cases hk),fun i _ k hk=>(by cases hk),fun i j _ _ _ k hk=>(by cases hk),fun h _ _=>h.elim (fun h=>by cases h) (fun h=>absurd h he)⟩
