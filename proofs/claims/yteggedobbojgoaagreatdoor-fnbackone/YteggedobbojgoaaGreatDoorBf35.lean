import Derived.Test.YteggedobbojgoaaGreatDoorBf34
import Derived.Test.YteggedobbojgoaaGreatDoorTie
import Derived.ChangeSame
import Derived.ChangeVars
import Derived.JoinedOf
import Derived.RowKit
import Derived.LaidLaws
import Derived.LaidHandle
import Derived.Stop.Joined
namespace Go.Proofs.YteggedobbojgoaaGreatDoor
open Go.ChangeShapes Go.WideShapes Go.ChangeAt Go.RowKit Go.Deep
section
variable {P:Program} {ops:Array Oper} {Q:Exit->Act->World->Prop} {md:Region.Mode} {S:World->Prop} {G:Nat->Bool}
def notB (b:Bool):Nat:=bif b then 0 else 1
def outI (b:Bool) (i:Nat):List Nat:=bif b then [] else [i]
theorem qdn {b:Bool} {i j:Nat} (h:j ∈ outI b i):b=false/\j=i:=by
 cases b with
 | true=>cases h
 | false=>exact ⟨rfl,List.mem_singleton.1 h⟩
theorem qt4 (lst:Bool->Bool->Bool->Bool->Bool->Array Bool) (i1 i2 i3 i4 i5:Nat) {o5:Oper} (I:Bool->Bool->Bool->Bool->Act->World->Prop) (J:Bool->Act->World->Prop) {f0:Nat}
  (hrd:∀ a b c d,(a && b && c)=false->Region.ready md ops (lst a b c d false)=outI a i1 ++ (outI b i2 ++ (outI c i3 ++ outI d i4)))
  (s1:∀ b c d,(lst false b c d false).setIfInBounds i1 true=lst true b c d false) (s2:∀ a c d,(lst a false c d false).setIfInBounds i2 true=lst a true c d false) (s3:∀ a b d,(lst a b false d false).setIfInBounds i3 true=lst a b true d false) (s4:∀ a b c e,(lst a b c false e).setIfInBounds i4 true=lst a b c true e) (s5:∀ d,(lst true true true d false).setIfInBounds i5 true=lst true true true d true)
  (e5:ops.toList[i5]? = some o5) (hs:Region.noSelect ops=true) (hf:∀ d,Region.free md ops (lst true true true d false) i5=true) (hr5:∀ d,(Region.ready md ops (lst true true true d false)).contains i5=true) (hrJ:Region.ready md ops (lst true true true false true)=[i4]) (hQ:∀ v c a w,Q (.panic c) (a.put o5.dst v) w->Q (.panic c) a w)
  (h1:∀ b c d x w,I false b c d x w->wpOp P ops Q i1 (fun x' w'=>(S w->G i1=false->S w')/\I true b c d x' w') x w) (h2:∀ a c d x w,I a false c d x w->wpOp P ops Q i2 (fun x' w'=>(S w->G i2=false->S w')/\I a true c d x' w') x w)
  (h3:∀ a b d x w,I a b false d x w->wpOp P ops Q i3 (fun x' w'=>(S w->G i3=false->S w')/\I a b true d x' w') x w) (h4:∀ a b c x w,I a b c false x w->wpOp P ops Q i4 (fun x' w'=>(S w->G i4=false->S w')/\I a b c true x' w') x w)
  (h5:∀ d x w,I true true true d x w->Region.wanted o5 (yielded ops x.tmps)=true/\∃ v,(∀ w,(execOp x.eval o5).run P w=.ok (.value v) w)/\J d (x.put o5.dst v) w)
  (hJ:∀ x w,J false x w->wpOp P ops Q i4 (fun x' w'=>(S w->G i4=false->S w')/\J true x' w') x w)
  (hend:∀ x w,J true x w->wpG P md ops Q S G f0 (lst true true true true true) x w):
  ∀ (m:Nat) (a b c d:Bool) (x:Act) (w:World),notB a+notB b+notB c+notB d=m->I a b c d x w->wpG P md ops Q S G (f0+m+1) (lst a b c d false) x w:=by
 intro m
 induction m with
 | zero=>
  intro a b c d x w hm hI
  obtain ⟨rfl,rfl,rfl,rfl⟩:a=true/\b=true/\c=true/\d=true:=by
   cases a <;> cases b <;> cases c <;> cases d <;> simp [notB] at hm ⊢
  obtain ⟨hw,v,hv,hj⟩:=h5 _ x w hI
  exact qeb i5 e5 hs (hf _) (hr5 _) hQ hw ⟨v,hv,by rw [s5];exact hend _ _ hj⟩
 | succ m ih=>
  intro a b c d x w hm hI
  rcases zK (a && b && c) with hT | hne
  ·obtain ⟨rfl,rfl,rfl⟩:a=true/\b=true/\c=true:=by
    cases a <;> cases b <;> cases c <;> simp at hT ⊢
   obtain ⟨rfl,rfl⟩:d=false/\m=0:=by
    cases d <;> simp [notB] at hm ⊢ <;> exact hm
   obtain ⟨hw,v,hv,hj⟩:=h5 _ x w hI
   refine qeb i5 e5 hs (hf _) (hr5 _) hQ hw ⟨v,hv,?_⟩
   rw [s5]
   refine ⟨(fun h0=>by rw [hrJ] at h0;cases h0),fun i hi=>?_⟩
   rw [hrJ] at hi
   obtain rfl:=List.mem_singleton.1 hi
   refine wpOp_mono (fun x' w' h=>⟨h.1,?_⟩) (hJ _ _ hj)
   rw [s4]
   exact hend _ _ h.2
  have hr:=hrd a b c d hne
  refine ⟨fun h0=>?_,fun i hi=>?_⟩
  ·rw [hr] at h0
   cases a <;> cases b <;> cases c <;> cases d <;> simp [outI] at h0 hne
  ·rw [hr,List.mem_append,List.mem_append,List.mem_append] at hi
   rcases hi with hi | hi | hi | hi
   ·obtain ⟨rfl,rfl⟩:=qdn hi
    refine wpOp_mono (fun x' w' h=>⟨h.1,?_⟩) (h1 b c d x w hI)
    rw [s1]
    exact ih true b c d x' w' (by simp [notB] at hm ⊢;omega) h.2
   ·obtain ⟨rfl,rfl⟩:=qdn hi
    refine wpOp_mono (fun x' w' h=>⟨h.1,?_⟩) (h2 a c d x w hI)
    rw [s2]
    exact ih a true c d x' w' (by simp [notB] at hm ⊢;omega) h.2
   ·obtain ⟨rfl,rfl⟩:=qdn hi
    refine wpOp_mono (fun x' w' h=>⟨h.1,?_⟩) (h3 a b d x w hI)
    rw [s3]
    exact ih a b true d x' w' (by simp [notB] at hm ⊢;omega) h.2
   ·obtain ⟨rfl,rfl⟩:=qdn hi
    refine wpOp_mono (fun x' w' h=>⟨h.1,?_⟩) (h4 a b c x w hI)
    rw [s4]
    exact ih a b c true x' w' (by simp [notB] at hm ⊢;omega) h.2
end
structure ZL (E:TypeId) (w:World) (P:Nat->Prop) (v:Value) (n:Nat):Prop where
 row:w.ownsRow 0 E 1 v n (List.replicate n (.slice none 0 0))
 rb:∀ k,v.ownBlock=some k->P k
section
variable {E:TypeId} {w w':World} {P:Nat->Prop} {v:Value} {n:Nat}
theorem ZL.keep (o:ZL E w P v n) (hb:∀ k,P k->k<w.heap.size->w'.heap[k]? = w.heap[k]?):ZL E w' P v n:=⟨qat o.row fun k hk=>hb k (o.rb k hk) (o.row.lt k hk).2,o.rb⟩
theorem ZL.below (o:ZL E w P v n) (hb:Bw w w'):ZL E w' P v n:=o.keep fun k _ hk=>hb.block k hk
theorem ZL.mono (o:ZL E w P v n) {P':Nat->Prop} (h:∀ k,P k->k<w.heap.size->P' k):ZL E w P' v n:=⟨o.row,fun k hk=>h k (o.rb k hk) (o.row.lt k hk).2⟩
theorem ZL.nil (E:TypeId) (w:World) (P:Nat->Prop):ZL E w P (.slice none 0 0) 0:=⟨World.ownsRow_nil _ _ _ _,fun k hk=>by cases hk⟩
theorem ZL.cell (o:ZL E w P v n) {i:Nat} (hi:i<n):∃ g cap,v=.slice (some (aQ g 0)) n cap/\g<w.heap.size/\w.cell? (aQ g i)=some (.slice none 0 0):=by
 rcases o.row.2 with ⟨_,h0⟩ | ⟨g,cap,cur,rfl,hb,hg,hr⟩
 ·omega
 ·refine ⟨g,cap,rfl,(o.row.lt g rfl).2,?_⟩
  rw [o.row.cellAt i (by omega)]
  simp [hi]
theorem ZL.rowS (o:ZL E w P v n):RowS w (adOf v) n fun _=>.slice none 0 0:=by
 rcases Nat.eq_zero_or_pos n with h | h
 ·exact .inl h
 ·obtain ⟨g,cap,rfl,hg,-⟩:=o.cell h
  refine .inr ⟨g,0,rfl,hg,fun i hi=>?_⟩
  obtain ⟨g',cap',ew,-,hc⟩:=o.cell hi
  simp only [Value.slice.injEq,Option.some.injEq,Addr.mk.injEq,and_true,true_and] at ew
  obtain ⟨rfl,rfl⟩:=ew
  rw [Nat.zero_add]
  exact hc
end
theorem qdp {t e:TypeId} {bytes:Nat} (K:Kind t e 1 bytes) (hz0:(Tryz.prog.info? e).bind (·.zero)=some (.slice none 0 0)) (n:Nat) (hn:n<=1048576) (w:World):(Instr.makeSlice t (.int .i64 (n:Int)) (.int .i64 (n:Int))).run Tryz.prog w=.ok (.slice (some (aQ w.heap.size 0)) n n) (w.alloc (.cells (madeCells #[.slice none 0 0] n) e)):=by
 obtain ⟨i,z,hi,hz,hs,hb,hzs⟩:=K.inf
 have hz':z=.slice none 0 0:=by
  rw [hi] at hz0
  simp only [Option.bind_some,hz,Option.some.injEq] at hz0
  exact hz0
 subst hz'
 have hby:i.bytes*n<=281474976710656:=by
  rw [hb]
  exact zP (Nat.mul_le_mul K.sml hn) (by omega)
 have hby':(i.bytes:Int)*(n:Int)<=281474976710656:=by rw [<- Int.natCast_mul];exact Int.ofNat_le.2 hby
 have h:=run_make (P:=Tryz.prog) w t e i (.slice none 0 0) K.und hi hz .i64 .i64 (n:Int) (n:Int) (by omega) (by omega) hby' (by omega)
 rw [hs,Nat.mul_one,Int.toNat_natCast] at h
 exact h
theorem ZL.made (E:TypeId) (w:World) (P:Nat->Prop) (hP:P w.heap.size) (n:Nat) (hn:n<=1048576):ZL E (w.alloc (.cells (madeCells #[.slice none 0 0] n) E)) P (.slice (some (aQ w.heap.size 0)) n n) n:=by
 have hc:(madeCells #[Value.slice none 0 0] n).toList=List.replicate n (.slice none 0 0):=by
  apply List.ext_getElem?
  intro i
  by_cases h:i<n
  ·simp [madeCells,h,Nat.mod_one]
  ·simp [madeCells,h]
 refine ⟨⟨by simp,.inr ⟨w.heap.size,n,madeCells #[.slice none 0 0] n,rfl,Nat.zero_le _,Array.getElem?_push_size,Nat.le_refl _,by unfold maxLen;omega,by simp [size_madeCells],?_⟩⟩,fun k hk=>by cases hk;exact hP⟩
 rw [hc,Nat.mul_one]
 simp
def nwY (n:Nat) (L:Nat->Nat) (H:Nat->Nat->I5):Sy:=⟨n,L,H,n,fun _=>newS,n*n,fun _=>0,fun _ _=>⟨false,0⟩,n,fun _=>0,fun _ _=>⟨0,0,0⟩⟩
noncomputable def snB (n:Nat) (L:Nat->Nat) (H:Nat->Nat->I5):Bool:=decide (n<=4) && (nwY n L H).okB
structure OwnN (w:World) (c:Nat->Nat) (B n:Nat) (L:Nat->Nat) (H:Nat->Nat->I5) (vp vs vw vh:Value) (up us:Nat->Value):Prop where
 p:LI true w (Cl B c 1) vp n up L H
 s:LS w (Cl B c 2) vs n us fun _=>newS
 t:ZL 59 w (Cl B c 3) vw (n*n)
 h:ZL 33 w (Cl B c 4) vh n
def Own1 (w:World) (B T n:Nat) (L:Nat->Nat) (H:Nat->Nat->I5) (vp vs vw vh:Value):Prop:=∃ c up us,OwnN w c B n L H vp vs vw vh up us/\∀ b,T<=b->c b=0
theorem Own1.below {w w':World} {B T n:Nat} {L:Nat->Nat} {H:Nat->Nat->I5} {vp vs vw vh:Value} (o:Own1 w B T n L H vp vs vw vh) (hb:Bw w w'):Own1 w' B T n L H vp vs vw vh:=by
 obtain ⟨c,up,us,o,h⟩:=o
 exact ⟨c,up,us,⟨o.p.below hb,o.s.below hb,o.t.below hb,o.h.below hb⟩,h⟩
theorem Own1.touch {w w':World} {B T n:Nat} {L:Nat->Nat} {H:Nat->Nat->I5} {vp vs vw vh:Value} {P:Nat->Prop} (o:Own1 w B T n L H vp vs vw vh) (ht:qau P w w') (hp:∀ b,P b->T<=b\/b<B):Own1 w' B T n L H vp vs vw vh:=by
 obtain ⟨c,up,us,o,h⟩:=o
 have hk:∀ i,i≠0->∀ k,Cl B c i k->k<w.heap.size->w'.heap[k]? = w.heap[k]?:=fun i hi k hk hl=>ht.block k hl fun e=>by
  rcases hp k e with h1 | h1
  ·exact hi (hk.2.symm.trans (h k h1))
  ·have:=hk.1
   omega
 exact ⟨c,up,us,⟨o.p.keep (hk 1 (by decide)),o.s.keep (hk 2 (by decide)),o.t.keep (hk 3 (by decide)),o.h.keep (hk 4 (by decide))⟩,h⟩
theorem Own1.zero (w:World) (B T:Nat) (L:Nat->Nat) (H:Nat->Nat->I5):Own1 w B T 0 L H (.slice none 0 0) (.slice none 0 0) (.slice none 0 0) (.slice none 0 0):=
 ⟨fun _=>0,fun _=>.slice none 0 0,fun _=>.slice none 0 0,⟨LL.nil _ _ _ _ _ _ _ _,LS.nil _ _ _ _,ZL.nil _ _ _,ZL.nil _ _ _⟩,fun _ _=>rfl⟩
theorem qot {P:Program} {ops:Array Oper} {Q:Exit->Act->World->Prop} {md:Region.Mode} {S:World->Prop} {G:Nat->Bool} {fuel:Nat} {l:Array Bool} {a:Act} {w:World} (fuel':Nat) (l':Array Bool) (hf:fuel'=fuel) (hl:l'=l) (h:wpG P md ops Q S G fuel' l' a w):wpG P md ops Q S G fuel l a w:=by
 subst hf
 subst hl
 exact h
theorem qq8:(Tryz.prog.info? 59).bind (·.zero)=some (.slice none 0 0):=by kernel_rfl
theorem qs4:(Tryz.prog.info? 33).bind (·.zero)=some (.slice none 0 0):=by kernel_rfl
structure NwF (W1:World) (n:Nat) (L:Nat->Nat) (H:Nat->Nat->I5) (a b c d:Bool) (v1 v2 v3 v4:Value) (w:World):Prop where
 be:Bw W1 w
 ow:∃ k:Nat->Nat,(a=true->∃ u,LI true w (Cl W1.heap.size k 1) v1 n u L H)/\(b=true->ZL 59 w (Cl W1.heap.size k 3) v2 (n*n))/\(c=true->ZL 33 w (Cl W1.heap.size k 4) v3 n)/\(d=true->∃ N,v4=.pointer (some ⟨N,0,none⟩)/\W1.heap.size<=N/\BoxC w N (.slice none 0 0) (.slice none 0 0) (.slice none 0 0) (.slice none 0 0)/\(∀ j,w.frozen? ⟨N,j,none⟩=false)/\k N=0)
section
variable {W1:World} {n:Nat} {L:Nat->Nat} {H:Nat->Nat->I5} {a b c d:Bool} {v1 v2 v3 v4:Value} {w w':World}
theorem NwF.keepBox {N:Nat} {k:Nat->Nat} {q:Nat} (h:v4=.pointer (some ⟨N,0,none⟩)/\W1.heap.size<=N/\BoxC w N (.slice none 0 0) (.slice none 0 0) (.slice none 0 0) (.slice none 0 0)/\(∀ j,w.frozen? ⟨N,j,none⟩=false)/\k N=0) (hb:Bw w w'):v4=.pointer (some ⟨N,0,none⟩)/\W1.heap.size<=N/\BoxC w' N (.slice none 0 0) (.slice none 0 0) (.slice none 0 0) (.slice none 0 0)/\(∀ j,w'.frozen? ⟨N,j,none⟩=false)/\rcol k w.heap.size q N=0:=by
 have hl:=zJ w _ h.2.2.1.1
 exact ⟨h.1,h.2.1,h.2.2.1.below hb,fun j=>((qah hb).2 _ j hl).trans (h.2.2.2.1 j),(qa7 hl).trans h.2.2.2.2⟩
theorem NwF.one (h:NwF W1 n L H a b c d v1 v2 v3 v4 w) {v:Value} {u:Nat->Value} (o:LI true w' (fun k=>w.heap.size<=k/\k<w'.heap.size) v n u L H) (hb:Bw w w'):NwF W1 n L H true b c d v v2 v3 v4 w':=by
 obtain ⟨k,-,h2,h3,h4⟩:=h.ow
 have hs:=h.be.size
 exact ⟨h.be.trans (hb.mono hs), rcol k w.heap.size 1, fun _ => ⟨u, o.mono fun j hj _ => ⟨Nat.le_trans hs hj.1, qak hj.1⟩⟩, fun e => ((h2 e).mono fun j hj hl => hj.old hl).below hb, fun e => ((h3 e).mono fun j hj hl => hj.old hl).below hb, fun e => by
  obtain ⟨N,hN⟩:=h4 e
  exact ⟨N,NwF.keepBox hN hb⟩⟩
theorem NwF.two (h:NwF W1 n L H a b c d v1 v2 v3 v4 w) (hn:n*n<=1048576):NwF W1 n L H a true c d v1 (.slice (some (aQ w.heap.size 0)) (n*n) (n*n)) v3 v4 (w.alloc (.cells (madeCells #[.slice none 0 0] (n*n)) 59)):=by
 obtain ⟨k,h1,-,h3,h4⟩:=h.ow
 have hs:=h.be.size
 have hb:=zQ w (.cells (madeCells #[.slice none 0 0] (n*n)) 59)
 exact ⟨h.be.trans (hb.mono hs), rcol k w.heap.size 3, fun e => by
  obtain ⟨u,o⟩:=h1 e
  exact ⟨u,(o.mono fun j hj hl=>hj.old hl).below hb⟩,fun _=>ZL.made _ w _ ⟨hs,qak (Nat.le_refl _)⟩ _ hn,fun e=>((h3 e).mono fun j hj hl=>hj.old hl).below hb,fun e=>by
  obtain ⟨N,hN⟩:=h4 e
  exact ⟨N,NwF.keepBox hN hb⟩⟩
theorem NwF.three (h:NwF W1 n L H a b c d v1 v2 v3 v4 w) (hn:n<=1048576):NwF W1 n L H a b true d v1 v2 (.slice (some (aQ w.heap.size 0)) n n) v4 (w.alloc (.cells (madeCells #[.slice none 0 0] n) 33)):=by
 obtain ⟨k,h1,h2,-,h4⟩:=h.ow
 have hs:=h.be.size
 have hb:=zQ w (.cells (madeCells #[.slice none 0 0] n) 33)
 exact ⟨h.be.trans (hb.mono hs), rcol k w.heap.size 4, fun e => by
  obtain ⟨u,o⟩:=h1 e
  exact ⟨u,(o.mono fun j hj hl=>hj.old hl).below hb⟩,fun e=>((h2 e).mono fun j hj hl=>hj.old hl).below hb,fun _=>ZL.made _ w _ ⟨hs,qak (Nat.le_refl _)⟩ _ hn,fun e=>by
  obtain ⟨N,hN⟩:=h4 e
  exact ⟨N,NwF.keepBox hN hb⟩⟩
theorem NwF.four (h:NwF W1 n L H a b c d v1 v2 v3 v4 w):NwF W1 n L H a b c true v1 v2 v3 (.pointer (some (aQ w.heap.size 0))) (w.alloc (zQ3)):=by
 obtain ⟨k,h1,h2,h3,-⟩:=h.ow
 have hs:=h.be.size
 have hb:=zQ w (zQ3)
 exact ⟨h.be.trans (hb.mono hs), rcol k w.heap.size 0, fun e => by
  obtain ⟨u,o⟩:=h1 e
  exact ⟨u,(o.mono fun j hj hl=>hj.old hl).below hb⟩,fun e=>((h2 e).mono fun j hj hl=>hj.old hl).below hb,fun e=>((h3 e).mono fun j hj hl=>hj.old hl).below hb,fun _=>⟨_,rfl,hs,BoxC.new w _ _ _ _ _,fun j=>yB _ _ _ _ rfl,qak (Nat.le_refl _)⟩⟩
end
structure NwS (W1:World) (N n:Nat) (L:Nat->Nat) (H:Nat->Nat->I5) (own:Bool) (k:Nat) (w:World) (vp vs vw vh:Value) (c:Nat->Nat) (up us:Nat->Value):Prop where
 be:Bw W1 w
 bx:BoxC w N vp vs vw vh
 fr:∀ j,w.frozen? ⟨N,j,none⟩=false
 bN:W1.heap.size<=N
 cN:c N=0
 p:own=true->LI true w (Cl W1.heap.size c 1) vp n up L H
 s:LS w (Cl W1.heap.size c 2) vs k us fun _=>newS
 t:ZL 59 w (Cl W1.heap.size c 3) vw (n*n)
 h:ZL 33 w (Cl W1.heap.size c 4) vh n
section
variable {W1:World} {N n:Nat} {L:Nat->Nat} {H:Nat->Nat->I5} {own:Bool} {k:Nat} {w:World} {vp vs vw vh:Value} {c:Nat->Nat} {up us:Nat->Value}
theorem NwS.lt (h:NwS W1 N n L H own k w vp vs vw vh c up us):N<w.heap.size:=zJ w _ h.bx.1
theorem NwS.below {w':World} (h:NwS W1 N n L H own k w vp vs vw vh c up us) (hb:Bw w w'):NwS W1 N n L H own k w' vp vs vw vh c up us:=
 ⟨h.be.trans (hb.mono h.be.size),h.bx.below hb,fun j=>((qah hb).2 _ j h.lt).trans (h.fr j),h.bN,h.cN,fun e=>(h.p e).below hb,h.s.below hb,h.t.below hb,h.h.below hb⟩
theorem NwS.start {a:Bool} {v1 v2 v3 v4:Value} (h:NwF W1 n L H own true true true v1 v2 v3 v4 w) (ho:own=a) (_hvp:a=true\/True):∃ N c up us,v4=.pointer (some ⟨N,0,none⟩)/\N<w.heap.size/\BoxC w N (.slice none 0 0) (.slice none 0 0) (.slice none 0 0) (.slice none 0 0)/\(∀ j,w.frozen? ⟨N,j,none⟩=false)/\NwS W1 N n L H own 0 ((((w.setCell ⟨N,0,none⟩ v1).setCell ⟨N,1,none⟩ (.slice none 0 0)).setCell ⟨N,2,none⟩ v2).setCell ⟨N,3,none⟩ v3) v1 (.slice none 0 0) v2 v3 c up us:=by
 obtain ⟨k,h1,h2,h3,h4⟩:=h.ow
 obtain ⟨N,e,hN,bx,fr,cN⟩:=h4 rfl
 have hl:=zJ w _ bx.1
 have hk:∀ i,i≠0->∀ j,Cl W1.heap.size k i j->j<w.heap.size->((((w.setCell ⟨N,0,none⟩ v1).setCell ⟨N,1,none⟩ (.slice none 0 0)).setCell ⟨N,2,none⟩ v2).setCell ⟨N,3,none⟩ v3).heap[j]? = w.heap[j]?:=fun i hi j hj _=>by
  have hne:j≠N:=fun e=>hi (by rw [<- hj.2,e,cN])
  exact (zO _ _ _ _ hne).trans ((zO _ _ _ _ hne).trans ((zO _ _ _ _ hne).trans (zO _ _ _ _ hne)))
 obtain ⟨u,hu⟩:∃ u,own=true->LI true w (Cl W1.heap.size k 1) v1 n u L H:=by
  cases own with
  | false=>exact ⟨fun _=>.slice none 0 0,fun e=>by cases e⟩
  | true=>obtain ⟨u,o⟩:=h1 rfl;exact ⟨u,fun _=>o⟩
 obtain ⟨g0,g1,g2,g3⟩:=id bx
 exact ⟨N,k,u,fun _=>.slice none 0 0,e,hl,bx,fr,(((h.be.setCell hN _).setCell hN _).setCell hN _).setCell hN _,BoxC.set4 ⟨g0,g1,g2,g3⟩ _ _ _ _,fun j=>by simp only [World.frozen?_setCell];exact fr j,hN,cN,fun e=>(hu e).keep (hk 1 (by decide)),LS.nil _ _ _ _,(h2 rfl).keep (hk 3 (by decide)),(h3 rfl).keep (hk 4 (by decide))⟩
theorem NwS.push (h:NwS W1 N n L H own k w vp vs vw vh c up us) {w1 w3:World} {u' v':Value} (b1:Bw w w1) (hu:qag w1 w.heap.size u' 0 [0,0,0,0] [] 0) (hv:w3.ownsRow 0 51 4 v' (k+1) (flat (fun i=>cellsL (us i)) k ++ cellsL u')) (g:w1.grownBy w3 vs.ownBlock) (hv':∀ j,v'.ownBlock=some j->vs.ownBlock=some j\/w1.heap.size<=j):
  NwS W1 N n L H own (k+1) (w3.setCell (aQ N 1) v') vp v' vw vh (rcol c w.heap.size 2) up (fun j=>if j=k then u' else us j):=by
 have hN:=h.lt
 have hB:=h.be.size
 have hkeep:∀ j,j<w.heap.size->c j≠2->w3.heap[j]? = w.heap[j]?:=fun j hk hc=>(g.block j (zL hk b1.size) fun e=>hc (h.s.rb j e.symm).2).trans (b1.block j hk)
 have hset:∀ j,j≠N->(w3.setCell ⟨N,1,none⟩ v').heap[j]? = w3.heap[j]?:=fun j hk=>zO _ _ _ _ hk
 have hcN:rcol c w.heap.size 2 N=0:=(qa7 hN).trans h.cN
 have hBN:w3.heap[N]? = w.heap[N]?:=hkeep N hN (by rw [h.cN];decide)
 have hkk:∀ i,i≠2->i≠0->∀ j,Cl W1.heap.size (rcol c w.heap.size 2) i j->j<w.heap.size->(w3.setCell ⟨N,1,none⟩ v').heap[j]? = w.heap[j]?:=fun i h2 h0 j hk hl=>by
  have e:c j=i:=(qa7 hl).symm.trans hk.2
  exact (hset j fun en=>h0 (by rw [<- e,en,h.cN])).trans (hkeep j hl (by rw [e];exact h2))
 have hP:∀ i j,Cl W1.heap.size c i j->j<w.heap.size->Cl W1.heap.size (rcol c w.heap.size 2) i j:=fun i j hk hl=>hk.old hl
 have hP':∀ j,w.heap.size<=j->j<w3.heap.size->Cl W1.heap.size (rcol c w.heap.size 2) 2 j:=fun j hk _=>⟨zP hB hk,qak hk⟩
 obtain ⟨x0,x1,x2,x3⟩:=h.bx
 have hc:∀ j,w3.cell? ⟨N,j,none⟩=w.cell? ⟨N,j,none⟩:=fun j=>zH hBN
 have hnew:∀ j,Cl W1.heap.size (rcol c w.heap.size 2) 2 j->j<w3.heap.size->(w3.setCell ⟨N,1,none⟩ v').heap[j]? = w3.heap[j]?:=fun j hk _=>hset j fun e=>by
  have e2:=hk.2
  rw [e,hcN] at e2
  cases e2
 have hbe:Bw W1 w3:=Below.grown (h.be.trans (b1.mono hB)) g (zP hB b1.size) fun j hj=>(h.s.rb j hj).1
 refine ⟨hbe.setCell h.bN _,⟨?_,?_,?_,?_⟩,fun j=>?_,h.bN,hcN,fun e=>?_,?_,?_,?_⟩
 ·rw [World.cell?_setCell_other _ _ _ _ (by simp),hc];exact x0
 ·exact World.cell?_setCell_same _ _ _ ((hc 1).trans x1)
 ·rw [World.cell?_setCell_other _ _ _ _ (by simp),hc];exact x2
 ·rw [World.cell?_setCell_other _ _ _ _ (by simp),hc];exact x3
 ·rw [World.frozen?_setCell,zI hBN];exact h.fr j
 ·exact ((h.p e).mono (hP 1)).keep (hkk 1 (by decide) (by decide))
 ·exact (h.s.push b1 hu hv g hv' (hP 2) hP').keep hnew
 ·exact (h.t.mono (hP 3)).keep (hkk 3 (by decide) (by decide))
 ·exact (h.h.mono (hP 4)).keep (hkk 4 (by decide) (by decide))
theorem NwS.own1 (h:NwS W1 N n L H true k w vp vs vw vh c up us) (hk:k=n):Own1 w W1.heap.size w.heap.size n L H vp vs vw vh:=by
 subst hk
 exact ⟨rcol c w.heap.size 0,up,us,⟨(h.p rfl).mono fun j hj hl=>hj.old hl,h.s.mono fun j hj hl=>hj.old hl,h.t.mono fun j hj hl=>hj.old hl,h.h.mono fun j hj hl=>hj.old hl⟩,fun b hb=>qak hb⟩
theorem Own1.out4 {B T M:Nat} (o:Own1 w B T n L H vp vs vw vh) (hM:M<B) (a1 a2 a3 a4:Value):Own1 ((((w.setCell (aQ M 0) a1).setCell (aQ M 1) a2).setCell (aQ M 2) a3).setCell (aQ M 3) a4) B T n L H vp vs vw vh:=by
 have t:=(((qau.refl (fun b=>b=M) w).trans (qau.of_set (P:=fun b=>b=M) _ (a:=(aQ M 0)) rfl a1)).trans (qau.of_set (P:=fun b=>b=M) _ (a:=(aQ M 1)) rfl a2)).trans (qau.of_set (P:=fun b=>b=M) _ (a:=(aQ M 2)) rfl a3)
 exact o.touch (t.trans (qau.of_set (P:=fun b=>b=M) _ (a:=(aQ M 3)) rfl a4)) fun b e=>.inr (by omega)
theorem Own1.base {B B' T T':Nat} (o:Own1 w B T n L H vp vs vw vh) (hB:B'<=B) (hT:T'=T):Own1 w B' T' n L H vp vs vw vh:=by
 subst hT
 obtain ⟨c,up,us,o,h⟩:=o
 exact ⟨c,up,us,⟨o.p.mono fun j hj _=>⟨zP hB hj.1,hj.2⟩,o.s.mono fun j hj _=>⟨zP hB hj.1,hj.2⟩,o.t.mono fun j hj _=>⟨zP hB hj.1,hj.2⟩,o.h.mono fun j hj _=>⟨zP hB hj.1,hj.2⟩⟩,h⟩
def nwX (pa:Option Addr) (n pc:Nat) (A:Nat->Option Addr) (L C:Nat->Nat) (H:Nat->Nat->I5) (vs vw vh:Value) (us:Nat->Value):SysIn:=
 ⟨pa,n,pc,A,L,C,H,adOf vs,n,cpOf vs,fun i=>⟨0,adOf (fdOf (us i) 1),cpOf (fdOf (us i) 1),[0,0,0,0],adOf (fdOf (us i) 2),cpOf (fdOf (us i) 2),[],0⟩,adOf vw,n*n,cpOf vw,fun _=>none,fun _=>0,fun _=>0,fun _ _=>⟨false,0⟩,adOf vh,n,cpOf vh,fun _=>none,fun _=>0,fun _=>0,fun _ _=>⟨0,0,0⟩⟩
theorem qu0 {P1 P3 P4:Nat->Prop} {pa:Option Addr} {pc:Nat} {A:Nat->Option Addr} {C:Nat->Nat} (hs:LS w P1 vs n us fun _=>newS) (ht:ZL 59 w P3 vw (n*n)) (hh:ZL 33 w P4 vh n) (hr:RowS w pa n fun i=>.slice (A i) (L i) (C i)) (hI:∀ i,i<n->∃ b,A i=some ⟨b,0,none⟩/\b<w.heap.size/\qaq w b 0 (L i) (H i)):SysG w (nwX pa n pc A L C H vs vw vh us):=by
 refine ⟨hr,hI,⟨?_,fun i hi=>?_⟩,ht.rowS,fun i hi=>.inl rfl,hh.rowS,fun i hi=>.inl rfl⟩
 ·rcases Nat.eq_zero_or_pos n with h0 | h0
  ·exact .inl h0
  ·obtain ⟨g,cap,rfl,-,hg,-,-⟩:=hs.cell h0
   refine .inr ⟨g,0,rfl,hg,fun i hi=>?_⟩
   obtain ⟨g',cap',ew,-,-,hc,-⟩:=hs.cell hi
   simp only [Value.slice.injEq,Option.some.injEq,Addr.mk.injEq,and_true,true_and] at ew
   obtain ⟨rfl,rfl⟩:=ew
   obtain ⟨ra,rc,oa,oc,eu,h0,h1,h2,h3⟩:=hc
   show w.cell? ⟨g,0+i*4,none⟩=some (.int .i64 0)/\w.cell? ⟨g,0+i*4+1,none⟩=some (.slice (adOf (fdOf (us i) 1)) 4 (cpOf (fdOf (us i) 1)))/\w.cell? ⟨g,0+i*4+2,none⟩=some (.slice (adOf (fdOf (us i) 2)) 0 (cpOf (fdOf (us i) 2)))/\w.cell? ⟨g,0+i*4+3,none⟩=some (.int .i64 0)
   rw [Nat.zero_add,eu]
   exact ⟨h0,h1,h2,h3⟩
 ·obtain ⟨g,cap,-,-,-,⟨ra,rc,oa,oc,eu,-⟩,-⟩:=hs.cell hi
  have h4:=hs.own i hi
  rw [eu] at h4
  show Sl w (adOf (fdOf (us i) 1)) [0,0,0,0]/\Sl w (adOf (fdOf (us i) 2)) []
  rw [eu]
  exact ⟨h4.parts.1.slOf,h4.parts.2.1.slOf⟩
theorem NwS.g {pa:Option Addr} {pc:Nat} {A:Nat->Option Addr} {C:Nat->Nat} (h:NwS W1 N n L H own n w vp vs vw vh c up us) (hr:RowS w pa n fun i=>.slice (A i) (L i) (C i)) (hI:∀ i,i<n->∃ b,A i=some ⟨b,0,none⟩/\b<w.heap.size/\qaq w b 0 (L i) (H i)):SysG w (nwX pa n pc A L C H vs vw vh us):=
 qu0 h.s h.t h.h hr hI
theorem qu1 {pa:Option Addr} {pc:Nat} {A:Nat->Option Addr} {C:Nat->Nat} (hn:n<=4) (hL:∀ i,i<n->L i<=1048576):(nwX pa n pc A L C H vs vw vh us).Len:=by
 have h16:n*n<=16:=zP (Nat.mul_le_mul hn hn) (by omega)
 exact ⟨⟨by show n<=1048576;omega,hL⟩,⟨by show n<=1048576;omega,fun i _=>⟨by show 4<=1048576;omega,by show 0<=1048576;omega⟩⟩,⟨by show n*n<=1048576;omega,fun i _=>Nat.zero_le _⟩,⟨by show n<=1048576;omega,fun i _=>Nat.zero_le _⟩⟩
end
theorem LL.weak {z:Bool} {e:TypeId} {sz:Nat} {E:TypeId} {w:World} {P:Nat->Prop} {v:Value} {n:Nat} {u:Nat->Value} {L:Nat->Nat} {c:Nat->List Value} (o:LL z e sz E w P v n u L c):LL false e sz E w P v n u L c:=
 ⟨o.row,o.own,o.rb,o.ob,o.ra,o.oa,fun h i hi=>o.nn (h.elim (fun h=>by cases h) .inr) i hi⟩
theorem OwnS.weak {z:Bool} {w:World} {B:Nat} {c:Nat->Nat} {y:Sy} {vp vs vw vh:Value} {up us uw uh:Nat->Value} (o:OwnS z w B c y vp vs vw vh up us uw uh):OwnS false w B c y vp vs vw vh up us uw uh:=⟨o.p.weak,o.s,o.t.weak,o.h.weak⟩
theorem ZL.ll {e:TypeId} {sz:Nat} {E:TypeId} {w:World} {P:Nat->Prop} {v:Value} {n:Nat} (o:ZL E w P v n) (he:e≠81) (c:Nat->List Value) (hc:∀ i,c i=[]):LL false e sz E w P v n (fun _=>.slice none 0 0) (fun _=>0) c:=
 ⟨(by rw [List.map_const'];simpa using o.row),fun i _=>by rw [hc];exact World.ownsRow_nil _ _ _ _,o.rb,fun i _ k hk=>(by cases hk),fun i _ k hk=>(by cases hk),fun i j _ _ _ k hk=>(by cases hk),fun h _ _=>h.elim (fun h=>by cases h) (fun h=>absurd h he)⟩
theorem qae.toz {z:Bool} {w:World} {B:Nat} {y:Sy} {v:Value} (o:qae true w B y v):qae z w B y v:=by
 cases z with
 | true=>exact o
 | false=>
  obtain ⟨c,vp,vs,vw,vh,up,us,uw,uh,e,o⟩:=o
  exact ⟨c,vp,vs,vw,vh,up,us,uw,uh,e,o.weak⟩
theorem qae.base {z:Bool} {w:World} {B B':Nat} {y:Sy} {v:Value} (o:qae z w B y v) (h:B'<=B):qae z w B' y v:=by
 obtain ⟨c,vp,vs,vw,vh,up,us,uw,uh,e,o⟩:=o
 exact ⟨c,vp,vs,vw,vh,up,us,uw,uh,e,o.p.mono fun _ q _=>⟨zP h q.1,q.2⟩,o.s.mono fun _ q _=>⟨zP h q.1,q.2⟩,o.t.mono fun _ q _=>⟨zP h q.1,q.2⟩,o.h.mono fun _ q _=>⟨zP h q.1,q.2⟩⟩
theorem qae.setBelow {z:Bool} {w:World} {B:Nat} {y:Sy} {v:Value} (o:qae z w B y v) {N:Nat} (h:N<B) (j:Nat) (u:Value):qae z (w.setCell (aQ N j) u) B y v:=by
 obtain ⟨c,vp,vs,vw,vh,up,us,uw,uh,e,o⟩:=o
 have hk:∀ i k,Cl B c i k->k<w.heap.size->(w.setCell ⟨N,j,none⟩ u).heap[k]? = w.heap[k]?:=fun i k q _=>zO _ _ _ _ fun e=>by
  have e:k=N:=e
  have:=q.1
  omega
 exact ⟨c,vp,vs,vw,vh,up,us,uw,uh,e,o.p.keep (hk 1),o.s.keep (hk 2),o.t.keep (hk 3),o.h.keep (hk 4)⟩
theorem qae.zero {z:Bool} (w:World) (B:Nat) (y:Sy):qae z w B { y with pn:=0,sn:=0,wn:=0,hn:=0 } (sysV none 0 0 none 0 0 none 0 0 none 0 0):=
 ⟨fun _=>0,_,_,_,_,fun _=>.slice none 0 0,fun _=>.slice none 0 0,fun _=>.slice none 0 0,fun _=>.slice none 0 0,rfl,LL.nil _ _ _ _ _ _ _ _,LS.nil _ _ _ _,LL.nil _ _ _ _ _ _ _ _,LL.nil _ _ _ _ _ _ _ _⟩
theorem qae.form {z:Bool} {w:World} {B:Nat} {y:Sy} {v:Value} (o:qae z w B y v):∃ pa pc sa sc wa wc ha hc,v=sysV pa y.pn pc sa y.sn sc wa y.wn wc ha y.hn hc:=by
 obtain ⟨c,vp,vs,vw,vh,up,us,uw,uh,rfl,o⟩:=o
 obtain ⟨pa,pc,rfl⟩:=zU o.p.row
 obtain ⟨sa,sc,rfl⟩:=zU o.s.row
 obtain ⟨wa,wc,rfl⟩:=zU o.t.row
 obtain ⟨ha,hc,rfl⟩:=zU o.h.row
 exact ⟨pa,pc,sa,sc,wa,wc,ha,hc,rfl⟩
theorem qhm (a b:Int) (w:World):Calls Tryz.prog 52 #[.int .i64 a,.int .i64 b] w fun e w'=>∃ z:Int,e=.returned (.int .i64 z)/\(a<=z/\b<=z/\(z=a\/z=b))/\w'=w:=by
 by_cases t:b<a
 ·go_enter Tryz.func52,Tryz.ntmps52
  go_wp2
  go_ret
  exact ⟨_,rfl,by omega,rfl⟩
 ·go_enter Tryz.func52,Tryz.ntmps52
  go_wp2
  go_ret
  exact ⟨_,rfl,by omega,rfl⟩
section
variable {z:Bool} {e:TypeId} {sz:Nat} {E:TypeId} {w:World} {P:Nat->Prop} {v:Value} {n:Nat} {u:Nat->Value} {L:Nat->Nat} {c:Nat->List Value}
theorem LL.pushP (o:LL z e sz E w P v n u L c) {w1 w2:World} {u' v':Value} (hsz:w.heap.size<=w1.heap.size) (hb:∀ k,P k->k<w.heap.size->w1.heap[k]? = w.heap[k]?) (hu:w1.ownsRow w.heap.size e sz u' (L n) (c n)) (hne:Nz z e->u'≠.slice none 0 0) (hv:w2.ownsRow 0 E 1 v' (n+1) ((List.range n).map u ++ [u'])) (g:w1.grownBy w2 v.ownBlock)
  (hv':∀ j,v'.ownBlock=some j->v.ownBlock=some j\/w1.heap.size<=j) {P':Nat->Prop} (hP:∀ k,P k->k<w.heap.size->P' k) (hPu:∀ k,u'.ownBlock=some k->P' k) (hPv:∀ k,w1.heap.size<=k->v'.ownBlock=some k->P' k):LL z e sz E w2 P' v' (n+1) (fun j=>if j=n then u' else u j) L c:=by
 have hvlt:∀ k,v.ownBlock=some k->k<w.heap.size:=fun k hk=>(o.row.lt k hk).2
 have hu2 : w2.ownsRow w.heap.size e sz u' (L n) (c n) := hu.kept g (by
  cases hk:u'.ownBlock with
  | none=>exact .inl rfl
  | some k=>
   refine .inr fun e=>?_
   have q1:=(hu.lt k hk).1
   have q2:=hvlt k e.symm
   omega)
 have ho2:∀ i,i<n->w2.ownsRow 0 e sz (u i) (L i) (c i):=fun i hi=>qat (o.own i hi) fun k hk=>(g.block k (zL ((o.own i hi).lt k hk).2 hsz) fun e=>o.ra i hi k hk e.symm).trans (hb k (o.ob i hi k hk) ((o.own i hi).lt k hk).2)
 have lts:∀ i,i<n->∀ k,(u i).ownBlock=some k->k<w.heap.size:=fun i hi k hk=>((o.own i hi).lt k hk).2
 refine ⟨?_,fun i hi=>?_,fun k hk=>?_,fun i hi k hk=>?_,fun i hi k hk=>?_,fun i j hi hj hij k hk=>?_,fun hz i hi=>?_⟩
 ·have e:(List.range (n+1)).map (fun j=>if j=n then u' else u j)=(List.range n).map u ++ [u']:=by
   rw [List.range_succ,List.map_append]
   simp only [List.map_cons,List.map_nil,if_true]
   congr 1
   exact List.map_congr_left fun j hj=>by
    rw [if_neg]
    have:=List.mem_range.1 hj
    omega
  rw [e]
  exact hv
 ·by_cases ei:i=n
  ·subst ei
   rw [if_pos rfl]
   exact qcm hu2
  ·rw [if_neg ei]
   exact ho2 i (by omega)
 ·rcases hv' k hk with h | h
  ·exact hP k (o.rb k h) (hvlt k h)
  ·exact hPv k h hk
 ·by_cases ei:i=n
  ·simp only [if_pos ei] at hk
   exact hPu k hk
  ·simp only [if_neg ei] at hk
   exact hP k (o.ob i (by omega) k hk) (lts i (by omega) k hk)
 ·intro hvk
  by_cases ei:i=n
  ·simp only [if_pos ei] at hk
   rcases hv' k hvk with h | h
   ·have:=hvlt k h
    have:=(hu.lt k hk).1
    omega
   ·have:=(hu.lt k hk).2
    omega
  ·simp only [if_neg ei] at hk
   rcases hv' k hvk with h | h
   ·exact o.ra i (by omega) k hk h
   ·have:=lts i (by omega) k hk
    omega
 ·intro hjk
  by_cases ei:i=n
  ·have ej:j≠n:=fun e=>hij (by omega)
   simp only [if_pos ei] at hk
   simp only [if_neg ej] at hjk
   have:=lts j (by omega) k hjk
   have:=(hu.lt k hk).1
   omega
  ·simp only [if_neg ei] at hk
   by_cases ej:j=n
   ·simp only [if_pos ej] at hjk
    have:=lts i (by omega) k hk
    have:=(hu.lt k hjk).1
    omega
   ·simp only [if_neg ej] at hjk
    exact o.oa i j (by omega) (by omega) hij k hk hjk
 ·by_cases ei:i=n
  ·rw [if_pos ei]
   exact hne hz
  ·rw [if_neg ei]
   exact o.nn hz i (by omega)
end
section
variable {w:World} {P:Nat->Prop} {v:Value} {n:Nat} {vs:Nat->Value} {S:Nat->S4}
theorem LS.pushP (o:LS w P v n vs S) {w1 w2:World} {u' v':Value} (hsz:w.heap.size<=w1.heap.size) (hb:∀ k,P k->k<w.heap.size->w1.heap[k]? = w.heap[k]?) (hu:qag w1 w.heap.size u' (S n).p (S n).rs (S n).os (S n).c) (hv:w2.ownsRow 0 51 4 v' (n+1) (flat (fun i=>cellsL (vs i)) n ++ cellsL u')) (g:w1.grownBy w2 v.ownBlock)
  (hv':∀ j,v'.ownBlock=some j->v.ownBlock=some j\/w1.heap.size<=j) {P':Nat->Prop} (hP:∀ k,P k->k<w.heap.size->P' k) (hPu:∀ k,qan u' k->P' k) (hPv:∀ k,w1.heap.size<=k->v'.ownBlock=some k->P' k):LS w2 P' v' (n+1) (fun j=>if j=n then u' else vs j) S:=by
 have hvlt:∀ k,v.ownBlock=some k->k<w.heap.size:=fun k hk=>(o.row.lt k hk).2
 have lts:∀ i,i<n->∀ k,qan (vs i) k->k<w.heap.size:=fun i hi k hk=>((o.own i hi).lt hk).2
 have hu2:qag w2 w.heap.size u' (S n).p (S n).rs (S n).os (S n).c:=hu.blk fun k hk=>g.block k (hu.lt hk).2 fun e=>by
  have q1:=(hu.lt hk).1
  have q2:=hvlt k e.symm
  omega
 have ho2:∀ i,i<n->qag w2 0 (vs i) (S i).p (S i).rs (S i).os (S i).c:=fun i hi=>(o.own i hi).blk fun k hk=>(g.block k (zL (lts i hi k hk) hsz) fun e=>o.ra i hi k hk e.symm).trans (hb k (o.ob i hi k hk) (lts i hi k hk))
 refine ⟨?_,fun i hi=>?_,fun k hk=>?_,fun i hi k hk=>?_,fun i hi k hk=>?_,fun i j hi hj hij k hk=>?_⟩
 ·have e:flat (fun i=>cellsL (if i=n then u' else vs i)) (n+1)=flat (fun i=>cellsL (vs i)) n ++ cellsL u':=by
   rw [flat,if_pos rfl]
   congr 1
   exact qco fun i hi=>by rw [if_neg (by omega)]
  rw [e]
  exact hv
 ·by_cases ei:i=n
  ·subst ei
   simp only [if_true]
   exact hu2.mono (Nat.zero_le _)
  ·simp only [if_neg ei]
   exact ho2 i (by omega)
 ·rcases hv' k hk with h | h
  ·exact hP k (o.rb k h) (hvlt k h)
  ·exact hPv k h hk
 ·by_cases ei:i=n
  ·simp only [if_pos ei] at hk
   exact hPu k hk
  ·simp only [if_neg ei] at hk
   exact hP k (o.ob i (by omega) k hk) (lts i (by omega) k hk)
 ·intro hvk
  by_cases ei:i=n
  ·simp only [if_pos ei] at hk
   rcases hv' k hvk with h | h
   ·have:=hvlt k h
    have:=(hu.lt hk).1
    omega
   ·have:=(hu.lt hk).2
    omega
  ·simp only [if_neg ei] at hk
   rcases hv' k hvk with h | h
   ·exact o.ra i (by omega) k hk h
   ·have:=lts i (by omega) k hk
    omega
 ·intro hjk
  by_cases ei:i=n
  ·have ej:j≠n:=fun e=>hij (by omega)
   simp only [if_pos ei] at hk
   simp only [if_neg ej] at hjk
   have:=lts j (by omega) k hjk
   have:=(hu.lt hk).1
   omega
  ·simp only [if_neg ei] at hk
   by_cases ej:j=n
   ·simp only [if_pos ej] at hjk
    have:=lts i (by omega) k hk
    have:=(hu.lt hjk).1
    omega
   ·simp only [if_neg ej] at hjk
    exact o.oa i j (by omega) (by omega) hij k hk hjk
end
section
variable {z:Bool} {B N:Nat} {c:Nat->Nat} {y:Sy} {wr:World} {vp vs vw vh:Value} {up us uw uh:Nat->Value}
theorem AtP.both (h:AtP z B N c y wr vp vs vw vh up us uw uh) {w1 w2 w3 w4:World} {ue ust v3 v4:Value} (b1:Bw wr w1) (hue:w1.ownsRow wr.heap.size 56 3 ue (y.hL y.hn) (fE (y.hH y.hn) (y.hL y.hn))) (hne:ue≠.slice none 0 0) (b2:Bw w1 w2) (hst:qag w2 w1.heap.size ust (y.sS y.sn).p (y.sS y.sn).rs (y.sS y.sn).os (y.sS y.sn).c)
  (hv3:w3.ownsRow 0 33 1 v3 (y.hn+1) ((List.range y.hn).map uh ++ [ue])) (g3:w2.grownBy w3 vh.ownBlock) (hv3':∀ j,v3.ownBlock=some j->vh.ownBlock=some j\/w2.heap.size<=j)
  (hv4:w4.ownsRow 0 51 4 v4 (y.sn+1) (flat (fun i=>cellsL (us i)) y.sn ++ cellsL ust)) (g4:(w3.setCell ⟨N,3,none⟩ v3).grownBy w4 vs.ownBlock) (hv4':∀ j,v4.ownBlock=some j->vs.ownBlock=some j\/(w3.setCell ⟨N,3,none⟩ v3).heap.size<=j):
  ∃ c',AtP z B N c' { y with sn:=y.sn+1,hn:=y.hn+1 } (w4.setCell (aQ N 1) v4) vp v4 vw v3 up (fun j=>if j=y.sn then ust else us j) uw (fun j=>if j=y.hn then ue else uh j):=by
 have hN:=h.lt
 have hBN:=h.bN
 have s1:=b1.size
 have s2:=b2.size
 have s3:=g3.size
 have s4:=g4.size
 have s3':(w3.setCell (aQ N 3) v3).heap.size=w3.heap.size:=by simp
 rw [s3'] at s4
 obtain ⟨q,hq⟩:∃ q:Nat->Nat,q=fun k=>if k<wr.heap.size then c k else if k<w1.heap.size then 4 else if k<w2.heap.size then 2 else if k<w3.heap.size then 4 else 2:=⟨_,rfl⟩
 have q0:∀ k,k<wr.heap.size->q k=c k:=fun k hk=>by rw [hq];exact if_pos hk
 have q1:∀ k,wr.heap.size<=k->k<w1.heap.size->q k=4:=fun k h1 h2=>by rw [hq];dsimp only;rw [if_neg (by omega),if_pos h2]
 have q2:∀ k,w1.heap.size<=k->k<w2.heap.size->q k=2:=fun k h1 h2=>by rw [hq];dsimp only;rw [if_neg (by omega),if_neg (by omega),if_pos h2]
 have q3:∀ k,w2.heap.size<=k->k<w3.heap.size->q k=4:=fun k h1 h2=>by rw [hq];dsimp only;rw [if_neg (by omega),if_neg (by omega),if_neg (by omega),if_pos h2]
 have q4:∀ k,w3.heap.size<=k->q k=2:=fun k h1=>by rw [hq];dsimp only;rw [if_neg (by omega),if_neg (by omega),if_neg (by omega),if_neg (by omega)]
 clear hq
 have qN:q N=0:=(q0 N hN).trans h.cN
 have vhc:∀ k,vh.ownBlock=some k->k<wr.heap.size/\c k=4:=fun k hk=>⟨(h.o.h.row.lt k hk).2,(h.o.h.rb k hk).2⟩
 have vsc:∀ k,vs.ownBlock=some k->k<wr.heap.size/\c k=2:=fun k hk=>⟨(h.o.s.row.lt k hk).2,(h.o.s.rb k hk).2⟩
 have e12:∀ k,k<wr.heap.size->w2.heap[k]? = wr.heap[k]?:=fun k hk=>(b2.block k (by omega)).trans (b1.block k hk)
 have e3:∀ k,k<w2.heap.size->q k≠4->k≠N->(w3.setCell ⟨N,3,none⟩ v3).heap[k]? = w2.heap[k]?:=fun k hk hc hn=>(zO _ _ _ _ hn).trans (g3.block k hk fun e=>hc (by rw [q0 k (vhc k e.symm).1];exact (vhc k e.symm).2))
 have e4:∀ k,k<w3.heap.size->q k≠2->k≠N->(w4.setCell ⟨N,1,none⟩ v4).heap[k]? = (w3.setCell ⟨N,3,none⟩ v3).heap[k]?:=fun k hk hc hn=>(zO _ _ _ _ hn).trans (g4.block k (by rw [s3'];exact hk) fun e=>hc (by rw [q0 k (vsc k e.symm).1];exact (vsc k e.symm).2))
 have hP:∀ i k,Cl B c i k->k<wr.heap.size->Cl B q i k:=fun i k hk hl=>⟨hk.1,(q0 k hl).trans hk.2⟩
 have hnN:∀ i k,i≠0->Cl B q i k->k≠N:=fun i k hi hk e=>hi (by rw [<- hk.2,e,qN])
 have eN2:w2.heap[N]? = wr.heap[N]?:=e12 N hN
 have eN3 : w3.heap[N]? = wr.heap[N]? := (g3.block N (by omega) fun e => by
  have:=(vhc N e.symm).2
  rw [h.cN] at this
  cases this).trans eN2
 have eN4:w4.heap[N]? = (w3.setCell (aQ N 3) v3).heap[N]?:=g4.block N (by rw [s3'];omega) fun e=>by
  have:=(vsc N e.symm).2
  rw [h.cN] at this
  cases this
 obtain ⟨x0,x1,x2,x3⟩:=h.bx
 have c3:∀ j,w3.cell? ⟨N,j,none⟩=wr.cell? ⟨N,j,none⟩:=fun j=>zH eN3
 have c4:∀ j,w4.cell? ⟨N,j,none⟩=(w3.setCell ⟨N,3,none⟩ v3).cell? ⟨N,j,none⟩:=fun j=>zH eN4
 have hkk:∀ i,i≠0->i≠2->i≠4->∀ k,Cl B q i k->k<wr.heap.size->(w4.setCell ⟨N,1,none⟩ v4).heap[k]? = wr.heap[k]?:=fun i h0 h2 h4 k hk hl=>((e4 k (by omega) (by rw [hk.2];exact h2) (hnN i k h0 hk)).trans (e3 k (by omega) (by rw [hk.2];exact h4) (hnN i k h0 hk))).trans (e12 k hl)
 refine ⟨q,⟨?_,?_,?_,?_⟩,fun j=>?_,qN,hBN,⟨?_,?_,?_,?_⟩⟩
 ·rw [World.cell?_setCell_other _ _ _ _ (by simp),c4,World.cell?_setCell_other _ _ _ _ (by simp),c3];exact x0
 ·exact World.cell?_setCell_same _ _ _ (((c4 1).trans ((World.cell?_setCell_other _ _ _ _ (by simp)).trans (c3 1))).trans x1)
 ·rw [World.cell?_setCell_other _ _ _ _ (by simp),c4,World.cell?_setCell_other _ _ _ _ (by simp),c3];exact x2
 ·rw [World.cell?_setCell_other _ _ _ _ (by simp),c4];exact World.cell?_setCell_same _ _ _ ((c3 3).trans x3)
 ·rw [World.frozen?_setCell,zI eN4,World.frozen?_setCell,zI eN3];exact h.fr j
 ·exact (h.o.p.mono (hP 1)).keep (hkk 1 (by decide) (by decide) (by decide))
 ·have hs':qag (w3.setCell (aQ N 3) v3) wr.heap.size ust (y.sS y.sn).p (y.sS y.sn).rs (y.sS y.sn).os (y.sS y.sn).c:=(hst.mono s1).blk fun k hk=>by
   have hl:=hst.lt hk
   exact e3 k hl.2 (by rw [q2 k hl.1 hl.2];decide) (by omega)
  refine (h.o.s.pushP (w1:=w3.setCell (aQ N 3) v3) (w2:=w4) (P':=Cl B q 2) (by omega) (fun k hk hl=>?_) hs' hv4 g4 hv4' (hP 2) (fun k hk=>?_) (fun k h1 hk=>?_)).keep fun k hk _=>zO _ _ _ _ (hnN 2 k (by decide) hk)
  ·exact (e3 k (by omega) (by rw [(hP 2 k hk hl).2];decide) (hnN 2 k (by decide) (hP 2 k hk hl))).trans (e12 k hl)
  ·have hl:=hst.lt hk
   exact ⟨by omega,q2 k hl.1 hl.2⟩
  ·exact ⟨by omega,q4 k (by omega)⟩
 ·exact (h.o.t.mono (hP 3)).keep (hkk 3 (by decide) (by decide) (by decide))
 ·have hue2:w2.ownsRow wr.heap.size 56 3 ue (y.hL y.hn) (fE (y.hH y.hn) (y.hL y.hn)):=qat hue fun k hk=>b2.block k (hue.lt k hk).2
  refine (h.o.h.pushP (w1:=w2) (w2:=w3) (P':=Cl B q 4) (by omega) (fun k _ hl=>e12 k hl) hue2 (fun _=>hne) hv3 g3 hv3' (hP 4) (fun k hk=>?_) (fun k h1 hk=>?_)).keep fun k hk hl=>(e4 k hl (by rw [hk.2];decide) (hnN 4 k (by decide) hk)).trans (zO _ _ _ _ (hnN 4 k (by decide) hk))
  ·have hl:=hue.lt k hk
   exact ⟨by omega,q1 k hl.1 hl.2⟩
  ·exact ⟨by omega,q3 k h1 (hv3.lt k hk).2⟩
theorem AtP.putW {g cap:Nat} (h:AtP z B N c y wr vp vs (.slice (some ⟨g,0,none⟩) y.wn cap) vh up us uw uh) {i:Nat} (hi:i<y.wn) {w1:World} {u':Value} {m:Nat} {H':Nat->I2} (hs:wr.heap.size<=w1.heap.size) (g1:∀ k,k<wr.heap.size->(uw i).ownBlock≠some k->w1.heap[k]? = wr.heap[k]?)
  (hu:w1.ownsRow 0 84 2 u' m (fT H' m)) (hne:u'≠.slice none 0 0) (hb:∀ k,u'.ownBlock=some k->(uw i).ownBlock=some k\/wr.heap.size<=k):
  AtP z B N (rcol c wr.heap.size 3) (y.setW i m H') (w1.setCell (aQ g i) u') vp vs (.slice (some (aQ g 0)) y.wn cap) vh up us (fun j=>if j=i then u' else uw j) uh:=by
 have hN:=h.lt
 have hgc:c g=3:=(h.o.t.rb g rfl).2
 have hgN:N≠g:=fun e=>by rw [<- e,h.cN] at hgc;cases hgc
 have eN : (w1.setCell ⟨g, i, none⟩ u').heap[N]? = wr.heap[N]? := (Below.heap_setCell _ _ _ _ hgN).trans (g1 N hN fun e => by
  have:=(h.o.t.ob i hi N e).2
  rw [h.cN] at this
  cases this)
 obtain ⟨x0,x1,x2,x3⟩:=h.bx
 exact ⟨⟨(zH eN).trans x0,(zH eN).trans x1,(zH eN).trans x2,(zH eN).trans x3⟩,fun j=>(zI eN).trans (h.fr j),(qa7 hN).trans h.cN,h.bN,h.o.putW hi (zP h.bN (Nat.le_of_lt hN)) hs g1 hu hne hb⟩
end
theorem BoxC.blkA {w w':World} {N:Nat} {p vr vo code:Value} (h:BoxC w N p vr vo code) (hb:w'.heap[N]? = w.heap[N]?):BoxC w' N p vr vo code:=by
 obtain ⟨h0,h1,h2,h3⟩:=h
 exact ⟨(zH hb).trans h0,(zH hb).trans h1,(zH hb).trans h2,(zH hb).trans h3⟩
theorem AtP.startM {W1 w:World} {n:Nat} {L:Nat->Nat} {H:Nat->Nat->I5} {v1 v2 v3 v4:Value} (h:NwF W1 n L H true true false true v1 v2 v3 v4 w) (S:Nat->S4) (wH:Nat->Nat->I2) (d:Nat->Nat) (hH:Nat->Nat->E3):
  ∃ N c up,v4=.pointer (some ⟨N,0,none⟩)/\N<w.heap.size/\BoxC w N (.slice none 0 0) (.slice none 0 0) (.slice none 0 0) (.slice none 0 0)/\(∀ j,w.frozen? ⟨N,j,none⟩=false)/\W1.heap.size<=N/\AtP false W1.heap.size N c ⟨n,L,H,0,S,n*n,fun _=>0,wH,0,d,hH⟩ ((((w.setCell ⟨N,0,none⟩ v1).setCell ⟨N,1,none⟩ (.slice none 0 0)).setCell ⟨N,2,none⟩ v2).setCell ⟨N,3,none⟩ (.slice none 0 0)) v1 (.slice none 0 0) v2 (.slice none 0 0) up (fun _=>.slice none 0 0) (fun _=>.slice none 0 0) (fun _=>.slice none 0 0):=by
 obtain ⟨k,h1,h2,-,h4⟩:=h.ow
 obtain ⟨N,e,hN,bx,fr,cN⟩:=h4 rfl
 obtain ⟨u,o⟩:=h1 rfl
 have hl:=zJ w _ bx.1
 have hk:∀ i,i≠0->∀ j,Cl W1.heap.size k i j->j<w.heap.size->((((w.setCell ⟨N,0,none⟩ v1).setCell ⟨N,1,none⟩ (.slice none 0 0)).setCell ⟨N,2,none⟩ v2).setCell ⟨N,3,none⟩ (.slice none 0 0)).heap[j]? = w.heap[j]?:=fun i hi j hj _=>by
  have hne:j≠N:=fun e=>hi (by rw [<- hj.2,e,cN])
  exact (zO _ _ _ _ hne).trans ((zO _ _ _ _ hne).trans ((zO _ _ _ _ hne).trans (zO _ _ _ _ hne)))
 obtain ⟨g0,g1,g2,g3⟩:=id bx
 exact ⟨N,k,u,e,hl,bx,fr,hN,BoxC.set4 ⟨g0,g1,g2,g3⟩ _ _ _ _,fun j=>by simp only [World.frozen?_setCell];exact fr j,cN,hN,⟨(o.keep (hk 1 (by decide))).weak,LS.nil _ _ _ _,((h2 rfl).keep (hk 3 (by decide))).ll (by decide) _ (fun _=>rfl),LL.nil _ _ _ _ _ _ _ _⟩⟩
section
variable {P:Program} {ops:Array Oper} {Q:Exit->Act->World->Prop} {md:Region.Mode} {S:World->Prop} {G:Nat->Bool}
theorem qsa (lst:Bool->Bool->Bool->Bool->Array Bool) (i2 i3 i4 i5:Nat) {o5:Oper} (I:Bool->Bool->Bool->Act->World->Prop) (J:Bool->Act->World->Prop) {f0:Nat}
  (hrd:∀ b c d,(b && c)=false->Region.ready md ops (lst b c d false)=outI b i2 ++ (outI c i3 ++ outI d i4))
  (s2:∀ c d,(lst false c d false).setIfInBounds i2 true=lst true c d false) (s3:∀ b d,(lst b false d false).setIfInBounds i3 true=lst b true d false) (s4:∀ b c e,(lst b c false e).setIfInBounds i4 true=lst b c true e) (s5:∀ d,(lst true true d false).setIfInBounds i5 true=lst true true d true)
  (e5:ops.toList[i5]? = some o5) (hs:Region.noSelect ops=true) (hf:∀ d,Region.free md ops (lst true true d false) i5=true) (hr5:∀ d,(Region.ready md ops (lst true true d false)).contains i5=true) (hrJ:Region.ready md ops (lst true true false true)=[i4]) (hQ:∀ v c a w,Q (.panic c) (a.put o5.dst v) w->Q (.panic c) a w)
  (h2:∀ c d x w,I false c d x w->wpOp P ops Q i2 (fun x' w'=>(S w->G i2=false->S w')/\I true c d x' w') x w)
  (h3:∀ b d x w,I b false d x w->wpOp P ops Q i3 (fun x' w'=>(S w->G i3=false->S w')/\I b true d x' w') x w) (h4:∀ b c x w,I b c false x w->wpOp P ops Q i4 (fun x' w'=>(S w->G i4=false->S w')/\I b c true x' w') x w)
  (h5:∀ d x w,I true true d x w->Region.wanted o5 (yielded ops x.tmps)=true/\∃ v,(∀ w,(execOp x.eval o5).run P w=.ok (.value v) w)/\J d (x.put o5.dst v) w)
  (hJ:∀ x w,J false x w->wpOp P ops Q i4 (fun x' w'=>(S w->G i4=false->S w')/\J true x' w') x w)
  (hend:∀ x w,J true x w->wpG P md ops Q S G f0 (lst true true true true) x w):
  ∀ (m:Nat) (b c d:Bool) (x:Act) (w:World),notB b+notB c+notB d=m->I b c d x w->wpG P md ops Q S G (f0+m+1) (lst b c d false) x w:=by
 intro m
 induction m with
 | zero=>
  intro b c d x w hm hI
  obtain ⟨rfl,rfl,rfl⟩:b=true/\c=true/\d=true:=by
   cases b <;> cases c <;> cases d <;> simp [notB] at hm ⊢
  obtain ⟨hw,v,hv,hj⟩:=h5 _ x w hI
  exact qeb i5 e5 hs (hf _) (hr5 _) hQ hw ⟨v,hv,by rw [s5];exact hend _ _ hj⟩
 | succ m ih=>
  intro b c d x w hm hI
  rcases zK (b && c) with hT | hne
  ·obtain ⟨rfl,rfl⟩:b=true/\c=true:=by
    cases b <;> cases c <;> simp at hT ⊢
   obtain ⟨rfl,rfl⟩:d=false/\m=0:=by
    cases d <;> simp [notB] at hm ⊢ <;> exact hm
   obtain ⟨hw,v,hv,hj⟩:=h5 _ x w hI
   refine qeb i5 e5 hs (hf _) (hr5 _) hQ hw ⟨v,hv,?_⟩
   rw [s5]
   refine ⟨(fun h0=>by rw [hrJ] at h0;cases h0),fun i hi=>?_⟩
   rw [hrJ] at hi
   obtain rfl:=List.mem_singleton.1 hi
   refine wpOp_mono (fun x' w' h=>⟨h.1,?_⟩) (hJ _ _ hj)
   rw [s4]
   exact hend _ _ h.2
  have hr:=hrd b c d hne
  refine ⟨fun h0=>?_,fun i hi=>?_⟩
  ·rw [hr] at h0
   cases b <;> cases c <;> cases d <;> simp [outI] at h0 hne
  ·rw [hr,List.mem_append,List.mem_append] at hi
   rcases hi with hi | hi | hi
   ·obtain ⟨rfl,rfl⟩:=qdn hi
    refine wpOp_mono (fun x' w' h=>⟨h.1,?_⟩) (h2 c d x w hI)
    rw [s2]
    exact ih true c d x' w' (by simp [notB] at hm ⊢;omega) h.2
   ·obtain ⟨rfl,rfl⟩:=qdn hi
    refine wpOp_mono (fun x' w' h=>⟨h.1,?_⟩) (h3 b d x w hI)
    rw [s3]
    exact ih b true d x' w' (by simp [notB] at hm ⊢;omega) h.2
   ·obtain ⟨rfl,rfl⟩:=qdn hi
    refine wpOp_mono (fun x' w' h=>⟨h.1,?_⟩) (h4 b c x w hI)
    rw [s4]
    exact ih b c true x' w' (by simp [notB] at hm ⊢;omega) h.2
end
theorem Tryz.et : Tryz.prog.globalNamed "errors.errorType" = some 0 := by kernel_rfl
theorem Tryz.rt : (Tryz.prog.cutTypes.find? (·.1 == "internal/reflectlite.rtype")).map (·.2) = some 160 := by kernel_rfl
theorem Tryz.oneRow:((List.range 239).filter fun t=>Tryz.prog.rowNamed t [101,114,114,111,114])=[116]:=by kernel_rfl
theorem Tryz.tsize:Tryz.prog.types.size=239:=by kernel_rfl
theorem qh4 {W : World} (h : laidMetH Tryz.prog [("errors.errorType", Rows.laid_errors_errorType)] W) : W.cell? (aQ 0 0) = some (.iface 160 (.agg #[.pointer (some (aQ 1 116))])) := by
 have h' : laidMet Tryz.prog [] W /\ handlesMet Tryz.prog [("errors.errorType", Rows.laid_errors_errorType)] W := h
 obtain ⟨name,u,ty,e1,e2,e3,e4,e5⟩:=h'.2 _ (List.mem_singleton.2 rfl)
 have en:name=[101,114,114,111,114]:=(Option.some.inj e1).symm
 subst en
 obtain rfl:=Option.some.inj (Tryz.rt.symm.trans e2)
 have hm:ty ∈ (List.range 239).filter fun t=>Tryz.prog.rowNamed t [101,114,114,111,114]:=List.mem_filter.2 ⟨List.mem_range.2 (by rw [<- Tryz.tsize];exact e3),e4⟩
 rw [Tryz.oneRow] at hm
 obtain rfl:=List.mem_singleton.1 hm
 have hh:typeHandle Tryz.prog 116=.pointer (some (aQ 1 116)):=by kernel_rfl
 rw [hh] at e5
 simpa using World.var?_cell Tryz.et e5 0
noncomputable def qk8 (os:Os):World:=
 let w0:=World.holding Tryz.prog os ⟨#[],#[],[]⟩
 { w0 with heap := w0.heap.modify 0 fun
   | .cells _ t frozen=>.cells #[.iface 160 (.agg #[.pointer (some (aQ 1 116))])] t frozen
   | o=>o }
theorem qji (os : Os) (args : Array Value) : laidMetH Tryz.prog [("errors.errorType", Rows.laid_errors_errorType)] ((qk8 os).forCall (fun _ _ => 0) ⟨#[], args, []⟩).memory :=
 laidMetH_of_parts (laidMet_nil _ _) (by kernel_rfl)
