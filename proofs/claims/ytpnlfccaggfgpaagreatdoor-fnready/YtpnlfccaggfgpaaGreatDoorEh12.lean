import Derived.Test.YtpnlfccaggfgpaaGreatDoorEh0
import Derived.Test.YtpnlfccaggfgpaaGreatDoorEh8
import Derived.Test.YtpnlfccaggfgpaaGreatDoorEh11
namespace Go.Proofs.YtpnlfccaggfgpaaGreatDoor
open Go.RowKit Go.Deep
open Go.ChangeShapes Go.WideShapes Go.ChangeAt
structure E3 where
 k:Int
 q:Int
 v:Int
def EvAt (w:World) (b off len:Nat) (h:Nat->E3):Prop:=∀ i,i<len->
 w.cell? ⟨b,off+i*3,none⟩=some (.int .i64 (h i).k)/\w.cell? ⟨b,off+i*3+1,none⟩=some (.int .i64 (h i).q)/\w.cell? ⟨b,off+i*3+2,none⟩=some (.int .i64 (h i).v)
theorem EvAt.below {w w':World} {B b off len:Nat} {h:Nat->E3} (hh:EvAt w b off len h) (hb:Below B w w') (hB:b<B):EvAt w' b off len h:=by
 intro i hi
 obtain ⟨h0,h1,h2⟩:=hh i hi
 exact ⟨(hb.cell hB).trans h0,(hb.cell hB).trans h1,(hb.cell hB).trans h2⟩
structure I2 where
 m:Bool
 v:Int
abbrev itV (m:Bool) (v:Int):Value:=.agg #[.bool m,.int .i64 v]
def ItAt (w:World) (b off len:Nat) (h:Nat->I2):Prop:=∀ i,i<len->
 w.cell? ⟨b,off+i*2,none⟩=some (.bool (h i).m)/\w.cell? ⟨b,off+i*2+1,none⟩=some (.int .i64 (h i).v)
theorem ItAt.below {w w':World} {B b off len:Nat} {h:Nat->I2} (hh:ItAt w b off len h) (hb:Below B w w') (hB:b<B):ItAt w' b off len h:=by
 intro i hi
 obtain ⟨h0,h1⟩:=hh i hi
 exact ⟨(hb.cell hB).trans h0,(hb.cell hB).trans h1⟩
def sumL (ls:Nat->Nat):Nat->Nat
 | 0=>0
 | n+1=>sumL ls n+ls n
def RowS (w:World) (a0:Option Addr) (n:Nat) (f:Nat->Value):Prop:=
 n=0\/∃ b off,a0=some ⟨b,off,none⟩/\b<w.heap.size/\∀ i,i<n->w.cell? ⟨b,off+i,none⟩=some (f i)
theorem RowS.below {w w':World} {a0:Option Addr} {n:Nat} {f:Nat->Value} (h:RowS w a0 n f) (hb:Below w.heap.size w w'):RowS w' a0 n f:=by
 rcases h with h | ⟨b,off,e,hlt,hc⟩
 ·exact .inl h
 ·exact .inr ⟨b,off,e,zL hlt hb.size,fun i hi=>(hb.cell (p:=⟨b,off+i,none⟩) hlt).trans (hc i hi)⟩
theorem RowS.at {w:World} {a0:Option Addr} {n:Nat} {f:Nat->Value} (h:RowS w a0 n f) {k:Nat} (hk:k<n):∃ b off,a0=some ⟨b,off,none⟩/\w.cell? ⟨b,off+k,none⟩=some (f k):=by
 rcases h with rfl | ⟨b,off,e,-,hc⟩
 ·omega
 ·exact ⟨b,off,e,hc k hk⟩
structure Touch (P:Nat->Prop) (w w':World):Prop where
 os:w'.os=w.os
 tape:w'.tape=w.tape
 output:w'.output=w.output
 size:w.heap.size<=w'.heap.size
 block:∀ k,k<w.heap.size->¬ P k->w'.heap[k]? = w.heap[k]?
theorem Touch.refl (P:Nat->Prop) (w:World):Touch P w w:=⟨rfl,rfl,rfl,Nat.le_refl _,fun _ _ _=>rfl⟩
theorem Touch.trans {P:Nat->Prop} {a b c:World} (h:Touch P a b) (k:Touch P b c):Touch P a c:=
 ⟨k.os.trans h.os,k.tape.trans h.tape,k.output.trans h.output,zP h.size k.size,fun i hi hn=>(k.block i (zL hi h.size) hn).trans (h.block i hi hn)⟩
theorem Touch.mono {P Q:Nat->Prop} {w w':World} (h:Touch P w w') (hq:∀ k,P k->Q k):Touch Q w w':=
 ⟨h.os,h.tape,h.output,h.size,fun k hk hn=>h.block k hk fun hp=>hn (hq k hp)⟩
theorem Touch.of_below {P:Nat->Prop} {w w':World} (h:Below w.heap.size w w'):Touch P w w':=
 ⟨h.os,h.tape,h.output,h.size,fun k hk _=>h.block k hk⟩
theorem Touch.of_set {P:Nat->Prop} (w:World) {a:Addr} (ha:P a.block) (u:Value):Touch P w (w.setCell a u):=
 ⟨rfl,rfl,rfl,by simp [World.setCell],fun k _ hn=>zO _ _ _ _ fun e=>hn (e ▸ ha)⟩
theorem Touch.below {P:Nat->Prop} {w w':World} {B:Nat} (h:Touch P w w') (hB:B<=w.heap.size) (hp:∀ k,P k->B<=k):Below B w w':=
 ⟨h.os,h.tape,h.output,h.size,fun k hk=>h.block k (by omega) fun e=>by have:=hp k e;omega⟩
theorem Touch.cell {P:Nat->Prop} {w w':World} (h:Touch P w w') {b:Nat} (hb:b<w.heap.size) (hp:¬ P b) (j:Nat):w'.cell? ⟨b,j,none⟩=w.cell? ⟨b,j,none⟩:=zH (h.block b hb hp)
theorem Touch.frozen {P:Nat->Prop} {w w':World} (h:Touch P w w') {b:Nat} (hb:b<w.heap.size) (hp:¬ P b) (j:Nat):w'.frozen? ⟨b,j,none⟩=w.frozen? ⟨b,j,none⟩:=zI (h.block b hb hp)
def EvL (w:World) (a:Option Addr) (len:Nat) (h:Nat->E3):Prop:=len=0\/∃ b off,a=some ⟨b,off,none⟩/\b<w.heap.size/\EvAt w b off len h
theorem EvL.below {w w':World} {a:Option Addr} {len:Nat} {h:Nat->E3} (hh:EvL w a len h) (hb:Below w.heap.size w w'):EvL w' a len h:=by
 rcases hh with e | ⟨b,off,e,hlt,hc⟩
 ·exact .inl e
 ·exact .inr ⟨b,off,e,zL hlt hb.size,hc.below hb hlt⟩
theorem EvL.at {w:World} {a:Option Addr} {len:Nat} {h:Nat->E3} (hh:EvL w a len h) {k:Nat} (hk:k<len):∃ b off,a=some ⟨b,off,none⟩/\b<w.heap.size/\w.cell? ⟨b,off+k*3,none⟩=some (.int .i64 (h k).k)/\w.cell? ⟨b,off+k*3+1,none⟩=some (.int .i64 (h k).q)/\w.cell? ⟨b,off+k*3+2,none⟩=some (.int .i64 (h k).v):=by
 rcases hh with rfl | ⟨b,off,e,hlt,hc⟩
 ·omega
 ·exact ⟨b,off,e,hlt,hc k hk⟩
theorem EvL.take {w:World} {a:Option Addr} {len:Nat} {h:Nat->E3} (hh:EvL w a len h) {k:Nat} (hk:k<=len):EvL w a k h:=by
 rcases hh with rfl | ⟨b,off,e,hlt,hc⟩
 ·exact .inl (by omega)
 ·exact .inr ⟨b,off,e,hlt,fun i hi=>hc i (by omega)⟩
theorem EvL.one {w:World} {b off len:Nat} {h:Nat->E3} (hh:EvL w (some ⟨b,off,none⟩) len h) {k:Nat} (hk:k<len):EvAt w b off len h/\b<w.heap.size:=by
 rcases hh with rfl | ⟨b',off',e,hlt,hc⟩
 ·omega
 ·simp only [Option.some.injEq,Addr.mk.injEq] at e
  obtain ⟨rfl,rfl,-⟩:=e
  exact ⟨hc,hlt⟩
theorem append_one {ops:Array Oper} {rest:List Oper} {op:Oper} {act:Act} {Q:Exit->Act->World->Prop} (w:World) (hgd:op.guard=none) (s x:Operand)
  (ho:op.op=.call { callee:=.builtin .append,args:=#[s,x],argTypes:=#[32,32] })
  (B:Nat) (v:Value) (xs:List Int) (hs:act.eval s=v) (hv:OwnI w B v xs) (y:Int) (hx:act.eval x=.slice (some ⟨w.heap.size,0,none⟩) 1 1) (hn:xs.length<=1048576) (hB:B<=w.heap.size)
  (h:∀ v' w',OwnI w' B v' (xs ++ [y])->Below B w w'->wpList Tryz.prog ops Q rest (act.put op.dst v') w'):
  wpList Tryz.prog ops Q (op :: rest) act (w.alloc (.cells #[.int .i64 y] 3)):=by
 have hb:Below w.heap.size w (w.alloc (.cells #[.int .i64 y] 3)):=(Below.refl _ _).alloc (Nat.le_refl _) _
 refine wpList_append_ints _ hgd s x ho B 1 v (some ⟨w.heap.size,0,none⟩) xs [y] hs hx (hv.below hb) (.inr ⟨w.heap.size,0,rfl,by simp,fun i hi=>?_⟩) (by simp;omega) (by simp;omega) ?_
 ·have:i=0:=by simp at hi;omega
  subst this
  exact zW _ _ _ 0 rfl
 ·intro v' w' o g _
  refine h v' w' o (Below.grown (hb.mono hB) g (by simp;omega) (fun k hk=>(hv.lt k hk).1))
theorem append_oneN {ops:Array Oper} {rest:List Oper} {op:Oper} {act:Act} {Q:Exit->Act->World->Prop} (w:World) {N:Nat} (hN:N=w.heap.size) (hgd:op.guard=none) (s x:Operand)
  (ho:op.op=.call { callee:=.builtin .append,args:=#[s,x],argTypes:=#[32,32] })
  (B:Nat) (v:Value) (xs:List Int) (hs:act.eval s=v) (hv:OwnI w B v xs) (y:Int) (hx:act.eval x=.slice (some ⟨N,0,none⟩) 1 1) (hn:xs.length<=1048576) (hB:B<=w.heap.size)
  (h:∀ v' w',OwnI w' B v' (xs ++ [y])->Below B w w'->wpList Tryz.prog ops Q rest (act.put op.dst v') w'):
  wpList Tryz.prog ops Q (op :: rest) act (w.alloc (.cells #[.int .i64 y] 3)):=by
 subst hN
 exact append_one w hgd s x ho B v xs hs hv y hx hn hB h
theorem OwnI.to {w:World} {B:Nat} {v:Value} {xs ys:List Int} (h:OwnI w B v xs) (e:ys=xs):OwnI w B v ys:=e ▸ h
structure Tu (lo hi:Nat) (w w':World):Prop where
 os:w'.os=w.os
 tape:w'.tape=w.tape
 output:w'.output=w.output
 size:w.heap.size<=w'.heap.size
 block:∀ k,k<w.heap.size->(k<lo\/hi<=k)->w'.heap[k]? = w.heap[k]?
theorem Tu.of_below {w w':World} (h:Below w.heap.size w w'):Tu 0 0 w w':=⟨h.os,h.tape,h.output,h.size,fun k hk _=>h.block k hk⟩
theorem Tu.of_row {w w':World} {b:Nat} (h:w.grownBy w' (some b)):Tu b (b+1) w w':=⟨h.os,h.tape,h.output,h.size,fun k hk hn=>h.block k hk (by simp;omega)⟩
theorem Tu.below {lo hi B:Nat} {w w':World} (h:Tu lo hi w w') (hB:B<=w.heap.size) (hl:B<=lo):Below B w w':=⟨h.os,h.tape,h.output,h.size,fun k hk=>h.block k (by omega) (.inl (by omega))⟩
theorem OwnI.ofBlock {w w':World} {B:Nat} {u:Value} {xs:List Int} (hu:OwnI w B u xs) (ha:∀ k,u.ownBlock=some k->w'.heap[k]? = w.heap[k]?):OwnI w' B u xs:=by
 rcases hu.2 with ⟨rfl,h0⟩ | ⟨g,cap,cur,rfl,hb,hg,hr⟩
 ·exact ⟨hu.1,.inl ⟨rfl,h0⟩⟩
 ·refine ⟨hu.1,.inr ⟨g,cap,cur,rfl,hb,?_,hr⟩⟩
  rw [ha g rfl]
  exact hg
theorem OwnI.slOf {w:World} {B n cap:Nat} {a0:Option Addr} {xs:List Int} (h:OwnI w B (.slice a0 n cap) xs):Sl w a0 xs:=by
 obtain ⟨a1,c1,e,s⟩:=h.form
 simp only [Value.slice.injEq] at e
 obtain ⟨rfl,-,-⟩:=e
 exact s
structure Tl (w:World) (B C N:Nat) (p c:Int) (ra:Option Addr) (rn rc:Nat) (oa:Option Addr) (on oc:Nat) (rs os:List Int):Prop where
 lo:B<=N
 hi:N<C
 sz:C<=w.heap.size
 box:BoxC w N (.int .i64 p) (.slice ra rn rc) (.slice oa on oc) (.int .i64 c)
 own:StOwn w B (stV p ra rn rc oa on oc c) p rs os c
 up:∀ k,hasBlock (stV p ra rn rc oa on oc c) k->k<C
 ne:¬ hasBlock (stV p ra rn rc oa on oc c) N
theorem Tl.tu {w w':World} {B C N:Nat} {p c:Int} {ra:Option Addr} {rn rc:Nat} {oa:Option Addr} {on oc:Nat} {rs os:List Int} {lo hi:Nat} (h:Tl w B C N p c ra rn rc oa on oc rs os) (t:Tu lo hi w w') (hd:C<=lo\/hi<=B):Tl w' B C N p c ra rn rc oa on oc rs os:=by
 obtain ⟨h1,h2,h3,⟨b0,b1,b2,b3⟩,h5,h6,h7⟩:=h
 have hb:∀ k,B<=k->k<C->w'.heap[k]? = w.heap[k]?:=fun k k1 k2=>t.block k (by omega) (by omega)
 have hN:=hb N h1 h2
 refine ⟨h1,h2,zP h3 t.size,⟨(zH hN).trans b0,(zH hN).trans b1,(zH hN).trans b2,(zH hN).trans b3⟩,?_,h6,h7⟩
 obtain ⟨o1,o2,ha⟩:=h5.parts
 refine ⟨_,_,rfl,o1.ofBlock fun k hk=>?_,o2.ofBlock fun k hk=>?_,ha⟩
 ·exact hb k (o1.lt k hk).1 (h6 k ((hasBlock_iff _ _ _ _ _).2 (.inl hk)))
 ·exact hb k (o2.lt k hk).1 (h6 k ((hasBlock_iff _ _ _ _ _).2 (.inr hk)))
theorem Tl.below {w w':World} {B C N:Nat} {p c:Int} {ra:Option Addr} {rn rc:Nat} {oa:Option Addr} {on oc:Nat} {rs os:List Int} (h:Tl w B C N p c ra rn rc oa on oc rs os) (hb:Below w.heap.size w w'):Tl w' B C N p c ra rn rc oa on oc rs os:=h.tu (Tu.of_below hb) (.inr (Nat.zero_le _))
theorem Tl.sl {w:World} {B C N:Nat} {p c:Int} {ra:Option Addr} {rn rc:Nat} {oa:Option Addr} {on oc:Nat} {rs os:List Int} (h:Tl w B C N p c ra rn rc oa on oc rs os):Sl w ra rs/\Sl w oa os:=⟨h.own.parts.1.slOf,h.own.parts.2.1.slOf⟩
theorem Tl.marked {w w':World} {B C N:Nat} {p c:Int} {ra:Option Addr} {rn rc:Nat} {oa:Option Addr} {on oc:Nat} {rs os rs' os':List Int} (h:Tl w B C N p c ra rn rc oa on oc rs os) (ho:StOwn w' B (stV p ra rn rc oa on oc c) p rs' os' c) (hm:Marked (stV p ra rn rc oa on oc c) w w'):Tl w' B C N p c ra rn rc oa on oc rs' os':=
 ⟨h.lo,h.hi,zP h.sz hm.size,h.box.marked hm h.ne,ho,h.up,h.ne⟩
theorem Tl.of_alloc {w:World} {B:Nat} {p c:Int} {ra oa:Option Addr} {rn rc on oc:Nat} {rs os:List Int} (h:StOwn w B (stV p ra rn rc oa on oc c) p rs os c) (hw:B<=w.heap.size) (t:TypeId):Tl (w.alloc (.cells #[.int .i64 p,.slice ra rn rc,.slice oa on oc,.int .i64 c] t)) B (w.heap.size+1) w.heap.size p c ra rn rc oa on oc rs os:=
 ⟨hw,Nat.lt_succ_self _,by simp,BoxC.new w _ _ _ _ _,h.below (zT _ _),fun k hk=>Nat.lt_succ_of_lt (h.lt hk).2,fun e=>Nat.lt_irrefl _ (h.lt e).2⟩
def Told (w:World) (B N:Nat) (S:S4):Prop:=∃ ra rc oa oc,BoxC w N (.int .i64 S.p) (.slice ra S.rs.length rc) (.slice oa S.os.length oc) (.int .i64 S.c)/\StOwn w B (stV S.p ra S.rs.length rc oa S.os.length oc S.c) S.p S.rs S.os S.c/\B<=N/\¬ hasBlock (stV S.p ra S.rs.length rc oa S.os.length oc S.c) N
theorem Told.tl {w:World} {B N:Nat} {S:S4} (h:Told w B N S):∃ ra rc oa oc,Tl w B w.heap.size N S.p S.c ra S.rs.length rc oa S.os.length oc S.rs S.os:=by
 obtain ⟨ra,rc,oa,oc,h1,h2,h3,h4⟩:=h
 exact ⟨ra,rc,oa,oc,h3,zJ w _ h1.1,Nat.le_refl _,h1,h2,fun k hk=>(h2.lt hk).2,h4⟩
theorem BoxC.set4 {w:World} {N:Nat} {z0 z1 z2 z3:Value} (h:BoxC w N z0 z1 z2 z3) (a b c d:Value):BoxC ((((w.setCell ⟨N,0,none⟩ a).setCell ⟨N,1,none⟩ b).setCell ⟨N,2,none⟩ c).setCell ⟨N,3,none⟩ d) N a b c d:=by
 obtain ⟨h0,h1,h2,h3⟩:=h
 exact ⟨by go_cell,by go_cell,by go_cell,by go_cell⟩
theorem grown4 (w:World) (N:Nat) (a b c d:Value):w.grownBy ((((w.setCell ⟨N,0,none⟩ a).setCell ⟨N,1,none⟩ b).setCell ⟨N,2,none⟩ c).setCell ⟨N,3,none⟩ d) (some N):=by
 repeat (refine zV ?_ (.inl rfl) _)
 exact World.grownBy.refl _ _
theorem Told.of_alloc {w:World} {B B':Nat} {S:S4} {ra oa:Option Addr} {rc oc:Nat} (h:StOwn w B' (stV S.p ra S.rs.length rc oa S.os.length oc S.c) S.p S.rs S.os S.c) (hB:B<=B') (hw:B<=w.heap.size) (t:TypeId):Told (w.alloc (.cells #[.int .i64 S.p,.slice ra S.rs.length rc,.slice oa S.os.length oc,.int .i64 S.c] t)) B w.heap.size S:=by
 refine ⟨ra,rc,oa,oc,BoxC.new w _ _ _ _ _,?_,hw,fun e=>Nat.lt_irrefl _ (h.lt e).2⟩
 obtain ⟨vr,vo,e,o1,o2,ha⟩:=h
 exact ⟨vr,vo,e,(o1.below (zT _ _)).mono hB,(o2.below (zT _ _)).mono hB,ha⟩
theorem Told.of_put {w:World} {B B' N:Nat} {S:S4} {ra oa:Option Addr} {rc oc:Nat} {z0 z1 z2 z3:Value} (h:StOwn w B' (stV S.p ra S.rs.length rc oa S.os.length oc S.c) S.p S.rs S.os S.c) (hB:B<=B') (hN:N<B') (hw:B<=N) (hZ:BoxC w N z0 z1 z2 z3):Told ((((w.setCell ⟨N,0,none⟩ (.int .i64 S.p)).setCell ⟨N,1,none⟩ (.slice ra S.rs.length rc)).setCell ⟨N,2,none⟩ (.slice oa S.os.length oc)).setCell ⟨N,3,none⟩ (.int .i64 S.c)) B N S:=
 ⟨ra,rc,oa,oc,hZ.set4 _ _ _ _,h.put4 hN hB,hw,fun e=>Nat.not_le_of_lt hN (h.lt e).1⟩
