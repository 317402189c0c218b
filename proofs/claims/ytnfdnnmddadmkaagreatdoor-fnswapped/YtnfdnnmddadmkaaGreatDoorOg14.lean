import Derived.Test.YtnfdnnmddadmkaaGreatDoorOg11
import Derived.Test.YtnfdnnmddadmkaaGreatDoorOg13
namespace Go.Proofs.YtnfdnnmddadmkaaGreatDoor
open Go.RowKit Go.Deep
def qt7 (w:World) (a0:Option Addr) (len cap:Nat) (g:Nat->I5):Prop:=∀ wx,Below w.heap.size w wx->
 Calls Tryz.prog 128 #[.slice a0 len cap] wx fun e w'=>e=.returned (.slice (some ⟨wx.heap.size,0,none⟩) len len)/\qan w' wx.heap.size 0 len g/\wx.heap.size<w'.heap.size/\Below wx.heap.size wx w'/\∀ j,w'.frozen? ⟨wx.heap.size,j,none⟩=false
open Go.ChangeShapes Go.WideShapes Go.ChangeAt
structure E3 where
 k:Int
 q:Int
 v:Int
def EvAt (w:World) (b off len:Nat) (h:Nat->E3):Prop:=∀ i,i<len->
 w.cell? ⟨b,off+i*3,none⟩=some (.int .i64 (h i).k)/\w.cell? ⟨b,off+i*3+1,none⟩=some (.int .i64 (h i).q)/\w.cell? ⟨b,off+i*3+2,none⟩=some (.int .i64 (h i).v)
theorem EvAt.below {w w':World} {B b off len:Nat} {h:Nat->E3} (hh:EvAt w b off len h) (hb:Below B w w') (hB:b<B):EvAt w' b off len h:=by
 intro i hi
 obtain ⟨h0,h1,h2⟩:=hh i hi
 exact ⟨(hb.cell hB).trans h0,(hb.cell hB).trans h1,(hb.cell hB).trans h2⟩
def qt6 (w:World) (a0:Option Addr) (len cap:Nat) (h:Nat->E3):Prop:=∀ wx,Below w.heap.size w wx->
 Calls Tryz.prog 131 #[.slice a0 len cap] wx fun e w'=>e=.returned (.slice (some ⟨wx.heap.size,0,none⟩) len len)/\EvAt w' wx.heap.size 0 len h/\wx.heap.size<w'.heap.size/\Below wx.heap.size wx w'/\∀ j,w'.frozen? ⟨wx.heap.size,j,none⟩=false
def hitB (eh:Nat->E3) (kd pr:Int) (i:Nat):Bool:=((eh i).k == kd) && ((eh i).q == pr)
def plN (eh:Nat->E3) (kd pr:Int):Nat->List Nat
 | 0=>[]
 | n+1=>if hitB eh kd pr n=true then plN eh kd pr n ++ [n] else plN eh kd pr n
def valL (eh:Nat->E3) (kd pr:Int) (n:Nat):List Int:=(plN eh kd pr n).map fun i=>(eh i).v
def plI (eh:Nat->E3) (kd pr:Int) (n:Nat):List Int:=(plN eh kd pr n).map fun i:Nat=>(i:Int)
theorem qid (eh:Nat->E3) (kd pr:Int):∀ n,(plN eh kd pr n).length<=n
 | 0=>Nat.le_refl _
 | n+1=>by
  unfold plN
  have:=qid eh kd pr n
  split
  ·simp;omega
  ·omega
theorem qf4 (eh:Nat->E3) (kd pr:Int) (n:Nat):(valL eh kd pr n).length<=n:=by
 unfold valL
 rw [List.length_map]
 exact qid eh kd pr n
theorem qnz (eh:Nat->E3) (kd pr:Int) (n:Nat):(plI eh kd pr n).length<=n:=by
 unfold plI
 rw [List.length_map]
 exact qid eh kd pr n
theorem qod {eh:Nat->E3} {kd pr:Int} {n:Nat} (hh:hitB eh kd pr n=true):valL eh kd pr (n+1)=valL eh kd pr n ++ [(eh n).v]:=by
 unfold valL
 rw [plN,if_pos hh,List.map_append]
 rfl
theorem qjv {eh:Nat->E3} {kd pr:Int} {n:Nat} (hh:hitB eh kd pr n=false):valL eh kd pr (n+1)=valL eh kd pr n:=by
 unfold valL
 rw [plN,if_neg (by rw [hh];decide)]
theorem qjc {eh:Nat->E3} {kd pr:Int} {n:Nat} (hh:hitB eh kd pr n=true):plI eh kd pr (n+1)=plI eh kd pr n ++ [(n:Int)]:=by
 unfold plI
 rw [plN,if_pos hh,List.map_append]
 rfl
theorem qhk {eh:Nat->E3} {kd pr:Int} {n:Nat} (hh:hitB eh kd pr n=false):plI eh kd pr (n+1)=plI eh kd pr n:=by
 unfold plI
 rw [plN,if_neg (by rw [hh];decide)]
structure Tu (lo hi:Nat) (w w':World):Prop where
 os:w'.os=w.os
 tape:w'.tape=w.tape
 output:w'.output=w.output
 size:w.heap.size<=w'.heap.size
 block:∀ k,k<w.heap.size->(k<lo\/hi<=k)->w'.heap[k]? = w.heap[k]?
theorem Tu.of_below {w w':World} (h:Below w.heap.size w w'):Tu 0 0 w w':=⟨h.os,h.tape,h.output,h.size,fun k hk _=>h.block k hk⟩
theorem Tu.of_row {w w':World} {b:Nat} (h:w.grownBy w' (some b)):Tu b (b+1) w w':=⟨h.os,h.tape,h.output,h.size,fun k hk hn=>h.block k hk (by simp;omega)⟩
theorem Tu.below {lo hi B:Nat} {w w':World} (h:Tu lo hi w w') (hB:B<=w.heap.size) (hl:B<=lo):Below B w w':=⟨h.os,h.tape,h.output,h.size,fun k hk=>h.block k (by omega) (.inl (by omega))⟩
theorem OwnI.ofBlock {w w':World} {B:Nat} {u:Value} {xs:List Int} (hu:OwnI w B u xs) (ha:∀ k,u.ownBlock=some k->w'.heap[k]? = w.heap[k]?):OwnI w' B u xs:=by
 rcases hu.2 with ⟨rfl,h0⟩ | ⟨g,cap,cur,rfl,hb,hg,hr⟩
 ·exact ⟨hu.1,.inl ⟨rfl,h0⟩⟩
 ·refine ⟨hu.1,.inr ⟨g,cap,cur,rfl,hb,?_,hr⟩⟩
  rw [ha g rfl]
  exact hg
theorem OwnI.slOf {w:World} {B n cap:Nat} {a0:Option Addr} {xs:List Int} (h:OwnI w B (.slice a0 n cap) xs):Sl w a0 xs:=by
 obtain ⟨a1,c1,e,s⟩:=h.form
 simp only [Value.slice.injEq] at e
 obtain ⟨rfl,-,-⟩:=e
 exact s
structure Tl (w:World) (B C N:Nat) (p c:Int) (ra:Option Addr) (rn rc:Nat) (oa:Option Addr) (on oc:Nat) (rs os:List Int):Prop where
 lo:B<=N
 hi:N<C
 sz:C<=w.heap.size
 box:BoxC w N (.int .i64 p) (.slice ra rn rc) (.slice oa on oc) (.int .i64 c)
 own:qaf w B (stV p ra rn rc oa on oc c) p rs os c
 up:∀ k,qak (stV p ra rn rc oa on oc c) k->k<C
 ne:¬ qak (stV p ra rn rc oa on oc c) N
theorem Tl.tu {w w':World} {B C N:Nat} {p c:Int} {ra:Option Addr} {rn rc:Nat} {oa:Option Addr} {on oc:Nat} {rs os:List Int} {lo hi:Nat} (h:Tl w B C N p c ra rn rc oa on oc rs os) (t:Tu lo hi w w') (hd:C<=lo\/hi<=B):Tl w' B C N p c ra rn rc oa on oc rs os:=by
 obtain ⟨h1,h2,h3,⟨b0,b1,b2,b3⟩,h5,h6,h7⟩:=h
 have hb:∀ k,B<=k->k<C->w'.heap[k]? = w.heap[k]?:=fun k k1 k2=>t.block k (by omega) (by omega)
 have hN:=hb N h1 h2
 refine ⟨h1,h2,zP h3 t.size,⟨(zH hN).trans b0,(zH hN).trans b1,(zH hN).trans b2,(zH hN).trans b3⟩,?_,h6,h7⟩
 obtain ⟨o1,o2,ha⟩:=h5.parts
 refine ⟨_,_,rfl,o1.ofBlock fun k hk=>?_,o2.ofBlock fun k hk=>?_,ha⟩
 ·exact hb k (o1.lt k hk).1 (h6 k ((qas _ _ _ _ _).2 (.inl hk)))
 ·exact hb k (o2.lt k hk).1 (h6 k ((qas _ _ _ _ _).2 (.inr hk)))
theorem Tl.below {w w':World} {B C N:Nat} {p c:Int} {ra:Option Addr} {rn rc:Nat} {oa:Option Addr} {on oc:Nat} {rs os:List Int} (h:Tl w B C N p c ra rn rc oa on oc rs os) (hb:Below w.heap.size w w'):Tl w' B C N p c ra rn rc oa on oc rs os:=h.tu (Tu.of_below hb) (.inr (Nat.zero_le _))
theorem Tl.sl {w:World} {B C N:Nat} {p c:Int} {ra:Option Addr} {rn rc:Nat} {oa:Option Addr} {on oc:Nat} {rs os:List Int} (h:Tl w B C N p c ra rn rc oa on oc rs os):Sl w ra rs/\Sl w oa os:=⟨h.own.parts.1.slOf,h.own.parts.2.1.slOf⟩
theorem Tl.marked {w w':World} {B C N:Nat} {p c:Int} {ra:Option Addr} {rn rc:Nat} {oa:Option Addr} {on oc:Nat} {rs os rs' os':List Int} (h:Tl w B C N p c ra rn rc oa on oc rs os) (ho:qaf w' B (stV p ra rn rc oa on oc c) p rs' os' c) (hm:qbf (stV p ra rn rc oa on oc c) w w'):Tl w' B C N p c ra rn rc oa on oc rs' os':=
 ⟨h.lo,h.hi,zP h.sz hm.size,h.box.marked hm h.ne,ho,h.up,h.ne⟩
theorem Tl.of_alloc {w:World} {B:Nat} {p c:Int} {ra oa:Option Addr} {rn rc on oc:Nat} {rs os:List Int} (h:qaf w B (stV p ra rn rc oa on oc c) p rs os c) (hw:B<=w.heap.size) (t:TypeId):Tl (w.alloc (.cells #[.int .i64 p,.slice ra rn rc,.slice oa on oc,.int .i64 c] t)) B (w.heap.size+1) w.heap.size p c ra rn rc oa on oc rs os:=
 ⟨hw,Nat.lt_succ_self _,by simp,BoxC.new w _ _ _ _ _,h.below (zT _ _),fun k hk=>Nat.lt_succ_of_lt (h.lt hk).2,fun e=>Nat.lt_irrefl _ (h.lt e).2⟩
def Told (w:World) (B N:Nat) (S:S4):Prop:=∃ ra rc oa oc,BoxC w N (.int .i64 S.p) (.slice ra S.rs.length rc) (.slice oa S.os.length oc) (.int .i64 S.c)/\qaf w B (stV S.p ra S.rs.length rc oa S.os.length oc S.c) S.p S.rs S.os S.c/\B<=N/\¬ qak (stV S.p ra S.rs.length rc oa S.os.length oc S.c) N
theorem Told.tl {w:World} {B N:Nat} {S:S4} (h:Told w B N S):∃ ra rc oa oc,Tl w B w.heap.size N S.p S.c ra S.rs.length rc oa S.os.length oc S.rs S.os:=by
 obtain ⟨ra,rc,oa,oc,h1,h2,h3,h4⟩:=h
 exact ⟨ra,rc,oa,oc,h3,zJ w _ h1.1,Nat.le_refl _,h1,h2,fun k hk=>(h2.lt hk).2,h4⟩
theorem BoxC.set4 {w:World} {N:Nat} {z0 z1 z2 z3:Value} (h:BoxC w N z0 z1 z2 z3) (a b c d:Value):BoxC ((((w.setCell ⟨N,0,none⟩ a).setCell ⟨N,1,none⟩ b).setCell ⟨N,2,none⟩ c).setCell ⟨N,3,none⟩ d) N a b c d:=by
 obtain ⟨h0,h1,h2,h3⟩:=h
 exact ⟨by go_cell,by go_cell,by go_cell,by go_cell⟩
theorem qts (w:World) (N:Nat) (a b c d:Value):w.grownBy ((((w.setCell ⟨N,0,none⟩ a).setCell ⟨N,1,none⟩ b).setCell ⟨N,2,none⟩ c).setCell ⟨N,3,none⟩ d) (some N):=by
 repeat (refine zV ?_ (.inl rfl) _)
 exact World.grownBy.refl _ _
theorem Told.of_alloc {w:World} {B B':Nat} {S:S4} {ra oa:Option Addr} {rc oc:Nat} (h:qaf w B' (stV S.p ra S.rs.length rc oa S.os.length oc S.c) S.p S.rs S.os S.c) (hB:B<=B') (hw:B<=w.heap.size) (t:TypeId):Told (w.alloc (.cells #[.int .i64 S.p,.slice ra S.rs.length rc,.slice oa S.os.length oc,.int .i64 S.c] t)) B w.heap.size S:=by
 refine ⟨ra,rc,oa,oc,BoxC.new w _ _ _ _ _,?_,hw,fun e=>Nat.lt_irrefl _ (h.lt e).2⟩
 obtain ⟨vr,vo,e,o1,o2,ha⟩:=h
 exact ⟨vr,vo,e,(o1.below (zT _ _)).mono hB,(o2.below (zT _ _)).mono hB,ha⟩
theorem Told.of_put {w:World} {B B' N:Nat} {S:S4} {ra oa:Option Addr} {rc oc:Nat} {z0 z1 z2 z3:Value} (h:qaf w B' (stV S.p ra S.rs.length rc oa S.os.length oc S.c) S.p S.rs S.os S.c) (hB:B<=B') (hN:N<B') (hw:B<=N) (hZ:BoxC w N z0 z1 z2 z3):Told ((((w.setCell ⟨N,0,none⟩ (.int .i64 S.p)).setCell ⟨N,1,none⟩ (.slice ra S.rs.length rc)).setCell ⟨N,2,none⟩ (.slice oa S.os.length oc)).setCell ⟨N,3,none⟩ (.int .i64 S.c)) B N S:=
 ⟨ra,rc,oa,oc,hZ.set4 _ _ _ _,h.put4 hN hB,hw,fun e=>Nat.not_le_of_lt hN (h.lt e).1⟩
