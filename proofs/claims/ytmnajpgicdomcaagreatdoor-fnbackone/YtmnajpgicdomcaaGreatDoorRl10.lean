import Derived.Test.YtmnajpgicdomcaaGreatDoorRl9
namespace Go.Proofs.YtmnajpgicdomcaaGreatDoor
open Go.ChangeShapes Go.WideShapes Go.ChangeAt Go.RowKit Go.Deep
structure I2 where
 m:Bool
 v:Int
abbrev itV (m:Bool) (v:Int):Value:=.agg #[.bool m,.int .i64 v]
def ItAt (w:World) (b off len:Nat) (h:Nat->I2):Prop:=∀ i,i<len->
 w.cell? ⟨b,off+i*2,none⟩=some (.bool (h i).m)/\w.cell? ⟨b,off+i*2+1,none⟩=some (.int .i64 (h i).v)
theorem ItAt.below {w w':World} {B b off len:Nat} {h:Nat->I2} (hh:ItAt w b off len h) (hb:Below B w w') (hB:b<B):ItAt w' b off len h:=by
 intro i hi;obtain ⟨h0,h1⟩:=hh i hi;exact ⟨(hb.cell hB).trans h0,(hb.cell hB).trans h1⟩
def sumL (ls:Nat->Nat):Nat->Nat
 | 0=>0
 | n+1=>sumL ls n+ls n
def RowS (w:World) (a0:Option Addr) (n:Nat) (f:Nat->Value):Prop:=
 n=0\/∃ b off,a0=some ⟨b,off,none⟩/\b<w.heap.size/\∀ i,i<n->w.cell? ⟨b,off+i,none⟩=some (f i)
theorem RowS.below {w w':World} {a0:Option Addr} {n:Nat} {f:Nat->Value} (h:RowS w a0 n f) (hb:Below w.heap.size w w'):RowS w' a0 n f:=by
 rcases h with h | ⟨b,off,e,hlt,hc⟩
 ·exact .inl h
 ·exact .inr ⟨b,off,e,zL hlt hb.size,fun i hi=>(hb.cell (p:=⟨b,off+i,none⟩) hlt).trans (hc i hi)⟩
theorem RowS.at {w:World} {a0:Option Addr} {n:Nat} {f:Nat->Value} (h:RowS w a0 n f) {k:Nat} (hk:k<n):∃ b off,a0=some ⟨b,off,none⟩/\w.cell? ⟨b,off+k,none⟩=some (f k):=by
 rcases h with rfl | ⟨b,off,e,-,hc⟩
 ·omega
 ·exact ⟨b,off,e,hc k hk⟩
structure qau (P:Nat->Prop) (w w':World):Prop where
 os:w'.os=w.os
 tape:w'.tape=w.tape
 output:w'.output=w.output
 size:w.heap.size<=w'.heap.size
 block:∀ k,k<w.heap.size->¬ P k->w'.heap[k]? = w.heap[k]?
theorem qau.refl (P:Nat->Prop) (w:World):qau P w w:=⟨rfl,rfl,rfl,Nat.le_refl _,fun _ _ _=>rfl⟩
theorem qau.trans {P:Nat->Prop} {a b c:World} (h:qau P a b) (k:qau P b c):qau P a c:=
 ⟨k.os.trans h.os,k.tape.trans h.tape,k.output.trans h.output,zP h.size k.size,fun i hi hn=>(k.block i (zL hi h.size) hn).trans (h.block i hi hn)⟩
theorem qau.mono {P Q:Nat->Prop} {w w':World} (h:qau P w w') (hq:∀ k,P k->Q k):qau Q w w':=
 ⟨h.os,h.tape,h.output,h.size,fun k hk hn=>h.block k hk fun hp=>hn (hq k hp)⟩
theorem qau.of_below {P:Nat->Prop} {w w':World} (h:Below w.heap.size w w'):qau P w w':=
 ⟨h.os,h.tape,h.output,h.size,fun k hk _=>h.block k hk⟩
theorem qau.of_set {P:Nat->Prop} (w:World) {a:Addr} (ha:P a.block) (u:Value):qau P w (w.setCell a u):=
 ⟨rfl,rfl,rfl,by simp [World.setCell],fun k _ hn=>zO _ _ _ _ fun e=>hn (e ▸ ha)⟩
theorem qau.below {P:Nat->Prop} {w w':World} {B:Nat} (h:qau P w w') (hB:B<=w.heap.size) (hp:∀ k,P k->B<=k):Below B w w':=
 ⟨h.os,h.tape,h.output,h.size,fun k hk=>h.block k (by omega) fun e=>by have:=hp k e;omega⟩
theorem qau.cell {P:Nat->Prop} {w w':World} (h:qau P w w') {b:Nat} (hb:b<w.heap.size) (hp:¬ P b) (j:Nat):w'.cell? ⟨b,j,none⟩=w.cell? ⟨b,j,none⟩:=zH (h.block b hb hp)
theorem qau.frozen {P:Nat->Prop} {w w':World} (h:qau P w w') {b:Nat} (hb:b<w.heap.size) (hp:¬ P b) (j:Nat):w'.frozen? ⟨b,j,none⟩=w.frozen? ⟨b,j,none⟩:=zI (h.block b hb hp)
structure St8 where
 p:Int
 ra:Option Addr
 rc:Nat
 rs:List Int
 oa:Option Addr
 oc:Nat
 os:List Int
 c:Int
def St8.s (x:St8):S4:=⟨x.p,x.rs,x.os,x.c⟩
def lenS (S:Nat->S4) (i:Nat):Nat:=(S i).rs.length+(S i).os.length
structure qds (W:World) (a0:Option Addr) (n:Nat) (q:Nat->St8):Prop where
 row:n=0\/∃ b off,a0=some ⟨b,off,none⟩/\b<W.heap.size/\∀ i,i<n->W.cell? ⟨b,off+i*4,none⟩=some (.int .i64 (q i).p)/\W.cell? ⟨b,off+i*4+1,none⟩=some (.slice (q i).ra (q i).rs.length (q i).rc)/\W.cell? ⟨b,off+i*4+2,none⟩=some (.slice (q i).oa (q i).os.length (q i).oc)/\W.cell? ⟨b,off+i*4+3,none⟩=some (.int .i64 (q i).c)
 lst:∀ i,i<n->Sl W (q i).ra (q i).rs/\Sl W (q i).oa (q i).os
theorem qds.below {w w':World} {a0:Option Addr} {n:Nat} {q:Nat->St8} (h:qds w a0 n q) (hb:Below w.heap.size w w'):qds w' a0 n q:=by
 refine ⟨?_,fun i hi=>⟨(h.lst i hi).1.below hb,(h.lst i hi).2.below hb⟩⟩
 rcases h.row with h | ⟨b,off,e,hlt,hc⟩
 ·exact .inl h
 ·exact .inr ⟨b, off, e, Nat.lt_of_lt_of_le hlt hb.size, fun i hi => by
   obtain ⟨h0,h1,h2,h3⟩:=hc i hi
   exact ⟨(hb.cell hlt).trans h0,(hb.cell hlt).trans h1,(hb.cell hlt).trans h2,(hb.cell hlt).trans h3⟩⟩
theorem qds.at {w:World} {a0:Option Addr} {n:Nat} {q:Nat->St8} (h:qds w a0 n q) {k:Nat} (hk:k<n):∃ b off,a0=some ⟨b,off,none⟩/\w.cell? ⟨b,off+k*4,none⟩=some (.int .i64 (q k).p)/\w.cell? ⟨b,off+k*4+1,none⟩=some (.slice (q k).ra (q k).rs.length (q k).rc)/\w.cell? ⟨b,off+k*4+2,none⟩=some (.slice (q k).oa (q k).os.length (q k).oc)/\w.cell? ⟨b,off+k*4+3,none⟩=some (.int .i64 (q k).c):=by
 rcases h.row with rfl | ⟨b,off,e,-,hc⟩
 ·omega
 ·exact ⟨b,off,e,hc k hk⟩
theorem qnb {w w':World} {B size n:Nat} {e:TypeId} {v:Value} {xs:List Value} (h:w.ownsRow B e size v n xs) (hb:∀ k,v.ownBlock=some k->w'.heap[k]? = w.heap[k]?):w'.ownsRow B e size v n xs:=by
 obtain ⟨h0,h⟩:=h;refine ⟨h0,?_⟩
 rcases h with h | ⟨g,cap,cur,rfl,h1,h2,h3⟩
 ·exact .inl h
 ·exact .inr ⟨g,cap,cur,rfl,h1,(hb g rfl).trans h2,h3⟩
theorem OwnI.blk {w w':World} {B:Nat} {v:Value} {xs:List Int} (h:OwnI w B v xs) (hb:∀ k,v.ownBlock=some k->w'.heap[k]? = w.heap[k]?):OwnI w' B v xs:=qnb h hb
theorem qaf.blk {w w':World} {B:Nat} {v:Value} {p code:Int} {rs os:List Int} (h:qaf w B v p rs os code) (hb:∀ k,qam v k->w'.heap[k]? = w.heap[k]?):qaf w' B v p rs os code:=by
 obtain ⟨vr,vo,rfl,h1,h2,h3⟩:=h;exact ⟨vr,vo,rfl,h1.blk fun k hk=>hb k ((qav _ _ _ _ _).2 (.inl hk)),h2.blk fun k hk=>hb k ((qav _ _ _ _ _).2 (.inr hk)),h3⟩
def Cel4 (w:World) (D j:Nat) (S:S4) (v:Value):Prop:=∃ ra rc oa oc,v=stV S.p ra S.rs.length rc oa S.os.length oc S.c/\w.cell? ⟨D,j,none⟩=some (.int .i64 S.p)/\w.cell? ⟨D,j+1,none⟩=some (.slice ra S.rs.length rc)/\w.cell? ⟨D,j+2,none⟩=some (.slice oa S.os.length oc)/\w.cell? ⟨D,j+3,none⟩=some (.int .i64 S.c)
theorem Cel4.blk {w w':World} {D j:Nat} {S:S4} {v:Value} (h:Cel4 w D j S v) (hb:w'.heap[D]? = w.heap[D]?):Cel4 w' D j S v:=by
 obtain ⟨ra,rc,oa,oc,e,h0,h1,h2,h3⟩:=h;exact ⟨ra,rc,oa,oc,e,(zH hb).trans h0,(zH hb).trans h1,(zH hb).trans h2,(zH hb).trans h3⟩
theorem qvi:(Tryz.prog.info? 56).map (fun i=>(i.zero,i.size,i.bytes))=some (some (stV 0 none 0 0 none 0 0 0),4,64):=by kernel_rfl
def EvL (w:World) (a:Option Addr) (len:Nat) (h:Nat->E3):Prop:=len=0\/∃ b off,a=some ⟨b,off,none⟩/\b<w.heap.size/\EvAt w b off len h
theorem EvL.below {w w':World} {a:Option Addr} {len:Nat} {h:Nat->E3} (hh:EvL w a len h) (hb:Below w.heap.size w w'):EvL w' a len h:=by
 rcases hh with e | ⟨b,off,e,hlt,hc⟩
 ·exact .inl e
 ·exact .inr ⟨b,off,e,zL hlt hb.size,hc.below hb hlt⟩
theorem EvL.at {w:World} {a:Option Addr} {len:Nat} {h:Nat->E3} (hh:EvL w a len h) {k:Nat} (hk:k<len):∃ b off,a=some ⟨b,off,none⟩/\b<w.heap.size/\w.cell? ⟨b,off+k*3,none⟩=some (.int .i64 (h k).k)/\w.cell? ⟨b,off+k*3+1,none⟩=some (.int .i64 (h k).q)/\w.cell? ⟨b,off+k*3+2,none⟩=some (.int .i64 (h k).v):=by
 rcases hh with rfl | ⟨b,off,e,hlt,hc⟩
 ·omega
 ·exact ⟨b,off,e,hlt,hc k hk⟩
theorem EvL.take {w:World} {a:Option Addr} {len:Nat} {h:Nat->E3} (hh:EvL w a len h) {k:Nat} (hk:k<=len):EvL w a k h:=by
 rcases hh with rfl | ⟨b,off,e,hlt,hc⟩
 ·exact .inl (by omega)
 ·exact .inr ⟨b,off,e,hlt,fun i hi=>hc i (by omega)⟩
theorem EvL.one {w:World} {b off len:Nat} {h:Nat->E3} (hh:EvL w (some ⟨b,off,none⟩) len h) {k:Nat} (hk:k<len):EvAt w b off len h/\b<w.heap.size:=by
 rcases hh with rfl | ⟨b',off',e,hlt,hc⟩
 ·omega
 ·simp only [Option.some.injEq,Addr.mk.injEq] at e
  obtain ⟨rfl,rfl,-⟩:=e;exact ⟨hc,hlt⟩
