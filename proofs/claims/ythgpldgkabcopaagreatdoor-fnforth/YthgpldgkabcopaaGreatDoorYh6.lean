import Derived.Test.YthgpldgkabcopaaGreatDoorYh1
import Derived.Maps.AppendAt
import Derived.Maps.Range
import Derived.Deep.Onto
import Derived.Deep.Slices
import Derived.Deep.RegionWith
import Derived.Deep.QuietTactic
import Derived.BigQuiet
import Derived.Laws.IdiomCopy
import Derived.Lib.QuietBelow
import Derived.ChangeKeysEq
namespace Go.Proofs.YthgpldgkabcopaaGreatDoor
set_option maxRecDepth 100000
set_option maxHeartbeats 1000000
open Go.RowKit
def zi (xs:List Int) (i:Nat):Int:=xs.getD i 0
def Sl (w:World) (a0:Option Addr) (xs:List Int):Prop:=
 xs=[]\/∃ b off,a0=some ⟨b,off,none⟩/\b<w.heap.size/\∀ i,i<xs.length->w.cell? ⟨b,off+i,none⟩=some (.int .i64 (zi xs i))
theorem Sl.below {w w':World} {a0:Option Addr} {xs:List Int} (h:Sl w a0 xs) (hb:Bw w w'):Sl w' a0 xs:=by
 rcases h with h | ⟨b,off,e,hlt,hc⟩
 ·exact .inl h
 ·exact .inr ⟨b,off,e,zL hlt hb.size,fun i hi=>(hb.cell (p:=⟨b,off+i,none⟩) hlt).trans (hc i hi)⟩
theorem Sl.at {w:World} {a0:Option Addr} {xs:List Int} (h:Sl w a0 xs) {k:Nat} (hk:k<xs.length):∃ b off,a0=some (aQ b off)/\b<w.heap.size/\w.cell? ⟨b,off+k,none⟩=some (.int .i64 (zi xs k)):=by
 rcases h with rfl | ⟨b,off,e,hlt,hc⟩
 ·simp at hk
 ·exact ⟨b,off,e,hlt,hc k hk⟩
def OwnI (w:World) (B:Nat) (v:Value) (xs:List Int):Prop:=w.ownsRow B 3 1 v xs.length (xs.map (Value.int .i64))
theorem OwnI.mono {w:World} {B B':Nat} {v:Value} {xs:List Int} (h:OwnI w B v xs) (hb:B'<=B):OwnI w B' v xs:=World.ownsRow.mono h hb
theorem OwnI.kept {w w':World} {B:Nat} {v:Value} {xs:List Int} {row:Option Nat} (h:OwnI w B v xs) (hg:w.grownBy w' row) (hne:v.ownBlock=none\/v.ownBlock≠row):OwnI w' B v xs:=World.ownsRow.kept h hg hne
theorem OwnI.lt {w:World} {B:Nat} {v:Value} {xs:List Int} (h:OwnI w B v xs):∀ k,v.ownBlock=some k->B<=k/\k<w.heap.size:=World.ownsRow.lt h
theorem zZ {w w':World} (h:Bw w w'):w.grownBy w' none:=⟨h.os,h.tape,h.output,h.size,fun k hk _=>h.block k hk⟩
theorem qdd {w w':World} (h:w.grownBy w' none):Bw w w':=⟨h.os,h.tape,h.output,h.size,fun k hk=>h.block k hk (by simp)⟩
theorem OwnI.below {w w':World} {B:Nat} {v:Value} {xs:List Int} (h:OwnI w B v xs) (hb:Bw w w'):OwnI w' B v xs:=by
 refine h.kept (zZ hb) ?_
 cases hv:v.ownBlock with
 | none=>exact .inl rfl
 | some k=>exact .inr (by simp)
theorem yE {B:Nat} {w w':World} (h:Below B w w') (n:Nat):Below B w (w'.drewN n):=⟨h.os,h.tape,h.output,h.size,h.block⟩
theorem qec (xs:List Int) (j:Nat) (hj:j<xs.length):(xs.map (Value.int .i64))[j]? = some (.int .i64 (zi xs j)):=by
 unfold zi
 rw [List.getElem?_map,List.getElem?_eq_getElem hj,List.getD_eq_getElem?_getD,List.getElem?_eq_getElem hj];rfl
theorem OwnI.form {w:World} {B:Nat} {v:Value} {xs:List Int} (h:OwnI w B v xs):∃ a0 cap,v=.slice a0 xs.length cap/\Sl w a0 xs:=by
 rcases h.2 with ⟨rfl,h0⟩ | ⟨g,cap,cur,rfl,hb,_⟩
 ·exact ⟨none,0,by rw [h0],.inl (List.eq_nil_of_length_eq_zero h0)⟩
 ·refine ⟨_,cap,rfl,.inr ⟨g,0,rfl,(h.lt g rfl).2,fun i hi=>?_⟩⟩
  rw [Nat.zero_add,World.ownsRow.cellAt h i (by omega)]
  exact qec xs i hi
theorem OwnI.block {w:World} {B:Nat} {v:Value} {xs:List Int} (h:OwnI w B v xs) (hn:0<xs.length):∃ g cap,v=.slice (some (aQ g 0)) xs.length cap/\B<=g/\g<w.heap.size:=by
 rcases h.2 with ⟨_,h0⟩ | ⟨g,cap,cur,rfl,hb,_⟩
 ·omega
 ·exact ⟨g,cap,rfl,hb,(h.lt g rfl).2⟩
theorem OwnI.cell {w:World} {B g cap:Nat} {xs:List Int} (h:OwnI w B (.slice (some (aQ g 0)) xs.length cap) xs) {j:Nat} (hj:j<xs.length):w.cell? (aQ g j)=some (.int .i64 (zi xs j)):=by
 rw [World.ownsRow.cellAt h j (by omega)]
 exact qec xs j hj
theorem OwnI.frozen {w:World} {B g cap:Nat} {xs:List Int} (h:OwnI w B (.slice (some (aQ g 0)) xs.length cap) xs) (j:Nat):w.frozen? (aQ g j)=false:=World.ownsRow.frozenAt h j
theorem OwnI.set {w:World} {B g cap n:Nat} {xs:List Int} (h:OwnI w B (.slice (some (aQ g 0)) n cap) xs) (hn:n=xs.length) (j:Nat) (x:Int):OwnI (w.setCell (aQ g j) (.int .i64 x)) B (.slice (some (aQ g 0)) n cap) (xs.set j x)/\w.grownBy (w.setCell (aQ g j) (.int .i64 x)) (some g):=by
 subst hn
 have:=World.ownsRow.stored h j (.int .i64 x)
 unfold OwnI
 rw [List.length_set,List.map_set]
 exact this
theorem qox {xs ys:List Int} (hl:xs.length=ys.length) (h:∀ i,i<xs.length->zi xs i=zi ys i):xs=ys:=by
 apply List.ext_getElem hl
 intro i h1 h2
 have:=h i h1
 unfold zi at this
 rwa [List.getD_eq_getElem?_getD,List.getD_eq_getElem?_getD,List.getElem?_eq_getElem h1,List.getElem?_eq_getElem h2,Option.getD_some,Option.getD_some] at this
theorem qjn (xs:List Int) (j:Nat) (x:Int) (hj:j<xs.length):zi (xs.set j x) j=x:=by
 unfold zi
 rw [List.getD_eq_getElem?_getD,List.getElem?_set,if_pos rfl,if_pos hj];rfl
theorem qnp (xs:List Int) (i j:Nat) (x:Int) (h:i≠j):zi (xs.set j x) i=zi xs i:=by
 unfold zi
 rw [List.getD_eq_getElem?_getD,List.getElem?_set,if_neg (fun e=>h e.symm),List.getD_eq_getElem?_getD]
theorem qns:(Tryz.prog.info? 3).map (fun i=>(i.zero,i.size,i.bytes))=some (some (.int .i64 0),1,8):=by kernel_rfl
theorem qcp (n:Nat) (hn:n<=1048576) (w:World):
  (Instr.makeSlice 40 (.int .i64 (n:Int)) (.int .i64 (n:Int))).run Tryz.prog w=.ok (.slice (some (aQ w.heap.size 0)) n n) (w.alloc (.cells (madeCells #[.int .i64 0] n) 3)):=by
 have hinfo:=qns
 cases hi:Tryz.prog.info? 3 with
 | none=>rw [hi] at hinfo;cases hinfo
 | some i=>
  rw [hi] at hinfo
  simp only [Option.map_some,Option.some.injEq,Prod.mk.injEq] at hinfo
  obtain ⟨hz,hs,hb⟩:=hinfo
  have h:=run_make (P:=Tryz.prog) w 40 3 i _ Tryz.underlying40 hi hz .i64 .i64 (n:Int) (n:Int) (by omega) (Int.le_refl _) (by rw [hb];omega) (by omega)
  rw [hs] at h
  simpa [Value.cells] using h
theorem qj8 (w:World) (n:Nat) (hn:n<=1048576):OwnI (w.alloc (.cells (madeCells #[.int .i64 0] n) 3)) w.heap.size (.slice (some (aQ w.heap.size 0)) n n) (List.replicate n 0):=by
 have:=World.ownsRow_lit (base:=w.heap.size) (e:=3) (size:=1) w (madeCells #[.int .i64 0] n) n (Nat.le_refl _) (by unfold maxLen;omega) (by simp [size_madeCells])
 rw [toList_madeCells_one] at this
 unfold OwnI
 rw [List.length_replicate,List.map_replicate]
 exact this
abbrev stV (p:Int) (ra:Option Addr) (rn rc:Nat) (oa:Option Addr) (on oc:Nat) (code:Int):Value:=.agg #[.int .i64 p,.slice ra rn rc,.slice oa on oc,.int .i64 code]
abbrev evV (k p v:Int):Value:=.agg #[.int .i64 k,.int .i64 p,.int .i64 v]
theorem qai {W w1:World} (hb:Bw W w1):(∀ b o,b<W.heap.size->w1.cell? ⟨b,o,none⟩=W.cell? ⟨b,o,none⟩)/\(∀ b o,b<W.heap.size->w1.frozen? ⟨b,o,none⟩=W.frozen? ⟨b,o,none⟩):=
 ⟨fun b o h=>hb.cell (p:=(aQ b o)) h,fun b o h=>hb.frozen (p:=(aQ b o)) h⟩
theorem OwnI.setBelow {w:World} {B:Nat} {v:Value} {xs:List Int} (h:OwnI w B v xs) {a:Addr} (ha:a.block<B) (u:Value):OwnI (w.setCell a u) B v xs:=ownsRow_setCell_below h ha u
def qag (w:World) (B:Nat) (v:Value) (p:Int) (rs os:List Int) (code:Int):Prop:=
 ∃ vr vo,v=.agg #[.int .i64 p,vr,vo,.int .i64 code]/\OwnI w B vr rs/\OwnI w B vo os/\∀ k,vr.ownBlock=some k->vo.ownBlock≠some k
theorem qag.below {w w':World} {B:Nat} {v:Value} {p code:Int} {rs os:List Int} (h:qag w B v p rs os code) (hb:Bw w w'):qag w' B v p rs os code:=by
 obtain ⟨vr,vo,e,h1,h2,h3⟩:=h
 exact ⟨vr,vo,e,h1.below hb,h2.below hb,h3⟩
theorem qag.mono {w:World} {B B':Nat} {v:Value} {p code:Int} {rs os:List Int} (h:qag w B v p rs os code) (hb:B'<=B):qag w B' v p rs os code:=by
 obtain ⟨vr,vo,e,h1,h2,h3⟩:=h
 exact ⟨vr,vo,e,h1.mono hb,h2.mono hb,h3⟩
theorem qag.read {w:World} {B:Nat} {v:Value} {p code:Int} {rs os:List Int} (h:qag w B v p rs os code):∃ ra rc oa oc,v=stV p ra rs.length rc oa os.length oc code/\Sl w ra rs/\Sl w oa os:=by
 obtain ⟨vr,vo,rfl,h1,h2,_⟩:=h
 obtain ⟨ra,rc,rfl,s1⟩:=h1.form
 obtain ⟨oa,oc,rfl,s2⟩:=h2.form
 exact ⟨ra,rc,oa,oc,rfl,s1,s2⟩
theorem qam {w w0 w1:World} {B:Nat} (h:Below B w w0) (h1:Bw w0 w1) (hB:B<=w0.heap.size):Below B w w1:=h.trans (h1.mono hB)
abbrev regV (a b c d:Int):Value:=.agg #[.int .i64 a,.int .i64 b,.int .i64 c,.int .i64 d]
theorem qod:(Tryz.prog.info? 3).map (·.size)=some 1:=by kernel_rfl
def cmax (x:Int):Int:=if x < -1000000000 then -1000000000 else x
def cmin (x:Int):Int:=if 1000000000<x then 1000000000 else x
def qbn (x:Int):Int:=cmin (cmax x)
theorem quo (ts:Array TypeId) (t:TypeId) (x:Int) (w:World):(Builtin.max_ ts t #[.int .i64 x,.int .i64 (-1000000000)]).run Tryz.prog w=.ok (.int .i64 (cmax x)) w:=by
 rw [run_max_int2];rfl
theorem qup (ts:Array TypeId) (t:TypeId) (x:Int) (w:World):(Builtin.min_ ts t #[.int .i64 x,.int .i64 1000000000]).run Tryz.prog w=.ok (.int .i64 (cmin x)) w:=by
 rw [run_min_int2];rfl
theorem qqv (a b c d:Int) (w:World):(Instr.index 199 (regV a b c d) (.int .i64 0)).run Tryz.prog w=.ok (.int .i64 a) w:=by kernel_rfl
theorem qqw (a b c d:Int) (w:World):(Instr.index 199 (regV a b c d) (.int .i64 1)).run Tryz.prog w=.ok (.int .i64 b) w:=by kernel_rfl
theorem qqx (a b c d:Int) (w:World):(Instr.index 199 (regV a b c d) (.int .i64 2)).run Tryz.prog w=.ok (.int .i64 c) w:=by kernel_rfl
theorem qqy (a b c d:Int) (w:World):(Instr.index 199 (regV a b c d) (.int .i64 3)).run Tryz.prog w=.ok (.int .i64 d) w:=by kernel_rfl
section
attribute [local go_sem] qqv qqw qqx qqy
theorem qc7 (a b c d:Int) (w:World):
  Calls Tryz.prog 169 #[regV a b c d] w fun e w'=>e=.returned (regV (qbn a) (qbn b) (qbn c) (qbn d))/\Bw w w':=by
 have hmx:=quo
 have hmn:=qup
 go_enter Tryz.func169,Tryz.ntmps169
 go_wp2_with fail
 go_rounds 5
 refine bodyPost_ret (v:=regV (qbn a) (qbn b) (qbn c) (qbn d)) (by simp [results,Tryz.results169,go_sem,qbn]) rfl ⟨rfl,?_⟩
 go_grown
end
theorem qey (x:Int) (w:World):
  Calls Tryz.prog 170 #[.int .i64 x] w fun e w'=>e=.returned (.bool (inB x 0 2))/\w'=w:=by
 by_cases h0:x=0
 ·subst h0
  go_enter Tryz.func170,Tryz.ntmps170
  go_wp2
  go_ret
  exact ⟨rfl,rfl⟩
 ·have h0':(x == 0)=false:=by simp [h0]
  by_cases h1:x=1
  ·subst h1
   go_enter Tryz.func170,Tryz.ntmps170
   go_wp2
   go_ret
   exact ⟨rfl,rfl⟩
  ·have h1':(x == 1)=false:=by simp [h1]
   have hv:inB x 0 2=(x == 2):=by
    rw [Bool.eq_iff_iff];simp [inB];omega
   have HV:Hid (inB x 0 2=(x == 2)):=hv
   clear h0 h1 hv
   go_enter Tryz.func170,Tryz.ntmps170
   go_wp2
   go_ret
   exact ⟨by rw [HV.out];rfl,rfl⟩
theorem qel (w:World) (z cs:Array Value) (t:TypeId):(w.alloc (.cells z t)).setRow w.heap.size cs=w.alloc (.cells cs t):=by
 have h:((w.alloc (.cells z t)).setRow w.heap.size cs).heap=(w.alloc (.cells cs t)).heap:=by
  apply Array.ext_getElem?
  intro k
  by_cases hk:k=w.heap.size
  ·subst hk
   rw [setRow_heap _ _ z cs t (0,0) (heap_alloc_new w _)]
   exact (heap_alloc_new w _).symm
  ·rw [setRow_other _ _ _ _ hk]
   show (w.heap.push _)[k]? = (w.heap.push _)[k]?
   rw [Array.getElem?_push,Array.getElem?_push,if_neg hk,if_neg hk]
 show World.mk _ _ _ _ _=World.mk _ _ _ _ _
 congr 1
theorem qst (w:World) (a:Addr) (sLen cap:Nat) (cs:List Value) (z:Array Value) (hz:z.size=4) (hn:cs.length=Nat.min sLen 4) (hsrc:∀ j v,cs[j]? = some v->(w.alloc (.cells z 199)).cell? (a.add j)=some v) (h1:∀ v ∈ cs,v.oneCell'=true):
  (Builtin.copy_ #[40,40] 3 #[.slice (some (aQ w.heap.size 0)) 4 4,.slice (some a) sLen cap]).run Tryz.prog (w.alloc (.cells z 199))=.ok (goInt cs.length) (w.alloc (.cells (cs ++ z.toList.drop cs.length).toArray 199)):=by
 have h:=run_copy_row (P:=Tryz.prog) (w.alloc (.cells z 199)) 40 40 3 3 w.heap.size 0 4 4 a sLen cap z 199 cs Tryz.underlying40 qod (heap_alloc_new w _) hn hsrc (by rw [hz,hn,Nat.zero_add];exact Nat.min_le_right _ _) h1
 rw [h,qel]
 simp only [List.take_zero,List.nil_append,Nat.zero_add]
theorem qtn (b off j:Nat):Addr.add ⟨b,off,none⟩ j=⟨b,off+j,none⟩:=by
 unfold Addr.add
 by_cases h:j=0
 ·rw [if_pos h,h,Nat.add_zero]
 ·rw [if_neg h]
theorem qic {w w':World} {b off:Nat} {xs:List Int} (h:Sl w (some ⟨b,off,none⟩) xs) (hb:Bw w w'):∀ j v,(xs.map (Value.int .i64))[j]? = some v->w'.cell? (Addr.add ⟨b,off,none⟩ j)=some v:=by
 intro j v hj
 have hl:j<xs.length:=by
  apply Classical.byContradiction
  intro hn
  rw [List.getElem?_eq_none (by simp;omega)] at hj
  cases hj
 rw [qec xs j hl] at hj
 rw [qtn,<- hj]
 obtain ⟨b',off',e,hlt,hc⟩:=(h.below hb).at hl
 simp only [Option.some.injEq,Addr.mk.injEq,and_true] at e
 obtain ⟨rfl,rfl⟩:=e
 exact hc
theorem qfx (xs:List Int):∀ v ∈ xs.map (Value.int .i64),v.oneCell'=true:=by
 intro v hv
 obtain ⟨x,_,rfl⟩:=List.mem_map.1 hv
 rfl
abbrev qq8:Obj:=.cells #[.int .i64 0,.int .i64 0,.int .i64 0,.int .i64 0] 199
theorem qd9 (a0:Option Addr) (n cap q:Nat) (r0 r1 r2 r3:Int) (w:World)
  (hrun:(Builtin.copy_ #[40,40] 3 #[.slice (some ⟨w.heap.size+1,0,none⟩) 4 4,.slice a0 n cap]).run Tryz.prog ((w.alloc qq8).alloc qq8)=.ok (goInt q) ((w.alloc qq8).alloc (.cells #[.int .i64 r0,.int .i64 r1,.int .i64 r2,.int .i64 r3] 199))):
  Calls Tryz.prog 156 #[.slice a0 n cap] w fun e w'=>e=.returned (.tuple #[regV r0 r1 r2 r3,.bool ((n:Int) == 4)])/\Bw w w':=by
 go_enter Tryz.func156,Tryz.ntmps156
 go_wp2
 refine bodyPost_ret (v:=.tuple #[regV r0 r1 r2 r3,.bool ((n:Int) == 4)]) (by simp [results,Tryz.results156,go_sem]) rfl ⟨rfl,?_⟩
 go_grown
theorem qbr (b off n cap:Nat) (cs:List Int) (r0 r1 r2 r3:Int) (w:World) (hn:cs.length=Nat.min n 4) (h:Sl w (some (aQ b off)) cs)
  (hr:(cs.map (Value.int .i64) ++ [Value.int .i64 0,.int .i64 0,.int .i64 0,.int .i64 0].drop cs.length).toArray=#[.int .i64 r0,.int .i64 r1,.int .i64 r2,.int .i64 r3]):
  Calls Tryz.prog 156 #[.slice (some (aQ b off)) n cap] w fun e w'=>e=.returned (.tuple #[regV r0 r1 r2 r3,.bool ((n:Int) == 4)])/\Bw w w':=by
 have hb:Bw w ((w.alloc qq8).alloc qq8):=by go_grown
 have hrun:=qst (w.alloc qq8) ⟨b,off,none⟩ n cap (cs.map (Value.int .i64)) #[.int .i64 0,.int .i64 0,.int .i64 0,.int .i64 0] rfl (by rw [List.length_map];exact hn) (qic h hb) (qfx cs)
 rw [List.length_map,hr] at hrun
 rw [World.size_alloc] at hrun
 exact qd9 _ n cap _ r0 r1 r2 r3 w hrun
theorem qg8 (a0:Option Addr) (cap:Nat) (w:World):
  Calls Tryz.prog 156 #[.slice a0 0 cap] w fun e w'=>e=.returned (.tuple #[regV 0 0 0 0,.bool ((0:Int) == 4)])/\Bw w w':=
 qd9 a0 0 cap 0 0 0 0 0 w (run_copy_none _ _ _ _ 3 _ _ _ _ _ _ Tryz.underlying40 qod rfl)
theorem Sl.sub {w:World} {b off:Nat} {xs ys:List Int} (h:Sl w (some (aQ b off)) xs) (hp:∃ t,xs=ys ++ t):Sl w (some (aQ b off)) ys:=by
 obtain ⟨t,rfl⟩:=hp
 by_cases h0:ys=[]
 ·exact .inl h0
 ·rcases h with h | ⟨b',off',e,hlt,hc⟩
  ·simp at h;exact .inl h.1
  ·refine .inr ⟨b',off',e,hlt,fun i hi=>?_⟩
   have:=hc i (by simp;omega)
   unfold zi at this ⊢
   rwa [List.getD_eq_getElem?_getD,List.getElem?_append_left hi,<- List.getD_eq_getElem?_getD] at this
theorem qci (a0:Option Addr) (cap:Nat) (xs:List Int) (w:World) (h:Sl w a0 xs):
  Calls Tryz.prog 156 #[.slice a0 xs.length cap] w fun e w'=>(∃ r0 r1 r2 r3,e=.returned (.tuple #[regV r0 r1 r2 r3,.bool ((xs.length:Int) == 4)])/\(xs.length=4->xs=[r0,r1,r2,r3]))/\Bw w w':=by
 match xs,h with
 | [],_=>exact (qg8 a0 cap w).mono fun e w' ⟨he,hb⟩=>⟨⟨0,0,0,0,he,fun h=>by cases h⟩,hb⟩
 | [a],h=>
  obtain ⟨b,off,rfl,_⟩:=h.at (k:=0) (by simp)
  exact (qbr b off 1 cap [a] a 0 0 0 w rfl h rfl).mono fun e w' ⟨he,hb⟩=>⟨⟨_,_,_,_,he,fun h=>by cases h⟩,hb⟩
 | [a,c],h=>
  obtain ⟨b,off,rfl,_⟩:=h.at (k:=0) (by simp)
  exact (qbr b off 2 cap [a,c] a c 0 0 w rfl h rfl).mono fun e w' ⟨he,hb⟩=>⟨⟨_,_,_,_,he,fun h=>by cases h⟩,hb⟩
 | [a,c,d],h=>
  obtain ⟨b,off,rfl,_⟩:=h.at (k:=0) (by simp)
  exact (qbr b off 3 cap [a,c,d] a c d 0 w rfl h rfl).mono fun e w' ⟨he,hb⟩=>⟨⟨_,_,_,_,he,fun h=>by cases h⟩,hb⟩
 | [a,c,d,f],h=>
  obtain ⟨b,off,rfl,_⟩:=h.at (k:=0) (by simp)
  exact (qbr b off 4 cap [a,c,d,f] a c d f w rfl h rfl).mono fun e w' ⟨he,hb⟩=>⟨⟨_,_,_,_,he,fun _=>rfl⟩,hb⟩
 | a :: c :: d :: f :: g :: t,h=>
  obtain ⟨b,off,rfl,_⟩:=h.at (k:=0) (by simp)
  exact (qbr b off (a :: c :: d :: f :: g :: t).length cap [a,c,d,f] a c d f w (by simp) (h.sub ⟨g :: t,rfl⟩) rfl).mono fun e w' ⟨he,hb⟩=>⟨⟨_,_,_,_,he,fun h=>by simp at h⟩,hb⟩
open Go.Sort
def numB (x:Int):Bool:=inB x (-1000000000) 1000000000
def allN (xs:List Int):Bool:=xs.all numB
theorem qtj {xs:List Int} {k:Nat} (hk:k<xs.length):zi xs k ∈ xs:=by
 unfold zi
 rw [List.getD_eq_getElem?_getD,List.getElem?_eq_getElem hk]
 exact List.getElem_mem hk
theorem qpw {xs:List Int} {k:Nat} (hk:k<xs.length) (h:numB (zi xs k)=false):allN xs=false:=by
 rw [allN,List.all_eq_false]
 exact ⟨_,qtj hk,by simp [h]⟩
theorem qw2 {xs:List Int} {x:Int} (h:x ∈ xs):∃ k,k<xs.length/\zi xs k=x:=by
 obtain ⟨k,hk,e⟩:=List.getElem_of_mem h
 refine ⟨k,hk,?_⟩
 unfold zi
 rw [List.getD_eq_getElem?_getD,List.getElem?_eq_getElem hk]
 exact e
theorem qrb {xs:List Int} (h:∀ k,k<xs.length->numB (zi xs k)=true):allN xs=true:=by
 rw [allN,List.all_eq_true]
 intro x hx
 obtain ⟨k,hk,rfl⟩:=qw2 hx
 exact h k hk
def outB (xs:List Int):Bool:=decide ((xs.length:Int)<=60) && allN xs
def qc3 (xs:List Int):Bool:=((xs.length:Int) == 4) && allN xs
def qc4 (n:Nat) (p:Int) (rs os:List Int) (code:Int):Bool:=qc3 rs && inB code 0 2 && belB p n && outB os
theorem qfy (a0:Option Addr) (cap:Nat) (xs:List Int) (w:World) (hlen:xs.length<=1048576) (h:Sl w a0 xs):
  Calls Tryz.prog 171 #[.slice a0 xs.length cap] w fun e w'=>e=.returned (.bool (outB xs))/\w'=w:=by
 have hl':(xs.length:Int)<=1048576:=by omega
 by_cases h60:(xs.length:Int)<=60
 case neg=>
  have hg:60<(xs.length:Int):=by omega
  have HV:Hid (outB xs=false):=by simp [Hid,outB,h60]
  clear h60
  go_enter Tryz.func171,Tryz.ntmps171
  go_wp2
  go_ret
  exact ⟨by rw [HV.out];rfl,rfl⟩
 case pos=>
  have HV:Hid (outB xs=allN xs):=by simp [Hid,outB,h60]
  have hg:¬ 60<(xs.length:Int):=by omega
  have HS:Hid (Sl w a0 xs):=h
  clear h h60
  go_enter Tryz.func171,Tryz.ntmps171
  go_wp2_with fail
  go_loop [10] (fun i=>∃ k:Nat,k<=xs.length/\i=.int .i64 k/\Hid (∀ t,t<k->numB (zi xs t)=true)) (fun i=>xs.length - (intOf i).toNat)
  case atStart=>exact ⟨0,Nat.zero_le _,rfl,fun t ht=>by omega⟩
  case round=>
   obtain ⟨k,hk,rfl,HK⟩:=hrel
   by_cases hlt:k<xs.length
   ·have hlt':(k:Int)<(xs.length:Int):=by omega
    obtain ⟨b,off,rfl,hbl,ck⟩:=HS.out.at hlt
    rcases zK (numB (zi xs k)) with t0 | t0
    ·have T0:Hid (numB (zi xs k)=true):=t0
     have t1:inB (zi xs k) (-1000000000) 1000000000=true:=t0
     clear t0
     go_wp2_with (go_at_call 138;refine (isNum_any _ _).mono ?_;rintro e w' ⟨rfl,rfl⟩)
     go_round
     case rel=>
      refine ⟨k+1,by omega,by go_num,fun t ht=>?_⟩
      by_cases htk:t=k
      ·subst htk;exact T0.out
      ·exact HK.out t (by omega)
     case measure=>simp [intOf];omega
    ·have T0:Hid (allN xs=false):=qpw hlt t0
     have t1:inB (zi xs k) (-1000000000) 1000000000=false:=t0
     clear t0
     go_wp2_with (go_at_call 138;refine (isNum_any _ _).mono ?_;rintro e w' ⟨rfl,rfl⟩)
     go_ret
     exact ⟨by rw [HV.out,T0.out];rfl,rfl⟩
   ·have hlt':¬ (k:Int)<(xs.length:Int):=by omega
    have T0:Hid (allN xs=true):=qrb fun t ht=>HK.out t (by omega)
    clear HK
    go_wp2
    go_ret
    exact ⟨by rw [HV.out,T0.out];rfl,rfl⟩
theorem qtq {x:Int}:qbn x=x ↔ numB x=true:=by
 unfold qbn cmin cmax numB inB
 simp only [decide_eq_true_eq]
 by_cases h1:x < -1000000000
 ·rw [if_pos h1,if_neg (by omega)];omega
 ·rw [if_neg h1]
  by_cases h2:1000000000<x
  ·rw [if_pos h2];omega
  ·rw [if_neg h2];simp;omega
def qmf (a b c d a' b' c' d':Int):Bool:=a == a' && (b == b' && (c == c' && d == d'))
theorem qjh (a b c d a' b' c' d':Int) (w:World):(binOp .eql 199 (regV a b c d) (regV a' b' c' d')).run Tryz.prog w=.ok (.bool (qmf a b c d a' b' c' d')) w:=by
 have hinfo:=qns
 cases hi:Tryz.prog.info? 3 with
 | none=>rw [hi] at hinfo;cases hinfo
 | some i=>
  rw [run_eql_struct,show (10000:Nat)=9998+1+1 from rfl,run_equalIn_array w (9998+1) _ _ Tryz.underlying199 hi,show Tryz.prog.cellsOf 3=1 by kernel_rfl,show List.range 4=[0,1,2,3] from rfl]
  have hp:∀ (vs:Array Value) (j:Nat) (v:Value) (w:World),vs[j]? = some v->(part 3 vs j).run Tryz.prog w=.ok v w:=by
   intro vs j v w hv
   simp [part,go_sem,hv]
  have p0:=hp #[.int .i64 a,.int .i64 b,.int .i64 c,.int .i64 d] 0 (.int .i64 a) w rfl
  have p1:=hp #[.int .i64 a,.int .i64 b,.int .i64 c,.int .i64 d] 1 (.int .i64 b) w rfl
  have p2:=hp #[.int .i64 a,.int .i64 b,.int .i64 c,.int .i64 d] 2 (.int .i64 c) w rfl
  have p3:=hp #[.int .i64 a,.int .i64 b,.int .i64 c,.int .i64 d] 3 (.int .i64 d) w rfl
  have q0:=hp #[.int .i64 a',.int .i64 b',.int .i64 c',.int .i64 d'] 0 (.int .i64 a') w rfl
  have q1:=hp #[.int .i64 a',.int .i64 b',.int .i64 c',.int .i64 d'] 1 (.int .i64 b') w rfl
  have q2:=hp #[.int .i64 a',.int .i64 b',.int .i64 c',.int .i64 d'] 2 (.int .i64 c') w rfl
  have q3:=hp #[.int .i64 a',.int .i64 b',.int .i64 c',.int .i64 d'] 3 (.int .i64 d') w rfl
  have hq:∀ x y,(Op.equalIn 9999 3 (.int .i64 x) (.int .i64 y)).run Tryz.prog w=.ok (x == y) w:=fun x y=>run_equalIn_int (P:=Tryz.prog) w 9998 3 .i64 .i64 x y Tryz.underlying3
  clear hp hinfo hi
  simp only [qmf]
  cases h1:(a == a') <;> cases h2:(b == b') <;> cases h3:(c == c') <;> cases h4:(d == d') <;> simp only [Op.eqItems,Sem.run_bind,Sem.run_pure,Sem.run_ite,Result.andThen_ok,Bool.not_true,Bool.not_false,if_true,if_false,Bool.false_eq_true,Nat.mul_one,Bool.and_true,Bool.and_false,p0,p1,p2,p3,q0,q1,q2,q3,hq,h1,h2,h3,h4]
theorem qcc (a b c d:Int):qmf a b c d (qbn a) (qbn b) (qbn c) (qbn d)=qc3 [a,b,c,d]:=by
 have h:∀ x,(x == qbn x)=numB x:=fun x=>by
  rw [Bool.eq_iff_iff,<- qtq,beq_iff_eq];exact eq_comm
 unfold qmf qc3 allN
 rw [h,h,h,h]
 simp
theorem zS {w:World} {b:Nat} (o:Obj) (j:Nat) (h:b<w.heap.size):(w.alloc o).cell? (aQ b j)=w.cell? (aQ b j):=zH (Below.heap_alloc w o b h)
theorem Calls.regrown_same {P:Program} {f:FuncId} {args:Array Value} {w:World} {d:Nat} {os:Array Obj} {v:Value}
  (h:Calls P f args (grow (redrawn w d) os) fun e w'=>e=.returned v/\w'=grow (redrawn w d) os):Calls P f args (grow (redrawn w d) os) fun e w''=>e=.returned v/\∃ p:Regrown,w''=grow (redrawn w p.d) p.os:=
 h.mono fun _ _ ⟨he,hw⟩=>⟨he,⟨d,os⟩,hw⟩
theorem qg7 (la:Option Addr) (n lc:Nat) (p code:Int) (ra oa:Option Addr) (rc oc:Nat) (a b c d:Int) (os:List Int) (w:World) (ho:os.length<=1048576) (h1:Sl w ra [a,b,c,d]) (h2:Sl w oa os):
  Calls Tryz.prog 155 #[.slice la n lc,stV p ra 4 rc oa os.length oc code] w fun e w'=>e=.returned (.bool (qc4 n p [a,b,c,d] os code))/\Bw w w':=by
 have H1:Hid (Sl w ra [a,b,c,d]):=h1
 have H2:Hid (Sl w oa os):=h2
 clear h1 h2
 go_enter Tryz.func155,Tryz.ntmps155
 go_wp2_with fail
 refine (qci ra rc [a,b,c,d] _ (H1.out.below (by go_grown))).mono ?_
 rintro e w1 ⟨⟨r0,r1,r2,r3,rfl,hr⟩,b1⟩
 have B1:Hid (Bw w w1):=qam (by go_grown) b1 (by simp)
 have y0:w.heap.size<w1.heap.size:=by have:=b1.size;simp at this;omega
 have hr':=hr rfl
 simp only [List.cons.injEq,and_true] at hr'
 obtain ⟨rfl,rfl,rfl,rfl⟩:=hr'
 obtain ⟨hc1,hf1⟩:=qai b1
 clear b1 hr
 go_wp2_with fail
 have B2:Hid (Bw w (w1.alloc (.cells #[.int .i64 a,.int .i64 b,.int .i64 c,.int .i64 d] 199))):=B1.out.alloc (by omega) _
 generalize hW:(w1.alloc (.cells #[.int .i64 a,.int .i64 b,.int .i64 c,.int .i64 d] 199))=W at *
 have k0:W.cell? (aQ w1.heap.size 0)=some (.int .i64 a):=by rw [<- hW];simp
 have k1:W.cell? (aQ w1.heap.size 1)=some (.int .i64 b):=by rw [<- hW];simp
 have k2:W.cell? (aQ w1.heap.size 2)=some (.int .i64 c):=by rw [<- hW];simp
 have k3:W.cell? (aQ w1.heap.size 3)=some (.int .i64 d):=by rw [<- hW];simp
 have s0:W.cell? (aQ w.heap.size 0)=some (.int .i64 p):=by rw [<- hW,zS _ _ y0,hc1 _ _ (by simp)];simp
 have s2:W.cell? (aQ w.heap.size 2)=some (.slice oa os.length oc):=by rw [<- hW,zS _ _ y0,hc1 _ _ (by simp)];simp
 have s3:W.cell? (aQ w.heap.size 3)=some (.int .i64 code):=by rw [<- hW,zS _ _ y0,hc1 _ _ (by simp)];simp
 clear hc1 hf1 hW B1 y0
 have k0':=cell_regrown k0
 have k1':=cell_regrown k1
 have k2':=cell_regrown k2
 have k3':=cell_regrown k3
 have s0':=cell_regrown s0
 have s2':=cell_regrown s2
 have s3':=cell_regrown s3
 have HO:Hid (∀ d os',Sl (grow (redrawn W d) os') oa os):=fun d os'=>(H2.out.below B2.out).below (below_regrown W d os')
 rcases zK (qc3 [a,b,c,d]) with t1 | t1
 case inr=>
  have HV:Hid (qc4 n p [a,b,c,d] os code=false):=by simp [Hid,qc4,t1]
  have he:∀ wx,(binOp .eql 199 (regV a b c d) (regV (qbn a) (qbn b) (qbn c) (qbn d))).run Tryz.prog wx=.ok (.bool false) wx:=fun wx=>by rw [qjh,qcc,t1]
  clear t1
  refine wp_region_quiet_below (by kernel_rfl) (by kernel_rfl) ?_
  repeat (quiet_step (first|(go_at_call 169;exact Calls.regrown_of (qc7 _ _ _ _ _))|(go_at_call 170;exact Calls.regrown_same (qey _ _))|(go_at_call 27;exact Calls.regrown_same (isBelow_any _ _ _))|(go_at_call 171;exact Calls.regrown_same (qfy _ _ _ _ ho (HO.out _ _)))))
  refine wpQuiet_nil ?_
  intro _ hw'
  obtain ⟨⟨dq,osq⟩,hw''⟩:=hw'
  subst hw''
  have B3:Hid (Bw w (grow (redrawn W dq) osq)):=B2.out.trans ((below_regrown W dq osq).mono B2.out.size)
  generalize grow (redrawn W dq) osq=w3 at *
  clear k0' k1' k2' k3' s0' s2' s3' HO he
  go_wp2
  go_ret
  exact ⟨by rw [HV.out];rfl,B3.out⟩
 have he:∀ wx,(binOp .eql 199 (regV a b c d) (regV (qbn a) (qbn b) (qbn c) (qbn d))).run Tryz.prog wx=.ok (.bool true) wx:=fun wx=>by rw [qjh,qcc,t1]
 rcases zK (inB code 0 2) with t2 | t2
 case inr=>
  have HV:Hid (qc4 n p [a,b,c,d] os code=false):=by simp [Hid,qc4,t2]
  clear t1
  refine wp_region_quiet_below (by kernel_rfl) (by kernel_rfl) ?_
  repeat (quiet_step (first|(go_at_call 169;exact Calls.regrown_of (qc7 _ _ _ _ _))|(go_at_call 170;exact Calls.regrown_same (qey _ _))|(go_at_call 27;exact Calls.regrown_same (isBelow_any _ _ _))|(go_at_call 171;exact Calls.regrown_same (qfy _ _ _ _ ho (HO.out _ _)))))
  refine wpQuiet_nil ?_
  intro _ hw'
  obtain ⟨⟨dq,osq⟩,hw''⟩:=hw'
  subst hw''
  have B3:Hid (Bw w (grow (redrawn W dq) osq)):=B2.out.trans ((below_regrown W dq osq).mono B2.out.size)
  generalize grow (redrawn W dq) osq=w3 at *
  clear k0' k1' k2' k3' s0' s2' s3' HO he
  go_wp2
  go_ret
  exact ⟨by rw [HV.out];rfl,B3.out⟩
 rcases zK (belB p n) with t3 | t3
 case inr=>
  have HV:Hid (qc4 n p [a,b,c,d] os code=false):=by simp [Hid,qc4,t3]
  clear t1
  refine wp_region_quiet_below (by kernel_rfl) (by kernel_rfl) ?_
  repeat (quiet_step (first|(go_at_call 169;exact Calls.regrown_of (qc7 _ _ _ _ _))|(go_at_call 170;exact Calls.regrown_same (qey _ _))|(go_at_call 27;exact Calls.regrown_same (isBelow_any _ _ _))|(go_at_call 171;exact Calls.regrown_same (qfy _ _ _ _ ho (HO.out _ _)))))
  refine wpQuiet_nil ?_
  intro _ hw'
  obtain ⟨⟨dq,osq⟩,hw''⟩:=hw'
  subst hw''
  have B3:Hid (Bw w (grow (redrawn W dq) osq)):=B2.out.trans ((below_regrown W dq osq).mono B2.out.size)
  generalize grow (redrawn W dq) osq=w3 at *
  clear k0' k1' k2' k3' s0' s2' s3' HO he
  go_wp2
  go_ret
  exact ⟨by rw [HV.out];rfl,B3.out⟩
 case inl=>
  have HV:Hid (qc4 n p [a,b,c,d] os code=outB os):=by simp [Hid,qc4,t1,t2,t3]
  clear t1
  refine wp_region_quiet_below (by kernel_rfl) (by kernel_rfl) ?_
  repeat (quiet_step (first|(go_at_call 169;exact Calls.regrown_of (qc7 _ _ _ _ _))|(go_at_call 170;exact Calls.regrown_same (qey _ _))|(go_at_call 27;exact Calls.regrown_same (isBelow_any _ _ _))|(go_at_call 171;exact Calls.regrown_same (qfy _ _ _ _ ho (HO.out _ _)))))
  refine wpQuiet_nil ?_
  intro _ hw'
  obtain ⟨⟨dq,osq⟩,hw''⟩:=hw'
  subst hw''
  have B3:Hid (Bw w (grow (redrawn W dq) osq)):=B2.out.trans ((below_regrown W dq osq).mono B2.out.size)
  generalize grow (redrawn W dq) osq=w3 at *
  clear k0' k1' k2' k3' s0' s2' s3' HO he
  go_wp2
  go_ret
  exact ⟨by rw [HV.out];rfl,B3.out⟩
theorem qhy (la:Option Addr) (n lc:Nat) (p code:Int) (ra oa:Option Addr) (rc on oc:Nat) (rs:List Int) (w:World) (h4:rs.length≠4) (h1:Sl w ra rs):
  Calls Tryz.prog 155 #[.slice la n lc,stV p ra rs.length rc oa on oc code] w fun e w'=>e=.returned (.bool false)/\Bw w w':=by
 have H1:Hid (Sl w ra rs):=h1
 have h4':((rs.length:Int) == 4)=false:=by simp;omega
 clear h1 h4
 go_enter Tryz.func155,Tryz.ntmps155
 go_wp2_with fail
 refine (qci ra rc rs _ (H1.out.below (by go_grown))).mono ?_
 rintro e w1 ⟨⟨a,b,c,d,rfl,hr⟩,b1⟩
 have B1:Hid (Bw w w1):=qam (by go_grown) b1 (by simp)
 have y0:w.heap.size<w1.heap.size:=by have:=b1.size;simp at this;omega
 clear b1 hr
 go_wp2_with fail
 have B2:Hid (Bw w (w1.alloc (.cells #[.int .i64 a,.int .i64 b,.int .i64 c,.int .i64 d] 199))):=B1.out.alloc (by omega) _
 generalize (w1.alloc (.cells #[.int .i64 a,.int .i64 b,.int .i64 c,.int .i64 d] 199))=W at *
 go_quiet (fail)
 go_wp2
 go_ret
 exact ⟨rfl,yE B2.out _⟩
theorem qed (la:Option Addr) (n lc:Nat) (p code:Int) (ra oa:Option Addr) (rc oc:Nat) (rs os:List Int) (w:World) (ho:os.length<=1048576) (h1:Sl w ra rs) (h2:Sl w oa os):
  Calls Tryz.prog 155 #[.slice la n lc,stV p ra rs.length rc oa os.length oc code] w fun e w'=>e=.returned (.bool (qc4 n p rs os code))/\Bw w w':=by
 by_cases h4:rs.length=4
 ·match rs,h4,h1 with
  | [a,b,c,d],_,h1=>exact qg7 la n lc p code ra oa rc oc a b c d os w ho h1 h2
 ·have hv:qc4 n p rs os code=false:=by
   have:((rs.length:Int) == 4)=false:=by simp;omega
   simp [qc4,qc3,this]
  rw [hv]
  exact qhy la n lc p code ra oa rc os.length oc rs w h4 h1
theorem qn8 {k:IntKind} {a b:Int} (h:a=b):Ending.returned (.int k a)=.returned (.int k b):=by rw [h]
def qxu (k:Int) (n:Nat):List Int:=(List.range n).map (fun i:Nat=>k+(i:Int))
theorem qka {w:World} {B n cap:Nat} {a0:Option Addr} {ys:List Int} (h:OwnI w B (.slice a0 n cap) ys) (hn:0<ys.length):∃ g,a0=some (aQ g 0)/\n=ys.length/\B<=g/\g<w.heap.size:=by
 obtain ⟨g,c,hv,hb,hl⟩:=h.block hn
 simp only [Value.slice.injEq] at hv
 exact ⟨g,hv.1,hv.2.1,hb,hl⟩
theorem qsk {w w':World} {B:Nat} {v u:Value} {xs:List Int} (h:OwnI w B v xs) (hg:w.grownBy w' u.ownBlock) (ha:∀ k,u.ownBlock=some k->v.ownBlock≠some k):OwnI w' B v xs:=by
 refine h.kept hg ?_
 cases hu:u.ownBlock with
 | none=>
  cases hv:v.ownBlock with
  | none=>exact .inl rfl
  | some k=>exact .inr (by simp)
 | some k=>exact .inr (ha k hu)
theorem ql1 {W w1:World} {row:Option Nat} (hg:W.grownBy w1 row) {b:Nat} (hb:b<W.heap.size) (hne:some b≠row):(∀ o,w1.cell? ⟨b,o,none⟩=W.cell? ⟨b,o,none⟩)/\(∀ o,w1.frozen? ⟨b,o,none⟩=W.frozen? ⟨b,o,none⟩):=
 ⟨fun _=>zH (hg.block b hb hne),fun _=>zI (hg.block b hb hne)⟩
def qal (v:Value) (k:Nat):Prop:=∃ p vr vo code,v=.agg #[p,vr,vo,code]/\(vr.ownBlock=some k\/vo.ownBlock=some k)
theorem qa1 (p vr vo code:Value) (k:Nat):qal (.agg #[p,vr,vo,code]) k ↔ vr.ownBlock=some k\/vo.ownBlock=some k:=by
 constructor
 ·rintro ⟨p',vr',vo',code',e,h⟩
  simp only [Value.agg.injEq,Array.mk.injEq,List.cons.injEq,and_true] at e
  obtain ⟨_,rfl,rfl,_⟩:=e
  exact h
 ·exact fun h=>⟨p,vr,vo,code,rfl,h⟩
theorem qag.lt {w:World} {B:Nat} {v:Value} {p code:Int} {rs os:List Int} (h:qag w B v p rs os code) {k:Nat} (hk:qal v k):B<=k/\k<w.heap.size:=by
 obtain ⟨vr,vo,rfl,h1,h2,_⟩:=h
 rcases (qa1 _ _ _ _ _).1 hk with h | h
 ·exact h1.lt k h
 ·exact h2.lt k h
structure qbo (v:Value) (w w':World):Prop where
 os:w'.os=w.os
 tape:w'.tape=w.tape
 output:w'.output=w.output
 size:w.heap.size<=w'.heap.size
 block:∀ k,k<w.heap.size->¬ qal v k->w'.heap[k]? = w.heap[k]?
theorem qbo.below {v:Value} {w w':World} {B:Nat} (h:qbo v w w') (hB:B<=w.heap.size) (hv:∀ k,qal v k->B<=k):Below B w w':=
 ⟨h.os,h.tape,h.output,h.size,fun k hk=>h.block k (by omega) (fun hh=>by have:=hv k hh;omega)⟩
theorem qbo.cell {v:Value} {w w':World} (h:qbo v w w') {b:Nat} (hb:b<w.heap.size) (hv:¬ qal v b) (j:Nat):w'.cell? (aQ b j)=w.cell? (aQ b j):=zH (h.block b hb hv)
theorem qbo.frozen {v:Value} {w w':World} (h:qbo v w w') {b:Nat} (hb:b<w.heap.size) (hv:¬ qal v b) (j:Nat):w'.frozen? (aQ b j)=w.frozen? (aQ b j):=zI (h.block b hb hv)
def BoxC (w:World) (N:Nat) (p vr vo code:Value):Prop:=w.cell? (aQ N 0)=some p/\w.cell? (aQ N 1)=some vr/\w.cell? (aQ N 2)=some vo/\w.cell? (aQ N 3)=some code
theorem BoxC.below {w w':World} {N:Nat} {p vr vo code:Value} (h:BoxC w N p vr vo code) (hb:Bw w w'):BoxC w' N p vr vo code:=by
 obtain ⟨h0,h1,h2,h3⟩:=h
 have hN:N<w.heap.size:=zJ w _ h0
 exact ⟨(hb.cell (p:=(aQ N 0)) hN).trans h0,(hb.cell (p:=(aQ N 1)) hN).trans h1,(hb.cell (p:=(aQ N 2)) hN).trans h2,(hb.cell (p:=(aQ N 3)) hN).trans h3⟩
theorem BoxC.new (w:World) (p vr vo code:Value) (t:TypeId):BoxC (w.alloc (.cells #[p,vr,vo,code] t)) w.heap.size p vr vo code:=by
 unfold BoxC
 simp
theorem BoxC.marked {v:Value} {w w':World} {N:Nat} {p vr vo code:Value} (h:BoxC w N p vr vo code) (hm:qbo v w w') (hv:¬ qal v N):BoxC w' N p vr vo code:=by
 obtain ⟨h0,h1,h2,h3⟩:=h
 have hN:N<w.heap.size:=zJ w _ h0
 exact ⟨(hm.cell hN hv _).trans h0,(hm.cell hN hv _).trans h1,(hm.cell hN hv _).trans h2,(hm.cell hN hv _).trans h3⟩
theorem qqd (n:Int):bits .and .i64 n 255=n % 256:=by
 have h255:(BitVec.ofInt 64 255).toNat=2 ^ 8 - 1:=by decide
 have key:(BitVec.ofInt 64 n &&& BitVec.ofInt 64 255).toNat=(n % ((2 ^ 64:Nat):Int)).toNat % 2 ^ 8:=by
  rw [BitVec.toNat_and,BitVec.toNat_ofInt,h255,Nat.and_two_pow_sub_one_eq_mod]
 show IntKind.i64.wrap ((BitVec.ofInt 64 n &&& BitVec.ofInt 64 255).toNat:Nat)=n % 256
 rw [key,IntKind.wrap_i64]
 omega
def qbg (w:World) (W0:Nat) (a0:Option Addr) (len:Nat):Prop:=
 len=0\/∃ b off,a0=some ⟨b,off,none⟩/\b<W0/\∀ j,j<len->∃ z:Int,w.cell? ⟨b,off+j,none⟩=some (.int .u8 z)/\0<=z/\z<=255
structure Cur (w:World) (W0 c:Nat) (a0:Option Addr) (len cap:Nat):Prop where
 ex:∃ (i:Nat) (h:Int),w.cell? (aQ c 0)=some (.slice a0 len cap)/\w.cell? (aQ c 1)=some (.int .i64 i)/\w.cell? (aQ c 2)=some (.int .i64 h)
 fr:∀ o,w.frozen? ⟨c,o,none⟩=false
 lt:c<w.heap.size
 ge:W0<=c
 by':qbg w W0 a0 len
 ln:len<=1048576
theorem qbg.kept {w w':World} {W0 len:Nat} {a0:Option Addr} (h:qbg w W0 a0 len) (hb:∀ k,k<W0->w'.heap[k]? = w.heap[k]?):qbg w' W0 a0 len:=by
 rcases h with h | ⟨b,off,e,hlt,hz⟩
 ·exact .inl h
 ·refine .inr ⟨b,off,e,hlt,fun j hj=>?_⟩
  obtain ⟨z,hz1,hz2⟩:=hz j hj
  exact ⟨z,(zH (hb b hlt)).trans hz1,hz2⟩
theorem Cur.kept {w w':World} {W0 c len cap:Nat} {a0:Option Addr} {row:Option Nat} (h:Cur w W0 c a0 len cap) (hg:w.grownBy w' row) (hne:some c≠row) (hr:∀ k,row=some k->W0<=k):Cur w' W0 c a0 len cap:=by
 have hc:=hg.block c h.lt hne
 obtain ⟨i,hh,h0,h1,h2⟩:=h.ex
 refine ⟨⟨i,hh,(zH hc).trans h0,(zH hc).trans h1,(zH hc).trans h2⟩,fun o=>(zI hc).trans (h.fr o),zL h.lt hg.size,h.ge,?_,h.ln⟩
 exact h.by'.kept fun k hk=>hg.block k (Nat.lt_trans (zL hk h.ge) h.lt) (fun e=>by have:=hr k e.symm;omega)
theorem Cur.alloc {w:World} {W0 c len cap:Nat} {a0:Option Addr} (h:Cur w W0 c a0 len cap) (o:Obj):Cur (w.alloc o) W0 c a0 len cap:=
 h.kept (World.grownBy_alloc w o none) (by simp) (fun k hk=>by cases hk)
theorem qbp {w w':World} {row:Option Nat} (h:w.grownBy w' row) (n:Nat):w.grownBy (w'.drewN n) row:=⟨h.os,h.tape,h.output,h.size,h.block⟩
theorem zV {w w':World} {row:Option Nat} (h:w.grownBy w' row) {p:Addr} (hp:row=some p.block\/w.heap.size<=p.block) (v:Value):w.grownBy (w'.setCell p v) row:=
 ⟨h.os, h.tape, h.output, by simpa using h.size, fun k hk hne => by
  rw [Below.heap_setCell w' p v k (fun e => by
   subst e
   rcases hp with hp | hp
   ·exact hne hp.symm
   ·omega)]
  exact h.block k hk hne⟩
theorem Cur.drewN {w:World} {W0 c len cap:Nat} {a0:Option Addr} (h:Cur w W0 c a0 len cap) (n:Nat):Cur (w.drewN n) W0 c a0 len cap:=⟨h.ex,h.fr,h.lt,h.ge,h.by',h.ln⟩
theorem Cur.drew {w:World} {W0 c len cap:Nat} {a0:Option Addr} (h:Cur w W0 c a0 len cap):Cur w.drew W0 c a0 len cap:=⟨h.ex,h.fr,h.lt,h.ge,h.by',h.ln⟩
theorem Cur.bytesSet {w:World} {W0 c len cap:Nat} {a0:Option Addr} (h:Cur w W0 c a0 len cap) (o:Nat) (v:Value):qbg (w.setCell (aQ c o) v) W0 a0 len:=
 h.by'.kept fun k hk=>zO w ⟨c,o,none⟩ v k (fun e=>by have:=h.ge;simp at e;omega)
theorem Cur.set2 {w:World} {W0 c len cap:Nat} {a0:Option Addr} (h:Cur w W0 c a0 len cap) (x:Int):Cur (w.setCell (aQ c 2) (.int .i64 x)) W0 c a0 len cap:=by
 obtain ⟨i,y,h0,h1,h2⟩:=h.ex
 exact ⟨⟨i,x,by go_cell,by go_cell,by go_cell⟩,fun o=>by simpa using h.fr o,by simpa using h.lt,h.ge,h.bytesSet _ _,h.ln⟩
theorem Cur.set1 {w:World} {W0 c len cap:Nat} {a0:Option Addr} (h:Cur w W0 c a0 len cap) (x:Int) (hx:0<=x):Cur (w.setCell (aQ c 1) (.int .i64 x)) W0 c a0 len cap:=by
 obtain ⟨i,y,h0,h1,h2⟩:=h.ex
 obtain ⟨k,rfl⟩:=Int.eq_ofNat_of_zero_le hx
 exact ⟨⟨k,y,by go_cell,by go_cell,by go_cell⟩,fun o=>by simpa using h.fr o,by simpa using h.lt,h.ge,h.bytesSet _ _,h.ln⟩
theorem qdn (W0 c len cap:Nat) (a0:Option Addr) (w:World) (hc:Cur w W0 c a0 len cap):
  Calls Tryz.prog 89 #[.pointer (some (aQ c 0))] w fun e w'=>∃ x:Int,e=.returned (.int .i64 x)/\(0<=x/\x<=255)/\Cur w' W0 c a0 len cap/\w.grownBy w' (some c):=by
 have HCur:Hid (Cur w W0 c a0 len cap):=hc
 obtain ⟨⟨i,h,c0,c1,c2⟩,fr,lt,ge,hby,ln⟩:=hc
 have f1:=fr 1
 have f2:=fr 2
 have ln':(len:Int)<=1048576:=by omega
 have HB:Hid (qbg w W0 a0 len):=hby
 clear hby fr
 have hand:=qqd
 by_cases hil:i<len
 ·have hil':(i:Int)<(len:Int):=by omega
  rcases HB.out with hb | ⟨b,off,rfl,hbW,hz⟩
  ·omega
  obtain ⟨z,cz,z0,z1⟩:=hz i hil
  have hbc:b≠c:=by omega
  clear hz
  go_enter Tryz.func89,Tryz.ntmps89
  go_wp2
  generalize wrap64 (wrap64 (h*6364136223846793005)+1442695040888963407)=h2
  go_quiet (fail)
  go_wp2
  go_quiet (fail)
  go_wp2
  go_quiet (fail)
  go_wp2
  go_ret
  refine ⟨_,rfl,by omega,?_,?_⟩
  ·exact ((HCur.out.set2 h2).drewN _).set1 ((i:Int)+1) (by omega)
  ·exact zV (p:=(aQ c 1)) (qbp (zV (p:=(aQ c 2)) (World.grownBy.refl w (some c)) (.inl rfl) _) _) (.inl rfl) _
 ·have hil':¬ ((i:Int)<(len:Int)):=by omega
  go_enter Tryz.func89,Tryz.ntmps89
  go_wp2
  generalize wrap64 (wrap64 (h*6364136223846793005)+1442695040888963407)=h2
  go_quiet (fail)
  go_wp2
  go_quiet (fail)
  go_wp2
  go_ret
  refine ⟨_,rfl,by omega,?_,?_⟩
  ·exact ((HCur.out.set2 h2).drewN _).drewN _
  ·exact qbp (qbp (zV (World.grownBy.refl _ _) (.inl rfl) _) _) _
theorem zY (W0 c len cap:Nat) (a0:Option Addr) (n:Int) (w:World) (hc:Cur w W0 c a0 len cap) (n1:1<=n) (n2:n<=256):
  Calls Tryz.prog 51 #[.pointer (some (aQ c 0)),.int .i64 n] w fun e w'=>∃ x:Int,e=.returned (.int .i64 x)/\(0<=x/\x<n)/\Cur w' W0 c a0 len cap/\w.grownBy w' (some c):=by
 have n3:¬ n<=0:=by omega
 have n4:(n == 0)=false:=by simp;omega
 have HCur:Hid (Cur w W0 c a0 len cap):=hc
 clear hc
 go_enter Tryz.func51,Tryz.ntmps51
 go_wp2_with fail
 refine (qdn W0 c len cap a0 _ HCur.out).mono ?_
 rintro e w1 ⟨x,rfl,⟨x0,x1⟩,hc1,hg1⟩
 have HC1:Hid (Cur w1 W0 c a0 len cap):=hc1
 have HG1:Hid (w.grownBy w1 (some c)):=hg1
 clear hc1 hg1
 go_wp2
 go_ret
 exact ⟨_,rfl,⟨Int.emod_nonneg _ (by omega),Int.emod_lt_of_pos _ (by omega)⟩,HC1.out,HG1.out⟩
theorem qcb (W0 c len cap:Nat) (a0:Option Addr) (n:Int) (w:World) (hc:Cur w W0 c a0 len cap) (n1:1<=n) (n2:n<=256):
  Calls Tryz.prog 87 #[.pointer (some (aQ c 0)),.int .i64 n] w fun e w'=>∃ x:Bool,e=.returned (.bool x)/\Cur w' W0 c a0 len cap/\w.grownBy w' (some c):=by
 have HCur:Hid (Cur w W0 c a0 len cap):=hc
 clear hc
 go_enter Tryz.func87,Tryz.ntmps87
 go_wp2_with fail
 refine (zY W0 c len cap a0 _ _ HCur.out n1 n2).mono ?_
 rintro e w1 ⟨x,rfl,_,hc1,hg1⟩
 have HC1:Hid (Cur w1 W0 c a0 len cap):=hc1
 have HG1:Hid (w.grownBy w1 (some c)):=hg1
 clear hc1 hg1
 go_wp2
 go_ret
 exact ⟨_,rfl,HC1.out,HG1.out⟩
def qhi (w:World) (b len:Nat) (z:Nat->Int):Prop:=∀ j,j<len->w.cell? ⟨b,j,none⟩=some (.int .i64 (z j))
theorem qco (W0 c len cap b m mc:Nat) (a0:Option Addr) (z:Nat->Int) (w:World) (hc:Cur w W0 c a0 len cap) (n1:1<=m) (n2:m<=256) (hb:b<w.heap.size) (hne:b≠c) (hz:qhi w b m z):
  Calls Tryz.prog 53 #[.pointer (some (aQ c 0)),.slice (some (aQ b 0)) m mc] w fun e w'=>∃ k:Nat,k<m/\e=.returned (.int .i64 (z k))/\Cur w' W0 c a0 len cap/\w.grownBy w' (some c):=by
 have HCur:Hid (Cur w W0 c a0 len cap):=hc
 have HZ:Hid (qhi w b m z):=hz
 clear hc hz
 go_enter Tryz.func53,Tryz.ntmps53
 go_wp2_with fail
 refine (zY W0 c len cap a0 _ _ HCur.out (by omega) (by omega)).mono ?_
 rintro e w1 ⟨x,rfl,⟨x0,x1⟩,hc1,hg1⟩
 obtain ⟨k,rfl⟩:=Int.eq_ofNat_of_zero_le x0
 have cz:w1.cell? (aQ b k)=some (.int .i64 (z k)):=(zH (hg1.block b hb (by simp [hne]))).trans (HZ.out k (by omega))
 have HC1:Hid (Cur w1 W0 c a0 len cap):=hc1
 have HG1:Hid (w.grownBy w1 (some c)):=hg1
 clear hc1 hg1
 go_wp2
 go_ret
 exact ⟨k,by omega,rfl,HC1.out,HG1.out⟩
theorem qft (W0 c len cap b m mc:Nat) (a0:Option Addr) (z:Nat->Int) (w:World) (hc:Cur w W0 c a0 len cap) (n1:1<=m) (n2:m<=256) (hb:b<w.heap.size) (hne:b≠c) (hz:qhi w b m z):
  Calls Tryz.prog 53 #[.pointer (some (aQ c 0)),.slice (some (aQ b 0)) m mc] w fun e w'=>∃ x:Int,e=.returned (.int .i64 x)/\Cur w' W0 c a0 len cap/\w.grownBy w' (some c):=by
 refine (qco W0 c len cap b m mc a0 z w hc n1 n2 hb hne hz).mono ?_
 rintro e w' ⟨k,-,he,h⟩
 exact ⟨_,he,h⟩
