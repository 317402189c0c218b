import Derived.Test.YtpnlfccaggfgpaaGreatDoorEh0
import Derived.Test.YtpnlfccaggfgpaaGreatDoorEh1
import Derived.Maps.AppendAt
import Derived.Maps.Range
import Derived.Deep.Onto
import Derived.Deep.Slices
import Derived.Deep.RegionWith
import Derived.Deep.QuietTactic
import Derived.BigQuiet
import Derived.Laws.IdiomCopy
import Derived.Lib.QuietBelow
import Derived.ChangeKeysEq
namespace Go.Proofs.YtpnlfccaggfgpaaGreatDoor
set_option maxRecDepth 100000
set_option maxHeartbeats 1000000
open Go.RowKit
def zi (xs:List Int) (i:Nat):Int:=xs.getD i 0
def Sl (w:World) (a0:Option Addr) (xs:List Int):Prop:=
 xs=[]\/∃ b off,a0=some ⟨b,off,none⟩/\b<w.heap.size/\∀ i,i<xs.length->w.cell? ⟨b,off+i,none⟩=some (.int .i64 (zi xs i))
theorem Sl.below {w w':World} {a0:Option Addr} {xs:List Int} (h:Sl w a0 xs) (hb:Below w.heap.size w w'):Sl w' a0 xs:=by
 rcases h with h | ⟨b,off,e,hlt,hc⟩
 ·exact .inl h
 ·exact .inr ⟨b,off,e,zL hlt hb.size,fun i hi=>(hb.cell (p:=⟨b,off+i,none⟩) hlt).trans (hc i hi)⟩
theorem Sl.at {w:World} {a0:Option Addr} {xs:List Int} (h:Sl w a0 xs) {k:Nat} (hk:k<xs.length):∃ b off,a0=some ⟨b,off,none⟩/\b<w.heap.size/\w.cell? ⟨b,off+k,none⟩=some (.int .i64 (zi xs k)):=by
 rcases h with rfl | ⟨b,off,e,hlt,hc⟩
 ·simp at hk
 ·exact ⟨b,off,e,hlt,hc k hk⟩
def OwnI (w:World) (B:Nat) (v:Value) (xs:List Int):Prop:=w.ownsRow B 3 1 v xs.length (xs.map (Value.int .i64))
theorem OwnI.mono {w:World} {B B':Nat} {v:Value} {xs:List Int} (h:OwnI w B v xs) (hb:B'<=B):OwnI w B' v xs:=World.ownsRow.mono h hb
theorem OwnI.kept {w w':World} {B:Nat} {v:Value} {xs:List Int} {row:Option Nat} (h:OwnI w B v xs) (hg:w.grownBy w' row) (hne:v.ownBlock=none\/v.ownBlock≠row):OwnI w' B v xs:=World.ownsRow.kept h hg hne
theorem OwnI.lt {w:World} {B:Nat} {v:Value} {xs:List Int} (h:OwnI w B v xs):∀ k,v.ownBlock=some k->B<=k/\k<w.heap.size:=World.ownsRow.lt h
theorem zZ {w w':World} (h:Below w.heap.size w w'):w.grownBy w' none:=⟨h.os,h.tape,h.output,h.size,fun k hk _=>h.block k hk⟩
theorem below_of_grown {w w':World} (h:w.grownBy w' none):Below w.heap.size w w':=⟨h.os,h.tape,h.output,h.size,fun k hk=>h.block k hk (by simp)⟩
theorem OwnI.below {w w':World} {B:Nat} {v:Value} {xs:List Int} (h:OwnI w B v xs) (hb:Below w.heap.size w w'):OwnI w' B v xs:=by
 refine h.kept (zZ hb) ?_
 cases hv:v.ownBlock with
 | none=>exact .inl rfl
 | some k=>exact .inr (by simp)
theorem yC {B:Nat} {w w':World} (h:Below B w w') (n:Nat):Below B w (w'.drewN n):=⟨h.os,h.tape,h.output,h.size,h.block⟩
theorem getD_map_int (xs:List Int) (j:Nat) (hj:j<xs.length):(xs.map (Value.int .i64))[j]? = some (.int .i64 (zi xs j)):=by
 unfold zi
 rw [List.getElem?_map,List.getElem?_eq_getElem hj,List.getD_eq_getElem?_getD,List.getElem?_eq_getElem hj];rfl
theorem OwnI.form {w:World} {B:Nat} {v:Value} {xs:List Int} (h:OwnI w B v xs):∃ a0 cap,v=.slice a0 xs.length cap/\Sl w a0 xs:=by
 rcases h.2 with ⟨rfl,h0⟩ | ⟨g,cap,cur,rfl,hb,_⟩
 ·exact ⟨none,0,by rw [h0],.inl (List.eq_nil_of_length_eq_zero h0)⟩
 ·refine ⟨_,cap,rfl,.inr ⟨g,0,rfl,(h.lt g rfl).2,fun i hi=>?_⟩⟩
  rw [Nat.zero_add,World.ownsRow.cellAt h i (by omega)]
  exact getD_map_int xs i hi
theorem OwnI.block {w:World} {B:Nat} {v:Value} {xs:List Int} (h:OwnI w B v xs) (hn:0<xs.length):∃ g cap,v=.slice (some ⟨g,0,none⟩) xs.length cap/\B<=g/\g<w.heap.size:=by
 rcases h.2 with ⟨_,h0⟩ | ⟨g,cap,cur,rfl,hb,_⟩
 ·omega
 ·exact ⟨g,cap,rfl,hb,(h.lt g rfl).2⟩
theorem OwnI.cell {w:World} {B g cap:Nat} {xs:List Int} (h:OwnI w B (.slice (some ⟨g,0,none⟩) xs.length cap) xs) {j:Nat} (hj:j<xs.length):w.cell? ⟨g,j,none⟩=some (.int .i64 (zi xs j)):=by
 rw [World.ownsRow.cellAt h j (by omega)]
 exact getD_map_int xs j hj
theorem OwnI.frozen {w:World} {B g cap:Nat} {xs:List Int} (h:OwnI w B (.slice (some ⟨g,0,none⟩) xs.length cap) xs) (j:Nat):w.frozen? ⟨g,j,none⟩=false:=World.ownsRow.frozenAt h j
theorem OwnI.set {w:World} {B g cap n:Nat} {xs:List Int} (h:OwnI w B (.slice (some ⟨g,0,none⟩) n cap) xs) (hn:n=xs.length) (j:Nat) (x:Int):OwnI (w.setCell ⟨g,j,none⟩ (.int .i64 x)) B (.slice (some ⟨g,0,none⟩) n cap) (xs.set j x)/\w.grownBy (w.setCell ⟨g,j,none⟩ (.int .i64 x)) (some g):=by
 subst hn
 have:=World.ownsRow.stored h j (.int .i64 x)
 unfold OwnI
 rw [List.length_set,List.map_set]
 exact this
theorem infoInt:(Tryz.prog.info? 3).map (fun i=>(i.zero,i.size,i.bytes))=some (some (.int .i64 0),1,8):=by kernel_rfl
theorem run_make_int (n:Nat) (hn:n<=1048576) (w:World):
  (Instr.makeSlice 32 (.int .i64 (n:Int)) (.int .i64 (n:Int))).run Tryz.prog w=.ok (.slice (some ⟨w.heap.size,0,none⟩) n n) (w.alloc (.cells (madeCells #[.int .i64 0] n) 3)):=by
 have hinfo:=infoInt
 cases hi:Tryz.prog.info? 3 with
 | none=>rw [hi] at hinfo;cases hinfo
 | some i=>
  rw [hi] at hinfo
  simp only [Option.map_some,Option.some.injEq,Prod.mk.injEq] at hinfo
  obtain ⟨hz,hs,hb⟩:=hinfo
  have h:=run_make (P:=Tryz.prog) w 32 3 i _ Tryz.underlying32 hi hz .i64 .i64 (n:Int) (n:Int) (by omega) (Int.le_refl _) (by rw [hb];omega) (by omega)
  rw [hs] at h
  simpa [Value.cells] using h
theorem made_own (w:World) (n:Nat) (hn:n<=1048576):OwnI (w.alloc (.cells (madeCells #[.int .i64 0] n) 3)) w.heap.size (.slice (some ⟨w.heap.size,0,none⟩) n n) (List.replicate n 0):=by
 have:=World.ownsRow_lit (base:=w.heap.size) (e:=3) (size:=1) w (madeCells #[.int .i64 0] n) n (Nat.le_refl _) (by unfold maxLen;omega) (by simp [size_madeCells])
 rw [toList_madeCells_one] at this
 unfold OwnI
 rw [List.length_replicate,List.map_replicate]
 exact this
abbrev stV (p:Int) (ra:Option Addr) (rn rc:Nat) (oa:Option Addr) (on oc:Nat) (code:Int):Value:=.agg #[.int .i64 p,.slice ra rn rc,.slice oa on oc,.int .i64 code]
abbrev evV (k p v:Int):Value:=.agg #[.int .i64 k,.int .i64 p,.int .i64 v]
theorem bcell {W w1:World} (hb:Below W.heap.size W w1):(∀ b o,b<W.heap.size->w1.cell? ⟨b,o,none⟩=W.cell? ⟨b,o,none⟩)/\(∀ b o,b<W.heap.size->w1.frozen? ⟨b,o,none⟩=W.frozen? ⟨b,o,none⟩):=
 ⟨fun b o h=>hb.cell (p:=⟨b,o,none⟩) h,fun b o h=>hb.frozen (p:=⟨b,o,none⟩) h⟩
theorem OwnI.setBelow {w:World} {B:Nat} {v:Value} {xs:List Int} (h:OwnI w B v xs) {a:Addr} (ha:a.block<B) (u:Value):OwnI (w.setCell a u) B v xs:=ownsRow_setCell_below h ha u
def StOwn (w:World) (B:Nat) (v:Value) (p:Int) (rs os:List Int) (code:Int):Prop:=
 ∃ vr vo,v=.agg #[.int .i64 p,vr,vo,.int .i64 code]/\OwnI w B vr rs/\OwnI w B vo os/\∀ k,vr.ownBlock=some k->vo.ownBlock≠some k
theorem StOwn.below {w w':World} {B:Nat} {v:Value} {p code:Int} {rs os:List Int} (h:StOwn w B v p rs os code) (hb:Below w.heap.size w w'):StOwn w' B v p rs os code:=by
 obtain ⟨vr,vo,e,h1,h2,h3⟩:=h
 exact ⟨vr,vo,e,h1.below hb,h2.below hb,h3⟩
theorem StOwn.mono {w:World} {B B':Nat} {v:Value} {p code:Int} {rs os:List Int} (h:StOwn w B v p rs os code) (hb:B'<=B):StOwn w B' v p rs os code:=by
 obtain ⟨vr,vo,e,h1,h2,h3⟩:=h
 exact ⟨vr,vo,e,h1.mono hb,h2.mono hb,h3⟩
theorem StOwn.read {w:World} {B:Nat} {v:Value} {p code:Int} {rs os:List Int} (h:StOwn w B v p rs os code):∃ ra rc oa oc,v=stV p ra rs.length rc oa os.length oc code/\Sl w ra rs/\Sl w oa os:=by
 obtain ⟨vr,vo,rfl,h1,h2,_⟩:=h
 obtain ⟨ra,rc,rfl,s1⟩:=h1.form
 obtain ⟨oa,oc,rfl,s2⟩:=h2.form
 exact ⟨ra,rc,oa,oc,rfl,s1,s2⟩
theorem below_up {w w0 w1:World} {B:Nat} (h:Below B w w0) (h1:Below w0.heap.size w0 w1) (hB:B<=w0.heap.size):Below B w w1:=h.trans (h1.mono hB)
abbrev regV (a b c d:Int):Value:=.agg #[.int .i64 a,.int .i64 b,.int .i64 c,.int .i64 d]
theorem sizeInt:(Tryz.prog.info? 3).map (·.size)=some 1:=by kernel_rfl
def cmax (x:Int):Int:=if x < -1000000000 then -1000000000 else x
def cmin (x:Int):Int:=if 1000000000<x then 1000000000 else x
def clamp (x:Int):Int:=cmin (cmax x)
theorem run_cmax (ts:Array TypeId) (t:TypeId) (x:Int) (w:World):(Builtin.max_ ts t #[.int .i64 x,.int .i64 (-1000000000)]).run Tryz.prog w=.ok (.int .i64 (cmax x)) w:=by
 rw [run_max_int2];rfl
theorem run_cmin (ts:Array TypeId) (t:TypeId) (x:Int) (w:World):(Builtin.min_ ts t #[.int .i64 x,.int .i64 1000000000]).run Tryz.prog w=.ok (.int .i64 (cmin x)) w:=by
 rw [run_min_int2];rfl
theorem run_index0 (a b c d:Int) (w:World):(Instr.index 123 (regV a b c d) (.int .i64 0)).run Tryz.prog w=.ok (.int .i64 a) w:=by kernel_rfl
theorem run_index1 (a b c d:Int) (w:World):(Instr.index 123 (regV a b c d) (.int .i64 1)).run Tryz.prog w=.ok (.int .i64 b) w:=by kernel_rfl
theorem run_index2 (a b c d:Int) (w:World):(Instr.index 123 (regV a b c d) (.int .i64 2)).run Tryz.prog w=.ok (.int .i64 c) w:=by kernel_rfl
theorem run_index3 (a b c d:Int) (w:World):(Instr.index 123 (regV a b c d) (.int .i64 3)).run Tryz.prog w=.ok (.int .i64 d) w:=by kernel_rfl
section
attribute [local go_sem] run_index0 run_index1 run_index2 run_index3
theorem held_any (a b c d:Int) (w:World):
  Calls Tryz.prog 122 #[regV a b c d] w fun e w'=>e=.returned (regV (clamp a) (clamp b) (clamp c) (clamp d))/\Below w.heap.size w w':=by
 have hmx:=run_cmax
 have hmn:=run_cmin
 go_enter Tryz.func122,Tryz.ntmps122
 go_wp2_with fail
 go_rounds 5
 refine bodyPost_ret (v:=regV (clamp a) (clamp b) (clamp c) (clamp d)) (by simp [results,Tryz.results122,go_sem,clamp]) rfl ⟨rfl,?_⟩
 go_grown
end
theorem isCode_any (x:Int) (w:World):
  Calls Tryz.prog 123 #[.int .i64 x] w fun e w'=>e=.returned (.bool (inB x 0 2))/\w'=w:=by
 by_cases h0:x=0
 ·subst h0
  go_enter Tryz.func123,Tryz.ntmps123
  go_wp2
  go_ret
  exact ⟨rfl,rfl⟩
 ·have h0':(x == 0)=false:=by simp [h0]
  by_cases h1:x=1
  ·subst h1
   go_enter Tryz.func123,Tryz.ntmps123
   go_wp2
   go_ret
   exact ⟨rfl,rfl⟩
  ·have h1':(x == 1)=false:=by simp [h1]
   have hv:inB x 0 2=(x == 2):=by
    rw [Bool.eq_iff_iff];simp [inB];omega
   have HV:Hid (inB x 0 2=(x == 2)):=hv
   clear h0 h1 hv
   go_enter Tryz.func123,Tryz.ntmps123
   go_wp2
   go_ret
   exact ⟨by rw [HV.out];rfl,rfl⟩
theorem setRow_alloc (w:World) (z cs:Array Value) (t:TypeId):(w.alloc (.cells z t)).setRow w.heap.size cs=w.alloc (.cells cs t):=by
 have h:((w.alloc (.cells z t)).setRow w.heap.size cs).heap=(w.alloc (.cells cs t)).heap:=by
  apply Array.ext_getElem?
  intro k
  by_cases hk:k=w.heap.size
  ·subst hk
   rw [setRow_heap _ _ z cs t (0,0) (heap_alloc_new w _)]
   exact (heap_alloc_new w _).symm
  ·rw [setRow_other _ _ _ _ hk]
   show (w.heap.push _)[k]? = (w.heap.push _)[k]?
   rw [Array.getElem?_push,Array.getElem?_push,if_neg hk,if_neg hk]
 show World.mk _ _ _ _ _=World.mk _ _ _ _ _
 congr 1
theorem run_copy4 (w:World) (a:Addr) (sLen cap:Nat) (cs:List Value) (z:Array Value) (hz:z.size=4) (hn:cs.length=Nat.min sLen 4) (hsrc:∀ j v,cs[j]? = some v->(w.alloc (.cells z 123)).cell? (a.add j)=some v) (h1:∀ v ∈ cs,v.oneCell'=true):
  (Builtin.copy_ #[32,32] 3 #[.slice (some ⟨w.heap.size,0,none⟩) 4 4,.slice (some a) sLen cap]).run Tryz.prog (w.alloc (.cells z 123))=.ok (goInt cs.length) (w.alloc (.cells (cs ++ z.toList.drop cs.length).toArray 123)):=by
 have h:=run_copy_row (P:=Tryz.prog) (w.alloc (.cells z 123)) 32 32 3 3 w.heap.size 0 4 4 a sLen cap z 123 cs Tryz.underlying32 sizeInt (heap_alloc_new w _) hn hsrc (by rw [hz,hn,Nat.zero_add];exact Nat.min_le_right _ _) h1
 rw [h,setRow_alloc]
 simp only [List.take_zero,List.nil_append,Nat.zero_add]
theorem addr_add (b off j:Nat):Addr.add ⟨b,off,none⟩ j=⟨b,off+j,none⟩:=by
 unfold Addr.add
 by_cases h:j=0
 ·rw [if_pos h,h,Nat.add_zero]
 ·rw [if_neg h]
theorem src_of_sl {w w':World} {b off:Nat} {xs:List Int} (h:Sl w (some ⟨b,off,none⟩) xs) (hb:Below w.heap.size w w'):∀ j v,(xs.map (Value.int .i64))[j]? = some v->w'.cell? (Addr.add ⟨b,off,none⟩ j)=some v:=by
 intro j v hj
 have hl:j<xs.length:=by
  apply Classical.byContradiction
  intro hn
  rw [List.getElem?_eq_none (by simp;omega)] at hj
  cases hj
 rw [getD_map_int xs j hl] at hj
 rw [addr_add,<- hj]
 obtain ⟨b',off',e,hlt,hc⟩:=(h.below hb).at hl
 simp only [Option.some.injEq,Addr.mk.injEq,and_true] at e
 obtain ⟨rfl,rfl⟩:=e
 exact hc
theorem one_ints (xs:List Int):∀ v ∈ xs.map (Value.int .i64),v.oneCell'=true:=by
 intro v hv
 obtain ⟨x,_,rfl⟩:=List.mem_map.1 hv
 rfl
abbrev zero4:Obj:=.cells #[.int .i64 0,.int .i64 0,.int .i64 0,.int .i64 0] 123
theorem registersOf_core (a0:Option Addr) (n cap q:Nat) (r0 r1 r2 r3:Int) (w:World)
  (hrun:(Builtin.copy_ #[32,32] 3 #[.slice (some ⟨w.heap.size+1,0,none⟩) 4 4,.slice a0 n cap]).run Tryz.prog ((w.alloc zero4).alloc zero4)=.ok (goInt q) ((w.alloc zero4).alloc (.cells #[.int .i64 r0,.int .i64 r1,.int .i64 r2,.int .i64 r3] 123))):
  Calls Tryz.prog 94 #[.slice a0 n cap] w fun e w'=>e=.returned (.tuple #[regV r0 r1 r2 r3,.bool ((n:Int) == 4)])/\Below w.heap.size w w':=by
 go_enter Tryz.func94,Tryz.ntmps94
 go_wp2
 refine bodyPost_ret (v:=.tuple #[regV r0 r1 r2 r3,.bool ((n:Int) == 4)]) (by simp [results,Tryz.results94,go_sem]) rfl ⟨rfl,?_⟩
 go_grown
theorem registersOf_some (b off n cap:Nat) (cs:List Int) (r0 r1 r2 r3:Int) (w:World) (hn:cs.length=Nat.min n 4) (h:Sl w (some ⟨b,off,none⟩) cs)
  (hr:(cs.map (Value.int .i64) ++ [Value.int .i64 0,.int .i64 0,.int .i64 0,.int .i64 0].drop cs.length).toArray=#[.int .i64 r0,.int .i64 r1,.int .i64 r2,.int .i64 r3]):
  Calls Tryz.prog 94 #[.slice (some ⟨b,off,none⟩) n cap] w fun e w'=>e=.returned (.tuple #[regV r0 r1 r2 r3,.bool ((n:Int) == 4)])/\Below w.heap.size w w':=by
 have hb:Below w.heap.size w ((w.alloc zero4).alloc zero4):=by go_grown
 have hrun:=run_copy4 (w.alloc zero4) ⟨b,off,none⟩ n cap (cs.map (Value.int .i64)) #[.int .i64 0,.int .i64 0,.int .i64 0,.int .i64 0] rfl (by rw [List.length_map];exact hn) (src_of_sl h hb) (one_ints cs)
 rw [List.length_map,hr] at hrun
 rw [World.size_alloc] at hrun
 exact registersOf_core _ n cap _ r0 r1 r2 r3 w hrun
theorem registersOf_none (a0:Option Addr) (cap:Nat) (w:World):
  Calls Tryz.prog 94 #[.slice a0 0 cap] w fun e w'=>e=.returned (.tuple #[regV 0 0 0 0,.bool ((0:Int) == 4)])/\Below w.heap.size w w':=
 registersOf_core a0 0 cap 0 0 0 0 0 w (run_copy_none _ _ _ _ 3 _ _ _ _ _ _ Tryz.underlying32 sizeInt rfl)
theorem Sl.sub {w:World} {b off:Nat} {xs ys:List Int} (h:Sl w (some ⟨b,off,none⟩) xs) (hp:∃ t,xs=ys ++ t):Sl w (some ⟨b,off,none⟩) ys:=by
 obtain ⟨t,rfl⟩:=hp
 by_cases h0:ys=[]
 ·exact .inl h0
 ·rcases h with h | ⟨b',off',e,hlt,hc⟩
  ·simp at h;exact .inl h.1
  ·refine .inr ⟨b',off',e,hlt,fun i hi=>?_⟩
   have:=hc i (by simp;omega)
   unfold zi at this ⊢
   rwa [List.getD_eq_getElem?_getD,List.getElem?_append_left hi,<- List.getD_eq_getElem?_getD] at this
theorem registersOf_any (a0:Option Addr) (cap:Nat) (xs:List Int) (w:World) (h:Sl w a0 xs):
  Calls Tryz.prog 94 #[.slice a0 xs.length cap] w fun e w'=>(∃ r0 r1 r2 r3,e=.returned (.tuple #[regV r0 r1 r2 r3,.bool ((xs.length:Int) == 4)])/\(xs.length=4->xs=[r0,r1,r2,r3]))/\Below w.heap.size w w':=by
 match xs,h with
 | [],_=>exact (registersOf_none a0 cap w).mono fun e w' ⟨he,hb⟩=>⟨⟨0,0,0,0,he,fun h=>by cases h⟩,hb⟩
 | [a],h=>
  obtain ⟨b,off,rfl,_⟩:=h.at (k:=0) (by simp)
  exact (registersOf_some b off 1 cap [a] a 0 0 0 w rfl h rfl).mono fun e w' ⟨he,hb⟩=>⟨⟨_,_,_,_,he,fun h=>by cases h⟩,hb⟩
 | [a,c],h=>
  obtain ⟨b,off,rfl,_⟩:=h.at (k:=0) (by simp)
  exact (registersOf_some b off 2 cap [a,c] a c 0 0 w rfl h rfl).mono fun e w' ⟨he,hb⟩=>⟨⟨_,_,_,_,he,fun h=>by cases h⟩,hb⟩
 | [a,c,d],h=>
  obtain ⟨b,off,rfl,_⟩:=h.at (k:=0) (by simp)
  exact (registersOf_some b off 3 cap [a,c,d] a c d 0 w rfl h rfl).mono fun e w' ⟨he,hb⟩=>⟨⟨_,_,_,_,he,fun h=>by cases h⟩,hb⟩
 | [a,c,d,f],h=>
  obtain ⟨b,off,rfl,_⟩:=h.at (k:=0) (by simp)
  exact (registersOf_some b off 4 cap [a,c,d,f] a c d f w rfl h rfl).mono fun e w' ⟨he,hb⟩=>⟨⟨_,_,_,_,he,fun _=>rfl⟩,hb⟩
 | a :: c :: d :: f :: g :: t,h=>
  obtain ⟨b,off,rfl,_⟩:=h.at (k:=0) (by simp)
  exact (registersOf_some b off (a :: c :: d :: f :: g :: t).length cap [a,c,d,f] a c d f w (by simp) (h.sub ⟨g :: t,rfl⟩) rfl).mono fun e w' ⟨he,hb⟩=>⟨⟨_,_,_,_,he,fun h=>by simp at h⟩,hb⟩
open Go.Sort
def numB (x:Int):Bool:=inB x (-1000000000) 1000000000
def allN (xs:List Int):Bool:=xs.all numB
theorem zi_mem {xs:List Int} {k:Nat} (hk:k<xs.length):zi xs k ∈ xs:=by
 unfold zi
 rw [List.getD_eq_getElem?_getD,List.getElem?_eq_getElem hk]
 exact List.getElem_mem hk
theorem allN_false {xs:List Int} {k:Nat} (hk:k<xs.length) (h:numB (zi xs k)=false):allN xs=false:=by
 rw [allN,List.all_eq_false]
 exact ⟨_,zi_mem hk,by simp [h]⟩
theorem mem_zi {xs:List Int} {x:Int} (h:x ∈ xs):∃ k,k<xs.length/\zi xs k=x:=by
 obtain ⟨k,hk,e⟩:=List.getElem_of_mem h
 refine ⟨k,hk,?_⟩
 unfold zi
 rw [List.getD_eq_getElem?_getD,List.getElem?_eq_getElem hk]
 exact e
theorem allN_true {xs:List Int} (h:∀ k,k<xs.length->numB (zi xs k)=true):allN xs=true:=by
 rw [allN,List.all_eq_true]
 intro x hx
 obtain ⟨k,hk,rfl⟩:=mem_zi hx
 exact h k hk
def outB (xs:List Int):Bool:=decide ((xs.length:Int)<=60) && allN xs
def regsB (xs:List Int):Bool:=((xs.length:Int) == 4) && allN xs
def stOkB (n:Nat) (p:Int) (rs os:List Int) (code:Int):Bool:=regsB rs && inB code 0 2 && belB p n && outB os
theorem outOk_any (a0:Option Addr) (cap:Nat) (xs:List Int) (w:World) (hlen:xs.length<=1048576) (h:Sl w a0 xs):
  Calls Tryz.prog 124 #[.slice a0 xs.length cap] w fun e w'=>e=.returned (.bool (outB xs))/\w'=w:=by
 have hl':(xs.length:Int)<=1048576:=by omega
 by_cases h60:(xs.length:Int)<=60
 case neg=>
  have hg:60<(xs.length:Int):=by omega
  have HV:Hid (outB xs=false):=by simp [Hid,outB,h60]
  clear h60
  go_enter Tryz.func124,Tryz.ntmps124
  go_wp2
  go_ret
  exact ⟨by rw [HV.out];rfl,rfl⟩
 case pos=>
  have HV:Hid (outB xs=allN xs):=by simp [Hid,outB,h60]
  have hg:¬ 60<(xs.length:Int):=by omega
  have HS:Hid (Sl w a0 xs):=h
  clear h h60
  go_enter Tryz.func124,Tryz.ntmps124
  go_wp2_with fail
  go_loop [10] (fun i=>∃ k:Nat,k<=xs.length/\i=.int .i64 k/\Hid (∀ t,t<k->numB (zi xs t)=true)) (fun i=>xs.length - (intOf i).toNat)
  case atStart=>exact ⟨0,Nat.zero_le _,rfl,fun t ht=>by omega⟩
  case round=>
   obtain ⟨k,hk,rfl,HK⟩:=hrel
   by_cases hlt:k<xs.length
   ·have hlt':(k:Int)<(xs.length:Int):=by omega
    obtain ⟨b,off,rfl,hbl,ck⟩:=HS.out.at hlt
    rcases zK (numB (zi xs k)) with t0 | t0
    ·have T0:Hid (numB (zi xs k)=true):=t0
     have t1:inB (zi xs k) (-1000000000) 1000000000=true:=t0
     clear t0
     go_wp2_with (go_at_call 125;refine (isNum_any _ _).mono ?_;rintro e w' ⟨rfl,rfl⟩)
     go_round
     case rel=>
      refine ⟨k+1,by omega,by go_num,fun t ht=>?_⟩
      by_cases htk:t=k
      ·subst htk;exact T0.out
      ·exact HK.out t (by omega)
     case measure=>simp [intOf];omega
    ·have T0:Hid (allN xs=false):=allN_false hlt t0
     have t1:inB (zi xs k) (-1000000000) 1000000000=false:=t0
     clear t0
     go_wp2_with (go_at_call 125;refine (isNum_any _ _).mono ?_;rintro e w' ⟨rfl,rfl⟩)
     go_ret
     exact ⟨by rw [HV.out,T0.out];rfl,rfl⟩
   ·have hlt':¬ (k:Int)<(xs.length:Int):=by omega
    have T0:Hid (allN xs=true):=allN_true fun t ht=>HK.out t (by omega)
    clear HK
    go_wp2
    go_ret
    exact ⟨by rw [HV.out,T0.out];rfl,rfl⟩
theorem clamp_eq {x:Int}:clamp x=x ↔ numB x=true:=by
 unfold clamp cmin cmax numB inB
 simp only [decide_eq_true_eq]
 by_cases h1:x < -1000000000
 ·rw [if_pos h1,if_neg (by omega)];omega
 ·rw [if_neg h1]
  by_cases h2:1000000000<x
  ·rw [if_pos h2];omega
  ·rw [if_neg h2];simp;omega
def regEqB (a b c d a' b' c' d':Int):Bool:=a == a' && (b == b' && (c == c' && d == d'))
theorem eql_regs (a b c d a' b' c' d':Int) (w:World):(binOp .eql 123 (regV a b c d) (regV a' b' c' d')).run Tryz.prog w=.ok (.bool (regEqB a b c d a' b' c' d')) w:=by
 have hinfo:=infoInt
 cases hi:Tryz.prog.info? 3 with
 | none=>rw [hi] at hinfo;cases hinfo
 | some i=>
  rw [run_eql_struct,show (10000:Nat)=9998+1+1 from rfl,run_equalIn_array w (9998+1) _ _ Tryz.underlying123 hi,show Tryz.prog.cellsOf 3=1 by kernel_rfl,show List.range 4=[0,1,2,3] from rfl]
  have hp:∀ (vs:Array Value) (j:Nat) (v:Value) (w:World),vs[j]? = some v->(part 3 vs j).run Tryz.prog w=.ok v w:=by
   intro vs j v w hv
   simp [part,go_sem,hv]
  have p0:=hp #[.int .i64 a,.int .i64 b,.int .i64 c,.int .i64 d] 0 (.int .i64 a) w rfl
  have p1:=hp #[.int .i64 a,.int .i64 b,.int .i64 c,.int .i64 d] 1 (.int .i64 b) w rfl
  have p2:=hp #[.int .i64 a,.int .i64 b,.int .i64 c,.int .i64 d] 2 (.int .i64 c) w rfl
  have p3:=hp #[.int .i64 a,.int .i64 b,.int .i64 c,.int .i64 d] 3 (.int .i64 d) w rfl
  have q0:=hp #[.int .i64 a',.int .i64 b',.int .i64 c',.int .i64 d'] 0 (.int .i64 a') w rfl
  have q1:=hp #[.int .i64 a',.int .i64 b',.int .i64 c',.int .i64 d'] 1 (.int .i64 b') w rfl
  have q2:=hp #[.int .i64 a',.int .i64 b',.int .i64 c',.int .i64 d'] 2 (.int .i64 c') w rfl
  have q3:=hp #[.int .i64 a',.int .i64 b',.int .i64 c',.int .i64 d'] 3 (.int .i64 d') w rfl
  have hq:∀ x y,(Op.equalIn 9999 3 (.int .i64 x) (.int .i64 y)).run Tryz.prog w=.ok (x == y) w:=fun x y=>run_equalIn_int (P:=Tryz.prog) w 9998 3 .i64 .i64 x y Tryz.underlying3
  clear hp hinfo hi
  simp only [regEqB]
  cases h1:(a == a') <;> cases h2:(b == b') <;> cases h3:(c == c') <;> cases h4:(d == d') <;> simp only [Op.eqItems,Sem.run_bind,Sem.run_pure,Sem.run_ite,Result.andThen_ok,Bool.not_true,Bool.not_false,if_true,if_false,Bool.false_eq_true,Nat.mul_one,Bool.and_true,Bool.and_false,p0,p1,p2,p3,q0,q1,q2,q3,hq,h1,h2,h3,h4]
theorem regEqB_clamp (a b c d:Int):regEqB a b c d (clamp a) (clamp b) (clamp c) (clamp d)=regsB [a,b,c,d]:=by
 have h:∀ x,(x == clamp x)=numB x:=fun x=>by
  rw [Bool.eq_iff_iff,<- clamp_eq,beq_iff_eq];exact eq_comm
 unfold regEqB regsB allN
 rw [h,h,h,h]
 simp
theorem zS {w:World} {b:Nat} (o:Obj) (j:Nat) (h:b<w.heap.size):(w.alloc o).cell? ⟨b,j,none⟩=w.cell? ⟨b,j,none⟩:=zH (Below.heap_alloc w o b h)
theorem Calls.regrown_same {P:Program} {f:FuncId} {args:Array Value} {w:World} {d:Nat} {os:Array Obj} {v:Value}
  (h:Calls P f args (grow (redrawn w d) os) fun e w'=>e=.returned v/\w'=grow (redrawn w d) os):Calls P f args (grow (redrawn w d) os) fun e w''=>e=.returned v/\∃ p:Regrown,w''=grow (redrawn w p.d) p.os:=
 h.mono fun _ _ ⟨he,hw⟩=>⟨he,⟨d,os⟩,hw⟩
theorem implStateOk_four (la:Option Addr) (n lc:Nat) (p code:Int) (ra oa:Option Addr) (rc oc:Nat) (a b c d:Int) (os:List Int) (w:World) (ho:os.length<=1048576) (h1:Sl w ra [a,b,c,d]) (h2:Sl w oa os):
  Calls Tryz.prog 93 #[.slice la n lc,stV p ra 4 rc oa os.length oc code] w fun e w'=>e=.returned (.bool (stOkB n p [a,b,c,d] os code))/\Below w.heap.size w w':=by
 have H1:Hid (Sl w ra [a,b,c,d]):=h1
 have H2:Hid (Sl w oa os):=h2
 clear h1 h2
 go_enter Tryz.func93,Tryz.ntmps93
 go_wp2_with fail
 refine (registersOf_any ra rc [a,b,c,d] _ (H1.out.below (by go_grown))).mono ?_
 rintro e w1 ⟨⟨r0,r1,r2,r3,rfl,hr⟩,b1⟩
 have B1:Hid (Below w.heap.size w w1):=below_up (by go_grown) b1 (by simp)
 have y0:w.heap.size<w1.heap.size:=by have:=b1.size;simp at this;omega
 have hr':=hr rfl
 simp only [List.cons.injEq,and_true] at hr'
 obtain ⟨rfl,rfl,rfl,rfl⟩:=hr'
 obtain ⟨hc1,hf1⟩:=bcell b1
 clear b1 hr
 go_wp2_with fail
 have B2:Hid (Below w.heap.size w (w1.alloc (.cells #[.int .i64 a,.int .i64 b,.int .i64 c,.int .i64 d] 123))):=B1.out.alloc (by omega) _
 generalize hW:(w1.alloc (.cells #[.int .i64 a,.int .i64 b,.int .i64 c,.int .i64 d] 123))=W at *
 have k0:W.cell? ⟨w1.heap.size,0,none⟩=some (.int .i64 a):=by rw [<- hW];simp
 have k1:W.cell? ⟨w1.heap.size,1,none⟩=some (.int .i64 b):=by rw [<- hW];simp
 have k2:W.cell? ⟨w1.heap.size,2,none⟩=some (.int .i64 c):=by rw [<- hW];simp
 have k3:W.cell? ⟨w1.heap.size,3,none⟩=some (.int .i64 d):=by rw [<- hW];simp
 have s0:W.cell? ⟨w.heap.size,0,none⟩=some (.int .i64 p):=by rw [<- hW,zS _ _ y0,hc1 _ _ (by simp)];simp
 have s2:W.cell? ⟨w.heap.size,2,none⟩=some (.slice oa os.length oc):=by rw [<- hW,zS _ _ y0,hc1 _ _ (by simp)];simp
 have s3:W.cell? ⟨w.heap.size,3,none⟩=some (.int .i64 code):=by rw [<- hW,zS _ _ y0,hc1 _ _ (by simp)];simp
 clear hc1 hf1 hW B1 y0
 have k0':=cell_regrown k0
 have k1':=cell_regrown k1
 have k2':=cell_regrown k2
 have k3':=cell_regrown k3
 have s0':=cell_regrown s0
 have s2':=cell_regrown s2
 have s3':=cell_regrown s3
 have HO:Hid (∀ d os',Sl (grow (redrawn W d) os') oa os):=fun d os'=>(H2.out.below B2.out).below (below_regrown W d os')
 rcases zK (regsB [a,b,c,d]) with t1 | t1
 case inr=>
  have HV:Hid (stOkB n p [a,b,c,d] os code=false):=by simp [Hid,stOkB,t1]
  have he:∀ wx,(binOp .eql 123 (regV a b c d) (regV (clamp a) (clamp b) (clamp c) (clamp d))).run Tryz.prog wx=.ok (.bool false) wx:=fun wx=>by rw [eql_regs,regEqB_clamp,t1]
  clear t1
  refine wp_region_quiet_below (by kernel_rfl) (by kernel_rfl) ?_
  repeat (quiet_step (first|(go_at_call 122;exact Calls.regrown_of (held_any _ _ _ _ _))|(go_at_call 123;exact Calls.regrown_same (isCode_any _ _))|(go_at_call 52;exact Calls.regrown_same (isBelow_any _ _ _))|(go_at_call 124;exact Calls.regrown_same (outOk_any _ _ _ _ ho (HO.out _ _)))))
  refine wpQuiet_nil ?_
  intro _ hw'
  obtain ⟨⟨dq,osq⟩,hw''⟩:=hw'
  subst hw''
  have B3:Hid (Below w.heap.size w (grow (redrawn W dq) osq)):=B2.out.trans ((below_regrown W dq osq).mono B2.out.size)
  generalize grow (redrawn W dq) osq=w3 at *
  clear k0' k1' k2' k3' s0' s2' s3' HO he
  go_wp2
  go_ret
  exact ⟨by rw [HV.out];rfl,B3.out⟩
 have he:∀ wx,(binOp .eql 123 (regV a b c d) (regV (clamp a) (clamp b) (clamp c) (clamp d))).run Tryz.prog wx=.ok (.bool true) wx:=fun wx=>by rw [eql_regs,regEqB_clamp,t1]
 rcases zK (inB code 0 2) with t2 | t2
 case inr=>
  have HV:Hid (stOkB n p [a,b,c,d] os code=false):=by simp [Hid,stOkB,t2]
  clear t1
  refine wp_region_quiet_below (by kernel_rfl) (by kernel_rfl) ?_
  repeat (quiet_step (first|(go_at_call 122;exact Calls.regrown_of (held_any _ _ _ _ _))|(go_at_call 123;exact Calls.regrown_same (isCode_any _ _))|(go_at_call 52;exact Calls.regrown_same (isBelow_any _ _ _))|(go_at_call 124;exact Calls.regrown_same (outOk_any _ _ _ _ ho (HO.out _ _)))))
  refine wpQuiet_nil ?_
  intro _ hw'
  obtain ⟨⟨dq,osq⟩,hw''⟩:=hw'
  subst hw''
  have B3:Hid (Below w.heap.size w (grow (redrawn W dq) osq)):=B2.out.trans ((below_regrown W dq osq).mono B2.out.size)
  generalize grow (redrawn W dq) osq=w3 at *
  clear k0' k1' k2' k3' s0' s2' s3' HO he
  go_wp2
  go_ret
  exact ⟨by rw [HV.out];rfl,B3.out⟩
 rcases zK (belB p n) with t3 | t3
 case inr=>
  have HV:Hid (stOkB n p [a,b,c,d] os code=false):=by simp [Hid,stOkB,t3]
  clear t1
  refine wp_region_quiet_below (by kernel_rfl) (by kernel_rfl) ?_
  repeat (quiet_step (first|(go_at_call 122;exact Calls.regrown_of (held_any _ _ _ _ _))|(go_at_call 123;exact Calls.regrown_same (isCode_any _ _))|(go_at_call 52;exact Calls.regrown_same (isBelow_any _ _ _))|(go_at_call 124;exact Calls.regrown_same (outOk_any _ _ _ _ ho (HO.out _ _)))))
  refine wpQuiet_nil ?_
  intro _ hw'
  obtain ⟨⟨dq,osq⟩,hw''⟩:=hw'
  subst hw''
  have B3:Hid (Below w.heap.size w (grow (redrawn W dq) osq)):=B2.out.trans ((below_regrown W dq osq).mono B2.out.size)
  generalize grow (redrawn W dq) osq=w3 at *
  clear k0' k1' k2' k3' s0' s2' s3' HO he
  go_wp2
  go_ret
  exact ⟨by rw [HV.out];rfl,B3.out⟩
 case inl=>
  have HV:Hid (stOkB n p [a,b,c,d] os code=outB os):=by simp [Hid,stOkB,t1,t2,t3]
  clear t1
  refine wp_region_quiet_below (by kernel_rfl) (by kernel_rfl) ?_
  repeat (quiet_step (first|(go_at_call 122;exact Calls.regrown_of (held_any _ _ _ _ _))|(go_at_call 123;exact Calls.regrown_same (isCode_any _ _))|(go_at_call 52;exact Calls.regrown_same (isBelow_any _ _ _))|(go_at_call 124;exact Calls.regrown_same (outOk_any _ _ _ _ ho (HO.out _ _)))))
  refine wpQuiet_nil ?_
  intro _ hw'
  obtain ⟨⟨dq,osq⟩,hw''⟩:=hw'
  subst hw''
  have B3:Hid (Below w.heap.size w (grow (redrawn W dq) osq)):=B2.out.trans ((below_regrown W dq osq).mono B2.out.size)
  generalize grow (redrawn W dq) osq=w3 at *
  clear k0' k1' k2' k3' s0' s2' s3' HO he
  go_wp2
  go_ret
  exact ⟨by rw [HV.out];rfl,B3.out⟩
theorem implStateOk_not (la:Option Addr) (n lc:Nat) (p code:Int) (ra oa:Option Addr) (rc on oc:Nat) (rs:List Int) (w:World) (h4:rs.length≠4) (h1:Sl w ra rs):
  Calls Tryz.prog 93 #[.slice la n lc,stV p ra rs.length rc oa on oc code] w fun e w'=>e=.returned (.bool false)/\Below w.heap.size w w':=by
 have H1:Hid (Sl w ra rs):=h1
 have h4':((rs.length:Int) == 4)=false:=by simp;omega
 clear h1 h4
 go_enter Tryz.func93,Tryz.ntmps93
 go_wp2_with fail
 refine (registersOf_any ra rc rs _ (H1.out.below (by go_grown))).mono ?_
 rintro e w1 ⟨⟨a,b,c,d,rfl,hr⟩,b1⟩
 have B1:Hid (Below w.heap.size w w1):=below_up (by go_grown) b1 (by simp)
 have y0:w.heap.size<w1.heap.size:=by have:=b1.size;simp at this;omega
 clear b1 hr
 go_wp2_with fail
 have B2:Hid (Below w.heap.size w (w1.alloc (.cells #[.int .i64 a,.int .i64 b,.int .i64 c,.int .i64 d] 123))):=B1.out.alloc (by omega) _
 generalize (w1.alloc (.cells #[.int .i64 a,.int .i64 b,.int .i64 c,.int .i64 d] 123))=W at *
 go_quiet (fail)
 go_wp2
 go_ret
 exact ⟨rfl,yC B2.out _⟩
theorem implStateOk_any (la:Option Addr) (n lc:Nat) (p code:Int) (ra oa:Option Addr) (rc oc:Nat) (rs os:List Int) (w:World) (ho:os.length<=1048576) (h1:Sl w ra rs) (h2:Sl w oa os):
  Calls Tryz.prog 93 #[.slice la n lc,stV p ra rs.length rc oa os.length oc code] w fun e w'=>e=.returned (.bool (stOkB n p rs os code))/\Below w.heap.size w w':=by
 by_cases h4:rs.length=4
 ·match rs,h4,h1 with
  | [a,b,c,d],_,h1=>exact implStateOk_four la n lc p code ra oa rc oc a b c d os w ho h1 h2
 ·have hv:stOkB n p rs os code=false:=by
   have:((rs.length:Int) == 4)=false:=by simp;omega
   simp [stOkB,regsB,this]
  rw [hv]
  exact implStateOk_not la n lc p code ra oa rc os.length oc rs w h4 h1
theorem own_some {w:World} {B n cap:Nat} {a0:Option Addr} {ys:List Int} (h:OwnI w B (.slice a0 n cap) ys) (hn:0<ys.length):∃ g,a0=some ⟨g,0,none⟩/\n=ys.length/\B<=g/\g<w.heap.size:=by
 obtain ⟨g,c,hv,hb,hl⟩:=h.block hn
 simp only [Value.slice.injEq] at hv
 exact ⟨g,hv.1,hv.2.1,hb,hl⟩
theorem own_apart {w w':World} {B:Nat} {v u:Value} {xs:List Int} (h:OwnI w B v xs) (hg:w.grownBy w' u.ownBlock) (ha:∀ k,u.ownBlock=some k->v.ownBlock≠some k):OwnI w' B v xs:=by
 refine h.kept hg ?_
 cases hu:u.ownBlock with
 | none=>
  cases hv:v.ownBlock with
  | none=>exact .inl rfl
  | some k=>exact .inr (by simp)
 | some k=>exact .inr (ha k hu)
theorem gcell {W w1:World} {row:Option Nat} (hg:W.grownBy w1 row) {b:Nat} (hb:b<W.heap.size) (hne:some b≠row):(∀ o,w1.cell? ⟨b,o,none⟩=W.cell? ⟨b,o,none⟩)/\(∀ o,w1.frozen? ⟨b,o,none⟩=W.frozen? ⟨b,o,none⟩):=
 ⟨fun _=>zH (hg.block b hb hne),fun _=>zI (hg.block b hb hne)⟩
def hasBlock (v:Value) (k:Nat):Prop:=∃ p vr vo code,v=.agg #[p,vr,vo,code]/\(vr.ownBlock=some k\/vo.ownBlock=some k)
theorem hasBlock_iff (p vr vo code:Value) (k:Nat):hasBlock (.agg #[p,vr,vo,code]) k ↔ vr.ownBlock=some k\/vo.ownBlock=some k:=by
 constructor
 ·rintro ⟨p',vr',vo',code',e,h⟩
  simp only [Value.agg.injEq,Array.mk.injEq,List.cons.injEq,and_true] at e
  obtain ⟨_,rfl,rfl,_⟩:=e
  exact h
 ·exact fun h=>⟨p,vr,vo,code,rfl,h⟩
theorem StOwn.lt {w:World} {B:Nat} {v:Value} {p code:Int} {rs os:List Int} (h:StOwn w B v p rs os code) {k:Nat} (hk:hasBlock v k):B<=k/\k<w.heap.size:=by
 obtain ⟨vr,vo,rfl,h1,h2,_⟩:=h
 rcases (hasBlock_iff _ _ _ _ _).1 hk with h | h
 ·exact h1.lt k h
 ·exact h2.lt k h
structure Marked (v:Value) (w w':World):Prop where
 os:w'.os=w.os
 tape:w'.tape=w.tape
 output:w'.output=w.output
 size:w.heap.size<=w'.heap.size
 block:∀ k,k<w.heap.size->¬ hasBlock v k->w'.heap[k]? = w.heap[k]?
theorem Marked.below {v:Value} {w w':World} {B:Nat} (h:Marked v w w') (hB:B<=w.heap.size) (hv:∀ k,hasBlock v k->B<=k):Below B w w':=
 ⟨h.os,h.tape,h.output,h.size,fun k hk=>h.block k (by omega) (fun hh=>by have:=hv k hh;omega)⟩
theorem Marked.own {v:Value} {w w':World} {B:Nat} {u:Value} {xs:List Int} (h:Marked v w w') (hu:OwnI w B u xs) (ha:∀ k,u.ownBlock=some k->¬ hasBlock v k):OwnI w' B u xs:=by
 rcases hu.2 with ⟨rfl,h0⟩ | ⟨g,cap,cur,rfl,hb,hg,hr⟩
 ·exact ⟨hu.1,.inl ⟨rfl,h0⟩⟩
 ·refine ⟨hu.1,.inr ⟨g,cap,cur,rfl,hb,?_,hr⟩⟩
  rw [h.block g (hu.lt g rfl).2 (ha g rfl)]
  exact hg
theorem Marked.st {v:Value} {w w':World} {B:Nat} {u:Value} {p code:Int} {rs os:List Int} (h:Marked v w w') (hu:StOwn w B u p rs os code) (ha:∀ k,hasBlock u k->¬ hasBlock v k):StOwn w' B u p rs os code:=by
 obtain ⟨vr,vo,rfl,h1,h2,h3⟩:=hu
 exact ⟨vr,vo,rfl,h.own h1 fun k hk=>ha k ((hasBlock_iff _ _ _ _ _).2 (.inl hk)),h.own h2 fun k hk=>ha k ((hasBlock_iff _ _ _ _ _).2 (.inr hk)),h3⟩
theorem Marked.cell {v:Value} {w w':World} (h:Marked v w w') {b:Nat} (hb:b<w.heap.size) (hv:¬ hasBlock v b) (j:Nat):w'.cell? ⟨b,j,none⟩=w.cell? ⟨b,j,none⟩:=zH (h.block b hb hv)
theorem Marked.frozen {v:Value} {w w':World} (h:Marked v w w') {b:Nat} (hb:b<w.heap.size) (hv:¬ hasBlock v b) (j:Nat):w'.frozen? ⟨b,j,none⟩=w.frozen? ⟨b,j,none⟩:=zI (h.block b hb hv)
def BoxC (w:World) (N:Nat) (p vr vo code:Value):Prop:=w.cell? ⟨N,0,none⟩=some p/\w.cell? ⟨N,1,none⟩=some vr/\w.cell? ⟨N,2,none⟩=some vo/\w.cell? ⟨N,3,none⟩=some code
theorem BoxC.below {w w':World} {N:Nat} {p vr vo code:Value} (h:BoxC w N p vr vo code) (hb:Below w.heap.size w w'):BoxC w' N p vr vo code:=by
 obtain ⟨h0,h1,h2,h3⟩:=h
 have hN:N<w.heap.size:=zJ w _ h0
 exact ⟨(hb.cell (p:=⟨N,0,none⟩) hN).trans h0,(hb.cell (p:=⟨N,1,none⟩) hN).trans h1,(hb.cell (p:=⟨N,2,none⟩) hN).trans h2,(hb.cell (p:=⟨N,3,none⟩) hN).trans h3⟩
theorem BoxC.new (w:World) (p vr vo code:Value) (t:TypeId):BoxC (w.alloc (.cells #[p,vr,vo,code] t)) w.heap.size p vr vo code:=by
 unfold BoxC
 simp
theorem BoxC.marked {v:Value} {w w':World} {N:Nat} {p vr vo code:Value} (h:BoxC w N p vr vo code) (hm:Marked v w w') (hv:¬ hasBlock v N):BoxC w' N p vr vo code:=by
 obtain ⟨h0,h1,h2,h3⟩:=h
 have hN:N<w.heap.size:=zJ w _ h0
 exact ⟨(hm.cell hN hv _).trans h0,(hm.cell hN hv _).trans h1,(hm.cell hN hv _).trans h2,(hm.cell hN hv _).trans h3⟩
theorem info_int:∃ i,Tryz.prog.info? 3=some i/\i.zero=some (.int .i64 0)/\i.size=1/\i.bytes=8:=by
 have hinfo:=infoInt
 cases hi:Tryz.prog.info? 3 with
 | none=>rw [hi] at hinfo;cases hinfo
 | some i=>
  rw [hi] at hinfo
  simp only [Option.map_some,Option.some.injEq,Prod.mk.injEq] at hinfo
  exact ⟨i,rfl,hinfo⟩
theorem run_append_none (w:World) (ty:TypeId) (B c:Nat) (v:Value) (xs:List Int) (h:OwnI w B v xs):
  (Builtin.append_ #[32,32] ty #[v,.slice none 0 c]).run Tryz.prog w=.ok v w:=by
 obtain ⟨i,hi,_⟩:=info_int
 rcases h.2 with ⟨rfl,_⟩ | ⟨g,cap,cur,rfl,_,_,hnc,_⟩
 ·simp [Builtin.append_,run_underlying Tryz.underlying32,sizeOf,typeInfo,hi,Builtin.lenOf,Builtin.firstCells]
 ·simp [Builtin.append_,run_underlying Tryz.underlying32,sizeOf,typeInfo,hi,Builtin.lenOf,Builtin.firstCells,hnc,storeCells]
theorem run_append_ints (w:World) (ty:TypeId) (B c:Nat) (v:Value) (a0:Option Addr) (xs ys:List Int) (h:OwnI w B v xs) (hy:Sl w a0 ys) (hn:xs.length+ys.length<=4000000) (hB:B<=w.heap.size):
  ∃ v' w',(Builtin.append_ #[32,32] ty #[v,.slice a0 ys.length c]).run Tryz.prog w=.ok v' w'/\OwnI w' B v' (xs ++ ys)/\w.grownBy w' v.ownBlock/\(v'.ownBlock=v.ownBlock\/v'.ownBlock=some w.heap.size):=by
 obtain ⟨i,hi,hz,hs,hb⟩:=info_int
 cases a0 with
 | none=>
  have hy0:ys=[]:=by
   rcases hy with h0 | ⟨b,off,e,_⟩
   ·exact h0
   ·cases e
  subst hy0
  exact ⟨v,w,run_append_none w ty B c v xs h,by simpa using h,World.grownBy.refl _ _,.inl rfl⟩
 | some a=>
  have hnews:∀ j u,(ys.map (Value.int .i64))[j]? = some u->w.cell? (a.add j)=some u:=by
   rcases hy with h0 | ⟨b,off,e,hlt,hc⟩
   ·subst h0;intro j u hj;simp at hj
   ·cases e
    exact src_of_sl (.inr ⟨b,off,rfl,hlt,hc⟩) (Below.refl _ _)
  obtain ⟨v',w',h1,h2,h3,_,h5⟩:=run_append_own_at (P:=Tryz.prog) w B 32 ty 3 i (.int .i64 0) 1 8 Tryz.underlying32 hi hz hs hb rfl (by decide) v xs.length (xs.map (Value.int .i64)) h a ys.length c (ys.map (Value.int .i64)) (by simp) hnews (one_ints ys) (by unfold maxLen;omega) (by omega) hB
  refine ⟨v',w',h1,?_,h3,h5⟩
  unfold OwnI
  rw [List.length_append,List.map_append]
  exact h2
theorem wpList_append_ints {ops:Array Oper} {rest:List Oper} {op:Oper} {act:Act} {Q:Exit->Act->World->Prop} (w:World) (hgd:op.guard=none) (s x:Operand)
  (ho:op.op=.call { callee:=.builtin .append,args:=#[s,x],argTypes:=#[32,32] })
  (B c:Nat) (v:Value) (a0:Option Addr) (xs ys:List Int) (hs:act.eval s=v) (hx:act.eval x=.slice a0 ys.length c) (hv:OwnI w B v xs) (hy:Sl w a0 ys) (hn:xs.length+ys.length<=4000000) (hB:B<=w.heap.size)
  (h:∀ v' w',OwnI w' B v' (xs ++ ys)->w.grownBy w' v.ownBlock->(v'.ownBlock=v.ownBlock\/v'.ownBlock=some w.heap.size)->wpList Tryz.prog ops Q rest (act.put op.dst v') w'):
  wpList Tryz.prog ops Q (op :: rest) act w:=by
 obtain ⟨v',w',h1,h2,h3,h4⟩:=run_append_ints w op.type B c v a0 xs ys hv hy hn hB
 refine wpList_plain hgd fun K hK=>?_
 unfold Oper.wp execOp
 simp only [ho,resolve,invoke,builtin,Sem.run_bind,Sem.run_pure,Result.andThen_ok,List.map_toArray,List.map_cons,List.map_nil,hs,hx,h1]
 exact hK _ _ (h v' w' h2 h3 h4)
theorem own_empty (w:World):OwnI (w.alloc (.cells #[] 3)) w.heap.size (.slice (some ⟨w.heap.size,0,none⟩) 0 0) []:=
 World.ownsRow_made (base:=w.heap.size) (e:=3) (size:=1) w #[] 0 (Nat.le_refl _) (by unfold maxLen;omega) rfl
theorem own_emptyN (w:World) {N:Nat} (h:N=w.heap.size):OwnI (w.alloc (.cells #[] 3)) N (.slice (some ⟨N,0,none⟩) 0 0) []:=by
 subst h
 exact own_empty w
theorem wpList_append_new {ops:Array Oper} {rest:List Oper} {op:Oper} {act:Act} {Q:Exit->Act->World->Prop} (w:World) {N:Nat} (hN:N=w.heap.size) (hgd:op.guard=none) (s x:Operand)
  (ho:op.op=.call { callee:=.builtin .append,args:=#[s,x],argTypes:=#[32,32] })
  (c:Nat) (a0:Option Addr) (ys:List Int) (hs:act.eval s=.slice (some ⟨N,0,none⟩) 0 0) (hx:act.eval x=.slice a0 ys.length c) (hy:Sl w a0 ys) (hn:ys.length<=1048576)
  (h:∀ v' w',OwnI w' w.heap.size v' ys->Below w.heap.size w w'->wpList Tryz.prog ops Q rest (act.put op.dst v') w'):
  wpList Tryz.prog ops Q (op :: rest) act (w.alloc (.cells #[] 3)):=by
 subst hN
 have hb:Below w.heap.size w (w.alloc (.cells #[] 3)):=(Below.refl _ _).alloc (Nat.le_refl _) _
 refine wpList_append_ints _ hgd s x ho w.heap.size c (.slice (some ⟨w.heap.size,0,none⟩) 0 0) a0 [] ys hs hx (own_empty w) (hy.below hb) (by simp;omega) (by simp) ?_
 intro v' w' o g _
 exact h v' w' (by simpa using o) (hb.grown g (by simp) (fun k hk=>by cases hk;exact Nat.le_refl _))
def STOP (p:Prop):Prop:=p
theorem append_stop {P:Program} {ops:Array Oper} {rest:List Oper} {op:Oper} {act:Act} {Q:Exit->Act->World->Prop} {w:World} {a:Array Operand} {t:Array TypeId} (_:op.op=.call { callee:=.builtin .append,args:=a,argTypes:=t }) (h:STOP (wpList P ops Q (op :: rest) act w)):wpList P ops Q (op :: rest) act w:=h
theorem clone_any (a0:Option Addr) (cap:Nat) (xs:List Int) (w:World) (hlen:xs.length<=1048576) (h:Sl w a0 xs):
  Calls Tryz.prog 89 #[.slice a0 xs.length cap] w fun e w'=>∃ v,e=.returned v/\OwnI w' w.heap.size v xs/\Below w.heap.size w w':=by
 cases a0 with
 | none=>
  have h0:xs=[]:=by
   rcases h with h0 | ⟨b,off,e,_⟩
   ·exact h0
   ·cases e
  subst h0
  have he:∀ wx:World,(binOp .eql 32 (.slice none 0 cap) (.slice none 0 0)).run Tryz.prog wx=.ok (.bool true) wx:=fun wx=>by kernel_rfl
  go_enter Tryz.func89,Tryz.ntmps89
  go_wp2
  go_ret
  exact ⟨_,rfl,World.ownsRow_nil _ _ _ _,Below.refl _ _⟩
 | some a=>
  have HS:Hid (Sl w (some a) xs):=h
  have he:∀ wx:World,(binOp .eql 32 (.slice (some a) xs.length cap) (.slice none 0 0)).run Tryz.prog wx=.ok (.bool false) wx:=fun wx=>by kernel_rfl
  clear h
  go_enter Tryz.func89,Tryz.ntmps89
  go_wp2_with (at_builtin;refine wpList_append_ints _ rfl _ _ rfl w.heap.size cap (.slice (some ⟨w.heap.size,0,none⟩) 0 0) (some a) [] xs rfl rfl (own_empty w) (HS.out.below ((Below.refl _ _).alloc (Nat.le_refl _) _)) (by simp;omega) (by simp) ?_;intro v' w1 o1 g1 _;have HF:Hid (OwnI w1 w.heap.size v' xs/\Below w.heap.size w w1):=⟨by simpa using o1,((Below.refl _ _).alloc (Nat.le_refl _) _).grown g1 (by simp) (fun k hk=>by cases hk;exact Nat.le_refl _)⟩;clear o1 g1)
  go_ret
  exact ⟨_,rfl,HF.out⟩
theorem copyState_any (p code:Int) (ra oa:Option Addr) (rc oc:Nat) (rs os:List Int) (w:World) (hr:rs.length<=1048576) (ho:os.length<=1048576) (h1:Sl w ra rs) (h2:Sl w oa os):
  Calls Tryz.prog 48 #[stV p ra rs.length rc oa os.length oc code] w fun e w'=>∃ v,e=.returned v/\StOwn w' w.heap.size v p rs os code/\Below w.heap.size w w':=by
 have H1:Hid (Sl w ra rs):=h1
 have H2:Hid (Sl w oa os):=h2
 clear h1 h2
 go_enter Tryz.func48,Tryz.ntmps48
 go_wp2_with fail
 refine (clone_any ra rc rs _ hr (H1.out.below (by go_grown))).mono ?_
 rintro e w1 ⟨v1,rfl,o1,b1⟩
 have B1:Hid (Below w.heap.size w w1):=below_up (by go_grown) b1 (by simp;omega)
 obtain ⟨hc1,hf1⟩:=bcell b1
 have y1:w.heap.size+1<w1.heap.size:=by have:=b1.size;simp at this;omega
 have y0:w.heap.size<w1.heap.size:=by omega
 obtain ⟨ra1,rc1,rfl,_⟩:=o1.form
 have s0:w1.cell? ⟨w.heap.size,0,none⟩=some (.int .i64 p):=by rw [hc1 _ _ (by simp;omega)];simp
 have s1:w1.cell? ⟨w.heap.size,1,none⟩=some (.slice ra rs.length rc):=by rw [hc1 _ _ (by simp;omega)];simp
 have s2:w1.cell? ⟨w.heap.size,2,none⟩=some (.slice oa os.length oc):=by rw [hc1 _ _ (by simp;omega)];simp
 have s3:w1.cell? ⟨w.heap.size,3,none⟩=some (.int .i64 code):=by rw [hc1 _ _ (by simp;omega)];simp
 have L1:Hid (∀ k,(Value.slice ra1 rs.length rc1).ownBlock=some k->w.heap.size+1<k/\k<w1.heap.size):=fun k hk=>by have:=o1.lt k hk;simp at this;omega
 have BS:Hid (Below w.heap.size w (w1.setCell ⟨w.heap.size,1,none⟩ (.slice ra1 rs.length rc1))):=B1.out.setCell (by simp) _
 have O1:Hid (OwnI (w1.setCell ⟨w.heap.size,1,none⟩ (.slice ra1 rs.length rc1)) (w.heap.size+1+1) (.slice ra1 rs.length rc1) rs):=by
  simp only [World.size_alloc] at o1
  exact o1.setBelow (by simp;omega) _
 clear o1 b1 B1
 go_wp2_with fail
 refine (clone_any oa oc os _ ho (H2.out.below BS.out)).mono ?_
 rintro e w2 ⟨v2,rfl,o2,b2⟩
 have B2:Hid (Below w.heap.size w w2):=below_up BS.out b2 (by simp;omega)
 obtain ⟨hc2,hf2⟩:=bcell b2
 obtain ⟨oa2,oc2,rfl,_⟩:=o2.form
 have O1':Hid (OwnI w2 (w.heap.size+1+1) (.slice ra1 rs.length rc1) rs):=O1.out.below b2
 simp only [World.size_setCell] at o2
 have O2:Hid (OwnI w2 w1.heap.size (.slice oa2 os.length oc2) os):=o2
 clear o2 b2 BS O1
 go_wp2
 refine bodyPost_ret (v:=stV p ra1 rs.length rc1 oa2 os.length oc2 code) (by simp [results,Tryz.results48,go_sem,hc2,y1,hc1]) rfl ⟨_,rfl,⟨_,_,rfl,?_,?_,?_⟩,?_⟩
 ·refine OwnI.mono (B:=w.heap.size+1+1) ?_ (by omega)
  repeat (refine OwnI.setBelow ?_ (by simp<;>omega) _)
  exact O1'.out
 ·refine OwnI.mono (B:=w1.heap.size) ?_ (by omega)
  repeat (refine OwnI.setBelow ?_ (by simpa using by omega) _)
  exact O2.out
 ·intro k hk hk'
  have h1:=L1.out k hk
  have h2:=O2.out.lt k hk'
  omega
 ·have:=B2.out
  go_grown
theorem l2Copy_any (p code:Int) (ra oa:Option Addr) (rc oc:Nat) (rs os:List Int) (w:World) (hr:rs.length<=1048576) (ho:os.length<=1048576) (h1:Sl w ra rs) (h2:Sl w oa os):
  Calls Tryz.prog 88 #[stV p ra rs.length rc oa os.length oc code] w fun e w'=>∃ v,e=.returned v/\StOwn w' w.heap.size v p rs os code/\Below w.heap.size w w':=by
 have H1:Hid (Sl w ra rs):=h1
 have H2:Hid (Sl w oa os):=h2
 clear h1 h2
 go_enter Tryz.func88,Tryz.ntmps88
 go_wp2_with (at_builtin;refine append_stop rfl ?_)
 unfold STOP
 refine wpList_append_new _ (N:=w.heap.size+1+1) (by simp) rfl _ _ rfl rc ra rs rfl rfl (H1.out.below (by go_grown)) hr ?_
 intro v1 w1 o1 b1
 have B1:Hid (Below w.heap.size w w1):=below_up (by go_grown) b1 (by simp;omega)
 obtain ⟨hc1,hf1⟩:=bcell b1
 have y1:w.heap.size+1<w1.heap.size:=by have:=b1.size;simp at this;omega
 have y0:w.heap.size<w1.heap.size:=by omega
 obtain ⟨ra1,rc1,rfl,_⟩:=o1.form
 have s0:w1.cell? ⟨w.heap.size,0,none⟩=some (.int .i64 p):=by rw [hc1 _ _ (by simp;omega)];simp
 have s1:w1.cell? ⟨w.heap.size,1,none⟩=some (.slice ra rs.length rc):=by rw [hc1 _ _ (by simp;omega)];simp
 have s2:w1.cell? ⟨w.heap.size,2,none⟩=some (.slice oa os.length oc):=by rw [hc1 _ _ (by simp;omega)];simp
 have s3:w1.cell? ⟨w.heap.size,3,none⟩=some (.int .i64 code):=by rw [hc1 _ _ (by simp;omega)];simp
 have L1:Hid (∀ k,(Value.slice ra1 rs.length rc1).ownBlock=some k->w.heap.size+1<k/\k<w1.heap.size):=fun k hk=>by have:=o1.lt k hk;simp at this;omega
 have BS:Hid (Below w.heap.size w (w1.setCell ⟨w.heap.size,1,none⟩ (.slice ra1 rs.length rc1))):=B1.out.setCell (by simp) _
 have O1:Hid (OwnI (w1.setCell ⟨w.heap.size,1,none⟩ (.slice ra1 rs.length rc1)) (w.heap.size+1+1) (.slice ra1 rs.length rc1) rs):=by
  simp only [World.size_alloc] at o1
  exact o1.setBelow (by simp;omega) _
 clear o1 b1 B1
 go_wp2_with (at_builtin;refine append_stop rfl ?_)
 unfold STOP
 refine wpList_append_new (w1.setCell ⟨w.heap.size,1,none⟩ (.slice ra1 rs.length rc1)) (N:=w1.heap.size) (by simp) rfl _ _ rfl oc oa os rfl rfl (H2.out.below BS.out) ho ?_
 intro v2 w2 o2 b2
 have B2:Hid (Below w.heap.size w w2):=below_up BS.out b2 (by simp;omega)
 obtain ⟨hc2,hf2⟩:=bcell b2
 obtain ⟨oa2,oc2,rfl,_⟩:=o2.form
 have O1':Hid (OwnI w2 (w.heap.size+1+1) (.slice ra1 rs.length rc1) rs):=O1.out.below b2
 simp only [World.size_setCell] at o2
 have O2:Hid (OwnI w2 w1.heap.size (.slice oa2 os.length oc2) os):=o2
 clear o2 b2 BS O1
 go_wp2
 refine bodyPost_ret (v:=stV p ra1 rs.length rc1 oa2 os.length oc2 code) (by simp [results,Tryz.results88,go_sem,hc2,y1,hc1]) rfl ⟨_,rfl,⟨_,_,rfl,?_,?_,?_⟩,?_⟩
 ·refine OwnI.mono (B:=w.heap.size+1+1) ?_ (by omega)
  repeat (refine OwnI.setBelow ?_ (by simp<;>omega) _)
  exact O1'.out
 ·refine OwnI.mono (B:=w1.heap.size) ?_ (by omega)
  repeat (refine OwnI.setBelow ?_ (by simpa using by omega) _)
  exact O2.out
 ·intro k hk hk'
  have h1:=L1.out k hk
  have h2:=O2.out.lt k hk'
  omega
 ·have:=B2.out
  go_grown
theorem inB_below (p:Int) (n:Nat):inB p 0 ((n:Int) - 1)=belB p n:=by
 rw [Bool.eq_iff_iff];simp [inB,belB];omega
