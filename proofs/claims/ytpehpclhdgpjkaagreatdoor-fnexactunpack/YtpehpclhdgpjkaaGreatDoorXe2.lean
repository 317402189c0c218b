import Derived.Test.YtpehpclhdgpjkaaGreatDoorXe0
import Derived.Test.YtpehpclhdgpjkaaGreatDoorXe1
import Derived.Maps.AppendAt
import Derived.Maps.Range
import Derived.Deep.Onto
import Derived.Deep.Slices
import Derived.Deep.RegionWith
import Derived.Deep.QuietTactic
import Derived.BigQuiet
import Derived.Laws.IdiomCopy
import Derived.Test.YtpehpclhdgpjkaaGreatDoorRows
import Derived.OrdersHeld
import Derived.Deep.RegionHeld3
namespace Go.Proofs.YtpehpclhdgpjkaaGreatDoor
set_option maxRecDepth 100000
set_option maxHeartbeats 1000000
open Go.RowKit
def zi (xs:List Int) (i:Nat):Int:=xs.getD i 0
def Sl (w:World) (a0:Option Addr) (xs:List Int):Prop:=
 xs=[]\/∃ b off,a0=some ⟨b,off,none⟩/\b<w.heap.size/\∀ i,i<xs.length->w.cell? ⟨b,off+i,none⟩=some (.int .i64 (zi xs i))
theorem Sl.below {w w':World} {a0:Option Addr} {xs:List Int} (h:Sl w a0 xs) (hb:Below w.heap.size w w'):Sl w' a0 xs:=by
 rcases h with h | ⟨b,off,e,hlt,hc⟩
 ·exact .inl h
 ·exact .inr ⟨b,off,e,zL hlt hb.size,fun i hi=>(hb.cell (p:=⟨b,off+i,none⟩) hlt).trans (hc i hi)⟩
theorem Sl.at {w:World} {a0:Option Addr} {xs:List Int} (h:Sl w a0 xs) {k:Nat} (hk:k<xs.length):∃ b off,a0=some ⟨b,off,none⟩/\b<w.heap.size/\w.cell? ⟨b,off+k,none⟩=some (.int .i64 (zi xs k)):=by
 rcases h with rfl | ⟨b,off,e,hlt,hc⟩
 ·simp at hk
 ·exact ⟨b,off,e,hlt,hc k hk⟩
def OwnI (w:World) (B:Nat) (v:Value) (xs:List Int):Prop:=w.ownsRow B 3 1 v xs.length (xs.map (Value.int .i64))
theorem OwnI.mono {w:World} {B B':Nat} {v:Value} {xs:List Int} (h:OwnI w B v xs) (hb:B'<=B):OwnI w B' v xs:=World.ownsRow.mono h hb
theorem OwnI.kept {w w':World} {B:Nat} {v:Value} {xs:List Int} {row:Option Nat} (h:OwnI w B v xs) (hg:w.grownBy w' row) (hne:v.ownBlock=none\/v.ownBlock≠row):OwnI w' B v xs:=World.ownsRow.kept h hg hne
theorem OwnI.lt {w:World} {B:Nat} {v:Value} {xs:List Int} (h:OwnI w B v xs):∀ k,v.ownBlock=some k->B<=k/\k<w.heap.size:=World.ownsRow.lt h
theorem zY {w w':World} (h:Below w.heap.size w w'):w.grownBy w' none:=⟨h.os,h.tape,h.output,h.size,fun k hk _=>h.block k hk⟩
theorem OwnI.below {w w':World} {B:Nat} {v:Value} {xs:List Int} (h:OwnI w B v xs) (hb:Below w.heap.size w w'):OwnI w' B v xs:=by
 refine h.kept (zY hb) ?_
 cases hv:v.ownBlock with
 | none=>exact .inl rfl
 | some k=>exact .inr (by simp)
theorem yB {B:Nat} {w w':World} (h:Below B w w') (n:Nat):Below B w (w'.drewN n):=⟨h.os,h.tape,h.output,h.size,h.block⟩
theorem getD_map_int (xs:List Int) (j:Nat) (hj:j<xs.length):(xs.map (Value.int .i64))[j]? = some (.int .i64 (zi xs j)):=by
 unfold zi
 rw [List.getElem?_map,List.getElem?_eq_getElem hj,List.getD_eq_getElem?_getD,List.getElem?_eq_getElem hj];rfl
theorem OwnI.form {w:World} {B:Nat} {v:Value} {xs:List Int} (h:OwnI w B v xs):∃ a0 cap,v=.slice a0 xs.length cap/\Sl w a0 xs:=by
 rcases h.2 with ⟨rfl,h0⟩ | ⟨g,cap,cur,rfl,hb,_⟩
 ·exact ⟨none,0,by rw [h0],.inl (List.eq_nil_of_length_eq_zero h0)⟩
 ·refine ⟨_,cap,rfl,.inr ⟨g,0,rfl,(h.lt g rfl).2,fun i hi=>?_⟩⟩
  rw [Nat.zero_add,World.ownsRow.cellAt h i (by omega)]
  exact getD_map_int xs i hi
theorem OwnI.block {w:World} {B:Nat} {v:Value} {xs:List Int} (h:OwnI w B v xs) (hn:0<xs.length):∃ g cap,v=.slice (some ⟨g,0,none⟩) xs.length cap/\B<=g/\g<w.heap.size:=by
 rcases h.2 with ⟨_,h0⟩ | ⟨g,cap,cur,rfl,hb,_⟩
 ·omega
 ·exact ⟨g,cap,rfl,hb,(h.lt g rfl).2⟩
theorem OwnI.cell {w:World} {B g cap:Nat} {xs:List Int} (h:OwnI w B (.slice (some ⟨g,0,none⟩) xs.length cap) xs) {j:Nat} (hj:j<xs.length):w.cell? ⟨g,j,none⟩=some (.int .i64 (zi xs j)):=by
 rw [World.ownsRow.cellAt h j (by omega)]
 exact getD_map_int xs j hj
theorem OwnI.frozen {w:World} {B g cap:Nat} {xs:List Int} (h:OwnI w B (.slice (some ⟨g,0,none⟩) xs.length cap) xs) (j:Nat):w.frozen? ⟨g,j,none⟩=false:=World.ownsRow.frozenAt h j
theorem OwnI.set {w:World} {B g cap n:Nat} {xs:List Int} (h:OwnI w B (.slice (some ⟨g,0,none⟩) n cap) xs) (hn:n=xs.length) (j:Nat) (x:Int):OwnI (w.setCell ⟨g,j,none⟩ (.int .i64 x)) B (.slice (some ⟨g,0,none⟩) n cap) (xs.set j x)/\w.grownBy (w.setCell ⟨g,j,none⟩ (.int .i64 x)) (some g):=by
 subst hn
 have:=World.ownsRow.stored h j (.int .i64 x)
 unfold OwnI
 rw [List.length_set,List.map_set]
 exact this
theorem ext_getD {xs ys:List Int} (hl:xs.length=ys.length) (h:∀ i,i<xs.length->zi xs i=zi ys i):xs=ys:=by
 apply List.ext_getElem hl
 intro i h1 h2
 have:=h i h1
 unfold zi at this
 rwa [List.getD_eq_getElem?_getD,List.getD_eq_getElem?_getD,List.getElem?_eq_getElem h1,List.getElem?_eq_getElem h2,Option.getD_some,Option.getD_some] at this
theorem getD_set_self (xs:List Int) (j:Nat) (x:Int) (hj:j<xs.length):zi (xs.set j x) j=x:=by
 unfold zi
 rw [List.getD_eq_getElem?_getD,List.getElem?_set,if_pos rfl,if_pos hj];rfl
theorem getD_set_ne (xs:List Int) (i j:Nat) (x:Int) (h:i≠j):zi (xs.set j x) i=zi xs i:=by
 unfold zi
 rw [List.getD_eq_getElem?_getD,List.getElem?_set,if_neg (fun e=>h e.symm),List.getD_eq_getElem?_getD]
theorem infoInt:(Tryz.prog.info? 3).map (fun i=>(i.zero,i.size,i.bytes))=some (some (.int .i64 0),1,8):=by kernel_rfl
theorem run_make_int (n:Nat) (hn:n<=1048576) (w:World):
  (Instr.makeSlice 48 (.int .i64 (n:Int)) (.int .i64 (n:Int))).run Tryz.prog w=.ok (.slice (some ⟨w.heap.size,0,none⟩) n n) (w.alloc (.cells (madeCells #[.int .i64 0] n) 3)):=by
 have hinfo:=infoInt
 cases hi:Tryz.prog.info? 3 with
 | none=>rw [hi] at hinfo;cases hinfo
 | some i=>
  rw [hi] at hinfo
  simp only [Option.map_some,Option.some.injEq,Prod.mk.injEq] at hinfo
  obtain ⟨hz,hs,hb⟩:=hinfo
  have h:=run_make (P:=Tryz.prog) w 48 3 i _ Tryz.underlying48 hi hz .i64 .i64 (n:Int) (n:Int) (by omega) (Int.le_refl _) (by rw [hb];omega) (by omega)
  rw [hs] at h
  simpa [Value.cells] using h
theorem made_own (w:World) (n:Nat) (hn:n<=1048576):OwnI (w.alloc (.cells (madeCells #[.int .i64 0] n) 3)) w.heap.size (.slice (some ⟨w.heap.size,0,none⟩) n n) (List.replicate n 0):=by
 have:=World.ownsRow_lit (base:=w.heap.size) (e:=3) (size:=1) w (madeCells #[.int .i64 0] n) n (Nat.le_refl _) (by unfold maxLen;omega) (by simp [size_madeCells])
 rw [toList_madeCells_one] at this
 unfold OwnI
 rw [List.length_replicate,List.map_replicate]
 exact this
abbrev stV (p:Int) (ra:Option Addr) (rn rc:Nat) (oa:Option Addr) (on oc:Nat) (code:Int):Value:=.agg #[.int .i64 p,.slice ra rn rc,.slice oa on oc,.int .i64 code]
theorem eqIntS_same (a0 a1:Option Addr) (c0 c1:Nat) (xs:List Int) (w:World) (hlen:xs.length<=1048576) (h0:Sl w a0 xs) (h1:Sl w a1 xs):
  Calls Tryz.prog 97 #[.slice a0 xs.length c0,.slice a1 xs.length c1] w fun e w'=>e=.returned (.bool true)/\Below w.heap.size w w':=by
 have hl':(xs.length:Int)<=1048576:=by omega
 have H0:Hid (Sl w a0 xs):=h0
 have H1:Hid (Sl w a1 xs):=h1
 clear h0 h1
 go_enter Tryz.func97,Tryz.ntmps97
 go_wp2_with fail
 go_loopw [5] (fun i wr=>∃ k:Nat,k<=xs.length/\i=.int .i64 k/\Below w.heap.size w wr) (fun i _=>xs.length - (intOf i).toNat)
 case atStart=>exact ⟨0,Nat.zero_le _,rfl,Below.refl _ _⟩
 case round=>
  obtain ⟨k,hk,rfl,hbw⟩:=hrel
  by_cases hlt:k<xs.length
  ·obtain ⟨b,off,rfl,hbl,ck⟩:=(H0.out.below hbw).at hlt
   obtain ⟨b',off',rfl,hbl',ck'⟩:=(H1.out.below hbw).at hlt
   have hlt':(k:Int)<(xs.length:Int):=by omega
   go_wp2_with fail
   go_quiet (fail)
   go_wp2
   go_roundw
   case rel=>exact ⟨k+1,by omega,by go_num,yB hbw _⟩
   case measure=>simp [intOf];omega
  ·go_wp2
   go_ret
   exact ⟨rfl,hbw⟩
abbrev evV (k p v:Int):Value:=.agg #[.int .i64 k,.int .i64 p,.int .i64 v]
theorem bcell {W w1:World} (hb:Below W.heap.size W w1):(∀ b o,b<W.heap.size->w1.cell? ⟨b,o,none⟩=W.cell? ⟨b,o,none⟩)/\(∀ b o,b<W.heap.size->w1.frozen? ⟨b,o,none⟩=W.frozen? ⟨b,o,none⟩):=
 ⟨fun b o h=>hb.cell (p:=⟨b,o,none⟩) h,fun b o h=>hb.frozen (p:=⟨b,o,none⟩) h⟩
theorem OwnI.setBelow {w:World} {B:Nat} {v:Value} {xs:List Int} (h:OwnI w B v xs) {a:Addr} (ha:a.block<B) (u:Value):OwnI (w.setCell a u) B v xs:=ownsRow_setCell_below h ha u
def StOwn (w:World) (B:Nat) (v:Value) (p:Int) (rs os:List Int) (code:Int):Prop:=
 ∃ vr vo,v=.agg #[.int .i64 p,vr,vo,.int .i64 code]/\OwnI w B vr rs/\OwnI w B vo os/\∀ k,vr.ownBlock=some k->vo.ownBlock≠some k
theorem StOwn.below {w w':World} {B:Nat} {v:Value} {p code:Int} {rs os:List Int} (h:StOwn w B v p rs os code) (hb:Below w.heap.size w w'):StOwn w' B v p rs os code:=by
 obtain ⟨vr,vo,e,h1,h2,h3⟩:=h
 exact ⟨vr,vo,e,h1.below hb,h2.below hb,h3⟩
theorem StOwn.mono {w:World} {B B':Nat} {v:Value} {p code:Int} {rs os:List Int} (h:StOwn w B v p rs os code) (hb:B'<=B):StOwn w B' v p rs os code:=by
 obtain ⟨vr,vo,e,h1,h2,h3⟩:=h
 exact ⟨vr,vo,e,h1.mono hb,h2.mono hb,h3⟩
theorem StOwn.read {w:World} {B:Nat} {v:Value} {p code:Int} {rs os:List Int} (h:StOwn w B v p rs os code):∃ ra rc oa oc,v=stV p ra rs.length rc oa os.length oc code/\Sl w ra rs/\Sl w oa os:=by
 obtain ⟨vr,vo,rfl,h1,h2,_⟩:=h
 obtain ⟨ra,rc,rfl,s1⟩:=h1.form
 obtain ⟨oa,oc,rfl,s2⟩:=h2.form
 exact ⟨ra,rc,oa,oc,rfl,s1,s2⟩
theorem below_up {w w0 w1:World} {B:Nat} (h:Below B w w0) (h1:Below w0.heap.size w0 w1) (hB:B<=w0.heap.size):Below B w w1:=h.trans (h1.mono hB)
theorem eqState_same (p code:Int) (ra oa ra' oa':Option Addr) (rc oc rc' oc':Nat) (rs os:List Int) (w:World) (hr:rs.length<=1048576) (ho:os.length<=1048576) (h1:Sl w ra rs) (h2:Sl w oa os) (h1':Sl w ra' rs) (h2':Sl w oa' os):
  Calls Tryz.prog 57 #[stV p ra rs.length rc oa os.length oc code,stV p ra' rs.length rc' oa' os.length oc' code] w fun e w'=>e=.returned (.bool true)/\Below w.heap.size w w':=by
 have H1:Hid (Sl w ra rs):=h1
 have H2:Hid (Sl w oa os):=h2
 have H1':Hid (Sl w ra' rs):=h1'
 have H2':Hid (Sl w oa' os):=h2'
 clear h1 h2 h1' h2'
 go_enter Tryz.func57,Tryz.ntmps57
 go_wp2_with fail
 refine (eqIntS_same ra ra' rc rc' rs _ hr (H1.out.below (by go_grown)) (H1'.out.below (by go_grown))).mono ?_
 rintro e w1 ⟨rfl,b1⟩
 have B1:Hid (Below w.heap.size w w1):=below_up (by go_grown) b1 (by simp;omega)
 obtain ⟨hc1,hf1⟩:=bcell b1
 have y1:w.heap.size+1<w1.heap.size:=by have:=b1.size;simp at this;omega
 have y0:w.heap.size<w1.heap.size:=by omega
 clear b1
 go_wp2_with fail
 refine (eqIntS_same oa oa' oc oc' os _ ho (H2.out.below B1.out) (H2'.out.below B1.out)).mono ?_
 rintro e w2 ⟨rfl,b2⟩
 have B2:Hid (Below w.heap.size w w2):=below_up B1.out b2 B1.out.size
 obtain ⟨hc2,hf2⟩:=bcell b2
 clear b2 B1
 go_wp2
 go_ret
 exact ⟨rfl,B2.out⟩
abbrev regV (a b c d:Int):Value:=.agg #[.int .i64 a,.int .i64 b,.int .i64 c,.int .i64 d]
theorem sizeInt:(Tryz.prog.info? 3).map (·.size)=some 1:=by kernel_rfl
def cmax (x:Int):Int:=if x < -1000000000 then -1000000000 else x
def cmin (x:Int):Int:=if 1000000000<x then 1000000000 else x
def clamp (x:Int):Int:=cmin (cmax x)
theorem run_cmax (ts:Array TypeId) (t:TypeId) (x:Int) (w:World):(Builtin.max_ ts t #[.int .i64 x,.int .i64 (-1000000000)]).run Tryz.prog w=.ok (.int .i64 (cmax x)) w:=by
 rw [run_max_int2];rfl
theorem run_cmin (ts:Array TypeId) (t:TypeId) (x:Int) (w:World):(Builtin.min_ ts t #[.int .i64 x,.int .i64 1000000000]).run Tryz.prog w=.ok (.int .i64 (cmin x)) w:=by
 rw [run_min_int2];rfl
theorem run_index0 (a b c d:Int) (w:World):(Instr.index 187 (regV a b c d) (.int .i64 0)).run Tryz.prog w=.ok (.int .i64 a) w:=by kernel_rfl
theorem run_index1 (a b c d:Int) (w:World):(Instr.index 187 (regV a b c d) (.int .i64 1)).run Tryz.prog w=.ok (.int .i64 b) w:=by kernel_rfl
theorem run_index2 (a b c d:Int) (w:World):(Instr.index 187 (regV a b c d) (.int .i64 2)).run Tryz.prog w=.ok (.int .i64 c) w:=by kernel_rfl
theorem run_index3 (a b c d:Int) (w:World):(Instr.index 187 (regV a b c d) (.int .i64 3)).run Tryz.prog w=.ok (.int .i64 d) w:=by kernel_rfl
section
attribute [local go_sem] run_index0 run_index1 run_index2 run_index3
theorem held_any (a b c d:Int) (w:World):
  Calls Tryz.prog 158 #[regV a b c d] w fun e w'=>e=.returned (regV (clamp a) (clamp b) (clamp c) (clamp d))/\Below w.heap.size w w':=by
 have hmx:=run_cmax
 have hmn:=run_cmin
 go_enter Tryz.func158,Tryz.ntmps158
 go_wp2_with fail
 go_rounds 5
 refine bodyPost_ret (v:=regV (clamp a) (clamp b) (clamp c) (clamp d)) (by simp [results,Tryz.results158,go_sem,clamp]) rfl ⟨rfl,?_⟩
 go_grown
end
theorem isCode_any (x:Int) (w:World):
  Calls Tryz.prog 159 #[.int .i64 x] w fun e w'=>e=.returned (.bool (inB x 0 2))/\w'=w:=by
 by_cases h0:x=0
 ·subst h0
  go_enter Tryz.func159,Tryz.ntmps159
  go_wp2
  go_ret
  exact ⟨rfl,rfl⟩
 ·have h0':(x == 0)=false:=by simp [h0]
  by_cases h1:x=1
  ·subst h1
   go_enter Tryz.func159,Tryz.ntmps159
   go_wp2
   go_ret
   exact ⟨rfl,rfl⟩
  ·have h1':(x == 1)=false:=by simp [h1]
   have hv:inB x 0 2=(x == 2):=by
    rw [Bool.eq_iff_iff];simp [inB];omega
   have HV:Hid (inB x 0 2=(x == 2)):=hv
   clear h0 h1 hv
   go_enter Tryz.func159,Tryz.ntmps159
   go_wp2
   go_ret
   exact ⟨by rw [HV.out];rfl,rfl⟩
theorem setRow_alloc (w:World) (z cs:Array Value) (t:TypeId):(w.alloc (.cells z t)).setRow w.heap.size cs=w.alloc (.cells cs t):=by
 have h:((w.alloc (.cells z t)).setRow w.heap.size cs).heap=(w.alloc (.cells cs t)).heap:=by
  apply Array.ext_getElem?
  intro k
  by_cases hk:k=w.heap.size
  ·subst hk
   rw [setRow_heap _ _ z cs t (0,0) (heap_alloc_new w _)]
   exact (heap_alloc_new w _).symm
  ·rw [setRow_other _ _ _ _ hk]
   show (w.heap.push _)[k]? = (w.heap.push _)[k]?
   rw [Array.getElem?_push,Array.getElem?_push,if_neg hk,if_neg hk]
 show World.mk _ _ _ _ _=World.mk _ _ _ _ _
 congr 1
theorem run_copy4 (w:World) (a:Addr) (sLen cap:Nat) (cs:List Value) (z:Array Value) (hz:z.size=4) (hn:cs.length=Nat.min sLen 4) (hsrc:∀ j v,cs[j]? = some v->(w.alloc (.cells z 187)).cell? (a.add j)=some v) (h1:∀ v ∈ cs,v.oneCell'=true):
  (Builtin.copy_ #[48,48] 3 #[.slice (some ⟨w.heap.size,0,none⟩) 4 4,.slice (some a) sLen cap]).run Tryz.prog (w.alloc (.cells z 187))=.ok (goInt cs.length) (w.alloc (.cells (cs ++ z.toList.drop cs.length).toArray 187)):=by
 have h:=run_copy_row (P:=Tryz.prog) (w.alloc (.cells z 187)) 48 48 3 3 w.heap.size 0 4 4 a sLen cap z 187 cs Tryz.underlying48 sizeInt (heap_alloc_new w _) hn hsrc (by rw [hz,hn,Nat.zero_add];exact Nat.min_le_right _ _) h1
 rw [h,setRow_alloc]
 simp only [List.take_zero,List.nil_append,Nat.zero_add]
theorem addr_add (b off j:Nat):Addr.add ⟨b,off,none⟩ j=⟨b,off+j,none⟩:=by
 unfold Addr.add
 by_cases h:j=0
 ·rw [if_pos h,h,Nat.add_zero]
 ·rw [if_neg h]
theorem src_of_sl {w w':World} {b off:Nat} {xs:List Int} (h:Sl w (some ⟨b,off,none⟩) xs) (hb:Below w.heap.size w w'):∀ j v,(xs.map (Value.int .i64))[j]? = some v->w'.cell? (Addr.add ⟨b,off,none⟩ j)=some v:=by
 intro j v hj
 have hl:j<xs.length:=by
  apply Classical.byContradiction
  intro hn
  rw [List.getElem?_eq_none (by simp;omega)] at hj
  cases hj
 rw [getD_map_int xs j hl] at hj
 rw [addr_add,<- hj]
 obtain ⟨b',off',e,hlt,hc⟩:=(h.below hb).at hl
 simp only [Option.some.injEq,Addr.mk.injEq,and_true] at e
 obtain ⟨rfl,rfl⟩:=e
 exact hc
theorem one_ints (xs:List Int):∀ v ∈ xs.map (Value.int .i64),v.oneCell'=true:=by
 intro v hv
 obtain ⟨x,_,rfl⟩:=List.mem_map.1 hv
 rfl
abbrev zero4:Obj:=.cells #[.int .i64 0,.int .i64 0,.int .i64 0,.int .i64 0] 187
theorem registersOf_core (a0:Option Addr) (n cap q:Nat) (r0 r1 r2 r3:Int) (w:World)
  (hrun:(Builtin.copy_ #[48,48] 3 #[.slice (some ⟨w.heap.size+1,0,none⟩) 4 4,.slice a0 n cap]).run Tryz.prog ((w.alloc zero4).alloc zero4)=.ok (goInt q) ((w.alloc zero4).alloc (.cells #[.int .i64 r0,.int .i64 r1,.int .i64 r2,.int .i64 r3] 187))):
  Calls Tryz.prog 144 #[.slice a0 n cap] w fun e w'=>e=.returned (.tuple #[regV r0 r1 r2 r3,.bool ((n:Int) == 4)])/\Below w.heap.size w w':=by
 go_enter Tryz.func144,Tryz.ntmps144
 go_wp2
 refine bodyPost_ret (v:=.tuple #[regV r0 r1 r2 r3,.bool ((n:Int) == 4)]) (by simp [results,Tryz.results144,go_sem]) rfl ⟨rfl,?_⟩
 go_grown
theorem registersOf_some (b off n cap:Nat) (cs:List Int) (r0 r1 r2 r3:Int) (w:World) (hn:cs.length=Nat.min n 4) (h:Sl w (some ⟨b,off,none⟩) cs)
  (hr:(cs.map (Value.int .i64) ++ [Value.int .i64 0,.int .i64 0,.int .i64 0,.int .i64 0].drop cs.length).toArray=#[.int .i64 r0,.int .i64 r1,.int .i64 r2,.int .i64 r3]):
  Calls Tryz.prog 144 #[.slice (some ⟨b,off,none⟩) n cap] w fun e w'=>e=.returned (.tuple #[regV r0 r1 r2 r3,.bool ((n:Int) == 4)])/\Below w.heap.size w w':=by
 have hb:Below w.heap.size w ((w.alloc zero4).alloc zero4):=by go_grown
 have hrun:=run_copy4 (w.alloc zero4) ⟨b,off,none⟩ n cap (cs.map (Value.int .i64)) #[.int .i64 0,.int .i64 0,.int .i64 0,.int .i64 0] rfl (by rw [List.length_map];exact hn) (src_of_sl h hb) (one_ints cs)
 rw [List.length_map,hr] at hrun
 rw [World.size_alloc] at hrun
 exact registersOf_core _ n cap _ r0 r1 r2 r3 w hrun
theorem registersOf_none (a0:Option Addr) (cap:Nat) (w:World):
  Calls Tryz.prog 144 #[.slice a0 0 cap] w fun e w'=>e=.returned (.tuple #[regV 0 0 0 0,.bool ((0:Int) == 4)])/\Below w.heap.size w w':=
 registersOf_core a0 0 cap 0 0 0 0 0 w (run_copy_none _ _ _ _ 3 _ _ _ _ _ _ Tryz.underlying48 sizeInt rfl)
theorem Sl.sub {w:World} {b off:Nat} {xs ys:List Int} (h:Sl w (some ⟨b,off,none⟩) xs) (hp:∃ t,xs=ys ++ t):Sl w (some ⟨b,off,none⟩) ys:=by
 obtain ⟨t,rfl⟩:=hp
 by_cases h0:ys=[]
 ·exact .inl h0
 ·rcases h with h | ⟨b',off',e,hlt,hc⟩
  ·simp at h;exact .inl h.1
  ·refine .inr ⟨b',off',e,hlt,fun i hi=>?_⟩
   have:=hc i (by simp;omega)
   unfold zi at this ⊢
   rwa [List.getD_eq_getElem?_getD,List.getElem?_append_left hi,<- List.getD_eq_getElem?_getD] at this
theorem registersOf_any (a0:Option Addr) (cap:Nat) (xs:List Int) (w:World) (h:Sl w a0 xs):
  Calls Tryz.prog 144 #[.slice a0 xs.length cap] w fun e w'=>(∃ r0 r1 r2 r3,e=.returned (.tuple #[regV r0 r1 r2 r3,.bool ((xs.length:Int) == 4)])/\(xs.length=4->xs=[r0,r1,r2,r3]))/\Below w.heap.size w w':=by
 match xs,h with
 | [],_=>exact (registersOf_none a0 cap w).mono fun e w' ⟨he,hb⟩=>⟨⟨0,0,0,0,he,fun h=>by cases h⟩,hb⟩
 | [a],h=>
  obtain ⟨b,off,rfl,_⟩:=h.at (k:=0) (by simp)
  exact (registersOf_some b off 1 cap [a] a 0 0 0 w rfl h rfl).mono fun e w' ⟨he,hb⟩=>⟨⟨_,_,_,_,he,fun h=>by cases h⟩,hb⟩
 | [a,c],h=>
  obtain ⟨b,off,rfl,_⟩:=h.at (k:=0) (by simp)
  exact (registersOf_some b off 2 cap [a,c] a c 0 0 w rfl h rfl).mono fun e w' ⟨he,hb⟩=>⟨⟨_,_,_,_,he,fun h=>by cases h⟩,hb⟩
 | [a,c,d],h=>
  obtain ⟨b,off,rfl,_⟩:=h.at (k:=0) (by simp)
  exact (registersOf_some b off 3 cap [a,c,d] a c d 0 w rfl h rfl).mono fun e w' ⟨he,hb⟩=>⟨⟨_,_,_,_,he,fun h=>by cases h⟩,hb⟩
 | [a,c,d,f],h=>
  obtain ⟨b,off,rfl,_⟩:=h.at (k:=0) (by simp)
  exact (registersOf_some b off 4 cap [a,c,d,f] a c d f w rfl h rfl).mono fun e w' ⟨he,hb⟩=>⟨⟨_,_,_,_,he,fun _=>rfl⟩,hb⟩
 | a :: c :: d :: f :: g :: t,h=>
  obtain ⟨b,off,rfl,_⟩:=h.at (k:=0) (by simp)
  exact (registersOf_some b off (a :: c :: d :: f :: g :: t).length cap [a,c,d,f] a c d f w (by simp) (h.sub ⟨g :: t,rfl⟩) rfl).mono fun e w' ⟨he,hb⟩=>⟨⟨_,_,_,_,he,fun h=>by simp at h⟩,hb⟩
theorem ret_int {k:IntKind} {a b:Int} (h:a=b):Ending.returned (.int k a)=.returned (.int k b):=by rw [h]
def marks (k:Int) (n:Nat):List Int:=(List.range n).map (fun i:Nat=>k+(i:Int))
theorem marks_length (k:Int) (n:Nat):(marks k n).length=n:=by simp [marks]
theorem marks_at (k:Int) (n j:Nat) (h:j<n):zi (marks k n) j=k+j:=by
 unfold zi marks
 rw [List.getD_eq_getElem?_getD,List.getElem?_map,List.getElem?_range h];rfl
theorem own_some {w:World} {B n cap:Nat} {a0:Option Addr} {ys:List Int} (h:OwnI w B (.slice a0 n cap) ys) (hn:0<ys.length):∃ g,a0=some ⟨g,0,none⟩/\n=ys.length/\B<=g/\g<w.heap.size:=by
 obtain ⟨g,c,hv,hb,hl⟩:=h.block hn
 simp only [Value.slice.injEq] at hv
 exact ⟨g,hv.1,hv.2.1,hb,hl⟩
theorem markIntS_any (a0:Option Addr) (cap B:Nat) (xs:List Int) (k:Int) (w:World) (hlen:xs.length<=1048576) (k0:0<=k) (k1:k<=100000000) (h:OwnI w B (.slice a0 xs.length cap) xs):
  Calls Tryz.prog 61 #[.slice a0 xs.length cap,.int .i64 k] w fun e w'=>e=.returned (.int .i64 (k+xs.length))/\OwnI w' B (.slice a0 xs.length cap) (marks k xs.length)/\w.grownBy w' (Value.slice a0 xs.length cap).ownBlock:=by
 have hl':(xs.length:Int)<=1048576:=by omega
 have HO:Hid (OwnI w B (.slice a0 xs.length cap) xs):=h
 clear h
 go_enter Tryz.func61,Tryz.ntmps61
 go_wp2_with fail
 go_loopw [1,5] (fun q i wr=>∃ j:Nat,j<=xs.length/\i=.int .i64 j/\q=.int .i64 (k+j)/\Hid ((∃ ys,ys.length=xs.length/\OwnI wr B (.slice a0 xs.length cap) ys/\∀ t,t<j->zi ys t=k+t)/\w.grownBy wr (Value.slice a0 xs.length cap).ownBlock)) (fun _ i _=>xs.length - (intOf i).toNat)
 case atStart=>exact ⟨0,Nat.zero_le _,rfl,by simp,⟨xs,rfl,HO.out,fun t ht=>by omega⟩,World.grownBy.refl _ _⟩
 case round=>
  clear HO
  obtain ⟨j,hj,rfl,rfl,HR⟩:=hrel
  by_cases hlt:j<xs.length
  ·have hlt':(j:Int)<(xs.length:Int):=by omega
   have hg:∃ g,a0=some ⟨g,0,none⟩/\g<wr.heap.size:=by
    obtain ⟨⟨ys,he,ho,_⟩,_⟩:=HR.out
    obtain ⟨g,hg,_,_,hl⟩:=own_some ho (by omega)
    exact ⟨g,hg,hl⟩
   obtain ⟨g,rfl,hgl⟩:=hg
   have fz:wr.frozen? ⟨g,j,none⟩=false:=by obtain ⟨⟨ys,he,ho,_⟩,_⟩:=HR.out;rw [<- he] at ho;exact ho.frozen j
   have cz:∃ z:Int,wr.cell? ⟨g,j,none⟩=some (.int .i64 z):=by obtain ⟨⟨ys,he,ho,_⟩,_⟩:=HR.out;rw [<- he] at ho hlt;exact ⟨_,ho.cell hlt⟩
   obtain ⟨z,cz⟩:=cz
   go_wp2
   go_roundw
   case rel=>
    refine ⟨j+1,by omega,by go_num,by go_num,?_⟩
    obtain ⟨⟨ys,he,ho,hy⟩,hgr⟩:=HR.out
    obtain ⟨ho',hg'⟩:=ho.set he.symm j (k+j)
    refine ⟨⟨ys.set j (k+j),by simpa using he,ho',fun t ht=>?_⟩,hgr.trans hg'⟩
    by_cases htj:t=j
    ·subst htj;exact getD_set_self ys t _ (by omega)
    ·rw [getD_set_ne ys t j _ htj];exact hy t (by omega)
   case measure=>simp [intOf];omega
  ·have hlt':¬ (j:Int)<(xs.length:Int):=by omega
   have HF:Hid (OwnI wr B (.slice a0 xs.length cap) (marks k xs.length)/\w.grownBy wr (Value.slice a0 xs.length cap).ownBlock):=by
    obtain ⟨⟨ys,he,ho,hy⟩,hgr⟩:=HR.out
    have:ys=marks k xs.length:=ext_getD (by rw [he,marks_length]) fun i hi=>by rw [hy i (by omega),marks_at _ _ _ (by omega)]
    rw [this] at ho
    exact ⟨ho,hgr⟩
   have hjl:(j:Int)=xs.length:=by omega
   have HJ:Hid ((j:Int)=xs.length):=hjl
   clear HR hjl
   go_wp2
   go_ret
   exact ⟨ret_int (by rw [HJ.out]),HF.out⟩
theorem heldIntS_marks (a0:Option Addr) (cap n:Nat) (k:Int) (w:World) (hlen:n<=1048576) (k0:0<=k) (k1:k<=100000000) (h:Sl w a0 (marks k n)):
  Calls Tryz.prog 65 #[.slice a0 n cap,.int .i64 k] w fun e w'=>e=.returned (.int .i64 (k+n))/\w'=w:=by
 have hl':(n:Int)<=1048576:=by omega
 have HS:Hid (Sl w a0 (marks k n)):=h
 clear h
 go_enter Tryz.func65,Tryz.ntmps65
 go_wp2_with fail
 go_loop [1,5] (fun q i=>∃ j:Nat,j<=n/\i=.int .i64 j/\q=.int .i64 (k+j)) (fun _ i=>n - (intOf i).toNat)
 case atStart=>exact ⟨0,Nat.zero_le _,rfl,by simp⟩
 case round=>
  obtain ⟨j,hj,rfl,rfl⟩:=hrel
  by_cases hlt:j<n
  ·have hlt':(j:Int)<(n:Int):=by omega
   obtain ⟨b,off,rfl,hbl,ck⟩:=HS.out.at (k:=j) (by rw [marks_length];exact hlt)
   rw [marks_at _ _ _ hlt] at ck
   go_wp2
   go_round
   case rel=>exact ⟨j+1,by omega,by go_num,by go_num⟩
   case measure=>simp [intOf];omega
  ·have hlt':¬ (j:Int)<(n:Int):=by omega
   have HJ:Hid ((j:Int)=n):=by show (j:Int)=n;omega
   go_wp2
   go_ret
   exact ⟨ret_int (by rw [HJ.out]),rfl⟩
theorem own_apart {w w':World} {B:Nat} {v u:Value} {xs:List Int} (h:OwnI w B v xs) (hg:w.grownBy w' u.ownBlock) (ha:∀ k,u.ownBlock=some k->v.ownBlock≠some k):OwnI w' B v xs:=by
 refine h.kept hg ?_
 cases hu:u.ownBlock with
 | none=>
  cases hv:v.ownBlock with
  | none=>exact .inl rfl
  | some k=>exact .inr (by simp)
 | some k=>exact .inr (ha k hu)
theorem gcell {W w1:World} {row:Option Nat} (hg:W.grownBy w1 row) {b:Nat} (hb:b<W.heap.size) (hne:some b≠row):(∀ o,w1.cell? ⟨b,o,none⟩=W.cell? ⟨b,o,none⟩)/\(∀ o,w1.frozen? ⟨b,o,none⟩=W.frozen? ⟨b,o,none⟩):=
 ⟨fun _=>zH (hg.block b hb hne),fun _=>zI (hg.block b hb hne)⟩
def hasBlock (v:Value) (k:Nat):Prop:=∃ p vr vo code,v=.agg #[p,vr,vo,code]/\(vr.ownBlock=some k\/vo.ownBlock=some k)
theorem hasBlock_iff (p vr vo code:Value) (k:Nat):hasBlock (.agg #[p,vr,vo,code]) k ↔ vr.ownBlock=some k\/vo.ownBlock=some k:=by
 constructor
 ·rintro ⟨p',vr',vo',code',e,h⟩
  simp only [Value.agg.injEq,Array.mk.injEq,List.cons.injEq,and_true] at e
  obtain ⟨_,rfl,rfl,_⟩:=e
  exact h
 ·exact fun h=>⟨p,vr,vo,code,rfl,h⟩
theorem StOwn.lt {w:World} {B:Nat} {v:Value} {p code:Int} {rs os:List Int} (h:StOwn w B v p rs os code) {k:Nat} (hk:hasBlock v k):B<=k/\k<w.heap.size:=by
 obtain ⟨vr,vo,rfl,h1,h2,_⟩:=h
 rcases (hasBlock_iff _ _ _ _ _).1 hk with h | h
 ·exact h1.lt k h
 ·exact h2.lt k h
structure Marked (v:Value) (w w':World):Prop where
 os:w'.os=w.os
 tape:w'.tape=w.tape
 output:w'.output=w.output
 size:w.heap.size<=w'.heap.size
 block:∀ k,k<w.heap.size->¬ hasBlock v k->w'.heap[k]? = w.heap[k]?
theorem Marked.below {v:Value} {w w':World} {B:Nat} (h:Marked v w w') (hB:B<=w.heap.size) (hv:∀ k,hasBlock v k->B<=k):Below B w w':=
 ⟨h.os,h.tape,h.output,h.size,fun k hk=>h.block k (by omega) (fun hh=>by have:=hv k hh;omega)⟩
theorem Marked.own {v:Value} {w w':World} {B:Nat} {u:Value} {xs:List Int} (h:Marked v w w') (hu:OwnI w B u xs) (ha:∀ k,u.ownBlock=some k->¬ hasBlock v k):OwnI w' B u xs:=by
 rcases hu.2 with ⟨rfl,h0⟩ | ⟨g,cap,cur,rfl,hb,hg,hr⟩
 ·exact ⟨hu.1,.inl ⟨rfl,h0⟩⟩
 ·refine ⟨hu.1,.inr ⟨g,cap,cur,rfl,hb,?_,hr⟩⟩
  rw [h.block g (hu.lt g rfl).2 (ha g rfl)]
  exact hg
theorem Marked.st {v:Value} {w w':World} {B:Nat} {u:Value} {p code:Int} {rs os:List Int} (h:Marked v w w') (hu:StOwn w B u p rs os code) (ha:∀ k,hasBlock u k->¬ hasBlock v k):StOwn w' B u p rs os code:=by
 obtain ⟨vr,vo,rfl,h1,h2,h3⟩:=hu
 exact ⟨vr,vo,rfl,h.own h1 fun k hk=>ha k ((hasBlock_iff _ _ _ _ _).2 (.inl hk)),h.own h2 fun k hk=>ha k ((hasBlock_iff _ _ _ _ _).2 (.inr hk)),h3⟩
theorem Marked.cell {v:Value} {w w':World} (h:Marked v w w') {b:Nat} (hb:b<w.heap.size) (hv:¬ hasBlock v b) (j:Nat):w'.cell? ⟨b,j,none⟩=w.cell? ⟨b,j,none⟩:=zH (h.block b hb hv)
theorem Marked.frozen {v:Value} {w w':World} (h:Marked v w w') {b:Nat} (hb:b<w.heap.size) (hv:¬ hasBlock v b) (j:Nat):w'.frozen? ⟨b,j,none⟩=w.frozen? ⟨b,j,none⟩:=zI (h.block b hb hv)
theorem eqEvent_same (k p v:Int) (w:World):
  Calls Tryz.prog 99 #[evV k p v,evV k p v] w fun e w'=>e=.returned (.bool true)/\Below w.heap.size w w':=by
 go_enter Tryz.func99,Tryz.ntmps99
 go_wp2
 go_ret
 exact ⟨rfl,by go_grown⟩
def BoxC (w:World) (N:Nat) (p vr vo code:Value):Prop:=w.cell? ⟨N,0,none⟩=some p/\w.cell? ⟨N,1,none⟩=some vr/\w.cell? ⟨N,2,none⟩=some vo/\w.cell? ⟨N,3,none⟩=some code
theorem BoxC.below {w w':World} {N:Nat} {p vr vo code:Value} (h:BoxC w N p vr vo code) (hb:Below w.heap.size w w'):BoxC w' N p vr vo code:=by
 obtain ⟨h0,h1,h2,h3⟩:=h
 have hN:N<w.heap.size:=zJ w _ h0
 exact ⟨(hb.cell (p:=⟨N,0,none⟩) hN).trans h0,(hb.cell (p:=⟨N,1,none⟩) hN).trans h1,(hb.cell (p:=⟨N,2,none⟩) hN).trans h2,(hb.cell (p:=⟨N,3,none⟩) hN).trans h3⟩
theorem BoxC.new (w:World) (p vr vo code:Value) (t:TypeId):BoxC (w.alloc (.cells #[p,vr,vo,code] t)) w.heap.size p vr vo code:=by
 unfold BoxC
 simp
theorem BoxC.marked {v:Value} {w w':World} {N:Nat} {p vr vo code:Value} (h:BoxC w N p vr vo code) (hm:Marked v w w') (hv:¬ hasBlock v N):BoxC w' N p vr vo code:=by
 obtain ⟨h0,h1,h2,h3⟩:=h
 have hN:N<w.heap.size:=zJ w _ h0
 exact ⟨(hm.cell hN hv _).trans h0,(hm.cell hN hv _).trans h1,(hm.cell hN hv _).trans h2,(hm.cell hN hv _).trans h3⟩
open Go
section
variable {P:Program} {ops:Array Oper} {Q:Exit->Act->World->Prop} {md:Region.Mode} {S:World->Prop} {G:Nat->Bool}
def wpG (P:Program) (md:Region.Mode) (ops:Array Oper) (Q:Exit->Act->World->Prop) (S:World->Prop) (G:Nat->Bool):Nat->Array Bool->Act->World->Prop
 | 0,listed,a,w=>Region.ready md ops listed=[]/\Q .normal a w
 | fuel+1,listed,a,w=>(Region.ready md ops listed=[]->Q .normal a w)/\∀ i ∈ Region.ready md ops listed,wpOp P ops Q i (fun a' w'=>(S w->G i=false->S w')/\wpG P md ops Q S G fuel (listed.setIfInBounds i true) a' w') a w
theorem wpAny_of_G:∀ (fuel:Nat) (listed:Array Bool) (a:Act) (w:World),wpG P md ops Q S G fuel listed a w->wpAny P md ops Q fuel listed a w
 | 0,_,_,_,h=>h
 | fuel+1,_,_,_,h=>⟨h.1,fun i hi=>wpOp_mono (fun a' w' h'=>wpAny_of_G fuel _ a' w' h'.2) (h.2 i hi)⟩
def waitG (md:Region.Mode) (ops:Array Oper) (G:Nat->Bool) (listed:Array Bool) (i:Nat):Bool:=
 (List.range ops.size).all fun j=>!G j || listed.getD j true || match ops[j]? with
  | some oj=>oj.after.any fun e=>Region.binds md e && e.on == i
  | none=>true
theorem waitG_spec {listed:Array Bool} {i:Nat} (h:waitG md ops G listed i=true) {j:Nat} {oj:Oper} (hj:ops[j]? = some oj) (hg:G j=true) (hu:listed.getD j true=false):∃ e ∈ oj.after,Region.binds md e=true/\e.on=i:=by
 simp only [waitG,List.all_eq_true,List.mem_range] at h
 have h1:=h j (Array.getElem?_eq_some_iff.1 hj).1
 simp only [hj,hg,hu,Bool.not_true,Bool.false_or] at h1
 obtain ⟨e,he,hb⟩:=Array.any_eq_true'.1 h1
 simp only [Bool.and_eq_true,beq_iff_eq] at hb
 exact ⟨e,he,hb.1,hb.2⟩
theorem wpG_first {i:Nat} {oi:Oper} {v:Value} (hi:ops[i]? = some oi) (hsel:∀ (j:Nat) (o:Oper) cs b,ops[j]? = some o->o.op≠.select cs b)
  (hQ:∀ c a w,Q (.panic c) (a.put oi.dst v) w->Q (.panic c) a w):
  ∀ (fuel:Nat) (listed:Array Bool) (a:Act) (w:World),
   (∀ j oj,ops[j]? = some oj->j≠i->listed.getD j true=false->(∀ e ∈ oj.after,Region.binds md e=true->e.on≠i)->oi.apart ops oj=true)->
   (∀ j oj,ops[j]? = some oj->G j=true->listed.getD j true=false->∃ e ∈ oj.after,Region.binds md e=true/\e.on=i)->
   i ∈ Region.ready md ops listed->YieldsIf P ops S oi v a->S w->
   wpG P md ops Q S G fuel (listed.setIfInBounds i true) (a.put oi.dst v) w->wpG P md ops Q S G (fuel+1) listed a w:=by
 intro fuel
 induction fuel with
 | zero=>
  intro listed a w _ _ hr hy hS H
  refine ⟨fun h=>(by rw [h] at hr;cases hr),fun j hj=>?_⟩
  by_cases hji:j=i
  ·subst hji
   exact hy.wpOp hi hS ⟨fun _ _=>hS,H⟩
  ·have:=ready_mono hj hji
   rw [H.1] at this
   cases this
 | succ fuel ih=>
  intro listed a w hfree hG hr hy hS H
  refine ⟨fun h=>(by rw [h] at hr;cases hr),fun j hj=>?_⟩
  by_cases hji:j=i
  ·subst hji
   exact hy.wpOp hi hS ⟨fun _ _=>hS,H⟩
  ·obtain ⟨hjun,oj,hoj,hall⟩:=mem_ready.1 hj
   have hiun:=(mem_ready.1 hr).1
   have hnot:∀ e ∈ oj.after,Region.binds md e=true->e.on≠i:=fun e he hb heq=>by
    have h1:=hall e he hb
    rw [heq] at h1
    rcases Nat.lt_or_ge i listed.size with h' | h'
    ·simp [h'] at hiun h1
     rw [hiun] at h1
     cases h1
    ·simp [Array.getElem?_eq_none h'] at h1
   have hGj:G j=false:=by
    cases hg:G j with
    | false=>rfl
    | true=>
     obtain ⟨e,he,hb,heq⟩:=hG j oj hoj hg hjun
     exact absurd heq (hnot e he hb)
   have h2:=wpOp_putIf hoj (hfree j oj hoj hji hjun hnot) (fun cs b=>hsel i oi cs b hi) (fun cs b=>hsel j oj cs b hoj) hQ hy (H.2 j (ready_mono hj hji))
   have hun':∀ k,(listed.setIfInBounds j true).getD k true=false->listed.getD k true=false:=fun k hk=>by
    by_cases hjk:j=k
    ·subst hjk
     exact hjun
    ·rw [_root_.Go.getD_set_ne true hjk] at hk
     exact hk
   refine wpOp_mono (fun a' w' h3=>⟨h3.2.1,ih (listed.setIfInBounds j true) a' w' (fun k ok hk hki hun hno=>hfree k ok hk hki (hun' k hun) hno) (fun k ok hk hg hun=>hG k ok hk hg (hun' k hun)) (ready_mono hr (Ne.symm hji)) h3.1 (h3.2.1 hS hGj) ?_⟩) h2
   rw [Array.setIfInBounds_comm _ _ hji]
   exact h3.2.2
theorem wpG_firstW {i:Nat} {oi:Oper} {v:Value} (hi:ops[i]? = some oi) (hsel:∀ (j:Nat) (o:Oper) cs b,ops[j]? = some o->o.op≠.select cs b)
  (hQ:∀ c a w,Q (.panic c) (a.put oi.dst v) w->Q (.panic c) a w):
  ∀ (fuel:Nat) (listed:Array Bool) (a:Act) (w:World),
   (∀ j oj,ops[j]? = some oj->j≠i->listed.getD j true=false->(∀ e ∈ oj.after,Region.binds md e=true->e.on≠i)->oi.apart ops oj=true)->
   i ∈ Region.ready md ops listed->YieldsIf P ops (fun _=>True) oi v a->
   wpG P md ops Q S G fuel (listed.setIfInBounds i true) (a.put oi.dst v) w->wpG P md ops Q S G (fuel+1) listed a w:=by
 intro fuel
 induction fuel with
 | zero=>
  intro listed a w _ hr hy H
  refine ⟨fun h=>(by rw [h] at hr;cases hr),fun j hj=>?_⟩
  by_cases hji:j=i
  ·subst hji
   exact hy.wpOp hi trivial ⟨fun h _=>h,H⟩
  ·have:=ready_mono hj hji
   rw [H.1] at this
   cases this
 | succ fuel ih=>
  intro listed a w hfree hr hy H
  refine ⟨fun h=>(by rw [h] at hr;cases hr),fun j hj=>?_⟩
  by_cases hji:j=i
  ·subst hji
   exact hy.wpOp hi trivial ⟨fun h _=>h,H⟩
  ·obtain ⟨hjun,oj,hoj,hall⟩:=mem_ready.1 hj
   have hiun:=(mem_ready.1 hr).1
   have hnot:∀ e ∈ oj.after,Region.binds md e=true->e.on≠i:=fun e he hb heq=>by
    have h1:=hall e he hb
    rw [heq] at h1
    rcases Nat.lt_or_ge i listed.size with h' | h'
    ·simp [h'] at hiun h1
     rw [hiun] at h1
     cases h1
    ·simp [Array.getElem?_eq_none h'] at h1
   have h2:=wpOp_putIf hoj (hfree j oj hoj hji hjun hnot) (fun cs b=>hsel i oi cs b hi) (fun cs b=>hsel j oj cs b hoj) hQ hy (H.2 j (ready_mono hj hji))
   have hun':∀ k,(listed.setIfInBounds j true).getD k true=false->listed.getD k true=false:=fun k hk=>by
    by_cases hjk:j=k
    ·subst hjk
     exact hjun
    ·rw [_root_.Go.getD_set_ne true hjk] at hk
     exact hk
   refine wpOp_mono (fun a' w' h3=>⟨h3.2.1,ih (listed.setIfInBounds j true) a' w' (fun k ok hk hki hun hno=>hfree k ok hk hki (hun' k hun) hno) (ready_mono hr (Ne.symm hji)) h3.1 ?_⟩) h2
   rw [Array.setIfInBounds_comm _ _ hji]
   exact h3.2.2
theorem wpG_takeW (i:Nat) {oi:Oper} {fuel:Nat} {listed:Array Bool} {a:Act} {w:World} (hi0:ops.toList[i]? = some oi) (hs:Region.noSelect ops=true) (hf:Region.free md ops listed i=true) (hr:(Region.ready md ops listed).contains i=true)
  (hQ:∀ v c a w,Q (.panic c) (a.put oi.dst v) w->Q (.panic c) a w) (hw:Region.wanted oi (yielded ops a.tmps)=true)
  (h:∃ v,(∀ w,(execOp a.eval oi).run P w=.ok (.value v) w)/\wpG P md ops Q S G fuel (listed.setIfInBounds i true) (a.put oi.dst v) w):wpG P md ops Q S G (fuel+1) listed a w:=by
 obtain ⟨v,hv,h⟩:=h
 have hi:ops[i]? = some oi:=by rw [<- Array.getElem?_toList];exact hi0
 exact wpG_firstW hi (Region.noSelect_spec hs) (hQ v) fuel listed a w (Region.free_spec hi hf) (by simpa using hr) (.inl ⟨hw,fun w _=>hv w⟩) h
theorem wpG_take (i:Nat) {oi:Oper} {fuel:Nat} {listed:Array Bool} {a:Act} {w:World} (hi0:ops.toList[i]? = some oi) (hS:S w)
  (h:∃ v,(∀ w,S w->(execOp a.eval oi).run P w=.ok (.value v) w)/\wpG P md ops Q S G fuel (listed.setIfInBounds i true) (a.put oi.dst v) w) (hs:Region.noSelect ops=true:=by kernel_rfl) (hf:Region.free md ops listed i=true:=by kernel_rfl) (hr:(Region.ready md ops listed).contains i=true:=by kernel_rfl) (hg:waitG md ops G listed i=true:=by kernel_rfl)
  (hQ:∀ v c a w,Q (.panic c) (a.put oi.dst v) w->Q (.panic c) a w:=by exact fun _ _ _ _ h=>h) (hw:Region.wanted oi (yielded ops a.tmps)=true:=by rfl):wpG P md ops Q S G (fuel+1) listed a w:=by
 obtain ⟨v,hv,h⟩:=h
 have hi:ops[i]? = some oi:=by rw [<- Array.getElem?_toList];exact hi0
 exact wpG_first hi (Region.noSelect_spec hs) (hQ v) fuel listed a w (Region.free_spec hi hf) (fun j oj hj hgj hu=>waitG_spec hg hj hgj hu) (by simpa using hr) (.inl ⟨hw,hv⟩) hS h
theorem wpG_k (i:Nat) {oi:Oper} {fuel:Nat} {listed listed':Array Bool} {a a':Act} {w:World} {v:Value} (hi0:ops.toList[i]? = some oi) (hS:S w)
  (h:wpG P md ops Q S G fuel listed' a' w) (hv:∀ w,S w->(execOp a.eval oi).run P w=.ok (.value v) w:=by (intro wq hSw;(try dsimp only at hSw);(try dsimp only [SysIn.bX] at hSw);(try dsimp only [BoxC] at hSw);(try simp only [BoxS] at hSw);(try simp only [BoxF_iff] at hSw);go_simp;try with_reducible rfl)) (ha:a.put oi.dst v=a':=by ((try simp only [Act.put,zD,zE,zF]);try with_reducible rfl)) (hl:listed.setIfInBounds i true=listed':=by with_reducible rfl) (hs:Region.noSelect ops=true:=by kernel_rfl) (hf:Region.free md ops listed i=true:=by kernel_rfl) (hr:(Region.ready md ops listed).contains i=true:=by kernel_rfl) (hg:waitG md ops G listed i=true:=by kernel_rfl)
  (hQ:∀ v c a w,Q (.panic c) (a.put oi.dst v) w->Q (.panic c) a w:=by exact fun _ _ _ _ h=>h) (hw:Region.wanted oi (yielded ops a.tmps)=true:=by rfl):wpG P md ops Q S G (fuel+1) listed a w:=by
 subst ha hl
 exact wpG_take i hi0 hS ⟨v,hv,h⟩ hs hf hr hg hQ hw
def wpGT (P:Program) (md:Region.Mode) (ops:Array Oper) (Q:Exit->Act->World->Prop) (S:World->Prop) (G:Nat->Bool) (_:List Nat) (fuel:Nat) (listed:Array Bool) (a:Act) (w:World):Prop:=wpG P md ops Q S G fuel listed a w
theorem wpGT_of (is:List Nat) {fuel:Nat} {listed:Array Bool} {a:Act} {w:World} (h:wpGT P md ops Q S G is fuel listed a w):wpG P md ops Q S G fuel listed a w:=h
theorem wpGT_nil {fuel:Nat} {listed:Array Bool} {a:Act} {w:World} (h:wpG P md ops Q S G fuel listed a w):wpGT P md ops Q S G [] fuel listed a w:=h
theorem wpGT_take {i:Nat} {is:List Nat} {oi:Oper} {fuel:Nat} {listed:Array Bool} {a:Act} {w:World} (hi0:ops.toList[i]? = some oi) (hS:S w)
  (h:∃ v,(∀ w,S w->(execOp a.eval oi).run P w=.ok (.value v) w)/\wpGT P md ops Q S G is fuel (listed.setIfInBounds i true) (a.put oi.dst v) w) (hs:Region.noSelect ops=true:=by kernel_rfl) (hf:Region.free md ops listed i=true:=by kernel_rfl) (hr:(Region.ready md ops listed).contains i=true:=by kernel_rfl) (hg:waitG md ops G listed i=true:=by kernel_rfl)
  (hQ:∀ v c a w,Q (.panic c) (a.put oi.dst v) w->Q (.panic c) a w:=by exact fun _ _ _ _ h=>h) (hw:Region.wanted oi (yielded ops a.tmps)=true:=by rfl):wpGT P md ops Q S G (i :: is) (fuel+1) listed a w:=wpG_take i hi0 hS h hs hf hr hg hQ hw
theorem wpGT_k {i:Nat} {is:List Nat} {oi:Oper} {fuel:Nat} {listed listed':Array Bool} {a a':Act} {w:World} {v:Value} (hi0:ops.toList[i]? = some oi) (hS:S w)
  (h:wpGT P md ops Q S G is fuel listed' a' w) (hv:∀ w,S w->(execOp a.eval oi).run P w=.ok (.value v) w:=by (intro wq hSw;(try dsimp only at hSw);(try dsimp only [SysIn.bX] at hSw);(try dsimp only [BoxC] at hSw);(try simp only [BoxS] at hSw);(try simp only [BoxF_iff] at hSw);go_simp;try with_reducible rfl)) (ha:a.put oi.dst v=a':=by ((try simp only [Act.put,zD,zE,zF]);try with_reducible rfl)) (hl:listed.setIfInBounds i true=listed':=by with_reducible rfl) (hs:Region.noSelect ops=true:=by kernel_rfl) (hf:Region.free md ops listed i=true:=by kernel_rfl) (hr:(Region.ready md ops listed).contains i=true:=by kernel_rfl) (hg:waitG md ops G listed i=true:=by kernel_rfl)
  (hQ:∀ v c a w,Q (.panic c) (a.put oi.dst v) w->Q (.panic c) a w:=by exact fun _ _ _ _ h=>h) (hw:Region.wanted oi (yielded ops a.tmps)=true:=by rfl):wpGT P md ops Q S G (i :: is) (fuel+1) listed a w:=wpG_k i hi0 hS h hv ha hl hs hf hr hg hQ hw
theorem wpG_one (i:Nat) {oi:Oper} {fuel:Nat} {listed:Array Bool} {a:Act} {w:World} (hi0:ops.toList[i]? = some oi) (hr:Region.ready md ops listed=[i])
  (h:∀ K':Act->World->Prop,Shut (∀ a w,(G i=false->S w)->wpG P md ops Q S G fuel (listed.setIfInBounds i true) a w->K' a w)->if Region.wanted oi (yielded ops a.tmps)=true then Oper.wp P oi a w K' Q else K' (a.put oi.dst undef) w):wpG P md ops Q S G (fuel+1) listed a w:=
 ⟨fun h0 => (by rw [hr] at h0; cases h0), fun j hj => by
  rw [hr] at hj
  obtain rfl:=List.mem_singleton.1 hj
  have hi:ops[j]? = some oi:=by rw [<- Array.getElem?_toList];exact hi0
  exact wpOp_step hi fun K' hK=>h K' fun a w h1 h2=>hK a w ⟨fun _=>h1,h2⟩⟩
theorem wpG_done {listed:Array Bool} {a:Act} {w:World} (hr:Region.ready md ops listed=[]) (h:Q .normal a w):∀ fuel,wpG P md ops Q S G fuel listed a w
 | 0=>⟨hr,h⟩
 | _+1=>⟨fun _=>h,by rw [hr];simp⟩
theorem wp_region_G {id:Nat} {a:Act} {w:World} (S:World->Prop) (G:Nat->Bool) (hm:P.follows .mixedOrders=true) (h:wpG P .any ops Q S G ops.size (Array.replicate ops.size false) a w.drew):(Code.region id ops true).wp P Q a w:=
 wp_region_any hm (wpAny_of_G _ _ _ _ h)
end
theorem stepR_callD {ops:Array Oper} {o:Oper} {a:Act} {w:World} {K:Act->World->Prop} {Q:Exit->Act->World->Prop} {E:Prop} (hw:Region.wanted o (yielded ops a.tmps)=true) (f:FuncId) (args:Array Operand) (ts:Array TypeId)
  (ho:o.op=.call { callee:=.value (.func f),args:=args,argTypes:=ts }) (vals:Array Value) (hv:args.map a.eval=vals) (hen:∀ vs wx,(callFunc f vs).run Tryz.prog wx=.ok (.enter f vs) wx) {post:Ending->World->Prop} (hc:Calls Tryz.prog f vals w post)
  (h:∀ e w',post e w'->∃ v,e=.returned v/\K (a.put o.dst v) w'):
  if Region.wanted o (yielded ops a.tmps)=true then Oper.wp Tryz.prog o a w K Q else E:=by
 rw [if_pos hw]
 have hr:(execOp a.eval o).run Tryz.prog w=.ok (.enter f vals) w:=by
  unfold execOp
  simp [ho,resolve,invoke,hv,hen,Act.eval,Deferred.ofValue]
 unfold Oper.wp
 rw [hr,Oper.upon_enter]
 refine hc.mono fun e w' hp=>?_
 obtain ⟨v,rfl,hk⟩:=h e w' hp
 exact hk
