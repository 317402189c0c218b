import Derived.Test.YtkdablcbhhphoaaGreatDoorBk1
import Derived.Maps.AppendAt
import Derived.Maps.Range
import Derived.Deep.Onto
import Derived.Deep.Slices
import Derived.Deep.RegionWith
import Derived.Deep.QuietTactic
import Derived.BigQuiet
import Derived.Laws.IdiomCopy
import Derived.Lib.QuietBelow
import Derived.ChangeKeysEq
import Derived.OrdersHeld
import Derived.Deep.RegionHeld3
namespace Go.Proofs.YtkdablcbhhphoaaGreatDoor
set_option maxRecDepth 100000
set_option maxHeartbeats 1000000
open Go.RowKit
theorem qaf {x y:Bool} (h:x=y):Ending.returned (.bool x)=.returned (.bool y):=by rw [h]
theorem qjs (op r a b n places procs:Int) (w:World) (h1:inB r 0 3=true) (h2:inB a 0 3=true) (h3:inB b 0 3=true) (h4:inB procs 1 4=true) (h5:1<=procs) (h6:procs<=4) (h:op<1\/11<op):
  Calls Tryz.prog 173 #[insV op r a b n,.int .i64 places,.int .i64 procs] w fun e w'=>e=.returned (.bool false)/\Below w.heap.size w w':=by
 have g1:(op == 1)=false:=by simp;omega
 have g2:(op == 2)=false:=by simp;omega
 have g3:(op == 3)=false:=by simp;omega
 have g4:(op == 4)=false:=by simp;omega
 have g5:(op == 5)=false:=by simp;omega
 have g6:(op == 6)=false:=by simp;omega
 have g7:(op == 7)=false:=by simp;omega
 have g8:(op == 8)=false:=by simp;omega
 have g9:(op == 9)=false:=by simp;omega
 have g10:(op == 10)=false:=by simp;omega
 have g11:(op == 11)=false:=by simp;omega
 clear h
 go_enter Tryz.func173,Tryz.ntmps173
 go_wp2_with (first|(go_at_call 20;refine (l1In_any _ _ _ _).mono ?_;rintro e w' ⟨rfl,rfl⟩)|(go_at_call 158;refine (l1Num_any _ _).mono ?_;rintro e w' ⟨rfl,rfl⟩))
 all_goals
  go_ret;exact ⟨rfl,by go_grown⟩
theorem qlv (op r a b n places procs:Int) (w:World) (h:(inB r 0 3 && inB a 0 3 && inB b 0 3 && inB procs 1 4)=false):
  Calls Tryz.prog 173 #[insV op r a b n,.int .i64 places,.int .i64 procs] w fun e w'=>e=.returned (.bool false)/\Below w.heap.size w w':=by
 rcases zK (inB r 0 3) with h1 | h1
 ·rcases zK (inB a 0 3) with h2 | h2
  ·rcases zK (inB b 0 3) with h3 | h3
   ·have h4:inB procs 1 4=false:=by simpa [h1,h2,h3] using h
    clear h
    go_enter Tryz.func173,Tryz.ntmps173
    go_wp2_with (first|(go_at_call 20;refine (l1In_any _ _ _ _).mono ?_;rintro e w' ⟨rfl,rfl⟩)|(go_at_call 158;refine (l1Num_any _ _).mono ?_;rintro e w' ⟨rfl,rfl⟩))
    go_ret;exact ⟨rfl,by go_grown⟩
   ·clear h
    go_enter Tryz.func173,Tryz.ntmps173
    go_wp2_with (first|(go_at_call 20;refine (l1In_any _ _ _ _).mono ?_;rintro e w' ⟨rfl,rfl⟩)|(go_at_call 158;refine (l1Num_any _ _).mono ?_;rintro e w' ⟨rfl,rfl⟩))
    go_ret;exact ⟨rfl,by go_grown⟩
  ·clear h
   go_enter Tryz.func173,Tryz.ntmps173
   go_wp2_with (first|(go_at_call 20;refine (l1In_any _ _ _ _).mono ?_;rintro e w' ⟨rfl,rfl⟩)|(go_at_call 158;refine (l1Num_any _ _).mono ?_;rintro e w' ⟨rfl,rfl⟩))
   go_ret;exact ⟨rfl,by go_grown⟩
 ·clear h
  go_enter Tryz.func173,Tryz.ntmps173
  go_wp2_with (first|(go_at_call 20;refine (l1In_any _ _ _ _).mono ?_;rintro e w' ⟨rfl,rfl⟩)|(go_at_call 158;refine (l1Num_any _ _).mono ?_;rintro e w' ⟨rfl,rfl⟩))
  go_ret;exact ⟨rfl,by go_grown⟩
def zi (xs:List Int) (i:Nat):Int:=xs.getD i 0
def Sl (w:World) (a0:Option Addr) (xs:List Int):Prop:=
 xs=[]\/∃ b off,a0=some ⟨b,off,none⟩/\b<w.heap.size/\∀ i,i<xs.length->w.cell? ⟨b,off+i,none⟩=some (.int .i64 (zi xs i))
theorem Sl.below {w w':World} {a0:Option Addr} {xs:List Int} (h:Sl w a0 xs) (hb:Below w.heap.size w w'):Sl w' a0 xs:=by
 rcases h with h | ⟨b,off,e,hlt,hc⟩
 ·exact .inl h
 ·exact .inr ⟨b,off,e,zL hlt hb.size,fun i hi=>(hb.cell (p:=⟨b,off+i,none⟩) hlt).trans (hc i hi)⟩
theorem Sl.at {w:World} {a0:Option Addr} {xs:List Int} (h:Sl w a0 xs) {k:Nat} (hk:k<xs.length):∃ b off,a0=some ⟨b,off,none⟩/\b<w.heap.size/\w.cell? ⟨b,off+k,none⟩=some (.int .i64 (zi xs k)):=by
 rcases h with rfl | ⟨b,off,e,hlt,hc⟩
 ·simp at hk
 ·exact ⟨b,off,e,hlt,hc k hk⟩
def OwnI (w:World) (B:Nat) (v:Value) (xs:List Int):Prop:=w.ownsRow B 3 1 v xs.length (xs.map (Value.int .i64))
theorem OwnI.mono {w:World} {B B':Nat} {v:Value} {xs:List Int} (h:OwnI w B v xs) (hb:B'<=B):OwnI w B' v xs:=World.ownsRow.mono h hb
theorem OwnI.kept {w w':World} {B:Nat} {v:Value} {xs:List Int} {row:Option Nat} (h:OwnI w B v xs) (hg:w.grownBy w' row) (hne:v.ownBlock=none\/v.ownBlock≠row):OwnI w' B v xs:=World.ownsRow.kept h hg hne
theorem OwnI.lt {w:World} {B:Nat} {v:Value} {xs:List Int} (h:OwnI w B v xs):∀ k,v.ownBlock=some k->B<=k/\k<w.heap.size:=World.ownsRow.lt h
theorem zY {w w':World} (h:Below w.heap.size w w'):w.grownBy w' none:=⟨h.os,h.tape,h.output,h.size,fun k hk _=>h.block k hk⟩
theorem OwnI.below {w w':World} {B:Nat} {v:Value} {xs:List Int} (h:OwnI w B v xs) (hb:Below w.heap.size w w'):OwnI w' B v xs:=by
 refine h.kept (zY hb) ?_;cases hv:v.ownBlock with
 | none=>exact .inl rfl
 | some k=>exact .inr (by simp)
theorem yB {B:Nat} {w w':World} (h:Below B w w') (n:Nat):Below B w (w'.drewN n):=⟨h.os,h.tape,h.output,h.size,h.block⟩
theorem qdu (xs:List Int) (j:Nat) (hj:j<xs.length):(xs.map (Value.int .i64))[j]? = some (.int .i64 (zi xs j)):=by
 unfold zi;rw [List.getElem?_map,List.getElem?_eq_getElem hj,List.getD_eq_getElem?_getD,List.getElem?_eq_getElem hj];rfl
theorem OwnI.form {w:World} {B:Nat} {v:Value} {xs:List Int} (h:OwnI w B v xs):∃ a0 cap,v=.slice a0 xs.length cap/\Sl w a0 xs:=by
 rcases h.2 with ⟨rfl,h0⟩ | ⟨g,cap,cur,rfl,hb,_⟩
 ·exact ⟨none,0,by rw [h0],.inl (List.eq_nil_of_length_eq_zero h0)⟩
 ·refine ⟨_,cap,rfl,.inr ⟨g,0,rfl,(h.lt g rfl).2,fun i hi=>?_⟩⟩
  rw [Nat.zero_add,World.ownsRow.cellAt h i (by omega)];exact qdu xs i hi
theorem OwnI.block {w:World} {B:Nat} {v:Value} {xs:List Int} (h:OwnI w B v xs) (hn:0<xs.length):∃ g cap,v=.slice (some ⟨g,0,none⟩) xs.length cap/\B<=g/\g<w.heap.size:=by
 rcases h.2 with ⟨_,h0⟩ | ⟨g,cap,cur,rfl,hb,_⟩
 ·omega
 ·exact ⟨g,cap,rfl,hb,(h.lt g rfl).2⟩
theorem OwnI.cell {w:World} {B g cap:Nat} {xs:List Int} (h:OwnI w B (.slice (some ⟨g,0,none⟩) xs.length cap) xs) {j:Nat} (hj:j<xs.length):w.cell? ⟨g,j,none⟩=some (.int .i64 (zi xs j)):=by
 rw [World.ownsRow.cellAt h j (by omega)];exact qdu xs j hj
theorem OwnI.frozen {w:World} {B g cap:Nat} {xs:List Int} (h:OwnI w B (.slice (some ⟨g,0,none⟩) xs.length cap) xs) (j:Nat):w.frozen? ⟨g,j,none⟩=false:=World.ownsRow.frozenAt h j
theorem OwnI.set {w:World} {B g cap n:Nat} {xs:List Int} (h:OwnI w B (.slice (some ⟨g,0,none⟩) n cap) xs) (hn:n=xs.length) (j:Nat) (x:Int):OwnI (w.setCell ⟨g,j,none⟩ (.int .i64 x)) B (.slice (some ⟨g,0,none⟩) n cap) (xs.set j x)/\w.grownBy (w.setCell ⟨g,j,none⟩ (.int .i64 x)) (some g):=by
 subst hn;have:=World.ownsRow.stored h j (.int .i64 x);unfold OwnI;rw [List.length_set,List.map_set];exact this
theorem qrg {xs ys:List Int} (hl:xs.length=ys.length) (h:∀ i,i<xs.length->zi xs i=zi ys i):xs=ys:=by
 apply List.ext_getElem hl;intro i h1 h2;have:=h i h1;unfold zi at this
 rwa [List.getD_eq_getElem?_getD,List.getD_eq_getElem?_getD,List.getElem?_eq_getElem h1,List.getElem?_eq_getElem h2,Option.getD_some,Option.getD_some] at this
theorem qdk (xs:List Int) (j:Nat) (x:Int) (hj:j<xs.length):zi (xs.set j x) j=x:=by
 unfold zi;rw [List.getD_eq_getElem?_getD,List.getElem?_set,if_pos rfl,if_pos hj];rfl
theorem qez (xs:List Int) (i j:Nat) (x:Int) (h:i≠j):zi (xs.set j x) i=zi xs i:=by
 unfold zi;rw [List.getD_eq_getElem?_getD,List.getElem?_set,if_neg (fun e=>h e.symm),List.getD_eq_getElem?_getD]
theorem qp4:(Tryz.prog.info? 3).map (fun i=>(i.zero,i.size,i.bytes))=some (some (.int .i64 0),1,8):=by kernel_rfl
theorem qb9 (n:Nat) (hn:n<=1048576) (w:World):
  (Instr.makeSlice 28 (.int .i64 (n:Int)) (.int .i64 (n:Int))).run Tryz.prog w=.ok (.slice (some ⟨w.heap.size,0,none⟩) n n) (w.alloc (.cells (madeCells #[.int .i64 0] n) 3)):=by
 have hinfo:=qp4;cases hi:Tryz.prog.info? 3 with
 | none=>rw [hi] at hinfo;cases hinfo
 | some i=>
  rw [hi] at hinfo;simp only [Option.map_some,Option.some.injEq,Prod.mk.injEq] at hinfo;obtain ⟨hz,hs,hb⟩:=hinfo;have h:=run_make (P:=Tryz.prog) w 28 3 i _ Tryz.underlying28 hi hz .i64 .i64 (n:Int) (n:Int) (by omega) (Int.le_refl _) (by rw [hb];omega) (by omega);rw [hs] at h;simpa [Value.cells] using h
theorem qle (w:World) (n:Nat) (hn:n<=1048576):OwnI (w.alloc (.cells (madeCells #[.int .i64 0] n) 3)) w.heap.size (.slice (some ⟨w.heap.size,0,none⟩) n n) (List.replicate n 0):=by
 have:=World.ownsRow_lit (base:=w.heap.size) (e:=3) (size:=1) w (madeCells #[.int .i64 0] n) n (Nat.le_refl _) (by unfold maxLen;omega) (by simp [size_madeCells]);rw [toList_madeCells_one] at this;unfold OwnI;rw [List.length_replicate,List.map_replicate];exact this
theorem qd7 (a0:Option Addr) (len cap:Nat) (x:Int) (w:World) (h:(len:Int)<=x) (hx:x<=1048576):
  Calls Tryz.prog 52 #[.slice a0 len cap,.int .i64 x] w fun e w'=>e=.returned (.int .i64 (x - (len:Int)))/\w'=w:=by
 go_enter Tryz.func52,Tryz.ntmps52
 go_wp2;go_ret;exact ⟨rfl,rfl⟩
theorem qhd (a0:Option Addr) (len cap:Nat) (x:Int) (w:World) (h:x<(len:Int)) (hx:0<=x) (hm:len<=maxLen):
  Calls Tryz.prog 52 #[.slice a0 len cap,.int .i64 x] w fun e w'=>e=.returned (.int .i64 (-1))/\w'=w:=by
 unfold maxLen at hm;have h2:(len:Int)<=9223372036854775807:=by omega
 go_enter Tryz.func52,Tryz.ntmps52
 go_wp2;go_ret;exact ⟨rfl,rfl⟩
abbrev stV (p:Int) (ra:Option Addr) (rn rc:Nat) (oa:Option Addr) (on oc:Nat) (code:Int):Value:=.agg #[.int .i64 p,.slice ra rn rc,.slice oa on oc,.int .i64 code]
theorem qj5 (a0:Option Addr) (cap:Nat) (xs:List Int) (w:World) (hlen:xs.length<=1048576) (hc:Sl w a0 xs):
  Calls Tryz.prog 61 #[.slice a0 xs.length cap] w fun e w'=>e=.returned (.slice (some ⟨w.heap.size,0,none⟩) xs.length xs.length)/\OwnI w' w.heap.size (.slice (some ⟨w.heap.size,0,none⟩) xs.length xs.length) xs/\w.heap.size<w'.heap.size/\Below w.heap.size w w':=by
 have hl':(xs.length:Int)<=1048576:=by omega
 have hmk:=qb9 xs.length hlen;have HM:=qle w xs.length hlen;have HC:Hid (Sl w a0 xs):=hc;clear hc
 go_enter Tryz.func61,Tryz.ntmps61
 go_wp2_with fail
 clear hmk
 go_loopw [4] (fun i wr=>∃ k:Nat,k<=xs.length/\i=.int .i64 k/\Hid (∃ ys,ys.length=xs.length/\OwnI wr w.heap.size (.slice (some ⟨w.heap.size,0,none⟩) xs.length xs.length) ys/\∀ j,j<k->zi ys j=zi xs j)/\Below w.heap.size w wr) (fun i _=>xs.length - (intOf i).toNat)
 case atStart=>exact ⟨0,Nat.zero_le _,rfl,⟨_,by simp,HM,fun j hj=>by omega⟩,(Below.refl _ _).alloc (Nat.le_refl _) _⟩
 case round=>
  clear HM;obtain ⟨k,hk,rfl,HR,hbw⟩:=hrel;have hs:w.heap.size<wr.heap.size:=by obtain ⟨ys,_,ho,_⟩:=HR.out;exact (ho.lt _ rfl).2
  by_cases hlt:k<xs.length
  ·obtain ⟨b,off,rfl,hbl,ck⟩:=(HC.out.below hbw).at hlt
   have fz:wr.frozen? ⟨w.heap.size,k,none⟩=false:=by obtain ⟨ys,he,ho,_⟩:=HR.out;rw [<- he] at ho;exact ho.frozen k
   have cz:∃ z:Int,wr.cell? ⟨w.heap.size,k,none⟩=some (.int .i64 z):=by obtain ⟨ys,he,ho,_⟩:=HR.out;rw [<- he] at ho hlt;exact ⟨_,ho.cell hlt⟩
   obtain ⟨z,cz⟩:=cz;go_wp2;go_roundw
   case rel=>
    refine ⟨k+1,by omega,by go_num,?_,hbw.setCell (Nat.le_refl _) _⟩;obtain ⟨ys,he,ho,hy⟩:=HR.out;refine ⟨ys.set k (zi xs k),by simpa using he,(ho.set he.symm k _).1,fun j hj=>?_⟩;by_cases hjk:j=k
    ·subst hjk;exact qdk ys j _ (by omega)
    ·rw [qez ys j k _ hjk];exact hy j (by omega)
   case measure=>simp [intOf];omega
  ·have HF:Hid (OwnI wr w.heap.size (.slice (some ⟨w.heap.size,0,none⟩) xs.length xs.length) xs):=by
    obtain ⟨ys,he,ho,hy⟩:=HR.out;have:ys=xs:=qrg he fun i hi=>hy i (by omega);rw [this] at ho;exact ho
   clear HR;go_wp2;go_ret;exact ⟨rfl,HF.out,hs,hbw⟩
theorem qey (a0 a1:Option Addr) (c0 c1:Nat) (xs:List Int) (w:World) (hlen:xs.length<=1048576) (h0:Sl w a0 xs) (h1:Sl w a1 xs):
  Calls Tryz.prog 84 #[.slice a0 xs.length c0,.slice a1 xs.length c1] w fun e w'=>e=.returned (.bool true)/\Below w.heap.size w w':=by
 have hl':(xs.length:Int)<=1048576:=by omega
 have H0:Hid (Sl w a0 xs):=h0;have H1:Hid (Sl w a1 xs):=h1;clear h0 h1
 go_enter Tryz.func84,Tryz.ntmps84
 go_wp2_with fail
 go_loopw [5] (fun i wr=>∃ k:Nat,k<=xs.length/\i=.int .i64 k/\Below w.heap.size w wr) (fun i _=>xs.length - (intOf i).toNat)
 case atStart=>exact ⟨0,Nat.zero_le _,rfl,Below.refl _ _⟩
 case round=>
  obtain ⟨k,hk,rfl,hbw⟩:=hrel;by_cases hlt:k<xs.length
  ·obtain ⟨b,off,rfl,hbl,ck⟩:=(H0.out.below hbw).at hlt
   obtain ⟨b',off',rfl,hbl',ck'⟩:=(H1.out.below hbw).at hlt;have hlt':(k:Int)<(xs.length:Int):=by omega
   go_wp2_with fail
   go_quiet (fail)
   go_wp2;go_roundw
   case rel=>exact ⟨k+1,by omega,by go_num,yB hbw _⟩
   case measure=>simp [intOf];omega
  ·go_wp2
   go_ret;exact ⟨rfl,hbw⟩
abbrev evV (k p v:Int):Value:=.agg #[.int .i64 k,.int .i64 p,.int .i64 v]
theorem qap {W w1:World} (hb:Below W.heap.size W w1):(∀ b o,b<W.heap.size->w1.cell? ⟨b,o,none⟩=W.cell? ⟨b,o,none⟩)/\(∀ b o,b<W.heap.size->w1.frozen? ⟨b,o,none⟩=W.frozen? ⟨b,o,none⟩):=
 ⟨fun b o h=>hb.cell (p:=⟨b,o,none⟩) h,fun b o h=>hb.frozen (p:=⟨b,o,none⟩) h⟩
theorem OwnI.setBelow {w:World} {B:Nat} {v:Value} {xs:List Int} (h:OwnI w B v xs) {a:Addr} (ha:a.block<B) (u:Value):OwnI (w.setCell a u) B v xs:=ownsRow_setCell_below h ha u
def qag (w:World) (B:Nat) (v:Value) (p:Int) (rs os:List Int) (code:Int):Prop:=
 ∃ vr vo,v=.agg #[.int .i64 p,vr,vo,.int .i64 code]/\OwnI w B vr rs/\OwnI w B vo os/\∀ k,vr.ownBlock=some k->vo.ownBlock≠some k
theorem qag.below {w w':World} {B:Nat} {v:Value} {p code:Int} {rs os:List Int} (h:qag w B v p rs os code) (hb:Below w.heap.size w w'):qag w' B v p rs os code:=by
 obtain ⟨vr,vo,e,h1,h2,h3⟩:=h;exact ⟨vr,vo,e,h1.below hb,h2.below hb,h3⟩
theorem qag.mono {w:World} {B B':Nat} {v:Value} {p code:Int} {rs os:List Int} (h:qag w B v p rs os code) (hb:B'<=B):qag w B' v p rs os code:=by
 obtain ⟨vr,vo,e,h1,h2,h3⟩:=h;exact ⟨vr,vo,e,h1.mono hb,h2.mono hb,h3⟩
theorem qag.read {w:World} {B:Nat} {v:Value} {p code:Int} {rs os:List Int} (h:qag w B v p rs os code):∃ ra rc oa oc,v=stV p ra rs.length rc oa os.length oc code/\Sl w ra rs/\Sl w oa os:=by
 obtain ⟨vr,vo,rfl,h1,h2,_⟩:=h;obtain ⟨ra,rc,rfl,s1⟩:=h1.form;obtain ⟨oa,oc,rfl,s2⟩:=h2.form;exact ⟨ra,rc,oa,oc,rfl,s1,s2⟩
theorem qai {w w0 w1:World} {B:Nat} (h:Below B w w0) (h1:Below w0.heap.size w0 w1) (hB:B<=w0.heap.size):Below B w w1:=h.trans (h1.mono hB)
theorem qq1 (p code:Int) (ra oa:Option Addr) (rc oc:Nat) (rs os:List Int) (w:World) (hr:rs.length<=1048576) (ho:os.length<=1048576) (h1:Sl w ra rs) (h2:Sl w oa os):
  Calls Tryz.prog 127 #[stV p ra rs.length rc oa os.length oc code] w fun e w'=>∃ v,e=.returned v/\qag w' w.heap.size v p rs os code/\Below w.heap.size w w':=by
 have H1:Hid (Sl w ra rs):=h1;have H2:Hid (Sl w oa os):=h2;clear h1 h2
 go_enter Tryz.func127,Tryz.ntmps127
 go_wp2_with fail
 refine (qj5 ra rc rs _ hr (H1.out.below (by go_grown))).mono ?_;rintro e w1 ⟨rfl,o1,z1,b1⟩;have B1:Hid (Below w.heap.size w w1):=qai (by go_grown) b1 (by simp;omega);obtain ⟨hc1,hf1⟩:=qap b1;simp only [World.size_alloc] at o1 z1;have O1:Hid (OwnI w1 (w.heap.size+1+1+1) (.slice (some ⟨w.heap.size+1+1+1,0,none⟩) rs.length rs.length) rs):=o1;clear o1 b1;have BS:Below w.heap.size w (w1.setCell ⟨w.heap.size+1+1,1,none⟩ (.slice (some ⟨w.heap.size+1+1+1,0,none⟩) rs.length rs.length)):=B1.out.setCell (by simp;omega) _;have HBS:Hid (Below w.heap.size w (w1.setCell ⟨w.heap.size+1+1,1,none⟩ (.slice (some ⟨w.heap.size+1+1+1,0,none⟩) rs.length rs.length))):=BS;have O1':Hid (OwnI (w1.setCell ⟨w.heap.size+1+1,1,none⟩ (.slice (some ⟨w.heap.size+1+1+1,0,none⟩) rs.length rs.length)) (w.heap.size+1+1+1) (.slice (some ⟨w.heap.size+1+1+1,0,none⟩) rs.length rs.length) rs):=ownsRow_setCell_below O1.out (by simp) _;clear BS O1 B1;have y0:w.heap.size<w1.heap.size:=by omega
 have y1:w.heap.size+1<w1.heap.size:=by omega
 have y2:w.heap.size+1+1<w1.heap.size:=by omega
 go_wp2_with fail
 refine (qj5 oa oc os _ ho (H2.out.below HBS.out)).mono ?_;rintro e w2 ⟨rfl,o2,z2,b2⟩;have B2:Hid (Below w.heap.size w w2):=qai HBS.out b2 (by simp;omega);obtain ⟨hc2,hf2⟩:=qap b2;have O1'':Hid (OwnI w2 (w.heap.size+1+1+1) (.slice (some ⟨w.heap.size+1+1+1,0,none⟩) rs.length rs.length) rs):=O1'.out.below b2;simp only [World.size_setCell] at o2 z2;have O2:Hid (OwnI w2 w1.heap.size (.slice (some ⟨w1.heap.size,0,none⟩) os.length os.length) os):=o2;clear o2 b2 O1' HBS;go_wp2;refine bodyPost_ret (v:=stV p (some ⟨w.heap.size+1+1+1,0,none⟩) rs.length rs.length (some ⟨w1.heap.size,0,none⟩) os.length os.length code) (by simp [results,Tryz.results127,go_sem,hc2,hc1,y1]) rfl ⟨_,rfl,⟨_,_,rfl,?_,?_,?_⟩,?_⟩
 ·refine OwnI.mono (B:=w.heap.size+1+1+1) ?_ (by omega)
  repeat (refine OwnI.setBelow ?_ (by simp) _)
  exact O1''.out
 ·refine OwnI.mono (B:=w1.heap.size) ?_ (by omega)
  repeat (refine OwnI.setBelow ?_ (by simpa using by omega) _)
  exact O2.out
 ·intro k hk hk'
  simp [Value.ownBlock] at hk hk';omega
 ·have:=B2.out
  go_grown
theorem qf4 (p code:Int) (ra oa:Option Addr) (rn rc on oc:Nat) (x:Int) (w:World) (h:(rn:Int)+on<=x) (hx:x<=1048576):
  Calls Tryz.prog 117 #[stV p ra rn rc oa on oc code,.int .i64 x] w fun e w'=>e=.returned (.int .i64 (x - rn - on))/\Below w.heap.size w w':=by
 have h1:(rn:Int)<=x:=by omega
 have h2:(on:Int)<=x - rn:=by omega
 have h3:¬ x - (rn:Int)<0:=by omega
 have h4:¬ x - (rn:Int) - on<0:=by omega
 go_enter Tryz.func117,Tryz.ntmps117
 go_wp2_with fail
 refine (qd7 _ _ _ _ _ h1 hx).mono ?_;rintro e w1 ⟨rfl,rfl⟩;go_wp2_with fail
 refine (qd7 _ _ _ _ _ h2 (by omega)).mono ?_;rintro e w1 ⟨rfl,rfl⟩;go_wp2;go_ret;exact ⟨rfl,by go_grown⟩
theorem ql6 (p code:Int) (ra oa:Option Addr) (rn rc on oc:Nat) (x:Int) (w:World) (h:x<(rn:Int)+on) (hx:x<=1048576) (hx0:0<=x) (hr:rn<=maxLen) (ho:on<=maxLen):
  Calls Tryz.prog 117 #[stV p ra rn rc oa on oc code,.int .i64 x] w fun e w'=>e=.returned (.int .i64 (-1))/\Below w.heap.size w w':=by
 by_cases h1:(rn:Int)<=x
 ·have h2:x - (rn:Int)<on:=by omega
  have h3:¬ x - (rn:Int)<0:=by omega
  go_enter Tryz.func117,Tryz.ntmps117
  go_wp2_with fail
  refine (qd7 _ _ _ _ _ h1 hx).mono ?_;rintro e w1 ⟨rfl,rfl⟩;go_wp2_with fail
  refine (qhd _ _ _ _ _ h2 (by omega) ho).mono ?_;rintro e w1 ⟨rfl,rfl⟩;go_wp2;go_ret;exact ⟨rfl,by go_grown⟩
 ·have h1':x<(rn:Int):=by omega
  go_enter Tryz.func117,Tryz.ntmps117
  go_wp2_with fail
  refine (qhd _ _ _ _ _ h1' hx0 hr).mono ?_;rintro e w1 ⟨rfl,rfl⟩;go_wp2;go_ret;exact ⟨rfl,by go_grown⟩
theorem qg5 (p code:Int) (ra oa ra' oa':Option Addr) (rc oc rc' oc':Nat) (rs os:List Int) (w:World) (hr:rs.length<=1048576) (ho:os.length<=1048576) (h1:Sl w ra rs) (h2:Sl w oa os) (h1':Sl w ra' rs) (h2':Sl w oa' os):
  Calls Tryz.prog 148 #[stV p ra rs.length rc oa os.length oc code,stV p ra' rs.length rc' oa' os.length oc' code] w fun e w'=>e=.returned (.bool true)/\Below w.heap.size w w':=by
 have H1:Hid (Sl w ra rs):=h1;have H2:Hid (Sl w oa os):=h2;have H1':Hid (Sl w ra' rs):=h1';have H2':Hid (Sl w oa' os):=h2';clear h1 h2 h1' h2'
 go_enter Tryz.func148,Tryz.ntmps148
 go_wp2_with fail
 refine (qey ra ra' rc rc' rs _ hr (H1.out.below (by go_grown)) (H1'.out.below (by go_grown))).mono ?_;rintro e w1 ⟨rfl,b1⟩;have B1:Hid (Below w.heap.size w w1):=qai (by go_grown) b1 (by simp;omega);obtain ⟨hc1,hf1⟩:=qap b1;have y1:w.heap.size+1<w1.heap.size:=by have:=b1.size;simp at this;omega
 have y0:w.heap.size<w1.heap.size:=by omega
 clear b1;go_wp2_with fail
 refine (qey oa oa' oc oc' os _ ho (H2.out.below B1.out) (H2'.out.below B1.out)).mono ?_;rintro e w2 ⟨rfl,b2⟩;have B2:Hid (Below w.heap.size w w2):=qai B1.out b2 B1.out.size;obtain ⟨hc2,hf2⟩:=qap b2;clear b2 B1;go_wp2;go_ret;exact ⟨rfl,B2.out⟩
abbrev regV (a b c d:Int):Value:=.agg #[.int .i64 a,.int .i64 b,.int .i64 c,.int .i64 d]
theorem qvk:(Tryz.prog.info? 3).map (·.size)=some 1:=by kernel_rfl
def cmax (x:Int):Int:=if x < -1000000000 then -1000000000 else x
def cmin (x:Int):Int:=if 1000000000<x then 1000000000 else x
def qbj (x:Int):Int:=cmin (cmax x)
theorem qws (ts:Array TypeId) (t:TypeId) (x:Int) (w:World):(Builtin.max_ ts t #[.int .i64 x,.int .i64 (-1000000000)]).run Tryz.prog w=.ok (.int .i64 (cmax x)) w:=by
 rw [run_max_int2];rfl
theorem qwt (ts:Array TypeId) (t:TypeId) (x:Int) (w:World):(Builtin.min_ ts t #[.int .i64 x,.int .i64 1000000000]).run Tryz.prog w=.ok (.int .i64 (cmin x)) w:=by
 rw [run_min_int2];rfl
theorem qtt (a b c d:Int) (w:World):(Instr.index 203 (regV a b c d) (.int .i64 0)).run Tryz.prog w=.ok (.int .i64 a) w:=by kernel_rfl
theorem qtu (a b c d:Int) (w:World):(Instr.index 203 (regV a b c d) (.int .i64 1)).run Tryz.prog w=.ok (.int .i64 b) w:=by kernel_rfl
theorem qtv (a b c d:Int) (w:World):(Instr.index 203 (regV a b c d) (.int .i64 2)).run Tryz.prog w=.ok (.int .i64 c) w:=by kernel_rfl
theorem qtw (a b c d:Int) (w:World):(Instr.index 203 (regV a b c d) (.int .i64 3)).run Tryz.prog w=.ok (.int .i64 d) w:=by kernel_rfl
section
attribute [local go_sem] qtt qtu qtv qtw
theorem qc0 (a b c d:Int) (w:World):
  Calls Tryz.prog 208 #[regV a b c d] w fun e w'=>e=.returned (regV (qbj a) (qbj b) (qbj c) (qbj d))/\Below w.heap.size w w':=by
 have hmx:=qws;have hmn:=qwt
 go_enter Tryz.func208,Tryz.ntmps208
 go_wp2_with fail
 go_rounds 5
 refine bodyPost_ret (v:=regV (qbj a) (qbj b) (qbj c) (qbj d)) (by simp [results,Tryz.results208,go_sem,qbj]) rfl ⟨rfl,?_⟩
 go_grown
end
theorem qee (x:Int) (w:World):
  Calls Tryz.prog 209 #[.int .i64 x] w fun e w'=>e=.returned (.bool (inB x 0 2))/\w'=w:=by
 by_cases h0:x=0
 ·subst h0
  go_enter Tryz.func209,Tryz.ntmps209
  go_wp2;go_ret;exact ⟨rfl,rfl⟩
 ·have h0':(x == 0)=false:=by simp [h0]
  by_cases h1:x=1
  ·subst h1
   go_enter Tryz.func209,Tryz.ntmps209
   go_wp2;go_ret;exact ⟨rfl,rfl⟩
  ·have h1':(x == 1)=false:=by simp [h1]
   have hv:inB x 0 2=(x == 2):=by
    rw [Bool.eq_iff_iff];simp [inB];omega
   have HV:Hid (inB x 0 2=(x == 2)):=hv;clear h0 h1 hv
   go_enter Tryz.func209,Tryz.ntmps209
   go_wp2;go_ret;exact ⟨by rw [HV.out];rfl,rfl⟩
theorem qhc (w:World) (z cs:Array Value) (t:TypeId):(w.alloc (.cells z t)).setRow w.heap.size cs=w.alloc (.cells cs t):=by
 have h:((w.alloc (.cells z t)).setRow w.heap.size cs).heap=(w.alloc (.cells cs t)).heap:=by
  apply Array.ext_getElem?;intro k;by_cases hk:k=w.heap.size
  ·subst hk
   rw [setRow_heap _ _ z cs t (0,0) (heap_alloc_new w _)];exact (heap_alloc_new w _).symm
  ·rw [setRow_other _ _ _ _ hk]
   show (w.heap.push _)[k]? = (w.heap.push _)[k]?;rw [Array.getElem?_push,Array.getElem?_push,if_neg hk,if_neg hk]
 show World.mk _ _ _ _ _=World.mk _ _ _ _ _
 congr 1
theorem qvh (w:World) (a:Addr) (sLen cap:Nat) (cs:List Value) (z:Array Value) (hz:z.size=4) (hn:cs.length=Nat.min sLen 4) (hsrc:∀ j v,cs[j]? = some v->(w.alloc (.cells z 203)).cell? (a.add j)=some v) (h1:∀ v ∈ cs,v.oneCell'=true):
  (Builtin.copy_ #[28,28] 3 #[.slice (some ⟨w.heap.size,0,none⟩) 4 4,.slice (some a) sLen cap]).run Tryz.prog (w.alloc (.cells z 203))=.ok (goInt cs.length) (w.alloc (.cells (cs ++ z.toList.drop cs.length).toArray 203)):=by
 have h:=run_copy_row (P:=Tryz.prog) (w.alloc (.cells z 203)) 28 28 3 3 w.heap.size 0 4 4 a sLen cap z 203 cs Tryz.underlying28 qvk (heap_alloc_new w _) hn hsrc (by rw [hz,hn,Nat.zero_add];exact Nat.min_le_right _ _) h1;rw [h,qhc];simp only [List.take_zero,List.nil_append,Nat.zero_add]
theorem qv3 (b off j:Nat):Addr.add ⟨b,off,none⟩ j=⟨b,off+j,none⟩:=by
 unfold Addr.add;by_cases h:j=0
 ·rw [if_pos h,h,Nat.add_zero]
 ·rw [if_neg h]
theorem qoi {w w':World} {b off:Nat} {xs:List Int} (h:Sl w (some ⟨b,off,none⟩) xs) (hb:Below w.heap.size w w'):∀ j v,(xs.map (Value.int .i64))[j]? = some v->w'.cell? (Addr.add ⟨b,off,none⟩ j)=some v:=by
 intro j v hj
 have hl:j<xs.length:=by
  apply Classical.byContradiction;intro hn;rw [List.getElem?_eq_none (by simp;omega)] at hj;cases hj
 rw [qdu xs j hl] at hj;rw [qv3,<- hj];obtain ⟨b',off',e,hlt,hc⟩:=(h.below hb).at hl;simp only [Option.some.injEq,Addr.mk.injEq,and_true] at e;obtain ⟨rfl,rfl⟩:=e;exact hc
theorem qhw (xs:List Int):∀ v ∈ xs.map (Value.int .i64),v.oneCell'=true:=by
 intro v hv;obtain ⟨x,_,rfl⟩:=List.mem_map.1 hv;rfl
abbrev qt5:Obj:=.cells #[.int .i64 0,.int .i64 0,.int .i64 0,.int .i64 0] 203
theorem qdp (a0:Option Addr) (n cap q:Nat) (r0 r1 r2 r3:Int) (w:World)
  (hrun:(Builtin.copy_ #[28,28] 3 #[.slice (some ⟨w.heap.size+1,0,none⟩) 4 4,.slice a0 n cap]).run Tryz.prog ((w.alloc qt5).alloc qt5)=.ok (goInt q) ((w.alloc qt5).alloc (.cells #[.int .i64 r0,.int .i64 r1,.int .i64 r2,.int .i64 r3] 203))):
  Calls Tryz.prog 163 #[.slice a0 n cap] w fun e w'=>e=.returned (.tuple #[regV r0 r1 r2 r3,.bool ((n:Int) == 4)])/\Below w.heap.size w w':=by
 go_enter Tryz.func163,Tryz.ntmps163
 go_wp2;refine bodyPost_ret (v:=.tuple #[regV r0 r1 r2 r3,.bool ((n:Int) == 4)]) (by simp [results,Tryz.results163,go_sem]) rfl ⟨rfl,?_⟩
 go_grown
theorem qbn (b off n cap:Nat) (cs:List Int) (r0 r1 r2 r3:Int) (w:World) (hn:cs.length=Nat.min n 4) (h:Sl w (some ⟨b,off,none⟩) cs)
  (hr:(cs.map (Value.int .i64) ++ [Value.int .i64 0,.int .i64 0,.int .i64 0,.int .i64 0].drop cs.length).toArray=#[.int .i64 r0,.int .i64 r1,.int .i64 r2,.int .i64 r3]):
  Calls Tryz.prog 163 #[.slice (some ⟨b,off,none⟩) n cap] w fun e w'=>e=.returned (.tuple #[regV r0 r1 r2 r3,.bool ((n:Int) == 4)])/\Below w.heap.size w w':=by
 have hb:Below w.heap.size w ((w.alloc qt5).alloc qt5):=by go_grown
 have hrun:=qvh (w.alloc qt5) ⟨b,off,none⟩ n cap (cs.map (Value.int .i64)) #[.int .i64 0,.int .i64 0,.int .i64 0,.int .i64 0] rfl (by rw [List.length_map];exact hn) (qoi h hb) (qhw cs);rw [List.length_map,hr] at hrun;rw [World.size_alloc] at hrun;exact qdp _ n cap _ r0 r1 r2 r3 w hrun
theorem qhn (a0:Option Addr) (cap:Nat) (w:World):
  Calls Tryz.prog 163 #[.slice a0 0 cap] w fun e w'=>e=.returned (.tuple #[regV 0 0 0 0,.bool ((0:Int) == 4)])/\Below w.heap.size w w':=
 qdp a0 0 cap 0 0 0 0 0 w (run_copy_none _ _ _ _ 3 _ _ _ _ _ _ Tryz.underlying28 qvk rfl)
theorem Sl.sub {w:World} {b off:Nat} {xs ys:List Int} (h:Sl w (some ⟨b,off,none⟩) xs) (hp:∃ t,xs=ys ++ t):Sl w (some ⟨b,off,none⟩) ys:=by
 obtain ⟨t,rfl⟩:=hp;by_cases h0:ys=[]
 ·exact .inl h0
 ·rcases h with h | ⟨b',off',e,hlt,hc⟩
  ·simp at h;exact .inl h.1
  ·refine .inr ⟨b',off',e,hlt,fun i hi=>?_⟩
   have:=hc i (by simp;omega);unfold zi at this ⊢
   rwa [List.getD_eq_getElem?_getD,List.getElem?_append_left hi,<- List.getD_eq_getElem?_getD] at this
theorem qcc (a0:Option Addr) (cap:Nat) (xs:List Int) (w:World) (h:Sl w a0 xs):
  Calls Tryz.prog 163 #[.slice a0 xs.length cap] w fun e w'=>(∃ r0 r1 r2 r3,e=.returned (.tuple #[regV r0 r1 r2 r3,.bool ((xs.length:Int) == 4)])/\(xs.length=4->xs=[r0,r1,r2,r3]))/\Below w.heap.size w w':=by
 match xs,h with
 | [],_=>exact (qhn a0 cap w).mono fun e w' ⟨he,hb⟩=>⟨⟨0,0,0,0,he,fun h=>by cases h⟩,hb⟩
 | [a],h=>
  obtain ⟨b,off,rfl,_⟩:=h.at (k:=0) (by simp);exact (qbn b off 1 cap [a] a 0 0 0 w rfl h rfl).mono fun e w' ⟨he,hb⟩=>⟨⟨_,_,_,_,he,fun h=>by cases h⟩,hb⟩
 | [a,c],h=>
  obtain ⟨b,off,rfl,_⟩:=h.at (k:=0) (by simp);exact (qbn b off 2 cap [a,c] a c 0 0 w rfl h rfl).mono fun e w' ⟨he,hb⟩=>⟨⟨_,_,_,_,he,fun h=>by cases h⟩,hb⟩
 | [a,c,d],h=>
  obtain ⟨b,off,rfl,_⟩:=h.at (k:=0) (by simp);exact (qbn b off 3 cap [a,c,d] a c d 0 w rfl h rfl).mono fun e w' ⟨he,hb⟩=>⟨⟨_,_,_,_,he,fun h=>by cases h⟩,hb⟩
 | [a,c,d,f],h=>
  obtain ⟨b,off,rfl,_⟩:=h.at (k:=0) (by simp);exact (qbn b off 4 cap [a,c,d,f] a c d f w rfl h rfl).mono fun e w' ⟨he,hb⟩=>⟨⟨_,_,_,_,he,fun _=>rfl⟩,hb⟩
 | a :: c :: d :: f :: g :: t,h=>
  obtain ⟨b,off,rfl,_⟩:=h.at (k:=0) (by simp);exact (qbn b off (a :: c :: d :: f :: g :: t).length cap [a,c,d,f] a c d f w (by simp) (h.sub ⟨g :: t,rfl⟩) rfl).mono fun e w' ⟨he,hb⟩=>⟨⟨_,_,_,_,he,fun h=>by simp at h⟩,hb⟩
open Go.Sort
def numB (x:Int):Bool:=inB x (-1000000000) 1000000000
def allN (xs:List Int):Bool:=xs.all numB
theorem qxs {xs:List Int} {k:Nat} (hk:k<xs.length):zi xs k ∈ xs:=by
 unfold zi;rw [List.getD_eq_getElem?_getD,List.getElem?_eq_getElem hk];exact List.getElem_mem hk
theorem qr4 {xs:List Int} {k:Nat} (hk:k<xs.length) (h:numB (zi xs k)=false):allN xs=false:=by
 rw [allN,List.all_eq_false];exact ⟨_,qxs hk,by simp [h]⟩
theorem qy1 {xs:List Int} {x:Int} (h:x ∈ xs):∃ k,k<xs.length/\zi xs k=x:=by
 obtain ⟨k,hk,e⟩:=List.getElem_of_mem h;refine ⟨k,hk,?_⟩;unfold zi;rw [List.getD_eq_getElem?_getD,List.getElem?_eq_getElem hk];exact e
theorem qt8 {xs:List Int} (h:∀ k,k<xs.length->numB (zi xs k)=true):allN xs=true:=by
 rw [allN,List.all_eq_true];intro x hx;obtain ⟨k,hk,rfl⟩:=qy1 hx;exact h k hk
def outB (xs:List Int):Bool:=decide ((xs.length:Int)<=60) && allN xs
def qcy (xs:List Int):Bool:=((xs.length:Int) == 4) && allN xs
def qc6 (n:Nat) (p:Int) (rs os:List Int) (code:Int):Bool:=qcy rs && inB code 0 2 && belB p n && outB os
theorem qfn (a0:Option Addr) (cap:Nat) (xs:List Int) (w:World) (hlen:xs.length<=1048576) (h:Sl w a0 xs):
  Calls Tryz.prog 210 #[.slice a0 xs.length cap] w fun e w'=>e=.returned (.bool (outB xs))/\w'=w:=by
 have hl':(xs.length:Int)<=1048576:=by omega
 by_cases h60:(xs.length:Int)<=60
 case neg=>
  have hg:60<(xs.length:Int):=by omega
  have HV:Hid (outB xs=false):=by simp [Hid,outB,h60]
  clear h60
  go_enter Tryz.func210,Tryz.ntmps210
  go_wp2;go_ret;exact ⟨by rw [HV.out];rfl,rfl⟩
 case pos=>
  have HV:Hid (outB xs=allN xs):=by simp [Hid,outB,h60]
  have hg:¬ 60<(xs.length:Int):=by omega
  have HS:Hid (Sl w a0 xs):=h;clear h h60
  go_enter Tryz.func210,Tryz.ntmps210
  go_wp2_with fail
  go_loop [10] (fun i=>∃ k:Nat,k<=xs.length/\i=.int .i64 k/\Hid (∀ t,t<k->numB (zi xs t)=true)) (fun i=>xs.length - (intOf i).toNat)
  case atStart=>exact ⟨0,Nat.zero_le _,rfl,fun t ht=>by omega⟩
  case round=>
   obtain ⟨k,hk,rfl,HK⟩:=hrel;by_cases hlt:k<xs.length
   ·have hlt':(k:Int)<(xs.length:Int):=by omega
    obtain ⟨b,off,rfl,hbl,ck⟩:=HS.out.at hlt
    rcases zK (numB (zi xs k)) with t0 | t0
    ·have T0:Hid (numB (zi xs k)=true):=t0
     have t1:inB (zi xs k) (-1000000000) 1000000000=true:=t0;clear t0;go_wp2_with (go_at_call 211;refine (isNum_any _ _).mono ?_;rintro e w' ⟨rfl,rfl⟩)
     go_round
     case rel=>
      refine ⟨k+1,by omega,by go_num,fun t ht=>?_⟩;by_cases htk:t=k
      ·subst htk;exact T0.out
      ·exact HK.out t (by omega)
     case measure=>simp [intOf];omega
    ·have T0:Hid (allN xs=false):=qr4 hlt t0
     have t1:inB (zi xs k) (-1000000000) 1000000000=false:=t0;clear t0;go_wp2_with (go_at_call 211;refine (isNum_any _ _).mono ?_;rintro e w' ⟨rfl,rfl⟩)
     go_ret;exact ⟨by rw [HV.out,T0.out];rfl,rfl⟩
   ·have hlt':¬ (k:Int)<(xs.length:Int):=by omega
    have T0:Hid (allN xs=true):=qt8 fun t ht=>HK.out t (by omega);clear HK;go_wp2;go_ret;exact ⟨by rw [HV.out,T0.out];rfl,rfl⟩
theorem qv4 {x:Int}:qbj x=x ↔ numB x=true:=by
 unfold qbj cmin cmax numB inB;simp only [decide_eq_true_eq];by_cases h1:x < -1000000000
 ·rw [if_pos h1,if_neg (by omega)];omega
 ·rw [if_neg h1]
  by_cases h2:1000000000<x
  ·rw [if_pos h2];omega
  ·rw [if_neg h2];simp;omega
def qn9 (a b c d a' b' c' d':Int):Bool:=a == a' && (b == b' && (c == c' && d == d'))
theorem qkv (a b c d a' b' c' d':Int) (w:World):(binOp .eql 203 (regV a b c d) (regV a' b' c' d')).run Tryz.prog w=.ok (.bool (qn9 a b c d a' b' c' d')) w:=by
 have hinfo:=qp4;cases hi:Tryz.prog.info? 3 with
 | none=>rw [hi] at hinfo;cases hinfo
 | some i=>
  rw [run_eql_struct,show (10000:Nat)=9998+1+1 from rfl,run_equalIn_array w (9998+1) _ _ Tryz.underlying203 hi,show Tryz.prog.cellsOf 3=1 by kernel_rfl,show List.range 4=[0,1,2,3] from rfl]
  have hp:∀ (vs:Array Value) (j:Nat) (v:Value) (w:World),vs[j]? = some v->(part 3 vs j).run Tryz.prog w=.ok v w:=by
   intro vs j v w hv;simp [part,go_sem,hv]
  have p0:=hp #[.int .i64 a,.int .i64 b,.int .i64 c,.int .i64 d] 0 (.int .i64 a) w rfl;have p1:=hp #[.int .i64 a,.int .i64 b,.int .i64 c,.int .i64 d] 1 (.int .i64 b) w rfl;have p2:=hp #[.int .i64 a,.int .i64 b,.int .i64 c,.int .i64 d] 2 (.int .i64 c) w rfl;have p3:=hp #[.int .i64 a,.int .i64 b,.int .i64 c,.int .i64 d] 3 (.int .i64 d) w rfl;have q0:=hp #[.int .i64 a',.int .i64 b',.int .i64 c',.int .i64 d'] 0 (.int .i64 a') w rfl;have q1:=hp #[.int .i64 a',.int .i64 b',.int .i64 c',.int .i64 d'] 1 (.int .i64 b') w rfl;have q2:=hp #[.int .i64 a',.int .i64 b',.int .i64 c',.int .i64 d'] 2 (.int .i64 c') w rfl;have q3:=hp #[.int .i64 a',.int .i64 b',.int .i64 c',.int .i64 d'] 3 (.int .i64 d') w rfl;have hq:∀ x y,(Op.equalIn 9999 3 (.int .i64 x) (.int .i64 y)).run Tryz.prog w=.ok (x == y) w:=fun x y=>run_equalIn_int (P:=Tryz.prog) w 9998 3 .i64 .i64 x y Tryz.underlying3;clear hp hinfo hi;simp only [qn9];cases h1:(a == a') <;> cases h2:(b == b') <;> cases h3:(c == c') <;> cases h4:(d == d') <;> simp only [Op.eqItems,Sem.run_bind,Sem.run_pure,Sem.run_ite,Result.andThen_ok,Bool.not_true,Bool.not_false,if_true,if_false,Bool.false_eq_true,Nat.mul_one,Bool.and_true,Bool.and_false,p0,p1,p2,p3,q0,q1,q2,q3,hq,h1,h2,h3,h4]
theorem qb8 (a b c d:Int):qn9 a b c d (qbj a) (qbj b) (qbj c) (qbj d)=qcy [a,b,c,d]:=by
 have h:∀ x,(x == qbj x)=numB x:=fun x=>by
  rw [Bool.eq_iff_iff,<- qv4,beq_iff_eq];exact eq_comm
 unfold qn9 qcy allN;rw [h,h,h,h];simp
theorem zQ {w:World} {b:Nat} (o:Obj) (j:Nat) (h:b<w.heap.size):(w.alloc o).cell? ⟨b,j,none⟩=w.cell? ⟨b,j,none⟩:=zH (Below.heap_alloc w o b h)
theorem Calls.regrown_same {P:Program} {f:FuncId} {args:Array Value} {w:World} {d:Nat} {os:Array Obj} {v:Value}
  (h:Calls P f args (grow (redrawn w d) os) fun e w'=>e=.returned v/\w'=grow (redrawn w d) os):Calls P f args (grow (redrawn w d) os) fun e w''=>e=.returned v/\∃ p:Regrown,w''=grow (redrawn w p.d) p.os:=
 h.mono fun _ _ ⟨he,hw⟩=>⟨he,⟨d,os⟩,hw⟩
theorem qhm (la:Option Addr) (n lc:Nat) (p code:Int) (ra oa:Option Addr) (rc oc:Nat) (a b c d:Int) (os:List Int) (w:World) (ho:os.length<=1048576) (h1:Sl w ra [a,b,c,d]) (h2:Sl w oa os):
  Calls Tryz.prog 162 #[.slice la n lc,stV p ra 4 rc oa os.length oc code] w fun e w'=>e=.returned (.bool (qc6 n p [a,b,c,d] os code))/\Below w.heap.size w w':=by
 have H1:Hid (Sl w ra [a,b,c,d]):=h1;have H2:Hid (Sl w oa os):=h2;clear h1 h2
 go_enter Tryz.func162,Tryz.ntmps162
 go_wp2_with fail
 refine (qcc ra rc [a,b,c,d] _ (H1.out.below (by go_grown))).mono ?_;rintro e w1 ⟨⟨r0,r1,r2,r3,rfl,hr⟩,b1⟩;have B1:Hid (Below w.heap.size w w1):=qai (by go_grown) b1 (by simp);have y0:w.heap.size<w1.heap.size:=by have:=b1.size;simp at this;omega
 have hr':=hr rfl;simp only [List.cons.injEq,and_true] at hr';obtain ⟨rfl,rfl,rfl,rfl⟩:=hr';obtain ⟨hc1,hf1⟩:=qap b1;clear b1 hr;go_wp2_with fail
 have B2:Hid (Below w.heap.size w (w1.alloc (.cells #[.int .i64 a,.int .i64 b,.int .i64 c,.int .i64 d] 203))):=B1.out.alloc (by omega) _;generalize hW:(w1.alloc (.cells #[.int .i64 a,.int .i64 b,.int .i64 c,.int .i64 d] 203))=W at *;have k0:W.cell? ⟨w1.heap.size,0,none⟩=some (.int .i64 a):=by rw [<- hW];simp
 have k1:W.cell? ⟨w1.heap.size,1,none⟩=some (.int .i64 b):=by rw [<- hW];simp
 have k2:W.cell? ⟨w1.heap.size,2,none⟩=some (.int .i64 c):=by rw [<- hW];simp
 have k3:W.cell? ⟨w1.heap.size,3,none⟩=some (.int .i64 d):=by rw [<- hW];simp
 have s0:W.cell? ⟨w.heap.size,0,none⟩=some (.int .i64 p):=by rw [<- hW,zQ _ _ y0,hc1 _ _ (by simp)];simp
 have s2:W.cell? ⟨w.heap.size,2,none⟩=some (.slice oa os.length oc):=by rw [<- hW,zQ _ _ y0,hc1 _ _ (by simp)];simp
 have s3:W.cell? ⟨w.heap.size,3,none⟩=some (.int .i64 code):=by rw [<- hW,zQ _ _ y0,hc1 _ _ (by simp)];simp
 clear hc1 hf1 hW B1 y0;have k0':=cell_regrown k0;have k1':=cell_regrown k1;have k2':=cell_regrown k2;have k3':=cell_regrown k3;have s0':=cell_regrown s0;have s2':=cell_regrown s2;have s3':=cell_regrown s3;have HO:Hid (∀ d os',Sl (grow (redrawn W d) os') oa os):=fun d os'=>(H2.out.below B2.out).below (below_regrown W d os')
 rcases zK (qcy [a,b,c,d]) with t1 | t1
 case inr=>
  have HV:Hid (qc6 n p [a,b,c,d] os code=false):=by simp [Hid,qc6,t1]
  have he:∀ wx,(binOp .eql 203 (regV a b c d) (regV (qbj a) (qbj b) (qbj c) (qbj d))).run Tryz.prog wx=.ok (.bool false) wx:=fun wx=>by rw [qkv,qb8,t1]
  clear t1;refine wp_region_quiet_below (by kernel_rfl) (by kernel_rfl) ?_
  repeat (quiet_step (first|(go_at_call 208;exact Calls.regrown_of (qc0 _ _ _ _ _))|(go_at_call 209;exact Calls.regrown_same (qee _ _))|(go_at_call 27;exact Calls.regrown_same (isBelow_any _ _ _))|(go_at_call 210;exact Calls.regrown_same (qfn _ _ _ _ ho (HO.out _ _)))))
  refine wpQuiet_nil ?_;intro _ hw';obtain ⟨⟨dq,osq⟩,hw''⟩:=hw';subst hw'';have B3:Hid (Below w.heap.size w (grow (redrawn W dq) osq)):=B2.out.trans ((below_regrown W dq osq).mono B2.out.size);generalize grow (redrawn W dq) osq=w3 at *;clear k0' k1' k2' k3' s0' s2' s3' HO he;go_wp2;go_ret;exact ⟨by rw [HV.out];rfl,B3.out⟩
 have he:∀ wx,(binOp .eql 203 (regV a b c d) (regV (qbj a) (qbj b) (qbj c) (qbj d))).run Tryz.prog wx=.ok (.bool true) wx:=fun wx=>by rw [qkv,qb8,t1]
 rcases zK (inB code 0 2) with t2 | t2
 case inr=>
  have HV:Hid (qc6 n p [a,b,c,d] os code=false):=by simp [Hid,qc6,t2]
  clear t1;refine wp_region_quiet_below (by kernel_rfl) (by kernel_rfl) ?_
  repeat (quiet_step (first|(go_at_call 208;exact Calls.regrown_of (qc0 _ _ _ _ _))|(go_at_call 209;exact Calls.regrown_same (qee _ _))|(go_at_call 27;exact Calls.regrown_same (isBelow_any _ _ _))|(go_at_call 210;exact Calls.regrown_same (qfn _ _ _ _ ho (HO.out _ _)))))
  refine wpQuiet_nil ?_;intro _ hw';obtain ⟨⟨dq,osq⟩,hw''⟩:=hw';subst hw'';have B3:Hid (Below w.heap.size w (grow (redrawn W dq) osq)):=B2.out.trans ((below_regrown W dq osq).mono B2.out.size);generalize grow (redrawn W dq) osq=w3 at *;clear k0' k1' k2' k3' s0' s2' s3' HO he;go_wp2;go_ret;exact ⟨by rw [HV.out];rfl,B3.out⟩
 rcases zK (belB p n) with t3 | t3
 case inr=>
  have HV:Hid (qc6 n p [a,b,c,d] os code=false):=by simp [Hid,qc6,t3]
  clear t1;refine wp_region_quiet_below (by kernel_rfl) (by kernel_rfl) ?_
  repeat (quiet_step (first|(go_at_call 208;exact Calls.regrown_of (qc0 _ _ _ _ _))|(go_at_call 209;exact Calls.regrown_same (qee _ _))|(go_at_call 27;exact Calls.regrown_same (isBelow_any _ _ _))|(go_at_call 210;exact Calls.regrown_same (qfn _ _ _ _ ho (HO.out _ _)))))
  refine wpQuiet_nil ?_;intro _ hw';obtain ⟨⟨dq,osq⟩,hw''⟩:=hw';subst hw'';have B3:Hid (Below w.heap.size w (grow (redrawn W dq) osq)):=B2.out.trans ((below_regrown W dq osq).mono B2.out.size);generalize grow (redrawn W dq) osq=w3 at *;clear k0' k1' k2' k3' s0' s2' s3' HO he;go_wp2;go_ret;exact ⟨by rw [HV.out];rfl,B3.out⟩
 case inl=>
  have HV:Hid (qc6 n p [a,b,c,d] os code=outB os):=by simp [Hid,qc6,t1,t2,t3]
  clear t1;refine wp_region_quiet_below (by kernel_rfl) (by kernel_rfl) ?_
  repeat (quiet_step (first|(go_at_call 208;exact Calls.regrown_of (qc0 _ _ _ _ _))|(go_at_call 209;exact Calls.regrown_same (qee _ _))|(go_at_call 27;exact Calls.regrown_same (isBelow_any _ _ _))|(go_at_call 210;exact Calls.regrown_same (qfn _ _ _ _ ho (HO.out _ _)))))
  refine wpQuiet_nil ?_;intro _ hw';obtain ⟨⟨dq,osq⟩,hw''⟩:=hw';subst hw'';have B3:Hid (Below w.heap.size w (grow (redrawn W dq) osq)):=B2.out.trans ((below_regrown W dq osq).mono B2.out.size);generalize grow (redrawn W dq) osq=w3 at *;clear k0' k1' k2' k3' s0' s2' s3' HO he;go_wp2;go_ret;exact ⟨by rw [HV.out];rfl,B3.out⟩
theorem qij (la:Option Addr) (n lc:Nat) (p code:Int) (ra oa:Option Addr) (rc on oc:Nat) (rs:List Int) (w:World) (h4:rs.length≠4) (h1:Sl w ra rs):
  Calls Tryz.prog 162 #[.slice la n lc,stV p ra rs.length rc oa on oc code] w fun e w'=>e=.returned (.bool false)/\Below w.heap.size w w':=by
 have H1:Hid (Sl w ra rs):=h1;have h4':((rs.length:Int) == 4)=false:=by simp;omega
 clear h1 h4
 go_enter Tryz.func162,Tryz.ntmps162
 go_wp2_with fail
 refine (qcc ra rc rs _ (H1.out.below (by go_grown))).mono ?_;rintro e w1 ⟨⟨a,b,c,d,rfl,hr⟩,b1⟩;have B1:Hid (Below w.heap.size w w1):=qai (by go_grown) b1 (by simp);have y0:w.heap.size<w1.heap.size:=by have:=b1.size;simp at this;omega
 clear b1 hr;go_wp2_with fail
 have B2:Hid (Below w.heap.size w (w1.alloc (.cells #[.int .i64 a,.int .i64 b,.int .i64 c,.int .i64 d] 203))):=B1.out.alloc (by omega) _;generalize (w1.alloc (.cells #[.int .i64 a,.int .i64 b,.int .i64 c,.int .i64 d] 203))=W at *
 go_quiet (fail)
 go_wp2;go_ret;exact ⟨rfl,yB B2.out _⟩
theorem qdv (la:Option Addr) (n lc:Nat) (p code:Int) (ra oa:Option Addr) (rc oc:Nat) (rs os:List Int) (w:World) (ho:os.length<=1048576) (h1:Sl w ra rs) (h2:Sl w oa os):
  Calls Tryz.prog 162 #[.slice la n lc,stV p ra rs.length rc oa os.length oc code] w fun e w'=>e=.returned (.bool (qc6 n p rs os code))/\Below w.heap.size w w':=by
 by_cases h4:rs.length=4
 ·match rs,h4,h1 with
  | [a,b,c,d],_,h1=>exact qhm la n lc p code ra oa rc oc a b c d os w ho h1 h2
 ·have hv:qc6 n p rs os code=false:=by
   have:((rs.length:Int) == 4)=false:=by simp;omega
   simp [qc6,qcy,this]
  rw [hv];exact qij la n lc p code ra oa rc os.length oc rs w h4 h1
theorem qe7 {k:IntKind} {a b:Int} (h:a=b):Ending.returned (.int k a)=.returned (.int k b):=by rw [h]
def qe1 (k:Int) (n:Nat):List Int:=(List.range n).map (fun i:Nat=>k+(i:Int))
theorem qc2 (k:Int) (n:Nat):(qe1 k n).length=n:=by simp [qe1]
theorem qrr (k:Int) (n j:Nat) (h:j<n):zi (qe1 k n) j=k+j:=by
 unfold zi qe1;rw [List.getD_eq_getElem?_getD,List.getElem?_map,List.getElem?_range h];rfl
theorem qhx {w:World} {B n cap:Nat} {a0:Option Addr} {ys:List Int} (h:OwnI w B (.slice a0 n cap) ys) (hn:0<ys.length):∃ g,a0=some ⟨g,0,none⟩/\n=ys.length/\B<=g/\g<w.heap.size:=by
 obtain ⟨g,c,hv,hb,hl⟩:=h.block hn;simp only [Value.slice.injEq] at hv;exact ⟨g,hv.1,hv.2.1,hb,hl⟩
theorem qco (a0:Option Addr) (cap B:Nat) (xs:List Int) (k:Int) (w:World) (hlen:xs.length<=1048576) (k0:0<=k) (k1:k<=100000000) (h:OwnI w B (.slice a0 xs.length cap) xs):
  Calls Tryz.prog 91 #[.slice a0 xs.length cap,.int .i64 k] w fun e w'=>e=.returned (.int .i64 (k+xs.length))/\OwnI w' B (.slice a0 xs.length cap) (qe1 k xs.length)/\w.grownBy w' (Value.slice a0 xs.length cap).ownBlock:=by
 have hl':(xs.length:Int)<=1048576:=by omega
 have HO:Hid (OwnI w B (.slice a0 xs.length cap) xs):=h;clear h
 go_enter Tryz.func91,Tryz.ntmps91
 go_wp2_with fail
 go_loopw [1,5] (fun q i wr=>∃ j:Nat,j<=xs.length/\i=.int .i64 j/\q=.int .i64 (k+j)/\Hid ((∃ ys,ys.length=xs.length/\OwnI wr B (.slice a0 xs.length cap) ys/\∀ t,t<j->zi ys t=k+t)/\w.grownBy wr (Value.slice a0 xs.length cap).ownBlock)) (fun _ i _=>xs.length - (intOf i).toNat)
 case atStart=>exact ⟨0,Nat.zero_le _,rfl,by simp,⟨xs,rfl,HO.out,fun t ht=>by omega⟩,World.grownBy.refl _ _⟩
 case round=>
  clear HO;obtain ⟨j,hj,rfl,rfl,HR⟩:=hrel;by_cases hlt:j<xs.length
  ·have hlt':(j:Int)<(xs.length:Int):=by omega
   have hg:∃ g,a0=some ⟨g,0,none⟩/\g<wr.heap.size:=by
    obtain ⟨⟨ys,he,ho,_⟩,_⟩:=HR.out;obtain ⟨g,hg,_,_,hl⟩:=qhx ho (by omega);exact ⟨g,hg,hl⟩
   obtain ⟨g,rfl,hgl⟩:=hg;have fz:wr.frozen? ⟨g,j,none⟩=false:=by obtain ⟨⟨ys,he,ho,_⟩,_⟩:=HR.out;rw [<- he] at ho;exact ho.frozen j
   have cz:∃ z:Int,wr.cell? ⟨g,j,none⟩=some (.int .i64 z):=by obtain ⟨⟨ys,he,ho,_⟩,_⟩:=HR.out;rw [<- he] at ho hlt;exact ⟨_,ho.cell hlt⟩
   obtain ⟨z,cz⟩:=cz;go_wp2;go_roundw
   case rel=>
    refine ⟨j+1,by omega,by go_num,by go_num,?_⟩;obtain ⟨⟨ys,he,ho,hy⟩,hgr⟩:=HR.out;obtain ⟨ho',hg'⟩:=ho.set he.symm j (k+j);refine ⟨⟨ys.set j (k+j),by simpa using he,ho',fun t ht=>?_⟩,hgr.trans hg'⟩;by_cases htj:t=j
    ·subst htj;exact qdk ys t _ (by omega)
    ·rw [qez ys t j _ htj];exact hy t (by omega)
   case measure=>simp [intOf];omega
  ·have hlt':¬ (j:Int)<(xs.length:Int):=by omega
   have HF:Hid (OwnI wr B (.slice a0 xs.length cap) (qe1 k xs.length)/\w.grownBy wr (Value.slice a0 xs.length cap).ownBlock):=by
    obtain ⟨⟨ys,he,ho,hy⟩,hgr⟩:=HR.out;have:ys=qe1 k xs.length:=qrg (by rw [he,qc2]) fun i hi=>by rw [hy i (by omega),qrr _ _ _ (by omega)]
    rw [this] at ho;exact ⟨ho,hgr⟩
   have hjl:(j:Int)=xs.length:=by omega
   have HJ:Hid ((j:Int)=xs.length):=hjl;clear HR hjl;go_wp2;go_ret;exact ⟨qe7 (by rw [HJ.out]),HF.out⟩
theorem qc4 (a0:Option Addr) (cap n:Nat) (k:Int) (w:World) (hlen:n<=1048576) (k0:0<=k) (k1:k<=100000000) (h:Sl w a0 (qe1 k n)):
  Calls Tryz.prog 98 #[.slice a0 n cap,.int .i64 k] w fun e w'=>e=.returned (.int .i64 (k+n))/\w'=w:=by
 have hl':(n:Int)<=1048576:=by omega
 have HS:Hid (Sl w a0 (qe1 k n)):=h;clear h
 go_enter Tryz.func98,Tryz.ntmps98
 go_wp2_with fail
 go_loop [1,5] (fun q i=>∃ j:Nat,j<=n/\i=.int .i64 j/\q=.int .i64 (k+j)) (fun _ i=>n - (intOf i).toNat)
 case atStart=>exact ⟨0,Nat.zero_le _,rfl,by simp⟩
 case round=>
  obtain ⟨j,hj,rfl,rfl⟩:=hrel;by_cases hlt:j<n
  ·have hlt':(j:Int)<(n:Int):=by omega
   obtain ⟨b,off,rfl,hbl,ck⟩:=HS.out.at (k:=j) (by rw [qc2];exact hlt);rw [qrr _ _ _ hlt] at ck;go_wp2
   go_round
   case rel=>exact ⟨j+1,by omega,by go_num,by go_num⟩
   case measure=>simp [intOf];omega
  ·have hlt':¬ (j:Int)<(n:Int):=by omega
   have HJ:Hid ((j:Int)=n):=by show (j:Int)=n;omega
   go_wp2;go_ret;exact ⟨qe7 (by rw [HJ.out]),rfl⟩
theorem qfo {w w':World} {B:Nat} {v u:Value} {xs:List Int} (h:OwnI w B v xs) (hg:w.grownBy w' u.ownBlock) (ha:∀ k,u.ownBlock=some k->v.ownBlock≠some k):OwnI w' B v xs:=by
 refine h.kept hg ?_;cases hu:u.ownBlock with
 | none=>
  cases hv:v.ownBlock with
  | none=>exact .inl rfl
  | some k=>exact .inr (by simp)
 | some k=>exact .inr (ha k hu)
theorem qhj {W w1:World} {row:Option Nat} (hg:W.grownBy w1 row) {b:Nat} (hb:b<W.heap.size) (hne:some b≠row):(∀ o,w1.cell? ⟨b,o,none⟩=W.cell? ⟨b,o,none⟩)/\(∀ o,w1.frozen? ⟨b,o,none⟩=W.frozen? ⟨b,o,none⟩):=
 ⟨fun _=>zH (hg.block b hb hne),fun _=>zI (hg.block b hb hne)⟩
def qae (v:Value) (k:Nat):Prop:=∃ p vr vo code,v=.agg #[p,vr,vo,code]/\(vr.ownBlock=some k\/vo.ownBlock=some k)
theorem qal (p vr vo code:Value) (k:Nat):qae (.agg #[p,vr,vo,code]) k ↔ vr.ownBlock=some k\/vo.ownBlock=some k:=by
 constructor
 ·rintro ⟨p',vr',vo',code',e,h⟩
  simp only [Value.agg.injEq,Array.mk.injEq,List.cons.injEq,and_true] at e;obtain ⟨_,rfl,rfl,_⟩:=e;exact h
 ·exact fun h=>⟨p,vr,vo,code,rfl,h⟩
theorem qag.lt {w:World} {B:Nat} {v:Value} {p code:Int} {rs os:List Int} (h:qag w B v p rs os code) {k:Nat} (hk:qae v k):B<=k/\k<w.heap.size:=by
 obtain ⟨vr,vo,rfl,h1,h2,_⟩:=h
 rcases (qal _ _ _ _ _).1 hk with h | h
 ·exact h1.lt k h
 ·exact h2.lt k h
structure qa6 (v:Value) (w w':World):Prop where
 os:w'.os=w.os
 tape:w'.tape=w.tape
 output:w'.output=w.output
 size:w.heap.size<=w'.heap.size
 block:∀ k,k<w.heap.size->¬ qae v k->w'.heap[k]? = w.heap[k]?
theorem qa6.below {v:Value} {w w':World} {B:Nat} (h:qa6 v w w') (hB:B<=w.heap.size) (hv:∀ k,qae v k->B<=k):Below B w w':=
 ⟨h.os,h.tape,h.output,h.size,fun k hk=>h.block k (by omega) (fun hh=>by have:=hv k hh;omega)⟩
theorem qa6.own {v:Value} {w w':World} {B:Nat} {u:Value} {xs:List Int} (h:qa6 v w w') (hu:OwnI w B u xs) (ha:∀ k,u.ownBlock=some k->¬ qae v k):OwnI w' B u xs:=by
 rcases hu.2 with ⟨rfl,h0⟩ | ⟨g,cap,cur,rfl,hb,hg,hr⟩
 ·exact ⟨hu.1,.inl ⟨rfl,h0⟩⟩
 ·refine ⟨hu.1,.inr ⟨g,cap,cur,rfl,hb,?_,hr⟩⟩
  rw [h.block g (hu.lt g rfl).2 (ha g rfl)];exact hg
theorem qa6.st {v:Value} {w w':World} {B:Nat} {u:Value} {p code:Int} {rs os:List Int} (h:qa6 v w w') (hu:qag w B u p rs os code) (ha:∀ k,qae u k->¬ qae v k):qag w' B u p rs os code:=by
 obtain ⟨vr,vo,rfl,h1,h2,h3⟩:=hu;exact ⟨vr,vo,rfl,h.own h1 fun k hk=>ha k ((qal _ _ _ _ _).2 (.inl hk)),h.own h2 fun k hk=>ha k ((qal _ _ _ _ _).2 (.inr hk)),h3⟩
theorem qa6.cell {v:Value} {w w':World} (h:qa6 v w w') {b:Nat} (hb:b<w.heap.size) (hv:¬ qae v b) (j:Nat):w'.cell? ⟨b,j,none⟩=w.cell? ⟨b,j,none⟩:=zH (h.block b hb hv)
theorem qa6.frozen {v:Value} {w w':World} (h:qa6 v w w') {b:Nat} (hb:b<w.heap.size) (hv:¬ qae v b) (j:Nat):w'.frozen? ⟨b,j,none⟩=w.frozen? ⟨b,j,none⟩:=zI (h.block b hb hv)
theorem qqw (k p v:Int) (w:World):
  Calls Tryz.prog 179 #[evV k p v] w fun e w'=>e=.returned (evV k p v)/\Below w.heap.size w w':=by
 go_enter Tryz.func179,Tryz.ntmps179
 go_wp2;refine bodyPost_ret (v:=evV k p v) (by simp [results,Tryz.results179,go_sem]) rfl ⟨rfl,?_⟩
 go_grown
theorem qm3 (k p v:Int) (w:World):
  Calls Tryz.prog 207 #[evV k p v,evV k p v] w fun e w'=>e=.returned (.bool true)/\Below w.heap.size w w':=by
 go_enter Tryz.func207,Tryz.ntmps207
 go_wp2;go_ret;exact ⟨rfl,by go_grown⟩
def BoxC (w:World) (N:Nat) (p vr vo code:Value):Prop:=w.cell? ⟨N,0,none⟩=some p/\w.cell? ⟨N,1,none⟩=some vr/\w.cell? ⟨N,2,none⟩=some vo/\w.cell? ⟨N,3,none⟩=some code
theorem BoxC.below {w w':World} {N:Nat} {p vr vo code:Value} (h:BoxC w N p vr vo code) (hb:Below w.heap.size w w'):BoxC w' N p vr vo code:=by
 obtain ⟨h0,h1,h2,h3⟩:=h;have hN:N<w.heap.size:=zJ w _ h0;exact ⟨(hb.cell (p:=⟨N,0,none⟩) hN).trans h0,(hb.cell (p:=⟨N,1,none⟩) hN).trans h1,(hb.cell (p:=⟨N,2,none⟩) hN).trans h2,(hb.cell (p:=⟨N,3,none⟩) hN).trans h3⟩
theorem BoxC.new (w:World) (p vr vo code:Value) (t:TypeId):BoxC (w.alloc (.cells #[p,vr,vo,code] t)) w.heap.size p vr vo code:=by
 unfold BoxC;simp
theorem BoxC.marked {v:Value} {w w':World} {N:Nat} {p vr vo code:Value} (h:BoxC w N p vr vo code) (hm:qa6 v w w') (hv:¬ qae v N):BoxC w' N p vr vo code:=by
 obtain ⟨h0,h1,h2,h3⟩:=h;have hN:N<w.heap.size:=zJ w _ h0;exact ⟨(hm.cell hN hv _).trans h0,(hm.cell hN hv _).trans h1,(hm.cell hN hv _).trans h2,(hm.cell hN hv _).trans h3⟩
theorem qk7:∃ i,Tryz.prog.info? 3=some i/\i.zero=some (.int .i64 0)/\i.size=1/\i.bytes=8:=by
 have hinfo:=qp4;cases hi:Tryz.prog.info? 3 with
 | none=>rw [hi] at hinfo;cases hinfo
 | some i=>
  rw [hi] at hinfo;simp only [Option.map_some,Option.some.injEq,Prod.mk.injEq] at hinfo;exact ⟨i,rfl,hinfo⟩
theorem qir (w:World) (ty:TypeId) (B c:Nat) (v:Value) (xs:List Int) (h:OwnI w B v xs):
  (Builtin.append_ #[28,28] ty #[v,.slice none 0 c]).run Tryz.prog w=.ok v w:=by
 obtain ⟨i,hi,_⟩:=qk7
 rcases h.2 with ⟨rfl,_⟩ | ⟨g,cap,cur,rfl,_,_,hnc,_⟩
 ·simp [Builtin.append_,run_underlying Tryz.underlying28,sizeOf,typeInfo,hi,Builtin.lenOf,Builtin.firstCells]
 ·simp [Builtin.append_,run_underlying Tryz.underlying28,sizeOf,typeInfo,hi,Builtin.lenOf,Builtin.firstCells,hnc,storeCells]
theorem qd1 (w:World) (ty:TypeId) (B c:Nat) (v:Value) (a0:Option Addr) (xs ys:List Int) (h:OwnI w B v xs) (hy:Sl w a0 ys) (hn:xs.length+ys.length<=4000000) (hB:B<=w.heap.size):
  ∃ v' w',(Builtin.append_ #[28,28] ty #[v,.slice a0 ys.length c]).run Tryz.prog w=.ok v' w'/\OwnI w' B v' (xs ++ ys)/\w.grownBy w' v.ownBlock/\(v'.ownBlock=v.ownBlock\/v'.ownBlock=some w.heap.size):=by
 obtain ⟨i,hi,hz,hs,hb⟩:=qk7;cases a0 with
 | none=>
  have hy0:ys=[]:=by
   rcases hy with h0 | ⟨b,off,e,_⟩
   ·exact h0
   ·cases e
  subst hy0;exact ⟨v,w,qir w ty B c v xs h,by simpa using h,World.grownBy.refl _ _,.inl rfl⟩
 | some a=>
  have hnews:∀ j u,(ys.map (Value.int .i64))[j]? = some u->w.cell? (a.add j)=some u:=by
   rcases hy with h0 | ⟨b,off,e,hlt,hc⟩
   ·subst h0;intro j u hj;simp at hj
   ·cases e
    exact qoi (.inr ⟨b,off,rfl,hlt,hc⟩) (Below.refl _ _)
  obtain ⟨v',w',h1,h2,h3,_,h5⟩:=run_append_own_at (P:=Tryz.prog) w B 28 ty 3 i (.int .i64 0) 1 8 Tryz.underlying28 hi hz hs hb rfl (by decide) v xs.length (xs.map (Value.int .i64)) h a ys.length c (ys.map (Value.int .i64)) (by simp) hnews (qhw ys) (by unfold maxLen;omega) (by omega) hB;refine ⟨v',w',h1,?_,h3,h5⟩;unfold OwnI;rw [List.length_append,List.map_append];exact h2
theorem qba {ops:Array Oper} {rest:List Oper} {op:Oper} {act:Act} {Q:Exit->Act->World->Prop} (w:World) (hgd:op.guard=none) (s x:Operand)
  (ho:op.op=.call { callee:=.builtin .append,args:=#[s,x],argTypes:=#[28,28] })
  (B c:Nat) (v:Value) (a0:Option Addr) (xs ys:List Int) (hs:act.eval s=v) (hx:act.eval x=.slice a0 ys.length c) (hv:OwnI w B v xs) (hy:Sl w a0 ys) (hn:xs.length+ys.length<=4000000) (hB:B<=w.heap.size)
  (h:∀ v' w',OwnI w' B v' (xs ++ ys)->w.grownBy w' v.ownBlock->(v'.ownBlock=v.ownBlock\/v'.ownBlock=some w.heap.size)->wpList Tryz.prog ops Q rest (act.put op.dst v') w'):
  wpList Tryz.prog ops Q (op :: rest) act w:=by
 obtain ⟨v',w',h1,h2,h3,h4⟩:=qd1 w op.type B c v a0 xs ys hv hy hn hB;refine wpList_plain hgd fun K hK=>?_;unfold Oper.wp execOp;simp only [ho,resolve,invoke,builtin,Sem.run_bind,Sem.run_pure,Result.andThen_ok,List.map_toArray,List.map_cons,List.map_nil,hs,hx,h1];exact hK _ _ (h v' w' h2 h3 h4)
theorem qcx (w:World):OwnI (w.alloc (.cells #[] 3)) w.heap.size (.slice (some ⟨w.heap.size,0,none⟩) 0 0) []:=
 World.ownsRow_made (base:=w.heap.size) (e:=3) (size:=1) w #[] 0 (Nat.le_refl _) (by unfold maxLen;omega) rfl
theorem qdi {ops:Array Oper} {rest:List Oper} {op:Oper} {act:Act} {Q:Exit->Act->World->Prop} (w:World) {N:Nat} (hN:N=w.heap.size) (hgd:op.guard=none) (s x:Operand)
  (ho:op.op=.call { callee:=.builtin .append,args:=#[s,x],argTypes:=#[28,28] })
  (c:Nat) (a0:Option Addr) (ys:List Int) (hs:act.eval s=.slice (some ⟨N,0,none⟩) 0 0) (hx:act.eval x=.slice a0 ys.length c) (hy:Sl w a0 ys) (hn:ys.length<=1048576)
  (h:∀ v' w',OwnI w' w.heap.size v' ys->Below w.heap.size w w'->wpList Tryz.prog ops Q rest (act.put op.dst v') w'):
  wpList Tryz.prog ops Q (op :: rest) act (w.alloc (.cells #[] 3)):=by
 subst hN;have hb:Below w.heap.size w (w.alloc (.cells #[] 3)):=(Below.refl _ _).alloc (Nat.le_refl _) _;refine qba _ hgd s x ho w.heap.size c (.slice (some ⟨w.heap.size,0,none⟩) 0 0) a0 [] ys hs hx (qcx w) (hy.below hb) (by simp;omega) (by simp) ?_;intro v' w' o g _;exact h v' w' (by simpa using o) (hb.grown g (by simp) (fun k hk=>by cases hk;exact Nat.le_refl _))
def STOP (p:Prop):Prop:=p
theorem qdj {P:Program} {ops:Array Oper} {rest:List Oper} {op:Oper} {act:Act} {Q:Exit->Act->World->Prop} {w:World} {a:Array Operand} {t:Array TypeId} (_:op.op=.call { callee:=.builtin .append,args:=a,argTypes:=t }) (h:STOP (wpList P ops Q (op :: rest) act w)):wpList P ops Q (op :: rest) act w:=h
theorem qfe (a0:Option Addr) (cap:Nat) (xs:List Int) (w:World) (hlen:xs.length<=1048576) (h:Sl w a0 xs):
  Calls Tryz.prog 138 #[.slice a0 xs.length cap] w fun e w'=>∃ v,e=.returned v/\OwnI w' w.heap.size v xs/\Below w.heap.size w w':=by
 cases a0 with
 | none=>
  have h0:xs=[]:=by
   rcases h with h0 | ⟨b,off,e,_⟩
   ·exact h0
   ·cases e
  subst h0;have he:∀ wx:World,(binOp .eql 28 (.slice none 0 cap) (.slice none 0 0)).run Tryz.prog wx=.ok (.bool true) wx:=fun wx=>by kernel_rfl
  go_enter Tryz.func138,Tryz.ntmps138
  go_wp2;go_ret;exact ⟨_,rfl,World.ownsRow_nil _ _ _ _,Below.refl _ _⟩
 | some a=>
  have HS:Hid (Sl w (some a) xs):=h;have he:∀ wx:World,(binOp .eql 28 (.slice (some a) xs.length cap) (.slice none 0 0)).run Tryz.prog wx=.ok (.bool false) wx:=fun wx=>by kernel_rfl
  clear h
  go_enter Tryz.func138,Tryz.ntmps138
  go_wp2_with (at_builtin;refine qba _ rfl _ _ rfl w.heap.size cap (.slice (some ⟨w.heap.size,0,none⟩) 0 0) (some a) [] xs rfl rfl (qcx w) (HS.out.below ((Below.refl _ _).alloc (Nat.le_refl _) _)) (by simp;omega) (by simp) ?_;intro v' w1 o1 g1 _;have HF:Hid (OwnI w1 w.heap.size v' xs/\Below w.heap.size w w1):=⟨by simpa using o1,((Below.refl _ _).alloc (Nat.le_refl _) _).grown g1 (by simp) (fun k hk=>by cases hk;exact Nat.le_refl _)⟩;clear o1 g1)
  go_ret;exact ⟨_,rfl,HF.out⟩
theorem qfg (p code:Int) (ra oa:Option Addr) (rc oc:Nat) (rs os:List Int) (w:World) (hr:rs.length<=1048576) (ho:os.length<=1048576) (h1:Sl w ra rs) (h2:Sl w oa os):
  Calls Tryz.prog 139 #[stV p ra rs.length rc oa os.length oc code] w fun e w'=>∃ v,e=.returned v/\qag w' w.heap.size v p rs os code/\Below w.heap.size w w':=by
 have H1:Hid (Sl w ra rs):=h1;have H2:Hid (Sl w oa os):=h2;clear h1 h2
 go_enter Tryz.func139,Tryz.ntmps139
 go_wp2_with fail
 refine (qfe ra rc rs _ hr (H1.out.below (by go_grown))).mono ?_;rintro e w1 ⟨v1,rfl,o1,b1⟩;have B1:Hid (Below w.heap.size w w1):=qai (by go_grown) b1 (by simp;omega);obtain ⟨hc1,hf1⟩:=qap b1;have y1:w.heap.size+1<w1.heap.size:=by have:=b1.size;simp at this;omega
 have y0:w.heap.size<w1.heap.size:=by omega
 obtain ⟨ra1,rc1,rfl,_⟩:=o1.form;have s0:w1.cell? ⟨w.heap.size,0,none⟩=some (.int .i64 p):=by rw [hc1 _ _ (by simp;omega)];simp
 have s1:w1.cell? ⟨w.heap.size,1,none⟩=some (.slice ra rs.length rc):=by rw [hc1 _ _ (by simp;omega)];simp
 have s2:w1.cell? ⟨w.heap.size,2,none⟩=some (.slice oa os.length oc):=by rw [hc1 _ _ (by simp;omega)];simp
 have s3:w1.cell? ⟨w.heap.size,3,none⟩=some (.int .i64 code):=by rw [hc1 _ _ (by simp;omega)];simp
 have L1:Hid (∀ k,(Value.slice ra1 rs.length rc1).ownBlock=some k->w.heap.size+1<k/\k<w1.heap.size):=fun k hk=>by have:=o1.lt k hk;simp at this;omega
 have BS:Hid (Below w.heap.size w (w1.setCell ⟨w.heap.size,1,none⟩ (.slice ra1 rs.length rc1))):=B1.out.setCell (by simp) _
 have O1:Hid (OwnI (w1.setCell ⟨w.heap.size,1,none⟩ (.slice ra1 rs.length rc1)) (w.heap.size+1+1) (.slice ra1 rs.length rc1) rs):=by
  simp only [World.size_alloc] at o1;exact o1.setBelow (by simp;omega) _
 clear o1 b1 B1;go_wp2_with fail
 refine (qfe oa oc os _ ho (H2.out.below BS.out)).mono ?_;rintro e w2 ⟨v2,rfl,o2,b2⟩;have B2:Hid (Below w.heap.size w w2):=qai BS.out b2 (by simp;omega);obtain ⟨hc2,hf2⟩:=qap b2;obtain ⟨oa2,oc2,rfl,_⟩:=o2.form;have O1':Hid (OwnI w2 (w.heap.size+1+1) (.slice ra1 rs.length rc1) rs):=O1.out.below b2;simp only [World.size_setCell] at o2;have O2:Hid (OwnI w2 w1.heap.size (.slice oa2 os.length oc2) os):=o2;clear o2 b2 BS O1;go_wp2;refine bodyPost_ret (v:=stV p ra1 rs.length rc1 oa2 os.length oc2 code) (by simp [results,Tryz.results139,go_sem,hc2,y1,hc1]) rfl ⟨_,rfl,⟨_,_,rfl,?_,?_,?_⟩,?_⟩
 ·refine OwnI.mono (B:=w.heap.size+1+1) ?_ (by omega)
  repeat (refine OwnI.setBelow ?_ (by simp<;>omega) _)
  exact O1'.out
 ·refine OwnI.mono (B:=w1.heap.size) ?_ (by omega)
  repeat (refine OwnI.setBelow ?_ (by simpa using by omega) _)
  exact O2.out
 ·intro k hk hk'
  have h1:=L1.out k hk;have h2:=O2.out.lt k hk';omega
 ·have:=B2.out
  go_grown
theorem qbw (p code:Int) (ra oa:Option Addr) (rc oc:Nat) (rs os:List Int) (w:World) (hr:rs.length<=1048576) (ho:os.length<=1048576) (h1:Sl w ra rs) (h2:Sl w oa os):
  Calls Tryz.prog 108 #[stV p ra rs.length rc oa os.length oc code] w fun e w'=>∃ v,e=.returned v/\qag w' w.heap.size v p rs os code/\Below w.heap.size w w':=by
 have H1:Hid (Sl w ra rs):=h1;have H2:Hid (Sl w oa os):=h2;clear h1 h2
 go_enter Tryz.func108,Tryz.ntmps108
 go_wp2_with (at_builtin;refine qdj rfl ?_)
 unfold STOP;refine qdi _ (N:=w.heap.size+1+1) (by simp) rfl _ _ rfl rc ra rs rfl rfl (H1.out.below (by go_grown)) hr ?_;intro v1 w1 o1 b1;have B1:Hid (Below w.heap.size w w1):=qai (by go_grown) b1 (by simp;omega);obtain ⟨hc1,hf1⟩:=qap b1;have y1:w.heap.size+1<w1.heap.size:=by have:=b1.size;simp at this;omega
 have y0:w.heap.size<w1.heap.size:=by omega
 obtain ⟨ra1,rc1,rfl,_⟩:=o1.form;have s0:w1.cell? ⟨w.heap.size,0,none⟩=some (.int .i64 p):=by rw [hc1 _ _ (by simp;omega)];simp
 have s1:w1.cell? ⟨w.heap.size,1,none⟩=some (.slice ra rs.length rc):=by rw [hc1 _ _ (by simp;omega)];simp
 have s2:w1.cell? ⟨w.heap.size,2,none⟩=some (.slice oa os.length oc):=by rw [hc1 _ _ (by simp;omega)];simp
 have s3:w1.cell? ⟨w.heap.size,3,none⟩=some (.int .i64 code):=by rw [hc1 _ _ (by simp;omega)];simp
 have L1:Hid (∀ k,(Value.slice ra1 rs.length rc1).ownBlock=some k->w.heap.size+1<k/\k<w1.heap.size):=fun k hk=>by have:=o1.lt k hk;simp at this;omega
 have BS:Hid (Below w.heap.size w (w1.setCell ⟨w.heap.size,1,none⟩ (.slice ra1 rs.length rc1))):=B1.out.setCell (by simp) _
 have O1:Hid (OwnI (w1.setCell ⟨w.heap.size,1,none⟩ (.slice ra1 rs.length rc1)) (w.heap.size+1+1) (.slice ra1 rs.length rc1) rs):=by
  simp only [World.size_alloc] at o1;exact o1.setBelow (by simp;omega) _
 clear o1 b1 B1;go_wp2_with (at_builtin;refine qdj rfl ?_)
 unfold STOP;refine qdi (w1.setCell ⟨w.heap.size,1,none⟩ (.slice ra1 rs.length rc1)) (N:=w1.heap.size) (by simp) rfl _ _ rfl oc oa os rfl rfl (H2.out.below BS.out) ho ?_;intro v2 w2 o2 b2;have B2:Hid (Below w.heap.size w w2):=qai BS.out b2 (by simp;omega);obtain ⟨hc2,hf2⟩:=qap b2;obtain ⟨oa2,oc2,rfl,_⟩:=o2.form;have O1':Hid (OwnI w2 (w.heap.size+1+1) (.slice ra1 rs.length rc1) rs):=O1.out.below b2;simp only [World.size_setCell] at o2;have O2:Hid (OwnI w2 w1.heap.size (.slice oa2 os.length oc2) os):=o2;clear o2 b2 BS O1;go_wp2;refine bodyPost_ret (v:=stV p ra1 rs.length rc1 oa2 os.length oc2 code) (by simp [results,Tryz.results108,go_sem,hc2,y1,hc1]) rfl ⟨_,rfl,⟨_,_,rfl,?_,?_,?_⟩,?_⟩
 ·refine OwnI.mono (B:=w.heap.size+1+1) ?_ (by omega)
  repeat (refine OwnI.setBelow ?_ (by simp<;>omega) _)
  exact O1'.out
 ·refine OwnI.mono (B:=w1.heap.size) ?_ (by omega)
  repeat (refine OwnI.setBelow ?_ (by simpa using by omega) _)
  exact O2.out
 ·intro k hk hk'
  have h1:=L1.out k hk;have h2:=O2.out.lt k hk';omega
 ·have:=B2.out
  go_grown
open Go
section
variable {P:Program} {ops:Array Oper} {Q:Exit->Act->World->Prop} {md:Region.Mode} {S:World->Prop} {G:Nat->Bool}
def wpG (P:Program) (md:Region.Mode) (ops:Array Oper) (Q:Exit->Act->World->Prop) (S:World->Prop) (G:Nat->Bool):Nat->Array Bool->Act->World->Prop
 | 0,listed,a,w=>Region.ready md ops listed=[]/\Q .normal a w
 | fuel+1,listed,a,w=>(Region.ready md ops listed=[]->Q .normal a w)/\∀ i ∈ Region.ready md ops listed,wpOp P ops Q i (fun a' w'=>(S w->G i=false->S w')/\wpG P md ops Q S G fuel (listed.setIfInBounds i true) a' w') a w
theorem qj6:∀ (fuel:Nat) (listed:Array Bool) (a:Act) (w:World),wpG P md ops Q S G fuel listed a w->wpAny P md ops Q fuel listed a w
 | 0,_,_,_,h=>h
 | fuel+1,_,_,_,h=>⟨h.1,fun i hi=>wpOp_mono (fun a' w' h'=>qj6 fuel _ a' w' h'.2) (h.2 i hi)⟩
def qt2 (md:Region.Mode) (ops:Array Oper) (G:Nat->Bool) (listed:Array Bool) (i:Nat):Bool:=
 (List.range ops.size).all fun j=>!G j || listed.getD j true || match ops[j]? with
  | some oj=>oj.after.any fun e=>Region.binds md e && e.on == i
  | none=>true
theorem qt3 {listed:Array Bool} {i:Nat} (h:qt2 md ops G listed i=true) {j:Nat} {oj:Oper} (hj:ops[j]? = some oj) (hg:G j=true) (hu:listed.getD j true=false):∃ e ∈ oj.after,Region.binds md e=true/\e.on=i:=by
 simp only [qt2,List.all_eq_true,List.mem_range] at h;have h1:=h j (Array.getElem?_eq_some_iff.1 hj).1;simp only [hj,hg,hu,Bool.not_true,Bool.false_or] at h1;obtain ⟨e,he,hb⟩:=Array.any_eq_true'.1 h1;simp only [Bool.and_eq_true,beq_iff_eq] at hb;exact ⟨e,he,hb.1,hb.2⟩
theorem qvz {i:Nat} {oi:Oper} {v:Value} (hi:ops[i]? = some oi) (hsel:∀ (j:Nat) (o:Oper) cs b,ops[j]? = some o->o.op≠.select cs b)
  (hQ:∀ c a w,Q (.panic c) (a.put oi.dst v) w->Q (.panic c) a w):
  ∀ (fuel:Nat) (listed:Array Bool) (a:Act) (w:World),
   (∀ j oj,ops[j]? = some oj->j≠i->listed.getD j true=false->(∀ e ∈ oj.after,Region.binds md e=true->e.on≠i)->oi.apart ops oj=true)->
   (∀ j oj,ops[j]? = some oj->G j=true->listed.getD j true=false->∃ e ∈ oj.after,Region.binds md e=true/\e.on=i)->
   i ∈ Region.ready md ops listed->YieldsIf P ops S oi v a->S w->
   wpG P md ops Q S G fuel (listed.setIfInBounds i true) (a.put oi.dst v) w->wpG P md ops Q S G (fuel+1) listed a w:=by
 intro fuel
 induction fuel with
 | zero=>
  intro listed a w _ _ hr hy hS H;refine ⟨fun h=>(by rw [h] at hr;cases hr),fun j hj=>?_⟩;by_cases hji:j=i
  ·subst hji
   exact hy.wpOp hi hS ⟨fun _ _=>hS,H⟩
  ·have:=ready_mono hj hji
   rw [H.1] at this;cases this
 | succ fuel ih=>
  intro listed a w hfree hG hr hy hS H;refine ⟨fun h=>(by rw [h] at hr;cases hr),fun j hj=>?_⟩;by_cases hji:j=i
  ·subst hji
   exact hy.wpOp hi hS ⟨fun _ _=>hS,H⟩
  ·obtain ⟨hjun,oj,hoj,hall⟩:=mem_ready.1 hj
   have hiun:=(mem_ready.1 hr).1
   have hnot:∀ e ∈ oj.after,Region.binds md e=true->e.on≠i:=fun e he hb heq=>by
    have h1:=hall e he hb;rw [heq] at h1
    rcases Nat.lt_or_ge i listed.size with h' | h'
    ·simp [h'] at hiun h1
     rw [hiun] at h1;cases h1
    ·simp [Array.getElem?_eq_none h'] at h1
   have hGj:G j=false:=by
    cases hg:G j with
    | false=>rfl
    | true=>
     obtain ⟨e,he,hb,heq⟩:=hG j oj hoj hg hjun;exact absurd heq (hnot e he hb)
   have h2:=wpOp_putIf hoj (hfree j oj hoj hji hjun hnot) (fun cs b=>hsel i oi cs b hi) (fun cs b=>hsel j oj cs b hoj) hQ hy (H.2 j (ready_mono hj hji))
   have hun':∀ k,(listed.setIfInBounds j true).getD k true=false->listed.getD k true=false:=fun k hk=>by
    by_cases hjk:j=k
    ·subst hjk
     exact hjun
    ·rw [_root_.Go.getD_set_ne true hjk] at hk
     exact hk
   refine wpOp_mono (fun a' w' h3=>⟨h3.2.1,ih (listed.setIfInBounds j true) a' w' (fun k ok hk hki hun hno=>hfree k ok hk hki (hun' k hun) hno) (fun k ok hk hg hun=>hG k ok hk hg (hun' k hun)) (ready_mono hr (Ne.symm hji)) h3.1 (h3.2.1 hS hGj) ?_⟩) h2;rw [Array.setIfInBounds_comm _ _ hji];exact h3.2.2
theorem qr3 (i:Nat) {oi:Oper} {fuel:Nat} {listed:Array Bool} {a:Act} {w:World} (hi0:ops.toList[i]? = some oi) (hS:S w)
  (h:∃ v,(∀ w,S w->(execOp a.eval oi).run P w=.ok (.value v) w)/\wpG P md ops Q S G fuel (listed.setIfInBounds i true) (a.put oi.dst v) w) (hs:Region.noSelect ops=true:=by kernel_rfl) (hf:Region.free md ops listed i=true:=by kernel_rfl) (hr:(Region.ready md ops listed).contains i=true:=by kernel_rfl) (hg:qt2 md ops G listed i=true:=by kernel_rfl)
  (hQ:∀ v c a w,Q (.panic c) (a.put oi.dst v) w->Q (.panic c) a w:=by exact fun _ _ _ _ h=>h) (hw:Region.wanted oi (yielded ops a.tmps)=true:=by rfl):wpG P md ops Q S G (fuel+1) listed a w:=by
 obtain ⟨v,hv,h⟩:=h;have hi:ops[i]? = some oi:=by rw [<- Array.getElem?_toList];exact hi0
 exact qvz hi (Region.noSelect_spec hs) (hQ v) fuel listed a w (Region.free_spec hi hf) (fun j oj hj hgj hu=>qt3 hg hj hgj hu) (by simpa using hr) (.inl ⟨hw,hv⟩) hS h
theorem qi2 (i:Nat) {oi:Oper} {fuel:Nat} {listed listed':Array Bool} {a a':Act} {w:World} {v:Value} (hi0:ops.toList[i]? = some oi) (hS:S w)
  (h:wpG P md ops Q S G fuel listed' a' w) (hv:∀ w,S w->(execOp a.eval oi).run P w=.ok (.value v) w:=by (intro wq hSw;(try dsimp only at hSw);(try dsimp only [SysIn.bX] at hSw);(try dsimp only [BoxC] at hSw);(try simp only [BoxS] at hSw);(try simp only [BoxF_iff] at hSw);go_simp;try with_reducible rfl)) (ha:a.put oi.dst v=a':=by ((try simp only [Act.put,zD,zE,zF]);try with_reducible rfl)) (hl:listed.setIfInBounds i true=listed':=by with_reducible rfl) (hs:Region.noSelect ops=true:=by kernel_rfl) (hf:Region.free md ops listed i=true:=by kernel_rfl) (hr:(Region.ready md ops listed).contains i=true:=by kernel_rfl) (hg:qt2 md ops G listed i=true:=by kernel_rfl)
  (hQ:∀ v c a w,Q (.panic c) (a.put oi.dst v) w->Q (.panic c) a w:=by exact fun _ _ _ _ h=>h) (hw:Region.wanted oi (yielded ops a.tmps)=true:=by rfl):wpG P md ops Q S G (fuel+1) listed a w:=by
 subst ha hl;exact qr3 i hi0 hS ⟨v,hv,h⟩ hs hf hr hg hQ hw
def wpGT (P:Program) (md:Region.Mode) (ops:Array Oper) (Q:Exit->Act->World->Prop) (S:World->Prop) (G:Nat->Bool) (_:List Nat) (fuel:Nat) (listed:Array Bool) (a:Act) (w:World):Prop:=wpG P md ops Q S G fuel listed a w
theorem qc8 (is:List Nat) {fuel:Nat} {listed:Array Bool} {a:Act} {w:World} (h:wpGT P md ops Q S G is fuel listed a w):wpG P md ops Q S G fuel listed a w:=h
theorem qcl {fuel:Nat} {listed:Array Bool} {a:Act} {w:World} (h:wpG P md ops Q S G fuel listed a w):wpGT P md ops Q S G [] fuel listed a w:=h
theorem qy9 {i:Nat} {is:List Nat} {oi:Oper} {fuel:Nat} {listed:Array Bool} {a:Act} {w:World} (hi0:ops.toList[i]? = some oi) (hS:S w)
  (h:∃ v,(∀ w,S w->(execOp a.eval oi).run P w=.ok (.value v) w)/\wpGT P md ops Q S G is fuel (listed.setIfInBounds i true) (a.put oi.dst v) w) (hs:Region.noSelect ops=true:=by kernel_rfl) (hf:Region.free md ops listed i=true:=by kernel_rfl) (hr:(Region.ready md ops listed).contains i=true:=by kernel_rfl) (hg:qt2 md ops G listed i=true:=by kernel_rfl)
  (hQ:∀ v c a w,Q (.panic c) (a.put oi.dst v) w->Q (.panic c) a w:=by exact fun _ _ _ _ h=>h) (hw:Region.wanted oi (yielded ops a.tmps)=true:=by rfl):wpGT P md ops Q S G (i :: is) (fuel+1) listed a w:=qr3 i hi0 hS h hs hf hr hg hQ hw
theorem qeu {i:Nat} {is:List Nat} {oi:Oper} {fuel:Nat} {listed listed':Array Bool} {a a':Act} {w:World} {v:Value} (hi0:ops.toList[i]? = some oi) (hS:S w)
  (h:wpGT P md ops Q S G is fuel listed' a' w) (hv:∀ w,S w->(execOp a.eval oi).run P w=.ok (.value v) w:=by (intro wq hSw;(try dsimp only at hSw);(try dsimp only [SysIn.bX] at hSw);(try dsimp only [BoxC] at hSw);(try simp only [BoxS] at hSw);(try simp only [BoxF_iff] at hSw);go_simp;try with_reducible rfl)) (ha:a.put oi.dst v=a':=by ((try simp only [Act.put,zD,zE,zF]);try with_reducible rfl)) (hl:listed.setIfInBounds i true=listed':=by with_reducible rfl) (hs:Region.noSelect ops=true:=by kernel_rfl) (hf:Region.free md ops listed i=true:=by kernel_rfl) (hr:(Region.ready md ops listed).contains i=true:=by kernel_rfl) (hg:qt2 md ops G listed i=true:=by kernel_rfl)
  (hQ:∀ v c a w,Q (.panic c) (a.put oi.dst v) w->Q (.panic c) a w:=by exact fun _ _ _ _ h=>h) (hw:Region.wanted oi (yielded ops a.tmps)=true:=by rfl):wpGT P md ops Q S G (i :: is) (fuel+1) listed a w:=qi2 i hi0 hS h hv ha hl hs hf hr hg hQ hw
theorem qar (i:Nat) {oi:Oper} {fuel:Nat} {listed:Array Bool} {a:Act} {w:World} (hi0:ops.toList[i]? = some oi) (hr:Region.ready md ops listed=[i])
  (h:∀ K':Act->World->Prop,Shut (∀ a w,(G i=false->S w)->wpG P md ops Q S G fuel (listed.setIfInBounds i true) a w->K' a w)->if Region.wanted oi (yielded ops a.tmps)=true then Oper.wp P oi a w K' Q else K' (a.put oi.dst undef) w):wpG P md ops Q S G (fuel+1) listed a w:=
 ⟨fun h0 => (by rw [hr] at h0; cases h0), fun j hj => by
  rw [hr] at hj;obtain rfl:=List.mem_singleton.1 hj;have hi:ops[j]? = some oi:=by rw [<- Array.getElem?_toList];exact hi0
  exact wpOp_step hi fun K' hK=>h K' fun a w h1 h2=>hK a w ⟨fun _=>h1,h2⟩⟩
theorem qv0 (i j:Nat) {oi oj:Oper} {fuel:Nat} {listed:Array Bool} {a:Act} {w:World} (hi0:ops.toList[i]? = some oi) (hj0:ops.toList[j]? = some oj) (hr:Region.ready md ops listed=[i,j])
  (h:∀ K':Act->World->Prop,Shut (∀ a w,(G i=false->S w)->wpG P md ops Q S G fuel (listed.setIfInBounds i true) a w->K' a w)->if Region.wanted oi (yielded ops a.tmps)=true then Oper.wp P oi a w K' Q else K' (a.put oi.dst undef) w)
  (h':∀ K':Act->World->Prop,Shut (∀ a w,(G j=false->S w)->wpG P md ops Q S G fuel (listed.setIfInBounds j true) a w->K' a w)->if Region.wanted oj (yielded ops a.tmps)=true then Oper.wp P oj a w K' Q else K' (a.put oj.dst undef) w):wpG P md ops Q S G (fuel+1) listed a w:=
 ⟨fun h0 => (by rw [hr] at h0; cases h0), fun k hk => by
  rw [hr] at hk;have hi:ops[i]? = some oi:=by rw [<- Array.getElem?_toList];exact hi0
  have hj:ops[j]? = some oj:=by rw [<- Array.getElem?_toList];exact hj0
  rcases List.mem_cons.1 hk with rfl | hk
  ·exact wpOp_step hi fun K' hK=>h K' fun a w h1 h2=>hK a w ⟨fun _=>h1,h2⟩
  ·obtain rfl:=List.mem_singleton.1 hk
   exact wpOp_step hj fun K' hK=>h' K' fun a w h1 h2=>hK a w ⟨fun _=>h1,h2⟩⟩
theorem qbx {listed:Array Bool} {a:Act} {w:World} (hr:Region.ready md ops listed=[]) (h:Q .normal a w):∀ fuel,wpG P md ops Q S G fuel listed a w
 | 0=>⟨hr,h⟩
 | _+1=>⟨fun _=>h,by rw [hr];simp⟩
theorem qa7 {id:Nat} {a:Act} {w:World} (S:World->Prop) (G:Nat->Bool) (hm:P.follows .mixedOrders=true) (h:wpG P .any ops Q S G ops.size (Array.replicate ops.size false) a w.drew):(Code.region id ops true).wp P Q a w:=
 wp_region_any hm (qj6 _ _ _ _ h)
end
