/- Proved: whatever bytes are drawn by, a drawn system that is packed is read from its bytes with the same events and states, and drawn bytes that are read are those of the system that comes of them; nothing is written into what came in. One condition, tied to the program's text: errors.errorType holds what its text lays. -/
import Derived.Test.YtbgfjbgdiifghaaGreatDoorZn26
import Derived.Test.YtbgfjbgdiifghaaGreatDoorZn27
import Derived.Test.YtbgfjbgdiifghaaGreatDoorZn25
import Derived.Test.YtbgfjbgdiifghaaGreatDoorCards
namespace Go.Proofs.YtbgfjbgdiifghaaGreatDoor
open Go.Proofs.Tryz
set_option maxRecDepth 100000
set_option maxHeartbeats 8000000
open Go.RowKit Go.Deep
structure Mc (w:World) (C W0:Nat) (a0:Option Addr) (cap:Nat) (ys:List Int) (j:Nat):Prop where
 c0:w.cell? (aQ C 0)=some (.slice a0 ys.length cap)
 c1:w.cell? (aQ C 1)=some (iV (psN (nmA ys) (min j (nmA ys).length):Nat))
 c2:w.cell? (aQ C 2)=some (.bool (decide (j<=(nmA ys).length)))
 fr:∀ i,w.frozen? ⟨C,i,none⟩=false
 ge:W0<=C
 ap:∀ b o,a0=some ⟨b,o,none⟩->b<W0
 sl:SlB w a0 ys
theorem Mc.lt {w:World} {C W0 cap j:Nat} {a0:Option Addr} {ys:List Int} (h:Mc w C W0 a0 cap ys j):C<w.heap.size:=zJ w _ h.c0
theorem Mc.bw {w w':World} {C W0 cap j:Nat} {a0:Option Addr} {ys:List Int} (h:Mc w C W0 a0 cap ys j) (hb:Bw w w'):Mc w' C W0 a0 cap ys j:=by
 have hk:=hb.block C h.lt;exact ⟨(zH hk).trans h.c0,(zH hk).trans h.c1,(zH hk).trans h.c2,fun i=>(zI hk).trans (h.fr i),h.ge,h.ap,h.sl.bw hb⟩
theorem Mc.drew {w:World} {C W0 cap j:Nat} {a0:Option Addr} {ys:List Int} (h:Mc w C W0 a0 cap ys j):Mc w.drew C W0 a0 cap ys j:=⟨h.c0,h.c1,h.c2,h.fr,h.ge,h.ap,h.sl⟩
theorem Mc.kept {w w':World} {C W0 cap j:Nat} {a0:Option Addr} {ys:List Int} {row:Option Nat} (h:Mc w C W0 a0 cap ys j) (hg:w.grownBy w' row) (hr:∀ i,row=some i->W0<=i/\i≠C):Mc w' C W0 a0 cap ys j:=by
 have hk:=hg.block C h.lt (fun e=>(hr C e.symm).2 rfl);refine ⟨(zH hk).trans h.c0,(zH hk).trans h.c1,(zH hk).trans h.c2,fun i=>(zI hk).trans (h.fr i),h.ge,h.ap,h.sl.kept h.ap (fun b hb=>hg.block b (by have:=h.lt;have:=h.ge;omega) (fun e=>by have:=(hr b e.symm).1;omega)) hg.size⟩
theorem qzf {N:List Int} {k:Nat} (h:N.length<=k):zi N k=0:=by
 unfold zi;rw [List.getD_eq_getElem?_getD,List.getElem?_eq_none h];rfl
theorem Mc.next {w:World} {C W0 cap j:Nat} {a0:Option Addr} {ys:List Int} (h:Mc w C W0 a0 cap ys j) (hk:j<(nmA ys).length):Mc (w.setCell (aQ C 1) (iV ((psN (nmA ys) (j+1):Nat):Int))) C W0 a0 cap ys (j+1):=by
 have hlt:=h.lt;obtain ⟨c0,c1,c2,fr,ge,ap,sl⟩:=h;refine ⟨by go_cell,?_,?_,fun i=>by simpa using fr i,ge,ap,sl.kept ap (fun b hb=>zO w ⟨C,1,none⟩ _ b (fun e=>by simp at e;omega)) (by simp)⟩
 ·rw [Nat.min_eq_left hk]
  go_cell
 ·rw [decide_eq_true (by omega)] at c2
  rw [decide_eq_true (by omega)]
  go_cell
theorem Mc.stop {w:World} {C W0 cap j:Nat} {a0:Option Addr} {ys:List Int} (h:Mc w C W0 a0 cap ys j) (hk:(nmA ys).length<=j):Mc (w.setCell (aQ C 2) (.bool false)) C W0 a0 cap ys (j+1):=by
 have hlt:=h.lt;obtain ⟨c0,c1,c2,fr,ge,ap,sl⟩:=h;refine ⟨by go_cell,?_,?_,fun i=>by simpa using fr i,ge,ap,sl.kept ap (fun b hb=>zO w ⟨C,2,none⟩ _ b (fun e=>by simp at e;omega)) (by simp)⟩
 ·rw [Nat.min_eq_right hk] at c1
  rw [Nat.min_eq_right (by omega)]
  go_cell
 ·rw [decide_eq_false (by omega)]
  go_cell
theorem qql (a0:Option Addr) (cap C W0 j:Nat) (ys:List Int) (w:World) (hlen:ys.length<=1048576) (hb:By ys) (h:Mc w C W0 a0 cap ys j):
  Calls prog 33 #[.pointer (some (aQ C 0))] w fun e w'=>e=.returned (iV (zi (nmA ys) j))/\Mc w' C W0 a0 cap ys (j+1)/\w.grownBy w' (some C):=by
 have HR:Hid (Mc w C W0 a0 cap ys j):=h;by_cases hk:j<(nmA ys).length
 ·skip
  have HG:Hid (∀ wx,SlB wx a0 ys->Calls prog 68 #[.slice a0 ys.length cap,iV (psN (nmA ys) (min j (nmA ys).length):Nat)] wx (rB wx (.tuple #[iV (zi (nmA ys) j),iV ((psN (nmA ys) (j+1):Nat):Int),.bool true]))):=fun wx hx=>by
   have h1:=qe9 a0 cap ys (psN (nmA ys) (min j (nmA ys).length):Nat) wx hlen hx hb;rw [Nat.min_eq_left (nJ hk),qu4 hb (nJ hk),nC hk] at h1;rw [Nat.min_eq_left (nJ hk)];exact h1
  have HZ:Hid (∀ wx,Mc wx C W0 a0 cap ys j->Mc (wx.setCell ⟨C,1,none⟩ (iV ((psN (nmA ys) (j+1):Nat):Int))) C W0 a0 cap ys (j+1)):=fun wx hx=>hx.next hk;have HC2:Hid (decide (j<=(nmA ys).length)=true):=decide_eq_true (nJ hk);clear hk hb hlen h
  go_enter func33,ntmps33
  go_upto_region 1 with fail
  refine qag (fun w':World=>w'.cell? (aQ C 0)=some (.slice a0 ys.length cap)/\w'.cell? (aQ C 1)=some (iV (psN (nmA ys) (min j (nmA ys).length):Nat))) (fun _=>false) (by kernel_rfl) ?_;have R0:Hid (Mc w.drew C W0 a0 cap ys j/\w.grownBy w.drew (some C)):=⟨HR.drew,⟨rfl,rfl,rfl,nA _,fun _ _ _=>rfl⟩⟩
  have hHeld:(fun w':World=>w'.cell? (aQ C 0)=some (.slice a0 ys.length cap)/\w'.cell? (aQ C 1)=some (iV (psN (nmA ys) (min j (nmA ys).length):Nat))) w.drew:=⟨R0.1.c0,R0.1.c1⟩
  clear HR;generalize w.drew=w0 at *;refine qar 0 rfl hHeld ?_;refine qar 1 rfl hHeld ?_;refine qar 2 rfl hHeld ?_;refine qar 3 rfl hHeld ?_;refine qar 4 rfl hHeld ?_;refine qar 5 rfl hHeld ?_;refine qar 6 rfl hHeld ?_;refine qar 7 rfl hHeld ?_;clear hHeld;refine yW 8 rfl fun K hK=>?_;refine qc0 rfl 68 _ _ rfl #[.slice a0 ys.length cap,iV (psN (nmA ys) (min j (nmA ys).length):Nat)] (by simp [Act.eval]) (yA func68) (HG.out w0 R0.1.sl) ?_;rintro e w1 ⟨rfl,b1⟩;have R1:Hid (Mc w1 C W0 a0 cap ys j/\w.grownBy w1 (some C)):=⟨R0.1.bw b1,R0.2.andThen (zZ b1) (fun j hj=>by cases hj)⟩
  refine ⟨_,rfl,?_⟩;refine hK.out _ _ (fun _=>⟨R1.1.c0,R1.1.c1⟩) ?_;clear hK K b1 HG R0
  (try simp only [Act.put,zD,zE,zF])
  have hHeld:(fun w':World=>w'.cell? (aQ C 0)=some (.slice a0 ys.length cap)/\w'.cell? (aQ C 1)=some (iV (psN (nmA ys) (min j (nmA ys).length):Nat))) w1:=⟨R1.1.c0,R1.1.c1⟩
  refine qar 9 rfl hHeld ?_;refine qar 10 rfl hHeld ?_;refine qar 11 rfl hHeld ?_;refine qar 12 rfl hHeld ?_;refine qar 13 rfl hHeld ?_;refine qar 14 rfl hHeld ?_;refine qar 15 rfl hHeld ?_;refine yX ?_ _;clear hHeld;have c1:=R1.1.c1;have c2:=R1.1.c2;have fr:=R1.1.fr;rw [HC2.out] at c2;go_wp2;go_ret;exact ⟨rfl,HZ.out w1 R1.1,zV R1.2 (.inl rfl) _⟩
 ·skip
  have HG:Hid (∀ wx,SlB wx a0 ys->Calls prog 68 #[.slice a0 ys.length cap,iV (psN (nmA ys) (min j (nmA ys).length):Nat)] wx (rB wx (.tuple #[iV 0,iV 0,.bool false]))):=fun wx hx=>by
   have h1:=qe9 a0 cap ys (psN (nmA ys) (min j (nmA ys).length):Nat) wx hlen hx hb;rw [Nat.min_eq_right (Nat.le_of_not_lt hk),qu4 hb (nA _),nB (Nat.lt_irrefl _)] at h1;rw [Nat.min_eq_right (Nat.le_of_not_lt hk)];exact h1
  have HZ:Hid (∀ wx,Mc wx C W0 a0 cap ys j->Mc (wx.setCell ⟨C,2,none⟩ (.bool false)) C W0 a0 cap ys (j+1)):=fun wx hx=>hx.stop (Nat.le_of_not_lt hk);have HV:Hid (zi (nmA ys) j=0):=qzf (Nat.le_of_not_lt hk);clear hk hb hlen h
  go_enter func33,ntmps33
  go_upto_region 1 with fail
  refine qag (fun w':World=>w'.cell? (aQ C 0)=some (.slice a0 ys.length cap)/\w'.cell? (aQ C 1)=some (iV (psN (nmA ys) (min j (nmA ys).length):Nat))) (fun _=>false) (by kernel_rfl) ?_;have R0:Hid (Mc w.drew C W0 a0 cap ys j/\w.grownBy w.drew (some C)):=⟨HR.drew,⟨rfl,rfl,rfl,nA _,fun _ _ _=>rfl⟩⟩
  have hHeld:(fun w':World=>w'.cell? (aQ C 0)=some (.slice a0 ys.length cap)/\w'.cell? (aQ C 1)=some (iV (psN (nmA ys) (min j (nmA ys).length):Nat))) w.drew:=⟨R0.1.c0,R0.1.c1⟩
  clear HR;generalize w.drew=w0 at *;refine qar 0 rfl hHeld ?_;refine qar 1 rfl hHeld ?_;refine qar 2 rfl hHeld ?_;refine qar 3 rfl hHeld ?_;refine qar 4 rfl hHeld ?_;refine qar 5 rfl hHeld ?_;refine qar 6 rfl hHeld ?_;refine qar 7 rfl hHeld ?_;clear hHeld;refine yW 8 rfl fun K hK=>?_;refine qc0 rfl 68 _ _ rfl #[.slice a0 ys.length cap,iV (psN (nmA ys) (min j (nmA ys).length):Nat)] (by simp [Act.eval]) (yA func68) (HG.out w0 R0.1.sl) ?_;rintro e w1 ⟨rfl,b1⟩;have R1:Hid (Mc w1 C W0 a0 cap ys j/\w.grownBy w1 (some C)):=⟨R0.1.bw b1,R0.2.andThen (zZ b1) (fun j hj=>by cases hj)⟩
  refine ⟨_,rfl,?_⟩;refine hK.out _ _ (fun _=>⟨R1.1.c0,R1.1.c1⟩) ?_;clear hK K b1 HG R0
  (try simp only [Act.put,zD,zE,zF])
  have hHeld:(fun w':World=>w'.cell? (aQ C 0)=some (.slice a0 ys.length cap)/\w'.cell? (aQ C 1)=some (iV (psN (nmA ys) (min j (nmA ys).length):Nat))) w1:=⟨R1.1.c0,R1.1.c1⟩
  refine qar 9 rfl hHeld ?_;refine qar 10 rfl hHeld ?_;refine qar 11 rfl hHeld ?_;refine qar 12 rfl hHeld ?_;refine qar 13 rfl hHeld ?_;refine qar 14 rfl hHeld ?_;refine qar 15 rfl hHeld ?_;refine yX ?_ _;clear hHeld;have c1:=R1.1.c1;have c2:=R1.1.c2;have fr:=R1.1.fr;go_wp2;go_ret;exact ⟨by rw [HV.out];rfl,HZ.out w1 R1.1,zV R1.2 (.inl rfl) _⟩
structure MlI (wr wx:World) (C W0:Nat) (a0:Option Addr) (cap:Nat) (ys:List Int) (v:Value) (j q r:Nat):Prop where
 ow:wx.ownsRow wr.heap.size 45 5 v q (fI (itN (nmA ys) j) q)
 nn:v≠nS
 mc:Mc wx C W0 a0 cap ys r
 gr:wr.grownBy wx (some C)
theorem MlI.call {wr wx w':World} {C W0 cap j q r:Nat} {a0:Option Addr} {ys:List Int} {v:Value} (h:MlI wr wx C W0 a0 cap ys v j q r) (hC:C<wr.heap.size) (hm:Mc w' C W0 a0 cap ys (r+1)) (hg:wx.grownBy w' (some C)):MlI wr w' C W0 a0 cap ys v j q (r+1):=
 ⟨h.ow.kept hg (by
  cases hk:v.ownBlock with
  | none=>exact .inl rfl
  | some k=>
   refine .inr fun e=>?_;have:=(h.ow.lt k hk).1;cases e
   omega),h.nn,hm,h.gr.trans hg⟩
theorem MlI.alloc {wr wx:World} {C W0 cap j q r:Nat} {a0:Option Addr} {ys:List Int} {v:Value} (h:MlI wr wx C W0 a0 cap ys v j q r) (o:Obj):MlI wr (wx.alloc o) C W0 a0 cap ys v j q r:=
 ⟨h.ow.alloc o,h.nn,h.mc.bw (zT _ _),h.gr.andThen (zZ (zT _ _)) (fun j hj=>by cases hj)⟩
theorem MlI.set {wr wx:World} {C W0 cap j q r X i:Nat} {a0:Option Addr} {ys:List Int} {v:Value} (h:MlI wr wx C W0 a0 cap ys v j q r) (hC:C<wr.heap.size) (hX:wr.heap.size<=X) (hv:∀ k,v.ownBlock=some k->k<X) (y:Value):MlI wr (wx.setCell ⟨X,i,none⟩ y) C W0 a0 cap ys v j q r:=by
 have g:wx.grownBy (wx.setCell (aQ X i) y) (some X):=zV (World.grownBy.refl _ _) (.inl rfl) _
 refine ⟨h.ow.kept g (by
  cases hk:v.ownBlock with
  | none=>exact .inl rfl
  | some k=>
   refine .inr fun e=>?_;have:=hv k hk;cases e
   omega),h.nn,h.mc.kept g (fun b e=>by cases e;have:=h.mc.ge;omega),h.gr.andThen g (fun b e=>by cases e;exact .inl hX)⟩
theorem MlI.app {wr wx w':World} {C W0 cap j q r:Nat} {a0:Option Addr} {ys:List Int} {v v':Value} (h:MlI wr wx C W0 a0 cap ys v j q r) (hC:C<wr.heap.size) (ho:w'.ownsRow wr.heap.size 45 5 v' (q+1) (fI (itN (nmA ys) j) (q+1))) (hg:wx.grownBy w' v.ownBlock) (hn:v'≠nS):MlI wr w' C W0 a0 cap ys v' j (q+1) r:=
 ⟨ho,hn,h.mc.kept hg (fun b e=>by have:=(h.ow.lt b e).1;have:=h.mc.ge;omega),h.gr.andThen hg (fun b e=>.inl (h.ow.lt b e).1)⟩
theorem MlI.new {wr wx:World} {C W0 cap j r:Nat} {a0:Option Addr} {ys:List Int} (hm:Mc wx C W0 a0 cap ys r) (hg:wr.grownBy wx (some C)):MlI wr (wx.alloc (.cells #[] 45)) C W0 a0 cap ys (sG wx.heap.size 0 0) j 0 r:=
 ⟨World.ownsRow_made (base:=wr.heap.size) (e:=45) (size:=5) wx #[] 0 hg.size (by unfold maxLen;omega) (by simp),by simp,hm.bw (zT _ _),hg.andThen (zZ (zT _ _)) (fun j hj=>by cases hj)⟩
structure MlE (wr wx:World) (C W0:Nat) (a0:Option Addr) (cap:Nat) (ys:List Int) (v:Value) (j q r:Nat):Prop where
 ow:wx.ownsRow wr.heap.size 49 3 v q (fE (evN (nmA ys) j) q)
 nn:v≠nS
 mc:Mc wx C W0 a0 cap ys r
 gr:wr.grownBy wx (some C)
theorem MlE.call {wr wx w':World} {C W0 cap j q r:Nat} {a0:Option Addr} {ys:List Int} {v:Value} (h:MlE wr wx C W0 a0 cap ys v j q r) (hC:C<wr.heap.size) (hm:Mc w' C W0 a0 cap ys (r+1)) (hg:wx.grownBy w' (some C)):MlE wr w' C W0 a0 cap ys v j q (r+1):=
 ⟨h.ow.kept hg (by
  cases hk:v.ownBlock with
  | none=>exact .inl rfl
  | some k=>
   refine .inr fun e=>?_;have:=(h.ow.lt k hk).1;cases e
   omega),h.nn,hm,h.gr.trans hg⟩
theorem MlE.alloc {wr wx:World} {C W0 cap j q r:Nat} {a0:Option Addr} {ys:List Int} {v:Value} (h:MlE wr wx C W0 a0 cap ys v j q r) (o:Obj):MlE wr (wx.alloc o) C W0 a0 cap ys v j q r:=
 ⟨h.ow.alloc o,h.nn,h.mc.bw (zT _ _),h.gr.andThen (zZ (zT _ _)) (fun j hj=>by cases hj)⟩
theorem MlE.set {wr wx:World} {C W0 cap j q r X i:Nat} {a0:Option Addr} {ys:List Int} {v:Value} (h:MlE wr wx C W0 a0 cap ys v j q r) (hC:C<wr.heap.size) (hX:wr.heap.size<=X) (hv:∀ k,v.ownBlock=some k->k<X) (y:Value):MlE wr (wx.setCell ⟨X,i,none⟩ y) C W0 a0 cap ys v j q r:=by
 have g:wx.grownBy (wx.setCell (aQ X i) y) (some X):=zV (World.grownBy.refl _ _) (.inl rfl) _
 refine ⟨h.ow.kept g (by
  cases hk:v.ownBlock with
  | none=>exact .inl rfl
  | some k=>
   refine .inr fun e=>?_;have:=hv k hk;cases e
   omega),h.nn,h.mc.kept g (fun b e=>by cases e;have:=h.mc.ge;omega),h.gr.andThen g (fun b e=>by cases e;exact .inl hX)⟩
theorem MlE.app {wr wx w':World} {C W0 cap j q r:Nat} {a0:Option Addr} {ys:List Int} {v v':Value} (h:MlE wr wx C W0 a0 cap ys v j q r) (hC:C<wr.heap.size) (ho:w'.ownsRow wr.heap.size 49 3 v' (q+1) (fE (evN (nmA ys) j) (q+1))) (hg:wx.grownBy w' v.ownBlock) (hn:v'≠nS):MlE wr w' C W0 a0 cap ys v' j (q+1) r:=
 ⟨ho,hn,h.mc.kept hg (fun b e=>by have:=(h.ow.lt b e).1;have:=h.mc.ge;omega),h.gr.andThen hg (fun b e=>.inl (h.ow.lt b e).1)⟩
theorem MlE.new {wr wx:World} {C W0 cap j r:Nat} {a0:Option Addr} {ys:List Int} (hm:Mc wx C W0 a0 cap ys r) (hg:wr.grownBy wx (some C)):MlE wr (wx.alloc (.cells #[] 49)) C W0 a0 cap ys (sG wx.heap.size 0 0) j 0 r:=
 ⟨World.ownsRow_made (base:=wr.heap.size) (e:=49) (size:=3) wx #[] 0 hg.size (by unfold maxLen;omega) (by simp),by simp,hm.bw (zT _ _),hg.andThen (zZ (zT _ _)) (fun j hj=>by cases hj)⟩
def B5 (w:World) (X:Nat) (a b c d e:Int):Prop:=(w.cell? ⟨X,0,none⟩=some (iV a)/\w.cell? ⟨X,1,none⟩=some (iV b)/\w.cell? ⟨X,2,none⟩=some (iV c)/\w.cell? ⟨X,3,none⟩=some (iV d)/\w.cell? ⟨X,4,none⟩=some (iV e))/\∀ j,w.frozen? ⟨X,j,none⟩=false
theorem B5.kept {w w':World} {X:Nat} {a b c d e:Int} {row:Option Nat} (h:B5 w X a b c d e) (g:w.grownBy w' row) (hr:some X≠row):B5 w' X a b c d e:=by
 have hk:=g.block X (zJ w _ h.1.1) hr;obtain ⟨⟨h0,h1,h2,h3,h4⟩,f⟩:=h;exact ⟨⟨(zH hk).trans h0,(zH hk).trans h1,(zH hk).trans h2,(zH hk).trans h3,(zH hk).trans h4⟩,fun j=>(zI hk).trans (f j)⟩
theorem B5.lt {w:World} {X:Nat} {a b c d e:Int} (h:B5 w X a b c d e):X<w.heap.size:=zJ w _ h.1.1
theorem B5.new (w:World) (T:TypeId) (a b c d e:Int):B5 (w.alloc (.cells #[iV a,iV b,iV c,iV d,iV e] T)) w.heap.size a b c d e:=
 ⟨⟨zW _ _ _ 0 rfl,zW _ _ _ 1 rfl,zW _ _ _ 2 rfl,zW _ _ _ 3 rfl,zW _ _ _ 4 rfl⟩,fun _=>yB _ _ _ _ rfl⟩
theorem B5.set1 {w:World} {X:Nat} {a b c d e:Int} (h:B5 w X a b c d e) (y:Int):B5 (w.setCell (aQ X 1) (iV y)) X a y c d e:=by
 have hlt:=h.lt;obtain ⟨⟨h0,h1,h2,h3,h4⟩,f⟩:=h;exact ⟨⟨by go_cell,by go_cell,by go_cell,by go_cell,by go_cell⟩,fun j=>by rw [World.frozen?_setCell];exact f j⟩
theorem B5.set2 {w:World} {X:Nat} {a b c d e:Int} (h:B5 w X a b c d e) (y:Int):B5 (w.setCell (aQ X 2) (iV y)) X a b y d e:=by
 have hlt:=h.lt;obtain ⟨⟨h0,h1,h2,h3,h4⟩,f⟩:=h;exact ⟨⟨by go_cell,by go_cell,by go_cell,by go_cell,by go_cell⟩,fun j=>by rw [World.frozen?_setCell];exact f j⟩
theorem B5.set3 {w:World} {X:Nat} {a b c d e:Int} (h:B5 w X a b c d e) (y:Int):B5 (w.setCell (aQ X 3) (iV y)) X a b c y e:=by
 have hlt:=h.lt;obtain ⟨⟨h0,h1,h2,h3,h4⟩,f⟩:=h;exact ⟨⟨by go_cell,by go_cell,by go_cell,by go_cell,by go_cell⟩,fun j=>by rw [World.frozen?_setCell];exact f j⟩
theorem B5.set4 {w:World} {X:Nat} {a b c d e:Int} (h:B5 w X a b c d e) (y:Int):B5 (w.setCell (aQ X 4) (iV y)) X a b c d y:=by
 have hlt:=h.lt;obtain ⟨⟨h0,h1,h2,h3,h4⟩,f⟩:=h;exact ⟨⟨by go_cell,by go_cell,by go_cell,by go_cell,by go_cell⟩,fun j=>by rw [World.frozen?_setCell];exact f j⟩
def B3x (w:World) (X:Nat) (a b c:Int):Prop:=(w.cell? ⟨X,0,none⟩=some (iV a)/\w.cell? ⟨X,1,none⟩=some (iV b)/\w.cell? ⟨X,2,none⟩=some (iV c))/\∀ j,w.frozen? ⟨X,j,none⟩=false
theorem B3x.kept {w w':World} {X:Nat} {a b c:Int} {row:Option Nat} (h:B3x w X a b c) (g:w.grownBy w' row) (hr:some X≠row):B3x w' X a b c:=by
 have hk:=g.block X (zJ w _ h.1.1) hr;obtain ⟨⟨h0,h1,h2⟩,f⟩:=h;exact ⟨⟨(zH hk).trans h0,(zH hk).trans h1,(zH hk).trans h2⟩,fun j=>(zI hk).trans (f j)⟩
theorem B3x.lt {w:World} {X:Nat} {a b c:Int} (h:B3x w X a b c):X<w.heap.size:=zJ w _ h.1.1
theorem B3x.new (w:World) (T:TypeId) (a b c:Int):B3x (w.alloc (.cells #[iV a,iV b,iV c] T)) w.heap.size a b c:=
 ⟨⟨zW _ _ _ 0 rfl,zW _ _ _ 1 rfl,zW _ _ _ 2 rfl⟩,fun _=>yB _ _ _ _ rfl⟩
theorem B3x.set1 {w:World} {X:Nat} {a b c:Int} (h:B3x w X a b c) (y:Int):B3x (w.setCell (aQ X 1) (iV y)) X a y c:=by
 have hlt:=h.lt;obtain ⟨⟨h0,h1,h2⟩,f⟩:=h;exact ⟨⟨by go_cell,by go_cell,by go_cell⟩,fun j=>by rw [World.frozen?_setCell];exact f j⟩
theorem B3x.set2 {w:World} {X:Nat} {a b c:Int} (h:B3x w X a b c) (y:Int):B3x (w.setCell (aQ X 2) (iV y)) X a b y:=by
 have hlt:=h.lt;obtain ⟨⟨h0,h1,h2⟩,f⟩:=h;exact ⟨⟨by go_cell,by go_cell,by go_cell⟩,fun j=>by rw [World.frozen?_setCell];exact f j⟩
theorem LL.pushX {z:Bool} {e:TypeId} {sz:Nat} {E:TypeId} {w:World} {P:Nat->Prop} {v:Value} {n:Nat} {u:Nat->Value} {L:Nat->Nat} {c:Nat->List Value} (o:LL z e sz E w P v n u L c) {w1 w2:World} {u' v':Value} (hsz:w.heap.size<=w1.heap.size) (hb:∀ k,P k->k<w.heap.size->w1.heap[k]? = w.heap[k]?) (hu:w1.ownsRow w.heap.size e sz u' (L n) (c n)) (hne:Nz z e->u'≠nS) (hv:w2.ownsRow 0 E 1 v' (n+1) ((List.range n).map u ++ [u'])) (g:w1.grownBy w2 v.ownBlock)
  (hv':∀ j,v'.ownBlock=some j->v.ownBlock=some j\/w1.heap.size<=j) {P':Nat->Prop} (hP:∀ k,P k->k<w.heap.size->P' k) (hPu:∀ k,u'.ownBlock=some k->P' k) (hPv:∀ k,v'.ownBlock=some k->w1.heap.size<=k->P' k):LL z e sz E w2 P' v' (n+1) (fun j=>if j=n then u' else u j) L c:=by
 have h:=o.pushG (P':=fun _=>True) hsz hb hu hne hv g hv' (fun _ _ _=>trivial) (fun _ _ _=>trivial);refine ⟨h.row,h.own,fun k hk=>?_,fun i hi k hk=>?_,h.ra,h.oa,h.nn⟩
 ·rcases hv' k hk with h9 | h9
  ·exact hP k (o.rb k h9) (o.row.lt k h9).2
  ·exact hPv k hk h9
 ·by_cases ei:i=n
  ·simp only [nC ei] at hk
   exact hPu k hk
  ·simp only [nB ei] at hk
   exact hP k (o.ob i (by omega) k hk) ((o.own i (by omega)).lt k hk).2
structure MoJ (w wx:World) (a0:Option Addr) (cap:Nat) (ys:List Int) (c:Nat->Nat) (p k:Nat) (vp vh:Value) (up uh:Nat->Value):Prop where
 mc:Mc wx (w.heap.size+1) w.heap.size a0 cap ys k
 lp:LI true wx (Cl w.heap.size c 1) vp p up (mdY ys p).pL (mdY ys p).pH
 lh:LE true wx (Cl w.heap.size c 4) vh p uh (mdY ys p).hL (mdY ys p).hH
 ro:BoxC wx w.heap.size nS nS nS nS
 rf:∀ j,wx.frozen? ⟨w.heap.size,j,none⟩=false
 cc:c w.heap.size=0/\c (w.heap.size+1)=0
 bl:Bw w wx
theorem MoJ.lt {w wx:World} {cap p k:Nat} {a0:Option Addr} {ys:List Int} {c:Nat->Nat} {vp vh:Value} {up uh:Nat->Value} (J:MoJ w wx a0 cap ys c p k vp vh up uh):w.heap.size+1<wx.heap.size:=J.mc.lt
theorem MoJ.put {w wr wm w1 w2 w3:World} {cap p k k' r:Nat} {a0:Option Addr} {ys:List Int} {c:Nat->Nat} {vp vh v u vp' vh':Value} {up uh:Nat->Value} (J:MoJ w wr a0 cap ys c p k vp vh up uh)
  (A:MlI wr wm (w.heap.size+1) w.heap.size a0 cap ys v (mP (nmA ys) p+1) ((mdY ys p).pL p) r) (E:MlE wm w1 (w.heap.size+1) w.heap.size a0 cap ys u (mH (nmA ys) p+1) ((mdY ys p).hL p) k')
  (ho1:w2.ownsRow 0 42 1 vp' (p+1) ((List.range p).map up ++ [v])) (g1:w1.grownBy w2 vp.ownBlock) (q1:∀ j,vp'.ownBlock=some j->vp.ownBlock=some j\/w1.heap.size<=j)
  (ho2:w3.ownsRow 0 50 1 vh' (p+1) ((List.range p).map uh ++ [u])) (g2:w2.grownBy w3 vh.ownBlock) (q2:∀ j,vh'.ownBlock=some j->vh.ownBlock=some j\/w2.heap.size<=j):
  ∃ c' up' uh',MoJ w w3 a0 cap ys c' (p+1) k' vp' vh' up' uh':=by
 have hlt:=J.lt;have s1:=A.gr.size;have s2:=E.gr.size;have s3:=g1.size;have s4:=g2.size;have pb:∀ b,vp.ownBlock=some b->w.heap.size<=b/\c b=1/\b<wr.heap.size:=fun b e=>⟨(J.lp.rb b e).1,(J.lp.rb b e).2,(J.lp.row.lt b e).2⟩
 have hbk:∀ b,vh.ownBlock=some b->w.heap.size<=b/\c b=4/\b<wr.heap.size:=fun b e=>⟨(J.lh.rb b e).1,(J.lh.rb b e).2,(J.lh.row.lt b e).2⟩
 have gE:wr.grownBy w1 (some (w.heap.size+1)):=A.gr.trans E.gr;have k1:∀ b,b<wr.heap.size->c b≠0->w1.heap[b]? = wr.heap[b]?:=fun b h1 h2=>gE.block b h1 (fun e=>by cases e;exact h2 J.cc.2);have k2:∀ b,b<wr.heap.size->c b≠0->c b≠1->w2.heap[b]? = wr.heap[b]?:=fun b h1 h2 h3=>(g1.block b (by omega) (fun e=>h3 (pb b e.symm).2.1)).trans (k1 b h1 h2);have kz:∀ b,b<wr.heap.size->c b=0->b≠w.heap.size+1->w3.heap[b]? = wr.heap[b]?:=fun b h1 h2 h3=>(g2.block b (by omega) (fun e=>by have:=(hbk b e.symm).2.1;omega)).trans ((g1.block b (by omega) (fun e=>by have:=(pb b e.symm).2.1;omega)).trans (gE.block b h1 (fun e=>by cases e;exact h3 rfl)))
 have c'd:∃ c':Nat->Nat,(∀ b,b<wr.heap.size->c' b=c b)/\(∀ b,wr.heap.size<=b->b<wm.heap.size->c' b=1)/\(∀ b,wm.heap.size<=b->b<w1.heap.size->c' b=4)/\(∀ b,w1.heap.size<=b->b<w2.heap.size->c' b=1)/\∀ b,w2.heap.size<=b->c' b=4:=by
  refine ⟨fun b=>if b<wr.heap.size then c b else if b<wm.heap.size then 1 else if b<w1.heap.size then 4 else if b<w2.heap.size then 1 else 4,fun b h1=>?_,fun b h1 h2=>?_,fun b h1 h2=>?_,fun b h1 h2=>?_,fun b h1=>?_⟩
  ·exact nC h1
  ·show (if b<wr.heap.size then c b else if b<wm.heap.size then 1 else if b<w1.heap.size then 4 else if b<w2.heap.size then 1 else 4)=1
   rw [nB (by omega),nC h2]
  ·show (if b<wr.heap.size then c b else if b<wm.heap.size then 1 else if b<w1.heap.size then 4 else if b<w2.heap.size then 1 else 4)=4
   rw [nB (by omega),nB (by omega),nC h2]
  ·show (if b<wr.heap.size then c b else if b<wm.heap.size then 1 else if b<w1.heap.size then 4 else if b<w2.heap.size then 1 else 4)=1
   rw [nB (by omega),nB (by omega),nB (by omega),nC h2]
  ·show (if b<wr.heap.size then c b else if b<wm.heap.size then 1 else if b<w1.heap.size then 4 else if b<w2.heap.size then 1 else 4)=4
   rw [nB (by omega),nB (by omega),nB (by omega),nB (by omega)]
 obtain ⟨c',d0,d1,d2,d3,d4⟩:=c'd
 have hA : w1.ownsRow wr.heap.size 45 5 v ((mdY ys p).pL p) (fI ((mdY ys p).pH p) ((mdY ys p).pL p)) := A.ow.kept E.gr (by
  cases hk:v.ownBlock with
  | none=>exact .inl rfl
  | some b=>
   refine .inr fun e=>?_;have:=(A.ow.lt b hk).1;cases e
   omega)
 have hvb:∀ b,v.ownBlock=some b->wr.heap.size<=b/\b<wm.heap.size:=fun b e=>A.ow.lt b e;have hub:∀ b,u.ownBlock=some b->wm.heap.size<=b/\b<w1.heap.size:=fun b e=>E.ow.lt b e;have p2:=J.lp.pushX (w1:=w1) (w2:=w2) (u':=v) (v':=vp') (P':=Cl w.heap.size c' 1) (by omega) (fun b hb hl=>k1 b hl (by rw [hb.2];decide)) hA (fun _=>A.nn) ho1 g1 q1 (fun b hb hl=>⟨hb.1,(d0 b hl).trans hb.2⟩) (fun b e=>⟨by have:=hvb b e;omega,d1 b (hvb b e).1 (hvb b e).2⟩) (fun b e h9=>⟨by omega,d3 b h9 (ho1.lt b e).2⟩)
 have hE2 : w2.ownsRow wm.heap.size 49 3 u ((mdY ys p).hL p) (fE ((mdY ys p).hH p) ((mdY ys p).hL p)) := E.ow.kept g1 (by
  cases hk:u.ownBlock with
  | none=>exact .inl rfl
  | some b=>
   refine .inr fun e=>?_;have:=(hub b hk).1;have:=(pb b e.symm).2.2
   omega)
 have h3:=J.lh.pushX (w1:=w2) (w2:=w3) (u':=u) (v':=vh') (P':=Cl w.heap.size c' 4) (by omega) (fun b hb hl=>k2 b hl (by rw [hb.2];decide) (by rw [hb.2];decide)) (hE2.mono s1) (fun _=>E.nn) ho2 g2 q2 (fun b hb hl=>⟨hb.1,(d0 b hl).trans hb.2⟩) (fun b e=>⟨by have:=hub b e;omega,d2 b (hub b e).1 (hub b e).2⟩) (fun b e h9=>⟨by omega,d4 b h9⟩)
 have p3 := p2.keep (w' := w3) fun b hb hl => g2.block b hl (fun e => by
  have h9:=hbk b e.symm;have h8:=hb.2;rw [d0 b h9.2.2,h9.2.1] at h8
  cases h8)
 have kr:=kz w.heap.size (by omega) J.cc.1 (by omega);refine ⟨c',_,_,(E.mc.kept g1 (fun b e=>?_)).kept g2 (fun b e=>?_),p3,h3,J.ro.blkR kr,fun i=>(zI kr).trans (J.rf i),⟨(d0 _ (by omega)).trans J.cc.1,(d0 _ hlt).trans J.cc.2⟩,?_⟩
 ·have h9:=pb b e
  refine ⟨by omega,fun e9=>?_⟩;rw [e9,J.cc.2] at h9;omega
 ·have h9:=hbk b e
  refine ⟨by omega,fun e9=>?_⟩;rw [e9,J.cc.2] at h9;omega
 ·exact Below.grown (Below.grown (Below.grown J.bl gE J.bl.size (fun b e=>by cases e;omega)) g1 (by omega) (fun b e=>(pb b e).1)) g2 (by omega) (fun b e=>(hbk b e).1)
open Go.ChangeShapes Go.WideShapes Go.ChangeAt
theorem qwm {ys:List Int} (hb:By ys):∀ {k:Nat},k<=(nmA ys).length->k<=psN (nmA ys) k
 | 0,_=>nD _
 | k+1,h=>by
  have h1:=qwm hb (k:=k) (by omega);have h2:=qwn (nmA ys) k (by omega);have h3:=qgp _ (qxo hb (k:=k) (by omega));omega
theorem qy0 {ys:List Int} (hb:By ys):(nmA ys).length<=ys.length:=zP (qwm hb (nA _)) (qyz hb (nA _))
def UmP (w:World) (ys:List Int) (e:Ending) (w':World):Prop:=∃ P,MdP (nmA ys) P/\∃ v,e=.returned (.tuple #[v,.bool (umB ys P)])/\(umB ys P=true->qan false w' w.heap.size ((mdY ys P).atY (mdD ys P)) v)/\(umB ys P=false->v=sysV none 0 0 none 0 0 none 0 0 none 0 0)/\Bw w w'
theorem UmP.no {w wx:World} {ys:List Int} {P:Nat} (hf:MdP (nmA ys) P) (h:umB ys P=false) (b:Bw w wx):UmP w ys (.returned (.tuple #[sysV none 0 0 none 0 0 none 0 0 none 0 0,.bool false])) ((((wx.setCell (aQ w.heap.size 0) nS).setCell (aQ w.heap.size 1) nS).setCell (aQ w.heap.size 2) nS).setCell (aQ w.heap.size 3) nS):=by
 have hM:w.heap.size<=w.heap.size:=nA _;exact ⟨P,hf,_,by rw [h],fun e=>(by rw [h] at e;cases e),fun _=>rfl,(((b.setCell hM _).setCell hM _).setCell hM _).setCell hM _⟩
theorem MoJ.bw {w wx w':World} {cap p k:Nat} {a0:Option Addr} {ys:List Int} {c:Nat->Nat} {vp vh:Value} {up uh:Nat->Value} (J:MoJ w wx a0 cap ys c p k vp vh up uh) (hb:Bw wx w'):MoJ w w' a0 cap ys c p k vp vh up uh:=
 ⟨J.mc.bw hb,J.lp.bw hb,J.lh.bw hb,J.ro.bw hb,fun j=>(zI (hb.block w.heap.size J.ro.ltR)).trans (J.rf j),J.cc,J.bl.trans (hb.mono J.bl.size)⟩
theorem qtf {M:List Int} {w j:Nat} {m:Int} (hj:1<=j):rdN M w m j<=M.length:=by
 unfold rdN
 split
 ·have:=Nat.div_le_self (M.length - j) w
  omega
 ·omega
theorem qtb {g:Nat->I5} {len procs:Nat} (h:qaa g len procs=true):len<=30:=by
 unfold qaa at h;simp [inB] at h;omega
theorem qyj (ns:List Int) (k n:Nat):fI (itN ns k) (n+1)=fI (itN ns k) n ++ cI (itN ns k n):=rfl
theorem qyi (ns:List Int) (k n:Nat):fE (evN ns k) (n+1)=fE (evN ns k) n ++ cE (evN ns k n):=rfl
theorem qrq {xs ys:List Int} (h1:By xs) (h2:By ys):By (xs ++ ys):=fun i hi=>by
 rw [List.length_append] at hi;unfold zi;rw [List.getD_eq_getElem?_getD];by_cases h:i<xs.length
 ·rw [List.getElem?_append_left h,<- List.getD_eq_getElem?_getD]
  exact h1 i h
 ·rw [List.getElem?_append_right (by omega),<- List.getD_eq_getElem?_getD]
  exact h2 _ (by omega)
theorem qv5:∀ xs:List Int,By (byL xs)
 | []=>fun i hi=>absurd hi (Nat.not_lt_zero _)
 | x :: xs=>by
  rw [qc5];exact qrq (qwo x) (qv5 xs)
theorem qs5 (y:Sy):By (pkS y):=by
 unfold pkS
 split
 ·exact qv5 _
 ·exact fun i hi=>absurd hi (Nat.not_lt_zero _)
def ynX (ys:List Int) (n:Nat):Sy:={ nwY n (mdY ys n).pL (mdY ys n).pH with hn:=n,hL:=(mdY ys n).hL,hH:=(mdY ys n).hH }
theorem qzq {w:World} {B n:Nat} {c:Nat->Nat} {ys:List Int} {vp vs vw vh ve:Value} {up us uw uh ue:Nat->Value} {P:Nat->Prop} (o:OwnS false w B c (nwY n (mdY ys n).pL (mdY ys n).pH) vp vs vw vh up us uw uh) (l:LE true w P ve n ue (mdY ys n).hL (mdY ys n).hH):SysG w ((ynX ys n).sysIn vp vs vw ve up us uw ue):=
 ⟨o.g.p,o.g.pi,o.g.s,o.g.w,o.g.wi,qde l,fun i hi=>qrw (l.own i hi)⟩
theorem Own1.sV {w:World} {B T n:Nat} {L:Nat->Nat} {H:Nat->Nat->I5} {vp vs vw vh:Value} (o:Own1 w B T n L H vp vs vw vh):∃ c up us,OwnS false w B c (nwY n L H) vp vs vw vh up us (fun _=>.slice none 0 0) (fun _=>.slice none 0 0):=by
 obtain ⟨c,up,us,o,-⟩:=o;exact ⟨c,up,us,o.p.weak,o.s,o.t.ll (by decide) _ (fun _=>rfl),o.h.ll (by decide) _ (fun _=>rfl)⟩
theorem qo0 {w:World} {B e sz n:Nat} {u:Value} {xs:List Value} (o:w.ownsRow B e sz u n xs):n<=cpOf u:=by
 rcases o.2 with ⟨e,h⟩ | ⟨g,cap,cur,e,_,_,hnc,_⟩
 ·rw [h]
  exact nD _
 ·rw [e]
  exact hnc
theorem qan.inV {z:Bool} {w:World} {B:Nat} {y:Sy} {v:Value} (o:qan z w B y v):∃ x:SysIn,v=x.v/\x.y=y/\SysG w x/\∀ i,i<x.hn->x.hL i<=x.hC i:=by
 obtain ⟨c,vp,vs,vw,vh,up,us,uw,uh,rfl,o⟩:=o;exact ⟨y.sysIn vp vs vw vh up us uw uh,o.v.symm,rfl,o.g,fun i hi=>qo0 (o.h.own i hi)⟩
structure Sy.Lim (y:Sy):Prop where
 p:y.pn<=1048576/\∀ i,i<y.pn->y.pL i<=1048576
 s:y.sn<=1048576/\∀ i,i<y.sn->(y.sS i).rs.length<=1048576/\(y.sS i).os.length<=1048576
 w:y.wn<=1048576/\∀ i,i<y.wn->y.wL i<=1048576
 h:y.hn<=1048576/\∀ i,i<y.hn->y.hL i<=1048576
theorem Sy.Lim.len {x:SysIn} (h:x.y.Lim):x.Len:=⟨h.p,h.s,h.w,h.h⟩
theorem qxm (ys:List Int) {P i:Nat} (h:i<P):zi (flT (mdY ys P) P) i=(((mdY ys P).hL i:Nat):Int):=by
 unfold zi flT;rw [List.getD_eq_getElem?_getD,List.getElem?_map,List.getElem?_range h];rfl
theorem qx1 {ys:List Int} {n:Nat} (h4:n<=4) (hp:∀ i,i<n->(mdY ys n).pL i<=30) (hh:∀ i,i<n->(mdY ys n).hL i<=1048576):(ynX ys n).Lim:=by
 have h16:n*n<=16:=zP (Nat.mul_le_mul h4 h4) (by omega);refine ⟨⟨?_,fun i hi=>?_⟩,⟨?_,fun i hi=>?_⟩,⟨?_,fun i hi=>nD _⟩,⟨?_,hh⟩⟩
 ·show n<=_
  omega
 ·have:=hp i hi
  show (mdY ys n).pL i<=_;omega
 ·show n<=_
  omega
 ·show ([0,0,0,0]:List Int).length<=_/\([]:List Int).length<=_
  exact ⟨by decide,by decide⟩
 ·show n*n<=_
  omega
 ·show n<=_
  omega
theorem qxn (y:Sy):y.nil.Lim:=
 ⟨⟨nD _,fun _ hi=>absurd hi (Nat.not_lt_zero _)⟩,⟨nD _,fun _ hi=>absurd hi (Nat.not_lt_zero _)⟩,⟨nD _,fun _ hi=>absurd hi (Nat.not_lt_zero _)⟩,⟨nD _,fun _ hi=>absurd hi (Nat.not_lt_zero _)⟩⟩
theorem qw1 {ys:List Int} {n:Nat} (h4:n<=4) (hp:∀ i,i<n->(mdY ys n).pL i<=30) (hh:∀ i,i<n->(mdY ys n).hL i<=1048576):((ynX ys n).atW (mdD ys n)).Lim:=by
 unfold Sy.atW
 split
 ·rename_i hw
  have hw:=qim.1 hw;have h16:n*n<=16:=zP (Nat.mul_le_mul h4 h4) (by omega);refine ⟨⟨?_,fun i hi=>?_⟩,⟨?_,fun i hi=>?_⟩,⟨?_,fun i hi=>?_⟩,⟨?_,fun i hi=>?_⟩⟩
  ·show n<=_
   omega
  ·have:=hp i hi
   show (mdY ys n).pL i<=_;omega
  ·show n<=_
   omega
  ·have:=qpq ((mdY ys n).pH i) ((mdY ys n).pL i) ((mdY ys n).hH i) (mdD ys n i)
   show (resS (repO ((mdY ys n).pH i) ((mdY ys n).pL i) ((mdY ys n).hH i) (mdD ys n i))).rs.length<=_/\(resS (repO ((mdY ys n).pH i) ((mdY ys n).pL i) ((mdY ys n).hH i) (mdD ys n i))).os.length<=_;omega
  ·show n*n<=_
   omega
  ·have hi:i<n*n:=hi
   have ha:i / n<n:=Nat.div_lt_of_lt_mul hi
   have hb:i % n<n:=by
    refine Nat.mod_lt _ (Nat.pos_of_ne_zero fun e=>?_);rw [e] at hi;omega
   have:=hw _ ha _ hb;show (wyL ((ynX ys n).ah (mdD ys n)) (i / n) (i % n)).length<=_;omega
  ·show n<=_
   omega
  ·have hi:i<n:=hi
   have:=hh i hi;show mdD ys n i<=_;rw [qi8 ys hi];exact this
 ·exact qxn _
theorem qi2 (a0:Option Addr) (cap:Nat) (ys:List Int) (w:World) (hlen:ys.length<=1048576) (hb:By ys) (hs:SlB w a0 ys) (ha:∀ b o,a0=some ⟨b,o,none⟩->b<w.heap.size):
  Calls prog 12 #[.slice a0 ys.length cap] w (UmP w ys):=by
 have HNum:Hid (∀ wx k,Mc wx (w.heap.size+1) w.heap.size a0 cap ys k->Calls prog 33 #[.pointer (some ⟨w.heap.size+1,0,none⟩)] wx fun e w'=>e=.returned (iV (zi (nmA ys) k))/\Mc w' (w.heap.size+1) w.heap.size a0 cap ys (k+1)/\wx.grownBy w' (some (w.heap.size+1))):=fun wx k hx=>qql a0 cap (w.heap.size+1) w.heap.size k ys wx hlen hb hx
 have BW:Hid (Bw w ((w.alloc (zQ3)).alloc (.cells #[.slice a0 ys.length cap,iV 0,.bool true] 71))/\Mc ((w.alloc (zQ3)).alloc (.cells #[.slice a0 ys.length cap,iV 0,.bool true] 71)) (w.heap.size+1) w.heap.size a0 cap ys 0/\BoxC ((w.alloc (zQ3)).alloc (.cells #[.slice a0 ys.length cap,iV 0,.bool true] 71)) w.heap.size nS nS nS nS/\(∀ j,((w.alloc (zQ3)).alloc (.cells #[.slice a0 ys.length cap,iV 0,.bool true] 71)).frozen? ⟨w.heap.size,j,none⟩=false)/\((w.alloc (zQ3)).alloc (.cells #[.slice a0 ys.length cap,iV 0,.bool true] 71)).heap.size=w.heap.size+2):=by
  have b1:=zQ w (zQ3);have b2:=zQ (w.alloc (zQ3)) (.cells #[.slice a0 ys.length cap,iV 0,.bool true] 71);have bb:=b1.trans (b2.mono (by simp));refine ⟨bb,⟨(zW _ _ _ 0 (by simp)).trans (by simp),(zW _ _ _ 1 (by simp)).trans (by simp [qf5]),(zW _ _ _ 2 (by simp)).trans (by simp),fun j=>yB _ _ _ _ (by simp),by omega,ha,hs.bw bb⟩,(BoxC.new w _ _ _ _ _).bw b2,fun j=>?_,by simp⟩;exact (zI (b2.block w.heap.size (by simp))).trans (yB _ _ _ _ rfl)
 have HML:Hid ((nmA ys).length<=1048576):=zP (qy0 hb) hlen;have HBy:Hid (By ys):=hb;clear hlen hb hs ha
 go_enter func12,ntmps12
 go_upto_region 2 with fail
 generalize (w.alloc (zQ3)).alloc (.cells #[.slice a0 ys.length cap,iV 0,.bool true] 71)=W2 at *;go_wp2_with fail
 refine (HNum.out W2 0 BW.2.1).mono ?_;rintro e w1 ⟨rfl,hm1,hg1⟩;obtain ⟨n,hn⟩:∃ n,zi (nmA ys) 0=n:=⟨_,rfl⟩
 rw [hn];have HZ0:Hid (zi (nmA ys) 0=n):=hn
 have J0:Hid (∀ (w3:World),w3=(w1.alloc (.cells #[] 42)).alloc (.cells #[] 50)->∃ c up uh,MoJ w w3 a0 cap ys c 0 (mP (nmA ys) 0) (sG w1.heap.size 0 0) (.slice (some ⟨w1.heap.size+1,0,none⟩) 0 0) up uh):=by
  rintro w3 rfl;have hsz:=BW.2.2.2.2;have s1:=hg1.size;have k0:=hg1.block w.heap.size (by omega) (by simp);have bb:=(zQ w1 (.cells #[] 42)).trans ((zQ (w1.alloc (.cells #[] 42)) (.cells #[] 50)).mono (by simp));have k1:=(bb.block w.heap.size (by omega)).trans k0;have e1:(w1.alloc (.cells #[] 42)).heap.size=w1.heap.size+1:=by simp
  refine ⟨fun b=>if b=w1.heap.size then 1 else if b=w1.heap.size+1 then 4 else 0,fun _=>.slice none 0 0,fun _=>.slice none 0 0,hm1.bw bb,(LL.new _ _ _ w1 _ ⟨by omega,nC rfl⟩ _ _ _).bw (zQ _ _),?_,BW.2.2.1.blkR k1,fun j=>(zI k1).trans (BW.2.2.2.1 j),⟨?_,?_⟩,?_⟩
  ·have e9:(fun b=>if b=w1.heap.size then 1 else if b=w1.heap.size+1 then 4 else 0) (w1.alloc (.cells #[] 42)).heap.size=4:=by
    show (if (w1.alloc (.cells #[] 42)).heap.size=w1.heap.size then 1 else if (w1.alloc (.cells #[] 42)).heap.size=w1.heap.size+1 then 4 else 0)=4;rw [e1,nB (by omega),nC rfl]
   have h9:=fun u L c=>LL.new (z:=true) 49 3 50 (w1.alloc (.cells #[] 42)) (Cl w.heap.size (fun b=>if b=w1.heap.size then 1 else if b=w1.heap.size+1 then 4 else 0) 4) ⟨by omega,e9⟩ u L c;rw [e1] at h9;exact h9 _ _ _
  ·show (if w.heap.size=w1.heap.size then 1 else if w.heap.size=w1.heap.size+1 then 4 else 0)=0
   rw [nB (by omega),nB (by omega)]
  ·show (if w.heap.size+1=w1.heap.size then 1 else if w.heap.size+1=w1.heap.size+1 then 4 else 0)=0
   rw [nB (by omega),nB (by omega)]
  ·exact (Below.grown BW.1 hg1 BW.1.size (fun b e=>by cases e;omega)).trans (bb.mono (by omega))
 have J1:=J0.out _ rfl;have J2:Hid (∃ c up uh,MoJ w ((w1.alloc (.cells #[] 42)).alloc (.cells #[] 50)) a0 cap ys c 0 (mP (nmA ys) 0) (sG w1.heap.size 0 0) (.slice (some ⟨w1.heap.size+1,0,none⟩) 0 0) up uh):=J1;clear J0 J1 hm1 hg1 hn BW;go_upto_region 6 with fail
 go_loopw [6,7,8] (fun vp vh i wr=>∃ p:Nat,(∀ q,q<p->(q:Int)<n/\mP (nmA ys) q<=(nmA ys).length)/\i=.int .i64 p/\Hid (∃ c up uh,MoJ w wr a0 cap ys c p (mP (nmA ys) p) vp vh up uh)) (fun _ _ i _=>n.toNat - (intOf i).toNat)
 case atStart=>exact ⟨0,fun q hq=>by omega,rfl,J2.out⟩
 case round=>
  clear J2
  rename World=>wr
  obtain ⟨p,hpq,rfl,HJ⟩:=hrel;obtain ⟨c,up,uh,hJ⟩:=HJ.out;have J:Hid (MoJ w wr a0 cap ys c p (mP (nmA ys) p) u6 u7 up uh):=hJ;have hJc:=hJ.mc.c2;clear hJ HJ;have HQ:Hid (∀ q,q<p->(q:Int)<n/\mP (nmA ys) q<=(nmA ys).length):=hpq;clear hpq;obtain ⟨D,hD⟩:∃ D:Prop,D=((p:Int)<n/\mP (nmA ys) p<=(nmA ys).length):=⟨_,rfl⟩
  obtain ⟨dd,hdd⟩:∃ dd:Bool,(dd=true ↔ ((p:Int)<n/\mP (nmA ys) p<=(nmA ys).length)):=⟨decide ((p:Int)<n/\mP (nmA ys) p<=(nmA ys).length),by simp⟩
  have HDD:Hid (dd=true ↔ ((p:Int)<n/\mP (nmA ys) p<=(nmA ys).length)):=hdd;clear hdd hD D;go_upto_region 6 with fail
  go_cut [39] from 31 to 38 (fun t wx=>t=.bool dd/\wx=wr)
  case first=>
   by_cases hp:(p:Int)<n
   ·have e1:dd=decide (mP (nmA ys) p<=(nmA ys).length):=by
     rw [Bool.eq_iff_iff,nI];exact ⟨fun h=>(HDD.1 h).2,fun h=>HDD.2 ⟨hp,h⟩⟩
    rw [<- e1] at hJc;clear e1;go_wp2_with fail
    go_meet
    exact ⟨rfl,rfl⟩
   ·have e1:dd=false:=by
     cases h9:dd with
     | false=>rfl
     | true=>exact absurd (HDD.1 h9).1 hp
    clear hJc;subst e1;go_wp2_with fail
    go_meet
    exact ⟨rfl,rfl⟩
  case rest=>
   obtain ⟨rfl,rfl⟩:=hcut;clear hJc;cases hdc:dd with
   | true=>
    obtain ⟨hp,hpl⟩:=HDD.1 hdc;clear hdc HDD;have HCB:Hid (w.heap.size+1<wc.heap.size):=J.lt;generalize hwr:wc=wr at *;clear hwr;have A0:Hid (MlI wr (wr.alloc (.cells #[] 45)) (w.heap.size+1) w.heap.size a0 cap ys (sG wr.heap.size 0 0) ((mP (nmA ys) p)+1) 0 (mP (nmA ys) p)):=MlI.new J.mc (World.grownBy.refl _ _);go_wp2_with fail
    refine (HNum.out _ (mP (nmA ys) p) A0.mc).mono ?_;rintro e w4 ⟨rfl,hm4,hg4⟩;have A1:Hid (MlI wr w4 (w.heap.size+1) w.heap.size a0 cap ys (sG wr.heap.size 0 0) ((mP (nmA ys) p)+1) 0 ((mP (nmA ys) p)+1+5*0)):=A0.call HCB.out hm4 hg4;clear hm4 hg4 A0;obtain ⟨mI,hmI⟩:∃ m,zi (nmA ys) ((mP (nmA ys) p))=m:=⟨_,rfl⟩
    obtain ⟨RI,hRI⟩:∃ R,R=(mdY ys p).pL p:=⟨_,rfl⟩
    have HRI:Hid (RI=(mdY ys p).pL p/\(∀ q,q<RI ↔ (q:Int)<mI/\(mP (nmA ys) p)+1+5*q<=(nmA ys).length)/\RI<=1048577):=by
     refine ⟨hRI,fun q=>?_,?_⟩
     ·rw [hRI,<- hmI]
      exact qtg (by omega)
     ·rw [hRI]
      exact zP (qwp (by omega)) (by have:=HML.out;omega)
    rw [hmI];clear hmI hRI;go_upto_region 11 with fail
    go_loopw [9,11] (fun v i wx=>∃ q:Nat,q<=RI/\i=.int .i64 q/\Hid (MlI wr wx (w.heap.size+1) w.heap.size a0 cap ys v ((mP (nmA ys) p)+1) q ((mP (nmA ys) p)+1+5*q))) (fun _ i _=>RI - (intOf i).toNat)
    case atStart=>exact ⟨0,nD _,rfl,A1.out⟩
    case round=>
     clear A1
     rename World=>wx
     obtain ⟨q,hq,rfl,HI⟩:=hrel;have hc2:=HI.mc.c2;obtain ⟨qq,hqq⟩:∃ qq:Bool,(qq=true ↔ q<RI):=⟨decide (q<RI),by simp⟩
     have HQQ:Hid (qq=true ↔ q<RI):=hqq;clear hqq;go_upto_region 11 with fail
     go_cut [53] from 45 to 52 (fun t wy=>t=.bool qq/\wy=wx)
     case first=>
      by_cases hp:(q:Int)<mI
      ·have e1:qq=decide ((mP (nmA ys) p)+1+5*q<=(nmA ys).length):=by
        rw [Bool.eq_iff_iff,nI,HQQ.out,HRI.2.1 q];exact ⟨fun h=>h.2,fun h=>⟨hp,h⟩⟩
       rw [<- e1] at hc2;clear e1;go_wp2_with fail
       go_meet
       exact ⟨rfl,rfl⟩
      ·have e1:qq=false:=by
        cases h9:qq with
        | false=>rfl
        | true=>exact absurd ((HRI.2.1 q).1 (HQQ.1 h9)).1 hp
       clear hc2;subst e1;go_wp2_with fail
       go_meet
       exact ⟨rfl,rfl⟩
     case rest=>
      obtain ⟨rfl,rfl⟩:=hcut;clear hc2;cases hqc:qq with
      | true=>
       have hlt:q<RI:=HQQ.1 hqc;have hqs:(q:Int)<=1048577:=by have:=HRI.2.2;omega
       clear hqc HQQ;go_wp2_with fail
       refine (HNum.out _ ((mP (nmA ys) p)+1+5*q) HI.mc).mono ?_;rintro e w5 ⟨rfl,hm5,hg5⟩;have B1:Hid (MlI wr w5 (w.heap.size+1) w.heap.size a0 cap ys u9 ((mP (nmA ys) p)+1) q ((mP (nmA ys) p)+1+5*q+1)):=HI.call HCB.out hm5 hg5;have HB5:Hid ((∀ k,u9.ownBlock=some k->k<w5.heap.size)/\wr.heap.size<=w5.heap.size):=⟨fun k hk=>(B1.ow.lt k hk).2,B1.gr.size⟩
       obtain ⟨v0,hv0⟩:∃ v,zi (nmA ys) ((mP (nmA ys) p)+1+5*q)=v:=⟨_,rfl⟩
       have HV0:Hid (zi (nmA ys) ((mP (nmA ys) p)+1+5*q)=v0):=hv0;rw [hv0];clear hv0 hm5 hg5 HI;have B2:Hid (MlI wr (w5.alloc (oQ1 v0 0 0 0 0)) (w.heap.size+1) w.heap.size a0 cap ys u9 ((mP (nmA ys) p)+1) q ((mP (nmA ys) p)+1+5*q+1)/\B5 (w5.alloc (oQ1 v0 0 0 0 0)) w5.heap.size v0 0 0 0 0):=⟨B1.alloc _,B5.new _ _ v0 0 0 0 0⟩
       go_upto_region 14 with fail
       generalize w5.alloc (oQ1 v0 0 0 0 0)=w6 at *;generalize w5.heap.size=X5 at *;clear B1 w5;go_wp2_with fail
       refine (HNum.out w6 ((mP (nmA ys) p)+1+5*q+1) B2.1.mc).mono ?_;rintro e w5 ⟨rfl,hm5,hg5⟩;obtain ⟨v1,hv1⟩:∃ v,zi (nmA ys) ((mP (nmA ys) p)+1+5*q+1)=v:=⟨_,rfl⟩
       have HV1:Hid (zi (nmA ys) ((mP (nmA ys) p)+1+5*q+1)=v1):=hv1;rw [hv1];have B3:Hid (MlI wr w5 (w.heap.size+1) w.heap.size a0 cap ys u9 ((mP (nmA ys) p)+1) q ((mP (nmA ys) p)+1+5*q+1+1)/\B5 w5 X5 v0 0 0 0 0):=⟨B2.1.call HCB.out hm5 hg5,B2.2.kept hg5 (fun e9=>by cases e9;have h9:=HCB.out;have h8:=HB5.2;omega)⟩
       clear hv1 hm5 hg5 B2;obtain ⟨⟨k0,k1,k2,k3,k4⟩,kf⟩:=B3.2;have B2:Hid (MlI wr (w5.setCell (aQ X5 1) (iV v1)) (w.heap.size+1) w.heap.size a0 cap ys u9 ((mP (nmA ys) p)+1) q ((mP (nmA ys) p)+1+5*q+(1+1))/\B5 (w5.setCell (aQ X5 1) (iV v1)) X5 v0 v1 0 0 0):=⟨B3.1.set HCB.out HB5.2 HB5.1 _,B3.2.set1 v1⟩
       go_upto_region 15 with fail
       clear k0 k1 k2 k3 k4 kf B3;generalize w5.setCell (aQ X5 1) (iV v1)=w7 at *;clear w6 w5;go_wp2_with fail
       refine (HNum.out w7 ((mP (nmA ys) p)+1+5*q+2) B2.1.mc).mono ?_;rintro e w5 ⟨rfl,hm5,hg5⟩;obtain ⟨v2,hv2⟩:∃ v,zi (nmA ys) ((mP (nmA ys) p)+1+5*q+2)=v:=⟨_,rfl⟩
       have HV2:Hid (zi (nmA ys) ((mP (nmA ys) p)+1+5*q+2)=v2):=hv2;rw [hv2];have B3:Hid (MlI wr w5 (w.heap.size+1) w.heap.size a0 cap ys u9 ((mP (nmA ys) p)+1) q ((mP (nmA ys) p)+1+5*q+2+1)/\B5 w5 X5 v0 v1 0 0 0):=⟨B2.1.call HCB.out hm5 hg5,B2.2.kept hg5 (fun e9=>by cases e9;have h9:=HCB.out;have h8:=HB5.2;omega)⟩
       clear hv2 hm5 hg5 B2;obtain ⟨⟨k0,k1,k2,k3,k4⟩,kf⟩:=B3.2;have B2:Hid (MlI wr (w5.setCell (aQ X5 2) (iV v2)) (w.heap.size+1) w.heap.size a0 cap ys u9 ((mP (nmA ys) p)+1) q ((mP (nmA ys) p)+1+5*q+(2+1))/\B5 (w5.setCell (aQ X5 2) (iV v2)) X5 v0 v1 v2 0 0):=⟨B3.1.set HCB.out HB5.2 HB5.1 _,B3.2.set2 v2⟩
       go_upto_region 16 with fail
       clear k0 k1 k2 k3 k4 kf B3;generalize w5.setCell (aQ X5 2) (iV v2)=w8 at *;clear w7 w5;go_wp2_with fail
       refine (HNum.out w8 ((mP (nmA ys) p)+1+5*q+3) B2.1.mc).mono ?_;rintro e w5 ⟨rfl,hm5,hg5⟩;obtain ⟨v3,hv3⟩:∃ v,zi (nmA ys) ((mP (nmA ys) p)+1+5*q+3)=v:=⟨_,rfl⟩
       have HV3:Hid (zi (nmA ys) ((mP (nmA ys) p)+1+5*q+3)=v3):=hv3;rw [hv3];have B3:Hid (MlI wr w5 (w.heap.size+1) w.heap.size a0 cap ys u9 ((mP (nmA ys) p)+1) q ((mP (nmA ys) p)+1+5*q+3+1)/\B5 w5 X5 v0 v1 v2 0 0):=⟨B2.1.call HCB.out hm5 hg5,B2.2.kept hg5 (fun e9=>by cases e9;have h9:=HCB.out;have h8:=HB5.2;omega)⟩
       clear hv3 hm5 hg5 B2;obtain ⟨⟨k0,k1,k2,k3,k4⟩,kf⟩:=B3.2;have B2:Hid (MlI wr (w5.setCell (aQ X5 3) (iV v3)) (w.heap.size+1) w.heap.size a0 cap ys u9 ((mP (nmA ys) p)+1) q ((mP (nmA ys) p)+1+5*q+(3+1))/\B5 (w5.setCell (aQ X5 3) (iV v3)) X5 v0 v1 v2 v3 0):=⟨B3.1.set HCB.out HB5.2 HB5.1 _,B3.2.set3 v3⟩
       go_upto_region 17 with fail
       clear k0 k1 k2 k3 k4 kf B3;generalize w5.setCell (aQ X5 3) (iV v3)=w9 at *;clear w8 w5;go_wp2_with fail
       refine (HNum.out w9 ((mP (nmA ys) p)+1+5*q+4) B2.1.mc).mono ?_;rintro e w5 ⟨rfl,hm5,hg5⟩;obtain ⟨v4,hv4⟩:∃ v,zi (nmA ys) ((mP (nmA ys) p)+1+5*q+4)=v:=⟨_,rfl⟩
       have HV4:Hid (zi (nmA ys) ((mP (nmA ys) p)+1+5*q+4)=v4):=hv4;rw [hv4];have B3:Hid (MlI wr w5 (w.heap.size+1) w.heap.size a0 cap ys u9 ((mP (nmA ys) p)+1) q ((mP (nmA ys) p)+1+5*q+4+1)/\B5 w5 X5 v0 v1 v2 v3 0):=⟨B2.1.call HCB.out hm5 hg5,B2.2.kept hg5 (fun e9=>by cases e9;have h9:=HCB.out;have h8:=HB5.2;omega)⟩
       clear hv4 hm5 hg5 B2;obtain ⟨⟨k0,k1,k2,k3,k4⟩,kf⟩:=B3.2;have B2:Hid (MlI wr (w5.setCell (aQ X5 4) (iV v4)) (w.heap.size+1) w.heap.size a0 cap ys u9 ((mP (nmA ys) p)+1) q ((mP (nmA ys) p)+1+5*q+(4+1))/\B5 (w5.setCell (aQ X5 4) (iV v4)) X5 v0 v1 v2 v3 v4):=⟨B3.1.set HCB.out HB5.2 HB5.1 _,B3.2.set4 v4⟩
       go_upto_region 18 with fail
       clear k0 k1 k2 k3 k4 kf B3;generalize w5.setCell (aQ X5 4) (iV v4)=w10 at *;clear w9 w5;obtain ⟨⟨k0,k1,k2,k3,k4⟩,kf⟩:=B2.2
       have HC:Hid (cI (itN (nmA ys) ((mP (nmA ys) p)+1) q)=[iV v0,iV v1,iV v2,iV v3,iV v4]):=by
        show cI (itN (nmA ys) ((mP (nmA ys) p)+1) q)=[iV v0,iV v1,iV v2,iV v3,iV v4];rw [<- HV0.out,<- HV1.out,<- HV2.out,<- HV3.out,<- HV4.out];rfl
       have hq2:Hid (q<=2000000):=by have:=HRI.2.2;show q<=2000000;omega
       go_wp2_with (at_builtin;refine qai kndI w10 rfl rfl _ _ rfl wr.heap.size u9 q _ rfl B2.1.ow #[.int .i64 v0,.int .i64 v1,.int .i64 v2,.int .i64 v3,.int .i64 v4] rfl rfl (by intro u hu;simp at hu;rcases hu with rfl | rfl | rfl | rfl | rfl <;> rfl) hq2.out B2.1.gr.size ?_;intro z7 w7 o7 g7 q7 n7;have F7:Hid (MlI wr w7 (w.heap.size+1) w.heap.size a0 cap ys z7 ((mP (nmA ys) p)+1) (q+1) ((mP (nmA ys) p)+1+5*(q+1))):=(B2.1.app HCB.out (by rw [qyj,HC.out];exact o7) g7 n7);clear o7 g7 q7 n7)
       go_roundw
       case rel=>exact ⟨q+1,by omega,by go_num,F7.out⟩
       case measure=>simp [intOf];omega
      | false=>
       have hR:q=RI:=by
        have h9:¬ q<RI:=fun h9=>by rw [HQQ.2 h9] at hqc;cases hqc
        omega
       clear hqc HQQ;rw [hR] at HI;clear hR hq
       have HA:Hid (MlI wr wc (w.heap.size+1) w.heap.size a0 cap ys u9 (mP (nmA ys) p+1) ((mdY ys p).pL p) (mH (nmA ys) p)):=by
        have h9:=HI.out;rw [HRI.1] at h9;exact h9
       have HM:Hid (Mc wc (w.heap.size+1) w.heap.size a0 cap ys (mH (nmA ys) p)/\w.heap.size+1<wc.heap.size):=⟨HA.mc,HA.mc.lt⟩
       clear HI HRI;go_upto_region 19 with fail
       generalize hwm:wc=wm at *;clear hwm;have HM2:Hid (w.heap.size+1<wm.heap.size):=HM.2;have A0:Hid (MlE wm (wm.alloc (.cells #[] 49)) (w.heap.size+1) w.heap.size a0 cap ys (sG wm.heap.size 0 0) ((mH (nmA ys) p)+1) 0 (mH (nmA ys) p)):=MlE.new HM.1 (World.grownBy.refl _ _);go_wp2_with fail
       refine (HNum.out _ (mH (nmA ys) p) A0.mc).mono ?_;rintro e w4 ⟨rfl,hm4,hg4⟩;have A1:Hid (MlE wm w4 (w.heap.size+1) w.heap.size a0 cap ys (sG wm.heap.size 0 0) ((mH (nmA ys) p)+1) 0 ((mH (nmA ys) p)+1+3*0)):=A0.call HM2.out hm4 hg4;clear hm4 hg4 A0;obtain ⟨mE,hmE⟩:∃ m,zi (nmA ys) ((mH (nmA ys) p))=m:=⟨_,rfl⟩
       obtain ⟨RE,hRE⟩:∃ R,R=(mdY ys p).hL p:=⟨_,rfl⟩
       have HRE:Hid (RE=(mdY ys p).hL p/\(∀ q,q<RE ↔ (q:Int)<mE/\(mH (nmA ys) p)+1+3*q<=(nmA ys).length)/\RE<=1048577):=by
        refine ⟨hRE,fun q=>?_,?_⟩
        ·rw [hRE,<- hmE]
         exact qtg (by omega)
        ·rw [hRE]
         exact zP (qwp (by omega)) (by have:=HML.out;omega)
       rw [hmE];clear hmE hRE;go_upto_region 22 with fail
       go_loopw [13,14] (fun v i wx=>∃ q:Nat,q<=RE/\i=.int .i64 q/\Hid (MlE wm wx (w.heap.size+1) w.heap.size a0 cap ys v ((mH (nmA ys) p)+1) q ((mH (nmA ys) p)+1+3*q))) (fun _ i _=>RE - (intOf i).toNat)
       case atStart=>exact ⟨0,nD _,rfl,A1.out⟩
       case round=>
        clear A1
        rename World=>wx
        obtain ⟨q,hq,rfl,HI⟩:=hrel;have hc2:=HI.mc.c2;obtain ⟨qq,hqq⟩:∃ qq:Bool,(qq=true ↔ q<RE):=⟨decide (q<RE),by simp⟩
        have HQQ:Hid (qq=true ↔ q<RE):=hqq;clear hqq;go_upto_region 22 with fail
        go_cut [86] from 78 to 85 (fun t wy=>t=.bool qq/\wy=wx)
        case first=>
         by_cases hp:(q:Int)<mE
         ·have e1:qq=decide ((mH (nmA ys) p)+1+3*q<=(nmA ys).length):=by
           rw [Bool.eq_iff_iff,nI,HQQ.out,HRE.2.1 q];exact ⟨fun h=>h.2,fun h=>⟨hp,h⟩⟩
          rw [<- e1] at hc2;clear e1;go_wp2_with fail
          go_meet
          exact ⟨rfl,rfl⟩
         ·have e1:qq=false:=by
           cases h9:qq with
           | false=>rfl
           | true=>exact absurd ((HRE.2.1 q).1 (HQQ.1 h9)).1 hp
          clear hc2;subst e1;go_wp2_with fail
          go_meet
          exact ⟨rfl,rfl⟩
        case rest=>
         obtain ⟨rfl,rfl⟩:=hcut;clear hc2;cases hqc:qq with
         | true=>
          have hlt:q<RE:=HQQ.1 hqc;have hqs:(q:Int)<=1048577:=by have:=HRE.2.2;omega
          clear hqc HQQ;go_wp2_with fail
          refine (HNum.out _ ((mH (nmA ys) p)+1+3*q) HI.mc).mono ?_;rintro e w5 ⟨rfl,hm5,hg5⟩;have B1:Hid (MlE wm w5 (w.heap.size+1) w.heap.size a0 cap ys u13 ((mH (nmA ys) p)+1) q ((mH (nmA ys) p)+1+3*q+1)):=HI.call HM2.out hm5 hg5;have HB5:Hid ((∀ k,u13.ownBlock=some k->k<w5.heap.size)/\wm.heap.size<=w5.heap.size):=⟨fun k hk=>(B1.ow.lt k hk).2,B1.gr.size⟩
          obtain ⟨v0,hv0⟩:∃ v,zi (nmA ys) ((mH (nmA ys) p)+1+3*q)=v:=⟨_,rfl⟩
          have HV0:Hid (zi (nmA ys) ((mH (nmA ys) p)+1+3*q)=v0):=hv0;rw [hv0];clear hv0 hm5 hg5 HI;have B2:Hid (MlE wm (w5.alloc (oQ2 v0 0 0)) (w.heap.size+1) w.heap.size a0 cap ys u13 ((mH (nmA ys) p)+1) q ((mH (nmA ys) p)+1+3*q+1)/\B3x (w5.alloc (oQ2 v0 0 0)) w5.heap.size v0 0 0):=⟨B1.alloc _,B3x.new _ _ v0 0 0⟩
          go_upto_region 25 with fail
          generalize w5.alloc (oQ2 v0 0 0)=w6 at *;generalize w5.heap.size=X5 at *;clear B1 w5;go_wp2_with fail
          refine (HNum.out w6 ((mH (nmA ys) p)+1+3*q+1) B2.1.mc).mono ?_;rintro e w5 ⟨rfl,hm5,hg5⟩;obtain ⟨v1,hv1⟩:∃ v,zi (nmA ys) ((mH (nmA ys) p)+1+3*q+1)=v:=⟨_,rfl⟩
          have HV1:Hid (zi (nmA ys) ((mH (nmA ys) p)+1+3*q+1)=v1):=hv1;rw [hv1];have B3:Hid (MlE wm w5 (w.heap.size+1) w.heap.size a0 cap ys u13 ((mH (nmA ys) p)+1) q ((mH (nmA ys) p)+1+3*q+1+1)/\B3x w5 X5 v0 0 0):=⟨B2.1.call HM2.out hm5 hg5,B2.2.kept hg5 (fun e9=>by cases e9;have h9:=HM2.out;have h8:=HB5.2;omega)⟩
          clear hv1 hm5 hg5 B2;obtain ⟨⟨k0,k1,k2⟩,kf⟩:=B3.2;have B2:Hid (MlE wm (w5.setCell (aQ X5 1) (iV v1)) (w.heap.size+1) w.heap.size a0 cap ys u13 ((mH (nmA ys) p)+1) q ((mH (nmA ys) p)+1+3*q+(1+1))/\B3x (w5.setCell (aQ X5 1) (iV v1)) X5 v0 v1 0):=⟨B3.1.set HM2.out HB5.2 HB5.1 _,B3.2.set1 v1⟩
          go_upto_region 26 with fail
          clear k0 k1 k2 kf B3;generalize w5.setCell (aQ X5 1) (iV v1)=w7 at *;clear w6 w5;go_wp2_with fail
          refine (HNum.out w7 ((mH (nmA ys) p)+1+3*q+2) B2.1.mc).mono ?_;rintro e w5 ⟨rfl,hm5,hg5⟩;obtain ⟨v2,hv2⟩:∃ v,zi (nmA ys) ((mH (nmA ys) p)+1+3*q+2)=v:=⟨_,rfl⟩
          have HV2:Hid (zi (nmA ys) ((mH (nmA ys) p)+1+3*q+2)=v2):=hv2;rw [hv2];have B3:Hid (MlE wm w5 (w.heap.size+1) w.heap.size a0 cap ys u13 ((mH (nmA ys) p)+1) q ((mH (nmA ys) p)+1+3*q+2+1)/\B3x w5 X5 v0 v1 0):=⟨B2.1.call HM2.out hm5 hg5,B2.2.kept hg5 (fun e9=>by cases e9;have h9:=HM2.out;have h8:=HB5.2;omega)⟩
          clear hv2 hm5 hg5 B2;obtain ⟨⟨k0,k1,k2⟩,kf⟩:=B3.2;have B2:Hid (MlE wm (w5.setCell (aQ X5 2) (iV v2)) (w.heap.size+1) w.heap.size a0 cap ys u13 ((mH (nmA ys) p)+1) q ((mH (nmA ys) p)+1+3*q+(2+1))/\B3x (w5.setCell (aQ X5 2) (iV v2)) X5 v0 v1 v2):=⟨B3.1.set HM2.out HB5.2 HB5.1 _,B3.2.set2 v2⟩
          go_upto_region 27 with fail
          clear k0 k1 k2 kf B3;generalize w5.setCell (aQ X5 2) (iV v2)=w8 at *;clear w7 w5;obtain ⟨⟨k0,k1,k2⟩,kf⟩:=B2.2
          have HC:Hid (cE (evN (nmA ys) ((mH (nmA ys) p)+1) q)=[iV v0,iV v1,iV v2]):=by
           show cE (evN (nmA ys) ((mH (nmA ys) p)+1) q)=[iV v0,iV v1,iV v2];rw [<- HV0.out,<- HV1.out,<- HV2.out];rfl
          have hq2:Hid (q<=2000000):=by have:=HRE.2.2;show q<=2000000;omega
          go_wp2_with (at_builtin;refine qai kndE w8 rfl rfl _ _ rfl wm.heap.size u13 q _ rfl B2.1.ow #[.int .i64 v0,.int .i64 v1,.int .i64 v2] rfl rfl (by intro u hu;simp at hu;rcases hu with rfl | rfl | rfl <;> rfl) hq2.out B2.1.gr.size ?_;intro z7 w7 o7 g7 q7 n7;have F7:Hid (MlE wm w7 (w.heap.size+1) w.heap.size a0 cap ys z7 ((mH (nmA ys) p)+1) (q+1) ((mH (nmA ys) p)+1+3*(q+1))):=(B2.1.app HM2.out (by rw [qyi,HC.out];exact o7) g7 n7);clear o7 g7 q7 n7)
          go_roundw
          case rel=>exact ⟨q+1,by omega,by go_num,F7.out⟩
          case measure=>simp [intOf];omega
         | false=>
          have hR:q=RE:=by
           have h9:¬ q<RE:=fun h9=>by rw [HQQ.2 h9] at hqc;cases hqc
           omega
          clear hqc HQQ;rw [hR] at HI;clear hR hq
          have HE:Hid (MlE wm wc (w.heap.size+1) w.heap.size a0 cap ys u13 (mH (nmA ys) p+1) ((mdY ys p).hL p) (mP (nmA ys) (p+1))):=by
           have h9:=HI.out;rw [HRE.1] at h9;exact h9
          have hp2:Hid (p<=2000000):=by
           have h9:=qsn (nmA ys) p;have:=HML.out;show p<=2000000;omega
          have HPr:Hid (wc.ownsRow 0 42 1 u6 p ((List.range p).map up)/\wc.ownsRow 0 50 1 u7 p ((List.range p).map uh)/\∀ b,u6.ownBlock=some b->u7.ownBlock≠some b):=by
           have gE:=HA.gr.trans HE.gr;refine ⟨(J.lp.keep fun b hb hl=>gE.block b hl (fun e=>?_)).row,(J.lh.keep fun b hb hl=>gE.block b hl (fun e=>?_)).row,fun b h1 h2=>?_⟩
           ·have h9:=hb.2
            cases e;rw [J.cc.2] at h9;cases h9
           ·have h9:=hb.2
            cases e;rw [J.cc.2] at h9;cases h9
           ·have h3:=(J.lp.rb b h1).2
            rw [(J.lh.rb b h2).2] at h3;cases h3
          obtain ⟨a9,c9,rfl⟩:=zU HA.ow;obtain ⟨a13,c13,rfl⟩:=zU HE.ow;have hRE:=HRE.1;clear HI HM hRE;have HPut:Hid (∀ z8 z9 w8 w9,w8.ownsRow 0 42 1 z8 (p+1) ((List.range p).map up ++ [.slice a9 ((mdY ys p).pL p) c9])->wc.grownBy w8 u6.ownBlock->(∀ j,z8.ownBlock=some j->u6.ownBlock=some j\/wc.heap.size<=j)->w9.ownsRow 0 50 1 z9 (p+1) ((List.range p).map uh ++ [.slice a13 ((mdY ys p).hL p) c13])->w8.grownBy w9 u7.ownBlock->(∀ j,z9.ownBlock=some j->u7.ownBlock=some j\/w8.heap.size<=j)->∃ c up uh,MoJ w w9 a0 cap ys c (p+1) (mP (nmA ys) (p+1)) z8 z9 up uh):=fun z8 z9 w8 w9 h1 h2 h3 h4 h5 h6=>J.put HA.out HE.out h1 h2 h3 h4 h5 h6;have hn32:(p:Int)<=2000000:=by have:=hp2.out;omega
          go_wp2_with (first
           | (at_builtin;refine qai qqk wc rfl rfl _ _ rfl 0 u6 p _ rfl HPr.1 #[.slice a9 ((mdY ys p).pL p) c9] rfl rfl (by intro u hu;simp at hu;subst hu;rfl) hp2.out (nD _) ?_;intro z8 w8 o8 g8 q8 n8;have F8:Hid (w8.ownsRow 0 42 1 z8 (p+1) ((List.range p).map up ++ [.slice a9 ((mdY ys p).pL p) c9])/\wc.grownBy w8 u6.ownBlock/\(∀ j,z8.ownBlock=some j->u6.ownBlock=some j\/wc.heap.size<=j)/\w8.ownsRow 0 50 1 u7 p ((List.range p).map uh)):=⟨o8,g8,q8,HPr.2.1.kept g8 (by cases hk:u7.ownBlock with | none=>exact .inl rfl | some k=>exact .inr fun e=>HPr.2.2 k e.symm hk)⟩;clear o8 g8 q8 n8)
           | (at_builtin;(refine qai qqj w8 rfl rfl _ _ rfl 0 u7 p _ rfl F8.2.2.2 #[.slice a13 ((mdY ys p).hL p) c13] rfl rfl (by intro u hu;simp at hu;subst hu;rfl) hp2.out (nD _) ?_;intro z9 w9 o9 g9 q9 n9;have F9:Hid (∃ c up uh,MoJ w w9 a0 cap ys c (p+1) (mP (nmA ys) (p+1)) z8 z9 up uh):=(HPut.out z8 z9 w8 w9 F8.1 F8.2.1 F8.2.2.1 o9 g9 q9);clear o9 g9 q9 n9)))
          go_roundw
          case rel=>
           refine ⟨p+1,fun q hq=>?_,by go_num,F9.out⟩;by_cases e:q=p
           ·subst e
            exact ⟨hp,hpl⟩
           ·exact HQ.out q (by omega)
          case measure=>simp [intOf];omega
   | false=>
    have HFin:Hid (MdP (nmA ys) p):=by
     refine ⟨fun q hq=>?_,fun h9=>?_⟩
     ·rw [HZ0.out]
      exact HQ.out q hq
     ·rw [HZ0.out] at h9
      rw [HDD.2 h9] at hdc;cases hdc
    have HPm:Hid (p<=1048576):=by
     show p<=1048576
     rcases Nat.eq_zero_or_pos p with e | e
     ·omega
     ·have h1:=(HQ.out (p - 1) (by omega)).2
      have h2:=qsn (nmA ys) (p - 1);have:=HML.out;omega
    clear hdc HDD HQ;obtain ⟨a6,c6,rfl⟩:=zU J.lp.row;obtain ⟨a7,c7,rfl⟩:=zU J.lh.row
    have HSN : Hid (Calls prog 34 #[.slice a6 p c6] wc (NwR wc p (mdY ys p).pL (mdY ys p).pH)) := qfb a6 p c6 (fun i => adOf (up i)) (mdY ys p).pL (fun i => cpOf (up i)) (mdY ys p).pH wc HPm.out (fun i _ => Nat.le_trans (qtf (by omega)) HML.out) (qde J.lp) (fun i hi => by
     obtain ⟨b,cap,eu,hb,hI,-⟩:=atI (J.lp.own i hi) (J.lp.nn nzI i hi);rw [show adOf (up i)=some (aQ b 0) from by rw [eu];rfl]
     exact srcI hb hI)
    go_upto_region 30 with fail
    go_wp2_with fail
    refine HSN.mono ?_;rintro e w2 ⟨pa,pc,sa,sc,wa,wcc,ha,hc,rfl,o2,q2⟩;obtain ⟨nn,hnn⟩:∃ nn,nwN p (mdY ys p).pL (mdY ys p).pH=nn:=⟨_,rfl⟩
    obtain ⟨S,hS⟩:∃ S,snB p (mdY ys p).pL (mdY ys p).pH=S:=⟨_,rfl⟩
    have HNS:Hid (snB p (mdY ys p).pL (mdY ys p).pH=S/\(S=true->nn=p)):=⟨hS,fun h=>by rw [<- hnn];exact nC (hS.trans h)⟩
    rw [hS];rw [hnn] at o2 ⊢;clear hnn hS HSN;have b3:=zQ w2 (oQ4 pa nn pc sa nn sc wa (nn*nn) wcc ha nn hc);have J3:Hid (MoJ w (w2.alloc (oQ4 pa nn pc sa nn sc wa (nn*nn) wcc ha nn hc)) a0 cap ys c p (mP (nmA ys) p) (.slice a6 p c6) (.slice a7 p c7) up uh/\Own1 (w2.alloc (oQ4 pa nn pc sa nn sc wa (nn*nn) wcc ha nn hc)) wc.heap.size w2.heap.size nn (mdY ys p).pL (mdY ys p).pH (.slice pa nn pc) (.slice sa nn sc) (.slice wa (nn*nn) wcc) (.slice ha nn hc)/\BoxC (w2.alloc (oQ4 pa nn pc sa nn sc wa (nn*nn) wcc ha nn hc)) w2.heap.size (.slice pa nn pc) (.slice sa nn sc) (.slice wa (nn*nn) wcc) (.slice ha nn hc)/\(∀ j,(w2.alloc (oQ4 pa nn pc sa nn sc wa (nn*nn) wcc ha nn hc)).frozen? ⟨w2.heap.size,j,none⟩=false)/\w.heap.size+1<wc.heap.size/\wc.heap.size<=w2.heap.size/\LE true (w2.alloc (oQ4 pa nn pc sa nn sc wa (nn*nn) wcc ha nn hc)) (fun b=>b<wc.heap.size) (.slice a7 p c7) p uh (mdY ys p).hL (mdY ys p).hH):=⟨J.bw (q2.trans (b3.mono q2.size)),o2.bw b3,BoxC.new w2 _ _ _ _ _,fun j=>yB _ _ _ _ rfl,J.lt,q2.size,(J.lh.mono fun k _ hl=>hl).bw (q2.trans (b3.mono q2.size))⟩
    go_upto_region 31 with fail
    clear o2 q2 J b3;generalize w2.alloc (oQ4 pa nn pc sa nn sc wa (nn*nn) wcc ha nn hc)=w3 at *;generalize hX2:w2.heap.size=X2 at *;generalize wc.heap.size=B2 at *;clear hX2 wc w2;have m1:=J3.1.mc.c1;have m2:=J3.1.mc.c2;have hU:umB ys p=(decide (mP (nmA ys) p<=(nmA ys).length) && (decide (psN (nmA ys) (mP (nmA ys) p)=ys.length) && (snB p (mdY ys p).pL (mdY ys p).pH && (wfB ((mdY ys p).ah (mdD ys p)) && (pkT ((mdY ys p).atW (mdD ys p)) && decide (pkS ((mdY ys p).atW (mdD ys p))=ys)))))):=rfl;have HU:Hid (umB ys p=(decide (mP (nmA ys) p<=(nmA ys).length) && (decide (psN (nmA ys) (mP (nmA ys) p)=ys.length) && (snB p (mdY ys p).pL (mdY ys p).pH && (wfB ((mdY ys p).ah (mdD ys p)) && (pkT ((mdY ys p).atW (mdD ys p)) && decide (pkS ((mdY ys p).atW (mdD ys p))=ys))))))):=hU;clear hU;by_cases hA:mP (nmA ys) p<=(nmA ys).length
    case neg=>
     have HV:Hid (umB ys p=false):=by rw [HU.out,decide_eq_false hA];rfl
     rw [decide_eq_false hA] at m2;obtain ⟨r0,r1,r2,r3⟩:=J3.1.ro;have rf:=J3.1.rf;have BL:Hid (Bw w w3):=J3.1.bl;clear hA HU J3;go_wp2;exact bodyPost_ret (v:=.tuple #[sysV none 0 0 none 0 0 none 0 0 none 0 0,.bool false]) (by simp [results,results12,go_sem,r0,r1,r2,r3]) rfl (UmP.no HFin.out HV.out BL.out)
    rw [decide_eq_true hA] at m2;rw [Nat.min_eq_left hA] at m1;by_cases hE:psN (nmA ys) (mP (nmA ys) p)=ys.length
    case neg=>
     have HV:Hid (umB ys p=false):=by rw [HU.out,decide_eq_false hE,Bool.false_and,Bool.and_false];rfl
     have hne:(((psN (nmA ys) (mP (nmA ys) p):Nat):Int) != ((ys.length:Nat):Int))=true:=by
      rw [bne_iff_ne];omega
     obtain ⟨r0,r1,r2,r3⟩:=J3.1.ro;have rf:=J3.1.rf;have BL:Hid (Bw w w3):=J3.1.bl;clear hA HU J3;go_wp2;exact bodyPost_ret (v:=.tuple #[sysV none 0 0 none 0 0 none 0 0 none 0 0,.bool false]) (by simp [results,results12,go_sem,r0,r1,r2,r3]) rfl (UmP.no HFin.out HV.out BL.out)
    have hne:(((psN (nmA ys) (mP (nmA ys) p):Nat):Int) != ((ys.length:Nat):Int))=false:=by
     rw [hE];simp
    cases S with
    | false=>
     have HV:Hid (umB ys p=false):=by rw [HU.out,HNS.1,Bool.false_and,Bool.and_false,Bool.and_false];rfl
     obtain ⟨r0,r1,r2,r3⟩:=J3.1.ro;have rf:=J3.1.rf;have BL:Hid (Bw w w3):=J3.1.bl;clear hA hE HU J3;go_wp2;exact bodyPost_ret (v:=.tuple #[sysV none 0 0 none 0 0 none 0 0 none 0 0,.bool false]) (by simp [results,results12,go_sem,r0,r1,r2,r3]) rfl (UmP.no HFin.out HV.out BL.out)
    | true=>
     have hnn:=HNS.2 rfl;subst hnn
     have hk:nn<=4/\(nwY nn (mdY ys nn).pL (mdY ys nn).pH).Ok:=by
      have h9:=HNS.1;unfold snB at h9;rw [nH,nI] at h9;exact ⟨h9.1,Sy.ok_of h9.2⟩
     have h1:1<=nn:=hk.2.cn.1.1
     have hnZ:n=(nn:Int):=by
      obtain ⟨f1,f2⟩:=HFin.out;have f3:=(f1 (nn - 1) (by omega)).1;rw [HZ0.out] at f2 f3;have f4:¬ (nn:Int)<n:=fun h9=>f2 ⟨h9,hA⟩;omega
     subst hnZ
     have HK:Hid (nn<=4/\1<=nn/\(∀ i,i<nn->(mdY ys nn).pL i<=30)/\umB ys nn=(wfB ((mdY ys nn).ah (mdD ys nn)) && (pkT ((mdY ys nn).atW (mdD ys nn)) && decide (pkS ((mdY ys nn).atW (mdD ys nn))=ys)))):=by
      refine ⟨hk.1,h1,fun i hi=>?_,?_⟩
      ·have h9:=hk.2.pr i hi
       exact qtb h9
      ·rw [HU.out,decide_eq_true hA,decide_eq_true hE,HNS.1]
       rfl
     clear hk hA hE HU HNS;go_upto_region 33 with fail
     clear m1 m2 hne;obtain ⟨gh,caph,e7,-,-,-,-⟩:=J3.1.lh.cell (i:=0) h1;simp only [Value.slice.injEq,true_and] at e7;obtain ⟨rfl,rfl⟩:=e7
     have HRow:Hid (∀ wx,Bw w3 wx->∀ k,k<nn->wx.cell? ⟨gh,k,none⟩=some (.slice (adOf (uh k)) ((mdY ys nn).hL k) (cpOf (uh k)))):=fun wx hb k hk=>by
      obtain ⟨b,off,e9,c9⟩:=(qde (J3.1.lh.bw hb)).at hk;simp only [adOf,nG,Addr.mk.injEq,and_true] at e9;obtain ⟨rfl,rfl⟩:=e9;rw [nL] at c9;exact c9
     have NO:Hid (OwnI (w3.alloc (.cells #[] 3)) w3.heap.size (sG w3.heap.size 0 0) (flT (mdY ys nn) 0)/\Bw w3 (w3.alloc (.cells #[] 3))):=⟨qgl w3 rfl,zQ _ _⟩
     have HHl:Hid (∀ k,k<nn->(mdY ys nn).hL k<=1048576):=fun k hk=>zP (qtf (by omega)) HML.out;have hn4:(nn:Int)<=4:=by have:=HK.1;omega
     clear h1;go_upto_region 35 with fail
     go_loopw [18,19] (fun o i wr=>∃ k:Nat,k<=nn/\i=.int .i64 k/\Hid (OwnI wr w3.heap.size o (flT (mdY ys nn) k)/\Bw w3 wr)) (fun _ i _=>nn - (intOf i).toNat)
     case atStart=>exact ⟨0,nD _,rfl,NO.out⟩
     case round=>
      clear NO
      rename World=>wr
      obtain ⟨k,hk,rfl,HB⟩:=hrel;by_cases hlt:k<nn
      ·have hlt':(k:Int)<(nn:Int):=by omega
       have ch:=HRow.out wr HB.2 k hlt;have hlk:((mdY ys nn).hL k:Int)<=1048576:=by have:=HHl.out k hlt;omega
       have hfl:=qr7 (mdY ys nn) k;have HF:Hid (flT (mdY ys nn) (k+1)=flT (mdY ys nn) k ++ [((mdY ys nn).hL k:Int)]):=quv _ _;have HFl:Hid ((flT (mdY ys nn) k).length<=1048576):=by show _<=_;omega
       clear hfl;go_wp2_with (at_builtin;refine qeq wr rfl _ _ rfl w3.heap.size u18 (flT (mdY ys nn) k) rfl HB.1 ((mdY ys nn).hL k:Int) rfl HFl.out HB.2.size ?_;intro v' w4 o4 b4;have H4:Hid (OwnI w4 w3.heap.size v' (flT (mdY ys nn) (k+1))/\Bw w3 w4):=⟨o4.to HF.out,HB.2.trans (b4.mono (nA _))⟩;clear o4 b4)
       go_roundw
       case rel=>exact ⟨k+1,by omega,by go_num,H4.out⟩
       case measure=>simp [intOf];omega
      ·have hkl:k=nn:=by omega
       have hlt':¬ (k:Int)<(nn:Int):=by omega
       have H4:Hid (OwnI wr w3.heap.size u18 (flT (mdY ys nn) nn)/\Bw w3 wr):=by
        have h9:=HB.out;rw [hkl] at h9;exact h9
       clear HB hkl HRow;have MJ:=J3.1.bw H4.2;obtain ⟨ca,cc,rfl,hsl⟩:=H4.1.form;have hlX:X2<w3.heap.size:=J3.2.2.1.ltR;have gX:wr.grownBy (wr.setCell (aQ X2 3) (sG gh nn c7)) (some X2):=zV (World.grownBy.refl _ _) (.inl rfl) _;have tX:qaw (fun b=>b=X2) wr (wr.setCell (aQ X2 3) (sG gh nn c7)):=qaw.of_grown (P:=fun b=>b=X2) gX fun b e=>by cases e;rfl
       obtain ⟨q1,q2,q3,q4,q5,q6,q7⟩:=J3.out;have kX:∀ b,b<wr.heap.size->b≠X2->(wr.setCell ⟨X2,3,none⟩ (sG gh nn c7)).heap[b]? = wr.heap[b]?:=fun b hb hn=>gX.block b hb fun e=>hn (by cases e;rfl);have hs3:=H4.2.size;have hro:=MJ.ro.ltR;have kr:=kX w.heap.size hro (by omega);obtain ⟨cX,upX,usX,oX⟩:=((q2.bw H4.2).touch tX (fun b hb=>.inl (Nat.le_of_eq hb.symm))).sV;have lX:=(q7.bw H4.2).keep (w':=wr.setCell (aQ X2 3) (sG gh nn c7)) fun b hb hl=>kX b hl (by omega)
       have S8:Hid (Bw w (wr.setCell ⟨X2,3,none⟩ (sG gh nn c7))/\SysG (wr.setCell ⟨X2,3,none⟩ (sG gh nn c7)) ((ynX ys nn).sysIn (.slice pa nn pc) (.slice sa nn sc) (.slice wa (nn*nn) wcc) (sG gh nn c7) upX usX (fun _=>.slice none 0 0) uh)/\Sl (wr.setCell ⟨X2,3,none⟩ (sG gh nn c7)) ca (flT (mdY ys nn) nn)/\SlB (wr.setCell ⟨X2,3,none⟩ (sG gh nn c7)) a0 ys/\BoxC (wr.setCell ⟨X2,3,none⟩ (sG gh nn c7)) w.heap.size nS nS nS nS/\(∀ j,(wr.setCell ⟨X2,3,none⟩ (sG gh nn c7)).frozen? ⟨w.heap.size,j,none⟩=false)/\w.heap.size<(wr.setCell ⟨X2,3,none⟩ (sG gh nn c7)).heap.size):=by
        refine ⟨MJ.bl.setCell (show w.heap.size<=X2 by omega) _,qzq oX lX,?_,MJ.mc.sl.kept MJ.mc.ap (fun b hb=>kX b (by omega) (by omega)) gX.size,MJ.ro.blkR kr,fun j=>(zI kr).trans (MJ.rf j),by rw [World.size_setCell];exact hro⟩
        obtain ⟨ca', cc', e9, h9⟩ := (OwnI.kept H4.1 gX (by
         cases hk:(Value.slice ca (flT (mdY ys nn) nn).length cc).ownBlock with
         | none=>exact .inl rfl
         | some g=>
          refine .inr fun e=>?_;have:=(H4.1.lt g hk).1;cases e
          omega)).form
        simp only [Value.slice.injEq,true_and] at e9;obtain ⟨rfl,-⟩:=e9;exact h9
       have HCp:Hid (∀ i,i<nn->(mdY ys nn).hL i<=cpOf (uh i)):=fun i hi=>qo0 (lX.own i hi);obtain ⟨x0,x1,x2,x3⟩:=q3.bw H4.2;have xf:∀ j,wr.frozen? ⟨X2,j,none⟩=false:=fun j=>(zI (H4.2.block X2 hlX)).trans (q4 j);have y0:(wr.setCell (aQ X2 3) (sG gh nn c7)).cell? (aQ X2 0)=some (.slice pa nn pc):=by go_cell
       have y1:(wr.setCell (aQ X2 3) (sG gh nn c7)).cell? (aQ X2 1)=some (.slice sa nn sc):=by go_cell
       have y2:(wr.setCell (aQ X2 3) (sG gh nn c7)).cell? (aQ X2 2)=some (.slice wa (nn*nn) wcc):=by go_cell
       have y3:(wr.setCell (aQ X2 3) (sG gh nn c7)).cell? (aQ X2 3)=some (sG gh nn c7):=by go_cell
       have YB:Hid (BoxC (wr.setCell (aQ X2 3) (sG gh nn c7)) X2 (.slice pa nn pc) (.slice sa nn sc) (.slice wa (nn*nn) wcc) (sG gh nn c7)):=⟨y0,y1,y2,y3⟩
       clear q1 q2 q3 q4 q5 q6 q7 gX tX kX hs3 hro kr oX lX MJ H4 hsl J3 y0 y1 y2 y3;go_upto_region 39 with fail
       clear x0 x1 x2 x3 xf;generalize wr.setCell (aQ X2 3) (sG gh nn c7)=wS at *;obtain ⟨x0,x1,x2,x3⟩:=YB.out;go_wp2_with fail
       clear x0 x1 x2 x3 YB
       have L8:Hid (Calls prog 35 #[.agg #[.slice pa nn pc,.slice sa nn sc,.slice wa (nn*nn) wcc,.slice (some (aQ gh 0)) nn c7],.slice ca (flT (mdY ys nn) nn).length cc] wS fun e w'=>∃ v,e=.returned (.tuple #[v,.bool (wfB ((mdY ys nn).ah (mdD ys nn)))])/\qan false w' wS.heap.size ((ynX ys nn).atW (mdD ys nn)) v/\Bw wS w'):=
        qu2 ((ynX ys nn).sysIn (.slice pa nn pc) (.slice sa nn sc) (.slice wa (nn*nn) wcc) (sG gh nn c7) upX usX (fun _=>.slice none 0 0) uh) ca cc (flT (mdY ys nn) nn) wS S8.2.1 (Sy.Lim.len (qx1 HK.1 HK.2.2.1 HHl.out)) HCp.out (qr7 _ _) HK.2.1 HK.1 rfl (fun k hk=>⟨(qxm ys (P:=nn) hk).trans (by show _=((mdD ys nn k:Nat):Int);rw [qi8 ys (P:=nn) hk]),by show mdD ys nn k<=(mdY ys nn).hL k;rw [qi8 ys (P:=nn) hk];exact nA _⟩) S8.2.2.1
       refine L8.mono ?_;rintro e w5 ⟨v5,rfl,o5,q5⟩;obtain ⟨x5,rfl,e5,g5,cap5⟩:=o5.inV;have HX5:Hid (x5.Len/\(∀ i,i<x5.hn->x5.hL i<=x5.hC i)/\x5.y=(ynX ys nn).atW (mdD ys nn)):=⟨Sy.Lim.len (by rw [e5];exact qw1 HK.1 HK.2.2.1 HHl.out),cap5,e5⟩
       have b5:=zQ w5 (oQ4 x5.pa x5.pn x5.pc x5.sa x5.sn x5.sc x5.wa x5.wn x5.wc x5.ha x5.hn x5.hc);have qq5:=q5.trans (b5.mono q5.size);have S9:Hid (Bw w (w5.alloc (oQ4 x5.pa x5.pn x5.pc x5.sa x5.sn x5.sc x5.wa x5.wn x5.wc x5.ha x5.hn x5.hc))/\SysG (w5.alloc (oQ4 x5.pa x5.pn x5.pc x5.sa x5.sn x5.sc x5.wa x5.wn x5.wc x5.ha x5.hn x5.hc)) x5/\qan false (w5.alloc (oQ4 x5.pa x5.pn x5.pc x5.sa x5.sn x5.sc x5.wa x5.wn x5.wc x5.ha x5.hn x5.hc)) wS.heap.size ((ynX ys nn).atW (mdD ys nn)) x5.v/\SlB (w5.alloc (oQ4 x5.pa x5.pn x5.pc x5.sa x5.sn x5.sc x5.wa x5.wn x5.wc x5.ha x5.hn x5.hc)) a0 ys/\BoxC (w5.alloc (oQ4 x5.pa x5.pn x5.pc x5.sa x5.sn x5.sc x5.wa x5.wn x5.wc x5.ha x5.hn x5.hc)) w.heap.size nS nS nS nS/\(∀ j,(w5.alloc (oQ4 x5.pa x5.pn x5.pc x5.sa x5.sn x5.sc x5.wa x5.wn x5.wc x5.ha x5.hn x5.hc)).frozen? ⟨w.heap.size,j,none⟩=false)/\BoxC (w5.alloc (oQ4 x5.pa x5.pn x5.pc x5.sa x5.sn x5.sc x5.wa x5.wn x5.wc x5.ha x5.hn x5.hc)) w5.heap.size (.slice x5.pa x5.pn x5.pc) (.slice x5.sa x5.sn x5.sc) (.slice x5.wa x5.wn x5.wc) (.slice x5.ha x5.hn x5.hc)/\w.heap.size<wS.heap.size):=⟨S8.1.trans (qq5.mono S8.1.size),g5.bw b5,o5.bw b5,S8.2.2.2.1.bw qq5,S8.2.2.2.2.1.bw qq5,fun j=>(zI (qq5.block w.heap.size S8.2.2.2.2.2.2)).trans (S8.2.2.2.2.2.1 j),BoxC.new w5 _ _ _ _ _,S8.2.2.2.2.2.2⟩
       obtain ⟨wf,hwf⟩:∃ wf,wfB ((mdY ys nn).ah (mdD ys nn))=wf:=⟨_,rfl⟩
       have HWF:Hid (wfB ((mdY ys nn).ah (mdD ys nn))=wf):=hwf;rw [hwf];clear hwf b5 qq5 q5 o5 g5 cap5 e5 L8 S8 HCp;go_upto_region 40 with fail
       generalize (w5.alloc (oQ4 x5.pa x5.pn x5.pc x5.sa x5.sn x5.sc x5.wa x5.wn x5.wc x5.ha x5.hn x5.hc))=w6 at *;generalize w5.heap.size=X5 at *;generalize wS.heap.size=B6 at *;clear wS w5;obtain ⟨x0,x1,x2,x3⟩:=S9.2.2.2.2.2.2.1;go_wp2_with fail
       clear x0 x1 x2 x3;refine (qeh x5 w6 S9.2.1 HX5.1 HX5.2.1).mono ?_;rintro e w7 ⟨u7,rfl,o7,q7⟩;obtain ⟨ab,cb,rfl,sb⟩:=o7.form;have HPK:Hid (By (pkS x5.y)/\By ys/\SlB w7 ab (pkS x5.y)/\SlB w7 a0 ys):=⟨qs5 _,HBy.out,sb,S9.2.2.2.1.bw q7⟩
       have S10:Hid (Bw w w7/\qan false w7 B6 ((ynX ys nn).atW (mdD ys nn)) x5.v/\w.heap.size<B6):=⟨S9.1.trans (q7.mono S9.1.size),S9.2.2.1.bw q7,S9.2.2.2.2.2.2.2⟩
       obtain ⟨r0,r1,r2,r3⟩:=S9.2.2.2.2.1.bw q7;have rf:∀ j,w7.frozen? ⟨w.heap.size,j,none⟩=false:=fun j=>(zI (q7.block w.heap.size S9.2.2.2.2.1.ltR)).trans (S9.2.2.2.2.2.1 j);obtain ⟨x0,x1,x2,x3⟩:=S9.2.2.2.2.2.2.1.bw q7;clear o7 q7 sb S9;cases wf with
       | false=>
        have HV:Hid (umB ys nn=false):=by rw [HK.2.2.2,HWF.out];rfl
        clear HPK;go_wp2;exact bodyPost_ret (v:=.tuple #[sysV none 0 0 none 0 0 none 0 0 none 0 0,.bool false]) (by simp [results,results12,go_sem,r0,r1,r2,r3]) rfl (UmP.no HFin.out HV.out S10.1)
       | true=>
        have hy:x5.y=(mdY ys nn).atY (mdD ys nn):=HX5.2.2.trans (nC HWF.out);have HY:Hid (x5.y=(mdY ys nn).atY (mdD ys nn)/\(ynX ys nn).atW (mdD ys nn)=(mdY ys nn).atY (mdD ys nn)/\umB ys nn=(pkT x5.y && decide (pkS x5.y=ys))):=⟨hy,nC HWF.out,by rw [HK.2.2.2,HWF.out,hy,show (mdY ys nn).atW (mdD ys nn)=(mdY ys nn).atY (mdD ys nn) from nC HWF.out];rfl⟩
        clear hy;generalize pkT x5.y=pt at *;generalize pkS x5.y=ps at *;cases pt with
        | false=>
         have HV:Hid (umB ys nn=false):=by rw [HY.2.2];rfl
         clear HPK HY;go_wp2;exact bodyPost_ret (v:=.tuple #[sysV none 0 0 none 0 0 none 0 0 none 0 0,.bool false]) (by simp [results,results12,go_sem,r0,r1,r2,r3]) rfl (UmP.no HFin.out HV.out S10.1)
        | true=>
         have e0:=qct HPK.2.2.1 cb;have e1:=qct HPK.2.2.2 cap;have hne:((strOfNums ps).toList == (strOfNums ys).toList)=decide (ps=ys):=qro (qpw HPK.1 HPK.2.1);by_cases hpy:ps=ys
         ·have HV:Hid (umB ys nn=true):=by rw [HY.2.2,decide_eq_true hpy];rfl
          rw [decide_eq_true hpy] at hne;clear HPK hpy;go_wp2;refine bodyPost_ret (v:=.tuple #[sysV x5.pa x5.pn x5.pc x5.sa x5.sn x5.sc x5.wa x5.wn x5.wc x5.ha x5.hn x5.hc,.bool true]) (by simp [results,results12,go_sem,r0,r1,r2,r3]) rfl ⟨nn,HFin.out,sysV x5.pa x5.pn x5.pc x5.sa x5.sn x5.sc x5.wa x5.wn x5.wc x5.ha x5.hn x5.hc,by rw [HV.out],fun _=>?_,fun h9=>absurd (HV.symm.trans h9) (by decide),?_⟩
          ·have h9:=S10.2.1
           rw [HY.2.1] at h9;exact ((((h9.setBelow S10.2.2 0 _).setBelow S10.2.2 1 _).setBelow S10.2.2 2 _).setBelow S10.2.2 3 _).base (nJ S10.2.2)
          ·have hM:w.heap.size<=w.heap.size:=nA _
           exact (((S10.1.setCell hM _).setCell hM _).setCell hM _).setCell hM _
         ·have HV:Hid (umB ys nn=false):=by rw [HY.2.2,decide_eq_false hpy];rfl
          rw [decide_eq_false hpy] at hne;clear HPK HY hpy;go_wp2;exact bodyPost_ret (v:=.tuple #[sysV none 0 0 none 0 0 none 0 0 none 0 0,.bool false]) (by simp [results,results12,go_sem,r0,r1,r2,r3]) rfl (UmP.no HFin.out HV.out S10.1)
theorem qse (w:World) (xs:List Int):qh0 (w.alloc (.cells (xs.map (Value.int .i64)).toArray 3)) w.heap.size xs.length (zi xs):=fun j hj=>by
 rw [zW _ _ _ j rfl,List.getElem?_toArray];exact qc8 xs j hj
theorem qsz (w:World) (xs:List Int) (hl:xs.length<=1000):OwnB (w.alloc (.cells (xs.map (Value.int .u8)).toArray 5)) w.heap.size (sG w.heap.size xs.length xs.length) xs:=by
 have:=World.ownsRow_lit (base:=w.heap.size) (e:=5) (size:=1) w (xs.map (Value.int .u8)).toArray xs.length (nA _) (by unfold maxLen;omega) (by simp);unfold OwnB;exact this
theorem OwnB.capP {w:World} {B n cap:Nat} {a0:Option Addr} {xs:List Int} (h:OwnB w B (.slice a0 n cap) xs):n<=cap:=by
 rcases h.2 with ⟨e,h0⟩ | ⟨g,cp,cur,e,hb,hg,hnc,-⟩
 ·simp only [Value.slice.injEq] at e
  omega
 ·simp only [Value.slice.injEq] at e
  omega
def qzg (w:World) (e:Ending) (w':World):Prop:=∃ (x:SysIn) (B T:Nat),e=.returned x.v/\x.y.Sm/\SysX w' B T x/\Bw w w'
theorem SysX.setN {w:World} {B T N j:Nat} {x:SysIn} (h:SysX w B T x) (hN:N<B) (u:Value):SysX (w.setCell (aQ N j) u) B T x:=by
 have hgg:w.grownBy (w.setCell (aQ N j) u) (some N):=zV (World.grownBy.refl _ _) (.inl rfl) u;exact h.keep (by simp) fun b hb _ hl=>hgg.block b hl (by simp;omega)
theorem qk8 (W0 len cap:Nat) (a0:Option Addr) (w:World) (hB:qb0 w W0 a0 len) (hW:W0<=w.heap.size) (ln:len<=1048576):
  Calls prog 5 #[.slice a0 len cap] w (qzg w):=by
 have C0:Hid (qb0 (w.alloc (zQ3)) W0 a0 len/\W0<=(w.alloc (zQ3)).heap.size/\Bw w (w.alloc (zQ3))/\Bx (w.alloc (zQ3)) w.heap.size nS nS nS nS/\(w.alloc (zQ3)).heap.size=w.heap.size+1):=⟨hB.kept (fun k hk=>(zQ w (zQ3)).block k (by omega)),by simp;omega,zQ _ _,Bx.new w _ _ _ _ _,by simp⟩
 clear hB
 go_enter func5,ntmps5
 go_wp2_with fail
 generalize w.alloc (zQ3)=W2 at *;refine (ql8 W0 len cap a0 W2 C0.1 C0.2.1 ln).mono ?_;rintro e w1 ⟨rfl,hc1,hg1⟩;have C1:Hid (Cur w1 W0 W2.heap.size a0 len cap/\Bw w w1/\Bx w1 w.heap.size nS nS nS nS/\W2.heap.size=w.heap.size+1/\W2.heap.size<w1.heap.size):=⟨hc1,C0.2.2.1.trans ((qcf hg1).mono C0.2.2.1.size),C0.2.2.2.1.bw (qcf hg1),C0.2.2.2.2,hc1.lt⟩
 clear hc1 hg1 C0;generalize W2.heap.size=c at *;go_wp2_with fail
 refine (qqt W0 c len cap a0 w1 C1.1).mono ?_;rintro e w2 ⟨x,B,T,rfl,hm,hX,hc2,hg2,hcB,hT⟩;have h1:=C1.2.2.2.1;have E2:Hid (SysX w2 B T x/\Bw w w2/\w.heap.size<B/\x.y.Sm):=⟨hX,Below.grown C1.2.1 hg2 C1.2.1.size (fun k hk=>by cases hk;omega),by omega,hm⟩
 obtain ⟨⟨x0,x1,x2,x3⟩,xf⟩:=C1.2.2.1.grown hg2 (by simp;omega);clear hX hc2 hg2 hcB hT hm h1 C1;go_wp2;refine bodyPost_ret (v:=x.v) (by simp [results,results5,go_sem,x0,x1,x2,x3]) rfl ⟨x,B,T,rfl,E2.2.2.2,?_,?_⟩
 ·exact (((E2.1.setN E2.2.2.1 _).setN E2.2.2.1 _).setN E2.2.2.1 _).setN E2.2.2.1 _
 ·exact (((E2.2.1.setCell (nA _) _).setCell (nA _) _).setCell (nA _) _).setCell (nA _) _
structure BySl (w:World) (a:Option Addr) (c:Nat) (ys:List Int):Prop where
 sl:SlB w a ys
 by':By ys
 ln:ys.length<=30000
 cp:ys.length<=c
 lt:∀ b o,a=some ⟨b,o,none⟩->b<w.heap.size
theorem BySl.of {w:World} {B c:Nat} {a:Option Addr} {ys:List Int} (h:OwnB w B (.slice a ys.length c) ys) (hb:By ys) (hl:ys.length<=30000):BySl w a c ys:=
 ⟨h.sl2,hb,hl,h.capP,fun b o e=>by subst e;exact (h.lt b rfl).2⟩
def qzh (w:World) (e:Ending) (w':World):Prop:=∃ (a:Option Addr) (c:Nat) (ys:List Int),e=.returned (.slice a ys.length c)/\BySl w' a c ys/\Below w.heap.size w w'
theorem qwk (y:Sy):(pkS y).length<=20000:=by
 unfold pkS
 split
 ·rename_i h
  have hk:y.Ok:=by
   apply Sy.ok_of;unfold pkT at h;rw [nH] at h;exact h.1
  have:=qgc (pkN y y.pn);have:=(qmf hk).1 y.pn (nA _);omega
 ·simp
theorem qtw (a:Option Addr) (len cap h:Nat) (hh:h<=cap) (w:World):(Instr.slice 22 (.slice a len cap) none (some (iV (h:Int))) none).run prog w=.ok (.slice a h cap) w:=by
 have hh':(h:Int)<=(cap:Int):=by omega
 cases a with
 | none=>simp [go_sem,sliced,hh']
 | some a=>simp [go_sem,sliced,hh']
theorem SlB.take {w:World} {a:Option Addr} {ys:List Int} (h:SlB w a ys) (K:Nat):SlB w a (ys.take K):=by
 rcases h with rfl | ⟨b,off,e,hb,hc⟩
 ·exact .inl (by simp)
 ·refine .inr ⟨b,off,e,hb,fun i hi=>?_⟩
  rw [List.length_take] at hi
  have h9:zi (ys.take K) i=zi ys i:=by
   unfold zi;rw [List.getD_eq_getElem?_getD,List.getD_eq_getElem?_getD,List.getElem?_take,nC (by omega)]
  rw [h9];exact hc i (by omega)
theorem By.take {ys:List Int} (h:By ys) (K:Nat):By (ys.take K):=fun i hi=>by
 rw [List.length_take] at hi
 have h9:zi (ys.take K) i=zi ys i:=by
  unfold zi;rw [List.getD_eq_getElem?_getD,List.getD_eq_getElem?_getD,List.getElem?_take,nC (by omega)]
 rw [h9];exact h i (by omega)
theorem qug {ys:List Int} {K:Nat} (hK:K<ys.length) (q:Int) (i:Nat):zi (ys.set K q) i=if i=K then q else zi ys i:=by
 unfold zi;rw [List.getD_eq_getElem?_getD,List.getD_eq_getElem?_getD,List.getElem?_set];by_cases e:K=i
 ·subst e
  rw [nC rfl,nC hK,nC rfl];rfl
 ·rw [nB e,nB fun h=>e h.symm]
theorem By.set {ys:List Int} (h:By ys) {K:Nat} (hK:K<ys.length) {q:Int} (hq:0<=q/\q<=255):By (ys.set K q):=fun i hi=>by
 rw [List.length_set] at hi;rw [qug hK]
 split
 ·exact hq
 ·exact h i hi
theorem SlB.put {w:World} {b off:Nat} {ys:List Int} (h:SlB w (some (aQ b off)) ys) {K:Nat} (hK:K<ys.length) (q:Int):SlB (w.setCell ⟨b,off+K,none⟩ (.int .u8 q)) (some (aQ b off)) (ys.set K q):=by
 rcases h with rfl | ⟨b',off',e,hb,hc⟩
 ·simp at hK
 ·cases e
  refine .inr ⟨b,off,rfl,by simpa using hb,fun i hi=>?_⟩;rw [List.length_set] at hi;have h0:=hc i hi;have hk0:=hc K hK;rw [qug hK];by_cases e:i=K
  ·subst e
   rw [nC rfl]
   go_cell
  ·rw [nB e]
   have hne : (⟨b, off + i, none⟩ : Addr) ≠ ⟨b, off + K, none⟩ := fun h9 => e (by
    simp only [Addr.mk.injEq,and_true,true_and] at h9
    omega)
   go_cell
structure UpC (w wx:World) (W0 c:Nat) (a0:Option Addr) (len cap:Nat) (a:Option Addr) (cp:Nat) (ys:List Int):Prop where
 cu:Cur wx W0 c a0 len cap
 be:Below c w wx
 ow:OwnB wx (c+1) (.slice a ys.length cp) ys
 by':By ys
 ln:ys.length<=20000
theorem UpC.draw {w wx w':World} {W0 c:Nat} {a0:Option Addr} {len cap:Nat} {a:Option Addr} {cp:Nat} {ys:List Int} (h:UpC w wx W0 c a0 len cap a cp ys) (hw:w.heap.size=c) (hc:Cur w' W0 c a0 len cap) (hg:wx.grownBy w' (some c)):UpC w w' W0 c a0 len cap a cp ys:=
 ⟨hc,h.be.trans (Below.grown (nE _ _) hg (by have h9:=h.be.size;omega) (fun k hk=>by cases hk;exact nA _)),h.ow.kept hg (.inr (fun e=>by have:=(h.ow.lt c e).1;omega)),h.by',h.ln⟩
theorem UpC.alloc {w wx:World} {W0 c:Nat} {a0:Option Addr} {len cap:Nat} {a:Option Addr} {cp:Nat} {ys:List Int} (h:UpC w wx W0 c a0 len cap a cp ys) (hw:w.heap.size=c) (o:Obj):UpC w (wx.alloc o) W0 c a0 len cap a cp ys:=
 ⟨h.cu.alloc o,h.be.trans ((zT wx o).mono (by have h9:=h.be.size;omega)),h.ow.bw (zT wx o),h.by',h.ln⟩
theorem qir (W0 len cap:Nat) (a0:Option Addr) (w:World) (hB:qb0 w W0 a0 len) (hW:W0<=w.heap.size) (ln:len<=1048576):
  Calls prog 11 #[.slice a0 len cap] w (qzh w):=by
 have HB:Hid (qb0 w W0 a0 len):=hB;clear hB
 go_enter func11,ntmps11
 go_wp2_with fail
 refine (ql8 W0 len cap a0 w HB.out hW ln).mono ?_;rintro e w1 ⟨rfl,hc1,hg1⟩;have C1:Hid (Cur w1 W0 w.heap.size a0 len cap/\Below w.heap.size w w1):=⟨hc1,qcf hg1⟩
 clear hc1 hg1;obtain ⟨c,hcE⟩:∃ c,w.heap.size=c:=⟨_,rfl⟩
 have HW0:Hid (w.heap.size=c):=hcE;rw [hcE] at C1 ⊢;clear hcE;go_wp2_with fail
 refine (qd5 W0 c len cap a0 w1 C1.1).mono ?_;rintro e w2 ⟨B,T,y,pa,sa,wa,ha,pc,sc,wc,hc,rfl,hgd,hk,hB,hT⟩;obtain ⟨x,ex,ey,hX⟩:=hk.sy.x;have hs1:=C1.2.size;have K2:Hid (Cur w2 W0 c a0 len cap/\Below c w w2/\x.Len):=⟨hk.cu,C1.2.trans (Below.grown (nE _ _) hk.gr (by have:=HW0.out;omega) (fun k hk=>by cases hk;exact nA _)),Sy.Sm.inLen (by rw [ey];exact hgd.sm)⟩
 rw [ex];clear hgd hk hB hT ex ey hs1 C1;go_wp2_with fail
 refine (qeh x w2 hX.self K2.2.2 hX.cap).mono ?_;rintro e w3 ⟨u3,rfl,o3,b3⟩;obtain ⟨a3,c3,rfl,-⟩:=o3.form;have hlt:=K2.1.lt;have K3:Hid (UpC w w3 W0 c a0 len cap a3 c3 (pkS x.y)):=⟨K2.1.kept (zZ b3) (by simp) (fun k hk=>by cases hk),K2.2.1.trans (b3.mono (by omega)),o3.mono (by omega),qs5 _,qwk _⟩
 clear o3 b3 hX hlt K2;generalize pkS x.y=ys at *;generalize pkT x.y=pt at *;by_cases h0:ys.length=0
 ·have h0':(((ys.length:Nat):Int) == 0)=true:=by simp [h0]
  clear h0;go_wp2;exact bodyPost_ret (v:=.slice a3 ys.length c3) (by simp [results,results11,go_sem]) rfl ⟨a3,c3,ys,rfl,BySl.of K3.ow K3.by' (by have:=K3.ln;omega),by rw [HW0.out];exact K3.be⟩
 have h0':(((ys.length:Nat):Int) == 0)=false:=by
  rw [beq_eq_false_iff_ne];omega
 go_wp2_with fail
 refine (zY W0 c len cap a0 5 w3 K3.cu (by omega) (by omega)).mono ?_;rintro e w4 ⟨s,rfl,-,hc4,hg4⟩;have K4:Hid (UpC w w4 W0 c a0 len cap a3 c3 ys):=K3.draw HW0.out hc4 hg4;clear hc4 hg4 K3 h0';by_cases e0:s=0
 ·have t0:(s == 0)=true:=by simp [e0]
  clear e0;go_wp2_with fail
  refine (qg8 W0 c len cap a0 (ys.length:Int) w4 K4.cu (by omega) (by have:=K4.ln;omega)).mono ?_;rintro e w5 ⟨k,rfl,⟨k0,k1⟩,hc5,hg5⟩;have K5:Hid (UpC w w5 W0 c a0 len cap a3 c3 ys):=K4.draw HW0.out hc5 hg5;obtain ⟨K,rfl⟩:∃ K:Nat,k=(K:Int):=⟨k.toNat,by omega⟩
  clear hc5 hg5 K4;have IL:Hid (qh0 (w5.alloc (zQ7)) w5.heap.size 8 (zi [0,1,2,4,6,127,128,255])):=qse w5 [0,1,2,4,6,127,128,255];have KA:Hid (UpC w (w5.alloc (zQ7)) W0 c a0 len cap a3 c3 ys/\w5.heap.size<(w5.alloc (zQ7)).heap.size/\c<w5.heap.size):=⟨K5.alloc HW0.out _,by simp,K5.cu.lt⟩
  clear K5;go_wp2_with fail
  generalize w5.alloc (zQ7)=wA at *;generalize w5.heap.size=g at *;refine (qg9 W0 c len cap g 8 8 a0 _ wA KA.1.cu (by omega) (by omega) KA.2.1 (by have:=KA.2.2;omega) IL.out).mono ?_;rintro e w6 ⟨kk,hkk,rfl,hc6,hg6⟩
  have hq:0<=zi [0,1,2,4,6,127,128,255] kk/\zi [0,1,2,4,6,127,128,255] kk<=255:=by
   match kk,hkk with
   | 0,_=>decide
   | 1,_=>decide
   | 2,_=>decide
   | 3,_=>decide
   | 4,_=>decide
   | 5,_=>decide
   | 6,_=>decide
   | 7,_=>decide
  generalize zi [0,1,2,4,6,127,128,255] kk=q at *;have hqw:IntKind.u8.wrap q=q:=by rw [IntKind.wrap_u8];omega
  have K6:Hid (UpC w w6 W0 c a0 len cap a3 c3 ys):=KA.1.draw HW0.out hc6 hg6;clear hc6 hg6 KA IL;have hKl:K<ys.length:=by omega
  obtain ⟨g3,cp3,e3,hg3,hfz⟩:∃ g cp,Value.slice a3 ys.length c3=.slice (some ⟨g,0,none⟩) ys.length cp/\c+1<=g/\∀ j,w6.frozen? ⟨g,j,none⟩=false:=by
   have h9:=K6.ow
   rcases h9.2 with ⟨-,h8⟩ | ⟨g,cp,cur,e,hbg,-⟩
   ·omega
   ·rw [e] at h9
    exact ⟨g,cp,e,hbg,fun j=>h9.frozen j⟩
  simp only [Value.slice.injEq,true_and] at e3;obtain ⟨rfl,rfl⟩:=e3;have hsl:=K6.ow.sl2;obtain ⟨b,off,e9,hlt,ck⟩:=hsl.at hKl
  have hcell:w6.cell? ⟨g3,0+K,none⟩=some (.int .u8 (zi ys K)):=by
   cases e9;exact ck
  clear ck hlt e9 b off;have HF:Hid (BySl (w6.setCell ⟨g3,0+K,none⟩ (.int .u8 q)) (some (aQ g3 0)) c3 (ys.set K q)/\Below c w (w6.setCell ⟨g3,0+K,none⟩ (.int .u8 q))):=⟨⟨hsl.put hKl q,K6.by'.set hKl hq,by rw [List.length_set];have:=K6.ln;omega,by rw [List.length_set];exact K6.ow.capP,fun b o e=>by cases e;simpa using (K6.ow.lt g3 rfl).2⟩,K6.be.setCell (show c<=g3 by omega) _⟩
  rw [nL] at hcell HF;have hKi:(K:Int)<(ys.length:Int):=by omega
  clear hsl;go_wp2;refine bodyPost_ret (v:=.slice (some ⟨g3,0,none⟩) ys.length c3) (by simp [results,results11,go_sem]) rfl ⟨some ⟨g3,0,none⟩,c3,ys.set K q,by rw [List.length_set],HF.1,by rw [HW0.out];exact HF.2⟩
 have t0:(s == 0)=false:=by simp [e0]
 by_cases e1:s=1
 ·have t1:(s == 1)=true:=by simp [e1]
  clear e0 e1;have hl5:(ys.length:Int)<=20000:=by have:=K4.ln;omega
  go_wp2_with fail
  refine (qg8 W0 c len cap a0 ((ys.length:Int)+1) w4 K4.cu (by omega) (by have:=K4.ln;omega)).mono ?_;rintro e w5 ⟨k,rfl,⟨k0,k1⟩,hc5,hg5⟩;have K5:Hid (UpC w w5 W0 c a0 len cap a3 c3 ys):=K4.draw HW0.out hc5 hg5;obtain ⟨K,rfl⟩:∃ K:Nat,k=(K:Int):=⟨k.toNat,by omega⟩
  clear hc5 hg5 K4;have hKl:K<=ys.length:=by omega
  have sl:=qtw a3 ys.length c3 K (zP hKl K5.ow.capP)
  have HF:Hid (BySl w5 a3 c3 (ys.take K)/\Below c w w5/\(ys.take K).length=K):=by
   have hlen:(ys.take K).length=K:=by rw [List.length_take];omega
   have h9:=BySl.of K5.ow K5.by' (by have:=K5.ln;omega);exact ⟨⟨h9.sl.take K,h9.by'.take K,by have:=h9.ln;omega,by have:=h9.cp;omega,h9.lt⟩,K5.be,hlen⟩
  clear K5;go_wp2;refine bodyPost_ret (v:=.slice a3 K c3) (by simp [results,results11,go_sem]) rfl ⟨a3,c3,ys.take K,by rw [HF.2.2],HF.1,by rw [HW0.out];exact HF.2.1⟩
 have t1:(s == 1)=false:=by simp [e1]
 by_cases e2:s=2
 ·have t2:(s == 2)=true:=by simp [e2]
  clear e0 e1 e2;have OL:Hid (SlB (w4.alloc (.cells #[.int .u8 0] 5)) (some (aQ w4.heap.size 0)) [0]):=(qsz w4 [0] (by simp)).sl2;have KA:Hid (UpC w (w4.alloc (.cells #[.int .u8 0] 5)) W0 c a0 len cap a3 c3 ys/\c+1<=(w4.alloc (.cells #[.int .u8 0] 5)).heap.size):=⟨K4.alloc HW0.out _,by simp;have:=K4.cu.lt;omega⟩
  clear K4;go_wp2_with (at_builtin;refine qbe (w4.alloc (.cells #[.int .u8 0] 5)) rfl _ _ rfl (c+1) 1 (.slice a3 ys.length c3) (some (aQ w4.heap.size 0)) ys [0] rfl rfl KA.1.ow OL.out (by simp only [List.length_cons,List.length_nil];have:=KA.1.ln;omega) KA.2 ?_;intro vE wE oE gE _;have HE:Hid (OwnB wE (c+1) vE (ys ++ [0])/\By (ys ++ [0])/\(ys ++ [0]).length<=30000/\Below c w wE):=⟨oE,qrq KA.1.by' (fun i hi=>by simp at hi;subst hi;decide),by rw [List.length_append];simp only [List.length_cons,List.length_nil];have:=KA.1.ln;omega,KA.1.be.trans (Below.grown (nE _ _) gE (by have:=KA.2;omega) (fun k hk=>by have:=(KA.1.ow.lt k hk).1;omega))⟩;clear oE gE)
  obtain ⟨a5,c5,rfl,-⟩:=HE.1.form;clear KA OL;go_wp2;refine bodyPost_ret (v:=.slice a5 (ys ++ [0]).length c5) (by simp [results,results11,go_sem]) rfl ⟨a5,c5,ys ++ [0],rfl,BySl.of HE.1 HE.2.1 HE.2.2.1,by rw [HW0.out];exact HE.2.2.2⟩
 have t2:(s == 2)=false:=by simp [e2]
 clear e0 e1 e2;go_wp2;exact bodyPost_ret (v:=.slice a3 ys.length c3) (by simp [results,results11,go_sem]) rfl ⟨a3,c3,ys,rfl,BySl.of K4.ow K4.by' (by have:=K4.ln;omega),by rw [HW0.out];exact K4.be⟩
theorem qgo {g g':Nat->I5} {len:Nat} {n:Int} (h:∀ i,i<len->g' i=g i):qaa g' len n=qaa g len n:=by
 have e:qhg g' len n len=qhg g len n len:=by
  unfold qhg;rw [Bool.eq_iff_iff,List.all_eq_true,List.all_eq_true];refine ⟨fun h9 i hi=>?_,fun h9 i hi=>?_⟩
  ·have:=h9 i hi
   unfold okAt at this ⊢
   rwa [h i (List.mem_range.1 hi)] at this
  ·have:=h9 i hi
   unfold okAt at this ⊢
   rwa [h i (List.mem_range.1 hi)]
 unfold qaa;rw [e]
theorem qti {g g':Nat->I5} {len:Nat} {p:Int} {rs os:List Int} {code:Int} (h:∀ i,i<len->g' i=g i):qbj g' len p rs os code=qbj g len p rs os code:=by
 unfold qbj;rw [qgo h]
theorem qpr {g g':Nat->I5} {len:Nat} {p:Int} {rs os:List Int} {code:Int} (h:∀ i,i<len->g' i=g i) (hr:qbj g len p rs os code=true):g' p.toNat=g p.toNat:=by
 obtain ⟨-,hs,-⟩:=qa7 hr;obtain ⟨-,⟨k,rfl,hk⟩,-⟩:=qbq hs;rw [nF];exact h k hk
theorem qw6 {g g':Nat->I5} {len:Nat} {p:Int} {rs os:List Int} {code k q v:Int} (h:∀ i,i<len->g' i=g i):doB g' len p rs os code k q v=doB g len p rs os code k q v:=by
 unfold doB nxK nxP nxW;rw [qti h];by_cases hr:qbj g len p rs os code=true
 ·rw [qpr h hr]
 ·rw [nB hr,nB hr,nB hr,nB hr,nB hr,nB hr]
theorem qq1 {g g':Nat->I5} {len:Nat} (h:∀ i,i<len->g' i=g i) (x:E3) (S:S4):qcz g' len x S=qcz g len x S:=by
 unfold qcz doS;rw [qw6 h];by_cases hd:doB g len S.p S.rs S.os S.c x.k x.q x.v=true
 ·rw [qpr h (qci hd)]
 ·rw [nB hd,nB hd]
theorem qwt {g g':Nat->I5} {len:Nat} {eh eh':Nat->E3} (h:∀ i,i<len->g' i=g i):∀ {k:Nat},(∀ i,i<k->eh' i=eh i)->rp g' len eh' k=rp g len eh k
 | 0,_=>rfl
 | k+1,he=>by
  show (rp g' len eh' k).bind (qcz g' len (eh' k))=(rp g len eh k).bind (qcz g len (eh k));rw [qwt h fun i hi=>he i (by omega),he k (by omega)]
  congr 1
  exact funext fun S=>qq1 h _ S
theorem qve {g g':Nat->I5} {len m:Nat} {eh eh':Nat->E3} (h:∀ i,i<len->g' i=g i) (he:∀ i,i<m->eh' i=eh i):repO g' len eh' m=repO g len eh m:=by
 unfold repO;rw [qgo h,qwt h he]
structure Sy.Sim (t y:Sy) (d' d:Nat->Nat):Prop where
 pn:t.pn=y.pn
 p:∀ i,i<y.pn->t.pL i=y.pL i/\∀ k,k<y.pL i->t.pH i k=y.pH i k
 h:∀ i,i<y.pn->d' i=d i/\∀ k,k<d i->t.hH i k=y.hH i k
section
variable {t y:Sy} {d' d:Nat->Nat}
theorem Sy.Sim.val (e:t.Sim y d' d) {i:Nat} (hi:i<y.pn) (kd pr:Int):valL (t.hH i) kd pr (d' i)=valL (y.hH i) kd pr (d i):=by
 rw [(e.h i hi).1];exact qjd (e.h i hi).2
theorem Sy.Sim.cnt (e:t.Sim y d' d) {i:Nat} (hi:i<y.pn) (kd pr:Int):cnt (t.hH i) kd pr (d' i)=cnt (y.hH i) kd pr (d i):=by
 rw [(e.h i hi).1];exact qdf (e.h i hi).2
theorem Sy.Sim.wy (e:t.Sim y d' d) {a b:Nat} (ha:a<y.pn) (hb:b<y.pn):wyL (t.ah d') a b=wyL (y.ah d) a b:=by
 show (valL (t.hH a) 2 b (d' a)).drop (Go.Proofs.YtbgfjbgdiifghaaGreatDoor.cnt (t.hH b) 3 a (d' b))=(valL (y.hH a) 2 b (d a)).drop (Go.Proofs.YtbgfjbgdiifghaaGreatDoor.cnt (y.hH b) 3 a (d b));rw [e.val ha,e.cnt hb]
theorem Sy.Sim.rep (e:t.Sim y d' d) {i:Nat} (hi:i<y.pn):repO (t.pH i) (t.pL i) (t.hH i) (d' i)=repO (y.pH i) (y.pL i) (y.hH i) (d i):=by
 rw [(e.h i hi).1,(e.p i hi).1];exact qve (e.p i hi).2 (e.h i hi).2
theorem Sy.Sim.wh (e:t.Sim y d' d) (h:y.Wh d):t.Wh d':=fun a ha b hb=>by
 rw [e.pn] at ha hb;show Go.Proofs.YtbgfjbgdiifghaaGreatDoor.cnt (t.hH b) 3 a (d' b)<=Go.Proofs.YtbgfjbgdiifghaaGreatDoor.cnt (t.hH a) 2 b (d' a);rw [e.cnt hb,e.cnt ha];exact h a ha b hb
theorem Sy.Sim.wf (e:t.Sim y d' d) (h:wfB (y.ah d)=true):wfB (t.ah d')=true:=by
 refine qa5 fun a ha b hb=>?_;have ha:a<t.pn:=ha;have hb:b<t.pn:=hb;rw [e.pn] at ha hb;rw [e.wy ha hb];exact qim.1 h a ha b hb
theorem Hs.Put.sim {x x':Hs} (hn:x'.n=x.n) (he:∀ p,p<x.n->x'.l p=x.l p/\∀ i,i<x.l p->x'.e p i=x.e p i) {d:Nat->Nat} (h:x.Put d):x'.Put d:=by
 induction h with
 | start=>exact .start
 | next h0 hp hc ih=>
  rename_i d p;have hd:=h0.le;refine .next ih (by omega) ⟨?_,fun h3=>?_⟩
  ·rw [(he p hp).1]
   exact hc.1
  ·rw [(he p hp).2 _ hc.1] at h3 ⊢
   have h9:=hc.2 h3;rw [qdf fun i hi=>(he p hp).2 i (by have:=hc.1;omega)];by_cases hq:(x.e p (d p)).q.toNat<x.n
   ·rw [qdf (eh:=x.e (x.e p (d p)).q.toNat) fun i hi=>(he _ hq).2 i (zL hi (hd _))]
    exact h9
   ·rw [h0.out (x.e p (d p)).q.toNat (Nat.le_of_not_lt hq)] at h9
    exact absurd h9 (Nat.not_lt_zero _)
theorem Sy.Sim.ok (e:t.Sim y d' d) (h:(y.atY d).Ok):(t.atY d').Ok:=by
 have hc:(1<=y.pn/\y.pn<=4):=h.cn.1;refine ⟨⟨by show 1<=t.pn/\t.pn<=4;rw [e.pn];exact hc,rfl,rfl,rfl⟩,fun p hp=>?_,fun p hp=>?_,fun p hp i hi=>?_,fun a ha b hb=>?_,?_⟩
 ·have hp:p<t.pn:=hp
  show qaa (t.pH p) (t.pL p) t.pn=true;rw [e.pn] at hp ⊢;rw [(e.p p hp).1,qgo (e.p p hp).2];exact h.pr p hp
 ·have hp:p<t.pn:=hp
  rw [e.pn] at hp;have h9:repO (y.pH p) (y.pL p) (y.hH p) (d p)=some (resS (repO (y.pH p) (y.pL p) (y.hH p) (d p))):=h.rp p hp;show repO (t.pH p) (t.pL p) (t.hH p) (d' p)=some (resS (repO (t.pH p) (t.pL p) (t.hH p) (d' p)));rw [e.rep hp];exact h9
 ·have hp:p<t.pn:=hp
  have hi:i<d' p:=hi;show (t.hH p i).q<(t.pn:Int);rw [e.pn] at hp ⊢;rw [(e.h p hp).1] at hi;rw [(e.h p hp).2 i hi];exact h.pe p hp i hi
 ·have ha:a<t.pn:=ha
  have hb:b<t.pn:=hb;show WayP (itL (wyL (t.ah d') ((a*t.pn+b) / t.pn) ((a*t.pn+b) % t.pn))) (wyL (t.ah d') ((a*t.pn+b) / t.pn) ((a*t.pn+b) % t.pn)).length (valL (t.hH b) 3 a (d' b)) (valL (t.hH a) 2 b (d' a));rw [e.pn] at ha hb ⊢;have h9:WayP (itL (wyL (y.ah d) ((a*y.pn+b) / y.pn) ((a*y.pn+b) % y.pn))) (wyL (y.ah d) ((a*y.pn+b) / y.pn) ((a*y.pn+b) % y.pn)).length (valL (y.hH b) 3 a (d b)) (valL (y.hH a) 2 b (d a)):=h.wa a ha b hb;rw [(que hb).1,(que hb).2] at h9 ⊢;rw [e.wy ha hb,e.val hb,e.val ha];exact h9
 ·obtain ⟨c,hp,hall⟩:=h.ro
  refine ⟨c,hp.sim e.pn (fun p hp=>e.h p hp),fun p hp=>?_⟩;have hp:p<t.pn:=hp;rw [e.pn] at hp;exact (hall p hp).trans (e.h p hp).1.symm
end
theorem qxu {x:Int} (h:numB x=true):puB x=true:=by
 simp only [numB,inB,nI] at h;unfold puB;rw [nI];omega
theorem qyv {o r a b n len procs:Int} (hl:len<=30) (h:qae o r a b n len procs=true):puB o=true/\puB r=true/\puB a=true/\puB b=true/\puB n=true:=by
 simp only [qae,nH,inB,nI] at h;obtain ⟨⟨⟨⟨⟨r1,r2⟩,a1,a2⟩,b1,b2⟩,p1,p2⟩,ho⟩:=h
 have key:(1<=o/\o<=11) /\ -1000000000<=n/\n<=1000000000:=by
  rcases qd6 o with h0 | h0 | h0 | h0 | h0 | h0 | h0 | h0 | h0 | h0 | h0 | h0
  ·rw [qey _ _ _ _ _ _ _ h0] at ho
   cases ho
  all_goals
   subst h0;simp [qbf,inB,belB] at ho;omega
 have pp:∀ x:Int,-1000000000<=x->x<=1000000000->puB x=true:=fun x h1 h2=>by
  unfold puB;rw [nI];omega
 exact ⟨pp _ (by omega) (by omega),pp _ (by omega) (by omega),pp _ (by omega) (by omega),pp _ (by omega) (by omega),pp _ (by omega) (by omega)⟩
theorem qyh (o:Int):puB (evK o)=true:=by
 unfold evK
 split
 ·rfl
 ·split
  ·rfl
  ·split
   ·rfl
   ·rfl
theorem qun {g:Nat->I5} {len:Nat} {p:Int} {rs os:List Int} {code k q v:Int} (h:doB g len p rs os code k q v=true):puB k=true:=by
 have hr:=qci h;unfold doB canB at h
 split at h
 ·simp only [nH,beq_iff_eq] at h
  rw [h.1.1];rfl
 ·simp only [nH,beq_iff_eq] at h
  rw [h.2.1,nxK,nC hr];exact qyh _
theorem qxw {g:Nat->I5} {n:Nat} {eh:Nat->E3} {m k:Nat} {S:S4} (h:rp g n eh m=some S) (hk:k<m):puB (eh k).k=true:=by
 cases h0:rp g n eh k with
 | none=>
  have:=qed h0 (nJ hk);rw [this] at h;cases h
 | some T=>
  cases hd:doB g n T.p T.rs T.os T.c (eh k).k (eh k).q (eh k).v with
  | true=>exact qun hd
  | false=>
   have:=qed (qtj h0 hd) hk;rw [this] at h;cases h
theorem qzr {y:Sy} (hO:y.Ok):∀ x ∈ pkN y y.pn,puB x=true:=by
 have hc:=hO.cn;have hb:=hO.bds;refine qoi (Q:=fun x=>puB x=true) (qcy (by omega) (by omega)) fun p hp=>?_;have hp30:=hb.1 p hp;have h200:=hO.hl200 hp;refine ⟨qcy (by omega) (by omega),qcy (by omega) (by omega),qoh fun i hi=>?_,qog fun i hi=>?_⟩
 ·exact qyv (by omega) (qbo (hO.pr p hp) hi)
 ·obtain ⟨-,-,h3⟩:=qbh (hO.rp p hp)
  have hq:=hO.evq hp hi;exact ⟨qxw h3 hi,qcy hq.1 (by omega),qxu (qwr h3 hi)⟩
theorem qs2 {h h':Nat->I5}:∀ {n:Nat},pkI h n=pkI h' n->∀ i,i<n->h i=h' i
 | 0,_,i,hi=>by omega
 | n+1,e,i,hi=>by
  rw [pkI,pkI] at e;obtain ⟨e1,e2⟩:=List.append_inj e (by rw [qcl,qcl])
  rcases Nat.lt_succ_iff_lt_or_eq.1 hi with h1 | rfl
  ·exact qs2 e1 i h1
  ·simp only [List.cons.injEq,and_true] at e2
   obtain ⟨q1,q2,q3,q4,q5⟩:=e2;cases h9:h i;cases h8:h' i;rw [h9,h8] at q1 q2 q3 q4 q5;simp only at q1 q2 q3 q4 q5;rw [q1,q2,q3,q4,q5]
theorem qs1 {h h':Nat->E3}:∀ {n:Nat},pkE h n=pkE h' n->∀ i,i<n->h i=h' i
 | 0,_,i,hi=>by omega
 | n+1,e,i,hi=>by
  rw [pkE,pkE] at e;obtain ⟨e1,e2⟩:=List.append_inj e (by rw [qd8,qd8])
  rcases Nat.lt_succ_iff_lt_or_eq.1 hi with h1 | rfl
  ·exact qs1 e1 i h1
  ·simp only [List.cons.injEq,and_true] at e2
   obtain ⟨q1,q2,q3⟩:=e2;cases h9:h i;cases h8:h' i;rw [h9,h8] at q1 q2 q3;simp only at q1 q2 q3;rw [q1,q2,q3]
theorem qpy {A B C:List Int} {k:Nat} (h:A.length=k):(A ++ B ++ C).take (k+B.length)=A ++ B:=by
 rw [<- h,<- List.length_append];exact List.take_left' rfl
theorem qva {y:Sy} (hb:∀ p,p<y.pn->y.pL p<=30/\y.hL p<=200) {N:List Int} (hN:N=pkN y y.pn):∀ n,n<=y.pn->(prK N n).isSome=true/\kP N n=(pkN y n).length/\(n<y.pn->ctN N (kP N n)=y.pL n/\ctN N (hP N n)=y.hL n/\(∀ i,i<y.pL n->itN N (kP N n+1) i=y.pH n i)/\(∀ i,i<y.hL n->evN N (hP N n+1) i=y.hH n i)/\lsK N 5 30 (kP N n)=some (hP N n)/\lsK N 3 200 (hP N n)=some (pkN y (n+1)).length):=by
 have part:∀ n,n<y.pn->∀ k,k=(pkN y n).length->kP N n=k->ctN N (kP N n)=y.pL n/\ctN N (hP N n)=y.hL n/\(∀ i,i<y.pL n->itN N (kP N n+1) i=y.pH n i)/\(∀ i,i<y.hL n->evN N (hP N n+1) i=y.hH n i)/\lsK N 5 30 (kP N n)=some (hP N n)/\lsK N 3 200 (hP N n)=some (pkN y (n+1)).length:=by
  intro n hn k hk ek;obtain ⟨R,e⟩:=qgn y (p:=n+1) (n:=y.pn) hn
  have e1:N=pkN y n ++ ((y.pL n:Nat):Int) :: (pkI (y.pH n) (y.pL n) ++ (((y.hL n:Nat):Int) :: pkE (y.hH n) (y.hL n)) ++ R):=by
   rw [hN,e,pkN,pkP];simp
  have e2:N=(pkN y n ++ ((y.pL n:Nat):Int) :: pkI (y.pH n) (y.pL n)) ++ ((y.hL n:Nat):Int) :: (pkE (y.hH n) (y.hL n) ++ R):=by
   rw [hN,e,pkN,pkP];simp
  have e3:N=(pkN y n ++ [((y.pL n:Nat):Int)]) ++ pkI (y.pH n) (y.pL n) ++ (((y.hL n:Nat):Int) :: (pkE (y.hH n) (y.hL n) ++ R)):=by
   rw [hN,e,pkN,pkP];simp
  have e4:N=(pkN y n ++ ((y.pL n:Nat):Int) :: pkI (y.pH n) (y.pL n) ++ [((y.hL n:Nat):Int)]) ++ pkE (y.hH n) (y.hL n) ++ R:=by
   rw [hN,e,pkN,pkP];simp
  have lN:N.length=(pkN y n).length+(2+5*y.pL n+3*y.hL n)+R.length:=by
   rw [hN,e,List.length_append,pkN,List.length_append,qkf]
  have l5:=qcl (y.pH n) (y.pL n);have l3:=qd8 (y.hH n) (y.hL n)
  have lA:(pkN y n ++ ((y.pL n:Nat):Int) :: pkI (y.pH n) (y.pL n)).length=k+1+5*y.pL n:=by
   rw [List.length_append,List.length_cons,l5];omega
  have z1:zi N k=((y.pL n:Nat):Int):=by
   rw [hk];exact (congrArg (fun L=>zi L (pkN y n).length) e1).trans (qk6 _ _ _)
  have c1:ctN N k=y.pL n:=by
   unfold ctN;rw [z1,nF]
  have hH:hP N n=k+1+5*y.pL n:=by
   unfold hP;rw [ek,c1]
  have z2:zi N (k+1+5*y.pL n)=((y.hL n:Nat):Int):=by
   rw [<- lA];exact (congrArg (fun L=>zi L (pkN y n ++ ((y.pL n:Nat):Int) :: pkI (y.pH n) (y.pL n)).length) e2).trans (qk6 _ _ _)
  have c2:ctN N (k+1+5*y.pL n)=y.hL n:=by
   unfold ctN;rw [z2,nF]
  have hbn:=hb n hn;rw [ek,hH];refine ⟨c1,c2,?_,?_,?_,?_⟩
  ·have h9:=qk1 N (k+1) (y.pL n) (by omega)
   have h8:N.take (k+1+5*y.pL n)=(pkN y n ++ [((y.pL n:Nat):Int)]) ++ pkI (y.pH n) (y.pL n):=by
    have:=qpy (A:=pkN y n ++ [((y.pL n:Nat):Int)]) (B:=pkI (y.pH n) (y.pL n)) (C:=((y.hL n:Nat):Int) :: (pkE (y.hH n) (y.hL n) ++ R)) (k:=k+1) (by simp;omega);rw [<- e3,l5] at this;exact this
   rw [h8] at h9;exact qs2 (List.append_inj h9 (by rw [List.length_take,List.length_append];simp;omega)).2.symm
  ·have h9:=qk0 N (k+1+5*y.pL n+1) (y.hL n) (by omega)
   have h8:N.take (k+1+5*y.pL n+1+3*y.hL n)=(pkN y n ++ ((y.pL n:Nat):Int) :: pkI (y.pH n) (y.pL n) ++ [((y.hL n:Nat):Int)]) ++ pkE (y.hH n) (y.hL n):=by
    have:=qpy (A:=pkN y n ++ ((y.pL n:Nat):Int) :: pkI (y.pH n) (y.pL n) ++ [((y.hL n:Nat):Int)]) (B:=pkE (y.hH n) (y.hL n)) (C:=R) (k:=k+1+5*y.pL n+1) (by rw [List.length_append,lA];rfl);rw [<- e4,l3] at this;exact this
   rw [h8] at h9;exact qs1 (List.append_inj h9 (by rw [List.length_take,List.length_append,lA];simp;omega)).2.symm
  ·have h9:lsK N 5 30 k=some (k+1+5*ctN N k):=nC ⟨by omega,by rw [z1];omega,by rw [z1];omega,by rw [c1];omega⟩
   rw [h9,c1]
  ·have h9:lsK N 3 200 (k+1+5*y.pL n)=some (k+1+5*y.pL n+1+3*ctN N (k+1+5*y.pL n)):=nC ⟨by omega,by rw [z2];omega,by rw [z2];omega,by rw [c2];omega⟩
   rw [h9,c2,pkN,List.length_append,qkf]
   congr 1
   omega
 intro n
 induction n with
 | zero=>exact fun _=>⟨rfl,rfl,fun h=>part 0 h 1 rfl rfl⟩
 | succ n ih=>
  intro hn;obtain ⟨i1,i2,i3⟩:=ih (by omega);obtain ⟨-,-,-,-,l1,l2⟩:=i3 (by omega)
  have e:prK N (n+1)=some (pkN y (n+1)).length:=by
   obtain ⟨k,hk⟩:=Option.isSome_iff_exists.1 i1
   have hk2:kP N n=k:=by
    unfold kP;rw [hk];rfl
   rw [prK,hk,Option.bind_some,<- hk2,l1,Option.bind_some,l2]
  have ek:kP N (n+1)=(pkN y (n+1)).length:=by
   unfold kP;rw [e];rfl
  exact ⟨by rw [e];rfl,ek,fun h=>part (n+1) h _ rfl ek⟩
theorem qs6 {y:Sy} (hT:pkT y=true):upB (pkS y)=true/\(upS (pkS y)).pn=y.pn/\(∀ p,p<y.pn->(upS (pkS y)).hL p=y.hL p/\(∀ i,i<y.hL p->(upS (pkS y)).hH p i=y.hH p i)/\(upS (pkS y)).sS p=y.sS p)/\(upS (pkS y)).hn=y.pn/\(upS (pkS y)).sn=y.pn:=by
 have hO:y.Ok:=by
  apply Sy.ok_of;unfold pkT at hT;rw [nH] at hT;exact hT.1
 have hS:pkS y=byL (pkN y y.pn):=nC hT
 have hM:nmA (pkS y)=pkN y y.pn:=by
  rw [hS];exact qsr fun j hj=>qzr hO _ (qm2 hj)
 obtain ⟨⟨h1,h4⟩,-,hh,-⟩:=hO.cn;have hbd:=(qmf hO).2.1;have hp:=qva hbd hM
 have hz0:zi (nmA (pkS y)) 0=(y.pn:Int):=by
  obtain ⟨R,e⟩:=qgn y (p:=0) (n:=y.pn) (nD _);rw [hM,e];rfl
 have hc0:ctN (nmA (pkS y)) 0=y.pn:=by
  unfold ctN;rw [hz0,nF]
 have hl0:0<(nmA (pkS y)).length:=by
  obtain ⟨R,e⟩:=qgn y (p:=0) (n:=y.pn) (nD _);rw [hM,e];simp [pkN]
 have hend:psN (nmA (pkS y)) (kP (nmA (pkS y)) y.pn)=(pkS y).length:=by
  rw [(hp y.pn (nA _)).2.1,psN,<- hM,List.take_length,hM,hS]
 have hr:rsB (pkS y)=true:=qtn hz0 h1 h4 hl0 (hp y.pn (nA _)).1 hend
 have sim:(rY (pkS y)).Sim y (rY (pkS y)).hL y.hL:=by
  refine ⟨hc0,fun i hi=>?_,fun i hi=>?_⟩
  ·obtain ⟨a1,a2,a3,a4,-⟩:=(hp i (nJ hi)).2.2 hi
   exact ⟨a1,a3⟩
  ·obtain ⟨a1,a2,a3,a4,-⟩:=(hp i (nJ hi)).2.2 hi
   exact ⟨a2,a4⟩
 have hwf:=hO.full_wf (d:=y.hL) fun _ _=>rfl;have hOk:=hO.atOk (fun _ _=>nA _) hO.whole hwf;have hO2:=sim.ok hOk
 have hc:ctB (rY (pkS y)) (rY (pkS y)).hL=true:=qrt (sim.wh hO.whole) (sim.wf hwf) fun p hpp=>by
  have h9:=hO2.rp p hpp;exact (congrArg Option.isSome h9).trans rfl
 have hs:ctS (rY (pkS y)) (rY (pkS y)).hL=(rY (pkS y)).atY (rY (pkS y)).hL:=nC hc
 have hu:upB (pkS y)=true:=by
  unfold upB;rw [hr,hc,hs,Sy.okB_true hO2];rfl
 have eS:upS (pkS y)=(rY (pkS y)).atY (rY (pkS y)).hL:=nC hu;rw [eS];refine ⟨hu,hc0,fun p hpp=>?_,hc0,hc0⟩;obtain ⟨a1,a2⟩:=sim.h p hpp;refine ⟨a1,a2,?_⟩;show resS (repO ((rY (pkS y)).pH p) ((rY (pkS y)).pL p) ((rY (pkS y)).hH p) ((rY (pkS y)).hL p))=y.sS p;rw [sim.rep hpp,hO.rp p hpp];rfl
theorem qzv {ys:List Int} (hb:By ys) (h:upB ys=true):pkT (upS ys)=true/\pkS (upS ys)=ys:=by
 have eS:upS ys=(rY ys).atY (rY ys).hL:=nC h;rw [eS];unfold upB at h;simp only [nH] at h;obtain ⟨hr,hc,ho⟩:=h;have hs:ctS (rY ys) (rY ys).hL=(rY ys).atY (rY ys).hL:=nC hc;rw [hs] at ho;unfold rsB at hr;simp only [nH,nI,beq_iff_eq] at hr;obtain ⟨⟨h0,h1,h4⟩,hp,he⟩:=hr;have hn:1<=ctN (nmA ys) 0:=(Sy.ok_of ho).cn.1.1
 have hz:zi (nmA ys) 0=((ctN (nmA ys) 0:Nat):Int):=by
  unfold ctN;omega
 obtain ⟨m1,m2⟩:mP (nmA ys) (ctN (nmA ys) 0)=kP (nmA ys) (ctN (nmA ys) 0)/\mP (nmA ys) (ctN (nmA ys) 0)<=(nmA ys).length:=by
  rcases qph hp with h9 | h9
  ·exact h9
  ·omega
 rw [m1] at m2;have he':psN (nmA ys) (kP (nmA ys) (ctN (nmA ys) 0))=ys.length:=by omega
 obtain ⟨k1,k2⟩:=(qwi hb m2).1 he'
 have hT:pkT ((rY ys).atY (rY ys).hL)=true:=by
  unfold pkT;rw [ho]
  have hno:¬ ((rY ys).atY (rY ys).hL).Marks:=by
   rintro ⟨i,hi,k,hk,h9⟩;cases h9
  unfold pB;simp [hno]
 refine ⟨hT,?_⟩;unfold pkS;rw [nC hT];have h9:=qk2 (N:=nmA ys) (y:=(rY ys).atY (rY ys).hL) h0 hz (ctN (nmA ys) 0) hp fun p _=>⟨rfl,rfl,rfl,rfl⟩
 rw [k1,List.take_length] at h9;show byL (pkN ((rY ys).atY (rY ys).hL) (ctN (nmA ys) 0))=ys;rw [<- h9];exact k2
def RsP (w:World) (N:Nat) (ys:List Int) (e:Ending) (w':World):Prop:=∃ aa an ac da dn dc,e=.returned (.tuple #[.agg #[.slice aa an ac,nS,nS,.slice da dn dc],.bool (rsB ys)])/\(rsB ys=true->∃ c up uh,OwnS false w' w.heap.size c (rsY ys (ctN (nmA ys) 0) (ctN (nmA ys) 0)) (.slice aa an ac) nS nS (.slice da dn dc) up (fun _=>.slice none 0 0) (fun _=>.slice none 0 0) uh)/\w.grownBy w' (some N)
structure RsBx (wx:World) (B F:Nat) (a0:Option Addr) (n cap N:Nat) (c:Nat->Nat):Prop where
 r:BxR wx B (.slice a0 n cap) (.pointer (some (aQ N 0)))
 o:BoxC wx (B+1) nS nS nS nS
 of:∀ j,wx.frozen? ⟨B+1,j,none⟩=false
 f:wx.cell? (aQ F 0)=some (.func (.func 56) #[] #[])/\wx.cell? (aQ F 1)=some (.func (.func 57) #[] #[])
 cc:c B=0/\c (B+1)=0/\c F=0
theorem RsBx.lt {wx:World} {B F n cap N:Nat} {a0:Option Addr} {c:Nat->Nat} (h:RsBx wx B F a0 n cap N c):B+1<wx.heap.size/\F<wx.heap.size:=⟨h.o.ltR,zJ wx _ h.f.1⟩
theorem RsBx.kept {wx w':World} {B F n cap N X i:Nat} {a0:Option Addr} {c:Nat->Nat} (h:RsBx wx B F a0 n cap N c) (hk:∀ b,b<wx.heap.size->c b=0->b≠N->b≠X->w'.heap[b]? = wx.heap[b]?) (hN:N<B) (hX:B+1<X) (hF:F≠X) (hFB:B<F):RsBx w' B F a0 n cap N (rcol c wx.heap.size i):=by
 obtain ⟨l1,l2⟩:=h.lt;have k0:=hk B (by omega) h.cc.1 (by omega) (by omega);have k1:=hk (B+1) l1 h.cc.2.1 (by omega) (by omega);have k2:=hk F l2 h.cc.2.2 (by omega) hF;exact ⟨⟨(zH k0).trans h.r.1,(zH k0).trans h.r.2⟩,h.o.blkR k1,fun j=>(zI k1).trans (h.of j),⟨(zH k2).trans h.f.1,(zH k2).trans h.f.2⟩,(qam (by omega)).trans h.cc.1,(qam l1).trans h.cc.2.1,(qam l2).trans h.cc.2.2⟩
theorem RsP.no {w wx:World} {N:Nat} {ys:List Int} (h:rsB ys=false) (g:w.grownBy wx (some N)):RsP w N ys (.returned (.tuple #[.agg #[nS,nS,nS,nS],.bool false])) ((((wx.setCell ⟨w.heap.size+1,0,none⟩ nS).setCell ⟨w.heap.size+1,1,none⟩ nS).setCell ⟨w.heap.size+1,2,none⟩ nS).setCell ⟨w.heap.size+1,3,none⟩ nS):=by
 have hM:∀ j,some N=some (Addr.mk (w.heap.size+1) j none).block\/w.heap.size<=(Addr.mk (w.heap.size+1) j none).block:=fun j=>.inr (by show w.heap.size<=w.heap.size+1;omega);refine ⟨none,0,0,none,0,0,by rw [h],fun e=>(by rw [h] at e;cases e),?_⟩;iterate 4 (refine zV ?_ (hM _) _)
 exact g
theorem RsJ.fin {w wx w':World} {N W0 X k np nh:Nat} {a0:Option Addr} {ys:List Int} {c:Nat->Nat} {vp vh:Value} {up uh:Nat->Value} (J:RsJ w wx N W0 X k np nh a0 ys c vp vh up uh) (hk:∀ b,b<wx.heap.size->c b≠0->w'.heap[b]? = wx.heap[b]?):OwnS false w' w.heap.size c (rsY ys np nh) vp nS nS vh up (fun _=>.slice none 0 0) (fun _=>.slice none 0 0) uh:=
 ⟨(J.p.keep fun b hb hl=>hk b hl (by rw [hb.2];decide)).weak,LS.nil _ _ _ _,LL.nil _ _ _ _ _ _ _ _,(J.h.keep fun b hb hl=>hk b hl (by rw [hb.2];decide)).weak⟩
def RsS (w wx:World) (N W0 X B F:Nat) (a0:Option Addr) (ys:List Int) (cap k np nh:Nat):Prop:=∃ c vp vh up uh,RsJ w wx N W0 X k np nh a0 ys c vp vh up uh/\RsBx wx B F a0 ys.length cap N c
theorem qwu {ys:List Int} {p:Nat} (hp:p<ctN (nmA ys) 0) (h:(lsK (nmA ys) 5 30 (kP (nmA ys) p)).isSome=false\/(lsK (nmA ys) 3 200 (hP (nmA ys) p)).isSome=false):rsB ys=false:=by
 unfold rsB;cases hs:(prK (nmA ys) (ctN (nmA ys) 0)).isSome with
 | false=>simp
 | true=>
  obtain ⟨h1,h2⟩:=qhv hs p hp;rw [h1,h2] at h
  rcases h with h | h <;> cases h
theorem qxx {ys:List Int} (h1:decide (0<(nmA ys).length/\1<=zi (nmA ys) 0/\zi (nmA ys) 0<=4)=true) (h2:(prK (nmA ys) (ctN (nmA ys) 0)).isSome=true):rsB ys=(((psN (nmA ys) (kP (nmA ys) (ctN (nmA ys) 0)):Nat):Int) == ((ys.length:Nat):Int)):=by
 unfold rsB;rw [h1,h2];rfl
def RsQ (w wx:World) (N W0 X B F:Nat) (a0:Option Addr) (ys:List Int) (cap p q:Nat):Prop:=
 (q=0/\RsS w wx N W0 X B F a0 ys cap (kP (nmA ys) p) p p)\/(q=1/\RsS w wx N W0 X B F a0 ys cap (hP (nmA ys) p) (p+1) p/\(lsK (nmA ys) 5 30 (kP (nmA ys) p)).isSome=true)\/(q=2/\RsS w wx N W0 X B F a0 ys cap (kP (nmA ys) (p+1)) (p+1) (p+1)/\(prK (nmA ys) (p+1)).isSome=true)
theorem qtr (w:World):(Instr.index 100 (.agg #[.func (.func 56) #[] #[],.func (.func 57) #[] #[]]) (iV 0)).run prog w=.ok (.func (.func 56) #[] #[]) w:=by kernel_rfl
theorem qts (w:World):(Instr.index 100 (.agg #[.func (.func 56) #[] #[],.func (.func 57) #[] #[]]) (iV 1)).run prog w=.ok (.func (.func 57) #[] #[]) w:=by kernel_rfl
attribute [local go_sem] qtr qts
theorem qoo (a0:Option Addr) (cap N W0:Nat) (ys:List Int) (w:World) (hlen:ys.length<=1048576) (hcap:ys.length<=cap) (hb:By ys) (h:Rd w N W0 a0 ys 0):
  Calls prog 26 #[.agg #[.slice a0 ys.length cap,.pointer (some (aQ N 0))]] w (RsP w N ys):=by
 have HNum:Hid (∀ wx k',Rd wx N W0 a0 ys k'->Calls prog 55 #[.agg #[.slice a0 ys.length cap,.pointer (some ⟨N,0,none⟩)]] wx fun e w'=>e=.returned (rdXp ys k')/\Rd w' N W0 a0 ys (rdK ys k')/\wx.grownBy w' (some N)):=fun wx k' hx=>qkb a0 cap N W0 k' ys wx hlen hcap hb hx;have HPr:Hid (∀ (X k np nh:Nat) (c:Nat->Nat) (vp vh:Value) (up uh:Nat->Value) (wx:World),RsJ w wx N W0 X k np nh a0 ys c vp vh up uh->np<=1000->nh<=1000->k=kP (nmA ys) np->Calls prog 56 #[.agg #[.slice a0 ys.length cap,.pointer (some ⟨N,0,none⟩)],.pointer (some ⟨X,0,none⟩)] wx (RpP w wx N W0 X k np nh a0 ys c vp vh up uh)):=fun X k np nh c vp vh up uh wx h1 h2 h3 h4=>qmk a0 cap N W0 X k np nh ys c vp vh up uh w wx hlen hcap hb h1 h2 h3 h4;have HEv:Hid (∀ (X k np nh:Nat) (c:Nat->Nat) (vp vh:Value) (up uh:Nat->Value) (wx:World),RsJ w wx N W0 X k np nh a0 ys c vp vh up uh->np<=1000->nh<=1000->k=hP (nmA ys) nh->Calls prog 57 #[.agg #[.slice a0 ys.length cap,.pointer (some ⟨N,0,none⟩)],.pointer (some ⟨X,0,none⟩)] wx (RqvP w wx N W0 X k np nh a0 ys c vp vh up uh)):=fun X k np nh c vp vh up uh wx h1 h2 h3 h4=>qiz a0 cap N W0 X k np nh ys c vp vh up uh w wx hlen hcap hb h1 h2 h3 h4;have HEnd:Hid (∀ wx k,Rd wx N W0 a0 ys k->Calls prog 58 #[.agg #[.slice a0 ys.length cap,.pointer (some ⟨N,0,none⟩)]] wx fun e w'=>e=.returned (.bool (((psN (nmA ys) k:Nat):Int) == ((ys.length:Nat):Int)))/\Bw wx w'):=fun wx k hx=>qn0 a0 cap N W0 k ys wx hx;have hM:Hid (w.heap.size<=w.heap.size+1/\N<w.heap.size):=⟨nK _,h.lt⟩
 have A0:Hid (Bw w ((w.alloc (.cells #[.slice a0 ys.length cap,.pointer (some ⟨N,0,none⟩)] 57)).alloc (zQ3))/\BxR ((w.alloc (.cells #[.slice a0 ys.length cap,.pointer (some ⟨N,0,none⟩)] 57)).alloc (zQ3)) w.heap.size (.slice a0 ys.length cap) (.pointer (some ⟨N,0,none⟩))/\BoxC ((w.alloc (.cells #[.slice a0 ys.length cap,.pointer (some ⟨N,0,none⟩)] 57)).alloc (zQ3)) (w.heap.size+1) nS nS nS nS/\(∀ j,((w.alloc (.cells #[.slice a0 ys.length cap,.pointer (some ⟨N,0,none⟩)] 57)).alloc (zQ3)).frozen? ⟨w.heap.size+1,j,none⟩=false)/\((w.alloc (.cells #[.slice a0 ys.length cap,.pointer (some ⟨N,0,none⟩)] 57)).alloc (zQ3)).heap.size=w.heap.size+2):=by
  have b2:=zQ (w.alloc (.cells #[.slice a0 ys.length cap,.pointer (some (aQ N 0))] 57)) (zQ3);refine ⟨(zQ _ _).trans (b2.mono (by simp)),⟨?_,?_⟩,⟨zW _ _ _ 0 (by simp),zW _ _ _ 1 (by simp),zW _ _ _ 2 (by simp),zW _ _ _ 3 (by simp)⟩,fun j=>yB _ _ _ _ (by simp),by simp⟩
  ·exact (b2.cell (p:=(aQ w.heap.size 0)) (by simp)).trans (zW _ _ _ 0 rfl)
  ·exact (b2.cell (p:=(aQ w.heap.size 1)) (by simp)).trans (zW _ _ _ 1 rfl)
 have HR0:Hid (Rd w N W0 a0 ys 0):=h;clear h hlen hcap hb
 go_enter func26,ntmps26
 go_upto_region 1 with fail
 generalize (w.alloc (.cells #[.slice a0 ys.length cap,.pointer (some (aQ N 0))] 57)).alloc (zQ3)=w1 at *;obtain ⟨r0,r1⟩:=A0.2.1;go_wp2_with fail
 clear r0 r1;refine (HNum.out w1 0 (HR0.bw A0.1)).mono ?_;rintro e w2 ⟨rfl,hr2,hg2⟩
 have G2:Hid (w.grownBy w2 (some N)/\w.heap.size+2<=w2.heap.size/\BxR w2 w.heap.size (.slice a0 ys.length cap) (.pointer (some ⟨N,0,none⟩))/\BoxC w2 (w.heap.size+1) nS nS nS nS/\(∀ j,w2.frozen? ⟨w.heap.size+1,j,none⟩=false)):=by
  have hs:=A0.2.2.2.2;have hn:=hM.2;have k0:=hg2.block w.heap.size (by omega) (by simp;omega);have k1:=hg2.block (w.heap.size+1) (by omega) (by simp;omega);exact ⟨((World.grownBy.refl w (some N)).andThen (zZ A0.1) (fun j hj=>by cases hj)).trans hg2,by have:=hg2.size;omega,⟨(zH k0).trans A0.2.1.1,(zH k0).trans A0.2.1.2⟩,A0.2.2.1.blkR k1,fun j=>(zI k1).trans (A0.2.2.2.1 j)⟩
 clear hg2 A0 HNum HR0;by_cases hk:0<(nmA ys).length
 case neg=>
  have HV:Hid (rsB ys=false):=by
   show rsB ys=false;unfold rsB;rw [decide_eq_false (fun hh=>hk hh.1)];rfl
  rw [show rdXp ys 0=.tuple #[iV 0,.bool false] from nB hk];obtain ⟨r0,r1,r2,r3⟩:=G2.2.2.2.1;have rf:=G2.2.2.2.2;clear hr2 hk HPr HEv HEnd;go_wp2;exact bodyPost_ret (v:=.tuple #[.agg #[nS,nS,nS,nS],.bool false]) (by simp [results,results26,go_sem,r0,r1,r2,r3]) rfl (RsP.no HV.out G2.1)
 rw [show rdXp ys 0=.tuple #[iV (zi (nmA ys) 0),.bool true] from nC hk];rw [show rdK ys 0=1 from nC hk] at hr2;obtain ⟨c,hc⟩:∃ c,zi (nmA ys) 0=c:=⟨_,rfl⟩
 rw [hc];by_cases hcl:c<1\/4<c
 case pos=>
  have HV:Hid (rsB ys=false):=by
   show rsB ys=false;unfold rsB;rw [decide_eq_false (fun hh=>by omega)];rfl
  obtain ⟨r0,r1,r2,r3⟩:=G2.2.2.2.1;have rf:=G2.2.2.2.2;clear hr2 hk HPr HEv HEnd hc;by_cases hc1:c<1
  ·clear hcl
   go_wp2;exact bodyPost_ret (v:=.tuple #[.agg #[nS,nS,nS,nS],.bool false]) (by simp [results,results26,go_sem,r0,r1,r2,r3]) rfl (RsP.no HV.out G2.1)
  ·have hc4:4<c:=by omega
   clear hcl;go_wp2;exact bodyPost_ret (v:=.tuple #[.agg #[nS,nS,nS,nS],.bool false]) (by simp [results,results26,go_sem,r0,r1,r2,r3]) rfl (RsP.no HV.out G2.1)
 obtain ⟨n,rfl⟩:∃ n:Nat,c=n:=⟨c.toNat,by omega⟩
 have hc1:¬ (n:Int)<1:=by omega
 have hc4:¬ 4<(n:Int):=by omega
 have HC:Hid (ctN (nmA ys) 0=n/\n<=4/\decide (0<(nmA ys).length/\1<=zi (nmA ys) 0/\zi (nmA ys) 0<=4)=true):=⟨by unfold ctN;rw [hc];simp,by omega,decide_eq_true ⟨hk,by omega,by omega⟩⟩
 have HR2:Hid (Rd w2 N W0 a0 ys 1):=hr2;clear hr2 hk hcl hc;go_upto_region 6 with fail
 have J0:Hid (RsS w ((w2.alloc (zQ3)).alloc (.cells #[.func (.func 56) #[] #[],.func (.func 57) #[] #[]] 100)) N W0 w2.heap.size w.heap.size (w2.heap.size+1) a0 ys cap (kP (nmA ys) 0) 0 0):=by
  obtain ⟨g2,s2,b2,o2,f2⟩:=G2.out;have bX:=zQ w2 (zQ3);have bF:=zQ (w2.alloc (zQ3)) (.cells #[.func (.func 56) #[] #[],.func (.func 57) #[] #[]] 100);have bb:=bX.trans (bF.mono (by simp));have hn:=hM.2;have k0:=bb.block w.heap.size (by omega);have k1:=bb.block (w.heap.size+1) (by omega);exact ⟨fun _=>0,_,_,fun _=>.slice none 0 0,fun _=>.slice none 0 0,RsJ.start (HR2.bw bb) ((BoxC.new w2 _ _ _ _ _).bw bF) (fun j=>(zI (bF.block w2.heap.size (by simp))).trans (yB _ _ _ _ rfl)) rfl (by omega) (g2.andThen (zZ bb) (fun j hj=>by cases hj)) hn _ _,⟨⟨(zH k0).trans b2.1,(zH k0).trans b2.2⟩,o2.blkR k1,fun j=>(zI k1).trans (f2 j),⟨zW _ _ _ 0 (by simp),zW _ _ _ 1 (by simp)⟩,rfl,rfl,rfl⟩⟩
 have HF:Hid (w.heap.size+1<w2.heap.size/\N<w.heap.size):=⟨by have:=G2.2.1;omega,hM.2⟩
 clear HR2 G2 hM;generalize (w2.alloc (zQ3)).alloc (.cells #[.func (.func 56) #[] #[],.func (.func 57) #[] #[]] 100)=W3 at *;generalize w2.heap.size=X at *;simp only [show decide ((n:Int)<1)=false from decide_eq_false (by omega),show decide ((4:Int)<n)=false from decide_eq_false (by omega),Bool.false_or];clear hc1 hc4 w2
 rename (1:Int)<=n/\(n:Int)<=4=>hcc
 clear hcc;go_upto_region 7 with fail
 go_loopw [28] (fun i wr=>∃ p:Nat,p<=n/\i=.int .i64 p/\Hid (RsS w wr N W0 X w.heap.size (X+1) a0 ys cap (kP (nmA ys) p) p p/\(prK (nmA ys) p).isSome=true)) (fun i _=>n - (intOf i).toNat)
 case atStart=>exact ⟨0,nD _,rfl,J0.out,rfl⟩
 case round=>
  clear J0
  rename World=>wr
  obtain ⟨p,hp,rfl,HI⟩:=hrel;have hn4:(n:Int)<=4:=by have:=HC.2.1;omega
  by_cases hlt:p<n
  case neg=>
   have e9:p=n:=by omega
   have hlt':¬ (p:Int)<(n:Int):=by omega
   obtain ⟨hs,hl⟩:=HI.out;obtain ⟨c,vp,vh,up,uh,J,BX⟩:=hs;obtain ⟨va,vc,rfl⟩:=qvf J.p.row;obtain ⟨ha,hc,rfl⟩:=qvf J.h.row;have HJ:Hid (RsJ w wr N W0 X (kP (nmA ys) p) p p a0 ys c (.slice va p vc) (.slice ha p hc) up uh/\RsBx wr w.heap.size (X+1) a0 ys.length cap N c):=⟨J,BX⟩
   have HE:Hid (rsB ys=(((psN (nmA ys) (kP (nmA ys) p):Nat):Int) == ((ys.length:Nat):Int))):=by
    have h9:=qxx HC.2.2 (by rw [HC.1,<- e9];exact hl);rw [HC.1,<- e9] at h9;exact h9
   have HPn:Hid (p=ctN (nmA ys) 0):=by rw [HC.1];exact e9
   clear J BX HI hl HPr HEv e9;go_upto_region 15 with fail
   obtain ⟨x0,x1,x2,x3⟩:=HJ.1.bx;obtain ⟨r0,r1⟩:=HJ.2.r;refine qag (fun w'=>BoxC w' X (.slice va p vc) nS nS (.slice ha p hc)/\BxR w' w.heap.size (.slice a0 ys.length cap) (.pointer (some (aQ N 0)))) (fun _=>false) (by kernel_rfl) ?_;have B0:Hid (Bw wr wr.drew):=(nE _ _).drew;have hHeld:(fun w':World=>BoxC w' X (.slice va p vc) nS nS (.slice ha p hc)/\BxR w' w.heap.size (.slice a0 ys.length cap) (.pointer (some (aQ N 0)))) wr.drew:=⟨⟨x0,x1,x2,x3⟩,r0,r1⟩
   clear x0 x1 x2 x3 r0 r1;refine qch 0 rfl hHeld ⟨.agg #[.slice va p vc,nS,nS,.slice ha p hc],fun wq hSw=>?_,?_⟩
   ·obtain ⟨⟨y0,y1,y2,y3⟩,-⟩:=hSw
    go_simp
   refine qch 1 rfl hHeld ⟨.agg #[.slice a0 ys.length cap,.pointer (some (aQ N 0))],fun wq hSw=>?_,?_⟩
   ·obtain ⟨-,y0,y1⟩:=hSw
    go_simp
   (try simp only [Act.put,zD,zE,zF])
   clear hHeld;refine yW 2 rfl fun K hK=>?_;refine qc0 rfl 58 _ _ rfl #[.agg #[.slice a0 ys.length cap,.pointer (some (aQ N 0))]] (by simp [Act.eval]) (yA func58) (HEnd.out wr.drew _ HJ.1.rd.drew) ?_;rintro e w5 ⟨rfl,q5⟩;rw [<- HE.out];have F5:Hid (Bw wr w5):=B0.trans (q5.mono B0.size)
   have X5:Hid (BoxC w5 X (.slice va p vc) nS nS (.slice ha p hc)/\BxR w5 w.heap.size (.slice a0 ys.length cap) (.pointer (some ⟨N,0,none⟩))/\BoxC w5 (w.heap.size+1) nS nS nS nS/\∀ j,w5.frozen? ⟨w.heap.size+1,j,none⟩=false):=by
    have l1:=HJ.2.lt.1;have k0:=F5.block w.heap.size (by omega);have k1:=F5.block (w.heap.size+1) l1;exact ⟨HJ.1.bx.blkR (F5.block X HJ.1.bx.ltR),⟨(zH k0).trans HJ.2.r.1,(zH k0).trans HJ.2.r.2⟩,HJ.2.o.blkR k1,fun j=>(zI k1).trans (HJ.2.of j)⟩
   refine ⟨_,rfl,?_⟩;refine hK.out _ _ (fun _=>⟨X5.1,X5.2.1⟩) ?_;clear hK K q5 HEnd B0
   (try simp only [Act.put,zD,zE,zF])
   refine yW 3 rfl fun K hK=>?_;obtain ⟨o0,o1,o2,o3⟩:=X5.2.2.1;have rf:=X5.2.2.2
   have S6:Hid (BoxC ((((w5.setCell ⟨w.heap.size+1,0,none⟩ (.slice va p vc)).setCell ⟨w.heap.size+1,1,none⟩ nS).setCell ⟨w.heap.size+1,2,none⟩ nS).setCell ⟨w.heap.size+1,3,none⟩ (.slice ha p hc)) X (.slice va p vc) nS nS (.slice ha p hc)/\BxR ((((w5.setCell ⟨w.heap.size+1,0,none⟩ (.slice va p vc)).setCell ⟨w.heap.size+1,1,none⟩ nS).setCell ⟨w.heap.size+1,2,none⟩ nS).setCell ⟨w.heap.size+1,3,none⟩ (.slice ha p hc)) w.heap.size (.slice a0 ys.length cap) (.pointer (some ⟨N,0,none⟩))/\∀ b,b≠w.heap.size+1->((((w5.setCell ⟨w.heap.size+1,0,none⟩ (.slice va p vc)).setCell ⟨w.heap.size+1,1,none⟩ nS).setCell ⟨w.heap.size+1,2,none⟩ nS).setCell ⟨w.heap.size+1,3,none⟩ (.slice ha p hc)).heap[b]? = w5.heap[b]?):=by
    have kk:∀ b,b≠w.heap.size+1->((((w5.setCell ⟨w.heap.size+1,0,none⟩ (.slice va p vc)).setCell ⟨w.heap.size+1,1,none⟩ nS).setCell ⟨w.heap.size+1,2,none⟩ nS).setCell ⟨w.heap.size+1,3,none⟩ (.slice ha p hc)).heap[b]? = w5.heap[b]?:=fun b hb=>(zO _ _ _ b hb).trans ((zO _ _ _ b hb).trans ((zO _ _ _ b hb).trans (zO _ _ _ b hb)));have k0:=kk w.heap.size (by omega);exact ⟨X5.1.blkR (kk X (by have:=HF.1;omega)),⟨(zH k0).trans X5.2.1.1,(zH k0).trans X5.2.1.2⟩,kk⟩
   go_simp;refine hK.out _ _ (fun _=>⟨S6.1,S6.2.1⟩) ?_;clear hK K
   (try simp only [Act.put,zD,zE,zF])
   have hHeld:(fun w':World=>BoxC w' X (.slice va p vc) nS nS (.slice ha p hc)/\BxR w' w.heap.size (.slice a0 ys.length cap) (.pointer (some (aQ N 0)))) ((((w5.setCell ⟨w.heap.size+1,0,none⟩ (.slice va p vc)).setCell ⟨w.heap.size+1,1,none⟩ nS).setCell ⟨w.heap.size+1,2,none⟩ nS).setCell ⟨w.heap.size+1,3,none⟩ (.slice ha p hc)):=⟨S6.1,S6.2.1⟩
   refine qar 4 rfl hHeld ?_;clear hHeld;refine yX ?_ _
   have HE2:Hid (RsP w N ys (.returned (.tuple #[.agg #[.slice va p vc,nS,nS,.slice ha p hc],.bool (rsB ys)])) ((((w5.setCell ⟨w.heap.size+1,0,none⟩ (.slice va p vc)).setCell ⟨w.heap.size+1,1,none⟩ nS).setCell ⟨w.heap.size+1,2,none⟩ nS).setCell ⟨w.heap.size+1,3,none⟩ (.slice ha p hc))):=by
    refine ⟨_,_,_,_,_,_,rfl,fun _=>⟨c,up,uh,?_⟩,?_⟩
    ·rw [<- HPn.out]
     exact HJ.1.fin fun b hl hc=>(S6.2.2 b (fun e=>hc (by rw [e];exact HJ.2.cc.2.1))).trans (F5.block b hl)
    ·have hM:∀ j,some N=some (Addr.mk (w.heap.size+1) j none).block\/w.heap.size<=(Addr.mk (w.heap.size+1) j none).block:=fun j=>.inr (by show w.heap.size<=w.heap.size+1;omega)
     iterate 4 (refine zV ?_ (hM _) _)
     exact HJ.1.gr.andThen (zZ F5.out) (fun j hj=>by cases hj)
   clear HJ F5 X5 S6 HE;go_wp2;exact bodyPost_ret (v:=.tuple #[.agg #[.slice va p vc,nS,nS,.slice ha p hc],.bool (rsB ys)]) (by simp [results,results26,go_sem,o0,o1,o2,o3]) rfl HE2.out
  have hlt':(p:Int)<(n:Int):=by omega
  obtain ⟨f0,f1⟩:=HI.1.choose_spec.choose_spec.choose_spec.choose_spec.choose_spec.2.f;go_upto_region 9 with fail
  clear f0 f1;have HP:Hid (p<n/\(prK (nmA ys) p).isSome=true):=⟨hlt,HI.2⟩
  go_loopw [31] (fun i wr=>∃ q:Nat,q<=2/\i=.int .i64 q/\Hid (RsQ w wr N W0 X w.heap.size (X+1) a0 ys cap p q)) (fun i _=>2 - (intOf i).toNat)
  case atStart=>exact ⟨0,by omega,rfl,.inl ⟨rfl,HI.1⟩⟩
  case round=>
   clear HI
   rename World=>wq
   obtain ⟨q,hq,rfl,HI⟩:=hrel
   rcases HI.out with ⟨rfl,hs⟩ | ⟨rfl,hs,hl⟩ | ⟨rfl,hs,hl⟩
   ·obtain ⟨c,vp,vh,up,uh,J,BX⟩:=hs
    have HJ:Hid (RsJ w wq N W0 X (kP (nmA ys) p) p p a0 ys c vp vh up uh/\RsBx wq w.heap.size (X+1) a0 ys.length cap N c):=⟨J,BX⟩
    obtain ⟨r0,r1⟩:=BX.r;clear J BX HI;go_wp2_with fail
    clear r0 r1;refine (HPr.out X (kP (nmA ys) p) p p c vp vh up uh wq HJ.1 (by omega) (by omega) rfl).mono ?_;rintro e w4 ⟨rfl,hg4,hk4,hj4⟩;have F4:Hid (w.grownBy w4 (some N)/\RsBx w4 w.heap.size (X+1) a0 ys.length cap N (rcol c wq.heap.size 1)):=⟨hg4,HJ.2.kept hk4 HF.2 HF.1 (by omega) (by have:=HF.1;omega)⟩
    cases hD:(lsK (nmA ys) 5 30 (kP (nmA ys) p)).isSome with
    | false=>
     have HV:Hid (rsB ys=false):=qwu (by rw [HC.1];exact HP.1) (.inl hD);obtain ⟨o0,o1,o2,o3⟩:=F4.2.o;have rf:=F4.2.of;clear hk4 hj4 hg4 hD HJ HPr HEv HEnd;go_wp2;exact bodyPost_ret (v:=.tuple #[.agg #[nS,nS,nS,nS],.bool false]) (by simp [results,results26,go_sem,o0,o1,o2,o3]) rfl (RsP.no HV.out F4.1)
    | true=>
     have HN4:Hid (RsS w w4 N W0 X w.heap.size (X+1) a0 ys cap (hP (nmA ys) p) (p+1) p):=by
      obtain ⟨j,hj⟩:=Option.isSome_iff_exists.1 hD;obtain ⟨vp',up',J'⟩:=hj4 j hj;have e:=(qcq hj).2.2.2.1;rw [show j=hP (nmA ys) p from e] at J';exact ⟨_,_,_,_,_,J',F4.2⟩
     have HD:Hid ((lsK (nmA ys) 5 30 (kP (nmA ys) p)).isSome=true):=hD;clear hk4 hj4 hg4 hD HJ F4;go_wp2;go_roundw
     case rel=>exact ⟨1,by omega,by go_num,.inr (.inl ⟨rfl,HN4.out,HD.out⟩)⟩
     case measure=>simp [intOf]
   ·obtain ⟨c,vp,vh,up,uh,J,BX⟩:=hs
    have HJ:Hid (RsJ w wq N W0 X (hP (nmA ys) p) (p+1) p a0 ys c vp vh up uh/\RsBx wq w.heap.size (X+1) a0 ys.length cap N c/\(lsK (nmA ys) 5 30 (kP (nmA ys) p)).isSome=true):=⟨J,BX,hl⟩
    obtain ⟨r0,r1⟩:=BX.r;clear J BX HI hl;go_wp2_with fail
    clear r0 r1;refine (HEv.out X (hP (nmA ys) p) (p+1) p c vp vh up uh wq HJ.1 (by omega) (by omega) rfl).mono ?_;rintro e w4 ⟨rfl,hg4,hk4,hj4⟩;have F4:Hid (w.grownBy w4 (some N)/\RsBx w4 w.heap.size (X+1) a0 ys.length cap N (rcol c wq.heap.size 4)):=⟨hg4,HJ.2.1.kept hk4 HF.2 HF.1 (by omega) (by have:=HF.1;omega)⟩
    cases hD:(lsK (nmA ys) 3 200 (hP (nmA ys) p)).isSome with
    | false=>
     have HV:Hid (rsB ys=false):=qwu (by rw [HC.1];exact HP.1) (.inr hD);obtain ⟨o0,o1,o2,o3⟩:=F4.2.o;have rf:=F4.2.of;clear hk4 hj4 hg4 hD HJ HPr HEv HEnd;go_wp2;exact bodyPost_ret (v:=.tuple #[.agg #[nS,nS,nS,nS],.bool false]) (by simp [results,results26,go_sem,o0,o1,o2,o3]) rfl (RsP.no HV.out F4.1)
    | true=>
     have HN4:Hid (RsS w w4 N W0 X w.heap.size (X+1) a0 ys cap (kP (nmA ys) (p+1)) (p+1) (p+1)/\(prK (nmA ys) (p+1)).isSome=true):=by
      have hpk:(prK (nmA ys) (p+1)).isSome=true:=by rw [qvb HP.2,HJ.2.2,hD];rfl
      obtain ⟨j,hj⟩:=Option.isSome_iff_exists.1 hD;obtain ⟨vh',uh',J'⟩:=hj4 j hj;have e:=(qmi hpk).2.2;rw [hj] at e;cases e;exact ⟨⟨_,_,_,_,_,J',F4.2⟩,hpk⟩
     clear hk4 hj4 hg4 hD HJ F4;go_wp2;go_roundw
     case rel=>exact ⟨2,by omega,by go_num,.inr (.inr ⟨rfl,HN4.1,HN4.2⟩)⟩
     case measure=>simp [intOf]
   ·have HN4:Hid (RsS w wq N W0 X w.heap.size (X+1) a0 ys cap (kP (nmA ys) (p+1)) (p+1) (p+1)/\(prK (nmA ys) (p+1)).isSome=true):=⟨hs,hl⟩
    clear hs hl HI HPr HEv HEnd;go_wp2;go_roundw
    case rel=>exact ⟨p+1,by omega,by go_num,HN4.out⟩
    case measure=>simp [intOf];omega
theorem qtm {ys:List Int} (h:rsB ys=true):(rY ys).pn<=4/\(∀ i,i<(rY ys).pn->(rY ys).pL i<=30)/\∀ i,i<(rY ys).pn->(rY ys).hL i<=200:=by
 unfold rsB at h;rw [nH,nH,nI] at h;obtain ⟨⟨-,-,h4⟩,hs,-⟩:=h;refine ⟨?_,fun i hi=>?_,fun i hi=>?_⟩
 ·show ctN (nmA ys) 0<=4
  unfold ctN;omega
 ·exact (qcq (qhv hs i hi).1).2.2.1
 ·exact (qcq (qhv hs i hi).2).2.2.1
theorem qv6 {y:Sy} {d:Nat->Nat} (h4:y.pn<=4) (hp:∀ i,i<y.pn->y.pL i<=30) (hd:∀ i,i<y.pn->d i<=200):(ctS y d).Sm:=by
 unfold ctS
 split
 ·rename_i hc
  have hw:wfB (y.ah d)=true:=by
   unfold ctB at hc;rw [nH,nH] at hc;exact hc.2.1
  have hw:=qim.1 hw;have h16:y.pn*y.pn<=16:=zP (Nat.mul_le_mul h4 h4) (by omega);refine ⟨⟨?_,?_,h16,?_⟩,fun i hi=>?_,fun i _=>qpq _ _ _ _,fun i hi=>?_,fun i hi=>?_⟩
  ·show y.pn<=16
   omega
  ·show y.pn<=16
   omega
  ·show y.pn<=16
   omega
  ·have:=hp i hi
   show y.pL i<=1000;omega
  ·have hi:i<y.pn*y.pn:=hi
   have ha:i / y.pn<y.pn:=Nat.div_lt_of_lt_mul hi
   have hb:i % y.pn<y.pn:=by
    refine Nat.mod_lt _ (Nat.pos_of_ne_zero fun e=>?_);rw [e] at hi;omega
   have:=hw _ ha _ hb;show (wyL (y.ah d) (i / y.pn) (i % y.pn)).length<=1000;omega
  ·have:=hd i hi
   show d i<=1000;omega
 ·exact y.nil_sm
theorem OwnS.lenU {z:Bool} {w:World} {B:Nat} {c:Nat->Nat} {y:Sy} {vp vs vw vh:Value} {up us uw uh:Nat->Value} (_:OwnS z w B c y vp vs vw vh up us uw uh) (h:y.Sm):(y.sysIn vp vs vw vh up us uw uh).Len:=
 ⟨⟨by have:=h.n.1;show y.pn<=_;omega,fun i hi=>by have:=h.p i hi;show y.pL i<=_;omega⟩,⟨by have:=h.n.2.1;show y.sn<=_;omega,fun i hi=>by have:=h.s i hi;show (y.sS i).rs.length<=_/\(y.sS i).os.length<=_;omega⟩,⟨by have:=h.n.2.2.1;show y.wn<=_;omega,fun i hi=>by have:=h.w i hi;show y.wL i<=_;omega⟩,⟨by have:=h.n.2.2.2;show y.hn<=_;omega,fun i hi=>by have:=h.h i hi;show y.hL i<=_;omega⟩⟩
theorem qe6 (a0:Option Addr) (cap:Nat) (ys:List Int) (w:World) (hlen:ys.length<=1048576) (hcap:ys.length<=cap) (hb:By ys) (hs:SlB w a0 ys) (ha:∀ b o,a0=some ⟨b,o,none⟩->b<w.heap.size) (hV:w.cell? ⟨0,0,none⟩=some (.iface 192 (.agg #[.pointer (some ⟨1,142,none⟩)]))):
  Calls prog 8 #[.slice a0 ys.length cap] w fun e w'=>∃ v,e=.returned (.tuple #[v,.bool (upB ys)])/\qan true w' w.heap.size (upS ys) v/\Bw w w':=by
 have HVx:Hid (∀ wx,Bw w wx->wx.cell? ⟨0,0,none⟩=some (.iface 192 (.agg #[.pointer (some ⟨1,142,none⟩)]))):=fun wx hb=>(hb.cell (p:=⟨0,0,none⟩) (zJ w _ hV)).trans hV;have HRs:Hid (∀ wx N,Rd wx N w.heap.size a0 ys 0->Calls prog 26 #[.agg #[.slice a0 ys.length cap,.pointer (some ⟨N,0,none⟩)]] wx (RsP wx N ys)):=fun wx N hx=>qoo a0 cap N w.heap.size ys wx hlen hcap hb hx
 have BW:Hid (Bw w ((w.alloc (zQ3)).alloc (.cells #[iV 0] 3))/\Rd ((w.alloc (zQ3)).alloc (.cells #[iV 0] 3)) (w.heap.size+1) w.heap.size a0 ys 0/\BoxC ((w.alloc (zQ3)).alloc (.cells #[iV 0] 3)) w.heap.size nS nS nS nS/\(∀ j,((w.alloc (zQ3)).alloc (.cells #[iV 0] 3)).frozen? ⟨w.heap.size,j,none⟩=false)/\((w.alloc (zQ3)).alloc (.cells #[iV 0] 3)).heap.size=w.heap.size+2):=by
  have b1:=zQ w (zQ3);have b2:=zQ (w.alloc (zQ3)) (.cells #[iV 0] 3);have bb:=b1.trans (b2.mono (by simp));refine ⟨bb,⟨(zW _ _ _ 0 (by simp)).trans (by simp [qf5]),fun j=>yB _ _ _ _ (by simp),by omega,ha,hs.bw bb,nD _⟩,(BoxC.new w _ _ _ _ _).bw b2,fun j=>?_,by simp⟩;exact (zI (b2.block w.heap.size (by simp))).trans (yB _ _ _ _ rfl)
 have hM:w.heap.size<=w.heap.size:=nA _;clear hlen hcap hb hs ha hV
 go_enter func8,ntmps8
 go_upto_region 2 with fail
 generalize (w.alloc (zQ3)).alloc (.cells #[iV 0] 3)=W2 at *;go_wp2_with fail
 refine (HRs.out W2 (w.heap.size+1) BW.2.1).mono ?_;rintro e w1 ⟨aa,an,ac,da,dn,dc,rfl,hy,hg1⟩
 have B1:Hid (Bw w w1/\BoxC w1 w.heap.size nS nS nS nS/\(∀ j,w1.frozen? ⟨w.heap.size,j,none⟩=false)/\w.heap.size+2<=w1.heap.size/\w.heap.size<=W2.heap.size/\W2.heap.size<=w1.heap.size):=by
  have hs:=BW.2.2.2.2;have hg:=hg1.size;have k0:=hg1.block w.heap.size (by omega) (by simp);exact ⟨Below.grown BW.1 hg1 BW.1.size (fun j hj=>by cases hj;omega),BW.2.2.1.blkR k0,fun j=>(zI k0).trans (BW.2.2.2.1 j),by omega,by omega,by omega⟩
 have HY:Hid (rsB ys=true->∃ c up uh,OwnS false w1 W2.heap.size c (rY ys) (.slice aa an ac) nS nS (.slice da dn dc) up (fun _=>.slice none 0 0) (fun _=>.slice none 0 0) uh):=hy;clear hy hg1 BW HRs;go_upto_region 3 with fail
 have BX1:=zQ w1 (oQ4 aa an ac none 0 0 none 0 0 da dn dc)
 have B3:Hid (Bw w (w1.alloc (oQ4 aa an ac none 0 0 none 0 0 da dn dc))/\BoxC (w1.alloc (oQ4 aa an ac none 0 0 none 0 0 da dn dc)) w.heap.size nS nS nS nS/\(∀ j,(w1.alloc (oQ4 aa an ac none 0 0 none 0 0 da dn dc)).frozen? ⟨w.heap.size,j,none⟩=false)/\BoxC (w1.alloc (oQ4 aa an ac none 0 0 none 0 0 da dn dc)) w1.heap.size (.slice aa an ac) nS nS (.slice da dn dc)):=by
  have hl:=B1.2.1.ltR;exact ⟨B1.1.trans (BX1.mono B1.1.size),B1.2.1.bw BX1,fun j=>(zI (BX1.block w.heap.size hl)).trans (B1.2.2.1 j),BoxC.new w1 _ _ _ _ _⟩
 have HB3:Hid (rsB ys=true->∃ c up uh,OwnS false (w1.alloc (oQ4 aa an ac none 0 0 none 0 0 da dn dc)) W2.heap.size c (rY ys) (.slice aa an ac) nS nS (.slice da dn dc) up (fun _=>.slice none 0 0) (fun _=>.slice none 0 0) uh):=fun h=>by
  obtain ⟨c,up,uh,o⟩:=HY.out h;exact ⟨c,up,uh,o.bw BX1⟩
 have HS1:Hid (w.heap.size+1<w1.heap.size):=by have:=B1.2.2.2.1;show _<_;omega
 clear HY B1 BX1;generalize w1.alloc (oQ4 aa an ac none 0 0 none 0 0 da dn dc)=w3 at *;generalize w1.heap.size=X1 at *;generalize W2.heap.size=B2 at *;clear w1 W2;have HU:Hid (upB ys=(rsB ys && (ctB (rY ys) (rY ys).hL && (ctS (rY ys) (rY ys).hL).okB))/\(upB ys=false->upS ys=(rY ys).nil)/\(upB ys=true->upS ys=(rY ys).atY (rY ys).hL)):=⟨rfl,fun h=>nB (by rw [h];simp),fun h=>nC h⟩
 cases hrs:rsB ys with
 | false=>
  have HV:Hid (upB ys=false/\upS ys=(rY ys).nil):=by
   have h1:upB ys=false:=by rw [HU.1,hrs];rfl
   exact ⟨h1,HU.2.1 h1⟩
  obtain ⟨r0,r1,r2,r3⟩:=B3.2.1;have rf:=B3.2.2.1;clear hrs HU HB3 HVx HS1;go_wp2;exact bodyPost_ret (v:=.tuple #[sysV none 0 0 none 0 0 none 0 0 none 0 0,.bool false]) (by simp [results,results8,go_sem,r0,r1,r2,r3]) rfl ⟨_,by rw [HV.1],by rw [HV.2];exact qan.zero _ _ _,(((B3.1.setCell hM _).setCell hM _).setCell hM _).setCell hM _⟩
 | true=>
  obtain ⟨h4,hp30,hd200⟩:=qtm hrs;obtain ⟨c,up,uh,o⟩:=HB3.out hrs;have hsm:(ctS (rY ys) (rY ys).hL).Sm:=qv6 h4 hp30 hd200
  have ea:an=(rY ys).pn:=by
   have h9:=sl_v o.p.row;cases h9;rfl
  have ed:dn=(rY ys).pn:=by
   have h9:=sl_v o.h.row;cases h9;rfl
  subst ea;subst ed
  have HCT:Hid (∀ wx X hc0,Bw w3 wx->wx.cell? ⟨X,0,none⟩=some (.slice da (rY ys).pn hc0)->Calls prog 27 #[.pointer (some ⟨X,0,none⟩),.slice aa (rY ys).pn ac] wx fun e w'=>∃ v,e=.returned (.tuple #[v,.bool (ctB (rY ys) (rY ys).hL)])/\qan true w' wx.heap.size (ctS (rY ys) (rY ys).hL) v/\Bw wx w'):=fun wx X hc0 hb hc=>by
   have hg:=(o.bw hb).g;exact qno X hc0 da (fun i=>adOf (uh i)) (fun i=>cpOf (uh i)) (rY ys) (rY ys).hL aa ac (fun i=>adOf (up i)) (fun i=>cpOf (up i)) wx hc ⟨hg.h,hg.hi⟩ hd200 h4 hg.p hg.pi (fun i hi=>by have:=hp30 i hi;omega) (HVx.out wx (B3.1.trans (hb.mono B3.1.size)))
  have HSO:Hid (∀ wx B v,Bw w wx->qan true wx B (ctS (rY ys) (rY ys).hL) v->Calls prog 15 #[v] wx (rB wx (.bool (ctS (rY ys) (rY ys).hL).okB))):=fun wx B v hb ho=>by
   obtain ⟨cc,vp,vs,vw,vh,up',us',uw',uh',rfl,o'⟩:=ho;have h9:=qfv ((ctS (rY ys) (rY ys).hL).sysIn vp vs vw vh up' us' uw' uh') wx o'.g (o'.lenU hsm) (HVx.out wx hb);rw [o'.v] at h9;exact h9
  clear o hsm h4 hp30 hd200 HB3 HVx c
  have HU2:Hid (upB ys=(ctB (rY ys) (rY ys).hL && (ctS (rY ys) (rY ys).hL).okB)/\(upB ys=false->upS ys=(rY ys).nil)/\(upB ys=true->upS ys=ctS (rY ys) (rY ys).hL)):=by
   have h1:upB ys=(ctB (rY ys) (rY ys).hL && (ctS (rY ys) (rY ys).hL).okB):=by rw [HU.1,hrs];rfl
   refine ⟨h1,HU.2.1,fun h=>?_⟩;rw [HU.2.2 h];rw [h1,nH] at h;exact (nC h.1).symm
  clear HU hrs;generalize (rY ys).pn=n at *;generalize ctB (rY ys) (rY ys).hL=R at *;generalize ctS (rY ys) (rY ys).hL=RS at *;go_upto_region 5 with fail
  obtain ⟨x0,x1,x2,x3⟩:=B3.2.2.2;have hl:=qxg da n dc;have ho:=qxh da n dc;have hs:(hcL da n dc).toArray.size=21:=by simpa using hl
  have HI:Hid ((prog.info? 61).map (·.size)=some (hcL da n dc).toArray.size):=by show _=_;rw [hs];exact qny
  have HOc:Hid ((hcL da n dc).toArray.all (·.oneCell')=true):=all_oneCell_toArray ho;have HT:Hid ((w3.alloc (zQ4)).there w3.heap.size 0 (hcL da n dc).toArray.size):=qel _ _ _ _ _ (by rw [hs];rfl) rfl;have BE:Hid (Bw w3 ((w3.alloc (zQ4)).setCells w3.heap.size 0 (hcL da n dc))):=(qaw.sets (P:=fun b=>b=w3.heap.size) rfl _ _ (qaw.of_below (zT _ _))).bw (nA _) fun b e=>by omega
  have HRr:((w3.alloc (zQ4)).setCells w3.heap.size 0 (hcL da n dc)).rangeAt w3.heap.size 0 (hcL da n dc):=World.rangeAt_setCells_same _ _ _ _ (by simpa using HT.out);have HCe:Hid (((w3.alloc (zQ4)).setCells w3.heap.size 0 (hcL da n dc)).cell? (aQ w3.heap.size 0)=some (.slice da n dc)):=qux HRr rfl;clear hl ho hs HRr;go_upto_region 6 with (refine wpList_store_mid rfl 61 (.tmp 7) (.tmp 20) rfl w3.heap.size 0 (hcL da n dc).toArray rfl rfl HT.out HI.out HOc.out ?_)
  clear HT HI HOc;generalize (w3.alloc (zQ4)).setCells w3.heap.size 0 (hcL da n dc)=w4 at *;clear x0 x1 x2 x3;obtain ⟨x0,x1,x2,x3⟩:=B3.2.2.2.bw BE.out;go_wp2_with fail
  refine (HCT.out w4 w3.heap.size dc BE.out HCe.out).mono ?_;rintro e w5 ⟨v5,rfl,o5,q5⟩;obtain ⟨pa,pc,sa,sc,wa,wc,ha,hc,rfl⟩:=o5.form;have B5:Hid (Bw w3 w5/\qan true w5 w4.heap.size RS (sysV pa RS.pn pc sa RS.sn sc wa RS.wn wc ha RS.hn hc)/\w.heap.size+1<w3.heap.size/\w3.heap.size<=w4.heap.size):=⟨BE.trans (q5.mono BE.size),o5,by have:=HS1.out;have:=B3.2.2.2.ltR;omega,BE.size⟩
  clear o5 q5 x0 x1 x2 x3 HCT HCe BE HS1;have b6:=zQ w5 (oQ4 pa RS.pn pc sa RS.sn sc wa RS.wn wc ha RS.hn hc)
  have B6:Hid (Bw w (w5.alloc (oQ4 pa RS.pn pc sa RS.sn sc wa RS.wn wc ha RS.hn hc))/\qan true (w5.alloc (oQ4 pa RS.pn pc sa RS.sn sc wa RS.wn wc ha RS.hn hc)) w4.heap.size RS (sysV pa RS.pn pc sa RS.sn sc wa RS.wn wc ha RS.hn hc)/\BoxC (w5.alloc (oQ4 pa RS.pn pc sa RS.sn sc wa RS.wn wc ha RS.hn hc)) w.heap.size nS nS nS nS/\(∀ j,(w5.alloc (oQ4 pa RS.pn pc sa RS.sn sc wa RS.wn wc ha RS.hn hc)).frozen? ⟨w.heap.size,j,none⟩=false)/\BoxC (w5.alloc (oQ4 pa RS.pn pc sa RS.sn sc wa RS.wn wc ha RS.hn hc)) w5.heap.size (.slice pa RS.pn pc) (.slice sa RS.sn sc) (.slice wa RS.wn wc) (.slice ha RS.hn hc)):=by
   have bb:=B5.1.trans (b6.mono B5.1.size);have hl:=B3.2.1.ltR;exact ⟨B3.1.trans (bb.mono B3.1.size),B5.2.1.bw b6,B3.2.1.bw bb,fun j=>(zI (bb.block w.heap.size hl)).trans (B3.2.2.1 j),BoxC.new w5 _ _ _ _ _⟩
  have HL4:Hid (w.heap.size<w4.heap.size):=by have:=B5.2.2;show _<_;omega
  go_upto_region 7 with fail
  clear B5 b6 B3;generalize w5.alloc (oQ4 pa RS.pn pc sa RS.sn sc wa RS.wn wc ha RS.hn hc)=w6 at *;generalize w5.heap.size=X6 at *;generalize w4.heap.size=B4 at *;generalize w3.heap.size=X3 at *;clear w3 w4 w5;cases R with
  | false=>
   have HV:Hid (upB ys=false/\upS ys=(rY ys).nil):=by
    have h1:upB ys=false:=by rw [HU2.1];rfl
    exact ⟨h1,HU2.2.1 h1⟩
   obtain ⟨r0,r1,r2,r3⟩:=B6.2.2.1;have rf:=B6.2.2.2.1;clear HU2 HSO;go_wp2;exact bodyPost_ret (v:=.tuple #[sysV none 0 0 none 0 0 none 0 0 none 0 0,.bool false]) (by simp [results,results8,go_sem,r0,r1,r2,r3]) rfl ⟨_,by rw [HV.1],by rw [HV.2];exact qan.zero _ _ _,(((B6.1.setCell hM _).setCell hM _).setCell hM _).setCell hM _⟩
  | true=>
   obtain ⟨x0,x1,x2,x3⟩:=B6.2.2.2.2;go_wp2_with fail
   clear x0 x1 x2 x3;refine (HSO.out w6 B4 _ B6.1 B6.2.1).mono ?_;rintro e w7 ⟨rfl,q7⟩;generalize RS.okB=K at *;have HK:Hid (upB ys=K):=HU2.1;have l6:w.heap.size<w6.heap.size:=B6.2.2.1.ltR;obtain ⟨r0,r1,r2,r3⟩:=B6.2.2.1.bw q7;have rf:∀ j,w7.frozen? ⟨w.heap.size,j,none⟩=false:=fun j=>(zI (q7.block w.heap.size l6)).trans (B6.2.2.2.1 j);have B7:Hid (Bw w w7/\qan true w7 B4 RS (sysV pa RS.pn pc sa RS.sn sc wa RS.wn wc ha RS.hn hc)):=⟨B6.1.trans (q7.mono B6.1.size),B6.2.1.bw q7⟩
   obtain ⟨x0,x1,x2,x3⟩:=B6.2.2.2.2.bw q7;clear q7 B6 HSO;cases K with
   | false=>
    have HV:Hid (upB ys=false/\upS ys=(rY ys).nil):=⟨HK.out,HU2.2.1 HK.out⟩
    clear HU2;go_wp2;exact bodyPost_ret (v:=.tuple #[sysV none 0 0 none 0 0 none 0 0 none 0 0,.bool false]) (by simp [results,results8,go_sem,r0,r1,r2,r3]) rfl ⟨_,by rw [HV.1],by rw [HV.2];exact qan.zero _ _ _,(((B7.1.setCell hM _).setCell hM _).setCell hM _).setCell hM _⟩
   | true=>
    have HV:Hid (upB ys=true/\upS ys=RS):=⟨HK.out,HU2.2.2 HK.out⟩
    clear HU2;go_wp2;exact bodyPost_ret (v:=.tuple #[sysV pa RS.pn pc sa RS.sn sc wa RS.wn wc ha RS.hn hc,.bool true]) (by simp [results,results8,go_sem,r0,r1,r2,r3]) rfl ⟨_,by rw [HV.1],by rw [HV.2];exact ((((B7.2.setBelow HL4.out 0 _).setBelow HL4.out 1 _).setBelow HL4.out 2 _).setBelow HL4.out 3 _).base (nJ HL4.out),(((B7.1.setCell hM _).setCell hM _).setCell hM _).setCell hM _⟩
theorem qzc (ys:List Int):(upS ys).Sm:=by
 unfold upS
 split
 ·rename_i h
  unfold upB at h;simp only [nH] at h;obtain ⟨hr,hc,-⟩:=h;obtain ⟨b1,b2,b3⟩:=qtm hr;have h9:=qv6 b1 b2 b3
  rwa [show ctS (rY ys) (rY ys).hL=(rY ys).atY (rY ys).hL from nC hc] at h9
 ·exact Sy.nil_sm _
theorem qkw (a0:Option Addr) (cap:Nat) (ys:List Int) (w:World) (hlen:ys.length<=1048576) (hb:By ys) (hs:SlB w a0 ys) (ha:∀ b o,a0=some ⟨b,o,none⟩->b<w.heap.size):
  Calls prog 12 #[.slice a0 ys.length cap] w fun e w'=>∃ v,e=.returned (.tuple #[v,.bool (upB ys)])/\qan false w' w.heap.size (upS ys) v/\Bw w w':=by
 refine (qi2 a0 cap ys w hlen hb hs ha).mono ?_;rintro e w' ⟨P,hP,v,rfl,h1,h2,hbl⟩;have hu:=qzu hb hP;refine ⟨v,by rw [hu],?_,hbl⟩;cases h:upB ys with
 | true=>
  have e1:=(qy9 hb (hu.trans h)).2;have e2:upS ys=(rY ys).atY (rY ys).hL:=nC h;rw [e2];exact e1.symm.own (h1 (hu.trans h))
 | false=>
  have e2:upS ys=(rY ys).nil:=nB (by rw [h];decide);rw [e2,h2 (hu.trans h)];exact qan.zero _ _ _
theorem qip (a0 a1:Option Addr) (n c0 c1:Nat) (h:Nat->E3) (w:World) (hlen:n<=1048576) (h0:EvL w a0 n h) (h1:EvL w a1 n h):
  Calls prog 28 #[.slice a0 n c0,.slice a1 n c1] w (rB w (.bool true)):=by
 have hl':(n:Int)<=1048576:=by omega
 have H0:Hid (EvL w a0 n h):=h0;have H1:Hid (EvL w a1 n h):=h1;clear h0 h1
 go_enter func28,ntmps28
 go_wp2_with fail
 go_loopw [5] (fun i wr=>∃ k:Nat,k<=n/\i=.int .i64 k/\Bw w wr) (fun i _=>n - (intOf i).toNat)
 case atStart=>exact ⟨0,nD _,rfl,nE _ _⟩
 case round=>
  obtain ⟨k,hk,rfl,hbw⟩:=hrel;by_cases hlt:k<n
  ·obtain ⟨b,off,rfl,hbl,ck0,ck1,ck2⟩:=(H0.bw hbw).at hlt
   obtain ⟨b',off',rfl,hbl',ck0',ck1',ck2'⟩:=(H1.bw hbw).at hlt;have hlt':(k:Int)<(n:Int):=by omega
   go_wp2_with fail
   go_quiet (fail)
   go_wp2;go_roundw
   case rel=>exact ⟨k+1,by omega,by go_num,yC hbw _⟩
   case measure=>simp [intOf];omega
  ·go_wp2
   go_ret;exact ⟨rfl,hbw⟩
structure Tw (w:World) (N:Nat) (x x':SysIn):Prop where
 g:SysG w x
 g':SysG w x'
 b:x.bX w N
 b':BoxC w (N+1) (.slice x'.pa x'.pn x'.pc) (.slice x'.sa x'.sn x'.sc) (.slice x'.wa x'.wn x'.wc) (.slice x'.ha x'.hn x'.hc)
theorem Tw.bw {w w':World} {N:Nat} {x x':SysIn} (h:Tw w N x x') (hb:Bw w w'):Tw w' N x x':=⟨h.g.bw hb,h.g'.bw hb,h.b.bw hb,h.b'.bw hb⟩
theorem Tw.new (w:World) (x x':SysIn) (hG:SysG w x) (hG':SysG w x'):Tw ((w.alloc (x.oX)).alloc (oQ4 x'.pa x'.pn x'.pc x'.sa x'.sn x'.sc x'.wa x'.wn x'.wc x'.ha x'.hn x'.hc)) w.heap.size x x':=by
 have hb:Bw w ((w.alloc (x.oX)).alloc (oQ4 x'.pa x'.pn x'.pc x'.sa x'.sn x'.sc x'.wa x'.wn x'.wc x'.ha x'.hn x'.hc)):=(zQ _ _).trans ((zQ _ _).mono (by simp));refine ⟨hG.bw hb,hG'.bw hb,(BoxC.new w _ _ _ _ _).bw (zQ _ _),?_⟩;have h:=BoxC.new (w.alloc (x.oX)) (.slice x'.pa x'.pn x'.pc) (.slice x'.sa x'.sn x'.sc) (.slice x'.wa x'.wn x'.wc) (.slice x'.ha x'.hn x'.hc) 29
 (try dsimp only [aW] at h);rw [World.size_alloc] at h
 exact h
theorem EvL.congr {w:World} {a:Option Addr} {n:Nat} {h h':Nat->E3} (o:EvL w a n h) (e:∀ i,i<n->h' i=h i):EvL w a n h':=by
 rcases o with o | ⟨b,off,ea,hb,o⟩
 ·exact .inl o
 ·exact .inr ⟨b,off,ea,hb,fun i hi=>by rw [e i hi];exact o i hi⟩
def Sy.EqH (y' y:Sy):Prop:=y'.hn=y.hn/\∀ k,k<y.hn->y'.hL k=y.hL k/\∀ i,i<y.hL k->y'.hH k i=y.hH k i
def Sy.EqS (y' y:Sy):Prop:=y'.sn=y.sn/\∀ k,k<y.sn->y'.sS k=y.sS k
theorem qop (x x':SysIn) (w:World) (hy:x'.y.EqH x.y) (hG:SysG w x) (hG':SysG w x') (hL:x.Len):
  Calls prog 9 #[x.v,x'.v] w (rB w (.bool true)):=by
 have hn:x'.hn=x.hn:=hy.1;have hl':(x.hn:Int)<=1048576:=by have:=hL.h.1;omega
 have T0:Hid (Tw ((w.alloc (x.oX)).alloc (oQ4 x'.pa x'.pn x'.pc x'.sa x'.sn x'.sc x'.wa x'.wn x'.wc x'.ha x'.hn x'.hc)) w.heap.size x x'):=Tw.new w x x' hG hG';have B0:Hid (Below w.heap.size w ((w.alloc (x.oX)).alloc (oQ4 x'.pa x'.pn x'.pc x'.sa x'.sn x'.sc x'.wa x'.wn x'.wc x'.ha x'.hn x'.hc))):=(zQ _ _).trans ((zQ _ _).mono (by simp));have HY:Hid (x'.y.EqH x.y/\x.Len):=⟨hy,hL⟩
 have HQ:Hid (x'.hn=x.hn):=hn;clear hG hG' hL hy hn
 go_enter func9,ntmps9
 go_upto_region 1 with fail
 generalize (w.alloc (x.oX)).alloc (oQ4 x'.pa x'.pn x'.pc x'.sa x'.sn x'.sc x'.wa x'.wn x'.wc x'.ha x'.hn x'.hc)=W2 at *;generalize hNN:w.heap.size=N at *;have HNN:Hid (w.heap.size=N):=hNN;clear hNN;obtain ⟨x0,x1,x2,x3⟩:=T0.b;obtain ⟨y0,y1,y2,y3⟩:=T0.b';rw [HQ.out] at y3;go_wp2_with fail
 clear x0 x1 x2 x3 y0 y1 y2 y3
 go_loopw [5] (fun i wr=>∃ k:Nat,k<=x.hn/\i=.int .i64 k/\Hid (Tw wr N x x'/\Below N w wr)) (fun i _=>x.hn - (intOf i).toNat)
 case atStart=>exact ⟨0,nD _,rfl,T0.out,B0.out⟩
 case round=>
  obtain ⟨k,hk,rfl,HT⟩:=hrel;obtain ⟨x0,x1,x2,x3⟩:=HT.1.b;obtain ⟨y0,y1,y2,y3⟩:=HT.1.b';rw [HQ.out] at y3;have lN:N<wr.heap.size:=zJ wr _ x0;have lM:N+1<wr.heap.size:=zJ wr _ y0;by_cases hlt:k<x.hn
  ·have hlt':(k:Int)<(x.hn:Int):=by omega
   have nlt:¬ (x.hn:Int)<=(k:Int):=by omega
   have eL:x'.hL k=x.hL k:=(HY.1.2 k hlt).1;have eH:∀ i,i<x.hL k->x.hH k i=x'.hH k i:=fun i hi=>((HY.1.2 k hlt).2 i hi).symm;obtain ⟨b,off,ea,ck⟩:=HT.1.g.h.at hlt;obtain ⟨b',off',ea',ck'⟩:=HT.1.g'.h.at (show k<x'.hn by rw [HQ.out];exact hlt);rw [eL] at ck';have E:Hid (EvL wr (x.hA k) (x.hL k) (x.hH k)/\EvL wr (x'.hA k) (x.hL k) (x.hH k)/\x.hL k<=1048576):=⟨HT.1.g.hi k hlt,by have:=HT.1.g'.hi k (show k<x'.hn by rw [HQ.out];exact hlt);rw [eL] at this;exact this.congr eH,HY.2.h.2 k hlt⟩
   rw [ea] at x3;rw [ea'] at y3;clear ea ea' eL eH;have lb:b<wr.heap.size:=zJ wr _ ck;have lb':b'<wr.heap.size:=zJ wr _ ck';go_upto_region 6 with fail
   have q0:Bw wr wr.drew:=(nE wr.heap.size wr).drew;refine qag (fun w'=>w'.cell? (aQ N 3)=some (.slice (some (aQ b off)) x.hn x.hc)/\w'.cell? ⟨N+1,3,none⟩=some (.slice (some (aQ b' off')) x.hn x'.hc)/\w'.cell? ⟨b,off+k,none⟩=some (.slice (x.hA k) (x.hL k) (x.hC k))/\w'.cell? ⟨b',off'+k,none⟩=some (.slice (x'.hA k) (x.hL k) (x'.hC k))) (fun _=>false) (by kernel_rfl) ?_;have hHeld:(fun w':World=>w'.cell? (aQ N 3)=some (.slice (some (aQ b off)) x.hn x.hc)/\w'.cell? ⟨N+1,3,none⟩=some (.slice (some (aQ b' off')) x.hn x'.hc)/\w'.cell? ⟨b,off+k,none⟩=some (.slice (x.hA k) (x.hL k) (x.hC k))/\w'.cell? ⟨b',off'+k,none⟩=some (.slice (x'.hA k) (x.hL k) (x'.hC k))) wr.drew:=⟨(q0.cell (p:=(aQ N 3)) lN).trans x3,(q0.cell (p:=⟨N+1,3,none⟩) lM).trans y3,(q0.cell (p:=(aQ b _)) lb).trans ck,(q0.cell (p:=(aQ b' _)) lb').trans ck'⟩
   refine qbb [0,1,2,3,4,5,6,7,8,9] ?_;iterate 10 (refine qbr rfl hHeld ?_)
   refine qa2 ?_;refine yW 10 rfl fun K hK=>?_;refine qat rfl 28 _ _ rfl #[.slice (x.hA k) (x.hL k) (x.hC k),.slice (x'.hA k) (x.hL k) (x'.hC k)] (by simp [Act.eval]) (yA func28) (qip (x.hA k) (x'.hA k) (x.hL k) (x.hC k) (x'.hC k) (x.hH k) wr.drew E.2.2 (E.1.bw q0) (E.2.1.bw q0)) ?_;rintro e w5 ⟨rfl,d5⟩;refine ⟨_,rfl,?_⟩;have q5:Bw wr w5:=q0.trans d5;have hHeld5:(fun w':World=>w'.cell? (aQ N 3)=some (.slice (some (aQ b off)) x.hn x.hc)/\w'.cell? ⟨N+1,3,none⟩=some (.slice (some (aQ b' off')) x.hn x'.hc)/\w'.cell? ⟨b,off+k,none⟩=some (.slice (x.hA k) (x.hL k) (x.hC k))/\w'.cell? ⟨b',off'+k,none⟩=some (.slice (x'.hA k) (x.hL k) (x'.hC k))) w5:=⟨(q5.cell (p:=(aQ N 3)) lN).trans x3,(q5.cell (p:=⟨N+1,3,none⟩) lM).trans y3,(q5.cell (p:=(aQ b _)) lb).trans ck,(q5.cell (p:=(aQ b' _)) lb').trans ck'⟩
   refine hK.out _ _ (fun _=>hHeld5) ?_;clear hHeld;have hHeld:=hHeld5;clear hHeld5 d5 hK K;refine qar 11 rfl hHeld ?_;refine yX ?_ _;have K5:Hid (Tw w5 N x x'/\Below N w w5):=⟨HT.1.bw q5,HT.2.trans (q5.mono (nJ lN))⟩
   clear hHeld q5 q0 HT;go_wp2;go_roundw
   case rel=>exact ⟨k+1,by omega,by go_num,K5.out⟩
   case measure=>simp [intOf];omega
  ·go_wp2
   go_ret;exact ⟨rfl,by rw [HNN.out];exact HT.2⟩
theorem qkr (x x':SysIn) (w:World) (hy:x'.y.EqS x.y) (hG:SysG w x) (hG':SysG w x') (hL:x.Len):
  Calls prog 10 #[x.v,x'.v] w (rB w (.bool true)):=by
 have hn:x'.sn=x.sn:=hy.1;have hl':(x.sn:Int)<=1048576:=by have:=hL.s.1;omega
 have T0:Hid (Tw ((w.alloc (x.oX)).alloc (oQ4 x'.pa x'.pn x'.pc x'.sa x'.sn x'.sc x'.wa x'.wn x'.wc x'.ha x'.hn x'.hc)) w.heap.size x x'):=Tw.new w x x' hG hG';have B0:Hid (Below w.heap.size w ((w.alloc (x.oX)).alloc (oQ4 x'.pa x'.pn x'.pc x'.sa x'.sn x'.sc x'.wa x'.wn x'.wc x'.ha x'.hn x'.hc))):=(zQ _ _).trans ((zQ _ _).mono (by simp));have HY:Hid (x'.y.EqS x.y/\x.Len):=⟨hy,hL⟩
 have HQ:Hid (x'.sn=x.sn):=hn;clear hG hG' hL hy hn
 go_enter func10,ntmps10
 go_upto_region 1 with fail
 generalize (w.alloc (x.oX)).alloc (oQ4 x'.pa x'.pn x'.pc x'.sa x'.sn x'.sc x'.wa x'.wn x'.wc x'.ha x'.hn x'.hc)=W2 at *;generalize hNN:w.heap.size=N at *;have HNN:Hid (w.heap.size=N):=hNN;clear hNN;obtain ⟨x0,x1,x2,x3⟩:=T0.b;obtain ⟨y0,y1,y2,y3⟩:=T0.b';rw [HQ.out] at y1;go_wp2_with fail
 clear x0 x1 x2 x3 y0 y1 y2 y3
 go_loopw [5] (fun i wr=>∃ k:Nat,k<=x.sn/\i=.int .i64 k/\Hid (Tw wr N x x'/\Below N w wr)) (fun i _=>x.sn - (intOf i).toNat)
 case atStart=>exact ⟨0,nD _,rfl,T0.out,B0.out⟩
 case round=>
  obtain ⟨k,hk,rfl,HT⟩:=hrel;obtain ⟨x0,x1,x2,x3⟩:=HT.1.b;obtain ⟨y0,y1,y2,y3⟩:=HT.1.b';rw [HQ.out] at y1;have lN:N<wr.heap.size:=zJ wr _ x0;have lM:N+1<wr.heap.size:=zJ wr _ y0;by_cases hlt:k<x.sn
  ·have hlt':(k:Int)<(x.sn:Int):=by omega
   have nlt:¬ (x.sn:Int)<=(k:Int):=by omega
   have eS:x'.sS k=x.sS k:=HY.1.2 k hlt;obtain ⟨b,off,ea,lb,ck⟩:=HT.1.g.s.row.resolve_left (by omega);obtain ⟨b',off',ea',lb',ck'⟩:=HT.1.g'.s.row.resolve_left (by have:=HQ.out;omega);have ck:=ck k hlt;have ck':=ck' k (by have:=HQ.out;omega);have E0:=HT.1.g.s.lst k hlt;have E1:=HT.1.g'.s.lst k (by have:=HQ.out;omega);have hb:=HY.2.s.2 k hlt;obtain ⟨e1,e2,e3,e4⟩:(x'.sQ k).p=(x.sQ k).p/\(x'.sQ k).rs=(x.sQ k).rs/\(x'.sQ k).os=(x.sQ k).os/\(x'.sQ k).c=(x.sQ k).c:=⟨congrArg S4.p eS,congrArg S4.rs eS,congrArg S4.os eS,congrArg S4.c eS⟩
   rw [e1,e2,e3,e4] at ck';rw [e2,e3] at E1;generalize (x.sQ k).p=p at *;generalize (x.sQ k).c=cd at *;generalize (x.sQ k).rs=rs at *;generalize (x.sQ k).os=os at *;generalize (x.sQ k).ra=ra at *;generalize (x.sQ k).rc=rc at *;generalize (x.sQ k).oa=oa at *;generalize (x.sQ k).oc=oc at *;generalize (x'.sQ k).ra=ra' at *;generalize (x'.sQ k).rc=rc' at *;generalize (x'.sQ k).oa=oa' at *;generalize (x'.sQ k).oc=oc' at *;obtain ⟨s0,s1,s2,s3⟩:=ck;obtain ⟨t0,t1,t2,t3⟩:=ck';have E:Hid ((Sl wr ra rs/\Sl wr oa os)/\(Sl wr ra' rs/\Sl wr oa' os)/\rs.length<=1048576/\os.length<=1048576):=⟨E0,E1,hb⟩
   rw [ea] at x1;rw [ea'] at y1;clear ea ea' eS e1 e2 e3 e4 E0 E1 hb;go_upto_region 6 with fail
   have q0:Bw wr wr.drew:=(nE wr.heap.size wr).drew;refine qag (fun w'=>w'.cell? (aQ N 1)=some (.slice (some (aQ b off)) x.sn x.sc)/\w'.cell? ⟨N+1,1,none⟩=some (.slice (some (aQ b' off')) x.sn x'.sc)/\(w'.cell? ⟨b,off+k*4,none⟩=some (iV p)/\w'.cell? ⟨b,off+k*4+1,none⟩=some (.slice ra rs.length rc)/\w'.cell? ⟨b,off+k*4+2,none⟩=some (.slice oa os.length oc)/\w'.cell? ⟨b,off+k*4+3,none⟩=some (iV cd))/\(w'.cell? ⟨b',off'+k*4,none⟩=some (iV p)/\w'.cell? ⟨b',off'+k*4+1,none⟩=some (.slice ra' rs.length rc')/\w'.cell? ⟨b',off'+k*4+2,none⟩=some (.slice oa' os.length oc')/\w'.cell? ⟨b',off'+k*4+3,none⟩=some (iV cd))) (fun _=>false) (by kernel_rfl) ?_;have hHeld:(fun w':World=>w'.cell? (aQ N 1)=some (.slice (some (aQ b off)) x.sn x.sc)/\w'.cell? ⟨N+1,1,none⟩=some (.slice (some (aQ b' off')) x.sn x'.sc)/\(w'.cell? ⟨b,off+k*4,none⟩=some (iV p)/\w'.cell? ⟨b,off+k*4+1,none⟩=some (.slice ra rs.length rc)/\w'.cell? ⟨b,off+k*4+2,none⟩=some (.slice oa os.length oc)/\w'.cell? ⟨b,off+k*4+3,none⟩=some (iV cd))/\(w'.cell? ⟨b',off'+k*4,none⟩=some (iV p)/\w'.cell? ⟨b',off'+k*4+1,none⟩=some (.slice ra' rs.length rc')/\w'.cell? ⟨b',off'+k*4+2,none⟩=some (.slice oa' os.length oc')/\w'.cell? ⟨b',off'+k*4+3,none⟩=some (iV cd))) wr.drew:=⟨(q0.cell (p:=(aQ N 1)) lN).trans x1,(q0.cell (p:=⟨N+1,1,none⟩) lM).trans y1,⟨(q0.cell (p:=(aQ b _)) lb).trans s0,(q0.cell (p:=(aQ b _)) lb).trans s1,(q0.cell (p:=(aQ b _)) lb).trans s2,(q0.cell (p:=(aQ b _)) lb).trans s3⟩,⟨(q0.cell (p:=(aQ b' _)) lb').trans t0,(q0.cell (p:=(aQ b' _)) lb').trans t1,(q0.cell (p:=(aQ b' _)) lb').trans t2,(q0.cell (p:=(aQ b' _)) lb').trans t3⟩⟩
   refine qbb [0,1,2,3,4,5,6,7,8,9] ?_;iterate 10 (refine qbr rfl hHeld ?_)
   refine qa2 ?_;refine yW 10 rfl fun K hK=>?_;refine qat rfl 29 _ _ rfl #[stV p ra rs.length rc oa os.length oc cd,stV p ra' rs.length rc' oa' os.length oc' cd] (by simp [Act.eval]) (yA func29) (qi0 p cd ra oa ra' oa' rc oc rc' oc' rs os wr.drew E.2.2.1 E.2.2.2 (E.1.1.bw q0) (E.1.2.bw q0) (E.2.1.1.bw q0) (E.2.1.2.bw q0)) ?_;rintro e w5 ⟨rfl,d5⟩;refine ⟨_,rfl,?_⟩;have q5:Bw wr w5:=q0.trans d5;have hHeld5:(fun w':World=>w'.cell? (aQ N 1)=some (.slice (some (aQ b off)) x.sn x.sc)/\w'.cell? ⟨N+1,1,none⟩=some (.slice (some (aQ b' off')) x.sn x'.sc)/\(w'.cell? ⟨b,off+k*4,none⟩=some (iV p)/\w'.cell? ⟨b,off+k*4+1,none⟩=some (.slice ra rs.length rc)/\w'.cell? ⟨b,off+k*4+2,none⟩=some (.slice oa os.length oc)/\w'.cell? ⟨b,off+k*4+3,none⟩=some (iV cd))/\(w'.cell? ⟨b',off'+k*4,none⟩=some (iV p)/\w'.cell? ⟨b',off'+k*4+1,none⟩=some (.slice ra' rs.length rc')/\w'.cell? ⟨b',off'+k*4+2,none⟩=some (.slice oa' os.length oc')/\w'.cell? ⟨b',off'+k*4+3,none⟩=some (iV cd))) w5:=⟨(q5.cell (p:=(aQ N 1)) lN).trans x1,(q5.cell (p:=⟨N+1,1,none⟩) lM).trans y1,⟨(q5.cell (p:=(aQ b _)) lb).trans s0,(q5.cell (p:=(aQ b _)) lb).trans s1,(q5.cell (p:=(aQ b _)) lb).trans s2,(q5.cell (p:=(aQ b _)) lb).trans s3⟩,⟨(q5.cell (p:=(aQ b' _)) lb').trans t0,(q5.cell (p:=(aQ b' _)) lb').trans t1,(q5.cell (p:=(aQ b' _)) lb').trans t2,(q5.cell (p:=(aQ b' _)) lb').trans t3⟩⟩
   refine hK.out _ _ (fun _=>hHeld5) ?_;clear hHeld;have hHeld:=hHeld5;clear hHeld5 d5 hK K;refine qar 11 rfl hHeld ?_;refine yX ?_ _;have K5:Hid (Tw w5 N x x'/\Below N w w5):=⟨HT.1.bw q5,HT.2.trans (q5.mono (nJ lN))⟩
   clear hHeld q5 q0 HT;go_wp2;go_roundw
   case rel=>exact ⟨k+1,by omega,by go_num,K5.out⟩
   case measure=>simp [intOf];omega
  ·go_wp2
   go_ret;exact ⟨rfl,by rw [HNN.out];exact HT.2⟩
structure WQ (w wr:World) (X:Nat) (x:SysIn):Prop where
 g:SysG wr x
 bx:x.bX wr X
 be:Bw w wr
theorem WQ.bw {w wr w':World} {X:Nat} {x:SysIn} (h:WQ w wr X x) (hb:Bw wr w'):WQ w w' X x:=⟨h.g.bw hb,h.bx.bw hb,h.be.trans (hb.mono h.be.size)⟩
theorem BySl.bw {w w':World} {a:Option Addr} {c:Nat} {ys:List Int} (h:BySl w a c ys) (hb:Bw w w'):BySl w' a c ys:=
 ⟨h.sl.bw hb,h.by',h.ln,h.cp,fun b o e=>zL (h.lt b o e) hb.size⟩
theorem qy4 {y:Sy} (hT:pkT y=true):(upS (pkS y)).EqH y/\(upS (pkS y)).EqS y:=by
 obtain ⟨-,h1,h2,h3,h4⟩:=qs6 hT
 have hO:y.Ok:=by
  apply Sy.ok_of;unfold pkT at hT;rw [nH] at hT;exact hT.1
 obtain ⟨-,hs,hh,-⟩:=hO.cn;exact ⟨⟨h3.trans hh.symm,fun k hk=>⟨(h2 k (by omega)).1,(h2 k (by omega)).2.1⟩⟩,⟨h4.trans hs.symm,fun k hk=>(h2 k (by omega)).2.2⟩⟩
theorem qzb {ys:List Int} (h:upB ys=false):(upS ys).pn=0:=by
 have e:upS ys=(rY ys).nil:=nB (by rw [h];decide);rw [e];rfl
theorem qii (a0:Option Addr) (len cap:Nat) (w:World) (hl:len<=1048576) (hB:qb0 w w.heap.size a0 len) (hV:w.cell? (aQ 0 0)=some vT):
  Calls prog 3 #[.slice a0 len cap] w (rB w (.bool true)):=by
 have HB:Hid (qb0 w w.heap.size a0 len):=hB;have HV:Hid (∀ wx,Bw w wx->wx.cell? ⟨0,0,none⟩=some (.iface 192 (.agg #[.pointer (some ⟨1,142,none⟩)]))):=fun wx hb=>(hb.cell (p:=⟨0,0,none⟩) (zJ w _ hV)).trans hV;have hlt:¬ (1048576:Int)<(len:Int):=by omega
 clear hB hV
 go_enter func3,ntmps3
 go_wp2_with fail
 refine (qrp a0 len cap w).mono ?_;rintro e w1 ⟨rfl,rfl⟩;rw [decide_eq_false (show ¬ (1048576:Int)<(len:Int) by omega)];go_wp2_with fail
 refine (qk8 w1.heap.size len cap a0 w1 HB.out (nA _) hl).mono ?_;rintro e w2 ⟨x,B,T,rfl,hm,hX,b2⟩;have HM:Hid (x.Len/\(∀ i,i<x.hn->x.hL i<=x.hC i)):=⟨hm.inLen,hX.cap⟩
 have K2:Hid (WQ w1 (w2.alloc (x.oX)) w2.heap.size x):=⟨hX.self.bw (zQ _ _),BoxC.new _ _ _ _ _ _,b2.trans ((zQ _ _).mono b2.size)⟩
 clear hX b2 hm;go_upto_region 4 with fail
 generalize w2.alloc (x.oX)=W2 at *;generalize w2.heap.size=X at *;clear w2;obtain ⟨p0,p1,p2,p3⟩:=K2.bx;go_wp2_with fail
 clear p0 p1 p2 p3;refine (qg6 x W2 K2.g HM.1 (HV.out _ K2.be)).mono ?_;rintro e w3 ⟨u3,rfl,o3,d3⟩;obtain ⟨a3,c3,rfl,-⟩:=o3.form;have K3:Hid (WQ w1 w3 X x/\BySl w3 a3 c3 (pkS x.y)):=⟨K2.bw d3,BySl.of o3 (qs5 _) (zP (qwk _) (by omega))⟩
 clear o3 d3 K2;obtain ⟨p0,p1,p2,p3⟩:=K3.1.bx;go_wp2_with fail
 clear p0 p1 p2 p3;refine (qeh x w3 K3.1.g HM.1 HM.2).mono ?_;rintro e w4 ⟨u4,rfl,o4,d4⟩;have K4:Hid (WQ w1 w4 X x/\BySl w4 a3 c3 (pkS x.y)):=⟨K3.1.bw d4,K3.2.bw d4⟩
 clear o4 d4 K3;obtain ⟨pt,hpt⟩:∃ pt,pkT x.y=pt:=⟨_,rfl⟩
 have HP:Hid (pkT x.y=pt):=hpt;rw [hpt];clear hpt;have tt:(pt != pt)=false:=by simp
 go_upto_region 8 with fail
 clear tt;cases pt
 case' true=>
  have HE:Hid ((upS (pkS x.y)).EqH x.y/\(upS (pkS x.y)).EqS x.y/\upB (pkS x.y)=true):=⟨(qy4 HP.out).1,(qy4 HP.out).2,(qs6 HP.out).1⟩
  go_wp2_with fail
  refine (qe6 a3 c3 (pkS x.y) w4 (zP K4.2.ln (by omega)) K4.2.cp K4.2.by' K4.2.sl K4.2.lt (HV.out _ K4.1.be)).mono ?_;rintro e w5 ⟨v5,rfl,o5,d5⟩;rw [HE.2.2];obtain ⟨x5,rfl,e5,g5,-⟩:=o5.inV;have K5:Hid (WQ w1 (w5.alloc (oQ4 x5.pa x5.pn x5.pc x5.sa x5.sn x5.sc x5.wa x5.wn x5.wc x5.ha x5.hn x5.hc)) X x/\WQ w1 (w5.alloc (oQ4 x5.pa x5.pn x5.pc x5.sa x5.sn x5.sc x5.wa x5.wn x5.wc x5.ha x5.hn x5.hc)) w5.heap.size x5/\x5.y.EqH x.y/\x5.y.EqS x.y):=⟨(K4.1.bw d5).bw (zQ _ _),⟨g5.bw (zQ _ _),BoxC.new _ _ _ _ _ _,((K4.1.bw d5).bw (zQ _ _)).be⟩,by rw [e5];exact HE.1,by rw [e5];exact HE.2.1⟩
  clear o5 d5 e5 g5 K4 HE;go_upto_region 10 with fail
  generalize w5.alloc (oQ4 x5.pa x5.pn x5.pc x5.sa x5.sn x5.sc x5.wa x5.wn x5.wc x5.ha x5.hn x5.hc)=W5 at *;generalize w5.heap.size=Y at *;clear w5;obtain ⟨p0,p1,p2,p3⟩:=K5.1.bx;obtain ⟨q0,q1,q2,q3⟩:=K5.2.1.bx;go_wp2_with fail
  clear p0 p1 p2 p3 q0 q1 q2 q3;refine (qop x x5 W5 K5.2.2.1 K5.1.g K5.2.1.g HM.1).mono ?_;rintro e w6 ⟨rfl,d6⟩;have K6:Hid (WQ w1 w6 X x/\WQ w1 w6 Y x5/\x5.y.EqS x.y):=⟨K5.1.bw d6,K5.2.1.bw d6,K5.2.2.2⟩
  clear d6 K5;obtain ⟨p0,p1,p2,p3⟩:=K6.1.bx;obtain ⟨q0,q1,q2,q3⟩:=K6.2.1.bx;go_wp2_with fail
  clear p0 p1 p2 p3 q0 q1 q2 q3;refine (qkr x x5 w6 K6.2.2 K6.1.g K6.2.1.g HM.1).mono ?_;rintro e w7 ⟨rfl,d7⟩;have KT:Hid (Bw w1 w7):=(K6.1.bw d7).be;clear d7 K6;go_upto_region 12 with fail
 case' false=>
  have KT:Hid (Bw w1 w4):=K4.1.be;clear K4;go_upto_region 12 with fail
 all_goals
  clear HM HP;go_wp2_with fail
  refine (qir w1.heap.size len cap a0 _ (HB.kept fun b hb=>KT.block b hb) KT.size hl).mono ?_;rintro e w8 ⟨ar,cr,ys,rfl,hr,d8⟩;have K8:Hid (BySl w8 ar cr ys/\Bw w1 w8):=⟨hr,KT.trans (d8.mono KT.size)⟩
  clear hr d8 KT;go_wp2_with fail
  refine (qe6 ar cr ys w8 (zP K8.1.ln (by omega)) K8.1.cp K8.1.by' K8.1.sl K8.1.lt (HV.out _ K8.2)).mono ?_;rintro e w9 ⟨v9,rfl,o9,d9⟩;obtain ⟨x9,rfl,e9,g9,cp9⟩:=o9.inV;have HX:Hid (x9.Len/\(∀ i,i<x9.hn->x9.hL i<=x9.hC i)/\x9.y=upS ys):=⟨Sy.Sm.inLen (by rw [e9];exact qzc _),cp9,e9⟩
  have K9:Hid (WQ w1 (w9.alloc (oQ4 x9.pa x9.pn x9.pc x9.sa x9.sn x9.sc x9.wa x9.wn x9.wc x9.ha x9.hn x9.hc)) w9.heap.size x9/\BySl (w9.alloc (oQ4 x9.pa x9.pn x9.pc x9.sa x9.sn x9.sc x9.wa x9.wn x9.wc x9.ha x9.hn x9.hc)) ar cr ys):=⟨⟨g9.bw (zQ _ _),BoxC.new _ _ _ _ _ _,(K8.2.trans (d9.mono K8.2.size)).trans ((zQ _ _).mono (zP K8.2.size d9.size))⟩,(K8.1.bw d9).bw (zQ _ _)⟩
  clear o9 d9 e9 g9 cp9 K8;go_upto_region 14 with fail
  generalize w9.alloc (oQ4 x9.pa x9.pn x9.pc x9.sa x9.sn x9.sc x9.wa x9.wn x9.wc x9.ha x9.hn x9.hc)=W9 at *;generalize w9.heap.size=Z at *;clear w9;go_wp2_with fail
  refine (qkw ar cr ys W9 (zP K9.2.ln (by omega)) K9.2.by' K9.2.sl K9.2.lt).mono ?_;rintro e w10 ⟨v10,rfl,o10,d10⟩;obtain ⟨x10,rfl,-,-,-⟩:=o10.inV;have K10:Hid (WQ w1 (w10.alloc (oQ4 x10.pa x10.pn x10.pc x10.sa x10.sn x10.sc x10.wa x10.wn x10.wc x10.ha x10.hn x10.hc)) Z x9/\BySl (w10.alloc (oQ4 x10.pa x10.pn x10.pc x10.sa x10.sn x10.sc x10.wa x10.wn x10.wc x10.ha x10.hn x10.hc)) ar cr ys):=⟨(K9.1.bw d10).bw (zQ _ _),(K9.2.bw d10).bw (zQ _ _)⟩
  clear o10 d10 K9;obtain ⟨U,hU⟩:∃ U,upB ys=U:=⟨_,rfl⟩
  have HU:Hid (upB ys=U):=hU;rw [hU];clear hU;have tt:(U != U)=false:=by simp
  go_upto_region 17 with fail
  clear tt;generalize w10.alloc (oQ4 x10.pa x10.pn x10.pc x10.sa x10.sn x10.sc x10.wa x10.wn x10.wc x10.ha x10.hn x10.hc)=W10 at *;generalize w10.heap.size=V at *;clear w10;obtain ⟨p0,p1,p2,p3⟩:=K10.1.bx;go_wp2_with fail
  clear p0 p1 p2 p3;refine (qg6 x9 W10 K10.1.g HX.1 (HV.out _ K10.1.be)).mono ?_;rintro e w11 ⟨u11,rfl,o11,d11⟩;obtain ⟨a11,c11,rfl,s11⟩:=o11.form;have K11:Hid (WQ w1 w11 Z x9/\SlB w11 ar ys/\SlB w11 a11 (pkS x9.y)):=⟨K10.1.bw d11,(K10.2.bw d11).sl,s11⟩
  have HBy:Hid (By ys):=K10.2.by';clear o11 d11 s11 K10;obtain ⟨p0,p1,p2,p3⟩:=K11.1.bx;have BE:Hid (Bw w1 w11):=K11.1.be;cases U with
  | false=>
   have hpn:x9.pn=0:=(congrArg Sy.pn HX.2.2).trans (qzb HU.out);rw [hpn] at p0;clear HX HU K11 HBy hpn;go_wp2;go_ret;exact ⟨rfl,BE.out⟩
  | true=>
   obtain ⟨h1,h2⟩:=qzv HBy.out HU.out;rw [<- HX.2.2] at h1 h2;have e0:=qct K11.2.2 c11;have e1:=qct K11.2.1 cr;rw [h2] at e0 ⊢;rw [h1];have heq:((strOfNums ys).toList == (strOfNums ys).toList)=true:=by simp
   clear HX HU K11 HBy h1 h2;go_wp2;go_ret;exact ⟨rfl,BE.out⟩
theorem qih (a0:Option Addr) (len cap:Nat) (w:World) (_hm:len<=maxLen) (hl:1048576<len):
  Calls prog 3 #[.slice a0 len cap] w (rB w (.bool true)):=by
 go_enter func3,ntmps3
 go_wp2_with fail
 refine (qrp a0 len cap w).mono ?_;rintro e w1 ⟨rfl,rfl⟩;rw [decide_eq_true (show (1048576:Int)<(len:Int) by omega)];go_wp2;go_ret;exact ⟨rfl,nE _ _⟩
theorem qmd (os:Os) (started:os.Started) (H:Type) (enc:TypeId × Value->H):
  ReturnsInHanded {} Tryz.checked os 3 .any (fun w args => (Rows.fnPackedSpec.pre enc prog f3 [] false w args /\ laidMetH prog [("errors.errorType", Rows.laid_errors_errorType)] w) /\ sizedMet enc prog f3 (OpenSpec.ofChange Rows.fnPackedSpec) false w args)
   (Rows.fnPackedSpec.post enc prog f3 false true false false):=by
 refine returnsInHanded_of_change_and (C := Tryz.checked) (X := fun w _ => laidMetH prog [("errors.errorType", Rows.laid_errors_errorType)] w) (fun _ _ _ hh h => h.of_heap hh) Tryz.own started (by kernel_rfl) func3
  (ChangeSpec.witness_at (enc := enc) (C := Tryz.checked) (os := os) (X := fun w _ => laidMetH prog [("errors.errorType", Rows.laid_errors_errorType)] w) false (ql9 os) #[nS] 8 rfl (by kernel_rfl) (by kernel_rfl) (by kernel_rfl) (by kernel_rfl) (by kernel_rfl) (qj8 os _)) ?_
 intro W base args ds gs before hval0 hW _ _ hL _;have hval:∀ (j:Nat) t v,f3.params[j]? = some t->args[j]? = some v->Value.okWide prog W .any base t v:=hval0;have hW':=hW;obtain ⟨p,q,hA0,hV,rfl,hfz,hnd⟩:=hW;have hA:DataW.TrodAll enc prog W 0 (fun _=>true) true f3.params.toList args.toList ds p:=hA0;rw [params3] at hA hval;obtain ⟨v0,d0,rfl,rfl,h0⟩:=trodAll_one hA;obtain ⟨rfl,rfl⟩:=trodVars_none hV;have lt0:∀ x ∈ p,x.block<W.heap.size:=by obtain ⟨m,hm⟩:=h0;exact DataW.trod_lt m _ _ _ hm
 have hg:=qit hL;clear hA0 hval0
 have hlaw:Calls prog 3 #[v0] W (rB W (.bool true)):=by
  obtain ⟨a0,len,cap,rfl⟩:=okWide_slice Tryz.underlying22 (hval 0 22 v0 rfl rfl);obtain ⟨hm,hB⟩:=qqy h0;by_cases hs:len<=1048576
  ·exact qii a0 len cap W hs hB hg
  ·exact qih a0 len cap W hm (by omega)
 refine hlaw.mono fun e W' ⟨he,bel⟩=>?_;subst he;exact ⟨_,rfl,_,_,_,[],_,[],hW',trodAll_mk1 (shut_bool Tryz.underlying4 _),trodAll_mk1 (Below.trod Tryz.laidOut (by kernel_rfl) (of_decide_eq_true (by kernel_rfl)) h0 bel lt0),rfl,bel.frame _,fun h=>by cases h⟩
theorem qqz:Rows.FnPackedSaid:=
 OpenClaim.holds_of_wide 3 f3 rfl rfl rfl rfl rfl rfl rfl ⟨rfl,rfl,rfl,rfl,rfl⟩ rfl rfl rfl rfl rfl (by kernel_rfl) func3 (by kernel_rfl)
  (of_decide_eq_true (by kernel_rfl)) (by unfold Func.isWrapper;first|(rw [nC (by decide +kernel)];kernel_rfl)|(rw [nB (by decide +kernel)];exact ⟨rfl,rfl⟩))
  (fun os started H enc _=>qmd os started H enc)
theorem qoe (f : FuncId) (fn : Func) (hf : Tryz.pinned.checked.prog.funcNamed "loop.example/g00196/laws.FnPacked" = some f) (hfn : Tryz.pinned.checked.prog.funcs[f]? = some fn) :
  true=Tryz.pinned.checked.prog.looks []/\∀ (j:Nat) t,fn.params[j]? = some t->Tryz.pinned.checked.prog.wantsStandIn t=false:=by
 obtain rfl : f = 3 := Option.some.inj ((show prog.funcNamed "loop.example/g00196/laws.FnPacked" = some 3 by kernel_rfl).symm.trans hf) |>.symm
 obtain rfl:fn=f3:=(Option.some.inj (func3.symm.trans hfn)).symm;refine ⟨by kernel_rfl,fun j t ht=>?_⟩;rw [params3] at ht;have hm:=Array.mem_of_getElem? ht;simp at hm;obtain rfl:=hm;exact (show prog.wantsStandIn 22=false by kernel_rfl)
theorem packed_card:Rows.FnPackedCardSaid:=
 Claim7.holds_tied_plain_at .later [] _ _ _ _ qqz (fun _ h=>by cases h) (by kernel_rfl) (fun _ h=>by cases h) fnPacked_row_tie rfl ⟨rfl,rfl⟩ (by kernel_rfl) rfl qoe (by kernel_rfl)
