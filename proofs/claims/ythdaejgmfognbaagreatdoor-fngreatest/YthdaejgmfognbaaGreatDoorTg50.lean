import Derived.Test.YthdaejgmfognbaaGreatDoorTe0
import Derived.Test.YthdaejgmfognbaaGreatDoorTg45
import Derived.Test.YthdaejgmfognbaaGreatDoorTg47
import Derived.Test.YthdaejgmfognbaaGreatDoorTg48
import Derived.Test.YthdaejgmfognbaaGreatDoorTe38
namespace Go.Proofs.YthdaejgmfognbaaGreatDoor
set_option maxRecDepth 100000
set_option maxHeartbeats 4000000
open Go.RowKit Go.Deep
theorem OwnI.grown {w w':World} {B c:Nat} {v:Value} {xs:List Int} (h:OwnI w B v xs) (g:w.grownBy w' (some c)) (hc:c<B):OwnI w' B v xs:=by
 refine h.kept g ?_
 cases hv:v.ownBlock with
 | none=>exact .inl rfl
 | some k=>exact .inr (fun e=>by have:=(h.lt k hv).1;injection e;omega)
structure CD (w wr:World) (W0 c:Nat) (a0:Option Addr) (len cap:Nat) (x:SysIn) (v:Value) (xs:List Int):Prop where
 cu:Cur wr W0 c a0 len cap
 gr:w.grownBy wr (some c)
 bx:BoxC wr w.heap.size (.slice x.pa x.pn x.pc) (.slice x.sa x.sn x.sc) (.slice x.wa x.wn x.wc) (.slice x.ha x.hn x.hc)
 ow:OwnI wr (w.heap.size+1) v xs
 lt:c<w.heap.size/\w.heap.size+1<=wr.heap.size
section
variable {w wr w':World} {W0 c len cap:Nat} {a0:Option Addr} {x:SysIn} {v:Value} {xs:List Int}
theorem BoxC.blkC {w w':World} {N:Nat} {p a b q:Value} (h:BoxC w N p a b q) (hb:w'.heap[N]? = w.heap[N]?):BoxC w' N p a b q:=
 ⟨(zH hb).trans h.1,(zH hb).trans h.2.1,(zH hb).trans h.2.2.1,(zH hb).trans h.2.2.2⟩
theorem CD.draw (h:CD w wr W0 c a0 len cap x v xs) (hc:Cur w' W0 c a0 len cap) (hg:wr.grownBy w' (some c)):CD w w' W0 c a0 len cap x v xs:=
 ⟨hc,h.gr.trans hg,h.bx.blkC (hg.block _ h.lt.2 (fun e=>by have:=h.lt.1;injection e;omega)),h.ow.grown hg (by have:=h.lt.1;omega),h.lt.1,zP h.lt.2 hg.size⟩
theorem CD.next (h:CD w wr W0 c a0 len cap x v xs) {v':Value} {ys:List Int} (hb:Below (w.heap.size+1) wr w') (ho:OwnI w' (w.heap.size+1) v' ys):CD w w' W0 c a0 len cap x v' ys:=by
 have hl:=h.lt
 have g:wr.grownBy w' (some w'.heap.size)->True:=fun _=>trivial
 refine ⟨?_,⟨hb.os.trans h.gr.os,hb.tape.trans h.gr.tape,hb.output.trans h.gr.output,zP h.gr.size hb.size,fun k hk hne=>(hb.block k (by omega)).trans (h.gr.block k hk hne)⟩,h.bx.blkC (hb.block _ (by omega)),ho,hl.1,zP hl.2 hb.size⟩
 have hcc:=h.cu
 have hblk:w'.heap[c]? = wr.heap[c]?:=hb.block c (by omega)
 exact ⟨hcc.ex.imp fun i=>fun ⟨z,e⟩=>⟨z,(zH hblk).trans e.1,(zH hblk).trans e.2.1,(zH hblk).trans e.2.2⟩,fun o=>(zI hblk).trans (hcc.fr o),by have:=hb.size;omega,hcc.ge,hcc.by'.kept fun k hk=>hb.block k (by have:=hcc.ge;omega),hcc.ln⟩
end
def DrwC (w:World) (W0 c:Nat) (a0:Option Addr) (len cap:Nat) (e:Ending) (w':World):Prop:=∃ v xs,e=.returned v/\OwnI w' w.heap.size v xs/\xs.length<=20/\Cur w' W0 c a0 len cap/\w.grownBy w' (some c)
theorem l8DrawCut_any (W0 c len cap:Nat) (a0:Option Addr) (x:SysIn) (w:World) (hc:Cur w W0 c a0 len cap) (hX:∀ w',w.grownBy w' (some c)->SysG w' x) (hm:x.y.Sm):
  Calls Tryz.prog 90 #[.pointer (some ⟨c,0,none⟩),x.v] w (DrwC w W0 c a0 len cap):=by
 have HX:Hid (∀ w',w.grownBy w' (some c)->SysG w' x):=hX
 have HM:Hid (x.hn<=16/\∀ i,i<x.hn->x.hL i<=1000):=⟨hm.n.2.2.2,hm.h⟩
 have hn':(x.hn:Int)<=16:=by have:x.hn<=16:=hm.n.2.2.2;omega
 have C0:Hid (CD w ((w.alloc (oQ4 x.pa x.pn x.pc x.sa x.sn x.sc x.wa x.wn x.wc x.ha x.hn x.hc)).alloc (.cells #[] 3)) W0 c a0 len cap x (.slice (some ⟨w.heap.size+1,0,none⟩) 0 0) []):=by
  have hcl:=hc.lt
  have h1:=BoxC.new w (.slice x.pa x.pn x.pc) (.slice x.sa x.sn x.sc) (.slice x.wa x.wn x.wc) (.slice x.ha x.hn x.hc) 29
  have b2:=zQ (w.alloc (oQ4 x.pa x.pn x.pc x.sa x.sn x.sc x.wa x.wn x.wc x.ha x.hn x.hc)) (.cells #[] 3)
  have ho:=World.ownsRow_made (base:=w.heap.size+1) (e:=3) (size:=1) (w.alloc (oQ4 x.pa x.pn x.pc x.sa x.sn x.sc x.wa x.wn x.wc x.ha x.hn x.hc)) #[] 0 (by simp) (by unfold maxLen;omega) (by simp)
  simp only [World.size_alloc] at ho
  exact ⟨(hc.alloc _).alloc _,(World.grownBy_alloc _ _ _).trans (World.grownBy_alloc _ _ _),h1.below b2,ho,hcl,by simp⟩
 clear hc hX hm
 go_enter Tryz.func90,Tryz.ntmps90
 go_wp2_with fail
 generalize (w.alloc (oQ4 x.pa x.pn x.pc x.sa x.sn x.sc x.wa x.wn x.wc x.ha x.hn x.hc)).alloc (.cells #[] 3)=wA at *
 go_loopw [5,6] (fun u i wr=>∃ (j:Nat) (a:Option Addr) (cp:Nat) (xs:List Int),j<=x.hn/\i=.int .i64 j/\u=.slice a j cp/\Hid (CD w wr W0 c a0 len cap x (.slice a j cp) xs/\xs.length=j)) (fun _ i _=>x.hn - (intOf i).toNat)
 case atStart=>exact ⟨0,_,_,[],Nat.zero_le _,rfl,rfl,C0.out,rfl⟩
 case round=>
  clear C0
  obtain ⟨j,a,cp,xs,hj,rfl,rfl,HC⟩:=hrel
  have p3:=HC.out.1.bx.2.2.2
  by_cases hlt:j<x.hn
  ·have hlt':(j:Int)<(x.hn:Int):=by omega
   obtain ⟨b,off,ea,ch⟩:=(HX.out wr HC.out.1.gr).h.at hlt
   rw [ea] at p3
   clear ea
   have hll:(x.hL j:Int)<=1000:=by have:=HM.out.2 j hlt;omega
   go_wp2_with fail
   clear p3 ch
   refine (l1Once_any W0 c len cap a0 2 wr HC.out.1.cu (by omega) (by omega)).mono ?_
   rintro e w1 ⟨t,rfl,c1,g1⟩
   have C1:Hid (CD w w1 W0 c a0 len cap x (.slice a j cp) xs/\xs.length=j):=⟨HC.out.1.draw c1 g1,HC.out.2⟩
   clear c1 g1 HC
   cases t
   ·go_wp2_with (at_builtin;refine append_oneN w1 rfl rfl _ _ rfl (w.heap.size+1) (.slice a j cp) xs rfl C1.out.1.ow (x.hL j:Int) rfl (by have:=C1.out.2;omega) C1.out.1.lt.2 ?_;intro v5 w5 o5 b5;obtain ⟨a5,c5,rfl,-⟩:=o5.form;have h8:(xs ++ [(x.hL j:Int)]).length=j+1:=(by simp [C1.out.2]);have h9:=C1.out.1.next b5 o5;have C5:Hid (CD w w5 W0 c a0 len cap x (.slice a5 (j+1) c5) (xs ++ [(x.hL j:Int)])/\(xs ++ [(x.hL j:Int)]).length=j+1):=⟨(show CD w w5 W0 c a0 len cap x (.slice a5 (j+1) c5) (xs ++ [(x.hL j:Int)]) from h8 ▸ h9),h8⟩;clear o5 b5 h8 h9)
    go_roundw
    case rel=>exact ⟨j+1,a5,c5,_,by omega,by go_num,by first | rfl | (rw [C1.out.2]),C5.out⟩
    case measure=>simp [intOf];omega
   ·go_wp2_with fail
    refine (l1Below_wide W0 c len cap a0 ((x.hL j:Int)+1) w1 C1.out.1.cu (by omega) (by omega)).mono ?_
    rintro e w2 ⟨z,rfl,hz,c2,g2⟩
    have C2:Hid (CD w w2 W0 c a0 len cap x (.slice a j cp) xs/\xs.length=j):=⟨C1.out.1.draw c2 g2,C1.out.2⟩
    clear c2 g2 C1
    go_wp2_with (at_builtin;refine append_oneN w2 rfl rfl _ _ rfl (w.heap.size+1) (.slice a j cp) xs rfl C2.out.1.ow z rfl (by have:=C2.out.2;omega) C2.out.1.lt.2 ?_;intro v5 w5 o5 b5;obtain ⟨a5,c5,rfl,-⟩:=o5.form;have h8:(xs ++ [z]).length=j+1:=(by simp [C2.out.2]);have h9:=C2.out.1.next b5 o5;have C5:Hid (CD w w5 W0 c a0 len cap x (.slice a5 (j+1) c5) (xs ++ [z])/\(xs ++ [z]).length=j+1):=⟨(show CD w w5 W0 c a0 len cap x (.slice a5 (j+1) c5) (xs ++ [z]) from h8 ▸ h9),h8⟩;clear o5 b5 h8 h9)
    go_roundw
    case rel=>exact ⟨j+1,a5,c5,_,by omega,by go_num,by first | rfl | (rw [C2.out.2]),C5.out⟩
    case measure=>simp [intOf];omega
  ·have hjn:j<=16:=by omega
   have hjn':(j:Int)<=16:=by omega
   go_wp2_with fail
   clear p3
   refine (zY W0 c len cap a0 15 wr HC.out.1.cu (by omega) (by omega)).mono ?_
   rintro e w1 ⟨z,rfl,hz,c1,g1⟩
   have C1:Hid (CD w w1 W0 c a0 len cap x (.slice a j cp) xs/\xs.length=j):=⟨HC.out.1.draw c1 g1,HC.out.2⟩
   clear c1 g1 HC
   by_cases z0:z=0
   ·subst z0
    go_wp2_with (at_builtin;refine append_oneN w1 rfl rfl _ _ rfl (w.heap.size+1) (.slice a j cp) xs rfl C1.out.1.ow 0 rfl (by have:=C1.out.2;omega) C1.out.1.lt.2 ?_;intro v5 w5 o5 b5;obtain ⟨a5,c5,rfl,-⟩:=o5.form;have C5:Hid (CD w w5 W0 c a0 len cap x (.slice a5 (xs ++ [(0:Int)]).length c5) (xs ++ [(0:Int)])/\(xs ++ [(0:Int)]).length<=20):=⟨C1.out.1.next b5 o5,by have:=C1.out.2;simp;omega⟩;clear o5 b5)
    refine bodyPost_ret (v:=.slice a5 (xs ++ [(0:Int)]).length c5) (by simp [results,Tryz.results90,go_sem]) rfl ⟨_,_,rfl,C5.out.1.ow.mono (by omega),C5.out.2,C5.out.1.cu,C5.out.1.gr⟩
   by_cases z1:z=1
   ·subst z1
    by_cases hj0:j=0
    ·subst hj0
     go_wp2
     refine bodyPost_ret (v:=.slice a 0 cp) (by simp [results,Tryz.results90,go_sem]) rfl ⟨_,xs,rfl,C1.out.1.ow.mono (by omega),by have:=C1.out.2;omega,C1.out.1.cu,C1.out.1.gr⟩
    ·have hj0':(j:Int) > 0:=by omega
     have CA:Hid (CD w (w1.alloc (.cells #[.int .i64 (-1),.int .i64 300] 3)) W0 c a0 len cap x (.slice a j cp) xs/\xs.length=j/\IntsAt (w1.alloc (.cells #[.int .i64 (-1),.int .i64 300] 3)) w1.heap.size 2 (fun i=>if i=0 then -1 else 300)/\w1.heap.size≠c/\w1.heap.size<(w1.alloc (.cells #[.int .i64 (-1),.int .i64 300] 3)).heap.size):=by
      have hl:=C1.out.1.lt
      refine ⟨C1.out.1.draw (C1.out.1.cu.alloc _) (World.grownBy_alloc _ _ _),C1.out.2,fun i hi=>?_,by omega,by simp⟩
      match i,hi with
      | 0,_=>exact zW _ _ _ 0 rfl
      | 1,_=>exact zW _ _ _ 1 rfl
     go_wp2_with fail
     generalize w1.alloc (.cells #[.int .i64 (-1),.int .i64 300] 3)=wB at *
     refine (l1PickInt_any W0 c len cap w1.heap.size 2 2 a0 _ wB CA.out.1.cu (by omega) (by omega) CA.out.2.2.2.2 CA.out.2.2.2.1 CA.out.2.2.1).mono ?_
     rintro e w3 ⟨z3,rfl,c3,g3⟩
     have C3:Hid (CD w w3 W0 c a0 len cap x (.slice a j cp) xs/\xs.length=j):=⟨CA.out.1.draw c3 g3,CA.out.2.1⟩
     clear c3 g3 CA C1
     have ho:=C3.out.1.ow
     rw [<- C3.out.2] at ho
     obtain ⟨g,cp',ev,hg,hgl⟩:=ho.block (by have:=C3.out.2;omega)
     simp only [Value.slice.injEq,true_and] at ev
     obtain ⟨rfl,rfl⟩:=ev
     have q0:=ho.cell (j:=0) (by have:=C3.out.2;omega)
     have fz:=fun i=>ho.frozen i
     have hs:=(ho.set rfl 0 z3)
     have C4:Hid (CD w (w3.setCell ⟨g,0,none⟩ (.int .i64 z3)) W0 c a0 len cap x (.slice (some ⟨g,0,none⟩) xs.length cp) (xs.set 0 z3)/\xs.length=j):=by
      refine ⟨C3.out.1.next ⟨rfl,rfl,rfl,by simp,fun k hk=>zO _ _ _ _ (by show k≠g;omega)⟩ hs.1,C3.out.2⟩
     clear hs ho
     go_wp2
     refine bodyPost_ret (v:=.slice (some ⟨g,0,none⟩) j cp) (by simp [results,Tryz.results90,go_sem]) rfl ⟨_,xs.set 0 z3,rfl,by have h9:=C4.out.1.ow.mono (show w.heap.size<=w.heap.size+1 by omega);rw [C4.out.2] at h9;exact h9,by have:=C4.out.2;simp;omega,C4.out.1.cu,C4.out.1.gr⟩
   ·have z0':(z == 0)=false:=by simp [z0]
    have z1':(z == 1)=false:=by simp [z1]
    go_wp2
    refine bodyPost_ret (v:=.slice a j cp) (by simp [results,Tryz.results90,go_sem]) rfl ⟨_,xs,rfl,C1.out.1.ow.mono (by omega),by have:=C1.out.2;omega,C1.out.1.cu,C1.out.1.gr⟩
