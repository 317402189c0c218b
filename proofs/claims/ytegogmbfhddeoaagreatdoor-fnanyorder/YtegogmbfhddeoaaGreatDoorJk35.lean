import Derived.Test.YtegogmbfhddeoaaGreatDoorJk31
import Derived.Maps.OwnSet
import Derived.DeepKeys4
import Derived.Carry
import Derived.Test.YtegogmbfhddeoaaGreatDoorJk34
import Derived.Test.YtegogmbfhddeoaaGreatDoorJk33
import Derived.Test.YtegogmbfhddeoaaGreatDoorJk32
namespace Go.Proofs.YtegogmbfhddeoaaGreatDoor
open Go.ChangeShapes Go.WideShapes Go.ChangeAt Go.RowKit Go.Deep Go.Sort Go.Maps
def kS (p i:Int):Lit:=.string (keyBytes [.int .i64 p,.int .i64 i])
theorem qss (a b c d:Int) (w:World):(Instr.index 66 (.agg #[.int .i64 a,.int .i64 b,.int .i64 c,.int .i64 d]) (.int .i64 0)).run Tryz.prog w=.ok (.int .i64 a) w:=by kernel_rfl
theorem qst (a b c d:Int) (w:World):(Instr.index 66 (.agg #[.int .i64 a,.int .i64 b,.int .i64 c,.int .i64 d]) (.int .i64 1)).run Tryz.prog w=.ok (.int .i64 b) w:=by kernel_rfl
theorem qsu (a b c d:Int) (w:World):(Instr.index 66 (.agg #[.int .i64 a,.int .i64 b,.int .i64 c,.int .i64 d]) (.int .i64 2)).run Tryz.prog w=.ok (.int .i64 c) w:=by kernel_rfl
theorem qsv (a b c d:Int) (w:World):(Instr.index 66 (.agg #[.int .i64 a,.int .i64 b,.int .i64 c,.int .i64 d]) (.int .i64 3)).run Tryz.prog w=.ok (.int .i64 d) w:=by kernel_rfl
section
attribute [local go_sem] qss qst qsu qsv
end
def hisZ (ha:Option Addr) (hn hc:Nat):List Value:=[.slice ha hn hc,.int .i64 0,.int .i64 0,.int .i64 0,.int .i64 0,.int .i64 0,.int .i64 0,.int .i64 0,.int .i64 0,.int .i64 0,.int .i64 0,.int .i64 0,.int .i64 0,.int .i64 0,.int .i64 0,.int .i64 0,.int .i64 0,.int .i64 0,.int .i64 0,.int .i64 0,.int .i64 0]
theorem qr5 (ha:Option Addr) (hn hc:Nat):(hisZ ha hn hc).length=21:=rfl
theorem qr6 (ha:Option Addr) (hn hc:Nat):∀ v ∈ hisZ ha hn hc,v.oneCell'=true:=by
 intro v hv;simp only [hisZ,List.mem_cons,List.not_mem_nil,or_false] at hv
 rcases hv with rfl | rfl | rfl | rfl | rfl | rfl | rfl | rfl | rfl | rfl | rfl | rfl | rfl | rfl | rfl | rfl | rfl | rfl | rfl | rfl | rfl <;> rfl
theorem qva:(Tryz.prog.info? 69).map (·.size)=some 21:=by kernel_rfl
theorem HisQ.of_range {w:World} {X:Nat} {x:SysIn} (h:w.rangeAt X 0 (hisZ x.ha x.hn x.hc)) (hn:x.hn=x.pn) (hf:∀ j,w.frozen? ⟨X,j,none⟩=false):HisQ w X x.ha x.hc x.y.hs (fun _=>0):=by
 have hz:∀ j,j<20->w.cell? ⟨X,1+j,none⟩=some (.int .i64 0):=fun j hj=>by
  have h1:(hisZ x.ha x.hn x.hc)[1+j]? = some (.int .i64 0):=by
   match j,hj with
   | 0,_=>rfl
   | 1,_=>rfl
   | 2,_=>rfl
   | 3,_=>rfl
   | 4,_=>rfl
   | 5,_=>rfl
   | 6,_=>rfl
   | 7,_=>rfl
   | 8,_=>rfl
   | 9,_=>rfl
   | 10,_=>rfl
   | 11,_=>rfl
   | 12,_=>rfl
   | 13,_=>rfl
   | 14,_=>rfl
   | 15,_=>rfl
   | 16,_=>rfl
   | 17,_=>rfl
   | 18,_=>rfl
   | 19,_=>rfl
   | n+20,h=>exact absurd h (by omega)
  have:=h (1+j) _ h1
  rwa [Nat.zero_add] at this
 refine ⟨?_,fun i hi=>hz i (by omega),fun a b ha hb=>?_,hf⟩
 ·have:=h 0 _ rfl
  show w.cell? ⟨X,0,none⟩=some (.slice x.ha x.pn x.hc);rw [<- hn];exact this
 ·rw [Hs.opn_start,show 5+a*4+b=1+(4+a*4+b) by omega]
  exact hz _ (by omega)
theorem BoxC.blkK {w w':World} {N:Nat} {p vr vo code:Value} (h:BoxC w N p vr vo code) (hb:w'.heap[N]? = w.heap[N]?):BoxC w' N p vr vo code:=by
 obtain ⟨h0,h1,h2,h3⟩:=h;exact ⟨(zH hb).trans h0,(zH hb).trans h1,(zH hb).trans h2,(zH hb).trans h3⟩
def BoxS (w:World) (N:Nat) (a b:Value):Prop:=w.cell? ⟨N,0,none⟩=some a/\w.cell? ⟨N,1,none⟩=some b
theorem BoxS.lt {w:World} {N:Nat} {a b:Value} (h:BoxS w N a b):N<w.heap.size:=zJ w _ h.1
theorem BoxS.blk {w w':World} {N:Nat} {a b:Value} (h:BoxS w N a b) (hb:w'.heap[N]? = w.heap[N]?):BoxS w' N a b:=⟨(zH hb).trans h.1,(zH hb).trans h.2⟩
theorem BoxS.below {w w':World} {N:Nat} {a b:Value} (h:BoxS w N a b) (hb:Below w.heap.size w w'):BoxS w' N a b:=h.blk (hb.block N h.lt)
theorem BoxS.new (w:World) (a b:Value) (t:TypeId):BoxS (w.alloc (.cells #[a,b] t)) w.heap.size a b:=⟨zW _ _ _ 0 rfl,zW _ _ _ 1 rfl⟩
def spEq (p i q j:Int):Bool:=p == q && i == j
def hgN (y:Sy) (p i q j:Nat):Bool:=!spEq p i q j && decide (j<clk y p i q)
noncomputable def qvo (y:Sy) (p i q j:Int):Bool:=hasB y p i && hasB y q j
noncomputable def hgB (y:Sy) (p i q j:Int):Bool:=qvo y p i q j && hgN y p.toNat i.toNat q.toNat j.toNat
def Sy.nil (y:Sy):Sy:={ y with pn:=0,sn:=0,wn:=0,hn:=0 }
theorem Sy.Cl.ex {y:Sy} {c:List Int}:∀ (n:Nat) (e:List Int),sm e<=n->y.Cl c e->∃ e',y.Cl c e'/\y.Wh (cN e')
 | n,e,hn,h=>by
  by_cases hw:y.Wh (cN e)
  ·exact ⟨e,h,hw⟩
  ·obtain ⟨a,ha,b,hb,hno⟩:∃ a,a<y.pn/\∃ b,b<y.pn/\¬ tN y (cN e) a b<=sN y (cN e) a b:=by
    apply Classical.byContradiction;intro hc;exact hw fun a ha b hb=>Classical.byContradiction fun h'=>hc ⟨a,ha,b,hb,h'⟩
   have ho:0<=ovN y (cN e) a b:=by
    apply Classical.byContradiction;intro h0;exact hno (qqr.1 (by omega))
   obtain ⟨h1,h2,h3⟩:=h.next ha hb ho;have hlt:=qtw e b _ (by rw [h.len];exact hb) h3 h2;cases n with
   | zero=>omega
   | succ n=>exact Sy.Cl.ex n _ (by omega) h1
theorem qaw.weak {z:Bool} {w:World} {B:Nat} {y:Sy} {v:Value} (o:qaw z w B y v):qaw false w B y v:=by
 obtain ⟨c,vp,vs,vw,vh,up,us,uw,uh,e,o⟩:=o;exact ⟨c,vp,vs,vw,vh,up,us,uw,uh,e,o.weak⟩
theorem qju (eh:Nat->E3) (kd pr:Int) (n:Nat):∀ k,∃ t,valL eh kd pr (n+k)=valL eh kd pr n ++ t
 | 0=>⟨[],by simp⟩
 | k+1=>by
  obtain ⟨t,h⟩:=qju eh kd pr n k
  rcases zK (hitB eh kd pr (n+k)) with e | e
  ·exact ⟨t ++ [(eh (n+k)).v],by rw [<- Nat.add_assoc,qgs e,h,List.append_assoc]⟩
  ·exact ⟨t,by rw [<- Nat.add_assoc,qgt e,h]⟩
theorem Sy.Wh.congr {y:Sy} {c d:Nat->Nat} (h:y.Wh c) (e:∀ p,p<y.pn->d p=c p):y.Wh d:=fun a ha b hb=>by
 have:=h a ha b hb;unfold tN sN at *;rw [e a ha,e b hb];exact this
