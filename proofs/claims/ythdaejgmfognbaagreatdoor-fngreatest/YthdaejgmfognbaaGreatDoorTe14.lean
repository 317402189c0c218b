import Derived.Test.YthdaejgmfognbaaGreatDoorTe0
import Derived.Test.YthdaejgmfognbaaGreatDoorTe13
import Derived.Test.YthdaejgmfognbaaGreatDoorRows
import Derived.Test.YthdaejgmfognbaaGreatDoorTie
import Derived.ChangeSame
import Derived.ChangeVars
import Derived.JoinedOf
import Derived.RowKit
import Derived.RowKitTokens
import Derived.LaidLaws
import Derived.LaidHandle
import Derived.Stop.Joined
namespace Go.Proofs.YthdaejgmfognbaaGreatDoor
open Go.ChangeShapes Go.WideShapes Go.ChangeAt Go.RowKit Go.Deep
structure AllIns (W:World) (a0:Option Addr) (n:Nat) (aa:Nat->Option Addr) (ls cs:Nat->Nat) (h:Nat->Nat->I5):Prop where
 row:RowS W a0 n fun i=>.slice (aa i) (ls i) (cs i)
 cop:∀ i,i<n->CopiesF W (aa i) (ls i) (cs i) (h i)
structure AllEvent (W:World) (a0:Option Addr) (n:Nat) (aa:Nat->Option Addr) (ls cs:Nat->Nat) (h:Nat->Nat->E3):Prop where
 row:RowS W a0 n fun i=>.slice (aa i) (ls i) (cs i)
 cop:∀ i,i<n->CopiesE W (aa i) (ls i) (cs i) (h i)
def ItL (w:World) (a:Option Addr) (len:Nat) (h:Nat->I2):Prop:=len=0\/∃ b off,a=some ⟨b,off,none⟩/\b<w.heap.size/\ItAt w b off len h
theorem ItL.below {w w':World} {a:Option Addr} {len:Nat} {h:Nat->I2} (hh:ItL w a len h) (hb:Below w.heap.size w w'):ItL w' a len h:=by
 rcases hh with e | ⟨b,off,e,hlt,hc⟩
 ·exact .inl e
 ·exact .inr ⟨b,off,e,zL hlt hb.size,hc.below hb hlt⟩
theorem ItL.at {w:World} {a:Option Addr} {len:Nat} {h:Nat->I2} (hh:ItL w a len h) {k:Nat} (hk:k<len):∃ b off,a=some ⟨b,off,none⟩/\b<w.heap.size/\w.cell? ⟨b,off+k*2,none⟩=some (.bool (h k).m)/\w.cell? ⟨b,off+k*2+1,none⟩=some (.int .i64 (h k).v):=by
 rcases hh with rfl | ⟨b,off,e,hlt,hc⟩
 ·omega
 ·exact ⟨b,off,e,hlt,hc k hk⟩
theorem Tryz.et : Tryz.prog.globalNamed "errors.errorType" = some 0 := by kernel_rfl
theorem Tryz.rt : (Tryz.prog.cutTypes.find? (·.1 == "internal/reflectlite.rtype")).map (·.2) = some 266 := by kernel_rfl
theorem Tryz.oneRow:((List.range 326).filter fun t=>Tryz.prog.rowNamed t [101,114,114,111,114])=[211]:=by kernel_rfl
theorem Tryz.tsize:Tryz.prog.types.size=326:=by kernel_rfl
theorem handle_of_laid {W : World} (h : laidMetH Tryz.prog [("errors.errorType", Rows.laid_errors_errorType)] W) : W.cell? ⟨0, 0, none⟩ = some (.iface 266 (.agg #[.pointer (some ⟨1, 211, none⟩)])) := by
 have h' : laidMet Tryz.prog [] W /\ handlesMet Tryz.prog [("errors.errorType", Rows.laid_errors_errorType)] W := h
 obtain ⟨name,u,ty,e1,e2,e3,e4,e5⟩:=h'.2 _ (List.mem_singleton.2 rfl)
 have en:name=[101,114,114,111,114]:=(Option.some.inj e1).symm
 subst en
 obtain rfl:=Option.some.inj (Tryz.rt.symm.trans e2)
 have hm:ty ∈ (List.range 326).filter fun t=>Tryz.prog.rowNamed t [101,114,114,111,114]:=List.mem_filter.2 ⟨List.mem_range.2 (by rw [<- Tryz.tsize];exact e3),e4⟩
 rw [Tryz.oneRow] at hm
 obtain rfl:=List.mem_singleton.1 hm
 have hh:typeHandle Tryz.prog 211=.pointer (some ⟨1,211,none⟩):=by kernel_rfl
 rw [hh] at e5
 simpa using World.var?_cell Tryz.et e5 0
noncomputable def laidWorld (os:Os):World:=
 let w0:=World.holding Tryz.prog os ⟨#[],#[],[]⟩
 { w0 with heap := w0.heap.modify 0 fun
   | .cells _ t frozen=>.cells #[.iface 266 (.agg #[.pointer (some ⟨1,211,none⟩)])] t frozen
   | o=>o }
theorem laidWorld_met (os : Os) (args : Array Value) : laidMetH Tryz.prog [("errors.errorType", Rows.laid_errors_errorType)] ((laidWorld os).forCall (fun _ _ => 0) ⟨#[], args, []⟩).memory :=
 laidMetH_of_parts (laidMet_nil _ _) (by kernel_rfl)
