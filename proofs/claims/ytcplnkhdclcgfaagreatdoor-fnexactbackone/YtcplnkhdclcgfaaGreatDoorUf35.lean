import Derived.Test.YtcplnkhdclcgfaaGreatDoorUf0
import Derived.Test.YtcplnkhdclcgfaaGreatDoorUf24
import Derived.Deep.CutBlock
namespace Go.Proofs.YtcplnkhdclcgfaaGreatDoor
open Go.ChangeShapes Go.WideShapes Go.ChangeAt Go.RowKit Go.Deep
theorem OwnS.recol {z:Bool} {w:World} {B:Nat} {c:Nat->Nat} {y:Sy} {vp vs vw vh:Value} {up us uw uh:Nat->Value} (o:OwnS z w B c y vp vs vw vh up us uw uh) (q:Nat):OwnS z w B (rcol c w.heap.size q) y vp vs vw vh up us uw uh:=
 ⟨o.p.mono fun _ h hl=>h.old hl,o.s.mono fun _ h hl=>h.old hl,o.t.mono fun _ h hl=>h.old hl,o.h.mono fun _ h hl=>h.old hl⟩
structure Mid (y:Sy) (w:World) (B:Nat) (c0:Nat->Nat) (N:Nat) (vp vs vw vh:Value) (up us uh:Nat->Value) (wx:World):Prop where
 be:Below B w wx
 bx:BoxC wx w.heap.size vp vs vw vh
 rb:BoxC wx (w.heap.size+1) (.slice none 0 0) (.slice none 0 0) (.slice none 0 0) (.slice none 0 0)
 rf:∀ j,wx.frozen? ⟨w.heap.size+1,j,none⟩=false
 ev:∃ k q v,EvK wx N k q v
 p:LI true wx (Cl B c0 1) vp y.pn up y.pL y.pH
 s:LS wx (Cl B c0 2) vs y.sn us y.sS
 h:LE true wx (Cl B c0 4) vh y.hn uh y.hL y.hH
structure MidW (y:Sy) (p:Nat) (w:World) (B N:Nat) (k q v:Int) (vp vs vw vh:Value) (up us uh:Nat->Value) (wx:World):Prop where
 be:Below B w wx
 bx:BoxC wx w.heap.size vp vs vw vh
 rb:BoxC wx (w.heap.size+1) (.slice none 0 0) (.slice none 0 0) (.slice none 0 0) (.slice none 0 0)
 rf:∀ j,wx.frozen? ⟨w.heap.size+1,j,none⟩=false
 ev:EvK wx N k q v
 ow:∃ c uw,OwnS true wx B c (y.way p k q v) vp vs vw vh up us uw uh/\c w.heap.size=0/\c (w.heap.size+1)=0/\c N=0
