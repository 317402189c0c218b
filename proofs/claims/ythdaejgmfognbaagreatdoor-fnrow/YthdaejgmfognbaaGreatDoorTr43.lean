import Derived.Test.YthdaejgmfognbaaGreatDoorTe0
import Derived.Test.YthdaejgmfognbaaGreatDoorTe34
import Derived.Test.YthdaejgmfognbaaGreatDoorTe29
import Derived.Test.YthdaejgmfognbaaGreatDoorTe22
import Derived.Lib.QuietBelow
import Derived.Deep.RegionWith
import Derived.Deep.RegionLaw
import Derived.BigQuiet
import Derived.Test.YthdaejgmfognbaaGreatDoorTr42
import Derived.Test.YthdaejgmfognbaaGreatDoorTe21
import Derived.Test.YthdaejgmfognbaaGreatDoorTe28
import Derived.Deep.LoopGhost
import Derived.Test.YthdaejgmfognbaaGreatDoorTe41
import Derived.Laws.IdiomCopy
import Derived.Test.YthdaejgmfognbaaGreatDoorTe10
import Derived.Test.YthdaejgmfognbaaGreatDoorTe24
namespace Go.Proofs.YthdaejgmfognbaaGreatDoor
set_option maxRecDepth 100000
set_option maxHeartbeats 16000000
open Go.ChangeShapes Go.WideShapes Go.ChangeAt Go.RowKit Go.Deep Go.Sort
theorem Sl.all {w:World} {a0:Option Addr} {xs:List Int} (h:Sl w a0 xs) (hn:0<xs.length):∃ b off,a0=some ⟨b,off,none⟩/\b<w.heap.size/\∀ i,i<xs.length->w.cell? ⟨b,off+i,none⟩=some (.int .i64 (zi xs i)):=by
 rcases h with rfl | h
 ·simp at hn
 ·exact h
theorem RowS.all {w:World} {a0:Option Addr} {n:Nat} {f:Nat->Value} (h:RowS w a0 n f) (hn:0<n):∃ b off,a0=some ⟨b,off,none⟩/\b<w.heap.size/\∀ i,i<n->w.cell? ⟨b,off+i,none⟩=some (f i):=by
 rcases h with rfl | h
 ·omega
 ·exact h
open Go.Maps
theorem EvAt.put {w:World} {g n:Nat} {E:Nat->E3} (h:EvAt w g 0 n E) (t:Nat) (z:Int):∃ E',EvAt (w.setCell ⟨g,t,none⟩ (.int .i64 z)) g 0 n E':=by
 have key:∀ (o:Nat) (x:Int),w.cell? ⟨g,o,none⟩=some (.int .i64 x)->(w.setCell ⟨g,t,none⟩ (.int .i64 z)).cell? ⟨g,o,none⟩=some (.int .i64 (if o=t then z else x)):=by
  intro o x hx
  by_cases e:o=t
  ·subst e
   rw [if_pos rfl]
   exact World.cell?_setCell_same _ _ _ hx
  ·rw [if_neg e]
   exact (World.cell?_setCell_other _ _ _ _ fun e'=>e (by injection e' with _ e2;exact e2.symm)).trans hx
 refine ⟨fun i=>⟨if 0+i*3=t then z else (E i).k,if 0+i*3+1=t then z else (E i).q,if 0+i*3+2=t then z else (E i).v⟩,fun i hi=>?_⟩
 obtain ⟨h0,h1,h2⟩:=h i hi
 exact ⟨key _ _ h0,key _ _ h1,key _ _ h2⟩
def flatE (E:Nat->E3):Nat->List Value
 | 0=>[]
 | n+1=>flatE E n ++ [.int .i64 (E n).k,.int .i64 (E n).q,.int .i64 (E n).v]
theorem flatE_length (E:Nat->E3):∀ n,(flatE E n).length=n*3
 | 0=>rfl
 | n+1=>by
  rw [flatE,List.length_append,flatE_length E n]
  simp
  omega
theorem flatE_at (E:Nat->E3):∀ n i,i<n->(flatE E n)[i*3]? = some (.int .i64 (E i).k)/\(flatE E n)[i*3+1]? = some (.int .i64 (E i).q)/\(flatE E n)[i*3+2]? = some (.int .i64 (E i).v)
 | 0,i,hi=>by omega
 | n+1,i,hi=>by
  have hl:=flatE_length E n
  by_cases e:i=n
  ·subst e
   rw [flatE,List.getElem?_append_right (by omega),List.getElem?_append_right (by omega),List.getElem?_append_right (by omega),hl]
   simp
  ·obtain ⟨h0,h1,h2⟩:=flatE_at E n i (by omega)
   rw [flatE,List.getElem?_append_left (by omega),List.getElem?_append_left (by omega),List.getElem?_append_left (by omega)]
   exact ⟨h0,h1,h2⟩
theorem EvAt.cut {w:World} {g k j:Nat} {E:Nat->E3} (h:EvAt w g 0 k E) (hj:j<k):EvAt (w.setCells g (j*3) (flatE (fun i=>E (j+1+i)) (k - (j+1)))) g 0 (j+(k - (j+1))) (fun i=>if i<j then E i else E (i+1)):=by
 intro i hi
 have hl:=flatE_length (fun i=>E (j+1+i)) (k - (j+1))
 by_cases e:i<j
 ·have hout:∀ t,t<j*3->(w.setCells g (j*3) (flatE (fun i=>E (j+1+i)) (k - (j+1)))).cell? ⟨g,t,none⟩=w.cell? ⟨g,t,none⟩:=fun t ht=>World.cell?_setCells_out g _ _ _ _ fun _ _=>.inl ht
  obtain ⟨h0,h1,h2⟩:=h i (by omega)
  simp only [if_pos e]
  exact ⟨(hout _ (by omega)).trans h0,(hout _ (by omega)).trans h1,(hout _ (by omega)).trans h2⟩
 ·simp only [if_neg e]
  have hall:∀ t,t<(flatE (fun i=>E (j+1+i)) (k - (j+1))).length->(w.cell? ⟨g,j*3+t,none⟩).isSome=true:=by
   intro t ht
   rw [hl] at ht
   obtain ⟨h0,h1,h2⟩:=h (j+t / 3) (by omega)
   have he:t=t / 3*3\/t=t / 3*3+1\/t=t / 3*3+2:=by omega
   rcases he with e | e | e
   ·rw [show j*3+t=0+(j+t / 3)*3 from by omega,h0];rfl
   ·rw [show j*3+t=0+(j+t / 3)*3+1 from by omega,h1];rfl
   ·rw [show j*3+t=0+(j+t / 3)*3+2 from by omega,h2];rfl
  have hin:=fun t ht=>World.cell?_setCells_in g (flatE (fun i=>E (j+1+i)) (k - (j+1))) (j*3) w hall t ht
  obtain ⟨f0,f1,f2⟩:=flatE_at (fun i=>E (j+1+i)) (k - (j+1)) (i - j) (by omega)
  have hE:E (j+1+(i - j))=E (i+1):=by rw [show j+1+(i - j)=i+1 from by omega]
  rw [hE] at f0 f1 f2
  refine ⟨?_,?_,?_⟩
  ·rw [show 0+i*3=j*3+(i - j)*3 from by omega,hin _ (by omega),<- f0,List.getElem?_eq_getElem (by omega)]
  ·rw [show 0+i*3+1=j*3+((i - j)*3+1) from by omega,hin _ (by omega),<- f1,List.getElem?_eq_getElem (by omega)]
  ·rw [show 0+i*3+2=j*3+((i - j)*3+2) from by omega,hin _ (by omega),<- f2,List.getElem?_eq_getElem (by omega)]
theorem big_any (a0:Option Addr) (len cap:Nat) (w:World):
  Calls Tryz.prog 9 #[.slice a0 len cap] w fun e w'=>e=.returned (.bool (decide ((1048576:Int)<len)))/\w'=w:=by
 go_enter Tryz.func9,Tryz.ntmps9
 go_wp2
 go_ret
 exact ⟨rfl,rfl⟩
theorem open_bytes {H:Type} {enc:TypeId × Value->H} {w:World} {a0:Option Addr} {len cap:Nat} {d:DataW H} {p:List MemPlace}
  (h:DataW.Trod enc Tryz.prog w 0 (fun _=>true) true 22 (.slice a0 len cap) d p):len<=maxLen/\BytesAt w w.heap.size a0 len:=by
 obtain ⟨fuel,hf⟩:=h
 rcases open_ints Tryz.underlying22 Tryz.underlying5 (by kernel_rfl) hf with ⟨hcs,_⟩ | ⟨x,l,c,zs,hcs,_,hl,hm,hz,_,hcell,hwz⟩
 ·simp [Value.cells] at hcs
  obtain ⟨_,rfl,_⟩:=hcs
  exact ⟨Nat.zero_le _,.inl rfl⟩
 ·simp [Value.cells] at hcs
  obtain ⟨rfl,rfl,rfl⟩:=hcs
  refine ⟨zP hl hm,?_⟩
  by_cases h0:len=0
  ·exact .inl h0
  right
  have hz':zs.length=cap:=by simpa using hz
  obtain ⟨b,off,rfl,hc⟩:=ints_at hcell (by omega)
  refine ⟨b,off,rfl,cell_lt (hc 0 (by omega)),fun j hj=>⟨zs.getD j 0,hc j (by omega),?_⟩⟩
  have hmem:zs.getD j 0 ∈ zs:=by
   rw [List.getD_eq_getElem?_getD,List.getElem?_eq_getElem (by omega)]
   exact List.getElem_mem _
  exact bounds_u8 (hwz _ hmem)
