import Derived.Test.YteggedobbojgoaaGreatDoorBf53
import Derived.LaidEql
import Derived.Stop.Asserts
import Derived.RowKitTokens
import Derived.Test.YteggedobbojgoaaGreatDoorBf33
import Derived.Laws.CopyRow
namespace Go.Proofs.YteggedobbojgoaaGreatDoor
set_option maxRecDepth 100000
set_option maxHeartbeats 4000000
open Go.ChangeShapes Go.WideShapes Go.ChangeAt Go.RowKit Go.Deep
variable {z:Bool}
theorem qcn {t e:TypeId} {bytes:Nat} (K:Kind t e 1 bytes) (n:Nat) (hn:n<=1048576):∃ cs:Array Value,cs.size=n/\∀ w:World,(Instr.makeSlice t (.int .i64 0) (.int .i64 (n:Int))).run Tryz.prog w=.ok (.slice (some ⟨w.heap.size,0,none⟩) 0 n) (w.alloc (.cells cs e)):=by
 obtain ⟨i,z,hi,hz,hs,hb,hzs⟩:=K.inf
 refine ⟨madeCells z.cells n,size_madeCells _ _,fun w=>?_⟩
 have hby:i.bytes*n<=281474976710656:=by
  rw [hb]
  exact zP (Nat.mul_le_mul K.sml hn) (by omega)
 have hby':(i.bytes:Int)*(n:Int)<=281474976710656:=by rw [<- Int.natCast_mul];exact Int.ofNat_le.2 hby
 have h:=run_make (P:=Tryz.prog) w t e i z K.und hi hz .i64 .i64 0 (n:Int) (by omega) (by omega) hby' (by omega)
 rw [hs,Nat.mul_one,Int.toNat_natCast] at h
 exact h
theorem LL.made (e:TypeId) (sz:Nat) (E:TypeId) (w:World) (cs:Array Value) (n:Nat) (hn:n<=1048576) (hc:cs.size=n) (P:Nat->Prop) (hP:P w.heap.size) (u:Nat->Value) (L:Nat->Nat) (c:Nat->List Value):LL z e sz E (w.alloc (.cells cs E)) P (.slice (some (aQ w.heap.size 0)) 0 n) 0 u L c:=
 ⟨World.ownsRow_made (base:=0) (e:=E) (size:=1) w cs n (Nat.zero_le _) (by unfold maxLen;omega) (by rw [hc,Nat.mul_one]),fun i hi=>(by omega),fun k hk=>(by cases hk;exact hP),fun i hi=>(by omega),fun i hi=>(by omega),fun i j hi=>(by omega),fun i hi=>(by omega)⟩
theorem qkr (b off n cap:Nat) (H:Nat->I5) (w:World) (hn:n<=1048576) (hI:Src w (some (aQ b off)) (fI H n)):
  Calls Tryz.prog 96 #[.slice (some (aQ b off)) n cap] w fun e w'=>∃ a c,e=.returned (.slice a n c)/\w'.ownsRow w.heap.size 81 5 (.slice a n c) n (fI H n)/\Value.slice a n c≠.slice none 0 0/\Bw w w':=by
 have HI:Hid (Src w (some (aQ b off)) (fI H n)):=hI
 have he:∀ wx:World,(binOp .eql 49 (.slice (some ⟨b,off,none⟩) n cap) (.slice none 0 0)).run Tryz.prog wx=.ok (.bool false) wx:=fun wx=>by kernel_rfl
 clear hI
 go_enter Tryz.func96,Tryz.ntmps96
 go_wp2_with (at_builtin;refine qbm kndI w rfl rfl _ _ rfl (some (aQ b off)) n cap (fI H n) rfl rfl (qqg _ _) HI.out (qt7 _ _) (by omega) ?_;intro v4 w4 o4 b4 n4;obtain ⟨a4,c4,rfl⟩:=zU o4;have F4:Hid (w4.ownsRow w.heap.size 81 5 (.slice a4 n c4) n (fI H n)/\Value.slice a4 n c4≠.slice none 0 0/\Bw w w4):=⟨o4,n4,b4⟩;clear o4 b4 n4)
 go_ret
 exact ⟨_,_,rfl,F4.out⟩
theorem qdr (a0:Option Addr) (n cap:Nat) (A:Nat->Option Addr) (L C:Nat->Nat) (H:Nat->Nat->I5) (w:World) (hn:n<=1048576) (hL:∀ i,i<n->L i<=1048576) (hr:RowS w a0 n fun i=>.slice (A i) (L i) (C i)) (hI:∀ i,i<n->∃ b off,A i=some ⟨b,off,none⟩/\Src w (A i) (fI (H i) (L i))):
  Calls Tryz.prog 68 #[.slice a0 n cap] w fun e w'=>∃ v u,e=.returned v/\LI z w' (fun k=>w.heap.size<=k/\k<w'.heap.size) v n u L H/\Bw w w':=by
 have hn':(n:Int)<=1048576:=by omega
 obtain ⟨cs,hcs,hmk⟩:=qcn qst n hn
 have HCS:Hid (cs.size=n):=hcs
 have HR:Hid (RowS w a0 n fun i=>.slice (A i) (L i) (C i)):=hr
 have HI:Hid (∀ i,i<n->∃ b off,A i=some ⟨b,off,none⟩/\Src w (A i) (fI (H i) (L i))):=hI
 have HL:Hid (∀ i,i<n->L i<=1048576):=hL
 clear hr hI hL hcs
 go_enter Tryz.func68,Tryz.ntmps68
 go_wp2_with fail
 clear hmk
 go_loopw [3,11] (fun v i wr=>∃ k:Nat,k<=n/\i=.int .i64 k/\Hid ((∃ u,LI z wr (fun b=>w.heap.size<=b/\b<wr.heap.size) v k u L H)/\Bw w wr)) (fun _ i _=>n - (intOf i).toNat)
 case atStart=>exact ⟨0,Nat.zero_le _,rfl,⟨fun _=>.slice none 0 0,LL.made _ _ _ w _ n hn HCS.out _ (by simp) _ _ _⟩,zQ _ _⟩
 case round=>
  obtain ⟨k,hk,rfl,HZ⟩:=hrel
  by_cases hlt:k<n
  ·have hlt':(k:Int)<(n:Int):=by omega
   obtain ⟨b,off,rfl,ck⟩:=(HR.out.below HZ.out.2).at hlt
   have hbl:b<wr.heap.size:=zJ wr _ ck
   obtain ⟨b2,o2,ea,hsr⟩:=HI.out k hlt
   rw [ea] at hsr ck
   have HS:Hid (Src wr (some (aQ b2 o2)) (fI (H k) (L k))):=hsr.below HZ.out.2
   have HLk:Hid (L k<=1048576):=HL.out k hlt
   have hk2:Hid (k<=2000000):=by show k<=2000000;omega
   obtain ⟨⟨u,oz⟩,bz⟩:=HZ.out
   have OZ:Hid (LI z wr (fun b=>w.heap.size<=b/\b<wr.heap.size) u3 k u L H):=oz
   have BZ:Hid (Bw w wr):=bz
   clear oz bz HZ hsr ea
   go_wp2_with fail
   refine (qkr b2 o2 (L k) (C k) (H k) wr HLk.out HS.out).mono ?_
   rintro e w4 ⟨a4,c4,rfl,o4,n4,b4⟩
   have F4:Hid (w4.ownsRow wr.heap.size 81 5 (.slice a4 (L k) c4) (L k) (fI (H k) (L k))/\Bw wr w4/\Value.slice a4 (L k) c4≠.slice none 0 0):=⟨o4,b4,n4⟩
   clear o4 b4 n4 ck hbl
   go_wp2_with (at_builtin;refine qao qst w4 rfl rfl _ _ rfl 0 u3 k _ rfl (OZ.out.below F4.out.2.1).row #[.slice a4 (L k) c4] rfl rfl (by intro u hu;simp at hu;subst hu;rfl) hk2.out (Nat.zero_le _) ?_;intro v5 w5 o5 g5 q5 n5;have F5:Hid (LI z w5 (fun b=>w.heap.size<=b/\b<w5.heap.size) v5 (k+1) (fun j=>if j=k then .slice a4 (L k) c4 else u j) L H/\Bw w w5):=⟨OZ.out.push F4.out.2.1 F4.out.1 (fun _=>F4.out.2.2) o5 g5 q5 (fun j hj _=>⟨hj.1,zL hj.2 (zP F4.out.2.1.size g5.size)⟩) (fun j hj hj'=>⟨zP BZ.out.size hj,hj'⟩),Below.grown (BZ.out.trans (F4.out.2.1.mono BZ.out.size)) g5 (zP BZ.out.size F4.out.2.1.size) (fun j hj=>(OZ.out.rb j hj).1)⟩;clear o5 g5 q5 n5)
   go_roundw
   case rel=>exact ⟨k+1,by omega,by go_num,⟨_,F5.out.1⟩,F5.out.2⟩
   case measure=>simp [intOf];omega
  ·have hkn:k=n:=by omega
   subst hkn
   go_wp2
   go_ret
   obtain ⟨⟨u,oz⟩,bz⟩:=HZ.out
   exact ⟨_,u,rfl,oz,bz⟩
theorem qiu (b off n cap:Nat) (H:Nat->I2) (w:World) (hn:n<=1048576) (hI:Src w (some (aQ b off)) (fT H n)):
  Calls Tryz.prog 97 #[.slice (some (aQ b off)) n cap] w fun e w'=>∃ a c,e=.returned (.slice a n c)/\w'.ownsRow w.heap.size 84 2 (.slice a n c) n (fT H n)/\Value.slice a n c≠.slice none 0 0/\Bw w w':=by
 have HI:Hid (Src w (some (aQ b off)) (fT H n)):=hI
 have he:∀ wx:World,(binOp .eql 59 (.slice (some ⟨b,off,none⟩) n cap) (.slice none 0 0)).run Tryz.prog wx=.ok (.bool false) wx:=fun wx=>by kernel_rfl
 clear hI
 go_enter Tryz.func97,Tryz.ntmps97
 go_wp2_with (at_builtin;refine qbm kndT w rfl rfl _ _ rfl (some (aQ b off)) n cap (fT H n) rfl rfl (qid _ _) HI.out (qkz _ _) (by omega) ?_;intro v4 w4 o4 b4 n4;obtain ⟨a4,c4,rfl⟩:=zU o4;have F4:Hid (w4.ownsRow w.heap.size 84 2 (.slice a4 n c4) n (fT H n)/\Value.slice a4 n c4≠.slice none 0 0/\Bw w w4):=⟨o4,n4,b4⟩;clear o4 b4 n4)
 go_ret
 exact ⟨_,_,rfl,F4.out⟩
theorem qh3 (w:World):
  Calls Tryz.prog 97 #[.slice none 0 0] w fun e w'=>e=.returned (.slice none 0 0)/\Bw w w':=by
 have he:∀ wx:World,(binOp .eql 59 (.slice none 0 0) (.slice none 0 0)).run Tryz.prog wx=.ok (.bool true) wx:=fun wx=>by kernel_rfl
 go_enter Tryz.func97,Tryz.ntmps97
 go_wp2
 go_ret
 exact ⟨rfl,Below.refl _ _⟩
theorem qf0 (a0:Option Addr) (n cap:Nat) (A:Nat->Option Addr) (L C:Nat->Nat) (H:Nat->Nat->I2) (w:World) (hn:n<=1048576) (hL:∀ i,i<n->L i<=1048576) (hr:RowS w a0 n fun i=>.slice (A i) (L i) (C i)) (hI:∀ i,i<n->(∃ b off,A i=some ⟨b,off,none⟩/\Src w (A i) (fT (H i) (L i)))\/(z=false/\A i=none/\L i=0/\C i=0)):
  Calls Tryz.prog 69 #[.slice a0 n cap] w fun e w'=>∃ v u,e=.returned v/\LT z w' (fun k=>w.heap.size<=k/\k<w'.heap.size) v n u L H/\Bw w w':=by
 have hn':(n:Int)<=1048576:=by omega
 obtain ⟨cs,hcs,hmk⟩:=qcn qms n hn
 have HCS:Hid (cs.size=n):=hcs
 have HR:Hid (RowS w a0 n fun i=>.slice (A i) (L i) (C i)):=hr
 have HI:Hid (∀ i,i<n->(∃ b off,A i=some ⟨b,off,none⟩/\Src w (A i) (fT (H i) (L i)))\/(z=false/\A i=none/\L i=0/\C i=0)):=hI
 have HL:Hid (∀ i,i<n->L i<=1048576):=hL
 clear hr hI hL hcs
 go_enter Tryz.func69,Tryz.ntmps69
 go_wp2_with fail
 clear hmk
 go_loopw [3,11] (fun v i wr=>∃ k:Nat,k<=n/\i=.int .i64 k/\Hid ((∃ u,LT z wr (fun b=>w.heap.size<=b/\b<wr.heap.size) v k u L H)/\Bw w wr)) (fun _ i _=>n - (intOf i).toNat)
 case atStart=>exact ⟨0,Nat.zero_le _,rfl,⟨fun _=>.slice none 0 0,LL.made _ _ _ w _ n hn HCS.out _ (by simp) _ _ _⟩,zQ _ _⟩
 case round=>
  obtain ⟨k,hk,rfl,HZ⟩:=hrel
  by_cases hlt:k<n
  ·have hlt':(k:Int)<(n:Int):=by omega
   obtain ⟨b,off,rfl,ck⟩:=(HR.out.below HZ.out.2).at hlt
   have hbl:b<wr.heap.size:=zJ wr _ ck
   rcases HI.out k hlt with ⟨b2,o2,ea,hsr⟩ | ⟨hz,ea,eL,eC⟩
   ·rw [ea] at hsr ck
    have HS:Hid (Src wr (some (aQ b2 o2)) (fT (H k) (L k))):=hsr.below HZ.out.2
    have HLk:Hid (L k<=1048576):=HL.out k hlt
    have hk2:Hid (k<=2000000):=by show k<=2000000;omega
    obtain ⟨⟨u,oz⟩,bz⟩:=HZ.out
    have OZ:Hid (LT z wr (fun b=>w.heap.size<=b/\b<wr.heap.size) u3 k u L H):=oz
    have BZ:Hid (Bw w wr):=bz
    clear oz bz HZ hsr ea
    go_wp2_with fail
    refine (qiu b2 o2 (L k) (C k) (H k) wr HLk.out HS.out).mono ?_
    rintro e w4 ⟨a4,c4,rfl,o4,n4,b4⟩
    have F4:Hid (w4.ownsRow wr.heap.size 84 2 (.slice a4 (L k) c4) (L k) (fT (H k) (L k))/\Bw wr w4/\Value.slice a4 (L k) c4≠.slice none 0 0):=⟨o4,b4,n4⟩
    clear o4 b4 n4 ck hbl
    go_wp2_with (at_builtin;refine qao qms w4 rfl rfl _ _ rfl 0 u3 k _ rfl (OZ.out.below F4.out.2.1).row #[.slice a4 (L k) c4] rfl rfl (by intro u hu;simp at hu;subst hu;rfl) hk2.out (Nat.zero_le _) ?_;intro v5 w5 o5 g5 q5 n5;have F5:Hid (LT z w5 (fun b=>w.heap.size<=b/\b<w5.heap.size) v5 (k+1) (fun j=>if j=k then .slice a4 (L k) c4 else u j) L H/\Bw w w5):=⟨OZ.out.push F4.out.2.1 F4.out.1 (fun _=>F4.out.2.2) o5 g5 q5 (fun j hj _=>⟨hj.1,zL hj.2 (zP F4.out.2.1.size g5.size)⟩) (fun j hj hj'=>⟨zP BZ.out.size hj,hj'⟩),Below.grown (BZ.out.trans (F4.out.2.1.mono BZ.out.size)) g5 (zP BZ.out.size F4.out.2.1.size) (fun j hj=>(OZ.out.rb j hj).1)⟩;clear o5 g5 q5 n5)
    go_roundw
    case rel=>exact ⟨k+1,by omega,by go_num,⟨_,F5.out.1⟩,F5.out.2⟩
    case measure=>simp [intOf];omega
   ·rw [ea,eL,eC] at ck
    have HNz:Hid (¬ Nz z 84):=fun h=>by
     rcases h with h | h
     ·rw [hz] at h
      cases h
     ·exact absurd h (by decide)
    have hk2:Hid (k<=2000000):=by show k<=2000000;omega
    obtain ⟨⟨u,oz⟩,bz⟩:=HZ.out
    have OZ:Hid (LT z wr (fun b=>w.heap.size<=b/\b<wr.heap.size) u3 k u L H):=oz
    have BZ:Hid (Bw w wr):=bz
    have HE:Hid (L k=0):=eL
    clear oz bz HZ ea eL eC hz
    go_wp2_with fail
    refine (qh3 wr).mono ?_
    rintro e w4 ⟨rfl,b4⟩
    have F4:Hid (w4.ownsRow wr.heap.size 84 2 (.slice none 0 0) (L k) (fT (H k) (L k))/\Bw wr w4):=⟨by rw [HE.out];exact World.ownsRow_nil _ _ _ _,b4⟩
    clear b4 ck hbl
    go_wp2_with (at_builtin;refine qao qms w4 rfl rfl _ _ rfl 0 u3 k _ rfl (OZ.out.below F4.out.2).row #[.slice none 0 0] rfl rfl (by intro u hu;simp at hu;subst hu;rfl) hk2.out (Nat.zero_le _) ?_;intro v5 w5 o5 g5 q5 n5;have F5:Hid (LT z w5 (fun b=>w.heap.size<=b/\b<w5.heap.size) v5 (k+1) (fun j=>if j=k then .slice none 0 0 else u j) L H/\Bw w w5):=⟨OZ.out.push F4.out.2 F4.out.1 (fun h=>absurd h HNz.out) o5 g5 q5 (fun j hj _=>⟨hj.1,zL hj.2 (zP F4.out.2.size g5.size)⟩) (fun j hj hj'=>⟨zP BZ.out.size hj,hj'⟩),Below.grown (BZ.out.trans (F4.out.2.mono BZ.out.size)) g5 (zP BZ.out.size F4.out.2.size) (fun j hj=>(OZ.out.rb j hj).1)⟩;clear o5 g5 q5 n5)
    go_roundw
    case rel=>exact ⟨k+1,by omega,by go_num,⟨_,F5.out.1⟩,F5.out.2⟩
    case measure=>simp [intOf];omega
  ·have hkn:k=n:=by omega
   subst hkn
   go_wp2
   go_ret
   obtain ⟨⟨u,oz⟩,bz⟩:=HZ.out
   exact ⟨_,u,rfl,oz,bz⟩
theorem qh2 (b off n cap:Nat) (H:Nat->E3) (w:World) (hn:n<=1048576) (hI:Src w (some (aQ b off)) (fE H n)):
  Calls Tryz.prog 98 #[.slice (some (aQ b off)) n cap] w fun e w'=>∃ a c,e=.returned (.slice a n c)/\w'.ownsRow w.heap.size 56 3 (.slice a n c) n (fE H n)/\Value.slice a n c≠.slice none 0 0/\Bw w w':=by
 have HI:Hid (Src w (some (aQ b off)) (fE H n)):=hI
 have he:∀ wx:World,(binOp .eql 33 (.slice (some ⟨b,off,none⟩) n cap) (.slice none 0 0)).run Tryz.prog wx=.ok (.bool false) wx:=fun wx=>by kernel_rfl
 clear hI
 go_enter Tryz.func98,Tryz.ntmps98
 go_wp2_with (at_builtin;refine qbm kndE w rfl rfl _ _ rfl (some (aQ b off)) n cap (fE H n) rfl rfl (qky _ _) HI.out (qnv _ _) (by omega) ?_;intro v4 w4 o4 b4 n4;obtain ⟨a4,c4,rfl⟩:=zU o4;have F4:Hid (w4.ownsRow w.heap.size 56 3 (.slice a4 n c4) n (fE H n)/\Value.slice a4 n c4≠.slice none 0 0/\Bw w w4):=⟨o4,n4,b4⟩;clear o4 b4 n4)
 go_ret
 exact ⟨_,_,rfl,F4.out⟩
theorem qhf (w:World):
  Calls Tryz.prog 98 #[.slice none 0 0] w fun e w'=>e=.returned (.slice none 0 0)/\Bw w w':=by
 have he:∀ wx:World,(binOp .eql 33 (.slice none 0 0) (.slice none 0 0)).run Tryz.prog wx=.ok (.bool true) wx:=fun wx=>by kernel_rfl
 go_enter Tryz.func98,Tryz.ntmps98
 go_wp2
 go_ret
 exact ⟨rfl,Below.refl _ _⟩
theorem qfb (a0:Option Addr) (n cap:Nat) (A:Nat->Option Addr) (L C:Nat->Nat) (H:Nat->Nat->E3) (w:World) (hn:n<=1048576) (hL:∀ i,i<n->L i<=1048576) (hr:RowS w a0 n fun i=>.slice (A i) (L i) (C i)) (hI:∀ i,i<n->(∃ b off,A i=some ⟨b,off,none⟩/\Src w (A i) (fE (H i) (L i)))\/(z=false/\A i=none/\L i=0/\C i=0)):
  Calls Tryz.prog 70 #[.slice a0 n cap] w fun e w'=>∃ v u,e=.returned v/\LE z w' (fun k=>w.heap.size<=k/\k<w'.heap.size) v n u L H/\Bw w w':=by
 have hn':(n:Int)<=1048576:=by omega
 obtain ⟨cs,hcs,hmk⟩:=qcn qjb n hn
 have HCS:Hid (cs.size=n):=hcs
 have HR:Hid (RowS w a0 n fun i=>.slice (A i) (L i) (C i)):=hr
 have HI:Hid (∀ i,i<n->(∃ b off,A i=some ⟨b,off,none⟩/\Src w (A i) (fE (H i) (L i)))\/(z=false/\A i=none/\L i=0/\C i=0)):=hI
 have HL:Hid (∀ i,i<n->L i<=1048576):=hL
 clear hr hI hL hcs
 go_enter Tryz.func70,Tryz.ntmps70
 go_wp2_with fail
 clear hmk
 go_loopw [3,11] (fun v i wr=>∃ k:Nat,k<=n/\i=.int .i64 k/\Hid ((∃ u,LE z wr (fun b=>w.heap.size<=b/\b<wr.heap.size) v k u L H)/\Bw w wr)) (fun _ i _=>n - (intOf i).toNat)
 case atStart=>exact ⟨0,Nat.zero_le _,rfl,⟨fun _=>.slice none 0 0,LL.made _ _ _ w _ n hn HCS.out _ (by simp) _ _ _⟩,zQ _ _⟩
 case round=>
  obtain ⟨k,hk,rfl,HZ⟩:=hrel
  by_cases hlt:k<n
  ·have hlt':(k:Int)<(n:Int):=by omega
   obtain ⟨b,off,rfl,ck⟩:=(HR.out.below HZ.out.2).at hlt
   have hbl:b<wr.heap.size:=zJ wr _ ck
   rcases HI.out k hlt with ⟨b2,o2,ea,hsr⟩ | ⟨hz,ea,eL,eC⟩
   ·rw [ea] at hsr ck
    have HS:Hid (Src wr (some (aQ b2 o2)) (fE (H k) (L k))):=hsr.below HZ.out.2
    have HLk:Hid (L k<=1048576):=HL.out k hlt
    have hk2:Hid (k<=2000000):=by show k<=2000000;omega
    obtain ⟨⟨u,oz⟩,bz⟩:=HZ.out
    have OZ:Hid (LE z wr (fun b=>w.heap.size<=b/\b<wr.heap.size) u3 k u L H):=oz
    have BZ:Hid (Bw w wr):=bz
    clear oz bz HZ hsr ea
    go_wp2_with fail
    refine (qh2 b2 o2 (L k) (C k) (H k) wr HLk.out HS.out).mono ?_
    rintro e w4 ⟨a4,c4,rfl,o4,n4,b4⟩
    have F4:Hid (w4.ownsRow wr.heap.size 56 3 (.slice a4 (L k) c4) (L k) (fE (H k) (L k))/\Bw wr w4/\Value.slice a4 (L k) c4≠.slice none 0 0):=⟨o4,b4,n4⟩
    clear o4 b4 n4 ck hbl
    go_wp2_with (at_builtin;refine qao qjb w4 rfl rfl _ _ rfl 0 u3 k _ rfl (OZ.out.below F4.out.2.1).row #[.slice a4 (L k) c4] rfl rfl (by intro u hu;simp at hu;subst hu;rfl) hk2.out (Nat.zero_le _) ?_;intro v5 w5 o5 g5 q5 n5;have F5:Hid (LE z w5 (fun b=>w.heap.size<=b/\b<w5.heap.size) v5 (k+1) (fun j=>if j=k then .slice a4 (L k) c4 else u j) L H/\Bw w w5):=⟨OZ.out.push F4.out.2.1 F4.out.1 (fun _=>F4.out.2.2) o5 g5 q5 (fun j hj _=>⟨hj.1,zL hj.2 (zP F4.out.2.1.size g5.size)⟩) (fun j hj hj'=>⟨zP BZ.out.size hj,hj'⟩),Below.grown (BZ.out.trans (F4.out.2.1.mono BZ.out.size)) g5 (zP BZ.out.size F4.out.2.1.size) (fun j hj=>(OZ.out.rb j hj).1)⟩;clear o5 g5 q5 n5)
    go_roundw
    case rel=>exact ⟨k+1,by omega,by go_num,⟨_,F5.out.1⟩,F5.out.2⟩
    case measure=>simp [intOf];omega
   ·rw [ea,eL,eC] at ck
    have HNz:Hid (¬ Nz z 56):=fun h=>by
     rcases h with h | h
     ·rw [hz] at h
      cases h
     ·exact absurd h (by decide)
    have hk2:Hid (k<=2000000):=by show k<=2000000;omega
    obtain ⟨⟨u,oz⟩,bz⟩:=HZ.out
    have OZ:Hid (LE z wr (fun b=>w.heap.size<=b/\b<wr.heap.size) u3 k u L H):=oz
    have BZ:Hid (Bw w wr):=bz
    have HE:Hid (L k=0):=eL
    clear oz bz HZ ea eL eC hz
    go_wp2_with fail
    refine (qhf wr).mono ?_
    rintro e w4 ⟨rfl,b4⟩
    have F4:Hid (w4.ownsRow wr.heap.size 56 3 (.slice none 0 0) (L k) (fE (H k) (L k))/\Bw wr w4):=⟨by rw [HE.out];exact World.ownsRow_nil _ _ _ _,b4⟩
    clear b4 ck hbl
    go_wp2_with (at_builtin;refine qao qjb w4 rfl rfl _ _ rfl 0 u3 k _ rfl (OZ.out.below F4.out.2).row #[.slice none 0 0] rfl rfl (by intro u hu;simp at hu;subst hu;rfl) hk2.out (Nat.zero_le _) ?_;intro v5 w5 o5 g5 q5 n5;have F5:Hid (LE z w5 (fun b=>w.heap.size<=b/\b<w5.heap.size) v5 (k+1) (fun j=>if j=k then .slice none 0 0 else u j) L H/\Bw w w5):=⟨OZ.out.push F4.out.2 F4.out.1 (fun h=>absurd h HNz.out) o5 g5 q5 (fun j hj _=>⟨hj.1,zL hj.2 (zP F4.out.2.size g5.size)⟩) (fun j hj hj'=>⟨zP BZ.out.size hj,hj'⟩),Below.grown (BZ.out.trans (F4.out.2.mono BZ.out.size)) g5 (zP BZ.out.size F4.out.2.size) (fun j hj=>(OZ.out.rb j hj).1)⟩;clear o5 g5 q5 n5)
    go_roundw
    case rel=>exact ⟨k+1,by omega,by go_num,⟨_,F5.out.1⟩,F5.out.2⟩
    case measure=>simp [intOf];omega
  ·have hkn:k=n:=by omega
   subst hkn
   go_wp2
   go_ret
   obtain ⟨⟨u,oz⟩,bz⟩:=HZ.out
   exact ⟨_,u,rfl,oz,bz⟩
variable {z:Bool}
structure SysIn.Nn (x:SysIn) (z:Bool):Prop where
 w:∀ i,i<x.wn->(∃ b off,x.wA i=some ⟨b,off,none⟩)\/(z=false/\x.wA i=none/\x.wL i=0/\x.wC i=0)
 h:∀ i,i<x.hn->(∃ b off,x.hA i=some ⟨b,off,none⟩)\/(z=false/\x.hA i=none/\x.hL i=0/\x.hC i=0)
theorem qhu (n:Nat) (hn:n<=1048576):∃ cs:Array Value,cs.size=n*4/\∀ w:World,(Instr.makeSlice 25 (.int .i64 0) (.int .i64 (n:Int))).run Tryz.prog w=.ok (.slice (some ⟨w.heap.size,0,none⟩) 0 n) (w.alloc (.cells cs 51)):=by
 obtain ⟨i,z,hi,hz,hs,hb,hzs⟩:=kndS.inf
 refine ⟨madeCells z.cells (n*4),size_madeCells _ _,fun w=>?_⟩
 have hby:i.bytes*n<=281474976710656:=by
  rw [hb]
  omega
 have hby':(i.bytes:Int)*(n:Int)<=281474976710656:=by rw [<- Int.natCast_mul];exact Int.ofNat_le.2 hby
 have h:=run_make (P:=Tryz.prog) w 25 51 i z kndS.und hi hz .i64 .i64 0 (n:Int) (by omega) (by omega) hby' (by omega)
 rw [hs,Int.toNat_natCast] at h
 exact h
theorem LS.made (w:World) (cs:Array Value) (n:Nat) (hn:n<=1048576) (hc:cs.size=n*4) (P:Nat->Prop) (hP:P w.heap.size) (vs:Nat->Value) (S:Nat->S4) {N:Nat} (hN:N=w.heap.size):LS (w.alloc (.cells cs 51)) P (.slice (some (aQ N 0)) 0 n) 0 vs S:=by
 subst hN
 exact ⟨World.ownsRow_made (base:=0) (e:=51) (size:=4) w cs n (Nat.zero_le _) (by unfold maxLen;omega) hc,fun i hi=>(by omega),fun k hk=>(by cases hk;exact hP),fun i hi=>(by omega),fun i hi=>(by omega),fun i j hi=>(by omega)⟩
theorem OwnS.four {B m1 m2 m3 m4:Nat} {w1 w2 w3 w4 wf:World} {y:Sy} {vp vs vw vh:Value} {up us uw uh:Nat->Value} (h1:m1<=w1.heap.size) (h2:w1.heap.size<=m2) (h3:w2.heap.size<=m3) (h4:w3.heap.size<=m4) (hB:B<=m1)
  (o1:LS w1 (fun k=>m1<=k/\k<w1.heap.size) vs y.sn us y.sS) (o2:LI z w2 (fun k=>m2<=k/\k<w2.heap.size) vp y.pn up y.pL y.pH) (o3:LT z w3 (fun k=>m3<=k/\k<w3.heap.size) vw y.wn uw y.wL y.wH) (o4:LE z w4 (fun k=>m4<=k/\k<w4.heap.size) vh y.hn uh y.hL y.hH)
  (b2:Bw w1 w2) (b3:Bw w2 w3) (b4:Bw w3 w4) (hf:∀ k,m1<=k->k<w4.heap.size->wf.heap[k]? = w4.heap[k]?):
  ∃ c,OwnS z wf B c y vp vs vw vh up us uw uh:=by
 have z2:=b2.size
 have z3:=b3.size
 have z4:=b4.size
 refine ⟨fun k=>if k<w1.heap.size then 2 else if k<w2.heap.size then 1 else if k<w3.heap.size then 3 else 4,?_,?_,?_,?_⟩
 ·refine (o2.keep (w':=wf) fun k hk hl=>(hf k (by omega) (by omega)).trans ((b4.block k (by omega)).trans (b3.block k hl))).mono fun k hk _=>⟨by omega,?_⟩
  show (if k<w1.heap.size then 2 else if k<w2.heap.size then 1 else if k<w3.heap.size then 3 else 4)=1
  rw [if_neg (by omega),if_pos (by omega)]
 ·refine (o1.keep (w':=wf) fun k hk hl=>(hf k (by omega) (by omega)).trans ((b4.block k (by omega)).trans ((b3.block k (by omega)).trans (b2.block k hl)))).mono fun k hk _=>⟨by omega,?_⟩
  show (if k<w1.heap.size then 2 else if k<w2.heap.size then 1 else if k<w3.heap.size then 3 else 4)=2
  rw [if_pos (by omega)]
 ·refine (o3.keep (w':=wf) fun k hk hl=>(hf k (by omega) (by omega)).trans (b4.block k hl)).mono fun k hk _=>⟨by omega,?_⟩
  show (if k<w1.heap.size then 2 else if k<w2.heap.size then 1 else if k<w3.heap.size then 3 else 4)=3
  rw [if_neg (by omega),if_neg (by omega),if_pos (by omega)]
 ·refine (o4.keep (w':=wf) fun k hk hl=>hf k (by omega) hl).mono fun k hk _=>⟨by omega,?_⟩
  show (if k<w1.heap.size then 2 else if k<w2.heap.size then 1 else if k<w3.heap.size then 3 else 4)=4
  rw [if_neg (by omega),if_neg (by omega),if_neg (by omega)]
theorem qmi (x:SysIn) (w:World) (hG:SysG w x) (hL:x.Len) (hN:x.Nn z):
  Calls Tryz.prog 34 #[x.v] w fun e w'=>∃ v,e=.returned v/\qae z w' w.heap.size x.y v/\Bw w w':=by
 have HG:Hid (SysG w x):=hG
 have HL:Hid x.Len:=hL
 have hsn':(x.sn:Int)<=1048576:=by have:=hL.s.1;omega
 obtain ⟨cs,hcs,hmk⟩:=qhu x.sn hL.s.1
 have HCS:Hid (cs.size=x.sn*4):=hcs
 have BW:Hid (Bw w ((w.alloc (x.oX)).alloc (zQ3))):=(zQ _ _).trans ((zQ _ _).mono (by simp))
 have NB:Hid (x.bX ((w.alloc (x.oX)).alloc (zQ3)) w.heap.size):=(BoxC.new w _ _ _ _ _).below (zQ _ _)
 have RB:Hid (BoxC ((w.alloc (x.oX)).alloc (zQ3)) (w.heap.size+1) (.slice none 0 0) (.slice none 0 0) (.slice none 0 0) (.slice none 0 0)/\∀ j,((w.alloc (x.oX)).alloc (zQ3)).frozen? ⟨w.heap.size+1,j,none⟩=false):=⟨⟨zW _ _ _ 0 (by simp),zW _ _ _ 1 (by simp),zW _ _ _ 2 (by simp),zW _ _ _ 3 (by simp)⟩,fun j=>yB _ _ _ _ (by simp)⟩
 have hz:((w.alloc (x.oX)).alloc (zQ3)).heap.size=w.heap.size+2:=by simp
 have hl0:w.heap.size<((w.alloc (x.oX)).alloc (zQ3)).heap.size:=by omega
 have hl1:w.heap.size+1<((w.alloc (x.oX)).alloc (zQ3)).heap.size:=by omega
 have Hp : Hid (∀ wx, Below ((w.alloc (oQ4 x.pa x.pn x.pc x.sa x.sn x.sc x.wa x.wn x.wc x.ha x.hn x.hc)).alloc (zQ3)).heap.size ((w.alloc (oQ4 x.pa x.pn x.pc x.sa x.sn x.sc x.wa x.wn x.wc x.ha x.hn x.hc)).alloc (zQ3)) wx → (RowS wx x.pa x.pn fun i => .slice (x.pA i) (x.pL i) (x.pC i)) ∧ ∀ i, i < x.pn → ∃ b off, x.pA i = some ⟨b, off, none⟩ ∧ Src wx (x.pA i) (fI (x.pH i) (x.pL i))) := fun wx hb => ⟨(HG.out.below (BW.out.trans (hb.mono BW.out.size))).p, fun i hi => by
  obtain ⟨b,e,hlt,hI⟩:=(HG.out.below (BW.out.trans (hb.mono BW.out.size))).pi i hi
  exact ⟨b,0,e,by rw [e];exact srcI hlt hI⟩⟩
 have Hw : Hid (∀ wx, Below ((w.alloc (oQ4 x.pa x.pn x.pc x.sa x.sn x.sc x.wa x.wn x.wc x.ha x.hn x.hc)).alloc (zQ3)).heap.size ((w.alloc (oQ4 x.pa x.pn x.pc x.sa x.sn x.sc x.wa x.wn x.wc x.ha x.hn x.hc)).alloc (zQ3)) wx → (RowS wx x.wa x.wn fun i => .slice (x.wA i) (x.wL i) (x.wC i)) ∧ ∀ i, i < x.wn → (∃ b off, x.wA i = some ⟨b, off, none⟩ ∧ Src wx (x.wA i) (fT (x.wH i) (x.wL i))) ∨ (z = false ∧ x.wA i = none ∧ x.wL i = 0 ∧ x.wC i = 0)) := fun wx hb => ⟨(HG.out.below (BW.out.trans (hb.mono BW.out.size))).w, fun i hi => by
  rcases hN.w i hi with ⟨b,off,e⟩ | h
  ·exact .inl ⟨b,off,e,srcT ((HG.out.below (BW.out.trans (hb.mono BW.out.size))).wi i hi)⟩
  ·exact .inr h⟩
 have Hh : Hid (∀ wx, Below ((w.alloc (oQ4 x.pa x.pn x.pc x.sa x.sn x.sc x.wa x.wn x.wc x.ha x.hn x.hc)).alloc (zQ3)).heap.size ((w.alloc (oQ4 x.pa x.pn x.pc x.sa x.sn x.sc x.wa x.wn x.wc x.ha x.hn x.hc)).alloc (zQ3)) wx → (RowS wx x.ha x.hn fun i => .slice (x.hA i) (x.hL i) (x.hC i)) ∧ ∀ i, i < x.hn → (∃ b off, x.hA i = some ⟨b, off, none⟩ ∧ Src wx (x.hA i) (fE (x.hH i) (x.hL i))) ∨ (z = false ∧ x.hA i = none ∧ x.hL i = 0 ∧ x.hC i = 0)) := fun wx hb => ⟨(HG.out.below (BW.out.trans (hb.mono BW.out.size))).h, fun i hi => by
  rcases hN.h i hi with ⟨b,off,e⟩ | h
  ·exact .inl ⟨b,off,e,srcE ((HG.out.below (BW.out.trans (hb.mono BW.out.size))).hi i hi)⟩
  ·exact .inr h⟩
 have HZ2:Hid (((w.alloc (x.oX)).alloc (zQ3)).heap.size=w.heap.size+1+1):=hz
 clear hG hL hcs hz
 go_enter Tryz.func34,Tryz.ntmps34
 go_wp2_with fail
 clear hmk
 generalize hW2:(w.alloc (x.oX)).alloc (zQ3)=W2 at *
 clear hW2
 go_loopw [3,13] (fun v i wr=>∃ k:Nat,k<=x.sn/\i=.int .i64 k/\Hid ((∃ us,LS wr (fun b=>W2.heap.size<=b/\b<wr.heap.size) v k us x.sS)/\Bw W2 wr)) (fun _ i _=>x.sn - (intOf i).toNat)
 case atStart=>exact ⟨0,Nat.zero_le _,rfl,⟨fun _=>.slice none 0 0,LS.made W2 cs x.sn HL.out.s.1 HCS.out (fun b=>W2.heap.size<=b/\b<(W2.alloc (.cells cs 51)).heap.size) ⟨Nat.le_refl _,by simp⟩ _ _ HZ2.out.symm⟩,zQ _ _⟩
 case round=>
  obtain ⟨k,hk,rfl,HZ⟩:=hrel
  by_cases hlt:k<x.sn
  ·have hlt':(k:Int)<(x.sn:Int):=by omega
   obtain ⟨⟨us,oz⟩,bz⟩:=HZ.out
   obtain ⟨bs,os,es,s0,s1,s2,s3⟩:=(HG.out.below (BW.out.trans (bz.mono BW.out.size))).s.at hlt
   have hls:=(HG.out.below (BW.out.trans (bz.mono BW.out.size))).s.lst k hlt
   have hbs:bs<wr.heap.size:=zJ wr _ s0
   have HLk:=HL.out.s.2 k hlt
   rw [es]
   have OZ:Hid (LS wr (fun b=>W2.heap.size<=b/\b<wr.heap.size) u3 k us x.sS):=oz
   have BZ:Hid (Bw W2 wr):=bz
   have LSt:Hid (Sl wr (x.sQ k).ra (x.sQ k).rs/\Sl wr (x.sQ k).oa (x.sQ k).os):=hls
   clear oz bz hls HZ es
   go_wp2_with fail
   have ba:=zQ wr (oQ1 (x.sQ k).p (x.sQ k).ra (x.sQ k).rs.length (x.sQ k).rc (x.sQ k).oa (x.sQ k).os.length (x.sQ k).oc (x.sQ k).c)
   refine (qfc _ _ _ _ _ _ (x.sQ k).rs (x.sQ k).os _ HLk.1 HLk.2 (LSt.out.1.below ba) (LSt.out.2.below ba)).mono ?_
   rintro e w1 ⟨v1,rfl,o1,d1⟩
   obtain ⟨ra1,rc1,oa1,oc1,rfl,-,-⟩:=o1.read
   have q1:Bw wr w1:=ba.trans (d1.mono ba.size)
   have F1:Hid (qag w1 wr.heap.size (stV (x.sQ k).p ra1 (x.sQ k).rs.length rc1 oa1 (x.sQ k).os.length oc1 (x.sQ k).c) (x.sQ k).p (x.sQ k).rs (x.sQ k).os (x.sQ k).c/\Bw wr w1):=⟨o1.mono (by simp),q1⟩
   clear o1 d1 q1 ba s0 s1 s2 s3
   go_wp2_with (at_builtin;refine qao kndS w1 rfl rfl _ _ rfl 0 u3 k _ rfl (OZ.out.below F1.out.2).row #[.int .i64 (x.sQ k).p,.slice ra1 (x.sQ k).rs.length rc1,.slice oa1 (x.sQ k).os.length oc1,.int .i64 (x.sQ k).c] rfl rfl (by intro u hu;simp at hu;rcases hu with rfl | rfl | rfl | rfl <;> rfl) (by omega) (Nat.zero_le _) ?_;intro v5 w5 o5 g5 q5 n5;have F5:Hid ((∃ us,LS w5 (fun b=>W2.heap.size<=b/\b<w5.heap.size) v5 (k+1) us x.sS)/\Bw W2 w5):=⟨⟨_,OZ.out.push F1.out.2 F1.out.1 o5 g5 q5 (fun j hj _=>⟨hj.1,zL hj.2 (zP F1.out.2.size g5.size)⟩) (fun j hj hj'=>⟨zP BZ.out.size hj,hj'⟩)⟩,Below.grown (BZ.out.trans (F1.out.2.mono BZ.out.size)) g5 (zP BZ.out.size F1.out.2.size) (fun j hj=>(OZ.out.rb j hj).1)⟩;clear o5 g5 q5 n5)
   go_roundw
   case rel=>exact ⟨k+1,by omega,by go_num,F5.out.1,F5.out.2⟩
   case measure=>simp [intOf];omega
  ·have hkn:k=x.sn:=by omega
   subst hkn
   obtain ⟨⟨us,oz⟩,q0⟩:=HZ.out
   obtain ⟨sa,sc,rfl⟩:=zU oz.row
   have b0:=NB.out.below q0
   clear HZ
   go_wp2_with fail
   refine qam (fun w'=>w'.cell? (aQ w.heap.size 0)=some (.slice x.pa x.pn x.pc)/\w'.cell? (aQ w.heap.size 2)=some (.slice x.wa x.wn x.wc)/\w'.cell? (aQ w.heap.size 3)=some (.slice x.ha x.hn x.hc)) (fun i=>i == 11) (by kernel_rfl) ?_
   have hHeld:(fun w'=>w'.cell? (aQ w.heap.size 0)=some (.slice x.pa x.pn x.pc)/\w'.cell? (aQ w.heap.size 2)=some (.slice x.wa x.wn x.wc)/\w'.cell? (aQ w.heap.size 3)=some (.slice x.ha x.hn x.hc)) wr.drew:=⟨b0.1,b0.2.2.1,b0.2.2.2⟩
   have q0:Bw W2 wr.drew:=q0.drew
   refine wpGT_of [0,1,3,4,5,7,8] ?_
   iterate 7 (refine wpGT_take rfl hHeld ?_;apply Exists.intro;refine ⟨fun wq hSw=>?_,?_⟩;(· ((try dsimp only at hSw);go_simp;try with_reducible rfl));(try simp only [Act.put,zD,zE,zF]))
   refine wpGT_nil ?_
   refine qaa 2 rfl (by kernel_rfl) (fun K hK=>?_)
   refine qaf rfl 68 _ _ rfl #[.slice x.pa x.pn x.pc] (by simp [Act.eval]) (yA Tryz.func68 (by kernel_rfl) rfl) (qdr (z:=z) x.pa x.pn x.pc x.pA x.pL x.pC x.pH wr.drew HL.out.p.1 HL.out.p.2 (Hp.out _ q0).1 (Hp.out _ q0).2) ?_
   rintro e w1 ⟨v1,u1,rfl,o1,d1⟩
   obtain ⟨a1,c1,rfl⟩:=zU o1.row
   refine ⟨_,rfl,?_⟩
   have q1:Bw W2 w1:=q0.trans (d1.mono q0.size)
   have b1:=NB.out.below q1
   refine hK.out _ _ (fun _=>⟨b1.1,b1.2.2.1,b1.2.2.2⟩) ?_
   clear hHeld
   have hHeld:(fun w'=>w'.cell? (aQ w.heap.size 0)=some (.slice x.pa x.pn x.pc)/\w'.cell? (aQ w.heap.size 2)=some (.slice x.wa x.wn x.wc)/\w'.cell? (aQ w.heap.size 3)=some (.slice x.ha x.hn x.hc)) w1:=⟨b1.1,b1.2.2.1,b1.2.2.2⟩
   clear hK K
   (try simp only [Act.put,zD,zE,zF])
   refine qaa 6 rfl (by kernel_rfl) (fun K hK=>?_)
   refine qaf rfl 69 _ _ rfl #[.slice x.wa x.wn x.wc] (by simp [Act.eval]) (yA Tryz.func69 (by kernel_rfl) rfl) (qf0 (z:=z) x.wa x.wn x.wc x.wA x.wL x.wC x.wH w1 HL.out.w.1 HL.out.w.2 (Hw.out _ q1).1 (Hw.out _ q1).2) ?_
   rintro e w2 ⟨v2,u2,rfl,o2,d2⟩
   obtain ⟨a2,c2,rfl⟩:=zU o2.row
   refine ⟨_,rfl,?_⟩
   have q2:Bw W2 w2:=q1.trans (d2.mono q1.size)
   have b2:=NB.out.below q2
   refine hK.out _ _ (fun _=>⟨b2.1,b2.2.2.1,b2.2.2.2⟩) ?_
   clear hHeld
   have hHeld:(fun w'=>w'.cell? (aQ w.heap.size 0)=some (.slice x.pa x.pn x.pc)/\w'.cell? (aQ w.heap.size 2)=some (.slice x.wa x.wn x.wc)/\w'.cell? (aQ w.heap.size 3)=some (.slice x.ha x.hn x.hc)) w2:=⟨b2.1,b2.2.2.1,b2.2.2.2⟩
   clear hK K
   (try simp only [Act.put,zD,zE,zF])
   refine qaa 9 rfl (by kernel_rfl) (fun K hK=>?_)
   refine qaf rfl 70 _ _ rfl #[.slice x.ha x.hn x.hc] (by simp [Act.eval]) (yA Tryz.func70 (by kernel_rfl) rfl) (qfb (z:=z) x.ha x.hn x.hc x.hA x.hL x.hC x.hH w2 HL.out.h.1 HL.out.h.2 (Hh.out _ q2).1 (Hh.out _ q2).2) ?_
   rintro e w3 ⟨v3,u3,rfl,o3,d3⟩
   obtain ⟨a3,c3,rfl⟩:=zU o3.row
   refine ⟨_,rfl,?_⟩
   have q3:Bw W2 w3:=q2.trans (d3.mono q2.size)
   have b3:=NB.out.below q3
   refine hK.out _ _ (fun _=>⟨b3.1,b3.2.2.1,b3.2.2.2⟩) ?_
   clear hHeld
   have hHeld:(fun w'=>w'.cell? (aQ w.heap.size 0)=some (.slice x.pa x.pn x.pc)/\w'.cell? (aQ w.heap.size 2)=some (.slice x.wa x.wn x.wc)/\w'.cell? (aQ w.heap.size 3)=some (.slice x.ha x.hn x.hc)) w3:=⟨b3.1,b3.2.2.1,b3.2.2.2⟩
   clear hK K
   (try simp only [Act.put,zD,zE,zF])
   refine qab 10 rfl hHeld ?_
   apply Exists.intro
   refine ⟨fun wq hSw=>?_,?_⟩
   ·(try dsimp only at hSw)
    go_simp
    try with_reducible rfl
   (try simp only [Act.put,zD,zE,zF])
   obtain ⟨r0,r1,r2,r3⟩:=RB.out.1.below q3
   have rf:∀ j,w3.frozen? ⟨w.heap.size+1,j,none⟩=false:=fun j=>((qah q3).2 _ j hl1).trans (RB.out.2 j)
   refine qaa 11 rfl (by kernel_rfl) (fun K hK=>?_)
   go_simp
   refine hK.out _ _ (fun h=>?_) ?_
   ·exact absurd h (by decide)
   clear hK K
   (try simp only [Act.put])
   refine qar (by kernel_rfl) ?_ _
   go_wp2
   refine bodyPost_ret (v:=sysV a1 x.pn c1 sa x.sn sc a2 x.wn c2 a3 x.hn c3) (by simp [results,Tryz.results34,go_sem,r0,r1,r2,r3]) rfl ⟨_,rfl,?_,?_⟩
   ·obtain ⟨cc,hcc⟩:=OwnS.four (B:=w.heap.size) (m1:=W2.heap.size) (wf:=(((w3.setCell ⟨w.heap.size+1,0,none⟩ (.slice a1 x.pn c1)).setCell ⟨w.heap.size+1,1,none⟩ (.slice sa x.sn sc)).setCell ⟨w.heap.size+1,2,none⟩ (.slice a2 x.wn c2)).setCell ⟨w.heap.size+1,3,none⟩ (.slice a3 x.hn c3)) (y:=x.y) (by have:W2.heap.size<=wr.heap.size:=q0.size;omega) (by simp) (Nat.le_refl _) (Nat.le_refl _) (by omega) oz o1 o2 o3 ((Below.refl wr.heap.size wr).drew.trans d1) d2 d3 (fun k h1 h2=>by repeat (rw [zO _ _ _ _ (show k≠w.heap.size+1 by omega)]))
    exact ⟨cc,_,_,_,_,_,_,_,_,rfl,hcc⟩
   ·have h9:=BW.out.trans (q3.mono BW.out.size)
    exact (((h9.setCell (show w.heap.size<=w.heap.size+1 by omega) _).setCell (show w.heap.size<=w.heap.size+1 by omega) _).setCell (show w.heap.size<=w.heap.size+1 by omega) _).setCell (show w.heap.size<=w.heap.size+1 by omega) _
open Go.RowKit Go.Extern.Stop Go.Stop Go.Extern
theorem qvb (t:Value) (w:World):
  Calls Tryz.prog 101 #[.nilIface,t] w fun e w'=>e=.returned (.bool false)/\w'=w:=by
 go_enter Tryz.func101,Tryz.ntmps101
 go_wp2
 go_ret
 exact ⟨rfl,rfl⟩
theorem qt1 (t:Addr) (w:World):(ReflectliteValue.unpack (.iface 122 (.pointer (some t)))).run Tryz.prog w
  = .ok (.agg #[.pointer (some (aQ 1 122)),.pointer (some (aQ w.heap.size 0)),.int .u64 150]) (w.alloc (.cells #[.pointer (some t)] 122)):=by kernel_rfl
theorem qv3 (a : Addr) (w : World) : (ReflectliteValue.methodAny (ReflectliteValue.valueError "reflectlite.Value.Type" 0) (fun t _ _ _ => ReflectliteType.toType t) #[.agg #[.pointer (some (aQ 1 122)), .pointer (some a), .int .u64 150]]).run Tryz.prog w
  = .ok (.iface 160 (.agg #[.pointer (some (aQ 1 122))])) w:=by kernel_rfl
theorem qv1 (w:World):((ReflectliteType.abiMethod fun t=>(fun a:Nat=>Value.int IntKind.u8 (a:Int)) <$> Rtype.kind t) #[.pointer (some (aQ 1 122))]).run Tryz.prog w=.ok (.int .u8 22) w:=by kernel_rfl
theorem qv0 (w:World):((ReflectliteType.abiMethod fun t=>(fun a:Nat=>Value.int IntKind.u8 (a:Int)) <$> Rtype.kind t) #[.pointer (some (aQ 1 120))]).run Tryz.prog w=.ok (.int .u8 25) w:=by kernel_rfl
theorem rlm (z:Sem Value) (f:TypeId->Addr->Nat->Nat->Sem Value) (v:Value):
  ReflectliteValue.method z f #[v]=(do match <- ReflectliteValue.parts v with | none=>z | some (t,a,fl)=>f t a fl (fl % 32)):=rfl
theorem qub (a:Addr) (w:World):(ReflectliteValue.parts (.agg #[.pointer (some (aQ 1 122)),.pointer (some a),.int .u64 150])).run Tryz.prog w=.ok (some (122,a,150)) w:=by kernel_rfl
theorem qvn (a p:Addr) (W:World) (ha:W.cell? a=some (.pointer (some p))):
  (ReflectliteValue.method (ReflectliteValue.valueError "reflectlite.Value.IsNil" 0) ReflectliteValue.isNil #[.agg #[.pointer (some (aQ 1 122)), .pointer (some a), .int .u64 150]]).run Tryz.prog W = .ok (.bool false) W := by
 rw [rlm]
 simp only [Sem.run_bind,qub,Result.andThen]
 simp [ReflectliteValue.isNil,loadVar,isAgg,underlying,Tryz.underlying122,ha,Result.andThen]
theorem qvy (w:World):(ReflectliteType.method ReflectliteType.elem #[.agg #[.pointer (some (aQ 1 122))]]).run Tryz.prog w=.ok (.iface 160 (.agg #[.pointer (some (aQ 1 120))])) w:=by kernel_rfl
theorem qmq (w : World) : (ReflectliteType.relation "Implements" ReflectliteType.implements_ #[.agg #[.pointer (some (aQ 1 120))], .iface 160 (.agg #[.pointer (some (aQ 1 116))])]).run Tryz.prog w = .ok (.bool true) w := by kernel_rfl
theorem qu6 (v:Value) (w:World):(ReflectliteType.typeOf #[.iface 120 v]).run Tryz.prog w=.ok (.iface 160 (.agg #[.pointer (some (aQ 1 120))])) w:=by kernel_rfl
theorem qmg (w : World) : (ReflectliteType.relation "AssignableTo" ReflectliteType.assignableTo #[.agg #[.pointer (some (aQ 1 120))], .iface 160 (.agg #[.pointer (some (aQ 1 120))])]).run Tryz.prog w = .ok (.bool true) w := by kernel_rfl
theorem qt0 (x:Int) (w:World):(ReflectliteValue.unpack (.iface 120 (.agg #[.int .i64 x]))).run Tryz.prog w
  = .ok (.agg #[.pointer (some (aQ 1 120)),.pointer (some (aQ w.heap.size 0)),.int .u64 153]) (w.alloc (.cells #[.int .i64 x] 120)):=by kernel_rfl
theorem quu (w:World):(Rtype.elem? 122).run Tryz.prog w=.ok (some 120) w:=by kernel_rfl
theorem mkE (p:Addr) (w:World):(ReflectliteValue.mk 120 p ReflectliteValue.flagAddr).run Tryz.prog w=.ok (.agg #[.pointer (some (aQ 1 120)),.pointer (some p),.int .u64 409]) w:=by kernel_rfl
theorem qjm (eh:Nat->E3) (kd pr:Int):∀ (n j q:Nat),(plN eh kd pr n)[j]? = some q->q<n/\hitB eh kd pr q=true/\cnt eh kd pr q=j
 | 0,j,q,h=>by simp [plN] at h
 | n+1,j,q,h=>by
  rcases zK (hitB eh kd pr n) with t | t
  ·rw [plN,if_pos t] at h
   by_cases hj:j<(plN eh kd pr n).length
   ·rw [List.getElem?_append_left hj] at h
    obtain ⟨h1,h2,h3⟩:=qjm eh kd pr n j q h
    exact ⟨by omega,h2,h3⟩
   ·rw [List.getElem?_append_right (by omega)] at h
    have hj2:j - (plN eh kd pr n).length=0:=by
     by_cases e:j - (plN eh kd pr n).length=0
     ·exact e
     ·rw [List.getElem?_eq_none (by simp;omega)] at h
      cases h
    rw [hj2] at h
    simp at h
    subst h
    refine ⟨by omega,t,?_⟩
    unfold cnt
    omega
  ·rw [plN,if_neg (by rw [t];decide)] at h
   obtain ⟨h1,h2,h3⟩:=qjm eh kd pr n j q h
   exact ⟨by omega,h2,h3⟩
theorem qlc {eh:Nat->E3} {kd pr:Int} {len n:Nat} (h:n<cnt eh kd pr len):∃ q:Nat,nthV eh kd pr len n=q/\q<len/\hitB eh kd pr q=true/\cnt eh kd pr q=n:=by
 have hl:n<(plI eh kd pr len).length:=by rw [qdd];exact h
 obtain ⟨q,h1,h2,h3⟩:=qld eh kd pr len n hl
 obtain ⟨-,h4,h5⟩:=qjm eh kd pr len n q h3
 refine ⟨q,?_,h2,h4,h5⟩
 unfold nthV
 rw [if_pos (by simp [belB];omega),Int.toNat_natCast]
 exact h1
theorem qrb {eh:Nat->E3} {kd pr:Int} {len n:Nat} (h:cnt eh kd pr len<=n):nthV eh kd pr len n = -1:=by
 unfold nthV
 rw [if_neg]
 have hl:(plI eh kd pr len).length<=n:=by rw [qdd];exact h
 simp [belB]
 omega
theorem qq9 {eh:Nat->E3} {kd pr:Int} {len len' n:Nat} (h:n<cnt eh kd pr len) (hl:len<=len'):nthV eh kd pr len' n=nthV eh kd pr len n:=by
 obtain ⟨q,h1,h2,h3,h4⟩:=qlc h
 rw [h1]
 exact qn7 (by omega) h3 (by rw [qdd];show (n:Int)=(cnt eh kd pr q:Nat);omega)
structure Sy.Cut (y:Sy) (c:List Int):Prop where
 len:c.length=y.pn
 le:∀ p,p<y.pn->0<=zi c p/\zi c p<=(y.hL p:Int)
noncomputable def cutB (y:Sy) (c:List Int):Bool:=y.okB && qB (y.Cut c)
def cN (c:List Int) (p:Nat):Nat:=(zi c p).toNat
def sN (y:Sy) (c:Nat->Nat) (a b:Nat):Nat:=cnt (y.hH a) 2 b (c a)
def tN (y:Sy) (c:Nat->Nat) (a b:Nat):Nat:=cnt (y.hH b) 3 a (c b)
def Sy.Wh (y:Sy) (c:Nat->Nat):Prop:=∀ a,a<y.pn->∀ b,b<y.pn->tN y c a b<=sN y c a b
def ovN (y:Sy) (c:Nat->Nat) (a b:Nat):Int:=nthV (y.hH b) 3 a (c b) (sN y c a b:Nat)
theorem qua {y:Sy} {c:Nat->Nat} {a b:Nat} (h:tN y c a b<=sN y c a b):ovN y c a b = -1:=qrb h
theorem qrf {y:Sy} {c:Nat->Nat} {a b:Nat} (h:¬ tN y c a b<=sN y c a b):∃ k:Nat,ovN y c a b=k/\k<c b/\hitB (y.hH b) 3 a k=true/\cnt (y.hH b) 3 a k=sN y c a b:=qlc (by unfold tN at h;omega)
theorem qs6 {y:Sy} {c:Nat->Nat} {a b:Nat} (h:¬ tN y c a b<=sN y c a b) (hl:c b<=y.hL b):nthV (y.hH b) 3 a (y.hL b) (sN y c a b:Nat)=ovN y c a b:=qq9 (by unfold tN at h;omega) hl
theorem qex {y:Sy} {c:Nat->Nat} {a b:Nat}:ovN y c a b<0 ↔ tN y c a b<=sN y c a b:=by
 refine ⟨fun h=>?_,fun h=>by rw [qua h];decide⟩
 by_cases hc:tN y c a b<=sN y c a b
 ·exact hc
 ·obtain ⟨k,e,-⟩:=qrf hc
  omega
noncomputable def whB (y:Sy) (c:List Int):Bool:=cutB y c && qB (y.Wh (cN c))
structure Sy.Cl (y:Sy) (c e:List Int):Prop where
 len:e.length=y.pn
 le:∀ p,p<y.pn->0<=zi e p/\zi e p<=zi c p
 gr:∀ d:Nat->Nat,(∀ p,p<y.pn->(d p:Int)<=zi c p)->y.Wh d->∀ p,p<y.pn->(d p:Int)<=zi e p
theorem Sy.Cl.start {y:Sy} {c:List Int} (h:y.Cut c):y.Cl c c:=⟨h.len,fun p hp=>⟨(h.le p hp).1,Int.le_refl _⟩,fun _ h _=>h⟩
theorem Sy.Cl.cut {y:Sy} {c e:List Int} (h:y.Cl c e) (hc:y.Cut c):y.Cut e:=⟨h.len,fun p hp=>⟨(h.le p hp).1,Int.le_trans (h.le p hp).2 (hc.le p hp).2⟩⟩
theorem qlz {e:List Int} {b p:Nat} {k:Int} (hb:b<e.length):zi (e.set b k) p=if p=b then k else zi e p:=by
 by_cases h:p=b
 ·subst h
  rw [if_pos rfl,qi0 e p k hb]
 ·rw [if_neg h,qmo e p b k h]
theorem Sy.Cl.next {y:Sy} {c e:List Int} {a b:Nat} (h:y.Cl c e) (ha:a<y.pn) (hb:b<y.pn) (ho:0<=ovN y (cN e) a b):y.Cl c (e.set b (ovN y (cN e) a b))/\0<=ovN y (cN e) a b/\ovN y (cN e) a b<zi e b:=by
 have hn:¬ tN y (cN e) a b<=sN y (cN e) a b:=fun hc=>by
  have:=qex.2 hc
  omega
 obtain ⟨k,e1,e2,e3,e4⟩:=qrf hn
 have eb:=(h.le b hb)
 have hkb:(k:Int)<zi e b:=by unfold cN at e2;omega
 refine ⟨⟨by rw [List.length_set];exact h.len,fun p hp=>?_,fun d hd hw p hp=>?_⟩,ho,by omega⟩
 ·rw [qlz (by rw [h.len];exact hb)]
  by_cases ep:p=b
  ·subst ep
   rw [if_pos rfl]
   omega
  ·rw [if_neg ep]
   exact h.le p hp
 ·rw [qlz (by rw [h.len];exact hb)]
  have h0:=h.gr d hd hw p hp
  by_cases ep:p=b
  ·subst ep
   rw [if_pos rfl,e1]
   by_cases hc:(d p:Int)<=k
   ·exact hc
   ·exfalso
    have h1 : sN y d a p ≤ sN y (cN e) a p := qfa _ _ _ (by
     have:=h.gr d hd hw a ha
     unfold cN
     omega)
    have h2:cnt (y.hH p) 3 a (k+1)<=tN y d a p:=qfa _ _ _ (by omega)
    rw [qfz e3,e4] at h2
    have:=hw a ha p hb
    omega
  ·rw [if_neg ep]
   exact h0
theorem Sy.Cl.same {y:Sy} {c e e':List Int} (h:y.Cl c e) (hw:y.Wh (cN e)) (h':y.Cl c e') (hw':y.Wh (cN e')):e=e':=by
 refine qnu (h.len.trans h'.len.symm) fun p hp=>?_
 have hp':p<y.pn:=by rw [<- h.len];exact hp
 have h1:=h.gr (cN e') (fun q hq=>by have:=h'.le q hq;unfold cN;omega) hw' p hp'
 have h2:=h'.gr (cN e) (fun q hq=>by have:=h.le q hq;unfold cN;omega) hw p hp'
 have h3:=h.le p hp'
 have h4:=h'.le p hp'
 unfold cN at h1 h2
 omega
open Classical in
noncomputable def clS (y:Sy) (c:List Int):List Int:=if h:cutB y c=true/\∃ e,y.Cl c e/\y.Wh (cN e) then h.2.choose else []
theorem qvd {y:Sy} {c:List Int} (h:cutB y c=false):clS y c=[]:=by
 unfold clS
 rw [dif_neg]
 rw [h]
 simp
theorem qit {y:Sy} {c e:List Int} (h:cutB y c=true) (h1:y.Cl c e) (h2:y.Wh (cN e)):clS y c=e:=by
 unfold clS
 have hx:cutB y c=true/\∃ e,y.Cl c e/\y.Wh (cN e):=⟨h,e,h1,h2⟩
 rw [dif_pos hx]
 exact hx.2.choose_spec.1.same hx.2.choose_spec.2 h1 h2
theorem qbo {y:Sy} {c:List Int} (h:cutB y c=true):y.Ok/\y.Cut c:=by
 unfold cutB at h
 simp only [Bool.and_eq_true] at h
 exact ⟨Sy.ok_of h.1,qoi.1 h.2⟩
noncomputable def flS (y:Sy):List Int:=if y.okB=true then (List.range y.hn).map fun p=>(y.hL p:Int) else []
def flT (y:Sy) (k:Nat):List Int:=(List.range k).map fun p=>(y.hL p:Int)
theorem qnw (y:Sy) (k:Nat):flT y (k+1)=flT y k ++ [(y.hL k:Int)]:=by
 unfold flT
 rw [List.range_succ,List.map_append]
 rfl
theorem qcj (y:Sy) (k:Nat):(flT y k).length=k:=by simp [flT]
open Go.Sort
theorem Sl.all {w:World} {a0:Option Addr} {xs:List Int} (h:Sl w a0 xs) (hn:0<xs.length):∃ b off,a0=some ⟨b,off,none⟩/\b<w.heap.size/\∀ i,i<xs.length->w.cell? ⟨b,off+i,none⟩=some (.int .i64 (zi xs i)):=by
 rcases h with rfl | h
 ·simp at hn
 ·exact h
theorem RowS.all {w:World} {a0:Option Addr} {n:Nat} {f:Nat->Value} (h:RowS w a0 n f) (hn:0<n):∃ b off,a0=some ⟨b,off,none⟩/\b<w.heap.size/\∀ i,i<n->w.cell? ⟨b,off+i,none⟩=some (f i):=by
 rcases h with rfl | h
 ·omega
 ·exact h
theorem BoxC.belowB {w w':World} {b:Nat} {v0 v1 v2 v3:Value} {B:Nat} (h:BoxC w b v0 v1 v2 v3) (hb:Below B w w') (hB:b<B):BoxC w' b v0 v1 v2 v3:=by
 obtain ⟨h0,h1,h2,h3⟩:=h
 exact ⟨(hb.cell (p:=(aQ b 0)) hB).trans h0,(hb.cell (p:=(aQ b 1)) hB).trans h1,(hb.cell (p:=(aQ b 2)) hB).trans h2,(hb.cell (p:=(aQ b 3)) hB).trans h3⟩
theorem Sy.Cut.nat {y:Sy} {c:List Int} (h:y.Cut c) {p:Nat} (hp:p<y.pn):zi c p=(cN c p:Nat):=by
 have:=h.le p hp
 unfold cN
 omega
theorem Sy.Cut.leN {y:Sy} {c:List Int} (h:y.Cut c) {p:Nat} (hp:p<y.pn):cN c p<=y.hL p:=by
 have:=h.le p hp
 unfold cN
 omega
theorem qif (x:SysIn) (ca:Option Addr) (cc:Nat) (c:List Int) (a b:Nat) (w:World) (hG:SysG w x) (hcap:∀ i,i<x.hn->x.hL i<=x.hC i) (hO:x.y.Ok) (hC:x.y.Cut c) (hc:Sl w ca c) (ha:a<x.pn) (hb:b<x.pn):
  Calls Tryz.prog 76 #[x.v,.slice ca c.length cc,.int .i64 a,.int .i64 b] w fun e w'=>e=.returned (.int .i64 (ovN x.y (cN c) a b))/\Bw w w':=by
 have hhn:x.hn=x.pn:=hO.cn.2.2.1
 have hah:a<x.hn:=by omega
 have hbh:b<x.hn:=by omega
 have hla:x.hL a<=200:=hO.hl200 ha
 have hlb:x.hL b<=200:=hO.hl200 hb
 have hka:cN c a<=x.hL a:=hC.leN ha
 have hkb:cN c b<=x.hL b:=hC.leN hb
 have eza:=hC.nat (p:=a) ha
 have ezb:=hC.nat (p:=b) hb
 have hcl:c.length=x.pn:=hC.len
 have hcpa:=hcap a hah
 have hcpb:=hcap b hbh
 have HG:Hid (SysG w x):=hG
 have HSl:Hid (Sl w ca c):=hc
 have hac:(a:Int)<(c.length:Int):=by omega
 have hbc:(b:Int)<(c.length:Int):=by omega
 have ha':(a:Int)<(x.hn:Int):=by omega
 have hb':(b:Int)<(x.hn:Int):=by omega
 have HNo:Hid (tN x.y (cN c) a b<=sN x.y (cN c) a b->ovN x.y (cN c) a b = -1):=qua
 have HYes:Hid (¬ tN x.y (cN c) a b<=sN x.y (cN c) a b->nthV (x.hH b) 3 a (x.hL b) (sN x.y (cN c) a b:Nat)=ovN x.y (cN c) a b):=fun h=>qs6 h hkb
 have hsl:sN x.y (cN c) a b<=200:=zP (qks _ _ _ _) (by omega)
 have htl:tN x.y (cN c) a b<=200:=zP (qks _ _ _ _) (by omega)
 have ka:=qfs (x.hA a) (x.hL a) (x.hC a) (cN c a) (by omega)
 have kb:=qfs (x.hA b) (x.hL b) (x.hC b) (cN c b) (by omega)
 have HC1:Hid (∀ wx,Bw w wx->Calls Tryz.prog 60 #[.slice (x.hA a) (cN c a) (x.hC a),.int .i64 2,.int .i64 b] wx fun e w'=>e=.returned (.int .i64 (sN x.y (cN c) a b:Nat))/\Bw wx w'):=fun wx hb=>qcq (x.hA a) (cN c a) (x.hC a) (x.hH a) 2 b wx (by omega) (((hG.below hb).hi a hah).take (by omega))
 have HC2:Hid (∀ wx,Bw w wx->Calls Tryz.prog 60 #[.slice (x.hA b) (cN c b) (x.hC b),.int .i64 3,.int .i64 a] wx fun e w'=>e=.returned (.int .i64 (tN x.y (cN c) a b:Nat))/\Bw wx w'):=fun wx hb=>qcq (x.hA b) (cN c b) (x.hC b) (x.hH b) 3 a wx (by omega) (((hG.below hb).hi b hbh).take (by omega))
 have HNt:Hid (∀ wx,Bw w wx->Calls Tryz.prog 106 #[.slice (x.hA b) (x.hL b) (x.hC b),.int .i64 3,.int .i64 a,.int .i64 (sN x.y (cN c) a b:Nat)] wx fun e w'=>e=.returned (.int .i64 (nthV (x.hH b) 3 a (x.hL b) (sN x.y (cN c) a b:Nat)))/\Bw wx w'):=fun wx hb=>qru (x.hA b) (x.hL b) (x.hC b) (x.hH b) 3 a _ wx (by omega) ((hG.below hb).hi b hbh) (by omega) (by omega)
 generalize sN x.y (cN c) a b=sn at *
 generalize tN x.y (cN c) a b=tn at *
 generalize ovN x.y (cN c) a b=ov at *
 generalize nthV (x.hH b) 3 a (x.hL b) (sn:Nat)=nv at *
 have HR:Hid (a<c.length/\b<c.length/\a<x.hn/\b<x.hn/\zi c a=(cN c a:Nat)/\zi c b=(cN c b:Nat)):=⟨by omega,by omega,hah,hbh,eza,ezb⟩
 have BW:Hid (Bw w (w.alloc (x.oX))):=zT _ _
 have NB:Hid (x.bX (w.alloc (x.oX)) w.heap.size):=BoxC.new w _ _ _ _ _
 have hsl':(sn:Int)<=200:=by omega
 have htl':(tn:Int)<=200:=by omega
 clear hG hcap hO hC hc hhn hah hbh hcl eza ezb hcpa hcpb
 obtain ⟨cb,co,rfl,-,-⟩:=HSl.out.all (by have:=HR.out;omega)
 have HSc:Hid (∀ wx,Bw w wx->∀ i,i<c.length->wx.cell? ⟨cb,co+i,none⟩=some (.int .i64 (zi c i))):=fun wx hb i hi=>by
  obtain ⟨b',o',e,-,h⟩:=(HSl.out.below hb).at hi
  simp only [Option.some.injEq,Addr.mk.injEq] at e
  obtain ⟨rfl,rfl,-⟩:=e
  exact h
 have HRow:Hid (∃ hb ho,x.ha=some ⟨hb,ho,none⟩/\∀ wx,Bw w wx->∀ i,i<x.hn->wx.cell? ⟨hb,ho+i,none⟩=some (.slice (x.hA i) (x.hL i) (x.hC i))):=by
  obtain ⟨b1,o1,e1,-,-⟩:=HG.out.h.all (by have:=HR.out;omega)
  refine ⟨b1,o1,e1,fun wx hb i hi=>?_⟩
  obtain ⟨b',o',e,h⟩:=(HG.out.below hb).h.at hi
  rw [e1] at e
  simp only [Option.some.injEq,Addr.mk.injEq] at e
  obtain ⟨rfl,rfl,-⟩:=e
  exact h
 obtain ⟨hbb,hoo,ehh,hrow⟩:=HRow.out
 have HRw:Hid (∀ wx,Bw w wx->∀ i,i<x.hn->wx.cell? ⟨hbb,hoo+i,none⟩=some (.slice (x.hA i) (x.hL i) (x.hC i))):=hrow
 have HE:Hid (x.ha=some (aQ hbb hoo)):=ehh
 clear HRow hrow ehh
 go_enter Tryz.func76,Tryz.ntmps76
 go_upto_region 1 with fail
 generalize w.alloc (x.oX)=W2 at *
 have b3:=NB.out.2.2.2
 rw [HE.out] at b3
 have q3:=cell_regrown b3
 have qa:=cell_regrown (HRw.out W2 BW.out a HR.out.2.2.1)
 have qc:=cell_regrown ((HSc.out W2 BW.out a HR.out.1).trans (by rw [HR.out.2.2.2.2.1]))
 have HQ2:Hid (∀ d os,Bw w (grow (redrawn W2 d) os)):=fun d os=>BW.out.trans ((below_regrown W2 d os).mono BW.out.size)
 clear b3
 refine wp_region_quiet_below (by kernel_rfl) (by kernel_rfl) ?_
 repeat (quiet_step (first|(go_at_call 60;exact Calls.regrown_of (HC1.out _ (HQ2.out _ _)))))
 refine wpQuiet_nil ?_
 intro _ hw'
 obtain ⟨⟨dd,os⟩,hw''⟩:=hw'
 subst hw''
 have B3:Hid (Bw w (grow (redrawn W2 dd) os)/\x.bX (grow (redrawn W2 dd) os) w.heap.size):=⟨HQ2.out dd os,NB.out.below (below_regrown W2 dd os)⟩
 generalize grow (redrawn W2 dd) os=w3 at *
 clear q3 qa qc HQ2 BW NB HC1 ka
 have b3:=B3.out.2.2.2.2
 rw [HE.out] at b3
 have q3:=cell_regrown b3
 have qa:=cell_regrown (HRw.out w3 B3.out.1 b HR.out.2.2.2.1)
 have qc:=cell_regrown ((HSc.out w3 B3.out.1 b HR.out.2.1).trans (by rw [HR.out.2.2.2.2.2]))
 have HQ2:Hid (∀ d os,Bw w (grow (redrawn w3 d) os)):=fun d os=>B3.out.1.trans ((below_regrown w3 d os).mono B3.out.1.size)
 clear b3
 go_upto_region 2 with fail
 refine wp_region_quiet_below (by kernel_rfl) (by kernel_rfl) ?_
 repeat (quiet_step (first|(go_at_call 60;exact Calls.regrown_of (HC2.out _ (HQ2.out _ _)))))
 refine wpQuiet_nil ?_
 intro _ hw'
 obtain ⟨⟨dd,os⟩,hw''⟩:=hw'
 subst hw''
 have B4:Hid (Bw w (grow (redrawn w3 dd) os)/\x.bX (grow (redrawn w3 dd) os) w.heap.size):=⟨HQ2.out dd os,B3.out.2.below (below_regrown w3 dd os)⟩
 generalize grow (redrawn w3 dd) os=w4 at *
 clear q3 qa qc HQ2 B3 HC2 kb
 by_cases hts:tn<=sn
 ·have hts':(tn:Int)<=(sn:Int):=by omega
  have HV:=HNo.out hts
  clear HNo HYes
  go_wp2
  go_ret
  exact ⟨qm7 HV.symm,B4.out.1⟩
 ·have hts':¬ (tn:Int)<=(sn:Int):=by omega
  have HV:Hid (nv=ov):=HYes.out hts
  clear HNo HYes
  have b3:=B4.out.2.2.2.2
  rw [HE.out] at b3
  have qa:=HRw.out w4 B4.out.1 b HR.out.2.2.2.1
  go_wp2_with fail
  refine (HNt.out w4 B4.out.1).mono ?_
  rintro e w5 ⟨rfl,q5⟩
  have B5:Hid (Bw w w5):=B4.out.1.trans (q5.mono B4.out.1.size)
  rw [HV.out]
  clear q5 b3 qa B4 HNt HV
  go_wp2
  go_ret
  exact ⟨rfl,B5.out⟩
theorem qm0 (x:SysIn) (ca:Option Addr) (cc:Nat) (c:List Int) (w:World) (hG:SysG w x) (hcap:∀ i,i<x.hn->x.hL i<=x.hC i) (hO:x.y.Ok) (hC:x.y.Cut c) (hc:Sl w ca c):
  Calls Tryz.prog 46 #[x.v,.slice ca c.length cc] w fun e w'=>e=.returned (.bool (qB (x.y.Wh (cN c))))/\Bw w w':=by
 have hcl:c.length=x.pn:=hC.len
 have h4:x.pn<=4:=hO.cn.1.2
 have hl':(c.length:Int)<=4:=by omega
 have HQ:Hid (c.length=x.pn):=hcl
 have HOv:Hid (∀ wx,Bw w wx->∀ a b,a<c.length->b<c.length->Calls Tryz.prog 76 #[x.v,.slice ca c.length cc,.int .i64 (a:Nat),.int .i64 (b:Nat)] wx fun e w'=>e=.returned (.int .i64 (ovN x.y (cN c) a b))/\Bw wx w'):=fun wx hb a b ha hb'=>qif x ca cc c a b wx (hG.below hb) hcap hO hC (hc.below hb) (by omega) (by omega)
 have BW:Hid (Bw w (w.alloc (x.oX))):=zT _ _
 have NB:Hid (x.bX (w.alloc (x.oX)) w.heap.size):=BoxC.new w _ _ _ _ _
 clear hG hcap hO hC hc hcl h4
 go_enter Tryz.func46,Tryz.ntmps46
 go_upto_region 1 with fail
 generalize w.alloc (x.oX)=W2 at *
 go_wp2_with fail
 go_loopw [5] (fun i wr=>∃ k:Nat,k<=c.length/\i=.int .i64 k/\Hid (Bw w wr/\x.bX wr w.heap.size)/\Hid (∀ a,a<k->∀ b,b<c.length->tN x.y (cN c) a b<=sN x.y (cN c) a b)) (fun i _=>c.length - (intOf i).toNat)
 case atStart=>exact ⟨0,Nat.zero_le _,rfl,⟨BW.out,NB.out⟩,fun j hj=>by omega⟩
 case round=>
  clear BW NB
  obtain ⟨k,hk,rfl,HB,HK⟩:=hrel
  by_cases hlt:k<c.length
  ·have hlt':(k:Int)<(c.length:Int):=by omega
   go_wp2_with fail
   go_loopw [6] (fun i wr=>∃ j:Nat,j<=c.length/\i=.int .i64 j/\Hid (Bw w wr/\x.bX wr w.heap.size)/\Hid (∀ b,b<j->tN x.y (cN c) k b<=sN x.y (cN c) k b)) (fun i _=>c.length - (intOf i).toNat)
   case atStart=>exact ⟨0,Nat.zero_le _,rfl,HB.out,fun j hj=>by omega⟩
   case round=>
    clear HB
    obtain ⟨j,hj,rfl,HB,HJ⟩:=hrel
    by_cases hjt:j<c.length
    ·have hjt':(j:Int)<(c.length:Int):=by omega
     obtain ⟨b0,b1,b2,b3⟩:=HB.out.2
     go_wp2_with fail
     refine (HOv.out _ HB.out.1 k j hlt hjt).mono ?_
     rintro e w3 ⟨rfl,q3⟩
     have B3:Hid (Bw w w3/\x.bX w3 w.heap.size):=⟨HB.out.1.trans (q3.mono HB.out.1.size),HB.out.2.below q3⟩
     have HN:Hid (ovN x.y (cN c) k j<0 ↔ tN x.y (cN c) k j<=sN x.y (cN c) k j):=qex
     generalize ovN x.y (cN c) k j=ov at *
     clear q3 b0 b1 b2 b3 HB
     by_cases ho:0<=ov
     ·have HV:Hid (qB (x.y.Wh (cN c))=false):=qax fun h=>by
       have h1:=HN.out.2 (h k (by have:=HQ.out;show k<x.pn;omega) j (by have:=HQ.out;show j<x.pn;omega))
       omega
      go_wp2
      go_ret
      rw [HV.out]
      exact ⟨rfl,B3.out.1⟩
     ·have HJ':Hid (∀ b,b<j+1->tN x.y (cN c) k b<=sN x.y (cN c) k b):=fun b hb=>by
       by_cases e:b=j
       ·subst e
        exact HN.out.1 (by omega)
       ·exact HJ.out b (by omega)
      clear HJ HN
      go_wp2
      go_roundw
      case rel=>exact ⟨j+1,by omega,by go_num,B3.out,HJ'.out⟩
      case measure=>simp [intOf];omega
    ·have HK':Hid (∀ a,a<k+1->∀ b,b<c.length->tN x.y (cN c) a b<=sN x.y (cN c) a b):=fun a ha b hb=>by
      by_cases e:a=k
      ·subst e
       exact HJ.out b (by omega)
      ·exact HK.out a (by omega) b hb
     clear HK HJ
     go_wp2
     go_roundw
     case rel=>exact ⟨k+1,by omega,by go_num,HB.out,HK'.out⟩
     case measure=>simp [intOf];omega
  ·have HV:Hid (qB (x.y.Wh (cN c))=true):=qa5 fun a ha b hb=>HK.out a (by have:=HQ.out;have h1:a<x.pn:=ha;omega) b (by have:=HQ.out;have h1:b<x.pn:=hb;omega)
   have B3:=HB.out.1
   clear HK HB
   go_wp2
   go_ret
   rw [HV.out]
   exact ⟨rfl,B3⟩
theorem qno (xs:List Int) (n k:Nat):zi (xs.drop n) k=zi xs (n+k):=by
 unfold zi
 simp [List.getD_eq_getElem?_getD,List.getElem?_drop]
def wyL (h:Hs) (a b:Nat):List Int:=(valL (h.e a) 2 b (h.l a)).drop (cnt (h.e b) 3 a (h.l b))
def itL (l:List Int):Nat->I2:=fun j=>⟨false,zi l j⟩
def Sy.ah (y:Sy) (d:Nat->Nat):Hs:=⟨y.pn,d,y.hH⟩
noncomputable def wfB (h:Hs):Bool:=qB (∀ a,a<h.n->∀ b,b<h.n->(wyL h a b).length<=12)
def Sy.atY (y:Sy) (d:Nat->Nat):Sy where
 pn:=y.pn
 pL:=y.pL
 pH:=y.pH
 sn:=y.pn
 sS:=fun p=>resS (repO (y.pH p) (y.pL p) (y.hH p) (d p))
 wn:=y.pn*y.pn
 wL:=fun i=>(wyL (y.ah d) (i / y.pn) (i % y.pn)).length
 wH:=fun i=>itL (wyL (y.ah d) (i / y.pn) (i % y.pn))
 hn:=y.pn
 hL:=d
 hH:=y.hH
def Sy.nil (y:Sy):Sy:={ y with pn:=0,sn:=0,wn:=0,hn:=0 }
theorem Sy.nil_sm (y:Sy):y.nil.Sm:=⟨⟨by simp [Sy.nil],by simp [Sy.nil],by simp [Sy.nil],by simp [Sy.nil]⟩,fun i hi=>by simp [Sy.nil] at hi,fun i hi=>by simp [Sy.nil] at hi,fun i hi=>by simp [Sy.nil] at hi,fun i hi=>by simp [Sy.nil] at hi⟩
noncomputable def Sy.atW (y:Sy) (d:Nat->Nat):Sy:=if wfB (y.ah d)=true then y.atY d else y.nil
noncomputable def atB (y:Sy) (c:List Int):Bool:=whB y c && wfB (y.ah (cN c))
noncomputable def atS (y:Sy) (c:List Int):Sy:=if whB y c=true then y.atW (cN c) else y.nil
theorem qtd (g:Nat->I5) (n:Nat) (eh:Nat->E3) (m:Nat):(resS (repO g n eh m)).rs.length<=1000/\(resS (repO g n eh m)).os.length<=1000:=by
 cases h:repO g n eh m with
 | none=>simp [resS]
 | some S=>
  obtain ⟨h1,-,h2⟩:=qbi h
  have:=qre (quf h1 m S h2)
  simp only [resS,Option.getD_some]
  omega
theorem Sy.atW_sm {y:Sy} {d:Nat->Nat} (h:y.Ok) (hd:∀ p,p<y.pn->d p<=y.hL p):(y.atW d).Sm:=by
 unfold Sy.atW
 split
 ·rename_i hw
  have hw:=qoi.1 hw
  obtain ⟨⟨h1,h4⟩,hs,hh,hwn⟩:=h.cn
  obtain ⟨b1,b2,b3,b4⟩:=h.bds
  have h16:y.pn*y.pn<=16:=zP (Nat.mul_le_mul h4 h4) (by omega)
  refine ⟨⟨?_,?_,h16,?_⟩,fun i hi=>?_,fun i _=>qtd _ _ _ _,fun i hi=>?_,fun i hi=>?_⟩
  ·show y.pn<=16
   omega
  ·show y.pn<=16
   omega
  ·show y.pn<=16
   omega
  ·have hi:i<y.pn:=hi
   have:=b1 i hi
   show y.pL i<=1000
   omega
  ·have hi:i<y.pn*y.pn:=hi
   have ha:i / y.pn<y.pn:=Nat.div_lt_of_lt_mul hi
   have hb:i % y.pn<y.pn:=Nat.mod_lt _ (by omega)
   have:=hw _ ha _ hb
   show (wyL (y.ah d) (i / y.pn) (i % y.pn)).length<=1000
   omega
  ·have hi:i<y.pn:=hi
   have h0:=hd i hi
   have:=b4 i (by omega)
   show d i<=1000
   omega
 ·exact y.nil_sm
theorem qr8 {y:Sy} {c:List Int} (h:whB y c=true):cutB y c=true/\y.Wh (cN c):=by
 unfold whB at h
 simp only [Bool.and_eq_true] at h
 exact ⟨h.1,qoi.1 h.2⟩
theorem qu9 {a b n:Nat} (hb:b<n):(a*n+b) / n=a/\(a*n+b) % n=b:=by
 have hn:0<n:=by omega
 constructor
 ·rw [Nat.mul_comm,Nat.mul_add_div hn,Nat.div_eq_of_lt hb]
  omega
 ·rw [Nat.mul_comm,Nat.mul_add_mod]
  exact Nat.mod_eq_of_lt hb
structure AtP (z:Bool) (B N:Nat) (c:Nat->Nat) (y:Sy) (wx:World) (vp vs vw vh:Value) (up us uw uh:Nat->Value):Prop where
 bx:BoxC wx N vp vs vw vh
 fr:∀ j,wx.frozen? ⟨N,j,none⟩=false
 cN:c N=0
 bN:B<=N
 o:OwnS z wx B c y vp vs vw vh up us uw uh
section
variable {z:Bool} {B N:Nat} {c:Nat->Nat} {y:Sy} {wr:World} {vp vs vw vh:Value} {up us uw uh:Nat->Value}
theorem AtP.lt (h:AtP z B N c y wr vp vs vw vh up us uw uh):N<wr.heap.size:=zJ wr _ h.bx.1
theorem AtP.below (h:AtP z B N c y wr vp vs vw vh up us uw uh) {w':World} (hb:Bw wr w'):AtP z B N c y w' vp vs vw vh up us uw uh:=
 ⟨h.bx.below hb,fun j=>by rw [zI (hb.block N h.lt)];exact h.fr j,h.cN,h.bN,h.o.below hb⟩
theorem AtP.state (h:AtP z B N c y wr vp vs vw vh up us uw uh) {w1 w3:World} {u' v':Value} (b1:Bw wr w1) (hu:qag w1 wr.heap.size u' (y.sS y.sn).p (y.sS y.sn).rs (y.sS y.sn).os (y.sS y.sn).c) (hv:w3.ownsRow 0 51 4 v' (y.sn+1) (flat (fun i=>cellsL (us i)) y.sn ++ cellsL u')) (g:w1.grownBy w3 vs.ownBlock) (hv':∀ j,v'.ownBlock=some j->vs.ownBlock=some j\/w1.heap.size<=j):
  AtP z B N (rcol c wr.heap.size 2) { y with sn:=y.sn+1 } (w3.setCell (aQ N 1) v') vp v' vw vh up (fun j=>if j=y.sn then u' else us j) uw uh:=by
 have hN:=h.lt
 have hkeep:∀ k,k<wr.heap.size->c k≠2->w3.heap[k]? = wr.heap[k]?:=fun k hk hc=>(g.block k (zL hk b1.size) fun e=>hc (h.o.s.rb k e.symm).2).trans (b1.block k hk)
 have hset:∀ k,k≠N->(w3.setCell ⟨N,1,none⟩ v').heap[k]? = w3.heap[k]?:=fun k hk=>zO _ _ _ _ hk
 have hcN:rcol c wr.heap.size 2 N=0:=(qa7 hN).trans h.cN
 have hBN:w3.heap[N]? = wr.heap[N]?:=hkeep N hN (by rw [h.cN];decide)
 have hkk:∀ i,i≠2->i≠0->∀ k,Cl B (rcol c wr.heap.size 2) i k->k<wr.heap.size->(w3.setCell ⟨N,1,none⟩ v').heap[k]? = wr.heap[k]?:=fun i h2 h0 k hk hl=>by
  have e:c k=i:=(qa7 hl).symm.trans hk.2
  exact (hset k fun en=>h0 (by rw [<- e,en,h.cN])).trans (hkeep k hl (by rw [e];exact h2))
 have hP:∀ i k,Cl B c i k->k<wr.heap.size->Cl B (rcol c wr.heap.size 2) i k:=fun i k hk hl=>hk.old hl
 have hP':∀ k,wr.heap.size<=k->k<w3.heap.size->Cl B (rcol c wr.heap.size 2) 2 k:=fun k hk _=>⟨zP h.bN (zP (Nat.le_of_lt hN) hk),qak hk⟩
 obtain ⟨x0,x1,x2,x3⟩:=h.bx
 have hc:∀ j,w3.cell? ⟨N,j,none⟩=wr.cell? ⟨N,j,none⟩:=fun j=>zH hBN
 have hnew:∀ k,Cl B (rcol c wr.heap.size 2) 2 k->k<w3.heap.size->(w3.setCell ⟨N,1,none⟩ v').heap[k]? = w3.heap[k]?:=fun k hk _=>hset k fun e=>by
  have e2:=hk.2
  rw [e,hcN] at e2
  cases e2
 refine ⟨⟨?_,?_,?_,?_⟩,fun j=>?_,hcN,h.bN,⟨?_,?_,?_,?_⟩⟩
 ·rw [World.cell?_setCell_other _ _ _ _ (by simp),hc];exact x0
 ·exact World.cell?_setCell_same _ _ _ ((hc 1).trans x1)
 ·rw [World.cell?_setCell_other _ _ _ _ (by simp),hc];exact x2
 ·rw [World.cell?_setCell_other _ _ _ _ (by simp),hc];exact x3
 ·rw [World.frozen?_setCell,zI hBN];exact h.fr j
 ·exact (h.o.p.mono (hP 1)).keep (hkk 1 (by decide) (by decide))
 ·exact (h.o.s.push b1 hu hv g hv' (hP 2) hP').keep hnew
 ·exact (h.o.t.mono (hP 3)).keep (hkk 3 (by decide) (by decide))
 ·exact (h.o.h.mono (hP 4)).keep (hkk 4 (by decide) (by decide))
theorem AtP.hist (h:AtP z B N c y wr vp vs vw vh up us uw uh) {w1 w3:World} {u' v':Value} (b1:Bw wr w1) (hu:w1.ownsRow wr.heap.size 56 3 u' (y.hL y.hn) (fE (y.hH y.hn) (y.hL y.hn))) (hne:u'≠.slice none 0 0) (hv:w3.ownsRow 0 33 1 v' (y.hn+1) ((List.range y.hn).map uh ++ [u'])) (g:w1.grownBy w3 vh.ownBlock) (hv':∀ j,v'.ownBlock=some j->vh.ownBlock=some j\/w1.heap.size<=j):
  AtP z B N (rcol c wr.heap.size 4) { y with hn:=y.hn+1 } (w3.setCell (aQ N 3) v') vp vs vw v' up us uw (fun j=>if j=y.hn then u' else uh j):=by
 have hN:=h.lt
 have hkeep:∀ k,k<wr.heap.size->c k≠4->w3.heap[k]? = wr.heap[k]?:=fun k hk hc=>(g.block k (zL hk b1.size) fun e=>hc (h.o.h.rb k e.symm).2).trans (b1.block k hk)
 have hset:∀ k,k≠N->(w3.setCell ⟨N,3,none⟩ v').heap[k]? = w3.heap[k]?:=fun k hk=>zO _ _ _ _ hk
 have hcN:rcol c wr.heap.size 4 N=0:=(qa7 hN).trans h.cN
 have hBN:w3.heap[N]? = wr.heap[N]?:=hkeep N hN (by rw [h.cN];decide)
 have hkk:∀ i,i≠4->i≠0->∀ k,Cl B (rcol c wr.heap.size 4) i k->k<wr.heap.size->(w3.setCell ⟨N,3,none⟩ v').heap[k]? = wr.heap[k]?:=fun i h2 h0 k hk hl=>by
  have e:c k=i:=(qa7 hl).symm.trans hk.2
  exact (hset k fun en=>h0 (by rw [<- e,en,h.cN])).trans (hkeep k hl (by rw [e];exact h2))
 have hP:∀ i k,Cl B c i k->k<wr.heap.size->Cl B (rcol c wr.heap.size 4) i k:=fun i k hk hl=>hk.old hl
 have hP':∀ k,wr.heap.size<=k->k<w3.heap.size->Cl B (rcol c wr.heap.size 4) 4 k:=fun k hk _=>⟨zP h.bN (zP (Nat.le_of_lt hN) hk),qak hk⟩
 obtain ⟨x0,x1,x2,x3⟩:=h.bx
 have hc:∀ j,w3.cell? ⟨N,j,none⟩=wr.cell? ⟨N,j,none⟩:=fun j=>zH hBN
 have hnew:∀ k,Cl B (rcol c wr.heap.size 4) 4 k->k<w3.heap.size->(w3.setCell ⟨N,3,none⟩ v').heap[k]? = w3.heap[k]?:=fun k hk _=>hset k fun e=>by
  have e2:=hk.2
  rw [e,hcN] at e2
  cases e2
 refine ⟨⟨?_,?_,?_,?_⟩,fun j=>?_,hcN,h.bN,⟨?_,?_,?_,?_⟩⟩
 ·rw [World.cell?_setCell_other _ _ _ _ (by simp),hc];exact x0
 ·rw [World.cell?_setCell_other _ _ _ _ (by simp),hc];exact x1
 ·rw [World.cell?_setCell_other _ _ _ _ (by simp),hc];exact x2
 ·exact World.cell?_setCell_same _ _ _ ((hc 3).trans x3)
 ·rw [World.frozen?_setCell,zI hBN];exact h.fr j
 ·exact (h.o.p.mono (hP 1)).keep (hkk 1 (by decide) (by decide))
 ·exact (h.o.s.mono (hP 2)).keep (hkk 2 (by decide) (by decide))
 ·exact (h.o.t.mono (hP 3)).keep (hkk 3 (by decide) (by decide))
 ·exact (h.o.h.push b1 hu (fun _=>hne) hv g hv' (hP 4) hP').keep hnew
end
theorem AtP.box {z:Bool} {B N:Nat} {c:Nat->Nat} {y:Sy} {wr w1 w3:World} {vp vs vw vh:Value} {up us uw uh:Nat->Value} (h:AtP z B N c y wr vp vs vw vh up us uw uh) (b1:Bw wr w1) {ob:Option Nat} (g:w1.grownBy w3 ob) (hob:∀ k,ob=some k->c k≠0):BoxC w3 N vp vs vw vh/\∀ j,w3.frozen? ⟨N,j,none⟩=false:=by
 have hN:=h.lt
 have e:w3.heap[N]? = wr.heap[N]?:=(g.block N (zL hN b1.size) fun e=>hob N e.symm h.cN).trans (b1.block N hN)
 obtain ⟨x0,x1,x2,x3⟩:=h.bx
 exact ⟨⟨(zH e).trans x0,(zH e).trans x1,(zH e).trans x2,(zH e).trans x3⟩,fun j=>(zI e).trans (h.fr j)⟩
theorem AtP.gS {z:Bool} {B N:Nat} {c:Nat->Nat} {y:Sy} {wr:World} {vp vs vw vh:Value} {up us uw uh:Nat->Value} (h:AtP z B N c y wr vp vs vw vh up us uw uh):∀ k,vs.ownBlock=some k->B<=k/\c k≠0:=fun k hk=>⟨(h.o.s.rb k hk).1,by rw [(h.o.s.rb k hk).2];decide⟩
theorem AtP.gH {z:Bool} {B N:Nat} {c:Nat->Nat} {y:Sy} {wr:World} {vp vs vw vh:Value} {up us uw uh:Nat->Value} (h:AtP z B N c y wr vp vs vw vh up us uw uh):∀ k,vh.ownBlock=some k->B<=k/\c k≠0:=fun k hk=>⟨(h.o.h.rb k hk).1,by rw [(h.o.h.rb k hk).2];decide⟩
theorem qlh {t e:TypeId} {size bytes:Nat} (K:Kind t e size bytes) (w:World) (ty:TypeId) (a0:Option Addr) (m c:Nat) (news:List Value) (hl:news.length=m*size) (hsrc:Src w a0 news) (h1:∀ u ∈ news,u.oneCell'=true) (cs:Array Value) (hz:cs.size=m*size):
  (Builtin.copy_ #[t,t] ty #[.slice (some (aQ w.heap.size 0)) m m,.slice a0 m c]).run Tryz.prog (w.alloc (.cells cs e))=.ok (goInt m) (w.alloc (.cells news.toArray e)):=by
 obtain ⟨i,z,hi,-,hs,-,-⟩:=K.inf
 have hg:(w.alloc (.cells cs e)).heap[w.heap.size]? = some (.cells cs e (0,0)):=heap_alloc_new w _
 have hst:=run_storeCells_at Tryz.prog w.heap.size 0 e news 0 cs (w.alloc (.cells cs e)) hg (by rw [hl,hz];omega) h1
 have hmin:Nat.min m m=m:=Nat.min_self m
 cases a0 with
 | none=>
  have hn0:news=[]:=by
   rcases hsrc with h | ⟨b,off,e,_⟩
   ·exact h
   ·cases e
  subst hn0
  have hm:m=0:=by
   simp only [List.length_nil] at hl
   rcases Nat.eq_zero_or_pos m with h | h
   ·exact h
   ·have:=Nat.mul_pos h K.pos
    omega
  subst hm
  have hc:cs=#[]:=by
   have:cs.size=0:=by omega
   exact Array.eq_empty_of_size_eq_zero this
  subst hc
  simp [Builtin.copy_,run_underlying K.und,Builtin.lenOf,Builtin.firstCells,sizeOf,typeInfo,hi,storeCells]
 | some a=>
  have hnews:∀ j u,news[j]? = some u->(w.alloc (.cells cs e)).cell? (a.add j)=some u:=by
   rcases hsrc with h0 | ⟨b,off,e,hlt,hc⟩
   ·subst h0
    intro j u hj
    simp at hj
   ·cases e
    intro j u hj
    have ha:Addr.add ⟨b,off,none⟩ j=⟨b,off+j,none⟩:=by unfold Addr.add;split <;> simp_all
    rw [ha]
    exact ((zQ w _).cell (p:=⟨b,off+j,none⟩) hlt).trans (hc j u hj)
  have hld:=run_loadCells_list (P:=Tryz.prog) (w.alloc (.cells cs e)) a news hnews
  rw [hl] at hld
  simp only [List.take_zero,List.nil_append,Nat.zero_add] at hst
  rw [List.drop_of_length_le (by simp [hl,hz]),List.append_nil,qd6] at hst
  simp [Builtin.copy_,run_underlying K.und,Builtin.lenOf,Builtin.firstCells,sizeOf,typeInfo,hi,hs,hld,hst]
theorem qjt {t e:TypeId} {size bytes:Nat} (K:Kind t e size bytes) (n:Nat) (hn:n<=1048576):∃ cs:Array Value,cs.size=n*size/\∀ w:World,(Instr.makeSlice t (.int .i64 (n:Int)) (.int .i64 (n:Int))).run Tryz.prog w=.ok (.slice (some ⟨w.heap.size,0,none⟩) n n) (w.alloc (.cells cs e)):=by
 obtain ⟨i,z,hi,hz,hs,hb,hzs⟩:=K.inf
 refine ⟨madeCells z.cells (n*size),size_madeCells _ _,fun w=>?_⟩
 have hby:i.bytes*n<=281474976710656:=by
  rw [hb]
  exact zP (Nat.mul_le_mul K.sml hn) (by omega)
 have hby':(i.bytes:Int)*(n:Int)<=281474976710656:=by rw [<- Int.natCast_mul];exact Int.ofNat_le.2 hby
 have h:=run_make (P:=Tryz.prog) w t e i z K.und hi hz .i64 .i64 (n:Int) (n:Int) (by omega) (by omega) hby' (by omega)
 rw [hs,Int.toNat_natCast] at h
 exact h
theorem qhh (ea:Option Addr) (n cap:Nat) (H:Nat->E3) (w:World) (hn:n<=1048576) (hS:Src w ea (fE H n)):
  Calls Tryz.prog 73 #[.slice ea n cap] w fun e w'=>∃ a1 c1,e=.returned (.slice a1 n c1)/\w'.ownsRow w.heap.size 56 3 (.slice a1 n c1) n (fE H n)/\Value.slice a1 n c1≠.slice none 0 0/\Bw w w':=by
 have hn':(n:Int)<=1048576:=by omega
 obtain ⟨cs,hcs,hmk⟩:=qjt kndE n hn
 have hcp:=qlh kndE w 3 ea n cap (fE H n) (qky _ _) hS (qnv _ _) cs hcs
 have HO:Hid ((w.alloc (.cells (fE H n).toArray 56)).ownsRow w.heap.size 56 3 (.slice (some (aQ w.heap.size 0)) n n) n (fE H n)/\Bw w (w.alloc (.cells (fE H n).toArray 56))):=by
  refine ⟨?_,zQ _ _⟩
  have:=World.ownsRow_lit (base:=w.heap.size) (e:=56) (size:=3) w (fE H n).toArray n (Nat.le_refl _) (by unfold maxLen;omega) (by simp [qky])
  exact this
 clear hS hcs
 go_enter Tryz.func73,Tryz.ntmps73
 go_wp2
 go_ret
 exact ⟨_,_,rfl,HO.out.1,by simp,HO.out.2⟩
