import Derived.Test.YtchhijiibjijhaaGreatDoorYf24
namespace Go.Proofs.YtchhijiibjijhaaGreatDoor
set_option maxRecDepth 100000
set_option maxHeartbeats 4000000
open Go.ChangeShapes Go.WideShapes Go.ChangeAt Go.RowKit Go.Deep
variable {z:Bool}
theorem qc3 {t e:TypeId} {bytes:Nat} (K:Kind t e 1 bytes) (n:Nat) (hn:n<=1048576):∃ cs:Array Value,cs.size=n/\∀ w:World,(Instr.makeSlice t (.int .i64 0) (.int .i64 (n:Int))).run Tryz.prog w=.ok (.slice (some ⟨w.heap.size,0,none⟩) 0 n) (w.alloc (.cells cs e)):=by
 obtain ⟨i,z,hi,hz,hs,hb,hzs⟩:=K.inf
 refine ⟨madeCells z.cells n,size_madeCells _ _,fun w=>?_⟩
 have hby:i.bytes*n<=281474976710656:=by
  rw [hb]
  exact zP (Nat.mul_le_mul K.sml hn) (by omega)
 have hby':(i.bytes:Int)*(n:Int)<=281474976710656:=by rw [<- Int.natCast_mul];exact Int.ofNat_le.2 hby
 have h:=run_make (P:=Tryz.prog) w t e i z K.und hi hz .i64 .i64 0 (n:Int) (by omega) (by omega) hby' (by omega)
 rw [hs,Nat.mul_one,Int.toNat_natCast] at h
 exact h
theorem LL.made (e:TypeId) (sz:Nat) (E:TypeId) (w:World) (cs:Array Value) (n:Nat) (hn:n<=1048576) (hc:cs.size=n) (P:Nat->Prop) (hP:P w.heap.size) (u:Nat->Value) (L:Nat->Nat) (c:Nat->List Value):LL z e sz E (w.alloc (.cells cs E)) P (.slice (some ⟨w.heap.size,0,none⟩) 0 n) 0 u L c:=
 ⟨World.ownsRow_made (base:=0) (e:=E) (size:=1) w cs n (Nat.zero_le _) (by unfold maxLen;omega) (by rw [hc,Nat.mul_one]),fun i hi=>(by omega),fun k hk=>(by cases hk;exact hP),fun i hi=>(by omega),fun i hi=>(by omega),fun i j hi=>(by omega),fun i hi=>(by omega)⟩
theorem qmu (b off n cap:Nat) (H:Nat->I5) (w:World) (hn:n<=1048576) (hI:Src w (some ⟨b,off,none⟩) (fI H n)):
  Calls Tryz.prog 161 #[.slice (some ⟨b,off,none⟩) n cap] w fun e w'=>∃ a c,e=.returned (.slice a n c)/\w'.ownsRow w.heap.size 115 5 (.slice a n c) n (fI H n)/\Value.slice a n c≠.slice none 0 0/\Below w.heap.size w w':=by
 have HI:Hid (Src w (some ⟨b,off,none⟩) (fI H n)):=hI
 have he:∀ wx:World,(binOp .eql 113 (.slice (some ⟨b,off,none⟩) n cap) (.slice none 0 0)).run Tryz.prog wx=.ok (.bool false) wx:=fun wx=>by kernel_rfl
 clear hI
 go_enter Tryz.func161,Tryz.ntmps161
 go_wp2_with (at_builtin;refine qbu kndI w rfl rfl _ _ rfl (some ⟨b,off,none⟩) n cap (fI H n) rfl rfl (qxb _ _) HI.out (qxc _ _) (by omega) ?_;intro v4 w4 o4 b4 n4;obtain ⟨a4,c4,rfl⟩:=zU o4;have F4:Hid (w4.ownsRow w.heap.size 115 5 (.slice a4 n c4) n (fI H n)/\Value.slice a4 n c4≠.slice none 0 0/\Below w.heap.size w w4):=⟨o4,n4,b4⟩;clear o4 b4 n4)
 go_ret
 exact ⟨_,_,rfl,F4.out⟩
theorem qd2 (a0:Option Addr) (n cap:Nat) (A:Nat->Option Addr) (L C:Nat->Nat) (H:Nat->Nat->I5) (w:World) (hn:n<=1048576) (hL:∀ i,i<n->L i<=1048576) (hr:RowS w a0 n fun i=>.slice (A i) (L i) (C i)) (hI:∀ i,i<n->∃ b off,A i=some ⟨b,off,none⟩/\Src w (A i) (fI (H i) (L i))):
  Calls Tryz.prog 99 #[.slice a0 n cap] w fun e w'=>∃ v u,e=.returned v/\LI z w' (fun k=>w.heap.size<=k/\k<w'.heap.size) v n u L H/\Below w.heap.size w w':=by
 have hn':(n:Int)<=1048576:=by omega
 obtain ⟨cs,hcs,hmk⟩:=qc3 qx7 n hn
 have HCS:Hid (cs.size=n):=hcs
 have HR:Hid (RowS w a0 n fun i=>.slice (A i) (L i) (C i)):=hr
 have HI:Hid (∀ i,i<n->∃ b off,A i=some ⟨b,off,none⟩/\Src w (A i) (fI (H i) (L i))):=hI
 have HL:Hid (∀ i,i<n->L i<=1048576):=hL
 clear hr hI hL hcs
 go_enter Tryz.func99,Tryz.ntmps99
 go_wp2_with fail
 clear hmk
 go_loopw [3,11] (fun v i wr=>∃ k:Nat,k<=n/\i=.int .i64 k/\Hid ((∃ u,LI z wr (fun b=>w.heap.size<=b/\b<wr.heap.size) v k u L H)/\Below w.heap.size w wr)) (fun _ i _=>n - (intOf i).toNat)
 case atStart=>exact ⟨0,Nat.zero_le _,rfl,⟨fun _=>.slice none 0 0,LL.made _ _ _ w _ n hn HCS.out _ (by simp) _ _ _⟩,zQ _ _⟩
 case round=>
  obtain ⟨k,hk,rfl,HZ⟩:=hrel
  by_cases hlt:k<n
  ·have hlt':(k:Int)<(n:Int):=by omega
   obtain ⟨b,off,rfl,ck⟩:=(HR.out.below HZ.out.2).at hlt
   have hbl:b<wr.heap.size:=zJ wr _ ck
   obtain ⟨b2,o2,ea,hsr⟩:=HI.out k hlt
   rw [ea] at hsr ck
   have HS:Hid (Src wr (some ⟨b2,o2,none⟩) (fI (H k) (L k))):=hsr.below HZ.out.2
   have HLk:Hid (L k<=1048576):=HL.out k hlt
   have hk2:Hid (k<=2000000):=by show k<=2000000;omega
   obtain ⟨⟨u,oz⟩,bz⟩:=HZ.out
   have OZ:Hid (LI z wr (fun b=>w.heap.size<=b/\b<wr.heap.size) u3 k u L H):=oz
   have BZ:Hid (Below w.heap.size w wr):=bz
   clear oz bz HZ hsr ea
   go_wp2_with fail
   refine (qmu b2 o2 (L k) (C k) (H k) wr HLk.out HS.out).mono ?_
   rintro e w4 ⟨a4,c4,rfl,o4,n4,b4⟩
   have F4:Hid (w4.ownsRow wr.heap.size 115 5 (.slice a4 (L k) c4) (L k) (fI (H k) (L k))/\Below wr.heap.size wr w4/\Value.slice a4 (L k) c4≠.slice none 0 0):=⟨o4,b4,n4⟩
   clear o4 b4 n4 ck hbl
   go_wp2_with (at_builtin;refine qaq qx7 w4 rfl rfl _ _ rfl 0 u3 k _ rfl (OZ.out.below F4.out.2.1).row #[.slice a4 (L k) c4] rfl rfl (by intro u hu;simp at hu;subst hu;rfl) hk2.out (Nat.zero_le _) ?_;intro v5 w5 o5 g5 q5 n5;have F5:Hid (LI z w5 (fun b=>w.heap.size<=b/\b<w5.heap.size) v5 (k+1) (fun j=>if j=k then .slice a4 (L k) c4 else u j) L H/\Below w.heap.size w w5):=⟨OZ.out.push F4.out.2.1 F4.out.1 (fun _=>F4.out.2.2) o5 g5 q5 (fun j hj _=>⟨hj.1,zL hj.2 (zP F4.out.2.1.size g5.size)⟩) (fun j hj hj'=>⟨zP BZ.out.size hj,hj'⟩),Below.grown (BZ.out.trans (F4.out.2.1.mono BZ.out.size)) g5 (zP BZ.out.size F4.out.2.1.size) (fun j hj=>(OZ.out.rb j hj).1)⟩;clear o5 g5 q5 n5)
   go_roundw
   case rel=>exact ⟨k+1,by omega,by go_num,⟨_,F5.out.1⟩,F5.out.2⟩
   case measure=>simp [intOf];omega
  ·have hkn:k=n:=by omega
   subst hkn
   go_wp2
   go_ret
   obtain ⟨⟨u,oz⟩,bz⟩:=HZ.out
   exact ⟨_,u,rfl,oz,bz⟩
theorem qkp (b off n cap:Nat) (H:Nat->I2) (w:World) (hn:n<=1048576) (hI:Src w (some ⟨b,off,none⟩) (fT H n)):
  Calls Tryz.prog 194 #[.slice (some ⟨b,off,none⟩) n cap] w fun e w'=>∃ a c,e=.returned (.slice a n c)/\w'.ownsRow w.heap.size 138 2 (.slice a n c) n (fT H n)/\Value.slice a n c≠.slice none 0 0/\Below w.heap.size w w':=by
 have HI:Hid (Src w (some ⟨b,off,none⟩) (fT H n)):=hI
 have he:∀ wx:World,(binOp .eql 136 (.slice (some ⟨b,off,none⟩) n cap) (.slice none 0 0)).run Tryz.prog wx=.ok (.bool false) wx:=fun wx=>by kernel_rfl
 clear hI
 go_enter Tryz.func194,Tryz.ntmps194
 go_wp2_with (at_builtin;refine qbu kndT w rfl rfl _ _ rfl (some ⟨b,off,none⟩) n cap (fT H n) rfl rfl (qxd _ _) HI.out (qxe _ _) (by omega) ?_;intro v4 w4 o4 b4 n4;obtain ⟨a4,c4,rfl⟩:=zU o4;have F4:Hid (w4.ownsRow w.heap.size 138 2 (.slice a4 n c4) n (fT H n)/\Value.slice a4 n c4≠.slice none 0 0/\Below w.heap.size w w4):=⟨o4,n4,b4⟩;clear o4 b4 n4)
 go_ret
 exact ⟨_,_,rfl,F4.out⟩
theorem qjm (w:World):
  Calls Tryz.prog 194 #[.slice none 0 0] w fun e w'=>e=.returned (.slice none 0 0)/\Below w.heap.size w w':=by
 have he:∀ wx:World,(binOp .eql 136 (.slice none 0 0) (.slice none 0 0)).run Tryz.prog wx=.ok (.bool true) wx:=fun wx=>by kernel_rfl
 go_enter Tryz.func194,Tryz.ntmps194
 go_wp2
 go_ret
 exact ⟨rfl,Below.refl _ _⟩
theorem qgr (a0:Option Addr) (n cap:Nat) (A:Nat->Option Addr) (L C:Nat->Nat) (H:Nat->Nat->I2) (w:World) (hn:n<=1048576) (hL:∀ i,i<n->L i<=1048576) (hr:RowS w a0 n fun i=>.slice (A i) (L i) (C i)) (hI:∀ i,i<n->(∃ b off,A i=some ⟨b,off,none⟩/\Src w (A i) (fT (H i) (L i)))\/(z=false/\A i=none/\L i=0/\C i=0)):
  Calls Tryz.prog 135 #[.slice a0 n cap] w fun e w'=>∃ v u,e=.returned v/\LT z w' (fun k=>w.heap.size<=k/\k<w'.heap.size) v n u L H/\Below w.heap.size w w':=by
 have hn':(n:Int)<=1048576:=by omega
 obtain ⟨cs,hcs,hmk⟩:=qc3 qsf n hn
 have HCS:Hid (cs.size=n):=hcs
 have HR:Hid (RowS w a0 n fun i=>.slice (A i) (L i) (C i)):=hr
 have HI:Hid (∀ i,i<n->(∃ b off,A i=some ⟨b,off,none⟩/\Src w (A i) (fT (H i) (L i)))\/(z=false/\A i=none/\L i=0/\C i=0)):=hI
 have HL:Hid (∀ i,i<n->L i<=1048576):=hL
 clear hr hI hL hcs
 go_enter Tryz.func135,Tryz.ntmps135
 go_wp2_with fail
 clear hmk
 go_loopw [3,11] (fun v i wr=>∃ k:Nat,k<=n/\i=.int .i64 k/\Hid ((∃ u,LT z wr (fun b=>w.heap.size<=b/\b<wr.heap.size) v k u L H)/\Below w.heap.size w wr)) (fun _ i _=>n - (intOf i).toNat)
 case atStart=>exact ⟨0,Nat.zero_le _,rfl,⟨fun _=>.slice none 0 0,LL.made _ _ _ w _ n hn HCS.out _ (by simp) _ _ _⟩,zQ _ _⟩
 case round=>
  obtain ⟨k,hk,rfl,HZ⟩:=hrel
  by_cases hlt:k<n
  ·have hlt':(k:Int)<(n:Int):=by omega
   obtain ⟨b,off,rfl,ck⟩:=(HR.out.below HZ.out.2).at hlt
   have hbl:b<wr.heap.size:=zJ wr _ ck
   rcases HI.out k hlt with ⟨b2,o2,ea,hsr⟩ | ⟨hz,ea,eL,eC⟩
   ·rw [ea] at hsr ck
    have HS:Hid (Src wr (some ⟨b2,o2,none⟩) (fT (H k) (L k))):=hsr.below HZ.out.2
    have HLk:Hid (L k<=1048576):=HL.out k hlt
    have hk2:Hid (k<=2000000):=by show k<=2000000;omega
    obtain ⟨⟨u,oz⟩,bz⟩:=HZ.out
    have OZ:Hid (LT z wr (fun b=>w.heap.size<=b/\b<wr.heap.size) u3 k u L H):=oz
    have BZ:Hid (Below w.heap.size w wr):=bz
    clear oz bz HZ hsr ea
    go_wp2_with fail
    refine (qkp b2 o2 (L k) (C k) (H k) wr HLk.out HS.out).mono ?_
    rintro e w4 ⟨a4,c4,rfl,o4,n4,b4⟩
    have F4:Hid (w4.ownsRow wr.heap.size 138 2 (.slice a4 (L k) c4) (L k) (fT (H k) (L k))/\Below wr.heap.size wr w4/\Value.slice a4 (L k) c4≠.slice none 0 0):=⟨o4,b4,n4⟩
    clear o4 b4 n4 ck hbl
    go_wp2_with (at_builtin;refine qaq qsf w4 rfl rfl _ _ rfl 0 u3 k _ rfl (OZ.out.below F4.out.2.1).row #[.slice a4 (L k) c4] rfl rfl (by intro u hu;simp at hu;subst hu;rfl) hk2.out (Nat.zero_le _) ?_;intro v5 w5 o5 g5 q5 n5;have F5:Hid (LT z w5 (fun b=>w.heap.size<=b/\b<w5.heap.size) v5 (k+1) (fun j=>if j=k then .slice a4 (L k) c4 else u j) L H/\Below w.heap.size w w5):=⟨OZ.out.push F4.out.2.1 F4.out.1 (fun _=>F4.out.2.2) o5 g5 q5 (fun j hj _=>⟨hj.1,zL hj.2 (zP F4.out.2.1.size g5.size)⟩) (fun j hj hj'=>⟨zP BZ.out.size hj,hj'⟩),Below.grown (BZ.out.trans (F4.out.2.1.mono BZ.out.size)) g5 (zP BZ.out.size F4.out.2.1.size) (fun j hj=>(OZ.out.rb j hj).1)⟩;clear o5 g5 q5 n5)
    go_roundw
    case rel=>exact ⟨k+1,by omega,by go_num,⟨_,F5.out.1⟩,F5.out.2⟩
    case measure=>simp [intOf];omega
   ·rw [ea,eL,eC] at ck
    have HNz:Hid (¬ Nz z 138):=fun h=>by
     rcases h with h | h
     ·rw [hz] at h
      cases h
     ·exact absurd h (by decide)
    have hk2:Hid (k<=2000000):=by show k<=2000000;omega
    obtain ⟨⟨u,oz⟩,bz⟩:=HZ.out
    have OZ:Hid (LT z wr (fun b=>w.heap.size<=b/\b<wr.heap.size) u3 k u L H):=oz
    have BZ:Hid (Below w.heap.size w wr):=bz
    have HE:Hid (L k=0):=eL
    clear oz bz HZ ea eL eC hz
    go_wp2_with fail
    refine (qjm wr).mono ?_
    rintro e w4 ⟨rfl,b4⟩
    have F4:Hid (w4.ownsRow wr.heap.size 138 2 (.slice none 0 0) (L k) (fT (H k) (L k))/\Below wr.heap.size wr w4):=⟨by rw [HE.out];exact World.ownsRow_nil _ _ _ _,b4⟩
    clear b4 ck hbl
    go_wp2_with (at_builtin;refine qaq qsf w4 rfl rfl _ _ rfl 0 u3 k _ rfl (OZ.out.below F4.out.2).row #[.slice none 0 0] rfl rfl (by intro u hu;simp at hu;subst hu;rfl) hk2.out (Nat.zero_le _) ?_;intro v5 w5 o5 g5 q5 n5;have F5:Hid (LT z w5 (fun b=>w.heap.size<=b/\b<w5.heap.size) v5 (k+1) (fun j=>if j=k then .slice none 0 0 else u j) L H/\Below w.heap.size w w5):=⟨OZ.out.push F4.out.2 F4.out.1 (fun h=>absurd h HNz.out) o5 g5 q5 (fun j hj _=>⟨hj.1,zL hj.2 (zP F4.out.2.size g5.size)⟩) (fun j hj hj'=>⟨zP BZ.out.size hj,hj'⟩),Below.grown (BZ.out.trans (F4.out.2.mono BZ.out.size)) g5 (zP BZ.out.size F4.out.2.size) (fun j hj=>(OZ.out.rb j hj).1)⟩;clear o5 g5 q5 n5)
    go_roundw
    case rel=>exact ⟨k+1,by omega,by go_num,⟨_,F5.out.1⟩,F5.out.2⟩
    case measure=>simp [intOf];omega
  ·have hkn:k=n:=by omega
   subst hkn
   go_wp2
   go_ret
   obtain ⟨⟨u,oz⟩,bz⟩:=HZ.out
   exact ⟨_,u,rfl,oz,bz⟩
theorem qjl (b off n cap:Nat) (H:Nat->E3) (w:World) (hn:n<=1048576) (hI:Src w (some ⟨b,off,none⟩) (fE H n)):
  Calls Tryz.prog 195 #[.slice (some ⟨b,off,none⟩) n cap] w fun e w'=>∃ a c,e=.returned (.slice a n c)/\w'.ownsRow w.heap.size 74 3 (.slice a n c) n (fE H n)/\Value.slice a n c≠.slice none 0 0/\Below w.heap.size w w':=by
 have HI:Hid (Src w (some ⟨b,off,none⟩) (fE H n)):=hI
 have he:∀ wx:World,(binOp .eql 75 (.slice (some ⟨b,off,none⟩) n cap) (.slice none 0 0)).run Tryz.prog wx=.ok (.bool false) wx:=fun wx=>by kernel_rfl
 clear hI
 go_enter Tryz.func195,Tryz.ntmps195
 go_wp2_with (at_builtin;refine qbu kndE w rfl rfl _ _ rfl (some ⟨b,off,none⟩) n cap (fE H n) rfl rfl (qm7 _ _) HI.out (qqr _ _) (by omega) ?_;intro v4 w4 o4 b4 n4;obtain ⟨a4,c4,rfl⟩:=zU o4;have F4:Hid (w4.ownsRow w.heap.size 74 3 (.slice a4 n c4) n (fE H n)/\Value.slice a4 n c4≠.slice none 0 0/\Below w.heap.size w w4):=⟨o4,n4,b4⟩;clear o4 b4 n4)
 go_ret
 exact ⟨_,_,rfl,F4.out⟩
theorem qio (w:World):
  Calls Tryz.prog 195 #[.slice none 0 0] w fun e w'=>e=.returned (.slice none 0 0)/\Below w.heap.size w w':=by
 have he:∀ wx:World,(binOp .eql 75 (.slice none 0 0) (.slice none 0 0)).run Tryz.prog wx=.ok (.bool true) wx:=fun wx=>by kernel_rfl
 go_enter Tryz.func195,Tryz.ntmps195
 go_wp2
 go_ret
 exact ⟨rfl,Below.refl _ _⟩
theorem qfy (a0:Option Addr) (n cap:Nat) (A:Nat->Option Addr) (L C:Nat->Nat) (H:Nat->Nat->E3) (w:World) (hn:n<=1048576) (hL:∀ i,i<n->L i<=1048576) (hr:RowS w a0 n fun i=>.slice (A i) (L i) (C i)) (hI:∀ i,i<n->(∃ b off,A i=some ⟨b,off,none⟩/\Src w (A i) (fE (H i) (L i)))\/(z=false/\A i=none/\L i=0/\C i=0)):
  Calls Tryz.prog 136 #[.slice a0 n cap] w fun e w'=>∃ v u,e=.returned v/\LE z w' (fun k=>w.heap.size<=k/\k<w'.heap.size) v n u L H/\Below w.heap.size w w':=by
 have hn':(n:Int)<=1048576:=by omega
 obtain ⟨cs,hcs,hmk⟩:=qc3 qnd n hn
 have HCS:Hid (cs.size=n):=hcs
 have HR:Hid (RowS w a0 n fun i=>.slice (A i) (L i) (C i)):=hr
 have HI:Hid (∀ i,i<n->(∃ b off,A i=some ⟨b,off,none⟩/\Src w (A i) (fE (H i) (L i)))\/(z=false/\A i=none/\L i=0/\C i=0)):=hI
 have HL:Hid (∀ i,i<n->L i<=1048576):=hL
 clear hr hI hL hcs
 go_enter Tryz.func136,Tryz.ntmps136
 go_wp2_with fail
 clear hmk
 go_loopw [3,11] (fun v i wr=>∃ k:Nat,k<=n/\i=.int .i64 k/\Hid ((∃ u,LE z wr (fun b=>w.heap.size<=b/\b<wr.heap.size) v k u L H)/\Below w.heap.size w wr)) (fun _ i _=>n - (intOf i).toNat)
 case atStart=>exact ⟨0,Nat.zero_le _,rfl,⟨fun _=>.slice none 0 0,LL.made _ _ _ w _ n hn HCS.out _ (by simp) _ _ _⟩,zQ _ _⟩
 case round=>
  obtain ⟨k,hk,rfl,HZ⟩:=hrel
  by_cases hlt:k<n
  ·have hlt':(k:Int)<(n:Int):=by omega
   obtain ⟨b,off,rfl,ck⟩:=(HR.out.below HZ.out.2).at hlt
   have hbl:b<wr.heap.size:=zJ wr _ ck
   rcases HI.out k hlt with ⟨b2,o2,ea,hsr⟩ | ⟨hz,ea,eL,eC⟩
   ·rw [ea] at hsr ck
    have HS:Hid (Src wr (some ⟨b2,o2,none⟩) (fE (H k) (L k))):=hsr.below HZ.out.2
    have HLk:Hid (L k<=1048576):=HL.out k hlt
    have hk2:Hid (k<=2000000):=by show k<=2000000;omega
    obtain ⟨⟨u,oz⟩,bz⟩:=HZ.out
    have OZ:Hid (LE z wr (fun b=>w.heap.size<=b/\b<wr.heap.size) u3 k u L H):=oz
    have BZ:Hid (Below w.heap.size w wr):=bz
    clear oz bz HZ hsr ea
    go_wp2_with fail
    refine (qjl b2 o2 (L k) (C k) (H k) wr HLk.out HS.out).mono ?_
    rintro e w4 ⟨a4,c4,rfl,o4,n4,b4⟩
    have F4:Hid (w4.ownsRow wr.heap.size 74 3 (.slice a4 (L k) c4) (L k) (fE (H k) (L k))/\Below wr.heap.size wr w4/\Value.slice a4 (L k) c4≠.slice none 0 0):=⟨o4,b4,n4⟩
    clear o4 b4 n4 ck hbl
    go_wp2_with (at_builtin;refine qaq qnd w4 rfl rfl _ _ rfl 0 u3 k _ rfl (OZ.out.below F4.out.2.1).row #[.slice a4 (L k) c4] rfl rfl (by intro u hu;simp at hu;subst hu;rfl) hk2.out (Nat.zero_le _) ?_;intro v5 w5 o5 g5 q5 n5;have F5:Hid (LE z w5 (fun b=>w.heap.size<=b/\b<w5.heap.size) v5 (k+1) (fun j=>if j=k then .slice a4 (L k) c4 else u j) L H/\Below w.heap.size w w5):=⟨OZ.out.push F4.out.2.1 F4.out.1 (fun _=>F4.out.2.2) o5 g5 q5 (fun j hj _=>⟨hj.1,zL hj.2 (zP F4.out.2.1.size g5.size)⟩) (fun j hj hj'=>⟨zP BZ.out.size hj,hj'⟩),Below.grown (BZ.out.trans (F4.out.2.1.mono BZ.out.size)) g5 (zP BZ.out.size F4.out.2.1.size) (fun j hj=>(OZ.out.rb j hj).1)⟩;clear o5 g5 q5 n5)
    go_roundw
    case rel=>exact ⟨k+1,by omega,by go_num,⟨_,F5.out.1⟩,F5.out.2⟩
    case measure=>simp [intOf];omega
   ·rw [ea,eL,eC] at ck
    have HNz:Hid (¬ Nz z 74):=fun h=>by
     rcases h with h | h
     ·rw [hz] at h
      cases h
     ·exact absurd h (by decide)
    have hk2:Hid (k<=2000000):=by show k<=2000000;omega
    obtain ⟨⟨u,oz⟩,bz⟩:=HZ.out
    have OZ:Hid (LE z wr (fun b=>w.heap.size<=b/\b<wr.heap.size) u3 k u L H):=oz
    have BZ:Hid (Below w.heap.size w wr):=bz
    have HE:Hid (L k=0):=eL
    clear oz bz HZ ea eL eC hz
    go_wp2_with fail
    refine (qio wr).mono ?_
    rintro e w4 ⟨rfl,b4⟩
    have F4:Hid (w4.ownsRow wr.heap.size 74 3 (.slice none 0 0) (L k) (fE (H k) (L k))/\Below wr.heap.size wr w4):=⟨by rw [HE.out];exact World.ownsRow_nil _ _ _ _,b4⟩
    clear b4 ck hbl
    go_wp2_with (at_builtin;refine qaq qnd w4 rfl rfl _ _ rfl 0 u3 k _ rfl (OZ.out.below F4.out.2).row #[.slice none 0 0] rfl rfl (by intro u hu;simp at hu;subst hu;rfl) hk2.out (Nat.zero_le _) ?_;intro v5 w5 o5 g5 q5 n5;have F5:Hid (LE z w5 (fun b=>w.heap.size<=b/\b<w5.heap.size) v5 (k+1) (fun j=>if j=k then .slice none 0 0 else u j) L H/\Below w.heap.size w w5):=⟨OZ.out.push F4.out.2 F4.out.1 (fun h=>absurd h HNz.out) o5 g5 q5 (fun j hj _=>⟨hj.1,zL hj.2 (zP F4.out.2.size g5.size)⟩) (fun j hj hj'=>⟨zP BZ.out.size hj,hj'⟩),Below.grown (BZ.out.trans (F4.out.2.mono BZ.out.size)) g5 (zP BZ.out.size F4.out.2.size) (fun j hj=>(OZ.out.rb j hj).1)⟩;clear o5 g5 q5 n5)
    go_roundw
    case rel=>exact ⟨k+1,by omega,by go_num,⟨_,F5.out.1⟩,F5.out.2⟩
    case measure=>simp [intOf];omega
  ·have hkn:k=n:=by omega
   subst hkn
   go_wp2
   go_ret
   obtain ⟨⟨u,oz⟩,bz⟩:=HZ.out
   exact ⟨_,u,rfl,oz,bz⟩
variable {z:Bool}
structure SysIn.Nn (x:SysIn) (z:Bool):Prop where
 w:∀ i,i<x.wn->(∃ b off,x.wA i=some ⟨b,off,none⟩)\/(z=false/\x.wA i=none/\x.wL i=0/\x.wC i=0)
 h:∀ i,i<x.hn->(∃ b off,x.hA i=some ⟨b,off,none⟩)\/(z=false/\x.hA i=none/\x.hL i=0/\x.hC i=0)
theorem qi9 (n:Nat) (hn:n<=1048576):∃ cs:Array Value,cs.size=n*4/\∀ w:World,(Instr.makeSlice 32 (.int .i64 0) (.int .i64 (n:Int))).run Tryz.prog w=.ok (.slice (some ⟨w.heap.size,0,none⟩) 0 n) (w.alloc (.cells cs 133)):=by
 obtain ⟨i,z,hi,hz,hs,hb,hzs⟩:=kndS.inf
 refine ⟨madeCells z.cells (n*4),size_madeCells _ _,fun w=>?_⟩
 have hby:i.bytes*n<=281474976710656:=by
  rw [hb]
  omega
 have hby':(i.bytes:Int)*(n:Int)<=281474976710656:=by rw [<- Int.natCast_mul];exact Int.ofNat_le.2 hby
 have h:=run_make (P:=Tryz.prog) w 32 133 i z kndS.und hi hz .i64 .i64 0 (n:Int) (by omega) (by omega) hby' (by omega)
 rw [hs,Int.toNat_natCast] at h
 exact h
theorem LS.made (w:World) (cs:Array Value) (n:Nat) (hn:n<=1048576) (hc:cs.size=n*4) (P:Nat->Prop) (hP:P w.heap.size) (vs:Nat->Value) (S:Nat->S4) {N:Nat} (hN:N=w.heap.size):LS (w.alloc (.cells cs 133)) P (.slice (some ⟨N,0,none⟩) 0 n) 0 vs S:=by
 subst hN
 exact ⟨World.ownsRow_made (base:=0) (e:=133) (size:=4) w cs n (Nat.zero_le _) (by unfold maxLen;omega) hc,fun i hi=>(by omega),fun k hk=>(by cases hk;exact hP),fun i hi=>(by omega),fun i hi=>(by omega),fun i j hi=>(by omega)⟩
theorem OwnS.four {B m1 m2 m3 m4:Nat} {w1 w2 w3 w4 wf:World} {y:Sy} {vp vs vw vh:Value} {up us uw uh:Nat->Value} (h1:m1<=w1.heap.size) (h2:w1.heap.size<=m2) (h3:w2.heap.size<=m3) (h4:w3.heap.size<=m4) (hB:B<=m1)
  (o1:LS w1 (fun k=>m1<=k/\k<w1.heap.size) vs y.sn us y.sS) (o2:LI z w2 (fun k=>m2<=k/\k<w2.heap.size) vp y.pn up y.pL y.pH) (o3:LT z w3 (fun k=>m3<=k/\k<w3.heap.size) vw y.wn uw y.wL y.wH) (o4:LE z w4 (fun k=>m4<=k/\k<w4.heap.size) vh y.hn uh y.hL y.hH)
  (b2:Below w1.heap.size w1 w2) (b3:Below w2.heap.size w2 w3) (b4:Below w3.heap.size w3 w4) (hf:∀ k,m1<=k->k<w4.heap.size->wf.heap[k]? = w4.heap[k]?):
  ∃ c,OwnS z wf B c y vp vs vw vh up us uw uh:=by
 have z2:=b2.size
 have z3:=b3.size
 have z4:=b4.size
 refine ⟨fun k=>if k<w1.heap.size then 2 else if k<w2.heap.size then 1 else if k<w3.heap.size then 3 else 4,?_,?_,?_,?_⟩
 ·refine (o2.keep (w':=wf) fun k hk hl=>(hf k (by omega) (by omega)).trans ((b4.block k (by omega)).trans (b3.block k hl))).mono fun k hk _=>⟨by omega,?_⟩
  show (if k<w1.heap.size then 2 else if k<w2.heap.size then 1 else if k<w3.heap.size then 3 else 4)=1
  rw [if_neg (by omega),if_pos (by omega)]
 ·refine (o1.keep (w':=wf) fun k hk hl=>(hf k (by omega) (by omega)).trans ((b4.block k (by omega)).trans ((b3.block k (by omega)).trans (b2.block k hl)))).mono fun k hk _=>⟨by omega,?_⟩
  show (if k<w1.heap.size then 2 else if k<w2.heap.size then 1 else if k<w3.heap.size then 3 else 4)=2
  rw [if_pos (by omega)]
 ·refine (o3.keep (w':=wf) fun k hk hl=>(hf k (by omega) (by omega)).trans (b4.block k hl)).mono fun k hk _=>⟨by omega,?_⟩
  show (if k<w1.heap.size then 2 else if k<w2.heap.size then 1 else if k<w3.heap.size then 3 else 4)=3
  rw [if_neg (by omega),if_neg (by omega),if_pos (by omega)]
 ·refine (o4.keep (w':=wf) fun k hk hl=>hf k (by omega) hl).mono fun k hk _=>⟨by omega,?_⟩
  show (if k<w1.heap.size then 2 else if k<w2.heap.size then 1 else if k<w3.heap.size then 3 else 4)=4
  rw [if_neg (by omega),if_neg (by omega),if_neg (by omega)]
theorem qo6 (x:SysIn) (w:World) (hG:SysG w x) (hL:x.Len) (hN:x.Nn z):
  Calls Tryz.prog 77 #[x.v] w fun e w'=>∃ v,e=.returned v/\qag z w' w.heap.size x.y v/\Below w.heap.size w w':=by
 have HG:Hid (SysG w x):=hG
 have HL:Hid x.Len:=hL
 have hsn':(x.sn:Int)<=1048576:=by have:=hL.s.1;omega
 obtain ⟨cs,hcs,hmk⟩:=qi9 x.sn hL.s.1
 have HCS:Hid (cs.size=x.sn*4):=hcs
 have BW:Hid (Below w.heap.size w ((w.alloc (oQ4 x.pa x.pn x.pc x.sa x.sn x.sc x.wa x.wn x.wc x.ha x.hn x.hc)).alloc (zQ2))):=(zQ _ _).trans ((zQ _ _).mono (by simp))
 have NB:Hid (BoxC ((w.alloc (oQ4 x.pa x.pn x.pc x.sa x.sn x.sc x.wa x.wn x.wc x.ha x.hn x.hc)).alloc (zQ2)) w.heap.size (.slice x.pa x.pn x.pc) (.slice x.sa x.sn x.sc) (.slice x.wa x.wn x.wc) (.slice x.ha x.hn x.hc)):=(BoxC.new w _ _ _ _ _).below (zQ _ _)
 have RB:Hid (BoxC ((w.alloc (oQ4 x.pa x.pn x.pc x.sa x.sn x.sc x.wa x.wn x.wc x.ha x.hn x.hc)).alloc (zQ2)) (w.heap.size+1) (.slice none 0 0) (.slice none 0 0) (.slice none 0 0) (.slice none 0 0)/\∀ j,((w.alloc (oQ4 x.pa x.pn x.pc x.sa x.sn x.sc x.wa x.wn x.wc x.ha x.hn x.hc)).alloc (zQ2)).frozen? ⟨w.heap.size+1,j,none⟩=false):=⟨⟨zW _ _ _ 0 (by simp),zW _ _ _ 1 (by simp),zW _ _ _ 2 (by simp),zW _ _ _ 3 (by simp)⟩,fun j=>yD _ _ _ _ (by simp)⟩
 have hz:((w.alloc (oQ4 x.pa x.pn x.pc x.sa x.sn x.sc x.wa x.wn x.wc x.ha x.hn x.hc)).alloc (zQ2)).heap.size=w.heap.size+2:=by simp
 have hl0:w.heap.size<((w.alloc (oQ4 x.pa x.pn x.pc x.sa x.sn x.sc x.wa x.wn x.wc x.ha x.hn x.hc)).alloc (zQ2)).heap.size:=by omega
 have hl1:w.heap.size+1<((w.alloc (oQ4 x.pa x.pn x.pc x.sa x.sn x.sc x.wa x.wn x.wc x.ha x.hn x.hc)).alloc (zQ2)).heap.size:=by omega
 have Hp : Hid (∀ wx, Below ((w.alloc (oQ4 x.pa x.pn x.pc x.sa x.sn x.sc x.wa x.wn x.wc x.ha x.hn x.hc)).alloc (zQ2)).heap.size ((w.alloc (oQ4 x.pa x.pn x.pc x.sa x.sn x.sc x.wa x.wn x.wc x.ha x.hn x.hc)).alloc (zQ2)) wx → (RowS wx x.pa x.pn fun i => .slice (x.pA i) (x.pL i) (x.pC i)) ∧ ∀ i, i < x.pn → ∃ b off, x.pA i = some ⟨b, off, none⟩ ∧ Src wx (x.pA i) (fI (x.pH i) (x.pL i))) := fun wx hb => ⟨(HG.out.below (BW.out.trans (hb.mono BW.out.size))).p, fun i hi => by
  obtain ⟨b,e,hlt,hI⟩:=(HG.out.below (BW.out.trans (hb.mono BW.out.size))).pi i hi
  exact ⟨b,0,e,by rw [e];exact srcI hlt hI⟩⟩
 have Hw : Hid (∀ wx, Below ((w.alloc (oQ4 x.pa x.pn x.pc x.sa x.sn x.sc x.wa x.wn x.wc x.ha x.hn x.hc)).alloc (zQ2)).heap.size ((w.alloc (oQ4 x.pa x.pn x.pc x.sa x.sn x.sc x.wa x.wn x.wc x.ha x.hn x.hc)).alloc (zQ2)) wx → (RowS wx x.wa x.wn fun i => .slice (x.wA i) (x.wL i) (x.wC i)) ∧ ∀ i, i < x.wn → (∃ b off, x.wA i = some ⟨b, off, none⟩ ∧ Src wx (x.wA i) (fT (x.wH i) (x.wL i))) ∨ (z = false ∧ x.wA i = none ∧ x.wL i = 0 ∧ x.wC i = 0)) := fun wx hb => ⟨(HG.out.below (BW.out.trans (hb.mono BW.out.size))).w, fun i hi => by
  rcases hN.w i hi with ⟨b,off,e⟩ | h
  ·exact .inl ⟨b,off,e,srcT ((HG.out.below (BW.out.trans (hb.mono BW.out.size))).wi i hi)⟩
  ·exact .inr h⟩
 have Hh : Hid (∀ wx, Below ((w.alloc (oQ4 x.pa x.pn x.pc x.sa x.sn x.sc x.wa x.wn x.wc x.ha x.hn x.hc)).alloc (zQ2)).heap.size ((w.alloc (oQ4 x.pa x.pn x.pc x.sa x.sn x.sc x.wa x.wn x.wc x.ha x.hn x.hc)).alloc (zQ2)) wx → (RowS wx x.ha x.hn fun i => .slice (x.hA i) (x.hL i) (x.hC i)) ∧ ∀ i, i < x.hn → (∃ b off, x.hA i = some ⟨b, off, none⟩ ∧ Src wx (x.hA i) (fE (x.hH i) (x.hL i))) ∨ (z = false ∧ x.hA i = none ∧ x.hL i = 0 ∧ x.hC i = 0)) := fun wx hb => ⟨(HG.out.below (BW.out.trans (hb.mono BW.out.size))).h, fun i hi => by
  rcases hN.h i hi with ⟨b,off,e⟩ | h
  ·exact .inl ⟨b,off,e,srcE ((HG.out.below (BW.out.trans (hb.mono BW.out.size))).hi i hi)⟩
  ·exact .inr h⟩
 have HZ2:Hid (((w.alloc (oQ4 x.pa x.pn x.pc x.sa x.sn x.sc x.wa x.wn x.wc x.ha x.hn x.hc)).alloc (zQ2)).heap.size=w.heap.size+1+1):=hz
 clear hG hL hcs hz
 go_enter Tryz.func77,Tryz.ntmps77
 go_wp2_with fail
 clear hmk
 generalize hW2:(w.alloc (oQ4 x.pa x.pn x.pc x.sa x.sn x.sc x.wa x.wn x.wc x.ha x.hn x.hc)).alloc (zQ2)=W2 at *
 clear hW2
 go_loopw [3,13] (fun v i wr=>∃ k:Nat,k<=x.sn/\i=.int .i64 k/\Hid ((∃ us,LS wr (fun b=>W2.heap.size<=b/\b<wr.heap.size) v k us x.sS)/\Below W2.heap.size W2 wr)) (fun _ i _=>x.sn - (intOf i).toNat)
 case atStart=>exact ⟨0,Nat.zero_le _,rfl,⟨fun _=>.slice none 0 0,LS.made W2 cs x.sn HL.out.s.1 HCS.out (fun b=>W2.heap.size<=b/\b<(W2.alloc (.cells cs 133)).heap.size) ⟨Nat.le_refl _,by simp⟩ _ _ HZ2.out.symm⟩,zQ _ _⟩
 case round=>
  obtain ⟨k,hk,rfl,HZ⟩:=hrel
  by_cases hlt:k<x.sn
  ·have hlt':(k:Int)<(x.sn:Int):=by omega
   obtain ⟨⟨us,oz⟩,bz⟩:=HZ.out
   obtain ⟨bs,os,es,s0,s1,s2,s3⟩:=(HG.out.below (BW.out.trans (bz.mono BW.out.size))).s.at hlt
   have hls:=(HG.out.below (BW.out.trans (bz.mono BW.out.size))).s.lst k hlt
   have hbs:bs<wr.heap.size:=zJ wr _ s0
   have HLk:=HL.out.s.2 k hlt
   rw [es]
   have OZ:Hid (LS wr (fun b=>W2.heap.size<=b/\b<wr.heap.size) u3 k us x.sS):=oz
   have BZ:Hid (Below W2.heap.size W2 wr):=bz
   have LSt:Hid (Sl wr (x.sQ k).ra (x.sQ k).rs/\Sl wr (x.sQ k).oa (x.sQ k).os):=hls
   clear oz bz hls HZ es
   go_wp2_with fail
   have ba:=zQ wr (oQ1 (x.sQ k).p (x.sQ k).ra (x.sQ k).rs.length (x.sQ k).rc (x.sQ k).oa (x.sQ k).os.length (x.sQ k).oc (x.sQ k).c)
   refine (qfz _ _ _ _ _ _ (x.sQ k).rs (x.sQ k).os _ HLk.1 HLk.2 (LSt.out.1.below ba) (LSt.out.2.below ba)).mono ?_
   rintro e w1 ⟨v1,rfl,o1,d1⟩
   obtain ⟨ra1,rc1,oa1,oc1,rfl,-,-⟩:=o1.read
   have q1:Below wr.heap.size wr w1:=ba.trans (d1.mono ba.size)
   have F1:Hid (qaf w1 wr.heap.size (stV (x.sQ k).p ra1 (x.sQ k).rs.length rc1 oa1 (x.sQ k).os.length oc1 (x.sQ k).c) (x.sQ k).p (x.sQ k).rs (x.sQ k).os (x.sQ k).c/\Below wr.heap.size wr w1):=⟨o1.mono (by simp),q1⟩
   clear o1 d1 q1 ba s0 s1 s2 s3
   go_wp2_with (at_builtin;refine qaq kndS w1 rfl rfl _ _ rfl 0 u3 k _ rfl (OZ.out.below F1.out.2).row #[.int .i64 (x.sQ k).p,.slice ra1 (x.sQ k).rs.length rc1,.slice oa1 (x.sQ k).os.length oc1,.int .i64 (x.sQ k).c] rfl rfl (by intro u hu;simp at hu;rcases hu with rfl | rfl | rfl | rfl <;> rfl) (by omega) (Nat.zero_le _) ?_;intro v5 w5 o5 g5 q5 n5;have F5:Hid ((∃ us,LS w5 (fun b=>W2.heap.size<=b/\b<w5.heap.size) v5 (k+1) us x.sS)/\Below W2.heap.size W2 w5):=⟨⟨_,OZ.out.push F1.out.2 F1.out.1 o5 g5 q5 (fun j hj _=>⟨hj.1,zL hj.2 (zP F1.out.2.size g5.size)⟩) (fun j hj hj'=>⟨zP BZ.out.size hj,hj'⟩)⟩,Below.grown (BZ.out.trans (F1.out.2.mono BZ.out.size)) g5 (zP BZ.out.size F1.out.2.size) (fun j hj=>(OZ.out.rb j hj).1)⟩;clear o5 g5 q5 n5)
   go_roundw
   case rel=>exact ⟨k+1,by omega,by go_num,F5.out.1,F5.out.2⟩
   case measure=>simp [intOf];omega
  ·have hkn:k=x.sn:=by omega
   subst hkn
   obtain ⟨⟨us,oz⟩,q0⟩:=HZ.out
   obtain ⟨sa,sc,rfl⟩:=zU oz.row
   have b0:=NB.out.below q0
   clear HZ
   go_wp2_with fail
   refine qa7 (fun w'=>w'.cell? ⟨w.heap.size,0,none⟩=some (.slice x.pa x.pn x.pc)/\w'.cell? ⟨w.heap.size,2,none⟩=some (.slice x.wa x.wn x.wc)/\w'.cell? ⟨w.heap.size,3,none⟩=some (.slice x.ha x.hn x.hc)) (fun i=>i == 11) (by kernel_rfl) ?_
   have hHeld:(fun w'=>w'.cell? ⟨w.heap.size,0,none⟩=some (.slice x.pa x.pn x.pc)/\w'.cell? ⟨w.heap.size,2,none⟩=some (.slice x.wa x.wn x.wc)/\w'.cell? ⟨w.heap.size,3,none⟩=some (.slice x.ha x.hn x.hc)) wr.drew:=⟨b0.1,b0.2.2.1,b0.2.2.2⟩
   have q0:Below W2.heap.size W2 wr.drew:=q0.drew
   refine qbr [0,1,3,4,5,7,8] ?_
   iterate 7 (refine qa3 rfl hHeld ?_;apply Exists.intro;refine ⟨fun wq hSw=>?_,?_⟩;(· ((try dsimp only at hSw);go_simp;try with_reducible rfl));(try simp only [Act.put,zD,zE,zF]))
   refine qbe ?_
   refine qao 2 rfl (by kernel_rfl) (fun K hK=>?_)
   refine qat rfl 99 _ _ rfl #[.slice x.pa x.pn x.pc] (by simp [Act.eval]) (yB Tryz.func99 (by kernel_rfl) rfl) (qd2 (z:=z) x.pa x.pn x.pc x.pA x.pL x.pC x.pH wr.drew HL.out.p.1 HL.out.p.2 (Hp.out _ q0).1 (Hp.out _ q0).2) ?_
   rintro e w1 ⟨v1,u1,rfl,o1,d1⟩
   obtain ⟨a1,c1,rfl⟩:=zU o1.row
   refine ⟨_,rfl,?_⟩
   have q1:Below W2.heap.size W2 w1:=q0.trans (d1.mono q0.size)
   have b1:=NB.out.below q1
   refine hK.out _ _ (fun _=>⟨b1.1,b1.2.2.1,b1.2.2.2⟩) ?_
   clear hHeld
   have hHeld:(fun w'=>w'.cell? ⟨w.heap.size,0,none⟩=some (.slice x.pa x.pn x.pc)/\w'.cell? ⟨w.heap.size,2,none⟩=some (.slice x.wa x.wn x.wc)/\w'.cell? ⟨w.heap.size,3,none⟩=some (.slice x.ha x.hn x.hc)) w1:=⟨b1.1,b1.2.2.1,b1.2.2.2⟩
   clear hK K
   (try simp only [Act.put,zD,zE,zF])
   refine qao 6 rfl (by kernel_rfl) (fun K hK=>?_)
   refine qat rfl 135 _ _ rfl #[.slice x.wa x.wn x.wc] (by simp [Act.eval]) (yB Tryz.func135 (by kernel_rfl) rfl) (qgr (z:=z) x.wa x.wn x.wc x.wA x.wL x.wC x.wH w1 HL.out.w.1 HL.out.w.2 (Hw.out _ q1).1 (Hw.out _ q1).2) ?_
   rintro e w2 ⟨v2,u2,rfl,o2,d2⟩
   obtain ⟨a2,c2,rfl⟩:=zU o2.row
   refine ⟨_,rfl,?_⟩
   have q2:Below W2.heap.size W2 w2:=q1.trans (d2.mono q1.size)
   have b2:=NB.out.below q2
   refine hK.out _ _ (fun _=>⟨b2.1,b2.2.2.1,b2.2.2.2⟩) ?_
   clear hHeld
   have hHeld:(fun w'=>w'.cell? ⟨w.heap.size,0,none⟩=some (.slice x.pa x.pn x.pc)/\w'.cell? ⟨w.heap.size,2,none⟩=some (.slice x.wa x.wn x.wc)/\w'.cell? ⟨w.heap.size,3,none⟩=some (.slice x.ha x.hn x.hc)) w2:=⟨b2.1,b2.2.2.1,b2.2.2.2⟩
   clear hK K
   (try simp only [Act.put,zD,zE,zF])
   refine qao 9 rfl (by kernel_rfl) (fun K hK=>?_)
   refine qat rfl 136 _ _ rfl #[.slice x.ha x.hn x.hc] (by simp [Act.eval]) (yB Tryz.func136 (by kernel_rfl) rfl) (qfy (z:=z) x.ha x.hn x.hc x.hA x.hL x.hC x.hH w2 HL.out.h.1 HL.out.h.2 (Hh.out _ q2).1 (Hh.out _ q2).2) ?_
   rintro e w3 ⟨v3,u3,rfl,o3,d3⟩
   obtain ⟨a3,c3,rfl⟩:=zU o3.row
   refine ⟨_,rfl,?_⟩
   have q3:Below W2.heap.size W2 w3:=q2.trans (d3.mono q2.size)
   have b3:=NB.out.below q3
   refine hK.out _ _ (fun _=>⟨b3.1,b3.2.2.1,b3.2.2.2⟩) ?_
   clear hHeld
   have hHeld:(fun w'=>w'.cell? ⟨w.heap.size,0,none⟩=some (.slice x.pa x.pn x.pc)/\w'.cell? ⟨w.heap.size,2,none⟩=some (.slice x.wa x.wn x.wc)/\w'.cell? ⟨w.heap.size,3,none⟩=some (.slice x.ha x.hn x.hc)) w3:=⟨b3.1,b3.2.2.1,b3.2.2.2⟩
   clear hK K
   (try simp only [Act.put,zD,zE,zF])
   refine qan 10 rfl hHeld ?_
   apply Exists.intro
   refine ⟨fun wq hSw=>?_,?_⟩
   ·(try dsimp only at hSw)
    go_simp
    try with_reducible rfl
   (try simp only [Act.put,zD,zE,zF])
   obtain ⟨r0,r1,r2,r3⟩:=RB.out.1.below q3
   have rf:∀ j,w3.frozen? ⟨w.heap.size+1,j,none⟩=false:=fun j=>((qam q3).2 _ j hl1).trans (RB.out.2 j)
   refine qao 11 rfl (by kernel_rfl) (fun K hK=>?_)
   go_simp
   refine hK.out _ _ (fun h=>?_) ?_
   ·exact absurd h (by decide)
   clear hK K
   (try simp only [Act.put])
   refine qbf (by kernel_rfl) ?_ _
   go_wp2
   refine bodyPost_ret (v:=sysV a1 x.pn c1 sa x.sn sc a2 x.wn c2 a3 x.hn c3) (by simp [results,Tryz.results77,go_sem,r0,r1,r2,r3]) rfl ⟨_,rfl,?_,?_⟩
   ·obtain ⟨cc,hcc⟩:=OwnS.four (B:=w.heap.size) (m1:=W2.heap.size) (wf:=(((w3.setCell ⟨w.heap.size+1,0,none⟩ (.slice a1 x.pn c1)).setCell ⟨w.heap.size+1,1,none⟩ (.slice sa x.sn sc)).setCell ⟨w.heap.size+1,2,none⟩ (.slice a2 x.wn c2)).setCell ⟨w.heap.size+1,3,none⟩ (.slice a3 x.hn c3)) (y:=x.y) (by have:W2.heap.size<=wr.heap.size:=q0.size;omega) (by simp) (Nat.le_refl _) (Nat.le_refl _) (by omega) oz o1 o2 o3 ((Below.refl wr.heap.size wr).drew.trans d1) d2 d3 (fun k h1 h2=>by repeat (rw [zO _ _ _ _ (show k≠w.heap.size+1 by omega)]))
    exact ⟨cc,_,_,_,_,_,_,_,_,rfl,hcc⟩
   ·have h9:=BW.out.trans (q3.mono BW.out.size)
    exact (((h9.setCell (show w.heap.size<=w.heap.size+1 by omega) _).setCell (show w.heap.size<=w.heap.size+1 by omega) _).setCell (show w.heap.size<=w.heap.size+1 by omega) _).setCell (show w.heap.size<=w.heap.size+1 by omega) _
theorem qag.base {z:Bool} {w:World} {B B':Nat} {y:Sy} {v:Value} (o:qag z w B y v) (h:B'<=B):qag z w B' y v:=by
 obtain ⟨c,vp,vs,vw,vh,up,us,uw,uh,e,o⟩:=o
 exact ⟨c,vp,vs,vw,vh,up,us,uw,uh,e,o.p.mono fun _ q _=>⟨zP h q.1,q.2⟩,o.s.mono fun _ q _=>⟨zP h q.1,q.2⟩,o.t.mono fun _ q _=>⟨zP h q.1,q.2⟩,o.h.mono fun _ q _=>⟨zP h q.1,q.2⟩⟩
theorem qag.setBelow {z:Bool} {w:World} {B:Nat} {y:Sy} {v:Value} (o:qag z w B y v) {N:Nat} (h:N<B) (j:Nat) (u:Value):qag z (w.setCell ⟨N,j,none⟩ u) B y v:=by
 obtain ⟨c,vp,vs,vw,vh,up,us,uw,uh,e,o⟩:=o
 have hk:∀ i k,Cl B c i k->k<w.heap.size->(w.setCell ⟨N,j,none⟩ u).heap[k]? = w.heap[k]?:=fun i k q _=>zO _ _ _ _ fun e=>by
  have e:k=N:=e
  have:=q.1
  omega
 exact ⟨c,vp,vs,vw,vh,up,us,uw,uh,e,o.p.keep (hk 1),o.s.keep (hk 2),o.t.keep (hk 3),o.h.keep (hk 4)⟩
theorem qag.zero {z:Bool} (w:World) (B:Nat) (y:Sy):qag z w B { y with pn:=0,sn:=0,wn:=0,hn:=0 } (sysV none 0 0 none 0 0 none 0 0 none 0 0):=
 ⟨fun _=>0,_,_,_,_,fun _=>.slice none 0 0,fun _=>.slice none 0 0,fun _=>.slice none 0 0,fun _=>.slice none 0 0,rfl,LL.nil _ _ _ _ _ _ _ _,LS.nil _ _ _ _,LL.nil _ _ _ _ _ _ _ _,LL.nil _ _ _ _ _ _ _ _⟩
theorem qag.form {z:Bool} {w:World} {B:Nat} {y:Sy} {v:Value} (o:qag z w B y v):∃ pa pc sa sc wa wc ha hc,v=sysV pa y.pn pc sa y.sn sc wa y.wn wc ha y.hn hc:=by
 obtain ⟨c,vp,vs,vw,vh,up,us,uw,uh,rfl,o⟩:=o
 obtain ⟨pa,pc,rfl⟩:=zU o.p.row
 obtain ⟨sa,sc,rfl⟩:=zU o.s.row
 obtain ⟨wa,wc,rfl⟩:=zU o.t.row
 obtain ⟨ha,hc,rfl⟩:=zU o.h.row
 exact ⟨pa,pc,sa,sc,wa,wc,ha,hc,rfl⟩
variable {z:Bool}
def adOf:Value->Option Addr
 | .slice a _ _=>a
 | _=>none
def cpOf:Value->Nat
 | .slice _ _ c=>c
 | _=>0
def fdOf (v:Value) (i:Nat):Value:=(cellsL v).getD i (.slice none 0 0)
def Sy.sysIn (y:Sy) (vp vs vw vh:Value) (up us uw uh:Nat->Value):SysIn:=
 ⟨adOf vp, y.pn, cpOf vp, fun i => adOf (up i), y.pL, fun i => cpOf (up i), y.pH,
  adOf vs,y.sn,cpOf vs,fun i=>⟨(y.sS i).p,adOf (fdOf (us i) 1),cpOf (fdOf (us i) 1),(y.sS i).rs,adOf (fdOf (us i) 2),cpOf (fdOf (us i) 2),(y.sS i).os,(y.sS i).c⟩,
  adOf vw,y.wn,cpOf vw,fun i=>adOf (uw i),y.wL,fun i=>cpOf (uw i),y.wH,
  adOf vh,y.hn,cpOf vh,fun i=>adOf (uh i),y.hL,fun i=>cpOf (uh i),y.hH⟩
theorem qpy {e:TypeId} {sz:Nat} {E:TypeId} {w:World} {P:Nat->Prop} {v:Value} {n:Nat} {u:Nat->Value} {L:Nat->Nat} {c:Nat->List Value} (o:LL z e sz E w P v n u L c):RowS w (adOf v) n fun i=>.slice (adOf (u i)) (L i) (cpOf (u i)):=by
 rcases Nat.eq_zero_or_pos n with h | h
 ·exact .inl h
 ·obtain ⟨g,cap,rfl,-,hg,-,-⟩:=o.cell h
  refine .inr ⟨g,0,rfl,hg,fun i hi=>?_⟩
  obtain ⟨g',cap',ew,-,-,hc,-⟩:=o.cell hi
  simp only [Value.slice.injEq,Option.some.injEq,Addr.mk.injEq,and_true,true_and] at ew
  obtain ⟨rfl,rfl⟩:=ew
  obtain ⟨a,c',eu⟩:=zU (o.own i hi)
  show w.cell? ⟨g,0+i,none⟩=some (.slice (adOf (u i)) (L i) (cpOf (u i)))
  rw [Nat.zero_add,hc,eu]
  rfl
theorem sl_v {w:World} {B:Nat} {e:TypeId} {sz n:Nat} {v:Value} {xs:List Value} (o:w.ownsRow B e sz v n xs):v=.slice (adOf v) n (cpOf v):=by
 obtain ⟨a,c,rfl⟩:=zU o
 rfl
theorem OwnS.v {w:World} {B:Nat} {c:Nat->Nat} {y:Sy} {vp vs vw vh:Value} {up us uw uh:Nat->Value} (o:OwnS z w B c y vp vs vw vh up us uw uh):(y.sysIn vp vs vw vh up us uw uh).v=.agg #[vp,vs,vw,vh]:=by
 have e1:=sl_v o.p.row
 have e2:=sl_v o.s.row
 have e3:=sl_v o.t.row
 have e4:=sl_v o.h.row
 conv=>rhs;rw [e1,e2,e3,e4]
 rfl
theorem qxh {w:World} {B sz n:Nat} {e:TypeId} {u:Value} {xs:List Value} (o:w.ownsRow B e sz u n xs):n=0\/u≠.slice none 0 0:=by
 rcases o.2 with ⟨_,h⟩ | ⟨b,cap,cur,rfl,_⟩
 ·exact .inl h
 ·exact .inr (fun e=>by cases e)
theorem qx6 {w:World} {B n:Nat} {u:Value} {g:Nat->I2} (o:w.ownsRow B 138 2 u n (fT g n)):ItL w (adOf u) n g:=by
 rcases qxh o with h | h
 ·exact .inl h
 ·obtain ⟨b,cap,eu,hb,hI,-⟩:=atT o h
  exact .inr ⟨b,0,by rw [eu];rfl,hb,hI⟩
theorem qx3 {w:World} {B n:Nat} {u:Value} {g:Nat->E3} (o:w.ownsRow B 74 3 u n (fE g n)):EvL w (adOf u) n g:=by
 rcases qxh o with h | h
 ·exact .inl h
 ·obtain ⟨b,cap,eu,hb,hI,-⟩:=atE o h
  exact .inr ⟨b,0,by rw [eu];rfl,hb,hI⟩
theorem OwnS.g {w:World} {B:Nat} {c:Nat->Nat} {y:Sy} {vp vs vw vh:Value} {up us uw uh:Nat->Value} (o:OwnS z w B c y vp vs vw vh up us uw uh):SysG w (y.sysIn vp vs vw vh up us uw uh):=by
 refine ⟨qpy o.p,fun i hi=>?_,?_,qpy o.t,fun i hi=>?_,qpy o.h,fun i hi=>?_⟩
 ·obtain ⟨b,cap,eu,hb,hI,-⟩:=atI (o.p.own i hi) (o.p.nn nzI i hi)
  exact ⟨b,by show adOf (up i)=_;rw [eu];rfl,hb,hI⟩
 ·refine ⟨?_,fun i hi=>?_⟩
  ·rcases Nat.eq_zero_or_pos y.sn with h | h
   ·exact .inl h
   ·obtain ⟨g,cap,rfl,-,hg,-,-⟩:=o.s.cell h
    refine .inr ⟨g,0,rfl,hg,fun i hi=>?_⟩
    obtain ⟨g',cap',ew,-,-,hc,-⟩:=o.s.cell hi
    simp only [Value.slice.injEq,Option.some.injEq,Addr.mk.injEq,and_true,true_and] at ew
    obtain ⟨rfl,rfl⟩:=ew
    obtain ⟨ra,rc,oa,oc,eu,h0,h1,h2,h3⟩:=hc
    show w.cell? ⟨g,0+i*4,none⟩=some (.int .i64 (y.sS i).p)/\w.cell? ⟨g,0+i*4+1,none⟩=some (.slice (adOf (fdOf (us i) 1)) (y.sS i).rs.length (cpOf (fdOf (us i) 1)))/\w.cell? ⟨g,0+i*4+2,none⟩=some (.slice (adOf (fdOf (us i) 2)) (y.sS i).os.length (cpOf (fdOf (us i) 2)))/\w.cell? ⟨g,0+i*4+3,none⟩=some (.int .i64 (y.sS i).c)
    rw [Nat.zero_add,eu]
    exact ⟨h0,h1,h2,h3⟩
  ·obtain ⟨g,cap,-,-,-,⟨ra,rc,oa,oc,eu,-⟩,-⟩:=o.s.cell hi
   have h4:=o.s.own i hi
   rw [eu] at h4
   show Sl w (adOf (fdOf (us i) 1)) (y.sS i).rs/\Sl w (adOf (fdOf (us i) 2)) (y.sS i).os
   rw [eu]
   exact ⟨h4.parts.1.slOf,h4.parts.2.1.slOf⟩
 ·exact qx6 (o.t.own i hi)
 ·exact qx3 (o.h.own i hi)
