import Derived.Test.YtegogmbfhddeoabGreatDoorVk14
import Derived.Test.YtegogmbfhddeoabGreatDoorTie
import Derived.ChangeSame
import Derived.ChangeVars
import Derived.JoinedOf
import Derived.RowKit
import Derived.RowKitTokens
import Derived.LaidLaws
import Derived.LaidHandle
import Derived.Stop.Joined
namespace Go.Proofs.YtegogmbfhddeoabGreatDoor
set_option maxRecDepth 100000
set_option maxHeartbeats 1000000
open Go.RowKit
def ItL (w:World) (a:Option Addr) (len:Nat) (h:Nat->I2):Prop:=len=0\/∃ b off,a=some ⟨b,off,none⟩/\b<w.heap.size/\ItAt w b off len h
theorem ItL.below {w w':World} {a:Option Addr} {len:Nat} {h:Nat->I2} (hh:ItL w a len h) (hb:Below w.heap.size w w'):ItL w' a len h:=by
 rcases hh with e | ⟨b,off,e,hlt,hc⟩
 ·exact .inl e
 ·exact .inr ⟨b,off,e,zL hlt hb.size,hc.below hb hlt⟩
theorem ItL.at {w:World} {a:Option Addr} {len:Nat} {h:Nat->I2} (hh:ItL w a len h) {k:Nat} (hk:k<len):∃ b off,a=some ⟨b,off,none⟩/\b<w.heap.size/\w.cell? ⟨b,off+k*2,none⟩=some (.bool (h k).m)/\w.cell? ⟨b,off+k*2+1,none⟩=some (.int .i64 (h k).v):=by
 rcases hh with rfl | ⟨b,off,e,hlt,hc⟩
 ·omega
 ·exact ⟨b,off,e,hlt,hc k hk⟩
open Go.ChangeShapes Go.WideShapes Go.ChangeAt Go.Deep
def cI (h:I5):List Value:=[.int .i64 h.o,.int .i64 h.r,.int .i64 h.a,.int .i64 h.b,.int .i64 h.n]
def cT (h:I2):List Value:=[.bool h.m,.int .i64 h.v]
def cE (h:E3):List Value:=[.int .i64 h.k,.int .i64 h.q,.int .i64 h.v]
def fI (h:Nat->I5) (n:Nat):List Value:=flat (fun i=>cI (h i)) n
def fT (h:Nat->I2) (n:Nat):List Value:=flat (fun i=>cT (h i)) n
def fE (h:Nat->E3) (n:Nat):List Value:=flat (fun i=>cE (h i)) n
theorem qqk (h:Nat->I5) (n:Nat):(fI h n).length=n*5:=qcx fun _ _=>rfl
theorem qig (h:Nat->I2) (n:Nat):(fT h n).length=n*2:=qcx fun _ _=>rfl
theorem qnz (h:Nat->E3) (n:Nat):(fE h n).length=n*3:=qcx fun _ _=>rfl
theorem qub (h:Nat->I5) (n:Nat):∀ u ∈ fI h n,u.oneCell'=true:=qgy fun i _ u hu=>by
 simp [cI] at hu
 rcases hu with rfl | rfl | rfl | rfl | rfl <;> rfl
theorem qk1 (h:Nat->I2) (n:Nat):∀ u ∈ fT h n,u.oneCell'=true:=qgy fun i _ u hu=>by
 simp [cT] at hu
 rcases hu with rfl | rfl <;> rfl
theorem qqi (h:Nat->E3) (n:Nat):∀ u ∈ fE h n,u.oneCell'=true:=qgy fun i _ u hu=>by
 simp [cE] at hu
 rcases hu with rfl | rfl | rfl <;> rfl
theorem kndI:Kind 48 97 5 40:=by
 refine ⟨Tryz.underlying48,?_,by omega,by omega⟩;have hinfo:(Tryz.prog.info? 97).map (fun i=>(i.zero,i.size,i.bytes))=some (some (.agg #[.int .i64 0,.int .i64 0,.int .i64 0,.int .i64 0,.int .i64 0]),5,40):=by kernel_rfl
 cases hi:Tryz.prog.info? 97 with
 | none=>rw [hi] at hinfo;cases hinfo
 | some i=>
  rw [hi] at hinfo;simp only [Option.map_some,Option.some.injEq,Prod.mk.injEq] at hinfo;exact ⟨i,_,rfl,hinfo.1,hinfo.2.1,hinfo.2.2,rfl⟩
theorem kndT:Kind 84 100 2 16:=by
 refine ⟨Tryz.underlying84,?_,by omega,by omega⟩;have hinfo:(Tryz.prog.info? 100).map (fun i=>(i.zero,i.size,i.bytes))=some (some (.agg #[.bool false,.int .i64 0]),2,16):=by kernel_rfl
 cases hi:Tryz.prog.info? 100 with
 | none=>rw [hi] at hinfo;cases hinfo
 | some i=>
  rw [hi] at hinfo;simp only [Option.map_some,Option.some.injEq,Prod.mk.injEq] at hinfo;exact ⟨i,_,rfl,hinfo.1,hinfo.2.1,hinfo.2.2,rfl⟩
theorem kndE:Kind 38 78 3 24:=by
 refine ⟨Tryz.underlying38,?_,by omega,by omega⟩;have hinfo:(Tryz.prog.info? 78).map (fun i=>(i.zero,i.size,i.bytes))=some (some (.agg #[.int .i64 0,.int .i64 0,.int .i64 0]),3,24):=by kernel_rfl
 cases hi:Tryz.prog.info? 78 with
 | none=>rw [hi] at hinfo;cases hinfo
 | some i=>
  rw [hi] at hinfo;simp only [Option.map_some,Option.some.injEq,Prod.mk.injEq] at hinfo;exact ⟨i,_,rfl,hinfo.1,hinfo.2.1,hinfo.2.2,rfl⟩
theorem kndS:Kind 25 51 4 64:=by
 refine ⟨Tryz.underlying25,?_,by omega,by omega⟩;have hinfo:=quz;cases hi:Tryz.prog.info? 51 with
 | none=>rw [hi] at hinfo;cases hinfo
 | some i=>
  rw [hi] at hinfo;simp only [Option.map_some,Option.some.injEq,Prod.mk.injEq] at hinfo;exact ⟨i,_,rfl,hinfo.1,hinfo.2.1,hinfo.2.2,rfl⟩
theorem qs0:Kind 24 48 1 24:=by
 refine ⟨Tryz.underlying24,?_,by omega,by omega⟩;have hinfo:(Tryz.prog.info? 48).map (fun i=>(i.zero,i.size,i.bytes))=some (some (.slice none 0 0),1,24):=by kernel_rfl
 cases hi:Tryz.prog.info? 48 with
 | none=>rw [hi] at hinfo;cases hinfo
 | some i=>
  rw [hi] at hinfo;simp only [Option.map_some,Option.some.injEq,Prod.mk.injEq] at hinfo;exact ⟨i,_,rfl,hinfo.1,hinfo.2.1,hinfo.2.2,rfl⟩
theorem qpc:Kind 26 84 1 24:=by
 refine ⟨Tryz.underlying26,?_,by omega,by omega⟩;have hinfo:(Tryz.prog.info? 84).map (fun i=>(i.zero,i.size,i.bytes))=some (some (.slice none 0 0),1,24):=by kernel_rfl
 cases hi:Tryz.prog.info? 84 with
 | none=>rw [hi] at hinfo;cases hinfo
 | some i=>
  rw [hi] at hinfo;simp only [Option.map_some,Option.some.injEq,Prod.mk.injEq] at hinfo;exact ⟨i,_,rfl,hinfo.1,hinfo.2.1,hinfo.2.2,rfl⟩
theorem qla:Kind 27 38 1 24:=by
 refine ⟨Tryz.underlying27,?_,by omega,by omega⟩;have hinfo:(Tryz.prog.info? 38).map (fun i=>(i.zero,i.size,i.bytes))=some (some (.slice none 0 0),1,24):=by kernel_rfl
 cases hi:Tryz.prog.info? 38 with
 | none=>rw [hi] at hinfo;cases hinfo
 | some i=>
  rw [hi] at hinfo;simp only [Option.map_some,Option.some.injEq,Prod.mk.injEq] at hinfo;exact ⟨i,_,rfl,hinfo.1,hinfo.2.1,hinfo.2.2,rfl⟩
theorem qr2 {w:World} {b off sz n:Nat} {f:Nat->List Value} (hb:b<w.heap.size) (hsz:0<sz) (hl:∀ i,i<n->(f i).length=sz) (hc:∀ i,i<n->∀ j,j<sz->w.cell? ⟨b,off+(i*sz+j),none⟩=(f i)[j]?):Src w (some ⟨b,off,none⟩) (flat f n):=by
 refine .inr ⟨b,off,rfl,hb,fun q u hq=>?_⟩;have hlen:=qcx hl
 have hq':q<n*sz:=by
  rcases Nat.lt_or_ge q (n*sz) with h | h
  ·exact h
  ·rw [List.getElem?_eq_none (by omega)] at hq
   cases hq
 have hk:q / sz<n:=Nat.div_lt_of_lt_mul (by rw [Nat.mul_comm];exact hq');have hr:q % sz<sz:=Nat.mod_lt _ hsz;have e:q / sz*sz+q % sz=q:=by rw [Nat.mul_comm];exact Nat.div_add_mod q sz
 have h1:=hc (q / sz) hk (q % sz) hr;have h2:=qdi hl hk hr;rw [e] at h1 h2;rw [h1,<- h2,hq]
theorem srcI {w:World} {b off len:Nat} {g:Nat->I5} (hb:b<w.heap.size) (h:qam w b off len g):Src w (some ⟨b,off,none⟩) (fI g len):=qr2 (sz:=5) hb (by omega) (fun _ _=>rfl) fun i hi j hj=>by
 obtain ⟨h0,h1,h2,h3,h4⟩:=h i hi
 match j,hj with
 | 0,_=>exact h0
 | 1,_=>exact h1
 | 2,_=>exact h2
 | 3,_=>exact h3
 | 4,_=>exact h4
theorem srcT {w:World} {a:Option Addr} {len:Nat} {g:Nat->I2} (h:ItL w a len g):Src w a (fT g len):=by
 rcases h with rfl | ⟨b,off,rfl,hb,h⟩
 ·exact .inl rfl
 ·refine qr2 (sz:=2) hb (by omega) (fun _ _=>rfl) fun i hi j hj=>?_
  obtain ⟨h0,h1⟩:=h i hi
  match j,hj with
  | 0,_=>exact h0
  | 1,_=>exact h1
theorem srcE {w:World} {a:Option Addr} {len:Nat} {g:Nat->E3} (h:EvL w a len g):Src w a (fE g len):=by
 rcases h with rfl | ⟨b,off,rfl,hb,h⟩
 ·exact .inl rfl
 ·refine qr2 (sz:=3) hb (by omega) (fun _ _=>rfl) fun i hi j hj=>?_
  obtain ⟨h0,h1,h2⟩:=h i hi
  match j,hj with
  | 0,_=>exact h0
  | 1,_=>exact h1
  | 2,_=>exact h2
theorem atI {w:World} {B:Nat} {u:Value} {n:Nat} {g:Nat->I5} (o:w.ownsRow B 97 5 u n (fI g n)) (hne:u≠.slice none 0 0):∃ b cap,u=.slice (some ⟨b,0,none⟩) n cap/\b<w.heap.size/\qam w b 0 n g/\n<=cap:=by
 rcases o.2 with ⟨e,_⟩ | ⟨b,cap,cur,rfl,hb,hg,hcap,_⟩
 ·exact absurd e hne
 ·refine ⟨b,cap,rfl,(o.lt b rfl).2,fun i hi=>?_,hcap⟩
  have hc:∀ j,j<5->w.cell? ⟨b,0+(i*5+j),none⟩=(cI (g i))[j]?:=fun j hj=>by
   rw [Nat.zero_add,o.cellAt _ (by omega)];exact qdi (sz:=5) (fun _ _=>rfl) hi hj
  exact ⟨hc 0 (by omega),hc 1 (by omega),hc 2 (by omega),hc 3 (by omega),hc 4 (by omega)⟩
theorem atT {w:World} {B:Nat} {u:Value} {n:Nat} {g:Nat->I2} (o:w.ownsRow B 100 2 u n (fT g n)) (hne:u≠.slice none 0 0):∃ b cap,u=.slice (some ⟨b,0,none⟩) n cap/\b<w.heap.size/\ItAt w b 0 n g/\n<=cap:=by
 rcases o.2 with ⟨e,_⟩ | ⟨b,cap,cur,rfl,hb,hg,hcap,_⟩
 ·exact absurd e hne
 ·refine ⟨b,cap,rfl,(o.lt b rfl).2,fun i hi=>?_,hcap⟩
  have hc:∀ j,j<2->w.cell? ⟨b,0+(i*2+j),none⟩=(cT (g i))[j]?:=fun j hj=>by
   rw [Nat.zero_add,o.cellAt _ (by omega)];exact qdi (sz:=2) (fun _ _=>rfl) hi hj
  exact ⟨hc 0 (by omega),hc 1 (by omega)⟩
theorem atE {w:World} {B:Nat} {u:Value} {n:Nat} {g:Nat->E3} (o:w.ownsRow B 78 3 u n (fE g n)) (hne:u≠.slice none 0 0):∃ b cap,u=.slice (some ⟨b,0,none⟩) n cap/\b<w.heap.size/\EvAt w b 0 n g/\n<=cap:=by
 rcases o.2 with ⟨e,_⟩ | ⟨b,cap,cur,rfl,hb,hg,hcap,_⟩
 ·exact absurd e hne
 ·refine ⟨b,cap,rfl,(o.lt b rfl).2,fun i hi=>?_,hcap⟩
  have hc:∀ j,j<3->w.cell? ⟨b,0+(i*3+j),none⟩=(cE (g i))[j]?:=fun j hj=>by
   rw [Nat.zero_add,o.cellAt _ (by omega)];exact qdi (sz:=3) (fun _ _=>rfl) hi hj
  exact ⟨hc 0 (by omega),hc 1 (by omega),hc 2 (by omega)⟩
def Cl (B:Nat) (c:Nat->Nat) (i:Nat):Nat->Prop:=fun k=>B<=k/\c k=i
abbrev LI (z:Bool) (w:World) (P:Nat->Prop) (v:Value) (n:Nat) (u:Nat->Value) (L:Nat->Nat) (H:Nat->Nat->I5):Prop:=LL z 97 5 48 w P v n u L fun i=>fI (H i) (L i)
abbrev LT (z:Bool) (w:World) (P:Nat->Prop) (v:Value) (n:Nat) (u:Nat->Value) (L:Nat->Nat) (H:Nat->Nat->I2):Prop:=LL z 100 2 84 w P v n u L fun i=>fT (H i) (L i)
abbrev LE (z:Bool) (w:World) (P:Nat->Prop) (v:Value) (n:Nat) (u:Nat->Value) (L:Nat->Nat) (H:Nat->Nat->E3):Prop:=LL z 78 3 38 w P v n u L fun i=>fE (H i) (L i)
def numL (h:Nat->I2):Nat->List Int
 | 0=>[]
 | n+1=>if (h n).m=true then numL h n else numL h n ++ [(h n).v]
theorem qf3 (h:Nat->I2):∀ n,(numL h n).length<=n
 | 0=>Nat.le_refl _
 | n+1=>by
  unfold numL;have:=qf3 h n
  split
  ·omega
  ·simp;omega
theorem qfh {h:Nat->I2} {n:Nat} (hh:(h n).m=false):numL h (n+1)=numL h n ++ [(h n).v]:=by
 rw [numL,if_neg (by rw [hh];decide)]
theorem qof {h:Nat->I2} {n:Nat} (hh:(h n).m=true):numL h (n+1)=numL h n:=by
 rw [numL,if_pos hh]
theorem zU {w:World} {B:Nat} {e:TypeId} {sz:Nat} {v:Value} {n:Nat} {xs:List Value} (h:w.ownsRow B e sz v n xs):∃ a c,v=.slice a n c:=by
 rcases h.2 with ⟨rfl,rfl⟩ | ⟨g,cap,cur,rfl,_⟩
 ·exact ⟨none,0,rfl⟩
 ·exact ⟨_,_,rfl⟩
theorem qhi (a0:Option Addr) (n cap:Nat) (A:Nat->Option Addr) (L C:Nat->Nat) (H:Nat->Nat->I5) (w:World) (hn:n<=1048576) (hL:∀ i,i<n->L i<=1048576) (hr:RowS w a0 n fun i=>.slice (A i) (L i) (C i)) (hI:∀ i,i<n->Src w (A i) (fI (H i) (L i))):
  Calls Tryz.prog 155 #[.slice a0 n cap] w fun e w'=>∃ v u,e=.returned v/\LI true w' (fun k=>w.heap.size<=k/\k<w'.heap.size) v n u L H/\Below w.heap.size w w':=by
 have hn':(n:Int)<=1048576:=by omega
 have HR:Hid (RowS w a0 n fun i=>.slice (A i) (L i) (C i)):=hr;have HI:Hid (∀ i,i<n->Src w (A i) (fI (H i) (L i))):=hI;have HL:Hid (∀ i,i<n->L i<=1048576):=hL;clear hr hI hL
 go_enter Tryz.func155,Tryz.ntmps155
 go_wp2_with fail
 go_loopw [3,4] (fun v i wr=>∃ k:Nat,k<=n/\i=.int .i64 k/\Hid ((∃ u,LI true wr (fun b=>w.heap.size<=b/\b<wr.heap.size) v k u L H)/\Below w.heap.size w wr)) (fun _ i _=>n - (intOf i).toNat)
 case atStart=>exact ⟨0,Nat.zero_le _,rfl,⟨fun _=>.slice none 0 0,LL.new _ _ _ w _ (by simp) _ _ _⟩,zQ _ _⟩
 case round=>
  obtain ⟨k,hk,rfl,HZ⟩:=hrel;by_cases hlt:k<n
  ·have hlt':(k:Int)<(n:Int):=by omega
   obtain ⟨b,off,rfl,ck⟩:=(HR.out.below HZ.2).at hlt;have hbl:b<wr.heap.size:=zJ wr _ ck;have HS:Hid (Src wr (A k) (fI (H k) (L k))):=(HI.out k hlt).below HZ.2;have HLk:Hid (L k<=1048576):=HL.out k hlt;have hk2:Hid (k<=2000000):=by show k<=2000000;omega
   obtain ⟨⟨u,oz⟩,bz⟩:=HZ.out;have OZ:Hid (LI true wr (fun b=>w.heap.size<=b/\b<wr.heap.size) u3 k u L H):=oz;have BZ:Hid (Below w.heap.size w wr):=bz;clear oz bz HZ
   go_wp2_with (first
    | (at_builtin;refine qbo kndI wr rfl rfl _ _ rfl (A k) (L k) (C k) (fI (H k) (L k)) rfl rfl (qqk _ _) HS.out (qub _ _) (zP HLk.out (by omega)) ?_;intro v4 w4 o4 b4 n4;obtain ⟨a4,c4,rfl⟩:=zU o4;have F4:Hid (w4.ownsRow wr.heap.size 97 5 (.slice a4 (L k) c4) (L k) (fI (H k) (L k))/\Below wr.heap.size wr w4/\Value.slice a4 (L k) c4≠.slice none 0 0):=⟨o4,b4,n4⟩;clear o4 b4 n4)
    | (at_builtin;refine qas qs0 w4 rfl rfl _ _ rfl 0 u3 k _ rfl (OZ.out.below F4.2.1).row #[.slice a4 (L k) c4] rfl rfl (by intro u hu;simp at hu;subst hu;rfl) hk2.out (Nat.zero_le _) ?_;intro v5 w5 o5 g5 q5 n5;have F5:Hid (LI true w5 (fun b=>w.heap.size<=b/\b<w5.heap.size) v5 (k+1) (fun j=>if j=k then .slice a4 (L k) c4 else u j) L H/\Below w.heap.size w w5):=⟨OZ.out.push F4.2.1 F4.1 (fun _=>F4.2.2) o5 g5 q5 (fun j hj _=>⟨hj.1,zL hj.2 (zP F4.2.1.size g5.size)⟩) (fun j hj hj'=>⟨zP BZ.out.size hj,hj'⟩),Below.grown (BZ.out.trans (F4.2.1.mono BZ.out.size)) g5 (zP BZ.out.size F4.2.1.size) (fun j hj=>(OZ.out.rb j hj).1)⟩;clear o5 g5 q5 n5))
   go_roundw
   case rel=>exact ⟨k+1,by omega,by go_num,⟨_,F5.1⟩,F5.2⟩
   case measure=>simp [intOf];omega
  ·have hkn:k=n:=by omega
   subst hkn;go_wp2;go_ret;obtain ⟨⟨u,oz⟩,bz⟩:=HZ.out;exact ⟨_,u,rfl,oz,bz⟩
theorem qdv (a0:Option Addr) (n cap:Nat) (A:Nat->Option Addr) (L C:Nat->Nat) (H:Nat->Nat->E3) (w:World) (hn:n<=1048576) (hL:∀ i,i<n->L i<=1048576) (hr:RowS w a0 n fun i=>.slice (A i) (L i) (C i)) (hI:∀ i,i<n->Src w (A i) (fE (H i) (L i))):
  Calls Tryz.prog 157 #[.slice a0 n cap] w fun e w'=>∃ v u,e=.returned v/\LE true w' (fun k=>w.heap.size<=k/\k<w'.heap.size) v n u L H/\Below w.heap.size w w':=by
 have hn':(n:Int)<=1048576:=by omega
 have HR:Hid (RowS w a0 n fun i=>.slice (A i) (L i) (C i)):=hr;have HI:Hid (∀ i,i<n->Src w (A i) (fE (H i) (L i))):=hI;have HL:Hid (∀ i,i<n->L i<=1048576):=hL;clear hr hI hL
 go_enter Tryz.func157,Tryz.ntmps157
 go_wp2_with fail
 go_loopw [3,4] (fun v i wr=>∃ k:Nat,k<=n/\i=.int .i64 k/\Hid ((∃ u,LE true wr (fun b=>w.heap.size<=b/\b<wr.heap.size) v k u L H)/\Below w.heap.size w wr)) (fun _ i _=>n - (intOf i).toNat)
 case atStart=>exact ⟨0,Nat.zero_le _,rfl,⟨fun _=>.slice none 0 0,LL.new _ _ _ w _ (by simp) _ _ _⟩,zQ _ _⟩
 case round=>
  obtain ⟨k,hk,rfl,HZ⟩:=hrel;by_cases hlt:k<n
  ·have hlt':(k:Int)<(n:Int):=by omega
   obtain ⟨b,off,rfl,ck⟩:=(HR.out.below HZ.2).at hlt;have hbl:b<wr.heap.size:=zJ wr _ ck;have HS:Hid (Src wr (A k) (fE (H k) (L k))):=(HI.out k hlt).below HZ.2;have HLk:Hid (L k<=1048576):=HL.out k hlt;have hk2:Hid (k<=2000000):=by show k<=2000000;omega
   obtain ⟨⟨u,oz⟩,bz⟩:=HZ.out;have OZ:Hid (LE true wr (fun b=>w.heap.size<=b/\b<wr.heap.size) u3 k u L H):=oz;have BZ:Hid (Below w.heap.size w wr):=bz;clear oz bz HZ
   go_wp2_with (first
    | (at_builtin;refine qbo kndE wr rfl rfl _ _ rfl (A k) (L k) (C k) (fE (H k) (L k)) rfl rfl (qnz _ _) HS.out (qqi _ _) (zP HLk.out (by omega)) ?_;intro v4 w4 o4 b4 n4;obtain ⟨a4,c4,rfl⟩:=zU o4;have F4:Hid (w4.ownsRow wr.heap.size 78 3 (.slice a4 (L k) c4) (L k) (fE (H k) (L k))/\Below wr.heap.size wr w4/\Value.slice a4 (L k) c4≠.slice none 0 0):=⟨o4,b4,n4⟩;clear o4 b4 n4)
    | (at_builtin;refine qas qla w4 rfl rfl _ _ rfl 0 u3 k _ rfl (OZ.out.below F4.2.1).row #[.slice a4 (L k) c4] rfl rfl (by intro u hu;simp at hu;subst hu;rfl) hk2.out (Nat.zero_le _) ?_;intro v5 w5 o5 g5 q5 n5;have F5:Hid (LE true w5 (fun b=>w.heap.size<=b/\b<w5.heap.size) v5 (k+1) (fun j=>if j=k then .slice a4 (L k) c4 else u j) L H/\Below w.heap.size w w5):=⟨OZ.out.push F4.2.1 F4.1 (fun _=>F4.2.2) o5 g5 q5 (fun j hj _=>⟨hj.1,zL hj.2 (zP F4.2.1.size g5.size)⟩) (fun j hj hj'=>⟨zP BZ.out.size hj,hj'⟩),Below.grown (BZ.out.trans (F4.2.1.mono BZ.out.size)) g5 (zP BZ.out.size F4.2.1.size) (fun j hj=>(OZ.out.rb j hj).1)⟩;clear o5 g5 q5 n5))
   go_roundw
   case rel=>exact ⟨k+1,by omega,by go_num,⟨_,F5.1⟩,F5.2⟩
   case measure=>simp [intOf];omega
  ·have hkn:k=n:=by omega
   subst hkn;go_wp2;go_ret;obtain ⟨⟨u,oz⟩,bz⟩:=HZ.out;exact ⟨_,u,rfl,oz,bz⟩
theorem qcm {ops:Array Oper} {o:Oper} {a:Act} {K:Act->World->Prop} {Q:Exit->Act->World->Prop} {E:Prop} {t e:TypeId} {size bytes:Nat} (KK:Kind t e size bytes) (w:World) (hg:o.guard=none) (s x:Operand)
  (ho:o.op=.call { callee:=.builtin .append,args:=#[s,x],argTypes:=#[t,t] })
  (B:Nat) (v:Value) (n:Nat) (xs:List Value) (hs:a.eval s=v) (hown:w.ownsRow B e size v n xs) (a0:Option Addr) (m c:Nat) (news:List Value) (hx:a.eval x=.slice a0 m c) (hl:news.length=m*size) (hsrc:Src w a0 news) (h1:∀ u ∈ news,u.oneCell'=true) (hnm:n+m<=4000000) (hB:B<=w.heap.size)
  (h:∀ v' w',w'.ownsRow B e size v' (n+m) (xs ++ news)->w.grownBy w' v.ownBlock->(v'.ownBlock=v.ownBlock\/v'.ownBlock=some w.heap.size)->(v≠.slice none 0 0\/0<m->v'≠.slice none 0 0)->K (a.put o.dst v') w'):
  if Region.wanted o (yielded ops a.tmps)=true then Oper.wp Tryz.prog o a w K Q else E:=by
 obtain ⟨v',w',r1,r2,r3,r4,r5⟩:=qeo KK w o.type B v n xs hown a0 m c news hl hsrc h1 hnm hB;have hw:Region.wanted o (yielded ops a.tmps)=true:=by simp [Region.wanted,hg]
 rw [if_pos hw];unfold Oper.wp execOp;simp only [ho,resolve,invoke,builtin,Sem.run_bind,Sem.run_pure,Result.andThen_ok,List.map_toArray,List.map_cons,List.map_nil,hs,hx,r1];exact h v' w' r2 r3 r4 r5
theorem qci {ops:Array Oper} {o:Oper} {a:Act} {K:Act->World->Prop} {Q:Exit->Act->World->Prop} {E:Prop} {t e:TypeId} {size bytes:Nat} (KK:Kind t e size bytes) (w:World) {N:Nat} (hN:N=w.heap.size) (hg:o.guard=none) (s x:Operand)
  (ho:o.op=.call { callee:=.builtin .append,args:=#[s,x],argTypes:=#[t,t] })
  (a0:Option Addr) (m c:Nat) (news:List Value) (hs:a.eval s=.slice (some ⟨N,0,none⟩) 0 0) (hx:a.eval x=.slice a0 m c) (hl:news.length=m*size) (hsrc:Src w a0 news) (h1:∀ u ∈ news,u.oneCell'=true) (hnm:m<=4000000)
  (h:∀ v' w',w'.ownsRow w.heap.size e size v' m news->Below w.heap.size w w'->v'≠.slice none 0 0->K (a.put o.dst v') w'):
  if Region.wanted o (yielded ops a.tmps)=true then Oper.wp Tryz.prog o a (w.alloc (.cells #[] e)) K Q else E:=by
 subst hN;have hb:Below w.heap.size w (w.alloc (.cells #[] e)):=zQ _ _;refine qcm KK _ hg s x ho w.heap.size (.slice (some ⟨w.heap.size,0,none⟩) 0 0) 0 [] hs (World.ownsRow_made (base:=w.heap.size) (e:=e) (size:=size) w #[] 0 (Nat.le_refl _) (by unfold maxLen;omega) (by simp)) a0 m c news hx hl (hsrc.below hb) h1 (by omega) (by simp) ?_;intro v' w' o g _ hne;rw [Nat.zero_add,List.nil_append] at o;exact h v' w' o (hb.grown g (by simp) (fun k hk=>by cases hk;exact Nat.le_refl _)) (hne (.inl (by simp)))
theorem qa5 {ops:Array Oper} {o:Oper} {a:Act} {K:Act->World->Prop} {Q:Exit->Act->World->Prop} {E:Prop} {t e:TypeId} {size bytes:Nat} (KK:Kind t e size bytes) (w:World) {N:Nat} (hN:N=w.heap.size) (hg:o.guard=none) (s x:Operand)
  (ho:o.op=.call { callee:=.builtin .append,args:=#[s,x],argTypes:=#[t,t] })
  (B:Nat) (v:Value) (n:Nat) (xs:List Value) (hs:a.eval s=v) (hown:w.ownsRow B e size v n xs) (cs:Array Value) (hx:a.eval x=.slice (some ⟨N,0,none⟩) 1 1) (hl:cs.size=size) (h1:∀ u ∈ cs.toList,u.oneCell'=true) (hn:n<=2000000) (hB:B<=w.heap.size)
  (h:∀ v' w',w'.ownsRow B e size v' (n+1) (xs ++ cs.toList)->w.grownBy w' v.ownBlock->(∀ j,v'.ownBlock=some j->v.ownBlock=some j\/w.heap.size<=j)->v'≠.slice none 0 0->K (a.put o.dst v') w'):
  if Region.wanted o (yielded ops a.tmps)=true then Oper.wp Tryz.prog o a (w.alloc (.cells cs e)) K Q else E:=by
 subst hN;have hb:Below w.heap.size w (w.alloc (.cells cs e)):=zQ _ _;refine qcm KK _ hg s x ho B v n xs hs (hown.alloc _) (some ⟨w.heap.size,0,none⟩) 1 1 cs.toList hx (by simp [hl]) (.inr ⟨w.heap.size,0,rfl,by simp,fun j u hj=>?_⟩) h1 (by omega) (by simp;omega) ?_
 ·rw [Nat.zero_add,zW _ _ _ j rfl]
  simpa using hj
 ·intro v' w' o g hbk hne
  refine h v' w' o ⟨g.os,g.tape,g.output,zP hb.size g.size,fun j hj hne=>(g.block j (zL hj hb.size) hne).trans (hb.block j hj)⟩ (fun j hj=>?_) (hne (.inr (by omega)))
  rcases hbk with a | a
  ·exact .inl (a.symm.trans hj)
  ·rw [hj] at a
   simp only [Option.some.injEq] at a;right;rw [a];simp
theorem qal {ops:Array Oper} {o:Oper} {a:Act} {w:World} {K:Act->World->Prop} {Q:Exit->Act->World->Prop} {E:Prop} (hg:o.guard=none) (f:FuncId) (args:Array Operand) (ts:Array TypeId)
  (ho:o.op=.call { callee:=.value (.func f),args:=args,argTypes:=ts }) (vals:Array Value) (hv:args.map a.eval=vals) (hen:∀ vs wx,(callFunc f vs).run Tryz.prog wx=.ok (.enter f vs) wx) {post:Ending->World->Prop} (hc:Calls Tryz.prog f vals w post)
  (h:∀ e w',post e w'->∃ v,e=.returned v/\K (a.put o.dst v) w'):
  if Region.wanted o (yielded ops a.tmps)=true then Oper.wp Tryz.prog o a w K Q else E:=by
 have hw:Region.wanted o (yielded ops a.tmps)=true:=by simp [Region.wanted,hg]
 rw [if_pos hw]
 have hr:(execOp a.eval o).run Tryz.prog w=.ok (.enter f vals) w:=by
  unfold execOp;simp [ho,resolve,invoke,hv,hen,Act.eval,Deferred.ofValue]
 unfold Oper.wp;rw [hr,Oper.upon_enter];refine hc.mono fun e w' hp=>?_;obtain ⟨v,rfl,hk⟩:=h e w' hp;exact hk
theorem Tryz.et : Tryz.prog.globalNamed "errors.errorType" = some 0 := by kernel_rfl
theorem Tryz.rt : (Tryz.prog.cutTypes.find? (·.1 == "internal/reflectlite.rtype")).map (·.2) = some 211 := by kernel_rfl
theorem Tryz.oneRow:((List.range 253).filter fun t=>Tryz.prog.rowNamed t [101,114,114,111,114])=[73]:=by kernel_rfl
theorem Tryz.tsize:Tryz.prog.types.size=253:=by kernel_rfl
theorem qh1 {W : World} (h : laidMetH Tryz.prog [("errors.errorType", Rows.laid_errors_errorType)] W) : W.cell? ⟨0, 0, none⟩ = some (.iface 211 (.agg #[.pointer (some ⟨1, 73, none⟩)])) := by
 have h' : laidMet Tryz.prog [] W /\ handlesMet Tryz.prog [("errors.errorType", Rows.laid_errors_errorType)] W := h
 obtain ⟨name,u,ty,e1,e2,e3,e4,e5⟩:=h'.2 _ (List.mem_singleton.2 rfl);have en:name=[101,114,114,111,114]:=(Option.some.inj e1).symm;subst en;obtain rfl:=Option.some.inj (Tryz.rt.symm.trans e2);have hm:ty ∈ (List.range 253).filter fun t=>Tryz.prog.rowNamed t [101,114,114,111,114]:=List.mem_filter.2 ⟨List.mem_range.2 (by rw [<- Tryz.tsize];exact e3),e4⟩;rw [Tryz.oneRow] at hm;obtain rfl:=List.mem_singleton.1 hm;have hh:typeHandle Tryz.prog 73=.pointer (some ⟨1,73,none⟩):=by kernel_rfl
 rw [hh] at e5;simpa using World.var?_cell Tryz.et e5 0
noncomputable def qlb (os:Os):World:=
 let w0:=World.holding Tryz.prog os ⟨#[],#[],[]⟩
 { w0 with heap := w0.heap.modify 0 fun
   | .cells _ t frozen=>.cells #[.iface 211 (.agg #[.pointer (some ⟨1,73,none⟩)])] t frozen
   | o=>o }
theorem qjh (os : Os) (args : Array Value) : laidMetH Tryz.prog [("errors.errorType", Rows.laid_errors_errorType)] ((qlb os).forCall (fun _ _ => 0) ⟨#[], args, []⟩).memory :=
 laidMetH_of_parts (laidMet_nil _ _) (by kernel_rfl)
