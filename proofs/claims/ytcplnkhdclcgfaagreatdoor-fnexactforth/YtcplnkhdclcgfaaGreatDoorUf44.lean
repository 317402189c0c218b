import Derived.Test.YtcplnkhdclcgfaaGreatDoorUf0
import Derived.Test.YtcplnkhdclcgfaaGreatDoorUf42
import Derived.Test.YtcplnkhdclcgfaaGreatDoorUf7
import Derived.Deep.Cut
import Derived.Test.YtcplnkhdclcgfaaGreatDoorUf24
import Derived.Test.YtcplnkhdclcgfaaGreatDoorUf16
import Derived.Test.YtcplnkhdclcgfaaGreatDoorUf34
import Derived.Test.YtcplnkhdclcgfaaGreatDoorUf21
import Derived.Test.YtcplnkhdclcgfaaGreatDoorUf32
import Derived.Test.YtcplnkhdclcgfaaGreatDoorUf22
import Derived.Test.YtcplnkhdclcgfaaGreatDoorUf36
import Derived.Test.YtcplnkhdclcgfaaGreatDoorUf6
import Derived.Test.YtcplnkhdclcgfaaGreatDoorCards
import Derived.SevenTiedAt
namespace Go.Proofs.YtcplnkhdclcgfaaGreatDoor
set_option maxRecDepth 100000
set_option maxHeartbeats 4000000
open Go.RowKit Go.Deep
def Tells (e:Ending) (P:Prop):Prop:=∃ t,e=.returned (.bool t)/\(t=true ↔ P)
theorem Tells.yes {P:Prop} (h:P):Tells (.returned (.bool true)) P:=⟨true,rfl,⟨fun _=>h,fun _=>rfl⟩⟩
theorem Tells.no {P:Prop} (h:¬ P):Tells (.returned (.bool false)) P:=⟨false,rfl,⟨fun e=>(by cases e),fun p=>absurd p h⟩⟩
def inEqB (o r a b n o' r' a' b' n':Int):Bool:=o == o' && (r == r' && (a == a' && (b == b' && n == n')))
theorem inE_iff (a b:I5):inEqB a.o a.r a.a a.b a.n b.o b.r b.a b.b b.n=true ↔ a=b:=by
 cases a
 cases b
 simp [inEqB]
theorem neq_in (o r a b n o' r' a' b' n':Int) (w:World):(binOp .neq 99 (.agg #[.int .i64 o,.int .i64 r,.int .i64 a,.int .i64 b,.int .i64 n]) (.agg #[.int .i64 o',.int .i64 r',.int .i64 a',.int .i64 b',.int .i64 n'])).run Tryz.prog w=.ok (.bool (!inEqB o r a b n o' r' a' b' n')) w:=by
 rw [run_neq_struct,show (10000:Nat)=9998+1+1 from rfl,run_equalIn_agg w (9998+1) 99 _ _ (by kernel_rfl) (by kernel_rfl)]
 simp only [inEqB]
 by_cases h1:o=o' <;> by_cases h2:r=r' <;> by_cases h3:a=a' <;> by_cases h4:b=b' <;> by_cases h5:n=n' <;> simp [go_sem,h1,h2,h3,h4,h5]
theorem begins_any (ea fa:Option Addr) (n m c d:Nat) (g u:Nat->E3) (w:World) (hn:n<=1048576) (hm:m<=1048576) (h0:EvL w ea n g) (h1:EvL w fa m u):
  Calls Tryz.prog 91 #[.slice ea n c,.slice fa m d] w fun e w'=>Tells e (n<=m/\∀ i,i<n->g i=u i)/\Below w.heap.size w w':=by
 have H0:Hid (EvL w ea n g):=h0
 have H1:Hid (EvL w fa m u):=h1
 generalize hPP:(n<=m/\∀ i,i<n->g i=u i)=PP
 have HP:Hid ((n<=m/\∀ i,i<n->g i=u i)=PP):=hPP
 clear hPP
 have hn':(n:Int)<=1048576:=by omega
 have hm':(m:Int)<=1048576:=by omega
 clear h0 h1
 go_enter Tryz.func91,Tryz.ntmps91
 go_wp2_with fail
 go_loopw [5] (fun i wr=>∃ k:Nat,k<=(min n m)/\i=.int .i64 k/\Hid (Below w.heap.size w wr/\∀ i,i<k->g i=u i)) (fun i _=>(min n m) - (intOf i).toNat)
 case atStart=>exact ⟨0,Nat.zero_le _,rfl,Below.refl _ _,fun i hi=>by omega⟩
 case round=>
  obtain ⟨k,hk,rfl,HK⟩:=hrel
  by_cases hlt:k<(min n m)
  ·have hkn:k<n:=by omega
   have hkm:k<m:=by omega
   have hkn':(k:Int)<(n:Int):=by omega
   have hkm':(k:Int)<(m:Int):=by omega
   obtain ⟨b,off,rfl,hbl,ck0,ck1,ck2⟩:=(H0.out.below HK.out.1).at hkn
   obtain ⟨b',off',rfl,hbl',dk0,dk1,dk2⟩:=(H1.out.below HK.out.1).at hkm
   obtain ⟨T,hT⟩:∃ T,evEqB (g k).k (g k).q (g k).v (u k).k (u k).q (u k).v=T:=⟨_,rfl⟩
   have HT:Hid (evEqB (g k).k (g k).q (g k).v (u k).k (u k).q (u k).v=T):=hT
   clear hT
   go_upto_region 4 with fail
   have q0:Below wr.heap.size wr wr.drew:=(Below.refl wr.heap.size wr).drew
   refine wp_region_G (fun w'=>w'.cell? ⟨b,off+k*3,none⟩=some (.int .i64 (g k).k)/\w'.cell? ⟨b,off+k*3+1,none⟩=some (.int .i64 (g k).q)/\w'.cell? ⟨b,off+k*3+2,none⟩=some (.int .i64 (g k).v)/\w'.cell? ⟨b',off'+k*3,none⟩=some (.int .i64 (u k).k)/\w'.cell? ⟨b',off'+k*3+1,none⟩=some (.int .i64 (u k).q)/\w'.cell? ⟨b',off'+k*3+2,none⟩=some (.int .i64 (u k).v)) (fun _=>false) (by kernel_rfl) ?_
   have hHeld:(fun w':World=>w'.cell? ⟨b,off+k*3,none⟩=some (.int .i64 (g k).k)/\w'.cell? ⟨b,off+k*3+1,none⟩=some (.int .i64 (g k).q)/\w'.cell? ⟨b,off+k*3+2,none⟩=some (.int .i64 (g k).v)/\w'.cell? ⟨b',off'+k*3,none⟩=some (.int .i64 (u k).k)/\w'.cell? ⟨b',off'+k*3+1,none⟩=some (.int .i64 (u k).q)/\w'.cell? ⟨b',off'+k*3+2,none⟩=some (.int .i64 (u k).v)) wr.drew:=⟨(q0.cell (p:=⟨b,_,none⟩) hbl).trans ck0,(q0.cell (p:=⟨b,_,none⟩) hbl).trans ck1,(q0.cell (p:=⟨b,_,none⟩) hbl).trans ck2,(q0.cell (p:=⟨b',_,none⟩) hbl').trans dk0,(q0.cell (p:=⟨b',_,none⟩) hbl').trans dk1,(q0.cell (p:=⟨b',_,none⟩) hbl').trans dk2⟩
   refine wpGT_of [0,1,2,3,4,5,6,7] ?_
   iterate 8 (refine wpGT_take rfl hHeld ?_;apply Exists.intro;refine ⟨fun wq hSw=>?_,?_⟩;(· ((try dsimp only at hSw);go_simp;try with_reducible rfl));(try simp only [Act.put,zD,zE,zF]))
   refine wpGT_nil ?_
   have hne:=neq_ev (g k).k (g k).q (g k).v (u k).k (u k).q (u k).v
   rw [HT.out] at hne
   refine wpG_take 8 rfl hHeld ⟨.bool (!T),fun wq _=>?_,?_⟩
   ·go_simp
   (try simp only [Act.put,zD,zE,zF])
   refine wpG_done (by kernel_rfl) ?_ _
   have HK':Hid (Below w.heap.size w wr.drew):=HK.out.1.trans (q0.mono HK.out.1.size)
   clear hHeld hne q0 ck0 ck1 ck2 dk0 dk1 dk2 hbl hbl'
   cases T with
   | false=>
    have HR:Hid (¬ (n<=m/\∀ i,i<n->g i=u i)):=fun e=>by
     have:=(evE_iff _ _).2 (e.2 k hkn)
     rw [HT.out] at this
     cases this
    go_wp2
    go_ret
    exact ⟨Tells.no fun h=>HR.out (HP.out.mpr h),HK'.out⟩
   | true=>
    have HE:Hid (∀ i,i<k+1->g i=u i):=fun i hi=>by
     by_cases e:i=k
     ·subst e
      exact (evE_iff _ _).1 HT.out
     ·exact HK.out.2 i (by omega)
    go_wp2
    go_roundw
    case rel=>exact ⟨k+1,by omega,by go_num,HK'.out,HE.out⟩
    case measure=>simp [intOf];omega
  ·rcases Nat.lt_or_ge m n with hmn | hmn
   ·have h1:((m:Nat):Int)<=(k:Int):=by omega
    have h2:(k:Int)<(n:Int):=by omega
    have h3:¬ ((n:Int)<=(m:Int)):=by omega
    have HR:Hid (¬ (n<=m)/\Below w.heap.size w wr):=⟨by omega,HK.out.1⟩
    clear hlt hk hmn
    go_wp2
    go_ret
    exact ⟨Tells.no fun h=>absurd (HP.out.mpr h).1 HR.out.1,HR.out.2⟩
   ·have h1:(n:Int)<=(k:Int):=by omega
    have h3:(n:Int)<=(m:Int):=by omega
    have HR:Hid ((n<=m/\∀ i,i<n->g i=u i)/\Below w.heap.size w wr):=⟨⟨hmn,fun i hi=>HK.out.2 i (by omega)⟩,HK.out.1⟩
    clear hlt hk hmn
    go_wp2
    go_ret
    exact ⟨Tells.yes (HP.out.mp HR.out.1),HR.out.2⟩
theorem sameProg_any (b b' n m c d:Nat) (g u:Nat->I5) (w:World) (hn:n<=1048576) (hm:m<=1048576) (hb0:b<w.heap.size) (hb1:b'<w.heap.size) (h0:InsAt w b 0 n g) (h1:InsAt w b' 0 m u):
  Calls Tryz.prog 90 #[.slice (some ⟨b,0,none⟩) n c,.slice (some ⟨b',0,none⟩) m d] w fun e w'=>Tells e (n=m/\∀ i,i<n->g i=u i)/\Below w.heap.size w w':=by
 have H0:Hid (InsAt w b 0 n g/\b<w.heap.size):=⟨h0,hb0⟩
 have H1:Hid (InsAt w b' 0 m u/\b'<w.heap.size):=⟨h1,hb1⟩
 generalize hPP:(n=m/\∀ i,i<n->g i=u i)=PP
 have HP:Hid ((n=m/\∀ i,i<n->g i=u i)=PP):=hPP
 clear hPP
 have hn':(n:Int)<=1048576:=by omega
 have hm':(m:Int)<=1048576:=by omega
 clear h0 h1 hb0 hb1
 go_enter Tryz.func90,Tryz.ntmps90
 go_wp2_with fail
 go_loopw [5] (fun i wr=>∃ k:Nat,k<=(min n m)/\i=.int .i64 k/\Hid (Below w.heap.size w wr/\∀ i,i<k->g i=u i)) (fun i _=>(min n m) - (intOf i).toNat)
 case atStart=>exact ⟨0,Nat.zero_le _,rfl,Below.refl _ _,fun i hi=>by omega⟩
 case round=>
  obtain ⟨k,hk,rfl,HK⟩:=hrel
  by_cases hlt:k<(min n m)
  ·have hkn:k<n:=by omega
   have hkm:k<m:=by omega
   have hkn':(k:Int)<(n:Int):=by omega
   have hkm':(k:Int)<(m:Int):=by omega
   obtain ⟨ck0,ck1,ck2,ck3,ck4⟩:=(H0.out.1.below HK.out.1 H0.out.2) k hkn
   obtain ⟨dk0,dk1,dk2,dk3,dk4⟩:=(H1.out.1.below HK.out.1 H1.out.2) k hkm
   rw [Nat.zero_add] at ck0 ck1 ck2 ck3 ck4 dk0 dk1 dk2 dk3 dk4
   have hbl:b<wr.heap.size:=zL H0.out.2 HK.out.1.size
   have hbl':b'<wr.heap.size:=zL H1.out.2 HK.out.1.size
   obtain ⟨T,hT⟩:∃ T,inEqB (g k).o (g k).r (g k).a (g k).b (g k).n (u k).o (u k).r (u k).a (u k).b (u k).n=T:=⟨_,rfl⟩
   have HT:Hid (inEqB (g k).o (g k).r (g k).a (g k).b (g k).n (u k).o (u k).r (u k).a (u k).b (u k).n=T):=hT
   clear hT
   go_upto_region 4 with fail
   have q0:Below wr.heap.size wr wr.drew:=(Below.refl wr.heap.size wr).drew
   refine wp_region_G (fun w'=>w'.cell? ⟨b,k*5,none⟩=some (.int .i64 (g k).o)/\w'.cell? ⟨b,k*5+1,none⟩=some (.int .i64 (g k).r)/\w'.cell? ⟨b,k*5+2,none⟩=some (.int .i64 (g k).a)/\w'.cell? ⟨b,k*5+3,none⟩=some (.int .i64 (g k).b)/\w'.cell? ⟨b,k*5+4,none⟩=some (.int .i64 (g k).n)/\w'.cell? ⟨b',k*5,none⟩=some (.int .i64 (u k).o)/\w'.cell? ⟨b',k*5+1,none⟩=some (.int .i64 (u k).r)/\w'.cell? ⟨b',k*5+2,none⟩=some (.int .i64 (u k).a)/\w'.cell? ⟨b',k*5+3,none⟩=some (.int .i64 (u k).b)/\w'.cell? ⟨b',k*5+4,none⟩=some (.int .i64 (u k).n)) (fun _=>false) (by kernel_rfl) ?_
   have hHeld:(fun w':World=>w'.cell? ⟨b,k*5,none⟩=some (.int .i64 (g k).o)/\w'.cell? ⟨b,k*5+1,none⟩=some (.int .i64 (g k).r)/\w'.cell? ⟨b,k*5+2,none⟩=some (.int .i64 (g k).a)/\w'.cell? ⟨b,k*5+3,none⟩=some (.int .i64 (g k).b)/\w'.cell? ⟨b,k*5+4,none⟩=some (.int .i64 (g k).n)/\w'.cell? ⟨b',k*5,none⟩=some (.int .i64 (u k).o)/\w'.cell? ⟨b',k*5+1,none⟩=some (.int .i64 (u k).r)/\w'.cell? ⟨b',k*5+2,none⟩=some (.int .i64 (u k).a)/\w'.cell? ⟨b',k*5+3,none⟩=some (.int .i64 (u k).b)/\w'.cell? ⟨b',k*5+4,none⟩=some (.int .i64 (u k).n)) wr.drew:=⟨(q0.cell (p:=⟨b,_,none⟩) hbl).trans ck0,(q0.cell (p:=⟨b,_,none⟩) hbl).trans ck1,(q0.cell (p:=⟨b,_,none⟩) hbl).trans ck2,(q0.cell (p:=⟨b,_,none⟩) hbl).trans ck3,(q0.cell (p:=⟨b,_,none⟩) hbl).trans ck4,(q0.cell (p:=⟨b',_,none⟩) hbl').trans dk0,(q0.cell (p:=⟨b',_,none⟩) hbl').trans dk1,(q0.cell (p:=⟨b',_,none⟩) hbl').trans dk2,(q0.cell (p:=⟨b',_,none⟩) hbl').trans dk3,(q0.cell (p:=⟨b',_,none⟩) hbl').trans dk4⟩
   refine wpGT_of [0,1,2,3,4,5,6,7] ?_
   iterate 8 (refine wpGT_take rfl hHeld ?_;apply Exists.intro;refine ⟨fun wq hSw=>?_,?_⟩;(· ((try dsimp only at hSw);go_simp;try with_reducible rfl));(try simp only [Act.put,zD,zE,zF]))
   refine wpGT_nil ?_
   have hne:=neq_in (g k).o (g k).r (g k).a (g k).b (g k).n (u k).o (u k).r (u k).a (u k).b (u k).n
   rw [HT.out] at hne
   refine wpG_take 8 rfl hHeld ⟨.bool (!T),fun wq _=>?_,?_⟩
   ·go_simp
   (try simp only [Act.put,zD,zE,zF])
   refine wpG_done (by kernel_rfl) ?_ _
   have HK':Hid (Below w.heap.size w wr.drew):=HK.out.1.trans (q0.mono HK.out.1.size)
   clear hHeld hne q0 ck0 ck1 ck2 ck3 ck4 dk0 dk1 dk2 dk3 dk4 hbl hbl'
   cases T with
   | false=>
    have HR:Hid (¬ (n=m/\∀ i,i<n->g i=u i)):=fun e=>by
     have:=(inE_iff _ _).2 (e.2 k hkn)
     rw [HT.out] at this
     cases this
    go_wp2
    go_ret
    exact ⟨Tells.no fun h=>HR.out (HP.out.mpr h),HK'.out⟩
   | true=>
    have HE:Hid (∀ i,i<k+1->g i=u i):=fun i hi=>by
     by_cases e:i=k
     ·subst e
      exact (inE_iff _ _).1 HT.out
     ·exact HK.out.2 i (by omega)
    go_wp2
    go_roundw
    case rel=>exact ⟨k+1,by omega,by go_num,HK'.out,HE.out⟩
    case measure=>simp [intOf];omega
  ·rcases Nat.lt_or_ge m n with hmn | hmn
   ·have h1:((m:Nat):Int)<=(k:Int):=by omega
    have h2:(k:Int)<(n:Int):=by omega
    have h3:((n:Int) == (m:Int))=false:=by simp;omega
    have HR:Hid (¬ (n=m)/\Below w.heap.size w wr):=⟨by omega,HK.out.1⟩
    clear hlt hk hmn
    go_wp2
    go_ret
    exact ⟨Tells.no fun h=>absurd (HP.out.mpr h).1 HR.out.1,HR.out.2⟩
   ·have h1:(n:Int)<=(k:Int):=by omega
    by_cases hnm:n=m
    ·have h3:(n:Int)=(m:Int):=by omega
     have HR:Hid ((n=m/\∀ i,i<n->g i=u i)/\Below w.heap.size w wr):=⟨⟨hnm,fun i hi=>HK.out.2 i (by omega)⟩,HK.out.1⟩
     subst hnm
     clear hlt hk hmn h3
     go_wp2
     go_ret
     exact ⟨Tells.yes (HP.out.mp HR.out.1),HR.out.2⟩
    ·have h3:((n:Int) == (m:Int))=false:=by simp;omega
     have HR:Hid (¬ (n=m)/\Below w.heap.size w wr):=⟨hnm,HK.out.1⟩
     clear hlt hk hmn hnm
     go_wp2
     go_ret
     exact ⟨Tells.no fun h=>absurd (HP.out.mpr h).1 HR.out.1,HR.out.2⟩
theorem equalIns_any (b b' n m c d:Nat) (g u:Nat->I5) (w:World) (hn:n<=1048576) (hm:m<=1048576) (hb0:b<w.heap.size) (hb1:b'<w.heap.size) (h0:InsAt w b 0 n g) (h1:InsAt w b' 0 m u):
  Calls Tryz.prog 167 #[.slice (some ⟨b,0,none⟩) n c,.slice (some ⟨b',0,none⟩) m d] w fun e w'=>Tells e (n=m/\∀ i,i<n->g i=u i)/\Below w.heap.size w w':=by
 have H0:Hid (InsAt w b 0 n g/\b<w.heap.size):=⟨h0,hb0⟩
 have H1:Hid (InsAt w b' 0 m u/\b'<w.heap.size):=⟨h1,hb1⟩
 generalize hPP:(n=m/\∀ i,i<n->g i=u i)=PP
 have HP:Hid ((n=m/\∀ i,i<n->g i=u i)=PP):=hPP
 clear hPP
 have hn':(n:Int)<=1048576:=by omega
 have hm':(m:Int)<=1048576:=by omega
 clear h0 h1 hb0 hb1
 by_cases hnm:n=m
 case neg=>
  have hnm':¬ ((n:Int)=(m:Int)):=by omega
  go_enter Tryz.func167,Tryz.ntmps167
  go_wp2
  go_ret
  exact ⟨Tells.no fun h=>absurd (HP.out.mpr h).1 hnm,Below.refl _ _⟩
 subst hnm
 have hmm:min n n=n:=Nat.min_self n
 go_enter Tryz.func167,Tryz.ntmps167
 go_wp2_with fail
 go_loopw [13] (fun i wr=>∃ k:Nat,k<=n/\i=.int .i64 k/\Hid (Below w.heap.size w wr/\∀ i,i<k->g i=u i)) (fun i _=>n - (intOf i).toNat)
 case atStart=>exact ⟨0,Nat.zero_le _,rfl,Below.refl _ _,fun i hi=>by omega⟩
 case round=>
  obtain ⟨k,hk,rfl,HK⟩:=hrel
  by_cases hlt:k<n
  ·have hkn:k<n:=by omega
   have hkm:k<n:=by omega
   have hkn':(k:Int)<(n:Int):=by omega
   have hkm':(k:Int)<(n:Int):=by omega
   obtain ⟨ck0,ck1,ck2,ck3,ck4⟩:=(H0.out.1.below HK.out.1 H0.out.2) k hkn
   obtain ⟨dk0,dk1,dk2,dk3,dk4⟩:=(H1.out.1.below HK.out.1 H1.out.2) k hkm
   rw [Nat.zero_add] at ck0 ck1 ck2 ck3 ck4 dk0 dk1 dk2 dk3 dk4
   have hbl:b<wr.heap.size:=zL H0.out.2 HK.out.1.size
   have hbl':b'<wr.heap.size:=zL H1.out.2 HK.out.1.size
   obtain ⟨T,hT⟩:∃ T,inEqB (g k).o (g k).r (g k).a (g k).b (g k).n (u k).o (u k).r (u k).a (u k).b (u k).n=T:=⟨_,rfl⟩
   have HT:Hid (inEqB (g k).o (g k).r (g k).a (g k).b (g k).n (u k).o (u k).r (u k).a (u k).b (u k).n=T):=hT
   clear hT
   go_upto_region 6 with fail
   have q0:Below wr.heap.size wr wr.drew:=(Below.refl wr.heap.size wr).drew
   refine wp_region_G (fun w'=>w'.cell? ⟨b,k*5,none⟩=some (.int .i64 (g k).o)/\w'.cell? ⟨b,k*5+1,none⟩=some (.int .i64 (g k).r)/\w'.cell? ⟨b,k*5+2,none⟩=some (.int .i64 (g k).a)/\w'.cell? ⟨b,k*5+3,none⟩=some (.int .i64 (g k).b)/\w'.cell? ⟨b,k*5+4,none⟩=some (.int .i64 (g k).n)/\w'.cell? ⟨b',k*5,none⟩=some (.int .i64 (u k).o)/\w'.cell? ⟨b',k*5+1,none⟩=some (.int .i64 (u k).r)/\w'.cell? ⟨b',k*5+2,none⟩=some (.int .i64 (u k).a)/\w'.cell? ⟨b',k*5+3,none⟩=some (.int .i64 (u k).b)/\w'.cell? ⟨b',k*5+4,none⟩=some (.int .i64 (u k).n)) (fun _=>false) (by kernel_rfl) ?_
   have hHeld:(fun w':World=>w'.cell? ⟨b,k*5,none⟩=some (.int .i64 (g k).o)/\w'.cell? ⟨b,k*5+1,none⟩=some (.int .i64 (g k).r)/\w'.cell? ⟨b,k*5+2,none⟩=some (.int .i64 (g k).a)/\w'.cell? ⟨b,k*5+3,none⟩=some (.int .i64 (g k).b)/\w'.cell? ⟨b,k*5+4,none⟩=some (.int .i64 (g k).n)/\w'.cell? ⟨b',k*5,none⟩=some (.int .i64 (u k).o)/\w'.cell? ⟨b',k*5+1,none⟩=some (.int .i64 (u k).r)/\w'.cell? ⟨b',k*5+2,none⟩=some (.int .i64 (u k).a)/\w'.cell? ⟨b',k*5+3,none⟩=some (.int .i64 (u k).b)/\w'.cell? ⟨b',k*5+4,none⟩=some (.int .i64 (u k).n)) wr.drew:=⟨(q0.cell (p:=⟨b,_,none⟩) hbl).trans ck0,(q0.cell (p:=⟨b,_,none⟩) hbl).trans ck1,(q0.cell (p:=⟨b,_,none⟩) hbl).trans ck2,(q0.cell (p:=⟨b,_,none⟩) hbl).trans ck3,(q0.cell (p:=⟨b,_,none⟩) hbl).trans ck4,(q0.cell (p:=⟨b',_,none⟩) hbl').trans dk0,(q0.cell (p:=⟨b',_,none⟩) hbl').trans dk1,(q0.cell (p:=⟨b',_,none⟩) hbl').trans dk2,(q0.cell (p:=⟨b',_,none⟩) hbl').trans dk3,(q0.cell (p:=⟨b',_,none⟩) hbl').trans dk4⟩
   refine wpGT_of [0,1,2,3,4,5,6,7] ?_
   iterate 8 (refine wpGT_take rfl hHeld ?_;apply Exists.intro;refine ⟨fun wq hSw=>?_,?_⟩;(· ((try dsimp only at hSw);go_simp;try with_reducible rfl));(try simp only [Act.put,zD,zE,zF]))
   refine wpGT_nil ?_
   have hne:=neq_in (g k).o (g k).r (g k).a (g k).b (g k).n (u k).o (u k).r (u k).a (u k).b (u k).n
   rw [HT.out] at hne
   refine wpG_take 8 rfl hHeld ⟨.bool (!T),fun wq _=>?_,?_⟩
   ·go_simp
   (try simp only [Act.put,zD,zE,zF])
   refine wpG_done (by kernel_rfl) ?_ _
   have HK':Hid (Below w.heap.size w wr.drew):=HK.out.1.trans (q0.mono HK.out.1.size)
   clear hHeld hne q0 ck0 ck1 ck2 ck3 ck4 dk0 dk1 dk2 dk3 dk4 hbl hbl'
   cases T with
   | false=>
    have HR:Hid (¬ (n=n/\∀ i,i<n->g i=u i)):=fun e=>by
     have:=(inE_iff _ _).2 (e.2 k hkn)
     rw [HT.out] at this
     cases this
    go_wp2
    go_ret
    exact ⟨Tells.no fun h=>HR.out (HP.out.mpr h),HK'.out⟩
   | true=>
    have HE:Hid (∀ i,i<k+1->g i=u i):=fun i hi=>by
     by_cases e:i=k
     ·subst e
      exact (inE_iff _ _).1 HT.out
     ·exact HK.out.2 i (by omega)
    go_wp2
    go_roundw
    case rel=>exact ⟨k+1,by omega,by go_num,HK'.out,HE.out⟩
    case measure=>simp [intOf];omega
  ·have hkn:k=n:=by omega
   subst hkn
   have HR:Hid (Below w.heap.size w wr/\∀ i,i<k->g i=u i):=HK.out
   clear hlt hk hmm
   go_wp2
   go_ret
   exact ⟨Tells.yes (HP.out.mp ⟨trivial,HR.out.2⟩),HR.out.1⟩
def Sy.SameP (y Y:Sy):Prop:=y.pn=Y.pn/\∀ p,p<y.pn->(y.pL p=Y.pL p/\∀ i,i<y.pL p->y.pH p i=Y.pH p i)
theorem equalFunc_any (x y:SysIn) (w:World) (hx:SysG w x) (hy:SysG w y) (hL:x.Len) (hM:y.Len):
  Calls Tryz.prog 166 #[.slice x.pa x.pn x.pc,.slice y.pa y.pn y.pc,.func (.func 167) #[] #[]] w fun e w'=>Tells e (x.y.SameP y.y)/\Below w.heap.size w w':=by
 have HX:Hid (SysG w x):=hx
 have HY:Hid (SysG w y):=hy
 have HLx:Hid (∀ i,i<x.pn->x.pL i<=1048576):=hL.p.2
 have HLy:Hid (∀ i,i<y.pn->y.pL i<=1048576):=hM.p.2
 have hn':(x.pn:Int)<=1048576:=by have:=hL.p.1;omega
 clear hx hy hL hM
 by_cases hnm:x.pn=y.pn
 case neg=>
  have hnm':¬ ((x.pn:Int)=(y.pn:Int)):=by omega
  have HR:Hid (¬ x.y.SameP y.y):=fun h=>absurd h.1 hnm
  go_enter Tryz.func166,Tryz.ntmps166
  go_wp2
  go_ret
  exact ⟨Tells.no HR.out,Below.refl _ _⟩
 have HNM:Hid (x.pn=y.pn):=hnm
 have hnm':(x.pn:Int)=(y.pn:Int):=by omega
 clear hnm
 go_enter Tryz.func166,Tryz.ntmps166
 go_wp2_with fail
 go_loopw [17] (fun i wr=>∃ k:Nat,k<=x.pn/\i=.int .i64 k/\Hid (Below w.heap.size w wr/\∀ p,p<k->(x.pL p=y.pL p/\∀ i,i<x.pL p->x.pH p i=y.pH p i))) (fun i _=>x.pn - (intOf i).toNat)
 case atStart=>exact ⟨0,Nat.zero_le _,rfl,Below.refl _ _,fun i hi=>by omega⟩
 case round=>
  obtain ⟨k,hk,rfl,HK⟩:=hrel
  by_cases hlt:k<x.pn
  ·have hlt':(k:Int)<(x.pn:Int):=by omega
   have hly:k<y.pn:=by have:=HNM.out;omega
   have hly':(k:Int)<(y.pn:Int):=by omega
   obtain ⟨b,o,eb,cb⟩:=(HX.out.below HK.out.1).p.at hlt
   obtain ⟨b',o',eb',cb'⟩:=(HY.out.below HK.out.1).p.at hly
   obtain ⟨c,ec,lc,ic⟩:=(HX.out.below HK.out.1).pi k hlt
   obtain ⟨c',ec',lc',ic'⟩:=(HY.out.below HK.out.1).pi k hly
   rw [ec] at cb
   rw [ec'] at cb'
   rw [eb,eb']
   have HQ:Hid (Calls Tryz.prog 167 #[.slice (some ⟨c,0,none⟩) (x.pL k) (x.pC k),.slice (some ⟨c',0,none⟩) (y.pL k) (y.pC k)] wr fun e w'=>Tells e (x.pL k=y.pL k/\∀ i,i<x.pL k->x.pH k i=y.pH k i)/\Below wr.heap.size wr w'):=equalIns_any c c' (x.pL k) (y.pL k) (x.pC k) (y.pC k) (x.pH k) (y.pH k) wr (HLx.out k hlt) (HLy.out k hly) lc lc' ic ic'
   clear ic ic' lc lc' ec ec' eb eb'
   go_wp2_with (go_at_call 167;refine HQ.out.mono ?_;rintro e w1 ⟨⟨t,rfl,ht⟩,b1⟩;have HT:Hid (t=true ↔ _):=ht;have HB:Hid (Below w.heap.size w w1):=HK.out.1.trans (b1.mono HK.out.1.size);clear ht b1)
   ·have ht:t=false:=by
     cases t with
     | false=>rfl
     | true=>exact absurd (show (!true)=true by assumption) (by decide)
    go_ret
    exact ⟨Tells.no fun h=>by have:=HT.out.2 (h.2 k hlt);rw [ht] at this;exact Bool.noConfusion this,HB.out⟩
   ·have ht:t=true:=by
     cases t with
     | true=>rfl
     | false=>exact absurd (show (!false)=false by assumption) (by decide)
    have HE:Hid (∀ p,p<k+1->(x.pL p=y.pL p/\∀ i,i<x.pL p->x.pH p i=y.pH p i)):=fun p hp=>by
     by_cases e:p=k
     ·subst e
      exact HT.out.1 ht
     ·exact HK.out.2 p (by omega)
    go_roundw
    case rel=>exact ⟨k+1,by omega,by go_num,HB.out,HE.out⟩
    case measure=>simp [intOf];omega
  ·have hkn:k=x.pn:=by omega
   have HR:Hid (x.y.SameP y.y/\Below w.heap.size w wr):=⟨⟨HNM.out,fun p hp=>HK.out.2 p (by rw [hkn];exact hp)⟩,HK.out.1⟩
   have hge:(x.pn:Int)<=(k:Int):=by omega
   clear hkn hlt hk HK
   go_wp2
   go_ret
   exact ⟨Tells.yes HR.out.1,HR.out.2⟩
theorem sameProgs_any (x y:SysIn) (w:World) (hx:SysG w x) (hy:SysG w y) (hL:x.Len) (hM:y.Len):
  Calls Tryz.prog 92 #[x.v,y.v] w fun e w'=>Tells e (x.y.SameP y.y)/\Below w.heap.size w w':=by
 have HQ:Hid (∀ wx,Below w.heap.size w wx->Calls Tryz.prog 166 #[.slice x.pa x.pn x.pc,.slice y.pa y.pn y.pc,.func (.func 167) #[] #[]] wx fun e w'=>Tells e (x.y.SameP y.y)/\Below wx.heap.size wx w'):=fun wx hb=>equalFunc_any x y wx (hx.below hb) (hy.below hb) hL hM
 have BW:Hid (Below w.heap.size w ((w.alloc (oQ5 x.pa x.pn x.pc x.sa x.sn x.sc x.wa x.wn x.wc x.ha x.hn x.hc)).alloc (oQ5 y.pa y.pn y.pc y.sa y.sn y.sc y.wa y.wn y.wc y.ha y.hn y.hc))):=(zT _ _).trans ((zT _ _).mono (by simp))
 clear hx hy hL hM
 go_enter Tryz.func92,Tryz.ntmps92
 go_wp2_with (go_at_call 166;refine (HQ.out _ BW.out).mono ?_;rintro e w1 ⟨⟨t,rfl,ht⟩,b1⟩;have HT:Hid (t=true ↔ _):=ht;have HB:Hid (Below w.heap.size w w1):=BW.out.trans (b1.mono BW.out.size);clear ht b1)
 go_ret
 exact ⟨⟨t,rfl,HT.out⟩,HB.out⟩
open Go.ChangeShapes Go.WideShapes Go.ChangeAt
def Sy.Fo (y Y:Sy):Prop:=(y.okB=true/\Y.okB=true)/\y.pn=Y.pn/\∀ p,p<y.pn->((y.pL p=Y.pL p/\∀ i,i<y.pL p->y.pH p i=Y.pH p i)/\(y.hL p<=Y.hL p/\∀ i,i<y.hL p->y.hH p i=Y.hH p i))
structure F2 (w wr:World) (x X:SysIn):Prop where
 gx:SysG wr x
 gX:SysG wr X
 bx:BoxC wr w.heap.size (.slice x.pa x.pn x.pc) (.slice x.sa x.sn x.sc) (.slice x.wa x.wn x.wc) (.slice x.ha x.hn x.hc)
 bX:BoxC wr (w.heap.size+1) (.slice X.pa X.pn X.pc) (.slice X.sa X.sn X.sc) (.slice X.wa X.wn X.wc) (.slice X.ha X.hn X.hc)
 be:Below w.heap.size w wr
theorem F2.below {w wr w':World} {x X:SysIn} (h:F2 w wr x X) (hb:Below wr.heap.size wr w'):F2 w w' x X:=⟨h.gx.below hb,h.gX.below hb,h.bx.below hb,h.bX.below hb,h.be.trans (hb.mono h.be.size)⟩
theorem F2.new {w:World} {x X:SysIn} (hx:SysG w x) (hX:SysG w X) (t:TypeId):F2 w ((w.alloc (.cells #[.slice x.pa x.pn x.pc,.slice x.sa x.sn x.sc,.slice x.wa x.wn x.wc,.slice x.ha x.hn x.hc] t)).alloc (.cells #[.slice X.pa X.pn X.pc,.slice X.sa X.sn X.sc,.slice X.wa X.wn X.wc,.slice X.ha X.hn X.hc] t)) x X:=by
 have a1:=zT w (.cells #[.slice x.pa x.pn x.pc,.slice x.sa x.sn x.sc,.slice x.wa x.wn x.wc,.slice x.ha x.hn x.hc] t)
 have a2:=zT (w.alloc (.cells #[.slice x.pa x.pn x.pc,.slice x.sa x.sn x.sc,.slice x.wa x.wn x.wc,.slice x.ha x.hn x.hc] t)) (.cells #[.slice X.pa X.pn X.pc,.slice X.sa X.sn X.sc,.slice X.wa X.wn X.wc,.slice X.ha X.hn X.hc] t)
 have e1:(w.alloc (.cells #[.slice x.pa x.pn x.pc,.slice x.sa x.sn x.sc,.slice x.wa x.wn x.wc,.slice x.ha x.hn x.hc] t)).heap.size=w.heap.size+1:=by simp
 have b:=a1.trans (a2.mono (by omega))
 have n2:=BoxC.new (w.alloc (.cells #[.slice x.pa x.pn x.pc,.slice x.sa x.sn x.sc,.slice x.wa x.wn x.wc,.slice x.ha x.hn x.hc] t)) (.slice X.pa X.pn X.pc) (.slice X.sa X.sn X.sc) (.slice X.wa X.wn X.wc) (.slice X.ha X.hn X.hc) t
 rw [e1] at n2
 exact ⟨hx.below b,hX.below b,(BoxC.new w _ _ _ _ t).below a2,n2,b⟩
theorem F2.lt {w wr:World} {x X:SysIn} (h:F2 w wr x X):w.heap.size+1<wr.heap.size:=zJ wr _ h.bX.1
theorem specForth_any (x X:SysIn) (w:World) (hG:SysG w x) (hG':SysG w X) (hL:x.Len) (hL':X.Len) (hcap:∀ i,i<x.hn->x.hL i<=x.hC i) (hcap':∀ i,i<X.hn->X.hL i<=X.hC i):
  Calls Tryz.prog 34 #[x.v,X.v] w fun e w'=>Tells e (x.y.Fo X.y)/\Below w.heap.size w w':=by
 have H0:Hid (F2 w ((w.alloc (oQ5 x.pa x.pn x.pc x.sa x.sn x.sc x.wa x.wn x.wc x.ha x.hn x.hc)).alloc (oQ5 X.pa X.pn X.pc X.sa X.sn X.sc X.wa X.wn X.wc X.ha X.hn X.hc)) x X):=F2.new hG hG' _
 have HO:Hid (∀ wx,SysG wx x->Calls Tryz.prog 44 #[x.v] wx fun e w'=>e=.returned (.bool x.y.okB)/\Below wx.heap.size wx w'):=fun wx g=>specSysOk_any x wx g hL hcap
 have HO':Hid (∀ wx,SysG wx X->Calls Tryz.prog 44 #[X.v] wx fun e w'=>e=.returned (.bool X.y.okB)/\Below wx.heap.size wx w'):=fun wx g=>specSysOk_any X wx g hL' hcap'
 have HL:Hid (x.Len/\X.Len):=⟨hL,hL'⟩
 have HOk:Hid ((x.y.okB=true->x.hn=x.pn)/\(X.y.okB=true->X.hn=X.pn)):=⟨fun h=>(Sy.ok_of h).cn.2.2.1,fun h=>(Sy.ok_of h).cn.2.2.1⟩
 have hpn:(x.pn:Int)<=1048576:=by have:=hL.p.1;omega
 have hPn:(X.pn:Int)<=1048576:=by have:=hL'.p.1;omega
 clear hG hG' hL hL' hcap hcap'
 obtain ⟨tx,htx⟩:∃ t,x.y.okB=t:=⟨_,rfl⟩
 obtain ⟨tX,htX⟩:∃ t,X.y.okB=t:=⟨_,rfl⟩
 have HF:Hid (x.y.Fo X.y->(tx=true/\tX=true)/\x.pn=X.pn):=fun h=>by rw [<- htx,<- htX];exact ⟨h.1,h.2.1⟩
 have HF2:Hid (tx=true/\tX=true->x.pn=X.pn->(∀ j,j<x.pn->(x.pL j=X.pL j/\∀ i,i<x.pL j->x.pH j i=X.pH j i)/\(x.hL j<=X.hL j/\∀ i,i<x.hL j->x.hH j i=X.hH j i))->x.y.Fo X.y):=fun h hp hq=>⟨by rw [htx,htX];exact h,hp,hq⟩
 have HF3:Hid (x.y.Fo X.y->∀ j,j<x.pn->(x.pL j=X.pL j/\∀ i,i<x.pL j->x.pH j i=X.pH j i)/\(x.hL j<=X.hL j/\∀ i,i<x.hL j->x.hH j i=X.hH j i)):=fun h=>h.2.2
 rw [htx] at HO HOk
 rw [htX] at HO' HOk
 clear htx htX
 go_enter Tryz.func34,Tryz.ntmps34
 go_upto_region 1 with fail
 generalize ((w.alloc (oQ5 x.pa x.pn x.pc x.sa x.sn x.sc x.wa x.wn x.wc x.ha x.hn x.hc)).alloc (oQ5 X.pa X.pn X.pc X.sa X.sn X.sc X.wa X.wn X.wc X.ha X.hn X.hc))=w0 at *
 cases tx with
 | false=>
  obtain ⟨k0,k1,k2,k3⟩:=H0.out.bx
  go_wp2_with (go_at_call 44;refine (HO.out _ H0.out.gx).mono ?_;rintro e w1 ⟨rfl,b1⟩;have B1:Hid (Below w.heap.size w w1):=(H0.out.below b1).be;clear HO b1)
  go_ret
  exact ⟨Tells.no fun h=>Bool.noConfusion (HF.out h).1.1,B1.out⟩
 | true=>
 cases tX with
 | false=>
  obtain ⟨k0,k1,k2,k3⟩:=H0.out.bx
  go_wp2_with (first|(go_at_call 44;refine (HO.out _ H0.out.gx).mono ?_;rintro e w1 ⟨rfl,b1⟩;have H1:Hid (F2 w w1 x X):=H0.out.below b1;obtain ⟨m0,m1,m2,m3⟩:=H1.out.bX;clear HO b1)|(go_at_call 44;refine (HO'.out _ H1.out.gX).mono ?_;rintro e w2 ⟨rfl,b2⟩;have B2:Hid (Below w.heap.size w w2):=(H1.out.below b2).be;clear HO' b2))
  go_ret
  exact ⟨Tells.no fun h=>Bool.noConfusion (HF.out h).1.2,B2.out⟩
 | true=>
 have HN2:Hid (x.hn=x.pn/\X.hn=X.pn):=⟨HOk.out.1 rfl,HOk.out.2 rfl⟩
 have HF4:Hid (x.pn=X.pn->(∀ j,j<x.pn->(x.pL j=X.pL j/\∀ i,i<x.pL j->x.pH j i=X.pH j i)/\(x.hL j<=X.hL j/\∀ i,i<x.hL j->x.hH j i=X.hH j i))->x.y.Fo X.y):=HF2.out ⟨rfl,rfl⟩
 have HF5:Hid (x.y.Fo X.y->x.pn=X.pn):=fun h=>(HF.out h).2
 clear HOk HF2 HF
 obtain ⟨k0,k1,k2,k3⟩:=H0.out.bx
 by_cases hpp:x.pn=X.pn
 case neg=>
  have hpp':¬ (x.pn:Int)=(X.pn:Int):=by omega
  go_wp2_with (first|(go_at_call 44;refine (HO.out _ H0.out.gx).mono ?_;rintro e w1 ⟨rfl,b1⟩;have H1:Hid (F2 w w1 x X):=H0.out.below b1;obtain ⟨m0,m1,m2,m3⟩:=H1.out.bX;clear HO b1)|(go_at_call 44;refine (HO'.out _ H1.out.gX).mono ?_;rintro e w2 ⟨rfl,b2⟩;have H2:Hid (F2 w w2 x X):=H1.out.below b2;obtain ⟨n0,n1,n2,n3⟩:=H2.out.bX;obtain ⟨l0,l1,l2,l3⟩:=H2.out.bx;clear HO' b2))
  go_ret
  exact ⟨Tells.no fun h=>hpp (HF5.out h),H2.out.be⟩
 have hpp':(x.pn:Int)=(X.pn:Int):=by omega
 have HP:Hid (x.pn=X.pn):=hpp
 clear hpp
 go_wp2_with (first|(go_at_call 44;refine (HO.out _ H0.out.gx).mono ?_;rintro e w1 ⟨rfl,b1⟩;have H1:Hid (F2 w w1 x X):=H0.out.below b1;obtain ⟨m0,m1,m2,m3⟩:=H1.out.bX;clear HO b1)|(go_at_call 44;refine (HO'.out _ H1.out.gX).mono ?_;rintro e w2 ⟨rfl,b2⟩;have H2:Hid (F2 w w2 x X):=H1.out.below b2;obtain ⟨n0,n1,n2,n3⟩:=H2.out.bX;obtain ⟨l0,l1,l2,l3⟩:=H2.out.bx;clear HO' b2) | fail)
 clear n0 n1 n2 n3 l0 l1 l2 l3 k0 k1 k2 k3 m0 m1 m2 m3 H0 H1 hpp'
 go_loopw [5] (fun i wr=>∃ k:Nat,k<=x.pn/\i=.int .i64 k/\Hid (F2 w wr x X/\∀ j,j<k->(x.pL j=X.pL j/\∀ i,i<x.pL j->x.pH j i=X.pH j i)/\(x.hL j<=X.hL j/\∀ i,i<x.hL j->x.hH j i=X.hH j i))) (fun i _=>x.pn - (intOf i).toNat)
 case atStart=>exact ⟨0,Nat.zero_le _,rfl,H2.out,fun i hi=>by omega⟩
 case round=>
  obtain ⟨j,hk,rfl,HK⟩:=hrel
  obtain ⟨k0,k1,k2,k3⟩:=HK.out.1.bx
  by_cases hlt:j<x.pn
  ·have hlt':(j:Int)<(x.pn:Int):=by omega
   have hlX:j<X.pn:=by have:=HP.out;omega
   have hlX':(j:Int)<(X.pn:Int):=by omega
   have hlh:j<x.hn:=by have:=HN2.out;omega
   have hlh':(j:Int)<(x.hn:Int):=by omega
   have hlH:j<X.hn:=by have:=HN2.out;have:=HP.out;omega
   have hlH':(j:Int)<(X.hn:Int):=by omega
   obtain ⟨m0,m1,m2,m3⟩:=HK.out.1.bX
   have lM:=HK.out.1.lt
   obtain ⟨c,ec,lc,ic⟩:=HK.out.1.gx.pi j hlt
   obtain ⟨c',ec',lc',ic'⟩:=HK.out.1.gX.pi j hlX
   obtain ⟨b,o,eb,lb,cb⟩:=HK.out.1.gx.p.resolve_left (by omega)
   obtain ⟨b',o',eb',lb',cb'⟩:=HK.out.1.gX.p.resolve_left (by omega)
   obtain ⟨d,q,ed,ld,cd⟩:=HK.out.1.gx.h.resolve_left (by omega)
   obtain ⟨d',q',ed',ld',cd'⟩:=HK.out.1.gX.h.resolve_left (by omega)
   have cb:wr.cell? ⟨b,o+j,none⟩=some (.slice (x.pA j) (x.pL j) (x.pC j)):=cb j hlt
   have cb':wr.cell? ⟨b',o'+j,none⟩=some (.slice (X.pA j) (X.pL j) (X.pC j)):=cb' j hlX
   have cd:wr.cell? ⟨d,q+j,none⟩=some (.slice (x.hA j) (x.hL j) (x.hC j)):=cd j hlh
   have cd':wr.cell? ⟨d',q'+j,none⟩=some (.slice (X.hA j) (X.hL j) (X.hC j)):=cd' j hlH
   rw [ec] at cb
   rw [ec'] at cb'
   rw [eb] at k0
   rw [eb'] at m0
   rw [ed] at k3
   rw [ed'] at m3
   have HQ:Hid (∀ wx,Below wr.heap.size wr wx->Calls Tryz.prog 90 #[.slice (some ⟨c,0,none⟩) (x.pL j) (x.pC j),.slice (some ⟨c',0,none⟩) (X.pL j) (X.pC j)] wx fun e w'=>Tells e (x.pL j=X.pL j/\∀ i,i<x.pL j->x.pH j i=X.pH j i)/\Below wx.heap.size wx w'):=fun wx hb=>sameProg_any c c' (x.pL j) (X.pL j) (x.pC j) (X.pC j) (x.pH j) (X.pH j) wx (HL.out.1.p.2 j hlt) (HL.out.2.p.2 j hlX) (zL lc hb.size) (zL lc' hb.size) (ic.below hb lc) (ic'.below hb lc')
   have HR:Hid (∀ wx,Below wr.heap.size wr wx->Calls Tryz.prog 91 #[.slice (x.hA j) (x.hL j) (x.hC j),.slice (X.hA j) (X.hL j) (X.hC j)] wx fun e w'=>Tells e (x.hL j<=X.hL j/\∀ i,i<x.hL j->x.hH j i=X.hH j i)/\Below wx.heap.size wx w'):=fun wx hb=>begins_any (x.hA j) (X.hA j) (x.hL j) (X.hL j) (x.hC j) (X.hC j) (x.hH j) (X.hH j) wx (HL.out.1.h.2 j hlh) (HL.out.2.h.2 j hlH) ((HK.out.1.gx.hi j hlh).below hb) ((HK.out.1.gX.hi j hlH).below hb)
   clear ec ec' ic ic' lc lc' eb eb' ed ed'
   go_upto_region 6 with fail
   have q0:Below wr.heap.size wr wr.drew:=(Below.refl wr.heap.size wr).drew
   refine wp_region_G (fun w'=>w'.cell? ⟨w.heap.size,0,none⟩=some (.slice (some ⟨b,o,none⟩) x.pn x.pc)/\w'.cell? ⟨b,o+j,none⟩=some (.slice (some ⟨c,0,none⟩) (x.pL j) (x.pC j))/\w'.cell? ⟨w.heap.size+1,0,none⟩=some (.slice (some ⟨b',o',none⟩) X.pn X.pc)/\w'.cell? ⟨b',o'+j,none⟩=some (.slice (some ⟨c',0,none⟩) (X.pL j) (X.pC j))/\w'.cell? ⟨w.heap.size,3,none⟩=some (.slice (some ⟨d,q,none⟩) x.hn x.hc)/\w'.cell? ⟨d,q+j,none⟩=some (.slice (x.hA j) (x.hL j) (x.hC j))/\w'.cell? ⟨w.heap.size+1,3,none⟩=some (.slice (some ⟨d',q',none⟩) X.hn X.hc)/\w'.cell? ⟨d',q'+j,none⟩=some (.slice (X.hA j) (X.hL j) (X.hC j))) (fun _=>false) (by kernel_rfl) ?_
   have hHeld:(fun w':World=>w'.cell? ⟨w.heap.size,0,none⟩=some (.slice (some ⟨b,o,none⟩) x.pn x.pc)/\w'.cell? ⟨b,o+j,none⟩=some (.slice (some ⟨c,0,none⟩) (x.pL j) (x.pC j))/\w'.cell? ⟨w.heap.size+1,0,none⟩=some (.slice (some ⟨b',o',none⟩) X.pn X.pc)/\w'.cell? ⟨b',o'+j,none⟩=some (.slice (some ⟨c',0,none⟩) (X.pL j) (X.pC j))/\w'.cell? ⟨w.heap.size,3,none⟩=some (.slice (some ⟨d,q,none⟩) x.hn x.hc)/\w'.cell? ⟨d,q+j,none⟩=some (.slice (x.hA j) (x.hL j) (x.hC j))/\w'.cell? ⟨w.heap.size+1,3,none⟩=some (.slice (some ⟨d',q',none⟩) X.hn X.hc)/\w'.cell? ⟨d',q'+j,none⟩=some (.slice (X.hA j) (X.hL j) (X.hC j))) wr.drew:=⟨(q0.cell (p:=⟨w.heap.size,0,none⟩) (by show w.heap.size<_;omega)).trans k0,(q0.cell (p:=⟨b,_,none⟩) lb).trans cb,(q0.cell (p:=⟨w.heap.size+1,0,none⟩) lM).trans m0,(q0.cell (p:=⟨b',_,none⟩) lb').trans cb',(q0.cell (p:=⟨w.heap.size,3,none⟩) (by show w.heap.size<_;omega)).trans k3,(q0.cell (p:=⟨d,_,none⟩) ld).trans cd,(q0.cell (p:=⟨w.heap.size+1,3,none⟩) lM).trans m3,(q0.cell (p:=⟨d',_,none⟩) ld').trans cd'⟩
   refine wpGT_of [0,1,2,3,4,5,6,7,8,9] ?_
   iterate 10 (refine wpGT_take rfl hHeld ?_;apply Exists.intro;refine ⟨fun wq hSw=>?_,?_⟩;(· ((try dsimp only at hSw);go_simp;try with_reducible rfl));(try simp only [Act.put,zD,zE,zF]))
   refine wpGT_nil ?_
   refine wpG_one 10 rfl (by kernel_rfl) (fun K hK=>?_)
   refine stepR_callD rfl 90 _ _ rfl #[.slice (some ⟨c,0,none⟩) (x.pL j) (x.pC j),.slice (some ⟨c',0,none⟩) (X.pL j) (X.pC j)] (by simp [Act.eval]) (yB Tryz.func90 (by kernel_rfl) rfl) (HQ.out wr.drew q0) ?_
   rintro e w5 ⟨⟨t,rfl,ht⟩,d5⟩
   refine ⟨_,rfl,?_⟩
   have HT:Hid (t=true ↔ (x.pL j=X.pL j/\∀ i,i<x.pL j->x.pH j i=X.pH j i)):=ht
   have q5:Below wr.heap.size wr w5:=q0.trans (d5.mono q0.size)
   have hHeld5:(fun w':World=>w'.cell? ⟨w.heap.size,0,none⟩=some (.slice (some ⟨b,o,none⟩) x.pn x.pc)/\w'.cell? ⟨b,o+j,none⟩=some (.slice (some ⟨c,0,none⟩) (x.pL j) (x.pC j))/\w'.cell? ⟨w.heap.size+1,0,none⟩=some (.slice (some ⟨b',o',none⟩) X.pn X.pc)/\w'.cell? ⟨b',o'+j,none⟩=some (.slice (some ⟨c',0,none⟩) (X.pL j) (X.pC j))/\w'.cell? ⟨w.heap.size,3,none⟩=some (.slice (some ⟨d,q,none⟩) x.hn x.hc)/\w'.cell? ⟨d,q+j,none⟩=some (.slice (x.hA j) (x.hL j) (x.hC j))/\w'.cell? ⟨w.heap.size+1,3,none⟩=some (.slice (some ⟨d',q',none⟩) X.hn X.hc)/\w'.cell? ⟨d',q'+j,none⟩=some (.slice (X.hA j) (X.hL j) (X.hC j))) w5:=⟨(q5.cell (p:=⟨w.heap.size,0,none⟩) (by show w.heap.size<_;omega)).trans k0,(q5.cell (p:=⟨b,_,none⟩) lb).trans cb,(q5.cell (p:=⟨w.heap.size+1,0,none⟩) lM).trans m0,(q5.cell (p:=⟨b',_,none⟩) lb').trans cb',(q5.cell (p:=⟨w.heap.size,3,none⟩) (by show w.heap.size<_;omega)).trans k3,(q5.cell (p:=⟨d,_,none⟩) ld).trans cd,(q5.cell (p:=⟨w.heap.size+1,3,none⟩) lM).trans m3,(q5.cell (p:=⟨d',_,none⟩) ld').trans cd'⟩
   refine hK.out _ _ (fun _=>hHeld5) ?_
   clear hHeld
   have hHeld:=hHeld5
   clear hHeld5 d5 hK K ht q0
   (try simp only [Act.put,zD,zE,zF])
   cases t with
   | false=>
    have HN:Hid (¬ x.y.Fo X.y):=fun h=>Bool.noConfusion (HT.out.2 (HF3.out h j hlt).1)
    refine wpGT_of [11,12] ?_
    iterate 2 (refine wpGT_take rfl hHeld ?_;apply Exists.intro;refine ⟨fun wq hSw=>?_,?_⟩;(· ((try dsimp only at hSw);go_simp;try with_reducible rfl));(try simp only [Act.put,zD,zE,zF]))
    refine wpGT_nil ?_
    refine wpG_skip 13 rfl ?_
    (try simp only [Act.put,zD,zE,zF])
    refine wpG_skip 14 rfl ?_
    (try simp only [Act.put,zD,zE,zF])
    refine wpG_skip 15 rfl ?_
    (try simp only [Act.put,zD,zE,zF])
    refine wpG_skip 16 rfl ?_
    (try simp only [Act.put,zD,zE,zF])
    refine wpG_skip 17 rfl ?_
    (try simp only [Act.put,zD,zE,zF])
    refine wpG_skip 18 rfl ?_
    (try simp only [Act.put,zD,zE,zF])
    refine wpG_skip 19 rfl ?_
    (try simp only [Act.put,zD,zE,zF])
    refine wpG_skip 20 rfl ?_
    (try simp only [Act.put,zD,zE,zF])
    refine wpG_skip 21 rfl ?_
    (try simp only [Act.put,zD,zE,zF])
    refine wpG_skip 22 rfl ?_
    (try simp only [Act.put,zD,zE,zF])
    refine wpG_skip 23 rfl ?_
    (try simp only [Act.put,zD,zE,zF])
    refine wpG_skip 24 rfl ?_
    (try simp only [Act.put,zD,zE,zF])
    refine wpG_take 25 rfl hHeld ?_
    apply Exists.intro
    refine ⟨fun wq hSw=>?_,?_⟩
    ·(try dsimp only at hSw)
     go_simp
     try with_reducible rfl
    (try simp only [Act.put,zD,zE,zF])
    refine wpG_done (by kernel_rfl) ?_ _
    have K5:=(HK.out.1.below q5).be
    go_wp2
    go_ret
    exact ⟨Tells.no HN.out,K5⟩
   | true=>
    refine wpGT_of [11,12,13,14,15,16,17,18,19,20,21,22] ?_
    iterate 12 (refine wpGT_take rfl hHeld ?_;apply Exists.intro;refine ⟨fun wq hSw=>?_,?_⟩;(· ((try dsimp only at hSw);go_simp;try with_reducible rfl));(try simp only [Act.put,zD,zE,zF]))
    refine wpGT_nil ?_
    refine wpG_one 23 rfl (by kernel_rfl) (fun K hK=>?_)
    refine stepR_callD rfl 91 _ _ rfl #[.slice (x.hA j) (x.hL j) (x.hC j),.slice (X.hA j) (X.hL j) (X.hC j)] (by simp [Act.eval]) (yB Tryz.func91 (by kernel_rfl) rfl) (HR.out w5 q5) ?_
    rintro e w6 ⟨⟨t,rfl,ht⟩,d6⟩
    refine ⟨_,rfl,?_⟩
    have HT2:Hid (t=true ↔ (x.hL j<=X.hL j/\∀ i,i<x.hL j->x.hH j i=X.hH j i)):=ht
    have q6:Below wr.heap.size wr w6:=q5.trans (d6.mono q5.size)
    have hHeld5:(fun w':World=>w'.cell? ⟨w.heap.size,0,none⟩=some (.slice (some ⟨b,o,none⟩) x.pn x.pc)/\w'.cell? ⟨b,o+j,none⟩=some (.slice (some ⟨c,0,none⟩) (x.pL j) (x.pC j))/\w'.cell? ⟨w.heap.size+1,0,none⟩=some (.slice (some ⟨b',o',none⟩) X.pn X.pc)/\w'.cell? ⟨b',o'+j,none⟩=some (.slice (some ⟨c',0,none⟩) (X.pL j) (X.pC j))/\w'.cell? ⟨w.heap.size,3,none⟩=some (.slice (some ⟨d,q,none⟩) x.hn x.hc)/\w'.cell? ⟨d,q+j,none⟩=some (.slice (x.hA j) (x.hL j) (x.hC j))/\w'.cell? ⟨w.heap.size+1,3,none⟩=some (.slice (some ⟨d',q',none⟩) X.hn X.hc)/\w'.cell? ⟨d',q'+j,none⟩=some (.slice (X.hA j) (X.hL j) (X.hC j))) w6:=⟨(q6.cell (p:=⟨w.heap.size,0,none⟩) (by show w.heap.size<_;omega)).trans k0,(q6.cell (p:=⟨b,_,none⟩) lb).trans cb,(q6.cell (p:=⟨w.heap.size+1,0,none⟩) lM).trans m0,(q6.cell (p:=⟨b',_,none⟩) lb').trans cb',(q6.cell (p:=⟨w.heap.size,3,none⟩) (by show w.heap.size<_;omega)).trans k3,(q6.cell (p:=⟨d,_,none⟩) ld).trans cd,(q6.cell (p:=⟨w.heap.size+1,3,none⟩) lM).trans m3,(q6.cell (p:=⟨d',_,none⟩) ld').trans cd'⟩
    refine hK.out _ _ (fun _=>hHeld5) ?_
    clear hHeld
    have hHeld:=hHeld5
    clear hHeld5 d6 hK K ht q5
    (try simp only [Act.put,zD,zE,zF])
    cases t with
    | false=>
     have HN:Hid (¬ x.y.Fo X.y):=fun h=>Bool.noConfusion (HT2.out.2 (HF3.out h j hlt).2)
     refine wpGT_of [24,25] ?_
     iterate 2 (refine wpGT_take rfl hHeld ?_;apply Exists.intro;refine ⟨fun wq hSw=>?_,?_⟩;(· ((try dsimp only at hSw);go_simp;try with_reducible rfl));(try simp only [Act.put,zD,zE,zF]))
     refine wpGT_nil ?_
     refine wpG_done (by kernel_rfl) ?_ _
     have K6:=(HK.out.1.below q6).be
     go_wp2
     go_ret
     exact ⟨Tells.no HN.out,K6⟩
    | true=>
     refine wpGT_of [24,25] ?_
     iterate 2 (refine wpGT_take rfl hHeld ?_;apply Exists.intro;refine ⟨fun wq hSw=>?_,?_⟩;(· ((try dsimp only at hSw);go_simp;try with_reducible rfl));(try simp only [Act.put,zD,zE,zF]))
     refine wpGT_nil ?_
     refine wpG_done (by kernel_rfl) ?_ _
     have K6 : Hid (F2 w w6 x X ∧ ∀ i, i < j + 1 → (x.pL i = X.pL i ∧ ∀ z, z < x.pL i → x.pH i z = X.pH i z) ∧ (x.hL i ≤ X.hL i ∧ ∀ z, z < x.hL i → x.hH i z = X.hH i z)) := ⟨HK.out.1.below q6, fun i hi => by
      by_cases e:i=j
      ·rw [e];exact ⟨HT.out.1 rfl,HT2.out.1 rfl⟩
      ·exact HK.out.2 i (by omega)⟩
     clear hHeld q6 HK k0 k1 k2 k3 m0 m1 m2 m3 lb lb' ld ld' cb cb' cd cd' lM HQ HR HT HT2
     go_wp2
     go_roundw
     case rel=>exact ⟨j+1,by omega,by go_num,K6.out⟩
     case measure=>simp [intOf];omega
  ·have nlt:¬ (j:Int)<(x.pn:Int):=by omega
   go_wp2
   go_ret
   exact ⟨Tells.yes (HF4.out HP.out fun i hi=>HK.out.2 i (by omega)),HK.out.1.be⟩
open Go.Shelf
attribute [local go_sem] Oper.semAt_some
theorem gnL_nil {n:Nat} {d:Nat->Nat}:∀ (k:Nat) (h:k<=n),gnL n d k h=[]->∀ i,i<k->d i=0
 | 0,_,_,i,hi=>absurd hi (Nat.not_lt_zero i)
 | k+1,h,e,i,hi=>by
  by_cases hd:0<d k
  ·rw [gnL_pos h hd] at e
   simp at e
  ·rw [gnL_zero h hd] at e
   by_cases e':i=k
   ·rw [e'];omega
   ·exact gnL_nil k (Nat.le_of_succ_le h) e i (by omega)
structure F3 (w wr:World) (x X:SysIn):Prop where
 f:F2 w wr x X
 rc:wr.cell? ⟨w.heap.size+1+1,0,none⟩=some (.bool false)
 rf:wr.frozen? ⟨w.heap.size+1+1,0,none⟩=false
theorem F3.lt {w wr:World} {x X:SysIn} (h:F3 w wr x X):w.heap.size+1+1<wr.heap.size:=zJ wr _ h.rc
theorem F3.below {w wr w':World} {x X:SysIn} (h:F3 w wr x X) (hb:Below wr.heap.size wr w'):F3 w w' x X:=⟨h.f.below hb,(hb.cell (p:=⟨w.heap.size+1+1,0,none⟩) h.lt).trans h.rc,((bcell hb).2 _ 0 h.lt).trans h.rf⟩
theorem F3.new {w wr:World} {x X:SysIn} (h:F2 w wr x X) (e:wr.heap.size=w.heap.size+1+1) (t:TypeId):F3 w (wr.alloc (.cells #[.bool false] t)) x X:=by
 have a:=zT wr (.cells #[.bool false] t)
 refine ⟨h.below a,?_,?_⟩
 ·rw [<- e];simp
 ·rw [<- e];exact yD _ _ _ _ rfl
theorem implForth_any (x X:SysIn) (w:World) (hG:SysG w x) (hG':SysG w X) (hL:x.Len) (hL':X.Len) (hV:w.cell? ⟨0,0,none⟩=some (.iface 272 (.agg #[.pointer (some ⟨1,172,none⟩)]))):
  Calls Tryz.prog 35 #[x.v,X.v] w fun e w'=>Tells e (x.y.Fo X.y)/\Below w.heap.size w w':=by
 have H0:Hid (F3 w (((w.alloc (oQ5 x.pa x.pn x.pc x.sa x.sn x.sc x.wa x.wn x.wc x.ha x.hn x.hc)).alloc (oQ5 X.pa X.pn X.pc X.sa X.sn X.sc X.wa X.wn X.wc X.ha X.hn X.hc)).alloc (.cells #[.bool false] 4)) x X):=F3.new (F2.new hG hG' _) (by simp) _
 have HV:Hid (w.cell? ⟨0,0,none⟩=some (.iface 272 (.agg #[.pointer (some ⟨1,172,none⟩)]))):=hV
 have HV0:Hid (0<w.heap.size):=zJ w _ hV
 have HO:Hid (∀ wx,SysG wx x->wx.cell? ⟨0,0,none⟩=some (.iface 272 (.agg #[.pointer (some ⟨1,172,none⟩)]))->Calls Tryz.prog 16 #[x.v] wx fun e w'=>e=.returned (.bool x.y.okB)/\Below wx.heap.size wx w'):=fun wx g v=>implSysOk_any x wx g hL v
 have HO':Hid (∀ wx,SysG wx X->wx.cell? ⟨0,0,none⟩=some (.iface 272 (.agg #[.pointer (some ⟨1,172,none⟩)]))->Calls Tryz.prog 16 #[X.v] wx fun e w'=>e=.returned (.bool X.y.okB)/\Below wx.heap.size wx w'):=fun wx g v=>implSysOk_any X wx g hL' v
 obtain ⟨sp,hsp⟩:∃ sp:Bool,(sp=true ↔ x.y.SameP X.y):=by classical exact ⟨decide (x.y.SameP X.y),by simp⟩
 have HS:Hid (∀ wx,SysG wx x->SysG wx X->Calls Tryz.prog 92 #[x.v,X.v] wx fun e w'=>e=.returned (.bool sp)/\Below wx.heap.size wx w'):=fun wx g g'=>(sameProgs_any x X wx g g' hL hL').mono fun e w' h=>by
  obtain ⟨⟨t,rfl,ht⟩,hb⟩:=h
  exact ⟨by rw [show t=sp from Bool.eq_iff_iff.2 (ht.trans hsp.symm)],hb⟩
 have HL:Hid (x.Len/\X.Len):=⟨hL,hL'⟩
 have HSP:Hid (sp=true ↔ x.y.SameP X.y):=hsp
 clear hL hL' hG hG' hV hsp
 have HOk:Hid ((x.y.okB=true->x.hn=x.pn)/\(X.y.okB=true->X.hn=X.pn)):=⟨fun h=>(Sy.ok_of h).cn.2.2.1,fun h=>(Sy.ok_of h).cn.2.2.1⟩
 obtain ⟨tx,htx⟩:∃ t,x.y.okB=t:=⟨_,rfl⟩
 obtain ⟨tX,htX⟩:∃ t,X.y.okB=t:=⟨_,rfl⟩
 have HF:Hid (x.y.Fo X.y->(tx=true/\tX=true)/\sp=true):=fun h=>by rw [<- htx,<- htX];exact ⟨h.1,HSP.out.2 ⟨h.2.1,fun p hp=>(h.2.2 p hp).1⟩⟩
 have HF2:Hid (tx=true/\tX=true->x.y.SameP X.y->(∀ j,j<x.pn->(x.hL j<=X.hL j/\∀ i,i<x.hL j->x.hH j i=X.hH j i))->x.y.Fo X.y):=fun h hp hq=>⟨by rw [htx,htX];exact h,hp.1,fun p hpl=>⟨hp.2 p hpl,hq p hpl⟩⟩
 have HF3:Hid (x.y.Fo X.y->∀ j,j<x.pn->(x.hL j<=X.hL j/\∀ i,i<x.hL j->x.hH j i=X.hH j i)):=fun h j hj=>(h.2.2 j hj).2
 rw [htx] at HO HOk
 rw [htX] at HO' HOk
 clear htx htX
 obtain ⟨k0,k1,k2,k3⟩:=H0.out.f.bx
 refine (callsIn_wide (n:=3)).1 ?_
 refine callsIn_of_wp_marks Tryz.func35 rfl trivial ?_ rfl
 simp only [Tryz.ntmps35,List.size_toArray,List.length_cons,List.length_nil,Nat.reduceAdd,Nat.reduceSub,Array.replicate_succ,Array.replicate_zero,List.push_toArray,List.append_toArray,List.nil_append,List.cons_append]
 cases tx with
 | false=>
  gi_wp2_with (refine ⟨trivial,?_⟩;gi_at_call 16;refine (callsIn_wide.2 (HO.out _ H0.out.f.gx ((H0.out.f.be.cell (p:=⟨0,0,none⟩) HV0.out).trans HV.out))).mono ?_;rintro e w1 ⟨rfl,b1⟩;have H1:Hid (F3 w w1 x X):=H0.out.below b1;obtain ⟨m0,m1,m2,m3⟩:=H1.out.f.bX;obtain ⟨k0,k1,k2,k3⟩:=H1.out.f.bx;have r0:=H1.out.rc;have rf:=H1.out.rf;clear HO b1)
  refine ⟨trivial,?_⟩
  gi_wp2
  refine ⟨trivial,?_⟩
  gi_wp2
  have hs:=World.cell?_setCell_same' w1 ⟨w.heap.size+1+1,0,none⟩ (.bool false) (by rw [r0];rfl)
  refine ⟨.bool false,?_,Tells.no (fun h=>Bool.noConfusion (HF.out h).1.1),H1.out.f.be.setCell (p:=⟨w.heap.size+1+1,0,none⟩) (by show w.heap.size<=w.heap.size+1+1;omega) _⟩
  simp [results,Tryz.f35,go_sem,hs]
 | true=>
 cases tX with
 | false=>
  gi_wp2_with (first|(refine ⟨trivial,?_⟩;gi_at_call 16;refine (callsIn_wide.2 (HO.out _ H0.out.f.gx ((H0.out.f.be.cell (p:=⟨0,0,none⟩) HV0.out).trans HV.out))).mono ?_;rintro e w1 ⟨rfl,b1⟩;have H1:Hid (F3 w w1 x X):=H0.out.below b1;obtain ⟨m0,m1,m2,m3⟩:=H1.out.f.bX;obtain ⟨k0,k1,k2,k3⟩:=H1.out.f.bx;have r0:=H1.out.rc;have rf:=H1.out.rf;clear HO b1)|(refine ⟨trivial,?_⟩;gi_at_call 16;refine (callsIn_wide.2 (HO'.out _ H1.out.f.gX ((H1.out.f.be.cell (p:=⟨0,0,none⟩) HV0.out).trans HV.out))).mono ?_;rintro e w2 ⟨rfl,b2⟩;clear m0 m1 m2 m3 k0 k1 k2 k3 r0 rf;have H2:Hid (F3 w w2 x X):=H1.out.below b2;obtain ⟨m0,m1,m2,m3⟩:=H2.out.f.bX;obtain ⟨k0,k1,k2,k3⟩:=H2.out.f.bx;have r0:=H2.out.rc;have rf:=H2.out.rf;clear HO' b2))
  refine ⟨trivial,?_⟩
  gi_wp2
  have hs:=World.cell?_setCell_same' w2 ⟨w.heap.size+1+1,0,none⟩ (.bool false) (by rw [r0];rfl)
  refine ⟨.bool false,?_,Tells.no (fun h=>Bool.noConfusion (HF.out h).1.2),H2.out.f.be.setCell (p:=⟨w.heap.size+1+1,0,none⟩) (by show w.heap.size<=w.heap.size+1+1;omega) _⟩
  simp [results,Tryz.f35,go_sem,hs]
 | true=>
 cases sp with
 | false=>
  gi_wp2_with (first|(refine ⟨trivial,?_⟩;gi_at_call 16;refine (callsIn_wide.2 (HO.out _ H0.out.f.gx ((H0.out.f.be.cell (p:=⟨0,0,none⟩) HV0.out).trans HV.out))).mono ?_;rintro e w1 ⟨rfl,b1⟩;have H1:Hid (F3 w w1 x X):=H0.out.below b1;obtain ⟨m0,m1,m2,m3⟩:=H1.out.f.bX;obtain ⟨k0,k1,k2,k3⟩:=H1.out.f.bx;have r0:=H1.out.rc;have rf:=H1.out.rf;clear HO b1)|(refine ⟨trivial,?_⟩;gi_at_call 16;refine (callsIn_wide.2 (HO'.out _ H1.out.f.gX ((H1.out.f.be.cell (p:=⟨0,0,none⟩) HV0.out).trans HV.out))).mono ?_;rintro e w2 ⟨rfl,b2⟩;clear m0 m1 m2 m3 k0 k1 k2 k3 r0 rf;have H2:Hid (F3 w w2 x X):=H1.out.below b2;obtain ⟨m0,m1,m2,m3⟩:=H2.out.f.bX;obtain ⟨k0,k1,k2,k3⟩:=H2.out.f.bx;have r0:=H2.out.rc;have rf:=H2.out.rf;clear HO' b2)|(refine ⟨trivial,?_⟩;gi_at_call 92;refine (callsIn_wide.2 (HS.out _ H2.out.f.gx H2.out.f.gX)).mono ?_;rintro e w3 ⟨rfl,b3⟩;clear m0 m1 m2 m3 k0 k1 k2 k3 r0 rf;have H3:Hid (F3 w w3 x X):=H2.out.below b3;obtain ⟨m0,m1,m2,m3⟩:=H3.out.f.bX;obtain ⟨k0,k1,k2,k3⟩:=H3.out.f.bx;have r0:=H3.out.rc;have rf:=H3.out.rf;clear HS b3))
  have hs:=World.cell?_setCell_same' w3 ⟨w.heap.size+1+1,0,none⟩ (.bool false) (by rw [r0];rfl)
  refine ⟨.bool false,?_,Tells.no (fun h=>Bool.noConfusion (HF.out h).2),H3.out.f.be.setCell (p:=⟨w.heap.size+1+1,0,none⟩) (by show w.heap.size<=w.heap.size+1+1;omega) _⟩
  simp [results,Tryz.f35,go_sem,hs]
 | true=>
 have HNN:Hid (x.hn=x.pn/\X.hn=X.pn/\x.pn=X.pn):=⟨HOk.out.1 rfl,HOk.out.2 rfl,(HSP.out.1 rfl).1⟩
 have HF4:Hid ((∀ j,j<x.pn->(x.hL j<=X.hL j/\∀ i,i<x.hL j->x.hH j i=X.hH j i))->x.y.Fo X.y):=HF2.out ⟨rfl,rfl⟩ (HSP.out.1 rfl)
 clear HOk HF2 HSP HF
 gi_wp2_with (first|(refine ⟨trivial,?_⟩;gi_at_call 16;refine (callsIn_wide.2 (HO.out _ H0.out.f.gx ((H0.out.f.be.cell (p:=⟨0,0,none⟩) HV0.out).trans HV.out))).mono ?_;rintro e w1 ⟨rfl,b1⟩;have H1:Hid (F3 w w1 x X):=H0.out.below b1;obtain ⟨m0,m1,m2,m3⟩:=H1.out.f.bX;obtain ⟨k0,k1,k2,k3⟩:=H1.out.f.bx;have r0:=H1.out.rc;have rf:=H1.out.rf;clear HO b1)|(refine ⟨trivial,?_⟩;gi_at_call 16;refine (callsIn_wide.2 (HO'.out _ H1.out.f.gX ((H1.out.f.be.cell (p:=⟨0,0,none⟩) HV0.out).trans HV.out))).mono ?_;rintro e w2 ⟨rfl,b2⟩;clear m0 m1 m2 m3 k0 k1 k2 k3 r0 rf;have H2:Hid (F3 w w2 x X):=H1.out.below b2;obtain ⟨m0,m1,m2,m3⟩:=H2.out.f.bX;obtain ⟨k0,k1,k2,k3⟩:=H2.out.f.bx;have r0:=H2.out.rc;have rf:=H2.out.rf;clear HO' b2)|(refine ⟨trivial,?_⟩;gi_at_call 92;refine (callsIn_wide.2 (HS.out _ H2.out.f.gx H2.out.f.gX)).mono ?_;rintro e w3 ⟨rfl,b3⟩;clear m0 m1 m2 m3 k0 k1 k2 k3 r0 rf;have H3:Hid (F3 w w3 x X):=H2.out.below b3;obtain ⟨m0,m1,m2,m3⟩:=H3.out.f.bX;obtain ⟨k0,k1,k2,k3⟩:=H3.out.f.bx;have r0:=H3.out.rc;have rf:=H3.out.rf;clear HS b3)|(refine ⟨trivial,?_⟩;gi_at_call 89;refine (callsIn_wide.2 (gone_any _ _ _ _ _ _ _ _ _)).mono ?_;rintro e w' ⟨rfl,rfl⟩))
 clear m0 m1 m2 m3 k0 k1 k2 k3 r0 rf H0 H1 H2 HV HV0
 have a1:=zT w3 (oQ5 x.pa x.pn x.pc x.sa x.sn x.sc x.wa x.wn x.wc x.ha x.hn x.hc)
 have a2:=zT (w3.alloc (oQ5 x.pa x.pn x.pc x.sa x.sn x.sc x.wa x.wn x.wc x.ha x.hn x.hc)) (oQ5 X.pa X.pn X.pc X.sa X.sn X.sc X.wa X.wn X.wc X.ha X.hn X.hc)
 have z1:(w3.alloc (oQ5 x.pa x.pn x.pc x.sa x.sn x.sc x.wa x.wn x.wc x.ha x.hn x.hc)).heap.size=w3.heap.size+1:=by simp
 have z2:((w3.alloc (oQ5 x.pa x.pn x.pc x.sa x.sn x.sc x.wa x.wn x.wc x.ha x.hn x.hc)).alloc (oQ5 X.pa X.pn X.pc X.sa X.sn X.sc X.wa X.wn X.wc X.ha X.hn X.hc)).heap.size=w3.heap.size+1+1:=by simp
 have n1:=(BoxC.new w3 (.slice x.pa x.pn x.pc) (.slice x.sa x.sn x.sc) (.slice x.wa x.wn x.wc) (.slice x.ha x.hn x.hc) 29).2.2.2
 have n2:=(BoxC.new (w3.alloc (oQ5 x.pa x.pn x.pc x.sa x.sn x.sc x.wa x.wn x.wc x.ha x.hn x.hc)) (.slice X.pa X.pn X.pc) (.slice X.sa X.sn X.sc) (.slice X.wa X.wn X.wc) (.slice X.ha X.hn X.hc) 29).2.2.2
 rw [z1] at n2 a2
 have n1':=(a2.cell (p:=⟨w3.heap.size,3,none⟩) (by show w3.heap.size<w3.heap.size+1;omega)).trans n1
 have aa:Below w3.heap.size w3 ((w3.alloc (oQ5 x.pa x.pn x.pc x.sa x.sn x.sc x.wa x.wn x.wc x.ha x.hn x.hc)).alloc (oQ5 X.pa X.pn X.pc X.sa X.sn X.sc X.wa X.wn X.wc X.ha X.hn X.hc)):=a1.trans (a2.mono (by omega))
 have H4:Hid (F3 w ((w3.alloc (oQ5 x.pa x.pn x.pc x.sa x.sn x.sc x.wa x.wn x.wc x.ha x.hn x.hc)).alloc (oQ5 X.pa X.pn X.pc X.sa X.sn X.sc X.wa X.wn X.wc X.ha X.hn X.hc)) x X):=H3.out.below aa
 have HB:Hid (((w3.alloc (oQ5 x.pa x.pn x.pc x.sa x.sn x.sc x.wa x.wn x.wc x.ha x.hn x.hc)).alloc (oQ5 X.pa X.pn X.pc X.sa X.sn X.sc X.wa X.wn X.wc X.ha X.hn X.hc)).cell? ⟨w3.heap.size,3,none⟩=some (.slice x.ha x.hn x.hc)/\((w3.alloc (oQ5 x.pa x.pn x.pc x.sa x.sn x.sc x.wa x.wn x.wc x.ha x.hn x.hc)).alloc (oQ5 X.pa X.pn X.pc X.sa X.sn X.sc X.wa X.wn X.wc X.ha X.hn X.hc)).cell? ⟨w3.heap.size+1,3,none⟩=some (.slice X.ha X.hn X.hc)):=⟨n1',n2⟩
 have hwN:w.heap.size+1+1<w3.heap.size:=H3.out.lt
 clear a1 a2 z1 n1 n2 n1' aa H3
 generalize ((w3.alloc (oQ5 x.pa x.pn x.pc x.sa x.sn x.sc x.wa x.wn x.wc x.ha x.hn x.hc)).alloc (oQ5 X.pa X.pn X.pc X.sa X.sn X.sc X.wa X.wn X.wc X.ha X.hn X.hc))=W8 at *
 generalize w3.heap.size=N at *
 clear w3
 have hF:Hid (∀ W',Kq (N+1+1) (N+1+1) W8 W'->Hv.In ⟨x.ha,x.hn,x.hc,x.hA,x.hL,x.hC,x.hH⟩ W' N/\Hv.In ⟨X.ha,X.hn,X.hc,X.hA,X.hL,X.hC,X.hH⟩ W' (N+1)):=fun W' hk=>by
  have hb:Below W8.heap.size W8 W':=by rw [z2];exact hk.lo
  have g:=H4.out.f.gx.below hb
  have g':=H4.out.f.gX.below hb
  exact ⟨⟨(hk.lo.cell (p:=⟨N,3,none⟩) (by show N<N+1+1;omega)).trans HB.out.1,g.h,g.hi⟩,⟨(hk.lo.cell (p:=⟨N+1,3,none⟩) (by show N+1<N+1+1;omega)).trans HB.out.2,g'.h,g'.hi⟩⟩
 have hnn:=HNN.out
 have hll:∀ i,i<x.hn->x.hL i<=1048576/\X.hL i<=1048576:=fun i hi=>⟨HL.out.1.h.2 i hi,HL.out.2.h.2 i (by omega)⟩
 have hn20:x.hn<=1048576:=HL.out.1.h.1
 have hxX:x.hn<=X.hn:=by omega
 clear hnn
 obtain ⟨d,hdd⟩:∃ d:Nat->Nat,∀ i,i<x.hn->∀ r,Al (x.hH i) (X.hH i) (min (x.hL i) (X.hL i)) r->x.hL i - r=d i:=⟨fun i=>x.hL i - (Al.ex (x.hH i) (X.hH i) (min (x.hL i) (X.hL i))).choose,fun i _ r a=>by rw [a.one (Al.ex (x.hH i) (X.hH i) (min (x.hL i) (X.hL i))).choose_spec]⟩
 have HD:Hid (∀ j,j<x.pn->(d j=0 ↔ (x.hL j<=X.hL j/\∀ i,i<x.hL j->x.hH j i=X.hH j i))):=fun j hj=>by
  obtain ⟨r,a⟩:=Al.ex (x.hH j) (X.hH j) (min (x.hL j) (X.hL j))
  have h1:=hdd j (by have:=HNN.out;omega) r a
  have h2:=a.le
  constructor
  ·intro h0
   have h3:x.hL j=r:=by omega
   exact ⟨by omega,fun i hi=>a.eq i (by omega)⟩
  ·rintro ⟨h3,h4⟩
   by_cases h5:r<x.hL j
   ·exact absurd (h4 r h5) (a.ne (by omega))
   ·omega
 refine wpIn_rangeFunc_ownG (F:=Fence.wide) (n:=3) rfl (by omega) (gf:=164) (lb:=#[.pointer (some ⟨N,0,none⟩),.pointer (some ⟨N+1,0,none⟩)]) rfl trivial (enters_of Tryz.func164 (by kernel_rfl) rfl)
  (gone_stops 2 (by omega) N (N+1) (N+1+1) (N+1+1) ⟨x.ha,x.hn,x.hc,x.hA,x.hL,x.hC,x.hH⟩ ⟨X.ha,X.hn,X.hc,X.hA,X.hL,X.hC,X.hH⟩ hxX hn20 hll d hdd W8 (by omega) (by omega) hF.out) (fun h k=>h.trans k) (Kq.b (by omega) (by omega)) (Below.refl _ _) (fun _=>rfl)
  (fun pre W=>(pre=[]/\W.cell? ⟨w.heap.size+1+1,0,none⟩=some (.bool false)/\W.frozen? ⟨w.heap.size+1+1,0,none⟩=false)/\Below w.heap.size w W)
  (fun c _ W=>(c=.ret/\W.cell? ⟨w.heap.size+1+1,0,none⟩=some (.bool false))/\Below w.heap.size w W)
  (OwnFrom.and (Own.from (fun s A B row hs hg hr=>⟨hs.1,cell_kept hs.2.1 hg hr,(frozen_kept hs.2.1 hg hr).trans hs.2.2⟩) _) (ownFrom_below (Nat.le_refl _) (by omega)))
  (fun c=>OwnFrom.and (Own.from (fun s A B row hs hg hr=>⟨hs.1,cell_kept hs.2 hg hr⟩) _) (ownFrom_below (Nat.le_refl _) (by omega)))
  ⟨⟨rfl,H4.out.rc,H4.out.rf⟩,H4.out.f.be⟩
  (fun z=>{ tmps:=#[x.v,X.v,.pointer (some ⟨w.heap.size,0,none⟩),.pointer (some ⟨w.heap.size+1,0,none⟩),.pointer (some ⟨w.heap.size+1+1,0,none⟩),.agg #[.slice x.pa x.pn x.pc,.slice x.sa x.sn x.sc,.slice x.wa x.wn x.wc,.slice x.ha x.hn x.hc],.bool true,.bool false,.bool false,.agg #[.slice X.pa X.pn X.pc,.slice X.sa X.sn X.sc,.slice X.wa X.wn X.wc,.slice X.ha X.hn X.hc],.bool true,.bool false,.bool false,.bool false,.agg #[.slice x.pa x.pn x.pc,.slice x.sa x.sn x.sc,.slice x.wa x.wn x.wc,.slice x.ha x.hn x.hc],.agg #[.slice X.pa X.pn X.pc,.slice X.sa X.sn X.sc,.slice X.wa X.wn X.wc,.slice X.ha X.hn X.hc],.bool true,.bool false,.bool false,.agg #[.slice x.pa x.pn x.pc,.slice x.sa x.sn x.sc,.slice x.wa x.wn x.wc,.slice x.ha x.hn x.hc],.agg #[.slice X.pa X.pn X.pc,.slice X.sa X.sn X.sc,.slice X.wa X.wn X.wc,.slice X.ha X.hn X.hc],.func (.func 164) #[] #[.pointer (some ⟨N,0,none⟩),.pointer (some ⟨N+1,0,none⟩)],.int .i64 (z.1.val:Nat),.int .i64 (z.2:Nat)],defers:=[] }) ?assign ?body ?done ?stop
 case assign=>
  intro l z W K hK
  gi_wp2
  exact hK
 case body=>
  rintro l pre z W ⟨⟨hp,hcr,hfr⟩,hB⟩ _
  gi_wp2
  exact ⟨(KeepsOthers.setCell _ _ _).from _,⟨rfl,World.cell?_setCell_same' _ _ _ (by rw [hcr];rfl)⟩,hB.setCell (p:=⟨w.heap.size+1+1,0,none⟩) (by show w.heap.size<=w.heap.size+1+1;omega) _⟩
 case done=>
  rintro D ys W hD hys ⟨⟨hp,hcr,hfr⟩,hB⟩ hK
  have hz:Hid (x.y.Fo X.y):=HF4.out fun j hj=>(HD.out j hj).1 (gnL_nil x.hn (Nat.le_refl _) (hys.symm.trans hp) j (by have:=HNN.out;omega))
  gi_wp2
  have hK':=(KeepsOthers.setCell W ⟨w.heap.size+1+1,0,none⟩ (.bool true)).same D _ hK rfl
  refine ⟨by simp,.inl ⟨_,_,rfl,run_takeDeferred hK',?_⟩⟩
  have hc5:=cell_kept (World.cell?_setCell_same' W ⟨w.heap.size+1+1,0,none⟩ (.bool true) (by rw [hcr];rfl)) (grownBy_putObj' _ D (.deferred none)) (fun r e=>by cases e;exact ⟨_,hK',rfl⟩)
  refine ⟨.bool true,?_,Tells.yes hz.out,(hB.setCell (p:=⟨w.heap.size+1+1,0,none⟩) (by show w.heap.size<=w.heap.size+1+1;omega) _).trans (belowK_b (w:=w) (Nat.le_refl _) _ D _ _ (by omega) hK' rfl rfl)⟩
  simp [results,Tryz.f35,go_sem,hc5]
 case stop=>
  rintro D c pre W hD ⟨k,hk,hdk,-⟩ ⟨⟨rfl,hcr⟩,hB⟩ hK
  have hz:Hid (¬ x.y.Fo X.y):=fun h=>by
   have h1:=(HD.out k (by have h2:=HNN.out;have h3:k<x.hn:=hk;omega)).2 (HF3.out h k (by have h2:=HNN.out;have h3:k<x.hn:=hk;omega))
   omega
  gi_wp2
  refine ⟨by simp,.inl ⟨_,_,rfl,run_takeDeferred hK,?_⟩⟩
  have hc5:=cell_kept hcr (grownBy_putObj' _ D (.deferred none)) (fun r e=>by cases e;exact ⟨_,hK,rfl⟩)
  refine ⟨.bool false,?_,Tells.no hz.out,hB.trans (belowK_b (w:=w) (Nat.le_refl _) W D _ _ (by omega) hK rfl rfl)⟩
  simp [results,Tryz.f35,go_sem,hc5]
theorem szSys_smallL (x:SysIn) (L:Int) (w:World) (hr:x.Row w) (hL:L<=1048576) (h:(x.size:Int)<=L):
  Calls Tryz.prog 17 #[sysV x.pa x.pn x.pc x.sa x.sn x.sc x.wa x.wn x.wc x.ha x.hn x.hc,.int .i64 L] w fun e w'=>e=.returned (.int .i64 (L - (x.size:Nat)))/\Below w.heap.size w w':=by
 have HR:Hid (x.Row w):=hr
 have HLL:Hid (L<=1048576):=hL
 have hh:x.size=x.pn+sumL x.pL x.pn+(x.sn+sumL (lenS x.sS) x.sn)+(x.wn+sumL x.wL x.wn)+(x.hn+sumL x.hL x.hn):=rfl
 generalize e1:L - x.pn - (sumL x.pL x.pn:Nat)=L1
 generalize e2:L1 - x.sn - (sumL (lenS x.sS) x.sn:Nat)=L2
 generalize e3:L2 - x.wn - (sumL x.wL x.wn:Nat)=L3
 have n1:¬ L1<0:=by omega
 have n2:¬ L2<0:=by omega
 have n3:¬ L3<0:=by omega
 have n4:¬ L3 - x.hn - (sumL x.hL x.hn:Nat)<0:=by omega
 have q1:((x.pn:Int)+(sumL x.pL x.pn:Nat)<=L):=by omega
 have q2:((x.sn:Int)+(sumL (lenS x.sS) x.sn:Nat)<=L1)/\L1<=1048576:=by omega
 have q3:((x.wn:Int)+(sumL x.wL x.wn:Nat)<=L2)/\L2<=1048576:=by omega
 have q4:((x.hn:Int)+(sumL x.hL x.hn:Nat)<=L3)/\L3<=1048576:=by omega
 have e4:L3 - x.hn - (sumL x.hL x.hn:Nat)=L - (x.size:Nat):=by omega
 have E1:Hid (L - x.pn - (sumL x.pL x.pn:Nat)=L1):=e1
 have E2:Hid (L1 - x.sn - (sumL (lenS x.sS) x.sn:Nat)=L2):=e2
 have E3:Hid (L2 - x.wn - (sumL x.wL x.wn:Nat)=L3):=e3
 have E4:Hid (L3 - x.hn - (sumL x.hL x.hn:Nat)=L - (x.size:Nat)):=e4
 have Q:Hid (((x.pn:Int)+(sumL x.pL x.pn:Nat)<=L)/\(((x.sn:Int)+(sumL (lenS x.sS) x.sn:Nat)<=L1)/\L1<=1048576)/\(((x.wn:Int)+(sumL x.wL x.wn:Nat)<=L2)/\L2<=1048576)/\(((x.hn:Int)+(sumL x.hL x.hn:Nat)<=L3)/\L3<=1048576)):=⟨q1,q2,q3,q4⟩
 rw [e4] at n4
 clear hr hL h hh e1 e2 e3 e4 q1 q2 q3 q4
 go_enter Tryz.func17,Tryz.ntmps17
 go_wp2_with fail
 refine (szInsSS_small _ _ _ _ x.pL _ _ _ (HR.out.p.below (by go_grown)) Q.out.1 (HLL.out)).mono ?_
 rintro e w1 ⟨rfl,rfl⟩
 rw [E1.out]
 go_wp2_with fail
 refine (szStateS_small _ _ _ x.sQ _ _ (HR.out.s.below (by go_grown)) Q.out.2.1.1 Q.out.2.1.2).mono ?_
 rintro e w2 ⟨rfl,b2⟩
 rw [show ((sumL (lenS fun i=>(x.sQ i).s) x.sn:Nat):Int)=(sumL (lenS x.sS) x.sn:Nat) from rfl,E2.out]
 have B2:Hid (Below w.heap.size w w2):=below_up (by go_grown) b2 (by simp)
 have hw2:=b2.size
 obtain ⟨hc2,hf2⟩:=bcell b2
 clear b2
 go_wp2_with fail
 refine (szItemSS_small _ _ _ _ x.wL _ _ _ (HR.out.w.below B2.out) Q.out.2.2.1.1 Q.out.2.2.1.2).mono ?_
 rintro e w3 ⟨rfl,rfl⟩
 rw [E3.out]
 go_wp2_with fail
 refine (szEventSS_small _ _ _ _ x.hL _ _ _ (HR.out.h.below B2.out) Q.out.2.2.2.1 Q.out.2.2.2.2).mono ?_
 rintro e w4 ⟨rfl,rfl⟩
 rw [E4.out]
 go_wp2
 go_ret
 exact ⟨rfl,B2.out⟩
theorem szSys_greatL (x:SysIn) (L:Int) (w:World) (hr:x.Row w) (hm:x.Max) (h0:0<=L) (hL:L<=1048576) (h:L<(x.size:Int)):
  Calls Tryz.prog 17 #[sysV x.pa x.pn x.pc x.sa x.sn x.sc x.wa x.wn x.wc x.ha x.hn x.hc,.int .i64 L] w fun e w'=>e=.returned (.int .i64 (-1))/\Below w.heap.size w w':=by
 have HR:Hid (x.Row w):=hr
 have HM:Hid x.Max:=hm
 have HLL:Hid (0<=L/\L<=1048576):=⟨h0,hL⟩
 have hh:x.size=x.pn+sumL x.pL x.pn+(x.sn+sumL (lenS x.sS) x.sn)+(x.wn+sumL x.wL x.wn)+(x.hn+sumL x.hL x.hn):=rfl
 have HH:Hid (L<((x.pn+sumL x.pL x.pn+(x.sn+sumL (lenS x.sS) x.sn)+(x.wn+sumL x.wL x.wn)+(x.hn+sumL x.hL x.hn):Nat):Int)):=hh ▸ h
 clear hr h hh hm h0 hL
 by_cases q1:(x.pn:Int)+(sumL x.pL x.pn:Nat)<=L
 case neg=>
  have Q1:Hid (L<(x.pn:Int)+(sumL x.pL x.pn:Nat)):=by show L<_;omega
  clear q1
  go_enter Tryz.func17,Tryz.ntmps17
  go_wp2_with fail
  refine (szInsSS_great _ _ _ _ x.pL _ _ _ (HR.out.p.below (by go_grown)) Q1.out HLL.out.1 HLL.out.2 HM.out.p.1 HM.out.p.2).mono ?_
  rintro e w1 ⟨rfl,rfl⟩
  go_wp2
  go_ret
  exact ⟨rfl,by go_grown⟩
 generalize e1:L - x.pn - (sumL x.pL x.pn:Nat)=L1
 have E1:Hid (L - x.pn - (sumL x.pL x.pn:Nat)=L1):=e1
 have n1:¬ L1<0:=by omega
 have n1':0<=L1/\L1<=1048576:=by have:=HLL.out;omega
 have N1:Hid (0<=L1/\L1<=1048576):=n1'
 have Q1:Hid ((x.pn:Int)+(sumL x.pL x.pn:Nat)<=L):=q1
 by_cases q2:(x.sn:Int)+(sumL (lenS x.sS) x.sn:Nat)<=L1
 case neg=>
  have Q2:Hid (L1<(x.sn:Int)+(sumL (lenS x.sS) x.sn:Nat)):=by show L1<_;omega
  clear q1 q2 e1 n1'
  go_enter Tryz.func17,Tryz.ntmps17
  go_wp2_with fail
  refine (szInsSS_small _ _ _ _ x.pL _ _ _ (HR.out.p.below (by go_grown)) Q1.out (HLL.out.2)).mono ?_
  rintro e w1 ⟨rfl,rfl⟩
  rw [E1.out]
  go_wp2_with fail
  refine (szStateS_great _ _ _ x.sQ _ _ (HR.out.s.below (by go_grown)) Q2.out N1.out.1 N1.out.2 HM.out.s.1 HM.out.s.2).mono ?_
  rintro e w2 ⟨rfl,b2⟩
  have B2:Hid (Below w.heap.size w w2):=below_up (by go_grown) b2 (by simp)
  go_wp2
  go_ret
  exact ⟨rfl,B2.out⟩
 generalize e2:L1 - x.sn - (sumL (lenS x.sS) x.sn:Nat)=L2
 have E2:Hid (L1 - x.sn - (sumL (lenS x.sS) x.sn:Nat)=L2):=e2
 have n2:¬ L2<0:=by omega
 have n2':0<=L2/\L2<=1048576:=by have:=HLL.out;omega
 have N2:Hid (0<=L2/\L2<=1048576):=n2'
 have Q2:Hid ((x.sn:Int)+(sumL (lenS x.sS) x.sn:Nat)<=L1):=q2
 by_cases q3:(x.wn:Int)+(sumL x.wL x.wn:Nat)<=L2
 case neg=>
  have Q3:Hid (L2<(x.wn:Int)+(sumL x.wL x.wn:Nat)):=by show L2<_;omega
  clear q1 q2 q3 e1 e2 n1' n2'
  go_enter Tryz.func17,Tryz.ntmps17
  go_wp2_with fail
  refine (szInsSS_small _ _ _ _ x.pL _ _ _ (HR.out.p.below (by go_grown)) Q1.out (HLL.out.2)).mono ?_
  rintro e w1 ⟨rfl,rfl⟩
  rw [E1.out]
  go_wp2_with fail
  refine (szStateS_small _ _ _ x.sQ _ _ (HR.out.s.below (by go_grown)) Q2.out N1.out.2).mono ?_
  rintro e w2 ⟨rfl,b2⟩
  rw [show ((sumL (lenS fun i=>(x.sQ i).s) x.sn:Nat):Int)=(sumL (lenS x.sS) x.sn:Nat) from rfl,E2.out]
  have B2:Hid (Below w.heap.size w w2):=below_up (by go_grown) b2 (by simp)
  have hw2:=b2.size
  obtain ⟨hc2,hf2⟩:=bcell b2
  clear b2
  go_wp2_with fail
  refine (szItemSS_great _ _ _ _ x.wL _ _ _ (HR.out.w.below B2.out) Q3.out N2.out.1 N2.out.2 HM.out.w.1 HM.out.w.2).mono ?_
  rintro e w3 ⟨rfl,rfl⟩
  go_wp2
  go_ret
  exact ⟨rfl,B2.out⟩
 generalize e3:L2 - x.wn - (sumL x.wL x.wn:Nat)=L3
 have E3:Hid (L2 - x.wn - (sumL x.wL x.wn:Nat)=L3):=e3
 have n3:¬ L3<0:=by omega
 have n3':0<=L3/\L3<=1048576:=by have:=HLL.out;omega
 have N3:Hid (0<=L3/\L3<=1048576):=n3'
 have Q3:Hid ((x.wn:Int)+(sumL x.wL x.wn:Nat)<=L2):=q3
 have Q4:Hid (L3<(x.hn:Int)+(sumL x.hL x.hn:Nat)):=by
  show L3<_
  have:=HH.out
  omega
 clear q1 q2 q3 e1 e2 e3 n1' n2' n3' HH
 go_enter Tryz.func17,Tryz.ntmps17
 go_wp2_with fail
 refine (szInsSS_small _ _ _ _ x.pL _ _ _ (HR.out.p.below (by go_grown)) Q1.out (HLL.out.2)).mono ?_
 rintro e w1 ⟨rfl,rfl⟩
 rw [E1.out]
 go_wp2_with fail
 refine (szStateS_small _ _ _ x.sQ _ _ (HR.out.s.below (by go_grown)) Q2.out N1.out.2).mono ?_
 rintro e w2 ⟨rfl,b2⟩
 rw [show ((sumL (lenS fun i=>(x.sQ i).s) x.sn:Nat):Int)=(sumL (lenS x.sS) x.sn:Nat) from rfl,E2.out]
 have B2:Hid (Below w.heap.size w w2):=below_up (by go_grown) b2 (by simp)
 have hw2:=b2.size
 obtain ⟨hc2,hf2⟩:=bcell b2
 clear b2
 go_wp2_with fail
 refine (szItemSS_small _ _ _ _ x.wL _ _ _ (HR.out.w.below B2.out) Q3.out N2.out.2).mono ?_
 rintro e w3 ⟨rfl,rfl⟩
 rw [E3.out]
 go_wp2_with fail
 refine (szEventSS_great _ _ _ _ x.hL _ _ _ (HR.out.h.below B2.out) Q4.out N3.out.1 N3.out.2 HM.out.h.1 HM.out.h.2).mono ?_
 rintro e w4 ⟨rfl,rfl⟩
 go_wp2
 go_ret
 exact ⟨rfl,B2.out⟩
open Go.Sort
structure P2 (W:World) (x X:SysIn) (w:World):Prop where
 be:Below W.heap.size W w
 bx:BoxC w W.heap.size (.slice x.pa x.pn x.pc) (.slice x.sa x.sn x.sc) (.slice x.wa x.wn x.wc) (.slice x.ha x.hn x.hc)
 bX:BoxC w (W.heap.size+1) (.slice X.pa X.pn X.pc) (.slice X.sa X.sn X.sc) (.slice X.wa X.wn X.wc) (.slice X.ha X.hn X.hc)
theorem P2.below {W:World} {x X:SysIn} {w w':World} (h:P2 W x X w) (hb:Below w.heap.size w w'):P2 W x X w':=⟨h.be.trans (hb.mono h.be.size),h.bx.below hb,h.bX.below hb⟩
theorem P2.new {W:World} {x X:SysIn} (t:TypeId):P2 W x X ((W.alloc (.cells #[.slice x.pa x.pn x.pc,.slice x.sa x.sn x.sc,.slice x.wa x.wn x.wc,.slice x.ha x.hn x.hc] t)).alloc (.cells #[.slice X.pa X.pn X.pc,.slice X.sa X.sn X.sc,.slice X.wa X.wn X.wc,.slice X.ha X.hn X.hc] t)):=by
 have a1:=below_allocS W (.cells #[.slice x.pa x.pn x.pc,.slice x.sa x.sn x.sc,.slice x.wa x.wn x.wc,.slice x.ha x.hn x.hc] t)
 have a2:=below_allocS (W.alloc (.cells #[.slice x.pa x.pn x.pc,.slice x.sa x.sn x.sc,.slice x.wa x.wn x.wc,.slice x.ha x.hn x.hc] t)) (.cells #[.slice X.pa X.pn X.pc,.slice X.sa X.sn X.sc,.slice X.wa X.wn X.wc,.slice X.ha X.hn X.hc] t)
 have e1:(W.alloc (.cells #[.slice x.pa x.pn x.pc,.slice x.sa x.sn x.sc,.slice x.wa x.wn x.wc,.slice x.ha x.hn x.hc] t)).heap.size=W.heap.size+1:=by simp
 have n2:=BoxC.new (W.alloc (.cells #[.slice x.pa x.pn x.pc,.slice x.sa x.sn x.sc,.slice x.wa x.wn x.wc,.slice x.ha x.hn x.hc] t)) (.slice X.pa X.pn X.pc) (.slice X.sa X.sn X.sc) (.slice X.wa X.wn X.wc) (.slice X.ha X.hn X.hc) t
 rw [e1] at n2
 exact ⟨a1.trans (a2.mono (by omega)),(BoxC.new W _ _ _ _ t).below a2,n2⟩
theorem isSys_le {w:World} {lo hi:Nat} {x:SysIn} {v:Value} (o:IsSys w lo hi x v):hi<=w.heap.size:=by
 obtain ⟨_,_,_,_,_,_,_,_,_,_,_,q⟩:=o
 exact q.hi.2.2.2.1
theorem tells_is {P:Prop} {T:Bool} {e:Ending} (hT:T=true ↔ P) (h:Tells e P):e=.returned (.bool T):=by
 obtain ⟨t,rfl,ht⟩:=h
 rw [show t=T from Bool.eq_iff_iff.2 (ht.trans hT.symm)]
theorem forthLaw_small (x X:SysIn) (W:World) (hs:x.size+X.size<=1048576) (hA:x.Ok W) (hA':X.Ok W) (hV:W.cell? ⟨0,0,none⟩=some (.iface 272 (.agg #[.pointer (some ⟨1,172,none⟩)]))):
  Calls Tryz.prog 8 #[sysV x.pa x.pn x.pc x.sa x.sn x.sc x.wa x.wn x.wc x.ha x.hn x.hc,sysV X.pa X.pn X.pc X.sa X.sn X.sc X.wa X.wn X.wc X.ha X.hn X.hc] W fun e w'=>e=.returned (.bool true)/\Below W.heap.size W w':=by
 have HS:Hid (x.size<=1048576/\X.size<=1048576/\(X.size:Int)<=1048576 - (x.size:Nat)/\(x.size:Int)<=1048576):=by
  show _/\_/\_/\_
  omega
 have HA:Hid (x.Ok W/\X.Ok W):=⟨hA,hA'⟩
 have HV:Hid (W.cell? ⟨0,0,none⟩=some (.iface 272 (.agg #[.pointer (some ⟨1,172,none⟩)]))):=hV
 have HV0:Hid (0<W.heap.size):=zJ W _ hV
 have hsz:¬ (1048576 - (x.size:Int)<0):=by omega
 have hsz2:¬ (1048576 - (x.size:Int) - (X.size:Int)<0):=by omega
 have X0:Hid (P2 W x X ((W.alloc (oQ4 x.pa x.pn x.pc x.sa x.sn x.sc x.wa x.wn x.wc x.ha x.hn x.hc)).alloc (oQ4 X.pa X.pn X.pc X.sa X.sn X.sc X.wa X.wn X.wc X.ha X.hn X.hc))):=P2.new _
 obtain ⟨T,hT⟩:∃ T:Bool,(T=true ↔ x.y.Fo X.y):=by classical exact ⟨decide (x.y.Fo X.y),by simp⟩
 have HT:Hid (T=true ↔ x.y.Fo X.y):=hT
 clear hs hA hA' hV hT
 go_enter Tryz.func8,Tryz.ntmps8
 go_wp2_with fail
 generalize ((W.alloc (oQ4 x.pa x.pn x.pc x.sa x.sn x.sc x.wa x.wn x.wc x.ha x.hn x.hc)).alloc (oQ4 X.pa X.pn X.pc X.sa X.sn X.sc X.wa X.wn X.wc X.ha X.hn X.hc))=wA at *
 refine (szSys_smallL x 1048576 wA (HA.out.1.row.below X0.out.be) (Int.le_refl _) HS.out.2.2.2).mono ?_
 rintro e w0 ⟨rfl,b0⟩
 have X1:Hid (P2 W x X w0):=X0.out.below b0
 clear b0 X0
 obtain ⟨m0,m1,m2,m3⟩:=X1.out.bX
 go_wp2_with fail
 clear m0 m1 m2 m3
 refine (szSys_smallL X (1048576 - (x.size:Nat)) w0 (HA.out.2.row.below X1.out.be) (by omega) HS.out.2.2.1).mono ?_
 rintro e w1 ⟨rfl,b1⟩
 have X2:Hid (P2 W x X w1):=X1.out.below b1
 clear b1 X1
 go_upto_region 8 with fail
 have q0:Below w1.heap.size w1 w1.drew:=(Below.refl w1.heap.size w1).drew
 have BX:Hid (BoxC w1 W.heap.size (.slice x.pa x.pn x.pc) (.slice x.sa x.sn x.sc) (.slice x.wa x.wn x.wc) (.slice x.ha x.hn x.hc)/\BoxC w1 (W.heap.size+1) (.slice X.pa X.pn X.pc) (.slice X.sa X.sn X.sc) (.slice X.wa X.wn X.wc) (.slice X.ha X.hn X.hc)):=⟨X2.out.bx,X2.out.bX⟩
 refine wp_region_G (fun w'=>(w'.cell? ⟨W.heap.size,0,none⟩=some (.slice x.pa x.pn x.pc)/\w'.cell? ⟨W.heap.size,1,none⟩=some (.slice x.sa x.sn x.sc)/\w'.cell? ⟨W.heap.size,2,none⟩=some (.slice x.wa x.wn x.wc)/\w'.cell? ⟨W.heap.size,3,none⟩=some (.slice x.ha x.hn x.hc))/\(w'.cell? ⟨(W.heap.size+1),0,none⟩=some (.slice X.pa X.pn X.pc)/\w'.cell? ⟨(W.heap.size+1),1,none⟩=some (.slice X.sa X.sn X.sc)/\w'.cell? ⟨(W.heap.size+1),2,none⟩=some (.slice X.wa X.wn X.wc)/\w'.cell? ⟨(W.heap.size+1),3,none⟩=some (.slice X.ha X.hn X.hc))) (fun _=>false) (by kernel_rfl) ?_
 have hHeld:(fun w':World=>(w'.cell? ⟨W.heap.size,0,none⟩=some (.slice x.pa x.pn x.pc)/\w'.cell? ⟨W.heap.size,1,none⟩=some (.slice x.sa x.sn x.sc)/\w'.cell? ⟨W.heap.size,2,none⟩=some (.slice x.wa x.wn x.wc)/\w'.cell? ⟨W.heap.size,3,none⟩=some (.slice x.ha x.hn x.hc))/\(w'.cell? ⟨(W.heap.size+1),0,none⟩=some (.slice X.pa X.pn X.pc)/\w'.cell? ⟨(W.heap.size+1),1,none⟩=some (.slice X.sa X.sn X.sc)/\w'.cell? ⟨(W.heap.size+1),2,none⟩=some (.slice X.wa X.wn X.wc)/\w'.cell? ⟨(W.heap.size+1),3,none⟩=some (.slice X.ha X.hn X.hc))) w1.drew:=⟨BX.out.1.below q0,BX.out.2.below q0⟩
 refine wpGT_of [0,2] ?_
 iterate 2 (refine wpGT_take rfl hHeld ?_;apply Exists.intro;refine ⟨fun wq hSw=>?_,?_⟩;(· ((try dsimp only at hSw);go_simp;try with_reducible rfl));(try simp only [Act.put,zD,zE,zF]))
 refine wpGT_nil ?_
 refine wpG_one 1 rfl (by kernel_rfl) (fun K hK=>?_)
 refine stepR_callD rfl 19 _ _ rfl #[sysV x.pa x.pn x.pc x.sa x.sn x.sc x.wa x.wn x.wc x.ha x.hn x.hc] (by simp [Act.eval]) (yB Tryz.func19 (by kernel_rfl) rfl) (toSys_any x W w1.drew HS.out.1 HA.out.1 (X2.out.be.trans (q0.mono X2.out.be.size))) ?_
 rintro e w2 ⟨v2,rfl,o2,b2⟩
 refine ⟨_,rfl,?_⟩
 obtain ⟨x2,rfl,g2,y2,cp2⟩:=o2.g2
 have q2:Below w1.heap.size w1 w2:=q0.trans (b2.mono q0.size)
 have hHeld5:(fun w':World=>(w'.cell? ⟨W.heap.size,0,none⟩=some (.slice x.pa x.pn x.pc)/\w'.cell? ⟨W.heap.size,1,none⟩=some (.slice x.sa x.sn x.sc)/\w'.cell? ⟨W.heap.size,2,none⟩=some (.slice x.wa x.wn x.wc)/\w'.cell? ⟨W.heap.size,3,none⟩=some (.slice x.ha x.hn x.hc))/\(w'.cell? ⟨(W.heap.size+1),0,none⟩=some (.slice X.pa X.pn X.pc)/\w'.cell? ⟨(W.heap.size+1),1,none⟩=some (.slice X.sa X.sn X.sc)/\w'.cell? ⟨(W.heap.size+1),2,none⟩=some (.slice X.wa X.wn X.wc)/\w'.cell? ⟨(W.heap.size+1),3,none⟩=some (.slice X.ha X.hn X.hc))) w2:=⟨BX.out.1.below q2,BX.out.2.below q2⟩
 refine hK.out _ _ (fun _=>hHeld5) ?_
 clear hHeld
 have hHeld:=hHeld5
 clear hHeld5 hK K
 (try simp only [Act.put,zD,zE,zF])
 refine wpG_one 3 rfl (by kernel_rfl) (fun K hK=>?_)
 refine stepR_callD rfl 19 _ _ rfl #[sysV X.pa X.pn X.pc X.sa X.sn X.sc X.wa X.wn X.wc X.ha X.hn X.hc] (by simp [Act.eval]) (yB Tryz.func19 (by kernel_rfl) rfl) (toSys_any X W w2 HS.out.2.1 HA.out.2 (X2.out.be.trans (q2.mono X2.out.be.size))) ?_
 rintro e w3 ⟨v3,rfl,o3,b3⟩
 refine ⟨_,rfl,?_⟩
 obtain ⟨x3,rfl,g3,y3,cp3⟩:=o3.g2
 have q3:Below w1.heap.size w1 w3:=q2.trans (b3.mono q2.size)
 have hHeld5:(fun w':World=>(w'.cell? ⟨W.heap.size,0,none⟩=some (.slice x.pa x.pn x.pc)/\w'.cell? ⟨W.heap.size,1,none⟩=some (.slice x.sa x.sn x.sc)/\w'.cell? ⟨W.heap.size,2,none⟩=some (.slice x.wa x.wn x.wc)/\w'.cell? ⟨W.heap.size,3,none⟩=some (.slice x.ha x.hn x.hc))/\(w'.cell? ⟨(W.heap.size+1),0,none⟩=some (.slice X.pa X.pn X.pc)/\w'.cell? ⟨(W.heap.size+1),1,none⟩=some (.slice X.sa X.sn X.sc)/\w'.cell? ⟨(W.heap.size+1),2,none⟩=some (.slice X.wa X.wn X.wc)/\w'.cell? ⟨(W.heap.size+1),3,none⟩=some (.slice X.ha X.hn X.hc))) w3:=⟨BX.out.1.below q3,BX.out.2.below q3⟩
 refine hK.out _ _ (fun _=>hHeld5) ?_
 clear hHeld
 have hHeld:=hHeld5
 clear hHeld5 hK K
 (try simp only [Act.put,zD,zE,zF])
 refine wpG_one 4 rfl (by kernel_rfl) (fun K hK=>?_)
 have hc:Calls Tryz.prog 34 #[x2.v,x3.v] w3 fun e w'=>e=.returned (.bool T)/\Below w3.heap.size w3 w':=(specForth_any x2 x3 w3 (g2.below b3) g3 (SysIn.len_of HS.out.1 y2) (SysIn.len_of HS.out.2.1 y3) cp2 cp3).mono fun e w' h=>⟨tells_is (by rw [y2,y3];exact HT.out) h.1,h.2⟩
 refine stepR_callD rfl 34 _ _ rfl #[x2.v,x3.v] (by simp [Act.eval]) (yB Tryz.func34 (by kernel_rfl) rfl) hc ?_
 rintro e w4 ⟨rfl,b4⟩
 refine ⟨_,rfl,?_⟩
 have q4:Below w1.heap.size w1 w4:=q3.trans (b4.mono q3.size)
 have hHeld5:(fun w':World=>(w'.cell? ⟨W.heap.size,0,none⟩=some (.slice x.pa x.pn x.pc)/\w'.cell? ⟨W.heap.size,1,none⟩=some (.slice x.sa x.sn x.sc)/\w'.cell? ⟨W.heap.size,2,none⟩=some (.slice x.wa x.wn x.wc)/\w'.cell? ⟨W.heap.size,3,none⟩=some (.slice x.ha x.hn x.hc))/\(w'.cell? ⟨(W.heap.size+1),0,none⟩=some (.slice X.pa X.pn X.pc)/\w'.cell? ⟨(W.heap.size+1),1,none⟩=some (.slice X.sa X.sn X.sc)/\w'.cell? ⟨(W.heap.size+1),2,none⟩=some (.slice X.wa X.wn X.wc)/\w'.cell? ⟨(W.heap.size+1),3,none⟩=some (.slice X.ha X.hn X.hc))) w4:=⟨BX.out.1.below q4,BX.out.2.below q4⟩
 refine hK.out _ _ (fun _=>hHeld5) ?_
 clear hHeld
 have hHeld:=hHeld5
 clear hHeld5 hK K
 (try simp only [Act.put,zD,zE,zF])
 refine wpG_take 5 rfl hHeld ?_
 apply Exists.intro
 refine ⟨fun wq hSw=>?_,?_⟩
 ·(try dsimp only at hSw)
  go_simp
  try with_reducible rfl
 (try simp only [Act.put,zD,zE,zF])
 refine wpG_done (by kernel_rfl) ?_ _
 have X4:Hid (P2 W x X w4):=X2.out.below q4
 clear hHeld q0 q2 q3 q4 b2 b3 b4 g2 g3 y2 y3 cp2 cp3 o2 o3 hc X2 BX
 obtain ⟨p0,p1,p2,p3⟩:=X4.out.bx
 go_wp2_with fail
 clear p0 p1 p2 p3
 refine (toSys_any x W w4 HS.out.1 HA.out.1 X4.out.be).mono ?_
 rintro e w5 ⟨v5,rfl,o5,b5⟩
 obtain ⟨x5,rfl,g5,y5,cp5⟩:=o5.g2
 have ba:Below w5.heap.size w5 (w5.alloc (oQ5 x5.pa x5.pn x5.pc x5.sa x5.sn x5.sc x5.wa x5.wn x5.wc x5.ha x5.hn x5.hc)):=below_allocS _ _
 have X5:Hid (P2 W x X (w5.alloc (oQ5 x5.pa x5.pn x5.pc x5.sa x5.sn x5.sc x5.wa x5.wn x5.wc x5.ha x5.hn x5.hc))):=(X4.out.below b5).below ba
 have I5:Hid (IsSys (w5.alloc (oQ5 x5.pa x5.pn x5.pc x5.sa x5.sn x5.sc x5.wa x5.wn x5.wc x5.ha x5.hn x5.hc)) w4.heap.size w5.heap.size x x5.v/\SysG (w5.alloc (oQ5 x5.pa x5.pn x5.pc x5.sa x5.sn x5.sc x5.wa x5.wn x5.wc x5.ha x5.hn x5.hc)) x5/\x5.y=x.y/\BoxC (w5.alloc (oQ5 x5.pa x5.pn x5.pc x5.sa x5.sn x5.sc x5.wa x5.wn x5.wc x5.ha x5.hn x5.hc)) w5.heap.size (.slice x5.pa x5.pn x5.pc) (.slice x5.sa x5.sn x5.sc) (.slice x5.wa x5.wn x5.wc) (.slice x5.ha x5.hn x5.hc)):=⟨o5.below ba (Nat.le_refl _),g5.below ba,y5,BoxC.new w5 _ _ _ _ _⟩
 clear b5 o5 g5 y5 cp5 ba X4
 obtain ⟨m0,m1,m2,m3⟩:=X5.out.bX
 go_wp2_with fail
 clear m0 m1 m2 m3
 generalize w5.alloc (oQ5 x5.pa x5.pn x5.pc x5.sa x5.sn x5.sc x5.wa x5.wn x5.wc x5.ha x5.hn x5.hc)=wB at *
 generalize w5.heap.size=N5 at *
 refine (toSys_any X W wB HS.out.2.1 HA.out.2 X5.out.be).mono ?_
 rintro e w6 ⟨v6,rfl,o6,b6⟩
 obtain ⟨x6,rfl,g6,y6,cp6⟩:=o6.g2
 have ba:Below w6.heap.size w6 (w6.alloc (oQ5 x6.pa x6.pn x6.pc x6.sa x6.sn x6.sc x6.wa x6.wn x6.wc x6.ha x6.hn x6.hc)):=below_allocS _ _
 have bb:Below wB.heap.size wB (w6.alloc (oQ5 x6.pa x6.pn x6.pc x6.sa x6.sn x6.sc x6.wa x6.wn x6.wc x6.ha x6.hn x6.hc)):=b6.trans (ba.mono b6.size)
 have X6:Hid (P2 W x X (w6.alloc (oQ5 x6.pa x6.pn x6.pc x6.sa x6.sn x6.sc x6.wa x6.wn x6.wc x6.ha x6.hn x6.hc))):=X5.out.below bb
 have I6:Hid (IsSys (w6.alloc (oQ5 x6.pa x6.pn x6.pc x6.sa x6.sn x6.sc x6.wa x6.wn x6.wc x6.ha x6.hn x6.hc)) wB.heap.size w6.heap.size X x6.v/\SysG (w6.alloc (oQ5 x6.pa x6.pn x6.pc x6.sa x6.sn x6.sc x6.wa x6.wn x6.wc x6.ha x6.hn x6.hc)) x6/\x6.y=X.y/\BoxC (w6.alloc (oQ5 x6.pa x6.pn x6.pc x6.sa x6.sn x6.sc x6.wa x6.wn x6.wc x6.ha x6.hn x6.hc)) w6.heap.size (.slice x6.pa x6.pn x6.pc) (.slice x6.sa x6.sn x6.sc) (.slice x6.wa x6.wn x6.wc) (.slice x6.ha x6.hn x6.hc)):=⟨o6.below ba (Nat.le_refl _),g6.below ba,y6,BoxC.new w6 _ _ _ _ _⟩
 have J5:Hid (IsSys (w6.alloc (oQ5 x6.pa x6.pn x6.pc x6.sa x6.sn x6.sc x6.wa x6.wn x6.wc x6.ha x6.hn x6.hc)) w4.heap.size N5 x x5.v/\SysG (w6.alloc (oQ5 x6.pa x6.pn x6.pc x6.sa x6.sn x6.sc x6.wa x6.wn x6.wc x6.ha x6.hn x6.hc)) x5/\x5.y=x.y/\BoxC (w6.alloc (oQ5 x6.pa x6.pn x6.pc x6.sa x6.sn x6.sc x6.wa x6.wn x6.wc x6.ha x6.hn x6.hc)) N5 (.slice x5.pa x5.pn x5.pc) (.slice x5.sa x5.sn x5.sc) (.slice x5.wa x5.wn x5.wc) (.slice x5.ha x5.hn x5.hc)):=⟨I5.out.1.below bb (isSys_le I5.out.1),I5.out.2.1.below bb,I5.out.2.2.1,I5.out.2.2.2.below bb⟩
 clear b6 o6 g6 y6 cp6 ba bb X5 I5
 obtain ⟨k0,k1,k2,k3⟩:=J5.out.2.2.2
 obtain ⟨m0,m1,m2,m3⟩:=I6.out.2.2.2
 go_wp2_with fail
 clear k0 k1 k2 k3 m0 m1 m2 m3
 generalize w6.alloc (oQ5 x6.pa x6.pn x6.pc x6.sa x6.sn x6.sc x6.wa x6.wn x6.wc x6.ha x6.hn x6.hc)=wC at *
 generalize w6.heap.size=N6 at *
 generalize wB.heap.size=NB at *
 clear w6 wB
 refine (implForth_any x5 x6 wC J5.out.2.1 I6.out.2.1 (SysIn.len_of HS.out.1 J5.out.2.2.1) (SysIn.len_of HS.out.2.1 I6.out.2.2.1) ((X6.out.be.cell (p:=⟨0,0,none⟩) HV0.out).trans HV.out)).mono ?_
 rintro e w7 ⟨h7,b7⟩
 have h7:=tells_is (by rw [J5.out.2.2.1,I6.out.2.2.1];exact HT.out) h7
 subst h7
 have P8:Hid (P2 W x X w7):=X6.out.below b7
 have I8:Hid (IsSys w7 w4.heap.size N5 x x5.v):=J5.out.1.below b7 (isSys_le J5.out.1)
 have I9:Hid (IsSys w7 NB N6 X x6.v):=I6.out.1.below b7 (isSys_le I6.out.1)
 have B8:Hid (BoxC w7 N5 (.slice x5.pa x5.pn x5.pc) (.slice x5.sa x5.sn x5.sc) (.slice x5.wa x5.wn x5.wc) (.slice x5.ha x5.hn x5.hc)):=J5.out.2.2.2.below b7
 have B9:Hid (BoxC w7 N6 (.slice x6.pa x6.pn x6.pc) (.slice x6.sa x6.sn x6.sc) (.slice x6.wa x6.wn x6.wc) (.slice x6.ha x6.hn x6.hc)):=I6.out.2.2.2.below b7
 clear b7 X6 J5 I6 HT
 go_upto_region 14 with fail
 have q8:Below w7.heap.size w7 w7.drew:=(Below.refl w7.heap.size w7).drew
 refine wp_region_G (fun w'=>(w'.cell? ⟨N5,0,none⟩=some (.slice x5.pa x5.pn x5.pc)/\w'.cell? ⟨N5,1,none⟩=some (.slice x5.sa x5.sn x5.sc)/\w'.cell? ⟨N5,2,none⟩=some (.slice x5.wa x5.wn x5.wc)/\w'.cell? ⟨N5,3,none⟩=some (.slice x5.ha x5.hn x5.hc))/\(w'.cell? ⟨W.heap.size,0,none⟩=some (.slice x.pa x.pn x.pc)/\w'.cell? ⟨W.heap.size,1,none⟩=some (.slice x.sa x.sn x.sc)/\w'.cell? ⟨W.heap.size,2,none⟩=some (.slice x.wa x.wn x.wc)/\w'.cell? ⟨W.heap.size,3,none⟩=some (.slice x.ha x.hn x.hc))) (fun _=>false) (by kernel_rfl) ?_
 have hHeld:(fun w':World=>(w'.cell? ⟨N5,0,none⟩=some (.slice x5.pa x5.pn x5.pc)/\w'.cell? ⟨N5,1,none⟩=some (.slice x5.sa x5.sn x5.sc)/\w'.cell? ⟨N5,2,none⟩=some (.slice x5.wa x5.wn x5.wc)/\w'.cell? ⟨N5,3,none⟩=some (.slice x5.ha x5.hn x5.hc))/\(w'.cell? ⟨W.heap.size,0,none⟩=some (.slice x.pa x.pn x.pc)/\w'.cell? ⟨W.heap.size,1,none⟩=some (.slice x.sa x.sn x.sc)/\w'.cell? ⟨W.heap.size,2,none⟩=some (.slice x.wa x.wn x.wc)/\w'.cell? ⟨W.heap.size,3,none⟩=some (.slice x.ha x.hn x.hc))) w7.drew:=⟨B8.out.below q8,P8.out.bx.below q8⟩
 refine wpGT_of [0,1] ?_
 iterate 2 (refine wpGT_take rfl hHeld ?_;apply Exists.intro;refine ⟨fun wq hSw=>?_,?_⟩;(· ((try dsimp only at hSw);go_simp;try with_reducible rfl));(try simp only [Act.put,zD,zE,zF]))
 refine wpGT_nil ?_
 refine wpG_one 2 rfl (by kernel_rfl) (fun K hK=>?_)
 refine stepR_callD rfl 19 _ _ rfl #[sysV x.pa x.pn x.pc x.sa x.sn x.sc x.wa x.wn x.wc x.ha x.hn x.hc] (by simp [Act.eval]) (yB Tryz.func19 (by kernel_rfl) rfl) (toSys_any x W w7.drew HS.out.1 HA.out.1 (P8.out.be.trans (q8.mono P8.out.be.size))) ?_
 rintro e u8 ⟨v8,rfl,o8,b8⟩
 refine ⟨_,rfl,?_⟩
 have d8:Below w7.heap.size w7 u8:=q8.trans (b8.mono q8.size)
 have hHeld5:(fun w':World=>(w'.cell? ⟨N5,0,none⟩=some (.slice x5.pa x5.pn x5.pc)/\w'.cell? ⟨N5,1,none⟩=some (.slice x5.sa x5.sn x5.sc)/\w'.cell? ⟨N5,2,none⟩=some (.slice x5.wa x5.wn x5.wc)/\w'.cell? ⟨N5,3,none⟩=some (.slice x5.ha x5.hn x5.hc))/\(w'.cell? ⟨W.heap.size,0,none⟩=some (.slice x.pa x.pn x.pc)/\w'.cell? ⟨W.heap.size,1,none⟩=some (.slice x.sa x.sn x.sc)/\w'.cell? ⟨W.heap.size,2,none⟩=some (.slice x.wa x.wn x.wc)/\w'.cell? ⟨W.heap.size,3,none⟩=some (.slice x.ha x.hn x.hc))) u8:=⟨B8.out.below d8,P8.out.bx.below d8⟩
 refine hK.out _ _ (fun _=>hHeld5) ?_
 clear hHeld
 have hHeld:=hHeld5
 clear hHeld5 hK K
 (try simp only [Act.put,zD,zE,zF])
 refine wpG_one 3 rfl (by kernel_rfl) (fun K hK=>?_)
 refine stepR_callD rfl 22 _ _ rfl #[x5.v,v8] (by simp [Act.eval,SysIn.v]) (yB Tryz.func22 (by kernel_rfl) rfl) (eqSys_same x _ _ _ _ x5.v v8 u8 HS.out.1 (I8.out.below d8 (isSys_le I8.out)) o8) ?_
 rintro e y8 ⟨rfl,c8⟩
 refine ⟨_,rfl,?_⟩
 have f8:Below w7.heap.size w7 y8:=d8.trans (c8.mono d8.size)
 have hHeld5:(fun w':World=>(w'.cell? ⟨N5,0,none⟩=some (.slice x5.pa x5.pn x5.pc)/\w'.cell? ⟨N5,1,none⟩=some (.slice x5.sa x5.sn x5.sc)/\w'.cell? ⟨N5,2,none⟩=some (.slice x5.wa x5.wn x5.wc)/\w'.cell? ⟨N5,3,none⟩=some (.slice x5.ha x5.hn x5.hc))/\(w'.cell? ⟨W.heap.size,0,none⟩=some (.slice x.pa x.pn x.pc)/\w'.cell? ⟨W.heap.size,1,none⟩=some (.slice x.sa x.sn x.sc)/\w'.cell? ⟨W.heap.size,2,none⟩=some (.slice x.wa x.wn x.wc)/\w'.cell? ⟨W.heap.size,3,none⟩=some (.slice x.ha x.hn x.hc))) y8:=⟨B8.out.below f8,P8.out.bx.below f8⟩
 refine hK.out _ _ (fun _=>hHeld5) ?_
 clear hHeld
 have hHeld:=hHeld5
 clear hHeld5 hK K
 (try simp only [Act.put,zD,zE,zF])
 refine wpG_take 4 rfl hHeld ?_
 apply Exists.intro
 refine ⟨fun wq hSw=>?_,?_⟩
 ·(try dsimp only at hSw)
  go_simp
  try with_reducible rfl
 (try simp only [Act.put,zD,zE,zF])
 refine wpG_done (by kernel_rfl) ?_ _
 clear hHeld
 have P9:Hid (P2 W x X y8):=P8.out.below f8
 have J9:Hid (IsSys y8 NB N6 X x6.v):=I9.out.below f8 (isSys_le I9.out)
 have C9:Hid (BoxC y8 N6 (.slice x6.pa x6.pn x6.pc) (.slice x6.sa x6.sn x6.sc) (.slice x6.wa x6.wn x6.wc) (.slice x6.ha x6.hn x6.hc)):=B9.out.below f8
 clear P8 I8 I9 B8 B9 q8 d8 f8 b8 c8 o8
 have I9:=J9
 go_upto_region 16 with fail
 have q9:Below y8.heap.size y8 y8.drew:=(Below.refl y8.heap.size y8).drew
 refine wp_region_G (fun w'=>(w'.cell? ⟨N6,0,none⟩=some (.slice x6.pa x6.pn x6.pc)/\w'.cell? ⟨N6,1,none⟩=some (.slice x6.sa x6.sn x6.sc)/\w'.cell? ⟨N6,2,none⟩=some (.slice x6.wa x6.wn x6.wc)/\w'.cell? ⟨N6,3,none⟩=some (.slice x6.ha x6.hn x6.hc))/\(w'.cell? ⟨(W.heap.size+1),0,none⟩=some (.slice X.pa X.pn X.pc)/\w'.cell? ⟨(W.heap.size+1),1,none⟩=some (.slice X.sa X.sn X.sc)/\w'.cell? ⟨(W.heap.size+1),2,none⟩=some (.slice X.wa X.wn X.wc)/\w'.cell? ⟨(W.heap.size+1),3,none⟩=some (.slice X.ha X.hn X.hc))) (fun _=>false) (by kernel_rfl) ?_
 have hHeld:(fun w':World=>(w'.cell? ⟨N6,0,none⟩=some (.slice x6.pa x6.pn x6.pc)/\w'.cell? ⟨N6,1,none⟩=some (.slice x6.sa x6.sn x6.sc)/\w'.cell? ⟨N6,2,none⟩=some (.slice x6.wa x6.wn x6.wc)/\w'.cell? ⟨N6,3,none⟩=some (.slice x6.ha x6.hn x6.hc))/\(w'.cell? ⟨(W.heap.size+1),0,none⟩=some (.slice X.pa X.pn X.pc)/\w'.cell? ⟨(W.heap.size+1),1,none⟩=some (.slice X.sa X.sn X.sc)/\w'.cell? ⟨(W.heap.size+1),2,none⟩=some (.slice X.wa X.wn X.wc)/\w'.cell? ⟨(W.heap.size+1),3,none⟩=some (.slice X.ha X.hn X.hc))) y8.drew:=⟨C9.out.below q9,P9.out.bX.below q9⟩
 refine wpGT_of [0,1] ?_
 iterate 2 (refine wpGT_take rfl hHeld ?_;apply Exists.intro;refine ⟨fun wq hSw=>?_,?_⟩;(· ((try dsimp only at hSw);go_simp;try with_reducible rfl));(try simp only [Act.put,zD,zE,zF]))
 refine wpGT_nil ?_
 refine wpG_one 2 rfl (by kernel_rfl) (fun K hK=>?_)
 refine stepR_callD rfl 19 _ _ rfl #[sysV X.pa X.pn X.pc X.sa X.sn X.sc X.wa X.wn X.wc X.ha X.hn X.hc] (by simp [Act.eval]) (yB Tryz.func19 (by kernel_rfl) rfl) (toSys_any X W y8.drew HS.out.2.1 HA.out.2 (P9.out.be.trans (q9.mono P9.out.be.size))) ?_
 rintro e u9 ⟨v9,rfl,o9,b9⟩
 refine ⟨_,rfl,?_⟩
 have d9:Below y8.heap.size y8 u9:=q9.trans (b9.mono q9.size)
 have hHeld5:(fun w':World=>(w'.cell? ⟨N6,0,none⟩=some (.slice x6.pa x6.pn x6.pc)/\w'.cell? ⟨N6,1,none⟩=some (.slice x6.sa x6.sn x6.sc)/\w'.cell? ⟨N6,2,none⟩=some (.slice x6.wa x6.wn x6.wc)/\w'.cell? ⟨N6,3,none⟩=some (.slice x6.ha x6.hn x6.hc))/\(w'.cell? ⟨(W.heap.size+1),0,none⟩=some (.slice X.pa X.pn X.pc)/\w'.cell? ⟨(W.heap.size+1),1,none⟩=some (.slice X.sa X.sn X.sc)/\w'.cell? ⟨(W.heap.size+1),2,none⟩=some (.slice X.wa X.wn X.wc)/\w'.cell? ⟨(W.heap.size+1),3,none⟩=some (.slice X.ha X.hn X.hc))) u9:=⟨C9.out.below d9,P9.out.bX.below d9⟩
 refine hK.out _ _ (fun _=>hHeld5) ?_
 clear hHeld
 have hHeld:=hHeld5
 clear hHeld5 hK K
 (try simp only [Act.put,zD,zE,zF])
 refine wpG_one 3 rfl (by kernel_rfl) (fun K hK=>?_)
 refine stepR_callD rfl 22 _ _ rfl #[x6.v,v9] (by simp [Act.eval,SysIn.v]) (yB Tryz.func22 (by kernel_rfl) rfl) (eqSys_same X _ _ _ _ x6.v v9 u9 HS.out.2.1 (I9.out.below d9 (isSys_le I9.out)) o9) ?_
 rintro e y9 ⟨rfl,c9⟩
 refine ⟨_,rfl,?_⟩
 have f9:Below y8.heap.size y8 y9:=d9.trans (c9.mono d9.size)
 have hHeld5:(fun w':World=>(w'.cell? ⟨N6,0,none⟩=some (.slice x6.pa x6.pn x6.pc)/\w'.cell? ⟨N6,1,none⟩=some (.slice x6.sa x6.sn x6.sc)/\w'.cell? ⟨N6,2,none⟩=some (.slice x6.wa x6.wn x6.wc)/\w'.cell? ⟨N6,3,none⟩=some (.slice x6.ha x6.hn x6.hc))/\(w'.cell? ⟨(W.heap.size+1),0,none⟩=some (.slice X.pa X.pn X.pc)/\w'.cell? ⟨(W.heap.size+1),1,none⟩=some (.slice X.sa X.sn X.sc)/\w'.cell? ⟨(W.heap.size+1),2,none⟩=some (.slice X.wa X.wn X.wc)/\w'.cell? ⟨(W.heap.size+1),3,none⟩=some (.slice X.ha X.hn X.hc))) y9:=⟨C9.out.below f9,P9.out.bX.below f9⟩
 refine hK.out _ _ (fun _=>hHeld5) ?_
 clear hHeld
 have hHeld:=hHeld5
 clear hHeld5 hK K
 (try simp only [Act.put,zD,zE,zF])
 refine wpG_take 4 rfl hHeld ?_
 apply Exists.intro
 refine ⟨fun wq hSw=>?_,?_⟩
 ·(try dsimp only at hSw)
  go_simp
  try with_reducible rfl
 (try simp only [Act.put,zD,zE,zF])
 refine wpG_done (by kernel_rfl) ?_ _
 clear hHeld
 have X9:Hid (Below W.heap.size W y9):=(P9.out.below f9).be
 clear P9 J9 C9 I9 q9 d9 f9 b9 c9 o9
 go_wp2
 go_ret
 exact ⟨rfl,X9.out⟩
theorem forthLaw_great (x X:SysIn) (W:World) (hr:x.Row W) (hm:x.Max) (hs:1048576<x.size):
  Calls Tryz.prog 8 #[sysV x.pa x.pn x.pc x.sa x.sn x.sc x.wa x.wn x.wc x.ha x.hn x.hc,sysV X.pa X.pn X.pc X.sa X.sn X.sc X.wa X.wn X.wc X.ha X.hn X.hc] W fun e w'=>e=.returned (.bool true)/\Below W.heap.size W w':=by
 have HR:Hid (x.Row W):=hr
 have HM:Hid x.Max:=hm
 have HS:Hid ((1048576:Int)<x.size):=by show (1048576:Int)<x.size;omega
 have X0:Hid (P2 W x X ((W.alloc (oQ4 x.pa x.pn x.pc x.sa x.sn x.sc x.wa x.wn x.wc x.ha x.hn x.hc)).alloc (oQ4 X.pa X.pn X.pc X.sa X.sn X.sc X.wa X.wn X.wc X.ha X.hn X.hc))):=P2.new _
 clear hr hm hs
 go_enter Tryz.func8,Tryz.ntmps8
 go_wp2_with fail
 generalize ((W.alloc (oQ4 x.pa x.pn x.pc x.sa x.sn x.sc x.wa x.wn x.wc x.ha x.hn x.hc)).alloc (oQ4 X.pa X.pn X.pc X.sa X.sn X.sc X.wa X.wn X.wc X.ha X.hn X.hc))=wA at *
 refine (szSys_greatL x 1048576 wA (HR.out.below X0.out.be) HM.out (by omega) (Int.le_refl _) HS.out).mono ?_
 rintro e w0 ⟨rfl,b0⟩
 have B0:Hid (Below W.heap.size W w0):=(X0.out.below b0).be
 clear b0 X0
 go_wp2
 go_ret
 exact ⟨rfl,B0.out⟩
theorem forthLaw_great2 (x X:SysIn) (W:World) (hr:x.Row W) (hr':X.Row W) (hm:X.Max) (hs:x.size<=1048576) (hS:1048576<x.size+X.size):
  Calls Tryz.prog 8 #[sysV x.pa x.pn x.pc x.sa x.sn x.sc x.wa x.wn x.wc x.ha x.hn x.hc,sysV X.pa X.pn X.pc X.sa X.sn X.sc X.wa X.wn X.wc X.ha X.hn X.hc] W fun e w'=>e=.returned (.bool true)/\Below W.heap.size W w':=by
 have HR:Hid (x.Row W/\X.Row W):=⟨hr,hr'⟩
 have HM:Hid X.Max:=hm
 have HS:Hid ((x.size:Int)<=1048576/\0<=1048576 - (x.size:Int)/\1048576 - (x.size:Int)<X.size):=by
  show _/\_/\_
  omega
 have hsz:¬ (1048576 - (x.size:Int)<0):=by omega
 have X0:Hid (P2 W x X ((W.alloc (oQ4 x.pa x.pn x.pc x.sa x.sn x.sc x.wa x.wn x.wc x.ha x.hn x.hc)).alloc (oQ4 X.pa X.pn X.pc X.sa X.sn X.sc X.wa X.wn X.wc X.ha X.hn X.hc))):=P2.new _
 clear hr hr' hm hs hS
 go_enter Tryz.func8,Tryz.ntmps8
 go_wp2_with fail
 generalize ((W.alloc (oQ4 x.pa x.pn x.pc x.sa x.sn x.sc x.wa x.wn x.wc x.ha x.hn x.hc)).alloc (oQ4 X.pa X.pn X.pc X.sa X.sn X.sc X.wa X.wn X.wc X.ha X.hn X.hc))=wA at *
 refine (szSys_smallL x 1048576 wA (HR.out.1.below X0.out.be) (Int.le_refl _) HS.out.1).mono ?_
 rintro e w0 ⟨rfl,b0⟩
 have X1:Hid (P2 W x X w0):=X0.out.below b0
 clear b0 X0
 obtain ⟨m0,m1,m2,m3⟩:=X1.out.bX
 go_wp2_with fail
 clear m0 m1 m2 m3
 refine (szSys_greatL X (1048576 - (x.size:Nat)) w0 (HR.out.2.below X1.out.be) HM.out HS.out.2.1 (by omega) HS.out.2.2).mono ?_
 rintro e w1 ⟨rfl,b1⟩
 have B1:Hid (Below W.heap.size W w1):=(X1.out.below b1).be
 clear b1 X1
 go_wp2
 go_ret
 exact ⟨rfl,B1.out⟩
theorem forthLifted (os:Os) (started:os.Started) (H:Type) (enc:TypeId × Value->H):
  ReturnsInHanded {} Tryz.checked os 8 .any (fun w args => (Rows.fnExactForthSpec.pre enc Tryz.prog Tryz.f8 [] false w args /\ laidMetH Tryz.prog [("errors.errorType", Rows.laid_errors_errorType)] w) /\ sizedMet enc Tryz.prog Tryz.f8 (OpenSpec.ofChange Rows.fnExactForthSpec) false w args)
   (Rows.fnExactForthSpec.post enc Tryz.prog Tryz.f8 false true false false):=by
 refine returnsInHanded_of_change_and (C := Tryz.checked) (X := fun w _ => laidMetH Tryz.prog [("errors.errorType", Rows.laid_errors_errorType)] w) (fun _ _ _ hh h => h.of_heap hh) Tryz.own started (by kernel_rfl) Tryz.func8
  (ChangeSpec.witness_at (enc := enc) (C := Tryz.checked) (os := os) (X := fun w _ => laidMetH Tryz.prog [("errors.errorType", Rows.laid_errors_errorType)] w) false (laidWorld os) #[sysV none 0 0 none 0 0 none 0 0 none 0 0, sysV none 0 0 none 0 0 none 0 0 none 0 0] 8 rfl (by kernel_rfl) (by kernel_rfl) (by kernel_rfl) (by kernel_rfl) (by kernel_rfl) (laidWorld_met os _)) ?_
 intro W base args ds gs before hval0 hW _ _ hL _
 have hval:∀ (j:Nat) t v,Tryz.f8.params[j]? = some t->args[j]? = some v->Value.okWide Tryz.prog W .any base t v:=hval0
 have hW':=hW
 obtain ⟨p,q,hA0,hV,rfl,hfz,hnd⟩:=hW
 have hA:DataW.TrodAll enc Tryz.prog W 0 (fun _=>true) true Tryz.f8.params.toList args.toList ds p:=hA0
 rw [Tryz.params8] at hA hval
 obtain ⟨v0,v1,d0,d1,p0,p1,rfl,rfl,rfl,h0,h1⟩:=trodAll_two hA
 obtain ⟨rfl,rfl⟩:=trodVars_none hV
 have lt0:∀ x ∈ p0,x.block<W.heap.size:=by obtain ⟨m,hm⟩:=h0;exact DataW.trod_lt m _ _ _ hm
 have lt1:∀ x ∈ p1,x.block<W.heap.size:=by obtain ⟨m,hm⟩:=h1;exact DataW.trod_lt m _ _ _ hm
 have hg:=handle_of_laid hL
 clear hA0 hval0
 have hlaw:Calls Tryz.prog 8 #[v0,v1] W fun e w'=>e=.returned (.bool true)/\Below W.heap.size W w':=by
  obtain ⟨x,e,hr,hm,hy⟩:=open_sysE (hval 0 46 v0 rfl rfl) h0
  obtain ⟨X,e',hr',hm',hy'⟩:=open_sysE (hval 1 46 v1 rfl rfl) h1
  by_cases hs:x.size<=1048576
  ·by_cases hS:x.size+X.size<=1048576
   ·obtain ⟨y,ey,hok,hys⟩:=hy hs
    obtain ⟨Y,eY,hOk,hYs⟩:=hy' (by omega)
    rw [ey,eY]
    exact forthLaw_small y Y W (by omega) hok hOk hg
   ·rw [e,e']
    exact forthLaw_great2 x X W hr hr' hm' hs (by omega)
  ·rw [e,e']
   exact forthLaw_great x X W hr hm (by omega)
 refine hlaw.mono fun e W' ⟨he,bel⟩=>?_
 subst he
 exact ⟨_,rfl,_,_,_,[],_,[],hW',trodAll_mk1 (shut_bool Tryz.underlying4 _),(trodAll_cons_mk (Below.trod Tryz.laidOut (by kernel_rfl) (of_decide_eq_true (by kernel_rfl)) h0 bel lt0) (trodAll_cons_mk (Below.trod Tryz.laidOut (by kernel_rfl) (of_decide_eq_true (by kernel_rfl)) h1 bel lt1) trodAll_mk0)),rfl,bel.frame _,fun h=>by cases h⟩
theorem forthSaid:Rows.FnExactForthSaid:=
 OpenClaim.holds_of_wide 8 Tryz.f8 rfl rfl rfl rfl rfl rfl rfl ⟨rfl,rfl,rfl,rfl,rfl⟩ rfl rfl rfl rfl rfl (by kernel_rfl) Tryz.func8 (by kernel_rfl)
  (of_decide_eq_true (by kernel_rfl)) (by unfold Func.isWrapper;first|(rw [if_pos (by decide +kernel)];kernel_rfl)|(rw [if_neg (by decide +kernel)];exact ⟨rfl,rfl⟩))
  (fun os started H enc _=>forthLifted os started H enc)
theorem forthPlain (f : FuncId) (fn : Func) (hf : Tryz.pinned.checked.prog.funcNamed "loop.example/g00196/laws.FnExactForth" = some f) (hfn : Tryz.pinned.checked.prog.funcs[f]? = some fn) :
  true=Tryz.pinned.checked.prog.looks []/\∀ (j:Nat) t,fn.params[j]? = some t->Tryz.pinned.checked.prog.wantsStandIn t=false:=by
 obtain rfl : f = 8 := Option.some.inj ((show Tryz.prog.funcNamed "loop.example/g00196/laws.FnExactForth" = some 8 by kernel_rfl).symm.trans hf) |>.symm
 obtain rfl:fn=Tryz.f8:=(Option.some.inj (Tryz.func8.symm.trans hfn)).symm
 refine ⟨by kernel_rfl,fun j t ht=>?_⟩
 rw [Tryz.params8] at ht
 have hm:=Array.mem_of_getElem? ht
 simp at hm
 obtain rfl:=hm
 exact (show Tryz.prog.wantsStandIn 46=false by kernel_rfl)
theorem forth_card:Rows.FnExactForthCardSaid:=
 Claim7.holds_tied_plain_at .later [] _ _ _ _ forthSaid (fun _ h=>by cases h) (by kernel_rfl) (fun _ h=>by cases h) fnExactForth_row_tie rfl ⟨rfl,rfl⟩ (by kernel_rfl) rfl forthPlain (by kernel_rfl)
