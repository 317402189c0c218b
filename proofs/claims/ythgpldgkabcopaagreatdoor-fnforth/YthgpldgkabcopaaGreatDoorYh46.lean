import Derived.Test.YthgpldgkabcopaaGreatDoorYh44
import Derived.Test.YthgpldgkabcopaaGreatDoorYh41
import Derived.Test.YthgpldgkabcopaaGreatDoorYh40
import Derived.Test.YthgpldgkabcopaaGreatDoorYh42
import Derived.Test.YthgpldgkabcopaaGreatDoorCards
import Derived.SevenTiedAt
namespace Go.Proofs.YthgpldgkabcopaaGreatDoor
set_option maxRecDepth 100000
set_option maxHeartbeats 4000000
open Go.RowKit Go.Deep
def qbm (e:Ending) (P:Prop):Prop:=∃ t,e=.returned (.bool t)/\(t=true ↔ P)
theorem qbm.yes {P:Prop} (h:P):qbm (.returned (.bool true)) P:=⟨true,rfl,⟨fun _=>h,fun _=>rfl⟩⟩
theorem qbm.no {P:Prop} (h:¬ P):qbm (.returned (.bool false)) P:=⟨false,rfl,⟨fun e=>(by cases e),fun p=>absurd p h⟩⟩
def ql4 (o r a b n o' r' a' b' n':Int):Bool:=o == o' && (r == r' && (a == a' && (b == b' && n == n')))
theorem qjy (a b:I5):ql4 a.o a.r a.a a.b a.n b.o b.r b.a b.b b.n=true ↔ a=b:=by
 cases a
 cases b
 simp [ql4]
theorem qvi (o r a b n o' r' a' b' n':Int) (w:World):(binOp .neq 87 (.agg #[.int .i64 o,.int .i64 r,.int .i64 a,.int .i64 b,.int .i64 n]) (.agg #[.int .i64 o',.int .i64 r',.int .i64 a',.int .i64 b',.int .i64 n'])).run Tryz.prog w=.ok (.bool (!ql4 o r a b n o' r' a' b' n')) w:=by
 rw [run_neq_struct,show (10000:Nat)=9998+1+1 from rfl,run_equalIn_agg w (9998+1) 87 _ _ (by kernel_rfl) (by kernel_rfl)]
 simp only [ql4]
 by_cases h1:o=o' <;> by_cases h2:r=r' <;> by_cases h3:a=a' <;> by_cases h4:b=b' <;> by_cases h5:n=n' <;> simp [go_sem,h1,h2,h3,h4,h5]
theorem qp4 (ea fa:Option Addr) (n m c d:Nat) (g u:Nat->E3) (w:World) (hn:n<=1048576) (hm:m<=1048576) (h0:EvL w ea n g) (h1:EvL w fa m u):
  Calls Tryz.prog 42 #[.slice ea n c,.slice fa m d] w fun e w'=>qbm e (n<=m/\∀ i,i<n->g i=u i)/\Bw w w':=by
 have H0:Hid (EvL w ea n g):=h0
 have H1:Hid (EvL w fa m u):=h1
 generalize hPP:(n<=m/\∀ i,i<n->g i=u i)=PP
 have HP:Hid ((n<=m/\∀ i,i<n->g i=u i)=PP):=hPP
 clear hPP
 have hn':(n:Int)<=1048576:=by omega
 have hm':(m:Int)<=1048576:=by omega
 clear h0 h1
 go_enter Tryz.func42,Tryz.ntmps42
 go_wp2_with fail
 go_loopw [5] (fun i wr=>∃ k:Nat,k<=(min n m)/\i=.int .i64 k/\Hid (Bw w wr/\∀ i,i<k->g i=u i)) (fun i _=>(min n m) - (intOf i).toNat)
 case atStart=>exact ⟨0,Nat.zero_le _,rfl,Below.refl _ _,fun i hi=>by omega⟩
 case round=>
  obtain ⟨k,hk,rfl,HK⟩:=hrel
  by_cases hlt:k<(min n m)
  ·have hkn:k<n:=by omega
   have hkm:k<m:=by omega
   have hkn':(k:Int)<(n:Int):=by omega
   have hkm':(k:Int)<(m:Int):=by omega
   obtain ⟨b,off,rfl,hbl,ck0,ck1,ck2⟩:=(H0.out.below HK.out.1).at hkn
   obtain ⟨b',off',rfl,hbl',dk0,dk1,dk2⟩:=(H1.out.below HK.out.1).at hkm
   obtain ⟨T,hT⟩:∃ T,qc2 (g k).k (g k).q (g k).v (u k).k (u k).q (u k).v=T:=⟨_,rfl⟩
   have HT:Hid (qc2 (g k).k (g k).q (g k).v (u k).k (u k).q (u k).v=T):=hT
   clear hT
   go_upto_region 4 with fail
   have q0:Bw wr wr.drew:=(Below.refl wr.heap.size wr).drew
   refine qae (fun w'=>w'.cell? ⟨b,off+k*3,none⟩=some (.int .i64 (g k).k)/\w'.cell? ⟨b,off+k*3+1,none⟩=some (.int .i64 (g k).q)/\w'.cell? ⟨b,off+k*3+2,none⟩=some (.int .i64 (g k).v)/\w'.cell? ⟨b',off'+k*3,none⟩=some (.int .i64 (u k).k)/\w'.cell? ⟨b',off'+k*3+1,none⟩=some (.int .i64 (u k).q)/\w'.cell? ⟨b',off'+k*3+2,none⟩=some (.int .i64 (u k).v)) (fun _=>false) (by kernel_rfl) ?_
   have hHeld:(fun w':World=>w'.cell? ⟨b,off+k*3,none⟩=some (.int .i64 (g k).k)/\w'.cell? ⟨b,off+k*3+1,none⟩=some (.int .i64 (g k).q)/\w'.cell? ⟨b,off+k*3+2,none⟩=some (.int .i64 (g k).v)/\w'.cell? ⟨b',off'+k*3,none⟩=some (.int .i64 (u k).k)/\w'.cell? ⟨b',off'+k*3+1,none⟩=some (.int .i64 (u k).q)/\w'.cell? ⟨b',off'+k*3+2,none⟩=some (.int .i64 (u k).v)) wr.drew:=⟨(q0.cell (p:=(aQ b _)) hbl).trans ck0,(q0.cell (p:=(aQ b _)) hbl).trans ck1,(q0.cell (p:=(aQ b _)) hbl).trans ck2,(q0.cell (p:=(aQ b' _)) hbl').trans dk0,(q0.cell (p:=(aQ b' _)) hbl').trans dk1,(q0.cell (p:=(aQ b' _)) hbl').trans dk2⟩
   refine qau [0,1,2,3,4,5,6,7] ?_
   iterate 8 (refine qaf rfl hHeld ?_;apply Exists.intro;refine ⟨fun wq hSw=>?_,?_⟩;(· ((try dsimp only at hSw);go_simp;try with_reducible rfl));(try simp only [Act.put,zD,zE,zF]))
   refine qao ?_
   have hne:=qsd (g k).k (g k).q (g k).v (u k).k (u k).q (u k).v
   rw [HT.out] at hne
   refine qad 8 rfl hHeld ⟨.bool (!T),fun wq _=>?_,?_⟩
   ·go_simp
   (try simp only [Act.put,zD,zE,zF])
   refine qap (by kernel_rfl) ?_ _
   have HK':Hid (Bw w wr.drew):=HK.out.1.trans (q0.mono HK.out.1.size)
   clear hHeld hne q0 ck0 ck1 ck2 dk0 dk1 dk2 hbl hbl'
   cases T with
   | false=>
    have HR:Hid (¬ (n<=m/\∀ i,i<n->g i=u i)):=fun e=>by
     have:=(qjj _ _).2 (e.2 k hkn)
     rw [HT.out] at this
     cases this
    go_wp2
    go_ret
    exact ⟨qbm.no fun h=>HR.out (HP.out.mpr h),HK'.out⟩
   | true=>
    have HE:Hid (∀ i,i<k+1->g i=u i):=fun i hi=>by
     by_cases e:i=k
     ·subst e
      exact (qjj _ _).1 HT.out
     ·exact HK.out.2 i (by omega)
    go_wp2
    go_roundw
    case rel=>exact ⟨k+1,by omega,by go_num,HK'.out,HE.out⟩
    case measure=>simp [intOf];omega
  ·rcases Nat.lt_or_ge m n with hmn | hmn
   ·have h1:((m:Nat):Int)<=(k:Int):=by omega
    have h2:(k:Int)<(n:Int):=by omega
    have h3:¬ ((n:Int)<=(m:Int)):=by omega
    have HR:Hid (¬ (n<=m)/\Bw w wr):=⟨by omega,HK.out.1⟩
    clear hlt hk hmn
    go_wp2
    go_ret
    exact ⟨qbm.no fun h=>absurd (HP.out.mpr h).1 HR.out.1,HR.out.2⟩
   ·have h1:(n:Int)<=(k:Int):=by omega
    have h3:(n:Int)<=(m:Int):=by omega
    have HR:Hid ((n<=m/\∀ i,i<n->g i=u i)/\Bw w wr):=⟨⟨hmn,fun i hi=>HK.out.2 i (by omega)⟩,HK.out.1⟩
    clear hlt hk hmn
    go_wp2
    go_ret
    exact ⟨qbm.yes (HP.out.mp HR.out.1),HR.out.2⟩
theorem qmh (b b' n m c d:Nat) (g u:Nat->I5) (w:World) (hn:n<=1048576) (hm:m<=1048576) (hb0:b<w.heap.size) (hb1:b'<w.heap.size) (h0:qar w b 0 n g) (h1:qar w b' 0 m u):
  Calls Tryz.prog 41 #[.slice (some ⟨b,0,none⟩) n c,.slice (some ⟨b',0,none⟩) m d] w fun e w'=>qbm e (n=m/\∀ i,i<n->g i=u i)/\Bw w w':=by
 have H0:Hid (qar w b 0 n g/\b<w.heap.size):=⟨h0,hb0⟩
 have H1:Hid (qar w b' 0 m u/\b'<w.heap.size):=⟨h1,hb1⟩
 generalize hPP:(n=m/\∀ i,i<n->g i=u i)=PP
 have HP:Hid ((n=m/\∀ i,i<n->g i=u i)=PP):=hPP
 clear hPP
 have hn':(n:Int)<=1048576:=by omega
 have hm':(m:Int)<=1048576:=by omega
 clear h0 h1 hb0 hb1
 go_enter Tryz.func41,Tryz.ntmps41
 go_wp2_with fail
 go_loopw [5] (fun i wr=>∃ k:Nat,k<=(min n m)/\i=.int .i64 k/\Hid (Bw w wr/\∀ i,i<k->g i=u i)) (fun i _=>(min n m) - (intOf i).toNat)
 case atStart=>exact ⟨0,Nat.zero_le _,rfl,Below.refl _ _,fun i hi=>by omega⟩
 case round=>
  obtain ⟨k,hk,rfl,HK⟩:=hrel
  by_cases hlt:k<(min n m)
  ·have hkn:k<n:=by omega
   have hkm:k<m:=by omega
   have hkn':(k:Int)<(n:Int):=by omega
   have hkm':(k:Int)<(m:Int):=by omega
   obtain ⟨ck0,ck1,ck2,ck3,ck4⟩:=(H0.out.1.below HK.out.1 H0.out.2) k hkn
   obtain ⟨dk0,dk1,dk2,dk3,dk4⟩:=(H1.out.1.below HK.out.1 H1.out.2) k hkm
   rw [Nat.zero_add] at ck0 ck1 ck2 ck3 ck4 dk0 dk1 dk2 dk3 dk4
   have hbl:b<wr.heap.size:=zL H0.out.2 HK.out.1.size
   have hbl':b'<wr.heap.size:=zL H1.out.2 HK.out.1.size
   obtain ⟨T,hT⟩:∃ T,ql4 (g k).o (g k).r (g k).a (g k).b (g k).n (u k).o (u k).r (u k).a (u k).b (u k).n=T:=⟨_,rfl⟩
   have HT:Hid (ql4 (g k).o (g k).r (g k).a (g k).b (g k).n (u k).o (u k).r (u k).a (u k).b (u k).n=T):=hT
   clear hT
   go_upto_region 4 with fail
   have q0:Bw wr wr.drew:=(Below.refl wr.heap.size wr).drew
   refine qae (fun w'=>w'.cell? ⟨b,k*5,none⟩=some (.int .i64 (g k).o)/\w'.cell? ⟨b,k*5+1,none⟩=some (.int .i64 (g k).r)/\w'.cell? ⟨b,k*5+2,none⟩=some (.int .i64 (g k).a)/\w'.cell? ⟨b,k*5+3,none⟩=some (.int .i64 (g k).b)/\w'.cell? ⟨b,k*5+4,none⟩=some (.int .i64 (g k).n)/\w'.cell? ⟨b',k*5,none⟩=some (.int .i64 (u k).o)/\w'.cell? ⟨b',k*5+1,none⟩=some (.int .i64 (u k).r)/\w'.cell? ⟨b',k*5+2,none⟩=some (.int .i64 (u k).a)/\w'.cell? ⟨b',k*5+3,none⟩=some (.int .i64 (u k).b)/\w'.cell? ⟨b',k*5+4,none⟩=some (.int .i64 (u k).n)) (fun _=>false) (by kernel_rfl) ?_
   have hHeld:(fun w':World=>w'.cell? ⟨b,k*5,none⟩=some (.int .i64 (g k).o)/\w'.cell? ⟨b,k*5+1,none⟩=some (.int .i64 (g k).r)/\w'.cell? ⟨b,k*5+2,none⟩=some (.int .i64 (g k).a)/\w'.cell? ⟨b,k*5+3,none⟩=some (.int .i64 (g k).b)/\w'.cell? ⟨b,k*5+4,none⟩=some (.int .i64 (g k).n)/\w'.cell? ⟨b',k*5,none⟩=some (.int .i64 (u k).o)/\w'.cell? ⟨b',k*5+1,none⟩=some (.int .i64 (u k).r)/\w'.cell? ⟨b',k*5+2,none⟩=some (.int .i64 (u k).a)/\w'.cell? ⟨b',k*5+3,none⟩=some (.int .i64 (u k).b)/\w'.cell? ⟨b',k*5+4,none⟩=some (.int .i64 (u k).n)) wr.drew:=⟨(q0.cell (p:=(aQ b _)) hbl).trans ck0,(q0.cell (p:=(aQ b _)) hbl).trans ck1,(q0.cell (p:=(aQ b _)) hbl).trans ck2,(q0.cell (p:=(aQ b _)) hbl).trans ck3,(q0.cell (p:=(aQ b _)) hbl).trans ck4,(q0.cell (p:=(aQ b' _)) hbl').trans dk0,(q0.cell (p:=(aQ b' _)) hbl').trans dk1,(q0.cell (p:=(aQ b' _)) hbl').trans dk2,(q0.cell (p:=(aQ b' _)) hbl').trans dk3,(q0.cell (p:=(aQ b' _)) hbl').trans dk4⟩
   refine qau [0,1,2,3,4,5,6,7] ?_
   iterate 8 (refine qaf rfl hHeld ?_;apply Exists.intro;refine ⟨fun wq hSw=>?_,?_⟩;(· ((try dsimp only at hSw);go_simp;try with_reducible rfl));(try simp only [Act.put,zD,zE,zF]))
   refine qao ?_
   have hne:=qvi (g k).o (g k).r (g k).a (g k).b (g k).n (u k).o (u k).r (u k).a (u k).b (u k).n
   rw [HT.out] at hne
   refine qad 8 rfl hHeld ⟨.bool (!T),fun wq _=>?_,?_⟩
   ·go_simp
   (try simp only [Act.put,zD,zE,zF])
   refine qap (by kernel_rfl) ?_ _
   have HK':Hid (Bw w wr.drew):=HK.out.1.trans (q0.mono HK.out.1.size)
   clear hHeld hne q0 ck0 ck1 ck2 ck3 ck4 dk0 dk1 dk2 dk3 dk4 hbl hbl'
   cases T with
   | false=>
    have HR:Hid (¬ (n=m/\∀ i,i<n->g i=u i)):=fun e=>by
     have:=(qjy _ _).2 (e.2 k hkn)
     rw [HT.out] at this
     cases this
    go_wp2
    go_ret
    exact ⟨qbm.no fun h=>HR.out (HP.out.mpr h),HK'.out⟩
   | true=>
    have HE:Hid (∀ i,i<k+1->g i=u i):=fun i hi=>by
     by_cases e:i=k
     ·subst e
      exact (qjy _ _).1 HT.out
     ·exact HK.out.2 i (by omega)
    go_wp2
    go_roundw
    case rel=>exact ⟨k+1,by omega,by go_num,HK'.out,HE.out⟩
    case measure=>simp [intOf];omega
  ·rcases Nat.lt_or_ge m n with hmn | hmn
   ·have h1:((m:Nat):Int)<=(k:Int):=by omega
    have h2:(k:Int)<(n:Int):=by omega
    have h3:((n:Int) == (m:Int))=false:=by simp;omega
    have HR:Hid (¬ (n=m)/\Bw w wr):=⟨by omega,HK.out.1⟩
    clear hlt hk hmn
    go_wp2
    go_ret
    exact ⟨qbm.no fun h=>absurd (HP.out.mpr h).1 HR.out.1,HR.out.2⟩
   ·have h1:(n:Int)<=(k:Int):=by omega
    by_cases hnm:n=m
    ·have h3:(n:Int)=(m:Int):=by omega
     have HR:Hid ((n=m/\∀ i,i<n->g i=u i)/\Bw w wr):=⟨⟨hnm,fun i hi=>HK.out.2 i (by omega)⟩,HK.out.1⟩
     subst hnm
     clear hlt hk hmn h3
     go_wp2
     go_ret
     exact ⟨qbm.yes (HP.out.mp HR.out.1),HR.out.2⟩
    ·have h3:((n:Int) == (m:Int))=false:=by simp;omega
     have HR:Hid (¬ (n=m)/\Bw w wr):=⟨hnm,HK.out.1⟩
     clear hlt hk hmn hnm
     go_wp2
     go_ret
     exact ⟨qbm.no fun h=>absurd (HP.out.mpr h).1 HR.out.1,HR.out.2⟩
theorem qls (b b' n m c d:Nat) (g u:Nat->I5) (w:World) (hn:n<=1048576) (hm:m<=1048576) (hb0:b<w.heap.size) (hb1:b'<w.heap.size) (h0:qar w b 0 n g) (h1:qar w b' 0 m u):
  Calls Tryz.prog 79 #[.slice (some ⟨b,0,none⟩) n c,.slice (some ⟨b',0,none⟩) m d] w fun e w'=>qbm e (n=m/\∀ i,i<n->g i=u i)/\Bw w w':=by
 have H0:Hid (qar w b 0 n g/\b<w.heap.size):=⟨h0,hb0⟩
 have H1:Hid (qar w b' 0 m u/\b'<w.heap.size):=⟨h1,hb1⟩
 generalize hPP:(n=m/\∀ i,i<n->g i=u i)=PP
 have HP:Hid ((n=m/\∀ i,i<n->g i=u i)=PP):=hPP
 clear hPP
 have hn':(n:Int)<=1048576:=by omega
 have hm':(m:Int)<=1048576:=by omega
 clear h0 h1 hb0 hb1
 by_cases hnm:n=m
 case neg=>
  have hnm':¬ ((n:Int)=(m:Int)):=by omega
  go_enter Tryz.func79,Tryz.ntmps79
  go_wp2
  go_ret
  exact ⟨qbm.no fun h=>absurd (HP.out.mpr h).1 hnm,Below.refl _ _⟩
 subst hnm
 have hmm:min n n=n:=Nat.min_self n
 go_enter Tryz.func79,Tryz.ntmps79
 go_wp2_with fail
 go_loopw [13] (fun i wr=>∃ k:Nat,k<=n/\i=.int .i64 k/\Hid (Bw w wr/\∀ i,i<k->g i=u i)) (fun i _=>n - (intOf i).toNat)
 case atStart=>exact ⟨0,Nat.zero_le _,rfl,Below.refl _ _,fun i hi=>by omega⟩
 case round=>
  obtain ⟨k,hk,rfl,HK⟩:=hrel
  by_cases hlt:k<n
  ·have hkn:k<n:=by omega
   have hkm:k<n:=by omega
   have hkn':(k:Int)<(n:Int):=by omega
   have hkm':(k:Int)<(n:Int):=by omega
   obtain ⟨ck0,ck1,ck2,ck3,ck4⟩:=(H0.out.1.below HK.out.1 H0.out.2) k hkn
   obtain ⟨dk0,dk1,dk2,dk3,dk4⟩:=(H1.out.1.below HK.out.1 H1.out.2) k hkm
   rw [Nat.zero_add] at ck0 ck1 ck2 ck3 ck4 dk0 dk1 dk2 dk3 dk4
   have hbl:b<wr.heap.size:=zL H0.out.2 HK.out.1.size
   have hbl':b'<wr.heap.size:=zL H1.out.2 HK.out.1.size
   obtain ⟨T,hT⟩:∃ T,ql4 (g k).o (g k).r (g k).a (g k).b (g k).n (u k).o (u k).r (u k).a (u k).b (u k).n=T:=⟨_,rfl⟩
   have HT:Hid (ql4 (g k).o (g k).r (g k).a (g k).b (g k).n (u k).o (u k).r (u k).a (u k).b (u k).n=T):=hT
   clear hT
   go_upto_region 6 with fail
   have q0:Bw wr wr.drew:=(Below.refl wr.heap.size wr).drew
   refine qae (fun w'=>w'.cell? ⟨b,k*5,none⟩=some (.int .i64 (g k).o)/\w'.cell? ⟨b,k*5+1,none⟩=some (.int .i64 (g k).r)/\w'.cell? ⟨b,k*5+2,none⟩=some (.int .i64 (g k).a)/\w'.cell? ⟨b,k*5+3,none⟩=some (.int .i64 (g k).b)/\w'.cell? ⟨b,k*5+4,none⟩=some (.int .i64 (g k).n)/\w'.cell? ⟨b',k*5,none⟩=some (.int .i64 (u k).o)/\w'.cell? ⟨b',k*5+1,none⟩=some (.int .i64 (u k).r)/\w'.cell? ⟨b',k*5+2,none⟩=some (.int .i64 (u k).a)/\w'.cell? ⟨b',k*5+3,none⟩=some (.int .i64 (u k).b)/\w'.cell? ⟨b',k*5+4,none⟩=some (.int .i64 (u k).n)) (fun _=>false) (by kernel_rfl) ?_
   have hHeld:(fun w':World=>w'.cell? ⟨b,k*5,none⟩=some (.int .i64 (g k).o)/\w'.cell? ⟨b,k*5+1,none⟩=some (.int .i64 (g k).r)/\w'.cell? ⟨b,k*5+2,none⟩=some (.int .i64 (g k).a)/\w'.cell? ⟨b,k*5+3,none⟩=some (.int .i64 (g k).b)/\w'.cell? ⟨b,k*5+4,none⟩=some (.int .i64 (g k).n)/\w'.cell? ⟨b',k*5,none⟩=some (.int .i64 (u k).o)/\w'.cell? ⟨b',k*5+1,none⟩=some (.int .i64 (u k).r)/\w'.cell? ⟨b',k*5+2,none⟩=some (.int .i64 (u k).a)/\w'.cell? ⟨b',k*5+3,none⟩=some (.int .i64 (u k).b)/\w'.cell? ⟨b',k*5+4,none⟩=some (.int .i64 (u k).n)) wr.drew:=⟨(q0.cell (p:=(aQ b _)) hbl).trans ck0,(q0.cell (p:=(aQ b _)) hbl).trans ck1,(q0.cell (p:=(aQ b _)) hbl).trans ck2,(q0.cell (p:=(aQ b _)) hbl).trans ck3,(q0.cell (p:=(aQ b _)) hbl).trans ck4,(q0.cell (p:=(aQ b' _)) hbl').trans dk0,(q0.cell (p:=(aQ b' _)) hbl').trans dk1,(q0.cell (p:=(aQ b' _)) hbl').trans dk2,(q0.cell (p:=(aQ b' _)) hbl').trans dk3,(q0.cell (p:=(aQ b' _)) hbl').trans dk4⟩
   refine qau [0,1,2,3,4,5,6,7] ?_
   iterate 8 (refine qaf rfl hHeld ?_;apply Exists.intro;refine ⟨fun wq hSw=>?_,?_⟩;(· ((try dsimp only at hSw);go_simp;try with_reducible rfl));(try simp only [Act.put,zD,zE,zF]))
   refine qao ?_
   have hne:=qvi (g k).o (g k).r (g k).a (g k).b (g k).n (u k).o (u k).r (u k).a (u k).b (u k).n
   rw [HT.out] at hne
   refine qad 8 rfl hHeld ⟨.bool (!T),fun wq _=>?_,?_⟩
   ·go_simp
   (try simp only [Act.put,zD,zE,zF])
   refine qap (by kernel_rfl) ?_ _
   have HK':Hid (Bw w wr.drew):=HK.out.1.trans (q0.mono HK.out.1.size)
   clear hHeld hne q0 ck0 ck1 ck2 ck3 ck4 dk0 dk1 dk2 dk3 dk4 hbl hbl'
   cases T with
   | false=>
    have HR:Hid (¬ (n=n/\∀ i,i<n->g i=u i)):=fun e=>by
     have:=(qjy _ _).2 (e.2 k hkn)
     rw [HT.out] at this
     cases this
    go_wp2
    go_ret
    exact ⟨qbm.no fun h=>HR.out (HP.out.mpr h),HK'.out⟩
   | true=>
    have HE:Hid (∀ i,i<k+1->g i=u i):=fun i hi=>by
     by_cases e:i=k
     ·subst e
      exact (qjy _ _).1 HT.out
     ·exact HK.out.2 i (by omega)
    go_wp2
    go_roundw
    case rel=>exact ⟨k+1,by omega,by go_num,HK'.out,HE.out⟩
    case measure=>simp [intOf];omega
  ·have hkn:k=n:=by omega
   subst hkn
   have HR:Hid (Bw w wr/\∀ i,i<k->g i=u i):=HK.out
   clear hlt hk hmm
   go_wp2
   go_ret
   exact ⟨qbm.yes (HP.out.mp ⟨trivial,HR.out.2⟩),HR.out.1⟩
def Sy.SameP (y Y:Sy):Prop:=y.pn=Y.pn/\∀ p,p<y.pn->(y.pL p=Y.pL p/\∀ i,i<y.pL p->y.pH p i=Y.pH p i)
theorem qji (x y:SysIn) (w:World) (hx:SysG w x) (hy:SysG w y) (hL:x.Len) (hM:y.Len):
  Calls Tryz.prog 78 #[.slice x.pa x.pn x.pc,.slice y.pa y.pn y.pc,.func (.func 79) #[] #[]] w fun e w'=>qbm e (x.y.SameP y.y)/\Bw w w':=by
 have HX:Hid (SysG w x):=hx
 have HY:Hid (SysG w y):=hy
 have HLx:Hid (∀ i,i<x.pn->x.pL i<=1048576):=hL.p.2
 have HLy:Hid (∀ i,i<y.pn->y.pL i<=1048576):=hM.p.2
 have hn':(x.pn:Int)<=1048576:=by have:=hL.p.1;omega
 clear hx hy hL hM
 by_cases hnm:x.pn=y.pn
 case neg=>
  have hnm':¬ ((x.pn:Int)=(y.pn:Int)):=by omega
  have HR:Hid (¬ x.y.SameP y.y):=fun h=>absurd h.1 hnm
  go_enter Tryz.func78,Tryz.ntmps78
  go_wp2
  go_ret
  exact ⟨qbm.no HR.out,Below.refl _ _⟩
 have HNM:Hid (x.pn=y.pn):=hnm
 have hnm':(x.pn:Int)=(y.pn:Int):=by omega
 clear hnm
 go_enter Tryz.func78,Tryz.ntmps78
 go_wp2_with fail
 go_loopw [17] (fun i wr=>∃ k:Nat,k<=x.pn/\i=.int .i64 k/\Hid (Bw w wr/\∀ p,p<k->(x.pL p=y.pL p/\∀ i,i<x.pL p->x.pH p i=y.pH p i))) (fun i _=>x.pn - (intOf i).toNat)
 case atStart=>exact ⟨0,Nat.zero_le _,rfl,Below.refl _ _,fun i hi=>by omega⟩
 case round=>
  obtain ⟨k,hk,rfl,HK⟩:=hrel
  by_cases hlt:k<x.pn
  ·have hlt':(k:Int)<(x.pn:Int):=by omega
   have hly:k<y.pn:=by have:=HNM.out;omega
   have hly':(k:Int)<(y.pn:Int):=by omega
   obtain ⟨b,o,eb,cb⟩:=(HX.out.below HK.out.1).p.at hlt
   obtain ⟨b',o',eb',cb'⟩:=(HY.out.below HK.out.1).p.at hly
   obtain ⟨c,ec,lc,ic⟩:=(HX.out.below HK.out.1).pi k hlt
   obtain ⟨c',ec',lc',ic'⟩:=(HY.out.below HK.out.1).pi k hly
   rw [ec] at cb
   rw [ec'] at cb'
   rw [eb,eb']
   have HQ:Hid (Calls Tryz.prog 79 #[.slice (some ⟨c,0,none⟩) (x.pL k) (x.pC k),.slice (some ⟨c',0,none⟩) (y.pL k) (y.pC k)] wr fun e w'=>qbm e (x.pL k=y.pL k/\∀ i,i<x.pL k->x.pH k i=y.pH k i)/\Bw wr w'):=qls c c' (x.pL k) (y.pL k) (x.pC k) (y.pC k) (x.pH k) (y.pH k) wr (HLx.out k hlt) (HLy.out k hly) lc lc' ic ic'
   clear ic ic' lc lc' ec ec' eb eb'
   go_wp2_with (go_at_call 79;refine HQ.out.mono ?_;rintro e w1 ⟨⟨t,rfl,ht⟩,b1⟩;have HT:Hid (t=true ↔ _):=ht;have HB:Hid (Bw w w1):=HK.out.1.trans (b1.mono HK.out.1.size);clear ht b1)
   ·have ht:t=false:=by
     cases t with
     | false=>rfl
     | true=>exact absurd (show (!true)=true by assumption) (by decide)
    go_ret
    exact ⟨qbm.no fun h=>by have:=HT.out.2 (h.2 k hlt);rw [ht] at this;exact Bool.noConfusion this,HB.out⟩
   ·have ht:t=true:=by
     cases t with
     | true=>rfl
     | false=>exact absurd (show (!false)=false by assumption) (by decide)
    have HE:Hid (∀ p,p<k+1->(x.pL p=y.pL p/\∀ i,i<x.pL p->x.pH p i=y.pH p i)):=fun p hp=>by
     by_cases e:p=k
     ·subst e
      exact HT.out.1 ht
     ·exact HK.out.2 p (by omega)
    go_roundw
    case rel=>exact ⟨k+1,by omega,by go_num,HB.out,HE.out⟩
    case measure=>simp [intOf];omega
  ·have hkn:k=x.pn:=by omega
   have HR:Hid (x.y.SameP y.y/\Bw w wr):=⟨⟨HNM.out,fun p hp=>HK.out.2 p (by rw [hkn];exact hp)⟩,HK.out.1⟩
   have hge:(x.pn:Int)<=(k:Int):=by omega
   clear hkn hlt hk HK
   go_wp2
   go_ret
   exact ⟨qbm.yes HR.out.1,HR.out.2⟩
theorem qkl (x y:SysIn) (w:World) (hx:SysG w x) (hy:SysG w y) (hL:x.Len) (hM:y.Len):
  Calls Tryz.prog 39 #[x.v,y.v] w fun e w'=>qbm e (x.y.SameP y.y)/\Bw w w':=by
 have HQ:Hid (∀ wx,Bw w wx->Calls Tryz.prog 78 #[.slice x.pa x.pn x.pc,.slice y.pa y.pn y.pc,.func (.func 79) #[] #[]] wx fun e w'=>qbm e (x.y.SameP y.y)/\Bw wx w'):=fun wx hb=>qji x y wx (hx.below hb) (hy.below hb) hL hM
 have BW:Hid (Bw w ((w.alloc (x.oX)).alloc (oQ4 y.pa y.pn y.pc y.sa y.sn y.sc y.wa y.wn y.wc y.ha y.hn y.hc))):=(zT _ _).trans ((zT _ _).mono (by simp))
 clear hx hy hL hM
 go_enter Tryz.func39,Tryz.ntmps39
 go_wp2_with (go_at_call 78;refine (HQ.out _ BW.out).mono ?_;rintro e w1 ⟨⟨t,rfl,ht⟩,b1⟩;have HT:Hid (t=true ↔ _):=ht;have HB:Hid (Bw w w1):=BW.out.trans (b1.mono BW.out.size);clear ht b1)
 go_ret
 exact ⟨⟨t,rfl,HT.out⟩,HB.out⟩
open Go.ChangeShapes Go.WideShapes Go.ChangeAt
def Sy.Fo (y Y:Sy):Prop:=(y.okB=true/\Y.okB=true)/\y.pn=Y.pn/\∀ p,p<y.pn->((y.pL p=Y.pL p/\∀ i,i<y.pL p->y.pH p i=Y.pH p i)/\(y.hL p<=Y.hL p/\∀ i,i<y.hL p->y.hH p i=Y.hH p i))
structure F2 (w wr:World) (x X:SysIn):Prop where
 gx:SysG wr x
 gX:SysG wr X
 bx:x.bX wr w.heap.size
 bX:BoxC wr (w.heap.size+1) (.slice X.pa X.pn X.pc) (.slice X.sa X.sn X.sc) (.slice X.wa X.wn X.wc) (.slice X.ha X.hn X.hc)
 be:Bw w wr
theorem F2.below {w wr w':World} {x X:SysIn} (h:F2 w wr x X) (hb:Bw wr w'):F2 w w' x X:=⟨h.gx.below hb,h.gX.below hb,h.bx.below hb,h.bX.below hb,h.be.trans (hb.mono h.be.size)⟩
theorem F2.new {w:World} {x X:SysIn} (hx:SysG w x) (hX:SysG w X) (t:TypeId):F2 w ((w.alloc (.cells #[.slice x.pa x.pn x.pc,.slice x.sa x.sn x.sc,.slice x.wa x.wn x.wc,.slice x.ha x.hn x.hc] t)).alloc (.cells #[.slice X.pa X.pn X.pc,.slice X.sa X.sn X.sc,.slice X.wa X.wn X.wc,.slice X.ha X.hn X.hc] t)) x X:=by
 have a1:=zT w (.cells #[.slice x.pa x.pn x.pc,.slice x.sa x.sn x.sc,.slice x.wa x.wn x.wc,.slice x.ha x.hn x.hc] t)
 have a2:=zT (w.alloc (.cells #[.slice x.pa x.pn x.pc,.slice x.sa x.sn x.sc,.slice x.wa x.wn x.wc,.slice x.ha x.hn x.hc] t)) (.cells #[.slice X.pa X.pn X.pc,.slice X.sa X.sn X.sc,.slice X.wa X.wn X.wc,.slice X.ha X.hn X.hc] t)
 have e1:(w.alloc (.cells #[.slice x.pa x.pn x.pc,.slice x.sa x.sn x.sc,.slice x.wa x.wn x.wc,.slice x.ha x.hn x.hc] t)).heap.size=w.heap.size+1:=by simp
 have b:=a1.trans (a2.mono (by omega))
 have n2:=BoxC.new (w.alloc (.cells #[.slice x.pa x.pn x.pc,.slice x.sa x.sn x.sc,.slice x.wa x.wn x.wc,.slice x.ha x.hn x.hc] t)) (.slice X.pa X.pn X.pc) (.slice X.sa X.sn X.sc) (.slice X.wa X.wn X.wc) (.slice X.ha X.hn X.hc) t
 rw [e1] at n2
 exact ⟨hx.below b,hX.below b,(BoxC.new w _ _ _ _ t).below a2,n2,b⟩
theorem F2.lt {w wr:World} {x X:SysIn} (h:F2 w wr x X):w.heap.size+1<wr.heap.size:=zJ wr _ h.bX.1
theorem qkn (x X:SysIn) (w:World) (hG:SysG w x) (hG':SysG w X) (hL:x.Len) (hL':X.Len) (hcap:∀ i,i<x.hn->x.hL i<=x.hC i) (hcap':∀ i,i<X.hn->X.hL i<=X.hC i):
  Calls Tryz.prog 16 #[x.v,X.v] w fun e w'=>qbm e (x.y.Fo X.y)/\Bw w w':=by
 have H0:Hid (F2 w ((w.alloc (x.oX)).alloc (oQ4 X.pa X.pn X.pc X.sa X.sn X.sc X.wa X.wn X.wc X.ha X.hn X.hc)) x X):=F2.new hG hG' _
 have HO:Hid (∀ wx,SysG wx x->Calls Tryz.prog 17 #[x.v] wx fun e w'=>e=.returned (.bool x.y.okB)/\Bw wx w'):=fun wx g=>qbq x wx g hL hcap
 have HO':Hid (∀ wx,SysG wx X->Calls Tryz.prog 17 #[X.v] wx fun e w'=>e=.returned (.bool X.y.okB)/\Bw wx w'):=fun wx g=>qbq X wx g hL' hcap'
 have HL:Hid (x.Len/\X.Len):=⟨hL,hL'⟩
 have HOk:Hid ((x.y.okB=true->x.hn=x.pn)/\(X.y.okB=true->X.hn=X.pn)):=⟨fun h=>(Sy.ok_of h).cn.2.2.1,fun h=>(Sy.ok_of h).cn.2.2.1⟩
 have hpn:(x.pn:Int)<=1048576:=by have:=hL.p.1;omega
 have hPn:(X.pn:Int)<=1048576:=by have:=hL'.p.1;omega
 clear hG hG' hL hL' hcap hcap'
 obtain ⟨tx,htx⟩:∃ t,x.y.okB=t:=⟨_,rfl⟩
 obtain ⟨tX,htX⟩:∃ t,X.y.okB=t:=⟨_,rfl⟩
 have HF:Hid (x.y.Fo X.y->(tx=true/\tX=true)/\x.pn=X.pn):=fun h=>by rw [<- htx,<- htX];exact ⟨h.1,h.2.1⟩
 have HF2:Hid (tx=true/\tX=true->x.pn=X.pn->(∀ j,j<x.pn->(x.pL j=X.pL j/\∀ i,i<x.pL j->x.pH j i=X.pH j i)/\(x.hL j<=X.hL j/\∀ i,i<x.hL j->x.hH j i=X.hH j i))->x.y.Fo X.y):=fun h hp hq=>⟨by rw [htx,htX];exact h,hp,hq⟩
 have HF3:Hid (x.y.Fo X.y->∀ j,j<x.pn->(x.pL j=X.pL j/\∀ i,i<x.pL j->x.pH j i=X.pH j i)/\(x.hL j<=X.hL j/\∀ i,i<x.hL j->x.hH j i=X.hH j i)):=fun h=>h.2.2
 rw [htx] at HO HOk
 rw [htX] at HO' HOk
 clear htx htX
 go_enter Tryz.func16,Tryz.ntmps16
 go_upto_region 1 with fail
 generalize ((w.alloc (x.oX)).alloc (oQ4 X.pa X.pn X.pc X.sa X.sn X.sc X.wa X.wn X.wc X.ha X.hn X.hc))=w0 at *
 cases tx with
 | false=>
  obtain ⟨k0,k1,k2,k3⟩:=H0.out.bx
  go_wp2_with (go_at_call 17;refine (HO.out _ H0.out.gx).mono ?_;rintro e w1 ⟨rfl,b1⟩;have B1:Hid (Bw w w1):=(H0.out.below b1).be;clear HO b1)
  go_ret
  exact ⟨qbm.no fun h=>Bool.noConfusion (HF.out h).1.1,B1.out⟩
 | true=>
 cases tX with
 | false=>
  obtain ⟨k0,k1,k2,k3⟩:=H0.out.bx
  go_wp2_with (first|(go_at_call 17;refine (HO.out _ H0.out.gx).mono ?_;rintro e w1 ⟨rfl,b1⟩;have H1:Hid (F2 w w1 x X):=H0.out.below b1;obtain ⟨m0,m1,m2,m3⟩:=H1.out.bX;clear HO b1)|(go_at_call 17;refine (HO'.out _ H1.out.gX).mono ?_;rintro e w2 ⟨rfl,b2⟩;have B2:Hid (Bw w w2):=(H1.out.below b2).be;clear HO' b2))
  go_ret
  exact ⟨qbm.no fun h=>Bool.noConfusion (HF.out h).1.2,B2.out⟩
 | true=>
 have HN2:Hid (x.hn=x.pn/\X.hn=X.pn):=⟨HOk.out.1 rfl,HOk.out.2 rfl⟩
 have HF4:Hid (x.pn=X.pn->(∀ j,j<x.pn->(x.pL j=X.pL j/\∀ i,i<x.pL j->x.pH j i=X.pH j i)/\(x.hL j<=X.hL j/\∀ i,i<x.hL j->x.hH j i=X.hH j i))->x.y.Fo X.y):=HF2.out ⟨rfl,rfl⟩
 have HF5:Hid (x.y.Fo X.y->x.pn=X.pn):=fun h=>(HF.out h).2
 clear HOk HF2 HF
 obtain ⟨k0,k1,k2,k3⟩:=H0.out.bx
 by_cases hpp:x.pn=X.pn
 case neg=>
  have hpp':¬ (x.pn:Int)=(X.pn:Int):=by omega
  go_wp2_with (first|(go_at_call 17;refine (HO.out _ H0.out.gx).mono ?_;rintro e w1 ⟨rfl,b1⟩;have H1:Hid (F2 w w1 x X):=H0.out.below b1;obtain ⟨m0,m1,m2,m3⟩:=H1.out.bX;clear HO b1)|(go_at_call 17;refine (HO'.out _ H1.out.gX).mono ?_;rintro e w2 ⟨rfl,b2⟩;have H2:Hid (F2 w w2 x X):=H1.out.below b2;obtain ⟨n0,n1,n2,n3⟩:=H2.out.bX;obtain ⟨l0,l1,l2,l3⟩:=H2.out.bx;clear HO' b2))
  go_ret
  exact ⟨qbm.no fun h=>hpp (HF5.out h),H2.out.be⟩
 have hpp':(x.pn:Int)=(X.pn:Int):=by omega
 have HP:Hid (x.pn=X.pn):=hpp
 clear hpp
 go_wp2_with (first|(go_at_call 17;refine (HO.out _ H0.out.gx).mono ?_;rintro e w1 ⟨rfl,b1⟩;have H1:Hid (F2 w w1 x X):=H0.out.below b1;obtain ⟨m0,m1,m2,m3⟩:=H1.out.bX;clear HO b1)|(go_at_call 17;refine (HO'.out _ H1.out.gX).mono ?_;rintro e w2 ⟨rfl,b2⟩;have H2:Hid (F2 w w2 x X):=H1.out.below b2;obtain ⟨n0,n1,n2,n3⟩:=H2.out.bX;obtain ⟨l0,l1,l2,l3⟩:=H2.out.bx;clear HO' b2) | fail)
 clear n0 n1 n2 n3 l0 l1 l2 l3 k0 k1 k2 k3 m0 m1 m2 m3 H0 H1 hpp'
 go_loopw [5] (fun i wr=>∃ k:Nat,k<=x.pn/\i=.int .i64 k/\Hid (F2 w wr x X/\∀ j,j<k->(x.pL j=X.pL j/\∀ i,i<x.pL j->x.pH j i=X.pH j i)/\(x.hL j<=X.hL j/\∀ i,i<x.hL j->x.hH j i=X.hH j i))) (fun i _=>x.pn - (intOf i).toNat)
 case atStart=>exact ⟨0,Nat.zero_le _,rfl,H2.out,fun i hi=>by omega⟩
 case round=>
  obtain ⟨j,hk,rfl,HK⟩:=hrel
  obtain ⟨k0,k1,k2,k3⟩:=HK.out.1.bx
  by_cases hlt:j<x.pn
  ·have hlt':(j:Int)<(x.pn:Int):=by omega
   have hlX:j<X.pn:=by have:=HP.out;omega
   have hlX':(j:Int)<(X.pn:Int):=by omega
   have hlh:j<x.hn:=by have:=HN2.out;omega
   have hlh':(j:Int)<(x.hn:Int):=by omega
   have hlH:j<X.hn:=by have:=HN2.out;have:=HP.out;omega
   have hlH':(j:Int)<(X.hn:Int):=by omega
   obtain ⟨m0,m1,m2,m3⟩:=HK.out.1.bX
   have lM:=HK.out.1.lt
   obtain ⟨c,ec,lc,ic⟩:=HK.out.1.gx.pi j hlt
   obtain ⟨c',ec',lc',ic'⟩:=HK.out.1.gX.pi j hlX
   obtain ⟨b,o,eb,lb,cb⟩:=HK.out.1.gx.p.resolve_left (by omega)
   obtain ⟨b',o',eb',lb',cb'⟩:=HK.out.1.gX.p.resolve_left (by omega)
   obtain ⟨d,q,ed,ld,cd⟩:=HK.out.1.gx.h.resolve_left (by omega)
   obtain ⟨d',q',ed',ld',cd'⟩:=HK.out.1.gX.h.resolve_left (by omega)
   have cb:wr.cell? ⟨b,o+j,none⟩=some (.slice (x.pA j) (x.pL j) (x.pC j)):=cb j hlt
   have cb':wr.cell? ⟨b',o'+j,none⟩=some (.slice (X.pA j) (X.pL j) (X.pC j)):=cb' j hlX
   have cd:wr.cell? ⟨d,q+j,none⟩=some (.slice (x.hA j) (x.hL j) (x.hC j)):=cd j hlh
   have cd':wr.cell? ⟨d',q'+j,none⟩=some (.slice (X.hA j) (X.hL j) (X.hC j)):=cd' j hlH
   rw [ec] at cb
   rw [ec'] at cb'
   rw [eb] at k0
   rw [eb'] at m0
   rw [ed] at k3
   rw [ed'] at m3
   have HQ:Hid (∀ wx,Bw wr wx->Calls Tryz.prog 41 #[.slice (some ⟨c,0,none⟩) (x.pL j) (x.pC j),.slice (some ⟨c',0,none⟩) (X.pL j) (X.pC j)] wx fun e w'=>qbm e (x.pL j=X.pL j/\∀ i,i<x.pL j->x.pH j i=X.pH j i)/\Bw wx w'):=fun wx hb=>qmh c c' (x.pL j) (X.pL j) (x.pC j) (X.pC j) (x.pH j) (X.pH j) wx (HL.out.1.p.2 j hlt) (HL.out.2.p.2 j hlX) (zL lc hb.size) (zL lc' hb.size) (ic.below hb lc) (ic'.below hb lc')
   have HR:Hid (∀ wx,Bw wr wx->Calls Tryz.prog 42 #[.slice (x.hA j) (x.hL j) (x.hC j),.slice (X.hA j) (X.hL j) (X.hC j)] wx fun e w'=>qbm e (x.hL j<=X.hL j/\∀ i,i<x.hL j->x.hH j i=X.hH j i)/\Bw wx w'):=fun wx hb=>qp4 (x.hA j) (X.hA j) (x.hL j) (X.hL j) (x.hC j) (X.hC j) (x.hH j) (X.hH j) wx (HL.out.1.h.2 j hlh) (HL.out.2.h.2 j hlH) ((HK.out.1.gx.hi j hlh).below hb) ((HK.out.1.gX.hi j hlH).below hb)
   clear ec ec' ic ic' lc lc' eb eb' ed ed'
   go_upto_region 6 with fail
   have q0:Bw wr wr.drew:=(Below.refl wr.heap.size wr).drew
   refine qae (fun w'=>w'.cell? (aQ w.heap.size 0)=some (.slice (some (aQ b o)) x.pn x.pc)/\w'.cell? ⟨b,o+j,none⟩=some (.slice (some (aQ c 0)) (x.pL j) (x.pC j))/\w'.cell? ⟨w.heap.size+1,0,none⟩=some (.slice (some (aQ b' o')) X.pn X.pc)/\w'.cell? ⟨b',o'+j,none⟩=some (.slice (some (aQ c' 0)) (X.pL j) (X.pC j))/\w'.cell? (aQ w.heap.size 3)=some (.slice (some (aQ d q)) x.hn x.hc)/\w'.cell? ⟨d,q+j,none⟩=some (.slice (x.hA j) (x.hL j) (x.hC j))/\w'.cell? ⟨w.heap.size+1,3,none⟩=some (.slice (some (aQ d' q')) X.hn X.hc)/\w'.cell? ⟨d',q'+j,none⟩=some (.slice (X.hA j) (X.hL j) (X.hC j))) (fun _=>false) (by kernel_rfl) ?_
   have hHeld:(fun w':World=>w'.cell? (aQ w.heap.size 0)=some (.slice (some (aQ b o)) x.pn x.pc)/\w'.cell? ⟨b,o+j,none⟩=some (.slice (some (aQ c 0)) (x.pL j) (x.pC j))/\w'.cell? ⟨w.heap.size+1,0,none⟩=some (.slice (some (aQ b' o')) X.pn X.pc)/\w'.cell? ⟨b',o'+j,none⟩=some (.slice (some (aQ c' 0)) (X.pL j) (X.pC j))/\w'.cell? (aQ w.heap.size 3)=some (.slice (some (aQ d q)) x.hn x.hc)/\w'.cell? ⟨d,q+j,none⟩=some (.slice (x.hA j) (x.hL j) (x.hC j))/\w'.cell? ⟨w.heap.size+1,3,none⟩=some (.slice (some (aQ d' q')) X.hn X.hc)/\w'.cell? ⟨d',q'+j,none⟩=some (.slice (X.hA j) (X.hL j) (X.hC j))) wr.drew:=⟨(q0.cell (p:=(aQ w.heap.size 0)) (by show w.heap.size<_;omega)).trans k0,(q0.cell (p:=(aQ b _)) lb).trans cb,(q0.cell (p:=⟨w.heap.size+1,0,none⟩) lM).trans m0,(q0.cell (p:=(aQ b' _)) lb').trans cb',(q0.cell (p:=(aQ w.heap.size 3)) (by show w.heap.size<_;omega)).trans k3,(q0.cell (p:=(aQ d _)) ld).trans cd,(q0.cell (p:=⟨w.heap.size+1,3,none⟩) lM).trans m3,(q0.cell (p:=(aQ d' _)) ld').trans cd'⟩
   refine qau [0,1,2,3,4,5,6,7,8,9] ?_
   iterate 10 (refine qaf rfl hHeld ?_;apply Exists.intro;refine ⟨fun wq hSw=>?_,?_⟩;(· ((try dsimp only at hSw);go_simp;try with_reducible rfl));(try simp only [Act.put,zD,zE,zF]))
   refine qao ?_
   refine qaa 10 rfl (by kernel_rfl) (fun K hK=>?_)
   refine qcz rfl 41 _ _ rfl #[.slice (some (aQ c 0)) (x.pL j) (x.pC j),.slice (some (aQ c' 0)) (X.pL j) (X.pC j)] (by simp [Act.eval]) (yB Tryz.func41 (by kernel_rfl) rfl) (HQ.out wr.drew q0) ?_
   rintro e w5 ⟨⟨t,rfl,ht⟩,d5⟩
   refine ⟨_,rfl,?_⟩
   have HT:Hid (t=true ↔ (x.pL j=X.pL j/\∀ i,i<x.pL j->x.pH j i=X.pH j i)):=ht
   have q5:Bw wr w5:=q0.trans (d5.mono q0.size)
   have hHeld5:(fun w':World=>w'.cell? (aQ w.heap.size 0)=some (.slice (some (aQ b o)) x.pn x.pc)/\w'.cell? ⟨b,o+j,none⟩=some (.slice (some (aQ c 0)) (x.pL j) (x.pC j))/\w'.cell? ⟨w.heap.size+1,0,none⟩=some (.slice (some (aQ b' o')) X.pn X.pc)/\w'.cell? ⟨b',o'+j,none⟩=some (.slice (some (aQ c' 0)) (X.pL j) (X.pC j))/\w'.cell? (aQ w.heap.size 3)=some (.slice (some (aQ d q)) x.hn x.hc)/\w'.cell? ⟨d,q+j,none⟩=some (.slice (x.hA j) (x.hL j) (x.hC j))/\w'.cell? ⟨w.heap.size+1,3,none⟩=some (.slice (some (aQ d' q')) X.hn X.hc)/\w'.cell? ⟨d',q'+j,none⟩=some (.slice (X.hA j) (X.hL j) (X.hC j))) w5:=⟨(q5.cell (p:=(aQ w.heap.size 0)) (by show w.heap.size<_;omega)).trans k0,(q5.cell (p:=(aQ b _)) lb).trans cb,(q5.cell (p:=⟨w.heap.size+1,0,none⟩) lM).trans m0,(q5.cell (p:=(aQ b' _)) lb').trans cb',(q5.cell (p:=(aQ w.heap.size 3)) (by show w.heap.size<_;omega)).trans k3,(q5.cell (p:=(aQ d _)) ld).trans cd,(q5.cell (p:=⟨w.heap.size+1,3,none⟩) lM).trans m3,(q5.cell (p:=(aQ d' _)) ld').trans cd'⟩
   refine hK.out _ _ (fun _=>hHeld5) ?_
   clear hHeld
   have hHeld:=hHeld5
   clear hHeld5 d5 hK K ht q0
   (try simp only [Act.put,zD,zE,zF])
   cases t with
   | false=>
    have HN:Hid (¬ x.y.Fo X.y):=fun h=>Bool.noConfusion (HT.out.2 (HF3.out h j hlt).1)
    refine qau [11,12] ?_
    iterate 2 (refine qaf rfl hHeld ?_;apply Exists.intro;refine ⟨fun wq hSw=>?_,?_⟩;(· ((try dsimp only at hSw);go_simp;try with_reducible rfl));(try simp only [Act.put,zD,zE,zF]))
    refine qao ?_
    refine qb7 13 rfl ?_
    (try simp only [Act.put,zD,zE,zF])
    refine qb7 14 rfl ?_
    (try simp only [Act.put,zD,zE,zF])
    refine qb7 15 rfl ?_
    (try simp only [Act.put,zD,zE,zF])
    refine qb7 16 rfl ?_
    (try simp only [Act.put,zD,zE,zF])
    refine qb7 17 rfl ?_
    (try simp only [Act.put,zD,zE,zF])
    refine qb7 18 rfl ?_
    (try simp only [Act.put,zD,zE,zF])
    refine qb7 19 rfl ?_
    (try simp only [Act.put,zD,zE,zF])
    refine qb7 20 rfl ?_
    (try simp only [Act.put,zD,zE,zF])
    refine qb7 21 rfl ?_
    (try simp only [Act.put,zD,zE,zF])
    refine qb7 22 rfl ?_
    (try simp only [Act.put,zD,zE,zF])
    refine qb7 23 rfl ?_
    (try simp only [Act.put,zD,zE,zF])
    refine qb7 24 rfl ?_
    (try simp only [Act.put,zD,zE,zF])
    refine qad 25 rfl hHeld ?_
    apply Exists.intro
    refine ⟨fun wq hSw=>?_,?_⟩
    ·(try dsimp only at hSw)
     go_simp
     try with_reducible rfl
    (try simp only [Act.put,zD,zE,zF])
    refine qap (by kernel_rfl) ?_ _
    have K5:=(HK.out.1.below q5).be
    go_wp2
    go_ret
    exact ⟨qbm.no HN.out,K5⟩
   | true=>
    refine qau [11,12,13,14,15,16,17,18,19,20,21,22] ?_
    iterate 12 (refine qaf rfl hHeld ?_;apply Exists.intro;refine ⟨fun wq hSw=>?_,?_⟩;(· ((try dsimp only at hSw);go_simp;try with_reducible rfl));(try simp only [Act.put,zD,zE,zF]))
    refine qao ?_
    refine qaa 23 rfl (by kernel_rfl) (fun K hK=>?_)
    refine qcz rfl 42 _ _ rfl #[.slice (x.hA j) (x.hL j) (x.hC j),.slice (X.hA j) (X.hL j) (X.hC j)] (by simp [Act.eval]) (yB Tryz.func42 (by kernel_rfl) rfl) (HR.out w5 q5) ?_
    rintro e w6 ⟨⟨t,rfl,ht⟩,d6⟩
    refine ⟨_,rfl,?_⟩
    have HT2:Hid (t=true ↔ (x.hL j<=X.hL j/\∀ i,i<x.hL j->x.hH j i=X.hH j i)):=ht
    have q6:Bw wr w6:=q5.trans (d6.mono q5.size)
    have hHeld5:(fun w':World=>w'.cell? (aQ w.heap.size 0)=some (.slice (some (aQ b o)) x.pn x.pc)/\w'.cell? ⟨b,o+j,none⟩=some (.slice (some (aQ c 0)) (x.pL j) (x.pC j))/\w'.cell? ⟨w.heap.size+1,0,none⟩=some (.slice (some (aQ b' o')) X.pn X.pc)/\w'.cell? ⟨b',o'+j,none⟩=some (.slice (some (aQ c' 0)) (X.pL j) (X.pC j))/\w'.cell? (aQ w.heap.size 3)=some (.slice (some (aQ d q)) x.hn x.hc)/\w'.cell? ⟨d,q+j,none⟩=some (.slice (x.hA j) (x.hL j) (x.hC j))/\w'.cell? ⟨w.heap.size+1,3,none⟩=some (.slice (some (aQ d' q')) X.hn X.hc)/\w'.cell? ⟨d',q'+j,none⟩=some (.slice (X.hA j) (X.hL j) (X.hC j))) w6:=⟨(q6.cell (p:=(aQ w.heap.size 0)) (by show w.heap.size<_;omega)).trans k0,(q6.cell (p:=(aQ b _)) lb).trans cb,(q6.cell (p:=⟨w.heap.size+1,0,none⟩) lM).trans m0,(q6.cell (p:=(aQ b' _)) lb').trans cb',(q6.cell (p:=(aQ w.heap.size 3)) (by show w.heap.size<_;omega)).trans k3,(q6.cell (p:=(aQ d _)) ld).trans cd,(q6.cell (p:=⟨w.heap.size+1,3,none⟩) lM).trans m3,(q6.cell (p:=(aQ d' _)) ld').trans cd'⟩
    refine hK.out _ _ (fun _=>hHeld5) ?_
    clear hHeld
    have hHeld:=hHeld5
    clear hHeld5 d6 hK K ht q5
    (try simp only [Act.put,zD,zE,zF])
    cases t with
    | false=>
     have HN:Hid (¬ x.y.Fo X.y):=fun h=>Bool.noConfusion (HT2.out.2 (HF3.out h j hlt).2)
     refine qau [24,25] ?_
     iterate 2 (refine qaf rfl hHeld ?_;apply Exists.intro;refine ⟨fun wq hSw=>?_,?_⟩;(· ((try dsimp only at hSw);go_simp;try with_reducible rfl));(try simp only [Act.put,zD,zE,zF]))
     refine qao ?_
     refine qap (by kernel_rfl) ?_ _
     have K6:=(HK.out.1.below q6).be
     go_wp2
     go_ret
     exact ⟨qbm.no HN.out,K6⟩
    | true=>
     refine qau [24,25] ?_
     iterate 2 (refine qaf rfl hHeld ?_;apply Exists.intro;refine ⟨fun wq hSw=>?_,?_⟩;(· ((try dsimp only at hSw);go_simp;try with_reducible rfl));(try simp only [Act.put,zD,zE,zF]))
     refine qao ?_
     refine qap (by kernel_rfl) ?_ _
     have K6 : Hid (F2 w w6 x X ∧ ∀ i, i < j + 1 → (x.pL i = X.pL i ∧ ∀ z, z < x.pL i → x.pH i z = X.pH i z) ∧ (x.hL i ≤ X.hL i ∧ ∀ z, z < x.hL i → x.hH i z = X.hH i z)) := ⟨HK.out.1.below q6, fun i hi => by
      by_cases e:i=j
      ·rw [e];exact ⟨HT.out.1 rfl,HT2.out.1 rfl⟩
      ·exact HK.out.2 i (by omega)⟩
     clear hHeld q6 HK k0 k1 k2 k3 m0 m1 m2 m3 lb lb' ld ld' cb cb' cd cd' lM HQ HR HT HT2
     go_wp2
     go_roundw
     case rel=>exact ⟨j+1,by omega,by go_num,K6.out⟩
     case measure=>simp [intOf];omega
  ·have nlt:¬ (j:Int)<(x.pn:Int):=by omega
   go_wp2
   go_ret
   exact ⟨qbm.yes (HF4.out HP.out fun i hi=>HK.out.2 i (by omega)),HK.out.1.be⟩
open Go.Shelf
attribute [local go_sem] Oper.semAt_some
theorem qrs {n:Nat} {d:Nat->Nat}:∀ (k:Nat) (h:k<=n),gnL n d k h=[]->∀ i,i<k->d i=0
 | 0,_,_,i,hi=>absurd hi (Nat.not_lt_zero i)
 | k+1,h,e,i,hi=>by
  by_cases hd:0<d k
  ·rw [qjo h hd] at e
   simp at e
  ·rw [qjp h hd] at e
   by_cases e':i=k
   ·rw [e'];omega
   ·exact qrs k (Nat.le_of_succ_le h) e i (by omega)
structure F3 (w wr:World) (x X:SysIn):Prop where
 f:F2 w wr x X
 rc:wr.cell? ⟨w.heap.size+1+1,0,none⟩=some (.bool false)
 rf:wr.frozen? ⟨w.heap.size+1+1,0,none⟩=false
theorem F3.lt {w wr:World} {x X:SysIn} (h:F3 w wr x X):w.heap.size+1+1<wr.heap.size:=zJ wr _ h.rc
theorem F3.below {w wr w':World} {x X:SysIn} (h:F3 w wr x X) (hb:Bw wr w'):F3 w w' x X:=⟨h.f.below hb,(hb.cell (p:=⟨w.heap.size+1+1,0,none⟩) h.lt).trans h.rc,((qai hb).2 _ 0 h.lt).trans h.rf⟩
theorem F3.new {w wr:World} {x X:SysIn} (h:F2 w wr x X) (e:wr.heap.size=w.heap.size+1+1) (t:TypeId):F3 w (wr.alloc (.cells #[.bool false] t)) x X:=by
 have a:=zT wr (.cells #[.bool false] t)
 refine ⟨h.below a,?_,?_⟩
 ·rw [<- e];simp
 ·rw [<- e];exact yD _ _ _ _ rfl
theorem qdy (x X:SysIn) (w:World) (hG:SysG w x) (hG':SysG w X) (hL:x.Len) (hL':X.Len) (hV:w.cell? (aQ 0 0)=some (.iface 167 (.agg #[.pointer (some (aQ 1 120))]))):
  Calls Tryz.prog 15 #[x.v,X.v] w fun e w'=>qbm e (x.y.Fo X.y)/\Bw w w':=by
 have H0:Hid (F3 w (((w.alloc (x.oX)).alloc (oQ4 X.pa X.pn X.pc X.sa X.sn X.sc X.wa X.wn X.wc X.ha X.hn X.hc)).alloc (.cells #[.bool false] 4)) x X):=F3.new (F2.new hG hG' _) (by simp) _
 have HV:Hid (w.cell? (aQ 0 0)=some (.iface 167 (.agg #[.pointer (some (aQ 1 120))]))):=hV
 have HV0:Hid (0<w.heap.size):=zJ w _ hV
 have HO:Hid (∀ wx,SysG wx x->wx.cell? ⟨0,0,none⟩=some (.iface 167 (.agg #[.pointer (some ⟨1,120,none⟩)]))->Calls Tryz.prog 26 #[x.v] wx fun e w'=>e=.returned (.bool x.y.okB)/\Bw wx w'):=fun wx g v=>qce x wx g hL v
 have HO':Hid (∀ wx,SysG wx X->wx.cell? ⟨0,0,none⟩=some (.iface 167 (.agg #[.pointer (some ⟨1,120,none⟩)]))->Calls Tryz.prog 26 #[X.v] wx fun e w'=>e=.returned (.bool X.y.okB)/\Bw wx w'):=fun wx g v=>qce X wx g hL' v
 obtain ⟨sp,hsp⟩:∃ sp:Bool,(sp=true ↔ x.y.SameP X.y):=by classical exact ⟨decide (x.y.SameP X.y),by simp⟩
 have HS:Hid (∀ wx,SysG wx x->SysG wx X->Calls Tryz.prog 39 #[x.v,X.v] wx fun e w'=>e=.returned (.bool sp)/\Bw wx w'):=fun wx g g'=>(qkl x X wx g g' hL hL').mono fun e w' h=>by
  obtain ⟨⟨t,rfl,ht⟩,hb⟩:=h
  exact ⟨by rw [show t=sp from Bool.eq_iff_iff.2 (ht.trans hsp.symm)],hb⟩
 have HL:Hid (x.Len/\X.Len):=⟨hL,hL'⟩
 have HSP:Hid (sp=true ↔ x.y.SameP X.y):=hsp
 clear hL hL' hG hG' hV hsp
 have HOk:Hid ((x.y.okB=true->x.hn=x.pn)/\(X.y.okB=true->X.hn=X.pn)):=⟨fun h=>(Sy.ok_of h).cn.2.2.1,fun h=>(Sy.ok_of h).cn.2.2.1⟩
 obtain ⟨tx,htx⟩:∃ t,x.y.okB=t:=⟨_,rfl⟩
 obtain ⟨tX,htX⟩:∃ t,X.y.okB=t:=⟨_,rfl⟩
 have HF:Hid (x.y.Fo X.y->(tx=true/\tX=true)/\sp=true):=fun h=>by rw [<- htx,<- htX];exact ⟨h.1,HSP.out.2 ⟨h.2.1,fun p hp=>(h.2.2 p hp).1⟩⟩
 have HF2:Hid (tx=true/\tX=true->x.y.SameP X.y->(∀ j,j<x.pn->(x.hL j<=X.hL j/\∀ i,i<x.hL j->x.hH j i=X.hH j i))->x.y.Fo X.y):=fun h hp hq=>⟨by rw [htx,htX];exact h,hp.1,fun p hpl=>⟨hp.2 p hpl,hq p hpl⟩⟩
 have HF3:Hid (x.y.Fo X.y->∀ j,j<x.pn->(x.hL j<=X.hL j/\∀ i,i<x.hL j->x.hH j i=X.hH j i)):=fun h j hj=>(h.2.2 j hj).2
 rw [htx] at HO HOk
 rw [htX] at HO' HOk
 clear htx htX
 obtain ⟨k0,k1,k2,k3⟩:=H0.out.f.bx
 refine (callsIn_wide (n:=3)).1 ?_
 refine callsIn_of_wp_marks Tryz.func15 rfl trivial ?_ rfl
 simp only [Tryz.ntmps15,List.size_toArray,List.length_cons,List.length_nil,Nat.reduceAdd,Nat.reduceSub,Array.replicate_succ,Array.replicate_zero,List.push_toArray,List.append_toArray,List.nil_append,List.cons_append]
 cases tx with
 | false=>
  gi_wp2_with (refine ⟨trivial,?_⟩;gi_at_call 26;refine (callsIn_wide.2 (HO.out _ H0.out.f.gx ((H0.out.f.be.cell (p:=(aQ 0 0)) HV0.out).trans HV.out))).mono ?_;rintro e w1 ⟨rfl,b1⟩;have H1:Hid (F3 w w1 x X):=H0.out.below b1;obtain ⟨m0,m1,m2,m3⟩:=H1.out.f.bX;obtain ⟨k0,k1,k2,k3⟩:=H1.out.f.bx;have r0:=H1.out.rc;have rf:=H1.out.rf;clear HO b1)
  refine ⟨trivial,?_⟩
  gi_wp2
  refine ⟨trivial,?_⟩
  gi_wp2
  have hs:=World.cell?_setCell_same' w1 ⟨w.heap.size+1+1,0,none⟩ (.bool false) (by rw [r0];rfl)
  refine ⟨.bool false,?_,qbm.no (fun h=>Bool.noConfusion (HF.out h).1.1),H1.out.f.be.setCell (p:=⟨w.heap.size+1+1,0,none⟩) (by show w.heap.size<=w.heap.size+1+1;omega) _⟩
  simp [results,Tryz.f15,go_sem,hs]
 | true=>
 cases tX with
 | false=>
  gi_wp2_with (first|(refine ⟨trivial,?_⟩;gi_at_call 26;refine (callsIn_wide.2 (HO.out _ H0.out.f.gx ((H0.out.f.be.cell (p:=(aQ 0 0)) HV0.out).trans HV.out))).mono ?_;rintro e w1 ⟨rfl,b1⟩;have H1:Hid (F3 w w1 x X):=H0.out.below b1;obtain ⟨m0,m1,m2,m3⟩:=H1.out.f.bX;obtain ⟨k0,k1,k2,k3⟩:=H1.out.f.bx;have r0:=H1.out.rc;have rf:=H1.out.rf;clear HO b1)|(refine ⟨trivial,?_⟩;gi_at_call 26;refine (callsIn_wide.2 (HO'.out _ H1.out.f.gX ((H1.out.f.be.cell (p:=(aQ 0 0)) HV0.out).trans HV.out))).mono ?_;rintro e w2 ⟨rfl,b2⟩;clear m0 m1 m2 m3 k0 k1 k2 k3 r0 rf;have H2:Hid (F3 w w2 x X):=H1.out.below b2;obtain ⟨m0,m1,m2,m3⟩:=H2.out.f.bX;obtain ⟨k0,k1,k2,k3⟩:=H2.out.f.bx;have r0:=H2.out.rc;have rf:=H2.out.rf;clear HO' b2))
  refine ⟨trivial,?_⟩
  gi_wp2
  have hs:=World.cell?_setCell_same' w2 ⟨w.heap.size+1+1,0,none⟩ (.bool false) (by rw [r0];rfl)
  refine ⟨.bool false,?_,qbm.no (fun h=>Bool.noConfusion (HF.out h).1.2),H2.out.f.be.setCell (p:=⟨w.heap.size+1+1,0,none⟩) (by show w.heap.size<=w.heap.size+1+1;omega) _⟩
  simp [results,Tryz.f15,go_sem,hs]
 | true=>
 cases sp with
 | false=>
  gi_wp2_with (first|(refine ⟨trivial,?_⟩;gi_at_call 26;refine (callsIn_wide.2 (HO.out _ H0.out.f.gx ((H0.out.f.be.cell (p:=(aQ 0 0)) HV0.out).trans HV.out))).mono ?_;rintro e w1 ⟨rfl,b1⟩;have H1:Hid (F3 w w1 x X):=H0.out.below b1;obtain ⟨m0,m1,m2,m3⟩:=H1.out.f.bX;obtain ⟨k0,k1,k2,k3⟩:=H1.out.f.bx;have r0:=H1.out.rc;have rf:=H1.out.rf;clear HO b1)|(refine ⟨trivial,?_⟩;gi_at_call 26;refine (callsIn_wide.2 (HO'.out _ H1.out.f.gX ((H1.out.f.be.cell (p:=(aQ 0 0)) HV0.out).trans HV.out))).mono ?_;rintro e w2 ⟨rfl,b2⟩;clear m0 m1 m2 m3 k0 k1 k2 k3 r0 rf;have H2:Hid (F3 w w2 x X):=H1.out.below b2;obtain ⟨m0,m1,m2,m3⟩:=H2.out.f.bX;obtain ⟨k0,k1,k2,k3⟩:=H2.out.f.bx;have r0:=H2.out.rc;have rf:=H2.out.rf;clear HO' b2)|(refine ⟨trivial,?_⟩;gi_at_call 39;refine (callsIn_wide.2 (HS.out _ H2.out.f.gx H2.out.f.gX)).mono ?_;rintro e w3 ⟨rfl,b3⟩;clear m0 m1 m2 m3 k0 k1 k2 k3 r0 rf;have H3:Hid (F3 w w3 x X):=H2.out.below b3;obtain ⟨m0,m1,m2,m3⟩:=H3.out.f.bX;obtain ⟨k0,k1,k2,k3⟩:=H3.out.f.bx;have r0:=H3.out.rc;have rf:=H3.out.rf;clear HS b3))
  have hs:=World.cell?_setCell_same' w3 ⟨w.heap.size+1+1,0,none⟩ (.bool false) (by rw [r0];rfl)
  refine ⟨.bool false,?_,qbm.no (fun h=>Bool.noConfusion (HF.out h).2),H3.out.f.be.setCell (p:=⟨w.heap.size+1+1,0,none⟩) (by show w.heap.size<=w.heap.size+1+1;omega) _⟩
  simp [results,Tryz.f15,go_sem,hs]
 | true=>
 have HNN:Hid (x.hn=x.pn/\X.hn=X.pn/\x.pn=X.pn):=⟨HOk.out.1 rfl,HOk.out.2 rfl,(HSP.out.1 rfl).1⟩
 have HF4:Hid ((∀ j,j<x.pn->(x.hL j<=X.hL j/\∀ i,i<x.hL j->x.hH j i=X.hH j i))->x.y.Fo X.y):=HF2.out ⟨rfl,rfl⟩ (HSP.out.1 rfl)
 clear HOk HF2 HSP HF
 gi_wp2_with (first|(refine ⟨trivial,?_⟩;gi_at_call 26;refine (callsIn_wide.2 (HO.out _ H0.out.f.gx ((H0.out.f.be.cell (p:=(aQ 0 0)) HV0.out).trans HV.out))).mono ?_;rintro e w1 ⟨rfl,b1⟩;have H1:Hid (F3 w w1 x X):=H0.out.below b1;obtain ⟨m0,m1,m2,m3⟩:=H1.out.f.bX;obtain ⟨k0,k1,k2,k3⟩:=H1.out.f.bx;have r0:=H1.out.rc;have rf:=H1.out.rf;clear HO b1)|(refine ⟨trivial,?_⟩;gi_at_call 26;refine (callsIn_wide.2 (HO'.out _ H1.out.f.gX ((H1.out.f.be.cell (p:=(aQ 0 0)) HV0.out).trans HV.out))).mono ?_;rintro e w2 ⟨rfl,b2⟩;clear m0 m1 m2 m3 k0 k1 k2 k3 r0 rf;have H2:Hid (F3 w w2 x X):=H1.out.below b2;obtain ⟨m0,m1,m2,m3⟩:=H2.out.f.bX;obtain ⟨k0,k1,k2,k3⟩:=H2.out.f.bx;have r0:=H2.out.rc;have rf:=H2.out.rf;clear HO' b2)|(refine ⟨trivial,?_⟩;gi_at_call 39;refine (callsIn_wide.2 (HS.out _ H2.out.f.gx H2.out.f.gX)).mono ?_;rintro e w3 ⟨rfl,b3⟩;clear m0 m1 m2 m3 k0 k1 k2 k3 r0 rf;have H3:Hid (F3 w w3 x X):=H2.out.below b3;obtain ⟨m0,m1,m2,m3⟩:=H3.out.f.bX;obtain ⟨k0,k1,k2,k3⟩:=H3.out.f.bx;have r0:=H3.out.rc;have rf:=H3.out.rf;clear HS b3)|(refine ⟨trivial,?_⟩;gi_at_call 40;refine (callsIn_wide.2 (qo0 _ _ _ _ _ _ _ _ _)).mono ?_;rintro e w' ⟨rfl,rfl⟩))
 clear m0 m1 m2 m3 k0 k1 k2 k3 r0 rf H0 H1 H2 HV HV0
 have a1:=zT w3 (x.oX)
 have a2:=zT (w3.alloc (x.oX)) (oQ4 X.pa X.pn X.pc X.sa X.sn X.sc X.wa X.wn X.wc X.ha X.hn X.hc)
 have z1:(w3.alloc (x.oX)).heap.size=w3.heap.size+1:=by simp
 have z2:((w3.alloc (x.oX)).alloc (oQ4 X.pa X.pn X.pc X.sa X.sn X.sc X.wa X.wn X.wc X.ha X.hn X.hc)).heap.size=w3.heap.size+1+1:=by simp
 have n1:=(BoxC.new w3 (.slice x.pa x.pn x.pc) (.slice x.sa x.sn x.sc) (.slice x.wa x.wn x.wc) (.slice x.ha x.hn x.hc) 29).2.2.2
 have n2:=(BoxC.new (w3.alloc (x.oX)) (.slice X.pa X.pn X.pc) (.slice X.sa X.sn X.sc) (.slice X.wa X.wn X.wc) (.slice X.ha X.hn X.hc) 29).2.2.2
 unfold Bw at a2
 rw [z1] at n2 a2
 have n1':=(a2.cell (p:=(aQ w3.heap.size 3)) (by show w3.heap.size<w3.heap.size+1;omega)).trans n1
 have aa:Bw w3 ((w3.alloc (x.oX)).alloc (oQ4 X.pa X.pn X.pc X.sa X.sn X.sc X.wa X.wn X.wc X.ha X.hn X.hc)):=a1.trans (a2.mono (by omega))
 have H4:Hid (F3 w ((w3.alloc (x.oX)).alloc (oQ4 X.pa X.pn X.pc X.sa X.sn X.sc X.wa X.wn X.wc X.ha X.hn X.hc)) x X):=H3.out.below aa
 have HB:Hid (((w3.alloc (x.oX)).alloc (oQ4 X.pa X.pn X.pc X.sa X.sn X.sc X.wa X.wn X.wc X.ha X.hn X.hc)).cell? (aQ w3.heap.size 3)=some (.slice x.ha x.hn x.hc)/\((w3.alloc (x.oX)).alloc (oQ4 X.pa X.pn X.pc X.sa X.sn X.sc X.wa X.wn X.wc X.ha X.hn X.hc)).cell? ⟨w3.heap.size+1,3,none⟩=some (.slice X.ha X.hn X.hc)):=⟨n1',n2⟩
 have hwN:w.heap.size+1+1<w3.heap.size:=H3.out.lt
 clear a1 a2 z1 n1 n2 n1' aa H3
 generalize ((w3.alloc (x.oX)).alloc (oQ4 X.pa X.pn X.pc X.sa X.sn X.sc X.wa X.wn X.wc X.ha X.hn X.hc))=W8 at *
 generalize w3.heap.size=N at *
 clear w3
 have hF:Hid (∀ W',Kq (N+1+1) (N+1+1) W8 W'->Hv.In ⟨x.ha,x.hn,x.hc,x.hA,x.hL,x.hC,x.hH⟩ W' N/\Hv.In ⟨X.ha,X.hn,X.hc,X.hA,X.hL,X.hC,X.hH⟩ W' (N+1)):=fun W' hk=>by
  have hb:Bw W8 W':=by unfold Bw;rw [z2];exact hk.lo
  have g:=H4.out.f.gx.below hb
  have g':=H4.out.f.gX.below hb
  exact ⟨⟨(hk.lo.cell (p:=(aQ N 3)) (by show N<N+1+1;omega)).trans HB.out.1,g.h,g.hi⟩,⟨(hk.lo.cell (p:=⟨N+1,3,none⟩) (by show N+1<N+1+1;omega)).trans HB.out.2,g'.h,g'.hi⟩⟩
 have hnn:=HNN.out
 have hll:∀ i,i<x.hn->x.hL i<=1048576/\X.hL i<=1048576:=fun i hi=>⟨HL.out.1.h.2 i hi,HL.out.2.h.2 i (by omega)⟩
 have hn20:x.hn<=1048576:=HL.out.1.h.1
 have hxX:x.hn<=X.hn:=by omega
 clear hnn
 obtain ⟨d,hdd⟩:∃ d:Nat->Nat,∀ i,i<x.hn->∀ r,Al (x.hH i) (X.hH i) (min (x.hL i) (X.hL i)) r->x.hL i - r=d i:=⟨fun i=>x.hL i - (Al.ex (x.hH i) (X.hH i) (min (x.hL i) (X.hL i))).choose,fun i _ r a=>by rw [a.one (Al.ex (x.hH i) (X.hH i) (min (x.hL i) (X.hL i))).choose_spec]⟩
 have HD:Hid (∀ j,j<x.pn->(d j=0 ↔ (x.hL j<=X.hL j/\∀ i,i<x.hL j->x.hH j i=X.hH j i))):=fun j hj=>by
  obtain ⟨r,a⟩:=Al.ex (x.hH j) (X.hH j) (min (x.hL j) (X.hL j))
  have h1:=hdd j (by have:=HNN.out;omega) r a
  have h2:=a.le
  constructor
  ·intro h0
   have h3:x.hL j=r:=by omega
   exact ⟨by omega,fun i hi=>a.eq i (by omega)⟩
  ·rintro ⟨h3,h4⟩
   by_cases h5:r<x.hL j
   ·exact absurd (h4 r h5) (a.ne (by omega))
   ·omega
 refine wpIn_rangeFunc_ownG (F:=Fence.wide) (n:=3) rfl (by omega) (gf:=80) (lb:=#[.pointer (some (aQ N 0)),.pointer (some ⟨N+1,0,none⟩)]) rfl trivial (enters_of Tryz.func80 (by kernel_rfl) rfl)
  (qix 2 (by omega) N (N+1) (N+1+1) (N+1+1) ⟨x.ha,x.hn,x.hc,x.hA,x.hL,x.hC,x.hH⟩ ⟨X.ha,X.hn,X.hc,X.hA,X.hL,X.hC,X.hH⟩ hxX hn20 hll d hdd W8 (by omega) (by omega) hF.out) (fun h k=>h.trans k) (Kq.b (by omega) (by omega)) (Below.refl _ _) (fun _=>rfl)
  (fun pre W=>(pre=[]/\W.cell? ⟨w.heap.size+1+1,0,none⟩=some (.bool false)/\W.frozen? ⟨w.heap.size+1+1,0,none⟩=false)/\Bw w W)
  (fun c _ W=>(c=.ret/\W.cell? ⟨w.heap.size+1+1,0,none⟩=some (.bool false))/\Bw w W)
  (OwnFrom.and (Own.from (fun s A B row hs hg hr=>⟨hs.1,cell_kept hs.2.1 hg hr,(frozen_kept hs.2.1 hg hr).trans hs.2.2⟩) _) (ownFrom_below (Nat.le_refl _) (by omega)))
  (fun c=>OwnFrom.and (Own.from (fun s A B row hs hg hr=>⟨hs.1,cell_kept hs.2 hg hr⟩) _) (ownFrom_below (Nat.le_refl _) (by omega)))
  ⟨⟨rfl,H4.out.rc,H4.out.rf⟩,H4.out.f.be⟩
  (fun z=>{ tmps:=#[x.v,X.v,.pointer (some (aQ w.heap.size 0)),.pointer (some ⟨w.heap.size+1,0,none⟩),.pointer (some ⟨w.heap.size+1+1,0,none⟩),.agg #[.slice x.pa x.pn x.pc,.slice x.sa x.sn x.sc,.slice x.wa x.wn x.wc,.slice x.ha x.hn x.hc],.bool true,.bool false,.bool false,.agg #[.slice X.pa X.pn X.pc,.slice X.sa X.sn X.sc,.slice X.wa X.wn X.wc,.slice X.ha X.hn X.hc],.bool true,.bool false,.bool false,.bool false,.agg #[.slice x.pa x.pn x.pc,.slice x.sa x.sn x.sc,.slice x.wa x.wn x.wc,.slice x.ha x.hn x.hc],.agg #[.slice X.pa X.pn X.pc,.slice X.sa X.sn X.sc,.slice X.wa X.wn X.wc,.slice X.ha X.hn X.hc],.bool true,.bool false,.bool false,.agg #[.slice x.pa x.pn x.pc,.slice x.sa x.sn x.sc,.slice x.wa x.wn x.wc,.slice x.ha x.hn x.hc],.agg #[.slice X.pa X.pn X.pc,.slice X.sa X.sn X.sc,.slice X.wa X.wn X.wc,.slice X.ha X.hn X.hc],.func (.func 80) #[] #[.pointer (some (aQ N 0)),.pointer (some ⟨N+1,0,none⟩)],.int .i64 (z.1.val:Nat),.int .i64 (z.2:Nat)],defers:=[] }) ?assign ?body ?done ?stop
 case assign=>
  intro l z W K hK
  gi_wp2
  exact hK
 case body=>
  rintro l pre z W ⟨⟨hp,hcr,hfr⟩,hB⟩ _
  gi_wp2
  exact ⟨(KeepsOthers.setCell _ _ _).from _,⟨rfl,World.cell?_setCell_same' _ _ _ (by rw [hcr];rfl)⟩,hB.setCell (p:=⟨w.heap.size+1+1,0,none⟩) (by show w.heap.size<=w.heap.size+1+1;omega) _⟩
 case done=>
  rintro D ys W hD hys ⟨⟨hp,hcr,hfr⟩,hB⟩ hK
  have hz:Hid (x.y.Fo X.y):=HF4.out fun j hj=>(HD.out j hj).1 (qrs x.hn (Nat.le_refl _) (hys.symm.trans hp) j (by have:=HNN.out;omega))
  gi_wp2
  have hK':=(KeepsOthers.setCell W ⟨w.heap.size+1+1,0,none⟩ (.bool true)).same D _ hK rfl
  refine ⟨by simp,.inl ⟨_,_,rfl,run_takeDeferred hK',?_⟩⟩
  have hc5:=cell_kept (World.cell?_setCell_same' W ⟨w.heap.size+1+1,0,none⟩ (.bool true) (by rw [hcr];rfl)) (grownBy_putObj' _ D (.deferred none)) (fun r e=>by cases e;exact ⟨_,hK',rfl⟩)
  refine ⟨.bool true,?_,qbm.yes hz.out,(hB.setCell (p:=⟨w.heap.size+1+1,0,none⟩) (by show w.heap.size<=w.heap.size+1+1;omega) _).trans (belowK_b (w:=w) (Nat.le_refl _) _ D _ _ (by omega) hK' rfl rfl)⟩
  simp [results,Tryz.f15,go_sem,hc5]
 case stop=>
  rintro D c pre W hD ⟨k,hk,hdk,-⟩ ⟨⟨rfl,hcr⟩,hB⟩ hK
  have hz:Hid (¬ x.y.Fo X.y):=fun h=>by
   have h1:=(HD.out k (by have h2:=HNN.out;have h3:k<x.hn:=hk;omega)).2 (HF3.out h k (by have h2:=HNN.out;have h3:k<x.hn:=hk;omega))
   omega
  gi_wp2
  refine ⟨by simp,.inl ⟨_,_,rfl,run_takeDeferred hK,?_⟩⟩
  have hc5:=cell_kept hcr (grownBy_putObj' _ D (.deferred none)) (fun r e=>by cases e;exact ⟨_,hK,rfl⟩)
  refine ⟨.bool false,?_,qbm.no hz.out,hB.trans (belowK_b (w:=w) (Nat.le_refl _) W D _ _ (by omega) hK rfl rfl)⟩
  simp [results,Tryz.f15,go_sem,hc5]
def fput4 (w:World) (N:Nat) (u0 u1 u2 u3:Value):World:=(((w.setCell (aQ N 0) u0).setCell (aQ N 1) u1).setCell (aQ N 2) u2).setCell (aQ N 3) u3
theorem qdj (w:World) {N b:Nat} (h:b≠N) (u0 u1 u2 u3:Value):(fput4 w N u0 u1 u2 u3).heap[b]? = w.heap[b]?:=by
 unfold fput4
 rw [zO _ _ _ _ h,zO _ _ _ _ h,zO _ _ _ _ h,zO _ _ _ _ h]
theorem qex (w:World) (N:Nat) (u0 u1 u2 u3:Value):(fput4 w N u0 u1 u2 u3).heap.size=w.heap.size:=by simp [fput4]
theorem BoxC.other4 {w:World} {M N:Nat} {v0 v1 v2 v3:Value} (h:BoxC w M v0 v1 v2 v3) (hn:M≠N) (u0 u1 u2 u3:Value):BoxC (fput4 w N u0 u1 u2 u3) M v0 v1 v2 v3:=by
 have e:=qdj w hn u0 u1 u2 u3
 generalize fput4 w N u0 u1 u2 u3=W at e
 unfold BoxC at *
 obtain ⟨h0,h1,h2,h3⟩:=h
 exact ⟨(zH e).trans h0,(zH e).trans h1,(zH e).trans h2,(zH e).trans h3⟩
theorem Bx.other4 {w:World} {M N:Nat} {v0 v1 v2 v3:Value} (h:Bx w M v0 v1 v2 v3) (hn:M≠N) (u0 u1 u2 u3:Value):Bx (fput4 w N u0 u1 u2 u3) M v0 v1 v2 v3:=h.blk (qdj w hn u0 u1 u2 u3)
structure FD (w wr:World) (x X:SysIn):Prop where
 sx:x.y.Sm
 sX:X.y.Sm
 gx:SysG wr x
 gX:SysG wr X
 cx:∀ i,i<x.hn->x.hL i<=x.hC i
 cX:∀ i,i<X.hn->X.hL i<=X.hC i
 be:Bw w wr
theorem FD.swap {w wr:World} {x X:SysIn} (h:FD w wr x X):FD w wr X x:=⟨h.sX,h.sx,h.gX,h.gx,h.cX,h.cx,h.be⟩
structure FC (w wr:World) (N M Y:Nat) (x X:SysIn):Prop where
 sx:x.y.Sm
 sX:X.y.Sm
 xx:∃ B T,SysX wr B T x/\N+1<B
 xX:∃ B T,SysX wr B T X/\N+1<B
 bx:x.bX wr M
 bX:BoxC wr Y (.slice X.pa X.pn X.pc) (.slice X.sa X.sn X.sc) (.slice X.wa X.wn X.wc) (.slice X.ha X.hn X.hc)
 n1:Bx wr (N+1) (.slice none 0 0) (.slice none 0 0) (.slice none 0 0) (.slice none 0 0)
 be:Bw w wr
 sz:w.heap.size<=N/\N+1<M/\N+1<Y
structure FB (w wr:World) (N M Y:Nat) (x X:SysIn):Prop where
 c:FC w wr N M Y x X
 n0:Bx wr N (.slice none 0 0) (.slice none 0 0) (.slice none 0 0) (.slice none 0 0)
theorem FB.bx {w wr:World} {N M Y:Nat} {x X:SysIn} (h:FB w wr N M Y x X):x.bX wr M:=h.c.bx
theorem FB.bX {w wr:World} {N M Y:Nat} {x X:SysIn} (h:FB w wr N M Y x X):BoxC wr Y (.slice X.pa X.pn X.pc) (.slice X.sa X.sn X.sc) (.slice X.wa X.wn X.wc) (.slice X.ha X.hn X.hc):=h.c.bX
theorem FB.drew {w wr:World} {N M Y:Nat} {x X:SysIn} (h:FB w wr N M Y x X):FB w wr.drew N M Y x X:=by
 obtain ⟨B,T,hX,hB⟩:=h.c.xx
 obtain ⟨B',T',hX',hB'⟩:=h.c.xX
 exact ⟨⟨h.c.sx,h.c.sX,⟨B,T,hX.keep (Nat.le_refl _) fun _ _ _ _=>rfl,hB⟩,⟨B',T',hX'.keep (Nat.le_refl _) fun _ _ _ _=>rfl,hB'⟩,h.c.bx,h.c.bX,h.c.n1.blk rfl,h.c.be.drew,h.c.sz⟩,h.n0.blk rfl⟩
theorem FB.put {w wr:World} {N M Y:Nat} {x X:SysIn} (h:FB w wr N M Y x X) {u0 u1 u2 u3:Value}:FC w (fput4 wr N u0 u1 u2 u3) N M Y x X:=by
 obtain ⟨B,T,hX,hB⟩:=h.c.xx
 obtain ⟨B',T',hX',hB'⟩:=h.c.xX
 obtain ⟨s1,s2,s3⟩:=h.c.sz
 exact ⟨h.c.sx,h.c.sX,⟨B,T,hX.keep (Nat.le_of_eq (qex _ _ _ _ _ _).symm) fun b h1 _ _=>qdj _ (by omega) _ _ _ _,hB⟩,⟨B',T',hX'.keep (Nat.le_of_eq (qex _ _ _ _ _ _).symm) fun b h1 _ _=>qdj _ (by omega) _ _ _ _,hB'⟩,h.c.bx.other4 (by omega) _ _ _ _,h.c.bX.other4 (by omega) _ _ _ _,h.c.n1.other4 (by omega) _ _ _ _,(((h.c.be.setCell (p:=(aQ N 0)) s1 _).setCell (p:=(aQ N 1)) s1 _).setCell (p:=(aQ N 2)) s1 _).setCell (p:=(aQ N 3)) s1 _,h.c.sz⟩
theorem FC.fin {w wr:World} {N M Y:Nat} {x X:SysIn} (h:FC w wr N M Y x X) {v0 v1 v2 v3 u0 u1 u2 u3:Value} (hN:Bx wr N v0 v1 v2 v3):FD w (fput4 wr (N+1) u0 u1 u2 u3) x X/\Bx (fput4 wr (N+1) u0 u1 u2 u3) N v0 v1 v2 v3/\Bx (fput4 wr (N+1) u0 u1 u2 u3) (N+1) u0 u1 u2 u3/\x.bX (fput4 wr (N+1) u0 u1 u2 u3) M/\BoxC (fput4 wr (N+1) u0 u1 u2 u3) Y (.slice X.pa X.pn X.pc) (.slice X.sa X.sn X.sc) (.slice X.wa X.wn X.wc) (.slice X.ha X.hn X.hc):=by
 obtain ⟨B,T,hX,hB⟩:=h.xx
 obtain ⟨B',T',hX',hB'⟩:=h.xX
 obtain ⟨s1,s2,s3⟩:=h.sz
 have s4:w.heap.size<=N+1:=by omega
 exact ⟨⟨h.sx,h.sX,(hX.keep (Nat.le_of_eq (qex _ _ _ _ _ _).symm) fun b h1 _ _=>qdj _ (by omega) _ _ _ _).self,(hX'.keep (Nat.le_of_eq (qex _ _ _ _ _ _).symm) fun b h1 _ _=>qdj _ (by omega) _ _ _ _).self,hX.cap,hX'.cap,(((h.be.setCell (p:=⟨N+1,0,none⟩) s4 _).setCell (p:=⟨N+1,1,none⟩) s4 _).setCell (p:=⟨N+1,2,none⟩) s4 _).setCell (p:=⟨N+1,3,none⟩) s4 _⟩,hN.other4 (by omega) _ _ _ _,h.n1.put _ _ _ _,h.bx.other4 (by omega) _ _ _ _,h.bX.other4 (by omega) _ _ _ _⟩
def DrwF (w:World) (e:Ending) (w':World):Prop:=∃ x X:SysIn,e=.returned (.tuple #[x.v,X.v])/\FD w w' x X
theorem qi6 (W0 len cap:Nat) (a0:Option Addr) (w:World) (hB:qbg w W0 a0 len) (hW:W0<=w.heap.size) (ln:len<=1048576):
  Calls Tryz.prog 14 #[.slice a0 len cap] w (DrwF w):=by
 have C0:Hid (qbg ((w.alloc (zQ3)).alloc (zQ3)) W0 a0 len/\W0<=((w.alloc (zQ3)).alloc (zQ3)).heap.size/\Bw w ((w.alloc (zQ3)).alloc (zQ3))/\Bx ((w.alloc (zQ3)).alloc (zQ3)) w.heap.size (.slice none 0 0) (.slice none 0 0) (.slice none 0 0) (.slice none 0 0)/\Bx ((w.alloc (zQ3)).alloc (zQ3)) (w.heap.size+1) (.slice none 0 0) (.slice none 0 0) (.slice none 0 0) (.slice none 0 0)/\((w.alloc (zQ3)).alloc (zQ3)).heap.size=w.heap.size+1+1):=by
  have hb:Bw w ((w.alloc (zQ3)).alloc (zQ3)):=(zQ _ _).trans ((zQ _ _).mono (by simp))
  exact ⟨hB.kept (fun k hk=>hb.block k (by omega)),by simp;omega,hb,(Bx.new w _ _ _ _ _).below (zQ _ _),Bx.newN _ (by simp) _ _ _ _ _,by simp⟩
 clear hB
 go_enter Tryz.func14,Tryz.ntmps14
 go_wp2_with fail
 generalize (w.alloc (zQ3)).alloc (zQ3)=W2 at *
 refine (qef W0 len cap a0 W2 C0.out.1 C0.out.2.1 ln).mono ?_
 rintro e w2 ⟨x,p,k,B,T,rfl,hm,hX,hBl,hT,hb,-,-⟩
 have ba:Bw w2 (w2.alloc (x.oX)):=zQ _ _
 have F1:Hid ((SysX (w2.alloc (x.oX)) B T x/\w.heap.size+1<B)/\x.y.Sm/\Bx (w2.alloc (x.oX)) w.heap.size (.slice none 0 0) (.slice none 0 0) (.slice none 0 0) (.slice none 0 0)/\Bx (w2.alloc (x.oX)) (w.heap.size+1) (.slice none 0 0) (.slice none 0 0) (.slice none 0 0) (.slice none 0 0)/\x.bX (w2.alloc (x.oX)) w2.heap.size/\Bw w (w2.alloc (x.oX))/\w.heap.size+1<w2.heap.size):=by
  have h1:=C0.out.2.2.2.2.2
  have h2:=hb.size
  exact ⟨⟨hX.keep ba.size fun b _ _ hl=>ba.block b hl,by omega⟩,hm,(C0.out.2.2.2.1.below hb).below ba,(C0.out.2.2.2.2.1.below hb).below ba,BoxC.new _ _ _ _ _ _,(C0.out.2.2.1.trans (hb.mono (by omega))).trans (ba.mono (by omega)),by omega⟩
 clear hX hBl hT hb hm ba C0
 go_wp2_with fail
 generalize w2.alloc (x.oX)=wA at *
 generalize w2.heap.size=M at *
 clear w2
 refine (qen x p k wA F1.out.1.1.self F1.out.2.1.inLen F1.out.1.1.cap).mono ?_
 rintro e w3 ⟨v3,rfl,o3,d3⟩
 obtain ⟨x',rfl,ey,hX3⟩:=o3.sysT.x
 have F:Hid (FB w (w3.alloc (oQ4 x'.pa x'.pn x'.pc x'.sa x'.sn x'.sc x'.wa x'.wn x'.wc x'.ha x'.hn x'.hc)) w.heap.size M w3.heap.size x x'):=by
  have ba:Bw w3 (w3.alloc (oQ4 x'.pa x'.pn x'.pc x'.sa x'.sn x'.sc x'.wa x'.wn x'.wc x'.ha x'.hn x'.hc)):=zQ _ _
  have h1:=F1.out.2.2.2.2.2.2
  have h2:M<wA.heap.size:=zJ _ _ F1.out.2.2.2.2.1.1
  have h3:=d3.size
  have h4:=F1.out.2.2.2.2.2.1.size
  refine ⟨⟨F1.out.2.1,by rw [ey];exact qwq _ _ _,⟨B,T,F1.out.1.1.keep (zP d3.size ba.size) fun b _ _ hl=>(ba.block b (by omega)).trans (d3.block b hl),F1.out.1.2⟩,⟨_,_,hX3.keep ba.size fun b _ _ hl=>ba.block b hl,by omega⟩,(F1.out.2.2.2.2.1.below d3).below ba,BoxC.new _ _ _ _ _ _,(F1.out.2.2.2.1.below d3).below ba,F1.out.2.2.2.2.2.1.trans ((d3.trans (ba.mono d3.size)).mono h4),Nat.le_refl _,h1,by omega⟩,(F1.out.2.2.1.below d3).below ba⟩
 clear o3 ey hX3 d3 F1
 obtain ⟨r,hr⟩:∃ r,(len:Int) % 3=r:=⟨_,rfl⟩
 by_cases h0:r=0
 ·subst h0
  go_upto_region 3 with fail
  generalize w3.alloc (oQ4 x'.pa x'.pn x'.pc x'.sa x'.sn x'.sc x'.wa x'.wn x'.wc x'.ha x'.hn x'.hc)=wD at *
  generalize w3.heap.size=Y at *
  generalize hN:w.heap.size=N at *
  clear hN w3 wA
  go_upto_region 4 with fail
  refine qae (fun w'=>(w'.cell? (aQ M 0)=some (.slice x.pa x.pn x.pc)/\w'.cell? (aQ M 1)=some (.slice x.sa x.sn x.sc)/\w'.cell? (aQ M 2)=some (.slice x.wa x.wn x.wc)/\w'.cell? (aQ M 3)=some (.slice x.ha x.hn x.hc))/\(w'.cell? (aQ Y 0)=some (.slice x'.pa x'.pn x'.pc)/\w'.cell? (aQ Y 1)=some (.slice x'.sa x'.sn x'.sc)/\w'.cell? (aQ Y 2)=some (.slice x'.wa x'.wn x'.wc)/\w'.cell? (aQ Y 3)=some (.slice x'.ha x'.hn x'.hc))) (fun _=>false) (by kernel_rfl) ?_
  have F':Hid (FB w wD.drew N M Y x x'):=F.out.drew
  generalize wD.drew=wE at *
  clear F
  have hHeld:(fun w':World=>(w'.cell? (aQ M 0)=some (.slice x.pa x.pn x.pc)/\w'.cell? (aQ M 1)=some (.slice x.sa x.sn x.sc)/\w'.cell? (aQ M 2)=some (.slice x.wa x.wn x.wc)/\w'.cell? (aQ M 3)=some (.slice x.ha x.hn x.hc))/\(w'.cell? (aQ Y 0)=some (.slice x'.pa x'.pn x'.pc)/\w'.cell? (aQ Y 1)=some (.slice x'.sa x'.sn x'.sc)/\w'.cell? (aQ Y 2)=some (.slice x'.wa x'.wn x'.wc)/\w'.cell? (aQ Y 3)=some (.slice x'.ha x'.hn x'.hc))) wE:=⟨F'.out.bx,F'.out.bX⟩
  refine qau [0,1] ?_
  iterate 2 (refine qaf rfl hHeld ?_;apply Exists.intro;refine ⟨fun wq hSw=>?_,?_⟩;(· ((try dsimp only at hSw);go_simp;try with_reducible rfl));(try simp only [Act.put,zD,zE,zF]))
  refine qao ?_
  refine qaa 2 rfl (by kernel_rfl) (fun K hK=>?_)
  have f0:=F'.out.n0.fr
  obtain ⟨c0,c1,c2,c3⟩:=F'.out.n0.bx
  go_simp
  have F2:Hid (FC w (fput4 wE N (.slice x.pa x.pn x.pc) (.slice x.sa x.sn x.sc) (.slice x.wa x.wn x.wc) (.slice x.ha x.hn x.hc)) N M Y x x'/\Bx (fput4 wE N (.slice x.pa x.pn x.pc) (.slice x.sa x.sn x.sc) (.slice x.wa x.wn x.wc) (.slice x.ha x.hn x.hc)) N (.slice x.pa x.pn x.pc) (.slice x.sa x.sn x.sc) (.slice x.wa x.wn x.wc) (.slice x.ha x.hn x.hc)):=⟨F'.out.put,F'.out.n0.put _ _ _ _⟩
  refine hK.out _ _ (fun _=>⟨F2.out.1.bx,F2.out.1.bX⟩) ?_
  clear hK K hHeld c0 c1 c2 c3 f0
  have hHeld:(fun w':World=>(w'.cell? (aQ M 0)=some (.slice x.pa x.pn x.pc)/\w'.cell? (aQ M 1)=some (.slice x.sa x.sn x.sc)/\w'.cell? (aQ M 2)=some (.slice x.wa x.wn x.wc)/\w'.cell? (aQ M 3)=some (.slice x.ha x.hn x.hc))/\(w'.cell? (aQ Y 0)=some (.slice x'.pa x'.pn x'.pc)/\w'.cell? (aQ Y 1)=some (.slice x'.sa x'.sn x'.sc)/\w'.cell? (aQ Y 2)=some (.slice x'.wa x'.wn x'.wc)/\w'.cell? (aQ Y 3)=some (.slice x'.ha x'.hn x'.hc))) (fput4 wE N (.slice x.pa x.pn x.pc) (.slice x.sa x.sn x.sc) (.slice x.wa x.wn x.wc) (.slice x.ha x.hn x.hc)):=⟨F2.out.1.bx,F2.out.1.bX⟩
  (try simp only [Act.put,zD,zE,zF])
  generalize hW5:fput4 wE N (.slice x.pa x.pn x.pc) (.slice x.sa x.sn x.sc) (.slice x.wa x.wn x.wc) (.slice x.ha x.hn x.hc)=w5 at F2 hHeld
  unfold fput4 at hW5
  rw [hW5]
  clear hW5 F'
  refine qaa 3 rfl (by kernel_rfl) (fun K hK=>?_)
  have f0:=F2.out.1.n1.fr
  obtain ⟨c0,c1,c2,c3⟩:=F2.out.1.n1.bx
  go_simp
  have F3:Hid (FD w (fput4 w5 (N+1) (.slice x'.pa x'.pn x'.pc) (.slice x'.sa x'.sn x'.sc) (.slice x'.wa x'.wn x'.wc) (.slice x'.ha x'.hn x'.hc)) x x'/\Bx (fput4 w5 (N+1) (.slice x'.pa x'.pn x'.pc) (.slice x'.sa x'.sn x'.sc) (.slice x'.wa x'.wn x'.wc) (.slice x'.ha x'.hn x'.hc)) N (.slice x.pa x.pn x.pc) (.slice x.sa x.sn x.sc) (.slice x.wa x.wn x.wc) (.slice x.ha x.hn x.hc)/\Bx (fput4 w5 (N+1) (.slice x'.pa x'.pn x'.pc) (.slice x'.sa x'.sn x'.sc) (.slice x'.wa x'.wn x'.wc) (.slice x'.ha x'.hn x'.hc)) (N+1) (.slice x'.pa x'.pn x'.pc) (.slice x'.sa x'.sn x'.sc) (.slice x'.wa x'.wn x'.wc) (.slice x'.ha x'.hn x'.hc)/\(((fput4 w5 (N+1) (.slice x'.pa x'.pn x'.pc) (.slice x'.sa x'.sn x'.sc) (.slice x'.wa x'.wn x'.wc) (.slice x'.ha x'.hn x'.hc)).cell? (aQ M 0)=some (.slice x.pa x.pn x.pc)/\(fput4 w5 (N+1) (.slice x'.pa x'.pn x'.pc) (.slice x'.sa x'.sn x'.sc) (.slice x'.wa x'.wn x'.wc) (.slice x'.ha x'.hn x'.hc)).cell? (aQ M 1)=some (.slice x.sa x.sn x.sc)/\(fput4 w5 (N+1) (.slice x'.pa x'.pn x'.pc) (.slice x'.sa x'.sn x'.sc) (.slice x'.wa x'.wn x'.wc) (.slice x'.ha x'.hn x'.hc)).cell? (aQ M 2)=some (.slice x.wa x.wn x.wc)/\(fput4 w5 (N+1) (.slice x'.pa x'.pn x'.pc) (.slice x'.sa x'.sn x'.sc) (.slice x'.wa x'.wn x'.wc) (.slice x'.ha x'.hn x'.hc)).cell? (aQ M 3)=some (.slice x.ha x.hn x.hc))/\((fput4 w5 (N+1) (.slice x'.pa x'.pn x'.pc) (.slice x'.sa x'.sn x'.sc) (.slice x'.wa x'.wn x'.wc) (.slice x'.ha x'.hn x'.hc)).cell? (aQ Y 0)=some (.slice x'.pa x'.pn x'.pc)/\(fput4 w5 (N+1) (.slice x'.pa x'.pn x'.pc) (.slice x'.sa x'.sn x'.sc) (.slice x'.wa x'.wn x'.wc) (.slice x'.ha x'.hn x'.hc)).cell? (aQ Y 1)=some (.slice x'.sa x'.sn x'.sc)/\(fput4 w5 (N+1) (.slice x'.pa x'.pn x'.pc) (.slice x'.sa x'.sn x'.sc) (.slice x'.wa x'.wn x'.wc) (.slice x'.ha x'.hn x'.hc)).cell? (aQ Y 2)=some (.slice x'.wa x'.wn x'.wc)/\(fput4 w5 (N+1) (.slice x'.pa x'.pn x'.pc) (.slice x'.sa x'.sn x'.sc) (.slice x'.wa x'.wn x'.wc) (.slice x'.ha x'.hn x'.hc)).cell? (aQ Y 3)=some (.slice x'.ha x'.hn x'.hc)))):=F2.out.1.fin F2.out.2
  refine hK.out _ _ (fun _=>F3.out.2.2.2) ?_
  clear hK K hHeld c0 c1 c2 c3 f0
  (try simp only [Act.put,zD,zE,zF])
  generalize hW6:fput4 w5 (N+1) (.slice x'.pa x'.pn x'.pc) (.slice x'.sa x'.sn x'.sc) (.slice x'.wa x'.wn x'.wc) (.slice x'.ha x'.hn x'.hc)=w6 at F3
  unfold fput4 at hW6
  rw [hW6]
  clear hW6 F2
  refine qap (by kernel_rfl) ?_ _
  obtain ⟨c0,c1,c2,c3⟩:=F3.out.2.1.bx
  obtain ⟨d0,d1,d2,d3⟩:=F3.out.2.2.1.bx
  go_wp2
  exact bodyPost_ret (v:=.tuple #[x.v,x'.v]) (by simp [results,Tryz.results14,go_sem,c0,c1,c2,c3,d0,d1,d2,d3]) rfl ⟨x,x',rfl,F3.out.1⟩
 ·have h0':(r == 0)=false:=by simpa using h0
  go_upto_region 3 with fail
  generalize w3.alloc (oQ4 x'.pa x'.pn x'.pc x'.sa x'.sn x'.sc x'.wa x'.wn x'.wc x'.ha x'.hn x'.hc)=wD at *
  generalize w3.heap.size=Y at *
  generalize hN:w.heap.size=N at *
  clear hN w3 wA
  go_upto_region 5 with fail
  refine qae (fun w'=>(w'.cell? (aQ Y 0)=some (.slice x'.pa x'.pn x'.pc)/\w'.cell? (aQ Y 1)=some (.slice x'.sa x'.sn x'.sc)/\w'.cell? (aQ Y 2)=some (.slice x'.wa x'.wn x'.wc)/\w'.cell? (aQ Y 3)=some (.slice x'.ha x'.hn x'.hc))/\(w'.cell? (aQ M 0)=some (.slice x.pa x.pn x.pc)/\w'.cell? (aQ M 1)=some (.slice x.sa x.sn x.sc)/\w'.cell? (aQ M 2)=some (.slice x.wa x.wn x.wc)/\w'.cell? (aQ M 3)=some (.slice x.ha x.hn x.hc))) (fun _=>false) (by kernel_rfl) ?_
  have F':Hid (FB w wD.drew N M Y x x'):=F.out.drew
  generalize wD.drew=wE at *
  clear F
  have hHeld:(fun w':World=>(w'.cell? (aQ Y 0)=some (.slice x'.pa x'.pn x'.pc)/\w'.cell? (aQ Y 1)=some (.slice x'.sa x'.sn x'.sc)/\w'.cell? (aQ Y 2)=some (.slice x'.wa x'.wn x'.wc)/\w'.cell? (aQ Y 3)=some (.slice x'.ha x'.hn x'.hc))/\(w'.cell? (aQ M 0)=some (.slice x.pa x.pn x.pc)/\w'.cell? (aQ M 1)=some (.slice x.sa x.sn x.sc)/\w'.cell? (aQ M 2)=some (.slice x.wa x.wn x.wc)/\w'.cell? (aQ M 3)=some (.slice x.ha x.hn x.hc))) wE:=⟨F'.out.bX,F'.out.bx⟩
  refine qau [0,1] ?_
  iterate 2 (refine qaf rfl hHeld ?_;apply Exists.intro;refine ⟨fun wq hSw=>?_,?_⟩;(· ((try dsimp only at hSw);go_simp;try with_reducible rfl));(try simp only [Act.put,zD,zE,zF]))
  refine qao ?_
  refine qaa 2 rfl (by kernel_rfl) (fun K hK=>?_)
  have f0:=F'.out.n0.fr
  obtain ⟨c0,c1,c2,c3⟩:=F'.out.n0.bx
  go_simp
  have F2:Hid (FC w (fput4 wE N (.slice x'.pa x'.pn x'.pc) (.slice x'.sa x'.sn x'.sc) (.slice x'.wa x'.wn x'.wc) (.slice x'.ha x'.hn x'.hc)) N M Y x x'/\Bx (fput4 wE N (.slice x'.pa x'.pn x'.pc) (.slice x'.sa x'.sn x'.sc) (.slice x'.wa x'.wn x'.wc) (.slice x'.ha x'.hn x'.hc)) N (.slice x'.pa x'.pn x'.pc) (.slice x'.sa x'.sn x'.sc) (.slice x'.wa x'.wn x'.wc) (.slice x'.ha x'.hn x'.hc)):=⟨F'.out.put,F'.out.n0.put _ _ _ _⟩
  refine hK.out _ _ (fun _=>⟨F2.out.1.bX,F2.out.1.bx⟩) ?_
  clear hK K hHeld c0 c1 c2 c3 f0
  have hHeld:(fun w':World=>(w'.cell? (aQ Y 0)=some (.slice x'.pa x'.pn x'.pc)/\w'.cell? (aQ Y 1)=some (.slice x'.sa x'.sn x'.sc)/\w'.cell? (aQ Y 2)=some (.slice x'.wa x'.wn x'.wc)/\w'.cell? (aQ Y 3)=some (.slice x'.ha x'.hn x'.hc))/\(w'.cell? (aQ M 0)=some (.slice x.pa x.pn x.pc)/\w'.cell? (aQ M 1)=some (.slice x.sa x.sn x.sc)/\w'.cell? (aQ M 2)=some (.slice x.wa x.wn x.wc)/\w'.cell? (aQ M 3)=some (.slice x.ha x.hn x.hc))) (fput4 wE N (.slice x'.pa x'.pn x'.pc) (.slice x'.sa x'.sn x'.sc) (.slice x'.wa x'.wn x'.wc) (.slice x'.ha x'.hn x'.hc)):=⟨F2.out.1.bX,F2.out.1.bx⟩
  (try simp only [Act.put,zD,zE,zF])
  generalize hW5:fput4 wE N (.slice x'.pa x'.pn x'.pc) (.slice x'.sa x'.sn x'.sc) (.slice x'.wa x'.wn x'.wc) (.slice x'.ha x'.hn x'.hc)=w5 at F2 hHeld
  unfold fput4 at hW5
  rw [hW5]
  clear hW5 F'
  refine qaa 3 rfl (by kernel_rfl) (fun K hK=>?_)
  have f0:=F2.out.1.n1.fr
  obtain ⟨c0,c1,c2,c3⟩:=F2.out.1.n1.bx
  go_simp
  have F3:Hid (FD w (fput4 w5 (N+1) (.slice x.pa x.pn x.pc) (.slice x.sa x.sn x.sc) (.slice x.wa x.wn x.wc) (.slice x.ha x.hn x.hc)) x x'/\Bx (fput4 w5 (N+1) (.slice x.pa x.pn x.pc) (.slice x.sa x.sn x.sc) (.slice x.wa x.wn x.wc) (.slice x.ha x.hn x.hc)) N (.slice x'.pa x'.pn x'.pc) (.slice x'.sa x'.sn x'.sc) (.slice x'.wa x'.wn x'.wc) (.slice x'.ha x'.hn x'.hc)/\Bx (fput4 w5 (N+1) (.slice x.pa x.pn x.pc) (.slice x.sa x.sn x.sc) (.slice x.wa x.wn x.wc) (.slice x.ha x.hn x.hc)) (N+1) (.slice x.pa x.pn x.pc) (.slice x.sa x.sn x.sc) (.slice x.wa x.wn x.wc) (.slice x.ha x.hn x.hc)/\(((fput4 w5 (N+1) (.slice x.pa x.pn x.pc) (.slice x.sa x.sn x.sc) (.slice x.wa x.wn x.wc) (.slice x.ha x.hn x.hc)).cell? (aQ Y 0)=some (.slice x'.pa x'.pn x'.pc)/\(fput4 w5 (N+1) (.slice x.pa x.pn x.pc) (.slice x.sa x.sn x.sc) (.slice x.wa x.wn x.wc) (.slice x.ha x.hn x.hc)).cell? (aQ Y 1)=some (.slice x'.sa x'.sn x'.sc)/\(fput4 w5 (N+1) (.slice x.pa x.pn x.pc) (.slice x.sa x.sn x.sc) (.slice x.wa x.wn x.wc) (.slice x.ha x.hn x.hc)).cell? (aQ Y 2)=some (.slice x'.wa x'.wn x'.wc)/\(fput4 w5 (N+1) (.slice x.pa x.pn x.pc) (.slice x.sa x.sn x.sc) (.slice x.wa x.wn x.wc) (.slice x.ha x.hn x.hc)).cell? (aQ Y 3)=some (.slice x'.ha x'.hn x'.hc))/\((fput4 w5 (N+1) (.slice x.pa x.pn x.pc) (.slice x.sa x.sn x.sc) (.slice x.wa x.wn x.wc) (.slice x.ha x.hn x.hc)).cell? (aQ M 0)=some (.slice x.pa x.pn x.pc)/\(fput4 w5 (N+1) (.slice x.pa x.pn x.pc) (.slice x.sa x.sn x.sc) (.slice x.wa x.wn x.wc) (.slice x.ha x.hn x.hc)).cell? (aQ M 1)=some (.slice x.sa x.sn x.sc)/\(fput4 w5 (N+1) (.slice x.pa x.pn x.pc) (.slice x.sa x.sn x.sc) (.slice x.wa x.wn x.wc) (.slice x.ha x.hn x.hc)).cell? (aQ M 2)=some (.slice x.wa x.wn x.wc)/\(fput4 w5 (N+1) (.slice x.pa x.pn x.pc) (.slice x.sa x.sn x.sc) (.slice x.wa x.wn x.wc) (.slice x.ha x.hn x.hc)).cell? (aQ M 3)=some (.slice x.ha x.hn x.hc)))):=⟨(F2.out.1.fin F2.out.2).1,(F2.out.1.fin F2.out.2).2.1,(F2.out.1.fin F2.out.2).2.2.1,(F2.out.1.fin F2.out.2).2.2.2.2,(F2.out.1.fin F2.out.2).2.2.2.1⟩
  refine hK.out _ _ (fun _=>F3.out.2.2.2) ?_
  clear hK K hHeld c0 c1 c2 c3 f0
  (try simp only [Act.put,zD,zE,zF])
  generalize hW6:fput4 w5 (N+1) (.slice x.pa x.pn x.pc) (.slice x.sa x.sn x.sc) (.slice x.wa x.wn x.wc) (.slice x.ha x.hn x.hc)=w6 at F3
  unfold fput4 at hW6
  rw [hW6]
  clear hW6 F2
  refine qap (by kernel_rfl) ?_ _
  obtain ⟨c0,c1,c2,c3⟩:=F3.out.2.1.bx
  obtain ⟨d0,d1,d2,d3⟩:=F3.out.2.2.1.bx
  go_wp2
  exact bodyPost_ret (v:=.tuple #[x'.v,x.v]) (by simp [results,Tryz.results14,go_sem,c0,c1,c2,c3,d0,d1,d2,d3]) rfl ⟨x',x,rfl,F3.out.1.swap⟩
theorem Sy.fo_self (y:Sy):y.Fo y ↔ y.okB=true:=⟨fun h=>h.1.1,fun h=>⟨⟨h,h⟩,rfl,fun _ _=>⟨⟨rfl,fun _ _=>rfl⟩,Nat.le_refl _,fun _ _=>rfl⟩⟩⟩
theorem Sy.Fo.both {y Y:Sy} (h:y.Fo Y) (h':Y.Fo y):Y.EqH y:=by
 have a:=(Sy.ok_of h.1.1).cn.2.2.1
 have b:=(Sy.ok_of h.1.2).cn.2.2.1
 refine ⟨by rw [a,b,h.2.1],fun k hk=>?_⟩
 have hk1:k<y.pn:=by omega
 have hk2:k<Y.pn:=by rw [<- h.2.1];exact hk1
 have l1:=(h.2.2 k hk1).2
 have l2:=(h'.2.2 k hk2).2
 exact ⟨by omega,fun i hi=>(l1.2 i hi).symm⟩
theorem qhg {P:Prop} {T:Bool} {e:Ending} (hT:T=true ↔ P) (h:qbm e P):e=.returned (.bool T):=by
 obtain ⟨t,rfl,ht⟩:=h
 rw [show t=T from Bool.eq_iff_iff.2 (ht.trans hT.symm)]
theorem qhw (a0:Option Addr) (len cap:Nat) (w:World) (hl:len<=1048576) (hB:qbg w w.heap.size a0 len) (hV:w.cell? (aQ 0 0)=some (.iface 167 (.agg #[.pointer (some (aQ 1 120))]))):
  Calls Tryz.prog 4 #[.slice a0 len cap] w fun e w'=>e=.returned (.bool true)/\Bw w w':=by
 have HB:Hid (qbg w w.heap.size a0 len):=hB
 have HV:Hid (∀ wx,Bw w wx->wx.cell? ⟨0,0,none⟩=some (.iface 167 (.agg #[.pointer (some ⟨1,120,none⟩)]))):=fun wx hb=>(hb.cell (p:=⟨0,0,none⟩) (zJ w _ hV)).trans hV
 have hlt:¬ (1048576:Int)<(len:Int):=by omega
 clear hB hV
 go_enter Tryz.func4,Tryz.ntmps4
 go_wp2_with fail
 refine (qf8 a0 len cap w).mono ?_
 rintro e w1 ⟨rfl,rfl⟩
 rw [decide_eq_false (show ¬ (1048576:Int)<(len:Int) by omega)]
 go_wp2_with fail
 refine (qi6 w1.heap.size len cap a0 w1 HB.out (Nat.le_refl _) hl).mono ?_
 rintro e w2 ⟨x,X,rfl,F⟩
 have HM:Hid ((x.Len/\X.Len)/\(∀ i,i<x.hn->x.hL i<=x.hC i)/\(∀ i,i<X.hn->X.hL i<=X.hC i)/\(x.hn:Int)<=16):=⟨⟨F.sx.inLen,F.sX.inLen⟩,F.cx,F.cX,by have h:x.hn<=16:=F.sx.n.2.2.2;omega⟩
 have K2:Hid (WJ w1 ((w2.alloc (x.oX)).alloc (oQ4 X.pa X.pn X.pc X.sa X.sn X.sc X.wa X.wn X.wc X.ha X.hn X.hc)) w2.heap.size x/\WJ w1 ((w2.alloc (x.oX)).alloc (oQ4 X.pa X.pn X.pc X.sa X.sn X.sc X.wa X.wn X.wc X.ha X.hn X.hc)) (w2.heap.size+1) X):=by
  have a1:=zQ w2 (x.oX)
  have a2:=zQ (w2.alloc (x.oX)) (oQ4 X.pa X.pn X.pc X.sa X.sn X.sc X.wa X.wn X.wc X.ha X.hn X.hc)
  have e1:(w2.alloc (x.oX)).heap.size=w2.heap.size+1:=by simp
  have b:=a1.trans (a2.mono (by omega))
  have n2:=BoxC.new (w2.alloc (x.oX)) (.slice X.pa X.pn X.pc) (.slice X.sa X.sn X.sc) (.slice X.wa X.wn X.wc) (.slice X.ha X.hn X.hc) 29
  rw [e1] at n2
  exact ⟨⟨F.gx.below b,(BoxC.new w2 _ _ _ _ _).below a2,F.be.trans (b.mono F.be.size)⟩,⟨F.gX.below b,n2,F.be.trans (b.mono F.be.size)⟩⟩
 clear F HB
 obtain ⟨t,ht⟩:∃ t:Bool,(t=true ↔ x.y.Fo X.y):=by classical exact ⟨decide (x.y.Fo X.y),by simp⟩
 have HT:Hid (t=true ↔ x.y.Fo X.y):=ht
 obtain ⟨t2,ht2⟩:∃ t:Bool,(t=true ↔ X.y.Fo x.y):=by classical exact ⟨decide (X.y.Fo x.y),by simp⟩
 have HT2:Hid (t2=true ↔ X.y.Fo x.y):=ht2
 obtain ⟨ok,hok⟩:∃ t:Bool,x.y.okB=t:=⟨_,rfl⟩
 have HOK:Hid (x.y.okB=ok):=hok
 clear ht ht2 hok
 go_upto_region 4 with fail
 obtain ⟨k0,k1,k2,k3⟩:=K2.out.1.bx
 obtain ⟨m0,m1,m2,m3⟩:=K2.out.2.bx
 go_wp2_with fail
 clear k0 k1 k2 k3 m0 m1 m2 m3
 generalize (w2.alloc (x.oX)).alloc (oQ4 X.pa X.pn X.pc X.sa X.sn X.sc X.wa X.wn X.wc X.ha X.hn X.hc)=W2 at *
 generalize w2.heap.size=N at *
 clear w2
 refine (qdy x X W2 K2.out.1.g K2.out.2.g HM.out.1.1 HM.out.1.2 (HV.out _ K2.out.1.be)).mono ?_
 rintro e w3 ⟨h3,d3⟩
 have h3:=qhg HT.out h3
 subst h3
 have K3:Hid (WJ w1 w3 N x/\WJ w1 w3 (N+1) X):=⟨K2.out.1.below d3,K2.out.2.below d3⟩
 clear d3 K2
 have C1:Hid (∀ wx,Bw w3 wx->Calls Tryz.prog 16 #[x.v,X.v] wx fun e w'=>e=.returned (.bool t)/\Bw wx w'):=fun wx hb=>(qkn x X wx (K3.out.1.g.below hb) (K3.out.2.g.below hb) HM.out.1.1 HM.out.1.2 HM.out.2.1 HM.out.2.2.1).mono fun e w' h=>⟨qhg HT.out h.1,h.2⟩
 have C2:Hid (∀ wx,Bw w3 wx->Calls Tryz.prog 15 #[x.v,x.v] wx fun e w'=>e=.returned (.bool ok)/\Bw wx w'):=fun wx hb=>(qdy x x wx (K3.out.1.g.below hb) (K3.out.1.g.below hb) HM.out.1.1 HM.out.1.1 (HV.out _ (K3.out.1.below hb).be)).mono fun e w' h=>⟨qhg (by rw [Sy.fo_self,HOK.out]) h.1,h.2⟩
 have C3:Hid (∀ wx,Bw w3 wx->Calls Tryz.prog 17 #[x.v] wx fun e w'=>e=.returned (.bool ok)/\Bw wx w'):=fun wx hb=>by
  have h:=qbq x wx (K3.out.1.g.below hb) HM.out.1.1 HM.out.2.1
  rw [HOK.out] at h
  exact h
 go_upto_region 5 with fail
 have q0:Bw w3 w3.drew:=(Below.refl w3.heap.size w3).drew
 refine qae (fun w'=>(w'.cell? (aQ N 0)=some (.slice x.pa x.pn x.pc)/\w'.cell? (aQ N 1)=some (.slice x.sa x.sn x.sc)/\w'.cell? (aQ N 2)=some (.slice x.wa x.wn x.wc)/\w'.cell? (aQ N 3)=some (.slice x.ha x.hn x.hc))/\(w'.cell? ⟨(N+1),0,none⟩=some (.slice X.pa X.pn X.pc)/\w'.cell? ⟨(N+1),1,none⟩=some (.slice X.sa X.sn X.sc)/\w'.cell? ⟨(N+1),2,none⟩=some (.slice X.wa X.wn X.wc)/\w'.cell? ⟨(N+1),3,none⟩=some (.slice X.ha X.hn X.hc))) (fun _=>false) (by kernel_rfl) ?_
 have hHeld:(fun w':World=>(w'.cell? (aQ N 0)=some (.slice x.pa x.pn x.pc)/\w'.cell? (aQ N 1)=some (.slice x.sa x.sn x.sc)/\w'.cell? (aQ N 2)=some (.slice x.wa x.wn x.wc)/\w'.cell? (aQ N 3)=some (.slice x.ha x.hn x.hc))/\(w'.cell? ⟨(N+1),0,none⟩=some (.slice X.pa X.pn X.pc)/\w'.cell? ⟨(N+1),1,none⟩=some (.slice X.sa X.sn X.sc)/\w'.cell? ⟨(N+1),2,none⟩=some (.slice X.wa X.wn X.wc)/\w'.cell? ⟨(N+1),3,none⟩=some (.slice X.ha X.hn X.hc))) w3.drew:=⟨K3.out.1.bx.below q0,K3.out.2.bx.below q0⟩
 refine qau [0,1,2] ?_
 iterate 3 (refine qaf rfl hHeld ?_;apply Exists.intro;refine ⟨fun wq hSw=>?_,?_⟩;(· ((try dsimp only at hSw);go_simp;try with_reducible rfl));(try simp only [Act.put,zD,zE,zF]))
 refine qao ?_
 refine qaa 3 rfl (by kernel_rfl) (fun K hK=>?_)
 refine qcz rfl 16 _ _ rfl #[x.v,X.v] (by simp [Act.eval,SysIn.v]) (yB Tryz.func16 (by kernel_rfl) rfl) (C1.out _ q0) ?_
 rintro e w4 ⟨rfl,b4⟩
 refine ⟨_,rfl,?_⟩
 have q4:Bw w3 w4:=q0.trans (b4.mono q0.size)
 have hHeld5:(fun w':World=>(w'.cell? (aQ N 0)=some (.slice x.pa x.pn x.pc)/\w'.cell? (aQ N 1)=some (.slice x.sa x.sn x.sc)/\w'.cell? (aQ N 2)=some (.slice x.wa x.wn x.wc)/\w'.cell? (aQ N 3)=some (.slice x.ha x.hn x.hc))/\(w'.cell? ⟨(N+1),0,none⟩=some (.slice X.pa X.pn X.pc)/\w'.cell? ⟨(N+1),1,none⟩=some (.slice X.sa X.sn X.sc)/\w'.cell? ⟨(N+1),2,none⟩=some (.slice X.wa X.wn X.wc)/\w'.cell? ⟨(N+1),3,none⟩=some (.slice X.ha X.hn X.hc))) w4:=⟨K3.out.1.bx.below q4,K3.out.2.bx.below q4⟩
 refine hK.out _ _ (fun _=>hHeld5) ?_
 clear hHeld
 have hHeld:=hHeld5
 clear hHeld5 hK K
 (try simp only [Act.put,zD,zE,zF])
 refine qad 4 rfl hHeld ⟨.bool false,fun wq hSw=>?_,?_⟩
 ·first|(go_simp;done)|(cases t <;> go_simp)|(cases t <;> (go_simp;rfl))
 (try simp only [Act.put,zD,zE,zF])
 refine qau [5,6,7,9] ?_
 iterate 4 (refine qaf rfl hHeld ?_;apply Exists.intro;refine ⟨fun wq hSw=>?_,?_⟩;(· ((try dsimp only at hSw);go_simp;try with_reducible rfl));(try simp only [Act.put,zD,zE,zF]))
 refine qao ?_
 refine qaa 8 rfl (by kernel_rfl) (fun K hK=>?_)
 refine qcz rfl 15 _ _ rfl #[x.v,x.v] (by simp [Act.eval,SysIn.v]) (yB Tryz.func15 (by kernel_rfl) rfl) (C2.out _ q4) ?_
 rintro e w5 ⟨rfl,b5⟩
 refine ⟨_,rfl,?_⟩
 have q5:Bw w3 w5:=q4.trans (b5.mono q4.size)
 have hHeld5:(fun w':World=>(w'.cell? (aQ N 0)=some (.slice x.pa x.pn x.pc)/\w'.cell? (aQ N 1)=some (.slice x.sa x.sn x.sc)/\w'.cell? (aQ N 2)=some (.slice x.wa x.wn x.wc)/\w'.cell? (aQ N 3)=some (.slice x.ha x.hn x.hc))/\(w'.cell? ⟨(N+1),0,none⟩=some (.slice X.pa X.pn X.pc)/\w'.cell? ⟨(N+1),1,none⟩=some (.slice X.sa X.sn X.sc)/\w'.cell? ⟨(N+1),2,none⟩=some (.slice X.wa X.wn X.wc)/\w'.cell? ⟨(N+1),3,none⟩=some (.slice X.ha X.hn X.hc))) w5:=⟨K3.out.1.bx.below q5,K3.out.2.bx.below q5⟩
 refine hK.out _ _ (fun _=>hHeld5) ?_
 clear hHeld
 have hHeld:=hHeld5
 clear hHeld5 hK K
 (try simp only [Act.put,zD,zE,zF])
 refine qaa 10 rfl (by kernel_rfl) (fun K hK=>?_)
 refine qcz rfl 17 _ _ rfl #[x.v] (by simp [Act.eval,SysIn.v]) (yB Tryz.func17 (by kernel_rfl) rfl) (C3.out _ q5) ?_
 rintro e w6 ⟨rfl,b6⟩
 refine ⟨_,rfl,?_⟩
 have q6:Bw w3 w6:=q5.trans (b6.mono q5.size)
 have hHeld5:(fun w':World=>(w'.cell? (aQ N 0)=some (.slice x.pa x.pn x.pc)/\w'.cell? (aQ N 1)=some (.slice x.sa x.sn x.sc)/\w'.cell? (aQ N 2)=some (.slice x.wa x.wn x.wc)/\w'.cell? (aQ N 3)=some (.slice x.ha x.hn x.hc))/\(w'.cell? ⟨(N+1),0,none⟩=some (.slice X.pa X.pn X.pc)/\w'.cell? ⟨(N+1),1,none⟩=some (.slice X.sa X.sn X.sc)/\w'.cell? ⟨(N+1),2,none⟩=some (.slice X.wa X.wn X.wc)/\w'.cell? ⟨(N+1),3,none⟩=some (.slice X.ha X.hn X.hc))) w6:=⟨K3.out.1.bx.below q6,K3.out.2.bx.below q6⟩
 refine hK.out _ _ (fun _=>hHeld5) ?_
 clear hHeld
 have hHeld:=hHeld5
 clear hHeld5 hK K
 (try simp only [Act.put,zD,zE,zF])
 refine qad 11 rfl hHeld ⟨.bool false,fun wq hSw=>?_,?_⟩
 ·first|(go_simp;done)|(cases ok <;> go_simp)|(cases ok <;> (go_simp;rfl))
 (try simp only [Act.put,zD,zE,zF])
 refine qad 12 rfl hHeld ?_
 apply Exists.intro
 refine ⟨fun wq hSw=>?_,?_⟩
 ·(try dsimp only at hSw)
  go_simp
  try with_reducible rfl
 (try simp only [Act.put,zD,zE,zF])
 refine qap (by kernel_rfl) ?_ _
 have K6:Hid (WJ w1 w6 N x/\WJ w1 w6 (N+1) X):=⟨K3.out.1.below q6,K3.out.2.below q6⟩
 clear hHeld q0 q4 q5 q6 b4 b5 b6 C1 C2 C3 K3
 cases t with
 | false=>
  have KB:Hid (Bw w1 w6):=K6.out.1.be
  clear K6
  go_wp2
  go_ret
  exact ⟨rfl,KB.out⟩
 | true=>
 have hFo:x.y.Fo X.y:=HT.out.1 rfl
 have HF:Hid (x.y.Fo X.y):=hFo
 have HP:Hid (x.hn=x.pn/\X.hn=x.pn):=⟨(Sy.ok_of hFo.1.1).cn.2.2.1,(Sy.ok_of hFo.1.2).cn.2.2.1.trans hFo.2.1.symm⟩
 have hn16:=HM.out.2.2.2
 clear hFo HT HOK
 go_wp2_with fail
 go_loopw [6] (fun i wr=>∃ q:Nat,q<=x.hn/\i=.int .i64 q/\Hid (WJ w1 wr N x/\WJ w1 wr (N+1) X)) (fun i _=>x.hn - (intOf i).toNat)
 case atStart=>exact ⟨0,Nat.zero_le _,rfl,K6.out⟩
 case round=>
  obtain ⟨q,hq,rfl,HK⟩:=hrel
  obtain ⟨k0,k1,k2,k3⟩:=HK.out.1.bx
  obtain ⟨m0,m1,m2,m3⟩:=HK.out.2.bx
  by_cases hlt:q<x.hn
  ·have hlt':(q:Int)<(x.hn:Int):=by omega
   have hqX:q<X.hn:=by have:=HP.out;omega
   have hqX':(q:Int)<(X.hn:Int):=by omega
   have hle:x.hL q<=X.hL q:=(HF.out.2.2 q (by have h:x.y.pn=x.pn:=rfl;have:=HP.out;omega)).2.1
   have hle':¬ (X.hL q:Int)<(x.hL q:Int):=by omega
   obtain ⟨b,off,ea,cb⟩:=HK.out.1.g.h.at hlt
   obtain ⟨b',off',ea',cb'⟩:=HK.out.2.g.h.at hqX
   have cb:wr.cell? ⟨b,off+q,none⟩=some (.slice (x.hA q) (x.hL q) (x.hC q)):=cb
   have cb':wr.cell? ⟨b',off'+q,none⟩=some (.slice (X.hA q) (X.hL q) (X.hC q)):=cb'
   rw [ea] at k3
   rw [ea'] at m3
   clear ea ea' hle
   go_wp2_with fail
   go_quiet (fail)
   go_wp2
   go_roundw
   case rel=>exact ⟨q+1,by omega,by go_num,HK.out.1.below (yE (Below.refl _ _) _),HK.out.2.below (yE (Below.refl _ _) _)⟩
   case measure=>simp [intOf];omega
  ·have nlt:¬ (q:Int)<(x.hn:Int):=by omega
   go_wp2_with fail
   refine (qdy X x wr HK.out.2.g HK.out.1.g HM.out.1.2 HM.out.1.1 (HV.out _ HK.out.1.be)).mono ?_
   rintro e w7 ⟨h7,d7⟩
   have h7:=qhg HT2.out h7
   subst h7
   have K7:Hid (WJ w1 w7 N x/\WJ w1 w7 (N+1) X):=⟨HK.out.1.below d7,HK.out.2.below d7⟩
   clear d7 HK k0 k1 k2 k3 m0 m1 m2 m3
   cases t2 with
   | false=>
    have KB:Hid (Bw w1 w7):=K7.out.1.be
    clear K7
    go_wp2
    go_ret
    exact ⟨rfl,KB.out⟩
   | true=>
    have HE:Hid (X.y.EqH x.y):=HF.out.both (HT2.out.1 rfl)
    clear HT2
    obtain ⟨k0,k1,k2,k3⟩:=K7.out.1.bx
    obtain ⟨m0,m1,m2,m3⟩:=K7.out.2.bx
    go_wp2_with (go_at_call 12;refine (qia x X _ HE.out K7.out.1.g K7.out.2.g HM.out.1.1).mono ?_;rintro e w8 ⟨rfl,d8⟩;have K8:Hid (Bw w1 w8):=(K7.out.1.below d8).be;clear d8)
    go_ret
    exact ⟨rfl,K8.out⟩
theorem qhv (a0:Option Addr) (len cap:Nat) (w:World) (_hm:len<=maxLen) (hl:1048576<len):
  Calls Tryz.prog 4 #[.slice a0 len cap] w fun e w'=>e=.returned (.bool true)/\Bw w w':=by
 go_enter Tryz.func4,Tryz.ntmps4
 go_wp2_with fail
 refine (qf8 a0 len cap w).mono ?_
 rintro e w1 ⟨rfl,rfl⟩
 rw [decide_eq_true (show (1048576:Int)<(len:Int) by omega)]
 go_wp2
 go_ret
 exact ⟨rfl,Below.refl _ _⟩
theorem ql0 (os:Os) (started:os.Started) (H:Type) (enc:TypeId × Value->H):
  ReturnsInHanded {} Tryz.checked os 4 .any (fun w args => (Rows.fnForthSpec.pre enc Tryz.prog Tryz.f4 [] false w args /\ laidMetH Tryz.prog [("errors.errorType", Rows.laid_errors_errorType)] w) /\ sizedMet enc Tryz.prog Tryz.f4 (OpenSpec.ofChange Rows.fnForthSpec) false w args)
   (Rows.fnForthSpec.post enc Tryz.prog Tryz.f4 false true false false):=by
 refine returnsInHanded_of_change_and (C := Tryz.checked) (X := fun w _ => laidMetH Tryz.prog [("errors.errorType", Rows.laid_errors_errorType)] w) (fun _ _ _ hh h => h.of_heap hh) Tryz.own started (by kernel_rfl) Tryz.func4
  (ChangeSpec.witness_at (enc := enc) (C := Tryz.checked) (os := os) (X := fun w _ => laidMetH Tryz.prog [("errors.errorType", Rows.laid_errors_errorType)] w) false (qfv os) #[.slice none 0 0] 8 rfl (by kernel_rfl) (by kernel_rfl) (by kernel_rfl) (by kernel_rfl) (by kernel_rfl) (qd0 os _)) ?_
 intro W base args ds gs before hval0 hW _ _ hL _
 have hval:∀ (j:Nat) t v,Tryz.f4.params[j]? = some t->args[j]? = some v->Value.okWide Tryz.prog W .any base t v:=hval0
 have hW':=hW
 obtain ⟨p,q,hA0,hV,rfl,hfz,hnd⟩:=hW
 have hA:DataW.TrodAll enc Tryz.prog W 0 (fun _=>true) true Tryz.f4.params.toList args.toList ds p:=hA0
 rw [Tryz.params4] at hA hval
 obtain ⟨v0,d0,rfl,rfl,h0⟩:=trodAll_one hA
 obtain ⟨rfl,rfl⟩:=trodVars_none hV
 have lt0:∀ x ∈ p,x.block<W.heap.size:=by obtain ⟨m,hm⟩:=h0;exact DataW.trod_lt m _ _ _ hm
 have hg:=qdf hL
 clear hA0 hval0
 have hlaw:Calls Tryz.prog 4 #[v0] W fun e w'=>e=.returned (.bool true)/\Bw W w':=by
  obtain ⟨a0,len,cap,rfl⟩:=okWide_slice Tryz.underlying22 (hval 0 22 v0 rfl rfl)
  obtain ⟨hm,hB⟩:=qgk h0
  by_cases hs:len<=1048576
  ·exact qhw a0 len cap W hs hB hg
  ·exact qhv a0 len cap W hm (by omega)
 refine hlaw.mono fun e W' ⟨he,bel⟩=>?_
 subst he
 exact ⟨_,rfl,_,_,_,[],_,[],hW',trodAll_mk1 (shut_bool Tryz.underlying4 _),trodAll_mk1 (Below.trod Tryz.laidOut (by kernel_rfl) (of_decide_eq_true (by kernel_rfl)) h0 bel lt0),rfl,bel.frame _,fun h=>by cases h⟩
theorem qqc:Rows.FnForthSaid:=
 OpenClaim.holds_of_wide 4 Tryz.f4 rfl rfl rfl rfl rfl rfl rfl ⟨rfl,rfl,rfl,rfl,rfl⟩ rfl rfl rfl rfl rfl (by kernel_rfl) Tryz.func4 (by kernel_rfl)
  (of_decide_eq_true (by kernel_rfl)) (by unfold Func.isWrapper;first|(rw [if_pos (by decide +kernel)];kernel_rfl)|(rw [if_neg (by decide +kernel)];exact ⟨rfl,rfl⟩))
  (fun os started H enc _=>ql0 os started H enc)
theorem qno (f : FuncId) (fn : Func) (hf : Tryz.pinned.checked.prog.funcNamed "loop.example/g00196/laws.FnForth" = some f) (hfn : Tryz.pinned.checked.prog.funcs[f]? = some fn) :
  true=Tryz.pinned.checked.prog.looks []/\∀ (j:Nat) t,fn.params[j]? = some t->Tryz.pinned.checked.prog.wantsStandIn t=false:=by
 obtain rfl : f = 4 := Option.some.inj ((show Tryz.prog.funcNamed "loop.example/g00196/laws.FnForth" = some 4 by kernel_rfl).symm.trans hf) |>.symm
 obtain rfl:fn=Tryz.f4:=(Option.some.inj (Tryz.func4.symm.trans hfn)).symm
 refine ⟨by kernel_rfl,fun j t ht=>?_⟩
 rw [Tryz.params4] at ht
 have hm:=Array.mem_of_getElem? ht
 simp at hm
 obtain rfl:=hm
 exact (show Tryz.prog.wantsStandIn 22=false by kernel_rfl)
theorem forthD_card:Rows.FnForthCardSaid:=
 Claim7.holds_tied_plain_at .later [] _ _ _ _ qqc (fun _ h=>by cases h) (by kernel_rfl) (fun _ h=>by cases h) fnForth_row_tie rfl ⟨rfl,rfl⟩ (by kernel_rfl) rfl qno (by kernel_rfl)
