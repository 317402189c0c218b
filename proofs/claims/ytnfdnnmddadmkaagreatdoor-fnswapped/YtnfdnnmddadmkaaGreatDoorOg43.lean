import Derived.Test.YtnfdnnmddadmkaaGreatDoorOg42
import Derived.WalkMore
namespace Go.Proofs.YtnfdnnmddadmkaaGreatDoor
set_option maxRecDepth 100000
set_option maxHeartbeats 2000000
open Go.RowKit
def tnD (f:Nat->Nat):Nat->Nat->Nat
 | 0=>fun _=>0
 | k+1=>up (tnD f k) (f k)
theorem qch (f:Nat->Nat) (k:Nat):tnD f (k+1)=up (tnD f k) (f k):=rfl
def rwF (h:Nat->Wo2) (k:Nat):Nat:=(h k).m.toNat
def Hs.RwAt (y:Hs) (h:Nat->Wo2) (k:Nat):Prop:=∃ p,p<y.n/\(h k).m=(p:Nat)/\(h k).v=(tnD (rwF h) k p:Nat)/\y.Can (tnD (rwF h) k) p
def Hs.RwOk (y:Hs) (h:Nat->Wo2) (n:Nat):Prop:=(∀ k,k<n->y.RwAt h k)/\y.All (tnD (rwF h) n)
theorem Hs.rw_put {y:Hs} {h:Nat->Wo2}:∀ {k:Nat},(∀ j,j<k->y.RwAt h j)->y.Put (tnD (rwF h) k)
 | 0,_=>.start
 | k+1,hh=>by
  obtain ⟨p,hp,e1,e2,e3⟩:=hh k (Nat.lt_succ_self _)
  have ep:rwF h k=p:=by rw [rwF,e1];exact Int.toNat_natCast p
  rw [qch,ep]
  exact .next (Hs.rw_put fun j hj=>hh j (Nat.lt_succ_of_lt hj)) hp e3
theorem Hs.rw_hit {y:Hs} {h:Nat->Wo2} {k p:Nat} (hp:p<y.n) (e1:(h k).m=(p:Nat)) (e2:(h k).v=(tnD (rwF h) k p:Nat)) (hc:y.Can (tnD (rwF h) k) p):y.RwAt h k/\tnD (rwF h) (k+1)=up (tnD (rwF h) k) p:=by
 refine ⟨⟨p,hp,e1,e2,hc⟩,?_⟩
 have ep:rwF h k=p:=by rw [rwF,e1];exact Int.toNat_natCast p
 rw [qch,ep]
theorem Hs.rw_no {y:Hs} {h:Nat->Wo2} {k n:Nat} (hk:k<n) (hn:¬ y.RwAt h k):¬ y.RwOk h n:=fun hh=>hn (hh.1 k hk)
noncomputable def rwB (y:Sy) (h:Nat->Wo2) (n:Nat):Bool:=y.okB && qB (y.hs.RwOk h n)
theorem qq3 {y:Sy} {h:Nat->Wo2} {n:Nat} (e:y.okB=true):rwB y h n=qB (y.hs.RwOk h n):=by rw [rwB,e];rfl
def Hs.Least (y:Hs) (d:Nat->Nat) (p:Nat):Prop:=p<y.n/\y.Can d p/\∀ j,j<p->¬ y.Can d j
theorem Hs.Least.one {y:Hs} {d:Nat->Nat} {p q:Nat} (h:y.Least d p) (h':y.Least d q):p=q:=by
 rcases Nat.lt_trichotomy p q with e | e | e
 ·exact absurd h.2.1 (h'.2.2 p e)
 ·exact e
 ·exact absurd h'.2.1 (h.2.2 q e)
open Classical in
noncomputable def Hs.lst (y:Hs) (d:Nat->Nat):Nat:=if h:∃ p,y.Least d p then h.choose else 0
theorem Hs.Least.lst {y:Hs} {d:Nat->Nat} {p:Nat} (h:y.Least d p):y.lst d=p:=by
 unfold Hs.lst
 have he:∃ p,y.Least d p:=⟨p,h⟩
 rw [dif_pos he]
 exact he.choose_spec.one h
noncomputable def Hs.gr (y:Hs):Nat->Nat->Nat
 | 0=>fun _=>0
 | k+1=>up (y.gr k) (y.lst (y.gr k))
noncomputable def Hs.gf (y:Hs) (k:Nat):Nat:=y.lst (y.gr k)
def Hs.tot (y:Hs):Nat:=sumL y.l y.n
theorem Hs.tot_le {y:Hs} (h4:y.n<=4) (hl:∀ i,i<y.n->y.l i<=200):y.tot<=800:=by
 have h9:∀ m,m<=y.n->sumL y.l m<=m*200:=by
  intro m
  induction m with
  | zero=>exact fun _=>Nat.le_refl _
  | succ m ih=>
   intro hm
   have h3:=ih (by omega)
   have h5:=hl m hm
   show sumL y.l m+y.l m<=(m+1)*200
   omega
 have:=h9 _ (Nat.le_refl _)
 unfold Hs.tot
 omega
open Go.ChangeShapes Go.WideShapes Go.ChangeAt Go.Deep Go.Sort
theorem quk (p i q j:Int) (w:World):(binOp .eql 37 (woV p i) (woV q j)).run Tryz.prog w=.ok (.bool (spEq p i q j)) w:=by
 rw [run_eql_struct,show (10000:Nat)=9998+1+1 from rfl,run_equalIn_agg w (9998+1) 37 _ _ (by kernel_rfl) (by kernel_rfl)]
 simp only [spEq]
 by_cases h1:p=q <;> by_cases h2:i=j <;> simp [go_sem,h1,h2]
def WoL (w:World) (a:Option Addr) (len:Nat) (h:Nat->Wo2):Prop:=len=0\/∃ b off,a=some ⟨b,off,none⟩/\b<w.heap.size/\WoAt w b off len h
theorem WoL.below {w w':World} {a:Option Addr} {len:Nat} {h:Nat->Wo2} (hh:WoL w a len h) (hb:Below w.heap.size w w'):WoL w' a len h:=by
 rcases hh with e | ⟨b,off,e,h1,h2⟩
 ·exact .inl e
 ·exact .inr ⟨b,off,e,zL h1 hb.size,h2.below hb h1⟩
theorem WoL.at {w:World} {a:Option Addr} {len:Nat} {h:Nat->Wo2} (hh:WoL w a len h) {k:Nat} (hk:k<len):∃ b off,a=some ⟨b,off,none⟩/\b<w.heap.size/\w.cell? ⟨b,off+k*2,none⟩=some (.int .i64 (h k).m)/\w.cell? ⟨b,off+k*2+1,none⟩=some (.int .i64 (h k).v):=by
 rcases hh with e | ⟨b,off,e,h1,h2⟩
 ·omega
 ·exact ⟨b,off,e,h1,h2 k hk⟩
structure Pw (w0:World) (X:Nat) (ha:Option Addr) (hc:Nat) (y:Hs) (d:Nat->Nat) (wr:World):Prop where
 be:Below w0.heap.size w0 wr
 hq:HisQ wr X ha hc y d
theorem Pw.below {w0:World} {X:Nat} {ha:Option Addr} {hc:Nat} {y:Hs} {d:Nat->Nat} {wr w':World} (h:Pw w0 X ha hc y d wr) (hb:Below wr.heap.size wr w'):Pw w0 X ha hc y d w':=⟨h.be.trans (hb.mono h.be.size),h.hq.below hb⟩
theorem Pw.turn {w0:World} {X:Nat} {ha:Option Addr} {hc:Nat} {y:Hs} {d d':Nat->Nat} {wr w':World} (h:Pw w0 X ha hc y d wr) (hX:w0.heap.size<=X) (t:qam (fun b=>b=X) wr w') (hq:HisQ w' X ha hc y d'):Pw w0 X ha hc y d' w':=⟨h.be.trans (t.below h.be.size fun b e=>by omega),hq⟩
theorem qrx (X:Nat) (ha:Option Addr) (hc:Nat) (hA:Nat->Option Addr) (hC:Nat->Nat) (y:Hs) (d:Nat->Nat) (w:World) (hE:HisE w ha hA hC y) (hP:HisQ w X ha hc y d) (h4:y.n<=4) (hl:∀ i,i<y.n->y.l i<=200) (hd:∀ i,d i<=y.l i):
  Calls Tryz.prog 99 #[.pointer (some ⟨X,0,none⟩)] w fun e w'=>e=.returned (.bool (qB (y.All d)))/\Below w.heap.size w w':=by
 have HE:Hid (HisE w ha hA hC y):=hE
 have HP:Hid (HisQ w X ha hc y d):=hP
 have HH:Hid ((∀ i,i<y.n->y.l i<=200)/\∀ i,d i<=y.l i):=⟨hl,hd⟩
 have hn:(y.n:Int)<=4:=by omega
 obtain ⟨c4,-,-,-⟩:=hP
 clear hE hl hd
 go_enter Tryz.func99,Tryz.ntmps99
 go_wp2_with fail
 clear c4
 go_loopw [10] (fun i wr=>∃ k:Nat,k<=y.n/\i=.int .i64 k/\Below w.heap.size w wr/\Hid (∀ j,j<k->d j=y.l j)) (fun i _=>y.n - (intOf i).toNat)
 case atStart=>exact ⟨0,Nat.zero_le _,rfl,Below.refl _ _,fun j hj=>by omega⟩
 case round=>
  obtain ⟨k,hk,rfl,hbw,HZ⟩:=hrel
  by_cases hlt:k<y.n
  ·have hlt':(k:Int)<(y.n:Int):=by omega
   have hk4:(k:Int)<4:=by omega
   obtain ⟨bh,oh,eh,ch⟩:=(HE.out.below hbw).row.at hlt
   have pk:=(HP.out.below hbw).pt k (by omega)
   have hd':(d k:Int)<=(y.l k:Int):=by have:=HH.out.2 k;omega
   rw [eh]
   by_cases hs:d k<y.l k
   ·have hs':(d k:Int)<(y.l k:Int):=by omega
    have HN:Hid (qB (y.All d)=false):=qap fun h=>by have:=h k hlt;omega
    clear HZ
    go_wp2
    go_ret
    rw [HN.out]
    exact ⟨rfl,hbw⟩
   ·have hs':¬ (d k:Int)<(y.l k:Int):=by omega
    have HZ':Hid (∀ j,j<k+1->d j=y.l j):=fun j hj=>by
     by_cases e:j=k
     ·subst e
      omega
     ·exact HZ.out j (by omega)
    clear HZ
    go_wp2
    go_roundw
    case rel=>exact ⟨k+1,by omega,by go_num,hbw,HZ'.out⟩
    case measure=>simp [intOf];omega
  ·have HN:Hid (qB (y.All d)=true):=qax fun p hp=>HZ.out p (by omega)
   clear HZ
   go_wp2
   go_ret
   rw [HN.out]
   exact ⟨rfl,hbw⟩
theorem qss (X:Nat) (ha:Option Addr) (hc:Nat) (hA:Nat->Option Addr) (hC:Nat->Nat) (y:Hs) (la:Option Addr) (n lc:Nat) (h:Nat->Wo2) (w0 w:World) (hE:HisE w0 ha hA hC y) (hb:Below w0.heap.size w0 w) (hX:w0.heap.size<=X) (hP:HisQ w X ha hc y (fun _=>0)) (h4:y.n<=4) (hp:y.Peers) (hl:∀ i,i<y.n->y.l i<=200) (hW:WoL w0 la n h) (hn:n<=1048576):
  Calls Tryz.prog 43 #[.pointer (some ⟨X,0,none⟩),.slice la n lc] w fun e w'=>e=.returned (.bool (qB (y.RwOk h n)))/\Below w0.heap.size w0 w':=by
 have HE:Hid (∀ wx,Below w0.heap.size w0 wx->HisE wx ha hA hC y):=fun wx hb=>hE.below hb
 have HH:Hid (y.Peers/\(∀ i,i<y.n->y.l i<=200)/\w0.heap.size<=X/\y.n<=4):=⟨hp,hl,hX,h4⟩
 have HW:Hid (∀ wx,Below w0.heap.size w0 wx->WoL wx la n h):=fun wx hb=>hW.below hb
 have hn':(n:Int)<=1048576:=by omega
 have hy4:(y.n:Int)<=4:=by omega
 have HP0:Hid (Pw w0 X ha hc y (fun _=>0) w):=⟨hb,hP⟩
 have heq:=quk
 clear hE hb hX hP h4 hp hl hW hn
 go_enter Tryz.func43,Tryz.ntmps43
 go_wp2
 go_step3
 go_wp2
 go_step3
 go_wp2_with fail
 go_loopg [9] n (fun g i wr=>∃ k:Nat,k<=n/\g=n - k/\i=.int .i64 k/\Hid (Pw w0 X ha hc y (tnD (rwF h) k) wr/\∀ j,j<k->y.RwAt h j))
 case atStart=>exact ⟨0,Nat.zero_le _,rfl,rfl,HP0.out,fun j hj=>by omega⟩
 case round=>
  clear HP0
  obtain ⟨k,hk,hgk,rfl,HF⟩:=hrel
  have HGk:Hid (gk=n - k):=hgk
  clear hgk
  by_cases hlt:k<n
  case neg=>
   have HKn:Hid (k=n):=by show k=n;omega
   go_wp2_with fail
   refine (qrx X ha hc hA hC y _ _ (HE.out _ HF.out.1.be) HF.out.1.hq HH.out.2.2.2 HH.out.2.1 (Hs.rw_put HF.out.2).le).mono ?_
   rintro e w1 ⟨rfl,b1⟩
   have HR:Hid (qB (y.All (tnD (rwF h) k))=qB (y.RwOk h n)/\Below w0.heap.size w0 w1):=by
    refine ⟨?_,(HF.out.1.below b1).be⟩
    have e:=HKn.out
    have h9:=HF.out.2
    rw [e] at h9 ⊢
    by_cases hA':y.All (tnD (rwF h) n)
    ·rw [qax hA',qax ⟨h9,hA'⟩]
    ·rw [qap hA',qap fun h=>hA' h.2]
   rw [HR.out.1]
   clear b1 HF HGk HKn
   go_wp2
   (try rw [Exit.noGoto_ret])
   go_ret
   exact ⟨rfl,HR.out.2⟩
  have hlt':(k:Int)<(n:Int):=by omega
  have c4:=HF.out.1.hq.c4
  go_wp2_with fail
  clear c4
  go_loopg [17] y.n (fun g i wi=>∃ j:Nat,j<=y.n/\g=y.n - j/\i=.int .i64 j/\Hid (Pw w0 X ha hc y (tnD (rwF h) k) wi/\(∀ i,i<k->y.RwAt h i)/\∀ q,q<j->¬ ((h k).m=(q:Nat)/\(h k).v=(tnD (rwF h) k q:Nat)/\y.Can (tnD (rwF h) k) q)))
  case atStart=>exact ⟨0,Nat.zero_le _,rfl,rfl,HF.out.1,HF.out.2,fun j hj=>by omega⟩
  case round=>
   clear HF
   obtain ⟨j,hj,hgj,rfl,HF⟩:=hrel
   have HGj:Hid (gk=y.n - j):=hgj
   clear hgj
   by_cases hjt:j<y.n
   case neg=>
    have HR:Hid (qB (y.RwOk h n)=false/\Below w0.heap.size w0 wr):=by
     refine ⟨qap (Hs.rw_no hlt ?_),HF.out.1.be⟩
     rintro ⟨p,hp,e1,e2,e3⟩
     exact HF.out.2.2 p (by omega) ⟨e1,e2,e3⟩
    clear HF HGj HGk
    go_wp2
    (try rw [Exit.noGoto_ret])
    go_ret
    exact ⟨by rw [HR.out.1];rfl,HR.out.2⟩
   have hjt':(j:Int)<(y.n:Int):=by omega
   have hj4:(j:Int)<4:=by have:=HH.out.2.2.2;omega
   obtain ⟨b,off,rfl,-,c0,c1⟩:=(HW.out wr HF.out.1.be).at hlt
   have pk:=HF.out.1.hq.pt j (by have:=HH.out.2.2.2;omega)
   have hE9:=heq (h k).m (h k).v j (tnD (rwF h) k j:Nat)
   have HCP:Hid (∀ wx,Below wr.heap.size wr wx->Calls Tryz.prog 97 #[.pointer (some ⟨X,0,none⟩),.int .i64 (j:Nat)] wx fun e w'=>e=.returned (.bool (qB (y.Can (tnD (rwF h) k) j)))/\Below wx.heap.size wx w'):=fun wx hb=>qng X ha hc hA hC y _ j wx (HE.out wx (HF.out.1.below hb).be) (HF.out.1.below hb).hq HH.out.2.2.2 hjt HH.out.1 HH.out.2.1 (Hs.rw_put HF.out.2.1).le
   have HS:Hid (spEq (h k).m (h k).v j (tnD (rwF h) k j:Nat)=true ↔ ((h k).m=(j:Nat)/\(h k).v=(tnD (rwF h) k j:Nat))):=by
    show _ ↔ _
    simp [spEq]
   have c0':=cell_regrown c0
   have c1':=cell_regrown c1
   have pk':=cell_regrown pk
   have HMs : Hid (∀ w', Below wr.heap.size wr w' → ¬ ((h k).m = (j : Nat) ∧ (h k).v = (tnD (rwF h) k j : Nat) ∧ y.Can (tnD (rwF h) k) j) → Pw w0 X ha hc y (tnD (rwF h) k) w' ∧ (∀ i, i < k → y.RwAt h i) ∧ ∀ q, q < j + 1 → ¬ ((h k).m = (q : Nat) ∧ (h k).v = (tnD (rwF h) k q : Nat) ∧ y.Can (tnD (rwF h) k) q)) := fun w' hb hno => ⟨HF.out.1.below hb, HF.out.2.1, fun q hq => by
    by_cases e:q=j
    ·subst e
     exact hno
    ·exact HF.out.2.2 q (by omega)⟩
   clear heq
   cases hsp:spEq (h k).m (h k).v j (tnD (rwF h) k j:Nat) with
   | false=>
    rw [hsp] at hE9
    have HNo:Hid (¬ ((h k).m=(j:Nat)/\(h k).v=(tnD (rwF h) k j:Nat)/\y.Can (tnD (rwF h) k) j)):=fun h9=>by
     rw [HS.out.2 ⟨h9.1,h9.2.1⟩] at hsp
     cases hsp
    clear HS HCP hsp
    go_upto_region 7 with fail
    refine wp_region_quiet_below (by kernel_rfl) (by kernel_rfl) ?_
    repeat (first | go_big_quiet_skip | quiet_step (fail))
    refine wpQuiet_nil ?_
    intro _ hw'
    obtain ⟨⟨dq,osq⟩,hw''⟩:=hw'
    subst hw''
    have B3:Hid (Pw w0 X ha hc y (tnD (rwF h) k) (grow (redrawn wr dq) osq)/\(∀ i,i<k->y.RwAt h i)/\∀ q,q<j+1->¬ ((h k).m=(q:Nat)/\(h k).v=(tnD (rwF h) k q:Nat)/\y.Can (tnD (rwF h) k) q)):=HMs.out _ (below_regrown wr dq osq) HNo.out
    generalize grow (redrawn wr dq) osq=w3 at *
    clear c0 c1 pk c0' c1' pk' hE9 HMs HF HNo
    go_wp2
    go_roundg (y.n - (j+1))
    case measure=>have:=HGj.out;omega
    case rel=>exact ⟨j+1,by omega,rfl,by go_num,B3.out⟩
   | true=>
    rw [hsp] at hE9
    have HYes:Hid ((h k).m=(j:Nat)/\(h k).v=(tnD (rwF h) k j:Nat)):=HS.out.1 hsp
    clear HS hsp
    by_cases hcn:y.Can (tnD (rwF h) k) j
    case neg=>
     rw [qap hcn] at HCP
     have HNo:Hid (¬ ((h k).m=(j:Nat)/\(h k).v=(tnD (rwF h) k j:Nat)/\y.Can (tnD (rwF h) k) j)):=fun h9=>hcn h9.2.2
     clear hcn HYes
     go_upto_region 7 with fail
     refine wp_region_quiet_below (by kernel_rfl) (by kernel_rfl) ?_
     repeat (quiet_step (first|(go_at_call 97;exact Calls.regrown_of (HCP.out _ (below_regrown _ _ _)))))
     refine wpQuiet_nil ?_
     intro _ hw'
     obtain ⟨⟨dq,osq⟩,hw''⟩:=hw'
     subst hw''
     have B3:Hid (Pw w0 X ha hc y (tnD (rwF h) k) (grow (redrawn wr dq) osq)/\(∀ i,i<k->y.RwAt h i)/\∀ q,q<j+1->¬ ((h k).m=(q:Nat)/\(h k).v=(tnD (rwF h) k q:Nat)/\y.Can (tnD (rwF h) k) q)):=HMs.out _ (below_regrown wr dq osq) HNo.out
     generalize grow (redrawn wr dq) osq=w3 at *
     clear c0 c1 pk c0' c1' pk' hE9 HMs HF HNo HCP
     go_wp2
     go_roundg (y.n - (j+1))
     case measure=>have:=HGj.out;omega
     case rel=>exact ⟨j+1,by omega,rfl,by go_num,B3.out⟩
    rw [qax hcn] at HCP
    have HHit:Hid (y.RwAt h k/\tnD (rwF h) (k+1)=up (tnD (rwF h) k) j):=Hs.rw_hit hjt HYes.out.1 HYes.out.2 hcn
    have HLt:Hid (tnD (rwF h) k j<y.l j):=hcn.1
    clear hcn HYes HMs
    go_upto_region 7 with fail
    refine wp_region_quiet_below (by kernel_rfl) (by kernel_rfl) ?_
    repeat (quiet_step (first|(go_at_call 97;exact Calls.regrown_of (HCP.out _ (below_regrown _ _ _)))))
    refine wpQuiet_nil ?_
    intro _ hw'
    obtain ⟨⟨dq,osq⟩,hw''⟩:=hw'
    subst hw''
    have B3:Hid (Pw w0 X ha hc y (tnD (rwF h) k) (grow (redrawn wr dq) osq)/\∀ i,i<k->y.RwAt h i):=⟨HF.out.1.below (below_regrown wr dq osq),HF.out.2.1⟩
    generalize grow (redrawn wr dq) osq=w3 at *
    clear c0 c1 pk c0' c1' pk' hE9 HF HCP
    go_wp2_with fail
    refine (qn0 X ha hc hA hC y _ j w3 (HE.out w3 B3.out.1.be) B3.out.1.hq HH.out.2.2.2 hjt HH.out.1 HH.out.2.1 (Hs.rw_put B3.out.2).le HLt.out).mono ?_
    rintro e w4 ⟨rfl,hq4,t4⟩
    have B4:Hid (Pw w0 X ha hc y (tnD (rwF h) (k+1)) w4/\∀ i,i<k+1->y.RwAt h i):=by
     refine ⟨?_,fun i hi=>?_⟩
     ·rw [HHit.out.2]
      exact B3.out.1.turn HH.out.2.2.1 t4 hq4
     ·by_cases e:i=k
      ·subst e
       exact HHit.out.1
      ·exact B3.out.2 i (by omega)
    clear hq4 t4 B3 HHit HLt HGj
    go_wp2
    go_roundg (n - (k+1))
    case measure=>have:=HGk.out;omega
    case rel=>exact ⟨k+1,by omega,rfl,by go_num,B4.out⟩
structure Ckx (y:Sy) (d:Nat->Nat):Prop where
 self:∀ p,p<y.pn->∀ i,i<d p->clk y p i p=i+1
 le:∀ p,p<y.pn->∀ i,i<d p->∀ q,clk y p i q<=d q
 mono:∀ p,p<y.pn->∀ i,i<d p->0<i->∀ q,clk y p (i - 1) q<=clk y p i q
 tr:∀ p,p<y.pn->∀ i,i<d p->∀ q,q<y.pn->0<clk y p i q->∀ r,clk y q (clk y p i q - 1) r<=clk y p i r
 anti:∀ p,p<y.pn->∀ i,i<d p->∀ q,q<y.pn->∀ j,j<d q->(p≠q\/i≠j)->j<clk y p i q->¬ i<clk y q j p
 snd:∀ p,p<y.pn->∀ i,i<d p->∀ s,sdr y p i=some s->s.1<y.pn/\s.2<clk y p i s.1
theorem qux {y:Sy} {d:Nat->Nat} (hO:y.Ok) (h:y.hs.Put d):Ckx y d:=by
 induction h with
 | start=>exact ⟨fun p _ i hi=>absurd hi (Nat.not_lt_zero _),fun p _ i hi=>absurd hi (Nat.not_lt_zero _),fun p _ i hi=>absurd hi (Nat.not_lt_zero _),fun p _ i hi=>absurd hi (Nat.not_lt_zero _),fun p _ i hi=>absurd hi (Nat.not_lt_zero _),fun p _ i hi=>absurd hi (Nat.not_lt_zero _)⟩
 | @next d p0 hput hp0 hc ih=>
  have hp0':p0<y.pn:=hp0
  have nx:=qin hO hput hp0' hc
  have old:∀ p i,i<up d p0 p->(p=p0/\i=d p0)\/i<d p:=fun p i hi=>by
   by_cases e:p=p0
   ·subst e
    rw [qbk] at hi
    by_cases e':i=d p
    ·exact .inl ⟨rfl,e'⟩
    ·exact .inr (by omega)
   ·rw [up_other e] at hi
    exact .inr hi
  have upl:∀ q,d q<=up d p0 q:=fun q=>by
   by_cases e:q=p0
   ·subst e
    rw [qbk]
    omega
   ·rw [up_other e]
    exact Nat.le_refl _
  have sl:clk y p0 (d p0) p0=d p0+1:=by rw [nx,if_pos rfl]
  have A:∀ q,0<d p0->clk y p0 (d p0 - 1) q<=clk y p0 (d p0) q:=fun q h0=>by
   by_cases e:q=p0
   ·subst e
    rw [sl,ih.self q hp0' (d q - 1) (by omega)]
    omega
   ·rw [nx,if_neg e,if_neg (by omega:¬ d p0=0)]
    exact Nat.le_max_left _ _
  have B:∀ s,sdr y p0 (d p0)=some s->s.1<y.pn/\s.2<d s.1/\∀ q,clk y s.1 s.2 q<=clk y p0 (d p0) q:=fun s hs=>by
   obtain ⟨s1,s2,-⟩:=qg9 hO hput.le hp0' hc hs
   refine ⟨s1,s2,fun q=>?_⟩
   by_cases e:q=p0
   ·subst e
    rw [sl]
    exact zP (ih.le s.1 s1 s.2 s2 q) (Nat.le_succ _)
   ·rw [nx,if_neg e,hs]
    exact Nat.le_max_right _ _
  have ca:∀ q,q≠p0->0<clk y p0 (d p0) q->(0<d p0/\clk y p0 (d p0) q=clk y p0 (d p0 - 1) q)\/∃ s,sdr y p0 (d p0)=some s/\clk y p0 (d p0) q=clk y s.1 s.2 q:=fun q e h0=>by
   rw [nx,if_neg e] at h0 ⊢
   cases hs:sdr y p0 (d p0) with
   | none=>
    rw [hs] at h0
    by_cases e0:d p0=0
    ·rw [if_pos e0] at h0
     simp at h0
    ·rw [if_neg e0]
     exact .inl ⟨by omega,by simp⟩
   | some s=>
    rw [hs] at h0
    by_cases e0:d p0=0
    ·rw [if_pos e0]
     exact .inr ⟨s,rfl,by simp⟩
    ·rw [if_neg e0]
     rcases Nat.le_total (clk y p0 (d p0 - 1) q) (clk y s.1 s.2 q) with h1 | h1
     ·exact .inr ⟨s,rfl,Nat.max_eq_right h1⟩
     ·exact .inl ⟨by omega,Nat.max_eq_left h1⟩
  have le:∀ q,clk y p0 (d p0) q<=up d p0 q:=fun q=>by
   by_cases e:q=p0
   ·subst e
    rw [sl,qbk]
    exact Nat.le_refl _
   ·rw [up_other e]
    by_cases h0:0<clk y p0 (d p0) q
    ·rcases ca q e h0 with ⟨h1,h2⟩ | ⟨s,h1,h2⟩
     ·rw [h2]
      exact ih.le p0 hp0' _ (by omega) q
     ·obtain ⟨s1,s2,-⟩:=B s h1
      rw [h2]
      exact ih.le s.1 s1 s.2 s2 q
    ·omega
  refine ⟨fun p hp i hi=>?_,fun p hp i hi q=>?_,fun p hp i hi h0 q=>?_,fun p hp i hi q hq h0 r=>?_,fun p hp i hi q hq j hj hne h1 h2=>?_,fun p hp i hi s hs=>?_⟩
  ·rcases old p i hi with ⟨rfl,rfl⟩ | hi'
   ·exact sl
   ·exact ih.self p hp i hi'
  ·rcases old p i hi with ⟨rfl,rfl⟩ | hi'
   ·exact le q
   ·exact zP (ih.le p hp i hi' q) (upl q)
  ·rcases old p i hi with ⟨rfl,rfl⟩ | hi'
   ·exact A q h0
   ·exact ih.mono p hp i hi' h0 q
  ·rcases old p i hi with ⟨rfl,rfl⟩ | hi'
   ·by_cases e:q=p
    ·subst e
     rw [sl,Nat.add_sub_cancel]
     exact Nat.le_refl _
    ·rcases ca q e h0 with ⟨h1,h2⟩ | ⟨s,h1,h2⟩
     ·rw [h2] at h0 ⊢
      exact zP (ih.tr p hp _ (by omega) q hq h0 r) (A r h1)
     ·obtain ⟨s1,s2,s3⟩:=B s h1
      rw [h2] at h0 ⊢
      exact zP (ih.tr s.1 s1 s.2 s2 q hq h0 r) (s3 r)
   ·exact ih.tr p hp i hi' q hq h0 r
  ·rcases old p i hi with ⟨rfl,rfl⟩ | hi'
   ·rcases old q j hj with ⟨rfl,rfl⟩ | hj'
    ·rcases hne with h | h <;> exact h rfl
    ·have:=ih.le q hq j hj' p
     omega
   ·rcases old q j hj with ⟨rfl,rfl⟩ | hj'
    ·have:=ih.le p hp i hi' q
     omega
    ·exact ih.anti p hp i hi' q hq j hj' hne h1 h2
  ·rcases old p i hi with ⟨rfl,rfl⟩ | hi'
   ·obtain ⟨s1,s2,s3⟩:=B s hs
    have h9:=s3 s.1
    rw [ih.self s.1 s1 s.2 s2] at h9
    exact ⟨s1,by omega⟩
   ·exact ih.snd p hp i hi' s hs
theorem Sy.Ok.ckx {y:Sy} (hO:y.Ok):∃ d,Ckx y d/\∀ p,p<y.pn->d p=y.hL p:=by
 obtain ⟨d,hA,hall⟩:=hO.ro
 exact ⟨d,qux hO hA,hall⟩
theorem qp6 {y:Sy} {p i q j:Int} (h:hgB y p i q j=true):∃ a b c d:Nat,p=a/\i=b/\q=c/\j=d/\y.Ok/\a<y.pn/\b<y.hL a/\c<y.pn/\d<y.hL c/\(a≠c\/b≠d)/\d<clk y a b c:=by
 unfold hgB bothB at h
 simp only [Bool.and_eq_true] at h
 obtain ⟨⟨h1,h2⟩,h3⟩:=h
 obtain ⟨ho,a,b,rfl,rfl,ha,hb⟩:=qbp h1
 obtain ⟨-,c,d,rfl,rfl,hc,hd⟩:=qbp h2
 refine ⟨a,b,c,d,rfl,rfl,rfl,rfl,ho,ha,hb,hc,hd,?_,?_⟩
 ·simp [hgN,spEq] at h3
  omega
 ·simp [hgN,spEq] at h3
  exact h3.2
theorem qtt {y:Sy} {a b c d:Nat} (ho:y.Ok) (ha:a<y.pn) (hb:b<y.hL a) (hc:c<y.pn) (hd:d<y.hL c) (hne:a≠c\/b≠d) (hlt:d<clk y a b c):hgB y a b c d=true:=by
 have h1:hasB y a b=true:=qiv (Sy.okB_true ho) ha hb
 have h2:hasB y c d=true:=qiv (Sy.okB_true ho) hc hd
 simp [hgB,bothB,h1,h2,hgN,spEq,hlt]
 omega
theorem qs1 (y:Sy) (p i q j:Int):sdB y p i q j=sdB y q j p i:=by
 have e1:spEq p i q j=spEq q j p i:=by
  unfold spEq
  rw [Bool.beq_comm (a:=p),Bool.beq_comm (a:=i)]
 unfold sdB bothB
 rw [e1,Bool.and_comm (hasB y p i),Bool.and_comm (!hgN y p.toNat i.toNat q.toNat j.toNat)]
theorem qu1 {y:Sy} {p i q j:Int} (h1:hasB y p i=true) (h2:hasB y q j=true) (hne:spEq p i q j=false):sdB y p i q j=(!hgB y p i q j && !hgB y q j p i):=by
 simp [sdB,hgB,bothB,h1,h2,hne]
theorem qvz {y:Sy} {p i q j:Int} (h:¬ (hasB y p i=true/\hasB y q j=true/\spEq p i q j=false)):sdB y p i q j=false/\hgB y p i q j=false/\hgB y q j p i=false:=by
 have key:∀ {p i q j:Int},¬ (hasB y p i=true/\hasB y q j=true/\spEq p i q j=false)->hgB y p i q j=false:=fun {p i q j} h=>by
  refine Bool.eq_false_iff.2 fun h'=>h ?_
  obtain ⟨a,b,c,d,rfl,rfl,rfl,rfl,ho,ha,hb,hc,hd,hne,-⟩:=qp6 h'
  refine ⟨qiv (Sy.okB_true ho) ha hb,qiv (Sy.okB_true ho) hc hd,?_⟩
  simp [spEq]
  omega
 refine ⟨?_,key h,key fun h'=>h ⟨h'.2.1,h'.1,?_⟩⟩
 ·refine Bool.eq_false_iff.2 fun h'=>h ?_
  simp only [sdB,bothB,Bool.and_eq_true,Bool.not_eq_true'] at h'
  exact ⟨h'.1.2.1,h'.1.2.2,h'.1.1⟩
 ·have h9:=h'.2.2
  unfold spEq at h9 ⊢
  rw [Bool.beq_comm (a:=p),Bool.beq_comm (a:=i)]
  exact h9
