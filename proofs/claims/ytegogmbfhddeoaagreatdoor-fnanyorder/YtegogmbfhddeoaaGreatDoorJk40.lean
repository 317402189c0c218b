import Derived.Test.YtegogmbfhddeoaaGreatDoorJk35
import Derived.Test.YtegogmbfhddeoaaGreatDoorJk39
namespace Go.Proofs.YtegogmbfhddeoaaGreatDoor
set_option maxRecDepth 100000
set_option maxHeartbeats 2000000
open Go.RowKit
def tnD (f:Nat->Nat):Nat->Nat->Nat
 | 0=>fun _=>0
 | k+1=>up (tnD f k) (f k)
theorem qjt (f:Nat->Nat) (k:Nat):tnD f (k+1)=up (tnD f k) (f k):=rfl
def rwF (h:Nat->Wo2) (k:Nat):Nat:=(h k).m.toNat
def Hs.RwAt (y:Hs) (h:Nat->Wo2) (k:Nat):Prop:=∃ p,p<y.n/\(h k).m=(p:Nat)/\(h k).v=(tnD (rwF h) k p:Nat)/\y.Can (tnD (rwF h) k) p
def Hs.RwOk (y:Hs) (h:Nat->Wo2) (n:Nat):Prop:=(∀ k,k<n->y.RwAt h k)/\y.All (tnD (rwF h) n)
theorem Hs.rw_put {y:Hs} {h:Nat->Wo2}:∀ {k:Nat},(∀ j,j<k->y.RwAt h j)->y.Put (tnD (rwF h) k)
 | 0,_=>.start
 | k+1,hh=>by
  obtain ⟨p,hp,e1,e2,e3⟩:=hh k (Nat.lt_succ_self _);have ep:rwF h k=p:=by rw [rwF,e1];exact Int.toNat_natCast p
  rw [qjt,ep];exact .next (Hs.rw_put fun j hj=>hh j (Nat.lt_succ_of_lt hj)) hp e3
theorem Hs.rw_hit {y:Hs} {h:Nat->Wo2} {k p:Nat} (hp:p<y.n) (e1:(h k).m=(p:Nat)) (e2:(h k).v=(tnD (rwF h) k p:Nat)) (hc:y.Can (tnD (rwF h) k) p):y.RwAt h k/\tnD (rwF h) (k+1)=up (tnD (rwF h) k) p:=by
 refine ⟨⟨p,hp,e1,e2,hc⟩,?_⟩;have ep:rwF h k=p:=by rw [rwF,e1];exact Int.toNat_natCast p
 rw [qjt,ep]
theorem Hs.rw_no {y:Hs} {h:Nat->Wo2} {k n:Nat} (hk:k<n) (hn:¬ y.RwAt h k):¬ y.RwOk h n:=fun hh=>hn (hh.1 k hk)
noncomputable def rwB (y:Sy) (h:Nat->Wo2) (n:Nat):Bool:=y.okB && qB (y.hs.RwOk h n)
def Hs.Least (y:Hs) (d:Nat->Nat) (p:Nat):Prop:=p<y.n/\y.Can d p/\∀ j,j<p->¬ y.Can d j
theorem Hs.Least.one {y:Hs} {d:Nat->Nat} {p q:Nat} (h:y.Least d p) (h':y.Least d q):p=q:=by
 rcases Nat.lt_trichotomy p q with e | e | e
 ·exact absurd h.2.1 (h'.2.2 p e)
 ·exact e
 ·exact absurd h'.2.1 (h.2.2 q e)
open Classical in
noncomputable def Hs.lst (y:Hs) (d:Nat->Nat):Nat:=if h:∃ p,y.Least d p then h.choose else 0
theorem Hs.Least.lst {y:Hs} {d:Nat->Nat} {p:Nat} (h:y.Least d p):y.lst d=p:=by
 unfold Hs.lst;have he:∃ p,y.Least d p:=⟨p,h⟩
 rw [dif_pos he];exact he.choose_spec.one h
noncomputable def Hs.gr (y:Hs):Nat->Nat->Nat
 | 0=>fun _=>0
 | k+1=>up (y.gr k) (y.lst (y.gr k))
noncomputable def Hs.gf (y:Hs) (k:Nat):Nat:=y.lst (y.gr k)
def Hs.tot (y:Hs):Nat:=sumL y.l y.n
theorem Hs.tot_le {y:Hs} (h4:y.n<=4) (hl:∀ i,i<y.n->y.l i<=200):y.tot<=800:=by
 have h9:∀ m,m<=y.n->sumL y.l m<=m*200:=by
  intro m
  induction m with
  | zero=>exact fun _=>Nat.le_refl _
  | succ m ih=>
   intro hm;have h3:=ih (by omega);have h5:=hl m hm;show sumL y.l m+y.l m<=(m+1)*200;omega
 have:=h9 _ (Nat.le_refl _);unfold Hs.tot;omega
open Go.ChangeShapes Go.WideShapes Go.ChangeAt Go.Deep Go.Sort
theorem que (p i q j:Int) (w:World):(binOp .eql 55 (woV p i) (woV q j)).run Tryz.prog w=.ok (.bool (spEq p i q j)) w:=by
 rw [run_eql_struct,show (10000:Nat)=9998+1+1 from rfl,run_equalIn_agg w (9998+1) 55 _ _ (by kernel_rfl) (by kernel_rfl)];simp only [spEq];by_cases h1:p=q <;> by_cases h2:i=j <;> simp [go_sem,h1,h2]
def WoL (w:World) (a:Option Addr) (len:Nat) (h:Nat->Wo2):Prop:=len=0\/∃ b off,a=some ⟨b,off,none⟩/\b<w.heap.size/\WoAt w b off len h
theorem WoL.below {w w':World} {a:Option Addr} {len:Nat} {h:Nat->Wo2} (hh:WoL w a len h) (hb:Below w.heap.size w w'):WoL w' a len h:=by
 rcases hh with e | ⟨b,off,e,h1,h2⟩
 ·exact .inl e
 ·exact .inr ⟨b,off,e,zL h1 hb.size,h2.below hb h1⟩
theorem WoL.at {w:World} {a:Option Addr} {len:Nat} {h:Nat->Wo2} (hh:WoL w a len h) {k:Nat} (hk:k<len):∃ b off,a=some ⟨b,off,none⟩/\b<w.heap.size/\w.cell? ⟨b,off+k*2,none⟩=some (.int .i64 (h k).m)/\w.cell? ⟨b,off+k*2+1,none⟩=some (.int .i64 (h k).v):=by
 rcases hh with e | ⟨b,off,e,h1,h2⟩
 ·omega
 ·exact ⟨b,off,e,h1,h2 k hk⟩
structure Pw (w0:World) (X:Nat) (ha:Option Addr) (hc:Nat) (y:Hs) (d:Nat->Nat) (wr:World):Prop where
 be:Below w0.heap.size w0 wr
 hq:HisQ wr X ha hc y d
theorem Pw.below {w0:World} {X:Nat} {ha:Option Addr} {hc:Nat} {y:Hs} {d:Nat->Nat} {wr w':World} (h:Pw w0 X ha hc y d wr) (hb:Below wr.heap.size wr w'):Pw w0 X ha hc y d w':=⟨h.be.trans (hb.mono h.be.size),h.hq.below hb⟩
theorem Pw.turn {w0:World} {X:Nat} {ha:Option Addr} {hc:Nat} {y:Hs} {d d':Nat->Nat} {wr w':World} (h:Pw w0 X ha hc y d wr) (hX:w0.heap.size<=X) (t:qap (fun b=>b=X) wr w') (hq:HisQ w' X ha hc y d'):Pw w0 X ha hc y d' w':=⟨h.be.trans (t.below h.be.size fun b e=>by omega),hq⟩
theorem qrt (X:Nat) (ha:Option Addr) (hc:Nat) (hA:Nat->Option Addr) (hC:Nat->Nat) (y:Hs) (d:Nat->Nat) (w:World) (hE:HisE w ha hA hC y) (hP:HisQ w X ha hc y d) (h4:y.n<=4) (hl:∀ i,i<y.n->y.l i<=200) (hd:∀ i,d i<=y.l i):
  Calls Tryz.prog 98 #[.pointer (some ⟨X,0,none⟩)] w fun e w'=>e=.returned (.bool (qB (y.All d)))/\Below w.heap.size w w':=by
 have HE:Hid (HisE w ha hA hC y):=hE;have HP:Hid (HisQ w X ha hc y d):=hP;have HH:Hid ((∀ i,i<y.n->y.l i<=200)/\∀ i,d i<=y.l i):=⟨hl,hd⟩
 have hn:(y.n:Int)<=4:=by omega
 obtain ⟨c4,-,-,-⟩:=hP;clear hE hl hd
 go_enter Tryz.func98,Tryz.ntmps98
 go_wp2_with fail
 clear c4
 go_loopw [10] (fun i wr=>∃ k:Nat,k<=y.n/\i=.int .i64 k/\Below w.heap.size w wr/\Hid (∀ j,j<k->d j=y.l j)) (fun i _=>y.n - (intOf i).toNat)
 case atStart=>exact ⟨0,Nat.zero_le _,rfl,Below.refl _ _,fun j hj=>by omega⟩
 case round=>
  obtain ⟨k,hk,rfl,hbw,HZ⟩:=hrel;by_cases hlt:k<y.n
  ·have hlt':(k:Int)<(y.n:Int):=by omega
   have hk4:(k:Int)<4:=by omega
   obtain ⟨bh,oh,eh,ch⟩:=(HE.out.below hbw).row.at hlt;have pk:=(HP.out.below hbw).pt k (by omega);have hd':(d k:Int)<=(y.l k:Int):=by have:=HH.2 k;omega
   rw [eh];by_cases hs:d k<y.l k
   ·have hs':(d k:Int)<(y.l k:Int):=by omega
    have HN:Hid (qB (y.All d)=false):=qar fun h=>by have:=h k hlt;omega
    clear HZ;go_wp2;go_ret;rw [HN.out];exact ⟨rfl,hbw⟩
   ·have hs':¬ (d k:Int)<(y.l k:Int):=by omega
    have HZ':Hid (∀ j,j<k+1->d j=y.l j):=fun j hj=>by
     by_cases e:j=k
     ·subst e
      omega
     ·exact HZ.out j (by omega)
    clear HZ;go_wp2;go_roundw
    case rel=>exact ⟨k+1,by omega,by go_num,hbw,HZ'.out⟩
    case measure=>simp [intOf];omega
  ·have HN:Hid (qB (y.All d)=true):=qa3 fun p hp=>HZ.out p (by omega)
   clear HZ;go_wp2;go_ret;rw [HN.out];exact ⟨rfl,hbw⟩
theorem qso (X:Nat) (ha:Option Addr) (hc:Nat) (hA:Nat->Option Addr) (hC:Nat->Nat) (y:Hs) (la:Option Addr) (n lc:Nat) (h:Nat->Wo2) (w0 w:World) (hE:HisE w0 ha hA hC y) (hb:Below w0.heap.size w0 w) (hX:w0.heap.size<=X) (hP:HisQ w X ha hc y (fun _=>0)) (h4:y.n<=4) (hp:y.Peers) (hl:∀ i,i<y.n->y.l i<=200) (hW:WoL w0 la n h) (hn:n<=1048576):
  Calls Tryz.prog 46 #[.pointer (some ⟨X,0,none⟩),.slice la n lc] w fun e w'=>e=.returned (.bool (qB (y.RwOk h n)))/\Below w0.heap.size w0 w':=by
 have HE:Hid (∀ wx,Below w0.heap.size w0 wx->HisE wx ha hA hC y):=fun wx hb=>hE.below hb;have HH:Hid (y.Peers/\(∀ i,i<y.n->y.l i<=200)/\w0.heap.size<=X/\y.n<=4):=⟨hp,hl,hX,h4⟩
 have HW:Hid (∀ wx,Below w0.heap.size w0 wx->WoL wx la n h):=fun wx hb=>hW.below hb;have hn':(n:Int)<=1048576:=by omega
 have hy4:(y.n:Int)<=4:=by omega
 have HP0:Hid (Pw w0 X ha hc y (fun _=>0) w):=⟨hb,hP⟩
 have heq:=que;clear hE hb hX hP h4 hp hl hW hn
 go_enter Tryz.func46,Tryz.ntmps46
 go_wp2
 go_step3
 go_wp2
 go_step3
 go_wp2_with fail
 go_loopg [9] n (fun g i wr=>∃ k:Nat,k<=n/\g=n - k/\i=.int .i64 k/\Hid (Pw w0 X ha hc y (tnD (rwF h) k) wr/\∀ j,j<k->y.RwAt h j))
 case atStart=>exact ⟨0,Nat.zero_le _,rfl,rfl,HP0.out,fun j hj=>by omega⟩
 case round=>
  clear HP0;obtain ⟨k,hk,hgk,rfl,HF⟩:=hrel;have HGk:Hid (gk=n - k):=hgk;clear hgk;by_cases hlt:k<n
  case neg=>
   have HKn:Hid (k=n):=by show k=n;omega
   go_wp2_with fail
   refine (qrt X ha hc hA hC y _ _ (HE.out _ HF.1.be) HF.1.hq HH.2.2.2 HH.2.1 (Hs.rw_put HF.2).le).mono ?_;rintro e w1 ⟨rfl,b1⟩
   have HR:Hid (qB (y.All (tnD (rwF h) k))=qB (y.RwOk h n)/\Below w0.heap.size w0 w1):=by
    refine ⟨?_,(HF.1.below b1).be⟩;have e:=HKn.out;have h9:=HF.2;rw [e] at h9 ⊢;by_cases hA':y.All (tnD (rwF h) n)
    ·rw [qa3 hA',qa3 ⟨h9,hA'⟩]
    ·rw [qar hA',qar fun h=>hA' h.2]
   rw [HR.1];clear b1 HF HGk HKn;go_wp2
   (try rw [Exit.noGoto_ret])
   go_ret;exact ⟨rfl,HR.2⟩
  have hlt':(k:Int)<(n:Int):=by omega
  have c4:=HF.1.hq.c4;go_wp2_with fail
  clear c4
  go_loopg [17] y.n (fun g i wi=>∃ j:Nat,j<=y.n/\g=y.n - j/\i=.int .i64 j/\Hid (Pw w0 X ha hc y (tnD (rwF h) k) wi/\(∀ i,i<k->y.RwAt h i)/\∀ q,q<j->¬ ((h k).m=(q:Nat)/\(h k).v=(tnD (rwF h) k q:Nat)/\y.Can (tnD (rwF h) k) q)))
  case atStart=>exact ⟨0,Nat.zero_le _,rfl,rfl,HF.1,HF.2,fun j hj=>by omega⟩
  case round=>
   clear HF;obtain ⟨j,hj,hgj,rfl,HF⟩:=hrel;have HGj:Hid (gk=y.n - j):=hgj;clear hgj;by_cases hjt:j<y.n
   case neg=>
    have HR:Hid (qB (y.RwOk h n)=false/\Below w0.heap.size w0 wr):=by
     refine ⟨qar (Hs.rw_no hlt ?_),HF.1.be⟩;rintro ⟨p,hp,e1,e2,e3⟩;exact HF.2.2 p (by omega) ⟨e1,e2,e3⟩
    clear HF HGj HGk;go_wp2
    (try rw [Exit.noGoto_ret])
    go_ret;exact ⟨by rw [HR.1];rfl,HR.2⟩
   have hjt':(j:Int)<(y.n:Int):=by omega
   have hj4:(j:Int)<4:=by have:=HH.2.2.2;omega
   obtain ⟨b,off,rfl,-,c0,c1⟩:=(HW.out wr HF.1.be).at hlt;have pk:=HF.1.hq.pt j (by have:=HH.2.2.2;omega);have hE9:=heq (h k).m (h k).v j (tnD (rwF h) k j:Nat);have HCP:Hid (∀ wx,Below wr.heap.size wr wx->Calls Tryz.prog 97 #[.pointer (some ⟨X,0,none⟩),.int .i64 (j:Nat)] wx fun e w'=>e=.returned (.bool (qB (y.Can (tnD (rwF h) k) j)))/\Below wx.heap.size wx w'):=fun wx hb=>qrv X ha hc hA hC y _ j wx (HE.out wx (HF.1.below hb).be) (HF.1.below hb).hq HH.2.2.2 hjt HH.1 HH.2.1 (Hs.rw_put HF.2.1).le
   have HS:Hid (spEq (h k).m (h k).v j (tnD (rwF h) k j:Nat)=true ↔ ((h k).m=(j:Nat)/\(h k).v=(tnD (rwF h) k j:Nat))):=by
    show _ ↔ _;simp [spEq]
   have c0':=cell_regrown c0;have c1':=cell_regrown c1;have pk':=cell_regrown pk
   have HMs : Hid (∀ w', Below wr.heap.size wr w' → ¬ ((h k).m = (j : Nat) ∧ (h k).v = (tnD (rwF h) k j : Nat) ∧ y.Can (tnD (rwF h) k) j) → Pw w0 X ha hc y (tnD (rwF h) k) w' ∧ (∀ i, i < k → y.RwAt h i) ∧ ∀ q, q < j + 1 → ¬ ((h k).m = (q : Nat) ∧ (h k).v = (tnD (rwF h) k q : Nat) ∧ y.Can (tnD (rwF h) k) q)) := fun w' hb hno => ⟨HF.1.below hb, HF.2.1, fun q hq => by
    by_cases e:q=j
    ·subst e
     exact hno
    ·exact HF.2.2 q (by omega)⟩
   clear heq;cases hsp:spEq (h k).m (h k).v j (tnD (rwF h) k j:Nat) with
   | false=>
    rw [hsp] at hE9
    have HNo:Hid (¬ ((h k).m=(j:Nat)/\(h k).v=(tnD (rwF h) k j:Nat)/\y.Can (tnD (rwF h) k) j)):=fun h9=>by
     rw [HS.2 ⟨h9.1,h9.2.1⟩] at hsp;cases hsp
    clear HS HCP hsp;go_upto_region 7 with fail
    refine wp_region_quiet_below (by kernel_rfl) (by kernel_rfl) ?_
    repeat (first | go_big_quiet_skip | quiet_step (fail))
    refine wpQuiet_nil ?_;intro _ hw';obtain ⟨⟨dq,osq⟩,hw''⟩:=hw';subst hw'';have B3:Hid (Pw w0 X ha hc y (tnD (rwF h) k) (grow (redrawn wr dq) osq)/\(∀ i,i<k->y.RwAt h i)/\∀ q,q<j+1->¬ ((h k).m=(q:Nat)/\(h k).v=(tnD (rwF h) k q:Nat)/\y.Can (tnD (rwF h) k) q)):=HMs.out _ (below_regrown wr dq osq) HNo.out;generalize grow (redrawn wr dq) osq=w3 at *;clear c0 c1 pk c0' c1' pk' hE9 HMs HF HNo;go_wp2
    go_roundg (y.n - (j+1))
    case measure=>have:=HGj.out;omega
    case rel=>exact ⟨j+1,by omega,rfl,by go_num,B3.out⟩
   | true=>
    rw [hsp] at hE9;have HYes:Hid ((h k).m=(j:Nat)/\(h k).v=(tnD (rwF h) k j:Nat)):=HS.1 hsp;clear HS hsp;by_cases hcn:y.Can (tnD (rwF h) k) j
    case neg=>
     rw [qar hcn] at HCP;have HNo:Hid (¬ ((h k).m=(j:Nat)/\(h k).v=(tnD (rwF h) k j:Nat)/\y.Can (tnD (rwF h) k) j)):=fun h9=>hcn h9.2.2;clear hcn HYes;go_upto_region 7 with fail
     refine wp_region_quiet_below (by kernel_rfl) (by kernel_rfl) ?_
     repeat (quiet_step (first|(go_at_call 97;exact Calls.regrown_of (HCP.out _ (below_regrown _ _ _)))))
     refine wpQuiet_nil ?_;intro _ hw';obtain ⟨⟨dq,osq⟩,hw''⟩:=hw';subst hw'';have B3:Hid (Pw w0 X ha hc y (tnD (rwF h) k) (grow (redrawn wr dq) osq)/\(∀ i,i<k->y.RwAt h i)/\∀ q,q<j+1->¬ ((h k).m=(q:Nat)/\(h k).v=(tnD (rwF h) k q:Nat)/\y.Can (tnD (rwF h) k) q)):=HMs.out _ (below_regrown wr dq osq) HNo.out;generalize grow (redrawn wr dq) osq=w3 at *;clear c0 c1 pk c0' c1' pk' hE9 HMs HF HNo HCP;go_wp2
     go_roundg (y.n - (j+1))
     case measure=>have:=HGj.out;omega
     case rel=>exact ⟨j+1,by omega,rfl,by go_num,B3.out⟩
    rw [qa3 hcn] at HCP;have HHit:Hid (y.RwAt h k/\tnD (rwF h) (k+1)=up (tnD (rwF h) k) j):=Hs.rw_hit hjt HYes.1 HYes.2 hcn;have HLt:Hid (tnD (rwF h) k j<y.l j):=hcn.1;clear hcn HYes HMs;go_upto_region 7 with fail
    refine wp_region_quiet_below (by kernel_rfl) (by kernel_rfl) ?_
    repeat (quiet_step (first|(go_at_call 97;exact Calls.regrown_of (HCP.out _ (below_regrown _ _ _)))))
    refine wpQuiet_nil ?_;intro _ hw';obtain ⟨⟨dq,osq⟩,hw''⟩:=hw';subst hw'';have B3:Hid (Pw w0 X ha hc y (tnD (rwF h) k) (grow (redrawn wr dq) osq)/\∀ i,i<k->y.RwAt h i):=⟨HF.1.below (below_regrown wr dq osq),HF.2.1⟩
    generalize grow (redrawn wr dq) osq=w3 at *;clear c0 c1 pk c0' c1' pk' hE9 HF HCP;go_wp2_with fail
    refine (qsn X ha hc hA hC y _ j w3 (HE.out w3 B3.1.be) B3.1.hq HH.2.2.2 hjt HH.1 HH.2.1 (Hs.rw_put B3.2).le HLt.out).mono ?_;rintro e w4 ⟨rfl,hq4,t4⟩
    have B4:Hid (Pw w0 X ha hc y (tnD (rwF h) (k+1)) w4/\∀ i,i<k+1->y.RwAt h i):=by
     refine ⟨?_,fun i hi=>?_⟩
     ·rw [HHit.2]
      exact B3.1.turn HH.2.2.1 t4 hq4
     ·by_cases e:i=k
      ·subst e
       exact HHit.1
      ·exact B3.2 i (by omega)
    clear hq4 t4 B3 HHit HLt HGj;go_wp2
    go_roundg (n - (k+1))
    case measure=>have:=HGk.out;omega
    case rel=>exact ⟨k+1,by omega,rfl,by go_num,B4.out⟩
variable {z:Bool}
theorem qpn {y:Sy} {p:Nat} {f:Int} (h:cmS y p f=0) (hk:y.nk p=3):tkS y p (y.eq p f)=0:=by
 unfold cmS at h;rw [Sy.eq,if_pos hk];by_cases h1:(y.sS p).c≠0
 ·rw [if_pos h1] at h
  cases h
 ·rw [if_neg h1] at h
  by_cases h2:fuS y p (y.nk p) (y.nq p)=true
  ·rw [if_pos h2] at h
   cases h
  ·rw [if_neg h2,if_pos hk] at h
   exact h
theorem qut {y:Sy} {p:Nat} {g:Int} (h:tkS y p g=0):0<=g/\g<y.pn/\0<y.wL (g.toNat*y.pn+p):=by
 unfold tkS at h;by_cases h1:belB g y.pn=true
 ·rw [if_pos h1] at h
  simp only [belB,decide_eq_true_eq] at h1;refine ⟨h1.1,h1.2,?_⟩
  rcases Nat.eq_zero_or_pos (y.wL (g.toNat*y.pn+p)) with e | e
  ·rw [if_pos e] at h
   cases h
  ·exact e
 ·rw [if_neg h1] at h
  cases h
theorem qrx {x:SysIn} {p:Nat} {f:Int} (h:cmS x.y p f=0):cmV x p f=evV (x.y.nk p) (x.y.eq p f) (x.y.ev p f):=by
 have hc:cmC x p f=0:=h;unfold cmV;rw [if_pos hc];by_cases hk:x.nk p=3
 ·have ht:tkS x.y p (x.y.eq p f)=0:=qpn h hk
  have e:x.y.eq p f=if x.nq p=9 then f else x.nq p:=if_pos hk
  have e2:x.y.ev p f=(x.y.wH ((x.y.eq p f).toNat*x.y.pn+p) 0).v:=if_pos hk;have e3:x.y.nk p=3:=hk;rw [if_pos hk,<- e,e2,e3,tkV];have ht':tkC x p (x.y.eq p f)=0:=ht;rw [if_pos ht'];rfl
 ·have e:x.y.eq p f=x.nq p:=if_neg hk
  have e2:x.y.ev p f=x.nv p:=if_neg hk;rw [if_neg hk,e,e2];rfl
abbrev pkV (m v:Int):Value:=.agg #[.int .i64 m,.int .i64 v]
