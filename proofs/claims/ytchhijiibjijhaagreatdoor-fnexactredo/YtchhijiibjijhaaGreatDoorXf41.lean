import Derived.Test.YtchhijiibjijhaaGreatDoorXf39
import Derived.WalkMore
namespace Go.Proofs.YtchhijiibjijhaaGreatDoor
set_option maxRecDepth 100000
set_option maxHeartbeats 2000000
open Go.ChangeShapes Go.WideShapes Go.ChangeAt Go.RowKit Go.Deep Go.Sort Go.Maps
def spEq (p i q j:Int):Bool:=p == q && i == j
theorem qxc (p i q j:Int) (w:World):(binOp .eql 72 (woV p i) (woV q j)).run Tryz.prog w=.ok (.bool (spEq p i q j)) w:=by
 rw [run_eql_struct,show (10000:Nat)=9998+1+1 from rfl,run_equalIn_agg w (9998+1) 72 _ _ (by kernel_rfl) (by kernel_rfl)]
 simp only [spEq]
 by_cases h1:p=q <;> by_cases h2:i=j <;> simp [go_sem,h1,h2]
def WoL (w:World) (a:Option Addr) (len:Nat) (h:Nat->Wo2):Prop:=len=0\/∃ b off,a=some ⟨b,off,none⟩/\b<w.heap.size/\WoAt w b off len h
theorem WoL.below {w w':World} {a:Option Addr} {len:Nat} {h:Nat->Wo2} (hh:WoL w a len h) (hb:Below w.heap.size w w'):WoL w' a len h:=by
 rcases hh with e | ⟨b,off,e,h1,h2⟩
 ·exact .inl e
 ·exact .inr ⟨b,off,e,zL h1 hb.size,h2.below hb h1⟩
theorem WoL.at {w:World} {a:Option Addr} {len:Nat} {h:Nat->Wo2} (hh:WoL w a len h) {k:Nat} (hk:k<len):∃ b off,a=some ⟨b,off,none⟩/\b<w.heap.size/\w.cell? ⟨b,off+k*2,none⟩=some (.int .i64 (h k).m)/\w.cell? ⟨b,off+k*2+1,none⟩=some (.int .i64 (h k).v):=by
 rcases hh with e | ⟨b,off,e,h1,h2⟩
 ·omega
 ·exact ⟨b,off,e,h1,h2 k hk⟩
structure Pw (w0:World) (X:Nat) (ha:Option Addr) (hc:Nat) (y:Hs) (d:Nat->Nat) (wr:World):Prop where
 be:Below w0.heap.size w0 wr
 hq:HisQ wr X ha hc y d
theorem Pw.below {w0:World} {X:Nat} {ha:Option Addr} {hc:Nat} {y:Hs} {d:Nat->Nat} {wr w':World} (h:Pw w0 X ha hc y d wr) (hb:Below wr.heap.size wr w'):Pw w0 X ha hc y d w':=⟨h.be.trans (hb.mono h.be.size),h.hq.below hb⟩
theorem Pw.turn {w0:World} {X:Nat} {ha:Option Addr} {hc:Nat} {y:Hs} {d d':Nat->Nat} {wr w':World} (h:Pw w0 X ha hc y d wr) (hX:w0.heap.size<=X) (t:qac (fun b=>b=X) wr w') (hq:HisQ w' X ha hc y d'):Pw w0 X ha hc y d' w':=⟨h.be.trans (t.below h.be.size fun b e=>by omega),hq⟩
theorem qu4 (X:Nat) (ha:Option Addr) (hc:Nat) (hA:Nat->Option Addr) (hC:Nat->Nat) (y:Hs) (d:Nat->Nat) (w:World) (hE:HisE w ha hA hC y) (hP:HisQ w X ha hc y d) (h4:y.n<=4) (hl:∀ i,i<y.n->y.l i<=200) (hd:∀ i,d i<=y.l i):
  Calls Tryz.prog 160 #[.pointer (some ⟨X,0,none⟩)] w fun e w'=>e=.returned (.bool (qB (y.All d)))/\Below w.heap.size w w':=by
 have HE:Hid (HisE w ha hA hC y):=hE
 have HP:Hid (HisQ w X ha hc y d):=hP
 have HH:Hid ((∀ i,i<y.n->y.l i<=200)/\∀ i,d i<=y.l i):=⟨hl,hd⟩
 have hn:(y.n:Int)<=4:=by omega
 obtain ⟨c4,-,-,-⟩:=hP
 clear hE hl hd
 go_enter Tryz.func160,Tryz.ntmps160
 go_wp2_with fail
 clear c4
 go_loopw [10] (fun i wr=>∃ k:Nat,k<=y.n/\i=.int .i64 k/\Below w.heap.size w wr/\Hid (∀ j,j<k->d j=y.l j)) (fun i _=>y.n - (intOf i).toNat)
 case atStart=>exact ⟨0,Nat.zero_le _,rfl,Below.refl _ _,fun j hj=>by omega⟩
 case round=>
  obtain ⟨k,hk,rfl,hbw,HZ⟩:=hrel
  by_cases hlt:k<y.n
  ·have hlt':(k:Int)<(y.n:Int):=by omega
   have hk4:(k:Int)<4:=by omega
   obtain ⟨bh,oh,eh,ch⟩:=(HE.out.below hbw).row.at hlt
   have pk:=(HP.out.below hbw).pt k (by omega)
   have hd':(d k:Int)<=(y.l k:Int):=by have:=HH.out.2 k;omega
   rw [eh]
   by_cases hs:d k<y.l k
   ·have hs':(d k:Int)<(y.l k:Int):=by omega
    have HN:Hid (qB (y.All d)=false):=qap fun h=>by have:=h k hlt;omega
    clear HZ
    go_wp2
    go_ret
    rw [HN.out]
    exact ⟨rfl,hbw⟩
   ·have hs':¬ (d k:Int)<(y.l k:Int):=by omega
    have HZ':Hid (∀ j,j<k+1->d j=y.l j):=fun j hj=>by
     by_cases e:j=k
     ·subst e
      omega
     ·exact HZ.out j (by omega)
    clear HZ
    go_wp2
    go_roundw
    case rel=>exact ⟨k+1,by omega,by go_num,hbw,HZ'.out⟩
    case measure=>simp [intOf];omega
  ·have HN:Hid (qB (y.All d)=true):=qa3 fun p hp=>HZ.out p (by omega)
   clear HZ
   go_wp2
   go_ret
   rw [HN.out]
   exact ⟨rfl,hbw⟩
theorem qvs (X:Nat) (ha:Option Addr) (hc:Nat) (hA:Nat->Option Addr) (hC:Nat->Nat) (y:Hs) (la:Option Addr) (n lc:Nat) (h:Nat->Wo2) (w0 w:World) (hE:HisE w0 ha hA hC y) (hb:Below w0.heap.size w0 w) (hX:w0.heap.size<=X) (hP:HisQ w X ha hc y (fun _=>0)) (h4:y.n<=4) (hp:y.Peers) (hl:∀ i,i<y.n->y.l i<=200) (hW:WoL w0 la n h) (hn:n<=1048576):
  Calls Tryz.prog 97 #[.pointer (some ⟨X,0,none⟩),.slice la n lc] w fun e w'=>e=.returned (.bool (qB (y.RwOk h n)))/\Below w0.heap.size w0 w':=by
 have HE:Hid (∀ wx,Below w0.heap.size w0 wx->HisE wx ha hA hC y):=fun wx hb=>hE.below hb
 have HH:Hid (y.Peers/\(∀ i,i<y.n->y.l i<=200)/\w0.heap.size<=X/\y.n<=4):=⟨hp,hl,hX,h4⟩
 have HW:Hid (∀ wx,Below w0.heap.size w0 wx->WoL wx la n h):=fun wx hb=>hW.below hb
 have hn':(n:Int)<=1048576:=by omega
 have hy4:(y.n:Int)<=4:=by omega
 have HP0:Hid (Pw w0 X ha hc y (fun _=>0) w):=⟨hb,hP⟩
 have heq:=qxc
 clear hE hb hX hP h4 hp hl hW hn
 go_enter Tryz.func97,Tryz.ntmps97
 go_wp2
 go_step3
 go_wp2
 go_step3
 go_wp2_with fail
 go_loopg [9] n (fun g i wr=>∃ k:Nat,k<=n/\g=n - k/\i=.int .i64 k/\Hid (Pw w0 X ha hc y (tnD (rwF h) k) wr/\∀ j,j<k->y.RwAt h j))
 case atStart=>exact ⟨0,Nat.zero_le _,rfl,rfl,HP0.out,fun j hj=>by omega⟩
 case round=>
  clear HP0
  obtain ⟨k,hk,hgk,rfl,HF⟩:=hrel
  have HGk:Hid (gk=n - k):=hgk
  clear hgk
  by_cases hlt:k<n
  case neg=>
   have HKn:Hid (k=n):=by show k=n;omega
   go_wp2_with fail
   refine (qu4 X ha hc hA hC y _ _ (HE.out _ HF.out.1.be) HF.out.1.hq HH.out.2.2.2 HH.out.2.1 (Hs.rw_put HF.out.2).le).mono ?_
   rintro e w1 ⟨rfl,b1⟩
   have HR:Hid (qB (y.All (tnD (rwF h) k))=qB (y.RwOk h n)/\Below w0.heap.size w0 w1):=by
    refine ⟨?_,(HF.out.1.below b1).be⟩
    have e:=HKn.out
    have h9:=HF.out.2
    rw [e] at h9 ⊢
    by_cases hA':y.All (tnD (rwF h) n)
    ·rw [qa3 hA',qa3 ⟨h9,hA'⟩]
    ·rw [qap hA',qap fun h=>hA' h.2]
   rw [HR.out.1]
   clear b1 HF HGk HKn
   go_wp2
   (try rw [Exit.noGoto_ret])
   go_ret
   exact ⟨rfl,HR.out.2⟩
  have hlt':(k:Int)<(n:Int):=by omega
  have c4:=HF.out.1.hq.c4
  go_wp2_with fail
  clear c4
  go_loopg [17] y.n (fun g i wi=>∃ j:Nat,j<=y.n/\g=y.n - j/\i=.int .i64 j/\Hid (Pw w0 X ha hc y (tnD (rwF h) k) wi/\(∀ i,i<k->y.RwAt h i)/\∀ q,q<j->¬ ((h k).m=(q:Nat)/\(h k).v=(tnD (rwF h) k q:Nat)/\y.Can (tnD (rwF h) k) q)))
  case atStart=>exact ⟨0,Nat.zero_le _,rfl,rfl,HF.out.1,HF.out.2,fun j hj=>by omega⟩
  case round=>
   clear HF
   obtain ⟨j,hj,hgj,rfl,HF⟩:=hrel
   have HGj:Hid (gk=y.n - j):=hgj
   clear hgj
   by_cases hjt:j<y.n
   case neg=>
    have HR:Hid (qB (y.RwOk h n)=false/\Below w0.heap.size w0 wr):=by
     refine ⟨qap (Hs.rw_no hlt ?_),HF.out.1.be⟩
     rintro ⟨p,hp,e1,e2,e3⟩
     exact HF.out.2.2 p (by omega) ⟨e1,e2,e3⟩
    clear HF HGj HGk
    go_wp2
    (try rw [Exit.noGoto_ret])
    go_ret
    exact ⟨by rw [HR.out.1];rfl,HR.out.2⟩
   have hjt':(j:Int)<(y.n:Int):=by omega
   have hj4:(j:Int)<4:=by have:=HH.out.2.2.2;omega
   obtain ⟨b,off,rfl,-,c0,c1⟩:=(HW.out wr HF.out.1.be).at hlt
   have pk:=HF.out.1.hq.pt j (by have:=HH.out.2.2.2;omega)
   have hE9:=heq (h k).m (h k).v j (tnD (rwF h) k j:Nat)
   have HCP:Hid (∀ wx,Below wr.heap.size wr wx->Calls Tryz.prog 158 #[.pointer (some ⟨X,0,none⟩),.int .i64 (j:Nat)] wx fun e w'=>e=.returned (.bool (qB (y.Can (tnD (rwF h) k) j)))/\Below wx.heap.size wx w'):=fun wx hb=>qu5 X ha hc hA hC y _ j wx (HE.out wx (HF.out.1.below hb).be) (HF.out.1.below hb).hq HH.out.2.2.2 hjt HH.out.1 HH.out.2.1 (Hs.rw_put HF.out.2.1).le
   have HS:Hid (spEq (h k).m (h k).v j (tnD (rwF h) k j:Nat)=true ↔ ((h k).m=(j:Nat)/\(h k).v=(tnD (rwF h) k j:Nat))):=by
    show _ ↔ _
    simp [spEq]
   have c0':=cell_regrown c0
   have c1':=cell_regrown c1
   have pk':=cell_regrown pk
   have HMs : Hid (∀ w', Below wr.heap.size wr w' → ¬ ((h k).m = (j : Nat) ∧ (h k).v = (tnD (rwF h) k j : Nat) ∧ y.Can (tnD (rwF h) k) j) → Pw w0 X ha hc y (tnD (rwF h) k) w' ∧ (∀ i, i < k → y.RwAt h i) ∧ ∀ q, q < j + 1 → ¬ ((h k).m = (q : Nat) ∧ (h k).v = (tnD (rwF h) k q : Nat) ∧ y.Can (tnD (rwF h) k) q)) := fun w' hb hno => ⟨HF.out.1.below hb, HF.out.2.1, fun q hq => by
    by_cases e:q=j
    ·subst e
     exact hno
    ·exact HF.out.2.2 q (by omega)⟩
   clear heq
   cases hsp:spEq (h k).m (h k).v j (tnD (rwF h) k j:Nat) with
   | false=>
    rw [hsp] at hE9
    have HNo:Hid (¬ ((h k).m=(j:Nat)/\(h k).v=(tnD (rwF h) k j:Nat)/\y.Can (tnD (rwF h) k) j)):=fun h9=>by
     rw [HS.out.2 ⟨h9.1,h9.2.1⟩] at hsp
     cases hsp
    clear HS HCP hsp
    go_upto_region 7 with fail
    refine wp_region_quiet_below (by kernel_rfl) (by kernel_rfl) ?_
    repeat (first | go_big_quiet_skip | quiet_step (fail))
    refine wpQuiet_nil ?_
    intro _ hw'
    obtain ⟨⟨dq,osq⟩,hw''⟩:=hw'
    subst hw''
    have B3:Hid (Pw w0 X ha hc y (tnD (rwF h) k) (grow (redrawn wr dq) osq)/\(∀ i,i<k->y.RwAt h i)/\∀ q,q<j+1->¬ ((h k).m=(q:Nat)/\(h k).v=(tnD (rwF h) k q:Nat)/\y.Can (tnD (rwF h) k) q)):=HMs.out _ (below_regrown wr dq osq) HNo.out
    generalize grow (redrawn wr dq) osq=w3 at *
    clear c0 c1 pk c0' c1' pk' hE9 HMs HF HNo
    go_wp2
    go_roundg (y.n - (j+1))
    case measure=>have:=HGj.out;omega
    case rel=>exact ⟨j+1,by omega,rfl,by go_num,B3.out⟩
   | true=>
    rw [hsp] at hE9
    have HYes:Hid ((h k).m=(j:Nat)/\(h k).v=(tnD (rwF h) k j:Nat)):=HS.out.1 hsp
    clear HS hsp
    by_cases hcn:y.Can (tnD (rwF h) k) j
    case neg=>
     rw [qap hcn] at HCP
     have HNo:Hid (¬ ((h k).m=(j:Nat)/\(h k).v=(tnD (rwF h) k j:Nat)/\y.Can (tnD (rwF h) k) j)):=fun h9=>hcn h9.2.2
     clear hcn HYes
     go_upto_region 7 with fail
     refine wp_region_quiet_below (by kernel_rfl) (by kernel_rfl) ?_
     repeat (quiet_step (first|(go_at_call 158;exact Calls.regrown_of (HCP.out _ (below_regrown _ _ _)))))
     refine wpQuiet_nil ?_
     intro _ hw'
     obtain ⟨⟨dq,osq⟩,hw''⟩:=hw'
     subst hw''
     have B3:Hid (Pw w0 X ha hc y (tnD (rwF h) k) (grow (redrawn wr dq) osq)/\(∀ i,i<k->y.RwAt h i)/\∀ q,q<j+1->¬ ((h k).m=(q:Nat)/\(h k).v=(tnD (rwF h) k q:Nat)/\y.Can (tnD (rwF h) k) q)):=HMs.out _ (below_regrown wr dq osq) HNo.out
     generalize grow (redrawn wr dq) osq=w3 at *
     clear c0 c1 pk c0' c1' pk' hE9 HMs HF HNo HCP
     go_wp2
     go_roundg (y.n - (j+1))
     case measure=>have:=HGj.out;omega
     case rel=>exact ⟨j+1,by omega,rfl,by go_num,B3.out⟩
    rw [qa3 hcn] at HCP
    have HHit:Hid (y.RwAt h k/\tnD (rwF h) (k+1)=up (tnD (rwF h) k) j):=Hs.rw_hit hjt HYes.out.1 HYes.out.2 hcn
    have HLt:Hid (tnD (rwF h) k j<y.l j):=hcn.1
    clear hcn HYes HMs
    go_upto_region 7 with fail
    refine wp_region_quiet_below (by kernel_rfl) (by kernel_rfl) ?_
    repeat (quiet_step (first|(go_at_call 158;exact Calls.regrown_of (HCP.out _ (below_regrown _ _ _)))))
    refine wpQuiet_nil ?_
    intro _ hw'
    obtain ⟨⟨dq,osq⟩,hw''⟩:=hw'
    subst hw''
    have B3:Hid (Pw w0 X ha hc y (tnD (rwF h) k) (grow (redrawn wr dq) osq)/\∀ i,i<k->y.RwAt h i):=⟨HF.out.1.below (below_regrown wr dq osq),HF.out.2.1⟩
    generalize grow (redrawn wr dq) osq=w3 at *
    clear c0 c1 pk c0' c1' pk' hE9 HF HCP
    go_wp2_with fail
    refine (qvr X ha hc hA hC y _ j w3 (HE.out w3 B3.out.1.be) B3.out.1.hq HH.out.2.2.2 hjt HH.out.1 HH.out.2.1 (Hs.rw_put B3.out.2).le HLt.out).mono ?_
    rintro e w4 ⟨rfl,hq4,t4⟩
    have B4:Hid (Pw w0 X ha hc y (tnD (rwF h) (k+1)) w4/\∀ i,i<k+1->y.RwAt h i):=by
     refine ⟨?_,fun i hi=>?_⟩
     ·rw [HHit.out.2]
      exact B3.out.1.turn HH.out.2.2.1 t4 hq4
     ·by_cases e:i=k
      ·subst e
       exact HHit.out.1
      ·exact B3.out.2 i (by omega)
    clear hq4 t4 B3 HHit HLt HGj
    go_wp2
    go_roundg (n - (k+1))
    case measure=>have:=HGk.out;omega
    case rel=>exact ⟨k+1,by omega,rfl,by go_num,B4.out⟩
theorem qxh (x:SysIn) (W1:World) (hhn:x.hn=x.pn) (cs:List Value) (hcs:hisZ x.ha x.hn x.hc=cs):HisQ ((W1.alloc (zQ3)).setCells W1.heap.size 0 cs) W1.heap.size x.ha x.hc x.y.hs (fun _=>0)/\Below W1.heap.size W1 ((W1.alloc (zQ3)).setCells W1.heap.size 0 cs):=by
 subst hcs
 have hT:(W1.alloc (zQ3)).there W1.heap.size 0 (hisZ x.ha x.hn x.hc).toArray.size:=qb3 _ _ _ _ _ (by rfl) rfl
 have hR:((W1.alloc (zQ3)).setCells W1.heap.size 0 (hisZ x.ha x.hn x.hc)).rangeAt W1.heap.size 0 (hisZ x.ha x.hn x.hc):=World.rangeAt_setCells_same _ _ _ _ (by simpa using hT)
 have tS:qac (fun b=>b=W1.heap.size) (W1.alloc (zQ3)) ((W1.alloc (zQ3)).setCells W1.heap.size 0 (hisZ x.ha x.hn x.hc)):=qac.sets (P:=fun b=>b=W1.heap.size) rfl _ _ (qac.refl _ _)
 refine ⟨HisQ.of_range hR hhn (fun j=>(World.frozen?_setCells _ _ _ _ _).trans (yB _ _ _ _ rfl)),(zT _ _).trans (tS.below (by simp) fun c e=>by have e:c=W1.heap.size:=e;omega)⟩
theorem qka (x:SysIn) (la:Option Addr) (n lc:Nat) (h:Nat->Wo2) (w:World) (hG:SysG w x) (hL:x.Len) (hW:WoL w la n h) (hn:n<=1048576) (hV:w.cell? ⟨0,0,none⟩=some (.iface 298 (.agg #[.pointer (some ⟨1,213,none⟩)]))):
  Calls Tryz.prog 49 #[x.v,.slice la n lc] w fun e w'=>e=.returned (.bool (rwB x.y h n))/\Below w.heap.size w w':=by
 have HSo:Hid (∀ wx,Below w.heap.size w wx->Calls Tryz.prog 75 #[x.v] wx fun e w'=>e=.returned (.bool x.y.okB)/\Below wx.heap.size wx w'):=fun wx hb=>qfk x wx (hG.below hb) hL ((hb.cell (zJ w _ hV)).trans hV)
 have HPt:Hid (x.y.Ok->∀ X wx,Below w.heap.size w wx->w.heap.size<=X->HisQ wx X x.ha x.hc x.y.hs (fun _=>0)->Calls Tryz.prog 97 #[.pointer (some ⟨X,0,none⟩),.slice la n lc] wx fun e w'=>e=.returned (.bool (qB (x.y.hs.RwOk h n)))/\Below w.heap.size w w'):=fun hO X wx hb hX hq=>qvs X x.ha x.hc x.hA x.hC x.y.hs la n lc h w wx (hG.his hO.cn.2.2.1) hb hX hq hO.cn.1.2 (fun p hp i hi=>hO.evq hp hi) (fun i hi=>hO.hl200 hi) hW hn
 have HR:Hid (rwB x.y h n=(x.y.okB && qB (x.y.hs.RwOk h n))):=rfl
 have B0:Hid (Below w.heap.size w (w.alloc (oQ4 x.pa x.pn x.pc x.sa x.sn x.sc x.wa x.wn x.wc x.ha x.hn x.hc))):=zT _ _
 have X0:Hid (BoxC (w.alloc (oQ4 x.pa x.pn x.pc x.sa x.sn x.sc x.wa x.wn x.wc x.ha x.hn x.hc)) w.heap.size (.slice x.pa x.pn x.pc) (.slice x.sa x.sn x.sc) (.slice x.wa x.wn x.wc) (.slice x.ha x.hn x.hc)):=BoxC.new w _ _ _ _ _
 clear hG hL hW hV
 go_enter Tryz.func49,Tryz.ntmps49
 go_wp2_with fail
 generalize w.alloc (oQ4 x.pa x.pn x.pc x.sa x.sn x.sc x.wa x.wn x.wc x.ha x.hn x.hc)=W0 at *
 refine (HSo.out W0 B0.out).mono ?_
 rintro e W1 ⟨rfl,b2⟩
 have B2:Hid (Below w.heap.size w W1/\BoxC W1 w.heap.size (.slice x.pa x.pn x.pc) (.slice x.sa x.sn x.sc) (.slice x.wa x.wn x.wc) (.slice x.ha x.hn x.hc)):=⟨B0.out.trans (b2.mono B0.out.size),X0.out.below b2⟩
 clear b2 B0 X0 HSo
 by_cases hok:x.y.okB=true
 case neg=>
  have hok':x.y.okB=false:=by simpa using hok
  rw [hok'] at HR ⊢
  go_wp2
  go_ret
  exact ⟨by rw [HR.out];rfl,B2.out.1⟩
 rw [hok] at HR ⊢
 have HO:Hid (x.y.Ok):=Sy.ok_of hok
 have hl:=qve x.ha x.hn x.hc
 have ho:=qvf x.ha x.hn x.hc
 generalize hcs:hisZ x.ha x.hn x.hc=cs at *
 have HC:Hid (hisZ x.ha x.hn x.hc=cs):=hcs
 have HI:Hid ((Tryz.prog.info? 98).map (·.size)=some cs.length):=by
  show _=_
  rw [hl];exact qyc
 have HOne:Hid (cs.toArray.all (·.oneCell')=true):=all_oneCell_toArray ho
 have HT:Hid ((W1.alloc (zQ3)).there W1.heap.size 0 cs.toArray.size):=qb3 _ _ _ _ _ (by have h9:cs.toArray.size=21:=hl;rw [h9];rfl) rfl
 have HN:Hid (HisQ ((W1.alloc (zQ3)).setCells W1.heap.size 0 cs) W1.heap.size x.ha x.hc x.y.hs (fun _=>0)/\Below W1.heap.size W1 ((W1.alloc (zQ3)).setCells W1.heap.size 0 cs)):=qxh x W1 HO.out.cn.2.2.1 cs hcs
 obtain ⟨s0,s1,s2,s3⟩:=B2.out.2
 clear hok hl ho hcs
 go_upto_region 4 with (refine wpList_store_mid rfl 98 (.tmp 5) (.tmp 11) rfl W1.heap.size 0 cs.toArray rfl (by rw [<- HC.out];rfl) HT.out (by simpa using HI.out) HOne.out ?_)
 clear s0 s1 s2 s3 HT HC HI HOne
 generalize (W1.alloc (zQ3)).setCells W1.heap.size 0 cs=W3 at *
 go_wp2_with fail
 refine (HPt.out HO.out W1.heap.size W3 (B2.out.1.trans (HN.out.2.mono B2.out.1.size)) B2.out.1.size HN.out.1).mono ?_
 rintro e w4 ⟨rfl,b4⟩
 have B4:Hid (Below w.heap.size w w4/\qB (x.y.hs.RwOk h n)=rwB x.y h n):=⟨b4,by rw [HR.out];rfl⟩
 rw [B4.out.2]
 clear b4 HN B2 HR
 go_wp2
 go_ret
 exact ⟨rfl,B4.out.1⟩
