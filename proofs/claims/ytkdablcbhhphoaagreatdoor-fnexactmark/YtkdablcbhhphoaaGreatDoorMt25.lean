import Derived.Test.YtkdablcbhhphoaaGreatDoorMt22
namespace Go.Proofs.YtkdablcbhhphoaaGreatDoor
open Go.Proofs.Tryz
set_option maxRecDepth 100000
set_option maxHeartbeats 4000000
open Go.ChangeShapes Go.WideShapes Go.ChangeAt Go.RowKit Go.Deep Go.Sort
structure SysIn.One (x:SysIn) (p:Nat):Prop where
 pr:qac (x.pH p) (x.pL p) x.pn=true
 st:x.StP p
 pe:∀ i,i<x.hL p->(x.hH p i).q<(x.pn:Int)
def SysIn.Two (x:SysIn) (a b:Nat):Prop:=WayP (x.wH (a*x.pn+b)) (x.wL (a*x.pn+b)) (valL (x.hH b) 3 a (x.hL b)) (valL (x.hH a) 2 b (x.hL a))
theorem qzm {x:SysIn} (hc:(1<=x.pn/\x.pn<=4)/\x.sn=x.pn/\x.hn=x.pn/\x.wn=x.pn*x.pn) (h1:∀ p,p<x.pn->x.One p) (h2:∀ a,a<x.pn->∀ b,b<x.pn->x.Two a b) (h3:x.y.hs.Row):x.y.Ok:=
 ⟨hc,fun p hp=>(h1 p hp).pr,fun p hp=>(h1 p hp).st,fun p hp=>(h1 p hp).pe,h2,h3⟩
theorem qr9 {x:SysIn} (h:x.y.Ok) {p:Nat} (hp:p<x.pn):x.One p:=⟨h.pr p hp,h.rp p hp,h.pe p hp⟩
theorem qx2 {x:SysIn} (h:x.y.Ok) {a b:Nat} (ha:a<x.pn) (hb:b<x.pn):x.Two a b:=h.wa a ha b hb
theorem ql1 (x:SysIn) (w:World) (hG:SysG w x) (hL:x.Len) (hcap:∀ i,i<x.hn->x.hL i<=x.hC i):
  Calls prog 55 #[x.v] w (rB w (.bool x.y.okB)):=by
 have HG:Hid (SysG w x):=hG;have HL:Hid x.Len:=hL;have HCap:Hid (∀ i,i<x.hn->x.hL i<=x.hC i):=hcap;have hpn:(x.pn:Int)<=1048576:=by have:=hL.p.1;omega
 have hm0:0<=(x.pn:Int)*(x.pn:Int):=Int.mul_nonneg (by omega) (by omega)
 have hm1:(x.pn:Int)*(x.pn:Int)<=1099511627776:=by
  have:=Int.mul_le_mul hpn hpn (by omega) (by omega);omega
 have BA:Hid (Below w.heap.size w (w.alloc (oQ4 x.pa x.pn x.pc x.sa x.sn x.sc x.wa x.wn x.wc x.ha x.hn x.hc))):=zS _ _;have NB:Hid (BoxC (w.alloc (oQ4 x.pa x.pn x.pc x.sa x.sn x.sc x.wa x.wn x.wc x.ha x.hn x.hc)) w.heap.size (.slice x.pa x.pn x.pc) (.slice x.sa x.sn x.sc) (.slice x.wa x.wn x.wc) (.slice x.ha x.hn x.hc)):=BoxC.new w _ _ _ _ _;clear hG hL hcap;by_cases hc:(1<=x.pn/\x.pn<=4)/\x.sn=x.pn/\x.hn=x.pn/\x.wn=x.pn*x.pn
 case neg=>
  have HN:Hid (x.y.okB=false):=Sy.okB_false fun h=>hc h.cn
  rcases zK (inB x.pn 1 4) with t1 | t1
  case inr=>
   clear hc
   go_enter func55,ntmps55
   go_wp2_with fail
   refine (l1In_any _ _ _ _).mono ?_;rintro e w1 ⟨rfl,rfl⟩;rw [t1];go_wp2;go_ret;rw [HN.out];exact ⟨rfl,BA.out⟩
  rcases zK ((x.sn:Int) != (x.pn:Int)) with t2 | t2
  case inl=>
   clear hc
   go_enter func55,ntmps55
   go_wp2_with fail
   refine (l1In_any _ _ _ _).mono ?_;rintro e w1 ⟨rfl,rfl⟩;rw [t1];go_wp2;go_ret;rw [HN.out];exact ⟨rfl,BA.out⟩
  rcases zK ((x.hn:Int) != (x.pn:Int)) with t3 | t3
  case inl=>
   clear hc
   go_enter func55,ntmps55
   go_wp2_with fail
   refine (l1In_any _ _ _ _).mono ?_;rintro e w1 ⟨rfl,rfl⟩;rw [t1];go_wp2;go_ret;rw [HN.out];exact ⟨rfl,BA.out⟩
  have t4:((x.wn:Int) != (x.pn:Int)*(x.pn:Int))=true:=by
   have t1':1<=(x.pn:Int)/\(x.pn:Int)<=4:=by simpa [inB] using t1
   have t2':(x.sn:Int)=x.pn:=by simpa using t2
   have t3':(x.hn:Int)=x.pn:=by simpa using t3
   have : ¬ (x.wn : Int) = (x.pn : Int) * (x.pn : Int) := fun e => hc ⟨⟨by omega, by omega⟩, by omega, by omega, by
    have:((x.wn:Nat):Int)=((x.pn*x.pn:Nat):Int):=by rw [e,Int.natCast_mul]
    omega⟩
   simpa using this
  clear hc
  go_enter func55,ntmps55
  go_wp2_with fail
  refine (l1In_any _ _ _ _).mono ?_;rintro e w1 ⟨rfl,rfl⟩;rw [t1];go_wp2;go_ret;rw [HN.out];exact ⟨rfl,BA.out⟩
 have t1:inB x.pn 1 4=true:=by simp [inB];omega
 have t2:((x.sn:Int) != (x.pn:Int))=false:=by simp [hc.2.1]
 have t3:((x.hn:Int) != (x.pn:Int))=false:=by simp [hc.2.2.1]
 have t4:((x.wn:Int) != (x.pn:Int)*(x.pn:Int))=false:=by rw [hc.2.2.2,Int.natCast_mul];simp
 have hp4:(x.pn:Int)<=4:=by omega
 have HC:Hid ((1<=x.pn/\x.pn<=4)/\x.sn=x.pn/\x.hn=x.pn/\x.wn=x.pn*x.pn):=hc;clear hc
 go_enter func55,ntmps55
 go_wp2_with fail
 refine (l1In_any _ _ _ _).mono ?_;rintro e w1 ⟨rfl,rfl⟩;rw [t1];go_wp2_with fail
 clear hm0 hm1 t1 t2 t3 t4 hpn;generalize w.alloc (oQ4 x.pa x.pn x.pc x.sa x.sn x.sc x.wa x.wn x.wc x.ha x.hn x.hc)=wb at *
 go_loopw [4] (fun i wr=>∃ k:Nat,k<=x.pn/\i=.int .i64 k/\Hid (Below wb.heap.size wb wr/\∀ j,j<k->x.One j)) (fun i _=>x.pn - (intOf i).toNat)
 case atStart=>exact ⟨0,nD _,rfl,nE _ _,fun j hj=>by omega⟩
 case round=>
  obtain ⟨k,hk,rfl,HZ⟩:=hrel;have hbw:Below w.heap.size w wr:=BA.trans (HZ.1.mono BA.size);have HBW:Hid (Below w.heap.size w wr):=hbw;obtain ⟨b0,b1,b2,b3⟩:=NB.bw HZ.1;by_cases hlt:k<x.pn
  ·have hlt':(k:Int)<(x.pn:Int):=by omega
   obtain ⟨bp,op,ep,ck⟩:=(HG.bw hbw).p.at hlt;obtain ⟨b,eb,hbl,hI⟩:=(HG.bw hbw).pi k hlt;rw [eb] at ck;rw [ep] at b0;have HI:Hid (qao wr b 0 (x.pL k) (x.pH k)):=hI
   have HM:Hid (x.pL k<=maxLen):=by
    show x.pL k<=maxLen;have:=HL.p.2 k hlt;unfold maxLen;omega
   clear hI hbw;go_wp2_with fail
   refine (qew b 0 (x.pL k) _ (x.pH k) x.pn wr HM.out hbl HI.out).mono ?_;rintro e w2 ⟨rfl,c2⟩;have HZ2:Hid (Below wb.heap.size wb w2/\∀ j,j<k->x.One j):=⟨HZ.1.trans (c2.mono HZ.1.size),HZ.2⟩
   have HB2:Hid (Below w.heap.size w w2):=HBW.trans (c2.mono HBW.size);clear b0 b1 b2 b3 ck c2 HZ HBW HI hbl
   rcases zK (qac (x.pH k) (x.pL k) x.pn) with tp | tp
   case inr=>
    have HN:Hid (x.y.okB=false):=Sy.okB_false fun h=>by
     have:=(qr9 h hlt).pr;rw [tp] at this;cases this
    rw [tp];go_wp2;go_ret;rw [HN.out];exact ⟨rfl,HB2.out⟩
   have TP:Hid (qac (x.pH k) (x.pL k) x.pn=true):=tp;rw [tp];clear tp;have hkh:k<x.hn:=by have:=HC.out;omega
   have hks:k<x.sn:=by have:=HC.out;omega
   have hkh':(k:Int)<(x.hn:Int):=by omega
   have hks':(k:Int)<(x.sn:Int):=by omega
   obtain ⟨b0,b1,b2,b3⟩:=NB.bw HZ2.1;obtain ⟨bp',op',ep',ck⟩:=(HG.bw HB2.out).p.at hlt;obtain ⟨b',eb',hbl,hI⟩:=(HG.bw HB2.out).pi k hlt;obtain ⟨bh,oh,eh,ch⟩:=(HG.bw HB2.out).h.at hkh;rw [eb'] at ck;rw [ep'] at b0;rw [eh] at b3;have HI:Hid (∀ wx,Below w2.heap.size w2 wx->b'<wx.heap.size/\qao wx b' 0 (x.pL k) (x.pH k)):=fun wx hb=>⟨zL hbl hb.size,hI.bw hb hbl⟩
   have HE:Hid (EvL w2 (x.hA k) (x.hL k) (x.hH k)):=(HG.bw HB2.out).hi k hkh;have HLk:Hid (x.hL k<=1048576):=HL.h.2 k hkh;generalize hR:resS (repO (x.pH k) (x.pL k) (x.hH k) (x.hL k))=R;generalize hT:(repO (x.pH k) (x.pL k) (x.hH k) (x.hL k)).isSome=T;have HO:Hid (resS (repO (x.pH k) (x.pL k) (x.hH k) (x.hL k))=R/\(repO (x.pH k) (x.pL k) (x.hH k) (x.hL k)).isSome=T):=⟨hR,hT⟩
   have hRl:=qr3 (x.pH k) (x.pL k) (x.hH k) (x.hL k);rw [hR] at hRl;have HRL:Hid (R.rs.length<=1048576/\R.os.length<=1048576):=hRl;have d1:w2.heap.size≠w.heap.size:=by have:=zJ w2 _ b0;simp at this;omega
   have d2:w2.heap.size≠bp':=by have:=zJ w2 _ ck;simp at this;omega
   have d3:w2.heap.size≠bh:=by have:=zJ w2 _ ch;simp at this;omega
   clear hI hR hT hRl ep' eb' eh ep eb hbl;go_wp2_with fail
   go_cut [5,6] from 55 to 68 (fun s t wx=>∃ M:Nat,s=.pointer (some ⟨M,0,none⟩)/\t=.bool T/\Hid (Below w2.heap.size w2 wx/\Told wx w2.heap.size M R))
   case first=>
    go_region_held3 (fun w'=>w'.cell? ⟨w.heap.size,0,none⟩=some (.slice (some ⟨bp',op',none⟩) x.pn x.pc)/\w'.cell? ⟨w.heap.size,3,none⟩=some (.slice (some ⟨bh,oh,none⟩) x.hn x.hc)/\w'.cell? ⟨bp',op'+k,none⟩=some (.slice (some ⟨b',0,none⟩) (x.pL k) (x.pC k))/\w'.cell? ⟨bh,oh+k,none⟩=some (.slice (x.hA k) (x.hL k) (x.hC k))) (go_keep)
     (first
      | (go_at_call 121;refine (qon b' (x.pL k) _ (x.hA k) (x.hL k) _ (x.pH k) (x.hH k) _ HM.out (HI.out _ (by go_grown)).1 (HI.out _ (by go_grown)).2 (HE.bw (by go_grown)) HLk.out).mono ?_;rintro e w5 hd;rw [HO.1,HO.2] at hd;obtain ⟨v5,rfl,o5,b5⟩:=hd;obtain ⟨ra5,rc5,oa5,oc5,rfl,-,-⟩:=o5.read;have q5:Below w2.heap.size w2 w5:=qai (by go_grown) b5 (by simp);(try simp only [World.size_alloc,World.size_drew] at o5);have O5:Hid (qag w5 _ (stV R.p ra5 R.rs.length rc5 oa5 R.os.length oc5 R.c) R.p R.rs R.os R.c):=o5;obtain ⟨hc5,hf5⟩:=qap b5;have z5:=b5.size;(try simp only [World.size_alloc,World.size_drew,Nat.add_one_le_iff] at z5);have j5:w2.heap.size<=w5.heap.size:=q5.size;have Q5:Hid (Below w2.heap.size w2 w5):=q5;have y0:=(q5.cell (p:=⟨w.heap.size,0,none⟩) (zJ w2 _ b0)).trans b0;have y3:=(q5.cell (p:=⟨w.heap.size,3,none⟩) (zJ w2 _ b3)).trans b3;have yk:=(q5.cell (p:=⟨bp',op'+k,none⟩) (zJ w2 _ ck)).trans ck;have yh:=(q5.cell (p:=⟨bh,oh+k,none⟩) (zJ w2 _ ch)).trans ch;clear o5 b5 q5))
    all_goals
     go_wp2_with fail
     go_meet
     case rel=>
      first
      | (refine ⟨w5.heap.size, by with_reducible rfl, rfl, ?_⟩
         exact ⟨Q5.trans ((zS _ _).mono j5),Told.of_alloc O5.out (by omega) (by omega) _⟩)
      | (refine ⟨w2.heap.size, by with_reducible rfl, rfl, ?_⟩
         exact ⟨(((Q5.setCell (nA _) _).setCell (nA _) _).setCell (nA _) _).setCell (nA _) _,Told.of_put (z0:=.int .i64 0) (z1:=nS) (z2:=nS) (z3:=.int .i64 0) O5.out (by omega) (by omega) (by omega) ⟨by rw [hc5 _ _ (by simp)];simp,by rw [hc5 _ _ (by simp)];simp,by rw [hc5 _ _ (by simp)];simp,by rw [hc5 _ _ (by simp)];simp⟩⟩)
   case rest=>
    obtain ⟨M,rfl,rfl,HMt⟩:=hcut;obtain ⟨ra,rc,oa,oc,TG⟩:=HMt.2.tl;have HZ3:Hid (Below wb.heap.size wb wc/\∀ j,j<k->x.One j):=⟨HZ2.1.trans (HMt.1.mono HZ2.1.size),HZ2.2⟩
    have HB3:Hid (Below w.heap.size w wc):=HB2.trans (HMt.1.mono HB2.size);have HS3:Hid (Sl wc ra R.rs/\Sl wc oa R.os):=TG.sl;have HBX:Hid (BoxC wc M (.int .i64 R.p) (.slice ra R.rs.length rc) (.slice oa R.os.length oc) (.int .i64 R.c)):=TG.box;clear b0 b1 b2 b3 ck ch d1 d2 d3 HI HE HLk HM HZ2 HB2 HMt TG
    rcases zK T with rfl | rfl
    case inr=>
     have HN:Hid (x.y.okB=false):=Sy.okB_false fun h=>by
      have h1:repO (x.pH k) (x.pL k) (x.hH k) (x.hL k)=some (x.sS k):=(qr9 h hlt).st;have h2:=HO.2;rw [h1] at h2;cases h2
     go_wp2_with fail
     go_quiet (fail)
     go_wp2;go_ret;rw [HN.out];exact ⟨rfl,yB HB3.out _⟩
    case inl=>
     have HP:Hid (eqS R (x.sS k)=true ↔ x.StP k):=by
      show eqS R (x.sS k)=true ↔ x.StP k;rw [quo];unfold SysIn.StP;cases hr:repO (x.pH k) (x.pL k) (x.hH k) (x.hL k) with
      | none=>have:=HO.2;rw [hr] at this;cases this
      | some S0=>
       have:=HO.1;rw [hr] at this;rw [show S0=R from this];exact ⟨fun e=>by rw [e],fun e=>Option.some.inj e⟩
     obtain ⟨k0,k1,k2,k3⟩:=HBX.out;obtain ⟨-,x1,-,-⟩:=NB.bw HZ3.1;obtain ⟨bs,os,es,s0,s1,s2,s3⟩:=(HG.bw HB3.out).s.at hks;rw [es] at x1;have HST:Hid (Sl wc (x.sQ k).ra (x.sQ k).rs/\Sl wc (x.sQ k).oa (x.sQ k).os):=(HG.bw HB3.out).s.lst k hks;have HSL:Hid ((x.sQ k).rs.length<=1048576/\(x.sQ k).os.length<=1048576):=HL.s.2 k hks;have k0':=cell_regrown k0;have k1':=cell_regrown k1;have k2':=cell_regrown k2;have k3':=cell_regrown k3;have x1':=cell_regrown x1;have s0':=cell_regrown s0;have s1':=cell_regrown s1;have s2':=cell_regrown s2;have s3':=cell_regrown s3;clear es
     have HCs:Hid (∀ d os',Calls prog 122 #[stV R.p ra R.rs.length rc oa R.os.length oc R.c,stV (x.sQ k).p (x.sQ k).ra (x.sQ k).rs.length (x.sQ k).rc (x.sQ k).oa (x.sQ k).os.length (x.sQ k).oc (x.sQ k).c] (grow (redrawn wc d) os') fun e w'=>e=.returned (.bool (eqS R (x.sS k)))/\Below (grow (redrawn wc d) os').heap.size (grow (redrawn wc d) os') w'):=fun d os'=>
      qgq R (x.sS k) _ _ _ _ _ _ _ _ _ HRL.1 HRL.2 HSL.1 HSL.2 (HS3.1.bw (below_regrown wc d os')) (HS3.2.bw (below_regrown wc d os')) (HST.1.bw (below_regrown wc d os')) (HST.2.bw (below_regrown wc d os'))
     go_wp2_with fail
     refine wp_region_quiet_below (by kernel_rfl) (by kernel_rfl) ?_
     repeat (quiet_step (first|(go_at_call 122;exact Calls.regrown_of (HCs.out _ _))))
     refine wpQuiet_nil ?_;intro _ hw';obtain ⟨⟨dq,osq⟩,hw''⟩:=hw';subst hw'';have HZ4:Hid (Below wb.heap.size wb (grow (redrawn wc dq) osq)/\∀ j,j<k->x.One j):=⟨HZ3.1.trans ((below_regrown wc dq osq).mono HZ3.1.size),HZ3.2⟩
     have HB4:Hid (Below w.heap.size w (grow (redrawn wc dq) osq)):=HB3.trans ((below_regrown wc dq osq).mono HB3.size);generalize grow (redrawn wc dq) osq=w4 at *;clear k0' k1' k2' k3' x1' s0' s1' s2' s3' k0 k1 k2 k3 x1 s0 s1 s2 s3 HCs HZ3 HB3 HS3 HBX HST HSL
     rcases zK (eqS R (x.sS k)) with t | t
     case inr=>
      have HN:Hid (x.y.okB=false):=Sy.okB_false fun h=>by
       have:=HP.2 (qr9 h hlt).st;rw [t] at this;cases this
      rw [t];clear t;go_wp2;go_ret;rw [HN.out];exact ⟨rfl,HB4.out⟩
     have HSt:Hid (x.StP k):=HP.1 t;rw [t];clear t;have hll:(x.hL k:Int)<=1048576:=by have:=HL.h.2 k hkh;omega
     go_wp2_with fail
     go_loopw [7] (fun i wr=>∃ j:Nat,j<=x.hL k/\i=.int .i64 j/\Hid (Below wb.heap.size wb wr/\∀ i,i<j->(x.hH k i).q<(x.pn:Int))) (fun i _=>x.hL k - (intOf i).toNat)
     case atStart=>exact ⟨0,nD _,rfl,HZ4.1,fun j hj=>by omega⟩
     case round=>
      obtain ⟨j,hj,rfl,HY⟩:=hrel;have HBj:Hid (Below w.heap.size w wr):=BA.trans (HY.1.mono BA.size);obtain ⟨-,-,-,b3⟩:=NB.bw HY.1;obtain ⟨bh,oh,eh,ch⟩:=(HG.bw HBj.out).h.at hkh;rw [eh] at b3;clear eh;by_cases hjl:j<x.hL k
      ·have hjl':(j:Int)<(x.hL k:Int):=by omega
       obtain ⟨be,oe,ea,-,c0,c1,c2⟩:=((HG.bw HBj.out).hi k hkh).at hjl;rw [ea] at ch;by_cases hq:(x.hH k j).q<(x.pn:Int)
       ·have hq':¬ (x.pn:Int)<=(x.hH k j).q:=by omega
        have HY' : Hid (Below wb.heap.size wb wr ∧ ∀ i, i < j + 1 → (x.hH k i).q < (x.pn : Int)) := ⟨HY.1, fun i hi => by
         by_cases e:i=j
         ·subst e
          exact hq
         ·exact HY.2 i (by omega)⟩
        clear HY ea;go_wp2;go_roundw
        case rel=>exact ⟨j+1,by omega,by go_num,HY'.out⟩
        case measure=>simp [intOf];omega
       ·have hq':(x.pn:Int)<=(x.hH k j).q:=by omega
        have HN:Hid (x.y.okB=false):=Sy.okB_false fun h=>hq ((qr9 h hlt).pe j hjl);clear HY ea;go_wp2;go_ret;rw [HN.out];exact ⟨rfl,HBj.out⟩
      ·have HZ5 : Hid (Below wb.heap.size wb wr ∧ ∀ p, p < k + 1 → x.One p) := ⟨HY.1, fun p hp => by
        by_cases e:p=k
        ·subst e
         exact ⟨TP.out,HSt.out,fun i hi=>HY.2 i (by omega)⟩
        ·exact HZ4.2 p (by omega)⟩
       have hjl':¬ (j:Int)<(x.hL k:Int):=by omega
       clear HY;go_wp2;go_roundw
       case rel=>exact ⟨k+1,by omega,by go_num,HZ5.out⟩
       case measure=>simp [intOf];omega
  ·have HOne:Hid (∀ p,p<x.pn->x.One p):=fun p hp=>HZ.2 p (by omega)
   have hkn:¬ (k:Int)<(x.pn:Int):=by omega
   have HW0:Hid (Below wb.heap.size wb wr):=HZ.1;clear HZ b0 b1 b2 b3 hbw HBW;go_wp2_with fail
   go_loopw [8] (fun i wr=>∃ a:Nat,a<=x.pn/\i=.int .i64 a/\Hid (Below wb.heap.size wb wr/\∀ a',a'<a->∀ b,b<x.pn->x.Two a' b)) (fun i _=>x.pn - (intOf i).toNat)
   case atStart=>exact ⟨0,nD _,rfl,HW0.out,fun j hj=>by omega⟩
   case round=>
    clear HW0;obtain ⟨a,ha,rfl,HX⟩:=hrel;by_cases hal:a<x.pn
    ·have hal':(a:Int)<(x.pn:Int):=by omega
     go_wp2_with fail
     go_loopw [9] (fun i wr=>∃ b:Nat,b<=x.pn/\i=.int .i64 b/\Hid (Below wb.heap.size wb wr/\∀ b',b'<b->x.Two a b')) (fun i _=>x.pn - (intOf i).toNat)
     case atStart=>exact ⟨0,nD _,rfl,HX.1,fun j hj=>by omega⟩
     case round=>
      obtain ⟨b,hb,rfl,HYb⟩:=hrel;by_cases hbl:b<x.pn
      ·have hbl':(b:Int)<(x.pn:Int):=by omega
       have hbh:b<x.hn:=by have:=HC.out;omega
       have hah:a<x.hn:=by have:=HC.out;omega
       have hbh':(b:Int)<(x.hn:Int):=by omega
       have hah':(a:Int)<(x.hn:Int):=by omega
       have HBb:Hid (Below w.heap.size w wr):=BA.trans (HYb.1.mono BA.size);have HLb:Hid (x.hL b<=1048576/\x.hL a<=1048576):=⟨HL.h.2 b hbh,HL.h.2 a hah⟩
       obtain ⟨-,-,-,b3⟩:=NB.bw HYb.1;obtain ⟨bh,oh,eh,ch⟩:=(HG.bw HBb.out).h.at hbh;rw [eh] at b3;clear eh;go_wp2_with fail
       refine (qd9 (x.hA b) (x.hL b) _ (x.hH b) 3 a wr HLb.1 ((HG.bw HBb.out).hi b hbh)).mono ?_;rintro e w5 ⟨v5,rfl,o5,c5⟩;obtain ⟨ta,tc,rfl,s5⟩:=o5.form;have HY5:Hid (Below wb.heap.size wb w5/\∀ b',b'<b->x.Two a b'):=⟨HYb.1.trans (c5.mono HYb.1.size),HYb.2⟩
       have HB5:Hid (Below w.heap.size w w5):=HBb.trans (c5.mono HBb.size);have S5:Hid (Sl w5 ta (valL (x.hH b) 3 a (x.hL b))):=s5;clear o5 c5 s5 b3 ch HYb HBb;obtain ⟨-,-,-,b3⟩:=NB.bw HY5.1;obtain ⟨bh',oh',eh',ch'⟩:=(HG.bw HB5.out).h.at hah;rw [eh'] at b3;clear eh';go_wp2_with fail
       refine (qd9 (x.hA a) (x.hL a) _ (x.hH a) 2 b w5 HLb.2 ((HG.bw HB5.out).hi a hah)).mono ?_;rintro e w6 ⟨v6,rfl,o6,c6⟩;obtain ⟨sa,sc,rfl,s6⟩:=o6.form;have HY6:Hid (Below wb.heap.size wb w6/\∀ b',b'<b->x.Two a b'):=⟨HY5.1.trans (c6.mono HY5.1.size),HY5.2⟩
       have HB6:Hid (Below w.heap.size w w6):=HB5.trans (c6.mono HB5.size);have S6:Hid (Sl w6 ta (valL (x.hH b) 3 a (x.hL b))/\Sl w6 sa (valL (x.hH a) 2 b (x.hL a))):=⟨S5.bw c6,s6⟩
       have hJl:a*x.pn+b<x.wn:=by
        rw [HC.2.2.2];have:(a+1)*x.pn<=x.pn*x.pn:=Nat.mul_le_mul_right _ (by omega);rw [Nat.add_mul] at this;omega
       have hJe:(a:Int)*(x.pn:Int)+(b:Int)=((a*x.pn+b:Nat):Int):=by rw [Int.natCast_add,Int.natCast_mul]
       have hm0:0<=(a:Int)*(x.pn:Int):=Int.mul_nonneg (by omega) (by omega)
       have hm1:(a:Int)*(x.pn:Int)<=16:=by
        have:=Int.mul_le_mul (show (a:Int)<=4 by omega) hp4 (by omega) (by omega);omega
       have HT2:Hid ((LWay (x.wH (a*x.pn+b)) (x.wL (a*x.pn+b)) (valL (x.hH a) 2 b (x.hL a)) (valL (x.hH b) 3 a (x.hL b)).length/\∀ i,i<(valL (x.hH b) 3 a (x.hL b)).length->zi (valL (x.hH b) 3 a (x.hL b)) i=zi (valL (x.hH a) 2 b (x.hL a)) i) ↔ x.Two a b):=LWay.iff;have htl:(valL (x.hH b) 3 a (x.hL b)).length<=1048576:=zO (qgt ..) HLb.1;have hsl:(valL (x.hH a) 2 b (x.hL a)).length<=1048576:=zO (qgt ..) HLb.2;have htl':((valL (x.hH b) 3 a (x.hL b)).length:Int)<=1048576:=by omega
       generalize hJ:a*x.pn+b=J at *;have hJl':(J:Int)<(x.wn:Int):=by omega
       generalize valL (x.hH b) 3 a (x.hL b)=took at *;generalize valL (x.hH a) 2 b (x.hL a)=sent at *;have HIt:Hid (ItL w6 (x.wA J) (x.wL J) (x.wH J)):=(HG.bw HB6.out).wi J hJl;have HLJ:Hid (x.wL J<=1048576):=HL.w.2 J hJl;clear o6 c6 s6 b3 ch' HY5 HB5 S5 hJ;obtain ⟨-,-,b2,-⟩:=NB.bw HY6.1;obtain ⟨bw,ow,ew,cw⟩:=(HG.bw HB6.out).w.at hJl;rw [ew] at b2;clear ew;go_wp2_with fail
       refine (qva (x.wA J) (x.wL J) _ (x.wH J) sa sc sent took.length w6 HLJ.out HIt.out hsl S6.2 htl).mono ?_;rintro e w7 ⟨rfl,c7⟩;have HY7:Hid (Below wb.heap.size wb w7/\∀ b',b'<b->x.Two a b'):=⟨HY6.1.trans (c7.mono HY6.1.size),HY6.2⟩
       have HB7:Hid (Below w.heap.size w w7):=HB6.trans (c7.mono HB6.size);have S7:Hid (Sl w7 ta took/\Sl w7 sa sent):=⟨S6.1.bw c7,S6.2.bw c7⟩
       clear c7 b2 cw HY6 HB6 S6 hm0 hm1 hJe;by_cases hlw:LWay (x.wH J) (x.wL J) sent took.length
       case neg=>
        have HN:Hid (x.y.okB=false):=Sy.okB_false fun h=>hlw (HT2.2 (qx2 h hal hbl)).1;rw [qak hlw];clear hlw;go_wp2;go_ret;rw [HN.out];exact ⟨rfl,HB7.out⟩
       have HLW:Hid (LWay (x.wH J) (x.wL J) sent took.length):=hlw;rw [qbl hlw];clear hlw;go_wp2_with fail
       go_loopw [12] (fun i wr=>∃ j:Nat,j<=took.length/\i=.int .i64 j/\Hid (Below w7.heap.size w7 wr/\∀ i,i<j->zi took i=zi sent i)) (fun i _=>took.length - (intOf i).toNat)
       case atStart=>exact ⟨0,nD _,rfl,nE _ _,fun j hj=>by omega⟩
       case round=>
        obtain ⟨j,hj,rfl,HQ⟩:=hrel;have HBq:Hid (Below w.heap.size w wr/\Below wb.heap.size wb wr):=⟨HB7.trans (HQ.1.mono HB7.size),HY7.1.trans (HQ.1.mono HY7.1.size)⟩
        by_cases hjl:j<took.length
        ·have hjs:j<sent.length:=by have:=HLW.ln;omega
         obtain ⟨bq,oq,rfl,zq,cq⟩:=(S7.1.bw HQ.1).at hjl;obtain ⟨br,or',rfl,zr,cr⟩:=(S7.2.bw HQ.1).at hjs;have hjl':(j:Int)<(took.length:Int):=by omega
         have hjs':(j:Int)<(sent.length:Int):=by omega
         rcases zK (zi took j != zi sent j) with t6 | t6
         ·have HN:Hid (x.y.okB=false):=Sy.okB_false fun h=>by
           have:=(HT2.2 (qx2 h hal hbl)).2 j hjl;rw [this] at t6;simp at t6
          clear HQ;go_wp2_with fail
          go_quiet (fail)
          go_wp2;go_ret;rw [HN.out];exact ⟨rfl,yB HBq.1 _⟩
         ·have HQ' : ∀ nq, Hid (Below w7.heap.size w7 (wr.drewN nq) ∧ ∀ i, i < j + 1 → zi took i = zi sent i) := fun nq => ⟨yB HQ.1 _, fun i hi => by
           by_cases e:i=j
           ·subst e
            simpa using t6
           ·exact HQ.2 i (by omega)⟩
          have HQQ:Hid (∀ nq,Hid (Below w7.heap.size w7 (wr.drewN nq)/\∀ i,i<j+1->zi took i=zi sent i)):=HQ';clear HQ HQ';go_wp2_with fail
          go_quiet (fail)
          go_wp2;go_roundw
          case rel=>exact ⟨j+1,by omega,by go_num,HQQ.out _⟩
          case measure=>simp [intOf];omega
        ·have hjl':¬ (j:Int)<(took.length:Int):=by omega
         have HYn : Hid (Below wb.heap.size wb wr ∧ ∀ b', b' < b + 1 → x.Two a b') := ⟨HBq.2, fun b' hb' => by
          by_cases e:b'=b
          ·subst e
           exact HT2.1 ⟨HLW.out,fun i hi=>HQ.2 i (by omega)⟩
          ·exact HY7.2 b' (by omega)⟩
         clear HQ;go_wp2;go_roundw
         case rel=>exact ⟨b+1,by omega,by go_num,HYn.out⟩
         case measure=>simp [intOf];omega
      ·have HX' : Hid (Below wb.heap.size wb wr ∧ ∀ a', a' < a + 1 → ∀ b, b < x.pn → x.Two a' b) := ⟨HYb.1, fun a' ha' b' hb' => by
        by_cases e:a'=a
        ·subst e
         exact HYb.2 b' (by omega)
        ·exact HX.2 a' (by omega) b' hb'⟩
       have hbl':¬ (b:Int)<(x.pn:Int):=by omega
       clear HYb HX;go_wp2;go_roundw
       case rel=>exact ⟨a+1,by omega,by go_num,HX'.out⟩
       case measure=>simp [intOf];omega
    ·have HTwo:Hid (∀ a,a<x.pn->∀ b,b<x.pn->x.Two a b):=fun a' ha' b hb=>HX.2 a' (by omega) b hb
     have hal':¬ (a:Int)<(x.pn:Int):=by omega
     have HBf:Hid (Below w.heap.size w wr):=BA.trans (HX.1.mono BA.size);obtain ⟨b0,b1,b2,b3⟩:=NB.bw HX.1;have HPe:Hid x.y.hs.Peers:=fun p hp i hi=>⟨qqu (qcs (HOne.out p hp).st).2.2 i hi,(HOne.out p hp).pe i hi⟩
     have e4:x.hn=x.pn:=HC.2.2.1;have H2:Hid (∀ i,i<x.y.hs.n->x.y.hs.l i<=200):=fun p hp=>(qcs (HOne.out p hp).st).2.1;have HCp:Hid (∀ i,i<x.y.hs.n->x.y.hs.l i<=x.hC i):=fun p hp=>HCap.out p (by rw [e4];exact hp);have HHE:Hid (HisE wr x.ha x.hA x.hC x.y.hs):=(HG.bw HBf.out).his e4;have HE4:Hid (x.hn=x.pn):=e4;clear HX e4;rw [HE4.out] at b3;go_wp2_with fail
     refine (qqd x.pa x.pn x.pc x.sa x.sn x.sc x.wa x.wn x.wc x.ha x.hc x.hA x.hC x.y.hs wr HHE.out HCp.out HC.1.1 HC.1.2 HPe.out H2.out).mono ?_;rintro e w9 ⟨rfl,b9⟩
     have HN:Hid (qB x.y.hs.Row=x.y.okB):=by
      show qB x.y.hs.Row=x.y.okB;by_cases hr:x.y.hs.Row
      ·rw [qbv hr,Sy.okB_true (qzm HC.out HOne.out HTwo.out hr)]
      ·rw [qa7 hr,Sy.okB_false fun h=>hr h.ro]
     have B9:Hid (Below w.heap.size w w9):=HBf.trans (b9.mono HBf.size);rw [HN.out];clear b9 HN b0 b1 b2 b3;go_wp2;go_ret;exact ⟨rfl,B9.out⟩
theorem qcc.g2 {w:World} {lo hi:Nat} {x:SysIn} {v:Value} (o:qcc w lo hi x v):∃ x':SysIn,v=x'.v/\SysG w x'/\x'.y=x.y/\∀ i,i<x'.hn->x'.hL i<=x'.hC i:=by
 obtain ⟨D1,D2,D3,D4,b1,vs,b3,b4,h1,h2,h3,o⟩:=o;obtain ⟨q1,q2,q3,q4,-⟩:=o.hi
 have hst:∀ i,i<x.sn->∃ t:Option Addr × Nat × Option Addr × Nat,vs i=stV (x.sS i).p t.1 (x.sS i).rs.length t.2.1 t.2.2.1 (x.sS i).os.length t.2.2.2 (x.sS i).c/\w.cell? ⟨D2,i*4,none⟩=some (.int .i64 (x.sS i).p)/\w.cell? ⟨D2,i*4+1,none⟩=some (.slice t.1 (x.sS i).rs.length t.2.1)/\w.cell? ⟨D2,i*4+2,none⟩=some (.slice t.2.2.1 (x.sS i).os.length t.2.2.2)/\w.cell? ⟨D2,i*4+3,none⟩=some (.int .i64 (x.sS i).c):=by
  intro i hi;obtain ⟨ra,rc,oa,oc,e,c0,c1,c2,c3⟩:=o.ss.cel i hi;exact ⟨(ra,rc,oa,oc),e,c0,c1,c2,c3⟩
 have inh:Inhabited (Option Addr × Nat × Option Addr × Nat):=⟨(none,0,none,0)⟩
 obtain ⟨t,ht⟩:=Go.Deep.choose_lt hst;refine ⟨⟨some ⟨D1,0,none⟩,x.pn,x.pn,fun i=>some ⟨b1 i,0,none⟩,x.pL,x.pL,x.pH,some ⟨D2,0,none⟩,x.sn,x.sn,fun i=>⟨(x.sS i).p,(t i).1,(t i).2.1,(x.sS i).rs,(t i).2.2.1,(t i).2.2.2,(x.sS i).os,(x.sS i).c⟩,some ⟨D3,0,none⟩,x.wn,x.wn,fun i=>some ⟨b3 i,0,none⟩,x.wL,x.wL,x.wH,some ⟨D4,0,none⟩,x.hn,x.hn,fun i=>some ⟨b4 i,0,none⟩,x.hL,x.hL,x.hH⟩,o.val,?_,rfl,fun i _=>nA _⟩;have l1:=o.pp.lt;have l2:=o.ss.lt;have l3:=o.ww.lt;have l4:=o.hh.lt;refine ⟨.inr ⟨D1,0,rfl,by omega,fun i hi=>?_⟩,fun i hi=>⟨b1 i,rfl,zL (o.pp.bd i hi).2 o.pp.le,o.pp.row i hi⟩,⟨.inr ⟨D2,0,rfl,by omega,fun i hi=>?_⟩,fun i hi=>?_⟩,.inr ⟨D3,0,rfl,by omega,fun i hi=>?_⟩,fun i hi=>.inr ⟨b3 i,0,rfl,zL (o.ww.bd i hi).2 o.ww.le,o.ww.row i hi⟩,.inr ⟨D4,0,rfl,by omega,fun i hi=>?_⟩,fun i hi=>.inr ⟨b4 i,0,rfl,zL (o.hh.bd i hi).2 o.hh.le,o.hh.row i hi⟩⟩
 ·have:=o.pp.cel i hi
  simpa using this
 ·have:=(ht i hi).2
  simpa using this
 ·have h4:=o.ss.own i hi
  rw [(ht i hi).1] at h4;exact ⟨h4.parts.1.slOf,h4.parts.2.1.slOf⟩
 ·have:=o.ww.cel i hi
  simpa using this
 ·have:=o.hh.cel i hi
  simpa using this
theorem SysIn.len_of {x x':SysIn} (hs:x.size<=1048576) (hy:x'.y=x.y):x'.Len:=by
 have l:=SysIn.lens hs;have e1:x'.pn=x.pn:=congrArg Sy.pn hy;have e2:x'.pL=x.pL:=congrArg Sy.pL hy;have e3:x'.sn=x.sn:=congrArg Sy.sn hy;have e4:x'.sS=x.sS:=congrArg Sy.sS hy;have e5:x'.wn=x.wn:=congrArg Sy.wn hy;have e6:x'.wL=x.wL:=congrArg Sy.wL hy;have e7:x'.hn=x.hn:=congrArg Sy.hn hy;have e8:x'.hL=x.hL:=congrArg Sy.hL hy;refine ⟨⟨by omega,fun i hi=>?_⟩,⟨by omega,fun i hi=>?_⟩,⟨by omega,fun i hi=>?_⟩,⟨by omega,fun i hi=>?_⟩⟩
 ·rw [e2]
  exact qc7 l.1.2 i (by omega)
 ·have h1:=SysIn.lensS hs i (by omega)
  have h2:x'.sS i=x.sS i:=by rw [e4]
  have h3:(x'.sQ i).rs=(x.sQ i).rs:=congrArg S4.rs h2;have h4:(x'.sQ i).os=(x.sQ i).os:=congrArg S4.os h2;rw [h3,h4];exact h1
 ·rw [e6]
  exact qc7 l.2.2.1.2 i (by omega)
 ·rw [e8]
  exact qc7 l.2.2.2.2 i (by omega)
def Sy.Marks (y:Sy):Prop:=∃ i,i<y.wn/\∃ k,k<y.wL i/\(y.wH i k).m=true
theorem qpk (w:World):(Instr.typeAssert (.iface 197 (.agg #[])) 20 197 true).run prog w=.ok (.tuple #[.agg #[],.bool true]) w:=by kernel_rfl
theorem qsj (v:Int) (w:World):(Instr.typeAssert (.iface 3 (.int .i64 v)) 20 197 true).run prog w=.ok (.tuple #[.agg #[],.bool false]) w:=by kernel_rfl
theorem qj4 (m:Bool) (v:Int) (w:World):
  Calls prog 102 #[itV m v] w (rB w (.bool m)):=by
 have h1:=qpk;have h2:=qsj v;cases m
 ·go_enter func102,ntmps102
  go_wp2;go_ret;exact ⟨rfl,by go_grown⟩
 ·go_enter func102,ntmps102
  go_wp2;go_ret;exact ⟨rfl,by go_grown⟩
def hasM (h:Nat->I2) (n:Nat):Prop:=∃ k,k<n/\(h k).m=true
theorem qk8 (a:Option Addr) (n cap:Nat) (h:Nat->I2) (w:World) (hn:n<=1048576) (hI:ItL w a n h):
  Calls prog 193 #[.slice a n cap,.func (.func 102) #[] #[]] w fun e w'=>(∃ k:Int,e=.returned (.int .i64 k)/\(0<=k ↔ hasM h n))/\Below w.heap.size w w':=by
 have hn':(n:Int)<=1048576:=by omega
 have HI:Hid (ItL w a n h):=hI;clear hI
 go_enter func193,ntmps193
 go_wp2_with fail
 go_loopw [8] (fun i wr=>∃ j:Nat,j<=n/\i=.int .i64 j/\Hid (∀ k,k<j->(h k).m=false)/\Hid (Below w.heap.size w wr)) (fun i _=>n - (intOf i).toNat)
 case atStart=>exact ⟨0,nD _,rfl,fun k hk=>by omega,nE _ _⟩
 case round=>
  obtain ⟨j,hj,rfl,HF,HB⟩:=hrel;by_cases hlt:j<n
  ·have hlt':(j:Int)<(n:Int):=by omega
   obtain ⟨b,off,rfl,hb,c0,c1⟩:=(HI.bw HB.out).at hlt;go_wp2_with fail
   refine (qj4 (h j).m (h j).v _).mono ?_;rintro e w1 ⟨rfl,b1⟩;have HB1:Hid (Below w.heap.size w w1):=HB.trans (b1.mono HB.size);generalize hm:(h j).m=t at *;have HM:Hid ((h j).m=t):=hm;clear b1 HB hm c0 c1;cases t
   ·go_wp2
    go_roundw
    case rel=>
     refine ⟨j+1,by omega,by go_num,fun k hk=>?_,HB1.out⟩;by_cases e:k=j
     ·subst e;exact HM.out
     ·exact HF.out k (by omega)
    case measure=>simp [intOf];omega
   ·go_wp2
    go_ret;exact ⟨⟨_,rfl,⟨fun _=>⟨j,hlt,HM.out⟩,fun _=>by omega⟩⟩,HB1.out⟩
  ·have hjn:j=n:=by omega
   have HN:Hid (¬ hasM h n):=fun ⟨k,hk,hm⟩=>by
    have:=HF.out k (by omega);rw [this] at hm;cases hm
   clear HF;go_wp2;go_ret;exact ⟨⟨_,rfl,⟨fun h=>by omega,fun h=>absurd h HN.out⟩⟩,HB.out⟩
theorem qp4 (a:Option Addr) (n cap:Nat) (h:Nat->I2) (w:World) (hn:n<=1048576) (hI:ItL w a n h):
  Calls prog 137 #[.slice a n cap,.func (.func 102) #[] #[]] w (rB w (.bool (pB (hasM h n)))):=by
 have HC:=qk8 a n cap h w hn hI;clear hI hn
 go_enter func137,ntmps137
 go_wp2_with fail
 refine HC.mono ?_;clear HC;rintro e w1 ⟨⟨k,rfl,hk⟩,b1⟩;by_cases hm:hasM h n
 ·have k0:k ≥ 0:=hk.2 hm
  have HM:Hid (hasM h n):=hm;clear hk hm;go_wp2;go_ret;exact ⟨qaf (qbl HM.out).symm,b1⟩
 ·have k0:¬ k ≥ 0:=fun h=>hm (hk.1 h)
  have HM:Hid (¬ hasM h n):=hm;clear hk hm;go_wp2;go_ret;exact ⟨qaf ((decide_eq_false (by omega)).trans (qak HM.out).symm),b1⟩
theorem qnj (x:SysIn) (w:World) (hG:SysG w x) (hL:x.Len):
  Calls prog 69 #[x.v] w (rB w (.bool (pB x.y.Marks))):=by
 have HG:Hid (SysG w x):=hG;have HL:Hid x.Len:=hL;have hn':(x.wn:Int)<=1048576:=by have:=hL.w.1;omega
 clear hG hL
 go_enter func69,ntmps69
 have B0:Hid (Below w.heap.size w (w.alloc (oQ4 x.pa x.pn x.pc x.sa x.sn x.sc x.wa x.wn x.wc x.ha x.hn x.hc))):=qad _ _;go_wp2_with fail
 generalize w.alloc (oQ4 x.pa x.pn x.pc x.sa x.sn x.sc x.wa x.wn x.wc x.ha x.hn x.hc)=wA at *
 go_loopw [8] (fun i wr=>∃ j:Nat,j<=x.wn/\i=.int .i64 j/\Hid (∀ k,k<j->¬ hasM (x.wH k) (x.wL k))/\Hid (Below w.heap.size w wr)) (fun i _=>x.wn - (intOf i).toNat)
 case atStart=>exact ⟨0,nD _,rfl,fun k hk=>by omega,B0.out⟩
 case round=>
  clear B0;obtain ⟨j,hj,rfl,HF,HB⟩:=hrel;by_cases hlt:j<x.wn
  ·have hlt':(j:Int)<(x.wn:Int):=by omega
   obtain ⟨b,off,ea,c0⟩:=(HG.w.bw HB.out).at hlt;rw [ea];clear ea;go_wp2_with fail
   refine (qp4 (x.wA j) (x.wL j) (x.wC j) (x.wH j) wr (HL.w.2 j hlt) ((HG.wi j hlt).bw HB.out)).mono ?_;rintro e w1 ⟨rfl,b1⟩;have HB1:Hid (Below w.heap.size w w1):=HB.trans (b1.mono HB.size);clear b1 HB c0;by_cases hm:hasM (x.wH j) (x.wL j)
   ·have HM:Hid x.y.Marks:=⟨j,hlt,hm⟩
    rw [qbl hm];clear hm;go_wp2;go_ret;exact ⟨qaf (qbl HM.out).symm,HB1.out⟩
   ·rw [qak hm]
    have HM:Hid (¬ hasM (x.wH j) (x.wL j)):=hm;clear hm;go_wp2;go_roundw
    case rel=>
     refine ⟨j+1,by omega,by go_num,fun k hk=>?_,HB1.out⟩;by_cases e:k=j
     ·subst e;exact HM.out
     ·exact HF.out k (by omega)
    case measure=>simp [intOf];omega
  ·have HM:Hid (¬ x.y.Marks):=fun ⟨i,hi,k,hk,hm⟩=>HF.out i (by have:i<x.wn:=hi;omega) ⟨k,hk,hm⟩
   clear HF;go_wp2;go_ret;exact ⟨qaf (qak HM.out).symm,HB.out⟩
theorem qnp (x:SysIn) (w:World) (hG:SysG w x) (hL:x.Len):
  Calls prog 56 #[x.v] w (rB w (.bool (pB x.y.Marks))):=by
 have HG:Hid (SysG w x):=hG;have HL:Hid x.Len:=hL;have hn':(x.wn:Int)<=1048576:=by have:=hL.w.1;omega
 clear hG hL
 go_enter func56,ntmps56
 have B0:Hid (Below w.heap.size w (w.alloc (oQ4 x.pa x.pn x.pc x.sa x.sn x.sc x.wa x.wn x.wc x.ha x.hn x.hc))/\BoxC (w.alloc (oQ4 x.pa x.pn x.pc x.sa x.sn x.sc x.wa x.wn x.wc x.ha x.hn x.hc)) w.heap.size (.slice x.pa x.pn x.pc) (.slice x.sa x.sn x.sc) (.slice x.wa x.wn x.wc) (.slice x.ha x.hn x.hc)):=⟨qad _ _,BoxC.new _ _ _ _ _ _⟩
 go_wp2_with fail
 generalize w.alloc (oQ4 x.pa x.pn x.pc x.sa x.sn x.sc x.wa x.wn x.wc x.ha x.hn x.hc)=wA at *
 go_loopw [3] (fun i wr=>∃ j:Nat,j<=x.wn/\i=.int .i64 j/\Hid (∀ k,k<j->¬ hasM (x.wH k) (x.wL k))/\wr=wA) (fun i _=>x.wn - (intOf i).toNat)
 case atStart=>exact ⟨0,nD _,rfl,fun k hk=>by omega,rfl⟩
 case round=>
  obtain ⟨j,hj,rfl,HF,rfl⟩:=hrel;obtain ⟨-,-,p2,-⟩:=B0.2;by_cases hlt:j<x.wn
  ·have hlt':(j:Int)<(x.wn:Int):=by omega
   obtain ⟨b,off,ea,c0⟩:=(HG.w.bw B0.1).at hlt;rw [ea] at p2;clear ea;have hll:(x.wL j:Int)<=1048576:=by have:=HL.w.2 j hlt;omega
   have HIt:Hid (ItL wr (x.wA j) (x.wL j) (x.wH j)):=(HG.wi j hlt).bw B0.1;go_wp2_with fail
   go_loopw [4] (fun i wq=>∃ k:Nat,k<=x.wL j/\i=.int .i64 k/\Hid (∀ m,m<k->(x.wH j m).m=false)/\wq=wr) (fun i _=>x.wL j - (intOf i).toNat)
   case atStart=>exact ⟨0,nD _,rfl,fun k hk=>by omega,rfl⟩
   case round=>
    obtain ⟨k,hk,rfl,HK,rfl⟩:=hrel;by_cases hkt:k<x.wL j
    ·have hkt':(k:Int)<(x.wL j:Int):=by omega
     obtain ⟨b2,off2,eb,-,d0,d1⟩:=HIt.at hkt;rw [eb] at c0;clear eb;generalize hm:(x.wH j k).m=t at *;have HM:Hid ((x.wH j k).m=t):=hm;clear hm;cases t
     ·go_wp2
      go_roundw
      case rel=>
       refine ⟨k+1,by omega,by go_num,fun m hm=>?_,by trivial⟩;by_cases e:m=k
       ·subst e;exact HM.out
       ·exact HK.out m (by omega)
      case measure=>simp [intOf];omega
     ·have HY:Hid x.y.Marks:=⟨j,hlt,k,hkt,HM.out⟩
      clear HF HK;go_wp2;go_ret;exact ⟨qaf (qbl HY.out).symm,B0.1⟩
    ·have HNo:Hid (¬ hasM (x.wH j) (x.wL j)):=fun ⟨m,hm,h⟩=>by
      have:=HK.out m (by omega);rw [this] at h;cases h
     clear HK;go_wp2;go_roundw
     case rel=>
      refine ⟨j+1,by omega,by go_num,fun m hm=>?_,by trivial⟩;by_cases e:m=j
      ·subst e;exact HNo.out
      ·exact HF.out m (by omega)
     case measure=>simp [intOf];omega
  ·have HM:Hid (¬ x.y.Marks):=fun ⟨i,hi,k,hk,hm⟩=>HF.out i (by have:i<x.wn:=hi;omega) ⟨k,hk,hm⟩
   clear HF;go_wp2;go_ret;exact ⟨qaf (qak HM.out).symm,B0.1⟩
def ZiL (w:World) (a:Option Addr) (n:Nat) (h:Nat->Int):Prop:=n=0\/∃ b off,a=some ⟨b,off,none⟩/\b<w.heap.size/\ZAt w b off n h
def BiL (w:World) (a:Option Addr) (n:Nat) (h:Nat->Bool):Prop:=n=0\/∃ b off,a=some ⟨b,off,none⟩/\b<w.heap.size/\BlAt w b off n h
theorem ZiL.bw {w w':World} {a:Option Addr} {n:Nat} {h:Nat->Int} (o:ZiL w a n h) (hb:Below w.heap.size w w'):ZiL w' a n h:=by
 rcases o with h0 | ⟨b,off,e,hlt,hc⟩
 ·exact .inl h0
 ·exact .inr ⟨b,off,e,zL hlt hb.size,hc.bw hb hlt⟩
theorem BiL.bw {w w':World} {a:Option Addr} {n:Nat} {h:Nat->Bool} (o:BiL w a n h) (hb:Below w.heap.size w w'):BiL w' a n h:=by
 rcases o with h0 | ⟨b,off,e,hlt,hc⟩
 ·exact .inl h0
 ·exact .inr ⟨b,off,e,zL hlt hb.size,hc.bw hb hlt⟩
theorem ZiL.at {w:World} {a:Option Addr} {n:Nat} {h:Nat->Int} (o:ZiL w a n h) {i:Nat} (hi:i<n):∃ b off,a=some ⟨b,off,none⟩/\b<w.heap.size/\w.cell? ⟨b,off+i,none⟩=some (.int .i64 (h i)):=by
 rcases o with h0 | ⟨b,off,e,hlt,hc⟩
 ·omega
 ·exact ⟨b,off,e,hlt,hc i hi⟩
theorem BiL.at {w:World} {a:Option Addr} {n:Nat} {h:Nat->Bool} (o:BiL w a n h) {i:Nat} (hi:i<n):∃ b off,a=some ⟨b,off,none⟩/\b<w.heap.size/\w.cell? ⟨b,off+i,none⟩=some (.bool (h i)):=by
 rcases o with h0 | ⟨b,off,e,hlt,hc⟩
 ·omega
 ·exact ⟨b,off,e,hlt,hc i hi⟩
structure Sh where
 on:Bool
 cn:Nat
 cH:Nat->Int
 ol:Nat
 oH:Nat->Bool
 kn:Nat
 kL:Nat->Nat
 kH:Nat->Nat->Int
def ShIn.z (x:ShIn):Sh:=⟨x.on,x.cn,x.cH,x.ol,x.oH,x.kn,x.kL,x.kH⟩
structure ShG (w:World) (x:ShIn):Prop where
 c:ZiL w x.ca x.cn x.cH
 o:BiL w x.oa x.ol x.oH
 k:RowS w x.ka x.kn fun i=>.slice (x.kA i) (x.kL i) (x.kC i)
 l:∀ i,i<x.kn->ZiL w (x.kA i) (x.kL i) (x.kH i)
theorem ShG.bw {w w':World} {x:ShIn} (o:ShG w x) (hb:Below w.heap.size w w'):ShG w' x:=⟨o.c.bw hb,o.o.bw hb,o.k.bw hb,fun i hi=>(o.l i hi).bw hb⟩
theorem IsSh.g {w:World} {lo hi:Nat} {x:ShIn} {v:Value} (o:IsSh w lo hi x v):∃ x':ShIn,v=x'.v/\ShG w x'/\x'.z=x.z:=by
 obtain ⟨D1,D2,D3,bs,o⟩:=o;have l3:=o.kk.lt;have l4:=o.kk.le;have l1:=o.o1;have l2:=o.o2;refine ⟨⟨x.on,some ⟨D1,0,none⟩,x.cn,x.cn,x.cH,some ⟨D2,0,none⟩,x.ol,x.ol,x.oH,some ⟨D3,0,none⟩,x.kn,x.kn,fun i=>some ⟨bs i,0,none⟩,x.kL,x.kL,x.kH⟩,o.val,⟨.inr ⟨D1,0,rfl,by omega,o.cc⟩,.inr ⟨D2,0,rfl,by omega,o.oo⟩,.inr ⟨D3,0,rfl,by omega,fun i hi=>?_⟩,fun i hi=>.inr ⟨bs i,0,rfl,zL (o.kk.bd i hi).2 o.kk.le,o.kk.row i hi⟩⟩,rfl⟩;have:=o.kk.cel i hi;simpa using this
structure ShIn.Len (x:ShIn):Prop where
 c:x.cn<=1048576
 o:x.ol<=1048576
 k:x.kn<=1048576/\∀ i,i<x.kn->x.kL i<=1048576
theorem ShIn.len_of {x x':ShIn} (hs:x.size<=1048576) (hz:x'.z=x.z):x'.Len:=by
 have l:=ShIn.lens hs;have e1:x'.cn=x.cn:=congrArg Sh.cn hz;have e2:x'.ol=x.ol:=congrArg Sh.ol hz;have e3:x'.kn=x.kn:=congrArg Sh.kn hz;have e4:x'.kL=x.kL:=congrArg Sh.kL hz;refine ⟨by omega,by omega,by omega,fun i hi=>?_⟩;rw [e4];exact qc7 l.2.2.2 i (by omega)
structure LvG (w:World) (x:LvIn):Prop where
 s:SysG w x.s
 h:ShG w x.h
theorem LvG.bw {w w':World} {x:LvIn} (o:LvG w x) (hb:Below w.heap.size w w'):LvG w' x:=⟨o.s.bw hb,o.h.bw hb⟩
structure LvIn.Len (x:LvIn):Prop where
 s:x.s.Len
 h:x.h.Len
theorem qb1.g {w:World} {lo hi:Nat} {x:LvIn} {v:Value} (o:qb1 w lo hi x v):∃ x':LvIn,v=x'.v/\LvG w x'/\x'.s.y=x.s.y/\x'.h.z=x.h.z/\∀ i,i<x'.s.hn->x'.s.hL i<=x'.s.hC i:=by
 obtain ⟨D1,D2,D3,D4,E1,E2,E3,m,rfl,o1,o2⟩:=o;obtain ⟨x1,e1,g1,y1,c1⟩:=o1.g2;obtain ⟨x2,e2,g2,z2⟩:=o2.g;refine ⟨⟨x1,x2⟩,?_,⟨g1,g2⟩,y1,z2,c1⟩;simp only [SysIn.v,Value.agg.injEq,Array.mk.injEq,List.cons.injEq,and_true] at e1;simp only [ShIn.v,Value.agg.injEq,Array.mk.injEq,List.cons.injEq,and_true] at e2;show _=Value.agg #[.slice x1.pa x1.pn x1.pc,.slice x1.sa x1.sn x1.sc,.slice x1.wa x1.wn x1.wc,.slice x1.ha x1.hn x1.hc,.bool x2.on,.slice x2.ca x2.cn x2.cc,.slice x2.oa x2.ol x2.oc,.slice x2.ka x2.kn x2.kc];rw [e1.1,e1.2.1,e1.2.2.1,e1.2.2.2,e2.1,e2.2.1,e2.2.2.1,e2.2.2.2]
theorem LvIn.len_of {x x':LvIn} (hs:x.size<=1048576) (hy:x'.s.y=x.s.y) (hz:x'.h.z=x.h.z):x'.Len:=
 ⟨SysIn.len_of (show x.s.size<=1048576 by unfold LvIn.size at hs;omega) hy,ShIn.len_of (show x.h.size<=1048576 by unfold LvIn.size at hs;omega) hz⟩
def Sh.Fit (z:Sh) (y:Sy):Prop:=z.cn=y.pn/\z.ol=y.wn/\z.kn=y.wn
def Sh.DrOk (z:Sh) (y:Sy):Prop:=∀ p,p<z.cn -> -1<=z.cH p/\z.cH p<=y.hL p
def Sh.UnOk (z:Sh):Prop:=∀ i,i<z.ol->z.cH (i % z.cn) = -1->z.oH i=false/\z.kL i=0
def cntD (h:Nat->Int):Nat->Nat
 | 0=>0
 | n+1=>cntD h n+(if h n = -1 then 0 else 1)
theorem qpn (h:Nat->Int):∀ n,cntD h n<=n
 | 0=>nA _
 | n+1=>by
  have:=qpn h n;unfold cntD
  split <;> omega
theorem qrh (h:Nat->Int):∀ n,0<cntD h n ↔ ∃ p,p<n/\h p ≠ -1
 | 0=>by simp [cntD]
 | n+1=>by
  have ih:=qrh h n;constructor
  ·intro hp
   by_cases h1:0<cntD h n
   ·obtain ⟨p,hp,hq⟩:=ih.1 h1
    exact ⟨p,by omega,hq⟩
   ·unfold cntD at hp
    by_cases h2:h n = -1
    ·rw [nC h2] at hp
     omega
    ·exact ⟨n,by omega,h2⟩
  ·rintro ⟨p,hp,hq⟩
   unfold cntD;by_cases e:p=n
   ·subst e
    rw [nB hq];omega
   ·have:=ih.2 ⟨p,by omega,hq⟩
    omega
def Sh.Drawn (z:Sh):Prop:=0<cntD z.cH z.cn
structure LvOk (y:Sy) (z:Sh):Prop where
 s:y.okB=true
 f:z.Fit y
 d:z.DrOk y
 u:z.UnOk
 o:z.on=true ↔ z.Drawn
 m:z.on=true\/¬ y.Marks
