import Derived.Test.YtbgfjbgdiifghaaGreatDoorZn18
namespace Go.Proofs.YtbgfjbgdiifghaaGreatDoor
open Go.Proofs.Tryz
set_option maxRecDepth 100000
set_option maxHeartbeats 4000000
open Go.ChangeShapes Go.WideShapes Go.ChangeAt Go.RowKit Go.Deep Go.Sort
structure SysIn.One (x:SysIn) (p:Nat):Prop where
 pr:qaa (x.pH p) (x.pL p) x.pn=true
 st:x.StP p
 pe:∀ i,i<x.hL p->(x.hH p i).q<(x.pn:Int)
def SysIn.Two (x:SysIn) (a b:Nat):Prop:=WayP (x.wH (a*x.pn+b)) (x.wL (a*x.pn+b)) (valL (x.hH b) 3 a (x.hL b)) (valL (x.hH a) 2 b (x.hL a))
theorem qy7 {x:SysIn} (hc:(1<=x.pn/\x.pn<=4)/\x.sn=x.pn/\x.hn=x.pn/\x.wn=x.pn*x.pn) (h1:∀ p,p<x.pn->x.One p) (h2:∀ a,a<x.pn->∀ b,b<x.pn->x.Two a b) (h3:x.y.hs.Row):x.y.Ok:=
 ⟨hc,fun p hp=>(h1 p hp).pr,fun p hp=>(h1 p hp).st,fun p hp=>(h1 p hp).pe,h2,h3⟩
theorem qpx {x:SysIn} (h:x.y.Ok) {p:Nat} (hp:p<x.pn):x.One p:=⟨h.pr p hp,h.rp p hp,h.pe p hp⟩
theorem qww {x:SysIn} (h:x.y.Ok) {a b:Nat} (ha:a<x.pn) (hb:b<x.pn):x.Two a b:=h.wa a ha b hb
theorem qcs (x:SysIn) (w:World) (hG:SysG w x) (hL:x.Len) (hcap:∀ i,i<x.hn->x.hL i<=x.hC i):
  Calls prog 22 #[x.v] w (rB w (.bool x.y.okB)):=by
 have HG:Hid (SysG w x):=hG;have HL:Hid x.Len:=hL;have HCap:Hid (∀ i,i<x.hn->x.hL i<=x.hC i):=hcap;have hpn:(x.pn:Int)<=1048576:=by have:=hL.p.1;omega
 have hm0:0<=(x.pn:Int)*(x.pn:Int):=Int.mul_nonneg (by omega) (by omega)
 have hm1:(x.pn:Int)*(x.pn:Int)<=1099511627776:=by
  have:=Int.mul_le_mul hpn hpn (by omega) (by omega);omega
 have BA:Hid (Bw w (w.alloc (x.oX))):=zT _ _;have NB:Hid (x.bX (w.alloc (x.oX)) w.heap.size):=BoxC.new w _ _ _ _ _;clear hG hL hcap;by_cases hc:(1<=x.pn/\x.pn<=4)/\x.sn=x.pn/\x.hn=x.pn/\x.wn=x.pn*x.pn
 case neg=>
  have HN:Hid (x.y.okB=false):=Sy.okB_false fun h=>hc h.cn
  rcases zK (inB x.pn 1 4) with t1 | t1
  case inr=>
   clear hc
   go_enter func22,ntmps22
   go_wp2_with fail
   refine (l1In_any _ _ _ _).mono ?_;rintro e w1 ⟨rfl,rfl⟩;rw [t1];go_wp2;go_ret;rw [HN.out];exact ⟨rfl,BA.out⟩
  rcases zK ((x.sn:Int) != (x.pn:Int)) with t2 | t2
  case inl=>
   clear hc
   go_enter func22,ntmps22
   go_wp2_with fail
   refine (l1In_any _ _ _ _).mono ?_;rintro e w1 ⟨rfl,rfl⟩;rw [t1];go_wp2;go_ret;rw [HN.out];exact ⟨rfl,BA.out⟩
  rcases zK ((x.hn:Int) != (x.pn:Int)) with t3 | t3
  case inl=>
   clear hc
   go_enter func22,ntmps22
   go_wp2_with fail
   refine (l1In_any _ _ _ _).mono ?_;rintro e w1 ⟨rfl,rfl⟩;rw [t1];go_wp2;go_ret;rw [HN.out];exact ⟨rfl,BA.out⟩
  have t4:((x.wn:Int) != (x.pn:Int)*(x.pn:Int))=true:=by
   have t1':1<=(x.pn:Int)/\(x.pn:Int)<=4:=by simpa [inB] using t1
   have t2':(x.sn:Int)=x.pn:=by simpa using t2
   have t3':(x.hn:Int)=x.pn:=by simpa using t3
   have : ¬ (x.wn : Int) = (x.pn : Int) * (x.pn : Int) := fun e => hc ⟨⟨by omega, by omega⟩, by omega, by omega, by
    have:((x.wn:Nat):Int)=((x.pn*x.pn:Nat):Int):=by rw [e,Int.natCast_mul]
    omega⟩
   simpa using this
  clear hc
  go_enter func22,ntmps22
  go_wp2_with fail
  refine (l1In_any _ _ _ _).mono ?_;rintro e w1 ⟨rfl,rfl⟩;rw [t1];go_wp2;go_ret;rw [HN.out];exact ⟨rfl,BA.out⟩
 have t1:inB x.pn 1 4=true:=by simp [inB];omega
 have t2:((x.sn:Int) != (x.pn:Int))=false:=by simp [hc.2.1]
 have t3:((x.hn:Int) != (x.pn:Int))=false:=by simp [hc.2.2.1]
 have t4:((x.wn:Int) != (x.pn:Int)*(x.pn:Int))=false:=by rw [hc.2.2.2,Int.natCast_mul];simp
 have hp4:(x.pn:Int)<=4:=by omega
 have HC:Hid ((1<=x.pn/\x.pn<=4)/\x.sn=x.pn/\x.hn=x.pn/\x.wn=x.pn*x.pn):=hc;clear hc
 go_enter func22,ntmps22
 go_wp2_with fail
 refine (l1In_any _ _ _ _).mono ?_;rintro e w1 ⟨rfl,rfl⟩;rw [t1];go_wp2_with fail
 clear hm0 hm1 t1 t2 t3 t4 hpn;generalize w.alloc (x.oX)=wb at *
 go_loopw [4] (fun i wr=>∃ k:Nat,k<=x.pn/\i=.int .i64 k/\Hid (Bw wb wr/\∀ j,j<k->x.One j)) (fun i _=>x.pn - (intOf i).toNat)
 case atStart=>exact ⟨0,nD _,rfl,nE _ _,fun j hj=>by omega⟩
 case round=>
  obtain ⟨k,hk,rfl,HZ⟩:=hrel;have hbw:Bw w wr:=BA.trans (HZ.1.mono BA.size);have HBW:Hid (Bw w wr):=hbw;obtain ⟨b0,b1,b2,b3⟩:=NB.bw HZ.1;by_cases hlt:k<x.pn
  ·have hlt':(k:Int)<(x.pn:Int):=by omega
   obtain ⟨bp,op,ep,ck⟩:=(HG.bw hbw).p.at hlt;obtain ⟨b,eb,hbl,hI⟩:=(HG.bw hbw).pi k hlt;rw [eb] at ck;rw [ep] at b0;have HI:Hid (qaq wr b 0 (x.pL k) (x.pH k)):=hI
   have HM:Hid (x.pL k<=maxLen):=by
    show x.pL k<=maxLen;have:=HL.p.2 k hlt;unfold maxLen;omega
   clear hI hbw;go_wp2_with fail
   refine (qfa b 0 (x.pL k) _ (x.pH k) x.pn wr HM.out hbl HI.out).mono ?_;rintro e w2 ⟨rfl,c2⟩;have HZ2:Hid (Bw wb w2/\∀ j,j<k->x.One j):=⟨HZ.1.trans (c2.mono HZ.1.size),HZ.2⟩
   have HB2:Hid (Bw w w2):=HBW.trans (c2.mono HBW.size);clear b0 b1 b2 b3 ck c2 HZ HBW HI hbl
   rcases zK (qaa (x.pH k) (x.pL k) x.pn) with tp | tp
   case inr=>
    have HN:Hid (x.y.okB=false):=Sy.okB_false fun h=>by
     have:=(qpx h hlt).pr;rw [tp] at this;cases this
    rw [tp];go_wp2;go_ret;rw [HN.out];exact ⟨rfl,HB2.out⟩
   have TP:Hid (qaa (x.pH k) (x.pL k) x.pn=true):=tp;rw [tp];clear tp;have hkh:k<x.hn:=by have:=HC.out;omega
   have hks:k<x.sn:=by have:=HC.out;omega
   have hkh':(k:Int)<(x.hn:Int):=by omega
   have hks':(k:Int)<(x.sn:Int):=by omega
   obtain ⟨b0,b1,b2,b3⟩:=NB.bw HZ2.1;obtain ⟨bp',op',ep',ck⟩:=(HG.bw HB2.out).p.at hlt;obtain ⟨b',eb',hbl,hI⟩:=(HG.bw HB2.out).pi k hlt;obtain ⟨bh,oh,eh,ch⟩:=(HG.bw HB2.out).h.at hkh;rw [eb'] at ck;rw [ep'] at b0;rw [eh] at b3;have HI:Hid (∀ wx,Bw w2 wx->b'<wx.heap.size/\qaq wx b' 0 (x.pL k) (x.pH k)):=fun wx hb=>⟨zL hbl hb.size,hI.bw hb hbl⟩
   have HE:Hid (EvL w2 (x.hA k) (x.hL k) (x.hH k)):=(HG.bw HB2.out).hi k hkh;have HLk:Hid (x.hL k<=1048576):=HL.h.2 k hkh;generalize hR:resS (repO (x.pH k) (x.pL k) (x.hH k) (x.hL k))=R;generalize hT:(repO (x.pH k) (x.pL k) (x.hH k) (x.hL k)).isSome=T;have HO:Hid (resS (repO (x.pH k) (x.pL k) (x.hH k) (x.hL k))=R/\(repO (x.pH k) (x.pL k) (x.hH k) (x.hL k)).isSome=T):=⟨hR,hT⟩
   have hRl:=qpp (x.pH k) (x.pL k) (x.hH k) (x.hL k);rw [hR] at hRl;have HRL:Hid (R.rs.length<=1048576/\R.os.length<=1048576):=hRl;have d1:w2.heap.size≠w.heap.size:=by have:=zJ w2 _ b0;simp at this;omega
   have d2:w2.heap.size≠bp':=by have:=zJ w2 _ ck;simp at this;omega
   have d3:w2.heap.size≠bh:=by have:=zJ w2 _ ch;simp at this;omega
   clear hI hR hT hRl ep' eb' eh ep eb hbl;go_wp2_with fail
   go_cut [5,6] from 55 to 68 (fun s t wx=>∃ M:Nat,s=.pointer (some (aQ M 0))/\t=.bool T/\Hid (Bw w2 wx/\Told wx w2.heap.size M R))
   case first=>
    go_region_held3 (fun w'=>w'.cell? (aQ w.heap.size 0)=some (.slice (some (aQ bp' op')) x.pn x.pc)/\w'.cell? (aQ w.heap.size 3)=some (.slice (some (aQ bh oh)) x.hn x.hc)/\w'.cell? ⟨bp',op'+k,none⟩=some (.slice (some (aQ b' 0)) (x.pL k) (x.pC k))/\w'.cell? ⟨bh,oh+k,none⟩=some (.slice (x.hA k) (x.hL k) (x.hC k))) (go_keep)
     (first
      | (go_at_call 50;refine (qhf b' (x.pL k) _ (x.hA k) (x.hL k) _ (x.pH k) (x.hH k) _ HM.out (HI.out _ (by go_grown)).1 (HI.out _ (by go_grown)).2 (HE.bw (by go_grown)) HLk.out).mono ?_;rintro e w5 hd;rw [HO.1,HO.2] at hd;obtain ⟨v5,rfl,o5,b5⟩:=hd;obtain ⟨ra5,rc5,oa5,oc5,rfl,-,-⟩:=o5.read;have q5:Bw w2 w5:=qah (by go_grown) b5 (by simp);(try simp only [World.size_alloc,World.size_drew] at o5);have O5:Hid (qac w5 _ (stV R.p ra5 R.rs.length rc5 oa5 R.os.length oc5 R.c) R.p R.rs R.os R.c):=o5;obtain ⟨hc5,hf5⟩:=qal b5;have z5:=b5.size;(try simp only [World.size_alloc,World.size_drew,Nat.add_one_le_iff] at z5);have j5:w2.heap.size<=w5.heap.size:=q5.size;have Q5:Hid (Bw w2 w5):=q5;have y0:=(q5.cell (p:=(aQ w.heap.size 0)) (zJ w2 _ b0)).trans b0;have y3:=(q5.cell (p:=(aQ w.heap.size 3)) (zJ w2 _ b3)).trans b3;have yk:=(q5.cell (p:=⟨bp',op'+k,none⟩) (zJ w2 _ ck)).trans ck;have yh:=(q5.cell (p:=⟨bh,oh+k,none⟩) (zJ w2 _ ch)).trans ch;clear o5 b5 q5))
    all_goals
     go_wp2_with fail
     go_meet
     case rel=>
      first
      | (refine ⟨w5.heap.size, by with_reducible rfl, rfl, ?_⟩
         exact ⟨Q5.trans ((zT _ _).mono j5),Told.of_alloc O5.out (by omega) (by omega) _⟩)
      | (refine ⟨w2.heap.size, by with_reducible rfl, rfl, ?_⟩
         exact ⟨(((Q5.setCell (nA _) _).setCell (nA _) _).setCell (nA _) _).setCell (nA _) _,Told.of_put (z0:=iV 0) (z1:=nS) (z2:=nS) (z3:=iV 0) O5.out (by omega) (by omega) (by omega) ⟨by rw [hc5 _ _ (by simp)];simp,by rw [hc5 _ _ (by simp)];simp,by rw [hc5 _ _ (by simp)];simp,by rw [hc5 _ _ (by simp)];simp⟩⟩)
   case rest=>
    obtain ⟨M,rfl,rfl,HMt⟩:=hcut;obtain ⟨ra,rc,oa,oc,TG⟩:=HMt.2.tl;have HZ3:Hid (Bw wb wc/\∀ j,j<k->x.One j):=⟨HZ2.1.trans (HMt.1.mono HZ2.1.size),HZ2.2⟩
    have HB3:Hid (Bw w wc):=HB2.trans (HMt.1.mono HB2.size);have HS3:Hid (Sl wc ra R.rs/\Sl wc oa R.os):=TG.sl;have HBX:Hid (BoxC wc M (iV R.p) (.slice ra R.rs.length rc) (.slice oa R.os.length oc) (iV R.c)):=TG.box;clear b0 b1 b2 b3 ck ch d1 d2 d3 HI HE HLk HM HZ2 HB2 HMt TG
    rcases zK T with rfl | rfl
    case inr=>
     have HN:Hid (x.y.okB=false):=Sy.okB_false fun h=>by
      have h1:repO (x.pH k) (x.pL k) (x.hH k) (x.hL k)=some (x.sS k):=(qpx h hlt).st;have h2:=HO.2;rw [h1] at h2;cases h2
     go_wp2_with fail
     go_quiet (fail)
     go_wp2;go_ret;rw [HN.out];exact ⟨rfl,yC HB3.out _⟩
    case inl=>
     have HP:Hid (eqS R (x.sS k)=true ↔ x.StP k):=by
      show eqS R (x.sS k)=true ↔ x.StP k;rw [qrv];unfold SysIn.StP;cases hr:repO (x.pH k) (x.pL k) (x.hH k) (x.hL k) with
      | none=>have:=HO.2;rw [hr] at this;cases this
      | some S0=>
       have:=HO.1;rw [hr] at this;rw [show S0=R from this];exact ⟨fun e=>by rw [e],fun e=>Option.some.inj e⟩
     obtain ⟨k0,k1,k2,k3⟩:=HBX.out;obtain ⟨-,x1,-,-⟩:=NB.bw HZ3.1;obtain ⟨bs,os,es,s0,s1,s2,s3⟩:=(HG.bw HB3.out).s.at hks;rw [es] at x1;have HST:Hid (Sl wc (x.sQ k).ra (x.sQ k).rs/\Sl wc (x.sQ k).oa (x.sQ k).os):=(HG.bw HB3.out).s.lst k hks;have HSL:Hid ((x.sQ k).rs.length<=1048576/\(x.sQ k).os.length<=1048576):=HL.s.2 k hks;have k0':=cell_regrown k0;have k1':=cell_regrown k1;have k2':=cell_regrown k2;have k3':=cell_regrown k3;have x1':=cell_regrown x1;have s0':=cell_regrown s0;have s1':=cell_regrown s1;have s2':=cell_regrown s2;have s3':=cell_regrown s3;clear es
     have HCs:Hid (∀ d os',Calls prog 51 #[stV R.p ra R.rs.length rc oa R.os.length oc R.c,stV (x.sQ k).p (x.sQ k).ra (x.sQ k).rs.length (x.sQ k).rc (x.sQ k).oa (x.sQ k).os.length (x.sQ k).oc (x.sQ k).c] (grow (redrawn wc d) os') fun e w'=>e=.returned (.bool (eqS R (x.sS k)))/\Below (grow (redrawn wc d) os').heap.size (grow (redrawn wc d) os') w'):=fun d os'=>
      qgr R (x.sS k) _ _ _ _ _ _ _ _ _ HRL.1 HRL.2 HSL.1 HSL.2 (HS3.1.bw (below_regrown wc d os')) (HS3.2.bw (below_regrown wc d os')) (HST.1.bw (below_regrown wc d os')) (HST.2.bw (below_regrown wc d os'))
     go_wp2_with fail
     refine wp_region_quiet_below (by kernel_rfl) (by kernel_rfl) ?_
     repeat (quiet_step (first|(go_at_call 51;exact Calls.regrown_of (HCs.out _ _))))
     refine wpQuiet_nil ?_;intro _ hw';obtain ⟨⟨dq,osq⟩,hw''⟩:=hw';subst hw'';have HZ4:Hid (Bw wb (grow (redrawn wc dq) osq)/\∀ j,j<k->x.One j):=⟨HZ3.1.trans ((below_regrown wc dq osq).mono HZ3.1.size),HZ3.2⟩
     have HB4:Hid (Bw w (grow (redrawn wc dq) osq)):=HB3.trans ((below_regrown wc dq osq).mono HB3.size);generalize grow (redrawn wc dq) osq=w4 at *;clear k0' k1' k2' k3' x1' s0' s1' s2' s3' k0 k1 k2 k3 x1 s0 s1 s2 s3 HCs HZ3 HB3 HS3 HBX HST HSL
     rcases zK (eqS R (x.sS k)) with t | t
     case inr=>
      have HN:Hid (x.y.okB=false):=Sy.okB_false fun h=>by
       have:=HP.2 (qpx h hlt).st;rw [t] at this;cases this
      rw [t];clear t;go_wp2;go_ret;rw [HN.out];exact ⟨rfl,HB4.out⟩
     have HSt:Hid (x.StP k):=HP.1 t;rw [t];clear t;have hll:(x.hL k:Int)<=1048576:=by have:=HL.h.2 k hkh;omega
     go_wp2_with fail
     go_loopw [7] (fun i wr=>∃ j:Nat,j<=x.hL k/\i=.int .i64 j/\Hid (Bw wb wr/\∀ i,i<j->(x.hH k i).q<(x.pn:Int))) (fun i _=>x.hL k - (intOf i).toNat)
     case atStart=>exact ⟨0,nD _,rfl,HZ4.1,fun j hj=>by omega⟩
     case round=>
      obtain ⟨j,hj,rfl,HY⟩:=hrel;have HBj:Hid (Bw w wr):=BA.trans (HY.1.mono BA.size);obtain ⟨-,-,-,b3⟩:=NB.bw HY.1;obtain ⟨bh,oh,eh,ch⟩:=(HG.bw HBj.out).h.at hkh;rw [eh] at b3;clear eh;by_cases hjl:j<x.hL k
      ·have hjl':(j:Int)<(x.hL k:Int):=by omega
       obtain ⟨be,oe,ea,-,c0,c1,c2⟩:=((HG.bw HBj.out).hi k hkh).at hjl;rw [ea] at ch;by_cases hq:(x.hH k j).q<(x.pn:Int)
       ·have hq':¬ (x.pn:Int)<=(x.hH k j).q:=by omega
        have HY' : Hid (Below wb.heap.size wb wr ∧ ∀ i, i < j + 1 → (x.hH k i).q < (x.pn : Int)) := ⟨HY.1, fun i hi => by
         by_cases e:i=j
         ·subst e
          exact hq
         ·exact HY.2 i (by omega)⟩
        clear HY ea;go_wp2;go_roundw
        case rel=>exact ⟨j+1,by omega,by go_num,HY'.out⟩
        case measure=>simp [intOf];omega
       ·have hq':(x.pn:Int)<=(x.hH k j).q:=by omega
        have HN:Hid (x.y.okB=false):=Sy.okB_false fun h=>hq ((qpx h hlt).pe j hjl);clear HY ea;go_wp2;go_ret;rw [HN.out];exact ⟨rfl,HBj.out⟩
      ·have HZ5 : Hid (Below wb.heap.size wb wr ∧ ∀ p, p < k + 1 → x.One p) := ⟨HY.1, fun p hp => by
        by_cases e:p=k
        ·subst e
         exact ⟨TP.out,HSt.out,fun i hi=>HY.2 i (by omega)⟩
        ·exact HZ4.2 p (by omega)⟩
       have hjl':¬ (j:Int)<(x.hL k:Int):=by omega
       clear HY;go_wp2;go_roundw
       case rel=>exact ⟨k+1,by omega,by go_num,HZ5.out⟩
       case measure=>simp [intOf];omega
  ·have HOne:Hid (∀ p,p<x.pn->x.One p):=fun p hp=>HZ.2 p (by omega)
   have hkn:¬ (k:Int)<(x.pn:Int):=by omega
   have HW0:Hid (Bw wb wr):=HZ.1;clear HZ b0 b1 b2 b3 hbw HBW;go_wp2_with fail
   go_loopw [8] (fun i wr=>∃ a:Nat,a<=x.pn/\i=.int .i64 a/\Hid (Bw wb wr/\∀ a',a'<a->∀ b,b<x.pn->x.Two a' b)) (fun i _=>x.pn - (intOf i).toNat)
   case atStart=>exact ⟨0,nD _,rfl,HW0.out,fun j hj=>by omega⟩
   case round=>
    clear HW0;obtain ⟨a,ha,rfl,HX⟩:=hrel;by_cases hal:a<x.pn
    ·have hal':(a:Int)<(x.pn:Int):=by omega
     go_wp2_with fail
     go_loopw [9] (fun i wr=>∃ b:Nat,b<=x.pn/\i=.int .i64 b/\Hid (Bw wb wr/\∀ b',b'<b->x.Two a b')) (fun i _=>x.pn - (intOf i).toNat)
     case atStart=>exact ⟨0,nD _,rfl,HX.1,fun j hj=>by omega⟩
     case round=>
      obtain ⟨b,hb,rfl,HYb⟩:=hrel;by_cases hbl:b<x.pn
      ·have hbl':(b:Int)<(x.pn:Int):=by omega
       have hbh:b<x.hn:=by have:=HC.out;omega
       have hah:a<x.hn:=by have:=HC.out;omega
       have hbh':(b:Int)<(x.hn:Int):=by omega
       have hah':(a:Int)<(x.hn:Int):=by omega
       have HBb:Hid (Bw w wr):=BA.trans (HYb.1.mono BA.size);have HLb:Hid (x.hL b<=1048576/\x.hL a<=1048576):=⟨HL.h.2 b hbh,HL.h.2 a hah⟩
       obtain ⟨-,-,-,b3⟩:=NB.bw HYb.1;obtain ⟨bh,oh,eh,ch⟩:=(HG.bw HBb.out).h.at hbh;rw [eh] at b3;clear eh;go_wp2_with fail
       refine (qdc (x.hA b) (x.hL b) _ (x.hH b) 3 a wr HLb.1 ((HG.bw HBb.out).hi b hbh)).mono ?_;rintro e w5 ⟨v5,rfl,o5,c5⟩;obtain ⟨ta,tc,rfl,s5⟩:=o5.form;have HY5:Hid (Bw wb w5/\∀ b',b'<b->x.Two a b'):=⟨HYb.1.trans (c5.mono HYb.1.size),HYb.2⟩
       have HB5:Hid (Bw w w5):=HBb.trans (c5.mono HBb.size);have S5:Hid (Sl w5 ta (valL (x.hH b) 3 a (x.hL b))):=s5;clear o5 c5 s5 b3 ch HYb HBb;obtain ⟨-,-,-,b3⟩:=NB.bw HY5.1;obtain ⟨bh',oh',eh',ch'⟩:=(HG.bw HB5.out).h.at hah;rw [eh'] at b3;clear eh';go_wp2_with fail
       refine (qdc (x.hA a) (x.hL a) _ (x.hH a) 2 b w5 HLb.2 ((HG.bw HB5.out).hi a hah)).mono ?_;rintro e w6 ⟨v6,rfl,o6,c6⟩;obtain ⟨sa,sc,rfl,s6⟩:=o6.form;have HY6:Hid (Bw wb w6/\∀ b',b'<b->x.Two a b'):=⟨HY5.1.trans (c6.mono HY5.1.size),HY5.2⟩
       have HB6:Hid (Bw w w6):=HB5.trans (c6.mono HB5.size);have S6:Hid (Sl w6 ta (valL (x.hH b) 3 a (x.hL b))/\Sl w6 sa (valL (x.hH a) 2 b (x.hL a))):=⟨S5.bw c6,s6⟩
       have hJl:a*x.pn+b<x.wn:=by
        rw [HC.2.2.2];have:(a+1)*x.pn<=x.pn*x.pn:=Nat.mul_le_mul_right _ (by omega);rw [Nat.add_mul] at this;omega
       have hJe:(a:Int)*(x.pn:Int)+(b:Int)=((a*x.pn+b:Nat):Int):=by rw [Int.natCast_add,Int.natCast_mul]
       have hm0:0<=(a:Int)*(x.pn:Int):=Int.mul_nonneg (by omega) (by omega)
       have hm1:(a:Int)*(x.pn:Int)<=16:=by
        have:=Int.mul_le_mul (show (a:Int)<=4 by omega) hp4 (by omega) (by omega);omega
       have HT2:Hid ((LWay (x.wH (a*x.pn+b)) (x.wL (a*x.pn+b)) (valL (x.hH a) 2 b (x.hL a)) (valL (x.hH b) 3 a (x.hL b)).length/\∀ i,i<(valL (x.hH b) 3 a (x.hL b)).length->zi (valL (x.hH b) 3 a (x.hL b)) i=zi (valL (x.hH a) 2 b (x.hL a)) i) ↔ x.Two a b):=LWay.iff;have htl:(valL (x.hH b) 3 a (x.hL b)).length<=1048576:=zP (qgs ..) HLb.1;have hsl:(valL (x.hH a) 2 b (x.hL a)).length<=1048576:=zP (qgs ..) HLb.2;have htl':((valL (x.hH b) 3 a (x.hL b)).length:Int)<=1048576:=by omega
       generalize hJ:a*x.pn+b=J at *;have hJl':(J:Int)<(x.wn:Int):=by omega
       generalize valL (x.hH b) 3 a (x.hL b)=took at *;generalize valL (x.hH a) 2 b (x.hL a)=sent at *;have HIt:Hid (ItL w6 (x.wA J) (x.wL J) (x.wH J)):=(HG.bw HB6.out).wi J hJl;have HLJ:Hid (x.wL J<=1048576):=HL.w.2 J hJl;clear o6 c6 s6 b3 ch' HY5 HB5 S5 hJ;obtain ⟨-,-,b2,-⟩:=NB.bw HY6.1;obtain ⟨bw,ow,ew,cw⟩:=(HG.bw HB6.out).w.at hJl;rw [ew] at b2;clear ew;go_wp2_with fail
       refine (qsl (x.wA J) (x.wL J) _ (x.wH J) sa sc sent took.length w6 HLJ.out HIt.out hsl S6.2 htl).mono ?_;rintro e w7 ⟨rfl,c7⟩;have HY7:Hid (Bw wb w7/\∀ b',b'<b->x.Two a b'):=⟨HY6.1.trans (c7.mono HY6.1.size),HY6.2⟩
       have HB7:Hid (Bw w w7):=HB6.trans (c7.mono HB6.size);have S7:Hid (Sl w7 ta took/\Sl w7 sa sent):=⟨S6.1.bw c7,S6.2.bw c7⟩
       clear c7 b2 cw HY6 HB6 S6 hm0 hm1 hJe;by_cases hlw:LWay (x.wH J) (x.wL J) sent took.length
       case neg=>
        have HN:Hid (x.y.okB=false):=Sy.okB_false fun h=>hlw (HT2.2 (qww h hal hbl)).1;rw [qcg hlw];clear hlw;go_wp2;go_ret;rw [HN.out];exact ⟨rfl,HB7.out⟩
       have HLW:Hid (LWay (x.wH J) (x.wL J) sent took.length):=hlw;rw [qgm hlw];clear hlw;go_wp2_with fail
       go_loopw [12] (fun i wr=>∃ j:Nat,j<=took.length/\i=.int .i64 j/\Hid (Bw w7 wr/\∀ i,i<j->zi took i=zi sent i)) (fun i _=>took.length - (intOf i).toNat)
       case atStart=>exact ⟨0,nD _,rfl,nE _ _,fun j hj=>by omega⟩
       case round=>
        obtain ⟨j,hj,rfl,HQ⟩:=hrel;have HBq:Hid (Bw w wr/\Bw wb wr):=⟨HB7.trans (HQ.1.mono HB7.size),HY7.1.trans (HQ.1.mono HY7.1.size)⟩
        by_cases hjl:j<took.length
        ·have hjs:j<sent.length:=by have:=HLW.ln;omega
         obtain ⟨bq,oq,rfl,zq,cq⟩:=(S7.1.bw HQ.1).at hjl;obtain ⟨br,or',rfl,zr,cr⟩:=(S7.2.bw HQ.1).at hjs;have hjl':(j:Int)<(took.length:Int):=by omega
         have hjs':(j:Int)<(sent.length:Int):=by omega
         rcases zK (zi took j != zi sent j) with t6 | t6
         ·have HN:Hid (x.y.okB=false):=Sy.okB_false fun h=>by
           have:=(HT2.2 (qww h hal hbl)).2 j hjl;rw [this] at t6;simp at t6
          clear HQ;go_wp2_with fail
          go_quiet (fail)
          go_wp2;go_ret;rw [HN.out];exact ⟨rfl,yC HBq.1 _⟩
         ·have HQ' : ∀ nq, Hid (Below w7.heap.size w7 (wr.drewN nq) ∧ ∀ i, i < j + 1 → zi took i = zi sent i) := fun nq => ⟨yC HQ.1 _, fun i hi => by
           by_cases e:i=j
           ·subst e
            simpa using t6
           ·exact HQ.2 i (by omega)⟩
          have HQQ:Hid (∀ nq,Hid (Bw w7 (wr.drewN nq)/\∀ i,i<j+1->zi took i=zi sent i)):=HQ';clear HQ HQ';go_wp2_with fail
          go_quiet (fail)
          go_wp2;go_roundw
          case rel=>exact ⟨j+1,by omega,by go_num,HQQ.out _⟩
          case measure=>simp [intOf];omega
        ·have hjl':¬ (j:Int)<(took.length:Int):=by omega
         have HYn : Hid (Below wb.heap.size wb wr ∧ ∀ b', b' < b + 1 → x.Two a b') := ⟨HBq.2, fun b' hb' => by
          by_cases e:b'=b
          ·subst e
           exact HT2.1 ⟨HLW.out,fun i hi=>HQ.2 i (by omega)⟩
          ·exact HY7.2 b' (by omega)⟩
         clear HQ;go_wp2;go_roundw
         case rel=>exact ⟨b+1,by omega,by go_num,HYn.out⟩
         case measure=>simp [intOf];omega
      ·have HX' : Hid (Below wb.heap.size wb wr ∧ ∀ a', a' < a + 1 → ∀ b, b < x.pn → x.Two a' b) := ⟨HYb.1, fun a' ha' b' hb' => by
        by_cases e:a'=a
        ·subst e
         exact HYb.2 b' (by omega)
        ·exact HX.2 a' (by omega) b' hb'⟩
       have hbl':¬ (b:Int)<(x.pn:Int):=by omega
       clear HYb HX;go_wp2;go_roundw
       case rel=>exact ⟨a+1,by omega,by go_num,HX'.out⟩
       case measure=>simp [intOf];omega
    ·have HTwo:Hid (∀ a,a<x.pn->∀ b,b<x.pn->x.Two a b):=fun a' ha' b hb=>HX.2 a' (by omega) b hb
     have hal':¬ (a:Int)<(x.pn:Int):=by omega
     have HBf:Hid (Bw w wr):=BA.trans (HX.1.mono BA.size);obtain ⟨b0,b1,b2,b3⟩:=NB.bw HX.1;have HPe:Hid x.y.hs.Peers:=fun p hp i hi=>⟨qko (qbh (HOne.out p hp).st).2.2 i hi,(HOne.out p hp).pe i hi⟩
     have e4:x.hn=x.pn:=HC.2.2.1;have H2:Hid (∀ i,i<x.y.hs.n->x.y.hs.l i<=200):=fun p hp=>(qbh (HOne.out p hp).st).2.1;have HCp:Hid (∀ i,i<x.y.hs.n->x.y.hs.l i<=x.hC i):=fun p hp=>HCap.out p (by rw [e4];exact hp);have HHE:Hid (HisE wr x.ha x.hA x.hC x.y.hs):=(HG.bw HBf.out).his e4;have HE4:Hid (x.hn=x.pn):=e4;clear HX e4;rw [HE4.out] at b3;go_wp2_with fail
     refine (qn4 x.pa x.pn x.pc x.sa x.sn x.sc x.wa x.wn x.wc x.ha x.hc x.hA x.hC x.y.hs wr HHE.out HCp.out HC.1.1 HC.1.2 HPe.out H2.out).mono ?_;rintro e w9 ⟨rfl,b9⟩
     have HN:Hid (qB x.y.hs.Row=x.y.okB):=by
      show qB x.y.hs.Row=x.y.okB;by_cases hr:x.y.hs.Row
      ·rw [qa5 hr,Sy.okB_true (qy7 HC.out HOne.out HTwo.out hr)]
      ·rw [qax hr,Sy.okB_false fun h=>hr h.ro]
     have B9:Hid (Bw w w9):=HBf.trans (b9.mono HBf.size);rw [HN.out];clear b9 HN b0 b1 b2 b3;go_wp2;go_ret;exact ⟨rfl,B9.out⟩
theorem LL.ext {z:Bool} {e:TypeId} {sz:Nat} {E:TypeId} {w:World} {P:Nat->Prop} {v:Value} {n:Nat} {u:Nat->Value} {L L':Nat->Nat} {c c':Nat->List Value} (o:LL z e sz E w P v n u L c) (h:∀ i,i<n->L' i=L i/\c' i=c i):LL z e sz E w P v n u L' c':=
 ⟨o.row,fun i hi=>(by rw [(h i hi).1,(h i hi).2];exact o.own i hi),o.rb,o.ob,o.ra,o.oa,o.nn⟩
theorem Lst.known {w:World} {B n:Nat} {v:Value} (h:Lst w B v n):∃ G,w.ownsRow B 45 5 v n (fI G n):=by
 obtain ⟨xs,ho,hx⟩:=h;have hall:=List.all_eq_true.1 hx
 have key:∀ j,j<n*5->∃ x:Int,xs[j]? = some (iV x):=by
  intro j hj;have hl:j<xs.length:=by rw [ho.1];exact hj
  obtain ⟨x,hxx⟩:=qsf (hall xs[j] (List.getElem_mem hl));exact ⟨x,by rw [List.getElem?_eq_getElem hl,hxx]⟩
 have inh:Inhabited Int:=⟨0⟩
 obtain ⟨f,hf⟩:=Go.Deep.choose_lt (α:=Int) key;refine ⟨fun i=>⟨f (i*5),f (i*5+1),f (i*5+2),f (i*5+3),f (i*5+4)⟩,?_⟩
 have e:xs=fI (fun i=>⟨f (i*5),f (i*5+1),f (i*5+2),f (i*5+3),f (i*5+4)⟩) n:=by
  refine List.ext_getElem? fun k=>?_;have hl2:=qr0 (fun i=>⟨f (i*5),f (i*5+1),f (i*5+2),f (i*5+3),f (i*5+4)⟩) n;by_cases hk:k<n*5
  ·have hfl:=qdp (f:=fun i=>cI ⟨f (i*5),f (i*5+1),f (i*5+2),f (i*5+3),f (i*5+4)⟩) (sz:=5) (n:=n) (fun _ _=>rfl) (i:=k / 5) (j:=k % 5) (by omega) (by omega)
   have hkk:k / 5*5+k % 5=k:=by omega
   rw [hkk] at hfl;rw [hf k hk];refine Eq.trans ?_ hfl.symm;have hm:k % 5=0\/k % 5=1\/k % 5=2\/k % 5=3\/k % 5=4:=by omega
   rcases hm with m | m | m | m | m
   ·rw [m];rw [m] at hkk;simp only [cI];rw [show k / 5*5=k by omega];rfl
   ·rw [m];rw [m] at hkk;simp only [cI];rw [show k / 5*5+1=k by omega];rfl
   ·rw [m];rw [m] at hkk;simp only [cI];rw [show k / 5*5+2=k by omega];rfl
   ·rw [m];rw [m] at hkk;simp only [cI];rw [show k / 5*5+3=k by omega];rfl
   ·rw [m];rw [m] at hkk;simp only [cI];rw [show k / 5*5+4=k by omega];rfl
  ·rw [List.getElem?_eq_none (by rw [ho.1];omega),List.getElem?_eq_none (by rw [hl2];omega)]
 rw [<- e];exact ho
theorem ql7 (a b:Int) (w:World):Calls prog 36 #[iV a,iV b] w fun e w'=>∃ z:Int,e=.returned (iV z)/\(a<=z/\b<=z/\(z=a\/z=b))/\w'=w:=by
 by_cases t:b<a
 ·go_enter func36,ntmps36
  go_wp2;go_ret;exact ⟨_,rfl,by omega,rfl⟩
 ·go_enter func36,ntmps36
  go_wp2;go_ret;exact ⟨_,rfl,by omega,rfl⟩
def tkC (x:SysIn) (p:Nat) (f:Int):Int:=if belB f x.pn=true then (if x.wL (f.toNat*x.pn+p)=0 then 3 else if (x.wH (f.toNat*x.pn+p) 0).m=true then 5 else 0) else 2
def fuB (x:SysIn) (p:Nat) (k q:Int):Bool:=decide (200<=x.hL p) || (k == 2 && decide (12<=x.wL (p*x.pn+q.toNat)))
def SysIn.nk (x:SysIn) (p:Nat):Int:=nxK (x.pH p) (x.pL p) (x.sQ p).p (x.sQ p).rs (x.sQ p).os (x.sQ p).c
def SysIn.nq (x:SysIn) (p:Nat):Int:=nxP (x.pH p) (x.pL p) (x.sQ p).p (x.sQ p).rs (x.sQ p).os (x.sQ p).c
def SysIn.nv (x:SysIn) (p:Nat):Int:=nxW (x.pH p) (x.pL p) (x.sQ p).p (x.sQ p).rs (x.sQ p).os (x.sQ p).c
def cmC (x:SysIn) (p:Nat) (f:Int):Int:=if (x.sQ p).c≠0 then 6 else if fuB x p (x.nk p) (x.nq p)=true then 4 else if x.nk p=3 then tkC x p (if x.nq p=9 then f else x.nq p) else 0
theorem qzi (x:SysIn) (p:Nat) (f:Int):cmC x p f=cmS x.y p f:=rfl
def pkI (h:Nat->I5):Nat->List Int
 | 0=>[]
 | n+1=>pkI h n ++ [(h n).o,(h n).r,(h n).a,(h n).b,(h n).n]
def pkE (h:Nat->E3):Nat->List Int
 | 0=>[]
 | n+1=>pkE h n ++ [(h n).k,(h n).q,(h n).v]
def pkP (y:Sy) (p:Nat):List Int:=(((y.pL p:Nat):Int) :: pkI (y.pH p) (y.pL p)) ++ (((y.hL p:Nat):Int) :: pkE (y.hH p) (y.hL p))
def pkN (y:Sy):Nat->List Int
 | 0=>[(y.pn:Int)]
 | p+1=>pkN y p ++ pkP y p
def byL (xs:List Int):List Int:=xs.flatMap puL
theorem qi4 (xs ys:List Int):byL (xs ++ ys)=byL xs ++ byL ys:=List.flatMap_append
theorem qc5 (x:Int) (xs:List Int):byL (x :: xs)=puL x ++ byL xs:=rfl
theorem qgd (x:Int):byL [x]=puL x:=by rw [qc5];exact List.append_nil _
theorem qgc:∀ xs:List Int,(byL xs).length<=5*xs.length
 | []=>by simp [byL]
 | x :: xs=>by
  have h1:=qgc xs;have h2:=qil x;rw [qc5,List.length_append,List.length_cons];omega
theorem qjl (xs:List Int) (k:Nat) (h:k<xs.length):byL (xs.take (k+1))=byL (xs.take k) ++ puL (zi xs k):=by
 have hz:zi xs k=xs[k]:=by
  unfold zi;rw [List.getD_eq_getElem?_getD,List.getElem?_eq_getElem h];rfl
 rw [List.take_succ_eq_append_getElem h,qi4,qgd,hz]
theorem qcl (h:Nat->I5):∀ n,(pkI h n).length=5*n
 | 0=>rfl
 | n+1=>by
  rw [pkI,List.length_append,qcl h n];simp;omega
theorem qd8 (h:Nat->E3):∀ n,(pkE h n).length=3*n
 | 0=>rfl
 | n+1=>by
  rw [pkE,List.length_append,qd8 h n];simp;omega
theorem qkf (y:Sy) (p:Nat):(pkP y p).length=2+5*y.pL p+3*y.hL p:=by
 unfold pkP;rw [List.length_append,List.length_cons,List.length_cons,qcl,qd8];omega
theorem qs3 (y:Sy) (K:Nat) (hK:∀ p,p<K->y.pL p<=30/\y.hL p<=200):∀ n,n<=K->(pkN y n).length<=1+752*n
 | 0,_=>by simp [pkN]
 | n+1,h=>by
  have h1:=qs3 y K hK n (by omega);have h2:=hK n (by omega);rw [pkN,List.length_append,qkf];omega
theorem qid (a0:Option Addr) (cap:Nat) (xs:List Int) (w:World) (hlen:xs.length<=1000) (hc:Sl w a0 xs):
  Calls prog 25 #[.slice a0 xs.length cap] w fun e w'=>∃ v,e=.returned v/\OwnB w' w.heap.size v (byL xs)/\Bw w w':=by
 have hl':(xs.length:Int)<=1000:=by omega
 have HC:Hid (Sl w a0 xs):=hc;clear hc
 go_enter func25,ntmps25
 go_wp2_with fail
 go_loopw [3,4] (fun o i wr=>∃ k:Nat,k<=xs.length/\i=.int .i64 (k:Int)/\Hid (OwnB wr w.heap.size o (byL (xs.take k)))/\Bw w wr) (fun _ i _=>xs.length - (intOf i).toNat)
 case atStart=>exact ⟨0,nD _,rfl,qcv w,(nE _ _).alloc (nA _) _⟩
 case round=>
  obtain ⟨k,hk,rfl,HO,hbw⟩:=hrel;have hs:=hbw.size;by_cases hlt:k<xs.length
  ·have hlt':(k:Int)<(xs.length:Int):=by omega
   obtain ⟨b,off,rfl,hbl,ck⟩:=(HC.bw hbw).at hlt
   have HL:Hid ((byL (xs.take k)).length<=5000):=by
    have:=qgc (xs.take k);rw [List.length_take] at this;show (byL (xs.take k)).length<=5000;omega
   go_wp2_with fail
   refine (qbi (zi xs k) wr).mono ?_;rintro e w1 ⟨u1,rfl,o1,b1⟩;obtain ⟨ap,cp,rfl,sp⟩:=o1.form;have hs1:=b1.size;have hbw1:Bw w w1:=hbw.trans (b1.mono hs);have O1:Hid (OwnB w1 w.heap.size u3 (byL (xs.take k))):=HO.bw b1;have LT:Hid (∀ j,(u3).ownBlock=some j->w.heap.size<=j):=fun j hj=>(HO.lt j hj).1;have SP:Hid (SlB w1 ap (puL (zi xs k))):=sp;have hpl:=qil (zi xs k);clear o1 sp HO;go_wp2_with (at_builtin;refine qbe w1 rfl _ _ rfl w.heap.size cp u3 ap (byL (xs.take k)) (puL (zi xs k)) rfl rfl O1.out SP.out (by have:=HL.out;omega) (by omega) ?_;intro v' w4 o4 g4 _;have H4:Hid (OwnB w4 w.heap.size v' (byL (xs.take (k+1)))):=o4.to (qjl xs k hlt);have B4:Hid (Below w.heap.size w1 w4):=Below.grown (nE _ _) g4 (by omega) LT.out;clear o4 g4)
   go_roundw
   case rel=>exact ⟨k+1,by omega,by go_num,H4.out,hbw1.trans B4.out⟩
   case measure=>simp [intOf];omega
  ·have H4:Hid (OwnB wr w.heap.size u3 (byL xs)):=by
    have:=HO.out
    rwa [List.take_of_length_le (by omega)] at this
   clear HO;go_wp2;go_ret;exact ⟨_,rfl,H4.out,hbw⟩
section
variable {P:Program} {ops:Array Oper} {Q:Exit->Act->World->Prop} {md:Region.Mode} {S:World->Prop} {G:Nat->Bool}
theorem qud (lst:Bool->Bool->Bool->Bool->Array Bool) (i2 i3 i4 i5:Nat) {o5:Oper} (I:Bool->Bool->Bool->Act->World->Prop) (J:Bool->Act->World->Prop) {f0:Nat}
  (hrd:∀ b c d,(b && c)=false->Region.ready md ops (lst b c d false)=outI b i2 ++ (outI c i3 ++ outI d i4))
  (s2:∀ c d,(lst false c d false).setIfInBounds i2 true=lst true c d false) (s3:∀ b d,(lst b false d false).setIfInBounds i3 true=lst b true d false) (s4:∀ b c e,(lst b c false e).setIfInBounds i4 true=lst b c true e) (s5:∀ d,(lst true true d false).setIfInBounds i5 true=lst true true d true)
  (e5:ops.toList[i5]? = some o5) (hs:Region.noSelect ops=true) (hf:∀ d,Region.free md ops (lst true true d false) i5=true) (hr5:∀ d,(Region.ready md ops (lst true true d false)).contains i5=true) (hrJ:Region.ready md ops (lst true true false true)=[i4]) (hQ:∀ v c a w,Q (.panic c) (a.put o5.dst v) w->Q (.panic c) a w)
  (h2:∀ c d x w,I false c d x w->wpOp P ops Q i2 (fun x' w'=>(S w->G i2=false->S w')/\I true c d x' w') x w)
  (h3:∀ b d x w,I b false d x w->wpOp P ops Q i3 (fun x' w'=>(S w->G i3=false->S w')/\I b true d x' w') x w) (h4:∀ b c x w,I b c false x w->wpOp P ops Q i4 (fun x' w'=>(S w->G i4=false->S w')/\I b c true x' w') x w)
  (h5:∀ d x w,I true true d x w->Region.wanted o5 (yielded ops x.tmps)=true/\∃ v,(∀ w,(execOp x.eval o5).run P w=.ok (.value v) w)/\J d (x.put o5.dst v) w)
  (hJ:∀ x w,J false x w->wpOp P ops Q i4 (fun x' w'=>(S w->G i4=false->S w')/\J true x' w') x w)
  (hend:∀ x w,J true x w->wpG P md ops Q S G f0 (lst true true true true) x w):
  ∀ (m:Nat) (b c d:Bool) (x:Act) (w:World),notB b+notB c+notB d=m->I b c d x w->wpG P md ops Q S G (f0+m+1) (lst b c d false) x w:=by
 intro m
 induction m with
 | zero=>
  intro b c d x w hm hI
  obtain ⟨rfl,rfl,rfl⟩:b=true/\c=true/\d=true:=by
   cases b <;> cases c <;> cases d <;> simp [notB] at hm ⊢
  obtain ⟨hw,v,hv,hj⟩:=h5 _ x w hI;exact qem i5 e5 hs (hf _) (hr5 _) hQ hw ⟨v,hv,by rw [s5];exact hend _ _ hj⟩
 | succ m ih=>
  intro b c d x w hm hI
  rcases zK (b && c) with hT | hne
  ·obtain ⟨rfl,rfl⟩:b=true/\c=true:=by
    cases b <;> cases c <;> simp at hT ⊢
   obtain ⟨rfl,rfl⟩:d=false/\m=0:=by
    cases d <;> simp [notB] at hm ⊢ <;> exact hm
   obtain ⟨hw,v,hv,hj⟩:=h5 _ x w hI;refine qem i5 e5 hs (hf _) (hr5 _) hQ hw ⟨v,hv,?_⟩;rw [s5];refine ⟨(fun h0=>by rw [hrJ] at h0;cases h0),fun i hi=>?_⟩;rw [hrJ] at hi;obtain rfl:=List.mem_singleton.1 hi;refine wpOp_mono (fun x' w' h=>⟨h.1,?_⟩) (hJ _ _ hj);rw [s4];exact hend _ _ h.2
  have hr:=hrd b c d hne;refine ⟨fun h0=>?_,fun i hi=>?_⟩
  ·rw [hr] at h0
   cases b <;> cases c <;> cases d <;> simp [outI] at h0 hne
  ·rw [hr,List.mem_append,List.mem_append] at hi
   rcases hi with hi | hi | hi
   ·obtain ⟨rfl,rfl⟩:=qdu hi
    refine wpOp_mono (fun x' w' h=>⟨h.1,?_⟩) (h2 c d x w hI);rw [s2];exact ih true c d x' w' (by simp [notB] at hm ⊢;omega) h.2
   ·obtain ⟨rfl,rfl⟩:=qdu hi
    refine wpOp_mono (fun x' w' h=>⟨h.1,?_⟩) (h3 b d x w hI);rw [s3];exact ih b true d x' w' (by simp [notB] at hm ⊢;omega) h.2
   ·obtain ⟨rfl,rfl⟩:=qdu hi
    refine wpOp_mono (fun x' w' h=>⟨h.1,?_⟩) (h4 b c x w hI);rw [s4];exact ih b c true x' w' (by simp [notB] at hm ⊢;omega) h.2
end
