import Derived.Test.YtpehpclhdgpjkaaGreatDoorXe0
import Derived.Test.YtpehpclhdgpjkaaGreatDoorXe18
import Derived.Test.YtpehpclhdgpjkaaGreatDoorXe19
import Derived.Test.YtpehpclhdgpjkaaGreatDoorXe12
import Derived.Lib.QuietBelow
import Derived.Test.YtpehpclhdgpjkaaGreatDoorXe11
import Derived.Test.YtpehpclhdgpjkaaGreatDoorXe10
import Derived.Laws.BitsLemmas
namespace Go.Proofs.YtpehpclhdgpjkaaGreatDoor
set_option maxRecDepth 100000
set_option maxHeartbeats 4000000
open Go.ChangeShapes Go.WideShapes Go.ChangeAt Go.RowKit Go.Deep Go.Sort
theorem itemOk_any (m:Bool) (v:Int) (w:World):
  Calls Tryz.prog 117 #[itV m v] w fun e w'=>e=.returned (.bool (itemB ⟨m,v⟩))/\Below w.heap.size w w':=by
 rcases zK m with rfl | rfl
 ·have HE:Hid (itemB ⟨true,v⟩=(v == 0)):=by
   show itemB ⟨true,v⟩=(v == 0)
   simp only [itemB,Bool.not_true,Bool.false_or]
   by_cases e:v=0
   ·subst e
    rfl
   ·have:(v == 0)=false:=by simpa using e
    rw [this,Bool.and_false]
  go_enter Tryz.func117,Tryz.ntmps117
  go_wp2
  go_ret
  rw [HE.out]
  exact ⟨rfl,by go_grown⟩
 ·have HE:Hid (itemB ⟨false,v⟩=inB v (-1000000000) 1000000000):=by
   show itemB ⟨false,v⟩=inB v (-1000000000) 1000000000
   simp [itemB,numB]
  go_enter Tryz.func117,Tryz.ntmps117
  go_wp2_with fail
  refine (isNum_any _ _).mono ?_
  rintro e w1 ⟨rfl,rfl⟩
  go_wp2
  go_ret
  rw [HE.out]
  exact ⟨rfl,by go_grown⟩
def itemsB (h:Nat->I2) (n:Nat):Bool:=(List.range n).all fun i=>itemB (h i)
theorem itemsB_iff {h:Nat->I2} {n:Nat}:itemsB h n=true ↔ ∀ i,i<n->itemB (h i)=true:=by
 simp [itemsB]
theorem itemsB_no {h:Nat->I2} {n k:Nat} (hk:k<n) (hf:itemB (h k)=false):itemsB h n=false:=by
 rcases zK (itemsB h n) with t | t
 ·have:=itemsB_iff.1 t k hk
  rw [hf] at this
  cases this
 ·exact t
theorem wayOk_any (a:Option Addr) (len cap:Nat) (h:Nat->I2) (w:World) (hlen:len<=1048576) (hc:ItL w a len h):
  Calls Tryz.prog 87 #[.slice a len cap] w fun e w'=>e=.returned (.bool (decide (len<=12) && itemsB h len))/\Below w.heap.size w w':=by
 have hl':(len:Int)<=1048576:=by omega
 have HC:Hid (ItL w a len h):=hc
 clear hc
 by_cases h12:len<=12
 case neg=>
  have h12':(12:Int)<(len:Int):=by omega
  have HE:Hid ((decide (len<=12) && itemsB h len)=false):=by
   show (decide (len<=12) && itemsB h len)=false
   simp [h12]
  go_enter Tryz.func87,Tryz.ntmps87
  go_wp2
  go_ret
  rw [HE.out]
  exact ⟨rfl,Below.refl _ _⟩
 have h12':¬ (12:Int)<(len:Int):=by omega
 have HE:Hid ((decide (len<=12) && itemsB h len)=itemsB h len):=by
  show (decide (len<=12) && itemsB h len)=itemsB h len
  simp [h12]
 clear h12
 go_enter Tryz.func87,Tryz.ntmps87
 go_wp2_with fail
 go_loopw [10] (fun i wr=>∃ k:Nat,k<=len/\i=.int .i64 k/\Below w.heap.size w wr/\Hid (∀ j,j<k->itemB (h j)=true)) (fun i _=>len - (intOf i).toNat)
 case atStart=>exact ⟨0,Nat.zero_le _,rfl,Below.refl _ _,fun j hj=>by omega⟩
 case round=>
  obtain ⟨k,hk,rfl,hbw,HZ⟩:=hrel
  by_cases hlt:k<len
  ·have hlt':(k:Int)<(len:Int):=by omega
   obtain ⟨b,off,rfl,-,c0,c1⟩:=(HC.out.below hbw).at hlt
   go_wp2_with fail
   refine (itemOk_any _ _ _).mono ?_
   rintro e w1 ⟨rfl,b1⟩
   have B1:Hid (Below w.heap.size w w1):=hbw.trans (((zS wr _).trans (b1.mono (by simp))).mono hbw.size)
   clear b1
   rcases zK (itemB (h k)) with t | t
   ·have HZ':Hid (∀ j,j<k+1->itemB (h j)=true):=fun j hj=>by
     by_cases e:j=k
     ·subst e
      exact t
     ·exact HZ.out j (by omega)
    rw [show itemB { m:=(h k).m,v:=(h k).v }=true from t]
    clear HZ t
    go_wp2
    go_roundw
    case rel=>exact ⟨k+1,by omega,by go_num,B1.out,HZ'.out⟩
    case measure=>simp [intOf];omega
   ·have HN:Hid (itemsB h len=false):=itemsB_no hlt t
    rw [show itemB { m:=(h k).m,v:=(h k).v }=false from t]
    clear HZ t
    go_wp2
    go_ret
    rw [HE.out,HN.out]
    exact ⟨rfl,B1.out⟩
  ·have HN:Hid (itemsB h len=true):=itemsB_iff.2 fun j hj=>HZ.out j (by omega)
   clear HZ
   go_wp2
   go_ret
   rw [HE.out,HN.out]
   exact ⟨rfl,hbw⟩
theorem sumL_all {d l:Nat->Nat} (h:∀ i,d i<=l i) (n:Nat) (e:sumL d n=sumL l n) (p:Nat) (hp:p<n):d p=l p:=by
 induction n with
 | zero=>omega
 | succ n ih=>
  have h1:=sumL_le h n
  have h2:=h n
  have e':sumL d n+d n=sumL l n+l n:=e
  by_cases hpn:p=n
  ·subst hpn
   omega
  ·exact ih (by omega) (by omega)
structure OrdB (w:World) (D n:Nat) (d:Nat->Nat):Prop where
 c:∀ i,i<n->w.cell? ⟨D,i,none⟩=some (.int .i64 (d i))
 fr:∀ j,w.frozen? ⟨D,j,none⟩=false
theorem OrdB.blk {w w':World} {D n:Nat} {d:Nat->Nat} (h:OrdB w D n d) (hb:w'.heap[D]? = w.heap[D]?):OrdB w' D n d:=⟨fun i hi=>(zH hb).trans (h.c i hi),fun j=>(zI hb).trans (h.fr j)⟩
theorem OrdB.put {w:World} {D n k:Nat} {d:Nat->Nat} (h:OrdB w D n d) (hk:k<n):OrdB (w.setCell ⟨D,k,none⟩ (.int .i64 ((d k:Int)+1))) D n (up d k):=by
 refine ⟨fun i hi=>?_,fun j=>by rw [World.frozen?_setCell];exact h.fr j⟩
 by_cases e:i=k
 ·subst e
  rw [World.cell?_setCell_same' _ _ _ (by rw [h.c i hi];rfl),up_same]
  rfl
 ·rw [World.cell?_setCell_other _ _ _ _ (by intro e';injection e' with _ e';exact e e'.symm),up_other e]
  exact h.c i hi
structure Od (w wr:World) (B D:Nat) (ha:Option Addr) (hc:Nat) (y:Hs) (d:Nat->Nat):Prop where
 pu:y.Put d
 od:OrdB wr D y.n d
 bx:wr.cell? ⟨B,3,none⟩=some (.slice ha y.n hc)
 be:Below w.heap.size w wr
theorem Od.below {w wr w':World} {B D:Nat} {ha:Option Addr} {hc:Nat} {y:Hs} {d:Nat->Nat} (h:Od w wr B D ha hc y d) (hb:Below wr.heap.size wr w') (hD:D<wr.heap.size):Od w w' B D ha hc y d:=
 ⟨h.pu,h.od.blk (hb.block D hD),(hb.cell (p:=⟨B,3,none⟩) (zJ wr _ h.bx)).trans h.bx,h.be.trans (hb.mono h.be.size)⟩
theorem Od.set {w wr:World} {B D k:Nat} {ha:Option Addr} {hc:Nat} {y:Hs} {d:Nat->Nat} (h:Od w wr B D ha hc y d) (hk:k<y.n) (hcan:y.Can d k) (hBD:B≠D) (hw:w.heap.size<=D):Od w (wr.setCell ⟨D,k,none⟩ (.int .i64 ((d k:Int)+1))) B D ha hc y (up d k):=
 ⟨.next h.pu hk hcan,h.od.put hk,(World.cell?_setCell_other _ _ _ _ (by intro e;injection e with e;exact hBD e.symm)).trans h.bx,h.be.setCell hw _⟩
theorem madeInt_cell (w:World) (n i:Nat) (hi:i<n):(w.alloc (.cells (madeCells #[.int .i64 0] n) 3)).cell? ⟨w.heap.size,i,none⟩=some (.int .i64 0):=by
 rw [zV _ _ _ i rfl]
 simp [madeCells,hi,Nat.mod_one]
theorem slice_to (a:Option Addr) (len cap h:Nat) (hh:h<=cap) (w:World):(Instr.slice 44 (.slice a len cap) none (some (.int .i64 (h:Int))) none).run Tryz.prog w=.ok (.slice a h cap) w:=by
 have hh':(h:Int)<=(cap:Int):=by omega
 cases a with
 | none=>simp [go_sem,sliced,hh']
 | some a=>simp [go_sem,sliced,hh']
theorem l4Order_any (pa:Option Addr) (pn pc:Nat) (sa:Option Addr) (sn sc:Nat) (wa:Option Addr) (wn wc:Nat) (ha:Option Addr) (hc:Nat) (hA:Nat->Option Addr) (hC:Nat->Nat) (y:Hs) (w:World) (hE:HisE w ha hA hC y) (hcap:∀ i,i<y.n->y.l i<=hC i) (h1:1<=y.n) (h4:y.n<=4) (hp:y.Peers) (hl:∀ i,i<y.n->y.l i<=200):
  Calls Tryz.prog 72 #[sysV pa pn pc sa sn sc wa wn wc ha y.n hc] w fun e w'=>e=.returned (.bool (qB y.Row))/\Below w.heap.size w w':=by
 have HE:Hid (HisE w ha hA hC y):=hE
 have HH:Hid (y.Peers/\(∀ i,i<y.n->y.l i<=200)/\(∀ i,i<y.n->y.l i<=hC i)):=⟨hp,hl,hcap⟩
 have hn4:(y.n:Int)<=4:=by omega
 have hmk:∀ wx:World,(Instr.makeSlice 48 (.int .i64 (y.n:Int)) (.int .i64 (y.n:Int))).run Tryz.prog wx=.ok (.slice (some ⟨wx.heap.size,0,none⟩) y.n y.n) (wx.alloc (.cells (madeCells #[.int .i64 0] y.n) 3)):=fun wx=>run_make_int y.n (by omega) wx
 have HOd:Hid (Od w ((w.alloc (oQ4 pa pn pc sa sn sc wa wn wc ha y.n hc)).alloc (.cells (madeCells #[.int .i64 0] y.n) 3)) w.heap.size (w.heap.size+1) ha hc y (fun _=>0)):=by
  refine ⟨.start,⟨fun i hi=>?_,fun j=>yA _ _ _ _ (by simp)⟩,?_,(zS _ _).trans ((zS _ _).mono (by simp))⟩
  ·have:=madeInt_cell (w.alloc (oQ4 pa pn pc sa sn sc wa wn wc ha y.n hc)) y.n i hi
   rw [World.size_alloc] at this
   exact this
  ·exact ((BoxC.new w _ _ _ _ _).below (zS _ _)).2.2.2
 have HD:Hid (w.heap.size+1<((w.alloc (oQ4 pa pn pc sa sn sc wa wn wc ha y.n hc)).alloc (.cells (madeCells #[.int .i64 0] y.n) 3)).heap.size):=by
  show w.heap.size+1<_
  simp
 clear hE hp hl hcap
 go_enter Tryz.func72,Tryz.ntmps72
 go_wp2_with fail
 generalize (w.alloc (oQ4 pa pn pc sa sn sc wa wn wc ha y.n hc)).alloc (.cells (madeCells #[.int .i64 0] y.n) 3)=W1 at *
 generalize hD:w.heap.size+1=D at *
 have HDW:Hid (w.heap.size+1=D):=hD
 clear hmk hD
 go_loopw [6,7] (fun s i wr=>∃ k:Nat,k<=y.n/\i=.int .i64 k/\s=.int .i64 (sumL y.l k:Nat)/\wr=W1) (fun _ i _=>y.n - (intOf i).toNat)
 case atStart=>exact ⟨0,Nat.zero_le _,rfl,rfl,rfl⟩
 case round=>
  obtain ⟨k,hk,rfl,rfl,rfl⟩:=hrel
  have hsum:sumL y.l k<=200*k:=by
   have:∀ j,j<=y.n->sumL y.l j<=200*j:=by
    intro j
    induction j with
    | zero=>exact fun _=>Nat.le_refl _
    | succ j ih=>
     intro hj
     have h5:=ih (by omega)
     have h6:=HH.out.2.1 j (by omega)
     show sumL y.l j+y.l j<=200*(j+1)
     omega
   exact this k hk
  have hsum':((sumL y.l k:Nat):Int)<=1000:=by omega
  have b3:=HOd.out.bx
  by_cases hlt:k<y.n
  ·have hlt':(k:Int)<(y.n:Int):=by omega
   obtain ⟨bh,oh,eh,ch⟩:=(HE.out.below HOd.out.be).row.at hlt
   rw [eh] at b3
   have hl2:(y.l k:Int)<=200:=by have:=HH.out.2.1 k hlt;omega
   clear hsum
   go_wp2
   go_roundw
   case rel=>exact ⟨k+1,by omega,by go_num,by simp only [sumL];congr 1,by first | rfl | trivial⟩
   case measure=>simp [intOf];omega
  ·have hkn:k=y.n:=by omega
   subst hkn
   clear hlt hk hsum b3
   have hlt':¬ ((y.n:Int)<(y.n:Int)):=by omega
   have hsumI:∀ d:Nat->Nat,y.Put d->((sumL y.l y.n:Nat):Int) - ((sumL d y.n:Nat):Int)=((sumL y.l y.n - sumL d y.n:Nat):Int):=fun d hd=>by
    have:=sumL_le hd.le y.n
    omega
   have HSI:Hid (∀ d:Nat->Nat,y.Put d->((sumL y.l y.n:Nat):Int) - ((sumL d y.n:Nat):Int)=((sumL y.l y.n - sumL d y.n:Nat):Int)):=hsumI
   have HSM:Hid (((sumL y.l y.n:Nat):Int)<=1000):=hsum'
   clear hsumI hsum'
   go_wp2_with fail
   go_loopg [5,6] (2*(sumL y.l y.n)+1) (fun gn m s wr=>∃ (t:Bool) (d:Nat->Nat),m=.bool t/\s=.int .i64 ((sumL y.l y.n - sumL d y.n:Nat):Int)/\gn=2*(sumL y.l y.n - sumL d y.n)+(if t=true then 1 else 0)/\Hid (Od w wr w.heap.size D ha hc y d/\D<wr.heap.size/\(t=false->∀ p,p<y.n->¬ y.Can d p)))
   case atStart=>exact ⟨true,fun _=>0,rfl,by rw [sumL_zero];rfl,by rw [sumL_zero];rfl,HOd.out,HD.out,fun h=>by cases h⟩
   case round=>
    clear HOd HD
    obtain ⟨t,d,rfl,rfl,hgn,HI⟩:=hrel
    rcases zK t with rfl | rfl
    ·have HGN:Hid (gk=2*(sumL y.l y.n - sumL d y.n)+1):=hgn
     clear hgn
     go_wp2_with fail
     go_loopw [5,6,8] (fun m s i wr=>∃ (k:Nat) (t':Bool) (d':Nat->Nat),k<=y.n/\i=.int .i64 k/\m=.bool t'/\s=.int .i64 ((sumL y.l y.n - sumL d' y.n:Nat):Int)/\Hid (Od w wr w.heap.size D ha hc y d'/\D<wr.heap.size/\(t'=true->sumL d y.n<sumL d' y.n)/\(t'=false->d'=d/\∀ p,p<k->¬ y.Can d p))) (fun _ _ i _=>y.n - (intOf i).toNat)
     case atStart=>exact ⟨0,false,d,Nat.zero_le _,rfl,rfl,rfl,HI.out.1,HI.out.2.1,(fun h=>by cases h),fun _=>⟨rfl,fun p hp=>by omega⟩⟩
     case round=>
      clear HI
      obtain ⟨k,t',d',hk,rfl,rfl,rfl,HJ⟩:=hrel
      by_cases hlt:k<y.n
      ·have hlt':(k:Int)<(y.n:Int):=by omega
       have hdk:d' k<=y.l k:=HJ.out.1.pu.le k
       have hl2:(y.l k:Int)<=200:=by have:=HH.out.2.1 k hlt;omega
       have dk:=HJ.out.1.od.c k hlt
       have b3:=HJ.out.1.bx
       obtain ⟨bh,oh,eh,ch⟩:=(HE.out.below HJ.out.1.be).row.at hlt
       rw [eh] at b3
       by_cases he:d' k=y.l k
       ·have HNo:Hid (¬ y.Can d' k):=fun h=>by have:=h.1;omega
        have HJ' : ∀ nq, Hid (Od w (wr.drewN nq) w.heap.size D ha hc y d' ∧ D < (wr.drewN nq).heap.size ∧ (t' = true → sumL d y.n < sumL d' y.n) ∧ (t' = false → d' = d ∧ ∀ p, p < k + 1 → ¬ y.Can d p)) := fun nq => ⟨HJ.out.1.below (yB (Below.refl _ _) _) HJ.out.2.1, HJ.out.2.1, HJ.out.2.2.1, fun h => ⟨(HJ.out.2.2.2 h).1, fun p hp => by
         have h5:=HJ.out.2.2.2 h
         by_cases e:p=k
         ·subst e
          rw [<- h5.1]
          exact HNo.out
         ·exact h5.2 p (by omega)⟩⟩
        rw [he] at dk
        have HJQ:Hid (∀ nq,Hid (Od w (wr.drewN nq) w.heap.size D ha hc y d'/\D<(wr.drewN nq).heap.size/\(t'=true->sumL d y.n<sumL d' y.n)/\(t'=false->d'=d/\∀ p,p<k+1->¬ y.Can d p))):=HJ'
        clear HJ HJ' he hdk
        go_wp2_with fail
        go_quiet (fail)
        go_wp2
        go_roundw
        case rel=>exact ⟨k+1,t',d',by omega,by go_num,rfl,rfl,HJQ.out _⟩
        case measure=>simp [intOf];omega
       ·have hkl:d' k<y.l k:=by omega
        have hkl':(d' k:Int)<(y.l k:Int):=by omega
        have hne:((d' k:Int) == (y.l k:Int))=false:=by
         have:¬ (d' k:Int)=(y.l k:Int):=by omega
         simpa using this
        clear he hdk
        go_wp2_with fail
        go_quiet (fail)
        go_wp2_with fail
        have OD:Hid (Od w (wr.drewN nq) w.heap.size D ha hc y d'/\D<(wr.drewN nq).heap.size/\(t'=true->sumL d y.n<sumL d' y.n)/\(t'=false->d'=d/\∀ p,p<k->¬ y.Can d p)):=⟨HJ.out.1.below (yB (Below.refl _ _) _) HJ.out.2.1,HJ.out.2.1,HJ.out.2.2⟩
        clear HJ dk b3 ch
        generalize wr.drewN nq=wd at *
        have dk:=OD.out.1.od.c k hlt
        have b3:=OD.out.1.bx
        obtain ⟨bh',oh',eh',ch⟩:=(HE.out.below OD.out.1.be).row.at hlt
        rw [eh'] at b3
        obtain ⟨b,off,ea,zb,e0,e1,e2⟩:=((HE.out.below OD.out.1.be).ev k hlt).at hkl
        rw [ea] at ch
        have n1:wd.heap.size≠D:=by have:=OD.out.2.1;omega
        have n2:wd.heap.size≠b:=by omega
        have n3:wd.heap.size≠bh':=by have:=zJ wd _ ch;simp at this;omega
        have dk':=cell_allocs dk
        have b3':=cell_allocs b3
        have ch':=cell_allocs ch
        have e0':=cell_allocs e0
        have e1':=cell_allocs e1
        have e2':=cell_allocs e2
        clear zb
        go_region
        all_goals
         have OZ:Hid (Od w (wd.alloc (oQ0 (y.e k (d' k)).k (y.e k (d' k)).q (y.e k (d' k)).v)).drew w.heap.size D ha hc y d'/\D<(wd.alloc (oQ0 (y.e k (d' k)).k (y.e k (d' k)).q (y.e k (d' k)).v)).drew.heap.size/\(t'=true->sumL d y.n<sumL d' y.n)/\(t'=false->d'=d/\∀ p,p<k->¬ y.Can d p)):=⟨OD.out.1.below (zS _ _).drew OD.out.2.1,zL OD.out.2.1 (zS _ _).drew.size,OD.out.2.2⟩
         have z0:(wd.alloc (oQ0 (y.e k (d' k)).k (y.e k (d' k)).q (y.e k (d' k)).v)).drew.cell? ⟨wd.heap.size,0,none⟩=some (.int .i64 (y.e k (d' k)).k):=zV wd _ _ 0 rfl
         have z1:(wd.alloc (oQ0 (y.e k (d' k)).k (y.e k (d' k)).q (y.e k (d' k)).v)).drew.cell? ⟨wd.heap.size,1,none⟩=some (.int .i64 (y.e k (d' k)).q):=zV wd _ _ 1 rfl
         go_wp2_with fail
         clear dk b3 ch e0 e1 e2 dk' b3' ch' e0' e1' e2' n1 n2 n3 OD eh eh' ea
         generalize (wd.alloc (oQ0 (y.e k (d' k)).k (y.e k (d' k)).q (y.e k (d' k)).v)).drew=wz at *
         generalize wd.heap.size=M at *
         rcases zK ((y.e k (d' k)).k == 3) with t3 | t3
         case inr=>
          have HK3:Hid (¬ (y.e k (d' k)).k=3):=by
           show ¬ (y.e k (d' k)).k=3
           simpa using t3
          go_quiet (fail)
          have OQ:Hid (Od w (wz.drewN nq) w.heap.size D ha hc y d'/\D<(wz.drewN nq).heap.size/\(t'=true->sumL d y.n<sumL d' y.n)/\(t'=false->d'=d/\∀ p,p<k->¬ y.Can d p)):=⟨OZ.out.1.below (yB (Below.refl _ _) _) OZ.out.2.1,OZ.out.2.1,OZ.out.2.2⟩
          clear z0 z1 OZ
          generalize wz.drewN nq=wq at *
          have HCn:Hid (y.Can d' k):=⟨hkl,fun h=>absurd h HK3.out⟩
          have HPu:Hid (y.Put (up d' k)):=.next OQ.out.1.pu hlt HCn.out
          have hsu:=sumL_up (d:=d') hlt
          have hsl:=sumL_le HPu.out.le y.n
          have HLE:Hid (((sumL y.l y.n - sumL d' y.n:Nat):Int) - 1=((sumL y.l y.n - sumL (up d' k) y.n:Nat):Int)):=by
           show ((sumL y.l y.n - sumL d' y.n:Nat):Int) - 1=((sumL y.l y.n - sumL (up d' k) y.n:Nat):Int)
           omega
          have hA1:((sumL y.l y.n - sumL d' y.n:Nat):Int)<=1000:=by have:=HSM.out;omega
          have hA0:(1:Int)<=((sumL y.l y.n - sumL d' y.n:Nat):Int):=by omega
          have HNx : Hid (Od w (wq.setCell ⟨D, k, none⟩ (.int .i64 ((d' k : Int) + 1))) w.heap.size D ha hc y (up d' k) ∧ D < (wq.setCell ⟨D, k, none⟩ (.int .i64 ((d' k : Int) + 1))).heap.size ∧ (true = true → sumL d y.n < sumL (up d' k) y.n) ∧ (true = false → up d' k = d ∧ ∀ p, p < k + 1 → ¬ y.Can d p)) := ⟨OQ.out.1.set hlt HCn.out (by have := HDW.out; omega) (by have := HDW.out; omega), by simpa [World.setCell] using OQ.out.2.1, (fun _ => by
           rcases zK t' with h5 | h5
           ·have:=OQ.out.2.2.1 h5
            omega
           ·have:=(OQ.out.2.2.2 h5).1
            rw [this] at hsu ⊢
            omega),(fun h=>by cases h)⟩
          have dkq:=OQ.out.1.od.c k hlt
          have frq:=OQ.out.1.od.fr
          clear hsu hsl OQ
          generalize hAA:((sumL y.l y.n - sumL d' y.n:Nat):Int)=AA at *
          clear hAA
          go_wp2
          go_roundw
          case rel=>exact ⟨k+1,true,up d' k,by omega,by go_num,rfl,by rw [HLE.out],HNx.out⟩
          case measure=>simp [intOf];omega
         case inl=>
          have hk3:(y.e k (d' k)).k=3:=by simpa using t3
          have HK3:Hid ((y.e k (d' k)).k=3):=hk3
          have hq:=HH.out.1 k hlt (d' k) hkl
          obtain ⟨q,hqe⟩:∃ q:Nat,(y.e k (d' k)).q=(q:Int):=⟨(y.e k (d' k)).q.toNat,by omega⟩
          have HQE:Hid ((y.e k (d' k)).q=(q:Int)):=hqe
          have hqn:q<y.n:=by omega
          have hqn':(q:Int)<(y.n:Int):=by omega
          rw [hk3] at z0
          rw [hqe] at z1
          have dk:=OZ.out.1.od.c k hlt
          have dq:=OZ.out.1.od.c q hqn
          have b3:=OZ.out.1.bx
          obtain ⟨bz,oz,ez,ch⟩:=(HE.out.below OZ.out.1.be).row.at hlt
          obtain ⟨bz',oz',ez',cq⟩:=(HE.out.below OZ.out.1.be).row.at hqn
          rw [ez] at b3 ez'
          simp only [Option.some.injEq,Addr.mk.injEq] at ez'
          obtain ⟨rfl,rfl,-⟩:=ez'
          have ks:=slice_to (hA k) (y.l k) (hC k) (d' k) (by have:=HH.out.2.2 k hlt;omega)
          have qs:=slice_to (hA q) (y.l q) (hC q) (d' q) (by have:=HH.out.2.2 q hqn;have:=OZ.out.1.pu.le q;omega)
          have HCk:Hid (∀ dd os,Calls Tryz.prog 37 #[.slice (hA k) (d' k) (hC k),.int .i64 3,.int .i64 q] (grow (redrawn wz dd) os) fun e w'=>e=.returned (.int .i64 (cnt (y.e k) 3 q (d' k):Nat))/\Below (grow (redrawn wz dd) os).heap.size (grow (redrawn wz dd) os) w'):=fun dd os=>specCount_l (hA k) (d' k) (hC k) (y.e k) 3 q _ (by have:=HH.out.2.1 k hlt;omega) (((HE.out.below OZ.out.1.be).below (below_regrown wz dd os)).ev k hlt |>.take (by omega))
          have HCq:Hid (∀ dd os,Calls Tryz.prog 37 #[.slice (hA q) (d' q) (hC q),.int .i64 2,.int .i64 k] (grow (redrawn wz dd) os) fun e w'=>e=.returned (.int .i64 (cnt (y.e q) 2 k (d' q):Nat))/\Below (grow (redrawn wz dd) os).heap.size (grow (redrawn wz dd) os) w'):=fun dd os=>specCount_l (hA q) (d' q) (hC q) (y.e q) 2 k _ (by have:=HH.out.2.1 q hqn;have:=OZ.out.1.pu.le q;omega) (((HE.out.below OZ.out.1.be).below (below_regrown wz dd os)).ev q hqn |>.take (OZ.out.1.pu.le q))
          have z0':=cell_regrown z0
          have z1':=cell_regrown z1
          have dk':=cell_regrown dk
          have dq':=cell_regrown dq
          have b3':=cell_regrown b3
          have ch':=cell_regrown ch
          have cq':=cell_regrown cq
          clear ez hq hqe hk3 t3
          refine wp_region_quiet_below (by kernel_rfl) (by kernel_rfl) ?_
          repeat (quiet_step (first|(go_at_call_of 37 (hA k);exact Calls.regrown_of (HCk.out _ _))|(go_at_call_of 37 (hA q);exact Calls.regrown_of (HCq.out _ _))))
          refine wpQuiet_nil ?_
          intro _ hw'
          obtain ⟨⟨dd,os⟩,hw''⟩:=hw'
          subst hw''
          have OQ:Hid (Od w (grow (redrawn wz dd) os) w.heap.size D ha hc y d'/\D<(grow (redrawn wz dd) os).heap.size/\(t'=true->sumL d y.n<sumL d' y.n)/\(t'=false->d'=d/\∀ p,p<k->¬ y.Can d p)):=⟨OZ.out.1.below (below_regrown wz dd os) OZ.out.2.1,zL OZ.out.2.1 (below_regrown wz dd os).size,OZ.out.2.2⟩
          clear z0' z1' dk' dq' b3' ch' cq' z0 z1 dk dq b3 ch cq ks qs HCk HCq OZ
          generalize grow (redrawn wz dd) os=wq at *
          have HCan:Hid (y.Can d' k ↔ cnt (y.e k) 3 q (d' k)<cnt (y.e q) 2 k (d' q)):=by
           show y.Can d' k ↔ _
           unfold Hs.Can
           rw [HQE.out]
           rw [show ((q:Int)).toNat=q by omega]
           exact ⟨fun h=>h.2 HK3.out,fun h=>⟨hkl,fun _=>h⟩⟩
          generalize cnt (y.e k) 3 q (d' k)=c1 at *
          generalize cnt (y.e q) 2 k (d' q)=c2 at *
          by_cases hcc:(c2:Int)<=(c1:Int)
          ·have HNo:Hid (¬ y.Can d' k):=fun h=>by have:=HCan.out.1 h;omega
           have HJ2 : Hid (Od w wq w.heap.size D ha hc y d' ∧ D < wq.heap.size ∧ (t' = true → sumL d y.n < sumL d' y.n) ∧ (t' = false → d' = d ∧ ∀ p, p < k + 1 → ¬ y.Can d p)) := ⟨OQ.out.1, OQ.out.2.1, OQ.out.2.2.1, fun h => ⟨(OQ.out.2.2.2 h).1, fun p hp => by
            have h5:=OQ.out.2.2.2 h
            by_cases e:p=k
            ·subst e
             rw [<- h5.1]
             exact HNo.out
            ·exact h5.2 p (by omega)⟩⟩
           clear OQ HCan
           go_wp2
           go_roundw
           case rel=>exact ⟨k+1,t',d',by omega,by go_num,rfl,rfl,HJ2.out⟩
           case measure=>simp [intOf];omega
          ·have HCx:Hid (y.Can d' k):=HCan.out.2 (by omega)
           clear HCan
           have HCn:Hid (y.Can d' k):=HCx.out
           have HPu:Hid (y.Put (up d' k)):=.next OQ.out.1.pu hlt HCn.out
           have hsu:=sumL_up (d:=d') hlt
           have hsl:=sumL_le HPu.out.le y.n
           have HLE:Hid (((sumL y.l y.n - sumL d' y.n:Nat):Int) - 1=((sumL y.l y.n - sumL (up d' k) y.n:Nat):Int)):=by
            show ((sumL y.l y.n - sumL d' y.n:Nat):Int) - 1=((sumL y.l y.n - sumL (up d' k) y.n:Nat):Int)
            omega
           have hA1:((sumL y.l y.n - sumL d' y.n:Nat):Int)<=1000:=by have:=HSM.out;omega
           have hA0:(1:Int)<=((sumL y.l y.n - sumL d' y.n:Nat):Int):=by omega
           have HNx : Hid (Od w (wq.setCell ⟨D, k, none⟩ (.int .i64 ((d' k : Int) + 1))) w.heap.size D ha hc y (up d' k) ∧ D < (wq.setCell ⟨D, k, none⟩ (.int .i64 ((d' k : Int) + 1))).heap.size ∧ (true = true → sumL d y.n < sumL (up d' k) y.n) ∧ (true = false → up d' k = d ∧ ∀ p, p < k + 1 → ¬ y.Can d p)) := ⟨OQ.out.1.set hlt HCn.out (by have := HDW.out; omega) (by have := HDW.out; omega), by simpa [World.setCell] using OQ.out.2.1, (fun _ => by
            rcases zK t' with h5 | h5
            ·have:=OQ.out.2.2.1 h5
             omega
            ·have:=(OQ.out.2.2.2 h5).1
             rw [this] at hsu ⊢
             omega),(fun h=>by cases h)⟩
           have dkq:=OQ.out.1.od.c k hlt
           have frq:=OQ.out.1.od.fr
           clear hsu hsl OQ
           generalize hAA:((sumL y.l y.n - sumL d' y.n:Nat):Int)=AA at *
           clear hAA
           go_wp2
           go_roundw
           case rel=>exact ⟨k+1,true,up d' k,by omega,by go_num,rfl,by rw [HLE.out],HNx.out⟩
           case measure=>simp [intOf];omega
      ·have hkn:k=y.n:=by omega
       subst hkn
       have HF:Hid (2*(sumL y.l y.n - sumL d' y.n)+(if t'=true then 1 else 0)<gk):=by
        have h2:=HGN.out
        have h3:=sumL_le HJ.out.1.pu.le y.n
        show _<gk
        cases t' with
        | true=>
         have h4:=HJ.out.2.2.1 rfl
         simp only [if_true]
         omega
        | false=>
         have h4:=(HJ.out.2.2.2 rfl).1
         rw [h4]
         simp only [Bool.false_eq_true,if_false]
         omega
       have HG2 : Hid (Od w wr w.heap.size D ha hc y d' ∧ D < wr.heap.size ∧ (t' = false → ∀ p, p < y.n → ¬ y.Can d' p)) := ⟨HJ.out.1, HJ.out.2.1, fun h p hp => by
        have:=HJ.out.2.2.2 h
        rw [this.1]
        exact this.2 p hp⟩
       clear HJ
       go_wp2
       go_roundg (2*(sumL y.l y.n - sumL d' y.n)+(if t'=true then 1 else 0))
       case measure=>exact HF.out
       case rel=>exact ⟨t',d',rfl,rfl,rfl,HG2.out⟩
    ·have HR:Hid ((((sumL y.l y.n - sumL d y.n:Nat):Int) == 0)=qB y.Row):=by
      show (((sumL y.l y.n - sumL d y.n:Nat):Int) == 0)=qB y.Row
      have hi:=Hs.row_iff HI.out.1.pu HH.out.1 (HI.out.2.2 rfl)
      have hle:=HI.out.1.pu.le
      by_cases hr:y.Row
      ·have:sumL d y.n=sumL y.l y.n:=sumL_same fun i hi'=>hi.1 hr i hi'
       rw [qB_true hr,this]
       simp
      ·rw [qB_false hr]
       have:sumL y.l y.n - sumL d y.n≠0:=fun e=>hr (hi.2 (sumL_all hle _ (by have:=sumL_le hle y.n;omega)))
       have h2:((sumL y.l y.n - sumL d y.n:Nat):Int)≠0:=by omega
       simpa using h2
     have HB:Hid (Below w.heap.size w wr):=HI.out.1.be
     clear HI hgn
     go_wp2
     go_ret
     rw [HR.out]
     exact ⟨rfl,HB.out⟩
def SlB (w:World) (a0:Option Addr) (xs:List Int):Prop:=
 xs=[]\/∃ b off,a0=some ⟨b,off,none⟩/\b<w.heap.size/\∀ i,i<xs.length->w.cell? ⟨b,off+i,none⟩=some (.int .u8 (zi xs i))
theorem SlB.below {w w':World} {a0:Option Addr} {xs:List Int} (h:SlB w a0 xs) (hb:Below w.heap.size w w'):SlB w' a0 xs:=by
 rcases h with h | ⟨b,off,e,hlt,hc⟩
 ·exact .inl h
 ·exact .inr ⟨b,off,e,zL hlt hb.size,fun i hi=>(hb.cell (p:=⟨b,off+i,none⟩) hlt).trans (hc i hi)⟩
theorem SlB.at {w:World} {a0:Option Addr} {xs:List Int} (h:SlB w a0 xs) {k:Nat} (hk:k<xs.length):∃ b off,a0=some ⟨b,off,none⟩/\b<w.heap.size/\w.cell? ⟨b,off+k,none⟩=some (.int .u8 (zi xs k)):=by
 rcases h with rfl | ⟨b,off,e,hlt,hc⟩
 ·simp at hk
 ·exact ⟨b,off,e,hlt,hc k hk⟩
def OwnB (w:World) (B:Nat) (v:Value) (xs:List Int):Prop:=w.ownsRow B 5 1 v xs.length (xs.map (Value.int .u8))
theorem OwnB.mono {w:World} {B B':Nat} {v:Value} {xs:List Int} (h:OwnB w B v xs) (hb:B'<=B):OwnB w B' v xs:=World.ownsRow.mono h hb
theorem OwnB.kept {w w':World} {B:Nat} {v:Value} {xs:List Int} {row:Option Nat} (h:OwnB w B v xs) (hg:w.grownBy w' row) (hne:v.ownBlock=none\/v.ownBlock≠row):OwnB w' B v xs:=World.ownsRow.kept h hg hne
theorem OwnB.lt {w:World} {B:Nat} {v:Value} {xs:List Int} (h:OwnB w B v xs):∀ k,v.ownBlock=some k->B<=k/\k<w.heap.size:=World.ownsRow.lt h
theorem OwnB.below {w w':World} {B:Nat} {v:Value} {xs:List Int} (h:OwnB w B v xs) (hb:Below w.heap.size w w'):OwnB w' B v xs:=by
 refine h.kept (zY hb) ?_
 cases hv:v.ownBlock with
 | none=>exact .inl rfl
 | some k=>exact .inr (by simp)
theorem getD_map_byte (xs:List Int) (j:Nat) (hj:j<xs.length):(xs.map (Value.int .u8))[j]? = some (.int .u8 (zi xs j)):=by
 unfold zi
 rw [List.getElem?_map,List.getElem?_eq_getElem hj,List.getD_eq_getElem?_getD,List.getElem?_eq_getElem hj];rfl
theorem OwnB.form {w:World} {B:Nat} {v:Value} {xs:List Int} (h:OwnB w B v xs):∃ a0 cap,v=.slice a0 xs.length cap/\SlB w a0 xs:=by
 rcases h.2 with ⟨rfl,h0⟩ | ⟨g,cap,cur,rfl,hb,_⟩
 ·exact ⟨none,0,by rw [h0],.inl (List.eq_nil_of_length_eq_zero h0)⟩
 ·refine ⟨_,cap,rfl,.inr ⟨g,0,rfl,(h.lt g rfl).2,fun i hi=>?_⟩⟩
  rw [Nat.zero_add,World.ownsRow.cellAt h i (by omega)]
  exact getD_map_byte xs i hi
theorem OwnB.block {w:World} {B:Nat} {v:Value} {xs:List Int} (h:OwnB w B v xs) (hn:0<xs.length):∃ g cap,v=.slice (some ⟨g,0,none⟩) xs.length cap/\B<=g/\g<w.heap.size:=by
 rcases h.2 with ⟨_,h0⟩ | ⟨g,cap,cur,rfl,hb,_⟩
 ·omega
 ·exact ⟨g,cap,rfl,hb,(h.lt g rfl).2⟩
theorem OwnB.cell {w:World} {B g cap:Nat} {xs:List Int} (h:OwnB w B (.slice (some ⟨g,0,none⟩) xs.length cap) xs) {j:Nat} (hj:j<xs.length):w.cell? ⟨g,j,none⟩=some (.int .u8 (zi xs j)):=by
 rw [World.ownsRow.cellAt h j (by omega)]
 exact getD_map_byte xs j hj
theorem OwnB.frozen {w:World} {B g cap:Nat} {xs:List Int} (h:OwnB w B (.slice (some ⟨g,0,none⟩) xs.length cap) xs) (j:Nat):w.frozen? ⟨g,j,none⟩=false:=World.ownsRow.frozenAt h j
theorem OwnB.set {w:World} {B g cap n:Nat} {xs:List Int} (h:OwnB w B (.slice (some ⟨g,0,none⟩) n cap) xs) (hn:n=xs.length) (j:Nat) (x:Int):OwnB (w.setCell ⟨g,j,none⟩ (.int .u8 x)) B (.slice (some ⟨g,0,none⟩) n cap) (xs.set j x)/\w.grownBy (w.setCell ⟨g,j,none⟩ (.int .u8 x)) (some g):=by
 subst hn
 have:=World.ownsRow.stored h j (.int .u8 x)
 unfold OwnB
 rw [List.length_set,List.map_set]
 exact this
theorem infoByte:(Tryz.prog.info? 5).map (fun i=>(i.zero,i.size,i.bytes))=some (some (.int .u8 0),1,1):=by kernel_rfl
theorem run_make_byte (n:Nat) (hn:n<=1048576) (w:World):
  (Instr.makeSlice 22 (.int .i64 (n:Int)) (.int .i64 (n:Int))).run Tryz.prog w=.ok (.slice (some ⟨w.heap.size,0,none⟩) n n) (w.alloc (.cells (madeCells #[.int .u8 0] n) 5)):=by
 have hinfo:=infoByte
 cases hi:Tryz.prog.info? 5 with
 | none=>rw [hi] at hinfo;cases hinfo
 | some i=>
  rw [hi] at hinfo
  simp only [Option.map_some,Option.some.injEq,Prod.mk.injEq] at hinfo
  obtain ⟨hz,hs,hb⟩:=hinfo
  have h:=run_make (P:=Tryz.prog) w 22 5 i _ Tryz.underlying22 hi hz .i64 .i64 (n:Int) (n:Int) (by omega) (Int.le_refl _) (by rw [hb];omega) (by omega)
  rw [hs] at h
  simpa [Value.cells] using h
theorem made_ownB (w:World) (n:Nat) (hn:n<=1048576):OwnB (w.alloc (.cells (madeCells #[.int .u8 0] n) 5)) w.heap.size (.slice (some ⟨w.heap.size,0,none⟩) n n) (List.replicate n 0):=by
 have:=World.ownsRow_lit (base:=w.heap.size) (e:=5) (size:=1) w (madeCells #[.int .u8 0] n) n (Nat.le_refl _) (by unfold maxLen;omega) (by simp [size_madeCells])
 rw [toList_madeCells_one] at this
 unfold OwnB
 rw [List.length_replicate,List.map_replicate]
 exact this
theorem src_of_slB {w w':World} {b off:Nat} {xs:List Int} (h:SlB w (some ⟨b,off,none⟩) xs) (hb:Below w.heap.size w w'):∀ j v,(xs.map (Value.int .u8))[j]? = some v->w'.cell? (Addr.add ⟨b,off,none⟩ j)=some v:=by
 intro j v hj
 have hl:j<xs.length:=by
  apply Classical.byContradiction
  intro hn
  rw [List.getElem?_eq_none (by simp;omega)] at hj
  cases hj
 rw [getD_map_byte xs j hl] at hj
 rw [addr_add,<- hj]
 obtain ⟨b',off',e,hlt,hc⟩:=(h.below hb).at hl
 simp only [Option.some.injEq,Addr.mk.injEq,and_true] at e
 obtain ⟨rfl,rfl⟩:=e
 exact hc
theorem one_bytes (xs:List Int):∀ v ∈ xs.map (Value.int .u8),v.oneCell'=true:=by
 intro v hv
 obtain ⟨x,_,rfl⟩:=List.mem_map.1 hv
 rfl
theorem info_byte:∃ i,Tryz.prog.info? 5=some i/\i.zero=some (.int .u8 0)/\i.size=1/\i.bytes=1:=by
 have hinfo:=infoByte
 cases hi:Tryz.prog.info? 5 with
 | none=>rw [hi] at hinfo;cases hinfo
 | some i=>
  rw [hi] at hinfo
  simp only [Option.map_some,Option.some.injEq,Prod.mk.injEq] at hinfo
  exact ⟨i,rfl,hinfo⟩
theorem runB_append_none (w:World) (ty:TypeId) (B c:Nat) (v:Value) (xs:List Int) (h:OwnB w B v xs):
  (Builtin.append_ #[22,22] ty #[v,.slice none 0 c]).run Tryz.prog w=.ok v w:=by
 obtain ⟨i,hi,_⟩:=info_byte
 rcases h.2 with ⟨rfl,_⟩ | ⟨g,cap,cur,rfl,_,_,hnc,_⟩
 ·simp [Builtin.append_,run_underlying Tryz.underlying22,sizeOf,typeInfo,hi,Builtin.lenOf,Builtin.firstCells]
 ·simp [Builtin.append_,run_underlying Tryz.underlying22,sizeOf,typeInfo,hi,Builtin.lenOf,Builtin.firstCells,hnc,storeCells]
theorem run_append_bytes (w:World) (ty:TypeId) (B c:Nat) (v:Value) (a0:Option Addr) (xs ys:List Int) (h:OwnB w B v xs) (hy:SlB w a0 ys) (hn:xs.length+ys.length<=4000000) (hB:B<=w.heap.size):
  ∃ v' w',(Builtin.append_ #[22,22] ty #[v,.slice a0 ys.length c]).run Tryz.prog w=.ok v' w'/\OwnB w' B v' (xs ++ ys)/\w.grownBy w' v.ownBlock/\(v'.ownBlock=v.ownBlock\/v'.ownBlock=some w.heap.size):=by
 obtain ⟨i,hi,hz,hs,hb⟩:=info_byte
 cases a0 with
 | none=>
  have hy0:ys=[]:=by
   rcases hy with h0 | ⟨b,off,e,_⟩
   ·exact h0
   ·cases e
  subst hy0
  exact ⟨v,w,runB_append_none w ty B c v xs h,by simpa using h,World.grownBy.refl _ _,.inl rfl⟩
 | some a=>
  have hnews:∀ j u,(ys.map (Value.int .u8))[j]? = some u->w.cell? (a.add j)=some u:=by
   rcases hy with h0 | ⟨b,off,e,hlt,hc⟩
   ·subst h0;intro j u hj;simp at hj
   ·cases e
    exact src_of_slB (.inr ⟨b,off,rfl,hlt,hc⟩) (Below.refl _ _)
  obtain ⟨v',w',h1,h2,h3,_,h5⟩:=run_append_own_at (P:=Tryz.prog) w B 22 ty 5 i (.int .u8 0) 1 1 Tryz.underlying22 hi hz hs hb rfl (by decide) v xs.length (xs.map (Value.int .u8)) h a ys.length c (ys.map (Value.int .u8)) (by simp) hnews (one_bytes ys) (by unfold maxLen;omega) (by omega) hB
  refine ⟨v',w',h1,?_,h3,h5⟩
  unfold OwnB
  rw [List.length_append,List.map_append]
  exact h2
theorem wpList_append_bytes {ops:Array Oper} {rest:List Oper} {op:Oper} {act:Act} {Q:Exit->Act->World->Prop} (w:World) (hgd:op.guard=none) (s x:Operand)
  (ho:op.op=.call { callee:=.builtin .append,args:=#[s,x],argTypes:=#[22,22] })
  (B c:Nat) (v:Value) (a0:Option Addr) (xs ys:List Int) (hs:act.eval s=v) (hx:act.eval x=.slice a0 ys.length c) (hv:OwnB w B v xs) (hy:SlB w a0 ys) (hn:xs.length+ys.length<=4000000) (hB:B<=w.heap.size)
  (h:∀ v' w',OwnB w' B v' (xs ++ ys)->w.grownBy w' v.ownBlock->(v'.ownBlock=v.ownBlock\/v'.ownBlock=some w.heap.size)->wpList Tryz.prog ops Q rest (act.put op.dst v') w'):
  wpList Tryz.prog ops Q (op :: rest) act w:=by
 obtain ⟨v',w',h1,h2,h3,h4⟩:=run_append_bytes w op.type B c v a0 xs ys hv hy hn hB
 refine wpList_plain hgd fun K hK=>?_
 unfold Oper.wp execOp
 simp only [ho,resolve,invoke,builtin,Sem.run_bind,Sem.run_pure,Result.andThen_ok,List.map_toArray,List.map_cons,List.map_nil,hs,hx,h1]
 exact hK _ _ (h v' w' h2 h3 h4)
theorem ownB_empty (w:World):OwnB (w.alloc (.cells #[] 5)) w.heap.size (.slice (some ⟨w.heap.size,0,none⟩) 0 0) []:=
 World.ownsRow_made (base:=w.heap.size) (e:=5) (size:=1) w #[] 0 (Nat.le_refl _) (by unfold maxLen;omega) rfl
theorem eqByteS_same (a0 a1:Option Addr) (c0 c1:Nat) (xs:List Int) (w:World) (hlen:xs.length<=1048576) (h0:SlB w a0 xs) (h1:SlB w a1 xs):
  Calls Tryz.prog 8 #[.slice a0 xs.length c0,.slice a1 xs.length c1] w fun e w'=>e=.returned (.bool true)/\Below w.heap.size w w':=by
 have hl':(xs.length:Int)<=1048576:=by omega
 have H0:Hid (SlB w a0 xs):=h0
 have H1:Hid (SlB w a1 xs):=h1
 clear h0 h1
 go_enter Tryz.func8,Tryz.ntmps8
 go_wp2_with fail
 go_loopw [5] (fun i wr=>∃ k:Nat,k<=xs.length/\i=.int .i64 k/\Below w.heap.size w wr) (fun i _=>xs.length - (intOf i).toNat)
 case atStart=>exact ⟨0,Nat.zero_le _,rfl,Below.refl _ _⟩
 case round=>
  obtain ⟨k,hk,rfl,hbw⟩:=hrel
  by_cases hlt:k<xs.length
  ·obtain ⟨b,off,rfl,hbl,ck⟩:=(H0.out.below hbw).at hlt
   obtain ⟨b',off',rfl,hbl',ck'⟩:=(H1.out.below hbw).at hlt
   have hlt':(k:Int)<(xs.length:Int):=by omega
   go_wp2_with fail
   go_quiet (fail)
   go_wp2
   go_roundw
   case rel=>exact ⟨k+1,by omega,by go_num,yB hbw _⟩
   case measure=>simp [intOf];omega
  ·go_wp2
   go_ret
   exact ⟨rfl,hbw⟩
theorem own_someB {w:World} {B n cap:Nat} {a0:Option Addr} {ys:List Int} (h:OwnB w B (.slice a0 n cap) ys) (hn:0<ys.length):∃ g,a0=some ⟨g,0,none⟩/\n=ys.length/\B<=g/\g<w.heap.size:=by
 obtain ⟨g,c,hv,hb,hl⟩:=h.block hn
 simp only [Value.slice.injEq] at hv
 exact ⟨g,hv.1,hv.2.1,hb,hl⟩
def marksB (k:Int) (n:Nat):List Int:=(List.range n).map (fun i:Nat=>IntKind.u8.wrap (k+(i:Int)))
theorem marksB_length (k:Int) (n:Nat):(marksB k n).length=n:=by simp [marksB]
theorem marksB_at (k:Int) (n j:Nat) (h:j<n):zi (marksB k n) j=IntKind.u8.wrap (k+j):=by
 unfold zi marksB
 rw [List.getD_eq_getElem?_getD,List.getElem?_map,List.getElem?_range h];rfl
theorem markByteS_any (a0:Option Addr) (cap B:Nat) (xs:List Int) (k:Int) (w:World) (hlen:xs.length<=1048576) (k0:0<=k) (k1:k<=100000000) (h:OwnB w B (.slice a0 xs.length cap) xs):
  Calls Tryz.prog 9 #[.slice a0 xs.length cap,.int .i64 k] w fun e w'=>e=.returned (.int .i64 (k+xs.length))/\OwnB w' B (.slice a0 xs.length cap) (marksB k xs.length)/\w.grownBy w' (Value.slice a0 xs.length cap).ownBlock:=by
 have hl':(xs.length:Int)<=1048576:=by omega
 have HO:Hid (OwnB w B (.slice a0 xs.length cap) xs):=h
 clear h
 go_enter Tryz.func9,Tryz.ntmps9
 go_wp2_with fail
 go_loopw [1,5] (fun q i wr=>∃ j:Nat,j<=xs.length/\i=.int .i64 j/\q=.int .i64 (k+j)/\Hid ((∃ ys,ys.length=xs.length/\OwnB wr B (.slice a0 xs.length cap) ys/\∀ t,t<j->zi ys t=IntKind.u8.wrap (k+t))/\w.grownBy wr (Value.slice a0 xs.length cap).ownBlock)) (fun _ i _=>xs.length - (intOf i).toNat)
 case atStart=>exact ⟨0,Nat.zero_le _,rfl,by simp,⟨xs,rfl,HO.out,fun t ht=>by omega⟩,World.grownBy.refl _ _⟩
 case round=>
  clear HO
  obtain ⟨j,hj,rfl,rfl,HR⟩:=hrel
  by_cases hlt:j<xs.length
  ·have hlt':(j:Int)<(xs.length:Int):=by omega
   have hg:∃ g,a0=some ⟨g,0,none⟩/\g<wr.heap.size:=by
    obtain ⟨⟨ys,he,ho,_⟩,_⟩:=HR.out
    obtain ⟨g,hg,_,_,hl⟩:=own_someB ho (by omega)
    exact ⟨g,hg,hl⟩
   obtain ⟨g,rfl,hgl⟩:=hg
   have fz:wr.frozen? ⟨g,j,none⟩=false:=by obtain ⟨⟨ys,he,ho,_⟩,_⟩:=HR.out;rw [<- he] at ho;exact ho.frozen j
   have cz:∃ z:Int,wr.cell? ⟨g,j,none⟩=some (.int .u8 z):=by obtain ⟨⟨ys,he,ho,_⟩,_⟩:=HR.out;rw [<- he] at ho hlt;exact ⟨_,ho.cell hlt⟩
   obtain ⟨z,cz⟩:=cz
   go_wp2
   go_roundw
   case rel=>
    refine ⟨j+1,by omega,by go_num,by go_num,?_⟩
    obtain ⟨⟨ys,he,ho,hy⟩,hgr⟩:=HR.out
    obtain ⟨ho',hg'⟩:=ho.set he.symm j (IntKind.u8.wrap (k+j))
    refine ⟨⟨ys.set j (IntKind.u8.wrap (k+j)),by simpa using he,ho',fun t ht=>?_⟩,hgr.trans hg'⟩
    by_cases htj:t=j
    ·subst htj;exact getD_set_self ys t _ (by omega)
    ·rw [getD_set_ne ys t j _ htj];exact hy t (by omega)
   case measure=>simp [intOf];omega
  ·have hlt':¬ (j:Int)<(xs.length:Int):=by omega
   have HF:Hid (OwnB wr B (.slice a0 xs.length cap) (marksB k xs.length)/\w.grownBy wr (Value.slice a0 xs.length cap).ownBlock):=by
    obtain ⟨⟨ys,he,ho,hy⟩,hgr⟩:=HR.out
    have:ys=marksB k xs.length:=ext_getD (by rw [he,marksB_length]) fun i hi=>by rw [hy i (by omega),marksB_at _ _ _ (by omega)]
    rw [this] at ho
    exact ⟨ho,hgr⟩
   have hjl:(j:Int)=xs.length:=by omega
   have HJ:Hid ((j:Int)=xs.length):=hjl
   clear HR hjl
   go_wp2
   go_ret
   exact ⟨ret_int (by rw [HJ.out]),HF.out⟩
theorem toByteS_any (a0:Option Addr) (cap:Nat) (xs:List Int) (w:World) (hlen:xs.length<=1048576) (hc:SlB w a0 xs):
  Calls Tryz.prog 5 #[.slice a0 xs.length cap] w fun e w'=>e=.returned (.slice (some ⟨w.heap.size,0,none⟩) xs.length xs.length)/\OwnB w' w.heap.size (.slice (some ⟨w.heap.size,0,none⟩) xs.length xs.length) xs/\w.heap.size<w'.heap.size/\Below w.heap.size w w':=by
 have hl':(xs.length:Int)<=1048576:=by omega
 have hmk:=run_make_byte xs.length hlen
 have HM:=made_ownB w xs.length hlen
 have HC:Hid (SlB w a0 xs):=hc
 clear hc
 go_enter Tryz.func5,Tryz.ntmps5
 go_wp2_with fail
 clear hmk
 go_loopw [4] (fun i wr=>∃ k:Nat,k<=xs.length/\i=.int .i64 k/\Hid (∃ ys,ys.length=xs.length/\OwnB wr w.heap.size (.slice (some ⟨w.heap.size,0,none⟩) xs.length xs.length) ys/\∀ j,j<k->zi ys j=zi xs j)/\Below w.heap.size w wr) (fun i _=>xs.length - (intOf i).toNat)
 case atStart=>exact ⟨0,Nat.zero_le _,rfl,⟨_,by simp,HM,fun j hj=>by omega⟩,(Below.refl _ _).alloc (Nat.le_refl _) _⟩
 case round=>
  clear HM
  obtain ⟨k,hk,rfl,HR,hbw⟩:=hrel
  have hs:w.heap.size<wr.heap.size:=by obtain ⟨ys,_,ho,_⟩:=HR.out;exact (ho.lt _ rfl).2
  by_cases hlt:k<xs.length
  ·obtain ⟨b,off,rfl,hbl,ck⟩:=(HC.out.below hbw).at hlt
   have fz:wr.frozen? ⟨w.heap.size,k,none⟩=false:=by obtain ⟨ys,he,ho,_⟩:=HR.out;rw [<- he] at ho;exact ho.frozen k
   have cz:∃ z:Int,wr.cell? ⟨w.heap.size,k,none⟩=some (.int .u8 z):=by obtain ⟨ys,he,ho,_⟩:=HR.out;rw [<- he] at ho hlt;exact ⟨_,ho.cell hlt⟩
   obtain ⟨z,cz⟩:=cz
   go_wp2
   go_roundw
   case rel=>
    refine ⟨k+1,by omega,by go_num,?_,hbw.setCell (Nat.le_refl _) _⟩
    obtain ⟨ys,he,ho,hy⟩:=HR.out
    refine ⟨ys.set k (zi xs k),by simpa using he,(ho.set he.symm k _).1,fun j hj=>?_⟩
    by_cases hjk:j=k
    ·subst hjk;exact getD_set_self ys j _ (by omega)
    ·rw [getD_set_ne ys j k _ hjk];exact hy j (by omega)
   case measure=>simp [intOf];omega
  ·have HF:Hid (OwnB wr w.heap.size (.slice (some ⟨w.heap.size,0,none⟩) xs.length xs.length) xs):=by
    obtain ⟨ys,he,ho,hy⟩:=HR.out
    have:ys=xs:=ext_getD he fun i hi=>hy i (by omega)
    rw [this] at ho
    exact ho
   clear HR
   go_wp2
   go_ret
   exact ⟨rfl,HF.out,hs,hbw⟩
theorem append_byte {ops:Array Oper} {rest:List Oper} {op:Oper} {act:Act} {Q:Exit->Act->World->Prop} (w:World) (hgd:op.guard=none) (s x:Operand)
  (ho:op.op=.call { callee:=.builtin .append,args:=#[s,x],argTypes:=#[22,22] })
  (B:Nat) (v:Value) (xs:List Int) (hs:act.eval s=v) (hv:OwnB w B v xs) (y:Int) (hx:act.eval x=.slice (some ⟨w.heap.size,0,none⟩) 1 1) (hn:xs.length<=1048576) (hB:B<=w.heap.size)
  (h:∀ v' w',OwnB w' B v' (xs ++ [y])->Below B w w'->wpList Tryz.prog ops Q rest (act.put op.dst v') w'):
  wpList Tryz.prog ops Q (op :: rest) act (w.alloc (.cells #[.int .u8 y] 5)):=by
 have hb:Below w.heap.size w (w.alloc (.cells #[.int .u8 y] 5)):=(Below.refl _ _).alloc (Nat.le_refl _) _
 refine wpList_append_bytes _ hgd s x ho B 1 v (some ⟨w.heap.size,0,none⟩) xs [y] hs hx (hv.below hb) (.inr ⟨w.heap.size,0,rfl,by simp,fun i hi=>?_⟩) (by simp;omega) (by simp;omega) ?_
 ·have:i=0:=by simp at hi;omega
  subst this
  exact zV _ _ _ 0 rfl
 ·intro v' w' o g _
  refine h v' w' o (Below.grown (hb.mono hB) g (by simp;omega) (fun k hk=>(hv.lt k hk).1))
theorem OwnB.to {w:World} {B:Nat} {v:Value} {xs ys:List Int} (h:OwnB w B v xs) (e:ys=xs):OwnB w B v ys:=e ▸ h
def fd (x:Int):Nat:=if x<0 then (-2*x - 1).toNat else (2*x).toNat
def fmN:Nat->Nat->List Int
 | 0,n=>[(n:Int)]
 | k+1,n=>if n<128 then [(n:Int)] else ((n % 128+128:Nat):Int) :: fmN k (n / 128)
def puB (x:Int):Bool:=decide (-2000000000<=x/\x<=2000000000)
def puL (x:Int):List Int:=if puB x=true then fmN 4 (fd x) else []
theorem fm_last (k n:Nat) (h:n<128):fmN k n=[(n:Int)]:=by
 cases k with
 | zero=>rfl
 | succ k=>rw [fmN,if_pos h]
theorem fm_step (k n:Nat) (h:128<=n) (hk:n<128 ^ (k+1)):∃ j,k=j+1/\n / 128<128 ^ (j+1)/\fmN k n=((n % 128+128:Nat):Int) :: fmN j (n / 128):=by
 cases k with
 | zero=>simp at hk;omega
 | succ k=>
  refine ⟨k,rfl,?_,?_⟩
  ·rw [Nat.pow_succ] at hk
   exact Nat.div_lt_of_lt_mul (by rw [Nat.mul_comm];exact hk)
  ·rw [fmN,if_neg (by omega)]
theorem fm_len:∀ k n,(fmN k n).length<=k+1
 | 0,n=>by simp [fmN]
 | k+1,n=>by
  rw [fmN]
  split
  ·simp
  ·have:=fm_len k (n / 128)
   simp
   omega
theorem fm_pos (k n:Nat):0<(fmN k n).length:=by
 cases k with
 | zero=>simp [fmN]
 | succ k=>rw [fmN];split <;> simp
theorem fd_le (x:Int) (h:puB x=true):fd x<=4000000000:=by
 unfold puB at h
 have:=of_decide_eq_true h
 unfold fd
 split <;> omega
theorem puL_len (x:Int):(puL x).length<=5:=by
 unfold puL
 split
 ·exact fm_len 4 _
 ·simp
structure PuR (n k r:Nat) (f:List Int):Prop where
 eq:f ++ fmN k r=fmN 4 n
 ln:f.length+k=4
 lt:r<128 ^ (k+1)
 le:r<=4000000000
theorem PuR.new (n:Nat) (h:n<=4000000000):PuR n 4 n []:=⟨rfl,rfl,by omega,h⟩
theorem PuR.step {n k r:Nat} {f:List Int} (h:PuR n k r f) (hr:128<=r):∃ j,PuR n j (r / 128) (f ++ [((r % 128+128:Nat):Int)]):=by
 obtain ⟨j,rfl,hj,e⟩:=fm_step k r hr h.lt
 refine ⟨j,?_,?_,hj,zO (Nat.div_le_self _ _) h.le⟩
 ·rw [List.append_assoc,List.singleton_append,<- e,h.eq]
 ·have:=h.ln
  simp
  omega
theorem PuR.last {n k r:Nat} {f:List Int} (h:PuR n k r f) (hr:r<128):f ++ [(r:Int)]=fmN 4 n:=by
 rw [<- h.eq,fm_last k r hr]
theorem fd_val (x:Int):((fd x:Nat):Int)=if x<0 then -2*x - 1 else 2*x:=by
 unfold fd
 split <;> omega
theorem folded_any (x:Int) (w:World) (h1:-2000000000<=x) (h2:x<=2000000000):
  Calls Tryz.prog 125 #[.int .i64 x] w fun e w'=>e=.returned (.int .i64 (if x<0 then -2*x - 1 else 2*x))/\w'=w:=by
 by_cases hc:x<0
 ·go_enter Tryz.func125,Tryz.ntmps125
  go_wp2
  go_ret
  exact ⟨by simp,rfl⟩
 ·go_enter Tryz.func125,Tryz.ntmps125
  go_wp2
  go_ret
  exact ⟨by simp,rfl⟩
theorem specPutNum_any (x:Int) (w:World):
  Calls Tryz.prog 39 #[.int .i64 x] w fun e w'=>∃ v,e=.returned v/\OwnB w' w.heap.size v (puL x)/\Below w.heap.size w w':=by
 have H0:Hid (OwnB (w.alloc (.cells #[] 5)) w.heap.size (.slice (some ⟨w.heap.size,0,none⟩) 0 0) []):=ownB_empty w
 have B0:Below w.heap.size w (w.alloc (.cells #[] 5)):=(Below.refl _ _).alloc (Nat.le_refl _) _
 by_cases hx:puB x=true
 ·have hx1:=of_decide_eq_true hx
  have hin:inB x (-2000000000) 2000000000=true:=decide_eq_true hx1
  obtain ⟨h1,h2⟩:=hx1
  have HN:Hid (puL x=fmN 4 (fd x)):=by show puL x=fmN 4 (fd x);rw [puL,if_pos hx]
  have hle:=fd_le x hx
  have EF:Hid (((fd x:Nat):Int)=if x<0 then -2*x - 1 else 2*x):=fd_val x
  generalize fd x=n at hle HN EF
  clear hx
  by_cases hc:x<0
  ·have EN:Hid (-2*x - 1=(n:Int)):=by have e:=EF.out;rw [if_pos hc] at e;exact e.symm
   clear EF
   go_enter Tryz.func39,Tryz.ntmps39
   go_wp2_with fail
   generalize w.alloc (.cells #[] 5)=w0 at *
   refine (l1In_any x (-2000000000) 2000000000 w0).mono ?_
   rintro e w1 ⟨rfl,rfl⟩
   rw [hin]
   clear hin
   go_wp2_with fail
   go_loopw [3,4] (fun o q wr=>∃ (k r:Nat) (f:List Int),q=.int .i64 (r:Int)/\Hid (OwnB wr w.heap.size o f/\PuR n k r f)/\Below w.heap.size w wr) (fun _ q _=>(intOf q).toNat)
   case atStart=>exact ⟨4,n,[],by rw [EN.out],⟨H0.out,PuR.new n hle⟩,B0⟩
   case round=>
    clear H0 B0 EN
    obtain ⟨k,r,f,rfl,HR,hbw⟩:=hrel
    have hr4:(r:Int)<=4000000000:=by have:=HR.out.2.le;omega
    by_cases hr:128<=r
    ·have hr1:(127:Int)<(r:Int):=by omega
     have hr2:(128:Int)<=(r:Int):=by omega
     have hw1:IntKind.u8.wrap ((r:Int) % 128+128)=(r:Int) % 128+128:=by rw [IntKind.wrap_u8];omega
     have hs:w.heap.size<=wr.heap.size:=hbw.size
     have hf:f.length<=1048576:=by have:=HR.out.2.ln;omega
     go_wp2_with (at_builtin;refine append_byte wr rfl _ _ rfl w.heap.size u3 f rfl HR.out.1 ((r:Int) % 128+128) rfl hf hs ?_;intro v' w4 o4 b4;have H4:Hid (OwnB w4 w.heap.size v' (f ++ [((r % 128+128:Nat):Int)])):=o4.to (by rw [Int.natCast_add,Int.natCast_emod];rfl);clear o4)
     go_roundw
     case rel=>
      obtain ⟨j,hj⟩:=HR.out.2.step hr
      exact ⟨j,r / 128,_,by go_num,⟨H4.out,hj⟩,hbw.trans b4⟩
     case measure=>simp [intOf];omega
    ·have hr1:¬ (127:Int)<(r:Int):=by omega
     have hr2:¬ (128:Int)<=(r:Int):=by omega
     have hw1:IntKind.u8.wrap (r:Int)=(r:Int):=by rw [IntKind.wrap_u8];omega
     have hs:w.heap.size<=wr.heap.size:=hbw.size
     have hf:f.length<=1048576:=by have:=HR.out.2.ln;omega
     go_wp2_with (at_builtin;refine append_byte wr rfl _ _ rfl w.heap.size u3 f rfl HR.out.1 (r:Int) rfl hf hs ?_;intro v' w4 o4 b4;have H4:Hid (OwnB w4 w.heap.size v' (puL x)):=o4.to (by rw [HN.out];exact (HR.out.2.last (by omega)).symm);clear o4)
     go_ret
     exact ⟨_,rfl,H4.out,hbw.trans b4⟩
  ·have EN:Hid (2*x=(n:Int)):=by have e:=EF.out;rw [if_neg hc] at e;exact e.symm
   clear EF
   go_enter Tryz.func39,Tryz.ntmps39
   go_wp2_with fail
   generalize w.alloc (.cells #[] 5)=w0 at *
   refine (l1In_any x (-2000000000) 2000000000 w0).mono ?_
   rintro e w1 ⟨rfl,rfl⟩
   rw [hin]
   clear hin
   go_wp2_with fail
   go_loopw [3,4] (fun o q wr=>∃ (k r:Nat) (f:List Int),q=.int .i64 (r:Int)/\Hid (OwnB wr w.heap.size o f/\PuR n k r f)/\Below w.heap.size w wr) (fun _ q _=>(intOf q).toNat)
   case atStart=>exact ⟨4,n,[],by rw [EN.out],⟨H0.out,PuR.new n hle⟩,B0⟩
   case round=>
    clear H0 B0 EN
    obtain ⟨k,r,f,rfl,HR,hbw⟩:=hrel
    have hr4:(r:Int)<=4000000000:=by have:=HR.out.2.le;omega
    by_cases hr:128<=r
    ·have hr1:(127:Int)<(r:Int):=by omega
     have hr2:(128:Int)<=(r:Int):=by omega
     have hw1:IntKind.u8.wrap ((r:Int) % 128+128)=(r:Int) % 128+128:=by rw [IntKind.wrap_u8];omega
     have hs:w.heap.size<=wr.heap.size:=hbw.size
     have hf:f.length<=1048576:=by have:=HR.out.2.ln;omega
     go_wp2_with (at_builtin;refine append_byte wr rfl _ _ rfl w.heap.size u3 f rfl HR.out.1 ((r:Int) % 128+128) rfl hf hs ?_;intro v' w4 o4 b4;have H4:Hid (OwnB w4 w.heap.size v' (f ++ [((r % 128+128:Nat):Int)])):=o4.to (by rw [Int.natCast_add,Int.natCast_emod];rfl);clear o4)
     go_roundw
     case rel=>
      obtain ⟨j,hj⟩:=HR.out.2.step hr
      exact ⟨j,r / 128,_,by go_num,⟨H4.out,hj⟩,hbw.trans b4⟩
     case measure=>simp [intOf];omega
    ·have hr1:¬ (127:Int)<(r:Int):=by omega
     have hr2:¬ (128:Int)<=(r:Int):=by omega
     have hw1:IntKind.u8.wrap (r:Int)=(r:Int):=by rw [IntKind.wrap_u8];omega
     have hs:w.heap.size<=wr.heap.size:=hbw.size
     have hf:f.length<=1048576:=by have:=HR.out.2.ln;omega
     go_wp2_with (at_builtin;refine append_byte wr rfl _ _ rfl w.heap.size u3 f rfl HR.out.1 (r:Int) rfl hf hs ?_;intro v' w4 o4 b4;have H4:Hid (OwnB w4 w.heap.size v' (puL x)):=o4.to (by rw [HN.out];exact (HR.out.2.last (by omega)).symm);clear o4)
     go_ret
     exact ⟨_,rfl,H4.out,hbw.trans b4⟩
 ·have HN:Hid (puL x=[]):=by show puL x=[];rw [puL,if_neg hx]
  have hin:inB x (-2000000000) 2000000000=false:=by
   cases hv:inB x (-2000000000) 2000000000 with
   | false=>rfl
   | true=>exact absurd hv hx
  clear hx
  go_enter Tryz.func39,Tryz.ntmps39
  go_wp2_with fail
  generalize w.alloc (.cells #[] 5)=w0 at *
  refine (l1In_any x (-2000000000) 2000000000 w0).mono ?_
  rintro e w1 ⟨rfl,rfl⟩
  rw [hin]
  clear hin
  go_wp2
  go_ret
  exact ⟨_,rfl,by rw [HN.out];exact H0.out,B0⟩
theorem implPutNum_any (x:Int) (w:World):
  Calls Tryz.prog 107 #[.int .i64 x] w fun e w'=>∃ v,e=.returned v/\OwnB w' w.heap.size v (puL x)/\Below w.heap.size w w':=by
 have H0:Hid (OwnB (w.alloc (.cells #[] 5)) w.heap.size (.slice (some ⟨w.heap.size,0,none⟩) 0 0) []):=ownB_empty w
 have B0:Below w.heap.size w (w.alloc (.cells #[] 5)):=(Below.refl _ _).alloc (Nat.le_refl _) _
 by_cases hx:puB x=true
 ·have hx1:=of_decide_eq_true hx
  obtain ⟨h1,h2⟩:=hx1
  have HN:Hid (puL x=fmN 4 (fd x)):=by show puL x=fmN 4 (fd x);rw [puL,if_pos hx]
  have hle:=fd_le x hx
  have EF:Hid (((fd x:Nat):Int)=if x<0 then -2*x - 1 else 2*x):=fd_val x
  generalize fd x=n at hle HN EF
  clear hx
  have hn1:¬ x < -2000000000:=by omega
  have hn2:¬ 2000000000<x:=by omega
  by_cases hc:x<0
  ·have EN:Hid (-2*x - 1=(n:Int)):=by have e:=EF.out;rw [if_pos hc] at e;exact e.symm
   clear EF
   go_enter Tryz.func107,Tryz.ntmps107
   go_wp2_with fail
   generalize w.alloc (.cells #[] 5)=w0 at *
   refine (folded_any x w0 h1 h2).mono ?_
   rintro e w1 ⟨rfl,rfl⟩
   rw [if_pos hc]
   go_wp2_with fail
   go_loopw [3,4] (fun o q wr=>∃ (k r:Nat) (f:List Int),q=.int .i64 (r:Int)/\Hid (OwnB wr w.heap.size o f/\PuR n k r f)/\Below w.heap.size w wr) (fun _ q _=>(intOf q).toNat)
   case atStart=>exact ⟨4,n,[],by rw [EN.out],⟨H0.out,PuR.new n hle⟩,B0⟩
   case round=>
    clear H0 B0 EN
    obtain ⟨k,r,f,rfl,HR,hbw⟩:=hrel
    have hr4:(r:Int)<=4000000000:=by have:=HR.out.2.le;omega
    by_cases hr:128<=r
    ·have hr1:(127:Int)<(r:Int):=by omega
     have hr2:(128:Int)<=(r:Int):=by omega
     have hw1:IntKind.u8.wrap ((r:Int) % 128+128)=(r:Int) % 128+128:=by rw [IntKind.wrap_u8];omega
     have hs:w.heap.size<=wr.heap.size:=hbw.size
     have hf:f.length<=1048576:=by have:=HR.out.2.ln;omega
     go_wp2_with (at_builtin;refine append_byte wr rfl _ _ rfl w.heap.size u3 f rfl HR.out.1 ((r:Int) % 128+128) rfl hf hs ?_;intro v' w4 o4 b4;have H4:Hid (OwnB w4 w.heap.size v' (f ++ [((r % 128+128:Nat):Int)])):=o4.to (by rw [Int.natCast_add,Int.natCast_emod];rfl);clear o4)
     go_roundw
     case rel=>
      obtain ⟨j,hj⟩:=HR.out.2.step hr
      exact ⟨j,r / 128,_,by go_num,⟨H4.out,hj⟩,hbw.trans b4⟩
     case measure=>simp [intOf];omega
    ·have hr1:¬ (127:Int)<(r:Int):=by omega
     have hr2:¬ (128:Int)<=(r:Int):=by omega
     have hw1:IntKind.u8.wrap (r:Int)=(r:Int):=by rw [IntKind.wrap_u8];omega
     have hs:w.heap.size<=wr.heap.size:=hbw.size
     have hf:f.length<=1048576:=by have:=HR.out.2.ln;omega
     go_wp2_with (at_builtin;refine append_byte wr rfl _ _ rfl w.heap.size u3 f rfl HR.out.1 (r:Int) rfl hf hs ?_;intro v' w4 o4 b4;have H4:Hid (OwnB w4 w.heap.size v' (puL x)):=o4.to (by rw [HN.out];exact (HR.out.2.last (by omega)).symm);clear o4)
     go_ret
     exact ⟨_,rfl,H4.out,hbw.trans b4⟩
  ·have EN:Hid (2*x=(n:Int)):=by have e:=EF.out;rw [if_neg hc] at e;exact e.symm
   clear EF
   go_enter Tryz.func107,Tryz.ntmps107
   go_wp2_with fail
   generalize w.alloc (.cells #[] 5)=w0 at *
   refine (folded_any x w0 h1 h2).mono ?_
   rintro e w1 ⟨rfl,rfl⟩
   rw [if_neg (by omega)]
   go_wp2_with fail
   go_loopw [3,4] (fun o q wr=>∃ (k r:Nat) (f:List Int),q=.int .i64 (r:Int)/\Hid (OwnB wr w.heap.size o f/\PuR n k r f)/\Below w.heap.size w wr) (fun _ q _=>(intOf q).toNat)
   case atStart=>exact ⟨4,n,[],by rw [EN.out],⟨H0.out,PuR.new n hle⟩,B0⟩
   case round=>
    clear H0 B0 EN
    obtain ⟨k,r,f,rfl,HR,hbw⟩:=hrel
    have hr4:(r:Int)<=4000000000:=by have:=HR.out.2.le;omega
    by_cases hr:128<=r
    ·have hr1:(127:Int)<(r:Int):=by omega
     have hr2:(128:Int)<=(r:Int):=by omega
     have hw1:IntKind.u8.wrap ((r:Int) % 128+128)=(r:Int) % 128+128:=by rw [IntKind.wrap_u8];omega
     have hs:w.heap.size<=wr.heap.size:=hbw.size
     have hf:f.length<=1048576:=by have:=HR.out.2.ln;omega
     go_wp2_with (at_builtin;refine append_byte wr rfl _ _ rfl w.heap.size u3 f rfl HR.out.1 ((r:Int) % 128+128) rfl hf hs ?_;intro v' w4 o4 b4;have H4:Hid (OwnB w4 w.heap.size v' (f ++ [((r % 128+128:Nat):Int)])):=o4.to (by rw [Int.natCast_add,Int.natCast_emod];rfl);clear o4)
     go_roundw
     case rel=>
      obtain ⟨j,hj⟩:=HR.out.2.step hr
      exact ⟨j,r / 128,_,by go_num,⟨H4.out,hj⟩,hbw.trans b4⟩
     case measure=>simp [intOf];omega
    ·have hr1:¬ (127:Int)<(r:Int):=by omega
     have hr2:¬ (128:Int)<=(r:Int):=by omega
     have hw1:IntKind.u8.wrap (r:Int)=(r:Int):=by rw [IntKind.wrap_u8];omega
     have hs:w.heap.size<=wr.heap.size:=hbw.size
     have hf:f.length<=1048576:=by have:=HR.out.2.ln;omega
     go_wp2_with (at_builtin;refine append_byte wr rfl _ _ rfl w.heap.size u3 f rfl HR.out.1 (r:Int) rfl hf hs ?_;intro v' w4 o4 b4;have H4:Hid (OwnB w4 w.heap.size v' (puL x)):=o4.to (by rw [HN.out];exact (HR.out.2.last (by omega)).symm);clear o4)
     go_ret
     exact ⟨_,rfl,H4.out,hbw.trans b4⟩
 ·have HN:Hid (puL x=[]):=by show puL x=[];rw [puL,if_neg hx]
  have hx1:¬ (-2000000000<=x/\x<=2000000000):=fun h=>hx (decide_eq_true h)
  clear hx
  by_cases hn1:x < -2000000000
  ·clear hx1
   go_enter Tryz.func107,Tryz.ntmps107
   go_wp2
   go_ret
   exact ⟨_,rfl,by rw [HN.out];exact H0.out,B0⟩
  ·have hn2:2000000000<x:=by omega
   clear hx1
   go_enter Tryz.func107,Tryz.ntmps107
   go_wp2
   go_ret
   exact ⟨_,rfl,by rw [HN.out];exact H0.out,B0⟩
theorem Sy.Ok.hl200 {y:Sy} (h:y.Ok) {p:Nat} (hp:p<y.pn):y.hL p<=200:=(repO_some (h.rp p hp)).2.1
theorem plN_get (eh:Nat->E3) (kd pr:Int):∀ (n j q:Nat),(plN eh kd pr n)[j]? = some q->q<n/\hitB eh kd pr q=true/\cnt eh kd pr q=j
 | 0,j,q,h=>by simp [plN] at h
 | n+1,j,q,h=>by
  rcases zK (hitB eh kd pr n) with t | t
  ·rw [plN,if_pos t] at h
   by_cases hj:j<(plN eh kd pr n).length
   ·rw [List.getElem?_append_left hj] at h
    obtain ⟨h1,h2,h3⟩:=plN_get eh kd pr n j q h
    exact ⟨by omega,h2,h3⟩
   ·rw [List.getElem?_append_right (by omega)] at h
    have hj2:j - (plN eh kd pr n).length=0:=by
     by_cases e:j - (plN eh kd pr n).length=0
     ·exact e
     ·rw [List.getElem?_eq_none (by simp;omega)] at h
      cases h
    rw [hj2] at h
    simp at h
    subst h
    refine ⟨by omega,t,?_⟩
    unfold cnt
    omega
  ·rw [plN,if_neg (by rw [t];decide)] at h
   obtain ⟨h1,h2,h3⟩:=plN_get eh kd pr n j q h
   exact ⟨by omega,h2,h3⟩
theorem nthV_some {eh:Nat->E3} {kd pr:Int} {len n:Nat} (h:n<cnt eh kd pr len):∃ q:Nat,nthV eh kd pr len n=q/\q<len/\hitB eh kd pr q=true/\cnt eh kd pr q=n:=by
 have hl:n<(plI eh kd pr len).length:=by rw [plI_length];exact h
 obtain ⟨q,h1,h2,h3⟩:=plI_place eh kd pr len n hl
 obtain ⟨-,h4,h5⟩:=plN_get eh kd pr len n q h3
 refine ⟨q,?_,h2,h4,h5⟩
 unfold nthV
 rw [if_pos (by simp [belB];omega),Int.toNat_natCast]
 exact h1
theorem nthV_none {eh:Nat->E3} {kd pr:Int} {len n:Nat} (h:cnt eh kd pr len<=n):nthV eh kd pr len n = -1:=by
 unfold nthV
 rw [if_neg]
 have hl:(plI eh kd pr len).length<=n:=by rw [plI_length];exact h
 simp [belB]
 omega
structure Sy.Cut (y:Sy) (c:List Int):Prop where
 len:c.length=y.pn
 le:∀ p,p<y.pn->0<=zi c p/\zi c p<=(y.hL p:Int)
def cN (c:List Int) (p:Nat):Nat:=(zi c p).toNat
def sN (y:Sy) (c:Nat->Nat) (a b:Nat):Nat:=cnt (y.hH a) 2 b (c a)
def tN (y:Sy) (c:Nat->Nat) (a b:Nat):Nat:=cnt (y.hH b) 3 a (c b)
def Sy.Wh (y:Sy) (c:Nat->Nat):Prop:=∀ a,a<y.pn->∀ b,b<y.pn->tN y c a b<=sN y c a b
def ovN (y:Sy) (c:Nat->Nat) (a b:Nat):Int:=nthV (y.hH b) 3 a (c b) (sN y c a b:Nat)
theorem ovN_no {y:Sy} {c:Nat->Nat} {a b:Nat} (h:tN y c a b<=sN y c a b):ovN y c a b = -1:=nthV_none h
theorem ovN_yes {y:Sy} {c:Nat->Nat} {a b:Nat} (h:¬ tN y c a b<=sN y c a b):∃ k:Nat,ovN y c a b=k/\k<c b/\hitB (y.hH b) 3 a k=true/\cnt (y.hH b) 3 a k=sN y c a b:=nthV_some (by unfold tN at h;omega)
theorem ovN_neg {y:Sy} {c:Nat->Nat} {a b:Nat}:ovN y c a b<0 ↔ tN y c a b<=sN y c a b:=by
 refine ⟨fun h=>?_,fun h=>by rw [ovN_no h];decide⟩
 by_cases hc:tN y c a b<=sN y c a b
 ·exact hc
 ·obtain ⟨k,e,-⟩:=ovN_yes hc
  omega
structure Sy.Cl (y:Sy) (c e:List Int):Prop where
 len:e.length=y.pn
 le:∀ p,p<y.pn->0<=zi e p/\zi e p<=zi c p
 gr:∀ d:Nat->Nat,(∀ p,p<y.pn->(d p:Int)<=zi c p)->y.Wh d->∀ p,p<y.pn->(d p:Int)<=zi e p
theorem Sy.Cl.start {y:Sy} {c:List Int} (h:y.Cut c):y.Cl c c:=⟨h.len,fun p hp=>⟨(h.le p hp).1,Int.le_refl _⟩,fun _ h _=>h⟩
theorem zi_set {e:List Int} {b p:Nat} {k:Int} (hb:b<e.length):zi (e.set b k) p=if p=b then k else zi e p:=by
 by_cases h:p=b
 ·subst h
  rw [if_pos rfl,getD_set_self e p k hb]
 ·rw [if_neg h,getD_set_ne e p b k h]
theorem Sy.Cl.next {y:Sy} {c e:List Int} {a b:Nat} (h:y.Cl c e) (ha:a<y.pn) (hb:b<y.pn) (ho:0<=ovN y (cN e) a b):y.Cl c (e.set b (ovN y (cN e) a b))/\0<=ovN y (cN e) a b/\ovN y (cN e) a b<zi e b:=by
 have hn:¬ tN y (cN e) a b<=sN y (cN e) a b:=fun hc=>by
  have:=ovN_neg.2 hc
  omega
 obtain ⟨k,e1,e2,e3,e4⟩:=ovN_yes hn
 have eb:=(h.le b hb)
 have hkb:(k:Int)<zi e b:=by unfold cN at e2;omega
 refine ⟨⟨by rw [List.length_set];exact h.len,fun p hp=>?_,fun d hd hw p hp=>?_⟩,ho,by omega⟩
 ·rw [zi_set (by rw [h.len];exact hb)]
  by_cases ep:p=b
  ·subst ep
   rw [if_pos rfl]
   omega
  ·rw [if_neg ep]
   exact h.le p hp
 ·rw [zi_set (by rw [h.len];exact hb)]
  have h0:=h.gr d hd hw p hp
  by_cases ep:p=b
  ·subst ep
   rw [if_pos rfl,e1]
   by_cases hc:(d p:Int)<=k
   ·exact hc
   ·exfalso
    have h1 : sN y d a p ≤ sN y (cN e) a p := cnt_mono _ _ _ (by
     have:=h.gr d hd hw a ha
     unfold cN
     omega)
    have h2:cnt (y.hH p) 3 a (k+1)<=tN y d a p:=cnt_mono _ _ _ (by omega)
    rw [cnt_hit e3,e4] at h2
    have:=hw a ha p hb
    omega
  ·rw [if_neg ep]
   exact h0
theorem Sy.Cl.same {y:Sy} {c e e':List Int} (h:y.Cl c e) (hw:y.Wh (cN e)) (h':y.Cl c e') (hw':y.Wh (cN e')):e=e':=by
 refine ext_getD (h.len.trans h'.len.symm) fun p hp=>?_
 have hp':p<y.pn:=by rw [<- h.len];exact hp
 have h1:=h.gr (cN e') (fun q hq=>by have:=h'.le q hq;unfold cN;omega) hw' p hp'
 have h2:=h'.gr (cN e) (fun q hq=>by have:=h.le q hq;unfold cN;omega) hw p hp'
 have h3:=h.le p hp'
 have h4:=h'.le p hp'
 unfold cN at h1 h2
 omega
def flT (y:Sy) (k:Nat):List Int:=(List.range k).map fun p=>(y.hL p:Int)
theorem flT_next (y:Sy) (k:Nat):flT y (k+1)=flT y k ++ [(y.hL k:Int)]:=by
 unfold flT
 rw [List.range_succ,List.map_append]
 rfl
theorem flT_len (y:Sy) (k:Nat):(flT y k).length=k:=by simp [flT]
