import Derived.Test.YtpnlfccaggfgpaaGreatDoorEh0
import Derived.Test.YtpnlfccaggfgpaaGreatDoorEh24
import Derived.Test.YtpnlfccaggfgpaaGreatDoorEh22
import Derived.Test.YtpnlfccaggfgpaaGreatDoorEh13
import Derived.Test.YtpnlfccaggfgpaaGreatDoorEh20
import Derived.Test.YtpnlfccaggfgpaaGreatDoorEh17
import Derived.Test.YtpnlfccaggfgpaaGreatDoorEh14
namespace Go.Proofs.YtpnlfccaggfgpaaGreatDoor
set_option maxRecDepth 100000
set_option maxHeartbeats 4000000
open Go.ChangeShapes Go.WideShapes Go.ChangeAt Go.RowKit Go.Deep Go.Sort
theorem sumL_all {d l:Nat->Nat} (h:∀ i,d i<=l i) (n:Nat) (e:sumL d n=sumL l n) (p:Nat) (hp:p<n):d p=l p:=by
 induction n with
 | zero=>omega
 | succ n ih=>
  have h1:=sumL_le h n
  have h2:=h n
  have e':sumL d n+d n=sumL l n+l n:=e
  by_cases hpn:p=n
  ·subst hpn
   omega
  ·exact ih (by omega) (by omega)
structure OrdB (w:World) (D n:Nat) (d:Nat->Nat):Prop where
 c:∀ i,i<n->w.cell? ⟨D,i,none⟩=some (.int .i64 (d i))
 fr:∀ j,w.frozen? ⟨D,j,none⟩=false
theorem OrdB.blk {w w':World} {D n:Nat} {d:Nat->Nat} (h:OrdB w D n d) (hb:w'.heap[D]? = w.heap[D]?):OrdB w' D n d:=⟨fun i hi=>(zH hb).trans (h.c i hi),fun j=>(zI hb).trans (h.fr j)⟩
theorem OrdB.put {w:World} {D n k:Nat} {d:Nat->Nat} (h:OrdB w D n d) (hk:k<n):OrdB (w.setCell ⟨D,k,none⟩ (.int .i64 ((d k:Int)+1))) D n (up d k):=by
 refine ⟨fun i hi=>?_,fun j=>by rw [World.frozen?_setCell];exact h.fr j⟩
 by_cases e:i=k
 ·subst e
  rw [World.cell?_setCell_same' _ _ _ (by rw [h.c i hi];rfl),up_same]
  rfl
 ·rw [World.cell?_setCell_other _ _ _ _ (by intro e';injection e' with _ e';exact e e'.symm),up_other e]
  exact h.c i hi
structure Od (w wr:World) (B D:Nat) (ha:Option Addr) (hc:Nat) (y:Hs) (d:Nat->Nat):Prop where
 pu:y.Put d
 od:OrdB wr D y.n d
 bx:wr.cell? ⟨B,3,none⟩=some (.slice ha y.n hc)
 be:Below w.heap.size w wr
theorem Od.below {w wr w':World} {B D:Nat} {ha:Option Addr} {hc:Nat} {y:Hs} {d:Nat->Nat} (h:Od w wr B D ha hc y d) (hb:Below wr.heap.size wr w') (hD:D<wr.heap.size):Od w w' B D ha hc y d:=
 ⟨h.pu,h.od.blk (hb.block D hD),(hb.cell (p:=⟨B,3,none⟩) (zJ wr _ h.bx)).trans h.bx,h.be.trans (hb.mono h.be.size)⟩
theorem Od.set {w wr:World} {B D k:Nat} {ha:Option Addr} {hc:Nat} {y:Hs} {d:Nat->Nat} (h:Od w wr B D ha hc y d) (hk:k<y.n) (hcan:y.Can d k) (hBD:B≠D) (hw:w.heap.size<=D):Od w (wr.setCell ⟨D,k,none⟩ (.int .i64 ((d k:Int)+1))) B D ha hc y (up d k):=
 ⟨.next h.pu hk hcan,h.od.put hk,(World.cell?_setCell_other _ _ _ _ (by intro e;injection e with e;exact hBD e.symm)).trans h.bx,h.be.setCell hw _⟩
theorem madeInt_cell (w:World) (n i:Nat) (hi:i<n):(w.alloc (.cells (madeCells #[.int .i64 0] n) 3)).cell? ⟨w.heap.size,i,none⟩=some (.int .i64 0):=by
 rw [zW _ _ _ i rfl]
 simp [madeCells,hi,Nat.mod_one]
theorem slice_to (a:Option Addr) (len cap h:Nat) (hh:h<=cap) (w:World):(Instr.slice 56 (.slice a len cap) none (some (.int .i64 (h:Int))) none).run Tryz.prog w=.ok (.slice a h cap) w:=by
 have hh':(h:Int)<=(cap:Int):=by omega
 cases a with
 | none=>simp [go_sem,sliced,hh']
 | some a=>simp [go_sem,sliced,hh']
theorem l4Order_any (pa:Option Addr) (pn pc:Nat) (sa:Option Addr) (sn sc:Nat) (wa:Option Addr) (wn wc:Nat) (ha:Option Addr) (hc:Nat) (hA:Nat->Option Addr) (hC:Nat->Nat) (y:Hs) (w:World) (hE:HisE w ha hA hC y) (hcap:∀ i,i<y.n->y.l i<=hC i) (h1:1<=y.n) (h4:y.n<=4) (hp:y.Peers) (hl:∀ i,i<y.n->y.l i<=200):
  Calls Tryz.prog 43 #[sysV pa pn pc sa sn sc wa wn wc ha y.n hc] w fun e w'=>e=.returned (.bool (qB y.Row))/\Below w.heap.size w w':=by
 have HE:Hid (HisE w ha hA hC y):=hE
 have HH:Hid (y.Peers/\(∀ i,i<y.n->y.l i<=200)/\(∀ i,i<y.n->y.l i<=hC i)):=⟨hp,hl,hcap⟩
 have hn4:(y.n:Int)<=4:=by omega
 have hmk:∀ wx:World,(Instr.makeSlice 32 (.int .i64 (y.n:Int)) (.int .i64 (y.n:Int))).run Tryz.prog wx=.ok (.slice (some ⟨wx.heap.size,0,none⟩) y.n y.n) (wx.alloc (.cells (madeCells #[.int .i64 0] y.n) 3)):=fun wx=>run_make_int y.n (by omega) wx
 have HOd:Hid (Od w ((w.alloc (oQ4 pa pn pc sa sn sc wa wn wc ha y.n hc)).alloc (.cells (madeCells #[.int .i64 0] y.n) 3)) w.heap.size (w.heap.size+1) ha hc y (fun _=>0)):=by
  refine ⟨.start,⟨fun i hi=>?_,fun j=>yB _ _ _ _ (by simp)⟩,?_,(zT _ _).trans ((zT _ _).mono (by simp))⟩
  ·have:=madeInt_cell (w.alloc (oQ4 pa pn pc sa sn sc wa wn wc ha y.n hc)) y.n i hi
   rw [World.size_alloc] at this
   exact this
  ·exact ((BoxC.new w _ _ _ _ _).below (zT _ _)).2.2.2
 have HD:Hid (w.heap.size+1<((w.alloc (oQ4 pa pn pc sa sn sc wa wn wc ha y.n hc)).alloc (.cells (madeCells #[.int .i64 0] y.n) 3)).heap.size):=by
  show w.heap.size+1<_
  simp
 clear hE hp hl hcap
 go_enter Tryz.func43,Tryz.ntmps43
 go_wp2_with fail
 generalize (w.alloc (oQ4 pa pn pc sa sn sc wa wn wc ha y.n hc)).alloc (.cells (madeCells #[.int .i64 0] y.n) 3)=W1 at *
 generalize hD:w.heap.size+1=D at *
 have HDW:Hid (w.heap.size+1=D):=hD
 clear hmk hD
 go_loopw [6,7] (fun s i wr=>∃ k:Nat,k<=y.n/\i=.int .i64 k/\s=.int .i64 (sumL y.l k:Nat)/\wr=W1) (fun _ i _=>y.n - (intOf i).toNat)
 case atStart=>exact ⟨0,Nat.zero_le _,rfl,rfl,rfl⟩
 case round=>
  obtain ⟨k,hk,rfl,rfl,rfl⟩:=hrel
  have hsum:sumL y.l k<=200*k:=by
   have:∀ j,j<=y.n->sumL y.l j<=200*j:=by
    intro j
    induction j with
    | zero=>exact fun _=>Nat.le_refl _
    | succ j ih=>
     intro hj
     have h5:=ih (by omega)
     have h6:=HH.out.2.1 j (by omega)
     show sumL y.l j+y.l j<=200*(j+1)
     omega
   exact this k hk
  have hsum':((sumL y.l k:Nat):Int)<=1000:=by omega
  have b3:=HOd.out.bx
  by_cases hlt:k<y.n
  ·have hlt':(k:Int)<(y.n:Int):=by omega
   obtain ⟨bh,oh,eh,ch⟩:=(HE.out.below HOd.out.be).row.at hlt
   rw [eh] at b3
   have hl2:(y.l k:Int)<=200:=by have:=HH.out.2.1 k hlt;omega
   clear hsum
   go_wp2
   go_roundw
   case rel=>exact ⟨k+1,by omega,by go_num,by simp only [sumL];congr 1,by first | rfl | trivial⟩
   case measure=>simp [intOf];omega
  ·have hkn:k=y.n:=by omega
   subst hkn
   clear hlt hk hsum b3
   have hlt':¬ ((y.n:Int)<(y.n:Int)):=by omega
   have hsumI:∀ d:Nat->Nat,y.Put d->((sumL y.l y.n:Nat):Int) - ((sumL d y.n:Nat):Int)=((sumL y.l y.n - sumL d y.n:Nat):Int):=fun d hd=>by
    have:=sumL_le hd.le y.n
    omega
   have HSI:Hid (∀ d:Nat->Nat,y.Put d->((sumL y.l y.n:Nat):Int) - ((sumL d y.n:Nat):Int)=((sumL y.l y.n - sumL d y.n:Nat):Int)):=hsumI
   have HSM:Hid (((sumL y.l y.n:Nat):Int)<=1000):=hsum'
   clear hsumI hsum'
   go_wp2_with fail
   go_loopg [5,6] (2*(sumL y.l y.n)+1) (fun gn m s wr=>∃ (t:Bool) (d:Nat->Nat),m=.bool t/\s=.int .i64 ((sumL y.l y.n - sumL d y.n:Nat):Int)/\gn=2*(sumL y.l y.n - sumL d y.n)+(if t=true then 1 else 0)/\Hid (Od w wr w.heap.size D ha hc y d/\D<wr.heap.size/\(t=false->∀ p,p<y.n->¬ y.Can d p)))
   case atStart=>exact ⟨true,fun _=>0,rfl,by rw [sumL_zero];rfl,by rw [sumL_zero];rfl,HOd.out,HD.out,fun h=>by cases h⟩
   case round=>
    clear HOd HD
    obtain ⟨t,d,rfl,rfl,hgn,HI⟩:=hrel
    rcases zK t with rfl | rfl
    ·have HGN:Hid (gk=2*(sumL y.l y.n - sumL d y.n)+1):=hgn
     clear hgn
     go_wp2_with fail
     go_loopw [5,6,8] (fun m s i wr=>∃ (k:Nat) (t':Bool) (d':Nat->Nat),k<=y.n/\i=.int .i64 k/\m=.bool t'/\s=.int .i64 ((sumL y.l y.n - sumL d' y.n:Nat):Int)/\Hid (Od w wr w.heap.size D ha hc y d'/\D<wr.heap.size/\(t'=true->sumL d y.n<sumL d' y.n)/\(t'=false->d'=d/\∀ p,p<k->¬ y.Can d p))) (fun _ _ i _=>y.n - (intOf i).toNat)
     case atStart=>exact ⟨0,false,d,Nat.zero_le _,rfl,rfl,rfl,HI.out.1,HI.out.2.1,(fun h=>by cases h),fun _=>⟨rfl,fun p hp=>by omega⟩⟩
     case round=>
      clear HI
      obtain ⟨k,t',d',hk,rfl,rfl,rfl,HJ⟩:=hrel
      by_cases hlt:k<y.n
      ·have hlt':(k:Int)<(y.n:Int):=by omega
       have hdk:d' k<=y.l k:=HJ.out.1.pu.le k
       have hl2:(y.l k:Int)<=200:=by have:=HH.out.2.1 k hlt;omega
       have dk:=HJ.out.1.od.c k hlt
       have b3:=HJ.out.1.bx
       obtain ⟨bh,oh,eh,ch⟩:=(HE.out.below HJ.out.1.be).row.at hlt
       rw [eh] at b3
       by_cases he:d' k=y.l k
       ·have HNo:Hid (¬ y.Can d' k):=fun h=>by have:=h.1;omega
        have HJ' : ∀ nq, Hid (Od w (wr.drewN nq) w.heap.size D ha hc y d' ∧ D < (wr.drewN nq).heap.size ∧ (t' = true → sumL d y.n < sumL d' y.n) ∧ (t' = false → d' = d ∧ ∀ p, p < k + 1 → ¬ y.Can d p)) := fun nq => ⟨HJ.out.1.below (yC (Below.refl _ _) _) HJ.out.2.1, HJ.out.2.1, HJ.out.2.2.1, fun h => ⟨(HJ.out.2.2.2 h).1, fun p hp => by
         have h5:=HJ.out.2.2.2 h
         by_cases e:p=k
         ·subst e
          rw [<- h5.1]
          exact HNo.out
         ·exact h5.2 p (by omega)⟩⟩
        rw [he] at dk
        have HJQ:Hid (∀ nq,Hid (Od w (wr.drewN nq) w.heap.size D ha hc y d'/\D<(wr.drewN nq).heap.size/\(t'=true->sumL d y.n<sumL d' y.n)/\(t'=false->d'=d/\∀ p,p<k+1->¬ y.Can d p))):=HJ'
        clear HJ HJ' he hdk
        go_wp2_with fail
        go_quiet (fail)
        go_wp2
        go_roundw
        case rel=>exact ⟨k+1,t',d',by omega,by go_num,rfl,rfl,HJQ.out _⟩
        case measure=>simp [intOf];omega
       ·have hkl:d' k<y.l k:=by omega
        have hkl':(d' k:Int)<(y.l k:Int):=by omega
        have hne:((d' k:Int) == (y.l k:Int))=false:=by
         have:¬ (d' k:Int)=(y.l k:Int):=by omega
         simpa using this
        clear he hdk
        go_wp2_with fail
        go_quiet (fail)
        go_wp2_with fail
        have OD:Hid (Od w (wr.drewN nq) w.heap.size D ha hc y d'/\D<(wr.drewN nq).heap.size/\(t'=true->sumL d y.n<sumL d' y.n)/\(t'=false->d'=d/\∀ p,p<k->¬ y.Can d p)):=⟨HJ.out.1.below (yC (Below.refl _ _) _) HJ.out.2.1,HJ.out.2.1,HJ.out.2.2⟩
        clear HJ dk b3 ch
        generalize wr.drewN nq=wd at *
        have dk:=OD.out.1.od.c k hlt
        have b3:=OD.out.1.bx
        obtain ⟨bh',oh',eh',ch⟩:=(HE.out.below OD.out.1.be).row.at hlt
        rw [eh'] at b3
        obtain ⟨b,off,ea,zb,e0,e1,e2⟩:=((HE.out.below OD.out.1.be).ev k hlt).at hkl
        rw [ea] at ch
        have n1:wd.heap.size≠D:=by have:=OD.out.2.1;omega
        have n2:wd.heap.size≠b:=by omega
        have n3:wd.heap.size≠bh':=by have:=zJ wd _ ch;simp at this;omega
        have dk':=cell_allocs dk
        have b3':=cell_allocs b3
        have ch':=cell_allocs ch
        have e0':=cell_allocs e0
        have e1':=cell_allocs e1
        have e2':=cell_allocs e2
        clear zb
        go_region
        all_goals
         have OZ:Hid (Od w (wd.alloc (oQ0 (y.e k (d' k)).k (y.e k (d' k)).q (y.e k (d' k)).v)).drew w.heap.size D ha hc y d'/\D<(wd.alloc (oQ0 (y.e k (d' k)).k (y.e k (d' k)).q (y.e k (d' k)).v)).drew.heap.size/\(t'=true->sumL d y.n<sumL d' y.n)/\(t'=false->d'=d/\∀ p,p<k->¬ y.Can d p)):=⟨OD.out.1.below (zT _ _).drew OD.out.2.1,zL OD.out.2.1 (zT _ _).drew.size,OD.out.2.2⟩
         have z0:(wd.alloc (oQ0 (y.e k (d' k)).k (y.e k (d' k)).q (y.e k (d' k)).v)).drew.cell? ⟨wd.heap.size,0,none⟩=some (.int .i64 (y.e k (d' k)).k):=zW wd _ _ 0 rfl
         have z1:(wd.alloc (oQ0 (y.e k (d' k)).k (y.e k (d' k)).q (y.e k (d' k)).v)).drew.cell? ⟨wd.heap.size,1,none⟩=some (.int .i64 (y.e k (d' k)).q):=zW wd _ _ 1 rfl
         go_wp2_with fail
         clear dk b3 ch e0 e1 e2 dk' b3' ch' e0' e1' e2' n1 n2 n3 OD eh eh' ea
         generalize (wd.alloc (oQ0 (y.e k (d' k)).k (y.e k (d' k)).q (y.e k (d' k)).v)).drew=wz at *
         generalize wd.heap.size=M at *
         rcases zK ((y.e k (d' k)).k == 3) with t3 | t3
         case inr=>
          have HK3:Hid (¬ (y.e k (d' k)).k=3):=by
           show ¬ (y.e k (d' k)).k=3
           simpa using t3
          go_quiet (fail)
          have OQ:Hid (Od w (wz.drewN nq) w.heap.size D ha hc y d'/\D<(wz.drewN nq).heap.size/\(t'=true->sumL d y.n<sumL d' y.n)/\(t'=false->d'=d/\∀ p,p<k->¬ y.Can d p)):=⟨OZ.out.1.below (yC (Below.refl _ _) _) OZ.out.2.1,OZ.out.2.1,OZ.out.2.2⟩
          clear z0 z1 OZ
          generalize wz.drewN nq=wq at *
          have HCn:Hid (y.Can d' k):=⟨hkl,fun h=>absurd h HK3.out⟩
          have HPu:Hid (y.Put (up d' k)):=.next OQ.out.1.pu hlt HCn.out
          have hsu:=sumL_up (d:=d') hlt
          have hsl:=sumL_le HPu.out.le y.n
          have HLE:Hid (((sumL y.l y.n - sumL d' y.n:Nat):Int) - 1=((sumL y.l y.n - sumL (up d' k) y.n:Nat):Int)):=by
           show ((sumL y.l y.n - sumL d' y.n:Nat):Int) - 1=((sumL y.l y.n - sumL (up d' k) y.n:Nat):Int)
           omega
          have hA1:((sumL y.l y.n - sumL d' y.n:Nat):Int)<=1000:=by have:=HSM.out;omega
          have hA0:(1:Int)<=((sumL y.l y.n - sumL d' y.n:Nat):Int):=by omega
          have HNx : Hid (Od w (wq.setCell ⟨D, k, none⟩ (.int .i64 ((d' k : Int) + 1))) w.heap.size D ha hc y (up d' k) ∧ D < (wq.setCell ⟨D, k, none⟩ (.int .i64 ((d' k : Int) + 1))).heap.size ∧ (true = true → sumL d y.n < sumL (up d' k) y.n) ∧ (true = false → up d' k = d ∧ ∀ p, p < k + 1 → ¬ y.Can d p)) := ⟨OQ.out.1.set hlt HCn.out (by have := HDW.out; omega) (by have := HDW.out; omega), by simpa [World.setCell] using OQ.out.2.1, (fun _ => by
           rcases zK t' with h5 | h5
           ·have:=OQ.out.2.2.1 h5
            omega
           ·have:=(OQ.out.2.2.2 h5).1
            rw [this] at hsu ⊢
            omega),(fun h=>by cases h)⟩
          have dkq:=OQ.out.1.od.c k hlt
          have frq:=OQ.out.1.od.fr
          clear hsu hsl OQ
          generalize hAA:((sumL y.l y.n - sumL d' y.n:Nat):Int)=AA at *
          clear hAA
          go_wp2
          go_roundw
          case rel=>exact ⟨k+1,true,up d' k,by omega,by go_num,rfl,by rw [HLE.out],HNx.out⟩
          case measure=>simp [intOf];omega
         case inl=>
          have hk3:(y.e k (d' k)).k=3:=by simpa using t3
          have HK3:Hid ((y.e k (d' k)).k=3):=hk3
          have hq:=HH.out.1 k hlt (d' k) hkl
          obtain ⟨q,hqe⟩:∃ q:Nat,(y.e k (d' k)).q=(q:Int):=⟨(y.e k (d' k)).q.toNat,by omega⟩
          have HQE:Hid ((y.e k (d' k)).q=(q:Int)):=hqe
          have hqn:q<y.n:=by omega
          have hqn':(q:Int)<(y.n:Int):=by omega
          rw [hk3] at z0
          rw [hqe] at z1
          have dk:=OZ.out.1.od.c k hlt
          have dq:=OZ.out.1.od.c q hqn
          have b3:=OZ.out.1.bx
          obtain ⟨bz,oz,ez,ch⟩:=(HE.out.below OZ.out.1.be).row.at hlt
          obtain ⟨bz',oz',ez',cq⟩:=(HE.out.below OZ.out.1.be).row.at hqn
          rw [ez] at b3 ez'
          simp only [Option.some.injEq,Addr.mk.injEq] at ez'
          obtain ⟨rfl,rfl,-⟩:=ez'
          have ks:=slice_to (hA k) (y.l k) (hC k) (d' k) (by have:=HH.out.2.2 k hlt;omega)
          have qs:=slice_to (hA q) (y.l q) (hC q) (d' q) (by have:=HH.out.2.2 q hqn;have:=OZ.out.1.pu.le q;omega)
          have HCk:Hid (∀ dd os,Calls Tryz.prog 84 #[.slice (hA k) (d' k) (hC k),.int .i64 3,.int .i64 q] (grow (redrawn wz dd) os) fun e w'=>e=.returned (.int .i64 (cnt (y.e k) 3 q (d' k):Nat))/\Below (grow (redrawn wz dd) os).heap.size (grow (redrawn wz dd) os) w'):=fun dd os=>specCount_l (hA k) (d' k) (hC k) (y.e k) 3 q _ (by have:=HH.out.2.1 k hlt;omega) (((HE.out.below OZ.out.1.be).below (below_regrown wz dd os)).ev k hlt |>.take (by omega))
          have HCq:Hid (∀ dd os,Calls Tryz.prog 84 #[.slice (hA q) (d' q) (hC q),.int .i64 2,.int .i64 k] (grow (redrawn wz dd) os) fun e w'=>e=.returned (.int .i64 (cnt (y.e q) 2 k (d' q):Nat))/\Below (grow (redrawn wz dd) os).heap.size (grow (redrawn wz dd) os) w'):=fun dd os=>specCount_l (hA q) (d' q) (hC q) (y.e q) 2 k _ (by have:=HH.out.2.1 q hqn;have:=OZ.out.1.pu.le q;omega) (((HE.out.below OZ.out.1.be).below (below_regrown wz dd os)).ev q hqn |>.take (OZ.out.1.pu.le q))
          have z0':=cell_regrown z0
          have z1':=cell_regrown z1
          have dk':=cell_regrown dk
          have dq':=cell_regrown dq
          have b3':=cell_regrown b3
          have ch':=cell_regrown ch
          have cq':=cell_regrown cq
          clear ez hq hqe hk3 t3
          refine wp_region_quiet_below (by kernel_rfl) (by kernel_rfl) ?_
          repeat (quiet_step (first|(go_at_call_of 84 (hA k);exact Calls.regrown_of (HCk.out _ _))|(go_at_call_of 84 (hA q);exact Calls.regrown_of (HCq.out _ _))))
          refine wpQuiet_nil ?_
          intro _ hw'
          obtain ⟨⟨dd,os⟩,hw''⟩:=hw'
          subst hw''
          have OQ:Hid (Od w (grow (redrawn wz dd) os) w.heap.size D ha hc y d'/\D<(grow (redrawn wz dd) os).heap.size/\(t'=true->sumL d y.n<sumL d' y.n)/\(t'=false->d'=d/\∀ p,p<k->¬ y.Can d p)):=⟨OZ.out.1.below (below_regrown wz dd os) OZ.out.2.1,zL OZ.out.2.1 (below_regrown wz dd os).size,OZ.out.2.2⟩
          clear z0' z1' dk' dq' b3' ch' cq' z0 z1 dk dq b3 ch cq ks qs HCk HCq OZ
          generalize grow (redrawn wz dd) os=wq at *
          have HCan:Hid (y.Can d' k ↔ cnt (y.e k) 3 q (d' k)<cnt (y.e q) 2 k (d' q)):=by
           show y.Can d' k ↔ _
           unfold Hs.Can
           rw [HQE.out]
           rw [show ((q:Int)).toNat=q by omega]
           exact ⟨fun h=>h.2 HK3.out,fun h=>⟨hkl,fun _=>h⟩⟩
          generalize cnt (y.e k) 3 q (d' k)=c1 at *
          generalize cnt (y.e q) 2 k (d' q)=c2 at *
          by_cases hcc:(c2:Int)<=(c1:Int)
          ·have HNo:Hid (¬ y.Can d' k):=fun h=>by have:=HCan.out.1 h;omega
           have HJ2 : Hid (Od w wq w.heap.size D ha hc y d' ∧ D < wq.heap.size ∧ (t' = true → sumL d y.n < sumL d' y.n) ∧ (t' = false → d' = d ∧ ∀ p, p < k + 1 → ¬ y.Can d p)) := ⟨OQ.out.1, OQ.out.2.1, OQ.out.2.2.1, fun h => ⟨(OQ.out.2.2.2 h).1, fun p hp => by
            have h5:=OQ.out.2.2.2 h
            by_cases e:p=k
            ·subst e
             rw [<- h5.1]
             exact HNo.out
            ·exact h5.2 p (by omega)⟩⟩
           clear OQ HCan
           go_wp2
           go_roundw
           case rel=>exact ⟨k+1,t',d',by omega,by go_num,rfl,rfl,HJ2.out⟩
           case measure=>simp [intOf];omega
          ·have HCx:Hid (y.Can d' k):=HCan.out.2 (by omega)
           clear HCan
           have HCn:Hid (y.Can d' k):=HCx.out
           have HPu:Hid (y.Put (up d' k)):=.next OQ.out.1.pu hlt HCn.out
           have hsu:=sumL_up (d:=d') hlt
           have hsl:=sumL_le HPu.out.le y.n
           have HLE:Hid (((sumL y.l y.n - sumL d' y.n:Nat):Int) - 1=((sumL y.l y.n - sumL (up d' k) y.n:Nat):Int)):=by
            show ((sumL y.l y.n - sumL d' y.n:Nat):Int) - 1=((sumL y.l y.n - sumL (up d' k) y.n:Nat):Int)
            omega
           have hA1:((sumL y.l y.n - sumL d' y.n:Nat):Int)<=1000:=by have:=HSM.out;omega
           have hA0:(1:Int)<=((sumL y.l y.n - sumL d' y.n:Nat):Int):=by omega
           have HNx : Hid (Od w (wq.setCell ⟨D, k, none⟩ (.int .i64 ((d' k : Int) + 1))) w.heap.size D ha hc y (up d' k) ∧ D < (wq.setCell ⟨D, k, none⟩ (.int .i64 ((d' k : Int) + 1))).heap.size ∧ (true = true → sumL d y.n < sumL (up d' k) y.n) ∧ (true = false → up d' k = d ∧ ∀ p, p < k + 1 → ¬ y.Can d p)) := ⟨OQ.out.1.set hlt HCn.out (by have := HDW.out; omega) (by have := HDW.out; omega), by simpa [World.setCell] using OQ.out.2.1, (fun _ => by
            rcases zK t' with h5 | h5
            ·have:=OQ.out.2.2.1 h5
             omega
            ·have:=(OQ.out.2.2.2 h5).1
             rw [this] at hsu ⊢
             omega),(fun h=>by cases h)⟩
           have dkq:=OQ.out.1.od.c k hlt
           have frq:=OQ.out.1.od.fr
           clear hsu hsl OQ
           generalize hAA:((sumL y.l y.n - sumL d' y.n:Nat):Int)=AA at *
           clear hAA
           go_wp2
           go_roundw
           case rel=>exact ⟨k+1,true,up d' k,by omega,by go_num,rfl,by rw [HLE.out],HNx.out⟩
           case measure=>simp [intOf];omega
      ·have hkn:k=y.n:=by omega
       subst hkn
       have HF:Hid (2*(sumL y.l y.n - sumL d' y.n)+(if t'=true then 1 else 0)<gk):=by
        have h2:=HGN.out
        have h3:=sumL_le HJ.out.1.pu.le y.n
        show _<gk
        cases t' with
        | true=>
         have h4:=HJ.out.2.2.1 rfl
         simp only [if_true]
         omega
        | false=>
         have h4:=(HJ.out.2.2.2 rfl).1
         rw [h4]
         simp only [Bool.false_eq_true,if_false]
         omega
       have HG2 : Hid (Od w wr w.heap.size D ha hc y d' ∧ D < wr.heap.size ∧ (t' = false → ∀ p, p < y.n → ¬ y.Can d' p)) := ⟨HJ.out.1, HJ.out.2.1, fun h p hp => by
        have:=HJ.out.2.2.2 h
        rw [this.1]
        exact this.2 p hp⟩
       clear HJ
       go_wp2
       go_roundg (2*(sumL y.l y.n - sumL d' y.n)+(if t'=true then 1 else 0))
       case measure=>exact HF.out
       case rel=>exact ⟨t',d',rfl,rfl,rfl,HG2.out⟩
    ·have HR:Hid ((((sumL y.l y.n - sumL d y.n:Nat):Int) == 0)=qB y.Row):=by
      show (((sumL y.l y.n - sumL d y.n:Nat):Int) == 0)=qB y.Row
      have hi:=Hs.row_iff HI.out.1.pu HH.out.1 (HI.out.2.2 rfl)
      have hle:=HI.out.1.pu.le
      by_cases hr:y.Row
      ·have:sumL d y.n=sumL y.l y.n:=sumL_same fun i hi'=>hi.1 hr i hi'
       rw [qB_true hr,this]
       simp
      ·rw [qB_false hr]
       have:sumL y.l y.n - sumL d y.n≠0:=fun e=>hr (hi.2 (sumL_all hle _ (by have:=sumL_le hle y.n;omega)))
       have h2:((sumL y.l y.n - sumL d y.n:Nat):Int)≠0:=by omega
       simpa using h2
     have HB:Hid (Below w.heap.size w wr):=HI.out.1.be
     clear HI hgn
     go_wp2
     go_ret
     rw [HR.out]
     exact ⟨rfl,HB.out⟩
theorem OwnSys.base {z:Bool} {w:World} {B B':Nat} {y:Sy} {v:Value} (o:OwnSys z w B y v) (h:B'<=B):OwnSys z w B' y v:=by
 obtain ⟨c,vp,vs,vw,vh,up,us,uw,uh,e,o⟩:=o
 exact ⟨c,vp,vs,vw,vh,up,us,uw,uh,e,o.p.mono fun _ q _=>⟨zP h q.1,q.2⟩,o.s.mono fun _ q _=>⟨zP h q.1,q.2⟩,o.t.mono fun _ q _=>⟨zP h q.1,q.2⟩,o.h.mono fun _ q _=>⟨zP h q.1,q.2⟩⟩
theorem OwnSys.setBelow {z:Bool} {w:World} {B:Nat} {y:Sy} {v:Value} (o:OwnSys z w B y v) {N:Nat} (h:N<B) (j:Nat) (u:Value):OwnSys z (w.setCell ⟨N,j,none⟩ u) B y v:=by
 obtain ⟨c,vp,vs,vw,vh,up,us,uw,uh,e,o⟩:=o
 have hk:∀ i k,Cl B c i k->k<w.heap.size->(w.setCell ⟨N,j,none⟩ u).heap[k]? = w.heap[k]?:=fun i k q _=>zO _ _ _ _ fun e=>by
  have e:k=N:=e
  have:=q.1
  omega
 exact ⟨c,vp,vs,vw,vh,up,us,uw,uh,e,o.p.keep (hk 1),o.s.keep (hk 2),o.t.keep (hk 3),o.h.keep (hk 4)⟩
theorem OwnSys.zero {z:Bool} (w:World) (B:Nat) (y:Sy):OwnSys z w B { y with pn:=0,sn:=0,wn:=0,hn:=0 } (sysV none 0 0 none 0 0 none 0 0 none 0 0):=
 ⟨fun _=>0,_,_,_,_,fun _=>.slice none 0 0,fun _=>.slice none 0 0,fun _=>.slice none 0 0,fun _=>.slice none 0 0,rfl,LL.nil _ _ _ _ _ _ _ _,LS.nil _ _ _ _,LL.nil _ _ _ _ _ _ _ _,LL.nil _ _ _ _ _ _ _ _⟩
theorem OwnSys.form {z:Bool} {w:World} {B:Nat} {y:Sy} {v:Value} (o:OwnSys z w B y v):∃ pa pc sa sc wa wc ha hc,v=sysV pa y.pn pc sa y.sn sc wa y.wn wc ha y.hn hc:=by
 obtain ⟨c,vp,vs,vw,vh,up,us,uw,uh,rfl,o⟩:=o
 obtain ⟨pa,pc,rfl⟩:=zU o.p.row
 obtain ⟨sa,sc,rfl⟩:=zU o.s.row
 obtain ⟨wa,wc,rfl⟩:=zU o.t.row
 obtain ⟨ha,hc,rfl⟩:=zU o.h.row
 exact ⟨pa,pc,sa,sc,wa,wc,ha,hc,rfl⟩
section
variable {P:Program} {ops:Array Oper} {Q:Exit->Act->World->Prop} {md:Region.Mode} {S:World->Prop} {G:Nat->Bool}
def notB (b:Bool):Nat:=bif b then 0 else 1
def outI (b:Bool) (i:Nat):List Nat:=bif b then [] else [i]
theorem outI_mem {b:Bool} {i j:Nat} (h:j ∈ outI b i):b=false/\j=i:=by
 cases b with
 | true=>cases h
 | false=>exact ⟨rfl,List.mem_singleton.1 h⟩
theorem wpG_four (lst:Bool->Bool->Bool->Bool->Bool->Array Bool) (i1 i2 i3 i4 i5:Nat) {o5:Oper} (I:Bool->Bool->Bool->Bool->Act->World->Prop) (J:Bool->Act->World->Prop) {f0:Nat}
  (hrd:∀ a b c d,(a && b && c)=false->Region.ready md ops (lst a b c d false)=outI a i1 ++ (outI b i2 ++ (outI c i3 ++ outI d i4)))
  (s1:∀ b c d,(lst false b c d false).setIfInBounds i1 true=lst true b c d false) (s2:∀ a c d,(lst a false c d false).setIfInBounds i2 true=lst a true c d false) (s3:∀ a b d,(lst a b false d false).setIfInBounds i3 true=lst a b true d false) (s4:∀ a b c e,(lst a b c false e).setIfInBounds i4 true=lst a b c true e) (s5:∀ d,(lst true true true d false).setIfInBounds i5 true=lst true true true d true)
  (e5:ops.toList[i5]? = some o5) (hs:Region.noSelect ops=true) (hf:∀ d,Region.free md ops (lst true true true d false) i5=true) (hr5:∀ d,(Region.ready md ops (lst true true true d false)).contains i5=true) (hrJ:Region.ready md ops (lst true true true false true)=[i4]) (hQ:∀ v c a w,Q (.panic c) (a.put o5.dst v) w->Q (.panic c) a w)
  (h1:∀ b c d x w,I false b c d x w->wpOp P ops Q i1 (fun x' w'=>(S w->G i1=false->S w')/\I true b c d x' w') x w) (h2:∀ a c d x w,I a false c d x w->wpOp P ops Q i2 (fun x' w'=>(S w->G i2=false->S w')/\I a true c d x' w') x w)
  (h3:∀ a b d x w,I a b false d x w->wpOp P ops Q i3 (fun x' w'=>(S w->G i3=false->S w')/\I a b true d x' w') x w) (h4:∀ a b c x w,I a b c false x w->wpOp P ops Q i4 (fun x' w'=>(S w->G i4=false->S w')/\I a b c true x' w') x w)
  (h5:∀ d x w,I true true true d x w->Region.wanted o5 (yielded ops x.tmps)=true/\∃ v,(∀ w,(execOp x.eval o5).run P w=.ok (.value v) w)/\J d (x.put o5.dst v) w)
  (hJ:∀ x w,J false x w->wpOp P ops Q i4 (fun x' w'=>(S w->G i4=false->S w')/\J true x' w') x w)
  (hend:∀ x w,J true x w->wpG P md ops Q S G f0 (lst true true true true true) x w):
  ∀ (m:Nat) (a b c d:Bool) (x:Act) (w:World),notB a+notB b+notB c+notB d=m->I a b c d x w->wpG P md ops Q S G (f0+m+1) (lst a b c d false) x w:=by
 intro m
 induction m with
 | zero=>
  intro a b c d x w hm hI
  obtain ⟨rfl,rfl,rfl,rfl⟩:a=true/\b=true/\c=true/\d=true:=by
   cases a <;> cases b <;> cases c <;> cases d <;> simp [notB] at hm ⊢
  obtain ⟨hw,v,hv,hj⟩:=h5 _ x w hI
  exact wpG_takeW i5 e5 hs (hf _) (hr5 _) hQ hw ⟨v,hv,by rw [s5];exact hend _ _ hj⟩
 | succ m ih=>
  intro a b c d x w hm hI
  rcases zK (a && b && c) with hT | hne
  ·obtain ⟨rfl,rfl,rfl⟩:a=true/\b=true/\c=true:=by
    cases a <;> cases b <;> cases c <;> simp at hT ⊢
   obtain ⟨rfl,rfl⟩:d=false/\m=0:=by
    cases d <;> simp [notB] at hm ⊢ <;> exact hm
   obtain ⟨hw,v,hv,hj⟩:=h5 _ x w hI
   refine wpG_takeW i5 e5 hs (hf _) (hr5 _) hQ hw ⟨v,hv,?_⟩
   rw [s5]
   refine ⟨(fun h0=>by rw [hrJ] at h0;cases h0),fun i hi=>?_⟩
   rw [hrJ] at hi
   obtain rfl:=List.mem_singleton.1 hi
   refine wpOp_mono (fun x' w' h=>⟨h.1,?_⟩) (hJ _ _ hj)
   rw [s4]
   exact hend _ _ h.2
  have hr:=hrd a b c d hne
  refine ⟨fun h0=>?_,fun i hi=>?_⟩
  ·rw [hr] at h0
   cases a <;> cases b <;> cases c <;> cases d <;> simp [outI] at h0 hne
  ·rw [hr,List.mem_append,List.mem_append,List.mem_append] at hi
   rcases hi with hi | hi | hi | hi
   ·obtain ⟨rfl,rfl⟩:=outI_mem hi
    refine wpOp_mono (fun x' w' h=>⟨h.1,?_⟩) (h1 b c d x w hI)
    rw [s1]
    exact ih true b c d x' w' (by simp [notB] at hm ⊢;omega) h.2
   ·obtain ⟨rfl,rfl⟩:=outI_mem hi
    refine wpOp_mono (fun x' w' h=>⟨h.1,?_⟩) (h2 a c d x w hI)
    rw [s2]
    exact ih a true c d x' w' (by simp [notB] at hm ⊢;omega) h.2
   ·obtain ⟨rfl,rfl⟩:=outI_mem hi
    refine wpOp_mono (fun x' w' h=>⟨h.1,?_⟩) (h3 a b d x w hI)
    rw [s3]
    exact ih a b true d x' w' (by simp [notB] at hm ⊢;omega) h.2
   ·obtain ⟨rfl,rfl⟩:=outI_mem hi
    refine wpOp_mono (fun x' w' h=>⟨h.1,?_⟩) (h4 a b c x w hI)
    rw [s4]
    exact ih a b c true x' w' (by simp [notB] at hm ⊢;omega) h.2
end
structure ZL (E:TypeId) (w:World) (P:Nat->Prop) (v:Value) (n:Nat):Prop where
 row:w.ownsRow 0 E 1 v n (List.replicate n (.slice none 0 0))
 rb:∀ k,v.ownBlock=some k->P k
section
variable {E:TypeId} {w w':World} {P:Nat->Prop} {v:Value} {n:Nat}
theorem ZL.keep (o:ZL E w P v n) (hb:∀ k,P k->k<w.heap.size->w'.heap[k]? = w.heap[k]?):ZL E w' P v n:=⟨ownsRow_blkL o.row fun k hk=>hb k (o.rb k hk) (o.row.lt k hk).2,o.rb⟩
theorem ZL.below (o:ZL E w P v n) (hb:Below w.heap.size w w'):ZL E w' P v n:=o.keep fun k _ hk=>hb.block k hk
theorem ZL.mono (o:ZL E w P v n) {P':Nat->Prop} (h:∀ k,P k->k<w.heap.size->P' k):ZL E w P' v n:=⟨o.row,fun k hk=>h k (o.rb k hk) (o.row.lt k hk).2⟩
theorem ZL.nil (E:TypeId) (w:World) (P:Nat->Prop):ZL E w P (.slice none 0 0) 0:=⟨World.ownsRow_nil _ _ _ _,fun k hk=>by cases hk⟩
theorem ZL.cell (o:ZL E w P v n) {i:Nat} (hi:i<n):∃ g cap,v=.slice (some ⟨g,0,none⟩) n cap/\g<w.heap.size/\w.cell? ⟨g,i,none⟩=some (.slice none 0 0):=by
 rcases o.row.2 with ⟨_,h0⟩ | ⟨g,cap,cur,rfl,hb,hg,hr⟩
 ·omega
 ·refine ⟨g,cap,rfl,(o.row.lt g rfl).2,?_⟩
  rw [o.row.cellAt i (by omega)]
  simp [hi]
theorem ZL.rowS (o:ZL E w P v n):RowS w (adOf v) n fun _=>.slice none 0 0:=by
 rcases Nat.eq_zero_or_pos n with h | h
 ·exact .inl h
 ·obtain ⟨g,cap,rfl,hg,-⟩:=o.cell h
  refine .inr ⟨g,0,rfl,hg,fun i hi=>?_⟩
  obtain ⟨g',cap',ew,-,hc⟩:=o.cell hi
  simp only [Value.slice.injEq,Option.some.injEq,Addr.mk.injEq,and_true,true_and] at ew
  obtain ⟨rfl,rfl⟩:=ew
  rw [Nat.zero_add]
  exact hc
end
theorem run_make_nils {t e:TypeId} {bytes:Nat} (K:Kind t e 1 bytes) (hz0:(Tryz.prog.info? e).bind (·.zero)=some (.slice none 0 0)) (n:Nat) (hn:n<=1048576) (w:World):(Instr.makeSlice t (.int .i64 (n:Int)) (.int .i64 (n:Int))).run Tryz.prog w=.ok (.slice (some ⟨w.heap.size,0,none⟩) n n) (w.alloc (.cells (madeCells #[.slice none 0 0] n) e)):=by
 obtain ⟨i,z,hi,hz,hs,hb,hzs⟩:=K.inf
 have hz':z=.slice none 0 0:=by
  rw [hi] at hz0
  simp only [Option.bind_some,hz,Option.some.injEq] at hz0
  exact hz0
 subst hz'
 have hby:i.bytes*n<=281474976710656:=by
  rw [hb]
  exact zP (Nat.mul_le_mul K.sml hn) (by omega)
 have hby':(i.bytes:Int)*(n:Int)<=281474976710656:=by rw [<- Int.natCast_mul];exact Int.ofNat_le.2 hby
 have h:=run_make (P:=Tryz.prog) w t e i (.slice none 0 0) K.und hi hz .i64 .i64 (n:Int) (n:Int) (by omega) (by omega) hby' (by omega)
 rw [hs,Nat.mul_one,Int.toNat_natCast] at h
 exact h
theorem ZL.made (E:TypeId) (w:World) (P:Nat->Prop) (hP:P w.heap.size) (n:Nat) (hn:n<=1048576):ZL E (w.alloc (.cells (madeCells #[.slice none 0 0] n) E)) P (.slice (some ⟨w.heap.size,0,none⟩) n n) n:=by
 have hc:(madeCells #[Value.slice none 0 0] n).toList=List.replicate n (.slice none 0 0):=by
  apply List.ext_getElem?
  intro i
  by_cases h:i<n
  ·simp [madeCells,h,Nat.mod_one]
  ·simp [madeCells,h]
 refine ⟨⟨by simp,.inr ⟨w.heap.size,n,madeCells #[.slice none 0 0] n,rfl,Nat.zero_le _,Array.getElem?_push_size,Nat.le_refl _,by unfold maxLen;omega,by simp [size_madeCells],?_⟩⟩,fun k hk=>by cases hk;exact hP⟩
 rw [hc,Nat.mul_one]
 simp
def nwY (n:Nat) (L:Nat->Nat) (H:Nat->Nat->I5):Sy:=⟨n,L,H,n,fun _=>newS,n*n,fun _=>0,fun _ _=>⟨false,0⟩,n,fun _=>0,fun _ _=>⟨0,0,0⟩⟩
noncomputable def snB (n:Nat) (L:Nat->Nat) (H:Nat->Nat->I5):Bool:=decide (n<=4) && (nwY n L H).okB
structure OwnN (w:World) (c:Nat->Nat) (B n:Nat) (L:Nat->Nat) (H:Nat->Nat->I5) (vp vs vw vh:Value) (up us:Nat->Value):Prop where
 p:LI true w (Cl B c 1) vp n up L H
 s:LS w (Cl B c 2) vs n us fun _=>newS
 t:ZL 57 w (Cl B c 3) vw (n*n)
 h:ZL 56 w (Cl B c 4) vh n
def Own1 (w:World) (B T n:Nat) (L:Nat->Nat) (H:Nat->Nat->I5) (vp vs vw vh:Value):Prop:=∃ c up us,OwnN w c B n L H vp vs vw vh up us/\∀ b,T<=b->c b=0
theorem Own1.below {w w':World} {B T n:Nat} {L:Nat->Nat} {H:Nat->Nat->I5} {vp vs vw vh:Value} (o:Own1 w B T n L H vp vs vw vh) (hb:Below w.heap.size w w'):Own1 w' B T n L H vp vs vw vh:=by
 obtain ⟨c,up,us,o,h⟩:=o
 exact ⟨c,up,us,⟨o.p.below hb,o.s.below hb,o.t.below hb,o.h.below hb⟩,h⟩
theorem Own1.touch {w w':World} {B T n:Nat} {L:Nat->Nat} {H:Nat->Nat->I5} {vp vs vw vh:Value} {P:Nat->Prop} (o:Own1 w B T n L H vp vs vw vh) (ht:Touch P w w') (hp:∀ b,P b->T<=b\/b<B):Own1 w' B T n L H vp vs vw vh:=by
 obtain ⟨c,up,us,o,h⟩:=o
 have hk:∀ i,i≠0->∀ k,Cl B c i k->k<w.heap.size->w'.heap[k]? = w.heap[k]?:=fun i hi k hk hl=>ht.block k hl fun e=>by
  rcases hp k e with h1 | h1
  ·exact hi (hk.2.symm.trans (h k h1))
  ·have:=hk.1
   omega
 exact ⟨c,up,us,⟨o.p.keep (hk 1 (by decide)),o.s.keep (hk 2 (by decide)),o.t.keep (hk 3 (by decide)),o.h.keep (hk 4 (by decide))⟩,h⟩
theorem Own1.zero (w:World) (B T:Nat) (L:Nat->Nat) (H:Nat->Nat->I5):Own1 w B T 0 L H (.slice none 0 0) (.slice none 0 0) (.slice none 0 0) (.slice none 0 0):=
 ⟨fun _=>0,fun _=>.slice none 0 0,fun _=>.slice none 0 0,⟨LL.nil _ _ _ _ _ _ _ _,LS.nil _ _ _ _,ZL.nil _ _ _,ZL.nil _ _ _⟩,fun _ _=>rfl⟩
theorem wpG_cast {P:Program} {ops:Array Oper} {Q:Exit->Act->World->Prop} {md:Region.Mode} {S:World->Prop} {G:Nat->Bool} {fuel:Nat} {l:Array Bool} {a:Act} {w:World} (fuel':Nat) (l':Array Bool) (hf:fuel'=fuel) (hl:l'=l) (h:wpG P md ops Q S G fuel' l' a w):wpG P md ops Q S G fuel l a w:=by
 subst hf
 subst hl
 exact h
theorem nilItem:(Tryz.prog.info? 57).bind (·.zero)=some (.slice none 0 0):=by kernel_rfl
theorem nilEvent:(Tryz.prog.info? 56).bind (·.zero)=some (.slice none 0 0):=by kernel_rfl
structure NwF (W1:World) (n:Nat) (L:Nat->Nat) (H:Nat->Nat->I5) (a b c d:Bool) (v1 v2 v3 v4:Value) (w:World):Prop where
 be:Below W1.heap.size W1 w
 ow:∃ k:Nat->Nat,(a=true->∃ u,LI true w (Cl W1.heap.size k 1) v1 n u L H)/\(b=true->ZL 57 w (Cl W1.heap.size k 3) v2 (n*n))/\(c=true->ZL 56 w (Cl W1.heap.size k 4) v3 n)/\(d=true->∃ N,v4=.pointer (some ⟨N,0,none⟩)/\W1.heap.size<=N/\BoxC w N (.slice none 0 0) (.slice none 0 0) (.slice none 0 0) (.slice none 0 0)/\(∀ j,w.frozen? ⟨N,j,none⟩=false)/\k N=0)
section
variable {W1:World} {n:Nat} {L:Nat->Nat} {H:Nat->Nat->I5} {a b c d:Bool} {v1 v2 v3 v4:Value} {w w':World}
theorem NwF.keepBox {N:Nat} {k:Nat->Nat} {q:Nat} (h:v4=.pointer (some ⟨N,0,none⟩)/\W1.heap.size<=N/\BoxC w N (.slice none 0 0) (.slice none 0 0) (.slice none 0 0) (.slice none 0 0)/\(∀ j,w.frozen? ⟨N,j,none⟩=false)/\k N=0) (hb:Below w.heap.size w w'):v4=.pointer (some ⟨N,0,none⟩)/\W1.heap.size<=N/\BoxC w' N (.slice none 0 0) (.slice none 0 0) (.slice none 0 0) (.slice none 0 0)/\(∀ j,w'.frozen? ⟨N,j,none⟩=false)/\rcol k w.heap.size q N=0:=by
 have hl:=zJ w _ h.2.2.1.1
 exact ⟨h.1,h.2.1,h.2.2.1.below hb,fun j=>((bcell hb).2 _ j hl).trans (h.2.2.2.1 j),(rcol_old hl).trans h.2.2.2.2⟩
theorem NwF.one (h:NwF W1 n L H a b c d v1 v2 v3 v4 w) {v:Value} {u:Nat->Value} (o:LI true w' (fun k=>w.heap.size<=k/\k<w'.heap.size) v n u L H) (hb:Below w.heap.size w w'):NwF W1 n L H true b c d v v2 v3 v4 w':=by
 obtain ⟨k,-,h2,h3,h4⟩:=h.ow
 have hs:=h.be.size
 exact ⟨h.be.trans (hb.mono hs), rcol k w.heap.size 1, fun _ => ⟨u, o.mono fun j hj _ => ⟨Nat.le_trans hs hj.1, rcol_new hj.1⟩⟩, fun e => ((h2 e).mono fun j hj hl => hj.old hl).below hb, fun e => ((h3 e).mono fun j hj hl => hj.old hl).below hb, fun e => by
  obtain ⟨N,hN⟩:=h4 e
  exact ⟨N,NwF.keepBox hN hb⟩⟩
theorem NwF.two (h:NwF W1 n L H a b c d v1 v2 v3 v4 w) (hn:n*n<=1048576):NwF W1 n L H a true c d v1 (.slice (some ⟨w.heap.size,0,none⟩) (n*n) (n*n)) v3 v4 (w.alloc (.cells (madeCells #[.slice none 0 0] (n*n)) 57)):=by
 obtain ⟨k,h1,-,h3,h4⟩:=h.ow
 have hs:=h.be.size
 have hb:=zQ w (.cells (madeCells #[.slice none 0 0] (n*n)) 57)
 exact ⟨h.be.trans (hb.mono hs), rcol k w.heap.size 3, fun e => by
  obtain ⟨u,o⟩:=h1 e
  exact ⟨u,(o.mono fun j hj hl=>hj.old hl).below hb⟩,fun _=>ZL.made _ w _ ⟨hs,rcol_new (Nat.le_refl _)⟩ _ hn,fun e=>((h3 e).mono fun j hj hl=>hj.old hl).below hb,fun e=>by
  obtain ⟨N,hN⟩:=h4 e
  exact ⟨N,NwF.keepBox hN hb⟩⟩
theorem NwF.three (h:NwF W1 n L H a b c d v1 v2 v3 v4 w) (hn:n<=1048576):NwF W1 n L H a b true d v1 v2 (.slice (some ⟨w.heap.size,0,none⟩) n n) v4 (w.alloc (.cells (madeCells #[.slice none 0 0] n) 56)):=by
 obtain ⟨k,h1,h2,-,h4⟩:=h.ow
 have hs:=h.be.size
 have hb:=zQ w (.cells (madeCells #[.slice none 0 0] n) 56)
 exact ⟨h.be.trans (hb.mono hs), rcol k w.heap.size 4, fun e => by
  obtain ⟨u,o⟩:=h1 e
  exact ⟨u,(o.mono fun j hj hl=>hj.old hl).below hb⟩,fun e=>((h2 e).mono fun j hj hl=>hj.old hl).below hb,fun _=>ZL.made _ w _ ⟨hs,rcol_new (Nat.le_refl _)⟩ _ hn,fun e=>by
  obtain ⟨N,hN⟩:=h4 e
  exact ⟨N,NwF.keepBox hN hb⟩⟩
theorem NwF.four (h:NwF W1 n L H a b c d v1 v2 v3 v4 w):NwF W1 n L H a b c true v1 v2 v3 (.pointer (some ⟨w.heap.size,0,none⟩)) (w.alloc (zQ3)):=by
 obtain ⟨k,h1,h2,h3,-⟩:=h.ow
 have hs:=h.be.size
 have hb:=zQ w (zQ3)
 exact ⟨h.be.trans (hb.mono hs), rcol k w.heap.size 0, fun e => by
  obtain ⟨u,o⟩:=h1 e
  exact ⟨u,(o.mono fun j hj hl=>hj.old hl).below hb⟩,fun e=>((h2 e).mono fun j hj hl=>hj.old hl).below hb,fun e=>((h3 e).mono fun j hj hl=>hj.old hl).below hb,fun _=>⟨_,rfl,hs,BoxC.new w _ _ _ _ _,fun j=>yB _ _ _ _ rfl,rcol_new (Nat.le_refl _)⟩⟩
end
structure NwS (W1:World) (N n:Nat) (L:Nat->Nat) (H:Nat->Nat->I5) (own:Bool) (k:Nat) (w:World) (vp vs vw vh:Value) (c:Nat->Nat) (up us:Nat->Value):Prop where
 be:Below W1.heap.size W1 w
 bx:BoxC w N vp vs vw vh
 fr:∀ j,w.frozen? ⟨N,j,none⟩=false
 bN:W1.heap.size<=N
 cN:c N=0
 p:own=true->LI true w (Cl W1.heap.size c 1) vp n up L H
 s:LS w (Cl W1.heap.size c 2) vs k us fun _=>newS
 t:ZL 57 w (Cl W1.heap.size c 3) vw (n*n)
 h:ZL 56 w (Cl W1.heap.size c 4) vh n
section
variable {W1:World} {N n:Nat} {L:Nat->Nat} {H:Nat->Nat->I5} {own:Bool} {k:Nat} {w:World} {vp vs vw vh:Value} {c:Nat->Nat} {up us:Nat->Value}
theorem NwS.lt (h:NwS W1 N n L H own k w vp vs vw vh c up us):N<w.heap.size:=zJ w _ h.bx.1
theorem NwS.below {w':World} (h:NwS W1 N n L H own k w vp vs vw vh c up us) (hb:Below w.heap.size w w'):NwS W1 N n L H own k w' vp vs vw vh c up us:=
 ⟨h.be.trans (hb.mono h.be.size),h.bx.below hb,fun j=>((bcell hb).2 _ j h.lt).trans (h.fr j),h.bN,h.cN,fun e=>(h.p e).below hb,h.s.below hb,h.t.below hb,h.h.below hb⟩
theorem NwS.start {a:Bool} {v1 v2 v3 v4:Value} (h:NwF W1 n L H own true true true v1 v2 v3 v4 w) (ho:own=a) (_hvp:a=true\/True):∃ N c up us,v4=.pointer (some ⟨N,0,none⟩)/\N<w.heap.size/\BoxC w N (.slice none 0 0) (.slice none 0 0) (.slice none 0 0) (.slice none 0 0)/\(∀ j,w.frozen? ⟨N,j,none⟩=false)/\NwS W1 N n L H own 0 ((((w.setCell ⟨N,0,none⟩ v1).setCell ⟨N,1,none⟩ (.slice none 0 0)).setCell ⟨N,2,none⟩ v2).setCell ⟨N,3,none⟩ v3) v1 (.slice none 0 0) v2 v3 c up us:=by
 obtain ⟨k,h1,h2,h3,h4⟩:=h.ow
 obtain ⟨N,e,hN,bx,fr,cN⟩:=h4 rfl
 have hl:=zJ w _ bx.1
 have hk:∀ i,i≠0->∀ j,Cl W1.heap.size k i j->j<w.heap.size->((((w.setCell ⟨N,0,none⟩ v1).setCell ⟨N,1,none⟩ (.slice none 0 0)).setCell ⟨N,2,none⟩ v2).setCell ⟨N,3,none⟩ v3).heap[j]? = w.heap[j]?:=fun i hi j hj _=>by
  have hne:j≠N:=fun e=>hi (by rw [<- hj.2,e,cN])
  exact (zO _ _ _ _ hne).trans ((zO _ _ _ _ hne).trans ((zO _ _ _ _ hne).trans (zO _ _ _ _ hne)))
 obtain ⟨u,hu⟩:∃ u,own=true->LI true w (Cl W1.heap.size k 1) v1 n u L H:=by
  cases own with
  | false=>exact ⟨fun _=>.slice none 0 0,fun e=>by cases e⟩
  | true=>obtain ⟨u,o⟩:=h1 rfl;exact ⟨u,fun _=>o⟩
 obtain ⟨g0,g1,g2,g3⟩:=id bx
 exact ⟨N,k,u,fun _=>.slice none 0 0,e,hl,bx,fr,(((h.be.setCell hN _).setCell hN _).setCell hN _).setCell hN _,BoxC.set4 ⟨g0,g1,g2,g3⟩ _ _ _ _,fun j=>by simp only [World.frozen?_setCell];exact fr j,hN,cN,fun e=>(hu e).keep (hk 1 (by decide)),LS.nil _ _ _ _,(h2 rfl).keep (hk 3 (by decide)),(h3 rfl).keep (hk 4 (by decide))⟩
theorem NwS.push (h:NwS W1 N n L H own k w vp vs vw vh c up us) {w1 w3:World} {u' v':Value} (b1:Below w.heap.size w w1) (hu:StOwn w1 w.heap.size u' 0 [0,0,0,0] [] 0) (hv:w3.ownsRow 0 55 4 v' (k+1) (flat (fun i=>cellsL (us i)) k ++ cellsL u')) (g:w1.grownBy w3 vs.ownBlock) (hv':∀ j,v'.ownBlock=some j->vs.ownBlock=some j\/w1.heap.size<=j):
  NwS W1 N n L H own (k+1) (w3.setCell ⟨N,1,none⟩ v') vp v' vw vh (rcol c w.heap.size 2) up (fun j=>if j=k then u' else us j):=by
 have hN:=h.lt
 have hB:=h.be.size
 have hkeep:∀ j,j<w.heap.size->c j≠2->w3.heap[j]? = w.heap[j]?:=fun j hk hc=>(g.block j (zL hk b1.size) fun e=>hc (h.s.rb j e.symm).2).trans (b1.block j hk)
 have hset:∀ j,j≠N->(w3.setCell ⟨N,1,none⟩ v').heap[j]? = w3.heap[j]?:=fun j hk=>zO _ _ _ _ hk
 have hcN:rcol c w.heap.size 2 N=0:=(rcol_old hN).trans h.cN
 have hBN:w3.heap[N]? = w.heap[N]?:=hkeep N hN (by rw [h.cN];decide)
 have hkk:∀ i,i≠2->i≠0->∀ j,Cl W1.heap.size (rcol c w.heap.size 2) i j->j<w.heap.size->(w3.setCell ⟨N,1,none⟩ v').heap[j]? = w.heap[j]?:=fun i h2 h0 j hk hl=>by
  have e:c j=i:=(rcol_old hl).symm.trans hk.2
  exact (hset j fun en=>h0 (by rw [<- e,en,h.cN])).trans (hkeep j hl (by rw [e];exact h2))
 have hP:∀ i j,Cl W1.heap.size c i j->j<w.heap.size->Cl W1.heap.size (rcol c w.heap.size 2) i j:=fun i j hk hl=>hk.old hl
 have hP':∀ j,w.heap.size<=j->j<w3.heap.size->Cl W1.heap.size (rcol c w.heap.size 2) 2 j:=fun j hk _=>⟨zP hB hk,rcol_new hk⟩
 obtain ⟨x0,x1,x2,x3⟩:=h.bx
 have hc:∀ j,w3.cell? ⟨N,j,none⟩=w.cell? ⟨N,j,none⟩:=fun j=>zH hBN
 have hnew:∀ j,Cl W1.heap.size (rcol c w.heap.size 2) 2 j->j<w3.heap.size->(w3.setCell ⟨N,1,none⟩ v').heap[j]? = w3.heap[j]?:=fun j hk _=>hset j fun e=>by
  have e2:=hk.2
  rw [e,hcN] at e2
  cases e2
 have hbe:Below W1.heap.size W1 w3:=Below.grown (h.be.trans (b1.mono hB)) g (zP hB b1.size) fun j hj=>(h.s.rb j hj).1
 refine ⟨hbe.setCell h.bN _,⟨?_,?_,?_,?_⟩,fun j=>?_,h.bN,hcN,fun e=>?_,?_,?_,?_⟩
 ·rw [World.cell?_setCell_other _ _ _ _ (by simp),hc];exact x0
 ·exact World.cell?_setCell_same _ _ _ ((hc 1).trans x1)
 ·rw [World.cell?_setCell_other _ _ _ _ (by simp),hc];exact x2
 ·rw [World.cell?_setCell_other _ _ _ _ (by simp),hc];exact x3
 ·rw [World.frozen?_setCell,zI hBN];exact h.fr j
 ·exact ((h.p e).mono (hP 1)).keep (hkk 1 (by decide) (by decide))
 ·exact (h.s.push b1 hu hv g hv' (hP 2) hP').keep hnew
 ·exact (h.t.mono (hP 3)).keep (hkk 3 (by decide) (by decide))
 ·exact (h.h.mono (hP 4)).keep (hkk 4 (by decide) (by decide))
theorem NwS.own1 (h:NwS W1 N n L H true k w vp vs vw vh c up us) (hk:k=n):Own1 w W1.heap.size w.heap.size n L H vp vs vw vh:=by
 subst hk
 exact ⟨rcol c w.heap.size 0,up,us,⟨(h.p rfl).mono fun j hj hl=>hj.old hl,h.s.mono fun j hj hl=>hj.old hl,h.t.mono fun j hj hl=>hj.old hl,h.h.mono fun j hj hl=>hj.old hl⟩,fun b hb=>rcol_new hb⟩
theorem Own1.out4 {B T M:Nat} (o:Own1 w B T n L H vp vs vw vh) (hM:M<B) (a1 a2 a3 a4:Value):Own1 ((((w.setCell ⟨M,0,none⟩ a1).setCell ⟨M,1,none⟩ a2).setCell ⟨M,2,none⟩ a3).setCell ⟨M,3,none⟩ a4) B T n L H vp vs vw vh:=by
 have t:=(((Touch.refl (fun b=>b=M) w).trans (Touch.of_set (P:=fun b=>b=M) _ (a:=⟨M,0,none⟩) rfl a1)).trans (Touch.of_set (P:=fun b=>b=M) _ (a:=⟨M,1,none⟩) rfl a2)).trans (Touch.of_set (P:=fun b=>b=M) _ (a:=⟨M,2,none⟩) rfl a3)
 exact o.touch (t.trans (Touch.of_set (P:=fun b=>b=M) _ (a:=⟨M,3,none⟩) rfl a4)) fun b e=>.inr (by omega)
theorem Own1.base {B B' T T':Nat} (o:Own1 w B T n L H vp vs vw vh) (hB:B'<=B) (hT:T'=T):Own1 w B' T' n L H vp vs vw vh:=by
 subst hT
 obtain ⟨c,up,us,o,h⟩:=o
 exact ⟨c,up,us,⟨o.p.mono fun j hj _=>⟨zP hB hj.1,hj.2⟩,o.s.mono fun j hj _=>⟨zP hB hj.1,hj.2⟩,o.t.mono fun j hj _=>⟨zP hB hj.1,hj.2⟩,o.h.mono fun j hj _=>⟨zP hB hj.1,hj.2⟩⟩,h⟩
def nwX (pa:Option Addr) (n pc:Nat) (A:Nat->Option Addr) (L C:Nat->Nat) (H:Nat->Nat->I5) (vs vw vh:Value) (us:Nat->Value):SysIn:=
 ⟨pa,n,pc,A,L,C,H,adOf vs,n,cpOf vs,fun i=>⟨0,adOf (fdOf (us i) 1),cpOf (fdOf (us i) 1),[0,0,0,0],adOf (fdOf (us i) 2),cpOf (fdOf (us i) 2),[],0⟩,adOf vw,n*n,cpOf vw,fun _=>none,fun _=>0,fun _=>0,fun _ _=>⟨false,0⟩,adOf vh,n,cpOf vh,fun _=>none,fun _=>0,fun _=>0,fun _ _=>⟨0,0,0⟩⟩
theorem nwX_g {P1 P3 P4:Nat->Prop} {pa:Option Addr} {pc:Nat} {A:Nat->Option Addr} {C:Nat->Nat} (hs:LS w P1 vs n us fun _=>newS) (ht:ZL 57 w P3 vw (n*n)) (hh:ZL 56 w P4 vh n) (hr:RowS w pa n fun i=>.slice (A i) (L i) (C i)) (hI:∀ i,i<n->∃ b,A i=some ⟨b,0,none⟩/\b<w.heap.size/\InsAt w b 0 (L i) (H i)):SysG w (nwX pa n pc A L C H vs vw vh us):=by
 refine ⟨hr,hI,⟨?_,fun i hi=>?_⟩,ht.rowS,fun i hi=>.inl rfl,hh.rowS,fun i hi=>.inl rfl⟩
 ·rcases Nat.eq_zero_or_pos n with h0 | h0
  ·exact .inl h0
  ·obtain ⟨g,cap,rfl,-,hg,-,-⟩:=hs.cell h0
   refine .inr ⟨g,0,rfl,hg,fun i hi=>?_⟩
   obtain ⟨g',cap',ew,-,-,hc,-⟩:=hs.cell hi
   simp only [Value.slice.injEq,Option.some.injEq,Addr.mk.injEq,and_true,true_and] at ew
   obtain ⟨rfl,rfl⟩:=ew
   obtain ⟨ra,rc,oa,oc,eu,h0,h1,h2,h3⟩:=hc
   show w.cell? ⟨g,0+i*4,none⟩=some (.int .i64 0)/\w.cell? ⟨g,0+i*4+1,none⟩=some (.slice (adOf (fdOf (us i) 1)) 4 (cpOf (fdOf (us i) 1)))/\w.cell? ⟨g,0+i*4+2,none⟩=some (.slice (adOf (fdOf (us i) 2)) 0 (cpOf (fdOf (us i) 2)))/\w.cell? ⟨g,0+i*4+3,none⟩=some (.int .i64 0)
   rw [Nat.zero_add,eu]
   exact ⟨h0,h1,h2,h3⟩
 ·obtain ⟨g,cap,-,-,-,⟨ra,rc,oa,oc,eu,-⟩,-⟩:=hs.cell hi
  have h4:=hs.own i hi
  rw [eu] at h4
  show Sl w (adOf (fdOf (us i) 1)) [0,0,0,0]/\Sl w (adOf (fdOf (us i) 2)) []
  rw [eu]
  exact ⟨h4.parts.1.slOf,h4.parts.2.1.slOf⟩
theorem NwS.g {pa:Option Addr} {pc:Nat} {A:Nat->Option Addr} {C:Nat->Nat} (h:NwS W1 N n L H own n w vp vs vw vh c up us) (hr:RowS w pa n fun i=>.slice (A i) (L i) (C i)) (hI:∀ i,i<n->∃ b,A i=some ⟨b,0,none⟩/\b<w.heap.size/\InsAt w b 0 (L i) (H i)):SysG w (nwX pa n pc A L C H vs vw vh us):=
 nwX_g h.s h.t h.h hr hI
theorem nwX_len {pa:Option Addr} {pc:Nat} {A:Nat->Option Addr} {C:Nat->Nat} (hn:n<=4) (hL:∀ i,i<n->L i<=1048576):(nwX pa n pc A L C H vs vw vh us).Len:=by
 have h16:n*n<=16:=zP (Nat.mul_le_mul hn hn) (by omega)
 exact ⟨⟨by show n<=1048576;omega,hL⟩,⟨by show n<=1048576;omega,fun i _=>⟨by show 4<=1048576;omega,by show 0<=1048576;omega⟩⟩,⟨by show n*n<=1048576;omega,fun i _=>Nat.zero_le _⟩,⟨by show n<=1048576;omega,fun i _=>Nat.zero_le _⟩⟩
end
structure Sy.Sm (y:Sy):Prop where
 n:y.pn<=16/\y.sn<=16/\y.wn<=16/\y.hn<=16
 p:∀ i,i<y.pn->y.pL i<=1000
 s:∀ i,i<y.sn->(y.sS i).rs.length<=1000/\(y.sS i).os.length<=1000
 w:∀ i,i<y.wn->y.wL i<=1000
 h:∀ i,i<y.hn->y.hL i<=1000
theorem okS_len {n:Nat} {S:S4} (h:OkS n S):S.rs.length<=60/\S.os.length<=60:=by
 obtain ⟨⟨r0,r1,r2,r3,e,-⟩,-,h60,-⟩:=st_parts h
 exact ⟨by rw [e];simp,h60⟩
theorem Sy.Ok.bds {y:Sy} (h:y.Ok):(∀ i,i<y.pn->y.pL i<=30)/\(∀ i,i<y.sn->OkS (y.pL i) (y.sS i))/\(∀ i,i<y.wn->y.wL i<=12)/\(∀ i,i<y.hn->y.hL i<=200):=by
 obtain ⟨⟨h1,h4⟩,hs,hh,hw⟩:=h.cn
 refine ⟨fun i hi=>?_,fun i hi=>h.st (by omega),fun i hi=>?_,fun i hi=>h.le200 (by omega)⟩
 ·have h1:=h.four hi
  simp only [progOkB,Bool.and_eq_true,inB,decide_eq_true_eq] at h1
  have:=h1.2.1
  omega
 ·rw [hw] at hi
  have ha:i / y.pn<y.pn:=Nat.div_lt_of_lt_mul hi
  have hb:i % y.pn<y.pn:=Nat.mod_lt _ (by omega)
  have e:i / y.pn*y.pn+i % y.pn=i:=by rw [Nat.mul_comm];exact Nat.div_add_mod i y.pn
  have:=h.way ha hb
  rw [e] at this
  exact this
theorem Sy.Ok.sm {y:Sy} (h:y.Ok):y.Sm:=by
 obtain ⟨⟨h1,h4⟩,hs,hh,hw⟩:=h.cn
 obtain ⟨b1,b2,b3,b4⟩:=h.bds
 have h16:y.pn*y.pn<=16:=zP (Nat.mul_le_mul h4 h4) (by omega)
 exact ⟨⟨by omega,by omega,by omega,by omega⟩,fun i hi=>by have:=b1 i hi;omega,fun i hi=>by have:=okS_len (b2 i hi);omega,fun i hi=>by have:=b3 i hi;omega,fun i hi=>by have:=b4 i hi;omega⟩
theorem rp_congr {g:Nat->I5} {len:Nat} {eh eh':Nat->E3}:∀ {k:Nat},(∀ i,i<k->eh' i=eh i)->rp g len eh' k=rp g len eh k
 | 0,_=>rfl
 | k+1,h=>by
  show (rp g len eh' k).bind (rpStep g len (eh' k))=(rp g len eh k).bind (rpStep g len (eh k))
  rw [rp_congr fun i hi=>h i (by omega),h k (by omega)]
theorem plN_congr {eh eh':Nat->E3} {kd pr:Int}:∀ {k:Nat},(∀ i,i<k->eh' i=eh i)->plN eh' kd pr k=plN eh kd pr k
 | 0,_=>rfl
 | k+1,h=>by
  have e:=plN_congr (kd:=kd) (pr:=pr) (k:=k) fun i hi=>h i (by omega)
  have hh:hitB eh' kd pr k=hitB eh kd pr k:=by
   unfold hitB
   rw [h k (by omega)]
  unfold plN
  rw [e,hh]
theorem plN_lt {eh:Nat->E3} {kd pr:Int}:∀ {k i:Nat},i ∈ plN eh kd pr k->i<k
 | 0,i,h=>by simp [plN] at h
 | k+1,i,h=>by
  unfold plN at h
  split at h
  ·simp only [List.mem_append,List.mem_singleton] at h
   rcases h with h | h
   ·have:=plN_lt h
    omega
   ·omega
  ·have:=plN_lt h
   omega
theorem valL_congr {eh eh':Nat->E3} {kd pr:Int} {k:Nat} (h:∀ i,i<k->eh' i=eh i):valL eh' kd pr k=valL eh kd pr k:=by
 unfold valL
 rw [plN_congr h]
 exact List.map_congr_left fun i hi=>by rw [h i (plN_lt hi)]
theorem cnt_congr {eh eh':Nat->E3} {kd pr:Int} {k:Nat} (h:∀ i,i<k->eh' i=eh i):cnt eh' kd pr k=cnt eh kd pr k:=by
 unfold cnt
 rw [plN_congr h]
theorem cnt_val (eh:Nat->E3) (kd pr:Int) (k:Nat):cnt eh kd pr k=(valL eh kd pr k).length:=by simp [cnt,valL]
theorem valL_push {eh:Nat->E3} {kd pr:Int} {n:Nat} {x:E3}:valL (fun i=>if i=n then x else eh i) kd pr (n+1)=valL eh kd pr n ++ (if x.k=kd/\x.q=pr then [x.v] else []):=by
 have e:valL (fun i=>if i=n then x else eh i) kd pr n=valL eh kd pr n:=valL_congr fun i hi=>by rw [if_neg (by omega)]
 by_cases h:x.k=kd/\x.q=pr
 ·have hh:hitB (fun i=>if i=n then x else eh i) kd pr n=true:=by
   rw [hitB_iff]
   simp only [if_true]
   exact h
  rw [valL_hit hh,e,if_pos h]
  simp
 ·have hh:hitB (fun i=>if i=n then x else eh i) kd pr n=false:=by
   rcases zK (hitB (fun i=>if i=n then x else eh i) kd pr n) with t | t
   ·rw [hitB_iff] at t
    simp only [if_true] at t
    exact absurd t h
   ·exact t
  rw [valL_not hh,e,if_neg h,List.append_nil]
theorem numL_congr {H H':Nat->I2}:∀ {n:Nat},(∀ i,i<n->H' i=H i)->numL H' n=numL H n
 | 0,_=>rfl
 | n+1,h=>by
  unfold numL
  rw [numL_congr fun i hi=>h i (by omega),h n (by omega)]
theorem numL_push (H:Nat->I2) (n:Nat) (v:Int):numL (fun i=>if i=n then ⟨false,v⟩ else H i) (n+1)=numL H n ++ [v]:=by
 rw [numL_hit (by simp)]
 rw [numL_congr (H:=H) fun i hi=>by rw [if_neg (by omega)]]
 simp
theorem numL_first {H:Nat->I2} (h0:(H 0).m=false):∀ n,numL H (n+1)=(H 0).v :: numL (fun i=>H (i+1)) n
 | 0=>by rw [numL_hit h0];rfl
 | n+1=>by
  rw [numL]
  rw [numL_first h0 n]
  conv=>rhs;rw [numL]
  split <;> simp
theorem Hs.Put.more {x x':Hs} (hn:x'.n=x.n) (hl:∀ j,x.l j<=x'.l j) (he:∀ j i,i<x.l j->x'.e j i=x.e j i) {d:Nat->Nat} (h:x.Put d):x'.Put d:=by
 induction h with
 | start=>exact .start
 | next hd hp hc ih=>
  rename_i d p
  refine .next ih (by omega) ⟨zL hc.1 (hl p),fun hk=>?_⟩
  have e:=he p (d p) hc.1
  rw [e] at hk ⊢
  have hle:=hd.le
  rw [cnt_congr (fun i hi=>he p i (Nat.lt_trans hi hc.1)),cnt_congr (fun i hi=>he _ i (zL hi (hle _)))]
  exact hc.2 hk
theorem way_inj {a b p q n:Nat} (hb:b<n) (hq:q<n) (h:a*n+b=p*n+q):a=p/\b=q:=by
 have h1:(a*n+b) / n=a:=by rw [Nat.mul_comm,Nat.mul_add_div (by omega),Nat.div_eq_of_lt hb,Nat.add_zero]
 have h2:(p*n+q) / n=p:=by rw [Nat.mul_comm,Nat.mul_add_div (by omega),Nat.div_eq_of_lt hq,Nat.add_zero]
 have h3:a=p:=by rw [<- h1,<- h2,h]
 subst h3
 exact ⟨rfl,by omega⟩
theorem same_way {a b p q n:Nat} (h1:a=p) (h2:q=b):a*n+b=p*n+q:=by rw [h1,h2]
theorem Sy.Ok.next {y:Sy} (h:y.Ok) {p:Nat} (hp:p<y.pn) (hc:(y.sS p).c=0):(y.nk p=1\/y.nk p=2\/y.nk p=3\/y.nk p=4)/\(y.nk p≠2->y.nk p≠3->y.nq p=0)/\(y.nk p=2->numB (y.nv p)=true):=by
 have hr:=h.right hp hc
 rw [<- hc] at hr
 have e1:y.nk p=evK (y.pH p (y.sS p).p.toNat).o:=if_pos hr
 have e2:y.nq p=evP (y.pH p (y.sS p).p.toNat).o (y.pH p (y.sS p).p.toNat).n:=if_pos hr
 have e3:y.nv p=evW (y.pH p (y.sS p).p.toNat).o (y.pH p (y.sS p).p.toNat).a (y.sS p).rs:=if_pos hr
 obtain ⟨hpr,hs,-⟩:=right_parts hr
 obtain ⟨⟨a1,a2,a3,a4,ers,n1,n2,n3,n4⟩,⟨k,ek,hk⟩,-,-⟩:=st_parts hs
 have ek':(y.sS p).p.toNat=k:=by omega
 obtain ⟨-,-,⟨m0,m3⟩,-⟩:=ins_range (right_ins hpr hk)
 rw [ek'] at e1 e2 e3
 refine ⟨?_,?_,?_⟩
 ·rw [e1]
  unfold evK
  split
  ·exact .inr (.inl rfl)
  ·split
   ·exact .inr (.inr (.inl rfl))
   ·split
    ·exact .inr (.inr (.inr rfl))
    ·exact .inl rfl
 ·intro h2 h3
  rw [e1] at h2 h3
  rw [e2]
  unfold evK at h2 h3
  unfold evP
  by_cases e6:(y.pH p k).o=6
  ·rw [if_pos e6] at h2
   exact absurd rfl h2
  ·rw [if_neg e6] at h3 ⊢
   by_cases e7:(y.pH p k).o=7
   ·rw [if_pos e7] at h3
    exact absurd rfl h3
   ·rw [if_neg e7]
 ·intro h2
  rw [e1] at h2
  rw [e3,ers]
  have e6:(y.pH p k).o=6:=by
   unfold evK at h2
   by_cases e6:(y.pH p k).o=6
   ·exact e6
   ·rw [if_neg e6] at h2
    split at h2
    ·cases h2
    ·split at h2 <;> cases h2
  unfold evW
  rw [if_pos e6]
  obtain ⟨j,ej⟩:∃ j:Nat,(y.pH p k).a=j:=⟨(y.pH p k).a.toNat,by omega⟩
  have hj:(y.pH p k).a.toNat<4:=by omega
  match (y.pH p k).a.toNat,hj with
  | 0,_=>exact n1
  | 1,_=>exact n2
  | 2,_=>exact n3
  | 3,_=>exact n4
structure Sy.Done (y:Sy) (p:Nat) (f:Int):Prop where
 run:(y.sS p).c=0
 room:y.hL p<200
 peer:0<=y.eq p f/\y.eq p f<(y.pn:Int)
 send:y.nk p=2->y.wL (p*y.pn+(y.eq p f).toNat)<12/\numB (y.ev p f)=true
 take:y.nk p=3->0<y.wL ((y.eq p f).toNat*y.pn+p)/\(y.wH ((y.eq p f).toNat*y.pn+p) 0).m=false/\(y.wH ((y.eq p f).toNat*y.pn+p) 0).v=y.ev p f/\numB (y.ev p f)=true
 can:doB (y.pH p) (y.pL p) (y.sS p).p (y.sS p).rs (y.sS p).os (y.sS p).c (y.nk p) (y.eq p f) (y.ev p f)=true
theorem Sy.Ok.done {y:Sy} (h:y.Ok) {p:Nat} (hp:p<y.pn) {f:Int} (hc:cmS y p f=0):y.Done p f:=by
 unfold cmS at hc
 have h4:y.pn<=4:=h.cn.1.2
 have h1:1<=y.pn:=h.cn.1.1
 by_cases c0:(y.sS p).c=0
 case neg=>
  rw [if_pos c0] at hc
  cases hc
 rw [if_neg (by simpa using c0)] at hc
 by_cases c1:fuS y p (y.nk p) (y.nq p)=true
 ·rw [if_pos c1] at hc
  cases hc
 rw [if_neg c1] at hc
 have hfu:y.hL p<200/\(y.nk p=2->y.wL (p*y.pn+(y.nq p).toNat)<12):=by
  simp only [fuS,Bool.or_eq_true,decide_eq_true_eq,Bool.and_eq_true,beq_iff_eq,not_or,not_and] at c1
  exact ⟨by omega,fun h2=>by have:=c1.2 h2;omega⟩
 obtain ⟨hk,hq0,hnv⟩:=h.next hp c0
 by_cases k3:y.nk p=3
 ·rw [if_pos k3] at hc
  have eQ:y.eq p f=if y.nq p=9 then f else y.nq p:=if_pos k3
  rw [<- eQ] at hc
  have eV:y.ev p f=(y.wH ((y.eq p f).toNat*y.pn+p) 0).v:=if_pos k3
  unfold tkS at hc
  by_cases b:belB (y.eq p f) y.pn=true
  case neg=>
   rw [if_neg b] at hc
   cases hc
  rw [if_pos b] at hc
  have hb:0<=y.eq p f/\y.eq p f<(y.pn:Int):=by simpa [belB] using b
  by_cases w0:y.wL ((y.eq p f).toNat*y.pn+p)=0
  ·rw [if_pos w0] at hc
   cases hc
  rw [if_neg w0] at hc
  by_cases m0:(y.wH ((y.eq p f).toNat*y.pn+p) 0).m=true
  ·rw [if_pos m0] at hc
   cases hc
  have hv:numB (y.ev p f)=true:=by
   have:=(h.wa (y.eq p f).toNat (by omega) p hp).it 0 (by omega)
   simp only [itemB,Bool.and_eq_true] at this
   rw [eV]
   exact this.1
  refine ⟨c0,hfu.1,hb,(fun h2=>by rw [k3] at h2;cases h2),fun _=>⟨by omega,by simpa using m0,eV.symm,hv⟩,?_⟩
  have e3:nxK (y.pH p) (y.pL p) (y.sS p).p (y.sS p).rs (y.sS p).os (y.sS p).c=3:=k3
  unfold doB canB
  rw [if_pos e3,k3,hv]
  simp only [beq_self_eq_true,Bool.true_and]
  by_cases e9:y.nq p=9
  ·have e9':nxP (y.pH p) (y.pL p) (y.sS p).p (y.sS p).rs (y.sS p).os (y.sS p).c=9:=e9
   rw [if_pos e9']
   simp only [belB,decide_eq_true_eq]
   omega
  ·have e9':¬ nxP (y.pH p) (y.pL p) (y.sS p).p (y.sS p).rs (y.sS p).os (y.sS p).c=9:=e9
   rw [if_neg e9',eQ,if_neg e9]
   simp [Sy.nq]
 ·have eQ:y.eq p f=y.nq p:=if_neg k3
  have eV:y.ev p f=y.nv p:=if_neg k3
  have hpe:0<=y.nq p/\y.nq p<(y.pn:Int):=by
   by_cases k2:y.nk p=2
   ·exact h.peer hp k2
   ·rw [hq0 k2 k3]
    omega
  refine ⟨c0,hfu.1,by rw [eQ];exact hpe,fun h2=>⟨by rw [eQ];exact hfu.2 h2,by rw [eV];exact hnv h2⟩,fun h3=>absurd h3 k3,?_⟩
  have e3:¬ nxK (y.pH p) (y.pL p) (y.sS p).p (y.sS p).rs (y.sS p).os (y.sS p).c=3:=k3
  have e0:y.nk p≠0:=by omega
  unfold doB canB
  rw [if_neg e3,eQ,eV]
  simp only [Bool.and_eq_true,bne_iff_ne,beq_iff_eq]
  exact ⟨e0,rfl,rfl,rfl⟩
theorem Sy.Ok.step {y:Sy} (h:y.Ok) {p:Nat} (hp:p<y.pn) {f:Int} (hc:cmS y p f=0):(y.step p f).Ok:=by
 have D:=h.done hp hc
 have e:y.step p f=(y.way p (y.nk p) (y.eq p f) (y.ev p f)).evt p (y.nk p) (y.eq p f) (y.ev p f):=if_pos hc
 rw [e]
 obtain ⟨q,hq⟩:∃ q:Nat,y.eq p f=q:=⟨(y.eq p f).toNat,by have:=D.peer;omega⟩
 have hqn:q<y.pn:=by have:=D.peer;omega
 have D':=D
 obtain ⟨run,room,peer,send,take,can⟩:=D
 rw [hq,Int.toNat_natCast] at send take
 rw [hq] at can ⊢
 generalize hV:y.ev p f=V at *
 obtain ⟨kk,-,-⟩:=h.next hp run
 generalize hK:y.nk p=K at *
 clear hV hK e hc hq peer D'
 -- what happened to each,now
 have hH:∀ a kd pr,valL (((y.way p K q V).evt p K q V).hH a) kd pr (((y.way p K q V).evt p K q V).hL a)=valL (y.hH a) kd pr (y.hL a) ++ (if a=p/\K=kd/\(q:Int)=pr then [V] else []):=by
  intro a kd pr
  show valL (if a=p then (fun i=>if i=y.hL p then (⟨K,q,V⟩:E3) else y.hH p i) else y.hH a) kd pr (if a=p then y.hL p+1 else y.hL a)=_
  by_cases ea:a=p
  ·subst ea
   simp only [if_true,true_and]
   exact valL_push
  ·rw [if_neg ea,if_neg ea,if_neg (fun h=>ea h.1),List.append_nil]
 refine ⟨h.cn,h.pr,fun a ha=>?_,fun a ha i hi=>?_,fun a ha b hb=>?_,?_⟩
 ·show repO (y.pH a) (y.pL a) (if a=p then (fun i=>if i=y.hL p then (⟨K,q,V⟩:E3) else y.hH p i) else y.hH a) (if a=p then y.hL p+1 else y.hL a)=some (if a=p then doS (y.pH p) (y.pL p) (y.sS p).p (y.sS p).rs (y.sS p).os (y.sS p).c K q V else y.sS a)
  by_cases ea:a=p
  ·subst ea
   simp only [if_true]
   have h0:=repO_some (h.rp a hp)
   unfold repO
   rw [if_pos ⟨h0.1,by omega⟩]
   have hr:Go.Proofs.YtpnlfccaggfgpaaGreatDoor.rp (y.pH a) (y.pL a) (fun i=>if i=y.hL a then (⟨K,q,V⟩:E3) else y.hH a i) (y.hL a)=some (y.sS a):=(rp_congr fun i hi=>by rw [if_neg (by omega)]).trans h0.2.2
   have:=rp_yes hr (by simpa using can)
   simpa using this
  ·rw [if_neg ea,if_neg ea,if_neg ea]
   exact h.rp a ha
 ·have hi':i<(if a=p then y.hL p+1 else y.hL a):=hi
  show ((if a=p then (fun i=>if i=y.hL p then (⟨K,q,V⟩:E3) else y.hH p i) else y.hH a) i).q<(y.pn:Int)
  by_cases ea:a=p
  ·subst ea
   simp only [if_true] at hi' ⊢
   by_cases ei:i=y.hL a
   ·rw [if_pos ei]
    show (q:Int)<_
    omega
   ·rw [if_neg ei]
    exact h.pe a hp i (by omega)
  ·rw [if_neg ea] at hi' ⊢
   exact h.pe a ha i hi'
 ·have wab:=h.wa a ha b hb
  rw [hH b 3 a,hH a 2 b]
  show WayP (((y.way p K q V)).wH (a*y.pn+b)) ((y.way p K q V).wL (a*y.pn+b)) _ _
  by_cases k2:K=2
  ·subst k2
   rw [Sy.way_send,if_neg (fun h=>by have:=h.2.1;omega),List.append_nil]
   show WayP (if a*y.pn+b=p*y.pn+q then (fun i=>if i=y.wL (p*y.pn+q) then ⟨false,V⟩ else y.wH (p*y.pn+q) i) else y.wH (a*y.pn+b)) (if a*y.pn+b=p*y.pn+q then y.wL (p*y.pn+q)+1 else y.wL (a*y.pn+b)) _ _
   by_cases ew:a*y.pn+b=p*y.pn+q
   ·obtain ⟨rfl,rfl⟩:=way_inj hb hqn ew
    simp only [if_true]
    rw [if_pos ⟨trivial,trivial,trivial⟩]
    obtain ⟨s1,s2⟩:=send rfl
    refine ⟨fun i hi=>?_,by omega,?_⟩
    ·by_cases ei:i=y.wL (a*y.pn+b)
     ·rw [if_pos ei]
      simp [itemB,s2]
     ·rw [if_neg ei]
      exact wab.it i (by omega)
    ·rw [numL_push,<- List.append_assoc,wab.eq]
   ·rw [if_neg ew,if_neg ew,if_neg (fun h=>ew (same_way h.1 (Int.ofNat_inj.1 h.2.2))),List.append_nil]
    exact wab
  ·by_cases k3:K=3
   ·subst k3
    rw [Sy.way_take,if_neg (c:=a=p/\(3:Int)=2/\_) (fun h=>by have:=h.2.1;omega),List.append_nil]
    show WayP (if a*y.pn+b=q*y.pn+p then (fun i=>y.wH (q*y.pn+p) (i+1)) else y.wH (a*y.pn+b)) (if a*y.pn+b=q*y.pn+p then y.wL (q*y.pn+p) - 1 else y.wL (a*y.pn+b)) _ _
    by_cases ew:a*y.pn+b=q*y.pn+p
    ·obtain ⟨rfl,rfl⟩:=way_inj hb hp ew
     simp only [if_true]
     rw [if_pos ⟨trivial,trivial,trivial⟩]
     obtain ⟨t1,t2,t3,-⟩:=take rfl
     obtain ⟨m,em⟩:∃ m,y.wL (a*y.pn+b)=m+1:=⟨y.wL (a*y.pn+b) - 1,by omega⟩
     have weq:=wab.eq
     have wle:=wab.le
     have wit:=wab.it
     rw [em] at weq wle wit ⊢
     rw [Nat.add_sub_cancel]
     refine ⟨fun i hi=>wit (i+1) (by omega),by omega,?_⟩
     rw [numL_first t2,t3] at weq
     rw [List.append_assoc]
     exact weq
    ·rw [if_neg ew,if_neg ew,if_neg (fun h=>ew (same_way (Int.ofNat_inj.1 h.2.2).symm h.1.symm)),List.append_nil]
     exact wab
   ·rw [Sy.way_no y p k2 k3,if_neg (fun h=>k3 h.2.1),if_neg (fun h=>k2 h.2.1),List.append_nil,List.append_nil]
    exact wab
 ·obtain ⟨d,hd,hall⟩:=h.ro
  have hd':((y.way p K q V).evt p K q V).hs.Put d:=by
   refine Hs.Put.more (x:=y.hs) (x':=((y.way p K q V).evt p K q V).hs) rfl (fun j=>?_) (fun j i hi=>?_) hd
   ·show y.hL j<=if j=p then y.hL p+1 else y.hL j
    by_cases ej:j=p
    ·rw [if_pos ej,ej];omega
    ·rw [if_neg ej];exact Nat.le_refl _
   ·have hi':i<y.hL j:=hi
    show (if j=p then (fun i=>if i=y.hL p then (⟨K,q,V⟩:E3) else y.hH p i) else y.hH j) i=y.hH j i
    by_cases ej:j=p
    ·subst ej
     rw [if_pos rfl,if_neg (by omega)]
    ·rw [if_neg ej]
  have hdp:d p=y.hL p:=hall p hp
  have epH:∀ a,a≠p->((y.way p K q V).evt p K q V).hs.e a=y.hH a:=fun a ha=>by
   show (if a=p then _ else y.hH a)=_
   rw [if_neg ha]
  have epp:((y.way p K q V).evt p K q V).hs.e p=fun i=>if i=y.hL p then (⟨K,q,V⟩:E3) else y.hH p i:=by
   show (if p=p then _ else y.hH p)=_
   rw [if_pos rfl]
   rfl
  have elp:((y.way p K q V).evt p K q V).hs.l p=y.hL p+1:=by
   show (if p=p then _ else y.hL p)=_
   rw [if_pos rfl]
   rfl
  have ece:∀ a kd pr,a<y.pn->cnt (((y.way p K q V).evt p K q V).hs.e a) kd pr (d a)=(valL (y.hH a) kd pr (y.hL a)).length:=fun a kd pr ha=>by
   have hda:d a=y.hL a:=hall a ha
   rw [hda,<- cnt_val]
   refine cnt_congr fun i hi=>?_
   by_cases ea:a=p
   ·subst ea
    rw [epp]
    show (if i=y.hL a then (⟨K,q,V⟩:E3) else y.hH a i)=y.hH a i
    rw [if_neg (by omega)]
   ·rw [epH a ea]
  refine ⟨up d p,.next hd' hp ⟨by rw [elp,hdp];omega,fun hk=>?_⟩,fun a ha=>?_⟩
  ·have ee:((y.way p K q V).evt p K q V).hs.e p (d p)=⟨K,q,V⟩:=by rw [epp,hdp];exact if_pos rfl
   rw [ee] at hk ⊢
   have hk':K=3:=hk
   show cnt _ 3 (q:Int) _<cnt (((y.way p K q V).evt p K q V).hs.e (q:Int).toNat) 2 p (d (q:Int).toNat)
   rw [Int.toNat_natCast,ece p 3 q hp,ece q 2 p hqn]
   obtain ⟨t1,t2,-⟩:=take hk'
   obtain ⟨m,em⟩:∃ m,y.wL (q*y.pn+p)=m+1:=⟨y.wL (q*y.pn+p) - 1,by omega⟩
   have weq:=(h.wa q hqn p hp).eq
   rw [em,numL_first t2] at weq
   have:=congrArg List.length weq
   simp only [List.length_append,List.length_cons] at this
   omega
  ·have hda:d a=y.hL a:=hall a ha
   by_cases ea:a=p
   ·subst ea
    rw [up_same,elp,hdp]
   ·rw [up_other ea,hda]
    show y.hL a=if a=p then _ else y.hL a
    rw [if_neg ea]
variable {z:Bool}
theorem restItem_own (b n cap:Nat) (lim:Int) (H:Nat->I2) (w:World) (h0:0<n) (hn:n<=1000) (hc:n<=cap) (hcm:cap<=maxLen) (hb:b<w.heap.size) (hI:ItAt w b 0 n H):
  Calls Tryz.prog 63 #[.agg #[.slice (some ⟨b,0,none⟩) n cap,.int .i64 lim]] w fun e w'=>∃ a c,e=.returned (.slice a (n - 1) c)/\w'.ownsRow w.heap.size 59 2 (.slice a (n - 1) c) (n - 1) (fT (fun i=>H (i+1)) (n - 1))/\Value.slice a (n - 1) c≠.slice none 0 0/\Below w.heap.size w w':=by
 have hn':(1:Int)<=(n:Int):=by omega
 have hnc:(n:Int)<=(cap:Int):=by omega
 have hl1:(n:Int) - 1=((n - 1:Nat):Int):=by omega
 have BA:Hid (Below w.heap.size w (w.alloc (.cells #[.slice (some ⟨b,0,none⟩) n cap,.int .i64 lim] 96))):=zQ _ _
 have SR:Hid (Src w (some ⟨b,2,none⟩) (fT (fun i=>H (i+1)) (n - 1))):=by
  refine srcOf (sz:=2) hb (by omega) (fun _ _=>rfl) fun i hi j hj=>?_
  obtain ⟨q0,q1⟩:=hI (i+1) (by omega)
  match j,hj with
  | 0,_=>rw [show 2+(i*2+0)=0+(i+1)*2 by omega];exact q0
  | 1,_=>rw [show 2+(i*2+1)=0+(i+1)*2+1 by omega];exact q1
 have HN:Hid (0<n/\n<=1000/\n<=cap):=⟨h0,hn,hc⟩
 clear hI
 by_cases hcb:cap=1
 ·subst hcb
  have hn1:n=1:=by omega
  subst hn1
  clear hl1 hnc hn' h0 hn hc
  go_enter Tryz.func63,Tryz.ntmps63
  go_wp2_with fail
  refine (cloneItem_own _ _ 0 _ (fun i=>H (i+1)) _ (by omega) (.inl rfl)).mono ?_
  rintro e w5 ⟨a5,c5,rfl,o5,n5,b5⟩
  have F5:Hid (w5.ownsRow w.heap.size 59 2 (.slice a5 0 c5) 0 (fT (fun i=>H (i+1)) 0)/\Value.slice a5 0 c5≠.slice none 0 0/\Below w.heap.size w w5):=⟨o5.mono (by simp),n5,BA.out.trans (b5.mono BA.out.size)⟩
  clear o5 n5 b5
  go_wp2
  go_ret
  exact ⟨_,_,rfl,F5.out⟩
 ·go_enter Tryz.func63,Tryz.ntmps63
  go_wp2_with fail
  refine (cloneItem_own b 2 (n - 1) _ (fun i=>H (i+1)) _ (by have:=HN.out;omega) (SR.out.below BA.out)).mono ?_
  rintro e w5 ⟨a5,c5,rfl,o5,n5,b5⟩
  have F5:Hid (w5.ownsRow w.heap.size 59 2 (.slice a5 (n - 1) c5) (n - 1) (fT (fun i=>H (i+1)) (n - 1))/\Value.slice a5 (n - 1) c5≠.slice none 0 0/\Below w.heap.size w w5):=⟨o5.mono (by simp),n5,BA.out.trans (b5.mono BA.out.size)⟩
  clear o5 n5 b5
  go_wp2
  go_ret
  exact ⟨_,_,rfl,F5.out⟩
