import Derived.Test.YtlpckaoldaijlaaGreatDoorUe0
import Derived.Test.YtlpckaoldaijlaaGreatDoorUe22
import Derived.Test.YtlpckaoldaijlaaGreatDoorUe35
import Derived.Test.YtlpckaoldaijlaaGreatDoorUe21
import Derived.Test.YtlpckaoldaijlaaGreatDoorUe33
import Derived.Test.YtlpckaoldaijlaaGreatDoorUe32
namespace Go.Proofs.YtlpckaoldaijlaaGreatDoor
set_option maxRecDepth 100000
set_option maxHeartbeats 4000000
open Go.ChangeShapes Go.WideShapes Go.ChangeAt Go.RowKit Go.Deep Go.Sort
theorem sumL_all {d l:Nat->Nat} (h:∀ i,d i<=l i) (n:Nat) (e:sumL d n=sumL l n) (p:Nat) (hp:p<n):d p=l p:=by
 induction n with
 | zero=>omega
 | succ n ih=>
  have h1:=sumL_le h n
  have h2:=h n
  have e':sumL d n+d n=sumL l n+l n:=e
  by_cases hpn:p=n
  ·subst hpn
   omega
  ·exact ih (by omega) (by omega)
structure OrdB (w:World) (D n:Nat) (d:Nat->Nat):Prop where
 c:∀ i,i<n->w.cell? ⟨D,i,none⟩=some (.int .i64 (d i))
 fr:∀ j,w.frozen? ⟨D,j,none⟩=false
theorem OrdB.blk {w w':World} {D n:Nat} {d:Nat->Nat} (h:OrdB w D n d) (hb:w'.heap[D]? = w.heap[D]?):OrdB w' D n d:=⟨fun i hi=>(zI hb).trans (h.c i hi),fun j=>(zJ hb).trans (h.fr j)⟩
theorem OrdB.put {w:World} {D n k:Nat} {d:Nat->Nat} (h:OrdB w D n d) (hk:k<n):OrdB (w.setCell ⟨D,k,none⟩ (.int .i64 ((d k:Int)+1))) D n (up d k):=by
 refine ⟨fun i hi=>?_,fun j=>by rw [World.frozen?_setCell];exact h.fr j⟩
 by_cases e:i=k
 ·subst e
  rw [World.cell?_setCell_same' _ _ _ (by rw [h.c i hi];rfl),up_same]
  rfl
 ·rw [World.cell?_setCell_other _ _ _ _ (by intro e';injection e' with _ e';exact e e'.symm),up_other e]
  exact h.c i hi
structure Od (w wr:World) (B D:Nat) (ha:Option Addr) (hc:Nat) (y:Hs) (d:Nat->Nat):Prop where
 pu:y.Put d
 od:OrdB wr D y.n d
 bx:wr.cell? ⟨B,3,none⟩=some (.slice ha y.n hc)
 be:Below w.heap.size w wr
theorem Od.below {w wr w':World} {B D:Nat} {ha:Option Addr} {hc:Nat} {y:Hs} {d:Nat->Nat} (h:Od w wr B D ha hc y d) (hb:Below wr.heap.size wr w') (hD:D<wr.heap.size):Od w w' B D ha hc y d:=
 ⟨h.pu,h.od.blk (hb.block D hD),(hb.cell (p:=⟨B,3,none⟩) (zK wr _ h.bx)).trans h.bx,h.be.trans (hb.mono h.be.size)⟩
theorem Od.set {w wr:World} {B D k:Nat} {ha:Option Addr} {hc:Nat} {y:Hs} {d:Nat->Nat} (h:Od w wr B D ha hc y d) (hk:k<y.n) (hcan:y.Can d k) (hBD:B≠D) (hw:w.heap.size<=D):Od w (wr.setCell ⟨D,k,none⟩ (.int .i64 ((d k:Int)+1))) B D ha hc y (up d k):=
 ⟨.next h.pu hk hcan,h.od.put hk,(World.cell?_setCell_other _ _ _ _ (by intro e;injection e with e;exact hBD e.symm)).trans h.bx,h.be.setCell hw _⟩
theorem madeInt_cell (w:World) (n i:Nat) (hi:i<n):(w.alloc (.cells (madeCells #[.int .i64 0] n) 3)).cell? ⟨w.heap.size,i,none⟩=some (.int .i64 0):=by
 rw [zZ _ _ _ i rfl]
 simp [madeCells,hi,Nat.mod_one]
theorem slice_to (a:Option Addr) (len cap h:Nat) (hh:h<=cap) (w:World):(Instr.slice 75 (.slice a len cap) none (some (.int .i64 (h:Int))) none).run Tryz.prog w=.ok (.slice a h cap) w:=by
 have hh':(h:Int)<=(cap:Int):=by omega
 cases a with
 | none=>simp [go_sem,sliced,hh']
 | some a=>simp [go_sem,sliced,hh']
theorem l4Order_any (pa:Option Addr) (pn pc:Nat) (sa:Option Addr) (sn sc:Nat) (wa:Option Addr) (wn wc:Nat) (ha:Option Addr) (hc:Nat) (hA:Nat->Option Addr) (hC:Nat->Nat) (y:Hs) (w:World) (hE:HisE w ha hA hC y) (hcap:∀ i,i<y.n->y.l i<=hC i) (h1:1<=y.n) (h4:y.n<=4) (hp:y.Peers) (hl:∀ i,i<y.n->y.l i<=200):
  Calls Tryz.prog 56 #[sysV pa pn pc sa sn sc wa wn wc ha y.n hc] w fun e w'=>e=.returned (.bool (qB y.Row))/\Below w.heap.size w w':=by
 have HE:Hid (HisE w ha hA hC y):=hE
 have HH:Hid (y.Peers/\(∀ i,i<y.n->y.l i<=200)/\(∀ i,i<y.n->y.l i<=hC i)):=⟨hp,hl,hcap⟩
 have hn4:(y.n:Int)<=4:=by omega
 have hmk:∀ wx:World,(Instr.makeSlice 30 (.int .i64 (y.n:Int)) (.int .i64 (y.n:Int))).run Tryz.prog wx=.ok (.slice (some ⟨wx.heap.size,0,none⟩) y.n y.n) (wx.alloc (.cells (madeCells #[.int .i64 0] y.n) 3)):=fun wx=>run_make_int y.n (by omega) wx
 have HOd:Hid (Od w ((w.alloc (oQ4 pa pn pc sa sn sc wa wn wc ha y.n hc)).alloc (.cells (madeCells #[.int .i64 0] y.n) 3)) w.heap.size (w.heap.size+1) ha hc y (fun _=>0)):=by
  refine ⟨.start,⟨fun i hi=>?_,fun j=>yD _ _ _ _ (by simp)⟩,?_,(zV _ _).trans ((zV _ _).mono (by simp))⟩
  ·have:=madeInt_cell (w.alloc (oQ4 pa pn pc sa sn sc wa wn wc ha y.n hc)) y.n i hi
   rw [World.size_alloc] at this
   exact this
  ·exact ((BoxC.new w _ _ _ _ _).below (zV _ _)).2.2.2
 have HD:Hid (w.heap.size+1<((w.alloc (oQ4 pa pn pc sa sn sc wa wn wc ha y.n hc)).alloc (.cells (madeCells #[.int .i64 0] y.n) 3)).heap.size):=by
  show w.heap.size+1<_
  simp
 clear hE hp hl hcap
 go_enter Tryz.func56,Tryz.ntmps56
 go_wp2_with fail
 generalize (w.alloc (oQ4 pa pn pc sa sn sc wa wn wc ha y.n hc)).alloc (.cells (madeCells #[.int .i64 0] y.n) 3)=W1 at *
 generalize hD:w.heap.size+1=D at *
 have HDW:Hid (w.heap.size+1=D):=hD
 clear hmk hD
 go_loopw [6,7] (fun s i wr=>∃ k:Nat,k<=y.n/\i=.int .i64 k/\s=.int .i64 (sumL y.l k:Nat)/\wr=W1) (fun _ i _=>y.n - (intOf i).toNat)
 case atStart=>exact ⟨0,Nat.zero_le _,rfl,rfl,rfl⟩
 case round=>
  obtain ⟨k,hk,rfl,rfl,rfl⟩:=hrel
  have hsum:sumL y.l k<=200*k:=by
   have:∀ j,j<=y.n->sumL y.l j<=200*j:=by
    intro j
    induction j with
    | zero=>exact fun _=>Nat.le_refl _
    | succ j ih=>
     intro hj
     have h5:=ih (by omega)
     have h6:=HH.out.2.1 j (by omega)
     show sumL y.l j+y.l j<=200*(j+1)
     omega
   exact this k hk
  have hsum':((sumL y.l k:Nat):Int)<=1000:=by omega
  have b3:=HOd.out.bx
  by_cases hlt:k<y.n
  ·have hlt':(k:Int)<(y.n:Int):=by omega
   obtain ⟨bh,oh,eh,ch⟩:=(HE.out.below HOd.out.be).row.at hlt
   rw [eh] at b3
   have hl2:(y.l k:Int)<=200:=by have:=HH.out.2.1 k hlt;omega
   clear hsum
   go_wp2
   go_roundw
   case rel=>exact ⟨k+1,by omega,by go_num,by simp only [sumL];congr 1,by first | rfl | trivial⟩
   case measure=>simp [intOf];omega
  ·have hkn:k=y.n:=by omega
   subst hkn
   clear hlt hk hsum b3
   have hlt':¬ ((y.n:Int)<(y.n:Int)):=by omega
   have hsumI:∀ d:Nat->Nat,y.Put d->((sumL y.l y.n:Nat):Int) - ((sumL d y.n:Nat):Int)=((sumL y.l y.n - sumL d y.n:Nat):Int):=fun d hd=>by
    have:=sumL_le hd.le y.n
    omega
   have HSI:Hid (∀ d:Nat->Nat,y.Put d->((sumL y.l y.n:Nat):Int) - ((sumL d y.n:Nat):Int)=((sumL y.l y.n - sumL d y.n:Nat):Int)):=hsumI
   have HSM:Hid (((sumL y.l y.n:Nat):Int)<=1000):=hsum'
   clear hsumI hsum'
   go_wp2_with fail
   go_loopg [5,6] (2*(sumL y.l y.n)+1) (fun gn m s wr=>∃ (t:Bool) (d:Nat->Nat),m=.bool t/\s=.int .i64 ((sumL y.l y.n - sumL d y.n:Nat):Int)/\gn=2*(sumL y.l y.n - sumL d y.n)+(if t=true then 1 else 0)/\Hid (Od w wr w.heap.size D ha hc y d/\D<wr.heap.size/\(t=false->∀ p,p<y.n->¬ y.Can d p)))
   case atStart=>exact ⟨true,fun _=>0,rfl,by rw [sumL_zero];rfl,by rw [sumL_zero];rfl,HOd.out,HD.out,fun h=>by cases h⟩
   case round=>
    clear HOd HD
    obtain ⟨t,d,rfl,rfl,hgn,HI⟩:=hrel
    rcases zO t with rfl | rfl
    ·have HGN:Hid (gk=2*(sumL y.l y.n - sumL d y.n)+1):=hgn
     clear hgn
     go_wp2_with fail
     go_loopw [5,6,8] (fun m s i wr=>∃ (k:Nat) (t':Bool) (d':Nat->Nat),k<=y.n/\i=.int .i64 k/\m=.bool t'/\s=.int .i64 ((sumL y.l y.n - sumL d' y.n:Nat):Int)/\Hid (Od w wr w.heap.size D ha hc y d'/\D<wr.heap.size/\(t'=true->sumL d y.n<sumL d' y.n)/\(t'=false->d'=d/\∀ p,p<k->¬ y.Can d p))) (fun _ _ i _=>y.n - (intOf i).toNat)
     case atStart=>exact ⟨0,false,d,Nat.zero_le _,rfl,rfl,rfl,HI.out.1,HI.out.2.1,(fun h=>by cases h),fun _=>⟨rfl,fun p hp=>by omega⟩⟩
     case round=>
      clear HI
      obtain ⟨k,t',d',hk,rfl,rfl,rfl,HJ⟩:=hrel
      by_cases hlt:k<y.n
      ·have hlt':(k:Int)<(y.n:Int):=by omega
       have hdk:d' k<=y.l k:=HJ.out.1.pu.le k
       have hl2:(y.l k:Int)<=200:=by have:=HH.out.2.1 k hlt;omega
       have dk:=HJ.out.1.od.c k hlt
       have b3:=HJ.out.1.bx
       obtain ⟨bh,oh,eh,ch⟩:=(HE.out.below HJ.out.1.be).row.at hlt
       rw [eh] at b3
       by_cases he:d' k=y.l k
       ·have HNo:Hid (¬ y.Can d' k):=fun h=>by have:=h.1;omega
        have HJ' : ∀ nq, Hid (Od w (wr.drewN nq) w.heap.size D ha hc y d' ∧ D < (wr.drewN nq).heap.size ∧ (t' = true → sumL d y.n < sumL d' y.n) ∧ (t' = false → d' = d ∧ ∀ p, p < k + 1 → ¬ y.Can d p)) := fun nq => ⟨HJ.out.1.below (yE (Below.refl _ _) _) HJ.out.2.1, HJ.out.2.1, HJ.out.2.2.1, fun h => ⟨(HJ.out.2.2.2 h).1, fun p hp => by
         have h5:=HJ.out.2.2.2 h
         by_cases e:p=k
         ·subst e
          rw [<- h5.1]
          exact HNo.out
         ·exact h5.2 p (by omega)⟩⟩
        rw [he] at dk
        have HJQ:Hid (∀ nq,Hid (Od w (wr.drewN nq) w.heap.size D ha hc y d'/\D<(wr.drewN nq).heap.size/\(t'=true->sumL d y.n<sumL d' y.n)/\(t'=false->d'=d/\∀ p,p<k+1->¬ y.Can d p))):=HJ'
        clear HJ HJ' he hdk
        go_wp2_with fail
        go_quiet (fail)
        go_wp2
        go_roundw
        case rel=>exact ⟨k+1,t',d',by omega,by go_num,rfl,rfl,HJQ.out _⟩
        case measure=>simp [intOf];omega
       ·have hkl:d' k<y.l k:=by omega
        have hkl':(d' k:Int)<(y.l k:Int):=by omega
        have hne:((d' k:Int) == (y.l k:Int))=false:=by
         have:¬ (d' k:Int)=(y.l k:Int):=by omega
         simpa using this
        clear he hdk
        go_wp2_with fail
        go_quiet (fail)
        go_wp2_with fail
        have OD:Hid (Od w (wr.drewN nq) w.heap.size D ha hc y d'/\D<(wr.drewN nq).heap.size/\(t'=true->sumL d y.n<sumL d' y.n)/\(t'=false->d'=d/\∀ p,p<k->¬ y.Can d p)):=⟨HJ.out.1.below (yE (Below.refl _ _) _) HJ.out.2.1,HJ.out.2.1,HJ.out.2.2⟩
        clear HJ dk b3 ch
        generalize wr.drewN nq=wd at *
        have dk:=OD.out.1.od.c k hlt
        have b3:=OD.out.1.bx
        obtain ⟨bh',oh',eh',ch⟩:=(HE.out.below OD.out.1.be).row.at hlt
        rw [eh'] at b3
        obtain ⟨b,off,ea,zb,e0,e1,e2⟩:=((HE.out.below OD.out.1.be).ev k hlt).at hkl
        rw [ea] at ch
        have n1:wd.heap.size≠D:=by have:=OD.out.2.1;omega
        have n2:wd.heap.size≠b:=by omega
        have n3:wd.heap.size≠bh':=by have:=zK wd _ ch;simp at this;omega
        have dk':=cell_allocs dk
        have b3':=cell_allocs b3
        have ch':=cell_allocs ch
        have e0':=cell_allocs e0
        have e1':=cell_allocs e1
        have e2':=cell_allocs e2
        clear zb
        go_region
        all_goals
         have OZ:Hid (Od w (wd.alloc (oQ0 (y.e k (d' k)).k (y.e k (d' k)).q (y.e k (d' k)).v)).drew w.heap.size D ha hc y d'/\D<(wd.alloc (oQ0 (y.e k (d' k)).k (y.e k (d' k)).q (y.e k (d' k)).v)).drew.heap.size/\(t'=true->sumL d y.n<sumL d' y.n)/\(t'=false->d'=d/\∀ p,p<k->¬ y.Can d p)):=⟨OD.out.1.below (zV _ _).drew OD.out.2.1,zP OD.out.2.1 (zV _ _).drew.size,OD.out.2.2⟩
         have z0:(wd.alloc (oQ0 (y.e k (d' k)).k (y.e k (d' k)).q (y.e k (d' k)).v)).drew.cell? ⟨wd.heap.size,0,none⟩=some (.int .i64 (y.e k (d' k)).k):=zZ wd _ _ 0 rfl
         have z1:(wd.alloc (oQ0 (y.e k (d' k)).k (y.e k (d' k)).q (y.e k (d' k)).v)).drew.cell? ⟨wd.heap.size,1,none⟩=some (.int .i64 (y.e k (d' k)).q):=zZ wd _ _ 1 rfl
         go_wp2_with fail
         clear dk b3 ch e0 e1 e2 dk' b3' ch' e0' e1' e2' n1 n2 n3 OD eh eh' ea
         generalize (wd.alloc (oQ0 (y.e k (d' k)).k (y.e k (d' k)).q (y.e k (d' k)).v)).drew=wz at *
         generalize wd.heap.size=M at *
         rcases zO ((y.e k (d' k)).k == 3) with t3 | t3
         case inr=>
          have HK3:Hid (¬ (y.e k (d' k)).k=3):=by
           show ¬ (y.e k (d' k)).k=3
           simpa using t3
          go_quiet (fail)
          have OQ:Hid (Od w (wz.drewN nq) w.heap.size D ha hc y d'/\D<(wz.drewN nq).heap.size/\(t'=true->sumL d y.n<sumL d' y.n)/\(t'=false->d'=d/\∀ p,p<k->¬ y.Can d p)):=⟨OZ.out.1.below (yE (Below.refl _ _) _) OZ.out.2.1,OZ.out.2.1,OZ.out.2.2⟩
          clear z0 z1 OZ
          generalize wz.drewN nq=wq at *
          have HCn:Hid (y.Can d' k):=⟨hkl,fun h=>absurd h HK3.out⟩
          have HPu:Hid (y.Put (up d' k)):=.next OQ.out.1.pu hlt HCn.out
          have hsu:=sumL_up (d:=d') hlt
          have hsl:=sumL_le HPu.out.le y.n
          have HLE:Hid (((sumL y.l y.n - sumL d' y.n:Nat):Int) - 1=((sumL y.l y.n - sumL (up d' k) y.n:Nat):Int)):=by
           show ((sumL y.l y.n - sumL d' y.n:Nat):Int) - 1=((sumL y.l y.n - sumL (up d' k) y.n:Nat):Int)
           omega
          have hA1:((sumL y.l y.n - sumL d' y.n:Nat):Int)<=1000:=by have:=HSM.out;omega
          have hA0:(1:Int)<=((sumL y.l y.n - sumL d' y.n:Nat):Int):=by omega
          have HNx : Hid (Od w (wq.setCell ⟨D, k, none⟩ (.int .i64 ((d' k : Int) + 1))) w.heap.size D ha hc y (up d' k) ∧ D < (wq.setCell ⟨D, k, none⟩ (.int .i64 ((d' k : Int) + 1))).heap.size ∧ (true = true → sumL d y.n < sumL (up d' k) y.n) ∧ (true = false → up d' k = d ∧ ∀ p, p < k + 1 → ¬ y.Can d p)) := ⟨OQ.out.1.set hlt HCn.out (by have := HDW.out; omega) (by have := HDW.out; omega), by simpa [World.setCell] using OQ.out.2.1, (fun _ => by
           rcases zO t' with h5 | h5
           ·have:=OQ.out.2.2.1 h5
            omega
           ·have:=(OQ.out.2.2.2 h5).1
            rw [this] at hsu ⊢
            omega),(fun h=>by cases h)⟩
          have dkq:=OQ.out.1.od.c k hlt
          have frq:=OQ.out.1.od.fr
          clear hsu hsl OQ
          generalize hAA:((sumL y.l y.n - sumL d' y.n:Nat):Int)=AA at *
          clear hAA
          go_wp2
          go_roundw
          case rel=>exact ⟨k+1,true,up d' k,by omega,by go_num,rfl,by rw [HLE.out],HNx.out⟩
          case measure=>simp [intOf];omega
         case inl=>
          have hk3:(y.e k (d' k)).k=3:=by simpa using t3
          have HK3:Hid ((y.e k (d' k)).k=3):=hk3
          have hq:=HH.out.1 k hlt (d' k) hkl
          obtain ⟨q,hqe⟩:∃ q:Nat,(y.e k (d' k)).q=(q:Int):=⟨(y.e k (d' k)).q.toNat,by omega⟩
          have HQE:Hid ((y.e k (d' k)).q=(q:Int)):=hqe
          have hqn:q<y.n:=by omega
          have hqn':(q:Int)<(y.n:Int):=by omega
          rw [hk3] at z0
          rw [hqe] at z1
          have dk:=OZ.out.1.od.c k hlt
          have dq:=OZ.out.1.od.c q hqn
          have b3:=OZ.out.1.bx
          obtain ⟨bz,oz,ez,ch⟩:=(HE.out.below OZ.out.1.be).row.at hlt
          obtain ⟨bz',oz',ez',cq⟩:=(HE.out.below OZ.out.1.be).row.at hqn
          rw [ez] at b3 ez'
          simp only [Option.some.injEq,Addr.mk.injEq] at ez'
          obtain ⟨rfl,rfl,-⟩:=ez'
          have ks:=slice_to (hA k) (y.l k) (hC k) (d' k) (by have:=HH.out.2.2 k hlt;omega)
          have qs:=slice_to (hA q) (y.l q) (hC q) (d' q) (by have:=HH.out.2.2 q hqn;have:=OZ.out.1.pu.le q;omega)
          have HCk:Hid (∀ dd os,Calls Tryz.prog 105 #[.slice (hA k) (d' k) (hC k),.int .i64 3,.int .i64 q] (grow (redrawn wz dd) os) fun e w'=>e=.returned (.int .i64 (cnt (y.e k) 3 q (d' k):Nat))/\Below (grow (redrawn wz dd) os).heap.size (grow (redrawn wz dd) os) w'):=fun dd os=>specCount_l (hA k) (d' k) (hC k) (y.e k) 3 q _ (by have:=HH.out.2.1 k hlt;omega) (((HE.out.below OZ.out.1.be).below (below_regrown wz dd os)).ev k hlt |>.take (by omega))
          have HCq:Hid (∀ dd os,Calls Tryz.prog 105 #[.slice (hA q) (d' q) (hC q),.int .i64 2,.int .i64 k] (grow (redrawn wz dd) os) fun e w'=>e=.returned (.int .i64 (cnt (y.e q) 2 k (d' q):Nat))/\Below (grow (redrawn wz dd) os).heap.size (grow (redrawn wz dd) os) w'):=fun dd os=>specCount_l (hA q) (d' q) (hC q) (y.e q) 2 k _ (by have:=HH.out.2.1 q hqn;have:=OZ.out.1.pu.le q;omega) (((HE.out.below OZ.out.1.be).below (below_regrown wz dd os)).ev q hqn |>.take (OZ.out.1.pu.le q))
          have z0':=cell_regrown z0
          have z1':=cell_regrown z1
          have dk':=cell_regrown dk
          have dq':=cell_regrown dq
          have b3':=cell_regrown b3
          have ch':=cell_regrown ch
          have cq':=cell_regrown cq
          clear ez hq hqe hk3 t3
          refine wp_region_quiet_below (by kernel_rfl) (by kernel_rfl) ?_
          repeat (quiet_step (first|(go_at_call_of 105 (hA k);exact Calls.regrown_of (HCk.out _ _))|(go_at_call_of 105 (hA q);exact Calls.regrown_of (HCq.out _ _))))
          refine wpQuiet_nil ?_
          intro _ hw'
          obtain ⟨⟨dd,os⟩,hw''⟩:=hw'
          subst hw''
          have OQ:Hid (Od w (grow (redrawn wz dd) os) w.heap.size D ha hc y d'/\D<(grow (redrawn wz dd) os).heap.size/\(t'=true->sumL d y.n<sumL d' y.n)/\(t'=false->d'=d/\∀ p,p<k->¬ y.Can d p)):=⟨OZ.out.1.below (below_regrown wz dd os) OZ.out.2.1,zP OZ.out.2.1 (below_regrown wz dd os).size,OZ.out.2.2⟩
          clear z0' z1' dk' dq' b3' ch' cq' z0 z1 dk dq b3 ch cq ks qs HCk HCq OZ
          generalize grow (redrawn wz dd) os=wq at *
          have HCan:Hid (y.Can d' k ↔ cnt (y.e k) 3 q (d' k)<cnt (y.e q) 2 k (d' q)):=by
           show y.Can d' k ↔ _
           unfold Hs.Can
           rw [HQE.out]
           rw [show ((q:Int)).toNat=q by omega]
           exact ⟨fun h=>h.2 HK3.out,fun h=>⟨hkl,fun _=>h⟩⟩
          generalize cnt (y.e k) 3 q (d' k)=c1 at *
          generalize cnt (y.e q) 2 k (d' q)=c2 at *
          by_cases hcc:(c2:Int)<=(c1:Int)
          ·have HNo:Hid (¬ y.Can d' k):=fun h=>by have:=HCan.out.1 h;omega
           have HJ2 : Hid (Od w wq w.heap.size D ha hc y d' ∧ D < wq.heap.size ∧ (t' = true → sumL d y.n < sumL d' y.n) ∧ (t' = false → d' = d ∧ ∀ p, p < k + 1 → ¬ y.Can d p)) := ⟨OQ.out.1, OQ.out.2.1, OQ.out.2.2.1, fun h => ⟨(OQ.out.2.2.2 h).1, fun p hp => by
            have h5:=OQ.out.2.2.2 h
            by_cases e:p=k
            ·subst e
             rw [<- h5.1]
             exact HNo.out
            ·exact h5.2 p (by omega)⟩⟩
           clear OQ HCan
           go_wp2
           go_roundw
           case rel=>exact ⟨k+1,t',d',by omega,by go_num,rfl,rfl,HJ2.out⟩
           case measure=>simp [intOf];omega
          ·have HCx:Hid (y.Can d' k):=HCan.out.2 (by omega)
           clear HCan
           have HCn:Hid (y.Can d' k):=HCx.out
           have HPu:Hid (y.Put (up d' k)):=.next OQ.out.1.pu hlt HCn.out
           have hsu:=sumL_up (d:=d') hlt
           have hsl:=sumL_le HPu.out.le y.n
           have HLE:Hid (((sumL y.l y.n - sumL d' y.n:Nat):Int) - 1=((sumL y.l y.n - sumL (up d' k) y.n:Nat):Int)):=by
            show ((sumL y.l y.n - sumL d' y.n:Nat):Int) - 1=((sumL y.l y.n - sumL (up d' k) y.n:Nat):Int)
            omega
           have hA1:((sumL y.l y.n - sumL d' y.n:Nat):Int)<=1000:=by have:=HSM.out;omega
           have hA0:(1:Int)<=((sumL y.l y.n - sumL d' y.n:Nat):Int):=by omega
           have HNx : Hid (Od w (wq.setCell ⟨D, k, none⟩ (.int .i64 ((d' k : Int) + 1))) w.heap.size D ha hc y (up d' k) ∧ D < (wq.setCell ⟨D, k, none⟩ (.int .i64 ((d' k : Int) + 1))).heap.size ∧ (true = true → sumL d y.n < sumL (up d' k) y.n) ∧ (true = false → up d' k = d ∧ ∀ p, p < k + 1 → ¬ y.Can d p)) := ⟨OQ.out.1.set hlt HCn.out (by have := HDW.out; omega) (by have := HDW.out; omega), by simpa [World.setCell] using OQ.out.2.1, (fun _ => by
            rcases zO t' with h5 | h5
            ·have:=OQ.out.2.2.1 h5
             omega
            ·have:=(OQ.out.2.2.2 h5).1
             rw [this] at hsu ⊢
             omega),(fun h=>by cases h)⟩
           have dkq:=OQ.out.1.od.c k hlt
           have frq:=OQ.out.1.od.fr
           clear hsu hsl OQ
           generalize hAA:((sumL y.l y.n - sumL d' y.n:Nat):Int)=AA at *
           clear hAA
           go_wp2
           go_roundw
           case rel=>exact ⟨k+1,true,up d' k,by omega,by go_num,rfl,by rw [HLE.out],HNx.out⟩
           case measure=>simp [intOf];omega
      ·have hkn:k=y.n:=by omega
       subst hkn
       have HF:Hid (2*(sumL y.l y.n - sumL d' y.n)+(if t'=true then 1 else 0)<gk):=by
        have h2:=HGN.out
        have h3:=sumL_le HJ.out.1.pu.le y.n
        show _<gk
        cases t' with
        | true=>
         have h4:=HJ.out.2.2.1 rfl
         simp only [if_true]
         omega
        | false=>
         have h4:=(HJ.out.2.2.2 rfl).1
         rw [h4]
         simp only [Bool.false_eq_true,if_false]
         omega
       have HG2 : Hid (Od w wr w.heap.size D ha hc y d' ∧ D < wr.heap.size ∧ (t' = false → ∀ p, p < y.n → ¬ y.Can d' p)) := ⟨HJ.out.1, HJ.out.2.1, fun h p hp => by
        have:=HJ.out.2.2.2 h
        rw [this.1]
        exact this.2 p hp⟩
       clear HJ
       go_wp2
       go_roundg (2*(sumL y.l y.n - sumL d' y.n)+(if t'=true then 1 else 0))
       case measure=>exact HF.out
       case rel=>exact ⟨t',d',rfl,rfl,rfl,HG2.out⟩
    ·have HR:Hid ((((sumL y.l y.n - sumL d y.n:Nat):Int) == 0)=qB y.Row):=by
      show (((sumL y.l y.n - sumL d y.n:Nat):Int) == 0)=qB y.Row
      have hi:=Hs.row_iff HI.out.1.pu HH.out.1 (HI.out.2.2 rfl)
      have hle:=HI.out.1.pu.le
      by_cases hr:y.Row
      ·have:sumL d y.n=sumL y.l y.n:=sumL_same fun i hi'=>hi.1 hr i hi'
       rw [qB_true hr,this]
       simp
      ·rw [qB_false hr]
       have:sumL y.l y.n - sumL d y.n≠0:=fun e=>hr (hi.2 (sumL_all hle _ (by have:=sumL_le hle y.n;omega)))
       have h2:((sumL y.l y.n - sumL d y.n:Nat):Int)≠0:=by omega
       simpa using h2
     have HB:Hid (Below w.heap.size w wr):=HI.out.1.be
     clear HI hgn
     go_wp2
     go_ret
     rw [HR.out]
     exact ⟨rfl,HB.out⟩
theorem eqSys_same (x:SysIn) (l1 u1 l2 u2:Nat) (v1 v2:Value) (w:World) (hs:x.size<=1048576) (o1:IsSys w l1 u1 x v1) (o2:IsSys w l2 u2 x v2):
  Calls Tryz.prog 25 #[v1,v2] w fun e w'=>e=.returned (.bool true)/\Below w.heap.size w w':=by
 obtain ⟨D1,D2,D3,D4,b1,vs,b3,b4,h1,h2,h3,o1⟩:=o1
 obtain ⟨E1,E2,E3,E4,c1,us,c3,c4,g1,g2,g3,o2⟩:=o2
 have HS:Hid (x.size<=1048576):=hs
 obtain ⟨rfl,p1,s1,w1,i1,-,-,-,-⟩:=o1
 obtain ⟨rfl,p2,s2,w2,i2,-,-,-,-⟩:=o2
 have P1:Hid (OutIns w D1 h1 x.pn x.pL b1 x.pH):=p1
 have P2:Hid (OutIns w E1 g1 x.pn x.pL c1 x.pH):=p2
 have S1:Hid (OutState w D2 h2 x.sn x.sS vs):=s1
 have S2:Hid (OutState w E2 g2 x.sn x.sS us):=s2
 have W1:Hid (OutItem w D3 h3 x.wn x.wL b3 x.wH):=w1
 have W2:Hid (OutItem w E3 g3 x.wn x.wL c3 x.wH):=w2
 have I1:Hid (OutEvent w D4 u1 x.hn x.hL b4 x.hH):=i1
 have I2:Hid (OutEvent w E4 u2 x.hn x.hL c4 x.hH):=i2
 clear p1 p2 s1 s2 w1 w2 i1 i2 hs
 go_enter Tryz.func25,Tryz.ntmps25
 have X0:Hid (BoxC ((w.alloc (oQ4 (some ⟨D1,0,none⟩) x.pn x.pn (some ⟨D2,0,none⟩) x.sn x.sn (some ⟨D3,0,none⟩) x.wn x.wn (some ⟨D4,0,none⟩) x.hn x.hn)).alloc (oQ4 (some ⟨E1,0,none⟩) x.pn x.pn (some ⟨E2,0,none⟩) x.sn x.sn (some ⟨E3,0,none⟩) x.wn x.wn (some ⟨E4,0,none⟩) x.hn x.hn)) w.heap.size (.slice (some ⟨D1,0,none⟩) x.pn x.pn) (.slice (some ⟨D2,0,none⟩) x.sn x.sn) (.slice (some ⟨D3,0,none⟩) x.wn x.wn) (.slice (some ⟨D4,0,none⟩) x.hn x.hn)/\BoxC ((w.alloc (oQ4 (some ⟨D1,0,none⟩) x.pn x.pn (some ⟨D2,0,none⟩) x.sn x.sn (some ⟨D3,0,none⟩) x.wn x.wn (some ⟨D4,0,none⟩) x.hn x.hn)).alloc (oQ4 (some ⟨E1,0,none⟩) x.pn x.pn (some ⟨E2,0,none⟩) x.sn x.sn (some ⟨E3,0,none⟩) x.wn x.wn (some ⟨E4,0,none⟩) x.hn x.hn)) (w.heap.size+1) (.slice (some ⟨E1,0,none⟩) x.pn x.pn) (.slice (some ⟨E2,0,none⟩) x.sn x.sn) (.slice (some ⟨E3,0,none⟩) x.wn x.wn) (.slice (some ⟨E4,0,none⟩) x.hn x.hn)/\Below w.heap.size w ((w.alloc (oQ4 (some ⟨D1,0,none⟩) x.pn x.pn (some ⟨D2,0,none⟩) x.sn x.sn (some ⟨D3,0,none⟩) x.wn x.wn (some ⟨D4,0,none⟩) x.hn x.hn)).alloc (oQ4 (some ⟨E1,0,none⟩) x.pn x.pn (some ⟨E2,0,none⟩) x.sn x.sn (some ⟨E3,0,none⟩) x.wn x.wn (some ⟨E4,0,none⟩) x.hn x.hn))/\w.heap.size+2<=((w.alloc (oQ4 (some ⟨D1,0,none⟩) x.pn x.pn (some ⟨D2,0,none⟩) x.sn x.sn (some ⟨D3,0,none⟩) x.wn x.wn (some ⟨D4,0,none⟩) x.hn x.hn)).alloc (oQ4 (some ⟨E1,0,none⟩) x.pn x.pn (some ⟨E2,0,none⟩) x.sn x.sn (some ⟨E3,0,none⟩) x.wn x.wn (some ⟨E4,0,none⟩) x.hn x.hn)).heap.size):=by
  have n1:=BoxC.new w (.slice (some ⟨D1,0,none⟩) x.pn x.pn) (.slice (some ⟨D2,0,none⟩) x.sn x.sn) (.slice (some ⟨D3,0,none⟩) x.wn x.wn) (.slice (some ⟨D4,0,none⟩) x.hn x.hn) 29
  have n2:=BoxC.new (w.alloc (oQ4 (some ⟨D1,0,none⟩) x.pn x.pn (some ⟨D2,0,none⟩) x.sn x.sn (some ⟨D3,0,none⟩) x.wn x.wn (some ⟨D4,0,none⟩) x.hn x.hn)) (.slice (some ⟨E1,0,none⟩) x.pn x.pn) (.slice (some ⟨E2,0,none⟩) x.sn x.sn) (.slice (some ⟨E3,0,none⟩) x.wn x.wn) (.slice (some ⟨E4,0,none⟩) x.hn x.hn) 29
  simp only [World.size_alloc] at n2
  exact ⟨n1.below (below_allocS _ _),n2,((Below.refl _ _).alloc (Nat.le_refl _) _).alloc (by simp) _,by simp⟩
 go_wp2_with fail
 generalize (w.alloc (oQ4 (some ⟨D1,0,none⟩) x.pn x.pn (some ⟨D2,0,none⟩) x.sn x.sn (some ⟨D3,0,none⟩) x.wn x.wn (some ⟨D4,0,none⟩) x.hn x.hn)).alloc (oQ4 (some ⟨E1,0,none⟩) x.pn x.pn (some ⟨E2,0,none⟩) x.sn x.sn (some ⟨E3,0,none⟩) x.wn x.wn (some ⟨E4,0,none⟩) x.hn x.hn)=wA at *
 refine (eqInsSS_same D1 h1 E1 g1 x.pn _ _ x.pL b1 c1 x.pH _ (SysIn.lens HS.out).1.1 (sum_le (SysIn.lens HS.out).1.2) (P1.out.below X0.out.2.2.1 P1.out.le) (P2.out.below X0.out.2.2.1 P2.out.le)).mono ?_
 rintro e w1 ⟨rfl,b1'⟩
 have X1:Hid (BoxC w1 w.heap.size (.slice (some ⟨D1,0,none⟩) x.pn x.pn) (.slice (some ⟨D2,0,none⟩) x.sn x.sn) (.slice (some ⟨D3,0,none⟩) x.wn x.wn) (.slice (some ⟨D4,0,none⟩) x.hn x.hn)/\BoxC w1 (w.heap.size+1) (.slice (some ⟨E1,0,none⟩) x.pn x.pn) (.slice (some ⟨E2,0,none⟩) x.sn x.sn) (.slice (some ⟨E3,0,none⟩) x.wn x.wn) (.slice (some ⟨E4,0,none⟩) x.hn x.hn)/\Below w.heap.size w w1/\w.heap.size+2<=w1.heap.size):=⟨X0.out.1.below b1',X0.out.2.1.below b1',X0.out.2.2.1.trans (b1'.mono X0.out.2.2.1.size),zS X0.out.2.2.2 b1'.size⟩
 have BE1:Hid (Below w.heap.size w w1):=X1.out.2.2.1
 clear X0 b1'
 obtain ⟨⟨p0,p1,p2,p3⟩,⟨q0,q1,q2,q3⟩,-,le⟩:=X1.out
 go_wp2_with fail
 clear p0 p1 p2 p3 q0 q1 q2 q3 le
 refine (eqStateS_same D2 h2 E2 g2 x.sn _ _ x.sS vs us _ (SysIn.lens HS.out).2.1.1 (SysIn.lensS HS.out) (S1.out.below BE1.out S1.out.le) (S2.out.below BE1.out S2.out.le)).mono ?_
 rintro e w2 ⟨rfl,b2'⟩
 have X2:Hid (BoxC w2 w.heap.size (.slice (some ⟨D1,0,none⟩) x.pn x.pn) (.slice (some ⟨D2,0,none⟩) x.sn x.sn) (.slice (some ⟨D3,0,none⟩) x.wn x.wn) (.slice (some ⟨D4,0,none⟩) x.hn x.hn)/\BoxC w2 (w.heap.size+1) (.slice (some ⟨E1,0,none⟩) x.pn x.pn) (.slice (some ⟨E2,0,none⟩) x.sn x.sn) (.slice (some ⟨E3,0,none⟩) x.wn x.wn) (.slice (some ⟨E4,0,none⟩) x.hn x.hn)/\Below w.heap.size w w2/\w.heap.size+2<=w2.heap.size):=⟨X1.out.1.below b2',X1.out.2.1.below b2',X1.out.2.2.1.trans (b2'.mono X1.out.2.2.1.size),zS X1.out.2.2.2 b2'.size⟩
 have BE2:Hid (Below w.heap.size w w2):=X2.out.2.2.1
 clear X1 b2' BE1
 obtain ⟨⟨p0,p1,p2,p3⟩,⟨q0,q1,q2,q3⟩,-,le⟩:=X2.out
 go_wp2_with fail
 clear p0 p1 p2 p3 q0 q1 q2 q3 le
 refine (eqItemSS_same D3 h3 E3 g3 x.wn _ _ x.wL b3 c3 x.wH _ (SysIn.lens HS.out).2.2.1.1 (sum_le (SysIn.lens HS.out).2.2.1.2) (W1.out.below BE2.out W1.out.le) (W2.out.below BE2.out W2.out.le)).mono ?_
 rintro e w3 ⟨rfl,b3'⟩
 have X3:Hid (BoxC w3 w.heap.size (.slice (some ⟨D1,0,none⟩) x.pn x.pn) (.slice (some ⟨D2,0,none⟩) x.sn x.sn) (.slice (some ⟨D3,0,none⟩) x.wn x.wn) (.slice (some ⟨D4,0,none⟩) x.hn x.hn)/\BoxC w3 (w.heap.size+1) (.slice (some ⟨E1,0,none⟩) x.pn x.pn) (.slice (some ⟨E2,0,none⟩) x.sn x.sn) (.slice (some ⟨E3,0,none⟩) x.wn x.wn) (.slice (some ⟨E4,0,none⟩) x.hn x.hn)/\Below w.heap.size w w3/\w.heap.size+2<=w3.heap.size):=⟨X2.out.1.below b3',X2.out.2.1.below b3',X2.out.2.2.1.trans (b3'.mono X2.out.2.2.1.size),zS X2.out.2.2.2 b3'.size⟩
 have BE3:Hid (Below w.heap.size w w3):=X3.out.2.2.1
 clear X2 b3' BE2
 obtain ⟨⟨p0,p1,p2,p3⟩,⟨q0,q1,q2,q3⟩,-,le⟩:=X3.out
 go_wp2_with fail
 clear p0 p1 p2 p3 q0 q1 q2 q3 le
 refine (eqEventSS_same D4 u1 E4 u2 x.hn _ _ x.hL b4 c4 x.hH _ (SysIn.lens HS.out).2.2.2.1 (sum_le (SysIn.lens HS.out).2.2.2.2) (I1.out.below BE3.out I1.out.le) (I2.out.below BE3.out I2.out.le)).mono ?_
 rintro e w4 ⟨rfl,b4'⟩
 have X4:Hid (BoxC w4 w.heap.size (.slice (some ⟨D1,0,none⟩) x.pn x.pn) (.slice (some ⟨D2,0,none⟩) x.sn x.sn) (.slice (some ⟨D3,0,none⟩) x.wn x.wn) (.slice (some ⟨D4,0,none⟩) x.hn x.hn)/\BoxC w4 (w.heap.size+1) (.slice (some ⟨E1,0,none⟩) x.pn x.pn) (.slice (some ⟨E2,0,none⟩) x.sn x.sn) (.slice (some ⟨E3,0,none⟩) x.wn x.wn) (.slice (some ⟨E4,0,none⟩) x.hn x.hn)/\Below w.heap.size w w4/\w.heap.size+2<=w4.heap.size):=⟨X3.out.1.below b4',X3.out.2.1.below b4',X3.out.2.2.1.trans (b4'.mono X3.out.2.2.1.size),zS X3.out.2.2.2 b4'.size⟩
 have BE4:Hid (Below w.heap.size w w4):=X4.out.2.2.1
 clear X3 b4' BE3
 go_wp2
 go_ret
 exact ⟨rfl,BE4.out⟩
structure MkY (w wx:World) (lo hi D1 D2 D3 D4:Nat) (x:SysIn):Prop where
 tch:Touch (fun b=>lo<=b/\b<hi) w wx
 bx:BoxC wx w.heap.size (.slice (some ⟨D1,0,none⟩) x.pn x.pn) (.slice (some ⟨D2,0,none⟩) x.sn x.sn) (.slice (some ⟨D3,0,none⟩) x.wn x.wn) (.slice (some ⟨D4,0,none⟩) x.hn x.hn)
 lt:w.heap.size<wx.heap.size
theorem MkY.step {w wx w':World} {lo hi D1 D2 D3 D4:Nat} {x:SysIn} (h:MkY w wx lo hi D1 D2 D3 D4 x) (hh:hi<=w.heap.size) {P:Nat->Prop} (ht:Touch P wx w') (hp:∀ b,P b->lo<=b/\b<hi):MkY w w' lo hi D1 D2 D3 D4 x:=by
 refine ⟨h.tch.trans (ht.mono hp),?_,zP h.lt ht.size⟩
 obtain ⟨h0,h1,h2,h3⟩:=h.bx
 have hc:∀ i,w'.cell? ⟨w.heap.size,i,none⟩=wx.cell? ⟨w.heap.size,i,none⟩:=fun i=>ht.cell h.lt (fun e=>by have:=hp _ e;omega) i
 exact ⟨(hc _).trans h0,(hc _).trans h1,(hc _).trans h2,(hc _).trans h3⟩
theorem open_sysE {H:Type} {enc:TypeId × Value->H} {w:World} {base b0:Nat} {held:Bool} {rc:Reach} {v:Value} {d:DataW H} {p:List MemPlace}
  (hv:Value.okWide Tryz.prog w rc b0 43 v) (h:DataW.Trod enc Tryz.prog w base (fun _=>true) held 43 v d p):
  ∃ x:SysIn,v=sysV x.pa x.pn x.pc x.sa x.sn x.sc x.wa x.wn x.wc x.ha x.hn x.hc/\x.Row w/\x.Max/\(x.size<=1048576->∃ y:SysIn,v=sysV y.pa y.pn y.pc y.sa y.sn y.sc y.wa y.wn y.wc y.ha y.hn y.hc/\y.Ok w/\y.size=x.size):=by
 obtain ⟨cs,rfl,hsz⟩:=okWide_struct Tryz.underlying43 hv
 have h4:Tryz.prog.cellsOf 43=4:=by kernel_rfl
 obtain ⟨c0,c1,c2,c3,rfl⟩:=array4 (hsz.trans h4)
 obtain ⟨fuel,hf⟩:=h
 have hf':DataW.trod enc Tryz.prog w base (fun _=>true) held fuel 43 [c0,c1,c2,c3]=some (d,p):=by simpa [Value.cells] using hf
 obtain ⟨xs,m,-,-,-,hl,hx⟩:=DataW.trod_struct Tryz.underlying43 hf'
 have hl:xs.length=4:=hl
 have k0:Tryz.prog.cellsOf 38=1:=by kernel_rfl
 have k1:Tryz.prog.cellsOf 39=1:=by kernel_rfl
 have k2:Tryz.prog.cellsOf 40=1:=by kernel_rfl
 have k3:Tryz.prog.cellsOf 41=1:=by kernel_rfl
 have q0:DataW.trod enc Tryz.prog w base (fun _=>true) held m 38 [c0]=xs[0]?:=by simpa [k0] using hx 0 _ rfl
 have q1:DataW.trod enc Tryz.prog w base (fun _=>true) held m 39 [c1]=xs[1]?:=by simpa [k1] using hx 1 _ rfl
 have q2:DataW.trod enc Tryz.prog w base (fun _=>true) held m 40 [c2]=xs[2]?:=by simpa [k2] using hx 2 _ rfl
 have q3:DataW.trod enc Tryz.prog w base (fun _=>true) held m 41 [c3]=xs[3]?:=by simpa [k3] using hx 3 _ rfl
 rw [List.getElem?_eq_getElem (by omega)] at q0 q1 q2 q3
 have sl:∀ {t el:TypeId} {c:Value} {y:DataW H × List MemPlace},Tryz.prog.underlying t=some (.slice el)->DataW.trod enc Tryz.prog w base (fun _=>true) held m t [c]=some y->∃ a l k,c=.slice a l k:=by
  intro t el c y hu hy
  rcases Go.Deep.open_slice hu hy with ⟨hcs,_⟩ | ⟨a,len',cap',m,n,D,Pl,hcs,_⟩
  ·simp at hcs
   exact ⟨_,_,_,hcs⟩
  ·simp at hcs
   exact ⟨_,_,_,hcs⟩
 obtain ⟨pa,pn,pc,rfl⟩:=sl Tryz.underlying38 q0
 obtain ⟨sa,sn,sc,rfl⟩:=sl Tryz.underlying39 q1
 obtain ⟨wa,wn,wc,rfl⟩:=sl Tryz.underlying40 q2
 obtain ⟨ha,hn,hc,rfl⟩:=sl Tryz.underlying41 q3
 obtain ⟨m0,pA,pL,pC,r0,x0,g0⟩:=open_InsSS (d:=(xs[0]'(by omega)).1) (p:=(xs[0]'(by omega)).2) ⟨m,by simpa [Value.cells] using q0⟩
 obtain ⟨m1,sQ,r1,x1⟩:=open_StateS (d:=(xs[1]'(by omega)).1) (p:=(xs[1]'(by omega)).2) ⟨m,by simpa [Value.cells] using q1⟩
 obtain ⟨m2,wA,wL,wC,r2,x2,g2⟩:=open_ItemSS (d:=(xs[2]'(by omega)).1) (p:=(xs[2]'(by omega)).2) ⟨m,by simpa [Value.cells] using q2⟩
 obtain ⟨m3,hA,hL,hC,r3,x3,g3⟩:=open_EventSS (d:=(xs[3]'(by omega)).1) (p:=(xs[3]'(by omega)).2) ⟨m,by simpa [Value.cells] using q3⟩
 refine ⟨⟨pa,pn,pc,pA,pL,pC,fun _ _=>⟨0,0,0,0,0⟩,sa,sn,sc,sQ,wa,wn,wc,wA,wL,wC,fun _ _=>⟨false,0⟩,ha,hn,hc,hA,hL,hC,fun _ _=>⟨0,0,0⟩⟩,rfl,⟨r0,r1,r2,r3⟩,⟨⟨m0,x0⟩,⟨m1,x1⟩,⟨m2,x2⟩,⟨m3,x3⟩⟩,fun hs=>?_⟩
 have hl:=SysIn.lens hs
 obtain ⟨pH,a0⟩:=g0 (sum_le hl.1.2)
 obtain ⟨wH,a2⟩:=g2 (sum_le hl.2.2.1.2)
 obtain ⟨hH,a3⟩:=g3 (sum_le hl.2.2.2.2)
 exact ⟨⟨pa,pn,pc,pA,pL,pC,pH,sa,sn,sc,sQ,wa,wn,wc,wA,wL,wC,wH,ha,hn,hc,hA,hL,hC,hH⟩,rfl,⟨a0,r1,a2,a3⟩,rfl⟩
theorem open_sys {H:Type} {enc:TypeId × Value->H} {w:World} {base b0:Nat} {held:Bool} {rc:Reach} {v:Value} {d:DataW H} {p:List MemPlace}
  (hv:Value.okWide Tryz.prog w rc b0 43 v) (h:DataW.Trod enc Tryz.prog w base (fun _=>true) held 43 v d p):
  ∃ x:SysIn,v=sysV x.pa x.pn x.pc x.sa x.sn x.sc x.wa x.wn x.wc x.ha x.hn x.hc/\x.Row w/\x.Max/\(x.size<=1048576->∃ y:SysIn,v=sysV y.pa y.pn y.pc y.sa y.sn y.sc y.wa y.wn y.wc y.ha y.hn y.hc/\y.Ok w/\y.size<=1048576):=by
 obtain ⟨x,e,hr,hm,hy⟩:=open_sysE hv h
 refine ⟨x,e,hr,hm,fun hs=>?_⟩
 obtain ⟨y,ey,ho,hz⟩:=hy hs
 exact ⟨y,ey,ho,hz ▸ hs⟩
structure Sy.Sm (y:Sy):Prop where
 n:y.pn<=16/\y.sn<=16/\y.wn<=16/\y.hn<=16
 p:∀ i,i<y.pn->y.pL i<=1000
 s:∀ i,i<y.sn->(y.sS i).rs.length<=1000/\(y.sS i).os.length<=1000
 w:∀ i,i<y.wn->y.wL i<=1000
 h:∀ i,i<y.hn->y.hL i<=1000
theorem okS_len {n:Nat} {S:S4} (h:OkS n S):S.rs.length<=60/\S.os.length<=60:=by
 obtain ⟨⟨r0,r1,r2,r3,e,-⟩,-,h60,-⟩:=st_parts h
 exact ⟨by rw [e];simp,h60⟩
theorem Sy.Ok.bds {y:Sy} (h:y.Ok):(∀ i,i<y.pn->y.pL i<=30)/\(∀ i,i<y.sn->OkS (y.pL i) (y.sS i))/\(∀ i,i<y.wn->y.wL i<=12)/\(∀ i,i<y.hn->y.hL i<=200):=by
 obtain ⟨⟨h1,h4⟩,hs,hh,hw⟩:=h.cn
 refine ⟨fun i hi=>?_,fun i hi=>h.st (by omega),fun i hi=>?_,fun i hi=>h.le200 (by omega)⟩
 ·have h1:=h.four hi
  simp only [progOkB,Bool.and_eq_true,inB,decide_eq_true_eq] at h1
  have:=h1.2.1
  omega
 ·rw [hw] at hi
  have ha:i / y.pn<y.pn:=Nat.div_lt_of_lt_mul hi
  have hb:i % y.pn<y.pn:=Nat.mod_lt _ (by omega)
  have e:i / y.pn*y.pn+i % y.pn=i:=by rw [Nat.mul_comm];exact Nat.div_add_mod i y.pn
  have:=h.way ha hb
  rw [e] at this
  exact this
theorem Sy.Ok.sm {y:Sy} (h:y.Ok):y.Sm:=by
 obtain ⟨⟨h1,h4⟩,hs,hh,hw⟩:=h.cn
 obtain ⟨b1,b2,b3,b4⟩:=h.bds
 have h16:y.pn*y.pn<=16:=zS (Nat.mul_le_mul h4 h4) (by omega)
 exact ⟨⟨by omega,by omega,by omega,by omega⟩,fun i hi=>by have:=b1 i hi;omega,fun i hi=>by have:=okS_len (b2 i hi);omega,fun i hi=>by have:=b3 i hi;omega,fun i hi=>by have:=b4 i hi;omega⟩
