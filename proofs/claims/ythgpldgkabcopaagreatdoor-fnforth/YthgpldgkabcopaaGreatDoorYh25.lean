import Derived.Test.YthgpldgkabcopaaGreatDoorYh24
namespace Go.Proofs.YthgpldgkabcopaaGreatDoor
set_option maxRecDepth 100000
set_option maxHeartbeats 4000000
open Go.ChangeShapes Go.WideShapes Go.ChangeAt Go.RowKit Go.Deep Go.Sort
theorem qu4 {d l:Nat->Nat} (h:∀ i,d i<=l i) (n:Nat) (e:sumL d n=sumL l n) (p:Nat) (hp:p<n):d p=l p:=by
 induction n with
 | zero=>omega
 | succ n ih=>
  have h1:=qeq h n
  have h2:=h n
  have e':sumL d n+d n=sumL l n+l n:=e
  by_cases hpn:p=n
  ·subst hpn
   omega
  ·exact ih (by omega) (by omega)
structure OrdB (w:World) (D n:Nat) (d:Nat->Nat):Prop where
 c:∀ i,i<n->w.cell? ⟨D,i,none⟩=some (.int .i64 (d i))
 fr:∀ j,w.frozen? ⟨D,j,none⟩=false
theorem OrdB.blk {w w':World} {D n:Nat} {d:Nat->Nat} (h:OrdB w D n d) (hb:w'.heap[D]? = w.heap[D]?):OrdB w' D n d:=⟨fun i hi=>(zH hb).trans (h.c i hi),fun j=>(zI hb).trans (h.fr j)⟩
theorem OrdB.put {w:World} {D n k:Nat} {d:Nat->Nat} (h:OrdB w D n d) (hk:k<n):OrdB (w.setCell (aQ D k) (.int .i64 ((d k:Int)+1))) D n (up d k):=by
 refine ⟨fun i hi=>?_,fun j=>by rw [World.frozen?_setCell];exact h.fr j⟩
 by_cases e:i=k
 ·subst e
  rw [World.cell?_setCell_same' _ _ _ (by rw [h.c i hi];rfl),qc0]
  rfl
 ·rw [World.cell?_setCell_other _ _ _ _ (by intro e';injection e' with _ e';exact e e'.symm),up_other e]
  exact h.c i hi
structure Od (w wr:World) (B D:Nat) (ha:Option Addr) (hc:Nat) (y:Hs) (d:Nat->Nat):Prop where
 pu:y.Put d
 od:OrdB wr D y.n d
 bx:wr.cell? (aQ B 3)=some (.slice ha y.n hc)
 be:Bw w wr
theorem Od.below {w wr w':World} {B D:Nat} {ha:Option Addr} {hc:Nat} {y:Hs} {d:Nat->Nat} (h:Od w wr B D ha hc y d) (hb:Bw wr w') (hD:D<wr.heap.size):Od w w' B D ha hc y d:=
 ⟨h.pu,h.od.blk (hb.block D hD),(hb.cell (p:=(aQ B 3)) (zJ wr _ h.bx)).trans h.bx,h.be.trans (hb.mono h.be.size)⟩
theorem Od.set {w wr:World} {B D k:Nat} {ha:Option Addr} {hc:Nat} {y:Hs} {d:Nat->Nat} (h:Od w wr B D ha hc y d) (hk:k<y.n) (hcan:y.Can d k) (hBD:B≠D) (hw:w.heap.size<=D):Od w (wr.setCell (aQ D k) (.int .i64 ((d k:Int)+1))) B D ha hc y (up d k):=
 ⟨.next h.pu hk hcan,h.od.put hk,(World.cell?_setCell_other _ _ _ _ (by intro e;injection e with e;exact hBD e.symm)).trans h.bx,h.be.setCell hw _⟩
theorem ql8 (w:World) (n i:Nat) (hi:i<n):(w.alloc (.cells (madeCells #[.int .i64 0] n) 3)).cell? (aQ w.heap.size i)=some (.int .i64 0):=by
 rw [zW _ _ _ i rfl]
 simp [madeCells,hi,Nat.mod_one]
theorem qf4 (a:Option Addr) (len cap h:Nat) (hh:h<=cap) (w:World):(Instr.slice 35 (.slice a len cap) none (some (.int .i64 (h:Int))) none).run Tryz.prog w=.ok (.slice a h cap) w:=by
 have hh':(h:Int)<=(cap:Int):=by omega
 cases a with
 | none=>simp [go_sem,sliced,hh']
 | some a=>simp [go_sem,sliced,hh']
theorem qnx (pa:Option Addr) (pn pc:Nat) (sa:Option Addr) (sn sc:Nat) (wa:Option Addr) (wn wc:Nat) (ha:Option Addr) (hc:Nat) (hA:Nat->Option Addr) (hC:Nat->Nat) (y:Hs) (w:World) (hE:HisE w ha hA hC y) (hcap:∀ i,i<y.n->y.l i<=hC i) (h1:1<=y.n) (h4:y.n<=4) (hp:y.Peers) (hl:∀ i,i<y.n->y.l i<=200):
  Calls Tryz.prog 48 #[sysV pa pn pc sa sn sc wa wn wc ha y.n hc] w fun e w'=>e=.returned (.bool (qB y.Row))/\Bw w w':=by
 have HE:Hid (HisE w ha hA hC y):=hE
 have HH:Hid (y.Peers/\(∀ i,i<y.n->y.l i<=200)/\(∀ i,i<y.n->y.l i<=hC i)):=⟨hp,hl,hcap⟩
 have hn4:(y.n:Int)<=4:=by omega
 have hmk:∀ wx:World,(Instr.makeSlice 40 (.int .i64 (y.n:Int)) (.int .i64 (y.n:Int))).run Tryz.prog wx=.ok (.slice (some ⟨wx.heap.size,0,none⟩) y.n y.n) (wx.alloc (.cells (madeCells #[.int .i64 0] y.n) 3)):=fun wx=>qcp y.n (by omega) wx
 have HOd:Hid (Od w ((w.alloc (oQ4 pa pn pc sa sn sc wa wn wc ha y.n hc)).alloc (.cells (madeCells #[.int .i64 0] y.n) 3)) w.heap.size (w.heap.size+1) ha hc y (fun _=>0)):=by
  refine ⟨.start,⟨fun i hi=>?_,fun j=>yD _ _ _ _ (by simp)⟩,?_,(zT _ _).trans ((zT _ _).mono (by simp))⟩
  ·have:=ql8 (w.alloc (oQ4 pa pn pc sa sn sc wa wn wc ha y.n hc)) y.n i hi
   rw [World.size_alloc] at this
   exact this
  ·exact ((BoxC.new w _ _ _ _ _).below (zT _ _)).2.2.2
 have HD:Hid (w.heap.size+1<((w.alloc (oQ4 pa pn pc sa sn sc wa wn wc ha y.n hc)).alloc (.cells (madeCells #[.int .i64 0] y.n) 3)).heap.size):=by
  show w.heap.size+1<_
  simp
 clear hE hp hl hcap
 go_enter Tryz.func48,Tryz.ntmps48
 go_wp2_with fail
 generalize (w.alloc (oQ4 pa pn pc sa sn sc wa wn wc ha y.n hc)).alloc (.cells (madeCells #[.int .i64 0] y.n) 3)=W1 at *
 generalize hD:w.heap.size+1=D at *
 have HDW:Hid (w.heap.size+1=D):=hD
 clear hmk hD
 go_loopw [6,7] (fun s i wr=>∃ k:Nat,k<=y.n/\i=.int .i64 k/\s=.int .i64 (sumL y.l k:Nat)/\wr=W1) (fun _ i _=>y.n - (intOf i).toNat)
 case atStart=>exact ⟨0,Nat.zero_le _,rfl,rfl,rfl⟩
 case round=>
  obtain ⟨k,hk,rfl,rfl,rfl⟩:=hrel
  have hsum:sumL y.l k<=200*k:=by
   have:∀ j,j<=y.n->sumL y.l j<=200*j:=by
    intro j
    induction j with
    | zero=>exact fun _=>Nat.le_refl _
    | succ j ih=>
     intro hj
     have h5:=ih (by omega)
     have h6:=HH.out.2.1 j (by omega)
     show sumL y.l j+y.l j<=200*(j+1)
     omega
   exact this k hk
  have hsum':((sumL y.l k:Nat):Int)<=1000:=by omega
  have b3:=HOd.out.bx
  by_cases hlt:k<y.n
  ·have hlt':(k:Int)<(y.n:Int):=by omega
   obtain ⟨bh,oh,eh,ch⟩:=(HE.out.below HOd.out.be).row.at hlt
   rw [eh] at b3
   have hl2:(y.l k:Int)<=200:=by have:=HH.out.2.1 k hlt;omega
   clear hsum
   go_wp2
   go_roundw
   case rel=>exact ⟨k+1,by omega,by go_num,by simp only [sumL];congr 1,by first | rfl | trivial⟩
   case measure=>simp [intOf];omega
  ·have hkn:k=y.n:=by omega
   subst hkn
   clear hlt hk hsum b3
   have hlt':¬ ((y.n:Int)<(y.n:Int)):=by omega
   have hsumI:∀ d:Nat->Nat,y.Put d->((sumL y.l y.n:Nat):Int) - ((sumL d y.n:Nat):Int)=((sumL y.l y.n - sumL d y.n:Nat):Int):=fun d hd=>by
    have:=qeq hd.le y.n
    omega
   have HSI:Hid (∀ d:Nat->Nat,y.Put d->((sumL y.l y.n:Nat):Int) - ((sumL d y.n:Nat):Int)=((sumL y.l y.n - sumL d y.n:Nat):Int)):=hsumI
   have HSM:Hid (((sumL y.l y.n:Nat):Int)<=1000):=hsum'
   clear hsumI hsum'
   go_wp2_with fail
   go_loopg [5,6] (2*(sumL y.l y.n)+1) (fun gn m s wr=>∃ (t:Bool) (d:Nat->Nat),m=.bool t/\s=.int .i64 ((sumL y.l y.n - sumL d y.n:Nat):Int)/\gn=2*(sumL y.l y.n - sumL d y.n)+(if t=true then 1 else 0)/\Hid (Od w wr w.heap.size D ha hc y d/\D<wr.heap.size/\(t=false->∀ p,p<y.n->¬ y.Can d p)))
   case atStart=>exact ⟨true,fun _=>0,rfl,by rw [qf6];rfl,by rw [qf6];rfl,HOd.out,HD.out,fun h=>by cases h⟩
   case round=>
    clear HOd HD
    obtain ⟨t,d,rfl,rfl,hgn,HI⟩:=hrel
    rcases zK t with rfl | rfl
    ·have HGN:Hid (gk=2*(sumL y.l y.n - sumL d y.n)+1):=hgn
     clear hgn
     go_wp2_with fail
     go_loopw [5,6,8] (fun m s i wr=>∃ (k:Nat) (t':Bool) (d':Nat->Nat),k<=y.n/\i=.int .i64 k/\m=.bool t'/\s=.int .i64 ((sumL y.l y.n - sumL d' y.n:Nat):Int)/\Hid (Od w wr w.heap.size D ha hc y d'/\D<wr.heap.size/\(t'=true->sumL d y.n<sumL d' y.n)/\(t'=false->d'=d/\∀ p,p<k->¬ y.Can d p))) (fun _ _ i _=>y.n - (intOf i).toNat)
     case atStart=>exact ⟨0,false,d,Nat.zero_le _,rfl,rfl,rfl,HI.out.1,HI.out.2.1,(fun h=>by cases h),fun _=>⟨rfl,fun p hp=>by omega⟩⟩
     case round=>
      clear HI
      obtain ⟨k,t',d',hk,rfl,rfl,rfl,HJ⟩:=hrel
      by_cases hlt:k<y.n
      ·have hlt':(k:Int)<(y.n:Int):=by omega
       have hdk:d' k<=y.l k:=HJ.out.1.pu.le k
       have hl2:(y.l k:Int)<=200:=by have:=HH.out.2.1 k hlt;omega
       have dk:=HJ.out.1.od.c k hlt
       have b3:=HJ.out.1.bx
       obtain ⟨bh,oh,eh,ch⟩:=(HE.out.below HJ.out.1.be).row.at hlt
       rw [eh] at b3
       by_cases he:d' k=y.l k
       ·have HNo:Hid (¬ y.Can d' k):=fun h=>by have:=h.1;omega
        have HJ' : ∀ nq, Hid (Od w (wr.drewN nq) w.heap.size D ha hc y d' ∧ D < (wr.drewN nq).heap.size ∧ (t' = true → sumL d y.n < sumL d' y.n) ∧ (t' = false → d' = d ∧ ∀ p, p < k + 1 → ¬ y.Can d p)) := fun nq => ⟨HJ.out.1.below (yE (Below.refl _ _) _) HJ.out.2.1, HJ.out.2.1, HJ.out.2.2.1, fun h => ⟨(HJ.out.2.2.2 h).1, fun p hp => by
         have h5:=HJ.out.2.2.2 h
         by_cases e:p=k
         ·subst e
          rw [<- h5.1]
          exact HNo.out
         ·exact h5.2 p (by omega)⟩⟩
        rw [he] at dk
        have HJQ:Hid (∀ nq,Hid (Od w (wr.drewN nq) w.heap.size D ha hc y d'/\D<(wr.drewN nq).heap.size/\(t'=true->sumL d y.n<sumL d' y.n)/\(t'=false->d'=d/\∀ p,p<k+1->¬ y.Can d p))):=HJ'
        clear HJ HJ' he hdk
        go_wp2_with fail
        go_quiet (fail)
        go_wp2
        go_roundw
        case rel=>exact ⟨k+1,t',d',by omega,by go_num,rfl,rfl,HJQ.out _⟩
        case measure=>simp [intOf];omega
       ·have hkl:d' k<y.l k:=by omega
        have hkl':(d' k:Int)<(y.l k:Int):=by omega
        have hne:((d' k:Int) == (y.l k:Int))=false:=by
         have:¬ (d' k:Int)=(y.l k:Int):=by omega
         simpa using this
        clear he hdk
        go_wp2_with fail
        go_quiet (fail)
        go_wp2_with fail
        have OD:Hid (Od w (wr.drewN nq) w.heap.size D ha hc y d'/\D<(wr.drewN nq).heap.size/\(t'=true->sumL d y.n<sumL d' y.n)/\(t'=false->d'=d/\∀ p,p<k->¬ y.Can d p)):=⟨HJ.out.1.below (yE (Below.refl _ _) _) HJ.out.2.1,HJ.out.2.1,HJ.out.2.2⟩
        clear HJ dk b3 ch
        generalize wr.drewN nq=wd at *
        have dk:=OD.out.1.od.c k hlt
        have b3:=OD.out.1.bx
        obtain ⟨bh',oh',eh',ch⟩:=(HE.out.below OD.out.1.be).row.at hlt
        rw [eh'] at b3
        obtain ⟨b,off,ea,zb,e0,e1,e2⟩:=((HE.out.below OD.out.1.be).ev k hlt).at hkl
        rw [ea] at ch
        have n1:wd.heap.size≠D:=by have:=OD.out.2.1;omega
        have n2:wd.heap.size≠b:=by omega
        have n3:wd.heap.size≠bh':=by have:=zJ wd _ ch;simp at this;omega
        have dk':=qaq dk
        have b3':=qaq b3
        have ch':=qaq ch
        have e0':=qaq e0
        have e1':=qaq e1
        have e2':=qaq e2
        clear zb
        go_region
        all_goals
         have OZ:Hid (Od w (wd.alloc (oQ0 (y.e k (d' k)).k (y.e k (d' k)).q (y.e k (d' k)).v)).drew w.heap.size D ha hc y d'/\D<(wd.alloc (oQ0 (y.e k (d' k)).k (y.e k (d' k)).q (y.e k (d' k)).v)).drew.heap.size/\(t'=true->sumL d y.n<sumL d' y.n)/\(t'=false->d'=d/\∀ p,p<k->¬ y.Can d p)):=⟨OD.out.1.below (zT _ _).drew OD.out.2.1,zL OD.out.2.1 (zT _ _).drew.size,OD.out.2.2⟩
         have z0:(wd.alloc (oQ0 (y.e k (d' k)).k (y.e k (d' k)).q (y.e k (d' k)).v)).drew.cell? (aQ wd.heap.size 0)=some (.int .i64 (y.e k (d' k)).k):=zW wd _ _ 0 rfl
         have z1:(wd.alloc (oQ0 (y.e k (d' k)).k (y.e k (d' k)).q (y.e k (d' k)).v)).drew.cell? (aQ wd.heap.size 1)=some (.int .i64 (y.e k (d' k)).q):=zW wd _ _ 1 rfl
         go_wp2_with fail
         clear dk b3 ch e0 e1 e2 dk' b3' ch' e0' e1' e2' n1 n2 n3 OD eh eh' ea
         generalize (wd.alloc (oQ0 (y.e k (d' k)).k (y.e k (d' k)).q (y.e k (d' k)).v)).drew=wz at *
         generalize wd.heap.size=M at *
         rcases zK ((y.e k (d' k)).k == 3) with t3 | t3
         case inr=>
          have HK3:Hid (¬ (y.e k (d' k)).k=3):=by
           show ¬ (y.e k (d' k)).k=3
           simpa using t3
          go_quiet (fail)
          have OQ:Hid (Od w (wz.drewN nq) w.heap.size D ha hc y d'/\D<(wz.drewN nq).heap.size/\(t'=true->sumL d y.n<sumL d' y.n)/\(t'=false->d'=d/\∀ p,p<k->¬ y.Can d p)):=⟨OZ.out.1.below (yE (Below.refl _ _) _) OZ.out.2.1,OZ.out.2.1,OZ.out.2.2⟩
          clear z0 z1 OZ
          generalize wz.drewN nq=wq at *
          have HCn:Hid (y.Can d' k):=⟨hkl,fun h=>absurd h HK3.out⟩
          have HPu:Hid (y.Put (up d' k)):=.next OQ.out.1.pu hlt HCn.out
          have hsu:=qkt (d:=d') hlt
          have hsl:=qeq HPu.out.le y.n
          have HLE:Hid (((sumL y.l y.n - sumL d' y.n:Nat):Int) - 1=((sumL y.l y.n - sumL (up d' k) y.n:Nat):Int)):=by
           show ((sumL y.l y.n - sumL d' y.n:Nat):Int) - 1=((sumL y.l y.n - sumL (up d' k) y.n:Nat):Int)
           omega
          have hA1:((sumL y.l y.n - sumL d' y.n:Nat):Int)<=1000:=by have:=HSM.out;omega
          have hA0:(1:Int)<=((sumL y.l y.n - sumL d' y.n:Nat):Int):=by omega
          have HNx : Hid (Od w (wq.setCell ⟨D, k, none⟩ (.int .i64 ((d' k : Int) + 1))) w.heap.size D ha hc y (up d' k) ∧ D < (wq.setCell ⟨D, k, none⟩ (.int .i64 ((d' k : Int) + 1))).heap.size ∧ (true = true → sumL d y.n < sumL (up d' k) y.n) ∧ (true = false → up d' k = d ∧ ∀ p, p < k + 1 → ¬ y.Can d p)) := ⟨OQ.out.1.set hlt HCn.out (by have := HDW.out; omega) (by have := HDW.out; omega), by simpa [World.setCell] using OQ.out.2.1, (fun _ => by
           rcases zK t' with h5 | h5
           ·have:=OQ.out.2.2.1 h5
            omega
           ·have:=(OQ.out.2.2.2 h5).1
            rw [this] at hsu ⊢
            omega),(fun h=>by cases h)⟩
          have dkq:=OQ.out.1.od.c k hlt
          have frq:=OQ.out.1.od.fr
          clear hsu hsl OQ
          generalize hAA:((sumL y.l y.n - sumL d' y.n:Nat):Int)=AA at *
          clear hAA
          go_wp2
          go_roundw
          case rel=>exact ⟨k+1,true,up d' k,by omega,by go_num,rfl,by rw [HLE.out],HNx.out⟩
          case measure=>simp [intOf];omega
         case inl=>
          have hk3:(y.e k (d' k)).k=3:=by simpa using t3
          have HK3:Hid ((y.e k (d' k)).k=3):=hk3
          have hq:=HH.out.1 k hlt (d' k) hkl
          obtain ⟨q,hqe⟩:∃ q:Nat,(y.e k (d' k)).q=(q:Int):=⟨(y.e k (d' k)).q.toNat,by omega⟩
          have HQE:Hid ((y.e k (d' k)).q=(q:Int)):=hqe
          have hqn:q<y.n:=by omega
          have hqn':(q:Int)<(y.n:Int):=by omega
          rw [hk3] at z0
          rw [hqe] at z1
          have dk:=OZ.out.1.od.c k hlt
          have dq:=OZ.out.1.od.c q hqn
          have b3:=OZ.out.1.bx
          obtain ⟨bz,oz,ez,ch⟩:=(HE.out.below OZ.out.1.be).row.at hlt
          obtain ⟨bz',oz',ez',cq⟩:=(HE.out.below OZ.out.1.be).row.at hqn
          rw [ez] at b3 ez'
          simp only [Option.some.injEq,Addr.mk.injEq] at ez'
          obtain ⟨rfl,rfl,-⟩:=ez'
          have ks:=qf4 (hA k) (y.l k) (hC k) (d' k) (by have:=HH.out.2.2 k hlt;omega)
          have qs:=qf4 (hA q) (y.l q) (hC q) (d' q) (by have:=HH.out.2.2 q hqn;have:=OZ.out.1.pu.le q;omega)
          have HCk:Hid (∀ dd os,Calls Tryz.prog 75 #[.slice (hA k) (d' k) (hC k),.int .i64 3,.int .i64 q] (grow (redrawn wz dd) os) fun e w'=>e=.returned (.int .i64 (cnt (y.e k) 3 q (d' k):Nat))/\Below (grow (redrawn wz dd) os).heap.size (grow (redrawn wz dd) os) w'):=fun dd os=>qcy (hA k) (d' k) (hC k) (y.e k) 3 q _ (by have:=HH.out.2.1 k hlt;omega) (((HE.out.below OZ.out.1.be).below (below_regrown wz dd os)).ev k hlt |>.take (by omega))
          have HCq:Hid (∀ dd os,Calls Tryz.prog 75 #[.slice (hA q) (d' q) (hC q),.int .i64 2,.int .i64 k] (grow (redrawn wz dd) os) fun e w'=>e=.returned (.int .i64 (cnt (y.e q) 2 k (d' q):Nat))/\Below (grow (redrawn wz dd) os).heap.size (grow (redrawn wz dd) os) w'):=fun dd os=>qcy (hA q) (d' q) (hC q) (y.e q) 2 k _ (by have:=HH.out.2.1 q hqn;have:=OZ.out.1.pu.le q;omega) (((HE.out.below OZ.out.1.be).below (below_regrown wz dd os)).ev q hqn |>.take (OZ.out.1.pu.le q))
          have z0':=cell_regrown z0
          have z1':=cell_regrown z1
          have dk':=cell_regrown dk
          have dq':=cell_regrown dq
          have b3':=cell_regrown b3
          have ch':=cell_regrown ch
          have cq':=cell_regrown cq
          clear ez hq hqe hk3 t3
          refine wp_region_quiet_below (by kernel_rfl) (by kernel_rfl) ?_
          repeat (quiet_step (first|(go_at_call_of 75 (hA k);exact Calls.regrown_of (HCk.out _ _))|(go_at_call_of 75 (hA q);exact Calls.regrown_of (HCq.out _ _))))
          refine wpQuiet_nil ?_
          intro _ hw'
          obtain ⟨⟨dd,os⟩,hw''⟩:=hw'
          subst hw''
          have OQ:Hid (Od w (grow (redrawn wz dd) os) w.heap.size D ha hc y d'/\D<(grow (redrawn wz dd) os).heap.size/\(t'=true->sumL d y.n<sumL d' y.n)/\(t'=false->d'=d/\∀ p,p<k->¬ y.Can d p)):=⟨OZ.out.1.below (below_regrown wz dd os) OZ.out.2.1,zL OZ.out.2.1 (below_regrown wz dd os).size,OZ.out.2.2⟩
          clear z0' z1' dk' dq' b3' ch' cq' z0 z1 dk dq b3 ch cq ks qs HCk HCq OZ
          generalize grow (redrawn wz dd) os=wq at *
          have HCan:Hid (y.Can d' k ↔ cnt (y.e k) 3 q (d' k)<cnt (y.e q) 2 k (d' q)):=by
           show y.Can d' k ↔ _
           unfold Hs.Can
           rw [HQE.out]
           rw [show ((q:Int)).toNat=q by omega]
           exact ⟨fun h=>h.2 HK3.out,fun h=>⟨hkl,fun _=>h⟩⟩
          generalize cnt (y.e k) 3 q (d' k)=c1 at *
          generalize cnt (y.e q) 2 k (d' q)=c2 at *
          by_cases hcc:(c2:Int)<=(c1:Int)
          ·have HNo:Hid (¬ y.Can d' k):=fun h=>by have:=HCan.out.1 h;omega
           have HJ2 : Hid (Od w wq w.heap.size D ha hc y d' ∧ D < wq.heap.size ∧ (t' = true → sumL d y.n < sumL d' y.n) ∧ (t' = false → d' = d ∧ ∀ p, p < k + 1 → ¬ y.Can d p)) := ⟨OQ.out.1, OQ.out.2.1, OQ.out.2.2.1, fun h => ⟨(OQ.out.2.2.2 h).1, fun p hp => by
            have h5:=OQ.out.2.2.2 h
            by_cases e:p=k
            ·subst e
             rw [<- h5.1]
             exact HNo.out
            ·exact h5.2 p (by omega)⟩⟩
           clear OQ HCan
           go_wp2
           go_roundw
           case rel=>exact ⟨k+1,t',d',by omega,by go_num,rfl,rfl,HJ2.out⟩
           case measure=>simp [intOf];omega
          ·have HCx:Hid (y.Can d' k):=HCan.out.2 (by omega)
           clear HCan
           have HCn:Hid (y.Can d' k):=HCx.out
           have HPu:Hid (y.Put (up d' k)):=.next OQ.out.1.pu hlt HCn.out
           have hsu:=qkt (d:=d') hlt
           have hsl:=qeq HPu.out.le y.n
           have HLE:Hid (((sumL y.l y.n - sumL d' y.n:Nat):Int) - 1=((sumL y.l y.n - sumL (up d' k) y.n:Nat):Int)):=by
            show ((sumL y.l y.n - sumL d' y.n:Nat):Int) - 1=((sumL y.l y.n - sumL (up d' k) y.n:Nat):Int)
            omega
           have hA1:((sumL y.l y.n - sumL d' y.n:Nat):Int)<=1000:=by have:=HSM.out;omega
           have hA0:(1:Int)<=((sumL y.l y.n - sumL d' y.n:Nat):Int):=by omega
           have HNx : Hid (Od w (wq.setCell ⟨D, k, none⟩ (.int .i64 ((d' k : Int) + 1))) w.heap.size D ha hc y (up d' k) ∧ D < (wq.setCell ⟨D, k, none⟩ (.int .i64 ((d' k : Int) + 1))).heap.size ∧ (true = true → sumL d y.n < sumL (up d' k) y.n) ∧ (true = false → up d' k = d ∧ ∀ p, p < k + 1 → ¬ y.Can d p)) := ⟨OQ.out.1.set hlt HCn.out (by have := HDW.out; omega) (by have := HDW.out; omega), by simpa [World.setCell] using OQ.out.2.1, (fun _ => by
            rcases zK t' with h5 | h5
            ·have:=OQ.out.2.2.1 h5
             omega
            ·have:=(OQ.out.2.2.2 h5).1
             rw [this] at hsu ⊢
             omega),(fun h=>by cases h)⟩
           have dkq:=OQ.out.1.od.c k hlt
           have frq:=OQ.out.1.od.fr
           clear hsu hsl OQ
           generalize hAA:((sumL y.l y.n - sumL d' y.n:Nat):Int)=AA at *
           clear hAA
           go_wp2
           go_roundw
           case rel=>exact ⟨k+1,true,up d' k,by omega,by go_num,rfl,by rw [HLE.out],HNx.out⟩
           case measure=>simp [intOf];omega
      ·have hkn:k=y.n:=by omega
       subst hkn
       have HF:Hid (2*(sumL y.l y.n - sumL d' y.n)+(if t'=true then 1 else 0)<gk):=by
        have h2:=HGN.out
        have h3:=qeq HJ.out.1.pu.le y.n
        show _<gk
        cases t' with
        | true=>
         have h4:=HJ.out.2.2.1 rfl
         simp only [if_true]
         omega
        | false=>
         have h4:=(HJ.out.2.2.2 rfl).1
         rw [h4]
         simp only [Bool.false_eq_true,if_false]
         omega
       have HG2 : Hid (Od w wr w.heap.size D ha hc y d' ∧ D < wr.heap.size ∧ (t' = false → ∀ p, p < y.n → ¬ y.Can d' p)) := ⟨HJ.out.1, HJ.out.2.1, fun h p hp => by
        have:=HJ.out.2.2.2 h
        rw [this.1]
        exact this.2 p hp⟩
       clear HJ
       go_wp2
       go_roundg (2*(sumL y.l y.n - sumL d' y.n)+(if t'=true then 1 else 0))
       case measure=>exact HF.out
       case rel=>exact ⟨t',d',rfl,rfl,rfl,HG2.out⟩
    ·have HR:Hid ((((sumL y.l y.n - sumL d y.n:Nat):Int) == 0)=qB y.Row):=by
      show (((sumL y.l y.n - sumL d y.n:Nat):Int) == 0)=qB y.Row
      have hi:=Hs.row_iff HI.out.1.pu HH.out.1 (HI.out.2.2 rfl)
      have hle:=HI.out.1.pu.le
      by_cases hr:y.Row
      ·have:sumL d y.n=sumL y.l y.n:=qid fun i hi'=>hi.1 hr i hi'
       rw [qba hr,this]
       simp
      ·rw [qaz hr]
       have:sumL y.l y.n - sumL d y.n≠0:=fun e=>hr (hi.2 (qu4 hle _ (by have:=qeq hle y.n;omega)))
       have h2:((sumL y.l y.n - sumL d y.n:Nat):Int)≠0:=by omega
       simpa using h2
     have HB:Hid (Bw w wr):=HI.out.1.be
     clear HI hgn
     go_wp2
     go_ret
     rw [HR.out]
     exact ⟨rfl,HB.out⟩
