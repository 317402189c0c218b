import Derived.Test.YtnfdnnmddadmkaaGreatDoorOg31
namespace Go.Proofs.YtnfdnnmddadmkaaGreatDoor
set_option maxRecDepth 100000
set_option maxHeartbeats 4000000
open Go.ChangeShapes Go.WideShapes Go.ChangeAt Go.RowKit Go.Deep Go.Sort
theorem qtg {d l:Nat->Nat} (h:∀ i,d i<=l i) (n:Nat) (e:sumL d n=sumL l n) (p:Nat) (hp:p<n):d p=l p:=by
 induction n with
 | zero=>omega
 | succ n ih=>
  have h1:=qco h n
  have h2:=h n
  have e':sumL d n+d n=sumL l n+l n:=e
  by_cases hpn:p=n
  ·subst hpn
   omega
  ·exact ih (by omega) (by omega)
structure OrdB (w:World) (D n:Nat) (d:Nat->Nat):Prop where
 c:∀ i,i<n->w.cell? ⟨D,i,none⟩=some (.int .i64 (d i))
 fr:∀ j,w.frozen? ⟨D,j,none⟩=false
theorem OrdB.blk {w w':World} {D n:Nat} {d:Nat->Nat} (h:OrdB w D n d) (hb:w'.heap[D]? = w.heap[D]?):OrdB w' D n d:=⟨fun i hi=>(zH hb).trans (h.c i hi),fun j=>(zI hb).trans (h.fr j)⟩
theorem OrdB.put {w:World} {D n k:Nat} {d:Nat->Nat} (h:OrdB w D n d) (hk:k<n):OrdB (w.setCell ⟨D,k,none⟩ (.int .i64 ((d k:Int)+1))) D n (up d k):=by
 refine ⟨fun i hi=>?_,fun j=>by rw [World.frozen?_setCell];exact h.fr j⟩
 by_cases e:i=k
 ·subst e
  rw [World.cell?_setCell_same' _ _ _ (by rw [h.c i hi];rfl),qbk]
  rfl
 ·rw [World.cell?_setCell_other _ _ _ _ (by intro e';injection e' with _ e';exact e e'.symm),up_other e]
  exact h.c i hi
structure Od (w wr:World) (B D:Nat) (ha:Option Addr) (hc:Nat) (y:Hs) (d:Nat->Nat):Prop where
 pu:y.Put d
 od:OrdB wr D y.n d
 bx:wr.cell? ⟨B,3,none⟩=some (.slice ha y.n hc)
 be:Below w.heap.size w wr
theorem Od.below {w wr w':World} {B D:Nat} {ha:Option Addr} {hc:Nat} {y:Hs} {d:Nat->Nat} (h:Od w wr B D ha hc y d) (hb:Below wr.heap.size wr w') (hD:D<wr.heap.size):Od w w' B D ha hc y d:=
 ⟨h.pu,h.od.blk (hb.block D hD),(hb.cell (p:=⟨B,3,none⟩) (zJ wr _ h.bx)).trans h.bx,h.be.trans (hb.mono h.be.size)⟩
theorem Od.set {w wr:World} {B D k:Nat} {ha:Option Addr} {hc:Nat} {y:Hs} {d:Nat->Nat} (h:Od w wr B D ha hc y d) (hk:k<y.n) (hcan:y.Can d k) (hBD:B≠D) (hw:w.heap.size<=D):Od w (wr.setCell ⟨D,k,none⟩ (.int .i64 ((d k:Int)+1))) B D ha hc y (up d k):=
 ⟨.next h.pu hk hcan,h.od.put hk,(World.cell?_setCell_other _ _ _ _ (by intro e;injection e with e;exact hBD e.symm)).trans h.bx,h.be.setCell hw _⟩
theorem qk3 (w:World) (n i:Nat) (hi:i<n):(w.alloc (.cells (madeCells #[.int .i64 0] n) 3)).cell? ⟨w.heap.size,i,none⟩=some (.int .i64 0):=by
 rw [zW _ _ _ i rfl]
 simp [madeCells,hi,Nat.mod_one]
theorem qg1 (a:Option Addr) (len cap h:Nat) (hh:h<=cap) (w:World):(Instr.slice 84 (.slice a len cap) none (some (.int .i64 (h:Int))) none).run Tryz.prog w=.ok (.slice a h cap) w:=by
 have hh':(h:Int)<=(cap:Int):=by omega
 cases a with
 | none=>simp [go_sem,sliced,hh']
 | some a=>simp [go_sem,sliced,hh']
theorem qmp (pa:Option Addr) (pn pc:Nat) (sa:Option Addr) (sn sc:Nat) (wa:Option Addr) (wn wc:Nat) (ha:Option Addr) (hc:Nat) (hA:Nat->Option Addr) (hC:Nat->Nat) (y:Hs) (w:World) (hE:HisE w ha hA hC y) (hcap:∀ i,i<y.n->y.l i<=hC i) (h1:1<=y.n) (h4:y.n<=4) (hp:y.Peers) (hl:∀ i,i<y.n->y.l i<=200):
  Calls Tryz.prog 113 #[sysV pa pn pc sa sn sc wa wn wc ha y.n hc] w fun e w'=>e=.returned (.bool (qB y.Row))/\Below w.heap.size w w':=by
 have HE:Hid (HisE w ha hA hC y):=hE
 have HH:Hid (y.Peers/\(∀ i,i<y.n->y.l i<=200)/\(∀ i,i<y.n->y.l i<=hC i)):=⟨hp,hl,hcap⟩
 have hn4:(y.n:Int)<=4:=by omega
 have hmk:∀ wx:World,(Instr.makeSlice 44 (.int .i64 (y.n:Int)) (.int .i64 (y.n:Int))).run Tryz.prog wx=.ok (.slice (some ⟨wx.heap.size,0,none⟩) y.n y.n) (wx.alloc (.cells (madeCells #[.int .i64 0] y.n) 3)):=fun wx=>qca y.n (by omega) wx
 have HOd:Hid (Od w ((w.alloc (oQ4 pa pn pc sa sn sc wa wn wc ha y.n hc)).alloc (.cells (madeCells #[.int .i64 0] y.n) 3)) w.heap.size (w.heap.size+1) ha hc y (fun _=>0)):=by
  refine ⟨.start,⟨fun i hi=>?_,fun j=>yB _ _ _ _ (by simp)⟩,?_,(zT _ _).trans ((zT _ _).mono (by simp))⟩
  ·have:=qk3 (w.alloc (oQ4 pa pn pc sa sn sc wa wn wc ha y.n hc)) y.n i hi
   rw [World.size_alloc] at this
   exact this
  ·exact ((BoxC.new w _ _ _ _ _).below (zT _ _)).2.2.2
 have HD:Hid (w.heap.size+1<((w.alloc (oQ4 pa pn pc sa sn sc wa wn wc ha y.n hc)).alloc (.cells (madeCells #[.int .i64 0] y.n) 3)).heap.size):=by
  show w.heap.size+1<_
  simp
 clear hE hp hl hcap
 go_enter Tryz.func113,Tryz.ntmps113
 go_wp2_with fail
 generalize (w.alloc (oQ4 pa pn pc sa sn sc wa wn wc ha y.n hc)).alloc (.cells (madeCells #[.int .i64 0] y.n) 3)=W1 at *
 generalize hD:w.heap.size+1=D at *
 have HDW:Hid (w.heap.size+1=D):=hD
 clear hmk hD
 go_loopw [6,7] (fun s i wr=>∃ k:Nat,k<=y.n/\i=.int .i64 k/\s=.int .i64 (sumL y.l k:Nat)/\wr=W1) (fun _ i _=>y.n - (intOf i).toNat)
 case atStart=>exact ⟨0,Nat.zero_le _,rfl,rfl,rfl⟩
 case round=>
  obtain ⟨k,hk,rfl,rfl,rfl⟩:=hrel
  have hsum:sumL y.l k<=200*k:=by
   have:∀ j,j<=y.n->sumL y.l j<=200*j:=by
    intro j
    induction j with
    | zero=>exact fun _=>Nat.le_refl _
    | succ j ih=>
     intro hj
     have h5:=ih (by omega)
     have h6:=HH.out.2.1 j (by omega)
     show sumL y.l j+y.l j<=200*(j+1)
     omega
   exact this k hk
  have hsum':((sumL y.l k:Nat):Int)<=1000:=by omega
  have b3:=HOd.out.bx
  by_cases hlt:k<y.n
  ·have hlt':(k:Int)<(y.n:Int):=by omega
   obtain ⟨bh,oh,eh,ch⟩:=(HE.out.below HOd.out.be).row.at hlt
   rw [eh] at b3
   have hl2:(y.l k:Int)<=200:=by have:=HH.out.2.1 k hlt;omega
   clear hsum
   go_wp2
   go_roundw
   case rel=>exact ⟨k+1,by omega,by go_num,by simp only [sumL];congr 1,by first | rfl | trivial⟩
   case measure=>simp [intOf];omega
  ·have hkn:k=y.n:=by omega
   subst hkn
   clear hlt hk hsum b3
   have hlt':¬ ((y.n:Int)<(y.n:Int)):=by omega
   have hsumI:∀ d:Nat->Nat,y.Put d->((sumL y.l y.n:Nat):Int) - ((sumL d y.n:Nat):Int)=((sumL y.l y.n - sumL d y.n:Nat):Int):=fun d hd=>by
    have:=qco hd.le y.n
    omega
   have HSI:Hid (∀ d:Nat->Nat,y.Put d->((sumL y.l y.n:Nat):Int) - ((sumL d y.n:Nat):Int)=((sumL y.l y.n - sumL d y.n:Nat):Int)):=hsumI
   have HSM:Hid (((sumL y.l y.n:Nat):Int)<=1000):=hsum'
   clear hsumI hsum'
   go_wp2_with fail
   go_loopg [5,6] (2*(sumL y.l y.n)+1) (fun gn m s wr=>∃ (t:Bool) (d:Nat->Nat),m=.bool t/\s=.int .i64 ((sumL y.l y.n - sumL d y.n:Nat):Int)/\gn=2*(sumL y.l y.n - sumL d y.n)+(if t=true then 1 else 0)/\Hid (Od w wr w.heap.size D ha hc y d/\D<wr.heap.size/\(t=false->∀ p,p<y.n->¬ y.Can d p)))
   case atStart=>exact ⟨true,fun _=>0,rfl,by rw [qcw];rfl,by rw [qcw];rfl,HOd.out,HD.out,fun h=>by cases h⟩
   case round=>
    clear HOd HD
    obtain ⟨t,d,rfl,rfl,hgn,HI⟩:=hrel
    rcases zK t with rfl | rfl
    ·have HGN:Hid (gk=2*(sumL y.l y.n - sumL d y.n)+1):=hgn
     clear hgn
     go_wp2_with fail
     go_loopw [5,6,8] (fun m s i wr=>∃ (k:Nat) (t':Bool) (d':Nat->Nat),k<=y.n/\i=.int .i64 k/\m=.bool t'/\s=.int .i64 ((sumL y.l y.n - sumL d' y.n:Nat):Int)/\Hid (Od w wr w.heap.size D ha hc y d'/\D<wr.heap.size/\(t'=true->sumL d y.n<sumL d' y.n)/\(t'=false->d'=d/\∀ p,p<k->¬ y.Can d p))) (fun _ _ i _=>y.n - (intOf i).toNat)
     case atStart=>exact ⟨0,false,d,Nat.zero_le _,rfl,rfl,rfl,HI.out.1,HI.out.2.1,(fun h=>by cases h),fun _=>⟨rfl,fun p hp=>by omega⟩⟩
     case round=>
      clear HI
      obtain ⟨k,t',d',hk,rfl,rfl,rfl,HJ⟩:=hrel
      by_cases hlt:k<y.n
      ·have hlt':(k:Int)<(y.n:Int):=by omega
       have hdk:d' k<=y.l k:=HJ.out.1.pu.le k
       have hl2:(y.l k:Int)<=200:=by have:=HH.out.2.1 k hlt;omega
       have dk:=HJ.out.1.od.c k hlt
       have b3:=HJ.out.1.bx
       obtain ⟨bh,oh,eh,ch⟩:=(HE.out.below HJ.out.1.be).row.at hlt
       rw [eh] at b3
       by_cases he:d' k=y.l k
       ·have HNo:Hid (¬ y.Can d' k):=fun h=>by have:=h.1;omega
        have HJ' : ∀ nq, Hid (Od w (wr.drewN nq) w.heap.size D ha hc y d' ∧ D < (wr.drewN nq).heap.size ∧ (t' = true → sumL d y.n < sumL d' y.n) ∧ (t' = false → d' = d ∧ ∀ p, p < k + 1 → ¬ y.Can d p)) := fun nq => ⟨HJ.out.1.below (yC (Below.refl _ _) _) HJ.out.2.1, HJ.out.2.1, HJ.out.2.2.1, fun h => ⟨(HJ.out.2.2.2 h).1, fun p hp => by
         have h5:=HJ.out.2.2.2 h
         by_cases e:p=k
         ·subst e
          rw [<- h5.1]
          exact HNo.out
         ·exact h5.2 p (by omega)⟩⟩
        rw [he] at dk
        have HJQ:Hid (∀ nq,Hid (Od w (wr.drewN nq) w.heap.size D ha hc y d'/\D<(wr.drewN nq).heap.size/\(t'=true->sumL d y.n<sumL d' y.n)/\(t'=false->d'=d/\∀ p,p<k+1->¬ y.Can d p))):=HJ'
        clear HJ HJ' he hdk
        go_wp2_with fail
        go_quiet (fail)
        go_wp2
        go_roundw
        case rel=>exact ⟨k+1,t',d',by omega,by go_num,rfl,rfl,HJQ.out _⟩
        case measure=>simp [intOf];omega
       ·have hkl:d' k<y.l k:=by omega
        have hkl':(d' k:Int)<(y.l k:Int):=by omega
        have hne:((d' k:Int) == (y.l k:Int))=false:=by
         have:¬ (d' k:Int)=(y.l k:Int):=by omega
         simpa using this
        clear he hdk
        go_wp2_with fail
        go_quiet (fail)
        go_wp2_with fail
        have OD:Hid (Od w (wr.drewN nq) w.heap.size D ha hc y d'/\D<(wr.drewN nq).heap.size/\(t'=true->sumL d y.n<sumL d' y.n)/\(t'=false->d'=d/\∀ p,p<k->¬ y.Can d p)):=⟨HJ.out.1.below (yC (Below.refl _ _) _) HJ.out.2.1,HJ.out.2.1,HJ.out.2.2⟩
        clear HJ dk b3 ch
        generalize wr.drewN nq=wd at *
        have dk:=OD.out.1.od.c k hlt
        have b3:=OD.out.1.bx
        obtain ⟨bh',oh',eh',ch⟩:=(HE.out.below OD.out.1.be).row.at hlt
        rw [eh'] at b3
        obtain ⟨b,off,ea,zb,e0,e1,e2⟩:=((HE.out.below OD.out.1.be).ev k hlt).at hkl
        rw [ea] at ch
        have n1:wd.heap.size≠D:=by have:=OD.out.2.1;omega
        have n2:wd.heap.size≠b:=by omega
        have n3:wd.heap.size≠bh':=by have:=zJ wd _ ch;simp at this;omega
        have dk':=qaa dk
        have b3':=qaa b3
        have ch':=qaa ch
        have e0':=qaa e0
        have e1':=qaa e1
        have e2':=qaa e2
        clear zb
        go_region
        all_goals
         have OZ:Hid (Od w (wd.alloc (oQ0 (y.e k (d' k)).k (y.e k (d' k)).q (y.e k (d' k)).v)).drew w.heap.size D ha hc y d'/\D<(wd.alloc (oQ0 (y.e k (d' k)).k (y.e k (d' k)).q (y.e k (d' k)).v)).drew.heap.size/\(t'=true->sumL d y.n<sumL d' y.n)/\(t'=false->d'=d/\∀ p,p<k->¬ y.Can d p)):=⟨OD.out.1.below (zT _ _).drew OD.out.2.1,zL OD.out.2.1 (zT _ _).drew.size,OD.out.2.2⟩
         have z0:(wd.alloc (oQ0 (y.e k (d' k)).k (y.e k (d' k)).q (y.e k (d' k)).v)).drew.cell? ⟨wd.heap.size,0,none⟩=some (.int .i64 (y.e k (d' k)).k):=zW wd _ _ 0 rfl
         have z1:(wd.alloc (oQ0 (y.e k (d' k)).k (y.e k (d' k)).q (y.e k (d' k)).v)).drew.cell? ⟨wd.heap.size,1,none⟩=some (.int .i64 (y.e k (d' k)).q):=zW wd _ _ 1 rfl
         go_wp2_with fail
         clear dk b3 ch e0 e1 e2 dk' b3' ch' e0' e1' e2' n1 n2 n3 OD eh eh' ea
         generalize (wd.alloc (oQ0 (y.e k (d' k)).k (y.e k (d' k)).q (y.e k (d' k)).v)).drew=wz at *
         generalize wd.heap.size=M at *
         rcases zK ((y.e k (d' k)).k == 3) with t3 | t3
         case inr=>
          have HK3:Hid (¬ (y.e k (d' k)).k=3):=by
           show ¬ (y.e k (d' k)).k=3
           simpa using t3
          go_quiet (fail)
          have OQ:Hid (Od w (wz.drewN nq) w.heap.size D ha hc y d'/\D<(wz.drewN nq).heap.size/\(t'=true->sumL d y.n<sumL d' y.n)/\(t'=false->d'=d/\∀ p,p<k->¬ y.Can d p)):=⟨OZ.out.1.below (yC (Below.refl _ _) _) OZ.out.2.1,OZ.out.2.1,OZ.out.2.2⟩
          clear z0 z1 OZ
          generalize wz.drewN nq=wq at *
          have HCn:Hid (y.Can d' k):=⟨hkl,fun h=>absurd h HK3.out⟩
          have HPu:Hid (y.Put (up d' k)):=.next OQ.out.1.pu hlt HCn.out
          have hsu:=qcp (d:=d') hlt
          have hsl:=qco HPu.out.le y.n
          have HLE:Hid (((sumL y.l y.n - sumL d' y.n:Nat):Int) - 1=((sumL y.l y.n - sumL (up d' k) y.n:Nat):Int)):=by
           show ((sumL y.l y.n - sumL d' y.n:Nat):Int) - 1=((sumL y.l y.n - sumL (up d' k) y.n:Nat):Int)
           omega
          have hA1:((sumL y.l y.n - sumL d' y.n:Nat):Int)<=1000:=by have:=HSM.out;omega
          have hA0:(1:Int)<=((sumL y.l y.n - sumL d' y.n:Nat):Int):=by omega
          have HNx : Hid (Od w (wq.setCell ⟨D, k, none⟩ (.int .i64 ((d' k : Int) + 1))) w.heap.size D ha hc y (up d' k) ∧ D < (wq.setCell ⟨D, k, none⟩ (.int .i64 ((d' k : Int) + 1))).heap.size ∧ (true = true → sumL d y.n < sumL (up d' k) y.n) ∧ (true = false → up d' k = d ∧ ∀ p, p < k + 1 → ¬ y.Can d p)) := ⟨OQ.out.1.set hlt HCn.out (by have := HDW.out; omega) (by have := HDW.out; omega), by simpa [World.setCell] using OQ.out.2.1, (fun _ => by
           rcases zK t' with h5 | h5
           ·have:=OQ.out.2.2.1 h5
            omega
           ·have:=(OQ.out.2.2.2 h5).1
            rw [this] at hsu ⊢
            omega),(fun h=>by cases h)⟩
          have dkq:=OQ.out.1.od.c k hlt
          have frq:=OQ.out.1.od.fr
          clear hsu hsl OQ
          generalize hAA:((sumL y.l y.n - sumL d' y.n:Nat):Int)=AA at *
          clear hAA
          go_wp2
          go_roundw
          case rel=>exact ⟨k+1,true,up d' k,by omega,by go_num,rfl,by rw [HLE.out],HNx.out⟩
          case measure=>simp [intOf];omega
         case inl=>
          have hk3:(y.e k (d' k)).k=3:=by simpa using t3
          have HK3:Hid ((y.e k (d' k)).k=3):=hk3
          have hq:=HH.out.1 k hlt (d' k) hkl
          obtain ⟨q,hqe⟩:∃ q:Nat,(y.e k (d' k)).q=(q:Int):=⟨(y.e k (d' k)).q.toNat,by omega⟩
          have HQE:Hid ((y.e k (d' k)).q=(q:Int)):=hqe
          have hqn:q<y.n:=by omega
          have hqn':(q:Int)<(y.n:Int):=by omega
          rw [hk3] at z0
          rw [hqe] at z1
          have dk:=OZ.out.1.od.c k hlt
          have dq:=OZ.out.1.od.c q hqn
          have b3:=OZ.out.1.bx
          obtain ⟨bz,oz,ez,ch⟩:=(HE.out.below OZ.out.1.be).row.at hlt
          obtain ⟨bz',oz',ez',cq⟩:=(HE.out.below OZ.out.1.be).row.at hqn
          rw [ez] at b3 ez'
          simp only [Option.some.injEq,Addr.mk.injEq] at ez'
          obtain ⟨rfl,rfl,-⟩:=ez'
          have ks:=qg1 (hA k) (y.l k) (hC k) (d' k) (by have:=HH.out.2.2 k hlt;omega)
          have qs:=qg1 (hA q) (y.l q) (hC q) (d' q) (by have:=HH.out.2.2 q hqn;have:=OZ.out.1.pu.le q;omega)
          have HCk:Hid (∀ dd os,Calls Tryz.prog 177 #[.slice (hA k) (d' k) (hC k),.int .i64 3,.int .i64 q] (grow (redrawn wz dd) os) fun e w'=>e=.returned (.int .i64 (cnt (y.e k) 3 q (d' k):Nat))/\Below (grow (redrawn wz dd) os).heap.size (grow (redrawn wz dd) os) w'):=fun dd os=>qex (hA k) (d' k) (hC k) (y.e k) 3 q _ (by have:=HH.out.2.1 k hlt;omega) (((HE.out.below OZ.out.1.be).below (below_regrown wz dd os)).ev k hlt |>.take (by omega))
          have HCq:Hid (∀ dd os,Calls Tryz.prog 177 #[.slice (hA q) (d' q) (hC q),.int .i64 2,.int .i64 k] (grow (redrawn wz dd) os) fun e w'=>e=.returned (.int .i64 (cnt (y.e q) 2 k (d' q):Nat))/\Below (grow (redrawn wz dd) os).heap.size (grow (redrawn wz dd) os) w'):=fun dd os=>qex (hA q) (d' q) (hC q) (y.e q) 2 k _ (by have:=HH.out.2.1 q hqn;have:=OZ.out.1.pu.le q;omega) (((HE.out.below OZ.out.1.be).below (below_regrown wz dd os)).ev q hqn |>.take (OZ.out.1.pu.le q))
          have z0':=cell_regrown z0
          have z1':=cell_regrown z1
          have dk':=cell_regrown dk
          have dq':=cell_regrown dq
          have b3':=cell_regrown b3
          have ch':=cell_regrown ch
          have cq':=cell_regrown cq
          clear ez hq hqe hk3 t3
          refine wp_region_quiet_below (by kernel_rfl) (by kernel_rfl) ?_
          repeat (quiet_step (first|(go_at_call_of 177 (hA k);exact Calls.regrown_of (HCk.out _ _))|(go_at_call_of 177 (hA q);exact Calls.regrown_of (HCq.out _ _))))
          refine wpQuiet_nil ?_
          intro _ hw'
          obtain ⟨⟨dd,os⟩,hw''⟩:=hw'
          subst hw''
          have OQ:Hid (Od w (grow (redrawn wz dd) os) w.heap.size D ha hc y d'/\D<(grow (redrawn wz dd) os).heap.size/\(t'=true->sumL d y.n<sumL d' y.n)/\(t'=false->d'=d/\∀ p,p<k->¬ y.Can d p)):=⟨OZ.out.1.below (below_regrown wz dd os) OZ.out.2.1,zL OZ.out.2.1 (below_regrown wz dd os).size,OZ.out.2.2⟩
          clear z0' z1' dk' dq' b3' ch' cq' z0 z1 dk dq b3 ch cq ks qs HCk HCq OZ
          generalize grow (redrawn wz dd) os=wq at *
          have HCan:Hid (y.Can d' k ↔ cnt (y.e k) 3 q (d' k)<cnt (y.e q) 2 k (d' q)):=by
           show y.Can d' k ↔ _
           unfold Hs.Can
           rw [HQE.out]
           rw [show ((q:Int)).toNat=q by omega]
           exact ⟨fun h=>h.2 HK3.out,fun h=>⟨hkl,fun _=>h⟩⟩
          generalize cnt (y.e k) 3 q (d' k)=c1 at *
          generalize cnt (y.e q) 2 k (d' q)=c2 at *
          by_cases hcc:(c2:Int)<=(c1:Int)
          ·have HNo:Hid (¬ y.Can d' k):=fun h=>by have:=HCan.out.1 h;omega
           have HJ2 : Hid (Od w wq w.heap.size D ha hc y d' ∧ D < wq.heap.size ∧ (t' = true → sumL d y.n < sumL d' y.n) ∧ (t' = false → d' = d ∧ ∀ p, p < k + 1 → ¬ y.Can d p)) := ⟨OQ.out.1, OQ.out.2.1, OQ.out.2.2.1, fun h => ⟨(OQ.out.2.2.2 h).1, fun p hp => by
            have h5:=OQ.out.2.2.2 h
            by_cases e:p=k
            ·subst e
             rw [<- h5.1]
             exact HNo.out
            ·exact h5.2 p (by omega)⟩⟩
           clear OQ HCan
           go_wp2
           go_roundw
           case rel=>exact ⟨k+1,t',d',by omega,by go_num,rfl,rfl,HJ2.out⟩
           case measure=>simp [intOf];omega
          ·have HCx:Hid (y.Can d' k):=HCan.out.2 (by omega)
           clear HCan
           have HCn:Hid (y.Can d' k):=HCx.out
           have HPu:Hid (y.Put (up d' k)):=.next OQ.out.1.pu hlt HCn.out
           have hsu:=qcp (d:=d') hlt
           have hsl:=qco HPu.out.le y.n
           have HLE:Hid (((sumL y.l y.n - sumL d' y.n:Nat):Int) - 1=((sumL y.l y.n - sumL (up d' k) y.n:Nat):Int)):=by
            show ((sumL y.l y.n - sumL d' y.n:Nat):Int) - 1=((sumL y.l y.n - sumL (up d' k) y.n:Nat):Int)
            omega
           have hA1:((sumL y.l y.n - sumL d' y.n:Nat):Int)<=1000:=by have:=HSM.out;omega
           have hA0:(1:Int)<=((sumL y.l y.n - sumL d' y.n:Nat):Int):=by omega
           have HNx : Hid (Od w (wq.setCell ⟨D, k, none⟩ (.int .i64 ((d' k : Int) + 1))) w.heap.size D ha hc y (up d' k) ∧ D < (wq.setCell ⟨D, k, none⟩ (.int .i64 ((d' k : Int) + 1))).heap.size ∧ (true = true → sumL d y.n < sumL (up d' k) y.n) ∧ (true = false → up d' k = d ∧ ∀ p, p < k + 1 → ¬ y.Can d p)) := ⟨OQ.out.1.set hlt HCn.out (by have := HDW.out; omega) (by have := HDW.out; omega), by simpa [World.setCell] using OQ.out.2.1, (fun _ => by
            rcases zK t' with h5 | h5
            ·have:=OQ.out.2.2.1 h5
             omega
            ·have:=(OQ.out.2.2.2 h5).1
             rw [this] at hsu ⊢
             omega),(fun h=>by cases h)⟩
           have dkq:=OQ.out.1.od.c k hlt
           have frq:=OQ.out.1.od.fr
           clear hsu hsl OQ
           generalize hAA:((sumL y.l y.n - sumL d' y.n:Nat):Int)=AA at *
           clear hAA
           go_wp2
           go_roundw
           case rel=>exact ⟨k+1,true,up d' k,by omega,by go_num,rfl,by rw [HLE.out],HNx.out⟩
           case measure=>simp [intOf];omega
      ·have hkn:k=y.n:=by omega
       subst hkn
       have HF:Hid (2*(sumL y.l y.n - sumL d' y.n)+(if t'=true then 1 else 0)<gk):=by
        have h2:=HGN.out
        have h3:=qco HJ.out.1.pu.le y.n
        show _<gk
        cases t' with
        | true=>
         have h4:=HJ.out.2.2.1 rfl
         simp only [if_true]
         omega
        | false=>
         have h4:=(HJ.out.2.2.2 rfl).1
         rw [h4]
         simp only [Bool.false_eq_true,if_false]
         omega
       have HG2 : Hid (Od w wr w.heap.size D ha hc y d' ∧ D < wr.heap.size ∧ (t' = false → ∀ p, p < y.n → ¬ y.Can d' p)) := ⟨HJ.out.1, HJ.out.2.1, fun h p hp => by
        have:=HJ.out.2.2.2 h
        rw [this.1]
        exact this.2 p hp⟩
       clear HJ
       go_wp2
       go_roundg (2*(sumL y.l y.n - sumL d' y.n)+(if t'=true then 1 else 0))
       case measure=>exact HF.out
       case rel=>exact ⟨t',d',rfl,rfl,rfl,HG2.out⟩
    ·have HR:Hid ((((sumL y.l y.n - sumL d y.n:Nat):Int) == 0)=qB y.Row):=by
      show (((sumL y.l y.n - sumL d y.n:Nat):Int) == 0)=qB y.Row
      have hi:=Hs.row_iff HI.out.1.pu HH.out.1 (HI.out.2.2 rfl)
      have hle:=HI.out.1.pu.le
      by_cases hr:y.Row
      ·have:sumL d y.n=sumL y.l y.n:=qho fun i hi'=>hi.1 hr i hi'
       rw [qax hr,this]
       simp
      ·rw [qap hr]
       have:sumL y.l y.n - sumL d y.n≠0:=fun e=>hr (hi.2 (qtg hle _ (by have:=qco hle y.n;omega)))
       have h2:((sumL y.l y.n - sumL d y.n:Nat):Int)≠0:=by omega
       simpa using h2
     have HB:Hid (Below w.heap.size w wr):=HI.out.1.be
     clear HI hgn
     go_wp2
     go_ret
     rw [HR.out]
     exact ⟨rfl,HB.out⟩
theorem Sy.Ok.evq {y:Sy} (h:y.Ok) {p i:Nat} (hp:p<y.pn) (hi:i<y.hL p):0<=(y.hH p i).q/\(y.hH p i).q<(y.pn:Int):=⟨qjh (qb2 (h.rp p hp)).2.2 i hi,h.pe p hp i hi⟩
theorem Sy.Ok.hl200 {y:Sy} (h:y.Ok) {p:Nat} (hp:p<y.pn):y.hL p<=200:=(qb2 (h.rp p hp)).2.1
def flW (h:Nat->Wo2):Nat->List Value
 | 0=>[]
 | n+1=>flW h n ++ [.int .i64 (h n).m,.int .i64 (h n).v]
theorem qcj (h:Nat->Wo2):∀ n,(flW h n).length=n*2
 | 0=>rfl
 | n+1=>by
  rw [flW,List.length_append,qcj h n]
  simp
  omega
theorem qkp (h:Nat->Wo2):∀ n i,i<n->(flW h n)[i*2]? = some (.int .i64 (h i).m)/\(flW h n)[i*2+1]? = some (.int .i64 (h i).v)
 | 0,i,hi=>by omega
 | n+1,i,hi=>by
  have hl:=qcj h n
  by_cases e:i=n
  ·subst e
   rw [flW,List.getElem?_append_right (by omega),List.getElem?_append_right (by omega),hl]
   simp
  ·obtain ⟨h0,h1⟩:=qkp h n i (by omega)
   rw [flW,List.getElem?_append_left (by omega),List.getElem?_append_left (by omega)]
   exact ⟨h0,h1⟩
def OwR (w:World) (B:Nat) (v:Value) (n:Nat) (h:Nat->Wo2):Prop:=w.ownsRow B 37 2 v n (flW h n)/\v≠.slice none 0 0
theorem OwR.form {w:World} {B n:Nat} {v:Value} {h:Nat->Wo2} (o:OwR w B v n h):∃ g cap,v=.slice (some ⟨g,0,none⟩) n cap/\B<=g/\g<w.heap.size/\WoAt w g 0 n h/\∀ j,w.frozen? ⟨g,j,none⟩=false:=by
 obtain ⟨ho,hv⟩:=o
 rcases ho.2 with ⟨h0,_⟩ | ⟨g,cap,cur,rfl,hb,_⟩
 ·exact absurd h0 hv
 ·refine ⟨g,cap,rfl,hb,(ho.lt g rfl).2,fun i hi=>?_,fun j=>ho.frozenAt j⟩
  obtain ⟨f0,f1⟩:=qkp h n i hi
  rw [Nat.zero_add,ho.cellAt _ (by omega),ho.cellAt _ (by omega)]
  exact ⟨f0,f1⟩
theorem OwR.ofBlock {w w':World} {B n:Nat} {v:Value} {h:Nat->Wo2} (o:OwR w B v n h) (ha:∀ k,v.ownBlock=some k->w'.heap[k]? = w.heap[k]?):OwR w' B v n h:=by
 obtain ⟨ho,hv⟩:=o
 refine ⟨?_,hv⟩
 rcases ho.2 with ⟨rfl,h0⟩ | ⟨g,cap,cur,rfl,hb,hg,hr⟩
 ·exact absurd rfl hv
 ·refine ⟨ho.1,.inr ⟨g,cap,cur,rfl,hb,?_,hr⟩⟩
  rw [ha g rfl]
  exact hg
theorem OwR.lt {w:World} {B n:Nat} {v:Value} {h:Nat->Wo2} (o:OwR w B v n h):∀ j,v.ownBlock=some j->B<=j/\j<w.heap.size:=fun j hj=>o.1.lt j hj
theorem OwR.mono {w:World} {B B' n:Nat} {v:Value} {h:Nat->Wo2} (o:OwR w B v n h) (hb:B'<=B):OwR w B' v n h:=⟨o.1.mono hb,o.2⟩
theorem OwR.below {w w':World} {B n:Nat} {v:Value} {h:Nat->Wo2} (o:OwR w B v n h) (hb:Below w.heap.size w w'):OwR w' B v n h:=o.ofBlock fun k hk=>hb.block k (o.lt k hk).2
theorem OwR.touch {w w':World} {B n:Nat} {v:Value} {h:Nat->Wo2} {P:Nat->Prop} (o:OwR w B v n h) (ht:qam P w w') (hp:∀ g,v.ownBlock=some g->¬ P g):OwR w' B v n h:=o.ofBlock fun k hk=>ht.block k (o.lt k hk).2 (hp k hk)
theorem OwR.empty (w:World) (h:Nat->Wo2):OwR (w.alloc (.cells #[] 37)) w.heap.size (.slice (some ⟨w.heap.size,0,none⟩) 0 0) 0 h:=⟨World.ownsRow_lit w #[] 0 (Nat.le_refl _) (by unfold maxLen;omega) rfl,by simp⟩
theorem OwR.made (w:World) (c:Nat) (hc:c<=1048576) (h:Nat->Wo2):OwR (w.alloc (.cells (madeCells (woV 0 0).cells (c*2)) 37)) w.heap.size (.slice (some ⟨w.heap.size,0,none⟩) 0 c) 0 h:=⟨World.ownsRow_made (base:=w.heap.size) w _ c (Nat.le_refl _) (by unfold maxLen;omega) (size_madeCells _ _),by simp⟩
theorem qi0:∃ i,Tryz.prog.info? 37=some i/\i.zero=some (woV 0 0)/\i.size=2/\i.bytes=16:=by
 have hinfo:=qvo
 cases hi:Tryz.prog.info? 37 with
 | none=>rw [hi] at hinfo;cases hinfo
 | some i=>
  rw [hi] at hinfo
  simp only [Option.map_some,Option.some.injEq,Prod.mk.injEq] at hinfo
  exact ⟨i,rfl,hinfo⟩
theorem qkh (w:World) (a b:Value) (t:TypeId):∀ j u,[a,b][j]? = some u->(w.alloc (.cells #[a,b] t)).cell? ((⟨w.heap.size,0,none⟩:Addr).add j)=some u:=by
 intro j u hj
 match j,hj with
 | 0,hj=>simp at hj;subst hj;simp [Addr.add]
 | 1,hj=>simp at hj;subst hj;simp [Addr.add]
 | j+2,hj=>simp at hj
theorem qh3 {ops:Array Oper} {rest:List Oper} {op:Oper} {act:Act} {Q:Exit->Act->World->Prop} (w:World) (hgd:op.guard=none) (s x:Operand)
  (ho:op.op=.call { callee:=.builtin .append,args:=#[s,x],argTypes:=#[30,30] })
  (B:Nat) (v:Value) (n:Nat) (h:Nat->Wo2) (hs:act.eval s=v) (hl:OwR w B v n h) (m z:Int) (hmz:h n=⟨m,z⟩) (hx:act.eval x=.slice (some ⟨w.heap.size,0,none⟩) 1 1) (hn:n<=1000000) (hB:B<=w.heap.size)
  (hp:∀ v' w',OwR w' B v' (n+1) h->w.grownBy w' v.ownBlock->(∀ j,v'.ownBlock=some j->v.ownBlock=some j\/w.heap.size<=j)->wpList Tryz.prog ops Q rest (act.put op.dst v') w'):
  wpList Tryz.prog ops Q (op :: rest) act (w.alloc (oQ5 m z)):=by
 obtain ⟨i0,hi,hz0,hz1,hz2⟩:=qi0
 obtain ⟨how,hvn⟩:=hl
 have hb:Below w.heap.size w (w.alloc (oQ5 m z)):=zT _ _
 obtain ⟨v', w', h1, h2, h3, h4, h5⟩ := run_append_own_at (P := Tryz.prog) (w.alloc (oQ5 m z)) B 30 op.type 37 i0 (woV 0 0) 2 16 Tryz.underlying30 hi hz0 hz1 hz2 rfl (by decide) v n _ (how.alloc _) ⟨w.heap.size, 0, none⟩ 1 1 [.int .i64 m, .int .i64 z] rfl (qkh _ _ _ _) (fun u hu => by
  simp at hu
  rcases hu with rfl | rfl <;> rfl) (by unfold maxLen;omega) (by omega) (by simp;omega)
 refine wpList_plain hgd fun K hK=>?_
 unfold Oper.wp execOp
 simp only [ho,resolve,invoke,builtin,Sem.run_bind,Sem.run_pure,Result.andThen_ok,List.map_toArray,List.map_cons,List.map_nil,hs,hx,h1]
 refine hK _ _ (hp v' w' ⟨?_,fun e=>hvn (h4.1 e).1⟩ ⟨h3.os,h3.tape,h3.output,zP hb.size h3.size,fun j hj hne=>(h3.block j (zL hj hb.size) hne).trans (hb.block j hj)⟩ fun j hj=>?_)
 ·rw [flW,hmz]
  exact h2
 ·rcases h5 with a | a
  ·exact .inl (a.symm.trans hj)
  ·rw [hj] at a
   simp only [Option.some.injEq] at a
   right
   rw [a]
   simp
theorem qn7 {g:Nat->I5} {len:Nat} {eh eh':Nat->E3}:∀ {k:Nat},(∀ i,i<k->eh' i=eh i)->rp g len eh' k=rp g len eh k
 | 0,_=>rfl
 | k+1,h=>by
  show (rp g len eh' k).bind (qen g len (eh' k))=(rp g len eh k).bind (qen g len (eh k))
  rw [qn7 fun i hi=>h i (by omega),h k (by omega)]
theorem qhl {eh eh':Nat->E3} {kd pr:Int}:∀ {k:Nat},(∀ i,i<k->eh' i=eh i)->plN eh' kd pr k=plN eh kd pr k
 | 0,_=>rfl
 | k+1,h=>by
  have e:=qhl (kd:=kd) (pr:=pr) (k:=k) fun i hi=>h i (by omega)
  have hh:hitB eh' kd pr k=hitB eh kd pr k:=by
   unfold hitB
   rw [h k (by omega)]
  unfold plN
  rw [e,hh]
theorem qqx {eh:Nat->E3} {kd pr:Int}:∀ {k i:Nat},i ∈ plN eh kd pr k->i<k
 | 0,i,h=>by simp [plN] at h
 | k+1,i,h=>by
  unfold plN at h
  split at h
  ·simp only [List.mem_append,List.mem_singleton] at h
   rcases h with h | h
   ·have:=qqx h
    omega
   ·omega
  ·have:=qqx h
   omega
theorem qpk {eh eh':Nat->E3} {kd pr:Int} {k:Nat} (h:∀ i,i<k->eh' i=eh i):valL eh' kd pr k=valL eh kd pr k:=by
 unfold valL
 rw [qhl h]
 exact List.map_congr_left fun i hi=>by rw [h i (qqx hi)]
theorem qhb {eh eh':Nat->E3} {kd pr:Int} {k:Nat} (h:∀ i,i<k->eh' i=eh i):cnt eh' kd pr k=cnt eh kd pr k:=by
 unfold cnt
 rw [qhl h]
theorem quc (eh:Nat->E3) (kd pr:Int) (k:Nat):cnt eh kd pr k=(valL eh kd pr k).length:=by simp [cnt,valL]
theorem qrk {eh:Nat->E3} {kd pr:Int} {n:Nat} {x:E3}:valL (fun i=>if i=n then x else eh i) kd pr (n+1)=valL eh kd pr n ++ (if x.k=kd/\x.q=pr then [x.v] else []):=by
 have e:valL (fun i=>if i=n then x else eh i) kd pr n=valL eh kd pr n:=qpk fun i hi=>by rw [if_neg (by omega)]
 by_cases h:x.k=kd/\x.q=pr
 ·have hh:hitB (fun i=>if i=n then x else eh i) kd pr n=true:=by
   rw [qec]
   simp only [if_true]
   exact h
  rw [qod hh,e,if_pos h]
  simp
 ·have hh:hitB (fun i=>if i=n then x else eh i) kd pr n=false:=by
   rcases zK (hitB (fun i=>if i=n then x else eh i) kd pr n) with t | t
   ·rw [qec] at t
    simp only [if_true] at t
    exact absurd t h
   ·exact t
  rw [qjv hh,e,if_neg h,List.append_nil]
theorem qib {H H':Nat->I2}:∀ {n:Nat},(∀ i,i<n->H' i=H i)->numL H' n=numL H n
 | 0,_=>rfl
 | n+1,h=>by
  unfold numL
  rw [qib fun i hi=>h i (by omega),h n (by omega)]
theorem qqt (H:Nat->I2) (n:Nat) (v:Int):numL (fun i=>if i=n then ⟨false,v⟩ else H i) (n+1)=numL H n ++ [v]:=by
 rw [qgx (by simp)]
 rw [qib (H:=H) fun i hi=>by rw [if_neg (by omega)]]
 simp
theorem qfx {H:Nat->I2} (h0:(H 0).m=false):∀ n,numL H (n+1)=(H 0).v :: numL (fun i=>H (i+1)) n
 | 0=>by rw [qgx h0];rfl
 | n+1=>by
  rw [numL]
  rw [qfx h0 n]
  conv=>rhs;rw [numL]
  split <;> simp
theorem Hs.Put.more {x x':Hs} (hn:x'.n=x.n) (hl:∀ j,x.l j<=x'.l j) (he:∀ j i,i<x.l j->x'.e j i=x.e j i) {d:Nat->Nat} (h:x.Put d):x'.Put d:=by
 induction h with
 | start=>exact .start
 | next hd hp hc ih=>
  rename_i d p
  refine .next ih (by omega) ⟨zL hc.1 (hl p),fun hk=>?_⟩
  have e:=he p (d p) hc.1
  rw [e] at hk ⊢
  have hle:=hd.le
  rw [qhb (fun i hi=>he p i (Nat.lt_trans hi hc.1)),qhb (fun i hi=>he _ i (zL hi (hle _)))]
  exact hc.2 hk
theorem qro {a b p q n:Nat} (hb:b<n) (hq:q<n) (h:a*n+b=p*n+q):a=p/\b=q:=by
 have h1:(a*n+b) / n=a:=by rw [Nat.mul_comm,Nat.mul_add_div (by omega),Nat.div_eq_of_lt hb,Nat.add_zero]
 have h2:(p*n+q) / n=p:=by rw [Nat.mul_comm,Nat.mul_add_div (by omega),Nat.div_eq_of_lt hq,Nat.add_zero]
 have h3:a=p:=by rw [<- h1,<- h2,h]
 subst h3
 exact ⟨rfl,by omega⟩
theorem qn8 {a b p q n:Nat} (h1:a=p) (h2:q=b):a*n+b=p*n+q:=by rw [h1,h2]
theorem Sy.Ok.next {y:Sy} (h:y.Ok) {p:Nat} (hp:p<y.pn) (hc:(y.sS p).c=0):(y.nk p=1\/y.nk p=2\/y.nk p=3\/y.nk p=4)/\(y.nk p≠2->y.nk p≠3->y.nq p=0)/\(y.nk p=2->numB (y.nv p)=true):=by
 have hr:=h.right hp hc
 rw [<- hc] at hr
 have e1:y.nk p=evK (y.pH p (y.sS p).p.toNat).o:=if_pos hr
 have e2:y.nq p=evP (y.pH p (y.sS p).p.toNat).o (y.pH p (y.sS p).p.toNat).n:=if_pos hr
 have e3:y.nv p=evW (y.pH p (y.sS p).p.toNat).o (y.pH p (y.sS p).p.toNat).a (y.sS p).rs:=if_pos hr
 obtain ⟨hpr,hs,-⟩:=qba hr
 obtain ⟨⟨a1,a2,a3,a4,ers,n1,n2,n3,n4⟩,⟨k,ek,hk⟩,-,-⟩:=qb4 hs
 have ek':(y.sS p).p.toNat=k:=by omega
 obtain ⟨-,-,⟨m0,m3⟩,-⟩:=qcd (qbs hpr hk)
 rw [ek'] at e1 e2 e3
 refine ⟨?_,?_,?_⟩
 ·rw [e1]
  unfold evK
  split
  ·exact .inr (.inl rfl)
  ·split
   ·exact .inr (.inr (.inl rfl))
   ·split
    ·exact .inr (.inr (.inr rfl))
    ·exact .inl rfl
 ·intro h2 h3
  rw [e1] at h2 h3
  rw [e2]
  unfold evK at h2 h3
  unfold evP
  by_cases e6:(y.pH p k).o=6
  ·rw [if_pos e6] at h2
   exact absurd rfl h2
  ·rw [if_neg e6] at h3 ⊢
   by_cases e7:(y.pH p k).o=7
   ·rw [if_pos e7] at h3
    exact absurd rfl h3
   ·rw [if_neg e7]
 ·intro h2
  rw [e1] at h2
  rw [e3,ers]
  have e6:(y.pH p k).o=6:=by
   unfold evK at h2
   by_cases e6:(y.pH p k).o=6
   ·exact e6
   ·rw [if_neg e6] at h2
    split at h2
    ·cases h2
    ·split at h2 <;> cases h2
  unfold evW
  rw [if_pos e6]
  obtain ⟨j,ej⟩:∃ j:Nat,(y.pH p k).a=j:=⟨(y.pH p k).a.toNat,by omega⟩
  have hj:(y.pH p k).a.toNat<4:=by omega
  match (y.pH p k).a.toNat,hj with
  | 0,_=>exact n1
  | 1,_=>exact n2
  | 2,_=>exact n3
  | 3,_=>exact n4
structure Sy.Done (y:Sy) (p:Nat) (f:Int):Prop where
 run:(y.sS p).c=0
 room:y.hL p<200
 peer:0<=y.eq p f/\y.eq p f<(y.pn:Int)
 send:y.nk p=2->y.wL (p*y.pn+(y.eq p f).toNat)<12/\numB (y.ev p f)=true
 take:y.nk p=3->0<y.wL ((y.eq p f).toNat*y.pn+p)/\(y.wH ((y.eq p f).toNat*y.pn+p) 0).m=false/\(y.wH ((y.eq p f).toNat*y.pn+p) 0).v=y.ev p f/\numB (y.ev p f)=true
 can:doB (y.pH p) (y.pL p) (y.sS p).p (y.sS p).rs (y.sS p).os (y.sS p).c (y.nk p) (y.eq p f) (y.ev p f)=true
theorem Sy.Ok.done {y:Sy} (h:y.Ok) {p:Nat} (hp:p<y.pn) {f:Int} (hc:cmS y p f=0):y.Done p f:=by
 unfold cmS at hc
 have h4:y.pn<=4:=h.cn.1.2
 have h1:1<=y.pn:=h.cn.1.1
 by_cases c0:(y.sS p).c=0
 case neg=>
  rw [if_pos c0] at hc
  cases hc
 rw [if_neg (by simpa using c0)] at hc
 by_cases c1:fuS y p (y.nk p) (y.nq p)=true
 ·rw [if_pos c1] at hc
  cases hc
 rw [if_neg c1] at hc
 have hfu:y.hL p<200/\(y.nk p=2->y.wL (p*y.pn+(y.nq p).toNat)<12):=by
  simp only [fuS,Bool.or_eq_true,decide_eq_true_eq,Bool.and_eq_true,beq_iff_eq,not_or,not_and] at c1
  exact ⟨by omega,fun h2=>by have:=c1.2 h2;omega⟩
 obtain ⟨hk,hq0,hnv⟩:=h.next hp c0
 by_cases k3:y.nk p=3
 ·rw [if_pos k3] at hc
  have eQ:y.eq p f=if y.nq p=9 then f else y.nq p:=if_pos k3
  rw [<- eQ] at hc
  have eV:y.ev p f=(y.wH ((y.eq p f).toNat*y.pn+p) 0).v:=if_pos k3
  unfold tkS at hc
  by_cases b:belB (y.eq p f) y.pn=true
  case neg=>
   rw [if_neg b] at hc
   cases hc
  rw [if_pos b] at hc
  have hb:0<=y.eq p f/\y.eq p f<(y.pn:Int):=by simpa [belB] using b
  by_cases w0:y.wL ((y.eq p f).toNat*y.pn+p)=0
  ·rw [if_pos w0] at hc
   cases hc
  rw [if_neg w0] at hc
  by_cases m0:(y.wH ((y.eq p f).toNat*y.pn+p) 0).m=true
  ·rw [if_pos m0] at hc
   cases hc
  have hv:numB (y.ev p f)=true:=by
   have:=(h.wa (y.eq p f).toNat (by omega) p hp).it 0 (by omega)
   simp only [qci,Bool.and_eq_true] at this
   rw [eV]
   exact this.1
  refine ⟨c0,hfu.1,hb,(fun h2=>by rw [k3] at h2;cases h2),fun _=>⟨by omega,by simpa using m0,eV.symm,hv⟩,?_⟩
  have e3:nxK (y.pH p) (y.pL p) (y.sS p).p (y.sS p).rs (y.sS p).os (y.sS p).c=3:=k3
  unfold doB canB
  rw [if_pos e3,k3,hv]
  simp only [beq_self_eq_true,Bool.true_and]
  by_cases e9:y.nq p=9
  ·have e9':nxP (y.pH p) (y.pL p) (y.sS p).p (y.sS p).rs (y.sS p).os (y.sS p).c=9:=e9
   rw [if_pos e9']
   simp only [belB,decide_eq_true_eq]
   omega
  ·have e9':¬ nxP (y.pH p) (y.pL p) (y.sS p).p (y.sS p).rs (y.sS p).os (y.sS p).c=9:=e9
   rw [if_neg e9',eQ,if_neg e9]
   simp [Sy.nq]
 ·have eQ:y.eq p f=y.nq p:=if_neg k3
  have eV:y.ev p f=y.nv p:=if_neg k3
  have hpe:0<=y.nq p/\y.nq p<(y.pn:Int):=by
   by_cases k2:y.nk p=2
   ·exact h.peer hp k2
   ·rw [hq0 k2 k3]
    omega
  refine ⟨c0,hfu.1,by rw [eQ];exact hpe,fun h2=>⟨by rw [eQ];exact hfu.2 h2,by rw [eV];exact hnv h2⟩,fun h3=>absurd h3 k3,?_⟩
  have e3:¬ nxK (y.pH p) (y.pL p) (y.sS p).p (y.sS p).rs (y.sS p).os (y.sS p).c=3:=k3
  have e0:y.nk p≠0:=by omega
  unfold doB canB
  rw [if_neg e3,eQ,eV]
  simp only [Bool.and_eq_true,bne_iff_ne,beq_iff_eq]
  exact ⟨e0,rfl,rfl,rfl⟩
theorem Sy.Ok.step {y:Sy} (h:y.Ok) {p:Nat} (hp:p<y.pn) {f:Int} (hc:cmS y p f=0):(y.step p f).Ok:=by
 have D:=h.done hp hc
 have e:y.step p f=(y.way p (y.nk p) (y.eq p f) (y.ev p f)).evt p (y.nk p) (y.eq p f) (y.ev p f):=if_pos hc
 rw [e]
 obtain ⟨q,hq⟩:∃ q:Nat,y.eq p f=q:=⟨(y.eq p f).toNat,by have:=D.peer;omega⟩
 have hqn:q<y.pn:=by have:=D.peer;omega
 have D':=D
 obtain ⟨run,room,peer,send,take,can⟩:=D
 rw [hq,Int.toNat_natCast] at send take
 rw [hq] at can ⊢
 generalize hV:y.ev p f=V at *
 obtain ⟨kk,-,-⟩:=h.next hp run
 generalize hK:y.nk p=K at *
 clear hV hK e hc hq peer D'
 -- what happened to each,now
 have hH:∀ a kd pr,valL (((y.way p K q V).evt p K q V).hH a) kd pr (((y.way p K q V).evt p K q V).hL a)=valL (y.hH a) kd pr (y.hL a) ++ (if a=p/\K=kd/\(q:Int)=pr then [V] else []):=by
  intro a kd pr
  show valL (if a=p then (fun i=>if i=y.hL p then (⟨K,q,V⟩:E3) else y.hH p i) else y.hH a) kd pr (if a=p then y.hL p+1 else y.hL a)=_
  by_cases ea:a=p
  ·subst ea
   simp only [if_true,true_and]
   exact qrk
  ·rw [if_neg ea,if_neg ea,if_neg (fun h=>ea h.1),List.append_nil]
 refine ⟨h.cn,h.pr,fun a ha=>?_,fun a ha i hi=>?_,fun a ha b hb=>?_,?_⟩
 ·show repO (y.pH a) (y.pL a) (if a=p then (fun i=>if i=y.hL p then (⟨K,q,V⟩:E3) else y.hH p i) else y.hH a) (if a=p then y.hL p+1 else y.hL a)=some (if a=p then doS (y.pH p) (y.pL p) (y.sS p).p (y.sS p).rs (y.sS p).os (y.sS p).c K q V else y.sS a)
  by_cases ea:a=p
  ·subst ea
   simp only [if_true]
   have h0:=qb2 (h.rp a hp)
   unfold repO
   rw [if_pos ⟨h0.1,by omega⟩]
   have hr:Go.Proofs.YtnfdnnmddadmkaaGreatDoor.rp (y.pH a) (y.pL a) (fun i=>if i=y.hL a then (⟨K,q,V⟩:E3) else y.hH a i) (y.hL a)=some (y.sS a):=(qn7 fun i hi=>by rw [if_neg (by omega)]).trans h0.2.2
   have:=qqz hr (by simpa using can)
   simpa using this
  ·rw [if_neg ea,if_neg ea,if_neg ea]
   exact h.rp a ha
 ·have hi':i<(if a=p then y.hL p+1 else y.hL a):=hi
  show ((if a=p then (fun i=>if i=y.hL p then (⟨K,q,V⟩:E3) else y.hH p i) else y.hH a) i).q<(y.pn:Int)
  by_cases ea:a=p
  ·subst ea
   simp only [if_true] at hi' ⊢
   by_cases ei:i=y.hL a
   ·rw [if_pos ei]
    show (q:Int)<_
    omega
   ·rw [if_neg ei]
    exact h.pe a hp i (by omega)
  ·rw [if_neg ea] at hi' ⊢
   exact h.pe a ha i hi'
 ·have wab:=h.wa a ha b hb
  rw [hH b 3 a,hH a 2 b]
  show WayP (((y.way p K q V)).wH (a*y.pn+b)) ((y.way p K q V).wL (a*y.pn+b)) _ _
  by_cases k2:K=2
  ·subst k2
   rw [Sy.way_send,if_neg (fun h=>by have:=h.2.1;omega),List.append_nil]
   show WayP (if a*y.pn+b=p*y.pn+q then (fun i=>if i=y.wL (p*y.pn+q) then ⟨false,V⟩ else y.wH (p*y.pn+q) i) else y.wH (a*y.pn+b)) (if a*y.pn+b=p*y.pn+q then y.wL (p*y.pn+q)+1 else y.wL (a*y.pn+b)) _ _
   by_cases ew:a*y.pn+b=p*y.pn+q
   ·obtain ⟨rfl,rfl⟩:=qro hb hqn ew
    simp only [if_true]
    rw [if_pos ⟨trivial,trivial,trivial⟩]
    obtain ⟨s1,s2⟩:=send rfl
    refine ⟨fun i hi=>?_,by omega,?_⟩
    ·by_cases ei:i=y.wL (a*y.pn+b)
     ·rw [if_pos ei]
      simp [qci,s2]
     ·rw [if_neg ei]
      exact wab.it i (by omega)
    ·rw [qqt,<- List.append_assoc,wab.eq]
   ·rw [if_neg ew,if_neg ew,if_neg (fun h=>ew (qn8 h.1 (Int.ofNat_inj.1 h.2.2))),List.append_nil]
    exact wab
  ·by_cases k3:K=3
   ·subst k3
    rw [Sy.way_take,if_neg (c:=a=p/\(3:Int)=2/\_) (fun h=>by have:=h.2.1;omega),List.append_nil]
    show WayP (if a*y.pn+b=q*y.pn+p then (fun i=>y.wH (q*y.pn+p) (i+1)) else y.wH (a*y.pn+b)) (if a*y.pn+b=q*y.pn+p then y.wL (q*y.pn+p) - 1 else y.wL (a*y.pn+b)) _ _
    by_cases ew:a*y.pn+b=q*y.pn+p
    ·obtain ⟨rfl,rfl⟩:=qro hb hp ew
     simp only [if_true]
     rw [if_pos ⟨trivial,trivial,trivial⟩]
     obtain ⟨t1,t2,t3,-⟩:=take rfl
     obtain ⟨m,em⟩:∃ m,y.wL (a*y.pn+b)=m+1:=⟨y.wL (a*y.pn+b) - 1,by omega⟩
     have weq:=wab.eq
     have wle:=wab.le
     have wit:=wab.it
     rw [em] at weq wle wit ⊢
     rw [Nat.add_sub_cancel]
     refine ⟨fun i hi=>wit (i+1) (by omega),by omega,?_⟩
     rw [qfx t2,t3] at weq
     rw [List.append_assoc]
     exact weq
    ·rw [if_neg ew,if_neg ew,if_neg (fun h=>ew (qn8 (Int.ofNat_inj.1 h.2.2).symm h.1.symm)),List.append_nil]
     exact wab
   ·rw [Sy.way_no y p k2 k3,if_neg (fun h=>k3 h.2.1),if_neg (fun h=>k2 h.2.1),List.append_nil,List.append_nil]
    exact wab
 ·obtain ⟨d,hd,hall⟩:=h.ro
  have hd':((y.way p K q V).evt p K q V).hs.Put d:=by
   refine Hs.Put.more (x:=y.hs) (x':=((y.way p K q V).evt p K q V).hs) rfl (fun j=>?_) (fun j i hi=>?_) hd
   ·show y.hL j<=if j=p then y.hL p+1 else y.hL j
    by_cases ej:j=p
    ·rw [if_pos ej,ej];omega
    ·rw [if_neg ej];exact Nat.le_refl _
   ·have hi':i<y.hL j:=hi
    show (if j=p then (fun i=>if i=y.hL p then (⟨K,q,V⟩:E3) else y.hH p i) else y.hH j) i=y.hH j i
    by_cases ej:j=p
    ·subst ej
     rw [if_pos rfl,if_neg (by omega)]
    ·rw [if_neg ej]
  have hdp:d p=y.hL p:=hall p hp
  have epH:∀ a,a≠p->((y.way p K q V).evt p K q V).hs.e a=y.hH a:=fun a ha=>by
   show (if a=p then _ else y.hH a)=_
   rw [if_neg ha]
  have epp:((y.way p K q V).evt p K q V).hs.e p=fun i=>if i=y.hL p then (⟨K,q,V⟩:E3) else y.hH p i:=by
   show (if p=p then _ else y.hH p)=_
   rw [if_pos rfl]
   rfl
  have elp:((y.way p K q V).evt p K q V).hs.l p=y.hL p+1:=by
   show (if p=p then _ else y.hL p)=_
   rw [if_pos rfl]
   rfl
  have ece:∀ a kd pr,a<y.pn->cnt (((y.way p K q V).evt p K q V).hs.e a) kd pr (d a)=(valL (y.hH a) kd pr (y.hL a)).length:=fun a kd pr ha=>by
   have hda:d a=y.hL a:=hall a ha
   rw [hda,<- quc]
   refine qhb fun i hi=>?_
   by_cases ea:a=p
   ·subst ea
    rw [epp]
    show (if i=y.hL a then (⟨K,q,V⟩:E3) else y.hH a i)=y.hH a i
    rw [if_neg (by omega)]
   ·rw [epH a ea]
  refine ⟨up d p,.next hd' hp ⟨by rw [elp,hdp];omega,fun hk=>?_⟩,fun a ha=>?_⟩
  ·have ee:((y.way p K q V).evt p K q V).hs.e p (d p)=⟨K,q,V⟩:=by rw [epp,hdp];exact if_pos rfl
   rw [ee] at hk ⊢
   have hk':K=3:=hk
   show cnt _ 3 (q:Int) _<cnt (((y.way p K q V).evt p K q V).hs.e (q:Int).toNat) 2 p (d (q:Int).toNat)
   rw [Int.toNat_natCast,ece p 3 q hp,ece q 2 p hqn]
   obtain ⟨t1,t2,-⟩:=take hk'
   obtain ⟨m,em⟩:∃ m,y.wL (q*y.pn+p)=m+1:=⟨y.wL (q*y.pn+p) - 1,by omega⟩
   have weq:=(h.wa q hqn p hp).eq
   rw [em,qfx t2] at weq
   have:=congrArg List.length weq
   simp only [List.length_append,List.length_cons] at this
   omega
  ·have hda:d a=y.hL a:=hall a ha
   by_cases ea:a=p
   ·subst ea
    rw [qbk,elp,hdp]
   ·rw [up_other ea,hda]
    show y.hL a=if a=p then _ else y.hL a
    rw [if_neg ea]
