import Derived.Test.YtchhijiibjijhaaGreatDoorYf24
import Derived.Defers
import Derived.Deep.LoopGhost
import Derived.Deep.Cut
import Derived.Deep.MidRow
import Derived.Test.YtchhijiibjijhaaGreatDoorYf25
namespace Go.Proofs.YtchhijiibjijhaaGreatDoor
set_option maxRecDepth 100000
set_option maxHeartbeats 4000000
open Go.RowKit Go.Deep
theorem Sy.Ok.hl200 {y:Sy} (h:y.Ok) {p:Nat} (hp:p<y.pn):y.hL p<=200:=(qbw (h.rp p hp)).2.1
open Go.ChangeShapes Go.WideShapes Go.ChangeAt Go.Sort
theorem qaa.set {P:Nat->Prop} {w w':World} (h:qaa P w w') {a:Addr} (ha:P a.block) (u:Value):qaa P w (w'.setCell a u):=h.trans (qaa.of_set w' ha u)
theorem qaa.sets {P:Nat->Prop} {b:Nat} (hb:P b):∀ (vs:List Value) (o:Nat) {w w':World},qaa P w w'->qaa P w (w'.setCells b o vs)
 | [],_,_,_,h=>h
 | v :: r,o,_,_,h=>qaa.sets hb r (o+1) (h.set (a:=⟨b,o,none⟩) hb v)
theorem qty:(Tryz.prog.info? 98).map (·.size)=some 21:=by kernel_rfl
theorem qya (X Bf Hb:Nat) (w:World) (cs:List Value) (hl:cs.length=21) (h1:∀ v ∈ cs,v.oneCell'=true) (hB:w.rangeAt Bf 0 cs) (hT:w.there X 4 21) (hH:w.cell? ⟨Hb,0,none⟩=some (.pointer (some ⟨X,4,none⟩))) (u:FrameMode):
  CallsD Tryz.prog 191 #[.pointer (some ⟨Bf,0,none⟩),.pointer (some ⟨Hb,0,none⟩)] u w fun e u' w'=>u'=u/\(e=.returned (.tuple #[])/\qaa (fun b=>b=X) w w'):=by
 have HB:Hid (w.rangeAt Bf 0 cs):=hB
 have HT:Hid (w.there X 4 cs.toArray.size):=by rw [show cs.toArray.size=21 by simp [hl]];exact hT
 have HI:Hid ((Tryz.prog.info? 98).map (·.size)=some cs.length):=by rw [hl];exact qty
 have HO:Hid (cs.toArray.all (·.oneCell')=true):=all_oneCell_toArray h1
 clear hB hT h1 hl
 go_enter_d Tryz.func191,Tryz.ntmps191
 go_wp2_with (first|(refine wpList_load_mid rfl 98 (.tmp 0) rfl Bf 0 rfl cs _ HB.out Tryz.underlying98 rfl HI.out ?_)|(refine wpList_store_mid rfl 98 (.tmp 4) (.tmp 3) rfl X 4 cs.toArray rfl rfl HT.out (by simpa using HI.out) HO.out ?_))
 go_end0
 exact ⟨rfl,qaa.sets (P:=fun b=>b=X) rfl _ _ (qaa.refl _ _)⟩
def hisL (ha:Option Addr) (hc:Nat) (y:Hs) (d:Nat->Nat):List Value:=
 [.slice ha y.n hc, .int .i64 (d 0), .int .i64 (d 1), .int .i64 (d 2), .int .i64 (d 3),
  .int .i64 (y.opn d 0 0),.int .i64 (y.opn d 0 1),.int .i64 (y.opn d 0 2),.int .i64 (y.opn d 0 3),.int .i64 (y.opn d 1 0),.int .i64 (y.opn d 1 1),.int .i64 (y.opn d 1 2),.int .i64 (y.opn d 1 3),
  .int .i64 (y.opn d 2 0),.int .i64 (y.opn d 2 1),.int .i64 (y.opn d 2 2),.int .i64 (y.opn d 2 3),.int .i64 (y.opn d 3 0),.int .i64 (y.opn d 3 1),.int .i64 (y.opn d 3 2),.int .i64 (y.opn d 3 3)]
theorem HisP.range {w:World} {X:Nat} {ha:Option Addr} {hc:Nat} {y:Hs} {d:Nat->Nat} (h:HisP w X ha hc y d):w.rangeAt X 4 (hisL ha hc y d):=by
 intro j v hj
 have hl:j<21:=by
  have:=(List.getElem?_eq_some_iff.1 hj).1
  simpa [hisL] using this
 match j,hl,hj with
 | 0,_,hj=>rw [<- hj];exact h.c4
 | 1,_,hj=>rw [<- hj];exact h.pt 0 (by omega)
 | 2,_,hj=>rw [<- hj];exact h.pt 1 (by omega)
 | 3,_,hj=>rw [<- hj];exact h.pt 2 (by omega)
 | 4,_,hj=>rw [<- hj];exact h.pt 3 (by omega)
 | 5,_,hj=>rw [<- hj];exact h.op 0 0 (by omega) (by omega)
 | 6,_,hj=>rw [<- hj];exact h.op 0 1 (by omega) (by omega)
 | 7,_,hj=>rw [<- hj];exact h.op 0 2 (by omega) (by omega)
 | 8,_,hj=>rw [<- hj];exact h.op 0 3 (by omega) (by omega)
 | 9,_,hj=>rw [<- hj];exact h.op 1 0 (by omega) (by omega)
 | 10,_,hj=>rw [<- hj];exact h.op 1 1 (by omega) (by omega)
 | 11,_,hj=>rw [<- hj];exact h.op 1 2 (by omega) (by omega)
 | 12,_,hj=>rw [<- hj];exact h.op 1 3 (by omega) (by omega)
 | 13,_,hj=>rw [<- hj];exact h.op 2 0 (by omega) (by omega)
 | 14,_,hj=>rw [<- hj];exact h.op 2 1 (by omega) (by omega)
 | 15,_,hj=>rw [<- hj];exact h.op 2 2 (by omega) (by omega)
 | 16,_,hj=>rw [<- hj];exact h.op 2 3 (by omega) (by omega)
 | 17,_,hj=>rw [<- hj];exact h.op 3 0 (by omega) (by omega)
 | 18,_,hj=>rw [<- hj];exact h.op 3 1 (by omega) (by omega)
 | 19,_,hj=>rw [<- hj];exact h.op 3 2 (by omega) (by omega)
 | 20,_,hj=>rw [<- hj];exact h.op 3 3 (by omega) (by omega)
theorem qv1 {ha:Option Addr} {hc:Nat} {y:Hs} {d:Nat->Nat}:∀ v ∈ hisL ha hc y d,v.oneCell'=true:=by
 intro v hv
 simp only [hisL,List.mem_cons,List.not_mem_nil,or_false] at hv
 rcases hv with rfl | rfl | rfl | rfl | rfl | rfl | rfl | rfl | rfl | rfl | rfl | rfl | rfl | rfl | rfl | rfl | rfl | rfl | rfl | rfl | rfl <;> rfl
theorem HisP.thereX {w:World} {X:Nat} {ha:Option Addr} {hc:Nat} {y:Hs} {d:Nat->Nat} (h:HisP w X ha hc y d):w.there X 4 21:=fun j hj=>⟨h.range.isSome j (by simpa [hisL] using hj),h.fr _⟩
theorem qjd {d e:Nat->Nat}:∀ {n:Nat},(∀ i,i<n->d i=e i)->sumL d n=sumL e n
 | 0,_=>rfl
 | n+1,h=>by
  show sumL d n+d n=sumL e n+e n
  rw [qjd fun i hi=>h i (by omega),h n (by omega)]
theorem qgj:∀ n,sumL (fun _=>0) n=0
 | 0=>rfl
 | n+1=>qgj n
theorem qlw {d:Nat->Nat} {k:Nat}:∀ {n:Nat},k<n->sumL (up d k) n=sumL d n+1
 | 0,h=>by omega
 | n+1,h=>by
  show sumL (up d k) n+up d k n=sumL d n+d n+1
  by_cases e:k=n
  ·subst e
   rw [qeu]
   have:sumL (up d k) k=sumL d k:=qjd fun i hi=>up_other (by omega)
   omega
  ·rw [qlw (by omega),up_other (by omega)]
   omega
theorem qes {d l:Nat->Nat} (h:∀ i,d i<=l i):∀ n,sumL d n<=sumL l n
 | 0=>Nat.le_refl _
 | n+1=>by
  have:=qes h n
  have:=h n
  show sumL d n+d n<=sumL l n+l n
  omega
structure Rw (w0 W wr:World) (X Bf Hb:Nat) (ha:Option Addr) (hc:Nat) (y:Hs) (cs:List Value) (d:Nat->Nat):Prop where
 pu:y.Put d
 hp:HisP wr X ha hc y d
 be:Below w0.heap.size w0 wr
 hb:wr.cell? ⟨Hb,0,none⟩=some (.pointer (some ⟨X,4,none⟩))
 bf:wr.rangeAt Bf 0 cs
theorem qgf {P:Nat->Prop} {w w':World} {b o:Nat} {cs:List Value} (h:w.rangeAt b o cs) (t:qaa P w w') (hb:¬ P b):w'.rangeAt b o cs:=fun j v hv=>by
 have:=h j v hv
 rw [t.cell (zJ w _ this) hb]
 exact this
theorem Rw.touch {w0 W wr w':World} {X Bf Hb:Nat} {ha:Option Addr} {hc:Nat} {y:Hs} {cs:List Value} {d d':Nat->Nat} (h:Rw w0 W wr X Bf Hb ha hc y cs d) (t:qaa (fun b=>b=X) wr w') (hX:w0.heap.size<=X) (hB:Bf≠X) (hH:Hb≠X) (pu:y.Put d') (hp:HisP w' X ha hc y d'):Rw w0 W w' X Bf Hb ha hc y cs d':=
 ⟨pu,hp,h.be.trans (t.below h.be.size fun b e=>by omega),(t.cell (zJ wr _ h.hb) hH 0).trans h.hb,qgf h.bf t hB⟩
theorem qrw (X:Nat) (ha:Option Addr) (hc:Nat) (hA:Nat->Option Addr) (hC:Nat->Nat) (y:Hs) (w0 w:World) (hE:HisE w0 ha hA hC y) (hb:Below w0.heap.size w0 w) (hX:w0.heap.size<=X) (hP:HisP w X ha hc y (fun _=>0)) (h4:y.n<=4) (hp:y.Peers) (hl:∀ i,i<y.n->y.l i<=200):
  Calls Tryz.prog 133 #[.pointer (some ⟨X,4,none⟩)] w fun e w'=>e=.returned (.bool (qB y.Row))/\Below w0.heap.size w0 w':=by
 have HE:Hid (HisE w0 ha hA hC y):=hE
 have HH:Hid (y.Peers/\(∀ i,i<y.n->y.l i<=200)/\w0.heap.size<=X):=⟨hp,hl,hX⟩
 have zX:=hP.lt
 obtain ⟨cs,hcs,hlen,hone⟩:∃ cs,w.rangeAt X 4 cs/\cs.length=21/\∀ v ∈ cs,v.oneCell'=true:=⟨_,hP.range,rfl,qv1⟩
 have hsz:cs.toArray.size=21:=by simpa using hlen
 have HL21:Hid (cs.length=21/\∀ v ∈ cs,v.oneCell'=true):=⟨hlen,hone⟩
 have HI:Hid ((Tryz.prog.info? 98).map (·.size)=some cs.length):=by rw [hlen];exact qty
 have HR:Hid ((w.alloc (.cells #[.pointer (some ⟨X,4,none⟩)] 159)).rangeAt X 4 cs):=World.rangeAt_alloc hcs _
 have HO:Hid (cs.toArray.all (·.oneCell')=true):=all_oneCell_toArray hone
 have hmf:∀ (fn:Fn) (first cap:Array Value) (w:World),(Instr.makeFunc fn first cap).run Tryz.prog w=.ok (.func fn first cap) w:=fun _ _ _ _=>rfl
 have HT:Hid (((w.alloc (.cells #[.pointer (some ⟨X,4,none⟩)] 159)).alloc (zQ3)).there (w.heap.size+1) 0 cs.toArray.size):=fun j hj=>by
  have hj':j<21:=by rw [<- hsz];exact hj
  refine ⟨?_,yD _ _ _ _ (by simp)⟩
  rw [Nat.zero_add,zW _ _ _ j (by simp),Array.getElem?_eq_getElem (by simpa using hj')]
  rfl
 have tw:qaa (fun b=>b=w.heap.size+1) w (((w.alloc (.cells #[.pointer (some ⟨X,4,none⟩)] 159)).alloc (zQ3)).setCells (w.heap.size+1) 0 cs):=qaa.sets (P:=fun b=>b=w.heap.size+1) rfl _ _ (qaa.of_below ((zT _ _).trans ((zT _ _).mono (by simp))))
 have HRw:Hid (Rw w0 w (((w.alloc (.cells #[.pointer (some ⟨X,4,none⟩)] 159)).alloc (zQ3)).setCells (w.heap.size+1) 0 cs) X (w.heap.size+1) w.heap.size ha hc y cs (fun _=>0)):=by
  refine ⟨.start,hP.blk (tw.block X zX (by omega)),hb.trans (tw.below hb.size fun b e=>by have:=hb.size;omega),?_,World.rangeAt_setCells_same _ _ _ _ (by simpa using HT.out)⟩
  rw [World.cell?_setCells_out _ _ _ _ _ (fun e=>absurd e (by simp)),World.cell?_alloc_lt _ _ _ (by simp)]
  exact zW _ _ _ 0 rfl
 have HX:Hid (X<w.heap.size):=zX
 clear hE hp hl hX tw hb hP zX hlen hsz hcs hone
 go_enter_defers Tryz.func133,Tryz.ntmps133
 have h0:=HRw.out.hb
 go_wp2_with (first|(refine wpList_load_mid rfl 98 (.tmp 6) rfl X 4 rfl cs _ HR.out Tryz.underlying98 rfl HI.out ?_)|(refine wpList_store_mid rfl 98 (.tmp 3) (.tmp 7) rfl (w.heap.size+1) 0 cs.toArray rfl rfl HT.out (by simpa using HI.out) HO.out ?_))
 clear HR HT HI HO
 generalize ((w.alloc (.cells #[.pointer (some ⟨X,4,none⟩)] 159)).alloc (zQ3)).setCells (w.heap.size+1) 0 cs=W1 at *
 have nX:Hid (w.heap.size+1≠X/\w.heap.size≠X):=by
  have:=HX.out
  exact ⟨by omega,by omega⟩
 refine (qq4 X ha hc hA hC y (fun _=>0) W1 (HE.out.below HRw.out.be) HRw.out.hp h4 HH.out.1 HH.out.2.1 HRw.out.pu.le).mono ?_
 rintro e w1 ⟨q1,hor⟩
 have HNx:Hid (Rw w0 w w1 X (w.heap.size+1) w.heap.size ha hc y cs (fun _=>0)):=HRw.out.touch (qaa.of_below q1) HH.out.2.2 nX.out.1 nX.out.2 HRw.out.pu (HRw.out.hp.below q1)
 obtain ⟨z,rfl,HOr⟩:∃ z:Int,e=.returned (.int .i64 z)/\Hid ((∃ k,k<y.n/\y.Can (fun _=>0) k/\z=(k:Nat))\/(z = -1/\∀ p,p<y.n->¬ y.Can (fun _=>0) p)):=by
  rcases hor with ⟨k,hk,hcan,rfl⟩ | ⟨rfl,hn⟩
  ·exact ⟨_,rfl,.inl ⟨k,hk,hcan,rfl⟩⟩
  ·exact ⟨_,rfl,.inr ⟨rfl,hn⟩⟩
 clear hor q1 h0 HRw
 go_wp2_with fail
 go_loopg [4] (sumL y.l y.n) (fun k p wr=>∃ d z,k=sumL y.l y.n - sumL d y.n/\p=.int .i64 z/\Rw w0 w wr X (w.heap.size+1) w.heap.size ha hc y cs d/\Hid ((∃ k,k<y.n/\y.Can d k/\z=(k:Nat))\/(z = -1/\∀ p,p<y.n->¬ y.Can d p)))
 case atStart=>exact ⟨_,z,by simp [qgj],rfl,HNx.out,HOr.out⟩
 case round=>
  clear HNx HOr
  obtain ⟨d,zz,hgk,rfl,rw0,HOr⟩:=hrel
  have HRr:Hid (Rw w0 w wr X (w.heap.size+1) w.heap.size ha hc y cs d):=rw0
  have h1:=rw0.hb
  have HG:Hid (gk=sumL y.l y.n - sumL d y.n):=hgk
  clear rw0 hgk
  rcases HOr.out with ⟨k,hk,hcan,rfl⟩ | ⟨rfl,hst⟩
  ·have HCn:Hid (y.Can d k):=hcan
   have hz:¬ (k:Int) = -1:=by omega
   have hz':((k:Int) == -1)=false:=by simp
   clear HOr hcan
   go_wp2_with fail
   refine (qsw X ha hc hA hC y d k wr (HE.out.below HRr.out.be) HRr.out.hp h4 hk HH.out.1 HH.out.2.1 HRr.out.pu.le HCn.out.1).mono ?_
   rintro e w1 ⟨rfl,hp1,t1⟩
   have hpu:y.Put (up d k):=.next HRr.out.pu hk HCn.out
   have HN:Hid (Rw w0 w w1 X (w.heap.size+1) w.heap.size ha hc y cs (up d k)):=HRr.out.touch t1 HH.out.2.2 nX.out.1 nX.out.2 hpu hp1
   have HM:Hid (sumL y.l y.n - sumL (up d k) y.n<gk):=by
    have h2:=qlw (d:=d) hk
    have h3:=qes hpu.le y.n
    have h4:=HG.out
    show sumL y.l y.n - sumL (up d k) y.n<gk
    omega
   clear hp1 t1 hpu h1 HRr HG hz hz'
   generalize up d k=d2 at *
   have h1:=HN.out.hb
   go_wp2_with fail
   refine (qq4 X ha hc hA hC y d2 w1 (HE.out.below HN.out.be) HN.out.hp h4 HH.out.1 HH.out.2.1 HN.out.pu.le).mono ?_
   rintro e w2 ⟨q2,hor⟩
   have HN2:Hid (Rw w0 w w2 X (w.heap.size+1) w.heap.size ha hc y cs d2):=HN.out.touch (qaa.of_below q2) HH.out.2.2 nX.out.1 nX.out.2 HN.out.pu (HN.out.hp.below q2)
   obtain ⟨z,rfl,HOr⟩:∃ z:Int,e=.returned (.int .i64 z)/\Hid ((∃ k,k<y.n/\y.Can d2 k/\z=(k:Nat))\/(z = -1/\∀ p,p<y.n->¬ y.Can d2 p)):=by
    rcases hor with ⟨k,hk,hcan,rfl⟩ | ⟨rfl,hn⟩
    ·exact ⟨_,rfl,.inl ⟨k,hk,hcan,rfl⟩⟩
    ·exact ⟨_,rfl,.inr ⟨rfl,hn⟩⟩
   clear hor q2 h1 HN
   go_wp2
   go_roundg (sumL y.l y.n - sumL d2 y.n)
   case measure=>exact HM.out
   case rel=>exact ⟨d2,z,rfl,rfl,HN2.out,HOr.out⟩
  ·have HRow:Hid (qB (y.All d)=qB y.Row):=by
    show qB (y.All d)=qB y.Row
    have hi:=Hs.row_iff HRr.out.pu HH.out.1 hst
    by_cases hr:y.Row
    ·rw [qaz hr,qaz (hi.1 hr)]
    ·rw [qar hr,qar (fun h=>hr (hi.2 h))]
   have HN:Hid (Rw w0 w wr X (w.heap.size+1) w.heap.size ha hc y cs d):=HRr.out
   clear hst HG HOr HRr
   go_wp2_with fail
   refine (qrl X ha hc hA hC y d wr (HE.out.below HN.out.be) HN.out.hp h4 HH.out.2.1 HN.out.pu.le).mono ?_
   rintro e w2 ⟨rfl,b2⟩
   rw [HRow.out]
   have B2:Hid (Below wr.heap.size wr w2):=b2
   clear b2 h1
   have HB2:Hid (Below w0.heap.size w0 w2/\w2.rangeAt (w.heap.size+1) 0 cs/\w2.there X 4 21/\w2.cell? ⟨w.heap.size,0,none⟩=some (.pointer (some ⟨X,4,none⟩))):=
    ⟨HN.out.be.trans (B2.out.mono HN.out.be.size),qgf (P:=fun _=>False) HN.out.bf (qaa.of_below B2.out) (fun h=>h),(HN.out.hp.below B2.out).thereX,(B2.out.cell (p:=⟨w.heap.size,0,none⟩) (zJ wr _ HN.out.hb)).trans HN.out.hb⟩
   go_wp2
   refine leaves_cons (f:=191) (args:=#[.pointer (some ⟨w.heap.size+1,0,none⟩),.pointer (some ⟨w.heap.size,0,none⟩)]) (by simp) (by simp [go_sem]) ?_
   refine (qya X (w.heap.size+1) w.heap.size w2 cs HL21.out.1 HL21.out.2 HB2.out.2.1 HB2.out.2.2.1 HB2.out.2.2.2 .returning).mono ?_
   rintro e u' w3 ⟨rfl,rfl,t3⟩
   exact ⟨_,results_tmp rfl _ _ _,rfl,HB2.out.1.trans (t3.below HB2.out.1.size fun b e=>by have:=HH.out.2.2;omega)⟩
theorem qwy {d l:Nat->Nat} (h:∀ i,d i<=l i) (n:Nat) (e:sumL d n=sumL l n) (p:Nat) (hp:p<n):d p=l p:=by
 induction n with
 | zero=>omega
 | succ n ih=>
  have h1:=qes h n
  have h2:=h n
  have e':sumL d n+d n=sumL l n+l n:=e
  by_cases hpn:p=n
  ·subst hpn
   omega
  ·exact ih (by omega) (by omega)
structure OrdB (w:World) (D n:Nat) (d:Nat->Nat):Prop where
 c:∀ i,i<n->w.cell? ⟨D,i,none⟩=some (.int .i64 (d i))
 fr:∀ j,w.frozen? ⟨D,j,none⟩=false
theorem OrdB.blk {w w':World} {D n:Nat} {d:Nat->Nat} (h:OrdB w D n d) (hb:w'.heap[D]? = w.heap[D]?):OrdB w' D n d:=⟨fun i hi=>(zH hb).trans (h.c i hi),fun j=>(zI hb).trans (h.fr j)⟩
theorem OrdB.put {w:World} {D n k:Nat} {d:Nat->Nat} (h:OrdB w D n d) (hk:k<n):OrdB (w.setCell ⟨D,k,none⟩ (.int .i64 ((d k:Int)+1))) D n (up d k):=by
 refine ⟨fun i hi=>?_,fun j=>by rw [World.frozen?_setCell];exact h.fr j⟩
 by_cases e:i=k
 ·subst e
  rw [World.cell?_setCell_same' _ _ _ (by rw [h.c i hi];rfl),qeu]
  rfl
 ·rw [World.cell?_setCell_other _ _ _ _ (by intro e';injection e' with _ e';exact e e'.symm),up_other e]
  exact h.c i hi
structure Od (w wr:World) (B D:Nat) (ha:Option Addr) (hc:Nat) (y:Hs) (d:Nat->Nat):Prop where
 pu:y.Put d
 od:OrdB wr D y.n d
 bx:wr.cell? ⟨B,3,none⟩=some (.slice ha y.n hc)
 be:Below w.heap.size w wr
theorem Od.below {w wr w':World} {B D:Nat} {ha:Option Addr} {hc:Nat} {y:Hs} {d:Nat->Nat} (h:Od w wr B D ha hc y d) (hb:Below wr.heap.size wr w') (hD:D<wr.heap.size):Od w w' B D ha hc y d:=
 ⟨h.pu,h.od.blk (hb.block D hD),(hb.cell (p:=⟨B,3,none⟩) (zJ wr _ h.bx)).trans h.bx,h.be.trans (hb.mono h.be.size)⟩
theorem Od.set {w wr:World} {B D k:Nat} {ha:Option Addr} {hc:Nat} {y:Hs} {d:Nat->Nat} (h:Od w wr B D ha hc y d) (hk:k<y.n) (hcan:y.Can d k) (hBD:B≠D) (hw:w.heap.size<=D):Od w (wr.setCell ⟨D,k,none⟩ (.int .i64 ((d k:Int)+1))) B D ha hc y (up d k):=
 ⟨.next h.pu hk hcan,h.od.put hk,(World.cell?_setCell_other _ _ _ _ (by intro e;injection e with e;exact hBD e.symm)).trans h.bx,h.be.setCell hw _⟩
theorem qnf (w:World) (n i:Nat) (hi:i<n):(w.alloc (.cells (madeCells #[.int .i64 0] n) 3)).cell? ⟨w.heap.size,i,none⟩=some (.int .i64 0):=by
 rw [zW _ _ _ i rfl]
 simp [madeCells,hi,Nat.mod_one]
theorem qgg (a:Option Addr) (len cap h:Nat) (hh:h<=cap) (w:World):(Instr.slice 75 (.slice a len cap) none (some (.int .i64 (h:Int))) none).run Tryz.prog w=.ok (.slice a h cap) w:=by
 have hh':(h:Int)<=(cap:Int):=by omega
 cases a with
 | none=>simp [go_sem,sliced,hh']
 | some a=>simp [go_sem,sliced,hh']
theorem qpm (pa:Option Addr) (pn pc:Nat) (sa:Option Addr) (sn sc:Nat) (wa:Option Addr) (wn wc:Nat) (ha:Option Addr) (hc:Nat) (hA:Nat->Option Addr) (hC:Nat->Nat) (y:Hs) (w:World) (hE:HisE w ha hA hC y) (hcap:∀ i,i<y.n->y.l i<=hC i) (h1:1<=y.n) (h4:y.n<=4) (hp:y.Peers) (hl:∀ i,i<y.n->y.l i<=200):
  Calls Tryz.prog 124 #[sysV pa pn pc sa sn sc wa wn wc ha y.n hc] w fun e w'=>e=.returned (.bool (qB y.Row))/\Below w.heap.size w w':=by
 have HE:Hid (HisE w ha hA hC y):=hE
 have HH:Hid (y.Peers/\(∀ i,i<y.n->y.l i<=200)/\(∀ i,i<y.n->y.l i<=hC i)):=⟨hp,hl,hcap⟩
 have hn4:(y.n:Int)<=4:=by omega
 have hmk:∀ wx:World,(Instr.makeSlice 47 (.int .i64 (y.n:Int)) (.int .i64 (y.n:Int))).run Tryz.prog wx=.ok (.slice (some ⟨wx.heap.size,0,none⟩) y.n y.n) (wx.alloc (.cells (madeCells #[.int .i64 0] y.n) 3)):=fun wx=>qcg y.n (by omega) wx
 have HOd:Hid (Od w ((w.alloc (oQ4 pa pn pc sa sn sc wa wn wc ha y.n hc)).alloc (.cells (madeCells #[.int .i64 0] y.n) 3)) w.heap.size (w.heap.size+1) ha hc y (fun _=>0)):=by
  refine ⟨.start,⟨fun i hi=>?_,fun j=>yD _ _ _ _ (by simp)⟩,?_,(zT _ _).trans ((zT _ _).mono (by simp))⟩
  ·have:=qnf (w.alloc (oQ4 pa pn pc sa sn sc wa wn wc ha y.n hc)) y.n i hi
   rw [World.size_alloc] at this
   exact this
  ·exact ((BoxC.new w _ _ _ _ _).below (zT _ _)).2.2.2
 have HD:Hid (w.heap.size+1<((w.alloc (oQ4 pa pn pc sa sn sc wa wn wc ha y.n hc)).alloc (.cells (madeCells #[.int .i64 0] y.n) 3)).heap.size):=by
  show w.heap.size+1<_
  simp
 clear hE hp hl hcap
 go_enter Tryz.func124,Tryz.ntmps124
 go_wp2_with fail
 generalize (w.alloc (oQ4 pa pn pc sa sn sc wa wn wc ha y.n hc)).alloc (.cells (madeCells #[.int .i64 0] y.n) 3)=W1 at *
 generalize hD:w.heap.size+1=D at *
 have HDW:Hid (w.heap.size+1=D):=hD
 clear hmk hD
 go_loopw [6,7] (fun s i wr=>∃ k:Nat,k<=y.n/\i=.int .i64 k/\s=.int .i64 (sumL y.l k:Nat)/\wr=W1) (fun _ i _=>y.n - (intOf i).toNat)
 case atStart=>exact ⟨0,Nat.zero_le _,rfl,rfl,rfl⟩
 case round=>
  obtain ⟨k,hk,rfl,rfl,rfl⟩:=hrel
  have hsum:sumL y.l k<=200*k:=by
   have:∀ j,j<=y.n->sumL y.l j<=200*j:=by
    intro j
    induction j with
    | zero=>exact fun _=>Nat.le_refl _
    | succ j ih=>
     intro hj
     have h5:=ih (by omega)
     have h6:=HH.out.2.1 j (by omega)
     show sumL y.l j+y.l j<=200*(j+1)
     omega
   exact this k hk
  have hsum':((sumL y.l k:Nat):Int)<=1000:=by omega
  have b3:=HOd.out.bx
  by_cases hlt:k<y.n
  ·have hlt':(k:Int)<(y.n:Int):=by omega
   obtain ⟨bh,oh,eh,ch⟩:=(HE.out.below HOd.out.be).row.at hlt
   rw [eh] at b3
   have hl2:(y.l k:Int)<=200:=by have:=HH.out.2.1 k hlt;omega
   clear hsum
   go_wp2
   go_roundw
   case rel=>exact ⟨k+1,by omega,by go_num,by simp only [sumL];congr 1,by first | rfl | trivial⟩
   case measure=>simp [intOf];omega
  ·have hkn:k=y.n:=by omega
   subst hkn
   clear hlt hk hsum b3
   have hlt':¬ ((y.n:Int)<(y.n:Int)):=by omega
   have hsumI:∀ d:Nat->Nat,y.Put d->((sumL y.l y.n:Nat):Int) - ((sumL d y.n:Nat):Int)=((sumL y.l y.n - sumL d y.n:Nat):Int):=fun d hd=>by
    have:=qes hd.le y.n
    omega
   have HSI:Hid (∀ d:Nat->Nat,y.Put d->((sumL y.l y.n:Nat):Int) - ((sumL d y.n:Nat):Int)=((sumL y.l y.n - sumL d y.n:Nat):Int)):=hsumI
   have HSM:Hid (((sumL y.l y.n:Nat):Int)<=1000):=hsum'
   clear hsumI hsum'
   go_wp2_with fail
   go_loopg [5,6] (2*(sumL y.l y.n)+1) (fun gn m s wr=>∃ (t:Bool) (d:Nat->Nat),m=.bool t/\s=.int .i64 ((sumL y.l y.n - sumL d y.n:Nat):Int)/\gn=2*(sumL y.l y.n - sumL d y.n)+(if t=true then 1 else 0)/\Hid (Od w wr w.heap.size D ha hc y d/\D<wr.heap.size/\(t=false->∀ p,p<y.n->¬ y.Can d p)))
   case atStart=>exact ⟨true,fun _=>0,rfl,by rw [qgj];rfl,by rw [qgj];rfl,HOd.out,HD.out,fun h=>by cases h⟩
   case round=>
    clear HOd HD
    obtain ⟨t,d,rfl,rfl,hgn,HI⟩:=hrel
    rcases zK t with rfl | rfl
    ·have HGN:Hid (gk=2*(sumL y.l y.n - sumL d y.n)+1):=hgn
     clear hgn
     go_wp2_with fail
     go_loopw [5,6,8] (fun m s i wr=>∃ (k:Nat) (t':Bool) (d':Nat->Nat),k<=y.n/\i=.int .i64 k/\m=.bool t'/\s=.int .i64 ((sumL y.l y.n - sumL d' y.n:Nat):Int)/\Hid (Od w wr w.heap.size D ha hc y d'/\D<wr.heap.size/\(t'=true->sumL d y.n<sumL d' y.n)/\(t'=false->d'=d/\∀ p,p<k->¬ y.Can d p))) (fun _ _ i _=>y.n - (intOf i).toNat)
     case atStart=>exact ⟨0,false,d,Nat.zero_le _,rfl,rfl,rfl,HI.out.1,HI.out.2.1,(fun h=>by cases h),fun _=>⟨rfl,fun p hp=>by omega⟩⟩
     case round=>
      clear HI
      obtain ⟨k,t',d',hk,rfl,rfl,rfl,HJ⟩:=hrel
      by_cases hlt:k<y.n
      ·have hlt':(k:Int)<(y.n:Int):=by omega
       have hdk:d' k<=y.l k:=HJ.out.1.pu.le k
       have hl2:(y.l k:Int)<=200:=by have:=HH.out.2.1 k hlt;omega
       have dk:=HJ.out.1.od.c k hlt
       have b3:=HJ.out.1.bx
       obtain ⟨bh,oh,eh,ch⟩:=(HE.out.below HJ.out.1.be).row.at hlt
       rw [eh] at b3
       by_cases he:d' k=y.l k
       ·have HNo:Hid (¬ y.Can d' k):=fun h=>by have:=h.1;omega
        have HJ' : ∀ nq, Hid (Od w (wr.drewN nq) w.heap.size D ha hc y d' ∧ D < (wr.drewN nq).heap.size ∧ (t' = true → sumL d y.n < sumL d' y.n) ∧ (t' = false → d' = d ∧ ∀ p, p < k + 1 → ¬ y.Can d p)) := fun nq => ⟨HJ.out.1.below (yE (Below.refl _ _) _) HJ.out.2.1, HJ.out.2.1, HJ.out.2.2.1, fun h => ⟨(HJ.out.2.2.2 h).1, fun p hp => by
         have h5:=HJ.out.2.2.2 h
         by_cases e:p=k
         ·subst e
          rw [<- h5.1]
          exact HNo.out
         ·exact h5.2 p (by omega)⟩⟩
        rw [he] at dk
        have HJQ:Hid (∀ nq,Hid (Od w (wr.drewN nq) w.heap.size D ha hc y d'/\D<(wr.drewN nq).heap.size/\(t'=true->sumL d y.n<sumL d' y.n)/\(t'=false->d'=d/\∀ p,p<k+1->¬ y.Can d p))):=HJ'
        clear HJ HJ' he hdk
        go_wp2_with fail
        go_quiet (fail)
        go_wp2
        go_roundw
        case rel=>exact ⟨k+1,t',d',by omega,by go_num,rfl,rfl,HJQ.out _⟩
        case measure=>simp [intOf];omega
       ·have hkl:d' k<y.l k:=by omega
        have hkl':(d' k:Int)<(y.l k:Int):=by omega
        have hne:((d' k:Int) == (y.l k:Int))=false:=by
         have:¬ (d' k:Int)=(y.l k:Int):=by omega
         simpa using this
        clear he hdk
        go_wp2_with fail
        go_quiet (fail)
        go_wp2_with fail
        have OD:Hid (Od w (wr.drewN nq) w.heap.size D ha hc y d'/\D<(wr.drewN nq).heap.size/\(t'=true->sumL d y.n<sumL d' y.n)/\(t'=false->d'=d/\∀ p,p<k->¬ y.Can d p)):=⟨HJ.out.1.below (yE (Below.refl _ _) _) HJ.out.2.1,HJ.out.2.1,HJ.out.2.2⟩
        clear HJ dk b3 ch
        generalize wr.drewN nq=wd at *
        have dk:=OD.out.1.od.c k hlt
        have b3:=OD.out.1.bx
        obtain ⟨bh',oh',eh',ch⟩:=(HE.out.below OD.out.1.be).row.at hlt
        rw [eh'] at b3
        obtain ⟨b,off,ea,zb,e0,e1,e2⟩:=((HE.out.below OD.out.1.be).ev k hlt).at hkl
        rw [ea] at ch
        have n1:wd.heap.size≠D:=by have:=OD.out.2.1;omega
        have n2:wd.heap.size≠b:=by omega
        have n3:wd.heap.size≠bh':=by have:=zJ wd _ ch;simp at this;omega
        have dk':=qal dk
        have b3':=qal b3
        have ch':=qal ch
        have e0':=qal e0
        have e1':=qal e1
        have e2':=qal e2
        clear zb
        go_region
        all_goals
         have OZ:Hid (Od w (wd.alloc (oQ0 (y.e k (d' k)).k (y.e k (d' k)).q (y.e k (d' k)).v)).drew w.heap.size D ha hc y d'/\D<(wd.alloc (oQ0 (y.e k (d' k)).k (y.e k (d' k)).q (y.e k (d' k)).v)).drew.heap.size/\(t'=true->sumL d y.n<sumL d' y.n)/\(t'=false->d'=d/\∀ p,p<k->¬ y.Can d p)):=⟨OD.out.1.below (zT _ _).drew OD.out.2.1,zL OD.out.2.1 (zT _ _).drew.size,OD.out.2.2⟩
         have z0:(wd.alloc (oQ0 (y.e k (d' k)).k (y.e k (d' k)).q (y.e k (d' k)).v)).drew.cell? ⟨wd.heap.size,0,none⟩=some (.int .i64 (y.e k (d' k)).k):=zW wd _ _ 0 rfl
         have z1:(wd.alloc (oQ0 (y.e k (d' k)).k (y.e k (d' k)).q (y.e k (d' k)).v)).drew.cell? ⟨wd.heap.size,1,none⟩=some (.int .i64 (y.e k (d' k)).q):=zW wd _ _ 1 rfl
         go_wp2_with fail
         clear dk b3 ch e0 e1 e2 dk' b3' ch' e0' e1' e2' n1 n2 n3 OD eh eh' ea
         generalize (wd.alloc (oQ0 (y.e k (d' k)).k (y.e k (d' k)).q (y.e k (d' k)).v)).drew=wz at *
         generalize wd.heap.size=M at *
         rcases zK ((y.e k (d' k)).k == 3) with t3 | t3
         case inr=>
          have HK3:Hid (¬ (y.e k (d' k)).k=3):=by
           show ¬ (y.e k (d' k)).k=3
           simpa using t3
          go_quiet (fail)
          have OQ:Hid (Od w (wz.drewN nq) w.heap.size D ha hc y d'/\D<(wz.drewN nq).heap.size/\(t'=true->sumL d y.n<sumL d' y.n)/\(t'=false->d'=d/\∀ p,p<k->¬ y.Can d p)):=⟨OZ.out.1.below (yE (Below.refl _ _) _) OZ.out.2.1,OZ.out.2.1,OZ.out.2.2⟩
          clear z0 z1 OZ
          generalize wz.drewN nq=wq at *
          have HCn:Hid (y.Can d' k):=⟨hkl,fun h=>absurd h HK3.out⟩
          have HPu:Hid (y.Put (up d' k)):=.next OQ.out.1.pu hlt HCn.out
          have hsu:=qlw (d:=d') hlt
          have hsl:=qes HPu.out.le y.n
          have HLE:Hid (((sumL y.l y.n - sumL d' y.n:Nat):Int) - 1=((sumL y.l y.n - sumL (up d' k) y.n:Nat):Int)):=by
           show ((sumL y.l y.n - sumL d' y.n:Nat):Int) - 1=((sumL y.l y.n - sumL (up d' k) y.n:Nat):Int)
           omega
          have hA1:((sumL y.l y.n - sumL d' y.n:Nat):Int)<=1000:=by have:=HSM.out;omega
          have hA0:(1:Int)<=((sumL y.l y.n - sumL d' y.n:Nat):Int):=by omega
          have HNx : Hid (Od w (wq.setCell ⟨D, k, none⟩ (.int .i64 ((d' k : Int) + 1))) w.heap.size D ha hc y (up d' k) ∧ D < (wq.setCell ⟨D, k, none⟩ (.int .i64 ((d' k : Int) + 1))).heap.size ∧ (true = true → sumL d y.n < sumL (up d' k) y.n) ∧ (true = false → up d' k = d ∧ ∀ p, p < k + 1 → ¬ y.Can d p)) := ⟨OQ.out.1.set hlt HCn.out (by have := HDW.out; omega) (by have := HDW.out; omega), by simpa [World.setCell] using OQ.out.2.1, (fun _ => by
           rcases zK t' with h5 | h5
           ·have:=OQ.out.2.2.1 h5
            omega
           ·have:=(OQ.out.2.2.2 h5).1
            rw [this] at hsu ⊢
            omega),(fun h=>by cases h)⟩
          have dkq:=OQ.out.1.od.c k hlt
          have frq:=OQ.out.1.od.fr
          clear hsu hsl OQ
          generalize hAA:((sumL y.l y.n - sumL d' y.n:Nat):Int)=AA at *
          clear hAA
          go_wp2
          go_roundw
          case rel=>exact ⟨k+1,true,up d' k,by omega,by go_num,rfl,by rw [HLE.out],HNx.out⟩
          case measure=>simp [intOf];omega
         case inl=>
          have hk3:(y.e k (d' k)).k=3:=by simpa using t3
          have HK3:Hid ((y.e k (d' k)).k=3):=hk3
          have hq:=HH.out.1 k hlt (d' k) hkl
          obtain ⟨q,hqe⟩:∃ q:Nat,(y.e k (d' k)).q=(q:Int):=⟨(y.e k (d' k)).q.toNat,by omega⟩
          have HQE:Hid ((y.e k (d' k)).q=(q:Int)):=hqe
          have hqn:q<y.n:=by omega
          have hqn':(q:Int)<(y.n:Int):=by omega
          rw [hk3] at z0
          rw [hqe] at z1
          have dk:=OZ.out.1.od.c k hlt
          have dq:=OZ.out.1.od.c q hqn
          have b3:=OZ.out.1.bx
          obtain ⟨bz,oz,ez,ch⟩:=(HE.out.below OZ.out.1.be).row.at hlt
          obtain ⟨bz',oz',ez',cq⟩:=(HE.out.below OZ.out.1.be).row.at hqn
          rw [ez] at b3 ez'
          simp only [Option.some.injEq,Addr.mk.injEq] at ez'
          obtain ⟨rfl,rfl,-⟩:=ez'
          have ks:=qgg (hA k) (y.l k) (hC k) (d' k) (by have:=HH.out.2.2 k hlt;omega)
          have qs:=qgg (hA q) (y.l q) (hC q) (d' q) (by have:=HH.out.2.2 q hqn;have:=OZ.out.1.pu.le q;omega)
          have HCk:Hid (∀ dd os,Calls Tryz.prog 116 #[.slice (hA k) (d' k) (hC k),.int .i64 3,.int .i64 q] (grow (redrawn wz dd) os) fun e w'=>e=.returned (.int .i64 (cnt (y.e k) 3 q (d' k):Nat))/\Below (grow (redrawn wz dd) os).heap.size (grow (redrawn wz dd) os) w'):=fun dd os=>qc6 (hA k) (d' k) (hC k) (y.e k) 3 q _ (by have:=HH.out.2.1 k hlt;omega) (((HE.out.below OZ.out.1.be).below (below_regrown wz dd os)).ev k hlt |>.take (by omega))
          have HCq:Hid (∀ dd os,Calls Tryz.prog 116 #[.slice (hA q) (d' q) (hC q),.int .i64 2,.int .i64 k] (grow (redrawn wz dd) os) fun e w'=>e=.returned (.int .i64 (cnt (y.e q) 2 k (d' q):Nat))/\Below (grow (redrawn wz dd) os).heap.size (grow (redrawn wz dd) os) w'):=fun dd os=>qc6 (hA q) (d' q) (hC q) (y.e q) 2 k _ (by have:=HH.out.2.1 q hqn;have:=OZ.out.1.pu.le q;omega) (((HE.out.below OZ.out.1.be).below (below_regrown wz dd os)).ev q hqn |>.take (OZ.out.1.pu.le q))
          have z0':=cell_regrown z0
          have z1':=cell_regrown z1
          have dk':=cell_regrown dk
          have dq':=cell_regrown dq
          have b3':=cell_regrown b3
          have ch':=cell_regrown ch
          have cq':=cell_regrown cq
          clear ez hq hqe hk3 t3
          refine wp_region_quiet_below (by kernel_rfl) (by kernel_rfl) ?_
          repeat (quiet_step (first|(go_at_call_of 116 (hA k);exact Calls.regrown_of (HCk.out _ _))|(go_at_call_of 116 (hA q);exact Calls.regrown_of (HCq.out _ _))))
          refine wpQuiet_nil ?_
          intro _ hw'
          obtain ⟨⟨dd,os⟩,hw''⟩:=hw'
          subst hw''
          have OQ:Hid (Od w (grow (redrawn wz dd) os) w.heap.size D ha hc y d'/\D<(grow (redrawn wz dd) os).heap.size/\(t'=true->sumL d y.n<sumL d' y.n)/\(t'=false->d'=d/\∀ p,p<k->¬ y.Can d p)):=⟨OZ.out.1.below (below_regrown wz dd os) OZ.out.2.1,zL OZ.out.2.1 (below_regrown wz dd os).size,OZ.out.2.2⟩
          clear z0' z1' dk' dq' b3' ch' cq' z0 z1 dk dq b3 ch cq ks qs HCk HCq OZ
          generalize grow (redrawn wz dd) os=wq at *
          have HCan:Hid (y.Can d' k ↔ cnt (y.e k) 3 q (d' k)<cnt (y.e q) 2 k (d' q)):=by
           show y.Can d' k ↔ _
           unfold Hs.Can
           rw [HQE.out]
           rw [show ((q:Int)).toNat=q by omega]
           exact ⟨fun h=>h.2 HK3.out,fun h=>⟨hkl,fun _=>h⟩⟩
          generalize cnt (y.e k) 3 q (d' k)=c1 at *
          generalize cnt (y.e q) 2 k (d' q)=c2 at *
          by_cases hcc:(c2:Int)<=(c1:Int)
          ·have HNo:Hid (¬ y.Can d' k):=fun h=>by have:=HCan.out.1 h;omega
           have HJ2 : Hid (Od w wq w.heap.size D ha hc y d' ∧ D < wq.heap.size ∧ (t' = true → sumL d y.n < sumL d' y.n) ∧ (t' = false → d' = d ∧ ∀ p, p < k + 1 → ¬ y.Can d p)) := ⟨OQ.out.1, OQ.out.2.1, OQ.out.2.2.1, fun h => ⟨(OQ.out.2.2.2 h).1, fun p hp => by
            have h5:=OQ.out.2.2.2 h
            by_cases e:p=k
            ·subst e
             rw [<- h5.1]
             exact HNo.out
            ·exact h5.2 p (by omega)⟩⟩
           clear OQ HCan
           go_wp2
           go_roundw
           case rel=>exact ⟨k+1,t',d',by omega,by go_num,rfl,rfl,HJ2.out⟩
           case measure=>simp [intOf];omega
          ·have HCx:Hid (y.Can d' k):=HCan.out.2 (by omega)
           clear HCan
           have HCn:Hid (y.Can d' k):=HCx.out
           have HPu:Hid (y.Put (up d' k)):=.next OQ.out.1.pu hlt HCn.out
           have hsu:=qlw (d:=d') hlt
           have hsl:=qes HPu.out.le y.n
           have HLE:Hid (((sumL y.l y.n - sumL d' y.n:Nat):Int) - 1=((sumL y.l y.n - sumL (up d' k) y.n:Nat):Int)):=by
            show ((sumL y.l y.n - sumL d' y.n:Nat):Int) - 1=((sumL y.l y.n - sumL (up d' k) y.n:Nat):Int)
            omega
           have hA1:((sumL y.l y.n - sumL d' y.n:Nat):Int)<=1000:=by have:=HSM.out;omega
           have hA0:(1:Int)<=((sumL y.l y.n - sumL d' y.n:Nat):Int):=by omega
           have HNx : Hid (Od w (wq.setCell ⟨D, k, none⟩ (.int .i64 ((d' k : Int) + 1))) w.heap.size D ha hc y (up d' k) ∧ D < (wq.setCell ⟨D, k, none⟩ (.int .i64 ((d' k : Int) + 1))).heap.size ∧ (true = true → sumL d y.n < sumL (up d' k) y.n) ∧ (true = false → up d' k = d ∧ ∀ p, p < k + 1 → ¬ y.Can d p)) := ⟨OQ.out.1.set hlt HCn.out (by have := HDW.out; omega) (by have := HDW.out; omega), by simpa [World.setCell] using OQ.out.2.1, (fun _ => by
            rcases zK t' with h5 | h5
            ·have:=OQ.out.2.2.1 h5
             omega
            ·have:=(OQ.out.2.2.2 h5).1
             rw [this] at hsu ⊢
             omega),(fun h=>by cases h)⟩
           have dkq:=OQ.out.1.od.c k hlt
           have frq:=OQ.out.1.od.fr
           clear hsu hsl OQ
           generalize hAA:((sumL y.l y.n - sumL d' y.n:Nat):Int)=AA at *
           clear hAA
           go_wp2
           go_roundw
           case rel=>exact ⟨k+1,true,up d' k,by omega,by go_num,rfl,by rw [HLE.out],HNx.out⟩
           case measure=>simp [intOf];omega
      ·have hkn:k=y.n:=by omega
       subst hkn
       have HF:Hid (2*(sumL y.l y.n - sumL d' y.n)+(if t'=true then 1 else 0)<gk):=by
        have h2:=HGN.out
        have h3:=qes HJ.out.1.pu.le y.n
        show _<gk
        cases t' with
        | true=>
         have h4:=HJ.out.2.2.1 rfl
         simp only [if_true]
         omega
        | false=>
         have h4:=(HJ.out.2.2.2 rfl).1
         rw [h4]
         simp only [Bool.false_eq_true,if_false]
         omega
       have HG2 : Hid (Od w wr w.heap.size D ha hc y d' ∧ D < wr.heap.size ∧ (t' = false → ∀ p, p < y.n → ¬ y.Can d' p)) := ⟨HJ.out.1, HJ.out.2.1, fun h p hp => by
        have:=HJ.out.2.2.2 h
        rw [this.1]
        exact this.2 p hp⟩
       clear HJ
       go_wp2
       go_roundg (2*(sumL y.l y.n - sumL d' y.n)+(if t'=true then 1 else 0))
       case measure=>exact HF.out
       case rel=>exact ⟨t',d',rfl,rfl,rfl,HG2.out⟩
    ·have HR:Hid ((((sumL y.l y.n - sumL d y.n:Nat):Int) == 0)=qB y.Row):=by
      show (((sumL y.l y.n - sumL d y.n:Nat):Int) == 0)=qB y.Row
      have hi:=Hs.row_iff HI.out.1.pu HH.out.1 (HI.out.2.2 rfl)
      have hle:=HI.out.1.pu.le
      by_cases hr:y.Row
      ·have:sumL d y.n=sumL y.l y.n:=qjd fun i hi'=>hi.1 hr i hi'
       rw [qaz hr,this]
       simp
      ·rw [qar hr]
       have:sumL y.l y.n - sumL d y.n≠0:=fun e=>hr (hi.2 (qwy hle _ (by have:=qes hle y.n;omega)))
       have h2:((sumL y.l y.n - sumL d y.n:Nat):Int)≠0:=by omega
       simpa using h2
     have HB:Hid (Below w.heap.size w wr):=HI.out.1.be
     clear HI hgn
     go_wp2
     go_ret
     rw [HR.out]
     exact ⟨rfl,HB.out⟩
theorem qad (w:World) (o:Obj):Below w.heap.size w (w.alloc o):=(Below.refl _ _).alloc (Nat.le_refl _) _
theorem qfb {n:Nat} {ls:Nat->Nat} {N:Nat} (h:sumL ls n<=N):∀ i,i<n->ls i<=N:=fun i hi=>by
 have:=qby ls hi
 omega
theorem SysIn.lens {x:SysIn} (h:x.size<=1048576):(x.pn<=1048576/\sumL x.pL x.pn<=1048576)/\(x.sn<=1048576/\sumL (lenS x.sS) x.sn<=1048576)/\(x.wn<=1048576/\sumL x.wL x.wn<=1048576)/\(x.hn<=1048576/\sumL x.hL x.hn<=1048576):=by
 unfold SysIn.size at h
 omega
theorem SysIn.lensS {x:SysIn} (h:x.size<=1048576):∀ i,i<x.sn->(x.sQ i).rs.length<=1048576/\(x.sQ i).os.length<=1048576:=fun i hi=>by
 have:=qfb (SysIn.lens h).2.1.2 i hi
 have e:lenS x.sS i=(x.sQ i).rs.length+(x.sQ i).os.length:=rfl
 omega
structure TB (w wx:World) (a0 a1 a2 a3 o0 o1 o2 o3:Value):Prop where
 p:BoxC wx w.heap.size a0 a1 a2 a3
 r:BoxC wx (w.heap.size+1) (.slice none 0 0) (.slice none 0 0) (.slice none 0 0) (.slice none 0 0)
 o:BoxC wx (w.heap.size+1+1) o0 o1 o2 o3
 fr:∀ j,wx.frozen? ⟨w.heap.size+1,j,none⟩=false
 fo:∀ j,wx.frozen? ⟨w.heap.size+1+1,j,none⟩=false
 be:Below w.heap.size w wx
 le:w.heap.size+3<=wx.heap.size
theorem TB.below {w wx w':World} {a0 a1 a2 a3 o0 o1 o2 o3:Value} (h:TB w wx a0 a1 a2 a3 o0 o1 o2 o3) (hb:Below wx.heap.size wx w'):TB w w' a0 a1 a2 a3 o0 o1 o2 o3:=
 ⟨h.p.below hb,h.r.below hb,h.o.below hb,fun j=>(hb.frozen (p:=⟨w.heap.size+1,j,none⟩) (by have:=h.le;show w.heap.size+1<_;omega)).trans (h.fr j),fun j=>(hb.frozen (p:=⟨w.heap.size+1+1,j,none⟩) (by have:=h.le;show w.heap.size+1+1<_;omega)).trans (h.fo j),h.be.trans (hb.mono h.be.size),zP h.le hb.size⟩
theorem TB.first {w:World} (a0 a1 a2 a3:Value) (t1 t2:TypeId):TB w (((w.alloc (.cells #[a0,a1,a2,a3] t1)).alloc (.cells #[.slice none 0 0,.slice none 0 0,.slice none 0 0,.slice none 0 0] t2)).alloc (.cells #[.slice none 0 0,.slice none 0 0,.slice none 0 0,.slice none 0 0] t2)) a0 a1 a2 a3 (.slice none 0 0) (.slice none 0 0) (.slice none 0 0) (.slice none 0 0):=by
 have hb1:=qad (w.alloc (.cells #[a0,a1,a2,a3] t1)) (.cells #[.slice none 0 0,.slice none 0 0,.slice none 0 0,.slice none 0 0] t2)
 have hb2:=qad ((w.alloc (.cells #[a0,a1,a2,a3] t1)).alloc (.cells #[.slice none 0 0,.slice none 0 0,.slice none 0 0,.slice none 0 0] t2)) (.cells #[.slice none 0 0,.slice none 0 0,.slice none 0 0,.slice none 0 0] t2)
 have n0:=BoxC.new w a0 a1 a2 a3 t1
 have n1:=BoxC.new (w.alloc (.cells #[a0,a1,a2,a3] t1)) (.slice none 0 0) (.slice none 0 0) (.slice none 0 0) (.slice none 0 0) t2
 have n2:=BoxC.new ((w.alloc (.cells #[a0,a1,a2,a3] t1)).alloc (.cells #[.slice none 0 0,.slice none 0 0,.slice none 0 0,.slice none 0 0] t2)) (.slice none 0 0) (.slice none 0 0) (.slice none 0 0) (.slice none 0 0) t2
 have f1:=fun j=>yD (w.alloc (.cells #[a0,a1,a2,a3] t1)) #[.slice none 0 0,.slice none 0 0,.slice none 0 0,.slice none 0 0] t2 j rfl
 have f2:=fun j=>yD ((w.alloc (.cells #[a0,a1,a2,a3] t1)).alloc (.cells #[.slice none 0 0,.slice none 0 0,.slice none 0 0,.slice none 0 0] t2)) #[.slice none 0 0,.slice none 0 0,.slice none 0 0,.slice none 0 0] t2 j rfl
 simp only [World.size_alloc] at n1 n2 f1 f2
 refine ⟨(n0.below hb1).below hb2,n1.below hb2,n2,fun j=>?_,f2,?_,by simp⟩
 ·exact (hb2.frozen (p:=⟨w.heap.size+1,j,none⟩) (by simp)).trans (f1 j)
 ·exact (((Below.refl _ _).alloc (Nat.le_refl _) _).alloc (by simp) _).alloc (by simp;omega) _
theorem BoxC.setO {w:World} {N M j:Nat} {p a b c u:Value} (h:BoxC w N p a b c) (hne:M≠N):BoxC (w.setCell ⟨M,j,none⟩ u) N p a b c:=by
 obtain ⟨h0,h1,h2,h3⟩:=h
 have hc:∀ i,(w.setCell ⟨M,j,none⟩ u).cell? ⟨N,i,none⟩=w.cell? ⟨N,i,none⟩:=fun i=>World.cell?_setCell_other _ _ _ _ fun e=>hne (by injection e)
 exact ⟨(hc _).trans h0,(hc _).trans h1,(hc _).trans h2,(hc _).trans h3⟩
theorem TB.set0 {w wx:World} {a0 a1 a2 a3 o0 o1 o2 o3:Value} (h:TB w wx a0 a1 a2 a3 o0 o1 o2 o3) (u:Value):TB w (wx.setCell ⟨w.heap.size+1+1,0,none⟩ u) a0 a1 a2 a3 u o1 o2 o3:=by
 obtain ⟨q0,q1,q2,q3⟩:=h.o
 have hc:∀ i,0≠i->(wx.setCell ⟨w.heap.size+1+1,0,none⟩ u).cell? ⟨w.heap.size+1+1,i,none⟩=wx.cell? ⟨w.heap.size+1+1,i,none⟩:=fun i hi=>World.cell?_setCell_other _ _ _ _ fun e=>hi (by injection e)
 exact ⟨h.p.setO (by omega),h.r.setO (by omega),⟨World.cell?_setCell_same _ _ _ q0,(hc _ (by omega)).trans q1,(hc _ (by omega)).trans q2,(hc _ (by omega)).trans q3⟩,fun j=>by rw [World.frozen?_setCell];exact h.fr j,fun j=>by rw [World.frozen?_setCell];exact h.fo j,h.be.setCell (by simp;omega) _,by simp;exact h.le⟩
theorem TB.set1 {w wx:World} {a0 a1 a2 a3 o0 o1 o2 o3:Value} (h:TB w wx a0 a1 a2 a3 o0 o1 o2 o3) (u:Value):TB w (wx.setCell ⟨w.heap.size+1+1,1,none⟩ u) a0 a1 a2 a3 o0 u o2 o3:=by
 obtain ⟨q0,q1,q2,q3⟩:=h.o
 have hc:∀ i,1≠i->(wx.setCell ⟨w.heap.size+1+1,1,none⟩ u).cell? ⟨w.heap.size+1+1,i,none⟩=wx.cell? ⟨w.heap.size+1+1,i,none⟩:=fun i hi=>World.cell?_setCell_other _ _ _ _ fun e=>hi (by injection e)
 exact ⟨h.p.setO (by omega),h.r.setO (by omega),⟨(hc _ (by omega)).trans q0,World.cell?_setCell_same _ _ _ q1,(hc _ (by omega)).trans q2,(hc _ (by omega)).trans q3⟩,fun j=>by rw [World.frozen?_setCell];exact h.fr j,fun j=>by rw [World.frozen?_setCell];exact h.fo j,h.be.setCell (by simp;omega) _,by simp;exact h.le⟩
theorem TB.set2 {w wx:World} {a0 a1 a2 a3 o0 o1 o2 o3:Value} (h:TB w wx a0 a1 a2 a3 o0 o1 o2 o3) (u:Value):TB w (wx.setCell ⟨w.heap.size+1+1,2,none⟩ u) a0 a1 a2 a3 o0 o1 u o3:=by
 obtain ⟨q0,q1,q2,q3⟩:=h.o
 have hc:∀ i,2≠i->(wx.setCell ⟨w.heap.size+1+1,2,none⟩ u).cell? ⟨w.heap.size+1+1,i,none⟩=wx.cell? ⟨w.heap.size+1+1,i,none⟩:=fun i hi=>World.cell?_setCell_other _ _ _ _ fun e=>hi (by injection e)
 exact ⟨h.p.setO (by omega),h.r.setO (by omega),⟨(hc _ (by omega)).trans q0,(hc _ (by omega)).trans q1,World.cell?_setCell_same _ _ _ q2,(hc _ (by omega)).trans q3⟩,fun j=>by rw [World.frozen?_setCell];exact h.fr j,fun j=>by rw [World.frozen?_setCell];exact h.fo j,h.be.setCell (by simp;omega) _,by simp;exact h.le⟩
theorem qbd (x:SysIn) (W w:World) (hs:x.size<=1048576) (hA:x.Ok W) (hW:Below W.heap.size W w):
  Calls Tryz.prog 12 #[sysV x.pa x.pn x.pc x.sa x.sn x.sc x.wa x.wn x.wc x.ha x.hn x.hc] w fun e w'=>∃ v,e=.returned v/\qch w' w.heap.size w'.heap.size x v/\Below w.heap.size w w':=by
 have HA:Hid (x.Ok W):=hA
 have HW:Hid (Below W.heap.size W w):=hW
 have HS:Hid (x.size<=1048576):=hs
 have HWs:Hid (W.heap.size<=w.heap.size):=hW.size
 clear hA hW hs
 go_enter Tryz.func12,Tryz.ntmps12
 have T0:Hid (TB w (((w.alloc (.cells #[.slice x.pa x.pn x.pc,.slice x.sa x.sn x.sc,.slice x.wa x.wn x.wc,.slice x.ha x.hn x.hc] 27)).alloc (zQ2)).alloc (zQ2)) (.slice x.pa x.pn x.pc) (.slice x.sa x.sn x.sc) (.slice x.wa x.wn x.wc) (.slice x.ha x.hn x.hc) (.slice none 0 0) (.slice none 0 0) (.slice none 0 0) (.slice none 0 0)):=TB.first _ _ _ _ _ _
 go_wp2_with fail
 generalize ((w.alloc (.cells #[.slice x.pa x.pn x.pc,.slice x.sa x.sn x.sc,.slice x.wa x.wn x.wc,.slice x.ha x.hn x.hc] 27)).alloc (zQ2)).alloc (zQ2)=wA at *
 refine (qqg _ _ _ _ x.pL _ x.pH W _ (SysIn.lens HS.out).1.1 HA.out.p (HW.out.trans (T0.out.be.mono HWs.out))).mono ?_
 rintro e w1 ⟨rfl,⟨bs1,o1⟩,b1⟩
 have T1:Hid (TB w w1 (.slice x.pa x.pn x.pc) (.slice x.sa x.sn x.sc) (.slice x.wa x.wn x.wc) (.slice x.ha x.hn x.hc) (.slice none 0 0) (.slice none 0 0) (.slice none 0 0) (.slice none 0 0)):=T0.out.below b1
 have O1:Hid (qbm w1 wA.heap.size w1.heap.size x.pn x.pL bs1 x.pH):=o1
 have zA:w.heap.size+3<=wA.heap.size:=T0.out.le
 clear b1 T0 o1
 obtain ⟨⟨p0,p1,p2,p3⟩,-,⟨q0,q1,q2,q3⟩,-,fo,-,le⟩:=T1.out
 go_wp2_with fail
 have T2:Hid (TB w (w1.setCell ⟨w.heap.size+1+1,0,none⟩ (.slice (some ⟨wA.heap.size,0,none⟩) x.pn x.pn)) (.slice x.pa x.pn x.pc) (.slice x.sa x.sn x.sc) (.slice x.wa x.wn x.wc) (.slice x.ha x.hn x.hc) (.slice (some ⟨wA.heap.size,0,none⟩) x.pn x.pn) (.slice none 0 0) (.slice none 0 0) (.slice none 0 0)):=T1.out.set0 _
 have O2:Hid (qbm (w1.setCell ⟨w.heap.size+1+1,0,none⟩ (.slice (some ⟨wA.heap.size,0,none⟩) x.pn x.pn)) wA.heap.size w1.heap.size x.pn x.pL bs1 x.pH):=O1.out.keep (by simp) fun k hk _=>zO _ _ _ _ (by simp;omega)
 have h12:w1.heap.size=(w1.setCell ⟨w.heap.size+1+1,0,none⟩ (.slice (some ⟨wA.heap.size,0,none⟩) x.pn x.pn)).heap.size:=by simp
 have l1:wA.heap.size<w1.heap.size:=O1.out.lt
 clear O1 T1 p0 p1 p2 p3 q0 q1 q2 q3 fo le
 generalize w1.setCell ⟨w.heap.size+1+1,0,none⟩ (.slice (some ⟨wA.heap.size,0,none⟩) x.pn x.pn)=wB at *
 rw [h12] at O2 l1
 clear h12
 refine (qob _ _ _ x.sQ W wB (SysIn.lens HS.out).2.1.1 (SysIn.lensS HS.out) HA.out.s (HW.out.trans (T2.out.be.mono HWs.out))).mono ?_
 rintro e w2 ⟨rfl,⟨vs,o2⟩,b2⟩
 have T3:Hid (TB w w2 (.slice x.pa x.pn x.pc) (.slice x.sa x.sn x.sc) (.slice x.wa x.wn x.wc) (.slice x.ha x.hn x.hc) (.slice (some ⟨wA.heap.size,0,none⟩) x.pn x.pn) (.slice none 0 0) (.slice none 0 0) (.slice none 0 0)):=T2.out.below b2
 have P3:Hid (qbm w2 wA.heap.size wB.heap.size x.pn x.pL bs1 x.pH):=O2.out.below b2 (Nat.le_refl _)
 have S3:Hid (qaw w2 wB.heap.size w2.heap.size x.sn x.sS vs):=o2
 clear b2 T2 o2 O2
 obtain ⟨⟨p0,p1,p2,p3⟩,-,⟨q0,q1,q2,q3⟩,-,fo,-,le⟩:=T3.out
 go_wp2_with fail
 have T4:Hid (TB w (w2.setCell ⟨w.heap.size+1+1,1,none⟩ (.slice (some ⟨wB.heap.size,0,none⟩) x.sn x.sn)) (.slice x.pa x.pn x.pc) (.slice x.sa x.sn x.sc) (.slice x.wa x.wn x.wc) (.slice x.ha x.hn x.hc) (.slice (some ⟨wA.heap.size,0,none⟩) x.pn x.pn) (.slice (some ⟨wB.heap.size,0,none⟩) x.sn x.sn) (.slice none 0 0) (.slice none 0 0)):=T3.out.set1 _
 have P4:Hid (qbm (w2.setCell ⟨w.heap.size+1+1,1,none⟩ (.slice (some ⟨wB.heap.size,0,none⟩) x.sn x.sn)) wA.heap.size wB.heap.size x.pn x.pL bs1 x.pH):=P3.out.keep (by simp) fun k hk _=>zO _ _ _ _ (by simp;omega)
 have S4':Hid (qaw (w2.setCell ⟨w.heap.size+1+1,1,none⟩ (.slice (some ⟨wB.heap.size,0,none⟩) x.sn x.sn)) wB.heap.size w2.heap.size x.sn x.sS vs):=S3.out.keep (by simp) fun k hk _=>zO _ _ _ _ (by simp;omega)
 have h12:w2.heap.size=(w2.setCell ⟨w.heap.size+1+1,1,none⟩ (.slice (some ⟨wB.heap.size,0,none⟩) x.sn x.sn)).heap.size:=by simp
 have l2:wB.heap.size<w2.heap.size:=S3.out.lt
 clear P3 S3 T3 p0 p1 p2 p3 q0 q1 q2 q3 fo le
 generalize w2.setCell ⟨w.heap.size+1+1,1,none⟩ (.slice (some ⟨wB.heap.size,0,none⟩) x.sn x.sn)=wC at *
 rw [h12] at S4' l2
 clear h12
 refine (qn8 _ _ _ _ x.wL _ x.wH W wC (SysIn.lens HS.out).2.2.1.1 HA.out.w (HW.out.trans (T4.out.be.mono HWs.out))).mono ?_
 rintro e w3 ⟨rfl,⟨bs3,o3⟩,b3⟩
 have T5:Hid (TB w w3 (.slice x.pa x.pn x.pc) (.slice x.sa x.sn x.sc) (.slice x.wa x.wn x.wc) (.slice x.ha x.hn x.hc) (.slice (some ⟨wA.heap.size,0,none⟩) x.pn x.pn) (.slice (some ⟨wB.heap.size,0,none⟩) x.sn x.sn) (.slice none 0 0) (.slice none 0 0)):=T4.out.below b3
 have P5:Hid (qbm w3 wA.heap.size wB.heap.size x.pn x.pL bs1 x.pH):=P4.out.below b3 (by omega)
 have S5:Hid (qaw w3 wB.heap.size wC.heap.size x.sn x.sS vs):=S4'.out.below b3 (Nat.le_refl _)
 have W5:Hid (qa6 w3 wC.heap.size w3.heap.size x.wn x.wL bs3 x.wH):=o3
 clear b3 T4 o3 P4 S4'
 obtain ⟨⟨p0,p1,p2,p3⟩,-,⟨q0,q1,q2,q3⟩,-,fo,-,le⟩:=T5.out
 go_wp2_with fail
 have T6:Hid (TB w (w3.setCell ⟨w.heap.size+1+1,2,none⟩ (.slice (some ⟨wC.heap.size,0,none⟩) x.wn x.wn)) (.slice x.pa x.pn x.pc) (.slice x.sa x.sn x.sc) (.slice x.wa x.wn x.wc) (.slice x.ha x.hn x.hc) (.slice (some ⟨wA.heap.size,0,none⟩) x.pn x.pn) (.slice (some ⟨wB.heap.size,0,none⟩) x.sn x.sn) (.slice (some ⟨wC.heap.size,0,none⟩) x.wn x.wn) (.slice none 0 0)):=T5.out.set2 _
 have P6:Hid (qbm (w3.setCell ⟨w.heap.size+1+1,2,none⟩ (.slice (some ⟨wC.heap.size,0,none⟩) x.wn x.wn)) wA.heap.size wB.heap.size x.pn x.pL bs1 x.pH):=P5.out.keep (by simp) fun k hk _=>zO _ _ _ _ (by simp;omega)
 have S6:Hid (qaw (w3.setCell ⟨w.heap.size+1+1,2,none⟩ (.slice (some ⟨wC.heap.size,0,none⟩) x.wn x.wn)) wB.heap.size wC.heap.size x.sn x.sS vs):=S5.out.keep (by simp) fun k hk _=>zO _ _ _ _ (by simp;omega)
 have W6:Hid (qa6 (w3.setCell ⟨w.heap.size+1+1,2,none⟩ (.slice (some ⟨wC.heap.size,0,none⟩) x.wn x.wn)) wC.heap.size w3.heap.size x.wn x.wL bs3 x.wH):=W5.out.keep (by simp) fun k hk _=>zO _ _ _ _ (by simp;omega)
 have h12:w3.heap.size=(w3.setCell ⟨w.heap.size+1+1,2,none⟩ (.slice (some ⟨wC.heap.size,0,none⟩) x.wn x.wn)).heap.size:=by simp
 have l3:wC.heap.size<w3.heap.size:=W5.out.lt
 clear P5 S5 W5 T5 p0 p1 p2 p3 q0 q1 q2 q3 fo le
 generalize w3.setCell ⟨w.heap.size+1+1,2,none⟩ (.slice (some ⟨wC.heap.size,0,none⟩) x.wn x.wn)=wD at *
 rw [h12] at W6 l3
 clear h12
 refine (ql5 _ _ _ _ x.hL _ x.hH W wD (SysIn.lens HS.out).2.2.2.1 HA.out.h (HW.out.trans (T6.out.be.mono HWs.out))).mono ?_
 rintro e w4 ⟨rfl,⟨bs4,o4⟩,b4⟩
 have T7:Hid (TB w w4 (.slice x.pa x.pn x.pc) (.slice x.sa x.sn x.sc) (.slice x.wa x.wn x.wc) (.slice x.ha x.hn x.hc) (.slice (some ⟨wA.heap.size,0,none⟩) x.pn x.pn) (.slice (some ⟨wB.heap.size,0,none⟩) x.sn x.sn) (.slice (some ⟨wC.heap.size,0,none⟩) x.wn x.wn) (.slice none 0 0)):=T6.out.below b4
 have HO:Hid (∀ W9:World,(∀ k,w.heap.size+3<=k->W9.heap[k]? = w4.heap[k]?)->W9.heap.size=w4.heap.size->qch W9 w.heap.size W9.heap.size x (sysV (some ⟨wA.heap.size,0,none⟩) x.pn x.pn (some ⟨wB.heap.size,0,none⟩) x.sn x.sn (some ⟨wC.heap.size,0,none⟩) x.wn x.wn (some ⟨wD.heap.size,0,none⟩) x.hn x.hn)):=by
  intro W9 hk hz
  have o4':qav w4 wD.heap.size W9.heap.size x.hn x.hL bs4 x.hH:=hz ▸ o4
  exact ⟨_,_,_,_,bs1,vs,bs3,bs4,wB.heap.size,wC.heap.size,wD.heap.size,rfl,(P6.out.below b4 (by omega)).keep (by omega) fun k h1 _=>hk k (by omega),(S6.out.below b4 (by omega)).keep (by omega) fun k h1 _=>hk k (by omega),(W6.out.below b4 (Nat.le_refl _)).keep (by omega) fun k h1 _=>hk k (by omega),o4'.keep (by omega) fun k h1 _=>hk k (by omega),by omega,Nat.le_refl _,Nat.le_refl _,Nat.le_refl _⟩
 clear b4 T6 o4 P6 S6 W6
 obtain ⟨-,⟨r0,r1,r2,r3⟩,⟨q0,q1,q2,q3⟩,fr,fo,be,le⟩:=T7.out
 have BE:Hid (Below w.heap.size w w4):=be
 clear be T7
 go_wp2
 refine bodyPost_ret (v:=sysV (some ⟨wA.heap.size,0,none⟩) x.pn x.pn (some ⟨wB.heap.size,0,none⟩) x.sn x.sn (some ⟨wC.heap.size,0,none⟩) x.wn x.wn (some ⟨wD.heap.size,0,none⟩) x.hn x.hn) (by simp [results,Tryz.results12,go_sem,r0,r1,r2,r3]) rfl ⟨_,rfl,HO.out _ ?_ ?_,?_⟩
 ·intro k hk
  repeat (rw [zO _ _ _ _ (by simp;omega)])
 ·simp
 ·have:=BE.out
  go_grown
theorem qex (x:SysIn) (l1 u1 l2 u2:Nat) (v1 v2:Value) (w:World) (hs:x.size<=1048576) (o1:qch w l1 u1 x v1) (o2:qch w l2 u2 x v2):
  Calls Tryz.prog 15 #[v1,v2] w fun e w'=>e=.returned (.bool true)/\Below w.heap.size w w':=by
 obtain ⟨D1,D2,D3,D4,b1,vs,b3,b4,h1,h2,h3,o1⟩:=o1
 obtain ⟨E1,E2,E3,E4,c1,us,c3,c4,g1,g2,g3,o2⟩:=o2
 have HS:Hid (x.size<=1048576):=hs
 obtain ⟨rfl,p1,s1,w1,i1,-,-,-,-⟩:=o1
 obtain ⟨rfl,p2,s2,w2,i2,-,-,-,-⟩:=o2
 have P1:Hid (qbm w D1 h1 x.pn x.pL b1 x.pH):=p1
 have P2:Hid (qbm w E1 g1 x.pn x.pL c1 x.pH):=p2
 have S1:Hid (qaw w D2 h2 x.sn x.sS vs):=s1
 have S2:Hid (qaw w E2 g2 x.sn x.sS us):=s2
 have W1:Hid (qa6 w D3 h3 x.wn x.wL b3 x.wH):=w1
 have W2:Hid (qa6 w E3 g3 x.wn x.wL c3 x.wH):=w2
 have I1:Hid (qav w D4 u1 x.hn x.hL b4 x.hH):=i1
 have I2:Hid (qav w E4 u2 x.hn x.hL c4 x.hH):=i2
 clear p1 p2 s1 s2 w1 w2 i1 i2 hs
 go_enter Tryz.func15,Tryz.ntmps15
 have X0:Hid (BoxC ((w.alloc (oQ4 (some ⟨D1,0,none⟩) x.pn x.pn (some ⟨D2,0,none⟩) x.sn x.sn (some ⟨D3,0,none⟩) x.wn x.wn (some ⟨D4,0,none⟩) x.hn x.hn)).alloc (oQ4 (some ⟨E1,0,none⟩) x.pn x.pn (some ⟨E2,0,none⟩) x.sn x.sn (some ⟨E3,0,none⟩) x.wn x.wn (some ⟨E4,0,none⟩) x.hn x.hn)) w.heap.size (.slice (some ⟨D1,0,none⟩) x.pn x.pn) (.slice (some ⟨D2,0,none⟩) x.sn x.sn) (.slice (some ⟨D3,0,none⟩) x.wn x.wn) (.slice (some ⟨D4,0,none⟩) x.hn x.hn)/\BoxC ((w.alloc (oQ4 (some ⟨D1,0,none⟩) x.pn x.pn (some ⟨D2,0,none⟩) x.sn x.sn (some ⟨D3,0,none⟩) x.wn x.wn (some ⟨D4,0,none⟩) x.hn x.hn)).alloc (oQ4 (some ⟨E1,0,none⟩) x.pn x.pn (some ⟨E2,0,none⟩) x.sn x.sn (some ⟨E3,0,none⟩) x.wn x.wn (some ⟨E4,0,none⟩) x.hn x.hn)) (w.heap.size+1) (.slice (some ⟨E1,0,none⟩) x.pn x.pn) (.slice (some ⟨E2,0,none⟩) x.sn x.sn) (.slice (some ⟨E3,0,none⟩) x.wn x.wn) (.slice (some ⟨E4,0,none⟩) x.hn x.hn)/\Below w.heap.size w ((w.alloc (oQ4 (some ⟨D1,0,none⟩) x.pn x.pn (some ⟨D2,0,none⟩) x.sn x.sn (some ⟨D3,0,none⟩) x.wn x.wn (some ⟨D4,0,none⟩) x.hn x.hn)).alloc (oQ4 (some ⟨E1,0,none⟩) x.pn x.pn (some ⟨E2,0,none⟩) x.sn x.sn (some ⟨E3,0,none⟩) x.wn x.wn (some ⟨E4,0,none⟩) x.hn x.hn))/\w.heap.size+2<=((w.alloc (oQ4 (some ⟨D1,0,none⟩) x.pn x.pn (some ⟨D2,0,none⟩) x.sn x.sn (some ⟨D3,0,none⟩) x.wn x.wn (some ⟨D4,0,none⟩) x.hn x.hn)).alloc (oQ4 (some ⟨E1,0,none⟩) x.pn x.pn (some ⟨E2,0,none⟩) x.sn x.sn (some ⟨E3,0,none⟩) x.wn x.wn (some ⟨E4,0,none⟩) x.hn x.hn)).heap.size):=by
  have n1:=BoxC.new w (.slice (some ⟨D1,0,none⟩) x.pn x.pn) (.slice (some ⟨D2,0,none⟩) x.sn x.sn) (.slice (some ⟨D3,0,none⟩) x.wn x.wn) (.slice (some ⟨D4,0,none⟩) x.hn x.hn) 36
  have n2:=BoxC.new (w.alloc (oQ4 (some ⟨D1,0,none⟩) x.pn x.pn (some ⟨D2,0,none⟩) x.sn x.sn (some ⟨D3,0,none⟩) x.wn x.wn (some ⟨D4,0,none⟩) x.hn x.hn)) (.slice (some ⟨E1,0,none⟩) x.pn x.pn) (.slice (some ⟨E2,0,none⟩) x.sn x.sn) (.slice (some ⟨E3,0,none⟩) x.wn x.wn) (.slice (some ⟨E4,0,none⟩) x.hn x.hn) 36
  simp only [World.size_alloc] at n2
  exact ⟨n1.below (qad _ _),n2,((Below.refl _ _).alloc (Nat.le_refl _) _).alloc (by simp) _,by simp⟩
 go_wp2_with fail
 generalize (w.alloc (oQ4 (some ⟨D1,0,none⟩) x.pn x.pn (some ⟨D2,0,none⟩) x.sn x.sn (some ⟨D3,0,none⟩) x.wn x.wn (some ⟨D4,0,none⟩) x.hn x.hn)).alloc (oQ4 (some ⟨E1,0,none⟩) x.pn x.pn (some ⟨E2,0,none⟩) x.sn x.sn (some ⟨E3,0,none⟩) x.wn x.wn (some ⟨E4,0,none⟩) x.hn x.hn)=wA at *
 refine (qmz D1 h1 E1 g1 x.pn _ _ x.pL b1 c1 x.pH _ (SysIn.lens HS.out).1.1 (qfb (SysIn.lens HS.out).1.2) (P1.out.below X0.out.2.2.1 P1.out.le) (P2.out.below X0.out.2.2.1 P2.out.le)).mono ?_
 rintro e w1 ⟨rfl,b1'⟩
 have X1:Hid (BoxC w1 w.heap.size (.slice (some ⟨D1,0,none⟩) x.pn x.pn) (.slice (some ⟨D2,0,none⟩) x.sn x.sn) (.slice (some ⟨D3,0,none⟩) x.wn x.wn) (.slice (some ⟨D4,0,none⟩) x.hn x.hn)/\BoxC w1 (w.heap.size+1) (.slice (some ⟨E1,0,none⟩) x.pn x.pn) (.slice (some ⟨E2,0,none⟩) x.sn x.sn) (.slice (some ⟨E3,0,none⟩) x.wn x.wn) (.slice (some ⟨E4,0,none⟩) x.hn x.hn)/\Below w.heap.size w w1/\w.heap.size+2<=w1.heap.size):=⟨X0.out.1.below b1',X0.out.2.1.below b1',X0.out.2.2.1.trans (b1'.mono X0.out.2.2.1.size),zP X0.out.2.2.2 b1'.size⟩
 have BE1:Hid (Below w.heap.size w w1):=X1.out.2.2.1
 clear X0 b1'
 obtain ⟨⟨p0,p1,p2,p3⟩,⟨q0,q1,q2,q3⟩,-,le⟩:=X1.out
 go_wp2_with fail
 clear p0 p1 p2 p3 q0 q1 q2 q3 le
 refine (qkw D2 h2 E2 g2 x.sn _ _ x.sS vs us _ (SysIn.lens HS.out).2.1.1 (SysIn.lensS HS.out) (S1.out.below BE1.out S1.out.le) (S2.out.below BE1.out S2.out.le)).mono ?_
 rintro e w2 ⟨rfl,b2'⟩
 have X2:Hid (BoxC w2 w.heap.size (.slice (some ⟨D1,0,none⟩) x.pn x.pn) (.slice (some ⟨D2,0,none⟩) x.sn x.sn) (.slice (some ⟨D3,0,none⟩) x.wn x.wn) (.slice (some ⟨D4,0,none⟩) x.hn x.hn)/\BoxC w2 (w.heap.size+1) (.slice (some ⟨E1,0,none⟩) x.pn x.pn) (.slice (some ⟨E2,0,none⟩) x.sn x.sn) (.slice (some ⟨E3,0,none⟩) x.wn x.wn) (.slice (some ⟨E4,0,none⟩) x.hn x.hn)/\Below w.heap.size w w2/\w.heap.size+2<=w2.heap.size):=⟨X1.out.1.below b2',X1.out.2.1.below b2',X1.out.2.2.1.trans (b2'.mono X1.out.2.2.1.size),zP X1.out.2.2.2 b2'.size⟩
 have BE2:Hid (Below w.heap.size w w2):=X2.out.2.2.1
 clear X1 b2' BE1
 obtain ⟨⟨p0,p1,p2,p3⟩,⟨q0,q1,q2,q3⟩,-,le⟩:=X2.out
 go_wp2_with fail
 clear p0 p1 p2 p3 q0 q1 q2 q3 le
 refine (qkv D3 h3 E3 g3 x.wn _ _ x.wL b3 c3 x.wH _ (SysIn.lens HS.out).2.2.1.1 (qfb (SysIn.lens HS.out).2.2.1.2) (W1.out.below BE2.out W1.out.le) (W2.out.below BE2.out W2.out.le)).mono ?_
 rintro e w3 ⟨rfl,b3'⟩
 have X3:Hid (BoxC w3 w.heap.size (.slice (some ⟨D1,0,none⟩) x.pn x.pn) (.slice (some ⟨D2,0,none⟩) x.sn x.sn) (.slice (some ⟨D3,0,none⟩) x.wn x.wn) (.slice (some ⟨D4,0,none⟩) x.hn x.hn)/\BoxC w3 (w.heap.size+1) (.slice (some ⟨E1,0,none⟩) x.pn x.pn) (.slice (some ⟨E2,0,none⟩) x.sn x.sn) (.slice (some ⟨E3,0,none⟩) x.wn x.wn) (.slice (some ⟨E4,0,none⟩) x.hn x.hn)/\Below w.heap.size w w3/\w.heap.size+2<=w3.heap.size):=⟨X2.out.1.below b3',X2.out.2.1.below b3',X2.out.2.2.1.trans (b3'.mono X2.out.2.2.1.size),zP X2.out.2.2.2 b3'.size⟩
 have BE3:Hid (Below w.heap.size w w3):=X3.out.2.2.1
 clear X2 b3' BE2
 obtain ⟨⟨p0,p1,p2,p3⟩,⟨q0,q1,q2,q3⟩,-,le⟩:=X3.out
 go_wp2_with fail
 clear p0 p1 p2 p3 q0 q1 q2 q3 le
 refine (qjn D4 u1 E4 u2 x.hn _ _ x.hL b4 c4 x.hH _ (SysIn.lens HS.out).2.2.2.1 (qfb (SysIn.lens HS.out).2.2.2.2) (I1.out.below BE3.out I1.out.le) (I2.out.below BE3.out I2.out.le)).mono ?_
 rintro e w4 ⟨rfl,b4'⟩
 have X4:Hid (BoxC w4 w.heap.size (.slice (some ⟨D1,0,none⟩) x.pn x.pn) (.slice (some ⟨D2,0,none⟩) x.sn x.sn) (.slice (some ⟨D3,0,none⟩) x.wn x.wn) (.slice (some ⟨D4,0,none⟩) x.hn x.hn)/\BoxC w4 (w.heap.size+1) (.slice (some ⟨E1,0,none⟩) x.pn x.pn) (.slice (some ⟨E2,0,none⟩) x.sn x.sn) (.slice (some ⟨E3,0,none⟩) x.wn x.wn) (.slice (some ⟨E4,0,none⟩) x.hn x.hn)/\Below w.heap.size w w4/\w.heap.size+2<=w4.heap.size):=⟨X3.out.1.below b4',X3.out.2.1.below b4',X3.out.2.2.1.trans (b4'.mono X3.out.2.2.1.size),zP X3.out.2.2.2 b4'.size⟩
 have BE4:Hid (Below w.heap.size w w4):=X4.out.2.2.1
 clear X3 b4' BE3
 go_wp2
 go_ret
 exact ⟨rfl,BE4.out⟩
structure MkY (w wx:World) (lo hi D1 D2 D3 D4:Nat) (x:SysIn):Prop where
 tch:qaa (fun b=>lo<=b/\b<hi) w wx
 bx:BoxC wx w.heap.size (.slice (some ⟨D1,0,none⟩) x.pn x.pn) (.slice (some ⟨D2,0,none⟩) x.sn x.sn) (.slice (some ⟨D3,0,none⟩) x.wn x.wn) (.slice (some ⟨D4,0,none⟩) x.hn x.hn)
 lt:w.heap.size<wx.heap.size
theorem MkY.step {w wx w':World} {lo hi D1 D2 D3 D4:Nat} {x:SysIn} (h:MkY w wx lo hi D1 D2 D3 D4 x) (hh:hi<=w.heap.size) {P:Nat->Prop} (ht:qaa P wx w') (hp:∀ b,P b->lo<=b/\b<hi):MkY w w' lo hi D1 D2 D3 D4 x:=by
 refine ⟨h.tch.trans (ht.mono hp),?_,zL h.lt ht.size⟩
 obtain ⟨h0,h1,h2,h3⟩:=h.bx
 have hc:∀ i,w'.cell? ⟨w.heap.size,i,none⟩=wx.cell? ⟨w.heap.size,i,none⟩:=fun i=>ht.cell h.lt (fun e=>by have:=hp _ e;omega) i
 exact ⟨(hc _).trans h0,(hc _).trans h1,(hc _).trans h2,(hc _).trans h3⟩
theorem qfj (x:SysIn) (lo hi:Nat) (v:Value) (w:World) (hs:x.size<=1048576) (o:qch w lo hi x v):
  Calls Tryz.prog 17 #[v,.int .i64 1] w fun e w'=>(∃ z:Int,e=.returned (.int .i64 z)/\¬ z<0)/\qaa (fun b=>lo<=b/\b<hi) w w':=by
 obtain ⟨D1,D2,D3,D4,b1,vs,b3,b4,h1,h2,h3,o⟩:=o
 have HS:Hid (x.size<=1048576):=hs
 obtain ⟨q1,q2,q3,q4,-⟩:=o.hi
 have OO:Hid (ql8 w lo hi x v D1 D2 D3 D4 b1 vs b3 b4 h1 h2 h3):=o
 have QQ:Hid (h1<=hi/\h2<=hi/\h3<=hi/\hi<=w.heap.size):=⟨q1,q2,q3,q4⟩
 obtain ⟨rfl,p1,s1,w1,i1,y1,y2,y3,y4⟩:=o
 have Y:Hid (lo<=D1/\h1<=D2/\h2<=D3/\h3<=D4/\D1<h1/\D2<h2/\D3<h3/\D4<hi):=⟨y1,y2,y3,y4,p1.lt,s1.lt,w1.lt,i1.lt⟩
 have P1:Hid (qbm w D1 h1 x.pn x.pL b1 x.pH):=p1
 have S1:Hid (qaw w D2 h2 x.sn x.sS vs):=s1
 have W1:Hid (qa6 w D3 h3 x.wn x.wL b3 x.wH):=w1
 have I1:Hid (qav w D4 hi x.hn x.hL b4 x.hH):=i1
 clear p1 s1 w1 i1 y1 y2 y3 y4 q1 q2 q3 q4 hs OO
 have X0:Hid (MkY w (w.alloc (oQ4 (some ⟨D1,0,none⟩) x.pn x.pn (some ⟨D2,0,none⟩) x.sn x.sn (some ⟨D3,0,none⟩) x.wn x.wn (some ⟨D4,0,none⟩) x.hn x.hn)) lo hi D1 D2 D3 D4 x):=⟨qaa.of_below (qad _ _),BoxC.new w (.slice (some ⟨D1,0,none⟩) x.pn x.pn) (.slice (some ⟨D2,0,none⟩) x.sn x.sn) (.slice (some ⟨D3,0,none⟩) x.wn x.wn) (.slice (some ⟨D4,0,none⟩) x.hn x.hn) 36,by simp⟩
 have BA:Hid (Below w.heap.size w (w.alloc (oQ4 (some ⟨D1,0,none⟩) x.pn x.pn (some ⟨D2,0,none⟩) x.sn x.sn (some ⟨D3,0,none⟩) x.wn x.wn (some ⟨D4,0,none⟩) x.hn x.hn))):=qad _ _
 go_enter Tryz.func17,Tryz.ntmps17
 go_wp2_with fail
 generalize w.alloc (oQ4 (some ⟨D1,0,none⟩) x.pn x.pn (some ⟨D2,0,none⟩) x.sn x.sn (some ⟨D3,0,none⟩) x.wn x.wn (some ⟨D4,0,none⟩) x.hn x.hn)=wA at *
 refine (qf6 D1 h1 x.pn x.pn x.pL b1 x.pH 1 wA (SysIn.lens HS.out).1.1 (SysIn.lens HS.out).1.2 (by omega) (by omega) (P1.out.below BA.out (by have:=QQ.out;omega))).mono ?_
 rintro e w1 ⟨rfl,t1⟩
 have X1:Hid (MkY w w1 lo hi D1 D2 D3 D4 x):=X0.out.step (by have:=QQ.out;omega) t1 fun b hb=>by have:=QQ.out;have:=Y.out;omega
 have KS:Hid (qaw w1 D2 h2 x.sn x.sS vs):=(S1.out.below BA.out (by have:=QQ.out;omega)).keep t1.size fun k hk1 hk2=>t1.block k (by have:=BA.out.size;have:=QQ.out;omega) (fun e=>by have:=Y.out;omega)
 have KW:Hid (qa6 w1 D3 h3 x.wn x.wL b3 x.wH):=(W1.out.below BA.out (by have:=QQ.out;omega)).keep t1.size fun k hk1 hk2=>t1.block k (by have:=BA.out.size;have:=QQ.out;omega) (fun e=>by have:=Y.out;omega)
 have KI:Hid (qav w1 D4 hi x.hn x.hL b4 x.hH):=(I1.out.below BA.out (by have:=QQ.out;omega)).keep t1.size fun k hk1 hk2=>t1.block k (by have:=BA.out.size;have:=QQ.out;omega) (fun e=>by have:=Y.out;omega)
 have z1:0<=(1:Int)+5*(sumL x.pL x.pn:Nat)/\(1:Int)+5*(sumL x.pL x.pn:Nat)<=6000000:=by have:=(SysIn.lens HS.out).1.2;omega
 generalize (1:Int)+5*(sumL x.pL x.pn:Nat)=Z1 at *
 have HZ1:Hid (0<=Z1/\Z1<=6000000):=z1
 clear t1 X0 P1 S1 W1 I1 BA z1
 obtain ⟨-,⟨p0,p1,p2,p3⟩,lt⟩:=X1.out
 go_wp2_with fail
 clear p0 p1 p2 p3 lt
 refine (qe7 D2 h2 x.sn x.sn x.sS vs Z1 w1 (SysIn.lens HS.out).2.1.1 (SysIn.lens HS.out).2.1.2 HZ1.out.1 (by have:=HZ1.out;omega) KS.out).mono ?_
 rintro e w2 ⟨rfl,t2⟩
 have X2:Hid (MkY w w2 lo hi D1 D2 D3 D4 x):=X1.out.step (by have:=QQ.out;omega) t2 fun b hb=>by have:=QQ.out;have:=Y.out;omega
 have KW2:Hid (qa6 w2 D3 h3 x.wn x.wL b3 x.wH):=KW.out.keep t2.size fun k hk1 hk2=>t2.block k (zL hk2 KW.out.le) (fun e=>by have:=Y.out;omega)
 have KI2:Hid (qav w2 D4 hi x.hn x.hL b4 x.hH):=KI.out.keep t2.size fun k hk1 hk2=>t2.block k (zL hk2 KI.out.le) (fun e=>by have:=Y.out;omega)
 have z2:0<=Z1+(2*x.sn+sumL (lenS x.sS) x.sn:Nat)/\Z1+(2*x.sn+sumL (lenS x.sS) x.sn:Nat)<=12000000:=by have:=(SysIn.lens HS.out).2.1;have:=HZ1.out;omega
 generalize Z1+(2*x.sn+sumL (lenS x.sS) x.sn:Nat)=Z2 at *
 have HZ2:Hid (0<=Z2/\Z2<=12000000):=z2
 clear t2 X1 KS KW KI z2 HZ1
 obtain ⟨-,⟨p0,p1,p2,p3⟩,lt⟩:=X2.out
 go_wp2_with fail
 clear p0 p1 p2 p3 lt
 refine (qe6 D3 h3 x.wn x.wn x.wL b3 x.wH Z2 w2 (SysIn.lens HS.out).2.2.1.1 (SysIn.lens HS.out).2.2.1.2 HZ2.out.1 (by have:=HZ2.out;omega) KW2.out).mono ?_
 rintro e w3 ⟨rfl,t3⟩
 have X3:Hid (MkY w w3 lo hi D1 D2 D3 D4 x):=X2.out.step (by have:=QQ.out;omega) t3 fun b hb=>by have:=QQ.out;have:=Y.out;omega
 have KI3:Hid (qav w3 D4 hi x.hn x.hL b4 x.hH):=KI2.out.keep t3.size fun k hk1 hk2=>t3.block k (zL hk2 KI2.out.le) (fun e=>by have:=Y.out;omega)
 have z3:0<=Z2+2*(sumL x.wL x.wn:Nat)/\Z2+2*(sumL x.wL x.wn:Nat)<=18000000:=by have:=(SysIn.lens HS.out).2.2.1;have:=HZ2.out;omega
 generalize Z2+2*(sumL x.wL x.wn:Nat)=Z3 at *
 have HZ3:Hid (0<=Z3/\Z3<=18000000):=z3
 clear t3 X2 KW2 KI2 z3 HZ2
 obtain ⟨-,⟨p0,p1,p2,p3⟩,lt⟩:=X3.out
 go_wp2_with fail
 clear p0 p1 p2 p3 lt
 refine (qeg D4 hi x.hn x.hn x.hL b4 x.hH Z3 w3 (SysIn.lens HS.out).2.2.2.1 (SysIn.lens HS.out).2.2.2.2 HZ3.out.1 (by have:=HZ3.out;omega) KI3.out).mono ?_
 rintro e w4 ⟨rfl,t4⟩
 have X4:Hid (MkY w w4 lo hi D1 D2 D3 D4 x):=X3.out.step (by have:=QQ.out;omega) t4 fun b hb=>by have:=QQ.out;have:=Y.out;omega
 have HZ4:Hid (¬ Z3+3*(sumL x.hL x.hn:Nat)<0):=by
  show ¬ Z3+3*(sumL x.hL x.hn:Nat)<0
  have:=HZ3.out
  omega
 generalize Z3+3*(sumL x.hL x.hn:Nat)=Z4 at *
 clear t4 X3 KI3 HZ3
 go_wp2
 go_ret
 exact ⟨⟨_,rfl,HZ4.out⟩,X4.out.tch⟩
theorem qul {H:Type} {enc:TypeId × Value->H} {w:World} {base b0:Nat} {held:Bool} {rc:Reach} {v:Value} {d:DataW H} {p:List MemPlace}
  (hv:Value.okWide Tryz.prog w rc b0 27 v) (h:DataW.Trod enc Tryz.prog w base (fun _=>true) held 27 v d p):
  ∃ x:SysIn,v=sysV x.pa x.pn x.pc x.sa x.sn x.sc x.wa x.wn x.wc x.ha x.hn x.hc/\x.Row w/\x.Max/\(x.size<=1048576->∃ y:SysIn,v=sysV y.pa y.pn y.pc y.sa y.sn y.sc y.wa y.wn y.wc y.ha y.hn y.hc/\y.Ok w/\y.size=x.size):=by
 obtain ⟨cs,rfl,hsz⟩:=okWide_struct Tryz.underlying27 hv
 have h4:Tryz.prog.cellsOf 27=4:=by kernel_rfl
 obtain ⟨c0,c1,c2,c3,rfl⟩:=qyh (hsz.trans h4)
 obtain ⟨fuel,hf⟩:=h
 have hf':DataW.trod enc Tryz.prog w base (fun _=>true) held fuel 27 [c0,c1,c2,c3]=some (d,p):=by simpa [Value.cells] using hf
 obtain ⟨xs,m,-,-,-,hl,hx⟩:=DataW.trod_struct Tryz.underlying27 hf'
 have hl:xs.length=4:=hl
 have k0:Tryz.prog.cellsOf 22=1:=by kernel_rfl
 have k1:Tryz.prog.cellsOf 23=1:=by kernel_rfl
 have k2:Tryz.prog.cellsOf 24=1:=by kernel_rfl
 have k3:Tryz.prog.cellsOf 25=1:=by kernel_rfl
 have q0:DataW.trod enc Tryz.prog w base (fun _=>true) held m 22 [c0]=xs[0]?:=by simpa [k0] using hx 0 _ rfl
 have q1:DataW.trod enc Tryz.prog w base (fun _=>true) held m 23 [c1]=xs[1]?:=by simpa [k1] using hx 1 _ rfl
 have q2:DataW.trod enc Tryz.prog w base (fun _=>true) held m 24 [c2]=xs[2]?:=by simpa [k2] using hx 2 _ rfl
 have q3:DataW.trod enc Tryz.prog w base (fun _=>true) held m 25 [c3]=xs[3]?:=by simpa [k3] using hx 3 _ rfl
 rw [List.getElem?_eq_getElem (by omega)] at q0 q1 q2 q3
 have sl:∀ {t el:TypeId} {c:Value} {y:DataW H × List MemPlace},Tryz.prog.underlying t=some (.slice el)->DataW.trod enc Tryz.prog w base (fun _=>true) held m t [c]=some y->∃ a l k,c=.slice a l k:=by
  intro t el c y hu hy
  rcases Go.Deep.open_slice hu hy with ⟨hcs,_⟩ | ⟨a,len',cap',m,n,D,Pl,hcs,_⟩
  ·simp at hcs
   exact ⟨_,_,_,hcs⟩
  ·simp at hcs
   exact ⟨_,_,_,hcs⟩
 obtain ⟨pa,pn,pc,rfl⟩:=sl Tryz.underlying22 q0
 obtain ⟨sa,sn,sc,rfl⟩:=sl Tryz.underlying23 q1
 obtain ⟨wa,wn,wc,rfl⟩:=sl Tryz.underlying24 q2
 obtain ⟨ha,hn,hc,rfl⟩:=sl Tryz.underlying25 q3
 obtain ⟨m0,pA,pL,pC,r0,x0,g0⟩:=qst (d:=(xs[0]'(by omega)).1) (p:=(xs[0]'(by omega)).2) ⟨m,by simpa [Value.cells] using q0⟩
 obtain ⟨m1,sQ,r1,x1⟩:=qpr (d:=(xs[1]'(by omega)).1) (p:=(xs[1]'(by omega)).2) ⟨m,by simpa [Value.cells] using q1⟩
 obtain ⟨m2,wA,wL,wC,r2,x2,g2⟩:=qpq (d:=(xs[2]'(by omega)).1) (p:=(xs[2]'(by omega)).2) ⟨m,by simpa [Value.cells] using q2⟩
 obtain ⟨m3,hA,hL,hC,r3,x3,g3⟩:=qnm (d:=(xs[3]'(by omega)).1) (p:=(xs[3]'(by omega)).2) ⟨m,by simpa [Value.cells] using q3⟩
 refine ⟨⟨pa,pn,pc,pA,pL,pC,fun _ _=>⟨0,0,0,0,0⟩,sa,sn,sc,sQ,wa,wn,wc,wA,wL,wC,fun _ _=>⟨false,0⟩,ha,hn,hc,hA,hL,hC,fun _ _=>⟨0,0,0⟩⟩,rfl,⟨r0,r1,r2,r3⟩,⟨⟨m0,x0⟩,⟨m1,x1⟩,⟨m2,x2⟩,⟨m3,x3⟩⟩,fun hs=>?_⟩
 have hl:=SysIn.lens hs
 obtain ⟨pH,a0⟩:=g0 (qfb hl.1.2)
 obtain ⟨wH,a2⟩:=g2 (qfb hl.2.2.1.2)
 obtain ⟨hH,a3⟩:=g3 (qfb hl.2.2.2.2)
 exact ⟨⟨pa,pn,pc,pA,pL,pC,pH,sa,sn,sc,sQ,wa,wn,wc,wA,wL,wC,wH,ha,hn,hc,hA,hL,hC,hH⟩,rfl,⟨a0,r1,a2,a3⟩,rfl⟩
theorem qia {H:Type} {enc:TypeId × Value->H} {w:World} {base b0:Nat} {held:Bool} {rc:Reach} {v:Value} {d:DataW H} {p:List MemPlace}
  (hv:Value.okWide Tryz.prog w rc b0 27 v) (h:DataW.Trod enc Tryz.prog w base (fun _=>true) held 27 v d p):
  ∃ x:SysIn,v=sysV x.pa x.pn x.pc x.sa x.sn x.sc x.wa x.wn x.wc x.ha x.hn x.hc/\x.Row w/\x.Max/\(x.size<=1048576->∃ y:SysIn,v=sysV y.pa y.pn y.pc y.sa y.sn y.sc y.wa y.wn y.wc y.ha y.hn y.hc/\y.Ok w/\y.size<=1048576):=by
 obtain ⟨x,e,hr,hm,hy⟩:=qul hv h
 refine ⟨x,e,hr,hm,fun hs=>?_⟩
 obtain ⟨y,ey,ho,hz⟩:=hy hs
 exact ⟨y,ey,ho,hz ▸ hs⟩
