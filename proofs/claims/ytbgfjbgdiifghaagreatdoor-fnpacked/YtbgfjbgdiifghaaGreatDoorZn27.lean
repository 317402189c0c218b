import Derived.Test.YtbgfjbgdiifghaaGreatDoorZn19
namespace Go.Proofs.YtbgfjbgdiifghaaGreatDoor
open Go.Proofs.Tryz
set_option maxRecDepth 100000
set_option maxHeartbeats 4000000
open Go.ChangeShapes Go.WideShapes Go.ChangeAt Go.RowKit Go.Deep
def Sy.atK (y:Sy) (d:Nat->Nat) (ks:Nat) (WL:Nat->Nat):Sy:={ y.atY d with sn:=ks,hn:=ks,wL:=WL }
def wlN (F:Nat->Nat) (m i:Nat):Nat->Nat:=fun q=>if q<m then F q else if q=m then i else 0
theorem qv3 (F:Nat->Nat):wlN F 0 0=fun _=>0:=funext fun q=>by
 unfold wlN;rw [nB (by omega)]
 split <;> rfl
theorem qzd (F:Nat->Nat) (m i:Nat):(fun j=>if j=m then i+1 else wlN F m i j)=wlN F m (i+1):=funext fun q=>by
 unfold wlN;by_cases h:q=m
 ·rw [nC h,nB (by omega),nC h]
 ·rw [nB h,nB h,nB h]
theorem qv2 (F:Nat->Nat) (m:Nat):wlN F m (F m)=wlN F (m+1) 0:=funext fun q=>by
 unfold wlN;by_cases h:q<m
 ·rw [nC h,nC (by omega)]
 ·rw [nB h]
  by_cases h2:q=m
  ·rw [nC h2,nC (by omega),h2]
  ·rw [nB h2,nB (by omega)]
   split <;> rfl
theorem qwy (F:Nat->Nat) (m i:Nat):wlN F m i m=i:=by
 unfold wlN;rw [nB (Nat.lt_irrefl _),nC rfl]
theorem LL.cellG {z:Bool} {e:TypeId} {sz:Nat} {E:TypeId} {w:World} {P:Nat->Prop} {n:Nat} {u:Nat->Value} {L:Nat->Nat} {c:Nat->List Value} {g cap:Nat} (o:LL z e sz E w P (sG g n cap) n u L c) {i:Nat} (hi:i<n):w.cell? ⟨g,i,none⟩=some (u i)/\P g/\g<w.heap.size/\∀ j,w.frozen? ⟨g,j,none⟩=false:=by
 obtain ⟨g',cap',e,h1,h2,h3,h4⟩:=o.cell hi;simp only [Value.slice.injEq,nG,Addr.mk.injEq] at e;obtain ⟨⟨rfl,-,-⟩,-,-⟩:=e;exact ⟨h3,h1,h2,h4⟩
theorem qrx {w:World} {B:Nat} {u:Value} {n:Nat} {g:Nat->E3} (o:w.ownsRow B 49 3 u n (fE g n)):∃ a cap,u=.slice a n cap/\EvL w a n g:=by
 by_cases h:u=nS
 ·subst h
  rcases o.2 with ⟨-,h0⟩ | ⟨g,cap,cur,e,-⟩
  ·subst h0
   exact ⟨none,0,rfl,.inl rfl⟩
  ·cases e
 ·obtain ⟨b,cap,e,hl,he,-⟩:=atE o h
  exact ⟨_,cap,e,.inr ⟨b,0,rfl,hl,he⟩⟩
theorem quj (y:Sy) (d:Nat->Nat) (ks m i:Nat) (F:Nat->Nat):(y.atK d ks (wlN F m i)).setW m (i+1) ((y.atY d).wH m)=y.atK d ks (wlN F m (i+1)):=by
 have e:(fun j=>if j=m then (y.atY d).wH m else (y.atY d).wH j)=(y.atY d).wH:=funext fun j=>by
  split
  ·rename_i h
   rw [h]
  ·rfl
 show { y.atK d ks (wlN F m i) with wL:=fun j=>if j=m then i+1 else wlN F m i j,wH:=fun j=>if j=m then (y.atY d).wH m else (y.atY d).wH j }=_;rw [qzd,e];rfl
theorem qui {w:World} {P:Nat->Prop} {v:Value} {n:Nat} {u:Nat->Value} {F:Nat->Nat} {H:Nat->Nat->I2} {z:Bool} (o:LT z w P v n u (wlN F n 0) H):LT z w P v n u F H:=by
 have e:∀ i,i<n->wlN F n 0 i=F i:=fun i hi=>by
  unfold wlN;rw [nC hi]
 refine ⟨o.row,fun i hi=>?_,o.rb,o.ob,o.ra,o.oa,o.nn⟩;have:=o.own i hi;rw [e i hi] at this;exact this
theorem qu2 (x:SysIn) (ca:Option Addr) (cc:Nat) (c:List Int) (w:World) (hG:SysG w x) (hL:x.Len) (hcap:∀ i,i<x.hn->x.hL i<=x.hC i) (hln:c.length=x.pn) (h1:1<=x.pn) (h4:x.pn<=4) (hhn:x.hn=x.pn) (hC:∀ k,k<x.pn->zi c k=(cN c k:Nat)/\cN c k<=x.hL k) (hc:Sl w ca c):
  Calls prog 35 #[x.v,.slice ca c.length cc] w fun e w'=>∃ v,e=.returned (.tuple #[v,.bool (wfB (x.y.ah (cN c)))])/\qan false w' w.heap.size (x.y.atW (cN c)) v/\Bw w w':=by
 have HN:Hid (c.length=x.pn/\x.hn=x.pn/\x.pn<=4/\1<=x.pn):=⟨hln,hhn,h4,h1⟩
 have HCK:Hid (∀ k,k<x.pn->zi c k=(cN c k:Nat)/\cN c k<=x.hC k/\cN c k<=x.hL k/\x.hL k<=1048576):=fun k hk=>⟨(hC k hk).1,zP (hC k hk).2 (hcap k (by omega)),(hC k hk).2,hL.h.2 k (by omega)⟩
 have HG:Hid (SysG w x):=hG;have HQ:Hid (Sl w ca c):=hc
 have HP : Hid (∀ wx, Below w.heap.size w wx → Calls prog 69 #[.slice x.pa x.pn x.pc] wx fun e w' => ∃ v u, e = .returned v ∧ LI true w' (fun k => wx.heap.size ≤ k ∧ k < w'.heap.size) v x.pn u x.pL x.pH ∧ Below wx.heap.size wx w') := fun wx hb => qfx x.pa x.pn x.pc x.pA x.pL x.pC x.pH wx hL.p.1 hL.p.2 (HG.bw hb).p (fun i hi => by
  obtain ⟨b,e,hlt,hI⟩:=(HG.bw hb).pi i hi;rw [e]
  exact srcI hlt hI)
 have HR:Hid (∀ wx,Bw w wx->∀ p,p<x.pn->∀ ea ec,EvL wx ea (cN c p) (x.hH p)->Calls prog 50 #[.slice (x.pA p) (x.pL p) (x.pC p),.slice ea (cN c p) ec] wx (qc2 wx ((x.y.atY (cN c)).sS p) (repO (x.pH p) (x.pL p) (x.hH p) (cN c p)).isSome)):=fun wx hb p hp ea ec he=>by
  obtain ⟨b,e,hlt,hI⟩:=(HG.bw hb).pi p hp;rw [e];exact qhf b (x.pL p) (x.pC p) ea (cN c p) ec (x.pH p) (x.hH p) wx (by have:=hL.p.2 p hp;unfold maxLen;omega) hlt hI he (by have:=HCK.out p hp;omega)
 have BW:Hid (Bw w ((w.alloc (x.oX)).alloc (zQ3))):=(zQ _ _).trans ((zQ _ _).mono (by simp));have NB:Hid (x.bX ((w.alloc (x.oX)).alloc (zQ3)) w.heap.size):=(BoxC.new w _ _ _ _ _).bw (zQ _ _);have RB:Hid (BoxC ((w.alloc (x.oX)).alloc (zQ3)) (w.heap.size+1) nS nS nS nS/\∀ j,((w.alloc (x.oX)).alloc (zQ3)).frozen? ⟨w.heap.size+1,j,none⟩=false):=⟨⟨zW _ _ _ 0 (by simp),zW _ _ _ 1 (by simp),zW _ _ _ 2 (by simp),zW _ _ _ 3 (by simp)⟩,fun j=>yB _ _ _ _ (by simp)⟩
 have hM:w.heap.size<=w.heap.size+1:=nK _;obtain ⟨NN,hNN⟩:∃ NN,NN=x.pn*x.pn:=⟨_,rfl⟩
 have HNN:Hid (NN=x.pn*x.pn):=hNN;have hm0:(x.pn:Int)*(x.pn:Int)=(NN:Int):=by rw [hNN];simp
 have h16:NN<=16:=by rw [hNN];exact zP (Nat.mul_le_mul h4 h4) (by omega)
 have h16':(NN:Int)<=16:=by omega
 have hn4:(x.pn:Int)<=4:=by omega
 have HYW:Hid (x.y.atW (cN c)=if wfB (x.y.ah (cN c))=true then x.y.atY (cN c) else x.y.nil):=rfl;have HWF:Hid (wfB (x.y.ah (cN c))=qB (∀ a,a<x.pn->∀ b,b<x.pn->(wyL (x.y.ah (cN c)) a b).length<=12)):=rfl;generalize x.y.atW (cN c)=YW at *;generalize wfB (x.y.ah (cN c))=wf at *;clear hG hL hcap hC hc hNN hln hhn
 go_enter func35,ntmps35
 go_upto_region 1 with fail
 generalize (w.alloc (x.oX)).alloc (zQ3)=W2 at *;obtain ⟨b0,b1,b2,b3⟩:=NB.out;go_upto_region 2 with fail
 have lW:w.heap.size<W2.heap.size:=zJ _ _ b0;have HB0:Hid (∀ wx,Bw W2 wx->wx.cell? ⟨w.heap.size,0,none⟩=some (.slice x.pa x.pn x.pc)):=fun wx hb=>(hb.cell (p:=⟨w.heap.size,0,none⟩) lW).trans b0;have F0:Hid (NwF W2 x.pn x.pL x.pH false false false false undef undef undef undef W2.drew):=⟨(nE _ _).drew,fun _=>0,(fun e=>by cases e),(fun e=>by cases e),(fun e=>by cases e),(fun e=>by cases e)⟩
 refine qag (fun w'=>w'.cell? (aQ w.heap.size 0)=some (.slice x.pa x.pn x.pc)) (fun i=>i == 9) (by kernel_rfl) ?_;have hHeld:(fun w':World=>w'.cell? (aQ w.heap.size 0)=some (.slice x.pa x.pn x.pc)) W2.drew:=HB0.out _ F0.be;refine qbb [0,1,3,4] ?_;iterate 4 (refine qbr rfl hHeld ?_)
 refine qa2 ?_;refine qch 5 rfl hHeld ⟨iV (NN:Int),fun wq _=>?_,?_⟩
 ·go_simp
  rw [IntKind.wrap_i64];omega
 (try simp only [Act.put,zD,zE,zF])
 refine qpz 5 #[true,true,false,true,true,true,false,false,false,false] (by kernel_rfl) (by kernel_rfl) ?_;clear b0 b1 b2 b3;refine qud (fun b c d e=>#[true,true,b,true,true,true,c,e,d,false]) 2 6 8 7 (fun b d e y wq=>∃ v1 v2 v4,y=⟨#[x.v,.slice ca c.length cc,.pointer (some (aQ w.heap.size 0)),undef,.pointer (some ⟨w.heap.size+1,0,none⟩),.bool false,iV x.pn,v4,undef,undef,undef,undef,undef,undef,undef,undef,undef,.pointer (some (aQ w.heap.size 0)),.slice x.pa x.pn x.pc,iV x.pn,.pointer (some (aQ w.heap.size 0)),.slice x.pa x.pn x.pc,v1,iV x.pn,iV x.pn,iV NN,v2,undef,undef,undef,undef,undef,undef,undef,undef,undef,undef,undef,undef,undef,undef,undef,undef,undef,undef,undef,undef,undef,undef,undef,undef,undef,undef,undef,undef,undef,undef,undef,undef,undef,undef,undef,undef,undef,undef,undef,undef,undef,undef,undef,undef,undef,undef,undef,undef,undef,undef,undef,undef,undef,undef,undef,undef,undef,undef,undef,undef,undef,undef,undef,undef,undef,undef,undef,undef,undef,undef,undef,undef,undef,undef,undef,undef,undef,undef,undef,undef,undef,undef,undef,undef,undef,undef,undef,undef,undef,undef,undef,undef,undef,undef,undef,undef,undef,undef,undef,undef,undef,undef],[]⟩/\NwF W2 x.pn x.pL x.pH b d false e v1 v2 undef v4 wq) (fun e y wq=>∃ a1 c1 a2 c2 v4,y=⟨#[x.v,.slice ca c.length cc,.pointer (some (aQ w.heap.size 0)),undef,.pointer (some ⟨w.heap.size+1,0,none⟩),.bool false,iV x.pn,v4,undef,undef,undef,undef,undef,undef,undef,undef,undef,.pointer (some (aQ w.heap.size 0)),.slice x.pa x.pn x.pc,iV x.pn,.pointer (some (aQ w.heap.size 0)),.slice x.pa x.pn x.pc,.slice a1 x.pn c1,iV x.pn,iV x.pn,iV NN,.slice a2 (x.pn*x.pn) c2,.agg #[.slice a1 x.pn c1,nS,.slice a2 (x.pn*x.pn) c2,nS],undef,undef,undef,undef,undef,undef,undef,undef,undef,undef,undef,undef,undef,undef,undef,undef,undef,undef,undef,undef,undef,undef,undef,undef,undef,undef,undef,undef,undef,undef,undef,undef,undef,undef,undef,undef,undef,undef,undef,undef,undef,undef,undef,undef,undef,undef,undef,undef,undef,undef,undef,undef,undef,undef,undef,undef,undef,undef,undef,undef,undef,undef,undef,undef,undef,undef,undef,undef,undef,undef,undef,undef,undef,undef,undef,undef,undef,undef,undef,undef,undef,undef,undef,undef,undef,undef,undef,undef,undef,undef,undef,undef,undef,undef,undef,undef,undef,undef,undef,undef,undef],[]⟩/\NwF W2 x.pn x.pL x.pH true true false e (.slice a1 x.pn c1) (.slice a2 (x.pn*x.pn) c2) undef v4 wq) (f0:=1) ?_ (fun _ _=>rfl) (fun _ _=>rfl) (fun _ _ _=>rfl) (fun _=>rfl) rfl (by kernel_rfl) (fun d=>by cases d <;> kernel_rfl) (fun d=>by cases d <;> kernel_rfl) (by kernel_rfl) (fun _ _ _ _ h=>h) ?_ ?_ ?_ ?_ ?_ ?_ 3 false false false _ _ rfl ⟨_,_,_,rfl,F0.out⟩
 ·intro b c d h
  cases b <;> cases c <;> cases d <;> first | exact absurd h (by decide) | kernel_rfl
 ·rintro d e y wq ⟨v1,v2,v4,rfl,F⟩
  refine wpOp_step rfl fun K hK=>?_;refine qat rfl 69 _ _ rfl #[.slice x.pa x.pn x.pc] (by simp [Act.eval]) (yA func69) (HP.out wq (BW.trans (F.be.mono BW.size))) ?_;rintro e w5 ⟨v5,u5,rfl,o5,d5⟩;exact ⟨_,rfl,hK _ _ ⟨fun _ _=>HB0.out _ (F.one o5 d5).be,v5,v2,v4,rfl,F.one o5 d5⟩⟩
 ·rintro b e y wq ⟨v1,v2,v4,rfl,F⟩
  have hmk:=qdw quz qsq NN (by omega) wq;have F2:=F.two (by rw [<- HNN.out];omega);rw [<- HNN.out] at F2;refine wpOp_step rfl fun K hK=>?_;go_simp;refine hK _ _ ⟨fun _ _=>HB0.out _ F2.be,v1,.slice (some (aQ wq.heap.size 0)) NN NN,v4,rfl,F2⟩
 ·rintro b d y wq ⟨v1,v2,v4,rfl,F⟩
  refine wpOp_step rfl fun K hK=>?_;go_simp;exact hK _ _ ⟨fun _ _=>HB0.out _ F.four.be,v1,v2,.pointer (some (aQ wq.heap.size 0)),rfl,F.four⟩
 ·rintro e y wq ⟨v1,v2,v4,rfl,F⟩
  obtain ⟨k,h1,h2,-,-⟩:=F.ow;obtain ⟨u,o1⟩:=h1 rfl;obtain ⟨a1,c1,rfl⟩:=zU o1.row;obtain ⟨a2,c2,rfl⟩:=zU (h2 rfl).row;refine ⟨rfl,.agg #[.slice a1 x.pn c1,nS,.slice a2 (x.pn*x.pn) c2,nS],fun wz=>?_,a1,c1,a2,c2,v4,rfl,F⟩;go_simp
 ·rintro y wq ⟨a1,c1,a2,c2,v4,rfl,F⟩
  refine wpOp_step rfl fun K hK=>?_;go_simp;exact hK _ _ ⟨fun _ _=>HB0.out _ F.four.be,a1,c1,a2,c2,.pointer (some (aQ wq.heap.size 0)),rfl,F.four⟩
 rintro y w4 ⟨a1,c1,a2,c2,v4,rfl,F⟩;clear F0 HB0 hHeld;obtain ⟨N,cl0,up,rfl,nl,⟨g0,g1,g2,g3⟩,gf,hBN,ns⟩:=AtP.startM F (x.y.atY (cN c)).sS (x.y.atY (cN c)).wH (cN c) x.hH;refine yW 9 rfl fun K hK=>?_;go_simp;refine hK.out _ _ (fun h=>?_) ?_
 ·exact absurd h (by decide)
 clear hK K
 (try simp only [zD,zE,zF])
 refine yX ?_ _;have NS0:Hid (AtP false W2.heap.size N cl0 (x.y.atK (cN c) 0 (fun _=>0)) ((((w4.setCell (aQ N 0) (.slice a1 x.pn c1)).setCell (aQ N 1) nS).setCell (aQ N 2) (.slice a2 (x.pn*x.pn) c2)).setCell (aQ N 3) nS) (.slice a1 x.pn c1) nS (.slice a2 (x.pn*x.pn) c2) nS up (fun _=>.slice none 0 0) (fun _=>.slice none 0 0) (fun _=>.slice none 0 0)/\Bw W2 ((((w4.setCell (aQ N 0) (.slice a1 x.pn c1)).setCell (aQ N 1) nS).setCell (aQ N 2) (.slice a2 (x.pn*x.pn) c2)).setCell (aQ N 3) nS)):=⟨ns,(((F.be.setCell hBN _).setCell hBN _).setCell hBN _).setCell hBN _⟩
 clear ns g0 g1 g2 g3 gf nl F;go_upto_region 3 with fail
 generalize ((((w4.setCell (aQ N 0) (.slice a1 x.pn c1)).setCell (aQ N 1) nS).setCell (aQ N 2) (.slice a2 (x.pn*x.pn) c2)).setCell (aQ N 3) nS)=W5 at *;clear w4;have HX3:Hid (∀ wx,Bw W2 wx->Bw w wx/\x.bX wx w.heap.size/\BoxC wx (w.heap.size+1) nS nS nS nS/\(∀ j,wx.frozen? ⟨w.heap.size+1,j,none⟩=false)/\w.heap.size+1<W2.heap.size/\W2.heap.size<=wx.heap.size):=fun wx hb=>⟨BW.trans (hb.mono BW.size),NB.bw hb,RB.1.bw hb,fun j=>((qal hb).2 _ j (zJ _ _ RB.1.1)).trans (RB.2 j),zJ _ _ RB.1.1,hb.size⟩
 clear BW NB RB lW HP;go_wp2_with fail
 go_loopw [8] (fun i wr=>∃ k:Nat,k<=x.pn/\i=.int .i64 k/\Hid ((∃ cl vs vh us uh,AtP false W2.heap.size N cl (x.y.atK (cN c) k (fun _=>0)) wr (.slice a1 x.pn c1) vs (.slice a2 (x.pn*x.pn) c2) vh up us (fun _=>.slice none 0 0) uh)/\Bw W2 wr)) (fun i _=>x.pn - (intOf i).toNat)
 case atStart=>exact ⟨0,nD _,rfl,⟨_,_,_,_,_,NS0.1⟩,NS0.2⟩
 case round=>
  clear NS0;obtain ⟨k,hk,rfl,HZ⟩:=hrel;by_cases hlt:k<x.pn
  ·have hlt':(k:Int)<(x.pn:Int):=by omega
   have hlc:(k:Int)<(c.length:Int):=by have:=HN.out;omega
   have hlh:(k:Int)<(x.hn:Int):=by have:=HN.out;omega
   obtain ⟨hbw,⟨b0,b1,b2,b3⟩,-,-,-,hle3⟩:=HX3.out wr HZ.2;have lW:w.heap.size<wr.heap.size:=zJ _ _ b0;obtain ⟨cb,co,rfl,lcb,cz⟩:=(HQ.bw hbw).at (show k<c.length by have:=HN.out;omega);rw [(HCK.out k hlt).1] at cz;obtain ⟨bh,oh,eh,ch⟩:=(HG.bw hbw).h.at (show k<x.hn by have:=HN.out;omega);have lbh:bh<wr.heap.size:=zJ _ _ ch;rw [eh] at b3;clear eh;have hcx:=HCK.out k hlt;have ks:=qks (x.hA k) (x.hL k) (x.hC k) (cN c k) hcx.2.1;have hkk:((cN c k:Nat):Int)<=1048576:=by omega
   obtain ⟨⟨cl,vs,vh,us,uh,hA⟩,hbz⟩:=HZ.out;have AP:Hid (AtP false W2.heap.size N cl (x.y.atK (cN c) k (fun _=>0)) wr (.slice a1 x.pn c1) vs (.slice a2 (x.pn*x.pn) c2) vh up us (fun _=>.slice none 0 0) uh):=hA;have BZ:Hid (Bw W2 wr/\Bw w wr):=⟨hbz,hbw⟩
   have HSE:Hid (Src wr (x.hA k) (fE (x.hH k) (cN c k))):=srcE (((HG.bw hbw).hi k (by have:=HN.out;omega)).take hcx.2.2.1);clear hA hbz hbw HZ hle3;go_upto_region 6 with fail
   have q0:Bw wr wr.drew:=(nE wr.heap.size wr).drew;refine qag (fun w'=>w'.cell? (aQ w.heap.size 3)=some (.slice (some (aQ bh oh)) x.hn x.hc)/\w'.cell? ⟨bh,oh+k,none⟩=some (.slice (x.hA k) (x.hL k) (x.hC k))/\w'.cell? ⟨cb,co+k,none⟩=some (iV (cN c k:Nat))) (fun _=>false) (by kernel_rfl) ?_;have hHeld:(fun w':World=>w'.cell? (aQ w.heap.size 3)=some (.slice (some (aQ bh oh)) x.hn x.hc)/\w'.cell? ⟨bh,oh+k,none⟩=some (.slice (x.hA k) (x.hL k) (x.hC k))/\w'.cell? ⟨cb,co+k,none⟩=some (iV (cN c k:Nat))) wr.drew:=⟨(q0.cell (p:=(aQ w.heap.size 3)) lW).trans b3,(q0.cell (p:=⟨bh,oh+k,none⟩) lbh).trans ch,(q0.cell (p:=⟨cb,co+k,none⟩) lcb).trans cz⟩
   refine qbb [1,2,3,4,5,6,7,8,9,10] ?_;iterate 10 (refine qbr rfl hHeld ?_)
   refine qa2 ?_;refine yW 0 rfl fun K hK=>?_;go_simp;have qa:Bw wr (wr.drew.alloc (.cells #[] 49)):=q0.trans ((zQ _ _).mono q0.size);refine hK.out _ _ (fun _=>⟨(qa.cell (p:=(aQ w.heap.size 3)) lW).trans b3,(qa.cell (p:=⟨bh,oh+k,none⟩) lbh).trans ch,(qa.cell (p:=⟨cb,co+k,none⟩) lcb).trans cz⟩) ?_;clear hK K qa
   (try simp only [Act.put,zD,zE,zF])
   refine yW 11 rfl fun K hK=>?_;refine qbx kndE wr.drew rfl rfl _ _ rfl (x.hA k) (cN c k) (x.hC k) (fE (x.hH k) (cN c k)) rfl rfl (qo3 _ _) (HSE.bw q0) (qry _ _) (by omega) ?_;intro v6 w6 o6 d6 n6;obtain ⟨a6,c6,rfl⟩:=zU o6;have Q6:Hid (Bw wr w6/\w6.ownsRow wr.heap.size 49 3 (.slice a6 (cN c k) c6) (cN c k) (fE (x.hH k) (cN c k))/\Value.slice a6 (cN c k) c6≠nS):=⟨q0.trans (d6.mono q0.size),o6,n6⟩
   have hHeld6:(fun w':World=>w'.cell? (aQ w.heap.size 3)=some (.slice (some (aQ bh oh)) x.hn x.hc)/\w'.cell? ⟨bh,oh+k,none⟩=some (.slice (x.hA k) (x.hL k) (x.hC k))/\w'.cell? ⟨cb,co+k,none⟩=some (iV (cN c k:Nat))) w6:=⟨(Q6.1.cell (p:=(aQ w.heap.size 3)) lW).trans b3,(Q6.1.cell (p:=⟨bh,oh+k,none⟩) lbh).trans ch,(Q6.1.cell (p:=⟨cb,co+k,none⟩) lcb).trans cz⟩
   refine hK.out _ _ (fun _=>hHeld6) ?_;clear hHeld hK K o6 d6 n6 q0;have hHeld:=hHeld6;clear hHeld6;refine qar 12 rfl hHeld ?_;refine yX ?_ _;clear hHeld ks ch cz b0 b1 b2 b3 lbh lcb lW HSE;obtain ⟨hb6,⟨b0,b1,b2,b3⟩,-⟩:=HX3.out w6 (BZ.1.trans (Q6.1.mono BZ.1.size));obtain ⟨bp,op,epp,cp⟩:=(HG.bw hb6).p.at hlt;rw [epp] at b0;clear epp
   have HE6 : Hid (EvL w6 a6 (cN c k) (x.hH k) ∧ Below w.heap.size w w6) := ⟨by
    obtain ⟨b,cp,e,hl,he,-⟩:=atE Q6.2.1 Q6.2.2;simp only [Value.slice.injEq] at e;obtain ⟨rfl,-,-⟩:=e
    exact .inr ⟨b,0,rfl,hl,he⟩,hb6⟩
   clear hb6;go_wp2_with fail
   refine (HR.out w6 HE6.2 k hlt a6 c6 HE6.1).mono ?_;rintro e w7 ⟨v7,rfl,o7,q7⟩;obtain ⟨ra1,rc1,oa1,oc1,rfl,-,-⟩:=o7.read;clear b0 b1 b2 b3 cp;have S7:Hid (qac w7 w6.heap.size (stV ((x.y.atY (cN c)).sS k).p ra1 ((x.y.atY (cN c)).sS k).rs.length rc1 oa1 ((x.y.atY (cN c)).sS k).os.length oc1 ((x.y.atY (cN c)).sS k).c) ((x.y.atY (cN c)).sS k).p ((x.y.atY (cN c)).sS k).rs ((x.y.atY (cN c)).sS k).os ((x.y.atY (cN c)).sS k).c/\Bw w6 w7):=⟨o7,q7⟩
   clear o7 q7 HE6;generalize hTT:(x.y.atY (cN c)).sS k=T at *;have HTT:Hid ((x.y.atY (cN c)).sS k=T):=hTT;clear hTT;generalize (repO (x.pH k) (x.pL k) (x.hH k) (cN c k)).isSome=rb at *;have N8:Hid (BoxC (w7.alloc (oQ0 T.p ra1 T.rs.length rc1 oa1 T.os.length oc1 T.c)) w7.heap.size (iV T.p) (.slice ra1 T.rs.length rc1) (.slice oa1 T.os.length oc1) (iV T.c)/\Bw w6 (w7.alloc (oQ0 T.p ra1 T.rs.length rc1 oa1 T.os.length oc1 T.c))/\qac (w7.alloc (oQ0 T.p ra1 T.rs.length rc1 oa1 T.os.length oc1 T.c)) w6.heap.size (stV T.p ra1 T.rs.length rc1 oa1 T.os.length oc1 T.c) T.p T.rs T.os T.c/\w6.heap.size<=w7.heap.size):=⟨BoxC.new w7 _ _ _ _ _,S7.2.trans ((zQ _ _).mono S7.2.size),S7.1.bw (zQ _ _),S7.2.size⟩
   go_upto_region 8 with fail
   clear S7;generalize w7.alloc (oQ0 T.p ra1 T.rs.length rc1 oa1 T.os.length oc1 T.c)=w8 at *;generalize hS8:w7.heap.size=S8 at *;clear hS8 w7;obtain ⟨sa,sc,rfl⟩:=zU AP.o.s.row;obtain ⟨ha,hc,rfl⟩:=zU AP.o.h.row;have Q8:Hid (Bw wr w8):=Q6.1.trans (N8.2.1.mono Q6.1.size);obtain ⟨x0,x1,x2,x3⟩:=(AP.bw Q8.out).bx;have hk2:Hid (k<=2000000):=by show k<=2000000;omega
   have lN8:N<w8.heap.size:=zJ _ _ x0;go_upto_region 9 with (at_builtin;refine qai qqj w8 rfl rfl _ _ rfl 0 (.slice ha k hc) k _ rfl (AP.o.h.bw Q8.out).row #[.slice a6 (cN c k) c6] rfl rfl (by intro u hu;simp at hu;subst hu;rfl) hk2.out (nD _) ?_;intro v9 w9 o9 g9 q9 n9;obtain ⟨a9,c9,rfl⟩:=zU o9;obtain ⟨⟨z0,z1,z2,z3⟩,zf⟩:=AP.box Q8.out g9 (fun k hk=>(AP.gH k hk).2);have F9:Hid (w9.ownsRow 0 50 1 (.slice a9 (k+1) c9) (k+1) ((List.range k).map uh ++ [.slice a6 (cN c k) c6])/\w8.grownBy w9 (Value.slice ha k hc).ownBlock/\(∀ j,(Value.slice a9 (k+1) c9).ownBlock=some j->(Value.slice ha k hc).ownBlock=some j\/w8.heap.size<=j)):=⟨o9,g9,q9⟩;clear o9 g9 q9 n9)
   have BX:Hid (BoxC (w9.setCell ⟨N,3,none⟩ (.slice a9 (k+1) c9)) N (.slice a1 x.pn c1) (.slice sa k sc) (.slice a2 (x.pn*x.pn) c2) (.slice a9 (k+1) c9)/\(∀ j,(w9.setCell ⟨N,3,none⟩ (.slice a9 (k+1) c9)).frozen? ⟨N,j,none⟩=false)/\BoxC (w9.setCell ⟨N,3,none⟩ (.slice a9 (k+1) c9)) S8 (iV T.p) (.slice ra1 T.rs.length rc1) (.slice oa1 T.os.length oc1) (iV T.c)/\(w9.setCell ⟨N,3,none⟩ (.slice a9 (k+1) c9)).ownsRow 0 66 4 (.slice sa k sc) k (flat (fun i=>cellsL (us i)) k)/\Bw W2 (w9.setCell ⟨N,3,none⟩ (.slice a9 (k+1) c9))):=by
    have hNw:N<wr.heap.size:=AP.lt;have hS8:wr.heap.size<=S8:=zP Q6.1.size N8.2.2.2;have sw8:=Q8.size;refine ⟨⟨(World.cell?_setCell_other _ _ _ _ (by simp)).trans z0,(World.cell?_setCell_other _ _ _ _ (by simp)).trans z1,(World.cell?_setCell_other _ _ _ _ (by simp)).trans z2,World.cell?_setCell_same _ _ _ z3⟩,fun j=>(World.frozen?_setCell _ _ _ _).trans (zf j),N8.1.blkA ?_,qas (AP.o.s.bw Q8.out).row fun j hj=>?_,?_⟩
    ·exact (Below.heap_setCell _ _ _ _ (fun e => by have e2 : S8 = N := e; omega)).trans (F9.2.1.block S8 (World.block_lt_of_cell? _ _ N8.1.1) fun e => by
      have:=(AP.o.h.row.lt S8 e.symm).2
      omega)
    ·have hl:=(AP.o.s.row.lt j hj).2
     have hcj:cl j=2:=(AP.o.s.rb j hj).2
     exact (Below.heap_setCell _ _ _ _ fun e => by
      rw [e,AP.cN] at hcj;cases hcj).trans (F9.2.1.block j (by omega) fun e=>by
      have:=(AP.o.h.rb j e.symm).2;rw [hcj] at this
      cases this)
    ·exact (Below.grown (BZ.1.trans (Q8.mono BZ.1.size)) F9.2.1 (zP BZ.1.size Q8.size) (fun j hj=>(AP.gH j hj).1)).setCell AP.bN _
   clear z0 z1 z2 z3 zf x0 x1 x2 x3 lN8;generalize hW9:w9.setCell (aQ N 3) (.slice a9 (k+1) c9)=W9 at *;have HW9:Hid (w9.setCell (aQ N 3) (.slice a9 (k+1) c9)=W9):=hW9;clear hW9;obtain ⟨x0,x1,x2,x3⟩:=BX.1;obtain ⟨s0,s1,s2,s3⟩:=BX.2.2.1;have lN9:N<W9.heap.size:=zJ _ _ x0;have lS9:S8<W9.heap.size:=zJ _ _ s0;go_wp2_with (at_builtin;refine qai kndS W9 rfl rfl _ _ rfl 0 (.slice sa k sc) k _ rfl BX.2.2.2.1 #[.int .i64 T.p,.slice ra1 T.rs.length rc1,.slice oa1 T.os.length oc1,.int .i64 T.c] rfl rfl (by intro u hu;simp at hu;rcases hu with rfl | rfl | rfl | rfl <;> rfl) hk2.out (nD _) ?_;intro v10 w10 o10 g10 q10 n10;obtain ⟨a10,c10,rfl⟩:=zU o10;have eN:=g10.block N lN9 (fun e=>(AP.gS N e.symm).2 AP.cN);have y1:=(zH (a:=(aQ N 1)) eN).trans x1;have yf:=(zI (a:=(aQ N 1)) eN).trans (BX.2.1 1);have F10:Hid ((∃ cl',AtP false W2.heap.size N cl' (x.y.atK (cN c) (k+1) (fun _=>0)) (w10.setCell (aQ N 1) (.slice a10 (k+1) c10)) (.slice a1 x.pn c1) (.slice a10 (k+1) c10) (.slice a2 (x.pn*x.pn) c2) (.slice a9 (k+1) c9) up (fun j=>if j=k then stV T.p ra1 T.rs.length rc1 oa1 T.os.length oc1 T.c else us j) (fun _=>.slice none 0 0) (fun j=>if j=k then .slice a6 (cN c k) c6 else uh j))/\Bw W2 (w10.setCell (aQ N 1) (.slice a10 (k+1) c10))):=⟨AP.both Q6.1 Q6.2.1 Q6.2.2 N8.2.1 (by show qac w8 w6.heap.size _ ((x.y.atY (cN c)).sS k).p ((x.y.atY (cN c)).sS k).rs ((x.y.atY (cN c)).sS k).os ((x.y.atY (cN c)).sS k).c;rw [HTT.out];exact N8.2.2.1) F9.1 F9.2.1 F9.2.2 o10 (by rw [HW9.out];exact g10) (by rw [HW9.out];exact q10),(Below.grown BX.2.2.2.2 g10 BX.2.2.2.2.size (fun j hj=>(AP.gS j hj).1)).setCell AP.bN _⟩;clear o10 g10 q10 n10)
   go_roundw
   case rel=>
    obtain ⟨cl',h10⟩:=F10.1
    first | exact ⟨k+1,by omega,by go_num,⟨cl',_,_,_,_,h10⟩,F10.2⟩ | exact ⟨iV ((k+1:Nat):Int),_,_,_,⟨k+1,(by have:=HN.out;omega),rfl,⟨cl',_,_,_,_,h10⟩,F10.2⟩,by simp,rfl,rfl,rfl⟩
   case measure=>simp [intOf];omega
  ·have hkn:k=x.pn:=by omega
   subst hkn;obtain ⟨⟨cl,vs,vh,us,uh,hA⟩,hbz⟩:=HZ.out;obtain ⟨sa,sc,rfl⟩:=zU hA.o.s.row;obtain ⟨ha,hc,rfl⟩:=zU hA.o.h.row;obtain ⟨gw,gc,egw,-⟩:=hA.o.t.cell (i:=0) (by show 0<x.pn*x.pn;have:=HN.out;exact Nat.mul_pos (by omega) (by omega));simp only [Value.slice.injEq] at egw;obtain ⟨rfl,-,-⟩:=egw;obtain ⟨gh,gc2,egh,-⟩:=hA.o.h.cell (i:=0) (by show 0<x.pn;have:=HN.out;omega);simp only [Value.slice.injEq] at egh;obtain ⟨rfl,-,-⟩:=egh;have A0:Hid (AtP false W2.heap.size N cl (x.y.atK (cN c) x.pn (wlN (x.y.atY (cN c)).wL (0*x.pn) 0)) (wr) (.slice a1 x.pn c1) (.slice sa x.pn sc) (sG gw (x.pn*x.pn) c2) (sG gh x.pn hc) up us (fun _=>.slice none 0 0) uh/\Bw W2 wr):=⟨by rw [Nat.zero_mul,qv3];exact hA,hbz⟩
   clear hA hbz HZ HR HQ;go_wp2_with fail
   go_loopw [12] (fun i wr=>∃ k:Nat,k<=x.pn/\i=.int .i64 k/\Hid ((∃ cl uw,AtP false W2.heap.size N cl (x.y.atK (cN c) x.pn (wlN (x.y.atY (cN c)).wL (k*x.pn) 0)) wr (.slice a1 x.pn c1) (.slice sa x.pn sc) (sG gw (x.pn*x.pn) c2) (sG gh x.pn hc) up us uw uh)/\Bw W2 wr)/\Hid (∀ a,a<k->∀ b,b<x.pn->(wyL (x.y.ah (cN c)) a b).length<=12)) (fun i _=>x.pn - (intOf i).toNat)
   case atStart=>exact ⟨0,nD _,rfl,⟨⟨_,_,A0.1⟩,A0.2⟩,fun j hj=>by omega⟩
   case round=>
    clear A0;obtain ⟨k,hk,rfl,HZ,HK⟩:=hrel;by_cases hlt:k<x.pn
    ·have hlt':(k:Int)<(x.pn:Int):=by omega
     go_wp2_with fail
     go_loopw [13] (fun i wr=>∃ l:Nat,l<=x.pn/\i=.int .i64 l/\Hid ((∃ cl uw,AtP false W2.heap.size N cl (x.y.atK (cN c) x.pn (wlN (x.y.atY (cN c)).wL (k*x.pn+l) 0)) wr (.slice a1 x.pn c1) (.slice sa x.pn sc) (sG gw (x.pn*x.pn) c2) (sG gh x.pn hc) up us uw uh)/\Bw W2 wr)/\Hid (∀ b,b<l->(wyL (x.y.ah (cN c)) k b).length<=12)) (fun i _=>x.pn - (intOf i).toNat)
     case atStart=>exact ⟨0,nD _,rfl,HZ.out,fun j hj=>by omega⟩
     case round=>
      clear HZ;obtain ⟨l,hl,rfl,HZ,HJ⟩:=hrel;by_cases hll:l<x.pn
      ·have hll':(l:Int)<(x.pn:Int):=by omega
       obtain ⟨m,hm⟩:∃ m,m=k*x.pn+l:=⟨_,rfl⟩
       obtain ⟨ap,hap⟩:∃ ap,ap=k*x.pn:=⟨_,rfl⟩
       have hap':(k:Int)*(x.pn:Int)=(ap:Int):=by rw [hap];simp
       have hmp:ap+l=m:=by omega
       have hm16:m<x.pn*x.pn:=by
        have:=Nat.mul_le_mul (show k+1<=x.pn by omega) (nA x.pn);rw [Nat.add_mul,Nat.one_mul] at this;omega
       have hmN:m<NN:=by rw [HNN.out];exact hm16
       have hm16':(m:Int)<((x.pn*x.pn:Nat):Int):=by omega
       have hp16:x.pn*x.pn<=16:=zP (Nat.mul_le_mul HN.2.2.1 HN.2.2.1) (by omega);have hap4:ap<=16:=by omega
       have HM:Hid (m=k*x.pn+l):=hm;rw [<- hm] at HZ;clear hm hap;obtain ⟨⟨cl,uw,hA⟩,hbz⟩:=HZ.out;have AP:Hid (AtP false W2.heap.size N cl (x.y.atK (cN c) x.pn (wlN (x.y.atY (cN c)).wL m 0)) wr (.slice a1 x.pn c1) (.slice sa x.pn sc) (sG gw (x.pn*x.pn) c2) (sG gh x.pn hc) up us uw uh):=hA;have BZ:Hid (Bw W2 wr):=hbz;have HGW:Hid (gw<wr.heap.size):=(hA.o.t.cellG (i:=m) hm16).2.2.1;obtain ⟨x0,x1,x2,x3⟩:=hA.bx;obtain ⟨ea,ec,eu,hev⟩:=qrx (hA.o.h.own k hlt);obtain ⟨fa,fc,fu,hfv⟩:=qrx (hA.o.h.own l hll);have ch:=(hA.o.h.cellG (i:=k) hlt).1;have cf:=(hA.o.h.cellG (i:=l) hll).1;have lgh:=(hA.o.h.cellG (i:=k) hlt).2.2.1;rw [eu] at ch;rw [fu] at cf;have lN:=hA.lt;have EV:Hid (EvL wr ea (cN c k) (x.hH k)/\EvL wr fa (cN c l) (x.hH l)):=⟨hev,hfv⟩
       clear hA hbz HZ hev hfv eu fu;have ch:wr.cell? (aQ gh k)=some (.slice ea (cN c k) ec):=ch;have cf:wr.cell? (aQ gh l)=some (.slice fa (cN c l) fc):=cf;go_wp2_with fail
       refine (qdc ea (cN c k) ec (x.hH k) 2 l wr (by have:=HCK.out k hlt;omega) EV.1).mono ?_;rintro e w16 ⟨v16,rfl,o16,q16⟩;obtain ⟨sa1,sc1,rfl,-⟩:=o16.form;have Q16:Hid (OwnI w16 wr.heap.size (.slice sa1 (valL (x.hH k) 2 l (cN c k)).length sc1) (valL (x.hH k) 2 l (cN c k))/\Bw wr w16):=⟨o16,q16⟩
       have y3:=(q16.cell (p:=(aQ N 3)) lN).trans x3;have cf:=(q16.cell (p:=(aQ gh l)) lgh).trans cf;clear o16 q16 x0 x1 x2 x3 ch;go_wp2_with fail
       refine (qfl fa (cN c l) fc (x.hH l) 3 k w16 (by have:=HCK.out l hll;omega) (EV.2.bw Q16.2)).mono ?_;rintro e w17 ⟨rfl,q17⟩;clear y3 cf lgh EV
       have hsl:(valL (x.hH k) 2 l (cN c k)).length<=1048576:=by
        rw [qb2];have h1:=qhb (x.hH k) 2 l (cN c k);have h2:=HCK.out k hlt;omega
       have htl:(plN (x.hH l) 3 k (cN c l)).length<=1048576:=by
        have h1:=qhb (x.hH l) 3 k (cN c l);have h2:=HCK.out l hll;omega
       have HWY:Hid ((x.y.atY (cN c)).wL m=((valL (x.hH k) 2 l (cN c k)).drop (plN (x.hH l) 3 k (cN c l)).length).length/\(x.y.atY (cN c)).wH m=itL ((valL (x.hH k) 2 l (cN c k)).drop (plN (x.hH l) 3 k (cN c l)).length)/\wyL (x.y.ah (cN c)) k l=(valL (x.hH k) 2 l (cN c k)).drop (plN (x.hH l) 3 k (cN c l)).length):=by
        have e1:=que (a:=k) hll;rw [<- HM.out] at e1;refine ⟨?_,?_,rfl⟩
        ·show (wyL (x.y.ah (cN c)) (m / x.pn) (m % x.pn)).length=_
         rw [e1.1,e1.2];rfl
        ·show itL (wyL (x.y.ah (cN c)) (m / x.pn) (m % x.pn))=_
         rw [e1.1,e1.2];rfl
       have HC:Hid (∀ j,j<(valL (x.hH k) 2 l (cN c k)).length->∃ g0,sa1=some ⟨g0,0,none⟩/\wr.heap.size<=g0/\g0<w17.heap.size/\w17.cell? ⟨g0,j,none⟩=some (iV (zi (valL (x.hH k) 2 l (cN c k)) j))):=fun j hj=>by
        have o:=Q16.1.bw q17;obtain ⟨g0,cp,e,h1,h2⟩:=o.block (by omega);simp only [Value.slice.injEq] at e;obtain ⟨rfl,-,rfl⟩:=e;exact ⟨g0,rfl,h1,h2,o.cell hj⟩
       have Q17:Hid (Bw wr w17):=Q16.2.trans (q17.mono Q16.2.size);clear q17 Q16;generalize valL (x.hH k) 2 l (cN c k)=sent at *;generalize (plN (x.hH l) 3 k (cN c l)).length=tk at *;have hsl':(sent.length:Int)<=1048576:=by omega
       have htl':(tk:Int)<=1048576:=by omega
       go_wp2_with fail
       have HSR0:∃ SR,SR=wr.heap.size:=⟨_,rfl⟩
       obtain ⟨SR,hSR⟩:=HSR0;have HSR:Hid (SR=wr.heap.size):=hSR;rw [<- hSR] at HC HGW;clear hSR
       go_loopw [16] (fun i w'=>∃ j:Nat,j<=(sent.drop tk).length/\i=.int .i64 ((tk+j:Nat):Int)/\Hid ((∃ cl uw,AtP false W2.heap.size N cl (x.y.atK (cN c) x.pn (wlN (x.y.atY (cN c)).wL m j)) w' (.slice a1 x.pn c1) (.slice sa x.pn sc) (sG gw (x.pn*x.pn) c2) (sG gh x.pn hc) up us uw uh/\∀ b,(uw m).ownBlock=some b->b<SR\/w17.heap.size<=b)/\Bw W2 w'/\w17.heap.size<=w'.heap.size/\∀ b,SR<=b->b<w17.heap.size->w'.heap[b]? = w17.heap[b]?)) (fun i _=>sent.length - (intOf i).toNat)
       case atStart=>exact ⟨0,nD _,rfl,⟨_,_,AP.bw Q17.out,fun b hb=>.inl (by rw [HSR.out];exact ((AP.o.t.own m hm16).lt b hb).2)⟩,BZ.trans (Q17.mono BZ.size),nA _,fun _ _ _=>rfl⟩
       case round=>
        clear AP;obtain ⟨j,hj,rfl,HD⟩:=hrel;generalize hti:tk+j=ti at *;have HTI:Hid (tk+j=ti):=hti;clear hti;have hdl:(sent.drop tk).length=sent.length - tk:=List.length_drop;by_cases htj:ti<sent.length
        ·have htj':(ti:Int)<(sent.length:Int):=by omega
         obtain ⟨g0,rfl,hg1,hg2,cg⟩:=HC.out ti htj;obtain ⟨⟨cl,uw,hA,huw⟩,hbw,hsw,hkp⟩:=HD.out;have AP:Hid (AtP false W2.heap.size N cl (x.y.atK (cN c) x.pn (wlN (x.y.atY (cN c)).wL m j)) wr (.slice a1 x.pn c1) (.slice sa x.pn sc) (sG gw (x.pn*x.pn) c2) (sG gh x.pn hc) up us uw uh):=hA;have HU:Hid ((∀ b,(uw m).ownBlock=some b->b<SR\/w17.heap.size<=b)/\Bw W2 wr/\w17.heap.size<=wr.heap.size/\∀ b,SR<=b->b<w17.heap.size->wr.heap[b]? = w17.heap[b]?):=⟨huw,hbw,hsw,hkp⟩
         obtain ⟨um,uc,eum⟩:=zU (hA.o.t.own m hm16)
         have eum:uw m=.slice um j uc:=by
          rw [eum];show Value.slice um (wlN (x.y.atY (cN c)).wL m j m) uc=_;rw [qwy]
         have OM:Hid (wr.ownsRow 0 78 2 (.slice um j uc) j (fT ((x.y.atY (cN c)).wH m) j)):=by
          have h:=hA.o.t.own m hm16;rw [eum] at h;have h:wr.ownsRow 0 78 2 (.slice um j uc) (wlN (x.y.atY (cN c)).wL m j m) (fT ((x.y.atY (cN c)).wH m) (wlN (x.y.atY (cN c)).wL m j m)):=h;rw [qwy] at h;exact h
         have hcw:=(hA.o.t.cellG (i:=m) hm16)
         rw [eum] at hcw;have HEU:Hid (uw m=.slice um j uc):=eum;obtain ⟨cw,hgw,lgw,fgw⟩:=hcw;obtain ⟨x0,x1,x2,x3⟩:=hA.bx;have lN:=hA.lt;have lg0:g0<wr.heap.size:=by omega
         have cg:wr.cell? (aQ g0 ti)=some (iV (zi sent ti)):=(zH (hkp g0 hg1 hg2)).trans cg
         have HVE:Hid (zi sent ti=((x.y.atY (cN c)).wH m j).v/\((x.y.atY (cN c)).wH m j).m=false):=by
          rw [HWY.2.1];exact ⟨by rw [<- HTI.out];exact (qow _ _ _).symm,rfl⟩
         clear hA huw hbw hsw hkp HD eum;go_upto_region 21 with fail
         have q0:Bw wr wr.drew:=(nE wr.heap.size wr).drew;refine qag (fun w'=>w'.cell? (aQ N 2)=some (sG gw (x.pn*x.pn) c2)/\w'.cell? (aQ gw m)=some (.slice um j uc)/\w'.cell? (aQ g0 ti)=some (iV (zi sent ti))) (fun i=>i == 24) (by kernel_rfl) ?_;have hHeld:(fun w':World=>w'.cell? (aQ N 2)=some (sG gw (x.pn*x.pn) c2)/\w'.cell? (aQ gw m)=some (.slice um j uc)/\w'.cell? (aQ g0 ti)=some (iV (zi sent ti))) wr.drew:=⟨(q0.cell (p:=(aQ N 2)) lN).trans x2,(q0.cell (p:=(aQ gw m)) lgw).trans cw,(q0.cell (p:=(aQ g0 ti)) lg0).trans cg⟩
         refine qbb [0,1,2,3] ?_;iterate 4 (refine qbr rfl hHeld ?_)
         refine qa2 ?_;refine qch 4 rfl hHeld ⟨iV (ap:Int),fun wq _=>?_,?_⟩
         ·go_simp
          try (rw [IntKind.wrap_i64];omega)
         refine qar 5 rfl hHeld ?_;refine qch 6 rfl hHeld ⟨iV (m:Int),fun wq _=>?_,?_⟩
         ·go_simp
          try (rw [IntKind.wrap_i64];omega)
         refine qbb [7,8,9,10] ?_;iterate 4 (refine qbr rfl hHeld ?_)
         refine qa2 ?_;refine qch 11 rfl hHeld ⟨iV (ap:Int),fun wq _=>?_,?_⟩
         ·go_simp
          try (rw [IntKind.wrap_i64];omega)
         refine qar 12 rfl hHeld ?_;refine qch 13 rfl hHeld ⟨iV (m:Int),fun wq _=>?_,?_⟩
         ·go_simp
          try (rw [IntKind.wrap_i64];omega)
         refine qbb [14,15,16,17,18,19,20] ?_;iterate 7 (refine qbr rfl hHeld ?_)
         refine qa2 ?_;refine yW 21 rfl fun K hK=>?_;go_simp;have qa:Bw wr (wr.drew.alloc (.cells #[.bool false,iV (zi sent ti)] 78)):=q0.trans ((zQ _ _).mono q0.size);refine hK.out _ _ (fun _=>⟨(qa.cell (p:=(aQ N 2)) lN).trans x2,(qa.cell (p:=(aQ gw m)) lgw).trans cw,(qa.cell (p:=(aQ g0 ti)) lg0).trans cg⟩) ?_;clear hK K qa hHeld
         (try simp only [Act.put,zD,zE,zF])
         refine yW 22 rfl fun K hK=>?_;refine qa1 kndT wr.drew rfl rfl _ _ rfl 0 (.slice um j uc) j _ rfl (qas OM.out fun b hb=>q0.block b (OM.lt b hb).2) #[.bool false,.int .i64 (zi sent ti)] rfl rfl (by intro u hu;simp at hu;rcases hu with rfl | rfl <;> rfl) (by omega) (nD _) ?_;intro v22 w22 o22 g22 p22 n22;obtain ⟨a22,c22,rfl⟩:=zU o22;have e22:∀ b,b<wr.heap.size->(Value.slice um j uc).ownBlock≠some b->w22.heap[b]? = wr.heap[b]?:=fun b hb hne=>(g22.block b (zL hb q0.size) (Ne.symm hne)).trans (q0.block b hb)
         have eN:w22.heap[N]? = wr.heap[N]?:=e22 N lN fun e=>by
          have:=(AP.o.t.ob m hm16 N (by rw [HEU.out];exact e)).2;rw [AP.cN] at this;cases this
         have eG:w22.heap[gw]? = wr.heap[gw]?:=e22 gw lgw fun e=>AP.o.t.ra m hm16 gw (by rw [HEU.out];exact e) rfl
         have e0:w22.heap[g0]? = wr.heap[g0]?:=e22 g0 lg0 fun e=>by
          rcases HU.1 g0 (by rw [HEU.out];exact e) with h | h <;> omega
         have F22:Hid ((∃ cl uw,AtP false W2.heap.size N cl (x.y.atK (cN c) x.pn (wlN (x.y.atY (cN c)).wL m (j+1))) (w22.setCell ⟨gw,m,none⟩ (.slice a22 (j+1) c22)) (.slice a1 x.pn c1) (.slice sa x.pn sc) (sG gw (x.pn*x.pn) c2) (sG gh x.pn hc) up us uw uh/\∀ b,(uw m).ownBlock=some b->b<SR\/w17.heap.size<=b)/\Bw W2 (w22.setCell ⟨gw,m,none⟩ (.slice a22 (j+1) c22))/\w17.heap.size<=(w22.setCell ⟨gw,m,none⟩ (.slice a22 (j+1) c22)).heap.size/\∀ b,SR<=b->b<w17.heap.size->(w22.setCell ⟨gw,m,none⟩ (.slice a22 (j+1) c22)).heap[b]? = w17.heap[b]?):=by
          have s22:wr.heap.size<=w22.heap.size:=zP q0.size g22.size;have hs17:=HU.2.2.1;have hgw:=HGW.out
          have hfu:w22.ownsRow 0 78 2 (.slice a22 (j+1) c22) (j+1) (fT ((x.y.atY (cN c)).wH m) (j+1)):=by
           have e:fT ((x.y.atY (cN c)).wH m) (j+1)=fT ((x.y.atY (cN c)).wH m) j ++ [.bool false,iV (zi sent ti)]:=by
            rw [HVE.1,<- HVE.2];rfl
           rw [e];exact o22
          have hA := AP.putW (w1 := w22) (u' := .slice a22 (j + 1) c22) (m := j + 1) (H' := (x.y.atY (cN c)).wH m) hm16 s22 (fun b hb hne => e22 b hb (by rw [← HEU.out]; exact hne)) hfu n22 (fun b hb => by
           rcases p22 b hb with h | h
           ·exact .inl (by rw [HEU.out];exact h)
           ·exact .inr h)
          rw [quj] at hA;refine ⟨⟨_,_,hA,fun b hb=>?_⟩,?_,?_,fun b h1 h2=>?_⟩
          ·simp only [if_true] at hb
           rcases p22 b hb with h | h
           ·exact HU.1 b (by rw [HEU.out];exact h)
           ·exact .inr (zP hs17 h)
          ·exact (Below.grown (HU.2.1.trans (q0.mono HU.2.1.size)) g22 (zP HU.2.1.size q0.size) (fun b hb=>(AP.o.t.ob m hm16 b (by rw [HEU.out];exact hb)).1)).setCell (AP.o.t.rb gw rfl).1 _
          ·rw [World.size_setCell]
           omega
          ·refine ((zO _ _ _ _ (fun e=>by have e2:b=gw:=e;omega)).trans (e22 b (by omega) fun e=>?_)).trans (HU.2.2.2 b h1 h2)
           rcases HU.1 b (by rw [HEU.out];exact e) with h | h <;> omega
         have d2:=(zH (a:=(aQ N 2)) eN).trans x2;have dw:=(zH (a:=(aQ gw m)) eG).trans cw;have d0:=(zH (a:=(aQ g0 ti)) e0).trans cg;have fw:=(zI (a:=(aQ gw m)) eG).trans (fgw m);refine hK.out _ _ (fun _=>⟨d2,dw,d0⟩) ?_;clear o22 g22 p22 n22 hK K e22 eN eG e0 x0 x1 x2 x3 cw cg fgw
         (try simp only [Act.put,zD,zE,zF])
         have hHeld:(fun w':World=>w'.cell? (aQ N 2)=some (sG gw (x.pn*x.pn) c2)/\w'.cell? (aQ gw m)=some (.slice um j uc)/\w'.cell? (aQ g0 ti)=some (iV (zi sent ti))) w22:=⟨d2,dw,d0⟩
         refine qar 23 rfl hHeld ?_;refine yW 24 rfl fun K hK=>?_;go_simp;refine hK.out _ _ (fun h=>?_) ?_
         ·exact absurd h (by decide)
         clear hK K d2 dw d0 fw q0 lN lgw lg0 hgw AP HU OM HEU
         (try simp only [Act.put])
         refine yX ?_ _;go_wp2;go_roundw
         case rel=>exact ⟨j+1,by have:=HTI.out;omega,by have h:=HTI.out;rw [<- Nat.add_assoc,h];go_num,F22.out⟩
         case measure=>simp [intOf];omega
        ·have htj':¬ (ti:Int)<(sent.length:Int):=by omega
         have hjl:j=(x.y.atY (cN c)).wL m:=by
          rw [HWY.1];have:=HTI.out;omega
         have hwl:(wyL (x.y.ah (cN c)) k l).length=sent.length - tk:=by rw [HWY.2.2];exact hdl
         obtain ⟨⟨cl,uw,hA,-⟩,hbw,-,-⟩:=HD.out;rw [hjl,qv2] at hA;have AP:Hid (AtP false W2.heap.size N cl (x.y.atK (cN c) x.pn (wlN (x.y.atY (cN c)).wL (m+1) 0)) wr (.slice a1 x.pn c1) (.slice sa x.pn sc) (sG gw (x.pn*x.pn) c2) (sG gh x.pn hc) up us uw uh/\Bw W2 wr):=⟨hA,hbw⟩
         clear hA hbw HD hjl;by_cases h12:12<(wyL (x.y.ah (cN c)) k l).length
         ·have h12':(12:Int)<(sent.length:Int) - (tk:Int):=by omega
          have HV:Hid (wf=false/\YW=x.y.nil):=by
           have e:wf=false:=by
            rw [HWF.out]
            exact qax fun h=>by
             have:=h k hlt l hll;omega
           refine ⟨e,?_⟩;rw [HYW.out,e];rfl
          obtain ⟨hbw,-,⟨r0,r1,r2,r3⟩,rf,-,-⟩:=HX3.out wr AP.2;have BW:Hid (Bw w wr):=hbw;clear hbw;go_wp2;exact bodyPost_ret (v:=.tuple #[sysV none 0 0 none 0 0 none 0 0 none 0 0,.bool false]) (by simp [results,results35,go_sem,r0,r1,r2,r3]) rfl ⟨_,by rw [HV.1],by rw [HV.2];exact qan.zero _ _ _,(((BW.setCell hM _).setCell hM _).setCell hM _).setCell hM _⟩
         ·have h12':¬ (12:Int)<(sent.length:Int) - (tk:Int):=by omega
          have HJ':Hid (∀ b,b<l+1->(wyL (x.y.ah (cN c)) k b).length<=12):=fun b hb=>by
           by_cases e:b=l
           ·subst e
            omega
           ·exact HJ.out b (by omega)
          have AP2:Hid ((∃ cl uw,AtP false W2.heap.size N cl (x.y.atK (cN c) x.pn (wlN (x.y.atY (cN c)).wL (k*x.pn+(l+1)) 0)) wr (.slice a1 x.pn c1) (.slice sa x.pn sc) (sG gw (x.pn*x.pn) c2) (sG gh x.pn hc) up us uw uh)/\Bw W2 wr):=⟨⟨cl,uw,by rw [<- Nat.add_assoc,<- HM.out];exact AP.1⟩,AP.2⟩
          clear HJ AP hwl hdl h12;go_wp2;go_roundw
          case rel=>first | exact ⟨l+1,by omega,by go_num,AP2.out,HJ'.out⟩ | exact ⟨.int .i64 ((l+1:Nat):Int),_,_,_,⟨l+1,(by have:=HN.out;omega),rfl,AP2.out,HJ'.out⟩,by simp,rfl,rfl,rfl⟩
          case measure=>simp [intOf];omega
      ·have hln:l=x.pn:=by omega
       have HK':Hid (∀ a,a<k+1->∀ b,b<x.pn->(wyL (x.y.ah (cN c)) a b).length<=12):=fun a ha b hb=>by
        by_cases e:a=k
        ·subst e
         exact HJ.out b (by omega)
        ·exact HK.out a (by omega) b hb
       have AP2:Hid ((∃ cl uw,AtP false W2.heap.size N cl (x.y.atK (cN c) x.pn (wlN (x.y.atY (cN c)).wL ((k+1)*x.pn) 0)) wr (.slice a1 x.pn c1) (.slice sa x.pn sc) (sG gw (x.pn*x.pn) c2) (sG gh x.pn hc) up us uw uh)/\Bw W2 wr):=by
        have:=HZ.out;rw [hln] at this;rw [Nat.add_mul,Nat.one_mul];exact this
       clear HK HJ HZ hln;go_wp2;go_roundw
       case rel=>first | exact ⟨k+1,by omega,by go_num,AP2.out,HK'.out⟩ | exact ⟨.int .i64 ((k+1:Nat):Int),_,_,_,_,⟨k+1,(by have:=HN.out;omega),rfl,AP2.out,HK'.out⟩,by simp,rfl,rfl,rfl,rfl⟩
       case measure=>simp [intOf];omega
    ·have hkn:k=x.pn:=by omega
     obtain ⟨⟨cl,uw,hA⟩,hbz⟩:=HZ.out;obtain ⟨x0,x1,x2,x3⟩:=hA.bx;obtain ⟨hbw,-,⟨r0,r1,r2,r3⟩,rf,l1,hle3⟩:=HX3.out wr hbz
     have HV:Hid (wf=true/\YW=x.y.atY (cN c)):=by
      have e:wf=true:=by
       rw [HWF.out];exact qa5 fun a ha b hb=>HK.out a (by omega) b hb
      refine ⟨e,?_⟩;rw [HYW.out,e];rfl
     have OS:Hid (qan false wr W2.heap.size (x.y.atY (cN c)) (.agg #[.slice a1 x.pn c1,.slice sa x.pn sc,.slice (some (aQ gw 0)) (x.pn*x.pn) c2,.slice (some (aQ gh 0)) x.pn hc])):=by
      refine ⟨cl,_,_,_,_,_,_,uw,_,rfl,hA.o.p,hA.o.s,?_,hA.o.h⟩;have ho:=hA.o.t;rw [hkn] at ho;exact qui ho
     have BW:Hid (Bw w wr/\w.heap.size<=W2.heap.size):=⟨hbw,by omega⟩
     have lN:N<wr.heap.size:=hA.lt;have hNr:W2.heap.size<=N:=hA.bN;have hl1:w.heap.size+1<wr.heap.size:=by omega
     clear hA HZ hbw hbz HX3;go_wp2
     exact bodyPost_ret (v := .tuple #[.agg #[.slice a1 x.pn c1, .slice sa x.pn sc, .slice (some ⟨gw, 0, none⟩) (x.pn * x.pn) c2, .slice (some ⟨gh, 0, none⟩) x.pn hc], .bool true]) (by simp [results, results35, go_sem, r0, r1, r2, r3]) rfl ⟨_, by rw [HV.1], by
      rw [HV.2]
      exact ((((OS.setBelow l1 0 _).setBelow l1 1 _).setBelow l1 2 _).setBelow l1 3 _).base BW.2,(((BW.1.setCell hM _).setCell hM _).setCell hM _).setCell hM _⟩
