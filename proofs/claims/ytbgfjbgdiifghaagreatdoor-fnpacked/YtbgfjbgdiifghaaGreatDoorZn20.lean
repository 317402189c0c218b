import Derived.Test.YtbgfjbgdiifghaaGreatDoorZn15
import Derived.Deep.CutBlock
namespace Go.Proofs.YtbgfjbgdiifghaaGreatDoor
open Go.Proofs.Tryz
set_option maxRecDepth 100000
set_option maxHeartbeats 20000000
open Go.ChangeShapes Go.WideShapes Go.ChangeAt Go.RowKit Go.Deep
variable {z:Bool}
theorem OwnS.recol {z:Bool} {w:World} {B:Nat} {c:Nat->Nat} {y:Sy} {vp vs vw vh:Value} {up us uw uh:Nat->Value} (o:OwnS z w B c y vp vs vw vh up us uw uh) (q:Nat):OwnS z w B (rcol c w.heap.size q) y vp vs vw vh up us uw uh:=
 ⟨o.p.mono fun _ h hl=>h.old hl,o.s.mono fun _ h hl=>h.old hl,o.t.mono fun _ h hl=>h.old hl,o.h.mono fun _ h hl=>h.old hl⟩
theorem BoxC.blkM {w w':World} {N:Nat} {p vr vo code:Value} (h:BoxC w N p vr vo code) (hb:w'.heap[N]? = w.heap[N]?):BoxC w' N p vr vo code:=by
 obtain ⟨h0,h1,h2,h3⟩:=h;exact ⟨(zH hb).trans h0,(zH hb).trans h1,(zH hb).trans h2,(zH hb).trans h3⟩
theorem BoxC.ltM {w:World} {N:Nat} {p vr vo code:Value} (h:BoxC w N p vr vo code):N<w.heap.size:=zJ w _ h.1
theorem EvK.blk {w w':World} {N:Nat} {k q v:Int} (h:EvK w N k q v) (hN:w'.heap[N]? = w.heap[N]?):EvK w' N k q v:=
 ⟨(zH hN).trans h.c0,(zH hN).trans h.c1,(zH hN).trans h.c2,fun j=>(zI hN).trans (h.fr j)⟩
theorem EvK.lt {w:World} {N:Nat} {k q v:Int} (h:EvK w N k q v):N<w.heap.size:=zJ w _ h.c0
structure Mid (z:Bool) (y:Sy) (w:World) (B:Nat) (c0:Nat->Nat) (N:Nat) (vp vs vw vh:Value) (up us uh:Nat->Value) (wx:World):Prop where
 be:Below B w wx
 bx:BoxC wx w.heap.size vp vs vw vh
 rb:BoxC wx (w.heap.size+1) nS nS nS nS
 rf:∀ j,wx.frozen? ⟨w.heap.size+1,j,none⟩=false
 ev:∃ k q v,EvK wx N k q v
 p:LI z wx (Cl B c0 1) vp y.pn up y.pL y.pH
 s:LS wx (Cl B c0 2) vs y.sn us y.sS
 h:LE z wx (Cl B c0 4) vh y.hn uh y.hL y.hH
theorem Mid.keep {y:Sy} {w:World} {B:Nat} {c0:Nat->Nat} {N:Nat} {vp vs vw vh:Value} {up us uh:Nat->Value} {wx wy:World} (m:Mid z y w B c0 N vp vs vw vh up us uh wx) (h0:∀ k,w.heap.size<=k->c0 k=0) (hN:w.heap.size<=N) (hb:Below B w wy) (hk:∀ k,k<wx.heap.size->c0 k≠3->wy.heap[k]? = wx.heap[k]?):Mid z y w B c0 N vp vs vw vh up us uh wy:=by
 have hz:∀ k,w.heap.size<=k->k<wx.heap.size->wy.heap[k]? = wx.heap[k]?:=fun k h1 h2=>hk k h2 (by rw [h0 k h1];decide);have hM:=hz _ (nA _) m.bx.ltM;have hM1:=hz _ (nK _) m.rb.ltM;obtain ⟨k,q,v,ev⟩:=m.ev;exact ⟨hb,m.bx.blkM hM,m.rb.blkM hM1,fun j=>(zI hM1).trans (m.rf j),⟨k,q,v,ev.blk (hz N hN ev.lt)⟩,m.p.keep fun k hc hl=>hk k hl (by rw [hc.2];decide),m.s.keep fun k hc hl=>hk k hl (by rw [hc.2];decide),m.h.keep fun k hc hl=>hk k hl (by rw [hc.2];decide)⟩
theorem EvK.set1 {w:World} {N:Nat} {k q v:Int} (h:EvK w N k q v) (u:Int):EvK (w.setCell (aQ N 1) (iV u)) N k u v:=by
 obtain ⟨h0,h1,h2,hf⟩:=h;exact ⟨by go_cell,by go_cell,by go_cell,fun j=>by simpa using hf j⟩
theorem EvK.set2 {w:World} {N:Nat} {k q v:Int} (h:EvK w N k q v) (u:Int):EvK (w.setCell (aQ N 2) (iV u)) N k q u:=by
 obtain ⟨h0,h1,h2,hf⟩:=h;exact ⟨by go_cell,by go_cell,by go_cell,fun j=>by simpa using hf j⟩
theorem OwnS.setOut {z:Bool} {w:World} {B:Nat} {c:Nat->Nat} {y:Sy} {vp vs vw vh:Value} {up us uw uh:Nat->Value} (o:OwnS z w B c y vp vs vw vh up us uw uh) {N:Nat} (hN:c N=0) (j:Nat) (u:Value):OwnS z (w.setCell (aQ N j) u) B c y vp vs vw vh up us uw uh:=by
 have hk:∀ i,i≠0->∀ k,Cl B c i k->k<w.heap.size->(w.setCell ⟨N,j,none⟩ u).heap[k]? = w.heap[k]?:=fun i hi k hk _=>zO _ _ _ _ fun e=>hi (by rw [<- hk.2,e,hN]);exact ⟨o.p.keep (hk 1 (by decide)),o.s.keep (hk 2 (by decide)),o.t.keep (hk 3 (by decide)),o.h.keep (hk 4 (by decide))⟩
theorem Mid.setN {y:Sy} {w:World} {B:Nat} {c0:Nat->Nat} {N:Nat} {vp vs vw vh:Value} {up us uh:Nat->Value} {wx:World} (m:Mid z y w B c0 N vp vs vw vh up us uh wx) (h0:c0 N=0) (hB:B<=N) (hN0:N≠w.heap.size) (hN1:N≠w.heap.size+1) (j:Nat) (u:Value) (ev:∃ k q v,EvK (wx.setCell (aQ N j) u) N k q v):Mid z y w B c0 N vp vs vw vh up us uh (wx.setCell (aQ N j) u):=by
 have hz:∀ k,k≠N->(wx.setCell ⟨N,j,none⟩ u).heap[k]? = wx.heap[k]?:=fun k hk=>zO _ _ _ _ hk;have hc:∀ i,i≠0->∀ k,Cl B c0 i k->k<wx.heap.size->(wx.setCell ⟨N,j,none⟩ u).heap[k]? = wx.heap[k]?:=fun i hi k hk _=>hz k fun e=>hi (by rw [<- hk.2,e,h0]);exact ⟨m.be.setCell hB _,m.bx.blkM (hz _ (Ne.symm hN0)),m.rb.blkM (hz _ (Ne.symm hN1)),fun j=>(zI (hz _ (Ne.symm hN1))).trans (m.rf j),ev,m.p.keep (hc 1 (by decide)),m.s.keep (hc 2 (by decide)),m.h.keep (hc 4 (by decide))⟩
def Kp (w w':World) (c c':Nat->Nat):Prop:=∀ b,b<w.heap.size->c b=0->w'.heap[b]? = w.heap[b]? /\ c' b=0
theorem qcc {w w':World} (c:Nat->Nat) (hb:∀ b,b<w.heap.size->w'.heap[b]? = w.heap[b]?):Kp w w' c (rcol c w.heap.size 0):=fun b h1 h2=>⟨hb b h1,(qam h1).trans h2⟩
structure MidW (z:Bool) (c0:Nat->Nat) (y:Sy) (p:Nat) (w:World) (B N:Nat) (k q v:Int) (vp vs vw vh:Value) (up us uh:Nat->Value) (wx:World):Prop where
 be:Below B w wx
 bx:BoxC wx w.heap.size vp vs vw vh
 rb:BoxC wx (w.heap.size+1) nS nS nS nS
 rf:∀ j,wx.frozen? ⟨w.heap.size+1,j,none⟩=false
 ev:EvK wx N k q v
 ow:∃ c uw,OwnS z wx B c (y.way p k q v) vp vs vw vh up us uw uh/\c w.heap.size=0/\c (w.heap.size+1)=0/\c N=0/\Kp w wx c0 c
theorem MidW.put {y:Sy} {p:Nat} {w wx w3:World} {B N g cap:Nat} {k q v:Int} {vp vs vh:Value} {up us uw uh:Nat->Value} {c c0:Nat->Nat} (kp:Kp w wx c0 c) (ks:w.heap.size<=wx.heap.size) (o:OwnS z wx B c y vp vs (sG g y.wn cap) vh up us uw uh) (z0:c w.heap.size=0) (z1:c (w.heap.size+1)=0) (zN:c N=0) (hB:B<=wx.heap.size)
  (bx:BoxC wx w.heap.size vp vs (sG g y.wn cap) vh) (rb:BoxC wx (w.heap.size+1) nS nS nS nS) (rf:∀ j,wx.frozen? ⟨w.heap.size+1,j,none⟩=false) (ev:EvK wx N k q v)
  {J m:Nat} {u':Value} {H':Nat->I2} (hJ:J<y.wn) (hs:wx.heap.size<=w3.heap.size) (g1:∀ b,b<wx.heap.size->(uw J).ownBlock≠some b->w3.heap[b]? = wx.heap[b]?) (hu:w3.ownsRow 0 78 2 u' m (fT H' m)) (hne:u'≠nS) (hb:∀ b,u'.ownBlock=some b->(uw J).ownBlock=some b\/wx.heap.size<=b)
  (be:Below B w (w3.setCell (aQ g J) u')) (hz:y.way p k q v=y.setW J m H'):MidW z c0 y p w B N k q v vp vs (sG g y.wn cap) vh up us uh (w3.setCell (aQ g J) u'):=by
 have hk : ∀ b, c b = 0 → b < wx.heap.size → (w3.setCell ⟨g, J, none⟩ u').heap[b]? = wx.heap[b]? := fun b hb0 hl => (Below.heap_setCell _ _ _ _ fun e => by
  have:=(o.t.rb g rfl).2;rw [<- show b=g from e,hb0] at this;cases this).trans (g1 b hl fun e=>by
  have:=(o.t.ob J hJ b e).2;rw [hb0] at this
  cases this)
 have lN:=ev.lt;exact ⟨be,bx.blkM (hk _ z0 bx.ltM),rb.blkM (hk _ z1 rb.ltM),fun j=>(zI (hk _ z1 rb.ltM)).trans (rf j),ev.blk (hk _ zN lN),_,_,by rw [hz];exact o.putW hJ hB hs g1 hu hne hb,(qam bx.ltM).trans z0,(qam rb.ltM).trans z1,(qam lN).trans zN,fun b h1 h2=>⟨(hk b (kp b h1 h2).2 (zL h1 ks)).trans (kp b h1 h2).1,(qam (zL h1 ks)).trans (kp b h1 h2).2⟩⟩
def qx3 (z:Bool) (w0 w:World) (B:Nat) (c0:Nat->Nat) (y:Sy) (vp vs vw vh:Value) (up:Nat->Value):Prop:=∃ c us uw uh,OwnS z w B c y vp vs vw vh up us uw uh/\Kp w0 w c0 c
theorem OwnS.out4 {zb:Bool} {w w0:World} {B:Nat} {c c0:Nat->Nat} {y z:Sy} {vp vs vw vh:Value} {up us uw uh:Nat->Value} (o:OwnS zb w B c y vp vs vw vh up us uw uh) (kp:Kp w0 w c0 c) {N:Nat} (hN0:w0.heap.size<=N) (hN:c N=0) (e:z=y) (a b d t:Value):
  qx3 zb w0 ((((w.setCell (aQ N 0) a).setCell (aQ N 1) b).setCell (aQ N 2) d).setCell (aQ N 3) t) B c0 z vp vs vw vh up:=by
 rw [e];refine ⟨c,us,uw,uh,(((o.setOut hN 0 a).setOut hN 1 b).setOut hN 2 d).setOut hN 3 t,fun x h1 h2=>⟨?_,(kp x h1 h2).2⟩⟩;have hx:x≠N:=by omega
 rw [zO _ _ _ _ hx,zO _ _ _ _ hx,zO _ _ _ _ hx,zO _ _ _ _ hx];exact (kp x h1 h2).1
theorem qi9 {w:World} {B:Nat} {e:TypeId} {sz:Nat} {u:Value} {n:Nat} {xs:List Value} (o:w.ownsRow B e sz u n xs) (hn:0<n):u≠.slice none 0 0:=fun h=>by
 rcases o.2 with ⟨-,h0⟩ | ⟨g,cap,cur,e2,-⟩
 ·omega
 ·rw [h] at e2
  cases e2
theorem qsm (y:Sy) (p:Nat) (f:Int) (w:World) (B:Nat) (c:Nat->Nat) (vp vs vw vh:Value) (up us uw uh:Nat->Value) (o:OwnS z w B c y vp vs vw vh up us uw uh) (hp:p<y.pn) (hO:y.Ok):
  Calls prog 123 #[.agg #[vp,vs,vw,vh],iV p,iV f] w fun e w'=>e=.returned (.tuple #[.agg #[vp,vs,vw,vh],iV (cmS y p f)])/\Below B w w'/\qx3 z w w' B c (y.step p f) vp vs vw vh up:=by
 obtain ⟨⟨h1,h4⟩,hs,hh,hw⟩:=hO.cn;have hps:p<y.sn:=by omega
 have hph:p<y.hn:=by omega
 have hw0:0<y.wn:=by rw [hw];exact Nat.mul_pos (by omega) (by omega)
 obtain ⟨gp,cp,rfl,Pp,lp,cellp,fp⟩:=o.p.cell hp;obtain ⟨gs,cs,rfl,Ps,ls,cels,fs⟩:=o.s.cell hps;obtain ⟨gh,ch,rfl,Ph,lh,cellh,fh⟩:=o.h.cell hph;obtain ⟨gw,cw,rfl,Pw,lw,-,fw⟩:=o.t.cell hw0;obtain ⟨b',cb,eup,hb',hI,-⟩:=atI (o.p.own p hp) (o.p.nn nzI p hp);obtain ⟨ahh,cbh,euh⟩:=zU (o.h.own p hph);obtain ⟨ra,rc,oa,oc,eus,s0,s1,s2,s3⟩:=cels;rw [eup] at cellp;rw [euh] at cellh;have OO:Hid (OwnS z w B c y (sG gp y.pn cp) (sG gs y.sn cs) (sG gw y.wn cw) (sG gh y.hn ch) up us uw uh):=o;have hL200:y.hL p<=200:=hO.le200 hp;have HO:Hid y.Ok:=hO
 have hsl:Sl w ra (y.sS p).rs/\Sl w oa (y.sS p).os:=by
  have h4:=o.s.own p hps;rw [eus] at h4;exact ⟨h4.parts.1.slOf,h4.parts.2.1.slOf⟩
 have hBw:B<=w.heap.size:=zP Pp.1 (nJ lp);have hM:B<=w.heap.size+1:=by omega
 have BW:Hid (Bw w ((w.alloc (oQ4 (some (aQ gp 0)) y.pn cp (some (aQ gs 0)) y.sn cs (some (aQ gw 0)) y.wn cw (some (aQ gh 0)) y.hn ch)).alloc (zQ3))):=(zQ _ _).trans ((zQ _ _).mono (by simp));have NB:Hid (BoxC ((w.alloc (oQ4 (some (aQ gp 0)) y.pn cp (some (aQ gs 0)) y.sn cs (some (aQ gw 0)) y.wn cw (some (aQ gh 0)) y.hn ch)).alloc (zQ3)) w.heap.size (sG gp y.pn cp) (sG gs y.sn cs) (sG gw y.wn cw) (sG gh y.hn ch)):=(BoxC.new w _ _ _ _ _).bw (zQ _ _);have RB:Hid (BoxC ((w.alloc (oQ4 (some ⟨gp,0,none⟩) y.pn cp (some ⟨gs,0,none⟩) y.sn cs (some ⟨gw,0,none⟩) y.wn cw (some ⟨gh,0,none⟩) y.hn ch)).alloc (zQ3)) (w.heap.size+1) nS nS nS nS/\∀ j,((w.alloc (oQ4 (some ⟨gp,0,none⟩) y.pn cp (some ⟨gs,0,none⟩) y.sn cs (some ⟨gw,0,none⟩) y.wn cw (some ⟨gh,0,none⟩) y.hn ch)).alloc (zQ3)).frozen? ⟨w.heap.size+1,j,none⟩=false):=⟨⟨zW _ _ _ 0 (by simp),zW _ _ _ 1 (by simp),zW _ _ _ 2 (by simp),zW _ _ _ 3 (by simp)⟩,fun j=>yB _ _ _ _ (by simp)⟩
 have l0:w.heap.size<((w.alloc (oQ4 (some (aQ gp 0)) y.pn cp (some (aQ gs 0)) y.sn cs (some (aQ gw 0)) y.wn cw (some (aQ gh 0)) y.hn ch)).alloc (zQ3)).heap.size:=by simp;omega
 have l1:w.heap.size+1<((w.alloc (oQ4 (some (aQ gp 0)) y.pn cp (some (aQ gs 0)) y.sn cs (some (aQ gw 0)) y.wn cw (some (aQ gh 0)) y.hn ch)).alloc (zQ3)).heap.size:=by simp
 have hp':(p:Int)<(y.pn:Int):=by omega
 have hps':(p:Int)<(y.sn:Int):=by omega
 have hph':(p:Int)<(y.hn:Int):=by omega
 have h4':(y.pn:Int)<=4:=by omega
 have tA:inB (p:Int) 0 ((y.pn:Int) - 1)=true:=by simp only [inB,nI];omega
 have EU:Hid (us p=stV (y.sS p).p ra (y.sS p).rs.length rc oa (y.sS p).os.length oc (y.sS p).c):=eus;have HN:Hid (y.sn=y.pn/\y.hn=y.pn/\y.wn=y.pn*y.pn):=⟨hs,hh,hw⟩
 clear o hO eup eus euh hw0 hs hh hw
 go_enter func123,ntmps123
 go_wp2_with fail
 refine (l1In_any _ _ _ _).mono ?_;rintro e w1 ⟨rfl,rfl⟩;rw [tA];generalize (w.alloc (oQ4 (some (aQ gp 0)) y.pn cp (some (aQ gs 0)) y.sn cs (some (aQ gw 0)) y.wn cw (some (aQ gh 0)) y.hn ch)).alloc (zQ3)=W2 at *;have hc2:=(qal BW.out).1;obtain ⟨b0,b1,b2,b3⟩:=NB.out;obtain ⟨⟨r0,r1,r2,r3⟩,rf⟩:=RB.out;have BB:Hid (Below B w W2):=BW.mono hBw;have O2:Hid (OwnS z W2 B (rcol c w.heap.size 0) y (sG gp y.pn cp) (sG gs y.sn cs) (sG gw y.wn cw) (sG gh y.hn ch) up us uw uh):=(OO.recol 0).bw BW.out;replace cellp:=(hc2 _ _ lp).trans cellp;replace s0:=(hc2 _ _ ls).trans s0;replace s1:=(hc2 _ _ ls).trans s1;replace s2:=(hc2 _ _ ls).trans s2;replace s3:=(hc2 _ _ ls).trans s3;replace cellh:=(hc2 _ _ lh).trans cellh;have hI2:qaq W2 b' 0 (y.pL p) (y.pH p):=hI.bw BW.out hb';have hsl2:Sl W2 ra (y.sS p).rs/\Sl W2 oa (y.sS p).os:=⟨hsl.1.bw BW.out,hsl.2.bw BW.out⟩
 have SL:Hid (Sl W2 ra (y.sS p).rs/\Sl W2 oa (y.sS p).os):=hsl2;have HI:Hid (qaq W2 b' 0 (y.pL p) (y.pH p)/\b'<W2.heap.size):=⟨hI2,zL hb' BW.size⟩
 have LW:Hid (gp<w.heap.size/\gs<w.heap.size/\gw<w.heap.size/\gh<w.heap.size/\b'<w.heap.size):=⟨lp,ls,lw,lh,hb'⟩
 have PB:Hid (B<=gp/\B<=gs/\B<=gw/\B<=gh):=⟨Pp.1,Ps.1,Pw.1,Ph.1⟩
 clear hc2 hI2 hsl2 hI hsl lp ls lw lh hb' Pp Ps Pw Ph tA;by_cases hc:(y.sS p).c=0
 case neg=>
  have HV:Hid (cmS y p f=6):=nC hc;have t0:((y.sS p).c == 0)=false:=by simpa using hc
  go_wp2;exact bodyPost_ret (v:=.tuple #[sysV (some ⟨gp,0,none⟩) y.pn cp (some ⟨gs,0,none⟩) y.sn cs (some ⟨gw,0,none⟩) y.wn cw (some ⟨gh,0,none⟩) y.hn ch,iV 6]) (by simp [results,results123,go_sem,r0,r1,r2,r3]) rfl ⟨by rw [HV.out],(((BB.setCell hM _).setCell hM _).setCell hM _).setCell hM _,O2.out4 (qcc c BW.block) (nK _) (qad (nK _)) (Sy.step_no (by rw [HV.out];decide)) _ _ _ _⟩
 have HC:Hid (cmS y p f=if fuS y p (y.nk p) (y.nq p)=true then 4 else if y.nk p=3 then tkS y p (if y.nq p=9 then f else y.nq p) else 0):=nB (by simpa using hc);have HR:Hid (qbj (y.pH p) (y.pL p) (y.sS p).p (y.sS p).rs (y.sS p).os 0=true):=HO.right hp hc;rw [hc] at s3;by_cases h200:y.hL p=200
 case pos=>
  have HV:Hid (cmS y p f=4):=by
   show cmS y p f=4;rw [HC.out,nC (by simp [fuS,h200])]
  have t0:(y.hL p:Int)=200:=by omega
  go_wp2;exact bodyPost_ret (v:=.tuple #[sysV (some ⟨gp,0,none⟩) y.pn cp (some ⟨gs,0,none⟩) y.sn cs (some ⟨gw,0,none⟩) y.wn cw (some ⟨gh,0,none⟩) y.hn ch,iV 4]) (by simp [results,results123,go_sem,r0,r1,r2,r3]) rfl ⟨by rw [HV.out],(((BB.setCell hM _).setCell hM _).setCell hM _).setCell hM _,O2.out4 (qcc c BW.block) (nK _) (qad (nK _)) (Sy.step_no (by rw [HV.out];decide)) _ _ _ _⟩
 have t200:((y.hL p:Int) == 200)=false:=by simp;omega
 obtain ⟨hpk,hst,-⟩:=qa7 HR.out;obtain ⟨⟨q0,q1,q2,q3,ers,-⟩,⟨k,ek,hkl⟩,-⟩:=qbq hst;have h4r:(y.sS p).rs.length=4:=by rw [ers];rfl
 have HX:Hid (y.pL p<=maxLen/\(y.sS p).rs.length=4/\k<y.pL p/\qaa (y.pH p) (y.pL p) 4=true):=⟨by have:=(qki hpk).2;unfold maxLen;omega,h4r,hkl,hpk⟩
 have HN3:Hid (y.nk p=evK (y.pH p k).o/\y.nq p=evP (y.pH p k).o (y.pH p k).n/\y.nv p=evW (y.pH p k).o (y.pH p k).a (y.sS p).rs):=by
  have ek':(y.sS p).p.toNat=k:=by omega
  refine ⟨?_,?_,?_⟩
  ·show nxK _ _ _ _ _ _=_
   rw [hc,nxK,nC HR.out,ek']
  ·show nxP _ _ _ _ _ _=_
   rw [hc,nxP,nC HR.out,ek']
  ·show nxW _ _ _ _ _ _=_
   rw [hc,nxW,nC HR.out,ek']
 rw [ek] at s0;have lp2:gp<W2.heap.size:=by have:=LW.out;omega
 have ls2:gs<W2.heap.size:=by have:=LW.out;omega
 have HRk:Hid (qbj (y.pH p) (y.pL p) (k:Int) (y.sS p).rs (y.sS p).os 0=true):=by rw [<- ek];exact HR
 have EKp:Hid ((y.sS p).p=(k:Int)/\(y.sS p).c=0):=⟨ek,hc⟩
 have HL2:Hid (¬ 200<=y.hL p):=by show ¬ 200<=y.hL p;omega
 clear hpk hst ers h4r hkl h200 q0 q1 q2 q3 HR;go_wp2_with fail
 go_cut [9] from 37 to 47 (fun s wx=>∃ N:Nat,s=.pointer (some (aQ N 0))/\Hid (Bw W2 wx/\W2.heap.size<=N/\EvK wx N (y.nk p) (y.nq p) (y.nv p)))
 case first=>
  refine qag (fun w'=>w'.cell? (aQ w.heap.size 0)=some (sG gp y.pn cp)/\w'.cell? (aQ w.heap.size 1)=some (sG gs y.sn cs)/\w'.cell? (aQ gp p)=some (sG b' (y.pL p) cb)/\w'.cell? ⟨gs,p*4,none⟩=some (iV (k:Int))/\w'.cell? ⟨gs,p*4+1,none⟩=some (.slice ra (y.sS p).rs.length rc)/\w'.cell? ⟨gs,p*4+2,none⟩=some (.slice oa (y.sS p).os.length oc)/\w'.cell? ⟨gs,p*4+3,none⟩=some (iV 0)) (fun i=>i == 12) (by kernel_rfl) ?_;have hHeld:=And.intro b0 (And.intro b1 (And.intro cellp (And.intro s0 (And.intro s1 (And.intro s2 s3)))));refine qbb [0,1,2,3,4,5,6,7,8,9] ?_;iterate 10 (refine qbr rfl hHeld ?_)
  refine qa2 ?_;refine qk5 10 11 rfl rfl (by kernel_rfl) (fun K hK=>?_) (fun K hK=>?_)
  ·refine qat rfl 129 _ _ rfl #[.slice (some (aQ b' 0)) (y.pL p) cb,stV k ra (y.sS p).rs.length rc oa (y.sS p).os.length oc 0] (by simp [Act.eval]) (yA func129) (qbg b' 0 (y.pL p) cb k (y.pH p) 0 ra oa rc (y.sS p).os.length oc (y.sS p).rs (W2.drew) HX.1 (zL HI.2 ((nE W2.heap.size W2).drew).size) (HI.1.bw ((nE W2.heap.size W2).drew) HI.2) (SL.1.bw ((nE W2.heap.size W2).drew)) HX.2.1 HX.2.2.1 HX.2.2.2) ?_
   rintro e w5 ⟨he,d5⟩;rw [<- HN3.1,<- HN3.2.1,<- HN3.2.2] at he;refine ⟨_,he,?_⟩;have q5:Bw W2 w5:=qah ((nE W2.heap.size W2).drew) d5 (by simp);have hc5:=(qal q5).1;have hHeld5:=And.intro ((hc5 _ _ l0).trans b0) (And.intro ((hc5 _ _ l0).trans b1) (And.intro ((hc5 _ _ lp2).trans cellp) (And.intro ((hc5 _ _ ls2).trans s0) (And.intro ((hc5 _ _ ls2).trans s1) (And.intro ((hc5 _ _ ls2).trans s2) ((hc5 _ _ ls2).trans s3))))));refine hK.out _ _ (fun _=>hHeld5) ?_;clear hK K
   (try simp only [Act.put,zD,zE,zF])
   refine yW 11 rfl fun K hK=>?_;go_simp;have ba:=zQ w5 (zQ6);have z5:=q5.size;have hca:=(qal ba).1;obtain ⟨e0,e1,e2,e3,e4,e5,e6⟩:=hHeld5;refine hK.out _ _ (fun _=>⟨(hca _ _ (by omega)).trans e0,(hca _ _ (by omega)).trans e1,(hca _ _ (by omega)).trans e2,(hca _ _ (by omega)).trans e3,(hca _ _ (by omega)).trans e4,(hca _ _ (by omega)).trans e5,(hca _ _ (by omega)).trans e6⟩) ?_;clear hca;clear hK K
   (try simp only [Act.put,zD,zE,zF])
   refine yW 12 rfl fun K hK=>?_;go_simp;refine hK.out _ _ (fun h=>?_) ?_
   ·exact absurd h (by decide)
   clear hK K
   (try simp only [Act.put])
   refine yX ?_ _;go_wp2_with fail
   go_meet
   case rel=>
    exact ⟨w5.heap.size,by with_reducible rfl,q5.trans ((zQ _ _).mono q5.size),q5.size,EvK.new _ _ _ _ _⟩
  ·go_simp
   have ba:Bw W2 (W2.drew.alloc (zQ6)):=(nE W2.heap.size W2).drew.trans (zQ W2.drew (zQ6));have hca:=(qal ba).1;refine hK.out _ _ (fun _=>⟨(hca _ _ l0).trans b0,(hca _ _ l0).trans b1,(hca _ _ lp2).trans cellp,(hca _ _ ls2).trans s0,(hca _ _ ls2).trans s1,(hca _ _ ls2).trans s2,(hca _ _ ls2).trans s3⟩) ?_;clear hK K hca
   (try simp only [Act.put,zD,zE,zF])
   refine yW 10 rfl fun K hK=>?_;refine qat rfl 129 _ _ rfl #[.slice (some (aQ b' 0)) (y.pL p) cb,stV k ra (y.sS p).rs.length rc oa (y.sS p).os.length oc 0] (by simp [Act.eval]) (yA func129) (qbg b' 0 (y.pL p) cb k (y.pH p) 0 ra oa rc (y.sS p).os.length oc (y.sS p).rs (W2.drew.alloc (zQ6)) HX.1 (zL HI.2 (ba).size) (HI.1.bw (ba) HI.2) (SL.1.bw (ba)) HX.2.1 HX.2.2.1 HX.2.2.2) ?_;rintro e w5 ⟨he,d5⟩;rw [<- HN3.1,<- HN3.2.1,<- HN3.2.2] at he;refine ⟨_,he,?_⟩;have q5:Bw W2 w5:=qah (ba) d5 (by simp);have hc5:=(qal q5).1;have hHeld5:=And.intro ((hc5 _ _ l0).trans b0) (And.intro ((hc5 _ _ l0).trans b1) (And.intro ((hc5 _ _ lp2).trans cellp) (And.intro ((hc5 _ _ ls2).trans s0) (And.intro ((hc5 _ _ ls2).trans s1) (And.intro ((hc5 _ _ ls2).trans s2) ((hc5 _ _ ls2).trans s3))))));refine hK.out _ _ (fun _=>hHeld5) ?_;clear hK K
   (try simp only [Act.put,zD,zE,zF])
   have g:EvK w5 W2.heap.size 0 0 0:=(EvK.new W2.drew 0 0 0 49).bw d5;obtain ⟨g0,g1,g2,gf⟩:=id g;refine yW 12 rfl fun K hK=>?_;go_simp;refine hK.out _ _ (fun h=>?_) ?_
   ·exact absurd h (by decide)
   clear hK K
   (try simp only [Act.put])
   refine yX ?_ _;go_wp2_with fail
   go_meet
   case rel=>
    exact ⟨W2.heap.size,by with_reducible rfl,((q5.setCell (nA _) _).setCell (nA _) _).setCell (nA _) _,nA _,EvK.put g _ _ _⟩
 case rest=>
  obtain ⟨N,rfl,HRr⟩:=hcut;have hbe:=HRr.1;have hNl:W2.heap.size<=N:=HRr.2.1;have EV:Hid (EvK wc N (y.nk p) (y.nq p) (y.nv p)):=HRr.2.2;have hcc:=(qal hbe).1;have hcf:=(qal hbe).2;replace b0:=(hcc _ _ l0).trans b0;replace b1:=(hcc _ _ l0).trans b1;replace b2:=(hcc _ _ l0).trans b2;replace b3:=(hcc _ _ l0).trans b3;replace r0:=(hcc _ _ l1).trans r0;replace r1:=(hcc _ _ l1).trans r1;replace r2:=(hcc _ _ l1).trans r2;replace r3:=(hcc _ _ l1).trans r3;replace rf:∀ j,wc.frozen? ⟨w.heap.size+1,j,none⟩=false:=fun j=>(hcf _ j l1).trans (rf j);have hNw:w.heap.size<=N:=by omega
  have nN0:N≠w.heap.size:=by omega
  have nN1:N≠w.heap.size+1:=by omega
  have nN2:w.heap.size≠N:=by omega
  have nN3:w.heap.size+1≠N:=by omega
  have mN:N<wc.heap.size:=EV.lt;have BE2:Hid (Bw w wc):=BW.trans (hbe.mono BW.size);have BB2:Hid (Below B w wc):=BE2.mono hBw;have O0:Hid (OwnS z wc B (rcol c w.heap.size 0) y (sG gp y.pn cp) (sG gs y.sn cs) (sG gw y.wn cw) (sG gh y.hn ch) up us uw uh):=(OO.recol 0).bw BE2.out;have MM:Hid (Mid z y w B (rcol c w.heap.size 0) N (sG gp y.pn cp) (sG gs y.sn cs) (sG gw y.wn cw) (sG gh y.hn ch) up us uh wc):=⟨BB2.out,⟨b0,b1,b2,b3⟩,⟨r0,r1,r2,r3⟩,rf,⟨_,_,_,EV.out⟩,O0.p,O0.s,O0.h⟩
  have m0:w.heap.size<wc.heap.size:=by have:=hbe.size;omega
  have m1:w.heap.size+1<wc.heap.size:=by have:=hbe.size;omega
  have EK:Hid (y.nk p=y.nk p/\y.nq p=y.nq p/\y.nv p=y.nv p):=⟨rfl,rfl,rfl⟩
  obtain ⟨k0,k1,k2,kf⟩:=EV.out;generalize hK1:y.nk p=K at k0 EV HN3;generalize hQ1:y.nq p=Q at k1 EV HN3;generalize hY1:y.nv p=Y at k2 EV HN3;replace EK:Hid (y.nk p=K/\y.nq p=Q/\y.nv p=Y):=⟨hK1,hQ1,hY1⟩
  clear hcc hcf hbe HRr cellp s0 s1 s2 s3 cellh SL HI NB RB BW hK1 hQ1 hY1 l0 l1 lp2 ls2;have l1:=m1
  go_upto_block 0 with fail
  go_cut [10,11] from 50 to 130 (fun _ _ wx=>Hid (cmS y p f=0/\MidW z c y p w B N (y.nk p) (y.eq p f) (y.ev p f) (sG gp y.pn cp) (sG gs y.sn cs) (sG gw y.wn cw) (sG gh y.hn ch) up us uh wx))
  case first=>
   rcases zK (K == 2) with t2 | t2
   ·have hpe:=HO.peer hp (by rw [EK.1];simpa using t2)
    rw [EK.2.1] at hpe;obtain ⟨q,rfl⟩:∃ q:Nat,Q=q:=⟨Q.toNat,by omega⟩
    have hq:q<y.pn:=by omega
    have hJ:p*y.pn+q<y.wn:=by rw [HN.2.2];exact qua hp hq
    have hw12:y.wL (p*y.pn+q)<=12:=HO.way hp hq;have hpp:p*y.pn<=16:=zP (Nat.mul_le_mul (show p<=4 by omega) h4) (by omega)
    have FU:Hid (cmS y p f=if (decide (200<=y.hL p) || ((2:Int) == 2 && decide (12<=y.wL (p*y.pn+q))))=true then 4 else 0):=by
     show cmS y p f=_;have hk2:K=2:=by simpa using t2
     rw [HC.out,EK.1,EK.2.1,hk2];rfl
    have e1:(p:Int)*(y.pn:Int)=((p*y.pn:Nat):Int):=by simp
    have e2:((p*y.pn:Nat):Int)+(q:Int)=((p*y.pn+q:Nat):Int):=by simp
    have WY:Hid (y.way p (y.nk p) (y.eq p f) (y.ev p f)=y.setW (p*y.pn+q) (y.wL (p*y.pn+q)+1) (fun i=>if i=y.wL (p*y.pn+q) then ⟨false,Y⟩ else y.wH (p*y.pn+q) i)/\y.nk p=K/\y.eq p f=(q:Int)/\y.ev p f=Y):=by
     have hk2:y.nk p=2:=by rw [EK.1];simpa using t2
     have u1:y.eq p f=(q:Int):=by rw [Sy.eq,nB (by rw [hk2];decide),EK.2.1]
     have u2:y.ev p f=Y:=by rw [Sy.ev,nB (by rw [hk2];decide),EK.2.2]
     exact ⟨by rw [u1,u2,hk2,Sy.way_send],EK.1,u1,u2⟩
    generalize hJJ:p*y.pn+q=J at *;generalize hPP:p*y.pn=P1 at *;have hP16:(P1:Int)<=16:=by omega
    have hq4:(q:Int)<4:=by omega
    obtain ⟨gw',cw',ew,Pw,lw,cellw,fw⟩:=O0.t.cell hJ;simp only [Value.slice.injEq,nG,Addr.mk.injEq,and_true,true_and] at ew;obtain ⟨rfl,rfl⟩:=ew;obtain ⟨aw,cbw,euw⟩:=zU (O0.t.own J hJ);rw [euw] at cellw;have OW:=O0.t.own J hJ;rw [euw] at OW;have Cw:∀ b,(Value.slice aw (y.wL J) cbw).ownBlock=some b->Cl B (rcol c w.heap.size 0) 3 b:=fun b hb=>O0.t.ob J hJ b (by rw [euw];exact hb);have hwg:(Value.slice aw (y.wL J) cbw).ownBlock≠some gw:=fun e=>O0.t.ra J hJ gw (by rw [euw];exact e) rfl;have hJ':(J:Int)<(y.wn:Int):=by omega
    clear hJJ hPP hpe;by_cases h12:y.wL J=12
    case pos=>
     have HV:Hid (cmS y p f=4):=by
      show cmS y p f=4;rw [FU.out,nC (by simp [h12])]
     have t0:((y.wL J:Int) == 12)=true:=by simp [h12]
     go_wp2;exact bodyPost_ret (v:=.tuple #[sysV (some ⟨gp,0,none⟩) y.pn cp (some ⟨gs,0,none⟩) y.sn cs (some ⟨gw,0,none⟩) y.wn cw (some ⟨gh,0,none⟩) y.hn ch,iV 4]) (by simp [results,results123,go_sem,r0,r1,r2,r3]) rfl ⟨by rw [HV.out],(((BB2.setCell hM _).setCell hM _).setCell hM _).setCell hM _,O0.out4 (qcc c BE2.block) (nK _) (qad (nK _)) (Sy.step_no (by rw [HV.out];decide)) _ _ _ _⟩
    have HV:Hid (cmS y p f=0):=by
     show cmS y p f=0;rw [FU.out,nB (by have:=HL2.out;simp;omega)]
    have t0:((y.wL J:Int) == 12)=false:=by simp;omega
    go_wp2_with fail
    refine qag (fun w'=>w'.cell? (aQ w.heap.size 2)=some (sG gw y.wn cw)/\w'.cell? (aQ gw J)=some (.slice aw (y.wL J) cbw)/\w'.cell? (aQ N 2)=some (iV Y)) (fun i=>i == 14) (by kernel_rfl) ?_;have hHeld:=And.intro b2 (And.intro cellw k2);refine qbb [0,1,2,3,4,5,6,7,8,9,10] ?_;iterate 11 (refine qbr rfl hHeld ?_)
    refine qa2 ?_;refine yW 11 rfl fun K hK=>?_;go_simp;have ba:Bw wc (wc.drew.alloc (.cells #[.bool false,iV Y] 78)):=(nE wc.heap.size wc).drew.trans (zQ wc.drew _);have hca:=(qal ba).1;refine hK.out _ _ (fun _=>⟨(hca _ _ m0).trans b2,(hca _ _ lw).trans cellw,(hca _ _ mN).trans k2⟩) ?_;clear hca ba;clear hK K
    (try simp only [Act.put,zD,zE,zF])
    refine yW 12 rfl fun K hK=>?_;refine qa1 kndT wc.drew rfl rfl _ _ rfl 0 (.slice aw (y.wL J) cbw) (y.wL J) _ rfl OW #[.bool false,.int .i64 Y] rfl rfl (by intro u hu;simp at hu;rcases hu with rfl | rfl <;> rfl) (by omega) (nD _) ?_;intro v3 w3 o3 g3 q3 n3;obtain ⟨a3,c3,rfl⟩:=zU o3;have hk3:∀ b,b<wc.heap.size->(Value.slice aw (y.wL J) cbw).ownBlock≠some b->w3.heap[b]? = wc.heap[b]?:=fun b h1 h2=>g3.block b h1 fun e=>h2 e.symm;have hc3:∀ b o,b<wc.heap.size->(Value.slice aw (y.wL J) cbw).ownBlock≠some b->w3.cell? ⟨b,o,none⟩=wc.cell? ⟨b,o,none⟩:=fun b o h1 h2=>zH (hk3 b h1 h2)
    have hbwl:∀ b,(Value.slice aw (y.wL J) cbw).ownBlock=some b->b<w.heap.size:=fun b hb=>by
     rcases Nat.lt_or_ge b w.heap.size with h | h
     ·exact h
     ·have:=(Cw b hb).2
      rw [qad h] at this;cases this
    have hHeld:=And.intro ((hc3 _ _ m0 (fun e=>by have:=hbwl _ e;omega)).trans b2) (And.intro ((hc3 _ _ lw hwg).trans cellw) ((hc3 _ _ mN (fun e=>by have:=hbwl _ e;omega)).trans k2));have hfw:∀ j,w3.frozen? ⟨gw,j,none⟩=false:=fun j=>(zI (hk3 gw lw hwg)).trans (fw j);have g3':wc.grownBy w3 (Value.slice aw (y.wL J) cbw).ownBlock:=⟨g3.os,g3.tape,g3.output,g3.size,g3.block⟩
    have BN:Hid (Below B w (w3.setCell (aQ gw J) (.slice a3 (y.wL J+1) c3))):=(Below.grown BB2.out g3' (zP hBw BE2.size) (fun j hj=>(Cw j hj).1)).setCell PB.2.2.1 _;have MN:Hid (MidW z c y p w B N (y.nk p) (y.eq p f) (y.ev p f) (sG gp y.pn cp) (sG gs y.sn cs) (sG gw y.wn cw) (sG gh y.hn ch) up us uh (w3.setCell (aQ gw J) (.slice a3 (y.wL J+1) c3))):=MidW.put (qcc c BE2.block) BE2.size O0.out (qad (nA _)) (qad (nK _)) (qad hNw) (zP hBw BE2.size) ⟨b0,b1,b2,b3⟩ ⟨r0,r1,r2,r3⟩ rf (by rw [WY.2.1,WY.2.2.1,WY.2.2.2];exact EV.out) hJ g3'.size (fun b h1 h2=>hk3 b h1 fun e=>h2 (by rw [euw];exact e)) (by rw [qr1];exact o3) n3 (fun b hb=>(q3 b hb).imp (fun h=>by rw [euw];exact h) id) BN.out WY.1;refine hK.out _ _ (fun _=>hHeld) ?_;clear o3 g3 g3' q3 n3 hk3 hc3;clear hK K;refine qar 13 rfl hHeld ?_;refine yW 14 rfl fun K hK=>?_;have hcN:=hHeld.2.1;have hfN1:=hfw J;go_simp;refine hK.out _ _ (fun h=>?_) ?_
    ·exact absurd h (by decide)
    clear hK K
    (try simp only [Act.put])
    refine yX ?_ _;go_wp2_with fail
    go_meet
    case rel=>exact ⟨HV.out,MN.out⟩
   ·rcases zK (K == 3) with t3 | t3
    case inr=>
     have HV:Hid (cmS y p f=0):=by
      show cmS y p f=0;have hk2:K≠2:=by simpa using t2
      have hk3:K≠3:=by simpa using t3
      have hl:=HL2.out;rw [HC.out,EK.1,nB (by simp [fuS];omega),nB hk3]
     go_wp2_with fail
     go_meet
     case rel=>
      have hk2:y.nk p≠2:=by rw [EK.1];simpa using t2
      have hk3:y.nk p≠3:=by rw [EK.1];simpa using t3
      have u1:y.eq p f=Q:=by rw [Sy.eq,nB hk3,EK.2.1]
      have u2:y.ev p f=Y:=by rw [Sy.ev,nB hk3,EK.2.2]
      exact ⟨HV.out,MM.be,MM.bx,MM.rb,MM.rf,by rw [EK.1,u1,u2];exact EV.out,_,_,by rw [Sy.way_no y p hk2 hk3];exact O0.out,qad (nA _),qad (nK _),qad hNw,qcc c BE2.block⟩
    have TK0:Hid (cmS y p f=tkS y p (if Q=9 then f else Q)):=by
     show cmS y p f=_;have hk2:K≠2:=by simpa using t2
     have hk3:K=3:=by simpa using t3
     have hl:=HL2.out;rw [HC.out,EK.1,EK.2.1,nB (by simp [fuS,hk3];omega),nC hk3]
    rcases zK (Q == 9) with t9 | t9
    ·obtain ⟨F,hFf⟩:∃ F:Int,F=f:=⟨f,rfl⟩
     have TK:Hid (cmS y p f=tkS y p F):=by
      show cmS y p f=_;rw [hFf,TK0.out,nC (by simpa using t9)]
     have EQ:Hid (y.eq p f=F):=by
      show y.eq p f=F;rw [Sy.eq,nC (by rw [EK.1];simpa using t3),EK.2.1,nC (by simpa using t9),hFf]
     clear TK0;go_wp2_with fail
     refine (l1In_any _ _ _ _).mono ?_;rintro e w1 ⟨rfl,hw1⟩;rw [hw1];clear hw1 w1;have hkd:∀ k,k≠N->(wc.setCell ⟨N,1,none⟩ (iV f)).heap[k]? = wc.heap[k]?:=fun k hk=>zO _ _ _ _ hk;replace b0:=(zH (a:=(aQ w.heap.size 0)) (hkd _ nN2)).trans b0;replace b1:=(zH (a:=(aQ w.heap.size 1)) (hkd _ nN2)).trans b1;replace b2:=(zH (a:=(aQ w.heap.size 2)) (hkd _ nN2)).trans b2;replace b3:=(zH (a:=(aQ w.heap.size 3)) (hkd _ nN2)).trans b3;replace r0:=(zH (a:=⟨w.heap.size+1,0,none⟩) (hkd _ nN3)).trans r0;replace r1:=(zH (a:=⟨w.heap.size+1,1,none⟩) (hkd _ nN3)).trans r1;replace r2:=(zH (a:=⟨w.heap.size+1,2,none⟩) (hkd _ nN3)).trans r2;replace r3:=(zH (a:=⟨w.heap.size+1,3,none⟩) (hkd _ nN3)).trans r3;replace rf:∀ j,(wc.setCell ⟨N,1,none⟩ (iV f)).frozen? ⟨w.heap.size+1,j,none⟩=false:=fun j=>(zI (hkd _ nN3)).trans (rf j);replace EV:Hid (EvK (wc.setCell (aQ N 1) (iV f)) N K F Y):=by rw [hFf];exact EV.set1 f
     obtain ⟨k0,k1,k2,kf⟩:=EV.out;replace O0:Hid (OwnS z (wc.setCell (aQ N 1) (iV f)) B (rcol c w.heap.size 0) y (sG gp y.pn cp) (sG gs y.sn cs) (sG gw y.wn cw) (sG gh y.hn ch) up us uw uh):=O0.setOut (qad hNw) 1 _;replace MM:Hid (Mid z y w B (rcol c w.heap.size 0) N (sG gp y.pn cp) (sG gs y.sn cs) (sG gw y.wn cw) (sG gh y.hn ch) up us uh (wc.setCell (aQ N 1) (iV f))):=MM.setN (qad hNw) (by omega) nN0 nN1 1 _ ⟨_,_,_,EV.out⟩;replace BB2:Hid (Below B w (wc.setCell (aQ N 1) (iV f))):=BB2.setCell (show B<=N by omega) _;replace BE2:Hid (Bw w (wc.setCell (aQ N 1) (iV f))):=BE2.setCell hNw _;replace m0:w.heap.size<(wc.setCell (aQ N 1) (iV f)).heap.size:=by simpa using m0
     replace m1:w.heap.size+1<(wc.setCell (aQ N 1) (iV f)).heap.size:=by simpa using m1
     replace mN:N<(wc.setCell (aQ N 1) (iV f)).heap.size:=by simpa using mN
     replace l1:=m1;rw [show inB f 0 ((y.pn:Int) - 1)=inB F 0 ((y.pn:Int) - 1) from by rw [hFf]];clear hkd hFf;generalize wc.setCell (aQ N 1) (iV f)=wd at *
     rcases zK (inB F 0 ((y.pn:Int) - 1)) with tF | tF
     case inr=>
      have HV:Hid (cmS y p f=2):=by
       show cmS y p f=2;rw [TK.out,tkS,nB];simp only [inB,decide_eq_false_iff_not] at tF;simp only [belB,nI];omega
      rw [tF];go_wp2;exact bodyPost_ret (v:=.tuple #[sysV (some ⟨gp,0,none⟩) y.pn cp (some ⟨gs,0,none⟩) y.sn cs (some ⟨gw,0,none⟩) y.wn cw (some ⟨gh,0,none⟩) y.hn ch,iV 2]) (by simp [results,results123,go_sem,r0,r1,r2,r3]) rfl ⟨by rw [HV.out],(((BB2.setCell hM _).setCell hM _).setCell hM _).setCell hM _,O0.out4 (qcc c BE2.block) (nK _) (qad (nK _)) (Sy.step_no (by rw [HV.out];decide)) _ _ _ _⟩
     have hF:0<=F/\F<=(y.pn:Int) - 1:=by
      simp only [inB,nI] at tF;exact tF
     obtain ⟨g,rfl⟩:∃ g:Nat,F=g:=⟨F.toNat,by omega⟩
     have hg:g<y.pn:=by omega
     have hJ:g*y.pn+p<y.wn:=by rw [HN.2.2];exact qua hg hp
     have hw12:y.wL (g*y.pn+p)<=12:=HO.way hg hp;have hpp:g*y.pn<=16:=zP (Nat.mul_le_mul (show g<=4 by omega) h4) (by omega)
     have FU:Hid (cmS y p f=if y.wL (g*y.pn+p)=0 then 3 else if (y.wH (g*y.pn+p) 0).m=true then 5 else 0):=by
      show cmS y p f=_;rw [TK.out,tkS,nC (by simp only [belB,nI];omega)];rfl
     have e1:(g:Int)*(y.pn:Int)=((g*y.pn:Nat):Int):=by simp
     have e2:((g*y.pn:Nat):Int)+(p:Int)=((g*y.pn+p:Nat):Int):=by simp
     have WY:Hid (y.way p (y.nk p) (y.eq p f) (y.ev p f)=y.setW (g*y.pn+p) (y.wL (g*y.pn+p) - 1) (fun i=>y.wH (g*y.pn+p) (i+1))/\y.nk p=K/\y.eq p f=(g:Int)/\y.ev p f=(y.wH (g*y.pn+p) 0).v):=by
      have hk3:y.nk p=3:=by rw [EK.1];simpa using t3
      have u2:y.ev p f=(y.wH (g*y.pn+p) 0).v:=by rw [Sy.ev,nC hk3,EQ.out];rfl
      exact ⟨by rw [EQ.out,hk3,Sy.way_take],EK.1,EQ.out,u2⟩
     generalize hJJ:g*y.pn+p=J at *;generalize hPP:g*y.pn=P1 at *;have hP16:(P1:Int)<=16:=by omega
     obtain ⟨gw',cw',ew,Pw,lw,cellw,fw⟩:=O0.t.cell hJ;simp only [Value.slice.injEq,nG,Addr.mk.injEq,and_true,true_and] at ew;obtain ⟨rfl,rfl⟩:=ew;obtain ⟨aw,cbw,euw⟩:=zU (O0.t.own J hJ);rw [euw] at cellw;have hJ':(J:Int)<(y.wn:Int):=by omega
     clear hJJ hPP hF TK;by_cases h12:y.wL J=0
     case pos=>
      have HV:Hid (cmS y p f=3):=by
       show cmS y p f=3;rw [FU.out,nC h12]
      have t0:((y.wL J:Int) == 0)=true:=by simp [h12]
      rw [tF];go_wp2;exact bodyPost_ret (v:=.tuple #[sysV (some ⟨gp,0,none⟩) y.pn cp (some ⟨gs,0,none⟩) y.sn cs (some ⟨gw,0,none⟩) y.wn cw (some ⟨gh,0,none⟩) y.hn ch,iV 3]) (by simp [results,results123,go_sem,r0,r1,r2,r3]) rfl ⟨by rw [HV.out],(((BB2.setCell hM _).setCell hM _).setCell hM _).setCell hM _,O0.out4 (qcc c BE2.block) (nK _) (qad (nK _)) (Sy.step_no (by rw [HV.out];decide)) _ _ _ _⟩
     have t0:((y.wL J:Int) == 0)=false:=by simp;omega
     obtain ⟨bw,cb2,euw2,hbw,hIt,hcapw⟩:=atT (O0.t.own J hJ) (qi9 (O0.t.own J hJ) (by omega));rw [euw] at euw2;simp only [Value.slice.injEq,true_and] at euw2;obtain ⟨rfl,rfl⟩:=euw2;have OW:=O0.t.own J hJ;rw [euw] at OW;have Cw:Cl B (rcol c w.heap.size 0) 3 bw:=O0.t.ob J hJ bw (by rw [euw];rfl);have hwg:bw≠gw:=fun e=>O0.t.ra J hJ bw (by rw [euw];rfl) (by rw [e];rfl);obtain ⟨i0,i1⟩:=hIt 0 (by omega);simp only [nL,Nat.zero_mul] at i0 i1;have hpos:(0:Int)<(y.wL J:Int):=by omega
     have hpos1:(1:Int)<=(y.wL J:Int):=by omega
     have hbwl:bw<w.heap.size:=by
      rcases Nat.lt_or_ge bw w.heap.size with h | h
      ·exact h
      ·have:=Cw.2
       rw [qad h] at this;cases this
     rcases zK (y.wH J 0).m with tm | tm
     case inl=>
      have HV:Hid (cmS y p f=5):=by
       show cmS y p f=5;rw [FU.out,nB h12,nC tm]
      rw [tm] at i0;rw [tF];go_wp2;exact bodyPost_ret (v:=.tuple #[sysV (some ⟨gp,0,none⟩) y.pn cp (some ⟨gs,0,none⟩) y.sn cs (some ⟨gw,0,none⟩) y.wn cw (some ⟨gh,0,none⟩) y.hn ch,iV 5]) (by simp [results,results123,go_sem,r0,r1,r2,r3]) rfl ⟨by rw [HV.out],(((BB2.setCell hM _).setCell hM _).setCell hM _).setCell hM _,O0.out4 (qcc c BE2.block) (nK _) (qad (nK _)) (Sy.step_no (by rw [HV.out];decide)) _ _ _ _⟩
     have HV:Hid (cmS y p f=0):=by
      show cmS y p f=0;rw [FU.out,nB h12,nB (by rw [tm];decide)]
     rw [tm] at i0;rw [tF];go_wp2_with fail
     have c2:(wd.setCell (aQ N 2) (iV (y.wH J 0).v)).cell? (aQ w.heap.size 2)=some (sG gw y.wn cw):=(zH (zO _ _ _ _ nN2)).trans b2;have c1:(wd.setCell (aQ N 2) (iV (y.wH J 0).v)).cell? (aQ N 1)=some (iV (g:Int)):=(World.cell?_setCell_other _ _ _ _ (by simp)).trans k1;have cw':(wd.setCell (aQ N 2) (iV (y.wH J 0).v)).cell? (aQ gw J)=some (sG bw (y.wL J) cbw):=(zH (zO _ _ _ _ (show gw≠N by have:=LW.out;omega))).trans cellw;have fw':∀ j,(wd.setCell ⟨N,2,none⟩ (iV (y.wH J 0).v)).frozen? ⟨gw,j,none⟩=false:=fun j=>by simpa using fw j
     have hbN:bw≠N:=by omega
     have hitc:∀ o,(wd.setCell ⟨N,2,none⟩ (iV (y.wH J 0).v)).cell? ⟨bw,o,none⟩=wd.cell? ⟨bw,o,none⟩:=fun o=>zH (zO _ _ _ _ hbN)
     have SR2:Hid (Src (wd.setCell (aQ N 2) (iV (y.wH J 0).v)) (some (aQ bw 2)) (fT (fun i=>y.wH J (i+1)) (y.wL J - 1))):=by
      refine qtx (sz:=2) (by simpa using hbw) (by omega) (fun _ _=>rfl) fun i hi j hj=>?_;obtain ⟨h0,h1⟩:=hIt (i+1) (by omega)
      match j,hj with
      | 0,_=>rw [show 2+(i*2+0)=0+(i+1)*2 by omega];exact (hitc _).trans h0
      | 1,_=>rw [show 2+(i*2+1)=0+(i+1)*2+1 by omega];exact (hitc _).trans h1
     have M2:Hid (Mid z y w B (rcol c w.heap.size 0) N (sG gp y.pn cp) (sG gs y.sn cs) (sG gw y.wn cw) (sG gh y.hn ch) up us uh (wd.setCell (aQ N 2) (iV (y.wH J 0).v))):=MM.setN (qad hNw) (by omega) nN0 nN1 2 _ ⟨_,_,_,EV.set2 _⟩;have lw2:gw<(wd.setCell (aQ N 2) (iV (y.wH J 0).v)).heap.size:=by simpa using lw
     have mN2:N<(wd.setCell (aQ N 2) (iV (y.wH J 0).v)).heap.size:=by simpa using mN
     have m02:w.heap.size<(wd.setCell (aQ N 2) (iV (y.wH J 0).v)).heap.size:=by simpa using m0
     have OE:Hid (OwnS z (wd.setCell (aQ N 2) (iV (y.wH J 0).v)) B (rcol c w.heap.size 0) y (sG gp y.pn cp) (sG gs y.sn cs) (sG gw y.wn cw) (sG gh y.hn ch) up us uw uh):=O0.setOut (qad hNw) 2 _;have EV2:Hid (EvK (wd.setCell (aQ N 2) (iV (y.wH J 0).v)) N K (g:Int) (y.wH J 0).v):=EV.set2 _;have BE3:Hid (Bw w (wd.setCell (aQ N 2) (iV (y.wH J 0).v))):=BE2.setCell hNw _;generalize wd.setCell (aQ N 2) (iV (y.wH J 0).v)=we at *;have hl1:(y.wL J:Int) - 1=((y.wL J - 1:Nat):Int):=by omega
     have wr1:IntKind.i64.wrap (P1:Int)=(P1:Int):=by rw [IntKind.wrap_i64];omega
     have wr2:IntKind.i64.wrap (J:Int)=(J:Int):=by rw [IntKind.wrap_i64];omega
     refine qag (fun w'=>w'.cell? (aQ w.heap.size 2)=some (sG gw y.wn cw)/\w'.cell? (aQ N 1)=some (iV (g:Int))) (fun i=>i == 13) (by kernel_rfl) ?_;have hHeld:=And.intro c2 c1;refine qbb [0,1,2,3,4,5,6,7,9,10] ?_;iterate 10 (refine qbr rfl hHeld ?_)
     refine qa2 ?_;refine yW 8 rfl fun K hK=>?_;go_simp;have ba:Bw we (we.drew.alloc (.cells #[] 78)):=(nE we.heap.size we).drew.trans (zQ we.drew _);have hca:=(qal ba).1;refine hK.out _ _ (fun _=>⟨(hca _ _ m02).trans c2,(hca _ _ mN2).trans c1⟩) ?_;clear hca ba;clear hK K
     (try simp only [Act.put,zD,zE,zF])
     refine yW 11 rfl fun K hK=>?_
     refine qbx kndT we.drew rfl rfl _ _ rfl _ (y.wL J - 1) _ (fT (fun i => y.wH J (i + 1)) (y.wL J - 1)) rfl rfl (qly _ _) (by
      by_cases hcb:cbw=1
      ·exact .inl (by rw [show y.wL J - 1=0 by omega];rfl)
      ·have h:Src we.drew (some (aQ bw 2)) (fT (fun i=>y.wH J (i+1)) (y.wL J - 1)):=SR2.out
       simpa [hcb] using h) (qo4 _ _) (by omega) ?_
     intro v3 w3 o3 d3 n3;obtain ⟨a3,c3,rfl⟩:=zU o3;have q3:Bw we w3:=(nE we.heap.size we).drew.trans d3;have hc3:=(qal q3).1;have hHeld:=And.intro ((hc3 _ _ m02).trans c2) ((hc3 _ _ mN2).trans c1);have hcw3:=(hc3 _ _ lw2).trans cw';have hfw:∀ j,w3.frozen? ⟨gw,j,none⟩=false:=fun j=>((qal q3).2 _ j lw2).trans (fw' j);have BN:Hid (Below B w (w3.setCell (aQ gw J) (.slice a3 (y.wL J - 1) c3))):=(M2.be.trans (q3.mono (zP hBw (by have:=M2.bx.ltM;omega)))).setCell PB.2.2.1 _;have MN:Hid (MidW z c y p w B N (y.nk p) (y.eq p f) (y.ev p f) (sG gp y.pn cp) (sG gs y.sn cs) (sG gw y.wn cw) (sG gh y.hn ch) up us uh (w3.setCell (aQ gw J) (.slice a3 (y.wL J - 1) c3))):=MidW.put (qcc c BE3.block) BE3.size OE.out (qad (nA _)) (qad (nK _)) (qad hNw) (zP hBw (nJ M2.bx.ltM)) M2.bx M2.rb M2.rf (by rw [WY.2.1,WY.2.2.1,WY.2.2.2];exact EV2.out) hJ q3.size (fun b h1 _=>q3.block b h1) (qcr o3) n3 (fun b hb=>.inr (o3.lt b hb).1) BN.out WY.1;refine hK.out _ _ (fun _=>hHeld) ?_;clear o3 d3 q3 n3 hc3;clear hK K;refine qar 12 rfl hHeld ?_;refine yW 13 rfl fun K hK=>?_;have hfN1:=hfw J;go_simp;refine hK.out _ _ (fun h=>?_) ?_
     ·exact absurd h (by decide)
     clear hK K
     (try simp only [Act.put])
     refine yX ?_ _;go_wp2_with fail
     all_goals
      go_meet
      case rel=>exact ⟨HV.out,MN.out⟩
    ·have TK:Hid (cmS y p f=tkS y p Q):=by
      show cmS y p f=_;rw [TK0.out,nB (by simpa using t9)]
     have EQ:Hid (y.eq p f=Q):=by
      show y.eq p f=Q;rw [Sy.eq,nC (by rw [EK.1];simpa using t3),EK.2.1,nB (by simpa using t9)]
     clear TK0;go_wp2_with fail
     refine (l1In_any _ _ _ _).mono ?_;rintro e w1 ⟨rfl,hw1⟩;rw [hw1];clear hw1 w1
     rcases zK (inB Q 0 ((y.pn:Int) - 1)) with tF | tF
     case inr=>
      have HV:Hid (cmS y p f=2):=by
       show cmS y p f=2;rw [TK.out,tkS,nB];simp only [inB,decide_eq_false_iff_not] at tF;simp only [belB,nI];omega
      rw [tF];go_wp2;exact bodyPost_ret (v:=.tuple #[sysV (some ⟨gp,0,none⟩) y.pn cp (some ⟨gs,0,none⟩) y.sn cs (some ⟨gw,0,none⟩) y.wn cw (some ⟨gh,0,none⟩) y.hn ch,iV 2]) (by simp [results,results123,go_sem,r0,r1,r2,r3]) rfl ⟨by rw [HV.out],(((BB2.setCell hM _).setCell hM _).setCell hM _).setCell hM _,O0.out4 (qcc c BE2.block) (nK _) (qad (nK _)) (Sy.step_no (by rw [HV.out];decide)) _ _ _ _⟩
     have hF:0<=Q/\Q<=(y.pn:Int) - 1:=by
      simp only [inB,nI] at tF;exact tF
     obtain ⟨g,rfl⟩:∃ g:Nat,Q=g:=⟨Q.toNat,by omega⟩
     have hg:g<y.pn:=by omega
     have hJ:g*y.pn+p<y.wn:=by rw [HN.2.2];exact qua hg hp
     have hw12:y.wL (g*y.pn+p)<=12:=HO.way hg hp;have hpp:g*y.pn<=16:=zP (Nat.mul_le_mul (show g<=4 by omega) h4) (by omega)
     have FU:Hid (cmS y p f=if y.wL (g*y.pn+p)=0 then 3 else if (y.wH (g*y.pn+p) 0).m=true then 5 else 0):=by
      show cmS y p f=_;rw [TK.out,tkS,nC (by simp only [belB,nI];omega)];rfl
     have e1:(g:Int)*(y.pn:Int)=((g*y.pn:Nat):Int):=by simp
     have e2:((g*y.pn:Nat):Int)+(p:Int)=((g*y.pn+p:Nat):Int):=by simp
     have WY:Hid (y.way p (y.nk p) (y.eq p f) (y.ev p f)=y.setW (g*y.pn+p) (y.wL (g*y.pn+p) - 1) (fun i=>y.wH (g*y.pn+p) (i+1))/\y.nk p=K/\y.eq p f=(g:Int)/\y.ev p f=(y.wH (g*y.pn+p) 0).v):=by
      have hk3:y.nk p=3:=by rw [EK.1];simpa using t3
      have u2:y.ev p f=(y.wH (g*y.pn+p) 0).v:=by rw [Sy.ev,nC hk3,EQ.out];rfl
      exact ⟨by rw [EQ.out,hk3,Sy.way_take],EK.1,EQ.out,u2⟩
     generalize hJJ:g*y.pn+p=J at *;generalize hPP:g*y.pn=P1 at *;have hP16:(P1:Int)<=16:=by omega
     obtain ⟨gw',cw',ew,Pw,lw,cellw,fw⟩:=O0.t.cell hJ;simp only [Value.slice.injEq,nG,Addr.mk.injEq,and_true,true_and] at ew;obtain ⟨rfl,rfl⟩:=ew;obtain ⟨aw,cbw,euw⟩:=zU (O0.t.own J hJ);rw [euw] at cellw;have hJ':(J:Int)<(y.wn:Int):=by omega
     clear hJJ hPP hF TK;by_cases h12:y.wL J=0
     case pos=>
      have HV:Hid (cmS y p f=3):=by
       show cmS y p f=3;rw [FU.out,nC h12]
      have t0:((y.wL J:Int) == 0)=true:=by simp [h12]
      rw [tF];go_wp2;exact bodyPost_ret (v:=.tuple #[sysV (some ⟨gp,0,none⟩) y.pn cp (some ⟨gs,0,none⟩) y.sn cs (some ⟨gw,0,none⟩) y.wn cw (some ⟨gh,0,none⟩) y.hn ch,iV 3]) (by simp [results,results123,go_sem,r0,r1,r2,r3]) rfl ⟨by rw [HV.out],(((BB2.setCell hM _).setCell hM _).setCell hM _).setCell hM _,O0.out4 (qcc c BE2.block) (nK _) (qad (nK _)) (Sy.step_no (by rw [HV.out];decide)) _ _ _ _⟩
     have t0:((y.wL J:Int) == 0)=false:=by simp;omega
     obtain ⟨bw,cb2,euw2,hbw,hIt,hcapw⟩:=atT (O0.t.own J hJ) (qi9 (O0.t.own J hJ) (by omega));rw [euw] at euw2;simp only [Value.slice.injEq,true_and] at euw2;obtain ⟨rfl,rfl⟩:=euw2;have OW:=O0.t.own J hJ;rw [euw] at OW;have Cw:Cl B (rcol c w.heap.size 0) 3 bw:=O0.t.ob J hJ bw (by rw [euw];rfl);have hwg:bw≠gw:=fun e=>O0.t.ra J hJ bw (by rw [euw];rfl) (by rw [e];rfl);obtain ⟨i0,i1⟩:=hIt 0 (by omega);simp only [nL,Nat.zero_mul] at i0 i1;have hpos:(0:Int)<(y.wL J:Int):=by omega
     have hpos1:(1:Int)<=(y.wL J:Int):=by omega
     have hbwl:bw<w.heap.size:=by
      rcases Nat.lt_or_ge bw w.heap.size with h | h
      ·exact h
      ·have:=Cw.2
       rw [qad h] at this;cases this
     rcases zK (y.wH J 0).m with tm | tm
     case inl=>
      have HV:Hid (cmS y p f=5):=by
       show cmS y p f=5;rw [FU.out,nB h12,nC tm]
      rw [tm] at i0;rw [tF];go_wp2;exact bodyPost_ret (v:=.tuple #[sysV (some ⟨gp,0,none⟩) y.pn cp (some ⟨gs,0,none⟩) y.sn cs (some ⟨gw,0,none⟩) y.wn cw (some ⟨gh,0,none⟩) y.hn ch,iV 5]) (by simp [results,results123,go_sem,r0,r1,r2,r3]) rfl ⟨by rw [HV.out],(((BB2.setCell hM _).setCell hM _).setCell hM _).setCell hM _,O0.out4 (qcc c BE2.block) (nK _) (qad (nK _)) (Sy.step_no (by rw [HV.out];decide)) _ _ _ _⟩
     have HV:Hid (cmS y p f=0):=by
      show cmS y p f=0;rw [FU.out,nB h12,nB (by rw [tm];decide)]
     rw [tm] at i0;rw [tF];go_wp2_with fail
     have c2:(wc.setCell (aQ N 2) (iV (y.wH J 0).v)).cell? (aQ w.heap.size 2)=some (sG gw y.wn cw):=(zH (zO _ _ _ _ nN2)).trans b2;have c1:(wc.setCell (aQ N 2) (iV (y.wH J 0).v)).cell? (aQ N 1)=some (iV (g:Int)):=(World.cell?_setCell_other _ _ _ _ (by simp)).trans k1;have cw':(wc.setCell (aQ N 2) (iV (y.wH J 0).v)).cell? (aQ gw J)=some (sG bw (y.wL J) cbw):=(zH (zO _ _ _ _ (show gw≠N by have:=LW.out;omega))).trans cellw;have fw':∀ j,(wc.setCell ⟨N,2,none⟩ (iV (y.wH J 0).v)).frozen? ⟨gw,j,none⟩=false:=fun j=>by simpa using fw j
     have hbN:bw≠N:=by omega
     have hitc:∀ o,(wc.setCell ⟨N,2,none⟩ (iV (y.wH J 0).v)).cell? ⟨bw,o,none⟩=wc.cell? ⟨bw,o,none⟩:=fun o=>zH (zO _ _ _ _ hbN)
     have SR2:Hid (Src (wc.setCell (aQ N 2) (iV (y.wH J 0).v)) (some (aQ bw 2)) (fT (fun i=>y.wH J (i+1)) (y.wL J - 1))):=by
      refine qtx (sz:=2) (by simpa using hbw) (by omega) (fun _ _=>rfl) fun i hi j hj=>?_;obtain ⟨h0,h1⟩:=hIt (i+1) (by omega)
      match j,hj with
      | 0,_=>rw [show 2+(i*2+0)=0+(i+1)*2 by omega];exact (hitc _).trans h0
      | 1,_=>rw [show 2+(i*2+1)=0+(i+1)*2+1 by omega];exact (hitc _).trans h1
     have M2:Hid (Mid z y w B (rcol c w.heap.size 0) N (sG gp y.pn cp) (sG gs y.sn cs) (sG gw y.wn cw) (sG gh y.hn ch) up us uh (wc.setCell (aQ N 2) (iV (y.wH J 0).v))):=MM.setN (qad hNw) (by omega) nN0 nN1 2 _ ⟨_,_,_,EV.set2 _⟩;have lw2:gw<(wc.setCell (aQ N 2) (iV (y.wH J 0).v)).heap.size:=by simpa using lw
     have mN2:N<(wc.setCell (aQ N 2) (iV (y.wH J 0).v)).heap.size:=by simpa using mN
     have m02:w.heap.size<(wc.setCell (aQ N 2) (iV (y.wH J 0).v)).heap.size:=by simpa using m0
     have OE:Hid (OwnS z (wc.setCell (aQ N 2) (iV (y.wH J 0).v)) B (rcol c w.heap.size 0) y (sG gp y.pn cp) (sG gs y.sn cs) (sG gw y.wn cw) (sG gh y.hn ch) up us uw uh):=O0.setOut (qad hNw) 2 _;have EV2:Hid (EvK (wc.setCell (aQ N 2) (iV (y.wH J 0).v)) N K (g:Int) (y.wH J 0).v):=EV.set2 _;have BE3:Hid (Bw w (wc.setCell (aQ N 2) (iV (y.wH J 0).v))):=BE2.setCell hNw _;generalize wc.setCell (aQ N 2) (iV (y.wH J 0).v)=we at *;have hl1:(y.wL J:Int) - 1=((y.wL J - 1:Nat):Int):=by omega
     have wr1:IntKind.i64.wrap (P1:Int)=(P1:Int):=by rw [IntKind.wrap_i64];omega
     have wr2:IntKind.i64.wrap (J:Int)=(J:Int):=by rw [IntKind.wrap_i64];omega
     refine qag (fun w'=>w'.cell? (aQ w.heap.size 2)=some (sG gw y.wn cw)/\w'.cell? (aQ N 1)=some (iV (g:Int))) (fun i=>i == 13) (by kernel_rfl) ?_;have hHeld:=And.intro c2 c1;refine qbb [0,1,2,3,4,5,6,7,9,10] ?_;iterate 10 (refine qbr rfl hHeld ?_)
     refine qa2 ?_;refine yW 8 rfl fun K hK=>?_;go_simp;have ba:Bw we (we.drew.alloc (.cells #[] 78)):=(nE we.heap.size we).drew.trans (zQ we.drew _);have hca:=(qal ba).1;refine hK.out _ _ (fun _=>⟨(hca _ _ m02).trans c2,(hca _ _ mN2).trans c1⟩) ?_;clear hca ba;clear hK K
     (try simp only [Act.put,zD,zE,zF])
     refine yW 11 rfl fun K hK=>?_
     refine qbx kndT we.drew rfl rfl _ _ rfl _ (y.wL J - 1) _ (fT (fun i => y.wH J (i + 1)) (y.wL J - 1)) rfl rfl (qly _ _) (by
      by_cases hcb:cbw=1
      ·exact .inl (by rw [show y.wL J - 1=0 by omega];rfl)
      ·have h:Src we.drew (some (aQ bw 2)) (fT (fun i=>y.wH J (i+1)) (y.wL J - 1)):=SR2.out
       simpa [hcb] using h) (qo4 _ _) (by omega) ?_
     intro v3 w3 o3 d3 n3;obtain ⟨a3,c3,rfl⟩:=zU o3;have q3:Bw we w3:=(nE we.heap.size we).drew.trans d3;have hc3:=(qal q3).1;have hHeld:=And.intro ((hc3 _ _ m02).trans c2) ((hc3 _ _ mN2).trans c1);have hcw3:=(hc3 _ _ lw2).trans cw';have hfw:∀ j,w3.frozen? ⟨gw,j,none⟩=false:=fun j=>((qal q3).2 _ j lw2).trans (fw' j);have BN:Hid (Below B w (w3.setCell (aQ gw J) (.slice a3 (y.wL J - 1) c3))):=(M2.be.trans (q3.mono (zP hBw (by have:=M2.bx.ltM;omega)))).setCell PB.2.2.1 _;have MN:Hid (MidW z c y p w B N (y.nk p) (y.eq p f) (y.ev p f) (sG gp y.pn cp) (sG gs y.sn cs) (sG gw y.wn cw) (sG gh y.hn ch) up us uh (w3.setCell (aQ gw J) (.slice a3 (y.wL J - 1) c3))):=MidW.put (qcc c BE3.block) BE3.size OE.out (qad (nA _)) (qad (nK _)) (qad hNw) (zP hBw (nJ M2.bx.ltM)) M2.bx M2.rb M2.rf (by rw [WY.2.1,WY.2.2.1,WY.2.2.2];exact EV2.out) hJ q3.size (fun b h1 _=>q3.block b h1) (qcr o3) n3 (fun b hb=>.inr (o3.lt b hb).1) BN.out WY.1;refine hK.out _ _ (fun _=>hHeld) ?_;clear o3 d3 q3 n3 hc3;clear hK K;refine qar 12 rfl hHeld ?_;refine yW 13 rfl fun K hK=>?_;have hfN1:=hfw J;go_simp;refine hK.out _ _ (fun h=>?_) ?_
     ·exact absurd h (by decide)
     clear hK K
     (try simp only [Act.put])
     refine yX ?_ _;go_wp2_with fail
     all_goals
      go_meet
      case rel=>exact ⟨HV.out,MN.out⟩
  case rest=>
   have HV:Hid (cmS y p f=0):=hcut.1;have M:Hid (MidW z c y p w B N (y.nk p) (y.eq p f) (y.ev p f) (sG gp y.pn cp) (sG gs y.sn cs) (sG gw y.wn cw) (sG gh y.hn ch) up us uh wc):=hcut.2
   have ST:Hid (y.step p f=((y.way p (y.nk p) (y.eq p f) (y.ev p f)).setS p (doS (y.pH p) (y.pL p) (k:Int) (y.sS p).rs (y.sS p).os 0 (y.nk p) (y.eq p f) (y.ev p f))).setH p (y.hL p+1) (fun i=>if i=y.hL p then ⟨y.nk p,y.eq p f,y.ev p f⟩ else y.hH p i)):=by
    show y.step p f=_;rw [Sy.step,nC HV.out];show ((y.way p (y.nk p) (y.eq p f) (y.ev p f)).setS p (doS (y.pH p) (y.pL p) (y.sS p).p (y.sS p).rs (y.sS p).os (y.sS p).c (y.nk p) (y.eq p f) (y.ev p f))).setH p (y.hL p+1) (fun i=>if i=y.hL p then ⟨y.nk p,y.eq p f,y.ev p f⟩ else y.hH p i)=_;rw [EKp.1,EKp.2]
   generalize y.nk p=k9 at M ST;generalize y.eq p f=q9 at M ST;generalize y.ev p f=v9 at M ST;clear hcut MM O0 EV k0 k1 k2 kf b0 b1 b2 b3 r0 r1 r2 r3 rf m0 m1 l1 mN BB2 BE2;obtain ⟨b0,b1,b2,b3⟩:=M.bx;have EV:=M.ev;obtain ⟨c',uw',OM,zb,zr,zN,KPm⟩:=M.ow;have OMp:LI z wc (Cl B c' 1) (sG gp y.pn cp) y.pn up y.pL y.pH:=OM.p;have OMs:LS wc (Cl B c' 2) (sG gs y.sn cs) y.sn us y.sS:=OM.s;have OMh:LE z wc (Cl B c' 4) (sG gh y.hn ch) y.hn uh y.hL y.hH:=OM.h;obtain ⟨k0,k1,k2,kf⟩:=id EV;have mN:N<wc.heap.size:=EV.lt;have m0:w.heap.size<wc.heap.size:=M.bx.ltM;have m1:w.heap.size+1<wc.heap.size:=M.rb.ltM;obtain ⟨g9,c9,ew,Pp,lp,cellp,-⟩:=OMp.cell hp;simp only [Value.slice.injEq,nG,Addr.mk.injEq,and_true,true_and] at ew;obtain ⟨rfl,rfl⟩:=ew;obtain ⟨b9,cb9,eup,hb9,hI,-⟩:=atI (OMp.own p hp) (OMp.nn nzI p hp);rw [eup] at cellp;obtain ⟨g9,c9,ew,Ps,ls,cels,fs⟩:=OMs.cell hps;simp only [Value.slice.injEq,nG,Addr.mk.injEq,and_true,true_and] at ew;obtain ⟨rfl,rfl⟩:=ew;obtain ⟨ra9,rc9,oa9,oc9,eus,s0,s1,s2,s3⟩:=cels;rw [EKp.1] at s0;rw [EKp.2] at s3
   have hsl:Sl wc ra9 (y.sS p).rs/\Sl wc oa9 (y.sS p).os:=by
    have h4:=OMs.own p hps;rw [eus] at h4;exact ⟨h4.parts.1.slOf,h4.parts.2.1.slOf⟩
   obtain ⟨g9,c9,ew,Ph,lh,cellh,fh⟩:=OMh.cell hph;simp only [Value.slice.injEq,nG,Addr.mk.injEq,and_true,true_and] at ew;obtain ⟨rfl,rfl⟩:=ew;obtain ⟨ah9,ch9,euh⟩:=zU (OMh.own p hph);rw [euh] at cellh;have OH:=OMh.own p hph;rw [euh] at OH;have Ch:∀ b,(Value.slice ah9 (y.hL p) ch9).ownBlock=some b->Cl B c' 4 b:=fun b hb=>OMh.ob p hph b (by rw [euh];exact hb);have hgg:(Value.slice ah9 (y.hL p) ch9).ownBlock≠some gh:=fun e=>OMh.ra p hph gh (by rw [euh];exact e) rfl;have hne2:∀ b,c' b≠2->b≠gs:=fun b hb e=>hb (by rw [e];exact Ps.2);clear eup eus;go_wp2_with fail
   refine qag (fun w'=>w'.cell? (aQ w.heap.size 0)=some (sG gp y.pn cp)/\w'.cell? (aQ w.heap.size 1)=some (sG gs y.sn cs)/\w'.cell? (aQ gp p)=some (sG b9 (y.pL p) cb9)/\w'.cell? ⟨gs,p*4,none⟩=some (iV (k:Int))/\w'.cell? ⟨gs,p*4+1,none⟩=some (.slice ra9 (y.sS p).rs.length rc9)/\w'.cell? ⟨gs,p*4+2,none⟩=some (.slice oa9 (y.sS p).os.length oc9)/\w'.cell? ⟨gs,p*4+3,none⟩=some (iV 0)/\w'.cell? (aQ N 0)=some (iV k9)/\w'.cell? (aQ N 1)=some (iV q9)/\w'.cell? (aQ N 2)=some (iV v9)) (fun i=>i == 19) (by kernel_rfl) ?_;have hHeld:=And.intro b0 (And.intro b1 (And.intro cellp (And.intro s0 (And.intro s1 (And.intro s2 (And.intro s3 (And.intro k0 (And.intro k1 k2))))))));refine qbb [0,1,2,3,4,5,6,7,8,9,10,11,12,13] ?_;iterate 14 (refine qbr rfl hHeld ?_)
   refine qa2 ?_;refine yW 14 rfl fun K hK=>?_;refine qat rfl 110 _ _ rfl #[.slice (some (aQ b9 0)) (y.pL p) cb9,stV k ra9 (y.sS p).rs.length rc9 oa9 (y.sS p).os.length oc9 0,evV k9 q9 v9] (by simp [Act.eval]) (yA func110) (qpf b9 0 (y.pL p) cb9 k (y.pH p) ra9 oa9 rc9 oc9 (y.sS p).rs (y.sS p).os k9 q9 v9 wc.drew hb9 hI hsl.1 hsl.2 HRk.out) ?_;rintro e w5 ⟨u5,rfl,o5,d5⟩;refine ⟨_,rfl,?_⟩;generalize doS (y.pH p) (y.pL p) (k:Int) (y.sS p).rs (y.sS p).os 0 k9 q9 v9=T at o5 ST;generalize doB (y.pH p) (y.pL p) (k:Int) (y.sS p).rs (y.sS p).os 0 k9 q9 v9=tb;obtain ⟨ra5,rc5,oa5,oc5,rfl,-,-⟩:=o5.read;have q5:Bw wc w5:=(nE wc.heap.size wc).drew.trans d5;have hc5:=(qal q5).1;have hHeld5:=And.intro ((hc5 _ _ m0).trans b0) (And.intro ((hc5 _ _ m0).trans b1) (And.intro ((hc5 _ _ lp).trans cellp) (And.intro ((hc5 _ _ ls).trans s0) (And.intro ((hc5 _ _ ls).trans s1) (And.intro ((hc5 _ _ ls).trans s2) (And.intro ((hc5 _ _ ls).trans s3) (And.intro ((hc5 _ _ mN).trans k0) (And.intro ((hc5 _ _ mN).trans k1) ((hc5 _ _ mN).trans k2)))))))));have hf5:∀ j,w5.frozen? ⟨gs,j,none⟩=false:=fun j=>((qal q5).2 _ j ls).trans (fs j);refine hK.out _ _ (fun _=>hHeld5) ?_;clear hHeld;have hHeld:=hHeld5;clear hHeld5 hc5 d5;clear hK K;refine qar 15 rfl hHeld ?_;refine qar 16 rfl hHeld ?_;refine qem 17 rfl (by kernel_rfl) (by kernel_rfl) (by kernel_rfl) (fun _ _ _ _ h=>h) (by rfl) ?_;apply Exists.intro;refine ⟨fun wq=>?_,?_⟩
   ·go_simp
    try with_reducible rfl
   refine qar 18 rfl hHeld ?_;refine yW 19 rfl fun K hK=>?_;obtain ⟨-,-,-,p0,p1,p2,p3,-⟩:=hHeld;go_simp;refine hK.out _ _ (fun h=>?_) ?_
   ·exact absurd h (by decide)
   clear hK K
   (try simp only [Act.put])
   refine yX ?_ _;have hkf:∀ b,b<wc.heap.size->b≠gs->((((w5.setCell ⟨gs,p*4,none⟩ (iV T.p)).setCell ⟨gs,p*4+1,none⟩ (.slice ra5 T.rs.length rc5)).setCell ⟨gs,p*4+2,none⟩ (.slice oa5 T.os.length oc5)).setCell ⟨gs,p*4+3,none⟩ (iV T.c)).heap[b]? = wc.heap[b]?:=fun b hb hne=>(zO _ _ _ _ hne).trans ((zO _ _ _ _ hne).trans ((zO _ _ _ _ hne).trans ((zO _ _ _ _ hne).trans (q5.block b hb))));have hcf:∀ b o,b<wc.heap.size->b≠gs->((((w5.setCell ⟨gs,p*4,none⟩ (iV T.p)).setCell ⟨gs,p*4+1,none⟩ (.slice ra5 T.rs.length rc5)).setCell ⟨gs,p*4+2,none⟩ (.slice oa5 T.os.length oc5)).setCell ⟨gs,p*4+3,none⟩ (iV T.c)).cell? ⟨b,o,none⟩=wc.cell? ⟨b,o,none⟩:=fun b o hb hne=>zH (hkf b hb hne);have hsz:wc.heap.size<=((((w5.setCell ⟨gs,p*4,none⟩ (iV T.p)).setCell ⟨gs,p*4+1,none⟩ (.slice ra5 T.rs.length rc5)).setCell ⟨gs,p*4+2,none⟩ (.slice oa5 T.os.length oc5)).setCell ⟨gs,p*4+3,none⟩ (iV T.c)).heap.size:=by simpa using q5.size
   have BF:Hid (Below B w ((((w5.setCell ⟨gs,p*4,none⟩ (iV T.p)).setCell ⟨gs,p*4+1,none⟩ (.slice ra5 T.rs.length rc5)).setCell ⟨gs,p*4+2,none⟩ (.slice oa5 T.os.length oc5)).setCell ⟨gs,p*4+3,none⟩ (iV T.c))):=((((M.be.trans (q5.mono (zP hBw (by omega)))).setCell PB.2.1 _).setCell PB.2.1 _).setCell PB.2.1 _).setCell PB.2.1 _;have OF:Hid (OwnS z ((((w5.setCell ⟨gs,p*4,none⟩ (iV T.p)).setCell ⟨gs,p*4+1,none⟩ (.slice ra5 T.rs.length rc5)).setCell ⟨gs,p*4+2,none⟩ (.slice oa5 T.os.length oc5)).setCell ⟨gs,p*4+3,none⟩ (iV T.c)) B (rcol c' wc.heap.size 2) ((y.way p k9 q9 v9).setS p T) (sG gp y.pn cp) (sG gs y.sn cs) (sG gw y.wn cw) (sG gh y.hn ch) up (fun j=>if j=p then stV T.p ra5 T.rs.length rc5 oa5 T.os.length oc5 T.c else us j) uw' uh):=OwnS.putS OM hps (zP hBw (nJ m0)) q5 (o5.mono (by simp));go_wp2_with fail
   generalize (((w5.setCell ⟨gs,p*4,none⟩ (iV T.p)).setCell ⟨gs,p*4+1,none⟩ (.slice ra5 T.rs.length rc5)).setCell ⟨gs,p*4+2,none⟩ (.slice oa5 T.os.length oc5)).setCell ⟨gs,p*4+3,none⟩ (iV T.c)=wf at *;have nM:w.heap.size≠gs:=hne2 _ (by rw [zb];decide);have nM1:w.heap.size+1≠gs:=hne2 _ (by rw [zr];decide);have nN:N≠gs:=hne2 _ (by rw [zN];decide);have ngh:gh≠gs:=hne2 _ (by rw [Ph.2];decide);have OH2:=qas (w':=wf) OH fun j hj=>hkf j (World.ownsRow.lt OH j hj).2 (hne2 _ (by rw [(Ch j hj).2];decide));have x3:=(hcf _ 3 m0 nM).trans b3;have xh:=(hcf _ p lh ngh).trans cellh;have y0:=(hcf _ 0 mN nN).trans k0;have y1:=(hcf _ 1 mN nN).trans k1;have y2:=(hcf _ 2 mN nN).trans k2;have hfh:∀ j,wf.frozen? ⟨gh,j,none⟩=false:=fun j=>(zI (hkf gh lh ngh)).trans (fh j)
   have n9a:(Value.slice ah9 (y.hL p) ch9).ownBlock≠some w.heap.size:=fun e=>by
    have:=(Ch _ e).2;rw [zb] at this;cases this
   have n9c:(Value.slice ah9 (y.hL p) ch9).ownBlock≠some N:=fun e=>by
    have:=(Ch _ e).2;rw [zN] at this;cases this
   refine qag (fun w'=>w'.cell? (aQ w.heap.size 3)=some (sG gh y.hn ch)/\w'.cell? (aQ gh p)=some (.slice ah9 (y.hL p) ch9)/\w'.cell? (aQ N 0)=some (iV k9)/\w'.cell? (aQ N 1)=some (iV q9)/\w'.cell? (aQ N 2)=some (iV v9)) (fun i=>i == 12) (by kernel_rfl) ?_;have hHeld:=And.intro x3 (And.intro xh (And.intro y0 (And.intro y1 y2)));refine qbb [0,1,2,3,4,5,6,7,8] ?_;iterate 9 (refine qbr rfl hHeld ?_)
   refine qa2 ?_;refine yW 9 rfl fun K hK=>?_;go_simp;have ba:Bw wf (wf.drew.alloc (oQ2 k9 q9 v9)):=(nE wf.heap.size wf).drew.trans (zQ wf.drew _);have hca:=(qal ba).1;refine hK.out _ _ (fun _=>⟨(hca _ _ (by omega)).trans x3,(hca _ _ (by omega)).trans xh,(hca _ _ (by omega)).trans y0,(hca _ _ (by omega)).trans y1,(hca _ _ (by omega)).trans y2⟩) ?_;clear hca ba;clear hK K
   (try simp only [Act.put,zD,zE,zF])
   refine yW 10 rfl fun K hK=>?_;refine qa1 kndE wf.drew rfl rfl _ _ rfl 0 (.slice ah9 (y.hL p) ch9) (y.hL p) _ rfl OH2 #[.int .i64 k9,.int .i64 q9,.int .i64 v9] rfl rfl (by intro u hu;simp at hu;rcases hu with rfl | rfl | rfl <;> rfl) (by omega) (nD _) ?_;intro v8 w8 o8 g8 q8 n8;obtain ⟨a8,c8,rfl⟩:=zU o8;have hk8:∀ b,b<wf.heap.size->(Value.slice ah9 (y.hL p) ch9).ownBlock≠some b->w8.heap[b]? = wf.heap[b]?:=fun b h1 h2=>g8.block b h1 fun e=>h2 e.symm;have hc8:∀ b o,b<wf.heap.size->(Value.slice ah9 (y.hL p) ch9).ownBlock≠some b->w8.cell? ⟨b,o,none⟩=wf.cell? ⟨b,o,none⟩:=fun b o h1 h2=>zH (hk8 b h1 h2);have hHeld:=And.intro ((hc8 _ _ (by omega) n9a).trans x3) (And.intro ((hc8 _ _ (by omega) hgg).trans xh) (And.intro ((hc8 _ _ (by omega) n9c).trans y0) (And.intro ((hc8 _ _ (by omega) n9c).trans y1) ((hc8 _ _ (by omega) n9c).trans y2))));have hfg:∀ j,w8.frozen? ⟨gh,j,none⟩=false:=fun j=>(zI (hk8 gh (by omega) hgg)).trans (hfh j);have g8':wf.grownBy w8 (Value.slice ah9 (y.hL p) ch9).ownBlock:=⟨g8.os,g8.tape,g8.output,g8.size,g8.block⟩
   have BN:Hid (Below B w (w8.setCell (aQ gh p) (.slice a8 (y.hL p+1) c8))):=(Below.grown BF.out g8' (zP hBw (by omega)) (fun j hj=>(Ch j hj).1)).setCell PB.2.2.2 _
   have hkl : ∀ b, c' b = 0 → b < wc.heap.size → (w8.setCell ⟨gh, p, none⟩ (.slice a8 (y.hL p + 1) c8)).heap[b]? = wc.heap[b]? := fun b h1 h2 => (Below.heap_setCell _ _ _ _ (fun e => by
    have:=Ph.2;rw [<- show b=gh from e,h1] at this
    cases this)).trans ((hk8 b (by omega) (fun e => by
    have:=(Ch _ e).2;rw [h1] at this
    cases this)).trans (hkf b h2 (hne2 b (by rw [h1];decide))))
   have OZ:Hid (OwnS z (w8.setCell (aQ gh p) (.slice a8 (y.hL p+1) c8)) B (rcol (rcol c' wc.heap.size 2) wf.heap.size 4) (((y.way p k9 q9 v9).setS p T).setH p (y.hL p+1) (fun i=>if i=y.hL p then ⟨k9,q9,v9⟩ else y.hH p i)) (sG gp y.pn cp) (sG gs y.sn cs) (sG gw y.wn cw) (sG gh y.hn ch) up (fun j=>if j=p then stV T.p ra5 T.rs.length rc5 oa5 T.os.length oc5 T.c else us j) uw' (fun j=>if j=p then .slice a8 (y.hL p+1) c8 else uh j)):=OwnS.putH OF.out hph (by omega) g8'.size (fun b h1 h2=>hk8 b h1 fun e=>h2 (by rw [euh];exact e)) (by rw [qrz];exact o8) n8 (fun b hb=>(q8 b hb).imp (fun h=>by rw [euh];exact h) id);have KZ:Hid (Kp w (w8.setCell (aQ gh p) (.slice a8 (y.hL p+1) c8)) c (rcol (rcol c' wc.heap.size 2) wf.heap.size 4)):=fun b h1 h2=>⟨(hkl b (KPm b h1 h2).2 (by omega)).trans (KPm b h1 h2).1,(qam (by omega)).trans ((qam (by omega)).trans (KPm b h1 h2).2)⟩
   have BX:=M.bx.blkM (hkl _ zb m0);have RX:=M.rb.blkM (hkl _ zr m1);have FX:∀ j,(w8.setCell ⟨gh,p,none⟩ (.slice a8 (y.hL p+1) c8)).frozen? ⟨w.heap.size+1,j,none⟩=false:=fun j=>(zI (hkl _ zr m1)).trans (M.rf j);have lf:w.heap.size+1<(w8.setCell (aQ gh p) (.slice a8 (y.hL p+1) c8)).heap.size:=by simp;have:=g8.size;simp at this;omega
   refine hK.out _ _ (fun _=>hHeld) ?_;clear o8 g8 g8' q8 n8 hk8 hc8 hkl;clear hK K;refine qar 11 rfl hHeld ?_;refine yW 12 rfl fun K hK=>?_;have hcN:=hHeld.2.1;have hfN1:=hfg p;go_simp;refine hK.out _ _ (fun h=>?_) ?_
   ·exact absurd h (by decide)
   clear hK K
   (try simp only [Act.put])
   refine yX ?_ _;obtain ⟨b0',b1',b2',b3'⟩:=BX;obtain ⟨r0,r1,r2,r3⟩:=RX;have l1:=lf;generalize w8.setCell (aQ gh p) (.slice a8 (y.hL p+1) c8)=wz at *;go_wp2;exact bodyPost_ret (v:=.tuple #[sysV (some ⟨gp,0,none⟩) y.pn cp (some ⟨gs,0,none⟩) y.sn cs (some ⟨gw,0,none⟩) y.wn cw (some ⟨gh,0,none⟩) y.hn ch,iV 0]) (by simp [results,results123,go_sem,r0,r1,r2,r3]) rfl ⟨by rw [HV.out],(((BN.setCell hM _).setCell hM _).setCell hM _).setCell hM _,OZ.out4 KZ.out (nK _) ((qam (zL m1 hsz)).trans ((qam m1).trans zr)) ST.out _ _ _ _⟩
theorem qi7 (y:Sy) (p:Nat) (f:Int) (w:World) (B:Nat) (v:Value) (o:qan z w B y v) (hp:p<y.pn) (hO:y.Ok):
  Calls prog 123 #[v,iV p,iV f] w fun e w'=>e=.returned (.tuple #[v,iV (cmS y p f)])/\Below B w w'/\qan z w' B (y.step p f) v:=by
 obtain ⟨c,vp,vs,vw,vh,up,us,uw,uh,rfl,o⟩:=o;refine (qsm y p f w B c vp vs vw vh up us uw uh o hp hO).mono ?_;rintro e w' ⟨h1,h2,c',us',uw',uh',h3,-⟩;exact ⟨h1,h2,c',vp,vs,vw,vh,up,us',uw',uh',rfl,h3⟩
theorem qff (y:Sy) (p:Nat) (f:Int) (w:World) (B:Nat) (v:Value) (o:qan z w B y v) (hp:p<y.pn) (hO:y.Ok):
  Calls prog 123 #[v,iV p,iV f] w fun e w'=>e=.returned (.tuple #[v,iV (cmS y p f)])/\Below B w w':=
 (qi7 y p f w B v o hp hO).mono fun _ _ h=>⟨h.1,h.2.1⟩
