import Derived.Test.YtkchlgmeinfeaaaGreatDoorMn25
import Derived.Test.YtkchlgmeinfeaaaGreatDoorMn27
namespace Go.Proofs.YtkchlgmeinfeaaaGreatDoor
open Go.Proofs.Tryz
set_option maxRecDepth 100000
set_option maxHeartbeats 2000000
open Go.ChangeShapes Go.WideShapes Go.ChangeAt Go.RowKit Go.Deep
theorem qh2 (a0 a1:Option Addr) (n c0 c1:Nat) (h:Nat->E3) (w:World) (hlen:n<=1048576) (h0:EvL w a0 n h) (h1:EvL w a1 n h):
  Calls prog 40 #[.slice a0 n c0,.slice a1 n c1] w (rB w (.bool true)):=by
 have hl':(n:Int)<=1048576:=by omega
 have H0:Hid (EvL w a0 n h):=h0;have H1:Hid (EvL w a1 n h):=h1;clear h0 h1
 go_enter func40,ntmps40
 go_wp2_with fail
 go_loopw [5] (fun i wr=>∃ k:Nat,k<=n/\i=.int .i64 k/\Bw w wr) (fun i _=>n - (intOf i).toNat)
 case atStart=>exact ⟨0,nD _,rfl,nE _ _⟩
 case round=>
  obtain ⟨k,hk,rfl,hbw⟩:=hrel;by_cases hlt:k<n
  ·obtain ⟨b,off,rfl,hbl,ck0,ck1,ck2⟩:=(H0.bw hbw).at hlt
   obtain ⟨b',off',rfl,hbl',ck0',ck1',ck2'⟩:=(H1.bw hbw).at hlt;have hlt':(k:Int)<(n:Int):=by omega
   go_wp2_with fail
   go_quiet (fail)
   go_wp2;go_roundw
   case rel=>exact ⟨k+1,by omega,by go_num,yE hbw _⟩
   case measure=>simp [intOf];omega
  ·go_wp2
   go_ret;exact ⟨rfl,hbw⟩
structure Tw (w:World) (N:Nat) (x x':SysIn):Prop where
 g:SysG w x
 g':SysG w x'
 b:x.bX w N
 b':BoxC w (N+1) (.slice x'.pa x'.pn x'.pc) (.slice x'.sa x'.sn x'.sc) (.slice x'.wa x'.wn x'.wc) (.slice x'.ha x'.hn x'.hc)
theorem Tw.bw {w w':World} {N:Nat} {x x':SysIn} (h:Tw w N x x') (hb:Bw w w'):Tw w' N x x':=⟨h.g.bw hb,h.g'.bw hb,h.b.bw hb,h.b'.bw hb⟩
theorem Tw.new (w:World) (x x':SysIn) (hG:SysG w x) (hG':SysG w x'):Tw ((w.alloc (x.oX)).alloc (oQ4 x'.pa x'.pn x'.pc x'.sa x'.sn x'.sc x'.wa x'.wn x'.wc x'.ha x'.hn x'.hc)) w.heap.size x x':=by
 have hb:Bw w ((w.alloc (x.oX)).alloc (oQ4 x'.pa x'.pn x'.pc x'.sa x'.sn x'.sc x'.wa x'.wn x'.wc x'.ha x'.hn x'.hc)):=(zQ _ _).trans ((zQ _ _).mono (by simp));refine ⟨hG.bw hb,hG'.bw hb,(BoxC.new w _ _ _ _ _).bw (zQ _ _),?_⟩;have h:=BoxC.new (w.alloc (x.oX)) (.slice x'.pa x'.pn x'.pc) (.slice x'.sa x'.sn x'.sc) (.slice x'.wa x'.wn x'.wc) (.slice x'.ha x'.hn x'.hc) 29
 (try dsimp only [aW] at h);rw [World.size_alloc] at h
 exact h
theorem EvL.congr {w:World} {a:Option Addr} {n:Nat} {h h':Nat->E3} (o:EvL w a n h) (e:∀ i,i<n->h' i=h i):EvL w a n h':=by
 rcases o with o | ⟨b,off,ea,hb,o⟩
 ·exact .inl o
 ·exact .inr ⟨b,off,ea,hb,fun i hi=>by rw [e i hi];exact o i hi⟩
def Sy.EqH (y' y:Sy):Prop:=y'.hn=y.hn/\∀ k,k<y.hn->y'.hL k=y.hL k/\∀ i,i<y.hL k->y'.hH k i=y.hH k i
def Sy.EqS (y' y:Sy):Prop:=y'.sn=y.sn/\∀ k,k<y.sn->y'.sS k=y.sS k
theorem qnc (x x':SysIn) (w:World) (hy:x'.y.EqH x.y) (hG:SysG w x) (hG':SysG w x') (hL:x.Len):
  Calls prog 16 #[x.v,x'.v] w (rB w (.bool true)):=by
 have hn:x'.hn=x.hn:=hy.1;have hl':(x.hn:Int)<=1048576:=by have:=hL.h.1;omega
 have T0:Hid (Tw ((w.alloc (x.oX)).alloc (oQ4 x'.pa x'.pn x'.pc x'.sa x'.sn x'.sc x'.wa x'.wn x'.wc x'.ha x'.hn x'.hc)) w.heap.size x x'):=Tw.new w x x' hG hG';have B0:Hid (Below w.heap.size w ((w.alloc (x.oX)).alloc (oQ4 x'.pa x'.pn x'.pc x'.sa x'.sn x'.sc x'.wa x'.wn x'.wc x'.ha x'.hn x'.hc))):=(zQ _ _).trans ((zQ _ _).mono (by simp));have HY:Hid (x'.y.EqH x.y/\x.Len):=⟨hy,hL⟩
 have HQ:Hid (x'.hn=x.hn):=hn;clear hG hG' hL hy hn
 go_enter func16,ntmps16
 go_upto_region 1 with fail
 generalize (w.alloc (x.oX)).alloc (oQ4 x'.pa x'.pn x'.pc x'.sa x'.sn x'.sc x'.wa x'.wn x'.wc x'.ha x'.hn x'.hc)=W2 at *;generalize hNN:w.heap.size=N at *;have HNN:Hid (w.heap.size=N):=hNN;clear hNN;obtain ⟨x0,x1,x2,x3⟩:=T0.b;obtain ⟨y0,y1,y2,y3⟩:=T0.b';rw [HQ.out] at y3;go_wp2_with fail
 clear x0 x1 x2 x3 y0 y1 y2 y3
 go_loopw [5] (fun i wr=>∃ k:Nat,k<=x.hn/\i=.int .i64 k/\Hid (Tw wr N x x'/\Below N w wr)) (fun i _=>x.hn - (intOf i).toNat)
 case atStart=>exact ⟨0,nD _,rfl,T0.out,B0.out⟩
 case round=>
  obtain ⟨k,hk,rfl,HT⟩:=hrel;obtain ⟨x0,x1,x2,x3⟩:=HT.1.b;obtain ⟨y0,y1,y2,y3⟩:=HT.1.b';rw [HQ.out] at y3;have lN:N<wr.heap.size:=zJ wr _ x0;have lM:N+1<wr.heap.size:=zJ wr _ y0;by_cases hlt:k<x.hn
  ·have hlt':(k:Int)<(x.hn:Int):=by omega
   have nlt:¬ (x.hn:Int)<=(k:Int):=by omega
   have eL:x'.hL k=x.hL k:=(HY.1.2 k hlt).1;have eH:∀ i,i<x.hL k->x.hH k i=x'.hH k i:=fun i hi=>((HY.1.2 k hlt).2 i hi).symm;obtain ⟨b,off,ea,ck⟩:=HT.1.g.h.at hlt;obtain ⟨b',off',ea',ck'⟩:=HT.1.g'.h.at (show k<x'.hn by rw [HQ.out];exact hlt);rw [eL] at ck';have E:Hid (EvL wr (x.hA k) (x.hL k) (x.hH k)/\EvL wr (x'.hA k) (x.hL k) (x.hH k)/\x.hL k<=1048576):=⟨HT.1.g.hi k hlt,by have:=HT.1.g'.hi k (show k<x'.hn by rw [HQ.out];exact hlt);rw [eL] at this;exact this.congr eH,HY.2.h.2 k hlt⟩
   rw [ea] at x3;rw [ea'] at y3;clear ea ea' eL eH;have lb:b<wr.heap.size:=zJ wr _ ck;have lb':b'<wr.heap.size:=zJ wr _ ck';go_upto_region 6 with fail
   have q0:Bw wr wr.drew:=(nE wr.heap.size wr).drew;refine qah (fun w'=>w'.cell? (aQ N 3)=some (.slice (some (aQ b off)) x.hn x.hc)/\w'.cell? ⟨N+1,3,none⟩=some (.slice (some (aQ b' off')) x.hn x'.hc)/\w'.cell? ⟨b,off+k,none⟩=some (.slice (x.hA k) (x.hL k) (x.hC k))/\w'.cell? ⟨b',off'+k,none⟩=some (.slice (x'.hA k) (x.hL k) (x'.hC k))) (fun _=>false) (by kernel_rfl) ?_;have hHeld:(fun w':World=>w'.cell? (aQ N 3)=some (.slice (some (aQ b off)) x.hn x.hc)/\w'.cell? ⟨N+1,3,none⟩=some (.slice (some (aQ b' off')) x.hn x'.hc)/\w'.cell? ⟨b,off+k,none⟩=some (.slice (x.hA k) (x.hL k) (x.hC k))/\w'.cell? ⟨b',off'+k,none⟩=some (.slice (x'.hA k) (x.hL k) (x'.hC k))) wr.drew:=⟨(q0.cell (p:=(aQ N 3)) lN).trans x3,(q0.cell (p:=⟨N+1,3,none⟩) lM).trans y3,(q0.cell (p:=(aQ b _)) lb).trans ck,(q0.cell (p:=(aQ b' _)) lb').trans ck'⟩
   refine qa0 [0,1,2,3,4,5,6,7,8,9] ?_;iterate 10 (refine qba rfl hHeld ?_)
   refine qav ?_;refine yW 10 rfl fun K hK=>?_;refine qag rfl 40 _ _ rfl #[.slice (x.hA k) (x.hL k) (x.hC k),.slice (x'.hA k) (x.hL k) (x'.hC k)] (by simp [Act.eval]) (yB func40) (qh2 (x.hA k) (x'.hA k) (x.hL k) (x.hC k) (x'.hC k) (x.hH k) wr.drew E.2.2 (E.1.bw q0) (E.2.1.bw q0)) ?_;rintro e w5 ⟨rfl,d5⟩;refine ⟨_,rfl,?_⟩;have q5:Bw wr w5:=q0.trans d5;have hHeld5:(fun w':World=>w'.cell? (aQ N 3)=some (.slice (some (aQ b off)) x.hn x.hc)/\w'.cell? ⟨N+1,3,none⟩=some (.slice (some (aQ b' off')) x.hn x'.hc)/\w'.cell? ⟨b,off+k,none⟩=some (.slice (x.hA k) (x.hL k) (x.hC k))/\w'.cell? ⟨b',off'+k,none⟩=some (.slice (x'.hA k) (x.hL k) (x'.hC k))) w5:=⟨(q5.cell (p:=(aQ N 3)) lN).trans x3,(q5.cell (p:=⟨N+1,3,none⟩) lM).trans y3,(q5.cell (p:=(aQ b _)) lb).trans ck,(q5.cell (p:=(aQ b' _)) lb').trans ck'⟩
   refine hK.out _ _ (fun _=>hHeld5) ?_;clear hHeld;have hHeld:=hHeld5;clear hHeld5 d5 hK K;refine qbn 11 rfl hHeld ?_;refine yX ?_ _;have K5:Hid (Tw w5 N x x'/\Below N w w5):=⟨HT.1.bw q5,HT.2.trans (q5.mono (nJ lN))⟩
   clear hHeld q5 q0 HT;go_wp2;go_roundw
   case rel=>exact ⟨k+1,by omega,by go_num,K5.out⟩
   case measure=>simp [intOf];omega
  ·go_wp2
   go_ret;exact ⟨rfl,by rw [HNN.out];exact HT.2⟩
theorem qj3 (x x':SysIn) (w:World) (hy:x'.y.EqS x.y) (hG:SysG w x) (hG':SysG w x') (hL:x.Len):
  Calls prog 17 #[x.v,x'.v] w (rB w (.bool true)):=by
 have hn:x'.sn=x.sn:=hy.1;have hl':(x.sn:Int)<=1048576:=by have:=hL.s.1;omega
 have T0:Hid (Tw ((w.alloc (x.oX)).alloc (oQ4 x'.pa x'.pn x'.pc x'.sa x'.sn x'.sc x'.wa x'.wn x'.wc x'.ha x'.hn x'.hc)) w.heap.size x x'):=Tw.new w x x' hG hG';have B0:Hid (Below w.heap.size w ((w.alloc (x.oX)).alloc (oQ4 x'.pa x'.pn x'.pc x'.sa x'.sn x'.sc x'.wa x'.wn x'.wc x'.ha x'.hn x'.hc))):=(zQ _ _).trans ((zQ _ _).mono (by simp));have HY:Hid (x'.y.EqS x.y/\x.Len):=⟨hy,hL⟩
 have HQ:Hid (x'.sn=x.sn):=hn;clear hG hG' hL hy hn
 go_enter func17,ntmps17
 go_upto_region 1 with fail
 generalize (w.alloc (x.oX)).alloc (oQ4 x'.pa x'.pn x'.pc x'.sa x'.sn x'.sc x'.wa x'.wn x'.wc x'.ha x'.hn x'.hc)=W2 at *;generalize hNN:w.heap.size=N at *;have HNN:Hid (w.heap.size=N):=hNN;clear hNN;obtain ⟨x0,x1,x2,x3⟩:=T0.b;obtain ⟨y0,y1,y2,y3⟩:=T0.b';rw [HQ.out] at y1;go_wp2_with fail
 clear x0 x1 x2 x3 y0 y1 y2 y3
 go_loopw [5] (fun i wr=>∃ k:Nat,k<=x.sn/\i=.int .i64 k/\Hid (Tw wr N x x'/\Below N w wr)) (fun i _=>x.sn - (intOf i).toNat)
 case atStart=>exact ⟨0,nD _,rfl,T0.out,B0.out⟩
 case round=>
  obtain ⟨k,hk,rfl,HT⟩:=hrel;obtain ⟨x0,x1,x2,x3⟩:=HT.1.b;obtain ⟨y0,y1,y2,y3⟩:=HT.1.b';rw [HQ.out] at y1;have lN:N<wr.heap.size:=zJ wr _ x0;have lM:N+1<wr.heap.size:=zJ wr _ y0;by_cases hlt:k<x.sn
  ·have hlt':(k:Int)<(x.sn:Int):=by omega
   have nlt:¬ (x.sn:Int)<=(k:Int):=by omega
   have eS:x'.sS k=x.sS k:=HY.1.2 k hlt;obtain ⟨b,off,ea,lb,ck⟩:=HT.1.g.s.row.resolve_left (by omega);obtain ⟨b',off',ea',lb',ck'⟩:=HT.1.g'.s.row.resolve_left (by have:=HQ.out;omega);have ck:=ck k hlt;have ck':=ck' k (by have:=HQ.out;omega);have E0:=HT.1.g.s.lst k hlt;have E1:=HT.1.g'.s.lst k (by have:=HQ.out;omega);have hb:=HY.2.s.2 k hlt;obtain ⟨e1,e2,e3,e4⟩:(x'.sQ k).p=(x.sQ k).p/\(x'.sQ k).rs=(x.sQ k).rs/\(x'.sQ k).os=(x.sQ k).os/\(x'.sQ k).c=(x.sQ k).c:=⟨congrArg S4.p eS,congrArg S4.rs eS,congrArg S4.os eS,congrArg S4.c eS⟩
   rw [e1,e2,e3,e4] at ck';rw [e2,e3] at E1;generalize (x.sQ k).p=p at *;generalize (x.sQ k).c=cd at *;generalize (x.sQ k).rs=rs at *;generalize (x.sQ k).os=os at *;generalize (x.sQ k).ra=ra at *;generalize (x.sQ k).rc=rc at *;generalize (x.sQ k).oa=oa at *;generalize (x.sQ k).oc=oc at *;generalize (x'.sQ k).ra=ra' at *;generalize (x'.sQ k).rc=rc' at *;generalize (x'.sQ k).oa=oa' at *;generalize (x'.sQ k).oc=oc' at *;obtain ⟨s0,s1,s2,s3⟩:=ck;obtain ⟨t0,t1,t2,t3⟩:=ck';have E:Hid ((Sl wr ra rs/\Sl wr oa os)/\(Sl wr ra' rs/\Sl wr oa' os)/\rs.length<=1048576/\os.length<=1048576):=⟨E0,E1,hb⟩
   rw [ea] at x1;rw [ea'] at y1;clear ea ea' eS e1 e2 e3 e4 E0 E1 hb;go_upto_region 6 with fail
   have q0:Bw wr wr.drew:=(nE wr.heap.size wr).drew;refine qah (fun w'=>w'.cell? (aQ N 1)=some (.slice (some (aQ b off)) x.sn x.sc)/\w'.cell? ⟨N+1,1,none⟩=some (.slice (some (aQ b' off')) x.sn x'.sc)/\(w'.cell? ⟨b,off+k*4,none⟩=some (iV p)/\w'.cell? ⟨b,off+k*4+1,none⟩=some (.slice ra rs.length rc)/\w'.cell? ⟨b,off+k*4+2,none⟩=some (.slice oa os.length oc)/\w'.cell? ⟨b,off+k*4+3,none⟩=some (iV cd))/\(w'.cell? ⟨b',off'+k*4,none⟩=some (iV p)/\w'.cell? ⟨b',off'+k*4+1,none⟩=some (.slice ra' rs.length rc')/\w'.cell? ⟨b',off'+k*4+2,none⟩=some (.slice oa' os.length oc')/\w'.cell? ⟨b',off'+k*4+3,none⟩=some (iV cd))) (fun _=>false) (by kernel_rfl) ?_;have hHeld:(fun w':World=>w'.cell? (aQ N 1)=some (.slice (some (aQ b off)) x.sn x.sc)/\w'.cell? ⟨N+1,1,none⟩=some (.slice (some (aQ b' off')) x.sn x'.sc)/\(w'.cell? ⟨b,off+k*4,none⟩=some (iV p)/\w'.cell? ⟨b,off+k*4+1,none⟩=some (.slice ra rs.length rc)/\w'.cell? ⟨b,off+k*4+2,none⟩=some (.slice oa os.length oc)/\w'.cell? ⟨b,off+k*4+3,none⟩=some (iV cd))/\(w'.cell? ⟨b',off'+k*4,none⟩=some (iV p)/\w'.cell? ⟨b',off'+k*4+1,none⟩=some (.slice ra' rs.length rc')/\w'.cell? ⟨b',off'+k*4+2,none⟩=some (.slice oa' os.length oc')/\w'.cell? ⟨b',off'+k*4+3,none⟩=some (iV cd))) wr.drew:=⟨(q0.cell (p:=(aQ N 1)) lN).trans x1,(q0.cell (p:=⟨N+1,1,none⟩) lM).trans y1,⟨(q0.cell (p:=(aQ b _)) lb).trans s0,(q0.cell (p:=(aQ b _)) lb).trans s1,(q0.cell (p:=(aQ b _)) lb).trans s2,(q0.cell (p:=(aQ b _)) lb).trans s3⟩,⟨(q0.cell (p:=(aQ b' _)) lb').trans t0,(q0.cell (p:=(aQ b' _)) lb').trans t1,(q0.cell (p:=(aQ b' _)) lb').trans t2,(q0.cell (p:=(aQ b' _)) lb').trans t3⟩⟩
   refine qa0 [0,1,2,3,4,5,6,7,8,9] ?_;iterate 10 (refine qba rfl hHeld ?_)
   refine qav ?_;refine yW 10 rfl fun K hK=>?_;refine qag rfl 41 _ _ rfl #[stV p ra rs.length rc oa os.length oc cd,stV p ra' rs.length rc' oa' os.length oc' cd] (by simp [Act.eval]) (yB func41) (qig p cd ra oa ra' oa' rc oc rc' oc' rs os wr.drew E.2.2.1 E.2.2.2 (E.1.1.bw q0) (E.1.2.bw q0) (E.2.1.1.bw q0) (E.2.1.2.bw q0)) ?_;rintro e w5 ⟨rfl,d5⟩;refine ⟨_,rfl,?_⟩;have q5:Bw wr w5:=q0.trans d5;have hHeld5:(fun w':World=>w'.cell? (aQ N 1)=some (.slice (some (aQ b off)) x.sn x.sc)/\w'.cell? ⟨N+1,1,none⟩=some (.slice (some (aQ b' off')) x.sn x'.sc)/\(w'.cell? ⟨b,off+k*4,none⟩=some (iV p)/\w'.cell? ⟨b,off+k*4+1,none⟩=some (.slice ra rs.length rc)/\w'.cell? ⟨b,off+k*4+2,none⟩=some (.slice oa os.length oc)/\w'.cell? ⟨b,off+k*4+3,none⟩=some (iV cd))/\(w'.cell? ⟨b',off'+k*4,none⟩=some (iV p)/\w'.cell? ⟨b',off'+k*4+1,none⟩=some (.slice ra' rs.length rc')/\w'.cell? ⟨b',off'+k*4+2,none⟩=some (.slice oa' os.length oc')/\w'.cell? ⟨b',off'+k*4+3,none⟩=some (iV cd))) w5:=⟨(q5.cell (p:=(aQ N 1)) lN).trans x1,(q5.cell (p:=⟨N+1,1,none⟩) lM).trans y1,⟨(q5.cell (p:=(aQ b _)) lb).trans s0,(q5.cell (p:=(aQ b _)) lb).trans s1,(q5.cell (p:=(aQ b _)) lb).trans s2,(q5.cell (p:=(aQ b _)) lb).trans s3⟩,⟨(q5.cell (p:=(aQ b' _)) lb').trans t0,(q5.cell (p:=(aQ b' _)) lb').trans t1,(q5.cell (p:=(aQ b' _)) lb').trans t2,(q5.cell (p:=(aQ b' _)) lb').trans t3⟩⟩
   refine hK.out _ _ (fun _=>hHeld5) ?_;clear hHeld;have hHeld:=hHeld5;clear hHeld5 d5 hK K;refine qbn 11 rfl hHeld ?_;refine yX ?_ _;have K5:Hid (Tw w5 N x x'/\Below N w w5):=⟨HT.1.bw q5,HT.2.trans (q5.mono (nJ lN))⟩
   clear hHeld q5 q0 HT;go_wp2;go_roundw
   case rel=>exact ⟨k+1,by omega,by go_num,K5.out⟩
   case measure=>simp [intOf];omega
  ·go_wp2
   go_ret;exact ⟨rfl,by rw [HNN.out];exact HT.2⟩
structure Sy.Beg (t y:Sy):Prop where
 n:t.pn=y.pn
 l:t.pL=y.pL
 h:t.pH=y.pH
 le:∀ p,p<y.pn->t.hL p<=y.hL p
 ev:∀ p,p<y.pn->∀ i,i<t.hL p->t.hH p i=y.hH p i
theorem Sy.Beg.rp {t y:Sy} (b:t.Beg y) (ht:t.Ok) {p:Nat} (hp:p<y.pn):Go.Proofs.YtkchlgmeinfeaaaGreatDoor.rp (y.pH p) (y.pL p) (y.hH p) (t.hL p)=some (t.sS p):=by
 have h0:=(qbe (ht.rp p (by rw [b.n];exact hp))).2.2;rw [b.h,b.l] at h0;rw [<- h0];exact qjz fun i hi=>(b.ev p hp i hi).symm
theorem Sy.Beg.can {t y:Sy} (b:t.Beg y) (ht:t.Ok) (hy:y.Ok) {p:Nat} (hp:p<y.pn) (hl:t.hL p<y.hL p):doB (t.pH p) (t.pL p) (t.sS p).p (t.sS p).rs (t.sS p).os (t.sS p).c (y.hH p (t.hL p)).k (y.hH p (t.hL p)).q (y.hH p (t.hL p)).v=true:=by
 rw [b.h,b.l];have h0:=b.rp ht hp
 rcases zK (doB (y.pH p) (y.pL p) (t.sS p).p (t.sS p).rs (t.sS p).os (t.sS p).c (y.hH p (t.hL p)).k (y.hH p (t.hL p)).q (y.hH p (t.hL p)).v) with e | e
 ·exact e
 ·have h1:=qee (qry h0 e) hl
  rw [(qbe (hy.rp p hp)).2.2] at h1;cases h1
theorem Sy.Beg.run {t y:Sy} (b:t.Beg y) (ht:t.Ok) (hy:y.Ok) {p:Nat} (hp:p<y.pn) (hl:t.hL p<y.hL p):(t.sS p).c=0:=by
 have h:=qcw (b.can ht hy hp hl);simp only [qbv,nH,beq_iff_eq] at h;exact h.2
theorem Sy.Beg.take {t y:Sy} (b:t.Beg y) (ht:t.Ok) (hy:y.Ok) {p:Nat} (hp:p<y.pn) (hl:t.hL p<y.hL p) (hk:t.nk p=3):(y.hH p (t.hL p)).k=3/\t.eq p (y.hH p (t.hL p)).q=(y.hH p (t.hL p)).q/\0<=(y.hH p (t.hL p)).q:=by
 have h:=b.can ht hy hp hl;have hk':nxK (t.pH p) (t.pL p) (t.sS p).p (t.sS p).rs (t.sS p).os (t.sS p).c=3:=hk;have he:=hy.evq hp hl;unfold doB canB at h;rw [nC hk'] at h;simp only [nH,beq_iff_eq] at h;obtain ⟨⟨h1,-⟩,h2⟩:=h;refine ⟨h1,?_,he.1⟩;unfold Sy.eq;rw [nC hk];by_cases e9:t.nq p=9
 ·rw [nC e9]
 ·have e9':¬ nxP (t.pH p) (t.pL p) (t.sS p).p (t.sS p).rs (t.sS p).os (t.sS p).c=9:=e9
  rw [nB e9',beq_iff_eq] at h2;rw [nB e9];exact h2.symm
theorem Sy.Beg.other {t y:Sy} (b:t.Beg y) (ht:t.Ok) (hy:y.Ok) {p:Nat} (hp:p<y.pn) (hl:t.hL p<y.hL p) (hk:t.nk p≠3) (f:Int):(y.hH p (t.hL p)).k=t.nk p/\t.eq p f=(y.hH p (t.hL p)).q/\t.ev p f=(y.hH p (t.hL p)).v:=by
 have h:=b.can ht hy hp hl;have hk':¬ nxK (t.pH p) (t.pL p) (t.sS p).p (t.sS p).rs (t.sS p).os (t.sS p).c=3:=hk;unfold doB canB at h;rw [nB hk'] at h;simp only [nH,beq_iff_eq] at h;obtain ⟨-,h1,h2,h3⟩:=h;refine ⟨h1,?_,?_⟩
 ·unfold Sy.eq
  rw [nB hk];exact h2.symm
 ·unfold Sy.ev
  rw [nB hk];exact h3.symm
theorem Sy.Beg.kq {t y:Sy} (b:t.Beg y) (ht:t.Ok) (hy:y.Ok) {p:Nat} (hp:p<y.pn) (hl:t.hL p<y.hL p):(y.hH p (t.hL p)).k=t.nk p/\t.eq p (y.hH p (t.hL p)).q=(y.hH p (t.hL p)).q:=by
 by_cases hk:t.nk p=3
 ·obtain ⟨h1,h2,-⟩:=b.take ht hy hp hl hk
  exact ⟨by rw [h1,hk],h2⟩
 ·obtain ⟨h1,h2,-⟩:=b.other ht hy hp hl hk (y.hH p (t.hL p)).q
  exact ⟨h1,h2⟩
theorem Sy.Beg.val {t y:Sy} (b:t.Beg y) {p:Nat} (hp:p<y.pn) (kd pr:Int):valL (t.hH p) kd pr (t.hL p)=valL (y.hH p) kd pr (t.hL p):=qiv fun i hi=>b.ev p hp i hi
theorem Sy.Beg.evv {t y:Sy} (b:t.Beg y) (ht:t.Ok) (hy:y.Ok) {p:Nat} (hp:p<y.pn) (hl:t.hL p<y.hL p) (hc:cmS t p (y.hH p (t.hL p)).q=0):t.ev p (y.hH p (t.hL p)).q=(y.hH p (t.hL p)).v:=by
 by_cases hk:t.nk p=3
 case neg=>exact (b.other ht hy hp hl hk _).2.2
 obtain ⟨k1,k2,k3⟩:=b.take ht hy hp hl hk;have hpt:p<t.pn:=by rw [b.n];exact hp
 have D:=ht.done hpt hc;obtain ⟨t1,t2,t3,-⟩:=D.take hk;have hpe:=D.peer;rw [k2] at t1 t2 t3 hpe;obtain ⟨q,hq⟩:∃ q:Nat,(y.hH p (t.hL p)).q=q:=⟨(y.hH p (t.hL p)).q.toNat,by omega⟩
 rw [<- t3];rw [hq,nF] at t1 t2 ⊢;have hqn:q<y.pn:=by rw [hq,b.n] at hpe;omega
 have w1:=(ht.wa q (by rw [b.n];exact hqn) p hpt).eq;obtain ⟨m,em⟩:∃ m,t.wL (q*t.pn+p)=m+1:=⟨t.wL (q*t.pn+p) - 1,by omega⟩
 rw [em,qes t2,b.val hp,b.val hqn] at w1;have w2:=(hy.wa q hqn p hp).eq;obtain ⟨s1,h1⟩:=qf4 (y.hH p) 3 q (t.hL p+1) (y.hL p - (t.hL p+1));rw [show t.hL p+1+(y.hL p - (t.hL p+1))=y.hL p by omega,qhb (qc5.2 ⟨k1,hq⟩)] at h1;obtain ⟨s2,h2⟩:=qf4 (y.hH q) 2 p (t.hL q) (y.hL q - t.hL q);rw [show t.hL q+(y.hL q - t.hL q)=y.hL q by have:=b.le q hqn;omega,<- w1] at h2;rw [h1,h2] at w2;simp only [List.append_assoc,List.cons_append,List.nil_append] at w2;have w3:=List.append_cancel_left w2;simp only [List.cons.injEq] at w3;exact w3.1.symm
theorem Sy.Beg.step {t y:Sy} (b:t.Beg y) (ht:t.Ok) (hy:y.Ok) {p:Nat} (hp:p<y.pn) (hl:t.hL p<y.hL p) (hc:cmS t p (y.hH p (t.hL p)).q=0):(t.step p (y.hH p (t.hL p)).q).Beg y/\(t.step p (y.hH p (t.hL p)).q).hL=up t.hL p:=by
 have e:t.step p (y.hH p (t.hL p)).q=(t.way p (t.nk p) (t.eq p (y.hH p (t.hL p)).q) (t.ev p (y.hH p (t.hL p)).q)).evt p (t.nk p) (t.eq p (y.hH p (t.hL p)).q) (t.ev p (y.hH p (t.hL p)).q):=nC hc;obtain ⟨k1,k2⟩:=b.kq ht hy hp hl;rw [e,b.evv ht hy hp hl hc,k2,<- k1]
 have eL:∀ j,(up t.hL p) j=if j=p then t.hL p+1 else t.hL j:=fun j=>by
  by_cases ej:j=p
  ·subst ej
   rw [qbu,nC rfl]
  ·rw [up_other ej,nB ej]
 refine ⟨⟨b.n,b.l,b.h,fun j hj=>?_,fun j hj i hi=>?_⟩,(funext eL).symm⟩
 ·show (if j=p then t.hL p+1 else t.hL j)<=y.hL j
  by_cases ej:j=p
  ·subst ej
   rw [nC rfl];omega
  ·rw [nB ej]
   exact b.le j hj
 ·have hi':i<(if j=p then t.hL p+1 else t.hL j):=hi
  show (if j=p then (fun i=>if i=t.hL p then (⟨(y.hH p (t.hL p)).k,(y.hH p (t.hL p)).q,(y.hH p (t.hL p)).v⟩:E3) else t.hH p i) else t.hH j) i=y.hH j i;by_cases ej:j=p
  ·subst ej
   rw [nC rfl] at hi' ⊢;by_cases ei:i=t.hL j
   ·rw [ei]
    simp only [if_true]
   ·show (if i=t.hL j then _ else t.hH j i)=_
    rw [nB ei];exact b.ev j hj i (by omega)
  ·rw [nB ej] at hi' ⊢
   exact b.ev j hj i hi'
theorem Sy.Beg.code {t y:Sy} (b:t.Beg y) (ht:t.Ok) (hy:y.Ok) {p:Nat} (hp:p<y.pn) (hl:t.hL p<y.hL p) (hs:(y.hH p (t.hL p)).k=3->cnt (y.hH p) 3 (y.hH p (t.hL p)).q (t.hL p)<cnt (y.hH (y.hH p (t.hL p)).q.toNat) 2 p (t.hL (y.hH p (t.hL p)).q.toNat)):cmS t p (y.hH p (t.hL p)).q=0\/cmS t p (y.hH p (t.hL p)).q=4\/cmS t p (y.hH p (t.hL p)).q=5:=by
 have hpt:p<t.pn:=by rw [b.n];exact hp
 unfold cmS;rw [nB (by rw [b.run ht hy hp hl];simp)]
 split
 ·exact .inr (.inl rfl)
 split
 case isFalse=>exact .inl rfl
 rename_i hk;obtain ⟨k1,k2,k3⟩:=b.take ht hy hp hl hk
 have e2:(if t.nq p=9 then (y.hH p (t.hL p)).q else t.nq p)=(y.hH p (t.hL p)).q:=by
  have:=k2;unfold Sy.eq at this;rw [nC hk] at this;exact this
 rw [e2];have he:=hy.evq hp hl;have h9:=hs k1;obtain ⟨q,hq⟩:∃ q:Nat,(y.hH p (t.hL p)).q=q:=⟨(y.hH p (t.hL p)).q.toNat,by omega⟩
 rw [hq] at he h9 ⊢;rw [nF] at h9;have hqn:q<y.pn:=by omega
 unfold tkS;rw [nC (by simp only [belB,nI];rw [b.n];omega),nF];have w:=ht.wayOf (a:=q) (b:=p) (by rw [b.n];exact hqn) hpt;have c1:cnt (t.hH p) 3 q (t.hL p)=cnt (y.hH p) 3 q (t.hL p):=qd4 fun i hi=>b.ev p hp i hi;have c2:cnt (t.hH q) 2 p (t.hL q)=cnt (y.hH q) 2 p (t.hL q):=qd4 fun i hi=>b.ev q hqn i hi;have w2:=qe4 (t.wH (q*t.pn+p)) (t.wL (q*t.pn+p));rw [nB (by omega)]
 split
 ·exact .inr (.inr rfl)
 ·exact .inl rfl
theorem Sy.Beg.same {t y:Sy} (b:t.Beg y) (ht:t.Ok) (hy:y.Ok) (ha:∀ p,p<y.pn->t.hL p=y.hL p):t.EqH y/\t.EqS y/\t.wn=y.wn/\∀ i,i<y.wn->numL (t.wH i) (t.wL i)=numL (y.wH i) (y.wL i):=by
 obtain ⟨-,hs,hh,hw⟩:=hy.cn;obtain ⟨-,hs',hh',hw'⟩:=ht.cn;refine ⟨⟨by rw [hh,hh',b.n],fun k hk=>?_⟩,⟨by rw [hs,hs',b.n],fun k hk=>?_⟩,by rw [hw,hw',b.n],fun i hi=>?_⟩
 ·have hk':k<y.pn:=by omega
  exact ⟨ha k hk',fun i hi=>b.ev k hk' i (by rw [ha k hk'];exact hi)⟩
 ·have hk':k<y.pn:=by omega
  have h1:=b.rp ht hk';rw [ha k hk',(qbe (hy.rp k hk')).2.2] at h1;exact (Option.some.inj h1).symm
 ·rw [hw] at hi
  have h0:0<y.pn:=hy.cn.1.1;have hx:i / y.pn<y.pn:=Nat.div_lt_of_lt_mul hi;have hb:i % y.pn<y.pn:=Nat.mod_lt _ h0;have ei:(i / y.pn)*y.pn+i % y.pn=i:=by rw [Nat.mul_comm];exact Nat.div_add_mod i y.pn
  have w1:=(ht.wa (i / y.pn) (by rw [b.n];exact hx) (i % y.pn) (by rw [b.n];exact hb)).eq;have w2:=(hy.wa (i / y.pn) hx (i % y.pn) hb).eq;rw [b.val hx,b.val hb,ha _ hx,ha _ hb,b.n] at w1;rw [<- w2] at w1;rw [ei] at w1;exact List.append_cancel_left w1
structure Sy.Mo (u y:Sy) (c d:Nat->Nat):Prop where
 b:u.Beg y
 ok:u.Ok
 l:∀ p,p<y.pn->u.hL p=max (c p) (d p)
theorem Sy.Mo.start {y:Sy} {c:List Int} (h:atB y c=true):y.Ok/\y.Cut c/\(y.atY (cN c)).Mo y (cN c) (fun _=>0)/\atS y c=y.atY (cN c)/\whB y c=true:=by
 unfold atB at h;simp only [nH] at h;obtain ⟨hc,hw⟩:=ql3 h.1;obtain ⟨hO,hC⟩:=qbj hc;have hd:∀ p,p<y.pn->cN c p<=y.hL p:=fun p hp=>hC.leN hp;refine ⟨hO,hC,⟨⟨rfl,rfl,rfl,hd,fun _ _ _ _=>rfl⟩,hO.atOk hd hw h.2,fun p hp=>(Nat.max_eq_left (nD _)).symm⟩,?_,h.1⟩;unfold atS;rw [nC h.1];unfold Sy.atW;rw [nC h.2]
theorem Sy.Mo.skip {u y:Sy} {c:Nat->Nat} {h:Nat->Wo2} {k p:Nat} (m:u.Mo y c (tnD (rwF h) k)) (e1:(h k).m=(p:Nat)) (hs:tnD (rwF h) k p<c p):u.Mo y c (tnD (rwF h) (k+1)):=by
 have ep:rwF h k=p:=by rw [rwF,e1];exact nF p
 refine ⟨m.b,m.ok,fun j hj=>?_⟩;rw [m.l j hj,qf2,ep];by_cases ej:j=p
 ·subst ej
  rw [qbu];omega
 ·rw [up_other ej]
theorem Sy.Mo.go {u y:Sy} (hy:y.Ok) {c:Nat->Nat} {h:Nat->Wo2} {k p:Nat} (m:u.Mo y c (tnD (rwF h) k)) (hp:p<y.pn) (e1:(h k).m=(p:Nat)) (hc:y.hs.Can (tnD (rwF h) k) p) (hs:¬ tnD (rwF h) k p<c p):
  u.hL p=tnD (rwF h) k p/\(stC u p (y.hH p (tnD (rwF h) k p)).q=0\/stC u p (y.hH p (tnD (rwF h) k p)).q=4\/stC u p (y.hH p (tnD (rwF h) k p)).q=5)/\(stC u p (y.hH p (tnD (rwF h) k p)).q=0->(stY u p (y.hH p (tnD (rwF h) k p)).q).Mo y c (tnD (rwF h) (k+1))):=by
 have ep:rwF h k=p:=by rw [rwF,e1];exact nF p
 have hl:u.hL p=tnD (rwF h) k p:=by rw [m.l p hp];omega
 have hlt:u.hL p<y.hL p:=by rw [hl];exact hc.1
 have hb:belB (p:Int) u.pn=true:=by
  simp only [belB,nI];rw [m.b.n];omega
 have hC:stC u p (y.hH p (tnD (rwF h) k p)).q=cmS u p (y.hH p (u.hL p)).q:=by
  unfold stC;rw [Sy.okB_true m.ok,nC rfl,nC hb,nF,hl]
 have hY:stY u p (y.hH p (tnD (rwF h) k p)).q=u.step p (y.hH p (u.hL p)).q:=by
  unfold stY;rw [Sy.okB_true m.ok,nC rfl,nC hb,nF,hl]
 rw [hC,hY];refine ⟨hl,m.b.code m.ok hy hp hlt fun hk=>?_,fun h0=>?_⟩
 ·rw [hl] at hk ⊢
  have h1:=hc.2 hk;have he:=hy.evq hp hc.1
  have h2:tnD (rwF h) k (y.hH p (tnD (rwF h) k p)).q.toNat<=u.hL (y.hH p (tnD (rwF h) k p)).q.toNat:=by
   have he':=he
   rw [m.l _ (by
    have:(y.hH p (tnD (rwF h) k p)).q<(y.pn:Int):=hy.pe p hp _ hc.1
    omega)]
   exact Nat.le_max_right _ _
  exact zL h1 (qfh _ _ _ h2)
 ·obtain ⟨b',l'⟩:=m.b.step m.ok hy hp hlt h0
  refine ⟨b',m.ok.step (by rw [m.b.n];exact hp) h0,fun j hj=>?_⟩;rw [l',qf2,ep];by_cases ej:j=p
  ·subst ej
   rw [qbu,qbu,hl];omega
  ·rw [up_other ej,up_other ej]
   exact m.l j hj
theorem Sy.Mo.done {u y:Sy} (hy:y.Ok) {c d:Nat->Nat} (m:u.Mo y c d) (hc:∀ p,p<y.pn->c p<=y.hL p) (ha:∀ p,p<y.pn->d p=y.hL p):u.EqH y/\u.EqS y:=by
 have h:=m.b.same m.ok hy fun p hp=>by
  rw [m.l p hp,ha p hp];exact Nat.max_eq_right (hc p hp)
 exact ⟨h.1,h.2.1⟩
theorem DW.alloc {w wr:World} {W0 c len cap N M B T:Nat} {a0:Option Addr} {x:SysIn} (h:DW w wr W0 c a0 len cap N M B T x) (o:Obj):DW w (wr.alloc o) W0 c a0 len cap N M B T x:=h.draw (h.cu.alloc o) (World.grownBy_alloc _ _ _)
structure WJ (w wr:World) (X:Nat) (x:SysIn):Prop where
 g:SysG wr x
 bx:x.bX wr X
 be:Bw w wr
theorem WJ.bw {w wr w':World} {X:Nat} {x:SysIn} (h:WJ w wr X x) (hb:Bw wr w'):WJ w w' X x:=⟨h.g.bw hb,h.bx.bw hb,h.be.trans (hb.mono h.be.size)⟩
theorem WJ.lt {w wr:World} {X:Nat} {x:SysIn} (h:WJ w wr X x):X<wr.heap.size:=zJ wr _ h.bx.1
theorem qam.inJ {z:Bool} {w:World} {B:Nat} {y:Sy} {v:Value} (o:qam z w B y v):∃ x:SysIn,v=x.v/\x.y=y/\SysG w x/\(∀ i,i<x.hn->x.hL i<=x.hC i)/\x.Nn false:=by
 obtain ⟨x,e1,e2,h⟩:=o.sysT.x;exact ⟨x,e1,e2,h.self,h.cap,h.nn⟩
theorem Hs.least_of {y:Hs} {d:Nat->Nat}:∀ (p:Nat),p<y.n->y.Can d p->∃ q,y.Least d q
 | p,hp,hc=>by
  by_cases h:∃ j,j<p/\y.Can d j
  ·obtain ⟨j,hj,hcj⟩:=h
   exact Hs.least_of j (by omega) hcj
  ·exact ⟨p,hp,hc,fun j hj hcj=>h ⟨j,hj,hcj⟩⟩
theorem Hs.gr_all {y:Hs} (hp:y.Peers) (hr:y.Row):∀ k,k<=y.tot->∀ j,j<k->∃ p,y.Least (y.gr j) p
 | 0,_,j,hj=>by omega
 | k+1,hk,j,hj=>by
  have ih:=Hs.gr_all hp hr k (by omega);by_cases e:j=k
  ·subst e
   by_cases h:∃ p,p<y.n/\y.Can (y.gr j) p
   ·obtain ⟨p,h1,h2⟩:=h
    exact Hs.least_of p h1 h2
   ·have:=Hs.gr_end ih hp hr fun p h1 h2=>h ⟨p,h1,h2⟩
    omega
  ·exact ih j (by omega)
theorem qnb (y:Sy):rwF (rwH y)=y.hs.gf:=by
 funext k
 show ((y.hs.gf k:Nat):Int).toNat=_;exact nF _
theorem qw0 {y:Sy} (hO:y.Ok):y.hs.RwOk (rwH y) y.hs.tot:=by
 have hp:y.hs.Peers:=fun p hp i hi=>hO.evq hp hi;have hall:=Hs.gr_all hp hO.ro y.hs.tot (nA _);have hput:=Hs.gr_sum hall;refine ⟨fun k hk=>?_,fun p hp=>?_⟩
 ·obtain ⟨p,h⟩:=hall k hk
  refine ⟨p,h.1,?_,?_,?_⟩
  ·show ((y.hs.gf k:Nat):Int)=_
   rw [(Hs.gr_next h).2]
  ·rw [qnb]
   show ((tnD y.hs.gf k (y.hs.gf k):Nat):Int)=_;rw [(Hs.gr_next h).2]
  ·rw [qnb,Hs.gr_tn]
   exact h.2.1
 ·rw [qnb,Hs.gr_tn]
  have h1:=hput.2.le;have h2:=hput.1
  have key:∀ n,sumL (y.hs.gr y.hs.tot) n=sumL y.hs.l n->∀ i,i<n->y.hs.gr y.hs.tot i=y.hs.l i:=by
   intro n
   induction n with
   | zero=>exact fun _ i hi=>by omega
   | succ n ih=>
    intro he i hi;have h3:=qde h1 n;have h4:=h1 n;have he:sumL (y.hs.gr y.hs.tot) n+y.hs.gr y.hs.tot n=sumL y.hs.l n+y.hs.l n:=he;by_cases e:i=n
    ·subst e
     omega
    ·exact ih (by omega) i (by omega)
  exact key y.hs.n h2 p hp
theorem qvz {y:Sy} (h:y.okB=true):rwB y (rwH y) (rwN y)=true:=by
 have hO:=Sy.ok_of h;rw [qv0 h,show rwN y=y.hs.tot from nC h,qaz (qw0 hO)]
open Go.Sort
theorem ql5 {ops:Array Oper} {rest:List Oper} {op:Oper} {act:Act} {Q:Exit->Act->World->Prop} (w:World) (hgd:op.guard=none) (s x:Operand)
  (ho:op.op=.call { callee:=.builtin .append,args:=#[s,x],argTypes:=#[30,30] })
  (B:Nat) (v:Value) (xs:List Int) (hs:act.eval s=v) (hv:OwnI w B v xs) (y:Int) (hx:act.eval x=.slice (some (aQ w.heap.size 0)) 1 1) (hn:xs.length<=1048576) (hB:B<=w.heap.size)
  (h:∀ v' w',OwnI w' B v' (xs ++ [y])->w.grownBy w' v.ownBlock->(∀ j,v'.ownBlock=some j->v.ownBlock=some j\/w.heap.size<=j)->wpList prog ops Q rest (act.put op.dst v') w'):
  wpList prog ops Q (op :: rest) act (w.alloc (.cells #[iV y] 3)):=by
 have hb:Bw w (w.alloc (.cells #[iV y] 3)):=(nE _ _).alloc (nA _) _;refine qa7 _ hgd s x ho B 1 v (some (aQ w.heap.size 0)) xs [y] hs hx (hv.bw hb) (.inr ⟨w.heap.size,0,rfl,by simp,fun i hi=>?_⟩) (by simp;omega) (by simp;omega) ?_
 ·have:i=0:=by simp at hi;omega
  subst this;exact zW _ _ _ 0 rfl
 ·intro v' w' o g h5
  refine h v' w' o ⟨g.os,g.tape,g.output,zP hb.size g.size,fun j hj hne=>(g.block j (zL hj hb.size) hne).trans (hb.block j hj)⟩ fun j hj=>?_
  rcases h5 with a | a
  ·exact .inl (a.symm.trans hj)
  ·rw [hj] at a
   simp only [nG] at a;right;rw [a];simp
structure TwR (w:World) (x:SysIn) (X:Nat) (v:Value) (k m:Nat) (wr:World):Prop where
 pw:Pw w X x.ha x.hc x.y.hs (x.y.hs.gr k) wr
 ow:OwnI wr w.heap.size v (tnL x.y.hs.gf m)
 ne:v.ownBlock≠some X
 ls:∀ j,j<k->∃ p,x.y.hs.Least (x.y.hs.gr j) p
theorem TwR.bw {w:World} {x:SysIn} {X k m:Nat} {v:Value} {wr w':World} (h:TwR w x X v k m wr) (hb:Bw wr w'):TwR w x X v k m w':=⟨h.pw.bw hb,h.ow.bw hb,h.ne,h.ls⟩
theorem TwR.told {w:World} {x:SysIn} {X k p:Nat} {v v':Value} {wr w':World} (h:TwR w x X v k k wr) (hp:x.y.hs.Least (x.y.hs.gr k) p) (o:OwnI w' w.heap.size v' (tnL x.y.hs.gf k ++ [((p:Nat):Int)])) (g:wr.grownBy w' v.ownBlock) (hv:∀ j,v'.ownBlock=some j->v.ownBlock=some j\/wr.heap.size<=j):TwR w x X v' k (k+1) w':=by
 have hX:=h.pw.hq.lt;refine ⟨⟨h.pw.be.trans (Below.grown (nE _ _) g h.pw.be.size fun j hj=>(h.ow.lt j hj).1),h.pw.hq.blk (g.block _ hX fun e=>h.ne e.symm)⟩,?_,fun e=>?_,h.ls⟩
 ·rw [qul,(Hs.gr_next hp).2]
  exact o
 ·rcases hv _ e with a | a
  ·exact h.ne a
  ·omega
theorem TwR.put {w:World} {x:SysIn} {X k p:Nat} {v:Value} {wr w':World} (h:TwR w x X v k (k+1) wr) (hX:w.heap.size<=X) (hp:x.y.hs.Least (x.y.hs.gr k) p) (hq:HisQ w' X x.ha x.hc x.y.hs (up (x.y.hs.gr k) p)) (t:qap (fun b=>b=X) wr w'):TwR w x X v (k+1) (k+1) w':=by
 refine ⟨?_,h.ow.blk fun j hj=>t.block j (h.ow.lt j hj).2 fun e=>h.ne (by rw [hj,show j=X from e]),h.ne,fun j hj=>?_⟩
 ·rw [(Hs.gr_next hp).1]
  exact h.pw.turn hX t hq
 ·by_cases e:j=k
  ·subst e
   exact ⟨p,hp⟩
  ·exact h.ls j (by omega)
def NxZ (x:SysIn) (k:Nat) (z:Int):Prop:=(∃ p:Nat,x.y.hs.Least (x.y.hs.gr k) p/\z=(p:Nat))\/(z = -1/\∀ p,p<x.y.hs.n->¬ x.y.hs.Can (x.y.hs.gr k) p)
theorem qms (x:SysIn) (w:World) (hG:SysG w x) (hL:x.Len) (hV:w.cell? (aQ 0 0)=some vT):
  Calls prog 14 #[x.v] w fun e w'=>∃ v,e=.returned v/\OwR w' w.heap.size v (rwN x.y) (rwH x.y)/\Bw w w':=by
 have HSo:Hid (∀ wx,Bw w wx->Calls prog 10 #[x.v] wx (rB wx (.bool x.y.okB))):=fun wx hb=>qbq x wx (hG.bw hb) hL ((hb.cell (zJ w _ hV)).trans hV);have HE:Hid (x.y.Ok->∀ wx,Bw w wx->HisE wx x.ha x.hA x.hC x.y.hs):=fun hO wx hb=>(hG.bw hb).his hO.cn.2.2.1;have B0:Hid (Bw w (w.alloc (x.oX))):=zT _ _;have X0:Hid (x.bX (w.alloc (x.oX)) w.heap.size):=BoxC.new w _ _ _ _ _;clear hG hL hV
 go_enter func14,ntmps14
 go_wp2_with fail
 generalize w.alloc (x.oX)=W0 at *;refine (HSo.out W0 B0.out).mono ?_;rintro e W1 ⟨rfl,b2⟩;have B2:Hid (Bw w W1/\x.bX W1 w.heap.size):=⟨B0.trans (b2.mono B0.size),X0.bw b2⟩
 clear b2 B0 X0 HSo;by_cases hok:x.y.okB=true
 case neg=>
  have hok':x.y.okB=false:=by simpa using hok
  have HN:Hid (rwN x.y=0):=nB hok;rw [hok'];go_wp2_with fail
  refine (qlk none 0 0 x.y.hs.gf W1 (.inl rfl) (fun k hk=>absurd hk (Nat.not_lt_zero _)) (by omega)).mono ?_;rintro e w4 ⟨v,rfl,o4,b4⟩;obtain ⟨g,c,rfl,-,-,-,-⟩:=o4.form;have R4:Hid (OwR w4 w.heap.size (sG g 0 c) (rwN x.y) (rwH x.y)/\Bw w w4):=⟨by rw [HN.out];exact o4.mono B2.1.size,B2.1.trans (b4.mono B2.1.size)⟩
  clear o4 b4 B2 HN;go_wp2;go_ret;exact ⟨_,rfl,R4.out⟩
 rw [hok];have HO:Hid (x.y.Ok):=Sy.ok_of hok;have HRN:Hid (rwN x.y=x.y.hs.tot):=nC hok;have h4:x.y.hs.n<=4:=HO.cn.1.2;have HP:Hid (x.y.hs.Peers/\(∀ i,i<x.y.hs.n->x.y.hs.l i<=200)):=⟨fun p hp i hi=>HO.evq hp hi,fun i hi=>HO.hl200 hi⟩
 have hto:x.y.hs.tot<=800:=Hs.tot_le h4 HP.2;have V2:Hid (OwnI (W1.alloc (.cells #[] 3)) W1.heap.size (sG W1.heap.size 0 0) []):=qbz W1;have B3:Hid (Bw w (W1.alloc (.cells #[] 3))/\x.bX (W1.alloc (.cells #[] 3)) w.heap.size/\w.heap.size<=W1.heap.size/\W1.heap.size<(W1.alloc (.cells #[] 3)).heap.size):=⟨B2.1.trans ((zT _ _).mono B2.1.size),B2.2.bw (zT _ _),B2.1.size,by simp⟩
 go_upto_region 4 with fail
 generalize W1.alloc (.cells #[] 3)=W2 at *;generalize W1.heap.size=N1 at *;clear B2;have hl:=qs9 x.ha x.hn x.hc;have ho:=qta x.ha x.hn x.hc;generalize hcs:hisZ x.ha x.hn x.hc=cs at *;have HC:Hid (hisZ x.ha x.hn x.hc=cs):=hcs
 have HI:Hid ((prog.info? 52).map (·.size)=some cs.length):=by
  show _=_;rw [hl];exact qws
 have HOne:Hid (cs.toArray.all (·.oneCell')=true):=all_oneCell_toArray ho;have HT:Hid ((W2.alloc (zQ4)).there W2.heap.size 0 cs.toArray.size):=qbm _ _ _ _ _ (by have h9:cs.toArray.size=21:=hl;rw [h9];rfl) rfl
 have T0:Hid (TwR w x W2.heap.size (sG N1 0 0) 0 0 ((W2.alloc (zQ4)).setCells W2.heap.size 0 cs)):=by
  obtain ⟨n1,n2⟩:=qvr x W2 HO.cn.2.2.1 cs hcs;exact ⟨⟨B3.1.trans (n2.mono B3.1.size),n1⟩,(V2.mono B3.2.2.1).bw n2,fun e=>by have h9:=B3.2.2.2;have e9:N1=W2.heap.size:=(by cases e;rfl);omega,fun j hj=>absurd hj (Nat.not_lt_zero _)⟩
 have HX:Hid (w.heap.size<=W2.heap.size):=B3.1.size;obtain ⟨s0,s1,s2,s3⟩:=B3.2.1;clear hok hl ho hcs;go_upto_region 5 with (refine wpList_store_mid rfl 52 (.tmp 4) (.tmp 13) rfl W2.heap.size 0 cs.toArray rfl (by rw [<- HC.out];rfl) HT.out (by simpa using HI.out) HOne.out ?_)
 clear s0 s1 s2 s3 HT HC HI HOne V2 B3;generalize (W2.alloc (zQ4)).setCells W2.heap.size 0 cs=W3 at *;generalize W2.heap.size=X at *;clear W2
 have HNx:Hid (∀ v k m wx,TwR w x X v k m wx->Calls prog 35 #[.pointer (some ⟨X,0,none⟩)] wx fun e w'=>∃ z:Int,e=.returned (iV z)/\TwR w x X v k m w'/\NxZ x k z):=fun v k m wx h=>by
  refine (qww X x.ha x.hc x.hA x.hC x.y.hs (x.y.hs.gr k) wx (HE.out HO.out wx h.pw.be) h.pw.hq h4 HP.1 HP.2 (Hs.gr_sum h.ls).2.le).mono ?_;rintro e w1 ⟨q1,hor⟩
  rcases hor with ⟨p,hp,rfl⟩ | ⟨rfl,hn⟩
  ·exact ⟨_,rfl,h.bw q1,.inl ⟨p,hp,rfl⟩⟩
  ·exact ⟨_,rfl,h.bw q1,.inr ⟨rfl,hn⟩⟩
 go_wp2_with fail
 refine (HNx.out _ 0 0 W3 T0.out).mono ?_;rintro e w4 ⟨z,rfl,t4,nz⟩;have T4:Hid (TwR w x X (sG N1 0 0) 0 0 w4):=t4;have NZ:Hid (NxZ x 0 z):=nz;clear t4 nz T0;go_wp2_with fail
 go_loopg [3,5] x.y.hs.tot (fun g v i wr=>∃ (k:Nat) (z:Int) (ga:Option Addr) (gc:Nat),g=x.y.hs.tot - k/\v=.slice ga k gc/\i=.int .i64 z/\Hid (TwR w x X (.slice ga k gc) k k wr)/\Hid (NxZ x k z))
 case atStart=>exact ⟨0,z,_,_,by omega,by with_reducible rfl,rfl,T4.out,NZ.out⟩
 case round=>
  clear T4 NZ;obtain ⟨k,zz,ga,gc,hgk,rfl,rfl,HT,HZ⟩:=hrel;have HGk:Hid (gk=x.y.hs.tot - k):=hgk;clear hgk;have HKt:Hid (k<=x.y.hs.tot):=Hs.gr_le HT.ls
  rcases HZ.out with ⟨p,hp,rfl⟩ | ⟨rfl,hst⟩
  case inr=>
   have HKe:Hid (k=x.y.hs.tot):=Hs.gr_end HT.ls HP.1 HO.ro hst
   have HF4:Hid (∀ j,j<k->x.y.hs.gf j<4):=fun j hj=>by
    obtain ⟨p,hp⟩:=HT.ls j hj;rw [(Hs.gr_next hp).2];have:=hp.1;omega
   clear hst HZ HGk HNx;go_wp2_with fail
   refine (qlk ga k gc x.y.hs.gf _ HT.ow.slOf HF4.out (by have:=HKt.out;omega)).mono ?_;rintro e w5 ⟨v,rfl,o5,b5⟩;obtain ⟨g,c,rfl,-,-,-,-⟩:=o5.form;have R5:Hid (OwR w5 w.heap.size (sG g k c) (rwN x.y) (rwH x.y)/\Bw w w5):=⟨by rw [HRN.out,<- HKe.out];exact o5.mono HT.pw.be.size,HT.pw.be.trans (b5.mono HT.pw.be.size)⟩
   clear o5 b5 HT HKe HF4 HKt HRN;go_wp2;go_ret;exact ⟨_,rfl,R5.out⟩
  have HLe:Hid (x.y.hs.Least (x.y.hs.gr k) p):=hp;have hz:¬ (p:Int) = -1:=by omega
  have hz':((p:Int) != -1)=true:=by simp
  have HKl:Hid ((tnL x.y.hs.gf k).length<=1048576/\w.heap.size<=wr.heap.size):=⟨by rw [qnr];have:=HKt.out;omega,HT.pw.be.size⟩
  clear hp HZ;go_upto_region 9 with (at_builtin;refine ql5 wr rfl _ _ rfl w.heap.size (.slice ga k gc) (tnL x.y.hs.gf k) rfl HT.ow (p:Nat) rfl HKl.1 HKl.2 ?_;intro v' w5 o5 g5 h5;have T5:Hid (TwR w x X v' k (k+1) w5):=HT.told HLe.out o5 g5 h5;obtain ⟨ga5,gc5,e5,-⟩:=T5.ow.form;rw [qnr] at e5;subst e5;clear o5 g5 h5)
  clear HT HKl;go_wp2_with fail
  refine (qtv X x.ha x.hc x.hA x.hC x.y.hs (x.y.hs.gr k) p w5 (HE.out HO.out w5 T5.pw.be) T5.pw.hq h4 HLe.1 HP.1 HP.2 (Hs.gr_sum T5.ls).2.le HLe.2.1.1).mono ?_;rintro e w6 ⟨rfl,q6,t6⟩;have T6:Hid (TwR w x X (.slice ga5 (k+1) gc5) (k+1) (k+1) w6):=T5.put HX.out HLe.out q6 t6;clear q6 t6 T5 HLe;go_wp2_with fail
  refine (HNx.out _ (k+1) (k+1) w6 T6.out).mono ?_;rintro e w7 ⟨z7,rfl,t7,nz7⟩;have T7:Hid (TwR w x X (.slice ga5 (k+1) gc5) (k+1) (k+1) w7):=t7;have NZ7:Hid (NxZ x (k+1) z7):=nz7;have HK7:Hid (k+1<=x.y.hs.tot):=Hs.gr_le t7.ls;clear t7 nz7 T6;go_wp2
  go_roundg (x.y.hs.tot - (k+1))
  case measure=>have:=HGk.out;have:=HK7.out;omega
  case rel=>exact ⟨k+1,z7,ga5,gc5,rfl,by with_reducible rfl,rfl,T7.out,NZ7.out⟩
