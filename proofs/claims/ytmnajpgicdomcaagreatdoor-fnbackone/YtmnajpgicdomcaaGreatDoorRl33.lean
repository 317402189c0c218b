import Derived.Test.YtmnajpgicdomcaaGreatDoorRl28
namespace Go.Proofs.YtmnajpgicdomcaaGreatDoor
set_option maxRecDepth 100000
set_option maxHeartbeats 2000000
open Go.ChangeShapes Go.WideShapes Go.ChangeAt Go.RowKit Go.Deep
theorem qid (a0 a1:Option Addr) (n c0 c1:Nat) (h:Nat->E3) (w:World) (hlen:n<=1048576) (h0:EvL w a0 n h) (h1:EvL w a1 n h):
  Calls Tryz.prog 36 #[.slice a0 n c0,.slice a1 n c1] w fun e w'=>e=.returned (.bool true)/\Below w.heap.size w w':=by
 have hl':(n:Int)<=1048576:=by omega
 have H0:Hid (EvL w a0 n h):=h0;have H1:Hid (EvL w a1 n h):=h1;clear h0 h1
 go_enter Tryz.func36,Tryz.ntmps36
 go_wp2_with fail
 go_loopw [5] (fun i wr=>∃ k:Nat,k<=n/\i=.int .i64 k/\Below w.heap.size w wr) (fun i _=>n - (intOf i).toNat)
 case atStart=>exact ⟨0,Nat.zero_le _,rfl,Below.refl _ _⟩
 case round=>
  obtain ⟨k,hk,rfl,hbw⟩:=hrel;by_cases hlt:k<n
  ·obtain ⟨b,off,rfl,hbl,ck0,ck1,ck2⟩:=(H0.out.below hbw).at hlt
   obtain ⟨b',off',rfl,hbl',ck0',ck1',ck2'⟩:=(H1.out.below hbw).at hlt;have hlt':(k:Int)<(n:Int):=by omega
   go_wp2_with fail
   go_quiet (fail)
   go_wp2;go_roundw
   case rel=>exact ⟨k+1,by omega,by go_num,yE hbw _⟩
   case measure=>simp [intOf];omega
  ·go_wp2
   go_ret;exact ⟨rfl,hbw⟩
structure Tw (w:World) (N:Nat) (x x':SysIn):Prop where
 g:SysG w x
 g':SysG w x'
 b:BoxC w N (.slice x.pa x.pn x.pc) (.slice x.sa x.sn x.sc) (.slice x.wa x.wn x.wc) (.slice x.ha x.hn x.hc)
 b':BoxC w (N+1) (.slice x'.pa x'.pn x'.pc) (.slice x'.sa x'.sn x'.sc) (.slice x'.wa x'.wn x'.wc) (.slice x'.ha x'.hn x'.hc)
theorem Tw.below {w w':World} {N:Nat} {x x':SysIn} (h:Tw w N x x') (hb:Below w.heap.size w w'):Tw w' N x x':=⟨h.g.below hb,h.g'.below hb,h.b.below hb,h.b'.below hb⟩
theorem Tw.new (w:World) (x x':SysIn) (hG:SysG w x) (hG':SysG w x'):Tw ((w.alloc (oQ4 x.pa x.pn x.pc x.sa x.sn x.sc x.wa x.wn x.wc x.ha x.hn x.hc)).alloc (oQ4 x'.pa x'.pn x'.pc x'.sa x'.sn x'.sc x'.wa x'.wn x'.wc x'.ha x'.hn x'.hc)) w.heap.size x x':=by
 have hb:Below w.heap.size w ((w.alloc (oQ4 x.pa x.pn x.pc x.sa x.sn x.sc x.wa x.wn x.wc x.ha x.hn x.hc)).alloc (oQ4 x'.pa x'.pn x'.pc x'.sa x'.sn x'.sc x'.wa x'.wn x'.wc x'.ha x'.hn x'.hc)):=(zQ _ _).trans ((zQ _ _).mono (by simp));refine ⟨hG.below hb,hG'.below hb,(BoxC.new w _ _ _ _ _).below (zQ _ _),?_⟩;have h:=BoxC.new (w.alloc (oQ4 x.pa x.pn x.pc x.sa x.sn x.sc x.wa x.wn x.wc x.ha x.hn x.hc)) (.slice x'.pa x'.pn x'.pc) (.slice x'.sa x'.sn x'.sc) (.slice x'.wa x'.wn x'.wc) (.slice x'.ha x'.hn x'.hc) 29;rw [World.size_alloc] at h;exact h
theorem EvL.congr {w:World} {a:Option Addr} {n:Nat} {h h':Nat->E3} (o:EvL w a n h) (e:∀ i,i<n->h' i=h i):EvL w a n h':=by
 rcases o with o | ⟨b,off,ea,hb,o⟩
 ·exact .inl o
 ·exact .inr ⟨b,off,ea,hb,fun i hi=>by rw [e i hi];exact o i hi⟩
def Sy.EqH (y' y:Sy):Prop:=y'.hn=y.hn/\∀ k,k<y.hn->y'.hL k=y.hL k/\∀ i,i<y.hL k->y'.hH k i=y.hH k i
def Sy.EqS (y' y:Sy):Prop:=y'.sn=y.sn/\∀ k,k<y.sn->y'.sS k=y.sS k
theorem qie (x x':SysIn) (w:World) (hy:x'.y.EqH x.y) (hG:SysG w x) (hG':SysG w x') (hL:x.Len):
  Calls Tryz.prog 16 #[x.v,x'.v] w fun e w'=>e=.returned (.bool true)/\Below w.heap.size w w':=by
 have hn:x'.hn=x.hn:=hy.1;have hl':(x.hn:Int)<=1048576:=by have:=hL.h.1;omega
 have T0:Hid (Tw ((w.alloc (oQ4 x.pa x.pn x.pc x.sa x.sn x.sc x.wa x.wn x.wc x.ha x.hn x.hc)).alloc (oQ4 x'.pa x'.pn x'.pc x'.sa x'.sn x'.sc x'.wa x'.wn x'.wc x'.ha x'.hn x'.hc)) w.heap.size x x'):=Tw.new w x x' hG hG';have B0:Hid (Below w.heap.size w ((w.alloc (oQ4 x.pa x.pn x.pc x.sa x.sn x.sc x.wa x.wn x.wc x.ha x.hn x.hc)).alloc (oQ4 x'.pa x'.pn x'.pc x'.sa x'.sn x'.sc x'.wa x'.wn x'.wc x'.ha x'.hn x'.hc))):=(zQ _ _).trans ((zQ _ _).mono (by simp));have HY:Hid (x'.y.EqH x.y/\x.Len):=⟨hy,hL⟩
 have HQ:Hid (x'.hn=x.hn):=hn;clear hG hG' hL hy hn
 go_enter Tryz.func16,Tryz.ntmps16
 go_upto_region 1 with fail
 generalize (w.alloc (oQ4 x.pa x.pn x.pc x.sa x.sn x.sc x.wa x.wn x.wc x.ha x.hn x.hc)).alloc (oQ4 x'.pa x'.pn x'.pc x'.sa x'.sn x'.sc x'.wa x'.wn x'.wc x'.ha x'.hn x'.hc)=W2 at *;generalize hNN:w.heap.size=N at *;have HNN:Hid (w.heap.size=N):=hNN;clear hNN;obtain ⟨x0,x1,x2,x3⟩:=T0.out.b;obtain ⟨y0,y1,y2,y3⟩:=T0.out.b';rw [HQ.out] at y3;go_wp2_with fail
 clear x0 x1 x2 x3 y0 y1 y2 y3
 go_loopw [5] (fun i wr=>∃ k:Nat,k<=x.hn/\i=.int .i64 k/\Hid (Tw wr N x x'/\Below N w wr)) (fun i _=>x.hn - (intOf i).toNat)
 case atStart=>exact ⟨0,Nat.zero_le _,rfl,T0.out,B0.out⟩
 case round=>
  obtain ⟨k,hk,rfl,HT⟩:=hrel;obtain ⟨x0,x1,x2,x3⟩:=HT.1.b;obtain ⟨y0,y1,y2,y3⟩:=HT.1.b';rw [HQ.out] at y3;have lN:N<wr.heap.size:=zJ wr _ x0;have lM:N+1<wr.heap.size:=zJ wr _ y0;by_cases hlt:k<x.hn
  ·have hlt':(k:Int)<(x.hn:Int):=by omega
   have nlt:¬ (x.hn:Int)<=(k:Int):=by omega
   have eL:x'.hL k=x.hL k:=(HY.1.2 k hlt).1;have eH:∀ i,i<x.hL k->x.hH k i=x'.hH k i:=fun i hi=>((HY.1.2 k hlt).2 i hi).symm;obtain ⟨b,off,ea,ck⟩:=HT.1.g.h.at hlt;obtain ⟨b',off',ea',ck'⟩:=HT.1.g'.h.at (show k<x'.hn by rw [HQ.out];exact hlt);rw [eL] at ck';have E:Hid (EvL wr (x.hA k) (x.hL k) (x.hH k)/\EvL wr (x'.hA k) (x.hL k) (x.hH k)/\x.hL k<=1048576):=⟨HT.1.g.hi k hlt,by have:=HT.1.g'.hi k (show k<x'.hn by rw [HQ.out];exact hlt);rw [eL] at this;exact this.congr eH,HY.2.h.2 k hlt⟩
   rw [ea] at x3;rw [ea'] at y3;clear ea ea' eL eH;have lb:b<wr.heap.size:=zJ wr _ ck;have lb':b'<wr.heap.size:=zJ wr _ ck';go_upto_region 6 with fail
   have q0:Below wr.heap.size wr wr.drew:=(Below.refl wr.heap.size wr).drew;refine qaj (fun w'=>w'.cell? ⟨N,3,none⟩=some (.slice (some ⟨b,off,none⟩) x.hn x.hc)/\w'.cell? ⟨N+1,3,none⟩=some (.slice (some ⟨b',off',none⟩) x.hn x'.hc)/\w'.cell? ⟨b,off+k,none⟩=some (.slice (x.hA k) (x.hL k) (x.hC k))/\w'.cell? ⟨b',off'+k,none⟩=some (.slice (x'.hA k) (x.hL k) (x'.hC k))) (fun _=>false) (by kernel_rfl) ?_;have hHeld:(fun w':World=>w'.cell? ⟨N,3,none⟩=some (.slice (some ⟨b,off,none⟩) x.hn x.hc)/\w'.cell? ⟨N+1,3,none⟩=some (.slice (some ⟨b',off',none⟩) x.hn x'.hc)/\w'.cell? ⟨b,off+k,none⟩=some (.slice (x.hA k) (x.hL k) (x.hC k))/\w'.cell? ⟨b',off'+k,none⟩=some (.slice (x'.hA k) (x.hL k) (x'.hC k))) wr.drew:=⟨(q0.cell (p:=⟨N,3,none⟩) lN).trans x3,(q0.cell (p:=⟨N+1,3,none⟩) lM).trans y3,(q0.cell (p:=⟨b,_,none⟩) lb).trans ck,(q0.cell (p:=⟨b',_,none⟩) lb').trans ck'⟩
   refine qax [0,1,2,3,4,5,6,7,8,9] ?_;iterate 10 (refine qa8 rfl hHeld ?_)
   refine qao ?_;refine qaa 10 rfl (by kernel_rfl) (fun K hK=>?_);refine qae rfl 36 _ _ rfl #[.slice (x.hA k) (x.hL k) (x.hC k),.slice (x'.hA k) (x.hL k) (x'.hC k)] (by simp [Act.eval]) (yB Tryz.func36 (by kernel_rfl) rfl) (qid (x.hA k) (x'.hA k) (x.hL k) (x.hC k) (x'.hC k) (x.hH k) wr.drew E.2.2 (E.1.below q0) (E.2.1.below q0)) ?_;rintro e w5 ⟨rfl,d5⟩;refine ⟨_,rfl,?_⟩;have q5:Below wr.heap.size wr w5:=q0.trans d5;have hHeld5:(fun w':World=>w'.cell? ⟨N,3,none⟩=some (.slice (some ⟨b,off,none⟩) x.hn x.hc)/\w'.cell? ⟨N+1,3,none⟩=some (.slice (some ⟨b',off',none⟩) x.hn x'.hc)/\w'.cell? ⟨b,off+k,none⟩=some (.slice (x.hA k) (x.hL k) (x.hC k))/\w'.cell? ⟨b',off'+k,none⟩=some (.slice (x'.hA k) (x.hL k) (x'.hC k))) w5:=⟨(q5.cell (p:=⟨N,3,none⟩) lN).trans x3,(q5.cell (p:=⟨N+1,3,none⟩) lM).trans y3,(q5.cell (p:=⟨b,_,none⟩) lb).trans ck,(q5.cell (p:=⟨b',_,none⟩) lb').trans ck'⟩
   refine hK.out _ _ (fun _=>hHeld5) ?_;clear hHeld;have hHeld:=hHeld5;clear hHeld5 d5 hK K
   (try simp only [Act.put,zD,zE,zF])
   refine qbl 11 rfl hHeld ?_;refine qar (by kernel_rfl) ?_ _;have K5:Hid (Tw w5 N x x'/\Below N w w5):=⟨HT.1.below q5,HT.2.trans (q5.mono (Nat.le_of_lt lN))⟩
   clear hHeld q5 q0 HT;go_wp2;go_roundw
   case rel=>exact ⟨k+1,by omega,by go_num,K5.out⟩
   case measure=>simp [intOf];omega
  ·go_wp2
   go_ret;exact ⟨rfl,by rw [HNN.out];exact HT.2⟩
theorem qf6 (x x':SysIn) (w:World) (hy:x'.y.EqS x.y) (hG:SysG w x) (hG':SysG w x') (hL:x.Len):
  Calls Tryz.prog 17 #[x.v,x'.v] w fun e w'=>e=.returned (.bool true)/\Below w.heap.size w w':=by
 have hn:x'.sn=x.sn:=hy.1;have hl':(x.sn:Int)<=1048576:=by have:=hL.s.1;omega
 have T0:Hid (Tw ((w.alloc (oQ4 x.pa x.pn x.pc x.sa x.sn x.sc x.wa x.wn x.wc x.ha x.hn x.hc)).alloc (oQ4 x'.pa x'.pn x'.pc x'.sa x'.sn x'.sc x'.wa x'.wn x'.wc x'.ha x'.hn x'.hc)) w.heap.size x x'):=Tw.new w x x' hG hG';have B0:Hid (Below w.heap.size w ((w.alloc (oQ4 x.pa x.pn x.pc x.sa x.sn x.sc x.wa x.wn x.wc x.ha x.hn x.hc)).alloc (oQ4 x'.pa x'.pn x'.pc x'.sa x'.sn x'.sc x'.wa x'.wn x'.wc x'.ha x'.hn x'.hc))):=(zQ _ _).trans ((zQ _ _).mono (by simp));have HY:Hid (x'.y.EqS x.y/\x.Len):=⟨hy,hL⟩
 have HQ:Hid (x'.sn=x.sn):=hn;clear hG hG' hL hy hn
 go_enter Tryz.func17,Tryz.ntmps17
 go_upto_region 1 with fail
 generalize (w.alloc (oQ4 x.pa x.pn x.pc x.sa x.sn x.sc x.wa x.wn x.wc x.ha x.hn x.hc)).alloc (oQ4 x'.pa x'.pn x'.pc x'.sa x'.sn x'.sc x'.wa x'.wn x'.wc x'.ha x'.hn x'.hc)=W2 at *;generalize hNN:w.heap.size=N at *;have HNN:Hid (w.heap.size=N):=hNN;clear hNN;obtain ⟨x0,x1,x2,x3⟩:=T0.out.b;obtain ⟨y0,y1,y2,y3⟩:=T0.out.b';rw [HQ.out] at y1;go_wp2_with fail
 clear x0 x1 x2 x3 y0 y1 y2 y3
 go_loopw [5] (fun i wr=>∃ k:Nat,k<=x.sn/\i=.int .i64 k/\Hid (Tw wr N x x'/\Below N w wr)) (fun i _=>x.sn - (intOf i).toNat)
 case atStart=>exact ⟨0,Nat.zero_le _,rfl,T0.out,B0.out⟩
 case round=>
  obtain ⟨k,hk,rfl,HT⟩:=hrel;obtain ⟨x0,x1,x2,x3⟩:=HT.1.b;obtain ⟨y0,y1,y2,y3⟩:=HT.1.b';rw [HQ.out] at y1;have lN:N<wr.heap.size:=zJ wr _ x0;have lM:N+1<wr.heap.size:=zJ wr _ y0;by_cases hlt:k<x.sn
  ·have hlt':(k:Int)<(x.sn:Int):=by omega
   have nlt:¬ (x.sn:Int)<=(k:Int):=by omega
   have eS:x'.sS k=x.sS k:=HY.1.2 k hlt;obtain ⟨b,off,ea,lb,ck⟩:=HT.1.g.s.row.resolve_left (by omega);obtain ⟨b',off',ea',lb',ck'⟩:=HT.1.g'.s.row.resolve_left (by have:=HQ.out;omega);have ck:=ck k hlt;have ck':=ck' k (by have:=HQ.out;omega);have E0:=HT.1.g.s.lst k hlt;have E1:=HT.1.g'.s.lst k (by have:=HQ.out;omega);have hb:=HY.2.s.2 k hlt;obtain ⟨e1,e2,e3,e4⟩:(x'.sQ k).p=(x.sQ k).p/\(x'.sQ k).rs=(x.sQ k).rs/\(x'.sQ k).os=(x.sQ k).os/\(x'.sQ k).c=(x.sQ k).c:=⟨congrArg S4.p eS,congrArg S4.rs eS,congrArg S4.os eS,congrArg S4.c eS⟩
   rw [e1,e2,e3,e4] at ck';rw [e2,e3] at E1;generalize (x.sQ k).p=p at *;generalize (x.sQ k).c=cd at *;generalize (x.sQ k).rs=rs at *;generalize (x.sQ k).os=os at *;generalize (x.sQ k).ra=ra at *;generalize (x.sQ k).rc=rc at *;generalize (x.sQ k).oa=oa at *;generalize (x.sQ k).oc=oc at *;generalize (x'.sQ k).ra=ra' at *;generalize (x'.sQ k).rc=rc' at *;generalize (x'.sQ k).oa=oa' at *;generalize (x'.sQ k).oc=oc' at *;obtain ⟨s0,s1,s2,s3⟩:=ck;obtain ⟨t0,t1,t2,t3⟩:=ck';have E:Hid ((Sl wr ra rs/\Sl wr oa os)/\(Sl wr ra' rs/\Sl wr oa' os)/\rs.length<=1048576/\os.length<=1048576):=⟨E0,E1,hb⟩
   rw [ea] at x1;rw [ea'] at y1;clear ea ea' eS e1 e2 e3 e4 E0 E1 hb;go_upto_region 6 with fail
   have q0:Below wr.heap.size wr wr.drew:=(Below.refl wr.heap.size wr).drew;refine qaj (fun w'=>w'.cell? ⟨N,1,none⟩=some (.slice (some ⟨b,off,none⟩) x.sn x.sc)/\w'.cell? ⟨N+1,1,none⟩=some (.slice (some ⟨b',off',none⟩) x.sn x'.sc)/\(w'.cell? ⟨b,off+k*4,none⟩=some (.int .i64 p)/\w'.cell? ⟨b,off+k*4+1,none⟩=some (.slice ra rs.length rc)/\w'.cell? ⟨b,off+k*4+2,none⟩=some (.slice oa os.length oc)/\w'.cell? ⟨b,off+k*4+3,none⟩=some (.int .i64 cd))/\(w'.cell? ⟨b',off'+k*4,none⟩=some (.int .i64 p)/\w'.cell? ⟨b',off'+k*4+1,none⟩=some (.slice ra' rs.length rc')/\w'.cell? ⟨b',off'+k*4+2,none⟩=some (.slice oa' os.length oc')/\w'.cell? ⟨b',off'+k*4+3,none⟩=some (.int .i64 cd))) (fun _=>false) (by kernel_rfl) ?_;have hHeld:(fun w':World=>w'.cell? ⟨N,1,none⟩=some (.slice (some ⟨b,off,none⟩) x.sn x.sc)/\w'.cell? ⟨N+1,1,none⟩=some (.slice (some ⟨b',off',none⟩) x.sn x'.sc)/\(w'.cell? ⟨b,off+k*4,none⟩=some (.int .i64 p)/\w'.cell? ⟨b,off+k*4+1,none⟩=some (.slice ra rs.length rc)/\w'.cell? ⟨b,off+k*4+2,none⟩=some (.slice oa os.length oc)/\w'.cell? ⟨b,off+k*4+3,none⟩=some (.int .i64 cd))/\(w'.cell? ⟨b',off'+k*4,none⟩=some (.int .i64 p)/\w'.cell? ⟨b',off'+k*4+1,none⟩=some (.slice ra' rs.length rc')/\w'.cell? ⟨b',off'+k*4+2,none⟩=some (.slice oa' os.length oc')/\w'.cell? ⟨b',off'+k*4+3,none⟩=some (.int .i64 cd))) wr.drew:=⟨(q0.cell (p:=⟨N,1,none⟩) lN).trans x1,(q0.cell (p:=⟨N+1,1,none⟩) lM).trans y1,⟨(q0.cell (p:=⟨b,_,none⟩) lb).trans s0,(q0.cell (p:=⟨b,_,none⟩) lb).trans s1,(q0.cell (p:=⟨b,_,none⟩) lb).trans s2,(q0.cell (p:=⟨b,_,none⟩) lb).trans s3⟩,⟨(q0.cell (p:=⟨b',_,none⟩) lb').trans t0,(q0.cell (p:=⟨b',_,none⟩) lb').trans t1,(q0.cell (p:=⟨b',_,none⟩) lb').trans t2,(q0.cell (p:=⟨b',_,none⟩) lb').trans t3⟩⟩
   refine qax [0,1,2,3,4,5,6,7,8,9] ?_;iterate 10 (refine qa8 rfl hHeld ?_)
   refine qao ?_;refine qaa 10 rfl (by kernel_rfl) (fun K hK=>?_);refine qae rfl 37 _ _ rfl #[stV p ra rs.length rc oa os.length oc cd,stV p ra' rs.length rc' oa' os.length oc' cd] (by simp [Act.eval]) (yB Tryz.func37 (by kernel_rfl) rfl) (qiv p cd ra oa ra' oa' rc oc rc' oc' rs os wr.drew E.2.2.1 E.2.2.2 (E.1.1.below q0) (E.1.2.below q0) (E.2.1.1.below q0) (E.2.1.2.below q0)) ?_;rintro e w5 ⟨rfl,d5⟩;refine ⟨_,rfl,?_⟩;have q5:Below wr.heap.size wr w5:=q0.trans d5;have hHeld5:(fun w':World=>w'.cell? ⟨N,1,none⟩=some (.slice (some ⟨b,off,none⟩) x.sn x.sc)/\w'.cell? ⟨N+1,1,none⟩=some (.slice (some ⟨b',off',none⟩) x.sn x'.sc)/\(w'.cell? ⟨b,off+k*4,none⟩=some (.int .i64 p)/\w'.cell? ⟨b,off+k*4+1,none⟩=some (.slice ra rs.length rc)/\w'.cell? ⟨b,off+k*4+2,none⟩=some (.slice oa os.length oc)/\w'.cell? ⟨b,off+k*4+3,none⟩=some (.int .i64 cd))/\(w'.cell? ⟨b',off'+k*4,none⟩=some (.int .i64 p)/\w'.cell? ⟨b',off'+k*4+1,none⟩=some (.slice ra' rs.length rc')/\w'.cell? ⟨b',off'+k*4+2,none⟩=some (.slice oa' os.length oc')/\w'.cell? ⟨b',off'+k*4+3,none⟩=some (.int .i64 cd))) w5:=⟨(q5.cell (p:=⟨N,1,none⟩) lN).trans x1,(q5.cell (p:=⟨N+1,1,none⟩) lM).trans y1,⟨(q5.cell (p:=⟨b,_,none⟩) lb).trans s0,(q5.cell (p:=⟨b,_,none⟩) lb).trans s1,(q5.cell (p:=⟨b,_,none⟩) lb).trans s2,(q5.cell (p:=⟨b,_,none⟩) lb).trans s3⟩,⟨(q5.cell (p:=⟨b',_,none⟩) lb').trans t0,(q5.cell (p:=⟨b',_,none⟩) lb').trans t1,(q5.cell (p:=⟨b',_,none⟩) lb').trans t2,(q5.cell (p:=⟨b',_,none⟩) lb').trans t3⟩⟩
   refine hK.out _ _ (fun _=>hHeld5) ?_;clear hHeld;have hHeld:=hHeld5;clear hHeld5 d5 hK K
   (try simp only [Act.put,zD,zE,zF])
   refine qbl 11 rfl hHeld ?_;refine qar (by kernel_rfl) ?_ _;have K5:Hid (Tw w5 N x x'/\Below N w w5):=⟨HT.1.below q5,HT.2.trans (q5.mono (Nat.le_of_lt lN))⟩
   clear hHeld q5 q0 HT;go_wp2;go_roundw
   case rel=>exact ⟨k+1,by omega,by go_num,K5.out⟩
   case measure=>simp [intOf];omega
  ·go_wp2
   go_ret;exact ⟨rfl,by rw [HNN.out];exact HT.2⟩
theorem qke (x x':SysIn) (w:World) (hy:x'.y=x.y) (hG:SysG w x) (hG':SysG w x') (hL:x.Len):
  Calls Tryz.prog 16 #[x.v,x'.v] w fun e w'=>e=.returned (.bool true)/\Below w.heap.size w w':=qie x x' w (by rw [hy];exact ⟨rfl,fun _ _=>⟨rfl,fun _ _=>rfl⟩⟩) hG hG' hL
theorem qif (x x':SysIn) (w:World) (hy:x'.y=x.y) (hG:SysG w x) (hG':SysG w x') (hL:x.Len):
  Calls Tryz.prog 17 #[x.v,x'.v] w fun e w'=>e=.returned (.bool true)/\Below w.heap.size w w':=qf6 x x' w (by rw [hy];exact ⟨rfl,fun _ _=>rfl⟩) hG hG' hL
