import Derived.Test.YtnfdnnmddadmkaaGreatDoorOg41
import Derived.Maps.OwnSet
import Derived.DeepKeys4
import Derived.Carry
namespace Go.Proofs.YtnfdnnmddadmkaaGreatDoor
set_option maxRecDepth 100000
set_option maxHeartbeats 8000000
open Go.ChangeShapes Go.WideShapes Go.ChangeAt Go.RowKit Go.Deep Go.Sort Go.Maps
abbrev ckV (f:Nat->Nat):Value:=.agg #[.int .i64 (f 0),.int .i64 (f 1),.int .i64 (f 2),.int .i64 (f 3)]
abbrev sptV (p i:Int):Value:=.agg #[.int .i64 p,.int .i64 i]
abbrev RVk:Value->Option (DataW Value × List MemPlace):=fun v=>some (.held v,[])
def kS (p i:Int):Lit:=.string (keyBytes [.int .i64 p,.int .i64 i])
theorem qu2:WideMaps.KeyLaw Tryz.prog 135:=deep_law_laid Tryz.laidOut (m:=2) (by omega) (of_decide_eq_true (by kernel_rfl)) (by kernel_rfl) (by rw [Tryz.underlying135])
theorem qsa:Keyed Tryz.prog 135:=Keyed.of_law qu2
theorem qdd {p i:Int} (hp:(Lit.int .i64 p).wf=true) (hi:(Lit.int .i64 i).wf=true):keyOf Tryz.prog 135 (sptV p i)=some (kS p i):=by
 have h1:Tryz.prog.keyType 135=true:=by kernel_rfl
 have h2:(sptV p i).formed Tryz.prog 135=true:=by
  have:Tryz.prog.cellsOf 135=2:=by kernel_rfl
  simp [Value.formed,Tryz.underlying135,this]
 have c1:Tryz.prog.cellsOf 3=1:=by kernel_rfl
 have c2:Tryz.prog.cellsOf 135=2:=by kernel_rfl
 obtain ⟨d,hd⟩:∃ d,Tryz.prog.types.size=d+1:=⟨Tryz.prog.types.size - 1,by have:0<Tryz.prog.types.size:=of_decide_eq_true (by kernel_rfl);omega⟩
 have h3:Tryz.prog.keyLits (Tryz.prog.types.size+1) 135 [.int .i64 p,.int .i64 i]=some [.int .i64 p,.int .i64 i]:=by
  rw [hd]
  simp [Program.keyLits,Tryz.underlying135,Tryz.underlying3,c1,c2,hp,hi]
 unfold keyOf
 rw [Tryz.underlying135]
 simp only [h1,h2,Bool.and_self,if_true]
 show (Tryz.prog.keyLits (Tryz.prog.types.size+1) 135 [.int .i64 p,.int .i64 i]).map _=_
 rw [h3]
 rfl
theorem wfK {a:Int} (h0:-1<=a) (h1:a<=1048576):(Lit.int .i64 a).wf=true:=WalkArith.wf_i64 (by omega)
theorem qtv {p i q j:Int} (hp:-1<=p/\p<=1048576) (hi:-1<=i/\i<=1048576) (hq:-1<=q/\q<=1048576) (hj:-1<=j/\j<=1048576) (h:kS p i=kS q j):p=q/\i=j:=by
 have h1:=qdd (wfK hp.1 hp.2) (wfK hi.1 hi.2)
 have h2:=qdd (wfK hq.1 hq.2) (wfK hj.1 hj.2)
 rw [<- h] at h2
 have:=qsa.inj h1 h2
 simp only [Value.agg.injEq] at this
 have e:=congrArg Array.toList this
 simp at e
 exact e
theorem qsv (a b c d:Int) (w:World):(Instr.index 75 (.agg #[.int .i64 a,.int .i64 b,.int .i64 c,.int .i64 d]) (.int .i64 0)).run Tryz.prog w=.ok (.int .i64 a) w:=by kernel_rfl
theorem qsw (a b c d:Int) (w:World):(Instr.index 75 (.agg #[.int .i64 a,.int .i64 b,.int .i64 c,.int .i64 d]) (.int .i64 1)).run Tryz.prog w=.ok (.int .i64 b) w:=by kernel_rfl
theorem qsx (a b c d:Int) (w:World):(Instr.index 75 (.agg #[.int .i64 a,.int .i64 b,.int .i64 c,.int .i64 d]) (.int .i64 2)).run Tryz.prog w=.ok (.int .i64 c) w:=by kernel_rfl
theorem qsy (a b c d:Int) (w:World):(Instr.index 75 (.agg #[.int .i64 a,.int .i64 b,.int .i64 c,.int .i64 d]) (.int .i64 3)).run Tryz.prog w=.ok (.int .i64 d) w:=by kernel_rfl
def cMx (x y:Int):Int:=if y > x then y else x
theorem qu0 (ts:Array TypeId) (t:TypeId) (x y:Int) (w:World):(Builtin.max_ ts t #[.int .i64 x,.int .i64 y]).run Tryz.prog w=.ok (.int .i64 (cMx x y)) w:=by
 rw [run_max_int2];rfl
theorem qfp (a b:Nat):cMx (a:Int) (b:Int)=((max a b:Nat):Int):=by
 unfold cMx
 split <;> omega
section
attribute [local go_sem] qsv qsw qsx qsy
theorem qou (f g:Nat->Nat) (w:World):
  Calls Tryz.prog 153 #[ckV f,ckV g] w fun e w'=>e=.returned (ckV fun q=>max (f q) (g q))/\Below w.heap.size w w':=by
 have HV:Hid (ckV (fun q=>max (f q) (g q))=.agg #[.int .i64 (cMx (f 0) (g 0)),.int .i64 (cMx (f 1) (g 1)),.int .i64 (cMx (f 2) (g 2)),.int .i64 (cMx (f 3) (g 3))]):=by
  show ckV _=_
  rw [qfp,qfp,qfp,qfp]
 have hm:=qu0
 generalize ckV (fun q=>max (f q) (g q))=R at *
 unfold ckV
 generalize (f 0:Int)=a0 at *
 generalize (f 1:Int)=a1 at *
 generalize (f 2:Int)=a2 at *
 generalize (f 3:Int)=a3 at *
 generalize (g 0:Int)=b0 at *
 generalize (g 1:Int)=b1 at *
 generalize (g 2:Int)=b2 at *
 generalize (g 3:Int)=b3 at *
 go_enter Tryz.func153,Tryz.ntmps153
 go_wp2_with fail
 go_rounds 5
 refine bodyPost_ret (v:=.agg #[.int .i64 (cMx a0 b0),.int .i64 (cMx a1 b1),.int .i64 (cMx a2 b2),.int .i64 (cMx a3 b3)]) (by simp [results,Tryz.results153,go_sem]) rfl ⟨by rw [HV.out],?_⟩
 go_grown
end
theorem qoe (f:Nat->Nat) (p i:Nat) (w:World) (hp:p<4) (hi:i<=1048576):
  Calls Tryz.prog 154 #[ckV f,sptV p i] w fun e w'=>e=.returned (ckV fun q=>if q=p then i+1 else f q)/\Below w.heap.size w w':=by
 have hi':(i:Int)<=1048576:=by omega
 match p,hp with
 | 0,_=>
  go_enter Tryz.func154,Tryz.ntmps154
  go_wp2
  exact bodyPost_ret (v:=.agg #[.int .i64 ((i:Int)+1),.int .i64 (f 1),.int .i64 (f 2),.int .i64 (f 3)]) (by simp [results,Tryz.results154,go_sem]) rfl ⟨rfl,by go_grown⟩
 | 1,_=>
  go_enter Tryz.func154,Tryz.ntmps154
  go_wp2
  exact bodyPost_ret (v:=.agg #[.int .i64 (f 0),.int .i64 ((i:Int)+1),.int .i64 (f 2),.int .i64 (f 3)]) (by simp [results,Tryz.results154,go_sem]) rfl ⟨rfl,by go_grown⟩
 | 2,_=>
  go_enter Tryz.func154,Tryz.ntmps154
  go_wp2
  exact bodyPost_ret (v:=.agg #[.int .i64 (f 0),.int .i64 (f 1),.int .i64 ((i:Int)+1),.int .i64 (f 3)]) (by simp [results,Tryz.results154,go_sem]) rfl ⟨rfl,by go_grown⟩
 | 3,_=>
  go_enter Tryz.func154,Tryz.ntmps154
  go_wp2
  exact bodyPost_ret (v:=.agg #[.int .i64 (f 0),.int .i64 (f 1),.int .i64 (f 2),.int .i64 ((i:Int)+1)]) (by simp [results,Tryz.results154,go_sem]) rfl ⟨rfl,by go_grown⟩
theorem qom (p i:Nat) (w:World) (hi:i<=1048576):
  Calls Tryz.prog 151 #[sptV p i] w fun e w'=>e=.returned (sptV p ((i:Int) - 1))/\Below w.heap.size w w':=by
 have hi':(i:Int)<=1048576:=by omega
 go_enter Tryz.func151,Tryz.ntmps151
 go_wp2
 exact bodyPost_ret (v:=sptV p ((i:Int) - 1)) (by simp [results,Tryz.results151,go_sem]) rfl ⟨rfl,by go_grown⟩
theorem qt2 (w:World):(zeroValue 189).run Tryz.prog w=.ok (ckV fun _=>0) w:=by kernel_rfl
structure Ckm (w:World) (b:Nat) (y:Sy) (d:Nat->Nat) (D:DataW Value):Prop where
 own:w.ownsMap Tryz.prog 135 RVk b (sumL d y.pn) D
 val:∀ p,p<y.pn->∀ i,i<d p->∀ z,D.atKey (kS p i) z=.held (ckV (clk y p i))
 neg:∀ p,p<y.pn->∀ z,D.atKey (kS p (-1)) z=z
theorem Ckm.blk {w w':World} {b:Nat} {y:Sy} {d:Nat->Nat} {D:DataW Value} (h:Ckm w b y d D) (hb:w'.heap[b]? = w.heap[b]?):Ckm w' b y d D:=by
 obtain ⟨es,clock,h1,r⟩:=h.own
 exact ⟨⟨es,clock,hb.trans h1,r⟩,h.val,h.neg⟩
theorem Ckm.look {w:World} {b:Nat} {y:Sy} {d:Nat->Nat} {D:DataW Value} (h:Ckm w b y d D) {p i:Nat} (hp:p<y.pn) (h4:y.pn<=4) (hi:i<d p) (hi':i<=1048576):(Instr.lookup 138 (.map (some b)) (sptV p i) false).run Tryz.prog w=.ok (ckV (clk y p i)) w:=by
 obtain ⟨v,ps,hrun,hv⟩:=h.own.lookup qsa Tryz.underlying138 (qt2 _) rfl (qdd (wfK (a:=(p:Int)) (by omega) (by omega)) (wfK (a:=(i:Int)) (by omega) (by omega)))
 rw [h.val p hp i hi] at hv
 simp only [Option.some.injEq,Prod.mk.injEq,DataW.held.injEq] at hv
 rw [hrun,hv.1]
theorem Ckm.look0 {w:World} {b:Nat} {y:Sy} {d:Nat->Nat} {D:DataW Value} (h:Ckm w b y d D) {p:Nat} (hp:p<y.pn) (h4:y.pn<=4):(Instr.lookup 138 (.map (some b)) (sptV p (-1)) false).run Tryz.prog w=.ok (ckV fun _=>0) w:=by
 obtain ⟨v,ps,hrun,hv⟩:=h.own.lookup qsa Tryz.underlying138 (qt2 _) rfl (qdd (wfK (a:=(p:Int)) (by omega) (by omega)) (wfK (a:=(-1:Int)) (by omega) (by omega)))
 rw [h.neg p hp] at hv
 simp only [Option.some.injEq,Prod.mk.injEq,DataW.held.injEq] at hv
 rw [hrun,hv.1]
theorem Ckm.put {w:World} {b:Nat} {y:Sy} {d:Nat->Nat} {D:DataW Value} (h:Ckm w b y d D) {p:Nat} (hp:p<y.pn) (h4:y.pn<=4) (hd:∀ i,d i<=1048575) (hs:sumL d y.pn<maxLen):∃ w' D',(Instr.mapUpdate 138 (.map (some b)) (sptV p (d p)) (ckV (clk y p (d p)))).run Tryz.prog w=.ok () w'/\Ckm w' b y (up d p) D'/\w.grownBy w' (some b):=by
 obtain ⟨w',hrun,ho,hg⟩:=h.own.update qsa Tryz.underlying138 hs (qdd (wfK (a:=(p:Int)) (by omega) (by omega)) (wfK (a:=(d p:Int)) (by have:=hd p;omega) (by have:=hd p;omega))) (val:=ckV (clk y p (d p))) rfl
 refine ⟨w',D.put (kS p (d p)) (.held (ckV (clk y p (d p)))),hrun,⟨?_,fun q hq i hi z=>?_,fun q hq z=>?_⟩,hg⟩
 ·rw [qcp hp]
  exact ho
 ·by_cases e:q=p/\i=d p
  ·obtain ⟨rfl,rfl⟩:=e
   have hk:WideAt.IsKeyLit (kS q (d q)):=trivial
   exact atKey_put_same h.own.isMap hk _ _
  ·have hi':i<d q:=by
    by_cases ep:q=p
    ·subst ep
     rw [qbk] at hi
     have:i≠d q:=fun h=>e ⟨rfl,h⟩
     omega
    ·rw [up_other ep] at hi
     exact hi
   rw [atKey_put_other]
   ·exact h.val q hq i hi' z
   ·intro e9
    have h1:=hd p
    have h2:=hd q
    obtain ⟨e1,e2⟩:=qtv (by omega) (by omega) (by omega) (by omega) e9
    exact e ⟨by omega,by omega⟩
 ·rw [atKey_put_other]
  ·exact h.neg q hq z
  ·intro e9
   have h1:=hd p
   obtain ⟨e1,e2⟩:=qtv (by omega) (by omega) (by omega) (by omega) e9
   omega
def hisZ (ha:Option Addr) (hn hc:Nat):List Value:=[.slice ha hn hc,.int .i64 0,.int .i64 0,.int .i64 0,.int .i64 0,.int .i64 0,.int .i64 0,.int .i64 0,.int .i64 0,.int .i64 0,.int .i64 0,.int .i64 0,.int .i64 0,.int .i64 0,.int .i64 0,.int .i64 0,.int .i64 0,.int .i64 0,.int .i64 0,.int .i64 0,.int .i64 0]
theorem qno (ha:Option Addr) (hn hc:Nat):(hisZ ha hn hc).length=21:=rfl
theorem qnp (ha:Option Addr) (hn hc:Nat):∀ v ∈ hisZ ha hn hc,v.oneCell'=true:=by
 intro v hv
 simp only [hisZ,List.mem_cons,List.not_mem_nil,or_false] at hv
 rcases hv with rfl | rfl | rfl | rfl | rfl | rfl | rfl | rfl | rfl | rfl | rfl | rfl | rfl | rfl | rfl | rfl | rfl | rfl | rfl | rfl | rfl <;> rfl
theorem qtu:(Tryz.prog.info? 78).map (·.size)=some 21:=by kernel_rfl
theorem HisQ.of_range {w:World} {X:Nat} {x:SysIn} (h:w.rangeAt X 0 (hisZ x.ha x.hn x.hc)) (hn:x.hn=x.pn) (hf:∀ j,w.frozen? ⟨X,j,none⟩=false):HisQ w X x.ha x.hc x.y.hs (fun _=>0):=by
 have hz:∀ j,j<20->w.cell? ⟨X,1+j,none⟩=some (.int .i64 0):=fun j hj=>by
  have h1:(hisZ x.ha x.hn x.hc)[1+j]? = some (.int .i64 0):=by
   match j,hj with
   | 0,_=>rfl
   | 1,_=>rfl
   | 2,_=>rfl
   | 3,_=>rfl
   | 4,_=>rfl
   | 5,_=>rfl
   | 6,_=>rfl
   | 7,_=>rfl
   | 8,_=>rfl
   | 9,_=>rfl
   | 10,_=>rfl
   | 11,_=>rfl
   | 12,_=>rfl
   | 13,_=>rfl
   | 14,_=>rfl
   | 15,_=>rfl
   | 16,_=>rfl
   | 17,_=>rfl
   | 18,_=>rfl
   | 19,_=>rfl
   | n+20,h=>exact absurd h (by omega)
  have:=h (1+j) _ h1
  rwa [Nat.zero_add] at this
 refine ⟨?_,fun i hi=>hz i (by omega),fun a b ha hb=>?_,hf⟩
 ·have:=h 0 _ rfl
  show w.cell? ⟨X,0,none⟩=some (.slice x.ha x.pn x.hc)
  rw [<- hn]
  exact this
 ·rw [Hs.opn_start,show 5+a*4+b=1+(4+a*4+b) by omega]
  exact hz _ (by omega)
theorem BoxC.blkK {w w':World} {N:Nat} {p vr vo code:Value} (h:BoxC w N p vr vo code) (hb:w'.heap[N]? = w.heap[N]?):BoxC w' N p vr vo code:=by
 obtain ⟨h0,h1,h2,h3⟩:=h
 exact ⟨(zH hb).trans h0,(zH hb).trans h1,(zH hb).trans h2,(zH hb).trans h3⟩
def BoxS (w:World) (N:Nat) (a b:Value):Prop:=w.cell? ⟨N,0,none⟩=some a/\w.cell? ⟨N,1,none⟩=some b
theorem BoxS.lt {w:World} {N:Nat} {a b:Value} (h:BoxS w N a b):N<w.heap.size:=zJ w _ h.1
theorem BoxS.blk {w w':World} {N:Nat} {a b:Value} (h:BoxS w N a b) (hb:w'.heap[N]? = w.heap[N]?):BoxS w' N a b:=⟨(zH hb).trans h.1,(zH hb).trans h.2⟩
theorem BoxS.below {w w':World} {N:Nat} {a b:Value} (h:BoxS w N a b) (hb:Below w.heap.size w w'):BoxS w' N a b:=h.blk (hb.block N h.lt)
theorem BoxS.new (w:World) (a b:Value) (t:TypeId):BoxS (w.alloc (.cells #[a,b] t)) w.heap.size a b:=⟨zW _ _ _ 0 rfl,zW _ _ _ 1 rfl⟩
structure BoxF (w:World) (N:Nat) (f:Nat->Nat):Prop where
 c0:w.cell? ⟨N,0,none⟩=some (.int .i64 (f 0))
 c1:w.cell? ⟨N,1,none⟩=some (.int .i64 (f 1))
 c2:w.cell? ⟨N,2,none⟩=some (.int .i64 (f 2))
 c3:w.cell? ⟨N,3,none⟩=some (.int .i64 (f 3))
 fz:∀ j,w.frozen? ⟨N,j,none⟩=false
theorem BoxF.lt {w:World} {N:Nat} {f:Nat->Nat} (h:BoxF w N f):N<w.heap.size:=zJ w _ h.c0
theorem BoxF.blk {w w':World} {N:Nat} {f:Nat->Nat} (h:BoxF w N f) (hb:w'.heap[N]? = w.heap[N]?):BoxF w' N f:=⟨(zH hb).trans h.c0,(zH hb).trans h.c1,(zH hb).trans h.c2,(zH hb).trans h.c3,fun j=>(zI hb).trans (h.fz j)⟩
theorem BoxF.below {w w':World} {N:Nat} {f:Nat->Nat} (h:BoxF w N f) (hb:Below w.heap.size w w'):BoxF w' N f:=h.blk (hb.block N h.lt)
theorem BoxF.new (w:World) (f:Nat->Nat) (t:TypeId):BoxF (w.alloc (.cells #[.int .i64 (f 0),.int .i64 (f 1),.int .i64 (f 2),.int .i64 (f 3)] t)) w.heap.size f:=⟨zW _ _ _ 0 rfl,zW _ _ _ 1 rfl,zW _ _ _ 2 rfl,zW _ _ _ 3 rfl,fun _=>yB _ _ _ _ rfl⟩
theorem BoxF.put {w:World} {N:Nat} {f:Nat->Nat} (h:BoxF w N f) (g:Nat->Nat):BoxF ((((w.setCell ⟨N,0,none⟩ (.int .i64 (g 0))).setCell ⟨N,1,none⟩ (.int .i64 (g 1))).setCell ⟨N,2,none⟩ (.int .i64 (g 2))).setCell ⟨N,3,none⟩ (.int .i64 (g 3))) N g/\qam (fun b=>b=N) w ((((w.setCell ⟨N,0,none⟩ (.int .i64 (g 0))).setCell ⟨N,1,none⟩ (.int .i64 (g 1))).setCell ⟨N,2,none⟩ (.int .i64 (g 2))).setCell ⟨N,3,none⟩ (.int .i64 (g 3))):=by
 obtain ⟨h0,h1,h2,h3,hf⟩:=h
 exact ⟨⟨by go_cell,by go_cell,by go_cell,by go_cell,fun j=>by simpa using hf j⟩,(((qam.of_set (P:=fun b=>b=N) w (a:=⟨N,0,none⟩) rfl _).trans (qam.of_set (P:=fun b=>b=N) _ (a:=⟨N,1,none⟩) rfl _)).trans (qam.of_set (P:=fun b=>b=N) _ (a:=⟨N,2,none⟩) rfl _)).trans (qam.of_set (P:=fun b=>b=N) _ (a:=⟨N,3,none⟩) rfl _)⟩
structure CkF (w:World) (x:SysIn) (b X:Nat) (d:Nat->Nat) (D:DataW Value) (wx:World):Prop where
 be:Below w.heap.size w wx
 bs:BoxC wx w.heap.size (.slice x.pa x.pn x.pc) (.slice x.sa x.sn x.sc) (.slice x.wa x.wn x.wc) (.slice x.ha x.hn x.hc)
 hq:HisQ wx X x.ha x.hc x.y.hs d
 ck:Ckm wx b x.y d D
 nb:w.heap.size<b/\b<X
theorem CkF.below {w:World} {x:SysIn} {b X:Nat} {d:Nat->Nat} {D:DataW Value} {wx wy:World} (h:CkF w x b X d D wx) (hb:Below wx.heap.size wx wy):CkF w x b X d D wy:=
 ⟨h.be.trans (hb.mono h.be.size),h.bs.below hb,h.hq.below hb,h.ck.blk (hb.block b (Nat.lt_trans h.nb.2 h.hq.lt)),h.nb⟩
structure CkH (w:World) (x:SysIn) (b X:Nat) (d d':Nat->Nat) (D:DataW Value) (wx:World):Prop where
 be:Below w.heap.size w wx
 bs:BoxC wx w.heap.size (.slice x.pa x.pn x.pc) (.slice x.sa x.sn x.sc) (.slice x.wa x.wn x.wc) (.slice x.ha x.hn x.hc)
 hq:HisQ wx X x.ha x.hc x.y.hs d'
 ck:Ckm wx b x.y d D
 nb:w.heap.size<b/\b<X
theorem CkH.below {w:World} {x:SysIn} {b X:Nat} {d d':Nat->Nat} {D:DataW Value} {wx wy:World} (h:CkH w x b X d d' D wx) (hb:Below wx.heap.size wx wy):CkH w x b X d d' D wy:=
 ⟨h.be.trans (hb.mono h.be.size),h.bs.below hb,h.hq.below hb,h.ck.blk (hb.block b (Nat.lt_trans h.nb.2 h.hq.lt)),h.nb⟩
theorem CkF.turn {w:World} {x:SysIn} {b X:Nat} {d d':Nat->Nat} {D:DataW Value} {wx wy:World} (h:CkF w x b X d D wx) (t:qam (fun b=>b=X) wx wy) (hq:HisQ wy X x.ha x.hc x.y.hs d'):CkH w x b X d d' D wy:=by
 have l:=h.hq.lt
 have n1:=h.nb
 exact ⟨h.be.trans (t.below h.be.size fun c e=>by have e:c=X:=e;omega),h.bs.blkK (t.block _ (by omega) (fun e=>by have e:w.heap.size=X:=e;omega)),hq,h.ck.blk (t.block b (by omega) (fun e=>by have e:b=X:=e;omega)),h.nb⟩
theorem CkH.turnC {w:World} {x:SysIn} {b X C:Nat} {d d':Nat->Nat} {D:DataW Value} {wx wy:World} (h:CkH w x b X d d' D wx) (t:qam (fun b=>b=C) wx wy) (hC:X<C):CkH w x b X d d' D wy:=by
 have l:=h.hq.lt
 have n1:=h.nb
 exact ⟨h.be.trans (t.below h.be.size fun c e=>by have e:c=C:=e;omega),h.bs.blkK (t.block _ (by omega) (fun e=>by have e:w.heap.size=C:=e;omega)),h.hq.blk (t.block X l (fun e=>by have e:X=C:=e;omega)),h.ck.blk (t.block b (by omega) (fun e=>by have e:b=C:=e;omega)),h.nb⟩
theorem CkH.put {w:World} {x:SysIn} {b X p:Nat} {d:Nat->Nat} {D D':DataW Value} {wx wy:World} (h:CkH w x b X d (up d p) D wx) (g:wx.grownBy wy (some b)) (ck:Ckm wy b x.y (up d p) D'):CkF w x b X (up d p) D' wy:=by
 have l:=h.hq.lt
 have n1:=h.nb
 exact ⟨Below.grown h.be g h.be.size (fun j hj=>by cases hj;omega),h.bs.blkK (g.block _ (by omega) (fun e=>by injection e with e;omega)),h.hq.blk (g.block X l (fun e=>by injection e with e;omega)),ck,h.nb⟩
theorem qki (x:SysIn) (w:World) (hG:SysG w x) (hcap:∀ i,i<x.hn->x.hL i<=x.hC i) (hO:x.y.Ok):
  Calls Tryz.prog 93 #[x.v] w fun e w'=>∃ b D d,e=.returned (.map (some b))/\w.heap.size<=b/\(∀ p,p<x.y.pn->d p=x.y.hL p)/\Ckm w' b x.y d D/\Below w.heap.size w w':=by
 have HG:Hid (SysG w x):=hG
 have HO:Hid (x.y.Ok/\∀ i,i<x.hn->x.hL i<=x.hC i):=⟨hO,hcap⟩
 have hhn:x.hn=x.pn:=hO.cn.2.2.1
 have HHN:Hid (x.hn=x.pn):=hhn
 have h4:x.y.hs.n<=4:=hO.cn.1.2
 have H4:Hid (x.y.pn<=4):=hO.cn.1.2
 have HP:Hid (x.y.hs.Peers/\(∀ i,i<x.y.hs.n->x.y.hs.l i<=200)):=⟨fun p hp i hi=>hO.evq hp hi,fun i hi=>hO.hl200 hi⟩
 have HE:Hid (∀ wx,Below w.heap.size w wx->HisE wx x.ha x.hA x.hC x.y.hs):=fun wx hb=>(hG.below hb).his hhn
 have HSn:Hid (∀ (p i:Nat) (wx:World),Below w.heap.size w wx->p<x.pn->i<x.hL p->Calls Tryz.prog 152 #[x.v,sptV p i] wx fun e w'=>e=.returned (snV x.y p i)/\Below wx.heap.size wx w'):=fun p i wx hb hp hi=>qlc x p i wx (hG.below hb) hcap hO hp hi
 have hmm:=@run_makeMap Tryz.prog
 have hl:=qno x.ha x.hn x.hc
 have ho:=qnp x.ha x.hn x.hc
 generalize hcs:hisZ x.ha x.hn x.hc=cs at *
 have HC:Hid (hisZ x.ha x.hn x.hc=cs):=hcs
 have HI:Hid ((Tryz.prog.info? 78).map (·.size)=some cs.length):=by
  show _=_
  rw [hl];exact qtu
 have HOne:Hid (cs.toArray.all (·.oneCell')=true):=all_oneCell_toArray ho
 have HL:Hid (cs.length=21):=hl
 clear hG hcap hO hhn hcs hl ho
 go_enter Tryz.func93,Tryz.ntmps93
 go_upto_region 2 with fail
 have B1:Hid (Below w.heap.size w ((w.alloc (oQ4 x.pa x.pn x.pc x.sa x.sn x.sc x.wa x.wn x.wc x.ha x.hn x.hc)).alloc (.map #[] 0))/\BoxC ((w.alloc (oQ4 x.pa x.pn x.pc x.sa x.sn x.sc x.wa x.wn x.wc x.ha x.hn x.hc)).alloc (.map #[] 0)) w.heap.size (.slice x.pa x.pn x.pc) (.slice x.sa x.sn x.sc) (.slice x.wa x.wn x.wc) (.slice x.ha x.hn x.hc)):=⟨(zT _ _).trans ((zT _ _).mono (by simp)),(BoxC.new w _ _ _ _ _).below (zT _ _)⟩
 have M1:Hid (((w.alloc (oQ4 x.pa x.pn x.pc x.sa x.sn x.sc x.wa x.wn x.wc x.ha x.hn x.hc)).alloc (.map #[] 0)).ownsMap Tryz.prog 135 RVk (w.heap.size+1) 0 (.map [])):=by
  have:=World.ownsMap_made (w.alloc (oQ4 x.pa x.pn x.pc x.sa x.sn x.sc x.wa x.wn x.wc x.ha x.hn x.hc)) Tryz.prog 135 RVk
  rw [World.size_alloc] at this
  exact this
 have hz1:((w.alloc (oQ4 x.pa x.pn x.pc x.sa x.sn x.sc x.wa x.wn x.wc x.ha x.hn x.hc)).alloc (.map #[] 0)).heap.size=w.heap.size+1+1:=by simp
 have HZ1:Hid (((w.alloc (oQ4 x.pa x.pn x.pc x.sa x.sn x.sc x.wa x.wn x.wc x.ha x.hn x.hc)).alloc (.map #[] 0)).heap.size=w.heap.size+1+1):=hz1
 clear hz1 hmm
 generalize (w.alloc (oQ4 x.pa x.pn x.pc x.sa x.sn x.sc x.wa x.wn x.wc x.ha x.hn x.hc)).alloc (.map #[] 0)=W1 at *
 have HT:Hid ((W1.alloc (zQ4)).there W1.heap.size 0 cs.toArray.size):=qbt _ _ _ _ _ (by have h9:cs.toArray.size=21:=HL.out;rw [h9];rfl) rfl
 obtain ⟨s0,s1,s2,s3⟩:=B1.out.2
 go_upto_region 3 with (refine wpList_store_mid rfl 78 (.tmp 4) (.tmp 13) rfl W1.heap.size 0 cs.toArray rfl (by rw [<- HC.out];rfl) HT.out (by simpa using HI.out) HOne.out ?_)
 have HR:Hid (((W1.alloc (zQ4)).setCells W1.heap.size 0 cs).rangeAt W1.heap.size 0 cs):=World.rangeAt_setCells_same _ _ _ _ (by simpa using HT.out)
 have F0:Hid (CkF w x (w.heap.size+1) W1.heap.size (fun _=>0) (.map []) ((W1.alloc (zQ4)).setCells W1.heap.size 0 cs)):=by
  have bW:Below w.heap.size w (W1.alloc (zQ4)):=B1.out.1.trans ((zT _ _).mono B1.out.1.size)
  have tS:qam (fun b=>b=W1.heap.size) (W1.alloc (zQ4)) ((W1.alloc (zQ4)).setCells W1.heap.size 0 cs):=qam.sets (P:=fun b=>b=W1.heap.size) rfl _ _ (qam.refl _ _)
  have hz:=HZ1.out
  have l1:w.heap.size<W1.heap.size:=by omega
  have l2:W1.heap.size<(W1.alloc (zQ4)).heap.size:=by simp
  have eb:∀ c,c<W1.heap.size->((W1.alloc (zQ4)).setCells W1.heap.size 0 cs).heap[c]? = W1.heap[c]?:=fun c hc=>(tS.block c (by omega) (fun e=>by have e:c=W1.heap.size:=e;omega)).trans (Below.heap_alloc W1 _ c hc)
  refine ⟨bW.trans (tS.below bW.size fun c e=>by have e:c=W1.heap.size:=e;omega),B1.out.2.blkK (eb _ l1),HisQ.of_range (by rw [HC.out];exact HR.out) HHN.out (fun j=>(World.frozen?_setCells _ _ _ _ _).trans (yB _ _ _ _ rfl)),⟨?_,fun p _ i hi=>absurd hi (Nat.not_lt_zero _),fun p _ z=>rfl⟩,by omega,by omega⟩
  obtain ⟨es,clock,h1,r⟩:=M1.out
  rw [qcw]
  exact ⟨es,clock,(eb _ (by omega)).trans h1,r⟩
 clear s0 s1 s2 s3 HT HR HC HI HOne HL M1 B1 HZ1
 generalize (W1.alloc (zQ4)).setCells W1.heap.size 0 cs=W3 at *
 generalize W1.heap.size=X at *
 clear W1
 generalize w.heap.size+1=b at *
 go_wp2_with fail
 refine (qqq X x.ha x.hc x.hA x.hC x.y.hs (fun _=>0) W3 (HE.out W3 F0.out.be) F0.out.hq h4 HP.out.1 HP.out.2 (fun _=>Nat.zero_le _)).mono ?_
 rintro e w1 ⟨q1,hor⟩
 obtain ⟨z,rfl,HOr⟩:∃ z:Int,e=.returned (.int .i64 z)/\Hid ((∃ k,k<x.y.hs.n/\x.y.hs.Can (fun _=>0) k/\z=(k:Nat))\/(z = -1/\∀ p,p<x.y.hs.n->¬ x.y.hs.Can (fun _=>0) p)):=by
  rcases hor with ⟨k,hk,hcan,rfl⟩ | ⟨rfl,hn⟩
  ·exact ⟨_,rfl,.inl ⟨k,hk,hcan,rfl⟩⟩
  ·exact ⟨_,rfl,.inr ⟨rfl,hn⟩⟩
 have F1:Hid (CkF w x b X (fun _=>0) (.map []) w1/\x.y.hs.Put (fun _=>0)):=⟨F0.out.below q1,.start⟩
 clear hor q1 F0
 go_wp2_with fail
 go_loopg [5] (sumL x.y.hs.l x.y.hs.n) (fun g i wr=>∃ d D z,g=sumL x.y.hs.l x.y.hs.n - sumL d x.y.hs.n/\i=.int .i64 z/\Hid (CkF w x b X d D wr/\x.y.hs.Put d)/\Hid ((∃ k,k<x.y.hs.n/\x.y.hs.Can d k/\z=(k:Nat))\/(z = -1/\∀ p,p<x.y.hs.n->¬ x.y.hs.Can d p)))
 case atStart=>exact ⟨_,_,z,by simp [qcw],rfl,F1.out,HOr.out⟩
 case round=>
  clear F1 HOr
  obtain ⟨d,D,zz,hgk,rfl,HF,HOr⟩:=hrel
  have HGk:Hid (gk=sumL x.y.hs.l x.y.hs.n - sumL d x.y.hs.n):=hgk
  clear hgk
  rcases HOr.out with ⟨k,hk,hcan,rfl⟩ | ⟨rfl,hst⟩
  case inr=>
   have HD:Hid (∀ p,p<x.y.pn->d p=x.y.hL p):=(Hs.row_iff HF.out.2 HP.out.1 hst).1 HO.out.1.ro
   clear hst HGk HOr
   go_wp2
   go_ret
   exact ⟨b,D,d,rfl,Nat.le_of_lt HF.out.1.nb.1,HD.out,HF.out.1.ck,HF.out.1.be⟩
  have HCn:Hid (x.y.hs.Can d k/\k<x.y.pn/\d k<x.hL k/\d k<=200/\k<x.pn/\k<4):=by
   have h1:k<x.y.pn:=hk
   have h2:d k<x.y.hs.l k:=hcan.1
   have h3:=HP.out.2 k hk
   exact ⟨hcan,h1,h2,by omega,h1,by have:=H4.out;omega⟩
  have hz:¬ (k:Int) = -1:=by omega
  have hz':((k:Int) != -1)=true:=by simp
  have hk4:(k:Int)<4:=by have:=HCn.out.2.2.2.2.2;omega
  have hdk:(d k:Int)<=200:=by have:=HCn.out.2.2.2.1;omega
  have pk:=HF.out.1.hq.pt k HCn.out.2.2.2.2.2
  have F2:Hid (CkF w x b X d D (wr.alloc (oQ6 k (d k)))):=HF.out.1.below (zT _ _)
  have S2:Hid (BoxS (wr.alloc (oQ6 k (d k))) wr.heap.size (.int .i64 k) (.int .i64 (d k))):=BoxS.new wr _ _ _
  have HPu:Hid (x.y.hs.Put d):=HF.out.2
  have LX:Hid (X<wr.heap.size):=HF.out.1.hq.lt
  clear HOr hcan
  go_upto_region 7 with fail
  clear pk HF
  generalize wr.heap.size=S at *
  generalize wr.alloc (oQ6 k (d k))=w2 at *
  clear wr
  go_wp2_with fail
  refine (qn0 X x.ha x.hc x.hA x.hC x.y.hs d k w2 (HE.out w2 F2.out.be) F2.out.hq h4 hk HP.out.1 HP.out.2 HPu.out.le HCn.out.2.2.1).mono ?_
  rintro e w3 ⟨rfl,hq3,t3⟩
  have F3:Hid (CkH w x b X d (up d k) D w3):=F2.out.turn t3 hq3
  have S3:Hid (BoxS w3 S (.int .i64 k) (.int .i64 (d k))):=S2.out.blk (t3.block S S2.out.lt (fun e=>by have e:S=X:=e;have:=LX.out;omega))
  clear hq3 t3 F2 S2
  obtain ⟨c0,c1⟩:=S3.out
  go_wp2_with fail
  clear c0 c1
  refine (qom k (d k) w3 (by have:=HCn.out.2.2.2.1;omega)).mono ?_
  rintro e w4 ⟨rfl,b4⟩
  have F4:Hid (CkH w x b X d (up d k) D w4):=F3.out.below b4
  have S4:Hid (BoxS w4 S (.int .i64 k) (.int .i64 (d k))):=S3.out.below b4
  obtain ⟨f0,hf0⟩:∃ f0:Nat->Nat,(fun q=>if d k=0 then 0 else clk x.y k (d k - 1) q)=f0:=⟨_,rfl⟩
  have Hf0:Hid ((fun q=>if d k=0 then 0 else clk x.y k (d k - 1) q)=f0):=hf0
  have hlk:(Instr.lookup 138 (.map (some b)) (sptV k ((d k:Int) - 1)) false).run Tryz.prog w4=.ok (ckV f0) w4:=by
   by_cases h0:d k=0
   ·rw [h0,show ((0:Nat):Int) - 1 = -1 by decide,<- hf0]
    simp only [h0,if_true]
    exact F4.out.ck.look0 HCn.out.2.1 H4.out
   ·have e1:(d k:Int) - 1=((d k - 1:Nat):Int):=by omega
    rw [e1,<- hf0]
    simp only [if_neg h0]
    exact F4.out.ck.look HCn.out.2.1 H4.out (by omega) (by have:=HCn.out.2.2.2.1;omega)
  clear b4 F3 S3 hf0
  have F5:Hid (CkH w x b X d (up d k) D (w4.alloc (.cells #[.int .i64 (f0 0),.int .i64 (f0 1),.int .i64 (f0 2),.int .i64 (f0 3)] 189))):=F4.out.below (zT _ _)
  have S5:Hid (BoxS (w4.alloc (.cells #[.int .i64 (f0 0),.int .i64 (f0 1),.int .i64 (f0 2),.int .i64 (f0 3)] 189)) S (.int .i64 k) (.int .i64 (d k))):=S4.out.below (zT _ _)
  have C5:Hid (BoxF (w4.alloc (.cells #[.int .i64 (f0 0),.int .i64 (f0 1),.int .i64 (f0 2),.int .i64 (f0 3)] 189)) w4.heap.size f0):=BoxF.new w4 f0 _
  have LC:Hid (X<w4.heap.size/\S<w4.heap.size):=⟨F4.out.hq.lt,S4.out.lt⟩
  go_upto_region 9 with fail
  clear hlk F4 S4
  generalize w4.heap.size=C at *
  generalize w4.alloc (.cells #[.int .i64 (f0 0),.int .i64 (f0 1),.int .i64 (f0 2),.int .i64 (f0 3)] 189)=w5 at *
  clear w3 w4 w2
  obtain ⟨c0,c1⟩:=S5.out
  obtain ⟨s0,s1,s2,s3⟩:=F5.out.bs
  go_wp2_with fail
  clear c0 c1 s0 s1 s2 s3
  refine (HSn.out k (d k) w5 F5.out.be HCn.out.2.2.2.2.1 HCn.out.2.2.1).mono ?_
  rintro e w6 ⟨rfl,b6⟩
  have F6:Hid (CkH w x b X d (up d k) D w6):=F5.out.below b6
  have S6:Hid (BoxS w6 S (.int .i64 k) (.int .i64 (d k))):=S5.out.below b6
  have C6:Hid (BoxF w6 C f0):=C5.out.below b6
  clear b6 F5 S5 C5
  have HNx:Hid (∀ q,clk x.y k (d k) q=if q=k then d k+1 else max (if d k=0 then 0 else clk x.y k (d k - 1) q) (match sdr x.y k (d k) with | none=>0 | some s=>clk x.y s.1 s.2 q)):=fun q=>qin HO.out.1 HPu.out HCn.out.2.1 HCn.out.1 q
  have HSm:Hid (sumL d x.y.pn<maxLen):=by
   have h1:=qco HPu.out.le x.y.pn
   have h2:sumL x.y.hs.l x.y.pn<=x.y.pn*200:=by
    have h9:∀ m,m<=x.y.pn->sumL x.y.hs.l m<=m*200:=by
     intro m
     induction m with
     | zero=>exact fun _=>Nat.le_refl _
     | succ m ih=>
      intro hm
      have h3:=ih (by omega)
      have h5:=HP.out.2 m (show m<x.y.hs.n from hm)
      show sumL x.y.hs.l m+x.y.hs.l m<=(m+1)*200
      omega
    exact h9 _ (Nat.le_refl _)
   have h3:=H4.out
   show sumL d x.y.pn<maxLen
   unfold maxLen
   omega
  have HD2:Hid (∀ i,d i<=1048575):=fun i=>by
   by_cases hi:i<x.y.hs.n
   ·have h2:=HPu.out.le i
    have h3:=HP.out.2 i hi
    omega
   ·rcases Nat.eq_zero_or_pos (d i) with h1 | h1
    ·omega
    ·exact absurd (HPu.out.was i 0 h1).1 hi
  by_cases t3:(x.y.hH k (d k)).k=3
  case neg=>
   have HV:Hid (∀ q,(if q=k then d k+1 else f0 q)=clk x.y k (d k) q):=fun q=>by
    rw [HNx.out q,sdr,if_neg t3,<- Hf0.out]
    by_cases hq:q=k
    ·rw [if_pos hq,if_pos hq]
    ·rw [if_neg hq,if_neg hq]
     simp
   rw [show snV x.y k (d k)=.tuple #[.agg #[.int .i64 0,.int .i64 0],.bool false] from if_neg t3]
   have F8:Hid (CkH w x b X d (up d k) D (w6.alloc (zQ6))):=F6.out.below (zT _ _)
   have S8:Hid (BoxS (w6.alloc (zQ6)) S (.int .i64 k) (.int .i64 (d k))):=S6.out.below (zT _ _)
   have C8:Hid (BoxF (w6.alloc (zQ6)) C f0):=C6.out.below (zT _ _)
   clear HNx Hf0 t3 F6 S6 C6
   go_upto_region 10 with fail
   generalize w6.heap.size=S7 at *
   generalize w6.alloc (zQ6)=w8 at *
   clear w6
   have HWi:Hid (∀ wx,Calls Tryz.prog 154 #[ckV f0,sptV k (d k)] wx fun e w'=>e=.returned (ckV (clk x.y k (d k)))/\Below wx.heap.size wx w'):=fun wx=>by
    have h9:=qoe f0 k (d k) wx HCn.out.2.2.2.2.2 (by have:=HCn.out.2.2.2.1;omega)
    have e9:(fun q=>if q=k then d k+1 else f0 q)=clk x.y k (d k):=funext HV.out
    rw [e9] at h9
    exact h9
   go_upto_region 12 with fail
   have q0:Below w8.heap.size w8 w8.drew:=(Below.refl w8.heap.size w8).drew
   refine qal (fun w':World=>BoxS w' S (.int .i64 k) (.int .i64 (d k))/\BoxF w' C f0) (fun i=>i == 5) (by kernel_rfl) ?_
   have hHeld:(fun w':World=>BoxS w' S (.int .i64 k) (.int .i64 (d k))/\BoxF w' C f0) w8.drew:=⟨S8.out.below q0,C8.out.below q0⟩
   refine qac 0 rfl hHeld ?_
   apply Exists.intro
   refine ⟨fun wq hSw=>?_,?_⟩
   ·obtain ⟨⟨h0,h1⟩,g0,g1,g2,g3,-⟩:=hSw
    go_simp
    try with_reducible rfl
   (try simp only [Act.put,zD,zE,zF])
   refine qac 1 rfl hHeld ?_
   apply Exists.intro
   refine ⟨fun wq hSw=>?_,?_⟩
   ·obtain ⟨⟨h0,h1⟩,g0,g1,g2,g3,-⟩:=hSw
    go_simp
    try with_reducible rfl
   (try simp only [Act.put,zD,zE,zF])
   refine qac 2 rfl hHeld ?_
   apply Exists.intro
   refine ⟨fun wq hSw=>?_,?_⟩
   ·obtain ⟨⟨h0,h1⟩,g0,g1,g2,g3,-⟩:=hSw
    go_simp
    try with_reducible rfl
   (try simp only [Act.put,zD,zE,zF])
   refine qac 3 rfl hHeld ?_
   apply Exists.intro
   refine ⟨fun wq hSw=>?_,?_⟩
   ·obtain ⟨⟨h0,h1⟩,g0,g1,g2,g3,-⟩:=hSw
    go_simp
    try with_reducible rfl
   (try simp only [Act.put,zD,zE,zF])
   refine qab 4 rfl (by kernel_rfl) (fun K hK=>?_)
   refine qb7 rfl 154 _ _ rfl #[ckV f0,sptV k (d k)] (by simp [Act.eval]) (yA Tryz.func154 (by kernel_rfl) rfl) (HWi.out _) ?_
   rintro e w9 ⟨rfl,b9⟩
   refine ⟨_,rfl,?_⟩
   have q9:Below w8.heap.size w8 w9:=q0.trans (b9.mono q0.size)
   refine hK.out _ _ (fun _=>⟨S8.out.below q9,C8.out.below q9⟩) ?_
   have F9:Hid (CkH w x b X d (up d k) D w9):=F8.out.below q9
   clear hK K hHeld HWi
   (try simp only [Act.put,zD,zE,zF])
   obtain ⟨w10,D10,hrun,ck10,g10⟩:=F9.out.ck.put HCn.out.2.1 H4.out HD2.out HSm.out
   have F10:Hid (CkF w x b X (up d k) D10 w10/\x.y.hs.Put (up d k)):=⟨F9.out.put g10 ck10,.next HPu.out hk HCn.out.1⟩
   have HM:Hid (sumL x.y.hs.l x.y.hs.n - sumL (up d k) x.y.hs.n<gk):=by
    have h2:=qcp (d:=d) hk
    have h3:=qco F10.out.2.le x.y.hs.n
    have h4:=HGk.out
    show sumL x.y.hs.l x.y.hs.n - sumL (up d k) x.y.hs.n<gk
    omega
   clear ck10 g10
   refine qab 5 rfl (by kernel_rfl) (fun K hK=>?_)
   go_simp
   refine hK.out _ _ (fun h=>?_) ?_
   ·exact absurd h (by decide)
   clear hK K hrun
   (try simp only [Act.put,zD,zE,zF])
   refine qat (by kernel_rfl) ?_ _
   clear F9 F8 S8 C8 HV q0 q9 b9 HGk HPu
   generalize up d k=d2 at *
   go_wp2_with fail
   refine (qqq X x.ha x.hc x.hA x.hC x.y.hs d2 w10 (HE.out w10 F10.out.1.be) F10.out.1.hq h4 HP.out.1 HP.out.2 F10.out.2.le).mono ?_
   rintro e w11 ⟨q11,hor⟩
   have F11:Hid (CkF w x b X d2 D10 w11/\x.y.hs.Put d2):=⟨F10.out.1.below q11,F10.out.2⟩
   obtain ⟨z,rfl,HOr⟩:∃ z:Int,e=.returned (.int .i64 z)/\Hid ((∃ k,k<x.y.hs.n/\x.y.hs.Can d2 k/\z=(k:Nat))\/(z = -1/\∀ p,p<x.y.hs.n->¬ x.y.hs.Can d2 p)):=by
    rcases hor with ⟨k,hk,hcan,rfl⟩ | ⟨rfl,hn⟩
    ·exact ⟨_,rfl,.inl ⟨k,hk,hcan,rfl⟩⟩
    ·exact ⟨_,rfl,.inr ⟨rfl,hn⟩⟩
   clear hor q11 F10
   go_wp2
   go_roundg (sumL x.y.hs.l x.y.hs.n - sumL d2 x.y.hs.n)
   case measure=>exact HM.out
   case rel=>exact ⟨d2,D10,z,rfl,rfl,F11.out,HOr.out⟩
  obtain ⟨sd,hsd⟩:∃ sd,sdr x.y k (d k)=some sd:=⟨_,if_pos t3⟩
  obtain ⟨s1,s2⟩:=sd
  obtain ⟨m1,m2,m3⟩:=qg9 HO.out.1 HPu.out.le HCn.out.2.1 HCn.out.1 hsd
  have m4:(x.y.hH k (d k)).q=(s1:Int):=by
   have h1:=hsd
   rw [sdr,if_pos t3] at h1
   have h2:(x.y.hH k (d k)).q.toNat=s1:=by injection h1 with h1;injection h1
   have h3:=(HO.out.1.evq HCn.out.2.1 HCn.out.2.2.1).1
   omega
  have m1':s1<x.y.pn:=m1
  have m2':s2<d s1:=m2
  have HS12:Hid (s1<x.y.pn/\s2<d s1):=⟨m1',m2'⟩
  have HV:Hid (∀ q,(if q=k then d k+1 else max (f0 q) (clk x.y s1 s2 q))=clk x.y k (d k) q):=fun q=>by
   rw [HNx.out q,hsd,<- Hf0.out]
  rw [show snV x.y k (d k)=.tuple #[.agg #[.int .i64 s1,.int .i64 s2],.bool true] by rw [snV,if_pos t3,m4,m3]]
  have F7:Hid (CkH w x b X d (up d k) D (w6.alloc (oQ6 s1 s2))):=F6.out.below (zT _ _)
  have S7b:Hid (BoxS (w6.alloc (oQ6 s1 s2)) S (.int .i64 k) (.int .i64 (d k))/\S≠C):=⟨S6.out.below (zT _ _),by have:=LC.out.2;omega⟩
  have C7:Hid (BoxF (w6.alloc (oQ6 s1 s2)) C f0):=C6.out.below (zT _ _)
  have P7:Hid (BoxS (w6.alloc (oQ6 s1 s2)) w6.heap.size (.int .i64 s1) (.int .i64 s2)):=BoxS.new w6 _ _ _
  clear HNx Hf0 t3 F6 S6 C6 m1 m2 m3 m4 m1' m2' hsd
  go_upto_region 11 with fail
  generalize w6.heap.size=S7 at *
  generalize w6.alloc (oQ6 s1 s2)=w7 at *
  clear w6
  have HLk:Hid (∀ wx,Below w7.heap.size w7 wx->(Instr.lookup 138 (.map (some b)) (sptV s1 s2) false).run Tryz.prog wx=.ok (ckV (clk x.y s1 s2)) wx):=fun wx hb=>(F7.out.below hb).ck.look HS12.out.1 H4.out HS12.out.2 (by have:=HD2.out s1;have:=HS12.out.2;omega)
  have q0:Below w7.heap.size w7 w7.drew:=(Below.refl w7.heap.size w7).drew
  refine qal (fun w':World=>BoxF w' C f0/\BoxS w' S7 (.int .i64 s1) (.int .i64 s2)/\(Instr.lookup 138 (.map (some b)) (sptV s1 s2) false).run Tryz.prog w'=.ok (ckV (clk x.y s1 s2)) w') (fun i=>i == 5) (by kernel_rfl) ?_
  have hHeld:(fun w':World=>BoxF w' C f0/\BoxS w' S7 (.int .i64 s1) (.int .i64 s2)/\(Instr.lookup 138 (.map (some b)) (sptV s1 s2) false).run Tryz.prog w'=.ok (ckV (clk x.y s1 s2)) w') w7.drew:=⟨C7.out.below q0,P7.out.below q0,HLk.out _ q0⟩
  refine qac 0 rfl hHeld ?_
  apply Exists.intro
  refine ⟨fun wq hSw=>?_,?_⟩
  ·obtain ⟨⟨h0,h1,h2,h3,-⟩,⟨g0,g1⟩,hl⟩:=hSw
   go_simp
   try with_reducible rfl
  (try simp only [Act.put,zD,zE,zF])
  refine qac 1 rfl hHeld ?_
  apply Exists.intro
  refine ⟨fun wq hSw=>?_,?_⟩
  ·obtain ⟨⟨h0,h1,h2,h3,-⟩,⟨g0,g1⟩,hl⟩:=hSw
   go_simp
   try with_reducible rfl
  (try simp only [Act.put,zD,zE,zF])
  refine qac 2 rfl hHeld ?_
  apply Exists.intro
  refine ⟨fun wq hSw=>?_,?_⟩
  ·obtain ⟨⟨h0,h1,h2,h3,-⟩,⟨g0,g1⟩,hl⟩:=hSw
   go_simp
   try with_reducible rfl
  (try simp only [Act.put,zD,zE,zF])
  refine qac 3 rfl hHeld ?_
  apply Exists.intro
  refine ⟨fun wq hSw=>?_,?_⟩
  ·obtain ⟨⟨h0,h1,h2,h3,-⟩,⟨g0,g1⟩,hl⟩:=hSw
   go_simp
   try with_reducible rfl
  (try simp only [Act.put,zD,zE,zF])
  refine qab 4 rfl (by kernel_rfl) (fun K hK=>?_)
  refine qb7 rfl 153 _ _ rfl #[ckV f0,ckV (clk x.y s1 s2)] (by simp [Act.eval]) (yA Tryz.func153 (by kernel_rfl) rfl) (qou f0 (clk x.y s1 s2) _) ?_
  rintro e w9 ⟨rfl,b9⟩
  refine ⟨_,rfl,?_⟩
  have q9:Below w7.heap.size w7 w9:=q0.trans (b9.mono q0.size)
  have C9:Hid (BoxF w9 C f0):=C7.out.below q9
  refine hK.out _ _ (fun _=>⟨C9.out,P7.out.below q9,HLk.out _ q9⟩) ?_
  obtain ⟨f1,hf1⟩:∃ f1:Nat->Nat,(fun q=>max (f0 q) (clk x.y s1 s2 q))=f1:=⟨_,rfl⟩
  rw [hf1]
  have HV1:Hid (∀ q,(if q=k then d k+1 else f1 q)=clk x.y k (d k) q):=fun q=>by rw [<- hf1];exact HV.out q
  clear hK K hHeld HV hf1
  (try simp only [Act.put,zD,zE,zF])
  have C10:=C9.out.put f1
  have F10a:Hid (CkH w x b X d (up d k) D ((((w9.setCell ⟨C,0,none⟩ (.int .i64 (f1 0))).setCell ⟨C,1,none⟩ (.int .i64 (f1 1))).setCell ⟨C,2,none⟩ (.int .i64 (f1 2))).setCell ⟨C,3,none⟩ (.int .i64 (f1 3)))):=(F7.out.below q9).turnC C10.2 LC.out.1
  have S10a:Hid (BoxS ((((w9.setCell ⟨C,0,none⟩ (.int .i64 (f1 0))).setCell ⟨C,1,none⟩ (.int .i64 (f1 1))).setCell ⟨C,2,none⟩ (.int .i64 (f1 2))).setCell ⟨C,3,none⟩ (.int .i64 (f1 3))) S (.int .i64 k) (.int .i64 (d k))):=(S7b.out.1.below q9).blk (C10.2.block S (S7b.out.1.below q9).lt (fun e=>S7b.out.2 e))
  have C10a:Hid (BoxF ((((w9.setCell ⟨C,0,none⟩ (.int .i64 (f1 0))).setCell ⟨C,1,none⟩ (.int .i64 (f1 1))).setCell ⟨C,2,none⟩ (.int .i64 (f1 2))).setCell ⟨C,3,none⟩ (.int .i64 (f1 3))) C f1):=C10.1
  obtain ⟨z0,z1,z2,z3,zf⟩:=C9.out
  clear C10
  refine qab 5 rfl (by kernel_rfl) (fun K hK=>?_)
  go_simp
  refine hK.out _ _ (fun h=>?_) ?_
  ·exact absurd h (by decide)
  clear hK K
  (try simp only [Act.put,zD,zE,zF])
  refine qat (by kernel_rfl) ?_ _
  clear z0 z1 z2 z3 zf q0 q9 b9 C9 HLk HS12 P7 C7 S7b F7
  go_upto_region 12 with fail
  generalize (((w9.setCell ⟨C,0,none⟩ (.int .i64 (f1 0))).setCell ⟨C,1,none⟩ (.int .i64 (f1 1))).setCell ⟨C,2,none⟩ (.int .i64 (f1 2))).setCell ⟨C,3,none⟩ (.int .i64 (f1 3))=w8 at *
  have F8:Hid (CkH w x b X d (up d k) D w8):=F10a.out
  have S8:Hid (BoxS w8 S (.int .i64 k) (.int .i64 (d k))):=S10a.out
  have C8:Hid (BoxF w8 C f1):=C10a.out
  have HV:Hid (∀ q,(if q=k then d k+1 else f1 q)=clk x.y k (d k) q):=HV1.out
  clear F10a S10a C10a HV1 w9 w7
  have HWi:Hid (∀ wx,Calls Tryz.prog 154 #[ckV f1,sptV k (d k)] wx fun e w'=>e=.returned (ckV (clk x.y k (d k)))/\Below wx.heap.size wx w'):=fun wx=>by
   have h9:=qoe f1 k (d k) wx HCn.out.2.2.2.2.2 (by have:=HCn.out.2.2.2.1;omega)
   have e9:(fun q=>if q=k then d k+1 else f1 q)=clk x.y k (d k):=funext HV.out
   rw [e9] at h9
   exact h9
  have q0:Below w8.heap.size w8 w8.drew:=(Below.refl w8.heap.size w8).drew
  refine qal (fun w':World=>BoxS w' S (.int .i64 k) (.int .i64 (d k))/\BoxF w' C f1) (fun i=>i == 5) (by kernel_rfl) ?_
  have hHeld:(fun w':World=>BoxS w' S (.int .i64 k) (.int .i64 (d k))/\BoxF w' C f1) w8.drew:=⟨S8.out.below q0,C8.out.below q0⟩
  refine qac 0 rfl hHeld ?_
  apply Exists.intro
  refine ⟨fun wq hSw=>?_,?_⟩
  ·obtain ⟨⟨h0,h1⟩,g0,g1,g2,g3,-⟩:=hSw
   go_simp
   try with_reducible rfl
  (try simp only [Act.put,zD,zE,zF])
  refine qac 1 rfl hHeld ?_
  apply Exists.intro
  refine ⟨fun wq hSw=>?_,?_⟩
  ·obtain ⟨⟨h0,h1⟩,g0,g1,g2,g3,-⟩:=hSw
   go_simp
   try with_reducible rfl
  (try simp only [Act.put,zD,zE,zF])
  refine qac 2 rfl hHeld ?_
  apply Exists.intro
  refine ⟨fun wq hSw=>?_,?_⟩
  ·obtain ⟨⟨h0,h1⟩,g0,g1,g2,g3,-⟩:=hSw
   go_simp
   try with_reducible rfl
  (try simp only [Act.put,zD,zE,zF])
  refine qac 3 rfl hHeld ?_
  apply Exists.intro
  refine ⟨fun wq hSw=>?_,?_⟩
  ·obtain ⟨⟨h0,h1⟩,g0,g1,g2,g3,-⟩:=hSw
   go_simp
   try with_reducible rfl
  (try simp only [Act.put,zD,zE,zF])
  refine qab 4 rfl (by kernel_rfl) (fun K hK=>?_)
  refine qb7 rfl 154 _ _ rfl #[ckV f1,sptV k (d k)] (by simp [Act.eval]) (yA Tryz.func154 (by kernel_rfl) rfl) (HWi.out _) ?_
  rintro e w9 ⟨rfl,b9⟩
  refine ⟨_,rfl,?_⟩
  have q9:Below w8.heap.size w8 w9:=q0.trans (b9.mono q0.size)
  refine hK.out _ _ (fun _=>⟨S8.out.below q9,C8.out.below q9⟩) ?_
  have F9:Hid (CkH w x b X d (up d k) D w9):=F8.out.below q9
  clear hK K hHeld HWi
  (try simp only [Act.put,zD,zE,zF])
  obtain ⟨w10,D10,hrun,ck10,g10⟩:=F9.out.ck.put HCn.out.2.1 H4.out HD2.out HSm.out
  have F10:Hid (CkF w x b X (up d k) D10 w10/\x.y.hs.Put (up d k)):=⟨F9.out.put g10 ck10,.next HPu.out hk HCn.out.1⟩
  have HM:Hid (sumL x.y.hs.l x.y.hs.n - sumL (up d k) x.y.hs.n<gk):=by
   have h2:=qcp (d:=d) hk
   have h3:=qco F10.out.2.le x.y.hs.n
   have h4:=HGk.out
   show sumL x.y.hs.l x.y.hs.n - sumL (up d k) x.y.hs.n<gk
   omega
  clear ck10 g10
  refine qab 5 rfl (by kernel_rfl) (fun K hK=>?_)
  go_simp
  refine hK.out _ _ (fun h=>?_) ?_
  ·exact absurd h (by decide)
  clear hK K hrun
  (try simp only [Act.put,zD,zE,zF])
  refine qat (by kernel_rfl) ?_ _
  clear F9 F8 S8 C8 HV q0 q9 b9 HGk HPu
  generalize up d k=d2 at *
  go_wp2_with fail
  refine (qqq X x.ha x.hc x.hA x.hC x.y.hs d2 w10 (HE.out w10 F10.out.1.be) F10.out.1.hq h4 HP.out.1 HP.out.2 F10.out.2.le).mono ?_
  rintro e w11 ⟨q11,hor⟩
  have F11:Hid (CkF w x b X d2 D10 w11/\x.y.hs.Put d2):=⟨F10.out.1.below q11,F10.out.2⟩
  obtain ⟨z,rfl,HOr⟩:∃ z:Int,e=.returned (.int .i64 z)/\Hid ((∃ k,k<x.y.hs.n/\x.y.hs.Can d2 k/\z=(k:Nat))\/(z = -1/\∀ p,p<x.y.hs.n->¬ x.y.hs.Can d2 p)):=by
   rcases hor with ⟨k,hk,hcan,rfl⟩ | ⟨rfl,hn⟩
   ·exact ⟨_,rfl,.inl ⟨k,hk,hcan,rfl⟩⟩
   ·exact ⟨_,rfl,.inr ⟨rfl,hn⟩⟩
  clear hor q11 F10
  go_wp2
  go_roundg (sumL x.y.hs.l x.y.hs.n - sumL d2 x.y.hs.n)
  case measure=>exact HM.out
  case rel=>exact ⟨d2,D10,z,rfl,rfl,F11.out,HOr.out⟩
def spEq (p i q j:Int):Bool:=p == q && i == j
theorem qr3 (p i q j:Int) (w:World):(binOp .eql 135 (sptV p i) (sptV q j)).run Tryz.prog w=.ok (.bool (spEq p i q j)) w:=by
 rw [run_eql_struct,show (10000:Nat)=9998+1+1 from rfl,run_equalIn_agg w (9998+1) 135 _ _ (by kernel_rfl) (by kernel_rfl)]
 simp only [spEq]
 by_cases h1:p=q <;> by_cases h2:i=j <;> simp [go_sem,h1,h2]
theorem qsl (p i q j:Int) (w:World):(binOp .neq 135 (sptV p i) (sptV q j)).run Tryz.prog w=.ok (.bool (!spEq p i q j)) w:=by
 rw [run_neq_struct,show (10000:Nat)=9998+1+1 from rfl,run_equalIn_agg w (9998+1) 135 _ _ (by kernel_rfl) (by kernel_rfl)]
 simp only [spEq]
 by_cases h1:p=q <;> by_cases h2:i=j <;> simp [go_sem,h1,h2]
def hgN (y:Sy) (p i q j:Nat):Bool:=!spEq p i q j && decide (j<clk y p i q)
noncomputable def bothB (y:Sy) (p i q j:Int):Bool:=hasB y p i && hasB y q j
noncomputable def hgB (y:Sy) (p i q j:Int):Bool:=bothB y p i q j && hgN y p.toNat i.toNat q.toNat j.toNat
noncomputable def sdB (y:Sy) (p i q j:Int):Bool:=(!spEq p i q j && bothB y p i q j) && (!hgN y p.toNat i.toNat q.toNat j.toNat && !hgN y q.toNat j.toNat p.toNat i.toNat)
theorem qua {y:Sy} {p i q j:Int}:arB y 2 (fun k=>if k=0 then (p,i) else (q,j))=bothB y p i q j:=by
 unfold arB bothB hasB
 rcases zK y.okB with h | h
 ·have e:=(Sy.ok_of h).cn.2.2.1
  rw [h]
  simp only [Bool.true_and]
  by_cases hc:y.Has (p,i)/\y.Has (q,j)
  ·rw [qax fun k hk=>?_]
   ·have h1:=hc.1
    have h2:=hc.2
    unfold Sy.Has at h1 h2
    rw [e] at h1 h2
    simp only at h1 h2
    rw [h1.1,h1.2,h2.1,h2.2]
    rfl
   ·by_cases hk0:k=0
    ·rw [if_pos hk0];exact hc.1
    ·rw [if_neg hk0];exact hc.2
  ·rw [qap fun h9=>hc ⟨h9 0 (by omega),h9 1 (by omega)⟩]
   symm
   refine Bool.eq_false_iff.2 fun h9=>hc ?_
   simp only [Bool.and_eq_true] at h9
   unfold Sy.Has
   rw [e]
   exact ⟨h9.1,h9.2⟩
 ·rw [h]
  rfl
theorem qpu (f:Nat->Nat) (q j:Nat) (w:World) (hq:q<4):
  Calls Tryz.prog 155 #[ckV f,sptV q j] w fun e w'=>e=.returned (.bool (decide (j<f q)))/\Below w.heap.size w w':=by
 have hB:=BoxF.new w f 189
 have hS:=BoxS.new (w.alloc (.cells #[.int .i64 (f 0),.int .i64 (f 1),.int .i64 (f 2),.int .i64 (f 3)] 189)) (.int .i64 q) (.int .i64 j) 135
 rw [World.size_alloc] at hS
 have C2:=hB.below (zT (w.alloc (.cells #[.int .i64 (f 0),.int .i64 (f 1),.int .i64 (f 2),.int .i64 (f 3)] 189)) (oQ6 q j))
 have BW:Hid (Below w.heap.size w ((w.alloc (.cells #[.int .i64 (f 0),.int .i64 (f 1),.int .i64 (f 2),.int .i64 (f 3)] 189)).alloc (oQ6 q j))):=(zT _ _).trans ((zT _ _).mono (by simp))
 have hcell:((w.alloc (.cells #[.int .i64 (f 0),.int .i64 (f 1),.int .i64 (f 2),.int .i64 (f 3)] 189)).alloc (oQ6 q j)).cell? ⟨w.heap.size,q,none⟩=some (.int .i64 (f q)):=by
  match q,hq with
  | 0,_=>exact C2.c0
  | 1,_=>exact C2.c1
  | 2,_=>exact C2.c2
  | 3,_=>exact C2.c3
 obtain ⟨s0,s1⟩:=hS
 have hq4:(q:Int)<4:=by omega
 have HR:Hid (decide (j<f q)=decide ((f q:Int) > (j:Int))):=by
  show _=_
  exact decide_eq_decide.2 (by omega)
 generalize decide (j<f q)=R at *
 clear hB C2
 go_enter Tryz.func155,Tryz.ntmps155
 go_wp2_with fail
 generalize (w.alloc (.cells #[.int .i64 (f 0),.int .i64 (f 1),.int .i64 (f 2),.int .i64 (f 3)] 189)).alloc (oQ6 q j)=W2 at *
 have s0':=cell_regrown s0
 have s1':=cell_regrown s1
 have hc':=cell_regrown hcell
 refine wp_region_quiet_below (by kernel_rfl) (by kernel_rfl) ?_
 repeat (quiet_step (fail))
 refine wpQuiet_nil ?_
 intro _ hw'
 obtain ⟨⟨dq,osq⟩,hw''⟩:=hw'
 subst hw''
 have B3:Hid (Below w.heap.size w (grow (redrawn W2 dq) osq)):=BW.out.trans ((below_regrown W2 dq osq).mono BW.out.size)
 generalize grow (redrawn W2 dq) osq=w3 at *
 clear s0 s1 hcell s0' s1' hc'
 go_wp2
 go_ret
 exact ⟨by rw [HR.out];simp,B3.out⟩
theorem qnn (b:Nat) (y:Sy) (d:Nat->Nat) (D:DataW Value) (p i q j:Nat) (w:World) (hC:Ckm w b y d D) (hb:b<w.heap.size) (h4:y.pn<=4) (hp:p<y.pn) (hi:i<d p) (hi':i<=1048576) (hq:q<y.pn):
  Calls Tryz.prog 94 #[.map (some b),sptV p i,sptV q j] w fun e w'=>e=.returned (.bool (hgN y p i q j))/\Below w.heap.size w w':=by
 have hS:=(BoxS.new w (.int .i64 p) (.int .i64 i) 135).below (zT (w.alloc (oQ6 p i)) (oQ6 q j))
 have hT:=BoxS.new (w.alloc (oQ6 p i)) (.int .i64 q) (.int .i64 j) 135
 rw [World.size_alloc] at hT
 have BW:Hid (Below w.heap.size w ((w.alloc (oQ6 p i)).alloc (oQ6 q j))):=(zT _ _).trans ((zT _ _).mono (by simp))
 have HLk:Hid (∀ wx,Below w.heap.size w wx->(Instr.lookup 138 (.map (some b)) (sptV p i) false).run Tryz.prog wx=.ok (ckV (clk y p i)) wx):=fun wx hbx=>(hC.blk (hbx.block b hb)).look hp h4 hi hi'
 have HHa:Hid (∀ wx,Calls Tryz.prog 155 #[ckV (clk y p i),sptV q j] wx fun e w'=>e=.returned (.bool (decide (j<clk y p i q)))/\Below wx.heap.size wx w'):=fun wx=>qpu (clk y p i) q j wx (by omega)
 have HN:Hid (hgN y p i q j=(!spEq p i q j && decide (j<clk y p i q))):=rfl
 generalize hgN y p i q j=R at *
 generalize decide (j<clk y p i q)=V at *
 generalize clk y p i=f at *
 have hne:=qsl p i q j
 clear hC h4 hp hi hi' hq
 cases hE:spEq p i q j with
 | true=>
  rw [hE] at hne HN
  go_enter Tryz.func94,Tryz.ntmps94
  go_wp2_with fail
  generalize (w.alloc (oQ6 p i)).alloc (oQ6 q j)=W2 at *
  obtain ⟨s0,s1⟩:=hS
  obtain ⟨t0,t1⟩:=hT
  have s0':=cell_regrown s0
  have s1':=cell_regrown s1
  have t0':=cell_regrown t0
  have t1':=cell_regrown t1
  refine wp_region_quiet_below (by kernel_rfl) (by kernel_rfl) ?_
  repeat (first | go_big_quiet_skip | quiet_step (fail))
  refine wpQuiet_nil ?_
  intro _ hw'
  obtain ⟨⟨dq,osq⟩,hw''⟩:=hw'
  subst hw''
  have B3:Hid (Below w.heap.size w (grow (redrawn W2 dq) osq)):=BW.out.trans ((below_regrown W2 dq osq).mono BW.out.size)
  generalize grow (redrawn W2 dq) osq=w3 at *
  clear s0 s1 t0 t1 s0' s1' t0' t1' hne
  go_wp2
  go_ret
  exact ⟨by rw [HN.out];rfl,B3.out⟩
 | false=>
  rw [hE] at hne HN
  go_enter Tryz.func94,Tryz.ntmps94
  go_wp2_with fail
  generalize (w.alloc (oQ6 p i)).alloc (oQ6 q j)=W2 at *
  obtain ⟨s0,s1⟩:=hS
  obtain ⟨t0,t1⟩:=hT
  have s0':=cell_regrown s0
  have s1':=cell_regrown s1
  have t0':=cell_regrown t0
  have t1':=cell_regrown t1
  have hlk:∀ dd os,(Instr.lookup 138 (.map (some b)) (sptV p i) false).run Tryz.prog (grow (redrawn W2 dd) os)=.ok (ckV f) (grow (redrawn W2 dd) os):=fun dd os=>HLk.out _ (BW.out.trans ((below_regrown W2 dd os).mono BW.out.size))
  refine wp_region_quiet_below (by kernel_rfl) (by kernel_rfl) ?_
  repeat (quiet_step (first|(go_at_call 155;exact Calls.regrown_of (HHa.out _))))
  refine wpQuiet_nil ?_
  intro _ hw'
  obtain ⟨⟨dq,osq⟩,hw''⟩:=hw'
  subst hw''
  have B3:Hid (Below w.heap.size w (grow (redrawn W2 dq) osq)):=BW.out.trans ((below_regrown W2 dq osq).mono BW.out.size)
  generalize grow (redrawn W2 dq) osq=w3 at *
  clear s0 s1 t0 t1 s0' s1' t0' t1' hne hlk
  go_wp2
  go_ret
  exact ⟨by rw [HN.out];rfl,B3.out⟩
structure HgX (w:World) (x:SysIn) (p i q j:Int) (wx:World):Prop where
 be:Below w.heap.size w wx
 bs:BoxC wx w.heap.size (.slice x.pa x.pn x.pc) (.slice x.sa x.sn x.sc) (.slice x.wa x.wn x.wc) (.slice x.ha x.hn x.hc)
 s1:BoxS wx (w.heap.size+1) (.int .i64 p) (.int .i64 i)
 s2:BoxS wx (w.heap.size+1+1) (.int .i64 q) (.int .i64 j)
theorem HgX.below {w:World} {x:SysIn} {p i q j:Int} {wx wy:World} (h:HgX w x p i q j wx) (hb:Below wx.heap.size wx wy):HgX w x p i q j wy:=⟨h.be.trans (hb.mono h.be.size),h.bs.below hb,h.s1.below hb,h.s2.below hb⟩
theorem HgX.new (w:World) (x:SysIn) (p i q j:Int):HgX w x p i q j (((w.alloc (oQ4 x.pa x.pn x.pc x.sa x.sn x.sc x.wa x.wn x.wc x.ha x.hn x.hc)).alloc (oQ6 p i)).alloc (oQ6 q j)):=by
 have e1:(w.alloc (oQ4 x.pa x.pn x.pc x.sa x.sn x.sc x.wa x.wn x.wc x.ha x.hn x.hc)).heap.size=w.heap.size+1:=by simp
 have e2:((w.alloc (oQ4 x.pa x.pn x.pc x.sa x.sn x.sc x.wa x.wn x.wc x.ha x.hn x.hc)).alloc (oQ6 p i)).heap.size=w.heap.size+1+1:=by simp
 refine ⟨by go_grown,((BoxC.new w _ _ _ _ _).below (zT _ _)).below (zT _ _),?_,?_⟩
 ·have:=(BoxS.new (w.alloc (oQ4 x.pa x.pn x.pc x.sa x.sn x.sc x.wa x.wn x.wc x.ha x.hn x.hc)) (.int .i64 p) (.int .i64 i) 135).below (zT _ (oQ6 q j))
  rw [e1] at this
  exact this
 ·have:=BoxS.new ((w.alloc (oQ4 x.pa x.pn x.pc x.sa x.sn x.sc x.wa x.wn x.wc x.ha x.hn x.hc)).alloc (oQ6 p i)) (.int .i64 q) (.int .i64 j) 135
  rw [e2] at this
  exact this
theorem SpAt.two (w:World) (p i q j:Int) (t:TypeId):SpAt (w.alloc (.cells #[.int .i64 p,.int .i64 i,.int .i64 q,.int .i64 j] t)) w.heap.size 2 (fun k=>if k=0 then (p,i) else (q,j)):=fun k hk=>by
 match k,hk with
 | 0,_=>exact ⟨zW _ _ _ 0 rfl,zW _ _ _ 1 rfl⟩
 | 1,_=>exact ⟨zW _ _ _ 2 rfl,zW _ _ _ 3 rfl⟩
def ckN (y:Sy) (p i:Nat):List Int:=(List.range y.pn).map fun q=>(clk y p i q:Int)
theorem qbq (y:Sy) (p i:Nat):(ckN y p i).length=y.pn:=by simp [ckN]
theorem qh6 (y:Sy) (p i q:Nat) (hq:q<y.pn):zi (ckN y p i) q=(clk y p i q:Int):=by
 unfold zi ckN
 rw [List.getD_eq_getElem?_getD,List.getElem?_map,List.getElem?_range hq]
 rfl
theorem BoxF.sl {w:World} {C:Nat} {y:Sy} {p i:Nat} (h:BoxF w C (clk y p i)) (h4:y.pn<=4):Sl w (some ⟨C,0,none⟩) (ckN y p i):=by
 refine .inr ⟨C,0,rfl,h.lt,fun q hq=>?_⟩
 rw [qbq] at hq
 rw [qh6 y p i q hq,Nat.zero_add]
 have hq4:q<4:=by omega
 match q,hq4 with
 | 0,_=>exact h.c0
 | 1,_=>exact h.c1
 | 2,_=>exact h.c2
 | 3,_=>exact h.c3
