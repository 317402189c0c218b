/- Proved: called with whatever system and two numbers, the program's Undone answers as the model's Undone, field by field, writes into no argument, and its answer is its own. One condition, tied to the program's text: errors.errorType holds what its text lays. -/
import Derived.Test.YtchhijiibjijhaaGreatDoorYf43
import Derived.Test.YtchhijiibjijhaaGreatDoorYf47
import Derived.Test.YtchhijiibjijhaaGreatDoorCards
import Derived.SevenTiedAt
namespace Go.Proofs.YtchhijiibjijhaaGreatDoor
set_option maxRecDepth 100000
set_option maxHeartbeats 4000000
open Go.ChangeShapes Go.WideShapes Go.ChangeAt Go.RowKit Go.Deep Go.Shelf
attribute [local go_sem] Oper.semAt_some
theorem qym {y:Sy} {p k:Int} (h:bkC y p k=0):(bkY y p k).hH=y.hH:=by
 unfold bkC at h
 by_cases ho:y.okB=true
 ·rw [if_pos ho] at h
  by_cases hb:bkIn y p k=true
  ·rw [if_pos hb] at h
   by_cases hw:wfB (y.ah (cN (bkE y p k)))=true
   ·unfold bkY
    rw [if_pos ho,if_pos hb,if_pos hw]
    rfl
   ·rw [if_neg hw] at h
    cases h
  ·rw [if_neg hb] at h
   cases h
 ·rw [if_neg ho] at h
  cases h
theorem qtk (w:World) (v:Value) (t:TypeId):(w.alloc (.cells #[v] t)).cell? ⟨w.heap.size,0,none⟩=some v:=by simp
theorem leHv {z:Bool} {w:World} {P:Nat->Prop} {a:Option Addr} {n cap:Nat} {u:Nat->Value} {L:Nat->Nat} {H:Nat->Nat->E3} (o:LE z w P (.slice a n cap) n u L H):∃ (A:Nat->Option Addr) (C:Nat->Nat),RowS w a n (fun i=>.slice (A i) (L i) (C i))/\∀ i,i<n->EvL w (A i) (L i) (H i):=by
 have h:∀ i,i<n->∃ t:Option Addr × Nat,u i=.slice t.1 (L i) t.2/\EvL w t.1 (L i) (H i):=fun i hi=>by
  obtain ⟨a,c,e,h⟩:=qk0 (o.own i hi)
  exact ⟨(a,c),e,h⟩
 have inh:Inhabited (Option Addr × Nat):=⟨(none,0)⟩
 obtain ⟨t,ht⟩:=Go.Deep.choose_lt h
 refine ⟨fun i=>(t i).1,fun i=>(t i).2,?_,fun i hi=>(ht i hi).2⟩
 by_cases h0:n=0
 ·exact .inl h0
 ·obtain ⟨g,c,e,-,hl,-⟩:=o.cell (i:=0) (by omega)
  simp only [Value.slice.injEq] at e
  obtain ⟨rfl,-,rfl⟩:=e
  exact .inr ⟨g,0,rfl,hl,fun i hi=>by rw [Nat.zero_add,(o.cellG hi).1,(ht i hi).1]⟩
theorem qe5 {zb:Bool} (x:SysIn) (p k:Int) (w:World) (hG:SysG w x) (hL:x.Len) (hcap:∀ i,i<x.hn->x.hL i<=x.hC i) (hN:x.Nn zb) (hV:w.cell? ⟨0,0,none⟩=some (.iface 298 (.agg #[.pointer (some ⟨1,213,none⟩)]))):
  Calls Tryz.prog 30 #[x.v,.int .i64 p,.int .i64 k] w fun e w'=>∃ u,e=.returned u/\OwnI w' w.heap.size u (udS x.y p k)/\Below w.heap.size w w':=by
 have HG:Hid (SysG w x):=hG
 have HB:Hid (∀ wx,Below w.heap.size w wx->Calls Tryz.prog 26 #[x.v,.int .i64 p,.int .i64 k] wx fun e w'=>∃ v,e=.returned (.tuple #[v,.int .i64 (bkC x.y p k)])/\qag zb w' wx.heap.size (bkY x.y p k) v/\Below wx.heap.size wx w'):=fun wx hb=>qdc x p k wx (hG.below hb) hL hcap hN ((hb.cell (p:=⟨0,0,none⟩) (zJ w _ hV)).trans hV)
 have HD:Hid (bkC x.y p k=0->x.y.Ok/\(bkY x.y p k).hn=x.y.pn/\(∀ q,q<x.y.pn->(bkY x.y p k).hL q<=x.y.hL q)/\(bkY x.y p k).hH=x.y.hH):=fun h=>⟨(qh5 h).1,(qh5 h).2.1,(qh5 h).2.2,qym h⟩
 have HU:Hid (udS x.y p k=if bkC x.y p k=0 then udT x.y (bkY x.y p k) x.y.hn else []):=rfl
 have hl':(x.hn:Int)<=1048576:=by have:=hL.h.1;omega
 have BW:Hid (Below w.heap.size w (w.alloc (oQ4 x.pa x.pn x.pc x.sa x.sn x.sc x.wa x.wn x.wc x.ha x.hn x.hc))):=zT _ _
 have NB:Hid (BoxC (w.alloc (oQ4 x.pa x.pn x.pc x.sa x.sn x.sc x.wa x.wn x.wc x.ha x.hn x.hc)) w.heap.size (.slice x.pa x.pn x.pc) (.slice x.sa x.sn x.sc) (.slice x.wa x.wn x.wc) (.slice x.ha x.hn x.hc)):=BoxC.new w _ _ _ _ _
 obtain ⟨C,hC⟩:∃ C,bkC x.y p k=C:=⟨_,rfl⟩
 obtain ⟨Y,hY⟩:∃ Y,bkY x.y p k=Y:=⟨_,rfl⟩
 rw [hC,hY] at HB HD HU
 generalize udS x.y p k=U at *
 clear hC hY hG hL hcap hN hV
 refine (callsIn_wide (n:=3)).1 ?_
 refine callsIn_of_wp_marks Tryz.func30 rfl trivial ?_ rfl
 simp only [Tryz.ntmps30,List.size_toArray,List.length_cons,List.length_nil,Nat.reduceAdd,Nat.reduceSub,Array.replicate_succ,Array.replicate_zero,List.push_toArray,List.append_toArray,List.nil_append,List.cons_append]
 by_cases h0:C=0
 case neg=>
  have HV:Hid (U=[]):=by show U=[];rw [HU.out,if_neg h0]
  clear HU HD
  gi_wp2_with (refine ⟨trivial,?_⟩;gi_at_call 26;refine (callsIn_wide.2 (HB.out _ BW.out)).mono ?_;rintro e w3 ⟨v3,rfl,o3,q3⟩;obtain ⟨cl,vp,vs,vw,vh,up,us,uw,uh,rfl,o3⟩:=o3;obtain ⟨pa,pc,rfl⟩:=zU o3.p.row;obtain ⟨sa,sc,rfl⟩:=zU o3.s.row;obtain ⟨wa,wc,rfl⟩:=zU o3.t.row;obtain ⟨ha,hc,rfl⟩:=zU o3.h.row)
  have b3:Below w.heap.size w w3:=BW.out.trans (q3.mono BW.out.size)
  have b4:=b3.trans ((zT w3 (oQ4 pa Y.pn pc sa Y.sn sc wa Y.wn wc ha Y.hn hc)).mono b3.size)
  have b5:=b4.trans ((zT _ (.cells #[] 3)).mono b4.size)
  exact ⟨_,results_tmp rfl _ _ _,_,rfl,by rw [HV.out];exact (qe2 (w3.alloc _) (by simp)).mono (by have:=b3.size;omega),b5⟩
 subst h0
 obtain ⟨hO,hyn,hyl,hyH⟩:=HD.out rfl
 have HV:Hid (U=udT x.y Y x.hn):=by show U=_;rw [HU.out,if_pos rfl];rfl
 have HN:Hid (x.hn=x.pn/\Y.hn=x.pn/\(∀ q,q<x.pn->Y.hL q<=x.hL q/\x.hL q<=200)/\1<=x.pn):=⟨hO.cn.2.2.1,hyn,fun q hq=>⟨hyl q hq,hO.hl200 hq⟩,hO.cn.1.1⟩
 have HH:Hid (Y.hH=x.hH):=hyH
 clear HU HD hO hyn hyl hyH
 have hmk:=qcg x.hn (by omega)
 gi_wp2_with (first|(refine ⟨trivial,?_⟩;gi_at_call 26;refine (callsIn_wide.2 (HB.out _ BW.out)).mono ?_;rintro e w3 ⟨v3,rfl,o3,q3⟩;obtain ⟨cl,vp,vs,vw,vh,up,us,uw,uh,rfl,o3⟩:=o3;obtain ⟨pa,pc,rfl⟩:=zU o3.p.row;obtain ⟨sa,sc,rfl⟩:=zU o3.s.row;obtain ⟨wa,wc,rfl⟩:=zU o3.t.row;obtain ⟨ha,hc,rfl⟩:=zU o3.h.row;obtain ⟨c0,c1,c2,c3⟩:=NB.out.below q3;have ln:=zJ w3 _ c0;have ln1:w.heap.size<w3.heap.size+1:=Nat.lt_succ_of_lt ln;have ln2:w.heap.size<w3.heap.size+1+1:=Nat.lt_succ_of_lt ln1;have le1:w.heap.size≠w3.heap.size+1:=Nat.ne_of_lt ln1;have le2:w.heap.size≠w3.heap.size+1+1:=Nat.ne_of_lt ln2;have le0:w.heap.size≠w3.heap.size:=Nat.ne_of_lt ln;clear HB)|(refine ⟨trivial,?_⟩;gi_at_call 80;refine (callsIn_wide.2 (qv0 _ _ _ _ _ _ _ _ _)).mono ?_;rintro e w' ⟨rfl,rfl⟩))
 clear c0 c1 c2 c3 ln1 ln2 le0 le1 le2 hmk
 have b3:Below w.heap.size w w3:=BW.out.trans (q3.mono BW.out.size)
 have a4:=zT w3 (oQ4 pa Y.pn pc sa Y.sn sc wa Y.wn wc ha Y.hn hc)
 have a5:=zT (w3.alloc (oQ4 pa Y.pn pc sa Y.sn sc wa Y.wn wc ha Y.hn hc)) (.cells (madeCells #[.int .i64 0] x.hn) 3)
 have a6:=zT ((w3.alloc (oQ4 pa Y.pn pc sa Y.sn sc wa Y.wn wc ha Y.hn hc)).alloc (.cells (madeCells #[.int .i64 0] x.hn) 3)) (.cells #[.slice (some ⟨w3.heap.size+1,0,none⟩) x.hn x.hn] 47)
 have a7:=zT (((w3.alloc (oQ4 pa Y.pn pc sa Y.sn sc wa Y.wn wc ha Y.hn hc)).alloc (.cells (madeCells #[.int .i64 0] x.hn) 3)).alloc (.cells #[.slice (some ⟨w3.heap.size+1,0,none⟩) x.hn x.hn] 47)) (oQ4 x.pa x.pn x.pc x.sa x.sn x.sc x.wa x.wn x.wc x.ha x.hn x.hc)
 have a8:=zT ((((w3.alloc (oQ4 pa Y.pn pc sa Y.sn sc wa Y.wn wc ha Y.hn hc)).alloc (.cells (madeCells #[.int .i64 0] x.hn) 3)).alloc (.cells #[.slice (some ⟨w3.heap.size+1,0,none⟩) x.hn x.hn] 47)).alloc (oQ4 x.pa x.pn x.pc x.sa x.sn x.sc x.wa x.wn x.wc x.ha x.hn x.hc)) (oQ4 pa Y.pn pc sa Y.sn sc wa Y.wn wc ha Y.hn hc)
 have z4:(w3.alloc (oQ4 pa Y.pn pc sa Y.sn sc wa Y.wn wc ha Y.hn hc)).heap.size=w3.heap.size+1:=by simp
 have z5:((w3.alloc (oQ4 pa Y.pn pc sa Y.sn sc wa Y.wn wc ha Y.hn hc)).alloc (.cells (madeCells #[.int .i64 0] x.hn) 3)).heap.size=w3.heap.size+2:=by simp
 have z6:(((w3.alloc (oQ4 pa Y.pn pc sa Y.sn sc wa Y.wn wc ha Y.hn hc)).alloc (.cells (madeCells #[.int .i64 0] x.hn) 3)).alloc (.cells #[.slice (some ⟨w3.heap.size+1,0,none⟩) x.hn x.hn] 47)).heap.size=w3.heap.size+3:=by simp
 have z7:((((w3.alloc (oQ4 pa Y.pn pc sa Y.sn sc wa Y.wn wc ha Y.hn hc)).alloc (.cells (madeCells #[.int .i64 0] x.hn) 3)).alloc (.cells #[.slice (some ⟨w3.heap.size+1,0,none⟩) x.hn x.hn] 47)).alloc (oQ4 x.pa x.pn x.pc x.sa x.sn x.sc x.wa x.wn x.wc x.ha x.hn x.hc)).heap.size=w3.heap.size+4:=by simp
 have z8:(((((w3.alloc (oQ4 pa Y.pn pc sa Y.sn sc wa Y.wn wc ha Y.hn hc)).alloc (.cells (madeCells #[.int .i64 0] x.hn) 3)).alloc (.cells #[.slice (some ⟨w3.heap.size+1,0,none⟩) x.hn x.hn] 47)).alloc (oQ4 x.pa x.pn x.pc x.sa x.sn x.sc x.wa x.wn x.wc x.ha x.hn x.hc)).alloc (oQ4 pa Y.pn pc sa Y.sn sc wa Y.wn wc ha Y.hn hc)).heap.size=w3.heap.size+5:=by simp
 have n5:=qh7 (w3.alloc (oQ4 pa Y.pn pc sa Y.sn sc wa Y.wn wc ha Y.hn hc)) x.hn (by omega)
 have n6:=qtk ((w3.alloc (oQ4 pa Y.pn pc sa Y.sn sc wa Y.wn wc ha Y.hn hc)).alloc (.cells (madeCells #[.int .i64 0] x.hn) 3)) (.slice (some ⟨w3.heap.size+1,0,none⟩) x.hn x.hn) 47
 have n7:=(BoxC.new (((w3.alloc (oQ4 pa Y.pn pc sa Y.sn sc wa Y.wn wc ha Y.hn hc)).alloc (.cells (madeCells #[.int .i64 0] x.hn) 3)).alloc (.cells #[.slice (some ⟨w3.heap.size+1,0,none⟩) x.hn x.hn] 47)) (.slice x.pa x.pn x.pc) (.slice x.sa x.sn x.sc) (.slice x.wa x.wn x.wc) (.slice x.ha x.hn x.hc) 36).2.2.2
 have n8:=(BoxC.new ((((w3.alloc (oQ4 pa Y.pn pc sa Y.sn sc wa Y.wn wc ha Y.hn hc)).alloc (.cells (madeCells #[.int .i64 0] x.hn) 3)).alloc (.cells #[.slice (some ⟨w3.heap.size+1,0,none⟩) x.hn x.hn] 47)).alloc (oQ4 x.pa x.pn x.pc x.sa x.sn x.sc x.wa x.wn x.wc x.ha x.hn x.hc)) (.slice pa Y.pn pc) (.slice sa Y.sn sc) (.slice wa Y.wn wc) (.slice ha Y.hn hc) 36).2.2.2
 rw [z4] at n5 a5
 rw [z5] at a6 n6
 rw [z6] at a7 n7
 rw [z7] at a8 n8
 obtain ⟨A,C,hrA,hrE⟩:=leHv o3.h
 have m38:Below w3.heap.size w3 (((((w3.alloc (oQ4 pa Y.pn pc sa Y.sn sc wa Y.wn wc ha Y.hn hc)).alloc (.cells (madeCells #[.int .i64 0] x.hn) 3)).alloc (.cells #[.slice (some ⟨w3.heap.size+1,0,none⟩) x.hn x.hn] 47)).alloc (oQ4 x.pa x.pn x.pc x.sa x.sn x.sc x.wa x.wn x.wc x.ha x.hn x.hc)).alloc (oQ4 pa Y.pn pc sa Y.sn sc wa Y.wn wc ha Y.hn hc)):=a4.trans ((a5.mono (by omega)).trans ((a6.mono (by omega)).trans ((a7.mono (by omega)).trans (a8.mono (by omega)))))
 have m58:Below (w3.heap.size+2) ((w3.alloc (oQ4 pa Y.pn pc sa Y.sn sc wa Y.wn wc ha Y.hn hc)).alloc (.cells (madeCells #[.int .i64 0] x.hn) 3)) (((((w3.alloc (oQ4 pa Y.pn pc sa Y.sn sc wa Y.wn wc ha Y.hn hc)).alloc (.cells (madeCells #[.int .i64 0] x.hn) 3)).alloc (.cells #[.slice (some ⟨w3.heap.size+1,0,none⟩) x.hn x.hn] 47)).alloc (oQ4 x.pa x.pn x.pc x.sa x.sn x.sc x.wa x.wn x.wc x.ha x.hn x.hc)).alloc (oQ4 pa Y.pn pc sa Y.sn sc wa Y.wn wc ha Y.hn hc)):=a6.trans ((a7.mono (by omega)).trans (a8.mono (by omega)))
 have m68:Below (w3.heap.size+3) (((w3.alloc (oQ4 pa Y.pn pc sa Y.sn sc wa Y.wn wc ha Y.hn hc)).alloc (.cells (madeCells #[.int .i64 0] x.hn) 3)).alloc (.cells #[.slice (some ⟨w3.heap.size+1,0,none⟩) x.hn x.hn] 47)) (((((w3.alloc (oQ4 pa Y.pn pc sa Y.sn sc wa Y.wn wc ha Y.hn hc)).alloc (.cells (madeCells #[.int .i64 0] x.hn) 3)).alloc (.cells #[.slice (some ⟨w3.heap.size+1,0,none⟩) x.hn x.hn] 47)).alloc (oQ4 x.pa x.pn x.pc x.sa x.sn x.sc x.wa x.wn x.wc x.ha x.hn x.hc)).alloc (oQ4 pa Y.pn pc sa Y.sn sc wa Y.wn wc ha Y.hn hc)):=a7.trans (a8.mono (by omega))
 have F8:Hid (Below w.heap.size w (((((w3.alloc (oQ4 pa Y.pn pc sa Y.sn sc wa Y.wn wc ha Y.hn hc)).alloc (.cells (madeCells #[.int .i64 0] x.hn) 3)).alloc (.cells #[.slice (some ⟨w3.heap.size+1,0,none⟩) x.hn x.hn] 47)).alloc (oQ4 x.pa x.pn x.pc x.sa x.sn x.sc x.wa x.wn x.wc x.ha x.hn x.hc)).alloc (oQ4 pa Y.pn pc sa Y.sn sc wa Y.wn wc ha Y.hn hc))/\OwnI (((((w3.alloc (oQ4 pa Y.pn pc sa Y.sn sc wa Y.wn wc ha Y.hn hc)).alloc (.cells (madeCells #[.int .i64 0] x.hn) 3)).alloc (.cells #[.slice (some ⟨w3.heap.size+1,0,none⟩) x.hn x.hn] 47)).alloc (oQ4 x.pa x.pn x.pc x.sa x.sn x.sc x.wa x.wn x.wc x.ha x.hn x.hc)).alloc (oQ4 pa Y.pn pc sa Y.sn sc wa Y.wn wc ha Y.hn hc)) (w3.heap.size+1) (.slice (some ⟨w3.heap.size+1,0,none⟩) x.hn x.hn) (List.replicate x.hn 0)/\(((((w3.alloc (oQ4 pa Y.pn pc sa Y.sn sc wa Y.wn wc ha Y.hn hc)).alloc (.cells (madeCells #[.int .i64 0] x.hn) 3)).alloc (.cells #[.slice (some ⟨w3.heap.size+1,0,none⟩) x.hn x.hn] 47)).alloc (oQ4 x.pa x.pn x.pc x.sa x.sn x.sc x.wa x.wn x.wc x.ha x.hn x.hc)).alloc (oQ4 pa Y.pn pc sa Y.sn sc wa Y.wn wc ha Y.hn hc)).cell? ⟨w3.heap.size+2,0,none⟩=some (.slice (some ⟨w3.heap.size+1,0,none⟩) x.hn x.hn)/\(((((w3.alloc (oQ4 pa Y.pn pc sa Y.sn sc wa Y.wn wc ha Y.hn hc)).alloc (.cells (madeCells #[.int .i64 0] x.hn) 3)).alloc (.cells #[.slice (some ⟨w3.heap.size+1,0,none⟩) x.hn x.hn] 47)).alloc (oQ4 x.pa x.pn x.pc x.sa x.sn x.sc x.wa x.wn x.wc x.ha x.hn x.hc)).alloc (oQ4 pa Y.pn pc sa Y.sn sc wa Y.wn wc ha Y.hn hc)).cell? ⟨w3.heap.size+3,3,none⟩=some (.slice x.ha x.hn x.hc)/\(((((w3.alloc (oQ4 pa Y.pn pc sa Y.sn sc wa Y.wn wc ha Y.hn hc)).alloc (.cells (madeCells #[.int .i64 0] x.hn) 3)).alloc (.cells #[.slice (some ⟨w3.heap.size+1,0,none⟩) x.hn x.hn] 47)).alloc (oQ4 x.pa x.pn x.pc x.sa x.sn x.sc x.wa x.wn x.wc x.ha x.hn x.hc)).alloc (oQ4 pa Y.pn pc sa Y.sn sc wa Y.wn wc ha Y.hn hc)).cell? ⟨w3.heap.size+4,3,none⟩=some (.slice ha Y.hn hc)):=
  ⟨b3.trans (m38.mono b3.size),n5.below (by rw [z5];exact m58),(m68.cell (p:=⟨w3.heap.size+2,0,none⟩) (by show w3.heap.size+2<w3.heap.size+3;omega)).trans n6,(a8.cell (p:=⟨w3.heap.size+3,3,none⟩) (by show w3.heap.size+3<w3.heap.size+4;omega)).trans n7,n8⟩
 have hF:Hid (∀ W',Kq (w3.heap.size+5) (w3.heap.size+1) (((((w3.alloc (oQ4 pa Y.pn pc sa Y.sn sc wa Y.wn wc ha Y.hn hc)).alloc (.cells (madeCells #[.int .i64 0] x.hn) 3)).alloc (.cells #[.slice (some ⟨w3.heap.size+1,0,none⟩) x.hn x.hn] 47)).alloc (oQ4 x.pa x.pn x.pc x.sa x.sn x.sc x.wa x.wn x.wc x.ha x.hn x.hc)).alloc (oQ4 pa Y.pn pc sa Y.sn sc wa Y.wn wc ha Y.hn hc)) W'->Hv.In ⟨x.ha,x.hn,x.hc,x.hA,x.hL,x.hC,x.hH⟩ W' (w3.heap.size+3)/\Hv.In ⟨ha,Y.hn,hc,A,Y.hL,C,Y.hH⟩ W' (w3.heap.size+4)):=fun W' hk=>by
  have hg:=HG.out.below (b3.trans ((m38.trans (hk.lo.mono (Nat.le_succ _))).mono b3.size))
  have h3:=m38.trans (hk.lo.mono (Nat.le_succ _))
  exact ⟨⟨(zH (hk.hi (w3.heap.size+3) (by omega) (by omega))).trans F8.out.2.2.2.1,hg.h,hg.hi⟩,⟨(zH (hk.hi (w3.heap.size+4) (by omega) (by omega))).trans F8.out.2.2.2.2,hrA.below h3,fun i hi=>(hrE i hi).below h3⟩⟩
 have hz:(((((w3.alloc (oQ4 pa Y.pn pc sa Y.sn sc wa Y.wn wc ha Y.hn hc)).alloc (.cells (madeCells #[.int .i64 0] x.hn) 3)).alloc (.cells #[.slice (some ⟨w3.heap.size+1,0,none⟩) x.hn x.hn] 47)).alloc (oQ4 x.pa x.pn x.pc x.sa x.sn x.sc x.wa x.wn x.wc x.ha x.hn x.hc)).alloc (oQ4 pa Y.pn pc sa Y.sn sc wa Y.wn wc ha Y.hn hc)).heap.size=w3.heap.size+5:=z8
 have hwN:w.heap.size<w3.heap.size:=ln
 clear a4 a5 a6 a7 a8 z4 z5 z6 z7 z8 n5 n6 n7 n8 hrA hrE m38 m58 m68 o3 q3 b3 ln
 generalize (((((w3.alloc (oQ4 pa Y.pn pc sa Y.sn sc wa Y.wn wc ha Y.hn hc)).alloc (.cells (madeCells #[.int .i64 0] x.hn) 3)).alloc (.cells #[.slice (some ⟨w3.heap.size+1,0,none⟩) x.hn x.hn] 47)).alloc (oQ4 x.pa x.pn x.pc x.sa x.sn x.sc x.wa x.wn x.wc x.ha x.hn x.hc)).alloc (oQ4 pa Y.pn pc sa Y.sn sc wa Y.wn wc ha Y.hn hc))=W8 at *
 generalize w3.heap.size=N at *
 clear w3
 have hdd:∀ i,i<x.hn->∀ r,Al (x.hH i) (Y.hH i) (min (x.hL i) (Y.hL i)) r->x.hL i - r=x.hL i - Y.hL i:=fun i hi r a=>by
  obtain ⟨h1,h2,h3,-⟩:=HN.out
  have h4:=(h3 i (by omega)).1
  have h5:=a.le
  by_cases h6:r<min (x.hL i) (Y.hL i)
  ·exact absurd (by rw [HH.out]) (a.ne h6)
  ·omega
 have hll:∀ i,i<x.hn->x.hL i<=1048576/\Y.hL i<=1048576:=fun i hi=>by
  obtain ⟨h1,h2,h3,-⟩:=HN.out
  have h4:=h3 i (by omega)
  omega
 refine wpIn_rangeFunc_ownG (F:=Fence.wide) (n:=3) rfl (by omega) (gf:=139) (lb:=#[.pointer (some ⟨N+1+1+1,0,none⟩),.pointer (some ⟨N+1+1+1+1,0,none⟩)]) rfl trivial (enters_of Tryz.func139 (by kernel_rfl) rfl)
  (qsc 2 (by omega) (N+3) (N+4) (N+5) (N+1) ⟨x.ha,x.hn,x.hc,x.hA,x.hL,x.hC,x.hH⟩ ⟨ha,Y.hn,hc,A,Y.hL,C,Y.hH⟩ (by have:=HN.out;show x.hn<=Y.hn;omega) (by show x.hn<=1048576;omega) hll (fun i=>x.hL i - Y.hL i) hdd W8 (by omega) (by omega) hF.out) (fun h k=>h.trans k) (Kq.b (by omega) (by omega)) (Below.refl _ _) (fun _=>rfl)
  (fun pre W=>OwnI W (N+1) (.slice (some ⟨N+1,0,none⟩) x.hn x.hn) (upN x.hn pre)/\W.cell? ⟨N+1+1,0,none⟩=some (.slice (some ⟨N+1,0,none⟩) x.hn x.hn)/\Below w.heap.size w W)
  (fun _ _ _=>False) ?hI (fun _ _ _ _ _ hs _ _=>hs) ⟨F8.out.2.1,F8.out.2.2.1,F8.out.1⟩
  (fun z=>{ tmps:=#[x.v,.int .i64 p,.int .i64 k,.pointer (some ⟨w.heap.size,0,none⟩),undef,undef,.slice none 0 0,.pointer (some ⟨N,0,none⟩),.int .i64 0,.pointer (some ⟨N+1+1,0,none⟩),.int .i64 (z.1.val:Nat),.int .i64 (z.2:Nat),.tuple #[.agg #[.slice pa Y.pn pc,.slice sa Y.sn sc,.slice wa Y.wn wc,.slice ha Y.hn hc],.int .i64 0],.agg #[.slice x.pa x.pn x.pc,.slice x.sa x.sn x.sc,.slice x.wa x.wn x.wc,.slice x.ha x.hn x.hc],.int .i64 p,.int .i64 k,.tuple #[.agg #[.slice pa Y.pn pc,.slice sa Y.sn sc,.slice wa Y.wn wc,.slice ha Y.hn hc],.int .i64 0],.agg #[.slice pa Y.pn pc,.slice sa Y.sn sc,.slice wa Y.wn wc,.slice ha Y.hn hc],.int .i64 0,.int .i64 0,.bool false,undef,.pointer (some ⟨w.heap.size,3,none⟩),.slice x.ha x.hn x.hc,.int .i64 x.hn,.slice (some ⟨N+1,0,none⟩) x.hn x.hn,.agg #[.slice x.pa x.pn x.pc,.slice x.sa x.sn x.sc,.slice x.wa x.wn x.wc,.slice x.ha x.hn x.hc],.agg #[.slice pa Y.pn pc,.slice sa Y.sn sc,.slice wa Y.wn wc,.slice ha Y.hn hc],.func (.func 139) #[] #[.pointer (some ⟨N+1+1+1,0,none⟩),.pointer (some ⟨N+1+1+1+1,0,none⟩)],.int .i64 (z.1.val:Nat),.int .i64 (z.2:Nat),undef,undef,undef,undef,undef],defers:=[] }) ?assign ?body ?done ?stop
 case hI=>
  intro s A' B' row hs hg hr
  have hne:∀ j,j<W8.heap.size->some j≠row:=fun j hj e=>by
   have:=(hr j e.symm).1
   omega
  exact ⟨hs.1.kept hg (.inr (hne (N+1) (by omega))),(zH (hg.block (N+1+1) (zJ A' _ hs.2.1) (hne _ (by omega)))).trans hs.2.1,ownFrom_below (β:=Unit) (Nat.le_refl _) (by omega) () A' B' row hs.2.2 hg hr⟩
 case assign=>
  intro l z W K hK
  gi_wp2
  exact hK
 case body=>
  rintro l pre z W ⟨ho,hc9,hBw⟩ _
  have hz2:z.1.val<x.hn:=z.1.isLt
  have hz1:((z.1.val:Nat):Int)<(x.hn:Int):=by omega
  have fr:∀ j,W.frozen? ⟨N+1,j,none⟩=false:=fun j=>by
   have h:=ho
   unfold OwnI at h
   rw [qjk] at h
   exact h.frozenAt j
  have ce:W.cell? ⟨N+1,z.1.val,none⟩=some (.int .i64 ((upN x.hn pre)[z.1.val]'(by rw [qjk];exact hz2))):=by
   have h:=ho
   unfold OwnI at h
   rw [qjk] at h
   rw [h.cellAt z.1.val (by omega)]
   simp [qjk]
  have lw:N+1<W.heap.size:=zJ W _ ce
  have fz:=fr z.1.val
  gi_wp2
  have hs:∀ b,b≠N+1->(W.setCell ⟨N+1,z.1.val,none⟩ (.int .i64 (z.2:Nat))).heap[b]? = W.heap[b]?:=fun b hb=>zO W _ _ b hb
  exact ⟨(KeepsOthers.setCell _ _ _).from _,⟨(Below.refl (N+1) W).setCell (p:=⟨N+1,z.1.val,none⟩) (Nat.le_refl _) _,fun b h1 _=>hs b (by omega)⟩,⟨by rw [qri];exact (ho.set (qjk pre).symm z.1.val (z.2:Int)).1,(zH (hs (N+1+1) (by omega))).trans hc9,hBw.setCell (p:=⟨N+1,z.1.val,none⟩) (by show w.heap.size<=N+1;omega) _⟩⟩
 case done=>
  rintro D ys W hD rfl ⟨ho,hc9,hBw⟩ hK
  gi_wp2
  refine ⟨by simp,.inl ⟨_,_,rfl,run_takeDeferred hK,?_⟩⟩
  have hu:upN x.hn (gnL x.hn (fun i=>x.hL i - Y.hL i) x.hn (Nat.le_refl _))=U:=by
   rw [qxp,HV.out]
   unfold udT
   refine List.map_congr_left fun q hq=>?_
   have hq':q<x.hn:=List.mem_range.1 hq
   obtain ⟨h1,h2,h3,-⟩:=HN.out
   have h4:=(h3 q (by omega)).1
   rw [if_pos hq']
   show ((x.hL q - Y.hL q:Nat):Int)=(x.hL q:Int) - (Y.hL q:Int)
   omega
  rw [<- hu]
  have hO:OwnI (W.putObj D (.deferred none)) (N+1) (.slice (some ⟨N+1,0,none⟩) x.hn x.hn) (upN x.hn (gnL x.hn (fun i=>x.hL i - Y.hL i) x.hn (Nat.le_refl _))):=ownsRow_putObj ho _ hK rfl
  refine ⟨_,results_tmp rfl _ _ _,_,rfl,?_,hBw.trans (belowK_b (w:=w) (Nat.le_refl _) W D _ _ (by omega) hK rfl rfl)⟩
  exact hO.mono (show w.heap.size<=N+1 by omega)
 case stop=>
  rintro D c pre W _ _ h _
  exact h.elim
theorem qyf {x:SysIn} (hs:x.size<=1048576) (p k:Int):(udS x.y p k).length<=1048576:=by
 have h:=(SysIn.len_of (x':=x) hs rfl).h.1
 unfold udS
 split
 ·rw [qqj]
  exact h
 ·simp
theorem qji (x:SysIn) (z1 z2:Int) (W:World) (hs:x.size<=1048576) (hA:x.Ok W) (hV:W.cell? ⟨0,0,none⟩=some (.iface 298 (.agg #[.pointer (some ⟨1,213,none⟩)]))):
  Calls Tryz.prog 7 #[sysV x.pa x.pn x.pc x.sa x.sn x.sc x.wa x.wn x.wc x.ha x.hn x.hc,.int .i64 z1,.int .i64 z2] W fun e w'=>e=.returned (.bool true)/\Below W.heap.size W w':=by
 have HS:Hid (x.size<=1048576):=hs
 have HA:Hid (x.Ok W):=hA
 have HV:Hid (W.cell? ⟨0,0,none⟩=some (.iface 298 (.agg #[.pointer (some ⟨1,213,none⟩)]))):=hV
 have HV0:Hid (0<W.heap.size):=zJ W _ hV
 have hX:(udS x.y z1 z2).length<=1048576:=qyf hs z1 z2
 generalize hN:udS x.y z1 z2=X at hX
 have HN:Hid (udS x.y z1 z2=X):=hN
 have hX':(X.length:Int)<=1048576:=by omega
 have hsz:¬ (1048576 - (x.size:Int)<0):=by omega
 have X0:Hid (Px W x (W.alloc (.cells #[.slice x.pa x.pn x.pc,.slice x.sa x.sn x.sc,.slice x.wa x.wn x.wc,.slice x.ha x.hn x.hc] 27))):=⟨qad _ _,BoxC.new W _ _ _ _ _,by simp⟩
 clear hN hs hA hV
 go_enter Tryz.func7,Tryz.ntmps7
 go_wp2_with fail
 generalize W.alloc (.cells #[.slice x.pa x.pn x.pc,.slice x.sa x.sn x.sc,.slice x.wa x.wn x.wc,.slice x.ha x.hn x.hc] 27)=wA at *
 refine (qd1 x wA (HA.out.row.below X0.out.be) HS.out).mono ?_
 rintro e w0 ⟨rfl,b0⟩
 have X1:Hid (Px W x w0):=X0.out.below b0
 clear b0 X0
 obtain ⟨-,⟨p0,p1,p2,p3⟩,lt⟩:=X1.out
 go_wp2_with fail
 clear p0 p1 p2 p3 lt
 refine (qbd x W w0 HS.out HA.out X1.out.be).mono ?_
 rintro e w1 ⟨v1,rfl,o1,b1⟩
 obtain ⟨x1,rfl,g1,y1,cp1⟩:=o1.g2
 have O1:Hid (SysG w1 x1/\x1.y=x.y/\∀ i,i<x1.hn->x1.hL i<=x1.hC i):=⟨g1,y1,cp1⟩
 have X2:Hid (Px W x w1):=X1.out.below b1
 clear b1 X1 o1 g1 y1 cp1
 go_wp2_with fail
 refine (qj0 x1 z1 z2 w1 O1.out.1 (SysIn.len_of HS.out O1.out.2.1) O1.out.2.2).mono ?_
 rintro e w2 ⟨u2,rfl,o2,b2⟩
 rw [O1.out.2.1,HN.out] at o2
 obtain ⟨aw,cw,rfl,-⟩:=o2.form
 have V2:Hid (OwnI w2 w1.heap.size (.slice aw X.length cw) X):=o2
 have X3:Hid (Px W x w2):=X2.out.below b2
 clear b2 X2 o2 O1
 obtain ⟨-,⟨p0,p1,p2,p3⟩,lt⟩:=X3.out
 go_wp2_with fail
 clear p0 p1 p2 p3 lt
 refine (qbd x W w2 HS.out HA.out X3.out.be).mono ?_
 rintro e w3 ⟨v3,rfl,o3,b3⟩
 obtain ⟨x3,rfl,g3,y3,cp3,nn3⟩:=o3.g3
 have S3:Hid (qch w3 w2.heap.size w3.heap.size x x3.v):=o3
 have V3:Hid (OwnI w3 w1.heap.size (.slice aw X.length cw) X):=V2.out.below b3
 have GW:Hid (∀ j,(Value.slice aw X.length cw).ownBlock=some j->j<w2.heap.size):=fun j hj=>(V2.out.lt j hj).2
 have X4:Hid (Px W x w3):=X3.out.below b3
 have LT:Hid (W.heap.size<w2.heap.size/\w2.heap.size<=w3.heap.size):=⟨X3.out.lt,b3.size⟩
 have ba:Below w3.heap.size w3 (w3.alloc (oQ4 x3.pa x3.pn x3.pc x3.sa x3.sn x3.sc x3.wa x3.wn x3.wc x3.ha x3.hn x3.hc)):=qad _ _
 have Sa:Hid (qch (w3.alloc (oQ4 x3.pa x3.pn x3.pc x3.sa x3.sn x3.sc x3.wa x3.wn x3.wc x3.ha x3.hn x3.hc)) w2.heap.size w3.heap.size x x3.v):=S3.out.below ba (Nat.le_refl _)
 have Va:Hid (OwnI (w3.alloc (oQ4 x3.pa x3.pn x3.pc x3.sa x3.sn x3.sc x3.wa x3.wn x3.wc x3.ha x3.hn x3.hc)) w1.heap.size (.slice aw X.length cw) X):=V3.out.below ba
 have Xa:Hid (Px W x (w3.alloc (oQ4 x3.pa x3.pn x3.pc x3.sa x3.sn x3.sc x3.wa x3.wn x3.wc x3.ha x3.hn x3.hc))):=X4.out.below ba
 have Ga:Hid (SysG (w3.alloc (oQ4 x3.pa x3.pn x3.pc x3.sa x3.sn x3.sc x3.wa x3.wn x3.wc x3.ha x3.hn x3.hc)) x3/\x3.y=x.y/\x3.Nn true/\∀ i,i<x3.hn->x3.hL i<=x3.hC i):=⟨g3.below ba,y3,nn3,cp3⟩
 have Qa:Hid (BoxC (w3.alloc (oQ4 x3.pa x3.pn x3.pc x3.sa x3.sn x3.sc x3.wa x3.wn x3.wc x3.ha x3.hn x3.hc)) w3.heap.size (.slice x3.pa x3.pn x3.pc) (.slice x3.sa x3.sn x3.sc) (.slice x3.wa x3.wn x3.wc) (.slice x3.ha x3.hn x3.hc)/\w3.heap.size<(w3.alloc (oQ4 x3.pa x3.pn x3.pc x3.sa x3.sn x3.sc x3.wa x3.wn x3.wc x3.ha x3.hn x3.hc)).heap.size):=⟨BoxC.new w3 _ _ _ _ _,by simp⟩
 clear b3 X3 o3 V2 V3 X4 S3 ba g3 y3 cp3 nn3
 go_wp2_with fail
 generalize w3.alloc (oQ4 x3.pa x3.pn x3.pc x3.sa x3.sn x3.sc x3.wa x3.wn x3.wc x3.ha x3.hn x3.hc)=wB at *
 refine (qe5 x3 z1 z2 wB Ga.out.1 (SysIn.len_of HS.out Ga.out.2.1) Ga.out.2.2.2 Ga.out.2.2.1 ((Xa.out.be.cell (p:=⟨0,0,none⟩) HV0.out).trans HV.out)).mono ?_
 rintro e w4 ⟨u4,rfl,o4,b4⟩
 rw [Ga.out.2.1,HN.out] at o4
 obtain ⟨ag,cg,rfl,-⟩:=o4.form
 have G4:Hid (OwnI w4 wB.heap.size (.slice ag X.length cg) X):=o4
 have GG:Hid (∀ j,(Value.slice ag X.length cg).ownBlock=some j->w3.heap.size<j):=fun j hj=>zL Qa.out.2 (o4.lt j hj).1
 have V4:Hid (OwnI w4 w1.heap.size (.slice aw X.length cw) X):=Va.out.below b4
 have S4':Hid (qch w4 w2.heap.size w3.heap.size x x3.v):=Sa.out.below b4 (Nat.le_of_lt Qa.out.2)
 have X5:Hid (Px W x w4):=Xa.out.below b4
 have Q4:Hid (BoxC w4 w3.heap.size (.slice x3.pa x3.pn x3.pc) (.slice x3.sa x3.sn x3.sc) (.slice x3.wa x3.wn x3.wc) (.slice x3.ha x3.hn x3.hc)/\w3.heap.size<w4.heap.size):=⟨Qa.out.1.below b4,zL Qa.out.2 b4.size⟩
 clear b4 Xa o4 Va Sa Qa Ga
 go_wp2_with fail
 refine (qcq ag aw cg cw X w4 hX G4.out.sl V4.out.sl).mono ?_
 rintro e w5 ⟨rfl,b5⟩
 have G5:Hid (OwnI w5 wB.heap.size (.slice ag X.length cg) X):=G4.out.below b5
 have V5:Hid (OwnI w5 w1.heap.size (.slice aw X.length cw) X):=V4.out.below b5
 have S5:Hid (qch w5 w2.heap.size w3.heap.size x x3.v):=S4'.out.below b5 (by obtain ⟨_,_,_,_,_,_,_,_,_,_,_,q⟩:=S4'.out;exact q.hi.2.2.2.1)
 have X6:Hid (Px W x w5):=X5.out.below b5
 have Q5:Hid (BoxC w5 w3.heap.size (.slice x3.pa x3.pn x3.pc) (.slice x3.sa x3.sn x3.sc) (.slice x3.wa x3.wn x3.wc) (.slice x3.ha x3.hn x3.hc)/\w3.heap.size<w5.heap.size):=⟨Q4.out.1.below b5,zL Q4.out.2 b5.size⟩
 clear Q4
 clear b5 X5 G4 V4 S4'
 obtain ⟨-,⟨p0,p1,p2,p3⟩,lt⟩:=X6.out
 obtain ⟨⟨q0,q1,q2,q3⟩,lq⟩:=Q5.out
 go_wp2_with fail
 first|(go_region_with (first|(go_at_call 12;refine (qbd x W _ HS.out HA.out (by exact X6.out.be.drew)).mono ?_;rintro e w6 ⟨v6,rfl,o6,b6⟩;have q6:Below w5.heap.size w5 w6:=(Below.refl w5.heap.size w5).drew.trans b6;have T6:Hid (∃ l,qch w6 l w6.heap.size x v6):=⟨_,o6⟩;obtain ⟨r0,r1,r2,r3⟩:=Q5.out.1.below q6;have Q6:Hid (Below w5.heap.size w5 w6):=q6;clear o6 b6 q6)|(go_at_call 15;refine (qex x w2.heap.size w3.heap.size T6.out.choose _ _ v6 w6 HS.out (S5.out.below Q6.out (by obtain ⟨_,_,_,_,_,_,_,_,_,_,_,q⟩:=S5.out;exact q.hi.2.2.2.1)) T6.out.choose_spec).mono ?_;rintro e w7 ⟨rfl,b7⟩;have Q7:Hid (Below w5.heap.size w5 w7):=Q6.out.trans (b7.mono Q6.out.size);clear b7))) | fail
 all_goals
  clear r0 r1 r2 r3 p0 p1 p2 p3 lt q0 q1 q2 q3 lq T6 Q6
  have G7:Hid (OwnI w7 wB.heap.size (.slice ag X.length cg) X):=G5.out.below Q7.out
  have V7:Hid (OwnI w7 w1.heap.size (.slice aw X.length cw) X):=V5.out.below Q7.out
  have S7:Hid (qch w7 w2.heap.size w3.heap.size x x3.v):=S5.out.below Q7.out (by obtain ⟨_,_,_,_,_,_,_,_,_,_,_,q⟩:=S5.out;exact q.hi.2.2.2.1)
  have X8:Hid (Px W x w7):=X6.out.below Q7.out
  have R7:Hid (BoxC w7 w3.heap.size (.slice x3.pa x3.pn x3.pc) (.slice x3.sa x3.sn x3.sc) (.slice x3.wa x3.wn x3.wc) (.slice x3.ha x3.hn x3.hc)/\w3.heap.size<w7.heap.size):=⟨Q5.out.1.below Q7.out,zL Q5.out.2 Q7.out.size⟩
  clear Q7 X6 G5 V5 S5 Q5
  obtain ⟨⟨q0,q1,q2,q3⟩,lq⟩:=R7.out
  go_wp2_with fail
  clear q0 q1 q2 q3 lq
  refine (qfj x _ _ _ w7 HS.out S7.out).mono ?_
  rintro e w8 ⟨⟨z,rfl,hz⟩,t8⟩
  have G8:Hid (OwnI w8 wB.heap.size (.slice ag X.length cg) X):=G7.out.touch t8 fun g hg=>by
   have:=GG.out g hg
   omega
  have V8:Hid (OwnI w8 w1.heap.size (.slice aw X.length cw) X):=V7.out.touch t8 fun g hg=>by
   have:=GW.out g hg
   omega
  have X9:Hid (Px W x w8):=X8.out.touch t8 fun b hb=>by have:=LT.out;omega
  clear t8 X8 G7 V7 S7 R7
  go_wp2_with fail
  refine (qcq ag aw cg cw X w8 hX G8.out.sl V8.out.sl).mono ?_
  rintro e w9 ⟨rfl,b9⟩
  have G9:Hid (OwnI w9 wB.heap.size (.slice ag X.length cg) X):=G8.out.below b9
  have V9:Hid (OwnI w9 w1.heap.size (.slice aw X.length cw) X):=V8.out.below b9
  have X10:Hid (Px W x w9):=X9.out.below b9
  clear b9 X9 G8 V8
  go_wp2_with fail
  refine (qce ag cg wB.heap.size X 1 w9 hX (by omega) (by omega) G9.out).mono ?_
  rintro e w10 ⟨rfl,m10,g10⟩
  have V10:Hid (OwnI w10 w1.heap.size (.slice aw X.length cw) X):=V9.out.far g10 fun j hj e=>by
   have:=GW.out j hj
   have:=GG.out j e
   have:=LT.out
   omega
  have X11:Hid (Px W x w10):=X10.out.touch (qaa.of_grown (P:=fun b=>(Value.slice ag X.length cg).ownBlock=some b) g10 fun b e=>e) fun b e=>by
   have:=GG.out b e
   have:=LT.out
   omega
  have M10:Hid (OwnI w10 wB.heap.size (.slice ag X.length cg) (qdx 1 X.length)):=m10
  clear g10 X10 G9 V9 m10
  go_wp2_with fail
  refine (qcx ag cg X.length 1 w10 hX (by omega) (by omega) (by have h:=M10.out;have hl:=qc0 1 X.length;obtain ⟨a1,c1,e,s⟩:=h.form;rw [hl] at e;simp only [Value.slice.injEq] at e;obtain ⟨rfl,-,-⟩:=e;exact s)).mono ?_
  rintro e w11 ⟨rfl,rfl⟩
  have hq:¬ (1+(X.length:Int)<0):=by omega
  obtain ⟨-,⟨p0,p1,p2,p3⟩,lt⟩:=X11.out
  go_wp2_with fail
  clear p0 p1 p2 p3 lt
  refine (qbd x W w11 HS.out HA.out X11.out.be).mono ?_
  rintro e w12 ⟨v12,rfl,o12,b12⟩
  obtain ⟨x12,rfl,g12,y12,cp12,nn12⟩:=o12.g3
  have S12:Hid (SysG w12 x12/\x12.y=x.y/\x12.Nn true/\∀ i,i<x12.hn->x12.hL i<=x12.hC i):=⟨g12,y12,nn12,cp12⟩
  have V12:Hid (OwnI w12 w1.heap.size (.slice aw X.length cw) X):=V10.out.below b12
  have M12:Hid (OwnI w12 wB.heap.size (.slice ag X.length cg) (qdx 1 X.length)):=M10.out.below b12
  have X13:Hid (Px W x w12):=X11.out.below b12
  clear b12 X11 V10 M10 o12 g12 y12 cp12 nn12
  go_wp2_with fail
  refine (qe5 x12 z1 z2 w12 S12.out.1 (SysIn.len_of HS.out S12.out.2.1) S12.out.2.2.2 S12.out.2.2.1 ((X13.out.be.cell (p:=⟨0,0,none⟩) HV0.out).trans HV.out)).mono ?_
  rintro e w13 ⟨u13,rfl,o13,b13⟩
  rw [S12.out.2.1,HN.out] at o13
  obtain ⟨ah,ch,rfl,-⟩:=o13.form
  have H13:Hid (OwnI w13 w12.heap.size (.slice ah X.length ch) X):=o13
  have V13:Hid (OwnI w13 w1.heap.size (.slice aw X.length cw) X):=V12.out.below b13
  have M13:Hid (OwnI w13 wB.heap.size (.slice ag X.length cg) (qdx 1 X.length)):=M12.out.below b13
  have X14:Hid (Px W x w13):=X13.out.below b13
  clear b13 X13 V12 M12 o13 S12
  go_wp2_with fail
  refine (qcq ah aw ch cw X w13 hX H13.out.sl V13.out.sl).mono ?_
  rintro e w14 ⟨rfl,b14⟩
  have M14:Hid (OwnI w14 wB.heap.size (.slice ag X.length cg) (qdx 1 X.length)):=M13.out.below b14
  have X15:Hid (Px W x w14):=X14.out.below b14
  clear b14 X14 V13 H13 M13
  go_wp2_with fail
  refine (qcx ag cg X.length 1 w14 hX (by omega) (by omega) (by have h:=M14.out;have hl:=qc0 1 X.length;obtain ⟨a1,c1,e,s⟩:=h.form;rw [hl] at e;simp only [Value.slice.injEq] at e;obtain ⟨rfl,-,-⟩:=e;exact s)).mono ?_
  rintro e w15 ⟨rfl,rfl⟩
  go_wp2
  go_ret
  exact ⟨rfl,X15.out.be⟩
theorem qjh (x:SysIn) (z1 z2:Int) (W:World) (hr:x.Row W) (hm:x.Max) (hs:1048576<x.size):
  Calls Tryz.prog 7 #[sysV x.pa x.pn x.pc x.sa x.sn x.sc x.wa x.wn x.wc x.ha x.hn x.hc,.int .i64 z1,.int .i64 z2] W fun e w'=>e=.returned (.bool true)/\Below W.heap.size W w':=by
 have HR:Hid (x.Row W):=hr
 have HM:Hid x.Max:=hm
 have HS:Hid (1048576<x.size):=hs
 clear hr hm hs
 go_enter Tryz.func7,Tryz.ntmps7
 go_wp2_with fail
 refine (qd0 x _ (HR.out.below (qad _ _)) HM.out HS.out).mono ?_
 rintro e w0 ⟨rfl,b0⟩
 have B0:Hid (Below W.heap.size W w0):=(qad _ _).trans (b0.mono (by simp))
 clear b0
 go_wp2
 go_ret
 exact ⟨rfl,B0.out⟩
theorem qoe (os:Os) (started:os.Started) (H:Type) (enc:TypeId × Value->H):
  ReturnsInHanded {} Tryz.checked os 7 .any (fun w args => (Rows.fnExactUndoneSpec.pre enc Tryz.prog Tryz.f7 [] false w args /\ laidMetH Tryz.prog [("errors.errorType", Rows.laid_errors_errorType)] w) /\ sizedMet enc Tryz.prog Tryz.f7 (OpenSpec.ofChange Rows.fnExactUndoneSpec) false w args)
   (Rows.fnExactUndoneSpec.post enc Tryz.prog Tryz.f7 false true false false):=by
 refine returnsInHanded_of_change_and (C := Tryz.checked) (X := fun w _ => laidMetH Tryz.prog [("errors.errorType", Rows.laid_errors_errorType)] w) (fun _ _ _ hh h => h.of_heap hh) Tryz.own started (by kernel_rfl) Tryz.func7
  (ChangeSpec.witness_at (enc := enc) (C := Tryz.checked) (os := os) (X := fun w _ => laidMetH Tryz.prog [("errors.errorType", Rows.laid_errors_errorType)] w) false (qef os) #[sysV none 0 0 none 0 0 none 0 0 none 0 0, .int .i64 0, .int .i64 0] 8 rfl (by kernel_rfl) (by kernel_rfl) (by kernel_rfl) (by kernel_rfl) (by kernel_rfl) (qc2 os _)) ?_
 intro W base args ds gs before hval0 hW _ _ hL _
 have hval:∀ (j:Nat) t v,Tryz.f7.params[j]? = some t->args[j]? = some v->Value.okWide Tryz.prog W .any base t v:=hval0
 have hW':=hW
 obtain ⟨p,q,hA0,hV,rfl,hfz,hnd⟩:=hW
 have hA:DataW.TrodAll enc Tryz.prog W 0 (fun _=>true) true Tryz.f7.params.toList args.toList ds p:=hA0
 rw [Tryz.params7] at hA hval
 obtain ⟨v0,v1,v2,d0,d1,d2,p0,p1,p2,rfl,rfl,rfl,h0,h1,h2⟩:=trodAll_three hA
 obtain ⟨rfl,rfl⟩:=trodVars_none hV
 obtain ⟨z1,rfl⟩:=okWide_int Tryz.underlying3 (hval 1 3 v1 rfl rfl)
 obtain ⟨z2,rfl⟩:=okWide_int Tryz.underlying3 (hval 2 3 v2 rfl rfl)
 have lt0:∀ x ∈ p0,x.block<W.heap.size:=by obtain ⟨m,hm⟩:=h0;exact DataW.trod_lt m _ _ _ hm
 have lt1:∀ x ∈ p1,x.block<W.heap.size:=by obtain ⟨m,hm⟩:=h1;exact DataW.trod_lt m _ _ _ hm
 have lt2:∀ x ∈ p2,x.block<W.heap.size:=by obtain ⟨m,hm⟩:=h2;exact DataW.trod_lt m _ _ _ hm
 have hg:=qcw hL
 clear hA0 hval0
 have hlaw:Calls Tryz.prog 7 #[v0,.int .i64 z1,.int .i64 z2] W fun e w'=>e=.returned (.bool true)/\Below W.heap.size W w':=by
  obtain ⟨x,e,hr,hm,hy⟩:=qia (hval 0 27 v0 rfl rfl) h0
  by_cases hs:x.size<=1048576
  ·obtain ⟨y,ey,hok,hys⟩:=hy hs
   rw [ey]
   exact qji y z1 z2 W hys hok hg
  ·rw [e]
   exact qjh x z1 z2 W hr hm (by omega)
 refine hlaw.mono fun e W' ⟨he,bel⟩=>?_
 subst he
 exact ⟨_,rfl,_,_,_,[],_,[],hW',trodAll_mk1 (shut_bool Tryz.underlying4 _),(trodAll_cons_mk (Below.trod Tryz.laidOut (by kernel_rfl) (of_decide_eq_true (by kernel_rfl)) h0 bel lt0) (trodAll_cons_mk (Below.trod Tryz.laidOut (by kernel_rfl) (of_decide_eq_true (by kernel_rfl)) h1 bel lt1) (trodAll_cons_mk (Below.trod Tryz.laidOut (by kernel_rfl) (of_decide_eq_true (by kernel_rfl)) h2 bel lt2) trodAll_mk0))),rfl,bel.frame _,fun h=>by cases h⟩
theorem qs9:Rows.FnExactUndoneSaid:=
 OpenClaim.holds_of_wide 7 Tryz.f7 rfl rfl rfl rfl rfl rfl rfl ⟨rfl,rfl,rfl,rfl,rfl⟩ rfl rfl rfl rfl rfl (by kernel_rfl) Tryz.func7 (by kernel_rfl)
  (of_decide_eq_true (by kernel_rfl)) (by unfold Func.isWrapper;first|(rw [if_pos (by decide +kernel)];kernel_rfl)|(rw [if_neg (by decide +kernel)];exact ⟨rfl,rfl⟩))
  (fun os started H enc _=>qoe os started H enc)
theorem qqk (f : FuncId) (fn : Func) (hf : Tryz.pinned.checked.prog.funcNamed "loop.example/g00196/laws.FnExactUndone" = some f) (hfn : Tryz.pinned.checked.prog.funcs[f]? = some fn) :
  true=Tryz.pinned.checked.prog.looks []/\∀ (j:Nat) t,fn.params[j]? = some t->Tryz.pinned.checked.prog.wantsStandIn t=false:=by
 obtain rfl : f = 7 := Option.some.inj ((show Tryz.prog.funcNamed "loop.example/g00196/laws.FnExactUndone" = some 7 by kernel_rfl).symm.trans hf) |>.symm
 obtain rfl:fn=Tryz.f7:=(Option.some.inj (Tryz.func7.symm.trans hfn)).symm
 refine ⟨by kernel_rfl,fun j t ht=>?_⟩
 rw [Tryz.params7] at ht
 have hm:=Array.mem_of_getElem? ht
 simp at hm
 rcases hm with rfl | rfl
 ·exact (show Tryz.prog.wantsStandIn 27=false by kernel_rfl)
 ·exact (show Tryz.prog.wantsStandIn 3=false by kernel_rfl)
theorem undone_card:Rows.FnExactUndoneCardSaid:=
 Claim7.holds_tied_plain_at .later [] _ _ _ _ qs9 (fun _ h=>by cases h) (by kernel_rfl) (fun _ h=>by cases h) fnExactUndone_row_tie rfl ⟨rfl,rfl⟩ (by kernel_rfl) rfl qqk (by kernel_rfl)
