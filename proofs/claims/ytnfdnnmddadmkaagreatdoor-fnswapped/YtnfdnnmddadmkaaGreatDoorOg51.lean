import Derived.Test.YtnfdnnmddadmkaaGreatDoorOg46
import Derived.Test.YtnfdnnmddadmkaaGreatDoorOg45
namespace Go.Proofs.YtnfdnnmddadmkaaGreatDoor
set_option maxRecDepth 100000
set_option maxHeartbeats 4000000
open Go.RowKit Go.Deep
theorem EvAt.put {w:World} {g n:Nat} {E:Nat->E3} (h:EvAt w g 0 n E) (t:Nat) (z:Int):∃ E',EvAt (w.setCell ⟨g,t,none⟩ (.int .i64 z)) g 0 n E':=by
 have key:∀ (o:Nat) (x:Int),w.cell? ⟨g,o,none⟩=some (.int .i64 x)->(w.setCell ⟨g,t,none⟩ (.int .i64 z)).cell? ⟨g,o,none⟩=some (.int .i64 (if o=t then z else x)):=by
  intro o x hx
  by_cases e:o=t
  ·subst e
   rw [if_pos rfl]
   exact World.cell?_setCell_same _ _ _ hx
  ·rw [if_neg e]
   exact (World.cell?_setCell_other _ _ _ _ fun e'=>e (by injection e' with _ e2;exact e2.symm)).trans hx
 refine ⟨fun i=>⟨if 0+i*3=t then z else (E i).k,if 0+i*3+1=t then z else (E i).q,if 0+i*3+2=t then z else (E i).v⟩,fun i hi=>?_⟩
 obtain ⟨h0,h1,h2⟩:=h i hi
 exact ⟨key _ _ h0,key _ _ h1,key _ _ h2⟩
def qgo (E:Nat->E3):Nat->List Value
 | 0=>[]
 | n+1=>qgo E n ++ [.int .i64 (E n).k,.int .i64 (E n).q,.int .i64 (E n).v]
theorem qds (E:Nat->E3):∀ n,(qgo E n).length=n*3
 | 0=>rfl
 | n+1=>by
  rw [qgo,List.length_append,qds E n]
  simp
  omega
theorem qnl (E:Nat->E3):∀ n i,i<n->(qgo E n)[i*3]? = some (.int .i64 (E i).k)/\(qgo E n)[i*3+1]? = some (.int .i64 (E i).q)/\(qgo E n)[i*3+2]? = some (.int .i64 (E i).v)
 | 0,i,hi=>by omega
 | n+1,i,hi=>by
  have hl:=qds E n
  by_cases e:i=n
  ·subst e
   rw [qgo,List.getElem?_append_right (by omega),List.getElem?_append_right (by omega),List.getElem?_append_right (by omega),hl]
   simp
  ·obtain ⟨h0,h1,h2⟩:=qnl E n i (by omega)
   rw [qgo,List.getElem?_append_left (by omega),List.getElem?_append_left (by omega),List.getElem?_append_left (by omega)]
   exact ⟨h0,h1,h2⟩
theorem EvAt.cut {w:World} {g k j:Nat} {E:Nat->E3} (h:EvAt w g 0 k E) (hj:j<k):EvAt (w.setCells g (j*3) (qgo (fun i=>E (j+1+i)) (k - (j+1)))) g 0 (j+(k - (j+1))) (fun i=>if i<j then E i else E (i+1)):=by
 intro i hi
 have hl:=qds (fun i=>E (j+1+i)) (k - (j+1))
 by_cases e:i<j
 ·have hout:∀ t,t<j*3->(w.setCells g (j*3) (qgo (fun i=>E (j+1+i)) (k - (j+1)))).cell? ⟨g,t,none⟩=w.cell? ⟨g,t,none⟩:=fun t ht=>World.cell?_setCells_out g _ _ _ _ fun _ _=>.inl ht
  obtain ⟨h0,h1,h2⟩:=h i (by omega)
  simp only [if_pos e]
  exact ⟨(hout _ (by omega)).trans h0,(hout _ (by omega)).trans h1,(hout _ (by omega)).trans h2⟩
 ·simp only [if_neg e]
  have hall:∀ t,t<(qgo (fun i=>E (j+1+i)) (k - (j+1))).length->(w.cell? ⟨g,j*3+t,none⟩).isSome=true:=by
   intro t ht
   rw [hl] at ht
   obtain ⟨h0,h1,h2⟩:=h (j+t / 3) (by omega)
   have he:t=t / 3*3\/t=t / 3*3+1\/t=t / 3*3+2:=by omega
   rcases he with e | e | e
   ·rw [show j*3+t=0+(j+t / 3)*3 from by omega,h0];rfl
   ·rw [show j*3+t=0+(j+t / 3)*3+1 from by omega,h1];rfl
   ·rw [show j*3+t=0+(j+t / 3)*3+2 from by omega,h2];rfl
  have hin:=fun t ht=>World.cell?_setCells_in g (qgo (fun i=>E (j+1+i)) (k - (j+1))) (j*3) w hall t ht
  obtain ⟨f0,f1,f2⟩:=qnl (fun i=>E (j+1+i)) (k - (j+1)) (i - j) (by omega)
  have hE:E (j+1+(i - j))=E (i+1):=by rw [show j+1+(i - j)=i+1 from by omega]
  rw [hE] at f0 f1 f2
  refine ⟨?_,?_,?_⟩
  ·rw [show 0+i*3=j*3+(i - j)*3 from by omega,hin _ (by omega),<- f0,List.getElem?_eq_getElem (by omega)]
  ·rw [show 0+i*3+1=j*3+((i - j)*3+1) from by omega,hin _ (by omega),<- f1,List.getElem?_eq_getElem (by omega)]
  ·rw [show 0+i*3+2=j*3+((i - j)*3+2) from by omega,hin _ (by omega),<- f2,List.getElem?_eq_getElem (by omega)]
open Go.ChangeShapes Go.WideShapes Go.ChangeAt Go.Sort
theorem qps (a0:Option Addr) (len cap:Nat) (w:World):
  Calls Tryz.prog 7 #[.slice a0 len cap] w fun e w'=>e=.returned (.bool (decide ((1048576:Int)<len)))/\w'=w:=by
 go_enter Tryz.func7,Tryz.ntmps7
 go_wp2
 go_ret
 exact ⟨rfl,rfl⟩
theorem qo7 {H:Type} {enc:TypeId × Value->H} {w:World} {a0:Option Addr} {len cap:Nat} {d:DataW H} {p:List MemPlace}
  (h:DataW.Trod enc Tryz.prog w 0 (fun _=>true) true 22 (.slice a0 len cap) d p):len<=maxLen/\qb5 w w.heap.size a0 len:=by
 obtain ⟨fuel,hf⟩:=h
 rcases open_ints Tryz.underlying22 Tryz.underlying5 (by kernel_rfl) hf with ⟨hcs,_⟩ | ⟨x,l,c,zs,hcs,_,hl,hm,hz,_,hcell,hwz⟩
 ·simp [Value.cells] at hcs
  obtain ⟨_,rfl,_⟩:=hcs
  exact ⟨Nat.zero_le _,.inl rfl⟩
 ·simp [Value.cells] at hcs
  obtain ⟨rfl,rfl,rfl⟩:=hcs
  refine ⟨zP hl hm,?_⟩
  by_cases h0:len=0
  ·exact .inl h0
  right
  have hz':zs.length=cap:=by simpa using hz
  obtain ⟨b,off,rfl,hc⟩:=ints_at hcell (by omega)
  refine ⟨b,off,rfl,qub (hc 0 (by omega)),fun j hj=>⟨zs.getD j 0,hc j (by omega),?_⟩⟩
  have hmem:zs.getD j 0 ∈ zs:=by
   rw [List.getD_eq_getElem?_getD,List.getElem?_eq_getElem (by omega)]
   exact List.getElem_mem _
  exact bounds_u8 (hwz _ hmem)
theorem qls {ops:Array Oper} {rest:List Oper} {op:Oper} {act:Act} {Q:Exit->Act->World->Prop} (w:World) {N:Nat} (hN:N=w.heap.size) (hgd:op.guard=none) (s x:Operand)
  (ho:op.op=.call { callee:=.builtin .append,args:=#[s,x],argTypes:=#[30,30] })
  (b off n c:Nat) (h:Nat->Wo2) (hs:act.eval s=.slice (some ⟨N,0,none⟩) 0 0) (hx:act.eval x=.slice (some ⟨b,off,none⟩) n c) (hb:b<w.heap.size) (hI:WoAt w b off n h) (hn:n<=1048576)
  (hp:∀ v' w',OwV w' w.heap.size v' n h->Below w.heap.size w w'->wpList Tryz.prog ops Q rest (act.put op.dst v') w'):
  wpList Tryz.prog ops Q (op :: rest) act (w.alloc (.cells #[] 37)):=by
 subst hN
 obtain ⟨i0,hi,hz0,hz1,hz2⟩:=qi0
 have hB:Below w.heap.size w (w.alloc (.cells #[] 37)):=zT _ _
 have hnews:∀ j u,(flW h n)[j]? = some u->(w.alloc (.cells #[] 37)).cell? ((⟨b,off,none⟩:Addr).add j)=some u:=by
  intro j u hj
  have hjl:j<(flW h n).length:=by
   rcases Nat.lt_or_ge j (flW h n).length with h | h
   ·exact h
   ·rw [List.getElem?_eq_none h] at hj
    cases hj
  rw [qcj] at hjl
  rw [qpp,(hB.cell (p:=⟨b,off+j,none⟩) hb)]
  obtain ⟨c0,c1⟩:=hI (j / 2) (by omega)
  obtain ⟨f0,f1⟩:=qkp h n (j / 2) (by omega)
  have he:j=j / 2*2\/j=j / 2*2+1:=by omega
  rcases he with e | e
  ·rw [<- e] at f0 c0
   rw [hj] at f0
   rw [c0,f0]
  ·rw [<- e] at f1
   rw [show off+j / 2*2+1=off+j from by omega] at c1
   rw [hj] at f1
   rw [c1,f1]
 obtain ⟨v',w',h1,h2,h3,h4,h5⟩:=run_append_own_at (P:=Tryz.prog) (w.alloc (.cells #[] 37)) w.heap.size 30 op.type 37 i0 (woV 0 0) 2 16 Tryz.underlying30 hi hz0 hz1 hz2 rfl (by decide) (.slice (some ⟨w.heap.size,0,none⟩) 0 0) 0 [] (World.ownsRow_made (base:=w.heap.size) (e:=37) (size:=2) w #[] 0 (Nat.le_refl _) (by unfold maxLen;omega) rfl) ⟨b,off,none⟩ n c (flW h n) (qcj h n) hnews (qmh h n) (by unfold maxLen;omega) (by omega) (by simp)
 refine wpList_plain hgd fun K hK=>?_
 unfold Oper.wp execOp
 simp only [ho,resolve,invoke,builtin,Sem.run_bind,Sem.run_pure,Result.andThen_ok,List.map_toArray,List.map_cons,List.map_nil,hs,hx,h1]
 rw [Nat.zero_add,List.nil_append] at h2
 refine hK _ _ (hp v' w' ?_ ?_)
 ·have hne:v'≠.slice none 0 0:=fun e=>by
   have:=(h4.1 e).1
   simp at this
  obtain ⟨g,cap,cur,rfl,hg,hblk,hc⟩:∃ g cap cur,v'=.slice (some ⟨g,0,none⟩) n cap/\w.heap.size<=g/\w'.heap[g]? = some (.cells cur 37 (0,0))/\True:=by
   rcases h2.2 with ⟨e,_⟩ | ⟨g,cap,cur,e,q1,q2,_⟩
   ·exact absurd e hne
   ·exact ⟨g,cap,cur,e,q1,q2,trivial⟩
  refine ⟨g,cap,rfl,hg,?_,fun i hi=>?_,fun j=>h2.frozenAt j⟩
  ·exact (h2.lt g rfl).2
  ·obtain ⟨f0,f1⟩:=qkp h n i hi
   rw [h2.cellAt _ (by omega),h2.cellAt _ (by omega),Nat.zero_add]
   exact ⟨f0,f1⟩
 ·exact hB.grown h3 (by simp) fun k hk=>by simp [Value.ownBlock] at hk;omega
theorem qgn (x:SysIn) (la:Option Addr) (n lc:Nat) (h:Nat->Wo2) (k:Int) (w:World) (hG:SysG w x) (hL:x.Len) (hcap:∀ i,i<x.hn->x.hL i<=x.hC i) (hW:WoL w la n h) (hn:n<=1048576):
  Calls Tryz.prog 10 #[x.v,.slice la n lc,.int .i64 k] w fun e w'=>∃ v,e=.returned (.tuple #[v,.bool (swB x.y h n k)])/\OwV w' w.heap.size v (swN x.y h n k) (swH h k.toNat)/\Below w.heap.size w w':=by
 have HRo:Hid (∀ t,rwB x.y h n=t->∀ wx,Below w.heap.size w wx->Calls Tryz.prog 15 #[x.v,.slice la n lc] wx fun e w'=>e=.returned (.bool t)/\Below wx.heap.size wx w'):=fun t ht wx hb=>by
  rw [<- ht]
  exact qjl x la n lc h wx (hG.below hb) hL hcap (hW.below hb) hn
 have HSd:Hid (∀ a b c d t,sdB x.y a b c d=t->∀ wx,Below w.heap.size w wx->Calls Tryz.prog 42 #[x.v,.int .i64 a,.int .i64 b,.int .i64 c,.int .i64 d] wx fun e w'=>e=.returned (.bool t)/\Below wx.heap.size wx w'):=fun a b c d t ht wx hb=>by
  rw [<- ht]
  exact qlj x a b c d wx (hG.below hb) hL hcap
 have HW:Hid (∀ wx,Below w.heap.size w wx->WoL wx la n h):=fun wx hb=>hW.below hb
 have HEm:Hid (swB x.y h n k=false->∀ wx,Below w.heap.size w wx->OwV (wx.alloc (.cells #[] 37)) w.heap.size (.slice (some ⟨wx.heap.size,0,none⟩) 0 0) (swN x.y h n k) (swH h k.toNat)/\Below w.heap.size w (wx.alloc (.cells #[] 37))):=fun hf wx hb=>by
  refine ⟨?_,hb.trans ((zT _ _).mono hb.size)⟩
  rw [show swN x.y h n k=0 by unfold swN;rw [hf];rfl]
  exact (OwR.empty wx _).v.mono hb.size
 have hn':(n:Int)<=1048576:=by omega
 have B0:Hid (Below w.heap.size w (w.alloc (oQ4 x.pa x.pn x.pc x.sa x.sn x.sc x.wa x.wn x.wc x.ha x.hn x.hc))/\BoxC (w.alloc (oQ4 x.pa x.pn x.pc x.sa x.sn x.sc x.wa x.wn x.wc x.ha x.hn x.hc)) w.heap.size (.slice x.pa x.pn x.pc) (.slice x.sa x.sn x.sc) (.slice x.wa x.wn x.wc) (.slice x.ha x.hn x.hc)):=⟨zT _ _,BoxC.new w _ _ _ _ _⟩
 clear hG hL hcap hW
 go_enter Tryz.func10,Tryz.ntmps10
 go_upto_region 1 with fail
 generalize w.alloc (oQ4 x.pa x.pn x.pc x.sa x.sn x.sc x.wa x.wn x.wc x.ha x.hn x.hc)=W1 at *
 obtain ⟨k0,k1,k2,k3⟩:=B0.out.2
 have k0':=cell_regrown k0
 have k1':=cell_regrown k1
 have k2':=cell_regrown k2
 have k3':=cell_regrown k3
 have HBr:Hid (∀ dd os,Below w.heap.size w (grow (redrawn W1 dd) os)):=fun dd os=>B0.out.1.trans ((below_regrown W1 dd os).mono B0.out.1.size)
 cases hr:rwB x.y h n with
 | false=>
  have HF:Hid (swB x.y h n k=false):=by
   show swB x.y h n k=false
   unfold swB
   rw [hr,Bool.and_false]
   rfl
  refine wp_region_quiet_below (by kernel_rfl) (by kernel_rfl) ?_
  repeat (first | go_big_quiet_skip | quiet_step (first|(go_at_call 15;exact Calls.regrown_of (HRo.out false hr _ (HBr.out _ _)))))
  refine wpQuiet_nil ?_
  intro _ hw'
  obtain ⟨⟨dq,osq⟩,hw''⟩:=hw'
  subst hw''
  have HE:=HEm.out HF.out _ (HBr.out dq osq)
  generalize grow (redrawn W1 dq) osq=w2 at *
  clear k0 k1 k2 k3 k0' k1' k2' k3'
  go_wp2
  refine bodyPost_ret (v:=.tuple #[.slice (some ⟨w2.heap.size,0,none⟩) 0 0,.bool false]) (by simp [results,Tryz.results10,go_sem]) rfl ⟨_,by rw [HF.out],HE⟩
 | true=>
  have hw2:IntKind.i64.wrap ((n:Int) - 2)=(n:Int) - 2:=by rw [IntKind.wrap_i64];omega
  cases hb:belB k ((n:Int) - 1) with
  | false=>
   have HF:Hid (swB x.y h n k=false):=by
    show swB x.y h n k=false
    unfold swB
    rw [hb]
    rfl
   have HIn:Hid (∀ wx,Calls Tryz.prog 41 #[.int .i64 k,.int .i64 0,.int .i64 (IntKind.i64.wrap ((n:Int) - 2))] wx fun e w'=>e=.returned (.bool false)/\w'=wx):=fun wx=>by
    have h9:=l1In_any k 0 ((n:Int) - 2) wx
    rw [hw2]
    rwa [show inB k 0 ((n : Int) - 2) = false by
     have h8:¬ (0<=k/\k<(n:Int) - 1):=by simpa [belB] using hb
     simp only [inB,decide_eq_false_iff_not]
     omega] at h9
   clear hw2
   refine wp_region_quiet_below (by kernel_rfl) (by kernel_rfl) ?_
   repeat (first | go_big_quiet_skip | quiet_step (first|(go_at_call 15;exact Calls.regrown_of (HRo.out true hr _ (HBr.out _ _)))|(go_at_call 41;exact Calls.regrown_same (HIn.out _))))
   refine wpQuiet_nil ?_
   intro _ hw'
   obtain ⟨⟨dq,osq⟩,hw''⟩:=hw'
   subst hw''
   have HE:=HEm.out HF.out _ (HBr.out dq osq)
   generalize grow (redrawn W1 dq) osq=w2 at *
   clear k0 k1 k2 k3 k0' k1' k2' k3'
   go_wp2
   refine bodyPost_ret (v:=.tuple #[.slice (some ⟨w2.heap.size,0,none⟩) 0 0,.bool false]) (by simp [results,Tryz.results10,go_sem]) rfl ⟨_,by rw [HF.out],HE⟩
  | true=>
   have hb9:0<=k/\k<(n:Int) - 1:=by simpa [belB] using hb
   obtain ⟨K,rfl⟩:∃ K:Nat,k=K:=⟨k.toNat,by omega⟩
   have hK:K+1<n:=by omega
   have hK1:(K:Int)<(n:Int):=by omega
   have hK2:(K:Int)+1<(n:Int):=by omega
   have hTn:Hid (((K:Nat):Int).toNat=K):=Int.toNat_natCast K
   have HIn:Hid (∀ wx,Calls Tryz.prog 41 #[.int .i64 (K:Nat),.int .i64 0,.int .i64 (IntKind.i64.wrap ((n:Int) - 2))] wx fun e w'=>e=.returned (.bool true)/\w'=wx):=fun wx=>by
    have h9:=l1In_any (K:Nat) 0 ((n:Int) - 2) wx
    rw [hw2]
    rwa [show inB (K : Nat) 0 ((n : Int) - 2) = true by
     simp only [inB,decide_eq_true_eq]
     omega] at h9
   have hwk:IntKind.i64.wrap ((K:Int)+1)=((K+1:Nat):Int):=by rw [IntKind.wrap_i64];omega
   have hK3:((K+1:Nat):Int)<(n:Int):=by omega
   have hK0:(0:Int)<=(K:Int)+1:=by omega
   clear hw2
   obtain ⟨b,off,rfl,zb,c0,c1⟩:=(HW.out W1 B0.out.1).at (show K<n by omega)
   obtain ⟨b',off',e',zb',d0,d1⟩:=(HW.out W1 B0.out.1).at hK
   obtain ⟨rfl,rfl⟩:b=b'/\off=off':=by simpa using e'
   have c0':=cell_regrown c0
   have c1':=cell_regrown c1
   have d0':=cell_regrown d0
   have d1':=cell_regrown d1
   clear e' zb'
   cases hd:sdB x.y (h K).m (h K).v (h (K+1)).m (h (K+1)).v with
   | false=>
    have HF:Hid (swB x.y h n K=false):=by
     show swB x.y h n K=false
     unfold swB
     rw [Int.toNat_natCast,hd,Bool.and_false]
    refine wp_region_quiet_below (by kernel_rfl) (by kernel_rfl) ?_
    repeat (first | go_big_quiet_skip | quiet_step (first|(go_at_call 15;exact Calls.regrown_of (HRo.out true hr _ (HBr.out _ _)))|(go_at_call 41;exact Calls.regrown_same (HIn.out _))|(go_at_call 42;exact Calls.regrown_of (HSd.out _ _ _ _ false hd _ (HBr.out _ _)))))
    refine wpQuiet_nil ?_
    intro _ hw'
    obtain ⟨⟨dq,osq⟩,hw''⟩:=hw'
    subst hw''
    have HE:=HEm.out HF.out _ (HBr.out dq osq)
    generalize grow (redrawn W1 dq) osq=w2 at *
    clear k0 k1 k2 k3 k0' k1' k2' k3' c0 c1 d0 d1 c0' c1' d0' d1' hwk
    go_wp2
    refine bodyPost_ret (v:=.tuple #[.slice (some ⟨w2.heap.size,0,none⟩) 0 0,.bool false]) (by simp [results,Tryz.results10,go_sem]) rfl ⟨_,by rw [HF.out],HE⟩
   | true=>
    have HF:Hid (swB x.y h n K=true/\swN x.y h n K=n):=by
     have h9:swB x.y h n K=true:=by
      unfold swB
      rw [Int.toNat_natCast,hd,hb,hr]
      rfl
     exact ⟨h9,if_pos h9⟩
    refine wp_region_quiet_below (by kernel_rfl) (by kernel_rfl) ?_
    repeat (first | go_big_quiet_skip | quiet_step (first|(go_at_call 15;exact Calls.regrown_of (HRo.out true hr _ (HBr.out _ _)))|(go_at_call 41;exact Calls.regrown_same (HIn.out _))|(go_at_call 42;exact Calls.regrown_of (HSd.out _ _ _ _ true hd _ (HBr.out _ _)))))
    refine wpQuiet_nil ?_
    intro _ hw'
    obtain ⟨⟨dq,osq⟩,hw''⟩:=hw'
    subst hw''
    have B2:Hid (Below w.heap.size w (grow (redrawn W1 dq) osq)):=HBr.out dq osq
    generalize grow (redrawn W1 dq) osq=w2 at *
    clear k0 k1 k2 k3 k0' k1' k2' k3' c0 c1 d0 d1 c0' c1' d0' d1' hwk zb HIn HBr HEm
    obtain ⟨b9,off9,e9,zb,hat⟩:∃ b9 off9,some (⟨b,off,none⟩:Addr)=some ⟨b9,off9,none⟩/\b9<w2.heap.size/\WoAt w2 b9 off9 n h:=by
     rcases HW.out w2 B2.out with h9 | h9
     ·omega
     ·exact h9
    obtain ⟨rfl,rfl⟩:b=b9/\off=off9:=by simpa using e9
    have HA:Hid (WoAt w2 b off n h/\b<w2.heap.size):=⟨hat,zb⟩
    clear e9 hat
    go_upto_region 4 with (at_builtin;refine qls w2 rfl rfl _ _ rfl b off n lc h rfl rfl HA.out.2 HA.out.1 hn ?_;intro v' w3 o3 b3;obtain ⟨g,cg,rfl,gB,gl,ga,gf⟩:=o3;have HO3:Hid (OwV w3 w2.heap.size (.slice (some ⟨g,0,none⟩) n cg) n h/\Below w2.heap.size w2 w3):=⟨⟨g,cg,rfl,gB,gl,ga,gf⟩,b3⟩)
    have hat3:=HA.out.1.below b3 HA.out.2
    obtain ⟨c0,c1⟩:=hat3 K (by omega)
    obtain ⟨d0,d1⟩:=hat3 (K+1) hK
    obtain ⟨a0,a1⟩:=ga K (by omega)
    obtain ⟨a2,a3⟩:=ga (K+1) hK
    rw [Nat.zero_add] at a0 a1 a2 a3
    have hgb:b≠g:=by have:=HA.out.2;omega
    have hle:w.heap.size<=w2.heap.size:=B2.out.size
    have cz:∀ (W:World) (j:Nat) (u:Value) (D:Nat),D≠g->∀ t,(W.setCell ⟨g,j,none⟩ u).cell? ⟨D,t,none⟩=W.cell? ⟨D,t,none⟩:=fun W j u D hD t=>World.cell?_setCell_other _ _ _ _ (by intro e;injection e with e;exact hD e.symm)
    have cy:∀ (W:World) (i t:Nat) (u:Value),i≠t->(W.setCell ⟨g,i,none⟩ u).cell? ⟨g,t,none⟩=W.cell? ⟨g,t,none⟩:=fun W i t u hit=>World.cell?_setCell_other _ _ _ _ (by intro e;injection e with _ e;exact hit e)
    have c0':((w3.setCell ⟨g,K*2,none⟩ (.int .i64 (h (K+1)).m)).setCell ⟨g,K*2+1,none⟩ (.int .i64 (h (K+1)).v)).cell? ⟨b,off+K*2,none⟩=some (.int .i64 (h K).m):=by rw [cz _ _ _ _ hgb,cz _ _ _ _ hgb];exact c0
    have c1':((w3.setCell ⟨g,K*2,none⟩ (.int .i64 (h (K+1)).m)).setCell ⟨g,K*2+1,none⟩ (.int .i64 (h (K+1)).v)).cell? ⟨b,off+K*2+1,none⟩=some (.int .i64 (h K).v):=by rw [cz _ _ _ _ hgb,cz _ _ _ _ hgb];exact c1
    have a2':((w3.setCell ⟨g,K*2,none⟩ (.int .i64 (h (K+1)).m)).setCell ⟨g,K*2+1,none⟩ (.int .i64 (h (K+1)).v)).cell? ⟨g,(K+1)*2,none⟩=some (.int .i64 (h (K+1)).m):=by rw [cy _ _ _ _ (by omega),cy _ _ _ _ (by omega)];exact a2
    have a3':((w3.setCell ⟨g,K*2,none⟩ (.int .i64 (h (K+1)).m)).setCell ⟨g,K*2+1,none⟩ (.int .i64 (h (K+1)).v)).cell? ⟨g,(K+1)*2+1,none⟩=some (.int .i64 (h (K+1)).v):=by rw [cy _ _ _ _ (by omega),cy _ _ _ _ (by omega)];exact a3
    have f':∀ t,((w3.setCell ⟨g,K*2,none⟩ (.int .i64 (h (K+1)).m)).setCell ⟨g,K*2+1,none⟩ (.int .i64 (h (K+1)).v)).frozen? ⟨g,t,none⟩=false:=fun t=>by rw [World.frozen?_setCell,World.frozen?_setCell];exact gf t
    have h4:=qmb (w:=w3) (g:=g) (a0:=K*2) (a1:=K*2+1) (a2:=(K+1)*2) (a3:=(K+1)*2+1) (u0:=.int .i64 (h (K+1)).m) (u1:=.int .i64 (h (K+1)).v) (u2:=.int .i64 (h K).m) (u3:=.int .i64 (h K).v) (by omega) (by omega) (by omega) (by omega) (by omega) (by omega) (by rw [a0];rfl) (by rw [a1];rfl) (by rw [a2];rfl) (by rw [a3];rfl)
    have HEnd:Hid (OwV ((((w3.setCell ⟨g,K*2,none⟩ (.int .i64 (h (K+1)).m)).setCell ⟨g,K*2+1,none⟩ (.int .i64 (h (K+1)).v)).setCell ⟨g,(K+1)*2,none⟩ (.int .i64 (h K).m)).setCell ⟨g,(K+1)*2+1,none⟩ (.int .i64 (h K).v)) w.heap.size (.slice (some ⟨g,0,none⟩) n cg) (swN x.y h n K) (swH h ((K:Nat):Int).toNat)/\Below w.heap.size w ((((w3.setCell ⟨g,K*2,none⟩ (.int .i64 (h (K+1)).m)).setCell ⟨g,K*2+1,none⟩ (.int .i64 (h (K+1)).v)).setCell ⟨g,(K+1)*2,none⟩ (.int .i64 (h K).m)).setCell ⟨g,(K+1)*2+1,none⟩ (.int .i64 (h K).v))):=by
     obtain ⟨r0,r1,r2,r3,ro,rf,rs,rt⟩:=h4
     have bw:Below w.heap.size w w3:=B2.out.trans (b3.mono hle)
     refine ⟨?_,bw.trans (rt.below bw.size fun c e=>by have e:c=g:=e;omega)⟩
     rw [HF.out.2,hTn.out]
     exact (HO3.out.1.put2 (h':=swH h K) hK (qjo h K) (qjp h K) (qjq h K) _ rs rf r0 r1 r2 r3 ro).mono hle
    clear h4 hat3 ga HO3 HA b3 B2 cz cy
    go_upto_region 5 with fail
    clear c0 c1 d0 d1 a0 a1 a2 a3 gf
    generalize ((w3.setCell ⟨g,K*2,none⟩ (.int .i64 (h (K+1)).m)).setCell ⟨g,K*2+1,none⟩ (.int .i64 (h (K+1)).v))=w5 at *
    go_wp2
    refine bodyPost_ret (v:=.tuple #[.slice (some ⟨g,0,none⟩) n cg,.bool true]) (by simp [results,Tryz.results10,go_sem]) rfl ⟨_,by rw [HF.out.1],HEnd.out⟩
