import Derived.Test.YtkdablcbhhphoaaGreatDoorMt11
import Derived.Deep.RegionHeld3
namespace Go.Proofs.YtkdablcbhhphoaaGreatDoor
open Go.Proofs.Tryz
set_option maxRecDepth 100000
set_option maxHeartbeats 1000000
open Go.RowKit
theorem qtq {w:World} {b:Nat} (o:Obj) (j:Nat) (h:b<w.heap.size):(w.alloc o).frozen? ⟨b,j,none⟩=w.frozen? ⟨b,j,none⟩:=zI (Below.heap_alloc w o b h)
theorem qn3 (b off len cap:Nat) (g:Nat->I5) (k:Nat) (ra oa:Option Addr) (rc oc:Nat) (r0 r1 r2 r3:Int) (os:List Int) (w:World) (hlen:len<=maxLen) (hb:b<w.heap.size) (hI:qao w b off len g) (ho:os.length<=1048576) (h1:Sl w ra [r0,r1,r2,r3]) (h2:Sl w oa os) (hk:k<len) (t1:qdb len (k:Int) [r0,r1,r2,r3] os 0=true) (t2:qac g len 4=true):
  Calls prog 109 #[.slice (some ⟨b,off,none⟩) len cap,stV k ra 4 rc oa os.length oc 0] w (rB w (evV (evK (g k).o) (evP (g k).o (g k).n) (evW (g k).o (g k).a [r0,r1,r2,r3]))):=by
 have HI:Hid (qao w b off len g):=hI;have H1:Hid (Sl w ra [r0,r1,r2,r3]):=h1;have H2:Hid (Sl w oa os):=h2;have HL:Hid (len<=maxLen):=hlen;have hr:=qce (qbw t2 hk);have hk':(k:Int)<(len:Int):=by omega
 have hl':(len:Int)<=9223372036854775807:=by have:=HL.out;unfold maxLen at this;omega
 clear hI h1 h2 hlen
 go_enter func109,ntmps109
 go_wp2_with fail
 refine (qd1 _ _ _ _ _ _ _ _ _ [r0,r1,r2,r3] os _ ho (H1.bw (by go_grown)) (H2.bw (by go_grown))).mono ?_;rintro e w1 ⟨rfl,b1⟩;have B1:Hid (Below w.heap.size w w1):=qai (by go_grown) b1 (by simp;omega);have y1:w.heap.size+1<w1.heap.size:=by have:=b1.size;simp at this;omega
 have y0:w.heap.size<w1.heap.size:=by omega
 obtain ⟨hc1,hf1⟩:=qap b1;clear b1;go_wp2_with fail
 refine (qcf ra rc [r0,r1,r2,r3] _ (H1.bw B1.out)).mono ?_;rintro e w3 ⟨⟨q0,q1,q2,q3,rfl,hq⟩,b3⟩;have hq':=hq rfl;simp only [List.cons.injEq,and_true] at hq';obtain ⟨rfl,rfl,rfl,rfl⟩:=hq';have B3:Hid (Below w.heap.size w w3):=B1.trans (b3.mono B1.size);obtain ⟨hc3,hf3⟩:=qap b3;have z1:w.heap.size+1<w3.heap.size:=by have:=b3.size;omega
 have z0:w.heap.size<w3.heap.size:=by omega
 clear b3 B1 hq;go_wp2_with fail
 have B4:Hid (Below w.heap.size w (w3.alloc (.cells #[.int .i64 r0,.int .i64 r1,.int .i64 r2,.int .i64 r3] 203))):=B3.alloc (by omega) _;generalize hW:w3.alloc (.cells #[.int .i64 r0,.int .i64 r1,.int .i64 r2,.int .i64 r3] 203)=W at *;have lr:w3.heap.size<W.heap.size:=by rw [<- hW];simp
 have k0:W.cell? ⟨w3.heap.size,0,none⟩=some (.int .i64 r0):=by rw [<- hW];simp
 have k1:W.cell? ⟨w3.heap.size,1,none⟩=some (.int .i64 r1):=by rw [<- hW];simp
 have k2:W.cell? ⟨w3.heap.size,2,none⟩=some (.int .i64 r2):=by rw [<- hW];simp
 have k3:W.cell? ⟨w3.heap.size,3,none⟩=some (.int .i64 r3):=by rw [<- hW];simp
 have s0:W.cell? ⟨w.heap.size,0,none⟩=some (.int .i64 k):=by rw [<- hW,zQ _ _ z0,hc3 _ _ y0,hc1 _ _ (by simp;omega)];simp
 have e0:W.cell? ⟨w.heap.size+1,0,none⟩=some (.int .i64 0):=by rw [<- hW,zQ _ _ z1,hc3 _ _ y1,hc1 _ _ (by simp)];simp
 have e1:W.cell? ⟨w.heap.size+1,1,none⟩=some (.int .i64 0):=by rw [<- hW,zQ _ _ z1,hc3 _ _ y1,hc1 _ _ (by simp)];simp
 have e2:W.cell? ⟨w.heap.size+1,2,none⟩=some (.int .i64 0):=by rw [<- hW,zQ _ _ z1,hc3 _ _ y1,hc1 _ _ (by simp)];simp
 have f0:∀ j,W.frozen? ⟨w.heap.size+1,j,none⟩=false:=fun j=>by rw [<- hW,qtq _ _ z1,hf3 _ _ y1,hf1 _ _ (by simp)];simp
 have l0:w.heap.size<W.heap.size:=by omega
 have l1:w.heap.size+1<W.heap.size:=by omega
 have lb:b<W.heap.size:=by omega
 clear hc1 hf1 hc3 hf3 hW B3 y0 y1 z0 z1;obtain ⟨c0,c1,c2,c3,c4⟩:=HI.bw B4.out hb k hk;obtain ⟨⟨o1,o11⟩,-,⟨a0,a3⟩,-⟩:=hr
 first|(go_region_with (first|(go_at_call 165;refine (qlw _ _ _ _ _ _ o1 o11).mono ?_;rintro e w5 ⟨rfl,b5'⟩;have b5:Below W.heap.size W w5:=(nE W.heap.size W).drew.trans b5';obtain ⟨hc5,hf5⟩:=qap b5;have B5:Hid (Below w.heap.size w w5):=B4.trans (b5.mono B4.size);have l5:w.heap.size+1<w5.heap.size:=zL l1 b5.size;clear b5 b5')|(go_at_call 164;refine (qkz _ _ _ _ _ _ _ _ _ _ o1 o11 a0 a3).mono ?_;rintro e w6 ⟨rfl,b6⟩;obtain ⟨hc6,hf6⟩:=qap b6;have B6:Hid (Below w.heap.size w w6):=B5.trans (b6.mono B5.size);clear b6))) | fail
 all_goals
  go_wp2;refine bodyPost_ret (v:=evV (evK (g k).o) (evP (g k).o (g k).n) (evW (g k).o (g k).a [r0,r1,r2,r3])) (by simp [results,results109,go_sem,hc6,hc5,l5,l1,e0,e1,e2]) rfl ⟨rfl,?_⟩;have:=B6.out
  go_grown
theorem qj6 (b off len cap:Nat) (g:Nat->I5) (p code:Int) (ra oa:Option Addr) (rc oc:Nat) (rs os:List Int) (w:World) (hlen:len<=maxLen) (hb:b<w.heap.size) (hI:qao w b off len g) (ho:os.length<=1048576) (h1:Sl w ra rs) (h2:Sl w oa os) (t2:qac g len 4=true):
  Calls prog 109 #[.slice (some ⟨b,off,none⟩) len cap,stV p ra rs.length rc oa os.length oc code] w (rB w (evV (nxK g len p rs os code) (nxP g len p rs os code) (nxW g len p rs os code))):=by
 rcases zK (qcj g len p rs os code) with hr | hr
 ·obtain ⟨h3,h4,rfl⟩:=qbe hr
  obtain ⟨⟨r0,r1,r2,r3,rfl,_⟩,⟨k,rfl,hk⟩,_⟩:=qco h4;rw [qto hr];exact qn3 b off len cap g k ra oa rc oc r0 r1 r2 r3 os w hlen hb hI ho h1 h2 hk h4 h3
 ·rw [qtp hr]
  exact qn4 b off len cap g p code ra oa rc oc rs os w ho h1 h2 t2 hr
open Go
section
variable {P:Program} {ops:Array Oper} {Q:Exit->Act->World->Prop} {md:Region.Mode} {S:World->Prop} {G:Nat->Bool}
def wpG (P:Program) (md:Region.Mode) (ops:Array Oper) (Q:Exit->Act->World->Prop) (S:World->Prop) (G:Nat->Bool):Nat->Array Bool->Act->World->Prop
 | 0,listed,a,w=>Region.ready md ops listed=[]/\Q .normal a w
 | fuel+1,listed,a,w=>(Region.ready md ops listed=[]->Q .normal a w)/\∀ i ∈ Region.ready md ops listed,wpOp P ops Q i (fun a' w'=>(S w->G i=false->S w')/\wpG P md ops Q S G fuel (listed.setIfInBounds i true) a' w') a w
theorem qj9:∀ (fuel:Nat) (listed:Array Bool) (a:Act) (w:World),wpG P md ops Q S G fuel listed a w->wpAny P md ops Q fuel listed a w
 | 0,_,_,_,h=>h
 | fuel+1,_,_,_,h=>⟨h.1,fun i hi=>wpOp_mono (fun a' w' h'=>qj9 fuel _ a' w' h'.2) (h.2 i hi)⟩
def quc (md:Region.Mode) (ops:Array Oper) (G:Nat->Bool) (listed:Array Bool) (i:Nat):Bool:=
 (List.range ops.size).all fun j=>!G j || listed.getD j true || match ops[j]? with
  | some oj=>oj.after.any fun e=>Region.binds md e && e.on == i
  | none=>true
theorem qud {listed:Array Bool} {i:Nat} (h:quc md ops G listed i=true) {j:Nat} {oj:Oper} (hj:ops[j]? = some oj) (hg:G j=true) (hu:listed.getD j true=false):∃ e ∈ oj.after,Region.binds md e=true/\e.on=i:=by
 simp only [quc,List.all_eq_true,List.mem_range] at h;have h1:=h j (Array.getElem?_eq_some_iff.1 hj).1;simp only [hj,hg,hu,Bool.not_true,Bool.false_or] at h1;obtain ⟨e,he,hb⟩:=Array.any_eq_true'.1 h1;simp only [nH,beq_iff_eq] at hb;exact ⟨e,he,hb.1,hb.2⟩
theorem qv9 {i:Nat} {oi:Oper} {v:Value} (hi:ops[i]? = some oi) (hsel:∀ (j:Nat) (o:Oper) cs b,ops[j]? = some o->o.op≠.select cs b)
  (hQ:∀ c a w,Q (.panic c) (a.put oi.dst v) w->Q (.panic c) a w):
  ∀ (fuel:Nat) (listed:Array Bool) (a:Act) (w:World),
   (∀ j oj,ops[j]? = some oj->j≠i->listed.getD j true=false->(∀ e ∈ oj.after,Region.binds md e=true->e.on≠i)->oi.apart ops oj=true)->
   (∀ j oj,ops[j]? = some oj->G j=true->listed.getD j true=false->∃ e ∈ oj.after,Region.binds md e=true/\e.on=i)->
   i ∈ Region.ready md ops listed->YieldsIf P ops S oi v a->S w->
   wpG P md ops Q S G fuel (listed.setIfInBounds i true) (a.put oi.dst v) w->wpG P md ops Q S G (fuel+1) listed a w:=by
 intro fuel
 induction fuel with
 | zero=>
  intro listed a w _ _ hr hy hS H;refine ⟨fun h=>(by rw [h] at hr;cases hr),fun j hj=>?_⟩;by_cases hji:j=i
  ·subst hji
   exact hy.wpOp hi hS ⟨fun _ _=>hS,H⟩
  ·have:=ready_mono hj hji
   rw [H.1] at this;cases this
 | succ fuel ih=>
  intro listed a w hfree hG hr hy hS H;refine ⟨fun h=>(by rw [h] at hr;cases hr),fun j hj=>?_⟩;by_cases hji:j=i
  ·subst hji
   exact hy.wpOp hi hS ⟨fun _ _=>hS,H⟩
  ·obtain ⟨hjun,oj,hoj,hall⟩:=mem_ready.1 hj
   have hiun:=(mem_ready.1 hr).1
   have hnot:∀ e ∈ oj.after,Region.binds md e=true->e.on≠i:=fun e he hb heq=>by
    have h1:=hall e he hb;rw [heq] at h1
    rcases Nat.lt_or_ge i listed.size with h' | h'
    ·simp [h'] at hiun h1
     rw [hiun] at h1;cases h1
    ·simp [Array.getElem?_eq_none h'] at h1
   have hGj:G j=false:=by
    cases hg:G j with
    | false=>rfl
    | true=>
     obtain ⟨e,he,hb,heq⟩:=hG j oj hoj hg hjun;exact absurd heq (hnot e he hb)
   have h2:=wpOp_putIf hoj (hfree j oj hoj hji hjun hnot) (fun cs b=>hsel i oi cs b hi) (fun cs b=>hsel j oj cs b hoj) hQ hy (H.2 j (ready_mono hj hji))
   have hun':∀ k,(listed.setIfInBounds j true).getD k true=false->listed.getD k true=false:=fun k hk=>by
    by_cases hjk:j=k
    ·subst hjk
     exact hjun
    ·rw [_root_.Go.getD_set_ne true hjk] at hk
     exact hk
   refine wpOp_mono (fun a' w' h3=>⟨h3.2.1,ih (listed.setIfInBounds j true) a' w' (fun k ok hk hki hun hno=>hfree k ok hk hki (hun' k hun) hno) (fun k ok hk hg hun=>hG k ok hk hg (hun' k hun)) (ready_mono hr (Ne.symm hji)) h3.1 (h3.2.1 hS hGj) ?_⟩) h2;rw [Array.setIfInBounds_comm _ _ hji];exact h3.2.2
theorem qsb (i:Nat) {oi:Oper} {fuel:Nat} {listed:Array Bool} {a:Act} {w:World} (hi0:ops.toList[i]? = some oi) (hS:S w)
  (h:∃ v,(∀ w,S w->(execOp a.eval oi).run P w=.ok (.value v) w)/\wpG P md ops Q S G fuel (listed.setIfInBounds i true) (a.put oi.dst v) w) (hs:Region.noSelect ops=true:=by kernel_rfl) (hf:Region.free md ops listed i=true:=by kernel_rfl) (hr:(Region.ready md ops listed).contains i=true:=by kernel_rfl) (hg:quc md ops G listed i=true:=by kernel_rfl)
  (hQ:∀ v c a w,Q (.panic c) (a.put oi.dst v) w->Q (.panic c) a w:=by exact fun _ _ _ _ h=>h) (hw:Region.wanted oi (yielded ops a.tmps)=true:=by rfl):wpG P md ops Q S G (fuel+1) listed a w:=by
 obtain ⟨v,hv,h⟩:=h;have hi:ops[i]? = some oi:=by rw [<- Array.getElem?_toList];exact hi0
 exact qv9 hi (Region.noSelect_spec hs) (hQ v) fuel listed a w (Region.free_spec hi hf) (fun j oj hj hgj hu=>qud hg hj hgj hu) (by simpa using hr) (.inl ⟨hw,hv⟩) hS h
theorem qgu (i:Nat) {oi:Oper} {fuel:Nat} {listed listed':Array Bool} {a a':Act} {w:World} {v:Value} (hi0:ops.toList[i]? = some oi) (hS:S w)
  (h:wpG P md ops Q S G fuel listed' a' w) (hv:∀ w,S w->(execOp a.eval oi).run P w=.ok (.value v) w:=by (intro wq hSw;(try dsimp only at hSw);(try dsimp only [SysIn.bX] at hSw);(try dsimp only [BoxC] at hSw);(try simp only [BoxS] at hSw);(try simp only [BoxF_iff] at hSw);go_simp;try with_reducible rfl)) (ha:a.put oi.dst v=a':=by ((try simp only [Act.put,zD,zE,zF]);try with_reducible rfl)) (hl:listed.setIfInBounds i true=listed':=by with_reducible rfl) (hs:Region.noSelect ops=true:=by kernel_rfl) (hf:Region.free md ops listed i=true:=by kernel_rfl) (hr:(Region.ready md ops listed).contains i=true:=by kernel_rfl) (hg:quc md ops G listed i=true:=by kernel_rfl)
  (hQ:∀ v c a w,Q (.panic c) (a.put oi.dst v) w->Q (.panic c) a w:=by exact fun _ _ _ _ h=>h) (hw:Region.wanted oi (yielded ops a.tmps)=true:=by rfl):wpG P md ops Q S G (fuel+1) listed a w:=by
 subst ha hl;exact qsb i hi0 hS ⟨v,hv,h⟩ hs hf hr hg hQ hw
def wpGT (P:Program) (md:Region.Mode) (ops:Array Oper) (Q:Exit->Act->World->Prop) (S:World->Prop) (G:Nat->Bool) (_:List Nat) (fuel:Nat) (listed:Array Bool) (a:Act) (w:World):Prop:=wpG P md ops Q S G fuel listed a w
theorem qcn (is:List Nat) {fuel:Nat} {listed:Array Bool} {a:Act} {w:World} (h:wpGT P md ops Q S G is fuel listed a w):wpG P md ops Q S G fuel listed a w:=h
theorem qb0 {fuel:Nat} {listed:Array Bool} {a:Act} {w:World} (h:wpG P md ops Q S G fuel listed a w):wpGT P md ops Q S G [] fuel listed a w:=h
theorem qzn {i:Nat} {is:List Nat} {oi:Oper} {fuel:Nat} {listed:Array Bool} {a:Act} {w:World} (hi0:ops.toList[i]? = some oi) (hS:S w)
  (h:∃ v,(∀ w,S w->(execOp a.eval oi).run P w=.ok (.value v) w)/\wpGT P md ops Q S G is fuel (listed.setIfInBounds i true) (a.put oi.dst v) w) (hs:Region.noSelect ops=true:=by kernel_rfl) (hf:Region.free md ops listed i=true:=by kernel_rfl) (hr:(Region.ready md ops listed).contains i=true:=by kernel_rfl) (hg:quc md ops G listed i=true:=by kernel_rfl)
  (hQ:∀ v c a w,Q (.panic c) (a.put oi.dst v) w->Q (.panic c) a w:=by exact fun _ _ _ _ h=>h) (hw:Region.wanted oi (yielded ops a.tmps)=true:=by rfl):wpGT P md ops Q S G (i :: is) (fuel+1) listed a w:=qsb i hi0 hS h hs hf hr hg hQ hw
theorem qdl {i:Nat} {is:List Nat} {oi:Oper} {fuel:Nat} {listed listed':Array Bool} {a a':Act} {w:World} {v:Value} (hi0:ops.toList[i]? = some oi) (hS:S w)
  (h:wpGT P md ops Q S G is fuel listed' a' w) (hv:∀ w,S w->(execOp a.eval oi).run P w=.ok (.value v) w:=by (intro wq hSw;(try dsimp only at hSw);(try dsimp only [SysIn.bX] at hSw);(try dsimp only [BoxC] at hSw);(try simp only [BoxS] at hSw);(try simp only [BoxF_iff] at hSw);go_simp;try with_reducible rfl)) (ha:a.put oi.dst v=a':=by ((try simp only [Act.put,zD,zE,zF]);try with_reducible rfl)) (hl:listed.setIfInBounds i true=listed':=by with_reducible rfl) (hs:Region.noSelect ops=true:=by kernel_rfl) (hf:Region.free md ops listed i=true:=by kernel_rfl) (hr:(Region.ready md ops listed).contains i=true:=by kernel_rfl) (hg:quc md ops G listed i=true:=by kernel_rfl)
  (hQ:∀ v c a w,Q (.panic c) (a.put oi.dst v) w->Q (.panic c) a w:=by exact fun _ _ _ _ h=>h) (hw:Region.wanted oi (yielded ops a.tmps)=true:=by rfl):wpGT P md ops Q S G (i :: is) (fuel+1) listed a w:=qgu i hi0 hS h hv ha hl hs hf hr hg hQ hw
theorem qan (i:Nat) {oi:Oper} {fuel:Nat} {listed:Array Bool} {a:Act} {w:World} (hi0:ops.toList[i]? = some oi) (hr:Region.ready md ops listed=[i])
  (h:∀ K':Act->World->Prop,Shut (∀ a w,(G i=false->S w)->wpG P md ops Q S G fuel (listed.setIfInBounds i true) a w->K' a w)->if Region.wanted oi (yielded ops a.tmps)=true then Oper.wp P oi a w K' Q else K' (a.put oi.dst undef) w):wpG P md ops Q S G (fuel+1) listed a w:=
 ⟨fun h0 => (by rw [hr] at h0; cases h0), fun j hj => by
  rw [hr] at hj;obtain rfl:=List.mem_singleton.1 hj;have hi:ops[j]? = some oi:=by rw [<- Array.getElem?_toList];exact hi0
  exact wpOp_step hi fun K' hK=>h K' fun a w h1 h2=>hK a w ⟨fun _=>h1,h2⟩⟩
theorem qmg (i j:Nat) {oi oj:Oper} {fuel:Nat} {listed:Array Bool} {a:Act} {w:World} (hi0:ops.toList[i]? = some oi) (hj0:ops.toList[j]? = some oj) (hr:Region.ready md ops listed=[i,j])
  (h:∀ K':Act->World->Prop,Shut (∀ a w,(G i=false->S w)->wpG P md ops Q S G fuel (listed.setIfInBounds i true) a w->K' a w)->if Region.wanted oi (yielded ops a.tmps)=true then Oper.wp P oi a w K' Q else K' (a.put oi.dst undef) w)
  (h':∀ K':Act->World->Prop,Shut (∀ a w,(G j=false->S w)->wpG P md ops Q S G fuel (listed.setIfInBounds j true) a w->K' a w)->if Region.wanted oj (yielded ops a.tmps)=true then Oper.wp P oj a w K' Q else K' (a.put oj.dst undef) w):wpG P md ops Q S G (fuel+1) listed a w:=
 ⟨fun h0 => (by rw [hr] at h0; cases h0), fun k hk => by
  rw [hr] at hk;have hi:ops[i]? = some oi:=by rw [<- Array.getElem?_toList];exact hi0
  have hj:ops[j]? = some oj:=by rw [<- Array.getElem?_toList];exact hj0
  rcases List.mem_cons.1 hk with rfl | hk
  ·exact wpOp_step hi fun K' hK=>h K' fun a w h1 h2=>hK a w ⟨fun _=>h1,h2⟩
  ·obtain rfl:=List.mem_singleton.1 hk
   exact wpOp_step hj fun K' hK=>h' K' fun a w h1 h2=>hK a w ⟨fun _=>h1,h2⟩⟩
theorem qbi {listed:Array Bool} {a:Act} {w:World} (hr:Region.ready md ops listed=[]) (h:Q .normal a w):∀ fuel,wpG P md ops Q S G fuel listed a w
 | 0=>⟨hr,h⟩
 | _+1=>⟨fun _=>h,by rw [hr];simp⟩
theorem yW (i:Nat) {oi:Oper} {fuel:Nat} {listed:Array Bool} {a:Act} {w:World} (hi0:ops.toList[i]? = some oi)  (h:∀ K':Act->World->Prop,Shut (∀ a w,(G i=false->S w)->wpG P md ops Q S G fuel (listed.setIfInBounds i true) a w->K' a w)->if Region.wanted oi (yielded ops a.tmps)=true then Oper.wp P oi a w K' Q else K' (a.put oi.dst undef) w) (hr:Region.ready md ops listed=[i]:=by kernel_rfl):wpG P md ops Q S G (fuel+1) listed a w:=qan i hi0 hr h
theorem yX {listed:Array Bool} {a:Act} {w:World} (h:Q .normal a w) (f:Nat) (hr:Region.ready md ops listed=[]:=by kernel_rfl):wpG P md ops Q S G f listed a w:=qbi hr h f
theorem qa1 {id:Nat} {a:Act} {w:World} (S:World->Prop) (G:Nat->Bool) (hm:P.follows .mixedOrders=true) (h:wpG P .any ops Q S G ops.size (Array.replicate ops.size false) a w.drew):(Code.region id ops true).wp P Q a w:=
 wp_region_any hm (qj9 _ _ _ _ h)
end
