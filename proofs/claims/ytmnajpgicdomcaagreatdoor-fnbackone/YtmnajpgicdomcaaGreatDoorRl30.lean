import Derived.Test.YtmnajpgicdomcaaGreatDoorRl29
namespace Go.Proofs.YtmnajpgicdomcaaGreatDoor
set_option maxRecDepth 100000
set_option maxHeartbeats 4000000
open Go.ChangeShapes Go.WideShapes Go.ChangeAt Go.RowKit Go.Deep Go.Sort
section
variable {P:Program} {a:Act} {w:World} {Q:Exit->Act->World->Prop}
def two (J0 J1:Act->World->Prop) (Q:Exit->Act->World->Prop):Exit->Act->World->Prop
 | .goto 0,a,w=>J0 a w
 | .goto 1,a,w=>J1 a w
 | .goto (_+2),_,_=>False
 | e,a,w=>Q e a w
theorem qvp {J0 J1:Act->World->Prop}:two J0 J1 Q .ret a w=Q .ret a w:=rfl
theorem qo1 {J0 J1 K0 K1:Act->World->Prop} (h0:∀ a w,J0 a w->K0 a w) (h1:∀ a w,J1 a w->K1 a w) {e:Exit} {a:Act} {w:World} (h:two J0 J1 Q e a w):two K0 K1 Q e a w:=by
 match e,h with
 | .goto 0,h=>exact h0 _ _ h
 | .goto 1,h=>exact h1 _ _ h
 | .goto (_+2),h=>exact h.elim
 | .normal,h=>exact h
 | .exit _,h=>exact h
 | .ret,h=>exact h
 | .panic _,h=>exact h
 | .outgrown,h=>exact h
theorem qsr {c:Code} {Q':Exit->Act->World->Prop} (h:c.wp P Q a w) (hq:∀ e a w,Q e a w->Q' e a w):c.wp P Q' a w:=fun b k cs=>by
 obtain ⟨e,a',w',h1,h2⟩:=h b k cs;exact ⟨e,a',w',hq _ _ _ h1,h2⟩
theorem qma {c r0 r1:Code} (J0 J1:Nat->Act->World->Prop) (f0:findLabel c 0=some (.seq .skip r0)) (f1:findLabel c 1=some (.seq .skip r1))
  (first:(∀ k a w,J0 k a w->r0.wp P (two (fun a w=>∃ k,J0 k a w) (fun a w=>∃ k,J1 k a w) Q) a w)->c.wp P (two (fun a w=>∃ k,J0 k a w) (fun a w=>∃ k,J1 k a w) Q) a w)
  (pass0:∀ k,(∀ i a w,i<=k->J1 i a w->r1.wp P (two (fun a w=>∃ j,j<k/\J0 j a w) (fun a w=>∃ j,j<k/\J1 j a w) Q) a w)->∀ a w,J0 k a w->r0.wp P (two (fun a w=>∃ j,j<k/\J0 j a w) (fun a w=>∃ j,j<k/\J1 j a w) Q) a w)
  (pass1:∀ k a w,J1 k a w->r1.wp P (two (fun a w=>∃ j,j<k/\J0 j a w) (fun a w=>∃ j,j<k/\J1 j a w) Q) a w):(Code.scope c).wp P Q a w:=by
 have p0:∀ k a w,J0 k a w->r0.wp P (two (fun a w=>∃ j,j<k/\J0 j a w) (fun a w=>∃ j,j<k/\J1 j a w) Q) a w:=fun k a w hJ=>
  pass0 k (fun i a w hi h=>qsr (pass1 i a w h) fun _ _ _ h=>qo1 (fun _ _ ⟨j,hj,h⟩=>⟨j,by omega,h⟩) (fun _ _ ⟨j,hj,h⟩=>⟨j,by omega,h⟩) h) a w hJ
 have fst:=first fun k a w hJ=>qsr (p0 k a w hJ) fun _ _ _ h=>qo1 (fun _ _ ⟨j,_,h⟩=>⟨j,h⟩) (fun _ _ ⟨j,_,h⟩=>⟨j,h⟩) h
 intro b k cs;have g0:gotoIn 0 (.inScope c :: k)=some (.code (.seq .skip r0) :: .inScope c :: k):=by simp [gotoIn,f0]
 have g1:gotoIn 1 (.inScope c :: k)=some (.code (.seq .skip r1) :: .inScope c :: k):=by simp [gotoIn,f1]
 have key:∀ n,(∀ a w,J0 n a w->∃ e a' w',Q e a' w'/\Arrives P (lone (b.at a (.code (.seq .skip r0) :: .inScope c :: k)) cs w) b k cs e a' w')/\(∀ a w,J1 n a w->∃ e a' w',Q e a' w'/\Arrives P (lone (b.at a (.code (.seq .skip r1) :: .inScope c :: k)) cs w) b k cs e a' w'):=by
  intro n
  induction n using Nat.strongRecOn with
  | _ n ih=>
   have both:∀ r:Code,(∀ a w,r.wp P (two (fun a w=>∃ j,j<n/\J0 j a w) (fun a w=>∃ j,j<n/\J1 j a w) Q) a w->∃ e a' w',Q e a' w'/\Arrives P (lone (b.at a (.code r :: .inScope c :: k)) cs w) b k cs e a' w'):=by
    intro r a w hr;obtain ⟨e,a₁,w₁,hq,harr⟩:=hr b (.inScope c :: k) cs
    match e,hq,harr with
    | .normal,hq,harr=>exact ⟨.normal,a₁,w₁,hq,Steps.trans harr (.one step_inScope)⟩
    | .exit id,hq,harr=>exact ⟨.exit id,a₁,w₁,hq,fun k' hk=>harr k' (by simp [exitTo,hk])⟩
    | .goto 0,⟨j,hj,hJ⟩,harr=>
     obtain ⟨e₂,a₂,w₂,hq₂,harr₂⟩:=(ih j hj).1 a₁ w₁ hJ;exact ⟨e₂,a₂,w₂,hq₂,.of_steps (harr _ g0) harr₂⟩
    | .goto 1,⟨j,hj,hJ⟩,harr=>
     obtain ⟨e₂,a₂,w₂,hq₂,harr₂⟩:=(ih j hj).2 a₁ w₁ hJ;exact ⟨e₂,a₂,w₂,hq₂,.of_steps (harr _ g1) harr₂⟩
    | .goto (_+2),hq,_=>exact hq.elim
    | .ret,hq,harr=>exact ⟨_,a₁,w₁,hq,harr⟩
    | .panic ch,hq,harr=>exact ⟨_,a₁,w₁,hq,harr⟩
    | .outgrown,hq,harr=>exact ⟨_,a₁,w₁,hq,harr⟩
   exact ⟨fun a w h=>both _ a w (wp_seq (wp_skip (p0 n a w h))),fun a w h=>both _ a w (wp_seq (wp_skip (pass1 n a w h)))⟩
 obtain ⟨e,a₁,w₁,hq,harr⟩:=fst b (.inScope c :: k) cs
 match e,hq,harr with
 | .normal,hq,harr=>exact ⟨.normal,a₁,w₁,hq,.head step_scope (Steps.trans harr (.one step_inScope))⟩
 | .exit id,hq,harr=>exact ⟨.exit id,a₁,w₁,hq,fun k' hk=>.head step_scope (harr k' (by simp [exitTo,hk]))⟩
 | .goto 0,⟨j,hJ⟩,harr=>
  obtain ⟨e₂,a₂,w₂,hq₂,harr₂⟩:=(key j).1 a₁ w₁ hJ;exact ⟨e₂,a₂,w₂,hq₂,.of_steps (.head step_scope (harr _ g0)) harr₂⟩
 | .goto 1,⟨j,hJ⟩,harr=>
  obtain ⟨e₂,a₂,w₂,hq₂,harr₂⟩:=(key j).2 a₁ w₁ hJ;exact ⟨e₂,a₂,w₂,hq₂,.of_steps (.head step_scope (harr _ g1)) harr₂⟩
 | .goto (_+2),hq,_=>exact hq.elim
 | .ret,hq,harr=>exact ⟨_,a₁,w₁,hq,.of_steps (.one step_scope) harr⟩
 | .panic ch,hq,harr=>exact ⟨_,a₁,w₁,hq,.of_steps (.one step_scope) harr⟩
 | .outgrown,hq,harr=>exact ⟨_,a₁,w₁,hq,.of_steps (.one step_scope) harr⟩
end
theorem qkc (w:World) (b off cc:Nat) (c:List Int) (h:Sl w (some ⟨b,off,none⟩) c) (z:Array Value) (hz:z.size=c.length):
  (Builtin.copy_ #[32,32] 3 #[.slice (some ⟨w.heap.size,0,none⟩) c.length c.length,.slice (some ⟨b,off,none⟩) c.length cc]).run Tryz.prog (w.alloc (.cells z 3))=.ok (goInt c.length) (w.alloc (.cells (c.map (Value.int .i64)).toArray 3)):=by
 have hl:(c.map (Value.int .i64)).length=c.length:=by simp
 have h2:=run_copy_row (P:=Tryz.prog) (w.alloc (.cells z 3)) 32 32 3 3 w.heap.size 0 c.length c.length ⟨b,off,none⟩ c.length cc z 3 (c.map (Value.int .i64)) Tryz.underlying32 qnj (heap_alloc_new w _) (by rw [hl];exact (Nat.min_self _).symm) (qih h (zT _ _)) (by rw [hl,hz];omega) (qfz c);rw [h2,qej,hl];simp only [List.take_zero,List.nil_append,Nat.zero_add];rw [List.drop_of_length_le (by simp [hz]),List.append_nil]
theorem qji (ca:Option Addr) (cc:Nat) (c:List Int) (w:World) (hn:0<c.length) (hl:c.length<=1048576) (hc:Sl w ca c):
  Calls Tryz.prog 62 #[.slice ca c.length cc] w fun e w'=>e=.returned (.slice (some ⟨w.heap.size,0,none⟩) c.length c.length)/\OwnI w' w.heap.size (.slice (some ⟨w.heap.size,0,none⟩) c.length c.length) c/\Below w.heap.size w w':=by
 obtain ⟨b,off,rfl,-,-⟩:=hc.all hn;have hl':(c.length:Int)<=1048576:=by omega
 have hmk:=qcp c.length hl;have hcp:=qkc w b off cc c hc (madeCells #[.int .i64 0] c.length) (by simp [size_madeCells])
 have HO:Hid (OwnI (w.alloc (.cells (c.map (Value.int .i64)).toArray 3)) w.heap.size (.slice (some ⟨w.heap.size,0,none⟩) c.length c.length) c/\Below w.heap.size w (w.alloc (.cells (c.map (Value.int .i64)).toArray 3))):=by
  refine ⟨?_,zT _ _⟩;have:=World.ownsRow_lit (base:=w.heap.size) (e:=3) (size:=1) w (c.map (Value.int .i64)).toArray c.length (Nat.le_refl _) (by unfold maxLen;omega) (by simp);exact this
 clear hc
 go_enter Tryz.func62,Tryz.ntmps62
 go_wp2;go_ret;exact ⟨rfl,HO.out⟩
def CJ0 (w:World) (x:SysIn) (ca:Option Addr) (cc:Nat) (c:List Int) (k:Nat) (a:Act) (wr:World):Prop:=∃ (g:Nat) (e:List Int) (u3 u7 u8 u9 u10 u11 u12 u13 u14 u15 u16 u17 u18 u19 u20 u21 u22 u23 u24 u25 u26 u27 u28 u29 u30 u31 u32 u33 u34 u35 u36 u37 u38 u39 u40 u41 u42 u43 u44:Value),a={ tmps:=#[x.v,.slice ca c.length cc,.pointer (some ⟨w.heap.size,0,none⟩),u3,.slice none 0 0,.slice (some ⟨g,0,none⟩) c.length c.length,.int .i64 (c.length:Nat),u7,u8,u9,u10,u11,u12,u13,u14,u15,u16,u17,u18,u19,u20,u21,u22,u23,u24,u25,u26,u27,u28,u29,u30,u31,u32,u33,u34,u35,u36,u37,u38,u39,u40,u41,u42,u43,u44],defers:=[] }/\Hid (CW w wr x g c.length c e/\k=sm e*40+20)
structure CH (wr:World) (x:SysIn) (X m:Nat) (c e:List Int):Prop where
 c0:∃ ea ec,wr.cell? ⟨X,0,none⟩=some (.slice ea c.length ec)/\RowS wr ea c.length fun i=>.slice (x.hA i) (cN e i) (cN e i)
 lt:m<=c.length*c.length
 ok:∀ i,i<m->tN x.y (cN e) (i / c.length) (i % c.length)<=sN x.y (cN e) (i / c.length) (i % c.length)
theorem CH.below {wr w':World} {x:SysIn} {X m:Nat} {c e:List Int} (h:CH wr x X m c e) (hb:Below wr.heap.size wr w'):CH w' x X m c e:=by
 obtain ⟨ea,ec,h0,h1⟩:=h.c0;exact ⟨⟨ea,ec,(hb.cell (p:=⟨X,0,none⟩) (zJ wr _ h0)).trans h0,h1.below hb⟩,h.lt,h.ok⟩
def CJ1 (w:World) (x:SysIn) (ca:Option Addr) (cc:Nat) (c:List Int) (k:Nat) (a:Act) (wr:World):Prop:=∃ (g X m:Nat) (e:List Int) (u3 u9 u10 u11 u12 u13 u14 u15 u16 u17 u18 u19 u20 u21 u22 u23 u24 u25 u26 u27 u28 u29 u30 u31 u32 u33 u34 u35 u36 u37 u38 u39 u40 u41 u42 u43 u44:Value),a={ tmps:=#[x.v,.slice ca c.length cc,.pointer (some ⟨w.heap.size,0,none⟩),u3,.slice none 0 0,.slice (some ⟨g,0,none⟩) c.length c.length,.int .i64 (c.length:Nat),.pointer (some ⟨X,0,none⟩),.int .i64 (m:Nat),u9,u10,u11,u12,u13,u14,u15,u16,u17,u18,u19,u20,u21,u22,u23,u24,u25,u26,u27,u28,u29,u30,u31,u32,u33,u34,u35,u36,u37,u38,u39,u40,u41,u42,u43,u44],defers:=[] }/\Hid (CW w wr x g c.length c e/\CH wr x X m c e/\k=sm e*40+(16 - m))
theorem CJ0.mk {w:World} {x:SysIn} {ca:Option Addr} {cc:Nat} {c:List Int} {k g:Nat} {e:List Int} {wr:World} {u3 u7 u8 u9 u10 u11 u12 u13 u14 u15 u16 u17 u18 u19 u20 u21 u22 u23 u24 u25 u26 u27 u28 u29 u30 u31 u32 u33 u34 u35 u36 u37 u38 u39 u40 u41 u42 u43 u44:Value} (h:CW w wr x g c.length c e) (hk:k=sm e*40+20):CJ0 w x ca cc c k { tmps:=#[x.v,.slice ca c.length cc,.pointer (some ⟨w.heap.size,0,none⟩),u3,.slice none 0 0,.slice (some ⟨g,0,none⟩) c.length c.length,.int .i64 (c.length:Nat),u7,u8,u9,u10,u11,u12,u13,u14,u15,u16,u17,u18,u19,u20,u21,u22,u23,u24,u25,u26,u27,u28,u29,u30,u31,u32,u33,u34,u35,u36,u37,u38,u39,u40,u41,u42,u43,u44],defers:=[] } wr:=⟨g,e,u3,u7,u8,u9,u10,u11,u12,u13,u14,u15,u16,u17,u18,u19,u20,u21,u22,u23,u24,u25,u26,u27,u28,u29,u30,u31,u32,u33,u34,u35,u36,u37,u38,u39,u40,u41,u42,u43,u44,rfl,h,hk⟩
theorem CJ1.mk {w:World} {x:SysIn} {ca:Option Addr} {cc:Nat} {c:List Int} {k g X m:Nat} {e:List Int} {wr:World} {u3 u9 u10 u11 u12 u13 u14 u15 u16 u17 u18 u19 u20 u21 u22 u23 u24 u25 u26 u27 u28 u29 u30 u31 u32 u33 u34 u35 u36 u37 u38 u39 u40 u41 u42 u43 u44:Value} (h:CW w wr x g c.length c e) (hh:CH wr x X m c e) (hk:k=sm e*40+(16 - m)):CJ1 w x ca cc c k { tmps:=#[x.v,.slice ca c.length cc,.pointer (some ⟨w.heap.size,0,none⟩),u3,.slice none 0 0,.slice (some ⟨g,0,none⟩) c.length c.length,.int .i64 (c.length:Nat),.pointer (some ⟨X,0,none⟩),.int .i64 (m:Nat),u9,u10,u11,u12,u13,u14,u15,u16,u17,u18,u19,u20,u21,u22,u23,u24,u25,u26,u27,u28,u29,u30,u31,u32,u33,u34,u35,u36,u37,u38,u39,u40,u41,u42,u43,u44],defers:=[] } wr:=⟨g,X,m,e,u3,u9,u10,u11,u12,u13,u14,u15,u16,u17,u18,u19,u20,u21,u22,u23,u24,u25,u26,u27,u28,u29,u30,u31,u32,u33,u34,u35,u36,u37,u38,u39,u40,u41,u42,u43,u44,rfl,h,hh,hk⟩
theorem qjq (x:SysIn) (ca:Option Addr) (cc:Nat) (c:List Int) (w:World) (hG:SysG w x) (hL:x.Len) (hcap:∀ i,i<x.hn->x.hL i<=x.hC i) (hc:Sl w ca c) (hcl:c.length<=1048576) (hV:w.cell? ⟨0,0,none⟩=some (.iface 181 (.agg #[.pointer (some ⟨1,126,none⟩)]))):
  Calls Tryz.prog 28 #[x.v,.slice ca c.length cc] w fun e w'=>∃ u,e=.returned u/\OwnI w' w.heap.size u (clS x.y c)/\Below w.heap.size w w':=by
 have HS:Hid (∀ wx,Below w.heap.size w wx->Calls Tryz.prog 59 #[x.v,.slice ca c.length cc] wx fun e w'=>e=.returned (.bool (cutB x.y c))/\Below wx.heap.size wx w'):=fun wx hb=>qfs x ca cc c wx (hG.below hb) hL (hc.below hb) hcl ((hb.cell (p:=⟨0,0,none⟩) (zJ w _ hV)).trans hV);have BW:Hid (Below w.heap.size w (w.alloc (oQ4 x.pa x.pn x.pc x.sa x.sn x.sc x.wa x.wn x.wc x.ha x.hn x.hc))):=zT _ _;have NB:Hid (BoxC (w.alloc (oQ4 x.pa x.pn x.pc x.sa x.sn x.sc x.wa x.wn x.wc x.ha x.hn x.hc)) w.heap.size (.slice x.pa x.pn x.pc) (.slice x.sa x.sn x.sc) (.slice x.wa x.wn x.wc) (.slice x.ha x.hn x.hc)/\w.heap.size<(w.alloc (oQ4 x.pa x.pn x.pc x.sa x.sn x.sc x.wa x.wn x.wc x.ha x.hn x.hc)).heap.size):=⟨BoxC.new w _ _ _ _ _,by simp⟩
 rcases zK (cutB x.y c) with ht | ht
 case inr=>
  have HV:Hid (clS x.y c=[]):=qv0 ht;rw [ht] at HS;clear hG hL hcap hc hV ht
  go_enter Tryz.func28,Tryz.ntmps28
  go_wp2_with fail
  go_step3
  go_wp2_with fail
  generalize w.alloc (oQ4 x.pa x.pn x.pc x.sa x.sn x.sc x.wa x.wn x.wc x.ha x.hn x.hc)=W2 at *;refine (HS.out W2 BW.out).mono ?_;rintro e w1 ⟨rfl,q1⟩
  have OE:Hid (OwnI (w1.alloc (.cells #[] 3)) w.heap.size (.slice (some ⟨w1.heap.size,0,none⟩) 0 0) []/\Below w.heap.size w (w1.alloc (.cells #[] 3))):=by
   have h:=BW.out.trans (q1.mono BW.out.size);exact ⟨(qbt w1).mono h.size,h.trans ((zT _ _).mono h.size)⟩
  clear q1 BW NB HS;go_wp2;rw [Exit.noGoto_ret];go_ret;rw [HV.out];exact ⟨_,rfl,OE.out⟩
 obtain ⟨hO,hC⟩:=qci ht;have hln:c.length=x.pn:=hC.len;have h1:1<=x.pn:=hO.cn.1.1;have h4:x.pn<=4:=hO.cn.1.2;have hl':(c.length:Int)<=4:=by omega
 have hl1:(1:Int)<=(c.length:Int):=by omega
 have hl0:¬ (c.length:Int)=0:=by omega
 have hm0:0<=(c.length:Int)*(c.length:Int):=Int.mul_nonneg (by omega) (by omega)
 have hm16:(c.length:Int)*(c.length:Int)<=16:=by
  have:=Int.mul_le_mul (show (c.length:Int)<=4 by omega) (show (c.length:Int)<=4 by omega) (by omega) (by omega);omega
 have HQ:Hid (c.length=x.pn/\0<c.length/\c.length<=4):=⟨hln,by omega,by omega⟩
 have HSl:Hid (Sl w ca c):=hc;have HSt:Hid (x.y.Cl c c):=Sy.Cl.start hC;have HEnd:Hid (∀ e,x.y.Cl c e->x.y.Wh (cN e)->clS x.y c=e):=fun e h h'=>qjf ht h h'
 have HH:Hid (∀ wr g e,CW w wr x g c.length c e->Calls Tryz.prog 60 #[x.v,.slice (some ⟨g,0,none⟩) c.length c.length] wr fun r w'=>∃ ha hc,r=.returned (.agg (hcL ha c.length hc).toArray)/\RowS w' ha c.length (fun i=>.slice (x.hA i) (cN e i) (cN e i))/\Below wr.heap.size wr w'):=fun wr g e h=>by
  have:=qfr x (some ⟨g,0,none⟩) c.length e wr (hG.below h.be) hcap hO.cn.2.2.1 h4 (h.cl.cut hC) h.slOf
  rwa [h.ln] at this
 have HU:Hid (∀ wr g X m e a b,CW w wr x g c.length c e->CH wr x X m c e->a<c.length->b<c.length->Calls Tryz.prog 63 #[.pointer (some ⟨X,0,none⟩),.int .i64 (a:Nat),.int .i64 (b:Nat)] wr fun r w'=>r=.returned (.int .i64 (ovN x.y (cN e) a b))/\Below wr.heap.size wr w'):=fun wr g X m e a b h hh ha hb=>by
  obtain ⟨ea,ec,c0,hr⟩:=hh.c0;have hCe:=h.cl.cut hC;rw [<- h.ln] at c0 hr ha hb;have hn:e.length=x.pn:=hCe.len;exact qik X ec ea x.hA (cN e) (x.y.at e) a b wr c0 (qq0 hG h.be hCe hO.cn.2.2.1 hr) (fun i hi=>zP (hCe.leN (by have h2:i<e.length:=hi;show i<x.pn;omega)) (hO.hl200 (by have h2:i<e.length:=hi;show i<x.pn;omega))) ha hb
 have HNx:Hid (∀ wr g e a b,CW w wr x g c.length c e->a<c.length->b<c.length->0<=ovN x.y (cN e) a b->x.y.Cl c (e.set b (ovN x.y (cN e) a b))/\sm (e.set b (ovN x.y (cN e) a b))<sm e):=fun wr g e a b h ha hb h0=>by
  obtain ⟨q1,q2,q3⟩:=h.cl.next (a:=a) (b:=b) (by show a<x.pn;omega) (by show b<x.pn;omega) h0;exact ⟨q1,qoy e b _ (by rw [h.ln];exact hb) q3 q2⟩
 rw [ht] at HS;clear hG hL hcap hc hV ht hO hC hln h1 h4
 go_enter Tryz.func28,Tryz.ntmps28
 go_wp2_with fail
 refine qma (CJ0 w x ca cc c) (CJ1 w x ca cc c) rfl rfl ?first ?pass0 ?pass1
 case first=>
  intro hyp;go_wp2_with fail
  generalize w.alloc (oQ4 x.pa x.pn x.pc x.sa x.sn x.sc x.wa x.wn x.wc x.ha x.hn x.hc)=W2 at *;refine (HS.out W2 BW.out).mono ?_;rintro e w1 ⟨rfl,q1⟩;have B1:Hid (Below w.heap.size w w1/\BoxC w1 w.heap.size (.slice x.pa x.pn x.pc) (.slice x.sa x.sn x.sc) (.slice x.wa x.wn x.wc) (.slice x.ha x.hn x.hc)/\w.heap.size<w1.heap.size):=⟨BW.out.trans (q1.mono BW.out.size),NB.1.below q1,zL NB.2 q1.size⟩
  clear q1 BW NB HS;go_wp2_with fail
  refine (qji ca cc c w1 HQ.2.1 (by have:=HQ.out;omega) (HSl.out.below B1.1)).mono ?_;rintro e w2 ⟨rfl,o2,q2⟩;have B2:Hid (CW w w2 x w1.heap.size c.length c c):=⟨o2.mono B1.2.2,B1.1.trans (q2.mono B1.1.size),B1.2.1.below q2,HSt.out,rfl⟩
  clear q2 o2 B1;generalize w1.heap.size=g at *;go_wp2_with fail
  go_step3
  rename_i K hK;exact hK _ _ (hyp _ _ _ (CJ0.mk B2.out rfl))
 case pass0=>
  intro k hyp a' wr hJ;obtain ⟨g,e,u3,u7,u8,u9,u10,u11,u12,u13,u14,u15,u16,u17,u18,u19,u20,u21,u22,u23,u24,u25,u26,u27,u28,u29,u30,u31,u32,u33,u34,u35,u36,u37,u38,u39,u40,u41,u42,u43,u44,rfl,HB⟩:=hJ;obtain ⟨b0,b1,b2,b3⟩:=HB.1.bx;clear HS BW NB HSl HSt;go_wp2_with fail
  refine (HH.out wr g e HB.1).mono ?_;rintro r w2 ⟨ea,ec,rfl,r2,q2⟩;have B2:Hid (CW w w2 x g c.length c e/\RowS w2 ea c.length (fun i=>.slice (x.hA i) (cN e i) (cN e i))/\k=sm e*40+20):=⟨HB.1.below q2,r2,HB.2⟩
  clear q2 r2 b0 b1 b2 b3 HB HH;have hl:=qmw ea c.length ec;have ho:=qmx ea c.length ec;generalize hcs:hcL ea c.length ec=cl at *;have hs:cl.toArray.size=21:=by simpa using hl
  have HI:Hid ((Tryz.prog.info? 76).map (·.size)=some cl.toArray.size):=by show _=_;rw [hs];exact qe5
  have HO:Hid (cl.toArray.all (·.oneCell')=true):=all_oneCell_toArray ho;have HT:Hid ((w2.alloc (zQ4)).there w2.heap.size 0 cl.toArray.size):=qbw _ _ _ _ _ (by rw [hs];rfl) rfl;have BE:Hid (Below w2.heap.size w2 ((w2.alloc (zQ4)).setCells w2.heap.size 0 cl)):=(qau.sets (P:=fun b=>b=w2.heap.size) rfl _ _ (qau.of_below (zT _ _))).below (Nat.le_refl _) fun b e=>by omega
  have HR:((w2.alloc (zQ4)).setCells w2.heap.size 0 cl).rangeAt w2.heap.size 0 cl:=World.rangeAt_setCells_same _ _ _ _ (by simpa using HT.out);have HCe:Hid (((w2.alloc (zQ4)).setCells w2.heap.size 0 cl).cell? ⟨w2.heap.size,0,none⟩=some (.slice ea c.length ec)):=qn9 HR hcs;clear hl ho hs HR hcs;go_wp2_with (refine wpList_store_mid rfl 76 (.tmp 7) (.tmp 22) rfl w2.heap.size 0 cl.toArray rfl rfl HT.out HI.out HO.out ?_)
  clear HT HI HO;generalize (w2.alloc (zQ4)).setCells w2.heap.size 0 cl=w3 at *;have B3:Hid (CW w w3 x g c.length c e/\CH w3 x w2.heap.size 0 c e/\k=sm e*40+20):=⟨B2.1.below BE.out,⟨⟨ea,ec,HCe.out,B2.2.1.below BE.out⟩,Nat.zero_le _,fun i hi=>by omega⟩,B2.2.2⟩
  clear BE B2 HCe;generalize w2.heap.size=X at *
  go_step3
  rename_i K hK;exact hK _ _ (hyp (sm e*40+16) _ _ (by have:=B3.2.2;omega) (CJ1.mk (m:=0) B3.1 B3.2.1 rfl))
 case pass1=>
  intro k a' wr hJ;obtain ⟨g,X,m,e,u3,u9,u10,u11,u12,u13,u14,u15,u16,u17,u18,u19,u20,u21,u22,u23,u24,u25,u26,u27,u28,u29,u30,u31,u32,u33,u34,u35,u36,u37,u38,u39,u40,u41,u42,u43,u44,rfl,HB⟩:=hJ;clear HS BW NB HSl HSt HH
  rcases zK ((m:Int) == (c.length:Int)*(c.length:Int)) with t | t
  ·have HM:Hid (m=c.length*c.length):=by
    have h:(m:Int)=(c.length:Int)*(c.length:Int):=by simpa using t
    rw [<- Int.natCast_mul] at h;show m=_;omega
   have HV:Hid (OwnI wr w.heap.size (.slice (some ⟨g,0,none⟩) c.length c.length) (clS x.y c)/\Below w.heap.size w wr):=by
    have hw:x.y.Wh (cN e):=fun a ha b hb=>by
     have hq:=HQ.out;have ha':a<c.length:=by have h3:a<x.pn:=ha;omega
     have hb':b<c.length:=by have h3:b<x.pn:=hb;omega
     have h := HB.2.1.ok (a * c.length + b) (by
      rw [HM.out];have h5:(a+1)*c.length<=c.length*c.length:=Nat.mul_le_mul_right _ ha';rw [Nat.add_mul,Nat.one_mul] at h5
      omega)
     rw [Nat.mul_add_mod' a c.length b,Nat.mod_eq_of_lt hb',Nat.mul_comm a,Nat.mul_add_div (by omega),Nat.div_eq_of_lt hb',Nat.add_zero] at h;exact h
    rw [HEnd.out e HB.1.cl hw];exact ⟨HB.1.ow.mono (by omega),HB.1.be⟩
   clear HB HM;go_wp2;rw [qvp];go_ret;exact ⟨_,rfl,HV.out⟩
  have hmlt:m<c.length*c.length:=by
   have h:=HB.2.1.lt
   have h2:m≠c.length*c.length:=fun h=>by
    rw [h,Int.natCast_mul] at t;simp at t
   omega
  have hm16':c.length*c.length<=16:=by
   have hq:=HQ.out;exact Nat.mul_le_mul hq.2.2 hq.2.2
  have hmi:(m:Int)<=16:=by omega
  have eq1:Int.tdiv (m:Int) (c.length:Int)=((m / c.length:Nat):Int):=(Int.ofNat_tdiv m c.length).symm;have eq2:Int.tmod (m:Int) (c.length:Int)=((m % c.length:Nat):Int):=(Int.ofNat_tmod m c.length).symm;have HM:Hid (m<c.length*c.length/\m<16/\m / c.length<c.length/\m % c.length<c.length):=⟨hmlt,by omega,Nat.div_lt_of_lt_mul hmlt,Nat.mod_lt _ HQ.2.1⟩
  have ha4:((m / c.length:Nat):Int)<=4:=by have:=HM.out;have:=HQ.out;omega
  have hb4:((m % c.length:Nat):Int)<(c.length:Int):=by have:=HM.out;omega
  clear hmlt hm16';generalize hA':m / c.length=A at *;generalize hB':m % c.length=B at *;have HAB:Hid (m / c.length=A/\m % c.length=B):=⟨hA',hB'⟩
  clear hA' hB';go_wp2_with fail
  refine (HU.out wr g X m e (A) (B) HB.1 HB.2.1 HM.2.2.1 HM.2.2.2).mono ?_;rintro r w3 ⟨rfl,q3⟩;have B3:Hid (CW w w3 x g c.length c e/\CH w3 x X m c e/\k=sm e*40+(16 - m)):=⟨HB.1.below q3,HB.2.1.below q3,HB.2.2⟩
  have HN:Hid (ovN x.y (cN e) (A) (B)<0 ↔ tN x.y (cN e) (A) (B)<=sN x.y (cN e) (A) (B)):=qe9;have HX:Hid (0<=ovN x.y (cN e) (A) (B)->x.y.Cl c (e.set (B) (ovN x.y (cN e) (A) (B)))/\sm (e.set (B) (ovN x.y (cN e) (A) (B)))<sm e):=fun h=>HNx.out w3 g e _ _ B3.1 HM.2.2.1 HM.2.2.2 h;generalize ovN x.y (cN e) (A) (B)=ov at *;clear q3 HB HU HNx;by_cases ho:ov<0
  ·have B4 : Hid (CW w w3 x g c.length c e ∧ CH w3 x X (m + 1) c e ∧ sm e * 40 + (16 - (m + 1)) < k) := ⟨B3.1, ⟨B3.2.1.c0, HM.1, fun i hi => by
    by_cases ei:i=m
    ·subst ei
     rw [HAB.1,HAB.2];exact HN.1 ho
    ·exact B3.2.1.ok i (by omega)⟩,by
    rw [B3.2.2];have:=HM.2.1
    omega⟩
   clear B3 HN HX;go_wp2_with fail
   go_step3
   have e8:(m:Int)+1=((m+1:Nat):Int):=by omega
   rw [e8];exact ⟨_,B4.2.2,CJ1.mk (m:=m+1) B4.1 B4.2.1 rfl⟩
  ·obtain ⟨ce,cf⟩:=B3.1.cell HM.2.2.2
   have B4 : Hid (CW w (w3.setCell ⟨g, B, none⟩ (.int .i64 ov)) x g c.length c (e.set (B) ov) ∧ sm (e.set (B) ov) * 40 + 20 < k) := ⟨B3.1.put (HX.out (by omega)).1, by
    rw [B3.2.2];have:=(HX.out (by omega)).2
    omega⟩
   clear B3 HN HX;go_wp2_with fail
   go_step3
   exact ⟨_,B4.2,CJ0.mk B4.1 rfl⟩
theorem qv1 {g:Nat->I5} {n:Nat} {eh:Nat->E3} {m k:Nat} {S:S4} (h:repO g n eh m=some S) (hk:k<=m):(repO g n eh k).isSome=true:=by
 obtain ⟨h1,h2,h3⟩:=qbj h;unfold repO;rw [if_pos ⟨h1,by omega⟩];cases h0:rp g n eh k with
 | none=>
  rw [qfe h0 hk] at h3;cases h3
 | some T=>rfl
theorem qwp {y:Sy} {c:List Int} (h:cutB y c=true):atB y c=ctB y (cN c)/\atS y c=ctS y (cN c):=by
 obtain ⟨hO,hC⟩:=qci h;have hR:qB (y.Rpl (cN c))=true:=qa4 fun p hp=>qv1 (hO.rp p hp) (hC.leN hp)
 have h1:whB y c=qB (y.Wh (cN c)):=by
  unfold whB;rw [h];rfl
 have h2:atB y c=ctB y (cN c):=by
  unfold atB ctB;rw [h1,hR,Bool.and_true]
 refine ⟨h2,?_⟩;unfold atS ctS Sy.atW;rw [<- h2];unfold atB;cases whB y c <;> cases wfB (y.ah (cN c)) <;> rfl
theorem qpl (x:SysIn) (ca:Option Addr) (cc:Nat) (c:List Int) (w:World) (hG:SysG w x) (hL:x.Len) (hcap:∀ i,i<x.hn->x.hL i<=x.hC i) (hc:Sl w ca c) (hcl:c.length<=1048576) (hV:w.cell? ⟨0,0,none⟩=some (.iface 181 (.agg #[.pointer (some ⟨1,126,none⟩)]))):
  Calls Tryz.prog 27 #[x.v,.slice ca c.length cc] w fun e w'=>∃ v,e=.returned (.tuple #[v,.bool (atB x.y c)])/\qac true w' w.heap.size (atS x.y c) v/\Below w.heap.size w w':=by
 have HVx:Hid (∀ wx,Below w.heap.size w wx->wx.cell? ⟨0,0,none⟩=some (.iface 181 (.agg #[.pointer (some ⟨1,126,none⟩)]))):=fun wx hb=>(hb.cell (p:=⟨0,0,none⟩) (zJ w _ hV)).trans hV;have HS:Hid (∀ wx,Below w.heap.size w wx->Calls Tryz.prog 59 #[x.v,.slice ca c.length cc] wx fun e w'=>e=.returned (.bool (cutB x.y c))/\Below wx.heap.size wx w'):=fun wx hb=>qfs x ca cc c wx (hG.below hb) hL (hc.below hb) hcl (HVx.out wx hb);have BW:Hid (Below w.heap.size w ((w.alloc (oQ4 x.pa x.pn x.pc x.sa x.sn x.sc x.wa x.wn x.wc x.ha x.hn x.hc)).alloc (zQ3))):=(zQ _ _).trans ((zQ _ _).mono (by simp));have NB:Hid (BoxC ((w.alloc (oQ4 x.pa x.pn x.pc x.sa x.sn x.sc x.wa x.wn x.wc x.ha x.hn x.hc)).alloc (zQ3)) w.heap.size (.slice x.pa x.pn x.pc) (.slice x.sa x.sn x.sc) (.slice x.wa x.wn x.wc) (.slice x.ha x.hn x.hc)):=(BoxC.new w _ _ _ _ _).below (zQ _ _);have RB:Hid (BoxC ((w.alloc (oQ4 x.pa x.pn x.pc x.sa x.sn x.sc x.wa x.wn x.wc x.ha x.hn x.hc)).alloc (zQ3)) (w.heap.size+1) (.slice none 0 0) (.slice none 0 0) (.slice none 0 0) (.slice none 0 0)/\∀ j,((w.alloc (oQ4 x.pa x.pn x.pc x.sa x.sn x.sc x.wa x.wn x.wc x.ha x.hn x.hc)).alloc (zQ3)).frozen? ⟨w.heap.size+1,j,none⟩=false):=⟨⟨zW _ _ _ 0 (by simp),zW _ _ _ 1 (by simp),zW _ _ _ 2 (by simp),zW _ _ _ 3 (by simp)⟩,fun j=>yD _ _ _ _ (by simp)⟩
 have hM:w.heap.size<=w.heap.size+1:=Nat.le_succ _;have HG:Hid (SysG w x):=hG;have HL:Hid x.Len:=hL;have HQ:Hid ((∀ i,i<x.hn->x.hL i<=x.hC i)/\Sl w ca c):=⟨hcap,hc⟩
 clear hG hL hcap hc hV
 go_enter Tryz.func27,Tryz.ntmps27
 go_wp2_with fail
 generalize (w.alloc (oQ4 x.pa x.pn x.pc x.sa x.sn x.sc x.wa x.wn x.wc x.ha x.hn x.hc)).alloc (zQ3)=W2 at *;refine (HS.out W2 BW.out).mono ?_;rintro e w1 ⟨rfl,q1⟩;have B1:Hid (Below w.heap.size w w1/\BoxC w1 w.heap.size (.slice x.pa x.pn x.pc) (.slice x.sa x.sn x.sc) (.slice x.wa x.wn x.wc) (.slice x.ha x.hn x.hc)/\BoxC w1 (w.heap.size+1) (.slice none 0 0) (.slice none 0 0) (.slice none 0 0) (.slice none 0 0)/\∀ j,w1.frozen? ⟨w.heap.size+1,j,none⟩=false):=⟨BW.out.trans (q1.mono BW.out.size),NB.out.below q1,RB.1.below q1,fun j=>((qag q1).2 _ j (zJ _ _ RB.1.1)).trans (RB.2 j)⟩
 clear q1 BW NB RB HS;have l1:w.heap.size+1<w1.heap.size:=zJ _ _ B1.2.2.1.1;obtain ⟨b0,b1,b2,b3⟩:=B1.2.1
 rcases zK (cutB x.y c) with t | t
 case inr=>
  have HV:Hid (atB x.y c=false/\atS x.y c=x.y.nil):=⟨by show atB x.y c=false;unfold atB whB;rw [t];rfl,if_neg (by unfold whB;rw [t];simp)⟩
  obtain ⟨⟨r0,r1,r2,r3⟩,rf⟩:=B1.2.2;rw [t];clear t;go_wp2;exact bodyPost_ret (v:=.tuple #[sysV none 0 0 none 0 0 none 0 0 none 0 0,.bool false]) (by simp [results,Tryz.results27,go_sem,r0,r1,r2,r3]) rfl ⟨_,by rw [HV.1],by rw [HV.2];exact qac.zero _ _ _,(((B1.1.setCell hM _).setCell hM _).setCell hM _).setCell hM _⟩
 obtain ⟨hO,hC⟩:=qci t;have hln:c.length=x.pn:=hC.len;have h4:x.pn<=4:=hO.cn.1.2;have hhn:x.hn=x.pn:=hO.cn.2.2.1;have HAT:Hid (atB x.y c=ctB x.y (cN c)/\atS x.y c=ctS x.y (cN c)):=qwp t
 have eah:x.y.at c=x.y.ah (cN c):=by
  unfold Sy.ah Sy.at;rw [hln];rfl
 have HH:Hid (∀ wx,Below w.heap.size w wx->Calls Tryz.prog 60 #[x.v,.slice ca c.length cc] wx fun e w'=>∃ ha hc,e=.returned (.agg (hcL ha c.length hc).toArray)/\RowS w' ha c.length (fun i=>.slice (x.hA i) (cN c i) (cN c i))/\Below wx.heap.size wx w'):=fun wx hb=>qfr x ca cc c wx (HG.out.below hb) HQ.1 hhn h4 hC (HQ.2.below hb)
 have HCT:Hid (∀ wx X ha hc,Below w.heap.size w wx->wx.cell? ⟨X,0,none⟩=some (.slice ha c.length hc)->RowS wx ha c.length (fun i=>.slice (x.hA i) (cN c i) (cN c i))->Calls Tryz.prog 61 #[.pointer (some ⟨X,0,none⟩),.slice x.pa x.pn x.pc] wx fun e w'=>∃ v,e=.returned (.tuple #[v,.bool (atB x.y c)])/\qac true w' wx.heap.size (atS x.y c) v/\Below wx.heap.size wx w'):=fun wx X ha hc' hb hcell hr=>by
  have hE:HisE wx ha x.hA (cN c) (x.y.at c):=qq0 HG.out hb hC hhn hr;rw [eah] at hE;rw [hln] at hcell;have h:=qmn X hc' ha x.hA (cN c) x.y (cN c) x.pa x.pc x.pA x.pC wx hcell hE (fun i hi=>zP (hC.leN hi) (hO.hl200 hi)) h4 (HG.out.below hb).p (HG.out.below hb).pi HL.out.p.2 (HVx.out wx hb);rw [HAT.1,HAT.2];exact h
 rw [t];clear t hO hC hln h4 hhn eah HAT HVx HL HQ HG;generalize hAB:atB x.y c=aB at HCT;generalize hAS:atS x.y c=aS at HCT;have HAS:Hid (atB x.y c=aB/\atS x.y c=aS):=⟨hAB,hAS⟩
 clear hAB hAS;go_wp2_with fail
 refine (HH.out w1 B1.1).mono ?_;rintro e w2 ⟨ea,ec,rfl,r2,q2⟩;have B2:Hid (Below w1.heap.size w1 w2/\RowS w2 ea c.length (fun i=>.slice (x.hA i) (cN c i) (cN c i))):=⟨q2,r2⟩
 clear q2 r2 b0 b1 b2 b3 HH;have hl:=qmw ea c.length ec;have ho:=qmx ea c.length ec;generalize hcs:hcL ea c.length ec=cl at *;have hs:cl.toArray.size=21:=by simpa using hl
 have HI:Hid ((Tryz.prog.info? 76).map (·.size)=some cl.toArray.size):=by show _=_;rw [hs];exact qe5
 have HOc:Hid (cl.toArray.all (·.oneCell')=true):=all_oneCell_toArray ho;have HT:Hid ((w2.alloc (zQ4)).there w2.heap.size 0 cl.toArray.size):=qbw _ _ _ _ _ (by rw [hs];rfl) rfl;have BE:Hid (Below w2.heap.size w2 ((w2.alloc (zQ4)).setCells w2.heap.size 0 cl)):=(qau.sets (P:=fun b=>b=w2.heap.size) rfl _ _ (qau.of_below (zT _ _))).below (Nat.le_refl _) fun b e=>by omega
 have HRr:((w2.alloc (zQ4)).setCells w2.heap.size 0 cl).rangeAt w2.heap.size 0 cl:=World.rangeAt_setCells_same _ _ _ _ (by simpa using HT.out);have HCe:Hid (((w2.alloc (zQ4)).setCells w2.heap.size 0 cl).cell? ⟨w2.heap.size,0,none⟩=some (.slice ea c.length ec)):=qn9 HRr hcs;clear hl ho hs HRr hcs;go_upto_region 4 with (refine wpList_store_mid rfl 76 (.tmp 6) (.tmp 14) rfl w2.heap.size 0 cl.toArray rfl rfl HT.out HI.out HOc.out ?_)
 clear HT HI HOc;generalize (w2.alloc (zQ4)).setCells w2.heap.size 0 cl=w3 at *;have B3:Hid (Below w1.heap.size w1 w3/\RowS w3 ea c.length (fun i=>.slice (x.hA i) (cN c i) (cN c i))):=⟨B2.1.trans (BE.out.mono B2.1.size),B2.2.below BE.out⟩
 clear BE B2;generalize w2.heap.size=X at *;clear w2;have W03:Hid (Below w.heap.size w w3):=B1.1.trans (B3.1.mono B1.1.size);obtain ⟨b0,b1,b2,b3⟩:=B1.2.1.below B3.1;go_wp2_with fail
 refine (HCT.out w3 X ea ec W03.out HCe.out B3.2).mono ?_;rintro e w4 ⟨v4,rfl,o4,q4⟩;obtain ⟨cl,vp,vs,vw,vh,up,us,uw,uh,rfl,o4⟩:=o4;obtain ⟨pa,pc,rfl⟩:=zU o4.p.row;obtain ⟨sa,sc,rfl⟩:=zU o4.s.row;obtain ⟨wa,wc,rfl⟩:=zU o4.t.row;obtain ⟨ha,hc,rfl⟩:=zU o4.h.row;have hl3:w.heap.size+1<w3.heap.size:=zL l1 B3.1.size;have B4:Hid (Below w.heap.size w w4/\qac true w4 w3.heap.size aS (.agg #[.slice pa aS.pn pc,.slice sa aS.sn sc,.slice wa aS.wn wc,.slice ha aS.hn hc])):=⟨W03.out.trans (q4.mono W03.out.size),_,_,_,_,_,_,_,_,_,rfl,o4⟩
 have q14:Below w1.heap.size w1 w4:=B3.1.trans (q4.mono B3.1.size);obtain ⟨r0,r1,r2,r3⟩:=B1.2.2.1.below q14;have rf:∀ j,w4.frozen? ⟨w.heap.size+1,j,none⟩=false:=fun j=>((qag q14).2 _ j l1).trans (B1.2.2.2 j);have HLE:Hid (w.heap.size<=w3.heap.size/\w.heap.size+1<w3.heap.size):=⟨by omega,hl3⟩
 clear o4 q4 q14 b0 b1 b2 b3 HCT HCe l1 hl3 B1 B3 W03;go_wp2;exact bodyPost_ret (v:=.tuple #[.agg #[.slice pa aS.pn pc,.slice sa aS.sn sc,.slice wa aS.wn wc,.slice ha aS.hn hc],.bool aB]) (by simp [results,Tryz.results27,go_sem,r0,r1,r2,r3]) rfl ⟨_,by rw [HAS.1],by rw [HAS.2];exact ((((B4.2.setBelow HLE.2 0 _).setBelow HLE.2 1 _).setBelow HLE.2 2 _).setBelow HLE.2 3 _).base HLE.1,(((B4.1.setCell hM _).setCell hM _).setCell hM _).setCell hM _⟩
theorem qbr {zb:Bool} (x:SysIn) (p k:Int) (w:World) (hG:SysG w x) (hL:x.Len) (hcap:∀ i,i<x.hn->x.hL i<=x.hC i) (hN:x.Nn zb) (hV:w.cell? ⟨0,0,none⟩=some (.iface 181 (.agg #[.pointer (some ⟨1,126,none⟩)]))):
  Calls Tryz.prog 11 #[x.v,.int .i64 p,.int .i64 k] w fun e w'=>∃ v,e=.returned (.tuple #[v,.int .i64 (bkC x.y p k)])/\qac zb w' w.heap.size (bkY x.y p k) v/\Below w.heap.size w w':=by
 have HVx:Hid (∀ wx,Below w.heap.size w wx->wx.cell? ⟨0,0,none⟩=some (.iface 181 (.agg #[.pointer (some ⟨1,126,none⟩)]))):=fun wx hb=>(hb.cell (p:=⟨0,0,none⟩) (zJ w _ hV)).trans hV;have HG:Hid (SysG w x):=hG;have HLn:Hid (x.hn<=1048576/\x.pn<=1048576/\∀ i,i<x.hn->x.hL i<=1048576):=⟨hL.h.1,hL.p.1,hL.h.2⟩
 have HS:Hid (∀ wx,Below w.heap.size w wx->Calls Tryz.prog 23 #[x.v] wx fun e w'=>e=.returned (.bool x.y.okB)/\Below wx.heap.size wx w'):=fun wx hb=>qdv x wx (hG.below hb) hL (HVx.out wx hb);have HC4:Hid (∀ wx,Below w.heap.size w wx->Calls Tryz.prog 25 #[x.v] wx fun e w'=>∃ v,e=.returned v/\qac zb w' wx.heap.size x.y v/\Below wx.heap.size wx w'):=fun wx hb=>qmo x wx (hG.below hb) hL hN
 have HFu:Hid (x.y.okB=true->∀ wx,Below w.heap.size w wx->Calls Tryz.prog 26 #[x.v] wx fun e w'=>∃ u,e=.returned u/\OwnI w' wx.heap.size u (flT x.y x.hn)/\Below wx.heap.size wx w'):=fun t wx hb=>by
  have h:=qlh x wx (hG.below hb) hL (HVx.out wx hb);have e:flS x.y=flT x.y x.hn:=if_pos t;rw [e] at h;exact h
 have HCl:Hid (cutB x.y (bkL x.y p.toNat k)=true->∀ wx ca cc,Below w.heap.size w wx->Sl wx ca (bkL x.y p.toNat k)->Calls Tryz.prog 28 #[x.v,.slice ca (bkL x.y p.toNat k).length cc] wx fun e w'=>∃ u,e=.returned u/\OwnI w' wx.heap.size u (bkE x.y p k)/\Below wx.heap.size wx w'):=fun _ wx ca cc hb hs=>qjq x ca cc _ wx (hG.below hb) hL hcap hs (by unfold bkL;rw [List.length_set,qcq];exact hL.h.1) (HVx.out wx hb)
 have HAt:Hid (x.y.okB=true->bkIn x.y p k=true->∀ wx ca cc,Below w.heap.size w wx->Sl wx ca (bkE x.y p k)->Calls Tryz.prog 27 #[x.v,.slice ca (bkE x.y p k).length cc] wx fun e w'=>∃ v,e=.returned (.tuple #[v,.bool (wfB (x.y.ah (cN (bkE x.y p k))))])/\qac zb w' wx.heap.size (x.y.atW (cN (bkE x.y p k))) v/\Below wx.heap.size wx w'):=fun t hb2 wx ca cc hb hs=>by
  have hc:=qcz (Sy.ok_of t) hb2;have h:=qpl x ca cc (bkE x.y p k) wx (hG.below hb) hL hcap hs (by show (clS x.y (bkL x.y p.toNat k)).length<=1048576;rw [(qge hc).len];exact hL.p.1) (HVx.out wx hb)
  have e1:atB x.y (bkE x.y p k)=wfB (x.y.ah (cN (bkE x.y p k))):=by
   unfold atB;rw [show whB x.y (bkE x.y p k)=true from quo hc];rfl
  have e2:atS x.y (bkE x.y p k)=x.y.atW (cN (bkE x.y p k)):=if_pos (quo hc);rw [e1,e2] at h
  exact h.mono fun e w' hh=>by
   obtain ⟨v,e3,o,b⟩:=hh;exact ⟨v,e3,o.toz,b⟩
 have BW:Hid (Below w.heap.size w ((w.alloc (oQ4 x.pa x.pn x.pc x.sa x.sn x.sc x.wa x.wn x.wc x.ha x.hn x.hc)).alloc (zQ3))):=(zQ _ _).trans ((zQ _ _).mono (by simp));have NB:Hid (BoxC ((w.alloc (oQ4 x.pa x.pn x.pc x.sa x.sn x.sc x.wa x.wn x.wc x.ha x.hn x.hc)).alloc (zQ3)) w.heap.size (.slice x.pa x.pn x.pc) (.slice x.sa x.sn x.sc) (.slice x.wa x.wn x.wc) (.slice x.ha x.hn x.hc)):=(BoxC.new w _ _ _ _ _).below (zQ _ _);have RB:Hid (BoxC ((w.alloc (oQ4 x.pa x.pn x.pc x.sa x.sn x.sc x.wa x.wn x.wc x.ha x.hn x.hc)).alloc (zQ3)) (w.heap.size+1) (.slice none 0 0) (.slice none 0 0) (.slice none 0 0) (.slice none 0 0)/\∀ j,((w.alloc (oQ4 x.pa x.pn x.pc x.sa x.sn x.sc x.wa x.wn x.wc x.ha x.hn x.hc)).alloc (zQ3)).frozen? ⟨w.heap.size+1,j,none⟩=false):=⟨⟨zW _ _ _ 0 (by simp),zW _ _ _ 1 (by simp),zW _ _ _ 2 (by simp),zW _ _ _ 3 (by simp)⟩,fun j=>yD _ _ _ _ (by simp)⟩
 have hM:w.heap.size<=w.heap.size+1:=Nat.le_succ _;clear hG hL hcap hN hV
 go_enter Tryz.func11,Tryz.ntmps11
 go_wp2_with fail
 generalize (w.alloc (oQ4 x.pa x.pn x.pc x.sa x.sn x.sc x.wa x.wn x.wc x.ha x.hn x.hc)).alloc (zQ3)=W2 at *;refine (HS.out W2 BW.out).mono ?_;rintro e w1 ⟨rfl,q1⟩;have B1:Hid (Below w.heap.size w w1/\BoxC w1 w.heap.size (.slice x.pa x.pn x.pc) (.slice x.sa x.sn x.sc) (.slice x.wa x.wn x.wc) (.slice x.ha x.hn x.hc)/\BoxC w1 (w.heap.size+1) (.slice none 0 0) (.slice none 0 0) (.slice none 0 0) (.slice none 0 0)/\∀ j,w1.frozen? ⟨w.heap.size+1,j,none⟩=false):=⟨BW.out.trans (q1.mono BW.out.size),NB.out.below q1,RB.1.below q1,fun j=>((qag q1).2 _ j (zJ _ _ RB.1.1)).trans (RB.2 j)⟩
 clear q1 BW NB RB HS;have LR:Hid (w.heap.size+1<w1.heap.size):=zJ _ _ B1.2.2.1.1;have HRB:Hid (∀ wx,Below w1.heap.size w1 wx->BoxC wx w.heap.size (.slice x.pa x.pn x.pc) (.slice x.sa x.sn x.sc) (.slice x.wa x.wn x.wc) (.slice x.ha x.hn x.hc)/\BoxC wx (w.heap.size+1) (.slice none 0 0) (.slice none 0 0) (.slice none 0 0) (.slice none 0 0)/\(∀ j,wx.frozen? ⟨w.heap.size+1,j,none⟩=false)/\w.heap.size+1<wx.heap.size):=fun wx hb=>⟨B1.2.1.below hb,B1.2.2.1.below hb,fun j=>((qag hb).2 _ j LR.out).trans (B1.2.2.2 j),zL LR.out hb.size⟩
 obtain ⟨b0,b1,b2,b3⟩:=B1.2.1
 rcases zK x.y.okB with t | t
 case inr=>
  have HV:Hid (bkC x.y p k=1/\bkY x.y p k=x.y.nil):=⟨if_neg (by rw [t];simp),if_neg (by rw [t];simp)⟩
  obtain ⟨⟨r0,r1,r2,r3⟩,rf⟩:=B1.2.2;have l1:=LR.out;rw [t];clear t;go_wp2;exact bodyPost_ret (v:=.tuple #[sysV none 0 0 none 0 0 none 0 0 none 0 0,.int .i64 1]) (by simp [results,Tryz.results11,go_sem,r0,r1,r2,r3]) rfl ⟨_,by rw [HV.1],by rw [HV.2];exact qac.zero _ _ _,(((B1.1.setCell hM _).setCell hM _).setCell hM _).setCell hM _⟩
 have HO:Hid (x.y.Ok/\x.y.okB=true):=⟨Sy.ok_of t,t⟩
 have HNP:Hid (x.hn=x.pn/\x.pn<=4/\1<=x.pn):=⟨HO.1.cn.2.2.1,HO.1.cn.1.2,HO.1.cn.1.1⟩
 have h4:(x.pn:Int)<=4:=by have:=HNP.out;omega
 have h4h:(x.hn:Int)<=4:=by have:=HNP.out;omega
 rw [t];clear t;have l1:=LR.out;by_cases hb:belB p x.pn=true
 case neg=>
  have hbf:belB p x.pn=false:=by
   cases h:belB p x.pn with
   | false=>rfl
   | true=>exact absurd h hb
  have HV:Hid (bkC x.y p k=2/\bkY x.y p k=x.y):=by
   have hi:bkIn x.y p k=false:=by
    unfold bkIn;rw [show belB p x.y.pn=false from hbf];rfl
   exact ⟨by show bkC x.y p k=2;rw [bkC,if_pos HO.2,if_neg (by rw [hi];simp)],by rw [bkY,if_pos HO.2,if_neg (by rw [hi];simp)]⟩
  have HBB:Hid (belB p x.hn=false):=by
   show belB p x.hn=false;rw [HNP.1];exact hbf
  clear hb hbf;go_wp2_with fail
  refine (isBelow_any _ _ _).mono ?_;rintro e w' ⟨rfl,hw⟩;have hw2:=hw.symm;subst hw2;clear hw;rw [show belB p x.hn=false from HBB.out];go_wp2_with fail
  refine (HC4.out w1 B1.1).mono ?_;rintro e w3 ⟨v3,rfl,o3,q3⟩;obtain ⟨cq,vp,vs,vw,vh,up,us,uw,uh,rfl,o3⟩:=o3;obtain ⟨pa,pc,rfl⟩:=zU o3.p.row;obtain ⟨sa,sc,rfl⟩:=zU o3.s.row;obtain ⟨wa,wc,rfl⟩:=zU o3.t.row;obtain ⟨ha,hc,rfl⟩:=zU o3.h.row;have F3:Hid (qac zb w3 w1.heap.size x.y (.agg #[.slice pa x.y.pn pc,.slice sa x.y.sn sc,.slice wa x.y.wn wc,.slice ha x.y.hn hc])/\Below w1.heap.size w1 w3):=⟨⟨_,_,_,_,_,_,_,_,_,rfl,o3⟩,q3⟩
  obtain ⟨-,⟨r0,r1,r2,r3⟩,rf,l1⟩:=HRB.out w3 ((Below.refl w1.heap.size w1).trans (q3.mono (Below.refl w1.heap.size w1).size));clear o3 q3;go_wp2
  exact bodyPost_ret (v := .tuple #[.agg #[.slice pa x.y.pn pc, .slice sa x.y.sn sc, .slice wa x.y.wn wc, .slice ha x.y.hn hc], .int .i64 2]) (by simp [results, Tryz.results11, go_sem, r0, r1, r2, r3]) rfl ⟨_, by rw [HV.1], by
   rw [HV.2]
   exact ((((F3.1.setBelow LR.out 0 _).setBelow LR.out 1 _).setBelow LR.out 2 _).setBelow LR.out 3 _).base B1.1.size,(((((B1.1).trans (F3.2.mono B1.1.size)).setCell hM _).setCell hM _).setCell hM _).setCell hM _⟩
 obtain ⟨P,rfl,hP⟩:∃ P:Nat,p=P/\P<x.pn:=by
  simp only [belB,decide_eq_true_eq] at hb;exact ⟨p.toNat,by omega,by omega⟩
 have HBB:Hid (belB (P:Int) x.hn=true):=by
  show belB (P:Int) x.hn=true;rw [HNP.1];exact hb
 clear hb;have hPh:P<x.hn:=by have:=HNP.out;omega
 have hPh':(P:Int)<(x.hn:Int):=by omega
 have nPh:¬ (x.hn:Int)<=(P:Int):=by omega
 obtain ⟨bh,oh,eh,ch⟩:=(HG.out.below B1.1).h.at hPh;rw [eh] at b3;have HEH:Hid (x.ha=some ⟨bh,oh,none⟩):=eh;clear eh;have hlm:x.hL P<=200:=HO.1.hl200 hP;have hlm':(x.hL P:Int)<=200:=by omega
 have HLP:Hid (x.y.hL P=x.hL P):=rfl;by_cases hk:0<=k/\k<=(x.hL P:Int)
 case neg=>
  have HV:Hid (bkC x.y (P:Int) k=2/\bkY x.y (P:Int) k=x.y):=by
   have hi:bkIn x.y (P:Int) k=false:=by
    simp only [bkIn,inB,Int.toNat_natCast,Bool.and_eq_false_iff,decide_eq_false_iff_not];exact .inr hk
   exact ⟨by show bkC x.y (P:Int) k=2;rw [bkC,if_pos HO.2,if_neg (by rw [hi];simp)],by rw [bkY,if_pos HO.2,if_neg (by rw [hi];simp)]⟩
  by_cases h0:k<0
  case pos=>
   have n0:¬ 0<=k:=by omega
   clear hk;go_wp2_with fail
   refine (isBelow_any _ _ _).mono ?_;rintro e w' ⟨rfl,hw⟩;have hw2:=hw.symm;subst hw2;clear hw;rw [show belB (P:Int) x.hn=true from HBB.out];go_upto_region 4 with fail
   clear b0 b1 b2 b3 ch;obtain ⟨b0,b1,b2,b3⟩:=B1.2.1;go_wp2_with fail
   refine (HC4.out w1 B1.1).mono ?_;rintro e w3 ⟨v3,rfl,o3,q3⟩;obtain ⟨cq,vp,vs,vw,vh,up,us,uw,uh,rfl,o3⟩:=o3;obtain ⟨pa,pc,rfl⟩:=zU o3.p.row;obtain ⟨sa,sc,rfl⟩:=zU o3.s.row;obtain ⟨wa,wc,rfl⟩:=zU o3.t.row;obtain ⟨ha,hc,rfl⟩:=zU o3.h.row;have F3:Hid (qac zb w3 w1.heap.size x.y (.agg #[.slice pa x.y.pn pc,.slice sa x.y.sn sc,.slice wa x.y.wn wc,.slice ha x.y.hn hc])/\Below w1.heap.size w1 w3):=⟨⟨_,_,_,_,_,_,_,_,_,rfl,o3⟩,q3⟩
   obtain ⟨-,⟨r0,r1,r2,r3⟩,rf,l1⟩:=HRB.out w3 ((Below.refl w1.heap.size w1).trans (q3.mono (Below.refl w1.heap.size w1).size));clear o3 q3;go_wp2
   exact bodyPost_ret (v := .tuple #[.agg #[.slice pa x.y.pn pc, .slice sa x.y.sn sc, .slice wa x.y.wn wc, .slice ha x.y.hn hc], .int .i64 2]) (by simp [results, Tryz.results11, go_sem, r0, r1, r2, r3]) rfl ⟨_, by rw [HV.1], by
    rw [HV.2]
    exact ((((F3.1.setBelow LR.out 0 _).setBelow LR.out 1 _).setBelow LR.out 2 _).setBelow LR.out 3 _).base B1.1.size,(((((B1.1).trans (F3.2.mono B1.1.size)).setCell hM _).setCell hM _).setCell hM _).setCell hM _⟩
  have n0:0<=k:=by omega
  have h1:(x.hL P:Int)<k:=by omega
  have n1:¬ k<=(x.hL P:Int):=by omega
  clear hk;go_wp2_with fail
  refine (isBelow_any _ _ _).mono ?_;rintro e w' ⟨rfl,hw⟩;have hw2:=hw.symm;subst hw2;clear hw;rw [show belB (P:Int) x.hn=true from HBB.out];go_upto_region 4 with fail
  clear b0 b1 b2 b3 ch;obtain ⟨b0,b1,b2,b3⟩:=B1.2.1;go_wp2_with fail
  refine (HC4.out w1 B1.1).mono ?_;rintro e w3 ⟨v3,rfl,o3,q3⟩;obtain ⟨cq,vp,vs,vw,vh,up,us,uw,uh,rfl,o3⟩:=o3;obtain ⟨pa,pc,rfl⟩:=zU o3.p.row;obtain ⟨sa,sc,rfl⟩:=zU o3.s.row;obtain ⟨wa,wc,rfl⟩:=zU o3.t.row;obtain ⟨ha,hc,rfl⟩:=zU o3.h.row;have F3:Hid (qac zb w3 w1.heap.size x.y (.agg #[.slice pa x.y.pn pc,.slice sa x.y.sn sc,.slice wa x.y.wn wc,.slice ha x.y.hn hc])/\Below w1.heap.size w1 w3):=⟨⟨_,_,_,_,_,_,_,_,_,rfl,o3⟩,q3⟩
  obtain ⟨-,⟨r0,r1,r2,r3⟩,rf,l1⟩:=HRB.out w3 ((Below.refl w1.heap.size w1).trans (q3.mono (Below.refl w1.heap.size w1).size));clear o3 q3;go_wp2
  exact bodyPost_ret (v := .tuple #[.agg #[.slice pa x.y.pn pc, .slice sa x.y.sn sc, .slice wa x.y.wn wc, .slice ha x.y.hn hc], .int .i64 2]) (by simp [results, Tryz.results11, go_sem, r0, r1, r2, r3]) rfl ⟨_, by rw [HV.1], by
   rw [HV.2]
   exact ((((F3.1.setBelow LR.out 0 _).setBelow LR.out 1 _).setBelow LR.out 2 _).setBelow LR.out 3 _).base B1.1.size,(((((B1.1).trans (F3.2.mono B1.1.size)).setCell hM _).setCell hM _).setCell hM _).setCell hM _⟩
 have hk0:¬ k<0:=by omega
 have hk0':0<=k:=hk.1;have hk1:¬ (x.hL P:Int)<k:=by omega
 have hk1':k<=(x.hL P:Int):=hk.2
 have HIN:Hid (bkIn x.y (P:Int) k=true):=by
  show bkIn x.y (P:Int) k=true;simp only [bkIn,inB,belB,Int.toNat_natCast,Bool.and_eq_true,decide_eq_true_eq];exact ⟨by have:x.y.pn=x.pn:=rfl;omega,hk⟩
 have HBC:Hid (bkC x.y (P:Int) k=(if wfB (x.y.ah (cN (bkE x.y (P:Int) k)))=true then 0 else 3)/\bkY x.y (P:Int) k=(if wfB (x.y.ah (cN (bkE x.y (P:Int) k)))=true then x.y.atY (cN (bkE x.y (P:Int) k)) else x.y)):=⟨by show bkC x.y (P:Int) k=_;rw [bkC,if_pos HO.2,if_pos HIN.out],by rw [bkY,if_pos HO.2,if_pos HIN.out]⟩
 have HYW:Hid (x.y.atW (cN (bkE x.y (P:Int) k))=(if wfB (x.y.ah (cN (bkE x.y (P:Int) k)))=true then x.y.atY (cN (bkE x.y (P:Int) k)) else x.y.nil)):=rfl;have HF2:Hid (∀ wx,Below w.heap.size w wx->Calls Tryz.prog 26 #[x.v] wx fun e w'=>∃ u,e=.returned u/\OwnI w' wx.heap.size u (flT x.y x.hn)/\Below wx.heap.size wx w'):=HFu.out HO.2
 have HC2:Hid (∀ wx ca cc,Below w.heap.size w wx->Sl wx ca (bkL x.y P k)->Calls Tryz.prog 28 #[x.v,.slice ca x.hn cc] wx fun e w'=>∃ u,e=.returned u/\OwnI w' wx.heap.size u (bkE x.y (P:Int) k)/\Below wx.heap.size wx w'):=fun wx ca cc hb hs=>by
  have h:=HCl.out (qcz HO.1 HIN.out) wx ca cc hb (by rw [Int.toNat_natCast];exact hs);rw [show (bkL x.y ((P:Int)).toNat k).length=x.hn by unfold bkL;rw [List.length_set,qcq];rfl] at h;exact h
 have HA2:Hid (∀ wx ca cc,Below w.heap.size w wx->Sl wx ca (bkE x.y (P:Int) k)->Calls Tryz.prog 27 #[x.v,.slice ca (bkE x.y (P:Int) k).length cc] wx fun e w'=>∃ v,e=.returned (.tuple #[v,.bool (wfB (x.y.ah (cN (bkE x.y (P:Int) k))))])/\qac zb w' wx.heap.size (x.y.atW (cN (bkE x.y (P:Int) k))) v/\Below wx.heap.size wx w'):=HAt.out HO.2 HIN.out;have HFL:Hid ((flT x.y x.hn).set P k=bkL x.y P k/\(flT x.y x.hn).length=x.hn):=⟨rfl,qcq _ _⟩
 clear hk HFu HCl HAt HIN;generalize x.y.atW (cN (bkE x.y (P:Int) k))=YW at *;generalize wfB (x.y.ah (cN (bkE x.y (P:Int) k)))=wf at *;generalize x.y.atY (cN (bkE x.y (P:Int) k))=YA at *;generalize bkE x.y (P:Int) k=E at *;generalize bkL x.y P k=Lb at *;generalize flT x.y x.hn=fl at *;go_wp2_with fail
 refine (isBelow_any _ _ _).mono ?_;rintro e w' ⟨rfl,hw⟩;have hw2:=hw.symm;subst hw2;clear hw;rw [show belB (P:Int) x.hn=true from HBB.out];go_upto_region 5 with fail
 clear b0 b1 b2 b3 ch;obtain ⟨b0,b1,b2,b3⟩:=B1.2.1;go_wp2_with fail
 refine (HF2.out w1 B1.1).mono ?_;rintro e w4 ⟨v4,rfl,o4,q4⟩;obtain ⟨gf,fc,rfl,hgf,hgl⟩:=o4.block (by have:=HFL.2;omega);rw [HFL.2] at o4 ⊢;have O4:Hid (OwnI w4 w1.heap.size (.slice (some ⟨gf,0,none⟩) x.hn fc) fl/\Below w1.heap.size w1 w4):=⟨o4,q4⟩
 have cg:w4.cell? ⟨gf,P,none⟩=some (.int .i64 (zi fl P)):=by
  have o5:OwnI w4 w1.heap.size (.slice (some ⟨gf,0,none⟩) fl.length fc) fl:=by rw [HFL.2];exact o4
  exact o5.cell (by rw [HFL.2];exact hPh)
 have cf:w4.frozen? ⟨gf,P,none⟩=false:=by
  have o5:OwnI w4 w1.heap.size (.slice (some ⟨gf,0,none⟩) fl.length fc) fl:=by rw [HFL.2];exact o4
  exact o5.frozen P
 have F4:Hid (Sl (w4.setCell ⟨gf,P,none⟩ (.int .i64 k)) (some ⟨gf,0,none⟩) Lb/\Below w1.heap.size w1 (w4.setCell ⟨gf,P,none⟩ (.int .i64 k))):=by
  have h:=(o4.set (n:=x.hn) HFL.2.symm P k)
  refine ⟨?_,q4.setCell hgf _⟩;have hs:=h.1;rw [HFL.1] at hs;have hl:Lb.length=x.hn:=by rw [<- HFL.1,List.length_set,HFL.2]
  rw [<- hl] at hs;exact hs.slOf
 clear o4 q4;go_upto_region 7 with fail
 clear cg cf hgf O4 HFL;generalize w4.setCell ⟨gf,P,none⟩ (.int .i64 k)=w5 at *;clear hgl w4;obtain ⟨⟨b0,b1,b2,b3⟩,-,-,-⟩:=HRB.out w5 F4.2
 go_cut [9,10] from 43 to 50 (fun s t wx=>∃ N:Nat,s=.pointer (some ⟨N,0,none⟩)/\t=.bool wf/\Hid (∃ pa pc sa sc wa wc ha hc,qac zb wx w1.heap.size YW (.agg #[.slice pa YW.pn pc,.slice sa YW.sn sc,.slice wa YW.wn wc,.slice ha YW.hn hc])/\Below w1.heap.size w1 wx/\BoxC wx N (.slice pa YW.pn pc) (.slice sa YW.sn sc) (.slice wa YW.wn wc) (.slice ha YW.hn hc)))
 case first=>
  have q0:Below w5.heap.size w5 w5.drew:=(Below.refl w5.heap.size w5).drew;refine qaj (fun w'=>BoxC w' w.heap.size (.slice x.pa x.pn x.pc) (.slice x.sa x.sn x.sc) (.slice x.wa x.wn x.wc) (.slice x.ha x.hn x.hc)) (fun _=>false) (by kernel_rfl) ?_;have hB5:∀ wx,Below w5.heap.size w5 wx->BoxC wx w.heap.size (.slice x.pa x.pn x.pc) (.slice x.sa x.sn x.sc) (.slice x.wa x.wn x.wc) (.slice x.ha x.hn x.hc):=fun wx hb=>BoxC.below (w:=w5) ⟨b0,b1,b2,b3⟩ hb;have hHeld:(fun w':World=>BoxC w' w.heap.size (.slice x.pa x.pn x.pc) (.slice x.sa x.sn x.sc) (.slice x.wa x.wn x.wc) (.slice x.ha x.hn x.hc)) w5.drew:=hB5 _ q0;have hBW:∀ wx,Below w5.heap.size w5 wx->Below w.heap.size w wx:=fun wx hb=>(B1.1.trans (F4.2.mono B1.1.size)).trans (hb.mono (B1.1.trans (F4.2.mono B1.1.size)).size);refine qax [0,1,2] ?_;iterate 3 (refine qa8 rfl hHeld ?_)
  refine qao ?_;have sz:w1.heap.size<=w5.heap.size:=F4.2.size;have lb:w.heap.size+1<w5.heap.size:=zL l1 sz;refine qd2 3 8 rfl rfl (by kernel_rfl) (fun K hK=>?_) (fun K hK=>?_)
  ·have q0':=q0
   refine qae rfl 28 _ _ rfl #[x.v,.slice (some ⟨gf,0,none⟩) x.hn fc] (by simp [Act.eval,SysIn.v,sysV]) (yB Tryz.func28 (by kernel_rfl) rfl) (HC2.out w5.drew _ fc (hBW _ q0') (F4.1.below q0')) ?_;rintro e w6 ⟨u6,rfl,o6,d6⟩;obtain ⟨e6,c6,rfl,s6⟩:=o6.form;refine ⟨_,rfl,?_⟩;have q6:Below w5.heap.size w5 w6:=q0'.trans (d6.mono q0'.size);refine hK.out _ _ (fun _=>hB5 _ q6) ?_;clear hK K
   (try simp only [Act.put,zD,zE,zF])
   refine qd2 4 8 rfl rfl (by kernel_rfl) (fun K hK=>?_) (fun K hK=>?_)
   ·have s6':=s6
    refine qae rfl 27 _ _ rfl #[x.v,.slice e6 E.length c6] (by simp [Act.eval,SysIn.v,sysV]) (yB Tryz.func27 (by kernel_rfl) rfl) (HA2.out w6 _ c6 (hBW _ q6) s6') ?_;rintro e w7 ⟨v7,rfl,o7,d7⟩;obtain ⟨cq,vp,vs,vw,vh,up,us,uw,uh,rfl,o7⟩:=o7;obtain ⟨pa,pc,rfl⟩:=zU o7.p.row;obtain ⟨sa,sc,rfl⟩:=zU o7.s.row;obtain ⟨wa,wc,rfl⟩:=zU o7.t.row;obtain ⟨ha,hc,rfl⟩:=zU o7.h.row;have O7:qac zb w7 (w6).heap.size YW (.agg #[.slice pa YW.pn pc,.slice sa YW.sn sc,.slice wa YW.wn wc,.slice ha YW.hn hc]):=⟨_,_,_,_,_,_,_,_,_,rfl,o7⟩
    refine ⟨_,rfl,?_⟩;have q7:Below w5.heap.size w5 w7:=q6.trans (d7.mono q6.size);refine hK.out _ _ (fun _=>hB5 _ q7) ?_;clear hK K o7;have hHeld:(fun w':World=>BoxC w' w.heap.size (.slice x.pa x.pn x.pc) (.slice x.sa x.sn x.sc) (.slice x.wa x.wn x.wc) (.slice x.ha x.hn x.hc)) w7:=hB5 _ q7
    (try simp only [Act.put,zD,zE,zF])
    refine qax [5,6,7] ?_;iterate 3 (refine qa8 rfl hHeld ?_)
    refine qao ?_;refine qaa 8 rfl (by kernel_rfl) (fun K hK=>?_);go_simp;have qa:=q7.trans ((zQ w7 (zQ3)).mono q7.size);refine hK.out _ _ (fun _=>hB5 _ qa) ?_;clear hK K hHeld
    (try simp only [Act.put,zD,zE,zF])
    refine qaa 9 rfl (by kernel_rfl) (fun K hK=>?_);go_simp;have qb:=q7.trans ((zQ w7 (oQ4 pa YW.pn pc sa YW.sn sc wa YW.wn wc ha YW.hn hc)).mono q7.size);refine hK.out _ _ (fun _=>hB5 _ qb) ?_;clear hK K;have hHeld:(fun w':World=>BoxC w' w.heap.size (.slice x.pa x.pn x.pc) (.slice x.sa x.sn x.sc) (.slice x.wa x.wn x.wc) (.slice x.ha x.hn x.hc)) (w7.alloc (oQ4 pa YW.pn pc sa YW.sn sc wa YW.wn wc ha YW.hn hc)):=hB5 _ qb
    (try simp only [Act.put,zD,zE,zF])
    refine qbl 10 rfl hHeld ?_;refine qar (by kernel_rfl) ?_ _;go_wp2_with fail
    go_meet
    case rel=>exact ⟨w7.heap.size,by with_reducible rfl,by with_reducible rfl,_,_,_,_,_,_,_,_,(O7.below (zQ _ _)).base (zP sz q6.size),F4.2.trans (qb.mono sz),BoxC.new w7 _ _ _ _ _⟩
   ·go_simp
    have qa:=q6.trans ((zQ w6 (zQ3)).mono q6.size);have sA:Sl (w6.alloc (zQ3)) e6 E:=s6.below (zQ _ _);have bN:BoxC (w6.alloc (zQ3)) w6.heap.size (.slice none 0 0) (.slice none 0 0) (.slice none 0 0) (.slice none 0 0):=BoxC.new w6 _ _ _ _ _;have fN:∀ j,(w6.alloc (zQ3)).frozen? ⟨w6.heap.size,j,none⟩=false:=fun j=>yD _ _ _ _ rfl;have zN:w6.heap.size<(w6.alloc (zQ3)).heap.size:=by simp
    have sN6:w5.heap.size<=w6.heap.size:=q6.size;refine hK.out _ _ (fun _=>hB5 _ qa) ?_;clear hK K
    (try simp only [Act.put,zD,zE,zF])
    refine qaa 4 rfl (by kernel_rfl) (fun K hK=>?_);generalize w6.heap.size=N at *;generalize w6.alloc (zQ3)=wA at *;refine qae rfl 27 _ _ rfl #[x.v,.slice e6 E.length c6] (by simp [Act.eval,SysIn.v,sysV]) (yB Tryz.func27 (by kernel_rfl) rfl) (HA2.out wA _ c6 (hBW _ qa) sA) ?_;rintro e w7 ⟨v7,rfl,o7,d7⟩;obtain ⟨cq,vp,vs,vw,vh,up,us,uw,uh,rfl,o7⟩:=o7;obtain ⟨pa,pc,rfl⟩:=zU o7.p.row;obtain ⟨sa,sc,rfl⟩:=zU o7.s.row;obtain ⟨wa,wc,rfl⟩:=zU o7.t.row;obtain ⟨ha,hc,rfl⟩:=zU o7.h.row;have O7:qac zb w7 (wA).heap.size YW (.agg #[.slice pa YW.pn pc,.slice sa YW.sn sc,.slice wa YW.wn wc,.slice ha YW.hn hc]):=⟨_,_,_,_,_,_,_,_,_,rfl,o7⟩
    refine ⟨_,rfl,?_⟩;have q7:Below w5.heap.size w5 w7:=qa.trans (d7.mono qa.size);refine hK.out _ _ (fun _=>hB5 _ q7) ?_;clear hK K o7;have hHeld:(fun w':World=>BoxC w' w.heap.size (.slice x.pa x.pn x.pc) (.slice x.sa x.sn x.sc) (.slice x.wa x.wn x.wc) (.slice x.ha x.hn x.hc)) w7:=hB5 _ q7
    (try simp only [Act.put,zD,zE,zF])
    refine qax [5,6,7] ?_;iterate 3 (refine qa8 rfl hHeld ?_)
    refine qao ?_;obtain ⟨n0,n1,n2,n3⟩:=bN.below d7;have nf:∀ j,w7.frozen? ⟨N,j,none⟩=false:=fun j=>((qag d7).2 _ j zN).trans (fN j);refine qaa 9 rfl (by kernel_rfl) (fun K hK=>?_);go_simp;have qb:Below w5.heap.size w5 ((((w7.setCell ⟨N,0,none⟩ (.slice pa YW.pn pc)).setCell ⟨N,1,none⟩ (.slice sa YW.sn sc)).setCell ⟨N,2,none⟩ (.slice wa YW.wn wc)).setCell ⟨N,3,none⟩ (.slice ha YW.hn hc)):=(((q7.setCell sN6 _).setCell sN6 _).setCell sN6 _).setCell sN6 _;refine hK.out _ _ (fun _=>hB5 _ qb) ?_;clear hK K hHeld;have hHeld:(fun w':World=>BoxC w' w.heap.size (.slice x.pa x.pn x.pc) (.slice x.sa x.sn x.sc) (.slice x.wa x.wn x.wc) (.slice x.ha x.hn x.hc)) ((((w7.setCell ⟨N,0,none⟩ (.slice pa YW.pn pc)).setCell ⟨N,1,none⟩ (.slice sa YW.sn sc)).setCell ⟨N,2,none⟩ (.slice wa YW.wn wc)).setCell ⟨N,3,none⟩ (.slice ha YW.hn hc)):=hB5 _ qb
    (try simp only [Act.put,zD,zE,zF])
    refine qbl 10 rfl hHeld ?_;refine qar (by kernel_rfl) ?_ _;go_wp2_with fail
    go_meet
    case rel=>exact ⟨N,by with_reducible rfl,by with_reducible rfl,_,_,_,_,_,_,_,_,((((O7.setBelow zN 0 _).setBelow zN 1 _).setBelow zN 2 _).setBelow zN 3 _).base (zP sz qa.size),F4.2.trans (qb.mono sz),BoxC.set4 ⟨n0,n1,n2,n3⟩ _ _ _ _⟩
  ·go_simp
   have qa0:=(zQ w5 (zQ3)).drew;have bN:BoxC (w5.alloc (zQ3)).drew w5.heap.size (.slice none 0 0) (.slice none 0 0) (.slice none 0 0) (.slice none 0 0):=(BoxC.new w5 _ _ _ _ _).below (Below.refl _ _).drew;have fN:∀ j,(w5.alloc (zQ3)).drew.frozen? ⟨w5.heap.size,j,none⟩=false:=fun j=>(World.frozen?_drew _ _).trans (yD _ _ _ _ rfl);have zN:w5.heap.size<(w5.alloc (zQ3)).drew.heap.size:=by simp
   refine hK.out _ _ (fun _=>hB5 _ qa0) ?_;clear hK K
   (try simp only [Act.put,zD,zE,zF])
   refine qaa 3 rfl (by kernel_rfl) (fun K hK=>?_);obtain ⟨N,hNN⟩:∃ N,N=w5.heap.size:=⟨_,rfl⟩
   have sN6:w5.heap.size<=N:=by omega
   have bN:BoxC (w5.alloc (zQ3)).drew N (.slice none 0 0) (.slice none 0 0) (.slice none 0 0) (.slice none 0 0):=by rw [hNN];exact bN
   have fN:∀ j,(w5.alloc (zQ3)).drew.frozen? ⟨N,j,none⟩=false:=by rw [hNN];exact fN
   have zN:N<(w5.alloc (zQ3)).drew.heap.size:=by rw [hNN];exact zN
   rw [<- hNN];clear hNN;generalize (w5.alloc (zQ3)).drew=wC at *;refine qae rfl 28 _ _ rfl #[x.v,.slice (some ⟨gf,0,none⟩) x.hn fc] (by simp [Act.eval,SysIn.v,sysV]) (yB Tryz.func28 (by kernel_rfl) rfl) (HC2.out wC _ fc (hBW _ qa0) (F4.1.below qa0)) ?_;rintro e w6 ⟨u6,rfl,o6,d6⟩;obtain ⟨e6,c6,rfl,s6⟩:=o6.form;refine ⟨_,rfl,?_⟩;have q6:Below w5.heap.size w5 w6:=qa0.trans (d6.mono qa0.size);refine hK.out _ _ (fun _=>hB5 _ q6) ?_;clear hK K
   (try simp only [Act.put,zD,zE,zF])
   refine qaa 4 rfl (by kernel_rfl) (fun K hK=>?_);have qa:=q6;have sA:=s6;have fN:∀ j,w6.frozen? ⟨N,j,none⟩=false:=fun j=>((qag d6).2 _ j zN).trans (fN j);have bN:=bN.below d6;have zN:N<w6.heap.size:=zL zN d6.size;refine qae rfl 27 _ _ rfl #[x.v,.slice e6 E.length c6] (by simp [Act.eval,SysIn.v,sysV]) (yB Tryz.func27 (by kernel_rfl) rfl) (HA2.out w6 _ c6 (hBW _ qa) sA) ?_;rintro e w7 ⟨v7,rfl,o7,d7⟩;obtain ⟨cq,vp,vs,vw,vh,up,us,uw,uh,rfl,o7⟩:=o7;obtain ⟨pa,pc,rfl⟩:=zU o7.p.row;obtain ⟨sa,sc,rfl⟩:=zU o7.s.row;obtain ⟨wa,wc,rfl⟩:=zU o7.t.row;obtain ⟨ha,hc,rfl⟩:=zU o7.h.row;have O7:qac zb w7 (w6).heap.size YW (.agg #[.slice pa YW.pn pc,.slice sa YW.sn sc,.slice wa YW.wn wc,.slice ha YW.hn hc]):=⟨_,_,_,_,_,_,_,_,_,rfl,o7⟩
   refine ⟨_,rfl,?_⟩;have q7:Below w5.heap.size w5 w7:=qa.trans (d7.mono qa.size);refine hK.out _ _ (fun _=>hB5 _ q7) ?_;clear hK K o7;have hHeld:(fun w':World=>BoxC w' w.heap.size (.slice x.pa x.pn x.pc) (.slice x.sa x.sn x.sc) (.slice x.wa x.wn x.wc) (.slice x.ha x.hn x.hc)) w7:=hB5 _ q7
   (try simp only [Act.put,zD,zE,zF])
   refine qax [5,6,7] ?_;iterate 3 (refine qa8 rfl hHeld ?_)
   refine qao ?_;obtain ⟨n0,n1,n2,n3⟩:=bN.below d7;have nf:∀ j,w7.frozen? ⟨N,j,none⟩=false:=fun j=>((qag d7).2 _ j zN).trans (fN j);refine qaa 9 rfl (by kernel_rfl) (fun K hK=>?_);go_simp;have qb:Below w5.heap.size w5 ((((w7.setCell ⟨N,0,none⟩ (.slice pa YW.pn pc)).setCell ⟨N,1,none⟩ (.slice sa YW.sn sc)).setCell ⟨N,2,none⟩ (.slice wa YW.wn wc)).setCell ⟨N,3,none⟩ (.slice ha YW.hn hc)):=(((q7.setCell sN6 _).setCell sN6 _).setCell sN6 _).setCell sN6 _;refine hK.out _ _ (fun _=>hB5 _ qb) ?_;clear hK K hHeld;have hHeld:(fun w':World=>BoxC w' w.heap.size (.slice x.pa x.pn x.pc) (.slice x.sa x.sn x.sc) (.slice x.wa x.wn x.wc) (.slice x.ha x.hn x.hc)) ((((w7.setCell ⟨N,0,none⟩ (.slice pa YW.pn pc)).setCell ⟨N,1,none⟩ (.slice sa YW.sn sc)).setCell ⟨N,2,none⟩ (.slice wa YW.wn wc)).setCell ⟨N,3,none⟩ (.slice ha YW.hn hc)):=hB5 _ qb
   (try simp only [Act.put,zD,zE,zF])
   refine qbl 10 rfl hHeld ?_;refine qar (by kernel_rfl) ?_ _;go_wp2_with fail
   go_meet
   case rel=>exact ⟨N,by with_reducible rfl,by with_reducible rfl,_,_,_,_,_,_,_,_,((((O7.setBelow zN 0 _).setBelow zN 1 _).setBelow zN 2 _).setBelow zN 3 _).base (zP sz qa.size),F4.2.trans (qb.mono sz),BoxC.set4 ⟨n0,n1,n2,n3⟩ _ _ _ _⟩
 case rest=>
  obtain ⟨N,rfl,rfl,HT⟩:=hcut;obtain ⟨pa,pc,sa,sc,wa,wc,ha,hc,hOw,hBe,hBx⟩:=HT.out;rename_i w7;have F7:Hid (qac zb w7 w1.heap.size YW (.agg #[.slice pa YW.pn pc,.slice sa YW.sn sc,.slice wa YW.wn wc,.slice ha YW.hn hc])/\Below w1.heap.size w1 w7/\BoxC w7 N (.slice pa YW.pn pc) (.slice sa YW.sn sc) (.slice wa YW.wn wc) (.slice ha YW.hn hc)):=⟨hOw,hBe,hBx⟩
  clear hOw hBe hBx HT b0 b1 b2 b3;cases wf with
  | false=>
   have HV:Hid (bkC x.y (P:Int) k=3/\bkY x.y (P:Int) k=x.y):=⟨by rw [HBC.1];rfl,by rw [HBC.2];rfl⟩
   obtain ⟨⟨b0,b1,b2,b3⟩,-,-,-⟩:=HRB.out w7 F7.2.1;go_wp2_with fail
   refine (HC4.out w7 (B1.1.trans (F7.2.1.mono B1.1.size))).mono ?_;rintro e w3 ⟨v3,rfl,o3,q3⟩;obtain ⟨cq,vp,vs,vw,vh,up,us,uw,uh,rfl,o3⟩:=o3;obtain ⟨pa,pc,rfl⟩:=zU o3.p.row;obtain ⟨sa,sc,rfl⟩:=zU o3.s.row;obtain ⟨wa,wc,rfl⟩:=zU o3.t.row;obtain ⟨ha,hc,rfl⟩:=zU o3.h.row;have F3:Hid (qac zb w3 w7.heap.size x.y (.agg #[.slice pa x.y.pn pc,.slice sa x.y.sn sc,.slice wa x.y.wn wc,.slice ha x.y.hn hc])/\Below w7.heap.size w7 w3):=⟨⟨_,_,_,_,_,_,_,_,_,rfl,o3⟩,q3⟩
   obtain ⟨-,⟨r0,r1,r2,r3⟩,rf,l1⟩:=HRB.out w3 ((F7.2.1).trans (q3.mono (F7.2.1).size));clear o3 q3;go_wp2
   exact bodyPost_ret (v := .tuple #[.agg #[.slice pa x.y.pn pc, .slice sa x.y.sn sc, .slice wa x.y.wn wc, .slice ha x.y.hn hc], .int .i64 3]) (by simp [results, Tryz.results11, go_sem, r0, r1, r2, r3]) rfl ⟨_, by rw [HV.1], by
    rw [HV.2]
    exact ((((F3.1.setBelow (zL LR.out F7.2.1.size) 0 _).setBelow (zL LR.out F7.2.1.size) 1 _).setBelow (zL LR.out F7.2.1.size) 2 _).setBelow (zL LR.out F7.2.1.size) 3 _).base (B1.1.trans (F7.2.1.mono B1.1.size)).size,((((((B1.1.trans (F7.2.1.mono B1.1.size))).trans (F3.2.mono (B1.1.trans (F7.2.1.mono B1.1.size)).size)).setCell hM _).setCell hM _).setCell hM _).setCell hM _⟩
  | true=>
   have HV:Hid (bkC x.y (P:Int) k=0/\bkY x.y (P:Int) k=YA/\YW=YA):=⟨by rw [HBC.1];rfl,by rw [HBC.2];rfl,HYW.out⟩
   obtain ⟨-,⟨r0,r1,r2,r3⟩,rf,l7⟩:=HRB.out w7 F7.2.1;obtain ⟨n0,n1,n2,n3⟩:=F7.2.2;have lN:N<w7.heap.size:=zJ _ _ n0;go_wp2
   exact bodyPost_ret (v := .tuple #[.agg #[.slice pa YW.pn pc, .slice sa YW.sn sc, .slice wa YW.wn wc, .slice ha YW.hn hc], .int .i64 0]) (by simp [results, Tryz.results11, go_sem, r0, r1, r2, r3]) rfl ⟨_, by rw [HV.1], by
    rw [HV.2.1,<- HV.2.2]
    exact ((((F7.1.setBelow l1 0 _).setBelow l1 1 _).setBelow l1 2 _).setBelow l1 3 _).base B1.1.size,(((((B1.1.trans (F7.2.1.mono B1.1.size))).setCell hM _).setCell hM _).setCell hM _).setCell hM _⟩
