import Derived.Test.YtnfdnnmddadmkaaGreatDoorOg43
import Derived.Laws.CopyRow
import Derived.Test.YtnfdnnmddadmkaaGreatDoorOg44
namespace Go.Proofs.YtnfdnnmddadmkaaGreatDoor
set_option maxRecDepth 100000
set_option maxHeartbeats 8000000
open Go.ChangeShapes Go.WideShapes Go.ChangeAt Go.RowKit Go.Deep Go.Sort
theorem qpb {t e:TypeId} {size bytes:Nat} (K:Kind t e size bytes) (w:World) (ty:TypeId) (a0:Option Addr) (m c:Nat) (news:List Value) (hl:news.length=m*size) (hsrc:Src w a0 news) (h1:∀ u ∈ news,u.oneCell'=true) (cs:Array Value) (hz:cs.size=m*size):
  (Builtin.copy_ #[t,t] ty #[.slice (some ⟨w.heap.size,0,none⟩) m m,.slice a0 m c]).run Tryz.prog (w.alloc (.cells cs e))=.ok (goInt m) (w.alloc (.cells news.toArray e)):=by
 obtain ⟨i,z,hi,-,hs,-,-⟩:=K.inf
 have hg:(w.alloc (.cells cs e)).heap[w.heap.size]? = some (.cells cs e (0,0)):=heap_alloc_new w _
 have hst:=run_storeCells_at Tryz.prog w.heap.size 0 e news 0 cs (w.alloc (.cells cs e)) hg (by rw [hl,hz];omega) h1
 have hmin:Nat.min m m=m:=Nat.min_self m
 cases a0 with
 | none=>
  have hn0:news=[]:=by
   rcases hsrc with h | ⟨b,off,e,_⟩
   ·exact h
   ·cases e
  subst hn0
  have hm:m=0:=by
   simp only [List.length_nil] at hl
   rcases Nat.eq_zero_or_pos m with h | h
   ·exact h
   ·have:=Nat.mul_pos h K.pos
    omega
  subst hm
  have hc:cs=#[]:=by
   have:cs.size=0:=by omega
   exact Array.eq_empty_of_size_eq_zero this
  subst hc
  simp [Builtin.copy_,run_underlying K.und,Builtin.lenOf,Builtin.firstCells,sizeOf,typeInfo,hi,storeCells]
 | some a=>
  have hnews:∀ j u,news[j]? = some u->(w.alloc (.cells cs e)).cell? (a.add j)=some u:=by
   rcases hsrc with h0 | ⟨b,off,e,hlt,hc⟩
   ·subst h0
    intro j u hj
    simp at hj
   ·cases e
    intro j u hj
    have ha:Addr.add ⟨b,off,none⟩ j=⟨b,off+j,none⟩:=by unfold Addr.add;split <;> simp_all
    rw [ha]
    exact ((zT w _).cell (p:=⟨b,off+j,none⟩) hlt).trans (hc j u hj)
  have hld:=run_loadCells_list (P:=Tryz.prog) (w.alloc (.cells cs e)) a news hnews
  rw [hl] at hld
  simp only [List.take_zero,List.nil_append,Nat.zero_add] at hst
  rw [List.drop_of_length_le (by simp [hl,hz]),List.append_nil,qgm] at hst
  simp [Builtin.copy_,run_underlying K.und,Builtin.lenOf,Builtin.firstCells,sizeOf,typeInfo,hi,hs,hld,hst]
theorem qpg {t e:TypeId} {size bytes:Nat} (K:Kind t e size bytes) (n:Nat) (hn:n<=1048576):∃ cs:Array Value,cs.size=n*size/\∀ w:World,(Instr.makeSlice t (.int .i64 (n:Int)) (.int .i64 (n:Int))).run Tryz.prog w=.ok (.slice (some ⟨w.heap.size,0,none⟩) n n) (w.alloc (.cells cs e)):=by
 obtain ⟨i,z,hi,hz,hs,hb,hzs⟩:=K.inf
 refine ⟨madeCells z.cells (n*size),size_madeCells _ _,fun w=>?_⟩
 have hby:i.bytes*n<=281474976710656:=by
  rw [hb]
  exact zP (Nat.mul_le_mul K.sml hn) (by omega)
 have hby':(i.bytes:Int)*(n:Int)<=281474976710656:=by rw [<- Int.natCast_mul];exact Int.ofNat_le.2 hby
 have h:=run_make (P:=Tryz.prog) w t e i z K.und hi hz .i64 .i64 (n:Int) (n:Int) (by omega) (by omega) hby' (by omega)
 rw [hs,Int.toNat_natCast] at h
 exact h
theorem kndW:Kind 30 37 2 16:=by
 refine ⟨Tryz.underlying30,?_,by omega,by omega⟩
 obtain ⟨i,hi,hz0,hz1,hz2⟩:=qi0
 exact ⟨i,_,hi,hz0,hz1,hz2,rfl⟩
theorem qmh (h:Nat->Wo2):∀ n,∀ u ∈ flW h n,u.oneCell'=true
 | 0,u,hu=>by simp [flW] at hu
 | n+1,u,hu=>by
  rw [flW,List.mem_append] at hu
  rcases hu with hu | hu
  ·exact qmh h n u hu
  ·simp at hu
   rcases hu with rfl | rfl <;> rfl
theorem WoL.src {w:World} {a:Option Addr} {n:Nat} {h:Nat->Wo2} (o:WoL w a n h):Src w a (flW h n):=by
 rcases o with rfl | ⟨b,off,e,hb,ha⟩
 ·exact .inl rfl
 ·refine .inr ⟨b,off,e,hb,fun j u hj=>?_⟩
  have hjl:j<n*2:=by
   rw [<- qcj h n]
   rcases Nat.lt_or_ge j (flW h n).length with h9 | h9
   ·exact h9
   ·rw [List.getElem?_eq_none h9] at hj
    cases hj
  obtain ⟨c0,c1⟩:=ha (j / 2) (by omega)
  obtain ⟨f0,f1⟩:=qkp h n (j / 2) (by omega)
  have he:j=j / 2*2\/j=j / 2*2+1:=by omega
  rcases he with e9 | e9
  ·rw [<- e9] at f0 c0
   rw [hj] at f0
   rw [c0,f0]
  ·rw [<- e9] at f1
   rw [show off+j / 2*2+1=off+j from by omega] at c1
   rw [hj] at f1
   rw [c1,f1]
def OwV (w:World) (B:Nat) (v:Value) (n:Nat) (h:Nat->Wo2):Prop:=∃ g cap,v=.slice (some ⟨g,0,none⟩) n cap/\B<=g/\g<w.heap.size/\WoAt w g 0 n h/\∀ j,w.frozen? ⟨g,j,none⟩=false
theorem OwR.v {w:World} {B n:Nat} {v:Value} {h:Nat->Wo2} (o:OwR w B v n h):OwV w B v n h:=o.form
theorem OwV.mono {w:World} {B B' n:Nat} {v:Value} {h:Nat->Wo2} (o:OwV w B v n h) (hb:B'<=B):OwV w B' v n h:=by
 obtain ⟨g,c,e,h1,r⟩:=o
 exact ⟨g,c,e,by omega,r⟩
theorem OwV.ofBlock {w w':World} {B n:Nat} {v:Value} {h:Nat->Wo2} (o:OwV w B v n h) (hs:w.heap.size<=w'.heap.size) (ha:∀ k,v.ownBlock=some k->w'.heap[k]? = w.heap[k]?):OwV w' B v n h:=by
 obtain ⟨g,c,rfl,h1,h2,h3,h4⟩:=o
 have hb:=ha g rfl
 exact ⟨g,c,rfl,h1,by omega,fun i hi=>⟨(zH hb).trans (h3 i hi).1,(zH hb).trans (h3 i hi).2⟩,fun j=>(zI hb).trans (h4 j)⟩
theorem OwV.lt {w:World} {B n:Nat} {v:Value} {h:Nat->Wo2} (o:OwV w B v n h):∀ j,v.ownBlock=some j->B<=j/\j<w.heap.size:=by
 obtain ⟨g,c,rfl,h1,h2,-,-⟩:=o
 intro j hj
 obtain rfl:g=j:=by cases hj;rfl
 exact ⟨h1,h2⟩
theorem OwV.below {w w':World} {B n:Nat} {v:Value} {h:Nat->Wo2} (o:OwV w B v n h) (hb:Below w.heap.size w w'):OwV w' B v n h:=o.ofBlock hb.size fun k hk=>hb.block k (o.lt k hk).2
theorem OwV.touch {w w':World} {B n:Nat} {v:Value} {h:Nat->Wo2} {P:Nat->Prop} (o:OwV w B v n h) (ht:qam P w w') (hp:∀ g,v.ownBlock=some g->¬ P g):OwV w' B v n h:=o.ofBlock ht.size fun k hk=>ht.block k (o.lt k hk).2 (hp k hk)
theorem OwV.form {w:World} {B n:Nat} {v:Value} {h:Nat->Wo2} (o:OwV w B v n h):∃ g cap,v=.slice (some ⟨g,0,none⟩) n cap/\B<=g/\g<w.heap.size/\WoAt w g 0 n h/\∀ j,w.frozen? ⟨g,j,none⟩=false:=o
theorem OwV.put2 {w:World} {B g c n K:Nat} {h h':Nat->Wo2} (o:OwV w B (.slice (some ⟨g,0,none⟩) n c) n h) (hK:K+1<n) (h0:h' K=h (K+1)) (h1:h' (K+1)=h K) (ho:∀ i,i≠K->i≠K+1->h' i=h i) (w':World) (hs:w'.heap.size=w.heap.size) (hf:∀ j,w'.frozen? ⟨g,j,none⟩=w.frozen? ⟨g,j,none⟩)
  (c0:w'.cell? ⟨g,K*2,none⟩=some (.int .i64 (h (K+1)).m)) (c1:w'.cell? ⟨g,K*2+1,none⟩=some (.int .i64 (h (K+1)).v)) (c2:w'.cell? ⟨g,(K+1)*2,none⟩=some (.int .i64 (h K).m)) (c3:w'.cell? ⟨g,(K+1)*2+1,none⟩=some (.int .i64 (h K).v))
  (hc:∀ j,j≠K*2->j≠K*2+1->j≠(K+1)*2->j≠(K+1)*2+1->w'.cell? ⟨g,j,none⟩=w.cell? ⟨g,j,none⟩):OwV w' B (.slice (some ⟨g,0,none⟩) n c) n h':=by
 obtain ⟨g',c',e,q1,q2,q3,q4⟩:=o
 simp only [Value.slice.injEq,Option.some.injEq,Addr.mk.injEq,and_true,true_and] at e
 obtain ⟨rfl,rfl⟩:=e
 refine ⟨g,c,rfl,q1,by omega,fun i hi=>?_,fun j=>(hf j).trans (q4 j)⟩
 rw [Nat.zero_add]
 by_cases e0:i=K
 ·subst e0
  rw [h0]
  exact ⟨c0,c1⟩
 by_cases e1:i=K+1
 ·subst e1
  rw [h1]
  exact ⟨c2,c3⟩
 have q:=q3 i hi
 rw [Nat.zero_add] at q
 rw [ho i e0 e1,hc _ (by omega) (by omega) (by omega) (by omega),hc _ (by omega) (by omega) (by omega) (by omega)]
 exact q
def swH (h:Nat->Wo2) (K:Nat) (i:Nat):Wo2:=if i=K then h (K+1) else if i=K+1 then h K else h i
theorem qjo (h:Nat->Wo2) (K:Nat):swH h K K=h (K+1):=if_pos rfl
theorem qjp (h:Nat->Wo2) (K:Nat):swH h K (K+1)=h K:=by
 unfold swH
 rw [if_neg (by omega),if_pos rfl]
theorem qjq (h:Nat->Wo2) (K i:Nat) (h0:i≠K) (h1:i≠K+1):swH h K i=h i:=by
 unfold swH
 rw [if_neg h0,if_neg h1]
theorem qiq (ea:Option Addr) (n cap:Nat) (h:Nat->Wo2) (w:World) (hn:n<=1048576) (hS:WoL w ea n h):
  Calls Tryz.prog 40 #[.slice ea n cap] w fun e w'=>∃ v,e=.returned v/\OwV w' w.heap.size v n h/\Below w.heap.size w w':=by
 have hn':(n:Int)<=1048576:=by omega
 obtain ⟨cs,hcs,hmk⟩:=qpg kndW n hn
 have hcp:=qpb kndW w 3 ea n cap (flW h n) (qcj _ _) hS.src (qmh _ _) cs hcs
 have HO:Hid (OwV (w.alloc (.cells (flW h n).toArray 37)) w.heap.size (.slice (some ⟨w.heap.size,0,none⟩) n n) n h/\Below w.heap.size w (w.alloc (.cells (flW h n).toArray 37))):=by
  refine ⟨OwR.v ⟨?_,by simp⟩,zT _ _⟩
  exact World.ownsRow_lit (base:=w.heap.size) (e:=37) (size:=2) w (flW h n).toArray n (Nat.le_refl _) (by unfold maxLen;omega) (by simp [qcj])
 clear hS hcs
 go_enter Tryz.func40,Tryz.ntmps40
 go_wp2
 go_ret
 exact ⟨_,rfl,HO.out⟩
theorem quo (x:SysIn) (W1:World) (hhn:x.hn=x.pn) (cs:List Value) (hcs:hisZ x.ha x.hn x.hc=cs):HisQ ((W1.alloc (zQ4)).setCells W1.heap.size 0 cs) W1.heap.size x.ha x.hc x.y.hs (fun _=>0)/\Below W1.heap.size W1 ((W1.alloc (zQ4)).setCells W1.heap.size 0 cs):=by
 subst hcs
 have hT:(W1.alloc (zQ4)).there W1.heap.size 0 (hisZ x.ha x.hn x.hc).toArray.size:=qbt _ _ _ _ _ (by rfl) rfl
 have hR:((W1.alloc (zQ4)).setCells W1.heap.size 0 (hisZ x.ha x.hn x.hc)).rangeAt W1.heap.size 0 (hisZ x.ha x.hn x.hc):=World.rangeAt_setCells_same _ _ _ _ (by simpa using hT)
 have tS:qam (fun b=>b=W1.heap.size) (W1.alloc (zQ4)) ((W1.alloc (zQ4)).setCells W1.heap.size 0 (hisZ x.ha x.hn x.hc)):=qam.sets (P:=fun b=>b=W1.heap.size) rfl _ _ (qam.refl _ _)
 refine ⟨HisQ.of_range hR hhn (fun j=>(World.frozen?_setCells _ _ _ _ _).trans (yB _ _ _ _ rfl)),(zT _ _).trans (tS.below (by simp) fun c e=>by have e:c=W1.heap.size:=e;omega)⟩
theorem qe9 (x:SysIn) (la:Option Addr) (n lc:Nat) (h:Nat->Wo2) (w:World) (hG:SysG w x) (hL:x.Len) (hW:WoL w la n h) (hn:n<=1048576) (hV:w.cell? ⟨0,0,none⟩=some (.iface 310 (.agg #[.pointer (some ⟨1,217,none⟩)]))):
  Calls Tryz.prog 11 #[x.v,.slice la n lc] w fun e w'=>e=.returned (.bool (rwB x.y h n))/\Below w.heap.size w w':=by
 have HSo:Hid (∀ wx,Below w.heap.size w wx->Calls Tryz.prog 20 #[x.v] wx fun e w'=>e=.returned (.bool x.y.okB)/\Below wx.heap.size wx w'):=fun wx hb=>qfa x wx (hG.below hb) hL ((hb.cell (zJ w _ hV)).trans hV)
 have HPt:Hid (x.y.Ok->∀ X wx,Below w.heap.size w wx->w.heap.size<=X->HisQ wx X x.ha x.hc x.y.hs (fun _=>0)->Calls Tryz.prog 43 #[.pointer (some ⟨X,0,none⟩),.slice la n lc] wx fun e w'=>e=.returned (.bool (qB (x.y.hs.RwOk h n)))/\Below w.heap.size w w'):=fun hO X wx hb hX hq=>qss X x.ha x.hc x.hA x.hC x.y.hs la n lc h w wx (hG.his hO.cn.2.2.1) hb hX hq hO.cn.1.2 (fun p hp i hi=>hO.evq hp hi) (fun i hi=>hO.hl200 hi) hW hn
 have HR:Hid (rwB x.y h n=(x.y.okB && qB (x.y.hs.RwOk h n))):=rfl
 have B0:Hid (Below w.heap.size w (w.alloc (oQ4 x.pa x.pn x.pc x.sa x.sn x.sc x.wa x.wn x.wc x.ha x.hn x.hc))):=zT _ _
 have X0:Hid (BoxC (w.alloc (oQ4 x.pa x.pn x.pc x.sa x.sn x.sc x.wa x.wn x.wc x.ha x.hn x.hc)) w.heap.size (.slice x.pa x.pn x.pc) (.slice x.sa x.sn x.sc) (.slice x.wa x.wn x.wc) (.slice x.ha x.hn x.hc)):=BoxC.new w _ _ _ _ _
 clear hG hL hW hV
 go_enter Tryz.func11,Tryz.ntmps11
 go_wp2_with fail
 generalize w.alloc (oQ4 x.pa x.pn x.pc x.sa x.sn x.sc x.wa x.wn x.wc x.ha x.hn x.hc)=W0 at *
 refine (HSo.out W0 B0.out).mono ?_
 rintro e W1 ⟨rfl,b2⟩
 have B2:Hid (Below w.heap.size w W1/\BoxC W1 w.heap.size (.slice x.pa x.pn x.pc) (.slice x.sa x.sn x.sc) (.slice x.wa x.wn x.wc) (.slice x.ha x.hn x.hc)):=⟨B0.out.trans (b2.mono B0.out.size),X0.out.below b2⟩
 clear b2 B0 X0 HSo
 by_cases hok:x.y.okB=true
 case neg=>
  have hok':x.y.okB=false:=by simpa using hok
  rw [hok'] at HR ⊢
  go_wp2
  go_ret
  exact ⟨by rw [HR.out];rfl,B2.out.1⟩
 rw [hok] at HR ⊢
 have HO:Hid (x.y.Ok):=Sy.ok_of hok
 have hl:=qno x.ha x.hn x.hc
 have ho:=qnp x.ha x.hn x.hc
 generalize hcs:hisZ x.ha x.hn x.hc=cs at *
 have HC:Hid (hisZ x.ha x.hn x.hc=cs):=hcs
 have HI:Hid ((Tryz.prog.info? 78).map (·.size)=some cs.length):=by
  show _=_
  rw [hl];exact qtu
 have HOne:Hid (cs.toArray.all (·.oneCell')=true):=all_oneCell_toArray ho
 have HT:Hid ((W1.alloc (zQ4)).there W1.heap.size 0 cs.toArray.size):=qbt _ _ _ _ _ (by have h9:cs.toArray.size=21:=hl;rw [h9];rfl) rfl
 have HN:Hid (HisQ ((W1.alloc (zQ4)).setCells W1.heap.size 0 cs) W1.heap.size x.ha x.hc x.y.hs (fun _=>0)/\Below W1.heap.size W1 ((W1.alloc (zQ4)).setCells W1.heap.size 0 cs)):=quo x W1 HO.out.cn.2.2.1 cs hcs
 obtain ⟨s0,s1,s2,s3⟩:=B2.out.2
 clear hok hl ho hcs
 go_upto_region 4 with (refine wpList_store_mid rfl 78 (.tmp 5) (.tmp 11) rfl W1.heap.size 0 cs.toArray rfl (by rw [<- HC.out];rfl) HT.out (by simpa using HI.out) HOne.out ?_)
 clear s0 s1 s2 s3 HT HC HI HOne
 generalize (W1.alloc (zQ4)).setCells W1.heap.size 0 cs=W3 at *
 go_wp2_with fail
 refine (HPt.out HO.out W1.heap.size W3 (B2.out.1.trans (HN.out.2.mono B2.out.1.size)) B2.out.1.size HN.out.1).mono ?_
 rintro e w4 ⟨rfl,b4⟩
 have B4:Hid (Below w.heap.size w w4/\qB (x.y.hs.RwOk h n)=rwB x.y h n):=⟨b4,by rw [HR.out];rfl⟩
 rw [B4.out.2]
 clear b4 HN B2 HR
 go_wp2
 go_ret
 exact ⟨rfl,B4.out.1⟩
noncomputable def swB (y:Sy) (h:Nat->Wo2) (n:Nat) (k:Int):Bool:=(belB k ((n:Int) - 1) && rwB y h n) && sdB y (h k.toNat).m (h k.toNat).v (h (k.toNat+1)).m (h (k.toNat+1)).v
noncomputable def swN (y:Sy) (h:Nat->Wo2) (n:Nat) (k:Int):Nat:=if swB y h n k=true then n else 0
structure SwX (w:World) (x:SysIn) (A B:Nat) (p q:Wo2) (wx:World):Prop where
 be:Below w.heap.size w wx
 bs:BoxC wx w.heap.size (.slice x.pa x.pn x.pc) (.slice x.sa x.sn x.sc) (.slice x.wa x.wn x.wc) (.slice x.ha x.hn x.hc)
 bA:BoxS wx A (.int .i64 p.m) (.int .i64 p.v)
 bB:BoxS wx B (.int .i64 q.m) (.int .i64 q.v)
theorem SwX.below {w:World} {x:SysIn} {A B:Nat} {p q:Wo2} {wx wy:World} (h:SwX w x A B p q wx) (hb:Below wx.heap.size wx wy):SwX w x A B p q wy:=⟨h.be.trans (hb.mono h.be.size),h.bs.below hb,h.bA.below hb,h.bB.below hb⟩
theorem qmb {w:World} {g a0 a1 a2 a3:Nat} {u0 u1 u2 u3:Value} (d01:a0≠a1) (d02:a0≠a2) (d03:a0≠a3) (d12:a1≠a2) (d13:a1≠a3) (d23:a2≠a3) (e0:(w.cell? ⟨g,a0,none⟩).isSome=true) (e1:(w.cell? ⟨g,a1,none⟩).isSome=true) (e2:(w.cell? ⟨g,a2,none⟩).isSome=true) (e3:(w.cell? ⟨g,a3,none⟩).isSome=true):
  let w':=(((w.setCell ⟨g,a0,none⟩ u0).setCell ⟨g,a1,none⟩ u1).setCell ⟨g,a2,none⟩ u2).setCell ⟨g,a3,none⟩ u3
  w'.cell? ⟨g,a0,none⟩=some u0/\w'.cell? ⟨g,a1,none⟩=some u1/\w'.cell? ⟨g,a2,none⟩=some u2/\w'.cell? ⟨g,a3,none⟩=some u3/\(∀ j,j≠a0->j≠a1->j≠a2->j≠a3->w'.cell? ⟨g,j,none⟩=w.cell? ⟨g,j,none⟩)/\(∀ j,w'.frozen? ⟨g,j,none⟩=w.frozen? ⟨g,j,none⟩)/\w'.heap.size=w.heap.size/\qam (fun b=>b=g) w w':=by
 have ho:∀ (W:World) (i j:Nat) (u:Value),i≠j->(W.setCell ⟨g,i,none⟩ u).cell? ⟨g,j,none⟩=W.cell? ⟨g,j,none⟩:=fun W i j u hij=>World.cell?_setCell_other _ _ _ _ (by intro e;injection e with _ e;exact hij e)
 refine ⟨?_,?_,?_,?_,fun j h0 h1 h2 h3=>?_,fun j=>?_,by simp,?_⟩
 ·rw [ho _ _ _ _ d03.symm,ho _ _ _ _ d02.symm,ho _ _ _ _ d01.symm]
  exact World.cell?_setCell_same' _ _ _ e0
 ·rw [ho _ _ _ _ d13.symm,ho _ _ _ _ d12.symm]
  exact World.cell?_setCell_same' _ _ _ (by rw [ho _ _ _ _ d01];exact e1)
 ·rw [ho _ _ _ _ d23.symm]
  exact World.cell?_setCell_same' _ _ _ (by rw [ho _ _ _ _ d12,ho _ _ _ _ d02];exact e2)
 ·exact World.cell?_setCell_same' _ _ _ (by rw [ho _ _ _ _ d23,ho _ _ _ _ d13,ho _ _ _ _ d03];exact e3)
 ·rw [ho _ _ _ _ h3.symm,ho _ _ _ _ h2.symm,ho _ _ _ _ h1.symm,ho _ _ _ _ h0.symm]
 ·rw [World.frozen?_setCell,World.frozen?_setCell,World.frozen?_setCell,World.frozen?_setCell]
 ·exact (((qam.of_set (P:=fun b=>b=g) w (a:=⟨g,a0,none⟩) rfl _).trans (qam.of_set (P:=fun b=>b=g) _ (a:=⟨g,a1,none⟩) rfl _)).trans (qam.of_set (P:=fun b=>b=g) _ (a:=⟨g,a2,none⟩) rfl _)).trans (qam.of_set (P:=fun b=>b=g) _ (a:=⟨g,a3,none⟩) rfl _)
theorem qkw (x:SysIn) (la:Option Addr) (n lc:Nat) (h:Nat->Wo2) (k:Int) (w:World) (hG:SysG w x) (hL:x.Len) (hcap:∀ i,i<x.hn->x.hL i<=x.hC i) (hW:WoL w la n h) (hn:n<=1048576) (hV:w.cell? ⟨0,0,none⟩=some (.iface 310 (.agg #[.pointer (some ⟨1,217,none⟩)]))):
  Calls Tryz.prog 9 #[x.v,.slice la n lc,.int .i64 k] w fun e w'=>∃ v,e=.returned (.tuple #[v,.bool (swB x.y h n k)])/\OwV w' w.heap.size v (swN x.y h n k) (swH h k.toNat)/\Below w.heap.size w w':=by
 have hVb:∀ wx,Below w.heap.size w wx->wx.cell? ⟨0,0,none⟩=some (.iface 310 (.agg #[.pointer (some ⟨1,217,none⟩)])):=fun wx hb=>(hb.cell (zJ w _ hV)).trans hV
 have HRo:Hid (∀ t,rwB x.y h n=t->∀ wx,Below w.heap.size w wx->Calls Tryz.prog 11 #[x.v,.slice la n lc] wx fun e w'=>e=.returned (.bool t)/\Below wx.heap.size wx w'):=fun t ht wx hb=>by
  rw [<- ht]
  exact qe9 x la n lc h wx (hG.below hb) hL (hW.below hb) hn (hVb wx hb)
 have HSd:Hid (∀ a b c d t,sdB x.y a b c d=t->∀ wx,Below w.heap.size w wx->Calls Tryz.prog 39 #[x.v,.int .i64 a,.int .i64 b,.int .i64 c,.int .i64 d] wx fun e w'=>e=.returned (.bool t)/\Below wx.heap.size wx w'):=fun a b c d t ht wx hb=>by
  rw [<- ht]
  exact qkv x a b c d wx (hG.below hb) hL hcap (hVb wx hb)
 have HCp:Hid (∀ wx,Below w.heap.size w wx->Calls Tryz.prog 40 #[.slice la n lc] wx fun e w'=>∃ v,e=.returned v/\OwV w' wx.heap.size v n h/\Below wx.heap.size wx w'):=fun wx hb=>qiq la n lc h wx hn (hW.below hb)
 have HW:Hid (∀ wx,Below w.heap.size w wx->WoL wx la n h):=fun wx hb=>hW.below hb
 have HEm:Hid (swB x.y h n k=false->∀ wx,Below w.heap.size w wx->OwV (wx.alloc (.cells #[] 37)) w.heap.size (.slice (some ⟨wx.heap.size,0,none⟩) 0 0) (swN x.y h n k) (swH h k.toNat)/\Below w.heap.size w (wx.alloc (.cells #[] 37))):=fun hf wx hb=>by
  refine ⟨?_,hb.trans ((zT _ _).mono hb.size)⟩
  rw [show swN x.y h n k=0 by unfold swN;rw [hf];rfl]
  exact (OwR.empty wx _).v.mono hb.size
 have hn':(n:Int)<=1048576:=by omega
 have B0:Hid (Below w.heap.size w (w.alloc (oQ4 x.pa x.pn x.pc x.sa x.sn x.sc x.wa x.wn x.wc x.ha x.hn x.hc))/\BoxC (w.alloc (oQ4 x.pa x.pn x.pc x.sa x.sn x.sc x.wa x.wn x.wc x.ha x.hn x.hc)) w.heap.size (.slice x.pa x.pn x.pc) (.slice x.sa x.sn x.sc) (.slice x.wa x.wn x.wc) (.slice x.ha x.hn x.hc)):=⟨zT _ _,BoxC.new w _ _ _ _ _⟩
 clear hG hL hcap hW hV hVb
 go_enter Tryz.func9,Tryz.ntmps9
 go_upto_region 1 with fail
 generalize w.alloc (oQ4 x.pa x.pn x.pc x.sa x.sn x.sc x.wa x.wn x.wc x.ha x.hn x.hc)=W1 at *
 cases hb:belB k ((n:Int) - 1) with
 | false=>
  have HF:Hid (swB x.y h n k=false):=by
   show swB x.y h n k=false
   unfold swB
   rw [hb]
   rfl
  have HE:=HEm.out HF.out W1 B0.out.1
  go_wp2_with (go_at_call 38;refine (isBelow_any _ _ _).mono ?_;rintro e wI ⟨rfl,rfl⟩;rw [hb])
  refine bodyPost_ret (v:=.tuple #[.slice (some ⟨wI.heap.size,0,none⟩) 0 0,.bool false]) (by simp [results,Tryz.results9,go_sem]) rfl ⟨_,by rw [HF.out],HE⟩
 | true=>
  have hb9:0<=k/\k<(n:Int) - 1:=by simpa [belB] using hb
  obtain ⟨K,rfl⟩:∃ K:Nat,k=K:=⟨k.toNat,by omega⟩
  have hK:K+1<n:=by omega
  have hK1:(K:Int)<(n:Int):=by omega
  have hK2:(K:Int)+1<(n:Int):=by omega
  have hTn:Hid (((K:Nat):Int).toNat=K):=Int.toNat_natCast K
  cases hr:rwB x.y h n with
  | false=>
   have HF:Hid (swB x.y h n K=false):=by
    show swB x.y h n K=false
    unfold swB
    rw [hr,Bool.and_false]
    rfl
   obtain ⟨k0,k1,k2,k3⟩:=B0.out.2
   go_wp2_with (go_at_call 38;refine (isBelow_any _ _ _).mono ?_;rintro e wI ⟨rfl,rfl⟩;rw [hb])
   refine (HRo.out false hr _ B0.out.1).mono ?_
   rintro e w2 ⟨rfl,b2⟩
   have HE:=HEm.out HF.out w2 (B0.out.1.trans (b2.mono B0.out.1.size))
   clear k0 k1 k2 k3 b2
   go_wp2
   refine bodyPost_ret (v:=.tuple #[.slice (some ⟨w2.heap.size,0,none⟩) 0 0,.bool false]) (by simp [results,Tryz.results9,go_sem]) rfl ⟨_,by rw [HF.out],HE⟩
  | true=>
   obtain ⟨k0,k1,k2,k3⟩:=B0.out.2
   go_wp2_with (go_at_call 38;refine (isBelow_any _ _ _).mono ?_;rintro e wI ⟨rfl,rfl⟩;rw [hb])
   refine (HRo.out true hr _ B0.out.1).mono ?_
   rintro e w2 ⟨rfl,b2⟩
   have B2:Hid (Below w.heap.size w w2/\BoxC w2 w.heap.size (.slice x.pa x.pn x.pc) (.slice x.sa x.sn x.sc) (.slice x.wa x.wn x.wc) (.slice x.ha x.hn x.hc)):=⟨B0.out.1.trans (b2.mono B0.out.1.size),B0.out.2.below b2⟩
   clear k0 k1 k2 k3 b2 B0 HRo
   obtain ⟨b,off,rfl,zb,c0,c1⟩:=(HW.out w2 B2.out.1).at (show K<n by omega)
   obtain ⟨b',off',e',zb',d0,d1⟩:=(HW.out w2 B2.out.1).at hK
   obtain ⟨rfl,rfl⟩:b=b'/\off=off':=by simpa using e'
   have HP:Hid (∃ m0 v0 m1 v1,h K=⟨m0,v0⟩/\h (K+1)=⟨m1,v1⟩):=⟨_,_,_,_,rfl,rfl⟩
   obtain ⟨m0,v0,m1,v1,e0,e1⟩:=HP.out
   rw [e0] at c0 c1
   rw [e1] at d0 d1
   have HQ:Hid (h K=⟨m0,v0⟩/\h (K+1)=⟨m1,v1⟩):=⟨e0,e1⟩
   clear e' e0 e1 HP zb'
   have hwk:IntKind.i64.wrap ((K:Int)+1)=((K+1:Nat):Int):=by rw [IntKind.wrap_i64];omega
   have hK3:((K+1:Nat):Int)<(n:Int):=by omega
   have hK0:(0:Int)<=(K:Int)+1:=by omega
   go_upto_region 3 with fail
   go_cut [8,9] from 24 to 32 (fun s t wx=>∃ A B:Nat,s=.pointer (some ⟨A,0,none⟩)/\t=.pointer (some ⟨B,0,none⟩)/\Hid (SwX w x A B ⟨m0,v0⟩ ⟨m1,v1⟩ wx))
   case first=>
    have q0:Below w2.heap.size w2 w2.drew:=(Below.refl w2.heap.size w2).drew
    have hS:∀ wx,Below w2.heap.size w2 wx->(fun w':World=>w'.cell? ⟨b,off+K*2,none⟩=some (.int .i64 m0)/\w'.cell? ⟨b,off+K*2+1,none⟩=some (.int .i64 v0)/\w'.cell? ⟨b,off+(K+1)*2,none⟩=some (.int .i64 m1)/\w'.cell? ⟨b,off+(K+1)*2+1,none⟩=some (.int .i64 v1)) wx:=fun wx hb=>⟨(hb.cell zb).trans c0,(hb.cell zb).trans c1,(hb.cell zb).trans d0,(hb.cell zb).trans d1⟩
    refine qal (fun w':World=>w'.cell? ⟨b,off+K*2,none⟩=some (.int .i64 m0)/\w'.cell? ⟨b,off+K*2+1,none⟩=some (.int .i64 v0)/\w'.cell? ⟨b,off+(K+1)*2,none⟩=some (.int .i64 m1)/\w'.cell? ⟨b,off+(K+1)*2+1,none⟩=some (.int .i64 v1)) (fun _=>false) (by kernel_rfl) ?_
    have hHeld:(fun w':World=>w'.cell? ⟨b,off+K*2,none⟩=some (.int .i64 m0)/\w'.cell? ⟨b,off+K*2+1,none⟩=some (.int .i64 v0)/\w'.cell? ⟨b,off+(K+1)*2,none⟩=some (.int .i64 m1)/\w'.cell? ⟨b,off+(K+1)*2+1,none⟩=some (.int .i64 v1)) w2.drew:=hS _ q0
    refine qac 0 rfl hHeld ?_
    apply Exists.intro
    refine ⟨fun wq hSw=>?_,?_⟩
    ·obtain ⟨h0,h1,h2,h3⟩:=hSw
     go_simp
     try with_reducible rfl
    (try simp only [Act.put,zD,zE,zF])
    refine qac 1 rfl hHeld ?_
    apply Exists.intro
    refine ⟨fun wq hSw=>?_,?_⟩
    ·obtain ⟨h0,h1,h2,h3⟩:=hSw
     go_simp
     try with_reducible rfl
    (try simp only [Act.put,zD,zE,zF])
    refine qac 2 rfl hHeld ?_
    apply Exists.intro
    refine ⟨fun wq hSw=>?_,?_⟩
    ·obtain ⟨h0,h1,h2,h3⟩:=hSw
     go_simp
     try with_reducible rfl
    (try simp only [Act.put,zD,zE,zF])
    refine qac 3 rfl hHeld ?_
    apply Exists.intro
    refine ⟨fun wq hSw=>?_,?_⟩
    ·obtain ⟨h0,h1,h2,h3⟩:=hSw
     go_simp
     try with_reducible rfl
    (try simp only [Act.put,zD,zE,zF])
    refine qac 4 rfl hHeld ?_
    apply Exists.intro
    refine ⟨fun wq hSw=>?_,?_⟩
    ·obtain ⟨h0,h1,h2,h3⟩:=hSw
     go_simp
     try with_reducible rfl
    (try simp only [Act.put,zD,zE,zF])
    refine qac 5 rfl hHeld ?_
    apply Exists.intro
    refine ⟨fun wq hSw=>?_,?_⟩
    ·obtain ⟨h0,h1,h2,h3⟩:=hSw
     go_simp
     try with_reducible rfl
    (try simp only [Act.put,zD,zE,zF])
    refine qac 6 rfl hHeld ?_
    apply Exists.intro
    refine ⟨fun wq hSw=>?_,?_⟩
    ·obtain ⟨h0,h1,h2,h3⟩:=hSw
     go_simp
     try with_reducible rfl
    (try simp only [Act.put,zD,zE,zF])
    refine qac 7 rfl hHeld ?_
    apply Exists.intro
    refine ⟨fun wq hSw=>?_,?_⟩
    ·obtain ⟨h0,h1,h2,h3⟩:=hSw
     go_simp
     try with_reducible rfl
    (try simp only [Act.put,zD,zE,zF])
    refine qac 8 rfl hHeld ?_
    apply Exists.intro
    refine ⟨fun wq hSw=>?_,?_⟩
    ·obtain ⟨h0,h1,h2,h3⟩:=hSw
     go_simp
     try with_reducible rfl
    (try simp only [Act.put,zD,zE,zF])
    have hB1:∀ o1,Below w2.heap.size w2 (w2.alloc o1).drew:=fun o1=>(zT w2 o1).drew
    have hB2:∀ o1 o2,Below w2.heap.size w2 ((w2.alloc o1).alloc o2).drew:=fun o1 o2=>((zT w2 o1).trans ((zT _ o2).mono (by simp))).drew
    have hF:∀ (a b c d:Int),BoxS ((w2.alloc (oQ5 a b)).alloc (oQ5 c d)).drew w2.heap.size (.int .i64 a) (.int .i64 b)/\BoxS ((w2.alloc (oQ5 a b)).alloc (oQ5 c d)).drew (w2.heap.size+1) (.int .i64 c) (.int .i64 d):=fun a b c d=>by
     have h9:=BoxS.new (w2.alloc (oQ5 a b)) (.int .i64 c) (.int .i64 d) 37
     rw [World.size_alloc] at h9
     exact ⟨(BoxS.new w2 (.int .i64 a) (.int .i64 b) 37).below (zT _ _).drew,h9⟩
    refine qhr 9 10 rfl rfl (by kernel_rfl) (fun Kc hKc=>?_) (fun Kc hKc=>?_)
    ·go_simp
     refine hKc.out _ _ (fun _=>hS _ (hB1 _)) ?_
     clear hKc Kc
     (try simp only [Act.put,zD,zE,zF])
     refine qab 10 rfl (by kernel_rfl) (fun Kc hKc=>?_)
     go_simp
     refine hKc.out _ _ (fun _=>hS _ (hB2 _ _)) ?_
     clear hKc Kc
     (try simp only [Act.put,zD,zE,zF])
     refine qab 11 rfl (by kernel_rfl) (fun Kc hKc=>?_)
     go_simp
     refine hKc.out _ _ (fun _=>hS _ (hB2 _ _)) ?_
     clear hKc Kc
     (try simp only [Act.put,zD,zE,zF])
     refine qab 12 rfl (by kernel_rfl) (fun Kc hKc=>?_)
     go_simp
     refine hKc.out _ _ (fun _=>hS _ (hB2 _ _)) ?_
     clear hKc Kc
     (try simp only [Act.put,zD,zE,zF])
     refine qat (by kernel_rfl) ?_ _
     go_wp2_with fail
     go_meet
     case rel=>exact ⟨_,_,by with_reducible rfl,by with_reducible rfl,⟨B2.out.1.trans ((hB2 _ _).mono B2.out.1.size),B2.out.2.below (hB2 _ _),(hF m0 v0 m1 v1).1,(hF m0 v0 m1 v1).2⟩⟩
    ·go_simp
     refine hKc.out _ _ (fun _=>hS _ (hB1 _)) ?_
     clear hKc Kc
     (try simp only [Act.put,zD,zE,zF])
     refine qab 9 rfl (by kernel_rfl) (fun Kc hKc=>?_)
     go_simp
     refine hKc.out _ _ (fun _=>hS _ (hB2 _ _)) ?_
     clear hKc Kc
     (try simp only [Act.put,zD,zE,zF])
     refine qab 11 rfl (by kernel_rfl) (fun Kc hKc=>?_)
     go_simp
     refine hKc.out _ _ (fun _=>hS _ (hB2 _ _)) ?_
     clear hKc Kc
     (try simp only [Act.put,zD,zE,zF])
     refine qab 12 rfl (by kernel_rfl) (fun Kc hKc=>?_)
     go_simp
     refine hKc.out _ _ (fun _=>hS _ (hB2 _ _)) ?_
     clear hKc Kc
     (try simp only [Act.put,zD,zE,zF])
     refine qat (by kernel_rfl) ?_ _
     go_wp2_with fail
     go_meet
     case rel=>exact ⟨_,_,by with_reducible rfl,by with_reducible rfl,⟨B2.out.1.trans ((hB2 _ _).mono B2.out.1.size),B2.out.2.below (hB2 _ _),(hF m1 v1 m0 v0).2,(hF m1 v1 m0 v0).1⟩⟩
   obtain ⟨A,B,rfl,rfl,HX⟩:=hcut
   rename World=>w4
   clear c0 c1 d0 d1 B2 zb
   obtain ⟨k0,k1,k2,k3⟩:=HX.out.bs
   obtain ⟨s0,s1⟩:=HX.out.bA
   obtain ⟨t0,t1⟩:=HX.out.bB
   go_wp2_with fail
   clear k0 k1 k2 k3 s0 s1 t0 t1
   cases hd:sdB x.y m0 v0 m1 v1 with
   | false=>
    have HF:Hid (swB x.y h n K=false):=by
     show swB x.y h n K=false
     unfold swB
     rw [hTn.out,HQ.out.1,HQ.out.2,hd,Bool.and_false]
    refine (HSd.out m0 v0 m1 v1 false hd w4 HX.out.be).mono ?_
    rintro e w5 ⟨rfl,b5⟩
    have HE:=HEm.out HF.out w5 (HX.out.below b5).be
    clear b5
    go_wp2
    refine bodyPost_ret (v:=.tuple #[.slice (some ⟨w5.heap.size,0,none⟩) 0 0,.bool false]) (by simp [results,Tryz.results9,go_sem]) rfl ⟨_,by rw [HF.out],HE⟩
   | true=>
    have HF:Hid (swB x.y h n K=true/\swN x.y h n K=n):=by
     have h9:swB x.y h n K=true:=by
      unfold swB
      rw [hTn.out,HQ.out.1,HQ.out.2,hd,hb,hr]
      rfl
     exact ⟨h9,if_pos h9⟩
    refine (HSd.out m0 v0 m1 v1 true hd w4 HX.out.be).mono ?_
    rintro e w5 ⟨rfl,b5⟩
    have H5:Hid (SwX w x A B ⟨m0,v0⟩ ⟨m1,v1⟩ w5):=HX.out.below b5
    clear b5 HX
    go_wp2_with fail
    refine (HCp.out w5 H5.out.be).mono ?_
    rintro e w6 ⟨v6,rfl,o6,b6⟩
    obtain ⟨g,cg,rfl,gB,gl,ga,gf⟩:=o6
    have H6:Hid (SwX w x A B ⟨m0,v0⟩ ⟨m1,v1⟩ w6/\A<w5.heap.size/\B<w5.heap.size/\w.heap.size<=w5.heap.size):=⟨H5.out.below b6,H5.out.bA.lt,H5.out.bB.lt,H5.out.be.size⟩
    have HOg:Hid (OwV w6 w5.heap.size (.slice (some ⟨g,0,none⟩) n cg) n h):=⟨g,cg,rfl,gB,gl,ga,gf⟩
    obtain ⟨a0,a1⟩:=ga K (by omega)
    obtain ⟨a2,a3⟩:=ga (K+1) hK
    rw [Nat.zero_add] at a0 a1 a2 a3
    have hgA:g≠A:=by have:=H6.out.2.1;omega
    have hgB:g≠B:=by have:=H6.out.2.2.1;omega
    go_upto_region 7 with fail
    have q0:Below w6.heap.size w6 w6.drew:=(Below.refl w6.heap.size w6).drew
    refine qal (fun w':World=>w'.cell? ⟨A,0,none⟩=some (.int .i64 m0)/\w'.cell? ⟨A,1,none⟩=some (.int .i64 v0)/\w'.cell? ⟨B,0,none⟩=some (.int .i64 m1)/\w'.cell? ⟨B,1,none⟩=some (.int .i64 v1)) (fun _=>false) (by kernel_rfl) ?_
    have hS:∀ wx,(∀ j,wx.cell? ⟨A,j,none⟩=w6.cell? ⟨A,j,none⟩)->(∀ j,wx.cell? ⟨B,j,none⟩=w6.cell? ⟨B,j,none⟩)->(fun w':World=>w'.cell? ⟨A,0,none⟩=some (.int .i64 m0)/\w'.cell? ⟨A,1,none⟩=some (.int .i64 v0)/\w'.cell? ⟨B,0,none⟩=some (.int .i64 m1)/\w'.cell? ⟨B,1,none⟩=some (.int .i64 v1)) wx:=fun wx hA hB=>⟨(hA _).trans H6.out.1.bA.1,(hA _).trans H6.out.1.bA.2,(hB _).trans H6.out.1.bB.1,(hB _).trans H6.out.1.bB.2⟩
    have hHeld:(fun w':World=>w'.cell? ⟨A,0,none⟩=some (.int .i64 m0)/\w'.cell? ⟨A,1,none⟩=some (.int .i64 v0)/\w'.cell? ⟨B,0,none⟩=some (.int .i64 m1)/\w'.cell? ⟨B,1,none⟩=some (.int .i64 v1)) w6.drew:=hS _ (fun _=>rfl) (fun _=>rfl)
    refine qac 0 rfl hHeld ?_
    apply Exists.intro
    refine ⟨fun wq hSw=>?_,?_⟩
    ·obtain ⟨h0,h1,h2,h3⟩:=hSw
     go_simp
     try with_reducible rfl
    (try simp only [Act.put,zD,zE,zF])
    refine qac 1 rfl hHeld ?_
    apply Exists.intro
    refine ⟨fun wq hSw=>?_,?_⟩
    ·obtain ⟨h0,h1,h2,h3⟩:=hSw
     go_simp
     try with_reducible rfl
    (try simp only [Act.put,zD,zE,zF])
    refine qac 2 rfl hHeld ?_
    apply Exists.intro
    refine ⟨fun wq hSw=>?_,?_⟩
    ·obtain ⟨h0,h1,h2,h3⟩:=hSw
     go_simp
     try with_reducible rfl
    (try simp only [Act.put,zD,zE,zF])
    refine qac 3 rfl hHeld ?_
    apply Exists.intro
    refine ⟨fun wq hSw=>?_,?_⟩
    ·obtain ⟨h0,h1,h2,h3⟩:=hSw
     go_simp
     try with_reducible rfl
    (try simp only [Act.put,zD,zE,zF])
    refine qac 4 rfl hHeld ?_
    apply Exists.intro
    refine ⟨fun wq hSw=>?_,?_⟩
    ·obtain ⟨h0,h1,h2,h3⟩:=hSw
     go_simp
     try with_reducible rfl
    (try simp only [Act.put,zD,zE,zF])
    refine qac 5 rfl hHeld ?_
    apply Exists.intro
    refine ⟨fun wq hSw=>?_,?_⟩
    ·obtain ⟨h0,h1,h2,h3⟩:=hSw
     go_simp
     try with_reducible rfl
    (try simp only [Act.put,zD,zE,zF])
    refine qac 6 rfl hHeld ?_
    apply Exists.intro
    refine ⟨fun wq hSw=>?_,?_⟩
    ·obtain ⟨h0,h1,h2,h3⟩:=hSw
     go_simp
     try with_reducible rfl
    (try simp only [Act.put,zD,zE,zF])
    refine qac 7 rfl hHeld ?_
    apply Exists.intro
    refine ⟨fun wq hSw=>?_,?_⟩
    ·obtain ⟨h0,h1,h2,h3⟩:=hSw
     go_simp
     try with_reducible rfl
    (try simp only [Act.put,zD,zE,zF])
    have cz:∀ (W:World) (j:Nat) (u:Value) (D:Nat),D≠g->∀ t,(W.setCell ⟨g,j,none⟩ u).cell? ⟨D,t,none⟩=W.cell? ⟨D,t,none⟩:=fun W j u D hD t=>World.cell?_setCell_other _ _ _ _ (by intro e;injection e with e;exact hD e.symm)
    refine qab 8 rfl (by kernel_rfl) (fun Kc hKc=>?_)
    have f0:=gf (K*2)
    have f1:=gf (K*2+1)
    have f2:=gf ((K+1)*2)
    have f3:=gf ((K+1)*2+1)
    go_simp
    refine hKc.out _ _ (fun _=>hS _ (fun j=>by show World.cell? (World.setCell (World.setCell _ _ _) _ _) _=_;rw [cz _ _ _ _ hgA.symm,cz _ _ _ _ hgA.symm]) (fun j=>by show World.cell? (World.setCell (World.setCell _ _ _) _ _) _=_;rw [cz _ _ _ _ hgB.symm,cz _ _ _ _ hgB.symm])) ?_
    clear hKc Kc
    have hHeld:(fun w':World=>w'.cell? ⟨A,0,none⟩=some (.int .i64 m0)/\w'.cell? ⟨A,1,none⟩=some (.int .i64 v0)/\w'.cell? ⟨B,0,none⟩=some (.int .i64 m1)/\w'.cell? ⟨B,1,none⟩=some (.int .i64 v1)) ((w6.setCell ⟨g,K*2,none⟩ (.int .i64 m1)).setCell ⟨g,K*2+1,none⟩ (.int .i64 v1)).drew:=hS _ (fun j=>by show World.cell? (World.setCell (World.setCell _ _ _) _ _) _=_;rw [cz _ _ _ _ hgA.symm,cz _ _ _ _ hgA.symm]) (fun j=>by show World.cell? (World.setCell (World.setCell _ _ _) _ _) _=_;rw [cz _ _ _ _ hgB.symm,cz _ _ _ _ hgB.symm])
    (try simp only [Act.put,zD,zE,zF])
    refine qac 9 rfl hHeld ?_
    apply Exists.intro
    refine ⟨fun wq hSw=>?_,?_⟩
    ·obtain ⟨h0,h1,h2,h3⟩:=hSw
     go_simp
     try with_reducible rfl
    (try simp only [Act.put,zD,zE,zF])
    have cy:∀ (W:World) (i t:Nat) (u:Value),i≠t->(W.setCell ⟨g,i,none⟩ u).cell? ⟨g,t,none⟩=W.cell? ⟨g,t,none⟩:=fun W i t u hit=>World.cell?_setCell_other _ _ _ _ (by intro e;injection e with _ e;exact hit e)
    have a2':((w6.setCell ⟨g,K*2,none⟩ (.int .i64 m1)).setCell ⟨g,K*2+1,none⟩ (.int .i64 v1)).cell? ⟨g,(K+1)*2,none⟩=some (.int .i64 (h (K+1)).m):=by rw [cy _ _ _ _ (by omega),cy _ _ _ _ (by omega)];exact a2
    have a3':((w6.setCell ⟨g,K*2,none⟩ (.int .i64 m1)).setCell ⟨g,K*2+1,none⟩ (.int .i64 v1)).cell? ⟨g,(K+1)*2+1,none⟩=some (.int .i64 (h (K+1)).v):=by rw [cy _ _ _ _ (by omega),cy _ _ _ _ (by omega)];exact a3
    have f2':∀ t,((w6.setCell ⟨g,K*2,none⟩ (.int .i64 m1)).setCell ⟨g,K*2+1,none⟩ (.int .i64 v1)).frozen? ⟨g,t,none⟩=false:=fun t=>by rw [World.frozen?_setCell,World.frozen?_setCell];exact gf t
    have h4:=qmb (w:=w6) (g:=g) (a0:=K*2) (a1:=K*2+1) (a2:=(K+1)*2) (a3:=(K+1)*2+1) (u0:=.int .i64 m1) (u1:=.int .i64 v1) (u2:=.int .i64 m0) (u3:=.int .i64 v0) (by omega) (by omega) (by omega) (by omega) (by omega) (by omega) (by rw [a0];rfl) (by rw [a1];rfl) (by rw [a2];rfl) (by rw [a3];rfl)
    have HEnd:Hid (OwV ((((w6.setCell ⟨g,K*2,none⟩ (.int .i64 m1)).setCell ⟨g,K*2+1,none⟩ (.int .i64 v1)).setCell ⟨g,(K+1)*2,none⟩ (.int .i64 m0)).setCell ⟨g,(K+1)*2+1,none⟩ (.int .i64 v0)).drew w.heap.size (.slice (some ⟨g,0,none⟩) n cg) (swN x.y h n K) (swH h ((K:Nat):Int).toNat)/\Below w.heap.size w ((((w6.setCell ⟨g,K*2,none⟩ (.int .i64 m1)).setCell ⟨g,K*2+1,none⟩ (.int .i64 v1)).setCell ⟨g,(K+1)*2,none⟩ (.int .i64 m0)).setCell ⟨g,(K+1)*2+1,none⟩ (.int .i64 v0)).drew):=by
     obtain ⟨r0,r1,r2,r3,ro,rf,rs,rt⟩:=h4
     have hle:=H6.out.2.2.2
     refine ⟨?_,(H6.out.1.be.trans (rt.below H6.out.1.be.size fun c e=>by have e:c=g:=e;omega)).drew⟩
     rw [HF.out.2,hTn.out]
     exact (HOg.out.put2 (h':=swH h K) hK (qjo h K) (qjp h K) (qjq h K) _ rs rf (by rw [HQ.out.2];exact r0) (by rw [HQ.out.2];exact r1) (by rw [HQ.out.1];exact r2) (by rw [HQ.out.1];exact r3) ro).mono hle
    clear h4
    refine qab 10 rfl (by kernel_rfl) (fun Kc hKc=>?_)
    go_simp
    refine hKc.out _ _ (fun _=>hS _ (fun j=>by show World.cell? (World.setCell (World.setCell (World.setCell (World.setCell _ _ _) _ _) _ _) _ _) _=_;rw [cz _ _ _ _ hgA.symm,cz _ _ _ _ hgA.symm,cz _ _ _ _ hgA.symm,cz _ _ _ _ hgA.symm]) (fun j=>by show World.cell? (World.setCell (World.setCell (World.setCell (World.setCell _ _ _) _ _) _ _) _ _) _=_;rw [cz _ _ _ _ hgB.symm,cz _ _ _ _ hgB.symm,cz _ _ _ _ hgB.symm,cz _ _ _ _ hgB.symm])) ?_
    clear hKc Kc
    (try simp only [Act.put,zD,zE,zF])
    refine qat (by kernel_rfl) ?_ _
    clear a0 a1 a2 a3 a2' a3' f2' f0 f1 f2 f3 ga gf HOg H6 H5 b6 hHeld hS
    go_wp2
    refine bodyPost_ret (v:=.tuple #[.slice (some ⟨g,0,none⟩) n cg,.bool true]) (by simp [results,Tryz.results9,go_sem]) rfl ⟨_,by rw [HF.out.1],HEnd.out⟩
theorem qfm {f g:Nat->Nat}:∀ {k:Nat},(∀ j,j<k->f j=g j)->tnD f k=tnD g k
 | 0,_=>rfl
 | k+1,h=>by
  rw [qch,qch,qfm fun j hj=>h j (by omega),h k (by omega)]
theorem qu5 (d:Nat->Nat) {p q:Nat} (h:p≠q):up (up d p) q=up (up d q) p:=by
 funext i
 unfold up
 by_cases e1:i=p
 ·subst e1
  simp [h]
 ·by_cases e2:i=q
  ·subst e2
   simp [e1]
  ·simp [e1,e2]
theorem qq4 {y:Sy} {a b c d:Nat} (h:sdB y a b c d=true):y.Ok/\a<y.pn/\b<y.hL a/\c<y.pn/\d<y.hL c/\¬ (a=c/\b=d)/\¬ d<clk y a b c/\¬ b<clk y c d a:=by
 have h2:¬ ¬ (hasB y a b=true/\hasB y c d=true/\spEq a b c d=false):=fun h9=>by
  rw [(qvz h9).1] at h
  cases h
 obtain ⟨h3,h4,h5⟩:=Classical.byContradiction h2
 obtain ⟨ho,a',b',e1,e2,ha,hb⟩:=qbp h3
 obtain ⟨-,c',d',e3,e4,hc,hd⟩:=qbp h4
 obtain rfl:a=a':=by omega
 obtain rfl:b=b':=by omega
 obtain rfl:c=c':=by omega
 obtain rfl:d=d':=by omega
 have hne:¬ (a=c/\b=d):=fun ⟨e1,e2⟩=>by
  subst e1
  subst e2
  simp [spEq] at h5
 rw [qu1 h3 h4 h5] at h
 simp only [Bool.and_eq_true,Bool.not_eq_true'] at h
 refine ⟨ho,ha,hb,hc,hd,hne,fun h9=>?_,fun h9=>?_⟩
 ·rw [qtt ho ha hb hc hd (by omega) h9] at h
  exact absurd h.1 (by decide)
 ·rw [qtt ho hc hd ha hb (by omega) h9] at h
  exact absurd h.2 (by decide)
theorem qti {y:Sy} (hO:y.Ok) {h:Nat->Wo2} {n K:Nat} (hr:y.hs.RwOk h n) (hK:K+1<n) (hs:sdB y (h K).m (h K).v (h (K+1)).m (h (K+1)).v=true):y.hs.RwOk (swH h K) n:=by
 obtain ⟨p,hp,m1,m2,m3⟩:=hr.1 K (by omega)
 obtain ⟨q,hq,n1,n2,n3⟩:=hr.1 (K+1) hK
 have hput:=Hs.rw_put (y:=y.hs) (h:=h) (k:=K) fun j hj=>hr.1 j (by omega)
 have ep:rwF h K=p:=by rw [rwF,m1];exact Int.toNat_natCast p
 have eq:rwF h (K+1)=q:=by rw [rwF,n1];exact Int.toNat_natCast q
 rw [qch,ep] at n2 n3
 generalize hd:tnD (rwF h) K=d at *
 rw [m1,m2,n1,n2] at hs
 obtain ⟨-,hpn,hi,hqn,hj,hne,hc1,hc2⟩:=qq4 hs
 obtain ⟨D,hD,hall⟩:=hO.ckx
 have hpq:p≠q:=fun e=>by
  subst e
  rw [qbk] at hj hc2
  rw [hD.self p hpn (d p+1) (by rw [hall p hpn];exact hj)] at hc2
  omega
 have hqp:q≠p:=fun e=>hpq e.symm
 rw [up_other hqp] at n2 hj hc1 hc2
 have hcq:y.hs.Can d q:=by
  refine (qbm hO hqn hj).2 fun s hs9=>?_
  have h8:s.2<up d p s.1:=(qbm hO (d:=up d p) hqn (by rw [up_other hqp];exact hj)).1 n3 s (by rw [up_other hqp];exact hs9)
  by_cases e:s.1=p
  ·have h9:=(hD.snd q hqn (d q) (by rw [hall q hqn];exact hj) s hs9).2
   rw [e] at h9 ⊢
   omega
  ·rw [up_other e] at h8
   exact h8
 have hcp:y.hs.Can (up d q) p:=by
  refine ⟨by rw [up_other hpq];exact m3.1,fun hk=>?_⟩
  rw [up_other hpq] at hk ⊢
  have h9:=m3.2 hk
  refine zL h9 (qeb _ _ _ ?_)
  by_cases e:((y.hs.e p (d p)).q.toNat)=q
  ·rw [e,qbk]
   omega
  ·rw [up_other e]
   exact Nat.le_refl _
 have f0:∀ j,j<K->rwF (swH h K) j=rwF h j:=fun j hj9=>by
  show (swH h K j).m.toNat=(h j).m.toNat
  rw [qjq h K j (by omega) (by omega)]
 have fK:rwF (swH h K) K=q:=by
  show (swH h K K).m.toNat=q
  rw [qjo,n1]
  exact Int.toNat_natCast q
 have fK1:rwF (swH h K) (K+1)=p:=by
  show (swH h K (K+1)).m.toNat=p
  rw [qjp,m1]
  exact Int.toNat_natCast p
 have tK:tnD (rwF (swH h K)) K=d:=(qfm f0).trans hd
 have tK1:tnD (rwF (swH h K)) (K+1)=up d q:=by rw [qch,tK,fK]
 have tK2:∀ k,K+2<=k->tnD (rwF (swH h K)) k=tnD (rwF h) k:=by
  intro k hk
  induction k with
  | zero=>omega
  | succ k ih=>
   by_cases e:k=K+1
   ·subst e
    rw [qch,tK1,fK1,qch,qch,hd,ep,eq,qu5 d hqp]
   ·rw [qch,ih (by omega),qch]
    congr 1
    show (swH h K k).m.toNat=(h k).m.toNat
    rw [qjq h K k (by omega) (by omega)]
 refine ⟨fun k hk=>?_,?_⟩
 ·by_cases e0:k<K
  ·obtain ⟨r,r1,r2,r3,r4⟩:=hr.1 k hk
   refine ⟨r,r1,?_,?_,?_⟩
   ·rw [qjq h K k (by omega) (by omega)]
    exact r2
   ·rw [qjq h K k (by omega) (by omega),qfm fun j hj9=>f0 j (by omega)]
    exact r3
   ·rw [qfm fun j hj9=>f0 j (by omega)]
    exact r4
  by_cases e1:k=K
  ·subst e1
   refine ⟨q,hqn,?_,?_,?_⟩
   ·rw [qjo]
    exact n1
   ·rw [qjo,tK]
    exact n2
   ·rw [tK]
    exact hcq
  by_cases e2:k=K+1
  ·subst e2
   refine ⟨p,hpn,?_,?_,?_⟩
   ·rw [qjp]
    exact m1
   ·rw [qjp,tK1,up_other hpq]
    exact m2
   ·rw [tK1]
    exact hcp
  obtain ⟨r,r1,r2,r3,r4⟩:=hr.1 k hk
  refine ⟨r,r1,?_,?_,?_⟩
  ·rw [qjq h K k (by omega) (by omega)]
   exact r2
  ·rw [qjq h K k (by omega) (by omega),tK2 k (by omega)]
   exact r3
  ·rw [tK2 k (by omega)]
   exact r4
 ·rw [tK2 n (by omega)]
  exact hr.2
theorem qth {y:Sy} {h:Nat->Wo2} {n K:Nat} (hs:swB y h n K=true):swB y (swH h K) n K=true/\rwB y (swH h K) n=true:=by
 unfold swB at hs
 rw [Int.toNat_natCast] at hs
 simp only [Bool.and_eq_true] at hs
 obtain ⟨⟨h1,h2⟩,h3⟩:=hs
 have hb:0<=((K:Nat):Int)/\((K:Nat):Int)<(n:Int) - 1:=by simpa [belB] using h1
 have hok:y.okB=true:=by
  unfold rwB at h2
  simp only [Bool.and_eq_true] at h2
  exact h2.1
 rw [qq3 hok] at h2
 have hr:=qti (Sy.ok_of hok) (qvx.1 h2) (by omega) h3
 have h4:rwB y (swH h K) n=true:=by rw [qq3 hok,qax hr]
 refine ⟨?_,h4⟩
 unfold swB
 rw [Int.toNat_natCast,h1,h4,qjo,qjp,qs1,h3]
 rfl
