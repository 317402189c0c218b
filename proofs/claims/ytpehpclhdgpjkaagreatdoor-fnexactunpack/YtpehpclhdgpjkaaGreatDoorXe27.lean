import Derived.Test.YtpehpclhdgpjkaaGreatDoorXe0
import Derived.Test.YtpehpclhdgpjkaaGreatDoorXe25
import Derived.Test.YtpehpclhdgpjkaaGreatDoorXe7
import Derived.Test.YtpehpclhdgpjkaaGreatDoorXe2
import Derived.Test.YtpehpclhdgpjkaaGreatDoorXe12
import Derived.Test.YtpehpclhdgpjkaaGreatDoorXe18
import Derived.Test.YtpehpclhdgpjkaaGreatDoorXe23
import Derived.Test.YtpehpclhdgpjkaaGreatDoorXe24
namespace Go.Proofs.YtpehpclhdgpjkaaGreatDoor
set_option maxRecDepth 100000
set_option maxHeartbeats 4000000
open Go.RowKit Go.Deep
structure Rd (w:World) (N W0:Nat) (a0:Option Addr) (ys:List Int) (k:Nat):Prop where
 c0:w.cell? ⟨N,0,none⟩=some (.int .i64 (psN (nmA ys) k:Nat))
 fr:∀ j,w.frozen? ⟨N,j,none⟩=false
 ge:W0<=N
 ap:∀ b o,a0=some ⟨b,o,none⟩->b<W0
 sl:SlB w a0 ys
 le:k<=(nmA ys).length
theorem Rd.lt {w:World} {N W0 k:Nat} {a0:Option Addr} {ys:List Int} (h:Rd w N W0 a0 ys k):N<w.heap.size:=zJ w _ h.c0
theorem Rd.below {w w':World} {N W0 k:Nat} {a0:Option Addr} {ys:List Int} (h:Rd w N W0 a0 ys k) (hb:Below w.heap.size w w'):Rd w' N W0 a0 ys k:=
 ⟨(hb.cell (p:=⟨N,0,none⟩) h.lt).trans h.c0,fun j=>(zI (hb.block N h.lt)).trans (h.fr j),h.ge,h.ap,h.sl.below hb,h.le⟩
theorem SlB.kept {w w':World} {a0:Option Addr} {ys:List Int} {W0:Nat} (h:SlB w a0 ys) (ha:∀ b o,a0=some ⟨b,o,none⟩->b<W0) (hb:∀ b,b<W0->w'.heap[b]? = w.heap[b]?) (hs:w.heap.size<=w'.heap.size):SlB w' a0 ys:=by
 rcases h with h | ⟨b,off,e,hlt,hz⟩
 ·exact .inl h
 ·exact .inr ⟨b,off,e,zL hlt hs,fun j hj=>(zH (hb b (ha b off e))).trans (hz j hj)⟩
theorem Rd.kept {w w':World} {N W0 k:Nat} {a0:Option Addr} {ys:List Int} {row:Option Nat} (h:Rd w N W0 a0 ys k) (hg:w.grownBy w' row) (hr:∀ j,row=some j->W0<=j/\j≠N):Rd w' N W0 a0 ys k:=by
 have hN:=hg.block N h.lt (fun e=>(hr N e.symm).2 rfl)
 refine ⟨(zH hN).trans h.c0,fun j=>(zI hN).trans (h.fr j),h.ge,h.ap,h.sl.kept h.ap (fun b hb=>hg.block b (by have:=h.lt;have:=h.ge;omega) (fun e=>by have:=(hr b e.symm).1;omega)) hg.size,h.le⟩
theorem Rd.set {w:World} {N W0 k j:Nat} {a0:Option Addr} {ys:List Int} (h:Rd w N W0 a0 ys k) (hj:j<=(nmA ys).length) {z:Int} (hz:z=(psN (nmA ys) j:Nat)):Rd (w.setCell ⟨N,0,none⟩ (.int .i64 z)) N W0 a0 ys j:=by
 have c0:=h.c0
 have hlt:=h.lt
 subst hz
 refine ⟨by go_cell,fun j=>by simpa using h.fr j,h.ge,h.ap,h.sl.kept h.ap (fun b hb=>zN w ⟨N,0,none⟩ _ b (fun e=>by have:=h.ge;simp at e;omega)) (by simp),hj⟩
def rdK (ys:List Int) (k:Nat):Nat:=if k<(nmA ys).length then k+1 else k
def rdX (ys:List Int) (k:Nat):Value:=if k<(nmA ys).length then .tuple #[.int .i64 (zi (nmA ys) k),.bool true] else .tuple #[.int .i64 0,.bool false]
theorem Rd.drew {w:World} {N W0 k:Nat} {a0:Option Addr} {ys:List Int} (h:Rd w N W0 a0 ys k):Rd w.drew N W0 a0 ys k:=⟨h.c0,h.fr,h.ge,h.ap,h.sl,h.le⟩
theorem num_any (a0:Option Addr) (cap N W0 k:Nat) (ys:List Int) (w:World) (hlen:ys.length<=1048576) (hcap:ys.length<=cap) (hb:By ys) (h:Rd w N W0 a0 ys k):
  Calls Tryz.prog 41 #[.agg #[.slice a0 ys.length cap,.pointer (some ⟨N,0,none⟩)]] w fun e w'=>e=.returned (rdX ys k)/\Rd w' N W0 a0 ys (rdK ys k)/\w.grownBy w' (some N):=by
 have HR:Hid (Rd w N W0 a0 ys k):=h
 have B0:Hid (Below w.heap.size w (w.alloc (.cells #[.slice a0 ys.length cap,.pointer (some ⟨N,0,none⟩)] 55))/\(w.alloc (.cells #[.slice a0 ys.length cap,.pointer (some ⟨N,0,none⟩)] 55)).cell? ⟨w.heap.size,0,none⟩=some (.slice a0 ys.length cap)/\(w.alloc (.cells #[.slice a0 ys.length cap,.pointer (some ⟨N,0,none⟩)] 55)).cell? ⟨w.heap.size,1,none⟩=some (.pointer (some ⟨N,0,none⟩))):=⟨zS _ _,zV _ _ _ 0 rfl,zV _ _ _ 1 rfl⟩
 have hN:N<w.heap.size:=h.lt
 clear h
 by_cases hk:k<(nmA ys).length
 ·skip
  have HG:Hid (∀ wx,Rd wx N W0 a0 ys k->Calls Tryz.prog 74 #[.slice a0 ys.length cap,.int .i64 (psN (nmA ys) k:Nat)] wx fun e w'=>e=.returned (.tuple #[.int .i64 (zi (nmA ys) k),.int .i64 ((psN (nmA ys) (k+1):Nat):Int),.bool true])/\Below wx.heap.size wx w'):=fun wx hx=>by
   have h1:=implGetNum_any a0 cap ys (psN (nmA ys) k:Nat) wx hlen hcap hx.sl hb
   rw [nm_at hb hx.le,if_pos hk] at h1
   exact h1
  have HK:Hid (rdK ys k=k+1/\rdX ys k=.tuple #[.int .i64 (zi (nmA ys) k),.bool true]/\k+1<=(nmA ys).length):=⟨if_pos hk,if_pos hk,hk⟩
  clear hk hb hlen hcap
  go_enter Tryz.func41,Tryz.ntmps41
  go_upto_region 1 with fail
  generalize w.alloc (.cells #[.slice a0 ys.length cap,.pointer (some ⟨N,0,none⟩)] 55)=wA at *
  refine wp_region_G (fun w'=>w'.cell? ⟨w.heap.size,0,none⟩=some (.slice a0 ys.length cap)/\w'.cell? ⟨w.heap.size,1,none⟩=some (.pointer (some ⟨N,0,none⟩))/\w'.cell? ⟨N,0,none⟩=some (.int .i64 (psN (nmA ys) k:Nat))) (fun _=>false) (by kernel_rfl) ?_
  have R0:Hid (Rd wA.drew N W0 a0 ys k/\Below w.heap.size w wA.drew):=⟨(HR.out.below B0.out.1).drew,B0.out.1.drew⟩
  have hHeld:(fun w':World=>w'.cell? ⟨w.heap.size,0,none⟩=some (.slice a0 ys.length cap)/\w'.cell? ⟨w.heap.size,1,none⟩=some (.pointer (some ⟨N,0,none⟩))/\w'.cell? ⟨N,0,none⟩=some (.int .i64 (psN (nmA ys) k:Nat))) wA.drew:=⟨B0.out.2.1,B0.out.2.2,R0.out.1.c0⟩
  have C0:Hid (wA.drew.cell? ⟨w.heap.size,0,none⟩=some (.slice a0 ys.length cap)/\wA.drew.cell? ⟨w.heap.size,1,none⟩=some (.pointer (some ⟨N,0,none⟩))):=B0.out.2
  clear B0
  generalize wA.drew=w0 at *
  refine wpG_k 0 rfl hHeld ?_
  refine wpG_k 1 rfl hHeld ?_
  refine wpG_k 2 rfl hHeld ?_
  refine wpG_k 3 rfl hHeld ?_
  refine wpG_k 4 rfl hHeld ?_
  refine wpG_k 5 rfl hHeld ?_
  clear hHeld
  refine wpG_one 6 rfl (by kernel_rfl) (fun K hK=>?_)
  refine stepR_callD rfl 74 _ _ rfl #[.slice a0 ys.length cap,.int .i64 (psN (nmA ys) k:Nat)] (by simp [Act.eval]) (zZ Tryz.func74 (by kernel_rfl) rfl) (HG.out w0 R0.out.1) ?_
  rintro e w1 ⟨rfl,b1⟩
  have R1:Hid (Rd w1 N W0 a0 ys k/\w.grownBy w1 (some N)/\w1.cell? ⟨w.heap.size,0,none⟩=some (.slice a0 ys.length cap)/\w1.cell? ⟨w.heap.size,1,none⟩=some (.pointer (some ⟨N,0,none⟩))):=⟨R0.out.1.below b1,((World.grownBy.refl w (some N)).andThen (zY R0.out.2) (fun j hj=>by cases hj)).andThen (zY b1) (fun j hj=>by cases hj),(b1.cell (p:=⟨w.heap.size,0,none⟩) (zJ w0 _ C0.out.1)).trans C0.out.1,(b1.cell (p:=⟨w.heap.size,1,none⟩) (zJ w0 _ C0.out.2)).trans C0.out.2⟩
  refine ⟨_,rfl,?_⟩
  refine hK.out _ _ (fun _=>⟨R1.out.2.2.1,R1.out.2.2.2,R1.out.1.c0⟩) ?_
  clear hK K b1 HG HR R0 C0
  (try simp only [Act.put,zD,zE,zF])
  have hHeld:(fun w':World=>w'.cell? ⟨w.heap.size,0,none⟩=some (.slice a0 ys.length cap)/\w'.cell? ⟨w.heap.size,1,none⟩=some (.pointer (some ⟨N,0,none⟩))/\w'.cell? ⟨N,0,none⟩=some (.int .i64 (psN (nmA ys) k:Nat))) w1:=⟨R1.out.2.2.1,R1.out.2.2.2,R1.out.1.c0⟩
  refine wpG_k 7 rfl hHeld ?_
  refine wpG_k 8 rfl hHeld ?_
  refine wpG_k 9 rfl hHeld ?_
  refine wpG_k 10 rfl hHeld ?_
  refine wpG_k 11 rfl hHeld ?_
  refine wpG_k 12 rfl hHeld ?_
  refine wpG_k 13 rfl hHeld ?_
  refine wpG_done (by kernel_rfl) ?_ _
  obtain ⟨-,c1,c2⟩:=hHeld
  have f0:=R1.out.1.fr 0
  go_wp2
  exact bodyPost_ret (v:=.tuple #[.int .i64 (zi (nmA ys) k),.bool true]) (by simp [results,Tryz.results41,go_sem]) rfl ⟨by rw [HK.out.2.1],by rw [HK.out.1];exact R1.out.1.set HK.out.2.2 rfl,zU (p:=⟨N,0,none⟩) R1.out.2.1 (.inl rfl) _⟩
 ·skip
  have HG:Hid (∀ wx,Rd wx N W0 a0 ys k->Calls Tryz.prog 74 #[.slice a0 ys.length cap,.int .i64 (psN (nmA ys) k:Nat)] wx fun e w'=>e=.returned (.tuple #[.int .i64 0,.int .i64 0,.bool false])/\Below wx.heap.size wx w'):=fun wx hx=>by
   have h1:=implGetNum_any a0 cap ys (psN (nmA ys) k:Nat) wx hlen hcap hx.sl hb
   rw [nm_at hb hx.le,if_neg hk] at h1
   exact h1
  have HK:Hid (rdK ys k=k/\rdX ys k=.tuple #[.int .i64 0,.bool false]):=⟨if_neg hk,if_neg hk⟩
  clear hk hb hlen hcap
  go_enter Tryz.func41,Tryz.ntmps41
  go_upto_region 1 with fail
  generalize w.alloc (.cells #[.slice a0 ys.length cap,.pointer (some ⟨N,0,none⟩)] 55)=wA at *
  refine wp_region_G (fun w'=>w'.cell? ⟨w.heap.size,0,none⟩=some (.slice a0 ys.length cap)/\w'.cell? ⟨w.heap.size,1,none⟩=some (.pointer (some ⟨N,0,none⟩))/\w'.cell? ⟨N,0,none⟩=some (.int .i64 (psN (nmA ys) k:Nat))) (fun _=>false) (by kernel_rfl) ?_
  have R0:Hid (Rd wA.drew N W0 a0 ys k/\Below w.heap.size w wA.drew):=⟨(HR.out.below B0.out.1).drew,B0.out.1.drew⟩
  have hHeld:(fun w':World=>w'.cell? ⟨w.heap.size,0,none⟩=some (.slice a0 ys.length cap)/\w'.cell? ⟨w.heap.size,1,none⟩=some (.pointer (some ⟨N,0,none⟩))/\w'.cell? ⟨N,0,none⟩=some (.int .i64 (psN (nmA ys) k:Nat))) wA.drew:=⟨B0.out.2.1,B0.out.2.2,R0.out.1.c0⟩
  have C0:Hid (wA.drew.cell? ⟨w.heap.size,0,none⟩=some (.slice a0 ys.length cap)/\wA.drew.cell? ⟨w.heap.size,1,none⟩=some (.pointer (some ⟨N,0,none⟩))):=B0.out.2
  clear B0
  generalize wA.drew=w0 at *
  refine wpG_k 0 rfl hHeld ?_
  refine wpG_k 1 rfl hHeld ?_
  refine wpG_k 2 rfl hHeld ?_
  refine wpG_k 3 rfl hHeld ?_
  refine wpG_k 4 rfl hHeld ?_
  refine wpG_k 5 rfl hHeld ?_
  clear hHeld
  refine wpG_one 6 rfl (by kernel_rfl) (fun K hK=>?_)
  refine stepR_callD rfl 74 _ _ rfl #[.slice a0 ys.length cap,.int .i64 (psN (nmA ys) k:Nat)] (by simp [Act.eval]) (zZ Tryz.func74 (by kernel_rfl) rfl) (HG.out w0 R0.out.1) ?_
  rintro e w1 ⟨rfl,b1⟩
  have R1:Hid (Rd w1 N W0 a0 ys k/\w.grownBy w1 (some N)/\w1.cell? ⟨w.heap.size,0,none⟩=some (.slice a0 ys.length cap)/\w1.cell? ⟨w.heap.size,1,none⟩=some (.pointer (some ⟨N,0,none⟩))):=⟨R0.out.1.below b1,((World.grownBy.refl w (some N)).andThen (zY R0.out.2) (fun j hj=>by cases hj)).andThen (zY b1) (fun j hj=>by cases hj),(b1.cell (p:=⟨w.heap.size,0,none⟩) (zJ w0 _ C0.out.1)).trans C0.out.1,(b1.cell (p:=⟨w.heap.size,1,none⟩) (zJ w0 _ C0.out.2)).trans C0.out.2⟩
  refine ⟨_,rfl,?_⟩
  refine hK.out _ _ (fun _=>⟨R1.out.2.2.1,R1.out.2.2.2,R1.out.1.c0⟩) ?_
  clear hK K b1 HG HR R0 C0
  (try simp only [Act.put,zD,zE,zF])
  have hHeld:(fun w':World=>w'.cell? ⟨w.heap.size,0,none⟩=some (.slice a0 ys.length cap)/\w'.cell? ⟨w.heap.size,1,none⟩=some (.pointer (some ⟨N,0,none⟩))/\w'.cell? ⟨N,0,none⟩=some (.int .i64 (psN (nmA ys) k:Nat))) w1:=⟨R1.out.2.2.1,R1.out.2.2.2,R1.out.1.c0⟩
  refine wpG_k 7 rfl hHeld ?_
  refine wpG_k 8 rfl hHeld ?_
  refine wpG_k 9 rfl hHeld ?_
  refine wpG_k 10 rfl hHeld ?_
  refine wpG_k 11 rfl hHeld ?_
  refine wpG_k 12 rfl hHeld ?_
  refine wpG_k 13 rfl hHeld ?_
  refine wpG_done (by kernel_rfl) ?_ _
  obtain ⟨-,c1,c2⟩:=hHeld
  go_wp2
  exact bodyPost_ret (v:=.tuple #[.int .i64 0,.bool false]) (by simp [results,Tryz.results41,go_sem]) rfl ⟨by rw [HK.out.2],by rw [HK.out.1];exact R1.out.1,R1.out.2.1⟩
structure Gr2 (w w':World) (N X:Nat):Prop where
 os:w'.os=w.os
 tape:w'.tape=w.tape
 output:w'.output=w.output
 size:w.heap.size<=w'.heap.size
 block:∀ k,k<w.heap.size->k≠N->k≠X->w'.heap[k]? = w.heap[k]?
theorem Gr2.refl (w:World) (N X:Nat):Gr2 w w N X:=⟨rfl,rfl,rfl,Nat.le_refl _,fun _ _ _ _=>rfl⟩
theorem Gr2.of1 {w w1 w2:World} {N X:Nat} (h:Gr2 w w1 N X) (g:w1.grownBy w2 (some N)):Gr2 w w2 N X:=
 ⟨g.os.trans h.os,g.tape.trans h.tape,g.output.trans h.output,zO h.size g.size,fun k hk hn hx=>(g.block k (zL hk h.size) (by simpa using hn)).trans (h.block k hk hn hx)⟩
theorem Gr2.set {w w1:World} {N X:Nat} (h:Gr2 w w1 N X) (j:Nat) (v:Value):Gr2 w (w1.setCell ⟨X,j,none⟩ v) N X:=
 ⟨h.os,h.tape,h.output,by simpa using h.size,fun k hk hn hx=>(zN w1 ⟨X,j,none⟩ v k (by simpa using hx)).trans (h.block k hk hn hx)⟩
structure FlJ (w wr:World) (N X W0 m k j:Nat) (a0:Option Addr) (ys:List Int):Prop where
 rd:Rd wr N W0 a0 ys (k+j)
 cs:∀ i,i<j->wr.cell? ⟨X,i,none⟩=some (.int .i64 (zi (nmA ys) (k+i)))
 cr:∀ i,i<m->∃ v:Int,wr.cell? ⟨X,i,none⟩=some (.int .i64 v)
 fr:∀ i,wr.frozen? ⟨X,i,none⟩=false
 gr:Gr2 w wr N X
theorem FlJ.num {w wr w1:World} {N X W0 m k j:Nat} {a0:Option Addr} {ys:List Int} (h:FlJ w wr N X W0 m k j a0 ys) (hne:X≠N) (hX:X<w.heap.size) (g:wr.grownBy w1 (some N)) (hr:Rd w1 N W0 a0 ys (rdK ys (k+j))) (hk:k+j<(nmA ys).length) (hj:j<m) (h0:W0<=X):FlJ w (w1.setCell ⟨X,j,none⟩ (.int .i64 (zi (nmA ys) (k+j)))) N X W0 m k (j+1) a0 ys:=by
 have hb:=g.block X (zL hX h.gr.size) (by simpa using hne)
 have c:∀ i,w1.cell? ⟨X,i,none⟩=wr.cell? ⟨X,i,none⟩:=fun i=>zH hb
 have e:rdK ys (k+j)=k+(j+1):=if_pos hk
 obtain ⟨v0,hv0⟩:=h.cr j hj
 have hv1:=(c j).trans hv0
 refine ⟨?_,fun i hi=>?_,fun i hi=>?_,fun i=>by simpa using (zI hb).trans (h.fr i),(h.gr.of1 g).set j _⟩
 ·rw [e] at hr
  exact hr.kept (row:=some X) (zU (p:=⟨X,j,none⟩) (World.grownBy.refl _ _) (.inl rfl) _) (fun b hb=>by cases hb;exact ⟨h0,hne⟩)
 ·by_cases hij:i=j
  ·subst hij
   go_cell
  ·rw [World.cell?_setCell_other _ _ _ _ (fun e=>hij (by simpa using e.symm))]
   exact (c i).trans (h.cs i (by omega))
 ·by_cases hij:i=j
  ·subst hij
   exact ⟨_,by go_cell⟩
  ·obtain ⟨v,hv⟩:=h.cr i hi
   refine ⟨v,?_⟩
   rw [World.cell?_setCell_other _ _ _ _ (fun e=>hij (by simpa using e.symm))]
   exact (c i).trans hv
def FlB (wr:World) (M S X m N cap:Nat) (a0:Option Addr) (n:Nat):Prop:=wr.cell? ⟨M,0,none⟩=some (.slice a0 n cap)/\wr.cell? ⟨M,1,none⟩=some (.pointer (some ⟨N,0,none⟩))/\∀ i,i<m->wr.cell? ⟨S,i,none⟩=some (.pointer (some ⟨X,i,none⟩))
theorem FlB.kept {wr w':World} {M S X m N cap n:Nat} {a0:Option Addr} (h:FlB wr M S X m N cap a0 n) (hM:w'.heap[M]? = wr.heap[M]?) (hS:w'.heap[S]? = wr.heap[S]?):FlB w' M S X m N cap a0 n:=⟨(zH hM).trans h.1,(zH hM).trans h.2.1,fun i hi=>(zH hS).trans (h.2.2 i hi)⟩
theorem fill_any (a0:Option Addr) (cap N W0 S X m k:Nat) (ys:List Int) (w:World) (hlen:ys.length<=1048576) (hcap:ys.length<=cap) (hb:By ys) (h:Rd w N W0 a0 ys k) (hX0:W0<=X) (hne:X≠N) (hX:X<w.heap.size) (hS:S<w.heap.size) (hSX:S≠X) (hSN:S≠N) (hm:m<=5)
  (hp:∀ i,i<m->w.cell? ⟨S,i,none⟩=some (.pointer (some ⟨X,i,none⟩))) (hc:∀ i,i<m->∃ v:Int,w.cell? ⟨X,i,none⟩=some (.int .i64 v)) (hf:∀ i,w.frozen? ⟨X,i,none⟩=false):
  Calls Tryz.prog 108 #[.agg #[.slice a0 ys.length cap,.pointer (some ⟨N,0,none⟩)],.slice (some ⟨S,0,none⟩) m m] w fun e w'=>∃ j,e=.returned (.bool (decide (k+m<=(nmA ys).length)))/\FlJ w w' N X W0 m k j a0 ys/\(k+m<=(nmA ys).length->j=m):=by
 have HN:Hid (∀ wx k',Rd wx N W0 a0 ys k'->Calls Tryz.prog 41 #[.agg #[.slice a0 ys.length cap,.pointer (some ⟨N,0,none⟩)]] wx fun e w'=>e=.returned (rdX ys k')/\Rd w' N W0 a0 ys (rdK ys k')/\wx.grownBy w' (some N)):=fun wx k' hx=>num_any a0 cap N W0 k' ys wx hlen hcap hb hx
 have HM:Hid (N<w.heap.size):=h.lt
 have A0:Hid (FlJ w (w.alloc (.cells #[.slice a0 ys.length cap,.pointer (some ⟨N,0,none⟩)] 55)) N X W0 m k 0 a0 ys/\FlB (w.alloc (.cells #[.slice a0 ys.length cap,.pointer (some ⟨N,0,none⟩)] 55)) w.heap.size S X m N cap a0 ys.length):=by
  have b:=zS w (.cells #[.slice a0 ys.length cap,.pointer (some ⟨N,0,none⟩)] 55)
  refine ⟨⟨h.below b,fun i hi=>by omega,fun i hi=>?_,fun i=>(zI (b.block X hX)).trans (hf i),⟨b.os,b.tape,b.output,b.size,fun k hk _ _=>b.block k hk⟩⟩,zV _ _ _ 0 rfl,zV _ _ _ 1 rfl,fun i hi=>(zH (b.block S hS)).trans (hp i hi)⟩
  obtain ⟨v,hv⟩:=hc i hi
  exact ⟨v,(zH (b.block X hX)).trans hv⟩
 clear hlen hcap hb h hp hc hf
 have hm':(m:Int)<=5:=by omega
 go_enter Tryz.func108,Tryz.ntmps108
 go_wp2_with fail
 generalize w.alloc (.cells #[.slice a0 ys.length cap,.pointer (some ⟨N,0,none⟩)] 55)=wA at *
 go_loopw [11] (fun i wr=>∃ j:Nat,j<=m/\i=.int .i64 (j:Int)/\Hid (FlJ w wr N X W0 m k j a0 ys/\FlB wr w.heap.size S X m N cap a0 ys.length/\w.heap.size<wr.heap.size)) (fun i _=>m - (intOf i).toNat)
 case atStart=>exact ⟨0,Nat.zero_le _,rfl,A0.out.1,A0.out.2,zJ wA _ A0.out.2.1⟩
 case round=>
  clear A0
  obtain ⟨j,hj,rfl,HR⟩:=hrel
  by_cases hlt:j<m
  ·have hlt':(j:Int)<(m:Int):=by omega
   obtain ⟨b0,b1,hp⟩:=HR.out.2.1
   have p0:=hp j hlt
   clear hp
   go_wp2_with fail
   clear b0 b1 p0
   refine (HN.out wr (k+j) HR.out.1.rd).mono ?_
   rintro e w1 ⟨rfl,r1,g1⟩
   have hM:=HM.out
   by_cases hk:k+j<(nmA ys).length
   ·have F1:Hid (FlJ w (w1.setCell ⟨X,j,none⟩ (.int .i64 (zi (nmA ys) (k+j)))) N X W0 m k (j+1) a0 ys):=HR.out.1.num hne hX g1 r1 hk hlt hX0
    have hbX:=g1.block X (zL hX HR.out.1.gr.size) (by simpa using hne)
    have B1:Hid (FlB (w1.setCell ⟨X,j,none⟩ (.int .i64 (zi (nmA ys) (k+j)))) w.heap.size S X m N cap a0 ys.length/\w.heap.size<(w1.setCell ⟨X,j,none⟩ (.int .i64 (zi (nmA ys) (k+j)))).heap.size):=⟨HR.out.2.1.kept ((zN w1 ⟨X,j,none⟩ _ _ (by simp;omega)).trans (g1.block _ HR.out.2.2 (by simp;omega))) ((zN w1 ⟨X,j,none⟩ _ _ (by simpa using hSX)).trans (g1.block _ (by have:=HR.out.2.2;omega) (by simpa using hSN))),by have:=g1.size;have:=HR.out.2.2;simp;omega⟩
    obtain ⟨v0,hv0⟩:=HR.out.1.cr j hlt
    have c0:w1.cell? ⟨X,j,none⟩=some (.int .i64 v0):=(zH hbX).trans hv0
    have f0:w1.frozen? ⟨X,j,none⟩=false:=(zI hbX).trans (HR.out.1.fr j)
    rw [show rdX ys (k+j)=.tuple #[.int .i64 (zi (nmA ys) (k+j)),.bool true] from if_pos hk]
    clear hk r1 g1 hbX hv0 HR
    go_wp2
    go_roundw
    case rel=>exact ⟨j+1,by omega,by go_num,F1.out,B1.out⟩
    case measure=>simp [intOf];omega
   ·rw [show rdX ys (k+j)=.tuple #[.int .i64 0,.bool false] from if_neg hk]
    have F1:Hid (FlJ w w1 N X W0 m k j a0 ys):=by
     have hbX:=g1.block X (zL hX HR.out.1.gr.size) (by simpa using hne)
     have e:rdK ys (k+j)=k+j:=if_neg hk
     rw [e] at r1
     exact ⟨r1,fun i hi=>(zH hbX).trans (HR.out.1.cs i hi),fun i hi=>(HR.out.1.cr i hi).imp fun v hv=>(zH hbX).trans hv,fun i=>(zI hbX).trans (HR.out.1.fr i),HR.out.1.gr.of1 g1⟩
    have HD:Hid (¬ k+m<=(nmA ys).length):=by show ¬ _;omega
    clear hk r1 g1 HR
    go_wp2
    exact bodyPost_ret (v:=.bool false) (by simp [results,Tryz.results108,go_sem]) rfl ⟨j,by rw [decide_eq_false HD.out],F1.out,fun hh=>absurd hh HD.out⟩
  ·obtain rfl:j=m:=by omega
   have hlt':¬ ((j:Int)<(j:Int)):=by omega
   have HD:Hid (k+j<=(nmA ys).length):=HR.out.1.rd.le
   go_wp2
   exact bodyPost_ret (v:=.bool true) (by simp [results,Tryz.results108,go_sem]) rfl ⟨by rw [decide_eq_true HD.out],j,HR.out.1,fun _=>rfl⟩
theorem Gr2.row {w w1 w2:World} {N X:Nat} (hb:Below w.heap.size w w1) (h:Gr2 w1 w2 N X) (hX:w.heap.size<=X):w.grownBy w2 (some N):=
 ⟨h.os.trans hb.os,h.tape.trans hb.tape,h.output.trans hb.output,zO hb.size h.size,fun k hk hn=>(h.block k (zL hk hb.size) (by simpa using hn) (by omega)).trans (hb.block k hk)⟩
def RiP (w:World) (N W0:Nat) (a0:Option Addr) (ys:List Int) (k:Nat) (e:Ending) (w':World):Prop:=∃ (v0 v1 v2 v3 v4:Int) (j:Nat),e=.returned (.tuple #[.agg #[.int .i64 v0,.int .i64 v1,.int .i64 v2,.int .i64 v3,.int .i64 v4],.bool (decide (k+5<=(nmA ys).length))])/\Rd w' N W0 a0 ys (k+j)/\(k+5<=(nmA ys).length->j=5/\v0=zi (nmA ys) k/\v1=zi (nmA ys) (k+1)/\v2=zi (nmA ys) (k+2)/\v3=zi (nmA ys) (k+3)/\v4=zi (nmA ys) (k+4))/\w.grownBy w' (some N)
theorem readIns_any (a0:Option Addr) (cap N W0 k:Nat) (ys:List Int) (w:World) (hlen:ys.length<=1048576) (hcap:ys.length<=cap) (hb:By ys) (h:Rd w N W0 a0 ys k):
  Calls Tryz.prog 76 #[.agg #[.slice a0 ys.length cap,.pointer (some ⟨N,0,none⟩)]] w (RiP w N W0 a0 ys k):=by
 have HF:Hid (∀ wx S X,Rd wx N W0 a0 ys k->W0<=X->X≠N->X<wx.heap.size->S<wx.heap.size->S≠X->S≠N->(∀ i,i<5->wx.cell? ⟨S,i,none⟩=some (.pointer (some ⟨X,i,none⟩)))->(∀ i,i<5->∃ v:Int,wx.cell? ⟨X,i,none⟩=some (.int .i64 v))->(∀ i,wx.frozen? ⟨X,i,none⟩=false)->Calls Tryz.prog 108 #[.agg #[.slice a0 ys.length cap,.pointer (some ⟨N,0,none⟩)],.slice (some ⟨S,0,none⟩) 5 5] wx fun e w'=>∃ j,e=.returned (.bool (decide (k+5<=(nmA ys).length)))/\FlJ wx w' N X W0 5 k j a0 ys/\(k+5<=(nmA ys).length->j=5)):=fun wx S X h1 h2 h3 h4 h5 h6 h7 h8 h9 h10=>fill_any a0 cap N W0 S X 5 k ys wx hlen hcap hb h1 h2 h3 h4 h5 h6 h7 (by omega) h8 h9 h10
 have HN:Hid (N<w.heap.size/\W0<=N):=⟨h.lt,h.ge⟩
 have A0:Hid (Rd ((((w.alloc (.cells #[.slice a0 ys.length cap,.pointer (some ⟨N,0,none⟩)] 55)).alloc (zQ5)).alloc (zQ5)).alloc (.cells #[.pointer (some ⟨w.heap.size+1+1,0,none⟩),.pointer (some ⟨w.heap.size+1+1,1,none⟩),.pointer (some ⟨w.heap.size+1+1,2,none⟩),.pointer (some ⟨w.heap.size+1+1,3,none⟩),.pointer (some ⟨w.heap.size+1+1,4,none⟩)] 53)) N W0 a0 ys k/\(∀ i,i<5->((((w.alloc (.cells #[.slice a0 ys.length cap,.pointer (some ⟨N,0,none⟩)] 55)).alloc (zQ5)).alloc (zQ5)).alloc (.cells #[.pointer (some ⟨w.heap.size+1+1,0,none⟩),.pointer (some ⟨w.heap.size+1+1,1,none⟩),.pointer (some ⟨w.heap.size+1+1,2,none⟩),.pointer (some ⟨w.heap.size+1+1,3,none⟩),.pointer (some ⟨w.heap.size+1+1,4,none⟩)] 53)).cell? ⟨w.heap.size+1+1+1,i,none⟩=some (.pointer (some ⟨w.heap.size+1+1,i,none⟩)))/\(∀ i,i<5->((((w.alloc (.cells #[.slice a0 ys.length cap,.pointer (some ⟨N,0,none⟩)] 55)).alloc (zQ5)).alloc (zQ5)).alloc (.cells #[.pointer (some ⟨w.heap.size+1+1,0,none⟩),.pointer (some ⟨w.heap.size+1+1,1,none⟩),.pointer (some ⟨w.heap.size+1+1,2,none⟩),.pointer (some ⟨w.heap.size+1+1,3,none⟩),.pointer (some ⟨w.heap.size+1+1,4,none⟩)] 53)).cell? ⟨w.heap.size+1+1,i,none⟩=some (.int .i64 0))/\(∀ i,((((w.alloc (.cells #[.slice a0 ys.length cap,.pointer (some ⟨N,0,none⟩)] 55)).alloc (zQ5)).alloc (zQ5)).alloc (.cells #[.pointer (some ⟨w.heap.size+1+1,0,none⟩),.pointer (some ⟨w.heap.size+1+1,1,none⟩),.pointer (some ⟨w.heap.size+1+1,2,none⟩),.pointer (some ⟨w.heap.size+1+1,3,none⟩),.pointer (some ⟨w.heap.size+1+1,4,none⟩)] 53)).frozen? ⟨w.heap.size+1+1,i,none⟩=false)/\(∀ i,i<5->((((w.alloc (.cells #[.slice a0 ys.length cap,.pointer (some ⟨N,0,none⟩)] 55)).alloc (zQ5)).alloc (zQ5)).alloc (.cells #[.pointer (some ⟨w.heap.size+1+1,0,none⟩),.pointer (some ⟨w.heap.size+1+1,1,none⟩),.pointer (some ⟨w.heap.size+1+1,2,none⟩),.pointer (some ⟨w.heap.size+1+1,3,none⟩),.pointer (some ⟨w.heap.size+1+1,4,none⟩)] 53)).cell? ⟨w.heap.size+1,i,none⟩=some (.int .i64 0))/\(∀ i,((((w.alloc (.cells #[.slice a0 ys.length cap,.pointer (some ⟨N,0,none⟩)] 55)).alloc (zQ5)).alloc (zQ5)).alloc (.cells #[.pointer (some ⟨w.heap.size+1+1,0,none⟩),.pointer (some ⟨w.heap.size+1+1,1,none⟩),.pointer (some ⟨w.heap.size+1+1,2,none⟩),.pointer (some ⟨w.heap.size+1+1,3,none⟩),.pointer (some ⟨w.heap.size+1+1,4,none⟩)] 53)).frozen? ⟨w.heap.size+1,i,none⟩=false)/\((((w.alloc (.cells #[.slice a0 ys.length cap,.pointer (some ⟨N,0,none⟩)] 55)).alloc (zQ5)).alloc (zQ5)).alloc (.cells #[.pointer (some ⟨w.heap.size+1+1,0,none⟩),.pointer (some ⟨w.heap.size+1+1,1,none⟩),.pointer (some ⟨w.heap.size+1+1,2,none⟩),.pointer (some ⟨w.heap.size+1+1,3,none⟩),.pointer (some ⟨w.heap.size+1+1,4,none⟩)] 53)).heap.size=w.heap.size+1+1+1+1/\Below w.heap.size w ((((w.alloc (.cells #[.slice a0 ys.length cap,.pointer (some ⟨N,0,none⟩)] 55)).alloc (zQ5)).alloc (zQ5)).alloc (.cells #[.pointer (some ⟨w.heap.size+1+1,0,none⟩),.pointer (some ⟨w.heap.size+1+1,1,none⟩),.pointer (some ⟨w.heap.size+1+1,2,none⟩),.pointer (some ⟨w.heap.size+1+1,3,none⟩),.pointer (some ⟨w.heap.size+1+1,4,none⟩)] 53))):=by
  have b1:=zS w (.cells #[.slice a0 ys.length cap,.pointer (some ⟨N,0,none⟩)] 55)
  have s1:(w.alloc (.cells #[.slice a0 ys.length cap,.pointer (some ⟨N,0,none⟩)] 55)).heap.size=w.heap.size+1:=by simp
  generalize hw1:w.alloc (.cells #[.slice a0 ys.length cap,.pointer (some ⟨N,0,none⟩)] 55)=w1 at *
  have b2:=zS w1 (zQ5)
  have s2:(w1.alloc (zQ5)).heap.size=w.heap.size+1+1:=by simp [s1]
  have c2:∀ i,i<5->(w1.alloc (zQ5)).cell? ⟨w.heap.size+1,i,none⟩=some (.int .i64 0):=fun i hi=>by
   rw [<- s1]
   match i,hi with
   | 0,_=>exact zV _ _ _ 0 rfl
   | 1,_=>exact zV _ _ _ 1 rfl
   | 2,_=>exact zV _ _ _ 2 rfl
   | 3,_=>exact zV _ _ _ 3 rfl
   | 4,_=>exact zV _ _ _ 4 rfl
  have f2:∀ i,(w1.alloc (zQ5)).frozen? ⟨w.heap.size+1,i,none⟩=false:=fun i=>by
   rw [<- s1]
   exact yA _ _ _ _ rfl
  generalize hw2:w1.alloc (zQ5)=w2 at *
  have b3:=zS w2 (zQ5)
  have s3:(w2.alloc (zQ5)).heap.size=w.heap.size+1+1+1:=by simp [s2]
  have c3:∀ i,i<5->(w2.alloc (zQ5)).cell? ⟨w.heap.size+1+1,i,none⟩=some (.int .i64 0):=fun i hi=>by
   rw [<- s2]
   match i,hi with
   | 0,_=>exact zV _ _ _ 0 rfl
   | 1,_=>exact zV _ _ _ 1 rfl
   | 2,_=>exact zV _ _ _ 2 rfl
   | 3,_=>exact zV _ _ _ 3 rfl
   | 4,_=>exact zV _ _ _ 4 rfl
  have f3:∀ i,(w2.alloc (zQ5)).frozen? ⟨w.heap.size+1+1,i,none⟩=false:=fun i=>by
   rw [<- s2]
   exact yA _ _ _ _ rfl
  generalize hw3:w2.alloc (zQ5)=w3 at *
  have b4:=zS w3 (.cells #[.pointer (some ⟨w.heap.size+1+1,0,none⟩),.pointer (some ⟨w.heap.size+1+1,1,none⟩),.pointer (some ⟨w.heap.size+1+1,2,none⟩),.pointer (some ⟨w.heap.size+1+1,3,none⟩),.pointer (some ⟨w.heap.size+1+1,4,none⟩)] 53)
  have s4:(w3.alloc (.cells #[.pointer (some ⟨w.heap.size+1+1,0,none⟩),.pointer (some ⟨w.heap.size+1+1,1,none⟩),.pointer (some ⟨w.heap.size+1+1,2,none⟩),.pointer (some ⟨w.heap.size+1+1,3,none⟩),.pointer (some ⟨w.heap.size+1+1,4,none⟩)] 53)).heap.size=w.heap.size+1+1+1+1:=by simp [s3]
  have c4:∀ i,i<5->(w3.alloc (.cells #[.pointer (some ⟨w.heap.size+1+1,0,none⟩),.pointer (some ⟨w.heap.size+1+1,1,none⟩),.pointer (some ⟨w.heap.size+1+1,2,none⟩),.pointer (some ⟨w.heap.size+1+1,3,none⟩),.pointer (some ⟨w.heap.size+1+1,4,none⟩)] 53)).cell? ⟨w.heap.size+1+1+1,i,none⟩=some (.pointer (some ⟨w.heap.size+1+1,i,none⟩)):=fun i hi=>by
   rw [<- s3]
   match i,hi with
   | 0,_=>exact zV _ _ _ 0 rfl
   | 1,_=>exact zV _ _ _ 1 rfl
   | 2,_=>exact zV _ _ _ 2 rfl
   | 3,_=>exact zV _ _ _ 3 rfl
   | 4,_=>exact zV _ _ _ 4 rfl
  generalize w3.alloc (.cells #[.pointer (some ⟨w.heap.size+1+1,0,none⟩),.pointer (some ⟨w.heap.size+1+1,1,none⟩),.pointer (some ⟨w.heap.size+1+1,2,none⟩),.pointer (some ⟨w.heap.size+1+1,3,none⟩),.pointer (some ⟨w.heap.size+1+1,4,none⟩)] 53)=w4 at *
  have b24:Below w2.heap.size w2 w4:=b3.trans (b4.mono b3.size)
  have b14:Below w1.heap.size w1 w4:=b2.trans (b24.mono b2.size)
  have b04:Below w.heap.size w w4:=b1.trans (b14.mono b1.size)
  exact ⟨h.below b04,c4,fun i hi=>(zH (b4.block (w.heap.size+1+1) (by omega))).trans (c3 i hi),fun i=>(zI (b4.block (w.heap.size+1+1) (by omega))).trans (f3 i),fun i hi=>(zH (b24.block (w.heap.size+1) (by omega))).trans (c2 i hi),fun i=>(zI (b24.block (w.heap.size+1) (by omega))).trans (f2 i),s4,b04⟩
 clear hlen hcap hb h
 go_enter Tryz.func76,Tryz.ntmps76
 go_upto_region 2 with fail
 go_wp2_with fail
 generalize (((w.alloc (.cells #[.slice a0 ys.length cap,.pointer (some ⟨N,0,none⟩)] 55)).alloc (zQ5)).alloc (zQ5)).alloc (.cells #[.pointer (some ⟨w.heap.size+1+1,0,none⟩),.pointer (some ⟨w.heap.size+1+1,1,none⟩),.pointer (some ⟨w.heap.size+1+1,2,none⟩),.pointer (some ⟨w.heap.size+1+1,3,none⟩),.pointer (some ⟨w.heap.size+1+1,4,none⟩)] 53)=w4 at *
 refine (HF.out w4 (w.heap.size+1+1+1) (w.heap.size+1+1) A0.out.1 (by have:=HN.out;omega) (by have:=HN.out;omega) (by have:=A0.out.2.2.2.2.2.2.1;omega) (by have:=A0.out.2.2.2.2.2.2.1;omega) (by omega) (by have:=HN.out;omega) A0.out.2.1 (fun i hi=>⟨_,A0.out.2.2.1 i hi⟩) A0.out.2.2.2.1).mono ?_
 rintro e w5 ⟨j,rfl,F,hj⟩
 obtain ⟨v0,x0⟩:=F.cr 0 (by omega)
 obtain ⟨v1,x1⟩:=F.cr 1 (by omega)
 obtain ⟨v2,x2⟩:=F.cr 2 (by omega)
 obtain ⟨v3,x3⟩:=F.cr 3 (by omega)
 obtain ⟨v4,x4⟩:=F.cr 4 (by omega)
 have E5:Hid (Rd w5 N W0 a0 ys (k+j)/\(k+5<=(nmA ys).length->j=5/\v0=zi (nmA ys) k/\v1=zi (nmA ys) (k+1)/\v2=zi (nmA ys) (k+2)/\v3=zi (nmA ys) (k+3)/\v4=zi (nmA ys) (k+4))/\w.grownBy w5 (some N)):=by
  refine ⟨F.rd,fun hh=>⟨hj hh,?_⟩,Gr2.row A0.out.2.2.2.2.2.2.2 F.gr (by omega)⟩
  have e:=hj hh
  subst e
  have q:∀ (i:Nat) (v:Int),i<5->w5.cell? ⟨w.heap.size+1+1,i,none⟩=some (.int .i64 v)->v=zi (nmA ys) (k+i):=fun i v hi hv=>by
   have h1:=F.cs i hi
   rw [hv] at h1
   simpa using h1
  exact ⟨q 0 v0 (by omega) x0,q 1 v1 (by omega) x1,q 2 v2 (by omega) x2,q 3 v3 (by omega) x3,q 4 v4 (by omega) x4⟩
 have hkb:w5.heap[w.heap.size+1]? = w4.heap[w.heap.size+1]?:=F.gr.block _ (by have:=A0.out.2.2.2.2.2.2.1;omega) (by have:=HN.out;omega) (by omega)
 have f0:∀ i,w5.frozen? ⟨w.heap.size+1,i,none⟩=false:=fun i=>(zI hkb).trans (A0.out.2.2.2.2.2.1 i)
 have d0:w5.cell? ⟨w.heap.size+1,0,none⟩=some (.int .i64 0):=(zH hkb).trans (A0.out.2.2.2.2.1 0 (by omega))
 have z0:=f0 0
 have d1:w5.cell? ⟨w.heap.size+1,1,none⟩=some (.int .i64 0):=(zH hkb).trans (A0.out.2.2.2.2.1 1 (by omega))
 have z1:=f0 1
 have d2:w5.cell? ⟨w.heap.size+1,2,none⟩=some (.int .i64 0):=(zH hkb).trans (A0.out.2.2.2.2.1 2 (by omega))
 have z2:=f0 2
 have d3:w5.cell? ⟨w.heap.size+1,3,none⟩=some (.int .i64 0):=(zH hkb).trans (A0.out.2.2.2.2.1 3 (by omega))
 have z3:=f0 3
 have d4:w5.cell? ⟨w.heap.size+1,4,none⟩=some (.int .i64 0):=(zH hkb).trans (A0.out.2.2.2.2.1 4 (by omega))
 have z4:=f0 4
 clear F hj hkb HF A0 f0
 have HE:Hid (Rd (((((w5.setCell ⟨w.heap.size+1,0,none⟩ (.int .i64 v0)).setCell ⟨w.heap.size+1,1,none⟩ (.int .i64 v1)).setCell ⟨w.heap.size+1,2,none⟩ (.int .i64 v2)).setCell ⟨w.heap.size+1,3,none⟩ (.int .i64 v3)).setCell ⟨w.heap.size+1,4,none⟩ (.int .i64 v4)) N W0 a0 ys (k+j)/\w.grownBy (((((w5.setCell ⟨w.heap.size+1,0,none⟩ (.int .i64 v0)).setCell ⟨w.heap.size+1,1,none⟩ (.int .i64 v1)).setCell ⟨w.heap.size+1,2,none⟩ (.int .i64 v2)).setCell ⟨w.heap.size+1,3,none⟩ (.int .i64 v3)).setCell ⟨w.heap.size+1,4,none⟩ (.int .i64 v4)) (some N)):=by
  have hM:=HN.out
  have g6:w5.grownBy (((((w5.setCell ⟨w.heap.size+1,0,none⟩ (.int .i64 v0)).setCell ⟨w.heap.size+1,1,none⟩ (.int .i64 v1)).setCell ⟨w.heap.size+1,2,none⟩ (.int .i64 v2)).setCell ⟨w.heap.size+1,3,none⟩ (.int .i64 v3)).setCell ⟨w.heap.size+1,4,none⟩ (.int .i64 v4)) (some (w.heap.size+1)):=by
   iterate 5 (refine zU ?_ (.inl rfl) _)
   exact World.grownBy.refl _ _
  exact ⟨E5.out.1.kept g6 (fun b hb=>by cases hb;omega),E5.out.2.2.andThen g6 (fun b hb=>by cases hb;exact .inl (by omega))⟩
 obtain ⟨D,hD⟩:∃ D,decide (k+5<=(nmA ys).length)=D:=⟨_,rfl⟩
 have HD:Hid (decide (k+5<=(nmA ys).length)=D):=hD
 rw [hD]
 clear hD
 go_wp2
 exact bodyPost_ret (v:=.tuple #[.agg #[.int .i64 v0,.int .i64 v1,.int .i64 v2,.int .i64 v3,.int .i64 v4],.bool D]) (by simp [results,Tryz.results76,go_sem,d0,d1,d2,d3,d4]) rfl ⟨v0,v1,v2,v3,v4,j,by rw [HD.out],HE.out.1,E5.out.2.1,HE.out.2⟩
def ReP (w:World) (N W0:Nat) (a0:Option Addr) (ys:List Int) (k:Nat) (e:Ending) (w':World):Prop:=∃ (v0 v1 v2:Int) (j:Nat),e=.returned (.tuple #[.agg #[.int .i64 v0,.int .i64 v1,.int .i64 v2],.bool (decide (k+3<=(nmA ys).length))])/\Rd w' N W0 a0 ys (k+j)/\(k+3<=(nmA ys).length->j=3/\v0=zi (nmA ys) k/\v1=zi (nmA ys) (k+1)/\v2=zi (nmA ys) (k+2))/\w.grownBy w' (some N)
theorem readEvent_any (a0:Option Addr) (cap N W0 k:Nat) (ys:List Int) (w:World) (hlen:ys.length<=1048576) (hcap:ys.length<=cap) (hb:By ys) (h:Rd w N W0 a0 ys k):
  Calls Tryz.prog 78 #[.agg #[.slice a0 ys.length cap,.pointer (some ⟨N,0,none⟩)]] w (ReP w N W0 a0 ys k):=by
 have HF:Hid (∀ wx S X,Rd wx N W0 a0 ys k->W0<=X->X≠N->X<wx.heap.size->S<wx.heap.size->S≠X->S≠N->(∀ i,i<3->wx.cell? ⟨S,i,none⟩=some (.pointer (some ⟨X,i,none⟩)))->(∀ i,i<3->∃ v:Int,wx.cell? ⟨X,i,none⟩=some (.int .i64 v))->(∀ i,wx.frozen? ⟨X,i,none⟩=false)->Calls Tryz.prog 108 #[.agg #[.slice a0 ys.length cap,.pointer (some ⟨N,0,none⟩)],.slice (some ⟨S,0,none⟩) 3 3] wx fun e w'=>∃ j,e=.returned (.bool (decide (k+3<=(nmA ys).length)))/\FlJ wx w' N X W0 3 k j a0 ys/\(k+3<=(nmA ys).length->j=3)):=fun wx S X h1 h2 h3 h4 h5 h6 h7 h8 h9 h10=>fill_any a0 cap N W0 S X 3 k ys wx hlen hcap hb h1 h2 h3 h4 h5 h6 h7 (by omega) h8 h9 h10
 have HN:Hid (N<w.heap.size/\W0<=N):=⟨h.lt,h.ge⟩
 have A0:Hid (Rd ((((w.alloc (.cells #[.slice a0 ys.length cap,.pointer (some ⟨N,0,none⟩)] 55)).alloc (zQ6)).alloc (zQ6)).alloc (.cells #[.pointer (some ⟨w.heap.size+1+1,0,none⟩),.pointer (some ⟨w.heap.size+1+1,1,none⟩),.pointer (some ⟨w.heap.size+1+1,2,none⟩)] 53)) N W0 a0 ys k/\(∀ i,i<3->((((w.alloc (.cells #[.slice a0 ys.length cap,.pointer (some ⟨N,0,none⟩)] 55)).alloc (zQ6)).alloc (zQ6)).alloc (.cells #[.pointer (some ⟨w.heap.size+1+1,0,none⟩),.pointer (some ⟨w.heap.size+1+1,1,none⟩),.pointer (some ⟨w.heap.size+1+1,2,none⟩)] 53)).cell? ⟨w.heap.size+1+1+1,i,none⟩=some (.pointer (some ⟨w.heap.size+1+1,i,none⟩)))/\(∀ i,i<3->((((w.alloc (.cells #[.slice a0 ys.length cap,.pointer (some ⟨N,0,none⟩)] 55)).alloc (zQ6)).alloc (zQ6)).alloc (.cells #[.pointer (some ⟨w.heap.size+1+1,0,none⟩),.pointer (some ⟨w.heap.size+1+1,1,none⟩),.pointer (some ⟨w.heap.size+1+1,2,none⟩)] 53)).cell? ⟨w.heap.size+1+1,i,none⟩=some (.int .i64 0))/\(∀ i,((((w.alloc (.cells #[.slice a0 ys.length cap,.pointer (some ⟨N,0,none⟩)] 55)).alloc (zQ6)).alloc (zQ6)).alloc (.cells #[.pointer (some ⟨w.heap.size+1+1,0,none⟩),.pointer (some ⟨w.heap.size+1+1,1,none⟩),.pointer (some ⟨w.heap.size+1+1,2,none⟩)] 53)).frozen? ⟨w.heap.size+1+1,i,none⟩=false)/\(∀ i,i<3->((((w.alloc (.cells #[.slice a0 ys.length cap,.pointer (some ⟨N,0,none⟩)] 55)).alloc (zQ6)).alloc (zQ6)).alloc (.cells #[.pointer (some ⟨w.heap.size+1+1,0,none⟩),.pointer (some ⟨w.heap.size+1+1,1,none⟩),.pointer (some ⟨w.heap.size+1+1,2,none⟩)] 53)).cell? ⟨w.heap.size+1,i,none⟩=some (.int .i64 0))/\(∀ i,((((w.alloc (.cells #[.slice a0 ys.length cap,.pointer (some ⟨N,0,none⟩)] 55)).alloc (zQ6)).alloc (zQ6)).alloc (.cells #[.pointer (some ⟨w.heap.size+1+1,0,none⟩),.pointer (some ⟨w.heap.size+1+1,1,none⟩),.pointer (some ⟨w.heap.size+1+1,2,none⟩)] 53)).frozen? ⟨w.heap.size+1,i,none⟩=false)/\((((w.alloc (.cells #[.slice a0 ys.length cap,.pointer (some ⟨N,0,none⟩)] 55)).alloc (zQ6)).alloc (zQ6)).alloc (.cells #[.pointer (some ⟨w.heap.size+1+1,0,none⟩),.pointer (some ⟨w.heap.size+1+1,1,none⟩),.pointer (some ⟨w.heap.size+1+1,2,none⟩)] 53)).heap.size=w.heap.size+1+1+1+1/\Below w.heap.size w ((((w.alloc (.cells #[.slice a0 ys.length cap,.pointer (some ⟨N,0,none⟩)] 55)).alloc (zQ6)).alloc (zQ6)).alloc (.cells #[.pointer (some ⟨w.heap.size+1+1,0,none⟩),.pointer (some ⟨w.heap.size+1+1,1,none⟩),.pointer (some ⟨w.heap.size+1+1,2,none⟩)] 53))):=by
  have b1:=zS w (.cells #[.slice a0 ys.length cap,.pointer (some ⟨N,0,none⟩)] 55)
  have s1:(w.alloc (.cells #[.slice a0 ys.length cap,.pointer (some ⟨N,0,none⟩)] 55)).heap.size=w.heap.size+1:=by simp
  generalize hw1:w.alloc (.cells #[.slice a0 ys.length cap,.pointer (some ⟨N,0,none⟩)] 55)=w1 at *
  have b2:=zS w1 (zQ6)
  have s2:(w1.alloc (zQ6)).heap.size=w.heap.size+1+1:=by simp [s1]
  have c2:∀ i,i<3->(w1.alloc (zQ6)).cell? ⟨w.heap.size+1,i,none⟩=some (.int .i64 0):=fun i hi=>by
   rw [<- s1]
   match i,hi with
   | 0,_=>exact zV _ _ _ 0 rfl
   | 1,_=>exact zV _ _ _ 1 rfl
   | 2,_=>exact zV _ _ _ 2 rfl
  have f2:∀ i,(w1.alloc (zQ6)).frozen? ⟨w.heap.size+1,i,none⟩=false:=fun i=>by
   rw [<- s1]
   exact yA _ _ _ _ rfl
  generalize hw2:w1.alloc (zQ6)=w2 at *
  have b3:=zS w2 (zQ6)
  have s3:(w2.alloc (zQ6)).heap.size=w.heap.size+1+1+1:=by simp [s2]
  have c3:∀ i,i<3->(w2.alloc (zQ6)).cell? ⟨w.heap.size+1+1,i,none⟩=some (.int .i64 0):=fun i hi=>by
   rw [<- s2]
   match i,hi with
   | 0,_=>exact zV _ _ _ 0 rfl
   | 1,_=>exact zV _ _ _ 1 rfl
   | 2,_=>exact zV _ _ _ 2 rfl
  have f3:∀ i,(w2.alloc (zQ6)).frozen? ⟨w.heap.size+1+1,i,none⟩=false:=fun i=>by
   rw [<- s2]
   exact yA _ _ _ _ rfl
  generalize hw3:w2.alloc (zQ6)=w3 at *
  have b4:=zS w3 (.cells #[.pointer (some ⟨w.heap.size+1+1,0,none⟩),.pointer (some ⟨w.heap.size+1+1,1,none⟩),.pointer (some ⟨w.heap.size+1+1,2,none⟩)] 53)
  have s4:(w3.alloc (.cells #[.pointer (some ⟨w.heap.size+1+1,0,none⟩),.pointer (some ⟨w.heap.size+1+1,1,none⟩),.pointer (some ⟨w.heap.size+1+1,2,none⟩)] 53)).heap.size=w.heap.size+1+1+1+1:=by simp [s3]
  have c4:∀ i,i<3->(w3.alloc (.cells #[.pointer (some ⟨w.heap.size+1+1,0,none⟩),.pointer (some ⟨w.heap.size+1+1,1,none⟩),.pointer (some ⟨w.heap.size+1+1,2,none⟩)] 53)).cell? ⟨w.heap.size+1+1+1,i,none⟩=some (.pointer (some ⟨w.heap.size+1+1,i,none⟩)):=fun i hi=>by
   rw [<- s3]
   match i,hi with
   | 0,_=>exact zV _ _ _ 0 rfl
   | 1,_=>exact zV _ _ _ 1 rfl
   | 2,_=>exact zV _ _ _ 2 rfl
  generalize w3.alloc (.cells #[.pointer (some ⟨w.heap.size+1+1,0,none⟩),.pointer (some ⟨w.heap.size+1+1,1,none⟩),.pointer (some ⟨w.heap.size+1+1,2,none⟩)] 53)=w4 at *
  have b24:Below w2.heap.size w2 w4:=b3.trans (b4.mono b3.size)
  have b14:Below w1.heap.size w1 w4:=b2.trans (b24.mono b2.size)
  have b04:Below w.heap.size w w4:=b1.trans (b14.mono b1.size)
  exact ⟨h.below b04,c4,fun i hi=>(zH (b4.block (w.heap.size+1+1) (by omega))).trans (c3 i hi),fun i=>(zI (b4.block (w.heap.size+1+1) (by omega))).trans (f3 i),fun i hi=>(zH (b24.block (w.heap.size+1) (by omega))).trans (c2 i hi),fun i=>(zI (b24.block (w.heap.size+1) (by omega))).trans (f2 i),s4,b04⟩
 clear hlen hcap hb h
 go_enter Tryz.func78,Tryz.ntmps78
 go_upto_region 2 with fail
 go_wp2_with fail
 generalize (((w.alloc (.cells #[.slice a0 ys.length cap,.pointer (some ⟨N,0,none⟩)] 55)).alloc (zQ6)).alloc (zQ6)).alloc (.cells #[.pointer (some ⟨w.heap.size+1+1,0,none⟩),.pointer (some ⟨w.heap.size+1+1,1,none⟩),.pointer (some ⟨w.heap.size+1+1,2,none⟩)] 53)=w4 at *
 refine (HF.out w4 (w.heap.size+1+1+1) (w.heap.size+1+1) A0.out.1 (by have:=HN.out;omega) (by have:=HN.out;omega) (by have:=A0.out.2.2.2.2.2.2.1;omega) (by have:=A0.out.2.2.2.2.2.2.1;omega) (by omega) (by have:=HN.out;omega) A0.out.2.1 (fun i hi=>⟨_,A0.out.2.2.1 i hi⟩) A0.out.2.2.2.1).mono ?_
 rintro e w5 ⟨j,rfl,F,hj⟩
 obtain ⟨v0,x0⟩:=F.cr 0 (by omega)
 obtain ⟨v1,x1⟩:=F.cr 1 (by omega)
 obtain ⟨v2,x2⟩:=F.cr 2 (by omega)
 have E5:Hid (Rd w5 N W0 a0 ys (k+j)/\(k+3<=(nmA ys).length->j=3/\v0=zi (nmA ys) k/\v1=zi (nmA ys) (k+1)/\v2=zi (nmA ys) (k+2))/\w.grownBy w5 (some N)):=by
  refine ⟨F.rd,fun hh=>⟨hj hh,?_⟩,Gr2.row A0.out.2.2.2.2.2.2.2 F.gr (by omega)⟩
  have e:=hj hh
  subst e
  have q:∀ (i:Nat) (v:Int),i<3->w5.cell? ⟨w.heap.size+1+1,i,none⟩=some (.int .i64 v)->v=zi (nmA ys) (k+i):=fun i v hi hv=>by
   have h1:=F.cs i hi
   rw [hv] at h1
   simpa using h1
  exact ⟨q 0 v0 (by omega) x0,q 1 v1 (by omega) x1,q 2 v2 (by omega) x2⟩
 have hkb:w5.heap[w.heap.size+1]? = w4.heap[w.heap.size+1]?:=F.gr.block _ (by have:=A0.out.2.2.2.2.2.2.1;omega) (by have:=HN.out;omega) (by omega)
 have f0:∀ i,w5.frozen? ⟨w.heap.size+1,i,none⟩=false:=fun i=>(zI hkb).trans (A0.out.2.2.2.2.2.1 i)
 have d0:w5.cell? ⟨w.heap.size+1,0,none⟩=some (.int .i64 0):=(zH hkb).trans (A0.out.2.2.2.2.1 0 (by omega))
 have z0:=f0 0
 have d1:w5.cell? ⟨w.heap.size+1,1,none⟩=some (.int .i64 0):=(zH hkb).trans (A0.out.2.2.2.2.1 1 (by omega))
 have z1:=f0 1
 have d2:w5.cell? ⟨w.heap.size+1,2,none⟩=some (.int .i64 0):=(zH hkb).trans (A0.out.2.2.2.2.1 2 (by omega))
 have z2:=f0 2
 clear F hj hkb HF A0 f0
 have HE:Hid (Rd (((w5.setCell ⟨w.heap.size+1,0,none⟩ (.int .i64 v0)).setCell ⟨w.heap.size+1,1,none⟩ (.int .i64 v1)).setCell ⟨w.heap.size+1,2,none⟩ (.int .i64 v2)) N W0 a0 ys (k+j)/\w.grownBy (((w5.setCell ⟨w.heap.size+1,0,none⟩ (.int .i64 v0)).setCell ⟨w.heap.size+1,1,none⟩ (.int .i64 v1)).setCell ⟨w.heap.size+1,2,none⟩ (.int .i64 v2)) (some N)):=by
  have hM:=HN.out
  have g6:w5.grownBy (((w5.setCell ⟨w.heap.size+1,0,none⟩ (.int .i64 v0)).setCell ⟨w.heap.size+1,1,none⟩ (.int .i64 v1)).setCell ⟨w.heap.size+1,2,none⟩ (.int .i64 v2)) (some (w.heap.size+1)):=by
   iterate 3 (refine zU ?_ (.inl rfl) _)
   exact World.grownBy.refl _ _
  exact ⟨E5.out.1.kept g6 (fun b hb=>by cases hb;omega),E5.out.2.2.andThen g6 (fun b hb=>by cases hb;exact .inl (by omega))⟩
 obtain ⟨D,hD⟩:∃ D,decide (k+3<=(nmA ys).length)=D:=⟨_,rfl⟩
 have HD:Hid (decide (k+3<=(nmA ys).length)=D):=hD
 rw [hD]
 clear hD
 go_wp2
 exact bodyPost_ret (v:=.tuple #[.agg #[.int .i64 v0,.int .i64 v1,.int .i64 v2],.bool D]) (by simp [results,Tryz.results78,go_sem,d0,d1,d2]) rfl ⟨v0,v1,v2,j,by rw [HD.out],HE.out.1,E5.out.2.1,HE.out.2⟩
theorem run_make_cap {t e:TypeId} {size bytes:Nat} (K:Kind t e size bytes) (n:Nat) (hn:n<=200):∃ cs:Array Value,cs.size=n*size/\∀ w:World,(Instr.makeSlice t (.int .i64 0) (.int .i64 (n:Int))).run Tryz.prog w=.ok (.slice (some ⟨w.heap.size,0,none⟩) 0 n) (w.alloc (.cells cs e)):=by
 obtain ⟨i,z,hi,hz,hs,hb,hzs⟩:=K.inf
 refine ⟨madeCells z.cells (n*size),size_madeCells _ _,fun w=>?_⟩
 have hby:i.bytes*n<=281474976710656:=by
  rw [hb]
  exact zO (Nat.mul_le_mul K.sml hn) (by omega)
 have hby':(i.bytes:Int)*(n:Int)<=281474976710656:=by rw [<- Int.natCast_mul];exact Int.ofNat_le.2 hby
 have h:=run_make (P:=Tryz.prog) w t e i z K.und hi hz .i64 .i64 0 (n:Int) (by omega) (by omega) hby' (by omega)
 rw [hs,Int.toNat_natCast] at h
 exact h
def BxR (w:World) (N:Nat) (a b:Value):Prop:=w.cell? ⟨N,0,none⟩=some a/\w.cell? ⟨N,1,none⟩=some b
def RlP (d:Nat) (E:TypeId) (cells:Nat->Nat->List Value) (w:World) (N W0:Nat) (a0:Option Addr) (ys:List Int) (most k:Nat) (e:Ending) (w':World):Prop:=∃ (u:Value) (k':Nat),e=.returned (.tuple #[u,.bool (lsK (nmA ys) d most k).isSome])/\Rd w' N W0 a0 ys k'/\(lsK (nmA ys) d most k=none->u=.slice none 0 0)/\(∀ j,lsK (nmA ys) d most k=some j->k'=j/\w'.ownsRow w.heap.size E d u (ctN (nmA ys) k) (cells (k+1) (ctN (nmA ys) k))/\u≠.slice none 0 0)/\w.grownBy w' (some N)
structure LpII (w wr:World) (N W0:Nat) (a0:Option Addr) (ys:List Int) (cap:Nat) (v:Value) (k q:Nat):Prop where
 ow:wr.ownsRow (w.heap.size+1) 43 5 v q (fI (itN (nmA ys) (k+1)) q)
 nn:v≠.slice none 0 0
 rd:Rd wr N W0 a0 ys (k+1+5*q)
 gr:w.grownBy wr (some N)
 bx:BxR wr w.heap.size (.slice a0 ys.length cap) (.pointer (some ⟨N,0,none⟩))
structure LpIJ (w wr:World) (N W0:Nat) (a0:Option Addr) (ys:List Int) (cap:Nat) (v:Value) (k q r:Nat):Prop where
 ow:wr.ownsRow (w.heap.size+1) 43 5 v q (fI (itN (nmA ys) (k+1)) q)
 nn:v≠.slice none 0 0
 rd:Rd wr N W0 a0 ys r
 gr:w.grownBy wr (some N)
 bx:BxR wr w.heap.size (.slice a0 ys.length cap) (.pointer (some ⟨N,0,none⟩))
theorem LpIJ.sz {w wr:World} {N W0 cap k q r:Nat} {a0:Option Addr} {ys:List Int} {v:Value} (h:LpIJ w wr N W0 a0 ys cap v k q r):w.heap.size+1<=wr.heap.size:=zJ wr _ h.bx.1
theorem LpII.one {w wr w4:World} {N W0 cap k q r:Nat} {a0:Option Addr} {ys:List Int} {v:Value} (h:LpII w wr N W0 a0 ys cap v k q) (hN:N<w.heap.size) (hr:Rd w4 N W0 a0 ys r) (hg:wr.grownBy w4 (some N)):LpIJ w w4 N W0 a0 ys cap v k q r:=by
 have hl:w.heap.size<wr.heap.size:=zJ wr _ h.bx.1
 have hb:=hg.block w.heap.size hl (by simp;omega)
 refine ⟨h.ow.kept hg (.inr fun e=>?_),h.nn,hr,h.gr.trans hg,⟨(zH hb).trans h.bx.1,(zH hb).trans h.bx.2⟩⟩
 have:=(h.ow.lt N e).1
 omega
theorem LpIJ.alloc {w wr:World} {N W0 cap k q r:Nat} {a0:Option Addr} {ys:List Int} {v:Value} (h:LpIJ w wr N W0 a0 ys cap v k q r) (o:Obj):LpIJ w (wr.alloc o) N W0 a0 ys cap v k q r:=by
 have ba:=zS wr o
 have hl:w.heap.size<wr.heap.size:=zJ wr _ h.bx.1
 exact ⟨h.ow.alloc o,h.nn,h.rd.below ba,h.gr.andThen (zY ba) (fun j hj=>by cases hj),⟨(ba.cell (p:=⟨w.heap.size,0,none⟩) hl).trans h.bx.1,(ba.cell (p:=⟨w.heap.size,1,none⟩) hl).trans h.bx.2⟩⟩
theorem LpIJ.app {w wr w7:World} {N W0 cap k q:Nat} {a0:Option Addr} {ys:List Int} {v v7:Value} (h:LpIJ w wr N W0 a0 ys cap v k q (k+1+5*(q+1))) (hN:N<w.heap.size) (ho:w7.ownsRow (w.heap.size+1) 43 5 v7 (q+1) (fI (itN (nmA ys) (k+1)) (q+1))) (hg:wr.grownBy w7 v.ownBlock) (hn:v7≠.slice none 0 0):LpII w w7 N W0 a0 ys cap v7 k (q+1):=by
 have hl:w.heap.size<wr.heap.size:=zJ wr _ h.bx.1
 have hb:=hg.block w.heap.size hl (fun e=>by have:=(h.ow.lt _ e.symm).1;omega)
 refine ⟨ho,hn,h.rd.kept hg (fun j hj=>?_),h.gr.andThen hg (fun j hj=>.inl ?_),⟨(zH hb).trans h.bx.1,(zH hb).trans h.bx.2⟩⟩
 ·have:=(h.ow.lt j hj).1
  have:=h.rd.ge
  omega
 ·have:=(h.ow.lt j hj).1
  omega
theorem fI_up (ns:List Int) (k n:Nat):fI (itN ns k) (n+1)=fI (itN ns k) n ++ cI (itN ns k n):=rfl
theorem readListI_any (a0:Option Addr) (cap N W0 k most:Nat) (ys:List Int) (w:World) (hlen:ys.length<=1048576) (hcap:ys.length<=cap) (hb:By ys) (hm:most<=200) (h:Rd w N W0 a0 ys k):
  Calls Tryz.prog 75 #[.agg #[.slice a0 ys.length cap,.pointer (some ⟨N,0,none⟩)],.int .i64 (most:Nat),.func (.func 76) #[] #[]] w (RlP 5 43 (fun k n=>fI (itN (nmA ys) k) n) w N W0 a0 ys most k):=by
 have HNum:Hid (∀ wx k',Rd wx N W0 a0 ys k'->Calls Tryz.prog 41 #[.agg #[.slice a0 ys.length cap,.pointer (some ⟨N,0,none⟩)]] wx fun e w'=>e=.returned (rdX ys k')/\Rd w' N W0 a0 ys (rdK ys k')/\wx.grownBy w' (some N)):=fun wx k' hx=>num_any a0 cap N W0 k' ys wx hlen hcap hb hx
 have HOne:Hid (∀ wx k',Rd wx N W0 a0 ys k'->Calls Tryz.prog 76 #[.agg #[.slice a0 ys.length cap,.pointer (some ⟨N,0,none⟩)]] wx (RiP wx N W0 a0 ys k')):=fun wx k' hx=>readIns_any a0 cap N W0 k' ys wx hlen hcap hb hx
 have HN:Hid (N<w.heap.size/\W0<=N):=⟨h.lt,h.ge⟩
 have ba:=zS w (.cells #[.slice a0 ys.length cap,.pointer (some ⟨N,0,none⟩)] 55)
 have A0:Hid (Rd (w.alloc (.cells #[.slice a0 ys.length cap,.pointer (some ⟨N,0,none⟩)] 55)) N W0 a0 ys k/\BxR (w.alloc (.cells #[.slice a0 ys.length cap,.pointer (some ⟨N,0,none⟩)] 55)) w.heap.size (.slice a0 ys.length cap) (.pointer (some ⟨N,0,none⟩))/\Below w.heap.size w (w.alloc (.cells #[.slice a0 ys.length cap,.pointer (some ⟨N,0,none⟩)] 55))/\(w.alloc (.cells #[.slice a0 ys.length cap,.pointer (some ⟨N,0,none⟩)] 55)).heap.size=w.heap.size+1):=⟨h.below ba,⟨zV _ _ _ 0 rfl,zV _ _ _ 1 rfl⟩,ba,by simp⟩
 have hmost:(most:Int)<=200:=by omega
 clear hlen hcap hb h ba
 go_enter Tryz.func75,Tryz.ntmps75
 go_upto_region 1 with fail
 generalize w.alloc (.cells #[.slice a0 ys.length cap,.pointer (some ⟨N,0,none⟩)] 55)=w1 at *
 obtain ⟨r0,r1⟩:=A0.out.2.1
 go_wp2_with fail
 clear r0 r1
 refine (HNum.out w1 k A0.out.1).mono ?_
 rintro e w2 ⟨rfl,hr2,hg2⟩
 have hM:Hid (w.heap.size<w1.heap.size/\N<w.heap.size):=⟨by have:=A0.out.2.2.2;omega,HN.out.1⟩
 by_cases hk:k<(nmA ys).length
 case neg=>
  have e1:rdX ys k=.tuple #[.int .i64 0,.bool false]:=if_neg hk
  have e2:rdK ys k=k:=if_neg hk
  rw [e2] at hr2
  rw [e1]
  have HE:Hid (Rd w2 N W0 a0 ys k/\lsK (nmA ys) 5 most k=none/\w.grownBy w2 (some N)):=⟨hr2,by unfold lsK;rw [if_neg (fun hc=>hk hc.1)],((World.grownBy.refl w (some N)).andThen (zY A0.out.2.2.1) (fun j hj=>by cases hj)).trans hg2⟩
  clear hr2 hg2 A0 e1 e2 hk HNum HOne
  go_wp2
  exact bodyPost_ret (v:=.tuple #[.slice none 0 0,.bool false]) (by simp [results,Tryz.results75,go_sem]) rfl ⟨_,k,by rw [HE.out.2.1];rfl,HE.out.1,fun _=>rfl,fun j hj=>(by rw [HE.out.2.1] at hj;cases hj),HE.out.2.2⟩
 have e1:rdX ys k=.tuple #[.int .i64 (zi (nmA ys) k),.bool true]:=if_pos hk
 have e2:rdK ys k=k+1:=if_pos hk
 rw [e2] at hr2
 rw [e1]
 obtain ⟨c,hc⟩:∃ c,zi (nmA ys) k=c:=⟨_,rfl⟩
 rw [hc]
 have G2:Hid (Rd w2 N W0 a0 ys (k+1)/\w.grownBy w2 (some N)/\BxR w2 w.heap.size (.slice a0 ys.length cap) (.pointer (some ⟨N,0,none⟩))/\w.heap.size<w2.heap.size):=by
  have hb2:=hg2.block w.heap.size hM.out.1 (by have:=hM.out.2;simp;omega)
  exact ⟨hr2,((World.grownBy.refl w (some N)).andThen (zY A0.out.2.2.1) (fun j hj=>by cases hj)).trans hg2,⟨(zH hb2).trans A0.out.2.1.1,(zH hb2).trans A0.out.2.1.2⟩,by have:=hg2.size;have:=hM.out.1;omega⟩
 have HK:Hid (k<(nmA ys).length/\zi (nmA ys) k=c):=⟨hk,hc⟩
 clear hr2 hg2 A0 e1 e2 hk hc HNum
 by_cases hcl:c<0\/(most:Int)<c
 case pos=>
  have HE:Hid (lsK (nmA ys) 5 most k=none):=by
   show lsK (nmA ys) 5 most k=none
   unfold lsK
   rw [if_neg (fun hh=>by have:=HK.out.2;omega)]
  by_cases hc0:c<0
  ·clear HOne
   go_wp2
   exact bodyPost_ret (v:=.tuple #[.slice none 0 0,.bool false]) (by simp [results,Tryz.results75,go_sem]) rfl ⟨_,k+1,by rw [HE.out];rfl,G2.out.1,fun _=>rfl,fun j hj=>(by rw [HE.out] at hj;cases hj),G2.out.2.1⟩
  ·have hc1:(most:Int)<c:=by omega
   clear HOne hcl
   go_wp2
   exact bodyPost_ret (v:=.tuple #[.slice none 0 0,.bool false]) (by simp [results,Tryz.results75,go_sem]) rfl ⟨_,k+1,by rw [HE.out];rfl,G2.out.1,fun _=>rfl,fun j hj=>(by rw [HE.out] at hj;cases hj),G2.out.2.1⟩
 obtain ⟨n,rfl⟩:∃ n:Nat,c=n:=⟨c.toNat,by omega⟩
 have hc0:¬ (n:Int)<0:=by omega
 have hc1:¬ (most:Int)<(n:Int):=by omega
 have hn2:(n:Int)<=200:=by omega
 have hct:ctN (nmA ys) k=n:=by unfold ctN;rw [HK.out.2];simp
 have HL:Hid (ctN (nmA ys) k=n/\lsK (nmA ys) 5 most k=(if k+1+5*n<=(nmA ys).length then some (k+1+5*n) else none)/\n<=200):=by
  refine ⟨hct,?_,by omega⟩
  unfold lsK
  rw [hct,HK.out.2]
  by_cases hh:k+1+5*n<=(nmA ys).length
  ·rw [if_pos hh,if_pos ⟨HK.out.1,by omega,by omega,hh⟩]
  ·rw [if_neg hh,if_neg (fun h9=>hh h9.2.2.2)]
 obtain ⟨cs,hcs,hmk⟩:=run_make_cap kndI n (by omega)
 have HO2:Hid ((w2.alloc (.cells cs 43)).ownsRow (w.heap.size+1) 43 5 (.slice (some ⟨w2.heap.size,0,none⟩) 0 n) 0 []):=World.ownsRow_made (base:=w.heap.size+1) (e:=43) (size:=5) w2 cs n (by have:=G2.out.2.2.2;omega) (by unfold maxLen;omega) (by rw [hcs])
 clear hct hcl hmost hcs HK
 go_wp2_with fail
 clear hmk
 have ba:=zS w2 (.cells cs 43)
 have L0:Hid (LpII w (w2.alloc (.cells cs 43)) N W0 a0 ys cap (.slice (some ⟨w2.heap.size,0,none⟩) 0 n) k 0):=⟨HO2.out,by simp,G2.out.1.below ba,G2.out.2.1.andThen (zY ba) (fun j hj=>by cases hj),⟨(ba.cell (p:=⟨w.heap.size,0,none⟩) G2.out.2.2.2).trans G2.out.2.2.1.1,(ba.cell (p:=⟨w.heap.size,1,none⟩) G2.out.2.2.2).trans G2.out.2.2.1.2⟩⟩
 clear ba HO2 G2
 generalize w2.alloc (.cells cs 43)=w3 at *
 generalize w2.heap.size=Q2 at *
 simp only [show decide ((n:Int)<0)=false from decide_eq_false (by omega),show decide (most<n)=false from decide_eq_false (by omega),Bool.false_or]
 go_loopw [10,32] (fun v i wr=>∃ q:Nat,q<=n/\i=.int .i64 (q:Nat)/\Hid (LpII w wr N W0 a0 ys cap v k q)) (fun _ i _=>n - (intOf i).toNat)
 case atStart=>exact ⟨0,Nat.zero_le _,rfl,L0.out⟩
 case round=>
  clear L0
  rename World=>wr
  obtain ⟨q,hq,rfl,HI⟩:=hrel
  by_cases hqt:q<n
  case neg=>
   have hqn:q=n:=by omega
   have hqt':¬ (q:Int)<(n:Int):=by omega
   have HE:Hid (lsK (nmA ys) 5 most k=some (k+1+5*n)/\ctN (nmA ys) k=n/\Rd wr N W0 a0 ys (k+1+5*n)/\wr.ownsRow w.heap.size 43 5 u10 n (fI (itN (nmA ys) (k+1)) n)/\u10≠.slice none 0 0/\w.grownBy wr (some N)):=by
    have hr:=HI.out.rd
    rw [hqn] at hr
    have hle:=hr.le
    have ho:=HI.out.ow
    rw [hqn] at ho
    exact ⟨by rw [HL.out.2.1,if_pos hle],HL.out.1,hr,ho.mono (Nat.le_succ _),HI.out.nn,HI.out.gr⟩
   clear HI hqn HOne
   go_wp2
   exact bodyPost_ret (v:=.tuple #[u10,.bool true]) (by simp [results,Tryz.results75,go_sem]) rfl ⟨u10,k+1+5*n,by rw [HE.out.1];rfl,HE.out.2.2.1,fun hh=>(by rw [HE.out.1] at hh;cases hh),fun j hj=>(by rw [HE.out.1] at hj;cases hj;rw [HE.out.2.1];exact ⟨rfl,HE.out.2.2.2.1,HE.out.2.2.2.2.1⟩),HE.out.2.2.2.2.2⟩
  have hqt':(q:Int)<(n:Int):=by omega
  obtain ⟨r0,r1⟩:=HI.out.bx
  go_wp2_with fail
  clear r0 r1
  refine (HOne.out wr (k+1+5*q) HI.out.rd).mono ?_
  rintro e w4 ⟨v0,v1,v2,v3,v4,j,rfl,hr4,hj4,hg4⟩
  have I4:Hid (LpIJ w w4 N W0 a0 ys cap u10 k q (k+1+5*q+j)):=HI.out.one hM.out.2 hr4 hg4
  have HV:Hid (k+1+5*q+5<=(nmA ys).length->j=5/\cI (itN (nmA ys) (k+1) q)=[.int .i64 v0,.int .i64 v1,.int .i64 v2,.int .i64 v3,.int .i64 v4]):=fun hh=>by
   obtain ⟨h1,rfl,rfl,rfl,rfl,rfl⟩:=hj4 hh
   refine ⟨h1,?_⟩
   rfl
  clear hr4 hj4 hg4 HI
  by_cases hh:k+1+5*q+5<=(nmA ys).length
  case neg=>
   have HE:Hid (lsK (nmA ys) 5 most k=none/\Rd w4 N W0 a0 ys (k+1+5*q+j)/\w.grownBy w4 (some N)):=by
    refine ⟨?_,I4.out.rd,I4.out.gr⟩
    rw [HL.out.2.1,if_neg (by omega)]
   have HE2:Hid (Rd (w4.alloc (oQ2 v0 v1 v2 v3 v4)) N W0 a0 ys (k+1+5*q+j)/\w.grownBy (w4.alloc (oQ2 v0 v1 v2 v3 v4)) (some N)):=⟨HE.out.2.1.below (zS _ _),HE.out.2.2.andThen (zY (zS _ _)) (fun j hj=>by cases hj)⟩
   rw [decide_eq_false hh]
   clear I4 HV HOne hh
   go_wp2
   exact bodyPost_ret (v:=.tuple #[.slice none 0 0,.bool false]) (by simp [results,Tryz.results75,go_sem]) rfl ⟨_,k+1+5*q+j,by rw [HE.out.1];rfl,HE2.out.1,fun _=>rfl,fun j hj=>(by rw [HE.out.1] at hj;cases hj),HE2.out.2⟩
  rw [decide_eq_true hh]
  have hV:=HV.out hh
  obtain ⟨hjd,hcells⟩:=hV
  subst hjd
  have HC:Hid (cI (itN (nmA ys) (k+1) q)=[.int .i64 v0,.int .i64 v1,.int .i64 v2,.int .i64 v3,.int .i64 v4]):=hcells
  have I5:Hid (LpIJ w (w4.alloc (oQ2 v0 v1 v2 v3 v4)) N W0 a0 ys cap u10 k q (k+1+5*(q+1))):=by
   have h9:=I4.out.alloc (oQ2 v0 v1 v2 v3 v4)
   rw [show k+1+5*(q+1)=k+1+5*q+5 by omega]
   exact h9
  have hq2:Hid (q<=2000000):=by have:=HL.out.2.2;show q<=2000000;omega
  have k0:(w4.alloc (oQ2 v0 v1 v2 v3 v4)).cell? ⟨w4.heap.size,0,none⟩=some (.int .i64 v0):=zV _ _ _ 0 rfl
  have k1:(w4.alloc (oQ2 v0 v1 v2 v3 v4)).cell? ⟨w4.heap.size,1,none⟩=some (.int .i64 v1):=zV _ _ _ 1 rfl
  have k2:(w4.alloc (oQ2 v0 v1 v2 v3 v4)).cell? ⟨w4.heap.size,2,none⟩=some (.int .i64 v2):=zV _ _ _ 2 rfl
  have k3:(w4.alloc (oQ2 v0 v1 v2 v3 v4)).cell? ⟨w4.heap.size,3,none⟩=some (.int .i64 v3):=zV _ _ _ 3 rfl
  have k4:(w4.alloc (oQ2 v0 v1 v2 v3 v4)).cell? ⟨w4.heap.size,4,none⟩=some (.int .i64 v4):=zV _ _ _ 4 rfl
  clear I4 HV hh hcells
  go_upto_region 10 with fail
  generalize w4.alloc (oQ2 v0 v1 v2 v3 v4)=w5 at *
  generalize w4.heap.size=Q4 at *
  go_wp2_with (at_builtin;refine step_append_val kndI w5 rfl rfl _ _ rfl (w.heap.size+1) u10 q _ rfl I5.out.ow #[.int .i64 v0,.int .i64 v1,.int .i64 v2,.int .i64 v3,.int .i64 v4] rfl rfl (by intro u hu;simp at hu;rcases hu with rfl | rfl | rfl | rfl | rfl <;> rfl) hq2.out I5.out.sz ?_;intro v7 w7 o7 g7 q7 n7;have F7:Hid (LpII w w7 N W0 a0 ys cap v7 k (q+1)):=I5.out.app hM.out.2 (by rw [fI_up,HC.out];exact o7) g7 n7;clear o7 g7 q7 n7)
  go_roundw
  case rel=>exact ⟨q+1,by omega,by go_num,F7.out⟩
  case measure=>simp [intOf];omega
structure LpEI (w wr:World) (N W0:Nat) (a0:Option Addr) (ys:List Int) (cap:Nat) (v:Value) (k q:Nat):Prop where
 ow:wr.ownsRow (w.heap.size+1) 46 3 v q (fE (evN (nmA ys) (k+1)) q)
 nn:v≠.slice none 0 0
 rd:Rd wr N W0 a0 ys (k+1+3*q)
 gr:w.grownBy wr (some N)
 bx:BxR wr w.heap.size (.slice a0 ys.length cap) (.pointer (some ⟨N,0,none⟩))
structure LpEJ (w wr:World) (N W0:Nat) (a0:Option Addr) (ys:List Int) (cap:Nat) (v:Value) (k q r:Nat):Prop where
 ow:wr.ownsRow (w.heap.size+1) 46 3 v q (fE (evN (nmA ys) (k+1)) q)
 nn:v≠.slice none 0 0
 rd:Rd wr N W0 a0 ys r
 gr:w.grownBy wr (some N)
 bx:BxR wr w.heap.size (.slice a0 ys.length cap) (.pointer (some ⟨N,0,none⟩))
theorem LpEJ.sz {w wr:World} {N W0 cap k q r:Nat} {a0:Option Addr} {ys:List Int} {v:Value} (h:LpEJ w wr N W0 a0 ys cap v k q r):w.heap.size+1<=wr.heap.size:=zJ wr _ h.bx.1
theorem LpEI.one {w wr w4:World} {N W0 cap k q r:Nat} {a0:Option Addr} {ys:List Int} {v:Value} (h:LpEI w wr N W0 a0 ys cap v k q) (hN:N<w.heap.size) (hr:Rd w4 N W0 a0 ys r) (hg:wr.grownBy w4 (some N)):LpEJ w w4 N W0 a0 ys cap v k q r:=by
 have hl:w.heap.size<wr.heap.size:=zJ wr _ h.bx.1
 have hb:=hg.block w.heap.size hl (by simp;omega)
 refine ⟨h.ow.kept hg (.inr fun e=>?_),h.nn,hr,h.gr.trans hg,⟨(zH hb).trans h.bx.1,(zH hb).trans h.bx.2⟩⟩
 have:=(h.ow.lt N e).1
 omega
theorem LpEJ.alloc {w wr:World} {N W0 cap k q r:Nat} {a0:Option Addr} {ys:List Int} {v:Value} (h:LpEJ w wr N W0 a0 ys cap v k q r) (o:Obj):LpEJ w (wr.alloc o) N W0 a0 ys cap v k q r:=by
 have ba:=zS wr o
 have hl:w.heap.size<wr.heap.size:=zJ wr _ h.bx.1
 exact ⟨h.ow.alloc o,h.nn,h.rd.below ba,h.gr.andThen (zY ba) (fun j hj=>by cases hj),⟨(ba.cell (p:=⟨w.heap.size,0,none⟩) hl).trans h.bx.1,(ba.cell (p:=⟨w.heap.size,1,none⟩) hl).trans h.bx.2⟩⟩
theorem LpEJ.app {w wr w7:World} {N W0 cap k q:Nat} {a0:Option Addr} {ys:List Int} {v v7:Value} (h:LpEJ w wr N W0 a0 ys cap v k q (k+1+3*(q+1))) (hN:N<w.heap.size) (ho:w7.ownsRow (w.heap.size+1) 46 3 v7 (q+1) (fE (evN (nmA ys) (k+1)) (q+1))) (hg:wr.grownBy w7 v.ownBlock) (hn:v7≠.slice none 0 0):LpEI w w7 N W0 a0 ys cap v7 k (q+1):=by
 have hl:w.heap.size<wr.heap.size:=zJ wr _ h.bx.1
 have hb:=hg.block w.heap.size hl (fun e=>by have:=(h.ow.lt _ e.symm).1;omega)
 refine ⟨ho,hn,h.rd.kept hg (fun j hj=>?_),h.gr.andThen hg (fun j hj=>.inl ?_),⟨(zH hb).trans h.bx.1,(zH hb).trans h.bx.2⟩⟩
 ·have:=(h.ow.lt j hj).1
  have:=h.rd.ge
  omega
 ·have:=(h.ow.lt j hj).1
  omega
theorem fE_up (ns:List Int) (k n:Nat):fE (evN ns k) (n+1)=fE (evN ns k) n ++ cE (evN ns k n):=rfl
theorem readListE_any (a0:Option Addr) (cap N W0 k most:Nat) (ys:List Int) (w:World) (hlen:ys.length<=1048576) (hcap:ys.length<=cap) (hb:By ys) (hm:most<=200) (h:Rd w N W0 a0 ys k):
  Calls Tryz.prog 77 #[.agg #[.slice a0 ys.length cap,.pointer (some ⟨N,0,none⟩)],.int .i64 (most:Nat),.func (.func 78) #[] #[]] w (RlP 3 46 (fun k n=>fE (evN (nmA ys) k) n) w N W0 a0 ys most k):=by
 have HNum:Hid (∀ wx k',Rd wx N W0 a0 ys k'->Calls Tryz.prog 41 #[.agg #[.slice a0 ys.length cap,.pointer (some ⟨N,0,none⟩)]] wx fun e w'=>e=.returned (rdX ys k')/\Rd w' N W0 a0 ys (rdK ys k')/\wx.grownBy w' (some N)):=fun wx k' hx=>num_any a0 cap N W0 k' ys wx hlen hcap hb hx
 have HOne:Hid (∀ wx k',Rd wx N W0 a0 ys k'->Calls Tryz.prog 78 #[.agg #[.slice a0 ys.length cap,.pointer (some ⟨N,0,none⟩)]] wx (ReP wx N W0 a0 ys k')):=fun wx k' hx=>readEvent_any a0 cap N W0 k' ys wx hlen hcap hb hx
 have HN:Hid (N<w.heap.size/\W0<=N):=⟨h.lt,h.ge⟩
 have ba:=zS w (.cells #[.slice a0 ys.length cap,.pointer (some ⟨N,0,none⟩)] 55)
 have A0:Hid (Rd (w.alloc (.cells #[.slice a0 ys.length cap,.pointer (some ⟨N,0,none⟩)] 55)) N W0 a0 ys k/\BxR (w.alloc (.cells #[.slice a0 ys.length cap,.pointer (some ⟨N,0,none⟩)] 55)) w.heap.size (.slice a0 ys.length cap) (.pointer (some ⟨N,0,none⟩))/\Below w.heap.size w (w.alloc (.cells #[.slice a0 ys.length cap,.pointer (some ⟨N,0,none⟩)] 55))/\(w.alloc (.cells #[.slice a0 ys.length cap,.pointer (some ⟨N,0,none⟩)] 55)).heap.size=w.heap.size+1):=⟨h.below ba,⟨zV _ _ _ 0 rfl,zV _ _ _ 1 rfl⟩,ba,by simp⟩
 have hmost:(most:Int)<=200:=by omega
 clear hlen hcap hb h ba
 go_enter Tryz.func77,Tryz.ntmps77
 go_upto_region 1 with fail
 generalize w.alloc (.cells #[.slice a0 ys.length cap,.pointer (some ⟨N,0,none⟩)] 55)=w1 at *
 obtain ⟨r0,r1⟩:=A0.out.2.1
 go_wp2_with fail
 clear r0 r1
 refine (HNum.out w1 k A0.out.1).mono ?_
 rintro e w2 ⟨rfl,hr2,hg2⟩
 have hM:Hid (w.heap.size<w1.heap.size/\N<w.heap.size):=⟨by have:=A0.out.2.2.2;omega,HN.out.1⟩
 by_cases hk:k<(nmA ys).length
 case neg=>
  have e1:rdX ys k=.tuple #[.int .i64 0,.bool false]:=if_neg hk
  have e2:rdK ys k=k:=if_neg hk
  rw [e2] at hr2
  rw [e1]
  have HE:Hid (Rd w2 N W0 a0 ys k/\lsK (nmA ys) 3 most k=none/\w.grownBy w2 (some N)):=⟨hr2,by unfold lsK;rw [if_neg (fun hc=>hk hc.1)],((World.grownBy.refl w (some N)).andThen (zY A0.out.2.2.1) (fun j hj=>by cases hj)).trans hg2⟩
  clear hr2 hg2 A0 e1 e2 hk HNum HOne
  go_wp2
  exact bodyPost_ret (v:=.tuple #[.slice none 0 0,.bool false]) (by simp [results,Tryz.results77,go_sem]) rfl ⟨_,k,by rw [HE.out.2.1];rfl,HE.out.1,fun _=>rfl,fun j hj=>(by rw [HE.out.2.1] at hj;cases hj),HE.out.2.2⟩
 have e1:rdX ys k=.tuple #[.int .i64 (zi (nmA ys) k),.bool true]:=if_pos hk
 have e2:rdK ys k=k+1:=if_pos hk
 rw [e2] at hr2
 rw [e1]
 obtain ⟨c,hc⟩:∃ c,zi (nmA ys) k=c:=⟨_,rfl⟩
 rw [hc]
 have G2:Hid (Rd w2 N W0 a0 ys (k+1)/\w.grownBy w2 (some N)/\BxR w2 w.heap.size (.slice a0 ys.length cap) (.pointer (some ⟨N,0,none⟩))/\w.heap.size<w2.heap.size):=by
  have hb2:=hg2.block w.heap.size hM.out.1 (by have:=hM.out.2;simp;omega)
  exact ⟨hr2,((World.grownBy.refl w (some N)).andThen (zY A0.out.2.2.1) (fun j hj=>by cases hj)).trans hg2,⟨(zH hb2).trans A0.out.2.1.1,(zH hb2).trans A0.out.2.1.2⟩,by have:=hg2.size;have:=hM.out.1;omega⟩
 have HK:Hid (k<(nmA ys).length/\zi (nmA ys) k=c):=⟨hk,hc⟩
 clear hr2 hg2 A0 e1 e2 hk hc HNum
 by_cases hcl:c<0\/(most:Int)<c
 case pos=>
  have HE:Hid (lsK (nmA ys) 3 most k=none):=by
   show lsK (nmA ys) 3 most k=none
   unfold lsK
   rw [if_neg (fun hh=>by have:=HK.out.2;omega)]
  by_cases hc0:c<0
  ·clear HOne
   go_wp2
   exact bodyPost_ret (v:=.tuple #[.slice none 0 0,.bool false]) (by simp [results,Tryz.results77,go_sem]) rfl ⟨_,k+1,by rw [HE.out];rfl,G2.out.1,fun _=>rfl,fun j hj=>(by rw [HE.out] at hj;cases hj),G2.out.2.1⟩
  ·have hc1:(most:Int)<c:=by omega
   clear HOne hcl
   go_wp2
   exact bodyPost_ret (v:=.tuple #[.slice none 0 0,.bool false]) (by simp [results,Tryz.results77,go_sem]) rfl ⟨_,k+1,by rw [HE.out];rfl,G2.out.1,fun _=>rfl,fun j hj=>(by rw [HE.out] at hj;cases hj),G2.out.2.1⟩
 obtain ⟨n,rfl⟩:∃ n:Nat,c=n:=⟨c.toNat,by omega⟩
 have hc0:¬ (n:Int)<0:=by omega
 have hc1:¬ (most:Int)<(n:Int):=by omega
 have hn2:(n:Int)<=200:=by omega
 have hct:ctN (nmA ys) k=n:=by unfold ctN;rw [HK.out.2];simp
 have HL:Hid (ctN (nmA ys) k=n/\lsK (nmA ys) 3 most k=(if k+1+3*n<=(nmA ys).length then some (k+1+3*n) else none)/\n<=200):=by
  refine ⟨hct,?_,by omega⟩
  unfold lsK
  rw [hct,HK.out.2]
  by_cases hh:k+1+3*n<=(nmA ys).length
  ·rw [if_pos hh,if_pos ⟨HK.out.1,by omega,by omega,hh⟩]
  ·rw [if_neg hh,if_neg (fun h9=>hh h9.2.2.2)]
 obtain ⟨cs,hcs,hmk⟩:=run_make_cap kndE n (by omega)
 have HO2:Hid ((w2.alloc (.cells cs 46)).ownsRow (w.heap.size+1) 46 3 (.slice (some ⟨w2.heap.size,0,none⟩) 0 n) 0 []):=World.ownsRow_made (base:=w.heap.size+1) (e:=46) (size:=3) w2 cs n (by have:=G2.out.2.2.2;omega) (by unfold maxLen;omega) (by rw [hcs])
 clear hct hcl hmost hcs HK
 go_wp2_with fail
 clear hmk
 have ba:=zS w2 (.cells cs 46)
 have L0:Hid (LpEI w (w2.alloc (.cells cs 46)) N W0 a0 ys cap (.slice (some ⟨w2.heap.size,0,none⟩) 0 n) k 0):=⟨HO2.out,by simp,G2.out.1.below ba,G2.out.2.1.andThen (zY ba) (fun j hj=>by cases hj),⟨(ba.cell (p:=⟨w.heap.size,0,none⟩) G2.out.2.2.2).trans G2.out.2.2.1.1,(ba.cell (p:=⟨w.heap.size,1,none⟩) G2.out.2.2.2).trans G2.out.2.2.1.2⟩⟩
 clear ba HO2 G2
 generalize w2.alloc (.cells cs 46)=w3 at *
 generalize w2.heap.size=Q2 at *
 simp only [show decide ((n:Int)<0)=false from decide_eq_false (by omega),show decide (most<n)=false from decide_eq_false (by omega),Bool.false_or]
 go_loopw [10,32] (fun v i wr=>∃ q:Nat,q<=n/\i=.int .i64 (q:Nat)/\Hid (LpEI w wr N W0 a0 ys cap v k q)) (fun _ i _=>n - (intOf i).toNat)
 case atStart=>exact ⟨0,Nat.zero_le _,rfl,L0.out⟩
 case round=>
  clear L0
  rename World=>wr
  obtain ⟨q,hq,rfl,HI⟩:=hrel
  by_cases hqt:q<n
  case neg=>
   have hqn:q=n:=by omega
   have hqt':¬ (q:Int)<(n:Int):=by omega
   have HE:Hid (lsK (nmA ys) 3 most k=some (k+1+3*n)/\ctN (nmA ys) k=n/\Rd wr N W0 a0 ys (k+1+3*n)/\wr.ownsRow w.heap.size 46 3 u10 n (fE (evN (nmA ys) (k+1)) n)/\u10≠.slice none 0 0/\w.grownBy wr (some N)):=by
    have hr:=HI.out.rd
    rw [hqn] at hr
    have hle:=hr.le
    have ho:=HI.out.ow
    rw [hqn] at ho
    exact ⟨by rw [HL.out.2.1,if_pos hle],HL.out.1,hr,ho.mono (Nat.le_succ _),HI.out.nn,HI.out.gr⟩
   clear HI hqn HOne
   go_wp2
   exact bodyPost_ret (v:=.tuple #[u10,.bool true]) (by simp [results,Tryz.results77,go_sem]) rfl ⟨u10,k+1+3*n,by rw [HE.out.1];rfl,HE.out.2.2.1,fun hh=>(by rw [HE.out.1] at hh;cases hh),fun j hj=>(by rw [HE.out.1] at hj;cases hj;rw [HE.out.2.1];exact ⟨rfl,HE.out.2.2.2.1,HE.out.2.2.2.2.1⟩),HE.out.2.2.2.2.2⟩
  have hqt':(q:Int)<(n:Int):=by omega
  obtain ⟨r0,r1⟩:=HI.out.bx
  go_wp2_with fail
  clear r0 r1
  refine (HOne.out wr (k+1+3*q) HI.out.rd).mono ?_
  rintro e w4 ⟨v0,v1,v2,j,rfl,hr4,hj4,hg4⟩
  have I4:Hid (LpEJ w w4 N W0 a0 ys cap u10 k q (k+1+3*q+j)):=HI.out.one hM.out.2 hr4 hg4
  have HV:Hid (k+1+3*q+3<=(nmA ys).length->j=3/\cE (evN (nmA ys) (k+1) q)=[.int .i64 v0,.int .i64 v1,.int .i64 v2]):=fun hh=>by
   obtain ⟨h1,rfl,rfl,rfl⟩:=hj4 hh
   refine ⟨h1,?_⟩
   rfl
  clear hr4 hj4 hg4 HI
  by_cases hh:k+1+3*q+3<=(nmA ys).length
  case neg=>
   have HE:Hid (lsK (nmA ys) 3 most k=none/\Rd w4 N W0 a0 ys (k+1+3*q+j)/\w.grownBy w4 (some N)):=by
    refine ⟨?_,I4.out.rd,I4.out.gr⟩
    rw [HL.out.2.1,if_neg (by omega)]
   have HE2:Hid (Rd (w4.alloc (oQ0 v0 v1 v2)) N W0 a0 ys (k+1+3*q+j)/\w.grownBy (w4.alloc (oQ0 v0 v1 v2)) (some N)):=⟨HE.out.2.1.below (zS _ _),HE.out.2.2.andThen (zY (zS _ _)) (fun j hj=>by cases hj)⟩
   rw [decide_eq_false hh]
   clear I4 HV HOne hh
   go_wp2
   exact bodyPost_ret (v:=.tuple #[.slice none 0 0,.bool false]) (by simp [results,Tryz.results77,go_sem]) rfl ⟨_,k+1+3*q+j,by rw [HE.out.1];rfl,HE2.out.1,fun _=>rfl,fun j hj=>(by rw [HE.out.1] at hj;cases hj),HE2.out.2⟩
  rw [decide_eq_true hh]
  have hV:=HV.out hh
  obtain ⟨hjd,hcells⟩:=hV
  subst hjd
  have HC:Hid (cE (evN (nmA ys) (k+1) q)=[.int .i64 v0,.int .i64 v1,.int .i64 v2]):=hcells
  have I5:Hid (LpEJ w (w4.alloc (oQ0 v0 v1 v2)) N W0 a0 ys cap u10 k q (k+1+3*(q+1))):=by
   have h9:=I4.out.alloc (oQ0 v0 v1 v2)
   rw [show k+1+3*(q+1)=k+1+3*q+3 by omega]
   exact h9
  have hq2:Hid (q<=2000000):=by have:=HL.out.2.2;show q<=2000000;omega
  have k0:(w4.alloc (oQ0 v0 v1 v2)).cell? ⟨w4.heap.size,0,none⟩=some (.int .i64 v0):=zV _ _ _ 0 rfl
  have k1:(w4.alloc (oQ0 v0 v1 v2)).cell? ⟨w4.heap.size,1,none⟩=some (.int .i64 v1):=zV _ _ _ 1 rfl
  have k2:(w4.alloc (oQ0 v0 v1 v2)).cell? ⟨w4.heap.size,2,none⟩=some (.int .i64 v2):=zV _ _ _ 2 rfl
  clear I4 HV hh hcells
  go_upto_region 10 with fail
  generalize w4.alloc (oQ0 v0 v1 v2)=w5 at *
  generalize w4.heap.size=Q4 at *
  go_wp2_with (at_builtin;refine step_append_val kndE w5 rfl rfl _ _ rfl (w.heap.size+1) u10 q _ rfl I5.out.ow #[.int .i64 v0,.int .i64 v1,.int .i64 v2] rfl rfl (by intro u hu;simp at hu;rcases hu with rfl | rfl | rfl <;> rfl) hq2.out I5.out.sz ?_;intro v7 w7 o7 g7 q7 n7;have F7:Hid (LpEI w w7 N W0 a0 ys cap v7 k (q+1)):=I5.out.app hM.out.2 (by rw [fE_up,HC.out];exact o7) g7 n7;clear o7 g7 q7 n7)
  go_roundw
  case rel=>exact ⟨q+1,by omega,by go_num,F7.out⟩
  case measure=>simp [intOf];omega
theorem isAtEnd_any (a0:Option Addr) (cap N W0 k:Nat) (ys:List Int) (w:World) (h:Rd w N W0 a0 ys k):
  Calls Tryz.prog 44 #[.agg #[.slice a0 ys.length cap,.pointer (some ⟨N,0,none⟩)]] w fun e w'=>e=.returned (.bool (((psN (nmA ys) k:Nat):Int) == ((ys.length:Nat):Int)))/\Below w.heap.size w w':=by
 have ba:=zS w (.cells #[.slice a0 ys.length cap,.pointer (some ⟨N,0,none⟩)] 55)
 have A0:Hid (Below w.heap.size w (w.alloc (.cells #[.slice a0 ys.length cap,.pointer (some ⟨N,0,none⟩)] 55))/\(w.alloc (.cells #[.slice a0 ys.length cap,.pointer (some ⟨N,0,none⟩)] 55)).cell? ⟨w.heap.size,0,none⟩=some (.slice a0 ys.length cap)/\(w.alloc (.cells #[.slice a0 ys.length cap,.pointer (some ⟨N,0,none⟩)] 55)).cell? ⟨w.heap.size,1,none⟩=some (.pointer (some ⟨N,0,none⟩))/\(w.alloc (.cells #[.slice a0 ys.length cap,.pointer (some ⟨N,0,none⟩)] 55)).cell? ⟨N,0,none⟩=some (.int .i64 (psN (nmA ys) k:Nat))):=⟨ba,zV _ _ _ 0 rfl,zV _ _ _ 1 rfl,(h.below ba).c0⟩
 clear h ba
 obtain ⟨E,hE⟩:∃ E,(((psN (nmA ys) k:Nat):Int) == ((ys.length:Nat):Int))=E:=⟨_,rfl⟩
 have HE:Hid ((((psN (nmA ys) k:Nat):Int) == ((ys.length:Nat):Int))=E):=hE
 go_enter Tryz.func44,Tryz.ntmps44
 go_upto_region 1 with fail
 generalize w.alloc (.cells #[.slice a0 ys.length cap,.pointer (some ⟨N,0,none⟩)] 55)=w1 at *
 refine wp_region_G (fun w'=>w'.cell? ⟨w.heap.size,0,none⟩=some (.slice a0 ys.length cap)/\w'.cell? ⟨w.heap.size,1,none⟩=some (.pointer (some ⟨N,0,none⟩))/\w'.cell? ⟨N,0,none⟩=some (.int .i64 (psN (nmA ys) k:Nat))) (fun _=>false) (by kernel_rfl) ?_
 have hHeld:(fun w':World=>w'.cell? ⟨w.heap.size,0,none⟩=some (.slice a0 ys.length cap)/\w'.cell? ⟨w.heap.size,1,none⟩=some (.pointer (some ⟨N,0,none⟩))/\w'.cell? ⟨N,0,none⟩=some (.int .i64 (psN (nmA ys) k:Nat))) w1.drew:=A0.out.2
 have B1:Hid (Below w.heap.size w w1.drew):=A0.out.1.drew
 clear A0
 refine wpGT_of [0,1,2,3,4,5,6,7,8] ?_
 iterate 9 (refine wpGT_k rfl hHeld ?_)
 refine wpGT_nil ?_
 clear hHeld
 refine wpG_done (by kernel_rfl) ?_ _
 go_wp2
 go_ret
 exact ⟨by rw [HE.out];rfl,B1.out⟩
structure RsJ (w wx:World) (N W0 X k np nh:Nat) (a0:Option Addr) (ys:List Int) (c:Nat->Nat) (vp vh:Value) (up uh:Nat->Value):Prop where
 rd:Rd wx N W0 a0 ys k
 p:LI true wx (Cl w.heap.size c 1) vp np up (fun i=>ctN (nmA ys) (kP (nmA ys) i)) (fun i=>itN (nmA ys) (kP (nmA ys) i+1))
 h:LE true wx (Cl w.heap.size c 4) vh nh uh (fun i=>ctN (nmA ys) (hP (nmA ys) i)) (fun i=>evN (nmA ys) (hP (nmA ys) i+1))
 bx:BoxC wx X vp (.slice none 0 0) (.slice none 0 0) vh
 fr:∀ j,wx.frozen? ⟨X,j,none⟩=false
 cX:c X=0
 xl:w.heap.size<=X
 gr:w.grownBy wx (some N)
 nl:N<w.heap.size
theorem rsX {z:Bool} {e:TypeId} {sz:Nat} {E:TypeId} {w w5:World} {B X q n:Nat} {c:Nat->Nat} {v:Value} {u:Nat->Value} {L:Nat->Nat} {cc:Nat->List Value} (hc:c X=0) (p:LL z e sz E w (Cl B c q) v n u L cc) (hq:q≠0) (hX:X<w.heap.size) (g:w.grownBy w5 v.ownBlock):w5.heap[X]? = w.heap[X]?:=g.block X hX (fun e=>by have:=(p.rb X e.symm).2;omega)
theorem rowSl {w:World} {B sz n:Nat} {e:TypeId} {v:Value} {xs:List Value} (h:w.ownsRow B e sz v n xs):∃ a c,v=.slice a n c:=by
 rcases h.2 with ⟨rfl,h0⟩ | ⟨g,cp,cur,rfl,-⟩
 ·exact ⟨none,0,by rw [h0]⟩
 ·exact ⟨_,_,rfl⟩
theorem BoxC.ltR {w:World} {N:Nat} {p vr vo code:Value} (h:BoxC w N p vr vo code):N<w.heap.size:=zJ w _ h.1
theorem BoxC.blkR {w w':World} {N:Nat} {p vr vo code:Value} (h:BoxC w N p vr vo code) (hb:w'.heap[N]? = w.heap[N]?):BoxC w' N p vr vo code:=by
 obtain ⟨h0,h1,h2,h3⟩:=h
 exact ⟨(zH hb).trans h0,(zH hb).trans h1,(zH hb).trans h2,(zH hb).trans h3⟩
theorem RsJ.putP {w wx w2 w5:World} {N W0 X k np nh j:Nat} {a0:Option Addr} {ys:List Int} {c:Nat->Nat} {vp vh u v':Value} {up uh:Nat->Value} (J:RsJ w wx N W0 X k np nh a0 ys c vp vh up uh) (hk:k=kP (nmA ys) np) (hs2:wx.heap.size<=w2.heap.size) (kb2:∀ b,b<wx.heap.size->b≠N->w2.heap[b]? = wx.heap[b]?) (hr2:Rd w2 N W0 a0 ys j) (hg2:w.grownBy w2 (some N)) (hu:w2.ownsRow wx.heap.size 43 5 u (ctN (nmA ys) k) (fI (itN (nmA ys) (k+1)) (ctN (nmA ys) k))) (hne:u≠.slice none 0 0) (hv:w5.ownsRow 0 41 1 v' (np+1) ((List.range np).map up ++ [u])) (g:w2.grownBy w5 vp.ownBlock) (hv':∀ j,v'.ownBlock=some j->vp.ownBlock=some j\/w2.heap.size<=j):RsJ w (w5.setCell ⟨X,0,none⟩ v') N W0 X j (np+1) nh a0 ys (rcol c wx.heap.size 1) v' vh (fun j=>if j=np then u else up j) uh:=by
 have hXl:=J.bx.ltR
 have hnl:=J.nl
 have hxl:=J.xl
 have hge:=J.rd.ge
 have pb:∀ b,vp.ownBlock=some b->w.heap.size<=b/\c b=1/\b<wx.heap.size:=fun b e=>⟨(J.p.rb b e).1,(J.p.rb b e).2,(J.p.row.lt b e).2⟩
 have k5:∀ b,b<wx.heap.size->b≠N->c b≠1->w5.heap[b]? = wx.heap[b]?:=fun b h1 h2 h3=>(g.block b (by omega) (fun e=>h3 (pb b e.symm).2.1)).trans (kb2 b h1 h2)
 have k6:∀ b,b≠X->(w5.setCell ⟨X,0,none⟩ v').heap[b]? = w5.heap[b]?:=fun b hb=>zN _ _ _ _ hb
 have g6:w5.grownBy (w5.setCell ⟨X,0,none⟩ v') (some X):=zU (World.grownBy.refl _ _) (.inl rfl) _
 have hcX:c X≠1:=by rw [J.cX];decide
 have bX:=J.bx.blkR (k5 X hXl (by omega) hcX)
 have p5:=J.p.pushG (w1:=w2) (w2:=w5) (u':=u) (v':=v') (P':=Cl w.heap.size (rcol c wx.heap.size 1) 1) hs2 (fun b hb hl=>kb2 b hl (by have:=hb.1;omega)) (by have h9:=hu;rw [hk] at h9;exact h9) (fun _=>hne) hv g hv' (fun b hb hl=>⟨hb.1,(rcol_old hl).trans hb.2⟩) (fun b h1 _=>⟨by have:=J.gr.size;omega,rcol_new h1⟩)
 have h5:=(J.h.mono (P':=Cl w.heap.size (rcol c wx.heap.size 1) 4) (fun b hb hl=>⟨hb.1,(rcol_old hl).trans hb.2⟩)).keep (w':=w5) fun b hb hl=>k5 b hl (by have:=hb.1;omega) (by have h9:=hb.2;rw [rcol_old hl] at h9;rw [h9];decide)
 refine ⟨(hr2.kept g (fun b e=>by have:=pb b e;omega)).kept g6 (fun b e=>by cases e;omega),p5.keep fun b hb hl=>k6 b (fun e=>?_),h5.keep fun b hb hl=>k6 b (fun e=>?_),?_,fun i=>?_,(rcol_old hXl).trans J.cX,hxl,(hg2.andThen g (fun b e=>.inl (pb b e).1)).andThen g6 (fun b e=>by cases e;exact .inl hxl),hnl⟩
 ·have h9:=hb.2
  rw [e,rcol_old hXl,J.cX] at h9
  cases h9
 ·have h9:=hb.2
  rw [e,rcol_old hXl,J.cX] at h9
  cases h9
 ·obtain ⟨b0,b1,b2,b3⟩:=bX
  exact ⟨by go_cell,by go_cell,by go_cell,by go_cell⟩
 ·rw [World.frozen?_setCell]
  exact (zI (k5 X hXl (by omega) hcX)).trans (J.fr i)
theorem RsJ.putE {w wx w2 w5:World} {N W0 X k np nh j:Nat} {a0:Option Addr} {ys:List Int} {c:Nat->Nat} {vp vh u v':Value} {up uh:Nat->Value} (J:RsJ w wx N W0 X k np nh a0 ys c vp vh up uh) (hk:k=hP (nmA ys) nh) (hs2:wx.heap.size<=w2.heap.size) (kb2:∀ b,b<wx.heap.size->b≠N->w2.heap[b]? = wx.heap[b]?) (hr2:Rd w2 N W0 a0 ys j) (hg2:w.grownBy w2 (some N)) (hu:w2.ownsRow wx.heap.size 46 3 u (ctN (nmA ys) k) (fE (evN (nmA ys) (k+1)) (ctN (nmA ys) k))) (hne:u≠.slice none 0 0) (hv:w5.ownsRow 0 44 1 v' (nh+1) ((List.range nh).map uh ++ [u])) (g:w2.grownBy w5 vh.ownBlock) (hv':∀ j,v'.ownBlock=some j->vh.ownBlock=some j\/w2.heap.size<=j):RsJ w (w5.setCell ⟨X,3,none⟩ v') N W0 X j np (nh+1) a0 ys (rcol c wx.heap.size 4) vp v' up (fun j=>if j=nh then u else uh j):=by
 have hXl:=J.bx.ltR
 have hnl:=J.nl
 have hxl:=J.xl
 have hge:=J.rd.ge
 have pb:∀ b,vh.ownBlock=some b->w.heap.size<=b/\c b=4/\b<wx.heap.size:=fun b e=>⟨(J.h.rb b e).1,(J.h.rb b e).2,(J.h.row.lt b e).2⟩
 have k5:∀ b,b<wx.heap.size->b≠N->c b≠4->w5.heap[b]? = wx.heap[b]?:=fun b h1 h2 h3=>(g.block b (by omega) (fun e=>h3 (pb b e.symm).2.1)).trans (kb2 b h1 h2)
 have k6:∀ b,b≠X->(w5.setCell ⟨X,3,none⟩ v').heap[b]? = w5.heap[b]?:=fun b hb=>zN _ _ _ _ hb
 have g6:w5.grownBy (w5.setCell ⟨X,3,none⟩ v') (some X):=zU (World.grownBy.refl _ _) (.inl rfl) _
 have hcX:c X≠4:=by rw [J.cX];decide
 have bX:=J.bx.blkR (k5 X hXl (by omega) hcX)
 have h5:=J.h.pushG (w1:=w2) (w2:=w5) (u':=u) (v':=v') (P':=Cl w.heap.size (rcol c wx.heap.size 4) 4) hs2 (fun b hb hl=>kb2 b hl (by have:=hb.1;omega)) (by have h9:=hu;rw [hk] at h9;exact h9) (fun _=>hne) hv g hv' (fun b hb hl=>⟨hb.1,(rcol_old hl).trans hb.2⟩) (fun b h1 _=>⟨by have:=J.gr.size;omega,rcol_new h1⟩)
 have p5:=(J.p.mono (P':=Cl w.heap.size (rcol c wx.heap.size 4) 1) (fun b hb hl=>⟨hb.1,(rcol_old hl).trans hb.2⟩)).keep (w':=w5) fun b hb hl=>k5 b hl (by have:=hb.1;omega) (by have h9:=hb.2;rw [rcol_old hl] at h9;rw [h9];decide)
 refine ⟨(hr2.kept g (fun b e=>by have:=pb b e;omega)).kept g6 (fun b e=>by cases e;omega),p5.keep fun b hb hl=>k6 b (fun e=>?_),h5.keep fun b hb hl=>k6 b (fun e=>?_),?_,fun i=>?_,(rcol_old hXl).trans J.cX,hxl,(hg2.andThen g (fun b e=>.inl (pb b e).1)).andThen g6 (fun b e=>by cases e;exact .inl hxl),hnl⟩
 ·have h9:=hb.2
  rw [e,rcol_old hXl,J.cX] at h9
  cases h9
 ·have h9:=hb.2
  rw [e,rcol_old hXl,J.cX] at h9
  cases h9
 ·obtain ⟨b0,b1,b2,b3⟩:=bX
  exact ⟨by go_cell,by go_cell,by go_cell,by go_cell⟩
 ·rw [World.frozen?_setCell]
  exact (zI (k5 X hXl (by omega) hcX)).trans (J.fr i)
def RpP (w wx:World) (N W0 X k np nh:Nat) (a0:Option Addr) (ys:List Int) (c:Nat->Nat) (_vp vh:Value) (_up uh:Nat->Value) (e:Ending) (w':World):Prop:=e=.returned (.bool (lsK (nmA ys) 5 30 k).isSome)/\w.grownBy w' (some N)/\(∀ b,b<wx.heap.size->c b=0->b≠N->b≠X->w'.heap[b]? = wx.heap[b]?)/\(∀ j,lsK (nmA ys) 5 30 k=some j->∃ vp' up',RsJ w w' N W0 X j (np+1) nh a0 ys (rcol c wx.heap.size 1) vp' vh up' uh)
theorem readProg_any (a0:Option Addr) (cap N W0 X k np nh:Nat) (ys:List Int) (c:Nat->Nat) (vp vh:Value) (up uh:Nat->Value) (w wx:World) (hlen:ys.length<=1048576) (hcap:ys.length<=cap) (hb:By ys) (h:RsJ w wx N W0 X k np nh a0 ys c vp vh up uh) (hn:np<=1000) (hh:nh<=1000) (hk:k=kP (nmA ys) np):
  Calls Tryz.prog 42 #[.agg #[.slice a0 ys.length cap,.pointer (some ⟨N,0,none⟩)],.pointer (some ⟨X,0,none⟩)] wx (RpP w wx N W0 X k np nh a0 ys c vp vh up uh):=by
 have HJ:Hid (RsJ w wx N W0 X k np nh a0 ys c vp vh up uh/\np<=1000/\nh<=1000):=⟨h,hn,hh⟩
 have HRl:Hid (∀ wy,Rd wy N W0 a0 ys k->Calls Tryz.prog 75 #[.agg #[.slice a0 ys.length cap,.pointer (some ⟨N,0,none⟩)],.int .i64 30,.func (.func 76) #[] #[]] wy (RlP 5 43 (fun k n=>fI (itN (nmA ys) k) n) wy N W0 a0 ys 30 k)):=fun wy hy=>readListI_any a0 cap N W0 k 30 ys wy hlen hcap hb (by omega) hy
 have ba:=zS wx (.cells #[.slice a0 ys.length cap,.pointer (some ⟨N,0,none⟩)] 55)
 have A0:Hid (Below wx.heap.size wx (wx.alloc (.cells #[.slice a0 ys.length cap,.pointer (some ⟨N,0,none⟩)] 55))/\(wx.alloc (.cells #[.slice a0 ys.length cap,.pointer (some ⟨N,0,none⟩)] 55)).cell? ⟨wx.heap.size,0,none⟩=some (.slice a0 ys.length cap)/\(wx.alloc (.cells #[.slice a0 ys.length cap,.pointer (some ⟨N,0,none⟩)] 55)).cell? ⟨wx.heap.size,1,none⟩=some (.pointer (some ⟨N,0,none⟩))/\(wx.alloc (.cells #[.slice a0 ys.length cap,.pointer (some ⟨N,0,none⟩)] 55)).heap.size=wx.heap.size+1):=⟨ba,zV _ _ _ 0 rfl,zV _ _ _ 1 rfl,by simp⟩
 have HK:Hid (k=kP (nmA ys) np):=hk
 clear ba h hn hh hlen hcap hb hk
 go_enter Tryz.func42,Tryz.ntmps42
 go_upto_region 1 with fail
 generalize wx.alloc (.cells #[.slice a0 ys.length cap,.pointer (some ⟨N,0,none⟩)] 55)=w1 at *
 have r0:=A0.out.2.1
 have r1:=A0.out.2.2.1
 go_wp2_with fail
 clear r0 r1
 refine (HRl.out w1 (HJ.out.1.rd.below A0.out.1)).mono ?_
 rintro e w2 ⟨u,k',rfl,hr2,hu0,hu1,hg2⟩
 have hsz:=A0.out.2.2.2
 have hXl:X<wx.heap.size:=HJ.out.1.bx.ltR
 have hNl:=HJ.out.1.nl
 have hXw:=HJ.out.1.xl
 have kb2:∀ b,b<wx.heap.size->b≠N->w2.heap[b]? = wx.heap[b]?:=fun b h1 h2=>(hg2.block b (by omega) (by simpa using h2)).trans (A0.out.1.block b h1)
 have hs2:wx.heap.size<=w2.heap.size:=by have:=hg2.size;omega
 have G2:Hid (Rd w2 N W0 a0 ys k'/\(∀ b,b<wx.heap.size->b≠N->w2.heap[b]? = wx.heap[b]?)/\w.grownBy w2 (some N)/\wx.heap.size<=w2.heap.size):=⟨hr2,kb2,(HJ.out.1.gr.andThen (zY A0.out.1) (fun j hj=>by cases hj)).trans hg2,hs2⟩
 have G3:Hid (BoxC w2 X vp (.slice none 0 0) (.slice none 0 0) vh/\(∀ j,w2.frozen? ⟨X,j,none⟩=false)/\LI true w2 (Cl w.heap.size c 1) vp np up (fun i=>ctN (nmA ys) (kP (nmA ys) i)) (fun i=>itN (nmA ys) (kP (nmA ys) i+1))/\LE true w2 (Cl w.heap.size c 4) vh nh uh (fun i=>ctN (nmA ys) (hP (nmA ys) i)) (fun i=>evN (nmA ys) (hP (nmA ys) i+1))):=
  ⟨HJ.out.1.bx.blkR (kb2 X hXl (by omega)),fun j=>(zI (kb2 X hXl (by omega))).trans (HJ.out.1.fr j),HJ.out.1.p.keep fun b hb hl=>kb2 b hl (by have:=hb.1;omega),HJ.out.1.h.keep fun b hb hl=>kb2 b hl (by have:=hb.1;omega)⟩
 have HU:Hid ((lsK (nmA ys) 5 30 k=none->u=.slice none 0 0)/\(∀ j,lsK (nmA ys) 5 30 k=some j->k'=j/\w2.ownsRow w1.heap.size 43 5 u (ctN (nmA ys) k) (fI (itN (nmA ys) (k+1)) (ctN (nmA ys) k))/\u≠.slice none 0 0)):=⟨hu0,hu1⟩
 obtain ⟨D,hD⟩:∃ D,(lsK (nmA ys) 5 30 k).isSome=D:=⟨_,rfl⟩
 have HD:Hid ((lsK (nmA ys) 5 30 k).isSome=D):=hD
 rw [hD]
 obtain ⟨ua,un,uc,hue⟩:∃ (ua:Option Addr) (un uc:Nat),u=.slice ua un uc:=by
  cases hl:lsK (nmA ys) 5 30 k with
  | none=>exact ⟨none,0,0,hu0 hl⟩
  | some j=>
   rcases (hu1 j hl).2.1.2 with ⟨e,-⟩ | ⟨g,cp,cur,e,-⟩
   ·exact ⟨_,_,_,e⟩
   ·exact ⟨_,_,_,e⟩
 subst hue
 have HS:Hid (wx.heap.size<w1.heap.size):=by show _<_;omega
 clear hr2 hu0 hu1 hg2 hsz hXl hNl hXw kb2 hs2 hD HRl A0
 obtain ⟨b0,b1,b2,b3⟩:=G3.out.1
 have f3:=G3.out.2.1 0
 have hrow:=G3.out.2.2.1.row
 have hlen2:Hid (np<=2000000):=by have:=HJ.out.2;show np<=2000000;omega
 have HRow:Hid (w2.ownsRow 0 41 1 vp np ((List.range np).map up)):=hrow
 clear hrow
 go_wp2_with (at_builtin;refine step_append_val kndII w2 rfl rfl _ _ rfl 0 vp np _ rfl HRow.out #[.slice ua un uc] rfl rfl (by intro z hz;simp at hz;rw [hz];rfl) hlen2.out (Nat.zero_le _) ?_;intro v5 w5 o5 g5 q5 n5;obtain ⟨va,vc,rfl⟩:=rowSl o5;have F5:Hid (w5.ownsRow 0 41 1 (.slice va (np+1) vc) (np+1) ((List.range np).map up ++ [.slice ua un uc])/\w2.grownBy w5 (vp).ownBlock/\(∀ j,(Value.slice va (np+1) vc).ownBlock=some j->(vp).ownBlock=some j\/w2.heap.size<=j)):=⟨o5,g5,q5⟩;have X5:Hid (BoxC w5 X vp (.slice none 0 0) (.slice none 0 0) vh/\∀ j,w5.frozen? ⟨X,j,none⟩=false):=⟨G3.out.1.blkR (rsX HJ.out.1.cX G3.out.2.2.1 (by decide) G3.out.1.ltR g5),fun j=>(zI (rsX HJ.out.1.cX G3.out.2.2.1 (by decide) G3.out.1.ltR g5)).trans (G3.out.2.1 j)⟩;clear b0 b1 b2 b3 f3;obtain ⟨b0,b1,b2,b3⟩:=X5.out.1;have f3:=X5.out.2 0;clear o5 g5 q5 n5)
 have HE:Hid (RpP w wx N W0 X k np nh a0 ys c vp vh up uh (.returned (.bool D)) (w5.setCell ⟨X,0,none⟩ (.slice va (np+1) vc))):=by
  have hxl:=HJ.out.1.xl
  have hXl:=HJ.out.1.bx.ltR
  have pb:∀ b,(vp).ownBlock=some b->w.heap.size<=b/\c b=1:=fun b e=>⟨(HJ.out.1.p.rb b e).1,(HJ.out.1.p.rb b e).2⟩
  have g6:w5.grownBy (w5.setCell ⟨X,0,none⟩ (.slice va (np+1) vc)) (some X):=zU (World.grownBy.refl _ _) (.inl rfl) _
  refine ⟨by rw [HD.out],(G2.out.2.2.1.andThen F5.out.2.1 (fun b e=>.inl (pb b e).1)).andThen g6 (fun b e=>by cases e;exact .inl hxl),fun b h1 h2 h3 h4=>?_,fun j hj=>?_⟩
  ·refine (zN w5 ⟨X,0,none⟩ _ b h4).trans ((F5.out.2.1.block b (by have:=G2.out.2.2.2;omega) (fun e=>?_)).trans (G2.out.2.1 b h1 h3))
   have:=(pb b e.symm).2
   omega
  ·obtain ⟨e1,e2,e3⟩:=HU.out.2 j hj
   subst e1
   exact ⟨_,_,HJ.out.1.putP HK.out G2.out.2.2.2 G2.out.2.1 G2.out.1 G2.out.2.2.1 (e2.mono (Nat.le_of_lt HS.out)) e3 F5.out.1 F5.out.2.1 F5.out.2.2⟩
 clear G2 G3 F5 HU HJ
 exact bodyPost_ret (v:=.bool D) (by simp [results,Tryz.results42,go_sem]) rfl HE.out
def RqvP (w wx:World) (N W0 X k np nh:Nat) (a0:Option Addr) (ys:List Int) (c:Nat->Nat) (vp _vh:Value) (up _uh:Nat->Value) (e:Ending) (w':World):Prop:=e=.returned (.bool (lsK (nmA ys) 3 200 k).isSome)/\w.grownBy w' (some N)/\(∀ b,b<wx.heap.size->c b=0->b≠N->b≠X->w'.heap[b]? = wx.heap[b]?)/\(∀ j,lsK (nmA ys) 3 200 k=some j->∃ vh' uh',RsJ w w' N W0 X j np (nh+1) a0 ys (rcol c wx.heap.size 4) vp vh' up uh')
theorem readEvents_any (a0:Option Addr) (cap N W0 X k np nh:Nat) (ys:List Int) (c:Nat->Nat) (vp vh:Value) (up uh:Nat->Value) (w wx:World) (hlen:ys.length<=1048576) (hcap:ys.length<=cap) (hb:By ys) (h:RsJ w wx N W0 X k np nh a0 ys c vp vh up uh) (hn:np<=1000) (hh:nh<=1000) (hk:k=hP (nmA ys) nh):
  Calls Tryz.prog 43 #[.agg #[.slice a0 ys.length cap,.pointer (some ⟨N,0,none⟩)],.pointer (some ⟨X,0,none⟩)] wx (RqvP w wx N W0 X k np nh a0 ys c vp vh up uh):=by
 have HJ:Hid (RsJ w wx N W0 X k np nh a0 ys c vp vh up uh/\np<=1000/\nh<=1000):=⟨h,hn,hh⟩
 have HRl:Hid (∀ wy,Rd wy N W0 a0 ys k->Calls Tryz.prog 77 #[.agg #[.slice a0 ys.length cap,.pointer (some ⟨N,0,none⟩)],.int .i64 200,.func (.func 78) #[] #[]] wy (RlP 3 46 (fun k n=>fE (evN (nmA ys) k) n) wy N W0 a0 ys 200 k)):=fun wy hy=>readListE_any a0 cap N W0 k 200 ys wy hlen hcap hb (by omega) hy
 have ba:=zS wx (.cells #[.slice a0 ys.length cap,.pointer (some ⟨N,0,none⟩)] 55)
 have A0:Hid (Below wx.heap.size wx (wx.alloc (.cells #[.slice a0 ys.length cap,.pointer (some ⟨N,0,none⟩)] 55))/\(wx.alloc (.cells #[.slice a0 ys.length cap,.pointer (some ⟨N,0,none⟩)] 55)).cell? ⟨wx.heap.size,0,none⟩=some (.slice a0 ys.length cap)/\(wx.alloc (.cells #[.slice a0 ys.length cap,.pointer (some ⟨N,0,none⟩)] 55)).cell? ⟨wx.heap.size,1,none⟩=some (.pointer (some ⟨N,0,none⟩))/\(wx.alloc (.cells #[.slice a0 ys.length cap,.pointer (some ⟨N,0,none⟩)] 55)).heap.size=wx.heap.size+1):=⟨ba,zV _ _ _ 0 rfl,zV _ _ _ 1 rfl,by simp⟩
 have HK:Hid (k=hP (nmA ys) nh):=hk
 clear ba h hn hh hlen hcap hb hk
 go_enter Tryz.func43,Tryz.ntmps43
 go_upto_region 1 with fail
 generalize wx.alloc (.cells #[.slice a0 ys.length cap,.pointer (some ⟨N,0,none⟩)] 55)=w1 at *
 have r0:=A0.out.2.1
 have r1:=A0.out.2.2.1
 go_wp2_with fail
 clear r0 r1
 refine (HRl.out w1 (HJ.out.1.rd.below A0.out.1)).mono ?_
 rintro e w2 ⟨u,k',rfl,hr2,hu0,hu1,hg2⟩
 have hsz:=A0.out.2.2.2
 have hXl:X<wx.heap.size:=HJ.out.1.bx.ltR
 have hNl:=HJ.out.1.nl
 have hXw:=HJ.out.1.xl
 have kb2:∀ b,b<wx.heap.size->b≠N->w2.heap[b]? = wx.heap[b]?:=fun b h1 h2=>(hg2.block b (by omega) (by simpa using h2)).trans (A0.out.1.block b h1)
 have hs2:wx.heap.size<=w2.heap.size:=by have:=hg2.size;omega
 have G2:Hid (Rd w2 N W0 a0 ys k'/\(∀ b,b<wx.heap.size->b≠N->w2.heap[b]? = wx.heap[b]?)/\w.grownBy w2 (some N)/\wx.heap.size<=w2.heap.size):=⟨hr2,kb2,(HJ.out.1.gr.andThen (zY A0.out.1) (fun j hj=>by cases hj)).trans hg2,hs2⟩
 have G3:Hid (BoxC w2 X vp (.slice none 0 0) (.slice none 0 0) vh/\(∀ j,w2.frozen? ⟨X,j,none⟩=false)/\LI true w2 (Cl w.heap.size c 1) vp np up (fun i=>ctN (nmA ys) (kP (nmA ys) i)) (fun i=>itN (nmA ys) (kP (nmA ys) i+1))/\LE true w2 (Cl w.heap.size c 4) vh nh uh (fun i=>ctN (nmA ys) (hP (nmA ys) i)) (fun i=>evN (nmA ys) (hP (nmA ys) i+1))):=
  ⟨HJ.out.1.bx.blkR (kb2 X hXl (by omega)),fun j=>(zI (kb2 X hXl (by omega))).trans (HJ.out.1.fr j),HJ.out.1.p.keep fun b hb hl=>kb2 b hl (by have:=hb.1;omega),HJ.out.1.h.keep fun b hb hl=>kb2 b hl (by have:=hb.1;omega)⟩
 have HU:Hid ((lsK (nmA ys) 3 200 k=none->u=.slice none 0 0)/\(∀ j,lsK (nmA ys) 3 200 k=some j->k'=j/\w2.ownsRow w1.heap.size 46 3 u (ctN (nmA ys) k) (fE (evN (nmA ys) (k+1)) (ctN (nmA ys) k))/\u≠.slice none 0 0)):=⟨hu0,hu1⟩
 obtain ⟨D,hD⟩:∃ D,(lsK (nmA ys) 3 200 k).isSome=D:=⟨_,rfl⟩
 have HD:Hid ((lsK (nmA ys) 3 200 k).isSome=D):=hD
 rw [hD]
 obtain ⟨ua,un,uc,hue⟩:∃ (ua:Option Addr) (un uc:Nat),u=.slice ua un uc:=by
  cases hl:lsK (nmA ys) 3 200 k with
  | none=>exact ⟨none,0,0,hu0 hl⟩
  | some j=>
   rcases (hu1 j hl).2.1.2 with ⟨e,-⟩ | ⟨g,cp,cur,e,-⟩
   ·exact ⟨_,_,_,e⟩
   ·exact ⟨_,_,_,e⟩
 subst hue
 have HS:Hid (wx.heap.size<w1.heap.size):=by show _<_;omega
 clear hr2 hu0 hu1 hg2 hsz hXl hNl hXw kb2 hs2 hD HRl A0
 obtain ⟨b0,b1,b2,b3⟩:=G3.out.1
 have f3:=G3.out.2.1 3
 have hrow:=G3.out.2.2.2.row
 have hlen2:Hid (nh<=2000000):=by have:=HJ.out.2;show nh<=2000000;omega
 have HRow:Hid (w2.ownsRow 0 44 1 vh nh ((List.range nh).map uh)):=hrow
 clear hrow
 go_wp2_with (at_builtin;refine step_append_val kndEE w2 rfl rfl _ _ rfl 0 vh nh _ rfl HRow.out #[.slice ua un uc] rfl rfl (by intro z hz;simp at hz;rw [hz];rfl) hlen2.out (Nat.zero_le _) ?_;intro v5 w5 o5 g5 q5 n5;obtain ⟨va,vc,rfl⟩:=rowSl o5;have F5:Hid (w5.ownsRow 0 44 1 (.slice va (nh+1) vc) (nh+1) ((List.range nh).map uh ++ [.slice ua un uc])/\w2.grownBy w5 (vh).ownBlock/\(∀ j,(Value.slice va (nh+1) vc).ownBlock=some j->(vh).ownBlock=some j\/w2.heap.size<=j)):=⟨o5,g5,q5⟩;have X5:Hid (BoxC w5 X vp (.slice none 0 0) (.slice none 0 0) vh/\∀ j,w5.frozen? ⟨X,j,none⟩=false):=⟨G3.out.1.blkR (rsX HJ.out.1.cX G3.out.2.2.2 (by decide) G3.out.1.ltR g5),fun j=>(zI (rsX HJ.out.1.cX G3.out.2.2.2 (by decide) G3.out.1.ltR g5)).trans (G3.out.2.1 j)⟩;clear b0 b1 b2 b3 f3;obtain ⟨b0,b1,b2,b3⟩:=X5.out.1;have f3:=X5.out.2 3;clear o5 g5 q5 n5)
 have HE:Hid (RqvP w wx N W0 X k np nh a0 ys c vp vh up uh (.returned (.bool D)) (w5.setCell ⟨X,3,none⟩ (.slice va (nh+1) vc))):=by
  have hxl:=HJ.out.1.xl
  have hXl:=HJ.out.1.bx.ltR
  have pb:∀ b,(vh).ownBlock=some b->w.heap.size<=b/\c b=4:=fun b e=>⟨(HJ.out.1.h.rb b e).1,(HJ.out.1.h.rb b e).2⟩
  have g6:w5.grownBy (w5.setCell ⟨X,3,none⟩ (.slice va (nh+1) vc)) (some X):=zU (World.grownBy.refl _ _) (.inl rfl) _
  refine ⟨by rw [HD.out],(G2.out.2.2.1.andThen F5.out.2.1 (fun b e=>.inl (pb b e).1)).andThen g6 (fun b e=>by cases e;exact .inl hxl),fun b h1 h2 h3 h4=>?_,fun j hj=>?_⟩
  ·refine (zN w5 ⟨X,3,none⟩ _ b h4).trans ((F5.out.2.1.block b (by have:=G2.out.2.2.2;omega) (fun e=>?_)).trans (G2.out.2.1 b h1 h3))
   have:=(pb b e.symm).2
   omega
  ·obtain ⟨e1,e2,e3⟩:=HU.out.2 j hj
   subst e1
   exact ⟨_,_,HJ.out.1.putE HK.out G2.out.2.2.2 G2.out.2.1 G2.out.1 G2.out.2.2.1 (e2.mono (Nat.le_of_lt HS.out)) e3 F5.out.1 F5.out.2.1 F5.out.2.2⟩
 clear G2 G3 F5 HU HJ
 exact bodyPost_ret (v:=.bool D) (by simp [results,Tryz.results43,go_sem]) rfl HE.out
def rsY (ys:List Int) (np nh:Nat):Sy where
 pn:=np
 pL:=fun i=>ctN (nmA ys) (kP (nmA ys) i)
 pH:=fun i=>itN (nmA ys) (kP (nmA ys) i+1)
 sn:=0
 sS:=fun _=>⟨0,[],[],0⟩
 wn:=0
 wL:=fun _=>0
 wH:=fun _ _=>⟨false,0⟩
 hn:=nh
 hL:=fun i=>ctN (nmA ys) (hP (nmA ys) i)
 hH:=fun i=>evN (nmA ys) (hP (nmA ys) i+1)
theorem RsJ.own {w wx:World} {N W0 X k np nh:Nat} {a0:Option Addr} {ys:List Int} {c:Nat->Nat} {vp vh:Value} {up uh:Nat->Value} (J:RsJ w wx N W0 X k np nh a0 ys c vp vh up uh):OwnS false wx w.heap.size c (rsY ys np nh) vp (.slice none 0 0) (.slice none 0 0) vh up (fun _=>.slice none 0 0) (fun _=>.slice none 0 0) uh:=
 ⟨J.p.weak,LS.nil _ _ _ _,LL.nil _ _ _ _ _ _ _ _,J.h.weak⟩
theorem RsJ.start {w wx:World} {N W0 X k:Nat} {a0:Option Addr} {ys:List Int} {c:Nat->Nat} (rd:Rd wx N W0 a0 ys k) (bx:BoxC wx X (.slice none 0 0) (.slice none 0 0) (.slice none 0 0) (.slice none 0 0)) (fr:∀ j,wx.frozen? ⟨X,j,none⟩=false) (cX:c X=0) (xl:w.heap.size<=X) (gr:w.grownBy wx (some N)) (nl:N<w.heap.size) (up uh:Nat->Value):RsJ w wx N W0 X k 0 0 a0 ys c (.slice none 0 0) (.slice none 0 0) up uh:=
 ⟨rd,LL.nil _ _ _ _ _ _ _ _,LL.nil _ _ _ _ _ _ _ _,bx,fr,cX,xl,gr,nl⟩
def rsB (ys:List Int):Bool:=decide (0<(nmA ys).length/\1<=zi (nmA ys) 0/\zi (nmA ys) 0<=4) && ((prK (nmA ys) (ctN (nmA ys) 0)).isSome && ((psN (nmA ys) (kP (nmA ys) (ctN (nmA ys) 0)):Nat):Int) == ((ys.length:Nat):Int))
theorem prK_prog {N:List Int} {n:Nat} (h:(prK N n).isSome=true):(prK N (n+1)).isSome=((lsK N 5 30 (kP N n)).isSome && (lsK N 3 200 (hP N n)).isSome):=by
 unfold kP hP kP
 rw [prK]
 cases hp:prK N n with
 | none=>rw [hp] at h;cases h
 | some k=>
  simp only [Option.bind_some,Option.getD_some]
  cases h1:lsK N 5 30 k with
  | none=>rfl
  | some j=>
   obtain ⟨-,-,-,e,-⟩:=lsK_some h1
   rw [<- e]
   simp
theorem own_lit (w:World) (xs:List Int) (hl:xs.length<=1000):OwnI (w.alloc (.cells (xs.map (Value.int .i64)).toArray 3)) w.heap.size (.slice (some ⟨w.heap.size,0,none⟩) xs.length xs.length) xs:=by
 have:=World.ownsRow_lit (base:=w.heap.size) (e:=3) (size:=1) w (xs.map (Value.int .i64)).toArray xs.length (Nat.le_refl _) (by unfold maxLen;omega) (by simp)
 unfold OwnI
 exact this
