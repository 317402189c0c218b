import Derived.Test.YtkdablcbhhphoaaGreatDoorBk6
namespace Go.Proofs.YtkdablcbhhphoaaGreatDoor
set_option maxRecDepth 100000
set_option maxHeartbeats 1000000
open Go.RowKit
theorem qth {w:World} {b:Nat} (o:Obj) (j:Nat) (h:b<w.heap.size):(w.alloc o).frozen? ⟨b,j,none⟩=w.frozen? ⟨b,j,none⟩:=zI (Below.heap_alloc w o b h)
theorem qnz (b off len cap:Nat) (g:Nat->I5) (k:Nat) (ra oa:Option Addr) (rc oc:Nat) (r0 r1 r2 r3:Int) (os:List Int) (w:World) (hlen:len<=maxLen) (hb:b<w.heap.size) (hI:qan w b off len g) (ho:os.length<=1048576) (h1:Sl w ra [r0,r1,r2,r3]) (h2:Sl w oa os) (hk:k<len) (t1:qc6 len (k:Int) [r0,r1,r2,r3] os 0=true) (t2:qac g len 4=true):
  Calls Tryz.prog 109 #[.slice (some ⟨b,off,none⟩) len cap,stV k ra 4 rc oa os.length oc 0] w fun e w'=>e=.returned (evV (evK (g k).o) (evP (g k).o (g k).n) (evW (g k).o (g k).a [r0,r1,r2,r3]))/\Below w.heap.size w w':=by
 have HI:Hid (qan w b off len g):=hI;have H1:Hid (Sl w ra [r0,r1,r2,r3]):=h1;have H2:Hid (Sl w oa os):=h2;have HL:Hid (len<=maxLen):=hlen;have hr:=qcb (qbt t2 hk);have hk':(k:Int)<(len:Int):=by omega
 have hl':(len:Int)<=9223372036854775807:=by have:=HL.out;unfold maxLen at this;omega
 clear hI h1 h2 hlen
 go_enter Tryz.func109,Tryz.ntmps109
 go_wp2_with fail
 refine (qdv _ _ _ _ _ _ _ _ _ [r0,r1,r2,r3] os _ ho (H1.out.below (by go_grown)) (H2.out.below (by go_grown))).mono ?_;rintro e w1 ⟨rfl,b1⟩;have B1:Hid (Below w.heap.size w w1):=qai (by go_grown) b1 (by simp;omega);have y1:w.heap.size+1<w1.heap.size:=by have:=b1.size;simp at this;omega
 have y0:w.heap.size<w1.heap.size:=by omega
 obtain ⟨hc1,hf1⟩:=qap b1;clear b1;go_wp2_with fail
 refine (qcc ra rc [r0,r1,r2,r3] _ (H1.out.below B1.out)).mono ?_;rintro e w3 ⟨⟨q0,q1,q2,q3,rfl,hq⟩,b3⟩;have hq':=hq rfl;simp only [List.cons.injEq,and_true] at hq';obtain ⟨rfl,rfl,rfl,rfl⟩:=hq';have B3:Hid (Below w.heap.size w w3):=B1.out.trans (b3.mono B1.out.size);obtain ⟨hc3,hf3⟩:=qap b3;have z1:w.heap.size+1<w3.heap.size:=by have:=b3.size;omega
 have z0:w.heap.size<w3.heap.size:=by omega
 clear b3 B1 hq;go_wp2_with fail
 have B4:Hid (Below w.heap.size w (w3.alloc (.cells #[.int .i64 r0,.int .i64 r1,.int .i64 r2,.int .i64 r3] 203))):=B3.out.alloc (by omega) _;generalize hW:w3.alloc (.cells #[.int .i64 r0,.int .i64 r1,.int .i64 r2,.int .i64 r3] 203)=W at *;have lr:w3.heap.size<W.heap.size:=by rw [<- hW];simp
 have k0:W.cell? ⟨w3.heap.size,0,none⟩=some (.int .i64 r0):=by rw [<- hW];simp
 have k1:W.cell? ⟨w3.heap.size,1,none⟩=some (.int .i64 r1):=by rw [<- hW];simp
 have k2:W.cell? ⟨w3.heap.size,2,none⟩=some (.int .i64 r2):=by rw [<- hW];simp
 have k3:W.cell? ⟨w3.heap.size,3,none⟩=some (.int .i64 r3):=by rw [<- hW];simp
 have s0:W.cell? ⟨w.heap.size,0,none⟩=some (.int .i64 k):=by rw [<- hW,zQ _ _ z0,hc3 _ _ y0,hc1 _ _ (by simp;omega)];simp
 have e0:W.cell? ⟨w.heap.size+1,0,none⟩=some (.int .i64 0):=by rw [<- hW,zQ _ _ z1,hc3 _ _ y1,hc1 _ _ (by simp)];simp
 have e1:W.cell? ⟨w.heap.size+1,1,none⟩=some (.int .i64 0):=by rw [<- hW,zQ _ _ z1,hc3 _ _ y1,hc1 _ _ (by simp)];simp
 have e2:W.cell? ⟨w.heap.size+1,2,none⟩=some (.int .i64 0):=by rw [<- hW,zQ _ _ z1,hc3 _ _ y1,hc1 _ _ (by simp)];simp
 have f0:∀ j,W.frozen? ⟨w.heap.size+1,j,none⟩=false:=fun j=>by rw [<- hW,qth _ _ z1,hf3 _ _ y1,hf1 _ _ (by simp)];simp
 have l0:w.heap.size<W.heap.size:=by omega
 have l1:w.heap.size+1<W.heap.size:=by omega
 have lb:b<W.heap.size:=by omega
 clear hc1 hf1 hc3 hf3 hW B3 y0 y1 z0 z1;obtain ⟨c0,c1,c2,c3,c4⟩:=HI.out.below B4.out hb k hk;obtain ⟨⟨o1,o11⟩,-,⟨a0,a3⟩,-⟩:=hr
 first|(go_region_with (first|(go_at_call 165;refine (qlr _ _ _ _ _ _ o1 o11).mono ?_;rintro e w5 ⟨rfl,b5'⟩;have b5:Below W.heap.size W w5:=(Below.refl W.heap.size W).drew.trans b5';obtain ⟨hc5,hf5⟩:=qap b5;have B5:Hid (Below w.heap.size w w5):=B4.out.trans (b5.mono B4.out.size);have l5:w.heap.size+1<w5.heap.size:=zL l1 b5.size;clear b5 b5')|(go_at_call 164;refine (qkx _ _ _ _ _ _ _ _ _ _ o1 o11 a0 a3).mono ?_;rintro e w6 ⟨rfl,b6⟩;obtain ⟨hc6,hf6⟩:=qap b6;have B6:Hid (Below w.heap.size w w6):=B5.out.trans (b6.mono B5.out.size);clear b6))) | fail
 all_goals
  go_wp2;refine bodyPost_ret (v:=evV (evK (g k).o) (evP (g k).o (g k).n) (evW (g k).o (g k).a [r0,r1,r2,r3])) (by simp [results,Tryz.results109,go_sem,hc6,hc5,l5,l1,e0,e1,e2]) rfl ⟨rfl,?_⟩;have:=B6.out
  go_grown
theorem qj3 (b off len cap:Nat) (g:Nat->I5) (p code:Int) (ra oa:Option Addr) (rc oc:Nat) (rs os:List Int) (w:World) (hlen:len<=maxLen) (hb:b<w.heap.size) (hI:qan w b off len g) (ho:os.length<=1048576) (h1:Sl w ra rs) (h2:Sl w oa os) (t2:qac g len 4=true):
  Calls Tryz.prog 109 #[.slice (some ⟨b,off,none⟩) len cap,stV p ra rs.length rc oa os.length oc code] w fun e w'=>e=.returned (evV (nxK g len p rs os code) (nxP g len p rs os code) (nxW g len p rs os code))/\Below w.heap.size w w':=by
 rcases zK (qch g len p rs os code) with hr | hr
 ·obtain ⟨h3,h4,rfl⟩:=qbb hr
  obtain ⟨⟨r0,r1,r2,r3,rfl,_⟩,⟨k,rfl,hk⟩,_⟩:=qck h4;rw [qtf hr];exact qnz b off len cap g k ra oa rc oc r0 r1 r2 r3 os w hlen hb hI ho h1 h2 hk h4 h3
 ·rw [qtg hr]
  exact qn0 b off len cap g p code ra oa rc oc rs os w ho h1 h2 t2 hr
