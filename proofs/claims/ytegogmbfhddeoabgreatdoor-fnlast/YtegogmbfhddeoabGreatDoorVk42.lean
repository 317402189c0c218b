import Derived.Test.YtegogmbfhddeoabGreatDoorVk41
import Derived.Test.YtegogmbfhddeoabGreatDoorVk40
import Derived.Maps.OwnSet
namespace Go.Proofs.YtegogmbfhddeoabGreatDoor
set_option maxRecDepth 100000
set_option maxHeartbeats 4000000
open Go.RowKit Go.Deep
def pickP (i:Nat):Int:=if i=0 then -1 else 4
theorem qtg (w:World):qid (w.alloc (.cells #[.int .i64 (-1),.int .i64 4] 3)) w.heap.size 2 pickP:=fun j hj=>by
 rw [zW _ _ _ j rfl]
 match j,hj with
 | 0,_=>rfl
 | 1,_=>rfl
open Go.ChangeShapes Go.WideShapes Go.ChangeAt Go.Sort
def lsM (f:Nat->Bool):Nat->Int
 | 0=>-1
 | j+1=>if f j=true then (j:Int) else lsM f j
def lsF (g:Nat->I5) (n:Nat) (eh:Nat->E3) (k v:Int) (j:Nat):Bool:=hoB (resS (repO g n eh j)) eh j k v
noncomputable def lsI (y:Sy) (p k v:Int):Int:=if spB y p k=true then lsM (lsF (y.pH p.toNat) (y.pL p.toNat) (y.hH p.toNat) k v) (y.hL p.toNat+1) else -1
theorem qri {y:Sy} {p k v:Int} (h:spB y p k=false):lsI y p k v = -1:=by rw [lsI,h];rfl
theorem qm9 {y:Sy} {p k v:Int} (h:spB y p k=true):lsI y p k v=lsM (lsF (y.pH p.toNat) (y.pL p.toNat) (y.hH p.toNat) k v) (y.hL p.toNat+1):=by rw [lsI,h];rfl
theorem qoo (a:Option Addr) (len cap h:Nat) (hh:h<=cap) (w:World):(Instr.slice 38 (.slice a len cap) none (some (.int .i64 (h:Int))) none).run Tryz.prog w=.ok (.slice a h cap) w:=by
 have hh':(h:Int)<=(cap:Int):=by omega
 cases a with
 | none=>simp [go_sem,sliced,hh']
 | some a=>simp [go_sem,sliced,hh']
theorem qlt (x:SysIn) (p k v:Int) (w:World) (hG:SysG w x) (hL:x.Len) (hcap:∀ i,i<x.hn->x.hL i<=x.hC i):
  Calls Tryz.prog 7 #[x.v,spV p k v] w fun e w'=>e=.returned (.int .i64 (lsI x.y p k v))/\Below w.heap.size w w':=by
 have HS:Hid (∀ wx,Below w.heap.size w wx->Calls Tryz.prog 11 #[x.v,spV p k v] wx fun e w'=>e=.returned (.bool (spB x.y p k))/\Below wx.heap.size wx w'):=fun wx hb=>qc7 x p k v wx (hG.below hb) hL hcap;have HX:Hid (Hx w x p k v ((w.alloc (oQ4 x.pa x.pn x.pc x.sa x.sn x.sc x.wa x.wn x.wc x.ha x.hn x.hc)).alloc (oQ5 p k v))):=Hx.new w x p k v _ _
 rcases zK (spB x.y p k) with hT | hT
 case inr=>
  have HN:Hid (lsI x.y p k v = -1):=qri hT;rw [hT] at HS;generalize lsI x.y p k v=R at *;clear hG hL hcap hT
  go_enter Tryz.func7,Tryz.ntmps7
  go_wp2_with fail
  generalize (w.alloc (oQ4 x.pa x.pn x.pc x.sa x.sn x.sc x.wa x.wn x.wc x.ha x.hn x.hc)).alloc (oQ5 p k v)=W2 at *;refine (HS.out W2 HX.out.be).mono ?_;rintro e w1 ⟨rfl,b1⟩;have H1:Hid (Hx w x p k v w1):=HX.out.below b1;clear b1 HX HS;go_wp2;go_ret;exact ⟨by rw [HN.out];rfl,H1.out.be⟩
 obtain ⟨h1,h2,h3⟩:=qdd hT;have h4:0<=p/\p<(x.pn:Int):=of_decide_eq_true h2;obtain ⟨J,rfl⟩:∃ J:Nat,p=(J:Int):=⟨p.toNat,by omega⟩
 have c2:x.hn=x.pn:=h3.cn.2.2.1;have hp:J<x.pn:=by omega
 have hh:J<x.hn:=by omega
 have HN:Hid (lsI x.y (J:Int) k v=lsM (lsF (x.pH J) (x.pL J) (x.hH J) k v) (x.hL J+1)):=qm9 hT;generalize lsI x.y (J:Int) k v=A at *;rw [hT] at HS;have hp':(J:Int)<(x.pn:Int):=by omega
 have hh':(J:Int)<(x.hn:Int):=by omega
 have hl:x.hL J<=1048576:=hL.h.2 J hh;obtain ⟨bp,op,ep,cp⟩:=hG.p.at hp;obtain ⟨b',eb',hbl,hI⟩:=hG.pi J hp;obtain ⟨bh,oh,eh,ch⟩:=hG.h.at hh;have HR:Hid (∀ wx j,j<=x.hL J->Below w.heap.size w wx->Calls Tryz.prog 16 #[.slice (some ⟨b',0,none⟩) (x.pL J) (x.pC J),.slice (x.hA J) j (x.hC J)] wx (qcs wx (resS (repO (x.pH J) (x.pL J) (x.hH J) j)) (repO (x.pH J) (x.pL J) (x.hH J) j).isSome)):=fun wx j hj hb=>qgq b' (x.pL J) _ (x.hA J) j _ (x.pH J) (x.hH J) wx (by have:=hL.p.2 J hp;unfold maxLen;omega) (zL hbl hb.size) (hI.below hb hbl) (((hG.hi J hh).below hb).take hj) (by omega)
 have HC:Hid (∀ wx j (q:St8),j<=x.hL J->Below w.heap.size w wx->q.s=resS (repO (x.pH J) (x.pL J) (x.hH J) j)->Sl wx q.oa q.os->Calls Tryz.prog 17 #[stV q.p q.ra q.rs.length q.rc q.oa q.os.length q.oc q.c,.slice (x.hA J) j (x.hC J),spV (J:Int) k v] wx fun e w'=>e=.returned (.bool (lsF (x.pH J) (x.pL J) (x.hH J) k v j))/\Below wx.heap.size wx w'):=fun wx j q hj hb hq hs=>by
  have:=qgn q (x.hA J) j (x.hC J) (x.hH J) J k v wx h1 hs (by have:=(qfp (x.pH J) (x.pL J) (x.hH J) j).2;rw [<- hq] at this;exact this) (((hG.hi J hh).below hb).take hj) (by omega);rw [hq] at this;exact this
 have HCp:Hid (∀ wx,Below w.heap.size w wx->wx.cell? ⟨bp,op+J,none⟩=some (.slice (some ⟨b',0,none⟩) (x.pL J) (x.pC J))/\wx.cell? ⟨bh,oh+J,none⟩=some (.slice (x.hA J) (x.hL J) (x.hC J))):=fun wx hb=>⟨(hb.cell (zJ w _ cp)).trans (by rw [cp,eb']),(hb.cell (zJ w _ ch)).trans ch⟩
 have HA:Hid (x.pa=some ⟨bp,op,none⟩/\x.ha=some ⟨bh,oh,none⟩/\x.hL J<=x.hC J/\x.hL J<=1048576):=⟨ep,eh,hcap J hh,hl⟩
 generalize lsF (x.pH J) (x.pL J) (x.hH J) k v=f at *;clear hG hL hcap hT h1 h2 h3 h4 c2 ep eh cp ch eb' hbl hI hl hp hh
 go_enter Tryz.func7,Tryz.ntmps7
 go_wp2_with fail
 generalize (w.alloc (oQ4 x.pa x.pn x.pc x.sa x.sn x.sc x.wa x.wn x.wc x.ha x.hn x.hc)).alloc (oQ5 J k v)=W2 at *;refine (HS.out W2 HX.out.be).mono ?_;rintro e w1 ⟨rfl,b1⟩;have H1:Hid (Hx w x J k v w1):=HX.out.below b1;clear b1 HX HS;obtain ⟨be,⟨s0,s1,s2,s3⟩,⟨x0,x1,x2,xf⟩,lt⟩:=H1.out;obtain ⟨cp,ch⟩:=HCp.out w1 be;rw [HA.2.1] at s3;clear be;go_wp2_with fail
 clear s0 s1 s2 s3 x0 x1 x2 xf lt cp ch
 go_loopw [6] (fun i wr=>∃ j:Nat,j<=x.hL J+1/\i=.int .i64 ((j:Int) - 1)/\Hid (A=lsM f j)/\Hid (Hx w x J k v wr)) (fun i _=>(intOf i+1).toNat)
 case atStart=>exact ⟨x.hL J+1,Nat.le_refl _,by simp,HN.out,H1.out⟩
 case round=>
  clear H1 HN;obtain ⟨j,hj,rfl,HQ,HW⟩:=hrel;cases j with
  | zero=>
   rw [show ((0:Nat):Int) - 1 = -1 by decide];go_wp2;go_ret;exact ⟨by rw [HQ.out];rfl,HW.out.be⟩
  | succ j=>
   rw [show ((j+1:Nat):Int) - 1=(j:Int) by omega];have hjl:j<=x.hL J:=by omega
   have HJ:Hid (j<=x.hL J):=hjl;have hge:(0:Int)<=(j:Int):=by omega
   have hj1:(j:Int)<=1048576:=by have:=HA.2.2.2;omega
   obtain ⟨be,⟨s0,s1,s2,s3⟩,⟨x0,x1,x2,xf⟩,lt⟩:=HW.out;obtain ⟨cp,ch⟩:=HCp.out wr be;rw [HA.1] at s0;have hsl:=qoo (x.hA J) (x.hL J) (x.hC J) j (zP hjl HA.2.2.1);have d1:wr.heap.size≠w.heap.size:=by omega
   have d2:wr.heap.size≠w.heap.size+1:=by omega
   have d3:wr.heap.size≠bp:=by have:=zJ wr _ cp;simp at this;omega
   have hRl:=qfp (x.pH J) (x.pL J) (x.hH J) j;have HR2:Hid (∀ wx,Below w.heap.size w wx->Calls Tryz.prog 16 #[.slice (some ⟨b',0,none⟩) (x.pL J) (x.pC J),.slice (x.hA J) j (x.hC J)] wx (qcs wx (resS (repO (x.pH J) (x.pL J) (x.hH J) j)) (repO (x.pH J) (x.pL J) (x.hH J) j).isSome)):=fun wx hb=>HR.out wx j hjl hb;have HC2:Hid (∀ wx (q:St8),Below w.heap.size w wx->q.s=resS (repO (x.pH J) (x.pL J) (x.hH J) j)->Sl wx q.oa q.os->Calls Tryz.prog 17 #[stV q.p q.ra q.rs.length q.rc q.oa q.os.length q.oc q.c,.slice (x.hA J) j (x.hC J),spV (J:Int) k v] wx fun e w'=>e=.returned (.bool (f j))/\Below wx.heap.size wx w'):=fun wx q hb hq hs=>HC.out wx j q hjl hb hq hs;generalize resS (repO (x.pH J) (x.pL J) (x.hH J) j)=R at *;generalize (repO (x.pH J) (x.pL J) (x.hH J) j).isSome=T at *;clear hjl be hRl;go_wp2_with fail
   go_cut [7,8] from 25 to 37 (fun s t wx=>∃ M:Nat,s=.pointer (some ⟨M,0,none⟩)/\t=.bool T/\Hid (Below wr.heap.size wr wx/\Told wx wr.heap.size M R))
   case first=>
    go_region_held3 (fun w'=>w'.cell? ⟨w.heap.size,0,none⟩=some (.slice (some ⟨bp,op,none⟩) x.pn x.pc)/\w'.cell? ⟨w.heap.size+1,0,none⟩=some (.int .i64 J)/\w'.cell? ⟨bp,op+J,none⟩=some (.slice (some ⟨b',0,none⟩) (x.pL J) (x.pC J))) (go_keep)
     (first
      | (go_at_call 16;refine (HR2.out _ (HW.out.be.trans ((show Below wr.heap.size wr _ by go_grown).mono HW.out.be.size))).mono ?_;rintro e w5 hd;obtain ⟨v5,rfl,o5,b5⟩:=hd;obtain ⟨ra5,rc5,oa5,oc5,rfl,-,-⟩:=o5.read;have q5:Below wr.heap.size wr w5:=qad (by go_grown) b5 (by simp);(try simp only [World.size_alloc,World.size_drew] at o5);have O5:Hid (qae w5 _ (stV R.p ra5 R.rs.length rc5 oa5 R.os.length oc5 R.c) R.p R.rs R.os R.c):=o5;obtain ⟨hc5,hf5⟩:=qah b5;have z5:=b5.size;(try simp only [World.size_alloc,World.size_drew,Nat.add_one_le_iff] at z5);have j5:wr.heap.size<=w5.heap.size:=q5.size;have Q5:Hid (Below wr.heap.size wr w5):=q5;have y0:=(q5.cell (p:=⟨w.heap.size,0,none⟩) (zJ wr _ s0)).trans s0;have y3:=(q5.cell (p:=⟨w.heap.size+1,0,none⟩) (zJ wr _ x0)).trans x0;have yk:=(q5.cell (p:=⟨bp,op+J,none⟩) (zJ wr _ cp)).trans cp;clear o5 b5 q5))
    all_goals
     go_wp2_with fail
     go_meet
     case rel=>
      first
      | (refine ⟨w5.heap.size, by with_reducible rfl, rfl, ?_⟩
         exact ⟨Q5.out.trans ((zT _ _).mono j5),Told.of_alloc O5.out (by omega) (by omega) _⟩)
      | (refine ⟨wr.heap.size, by with_reducible rfl, rfl, ?_⟩
         exact ⟨(((Q5.out.setCell (Nat.le_refl _) _).setCell (Nat.le_refl _) _).setCell (Nat.le_refl _) _).setCell (Nat.le_refl _) _,Told.of_put (z0:=.int .i64 0) (z1:=.slice none 0 0) (z2:=.slice none 0 0) (z3:=.int .i64 0) O5.out (by omega) (by omega) (by omega) ⟨by rw [hc5 _ _ (by simp)];simp,by rw [hc5 _ _ (by simp)];simp,by rw [hc5 _ _ (by simp)];simp,by rw [hc5 _ _ (by simp)];simp⟩⟩)
   case rest=>
    obtain ⟨M,rfl,rfl,HMt⟩:=hcut;obtain ⟨ra,rc,oa,oc,TG⟩:=HMt.2.tl;have HW3:Hid (Hx w x J k v wc):=HW.out.below HMt.1;have HC3:Hid (∀ wx,Below wc.heap.size wc wx->Calls Tryz.prog 17 #[stV R.p ra R.rs.length rc oa R.os.length oc R.c,.slice (x.hA J) j (x.hC J),spV (J:Int) k v] wx fun e w'=>e=.returned (.bool (f j))/\Below wx.heap.size wx w'):=fun wx hb=>HC2.out wx ⟨R.p,ra,rc,R.rs,oa,oc,R.os,R.c⟩ (HW3.out.below hb).be rfl (TG.sl.2.below hb);obtain ⟨m0,m1,m2,m3⟩:=TG.box;clear s0 s1 s2 s3 x0 x1 x2 xf lt cp ch d1 d2 d3 HMt TG HW HR2 HC2;obtain ⟨be,-,⟨x0,x1,x2,xf⟩,lt⟩:=HW3.out;have m0':=cell_regrown m0;have m1':=cell_regrown m1;have m2':=cell_regrown m2;have m3':=cell_regrown m3;have x0':=cell_regrown x0;have x1':=cell_regrown x1;have x2':=cell_regrown x2;clear be;go_wp2_with fail
    refine wp_region_quiet_below (by kernel_rfl) (by kernel_rfl) ?_
    repeat (quiet_step (first|(go_at_call 17;exact Calls.regrown_of (HC3.out _ (below_regrown wc _ _)))))
    refine wpQuiet_nil ?_;intro _ hw';obtain ⟨⟨dq,osq⟩,hw''⟩:=hw';subst hw'';have HW4:Hid (Hx w x J k v (grow (redrawn wc dq) osq)):=HW3.out.below (below_regrown wc dq osq);generalize grow (redrawn wc dq) osq=w6 at *;clear m0 m1 m2 m3 x0 x1 x2 xf lt m0' m1' m2' m3' x0' x1' x2' hsl HW3 HC3;have HQ2:Hid (A=if f j=true then (j:Int) else lsM f j):=HQ.out;clear HQ;generalize f j=F at *;cases F with
    | true=>
     go_wp2;go_ret;exact ⟨by rw [HQ2.out];rfl,HW4.out.be⟩
    | false=>
     go_wp2;go_roundw
     case rel=>exact ⟨j,by omega,rfl,HQ2.out,HW4.out⟩
     case measure=>simp [intOf]
theorem qna {rs:List Int} (h:allN rs=true) (k:Nat):numB (zi rs k)=true:=by
 by_cases hk:k<rs.length
 ·exact (List.all_eq_true.1 h) _ (qsl hk)
 ·unfold zi
  rw [List.getD_eq_getElem?_getD,List.getElem?_eq_none (by omega)];decide
theorem qup {g:Nat->I5} {len:Nat} {p:Int} {rs os:List Int} {code k q v:Int} (h:doB g len p rs os code k q v=true):numB v=true:=by
 have hr:=qc8 h
 have hs:qcv len p rs os code=true:=by
  simp only [qbq,Bool.and_eq_true] at hr;exact hr.1.2
 obtain ⟨⟨r0,r1,r2,r3,rfl,n0,n1,n2,n3⟩,-⟩:=qby hs;have ha:allN [r0,r1,r2,r3]=true:=by simp [allN,n0,n1,n2,n3]
 unfold doB canB at h
 split at h
 ·simp only [Bool.and_eq_true] at h
  exact h.1.2
 ·simp only [Bool.and_eq_true,beq_iff_eq] at h
  rw [h.2.2.2,nxW,if_pos hr];unfold evW
  split
  ·exact qna ha _
  ·split
   ·exact qna ha _
   ·decide
theorem qv5 {g:Nat->I5} {n:Nat} {eh:Nat->E3} {m k:Nat} {S:S4} (h:rp g n eh m=some S) (hk:k<m):numB (eh k).v=true:=by
 cases h0:rp g n eh k with
 | none=>
  have:=qd0 h0 (Nat.le_of_lt hk);rw [this] at h;cases h
 | some T=>
  cases hd:doB g n T.p T.rs T.os T.c (eh k).k (eh k).q (eh k).v with
  | true=>exact qup hd
  | false=>
   have:=qd0 (qru h0 hd) hk;rw [this] at h;cases h
theorem qti {g:Nat->I5} {n:Nat} {eh:Nat->E3} {m k:Nat} {S:S4} (h:repO g n eh m=some S) (hk:k<=m):∃ T,repO g n eh k=some T:=by
 obtain ⟨h1,h2,h3⟩:=qbg h;unfold repO;rw [if_pos ⟨h1,by omega⟩];cases h0:rp g n eh k with
 | none=>
  rw [qd0 h0 hk] at h3;cases h3
 | some T=>exact ⟨T,rfl⟩
theorem qj6 (eh:Nat->E3) (kd pr:Int) (n:Nat):∀ k,∃ t,valL eh kd pr (n+k)=valL eh kd pr n ++ t
 | 0=>⟨[],by simp⟩
 | k+1=>by
  obtain ⟨t,h⟩:=qj6 eh kd pr n k
  rcases zK (hitB eh kd pr (n+k)) with e | e
  ·exact ⟨t ++ [(eh (n+k)).v],by rw [<- Nat.add_assoc,qj5 e,h,List.append_assoc]⟩
  ·exact ⟨t,by rw [<- Nat.add_assoc,qg1 e,h]⟩
theorem qj4 (eh:Nat->E3) (kd pr:Int) (n:Nat):(valL eh kd pr n).length=cnt eh kd pr n:=by simp [valL,cnt]
theorem qt2 {eh:Nat->E3} {kd pr:Int} {n:Nat} (h:∀ i,i<n->numB (eh i).v=true):allN (valL eh kd pr n)=true:=by
 rw [allN,List.all_eq_true];intro v hv;simp only [valL,List.mem_map] at hv;obtain ⟨i,hi,rfl⟩:=hv;obtain ⟨j,hj⟩:=List.mem_iff_getElem?.1 hi;exact h i (qjk eh kd pr n j i hj).1
theorem qoe (l:List Int):∀ n,n<=l.length->numL (itL l) n=l.take n
 | 0,_=>by simp [numL]
 | n+1,h=>by
  rw [qfh (by rfl),qoe l n (by omega),List.take_add_one,List.getElem?_eq_getElem (by omega)];simp [itL,zi,List.getD_eq_getElem?_getD,List.getElem?_eq_getElem (show n<l.length by omega)]
theorem qun {y:Sy} {d:Nat->Nat} (hO:y.Ok) (_hd:∀ p,p<y.pn->d p<=y.hL p) (hw:y.Wh d) {d':Nat->Nat} (h:y.hs.Put d'):(y.ah d).Put (fun p=>min (d' p) (d p)):=by
 induction h with
 | start=>
  have e:(fun p=>min 0 (d p))=fun _=>0:=funext fun p=>by omega
  show (y.ah d).Put (fun p=>min 0 (d p));rw [e];exact .start
 | @next d' p hput hp hc ih=>
  have hp':p<y.pn:=hp;by_cases hlt:d' p<d p
  ·have e:(fun i=>min (up d' p i) (d i))=up (fun i=>min (d' i) (d i)) p:=funext fun i=>by
    by_cases ei:i=p
    ·subst ei
     rw [qcd,qcd];omega
    ·rw [up_other ei,up_other ei]
   rw [e];have em:min (d' p) (d p)=d' p:=by omega
   refine .next ih hp ⟨by show min (d' p) (d p)<d p;omega,fun hk=>?_⟩;have hk:(y.hH p (min (d' p) (d p))).k=3:=hk;show cnt (y.hH p) 3 (y.hH p (min (d' p) (d p))).q (min (d' p) (d p))<cnt (y.hH (y.hH p (min (d' p) (d p))).q.toNat) 2 p (min (d' (y.hH p (min (d' p) (d p))).q.toNat) (d (y.hH p (min (d' p) (d p))).q.toNat));rw [em] at hk ⊢;have h1:d' p<y.hL p:=hc.1;have hq:=hO.evq hp' h1;have h2:cnt (y.hH p) 3 (y.hH p (d' p)).q (d' p)<cnt (y.hH (y.hH p (d' p)).q.toNat) 2 p (d' (y.hH p (d' p)).q.toNat):=hc.2 hk;have h3:=hw (y.hH p (d' p)).q.toNat (by omega) p hp';unfold tN sN at h3;rw [show (((y.hH p (d' p)).q.toNat:Nat):Int)=(y.hH p (d' p)).q by omega] at h3;have hh:hitB (y.hH p) 3 (y.hH p (d' p)).q (d' p)=true:=qcz.2 ⟨hk,rfl⟩;have h4:=qe6 (y.hH p) 3 (y.hH p (d' p)).q (show d' p+1<=d p from hlt);rw [qfu hh] at h4
   rcases Nat.le_total (d' (y.hH p (d' p)).q.toNat) (d (y.hH p (d' p)).q.toNat) with h5 | h5
   ·rw [Nat.min_eq_left h5]
    exact h2
   ·rw [Nat.min_eq_right h5]
    omega
  ·have e:(fun i=>min (up d' p i) (d i))=fun i=>min (d' i) (d i):=funext fun i=>by
    by_cases ei:i=p
    ·subst ei
     rw [qcd];omega
    ·rw [up_other ei]
   rw [e];exact ih
theorem Sy.Ok.atOk {y:Sy} {d:Nat->Nat} (h:y.Ok) (hd:∀ p,p<y.pn->d p<=y.hL p) (hw:y.Wh d) (hf:wfB (y.ah d)=true):(y.atY d).Ok:=by
 have hrp:∀ p,p<y.pn->∃ T,repO (y.pH p) (y.pL p) (y.hH p) (d p)=some T:=fun p hp=>qti (h.rp p hp) (hd p hp);refine ⟨⟨h.cn.1,rfl,rfl,rfl⟩,h.pr,fun p hp=>?_,fun p hp i hi=>h.pe p hp i (zL hi (hd p hp)),fun a ha b hb=>?_,?_⟩
 ·obtain ⟨T,hT⟩:=hrp p hp
  show repO (y.pH p) (y.pL p) (y.hH p) (d p)=some (resS (repO (y.pH p) (y.pL p) (y.hH p) (d p)));rw [hT];rfl
 ·have ha:a<y.pn:=ha
  have hb:b<y.pn:=hb;obtain ⟨e1,e2⟩:=qwa (a:=a) hb;have hl:(wyL (y.ah d) a b).length<=12:=qoh.1 hf a ha b hb;have hnum:allN (valL (y.hH a) 2 b (d a))=true:=qt2 fun i hi=>qv5 (qbg (h.rp a ha)).2.2 (zL hi (hd a ha));show WayP (itL (wyL (y.ah d) ((a*y.pn+b) / y.pn) ((a*y.pn+b) % y.pn))) (wyL (y.ah d) ((a*y.pn+b) / y.pn) ((a*y.pn+b) % y.pn)).length (valL (y.hH b) 3 a (d b)) (valL (y.hH a) 2 b (d a));rw [e1,e2];refine ⟨fun j _=>?_,hl,?_⟩
  ·have hv:numB (zi (wyL (y.ah d) a b) j)=true:=by
    show numB (zi ((valL (y.hH a) 2 b (d a)).drop (cnt (y.hH b) 3 a (d b))) j)=true;rw [qsj];exact qna hnum _
   simp [qca,itL,hv]
  ·rw [qoe _ _ (Nat.le_refl _),List.take_length]
   show valL (y.hH b) 3 a (d b) ++ (valL (y.hH a) 2 b (d a)).drop (cnt (y.hH b) 3 a (d b))=valL (y.hH a) 2 b (d a);obtain ⟨t1,h1⟩:=qj6 (y.hH b) 3 a (d b) (y.hL b - d b);obtain ⟨t2,h2⟩:=qj6 (y.hH a) 2 b (d a) (y.hL a - d a);rw [show d b+(y.hL b - d b)=y.hL b by have:=hd b hb;omega] at h1;rw [show d a+(y.hL a - d a)=y.hL a by have:=hd a ha;omega] at h2;have e:=(h.wa a ha b hb).eq;rw [h1,h2] at e
   have hle:(valL (y.hH b) 3 a (d b)).length<=(valL (y.hH a) 2 b (d a)).length:=by
    rw [qj4,qj4];exact hw a ha b hb
   have e3:valL (y.hH b) 3 a (d b)=(valL (y.hH a) 2 b (d a)).take (valL (y.hH b) 3 a (d b)).length:=by
    have e4:=congrArg (List.take (valL (y.hH b) 3 a (d b)).length) e;rw [List.append_assoc,List.take_left,List.take_append_of_le_length hle] at e4;exact e4
   rw [<- qj4 (y.hH b) 3 a (d b)]
   conv=>lhs;lhs;rw [e3]
   exact List.take_append_drop _ _
 ·obtain ⟨dA,hA,hall⟩:=h.ro
  refine ⟨_,qun h hd hw hA,fun p hp=>?_⟩;have:=hall p hp;have h1:dA p=y.hL p:=this;have h2:=hd p hp;show min (dA p) (d p)=d p;omega
theorem qt8 {y:Sy} {p k:Int} (h:bkC y p k=0):y.Ok/\bkIn y p k=true/\(bkY y p k).Ok/\bkY y p k=y.atY (cN (bkE y p k))/\(∀ q,q<y.pn->cN (bkE y p k) q<=y.hL q)/\y.Wh (cN (bkE y p k)):=by
 unfold bkC at h;by_cases ho:y.okB=true
 ·rw [if_pos ho] at h
  by_cases hb:bkIn y p k=true
  ·rw [if_pos hb] at h
   by_cases hw:wfB (y.ah (cN (bkE y p k)))=true
   ·have hO:=Sy.ok_of ho
    have hc:=qiv hO hb;have hd:∀ q,q<y.pn->cN (bkE y p k) q<=y.hL q:=fun q hq=>(qmm hc).leN hq
    have e:bkY y p k=y.atY (cN (bkE y p k)):=by
     unfold bkY;rw [if_pos ho,if_pos hb,if_pos hw]
    exact ⟨hO,hb,by rw [e];exact hO.atOk hd (qe4 hc).2 hw,e,hd,(qe4 hc).2⟩
   ·rw [if_neg hw] at h
    cases h
  ·rw [if_neg hb] at h
   cases h
 ·rw [if_neg ho] at h
  cases h
theorem qui {y:Sy} (hO:y.Ok) {P:Nat} (hP:P<y.pn) (k:Int) {q:Nat} (hq:q<y.pn):zi (bkL y P k) q=if q=P then k else (y.hL q:Int):=by
 have hh:=hO.cn.2.2.1;unfold bkL;rw [qot (by rw [qdq];omega),qsk (by omega)]
theorem qv4 {y:Sy} (_hO:y.Ok) {d:Nat->Nat} (h:y.hs.Put d):y.Wh d:=by
 induction h with
 | start=>exact fun a _ b _=>Nat.zero_le _
 | @next d p hput hp hc ih=>
  intro a ha b hb;have h0:=ih a ha b hb;unfold tN sN at *
  have hs : cnt (y.hH a) 2 b (d a) ≤ cnt (y.hH a) 2 b (up d p a) := qe6 _ _ _ (by
   by_cases e:a=p
   ·subst e
    rw [qcd];omega
   ·rw [up_other e]
    exact Nat.le_refl _)
  by_cases e:b=p
  ·subst e
   rw [qcd]
   rcases zK (hitB (y.hH b) 3 a (d b)) with t | t
   ·rw [qfu t]
    obtain ⟨t1,t2⟩:=qcz.1 t;have h1:cnt (y.hH b) 3 (y.hH b (d b)).q (d b)<cnt (y.hH (y.hH b (d b)).q.toNat) 2 b (d (y.hH b (d b)).q.toNat):=hc.2 t1;rw [t2,Int.toNat_natCast] at h1;omega
   ·rw [qiz t]
    omega
  ·rw [up_other e]
   omega
theorem Hs.Put.upto {x:Hs} {d:Nat->Nat} (h:x.Put d):∀ p i,i<=d p->∃ d',x.Put d'/\d' p=i:=by
 induction h with
 | start=>
  intro p i hi;have hi:i<=0:=hi;exact ⟨_,.start,(Nat.le_zero.1 hi).symm⟩
 | @next d p0 hput hp0 hc ih=>
  intro p i hi;by_cases e:i<=d p
  ·exact ih p i e
  ·refine ⟨_,.next hput hp0 hc,?_⟩
   by_cases ep:p=p0
   ·subst ep
    rw [qcd] at hi ⊢;omega
   ·rw [up_other ep] at hi
    exact absurd hi e
theorem qo1 {y:Sy} {P:Nat} {k:Int} (h:bkC y P k=0):((bkY y P k).hL P:Int)=k:=by
 obtain ⟨hO,hb,-,ht,-,-⟩:=qt8 h;obtain ⟨P',e,hP,k0,k1⟩:=qif hb;obtain rfl:P=P':=by omega
 have hc:=qiv hO hb;rw [Int.toNat_natCast] at hc;have s:=(qe4 hc).1;obtain ⟨dA,hA,hall⟩:=hO.ro;have h1:dA P=y.hL P:=hall P hP;obtain ⟨d,hd,ed⟩:=hA.upto P k.toNat (by omega);have hle:=hd.le
 have g := s.gr d (fun q hq => by
  rw [qui hO hP k hq];have h2:d q<=y.hL q:=hle q;by_cases eq:q=P
  ·rw [if_pos eq,eq,ed]
   omega
  ·rw [if_neg eq]
   omega) (qv4 hO hd) P hP
 have u:=(s.le P hP)
 rw [qui hO hP k hP,if_pos rfl] at u;rw [ed] at g;rw [ht];show (((zi (bkE y P k) P).toNat:Nat):Int)=k
 have e2:zi (bkE y P k) P=zi (clS y (bkL y P k)) P:=by
  unfold bkE;rw [Int.toNat_natCast]
 rw [e2];omega
open Go.Maps
abbrev RV:Value->Option (DataW Value × List MemPlace):=fun v=>some (.held v,[])
theorem kInt:Keyed Tryz.prog 3:=int_keyed Tryz.underlying3
theorem keyI (j:Int):WideAt.IsKeyLit (.int .i64 j):=trivial
theorem wf64 {a:Int} (h0:-9223372036854775808<=a) (h1:a<=9223372036854775807):(Lit.int .i64 a).wf=true:=WalkArith.wf_i64 (by omega)
theorem qhn {H:Type} {P:Program} {k:TypeId} {R:Value->Option (DataW H × List MemPlace)} {w w':World} {b n:Nat} {D:DataW H} (h:w.ownsMap P k R b n D) (hb:w'.heap[b]? = w.heap[b]?):w'.ownsMap P k R b n D:=by
 obtain ⟨es,clock,h1,r⟩:=h;exact ⟨es,clock,hb.trans h1,r⟩
structure Sto (w:World) (b T k:Nat) (g:Nat->I5) (n:Nat) (eh:Nat->E3) (V:Nat->Value) (D:DataW Value):Prop where
 own:w.ownsMap Tryz.prog 3 RV b (k+1) D
 key:∀ j:Int,Maps.has D (.int .i64 j)=decide (0<=j/\j<=k)
 val:∀ j:Nat,j<=k->∀ z,D.atKey (.int .i64 j) z=.held (V j)
 st:∀ j,j<=k->∃ S,rp g n eh j=some S/\qae w T (V j) S.p S.rs S.os S.c
 bT:b<T
theorem Sto.keep {w w':World} {b T k n:Nat} {g:Nat->I5} {eh:Nat->E3} {V:Nat->Value} {D:DataW Value} (h:Sto w b T k g n eh V D) (hb:∀ i,i=b\/T<=i->i<w.heap.size->w'.heap[i]? = w.heap[i]?):Sto w' b T k g n eh V D:=
 ⟨qhn h.own (hb b (.inl rfl) h.own.lt), h.key, h.val, fun j hj => by
  obtain ⟨S,e,o⟩:=h.st j hj
  exact ⟨S,e,o.blk fun i hi=>hb i (.inr (o.lt hi).1) (o.lt hi).2⟩,h.bT⟩
theorem Sto.below {w w':World} {b T k n:Nat} {g:Nat->I5} {eh:Nat->E3} {V:Nat->Value} {D:DataW Value} (h:Sto w b T k g n eh V D) (hb:Below w.heap.size w w'):Sto w' b T k g n eh V D:=h.keep fun i _ hi=>hb.block i hi
theorem Sto.new {w w':World} {b T n:Nat} {g:Nat->I5} {eh:Nat->E3} {v:Value} (ho:w'.ownsMap Tryz.prog 3 RV b (0+1) ((DataW.map []).put (.int .i64 0) (.held v))) (hg:w.grownBy w' (some b)) (hv:qae w T v newS.p newS.rs newS.os newS.c) (hT:b<T):Sto w' b T 0 g n eh (fun _=>v) ((DataW.map []).put (.int .i64 0) (.held v)):=by
 refine ⟨ho,fun j=>?_,fun j hj z=>?_,fun j hj=>⟨newS,?_,hv.blk fun i hi=>hg.block i (hv.lt hi).2 fun e=>?_⟩,hT⟩
 ·by_cases e:j=0
  ·subst e
   rw [has_put_same isMap_empty (keyI _)];simp
  ·rw [has_put_other (fun h=>e (by injection h))]
   have:¬ (0<=j/\j<=((0:Nat):Int)):=by omega
   rw [decide_eq_false this];rfl
 ·obtain rfl:j=0:=by omega
  exact atKey_put_same isMap_empty (keyI _) _ _
 ·obtain rfl:j=0:=by omega
  rfl
 ·have:=(hv.lt hi).1
  injection e with e;omega
theorem Sto.put {w w':World} {b T k n:Nat} {g:Nat->I5} {eh:Nat->E3} {V:Nat->Value} {D:DataW Value} (h:Sto w b T k g n eh V D) {v:Value} {S:S4} (ho:w'.ownsMap Tryz.prog 3 RV b (k+1+1) (D.put (.int .i64 ((k:Int)+1)) (.held v))) (hg:w.grownBy w' (some b)) (hS:rp g n eh (k+1)=some S) (hv:qae w T v S.p S.rs S.os S.c):Sto w' b T (k+1) g n eh (fun j=>if j=k+1 then v else V j) (D.put (.int .i64 ((k:Int)+1)) (.held v)):=by
 have hT:=h.bT
 have bl:∀ {u:Value} {S:S4},qae w T u S.p S.rs S.os S.c->qae w' T u S.p S.rs S.os S.c:=fun o=>o.blk fun i hi=>hg.block i (o.lt hi).2 fun e=>by
  have:=(o.lt hi).1;injection e with e;omega
 refine ⟨ho,fun j=>?_,fun j hj z=>?_,fun j hj=>?_,hT⟩
 ·by_cases e:j=(k:Int)+1
  ·subst e
   rw [has_put_same h.own.isMap (keyI _)];simp only [Int.natCast_add,Int.cast_ofNat_Int,Int.le_refl,and_true];rw [decide_eq_true (by omega)]
  ·rw [has_put_other (fun h=>e (by injection h)),h.key]
   refine decide_eq_decide.2 ⟨fun h=>⟨h.1,by omega⟩,fun h=>⟨h.1,by omega⟩⟩
 ·by_cases e:j=k+1
  ·subst e
   simp only [if_true];exact atKey_put_same h.own.isMap (keyI _) _ _
  ·simp only [if_neg e]
   rw [atKey_put_other (fun h=>e (by injection h;omega))];exact h.val j (by omega) z
 ·by_cases e:j=k+1
  ·subst e
   simp only [if_true];exact ⟨S,hS,bl hv⟩
  ·simp only [if_neg e]
   obtain ⟨S',e1,o⟩:=h.st j (by omega);exact ⟨S',e1,bl o⟩
theorem AtP.start {z:Bool} {B m3 m1:Nat} {w3 w1:World} {y:Sy} {vp vw:Value} {up uw:Nat->Value} (o3:LT z w3 (fun k=>m3<=k/\k<w3.heap.size) vw y.wn uw y.wL y.wH) (o1:LI z w1 (fun k=>m1<=k/\k<w1.heap.size) vp y.pn up y.pL y.pH) (hb:Below w3.heap.size w3 w1) (h1:w3.heap.size<=m1) (hB:B<=m3) (h3:m3<=w3.heap.size):
  ∃ c,AtP z B w1.heap.size c { y with sn:=0,hn:=0 } (w1.alloc (.cells #[vp,.slice none 0 0,vw,.slice none 0 0] 29)) vp (.slice none 0 0) vw (.slice none 0 0) up (fun _=>.slice none 0 0) uw (fun _=>.slice none 0 0):=by
 have hs:=hb.size;have ba:=zQ w1 (.cells #[vp,.slice none 0 0,vw,.slice none 0 0] 29);refine ⟨fun k=>if k=w1.heap.size then 0 else if k<w3.heap.size then 3 else 1,BoxC.new w1 _ _ _ _ _,fun j=>yB _ _ _ _ rfl,if_pos rfl,by omega,?_,LS.nil _ _ _ _,?_,LL.nil _ _ _ _ _ _ _ _⟩
 ·refine (o1.mono fun k hk _=>⟨by omega,?_⟩).below ba
  show (if k=w1.heap.size then 0 else if k<w3.heap.size then 3 else 1)=1;rw [if_neg (by omega),if_neg (by omega)]
 ·refine ((o3.mono fun k hk _=>⟨by omega,?_⟩).below hb).below ba
  show (if k=w1.heap.size then 0 else if k<w3.heap.size then 3 else 1)=3;rw [if_neg (by omega),if_pos (by omega)]
def Sy.Rpl (y:Sy) (d:Nat->Nat):Prop:=∀ p,p<y.pn->(repO (y.pH p) (y.pL p) (y.hH p) (d p)).isSome=true
noncomputable def ctB (y:Sy) (d:Nat->Nat):Bool:=qB (y.Wh d) && (wfB (y.ah d) && qB (y.Rpl d))
noncomputable def ctS (y:Sy) (d:Nat->Nat):Sy:=if ctB y d=true then y.atY d else y.nil
theorem qvk {y:Sy} {d:Nat->Nat} (h:¬ y.Wh d):ctB y d=false:=by
 unfold ctB;rw [qaw h];rfl
theorem qvl {y:Sy} {d:Nat->Nat} (h:wfB (y.ah d)=false):ctB y d=false:=by
 unfold ctB;rw [h];simp
theorem qvm {y:Sy} {d:Nat->Nat} (h:¬ y.Rpl d):ctB y d=false:=by
 unfold ctB;rw [qaw h];simp
theorem qvn {y:Sy} {d:Nat->Nat} (h1:y.Wh d) (h2:wfB (y.ah d)=true) (h3:y.Rpl d):ctB y d=true:=by
 unfold ctB;rw [qa6 h1,h2,qa6 h3];rfl
theorem qsf (y:Sy) (d:Nat->Nat):(∀ a,a<(y.ah d).n->∀ b,b<(y.ah d).n->nthV ((y.ah d).e b) 3 a ((y.ah d).l b) (cnt ((y.ah d).e a) 2 b ((y.ah d).l a):Nat)<0) ↔ y.Wh d:=
 ⟨fun h a ha b hb=>(qhm (y:=y) (c:=d)).1 (h a ha b hb),fun h a ha b hb=>(qhm (y:=y) (c:=d)).2 (h a ha b hb)⟩
theorem qmn (X hc0:Nat) (ea:Option Addr) (eA:Nat->Option Addr) (eC:Nat->Nat) (y:Sy) (d:Nat->Nat) (pa:Option Addr) (pc:Nat) (pA:Nat->Option Addr) (pC:Nat->Nat) (w:World) (c0:w.cell? ⟨X,0,none⟩=some (.slice ea y.pn hc0)) (hE:HisE w ea eA eC (y.ah d)) (hl:∀ i,i<y.pn->d i<=200) (h4:y.pn<=4) (hP:RowS w pa y.pn fun i=>.slice (pA i) (y.pL i) (pC i)) (hI:∀ i,i<y.pn->∃ b,pA i=some ⟨b,0,none⟩/\b<w.heap.size/\qam w b 0 (y.pL i) (y.pH i)) (hpl:∀ i,i<y.pn->y.pL i<=1048576) (hV:w.cell? ⟨0,0,none⟩=some (.iface 211 (.agg #[.pointer (some ⟨1,73,none⟩)]))):
  Calls Tryz.prog 51 #[.pointer (some ⟨X,0,none⟩),.slice pa y.pn pc] w fun e w'=>∃ v,e=.returned (.tuple #[v,.bool (ctB y d)])/\qak true w' w.heap.size (ctS y d) v/\Below w.heap.size w w':=by
 have HVx:Hid (∀ wx,Below w.heap.size w wx->wx.cell? ⟨0,0,none⟩=some (.iface 211 (.agg #[.pointer (some ⟨1,73,none⟩)]))):=fun wx hb=>(hb.cell (p:=⟨0,0,none⟩) (zJ w _ hV)).trans hV
 have HX3 : Hid (∀ wx, Below w.heap.size w wx → wx.cell? ⟨X, 0, none⟩ = some (.slice ea y.pn hc0) ∧ HisE wx ea eA eC (y.ah d) ∧ RowS wx pa y.pn (fun i => .slice (pA i) (y.pL i) (pC i)) ∧ ∀ i, i < y.pn → ∃ b, pA i = some ⟨b, 0, none⟩ ∧ b < wx.heap.size ∧ qam wx b 0 (y.pL i) (y.pH i)) := fun wx hb => ⟨(hb.cell (p := ⟨X, 0, none⟩) (World.block_lt_of_cell? w _ c0)).trans c0, hE.below hb, hP.below hb, fun i hi => by
  obtain ⟨b,e,hlt,hI⟩:=hI i hi
  exact ⟨b,e,zL hlt hb.size,hI.below hb hlt⟩⟩
 have HWh:Hid (∀ wx,Below w.heap.size w wx->Calls Tryz.prog 87 #[.pointer (some ⟨X,0,none⟩)] wx fun e w'=>e=.returned (.bool (qB (y.Wh d)))/\Below wx.heap.size wx w'):=fun wx hb=>by
  have h:=qk9 X hc0 ea eA eC (y.ah d) wx (HX3.out wx hb).1 (HX3.out wx hb).2.1 (fun i hi=>hl i hi) h4
  have e:qB (y.Wh d)=qB (∀ a,a<(y.ah d).n->∀ b,b<(y.ah d).n->nthV ((y.ah d).e b) 3 a ((y.ah d).l b) (cnt ((y.ah d).e a) 2 b ((y.ah d).l a):Nat)<0):=by
   by_cases hw:y.Wh d
   ·rw [qa6 hw,qa6 ((qsf y d).2 hw)]
   ·rw [qaw hw,qaw fun h=>hw ((qsf y d).1 h)]
  rw [e];exact h
 have HW:Hid (y.Wh d->∀ wx,Below w.heap.size w wx->Calls Tryz.prog 88 #[.pointer (some ⟨X,0,none⟩)] wx fun e w'=>∃ v u,e=.returned (.tuple #[v,.bool (wfB (y.ah d))])/\(wfB (y.ah d)=true->LT true w' (fun k=>wx.heap.size<=k/\k<w'.heap.size) v (y.atY d).wn u (y.atY d).wL (y.atY d).wH)/\Below wx.heap.size wx w'):=fun hw wx hb=>qp7 X hc0 ea eA eC (y.ah d) wx (HX3.out wx hb).1 (HX3.out wx hb).2.1 (fun i hi=>hl i hi) h4 (fun a ha b hb=>hw a ha b hb)
 have HP : Hid (∀ wx, Below w.heap.size w wx → Calls Tryz.prog 46 #[.slice pa y.pn pc] wx fun e w' => ∃ v u, e = .returned v ∧ LI true w' (fun k => wx.heap.size ≤ k ∧ k < w'.heap.size) v y.pn u y.pL y.pH ∧ Below wx.heap.size wx w') := fun wx hb => qdm pa y.pn pc pA y.pL pC y.pH wx (by omega) hpl (HX3.out wx hb).2.2.1 (fun i hi => by
  obtain ⟨b,e,hlt,hI⟩:=(HX3.out wx hb).2.2.2 i hi
  exact ⟨b,0,e,by rw [e];exact srcI hlt hI⟩)
 have HR:Hid (∀ wx,Below w.heap.size w wx->∀ p,p<y.pn->Calls Tryz.prog 72 #[.slice (pA p) (y.pL p) (pC p),.slice (eA p) (d p) (eC p)] wx (qcs wx ((y.atY d).sS p) (repO (y.pH p) (y.pL p) (y.hH p) (d p)).isSome)):=fun wx hb p hp=>by
  obtain ⟨b,e,hlt,hI⟩:=(HX3.out wx hb).2.2.2 p hp;rw [e];exact qgm b (y.pL p) (pC p) (eA p) (d p) (eC p) (y.pH p) (y.hH p) wx (by have:=hpl p hp;unfold maxLen;omega) hlt hI ((HX3.out wx hb).2.1.ev p hp) (by have:=hl p hp;omega) (HVx.out wx hb)
 have HK:Hid (∀ wx,Below w.heap.size w wx->∀ p,p<y.pn->Calls Tryz.prog 89 #[.slice (eA p) (d p) (eC p)] wx fun e w'=>∃ a1 c1,e=.returned (.slice a1 (d p) c1)/\w'.ownsRow wx.heap.size 78 3 (.slice a1 (d p) c1) (d p) (fE (y.hH p) (d p))/\Value.slice a1 (d p) c1≠.slice none 0 0/\Below wx.heap.size wx w'):=fun wx hb p hp=>qhc (eA p) (d p) (eC p) (y.hH p) wx (by have:=hl p hp;omega) (srcE ((HX3.out wx hb).2.1.ev p hp));have HN:Hid (y.pn<=4):=h4;have BW:Hid (Below w.heap.size w (w.alloc (zQ4))):=zQ _ _;have RB:Hid (BoxC (w.alloc (zQ4)) w.heap.size (.slice none 0 0) (.slice none 0 0) (.slice none 0 0) (.slice none 0 0)/\∀ j,(w.alloc (zQ4)).frozen? ⟨w.heap.size,j,none⟩=false):=⟨BoxC.new w _ _ _ _ _,fun j=>yB _ _ _ _ (by simp)⟩
 have hM:w.heap.size<=w.heap.size:=Nat.le_refl _;have HNO:Hid (ctB y d=false->ctS y d=y.nil):=fun h=>if_neg (by rw [h];simp);have HYES:Hid (ctB y d=true->ctS y d=y.atY d):=fun h=>if_pos h;have HC1:Hid (qB (y.Wh d)=false->ctB y d=false):=fun h=>qvk fun hw=>by rw [qa6 hw] at h;cases h
 have HC2:Hid (wfB (y.ah d)=false->ctB y d=false):=qvl;have HC3:Hid (¬ y.Rpl d->ctB y d=false):=qvm;have HC4:Hid (qB (y.Wh d)=true->wfB (y.ah d)=true->y.Rpl d->ctB y d=true):=fun h1=>qvn (qoh.1 h1);have HW':Hid (qB (y.Wh d)=true->∀ wx,Below w.heap.size w wx->Calls Tryz.prog 88 #[.pointer (some ⟨X,0,none⟩)] wx fun e w'=>∃ v u,e=.returned (.tuple #[v,.bool (wfB (y.ah d))])/\(wfB (y.ah d)=true->LT true w' (fun k=>wx.heap.size<=k/\k<w'.heap.size) v (y.atY d).wn u (y.atY d).wL (y.atY d).wH)/\Below wx.heap.size wx w'):=fun h=>HW.out (qoh.1 h);clear c0 hE hl h4 hP hI hpl hV HW;generalize qB (y.Wh d)=tw at *;generalize wfB (y.ah d)=wf at *;generalize ctB y d=R at *;generalize ctS y d=RS at *
 go_enter Tryz.func51,Tryz.ntmps51
 go_wp2_with fail
 generalize w.alloc (zQ4)=W2 at *;refine (HWh.out W2 BW.out).mono ?_;rintro e w1 ⟨rfl,q1⟩;have B1:Hid (Below w.heap.size w w1/\BoxC w1 w.heap.size (.slice none 0 0) (.slice none 0 0) (.slice none 0 0) (.slice none 0 0)/\∀ j,w1.frozen? ⟨w.heap.size,j,none⟩=false):=⟨BW.out.trans (q1.mono BW.out.size),RB.1.below q1,fun j=>((qah q1).2 _ j (zJ _ _ RB.1.1)).trans (RB.2 j)⟩
 clear q1 BW RB HWh;have l1:w.heap.size<w1.heap.size:=zJ _ _ B1.2.1.1;cases tw with
 | false=>
  have HV:Hid (R=false/\RS=y.nil):=⟨HC1.out rfl,HNO.out (HC1.out rfl)⟩
  obtain ⟨⟨r0,r1,r2,r3⟩,rf⟩:=B1.2;clear HC1 HC2 HC3 HC4 HNO HYES HX3 HW' HP HR HK HVx;go_wp2;exact bodyPost_ret (v:=.tuple #[sysV none 0 0 none 0 0 none 0 0 none 0 0,.bool false]) (by simp [results,Tryz.results51,go_sem,r0,r1,r2,r3]) rfl ⟨_,by rw [HV.1],by rw [HV.2];exact qak.zero _ _ _,(((B1.1.setCell hM _).setCell hM _).setCell hM _).setCell hM _⟩
 | true=>
  have HWa:Hid (∀ wx,Below w.heap.size w wx->Calls Tryz.prog 88 #[.pointer (some ⟨X,0,none⟩)] wx fun e w'=>∃ v u,e=.returned (.tuple #[v,.bool wf])/\(wf=true->LT true w' (fun k=>wx.heap.size<=k/\k<w'.heap.size) v (y.atY d).wn u (y.atY d).wL (y.atY d).wH)/\Below wx.heap.size wx w'):=HW'.out rfl;have HC5:Hid (wf=true->y.Rpl d->R=true):=HC4.out rfl;clear HC1 HC4 HW';go_wp2_with fail
  refine (HWa.out w1 B1.1).mono ?_;rintro e w4 ⟨v4,u4,rfl,o4,q4⟩;have F4:Hid ((wf=true->LT true w4 (fun k=>w1.heap.size<=k/\k<w4.heap.size) v4 (y.atY d).wn u4 (y.atY d).wL (y.atY d).wH)/\Below w1.heap.size w1 w4):=⟨o4,q4⟩
  clear o4 q4 HWa;cases wf with
  | false=>
   have HV:Hid (R=false/\RS=y.nil):=⟨HC2.out rfl,HNO.out (HC2.out rfl)⟩
   obtain ⟨r0,r1,r2,r3⟩:=B1.2.1.below F4.2;have rf:∀ j,w4.frozen? ⟨w.heap.size,j,none⟩=false:=fun j=>((qah F4.2).2 _ j l1).trans (B1.2.2 j);have Q4:Hid (Below w.heap.size w w4):=B1.1.trans (F4.2.mono B1.1.size);clear HC2 HC3 HC5 HNO HYES HX3 HP HR HK HVx F4;go_wp2;exact bodyPost_ret (v:=.tuple #[sysV none 0 0 none 0 0 none 0 0 none 0 0,.bool false]) (by simp [results,Tryz.results51,go_sem,r0,r1,r2,r3]) rfl ⟨_,by rw [HV.1],by rw [HV.2];exact qak.zero _ _ _,(((Q4.out.setCell hM _).setCell hM _).setCell hM _).setCell hM _⟩
  | true=>
   have HC6:Hid (y.Rpl d->R=true):=HC5.out rfl;have O4:Hid (LT true w4 (fun k=>w1.heap.size<=k/\k<w4.heap.size) v4 (y.atY d).wn u4 (y.atY d).wL (y.atY d).wH/\Below w1.heap.size w1 w4):=⟨F4.1 rfl,F4.2⟩
   clear HC2 HC5 F4;obtain ⟨a4,c4,rfl⟩:=zU O4.1.row;go_wp2_with fail
   refine (HP.out w4 (B1.1.trans (O4.2.mono B1.1.size))).mono ?_;rintro e w5 ⟨v5,uu5,rfl,o5,q5⟩;obtain ⟨a5,c5,rfl⟩:=zU o5.row;obtain ⟨cl5,st5⟩:=AtP.start (z:=true) (B:=w1.heap.size) (y:=y.atY d) O4.1 o5 q5 (Nat.le_refl _) (Nat.le_refl _) O4.2.size;have F5:Hid (AtP true w1.heap.size w5.heap.size cl5 { y.atY d with sn:=0,hn:=0 } (w5.alloc (oQ4 a5 y.pn c5 none 0 0 a4 (y.atY d).wn c4 none 0 0)) (.slice a5 y.pn c5) (.slice none 0 0) (.slice a4 (y.atY d).wn c4) (.slice none 0 0) uu5 (fun _=>.slice none 0 0) u4 (fun _=>.slice none 0 0)/\Below w1.heap.size w1 (w5.alloc (oQ4 a5 y.pn c5 none 0 0 a4 (y.atY d).wn c4 none 0 0))):=⟨st5,(O4.2.trans (q5.mono O4.2.size)).trans ((zQ _ _).mono (zP O4.2.size q5.size))⟩
   clear o5 q5 st5 HP;go_upto_region 7 with fail
   clear O4;generalize w5.alloc (oQ4 a5 y.pn c5 none 0 0 a4 (y.atY d).wn c4 none 0 0)=W5 at *;generalize hNN:w5.heap.size=N at *;clear hNN w5;have HX4:Hid (∀ wx,Below w1.heap.size w1 wx->Below w.heap.size w wx/\BoxC wx w.heap.size (.slice none 0 0) (.slice none 0 0) (.slice none 0 0) (.slice none 0 0)/\(∀ j,wx.frozen? ⟨w.heap.size,j,none⟩=false)/\w1.heap.size<=wx.heap.size):=fun wx hb=>⟨B1.1.trans (hb.mono B1.1.size),B1.2.1.below hb,fun j=>((qah hb).2 _ j l1).trans (B1.2.2 j),hb.size⟩
   have HL1:Hid (w.heap.size<w1.heap.size):=l1;clear B1 l1;have hn':(y.pn:Int)<=4:=by have:=HN.out;omega
   have hx0:=(HX3.out _ (HX4.out _ F5.2).1).1;go_wp2_with fail
   clear hx0
   go_loopw [34] (fun i wr=>∃ k:Nat,k<=y.pn/\i=.int .i64 k/\Hid ((∃ cl vs vh us uh,AtP true w1.heap.size N cl { y.atY d with sn:=k,hn:=k } wr (.slice a5 y.pn c5) vs (.slice a4 (y.atY d).wn c4) vh uu5 us u4 uh)/\Below w1.heap.size w1 wr)/\Hid (∀ p,p<k->(repO (y.pH p) (y.pL p) (y.hH p) (d p)).isSome=true)) (fun i _=>y.pn - (intOf i).toNat)
   case atStart=>exact ⟨0,Nat.zero_le _,rfl,⟨⟨_,_,_,_,_,F5.1⟩,F5.2⟩,fun p hp=>by omega⟩
   case round=>
    clear F5;obtain ⟨k,hk,rfl,HZ,HPs⟩:=hrel;by_cases hlt:k<y.pn
    ·have hlt':(k:Int)<(y.pn:Int):=by omega
     obtain ⟨hbw,-,-,hle3⟩:=HX4.out wr HZ.2;obtain ⟨-,hrw,hpw,-⟩:=HX3.out wr hbw;have RW:Hid (Below w.heap.size w wr):=hbw;obtain ⟨be,oe,rfl,ce⟩:=hrw.row.at hlt;obtain ⟨bp,op,rfl,cp⟩:=hpw.at hlt;obtain ⟨⟨cl,vs,vh,us,uh,hA⟩,hbz⟩:=HZ.out;have AP:Hid (AtP true w1.heap.size N cl { y.atY d with sn:=k,hn:=k } wr (.slice a5 y.pn c5) vs (.slice a4 (y.atY d).wn c4) vh uu5 us u4 uh):=hA;have BZ:Hid (Below w1.heap.size w1 wr):=hbz;clear hA hbz HZ hle3 hbw hrw hpw;replace ce:wr.cell? ⟨be,oe+k,none⟩=some (.slice (eA k) (d k) (eC k)):=ce;go_wp2_with fail
     refine (HR.out wr RW.out k hlt).mono ?_;rintro e w6 ⟨v6,rfl,o6,q6⟩;obtain ⟨ra1,rc1,oa1,oc1,rfl,-,-⟩:=o6.read;clear ce cp;have S6:Hid (qae w6 wr.heap.size (stV ((y.atY d).sS k).p ra1 ((y.atY d).sS k).rs.length rc1 oa1 ((y.atY d).sS k).os.length oc1 ((y.atY d).sS k).c) ((y.atY d).sS k).p ((y.atY d).sS k).rs ((y.atY d).sS k).os ((y.atY d).sS k).c/\Below wr.heap.size wr w6):=⟨o6,q6⟩
     clear o6 q6;generalize hTT:(y.atY d).sS k=T at *;have HTT:Hid ((y.atY d).sS k=T):=hTT;clear hTT;generalize hrb:(repO (y.pH k) (y.pL k) (y.hH k) (d k)).isSome=rb at *;have HRB:Hid ((repO (y.pH k) (y.pL k) (y.hH k) (d k)).isSome=rb):=hrb;clear hrb;have N7:Hid (BoxC (w6.alloc (oQ1 T.p ra1 T.rs.length rc1 oa1 T.os.length oc1 T.c)) w6.heap.size (.int .i64 T.p) (.slice ra1 T.rs.length rc1) (.slice oa1 T.os.length oc1) (.int .i64 T.c)/\Below wr.heap.size wr (w6.alloc (oQ1 T.p ra1 T.rs.length rc1 oa1 T.os.length oc1 T.c))/\qae (w6.alloc (oQ1 T.p ra1 T.rs.length rc1 oa1 T.os.length oc1 T.c)) wr.heap.size (stV T.p ra1 T.rs.length rc1 oa1 T.os.length oc1 T.c) T.p T.rs T.os T.c):=⟨BoxC.new w6 _ _ _ _ _,S6.2.trans ((zQ _ _).mono S6.2.size),S6.1.below (zQ _ _)⟩
     go_upto_region 11 with fail
     clear S6;generalize w6.alloc (oQ1 T.p ra1 T.rs.length rc1 oa1 T.os.length oc1 T.c)=w7 at *;generalize hN7:w6.heap.size=S7 at *;clear hN7 w6;cases rb with
     | false=>
      have hnr:¬ y.Rpl d:=fun h=>by
       have h1:=h k hlt;rw [HRB.out] at h1;cases h1
      have HV:Hid (R=false/\RS=y.nil):=⟨HC3.out hnr,HNO.out (HC3.out hnr)⟩
      have Q7:Hid (Below w1.heap.size w1 w7):=BZ.out.trans (N7.2.1.mono BZ.out.size);obtain ⟨hb7,⟨r0,r1,r2,r3⟩,rf,-⟩:=HX4.out w7 Q7.out;have B7:Hid (Below w.heap.size w w7):=hb7;clear hb7 hnr HC3 HC6 HNO HYES HX3 HX4 HR HK HVx AP BZ N7 RW HRB HTT HPs;go_wp2;exact bodyPost_ret (v:=.tuple #[sysV none 0 0 none 0 0 none 0 0 none 0 0,.bool false]) (by simp [results,Tryz.results51,go_sem,r0,r1,r2,r3]) rfl ⟨_,by rw [HV.1],by rw [HV.2];exact qak.zero _ _ _,(((B7.out.setCell hM _).setCell hM _).setCell hM _).setCell hM _⟩
     | true=>
      have HPs':Hid (∀ p,p<k+1->(repO (y.pH p) (y.pL p) (y.hH p) (d p)).isSome=true):=fun p hp=>by
       by_cases e:p=k
       ·subst e
        exact HRB.out
       ·exact HPs.out p (by omega)
      clear HPs HRB;go_upto_region 13 with fail
      obtain ⟨sa,sc,rfl⟩:=zU AP.out.o.s.row;obtain ⟨ha,hc,rfl⟩:=zU AP.out.o.h.row;obtain ⟨x0,x1,x2,x3⟩:=(AP.out.below N7.2.1).bx;obtain ⟨s0,s1,s2,s3⟩:=N7.1;have hk2:Hid (k<=2000000):=by show k<=2000000;omega
      have lN7:N<w7.heap.size:=zJ _ _ x0;have lS7:S7<w7.heap.size:=zJ _ _ s0;go_upto_region 14 with (at_builtin;refine qas kndS w7 rfl rfl _ _ rfl 0 (.slice sa k sc) k _ rfl (AP.out.o.s.below N7.2.1).row #[.int .i64 T.p,.slice ra1 T.rs.length rc1,.slice oa1 T.os.length oc1,.int .i64 T.c] rfl rfl (by intro u hu;simp at hu;rcases hu with rfl | rfl | rfl | rfl <;> rfl) hk2.out (Nat.zero_le _) ?_;intro v8 w8 o8 g8 q8 n8;obtain ⟨a8,c8,rfl⟩:=zU o8;obtain ⟨⟨z0,z1,z2,z3⟩,zf⟩:=AP.out.box N7.2.1 g8 (fun k hk=>(AP.out.gS k hk).2);have F8:Hid (AtP true w1.heap.size N (rcol cl wr.heap.size 2) { y.atY d with sn:=k+1,hn:=k } (w8.setCell ⟨N,1,none⟩ (.slice a8 (k+1) c8)) (.slice a5 y.pn c5) (.slice a8 (k+1) c8) (.slice a4 (y.atY d).wn c4) (.slice ha k hc) uu5 (fun j=>if j=k then stV T.p ra1 T.rs.length rc1 oa1 T.os.length oc1 T.c else us j) u4 uh/\Below w1.heap.size w1 (w8.setCell ⟨N,1,none⟩ (.slice a8 (k+1) c8))):=⟨AP.out.state N7.2.1 (by rw [HTT.out];exact N7.2.2) o8 g8 q8,(Below.grown (BZ.out.trans (N7.2.1.mono BZ.out.size)) g8 (zP BZ.out.size N7.2.1.size) (fun j hj=>(AP.out.gS j hj).1)).setCell AP.out.bN _⟩;clear o8 g8 q8 n8)
      clear x0 x1 x2 x3 s0 s1 s2 s3 z0 z1 z2 z3 zf lN7 lS7 N7 AP;generalize w8.setCell ⟨N,1,none⟩ (.slice a8 (k+1) c8)=w9 at *;clear w8;obtain ⟨x0,x1,x2,x3⟩:=F8.1.bx;have lN9:N<w9.heap.size:=F8.1.lt;have q0:Below w9.heap.size w9 w9.drew:=(Below.refl w9.heap.size w9).drew;obtain ⟨hbw,-⟩:=HX4.out w9.drew (F8.2.trans (q0.mono F8.2.size));refine qan (fun w'=>w'.cell? ⟨N,3,none⟩=some (.slice ha k hc)) (fun i=>i == 7) (by kernel_rfl) ?_;have hHeld:(fun w':World=>w'.cell? ⟨N,3,none⟩=some (.slice ha k hc)) w9.drew:=(q0.cell (p:=⟨N,3,none⟩) lN9).trans x3;refine qbi [0,1,2] ?_;iterate 3 (refine qb1 rfl hHeld ?_)
      refine qa9 ?_;refine qaa 3 rfl (by kernel_rfl) (fun K hK=>?_);refine qal rfl 89 _ _ rfl #[.slice (eA k) (d k) (eC k)] (by simp [Act.eval]) (yA Tryz.func89 (by kernel_rfl) rfl) (HK.out w9.drew hbw k hlt) ?_;rintro e w10 ⟨a10,c10,rfl,o10,n10,d10⟩;refine ⟨_,rfl,?_⟩;have Q10:Hid (Below w9.heap.size w9 w10/\w10.ownsRow w9.heap.size 78 3 (.slice a10 (d k) c10) (d k) (fE (y.hH k) (d k))/\Value.slice a10 (d k) c10≠.slice none 0 0):=⟨q0.trans (d10.mono q0.size),o10,n10⟩
      refine hK.out _ _ (fun _=>(Q10.1.cell (p:=⟨N,3,none⟩) lN9).trans x3) ?_;clear hHeld hK K o10 n10 d10 hbw q0
      (try simp only [Act.put,zD,zE,zF])
      refine qaa 4 rfl (by kernel_rfl) (fun K hK=>?_);go_simp;refine hK.out _ _ (fun _=>((Q10.1.trans ((zQ w10 _).mono Q10.1.size)).cell (p:=⟨N,3,none⟩) lN9).trans x3) ?_;clear hK K
      (try simp only [Act.put,zD,zE,zF])
      refine qaa 5 rfl (by kernel_rfl) (fun K hK=>?_);refine qa5 qla w10 rfl rfl _ _ rfl 0 (.slice ha k hc) k _ rfl (F8.1.o.h.below Q10.1).row #[.slice a10 (d k) c10] rfl rfl (by intro u hu;simp at hu;subst hu;rfl) hk2.out (Nat.zero_le _) ?_;intro v11 w11 o11 g11 q11 n11;obtain ⟨a11,c11,rfl⟩:=zU o11;obtain ⟨⟨z0,z1,z2,z3⟩,zf⟩:=F8.1.box Q10.1 g11 (fun k hk=>(F8.1.gH k hk).2);have F9:Hid (AtP true w1.heap.size N (rcol (rcol cl wr.heap.size 2) w9.heap.size 4) { y.atY d with sn:=k+1,hn:=k+1 } (w11.setCell ⟨N,3,none⟩ (.slice a11 (k+1) c11)) (.slice a5 y.pn c5) (.slice a8 (k+1) c8) (.slice a4 (y.atY d).wn c4) (.slice a11 (k+1) c11) uu5 (fun j=>if j=k then stV T.p ra1 T.rs.length rc1 oa1 T.os.length oc1 T.c else us j) u4 (fun j=>if j=k then .slice a10 (d k) c10 else uh j)/\Below w1.heap.size w1 (w11.setCell ⟨N,3,none⟩ (.slice a11 (k+1) c11))):=⟨F8.1.hist Q10.1 Q10.2.1 Q10.2.2 o11 g11 q11,(Below.grown (F8.2.trans (Q10.1.mono F8.2.size)) g11 (zP F8.2.size Q10.1.size) (fun j hj=>(F8.1.gH j hj).1)).setCell F8.1.bN _⟩
      refine hK.out _ _ (fun _=>z3) ?_;clear o11 g11 q11 n11 hK K
      (try simp only [Act.put,zD,zE,zF])
      have hHeld:(fun w':World=>w'.cell? ⟨N,3,none⟩=some (.slice ha k hc)) w11:=z3;refine qap 6 rfl hHeld ?_;refine qaa 7 rfl (by kernel_rfl) (fun K hK=>?_);have hfN1:=zf 3;go_simp;refine hK.out _ _ (fun h=>?_) ?_
      ·exact absurd h (by decide)
      clear hK K z0 z1 z2 z3 zf hfN1 x0 x1 x2 x3 Q10 F8 lN9
      (try simp only [Act.put])
      refine qau (by kernel_rfl) ?_ _;go_wp2;go_roundw
      case rel=>exact ⟨k+1,by omega,by go_num,⟨⟨_,_,_,_,_,F9.1⟩,F9.2⟩,HPs'.out⟩
      case measure=>simp [intOf];omega
    ·have hkn:k=y.pn:=by omega
     subst hkn;have hlt':¬ (y.pn:Int)<(y.pn:Int):=by omega
     have hr1:R=true:=HC6.out fun p hp=>HPs.out p hp;have HV:Hid (R=true/\RS=y.atY d):=⟨hr1,HYES.out hr1⟩
     obtain ⟨⟨cl,vs,vh,us,uh,hA⟩,hbz⟩:=HZ.out;obtain ⟨sa,sc,rfl⟩:=zU hA.o.s.row;obtain ⟨ha,hc,rfl⟩:=zU hA.o.h.row;obtain ⟨x0,x1,x2,x3⟩:=hA.bx;obtain ⟨hbw,⟨r0,r1,r2,r3⟩,rf,hle3⟩:=HX4.out wr hbz;have OS:Hid (qak true wr w1.heap.size (y.atY d) (.agg #[.slice a5 y.pn c5,.slice sa y.pn sc,.slice a4 (y.atY d).wn c4,.slice ha y.pn hc])):=⟨_,_,_,_,_,_,_,_,_,rfl,hA.o⟩
     have BW:Hid (Below w.heap.size w wr/\w.heap.size<=w1.heap.size):=⟨hbw,by have:=HL1.out;omega⟩
     have lN:N<wr.heap.size:=hA.lt;have hNr:w1.heap.size<=N:=hA.bN;have l1:=HL1.out;have hl1:w.heap.size<wr.heap.size:=by omega
     clear hA HZ hbw hbz HX3 HX4 hr1 HC3 HC6 HNO HYES HPs;go_wp2
     exact bodyPost_ret (v := .tuple #[.agg #[.slice a5 y.pn c5, .slice sa y.pn sc, .slice a4 (y.atY d).wn c4, .slice ha y.pn hc], .bool true]) (by simp [results, Tryz.results51, go_sem, r0, r1, r2, r3]) rfl ⟨_, by rw [HV.1], by
      rw [HV.2]
      exact ((((OS.out.setBelow l1 0 _).setBelow l1 1 _).setBelow l1 2 _).setBelow l1 3 _).base BW.2,(((BW.1.setCell hM _).setCell hM _).setCell hM _).setCell hM _⟩
theorem qvj {g:Nat->I5} {n:Nat} {eh:Nat->E3} {m k:Nat} {S:S4} (h:repO g n eh m=some S) (hk:k<=m):(repO g n eh k).isSome=true:=by
 obtain ⟨h1,h2,h3⟩:=qbg h;unfold repO;rw [if_pos ⟨h1,by omega⟩];cases h0:rp g n eh k with
 | none=>
  rw [qd0 h0 hk] at h3;cases h3
 | some T=>rfl
theorem qwc {y:Sy} {c:List Int} (h:cutB y c=true):atB y c=ctB y (cN c)/\atS y c=ctS y (cN c):=by
 obtain ⟨hO,hC⟩:=qcr h;have hR:qB (y.Rpl (cN c))=true:=qa6 fun p hp=>qvj (hO.rp p hp) (hC.leN hp)
 have h1:whB y c=qB (y.Wh (cN c)):=by
  unfold whB;rw [h];rfl
 have h2:atB y c=ctB y (cN c):=by
  unfold atB ctB;rw [h1,hR,Bool.and_true]
 refine ⟨h2,?_⟩;unfold atS ctS Sy.atW;rw [<- h2];unfold atB;cases whB y c <;> cases wfB (y.ah (cN c)) <;> rfl
theorem qpa (x:SysIn) (ca:Option Addr) (cc:Nat) (c:List Int) (w:World) (hG:SysG w x) (hL:x.Len) (hcap:∀ i,i<x.hn->x.hL i<=x.hC i) (hc:Sl w ca c) (hcl:c.length<=1048576) (hV:w.cell? ⟨0,0,none⟩=some (.iface 211 (.agg #[.pointer (some ⟨1,73,none⟩)]))):
  Calls Tryz.prog 25 #[x.v,.slice ca c.length cc] w fun e w'=>∃ v,e=.returned (.tuple #[v,.bool (atB x.y c)])/\qak true w' w.heap.size (atS x.y c) v/\Below w.heap.size w w':=by
 have HVx:Hid (∀ wx,Below w.heap.size w wx->wx.cell? ⟨0,0,none⟩=some (.iface 211 (.agg #[.pointer (some ⟨1,73,none⟩)]))):=fun wx hb=>(hb.cell (p:=⟨0,0,none⟩) (zJ w _ hV)).trans hV;have HS:Hid (∀ wx,Below w.heap.size w wx->Calls Tryz.prog 49 #[x.v,.slice ca c.length cc] wx fun e w'=>e=.returned (.bool (cutB x.y c))/\Below wx.heap.size wx w'):=fun wx hb=>qfb x ca cc c wx (hG.below hb) hL (hc.below hb) hcl (HVx.out wx hb);have BW:Hid (Below w.heap.size w ((w.alloc (oQ4 x.pa x.pn x.pc x.sa x.sn x.sc x.wa x.wn x.wc x.ha x.hn x.hc)).alloc (zQ4))):=(zQ _ _).trans ((zQ _ _).mono (by simp));have NB:Hid (BoxC ((w.alloc (oQ4 x.pa x.pn x.pc x.sa x.sn x.sc x.wa x.wn x.wc x.ha x.hn x.hc)).alloc (zQ4)) w.heap.size (.slice x.pa x.pn x.pc) (.slice x.sa x.sn x.sc) (.slice x.wa x.wn x.wc) (.slice x.ha x.hn x.hc)):=(BoxC.new w _ _ _ _ _).below (zQ _ _);have RB:Hid (BoxC ((w.alloc (oQ4 x.pa x.pn x.pc x.sa x.sn x.sc x.wa x.wn x.wc x.ha x.hn x.hc)).alloc (zQ4)) (w.heap.size+1) (.slice none 0 0) (.slice none 0 0) (.slice none 0 0) (.slice none 0 0)/\∀ j,((w.alloc (oQ4 x.pa x.pn x.pc x.sa x.sn x.sc x.wa x.wn x.wc x.ha x.hn x.hc)).alloc (zQ4)).frozen? ⟨w.heap.size+1,j,none⟩=false):=⟨⟨zW _ _ _ 0 (by simp),zW _ _ _ 1 (by simp),zW _ _ _ 2 (by simp),zW _ _ _ 3 (by simp)⟩,fun j=>yB _ _ _ _ (by simp)⟩
 have hM:w.heap.size<=w.heap.size+1:=Nat.le_succ _;have HG:Hid (SysG w x):=hG;have HL:Hid x.Len:=hL;have HQ:Hid ((∀ i,i<x.hn->x.hL i<=x.hC i)/\Sl w ca c):=⟨hcap,hc⟩
 clear hG hL hcap hc hV
 go_enter Tryz.func25,Tryz.ntmps25
 go_wp2_with fail
 generalize (w.alloc (oQ4 x.pa x.pn x.pc x.sa x.sn x.sc x.wa x.wn x.wc x.ha x.hn x.hc)).alloc (zQ4)=W2 at *;refine (HS.out W2 BW.out).mono ?_;rintro e w1 ⟨rfl,q1⟩;have B1:Hid (Below w.heap.size w w1/\BoxC w1 w.heap.size (.slice x.pa x.pn x.pc) (.slice x.sa x.sn x.sc) (.slice x.wa x.wn x.wc) (.slice x.ha x.hn x.hc)/\BoxC w1 (w.heap.size+1) (.slice none 0 0) (.slice none 0 0) (.slice none 0 0) (.slice none 0 0)/\∀ j,w1.frozen? ⟨w.heap.size+1,j,none⟩=false):=⟨BW.out.trans (q1.mono BW.out.size),NB.out.below q1,RB.1.below q1,fun j=>((qah q1).2 _ j (zJ _ _ RB.1.1)).trans (RB.2 j)⟩
 clear q1 BW NB RB HS;have l1:w.heap.size+1<w1.heap.size:=zJ _ _ B1.2.2.1.1;obtain ⟨b0,b1,b2,b3⟩:=B1.2.1
 rcases zK (cutB x.y c) with t | t
 case inr=>
  have HV:Hid (atB x.y c=false/\atS x.y c=x.y.nil):=⟨by show atB x.y c=false;unfold atB whB;rw [t];rfl,if_neg (by unfold whB;rw [t];simp)⟩
  obtain ⟨⟨r0,r1,r2,r3⟩,rf⟩:=B1.2.2;rw [t];clear t;go_wp2;exact bodyPost_ret (v:=.tuple #[sysV none 0 0 none 0 0 none 0 0 none 0 0,.bool false]) (by simp [results,Tryz.results25,go_sem,r0,r1,r2,r3]) rfl ⟨_,by rw [HV.1],by rw [HV.2];exact qak.zero _ _ _,(((B1.1.setCell hM _).setCell hM _).setCell hM _).setCell hM _⟩
 obtain ⟨hO,hC⟩:=qcr t;have hln:c.length=x.pn:=hC.len;have h4:x.pn<=4:=hO.cn.1.2;have hhn:x.hn=x.pn:=hO.cn.2.2.1;have HAT:Hid (atB x.y c=ctB x.y (cN c)/\atS x.y c=ctS x.y (cN c)):=qwc t
 have eah:x.y.at c=x.y.ah (cN c):=by
  unfold Sy.ah Sy.at;rw [hln];rfl
 have HH:Hid (∀ wx,Below w.heap.size w wx->Calls Tryz.prog 50 #[x.v,.slice ca c.length cc] wx fun e w'=>∃ ha hc,e=.returned (.agg (hcL ha c.length hc).toArray)/\RowS w' ha c.length (fun i=>.slice (x.hA i) (cN c i) (cN c i))/\Below wx.heap.size wx w'):=fun wx hb=>qfa x ca cc c wx (HG.out.below hb) HQ.1 hhn h4 hC (HQ.2.below hb)
 have HCT:Hid (∀ wx X ha hc,Below w.heap.size w wx->wx.cell? ⟨X,0,none⟩=some (.slice ha c.length hc)->RowS wx ha c.length (fun i=>.slice (x.hA i) (cN c i) (cN c i))->Calls Tryz.prog 51 #[.pointer (some ⟨X,0,none⟩),.slice x.pa x.pn x.pc] wx fun e w'=>∃ v,e=.returned (.tuple #[v,.bool (atB x.y c)])/\qak true w' wx.heap.size (atS x.y c) v/\Below wx.heap.size wx w'):=fun wx X ha hc' hb hcell hr=>by
  have hE:HisE wx ha x.hA (cN c) (x.y.at c):=qqs HG.out hb hC hhn hr;rw [eah] at hE;rw [hln] at hcell;have h:=qmn X hc' ha x.hA (cN c) x.y (cN c) x.pa x.pc x.pA x.pC wx hcell hE (fun i hi=>zP (hC.leN hi) (hO.hl200 hi)) h4 (HG.out.below hb).p (HG.out.below hb).pi HL.out.p.2 (HVx.out wx hb);rw [HAT.1,HAT.2];exact h
 rw [t];clear t hO hC hln h4 hhn eah HAT HVx HL HQ HG;generalize hAB:atB x.y c=aB at HCT;generalize hAS:atS x.y c=aS at HCT;have HAS:Hid (atB x.y c=aB/\atS x.y c=aS):=⟨hAB,hAS⟩
 clear hAB hAS;go_wp2_with fail
 refine (HH.out w1 B1.1).mono ?_;rintro e w2 ⟨ea,ec,rfl,r2,q2⟩;have B2:Hid (Below w1.heap.size w1 w2/\RowS w2 ea c.length (fun i=>.slice (x.hA i) (cN c i) (cN c i))):=⟨q2,r2⟩
 clear q2 r2 b0 b1 b2 b3 HH;have hl:=qmv ea c.length ec;have ho:=qmw ea c.length ec;generalize hcs:hcL ea c.length ec=cl at *;have hs:cl.toArray.size=21:=by simpa using hl
 have HI:Hid ((Tryz.prog.info? 88).map (·.size)=some cl.toArray.size):=by show _=_;rw [hs];exact qer
 have HOc:Hid (cl.toArray.all (·.oneCell')=true):=all_oneCell_toArray ho;have HT:Hid ((w2.alloc (zQ2)).there w2.heap.size 0 cl.toArray.size):=qbt _ _ _ _ _ (by rw [hs];rfl) rfl;have BE:Hid (Below w2.heap.size w2 ((w2.alloc (zQ2)).setCells w2.heap.size 0 cl)):=(qat.sets (P:=fun b=>b=w2.heap.size) rfl _ _ (qat.of_below (zT _ _))).below (Nat.le_refl _) fun b e=>by omega
 have HRr:((w2.alloc (zQ2)).setCells w2.heap.size 0 cl).rangeAt w2.heap.size 0 cl:=World.rangeAt_setCells_same _ _ _ _ (by simpa using HT.out);have HCe:Hid (((w2.alloc (zQ2)).setCells w2.heap.size 0 cl).cell? ⟨w2.heap.size,0,none⟩=some (.slice ea c.length ec)):=qn2 HRr hcs;clear hl ho hs HRr hcs;go_upto_region 4 with (refine wpList_store_mid rfl 88 (.tmp 6) (.tmp 14) rfl w2.heap.size 0 cl.toArray rfl rfl HT.out HI.out HOc.out ?_)
 clear HT HI HOc;generalize (w2.alloc (zQ2)).setCells w2.heap.size 0 cl=w3 at *;have B3:Hid (Below w1.heap.size w1 w3/\RowS w3 ea c.length (fun i=>.slice (x.hA i) (cN c i) (cN c i))):=⟨B2.1.trans (BE.out.mono B2.1.size),B2.2.below BE.out⟩
 clear BE B2;generalize w2.heap.size=X at *;clear w2;have W03:Hid (Below w.heap.size w w3):=B1.1.trans (B3.1.mono B1.1.size);obtain ⟨b0,b1,b2,b3⟩:=B1.2.1.below B3.1;go_wp2_with fail
 refine (HCT.out w3 X ea ec W03.out HCe.out B3.2).mono ?_;rintro e w4 ⟨v4,rfl,o4,q4⟩;obtain ⟨cl,vp,vs,vw,vh,up,us,uw,uh,rfl,o4⟩:=o4;obtain ⟨pa,pc,rfl⟩:=zU o4.p.row;obtain ⟨sa,sc,rfl⟩:=zU o4.s.row;obtain ⟨wa,wc,rfl⟩:=zU o4.t.row;obtain ⟨ha,hc,rfl⟩:=zU o4.h.row;have hl3:w.heap.size+1<w3.heap.size:=zL l1 B3.1.size;have B4:Hid (Below w.heap.size w w4/\qak true w4 w3.heap.size aS (.agg #[.slice pa aS.pn pc,.slice sa aS.sn sc,.slice wa aS.wn wc,.slice ha aS.hn hc])):=⟨W03.out.trans (q4.mono W03.out.size),_,_,_,_,_,_,_,_,_,rfl,o4⟩
 have q14:Below w1.heap.size w1 w4:=B3.1.trans (q4.mono B3.1.size);obtain ⟨r0,r1,r2,r3⟩:=B1.2.2.1.below q14;have rf:∀ j,w4.frozen? ⟨w.heap.size+1,j,none⟩=false:=fun j=>((qah q14).2 _ j l1).trans (B1.2.2.2 j);have HLE:Hid (w.heap.size<=w3.heap.size/\w.heap.size+1<w3.heap.size):=⟨by omega,hl3⟩
 clear o4 q4 q14 b0 b1 b2 b3 HCT HCe l1 hl3 B1 B3 W03;go_wp2;exact bodyPost_ret (v:=.tuple #[.agg #[.slice pa aS.pn pc,.slice sa aS.sn sc,.slice wa aS.wn wc,.slice ha aS.hn hc],.bool aB]) (by simp [results,Tryz.results25,go_sem,r0,r1,r2,r3]) rfl ⟨_,by rw [HAS.1],by rw [HAS.2];exact ((((B4.2.setBelow HLE.2 0 _).setBelow HLE.2 1 _).setBelow HLE.2 2 _).setBelow HLE.2 3 _).base HLE.1,(((B4.1.setCell hM _).setCell hM _).setCell hM _).setCell hM _⟩
theorem qk5 {zb:Bool} (x:SysIn) (p k:Int) (w:World) (hG:SysG w x) (hL:x.Len) (hcap:∀ i,i<x.hn->x.hL i<=x.hC i) (hN:x.Nn zb) (hV:w.cell? ⟨0,0,none⟩=some (.iface 211 (.agg #[.pointer (some ⟨1,73,none⟩)]))):
  Calls Tryz.prog 12 #[x.v,.int .i64 p,.int .i64 k] w fun e w'=>∃ v,e=.returned (.tuple #[v,.int .i64 (bkC x.y p k)])/\qak zb w' w.heap.size (bkY x.y p k) v/\Below w.heap.size w w':=by
 have HVx:Hid (∀ wx,Below w.heap.size w wx->wx.cell? ⟨0,0,none⟩=some (.iface 211 (.agg #[.pointer (some ⟨1,73,none⟩)]))):=fun wx hb=>(hb.cell (p:=⟨0,0,none⟩) (zJ w _ hV)).trans hV;have HG:Hid (SysG w x):=hG;have HLn:Hid (x.hn<=1048576/\x.pn<=1048576/\∀ i,i<x.hn->x.hL i<=1048576):=⟨hL.h.1,hL.p.1,hL.h.2⟩
 have HS:Hid (∀ wx,Below w.heap.size w wx->Calls Tryz.prog 21 #[x.v] wx fun e w'=>e=.returned (.bool x.y.okB)/\Below wx.heap.size wx w'):=fun wx hb=>qco x wx (hG.below hb) hL (HVx.out wx hb);have HC4:Hid (∀ wx,Below w.heap.size w wx->Calls Tryz.prog 23 #[x.v] wx fun e w'=>∃ v,e=.returned v/\qak zb w' wx.heap.size x.y v/\Below wx.heap.size wx w'):=fun wx hb=>qmo x wx (hG.below hb) hL hN
 have HFu:Hid (x.y.okB=true->∀ wx,Below w.heap.size w wx->Calls Tryz.prog 24 #[x.v] wx fun e w'=>∃ u,e=.returned u/\OwnI w' wx.heap.size u (flT x.y x.hn)/\Below wx.heap.size wx w'):=fun t wx hb=>by
  have h:=qk6 x wx (hG.below hb) hL (HVx.out wx hb);have e:flS x.y=flT x.y x.hn:=if_pos t;rw [e] at h;exact h
 have HCl:Hid (cutB x.y (bkL x.y p.toNat k)=true->∀ wx ca cc,Below w.heap.size w wx->Sl wx ca (bkL x.y p.toNat k)->Calls Tryz.prog 26 #[x.v,.slice ca (bkL x.y p.toNat k).length cc] wx fun e w'=>∃ u,e=.returned u/\OwnI w' wx.heap.size u (bkE x.y p k)/\Below wx.heap.size wx w'):=fun _ wx ca cc hb hs=>qi6 x ca cc _ wx (hG.below hb) hL hcap hs (by unfold bkL;rw [List.length_set,qdq];exact hL.h.1) (HVx.out wx hb)
 have HAt:Hid (x.y.okB=true->bkIn x.y p k=true->∀ wx ca cc,Below w.heap.size w wx->Sl wx ca (bkE x.y p k)->Calls Tryz.prog 25 #[x.v,.slice ca (bkE x.y p k).length cc] wx fun e w'=>∃ v,e=.returned (.tuple #[v,.bool (wfB (x.y.ah (cN (bkE x.y p k))))])/\qak zb w' wx.heap.size (x.y.atW (cN (bkE x.y p k))) v/\Below wx.heap.size wx w'):=fun t hb2 wx ca cc hb hs=>by
  have hc:=qiv (Sy.ok_of t) hb2;have h:=qpa x ca cc (bkE x.y p k) wx (hG.below hb) hL hcap hs (by show (clS x.y (bkL x.y p.toNat k)).length<=1048576;rw [(qmm hc).len];exact hL.p.1) (HVx.out wx hb)
  have e1:atB x.y (bkE x.y p k)=wfB (x.y.ah (cN (bkE x.y p k))):=by
   unfold atB;rw [show whB x.y (bkE x.y p k)=true from qt9 hc];rfl
  have e2:atS x.y (bkE x.y p k)=x.y.atW (cN (bkE x.y p k)):=if_pos (qt9 hc);rw [e1,e2] at h
  exact h.mono fun e w' hh=>by
   obtain ⟨v,e3,o,b⟩:=hh;exact ⟨v,e3,o.toz,b⟩
 have BW:Hid (Below w.heap.size w ((w.alloc (oQ4 x.pa x.pn x.pc x.sa x.sn x.sc x.wa x.wn x.wc x.ha x.hn x.hc)).alloc (zQ4))):=(zQ _ _).trans ((zQ _ _).mono (by simp));have NB:Hid (BoxC ((w.alloc (oQ4 x.pa x.pn x.pc x.sa x.sn x.sc x.wa x.wn x.wc x.ha x.hn x.hc)).alloc (zQ4)) w.heap.size (.slice x.pa x.pn x.pc) (.slice x.sa x.sn x.sc) (.slice x.wa x.wn x.wc) (.slice x.ha x.hn x.hc)):=(BoxC.new w _ _ _ _ _).below (zQ _ _);have RB:Hid (BoxC ((w.alloc (oQ4 x.pa x.pn x.pc x.sa x.sn x.sc x.wa x.wn x.wc x.ha x.hn x.hc)).alloc (zQ4)) (w.heap.size+1) (.slice none 0 0) (.slice none 0 0) (.slice none 0 0) (.slice none 0 0)/\∀ j,((w.alloc (oQ4 x.pa x.pn x.pc x.sa x.sn x.sc x.wa x.wn x.wc x.ha x.hn x.hc)).alloc (zQ4)).frozen? ⟨w.heap.size+1,j,none⟩=false):=⟨⟨zW _ _ _ 0 (by simp),zW _ _ _ 1 (by simp),zW _ _ _ 2 (by simp),zW _ _ _ 3 (by simp)⟩,fun j=>yB _ _ _ _ (by simp)⟩
 have hM:w.heap.size<=w.heap.size+1:=Nat.le_succ _;clear hG hL hcap hN hV
 go_enter Tryz.func12,Tryz.ntmps12
 go_wp2_with fail
 generalize (w.alloc (oQ4 x.pa x.pn x.pc x.sa x.sn x.sc x.wa x.wn x.wc x.ha x.hn x.hc)).alloc (zQ4)=W2 at *;refine (HS.out W2 BW.out).mono ?_;rintro e w1 ⟨rfl,q1⟩;have B1:Hid (Below w.heap.size w w1/\BoxC w1 w.heap.size (.slice x.pa x.pn x.pc) (.slice x.sa x.sn x.sc) (.slice x.wa x.wn x.wc) (.slice x.ha x.hn x.hc)/\BoxC w1 (w.heap.size+1) (.slice none 0 0) (.slice none 0 0) (.slice none 0 0) (.slice none 0 0)/\∀ j,w1.frozen? ⟨w.heap.size+1,j,none⟩=false):=⟨BW.out.trans (q1.mono BW.out.size),NB.out.below q1,RB.1.below q1,fun j=>((qah q1).2 _ j (zJ _ _ RB.1.1)).trans (RB.2 j)⟩
 clear q1 BW NB RB HS;have LR:Hid (w.heap.size+1<w1.heap.size):=zJ _ _ B1.2.2.1.1;have HRB:Hid (∀ wx,Below w1.heap.size w1 wx->BoxC wx w.heap.size (.slice x.pa x.pn x.pc) (.slice x.sa x.sn x.sc) (.slice x.wa x.wn x.wc) (.slice x.ha x.hn x.hc)/\BoxC wx (w.heap.size+1) (.slice none 0 0) (.slice none 0 0) (.slice none 0 0) (.slice none 0 0)/\(∀ j,wx.frozen? ⟨w.heap.size+1,j,none⟩=false)/\w.heap.size+1<wx.heap.size):=fun wx hb=>⟨B1.2.1.below hb,B1.2.2.1.below hb,fun j=>((qah hb).2 _ j LR.out).trans (B1.2.2.2 j),zL LR.out hb.size⟩
 obtain ⟨b0,b1,b2,b3⟩:=B1.2.1
 rcases zK x.y.okB with t | t
 case inr=>
  have HV:Hid (bkC x.y p k=1/\bkY x.y p k=x.y.nil):=⟨if_neg (by rw [t];simp),if_neg (by rw [t];simp)⟩
  obtain ⟨⟨r0,r1,r2,r3⟩,rf⟩:=B1.2.2;have l1:=LR.out;rw [t];clear t;go_wp2;exact bodyPost_ret (v:=.tuple #[sysV none 0 0 none 0 0 none 0 0 none 0 0,.int .i64 1]) (by simp [results,Tryz.results12,go_sem,r0,r1,r2,r3]) rfl ⟨_,by rw [HV.1],by rw [HV.2];exact qak.zero _ _ _,(((B1.1.setCell hM _).setCell hM _).setCell hM _).setCell hM _⟩
 have HO:Hid (x.y.Ok/\x.y.okB=true):=⟨Sy.ok_of t,t⟩
 have HNP:Hid (x.hn=x.pn/\x.pn<=4/\1<=x.pn):=⟨HO.1.cn.2.2.1,HO.1.cn.1.2,HO.1.cn.1.1⟩
 have h4:(x.pn:Int)<=4:=by have:=HNP.out;omega
 have h4h:(x.hn:Int)<=4:=by have:=HNP.out;omega
 rw [t];clear t;have l1:=LR.out;by_cases hb:belB p x.pn=true
 case neg=>
  have hbf:belB p x.pn=false:=by
   cases h:belB p x.pn with
   | false=>rfl
   | true=>exact absurd h hb
  have HV:Hid (bkC x.y p k=2/\bkY x.y p k=x.y):=by
   have hi:bkIn x.y p k=false:=by
    unfold bkIn;rw [show belB p x.y.pn=false from hbf];rfl
   exact ⟨by show bkC x.y p k=2;rw [bkC,if_pos HO.2,if_neg (by rw [hi];simp)],by rw [bkY,if_pos HO.2,if_neg (by rw [hi];simp)]⟩
  have HBB:Hid (belB p x.hn=false):=by
   show belB p x.hn=false;rw [HNP.1];exact hbf
  clear hb hbf;go_wp2_with fail
  refine (isBelow_any _ _ _).mono ?_;rintro e w' ⟨rfl,hw⟩;have hw2:=hw.symm;subst hw2;clear hw;rw [show belB p x.hn=false from HBB.out];go_wp2_with fail
  refine (HC4.out w1 B1.1).mono ?_;rintro e w3 ⟨v3,rfl,o3,q3⟩;obtain ⟨cq,vp,vs,vw,vh,up,us,uw,uh,rfl,o3⟩:=o3;obtain ⟨pa,pc,rfl⟩:=zU o3.p.row;obtain ⟨sa,sc,rfl⟩:=zU o3.s.row;obtain ⟨wa,wc,rfl⟩:=zU o3.t.row;obtain ⟨ha,hc,rfl⟩:=zU o3.h.row;have F3:Hid (qak zb w3 w1.heap.size x.y (.agg #[.slice pa x.y.pn pc,.slice sa x.y.sn sc,.slice wa x.y.wn wc,.slice ha x.y.hn hc])/\Below w1.heap.size w1 w3):=⟨⟨_,_,_,_,_,_,_,_,_,rfl,o3⟩,q3⟩
  obtain ⟨-,⟨r0,r1,r2,r3⟩,rf,l1⟩:=HRB.out w3 ((Below.refl w1.heap.size w1).trans (q3.mono (Below.refl w1.heap.size w1).size));clear o3 q3;go_wp2
  exact bodyPost_ret (v := .tuple #[.agg #[.slice pa x.y.pn pc, .slice sa x.y.sn sc, .slice wa x.y.wn wc, .slice ha x.y.hn hc], .int .i64 2]) (by simp [results, Tryz.results12, go_sem, r0, r1, r2, r3]) rfl ⟨_, by rw [HV.1], by
   rw [HV.2]
   exact ((((F3.1.setBelow LR.out 0 _).setBelow LR.out 1 _).setBelow LR.out 2 _).setBelow LR.out 3 _).base B1.1.size,(((((B1.1).trans (F3.2.mono B1.1.size)).setCell hM _).setCell hM _).setCell hM _).setCell hM _⟩
 obtain ⟨P,rfl,hP⟩:∃ P:Nat,p=P/\P<x.pn:=by
  simp only [belB,decide_eq_true_eq] at hb;exact ⟨p.toNat,by omega,by omega⟩
 have HBB:Hid (belB (P:Int) x.hn=true):=by
  show belB (P:Int) x.hn=true;rw [HNP.1];exact hb
 clear hb;have hPh:P<x.hn:=by have:=HNP.out;omega
 have hPh':(P:Int)<(x.hn:Int):=by omega
 have nPh:¬ (x.hn:Int)<=(P:Int):=by omega
 obtain ⟨bh,oh,eh,ch⟩:=(HG.out.below B1.1).h.at hPh;rw [eh] at b3;have HEH:Hid (x.ha=some ⟨bh,oh,none⟩):=eh;clear eh;have hlm:x.hL P<=200:=HO.1.hl200 hP;have hlm':(x.hL P:Int)<=200:=by omega
 have HLP:Hid (x.y.hL P=x.hL P):=rfl;by_cases hk:0<=k/\k<=(x.hL P:Int)
 case neg=>
  have HV:Hid (bkC x.y (P:Int) k=2/\bkY x.y (P:Int) k=x.y):=by
   have hi:bkIn x.y (P:Int) k=false:=by
    simp only [bkIn,inB,Int.toNat_natCast,Bool.and_eq_false_iff,decide_eq_false_iff_not];exact .inr hk
   exact ⟨by show bkC x.y (P:Int) k=2;rw [bkC,if_pos HO.2,if_neg (by rw [hi];simp)],by rw [bkY,if_pos HO.2,if_neg (by rw [hi];simp)]⟩
  by_cases h0:k<0
  case pos=>
   have n0:¬ 0<=k:=by omega
   clear hk;go_wp2_with fail
   refine (isBelow_any _ _ _).mono ?_;rintro e w' ⟨rfl,hw⟩;have hw2:=hw.symm;subst hw2;clear hw;rw [show belB (P:Int) x.hn=true from HBB.out];go_upto_region 4 with fail
   clear b0 b1 b2 b3 ch;obtain ⟨b0,b1,b2,b3⟩:=B1.2.1;go_wp2_with fail
   refine (HC4.out w1 B1.1).mono ?_;rintro e w3 ⟨v3,rfl,o3,q3⟩;obtain ⟨cq,vp,vs,vw,vh,up,us,uw,uh,rfl,o3⟩:=o3;obtain ⟨pa,pc,rfl⟩:=zU o3.p.row;obtain ⟨sa,sc,rfl⟩:=zU o3.s.row;obtain ⟨wa,wc,rfl⟩:=zU o3.t.row;obtain ⟨ha,hc,rfl⟩:=zU o3.h.row;have F3:Hid (qak zb w3 w1.heap.size x.y (.agg #[.slice pa x.y.pn pc,.slice sa x.y.sn sc,.slice wa x.y.wn wc,.slice ha x.y.hn hc])/\Below w1.heap.size w1 w3):=⟨⟨_,_,_,_,_,_,_,_,_,rfl,o3⟩,q3⟩
   obtain ⟨-,⟨r0,r1,r2,r3⟩,rf,l1⟩:=HRB.out w3 ((Below.refl w1.heap.size w1).trans (q3.mono (Below.refl w1.heap.size w1).size));clear o3 q3;go_wp2
   exact bodyPost_ret (v := .tuple #[.agg #[.slice pa x.y.pn pc, .slice sa x.y.sn sc, .slice wa x.y.wn wc, .slice ha x.y.hn hc], .int .i64 2]) (by simp [results, Tryz.results12, go_sem, r0, r1, r2, r3]) rfl ⟨_, by rw [HV.1], by
    rw [HV.2]
    exact ((((F3.1.setBelow LR.out 0 _).setBelow LR.out 1 _).setBelow LR.out 2 _).setBelow LR.out 3 _).base B1.1.size,(((((B1.1).trans (F3.2.mono B1.1.size)).setCell hM _).setCell hM _).setCell hM _).setCell hM _⟩
  have n0:0<=k:=by omega
  have h1:(x.hL P:Int)<k:=by omega
  have n1:¬ k<=(x.hL P:Int):=by omega
  clear hk;go_wp2_with fail
  refine (isBelow_any _ _ _).mono ?_;rintro e w' ⟨rfl,hw⟩;have hw2:=hw.symm;subst hw2;clear hw;rw [show belB (P:Int) x.hn=true from HBB.out];go_upto_region 4 with fail
  clear b0 b1 b2 b3 ch;obtain ⟨b0,b1,b2,b3⟩:=B1.2.1;go_wp2_with fail
  refine (HC4.out w1 B1.1).mono ?_;rintro e w3 ⟨v3,rfl,o3,q3⟩;obtain ⟨cq,vp,vs,vw,vh,up,us,uw,uh,rfl,o3⟩:=o3;obtain ⟨pa,pc,rfl⟩:=zU o3.p.row;obtain ⟨sa,sc,rfl⟩:=zU o3.s.row;obtain ⟨wa,wc,rfl⟩:=zU o3.t.row;obtain ⟨ha,hc,rfl⟩:=zU o3.h.row;have F3:Hid (qak zb w3 w1.heap.size x.y (.agg #[.slice pa x.y.pn pc,.slice sa x.y.sn sc,.slice wa x.y.wn wc,.slice ha x.y.hn hc])/\Below w1.heap.size w1 w3):=⟨⟨_,_,_,_,_,_,_,_,_,rfl,o3⟩,q3⟩
  obtain ⟨-,⟨r0,r1,r2,r3⟩,rf,l1⟩:=HRB.out w3 ((Below.refl w1.heap.size w1).trans (q3.mono (Below.refl w1.heap.size w1).size));clear o3 q3;go_wp2
  exact bodyPost_ret (v := .tuple #[.agg #[.slice pa x.y.pn pc, .slice sa x.y.sn sc, .slice wa x.y.wn wc, .slice ha x.y.hn hc], .int .i64 2]) (by simp [results, Tryz.results12, go_sem, r0, r1, r2, r3]) rfl ⟨_, by rw [HV.1], by
   rw [HV.2]
   exact ((((F3.1.setBelow LR.out 0 _).setBelow LR.out 1 _).setBelow LR.out 2 _).setBelow LR.out 3 _).base B1.1.size,(((((B1.1).trans (F3.2.mono B1.1.size)).setCell hM _).setCell hM _).setCell hM _).setCell hM _⟩
 have hk0:¬ k<0:=by omega
 have hk0':0<=k:=hk.1;have hk1:¬ (x.hL P:Int)<k:=by omega
 have hk1':k<=(x.hL P:Int):=hk.2
 have HIN:Hid (bkIn x.y (P:Int) k=true):=by
  show bkIn x.y (P:Int) k=true;simp only [bkIn,inB,belB,Int.toNat_natCast,Bool.and_eq_true,decide_eq_true_eq];exact ⟨by have:x.y.pn=x.pn:=rfl;omega,hk⟩
 have HBC:Hid (bkC x.y (P:Int) k=(if wfB (x.y.ah (cN (bkE x.y (P:Int) k)))=true then 0 else 3)/\bkY x.y (P:Int) k=(if wfB (x.y.ah (cN (bkE x.y (P:Int) k)))=true then x.y.atY (cN (bkE x.y (P:Int) k)) else x.y)):=⟨by show bkC x.y (P:Int) k=_;rw [bkC,if_pos HO.2,if_pos HIN.out],by rw [bkY,if_pos HO.2,if_pos HIN.out]⟩
 have HYW:Hid (x.y.atW (cN (bkE x.y (P:Int) k))=(if wfB (x.y.ah (cN (bkE x.y (P:Int) k)))=true then x.y.atY (cN (bkE x.y (P:Int) k)) else x.y.nil)):=rfl;have HF2:Hid (∀ wx,Below w.heap.size w wx->Calls Tryz.prog 24 #[x.v] wx fun e w'=>∃ u,e=.returned u/\OwnI w' wx.heap.size u (flT x.y x.hn)/\Below wx.heap.size wx w'):=HFu.out HO.2
 have HC2:Hid (∀ wx ca cc,Below w.heap.size w wx->Sl wx ca (bkL x.y P k)->Calls Tryz.prog 26 #[x.v,.slice ca x.hn cc] wx fun e w'=>∃ u,e=.returned u/\OwnI w' wx.heap.size u (bkE x.y (P:Int) k)/\Below wx.heap.size wx w'):=fun wx ca cc hb hs=>by
  have h:=HCl.out (qiv HO.1 HIN.out) wx ca cc hb (by rw [Int.toNat_natCast];exact hs);rw [show (bkL x.y ((P:Int)).toNat k).length=x.hn by unfold bkL;rw [List.length_set,qdq];rfl] at h;exact h
 have HA2:Hid (∀ wx ca cc,Below w.heap.size w wx->Sl wx ca (bkE x.y (P:Int) k)->Calls Tryz.prog 25 #[x.v,.slice ca (bkE x.y (P:Int) k).length cc] wx fun e w'=>∃ v,e=.returned (.tuple #[v,.bool (wfB (x.y.ah (cN (bkE x.y (P:Int) k))))])/\qak zb w' wx.heap.size (x.y.atW (cN (bkE x.y (P:Int) k))) v/\Below wx.heap.size wx w'):=HAt.out HO.2 HIN.out;have HFL:Hid ((flT x.y x.hn).set P k=bkL x.y P k/\(flT x.y x.hn).length=x.hn):=⟨rfl,qdq _ _⟩
 clear hk HFu HCl HAt HIN;generalize x.y.atW (cN (bkE x.y (P:Int) k))=YW at *;generalize wfB (x.y.ah (cN (bkE x.y (P:Int) k)))=wf at *;generalize x.y.atY (cN (bkE x.y (P:Int) k))=YA at *;generalize bkE x.y (P:Int) k=E at *;generalize bkL x.y P k=Lb at *;generalize flT x.y x.hn=fl at *;go_wp2_with fail
 refine (isBelow_any _ _ _).mono ?_;rintro e w' ⟨rfl,hw⟩;have hw2:=hw.symm;subst hw2;clear hw;rw [show belB (P:Int) x.hn=true from HBB.out];go_upto_region 5 with fail
 clear b0 b1 b2 b3 ch;obtain ⟨b0,b1,b2,b3⟩:=B1.2.1;go_wp2_with fail
 refine (HF2.out w1 B1.1).mono ?_;rintro e w4 ⟨v4,rfl,o4,q4⟩;obtain ⟨gf,fc,rfl,hgf,hgl⟩:=o4.block (by have:=HFL.2;omega);rw [HFL.2] at o4 ⊢;have O4:Hid (OwnI w4 w1.heap.size (.slice (some ⟨gf,0,none⟩) x.hn fc) fl/\Below w1.heap.size w1 w4):=⟨o4,q4⟩
 have cg:w4.cell? ⟨gf,P,none⟩=some (.int .i64 (zi fl P)):=by
  have o5:OwnI w4 w1.heap.size (.slice (some ⟨gf,0,none⟩) fl.length fc) fl:=by rw [HFL.2];exact o4
  exact o5.cell (by rw [HFL.2];exact hPh)
 have cf:w4.frozen? ⟨gf,P,none⟩=false:=by
  have o5:OwnI w4 w1.heap.size (.slice (some ⟨gf,0,none⟩) fl.length fc) fl:=by rw [HFL.2];exact o4
  exact o5.frozen P
 have F4:Hid (Sl (w4.setCell ⟨gf,P,none⟩ (.int .i64 k)) (some ⟨gf,0,none⟩) Lb/\Below w1.heap.size w1 (w4.setCell ⟨gf,P,none⟩ (.int .i64 k))):=by
  have h:=(o4.set (n:=x.hn) HFL.2.symm P k)
  refine ⟨?_,q4.setCell hgf _⟩;have hs:=h.1;rw [HFL.1] at hs;have hl:Lb.length=x.hn:=by rw [<- HFL.1,List.length_set,HFL.2]
  rw [<- hl] at hs;exact hs.slOf
 clear o4 q4;go_upto_region 7 with fail
 clear cg cf hgf O4 HFL;generalize w4.setCell ⟨gf,P,none⟩ (.int .i64 k)=w5 at *;clear hgl w4;obtain ⟨⟨b0,b1,b2,b3⟩,-,-,-⟩:=HRB.out w5 F4.2
 go_cut [9,10] from 43 to 50 (fun s t wx=>∃ N:Nat,s=.pointer (some ⟨N,0,none⟩)/\t=.bool wf/\Hid (∃ pa pc sa sc wa wc ha hc,qak zb wx w1.heap.size YW (.agg #[.slice pa YW.pn pc,.slice sa YW.sn sc,.slice wa YW.wn wc,.slice ha YW.hn hc])/\Below w1.heap.size w1 wx/\BoxC wx N (.slice pa YW.pn pc) (.slice sa YW.sn sc) (.slice wa YW.wn wc) (.slice ha YW.hn hc)))
 case first=>
  have q0:Below w5.heap.size w5 w5.drew:=(Below.refl w5.heap.size w5).drew;refine qan (fun w'=>BoxC w' w.heap.size (.slice x.pa x.pn x.pc) (.slice x.sa x.sn x.sc) (.slice x.wa x.wn x.wc) (.slice x.ha x.hn x.hc)) (fun _=>false) (by kernel_rfl) ?_;have hB5:∀ wx,Below w5.heap.size w5 wx->BoxC wx w.heap.size (.slice x.pa x.pn x.pc) (.slice x.sa x.sn x.sc) (.slice x.wa x.wn x.wc) (.slice x.ha x.hn x.hc):=fun wx hb=>BoxC.below (w:=w5) ⟨b0,b1,b2,b3⟩ hb;have hHeld:(fun w':World=>BoxC w' w.heap.size (.slice x.pa x.pn x.pc) (.slice x.sa x.sn x.sc) (.slice x.wa x.wn x.wc) (.slice x.ha x.hn x.hc)) w5.drew:=hB5 _ q0;have hBW:∀ wx,Below w5.heap.size w5 wx->Below w.heap.size w wx:=fun wx hb=>(B1.1.trans (F4.2.mono B1.1.size)).trans (hb.mono (B1.1.trans (F4.2.mono B1.1.size)).size);refine qbi [0,1,2] ?_;iterate 3 (refine qb1 rfl hHeld ?_)
  refine qa9 ?_;have sz:w1.heap.size<=w5.heap.size:=F4.2.size;have lb:w.heap.size+1<w5.heap.size:=zL l1 sz;refine qf9 3 8 rfl rfl (by kernel_rfl) (fun K hK=>?_) (fun K hK=>?_)
  ·have q0':=q0
   refine qal rfl 26 _ _ rfl #[x.v,.slice (some ⟨gf,0,none⟩) x.hn fc] (by simp [Act.eval,SysIn.v,sysV]) (yA Tryz.func26 (by kernel_rfl) rfl) (HC2.out w5.drew _ fc (hBW _ q0') (F4.1.below q0')) ?_;rintro e w6 ⟨u6,rfl,o6,d6⟩;obtain ⟨e6,c6,rfl,s6⟩:=o6.form;refine ⟨_,rfl,?_⟩;have q6:Below w5.heap.size w5 w6:=q0'.trans (d6.mono q0'.size);refine hK.out _ _ (fun _=>hB5 _ q6) ?_;clear hK K
   (try simp only [Act.put,zD,zE,zF])
   refine qf9 4 8 rfl rfl (by kernel_rfl) (fun K hK=>?_) (fun K hK=>?_)
   ·have s6':=s6
    refine qal rfl 25 _ _ rfl #[x.v,.slice e6 E.length c6] (by simp [Act.eval,SysIn.v,sysV]) (yA Tryz.func25 (by kernel_rfl) rfl) (HA2.out w6 _ c6 (hBW _ q6) s6') ?_;rintro e w7 ⟨v7,rfl,o7,d7⟩;obtain ⟨cq,vp,vs,vw,vh,up,us,uw,uh,rfl,o7⟩:=o7;obtain ⟨pa,pc,rfl⟩:=zU o7.p.row;obtain ⟨sa,sc,rfl⟩:=zU o7.s.row;obtain ⟨wa,wc,rfl⟩:=zU o7.t.row;obtain ⟨ha,hc,rfl⟩:=zU o7.h.row;have O7:qak zb w7 (w6).heap.size YW (.agg #[.slice pa YW.pn pc,.slice sa YW.sn sc,.slice wa YW.wn wc,.slice ha YW.hn hc]):=⟨_,_,_,_,_,_,_,_,_,rfl,o7⟩
    refine ⟨_,rfl,?_⟩;have q7:Below w5.heap.size w5 w7:=q6.trans (d7.mono q6.size);refine hK.out _ _ (fun _=>hB5 _ q7) ?_;clear hK K o7;have hHeld:(fun w':World=>BoxC w' w.heap.size (.slice x.pa x.pn x.pc) (.slice x.sa x.sn x.sc) (.slice x.wa x.wn x.wc) (.slice x.ha x.hn x.hc)) w7:=hB5 _ q7
    (try simp only [Act.put,zD,zE,zF])
    refine qbi [5,6,7] ?_;iterate 3 (refine qb1 rfl hHeld ?_)
    refine qa9 ?_;refine qaa 8 rfl (by kernel_rfl) (fun K hK=>?_);go_simp;have qa:=q7.trans ((zQ w7 (zQ4)).mono q7.size);refine hK.out _ _ (fun _=>hB5 _ qa) ?_;clear hK K hHeld
    (try simp only [Act.put,zD,zE,zF])
    refine qaa 9 rfl (by kernel_rfl) (fun K hK=>?_);go_simp;have qb:=q7.trans ((zQ w7 (oQ4 pa YW.pn pc sa YW.sn sc wa YW.wn wc ha YW.hn hc)).mono q7.size);refine hK.out _ _ (fun _=>hB5 _ qb) ?_;clear hK K;have hHeld:(fun w':World=>BoxC w' w.heap.size (.slice x.pa x.pn x.pc) (.slice x.sa x.sn x.sc) (.slice x.wa x.wn x.wc) (.slice x.ha x.hn x.hc)) (w7.alloc (oQ4 pa YW.pn pc sa YW.sn sc wa YW.wn wc ha YW.hn hc)):=hB5 _ qb
    (try simp only [Act.put,zD,zE,zF])
    refine qap 10 rfl hHeld ?_;refine qau (by kernel_rfl) ?_ _;go_wp2_with fail
    go_meet
    case rel=>exact ⟨w7.heap.size,by with_reducible rfl,by with_reducible rfl,_,_,_,_,_,_,_,_,(O7.below (zQ _ _)).base (zP sz q6.size),F4.2.trans (qb.mono sz),BoxC.new w7 _ _ _ _ _⟩
   ·go_simp
    have qa:=q6.trans ((zQ w6 (zQ4)).mono q6.size);have sA:Sl (w6.alloc (zQ4)) e6 E:=s6.below (zQ _ _);have bN:BoxC (w6.alloc (zQ4)) w6.heap.size (.slice none 0 0) (.slice none 0 0) (.slice none 0 0) (.slice none 0 0):=BoxC.new w6 _ _ _ _ _;have fN:∀ j,(w6.alloc (zQ4)).frozen? ⟨w6.heap.size,j,none⟩=false:=fun j=>yB _ _ _ _ rfl;have zN:w6.heap.size<(w6.alloc (zQ4)).heap.size:=by simp
    have sN6:w5.heap.size<=w6.heap.size:=q6.size;refine hK.out _ _ (fun _=>hB5 _ qa) ?_;clear hK K
    (try simp only [Act.put,zD,zE,zF])
    refine qaa 4 rfl (by kernel_rfl) (fun K hK=>?_);generalize w6.heap.size=N at *;generalize w6.alloc (zQ4)=wA at *;refine qal rfl 25 _ _ rfl #[x.v,.slice e6 E.length c6] (by simp [Act.eval,SysIn.v,sysV]) (yA Tryz.func25 (by kernel_rfl) rfl) (HA2.out wA _ c6 (hBW _ qa) sA) ?_;rintro e w7 ⟨v7,rfl,o7,d7⟩;obtain ⟨cq,vp,vs,vw,vh,up,us,uw,uh,rfl,o7⟩:=o7;obtain ⟨pa,pc,rfl⟩:=zU o7.p.row;obtain ⟨sa,sc,rfl⟩:=zU o7.s.row;obtain ⟨wa,wc,rfl⟩:=zU o7.t.row;obtain ⟨ha,hc,rfl⟩:=zU o7.h.row;have O7:qak zb w7 (wA).heap.size YW (.agg #[.slice pa YW.pn pc,.slice sa YW.sn sc,.slice wa YW.wn wc,.slice ha YW.hn hc]):=⟨_,_,_,_,_,_,_,_,_,rfl,o7⟩
    refine ⟨_,rfl,?_⟩;have q7:Below w5.heap.size w5 w7:=qa.trans (d7.mono qa.size);refine hK.out _ _ (fun _=>hB5 _ q7) ?_;clear hK K o7;have hHeld:(fun w':World=>BoxC w' w.heap.size (.slice x.pa x.pn x.pc) (.slice x.sa x.sn x.sc) (.slice x.wa x.wn x.wc) (.slice x.ha x.hn x.hc)) w7:=hB5 _ q7
    (try simp only [Act.put,zD,zE,zF])
    refine qbi [5,6,7] ?_;iterate 3 (refine qb1 rfl hHeld ?_)
    refine qa9 ?_;obtain ⟨n0,n1,n2,n3⟩:=bN.below d7;have nf:∀ j,w7.frozen? ⟨N,j,none⟩=false:=fun j=>((qah d7).2 _ j zN).trans (fN j);refine qaa 9 rfl (by kernel_rfl) (fun K hK=>?_);go_simp;have qb:Below w5.heap.size w5 ((((w7.setCell ⟨N,0,none⟩ (.slice pa YW.pn pc)).setCell ⟨N,1,none⟩ (.slice sa YW.sn sc)).setCell ⟨N,2,none⟩ (.slice wa YW.wn wc)).setCell ⟨N,3,none⟩ (.slice ha YW.hn hc)):=(((q7.setCell sN6 _).setCell sN6 _).setCell sN6 _).setCell sN6 _;refine hK.out _ _ (fun _=>hB5 _ qb) ?_;clear hK K hHeld;have hHeld:(fun w':World=>BoxC w' w.heap.size (.slice x.pa x.pn x.pc) (.slice x.sa x.sn x.sc) (.slice x.wa x.wn x.wc) (.slice x.ha x.hn x.hc)) ((((w7.setCell ⟨N,0,none⟩ (.slice pa YW.pn pc)).setCell ⟨N,1,none⟩ (.slice sa YW.sn sc)).setCell ⟨N,2,none⟩ (.slice wa YW.wn wc)).setCell ⟨N,3,none⟩ (.slice ha YW.hn hc)):=hB5 _ qb
    (try simp only [Act.put,zD,zE,zF])
    refine qap 10 rfl hHeld ?_;refine qau (by kernel_rfl) ?_ _;go_wp2_with fail
    go_meet
    case rel=>exact ⟨N,by with_reducible rfl,by with_reducible rfl,_,_,_,_,_,_,_,_,((((O7.setBelow zN 0 _).setBelow zN 1 _).setBelow zN 2 _).setBelow zN 3 _).base (zP sz qa.size),F4.2.trans (qb.mono sz),BoxC.set4 ⟨n0,n1,n2,n3⟩ _ _ _ _⟩
  ·go_simp
   have qa0:=(zQ w5 (zQ4)).drew;have bN:BoxC (w5.alloc (zQ4)).drew w5.heap.size (.slice none 0 0) (.slice none 0 0) (.slice none 0 0) (.slice none 0 0):=(BoxC.new w5 _ _ _ _ _).below (Below.refl _ _).drew;have fN:∀ j,(w5.alloc (zQ4)).drew.frozen? ⟨w5.heap.size,j,none⟩=false:=fun j=>(World.frozen?_drew _ _).trans (yB _ _ _ _ rfl);have zN:w5.heap.size<(w5.alloc (zQ4)).drew.heap.size:=by simp
   refine hK.out _ _ (fun _=>hB5 _ qa0) ?_;clear hK K
   (try simp only [Act.put,zD,zE,zF])
   refine qaa 3 rfl (by kernel_rfl) (fun K hK=>?_);obtain ⟨N,hNN⟩:∃ N,N=w5.heap.size:=⟨_,rfl⟩
   have sN6:w5.heap.size<=N:=by omega
   have bN:BoxC (w5.alloc (zQ4)).drew N (.slice none 0 0) (.slice none 0 0) (.slice none 0 0) (.slice none 0 0):=by rw [hNN];exact bN
   have fN:∀ j,(w5.alloc (zQ4)).drew.frozen? ⟨N,j,none⟩=false:=by rw [hNN];exact fN
   have zN:N<(w5.alloc (zQ4)).drew.heap.size:=by rw [hNN];exact zN
   rw [<- hNN];clear hNN;generalize (w5.alloc (zQ4)).drew=wC at *;refine qal rfl 26 _ _ rfl #[x.v,.slice (some ⟨gf,0,none⟩) x.hn fc] (by simp [Act.eval,SysIn.v,sysV]) (yA Tryz.func26 (by kernel_rfl) rfl) (HC2.out wC _ fc (hBW _ qa0) (F4.1.below qa0)) ?_;rintro e w6 ⟨u6,rfl,o6,d6⟩;obtain ⟨e6,c6,rfl,s6⟩:=o6.form;refine ⟨_,rfl,?_⟩;have q6:Below w5.heap.size w5 w6:=qa0.trans (d6.mono qa0.size);refine hK.out _ _ (fun _=>hB5 _ q6) ?_;clear hK K
   (try simp only [Act.put,zD,zE,zF])
   refine qaa 4 rfl (by kernel_rfl) (fun K hK=>?_);have qa:=q6;have sA:=s6;have fN:∀ j,w6.frozen? ⟨N,j,none⟩=false:=fun j=>((qah d6).2 _ j zN).trans (fN j);have bN:=bN.below d6;have zN:N<w6.heap.size:=zL zN d6.size;refine qal rfl 25 _ _ rfl #[x.v,.slice e6 E.length c6] (by simp [Act.eval,SysIn.v,sysV]) (yA Tryz.func25 (by kernel_rfl) rfl) (HA2.out w6 _ c6 (hBW _ qa) sA) ?_;rintro e w7 ⟨v7,rfl,o7,d7⟩;obtain ⟨cq,vp,vs,vw,vh,up,us,uw,uh,rfl,o7⟩:=o7;obtain ⟨pa,pc,rfl⟩:=zU o7.p.row;obtain ⟨sa,sc,rfl⟩:=zU o7.s.row;obtain ⟨wa,wc,rfl⟩:=zU o7.t.row;obtain ⟨ha,hc,rfl⟩:=zU o7.h.row;have O7:qak zb w7 (w6).heap.size YW (.agg #[.slice pa YW.pn pc,.slice sa YW.sn sc,.slice wa YW.wn wc,.slice ha YW.hn hc]):=⟨_,_,_,_,_,_,_,_,_,rfl,o7⟩
   refine ⟨_,rfl,?_⟩;have q7:Below w5.heap.size w5 w7:=qa.trans (d7.mono qa.size);refine hK.out _ _ (fun _=>hB5 _ q7) ?_;clear hK K o7;have hHeld:(fun w':World=>BoxC w' w.heap.size (.slice x.pa x.pn x.pc) (.slice x.sa x.sn x.sc) (.slice x.wa x.wn x.wc) (.slice x.ha x.hn x.hc)) w7:=hB5 _ q7
   (try simp only [Act.put,zD,zE,zF])
   refine qbi [5,6,7] ?_;iterate 3 (refine qb1 rfl hHeld ?_)
   refine qa9 ?_;obtain ⟨n0,n1,n2,n3⟩:=bN.below d7;have nf:∀ j,w7.frozen? ⟨N,j,none⟩=false:=fun j=>((qah d7).2 _ j zN).trans (fN j);refine qaa 9 rfl (by kernel_rfl) (fun K hK=>?_);go_simp;have qb:Below w5.heap.size w5 ((((w7.setCell ⟨N,0,none⟩ (.slice pa YW.pn pc)).setCell ⟨N,1,none⟩ (.slice sa YW.sn sc)).setCell ⟨N,2,none⟩ (.slice wa YW.wn wc)).setCell ⟨N,3,none⟩ (.slice ha YW.hn hc)):=(((q7.setCell sN6 _).setCell sN6 _).setCell sN6 _).setCell sN6 _;refine hK.out _ _ (fun _=>hB5 _ qb) ?_;clear hK K hHeld;have hHeld:(fun w':World=>BoxC w' w.heap.size (.slice x.pa x.pn x.pc) (.slice x.sa x.sn x.sc) (.slice x.wa x.wn x.wc) (.slice x.ha x.hn x.hc)) ((((w7.setCell ⟨N,0,none⟩ (.slice pa YW.pn pc)).setCell ⟨N,1,none⟩ (.slice sa YW.sn sc)).setCell ⟨N,2,none⟩ (.slice wa YW.wn wc)).setCell ⟨N,3,none⟩ (.slice ha YW.hn hc)):=hB5 _ qb
   (try simp only [Act.put,zD,zE,zF])
   refine qap 10 rfl hHeld ?_;refine qau (by kernel_rfl) ?_ _;go_wp2_with fail
   go_meet
   case rel=>exact ⟨N,by with_reducible rfl,by with_reducible rfl,_,_,_,_,_,_,_,_,((((O7.setBelow zN 0 _).setBelow zN 1 _).setBelow zN 2 _).setBelow zN 3 _).base (zP sz qa.size),F4.2.trans (qb.mono sz),BoxC.set4 ⟨n0,n1,n2,n3⟩ _ _ _ _⟩
 case rest=>
  obtain ⟨N,rfl,rfl,HT⟩:=hcut;obtain ⟨pa,pc,sa,sc,wa,wc,ha,hc,hOw,hBe,hBx⟩:=HT.out;rename_i w7;have F7:Hid (qak zb w7 w1.heap.size YW (.agg #[.slice pa YW.pn pc,.slice sa YW.sn sc,.slice wa YW.wn wc,.slice ha YW.hn hc])/\Below w1.heap.size w1 w7/\BoxC w7 N (.slice pa YW.pn pc) (.slice sa YW.sn sc) (.slice wa YW.wn wc) (.slice ha YW.hn hc)):=⟨hOw,hBe,hBx⟩
  clear hOw hBe hBx HT b0 b1 b2 b3;cases wf with
  | false=>
   have HV:Hid (bkC x.y (P:Int) k=3/\bkY x.y (P:Int) k=x.y):=⟨by rw [HBC.1];rfl,by rw [HBC.2];rfl⟩
   obtain ⟨⟨b0,b1,b2,b3⟩,-,-,-⟩:=HRB.out w7 F7.2.1;go_wp2_with fail
   refine (HC4.out w7 (B1.1.trans (F7.2.1.mono B1.1.size))).mono ?_;rintro e w3 ⟨v3,rfl,o3,q3⟩;obtain ⟨cq,vp,vs,vw,vh,up,us,uw,uh,rfl,o3⟩:=o3;obtain ⟨pa,pc,rfl⟩:=zU o3.p.row;obtain ⟨sa,sc,rfl⟩:=zU o3.s.row;obtain ⟨wa,wc,rfl⟩:=zU o3.t.row;obtain ⟨ha,hc,rfl⟩:=zU o3.h.row;have F3:Hid (qak zb w3 w7.heap.size x.y (.agg #[.slice pa x.y.pn pc,.slice sa x.y.sn sc,.slice wa x.y.wn wc,.slice ha x.y.hn hc])/\Below w7.heap.size w7 w3):=⟨⟨_,_,_,_,_,_,_,_,_,rfl,o3⟩,q3⟩
   obtain ⟨-,⟨r0,r1,r2,r3⟩,rf,l1⟩:=HRB.out w3 ((F7.2.1).trans (q3.mono (F7.2.1).size));clear o3 q3;go_wp2
   exact bodyPost_ret (v := .tuple #[.agg #[.slice pa x.y.pn pc, .slice sa x.y.sn sc, .slice wa x.y.wn wc, .slice ha x.y.hn hc], .int .i64 3]) (by simp [results, Tryz.results12, go_sem, r0, r1, r2, r3]) rfl ⟨_, by rw [HV.1], by
    rw [HV.2]
    exact ((((F3.1.setBelow (zL LR.out F7.2.1.size) 0 _).setBelow (zL LR.out F7.2.1.size) 1 _).setBelow (zL LR.out F7.2.1.size) 2 _).setBelow (zL LR.out F7.2.1.size) 3 _).base (B1.1.trans (F7.2.1.mono B1.1.size)).size,((((((B1.1.trans (F7.2.1.mono B1.1.size))).trans (F3.2.mono (B1.1.trans (F7.2.1.mono B1.1.size)).size)).setCell hM _).setCell hM _).setCell hM _).setCell hM _⟩
  | true=>
   have HV:Hid (bkC x.y (P:Int) k=0/\bkY x.y (P:Int) k=YA/\YW=YA):=⟨by rw [HBC.1];rfl,by rw [HBC.2];rfl,HYW.out⟩
   obtain ⟨-,⟨r0,r1,r2,r3⟩,rf,l7⟩:=HRB.out w7 F7.2.1;obtain ⟨n0,n1,n2,n3⟩:=F7.2.2;have lN:N<w7.heap.size:=zJ _ _ n0;go_wp2
   exact bodyPost_ret (v := .tuple #[.agg #[.slice pa YW.pn pc, .slice sa YW.sn sc, .slice wa YW.wn wc, .slice ha YW.hn hc], .int .i64 0]) (by simp [results, Tryz.results12, go_sem, r0, r1, r2, r3]) rfl ⟨_, by rw [HV.1], by
    rw [HV.2.1,<- HV.2.2]
    exact ((((F7.1.setBelow l1 0 _).setBelow l1 1 _).setBelow l1 2 _).setBelow l1 3 _).base B1.1.size,(((((B1.1.trans (F7.2.1.mono B1.1.size))).setCell hM _).setCell hM _).setCell hM _).setCell hM _⟩
