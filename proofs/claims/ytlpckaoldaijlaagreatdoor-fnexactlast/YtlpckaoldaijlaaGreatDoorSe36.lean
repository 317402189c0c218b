import Derived.Test.YtlpckaoldaijlaaGreatDoorSe0
import Derived.Test.YtlpckaoldaijlaaGreatDoorSe32
import Derived.Test.YtlpckaoldaijlaaGreatDoorSe35
import Derived.Deep.RegionHeld3
namespace Go.Proofs.YtlpckaoldaijlaaGreatDoor
set_option maxRecDepth 100000
set_option maxHeartbeats 4000000
open Go.ChangeShapes Go.WideShapes Go.ChangeAt Go.RowKit Go.Deep Go.Sort
def lsM (f:Nat->Bool):Nat->Int
 | 0=>-1
 | j+1=>if f j=true then (j:Int) else lsM f j
def lsF (g:Nat->I5) (n:Nat) (eh:Nat->E3) (k v:Int) (j:Nat):Bool:=hoB (resS (repO g n eh j)) eh j k v
noncomputable def lsI (y:Sy) (p k v:Int):Int:=if spB y p k=true then lsM (lsF (y.pH p.toNat) (y.pL p.toNat) (y.hH p.toNat) k v) (y.hL p.toNat+1) else -1
theorem lsI_no {y:Sy} {p k v:Int} (h:spB y p k=false):lsI y p k v = -1:=by rw [lsI,h];rfl
theorem lsI_yes {y:Sy} {p k v:Int} (h:spB y p k=true):lsI y p k v=lsM (lsF (y.pH p.toNat) (y.pL p.toNat) (y.hH p.toNat) k v) (y.hL p.toNat+1):=by rw [lsI,h];rfl
theorem slice_ls (a:Option Addr) (len cap h:Nat) (hh:h<=cap) (w:World):(Instr.slice 75 (.slice a len cap) none (some (.int .i64 (h:Int))) none).run Tryz.prog w=.ok (.slice a h cap) w:=by
 have hh':(h:Int)<=(cap:Int):=by omega
 cases a with
 | none=>simp [go_sem,sliced,hh']
 | some a=>simp [go_sem,sliced,hh']
theorem specLast_any (x:SysIn) (p k v:Int) (w:World) (hG:SysG w x) (hL:x.Len) (hcap:∀ i,i<x.hn->x.hL i<=x.hC i):
  Calls Tryz.prog 36 #[x.v,spV p k v] w fun e w'=>e=.returned (.int .i64 (lsI x.y p k v))/\Below w.heap.size w w':=by
 have HS:Hid (∀ wx,Below w.heap.size w wx->Calls Tryz.prog 21 #[x.v,spV p k v] wx fun e w'=>e=.returned (.bool (spB x.y p k))/\Below wx.heap.size wx w'):=fun wx hb=>specStopOk_any x p k v wx (hG.below hb) hL hcap
 have HX:Hid (Hx w x p k v ((w.alloc (oQ4 x.pa x.pn x.pc x.sa x.sn x.sc x.wa x.wn x.wc x.ha x.hn x.hc)).alloc (oQ6 p k v))):=Hx.new w x p k v _ _
 rcases zK (spB x.y p k) with hT | hT
 case inr=>
  have HN:Hid (lsI x.y p k v = -1):=lsI_no hT
  rw [hT] at HS
  generalize lsI x.y p k v=R at *
  clear hG hL hcap hT
  go_enter Tryz.func36,Tryz.ntmps36
  go_wp2_with fail
  generalize (w.alloc (oQ4 x.pa x.pn x.pc x.sa x.sn x.sc x.wa x.wn x.wc x.ha x.hn x.hc)).alloc (oQ6 p k v)=W2 at *
  refine (HS.out W2 HX.out.be).mono ?_
  rintro e w1 ⟨rfl,b1⟩
  have H1:Hid (Hx w x p k v w1):=HX.out.below b1
  clear b1 HX HS
  go_wp2
  go_ret
  exact ⟨by rw [HN.out];rfl,H1.out.be⟩
 obtain ⟨h1,h2,h3⟩:=spB_parts hT
 have h4:0<=p/\p<(x.pn:Int):=of_decide_eq_true h2
 obtain ⟨J,rfl⟩:∃ J:Nat,p=(J:Int):=⟨p.toNat,by omega⟩
 have c2:x.hn=x.pn:=h3.cn.2.2.1
 have hp:J<x.pn:=by omega
 have hh:J<x.hn:=by omega
 have HN:Hid (lsI x.y (J:Int) k v=lsM (lsF (x.pH J) (x.pL J) (x.hH J) k v) (x.hL J+1)):=lsI_yes hT
 generalize lsI x.y (J:Int) k v=A at *
 rw [hT] at HS
 have hp':(J:Int)<(x.pn:Int):=by omega
 have hh':(J:Int)<(x.hn:Int):=by omega
 have hl:x.hL J<=1048576:=hL.h.2 J hh
 obtain ⟨bp,op,ep,cp⟩:=hG.p.at hp
 obtain ⟨b',eb',hbl,hI⟩:=hG.pi J hp
 obtain ⟨bh,oh,eh,ch⟩:=hG.h.at hh
 have HR:Hid (∀ wx j,j<=x.hL J->Below w.heap.size w wx->Calls Tryz.prog 52 #[.slice (some ⟨b',0,none⟩) (x.pL J) (x.pC J),.slice (x.hA J) j (x.hC J)] wx (DoneR wx (resS (repO (x.pH J) (x.pL J) (x.hH J) j)) (repO (x.pH J) (x.pL J) (x.hH J) j).isSome)):=fun wx j hj hb=>specReplay_l b' (x.pL J) _ (x.hA J) j _ (x.pH J) (x.hH J) wx (by have:=hL.p.2 J hp;unfold maxLen;omega) (zL hbl hb.size) (hI.below hb hbl) (((hG.hi J hh).below hb).take hj) (by omega)
 have HC:Hid (∀ wx j (q:St8),j<=x.hL J->Below w.heap.size w wx->q.s=resS (repO (x.pH J) (x.pL J) (x.hH J) j)->Sl wx q.oa q.os->Calls Tryz.prog 72 #[stV q.p q.ra q.rs.length q.rc q.oa q.os.length q.oc q.c,.slice (x.hA J) j (x.hC J),spV (J:Int) k v] wx fun e w'=>e=.returned (.bool (lsF (x.pH J) (x.pL J) (x.hH J) k v j))/\Below wx.heap.size wx w'):=fun wx j q hj hb hq hs=>by
  have:=l12Holds_any q (x.hA J) j (x.hC J) (x.hH J) J k v wx h1 hs (by have:=(repO_len (x.pH J) (x.pL J) (x.hH J) j).2;rw [<- hq] at this;exact this) (((hG.hi J hh).below hb).take hj) (by omega)
  rw [hq] at this
  exact this
 have HCp:Hid (∀ wx,Below w.heap.size w wx->wx.cell? ⟨bp,op+J,none⟩=some (.slice (some ⟨b',0,none⟩) (x.pL J) (x.pC J))/\wx.cell? ⟨bh,oh+J,none⟩=some (.slice (x.hA J) (x.hL J) (x.hC J))):=fun wx hb=>⟨(hb.cell (zJ w _ cp)).trans (by rw [cp,eb']),(hb.cell (zJ w _ ch)).trans ch⟩
 have HA:Hid (x.pa=some ⟨bp,op,none⟩/\x.ha=some ⟨bh,oh,none⟩/\x.hL J<=x.hC J/\x.hL J<=1048576):=⟨ep,eh,hcap J hh,hl⟩
 generalize lsF (x.pH J) (x.pL J) (x.hH J) k v=f at *
 clear hG hL hcap hT h1 h2 h3 h4 c2 ep eh cp ch eb' hbl hI hl hp hh
 go_enter Tryz.func36,Tryz.ntmps36
 go_wp2_with fail
 generalize (w.alloc (oQ4 x.pa x.pn x.pc x.sa x.sn x.sc x.wa x.wn x.wc x.ha x.hn x.hc)).alloc (oQ6 J k v)=W2 at *
 refine (HS.out W2 HX.out.be).mono ?_
 rintro e w1 ⟨rfl,b1⟩
 have H1:Hid (Hx w x J k v w1):=HX.out.below b1
 clear b1 HX HS
 obtain ⟨be,⟨s0,s1,s2,s3⟩,⟨x0,x1,x2,xf⟩,lt⟩:=H1.out
 obtain ⟨cp,ch⟩:=HCp.out w1 be
 rw [HA.out.2.1] at s3
 clear be
 go_wp2_with fail
 clear s0 s1 s2 s3 x0 x1 x2 xf lt cp ch
 go_loopw [6] (fun i wr=>∃ j:Nat,j<=x.hL J+1/\i=.int .i64 ((j:Int) - 1)/\Hid (A=lsM f j)/\Hid (Hx w x J k v wr)) (fun i _=>(intOf i+1).toNat)
 case atStart=>exact ⟨x.hL J+1,Nat.le_refl _,by simp,HN.out,H1.out⟩
 case round=>
  clear H1 HN
  obtain ⟨j,hj,rfl,HQ,HW⟩:=hrel
  cases j with
  | zero=>
   rw [show ((0:Nat):Int) - 1 = -1 by decide]
   go_wp2
   go_ret
   exact ⟨by rw [HQ.out];rfl,HW.out.be⟩
  | succ j=>
   rw [show ((j+1:Nat):Int) - 1=(j:Int) by omega]
   have hjl:j<=x.hL J:=by omega
   have HJ:Hid (j<=x.hL J):=hjl
   have hge:(0:Int)<=(j:Int):=by omega
   have hj1:(j:Int)<=1048576:=by have:=HA.out.2.2.2;omega
   obtain ⟨be,⟨s0,s1,s2,s3⟩,⟨x0,x1,x2,xf⟩,lt⟩:=HW.out
   obtain ⟨cp,ch⟩:=HCp.out wr be
   rw [HA.out.1] at s0
   have hsl:=slice_ls (x.hA J) (x.hL J) (x.hC J) j (zP hjl HA.out.2.2.1)
   have d1:wr.heap.size≠w.heap.size:=by omega
   have d2:wr.heap.size≠w.heap.size+1:=by omega
   have d3:wr.heap.size≠bp:=by have:=zJ wr _ cp;simp at this;omega
   have hRl:=repO_len (x.pH J) (x.pL J) (x.hH J) j
   have HR2:Hid (∀ wx,Below w.heap.size w wx->Calls Tryz.prog 52 #[.slice (some ⟨b',0,none⟩) (x.pL J) (x.pC J),.slice (x.hA J) j (x.hC J)] wx (DoneR wx (resS (repO (x.pH J) (x.pL J) (x.hH J) j)) (repO (x.pH J) (x.pL J) (x.hH J) j).isSome)):=fun wx hb=>HR.out wx j hjl hb
   have HC2:Hid (∀ wx (q:St8),Below w.heap.size w wx->q.s=resS (repO (x.pH J) (x.pL J) (x.hH J) j)->Sl wx q.oa q.os->Calls Tryz.prog 72 #[stV q.p q.ra q.rs.length q.rc q.oa q.os.length q.oc q.c,.slice (x.hA J) j (x.hC J),spV (J:Int) k v] wx fun e w'=>e=.returned (.bool (f j))/\Below wx.heap.size wx w'):=fun wx q hb hq hs=>HC.out wx j q hjl hb hq hs
   generalize resS (repO (x.pH J) (x.pL J) (x.hH J) j)=R at *
   generalize (repO (x.pH J) (x.pL J) (x.hH J) j).isSome=T at *
   clear hjl be hRl
   go_wp2_with fail
   go_cut [7,8] from 25 to 37 (fun s t wx=>∃ M:Nat,s=.pointer (some ⟨M,0,none⟩)/\t=.bool T/\Hid (Below wr.heap.size wr wx/\Told wx wr.heap.size M R))
   case first=>
    go_region_held3 (fun w'=>w'.cell? ⟨w.heap.size,0,none⟩=some (.slice (some ⟨bp,op,none⟩) x.pn x.pc)/\w'.cell? ⟨w.heap.size+1,0,none⟩=some (.int .i64 J)/\w'.cell? ⟨bp,op+J,none⟩=some (.slice (some ⟨b',0,none⟩) (x.pL J) (x.pC J))) (go_keep)
     (first
      | (go_at_call 52;refine (HR2.out _ (HW.out.be.trans ((show Below wr.heap.size wr _ by go_grown).mono HW.out.be.size))).mono ?_;rintro e w5 hd;obtain ⟨v5,rfl,o5,b5⟩:=hd;obtain ⟨ra5,rc5,oa5,oc5,rfl,-,-⟩:=o5.read;have q5:Below wr.heap.size wr w5:=below_up (by go_grown) b5 (by simp);(try simp only [World.size_alloc,World.size_drew] at o5);have O5:Hid (StOwn w5 _ (stV R.p ra5 R.rs.length rc5 oa5 R.os.length oc5 R.c) R.p R.rs R.os R.c):=o5;obtain ⟨hc5,hf5⟩:=bcell b5;have z5:=b5.size;(try simp only [World.size_alloc,World.size_drew,Nat.add_one_le_iff] at z5);have j5:wr.heap.size<=w5.heap.size:=q5.size;have Q5:Hid (Below wr.heap.size wr w5):=q5;have y0:=(q5.cell (p:=⟨w.heap.size,0,none⟩) (zJ wr _ s0)).trans s0;have y3:=(q5.cell (p:=⟨w.heap.size+1,0,none⟩) (zJ wr _ x0)).trans x0;have yk:=(q5.cell (p:=⟨bp,op+J,none⟩) (zJ wr _ cp)).trans cp;clear o5 b5 q5))
    all_goals
     go_wp2_with fail
     go_meet
     case rel=>
      first
      | (refine ⟨w5.heap.size, by with_reducible rfl, rfl, ?_⟩
         exact ⟨Q5.out.trans ((zT _ _).mono j5),Told.of_alloc O5.out (by omega) (by omega) _⟩)
      | (refine ⟨wr.heap.size, by with_reducible rfl, rfl, ?_⟩
         exact ⟨(((Q5.out.setCell (Nat.le_refl _) _).setCell (Nat.le_refl _) _).setCell (Nat.le_refl _) _).setCell (Nat.le_refl _) _,Told.of_put (z0:=.int .i64 0) (z1:=.slice none 0 0) (z2:=.slice none 0 0) (z3:=.int .i64 0) O5.out (by omega) (by omega) (by omega) ⟨by rw [hc5 _ _ (by simp)];simp,by rw [hc5 _ _ (by simp)];simp,by rw [hc5 _ _ (by simp)];simp,by rw [hc5 _ _ (by simp)];simp⟩⟩)
   case rest=>
    obtain ⟨M,rfl,rfl,HMt⟩:=hcut
    obtain ⟨ra,rc,oa,oc,TG⟩:=HMt.out.2.tl
    have HW3:Hid (Hx w x J k v wc):=HW.out.below HMt.out.1
    have HC3:Hid (∀ wx,Below wc.heap.size wc wx->Calls Tryz.prog 72 #[stV R.p ra R.rs.length rc oa R.os.length oc R.c,.slice (x.hA J) j (x.hC J),spV (J:Int) k v] wx fun e w'=>e=.returned (.bool (f j))/\Below wx.heap.size wx w'):=fun wx hb=>HC2.out wx ⟨R.p,ra,rc,R.rs,oa,oc,R.os,R.c⟩ (HW3.out.below hb).be rfl (TG.sl.2.below hb)
    obtain ⟨m0,m1,m2,m3⟩:=TG.box
    clear s0 s1 s2 s3 x0 x1 x2 xf lt cp ch d1 d2 d3 HMt TG HW HR2 HC2
    obtain ⟨be,-,⟨x0,x1,x2,xf⟩,lt⟩:=HW3.out
    have m0':=cell_regrown m0
    have m1':=cell_regrown m1
    have m2':=cell_regrown m2
    have m3':=cell_regrown m3
    have x0':=cell_regrown x0
    have x1':=cell_regrown x1
    have x2':=cell_regrown x2
    clear be
    go_wp2_with fail
    refine wp_region_quiet_below (by kernel_rfl) (by kernel_rfl) ?_
    repeat (quiet_step (first|(go_at_call 72;exact Calls.regrown_of (HC3.out _ (below_regrown wc _ _)))))
    refine wpQuiet_nil ?_
    intro _ hw'
    obtain ⟨⟨dq,osq⟩,hw''⟩:=hw'
    subst hw''
    have HW4:Hid (Hx w x J k v (grow (redrawn wc dq) osq)):=HW3.out.below (below_regrown wc dq osq)
    generalize grow (redrawn wc dq) osq=w6 at *
    clear m0 m1 m2 m3 x0 x1 x2 xf lt m0' m1' m2' m3' x0' x1' x2' hsl HW3 HC3
    have HQ2:Hid (A=if f j=true then (j:Int) else lsM f j):=HQ.out
    clear HQ
    generalize f j=F at *
    cases F with
    | true=>
     go_wp2
     go_ret
     exact ⟨by rw [HQ2.out];rfl,HW4.out.be⟩
    | false=>
     go_wp2
     go_roundw
     case rel=>exact ⟨j,by omega,rfl,HQ2.out,HW4.out⟩
     case measure=>simp [intOf]
open Go.Maps
theorem zeroStL (w:World):(zeroValue 80).run Tryz.prog w=.ok (stV 0 none 0 0 none 0 0 0) w:=by kernel_rfl
theorem Sto.look {w:World} {b T k n:Nat} {g:Nat->I5} {eh:Nat->E3} {V:Nat->Value} {D:DataW Value} (h:Sto w b T k g n eh V D) {j:Nat} (hj:j<=k) (hk:k<=1048576):(Instr.lookup 122 (.map (some b)) (.int .i64 (j:Int)) false).run Tryz.prog w=.ok (V j) w:=by
 obtain ⟨v,ps,hrun,hv⟩:=h.own.lookup kInt Tryz.underlying122 (zeroStL _) rfl (keyOf_int_mk Tryz.underlying3 (wf64 (a:=(j:Int)) (by omega) (by omega)))
 rw [h.val j hj] at hv
 simp only [RV,Option.some.injEq,Prod.mk.injEq,DataW.held.injEq] at hv
 rw [hrun,hv.1]
structure LsB (w:World) (x:SysIn) (J:Nat) (k v:Int) (N F b T:Nat) (V:Nat->Value) (D:DataW Value) (wx:World):Prop where
 hx:Hx w x J k v wx
 qs:QsC wx N (.int .i64 J) (.func (.func F) #[spV J k v] #[])
 st:Sto wx b T (x.hL J) (x.pH J) (x.pL J) (x.hH J) V D
theorem LsB.below {w:World} {x:SysIn} {J:Nat} {k v:Int} {N F b T:Nat} {V:Nat->Value} {D:DataW Value} {wx wy:World} (h:LsB w x J k v N F b T V D wx) (hb:Below wx.heap.size wx wy):LsB w x J k v N F b T V D wy:=⟨h.hx.below hb,h.qs.below hb,h.st.below hb⟩
theorem implLast_any (x:SysIn) (p k v:Int) (w:World) (hG:SysG w x) (hL:x.Len) (hcap:∀ i,i<x.hn->x.hL i<=x.hC i) (hV:w.cell? ⟨0,0,none⟩=some (.iface 294 (.agg #[.pointer (some ⟨1,179,none⟩)]))):
  Calls Tryz.prog 37 #[x.v,spV p k v] w fun e w'=>e=.returned (.int .i64 (lsI x.y p k v))/\Below w.heap.size w w':=by
 have HV0:0<w.heap.size:=zJ w _ hV
 have HS:Hid (∀ wx,Below w.heap.size w wx->Calls Tryz.prog 67 #[x.v,spV p k v] wx fun e w'=>e=.returned (.tuple #[qsO (spB x.y p k) p k v,.bool (spB x.y p k)])/\Below wx.heap.size wx w'):=fun wx hb=>questionIn_any x p k v wx (hG.below hb) hL ((hb.cell (p:=⟨0,0,none⟩) HV0).trans hV)
 have HX:Hid (Hx w x p k v ((w.alloc (oQ4 x.pa x.pn x.pc x.sa x.sn x.sc x.wa x.wn x.wc x.ha x.hn x.hc)).alloc (oQ6 p k v))):=Hx.new w x p k v _ _
 rcases zK (spB x.y p k) with hT | hT
 case inr=>
  have HN:Hid (lsI x.y p k v = -1):=lsI_no hT
  rw [hT] at HS
  generalize lsI x.y p k v=R at *
  clear hG hL hcap hT hV HV0
  go_enter Tryz.func37,Tryz.ntmps37
  go_wp2_with fail
  generalize (w.alloc (oQ4 x.pa x.pn x.pc x.sa x.sn x.sc x.wa x.wn x.wc x.ha x.hn x.hc)).alloc (oQ6 p k v)=W2 at *
  refine (HS.out W2 HX.out.be).mono ?_
  rintro e w1 ⟨rfl,b1⟩
  have H1:Hid (Hx w x p k v w1):=HX.out.below b1
  clear b1 HX HS
  rw [show qsO false p k v=qsZ from rfl]
  go_wp2
  go_ret
  exact ⟨by rw [HN.out];rfl,below_up H1.out.be (by go_grown) H1.out.be.size⟩
 obtain ⟨h1,h2,h3⟩:=spB_parts hT
 have h4:0<=p/\p<(x.pn:Int):=of_decide_eq_true h2
 obtain ⟨J,rfl⟩:∃ J:Nat,p=(J:Int):=⟨p.toNat,by omega⟩
 have c2:x.hn=x.pn:=h3.cn.2.2.1
 have hp:J<x.pn:=by omega
 have hh:J<x.hn:=by omega
 have HN:Hid (lsI x.y (J:Int) k v=lsM (lsF (x.pH J) (x.pL J) (x.hH J) k v) (x.hL J+1)):=lsI_yes hT
 generalize lsI x.y (J:Int) k v=A at *
 rw [hT] at HS
 have hp':(J:Int)<(x.pn:Int):=by omega
 have hh':(J:Int)<(x.hn:Int):=by omega
 have hl:x.hL J<=1048576:=hL.h.2 J hh
 have hrp:repO (x.pH J) (x.pL J) (x.hH J) (x.hL J)=some (x.sS J):=h3.rp J hp
 obtain ⟨r1,r2,r3⟩:=repO_some hrp
 obtain ⟨bp,op,ep,cp⟩:=hG.p.at hp
 obtain ⟨b',eb',hbl,hI⟩:=hG.pi J hp
 obtain ⟨bh,oh,eh,ch⟩:=hG.h.at hh
 have HR:Hid (∀ wx,Below w.heap.size w wx->Calls Tryz.prog 88 #[.slice (some ⟨b',0,none⟩) (x.pL J) (x.pC J),.slice (x.hA J) (x.hL J) (x.hC J)] wx (StoR wx (x.pH J) (x.pL J) (x.hH J) (x.hL J))):=fun wx hb=>storeOf_yes b' (x.pL J) _ (x.hA J) (x.hL J) _ (x.pH J) (x.hH J) wx (by have:=hL.p.2 J hp;unfold maxLen;omega) (zL hbl hb.size) (hI.below hb hbl) r1 ((hG.hi J hh).below hb) hl
 have HC:Hid (∀ wx j (q:St8),j<=x.hL J->Below w.heap.size w wx->rp (x.pH J) (x.pL J) (x.hH J) j=some q.s->Sl wx q.oa q.os->Calls Tryz.prog (qsF k) #[spV (J:Int) k v,moV q (x.hA J) j (x.hC J)] wx fun e w'=>e=.returned (.bool (lsF (x.pH J) (x.pL J) (x.hH J) k v j))/\Below wx.heap.size wx w'):=fun wx j q hj hb hq hs=>by
  have e1:resS (repO (x.pH J) (x.pL J) (x.hH J) j)=q.s:=by
   unfold repO
   rw [if_pos ⟨r1,by omega⟩,hq]
   rfl
  have:=isSo_any q (x.hA J) j (x.hC J) (x.hH J) J k v wx h1 hs (by have:=(repO_len (x.pH J) (x.pL J) (x.hH J) j).2;rw [e1] at this;exact this) (((hG.hi J hh).below hb).take hj) (by omega)
  unfold lsF
  rw [e1]
  exact this
 have HE:Hid (∀ args wx,(callFunc (qsF k) args).run Tryz.prog wx=.ok (.enter (qsF k) args) wx):=enter_qsF k h1
 have HCp:Hid (∀ wx,Below w.heap.size w wx->wx.cell? ⟨bp,op+J,none⟩=some (.slice (some ⟨b',0,none⟩) (x.pL J) (x.pC J))/\wx.cell? ⟨bh,oh+J,none⟩=some (.slice (x.hA J) (x.hL J) (x.hC J))):=fun wx hb=>⟨(hb.cell (zJ w _ cp)).trans (by rw [cp,eb']),(hb.cell (zJ w _ ch)).trans ch⟩
 have HA:Hid (x.pa=some ⟨bp,op,none⟩/\x.ha=some ⟨bh,oh,none⟩/\x.hL J<=x.hC J/\x.hL J<=1048576/\(repO (x.pH J) (x.pL J) (x.hH J) (x.hL J)).isSome=true):=⟨ep,eh,hcap J hh,hl,by rw [hrp];rfl⟩
 generalize lsF (x.pH J) (x.pL J) (x.hH J) k v=f at *
 clear hG hL hcap hT h1 h2 h3 h4 c2 ep eh cp ch eb' hbl hI hl hp hh hrp r1 r2 r3 hV HV0
 go_enter Tryz.func37,Tryz.ntmps37
 go_wp2_with fail
 generalize (w.alloc (oQ4 x.pa x.pn x.pc x.sa x.sn x.sc x.wa x.wn x.wc x.ha x.hn x.hc)).alloc (oQ6 J k v)=W2 at *
 refine (HS.out W2 HX.out.be).mono ?_
 rintro e w1 ⟨rfl,b1⟩
 rw [show qsO true (J:Int) k v=qsV (J:Int) k v from rfl]
 have H1:Hid (Hx w x J k v (w1.alloc (.cells #[.int .i64 J,.func (.func (qsF k)) #[spV J k v] #[]] 101))):=(HX.out.below b1).below (zT _ _)
 have Q1:Hid (QsC (w1.alloc (.cells #[.int .i64 J,.func (.func (qsF k)) #[spV J k v] #[]] 101)) w1.heap.size (.int .i64 J) (.func (.func (qsF k)) #[spV J k v] #[])):=QsC.new w1 _ _ _
 clear b1 HX HS
 unfold qsV
 generalize qsF k=F at *
 go_upto_region 4 with fail
 generalize w1.alloc (.cells #[.int .i64 J,.func (.func F) #[spV J k v] #[]] 101)=w2 at *
 generalize w1.heap.size=N at *
 clear w1
 obtain ⟨be,⟨s0,s1,s2,s3⟩,⟨x0,x1,x2,xf⟩,lt⟩:=H1.out
 obtain ⟨cp,ch⟩:=HCp.out w2 be
 rw [HA.out.2.1] at s3
 rw [HA.out.1] at s0
 clear be
 go_wp2_with fail
 clear s0 s1 s2 s3 x0 x1 x2 xf lt cp ch
 refine (HR.out w2 H1.out.be).mono ?_
 rintro e w3 ⟨b3,h⟩
 obtain ⟨-,b,T,V,D,rfl,hst⟩:=h.resolve_left fun h=>by have:=HA.out.2.2.2.2;rw [h.1] at this;cases this
 have L3:Hid (LsB w x J k v N F b T V D w3):=⟨H1.out.below b3,Q1.out.below b3,hst⟩
 clear b3 hst h H1 Q1 HR
 go_wp2_with fail
 go_loopw [10] (fun i wr=>∃ j:Nat,j<=x.hL J+1/\i=.int .i64 ((j:Int) - 1)/\Hid (A=lsM f j)/\Hid (LsB w x J k v N F b T V D wr)) (fun i _=>(intOf i+1).toNat)
 case atStart=>exact ⟨x.hL J+1,Nat.le_refl _,by simp,HN.out,L3.out⟩
 case round=>
  clear L3 HN
  obtain ⟨j,hj,rfl,HQ,HW⟩:=hrel
  cases j with
  | zero=>
   rw [show ((0:Nat):Int) - 1 = -1 by decide]
   go_wp2
   go_ret
   exact ⟨by rw [HQ.out];rfl,HW.out.hx.be⟩
  | succ j=>
   rw [show ((j+1:Nat):Int) - 1=(j:Int) by omega]
   have hjl:j<=x.hL J:=by omega
   have hge:(0:Int)<=(j:Int):=by omega
   have hj1:(j:Int)<=1048576:=by have:=HA.out.2.2.2.1;omega
   obtain ⟨S,hS,oS⟩:=HW.out.st.st j hjl
   obtain ⟨ra,rc,oa,oc,eV,-,sO⟩:=oS.read
   have hlk:∀ d os,(Instr.lookup 122 (.map (some b)) (.int .i64 (j:Int)) false).run Tryz.prog (grow (redrawn wr d) os)=.ok (stV S.p ra S.rs.length rc oa S.os.length oc S.c) (grow (redrawn wr d) os):=fun d os=>by
    rw [<- eV]
    exact (HW.out.st.below (below_regrown wr d os)).look hjl HA.out.2.2.2.1
   have hsl:=slice_ls (x.hA J) (x.hL J) (x.hC J) j (zP hjl HA.out.2.2.1)
   have HC2:Hid (∀ wx,Below wr.heap.size wr wx->Calls Tryz.prog F #[spV (J:Int) k v,.agg #[.int .i64 S.p,.slice ra S.rs.length rc,.slice oa S.os.length oc,.int .i64 S.c,.slice (x.hA J) j (x.hC J)]] wx fun e w'=>e=.returned (.bool (f j))/\Below wx.heap.size wx w'):=fun wx hb=>HC.out wx j ⟨S.p,ra,rc,S.rs,oa,oc,S.os,S.c⟩ hjl (HW.out.hx.below hb).be hS (sO.below hb)
   have hx:=HE.out
   have q1':=cell_regrown HW.out.qs.c1
   clear hjl hS oS eV sO
   go_wp2_with fail
   refine wp_region_quiet_below (by kernel_rfl) (by kernel_rfl) ?_
   repeat (quiet_step (first|(exact Calls.regrown_of (HC2.out _ (below_regrown wr _ _)))))
   refine wpQuiet_nil ?_
   intro _ hw'
   obtain ⟨⟨dq,osq⟩,hw''⟩:=hw'
   subst hw''
   have HW4:Hid (LsB w x J k v N F b T V D (grow (redrawn wr dq) osq)):=HW.out.below (below_regrown wr dq osq)
   generalize grow (redrawn wr dq) osq=w6 at *
   clear hlk hsl q1' HC2 HW hx
   have HQ2:Hid (A=if f j=true then (j:Int) else lsM f j):=HQ.out
   clear HQ
   generalize f j=Fj at *
   cases Fj with
   | true=>
    go_wp2
    go_ret
    exact ⟨by rw [HQ2.out];rfl,HW4.out.hx.be⟩
   | false=>
    go_wp2
    go_roundw
    case rel=>exact ⟨j,by omega,rfl,HQ2.out,HW4.out⟩
    case measure=>simp [intOf]
