import Derived.Test.YtchhijiibjijhaaGreatDoorYf6
import Derived.Lib.QuietBelow
import Derived.ChangeKeysEq
namespace Go.Proofs.YtchhijiibjijhaaGreatDoor
set_option maxRecDepth 100000
set_option maxHeartbeats 1000000
open Go.RowKit Go.Sort
def numB (x:Int):Bool:=inB x (-1000000000) 1000000000
def allN (xs:List Int):Bool:=xs.all numB
theorem qxs {xs:List Int} {k:Nat} (hk:k<xs.length):zi xs k ∈ xs:=by
 unfold zi
 rw [List.getD_eq_getElem?_getD,List.getElem?_eq_getElem hk]
 exact List.getElem_mem hk
theorem qrk {xs:List Int} {k:Nat} (hk:k<xs.length) (h:numB (zi xs k)=false):allN xs=false:=by
 rw [allN,List.all_eq_false]
 exact ⟨_,qxs hk,by simp [h]⟩
theorem qy6 {xs:List Int} {x:Int} (h:x ∈ xs):∃ k,k<xs.length/\zi xs k=x:=by
 obtain ⟨k,hk,e⟩:=List.getElem_of_mem h
 refine ⟨k,hk,?_⟩
 unfold zi
 rw [List.getD_eq_getElem?_getD,List.getElem?_eq_getElem hk]
 exact e
theorem qti {xs:List Int} (h:∀ k,k<xs.length->numB (zi xs k)=true):allN xs=true:=by
 rw [allN,List.all_eq_true]
 intro x hx
 obtain ⟨k,hk,rfl⟩:=qy6 hx
 exact h k hk
def outB (xs:List Int):Bool:=decide ((xs.length:Int)<=60) && allN xs
def qc8 (xs:List Int):Bool:=((xs.length:Int) == 4) && allN xs
def qc9 (n:Nat) (p:Int) (rs os:List Int) (code:Int):Bool:=qc8 rs && inB code 0 2 && belB p n && outB os
theorem qf8 (a0:Option Addr) (cap:Nat) (xs:List Int) (w:World) (hlen:xs.length<=1048576) (h:Sl w a0 xs):
  Calls Tryz.prog 232 #[.slice a0 xs.length cap] w fun e w'=>e=.returned (.bool (outB xs))/\w'=w:=by
 have hl':(xs.length:Int)<=1048576:=by omega
 by_cases h60:(xs.length:Int)<=60
 case neg=>
  have hg:60<(xs.length:Int):=by omega
  have HV:Hid (outB xs=false):=by simp [Hid,outB,h60]
  clear h60
  go_enter Tryz.func232,Tryz.ntmps232
  go_wp2
  go_ret
  exact ⟨by rw [HV.out];rfl,rfl⟩
 case pos=>
  have HV:Hid (outB xs=allN xs):=by simp [Hid,outB,h60]
  have hg:¬ 60<(xs.length:Int):=by omega
  have HS:Hid (Sl w a0 xs):=h
  clear h h60
  go_enter Tryz.func232,Tryz.ntmps232
  go_wp2_with fail
  go_loop [10] (fun i=>∃ k:Nat,k<=xs.length/\i=.int .i64 k/\Hid (∀ t,t<k->numB (zi xs t)=true)) (fun i=>xs.length - (intOf i).toNat)
  case atStart=>exact ⟨0,Nat.zero_le _,rfl,fun t ht=>by omega⟩
  case round=>
   obtain ⟨k,hk,rfl,HK⟩:=hrel
   by_cases hlt:k<xs.length
   ·have hlt':(k:Int)<(xs.length:Int):=by omega
    obtain ⟨b,off,rfl,hbl,ck⟩:=HS.out.at hlt
    rcases zK (numB (zi xs k)) with t0 | t0
    ·have T0:Hid (numB (zi xs k)=true):=t0
     have t1:inB (zi xs k) (-1000000000) 1000000000=true:=t0
     clear t0
     go_wp2_with (go_at_call 233;refine (isNum_any _ _).mono ?_;rintro e w' ⟨rfl,rfl⟩)
     go_round
     case rel=>
      refine ⟨k+1,by omega,by go_num,fun t ht=>?_⟩
      by_cases htk:t=k
      ·subst htk;exact T0.out
      ·exact HK.out t (by omega)
     case measure=>simp [intOf];omega
    ·have T0:Hid (allN xs=false):=qrk hlt t0
     have t1:inB (zi xs k) (-1000000000) 1000000000=false:=t0
     clear t0
     go_wp2_with (go_at_call 233;refine (isNum_any _ _).mono ?_;rintro e w' ⟨rfl,rfl⟩)
     go_ret
     exact ⟨by rw [HV.out,T0.out];rfl,rfl⟩
   ·have hlt':¬ (k:Int)<(xs.length:Int):=by omega
    have T0:Hid (allN xs=true):=qti fun t ht=>HK.out t (by omega)
    clear HK
    go_wp2
    go_ret
    exact ⟨by rw [HV.out,T0.out];rfl,rfl⟩
theorem qvr {x:Int}:qbp x=x ↔ numB x=true:=by
 unfold qbp cmin cmax numB inB
 simp only [decide_eq_true_eq]
 by_cases h1:x < -1000000000
 ·rw [if_pos h1,if_neg (by omega)];omega
 ·rw [if_neg h1]
  by_cases h2:1000000000<x
  ·rw [if_pos h2];omega
  ·rw [if_neg h2];simp;omega
def qnt (a b c d a' b' c' d':Int):Bool:=a == a' && (b == b' && (c == c' && d == d'))
theorem qkx (a b c d a' b' c' d':Int) (w:World):(binOp .eql 235 (regV a b c d) (regV a' b' c' d')).run Tryz.prog w=.ok (.bool (qnt a b c d a' b' c' d')) w:=by
 have hinfo:=qpj
 cases hi:Tryz.prog.info? 3 with
 | none=>rw [hi] at hinfo;cases hinfo
 | some i=>
  rw [run_eql_struct,show (10000:Nat)=9998+1+1 from rfl,run_equalIn_array w (9998+1) _ _ Tryz.underlying235 hi,show Tryz.prog.cellsOf 3=1 by kernel_rfl,show List.range 4=[0,1,2,3] from rfl]
  have hp:∀ (vs:Array Value) (j:Nat) (v:Value) (w:World),vs[j]? = some v->(part 3 vs j).run Tryz.prog w=.ok v w:=by
   intro vs j v w hv
   simp [part,go_sem,hv]
  have p0:=hp #[.int .i64 a,.int .i64 b,.int .i64 c,.int .i64 d] 0 (.int .i64 a) w rfl
  have p1:=hp #[.int .i64 a,.int .i64 b,.int .i64 c,.int .i64 d] 1 (.int .i64 b) w rfl
  have p2:=hp #[.int .i64 a,.int .i64 b,.int .i64 c,.int .i64 d] 2 (.int .i64 c) w rfl
  have p3:=hp #[.int .i64 a,.int .i64 b,.int .i64 c,.int .i64 d] 3 (.int .i64 d) w rfl
  have q0:=hp #[.int .i64 a',.int .i64 b',.int .i64 c',.int .i64 d'] 0 (.int .i64 a') w rfl
  have q1:=hp #[.int .i64 a',.int .i64 b',.int .i64 c',.int .i64 d'] 1 (.int .i64 b') w rfl
  have q2:=hp #[.int .i64 a',.int .i64 b',.int .i64 c',.int .i64 d'] 2 (.int .i64 c') w rfl
  have q3:=hp #[.int .i64 a',.int .i64 b',.int .i64 c',.int .i64 d'] 3 (.int .i64 d') w rfl
  have hq:∀ x y,(Op.equalIn 9999 3 (.int .i64 x) (.int .i64 y)).run Tryz.prog w=.ok (x == y) w:=fun x y=>run_equalIn_int (P:=Tryz.prog) w 9998 3 .i64 .i64 x y Tryz.underlying3
  clear hp hinfo hi
  simp only [qnt]
  cases h1:(a == a') <;> cases h2:(b == b') <;> cases h3:(c == c') <;> cases h4:(d == d') <;> simp only [Op.eqItems,Sem.run_bind,Sem.run_pure,Sem.run_ite,Result.andThen_ok,Bool.not_true,Bool.not_false,if_true,if_false,Bool.false_eq_true,Nat.mul_one,Bool.and_true,Bool.and_false,p0,p1,p2,p3,q0,q1,q2,q3,hq,h1,h2,h3,h4]
theorem qcf (a b c d:Int):qnt a b c d (qbp a) (qbp b) (qbp c) (qbp d)=qc8 [a,b,c,d]:=by
 have h:∀ x,(x == qbp x)=numB x:=fun x=>by
  rw [Bool.eq_iff_iff,<- qvr,beq_iff_eq];exact eq_comm
 unfold qnt qc8 allN
 rw [h,h,h,h]
 simp
theorem zS {w:World} {b:Nat} (o:Obj) (j:Nat) (h:b<w.heap.size):(w.alloc o).cell? ⟨b,j,none⟩=w.cell? ⟨b,j,none⟩:=zH (Below.heap_alloc w o b h)
theorem Calls.regrown_same {P:Program} {f:FuncId} {args:Array Value} {w:World} {d:Nat} {os:Array Obj} {v:Value}
  (h:Calls P f args (grow (redrawn w d) os) fun e w'=>e=.returned v/\w'=grow (redrawn w d) os):Calls P f args (grow (redrawn w d) os) fun e w''=>e=.returned v/\∃ p:Regrown,w''=grow (redrawn w p.d) p.os:=
 h.mono fun _ _ ⟨he,hw⟩=>⟨he,⟨d,os⟩,hw⟩
theorem qhz (la:Option Addr) (n lc:Nat) (p code:Int) (ra oa:Option Addr) (rc oc:Nat) (a b c d:Int) (os:List Int) (w:World) (ho:os.length<=1048576) (h1:Sl w ra [a,b,c,d]) (h2:Sl w oa os):
  Calls Tryz.prog 202 #[.slice la n lc,stV p ra 4 rc oa os.length oc code] w fun e w'=>e=.returned (.bool (qc9 n p [a,b,c,d] os code))/\Below w.heap.size w w':=by
 have H1:Hid (Sl w ra [a,b,c,d]):=h1
 have H2:Hid (Sl w oa os):=h2
 clear h1 h2
 go_enter Tryz.func202,Tryz.ntmps202
 go_wp2_with fail
 refine (qcn ra rc [a,b,c,d] _ (H1.out.below (by go_grown))).mono ?_
 rintro e w1 ⟨⟨r0,r1,r2,r3,rfl,hr⟩,b1⟩
 have B1:Hid (Below w.heap.size w w1):=qah (by go_grown) b1 (by simp)
 have y0:w.heap.size<w1.heap.size:=by have:=b1.size;simp at this;omega
 have hr':=hr rfl
 simp only [List.cons.injEq,and_true] at hr'
 obtain ⟨rfl,rfl,rfl,rfl⟩:=hr'
 obtain ⟨hc1,hf1⟩:=qam b1
 clear b1 hr
 go_wp2_with fail
 have B2:Hid (Below w.heap.size w (w1.alloc (.cells #[.int .i64 a,.int .i64 b,.int .i64 c,.int .i64 d] 235))):=B1.out.alloc (by omega) _
 generalize hW:(w1.alloc (.cells #[.int .i64 a,.int .i64 b,.int .i64 c,.int .i64 d] 235))=W at *
 have k0:W.cell? ⟨w1.heap.size,0,none⟩=some (.int .i64 a):=by rw [<- hW];simp
 have k1:W.cell? ⟨w1.heap.size,1,none⟩=some (.int .i64 b):=by rw [<- hW];simp
 have k2:W.cell? ⟨w1.heap.size,2,none⟩=some (.int .i64 c):=by rw [<- hW];simp
 have k3:W.cell? ⟨w1.heap.size,3,none⟩=some (.int .i64 d):=by rw [<- hW];simp
 have s0:W.cell? ⟨w.heap.size,0,none⟩=some (.int .i64 p):=by rw [<- hW,zS _ _ y0,hc1 _ _ (by simp)];simp
 have s2:W.cell? ⟨w.heap.size,2,none⟩=some (.slice oa os.length oc):=by rw [<- hW,zS _ _ y0,hc1 _ _ (by simp)];simp
 have s3:W.cell? ⟨w.heap.size,3,none⟩=some (.int .i64 code):=by rw [<- hW,zS _ _ y0,hc1 _ _ (by simp)];simp
 clear hc1 hf1 hW B1 y0
 have k0':=cell_regrown k0
 have k1':=cell_regrown k1
 have k2':=cell_regrown k2
 have k3':=cell_regrown k3
 have s0':=cell_regrown s0
 have s2':=cell_regrown s2
 have s3':=cell_regrown s3
 have HO:Hid (∀ d os',Sl (grow (redrawn W d) os') oa os):=fun d os'=>(H2.out.below B2.out).below (below_regrown W d os')
 rcases zK (qc8 [a,b,c,d]) with t1 | t1
 case inr=>
  have HV:Hid (qc9 n p [a,b,c,d] os code=false):=by simp [Hid,qc9,t1]
  have he:∀ wx,(binOp .eql 235 (regV a b c d) (regV (qbp a) (qbp b) (qbp c) (qbp d))).run Tryz.prog wx=.ok (.bool false) wx:=fun wx=>by rw [qkx,qcf,t1]
  clear t1
  refine wp_region_quiet_below (by kernel_rfl) (by kernel_rfl) ?_
  repeat (quiet_step (first|(go_at_call 230;exact Calls.regrown_of (qdb _ _ _ _ _))|(go_at_call 231;exact Calls.regrown_same (qez _ _))|(go_at_call 76;exact Calls.regrown_same (isBelow_any _ _ _))|(go_at_call 232;exact Calls.regrown_same (qf8 _ _ _ _ ho (HO.out _ _)))))
  refine wpQuiet_nil ?_
  intro _ hw'
  obtain ⟨⟨dq,osq⟩,hw''⟩:=hw'
  subst hw''
  have B3:Hid (Below w.heap.size w (grow (redrawn W dq) osq)):=B2.out.trans ((below_regrown W dq osq).mono B2.out.size)
  generalize grow (redrawn W dq) osq=w3 at *
  clear k0' k1' k2' k3' s0' s2' s3' HO he
  go_wp2
  go_ret
  exact ⟨by rw [HV.out];rfl,B3.out⟩
 have he:∀ wx,(binOp .eql 235 (regV a b c d) (regV (qbp a) (qbp b) (qbp c) (qbp d))).run Tryz.prog wx=.ok (.bool true) wx:=fun wx=>by rw [qkx,qcf,t1]
 rcases zK (inB code 0 2) with t2 | t2
 case inr=>
  have HV:Hid (qc9 n p [a,b,c,d] os code=false):=by simp [Hid,qc9,t2]
  clear t1
  refine wp_region_quiet_below (by kernel_rfl) (by kernel_rfl) ?_
  repeat (quiet_step (first|(go_at_call 230;exact Calls.regrown_of (qdb _ _ _ _ _))|(go_at_call 231;exact Calls.regrown_same (qez _ _))|(go_at_call 76;exact Calls.regrown_same (isBelow_any _ _ _))|(go_at_call 232;exact Calls.regrown_same (qf8 _ _ _ _ ho (HO.out _ _)))))
  refine wpQuiet_nil ?_
  intro _ hw'
  obtain ⟨⟨dq,osq⟩,hw''⟩:=hw'
  subst hw''
  have B3:Hid (Below w.heap.size w (grow (redrawn W dq) osq)):=B2.out.trans ((below_regrown W dq osq).mono B2.out.size)
  generalize grow (redrawn W dq) osq=w3 at *
  clear k0' k1' k2' k3' s0' s2' s3' HO he
  go_wp2
  go_ret
  exact ⟨by rw [HV.out];rfl,B3.out⟩
 rcases zK (belB p n) with t3 | t3
 case inr=>
  have HV:Hid (qc9 n p [a,b,c,d] os code=false):=by simp [Hid,qc9,t3]
  clear t1
  refine wp_region_quiet_below (by kernel_rfl) (by kernel_rfl) ?_
  repeat (quiet_step (first|(go_at_call 230;exact Calls.regrown_of (qdb _ _ _ _ _))|(go_at_call 231;exact Calls.regrown_same (qez _ _))|(go_at_call 76;exact Calls.regrown_same (isBelow_any _ _ _))|(go_at_call 232;exact Calls.regrown_same (qf8 _ _ _ _ ho (HO.out _ _)))))
  refine wpQuiet_nil ?_
  intro _ hw'
  obtain ⟨⟨dq,osq⟩,hw''⟩:=hw'
  subst hw''
  have B3:Hid (Below w.heap.size w (grow (redrawn W dq) osq)):=B2.out.trans ((below_regrown W dq osq).mono B2.out.size)
  generalize grow (redrawn W dq) osq=w3 at *
  clear k0' k1' k2' k3' s0' s2' s3' HO he
  go_wp2
  go_ret
  exact ⟨by rw [HV.out];rfl,B3.out⟩
 case inl=>
  have HV:Hid (qc9 n p [a,b,c,d] os code=outB os):=by simp [Hid,qc9,t1,t2,t3]
  clear t1
  refine wp_region_quiet_below (by kernel_rfl) (by kernel_rfl) ?_
  repeat (quiet_step (first|(go_at_call 230;exact Calls.regrown_of (qdb _ _ _ _ _))|(go_at_call 231;exact Calls.regrown_same (qez _ _))|(go_at_call 76;exact Calls.regrown_same (isBelow_any _ _ _))|(go_at_call 232;exact Calls.regrown_same (qf8 _ _ _ _ ho (HO.out _ _)))))
  refine wpQuiet_nil ?_
  intro _ hw'
  obtain ⟨⟨dq,osq⟩,hw''⟩:=hw'
  subst hw''
  have B3:Hid (Below w.heap.size w (grow (redrawn W dq) osq)):=B2.out.trans ((below_regrown W dq osq).mono B2.out.size)
  generalize grow (redrawn W dq) osq=w3 at *
  clear k0' k1' k2' k3' s0' s2' s3' HO he
  go_wp2
  go_ret
  exact ⟨by rw [HV.out];rfl,B3.out⟩
theorem qiu (la:Option Addr) (n lc:Nat) (p code:Int) (ra oa:Option Addr) (rc on oc:Nat) (rs:List Int) (w:World) (h4:rs.length≠4) (h1:Sl w ra rs):
  Calls Tryz.prog 202 #[.slice la n lc,stV p ra rs.length rc oa on oc code] w fun e w'=>e=.returned (.bool false)/\Below w.heap.size w w':=by
 have H1:Hid (Sl w ra rs):=h1
 have h4':((rs.length:Int) == 4)=false:=by simp;omega
 clear h1 h4
 go_enter Tryz.func202,Tryz.ntmps202
 go_wp2_with fail
 refine (qcn ra rc rs _ (H1.out.below (by go_grown))).mono ?_
 rintro e w1 ⟨⟨a,b,c,d,rfl,hr⟩,b1⟩
 have B1:Hid (Below w.heap.size w w1):=qah (by go_grown) b1 (by simp)
 have y0:w.heap.size<w1.heap.size:=by have:=b1.size;simp at this;omega
 clear b1 hr
 go_wp2_with fail
 have B2:Hid (Below w.heap.size w (w1.alloc (.cells #[.int .i64 a,.int .i64 b,.int .i64 c,.int .i64 d] 235))):=B1.out.alloc (by omega) _
 generalize (w1.alloc (.cells #[.int .i64 a,.int .i64 b,.int .i64 c,.int .i64 d] 235))=W at *
 go_quiet (fail)
 go_wp2
 go_ret
 exact ⟨rfl,yE B2.out _⟩
theorem qed (la:Option Addr) (n lc:Nat) (p code:Int) (ra oa:Option Addr) (rc oc:Nat) (rs os:List Int) (w:World) (ho:os.length<=1048576) (h1:Sl w ra rs) (h2:Sl w oa os):
  Calls Tryz.prog 202 #[.slice la n lc,stV p ra rs.length rc oa os.length oc code] w fun e w'=>e=.returned (.bool (qc9 n p rs os code))/\Below w.heap.size w w':=by
 by_cases h4:rs.length=4
 ·match rs,h4,h1 with
  | [a,b,c,d],_,h1=>exact qhz la n lc p code ra oa rc oc a b c d os w ho h1 h2
 ·have hv:qc9 n p rs os code=false:=by
   have:((rs.length:Int) == 4)=false:=by simp;omega
   simp [qc9,qc8,this]
  rw [hv]
  exact qiu la n lc p code ra oa rc os.length oc rs w h4 h1
theorem qk7:∃ i,Tryz.prog.info? 3=some i/\i.zero=some (.int .i64 0)/\i.size=1/\i.bytes=8:=by
 have hinfo:=qpj
 cases hi:Tryz.prog.info? 3 with
 | none=>rw [hi] at hinfo;cases hinfo
 | some i=>
  rw [hi] at hinfo
  simp only [Option.map_some,Option.some.injEq,Prod.mk.injEq] at hinfo
  exact ⟨i,rfl,hinfo⟩
theorem qi5 (w:World) (ty:TypeId) (B c:Nat) (v:Value) (xs:List Int) (h:OwnI w B v xs):
  (Builtin.append_ #[47,47] ty #[v,.slice none 0 c]).run Tryz.prog w=.ok v w:=by
 obtain ⟨i,hi,_⟩:=qk7
 rcases h.2 with ⟨rfl,_⟩ | ⟨g,cap,cur,rfl,_,_,hnc,_⟩
 ·simp [Builtin.append_,run_underlying Tryz.underlying47,sizeOf,typeInfo,hi,Builtin.lenOf,Builtin.firstCells]
 ·simp [Builtin.append_,run_underlying Tryz.underlying47,sizeOf,typeInfo,hi,Builtin.lenOf,Builtin.firstCells,hnc,storeCells]
theorem qem (w:World) (ty:TypeId) (B c:Nat) (v:Value) (a0:Option Addr) (xs ys:List Int) (h:OwnI w B v xs) (hy:Sl w a0 ys) (hn:xs.length+ys.length<=4000000) (hB:B<=w.heap.size):
  ∃ v' w',(Builtin.append_ #[47,47] ty #[v,.slice a0 ys.length c]).run Tryz.prog w=.ok v' w'/\OwnI w' B v' (xs ++ ys)/\w.grownBy w' v.ownBlock/\(v'.ownBlock=v.ownBlock\/v'.ownBlock=some w.heap.size):=by
 obtain ⟨i,hi,hz,hs,hb⟩:=qk7
 cases a0 with
 | none=>
  have hy0:ys=[]:=by
   rcases hy with h0 | ⟨b,off,e,_⟩
   ·exact h0
   ·cases e
  subst hy0
  exact ⟨v,w,qi5 w ty B c v xs h,by simpa using h,World.grownBy.refl _ _,.inl rfl⟩
 | some a=>
  have hnews:∀ j u,(ys.map (Value.int .i64))[j]? = some u->w.cell? (a.add j)=some u:=by
   rcases hy with h0 | ⟨b,off,e,hlt,hc⟩
   ·subst h0;intro j u hj;simp at hj
   ·cases e
    exact qjb (.inr ⟨b,off,rfl,hlt,hc⟩) (Below.refl _ _)
  obtain ⟨v',w',h1,h2,h3,_,h5⟩:=run_append_own_at (P:=Tryz.prog) w B 47 ty 3 i (.int .i64 0) 1 8 Tryz.underlying47 hi hz hs hb rfl (by decide) v xs.length (xs.map (Value.int .i64)) h a ys.length c (ys.map (Value.int .i64)) (by simp) hnews (qf7 ys) (by unfold maxLen;omega) (by omega) hB
  refine ⟨v',w',h1,?_,h3,h5⟩
  unfold OwnI
  rw [List.length_append,List.map_append]
  exact h2
theorem qba {ops:Array Oper} {rest:List Oper} {op:Oper} {act:Act} {Q:Exit->Act->World->Prop} (w:World) (hgd:op.guard=none) (s x:Operand)
  (ho:op.op=.call { callee:=.builtin .append,args:=#[s,x],argTypes:=#[47,47] })
  (B c:Nat) (v:Value) (a0:Option Addr) (xs ys:List Int) (hs:act.eval s=v) (hx:act.eval x=.slice a0 ys.length c) (hv:OwnI w B v xs) (hy:Sl w a0 ys) (hn:xs.length+ys.length<=4000000) (hB:B<=w.heap.size)
  (h:∀ v' w',OwnI w' B v' (xs ++ ys)->w.grownBy w' v.ownBlock->(v'.ownBlock=v.ownBlock\/v'.ownBlock=some w.heap.size)->wpList Tryz.prog ops Q rest (act.put op.dst v') w'):
  wpList Tryz.prog ops Q (op :: rest) act w:=by
 obtain ⟨v',w',h1,h2,h3,h4⟩:=qem w op.type B c v a0 xs ys hv hy hn hB
 refine wpList_plain hgd fun K hK=>?_
 unfold Oper.wp execOp
 simp only [ho,resolve,invoke,builtin,Sem.run_bind,Sem.run_pure,Result.andThen_ok,List.map_toArray,List.map_cons,List.map_nil,hs,hx,h1]
 exact hK _ _ (h v' w' h2 h3 h4)
theorem qb6 (w:World):OwnI (w.alloc (.cells #[] 3)) w.heap.size (.slice (some ⟨w.heap.size,0,none⟩) 0 0) []:=
 World.ownsRow_made (base:=w.heap.size) (e:=3) (size:=1) w #[] 0 (Nat.le_refl _) (by unfold maxLen;omega) rfl
theorem qe2 (w:World) {N:Nat} (h:N=w.heap.size):OwnI (w.alloc (.cells #[] 3)) N (.slice (some ⟨N,0,none⟩) 0 0) []:=by
 subst h
 exact qb6 w
theorem qdt {ops:Array Oper} {rest:List Oper} {op:Oper} {act:Act} {Q:Exit->Act->World->Prop} (w:World) {N:Nat} (hN:N=w.heap.size) (hgd:op.guard=none) (s x:Operand)
  (ho:op.op=.call { callee:=.builtin .append,args:=#[s,x],argTypes:=#[47,47] })
  (c:Nat) (a0:Option Addr) (ys:List Int) (hs:act.eval s=.slice (some ⟨N,0,none⟩) 0 0) (hx:act.eval x=.slice a0 ys.length c) (hy:Sl w a0 ys) (hn:ys.length<=1048576)
  (h:∀ v' w',OwnI w' w.heap.size v' ys->Below w.heap.size w w'->wpList Tryz.prog ops Q rest (act.put op.dst v') w'):
  wpList Tryz.prog ops Q (op :: rest) act (w.alloc (.cells #[] 3)):=by
 subst hN
 have hb:Below w.heap.size w (w.alloc (.cells #[] 3)):=(Below.refl _ _).alloc (Nat.le_refl _) _
 refine qba _ hgd s x ho w.heap.size c (.slice (some ⟨w.heap.size,0,none⟩) 0 0) a0 [] ys hs hx (qb6 w) (hy.below hb) (by simp;omega) (by simp) ?_
 intro v' w' o g _
 exact h v' w' (by simpa using o) (hb.grown g (by simp) (fun k hk=>by cases hk;exact Nat.le_refl _))
def STOP (p:Prop):Prop:=p
theorem qdu {P:Program} {ops:Array Oper} {rest:List Oper} {op:Oper} {act:Act} {Q:Exit->Act->World->Prop} {w:World} {a:Array Operand} {t:Array TypeId} (_:op.op=.call { callee:=.builtin .append,args:=a,argTypes:=t }) (h:STOP (wpList P ops Q (op :: rest) act w)):wpList P ops Q (op :: rest) act w:=h
theorem qfx (a0:Option Addr) (cap:Nat) (xs:List Int) (w:World) (hlen:xs.length<=1048576) (h:Sl w a0 xs):
  Calls Tryz.prog 193 #[.slice a0 xs.length cap] w fun e w'=>∃ v,e=.returned v/\OwnI w' w.heap.size v xs/\Below w.heap.size w w':=by
 cases a0 with
 | none=>
  have h0:xs=[]:=by
   rcases h with h0 | ⟨b,off,e,_⟩
   ·exact h0
   ·cases e
  subst h0
  have he:∀ wx:World,(binOp .eql 47 (.slice none 0 cap) (.slice none 0 0)).run Tryz.prog wx=.ok (.bool true) wx:=fun wx=>by kernel_rfl
  go_enter Tryz.func193,Tryz.ntmps193
  go_wp2
  go_ret
  exact ⟨_,rfl,World.ownsRow_nil _ _ _ _,Below.refl _ _⟩
 | some a=>
  have HS:Hid (Sl w (some a) xs):=h
  have he:∀ wx:World,(binOp .eql 47 (.slice (some a) xs.length cap) (.slice none 0 0)).run Tryz.prog wx=.ok (.bool false) wx:=fun wx=>by kernel_rfl
  clear h
  go_enter Tryz.func193,Tryz.ntmps193
  go_wp2_with (at_builtin;refine qba _ rfl _ _ rfl w.heap.size cap (.slice (some ⟨w.heap.size,0,none⟩) 0 0) (some a) [] xs rfl rfl (qb6 w) (HS.out.below ((Below.refl _ _).alloc (Nat.le_refl _) _)) (by simp;omega) (by simp) ?_;intro v' w1 o1 g1 _;have HF:Hid (OwnI w1 w.heap.size v' xs/\Below w.heap.size w w1):=⟨by simpa using o1,((Below.refl _ _).alloc (Nat.le_refl _) _).grown g1 (by simp) (fun k hk=>by cases hk;exact Nat.le_refl _)⟩;clear o1 g1)
  go_ret
  exact ⟨_,rfl,HF.out⟩
theorem qfz (p code:Int) (ra oa:Option Addr) (rc oc:Nat) (rs os:List Int) (w:World) (hr:rs.length<=1048576) (ho:os.length<=1048576) (h1:Sl w ra rs) (h2:Sl w oa os):
  Calls Tryz.prog 134 #[stV p ra rs.length rc oa os.length oc code] w fun e w'=>∃ v,e=.returned v/\qaf w' w.heap.size v p rs os code/\Below w.heap.size w w':=by
 have H1:Hid (Sl w ra rs):=h1
 have H2:Hid (Sl w oa os):=h2
 clear h1 h2
 go_enter Tryz.func134,Tryz.ntmps134
 go_wp2_with fail
 refine (qfx ra rc rs _ hr (H1.out.below (by go_grown))).mono ?_
 rintro e w1 ⟨v1,rfl,o1,b1⟩
 have B1:Hid (Below w.heap.size w w1):=qah (by go_grown) b1 (by simp;omega)
 obtain ⟨hc1,hf1⟩:=qam b1
 have y1:w.heap.size+1<w1.heap.size:=by have:=b1.size;simp at this;omega
 have y0:w.heap.size<w1.heap.size:=by omega
 obtain ⟨ra1,rc1,rfl,_⟩:=o1.form
 have s0:w1.cell? ⟨w.heap.size,0,none⟩=some (.int .i64 p):=by rw [hc1 _ _ (by simp;omega)];simp
 have s1:w1.cell? ⟨w.heap.size,1,none⟩=some (.slice ra rs.length rc):=by rw [hc1 _ _ (by simp;omega)];simp
 have s2:w1.cell? ⟨w.heap.size,2,none⟩=some (.slice oa os.length oc):=by rw [hc1 _ _ (by simp;omega)];simp
 have s3:w1.cell? ⟨w.heap.size,3,none⟩=some (.int .i64 code):=by rw [hc1 _ _ (by simp;omega)];simp
 have L1:Hid (∀ k,(Value.slice ra1 rs.length rc1).ownBlock=some k->w.heap.size+1<k/\k<w1.heap.size):=fun k hk=>by have:=o1.lt k hk;simp at this;omega
 have BS:Hid (Below w.heap.size w (w1.setCell ⟨w.heap.size,1,none⟩ (.slice ra1 rs.length rc1))):=B1.out.setCell (by simp) _
 have O1:Hid (OwnI (w1.setCell ⟨w.heap.size,1,none⟩ (.slice ra1 rs.length rc1)) (w.heap.size+1+1) (.slice ra1 rs.length rc1) rs):=by
  simp only [World.size_alloc] at o1
  exact o1.setBelow (by simp;omega) _
 clear o1 b1 B1
 go_wp2_with fail
 refine (qfx oa oc os _ ho (H2.out.below BS.out)).mono ?_
 rintro e w2 ⟨v2,rfl,o2,b2⟩
 have B2:Hid (Below w.heap.size w w2):=qah BS.out b2 (by simp;omega)
 obtain ⟨hc2,hf2⟩:=qam b2
 obtain ⟨oa2,oc2,rfl,_⟩:=o2.form
 have O1':Hid (OwnI w2 (w.heap.size+1+1) (.slice ra1 rs.length rc1) rs):=O1.out.below b2
 simp only [World.size_setCell] at o2
 have O2:Hid (OwnI w2 w1.heap.size (.slice oa2 os.length oc2) os):=o2
 clear o2 b2 BS O1
 go_wp2
 refine bodyPost_ret (v:=stV p ra1 rs.length rc1 oa2 os.length oc2 code) (by simp [results,Tryz.results134,go_sem,hc2,y1,hc1]) rfl ⟨_,rfl,⟨_,_,rfl,?_,?_,?_⟩,?_⟩
 ·refine OwnI.mono (B:=w.heap.size+1+1) ?_ (by omega)
  repeat (refine OwnI.setBelow ?_ (by simp<;>omega) _)
  exact O1'.out
 ·refine OwnI.mono (B:=w1.heap.size) ?_ (by omega)
  repeat (refine OwnI.setBelow ?_ (by simpa using by omega) _)
  exact O2.out
 ·intro k hk hk'
  have h1:=L1.out k hk
  have h2:=O2.out.lt k hk'
  omega
 ·have:=B2.out
  go_grown
theorem qb2 (p code:Int) (ra oa:Option Addr) (rc oc:Nat) (rs os:List Int) (w:World) (hr:rs.length<=1048576) (ho:os.length<=1048576) (h1:Sl w ra rs) (h2:Sl w oa os):
  Calls Tryz.prog 126 #[stV p ra rs.length rc oa os.length oc code] w fun e w'=>∃ v,e=.returned v/\qaf w' w.heap.size v p rs os code/\Below w.heap.size w w':=by
 have H1:Hid (Sl w ra rs):=h1
 have H2:Hid (Sl w oa os):=h2
 clear h1 h2
 go_enter Tryz.func126,Tryz.ntmps126
 go_wp2_with (at_builtin;refine qdu rfl ?_)
 unfold STOP
 refine qdt _ (N:=w.heap.size+1+1) (by simp) rfl _ _ rfl rc ra rs rfl rfl (H1.out.below (by go_grown)) hr ?_
 intro v1 w1 o1 b1
 have B1:Hid (Below w.heap.size w w1):=qah (by go_grown) b1 (by simp;omega)
 obtain ⟨hc1,hf1⟩:=qam b1
 have y1:w.heap.size+1<w1.heap.size:=by have:=b1.size;simp at this;omega
 have y0:w.heap.size<w1.heap.size:=by omega
 obtain ⟨ra1,rc1,rfl,_⟩:=o1.form
 have s0:w1.cell? ⟨w.heap.size,0,none⟩=some (.int .i64 p):=by rw [hc1 _ _ (by simp;omega)];simp
 have s1:w1.cell? ⟨w.heap.size,1,none⟩=some (.slice ra rs.length rc):=by rw [hc1 _ _ (by simp;omega)];simp
 have s2:w1.cell? ⟨w.heap.size,2,none⟩=some (.slice oa os.length oc):=by rw [hc1 _ _ (by simp;omega)];simp
 have s3:w1.cell? ⟨w.heap.size,3,none⟩=some (.int .i64 code):=by rw [hc1 _ _ (by simp;omega)];simp
 have L1:Hid (∀ k,(Value.slice ra1 rs.length rc1).ownBlock=some k->w.heap.size+1<k/\k<w1.heap.size):=fun k hk=>by have:=o1.lt k hk;simp at this;omega
 have BS:Hid (Below w.heap.size w (w1.setCell ⟨w.heap.size,1,none⟩ (.slice ra1 rs.length rc1))):=B1.out.setCell (by simp) _
 have O1:Hid (OwnI (w1.setCell ⟨w.heap.size,1,none⟩ (.slice ra1 rs.length rc1)) (w.heap.size+1+1) (.slice ra1 rs.length rc1) rs):=by
  simp only [World.size_alloc] at o1
  exact o1.setBelow (by simp;omega) _
 clear o1 b1 B1
 go_wp2_with (at_builtin;refine qdu rfl ?_)
 unfold STOP
 refine qdt (w1.setCell ⟨w.heap.size,1,none⟩ (.slice ra1 rs.length rc1)) (N:=w1.heap.size) (by simp) rfl _ _ rfl oc oa os rfl rfl (H2.out.below BS.out) ho ?_
 intro v2 w2 o2 b2
 have B2:Hid (Below w.heap.size w w2):=qah BS.out b2 (by simp;omega)
 obtain ⟨hc2,hf2⟩:=qam b2
 obtain ⟨oa2,oc2,rfl,_⟩:=o2.form
 have O1':Hid (OwnI w2 (w.heap.size+1+1) (.slice ra1 rs.length rc1) rs):=O1.out.below b2
 simp only [World.size_setCell] at o2
 have O2:Hid (OwnI w2 w1.heap.size (.slice oa2 os.length oc2) os):=o2
 clear o2 b2 BS O1
 go_wp2
 refine bodyPost_ret (v:=stV p ra1 rs.length rc1 oa2 os.length oc2 code) (by simp [results,Tryz.results126,go_sem,hc2,y1,hc1]) rfl ⟨_,rfl,⟨_,_,rfl,?_,?_,?_⟩,?_⟩
 ·refine OwnI.mono (B:=w.heap.size+1+1) ?_ (by omega)
  repeat (refine OwnI.setBelow ?_ (by simp<;>omega) _)
  exact O1'.out
 ·refine OwnI.mono (B:=w1.heap.size) ?_ (by omega)
  repeat (refine OwnI.setBelow ?_ (by simpa using by omega) _)
  exact O2.out
 ·intro k hk hk'
  have h1:=L1.out k hk
  have h2:=O2.out.lt k hk'
  omega
 ·have:=B2.out
  go_grown
theorem qtx (p:Int) (n:Nat):inB p 0 ((n:Int) - 1)=belB p n:=by
 rw [Bool.eq_iff_iff];simp [inB,belB];omega
