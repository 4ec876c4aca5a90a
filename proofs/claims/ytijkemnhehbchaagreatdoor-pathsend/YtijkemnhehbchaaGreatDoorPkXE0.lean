/- BoG · PoA · MvH · GeA · GeH · GeI · GeL · LeD · LeJ · LeL · LeH · LeI · PaA · PaC · PaK · PaL: my texts, in their order. -/
import Derived.Test.YtijkemnhehbchaaGreatDoorPkXAE0
import Derived.Test.YtijkemnhehbchaaGreatDoorPkXAE1
import Derived.Test.YtijkemnhehbchaaGreatDoorPkXAE2
import Derived.Test.YtijkemnhehbchaaGreatDoorPkXAE3
import Derived.Test.YtijkemnhehbchaaGreatDoorPkA
import Derived.Test.YtijkemnhehbchaaGreatDoorPkB
import Derived.Test.YtijkemnhehbchaaGreatDoorPkC
import Derived.Test.YtijkemnhehbchaaGreatDoorPkD
import Derived.Test.YtijkemnhehbchaaGreatDoorPkE
import Derived.Test.YtijkemnhehbchaaGreatDoorPkF
import Derived.Test.YtijkemnhehbchaaGreatDoorPkGa
import Derived.Test.YtijkemnhehbchaaGreatDoorPkGb
import Derived.Test.YtijkemnhehbchaaGreatDoorPkGc
import Derived.Test.YtijkemnhehbchaaGreatDoorPkGd
import Derived.Test.YtijkemnhehbchaaGreatDoorPkGe
import Derived.Test.YtijkemnhehbchaaGreatDoorPkGh
import Derived.Test.YtijkemnhehbchaaGreatDoorPkH
import Derived.Test.YtijkemnhehbchaaGreatDoorPkI
import Derived.Test.YtijkemnhehbchaaGreatDoorPkJ
import Derived.Test.YtijkemnhehbchaaGreatDoorPkK
import Derived.Test.YtijkemnhehbchaaGreatDoorPkL
import Derived.Test.YtijkemnhehbchaaGreatDoorPkLa
import Derived.Test.YtijkemnhehbchaaGreatDoorPkLd
import Derived.Test.YtijkemnhehbchaaGreatDoorPkLe
import Derived.Test.YtijkemnhehbchaaGreatDoorPkLf
import Derived.Test.YtijkemnhehbchaaGreatDoorPkLg
import Derived.Test.YtijkemnhehbchaaGreatDoorPkLh
import Derived.Test.YtijkemnhehbchaaGreatDoorPkM
import Derived.Test.YtijkemnhehbchaaGreatDoorPkR
import Derived.Test.YtijkemnhehbchaaGreatDoorPkRa
import Derived.Test.YtijkemnhehbchaaGreatDoorPkRb
import Derived.Test.YtijkemnhehbchaaGreatDoorPkRd
import Derived.Test.YtijkemnhehbchaaGreatDoorPkRe
import Derived.Test.YtijkemnhehbchaaGreatDoorPkRf
import Derived.Test.YtijkemnhehbchaaGreatDoorPkRg
import Derived.Test.YtijkemnhehbchaaGreatDoorPkRh
import Derived.Test.YtijkemnhehbchaaGreatDoorPkRk
import Derived.Laws.StructEq
namespace Go.Proofs.YtijkemnhehbchaaGreatDoor
open Go.RowKit
set_option linter.unusedVariables false
set_option linter.unusedSimpArgs false
set_option maxRecDepth 100000
theorem beqB_refl (A:List Int):beqB A A=true:=by unfold beqB;simp
def beqP (p q:Ps):Bool:=beqB p.B q.B && (p.t == q.t) && (p.c == q.c) && (p.e == q.e)
theorem beqP_refl (p:Ps):beqP p p=true:=by simp [beqP,beqB_refl]
theorem fieldsP : (Tryz.prog.fieldsOf 26).toList.map (fun f => (f.name == "_", f.type, f.offset)) = [(false, 24, 0), (false, 3, 64), (false, 3, 65), (false, 3, 66)] := by kernel_rfl
theorem stoodP:Tryz.prog.stoodInHeld 26=false:=by kernel_rfl
theorem eqGuardP:Tryz.prog.eqGuardType Tryz.prog.depth 26=false:=by kernel_rfl
theorem run_part_b {p:Ps} (h:p.B.length=64) (w:World):(part 24 (pl p).toArray 0).run Tryz.prog w=.ok (.agg (cl p.B).toArray) w:=by
 have hs:(sizeOf 24).run Tryz.prog w=.ok 64 w:=by
  cases hq:Tryz.prog.info? 24 with
  | none=>have:=size24;simp [hq] at this
  | some i=>have:=size24;simp [hq] at this;simp [sizeOf,typeInfo,hq,this]
 have hl:(cl p.B).length=64:=by rw [cl_length,h]
 simp only [part,isAgg,Sem.run_bind,run_underlying Tryz.underlying24,Result.andThen_ok,Sem.run_pure,if_true,hs]
 simp [pl,List.take_append,hl]
theorem run_part_i {p:Ps} (h:p.B.length=64) (k:Nat) {x:Int} (hk:(tlP p)[k]?=some (.int .i64 x)) (w:World):(part 3 (pl p).toArray (64+k)).run Tryz.prog w=.ok (.int .i64 x) w:=by
 have hl:(cl p.B).length=64:=by rw [cl_length,h]
 have h2:(pl p)[64+k]?=some (.int .i64 x):=by
  unfold pl
  rw [List.getElem?_append_right (by omega),show 64+k-(cl p.B).length=k by omega,hk]
 simp [part,isAgg,run_underlying Tryz.underlying3,h2]
theorem run_equal_p {p q:Ps} (hp:p.B.length=64) (hq:q.B.length=64) (w:World) :
  (Op.equalIn 10000 26 (.agg (pl p).toArray) (.agg (pl q).toArray)).run Tryz.prog w=.ok (beqP p q) w:=by
 have hu:Tryz.prog.underlying 26=some (.struct (Tryz.prog.fieldsOf 26)):=by kernel_rfl
 rw [run_equalIn_struct w 9999 _ _ _ hu stoodP]
 obtain ⟨f0, f1, f2, f3, hf, n0, t0, o0, n1, t1, o1, n2, t2, o2, n3, t3, o3⟩ : ∃ f0 f1 f2 f3, (Tryz.prog.fieldsOf 26).toList = [f0, f1, f2, f3] ∧ f0.name ≠ "_" ∧ f0.type = 24 ∧ f0.offset = 0 ∧
   f1.name ≠ "_" ∧ f1.type = 3 ∧ f1.offset = 64 ∧ f2.name ≠ "_" ∧ f2.type = 3 ∧ f2.offset = 65 ∧ f3.name ≠ "_" ∧ f3.type = 3 ∧ f3.offset = 66 := by
  have h:=fieldsP
  generalize (Tryz.prog.fieldsOf 26).toList=fs at h
  have hl:fs.length=4:=by simpa using congrArg List.length h
  match fs,hl with
  | [f0,f1,f2,f3],_ =>
   simp only [List.map_cons,List.map_nil,List.cons.injEq,Prod.mk.injEq,beq_eq_false_iff_ne,and_true] at h
   exact ⟨f0,f1,f2,f3,rfl,h.1.1,h.1.2.1,h.1.2.2,h.2.1.1,h.2.1.2.1,h.2.1.2.2,h.2.2.1.1,h.2.2.1.2.1,h.2.2.1.2.2,h.2.2.2.1,h.2.2.2.2.1,h.2.2.2.2.2⟩
 have i8:∀ a b:Int,(Op.equalIn 9999 3 (.int .i64 a) (.int .i64 b)).run Tryz.prog w=.ok (a == b) w:=fun a b=>run_equalIn_int w 9998 _ _ _ a b Tryz.underlying3
 have eb:(Op.equalIn 9999 24 (.agg (cl p.B).toArray) (.agg (cl q.B).toArray)).run Tryz.prog w=.ok (beqB p.B q.B) w:=by
  obtain ⟨i,hi⟩:∃ i,Tryz.prog.info? 22=some i:=by
   cases hq:Tryz.prog.info? 22 with
   | none=>have:=info22;simp [hq] at this
   | some i=>exact ⟨i,rfl⟩
  rw [run_equalIn_array w 9998 _ _ Tryz.underlying24 hi,cells22]
  exact run_eqItems_cl 9997 p.B q.B hp hq w _ (fun i hi=>by simpa using hi)
 have a1:=run_part_i hp 0 (show (tlP p)[0]?=some (.int .i64 p.t) from rfl) w
 have a2:=run_part_i hp 1 (show (tlP p)[1]?=some (.int .i64 p.c) from rfl) w
 have a3:=run_part_i hp 2 (show (tlP p)[2]?=some (.int .i64 p.e) from rfl) w
 have b1:=run_part_i hq 0 (show (tlP q)[0]?=some (.int .i64 q.t) from rfl) w
 have b2:=run_part_i hq 1 (show (tlP q)[1]?=some (.int .i64 q.c) from rfl) w
 have b3:=run_part_i hq 2 (show (tlP q)[2]?=some (.int .i64 q.e) from rfl) w
 rw [hf]
 unfold beqP
 rw [Op.eqFields,if_pos n0]
 simp only [Sem.run_bind,t0,o0,run_part_b hp,run_part_b hq,Result.andThen_ok,eb]
 cases beqB p.B q.B
 ·simp
 ·simp only [Bool.not_true,Bool.false_eq_true,if_false,Bool.true_and]
  rw [Op.eqFields,if_pos n1]
  simp only [Sem.run_bind,t1,o1,a1,b1,Result.andThen_ok,i8]
  cases p.t == q.t
  ·simp
  ·simp only [Bool.not_true,Bool.false_eq_true,if_false,Bool.true_and]
   rw [Op.eqFields,if_pos n2]
   simp only [Sem.run_bind,t2,o2,a2,b2,Result.andThen_ok,i8]
   cases p.c == q.c
   ·simp
   ·simp only [Bool.not_true,Bool.false_eq_true,if_false,Bool.true_and]
    rw [Op.eqFields,if_pos n3]
    simp only [Sem.run_bind,t3,o3,a3,b3,Result.andThen_ok,i8]
    cases p.e == q.e
    ·simp
    ·simp [Op.eqFields]
theorem run_eql_mv (a b:Mv) (w:World):(binOp .eql 54 (.agg (ml a).toArray) (.agg (ml b).toArray)).run Tryz.prog w=.ok (.bool (beqM a b)) w:=by
 simp only [binOp,Sem.run_bind,Op.equal,Op.maxDepth,run_equal_mv,Result.andThen_ok,Sem.run_pure]
theorem mem_fromI {p:Ps} (t01:p.t=0∨p.t=1) {m:Mv}:m ∈ fromI p m.f↔goesM p m=true:=by
 unfold fromI
 split
 ·next h=>rw [mem_fromN];exact ⟨fun a=>a.2,fun a=>⟨by omega,a⟩⟩
 ·next h=>exact ⟨fun a=>by simp at a,fun a=>absurd (by have:=form_on t01 (goes_form a);exact ⟨this.f0,this.f1⟩) h⟩
def fromR (p:Ps) (s:Int):List Mv:=if pwI p=0 then fromI p s else []
theorem fromg_in (g:Nat) (a:Addr) (p:Ps) (hB:Brd p.B) (hr:pwI p=0) (s:Int) (w:World) (hT:TabG w) (hE:EyeAt w g a) :
  Calls Tryz.prog 105 #[.pointer (some ⟨g,0,none⟩),.agg (pl p).toArray,.int .i64 s] w (NewM w (fromI p s)):=by
 have HP:=Qh (PAt.new w hB.1)
 have HK0:=Qh ((Kept.refl w).alloc (.cells (pl p).toArray 26))
 have HT:=Qh (hT.kept HK0.out)
 have HE:=Qh (hE.kept HK0.out)
 have HTl:Hid (∀ w,TabG w→Calls Tryz.prog 122 #[.pointer (some ⟨g,0,none⟩),.agg (pl p).toArray] w fun e w'=>e=.returned (.bool true)∧Kept w w'):=fun w hT=>by
  have:=tells_is ⟨g,0,none⟩ p hB w hT;rw [hr] at this;exact this
 have HF:=Qh (fun w hT hE=>from_is g a p hB hr s w hT hE)
 generalize fromI p s=R at *
 clear hB hr hT hE
 go_enter Tryz.func105,Tryz.ntmps105
 go_wp2_with (first|(refine wpList_load_ps (by rfl) _ rfl _ rfl _ (HP.out) ?_)|(refine wpList_load_pb (by rfl) _ rfl _ rfl _ (HP.out) ?_))
 refine (HTl.out _ HT.out).mono ?_
 rintro e X ⟨rfl,kX⟩
 have HKX:=Qh kX
 have HP1:=Qh (HP.out.kept kX)
 have HT1:=Qh (HT.out.kept kX)
 have HE1:=Qh (HE.out.kept kX)
 clear kX
 go_wp2_with (first|(refine wpList_load_ps (by rfl) _ rfl _ rfl _ (HP1.out) ?_)|(refine wpList_load_pb (by rfl) _ rfl _ rfl _ (HP1.out) ?_))
 refine (HF.out _ HT1.out HE1.out).mono ?_
 rintro e w2 ⟨v2,rfl,hO2,k2⟩
 obtain ⟨a2,c2,rfl⟩:=hO2.slice
 have HK2:=Qh (HKX.out.trans k2)
 have HO2:=Qh hO2
 clear hO2 k2
 generalize R.length=r at *
 go_wp2
 go_ret
 exact ⟨_,rfl,HO2.out.low (HK0.out.trans HKX.out).size,HK0.out.trans HK2.out⟩
theorem fromg_wrong (g:Addr) (p:Ps) (hB:Brd p.B) (hr:pwI p≠0) (s:Int) (w:World) (hT:TabG w) :
  Calls Tryz.prog 105 #[.pointer (some g),.agg (pl p).toArray,.int .i64 s] w (NewM w []):=by
 have HP:=Qh (PAt.new w hB.1)
 have HK0:=Qh ((Kept.refl w).alloc (.cells (pl p).toArray 26))
 have HT:=Qh (hT.kept HK0.out)
 have HTl:Hid (∀ w,TabG w→Calls Tryz.prog 122 #[.pointer (some g),.agg (pl p).toArray] w fun e w'=>e=.returned (.bool false)∧Kept w w'):=fun w hT=>by
  have:=tells_is g p hB w hT;rw [show (pwI p == 0)=false from beq_eq_false_iff_ne.2 hr] at this;exact this
 clear hB hr hT
 go_enter Tryz.func105,Tryz.ntmps105
 go_wp2_with (first|(refine wpList_load_ps (by rfl) _ rfl _ rfl _ (HP.out) ?_)|(refine wpList_load_pb (by rfl) _ rfl _ rfl _ (HP.out) ?_))
 refine (HTl.out _ HT.out).mono ?_
 rintro e X ⟨rfl,kX⟩
 have HKX:=Qh kX
 clear kX
 go_wp2
 go_ret
 exact ⟨_,rfl,OwnM.nil _ _,HK0.out.trans HKX.out⟩
theorem fromg_is (g:Nat) (a:Addr) (p:Ps) (hB:Brd p.B) (s:Int) (w:World) (hT:TabG w) (hE:EyeAt w g a) :
  Calls Tryz.prog 105 #[.pointer (some ⟨g,0,none⟩),.agg (pl p).toArray,.int .i64 s] w (NewM w (fromR p s)):=by
 unfold fromR
 by_cases h:pwI p=0
 ·rw [if_pos h];exact fromg_in g a p hB h s w hT hE
 ·rw [if_neg h];exact fromg_wrong _ p hB h s w hT
theorem take_eql_mv {ops:Array Oper} {S:World→Prop} {op:Oper} {ac:Act} {b:Bool} (hw:Region.wanted op (yielded ops ac.tmps)=true) (x y:Operand) (ty:TypeId) (ho:op.op=.binOp .eql 54 x y ty)
  (p q:Mv) (hx:ac.eval x=.agg (ml p).toArray) (hy:ac.eval y=.agg (ml q).toArray) (h:beqM p q=b):YieldsIf Tryz.prog ops S op (.bool b) ac :=
 .inl ⟨hw,fun w _=>by
  unfold execOp
  simp only [ho,hx,hy,Sem.run_bind,run_eqGuard_agg w _ _ _ _ _ _ eqGuardM,run_eql_mv,Result.andThen_ok,Sem.run_pure,h]⟩
def hasM (L:List Mv) (m:Mv):Bool:=L.any fun x=>beqM m x
theorem hasM_iff {L:List Mv} {m:Mv}:hasM L m=true↔m ∈ L:=by
 unfold hasM
 rw [List.any_eq_true]
 constructor
 ·rintro ⟨x,hx,h⟩;rw [(beqM_iff m x).1 h];exact hx
 ·intro h;exact ⟨m,h,beqM_refl m⟩
theorem hasM_no {L:List Mv} {m:Mv} (h:∀ i,i<L.length→L[i]?≠some m):hasM L m=false:=by
 rw [Bool.eq_false_iff]
 intro hc
 obtain ⟨i,hi,e⟩:=List.mem_iff_getElem.1 (hasM_iff.1 hc)
 exact h i hi (by rw [List.getElem?_eq_getElem hi,e])
set_option maxHeartbeats 2000000 in
theorem indexM_is (g:Nat) (v:Value) (L:List Mv) (m:Mv) (w:World) (h:LsM w g v L) :
  Calls Tryz.prog 127 #[v,.agg (ml m).toArray] w fun e w'=>∃ i:Int,e=.returned (.int .i64 i)∧decide (0≤i)=hasM L m∧Kept w w':=by
 have HM:=Qh (MAt.new w m)
 have HK0:=Qh ((Kept.refl w).alloc (.cells (ml m).toArray 54))
 by_cases hl:0<L.length
 ·obtain ⟨off,cap,rfl,h1,h2,h3⟩:=h.full hl
  have H3:=Qh (range_kept h3 HK0.out)
  generalize hn:L.length=n at *
  have HN:=Qh hn
  have hm:n≤maxLen:=by omega
  unfold maxLen at hm
  clear h h3 hn h2
  go_enter Tryz.func127,Tryz.ntmps127
  go_wp2
  go_loopw [8] (fun t8 wr=>∃ k:Nat,k≤n∧t8=.int .i64 k∧(∀ j,j<k→L[j]?≠some m)∧Kept (w.alloc (.cells (ml m).toArray 54)) wr) (fun t8 _=>n-(intOf t8).toNat)
  case atStart=>exact ⟨0,Nat.zero_le _,rfl,fun j hj=>by omega,Kept.refl _⟩
  case round =>
   obtain ⟨k,hk,rfl,hno,hK⟩:=hrel
   have HO:=Qh hno
   have HK:=Qh hK
   have HMr:=Qh (MAt.kept HM.out hK)
   clear hno
   by_cases hlt:k<n
   ·have hlt':(k:Int)<(n:Int):=by omega
    obtain ⟨x,hx⟩:∃ x,L[k]?=some x:=⟨_,List.getElem?_eq_getElem (by have:=HN.out;omega)⟩
    have HR:=Qh (range_i (range_kept H3.out hK) hx)
    have HX:=Qh hx
    clear hx hK
    cases hb:beqM m x
    ·have Hne:Hid (x≠m):=fun e=>by rw [e,beqM_refl] at hb;cases hb
     have Hb:=Qh hb
     clear hb
     go_wp2
     refine wp_region_held_drew (S:=Kept _) (by kernel_rfl) (Kept.refl _).drew (fun Qj=>?_)
     refine rY 0 11 rfl rfl (take_load_mv (by rfl) _ rfl _ rfl m (fun _ h=>MAt.kept (HMr.out) h)) Qj ?_
     simp only [pA,pN,sZ,sU]
     refine rT 1 12 (.slice (some ⟨g,off,none⟩) n cap) rfl rfl Qj ?_
     simp only [pA,pN,sZ,sU]
     refine rT 2 13 (.int .i64 (k:Int)) rfl rfl Qj ?_
     simp only [pA,pN,sZ,sU]
     refine rT 3 14 (.pointer (some ⟨g,off+k*3,none⟩)) rfl rfl Qj ?_
     simp only [pA,pN,sZ,sU]
     refine rY 4 15 rfl rfl (take_load_mvi (by rfl) _ rfl g (off+k*3) rfl x (fun _ h=>range_kept (HR.out) h)) Qj ?_
     simp only [pA,pN,sZ,sU]
     refine rY 5 16 rfl rfl (take_eql_mv (by rfl) _ _ _ rfl m x rfl rfl (Hb.out)) Qj ?_
     simp only [pA,pN,sZ,sU]
     refine wpAnyH_done (by kernel_rfl) ?_ _
     have HK2:=Qh (HK.out.trans Qj)
     clear Qj
     go_wp2
     go_roundw
     case rel=>exact ⟨k+1,by omega,by go_num,fun j hj=>by
      by_cases hji:j<k
      ·exact HO.out j hji
      ·obtain rfl:j=k:=by omega
       rw [HX.out]
       exact fun e=>Hne.out (Option.some.inj e),HK2.out⟩
     case measure=>simp [intOf];omega
    ·have Hy:Hid (hasM L m=true):=by show _=_;rw [hasM_iff,(beqM_iff m x).1 hb];exact List.mem_of_getElem? HX.out
     have Hb:=Qh hb
     clear hb
     go_wp2
     refine wp_region_held_drew (S:=Kept _) (by kernel_rfl) (Kept.refl _).drew (fun Qj=>?_)
     refine rY 0 11 rfl rfl (take_load_mv (by rfl) _ rfl _ rfl m (fun _ h=>MAt.kept (HMr.out) h)) Qj ?_
     simp only [pA,pN,sZ,sU]
     refine rT 1 12 (.slice (some ⟨g,off,none⟩) n cap) rfl rfl Qj ?_
     simp only [pA,pN,sZ,sU]
     refine rT 2 13 (.int .i64 (k:Int)) rfl rfl Qj ?_
     simp only [pA,pN,sZ,sU]
     refine rT 3 14 (.pointer (some ⟨g,off+k*3,none⟩)) rfl rfl Qj ?_
     simp only [pA,pN,sZ,sU]
     refine rY 4 15 rfl rfl (take_load_mvi (by rfl) _ rfl g (off+k*3) rfl x (fun _ h=>range_kept (HR.out) h)) Qj ?_
     simp only [pA,pN,sZ,sU]
     refine rY 5 16 rfl rfl (take_eql_mv (by rfl) _ _ _ rfl m x rfl rfl (Hb.out)) Qj ?_
     simp only [pA,pN,sZ,sU]
     refine wpAnyH_done (by kernel_rfl) ?_ _
     have HK2:=Qh (HK.out.trans Qj)
     clear Qj
     go_wp2
     go_ret
     exact ⟨(k:Int),rfl,by rw [Hy.out];simp,HK0.out.trans HK2.out⟩
   ·have Hn:=Qh (hasM_no (L:=L) (m:=m) (fun j hj=>HO.out j (by have:=HN.out;omega)))
    clear hK
    go_wp2
    go_ret
    exact ⟨-1,rfl,by rw [Hn.out];decide,HK0.out.trans HK.out⟩
 ·have h0:L=[]:=List.eq_nil_of_length_eq_zero (by omega)
  subst h0
  obtain ⟨a1,c1,rfl⟩:=h.slice
  go_enter Tryz.func127,Tryz.ntmps127
  go_wp2
  go_loopw [8] (fun t8 wr=>t8=.int .i64 0∧wr=w.alloc (.cells (ml m).toArray 54)) (fun _ _=>0)
  case atStart=>exact ⟨rfl,rfl⟩
  case round =>
   obtain ⟨rfl,rfl⟩:=hrel
   go_wp2
   go_ret
   exact ⟨-1,rfl,by rfl,HK0.out⟩
theorem contains_m (g:Nat) (v:Value) (L:List Mv) (m:Mv) (w:World) (h:LsM w g v L) :
  Calls Tryz.prog 104 #[v,.agg (ml m).toArray] w fun e w'=>e=.returned (.bool (hasM L m))∧Kept w w':=by
 have HM:=Qh (MAt.new w m)
 have HK0:=Qh ((Kept.refl w).alloc (.cells (ml m).toArray 54))
 have HI:=Qh (indexM_is g v L m _ (h.kept HK0.out))
 clear h
 go_enter Tryz.func104,Tryz.ntmps104
 go_wp2_with (refine wpList_load_mv (by rfl) _ rfl _ rfl _ HM.out ?_)
 refine HI.out.mono ?_
 rintro e w1 ⟨i,rfl,hi,k1⟩
 have HD:=Qh hi
 have HK1:=Qh (HK0.out.trans k1)
 clear hi k1
 go_wp2
 go_ret
 exact ⟨by rw [← HD.out];rfl,HK1.out⟩
theorem has_from (p:Ps) (m:Mv):hasM (fromR p m.f) m=((pwI p == 0) && goesM p m):=by
 unfold fromR
 by_cases h:pwI p=0
 ·rw [if_pos h,h,Bool.eq_iff_iff,hasM_iff,mem_fromI (right_t h).1];simp
 ·rw [if_neg h,show (pwI p == 0)=false from beq_eq_false_iff_ne.2 h];rfl
set_option maxHeartbeats 2000000 in
theorem goes_is (g:Nat) (a:Addr) (p:Ps) (hB:Brd p.B) (m:Mv) (w:World) (hT:TabG w) (hE:EyeAt w g a) :
  Calls Tryz.prog 83 #[.pointer (some ⟨g,0,none⟩),.agg (pl p).toArray,.agg (ml m).toArray] w fun e w'=>e=.returned (.bool ((pwI p == 0) && goesM p m))∧Kept w w':=by
 have HP:Hid (PAt _ _ p):=⟨hB.1,heap_alloc2_old w (.cells (pl p).toArray 26) (.cells (ml m).toArray 54)⟩
 have HM:Hid (MAt _ _ m):=⟨heap_alloc2_new w (.cells (pl p).toArray 26) (.cells (ml m).toArray 54)⟩
 have HK0:=Qh (((Kept.refl w).alloc (.cells (pl p).toArray 26)).alloc (.cells (ml m).toArray 54))
 have HT:=Qh (hT.kept HK0.out)
 have HE:=Qh (hE.kept HK0.out)
 have hpl:Hid (p.B.length=64):=hB.1
 have HF:=Qh (fun w hT hE=>fromg_is g a p hB m.f w hT hE)
 have HV:=Qh (has_from p m)
 generalize fromR p m.f=R at *
 clear hB hT hE
 go_enter Tryz.func83,Tryz.ntmps83
 go_wp2
 refine wp_region_held_drew (S:=Kept _) (by kernel_rfl) (Kept.refl _).drew (fun Qj=>?_)
 refine rT 0 7 (.pointer (some ⟨g,0,none⟩)) rfl rfl Qj ?_
 simp only [pA,pN,sZ,sU]
 refine rY 1 8 rfl rfl (take_load_ps (by rfl) _ rfl _ rfl p hpl.out (fun _ h=>(HP.out).kept h)) Qj ?_
 simp only [pA,pN,sZ,sU]
 refine rT 2 9 (.pointer (some ⟨w.heap.size+1,0,none⟩)) rfl rfl Qj ?_
 simp only [pA,pN,sZ,sU]
 refine rC 3 10 (.int .i64 m.f) rfl rfl (fun _ h=>kept_cell h (HM.out.f)) Qj ?_
 simp only [pA,pN,sZ,sU]
 refine rY 5 12 rfl rfl (take_load_mv (by rfl) _ rfl _ rfl m (fun _ h=>MAt.kept (HM.out) h)) Qj ?_
 simp only [pA,pN,sZ,sU]
 refine rR 4 rfl (fun K hK=>?_)
 go_simp
 refine (HF.out _ (HT.out.kept Qj) (HE.out.kept Qj)).mono ?_
 rintro e x1 ⟨vx1,rfl,hox1,gx1⟩
 obtain ⟨ax1,cx1,rfl⟩:=hox1.slice
 have HOx1:=Qh hox1
 clear hox1
 refine hK.out _ _ (Qj.trans gx1) (fun _=>?_)
 replace Qj:=Qj.trans gx1
 clear hK K
 obtain ⟨g1,hl1,_⟩:=HOx1.out.ls
 refine rR 6 rfl (fun K hK=>?_)
 go_simp
 refine (contains_m g1 _ R m _ hl1).mono ?_
 rintro e x2 ⟨rfl,gx2⟩
 refine hK.out _ _ (Qj.trans gx2) (fun _=>?_)
 replace Qj:=Qj.trans gx2
 clear hK K
 refine rT 7 6 (.bool (hasM R m)) rfl rfl Qj ?_
 simp only [pA,pN,sZ,sU]
 refine wpAnyH_done (by kernel_rfl) ?_ _
 have HK2:=Qh (HK0.out.trans Qj)
 clear Qj gx1 gx2 hl1
 generalize hasM R m=b at *
 go_wp2
 go_ret
 exact ⟨by rw [← HV.out];rfl,HK2.out⟩
theorem rgoes_is (p:Ps) (hB:Brd p.B) (hr:pwI p=0) (m:Mv) (w:World):Calls Tryz.prog 62 #[.agg (pl p).toArray,.agg (ml m).toArray] w fun e w'=>e=.returned (.bool (goesM p m))∧Kept w w':=by
 have HP:Hid (PAt _ _ p):=⟨hB.1,heap_alloc2_old w (.cells (pl p).toArray 26) (.cells (ml m).toArray 54)⟩
 have HM:Hid (MAt _ _ m):=⟨heap_alloc2_new w (.cells (pl p).toArray 26) (.cells (ml m).toArray 54)⟩
 have HK0:=Qh (((Kept.refl w).alloc (.cells (pl p).toArray 26)).alloc (.cells (ml m).toArray 54))
 have HFo:=Qh (fun w=>rformed_is p hB (right_t hr).1 m w)
 cases hf:formB p m
 ·rw [hf] at HFo
  have HV:=Qh (goes_not hf)
  clear hB hr hf
  go_enter Tryz.func62,Tryz.ntmps62
  go_wp2_with (first|(refine wpList_load_ps (by rfl) _ rfl _ rfl _ (HP.out) ?_)|(refine wpList_load_pb (by rfl) _ rfl _ rfl _ (HP.out) ?_)|(refine wpList_load_mv (by rfl) _ rfl _ rfl _ (HM.out) ?_))
  refine (HFo.out _).mono ?_
  rintro e w1 ⟨rfl,k1⟩
  have HK1:=Qh (HK0.out.trans k1)
  clear k1
  go_wp2
  go_ret
  exact ⟨by rw [HV.out];rfl,HK1.out⟩
 ·rw [hf] at HFo
  obtain ⟨f,t,F⟩:=form_of hB (show okM p m=true by unfold okM;rw [hr,hf];rfl)
  have HPw:=Qh (fun w=>rpawn_is p.B hB f F.f1 w)
  cases hk:(kindI (p.B.getD f 0) == 1)
  ·rw [hk] at HPw
   have HH:=Qh (fun w=>hits_is p.B hB f F.f1 (t:Int) w)
   have HRt:=Qh (fun w=>rightR_is p hB (right_t hr).2.1.1 (right_t hr).2.1.2 (right_pos hr).2.2.2.1 m f t F.hf F.ht F.f1 F.t1 w)
   have hgt:=right_gt (p:=p) (m:=m)
   have hV:=goes_man hf (by rw [F.pb,hk])
   rw [← hgt,F.hf,F.ht] at hV
   have HV:=Qh hV
   have hcf:=HM.out.f
   have hct:=HM.out.t
   rw [F.hf] at hcf
   rw [F.ht] at hct
   generalize hitB p.B (f:Int) (t:Int)=hb at *
   generalize hR (castN p m)=x at *
   have hcT:=Qh hct
   clear hB hr hf hk F hgt hV hct
   cases hb
   ·go_enter Tryz.func62,Tryz.ntmps62
    go_wp2_with (first|(refine wpList_load_ps (by rfl) _ rfl _ rfl _ (HP.out) ?_)|(refine wpList_load_pb (by rfl) _ rfl _ rfl _ (HP.out) ?_)|(refine wpList_load_mv (by rfl) _ rfl _ rfl _ (HM.out) ?_))
    refine (HFo.out _).mono ?_
    rintro e w1 ⟨rfl,k1⟩
    have HK1:=Qh (HK0.out.trans k1)
    have HP1:=Qh (HP.out.kept k1)
    have HM1:=Qh (MAt.kept HM.out k1)
    have hcf1:=kept_cell k1 hcf
    have hct1:=kept_cell k1 hcT.out
    clear k1 hcf
    go_wp2_with (first|(refine wpList_load_ps (by rfl) _ rfl _ rfl _ (HP1.out) ?_)|(refine wpList_load_pb (by rfl) _ rfl _ rfl _ (HP1.out) ?_)|(refine wpList_load_mv (by rfl) _ rfl _ rfl _ (HM1.out) ?_))
    refine (HPw.out _).mono ?_
    rintro e w2 ⟨rfl,k2⟩
    have HK2:=Qh (HK1.out.trans k2)
    have HP2:=Qh (HP1.out.kept k2)
    have HM2:=Qh (MAt.kept HM1.out k2)
    have hcf2:=kept_cell k2 hcf1
    have hct2:=kept_cell k2 hct1
    clear k2 hcf1 hct1
    go_wp2_with (first|(refine wpList_load_ps (by rfl) _ rfl _ rfl _ (HP2.out) ?_)|(refine wpList_load_pb (by rfl) _ rfl _ rfl _ (HP2.out) ?_)|(refine wpList_load_mv (by rfl) _ rfl _ rfl _ (HM2.out) ?_))
    refine (HH.out _).mono ?_
    rintro e w3 ⟨rfl,k3⟩
    have HK3:=Qh (HK2.out.trans k3)
    have HP3:=Qh (HP2.out.kept k3)
    have HM3:=Qh (MAt.kept HM2.out k3)
    clear k3 hcf2 hct2
    go_wp2_with (first|(refine wpList_load_ps (by rfl) _ rfl _ rfl _ (HP3.out) ?_)|(refine wpList_load_pb (by rfl) _ rfl _ rfl _ (HP3.out) ?_)|(refine wpList_load_mv (by rfl) _ rfl _ rfl _ (HM3.out) ?_))
    refine (HRt.out _).mono ?_
    rintro e w4 ⟨rfl,k4⟩
    have HK4:=Qh (HK3.out.trans k4)
    clear k4
    go_wp2
    go_ret
    exact ⟨by rw [HV.out];rfl,HK4.out⟩
   ·go_enter Tryz.func62,Tryz.ntmps62
    go_wp2_with (first|(refine wpList_load_ps (by rfl) _ rfl _ rfl _ (HP.out) ?_)|(refine wpList_load_pb (by rfl) _ rfl _ rfl _ (HP.out) ?_)|(refine wpList_load_mv (by rfl) _ rfl _ rfl _ (HM.out) ?_))
    refine (HFo.out _).mono ?_
    rintro e w1 ⟨rfl,k1⟩
    have HK1:=Qh (HK0.out.trans k1)
    have HP1:=Qh (HP.out.kept k1)
    have HM1:=Qh (MAt.kept HM.out k1)
    have hcf1:=kept_cell k1 hcf
    have hct1:=kept_cell k1 hcT.out
    clear k1 hcf
    go_wp2_with (first|(refine wpList_load_ps (by rfl) _ rfl _ rfl _ (HP1.out) ?_)|(refine wpList_load_pb (by rfl) _ rfl _ rfl _ (HP1.out) ?_)|(refine wpList_load_mv (by rfl) _ rfl _ rfl _ (HM1.out) ?_))
    refine (HPw.out _).mono ?_
    rintro e w2 ⟨rfl,k2⟩
    have HK2:=Qh (HK1.out.trans k2)
    have HP2:=Qh (HP1.out.kept k2)
    have HM2:=Qh (MAt.kept HM1.out k2)
    have hcf2:=kept_cell k2 hcf1
    have hct2:=kept_cell k2 hct1
    clear k2 hcf1 hct1
    go_wp2_with (first|(refine wpList_load_ps (by rfl) _ rfl _ rfl _ (HP2.out) ?_)|(refine wpList_load_pb (by rfl) _ rfl _ rfl _ (HP2.out) ?_)|(refine wpList_load_mv (by rfl) _ rfl _ rfl _ (HM2.out) ?_))
    refine (HH.out _).mono ?_
    rintro e w3 ⟨rfl,k3⟩
    have HK3:=Qh (HK2.out.trans k3)
    clear k3 hcf2 hct2
    go_wp2
    go_ret
    exact ⟨by rw [HV.out];rfl,HK3.out⟩
  ·rw [hk] at HPw
   have HG:=Qh (fun w=>rpgo_is p m f t (F.pf (beq_iff_eq.1 hk)) w)
   have HV:=Qh (goes_pawn hf (by rw [F.pb,hk]))
   have hcf:=HM.out.f
   rw [F.hf] at hcf
   generalize pgoB p m=b at *
   clear hB hr hf hk F
   go_enter Tryz.func62,Tryz.ntmps62
   go_wp2_with (first|(refine wpList_load_ps (by rfl) _ rfl _ rfl _ (HP.out) ?_)|(refine wpList_load_pb (by rfl) _ rfl _ rfl _ (HP.out) ?_)|(refine wpList_load_mv (by rfl) _ rfl _ rfl _ (HM.out) ?_))
   refine (HFo.out _).mono ?_
   rintro e w1 ⟨rfl,k1⟩
   have HK1:=Qh (HK0.out.trans k1)
   have HP1:=Qh (HP.out.kept k1)
   have HM1:=Qh (MAt.kept HM.out k1)
   have hcf1:=kept_cell k1 hcf
   clear k1 hcf
   go_wp2_with (first|(refine wpList_load_ps (by rfl) _ rfl _ rfl _ (HP1.out) ?_)|(refine wpList_load_pb (by rfl) _ rfl _ rfl _ (HP1.out) ?_)|(refine wpList_load_mv (by rfl) _ rfl _ rfl _ (HM1.out) ?_))
   refine (HPw.out _).mono ?_
   rintro e w2 ⟨rfl,k2⟩
   have HK2:=Qh (HK1.out.trans k2)
   have HP2:=Qh (HP1.out.kept k2)
   have HM2:=Qh (MAt.kept HM1.out k2)
   clear k2 hcf1
   go_wp2_with (first|(refine wpList_load_ps (by rfl) _ rfl _ rfl _ (HP2.out) ?_)|(refine wpList_load_pb (by rfl) _ rfl _ rfl _ (HP2.out) ?_)|(refine wpList_load_mv (by rfl) _ rfl _ rfl _ (HM2.out) ?_))
   refine (HG.out _).mono ?_
   rintro e w3 ⟨rfl,k3⟩
   have HK3:=Qh (HK2.out.trans k3)
   clear k3
   go_wp2
   go_ret
   exact ⟨by rw [HV.out];rfl,HK3.out⟩
theorem rnew_is (w:World):Calls Tryz.prog 31 #[] w fun e w'=>∃ r g a b,e=.returned (.pointer (some ⟨r,0,none⟩))∧RuAt w' r g a b∧Kept w w':=by
 go_enter Tryz.func31,Tryz.ntmps31
 go_wp2_with fail
 refine (gnew_is _).mono ?_
 rintro e w1 ⟨g,a,rfl,hE,k1⟩
 have HE:=Qh hE
 have HK1:=Qh k1
 clear hE k1
 go_wp2_with fail
 refine (new_is _).mono ?_
 rintro e w2 ⟨⟨b,rfl⟩,k2⟩
 have HK2:=Qh (HK1.out.trans k2)
 have HE2:=Qh (HE.out.kept k2)
 clear k2
 go_wp2_with (refine wpList_built rfl 87 _ rfl #[.pointer (some ⟨g,0,none⟩),.pointer (some b)] (bt_ru ⟨g,0,none⟩ b) ?_)
 go_ret
 refine ⟨w2.heap.size,g,a,b,rfl,⟨?_,?_,HE2.out.kept ((Kept.refl _).alloc _)⟩,HK2.out.alloc _⟩
 ·rw [cell_of_row _ _ 0 _ _ (0,0) (heap_alloc_new w2 _)];rfl
 ·rw [cell_of_row _ _ 1 _ _ (0,0) (heap_alloc_new w2 _)];rfl
theorem rlegal_is (p:Ps) (hB:Brd p.B) (hr:pwI p=0) (m:Mv) (w:World) :
  Calls Tryz.prog 33 #[.agg (pl p).toArray,.agg (ml m).toArray] w fun e w'=>e=.returned (.bool (legB p m))∧Kept w w':=by
 have HP:Hid (PAt _ _ p):=⟨hB.1,heap_alloc2_old w (.cells (pl p).toArray 26) (.cells (ml m).toArray 54)⟩
 have HM:Hid (MAt _ _ m):=⟨heap_alloc2_new w (.cells (pl p).toArray 26) (.cells (ml m).toArray 54)⟩
 have HK0:=Qh (((Kept.refl w).alloc (.cells (pl p).toArray 26)).alloc (.cells (ml m).toArray 54))
 have HG:=Qh (fun w=>rgoes_is p hB hr m w)
 have HS:=Qh (fun (hg:goesM p m=true) w=>rstays_is p hB hr m hg w)
 cases hg:goesM p m
 ·have HV:Hid (legB p m=false):=by show _=_;unfold legB;rw [hg];rfl
  rw [hg] at HG
  clear hB hr hg HS
  go_enter Tryz.func33,Tryz.ntmps33
  go_wp2_with (first|(refine wpList_load_ps (by rfl) _ rfl _ rfl _ (HP.out) ?_)|(refine wpList_load_pb (by rfl) _ rfl _ rfl _ (HP.out) ?_)|(refine wpList_load_mv (by rfl) _ rfl _ rfl _ (HM.out) ?_))
  refine (HG.out _).mono ?_
  rintro e w1 ⟨rfl,k1⟩
  have HK1:=Qh (HK0.out.trans k1)
  clear k1
  go_wp2
  go_ret
  exact ⟨by rw [HV.out];rfl,HK1.out⟩
 ·have HV:Hid (legB p m=stayB p m):=by show _=_;unfold legB;rw [hg];rfl
  have HS1:=Qh (HS.out hg)
  rw [hg] at HG
  clear hB hr hg HS
  generalize stayB p m=sb at *
  go_enter Tryz.func33,Tryz.ntmps33
  go_wp2_with (first|(refine wpList_load_ps (by rfl) _ rfl _ rfl _ (HP.out) ?_)|(refine wpList_load_pb (by rfl) _ rfl _ rfl _ (HP.out) ?_)|(refine wpList_load_mv (by rfl) _ rfl _ rfl _ (HM.out) ?_))
  refine (HG.out _).mono ?_
  rintro e w1 ⟨rfl,k1⟩
  have HK1:=Qh (HK0.out.trans k1)
  have HP1:=Qh (HP.out.kept k1)
  have HM1:=Qh (MAt.kept HM.out k1)
  clear k1
  go_wp2_with (first|(refine wpList_load_ps (by rfl) _ rfl _ rfl _ (HP1.out) ?_)|(refine wpList_load_pb (by rfl) _ rfl _ rfl _ (HP1.out) ?_)|(refine wpList_load_mv (by rfl) _ rfl _ rfl _ (HM1.out) ?_))
  refine (HS1.out _).mono ?_
  rintro e w2 ⟨rfl,k2⟩
  have HK2:=Qh (HK1.out.trans k2)
  clear k2
  go_wp2
  go_ret
  exact ⟨by rw [HV.out];rfl,HK2.out⟩
def legA (p:Ps) (m:Mv):Bool:=(pwI p == 0) && legB p m
theorem legA_is (p:Ps) (hB:Brd p.B) (m:Mv) (hg:((pwI p == 0) && goesM p m)=true):legA p m=!barsB p m:=by
 rw [Bool.and_eq_true,beq_iff_eq] at hg
 unfold legA legB
 rw [hg.1,hg.2,bars_stay hB hg.1 hg.2]
 simp
theorem legA_no (p:Ps) (m:Mv) (hg:((pwI p == 0) && goesM p m)=false):legA p m=false:=by
 unfold legA legB
 rw [← Bool.and_assoc,hg,Bool.false_and]
set_option maxHeartbeats 2000000 in
theorem legal_no (r g:Nat) (a b:Addr) (p:Ps) (hB:Brd p.B) (m:Mv) (hg:((pwI p == 0) && goesM p m)=false) (w:World) (hT:TabG w) (hR:RuAt w r g a b) :
  Calls Tryz.prog 60 #[.pointer (some ⟨r,0,none⟩),.agg (pl p).toArray,.agg (ml m).toArray] w fun e w'=>e=.returned (.bool false)∧Kept w w':=by
 have HP:Hid (PAt _ _ p):=⟨hB.1,heap_alloc2_old w (.cells (pl p).toArray 26) (.cells (ml m).toArray 54)⟩
 have HM:Hid (MAt _ _ m):=⟨heap_alloc2_new w (.cells (pl p).toArray 26) (.cells (ml m).toArray 54)⟩
 have HK0:=Qh (((Kept.refl w).alloc (.cells (pl p).toArray 26)).alloc (.cells (ml m).toArray 54))
 have HT:=Qh (hT.kept HK0.out)
 have HR:=Qh (hR.kept HK0.out)
 have hpl:Hid (p.B.length=64):=hB.1
 have HGo:=Qh (fun w hT hE=>goes_is g a p hB m w hT hE)
 rw [hg] at HGo
 clear hB hT hR hg
 go_enter Tryz.func60,Tryz.ntmps60
 go_wp2
 refine wp_region_held_drew (S:=Kept _) (by kernel_rfl) (Kept.refl _).drew (fun Qj=>?_)
 refine rT 0 7 (.pointer (some ⟨r,0,none⟩)) rfl rfl Qj ?_
 simp only [pA,pN,sZ,sU]
 refine rT 1 8 (.bool true) rfl rfl Qj ?_
 simp only [pA,pN,sZ,sU]
 refine rT 2 9 (.bool true) rfl rfl Qj ?_
 simp only [pA,pN,sZ,sU]
 refine rT 3 10 (.pointer (some ⟨r,0,none⟩)) rfl rfl Qj ?_
 simp only [pA,pN,sZ,sU]
 refine rT 4 11 (.pointer (some ⟨r,0,none⟩)) rfl rfl Qj ?_
 simp only [pA,pN,sZ,sU]
 refine rT 5 12 (.pointer (some ⟨r,0,none⟩)) rfl rfl Qj ?_
 simp only [pA,pN,sZ,sU]
 refine rC 6 13 (.pointer (some ⟨g,0,none⟩)) rfl rfl (fun _ h=>kept_cell h (HR.out.gen)) Qj ?_
 simp only [pA,pN,sZ,sU]
 refine rY 7 14 rfl rfl (take_load_ps (by rfl) _ rfl _ rfl p hpl.out (fun _ h=>(HP.out).kept h)) Qj ?_
 simp only [pA,pN,sZ,sU]
 refine rY 8 15 rfl rfl (take_load_mv (by rfl) _ rfl _ rfl m (fun _ h=>MAt.kept (HM.out) h)) Qj ?_
 simp only [pA,pN,sZ,sU]
 refine rR 9 rfl (fun K hK=>?_)
 go_simp
 refine (HGo.out _ (HT.out.kept Qj) (HR.out.ey.kept Qj)).mono ?_
 rintro e x1 ⟨rfl,gx1⟩
 refine hK.out _ _ (Qj.trans gx1) (fun _=>?_)
 replace Qj:=Qj.trans gx1
 clear hK K
 refine rT 10 17 (.bool false) rfl rfl Qj ?_
 simp only [pA,pN,sZ,sU]
 refine rT 11 18 (.bool false) rfl rfl Qj ?_
 simp only [pA,pN,sZ,sU]
 refine rN 12 19 rfl rfl Qj ?_
 simp only [pA,pN,sZ,sU]
 refine rN 13 20 rfl rfl Qj ?_
 simp only [pA,pN,sZ,sU]
 refine rN 14 21 rfl rfl Qj ?_
 simp only [pA,pN,sZ,sU]
 refine rN 15 22 rfl rfl Qj ?_
 simp only [pA,pN,sZ,sU]
 refine rN 16 23 rfl rfl Qj ?_
 simp only [pA,pN,sZ,sU]
 refine rN 17 24 rfl rfl Qj ?_
 simp only [pA,pN,sZ,sU]
 refine rT 18 25 (.bool false) rfl rfl Qj ?_
 simp only [pA,pN,sZ,sU]
 refine rT 19 6 (.bool false) rfl rfl Qj ?_
 simp only [pA,pN,sZ,sU]
 refine wpAnyH_done (by kernel_rfl) ?_ _
 go_wp2
 go_ret
 exact ⟨rfl,HK0.out.trans Qj⟩
set_option maxHeartbeats 2000000 in
theorem legal_go (r g:Nat) (a b:Addr) (p:Ps) (hB:Brd p.B) (m:Mv) (hg:((pwI p == 0) && goesM p m)=true) (w:World) (hT:TabG w) (hR:RuAt w r g a b) :
  Calls Tryz.prog 60 #[.pointer (some ⟨r,0,none⟩),.agg (pl p).toArray,.agg (ml m).toArray] w fun e w'=>e=.returned (.bool (!barsB p m))∧Kept w w':=by
 have HP:Hid (PAt _ _ p):=⟨hB.1,heap_alloc2_old w (.cells (pl p).toArray 26) (.cells (ml m).toArray 54)⟩
 have HM:Hid (MAt _ _ m):=⟨heap_alloc2_new w (.cells (pl p).toArray 26) (.cells (ml m).toArray 54)⟩
 have HK0:=Qh (((Kept.refl w).alloc (.cells (pl p).toArray 26)).alloc (.cells (ml m).toArray 54))
 have HT:=Qh (hT.kept HK0.out)
 have HR:=Qh (hR.kept HK0.out)
 have hpl:Hid (p.B.length=64):=hB.1
 have HGo:=Qh (fun w hT hE=>goes_is g a p hB m w hT hE)
 rw [hg] at HGo
 rw [Bool.and_eq_true,beq_iff_eq] at hg
 have HBs:=Qh (fun w hT hR=>bars_is r g a b p hB w hT hR)
 have HB1:=Qh (fun gk gc gb gp w hBr=>bars1_is gk gc gb gp r g a b p hB hg.1 m hg.2 w hBr)
 have hent:=bar_enters
 generalize barsB p m=bb at *
 clear hB hT hR hg
 go_enter Tryz.func60,Tryz.ntmps60
 go_wp2
 refine wp_region_held_drew (S:=Kept _) (by kernel_rfl) (Kept.refl _).drew (fun Qj=>?_)
 refine rT 0 7 (.pointer (some ⟨r,0,none⟩)) rfl rfl Qj ?_
 simp only [pA,pN,sZ,sU]
 refine rT 1 8 (.bool true) rfl rfl Qj ?_
 simp only [pA,pN,sZ,sU]
 refine rT 2 9 (.bool true) rfl rfl Qj ?_
 simp only [pA,pN,sZ,sU]
 refine rT 3 10 (.pointer (some ⟨r,0,none⟩)) rfl rfl Qj ?_
 simp only [pA,pN,sZ,sU]
 refine rT 4 11 (.pointer (some ⟨r,0,none⟩)) rfl rfl Qj ?_
 simp only [pA,pN,sZ,sU]
 refine rT 5 12 (.pointer (some ⟨r,0,none⟩)) rfl rfl Qj ?_
 simp only [pA,pN,sZ,sU]
 refine rC 6 13 (.pointer (some ⟨g,0,none⟩)) rfl rfl (fun _ h=>kept_cell h (HR.out.gen)) Qj ?_
 simp only [pA,pN,sZ,sU]
 refine rY 7 14 rfl rfl (take_load_ps (by rfl) _ rfl _ rfl p hpl.out (fun _ h=>(HP.out).kept h)) Qj ?_
 simp only [pA,pN,sZ,sU]
 refine rY 8 15 rfl rfl (take_load_mv (by rfl) _ rfl _ rfl m (fun _ h=>MAt.kept (HM.out) h)) Qj ?_
 simp only [pA,pN,sZ,sU]
 refine rR 9 rfl (fun K hK=>?_)
 go_simp
 refine (HGo.out _ (HT.out.kept Qj) (HR.out.ey.kept Qj)).mono ?_
 rintro e x1 ⟨rfl,gx1⟩
 refine hK.out _ _ (Qj.trans gx1) (fun _=>?_)
 replace Qj:=Qj.trans gx1
 clear hK K
 refine rT 10 17 (.bool true) rfl rfl Qj ?_
 simp only [pA,pN,sZ,sU]
 refine rT 11 18 (.bool true) rfl rfl Qj ?_
 simp only [pA,pN,sZ,sU]
 refine rT 12 19 (.pointer (some ⟨r,0,none⟩)) rfl rfl Qj ?_
 simp only [pA,pN,sZ,sU]
 refine rY 13 20 rfl rfl (take_load_ps (by rfl) _ rfl _ rfl p hpl.out (fun _ h=>(HP.out).kept h)) Qj ?_
 simp only [pA,pN,sZ,sU]
 refine rY 15 22 rfl rfl (take_load_mv (by rfl) _ rfl _ rfl m (fun _ h=>MAt.kept (HM.out) h)) Qj ?_
 simp only [pA,pN,sZ,sU]
 refine rR 14 rfl (fun K hK=>?_)
 go_simp
 refine (HBs.out _ (HT.out.kept Qj) (HR.out.kept Qj)).mono ?_
 rintro e x2 ⟨gk,gc,gb,gp,rfl,hBr,_,kx⟩
 refine hK.out _ _ (Qj.trans kx) (fun _=>?_)
 replace Qj:=Qj.trans kx
 have HBr:=Qh hBr
 clear hK K hBr kx
 refine rR 16 rfl (fun K hK=>?_)
 go_simp
 refine (HB1.out gk gc gb gp _ HBr.out).mono ?_
 rintro e x3 ⟨rfl,gx3⟩
 refine hK.out _ _ (Qj.trans gx3) (fun _=>?_)
 replace Qj:=Qj.trans gx3
 clear hK K
 refine rT 17 24 (.bool (!bb)) rfl rfl Qj ?_
 simp only [pA,pN,sZ,sU]
 refine rT 18 25 (.bool (!bb)) rfl rfl Qj ?_
 simp only [pA,pN,sZ,sU]
 refine rT 19 6 (.bool (!bb)) rfl rfl Qj ?_
 simp only [pA,pN,sZ,sU]
 refine wpAnyH_done (by kernel_rfl) ?_ _
 go_wp2
 go_ret
 exact ⟨rfl,HK0.out.trans Qj⟩
theorem legal_is (r g:Nat) (a b:Addr) (p:Ps) (hB:Brd p.B) (m:Mv) (w:World) (hT:TabG w) (hR:RuAt w r g a b) :
  Calls Tryz.prog 60 #[.pointer (some ⟨r,0,none⟩),.agg (pl p).toArray,.agg (ml m).toArray] w fun e w'=>e=.returned (.bool (legA p m))∧Kept w w':=by
 cases hg:((pwI p == 0) && goesM p m)
 ·rw [legA_no p m hg];exact legal_no r g a b p hB m hg w hT hR
 ·rw [legA_is p hB m hg];exact legal_go r g a b p hB m hg w hT hR
def playP (p:Ps) (m:Mv):Ps:=if pwI p≠0 then Zp else if legB p m then behP p m else Zp
def playE (p:Ps) (m:Mv):Int:=if pwI p≠0 then pwI p else if legB p m then 0 else 5
theorem playP_in {p:Ps} {m:Mv} (h:pwI p=0):playP p m=if legB p m then behP p m else Zp:=by unfold playP;rw [if_neg (show ¬ pwI p≠0 by omega)]
theorem playE_in {p:Ps} {m:Mv} (h:pwI p=0):playE p m=if legB p m then 0 else 5:=by unfold playE;rw [if_neg (show ¬ pwI p≠0 by omega)]
set_option maxHeartbeats 2000000 in
theorem play_nil (p:Ps) (hB:Brd p.B) (m:Mv) (w:World) :
  Calls Tryz.prog 32 #[.pointer none,.agg (pl p).toArray,.agg (ml m).toArray] w (RetPE w Zp 14):=by
 have HP:Hid (PAt _ _ p):=⟨hB.1,heap_alloc2_old w (.cells (pl p).toArray 26) (.cells (ml m).toArray 54)⟩
 have HM:Hid (MAt _ _ m):=⟨heap_alloc2_new w (.cells (pl p).toArray 26) (.cells (ml m).toArray 54)⟩
 have HK0:=Qh (((Kept.refl w).alloc (.cells (pl p).toArray 26)).alloc (.cells (ml m).toArray 54))
 have HK1:=Qh (HK0.out.alloc (.cells (pl Zp).toArray 26))
 have HR1:Hid (PAt _ _ Zp):=PAt.new ((w.alloc (.cells (pl p).toArray 26)).alloc (.cells (ml m).toArray 54)) Zp_len
 have hsz:((w.alloc (.cells (pl p).toArray 26)).alloc (.cells (ml m).toArray 54)).heap.size=w.heap.size+2:=by simp
 rw [hsz] at HR1
 clear hB HP HM HK0 hsz
 go_enter Tryz.func32,Tryz.ntmps32
 go_wp2_with (first|(with_reducible refine wpList_new_p rfl rfl ?_)|(refine wpList_built_p0 (by rfl) rfl ?_)|(refine wpList_store_ps rfl _ _ rfl (w.heap.size+2) Zp Zp HR1.out Zp_len rfl rfl ?_))
 refine bodyPost_ret (v:=.tuple #[.agg (pl Zp).toArray,.int .i64 14]) ?_ rfl ⟨rfl,HK1.out.setRow (by omega) _⟩
 exact (results_pos_tmp (s:=6) (t:=7) rfl _ rfl (HR1.out.setRow Zp_len)).trans rfl
set_option maxHeartbeats 2000000 in
theorem play_wrong (r:Nat) (p:Ps) (hB:Brd p.B) (m:Mv) (h:pwI p≠0) (w:World) (hT:TabG w) :
  Calls Tryz.prog 32 #[.pointer (some ⟨r,0,none⟩),.agg (pl p).toArray,.agg (ml m).toArray] w (RetPE w Zp (pwI p)):=by
 have HP:Hid (PAt _ _ p):=⟨hB.1,heap_alloc2_old w (.cells (pl p).toArray 26) (.cells (ml m).toArray 54)⟩
 have HM:Hid (MAt _ _ m):=⟨heap_alloc2_new w (.cells (pl p).toArray 26) (.cells (ml m).toArray 54)⟩
 have HK0:=Qh (((Kept.refl w).alloc (.cells (pl p).toArray 26)).alloc (.cells (ml m).toArray 54))
 have HK1:=Qh (HK0.out.alloc (.cells (pl Zp).toArray 26))
 have HP1:=Qh (HP.out.kept ((Kept.refl _).alloc (.cells (pl Zp).toArray 26)))
 have HR1:Hid (PAt _ _ Zp):=PAt.new ((w.alloc (.cells (pl p).toArray 26)).alloc (.cells (ml m).toArray 54)) Zp_len
 have hsz:((w.alloc (.cells (pl p).toArray 26)).alloc (.cells (ml m).toArray 54)).heap.size=w.heap.size+2:=by simp
 rw [hsz] at HR1
 have HT:=Qh (hT.kept HK1.out)
 have HC:=Qh (fun w h=>pwrong_is p hB w h)
 have hv':(pwI p != 0)=true:=bne_iff_ne.2 h
 generalize pwI p=v at *
 clear hB hT h HP HM HK0 hsz
 go_enter Tryz.func32,Tryz.ntmps32
 go_wp2_with (first|(with_reducible refine wpList_new_p rfl rfl ?_)|(refine wpList_load_ps (by rfl) _ rfl _ rfl _ HP1.out ?_))
 refine (HC.out _ HT.out.tabm.tabs).mono ?_
 rintro e w1 ⟨rfl,k1⟩
 have HK2:=Qh (HK1.out.trans k1)
 have HR2:=Qh (HR1.out.kept k1)
 clear k1
 go_wp2_with (first|(refine wpList_built_p0 (by rfl) rfl ?_)|(refine wpList_store_ps rfl _ _ rfl (w.heap.size+2) Zp Zp HR2.out Zp_len rfl rfl ?_))
 refine bodyPost_ret (v:=.tuple #[.agg (pl Zp).toArray,.int .i64 v]) ?_ rfl ⟨rfl,HK2.out.setRow (by omega) _⟩
 exact (results_pos_tmp (s:=6) (t:=7) rfl _ rfl (HR2.out.setRow Zp_len)).trans rfl
set_option maxHeartbeats 2000000 in
theorem play_no (r g:Nat) (a b:Addr) (p:Ps) (hB:Brd p.B) (m:Mv) (h:pwI p=0) (hl:legA p m=false) (w:World) (hT:TabG w) (hR:RuAt w r g a b) :
  Calls Tryz.prog 32 #[.pointer (some ⟨r,0,none⟩),.agg (pl p).toArray,.agg (ml m).toArray] w (RetPE w Zp 5):=by
 have HP:Hid (PAt _ _ p):=⟨hB.1,heap_alloc2_old w (.cells (pl p).toArray 26) (.cells (ml m).toArray 54)⟩
 have HM:Hid (MAt _ _ m):=⟨heap_alloc2_new w (.cells (pl p).toArray 26) (.cells (ml m).toArray 54)⟩
 have HK0:=Qh (((Kept.refl w).alloc (.cells (pl p).toArray 26)).alloc (.cells (ml m).toArray 54))
 have HK1:=Qh (HK0.out.alloc (.cells (pl Zp).toArray 26))
 have HP1:=Qh (HP.out.kept ((Kept.refl _).alloc (.cells (pl Zp).toArray 26)))
 have HM1:=Qh (MAt.kept HM.out ((Kept.refl _).alloc (.cells (pl Zp).toArray 26)))
 have HR1:Hid (PAt _ _ Zp):=PAt.new ((w.alloc (.cells (pl p).toArray 26)).alloc (.cells (ml m).toArray 54)) Zp_len
 have hsz:((w.alloc (.cells (pl p).toArray 26)).alloc (.cells (ml m).toArray 54)).heap.size=w.heap.size+2:=by simp
 rw [hsz] at HR1
 have HT:=Qh (hT.kept HK1.out)
 have HRu:=Qh (hR.kept HK1.out)
 have HC:=Qh (fun w h=>pwrong_is p hB w h)
 have HL:=Qh (fun w hT hR=>legal_is r g a b p hB m w hT hR)
 rw [h] at HC
 rw [hl] at HL
 clear hB hT hR h HP HM HK0 hsz hl
 go_enter Tryz.func32,Tryz.ntmps32
 go_wp2_with (first|(with_reducible refine wpList_new_p rfl rfl ?_)|(refine wpList_load_ps (by rfl) _ rfl _ rfl _ HP1.out ?_))
 refine (HC.out _ HT.out.tabm.tabs).mono ?_
 rintro e w1 ⟨rfl,k1⟩
 have HK2:=Qh (HK1.out.trans k1)
 have HR2:=Qh (HR1.out.kept k1)
 have HP2:=Qh (HP1.out.kept k1)
 have HM2:=Qh (MAt.kept HM1.out k1)
 have HT2:=Qh (HT.out.kept k1)
 have HRu2:=Qh (HRu.out.kept k1)
 clear k1
 go_wp2_with (first|(refine wpList_load_ps (by rfl) _ rfl _ rfl _ (HP2.out) ?_)|(refine wpList_load_pb (by rfl) _ rfl _ rfl _ (HP2.out) ?_)|(refine wpList_load_mv (by rfl) _ rfl _ rfl _ (HM2.out) ?_))
 refine (HL.out _ HT2.out HRu2.out).mono ?_
 rintro e w2 ⟨rfl,k2⟩
 have HK3:=Qh (HK2.out.trans k2)
 have HR3:=Qh (HR2.out.kept k2)
 clear k2
 go_wp2_with (first|(refine wpList_built_p0 (by rfl) rfl ?_)|(refine wpList_store_ps rfl _ _ rfl (w.heap.size+2) Zp Zp HR3.out Zp_len rfl rfl ?_))
 refine bodyPost_ret (v:=.tuple #[.agg (pl Zp).toArray,.int .i64 5]) ?_ rfl ⟨rfl,HK3.out.setRow (by omega) _⟩
 exact (results_pos_tmp (s:=6) (t:=7) rfl _ rfl (HR3.out.setRow Zp_len)).trans rfl
set_option maxHeartbeats 2000000 in
theorem play_yes (r g:Nat) (a b:Addr) (p:Ps) (hB:Brd p.B) (m:Mv) (h:pwI p=0) (hl:legA p m=true) (hok:okM p m=true) (w:World) (hT:TabG w) (hR:RuAt w r g a b) :
  Calls Tryz.prog 32 #[.pointer (some ⟨r,0,none⟩),.agg (pl p).toArray,.agg (ml m).toArray] w (RetPE w (behP p m) 0):=by
 have HP:Hid (PAt _ _ p):=⟨hB.1,heap_alloc2_old w (.cells (pl p).toArray 26) (.cells (ml m).toArray 54)⟩
 have HM:Hid (MAt _ _ m):=⟨heap_alloc2_new w (.cells (pl p).toArray 26) (.cells (ml m).toArray 54)⟩
 have HK0:=Qh (((Kept.refl w).alloc (.cells (pl p).toArray 26)).alloc (.cells (ml m).toArray 54))
 have HK1:=Qh (HK0.out.alloc (.cells (pl Zp).toArray 26))
 have HP1:=Qh (HP.out.kept ((Kept.refl _).alloc (.cells (pl Zp).toArray 26)))
 have HM1:=Qh (MAt.kept HM.out ((Kept.refl _).alloc (.cells (pl Zp).toArray 26)))
 have HR1:Hid (PAt _ _ Zp):=PAt.new ((w.alloc (.cells (pl p).toArray 26)).alloc (.cells (ml m).toArray 54)) Zp_len
 have hsz:((w.alloc (.cells (pl p).toArray 26)).alloc (.cells (ml m).toArray 54)).heap.size=w.heap.size+2:=by simp
 rw [hsz] at HR1
 have HT:=Qh (hT.kept HK1.out)
 have HRu:=Qh (hR.kept HK1.out)
 have HC:=Qh (fun w h=>pwrong_is p hB w h)
 have HL:=Qh (fun w hT hR=>legal_is r g a b p hB m w hT hR)
 have HMk:=Qh (fun w hw=>make_yes p hB m hok w hw)
 have hql:Hid ((behP p m).B.length=64):=behB_len hB.1
 rw [h] at HC
 rw [hl] at HL
 generalize behP p m=q at *
 clear hB hT hR h HP HM HK0 hsz hl hok
 go_enter Tryz.func32,Tryz.ntmps32
 go_wp2_with (first|(with_reducible refine wpList_new_p rfl rfl ?_)|(refine wpList_load_ps (by rfl) _ rfl _ rfl _ HP1.out ?_))
 refine (HC.out _ HT.out.tabm.tabs).mono ?_
 rintro e w1 ⟨rfl,k1⟩
 have HK2:=Qh (HK1.out.trans k1)
 have HR2:=Qh (HR1.out.kept k1)
 have HP2:=Qh (HP1.out.kept k1)
 have HM2:=Qh (MAt.kept HM1.out k1)
 have HT2:=Qh (HT.out.kept k1)
 have HRu2:=Qh (HRu.out.kept k1)
 clear k1
 go_wp2_with (first|(refine wpList_load_ps (by rfl) _ rfl _ rfl _ (HP2.out) ?_)|(refine wpList_load_pb (by rfl) _ rfl _ rfl _ (HP2.out) ?_)|(refine wpList_load_mv (by rfl) _ rfl _ rfl _ (HM2.out) ?_))
 refine (HL.out _ HT2.out HRu2.out).mono ?_
 rintro e w2 ⟨rfl,k2⟩
 have HK3:=Qh (HK2.out.trans k2)
 have HR3:=Qh (HR2.out.kept k2)
 have HP3:=Qh (HP2.out.kept k2)
 have HM3:=Qh (MAt.kept HM2.out k2)
 have HT3:=Qh (HT2.out.kept k2)
 clear k2
 go_wp2_with (first|(refine wpList_load_ps (by rfl) _ rfl _ rfl _ (HP3.out) ?_)|(refine wpList_load_pb (by rfl) _ rfl _ rfl _ (HP3.out) ?_)|(refine wpList_load_mv (by rfl) _ rfl _ rfl _ (HM3.out) ?_))
 refine (HMk.out _ HT3.out.tabm).mono ?_
 rintro e w3 ⟨rfl,k3⟩
 have HK4:=Qh (HK3.out.trans k3)
 have HR4:=Qh (HR3.out.kept k3)
 clear k3
 go_wp2_with (refine wpList_store_ps rfl _ _ rfl (w.heap.size+2) Zp q HR4.out hql.out rfl rfl ?_)
 refine bodyPost_ret (v:=.tuple #[.agg (pl q).toArray,.int .i64 0]) ?_ rfl ⟨rfl,HK4.out.setRow (by omega) _⟩
 exact (results_pos_tmp (s:=6) (t:=7) rfl _ rfl (HR4.out.setRow hql.out)).trans rfl
theorem play_is (r g:Nat) (a b:Addr) (p:Ps) (hB:Brd p.B) (m:Mv) (w:World) (hT:TabG w) (hR:RuAt w r g a b) :
  Calls Tryz.prog 32 #[.pointer (some ⟨r,0,none⟩),.agg (pl p).toArray,.agg (ml m).toArray] w (RetPE w (playP p m) (playE p m)):=by
 by_cases h:pwI p=0
 ·rw [playP_in h,playE_in h]
  have hA:legA p m=legB p m:=by unfold legA;rw [h];rfl
  cases hl:legB p m
  ·rw [hl] at hA
   exact play_no r g a b p hB m h hA w hT hR
  ·rw [hl] at hA
   exact play_yes r g a b p hB m h hA (leg_right hB h hl).2.2 w hT hR
 ·have eP:playP p m=Zp:=by unfold playP;rw [if_pos h]
  have eE:playE p m=pwI p:=by unfold playE;rw [if_pos h]
  rw [eP,eE]
  exact play_wrong r p hB m h w hT
def endR:Ps→List Mv→Option Ps
 | p,[]=>some p
 | p,m::r=>if legB p m then endR (behP p m) r else none
def endP (p:Ps) (l:List Mv):Ps:=if pwI p≠0 then Zp else (endR p l).getD Zp
def endE (p:Ps) (l:List Mv):Int:=if pwI p≠0 then pwI p else if (endR p l).isSome then 0 else 5
theorem endP_no {p:Ps} {l:List Mv} (h:pwI p≠0):endP p l=Zp∧endE p l=pwI p:=by unfold endP endE;rw [if_pos h,if_pos h];exact ⟨rfl,rfl⟩
theorem endP_in {p:Ps} {l:List Mv} (h:pwI p=0):endP p l=(endR p l).getD Zp∧endE p l=if (endR p l).isSome then 0 else 5:=by
 unfold endP endE;rw [if_neg (by omega),if_neg (by omega)];exact ⟨rfl,rfl⟩
theorem endR_app:∀ (a b:List Mv) (p:Ps),endR p (a++b)=(endR p a).bind fun q=>endR q b
 | [],b,p=>rfl
 | m::a,b,p=>by
  rw [List.cons_append,endR,endR]
  split
  ·exact endR_app a b _
  ·rfl
theorem endR_right:∀ (l:List Mv) (p q:Ps),Brd p.B→pwI p=0→endR p l=some q→Brd q.B∧pwI q=0∧(q.t+l.length) % 2=p.t
 | [],p,q,hB,hr,h=>by
  simp only [endR,Option.some.injEq] at h
  subst h
  have:=(right_t hr).1
  refine ⟨hB,hr,?_⟩
  simp;omega
 | m::l,p,q,hB,hr,h=>by
  rw [endR] at h
  split at h
  ·next hl =>
   obtain ⟨h1,h2,_⟩:=leg_right hB hr hl
   obtain ⟨a,b,c⟩:=endR_right l _ q h2 h1 h
   refine ⟨a,b,?_⟩
   have e:(behP p m).t=1-p.t:=by show otherI p.t=_;exact other_at (right_t hr).1
   have:=(right_t hr).1
   rw [e] at c
   rw [List.length_cons]
   push_cast
   omega
  ·cases h
theorem endR_stop {p q:Ps} {l:List Mv} {k:Nat} {m:Mv} (h:endR p (l.take k)=some q) (hm:l[k]?=some m) (hl:legB q m=false):endR p l=none:=by
 have:l=l.take k++(m::l.drop (k+1)):=by rw [← drop_at hm,List.take_append_drop]
 rw [this,endR_app,h]
 show endR q _=none
 rw [endR,if_neg (by rw [hl];decide)]
theorem endR_next {p q:Ps} {l:List Mv} {k:Nat} {m:Mv} (h:endR p (l.take k)=some q) (hm:l[k]?=some m) (hl:legB q m=true):endR p (l.take (k+1))=some (behP q m):=by
 rw [List.take_add_one,hm,endR_app,h]
 show endR q [m]=_
 rw [endR,if_pos hl];rfl
theorem pl_int {p:Ps} {o:Nat} {u:Value} (h:(pl p)[o]?=some u):∃ k i,u=.int k i:=by
 have hu:=List.mem_of_getElem? h
 unfold pl cl tlP at hu
 rw [List.mem_append] at hu
 rcases hu with hu|hu
 ·obtain ⟨x,_,rfl⟩:=List.mem_map.1 hu
  exact ⟨_,_,rfl⟩
 ·simp only [List.mem_cons,List.not_mem_nil,or_false] at hu
  rcases hu with rfl|rfl|rfl <;> exact ⟨_,_,rfl⟩
theorem PAt.not_ptr {w:World} {g r o:Nat} {p:Ps} {a:Option Addr} (h:PAt w g p) (hc:w.cell? ⟨r,o,none⟩=some (.pointer a)):r≠g:=by
 rintro rfl
 rw [h.cellK] at hc
 obtain ⟨k,i,e⟩:=pl_int hc
 cases e
theorem RuAt.ne {w:World} {gp r g:Nat} {a b:Addr} {p:Ps} (h:RuAt w r g a b) (hp:PAt w gp p):r≠gp∧g≠gp:=⟨hp.not_ptr h.gen,hp.not_ptr (show w.cell? ⟨g,0,none⟩=_ from h.ey)⟩
theorem range_kb {W w:World} {gp g off:Nat} {l:List Value} (h:W.rangeAt g off l) (hk:KB W gp w) (hne:g≠gp):w.rangeAt g off l:=fun i x hx=>hk.cell (a:=⟨g,off+i,none⟩) hne (h i x hx)
theorem LsM.ne {w:World} {g gp off cap:Nat} {l:List Mv} (hr:w.rangeAt g off (mlL l)) (hl:0<l.length) (hg:w.heap.size≤gp):g≠gp:=by
 obtain ⟨m,hm⟩:∃ m,l[0]?=some m:=⟨_,List.getElem?_eq_getElem hl⟩
 have h0:=range_ij hr hm 0 (.int .i64 m.f) rfl
 have:=World.block_lt_of_cell? w ⟨g,off+0*3+0,none⟩ h0
 show g≠gp
 have h':g<w.heap.size:=this
 omega
set_option maxHeartbeats 2000000 in
theorem pend_wrong (v:Value) (l:List Mv) (av:Option Addr) (cv n:Nat) (hv:v=.slice av n cv) (p:Ps) (hB:Brd p.B) (h:pwI p≠0) (w:World) (hT:TabG w) :
  Calls Tryz.prog 12 #[.agg (pl p).toArray,v] w (RetPE w (endP p l) (endE p l)):=by
 rw [(endP_no h).1,(endP_no h).2]
 subst hv
 have HK1:=Qh (((Kept.refl w).alloc (.cells (pl p).toArray 26)).alloc (.cells (pl Zp).toArray 26))
 have HP1:=Qh ((PAt.new w hB.1).kept ((Kept.refl _).alloc (.cells (pl Zp).toArray 26)))
 have HR1:Hid (PAt _ _ Zp):=PAt.new (w.alloc (.cells (pl p).toArray 26)) Zp_len
 have hsz:(w.alloc (.cells (pl p).toArray 26)).heap.size=w.heap.size+1:=by simp
 rw [hsz] at HR1
 have HT:=Qh (hT.kept HK1.out)
 have HC:=Qh (fun w h=>pwrong_is p hB w h)
 have hv':(pwI p != 0)=true:=bne_iff_ne.2 h
 generalize pwI p=v at *
 clear hB hT h hsz
 go_enter Tryz.func12,Tryz.ntmps12
 go_wp2_with (first|(with_reducible refine wpList_new_p rfl rfl ?_)|(refine wpList_load_ps (by rfl) _ rfl _ rfl _ HP1.out ?_))
 refine (HC.out _ HT.out.tabm.tabs).mono ?_
 rintro e w1 ⟨rfl,k1⟩
 have HK2:=Qh (HK1.out.trans k1)
 have HR2:=Qh (HR1.out.kept k1)
 clear k1
 go_wp2_with (first|(refine wpList_built_p0 (by rfl) rfl ?_)|(refine wpList_store_ps rfl _ _ rfl (w.heap.size+1) Zp Zp HR2.out Zp_len rfl rfl ?_))
 refine bodyPost_ret (v:=.tuple #[.agg (pl Zp).toArray,.int .i64 v]) ?_ rfl ⟨rfl,HK2.out.setRow (by omega) _⟩
 exact (results_pos_tmp (s:=4) (t:=5) rfl _ rfl (HR2.out.setRow Zp_len)).trans rfl
set_option maxHeartbeats 8000000 in
theorem pend_right (g0:Nat) (v:Value) (l:List Mv) (p:Ps) (hB:Brd p.B) (hr:pwI p=0) (w:World) (hT:TabG w) (hL:LsM w g0 v l) :
  Calls Tryz.prog 12 #[.agg (pl p).toArray,v] w (RetPE w (endP p l) (endE p l)):=by
 have HEp:=Qh (endP_in (l:=l) hr)
 obtain ⟨av,cv,rfl⟩:=hL.slice
 have HK1:=Qh (((Kept.refl w).alloc (.cells (pl p).toArray 26)).alloc (.cells (pl Zp).toArray 26))
 have HP1:=Qh ((PAt.new w hB.1).kept ((Kept.refl _).alloc (.cells (pl Zp).toArray 26)))
 have HR1:Hid (PAt _ _ Zp):=PAt.new (w.alloc (.cells (pl p).toArray 26)) Zp_len
 have hsz:(w.alloc (.cells (pl p).toArray 26)).heap.size=w.heap.size+1:=by simp
 rw [hsz] at HR1
 have HT:=Qh (hT.kept HK1.out)
 have HTw:=Qh (fun (V:World) (h:Kept w V)=>hT.kept h)
 have HL0:=Qh hL
 have HL1:=Qh (hL.kept HK1.out)
 have HC:=Qh (fun w h=>pwrong_is p hB w h)
 rw [hr] at HC
 have HB:=Qh hB
 have HRt:=Qh hr
 generalize hn:l.length=n at *
 have HN:=Qh hn
 have hmx:n≤maxLen:=by
  by_cases h0:0<l.length
  ·obtain ⟨_,_,_,h1,h2,_⟩:=HL0.out.full h0;have:=HN.out;omega
  ·have:=HN.out;omega
 unfold maxLen at hmx
 clear hB hT hr hsz hL hn
 go_enter Tryz.func12,Tryz.ntmps12
 go_wp2_with (first|(with_reducible refine wpList_new_p rfl rfl ?_)|(refine wpList_load_ps (by rfl) _ rfl _ rfl _ HP1.out ?_))
 refine (HC.out _ HT.out.tabm.tabs).mono ?_
 rintro e w1 ⟨rfl,k1⟩
 have HK2:=Qh (HK1.out.trans k1)
 have HR2:=Qh (HR1.out.kept k1)
 have HP2:=Qh (HP1.out.kept k1)
 have HL2:=Qh (HL1.out.kept k1)
 clear k1
 go_wp2_with fail
 refine (rnew_is _).mono ?_
 rintro e w2 ⟨r,g,a,b,rfl,hRu,k2⟩
 have HK3:=Qh (HK2.out.trans k2)
 have HR3:=Qh (HR2.out.kept k2)
 have HP3:=Qh (HP2.out.kept k2)
 have HL3:=Qh (HL2.out.kept k2)
 have HRu:=Qh hRu
 have HNe:=Qh (hRu.ne HP3.out)
 clear k2 hRu
 go_wp2
 go_loopw [21] (fun t21 wr=>∃ (k:Nat) (q:Ps),k≤n∧t21=.int .i64 k∧endR p (l.take k)=some q∧Brd q.B∧pwI q=0∧PAt wr w.heap.size q∧KB w2 w.heap.size wr) (fun t21 _=>n-(intOf t21).toNat)
 case atStart=>exact ⟨0,p,Nat.zero_le _,rfl,by simp [endR],HB.out,HRt.out,HP3.out,KB.refl _ _⟩
 case round =>
  obtain ⟨k,q,hk,rfl,hE,hqB,hqr,hP,hKB⟩:=hrel
  have HE:=Qh hE
  have HQ:=Qh hqB
  have HQr:=Qh hqr
  have HPr:=Qh hP
  have HKB:=Qh hKB
  have HKr:=Qh (hKB.below HK3.out (Nat.le_refl _))
  have HRr:=Qh (HR3.out.kb hKB (by omega))
  have HTr:=Qh (HTw.out _ HKr.out)
  have HUr:=Qh (HRu.out.kb hKB HNe.out)
  clear hE hP
  by_cases hlt:k<n
  ·have hlt':(k:Int)<(n:Int):=by omega
   obtain ⟨x,hx⟩:∃ x,l[k]?=some x:=⟨_,List.getElem?_eq_getElem (by have:=HN.out;omega)⟩
   obtain ⟨off,cap,he,hc1,hc2,h3⟩:=HL3.out.full (by have:=HN.out;omega)
   have hgn:g0≠w.heap.size:=by
    obtain ⟨off',cap',he',_,_,h3'⟩:=HL0.out.full (by have:=HN.out;omega)
    exact LsM.ne (cap:=0) h3' (by have:=HN.out;omega) (Nat.le_refl _)
   rw [HN.out] at he hc1
   injection he with he1 he2 he3
   subst he1 he3
   unfold maxLen at hc2
   have HX:=Qh hx
   have HRx:=Qh (range_ij (range_kb h3 hKB hgn) hx)
   have HPl:=Qh (fun w hT hR=>play_is r g a b q hqB x w hT hR)
   rw [playP_in hqr,playE_in hqr] at HPl
   have KA:=Qh ((Kept.refl wr).alloc (.cells (ml x).toArray 54))
   have HMb:=Qh (MAt.new wr x)
   have HPa:=Qh (HPr.out.kept KA.out)
   have HRa:=Qh (HRr.out.kept KA.out)
   have HTa:=Qh (HTr.out.kept KA.out)
   have HUa:=Qh (HUr.out.kept KA.out)
   have HKa:=Qh (HKr.out.trans KA.out)
   have HBa:=Qh (HKB.out.kept KA.out)
   clear hx h3 hKB he2 KA
   have hgw:Hid (w.heap.size<wr.heap.size):=lt_of_heap HPr.out.at_
   cases hl:legB q x
   ·rw [hl] at HPl
    have HV:=Qh (endR_stop HE.out HX.out hl)
    clear hl hqB hqr
    go_wp2_with (first|((with_reducible refine wpList_load_mvo rfl _ rfl g0 (off+k*3) ?_ x HRx.out ?_);exact rfl)|(with_reducible refine wpList_new_mv rfl rfl ?_)|((with_reducible refine wpList_store_newmv rfl _ _ rfl Zm x ?_ ?_ ?_);exact rfl;exact rfl)|(refine wpList_load_ps (by rfl) _ rfl _ rfl _ HPa.out ?_)|(refine wpList_load_mv (by rfl) _ rfl _ rfl _ HMb.out ?_))
    refine (HPl.out _ HTa.out HUa.out).mono ?_
    rintro e w3 ⟨rfl,k3⟩
    have KA:=Qh (k3.alloc (.cells (pl Zp).toArray 26))
    have HK4:=Qh (HKa.out.trans KA.out)
    have HR4:=Qh (HRa.out.kept KA.out)
    clear k3 KA
    go_wp2_with (first|(with_reducible refine wpList_new_p rfl rfl ?_)|((with_reducible refine wpList_store_newp rfl _ _ rfl Zp Zp Zp_len Zp_len ?_ ?_ ?_);exact rfl;exact rfl)|(refine wpList_built_p0 (by rfl) rfl ?_)|(refine wpList_store_ps rfl _ _ rfl (w.heap.size+1) Zp Zp HR4.out Zp_len rfl rfl ?_))
    refine bodyPost_ret (v:=.tuple #[.agg (pl Zp).toArray,.int .i64 5]) ?_ rfl ⟨by rw [HEp.out.1,HEp.out.2,HV.out];rfl,HK4.out.setRow (by omega) _⟩
    exact (results_pos_tmp (s:=4) (t:=5) rfl _ rfl (HR4.out.setRow Zp_len)).trans rfl
   ·rw [hl] at HPl
    have HV:=Qh (endR_next HE.out HX.out hl)
    obtain ⟨hq1,hq2,_⟩:=leg_right hqB hqr hl
    have HQ1:=Qh hq1
    have HQ2:=Qh hq2
    clear hl hqB hqr hq1 hq2
    have hql:Hid ((behP q x).B.length=64):=HQ2.out.1
    generalize behP q x=q' at *
    go_wp2_with (first|((with_reducible refine wpList_load_mvo rfl _ rfl g0 (off+k*3) ?_ x HRx.out ?_);exact rfl)|(with_reducible refine wpList_new_mv rfl rfl ?_)|((with_reducible refine wpList_store_newmv rfl _ _ rfl Zm x ?_ ?_ ?_);exact rfl;exact rfl)|(refine wpList_load_ps (by rfl) _ rfl _ rfl _ HPa.out ?_)|(refine wpList_load_mv (by rfl) _ rfl _ rfl _ HMb.out ?_))
    refine (HPl.out _ HTa.out HUa.out).mono ?_
    rintro e w3 ⟨rfl,k3⟩
    have KA:=Qh (k3.alloc (.cells (pl q').toArray 26))
    have HK4:=Qh (HKa.out.trans KA.out)
    have HP4:=Qh (HPa.out.kept KA.out)
    have HB4:=Qh (HBa.out.kept KA.out)
    have HQ4:=Qh (PAt.new w3 hql.out)
    clear k3 KA
    go_wp2_with (first|(with_reducible refine wpList_new_p rfl rfl ?_)|((with_reducible refine wpList_store_newp rfl _ _ rfl Zp q' Zp_len hql.out ?_ ?_ ?_);exact rfl;exact rfl)|(refine wpList_load_ps (by rfl) _ rfl _ rfl _ HQ4.out ?_)|(refine wpList_store_ps rfl _ _ rfl w.heap.size q q' HP4.out hql.out rfl rfl ?_))
    have HP5:=Qh (HP4.out.setRow hql.out)
    have HB5:=Qh (HB4.out.row (pl q').toArray)
    go_roundw
    case rel=>exact ⟨k+1,q',by omega,by go_num,HV.out,HQ2.out,HQ1.out,HP5.out,HB5.out⟩
    case measure=>simp [intOf];omega
  ·clear hKB hqB hqr
   obtain rfl:k=n:=by omega
   have HV:Hid (endR p l=some q):=by
    have:=HE.out
    rw [← HN.out,List.take_length] at this
    exact this
   have hql:Hid (q.B.length=64):=HQ.out.1
   go_wp2_with (first|(refine wpList_load_ps (by rfl) _ rfl _ rfl _ HPr.out ?_)|(refine wpList_store_ps rfl _ _ rfl (w.heap.size+1) Zp q HRr.out hql.out rfl rfl ?_))
   refine bodyPost_ret (v:=.tuple #[.agg (pl q).toArray,.int .i64 0]) ?_ rfl ⟨by rw [HEp.out.1,HEp.out.2,HV.out];rfl,HKr.out.setRow (by omega) _⟩
   exact (results_pos_tmp (s:=4) (t:=5) rfl _ rfl (HRr.out.setRow hql.out)).trans rfl
theorem pend_is (g0:Nat) (v:Value) (l:List Mv) (p:Ps) (hB:Brd p.B) (w:World) (hT:TabG w) (hL:LsM w g0 v l) :
  Calls Tryz.prog 12 #[.agg (pl p).toArray,v] w (RetPE w (endP p l) (endE p l)):=by
 by_cases h:pwI p=0
 ·exact pend_right g0 v l p hB h w hT hL
 ·obtain ⟨av,cv,e⟩:=hL.slice
  exact pend_wrong v l av cv _ e p hB h w hT
theorem wp_load_psr {o:Oper} {a:Act} {w:World} {K:Act→World→Prop} {Q:Exit→Act→World→Prop} (x:Operand) (ho:o.op=.load 26 x) (g:Nat) (hx:a.eval x=.pointer (some ⟨g,0,none⟩)) (p:Ps) (hg:PAt w g p)
  (h:K (a.put o.dst (.agg (pl p).toArray)) w):o.wp Tryz.prog a w K Q :=
 wp_load_mid 26 x ho g 0 hx (pl p) _ hg.range Tryz.underlying26 rfl (by rw [sizeP,pl_length hg.len]) h
set_option maxHeartbeats 2000000 in
theorem rpend_wrong (v:Value) (l:List Mv) (av:Option Addr) (cv n:Nat) (hv:v=.slice av n cv) (p:Ps) (hB:Brd p.B) (h:pwI p≠0) (w:World) :
  Calls Tryz.prog 13 #[.agg (pl p).toArray,v] w (RetPE w (endP p l) (endE p l)):=by
 rw [(endP_no h).1,(endP_no h).2]
 subst hv
 have HK1:=Qh (((Kept.refl w).alloc (.cells (pl p).toArray 26)).alloc (.cells (pl Zp).toArray 26))
 have HP1:=Qh ((PAt.new w hB.1).kept ((Kept.refl _).alloc (.cells (pl Zp).toArray 26)))
 have HR1:Hid (PAt _ _ Zp):=PAt.new (w.alloc (.cells (pl p).toArray 26)) Zp_len
 have hsz:(w.alloc (.cells (pl p).toArray 26)).heap.size=w.heap.size+1:=by simp
 rw [hsz] at HR1
 have HC:=Qh (fun w=>rpwrong_is p hB w)
 have hv':(pwI p != 0)=true:=bne_iff_ne.2 h
 generalize pwI p=v at *
 clear hB h hsz
 go_enter Tryz.func13,Tryz.ntmps13
 go_wp2_with (first|(with_reducible refine wpList_new_p rfl rfl ?_)|(refine wpList_load_ps (by rfl) _ rfl _ rfl _ HP1.out ?_))
 refine (HC.out _).mono ?_
 rintro e w1 ⟨rfl,k1⟩
 have HK2:=Qh (HK1.out.trans k1)
 have HR2:=Qh (HR1.out.kept k1)
 clear k1
 go_wp2_with (first|(refine wpList_built_p0 (by rfl) rfl ?_)|(refine wpList_store_ps rfl _ _ rfl (w.heap.size+1) Zp Zp HR2.out Zp_len rfl rfl ?_))
 refine bodyPost_ret (v:=.tuple #[.agg (pl Zp).toArray,.int .i64 v]) ?_ rfl ⟨rfl,HK2.out.setRow (by omega) _⟩
 exact (results_pos_tmp (s:=4) (t:=5) rfl _ rfl (HR2.out.setRow Zp_len)).trans rfl
set_option maxHeartbeats 8000000 in
theorem rpend_right (g0:Nat) (v:Value) (l:List Mv) (p:Ps) (hB:Brd p.B) (hr:pwI p=0) (w:World) (hL:LsM w g0 v l) :
  Calls Tryz.prog 13 #[.agg (pl p).toArray,v] w (RetPE w (endP p l) (endE p l)):=by
 have HEp:=Qh (endP_in (l:=l) hr)
 obtain ⟨av,cv,rfl⟩:=hL.slice
 have HK1:=Qh (((Kept.refl w).alloc (.cells (pl p).toArray 26)).alloc (.cells (pl Zp).toArray 26))
 have HP1:=Qh ((PAt.new w hB.1).kept ((Kept.refl _).alloc (.cells (pl Zp).toArray 26)))
 have HR1:Hid (PAt _ _ Zp):=PAt.new (w.alloc (.cells (pl p).toArray 26)) Zp_len
 have hsz:(w.alloc (.cells (pl p).toArray 26)).heap.size=w.heap.size+1:=by simp
 rw [hsz] at HR1
 have HL0:=Qh hL
 have HL1:=Qh (hL.kept HK1.out)
 have HC:=Qh (fun w=>rpwrong_is p hB w)
 rw [hr] at HC
 have HB:=Qh hB
 have HRt:=Qh hr
 generalize hn:l.length=n at *
 have HN:=Qh hn
 have hmx:n≤maxLen:=by
  by_cases h0:0<l.length
  ·obtain ⟨_,_,_,h1,h2,_⟩:=HL0.out.full h0;have:=HN.out;omega
  ·have:=HN.out;omega
 unfold maxLen at hmx
 clear hB hr hsz hL hn
 go_enter Tryz.func13,Tryz.ntmps13
 go_wp2_with (first|(with_reducible refine wpList_new_p rfl rfl ?_)|(refine wpList_load_ps (by rfl) _ rfl _ rfl _ HP1.out ?_))
 refine (HC.out _).mono ?_
 rintro e w2 ⟨rfl,k1⟩
 have HK3:=Qh (HK1.out.trans k1)
 have HR3:=Qh (HR1.out.kept k1)
 have HP3:=Qh (HP1.out.kept k1)
 have HL3:=Qh (HL1.out.kept k1)
 clear k1
 go_wp2
 go_loopw [7] (fun t7 wr=>∃ (k:Nat) (q:Ps),k≤n∧t7=.int .i64 k∧endR p (l.take k)=some q∧Brd q.B∧pwI q=0∧PAt wr w.heap.size q∧KB w2 w.heap.size wr) (fun t7 _=>n-(intOf t7).toNat)
 case atStart=>exact ⟨0,p,Nat.zero_le _,rfl,by simp [endR],HB.out,HRt.out,HP3.out,KB.refl _ _⟩
 case round =>
  obtain ⟨k,q,hk,rfl,hE,hqB,hqr,hP,hKB⟩:=hrel
  have HE:=Qh hE
  have HQ:=Qh hqB
  have HPr:=Qh hP
  have HKB:=Qh hKB
  have HKr:=Qh (hKB.below HK3.out (Nat.le_refl _))
  have HRr:=Qh (HR3.out.kb hKB (by omega))
  have hql:Hid (q.B.length=64):=HQ.out.1
  clear hE hP
  by_cases hlt:k<n
  ·have hlt':(k:Int)<(n:Int):=by omega
   obtain ⟨x,hx⟩:∃ x,l[k]?=some x:=⟨_,List.getElem?_eq_getElem (by have:=HN.out;omega)⟩
   obtain ⟨off,cap,he,hc1,hc2,h3⟩:=HL3.out.full (by have:=HN.out;omega)
   have hgn:g0≠w.heap.size:=by
    obtain ⟨off',cap',he',_,_,h3'⟩:=HL0.out.full (by have:=HN.out;omega)
    exact LsM.ne (cap:=0) h3' (by have:=HN.out;omega) (Nat.le_refl _)
   have HGn:=Qh hgn
   rw [HN.out] at he hc1
   injection he with he1 he2 he3
   subst he1 he3
   unfold maxLen at hc2
   have HX:=Qh hx
   have HRx:=Qh (range_ij (range_kb h3 hKB hgn) hx)
   have HLg:=Qh (fun w=>rlegal_is q hqB hqr x w)
   clear hx h3 hKB he2 hgn
   cases hl:legB q x
   ·rw [hl] at HLg
    have HV:=Qh (endR_stop HE.out HX.out hl)
    clear hl hqB hqr
    go_wp2
    refine wp_region_held_drew (S:=Kept _) (by kernel_rfl) (Kept.refl _).drew (fun Qj=>?_)
    refine rY 0 20 rfl rfl (take_load_ps (by rfl) _ rfl _ rfl q hql.out (fun _ h=>(HPr.out).kept h)) Qj ?_
    simp only [Act.put,sA,sZ,sU]
    refine rT 1 21 (.slice (some ⟨g0,off,none⟩) n cv) rfl rfl Qj ?_
    simp only [pA,pN,sZ,sU]
    refine rT 2 22 (.int .i64 (k:Int)) rfl rfl Qj ?_
    simp only [pA,pN,sZ,sU]
    refine rT 3 23 (.pointer (some ⟨g0,off+k*3,none⟩)) rfl rfl Qj ?_
    simp only [pA,pN,sZ,sU]
    refine rY 4 24 rfl rfl (take_load_mvi (by rfl) _ rfl g0 (off+k*3) rfl x (fun _ h=>range_kept (HRx.out) h)) Qj ?_
    simp only [pA,pN,sZ,sU]
    refine rR 5 rfl (fun K hK=>?_)
    go_simp
    refine (HLg.out _).mono ?_
    rintro e x1 ⟨rfl,gx1⟩
    refine hK.out _ _ (Qj.trans gx1) (fun _=>?_)
    replace Qj:=Qj.trans gx1
    clear hK K
    refine rT 6 26 (.bool true) rfl rfl Qj ?_
    simp only [pA,pN,sZ,sU]
    refine wpAnyH_done (by kernel_rfl) ?_ _
    have HK4:=Qh (HKr.out.trans Qj)
    have HR4:=Qh (HRr.out.kept Qj)
    clear Qj gx1
    go_wp2_with (first|(refine wpList_built_p0 (by rfl) rfl ?_)|(refine wpList_store_ps rfl _ _ rfl (w.heap.size+1) Zp Zp HR4.out Zp_len rfl rfl ?_))
    refine bodyPost_ret (v:=.tuple #[.agg (pl Zp).toArray,.int .i64 5]) ?_ rfl ⟨by rw [HEp.out.1,HEp.out.2,HV.out];rfl,HK4.out.setRow (by omega) _⟩
    exact (results_pos_tmp (s:=4) (t:=5) rfl _ rfl (HR4.out.setRow Zp_len)).trans rfl
   ·rw [hl] at HLg
    have HBe:=Qh (fun w=>rbeh_is q hqB hqr x hl w)
    have HV:=Qh (endR_next HE.out HX.out hl)
    obtain ⟨hq1,hq2,_⟩:=leg_right hqB hqr hl
    have HQ1:=Qh hq1
    have HQ2:=Qh hq2
    clear hl hqB hqr hq1 hq2
    have hq2l:Hid ((behP q x).B.length=64):=HQ2.out.1
    generalize behP q x=q' at *
    go_wp2
    refine wp_region_held_drew (S:=Kept _) (by kernel_rfl) (Kept.refl _).drew (fun Qj=>?_)
    refine rY 0 20 rfl rfl (take_load_ps (by rfl) _ rfl _ rfl q hql.out (fun _ h=>(HPr.out).kept h)) Qj ?_
    simp only [Act.put,sA,sZ,sU]
    refine rT 1 21 (.slice (some ⟨g0,off,none⟩) n cv) rfl rfl Qj ?_
    simp only [pA,pN,sZ,sU]
    refine rT 2 22 (.int .i64 (k:Int)) rfl rfl Qj ?_
    simp only [pA,pN,sZ,sU]
    refine rT 3 23 (.pointer (some ⟨g0,off+k*3,none⟩)) rfl rfl Qj ?_
    simp only [pA,pN,sZ,sU]
    refine rY 4 24 rfl rfl (take_load_mvi (by rfl) _ rfl g0 (off+k*3) rfl x (fun _ h=>range_kept (HRx.out) h)) Qj ?_
    simp only [pA,pN,sZ,sU]
    refine rR 5 rfl (fun K hK=>?_)
    go_simp
    refine (HLg.out _).mono ?_
    rintro e x1 ⟨rfl,gx1⟩
    refine hK.out _ _ (Qj.trans gx1) (fun _=>?_)
    replace Qj:=Qj.trans gx1
    clear hK K
    refine rT 6 26 (.bool false) rfl rfl Qj ?_
    simp only [pA,pN,sZ,sU]
    refine wpAnyH_done (by kernel_rfl) ?_ _
    have HK4:=Qh (HKr.out.trans Qj)
    have HP4:=Qh (HPr.out.kept Qj)
    have HB4:=Qh (HKB.out.kept Qj)
    have HRx4:=Qh (range_kept HRx.out Qj)
    clear Qj gx1
    go_wp2
    refine wp_region_held_drew (S:=KB (x1) (w.heap.size)) (by kernel_rfl) ((KB.refl _ _).kept (Kept.refl _).drew) (fun Qj=>?_)
    have hKp:=(Kept.refl (x1)).drew
    refine rT 1 29 (.slice (some ⟨g0,off,none⟩) n cv) rfl rfl Qj ?_
    simp only [pA,pN,sZ,sU]
    refine rT 2 30 (.int .i64 (k:Int)) rfl rfl Qj ?_
    simp only [pA,pN,sZ,sU]
    refine rT 3 31 (.pointer (some ⟨g0,off+k*3,none⟩)) rfl rfl Qj ?_
    simp only [pA,pN,sZ,sU]
    refine rY 4 32 rfl rfl (take_load_mvi (by rfl) _ rfl g0 (off+k*3) rfl x (fun _ h=>range_kb HRx4.out h HGn.out)) Qj ?_
    simp only [pA,pN,sZ,sU]
    refine rR 0 rfl (fun K hK=>?_)
    rw [if_pos (by rfl)]
    refine wp_load_psr _ rfl w.heap.size rfl q (HP4.out.kept hKp) ?_
    refine hK.out _ _ Qj (fun _=>?_)
    clear hK K
    simp only [Act.put,sA,sZ,sU]
    refine rR 5 rfl (fun K hK=>?_)
    go_simp
    refine (HBe.out _).mono ?_
    rintro e x2 ⟨rfl,gx2⟩
    refine hK.out _ _ (Qj.kept gx2) (fun _=>?_)
    replace Qj:=Qj.kept gx2
    replace hKp:=hKp.trans gx2
    clear hK K
    refine rR 6 rfl (fun K hK=>?_)
    rw [if_pos (by rfl)]
    have HPx:=Qh (HP4.out.kept hKp)
    refine wp_store_row 26 _ _ rfl w.heap.size (pl q').toArray rfl rfl 26 _ HPx.out.at_ (size_pl hq2l.out) (by rw [pl_size hql.out,pl_size hq2l.out]) (pl_one _) ?_
    have HP5:=Qh (HPx.out.setRow hq2l.out)
    have HB5:=Qh ((HB4.out.kept hKp).row (pl q').toArray)
    refine hK.out _ _ (Qj.row _) (fun _=>?_)
    clear hK K Qj hKp gx2
    generalize x2.setRow w.heap.size (pl q').toArray=x3 at *
    refine wpAnyH_done (by kernel_rfl) ?_ _
    go_wp2
    go_roundw
    case rel=>exact ⟨k+1,q',by omega,by go_num,HV.out,HQ2.out,HQ1.out,HP5.out,HB5.out⟩
    case measure=>simp [intOf];omega
  ·clear hKB hqB hqr
   obtain rfl:k=n:=by omega
   have HV:Hid (endR p l=some q):=by
    have:=HE.out
    rw [← HN.out,List.take_length] at this
    exact this
   go_wp2_with (first|(refine wpList_load_ps (by rfl) _ rfl _ rfl _ HPr.out ?_)|(refine wpList_store_ps rfl _ _ rfl (w.heap.size+1) Zp q HRr.out hql.out rfl rfl ?_))
   refine bodyPost_ret (v:=.tuple #[.agg (pl q).toArray,.int .i64 0]) ?_ rfl ⟨by rw [HEp.out.1,HEp.out.2,HV.out];rfl,HKr.out.setRow (by omega) _⟩
   exact (results_pos_tmp (s:=4) (t:=5) rfl _ rfl (HRr.out.setRow hql.out)).trans rfl
theorem rpend_is (g0:Nat) (v:Value) (l:List Mv) (p:Ps) (hB:Brd p.B) (w:World) (hL:LsM w g0 v l) :
  Calls Tryz.prog 13 #[.agg (pl p).toArray,v] w (RetPE w (endP p l) (endE p l)):=by
 by_cases h:pwI p=0
 ·exact rpend_right g0 v l p hB h w hL
 ·obtain ⟨av,cv,e⟩:=hL.slice
  exact rpend_wrong v l av cv _ e p hB h w
theorem run_neq_ps {p q:Ps} (hp:p.B.length=64) (hq:q.B.length=64) (w:World):(binOp .neq 26 (.agg (pl p).toArray) (.agg (pl q).toArray)).run Tryz.prog w=.ok (.bool (!beqP p q)) w:=by
 simp only [binOp,Sem.run_bind,Op.equal,Op.maxDepth,run_equal_p hp hq,Result.andThen_ok,Sem.run_pure]
theorem wpList_neq_ps {ops:Array Oper} {rest:List Oper} {o:Oper} {a:Act} {w:World} {Q:Exit→Act→World→Prop} {b:Bool} (hw:Region.wanted o (yielded ops a.tmps)=true) (x y:Operand) (ty:TypeId) (ho:o.op=.binOp .neq 26 x y ty)
  (p q:Ps) (hx:a.eval x=.agg (pl p).toArray) (hy:a.eval y=.agg (pl q).toArray) (h:p.B.length=64∧q.B.length=64∧(!beqP p q)=b)
  (hk:wpList Tryz.prog ops Q rest (a.put o.dst (.bool b)) w):wpList Tryz.prog ops Q (o::rest) a w :=
 wpList_step fun _ hK=>by
  rw [if_pos hw]
  unfold Oper.wp execOp
  simp only [ho,hx,hy,Sem.run_bind,run_eqGuard_agg w _ _ _ _ _ _ eqGuardP,run_neq_ps h.1 h.2.1,Result.andThen_ok,Sem.run_pure,h.2.2,Oper.upon_value]
  exact hK _ _ hk
theorem wpList_neq_psg {ops:Array Oper} {rest:List Oper} {o:Oper} {a:Act} {w:World} {Q:Exit→Act→World→Prop} (hgd:o.guard=none) (x y:Operand) (ty:TypeId) (ho:o.op=.binOp .neq 26 x y ty)
  (q:Ps) (hx:a.eval x=.agg (pl q).toArray) (hy:a.eval y=.agg (pl q).toArray) (h:q.B.length=64)
  (hk:wpList Tryz.prog ops Q rest (a.put o.dst (.bool false)) w):wpList Tryz.prog ops Q (o::rest) a w :=
 wpList_plain hgd fun _ hK=>by
  have hb:(!beqP q q)=false:=by rw [beqP_refl];rfl
  unfold Oper.wp execOp
  simp only [ho,hx,hy,Sem.run_bind,run_eqGuard_agg w _ _ _ _ _ _ eqGuardP,run_neq_ps h h,Result.andThen_ok,Sem.run_pure,hb,Oper.upon_value]
  exact hK _ _ hk
set_option maxHeartbeats 4000000 in
theorem pathsEnd_long (p:Ps) (hB:Brd p.B) (g:Nat) (v:Value) (l:List Mv) (h:20<l.length) (w:World) (hT:TabG w) (hl:LsM w g v l) :
  Calls Tryz.prog 4 #[.agg (pl p).toArray,v] w fun e w'=>e=.returned (.bool true)∧Kept w w':=by
 obtain ⟨av,cv,rfl⟩:=hl.slice
 have HK0:=Qh ((Kept.refl w).alloc (.cells (pl p).toArray 26))
 have HT:=Qh (hT.kept HK0.out)
 generalize l.length=n at *
 have h':(20:Int)<(n:Int):=by omega
 clear hB hT hl
 go_enter Tryz.func4,Tryz.ntmps4
 go_wp2_with fail
 refine (paths_wake _ HT.out).mono ?_
 rintro e w1 ⟨rfl,k1⟩
 have HK1:=Qh (HK0.out.trans k1)
 clear k1
 go_wp2
 go_ret
 exact ⟨rfl,HK1.out⟩
set_option maxHeartbeats 8000000 in
theorem pathsEnd_no (p:Ps) (hB:Brd p.B) (g:Nat) (v:Value) (l:List Mv) (h:¬ 20<l.length) (hE:endE p l≠0) (w:World) (hT:TabG w) (hl:LsM w g v l) :
  Calls Tryz.prog 4 #[.agg (pl p).toArray,v] w fun e w'=>e=.returned (.bool true)∧Kept w w':=by
 have HP0:=Qh (PAt.new w hB.1)
 have HK0:=Qh ((Kept.refl w).alloc (.cells (pl p).toArray 26))
 have HT:=Qh (hT.kept HK0.out)
 have HL0:=Qh (hl.kept HK0.out)
 have HC:=Qh (fun w hT hL=>pend_is g v l p hB w hT hL)
 have HD:=Qh (fun w hL=>rpend_is g v l p hB w hL)
 have hql:Hid ((endP p l).B.length=64):=by
  show _=_
  unfold endP
  split
  ·exact Zp_len
  ·cases hq:endR p l with
   | none=>exact Zp_len
   | some q=>exact (endR_right l p q hB (by omega) hq).1.1
 have hv:(endE p l != 0)=true:=bne_iff_ne.2 hE
 obtain ⟨av,cv,rfl⟩:=hl.slice
 generalize endP p l=q at *
 generalize endE p l=x at *
 generalize l.length=n at *
 have h':¬ (20:Int)<(n:Int):=by omega
 clear hB hT hl hE
 go_enter Tryz.func4,Tryz.ntmps4
 go_wp2_with fail
 refine (paths_wake _ HT.out).mono ?_
 rintro e w1 ⟨rfl,k1⟩
 have HK1:=Qh (HK0.out.trans k1)
 have HP1:=Qh (HP0.out.kept k1)
 have HL1:=Qh (HL0.out.kept k1)
 have HT1:=Qh (HT.out.kept k1)
 clear k1
 go_wp2_with (first|(refine wpList_load_ps (by rfl) _ rfl _ rfl _ (HP1.out) ?_)|(refine wpList_load_pb (by rfl) _ rfl _ rfl _ (HP1.out) ?_))
 refine (HC.out _ HT1.out HL1.out).mono ?_
 rintro e w2 ⟨rfl,k2⟩
 have KA:=Qh (k2.alloc (.cells (pl q).toArray 26))
 have HK2:=Qh (HK1.out.trans KA.out)
 have HP2:=Qh (HP1.out.kept KA.out)
 have HL2:=Qh (HL1.out.kept KA.out)
 have HT2:=Qh (HT1.out.kept KA.out)
 have HQ2:=Qh (PAt.new w2 hql.out)
 clear k2 KA
 go_wp2_with (first|(with_reducible refine wpList_new_p rfl rfl ?_)|((with_reducible refine wpList_store_newp rfl _ _ rfl Zp q Zp_len hql.out ?_ ?_ ?_);exact rfl;exact rfl)|(refine wpList_load_ps (by rfl) _ rfl _ rfl _ HP2.out ?_))
 generalize w2.alloc (.cells (pl q).toArray 26)=W2 at *
 generalize w2.heap.size=g5 at *
 refine (HD.out _ HL2.out).mono ?_
 rintro e w3 ⟨rfl,k3⟩
 have KA:=Qh (k3.alloc (.cells (pl q).toArray 26))
 have HK3:=Qh (HK2.out.trans KA.out)
 have HQ3:=Qh (HQ2.out.kept KA.out)
 have HX3:=Qh (PAt.new w3 hql.out)
 clear k3 KA
 go_wp2_with (first|(with_reducible refine wpList_new_p rfl rfl ?_)|((with_reducible refine wpList_store_newp rfl _ _ rfl Zp q Zp_len hql.out ?_ ?_ ?_);exact rfl;exact rfl)|((with_reducible refine wpList_load_psg rfl _ rfl g5 ?_ q HQ3.out ?_);exact rfl)|((with_reducible refine wpList_load_psg rfl _ rfl w3.heap.size ?_ q HX3.out ?_);exact rfl)|((with_reducible refine wpList_neq_psg rfl _ _ _ rfl q ?_ ?_ hql.out ?_);exact rfl;exact rfl))
 go_ret
 exact ⟨rfl,HK3.out⟩
set_option maxHeartbeats 8000000 in
theorem pathsEnd_ok (p:Ps) (hB:Brd p.B) (g:Nat) (v:Value) (l:List Mv) (h:¬ 20<l.length) (hr:pwI p=0) (q:Ps) (hE:endR p l=some q) (w:World) (hT:TabG w) (hl:LsM w g v l) :
  Calls Tryz.prog 4 #[.agg (pl p).toArray,v] w fun e w'=>e=.returned (.bool true)∧Kept w w':=by
 have HP0:=Qh (PAt.new w hB.1)
 have HK0:=Qh ((Kept.refl w).alloc (.cells (pl p).toArray 26))
 have HT:=Qh (hT.kept HK0.out)
 have HL0:=Qh (hl.kept HK0.out)
 have HC:=Qh (fun w hT hL=>pend_is g v l p hB w hT hL)
 have HD:=Qh (fun w hL=>rpend_is g v l p hB w hL)
 obtain ⟨hq1,hq2,hq3⟩:=endR_right l p q hB hr hE
 have hql:Hid (q.B.length=64):=hq1.1
 have e1:endP p l=q:=by rw [(endP_in hr).1,hE];rfl
 have e2:endE p l=0:=by rw [(endP_in hr).2,hE];rfl
 rw [e1,e2] at HC HD
 have HW:=Qh (fun w hw=>pwrong_is q hq1 w hw)
 rw [hq2] at HW
 have ht:=(right_t hq2).1
 obtain ⟨av,cv,rfl⟩:=hl.slice
 generalize l.length=n at *
 have h':¬ (20:Int)<(n:Int):=by omega
 have hq0:0≤q.t:=by omega
 have hq01:q.t≤1:=by omega
 have hmod:((q.t+(n:Int)) % 2 == p.t)=true:=by rw [beq_iff_eq];exact hq3
 clear hB hT hl hE e1 e2 hq1 hq2 hq3 ht
 go_enter Tryz.func4,Tryz.ntmps4
 go_wp2_with fail
 refine (paths_wake _ HT.out).mono ?_
 rintro e w1 ⟨rfl,k1⟩
 have HK1:=Qh (HK0.out.trans k1)
 have HP1:=Qh (HP0.out.kept k1)
 have HL1:=Qh (HL0.out.kept k1)
 have HT1:=Qh (HT.out.kept k1)
 clear k1
 go_wp2_with (first|(refine wpList_load_ps (by rfl) _ rfl _ rfl _ (HP1.out) ?_)|(refine wpList_load_pb (by rfl) _ rfl _ rfl _ (HP1.out) ?_))
 refine (HC.out _ HT1.out HL1.out).mono ?_
 rintro e w2 ⟨rfl,k2⟩
 have KA:=Qh (k2.alloc (.cells (pl q).toArray 26))
 have HK2:=Qh (HK1.out.trans KA.out)
 have HP2:=Qh (HP1.out.kept KA.out)
 have HL2:=Qh (HL1.out.kept KA.out)
 have HT2:=Qh (HT1.out.kept KA.out)
 have HQ2:=Qh (PAt.new w2 hql.out)
 clear k2 KA
 go_wp2_with (first|(with_reducible refine wpList_new_p rfl rfl ?_)|((with_reducible refine wpList_store_newp rfl _ _ rfl Zp q Zp_len hql.out ?_ ?_ ?_);exact rfl;exact rfl)|(refine wpList_load_ps (by rfl) _ rfl _ rfl _ HP2.out ?_))
 generalize w2.alloc (.cells (pl q).toArray 26)=W2 at *
 generalize w2.heap.size=g5 at *
 refine (HD.out _ HL2.out).mono ?_
 rintro e w3 ⟨rfl,k3⟩
 have KA:=Qh (k3.alloc (.cells (pl q).toArray 26))
 have HK3:=Qh (HK2.out.trans KA.out)
 have HP3:=Qh (HP2.out.kept KA.out)
 have HT3:=Qh (HT2.out.kept KA.out)
 have HQ3:=Qh (HQ2.out.kept KA.out)
 have HX3:=Qh (PAt.new w3 hql.out)
 clear k3 KA
 go_wp2_with (first|(with_reducible refine wpList_new_p rfl rfl ?_)|((with_reducible refine wpList_store_newp rfl _ _ rfl Zp q Zp_len hql.out ?_ ?_ ?_);exact rfl;exact rfl)|(refine wpList_load_ps (by rfl) _ rfl _ rfl _ HQ3.out ?_)|(refine wpList_load_ps (by rfl) _ rfl _ rfl _ HX3.out ?_)|(refine wpList_neq_ps (by rfl) _ _ _ rfl q q rfl rfl (b:=false) ⟨hql.out,hql.out,by rw [beqP_refl];rfl⟩ ?_))
 generalize w3.alloc (.cells (pl q).toArray 26)=W3 at *
 refine (HW.out _ HT3.out.tabm.tabs).mono ?_
 rintro e w4 ⟨rfl,k4⟩
 have HK4:=Qh (HK3.out.trans k4)
 have y5:=(HQ3.out.kept k4).turn
 have y2:=(HP3.out.kept k4).turn
 clear k4
 go_wp2
 go_ret
 exact ⟨rfl,HK4.out⟩
theorem walkPathsEnd (p:Ps) (hB:Brd p.B) (g:Nat) (v:Value) (l:List Mv) (w:World) (hT:TabG w) (hl:LsM w g v l) :
  Calls Tryz.prog 4 #[.agg (pl p).toArray,v] w fun e w'=>e=.returned (.bool true)∧Kept w w':=by
 by_cases h:20<l.length
 ·exact pathsEnd_long p hB g v l h w hT hl
 ·by_cases hE:endE p l=0
  ·by_cases hr:pwI p=0
   ·cases hq:endR p l with
    | none=>rw [(endP_in hr).2,hq] at hE;cases hE
    | some q=>exact pathsEnd_ok p hB g v l h hr q hq w hT hl
   ·rw [(endP_no hr).2] at hE
    exact absurd hE hr
  ·exact pathsEnd_no p hB g v l h hE w hT hl
end Go.Proofs.YtijkemnhehbchaaGreatDoor
