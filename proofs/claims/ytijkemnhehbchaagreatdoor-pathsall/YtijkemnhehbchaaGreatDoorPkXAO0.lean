/- MvH · PaA · PaB: my texts, in their order. -/
import Derived.Test.YtijkemnhehbchaaGreatDoorPkA
import Derived.Test.YtijkemnhehbchaaGreatDoorPkB
import Derived.Test.YtijkemnhehbchaaGreatDoorPkC
import Derived.Test.YtijkemnhehbchaaGreatDoorPkD
import Derived.Test.YtijkemnhehbchaaGreatDoorPkE
import Derived.Test.YtijkemnhehbchaaGreatDoorPkF
import Derived.Test.YtijkemnhehbchaaGreatDoorPkGa
import Derived.Test.YtijkemnhehbchaaGreatDoorPkGb
import Derived.Test.YtijkemnhehbchaaGreatDoorPkGc
import Derived.Test.YtijkemnhehbchaaGreatDoorPkGd
import Derived.Test.YtijkemnhehbchaaGreatDoorPkGe
import Derived.Test.YtijkemnhehbchaaGreatDoorPkGh
import Derived.Test.YtijkemnhehbchaaGreatDoorPkH
import Derived.Test.YtijkemnhehbchaaGreatDoorPkI
import Derived.Test.YtijkemnhehbchaaGreatDoorPkJ
import Derived.Test.YtijkemnhehbchaaGreatDoorPkK
import Derived.Test.YtijkemnhehbchaaGreatDoorPkL
import Derived.Test.YtijkemnhehbchaaGreatDoorPkLa
import Derived.Test.YtijkemnhehbchaaGreatDoorPkLf
import Derived.Test.YtijkemnhehbchaaGreatDoorPkLh
import Derived.Test.YtijkemnhehbchaaGreatDoorPkM
import Derived.Test.YtijkemnhehbchaaGreatDoorPkR
import Derived.Test.YtijkemnhehbchaaGreatDoorPkRa
import Derived.Test.YtijkemnhehbchaaGreatDoorPkRb
namespace Go.Proofs.YtijkemnhehbchaaGreatDoor
open Go.RowKit
set_option linter.unusedVariables false
set_option linter.unusedSimpArgs false
set_option maxRecDepth 100000
theorem run_neq_mv (a b:Mv) (w:World):(binOp .neq 54 (.agg (ml a).toArray) (.agg (ml b).toArray)).run Tryz.prog w=.ok (.bool (!beqM a b)) w:=by
 simp only [binOp,Sem.run_bind,Op.equal,Op.maxDepth,run_equal_mv,Result.andThen_ok,Sem.run_pure]
theorem take_neq_mv {ops:Array Oper} {S:World→Prop} {op:Oper} {ac:Act} {b:Bool} (hw:Region.wanted op (yielded ops ac.tmps)=true) (x y:Operand) (ty:TypeId) (ho:op.op=.binOp .neq 54 x y ty)
  (p q:Mv) (hx:ac.eval x=.agg (ml p).toArray) (hy:ac.eval y=.agg (ml q).toArray) (h:(!beqM p q)=b):YieldsIf Tryz.prog ops S op (.bool b) ac :=
 .inl ⟨hw,fun w _=>by
  unfold execOp
  simp only [ho,hx,hy,Sem.run_bind,run_eqGuard_agg w _ _ _ _ _ _ eqGuardM,run_neq_mv,Result.andThen_ok,Sem.run_pure,h]⟩
theorem compare_is (x y:Int) (w:World):Calls Tryz.prog 57 #[.int .i64 x,.int .i64 y] w fun e w'=>e=.returned (.int .i64 (cmpI x y))∧Kept w w':=by
 by_cases h1:x<y
 ·have HV:Hid (cmpI x y=-1):=by show _=_;unfold cmpI;rw [if_pos h1]
  go_enter Tryz.func57,Tryz.ntmps57
  go_wp2_with fail
  refine (nan_is _ _).mono ?_
  rintro e w' ⟨rfl,rfl⟩
  go_wp2_with fail
  refine (nan_is _ _).mono ?_
  rintro e w' ⟨rfl,rfl⟩
  go_wp2
  go_ret
  exact ⟨by rw [HV.out];rfl,Kept.refl _⟩
 ·by_cases h2:y<x
  ·have HV:Hid (cmpI x y=1):=by show _=_;unfold cmpI;rw [if_neg h1,if_pos h2]
   go_enter Tryz.func57,Tryz.ntmps57
   go_wp2_with fail
   refine (nan_is _ _).mono ?_
   rintro e w' ⟨rfl,rfl⟩
   go_wp2_with fail
   refine (nan_is _ _).mono ?_
   rintro e w' ⟨rfl,rfl⟩
   go_wp2
   go_ret
   exact ⟨by rw [HV.out];rfl,Kept.refl _⟩
  ·have HV:Hid (cmpI x y=0):=by show _=_;unfold cmpI;rw [if_neg h1,if_neg h2]
   go_enter Tryz.func57,Tryz.ntmps57
   go_wp2_with fail
   refine (nan_is _ _).mono ?_
   rintro e w' ⟨rfl,rfl⟩
   go_wp2_with fail
   refine (nan_is _ _).mono ?_
   rintro e w' ⟨rfl,rfl⟩
   go_wp2
   go_ret
   exact ⟨by rw [HV.out];rfl,Kept.refl _⟩
theorem or_is (l:List Int) (g:Nat) (w:World) (hc:∀ j,j<3→w.cell? ⟨g,j,none⟩=some (.int .i64 (l.getD j 0))) :
  Calls Tryz.prog 56 #[.slice (some ⟨g,0,none⟩) 3 3] w fun e w'=>e=.returned (.int .i64 (orI l))∧Kept w w':=by
 have HC:=Qh hc
 clear hc
 go_enter Tryz.func56,Tryz.ntmps56
 go_wp2
 go_loopw [8] (fun t8 wr=>∃ k:Nat,k≤3∧t8=.int .i64 k∧(∀ j,j<k→l.getD j 0=0)∧Kept w wr) (fun t8 _=>3-(intOf t8).toNat)
 case atStart=>exact ⟨0,by omega,rfl,fun j hj=>by omega,Kept.refl _⟩
 case round =>
  obtain ⟨k,hk,rfl,hno,hK⟩:=hrel
  have HNo:=Qh hno
  have HK:=Qh hK
  clear hno
  by_cases hlt:k<3
  ·have hx:=kept_cell hK (HC.out k hlt)
   clear hK
   obtain ⟨x,hxe⟩:∃ x,l.getD k 0=x:=⟨_,rfl⟩
   rw [hxe] at hx
   have HX:=Qh hxe
   clear hxe
   by_cases h0:x=0
   ·have hb:(x != 0)=false:=by rw [h0];rfl
    have H0:=Qh h0
    clear h0
    go_wp2
    go_roundw
    case rel=>exact ⟨k+1,by omega,by go_num,fun j hj=>by rcases Nat.lt_succ_iff_lt_or_eq.1 hj with h|h;exact HNo.out j h;rw [h,HX.out];exact H0.out,HK.out⟩
    case measure=>simp [intOf];omega
   ·have hb:(x != 0)=true:=bne_iff_ne.2 h0
    have HE:=Qh (or_at hlt (by rw [HX.out];exact h0) HNo.out)
    clear h0
    go_wp2
    go_ret
    exact ⟨by rw [HE.out,HX.out];rfl,HK.out⟩
  ·have HE:=Qh (or_none (l:=l) (fun j hj=>HNo.out j (by omega)))
   clear hK
   go_wp2
   go_ret
   exact ⟨by rw [HE.out];rfl,HK.out⟩
set_option maxHeartbeats 2000000 in
theorem less_is (a b:Mv) (w:World):Calls Tryz.prog 30 #[.agg (ml a).toArray,.agg (ml b).toArray] w fun e w'=>e=.returned (.bool (lessB a b))∧Kept w w':=by
 have HA:Hid (MAt _ _ a):=⟨heap_alloc2_old w (.cells (ml a).toArray 54) (.cells (ml b).toArray 54)⟩
 have HB:Hid (MAt _ _ b):=⟨heap_alloc2_new w (.cells (ml a).toArray 54) (.cells (ml b).toArray 54)⟩
 have HK0:=Qh (((Kept.refl w).alloc (.cells (ml a).toArray 54)).alloc (.cells (ml b).toArray 54))
 have HV:=Qh (or_less a b)
 have HC1:=Qh (compare_is a.f b.f)
 have HC2:=Qh (compare_is a.t b.t)
 have HC3:=Qh (compare_is b.p a.p)
 generalize cmpI a.f b.f=c1 at *
 generalize cmpI a.t b.t=c2 at *
 generalize cmpI b.p a.p=c3 at *
 go_enter Tryz.func30,Tryz.ntmps30
 go_wp2
 refine wp_region_held_drew (S:=Kept _) (by kernel_rfl) (Kept.refl _).drew (fun Qj=>?_)
 refine rT 0 5 (.pointer (some ⟨w.heap.size,0,none⟩)) rfl rfl Qj ?_
 simp only [pA,pN,sZ,sU]
 refine rC 1 6 (.int .i64 a.f) rfl rfl (fun _ h=>kept_cell h (HA.out.f)) Qj ?_
 simp only [pA,pN,sZ,sU]
 refine rT 2 7 (.pointer (some ⟨w.heap.size+1,0,none⟩)) rfl rfl Qj ?_
 simp only [pA,pN,sZ,sU]
 refine rC 3 8 (.int .i64 b.f) rfl rfl (fun _ h=>kept_cell h (HB.out.f)) Qj ?_
 simp only [pA,pN,sZ,sU]
 refine rT 5 10 (.pointer (some ⟨w.heap.size,1,none⟩)) rfl rfl Qj ?_
 simp only [pA,pN,sZ,sU]
 refine rC 6 11 (.int .i64 a.t) rfl rfl (fun _ h=>kept_cell h (HA.out.t)) Qj ?_
 simp only [pA,pN,sZ,sU]
 refine rT 7 12 (.pointer (some ⟨w.heap.size+1,1,none⟩)) rfl rfl Qj ?_
 simp only [pA,pN,sZ,sU]
 refine rC 8 13 (.int .i64 b.t) rfl rfl (fun _ h=>kept_cell h (HB.out.t)) Qj ?_
 simp only [pA,pN,sZ,sU]
 refine rT 10 15 (.pointer (some ⟨w.heap.size+1,2,none⟩)) rfl rfl Qj ?_
 simp only [pA,pN,sZ,sU]
 refine rC 11 16 (.int .i64 b.p) rfl rfl (fun _ h=>kept_cell h (HB.out.p)) Qj ?_
 simp only [pA,pN,sZ,sU]
 refine rT 12 17 (.pointer (some ⟨w.heap.size,2,none⟩)) rfl rfl Qj ?_
 simp only [pA,pN,sZ,sU]
 refine rC 13 18 (.int .i64 a.p) rfl rfl (fun _ h=>kept_cell h (HA.out.p)) Qj ?_
 simp only [pA,pN,sZ,sU]
 refine rR 4 rfl (fun K hK=>?_)
 go_simp
 refine (HC1.out _).mono ?_
 rintro e x1 ⟨rfl,gx1⟩
 refine hK.out _ _ (Qj.trans gx1) (fun _=>?_)
 replace Qj:=Qj.trans gx1
 clear hK K
 refine rR 9 rfl (fun K hK=>?_)
 go_simp
 refine (HC2.out _).mono ?_
 rintro e x2 ⟨rfl,gx2⟩
 refine hK.out _ _ (Qj.trans gx2) (fun _=>?_)
 replace Qj:=Qj.trans gx2
 clear hK K
 refine rR 14 rfl (fun K hK=>?_)
 go_simp
 refine (HC3.out _).mono ?_
 rintro e x3 ⟨rfl,gx3⟩
 refine hK.out _ _ (Qj.trans gx3) (fun _=>?_)
 replace Qj:=Qj.trans gx3
 clear hK K
 refine rR 15 rfl (fun K hK=>?_)
 go_simp
 have hnew:=heap_alloc_new x3 (.cells #[.int .i64 c1,.int .i64 c2,.int .i64 c3] 3)
 have HCl:=Qh (fun j (hj:j<3)=>show (x3.alloc (.cells #[.int .i64 c1,.int .i64 c2,.int .i64 c3] 3)).cell? ⟨x3.heap.size,j,none⟩=some (.int .i64 (([c1,c2,c3]:List Int).getD j 0)) by
  rw [cell_of_row _ _ j _ _ (0,0) hnew]
  have:j=0∨j=1∨j=2:=by omega
  rcases this with rfl|rfl|rfl <;> rfl)
 clear hnew
 refine hK.out _ _ (Qj.alloc _) (fun _=>?_)
 replace Qj:=Qj.alloc (.cells #[.int .i64 c1,.int .i64 c2,.int .i64 c3] 3)
 clear hK K
 refine rR 16 rfl (fun K hK=>?_)
 go_simp
 refine (or_is [c1,c2,c3] x3.heap.size _ HCl.out).mono ?_
 rintro e x4 ⟨rfl,gx4⟩
 refine hK.out _ _ (Qj.trans gx4) (fun _=>?_)
 replace Qj:=Qj.trans gx4
 clear hK K
 refine rT 17 22 (.bool (decide (orI [c1,c2,c3]<0))) rfl rfl Qj ?_
 simp only [pA,pN,sZ,sU]
 refine rT 18 4 (.bool (decide (orI [c1,c2,c3]<0))) rfl rfl Qj ?_
 simp only [pA,pN,sZ,sU]
 refine wpAnyH_done (by kernel_rfl) ?_ _
 go_wp2
 go_ret
 exact ⟨by rw [← HV.out];rfl,HK0.out.trans Qj⟩
def lessP:List Mv→List Mv→Bool
 | [],b=>!b.isEmpty
 | _::_,[]=>false
 | x::a,y::b=>if beqM x y then lessP a b else lessB x y
def sameP:List Mv→List Mv→Bool
 | [],b=>b.isEmpty
 | _::_,[]=>false
 | x::a,y::b=>beqM x y && sameP a b
theorem lessP_diff {x y:Mv} (a b:List Mv) (h:beqM x y=false):lessP (x::a) (y::b)=lessB x y:=by rw [lessP,if_neg (by rw [h];decide)]
theorem lessP_same {x y:Mv} (a b:List Mv) (h:beqM x y=true):lessP (x::a) (y::b)=lessP a b:=by rw [lessP,if_pos h]
theorem lessP_drop:∀ (k:Nat) (a b:List Mv),k≤a.length→k≤b.length→a.take k=b.take k→lessP a b=lessP (a.drop k) (b.drop k)∧sameP a b=sameP (a.drop k) (b.drop k)
 | 0,a,b,_,_,_=>by simp
 | k+1,[],b,h,_,_=>by simp at h
 | k+1,x::a,[],_,h,_=>by simp at h
 | k+1,x::a,y::b,h1,h2,h=>by
  rw [List.take_succ_cons,List.take_succ_cons,List.cons.injEq] at h
  have hxy:beqM x y=true:=(beqM_iff x y).2 h.1
  rw [lessP_same _ _ hxy,sameP,hxy,Bool.true_and,List.drop_succ_cons,List.drop_succ_cons]
  exact lessP_drop k a b (by simpa using h1) (by simpa using h2) h.2
theorem take_next {a b:List Mv} {k:Nat} {m:Mv} (ha:a[k]?=some m) (hb:b[k]?=some m) (h:a.take k=b.take k):a.take (k+1)=b.take (k+1):=by
 rw [List.take_add_one,List.take_add_one,ha,hb,h]
theorem lessP_at {a b:List Mv} {k:Nat} {x y:Mv} (ha:a[k]?=some x) (hb:b[k]?=some y) (h:a.take k=b.take k) (hd:beqM x y=false):lessP a b=lessB x y∧sameP a b=false:=by
 have h1:=(List.getElem?_eq_some_iff.1 ha).1
 have h2:=(List.getElem?_eq_some_iff.1 hb).1
 obtain ⟨e1,e2⟩:=lessP_drop k a b (by omega) (by omega) h
 rw [e1,e2,drop_at ha,drop_at hb,lessP_diff _ _ hd,sameP,hd]
 exact ⟨rfl,rfl⟩
theorem lessP_nil (a b:List Mv) (h:a=[]∨b=[]):lessP a b=decide (a.length<b.length):=by
 rcases h with rfl|rfl
 ·cases b <;> simp [lessP]
 ·cases a <;> simp [lessP]
theorem lessP_short {a b:List Mv} {k:Nat} (hk:k=a.length∨k=b.length) (h1:k≤a.length) (h2:k≤b.length) (h:a.take k=b.take k):lessP a b=decide (a.length<b.length):=by
 obtain ⟨e1,_⟩:=lessP_drop k a b h1 h2 h
 rw [e1,lessP_nil]
 ·rw [List.length_drop,List.length_drop]
  exact decide_eq_decide.2 (by omega)
 ·rcases hk with rfl|rfl
  ·left;simp
  ·right;simp
theorem take_same {a b:List Mv} {k:Nat} {x y:Mv} (ha:a[k]?=some x) (hb:b[k]?=some y) (hxy:beqM x y=true) (h:a.take k=b.take k):a.take (k+1)=b.take (k+1):=by
 rw [(beqM_iff x y).1 hxy] at ha
 exact take_next ha hb h
set_option maxHeartbeats 4000000 in
theorem pless_in (ga oa ca gb ob cb la lb n:Nat) (a b:List Mv) (w:World) (hla:a.length=la) (hlb:b.length=lb) (h0a:0<la) (h0b:0<lb)
  (hn:min (la:Int) (lb:Int)=(n:Int)) (hna:n≤la) (hnb:n≤lb) (hne:n=la∨n=lb) (hca:la≤ca) (hma:ca≤maxLen) (hcb:lb≤cb) (hmb:cb≤maxLen)
  (hra:w.rangeAt ga oa (mlL a)) (hrb:w.rangeAt gb ob (mlL b)) :
  Calls Tryz.prog 11 #[.slice (some ⟨ga,oa,none⟩) la ca,.slice (some ⟨gb,ob,none⟩) lb cb] w fun e w'=>e=.returned (.bool (lessP a b))∧Kept w w':=by
 have HA:=Qh hla
 have HB:=Qh hlb
 have HRa:=Qh hra
 have HRb:=Qh hrb
 have HNe:=Qh hne
 have hhd:=run_head_mv ga oa la ca n (by omega)
 unfold maxLen at hma hmb
 clear hla hlb hra hrb hne
 go_enter Tryz.func11,Tryz.ntmps11
 go_wp2
 go_loopw [15] (fun t15 wr=>∃ k:Nat,k≤n∧t15=.int .i64 k∧a.take k=b.take k∧Kept w wr) (fun t15 _=>n-(intOf t15).toNat)
 case atStart=>exact ⟨0,Nat.zero_le _,rfl,by simp,Kept.refl _⟩
 case round =>
  obtain ⟨k,hk,rfl,hT,hK⟩:=hrel
  have HT:=Qh hT
  have HK:=Qh hK
  have HN:=Qh hn
  clear hT hn hhd
  by_cases hlt:k<n
  ·have hlt':(k:Int)<(n:Int):=by omega
   have hka:k<la:=by omega
   have hkb:k<lb:=by omega
   obtain ⟨x,hx⟩:∃ x,a[k]?=some x:=⟨_,List.getElem?_eq_getElem (by have:=HA.out;omega)⟩
   obtain ⟨y,hy⟩:∃ y,b[k]?=some y:=⟨_,List.getElem?_eq_getElem (by have:=HB.out;omega)⟩
   have HX:=Qh hx
   have HY:=Qh hy
   have HRx:=Qh (range_ij (range_kept HRa.out hK) hx)
   have KB0:=Qh ((Kept.refl wr).alloc (.cells (ml x).toArray 54))
   have HRy:=Qh (range_kept (range_ij (range_kept HRb.out hK) hy) KB0.out)
   have HMb:=Qh (MAt.new wr x)
   have HKb:=Qh (hK.trans KB0.out)
   clear hx hy hK
   go_wp2_with (first|((with_reducible refine wpList_load_mvo rfl _ rfl ga (oa+k*3) ?_ x HRx.out ?_);exact rfl)|(with_reducible refine wpList_new_mv rfl rfl ?_)|((with_reducible refine wpList_store_newmv rfl _ _ rfl Zm x ?_ ?_ ?_);exact rfl;exact rfl))
   generalize wr.alloc (.cells (ml x).toArray 54)=W at *
   generalize wr.heap.size=gx at *
   refine wp_region_held_drew (S:=Kept _) (by kernel_rfl) (Kept.refl _).drew (fun Qj=>?_)
   refine rY 0 20 rfl rfl (take_load_mv (by rfl) _ rfl _ rfl x (fun _ h=>MAt.kept (HMb.out) h)) Qj ?_
   simp only [Act.put,sA,sZ,sU]
   refine rT 1 21 (.slice (some ⟨gb,ob,none⟩) lb cb) rfl rfl Qj ?_
   simp only [pA,pN,sZ,sU]
   refine rT 2 22 (.int .i64 (k:Int)) rfl rfl Qj ?_
   simp only [pA,pN,sZ,sU]
   refine rT 3 23 (.pointer (some ⟨gb,ob+k*3,none⟩)) rfl rfl Qj ?_
   simp only [pA,pN,sZ,sU]
   refine rY 4 24 rfl rfl (take_load_mvi (by rfl) _ rfl gb (ob+k*3) rfl y (fun _ h=>range_kept (HRy.out) h)) Qj ?_
   simp only [pA,pN,sZ,sU]
   cases hb:beqM x y
   ·skip
    refine rY 5 25 rfl rfl (take_neq_mv (by rfl) _ _ _ rfl x y rfl rfl ((show (!beqM x y)=true by rw [hb];rfl))) Qj ?_
    simp only [pA,pN,sZ,sU]
    refine wpAnyH_done (by kernel_rfl) ?_ _
    have HK1:=Qh (HKb.out.trans Qj)
    have HM1:=Qh (MAt.kept HMb.out Qj)
    have HR1:=Qh (range_kept HRy.out Qj)
    have HV:=Qh (lessP_at HX.out HY.out HT.out hb).1
    clear Qj hb
    go_wp2
    refine wp_region_held_drew (S:=Kept _) (by kernel_rfl) (Kept.refl _).drew (fun Qj=>?_)
    refine rY 0 26 rfl rfl (take_load_mv (by rfl) _ rfl _ rfl x (fun _ h=>MAt.kept (HM1.out) h)) Qj ?_
    simp only [pA,pN,sZ,sU]
    refine rT 1 27 (.slice (some ⟨gb,ob,none⟩) lb cb) rfl rfl Qj ?_
    simp only [pA,pN,sZ,sU]
    refine rT 2 28 (.int .i64 (k:Int)) rfl rfl Qj ?_
    simp only [pA,pN,sZ,sU]
    refine rT 3 29 (.pointer (some ⟨gb,ob+k*3,none⟩)) rfl rfl Qj ?_
    simp only [pA,pN,sZ,sU]
    refine rY 4 30 rfl rfl (take_load_mvi (by rfl) _ rfl gb (ob+k*3) rfl y (fun _ h=>range_kept (HR1.out) h)) Qj ?_
    simp only [pA,pN,sZ,sU]
    refine rR 5 rfl (fun K hK=>?_)
    go_simp
    refine (less_is x y _).mono ?_
    rintro e x1 ⟨rfl,gx1⟩
    refine hK.out _ _ (Qj.trans gx1) (fun _=>?_)
    replace Qj:=Qj.trans gx1
    clear hK K
    refine rT 6 4 (.bool (lessB x y)) rfl rfl Qj ?_
    simp only [pA,pN,sZ,sU]
    refine wpAnyH_done (by kernel_rfl) ?_ _
    have HKe:=Qh (HK1.out.trans Qj)
    clear Qj gx1
    go_wp2
    go_ret
    exact ⟨by rw [HV.out];rfl,HKe.out⟩
   ·skip
    refine rY 5 25 rfl rfl (take_neq_mv (by rfl) _ _ _ rfl x y rfl rfl ((show (!beqM x y)=false by rw [hb];rfl))) Qj ?_
    simp only [pA,pN,sZ,sU]
    refine wpAnyH_done (by kernel_rfl) ?_ _
    have HK1:=Qh (HKb.out.trans Qj)
    have HV:=Qh (take_same HX.out HY.out hb HT.out)
    clear Qj hb
    go_wp2
    go_roundw
    case rel=>exact ⟨k+1,by omega,by go_num,HV.out,HK1.out⟩
    case measure=>simp [intOf];omega
  ·clear hK
   obtain rfl:k=n:=by omega
   have HV:=Qh (lessP_short (a:=a) (b:=b) (k:=k) (by rw [HA.out,HB.out];exact HNe.out) (by rw [HA.out];omega) (by rw [HB.out];omega) HT.out)
   rw [HA.out,HB.out] at HV
   go_wp2
   go_ret
   exact ⟨by rw [HV.out];rfl,HK.out⟩
theorem run_nil_mv (w:World):(Instr.sliceAt 37 (.slice none 0 0) none (some (.int .i64 0)) none).run Tryz.prog w=.ok (.slice none 0 0) w:=by
 obtain ⟨i0,hi0,hz1⟩:=partsM
 have ht:=Tryz.underlying37
 have he:Tryz.prog.elem 37=54:=by kernel_rfl
 rw [run_sliceAt_slice w _ _ _ _ _ (by rw [he];exact ht),run_slice_h w _ _ _ _ (by rw [he];exact ht) _ _ (by omega) (by omega),he]
 simp [sizeOf,typeInfo,hi0,hz1,sliced,Addr.add]
set_option maxHeartbeats 2000000 in
theorem pless_no (va vb:Value) (oa ob:Option Addr) (la lb ca cb:Nat) (a b:List Mv) (w:World) (ea:va=.slice oa la ca) (eb:vb=.slice ob lb cb) (hla:a.length=la) (hlb:b.length=lb) (h:la=0∨lb=0)
  (hn:min (la:Int) (lb:Int)=0) (v0:Value) (hr:∀ w,(Instr.sliceAt 37 (.slice oa la ca) none (some (.int .i64 0)) none).run Tryz.prog w=.ok v0 w) (h0:∃ o c,v0=.slice o 0 c) :
  Calls Tryz.prog 11 #[va,vb] w fun e w'=>e=.returned (.bool (lessP a b))∧Kept w w':=by
 obtain ⟨o0,c0,rfl⟩:=h0
 subst ea eb
 have HV:Hid (lessP a b=decide (la<lb)):=by
  show _=_
  rw [lessP_nil,hla,hlb]
  rcases h with h|h
  ·exact .inl (List.eq_nil_of_length_eq_zero (by omega))
  ·exact .inr (List.eq_nil_of_length_eq_zero (by omega))
 clear hla hlb h
 go_enter Tryz.func11,Tryz.ntmps11
 go_wp2
 go_loopw [15] (fun t15 wr=>t15=.int .i64 0∧wr=w) (fun _ _=>0)
 case atStart=>exact ⟨rfl,rfl⟩
 case round =>
  obtain ⟨rfl,rfl⟩:=hrel
  go_wp2
  go_ret
  exact ⟨by rw [HV.out];rfl,Kept.refl _⟩
theorem pless_is (ga gb:Nat) (va vb:Value) (a b:List Mv) (w:World) (ha:LsM w ga va a) (hb:LsM w gb vb b) :
  Calls Tryz.prog 11 #[va,vb] w fun e w'=>e=.returned (.bool (lessP a b))∧Kept w w':=by
 by_cases h0a:0<a.length
 ·by_cases h0b:0<b.length
  ·obtain ⟨oa,ca,rfl,a1,a2,a3⟩:=ha.full h0a
   obtain ⟨ob,cb,rfl,b1,b2,b3⟩:=hb.full h0b
   by_cases hlt:b.length<a.length
   ·exact pless_in ga oa ca gb ob cb _ _ b.length a b w rfl rfl h0a h0b (by omega) (by omega) (by omega) (.inr rfl) a1 a2 b1 b2 a3 b3
   ·exact pless_in ga oa ca gb ob cb _ _ a.length a b w rfl rfl h0a h0b (by omega) (by omega) (by omega) (.inl rfl) a1 a2 b1 b2 a3 b3
  ·obtain ⟨oa,ca,rfl,a1,a2,a3⟩:=ha.full h0a
   obtain ⟨ob,cb,rfl⟩:=hb.slice
   exact pless_no _ _ _ _ a.length b.length ca cb a b w rfl rfl rfl rfl (.inr (by omega)) (by omega) _ (run_head_mv ga oa a.length ca 0 (by omega)) ⟨_,_,rfl⟩
 ·obtain ⟨ob,cb,rfl⟩:=hb.slice
  have hl0:a.length=0:=by omega
  rcases ha with ⟨rfl,e⟩|⟨oa,ca,rfl,a1,a2,a3⟩
  ·exact pless_no _ _ _ _ 0 b.length 0 cb a b w rfl rfl hl0 rfl (.inl rfl) (by omega) _ run_nil_mv ⟨_,_,rfl⟩
  ·exact pless_no _ _ _ _ a.length b.length ca cb a b w rfl rfl rfl rfl (.inl hl0) (by omega) _ (run_head_mv ga oa a.length ca 0 (by omega)) ⟨_,_,rfl⟩
end Go.Proofs.YtijkemnhehbchaaGreatDoor
