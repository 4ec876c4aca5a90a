/- MvA · MvB · MvC: my texts, in their order. -/
import Derived.Test.YtlpeiolgcaddjaaGreatDoorPkD
import Derived.Test.YtlpeiolgcaddjaaGreatDoorPkE
namespace Go.Proofs.YtlpeiolgcaddjaaGreatDoor
open Go.RowKit
set_option linter.unusedVariables false
set_option linter.unusedSimpArgs false
set_option maxRecDepth 100000
structure RAt (w:World) (g:Nat) (l:List Value) (T:TypeId):Prop where
 at_:w.heap[g]?=some (.cells l.toArray T (0,0))
theorem RAt.kept {w w':World} {g:Nat} {l:List Value} {T:TypeId} (h:RAt w g l T) (k:Kept w w'):RAt w' g l T:=⟨k.heap h.at_⟩
theorem RAt.kb {W w:World} {g k:Nat} {l:List Value} {T:TypeId} (h:RAt W k l T) (hk:KB W g w) (hne:k≠g):RAt w k l T:=⟨hk.heap hne h.at_⟩
theorem RAt.cellK {w:World} {g:Nat} {l:List Value} {T:TypeId} (h:RAt w g l T) (k:Nat):w.cell? ⟨g,k,none⟩=l[k]?:=by
 rw [cell_of_row _ _ k _ _ (0,0) h.at_];simp
theorem RAt.frozen {w:World} {g:Nat} {l:List Value} {T:TypeId} (h:RAt w g l T) (k:Nat):w.frozen? ⟨g,k,none⟩=false:=frozen_of_row w g k _ _ h.at_
theorem RAt.range {w:World} {g:Nat} {l:List Value} {T:TypeId} (h:RAt w g l T):w.rangeAt g 0 l:=by
 intro j v hv;rw [Nat.zero_add,h.cellK,hv]
theorem RAt.row {w:World} {g:Nat} {l:List Value} {T:TypeId} (h:RAt w g l T) (c:List Value):RAt (w.setRow g c.toArray) g c T:=⟨setRow_heap _ _ _ _ _ _ h.at_⟩
structure Mv where
 f:Int
 t:Int
 p:Int
def ml (m:Mv):List Value:=[.int .i64 m.f,.int .i64 m.t,.int .i64 m.p]
def MAt (w:World) (g:Nat) (m:Mv):Prop:=RAt w g (ml m) 28
theorem MAt.kept {w w':World} {g:Nat} {m:Mv} (h:MAt w g m) (k:Kept w w'):MAt w' g m:=RAt.kept h k
theorem MAt.kb {W w:World} {g k:Nat} {m:Mv} (h:MAt W k m) (hk:KB W g w) (hne:k≠g):MAt w k m:=RAt.kb h hk hne
theorem MAt.f {w:World} {g:Nat} {m:Mv} (h:MAt w g m):w.cell? ⟨g,0,none⟩=some (.int .i64 m.f):=RAt.cellK h 0
theorem MAt.t {w:World} {g:Nat} {m:Mv} (h:MAt w g m):w.cell? ⟨g,1,none⟩=some (.int .i64 m.t):=RAt.cellK h 1
theorem MAt.p {w:World} {g:Nat} {m:Mv} (h:MAt w g m):w.cell? ⟨g,2,none⟩=some (.int .i64 m.p):=RAt.cellK h 2
theorem MAt.new (w:World) (m:Mv):MAt (w.alloc (.cells (ml m).toArray 28)) w.heap.size m:=⟨heap_alloc_new w _⟩
theorem sizeM:(Tryz.prog.info? 28).map (·.size)=some 3:=by kernel_rfl
theorem Qe {ops:Array Oper} {rest:List Oper} {op:Oper} {a:Act} {w:World} {Q:Exit→Act→World→Prop} (hw:Region.wanted op (yielded ops a.tmps)=true) (x:Operand) (ho:op.op=.load 28 x)
  (g:Nat) (hx:a.eval x=.pointer (some ⟨g,0,none⟩)) (m:Mv) (hg:MAt w g m)
  (h:wpList Tryz.prog ops Q rest (a.put op.dst (.agg (ml m).toArray)) w):wpList Tryz.prog ops Q (op::rest) a w :=
 wpList_step fun _ hK=>by
  rw [if_pos hw];exact wp_load_mid 28 x ho g 0 hx (ml m) _ (RAt.range hg) Tryz.underlying28 rfl sizeM (hK _ _ h)
theorem Qm {ops:Array Oper} {S:World→Prop} {op:Oper} {a:Act} (hw:Region.wanted op (yielded ops a.tmps)=true) (x:Operand) (ho:op.op=.load 28 x)
  (g:Nat) (hx:a.eval x=.pointer (some ⟨g,0,none⟩)) (m:Mv) (hS:∀ w,S w→MAt w g m):YieldsIf Tryz.prog ops S op (.agg (ml m).toArray) a :=
 yieldsIf_load_mid hw 28 x ho g 0 hx (ml m) _ (fun w h=>RAt.range (hS w h)) Tryz.underlying28 rfl sizeM
theorem ml_one (m:Mv):(ml m).toArray.all (·.oneCell')=true:=by
 rw [Array.all_eq_true_iff_forall_mem];intro v hv;simp only [List.mem_toArray,ml,List.mem_cons,List.not_mem_nil,or_false] at hv;rcases hv with rfl|rfl|rfl <;> rfl
structure On (m:Mv):Prop where
 f0:0≤m.f
 f1:m.f<64
 t0:0≤m.t
 t1:m.t<64
def prL:List Int:=[0,2,3,4,5]
def prV:List Value:=prL.map (Value.int .i64)
def laL:List Int:=[7,0]
def wiL:List Int:=[1,4,7,6,2,4,0,2,4,60,63,62,8,60,56,58]
def wiV:List Value:=wiL.map (Value.int .i64)
def Proms (w:World):Prop:=∀ i,i<5→w.cell? ⟨4,i,none⟩=some (.int .i64 (prL.getD i 0))
def Lasts (w:World):Prop:=∀ i,i<2→w.cell? ⟨1,i,none⟩=some (.int .i64 (laL.getD i 0))
def Wings (w:World):Prop:=∀ i,i<16→w.cell? ⟨2,i,none⟩=some (.int .i64 (wiL.getD i 0))
structure TabM (w:World):Prop where
 tabs:Tabs w
 proms:Proms w
 lasts:Lasts w
 wings:Wings w
theorem TabM.kept {w w':World} (h:TabM w) (k:Kept w w'):TabM w' :=
 ⟨h.tabs.kept k,fun i hi=>Qa k (h.proms i hi),fun i hi=>Qa k (h.lasts i hi),fun i hi=>Qa k (h.wings i hi)⟩
theorem range_of {w:World} {g n:Nat} {l:List Int} (hl:l.length=n) (h:∀ i,i<n→w.cell? ⟨g,i,none⟩=some (.int .i64 (l.getD i 0))):w.rangeAt g 0 (l.map (Value.int .i64)):=by
 intro j v hv;have hj:j<l.length:=by have:=(List.getElem?_eq_some_iff.1 hv).1;simpa using this
 rw [Nat.zero_add,h j (by omega)];rw [List.getElem?_map,List.getElem?_eq_getElem hj] at hv;simp only [Option.map_some,Option.some.injEq] at hv;rw [← hv,getD_at _ _ hj]
theorem Proms.range {w:World} (h:Proms w):w.rangeAt 4 0 prV:=range_of rfl h
theorem Wings.range {w:World} (h:Wings w):w.rangeAt 2 0 wiV:=range_of rfl h
theorem size_proms:(Tryz.prog.info? 151).map (·.size)=some prV.length:=by kernel_rfl
theorem size_wings:(Tryz.prog.info? 127).map (·.size)=some wiV.length:=by kernel_rfl
theorem run_index_pr (k:Nat) (hk:k<5) (w:World):(Instr.index 151 (.agg prV.toArray) (.int .i64 k)).run Tryz.prog w=.ok (.int .i64 (prL.getD k 0)) w:=by
 have h1:(0:Int)≤(k:Int)∧(k:Int)<((5:Nat):Int):=by omega
 have hs:(sizeOf 3).run Tryz.prog w=.ok 1 w:=by
  have h0:(Tryz.prog.info? 3).map (·.size)=some 1:=by kernel_rfl
  cases hq:Tryz.prog.info? 3 with
  | none=>simp [hq] at h0
  | some i=>simp [hq] at h0;simp [sizeOf,typeInfo,hq,h0]
 simp only [Instr.index,asIntOf,Sem.run_bind,Sem.run_pure,Result.andThen_ok,run_underlying Tryz.underlying151,if_pos h1,hs];simp only [part,isAgg,Sem.run_bind,Sem.run_pure,Result.andThen_ok,run_underlying Tryz.underlying3,if_true,hs,Int.toNat_natCast];have:k=0∨k=1∨k=2∨k=3∨k=4:=by omega
 rcases this with rfl|rfl|rfl|rfl|rfl <;> rfl
def wTo (k:Nat):Nat:=[6,2,62,58].getD k 0
def wl (k:Nat):List Value:=[.int .i64 (hR k),.int .i64 (hKg k),.int .i64 (hRk k),.int .i64 (wTo k)]
theorem wl_one (k:Nat):(wl k).toArray.all (·.oneCell')=true:=by
 rw [Array.all_eq_true_iff_forall_mem];intro v hv;simp only [List.mem_toArray,wl,List.mem_cons,List.not_mem_nil,or_false] at hv;rcases hv with rfl|rfl|rfl|rfl <;> rfl
theorem wTo_lt (k:Nat):wTo k<64:=by
 unfold wTo;rcases k with _|_|_|_|k <;> simp
theorem sizeWing:(Tryz.prog.info? 112).map (·.size)=some 4:=by kernel_rfl
theorem run_index_wi (k:Nat) (hk:k<4) (w:World):(Instr.index 127 (.agg wiV.toArray) (.int .i64 k)).run Tryz.prog w=.ok (.agg (wl k).toArray) w:=by
 have h1:(0:Int)≤(k:Int)∧(k:Int)<((4:Nat):Int):=by omega
 have hs:(sizeOf 112).run Tryz.prog w=.ok 4 w:=by
  cases hq:Tryz.prog.info? 112 with
  | none=>have:=sizeWing;simp [hq] at this
  | some i=>have:=sizeWing;simp [hq] at this;simp [sizeOf,typeInfo,hq,this]
 simp only [Instr.index,asIntOf,Sem.run_bind,Sem.run_pure,Result.andThen_ok,run_underlying Tryz.underlying127,if_pos h1,hs];simp only [part,isAgg,Sem.run_bind,Sem.run_pure,Result.andThen_ok,run_underlying Tryz.underlying112,if_true,hs,Int.toNat_natCast];have:k=0∨k=1∨k=2∨k=3:=by omega
 rcases this with rfl|rfl|rfl|rfl <;> rfl
def Qbb (n:Int):Bool:=n == 0 || (decide (2≤n) && decide (n≤5))
theorem promo_at (k:Nat) (hk:k<5):Qbb (prL.getD k 0)=true:=by
 have:k=0∨k=1∨k=2∨k=3∨k=4:=by omega
 rcases this with rfl|rfl|rfl|rfl|rfl <;> rfl
theorem promo_no {n:Int} (h:∀ j,j<5→prL.getD j 0≠n):Qbb n=false:=by
 have h0:=h 0 (by omega);have h1:=h 1 (by omega);have h2:=h 2 (by omega);have h3:=h 3 (by omega);have h4:=h 4 (by omega);simp only [prL,List.getD_cons_zero,List.getD_cons_succ] at h0 h1 h2 h3 h4;unfold Qbb;rw [Bool.eq_false_iff];intro hb;simp only [Bool.or_eq_true,Bool.and_eq_true,beq_iff_eq,decide_eq_true_eq] at hb;omega
theorem isPromo_is (n:Int) (w:World) (hT:TabM w):Calls Tryz.prog 133 #[.int .i64 n] w fun e w'=>e=.returned (.bool (Qbb n))∧Kept w w':=by
 have HT:=Qh hT;clear hT;go_enter Tryz.func133,Tryz.ntmps133;go_wp2_with (refine wpList_load_mid rfl 151 _ rfl 4 0 rfl prV _ HT.out.proms.range Tryz.underlying151 rfl size_proms ?_)
 go_loopw [6] (fun t6 wr=>∃ k:Nat,k≤5∧t6=.int .i64 k∧(∀ j,j<k→prL.getD j 0≠n)∧Kept w wr) (fun t6 _=>5-(intOf t6).toNat)
 case atStart=>exact ⟨0,by omega,rfl,fun j hj=>by omega,Kept.refl _⟩
 case round =>
  obtain ⟨k,hk,rfl,hno,hK⟩:=hrel;have HNo:=Qh hno;have HK:=Qh hK;clear hno hK;by_cases hlt:k<5
  ·have hx:=run_index_pr k hlt
   have HPr:=Qh (promo_at k hlt);obtain ⟨x,hxe⟩:∃ x,prL.getD k 0=x:=⟨_,rfl⟩;rw [hxe] at HPr;simp only [hxe] at hx;have HX:=Qh hxe;clear hxe;by_cases he:x=n
   ·have he':(x == n)=true:=beq_iff_eq.2 he
    have HE:=Qh he;clear he;go_wp2;go_ret;exact ⟨by rw [← HE.out,HPr.out];rfl,HK.out⟩
   ·have he':(x == n)=false:=beq_eq_false_iff_ne.2 he
    have HE:=Qh he;clear he;go_wp2;go_roundw
    case rel=>exact ⟨k+1,by omega,by go_num,fun j hj=>by rcases Nat.lt_succ_iff_lt_or_eq.1 hj with h|h;exact HNo.out j h;rw [h,HX.out];exact HE.out,HK.out⟩
    case measure=>simp [intOf];omega
  ·have HF:=Qh (promo_no (n:=n) (fun j hj=>HNo.out j (by omega)))
   go_wp2;go_ret;exact ⟨by rw [HF.out];rfl,HK.out⟩
theorem mid_is (m:Mv) (ho:On m) (w:World):Calls Tryz.prog 135 #[.agg (ml m).toArray] w fun e w'=>e=.returned (.int .i64 ((m.f+m.t) / 2))∧Kept w w':=by
 obtain ⟨f0,f1,t0,t1⟩:=ho;have HM:=Qh (MAt.new w m);have cf:=HM.out.f;have ct:=HM.out.t;have e1:IntKind.i64.wrap (m.f+m.t)=m.f+m.t:=IntWalk.i64_in _ (by omega)
 have e2:IntKind.i64.wrap ((m.f+m.t).tdiv 2)=(m.f+m.t) / 2:=by
  rw [Int.tdiv_eq_ediv_of_nonneg (by omega)];exact IntWalk.i64_in _ (by omega)
 go_enter Tryz.func135,Tryz.ntmps135;go_wp2;go_ret;exact ⟨rfl,(Kept.refl _).alloc _⟩
theorem mtouches_is (m:Mv) (s:Int) (w:World):Calls Tryz.prog 137 #[.agg (ml m).toArray,.int .i64 s] w fun e w'=>e=.returned (.bool ((m.f == s) || (m.t == s)))∧Kept w w':=by
 have HM:=Qh (MAt.new w m);have cf:=HM.out.f;have ct:=HM.out.t
 cases h1:(m.f == s)
 ·go_enter Tryz.func137,Tryz.ntmps137
  go_wp2;go_ret;exact ⟨rfl,(Kept.refl _).alloc _⟩
 ·go_enter Tryz.func137,Tryz.ntmps137
  go_wp2;go_ret;exact ⟨rfl,(Kept.refl _).alloc _⟩
def pawnB (p:Ps) (m:Mv):Bool:=kindI (bAt p.B m.f) == 1
theorem mkind_k (x:Int) (w:World):Calls Tryz.prog 120 #[.int .i64 x] w fun e w'=>e=.returned (.int .i64 (kindI x))∧Kept w w' :=
 (Qar x w).mono fun _ _ ⟨a,b⟩=>⟨a,b ▸ Kept.refl _⟩
theorem Qav (x:Int) (w:World):Calls Tryz.prog 132 #[.int .i64 x] w fun e w'=>e=.returned (.int .i64 (sideI x))∧Kept w w' :=
 (mside_any x w).mono fun _ _ ⟨a,b⟩=>⟨a,b ▸ Kept.refl _⟩
theorem pawn_is (p:Ps) (hB:Brd p.B) (m:Mv) (f0:0≤m.f) (f1:m.f<64) (w:World):Calls Tryz.prog 138 #[.agg (pl p).toArray,.agg (ml m).toArray] w fun e w'=>e=.returned (.bool (pawnB p m))∧Kept w w':=by
 have HP:Hid (PAt _ _ p):=⟨hB.1,heap_alloc2_old w (.cells (pl p).toArray 26) (.cells (ml m).toArray 28)⟩;have HM:Hid (MAt _ _ m):=⟨heap_alloc2_new w (.cells (pl p).toArray 26) (.cells (ml m).toArray 28)⟩;have HK0:=Qh (((Kept.refl w).alloc (.cells (pl p).toArray 26)).alloc (.cells (ml m).toArray 28));have cf:=HM.out.f;have HC:=Qh (Je p.B hB m.f f0 f1);have HV:Hid (pawnB p m=(kindI (bAt p.B m.f) == 1)):=by rfl
 generalize bAt p.B m.f=x at *;clear hB f0 f1;go_enter Tryz.func138,Tryz.ntmps138;go_wp2_with (first|(refine Qc (by rfl) _ rfl _ rfl _ (HP.out) ?_)|(refine Qd (by rfl) _ rfl _ rfl _ (HP.out) ?_)|(refine Qe (by rfl) _ rfl _ rfl _ (HM.out) ?_))
 refine (HC.out _).mono ?_;rintro e w1 ⟨rfl,k1⟩;have HK1:=Qh (HK0.out.trans k1);clear k1 cf;go_wp2_with fail
 refine (mkind_k _ _).mono ?_;rintro e w2 ⟨rfl,k2⟩;have HK2:=Qh (HK1.out.trans k2);clear k2;go_wp2;go_ret;exact ⟨by rw [HV.out];rfl,HK2.out⟩
def wLo (k:Nat):Nat:=[5,1,61,57].getD k 0
def wHi (k:Nat):Nat:=[7,4,63,60].getD k 0
def freeB (B:List Int) (k:Nat):Bool:=(List.range 64).all fun s=>!(decide (wLo k≤s) && decide (s<wHi k)) || (B.getD s 0 == 0)
theorem free_yes {B:List Int} {k:Nat} (h:∀ s,wLo k≤s→s<wHi k→B.getD s 0=0):freeB B k=true:=by
 unfold freeB;rw [List.all_eq_true];intro s _;by_cases h1:wLo k≤s
 ·by_cases h2:s<wHi k
  ·have:=h s h1 h2
   simp [h1,h2];simpa using this
  ·simp [h2]
 ·simp [h1]
theorem free_no {B:List Int} {k s:Nat} (hs:s<64) (h1:wLo k≤s) (h2:s<wHi k) (h:B.getD s 0≠0):freeB B k=false:=by
 unfold freeB;rw [List.all_eq_false];refine ⟨s,by simpa using hs,?_⟩;simp [h1,h2];simpa using h
theorem w_ends (k:Nat) (hk:k<4):(hKg k<hRk k∧wLo k=hKg k+1∧wHi k=hRk k)∨(hRk k<hKg k∧wLo k=hRk k+1∧wHi k=hKg k):=by
 have:k=0∨k=1∨k=2∨k=3:=by omega
 rcases this with rfl|rfl|rfl|rfl <;> decide
theorem min_first {kg rk:Nat} {A B:Prop} (a:A) (b:B) (e:IntKind.i64.wrap ((kg:Int)+1)=(((kg+1:Nat)):Int)) (h:kg≤rk):Value.int .i64 (RowKit.wrap64 (min (kg:Int) (rk:Int)+1))=.int .i64 (((kg+1:Nat)):Int):=by
 rw [show min (kg:Int) (rk:Int)=kg by omega,← IntWalk.i64_left,e]
theorem min_second {kg rk:Nat} {A B:Prop} (a:A) (b:B) (e:IntKind.i64.wrap ((rk:Int)+1)=(((rk+1:Nat)):Int)) (h:rk≤kg):Value.int .i64 (RowKit.wrap64 (min (kg:Int) (rk:Int)+1))=.int .i64 (((rk+1:Nat)):Int):=by
 rw [show min (kg:Int) (rk:Int)=rk by omega,← IntWalk.i64_left,e]
theorem free_up (B:List Int) (hB:Brd B) (k:Nat) (hlt:hKg k<hRk k) (hlo:wLo k=hKg k+1) (hhi:wHi k=hRk k) (w:World):Calls Tryz.prog 151 #[.agg (cl B).toArray,.agg (wl k).toArray] w fun e w'=>e=.returned (.bool (freeB B k))∧Kept w w':=by
 have HBd:Hid (_=_):=heap_alloc2_old w (.cells (cl B).toArray 24) (.cells (wl k).toArray 112);have HW:Hid (RAt _ _ (wl k) 112):=⟨heap_alloc2_new w (.cells (cl B).toArray 24) (.cells (wl k).toArray 112)⟩;have HK0:=Qh (((Kept.refl w).alloc (.cells (cl B).toArray 24)).alloc (.cells (wl k).toArray 112));have HB:=Qh hB;have hz:=Qh (Jf hB.1);have HKg:=Qh (hKg_lt k);have HRk:=Qh (hRk_lt k);have HY:=Qh (@free_yes B k);have HN:=Qh (fun s=>@free_no B k s);rw [hlo,hhi] at HY HN;have d1:_=some (Value.int .i64 (hKg k)):=HW.out.cellK 1;have d2:_=some (Value.int .i64 (hRk k)):=HW.out.cellK 2;have D1:=Qh d1;have D2:=Qh d2;clear hlo hhi;generalize hKg k=kg at *;generalize hRk k=rk at *;have hn1:¬ rk<kg:=by omega
 have e1:IntKind.i64.wrap (kg+1)=(((kg+1:Nat)):Int):=by have:=HKg.out;have:=HRk.out;rw [IntWalk.i64_in _ (by omega)];rfl
 clear hB;go_enter Tryz.func151,Tryz.ntmps151;go_wp2
 go_loopw [5] (fun t5 wr=>∃ s:Nat,kg+1≤s∧s≤rk∧t5=.int .i64 s∧(∀ j,kg+1≤j→j<s→B.getD j 0=0)∧Kept ((w.alloc (.cells (cl B).toArray 24)).alloc (.cells (wl k).toArray 112)) wr) (fun t5 _=>64-(intOf t5).toNat)
 case atStart=>exact ⟨kg+1,by omega,by omega,(by first|rfl|exact min_first (kg:=kg) (rk:=rk) HKg.out HRk.out e1 (by omega)),fun j h1 h2=>by omega,Kept.refl _⟩
 case round =>
  obtain ⟨s,hs1,hs2,rfl,hno,hK⟩:=hrel;have HNo:=Qh hno;have HK:=Qh hK;have g1:=Qa hK D1.out;have g2:=Qa hK D2.out;have HBk:Hid (_=_):=hK.heap HBd.out;clear hno hK d1 d2;by_cases hc:s<rk
  ·have hs64:Hid (s<64):=by have:=HKg.out;have:=HRk.out;exact (by omega:s<64)
   have HM:=Qh (man_yes B HB.out s hs64.out);by_cases hb:B.getD s 0=0
   ·rw [hb] at HM
    go_wp2_with (refine Qf (by rfl) _ rfl _ rfl _ HBk.out hz.out ?_)
    refine (HM.out _).mono ?_;rintro e w2 ⟨rfl,k2⟩;have HK2:=Qh (HK.out.trans k2);have HZ:=Qh hb;clear k2 hb g1 g2;have e2:IntKind.i64.wrap ((s:Int)+1)=((s+1:Nat):Int):=by have:=hs64.out;rw [IntWalk.i64_in _ (by omega)];rfl
    go_wp2;go_roundw
    case rel=>exact ⟨s+1,by omega,by omega,rfl,fun j h1 h2=>by rcases Nat.lt_succ_iff_lt_or_eq.1 h2 with h|h;exact HNo.out j h1 h;rw [h];exact HZ.out,HK2.out⟩
    case measure=>have:=hs64.out;simp [intOf];omega
   ·have HF:=Qh (HN.out s hs64.out hs1 hc hb)
    have hb':(B.getD s 0 != 0)=true:=bne_iff_ne.2 hb;generalize B.getD s 0=x at *;go_wp2_with (refine Qf (by rfl) _ rfl _ rfl _ HBk.out hz.out ?_)
    refine (HM.out _).mono ?_;rintro e w2 ⟨rfl,k2⟩;have HK2:=Qh (HK.out.trans k2);clear k2 g1 g2;go_wp2;go_ret;exact ⟨by rw [HF.out];rfl,HK0.out.trans HK2.out⟩
  ·have HF:=Qh (HY.out (fun j h1 h2=>HNo.out j h1 (by omega)))
   go_wp2;go_ret;exact ⟨by rw [HF.out];rfl,HK0.out.trans HK.out⟩
theorem free_dn (B:List Int) (hB:Brd B) (k:Nat) (hlt:hRk k<hKg k) (hlo:wLo k=hRk k+1) (hhi:wHi k=hKg k) (w:World):Calls Tryz.prog 151 #[.agg (cl B).toArray,.agg (wl k).toArray] w fun e w'=>e=.returned (.bool (freeB B k))∧Kept w w':=by
 have HBd:Hid (_=_):=heap_alloc2_old w (.cells (cl B).toArray 24) (.cells (wl k).toArray 112);have HW:Hid (RAt _ _ (wl k) 112):=⟨heap_alloc2_new w (.cells (cl B).toArray 24) (.cells (wl k).toArray 112)⟩;have HK0:=Qh (((Kept.refl w).alloc (.cells (cl B).toArray 24)).alloc (.cells (wl k).toArray 112));have HB:=Qh hB;have hz:=Qh (Jf hB.1);have HKg:=Qh (hKg_lt k);have HRk:=Qh (hRk_lt k);have HY:=Qh (@free_yes B k);have HN:=Qh (fun s=>@free_no B k s);rw [hlo,hhi] at HY HN;have d1:_=some (Value.int .i64 (hKg k)):=HW.out.cellK 1;have d2:_=some (Value.int .i64 (hRk k)):=HW.out.cellK 2;have D1:=Qh d1;have D2:=Qh d2;clear hlo hhi;generalize hKg k=kg at *;generalize hRk k=rk at *;have hn1:¬ kg<rk:=by omega
 have e1:IntKind.i64.wrap (rk+1)=(((rk+1:Nat)):Int):=by have:=HKg.out;have:=HRk.out;rw [IntWalk.i64_in _ (by omega)];rfl
 clear hB;go_enter Tryz.func151,Tryz.ntmps151;go_wp2
 go_loopw [5] (fun t5 wr=>∃ s:Nat,rk+1≤s∧s≤kg∧t5=.int .i64 s∧(∀ j,rk+1≤j→j<s→B.getD j 0=0)∧Kept ((w.alloc (.cells (cl B).toArray 24)).alloc (.cells (wl k).toArray 112)) wr) (fun t5 _=>64-(intOf t5).toNat)
 case atStart=>exact ⟨rk+1,by omega,by omega,(by first|rfl|exact min_second (kg:=kg) (rk:=rk) HKg.out HRk.out e1 (by omega)),fun j h1 h2=>by omega,Kept.refl _⟩
 case round =>
  obtain ⟨s,hs1,hs2,rfl,hno,hK⟩:=hrel;have HNo:=Qh hno;have HK:=Qh hK;have g1:=Qa hK D1.out;have g2:=Qa hK D2.out;have HBk:Hid (_=_):=hK.heap HBd.out;clear hno hK d1 d2;by_cases hc:s<kg
  ·have hs64:Hid (s<64):=by have:=HKg.out;have:=HRk.out;exact (by omega:s<64)
   have HM:=Qh (man_yes B HB.out s hs64.out);by_cases hb:B.getD s 0=0
   ·rw [hb] at HM
    go_wp2_with (refine Qf (by rfl) _ rfl _ rfl _ HBk.out hz.out ?_)
    refine (HM.out _).mono ?_;rintro e w2 ⟨rfl,k2⟩;have HK2:=Qh (HK.out.trans k2);have HZ:=Qh hb;clear k2 hb g1 g2;have e2:IntKind.i64.wrap ((s:Int)+1)=((s+1:Nat):Int):=by have:=hs64.out;rw [IntWalk.i64_in _ (by omega)];rfl
    go_wp2;go_roundw
    case rel=>exact ⟨s+1,by omega,by omega,rfl,fun j h1 h2=>by rcases Nat.lt_succ_iff_lt_or_eq.1 h2 with h|h;exact HNo.out j h1 h;rw [h];exact HZ.out,HK2.out⟩
    case measure=>have:=hs64.out;simp [intOf];omega
   ·have HF:=Qh (HN.out s hs64.out hs1 hc hb)
    have hb':(B.getD s 0 != 0)=true:=bne_iff_ne.2 hb;generalize B.getD s 0=x at *;go_wp2_with (refine Qf (by rfl) _ rfl _ rfl _ HBk.out hz.out ?_)
    refine (HM.out _).mono ?_;rintro e w2 ⟨rfl,k2⟩;have HK2:=Qh (HK.out.trans k2);clear k2 g1 g2;go_wp2;go_ret;exact ⟨by rw [HF.out];rfl,HK0.out.trans HK2.out⟩
  ·have HF:=Qh (HY.out (fun j h1 h2=>HNo.out j h1 (by omega)))
   go_wp2;go_ret;exact ⟨by rw [HF.out];rfl,HK0.out.trans HK.out⟩
theorem free_is (B:List Int) (hB:Brd B) (k:Nat) (hk:k<4) (w:World):Calls Tryz.prog 151 #[.agg (cl B).toArray,.agg (wl k).toArray] w fun e w'=>e=.returned (.bool (freeB B k))∧Kept w w':=by
 rcases w_ends k hk with ⟨a,b,c⟩|⟨a,b,c⟩
 ·exact free_up B hB k a b c w
 ·exact free_dn B hB k a b c w
theorem zeroW:(Tryz.prog.info? 112).map (fun i=>(i.zero,i.size))=some (some (.agg (wl 4).toArray),4):=by kernel_rfl
theorem run_zero_w (w:World):(zeroValue 112).run Tryz.prog w=.ok (.agg (wl 4).toArray) w:=(zero_of_info zeroW).1 w
theorem wl_size (k:Nat):(Tryz.prog.info? 112).map (·.size)=some (wl k).toArray.size:=by rw [sizeWing];rfl
theorem Yu {ops:Array Oper} {rest:List Oper} {o:Oper} {a:Act} {w:World} {Q:Exit→Act→World→Prop} (hgd:o.guard=none) (ho:o.op=.alloc 112)
  (h:wpList Tryz.prog ops Q rest (a.put o.dst (.pointer (some ⟨w.heap.size,0,none⟩))) (w.alloc (.cells (wl 4).toArray 112))):wpList Tryz.prog ops Q (o::rest) a w:=by
 refine wpList_plain hgd fun _ hK=>?_
 unfold Oper.wp execOp;simp only [ho,Instr.alloc,Sem.run_bind,run_zero_w,Result.andThen_ok,newVar,newRow,Value.cells];exact hK _ _ h
theorem Yi {ops:Array Oper} {rest:List Oper} {o:Oper} {a:Act} {w:World} {Q:Exit→Act→World→Prop} (hgd:o.guard=none) (x y:Operand) (ho:o.op=.store 112 x y)
  (j k:Nat) (hx:a.eval x=.pointer (some ⟨w.heap.size,0,none⟩)) (hy:a.eval y=.agg (wl k).toArray)
  (h:wpList Tryz.prog ops Q rest (a.put o.dst undef) (w.alloc (.cells (wl k).toArray 112))):wpList Tryz.prog ops Q (o::rest) a (w.alloc (.cells (wl j).toArray 112)):=by
 refine wpList_store_row hgd 112 x y ho w.heap.size (wl k).toArray hx hy 112 _ (heap_alloc_new w _) (wl_size k) rfl (wl_one _) ?_;rw [World.setRow_alloc_new];exact h
theorem Qab {ops:Array Oper} {rest:List Oper} {op:Oper} {a:Act} {w:World} {Q:Exit→Act→World→Prop} (hw:Region.wanted op (yielded ops a.tmps)=true) (x:Operand) (ho:op.op=.load 112 x)
  (g:Nat) (hx:a.eval x=.pointer (some ⟨g,0,none⟩)) (k:Nat) (hg:RAt w g (wl k) 112)
  (h:wpList Tryz.prog ops Q rest (a.put op.dst (.agg (wl k).toArray)) w):wpList Tryz.prog ops Q (op::rest) a w :=
 wpList_step fun _ hK=>by
  rw [if_pos hw];exact wp_load_mid 112 x ho g 0 hx (wl k) _ (RAt.range hg) Tryz.underlying112 rfl sizeWing (hK _ _ h)
theorem wpList_store_wi {ops:Array Oper} {rest:List Oper} {o:Oper} {a:Act} {w:World} {Q:Exit→Act→World→Prop} (hgd:o.guard=none) (x y:Operand) (ho:o.op=.store 112 x y)
  (g j k:Nat) (hg:RAt w g (wl j) 112) (hx:a.eval x=.pointer (some ⟨g,0,none⟩)) (hy:a.eval y=.agg (wl k).toArray)
  (h:wpList Tryz.prog ops Q rest (a.put o.dst undef) (w.setRow g (wl k).toArray)):wpList Tryz.prog ops Q (o::rest) a w :=
 wpList_store_row hgd 112 x y ho g (wl k).toArray hx hy 112 _ hg.at_ (wl_size k) rfl (wl_one _) h
theorem built_wi0:Tryz.prog.built 112 []=some (wl 4).toArray:=by kernel_rfl
theorem wpList_built_wi0 {ops:Array Oper} {rest:List Oper} {o:Oper} {a:Act} {w:World} {Q:Exit→Act→World→Prop} (hw:Region.wanted o (yielded ops a.tmps)=true) (ho:o.op=.build 112 #[])
  (h:wpList Tryz.prog ops Q rest (a.put o.dst (.agg (wl 4).toArray)) w):wpList Tryz.prog ops Q (o::rest) a w :=
 wpList_step fun _ hK=>by
  rw [if_pos hw]
  have hf:Tryz.prog.built 112 ((#[]:Array (Nat × Operand)).map fun (i,x)=>(i,a.eval x)).toList=some (wl 4).toArray:=by
   have:((#[]:Array (Nat × Operand)).map fun (i,x)=>(i,a.eval x)).toList=[]:=by simp
   rw [this];exact built_wi0
  exact wp_build _ _ ho (by rw [hf];rfl) (by rw [hf];exact hK _ _ h)
theorem results_wing_tmp {fn:Func} {s t:Tmp} (h:fn.results=#[.cell s 112,.tmp t]) (tmps:Array Value) {w:World} {g k:Nat}
  (hp:tmps.getD s undef=.pointer (some ⟨g,0,none⟩)) (hg:RAt w g (wl k) 112):(results fn tmps).run Tryz.prog w=.ok (.tuple #[.agg (wl k).toArray,tmps.getD t undef]) w:=by
 have hp':tmps[s]?.getD undef=.pointer (some ⟨g,0,none⟩):=by simpa using hp
 have hl:(loadVar 112 ⟨g,0,none⟩).run Tryz.prog w=.ok (.agg (wl k).toArray) w:=run_loadVar_row w g _ _ (wl k).toArray (0,0) _ hg.at_ Tryz.underlying112 rfl (wl_size k);simp [results,h,hp',asAddr,hl]
def castB (p:Ps) (m:Mv) (k:Nat):Bool:=rgtB p.c (hR k) && (m.f == hKg k) && (m.t == wTo k) && freeB p.B k
def castN (p:Ps) (m:Mv):Nat:=if castB p m 0 then 0 else if castB p m 1 then 1 else if castB p m 2 then 2 else if castB p m 3 then 3 else 4
theorem cast_at {p:Ps} {m:Mv} {k:Nat} (hk:k<4) (h:castB p m k=true) (hn:∀ j,j<k→castB p m j=false):castN p m=k:=by
 unfold castN;have:k=0∨k=1∨k=2∨k=3:=by omega
 rcases this with rfl|rfl|rfl|rfl
 ·rw [if_pos h]
 ·rw [if_neg (by rw [hn 0 (by omega)];decide),if_pos h]
 ·rw [if_neg (by rw [hn 0 (by omega)];decide),if_neg (by rw [hn 1 (by omega)];decide),if_pos h]
 ·rw [if_neg (by rw [hn 0 (by omega)];decide),if_neg (by rw [hn 1 (by omega)];decide),if_neg (by rw [hn 2 (by omega)];decide),if_pos h]
theorem cast_none {p:Ps} {m:Mv} (hn:∀ j,j<4→castB p m j=false):castN p m=4:=by
 unfold castN;rw [if_neg (by rw [hn 0 (by omega)];decide),if_neg (by rw [hn 1 (by omega)];decide),if_neg (by rw [hn 2 (by omega)];decide),if_neg (by rw [hn 3 (by omega)];decide)]
theorem cast_is {p:Ps} {m:Mv} {k:Nat} (hk:k<4) (h:castN p m=k):castB p m k=true:=by
 unfold castN at h;split at h
 ·next h0=>rw [← h];exact h0
 ·split at h
  ·next h0=>rw [← h];exact h0
  ·split at h
   ·next h0=>rw [← h];exact h0
   ·split at h
    ·next h0=>rw [← h];exact h0
    ·omega
theorem castN_le (p:Ps) (m:Mv):castN p m≤4:=by
 unfold castN;split
 ·omega
 ·split
  ·omega
  ·split
   ·omega
   ·split <;> omega
set_option maxHeartbeats 2000000 in
theorem castling_is (p:Ps) (hB:Brd p.B) (c0:0≤p.c) (c1:p.c≤15) (m:Mv) (w:World) (hT:TabM w) :
  Calls Tryz.prog 117 #[.agg (pl p).toArray,.agg (ml m).toArray] w fun e w'=>e=.returned (.tuple #[.agg (wl (castN p m)).toArray,.bool (decide (castN p m<4))])∧Kept w w':=by
 have HP:Hid (PAt _ _ p):=⟨hB.1,heap_alloc2_old w (.cells (pl p).toArray 26) (.cells (ml m).toArray 28)⟩;have HM:Hid (MAt _ _ m):=⟨heap_alloc2_new w (.cells (pl p).toArray 26) (.cells (ml m).toArray 28)⟩;have HK0:=Qh (((Kept.refl w).alloc (.cells (pl p).toArray 26)).alloc (.cells (ml m).toArray 28));have HK1:=Qh (HK0.out.alloc (.cells (wl 4).toArray 112));have HP1:=Qh (HP.out.kept ((Kept.refl _).alloc (.cells (wl 4).toArray 112)));have HM1:=Qh (MAt.kept HM.out ((Kept.refl _).alloc (.cells (wl 4).toArray 112)));have HR1:Hid (RAt _ _ (wl 4) 112):=⟨heap_alloc_new ((w.alloc (.cells (pl p).toArray 26)).alloc (.cells (ml m).toArray 28)) (.cells (wl 4).toArray 112)⟩;have hsz:((w.alloc (.cells (pl p).toArray 26)).alloc (.cells (ml m).toArray 28)).heap.size=w.heap.size+2:=by simp
 rw [hsz] at HR1;have HT:=Qh (hT.kept HK1.out);have HB:=Qh hB;have HBit:=Qh (fun k hk=>bit_at c0 c1 (k:=k) hk);clear hB hT c0 c1 HP HM HK0;go_enter Tryz.func117,Tryz.ntmps117;go_wp2_with (first|(with_reducible refine Yu rfl rfl ?_)|(refine wpList_load_mid rfl 127 _ rfl 2 0 rfl wiV _ HT.out.wings.range Tryz.underlying127 rfl size_wings ?_))
 generalize ((w.alloc (.cells (pl p).toArray 26)).alloc (.cells (ml m).toArray 28)).alloc (.cells (wl 4).toArray 112)=W at *;clear hsz
 go_loopw [9] (fun t9 wr=>∃ k:Nat,k≤4∧t9=.int .i64 k∧(∀ j,j<k→castB p m j=false)∧Kept W wr) (fun t9 _=>4-(intOf t9).toNat)
 case atStart=>exact ⟨0,by omega,rfl,fun j hj=>by omega,Kept.refl _⟩
 case round =>
  obtain ⟨k,hk,rfl,hno,hK⟩:=hrel;have HNo:=Qh hno;have HK:=Qh hK;clear hno hK;by_cases hlt:k<4
  ·have hx:=run_index_wi k hlt
   have HA:=Qh (HK.out.alloc (.cells (wl k).toArray 112));have HPA:=Qh (HP1.out.kept HA.out);have HMA:=Qh (MAt.kept HM1.out HA.out);have HRA:=Qh (HR1.out.kept HA.out);have HWA:Hid (RAt _ _ (wl k) 112):=⟨heap_alloc_new wr (.cells (wl k).toArray 112)⟩;have hbit:=HBit.out k hlt;have HV:Hid (castB p m k=(rgtB p.c (hR k) && (m.f == hKg k) && (m.t == wTo k) && freeB p.B k)):=by rfl
   have HF:=Qh (free_is p.B HB.out k hlt);have x0:=HPA.out.cas;have x1:=HMA.out.f;have x2:=HMA.out.t;have y0:_=some (Value.int .i64 (hR k)):=HWA.out.cellK 0;have y1:_=some (Value.int .i64 (hKg k)):=HWA.out.cellK 1;have y3:_=some (Value.int .i64 (wTo k)):=HWA.out.cellK 3;generalize hfr:freeB p.B k=fr at *;clear hfr
   cases h1:rgtB p.c (hR k)
   ·rw [h1] at HV hbit
    clear h1;go_wp2_with (first|(with_reducible refine Yu rfl rfl ?_)|((with_reducible refine Yi rfl _ _ rfl 4 k ?_ ?_ ?_);exact rfl;exact rfl)|(refine Qd (by rfl) _ rfl _ rfl _ HPA.out ?_)|(refine Qab (by rfl) _ rfl _ rfl k HWA.out ?_))
    go_roundw
    case rel=>exact ⟨k+1,by omega,by go_num,fun j hj=>by rcases Nat.lt_succ_iff_lt_or_eq.1 hj with h|h;exact HNo.out j h;rw [h,HV.out];simp only [Bool.and_false,Bool.false_and,Bool.and_true,Bool.true_and],HA.out⟩
    case measure=>simp [intOf];omega
   ·rw [h1] at HV hbit
    clear h1
    cases h2:(m.f == hKg k)
    ·rw [h2] at HV
     go_wp2_with (first|(with_reducible refine Yu rfl rfl ?_)|((with_reducible refine Yi rfl _ _ rfl 4 k ?_ ?_ ?_);exact rfl;exact rfl)|(refine Qd (by rfl) _ rfl _ rfl _ HPA.out ?_)|(refine Qab (by rfl) _ rfl _ rfl k HWA.out ?_))
     go_roundw
     case rel=>exact ⟨k+1,by omega,by go_num,fun j hj=>by rcases Nat.lt_succ_iff_lt_or_eq.1 hj with h|h;exact HNo.out j h;rw [h,HV.out];simp only [Bool.and_false,Bool.false_and,Bool.and_true,Bool.true_and],HA.out⟩
     case measure=>simp [intOf];omega
    ·rw [h2] at HV
     cases h3:(m.t == wTo k)
     ·rw [h3] at HV
      go_wp2_with (first|(with_reducible refine Yu rfl rfl ?_)|((with_reducible refine Yi rfl _ _ rfl 4 k ?_ ?_ ?_);exact rfl;exact rfl)|(refine Qd (by rfl) _ rfl _ rfl _ HPA.out ?_)|(refine Qab (by rfl) _ rfl _ rfl k HWA.out ?_))
      go_roundw
      case rel=>exact ⟨k+1,by omega,by go_num,fun j hj=>by rcases Nat.lt_succ_iff_lt_or_eq.1 hj with h|h;exact HNo.out j h;rw [h,HV.out];simp only [Bool.and_false,Bool.false_and,Bool.and_true,Bool.true_and],HA.out⟩
      case measure=>simp [intOf];omega
     ·rw [h3] at HV
      cases fr
      ·go_wp2_with (first|(with_reducible refine Yu rfl rfl ?_)|((with_reducible refine Yi rfl _ _ rfl 4 k ?_ ?_ ?_);exact rfl;exact rfl)|(refine Qd (by rfl) _ rfl _ rfl _ HPA.out ?_)|(refine Qab (by rfl) _ rfl _ rfl k HWA.out ?_))
       refine (HF.out _).mono ?_;rintro e w2 ⟨rfl,k2⟩;have HK2:=Qh (HA.out.trans k2);clear k2 x0 x1 x2 y0 y1 y3;go_wp2;go_roundw
       case rel=>exact ⟨k+1,by omega,by go_num,fun j hj=>by rcases Nat.lt_succ_iff_lt_or_eq.1 hj with h|h;exact HNo.out j h;rw [h,HV.out];simp only [Bool.and_false,Bool.false_and,Bool.and_true,Bool.true_and],HK2.out⟩
       case measure=>simp [intOf];omega
      ·go_wp2_with (first|(with_reducible refine Yu rfl rfl ?_)|((with_reducible refine Yi rfl _ _ rfl 4 k ?_ ?_ ?_);exact rfl;exact rfl)|(refine Qd (by rfl) _ rfl _ rfl _ HPA.out ?_)|(refine Qab (by rfl) _ rfl _ rfl k HWA.out ?_))
       refine (HF.out _).mono ?_;rintro e w2 ⟨rfl,k2⟩;have HK2:=Qh (HA.out.trans k2);have HW2:=Qh (HWA.out.kept k2);have HR2:=Qh (HRA.out.kept k2);have HE:=Qh (cast_at hlt HV.out HNo.out);clear k2 x0 x1 x2 y0 y1 y3;go_wp2_with (first|(refine Qab (by rfl) _ rfl _ rfl k HW2.out ?_)|(refine wpList_store_wi rfl _ _ rfl (w.heap.size+2) 4 k HR2.out rfl rfl ?_))
       refine bodyPost_ret (v:=.tuple #[.agg (wl k).toArray,.bool true]) ?_ rfl ⟨by rw [HE.out];simp [hlt],(HK1.out.trans HK2.out).setRow (by omega) _⟩;exact (results_wing_tmp (s:=4) (t:=5) rfl _ rfl (HR2.out.row _)).trans rfl
  ·have HE:=Qh (cast_none (p:=p) (m:=m) (fun j hj=>HNo.out j (by omega)))
   have HR2:=Qh (HR1.out.kept HK.out);go_wp2_with (first|(refine wpList_built_wi0 (by rfl) rfl ?_)|(refine wpList_store_wi rfl _ _ rfl (w.heap.size+2) 4 4 HR2.out rfl rfl ?_))
   refine bodyPost_ret (v:=.tuple #[.agg (wl 4).toArray,.bool false]) ?_ rfl ⟨by rw [HE.out];rfl,(HK1.out.trans HK.out).setRow (by omega) _⟩;exact (results_wing_tmp (s:=4) (t:=5) rfl _ rfl (HR2.out.row _)).trans rfl
end Go.Proofs.YtlpeiolgcaddjaaGreatDoor
