/- BoA · BoB · BoC · BoD: my texts, in their order. -/
import Derived.Test.YtlbipjmmlobofaaGreatDoorPkA00
import Derived.Test.YtlbipjmmlobofaaGreatDoorPkA01
import Derived.Test.YtlbipjmmlobofaaGreatDoorPkA07
import Derived.Deep.WholeRow
import Derived.Deep.MidRow
import Derived.Deep.RegionHeld3
import Derived.Deep.AppendLies
import Derived.OwnWalk
import Derived.ChangeKeysEq
namespace Go.Proofs.YtlbipjmmlobofaaGreatDoor
set_option maxRecDepth 100000
open Go.RowKit
set_option linter.unusedVariables false
def cl (B:List Int):List Value:=B.map (Value.int .i8)
theorem cl_length (B:List Int):(cl B).length=B.length:=by simp [cl]
theorem cl_get (B:List Int) (i:Nat) (h:i<B.length):(cl B)[i]?=some (.int .i8 (B.getD i 0)):=by
 simp [cl,List.getD,List.getElem?_eq_getElem h]
theorem cl_set (B:List Int) (i:Nat) (x:Int):(cl B).set i (.int .i8 x)=cl (B.set i x):=by
 simp [cl,List.map_set]
def Brd (B:List Int):Prop:=B.length=64∧∀ i,i<64→-128≤B.getD i 0∧B.getD i 0≤127
theorem size24:(Tryz.prog.info? 24).map (·.size)=some 64:=by kernel_rfl
theorem info22:(Tryz.prog.info? 22).map (fun i=>(i.zero,i.size))=some (some (.int .i8 0),1):=by kernel_rfl
theorem cells22:Tryz.prog.cellsOf 22=1:=by kernel_rfl
theorem cells24:Tryz.prog.cellsOf 24=64:=by kernel_rfl
theorem run_index_cl (B:List Int) (hB:B.length=64) (k:Nat) (hk:k<64) (w:World) :
  (Instr.index 24 (.agg (cl B).toArray) (.int .i64 k)).run Tryz.prog w=.ok (.int .i8 (B.getD k 0)) w:=by
 have h1:(0:Int)≤(k:Int)∧(k:Int)<((64:Nat):Int):=by omega
 have h2:=cl_get B k (by omega)
 have hs:(sizeOf 22).run Tryz.prog w=.ok 1 w:=by
  cases hq:Tryz.prog.info? 22 with
  | none=>have:=info22;simp [hq] at this
  | some i=>have:=info22;simp [hq] at this;simp [sizeOf,typeInfo,hq,this.2]
 simp only [Instr.index,asIntOf,Sem.run_bind,Sem.run_pure,Result.andThen_ok,run_underlying Tryz.underlying24,if_pos h1,hs]
 simp [part,isAgg,run_underlying Tryz.underlying22,h2]
theorem size_cl {B:List Int} (hB:B.length=64):(Tryz.prog.info? 24).map (·.size)=some (cl B).toArray.size:=by rw [size24];simp [cl_length,hB]
theorem wpList_load_w {ops:Array Oper} {rest:List Oper} {o:Oper} {a:Act} {w:World} {Q:Exit→Act→World→Prop} (hw:Region.wanted o (yielded ops a.tmps)=true) (x:Operand) (ho:o.op=.load 24 x)
  (g:Nat) (hx:a.eval x=.pointer (some ⟨g,0,none⟩)) (B:List Int) (hg:w.heap[g]?=some (.cells (cl B).toArray 24 (0,0)))
  (hi:(Tryz.prog.info? 24).map (·.size)=some (cl B).toArray.size)
  (h:wpList Tryz.prog ops Q rest (a.put o.dst (.agg (cl B).toArray)) w):wpList Tryz.prog ops Q (o::rest) a w :=
 wpList_step fun _ hK=>by
  rw [if_pos hw]
  exact wp_load_row 24 x ho g hx _ _ (0,0) _ hg Tryz.underlying24 rfl hi (hK _ _ h)
theorem run_load_cl {w:World} {g:Nat} {B:List Int} {t:TypeId} (hB:B.length=64) (hg:w.heap[g]?=some (.cells (cl B).toArray t (0,0))) :
  (loadVar 24 ⟨g,0,none⟩).run Tryz.prog w=.ok (.agg (cl B).toArray) w :=
 run_loadVar_row w g t _ (cl B).toArray (0,0) _ hg Tryz.underlying24 rfl (by rw [size24];simp [cl_length,hB])
theorem man_yes (B:List Int) (hB:Brd B) (k:Nat) (hk:k<64) (w:World) :
  Calls Tryz.prog 84 #[.agg (cl B).toArray,.int .i64 k] w fun e w'=>e=.returned (.int .i64 (B.getD k 0))∧Kept w w':=by
 have hc:(w.alloc (.cells (cl B).toArray 24)).cell? ⟨w.heap.size,k,none⟩=some (.int .i8 (B.getD k 0)):=by
  rw [cell_of_row _ _ k _ _ (0,0) (heap_alloc_new w _)]
  simpa using cl_get B k (by rw [hB.1];exact hk)
 obtain ⟨hb1,hb2⟩:=hB.2 k hk
 clear hB
 generalize B.getD k 0=x at *
 go_enter Tryz.func84,Tryz.ntmps84
 go_wp2_with fail
 refine (right_yes _ _ (by omega) (by omega)).mono ?_
 rintro e w' ⟨rfl,rfl⟩
 go_wp2
 go_ret
 exact ⟨rfl,(Kept.refl _).alloc _⟩
def manB (x:Int):Bool:=x != 0 && decide (-6≤x) && decide (x≤6)
def kindI (x:Int):Int:=if manB x then (if 0<x then x else -x) else 0
def sideI (x:Int):Int:=if manB x then (if 0<x then 0 else 1) else -1
theorem manB_iff (x:Int):manB x=true↔x≠0∧-6≤x∧x≤6:=by simp [manB,and_assoc]
theorem manB_not (x:Int):manB x=false↔x < -6∨x=0∨6<x:=by
 rw [← Bool.not_eq_true,manB_iff];omega
theorem mright_any (m:Int) (w:World) :
  Calls Tryz.prog 127 #[.int .i64 m] w fun e w'=>e=.returned (.bool (manB m))∧w=w':=by
 by_cases h:manB m=true
 ·have:=(manB_iff m).1 h
  rw [h];exact mright_yes m w this.1 this.2.1 this.2.2
 ·have h':manB m=false:=by simpa using h
  rw [h'];exact mright_no m w ((manB_not m).1 h')
theorem mkind_any (m:Int) (w:World) :
  Calls Tryz.prog 134 #[.int .i64 m] w fun e w'=>e=.returned (.int .i64 (kindI m))∧w=w':=by
 unfold kindI
 by_cases h:manB m=true
 ·have:=(manB_iff m).1 h
  rw [if_pos h]
  by_cases h0:0<m
  ·rw [if_pos h0];exact mkind_w m w h0 this.2.2
  ·rw [if_neg h0];exact mkind_b m w (by omega) this.2.1
 ·rw [if_neg h];exact mkind_no m w ((manB_not m).1 (by simpa using h))
theorem mside_any (m:Int) (w:World) :
  Calls Tryz.prog 133 #[.int .i64 m] w fun e w'=>e=.returned (.int .i64 (sideI m))∧w=w':=by
 unfold sideI
 by_cases h:manB m=true
 ·have:=(manB_iff m).1 h
  rw [if_pos h]
  by_cases h0:0<m
  ·rw [if_pos h0];exact mside_w m w h0 this.2.2
  ·rw [if_neg h0];exact mside_b m w (by omega) this.2.1
 ·rw [if_neg h];exact mside_no m w ((manB_not m).1 (by simpa using h))
theorem rkind_any (m:Int) (w:World) :
  Calls Tryz.prog 81 #[.int .i64 m] w fun e w'=>e=.returned (.int .i64 (kindI m))∧w=w':=by
 unfold kindI
 by_cases h:manB m=true
 ·have:=(manB_iff m).1 h
  rw [if_pos h]
  by_cases h0:0<m
  ·rw [if_pos h0];exact rkind_yes m m w (.inl rfl) (by omega) this.2.2
  ·rw [if_neg h0];exact rkind_yes m (-m) w (.inr (by omega)) (by omega) (by omega)
 ·rw [if_neg h];exact rkind_no m w ((manB_not m).1 (by simpa using h))
theorem kindI_one (x:Int):(kindI x == 1)=(x == 1 || x == -1):=by
 rw [Bool.eq_iff_iff]
 simp only [beq_iff_eq,Bool.or_eq_true]
 unfold kindI
 by_cases h:manB x=true
 ·rw [if_pos h];split <;> omega
 ·rw [if_neg h];have:=(manB_not x).1 (by simpa using h);omega
def edge (B:List Int) (i:Nat):Bool:=(kindI (B.getD i 0) == 1) && (((i:Int) / 8 == 0) || ((i:Int) / 8 == 7))
theorem pawnAtEdge_no (B:List Int) (hB:Brd B) (he:∀ i,i<64→edge B i=false) (w:World) :
  Calls Tryz.prog 95 #[.agg (cl B).toArray] w fun e w'=>e=.returned (.bool false)∧Kept w w':=by
 have H:=Qh hB
 have HE:=Qh he
 have hz:=Qh (size_cl hB.1)
 clear hB he
 go_enter Tryz.func95,Tryz.ntmps95
 go_wp2_with (refine wpList_load_w (by rfl) _ rfl _ rfl _ (heap_alloc_new w _) hz.out ?_)
 go_loop [7] (fun t=>∃ k:Nat,k≤64∧t=.int .i64 k) (fun t=>64-(intOf t).toNat)
 case atStart=>exact ⟨0,by omega,rfl⟩
 case round =>
  obtain ⟨k,hk,rfl⟩:=hrel
  by_cases hlt:k<64
  ·have hx:=run_index_cl B H.out.1 k hlt
   obtain ⟨hb1,hb2⟩:=H.out.2 k hlt
   have he:=HE.out k hlt
   unfold edge at he
   generalize B.getD k 0=x at *
   by_cases hp:(kindI x == 1)=true
   ·rw [hp,Bool.true_and,Bool.or_eq_false_iff] at he
    obtain ⟨e1,e2⟩:=he
    go_wp2_with fail
    refine (rank_yes _ _ (by omega) (by omega)).mono ?_
    rintro e w' ⟨rfl,rfl⟩
    go_wp2_with fail
    refine (mkind_any _ _).mono ?_
    rintro e w' ⟨rfl,rfl⟩
    go_wp2
    go_round
    case rel=>exact ⟨k+1,by omega,by go_num⟩
    case measure=>simp [intOf];omega
   ·have hp':(kindI x == 1)=false:=by simpa using hp
    clear he hp
    go_wp2_with fail
    refine (rank_yes _ _ (by omega) (by omega)).mono ?_
    rintro e w' ⟨rfl,rfl⟩
    go_wp2_with fail
    refine (mkind_any _ _).mono ?_
    rintro e w' ⟨rfl,rfl⟩
    go_wp2
    go_round
    case rel=>exact ⟨k+1,by omega,by go_num⟩
    case measure=>simp [intOf];omega
  ·go_wp2
   go_ret
   exact ⟨rfl,(Kept.refl _).alloc _⟩
theorem pawnAtEdge_yes (B:List Int) (hB:Brd B) (n:Nat) (hn:n<64) (he:edge B n=true) (hf:∀ i,i<n→edge B i=false) (w:World) :
  Calls Tryz.prog 95 #[.agg (cl B).toArray] w fun e w'=>e=.returned (.bool true)∧Kept w w':=by
 have H:=Qh hB
 have HF:=Qh hf
 have HE:=Qh he
 have hz:=Qh (size_cl hB.1)
 clear hB he hf
 go_enter Tryz.func95,Tryz.ntmps95
 go_wp2_with (refine wpList_load_w (by rfl) _ rfl _ rfl _ (heap_alloc_new w _) hz.out ?_)
 go_loop [7] (fun t=>∃ k:Nat,k≤n∧t=.int .i64 k) (fun t=>64-(intOf t).toNat)
 case atStart=>exact ⟨0,by omega,rfl⟩
 case round =>
  obtain ⟨k,hk,rfl⟩:=hrel
  have hlt:k<64:=by omega
  have hx:=run_index_cl B H.out.1 k hlt
  obtain ⟨hb1,hb2⟩:=H.out.2 k hlt
  by_cases hkn:k=n
  ·subst hkn
   have he:=HE.out
   unfold edge at he
   generalize B.getD k 0=x at *
   rw [Bool.and_eq_true] at he
   obtain ⟨hp,he⟩:=he
   by_cases h0:((k:Int) / 8 == 0)=true
   ·clear he
    go_wp2_with fail
    refine (rank_yes _ _ (by omega) (by omega)).mono ?_
    rintro e w' ⟨rfl,rfl⟩
    go_wp2_with fail
    refine (mkind_any _ _).mono ?_
    rintro e w' ⟨rfl,rfl⟩
    go_wp2
    go_ret
    exact ⟨rfl,(Kept.refl _).alloc _⟩
   ·have h0':((k:Int) / 8 == 0)=false:=by simpa using h0
    rw [h0',Bool.false_or] at he
    clear h0
    go_wp2_with fail
    refine (rank_yes _ _ (by omega) (by omega)).mono ?_
    rintro e w' ⟨rfl,rfl⟩
    go_wp2_with fail
    refine (mkind_any _ _).mono ?_
    rintro e w' ⟨rfl,rfl⟩
    go_wp2
    go_ret
    exact ⟨rfl,(Kept.refl _).alloc _⟩
  ·have he:=HF.out k (by omega)
   have hkn':k<n:=by omega
   clear hkn
   unfold edge at he
   generalize B.getD k 0=x at *
   by_cases hp:(kindI x == 1)=true
   ·rw [hp,Bool.true_and,Bool.or_eq_false_iff] at he
    obtain ⟨e1,e2⟩:=he
    go_wp2_with fail
    refine (rank_yes _ _ (by omega) (by omega)).mono ?_
    rintro e w' ⟨rfl,rfl⟩
    go_wp2_with fail
    refine (mkind_any _ _).mono ?_
    rintro e w' ⟨rfl,rfl⟩
    go_wp2
    go_round
    case rel=>exact ⟨k+1,by omega,by go_num⟩
    case measure=>simp [intOf];omega
   ·have hp':(kindI x == 1)=false:=by simpa using hp
    clear he hp
    go_wp2_with fail
    refine (rank_yes _ _ (by omega) (by omega)).mono ?_
    rintro e w' ⟨rfl,rfl⟩
    go_wp2_with fail
    refine (mkind_any _ _).mono ?_
    rintro e w' ⟨rfl,rfl⟩
    go_wp2
    go_round
    case rel=>exact ⟨k+1,by omega,by go_num⟩
    case measure=>simp [intOf];omega
def sel (p:Nat→Bool) (n:Nat):List Nat:=(List.range n).filter p
theorem sel_yes {p:Nat→Bool} {n:Nat} (h:p n=true):sel p (n+1)=sel p n++[n]:=by
 simp [sel,List.range_succ,List.filter_append,h]
theorem sel_no {p:Nat→Bool} {n:Nat} (h:p n=false):sel p (n+1)=sel p n:=by
 simp [sel,List.range_succ,List.filter_append,h]
theorem sel_le (p:Nat→Bool) (n:Nat):(sel p n).length≤n:=by
 have:=List.length_filter_le p (List.range n)
 simpa [sel] using this
def cnt (p:Nat→Bool) (n:Nat):Nat:=(sel p n).length
theorem cnt_yes {p:Nat→Bool} {n:Nat} (h:p n=true):cnt p (n+1)=cnt p n+1:=by simp [cnt,sel_yes h]
theorem cnt_no {p:Nat→Bool} {n:Nat} (h:p n=false):cnt p (n+1)=cnt p n:=by simp [cnt,sel_no h]
theorem cnt_le (p:Nat→Bool) (n:Nat):cnt p n≤n:=sel_le p n
def hit (kind side x:Int):Bool:=manB x && (sideI x == side) && (kind == 0 || kindI x == kind)
def many (B:List Int) (kind side:Int):Nat:=cnt (fun i=>hit kind side (B.getD i 0)) 64
theorem many_is (B:List Int) (hB:Brd B) (kind side:Int) (w:World) :
  Calls Tryz.prog 94 #[.agg (cl B).toArray,.int .i64 kind,.int .i64 side] w fun e w'=>e=.returned (.int .i64 (many B kind side:Nat))∧Kept w w':=by
 have H:=Qh hB
 have hz:=Qh (size_cl hB.1)
 clear hB
 obtain ⟨p,hp⟩:∃ p,p=fun i=>hit kind side (B.getD i 0):=⟨_,rfl⟩
 have HM:Hid (many B kind side=cnt p 64):=by rw [hp];rfl
 have HP:=Qh hp
 clear hp
 go_enter Tryz.func94,Tryz.ntmps94
 go_wp2_with (refine wpList_load_w (by rfl) _ rfl _ rfl _ (heap_alloc_new w _) hz.out ?_)
 go_loop [7,12] (fun n i=>∃ k:Nat,k≤64∧i=.int .i64 k∧n=.int .i64 (cnt p k:Nat)) (fun _ i=>64-(intOf i).toNat)
 case atStart=>exact ⟨0,by omega,rfl,rfl⟩
 case round =>
  obtain ⟨k,hk,rfl,rfl⟩:=hrel
  have hc:=cnt_le p k
  by_cases hlt:k<64
  ·have hx:=run_index_cl B H.out.1 k hlt
   obtain ⟨hb1,hb2⟩:=H.out.2 k hlt
   obtain ⟨x,ex⟩:∃ x,x=B.getD k 0:=⟨_,rfl⟩
   rw [← ex] at hx hb1 hb2
   have hq:Hid (p k=hit kind side x):=by rw [ex,HP.out];rfl
   clear ex
   by_cases h1:manB x=true
   ·by_cases h2:(sideI x == side)=true
    ·by_cases h3:(kind == 0)=true
     ·have HQ:Hid (p k=true):=by rw [hq.out];unfold hit;rw [h1,h2,h3];rfl
      go_wp2_with fail
      refine (mright_any _ _).mono ?_
      rintro e w' ⟨rfl,rfl⟩
      go_wp2_with fail
      refine (mside_any _ _).mono ?_
      rintro e w' ⟨rfl,rfl⟩
      go_wp2
      go_round
      case rel=>exact ⟨k+1,by omega,by go_num,by rw [cnt_yes HQ.out];go_num⟩
      case measure=>simp [intOf];omega
     ·have h3':(kind == 0)=false:=by simpa using h3
      clear h3
      by_cases h4:(kindI x == kind)=true
      ·have HQ:Hid (p k=true):=by rw [hq.out];unfold hit;rw [h1,h2,h3',h4];rfl
       go_wp2_with fail
       refine (mright_any _ _).mono ?_
       rintro e w' ⟨rfl,rfl⟩
       go_wp2_with fail
       refine (mside_any _ _).mono ?_
       rintro e w' ⟨rfl,rfl⟩
       go_wp2_with fail
       refine (mkind_any _ _).mono ?_
       rintro e w' ⟨rfl,rfl⟩
       go_wp2
       go_round
       case rel=>exact ⟨k+1,by omega,by go_num,by rw [cnt_yes HQ.out];go_num⟩
       case measure=>simp [intOf];omega
      ·have h4':(kindI x == kind)=false:=by simpa using h4
       clear h4
       have HQ:Hid (p k=false):=by rw [hq.out];unfold hit;rw [h1,h2,h3',h4'];rfl
       go_wp2_with fail
       refine (mright_any _ _).mono ?_
       rintro e w' ⟨rfl,rfl⟩
       go_wp2_with fail
       refine (mside_any _ _).mono ?_
       rintro e w' ⟨rfl,rfl⟩
       go_wp2_with fail
       refine (mkind_any _ _).mono ?_
       rintro e w' ⟨rfl,rfl⟩
       go_wp2
       go_round
       case rel=>exact ⟨k+1,by omega,by go_num,by rw [cnt_no HQ.out]⟩
       case measure=>simp [intOf];omega
    ·have h2':(sideI x == side)=false:=by simpa using h2
     clear h2
     have HQ:Hid (p k=false):=by rw [hq.out];unfold hit;rw [h1,h2'];rfl
     go_wp2_with fail
     refine (mright_any _ _).mono ?_
     rintro e w' ⟨rfl,rfl⟩
     go_wp2_with fail
     refine (mside_any _ _).mono ?_
     rintro e w' ⟨rfl,rfl⟩
     go_wp2
     go_round
     case rel=>exact ⟨k+1,by omega,by go_num,by rw [cnt_no HQ.out]⟩
     case measure=>simp [intOf];omega
   ·have h1':manB x=false:=by simpa using h1
    clear h1
    have HQ:Hid (p k=false):=by rw [hq.out];unfold hit;rw [h1'];rfl
    go_wp2_with fail
    refine (mright_any _ _).mono ?_
    rintro e w' ⟨rfl,rfl⟩
    go_wp2
    go_round
    case rel=>exact ⟨k+1,by omega,by go_num,by rw [cnt_no HQ.out]⟩
    case measure=>simp [intOf];omega
  ·go_wp2
   go_ret
   exact ⟨ret_int (by rw [HM.out,show k=64 by omega]),(Kept.refl _).alloc _⟩
def okB (x:Int):Bool:=x == 0 || manB x
def rightB (B:List Int):Bool:=B.all okB
theorem rright_yes' (B:List Int) (hB:Brd B) (h:∀ i,i<64→okB (B.getD i 0)=true) (w:World) :
  Calls Tryz.prog 38 #[.agg (cl B).toArray] w fun e w'=>e=.returned (.bool true)∧Kept w w':=by
 have H:=Qh hB
 have HK:=Qh h
 clear hB h
 go_enter Tryz.func38,Tryz.ntmps38
 go_wp2
 go_loop [3] (fun i=>∃ k:Nat,k≤64∧i=.int .i64 k) (fun i=>64-(intOf i).toNat)
 case atStart=>exact ⟨0,by omega,rfl⟩
 case round =>
  obtain ⟨k,hk,rfl⟩:=hrel
  by_cases hlt:k<64
  ·have hc:(w.alloc (.cells (cl B).toArray 24)).cell? ⟨w.heap.size,k,none⟩=some (.int .i8 (B.getD k 0)):=by
    rw [cell_of_row _ _ k _ _ (0,0) (heap_alloc_new w _)]
    simpa using cl_get B k (by rw [H.out.1];exact hlt)
   obtain ⟨hb1,hb2⟩:=H.out.2 k hlt
   have ho:=HK.out k hlt
   generalize B.getD k 0=x at *
   by_cases h0:(x == 0)=true
   ·have h0':(x != 0)=false:=by simpa using h0
    clear h0 ho
    go_wp2
    go_round
    case rel=>exact ⟨k+1,by omega,by go_num⟩
    case measure=>simp [intOf];omega
   ·have h0':(x != 0)=true:=by simpa using h0
    have hm:manB x=true:=by
     unfold okB at ho
     simpa [h0] using ho
    have hk0:(kindI x == 0)=false:=by
     have:=(manB_iff x).1 hm
     rw [beq_eq_false_iff_ne]
     unfold kindI
     rw [if_pos hm]
     split <;> omega
    clear h0 ho hm
    go_wp2_with fail
    refine (rkind_any _ _).mono ?_
    rintro e w' ⟨rfl,rfl⟩
    go_wp2
    go_round
    case rel=>exact ⟨k+1,by omega,by go_num⟩
    case measure=>simp [intOf];omega
  ·go_wp2
   go_ret
   exact ⟨rfl,(Kept.refl _).alloc _⟩
theorem rright_no' (B:List Int) (hB:Brd B) (n:Nat) (hn:n<64) (h:okB (B.getD n 0)=false) (hf:∀ i,i<n→okB (B.getD i 0)=true) (w:World) :
  Calls Tryz.prog 38 #[.agg (cl B).toArray] w fun e w'=>e=.returned (.bool false)∧Kept w w':=by
 have H:=Qh hB
 have HK:=Qh hf
 have HN:=Qh h
 clear hB h hf
 go_enter Tryz.func38,Tryz.ntmps38
 go_wp2
 go_loop [3] (fun i=>∃ k:Nat,k≤n∧i=.int .i64 k) (fun i=>64-(intOf i).toNat)
 case atStart=>exact ⟨0,by omega,rfl⟩
 case round =>
  obtain ⟨k,hk,rfl⟩:=hrel
  have hlt:k<64:=by omega
  have hc:(w.alloc (.cells (cl B).toArray 24)).cell? ⟨w.heap.size,k,none⟩=some (.int .i8 (B.getD k 0)):=by
   rw [cell_of_row _ _ k _ _ (0,0) (heap_alloc_new w _)]
   simpa using cl_get B k (by rw [H.out.1];exact hlt)
  obtain ⟨hb1,hb2⟩:=H.out.2 k hlt
  by_cases he:k=n
  ·subst he
   have ho:=HN.out
   generalize B.getD k 0=x at *
   unfold okB at ho
   rw [Bool.or_eq_false_iff] at ho
   have h0':(x != 0)=true:=by have:=ho.1;simpa using this
   have hk0:(kindI x == 0)=true:=by
    rw [beq_iff_eq]
    unfold kindI
    rw [if_neg (by rw [ho.2];decide)]
   clear ho
   go_wp2_with fail
   refine (rkind_any _ _).mono ?_
   rintro e w' ⟨rfl,rfl⟩
   go_wp2
   go_ret
   exact ⟨rfl,(Kept.refl _).alloc _⟩
  ·have ho:=HK.out k (by omega)
   have hkn:k<n:=by omega
   clear he
   generalize B.getD k 0=x at *
   by_cases h0:(x == 0)=true
   ·have h0':(x != 0)=false:=by simpa using h0
    clear h0 ho
    go_wp2
    go_round
    case rel=>exact ⟨k+1,by omega,by go_num⟩
    case measure=>simp [intOf];omega
   ·have h0':(x != 0)=true:=by simpa using h0
    have hm:manB x=true:=by
     unfold okB at ho
     simpa [h0] using ho
    have hk0:(kindI x == 0)=false:=by
     have:=(manB_iff x).1 hm
     rw [beq_eq_false_iff_ne]
     unfold kindI
     rw [if_pos hm]
     split <;> omega
    clear h0 ho hm
    go_wp2_with fail
    refine (rkind_any _ _).mono ?_
    rintro e w' ⟨rfl,rfl⟩
    go_wp2
    go_round
    case rel=>exact ⟨k+1,by omega,by go_num⟩
    case measure=>simp [intOf];omega
theorem first_or (p:Nat→Bool) (n:Nat):(∀ i,i<n→p i=false)∨∃ k,k<n∧p k=true∧∀ i,i<k→p i=false:=by
 induction n with
 | zero=>exact .inl (fun i hi=>by omega)
 | succ n ih =>
  rcases ih with h|⟨k,hk,h1,h2⟩
  ·by_cases hp:p n=true
   ·exact .inr ⟨n,by omega,hp,h⟩
   ·refine .inl (fun i hi=>?_)
    by_cases he:i=n
    ·subst he;simpa using hp
    ·exact h i (by omega)
  ·exact .inr ⟨k,by omega,h1,h2⟩
theorem getD_at (B:List Int) (i:Nat) (h:i<B.length):B.getD i 0=B[i]:=by simp [List.getD,List.getElem?_eq_getElem h]
theorem rightB_iff (B:List Int) (hB:B.length=64):rightB B=true↔∀ i,i<64→okB (B.getD i 0)=true:=by
 unfold rightB
 rw [List.all_eq_true]
 constructor
 ·intro h i hi
  have:i<B.length:=by omega
  rw [getD_at _ _ this]
  exact h _ (List.getElem_mem this)
 ·intro h x hx
  obtain ⟨i,hi,rfl⟩:=List.getElem_of_mem hx
  have:=h i (by omega)
  rwa [getD_at _ _ hi] at this
theorem rright_is (B:List Int) (hB:Brd B) (w:World) :
  Calls Tryz.prog 38 #[.agg (cl B).toArray] w fun e w'=>e=.returned (.bool (rightB B))∧Kept w w':=by
 rcases first_or (fun i=>!okB (B.getD i 0)) 64 with h|⟨k,hk,h1,h2⟩
 ·have h':∀ i,i<64→okB (B.getD i 0)=true:=fun i hi=>by simpa using h i hi
  rw [(rightB_iff B hB.1).2 h']
  exact rright_yes' B hB h' w
 ·have h1':okB (B.getD k 0)=false:=by simpa using h1
  have:rightB B=false:=by
   rw [← Bool.not_eq_true,rightB_iff B hB.1]
   intro h
   rw [h k hk] at h1'
   cases h1'
  rw [this]
  exact rright_no' B hB k hk h1' (fun i hi=>by simpa using h2 i hi) w
def edgeB (B:List Int):Bool:=(List.range 64).any (edge B)
theorem pawnAtEdge_is (B:List Int) (hB:Brd B) (w:World) :
  Calls Tryz.prog 95 #[.agg (cl B).toArray] w fun e w'=>e=.returned (.bool (edgeB B))∧Kept w w':=by
 rcases first_or (edge B) 64 with h|⟨k,hk,h1,h2⟩
 ·have:edgeB B=false:=by
   unfold edgeB
   rw [List.any_eq_false]
   intro i hi
   rw [h i (by simpa using hi)]
   decide
  rw [this]
  exact pawnAtEdge_no B hB h w
 ·have:edgeB B=true:=by
   unfold edgeB
   rw [List.any_eq_true]
   exact ⟨k,by simpa using hk,h1⟩
  rw [this]
  exact pawnAtEdge_yes B hB k hk h1 h2 w
def nl (l:List Nat):List Value:=l.map fun (i:Nat)=>Value.int .i64 (i:Int)
theorem nl_snoc (l:List Nat) (k:Nat):nl (l++[k])=nl l++[.int .i64 (k:Int)]:=by simp [nl]
theorem infoInt:(Tryz.prog.info? 3).map (fun i=>(i.zero,i.size,i.bytes))=some (some (.int .i64 0),1,8):=by kernel_rfl
def Owns (w:World) (base:Nat) (v:Value) (l:List Nat):Prop:=w.ownsRow base 3 1 v l.length (nl l)
theorem Owns.low {w:World} {base b:Nat} {v:Value} {l:List Nat} (h:Owns w base v l) (hb:b≤base):Owns w b v l:=by
 obtain ⟨h1,h2⟩:=h
 refine ⟨h1,?_⟩
 rcases h2 with h2|⟨g,cap,cur,e1,e2,e3⟩
 ·exact .inl h2
 ·exact .inr ⟨g,cap,cur,e1,by omega,e3⟩
theorem Owns.slice {w:World} {base:Nat} {v:Value} {l:List Nat} (h:Owns w base v l):∃ a cap,v=.slice a l.length cap:=by
 rcases h.2 with ⟨e,h0⟩|⟨g,cap,cur,e,_⟩
 ·exact ⟨none,0,by rw [e,h0]⟩
 ·exact ⟨_,_,e⟩
theorem Owns.at_ {w:World} {base:Nat} {a:Option Addr} {n cap:Nat} {l:List Nat} (h:Owns w base (.slice a n cap) l) (j:Nat) (hj:j<l.length) :
  ∃ g,a=some ⟨g,0,none⟩∧w.cell? ⟨g,j,none⟩=some (.int .i64 (l.getD j 0:Nat)):=by
 rcases h.2 with ⟨e,h0⟩|⟨g,cap',cur,e,_,hh,hnc,_,hcs,ht⟩
 ·omega
 ·injection e with e1 e2 e3
  refine ⟨g,e1,?_⟩
  rw [cell_of_row w g j cur _ (0,0) hh]
  have h2:(cur.toList.take (l.length*1))[j]?=(nl l)[j]?:=by rw [ht]
  rw [List.getElem?_take,if_pos (by omega)] at h2
  simp only [Array.getElem?_toList] at h2
  rw [h2]
  simp [nl,List.getD,List.getElem?_eq_getElem hj]
theorem owns_none (w:World) (b:Nat) (p:Nat→Bool):Owns w b (.slice none 0 0) (sel p 0):=by
 have:sel p 0=[]:=by simp [sel]
 rw [this];exact World.ownsRow_nil _ _ _ _
def Gives (w:World) (l:List Nat) (e:Ending) (w':World):Prop:=∃ v,e=.returned v∧Owns w' w.heap.size v l∧Kept w w'
def whereL (B:List Int) (m:Int):List Nat:=sel (fun i=>B.getD i 0 == m) 64
theorem where_step {w W wr w1:World} {v v':Value} {p:Nat→Bool} {k:Nat} {o:Obj} (hp:p k=true) (hW:W.heap.size=w.heap.size+1) (hK:Kept W wr)
  (hown:Owns wr (w.heap.size+1) v (sel p k)) (hown':w1.ownsRow (w.heap.size+1) 3 1 v' ((sel p k).length+1) (nl (sel p k)++[.int .i64 (k:Int)])) (hg:(wr.alloc o).grownBy w1 v.ownBlock) :
  Owns w1 (w.heap.size+1) v' (sel p (k+1))∧Kept W w1:=by
 refine ⟨?_,?_⟩
 ·unfold Owns
  rw [sel_yes hp,nl_snoc]
  simpa using hown'
 ·exact (hK.alloc o).grownBy hg (fun g hgv=>by have:=(World.ownsRow.lt hown g hgv).1;omega)
set_option maxRecDepth 100000 in
theorem rwhere_is (B:List Int) (hB:Brd B) (m:Int) (w:World) :
  Calls Tryz.prog 39 #[.agg (cl B).toArray,.int .i64 m] w (Gives w (whereL B m)):=by
 have H:=Qh hB
 clear hB
 obtain ⟨p,hp⟩:∃ p:Nat→Bool,p=fun i=>B.getD i 0 == m:=⟨_,rfl⟩
 have HM:Hid (whereL B m=sel p 64):=by rw [hp];rfl
 have HP:=Qh hp
 clear hp
 obtain ⟨i0,hi,hz0,hz1,hz2⟩:=info_parts infoInt
 obtain ⟨W,eW⟩:∃ W,W=w.alloc (.cells (cl B).toArray 24):=⟨_,rfl⟩
 have HW:=Qh eW
 have hsz:=Qh (show W.heap.size=w.heap.size+1 by rw [eW];simp)
 have hbl:=Qh (show W.heap[w.heap.size]?=some (.cells (cl B).toArray 24 (0,0)) by rw [eW];exact heap_alloc_new w _)
 clear eW
 go_enter Tryz.func39,Tryz.ntmps39
 go_wp2
 go_loopw [5,6] (fun v i wr=>∃ k:Nat,k≤64∧i=.int .i64 k∧Owns wr (w.heap.size+1) v (sel p k)∧Kept W wr) (fun _ i _=>64-(intOf i).toNat)
 case atStart=>exact ⟨0,by omega,rfl,owns_none _ _ _,by rw [HW.out];exact Kept.refl _⟩
 case round =>
  obtain ⟨k,hk,rfl,hown,hK⟩:=hrel
  have hsl:=sel_le p k
  by_cases hlt:k<64
  ·have hc:wr.cell? ⟨w.heap.size,k,none⟩=some (.int .i8 (B.getD k 0)):=by
    rw [cell_of_row _ _ k _ _ (0,0) (hK.heap hbl.out)]
    simpa using cl_get B k (by rw [H.out.1];exact hlt)
   obtain ⟨hb1,hb2⟩:=H.out.2 k hlt
   obtain ⟨x,ex⟩:∃ x,x=B.getD k 0:=⟨_,rfl⟩
   rw [← ex] at hc hb1 hb2
   have hq:Hid (p k=(x == m)):=by rw [ex,HP.out];rfl
   clear ex
   by_cases h1:(x == m)=true
   ·have HQ:Hid (p k=true):=by rw [hq.out];exact h1
    go_wp2_with (at_builtin;refine wpList_append_own _ rfl _ _ 71 rfl (w.heap.size+1) 3 i0 (.int .i64 0) 1 8 Tryz.underlying71 hi hz0 hz1 hz2 rfl (by decide) _ _ _ rfl (World.ownsRow.alloc hown _) ⟨wr.heap.size,0,none⟩ 1 1 [.int .i64 (k:Int)] rfl rfl ?c1 ?c2 ?c3 ?c4 ?c5 ?_)
    case c1 =>
     intro j u hj
     match j,hj with
     | 0,hj=>simp at hj;subst hj;simp [Addr.add]
    case c2=>intro u hu;simp at hu;subst hu;rfl
    case c3=>unfold maxLen;omega
    case c4=>omega
    case c5=>have:=hK.size;have:=hsz.out;simp;omega
    intro v' w1 hown' hgrow _
    have R:=where_step HQ.out hsz.out hK hown hown' hgrow
    clear hown' hgrow hown hK hc
    go_wp2
    go_roundw
    case rel=>exact ⟨k+1,by omega,by go_num,R.1,R.2⟩
    case measure=>simp [intOf];omega
   ·have h1':(x == m)=false:=by simpa using h1
    clear h1
    have HQ:Hid (p k=false):=by rw [hq.out];exact h1'
    go_wp2
    go_roundw
    case rel=>exact ⟨k+1,by omega,by go_num,by rw [sel_no HQ.out];exact hown,hK⟩
    case measure=>simp [intOf];omega
  ·go_wp2
   go_ret
   refine ⟨_,rfl,?_,?_⟩
   ·rw [HM.out,show 64=k by omega];exact hown.low (by omega)
   ·refine Kept.trans ?_ hK
    rw [HW.out];exact (Kept.refl _).alloc _
end Go.Proofs.YtlbipjmmlobofaaGreatDoor
