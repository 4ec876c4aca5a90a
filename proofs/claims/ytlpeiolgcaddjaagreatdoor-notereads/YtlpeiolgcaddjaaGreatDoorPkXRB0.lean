/- MvH · MvZ · NoF · NoH: my texts, in their order. -/
import Derived.Test.YtlpeiolgcaddjaaGreatDoorPkXRLB0
import Derived.Test.YtlpeiolgcaddjaaGreatDoorPkXRBo0
import Derived.Test.YtlpeiolgcaddjaaGreatDoorPkA
import Derived.Test.YtlpeiolgcaddjaaGreatDoorPkB
import Derived.Test.YtlpeiolgcaddjaaGreatDoorPkC
import Derived.Test.YtlpeiolgcaddjaaGreatDoorPkD
import Derived.Test.YtlpeiolgcaddjaaGreatDoorPkE
import Derived.Test.YtlpeiolgcaddjaaGreatDoorPkF
import Derived.Test.YtlpeiolgcaddjaaGreatDoorPkGa
import Derived.Test.YtlpeiolgcaddjaaGreatDoorPkGb
import Derived.Test.YtlpeiolgcaddjaaGreatDoorPkGc
import Derived.Test.YtlpeiolgcaddjaaGreatDoorPkGd
import Derived.Test.YtlpeiolgcaddjaaGreatDoorPkGe
import Derived.Test.YtlpeiolgcaddjaaGreatDoorPkGf
import Derived.Test.YtlpeiolgcaddjaaGreatDoorPkGg
import Derived.Test.YtlpeiolgcaddjaaGreatDoorPkGh
import Derived.Test.YtlpeiolgcaddjaaGreatDoorPkGj
import Derived.Test.YtlpeiolgcaddjaaGreatDoorPkH
import Derived.Test.YtlpeiolgcaddjaaGreatDoorPkI
import Derived.Test.YtlpeiolgcaddjaaGreatDoorPkJ
import Derived.Test.YtlpeiolgcaddjaaGreatDoorPkK
import Derived.Test.YtlpeiolgcaddjaaGreatDoorPkL
import Derived.Test.YtlpeiolgcaddjaaGreatDoorPkLa
import Derived.Test.YtlpeiolgcaddjaaGreatDoorPkLd
import Derived.Test.YtlpeiolgcaddjaaGreatDoorPkLe
import Derived.Test.YtlpeiolgcaddjaaGreatDoorPkLf
import Derived.Test.YtlpeiolgcaddjaaGreatDoorPkLg
import Derived.Test.YtlpeiolgcaddjaaGreatDoorPkLh
import Derived.Test.YtlpeiolgcaddjaaGreatDoorPkLi
import Derived.Test.YtlpeiolgcaddjaaGreatDoorPkLj
import Derived.Test.YtlpeiolgcaddjaaGreatDoorPkM
import Derived.Test.YtlpeiolgcaddjaaGreatDoorPkN
import Derived.Test.YtlpeiolgcaddjaaGreatDoorPkNa
import Derived.Test.YtlpeiolgcaddjaaGreatDoorPkNb
import Derived.Test.YtlpeiolgcaddjaaGreatDoorPkNc
import Derived.Test.YtlpeiolgcaddjaaGreatDoorPkNd
import Derived.Test.YtlpeiolgcaddjaaGreatDoorPkNf
import Derived.Test.YtlpeiolgcaddjaaGreatDoorPkO
import Derived.Test.YtlpeiolgcaddjaaGreatDoorPkP
import Derived.Test.YtlpeiolgcaddjaaGreatDoorPkQ
import Derived.Test.YtlpeiolgcaddjaaGreatDoorPkR
import Derived.Test.YtlpeiolgcaddjaaGreatDoorPkU
import Derived.Test.YtlpeiolgcaddjaaGreatDoorPkV
namespace Go.Proofs.YtlpeiolgcaddjaaGreatDoor
open Go.RowKit
set_option linter.unusedVariables false
set_option linter.unusedSimpArgs false
set_option maxRecDepth 100000
theorem wpList_eql_mv {ops:Array Oper} {rest:List Oper} {o:Oper} {a:Act} {w:World} {Q:Exit→Act→World→Prop} {b:Bool} (hw:Region.wanted o (yielded ops a.tmps)=true) (x y:Operand) (ty:TypeId) (ho:o.op=.binOp .eql 28 x y ty)
  (p q:Mv) (hx:a.eval x=.agg (ml p).toArray) (hy:a.eval y=.agg (ml q).toArray) (h:beqM p q=b)
  (hk:wpList Tryz.prog ops Q rest (a.put o.dst (.bool b)) w):wpList Tryz.prog ops Q (o::rest) a w :=
 wpList_step fun _ hK=>by
  rw [if_pos hw];unfold Oper.wp execOp;simp only [ho,hx,hy,Sem.run_bind,run_eqGuard_agg w _ _ _ _ _ _ eqGuardM,run_eql_mv,Result.andThen_ok,Sem.run_pure,h,Oper.upon_value];exact hK _ _ hk
theorem ml_size (m:Mv):(Tryz.prog.info? 28).map (·.size)=some (ml m).toArray.size:=by rw [sizeM];rfl
theorem results_mv_tmp {fn:Func} {s t:Tmp} (h:fn.results=#[.cell s 28,.tmp t]) (tmps:Array Value) {w:World} {g:Nat} {m:Mv}
  (hp:tmps.getD s undef=.pointer (some ⟨g,0,none⟩)) (hg:MAt w g m):(results fn tmps).run Tryz.prog w=.ok (.tuple #[.agg (ml m).toArray,tmps.getD t undef]) w:=by
 have hp':tmps[s]?.getD undef=.pointer (some ⟨g,0,none⟩):=by simpa using hp
 have hl:(loadVar 28 ⟨g,0,none⟩).run Tryz.prog w=.ok (.agg (ml m).toArray) w:=run_loadVar_row w g _ _ (ml m).toArray (0,0) _ hg.at_ Tryz.underlying28 rfl (ml_size m);simp [results,h,hp',asAddr,hl]
theorem wpList_store_mv {ops:Array Oper} {rest:List Oper} {o:Oper} {a:Act} {w:World} {Q:Exit→Act→World→Prop} (hgd:o.guard=none) (x y:Operand) (ho:o.op=.store 28 x y)
  (g:Nat) (j m:Mv) (hg:MAt w g j) (hx:a.eval x=.pointer (some ⟨g,0,none⟩)) (hy:a.eval y=.agg (ml m).toArray)
  (h:wpList Tryz.prog ops Q rest (a.put o.dst undef) (w.setRow g (ml m).toArray)):wpList Tryz.prog ops Q (o::rest) a w :=
 wpList_store_row hgd 28 x y ho g (ml m).toArray hx hy 28 _ hg.at_ (ml_size m) rfl (ml_one _) h
theorem MAt.row {w:World} {g:Nat} {j:Mv} (h:MAt w g j) (m:Mv):MAt (w.setRow g (ml m).toArray) g m:=RAt.row h (ml m)
theorem built_mv0:Tryz.prog.built 28 []=some (ml Zm).toArray:=by kernel_rfl
theorem Qat {ops:Array Oper} {rest:List Oper} {o:Oper} {a:Act} {w:World} {Q:Exit→Act→World→Prop} (hw:Region.wanted o (yielded ops a.tmps)=true) (ho:o.op=.build 28 #[])
  (h:wpList Tryz.prog ops Q rest (a.put o.dst (.agg (ml Zm).toArray)) w):wpList Tryz.prog ops Q (o::rest) a w :=
 wpList_step fun _ hK=>by
  rw [if_pos hw]
  have hf:Tryz.prog.built 28 ((#[]:Array (Nat × Operand)).map fun (i,x)=>(i,a.eval x)).toList=some (ml Zm).toArray:=by
   have:((#[]:Array (Nat × Operand)).map fun (i,x)=>(i,a.eval x)).toList=[]:=by simp
   rw [this];exact built_mv0
  exact wp_build _ _ ho (by rw [hf];rfl) (by rw [hf];exact hK _ _ h)
def pfB (t s:ByteArray):Bool:=decide (s.size≤t.size∧t.extract 0 s.size=s)
theorem pf_app (s x:ByteArray):pfB (s++x) s=true∧(s++x).extract s.size (s++x).size=x:=by
 have e0:(s++x).extract 0 s.size=s:=bs_ext (by rw [extract_list,Jh,size_list];simp);refine ⟨decide_eq_true ⟨by rw [ByteArray.size_append];omega,e0⟩,bs_ext ?_⟩;rw [extract_list,Jh,size_list,size_list,Jh];simp;exact List.take_of_length_le (Nat.le_refl _)
theorem pf_eq {t s:ByteArray} (h:pfB t s=true):t=s++t.extract s.size t.size:=by
 have h':s.size≤t.size∧t.extract 0 s.size=s:=by simpa [pfB] using h
 refine bs_ext ?_;have e:(t.extract 0 s.size).data.toList=s.data.toList:=by rw [h'.2]
 rw [extract_list] at e;have hl:=h'.1;rw [size_list,size_list] at hl;rw [Jh,extract_list,size_list,size_list];simp only [List.drop_zero,Nat.sub_zero] at e;rw [size_list] at e;have e2:(t.data.toList.drop s.data.toList.length).take (t.data.toList.length-s.data.toList.length)=t.data.toList.drop s.data.toList.length:=List.take_of_length_le (by rw [List.length_drop];exact Nat.le_refl _);rw [e2]
 conv=>lhs;rw [← List.take_append_drop s.data.toList.length t.data.toList]
 rw [e]
theorem hasp_is (t s:ByteArray) (w:World):Calls Tryz.prog 129 #[.string t,.string s] w fun e w'=>e=.returned (.bool (pfB t s))∧Kept w w':=by
 by_cases h:s.size≤t.size
 ·have h1:(s.size:Int)≤(t.size:Int):=by omega
  have b1:decide ((s.size:Int)≤(t.size:Int))=true:=decide_eq_true h1
  have HV:Hid (pfB t s=decide (t.extract 0 s.size=s)):=by
   show _=_;unfold pfB;rw [Bool.eq_iff_iff,decide_eq_true_eq,decide_eq_true_eq];exact ⟨fun q=>q.2,fun q=>⟨h,q⟩⟩
  by_cases he:t.extract 0 s.size=s
  ·have hb:((t.extract 0 s.size).toList == s.toList)=true:=by rw [he];simp
   rw [decide_eq_true he] at HV;clear he;go_enter Tryz.func129,Tryz.ntmps129;go_wp2;go_ret;exact ⟨by rw [HV.out];first|done|rfl,Kept.refl _⟩
  ·have hb:=str_eq_false he
   rw [decide_eq_false he] at HV;clear he;go_enter Tryz.func129,Tryz.ntmps129;go_wp2;go_ret;exact ⟨by rw [HV.out];first|done|rfl,Kept.refl _⟩
 ·have h1:¬ (s.size:Int)≤(t.size:Int):=by omega
  have b1:decide ((s.size:Int)≤(t.size:Int))=false:=decide_eq_false h1;have HV:Hid (pfB t s=false):=decide_eq_false (fun q=>h q.1);go_enter Tryz.func129,Tryz.ntmps129;go_wp2;go_ret;exact ⟨by rw [HV.out];first|done|rfl,Kept.refl _⟩
def cutT (t s:ByteArray):ByteArray:=if pfB t s then t.extract s.size t.size else t
theorem cutlite_is (t s:ByteArray) (w:World):Calls Tryz.prog 90 #[.string t,.string s] w fun e w'=>e=.returned (.tuple #[.string (cutT t s),.bool (pfB t s)])∧Kept w w':=by
 have HH:=Qh (fun w=>hasp_is t s w);have HV:Hid (cutT t s=if pfB t s then t.extract s.size t.size else t):=rfl
 have hsz:pfB t s=true→(s.size:Int)≤(t.size:Int):=fun q=>by
  have:s.size≤t.size∧t.extract 0 s.size=s:=by simpa [pfB] using q
  omega
 cases hb:pfB t s
 ·rw [hb] at HH HV
  have HV':Hid (cutT t s=t):=HV.out;go_enter Tryz.func90,Tryz.ntmps90;go_wp2_with fail
  refine (HH.out _).mono ?_;rintro e w1 ⟨rfl,k1⟩;go_wp2;go_ret2;exact ⟨by rw [HV'.out];first|done|rfl,k1⟩
 ·rw [hb] at HH HV
  have h1:=hsz hb;have h2:s.size≤t.size:=by omega
  have HV':Hid (cutT t s=t.extract s.size t.size):=HV.out;clear hsz;go_enter Tryz.func90,Tryz.ntmps90;go_wp2_with fail
  refine (HH.out _).mono ?_;rintro e w1 ⟨rfl,k1⟩;go_wp2;go_ret2;exact ⟨by rw [HV'.out];first|done|rfl,k1⟩
theorem cutp_is (t s:ByteArray) (w:World):Calls Tryz.prog 45 #[.string t,.string s] w fun e w'=>e=.returned (.tuple #[.string (cutT t s),.bool (pfB t s)])∧Kept w w':=by
 have HH:=Qh (fun w=>cutlite_is t s w);generalize cutT t s=c at *;generalize pfB t s=b at *;go_enter Tryz.func45,Tryz.ntmps45;go_wp2_with fail
 refine (HH.out _).mono ?_;rintro e w1 ⟨rfl,k1⟩;go_wp2;go_ret2;exact ⟨rfl,k1⟩
def readQ (p:Ps) (t:ByteArray) (m:Mv):Bool:=decide (t=shB p m (legL p)∨t=ntB p m)
def rdM (p:Ps) (t:ByteArray):Option Mv:=(legL p).find? (readQ p t)
def rdE (p:Ps) (t:ByteArray):Int:=if (rdM p t).isSome then 0 else 4
def RetME (w:World) (m:Mv) (x:Int) (e:Ending) (w':World):Prop:=e=.returned (.tuple #[.agg (ml m).toArray,.int .i64 x])∧Kept w w'
theorem find_no {L:List Mv} {P:Mv→Bool} {k:Nat} {x:Mv} (h:(L.take k).find? P=none) (hx:L[k]?=some x) (hp:P x=false):(L.take (k+1)).find? P=none:=by
 rw [take_one hx,List.find?_append,h];simp [hp]
theorem find_yes {L:List Mv} {P:Mv→Bool} {k:Nat} {x:Mv} (h:(L.take k).find? P=none) (hx:L[k]?=some x) (hp:P x=true):L.find? P=some x:=by
 obtain ⟨h1,e⟩:=List.getElem?_eq_some_iff.1 hx;rw [← List.take_append_drop k L,List.find?_append,h,List.drop_eq_getElem_cons h1,e];simp [hp]
set_option maxHeartbeats 8000000 in
theorem nread_right (p:Ps) (hB:Brd p.B) (t:ByteArray) (h:pwI p=0) (w:World) (hT:TabG w):Calls Tryz.prog 15 #[.agg (pl p).toArray,.string t] w (RetME w ((rdM p t).getD Zm) (rdE p t)):=by
 have HK1:=Qh (((Kept.refl w).alloc (.cells (pl p).toArray 26)).alloc (.cells (ml Zm).toArray 28));have HP1:=Qh ((PAt.new w hB.1).kept ((Kept.refl _).alloc (.cells (ml Zm).toArray 28)));have HR1:Hid (MAt _ _ Zm):=MAt.new (w.alloc (.cells (pl p).toArray 26)) Zm;have hsz:(w.alloc (.cells (pl p).toArray 26)).heap.size=w.heap.size+1:=by simp
 rw [hsz] at HR1;have HT:=Qh (hT.kept HK1.out);have hpl:Hid (p.B.length=64):=hB.1;have HC:=Qh (fun w h=>Jx p hB w h);have HMv:=Qh (fun r g a b w hT hR=>moves_is r g a b p hB w hT hR);rw [h] at HC;rw [legR_in h] at HMv;have HSh:=Qh (fun x (hx:x ∈ legL p) gl v w hL hT=>short_is p hB x (Yg hB h ((Qai (Qt h).1).1 hx)).2.2 (legL p) (fun n hn=>leg_on hB h hn) (leg_len h) gl v w hL hT);have HAf:=Qh (fun x (hx:x ∈ legL p) w hT=>after_is p hB x (Yg hB h ((Qai (Qt h).1).1 hx)).2.2 (Yg hB h ((Qai (Qt h).1).1 hx)).2.1.1 w hT);have HMk:=Qh (fun x (hx:x ∈ legL p) r g a b w hT hR=>mark_is r g a b (behP p x) (Yg hB h ((Qai (Qt h).1).1 hx)).2.1 (Yg hB h ((Qai (Qt h).1).1 hx)).1 w hT hR);have HV:Hid (rdM p t=(legL p).find? (readQ p t)):=rfl;have HVe:Hid (rdE p t=if (rdM p t).isSome then 0 else 4):=rfl;have HRq:=Qh (fun x=>show readQ p t x=decide (t=shB p x (legL p)∨t=shB p x (legL p)++markB (behP p x)) from rfl);have HCp:=Qh (fun s w=>cutp_is t s w);generalize hL:legL p=L at *;clear hB hT h hsz hL;go_enter Tryz.func15,Tryz.ntmps15;go_wp2_with (first|(with_reducible refine Ql rfl rfl ?_)|(refine Qc (by rfl) _ rfl _ rfl _ HP1.out ?_))
 refine (HC.out _ HT.out.tabm.tabs).mono ?_;rintro e w1 ⟨rfl,k1⟩;have HK2:=Qh (HK1.out.trans k1);have HR2:=Qh (MAt.kept HR1.out k1);have HP2:=Qh (HP1.out.kept k1);have HT2:=Qh (HT.out.kept k1);clear k1;go_wp2_with fail
 refine (rnew_is _).mono ?_;rintro e w2 ⟨r,g,a,b,rfl,hR,k1⟩;have HK3:=Qh (HK2.out.trans k1);have HR3:=Qh (MAt.kept HR2.out k1);have HP3:=Qh (HP2.out.kept k1);have HT3:=Qh (HT2.out.kept k1);have HRu3:=Qh hR;clear k1 hR;go_wp2_with (refine Qc (by rfl) _ rfl _ rfl _ HP3.out ?_)
 refine (HMv.out r g a b _ HT3.out HRu3.out).mono ?_;rintro e X ⟨v1,gl,rfl,hls,k1⟩;obtain ⟨a8,c8,rfl⟩:=hls.slice;have HLs:=Qh hls;have HKX:=Qh (HK3.out.trans k1);have HRX:=Qh (MAt.kept HR3.out k1);have HPX:=Qh (HP3.out.kept k1);have HTX:=Qh (HT3.out.kept k1);have HRuX:=Qh (HRu3.out.kept k1);generalize hn:L.length=n at *;have HN:=Qh hn;clear k1 hls hn;go_wp2
 go_loopw [25] (fun t25 wr=>∃ k:Nat,k≤n∧t25=.int .i64 k∧(L.take k).find? (readQ p t)=none∧Kept X wr) (fun t25 _=>n-(intOf t25).toNat)
 case atStart=>exact ⟨0,Nat.zero_le _,rfl,rfl,Kept.refl _⟩
 case round =>
  obtain ⟨k,hk,rfl,hno,hK⟩:=hrel;have HK:=Qh hK;have HNo:=Qh hno;clear hno;by_cases hlt:k<n
  ·have hlt':(k:Int)<(n:Int):=by omega
   obtain ⟨x,hx⟩:∃ x,L[k]?=some x:=⟨_,List.getElem?_eq_getElem (by have:=HN.out;omega)⟩;have hmx:=List.mem_of_getElem? hx;obtain ⟨off,cap,he,hc1,hc2,h3⟩:=HLs.out.full (by have:=HN.out;omega);rw [HN.out] at he;injection he with he1 he2 he3
   subst he1 he3;rw [HN.out] at hc1;unfold maxLen at hc2;have HX:=Qh hx;have HRx:=Qh (range_i (Yf h3 hK) hx);have KB0:=Qh ((Kept.refl wr).alloc (.cells (ml x).toArray 28));have HMb:=Qh (MAt.new wr x);have HRn:=Qh (RAt.range HMb.out);have HKb:=Qh (hK.trans KB0.out);have HPb:=Qh (HPX.out.kept HKb.out);have HTb:=Qh (HTX.out.kept HKb.out);have HRub:=Qh (HRuX.out.kept HKb.out);have HRb:=Qh (MAt.kept HRX.out HKb.out);have HLb:=Qh (HLs.out.kept HKb.out);have HShx:=Qh (HSh.out x hmx);have HAfx:=Qh (HAf.out x hmx);have HMkx:=Qh (HMk.out x hmx);have HRqx:=Qh (HRq.out x);clear h3 hx hK hmx;generalize shB p x L=S at *;generalize markB (behP p x)=M at *;generalize hq:behP p x=q at *;have hpf:=Qh (fun y=>pf_app S y);have hpe:=Qh (fun q=>pf_eq (t:=t) (s:=S) q);have HCps:=Qh (fun w=>HCp.out S w);have hct:pfB t S=true→cutT t S=t.extract S.size t.size:=fun q=>by unfold cutT;rw [if_pos q]
   have Hct:=Qh hct;clear hq hct;go_wp2_with (first|((with_reducible refine Qn rfl _ rfl gl (off+k*3) ?_ x HRx.out ?_);exact rfl)|(with_reducible refine Ql rfl rfl ?_)|((with_reducible refine Qg rfl _ _ rfl Zm x ?_ ?_ ?_);exact rfl;exact rfl)|((with_reducible refine Qn rfl _ rfl wr.heap.size 0 ?_ x HRn.out ?_);exact rfl)|(refine Qc (by rfl) _ rfl _ rfl _ HPb.out ?_))
   refine (HShx.out _ _ _ HLb.out HTb.out.tabm).mono ?_;rintro e w4 ⟨rfl,k4⟩;have HK4:=Qh (HKb.out.trans k4);have HP4:=Qh (HPb.out.kept k4);have HT4:=Qh (HTb.out.kept k4);have HRu4:=Qh (HRub.out.kept k4);have HR4:=Qh (MAt.kept HRb.out k4);have HM4:=Qh (MAt.kept HMb.out k4);clear k4;go_wp2_with fail
   refine (HCps.out _).mono ?_;rintro e w5 ⟨rfl,k5⟩;have HK5:=Qh (HK4.out.trans k5);have HP5:=Qh (HP4.out.kept k5);have HT5:=Qh (HT4.out.kept k5);have HRu5:=Qh (HRu4.out.kept k5);have HR5:=Qh (MAt.kept HR4.out k5);have HM5:=Qh (MAt.kept HM4.out k5);clear k5
   cases hb:pfB t S
   ·have HY:=Qh (find_no HNo.out HX.out (show readQ p t x=false by
     rw [HRqx.out];refine decide_eq_false (fun q=>?_);rcases q with q|q
     ·have h1:pfB t S=true:=by
       have h2:=(hpf.out ⟨#[]⟩).1;rw [app_nil'] at h2;rw [q];exact h2
      rw [hb] at h1;cases h1
     ·have h1:pfB t S=true:=by
       rw [q];exact (hpf.out M).1
      rw [hb] at h1;cases h1))
    generalize cutT t S=c at *;clear hb;go_wp2;go_roundw
    case rel=>exact ⟨k+1,by omega,by go_num,HY.out,HK5.out⟩
    case measure=>simp [intOf];omega
   ·by_cases hc:cutT t S=⟨#[]⟩
    ·have HY:=Qh (find_yes HNo.out HX.out (show readQ p t x=true by
      rw [HRqx.out];refine decide_eq_true (.inl ?_);have:=hpe.out hb;rw [← Hct.out hb,hc,app_nil'] at this;exact this))
     rw [hc];clear hb hc;have hz:((⟨#[]⟩:ByteArray).toList == [])=true:=by simp
     have hz2:((⟨#[]⟩:ByteArray).toList == (⟨#[]⟩:ByteArray).toList)=true:=by simp
     go_wp2_with (first|(refine Qe (by rfl) _ rfl _ rfl _ HM5.out ?_)|(refine wpList_store_mv rfl _ _ rfl (w.heap.size+1) Zm x HR5.out rfl rfl ?_))
     refine bodyPost_ret (v:=.tuple #[.agg (ml x).toArray,.int .i64 0]) ?_ rfl ⟨by rw [HVe.out,HV.out,HY.out];rfl,(HKX.out.trans HK5.out).setRow (by omega) _⟩;exact (results_mv_tmp (s:=4) (t:=5) rfl _ rfl (MAt.row HR5.out x)).trans rfl
    ·have hz:=slash_nil' hc
     have HRest:=Qh (hpe.out hb);have Hc1:=Qh (Hct.out hb)
     have HM1:Hid (cutT t S=M→readQ p t x=true):=fun q=>by
      rw [HRqx.out];refine decide_eq_true (.inr ?_);have:=HRest.out;rw [← Hc1.out,q] at this;exact this
     have HM2:Hid (cutT t S≠M→readQ p t x=false):=fun q=>by
      rw [HRqx.out];refine decide_eq_false (fun u=>?_);rcases u with u|u
      ·apply hc
       rw [Hc1.out,u];have:=(hpf.out ⟨#[]⟩).2;rw [app_nil'] at this;exact this
      ·apply q
       rw [Hc1.out,u];exact (hpf.out M).2
     clear hb hc;generalize cutT t S=c at *;go_wp2_with (first|(refine Qe (by rfl) _ rfl _ rfl _ HM5.out ?_)|(refine Qc (by rfl) _ rfl _ rfl _ HP5.out ?_))
     refine (HAfx.out _ HT5.out.tabm).mono ?_;rintro e w6 ⟨rfl,k6⟩;have HK6:=Qh (HK5.out.trans k6);have HT6:=Qh (HT5.out.kept k6);have HRu6:=Qh (HRu5.out.kept k6);have HR6:=Qh (MAt.kept HR5.out k6);have HM6:=Qh (MAt.kept HM5.out k6);clear k6;go_wp2_with fail
     refine (HMkx.out r g a b _ HT6.out HRu6.out).mono ?_;rintro e w7 ⟨rfl,k7⟩;have HK7:=Qh (HK6.out.trans k7);have HR7:=Qh (MAt.kept HR6.out k7);have HM7:=Qh (MAt.kept HM6.out k7);clear k7;by_cases hm:c=M
     ·have HY:=Qh (find_yes HNo.out HX.out (HM1.out hm))
      have hz3:(c.toList == M.toList)=true:=by rw [hm];simp
      clear hm;go_wp2_with (first|(refine Qe (by rfl) _ rfl _ rfl _ HM7.out ?_)|(refine wpList_store_mv rfl _ _ rfl (w.heap.size+1) Zm x HR7.out rfl rfl ?_))
      refine bodyPost_ret (v:=.tuple #[.agg (ml x).toArray,.int .i64 0]) ?_ rfl ⟨by rw [HVe.out,HV.out,HY.out];rfl,(HKX.out.trans HK7.out).setRow (by omega) _⟩;exact (results_mv_tmp (s:=4) (t:=5) rfl _ rfl (MAt.row HR7.out x)).trans rfl
     ·have HY:=Qh (find_no HNo.out HX.out (HM2.out hm))
      have hz3:=str_eq_false hm;clear hm;go_wp2;go_roundw
      case rel=>exact ⟨k+1,by omega,by go_num,HY.out,HK7.out⟩
      case measure=>simp [intOf];omega
  ·clear hK
   obtain rfl:k=n:=by omega
   have HY:Hid (L.find? (readQ p t)=none):=by have:=HNo.out;rw [← HN.out,List.take_length] at this;exact this
   have HRe:=Qh (MAt.kept HRX.out HK.out);go_wp2_with (first|(refine Qat (by rfl) rfl ?_)|(refine wpList_store_mv rfl _ _ rfl (w.heap.size+1) Zm Zm HRe.out rfl rfl ?_))
   refine bodyPost_ret (v:=.tuple #[.agg (ml Zm).toArray,.int .i64 4]) ?_ rfl ⟨by rw [HVe.out,HV.out,HY.out];rfl,(HKX.out.trans HK.out).setRow (by omega) _⟩;exact (results_mv_tmp (s:=4) (t:=5) rfl _ rfl (MAt.row HRe.out Zm)).trans rfl
end Go.Proofs.YtlpeiolgcaddjaaGreatDoor
