/- NoM · NoS · NoJ: my texts, in their order. -/
import Derived.Test.YtlpeiolgcaddjaaGreatDoorPkA
import Derived.Test.YtlpeiolgcaddjaaGreatDoorPkB
import Derived.Test.YtlpeiolgcaddjaaGreatDoorPkC
import Derived.Test.YtlpeiolgcaddjaaGreatDoorPkD
import Derived.Test.YtlpeiolgcaddjaaGreatDoorPkE
import Derived.Test.YtlpeiolgcaddjaaGreatDoorPkF
import Derived.Test.YtlpeiolgcaddjaaGreatDoorPkH
import Derived.Test.YtlpeiolgcaddjaaGreatDoorPkI
import Derived.Test.YtlpeiolgcaddjaaGreatDoorPkJ
import Derived.Test.YtlpeiolgcaddjaaGreatDoorPkK
import Derived.Test.YtlpeiolgcaddjaaGreatDoorPkL
import Derived.Test.YtlpeiolgcaddjaaGreatDoorPkM
import Derived.Test.YtlpeiolgcaddjaaGreatDoorPkN
import Derived.Test.YtlpeiolgcaddjaaGreatDoorPkO
import Derived.Test.YtlpeiolgcaddjaaGreatDoorPkP
import Derived.Test.YtlpeiolgcaddjaaGreatDoorPkQ
import Derived.Test.YtlpeiolgcaddjaaGreatDoorPkR
import Derived.Test.YtlpeiolgcaddjaaGreatDoorPkU
import Derived.Test.YtlpeiolgcaddjaaGreatDoorPkGa
import Derived.Test.YtlpeiolgcaddjaaGreatDoorPkGb
import Derived.Test.YtlpeiolgcaddjaaGreatDoorPkY
import Derived.Test.YtlpeiolgcaddjaaGreatDoorPkGc
import Derived.Test.YtlpeiolgcaddjaaGreatDoorPkGd
import Derived.Test.YtlpeiolgcaddjaaGreatDoorPkGe
import Derived.Test.YtlpeiolgcaddjaaGreatDoorPkGf
import Derived.Test.YtlpeiolgcaddjaaGreatDoorPkGg
import Derived.Test.YtlpeiolgcaddjaaGreatDoorPkGj
import Derived.Test.YtlpeiolgcaddjaaGreatDoorPkGh
import Derived.Test.YtlpeiolgcaddjaaGreatDoorPkLa
import Derived.Test.YtlpeiolgcaddjaaGreatDoorPkLd
import Derived.Test.YtlpeiolgcaddjaaGreatDoorPkLf
import Derived.Test.YtlpeiolgcaddjaaGreatDoorPkLj
import Derived.Test.YtlpeiolgcaddjaaGreatDoorPkLe
import Derived.Test.YtlpeiolgcaddjaaGreatDoorPkLg
import Derived.Test.YtlpeiolgcaddjaaGreatDoorPkLh
import Derived.Test.YtlpeiolgcaddjaaGreatDoorPkLi
import Derived.Test.YtlpeiolgcaddjaaGreatDoorPkV
import Derived.Test.YtlpeiolgcaddjaaGreatDoorPkNa
import Derived.Test.YtlpeiolgcaddjaaGreatDoorPkNb
import Derived.Test.YtlpeiolgcaddjaaGreatDoorPkNc
import Derived.Test.YtlpeiolgcaddjaaGreatDoorPkNd
import Derived.Test.YtlpeiolgcaddjaaGreatDoorPkNf
import Derived.Test.YtlpeiolgcaddjaaGreatDoorPkNi
import Derived.Test.YtlpeiolgcaddjaaGreatDoorPkXRLB0
import Derived.Test.YtlpeiolgcaddjaaGreatDoorPkXRBo0
import Derived.Test.YtlpeiolgcaddjaaGreatDoorPkXBo0
import Derived.Test.YtlpeiolgcaddjaaGreatDoorPkXRB0
import Derived.Test.YtlpeiolgcaddjaaGreatDoorPkXB0
import Derived.Maps.OwnOps
import Derived.Maps.Views
import Derived.StringKeys
import Derived.Laws.Strings
import Derived.Carry
namespace Go.Proofs.YtlpeiolgcaddjaaGreatDoor
open Go.RowKit
set_option linter.unusedVariables false
set_option linter.unusedSimpArgs false
set_option maxRecDepth 100000

open Go.Maps
theorem law_str:Keyed Tryz.prog 9:=string_keyed Tryz.underlying9
def MapIs (w:World) (b n:Nat) (P:List UInt8→Prop):Prop:=∃ D:DataW Unit,w.ownsMap Tryz.prog 9 (plainElem (H:=Unit) Tryz.prog 4) b n D∧∀ s,has D (.string s)=true→P s
theorem MapIs.made (w:World) (P:List UInt8→Prop):MapIs (w.alloc (.map #[] 0)) w.heap.size 0 P:=⟨_,World.ownsMap_made _ _ _ _,fun s h=>by cases h⟩
theorem MapIs.kept {w w':World} {b n:Nat} {P:List UInt8→Prop} (h:MapIs w b n P) (k:Kept w w'):MapIs w' b n P:=by
 obtain ⟨D,⟨es,clock,hb,r⟩,h2⟩:=h;exact ⟨D,⟨es,clock,k.heap hb,r⟩,h2⟩
theorem key_str (s:ByteArray) (h:s.size≤maxLen):keyOf Tryz.prog 9 (.string s)=some (.string s.data.toList):=Go.WideMaps.keyOf_string_mk Tryz.underlying9 h
theorem zero_bool (w:World):(zeroValue 4).run Tryz.prog w=.ok (.bool false) w:=by kernel_rfl
theorem MapIs.look {w:World} {b n:Nat} {P:List UInt8→Prop} (h:MapIs w b n P) (s:ByteArray) (hs:s.size≤maxLen) (hn:¬ P s.data.toList) :
  (Instr.lookup 41 (.map (some b)) (.string s) false).run Tryz.prog w=.ok (.bool false) w:=by
 obtain ⟨D,ho,h2⟩:=h;obtain ⟨v,ps,hr,hv⟩:=ho.lookup law_str Tryz.underlying41 (zero_bool w) (plainElem_bool Tryz.underlying4 false) (key_str s hs)
 have hh:has D (.string s.data.toList)=false:=by
  cases hq:has D (.string s.data.toList)
  ·rfl
  ·exact absurd (h2 _ hq) hn
 rw [atKey_of_not_has hh] at hv;rw [hr];unfold plainElem at hv;rw [Tryz.underlying4] at hv
 cases v <;> simp at hv
 rw [hv.1]
theorem wpList_put_map {ops:Array Oper} {rest:List Oper} {o:Oper} {a:Act} {w:World} {Q:Exit→Act→World→Prop} (hg:o.guard=none) (x y z:Operand) (hop:o.op=Op.mapUpdate 41 x y z)
  (b n:Nat) (P:List UInt8→Prop) (s:ByteArray) (hm:a.eval x=.map (some b)) (hk:a.eval y=.string s) (hz:a.eval z=.bool true) (hM:MapIs w b n P) (hn:n≤100000) (hs:s.size≤maxLen)
  (h:∀ w',MapIs w' b (n+1) (fun t=>t=s.data.toList∨P t)→w.grownBy w' (some b)→wpList Tryz.prog ops Q rest (a.put o.dst undef) w'):wpList Tryz.prog ops Q (o::rest) a w:=by
 obtain ⟨D,ho,h2⟩:=hM;refine wpList_mapUpdate_own w hg x y z 41 hop 9 4 law_str Tryz.underlying41 (plainElem (H:=Unit) Tryz.prog 4) b n D hm ho (by unfold maxLen;omega) (.string s) (.bool true) _ hk hz (key_str s hs) _ [] (plainElem_bool Tryz.underlying4 true) ?_;intro w' ho' hg';refine h w' ⟨_,ho',fun t ht=>?_⟩ hg';by_cases e:t=s.data.toList
 ·exact .inl e
 ·rw [has_put_other (fun q=>e (by injection q))] at ht
  exact .inr (h2 t ht)
theorem KB.grown {W w w':World} {b:Nat} (h:KB W b w) (hg:w.grownBy w' (some b)):KB W b w' :=
 ⟨hg.os.trans h.os,hg.output.trans h.output,Nat.le_trans h.size hg.size,fun k hk hne=>(hg.block k (Nat.lt_of_lt_of_le hk h.size) (fun e=>hne (by injection e))).trans (h.block k hk hne)⟩
theorem run_idx (s:ByteArray) (n:Int) (i:Nat) (hn:n=i) (c:UInt8) (hc:s.data.toList[i]?=some c) (w:World) :
  (Instr.index 9 (.string s) (.int .i64 n)).run Tryz.prog w=.ok (.int .u8 (c.toNat:Nat)) w:=by
 subst hn;obtain ⟨⟨l⟩⟩:=s;obtain ⟨h1,h2⟩:=List.getElem?_eq_some_iff.1 hc;have h1':i<(ByteArray.mk ⟨l⟩).size:=h1;rw [run_index_string (h:=Tryz.underlying9),dif_pos ⟨by omega,by omega⟩];have e:(ByteArray.mk ⟨l⟩)[((i:Nat):Int).toNat]'(by omega)=c:=h2;rw [e]
theorem wp_new_mv {o:Oper} {a:Act} {w:World} {K:Act→World→Prop} {Q:Exit→Act→World→Prop} (ho:o.op=.alloc 28)
  (h:K (a.put o.dst (.pointer (some ⟨w.heap.size,0,none⟩))) (w.alloc (.cells (ml Zm).toArray 28))):o.wp Tryz.prog a w K Q:=by
 unfold Oper.wp execOp;simp only [ho,Instr.alloc,Sem.run_bind,run_zero_mv,Result.andThen_ok,newVar,newRow,Value.cells];exact h
theorem range_kbQ {W w:World} {gp g off:Nat} {l:List Value} (h:W.rangeAt g off l) (hk:KB W gp w) (hne:g≠gp):w.rangeAt g off l:=fun i x hx=>hk.cell (a:=⟨g,off+i,none⟩) hne (h i x hx)
theorem allN_sortedQ (p:Ps) (n:Nat):(allN p n).Pairwise fun a b=>lessB a b=true:=by
 unfold allN;rw [List.pairwise_flatMap];refine ⟨fun f _=>fromN_sorted p f,List.pairwise_lt_range.imp fun {a b} hab x hx y hy=>?_⟩;have x1:=(mem_fromN.1 hx).1;have y1:=(mem_fromN.1 hy).1;exact (Qaj _ _).2 (.inl (by omega))
theorem legL_nodup (p:Ps):(legL p).Nodup:=sorted_nodup ((allN_sortedQ p 64).filter (stayB p))
theorem leg_fm {p:Ps} (hB:Brd p.B) (hr:pwI p=0) {x:Mv} (hx:x ∈ legL p):∃ f t,Fm p x f t:=Yt hB (Yg hB hr ((Qai (Qt hr).1).1 hx)).2.2
theorem sh_two (p:Ps) (m:Mv) (fr sg:ByteArray):2≤(bareB p m fr sg).size:=by
 unfold bareB;split
 ·unfold Js
  split
  ·show 2≤3;omega
  ·show 2≤5;omega
 ·have:=Yw m.t
  simp only [ByteArray.size_append];omega
end Go.Proofs.YtlpeiolgcaddjaaGreatDoor
namespace Go.Proofs.YtlpeiolgcaddjaaGreatDoor
open Go.RowKit
set_option linter.unusedVariables false
set_option linter.unusedSimpArgs false
set_option maxRecDepth 100000

theorem sh_mk {p:Ps} (hB:Brd p.B) (hr:pwI p=0) {x:Mv} (hx:x ∈ legL p):∀ b,b ∈ (shB p x (legL p)).data.toList→mkQ b=false:=by
 obtain ⟨f,t,F⟩:=leg_fm hB hr hx;exact bare_mk F _ _ (apart_a F _) (by intro b hb;simp at hb)
theorem mk_nil:∀ b,b ∈ (⟨#[]⟩:ByteArray).data.toList→mkQ b=true:=fun b hb=>by simp at hb
theorem rd_of {p:Ps} (hB:Brd p.B) (hr:pwI p=0) {x:Mv} (hx:x ∈ legL p) {s:ByteArray} (hs:s=shB p x (legL p)∨s=ntB p x):rdM p s=some x:=by
 unfold rdM;have hxq:readQ p s x=true:=decide_eq_true hs
 cases hf:(legL p).find? (readQ p s) with
 | none=>have:=List.find?_eq_none.1 hf x hx;exact absurd hxq this
 | some y =>
  have hy:=List.mem_of_find?_eq_some hf;have hq:s=shB p y (legL p)∨s=ntB p y:=by have:=List.find?_some hf;exact of_decide_eq_true this
  congr 1
  refine (short_inj hB hr ((Qai (Qt hr).1).1 hx) ((Qai (Qt hr).1).1 hy) ?_).symm
  have e:∃ M N:ByteArray,(∀ b,b ∈ M.data.toList→mkQ b=true)∧(∀ b,b ∈ N.data.toList→mkQ b=true)∧shB p x (legL p)++M=shB p y (legL p)++N:=by
   rcases hs with a|a <;> rcases hq with b|b
   ·exact ⟨⟨#[]⟩,⟨#[]⟩,mk_nil,mk_nil,by rw [app_nil',app_nil',← a,b]⟩
   ·exact ⟨⟨#[]⟩,_,mk_nil,mark_mk _,by rw [app_nil',← a,b];rfl⟩
   ·exact ⟨_,⟨#[]⟩,mark_mk (behP p x),mk_nil,by rw [app_nil',← b,a];rfl⟩
   ·exact ⟨_,_,mark_mk (behP p x),mark_mk (behP p y),by show ntB p x=ntB p y;rw [← a,b]⟩
  obtain ⟨M,N,h1,h2,h3⟩:=e;exact strip_mk (sh_mk hB hr hx) (sh_mk hB hr hy) h1 h2 h3
theorem rd_E {p:Ps} {s:ByteArray} {x:Mv} (h:rdM p s=some x):rdE p s=0∧(rdM p s).getD Zm=x:=by unfold rdE;rw [h];exact ⟨rfl,rfl⟩
theorem sh_new {p:Ps} (hB:Brd p.B) (hr:pwI p=0) {k:Nat} {x:Mv} (hx:(legL p)[k]?=some x):¬ ∃ (j:Nat) (y:Mv),j<k∧(legL p)[j]?=some y∧(shB p y (legL p)).data.toList=(shB p x (legL p)).data.toList:=by
 rintro ⟨j,y,hj,hy,e⟩;have:=short_inj hB hr ((Qai (Qt hr).1).1 (List.mem_of_getElem? hy)) ((Qai (Qt hr).1).1 (List.mem_of_getElem? hx)) (bs_ext e);subst this;obtain ⟨h1,e1⟩:=List.getElem?_eq_some_iff.1 hx;obtain ⟨h2,e2⟩:=List.getElem?_eq_some_iff.1 hy;exact (List.pairwise_iff_getElem.1 (legL_nodup p) j k h2 h1 hj) (e2.trans e1.symm)
inductive NoteCut (p:Ps) (x:Mv):Prop
 | plain (N:Nat) (c:UInt8) (h1:(shB p x (legL p)).size=N+1) (h2:ntB p x=shB p x (legL p)) (h3:(shB p x (legL p)).data.toList[N]?=some c) (h4:c≠43∧c≠35) (h5:(shB p x (legL p)).extract 0 (N+1)=shB p x (legL p))
 | mark (N:Nat) (c:UInt8) (h0:1≤N) (h1:(ntB p x).size=N+1) (h3:(ntB p x).data.toList[N]?=some c) (h4:c=43∨c=35) (h5:(ntB p x).extract 0 N=shB p x (legL p))
theorem note_cut {p:Ps} (hB:Brd p.B) (hr:pwI p=0) {x:Mv} (hx:x ∈ legL p):NoteCut p x:=by
 have h2:2≤(shB p x (legL p)).size:=sh_two _ _ _ _;have hmk:=sh_mk hB hr hx;have hM:=mark_one (behP p x);have hnt:ntB p x=shB p x (legL p)++markB (behP p x):=rfl;generalize hS:shB p x (legL p)=S at *;rcases hM with e|e|e
 ·rw [e,app_nil'] at hnt
  obtain ⟨N,hN⟩:∃ N,S.size=N+1:=⟨S.size-1,by omega⟩;have hl:N<S.data.toList.length:=by rw [← size_list];omega
  refine .plain N (S.data.toList[N]) (by rw [hS];exact hN) (by rw [hS];exact hnt) (by rw [hS];exact List.getElem?_eq_getElem hl) ?_ ?_
  ·have:=hmk _ (List.getElem_mem hl)
   unfold mkQ at this;simpa using this
  ·rw [hS]
   refine bs_ext ?_;rw [extract_list,← hN];simp only [List.drop_zero,Nat.sub_zero];exact List.take_of_length_le (Nat.le_refl _)
 ·rw [e] at hnt
  have hc:(S.data.toList++[(35:UInt8)])[S.size]?=some 35:=by rw [size_list,List.getElem?_append_right (Nat.le_refl _),Nat.sub_self];rfl
  refine .mark S.size 35 (by omega) (by rw [hnt,ByteArray.size_append];rfl) (by rw [hnt,Jh];exact hc) (.inr rfl) ?_;rw [hnt,hS];exact (of_decide_eq_true (pf_app S _).1).2
 ·rw [e] at hnt
  have hc:(S.data.toList++[(43:UInt8)])[S.size]?=some 43:=by rw [size_list,List.getElem?_append_right (Nat.le_refl _),Nat.sub_self];rfl
  refine .mark S.size 43 (by omega) (by rw [hnt,ByteArray.size_append];rfl) (by rw [hnt,Jh];exact hc) (.inl rfl) ?_;rw [hnt,hS];exact (of_decide_eq_true (pf_app S _).1).2
end Go.Proofs.YtlpeiolgcaddjaaGreatDoor
namespace Go.Proofs.YtlpeiolgcaddjaaGreatDoor
open Go.RowKit
set_option linter.unusedVariables false
set_option linter.unusedSimpArgs false
set_option maxRecDepth 100000

open Go.Maps
set_option maxHeartbeats 8000000 in
theorem back_wrong (p:Ps) (hB:Brd p.B) (h:pwI p≠0) (w:World) (hT:TabG w) :
  Calls Tryz.prog 5 #[.agg (pl p).toArray] w fun e w'=>e=.returned (.bool true)∧Kept w w':=by
 have HP:=Qh (PAt.new w hB.1);have HK0:=Qh ((Kept.refl w).alloc (.cells (pl p).toArray 26));have HT:=Qh (hT.kept HK0.out);have hpl:Hid (p.B.length=64):=hB.1;have HWr:=Qh (fun w=>Qaz p hB w);have hv:(pwI p != 0)=true:=bne_iff_ne.2 h;generalize pwI p=v at *;clear hB hT h;go_enter Tryz.func5,Tryz.ntmps5;go_wp2_with fail
 refine (Qaq _ HT.out).mono ?_;rintro e w1 ⟨rfl,k1⟩;have HK1:=Qh (HK0.out.trans k1);have HP1:=Qh (HP.out.kept k1);have HT1:=Qh (HT.out.kept k1);clear k1;go_wp2_with (refine Qc (by rfl) _ rfl _ rfl _ HP1.out ?_)
 refine (HWr.out _).mono ?_;rintro e w2 ⟨rfl,k2⟩;have HK2:=Qh (HK1.out.trans k2);have HP2:=Qh (HP1.out.kept k2);have HT2:=Qh (HT1.out.kept k2);clear k2;go_wp2;go_ret;exact ⟨rfl,HK2.out⟩
set_option maxHeartbeats 8000000 in
theorem back_right (p:Ps) (hB:Brd p.B) (h:pwI p=0) (w:World) (hT:TabG w) :
  Calls Tryz.prog 5 #[.agg (pl p).toArray] w fun e w'=>e=.returned (.bool true)∧Kept w w':=by
 have HP:=Qh (PAt.new w hB.1);have HK0:=Qh ((Kept.refl w).alloc (.cells (pl p).toArray 26));have HT:=Qh (hT.kept HK0.out);have hpl:Hid (p.B.length=64):=hB.1;have HWr:=Qh (fun w=>Qaz p hB w);rw [h] at HWr;have HMv:=Qh (fun w=>rmoves_is p hB h w);have HSh:=Qh (fun x (hx:x ∈ legL p) w hT=>nshort_yes p hB x h ((Qai (Qt h).1).1 hx) w hT);have HRd:=Qh (fun s w hT=>nread_right p hB s h w hT);have HR1:=Qh (fun x (hx:x ∈ legL p)=>rd_E (rd_of hB h hx (.inr rfl)));have HR2:=Qh (fun x (hx:x ∈ legL p)=>rd_E (rd_of hB h hx (.inl rfl)));have HCut:=Qh (fun x (hx:x ∈ legL p)=>note_cut hB h hx);have HNew:=Qh (fun (k:Nat) (x:Mv) (hx:(legL p)[k]?=some x)=>sh_new hB h hx);have HSz:=Qh (fun x=>sh_size p x (legL p));have HLl:=Qh (leg_len h);have hmm:=@run_makeMap Tryz.prog;have hT':=Qh hT;clear hB hT h;go_enter Tryz.func5,Tryz.ntmps5;go_wp2_with fail
 refine (Qaq _ HT.out).mono ?_;rintro e w1 ⟨rfl,k1⟩;have HK1:=Qh (HK0.out.trans k1);have HP1:=Qh (HP.out.kept k1);have HT1:=Qh (HT.out.kept k1);clear k1;go_wp2_with (refine Qc (by rfl) _ rfl _ rfl _ HP1.out ?_)
 refine (HWr.out _).mono ?_;rintro e w2 ⟨rfl,k2⟩;have HK2:=Qh (HK1.out.trans k2);have HP2:=Qh (HP1.out.kept k2);have HT2:=Qh (HT1.out.kept k2);clear k2;go_wp2_with (refine Qc (by rfl) _ rfl _ rfl _ (HP2.out.kept ((Kept.refl _).alloc (.map #[] 0))) ?_)
 have HM0:Hid (MapIs (w2.alloc (.map #[] 0)) w2.heap.size 0 (fun s=>∃ (j:Nat) (y:Mv),j<0∧(legL p)[j]?=some y∧(shB p y (legL p)).data.toList=s)):=MapIs.made _ _;have HKM:=Qh (HK2.out.alloc (.map #[] 0));have HPM:=Qh (HP2.out.kept ((Kept.refl _).alloc (.map #[] 0)));have hMs:Hid ((w2.alloc (.map #[] 0)).heap.size=w2.heap.size+1):=by show _=_;simp
 have HPs:Hid (w.heap.size<w2.heap.size):=Yc HP2.out.at_;generalize w2.alloc (.map #[] 0)=WM at *;generalize w2.heap.size=gb at *;refine (HMv.out _).mono ?_;rintro e X ⟨v4,rfl,hown,k4⟩;obtain ⟨gl,hls,hgl⟩:=hown.ls;obtain ⟨a4,c4,rfl⟩:=hown.slice;have HLs:=Qh hls;have HG:=Qh (hown.lst);have HKX:=Qh (HKM.out.trans k4);have HPX:=Qh (HPM.out.kept k4);have HMX:=Qh (HM0.out.kept k4);generalize hn:(legL p).length=n at *;have HN:=Qh hn;clear hown hls hgl hn k4;go_wp2
 go_loopw [22] (fun t22 wr=>∃ k:Nat,k≤n∧t22=.int .i64 k∧MapIs wr gb k (fun s=>∃ (j:Nat) (y:Mv),j<k∧(legL p)[j]?=some y∧(shB p y (legL p)).data.toList=s)∧KB X gb wr) (fun t22 _=>n-(intOf t22).toNat)
 case atStart=>exact ⟨0,Nat.zero_le _,rfl,HMX.out,KB.refl _ _⟩
 case round =>
  obtain ⟨k,hk,rfl,hM,hKB⟩:=hrel;have HM:=Qh hM;have HKB:=Qh hKB;have HKr:=Qh (hKB.below HKX.out (Nat.le_of_lt HPs.out));clear hM;by_cases hlt:k<n
  ·have hlt':(k:Int)<(n:Int):=by omega
   obtain ⟨x,hx⟩:∃ x,(legL p)[k]?=some x:=⟨_,List.getElem?_eq_getElem (by have:=HN.out;omega)⟩;have hmx:=List.mem_of_getElem? hx;obtain ⟨gl,hbl,hls,_⟩:=HG.out;obtain ⟨off,cap,he,hc1,hc2,h3⟩:=hls.full (by have:=HN.out;omega);rw [HN.out] at he;injection he with he1 he2 he3
   subst he1 he3;rw [HN.out] at hc1;unfold maxLen at hc2;have hgn:gl≠gb:=by have:=hMs.out;omega
   have HX:=Qh hx;have HRx:=Qh (range_i (range_kbQ h3 hKB hgn) hx);have KB0:=Qh ((Kept.refl wr).alloc (.cells (ml x).toArray 28));have HMb:=Qh (MAt.new wr x);have HRn:=Qh (RAt.range HMb.out);have HPb:=Qh ((HPX.out.kb hKB (by have:=HPs.out;omega)).kept KB0.out);have HTb:=Qh (hT'.out.kept (HKr.out.trans KB0.out));have HBb:=Qh (HKB.out.kept KB0.out);have HMapb:=Qh (HM.out.kept KB0.out);have HShx:=Qh (HSh.out x hmx);have HNw:=Qh (HNew.out k x hx);have HSx:=Qh (HSz.out x);have hrd1:=HR1.out x hmx;have hrd2:=HR2.out x hmx;have HRd1:=Qh (fun w hT=>HRd.out (ntB p x) w hT);have HRd2:=Qh (fun w hT=>HRd.out (shB p x (legL p)) w hT);rw [hrd1.1,hrd1.2] at HRd1;rw [hrd2.1,hrd2.2] at HRd2;have hcut:=HCut.out x hmx;have hz1:(!beqM x x)=false:=by rw [beqM_refl];rfl
   clear hx hKB hmx h3 hrd1 hrd2 hbl hls
   cases hcut with
   | plain N c h1 h2 h3 h4 h5 =>
    rw [h2] at HShx HRd1;generalize hSS:shB p x (legL p)=S at *;have HSS:=Qh hSS;clear hSS;have hp0:¬ ((N:Int)+1<0):=by omega
    have hp1:0≤(N:Int)+1:=by omega
    have Hcut:=Qh h5;have HSx2:=HSx.out;have hN:N≤8:=by omega
    have hix:=run_idx S (N:Int) N rfl c h3;have hb1:(((c.toNat:Nat):Int) == 43)=false:=beq_eq_false_iff_ne.2 (fun e=>h4.1 (UInt8.toNat_inj.1 (by have:(43:UInt8).toNat=43:=rfl;omega)));have hb2:(((c.toNat:Nat):Int) == 35)=false:=beq_eq_false_iff_ne.2 (fun e=>h4.2 (UInt8.toNat_inj.1 (by have:(35:UInt8).toNat=35:=rfl;omega)));clear h2 h3 h4 h5;go_wp2_with (first|((with_reducible refine Qn rfl _ rfl gl (off+k*3) ?_ x HRx.out ?_);exact rfl)|(with_reducible refine Ql rfl rfl ?_)|((with_reducible refine Qg rfl _ _ rfl Zm x ?_ ?_ ?_);exact rfl;exact rfl)|((with_reducible refine Qn rfl _ rfl wr.heap.size 0 ?_ x HRn.out ?_);exact rfl)|(refine Qc (by rfl) _ rfl _ rfl _ HPb.out ?_))
    refine (HShx.out _ HTb.out).mono ?_;rintro e w5 ⟨rfl,k5⟩;have HP5:=Qh (HPb.out.kept k5);have HT5:=Qh (HTb.out.kept k5);have HB5:=Qh (HBb.out.kept k5);have HMap5:=Qh (HMapb.out.kept k5);have HM5:=Qh (MAt.kept HMb.out k5);clear k5;go_wp2_with (refine Qc (by rfl) _ rfl _ rfl _ HP5.out ?_)
    refine (HRd1.out _ HT5.out).mono ?_;rintro e w6 ⟨rfl,k6⟩;have KA:=Qh (k6.alloc (.cells (ml x).toArray 28));have HP6:=Qh (HP5.out.kept KA.out);have HT6:=Qh (HT5.out.kept KA.out);have HB6:=Qh (HB5.out.kept KA.out);have HMap6:=Qh (HMap5.out.kept KA.out);have HM6:=Qh (MAt.kept HM5.out KA.out);have HN6:=Qh (MAt.new w6 x);clear k6 KA;go_wp2_with (first|(with_reducible refine Ql rfl rfl ?_)|((with_reducible refine Qg rfl _ _ rfl Zm x ?_ ?_ ?_);exact rfl;exact rfl))
    clear hix hb1 hb2;generalize w6.alloc (.cells (ml x).toArray 28)=W6 at *;generalize w6.heap.size=gx at *;refine wp_region_held_drew (S:=Kept _) (by kernel_rfl) (Kept.refl _).drew (fun Qj=>?_);refine rY 0 59 rfl rfl (Qk (by rfl) _ rfl _ rfl p hpl.out (fun _ h=>(HP6.out).kept h)) Qj ?_;simp only [Act.put,sA,sZ,sU];refine rT 1 60 (.string S) rfl rfl Qj ?_;simp only [pA,pN,sZ,sU];refine rT 2 61 (.int .i64 ((N:Int)+1)) rfl rfl Qj ?_;simp only [pA,pN,sZ,sU];refine rT 3 62 (.string (S.extract 0 (N+1))) rfl rfl Qj ?_;simp only [pA,pN,sZ,sU];rw [Hcut.out];generalize W6.drew=WD at *;refine wpAnyH_ready (rs:=[4,8]) (by kernel_rfl) (by simp) ?_;refine AllReadyH.cons rfl (fun K hK=>?_) (AllReadyH.cons rfl (fun K hK=>?_) AllReadyH.nil)
    ·skip
     go_simp;refine (HRd2.out _ (HT6.out.kept Qj)).mono ?_;rintro e x1 ⟨rfl,gx1⟩;refine hK.out _ _ (Qj.trans gx1) (fun _=>?_);replace Qj:=Qj.trans gx1;clear hK K;clear gx1;refine rT 5 58 (.tuple #[.agg (ml x).toArray,.int .i64 0]) rfl rfl Qj ?_;simp only [pA,pN,sZ,sU];refine rT 6 64 (.agg (ml x).toArray) rfl rfl Qj ?_;simp only [pA,pN,sZ,sU];refine rT 7 65 (.int .i64 0) rfl rfl Qj ?_;simp only [pA,pN,sZ,sU];refine rR 8 rfl (fun K hK=>?_);rw [if_pos (by rfl)];refine wp_new_mv rfl ?_;have HNy:=Qh (MAt.new x1 Zm);have HYs:Hid (W6.heap.size≤x1.heap.size):=Qj.size;refine hK.out _ _ (Qj.alloc _) (fun _=>?_);replace Qj:=Qj.alloc (.cells (ml Zm).toArray 28);clear hK K;simp only [Act.put,sA,sZ,sU];generalize x1.alloc (.cells (ml Zm).toArray 28)=WY at *;generalize x1.heap.size=gy at *;refine rR 9 rfl (fun K hK=>?_);rw [if_pos (by rfl)];refine wp_store_row 28 _ _ rfl gy (ml x).toArray rfl rfl 28 _ HNy.out.at_ (ml_size x) rfl (ml_one _) ?_;have HY8:=Qh (MAt.row HNy.out x);refine hK.out _ _ (Qj.setRow HYs.out _) (fun _=>?_);replace Qj:=Qj.setRow HYs.out (ml x).toArray;clear hK K HNy;generalize WY.setRow gy (ml x).toArray=w8 at *;refine rT 10 12 (.int .i64 0) rfl rfl Qj ?_;simp only [Act.put,sA,sZ,sU];refine wpAnyH_done (by kernel_rfl) ?_ _;have HK8:=Qh (HB6.out.kept Qj);have HN8:=Qh (MAt.kept HN6.out Qj);have HM8:=Qh (MAt.kept HM6.out Qj);have HMap8:=Qh (HMap6.out.kept Qj);clear Qj;have hlook:=HMap8.out.look (S.extract 0 (N+1)) (by rw [Hcut.out];have:=HSx.out;unfold maxLen;omega) (by rw [Hcut.out];exact HNw.out);go_wp2_with (first|(refine Qe (by rfl) _ rfl _ rfl _ HN8.out ?_)|(refine Qe (by rfl) _ rfl _ rfl _ HM8.out ?_)|(refine Qe (by rfl) _ rfl _ rfl _ HY8.out ?_)|(refine wpList_neq_mv (by rfl) _ _ _ rfl _ _ rfl rfl hz1 ?_)|(at_mapUpdate;refine wpList_put_map rfl _ _ _ rfl gb k _ (S.extract 0 (N+1)) rfl rfl rfl HMap8.out (by have:=HLl.out;have:=HN.out;omega) (by rw [Hcut.out];have:=HSx.out;unfold maxLen;omega) ?_;intro w9 hM9 hg9))
     go_roundw
     case rel =>
      refine ⟨k+1,by omega,by go_num,?_,HK8.out.grown hg9⟩;obtain ⟨D,ho,h2⟩:=hM9;refine ⟨D,ho,fun s hs=>?_⟩;rcases h2 s hs with q|⟨j,y,h5,h6,h7⟩
      ·exact ⟨k,x,Nat.lt_succ_self _,HX.out,by rw [q,Hcut.out,HSS.out]⟩
      ·exact ⟨j,y,by omega,h6,h7⟩
     case measure=>simp [intOf];omega
    ·skip
     rw [if_pos (by rfl)];refine wp_new_mv rfl ?_;have HNy:=Qh (MAt.new WD Zm);have HYs:Hid (W6.heap.size≤WD.heap.size):=Qj.size;refine hK.out _ _ (Qj.alloc _) (fun _=>?_);replace Qj:=Qj.alloc (.cells (ml Zm).toArray 28);clear hK K;simp only [Act.put,sA,sZ,sU];generalize WD.alloc (.cells (ml Zm).toArray 28)=WY at *;generalize WD.heap.size=gy at *;refine rR 4 rfl (fun K hK=>?_);rw [if_pos (by rfl)];go_simp;refine (HRd2.out _ (HT6.out.kept Qj)).mono ?_;rintro e x1 ⟨rfl,gx1⟩;refine hK.out _ _ (Qj.trans gx1) (fun _=>?_);replace Qj:=Qj.trans gx1;clear hK K;have HNy:=Qh (MAt.kept HNy.out gx1);clear gx1;refine rT 5 58 (.tuple #[.agg (ml x).toArray,.int .i64 0]) rfl rfl Qj ?_;simp only [pA,pN,sZ,sU];refine rT 6 64 (.agg (ml x).toArray) rfl rfl Qj ?_;simp only [pA,pN,sZ,sU];refine rT 7 65 (.int .i64 0) rfl rfl Qj ?_;simp only [pA,pN,sZ,sU];refine rR 9 rfl (fun K hK=>?_);rw [if_pos (by rfl)];refine wp_store_row 28 _ _ rfl gy (ml x).toArray rfl rfl 28 _ HNy.out.at_ (ml_size x) rfl (ml_one _) ?_;have HY8:=Qh (MAt.row HNy.out x);refine hK.out _ _ (Qj.setRow HYs.out _) (fun _=>?_);replace Qj:=Qj.setRow HYs.out (ml x).toArray;clear hK K HNy;generalize WY.setRow gy (ml x).toArray=w8 at *;refine rT 10 12 (.int .i64 0) rfl rfl Qj ?_;simp only [Act.put,sA,sZ,sU];refine wpAnyH_done (by kernel_rfl) ?_ _;have HK8:=Qh (HB6.out.kept Qj);have HN8:=Qh (MAt.kept HN6.out Qj);have HM8:=Qh (MAt.kept HM6.out Qj);have HMap8:=Qh (HMap6.out.kept Qj);clear Qj;have hlook:=HMap8.out.look (S.extract 0 (N+1)) (by rw [Hcut.out];have:=HSx.out;unfold maxLen;omega) (by rw [Hcut.out];exact HNw.out);go_wp2_with (first|(refine Qe (by rfl) _ rfl _ rfl _ HN8.out ?_)|(refine Qe (by rfl) _ rfl _ rfl _ HM8.out ?_)|(refine Qe (by rfl) _ rfl _ rfl _ HY8.out ?_)|(refine wpList_neq_mv (by rfl) _ _ _ rfl _ _ rfl rfl hz1 ?_)|(at_mapUpdate;refine wpList_put_map rfl _ _ _ rfl gb k _ (S.extract 0 (N+1)) rfl rfl rfl HMap8.out (by have:=HLl.out;have:=HN.out;omega) (by rw [Hcut.out];have:=HSx.out;unfold maxLen;omega) ?_;intro w9 hM9 hg9))
     go_roundw
     case rel =>
      refine ⟨k+1,by omega,by go_num,?_,HK8.out.grown hg9⟩;obtain ⟨D,ho,h2⟩:=hM9;refine ⟨D,ho,fun s hs=>?_⟩;rcases h2 s hs with q|⟨j,y,h5,h6,h7⟩
      ·exact ⟨k,x,Nat.lt_succ_self _,HX.out,by rw [q,Hcut.out,HSS.out]⟩
      ·exact ⟨j,y,by omega,h6,h7⟩
     case measure=>simp [intOf];omega
   | mark N c h0 h1 h3 h4 h5 =>
    have HSx2:=HSx.out;have hS2:=congrArg ByteArray.size h5;generalize hSS:shB p x (legL p)=S at *;have HSS:=Qh hSS;clear hSS;have hp0:¬ ((N:Int)<0):=by omega
    have hp1:¬ ((N:Int)+1<(N:Int)):=by omega
    have hn9:=nt_size p x;generalize ntB p x=T at *;have Hcut:=Qh h5;have hN:N≤8:=by omega
    have hix:=run_idx T (N:Int) N rfl c h3;clear hS2 hn9 HSx2;rcases h4 with rfl|rfl
    ·clear h3 h5
     go_wp2_with (first|((with_reducible refine Qn rfl _ rfl gl (off+k*3) ?_ x HRx.out ?_);exact rfl)|(with_reducible refine Ql rfl rfl ?_)|((with_reducible refine Qg rfl _ _ rfl Zm x ?_ ?_ ?_);exact rfl;exact rfl)|((with_reducible refine Qn rfl _ rfl wr.heap.size 0 ?_ x HRn.out ?_);exact rfl)|(refine Qc (by rfl) _ rfl _ rfl _ HPb.out ?_))
     refine (HShx.out _ HTb.out).mono ?_;rintro e w5 ⟨rfl,k5⟩;have HP5:=Qh (HPb.out.kept k5);have HT5:=Qh (HTb.out.kept k5);have HB5:=Qh (HBb.out.kept k5);have HMap5:=Qh (HMapb.out.kept k5);have HM5:=Qh (MAt.kept HMb.out k5);clear k5;go_wp2_with (refine Qc (by rfl) _ rfl _ rfl _ HP5.out ?_)
     refine (HRd1.out _ HT5.out).mono ?_;rintro e w6 ⟨rfl,k6⟩;have KA:=Qh (k6.alloc (.cells (ml x).toArray 28));have HP6:=Qh (HP5.out.kept KA.out);have HT6:=Qh (HT5.out.kept KA.out);have HB6:=Qh (HB5.out.kept KA.out);have HMap6:=Qh (HMap5.out.kept KA.out);have HM6:=Qh (MAt.kept HM5.out KA.out);have HN6:=Qh (MAt.new w6 x);clear k6 KA;go_wp2_with (first|(with_reducible refine Ql rfl rfl ?_)|((with_reducible refine Qg rfl _ _ rfl Zm x ?_ ?_ ?_);exact rfl;exact rfl))
     clear hix;generalize w6.alloc (.cells (ml x).toArray 28)=W6 at *;generalize w6.heap.size=gx at *;refine wp_region_held_drew (S:=Kept _) (by kernel_rfl) (Kept.refl _).drew (fun Qj=>?_);refine rY 0 59 rfl rfl (Qk (by rfl) _ rfl _ rfl p hpl.out (fun _ h=>(HP6.out).kept h)) Qj ?_;simp only [Act.put,sA,sZ,sU];refine rT 1 60 (.string T) rfl rfl Qj ?_;simp only [pA,pN,sZ,sU];refine rT 2 61 (.int .i64 (N:Int)) rfl rfl Qj ?_;simp only [pA,pN,sZ,sU];refine rT 3 62 (.string (T.extract 0 N)) rfl rfl Qj ?_;simp only [pA,pN,sZ,sU];rw [Hcut.out];generalize W6.drew=WD at *;refine wpAnyH_ready (rs:=[4,8]) (by kernel_rfl) (by simp) ?_;refine AllReadyH.cons rfl (fun K hK=>?_) (AllReadyH.cons rfl (fun K hK=>?_) AllReadyH.nil)
     ·skip
      go_simp;refine (HRd2.out _ (HT6.out.kept Qj)).mono ?_;rintro e x1 ⟨rfl,gx1⟩;refine hK.out _ _ (Qj.trans gx1) (fun _=>?_);replace Qj:=Qj.trans gx1;clear hK K;clear gx1;refine rT 5 58 (.tuple #[.agg (ml x).toArray,.int .i64 0]) rfl rfl Qj ?_;simp only [pA,pN,sZ,sU];refine rT 6 64 (.agg (ml x).toArray) rfl rfl Qj ?_;simp only [pA,pN,sZ,sU];refine rT 7 65 (.int .i64 0) rfl rfl Qj ?_;simp only [pA,pN,sZ,sU];refine rR 8 rfl (fun K hK=>?_);rw [if_pos (by rfl)];refine wp_new_mv rfl ?_;have HNy:=Qh (MAt.new x1 Zm);have HYs:Hid (W6.heap.size≤x1.heap.size):=Qj.size;refine hK.out _ _ (Qj.alloc _) (fun _=>?_);replace Qj:=Qj.alloc (.cells (ml Zm).toArray 28);clear hK K;simp only [Act.put,sA,sZ,sU];generalize x1.alloc (.cells (ml Zm).toArray 28)=WY at *;generalize x1.heap.size=gy at *;refine rR 9 rfl (fun K hK=>?_);rw [if_pos (by rfl)];refine wp_store_row 28 _ _ rfl gy (ml x).toArray rfl rfl 28 _ HNy.out.at_ (ml_size x) rfl (ml_one _) ?_;have HY8:=Qh (MAt.row HNy.out x);refine hK.out _ _ (Qj.setRow HYs.out _) (fun _=>?_);replace Qj:=Qj.setRow HYs.out (ml x).toArray;clear hK K HNy;generalize WY.setRow gy (ml x).toArray=w8 at *;refine rT 10 12 (.int .i64 0) rfl rfl Qj ?_;simp only [Act.put,sA,sZ,sU];refine wpAnyH_done (by kernel_rfl) ?_ _;have HK8:=Qh (HB6.out.kept Qj);have HN8:=Qh (MAt.kept HN6.out Qj);have HM8:=Qh (MAt.kept HM6.out Qj);have HMap8:=Qh (HMap6.out.kept Qj);clear Qj;have hlook:=HMap8.out.look (T.extract 0 N) (by rw [Hcut.out];have:=HSx.out;unfold maxLen;omega) (by rw [Hcut.out];exact HNw.out);go_wp2_with (first|(refine Qe (by rfl) _ rfl _ rfl _ HN8.out ?_)|(refine Qe (by rfl) _ rfl _ rfl _ HM8.out ?_)|(refine Qe (by rfl) _ rfl _ rfl _ HY8.out ?_)|(refine wpList_neq_mv (by rfl) _ _ _ rfl _ _ rfl rfl hz1 ?_)|(at_mapUpdate;refine wpList_put_map rfl _ _ _ rfl gb k _ (T.extract 0 N) rfl rfl rfl HMap8.out (by have:=HLl.out;have:=HN.out;omega) (by rw [Hcut.out];have:=HSx.out;unfold maxLen;omega) ?_;intro w9 hM9 hg9))
      go_roundw
      case rel =>
       refine ⟨k+1,by omega,by go_num,?_,HK8.out.grown hg9⟩;obtain ⟨D,ho,h2⟩:=hM9;refine ⟨D,ho,fun s hs=>?_⟩;rcases h2 s hs with q|⟨j,y,h5,h6,h7⟩
       ·exact ⟨k,x,Nat.lt_succ_self _,HX.out,by rw [q,Hcut.out,HSS.out]⟩
       ·exact ⟨j,y,by omega,h6,h7⟩
      case measure=>simp [intOf];omega
     ·skip
      rw [if_pos (by rfl)];refine wp_new_mv rfl ?_;have HNy:=Qh (MAt.new WD Zm);have HYs:Hid (W6.heap.size≤WD.heap.size):=Qj.size;refine hK.out _ _ (Qj.alloc _) (fun _=>?_);replace Qj:=Qj.alloc (.cells (ml Zm).toArray 28);clear hK K;simp only [Act.put,sA,sZ,sU];generalize WD.alloc (.cells (ml Zm).toArray 28)=WY at *;generalize WD.heap.size=gy at *;refine rR 4 rfl (fun K hK=>?_);rw [if_pos (by rfl)];go_simp;refine (HRd2.out _ (HT6.out.kept Qj)).mono ?_;rintro e x1 ⟨rfl,gx1⟩;refine hK.out _ _ (Qj.trans gx1) (fun _=>?_);replace Qj:=Qj.trans gx1;clear hK K;have HNy:=Qh (MAt.kept HNy.out gx1);clear gx1;refine rT 5 58 (.tuple #[.agg (ml x).toArray,.int .i64 0]) rfl rfl Qj ?_;simp only [pA,pN,sZ,sU];refine rT 6 64 (.agg (ml x).toArray) rfl rfl Qj ?_;simp only [pA,pN,sZ,sU];refine rT 7 65 (.int .i64 0) rfl rfl Qj ?_;simp only [pA,pN,sZ,sU];refine rR 9 rfl (fun K hK=>?_);rw [if_pos (by rfl)];refine wp_store_row 28 _ _ rfl gy (ml x).toArray rfl rfl 28 _ HNy.out.at_ (ml_size x) rfl (ml_one _) ?_;have HY8:=Qh (MAt.row HNy.out x);refine hK.out _ _ (Qj.setRow HYs.out _) (fun _=>?_);replace Qj:=Qj.setRow HYs.out (ml x).toArray;clear hK K HNy;generalize WY.setRow gy (ml x).toArray=w8 at *;refine rT 10 12 (.int .i64 0) rfl rfl Qj ?_;simp only [Act.put,sA,sZ,sU];refine wpAnyH_done (by kernel_rfl) ?_ _;have HK8:=Qh (HB6.out.kept Qj);have HN8:=Qh (MAt.kept HN6.out Qj);have HM8:=Qh (MAt.kept HM6.out Qj);have HMap8:=Qh (HMap6.out.kept Qj);clear Qj;have hlook:=HMap8.out.look (T.extract 0 N) (by rw [Hcut.out];have:=HSx.out;unfold maxLen;omega) (by rw [Hcut.out];exact HNw.out);go_wp2_with (first|(refine Qe (by rfl) _ rfl _ rfl _ HN8.out ?_)|(refine Qe (by rfl) _ rfl _ rfl _ HM8.out ?_)|(refine Qe (by rfl) _ rfl _ rfl _ HY8.out ?_)|(refine wpList_neq_mv (by rfl) _ _ _ rfl _ _ rfl rfl hz1 ?_)|(at_mapUpdate;refine wpList_put_map rfl _ _ _ rfl gb k _ (T.extract 0 N) rfl rfl rfl HMap8.out (by have:=HLl.out;have:=HN.out;omega) (by rw [Hcut.out];have:=HSx.out;unfold maxLen;omega) ?_;intro w9 hM9 hg9))
      go_roundw
      case rel =>
       refine ⟨k+1,by omega,by go_num,?_,HK8.out.grown hg9⟩;obtain ⟨D,ho,h2⟩:=hM9;refine ⟨D,ho,fun s hs=>?_⟩;rcases h2 s hs with q|⟨j,y,h5,h6,h7⟩
       ·exact ⟨k,x,Nat.lt_succ_self _,HX.out,by rw [q,Hcut.out,HSS.out]⟩
       ·exact ⟨j,y,by omega,h6,h7⟩
      case measure=>simp [intOf];omega
    ·clear h3 h5
     go_wp2_with (first|((with_reducible refine Qn rfl _ rfl gl (off+k*3) ?_ x HRx.out ?_);exact rfl)|(with_reducible refine Ql rfl rfl ?_)|((with_reducible refine Qg rfl _ _ rfl Zm x ?_ ?_ ?_);exact rfl;exact rfl)|((with_reducible refine Qn rfl _ rfl wr.heap.size 0 ?_ x HRn.out ?_);exact rfl)|(refine Qc (by rfl) _ rfl _ rfl _ HPb.out ?_))
     refine (HShx.out _ HTb.out).mono ?_;rintro e w5 ⟨rfl,k5⟩;have HP5:=Qh (HPb.out.kept k5);have HT5:=Qh (HTb.out.kept k5);have HB5:=Qh (HBb.out.kept k5);have HMap5:=Qh (HMapb.out.kept k5);have HM5:=Qh (MAt.kept HMb.out k5);clear k5;go_wp2_with (refine Qc (by rfl) _ rfl _ rfl _ HP5.out ?_)
     refine (HRd1.out _ HT5.out).mono ?_;rintro e w6 ⟨rfl,k6⟩;have KA:=Qh (k6.alloc (.cells (ml x).toArray 28));have HP6:=Qh (HP5.out.kept KA.out);have HT6:=Qh (HT5.out.kept KA.out);have HB6:=Qh (HB5.out.kept KA.out);have HMap6:=Qh (HMap5.out.kept KA.out);have HM6:=Qh (MAt.kept HM5.out KA.out);have HN6:=Qh (MAt.new w6 x);clear k6 KA;go_wp2_with (first|(with_reducible refine Ql rfl rfl ?_)|((with_reducible refine Qg rfl _ _ rfl Zm x ?_ ?_ ?_);exact rfl;exact rfl))
     clear hix;generalize w6.alloc (.cells (ml x).toArray 28)=W6 at *;generalize w6.heap.size=gx at *;refine wp_region_held_drew (S:=Kept _) (by kernel_rfl) (Kept.refl _).drew (fun Qj=>?_);refine rY 0 59 rfl rfl (Qk (by rfl) _ rfl _ rfl p hpl.out (fun _ h=>(HP6.out).kept h)) Qj ?_;simp only [Act.put,sA,sZ,sU];refine rT 1 60 (.string T) rfl rfl Qj ?_;simp only [pA,pN,sZ,sU];refine rT 2 61 (.int .i64 (N:Int)) rfl rfl Qj ?_;simp only [pA,pN,sZ,sU];refine rT 3 62 (.string (T.extract 0 N)) rfl rfl Qj ?_;simp only [pA,pN,sZ,sU];rw [Hcut.out];generalize W6.drew=WD at *;refine wpAnyH_ready (rs:=[4,8]) (by kernel_rfl) (by simp) ?_;refine AllReadyH.cons rfl (fun K hK=>?_) (AllReadyH.cons rfl (fun K hK=>?_) AllReadyH.nil)
     ·skip
      go_simp;refine (HRd2.out _ (HT6.out.kept Qj)).mono ?_;rintro e x1 ⟨rfl,gx1⟩;refine hK.out _ _ (Qj.trans gx1) (fun _=>?_);replace Qj:=Qj.trans gx1;clear hK K;clear gx1;refine rT 5 58 (.tuple #[.agg (ml x).toArray,.int .i64 0]) rfl rfl Qj ?_;simp only [pA,pN,sZ,sU];refine rT 6 64 (.agg (ml x).toArray) rfl rfl Qj ?_;simp only [pA,pN,sZ,sU];refine rT 7 65 (.int .i64 0) rfl rfl Qj ?_;simp only [pA,pN,sZ,sU];refine rR 8 rfl (fun K hK=>?_);rw [if_pos (by rfl)];refine wp_new_mv rfl ?_;have HNy:=Qh (MAt.new x1 Zm);have HYs:Hid (W6.heap.size≤x1.heap.size):=Qj.size;refine hK.out _ _ (Qj.alloc _) (fun _=>?_);replace Qj:=Qj.alloc (.cells (ml Zm).toArray 28);clear hK K;simp only [Act.put,sA,sZ,sU];generalize x1.alloc (.cells (ml Zm).toArray 28)=WY at *;generalize x1.heap.size=gy at *;refine rR 9 rfl (fun K hK=>?_);rw [if_pos (by rfl)];refine wp_store_row 28 _ _ rfl gy (ml x).toArray rfl rfl 28 _ HNy.out.at_ (ml_size x) rfl (ml_one _) ?_;have HY8:=Qh (MAt.row HNy.out x);refine hK.out _ _ (Qj.setRow HYs.out _) (fun _=>?_);replace Qj:=Qj.setRow HYs.out (ml x).toArray;clear hK K HNy;generalize WY.setRow gy (ml x).toArray=w8 at *;refine rT 10 12 (.int .i64 0) rfl rfl Qj ?_;simp only [Act.put,sA,sZ,sU];refine wpAnyH_done (by kernel_rfl) ?_ _;have HK8:=Qh (HB6.out.kept Qj);have HN8:=Qh (MAt.kept HN6.out Qj);have HM8:=Qh (MAt.kept HM6.out Qj);have HMap8:=Qh (HMap6.out.kept Qj);clear Qj;have hlook:=HMap8.out.look (T.extract 0 N) (by rw [Hcut.out];have:=HSx.out;unfold maxLen;omega) (by rw [Hcut.out];exact HNw.out);go_wp2_with (first|(refine Qe (by rfl) _ rfl _ rfl _ HN8.out ?_)|(refine Qe (by rfl) _ rfl _ rfl _ HM8.out ?_)|(refine Qe (by rfl) _ rfl _ rfl _ HY8.out ?_)|(refine wpList_neq_mv (by rfl) _ _ _ rfl _ _ rfl rfl hz1 ?_)|(at_mapUpdate;refine wpList_put_map rfl _ _ _ rfl gb k _ (T.extract 0 N) rfl rfl rfl HMap8.out (by have:=HLl.out;have:=HN.out;omega) (by rw [Hcut.out];have:=HSx.out;unfold maxLen;omega) ?_;intro w9 hM9 hg9))
      go_roundw
      case rel =>
       refine ⟨k+1,by omega,by go_num,?_,HK8.out.grown hg9⟩;obtain ⟨D,ho,h2⟩:=hM9;refine ⟨D,ho,fun s hs=>?_⟩;rcases h2 s hs with q|⟨j,y,h5,h6,h7⟩
       ·exact ⟨k,x,Nat.lt_succ_self _,HX.out,by rw [q,Hcut.out,HSS.out]⟩
       ·exact ⟨j,y,by omega,h6,h7⟩
      case measure=>simp [intOf];omega
     ·skip
      rw [if_pos (by rfl)];refine wp_new_mv rfl ?_;have HNy:=Qh (MAt.new WD Zm);have HYs:Hid (W6.heap.size≤WD.heap.size):=Qj.size;refine hK.out _ _ (Qj.alloc _) (fun _=>?_);replace Qj:=Qj.alloc (.cells (ml Zm).toArray 28);clear hK K;simp only [Act.put,sA,sZ,sU];generalize WD.alloc (.cells (ml Zm).toArray 28)=WY at *;generalize WD.heap.size=gy at *;refine rR 4 rfl (fun K hK=>?_);rw [if_pos (by rfl)];go_simp;refine (HRd2.out _ (HT6.out.kept Qj)).mono ?_;rintro e x1 ⟨rfl,gx1⟩;refine hK.out _ _ (Qj.trans gx1) (fun _=>?_);replace Qj:=Qj.trans gx1;clear hK K;have HNy:=Qh (MAt.kept HNy.out gx1);clear gx1;refine rT 5 58 (.tuple #[.agg (ml x).toArray,.int .i64 0]) rfl rfl Qj ?_;simp only [pA,pN,sZ,sU];refine rT 6 64 (.agg (ml x).toArray) rfl rfl Qj ?_;simp only [pA,pN,sZ,sU];refine rT 7 65 (.int .i64 0) rfl rfl Qj ?_;simp only [pA,pN,sZ,sU];refine rR 9 rfl (fun K hK=>?_);rw [if_pos (by rfl)];refine wp_store_row 28 _ _ rfl gy (ml x).toArray rfl rfl 28 _ HNy.out.at_ (ml_size x) rfl (ml_one _) ?_;have HY8:=Qh (MAt.row HNy.out x);refine hK.out _ _ (Qj.setRow HYs.out _) (fun _=>?_);replace Qj:=Qj.setRow HYs.out (ml x).toArray;clear hK K HNy;generalize WY.setRow gy (ml x).toArray=w8 at *;refine rT 10 12 (.int .i64 0) rfl rfl Qj ?_;simp only [Act.put,sA,sZ,sU];refine wpAnyH_done (by kernel_rfl) ?_ _;have HK8:=Qh (HB6.out.kept Qj);have HN8:=Qh (MAt.kept HN6.out Qj);have HM8:=Qh (MAt.kept HM6.out Qj);have HMap8:=Qh (HMap6.out.kept Qj);clear Qj;have hlook:=HMap8.out.look (T.extract 0 N) (by rw [Hcut.out];have:=HSx.out;unfold maxLen;omega) (by rw [Hcut.out];exact HNw.out);go_wp2_with (first|(refine Qe (by rfl) _ rfl _ rfl _ HN8.out ?_)|(refine Qe (by rfl) _ rfl _ rfl _ HM8.out ?_)|(refine Qe (by rfl) _ rfl _ rfl _ HY8.out ?_)|(refine wpList_neq_mv (by rfl) _ _ _ rfl _ _ rfl rfl hz1 ?_)|(at_mapUpdate;refine wpList_put_map rfl _ _ _ rfl gb k _ (T.extract 0 N) rfl rfl rfl HMap8.out (by have:=HLl.out;have:=HN.out;omega) (by rw [Hcut.out];have:=HSx.out;unfold maxLen;omega) ?_;intro w9 hM9 hg9))
      go_roundw
      case rel =>
       refine ⟨k+1,by omega,by go_num,?_,HK8.out.grown hg9⟩;obtain ⟨D,ho,h2⟩:=hM9;refine ⟨D,ho,fun s hs=>?_⟩;rcases h2 s hs with q|⟨j,y,h5,h6,h7⟩
       ·exact ⟨k,x,Nat.lt_succ_self _,HX.out,by rw [q,Hcut.out,HSS.out]⟩
       ·exact ⟨j,y,by omega,h6,h7⟩
      case measure=>simp [intOf];omega
  ·clear hKB
   obtain rfl:k=n:=by omega
   go_wp2;go_ret;exact ⟨rfl,HKr.out⟩
theorem walkNoteBack (p:Ps) (hB:Brd p.B) (w:World) (hT:TabG w) :
  Calls Tryz.prog 5 #[.agg (pl p).toArray] w fun e w'=>e=.returned (.bool true)∧Kept w w':=by
 by_cases h:pwI p=0
 ·exact back_right p hB h w hT
 ·exact back_wrong p hB h w hT
end Go.Proofs.YtlpeiolgcaddjaaGreatDoor
