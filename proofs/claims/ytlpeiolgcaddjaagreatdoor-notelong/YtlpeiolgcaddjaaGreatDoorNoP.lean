/- NoM · NoN · NoO: my texts, in their order. -/
import Derived.Test.YtlpeiolgcaddjaaGreatDoorPkA
import Derived.Test.YtlpeiolgcaddjaaGreatDoorPkB
import Derived.Test.YtlpeiolgcaddjaaGreatDoorPkC
import Derived.Test.YtlpeiolgcaddjaaGreatDoorPkD
import Derived.Test.YtlpeiolgcaddjaaGreatDoorPkE
import Derived.Test.YtlpeiolgcaddjaaGreatDoorPkF
import Derived.Test.YtlpeiolgcaddjaaGreatDoorPkH
import Derived.Test.YtlpeiolgcaddjaaGreatDoorPkI
import Derived.Test.YtlpeiolgcaddjaaGreatDoorPkJ
import Derived.Test.YtlpeiolgcaddjaaGreatDoorPkK
import Derived.Test.YtlpeiolgcaddjaaGreatDoorPkL
import Derived.Test.YtlpeiolgcaddjaaGreatDoorPkM
import Derived.Test.YtlpeiolgcaddjaaGreatDoorPkN
import Derived.Test.YtlpeiolgcaddjaaGreatDoorPkO
import Derived.Test.YtlpeiolgcaddjaaGreatDoorPkP
import Derived.Test.YtlpeiolgcaddjaaGreatDoorPkQ
import Derived.Test.YtlpeiolgcaddjaaGreatDoorPkR
import Derived.Test.YtlpeiolgcaddjaaGreatDoorPkU
import Derived.Test.YtlpeiolgcaddjaaGreatDoorPkGa
import Derived.Test.YtlpeiolgcaddjaaGreatDoorPkGb
import Derived.Test.YtlpeiolgcaddjaaGreatDoorPkY
import Derived.Test.YtlpeiolgcaddjaaGreatDoorPkGc
import Derived.Test.YtlpeiolgcaddjaaGreatDoorPkGd
import Derived.Test.YtlpeiolgcaddjaaGreatDoorPkGe
import Derived.Test.YtlpeiolgcaddjaaGreatDoorPkGf
import Derived.Test.YtlpeiolgcaddjaaGreatDoorPkGg
import Derived.Test.YtlpeiolgcaddjaaGreatDoorPkGj
import Derived.Test.YtlpeiolgcaddjaaGreatDoorPkGh
import Derived.Test.YtlpeiolgcaddjaaGreatDoorPkLa
import Derived.Test.YtlpeiolgcaddjaaGreatDoorPkLd
import Derived.Test.YtlpeiolgcaddjaaGreatDoorPkLf
import Derived.Test.YtlpeiolgcaddjaaGreatDoorPkLj
import Derived.Test.YtlpeiolgcaddjaaGreatDoorPkLe
import Derived.Test.YtlpeiolgcaddjaaGreatDoorPkLg
import Derived.Test.YtlpeiolgcaddjaaGreatDoorPkLh
import Derived.Test.YtlpeiolgcaddjaaGreatDoorPkLi
import Derived.Test.YtlpeiolgcaddjaaGreatDoorPkV
import Derived.Test.YtlpeiolgcaddjaaGreatDoorPkNa
import Derived.Test.YtlpeiolgcaddjaaGreatDoorPkNb
import Derived.Test.YtlpeiolgcaddjaaGreatDoorPkNc
import Derived.Test.YtlpeiolgcaddjaaGreatDoorPkNd
import Derived.Test.YtlpeiolgcaddjaaGreatDoorPkNf
import Derived.Test.YtlpeiolgcaddjaaGreatDoorPkNi
import Derived.Test.YtlpeiolgcaddjaaGreatDoorPkXWRLo0
import Derived.Test.YtlpeiolgcaddjaaGreatDoorPkXRBo0
import Derived.Test.YtlpeiolgcaddjaaGreatDoorPkXWLo0
import Derived.Test.YtlpeiolgcaddjaaGreatDoorPkXBo0
import Derived.Test.YtlpeiolgcaddjaaGreatDoorPkXWo0
import Derived.Test.YtlpeiolgcaddjaaGreatDoorPkXo0
import Derived.Maps.OwnOps
import Derived.Maps.Views
import Derived.StringKeys
import Derived.Laws.Strings
import Derived.Carry
namespace Go.Proofs.YtlpeiolgcaddjaaGreatDoor
open Go.RowKit
set_option linter.unusedVariables false
set_option linter.unusedSimpArgs false
set_option maxRecDepth 100000

open Go.Maps
theorem law_str:Keyed Tryz.prog 9:=string_keyed Tryz.underlying9
def MapIs (w:World) (b n:Nat) (P:List UInt8→Prop):Prop:=∃ D:DataW Unit,w.ownsMap Tryz.prog 9 (plainElem (H:=Unit) Tryz.prog 4) b n D∧∀ s,has D (.string s)=true→P s
theorem MapIs.made (w:World) (P:List UInt8→Prop):MapIs (w.alloc (.map #[] 0)) w.heap.size 0 P:=⟨_,World.ownsMap_made _ _ _ _,fun s h=>by cases h⟩
theorem MapIs.kept {w w':World} {b n:Nat} {P:List UInt8→Prop} (h:MapIs w b n P) (k:Kept w w'):MapIs w' b n P:=by
 obtain ⟨D,⟨es,clock,hb,r⟩,h2⟩:=h;exact ⟨D,⟨es,clock,k.heap hb,r⟩,h2⟩
theorem key_str (s:ByteArray) (h:s.size≤maxLen):keyOf Tryz.prog 9 (.string s)=some (.string s.data.toList):=Go.WideMaps.keyOf_string_mk Tryz.underlying9 h
theorem zero_bool (w:World):(zeroValue 4).run Tryz.prog w=.ok (.bool false) w:=by kernel_rfl
theorem MapIs.look {w:World} {b n:Nat} {P:List UInt8→Prop} (h:MapIs w b n P) (s:ByteArray) (hs:s.size≤maxLen) (hn:¬ P s.data.toList) :
  (Instr.lookup 41 (.map (some b)) (.string s) false).run Tryz.prog w=.ok (.bool false) w:=by
 obtain ⟨D,ho,h2⟩:=h;obtain ⟨v,ps,hr,hv⟩:=ho.lookup law_str Tryz.underlying41 (zero_bool w) (plainElem_bool Tryz.underlying4 false) (key_str s hs)
 have hh:has D (.string s.data.toList)=false:=by
  cases hq:has D (.string s.data.toList)
  ·rfl
  ·exact absurd (h2 _ hq) hn
 rw [atKey_of_not_has hh] at hv;rw [hr];unfold plainElem at hv;rw [Tryz.underlying4] at hv
 cases v <;> simp at hv
 rw [hv.1]
theorem wpList_put_map {ops:Array Oper} {rest:List Oper} {o:Oper} {a:Act} {w:World} {Q:Exit→Act→World→Prop} (hg:o.guard=none) (x y z:Operand) (hop:o.op=Op.mapUpdate 41 x y z)
  (b n:Nat) (P:List UInt8→Prop) (s:ByteArray) (hm:a.eval x=.map (some b)) (hk:a.eval y=.string s) (hz:a.eval z=.bool true) (hM:MapIs w b n P) (hn:n≤100000) (hs:s.size≤maxLen)
  (h:∀ w',MapIs w' b (n+1) (fun t=>t=s.data.toList∨P t)→w.grownBy w' (some b)→wpList Tryz.prog ops Q rest (a.put o.dst undef) w'):wpList Tryz.prog ops Q (o::rest) a w:=by
 obtain ⟨D,ho,h2⟩:=hM;refine wpList_mapUpdate_own w hg x y z 41 hop 9 4 law_str Tryz.underlying41 (plainElem (H:=Unit) Tryz.prog 4) b n D hm ho (by unfold maxLen;omega) (.string s) (.bool true) _ hk hz (key_str s hs) _ [] (plainElem_bool Tryz.underlying4 true) ?_;intro w' ho' hg';refine h w' ⟨_,ho',fun t ht=>?_⟩ hg';by_cases e:t=s.data.toList
 ·exact .inl e
 ·rw [has_put_other (fun q=>e (by injection q))] at ht
  exact .inr (h2 t ht)
theorem KB.grown {W w w':World} {b:Nat} (h:KB W b w) (hg:w.grownBy w' (some b)):KB W b w' :=
 ⟨hg.os.trans h.os,hg.output.trans h.output,Nat.le_trans h.size hg.size,fun k hk hne=>(hg.block k (Nat.lt_of_lt_of_le hk h.size) (fun e=>hne (by injection e))).trans (h.block k hk hne)⟩
theorem run_idx (s:ByteArray) (n:Int) (i:Nat) (hn:n=i) (c:UInt8) (hc:s.data.toList[i]?=some c) (w:World) :
  (Instr.index 9 (.string s) (.int .i64 n)).run Tryz.prog w=.ok (.int .u8 (c.toNat:Nat)) w:=by
 subst hn;obtain ⟨⟨l⟩⟩:=s;obtain ⟨h1,h2⟩:=List.getElem?_eq_some_iff.1 hc;have h1':i<(ByteArray.mk ⟨l⟩).size:=h1;rw [run_index_string (h:=Tryz.underlying9),dif_pos ⟨by omega,by omega⟩];have e:(ByteArray.mk ⟨l⟩)[((i:Nat):Int).toNat]'(by omega)=c:=h2;rw [e]
theorem wp_new_mv {o:Oper} {a:Act} {w:World} {K:Act→World→Prop} {Q:Exit→Act→World→Prop} (ho:o.op=.alloc 28)
  (h:K (a.put o.dst (.pointer (some ⟨w.heap.size,0,none⟩))) (w.alloc (.cells (ml Zm).toArray 28))):o.wp Tryz.prog a w K Q:=by
 unfold Oper.wp execOp;simp only [ho,Instr.alloc,Sem.run_bind,run_zero_mv,Result.andThen_ok,newVar,newRow,Value.cells];exact h
theorem range_kbQ {W w:World} {gp g off:Nat} {l:List Value} (h:W.rangeAt g off l) (hk:KB W gp w) (hne:g≠gp):w.rangeAt g off l:=fun i x hx=>hk.cell (a:=⟨g,off+i,none⟩) hne (h i x hx)
theorem allN_sortedQ (p:Ps) (n:Nat):(allN p n).Pairwise fun a b=>lessB a b=true:=by
 unfold allN;rw [List.pairwise_flatMap];refine ⟨fun f _=>fromN_sorted p f,List.pairwise_lt_range.imp fun {a b} hab x hx y hy=>?_⟩;have x1:=(mem_fromN.1 hx).1;have y1:=(mem_fromN.1 hy).1;exact (Qaj _ _).2 (.inl (by omega))
theorem legL_nodup (p:Ps):(legL p).Nodup:=sorted_nodup ((allN_sortedQ p 64).filter (stayB p))
theorem leg_fm {p:Ps} (hB:Brd p.B) (hr:pwI p=0) {x:Mv} (hx:x ∈ legL p):∃ f t,Fm p x f t:=Yt hB (Yg hB hr ((Qai (Qt hr).1).1 hx)).2.2
theorem sh_two (p:Ps) (m:Mv) (fr sg:ByteArray):2≤(bareB p m fr sg).size:=by
 unfold bareB;split
 ·unfold Js
  split
  ·show 2≤3;omega
  ·show 2≤5;omega
 ·have:=Yw m.t
  simp only [ByteArray.size_append];omega
end Go.Proofs.YtlpeiolgcaddjaaGreatDoor
namespace Go.Proofs.YtlpeiolgcaddjaaGreatDoor
open Go.RowKit
set_option linter.unusedVariables false
set_option linter.unusedSimpArgs false
set_option maxRecDepth 100000

theorem cut_mid (A B C:ByteArray):((A++B)++C).extract A.size (A.size+B.size)=B:=by
 refine bs_ext ?_;rw [extract_list,Jh,Jh,size_list,size_list,List.append_assoc,List.drop_left,Nat.add_sub_cancel_left,List.take_left]
def isB (T nm:ByteArray) (c:UInt8) (i:Nat):Bool:=(c == 79) || (List.range i).any fun j=>decide (T.extract j (j+2)=nm)
theorem isB_zero (T nm:ByteArray) (c:UInt8):isB T nm c 0=(c == 79):=by unfold isB;simp
theorem isB_succ (T nm:ByteArray) (c:UInt8) (i:Nat):isB T nm c (i+1)=(isB T nm c i || decide (T.extract i (i+2)=nm)):=by
 unfold isB;rw [List.range_succ,List.any_append,Bool.or_assoc];simp
structure LongCut (p:Ps) (x:Mv) (T:ByteArray) (c:UInt8):Prop where
 c0:T.data.toList[0]?=some c
 two:2≤T.size
 is:isB T (Qu x.t) c (T.size-1)=true
theorem long_cut {p:Ps} (hB:Brd p.B) (hr:pwI p=0) {x:Mv} (hx:x ∈ legL p):∃ c,LongCut p x (nlB p x) c:=by
 obtain ⟨f,t,F⟩:=leg_fm hB hr hx;have h2:2≤(longB p x).size:=sh_two _ _ _ _;have hs:(nlB p x).size=(longB p x).size+(markB (behP p x)).size:=by unfold nlB;rw [ByteArray.size_append]
 have hl:0<(nlB p x).data.toList.length:=by rw [← size_list];omega
 refine ⟨(nlB p x).data.toList[0],List.getElem?_eq_getElem hl,by omega,?_⟩;by_cases hc:castN p x<4
 ·have e:longB p x=Js x:=by unfold longB bareB;rw [if_pos hc]
  have e0:(nlB p x).data.toList[0]?=some 79:=by
   unfold nlB;rw [e,Jh];unfold Js;split <;> rfl
  have e1:(nlB p x).data.toList[0]=79:=by
   rw [List.getElem?_eq_getElem hl] at e0;exact Option.some.inj e0
  unfold isB;rw [e1];rfl
 ·have e:nlB p x=(((headK (kdI p x)++Qu x.f)++signB p x ⟨#[45]⟩)++Qu x.t)++(tailB x.p++markB (behP p x)):=by
   unfold nlB longB bareB;rw [if_neg hc];exact bs_ext (by simp only [Jh,List.append_assoc])
  have hm:=cut_mid ((headK (kdI p x)++Qu x.f)++signB p x ⟨#[45]⟩) (Qu x.t) (tailB x.p++markB (behP p x));rw [← e,Yw] at hm;generalize hA:((headK (kdI p x)++Qu x.f)++signB p x ⟨#[45]⟩).size=A at *
  have hAs:A+2≤(nlB p x).size:=by
   rw [e,ByteArray.size_append,ByteArray.size_append,hA,Yw];omega
  unfold isB;rw [Bool.or_eq_true];right;rw [List.any_eq_true];exact ⟨A,List.mem_range.2 (by omega),decide_eq_true hm⟩
theorem ln_new {p:Ps} (hB:Brd p.B) (hr:pwI p=0) {k:Nat} {x:Mv} (hx:(legL p)[k]?=some x):¬ ∃ (j:Nat) (y:Mv),j<k∧(legL p)[j]?=some y∧(nlB p y).data.toList=(nlB p x).data.toList:=by
 rintro ⟨j,y,hj,hy,e⟩;have hmx:=List.mem_of_getElem? hx;have hmy:=List.mem_of_getElem? hy
 have e2:longB p y=longB p x:=by
  have e3:nlB p y=nlB p x:=bs_ext e;unfold nlB at e3;refine strip_mk ?_ ?_ (mark_mk _) (mark_mk _) e3
  ·obtain ⟨f,t,F⟩:=leg_fm hB hr hmy
   exact bare_mk F _ _ (name_sq (by have:=F.hf;omega) (by have:=F.hf;have:=F.f1;omega)) (by intro b hb;simp at hb;rw [hb];decide)
  ·obtain ⟨f,t,F⟩:=leg_fm hB hr hmx
   exact bare_mk F _ _ (name_sq (by have:=F.hf;omega) (by have:=F.hf;have:=F.f1;omega)) (by intro b hb;simp at hb;rw [hb];decide)
 have:=long_inj hB hr ((Qai (Qt hr).1).1 hmy) ((Qai (Qt hr).1).1 hmx) e2;subst this;obtain ⟨h1,e1⟩:=List.getElem?_eq_some_iff.1 hx;obtain ⟨h2,e2⟩:=List.getElem?_eq_some_iff.1 hy;exact (List.pairwise_iff_getElem.1 (legL_nodup p) j k h2 h1 hj) (e2.trans e1.symm)
theorem conv_nm (t:Nat) (ht:t<64) (A B:Int) (hA:A=97+(t:Int) % 8) (hB:B=49+(t:Int) / 8) (w:World) :
  (convert 48 9 (.slice (some ⟨w.heap.size,0,none⟩) 2 2)).run Tryz.prog (w.alloc (.cells #[.int .u8 A,.int .u8 B] 5))=.ok (.string (Qu t)) (w.alloc (.cells #[.int .u8 A,.int .u8 B] 5)):=by
 have a0:((97+t % 8).toUInt8).toNat=97+t % 8:=by simp;omega
 have b0:((49+t / 8).toUInt8).toNat=49+t / 8:=by simp;omega
 have eA:A=(((97+t % 8).toUInt8).toNat:Nat):=by rw [a0,hA];omega
 have eB:B=(((49+t / 8).toUInt8).toNat:Nat):=by rw [b0,hB];omega
 subst eA eB;have h3:=run_convert_bytes_back (P:=Tryz.prog) (w.alloc (.cells #[.int .u8 (((97+t % 8).toUInt8).toNat:Nat),.int .u8 (((49+t / 8).toUInt8).toNat:Nat)] 5)) 48 9 5 ⟨w.heap.size,0,none⟩ 2 [(97+t % 8).toUInt8,(49+t / 8).toUInt8] Tryz.underlying48 Tryz.underlying5 Tryz.underlying9 ?_
 ·rw [show Qu (t:Int)=⟨[(97+t % 8).toUInt8,(49+t / 8).toUInt8].toArray⟩ by unfold Qu;rw [show ((t:Int) % 8).toNat=t % 8 by omega,show ((t:Int) / 8).toNat=t / 8 by omega]]
  exact h3
 ·intro j hj
  match j,hj with
  | 0,_=>simp [Addr.add,go_sem]
  | 1,_=>simp [Addr.add,go_sem]
end Go.Proofs.YtlpeiolgcaddjaaGreatDoor
namespace Go.Proofs.YtlpeiolgcaddjaaGreatDoor
open Go.RowKit
set_option linter.unusedVariables false
set_option linter.unusedSimpArgs false
set_option maxRecDepth 100000

set_option maxHeartbeats 8000000 in
theorem longw_wrong (p:Ps) (hB:Brd p.B) (h:pwI p≠0) (w:World) (hT:TabG w) :
  Calls Tryz.prog 7 #[.agg (pl p).toArray] w fun e w'=>e=.returned (.bool true)∧Kept w w':=by
 have HP:=Qh (PAt.new w hB.1);have HK0:=Qh ((Kept.refl w).alloc (.cells (pl p).toArray 26));have HT:=Qh (hT.kept HK0.out);have hpl:Hid (p.B.length=64):=hB.1;have HWr:=Qh (fun w=>Qaz p hB w);have hv:(pwI p != 0)=true:=bne_iff_ne.2 h;generalize pwI p=v at *;clear hB hT h;go_enter Tryz.func7,Tryz.ntmps7;go_wp2_with fail
 refine (Qaq _ HT.out).mono ?_;rintro e w1 ⟨rfl,k1⟩;have HK1:=Qh (HK0.out.trans k1);have HP1:=Qh (HP.out.kept k1);have HT1:=Qh (HT.out.kept k1);clear k1;go_wp2_with (refine Qc (by rfl) _ rfl _ rfl _ HP1.out ?_)
 refine (HWr.out _).mono ?_;rintro e w2 ⟨rfl,k2⟩;have HK2:=Qh (HK1.out.trans k2);have HP2:=Qh (HP1.out.kept k2);have HT2:=Qh (HT1.out.kept k2);clear k2;go_wp2;go_ret;exact ⟨rfl,HK2.out⟩
set_option maxHeartbeats 8000000 in
theorem longw_right (p:Ps) (hB:Brd p.B) (h:pwI p=0) (w:World) (hT:TabG w) :
  Calls Tryz.prog 7 #[.agg (pl p).toArray] w fun e w'=>e=.returned (.bool true)∧Kept w w':=by
 have HP:=Qh (PAt.new w hB.1);have HK0:=Qh ((Kept.refl w).alloc (.cells (pl p).toArray 26));have HT:=Qh (hT.kept HK0.out);have hpl:Hid (p.B.length=64):=hB.1;have HWr:=Qh (fun w=>Qaz p hB w);rw [h] at HWr;have HMv:=Qh (fun w=>rmoves_is p hB h w);have HSh:=Qh (fun x (hx:x ∈ legL p) w hT=>nlong_yes p hB x h ((Qai (Qt h).1).1 hx) w hT);have HRl:=Qh (fun x (hx:x ∈ legL p) w=>rlong_is p hB h x ((Qai (Qt h).1).1 hx) w);have HCut:=Qh (fun x (hx:x ∈ legL p)=>long_cut hB h hx);have HNew:=Qh (fun (k:Nat) (x:Mv) (hx:(legL p)[k]?=some x)=>ln_new hB h hx);have HFm:=Qh (fun x (hx:x ∈ legL p)=>leg_fm hB h hx);have HLl:=Qh (leg_len h);have hmm:=@run_makeMap Tryz.prog;have hT':=Qh hT;clear hB hT h;go_enter Tryz.func7,Tryz.ntmps7;go_wp2_with fail
 refine (Qaq _ HT.out).mono ?_;rintro e w1 ⟨rfl,k1⟩;have HK1:=Qh (HK0.out.trans k1);have HP1:=Qh (HP.out.kept k1);have HT1:=Qh (HT.out.kept k1);clear k1;go_wp2_with (refine Qc (by rfl) _ rfl _ rfl _ HP1.out ?_)
 refine (HWr.out _).mono ?_;rintro e w2 ⟨rfl,k2⟩;have HK2:=Qh (HK1.out.trans k2);have HP2:=Qh (HP1.out.kept k2);have HT2:=Qh (HT1.out.kept k2);clear k2;go_wp2_with (refine Qc (by rfl) _ rfl _ rfl _ (HP2.out.kept ((Kept.refl _).alloc (.map #[] 0))) ?_)
 have HM0:Hid (MapIs (w2.alloc (.map #[] 0)) w2.heap.size 0 (fun s=>∃ (j:Nat) (y:Mv),j<0∧(legL p)[j]?=some y∧(nlB p y).data.toList=s)):=MapIs.made _ _;have HKM:=Qh (HK2.out.alloc (.map #[] 0));have HPM:=Qh (HP2.out.kept ((Kept.refl _).alloc (.map #[] 0)));have hMs:Hid ((w2.alloc (.map #[] 0)).heap.size=w2.heap.size+1):=by show _=_;simp
 have HPs:Hid (w.heap.size<w2.heap.size):=Yc HP2.out.at_;generalize w2.alloc (.map #[] 0)=WM at *;generalize w2.heap.size=gb at *;refine (HMv.out _).mono ?_;rintro e X ⟨v4,rfl,hown,k4⟩;obtain ⟨a4,c4,rfl⟩:=hown.slice;have HG:=Qh (hown.lst);have HKX:=Qh (HKM.out.trans k4);have HPX:=Qh (HPM.out.kept k4);have HMX:=Qh (HM0.out.kept k4);generalize hn:(legL p).length=n at *;have HN:=Qh hn;clear hown hn k4;go_wp2
 go_loopw [20] (fun t20 wr=>∃ k:Nat,k≤n∧t20=.int .i64 k∧MapIs wr gb k (fun s=>∃ (j:Nat) (y:Mv),j<k∧(legL p)[j]?=some y∧(nlB p y).data.toList=s)∧KB X gb wr) (fun t20 _=>n-(intOf t20).toNat)
 case atStart=>exact ⟨0,Nat.zero_le _,rfl,HMX.out,KB.refl _ _⟩
 case round =>
  obtain ⟨k,hk,rfl,hM,hKB⟩:=hrel;generalize wr=Wr at *;have HM:=Qh hM;have HKB:=Qh hKB;have HKr:=Qh (hKB.below HKX.out (Nat.le_of_lt HPs.out));clear hM;by_cases hlt:k<n
  ·have hlt':(k:Int)<(n:Int):=by omega
   obtain ⟨x,hx⟩:∃ x,(legL p)[k]?=some x:=⟨_,List.getElem?_eq_getElem (by have:=HN.out;omega)⟩;have hmx:=List.mem_of_getElem? hx;obtain ⟨gl,hbl,hls,_⟩:=HG.out;obtain ⟨off,cap,he,hc1,hc2,h3⟩:=hls.full (by have:=HN.out;omega);rw [HN.out] at he;injection he with he1 he2 he3
   subst he1 he3;rw [HN.out] at hc1;unfold maxLen at hc2;have hgn:gl≠gb:=by have:=hMs.out;omega
   have HX:=Qh hx;have HRx:=Qh (range_i (range_kbQ h3 hKB hgn) hx);have KB0:=Qh ((Kept.refl Wr).alloc (.cells (ml x).toArray 28));have HMb:=Qh (MAt.new Wr x);have HRn:=Qh (RAt.range HMb.out);have HPb:=Qh ((HPX.out.kb hKB (by have:=HPs.out;omega)).kept KB0.out);have HTb:=Qh (hT'.out.kept (HKr.out.trans KB0.out));have HBb:=Qh (HKB.out.kept KB0.out);have HMapb:=Qh (HM.out.kept KB0.out);have HShx:=Qh (HSh.out x hmx);have HRlx:=Qh (HRl.out x hmx);rw [show longB p x++markB (behP p x)=nlB p x from rfl] at HRlx;have HNw:=Qh (HNew.out k x hx);obtain ⟨c,hcut⟩:=HCut.out x hmx;obtain ⟨fx,tx,F⟩:=HFm.out x hmx;have hxt:=Qh F.ht;have ht1:=F.t1;have hnm:Qu x.t=Qu (tx:Int):=by rw [F.ht]
   have hsz:=nl_size p x;have hz0:((nlB p x).toList == (nlB p x).toList)=true:=by simp
   have hc0:=hcut.c0;have htwo:=hcut.two;have his:=hcut.is;rw [hnm] at his;clear hx hKB hmx h3 hbl hls F hcut hnm;generalize hTT:nlB p x=T at *;have HTT:=Qh hTT;clear hTT;obtain ⟨N,hN⟩:∃ N,T.size=N+2:=⟨T.size-2,by omega⟩;have hN9:N≤7:=by omega
   have HTs:=Qh hN;have his':Hid (isB T (Qu (tx:Int)) c (N+1)=true):=by show _=_;rw [← his,hN];rfl
   have hc0':=Qh hc0;have hix:=run_idx T 0 0 rfl c hc0;clear htwo hsz his hc0;go_wp2_with (first|((with_reducible refine Qn rfl _ rfl gl (off+k*3) ?_ x HRx.out ?_);exact rfl)|(with_reducible refine Ql rfl rfl ?_)|((with_reducible refine Qg rfl _ _ rfl Zm x ?_ ?_ ?_);exact rfl;exact rfl)|((with_reducible refine Qn rfl _ rfl Wr.heap.size 0 ?_ x HRn.out ?_);exact rfl)|(refine Qc (by rfl) _ rfl _ rfl _ HPb.out ?_))
   refine (HShx.out _ HTb.out).mono ?_;rintro e w5 ⟨rfl,k5⟩;have HP5:=Qh (HPb.out.kept k5);have HB5:=Qh (HBb.out.kept k5);have HMap5:=Qh (HMapb.out.kept k5);have HM5:=Qh (MAt.kept HMb.out k5);have hlook:=HMap5.out.look T (by have:=HTs.out;unfold maxLen;omega) HNw.out;clear k5;go_wp2_with (first|(refine Qe (by rfl) _ rfl _ rfl _ HM5.out ?_)|(refine Qc (by rfl) _ rfl _ rfl _ HP5.out ?_))
   refine (HRlx.out _).mono ?_;rintro e w6 ⟨rfl,k6⟩;have HB6:=Qh (HB5.out.kept k6);have HMap6:=Qh (HMap5.out.kept k6);have HM6:=Qh (MAt.kept HM5.out k6);clear k6 hlook;go_wp2_with (at_mapUpdate;refine wpList_put_map rfl _ _ _ rfl gb k _ T rfl rfl rfl HMap6.out (by have:=HLl.out;have:=HN.out;omega) (by have:=HTs.out;unfold maxLen;omega) ?_;intro w9 hM9 hg9;refine Hid.out ?_)
   refine Qh ?_;clear hix;have HB9:=Qh (HB6.out.grown hg9)
   have HMap9:Hid (MapIs w9 gb (k+1) (fun s=>∃ (j:Nat) (y:Mv),j<k+1∧(legL p)[j]?=some y∧(nlB p y).data.toList=s)):=by
    obtain ⟨D,ho,h2⟩:=hM9;refine ⟨D,ho,fun s hs=>?_⟩;rcases h2 s hs with q|⟨j,y,h5,h6,h7⟩
    ·exact ⟨k,x,Nat.lt_succ_self _,HX.out,by rw [q,HTT.out]⟩
    ·exact ⟨j,y,by omega,h6,h7⟩
   have HM9:Hid (MAt w9 Wr.heap.size x):=⟨(hg9.block _ (Yc HM6.out.at_) (fun e=>by
    obtain ⟨D,⟨es,clock,hb,_⟩,_⟩:=HMap6.out;injection e with e
    have:=HM6.out.at_;rw [e,hb] at this
    cases this)).trans HM6.out.at_⟩
   have ct:=HM9.out.t;rw [hxt.out] at ct;have hix:=run_idx T 0 0 rfl c hc0'.out;have htI:(tx:Int)<64:=by omega
   have u1:IntKind.u8.wrap ((tx:Int) % 8)=(tx:Int) % 8:=IntWalk.u8_in _ (by omega);have u2:IntKind.u8.wrap ((tx:Int) / 8)=(tx:Int) / 8:=IntWalk.u8_in _ (by omega);have u3:IntKind.u8.wrap (97+(tx:Int) % 8)=97+(tx:Int) % 8:=IntWalk.u8_in _ (by omega);have u4:IntKind.u8.wrap (49+(tx:Int) / 8)=49+(tx:Int) / 8:=IntWalk.u8_in _ (by omega);have HKA:=Qh ((Kept.refl w9).alloc (.cells #[.int .u8 (97+(tx:Int) % 8),.int .u8 (49+(tx:Int) / 8)] 5));have hconv:=conv_nm tx ht1 (97+(tx:Int) % 8) (49+(tx:Int) / 8) rfl rfl w9;clear hM9 hg9;go_wp2;have HB10:=Qh (HB9.out.kept HKA.out);have HMap10:=Qh (HMap9.out.kept HKA.out);clear hix hconv ct u1 u2 u3 u4 HKA hz0 HB9 HMap9 HM9;generalize Qu (tx:Int)=nm at *;generalize w9.alloc (.cells #[.int .u8 (97+(tx:Int) % 8),.int .u8 (49+(tx:Int) / 8)] 5)=wI at *
   have hcb:(((c.toNat:Nat):Int) == 79)=isB T nm c 0:=by
    rw [isB_zero,Bool.eq_iff_iff,beq_iff_eq,beq_iff_eq];constructor
    ·intro e;exact UInt8.toNat_inj.1 (by have:(79:UInt8).toNat=79:=rfl;omega)
    ·intro e;rw [e];rfl
   rw [hcb];clear hcb
   go_loopw [9,10] (fun t9 t10 wi=>∃ i:Nat,i≤N+1∧t10=.int .i64 i∧t9=.bool (isB T nm c i)∧wi=wI) (fun _ t10 _=>N+1-(intOf t10).toNat)
   case atStart=>exact ⟨0,Nat.zero_le _,rfl,rfl,rfl⟩
   case round =>
    obtain ⟨i,hi,rfl,rfl,rfl⟩:=hrel;have hs:=Qh (isB_succ T nm c i);by_cases hli:i<N+1
    ·have hl1:(i:Int)≤(N:Int):=by omega
     have hl2:(i:Int)+2≤(N:Int)+2:=by omega
     have hl3:¬ ((N:Int)+2<(i:Int)+2):=by omega
     have hl4:¬ ((N:Int)<(i:Int)):=by omega
     have hl5:¬ ((i:Int)+2<(i:Int)):=by omega
     have hl6:¬ ((i:Int)+2<0):=by omega
     have hl7:(i:Int)≤(i:Int)+2:=by omega
     cases hb:isB T nm c i
     ·by_cases he:T.extract i (i+2)=nm
      ·have hz:((T.extract i (i+2)).toList == nm.toList)=true:=by rw [he];simp
       have HV:Hid (isB T nm c (i+1)=true):=by show _=_;rw [hs.out,hb,decide_eq_true he];rfl
       clear he hb;go_wp2;go_roundw
       case rel=>exact ⟨i+1,by omega,by go_num,by rw [HV.out],by first|trivial|rfl⟩
       case measure=>simp [intOf];omega
      ·have hz:=str_eq_false he
       have HV:Hid (isB T nm c (i+1)=false):=by show _=_;rw [hs.out,hb,decide_eq_false he];rfl
       clear he hb;go_wp2;go_roundw
       case rel=>exact ⟨i+1,by omega,by go_num,by rw [HV.out],by first|trivial|rfl⟩
       case measure=>simp [intOf];omega
     ·have HV:Hid (isB T nm c (i+1)=true):=by show _=_;rw [hs.out,hb];rfl
      clear hb;go_wp2;go_roundw
      case rel=>exact ⟨i+1,by omega,by go_num,by rw [HV.out],by first|trivial|rfl⟩
      case measure=>simp [intOf];omega
    ·obtain rfl:i=N+1:=by omega
     have hl1:¬ ((N:Int)+1+2≤(N:Int)+2):=by omega
     have hl2:¬ ((N:Int)+1≤(N:Int)):=by omega
     rw [his'.out];go_wp2;go_roundw
     case rel=>exact ⟨k+1,by omega,by go_num,HMap10.out,HB10.out⟩
     case measure=>simp [intOf];omega
  ·clear hKB
   obtain rfl:k=n:=by omega
   go_wp2;go_ret;exact ⟨rfl,HKr.out⟩
theorem walkNoteLong (p:Ps) (hB:Brd p.B) (w:World) (hT:TabG w) :
  Calls Tryz.prog 7 #[.agg (pl p).toArray] w fun e w'=>e=.returned (.bool true)∧Kept w w':=by
 by_cases h:pwI p=0
 ·exact longw_right p hB h w hT
 ·exact longw_wrong p hB h w hT
end Go.Proofs.YtlpeiolgcaddjaaGreatDoor
