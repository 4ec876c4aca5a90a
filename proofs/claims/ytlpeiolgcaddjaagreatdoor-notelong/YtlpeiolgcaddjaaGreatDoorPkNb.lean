/- NoB: my texts, in their order. -/
import Derived.Test.YtlpeiolgcaddjaaGreatDoorPkLi
import Derived.Test.YtlpeiolgcaddjaaGreatDoorPkNa
import Derived.Test.YtlpeiolgcaddjaaGreatDoorPkV
import Derived.Test.YtlpeiolgcaddjaaGreatDoorShelfJ
namespace Go.Proofs.YtlpeiolgcaddjaaGreatDoor
open Go.RowKit
set_option linter.unusedVariables false
set_option linter.unusedSimpArgs false
set_option maxRecDepth 100000
theorem capital_is (k:Int) (h:1≤k∧k≤6) (w:World):Calls Tryz.prog 119 #[.int .i64 k] w fun e w'=>e=.returned (.string (capK k))∧Kept w w':=by
 have HV:Hid (capK k=lettN (6-k).toNat):=rfl;have he:inOrd (6-k).toNat=k:=by unfold inOrd;rw [if_pos (by omega)];omega
 have HL:=Qh (fun w=>letter_yes (6-k).toNat (by omega) w);rw [he] at HL;generalize lettN (6-k).toNat=L at *;have HMk:=Qh (fun w=>make_w k w h.1 h.2);clear he h;go_enter Tryz.func119,Tryz.ntmps119;go_wp2_with fail
 refine (HMk.out _).mono ?_;rintro e w' ⟨rfl,rfl⟩;go_wp2_with fail
 refine (HL.out _).mono ?_;rintro e w1 ⟨rfl,gw1⟩;go_wp2;go_ret;exact ⟨by rw [HV.out];rfl,Kept.of_grown gw1⟩
theorem letterk_is (k:Int) (h:1≤k∧k≤6) (w:World):Calls Tryz.prog 67 #[.int .i64 k] w fun e w'=>e=.returned (.string (headK k))∧Kept w w':=by
 by_cases h1:k=1
 ·subst h1
  have HV:Hid (headK 1=⟨#[]⟩):=rfl;go_enter Tryz.func67,Tryz.ntmps67;go_wp2;go_ret;exact ⟨by rw [HV.out];rfl,Kept.refl _⟩
 ·have HV:Hid (headK k=capK k):=by show _=_;unfold headK;rw [if_neg h1]
  have b1:(k == 1)=false:=beq_eq_false_iff_ne.2 h1;have HC:=Qh (fun w=>capital_is k h w);clear h h1;generalize capK k=L at *;go_enter Tryz.func67,Tryz.ntmps67;go_wp2_with fail
  refine (HC.out _).mono ?_;rintro e w1 ⟨rfl,k1⟩;go_wp2;go_ret;exact ⟨by rw [HV.out];rfl,k1⟩
def catB (L:List ByteArray):ByteArray:=⟨(Lib.join (L.map (·.data.toList)) []).toArray⟩
theorem together_is (g cap:Nat) (L:List ByteArray) (w:World) (hc:∀ (j:Nat) x,L[j]?=some x→w.cell? ⟨g,0+j,none⟩=some (.string x)) (hg:g<w.heap.size) (hl:L.length≤100) (hcap:L.length≤cap) (hs:(Lib.join (L.map (·.data.toList)) []).length≤10000) :
  Calls Tryz.prog 24 #[.slice (some ⟨g,0,none⟩) L.length cap] w fun e w'=>e=.returned (.string (catB L))∧Kept w w':=by
 have hj:=Tryz.strings_Join g 0 cap L ⟨#[]⟩ w hc hg (by omega) hcap (by rw [show (⟨#[]⟩:ByteArray).data.toList=[] from rfl];omega);rw [show (⟨#[]⟩:ByteArray).data.toList=[] from rfl] at hj;have HJ:=Qh hj;have HV:Hid (catB L=⟨(Lib.join (L.map (·.data.toList)) []).toArray⟩):=rfl;clear hj hc hg hcap hs hl;generalize (Lib.join (L.map (·.data.toList)) []).toArray=T at *;go_enter Tryz.func24,Tryz.ntmps24;go_wp2_with fail
 refine (HJ.out).mono ?_;rintro e w2 ⟨rfl,g2⟩;have HK2:=Qh (Below.toKept g2);clear g2;go_wp2;go_ret;exact ⟨by rw [HV.out];rfl,HK2.out⟩
theorem join_nil (l:List (List UInt8)):Lib.join l []=l.flatten:=by
 cases l with
 | nil=>rfl
 | cons a l =>
  rw [Lib.join_cons];unfold Lib.joinTail;simp
theorem cat_two (a b:ByteArray):catB [a,b]=a++b:=by
 refine bs_ext ?_;unfold catB;rw [join_nil,Jh];simp
theorem cat_five (a b c d e:ByteArray):catB [a,b,c,d,e]=(((a++b)++c)++d)++e:=by
 refine bs_ext ?_;unfold catB;rw [join_nil,Jh,Jh,Jh,Jh];simp
theorem cells_of {l:List ByteArray} {w:World} {g:Nat} (h:w.heap[g]?=some (.cells (tl l).toArray 9 (0,0))) (j:Nat) (x:ByteArray) (hx:l[j]?=some x):w.cell? ⟨g,0+j,none⟩=some (.string x):=by
 rw [Nat.zero_add,cell_of_row w g j _ _ (0,0) h];simp [tl,hx]
theorem together2 (a b:ByteArray) (h:a.size+b.size≤1000) (g:Nat) (w:World) (hh:w.heap[g]?=some (.cells #[.string a,.string b] 9 (0,0))) :
  Calls Tryz.prog 24 #[.slice (some ⟨g,0,none⟩) 2 2] w fun e w'=>e=.returned (.string (a++b))∧Kept w w':=by
 have:=together_is g 2 [a,b] w (cells_of hh) (Yc hh) (by simp) (by simp) (by rw [join_nil];simp;omega);rwa [cat_two] at this
theorem together5 (a b c d e:ByteArray) (h:a.size+b.size+c.size+d.size+e.size≤1000) (g:Nat) (w:World) (hh:w.heap[g]?=some (.cells #[.string a,.string b,.string c,.string d,.string e] 9 (0,0))) :
  Calls Tryz.prog 24 #[.slice (some ⟨g,0,none⟩) 5 5] w fun x w'=>x=.returned (.string ((((a++b)++c)++d)++e))∧Kept w w':=by
 have:=together_is g 5 [a,b,c,d,e] w (cells_of hh) (Yc hh) (by simp) (by simp) (by rw [join_nil];simp;omega);rwa [cat_five] at this
theorem cap_size (k:Int):(capK k).size=1:=rfl
theorem tail_size (n:Int):(tailB n).size≤2:=by
 unfold tailB;split
 ·exact Nat.zero_le _
 ·rw [ByteArray.size_append,cap_size];exact Nat.le_refl _
theorem head_size (k:Int):(headK k).size≤1:=by
 unfold headK;split
 ·exact Nat.zero_le _
 ·exact Nat.le_refl _
theorem turnT_is (m:Mv) (h:m.p=0∨(1≤m.p∧m.p≤6)) (w:World):Calls Tryz.prog 69 #[.agg (ml m).toArray] w fun e w'=>e=.returned (.string (tailB m.p))∧Kept w w':=by
 have HM:=Qh (MAt.new w m);have HK0:=Qh ((Kept.refl w).alloc (.cells (ml m).toArray 28));have cp:=HM.out.p;by_cases h1:m.p=0
 ·have HV:Hid (tailB m.p=⟨#[]⟩):=by show _=_;unfold tailB;rw [if_pos h1]
  rw [h1] at cp HV;rw [h1];go_enter Tryz.func69,Tryz.ntmps69;go_wp2;go_ret;exact ⟨by rw [HV.out];rfl,HK0.out⟩
 ·have HV:Hid (tailB m.p=⟨#[61]⟩++capK m.p):=by show _=_;unfold tailB;rw [if_neg h1]
  have b1:(m.p == 0)=false:=beq_eq_false_iff_ne.2 h1;have HC:=Qh (fun w=>capital_is m.p (by omega) w);have hs:Hid ((capK m.p).size=1):=cap_size _;clear h h1;generalize capK m.p=L at *;have HJ:=Qh (fun g w hh=>together2 ⟨#[61]⟩ L (by have:=hs.out;show 1+_≤_;omega) g w hh);go_enter Tryz.func69,Tryz.ntmps69;go_wp2_with fail
  refine (HC.out _).mono ?_;rintro e w1 ⟨rfl,k1⟩;have HK1:=Qh ((HK0.out.trans k1).alloc (.cells #[.string ⟨#[61]⟩,.string L] 9));have HN:=Qh (heap_alloc_new w1 (.cells #[.string ⟨#[61]⟩,.string L] 9));clear k1;go_wp2_with fail
  refine (HJ.out _ _ HN.out).mono ?_;rintro e w2 ⟨rfl,k2⟩;have HK2:=Qh (HK1.out.trans k2);clear k2;go_wp2;go_ret;exact ⟨by rw [HV.out];rfl,HK2.out⟩
theorem castT_is (m:Mv) (ho:On m) (w:World):Calls Tryz.prog 65 #[.agg (ml m).toArray] w fun e w'=>e=.returned (.string (Js m))∧Kept w w':=by
 have HM:=Qh (MAt.new w m);have HK0:=Qh ((Kept.refl w).alloc (.cells (ml m).toArray 28));have HF1:=Qh (fun w=>Jr m.f w ho.f0 ho.f1);have HF2:=Qh (fun w=>Jr m.t w ho.t0 ho.t1);clear ho;by_cases h1:m.f % 8<m.t % 8
 ·have HV:Hid (Js m=⟨#[79,45,79]⟩):=by show _=_;unfold Js;rw [if_pos h1]
  have b1:decide (m.f % 8<m.t % 8)=true:=decide_eq_true h1;go_enter Tryz.func65,Tryz.ntmps65;go_wp2;refine wp_region_held_drew (S:=Kept _) (by kernel_rfl) (Kept.refl _).drew (fun Qj=>?_);refine rT 0 3 (.pointer (some ⟨w.heap.size,1,none⟩)) rfl rfl Qj ?_;simp only [pA,pN,sZ,sU];refine rC 1 4 (.int .i64 m.t) rfl rfl (fun _ h=>Qa h (HM.out.t)) Qj ?_;simp only [pA,pN,sZ,sU];refine rT 3 6 (.pointer (some ⟨w.heap.size,0,none⟩)) rfl rfl Qj ?_;simp only [pA,pN,sZ,sU];refine rC 4 7 (.int .i64 m.f) rfl rfl (fun _ h=>Qa h (HM.out.f)) Qj ?_;simp only [pA,pN,sZ,sU];refine rR 2 rfl (fun K hK=>?_);go_simp;refine (HF2.out _).mono ?_;rintro e x1 ⟨rfl,gx1⟩;refine hK.out _ _ (Qj.trans gx1) (fun _=>?_);replace Qj:=Qj.trans gx1;clear hK K;refine rR 5 rfl (fun K hK=>?_);go_simp;refine (HF1.out _).mono ?_;rintro e x2 ⟨rfl,gx2⟩;refine hK.out _ _ (Qj.trans gx2) (fun _=>?_);replace Qj:=Qj.trans gx2;clear hK K;refine rT 6 9 (.bool true) rfl rfl Qj ?_;simp only [pA,pN,sZ,sU];refine wpAnyH_done (by kernel_rfl) ?_ _;go_wp2;go_ret;exact ⟨by rw [HV.out];rfl,HK0.out.trans Qj⟩
 ·have HV:Hid (Js m=⟨#[79,45,79,45,79]⟩):=by show _=_;unfold Js;rw [if_neg h1]
  have b1:decide (m.f % 8<m.t % 8)=false:=decide_eq_false h1;go_enter Tryz.func65,Tryz.ntmps65;go_wp2;refine wp_region_held_drew (S:=Kept _) (by kernel_rfl) (Kept.refl _).drew (fun Qj=>?_);refine rT 0 3 (.pointer (some ⟨w.heap.size,1,none⟩)) rfl rfl Qj ?_;simp only [pA,pN,sZ,sU];refine rC 1 4 (.int .i64 m.t) rfl rfl (fun _ h=>Qa h (HM.out.t)) Qj ?_;simp only [pA,pN,sZ,sU];refine rT 3 6 (.pointer (some ⟨w.heap.size,0,none⟩)) rfl rfl Qj ?_;simp only [pA,pN,sZ,sU];refine rC 4 7 (.int .i64 m.f) rfl rfl (fun _ h=>Qa h (HM.out.f)) Qj ?_;simp only [pA,pN,sZ,sU];refine rR 2 rfl (fun K hK=>?_);go_simp;refine (HF2.out _).mono ?_;rintro e x1 ⟨rfl,gx1⟩;refine hK.out _ _ (Qj.trans gx1) (fun _=>?_);replace Qj:=Qj.trans gx1;clear hK K;refine rR 5 rfl (fun K hK=>?_);go_simp;refine (HF1.out _).mono ?_;rintro e x2 ⟨rfl,gx2⟩;refine hK.out _ _ (Qj.trans gx2) (fun _=>?_);replace Qj:=Qj.trans gx2;clear hK K;refine rT 6 9 (.bool false) rfl rfl Qj ?_;simp only [pA,pN,sZ,sU];refine wpAnyH_done (by kernel_rfl) ?_ _;go_wp2;go_ret;exact ⟨by rw [HV.out];rfl,HK0.out.trans Qj⟩
theorem kind_is (p:Ps) (hB:Brd p.B) (m:Mv) (ho:On m) (w:World):Calls Tryz.prog 68 #[.agg (pl p).toArray,.agg (ml m).toArray] w fun e w'=>e=.returned (.int .i64 (kdI p m))∧Kept w w':=by
 have HP:Hid (PAt _ _ p):=⟨hB.1,heap_alloc2_old w (.cells (pl p).toArray 26) (.cells (ml m).toArray 28)⟩;have HM:Hid (MAt _ _ m):=⟨heap_alloc2_new w (.cells (pl p).toArray 26) (.cells (ml m).toArray 28)⟩;have HK0:=Qh (((Kept.refl w).alloc (.cells (pl p).toArray 26)).alloc (.cells (ml m).toArray 28));have hz:=Qh (Jf hB.1);have HV:Hid (kdI p m=kindI (bAt p.B m.f)):=rfl;have HA:=Qh (fun w=>man_a p.B hB m.f w);have ha:manA p.B m.f=bAt p.B m.f:=by unfold manA;rw [if_pos ⟨ho.f0,ho.f1⟩]
 rw [ha] at HA;have HKd:=Qh (fun w=>Qar (bAt p.B m.f) w);have cf:=HM.out.f;clear ha ho;generalize bAt p.B m.f=x at *;generalize kindI x=y at *;go_enter Tryz.func68,Tryz.ntmps68;go_wp2_with (first|(refine Qc (by rfl) _ rfl _ rfl _ (HP.out) ?_)|(refine Qd (by rfl) _ rfl _ rfl _ (HP.out) ?_)|(refine Qe (by rfl) _ rfl _ rfl _ (HM.out) ?_))
 refine (HA.out _).mono ?_;rintro e w1 ⟨rfl,k1⟩;have HK1:=Qh (HK0.out.trans k1);clear k1;go_wp2_with fail
 refine (HKd.out _).mono ?_;rintro e w' ⟨rfl,rfl⟩;go_wp2;go_ret;exact ⟨by rw [HV.out];rfl,HK1.out⟩
theorem takes_is (p:Ps) (hB:Brd p.B) (m:Mv) (h:okM p m=true) (w:World) (hT:TabM w):Calls Tryz.prog 66 #[.agg (pl p).toArray,.agg (ml m).toArray] w fun e w'=>e=.returned (.bool (takeB p m))∧Kept w w':=by
 have HP:Hid (PAt _ _ p):=⟨hB.1,heap_alloc2_old w (.cells (pl p).toArray 26) (.cells (ml m).toArray 28)⟩;have HM:Hid (MAt _ _ m):=⟨heap_alloc2_new w (.cells (pl p).toArray 26) (.cells (ml m).toArray 28)⟩;have HK0:=Qh (((Kept.refl w).alloc (.cells (pl p).toArray 26)).alloc (.cells (ml m).toArray 28));have HT:=Qh (hT.kept HK0.out);have HC:=Qh (fun w hw=>takes_yes p hB m h w hw);generalize takeB p m=tb at *;generalize takeS p m=ts at *;clear hB hT h;go_enter Tryz.func66,Tryz.ntmps66;go_wp2_with (first|(refine Qc (by rfl) _ rfl _ rfl _ (HP.out) ?_)|(refine Qd (by rfl) _ rfl _ rfl _ (HP.out) ?_)|(refine Qe (by rfl) _ rfl _ rfl _ (HM.out) ?_))
 refine (HC.out _ HT.out).mono ?_;rintro e w1 ⟨rfl,k1⟩;have HK1:=Qh (HK0.out.trans k1);clear k1;go_wp2;go_ret;exact ⟨rfl,HK1.out⟩
theorem mark_is (r g:Nat) (a b:Addr) (q:Ps) (hB:Brd q.B) (hr:pwI q=0) (w:World) (hT:TabG w) (hR:RuAt w r g a b) :
  Calls Tryz.prog 27 #[.pointer (some ⟨r,0,none⟩),.agg (pl q).toArray] w fun e w'=>e=.returned (.string (markB q))∧Kept w w':=by
 have HP:=Qh (PAt.new w hB.1);have HK0:=Qh ((Kept.refl w).alloc (.cells (pl q).toArray 26));have HT:=Qh (hT.kept HK0.out);have HR:=Qh (hR.kept HK0.out);have hpl:Hid (q.B.length=64):=hB.1;have HMt:=Qh (fun w hT hR=>mate_is r g a b q hB w hT hR);have HCk:=Qh (fun w hS hR=>rchk_is r g a b q hB w hS hR);have hst:=stuck_len q hr;rw [hst] at HMt;have HV:Hid (markB q=if Qq q.B q.t then (if (legL q).length=0 then ⟨#[35]⟩ else ⟨#[43]⟩) else ⟨#[]⟩):=rfl;clear hst hr hT hR hB;generalize (legL q).length=n at *
 cases hc:Qq q.B q.t
 ·rw [hc] at HMt HCk HV
  have HV':Hid (markB q=⟨#[]⟩):=HV.out;rw [Bool.false_and] at HMt;go_enter Tryz.func27,Tryz.ntmps27;go_wp2_with (first|(refine Qc (by rfl) _ rfl _ rfl _ (HP.out) ?_)|(refine Qd (by rfl) _ rfl _ rfl _ (HP.out) ?_))
  refine (HMt.out _ HT.out HR.out).mono ?_;rintro e w1 ⟨rfl,k1⟩;have HK1:=Qh (HK0.out.trans k1);have HP1:=Qh (HP.out.kept k1);have HT1:=Qh (HT.out.kept k1);have HR1:=Qh (HR.out.kept k1);clear k1;go_wp2_with (first|(refine Qc (by rfl) _ rfl _ rfl _ (HP1.out) ?_)|(refine Qd (by rfl) _ rfl _ rfl _ (HP1.out) ?_))
  refine (HCk.out _ HT1.out.tabm.tabs.steps HR1.out).mono ?_;rintro e w2 ⟨rfl,k2⟩;have HK2:=Qh (HK1.out.trans k2);clear k2;go_wp2;go_ret;exact ⟨by rw [HV'.out];rfl,HK2.out⟩
 ·rw [hc] at HMt HCk HV
  by_cases hn:n=0
  ·have HV':Hid (markB q=⟨#[35]⟩):=by show _=_;rw [HV.out,if_pos rfl,if_pos hn]
   subst hn;have hb:(true && (0 == 0:Bool))=true:=rfl;rw [show (true && ((0:Nat) == 0))=true from rfl] at HMt;go_enter Tryz.func27,Tryz.ntmps27;go_wp2_with (first|(refine Qc (by rfl) _ rfl _ rfl _ (HP.out) ?_)|(refine Qd (by rfl) _ rfl _ rfl _ (HP.out) ?_))
   refine (HMt.out _ HT.out HR.out).mono ?_;rintro e w1 ⟨rfl,k1⟩;have HK1:=Qh (HK0.out.trans k1);clear k1;go_wp2;go_ret;exact ⟨by rw [HV'.out];rfl,HK1.out⟩
  ·have HV':Hid (markB q=⟨#[43]⟩):=by show _=_;rw [HV.out,if_pos rfl,if_neg hn]
   have hb:(n == 0)=false:=beq_eq_false_iff_ne.2 hn;rw [hb,Bool.and_false] at HMt;go_enter Tryz.func27,Tryz.ntmps27;go_wp2_with (first|(refine Qc (by rfl) _ rfl _ rfl _ (HP.out) ?_)|(refine Qd (by rfl) _ rfl _ rfl _ (HP.out) ?_))
   refine (HMt.out _ HT.out HR.out).mono ?_;rintro e w1 ⟨rfl,k1⟩;have HK1:=Qh (HK0.out.trans k1);have HP1:=Qh (HP.out.kept k1);have HT1:=Qh (HT.out.kept k1);have HR1:=Qh (HR.out.kept k1);clear k1;go_wp2_with (first|(refine Qc (by rfl) _ rfl _ rfl _ (HP1.out) ?_)|(refine Qd (by rfl) _ rfl _ rfl _ (HP1.out) ?_))
   refine (HCk.out _ HT1.out.tabm.tabs.steps HR1.out).mono ?_;rintro e w2 ⟨rfl,k2⟩;have HK2:=Qh (HK1.out.trans k2);clear k2;go_wp2;go_ret;exact ⟨by rw [HV'.out];rfl,HK2.out⟩
end Go.Proofs.YtlpeiolgcaddjaaGreatDoor
