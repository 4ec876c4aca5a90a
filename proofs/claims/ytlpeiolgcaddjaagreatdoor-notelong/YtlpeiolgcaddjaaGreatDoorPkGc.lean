/- GeE: my texts, in their order. -/
import Derived.Test.YtlpeiolgcaddjaaGreatDoorPkGb
namespace Go.Proofs.YtlpeiolgcaddjaaGreatDoor
open Go.RowKit
set_option linter.unusedVariables false
set_option linter.unusedSimpArgs false
set_option maxRecDepth 100000
def mr (a b c:Int):List Value:=[.int .i64 a,.int .i64 b,.int .i64 c]
theorem sizeMr:(Tryz.prog.info? 185).map (·.size)=some 3:=by kernel_rfl
theorem mr_sz (a b c:Int):(Tryz.prog.info? 185).map (·.size)=some (mr a b c).toArray.size:=by rw [sizeMr];rfl
theorem zeroMr:(Tryz.prog.info? 185).map (fun i=>(i.zero,i.size))=some (some (.agg (mr 0 0 0).toArray),3):=by kernel_rfl
theorem run_zero_mr (w:World):(zeroValue 185).run Tryz.prog w=.ok (.agg (mr 0 0 0).toArray) w:=(zero_of_info zeroMr).1 w
theorem mr_one (a b c:Int):(mr a b c).toArray.all (·.oneCell')=true:=by
 rw [Array.all_eq_true_iff_forall_mem];intro v hv;simp only [List.mem_toArray,mr,List.mem_cons,List.not_mem_nil,or_false] at hv;rcases hv with rfl|rfl|rfl <;> rfl
theorem wpList_new_mr {ops:Array Oper} {rest:List Oper} {o:Oper} {a:Act} {w:World} {Q:Exit→Act→World→Prop} (hgd:o.guard=none) (ho:o.op=.alloc 185)
  (h:wpList Tryz.prog ops Q rest (a.put o.dst (.pointer (some ⟨w.heap.size,0,none⟩))) (w.alloc (.cells (mr 0 0 0).toArray 185))):wpList Tryz.prog ops Q (o::rest) a w:=by
 refine wpList_plain hgd fun _ hK=>?_
 unfold Oper.wp execOp;simp only [ho,Instr.alloc,Sem.run_bind,run_zero_mr,Result.andThen_ok,newVar,newRow,Value.cells];exact hK _ _ h
theorem Qad {ops:Array Oper} {rest:List Oper} {o:Oper} {a:Act} {w:World} {Q:Exit→Act→World→Prop} (hgd:o.guard=none) (x y:Operand) (ho:o.op=.store 185 x y)
  (i j k:Int) (hx:a.eval x=.pointer (some ⟨w.heap.size,0,none⟩)) (hy:a.eval y=.agg (mr i j k).toArray)
  (h:wpList Tryz.prog ops Q rest (a.put o.dst undef) (w.alloc (.cells (mr i j k).toArray 185))):wpList Tryz.prog ops Q (o::rest) a (w.alloc (.cells (mr 0 0 0).toArray 185)):=by
 refine wpList_store_row hgd 185 x y ho w.heap.size (mr i j k).toArray hx hy 185 _ (heap_alloc_new w _) (mr_sz i j k) rfl (mr_one _ _ _) ?_;rw [World.setRow_alloc_new];exact h
theorem step_k (s f r t:Int) (w:World) (s0:0≤s) (s1:s<64) (a:0≤s % 8+f) (b:s % 8+f<8) (c:0≤s / 8+r) (d:s / 8+r<8) (e:(s / 8+r)*8+(s % 8+f)=t) :
  Calls Tryz.prog 158 #[.int .i64 s,.int .i64 f,.int .i64 r] w fun e w'=>e=.returned (.tuple #[.int .i64 t,.bool true])∧Kept w w':=by
 subst e;exact (step_yes s f r w s0 s1 a b c d).mono fun _ _ ⟨a,b⟩=>⟨a,b ▸ Kept.refl _⟩
theorem man_on (B:List Int) (hB:Brd B) (s:Int) (h0:0≤s) (h1:s<64) (w:World):Calls Tryz.prog 121 #[.agg (cl B).toArray,.int .i64 s] w fun e w'=>e=.returned (.int .i64 (bAt B s))∧Kept w w':=by
 have:=man_a B hB s w;unfold manA at this;rwa [if_pos ⟨h0,h1⟩] at this
set_option maxHeartbeats 4000000 in
theorem ahead_w1 (p:Ps) (hB:Brd p.B) (hp:p.t=0) (s:Nat) (s0:8≤s) (s1:s<56) (hsec:¬ (s:Int) / 8=1) (w:World) (hT:TabG w):Calls Tryz.prog 176 #[.agg (pl p).toArray,.int .i64 (s:Int)] w (NewZ w (ahN p s)):=by
 have hHP:=PAt.new w hB.1;have HK0:=Qh ((Kept.refl w).alloc (.cells (pl p).toArray 26));have HT:=Qh (hT.kept HK0.out);have ht:=hHP.turn;rw [hp] at ht;have HP:=Qh hHP
 have hrng:Hid ((w.alloc (.cells (pl p).toArray 26)).rangeAt 8 0 (mr 1 1 7)):=by
  intro j v hv;have hj:j<3:=(List.getElem?_eq_some_iff.1 hv).1;have hm:=HT.out.mar (0+j) (by omega);rw [hm];have:j=0∨j=1∨j=2:=by omega
  rcases this with rfl|rfl|rfl <;> exact hv
 have HRk:=Qh (fun w=>Jj (s:Int) w);have hrk:rkI (s:Int)=(s:Int) / 8:=by unfold rkI;rw [if_pos ⟨by omega,by omega⟩]
 rw [hrk] at HRk;have hu:upI p.t=8:=by rw [hp];rfl
 have hs2:secI p.t=1:=by rw [hp];rfl
 have HS1:=Qh (fun w=>step_k (s:Int) 0 (1) ((s:Int)+8) w (by omega) (by omega) (by omega) (by omega) (by omega) (by omega) (by omega));have HC1:=Qh (fun w=>man_on p.B hB ((s:Int)+8) (by omega) (by omega) w)
 have HV:Hid (ahN p s=if bAt p.B ((s:Int)+8)≠0 then [] else [(s:Int)+8]):=by
  show _=_;unfold ahN;rw [hu];split
  ·rfl
  ·rw [if_neg (fun h=>hsec (by rw [← hs2];exact h.1))]
 have hq:((s:Int) / 8 == 1)=false:=by rw [beq_eq_false_iff_ne];exact hsec
 generalize bAt p.B ((s:Int)+8)=y1 at *;generalize (s:Int)+8=x1 at *;generalize (s:Int) / 8=rk at *;clear hrk hB hT hu hs2 hsec hHP hp s0 s1;go_enter Tryz.func176,Tryz.ntmps176;go_wp2_with (first|(refine wpList_load_mid rfl 185 _ rfl 8 0 rfl (mr 1 1 7) _ hrng.out Tryz.underlying185 rfl sizeMr ?_)|(with_reducible refine wpList_new_mr rfl rfl ?_)|((with_reducible refine Qad rfl _ _ rfl 1 1 7 ?_ ?_ ?_);exact rfl;exact rfl))
 have hRM:RAt _ _ (mr 1 1 7) 185:=⟨heap_alloc_new (w.alloc (.cells (pl p).toArray 26)) (.cells (mr 1 1 7).toArray 185)⟩;have m0:((w.alloc (.cells (pl p).toArray 26)).alloc (.cells (mr 1 1 7).toArray 185)).cell? ⟨w.heap.size+1,0,none⟩=some (Value.int .i64 (1)):=by have h:=hRM.cellK 0;rw [show (w.alloc (.cells (pl p).toArray 26)).heap.size=w.heap.size+1 by simp] at h;exact h
 have m1:((w.alloc (.cells (pl p).toArray 26)).alloc (.cells (mr 1 1 7).toArray 185)).cell? ⟨w.heap.size+1,1,none⟩=some (Value.int .i64 1):=by have h:=hRM.cellK 1;rw [show (w.alloc (.cells (pl p).toArray 26)).heap.size=w.heap.size+1 by simp] at h;exact h
 have M0:=Qh m0;have M1:=Qh m1;have HK01:=Qh ((Kept.refl (w.alloc (.cells (pl p).toArray 26))).alloc (.cells (mr 1 1 7).toArray 185));clear hRM m0 m1;refine wp_region_held_drew (S:=Kept _) (by kernel_rfl) (Kept.refl _).drew (fun Qj=>?_);refine rT 0 15 (.int .i64 (s:Int)) rfl rfl Qj ?_;simp only [Act.put,sA,sZ,sU];refine rT 2 17 (.pointer (some ⟨w.heap.size+1,1,none⟩)) rfl rfl Qj ?_;simp only [pA,pN,sZ,sU];refine rC 3 18 (.int .i64 1) rfl rfl (fun _ h=>Qa h (M1.out)) Qj ?_;simp only [pA,pN,sZ,sU];refine rR 1 rfl (fun K hK=>?_);go_simp;refine (HRk.out _).mono ?_;rintro e W ⟨rfl,gW⟩;refine hK.out _ _ (Qj.trans gW) (fun _=>?_);replace Qj:=Qj.trans gW;clear hK K;refine rT 4 19 (.bool false) rfl rfl Qj ?_;simp only [pA,pN,sZ,sU];refine wpAnyH_done (by kernel_rfl) ?_ _;have HKW:=Qh (HK01.out.trans Qj);have m0:=Qa Qj M0.out;have M0W:=Qh m0;clear Qj m0;go_wp2
 go_loopw [7,8] (fun t7 t8 wr=>((t8=.int .i64 1∧OwnZ wr W.heap.size t7 [])∨(t8=.int .i64 2∧OwnZ wr W.heap.size t7 [x1]∧y1=0))∧Kept W wr) (fun _ t8 _=>4-(intOf t8).toNat)
 case atStart=>exact ⟨.inl ⟨rfl,OwnZ.nil _ _⟩,Kept.refl _⟩
 case round =>
  obtain ⟨hinv,hK⟩:=hrel;have HK:=Qh hK;have m0:=Qa hK M0W.out;clear hK
  skip
  ·rcases hinv with ⟨rfl,hO⟩|⟨rfl,hO,hy1⟩
   ·skip
    obtain ⟨a,cap,rfl⟩:=hO.slice;have HO:=Qh hO;clear hO;by_cases h0:y1≠0
    ·have hb:(y1 != 0)=true:=bne_iff_ne.2 h0
     have HE:Hid (ahN p s=[]):=by show _=_;rw [HV.out,if_pos h0]
     go_wp2_with fail
     refine (HS1.out _).mono ?_;rintro e w2 ⟨rfl,k2⟩;have HP2:=Qh (HP.out.kept (HKW.out.trans (HK.out.trans k2)));have HO2:=Qh (HO.out.kept k2);have HK2:=Qh (HK.out.trans k2);clear k2;go_wp2_with (first|(refine Qc (by rfl) _ rfl _ rfl _ (HP2.out) ?_)|(refine Qd (by rfl) _ rfl _ rfl _ (HP2.out) ?_))
     refine (HC1.out _).mono ?_;rintro e w3 ⟨rfl,k3⟩;have HK3:=Qh (HK2.out.trans k3);have HO3:=Qh (HO2.out.kept k3);clear k3;go_wp2;go_ret;exact ⟨_,rfl,by rw [HE.out];exact HO3.out.low (HK0.out.trans HKW.out).size,(HK0.out.trans HKW.out).trans HK3.out⟩
    ·replace h0:y1=0:=by simpa using h0
     have hb:(y1 != 0)=false:=by rw [h0];rfl
     go_wp2_with fail
     refine (HS1.out _).mono ?_;rintro e w2 ⟨rfl,k2⟩;have HP2:=Qh (HP.out.kept (HKW.out.trans (HK.out.trans k2)));replace HO:=Qh (HO.out.kept k2);have HK2:=Qh (HK.out.trans k2);clear k2;go_wp2_with (first|(refine Qc (by rfl) _ rfl _ rfl _ (HP2.out) ?_)|(refine Qd (by rfl) _ rfl _ rfl _ (HP2.out) ?_))
     refine (HC1.out _).mono ?_;rintro e w3 ⟨rfl,k3⟩;have HK3:=Qh (HK2.out.trans k3);have KA:=Qh ((Kept.refl w3).alloc (.cells #[.int .i64 x1] 3));go_wp2_with (at_builtin;refine Qs rfl _ _ rfl W.heap.size w3.heap.size _ _ [] [x1] rfl rfl ((HO.out.kept k3).kept KA.out) (LsZ.lit _ [x1] (by simp)) ?c1 ?c2 ?_)
     case c1=>simp
     case c2=>have:=HK3.out.size;simp;omega
     intro v' w4 hO' hg;have hK4:=((HO.out.kept k3).kept KA.out).grown (HK3.out.trans KA.out) (Nat.le_refl _) hg;obtain ⟨a',cap',rfl⟩:=hO'.slice;have HO4:=Qh hO';have HK4:=Qh hK4;clear hO' hK4 hg k3;go_wp2;go_roundw
     case rel=>exact ⟨.inr ⟨rfl,HO4.out,h0⟩,HK4.out⟩
     case measure=>simp [intOf]
   ·skip
    obtain ⟨a,cap,rfl⟩:=hO.slice;have HO:=Qh hO;have HE:Hid (ahN p s=[x1]):=by show _=_;rw [HV.out,if_neg (by simpa using hy1)]
    clear hO;go_wp2;go_ret;exact ⟨_,rfl,by rw [HE.out];exact HO.out.low (HK0.out.trans HKW.out).size,(HK0.out.trans HKW.out).trans HK.out⟩
set_option maxHeartbeats 4000000 in
theorem ahead_b1 (p:Ps) (hB:Brd p.B) (hp:p.t=1) (s:Nat) (s0:8≤s) (s1:s<56) (hsec:¬ (s:Int) / 8=6) (w:World) (hT:TabG w):Calls Tryz.prog 176 #[.agg (pl p).toArray,.int .i64 (s:Int)] w (NewZ w (ahN p s)):=by
 have hHP:=PAt.new w hB.1;have HK0:=Qh ((Kept.refl w).alloc (.cells (pl p).toArray 26));have HT:=Qh (hT.kept HK0.out);have ht:=hHP.turn;rw [hp] at ht;have HP:=Qh hHP
 have hrng:Hid ((w.alloc (.cells (pl p).toArray 26)).rangeAt 8 3 (mr (-1) 6 0)):=by
  intro j v hv;have hj:j<3:=(List.getElem?_eq_some_iff.1 hv).1;have hm:=HT.out.mar (3+j) (by omega);rw [hm];have:j=0∨j=1∨j=2:=by omega
  rcases this with rfl|rfl|rfl <;> exact hv
 have HRk:=Qh (fun w=>Jj (s:Int) w);have hrk:rkI (s:Int)=(s:Int) / 8:=by unfold rkI;rw [if_pos ⟨by omega,by omega⟩]
 rw [hrk] at HRk;have hu:upI p.t=(-8):=by rw [hp];rfl
 have hs2:secI p.t=6:=by rw [hp];rfl
 have HS1:=Qh (fun w=>step_k (s:Int) 0 ((-1)) ((s:Int)+(-8)) w (by omega) (by omega) (by omega) (by omega) (by omega) (by omega) (by omega));have HC1:=Qh (fun w=>man_on p.B hB ((s:Int)+(-8)) (by omega) (by omega) w)
 have HV:Hid (ahN p s=if bAt p.B ((s:Int)+(-8))≠0 then [] else [(s:Int)+(-8)]):=by
  show _=_;unfold ahN;rw [hu];split
  ·rfl
  ·rw [if_neg (fun h=>hsec (by rw [← hs2];exact h.1))]
 have hq:((s:Int) / 8 == 6)=false:=by rw [beq_eq_false_iff_ne];exact hsec
 generalize bAt p.B ((s:Int)+(-8))=y1 at *;generalize (s:Int)+(-8)=x1 at *;generalize (s:Int) / 8=rk at *;clear hrk hB hT hu hs2 hsec hHP hp s0 s1;go_enter Tryz.func176,Tryz.ntmps176;go_wp2_with (first|(refine wpList_load_mid rfl 185 _ rfl 8 3 rfl (mr (-1) 6 0) _ hrng.out Tryz.underlying185 rfl sizeMr ?_)|(with_reducible refine wpList_new_mr rfl rfl ?_)|((with_reducible refine Qad rfl _ _ rfl (-1) 6 0 ?_ ?_ ?_);exact rfl;exact rfl))
 have hRM:RAt _ _ (mr (-1) 6 0) 185:=⟨heap_alloc_new (w.alloc (.cells (pl p).toArray 26)) (.cells (mr (-1) 6 0).toArray 185)⟩;have m0:((w.alloc (.cells (pl p).toArray 26)).alloc (.cells (mr (-1) 6 0).toArray 185)).cell? ⟨w.heap.size+1,0,none⟩=some (Value.int .i64 ((-1))):=by have h:=hRM.cellK 0;rw [show (w.alloc (.cells (pl p).toArray 26)).heap.size=w.heap.size+1 by simp] at h;exact h
 have m1:((w.alloc (.cells (pl p).toArray 26)).alloc (.cells (mr (-1) 6 0).toArray 185)).cell? ⟨w.heap.size+1,1,none⟩=some (Value.int .i64 6):=by have h:=hRM.cellK 1;rw [show (w.alloc (.cells (pl p).toArray 26)).heap.size=w.heap.size+1 by simp] at h;exact h
 have M0:=Qh m0;have M1:=Qh m1;have HK01:=Qh ((Kept.refl (w.alloc (.cells (pl p).toArray 26))).alloc (.cells (mr (-1) 6 0).toArray 185));clear hRM m0 m1;refine wp_region_held_drew (S:=Kept _) (by kernel_rfl) (Kept.refl _).drew (fun Qj=>?_);refine rT 0 15 (.int .i64 (s:Int)) rfl rfl Qj ?_;simp only [Act.put,sA,sZ,sU];refine rT 2 17 (.pointer (some ⟨w.heap.size+1,1,none⟩)) rfl rfl Qj ?_;simp only [pA,pN,sZ,sU];refine rC 3 18 (.int .i64 6) rfl rfl (fun _ h=>Qa h (M1.out)) Qj ?_;simp only [pA,pN,sZ,sU];refine rR 1 rfl (fun K hK=>?_);go_simp;refine (HRk.out _).mono ?_;rintro e W ⟨rfl,gW⟩;refine hK.out _ _ (Qj.trans gW) (fun _=>?_);replace Qj:=Qj.trans gW;clear hK K;refine rT 4 19 (.bool false) rfl rfl Qj ?_;simp only [pA,pN,sZ,sU];refine wpAnyH_done (by kernel_rfl) ?_ _;have HKW:=Qh (HK01.out.trans Qj);have m0:=Qa Qj M0.out;have M0W:=Qh m0;clear Qj m0;go_wp2
 go_loopw [7,8] (fun t7 t8 wr=>((t8=.int .i64 1∧OwnZ wr W.heap.size t7 [])∨(t8=.int .i64 2∧OwnZ wr W.heap.size t7 [x1]∧y1=0))∧Kept W wr) (fun _ t8 _=>4-(intOf t8).toNat)
 case atStart=>exact ⟨.inl ⟨rfl,OwnZ.nil _ _⟩,Kept.refl _⟩
 case round =>
  obtain ⟨hinv,hK⟩:=hrel;have HK:=Qh hK;have m0:=Qa hK M0W.out;clear hK
  skip
  ·rcases hinv with ⟨rfl,hO⟩|⟨rfl,hO,hy1⟩
   ·skip
    obtain ⟨a,cap,rfl⟩:=hO.slice;have HO:=Qh hO;clear hO;by_cases h0:y1≠0
    ·have hb:(y1 != 0)=true:=bne_iff_ne.2 h0
     have HE:Hid (ahN p s=[]):=by show _=_;rw [HV.out,if_pos h0]
     go_wp2_with fail
     refine (HS1.out _).mono ?_;rintro e w2 ⟨rfl,k2⟩;have HP2:=Qh (HP.out.kept (HKW.out.trans (HK.out.trans k2)));have HO2:=Qh (HO.out.kept k2);have HK2:=Qh (HK.out.trans k2);clear k2;go_wp2_with (first|(refine Qc (by rfl) _ rfl _ rfl _ (HP2.out) ?_)|(refine Qd (by rfl) _ rfl _ rfl _ (HP2.out) ?_))
     refine (HC1.out _).mono ?_;rintro e w3 ⟨rfl,k3⟩;have HK3:=Qh (HK2.out.trans k3);have HO3:=Qh (HO2.out.kept k3);clear k3;go_wp2;go_ret;exact ⟨_,rfl,by rw [HE.out];exact HO3.out.low (HK0.out.trans HKW.out).size,(HK0.out.trans HKW.out).trans HK3.out⟩
    ·replace h0:y1=0:=by simpa using h0
     have hb:(y1 != 0)=false:=by rw [h0];rfl
     go_wp2_with fail
     refine (HS1.out _).mono ?_;rintro e w2 ⟨rfl,k2⟩;have HP2:=Qh (HP.out.kept (HKW.out.trans (HK.out.trans k2)));replace HO:=Qh (HO.out.kept k2);have HK2:=Qh (HK.out.trans k2);clear k2;go_wp2_with (first|(refine Qc (by rfl) _ rfl _ rfl _ (HP2.out) ?_)|(refine Qd (by rfl) _ rfl _ rfl _ (HP2.out) ?_))
     refine (HC1.out _).mono ?_;rintro e w3 ⟨rfl,k3⟩;have HK3:=Qh (HK2.out.trans k3);have KA:=Qh ((Kept.refl w3).alloc (.cells #[.int .i64 x1] 3));go_wp2_with (at_builtin;refine Qs rfl _ _ rfl W.heap.size w3.heap.size _ _ [] [x1] rfl rfl ((HO.out.kept k3).kept KA.out) (LsZ.lit _ [x1] (by simp)) ?c1 ?c2 ?_)
     case c1=>simp
     case c2=>have:=HK3.out.size;simp;omega
     intro v' w4 hO' hg;have hK4:=((HO.out.kept k3).kept KA.out).grown (HK3.out.trans KA.out) (Nat.le_refl _) hg;obtain ⟨a',cap',rfl⟩:=hO'.slice;have HO4:=Qh hO';have HK4:=Qh hK4;clear hO' hK4 hg k3;go_wp2;go_roundw
     case rel=>exact ⟨.inr ⟨rfl,HO4.out,h0⟩,HK4.out⟩
     case measure=>simp [intOf]
   ·skip
    obtain ⟨a,cap,rfl⟩:=hO.slice;have HO:=Qh hO;have HE:Hid (ahN p s=[x1]):=by show _=_;rw [HV.out,if_neg (by simpa using hy1)]
    clear hO;go_wp2;go_ret;exact ⟨_,rfl,by rw [HE.out];exact HO.out.low (HK0.out.trans HKW.out).size,(HK0.out.trans HKW.out).trans HK.out⟩
set_option maxHeartbeats 4000000 in
theorem ahead_w2 (p:Ps) (hB:Brd p.B) (hp:p.t=0) (s:Nat) (s0:8≤s) (s1:s<56) (hsec:(s:Int) / 8=1) (w:World) (hT:TabG w):Calls Tryz.prog 176 #[.agg (pl p).toArray,.int .i64 (s:Int)] w (NewZ w (ahN p s)):=by
 have hHP:=PAt.new w hB.1;have HK0:=Qh ((Kept.refl w).alloc (.cells (pl p).toArray 26));have HT:=Qh (hT.kept HK0.out);have ht:=hHP.turn;rw [hp] at ht;have HP:=Qh hHP
 have hrng:Hid ((w.alloc (.cells (pl p).toArray 26)).rangeAt 8 0 (mr 1 1 7)):=by
  intro j v hv;have hj:j<3:=(List.getElem?_eq_some_iff.1 hv).1;have hm:=HT.out.mar (0+j) (by omega);rw [hm];have:j=0∨j=1∨j=2:=by omega
  rcases this with rfl|rfl|rfl <;> exact hv
 have HRk:=Qh (fun w=>Jj (s:Int) w);have hrk:rkI (s:Int)=(s:Int) / 8:=by unfold rkI;rw [if_pos ⟨by omega,by omega⟩]
 rw [hrk] at HRk;have hu:upI p.t=8:=by rw [hp];rfl
 have hs2:secI p.t=1:=by rw [hp];rfl
 have HS1:=Qh (fun w=>step_k (s:Int) 0 (1) ((s:Int)+8) w (by omega) (by omega) (by omega) (by omega) (by omega) (by omega) (by omega));have HC1:=Qh (fun w=>man_on p.B hB ((s:Int)+8) (by omega) (by omega) w);have HS2:=Qh (fun w=>step_k (s:Int) 0 (2) ((s:Int)+2*8) w (by omega) (by omega) (by omega) (by omega) (by omega) (by omega) (by omega));have HC2:=Qh (fun w=>man_on p.B hB ((s:Int)+2*8) (by omega) (by omega) w)
 have HV:Hid (ahN p s=if bAt p.B ((s:Int)+8)≠0 then [] else if bAt p.B ((s:Int)+2*8)≠0 then [(s:Int)+8] else [(s:Int)+8,(s:Int)+2*8]):=by
  show _=_;unfold ahN;rw [hu];split
  ·rfl
  ·by_cases hq:bAt p.B ((s:Int)+2*8)=0
   ·rw [if_pos ⟨by rw [hs2];exact hsec,hq⟩,if_neg (by simpa using hq)]
   ·rw [if_neg (fun h=>hq h.2),if_pos hq]
 have hq:((s:Int) / 8 == 1)=true:=by rw [hsec];rfl
 generalize bAt p.B ((s:Int)+8)=y1 at *;generalize (s:Int)+8=x1 at *;generalize bAt p.B ((s:Int)+2*8)=y2 at *;generalize (s:Int)+2*8=x2 at *;generalize (s:Int) / 8=rk at *;clear hrk hB hT hu hs2 hsec hHP hp s0 s1;go_enter Tryz.func176,Tryz.ntmps176;go_wp2_with (first|(refine wpList_load_mid rfl 185 _ rfl 8 0 rfl (mr 1 1 7) _ hrng.out Tryz.underlying185 rfl sizeMr ?_)|(with_reducible refine wpList_new_mr rfl rfl ?_)|((with_reducible refine Qad rfl _ _ rfl 1 1 7 ?_ ?_ ?_);exact rfl;exact rfl))
 have hRM:RAt _ _ (mr 1 1 7) 185:=⟨heap_alloc_new (w.alloc (.cells (pl p).toArray 26)) (.cells (mr 1 1 7).toArray 185)⟩;have m0:((w.alloc (.cells (pl p).toArray 26)).alloc (.cells (mr 1 1 7).toArray 185)).cell? ⟨w.heap.size+1,0,none⟩=some (Value.int .i64 (1)):=by have h:=hRM.cellK 0;rw [show (w.alloc (.cells (pl p).toArray 26)).heap.size=w.heap.size+1 by simp] at h;exact h
 have m1:((w.alloc (.cells (pl p).toArray 26)).alloc (.cells (mr 1 1 7).toArray 185)).cell? ⟨w.heap.size+1,1,none⟩=some (Value.int .i64 1):=by have h:=hRM.cellK 1;rw [show (w.alloc (.cells (pl p).toArray 26)).heap.size=w.heap.size+1 by simp] at h;exact h
 have M0:=Qh m0;have M1:=Qh m1;have HK01:=Qh ((Kept.refl (w.alloc (.cells (pl p).toArray 26))).alloc (.cells (mr 1 1 7).toArray 185));clear hRM m0 m1;refine wp_region_held_drew (S:=Kept _) (by kernel_rfl) (Kept.refl _).drew (fun Qj=>?_);refine rT 0 15 (.int .i64 (s:Int)) rfl rfl Qj ?_;simp only [Act.put,sA,sZ,sU];refine rT 2 17 (.pointer (some ⟨w.heap.size+1,1,none⟩)) rfl rfl Qj ?_;simp only [pA,pN,sZ,sU];refine rC 3 18 (.int .i64 1) rfl rfl (fun _ h=>Qa h (M1.out)) Qj ?_;simp only [pA,pN,sZ,sU];refine rR 1 rfl (fun K hK=>?_);go_simp;refine (HRk.out _).mono ?_;rintro e W ⟨rfl,gW⟩;refine hK.out _ _ (Qj.trans gW) (fun _=>?_);replace Qj:=Qj.trans gW;clear hK K;refine rT 4 19 (.bool true) rfl rfl Qj ?_;simp only [pA,pN,sZ,sU];refine wpAnyH_done (by kernel_rfl) ?_ _;have HKW:=Qh (HK01.out.trans Qj);have m0:=Qa Qj M0.out;have M0W:=Qh m0;clear Qj m0;go_wp2
 go_loopw [7,8] (fun t7 t8 wr=>((t8=.int .i64 1∧OwnZ wr W.heap.size t7 [])∨(t8=.int .i64 2∧OwnZ wr W.heap.size t7 [x1]∧y1=0)∨(t8=.int .i64 3∧OwnZ wr W.heap.size t7 [x1,x2]∧y1=0∧y2=0))∧Kept W wr) (fun _ t8 _=>4-(intOf t8).toNat)
 case atStart=>exact ⟨.inl ⟨rfl,OwnZ.nil _ _⟩,Kept.refl _⟩
 case round =>
  obtain ⟨hinv,hK⟩:=hrel;have HK:=Qh hK;have m0:=Qa hK M0W.out;clear hK
  skip
  ·rcases hinv with ⟨rfl,hO⟩|⟨rfl,hO,hy1⟩|⟨rfl,hO,hy1,hy2⟩
   ·skip
    obtain ⟨a,cap,rfl⟩:=hO.slice;have HO:=Qh hO;clear hO;by_cases h0:y1≠0
    ·have hb:(y1 != 0)=true:=bne_iff_ne.2 h0
     have HE:Hid (ahN p s=[]):=by show _=_;rw [HV.out,if_pos h0]
     go_wp2_with fail
     refine (HS1.out _).mono ?_;rintro e w2 ⟨rfl,k2⟩;have HP2:=Qh (HP.out.kept (HKW.out.trans (HK.out.trans k2)));have HO2:=Qh (HO.out.kept k2);have HK2:=Qh (HK.out.trans k2);clear k2;go_wp2_with (first|(refine Qc (by rfl) _ rfl _ rfl _ (HP2.out) ?_)|(refine Qd (by rfl) _ rfl _ rfl _ (HP2.out) ?_))
     refine (HC1.out _).mono ?_;rintro e w3 ⟨rfl,k3⟩;have HK3:=Qh (HK2.out.trans k3);have HO3:=Qh (HO2.out.kept k3);clear k3;go_wp2;go_ret;exact ⟨_,rfl,by rw [HE.out];exact HO3.out.low (HK0.out.trans HKW.out).size,(HK0.out.trans HKW.out).trans HK3.out⟩
    ·replace h0:y1=0:=by simpa using h0
     have hb:(y1 != 0)=false:=by rw [h0];rfl
     go_wp2_with fail
     refine (HS1.out _).mono ?_;rintro e w2 ⟨rfl,k2⟩;have HP2:=Qh (HP.out.kept (HKW.out.trans (HK.out.trans k2)));replace HO:=Qh (HO.out.kept k2);have HK2:=Qh (HK.out.trans k2);clear k2;go_wp2_with (first|(refine Qc (by rfl) _ rfl _ rfl _ (HP2.out) ?_)|(refine Qd (by rfl) _ rfl _ rfl _ (HP2.out) ?_))
     refine (HC1.out _).mono ?_;rintro e w3 ⟨rfl,k3⟩;have HK3:=Qh (HK2.out.trans k3);have KA:=Qh ((Kept.refl w3).alloc (.cells #[.int .i64 x1] 3));go_wp2_with (at_builtin;refine Qs rfl _ _ rfl W.heap.size w3.heap.size _ _ [] [x1] rfl rfl ((HO.out.kept k3).kept KA.out) (LsZ.lit _ [x1] (by simp)) ?c1 ?c2 ?_)
     case c1=>simp
     case c2=>have:=HK3.out.size;simp;omega
     intro v' w4 hO' hg;have hK4:=((HO.out.kept k3).kept KA.out).grown (HK3.out.trans KA.out) (Nat.le_refl _) hg;obtain ⟨a',cap',rfl⟩:=hO'.slice;have HO4:=Qh hO';have HK4:=Qh hK4;clear hO' hK4 hg k3;go_wp2;go_roundw
     case rel=>exact ⟨.inr (.inl ⟨rfl,HO4.out,h0⟩),HK4.out⟩
     case measure=>simp [intOf]
   ·skip
    obtain ⟨a,cap,rfl⟩:=hO.slice;have HO:=Qh hO;clear hO;by_cases h0:y2≠0
    ·have hb:(y2 != 0)=true:=bne_iff_ne.2 h0
     have HE:Hid (ahN p s=[x1]):=by show _=_;rw [HV.out,if_neg (by simpa using hy1),if_pos h0]
     go_wp2_with fail
     refine (HS2.out _).mono ?_;rintro e w2 ⟨rfl,k2⟩;have HP2:=Qh (HP.out.kept (HKW.out.trans (HK.out.trans k2)));have HO2:=Qh (HO.out.kept k2);have HK2:=Qh (HK.out.trans k2);clear k2;go_wp2_with (first|(refine Qc (by rfl) _ rfl _ rfl _ (HP2.out) ?_)|(refine Qd (by rfl) _ rfl _ rfl _ (HP2.out) ?_))
     refine (HC2.out _).mono ?_;rintro e w3 ⟨rfl,k3⟩;have HK3:=Qh (HK2.out.trans k3);have HO3:=Qh (HO2.out.kept k3);clear k3;go_wp2;go_ret;exact ⟨_,rfl,by rw [HE.out];exact HO3.out.low (HK0.out.trans HKW.out).size,(HK0.out.trans HKW.out).trans HK3.out⟩
    ·replace h0:y2=0:=by simpa using h0
     have hb:(y2 != 0)=false:=by rw [h0];rfl
     go_wp2_with fail
     refine (HS2.out _).mono ?_;rintro e w2 ⟨rfl,k2⟩;have HP2:=Qh (HP.out.kept (HKW.out.trans (HK.out.trans k2)));replace HO:=Qh (HO.out.kept k2);have HK2:=Qh (HK.out.trans k2);clear k2;go_wp2_with (first|(refine Qc (by rfl) _ rfl _ rfl _ (HP2.out) ?_)|(refine Qd (by rfl) _ rfl _ rfl _ (HP2.out) ?_))
     refine (HC2.out _).mono ?_;rintro e w3 ⟨rfl,k3⟩;have HK3:=Qh (HK2.out.trans k3);have KA:=Qh ((Kept.refl w3).alloc (.cells #[.int .i64 x2] 3));go_wp2_with (at_builtin;refine Qs rfl _ _ rfl W.heap.size w3.heap.size _ _ [x1] [x2] rfl rfl ((HO.out.kept k3).kept KA.out) (LsZ.lit _ [x2] (by simp)) ?c1 ?c2 ?_)
     case c1=>simp
     case c2=>have:=HK3.out.size;simp;omega
     intro v' w4 hO' hg;have hK4:=((HO.out.kept k3).kept KA.out).grown (HK3.out.trans KA.out) (Nat.le_refl _) hg;obtain ⟨a',cap',rfl⟩:=hO'.slice;have HO4:=Qh hO';have HK4:=Qh hK4;clear hO' hK4 hg k3;go_wp2;go_roundw
     case rel=>exact ⟨.inr (.inr ⟨rfl,HO4.out,hy1,h0⟩),HK4.out⟩
     case measure=>simp [intOf]
   ·skip
    obtain ⟨a,cap,rfl⟩:=hO.slice;have HO:=Qh hO;have HE:Hid (ahN p s=[x1,x2]):=by show _=_;rw [HV.out,if_neg (by simpa using hy1),if_neg (by simpa using hy2)]
    clear hO;go_wp2;go_ret;exact ⟨_,rfl,by rw [HE.out];exact HO.out.low (HK0.out.trans HKW.out).size,(HK0.out.trans HKW.out).trans HK.out⟩
set_option maxHeartbeats 4000000 in
theorem ahead_b2 (p:Ps) (hB:Brd p.B) (hp:p.t=1) (s:Nat) (s0:8≤s) (s1:s<56) (hsec:(s:Int) / 8=6) (w:World) (hT:TabG w):Calls Tryz.prog 176 #[.agg (pl p).toArray,.int .i64 (s:Int)] w (NewZ w (ahN p s)):=by
 have hHP:=PAt.new w hB.1;have HK0:=Qh ((Kept.refl w).alloc (.cells (pl p).toArray 26));have HT:=Qh (hT.kept HK0.out);have ht:=hHP.turn;rw [hp] at ht;have HP:=Qh hHP
 have hrng:Hid ((w.alloc (.cells (pl p).toArray 26)).rangeAt 8 3 (mr (-1) 6 0)):=by
  intro j v hv;have hj:j<3:=(List.getElem?_eq_some_iff.1 hv).1;have hm:=HT.out.mar (3+j) (by omega);rw [hm];have:j=0∨j=1∨j=2:=by omega
  rcases this with rfl|rfl|rfl <;> exact hv
 have HRk:=Qh (fun w=>Jj (s:Int) w);have hrk:rkI (s:Int)=(s:Int) / 8:=by unfold rkI;rw [if_pos ⟨by omega,by omega⟩]
 rw [hrk] at HRk;have hu:upI p.t=(-8):=by rw [hp];rfl
 have hs2:secI p.t=6:=by rw [hp];rfl
 have HS1:=Qh (fun w=>step_k (s:Int) 0 ((-1)) ((s:Int)+(-8)) w (by omega) (by omega) (by omega) (by omega) (by omega) (by omega) (by omega));have HC1:=Qh (fun w=>man_on p.B hB ((s:Int)+(-8)) (by omega) (by omega) w);have HS2:=Qh (fun w=>step_k (s:Int) 0 (-2) ((s:Int)+2*(-8)) w (by omega) (by omega) (by omega) (by omega) (by omega) (by omega) (by omega));have HC2:=Qh (fun w=>man_on p.B hB ((s:Int)+2*(-8)) (by omega) (by omega) w)
 have HV:Hid (ahN p s=if bAt p.B ((s:Int)+(-8))≠0 then [] else if bAt p.B ((s:Int)+2*(-8))≠0 then [(s:Int)+(-8)] else [(s:Int)+(-8),(s:Int)+2*(-8)]):=by
  show _=_;unfold ahN;rw [hu];split
  ·rfl
  ·by_cases hq:bAt p.B ((s:Int)+2*(-8))=0
   ·rw [if_pos ⟨by rw [hs2];exact hsec,hq⟩,if_neg (by simpa using hq)]
   ·rw [if_neg (fun h=>hq h.2),if_pos hq]
 have hq:((s:Int) / 8 == 6)=true:=by rw [hsec];rfl
 generalize bAt p.B ((s:Int)+(-8))=y1 at *;generalize (s:Int)+(-8)=x1 at *;generalize bAt p.B ((s:Int)+2*(-8))=y2 at *;generalize (s:Int)+2*(-8)=x2 at *;generalize (s:Int) / 8=rk at *;clear hrk hB hT hu hs2 hsec hHP hp s0 s1;go_enter Tryz.func176,Tryz.ntmps176;go_wp2_with (first|(refine wpList_load_mid rfl 185 _ rfl 8 3 rfl (mr (-1) 6 0) _ hrng.out Tryz.underlying185 rfl sizeMr ?_)|(with_reducible refine wpList_new_mr rfl rfl ?_)|((with_reducible refine Qad rfl _ _ rfl (-1) 6 0 ?_ ?_ ?_);exact rfl;exact rfl))
 have hRM:RAt _ _ (mr (-1) 6 0) 185:=⟨heap_alloc_new (w.alloc (.cells (pl p).toArray 26)) (.cells (mr (-1) 6 0).toArray 185)⟩;have m0:((w.alloc (.cells (pl p).toArray 26)).alloc (.cells (mr (-1) 6 0).toArray 185)).cell? ⟨w.heap.size+1,0,none⟩=some (Value.int .i64 ((-1))):=by have h:=hRM.cellK 0;rw [show (w.alloc (.cells (pl p).toArray 26)).heap.size=w.heap.size+1 by simp] at h;exact h
 have m1:((w.alloc (.cells (pl p).toArray 26)).alloc (.cells (mr (-1) 6 0).toArray 185)).cell? ⟨w.heap.size+1,1,none⟩=some (Value.int .i64 6):=by have h:=hRM.cellK 1;rw [show (w.alloc (.cells (pl p).toArray 26)).heap.size=w.heap.size+1 by simp] at h;exact h
 have M0:=Qh m0;have M1:=Qh m1;have HK01:=Qh ((Kept.refl (w.alloc (.cells (pl p).toArray 26))).alloc (.cells (mr (-1) 6 0).toArray 185));clear hRM m0 m1;refine wp_region_held_drew (S:=Kept _) (by kernel_rfl) (Kept.refl _).drew (fun Qj=>?_);refine rT 0 15 (.int .i64 (s:Int)) rfl rfl Qj ?_;simp only [Act.put,sA,sZ,sU];refine rT 2 17 (.pointer (some ⟨w.heap.size+1,1,none⟩)) rfl rfl Qj ?_;simp only [pA,pN,sZ,sU];refine rC 3 18 (.int .i64 6) rfl rfl (fun _ h=>Qa h (M1.out)) Qj ?_;simp only [pA,pN,sZ,sU];refine rR 1 rfl (fun K hK=>?_);go_simp;refine (HRk.out _).mono ?_;rintro e W ⟨rfl,gW⟩;refine hK.out _ _ (Qj.trans gW) (fun _=>?_);replace Qj:=Qj.trans gW;clear hK K;refine rT 4 19 (.bool true) rfl rfl Qj ?_;simp only [pA,pN,sZ,sU];refine wpAnyH_done (by kernel_rfl) ?_ _;have HKW:=Qh (HK01.out.trans Qj);have m0:=Qa Qj M0.out;have M0W:=Qh m0;clear Qj m0;go_wp2
 go_loopw [7,8] (fun t7 t8 wr=>((t8=.int .i64 1∧OwnZ wr W.heap.size t7 [])∨(t8=.int .i64 2∧OwnZ wr W.heap.size t7 [x1]∧y1=0)∨(t8=.int .i64 3∧OwnZ wr W.heap.size t7 [x1,x2]∧y1=0∧y2=0))∧Kept W wr) (fun _ t8 _=>4-(intOf t8).toNat)
 case atStart=>exact ⟨.inl ⟨rfl,OwnZ.nil _ _⟩,Kept.refl _⟩
 case round =>
  obtain ⟨hinv,hK⟩:=hrel;have HK:=Qh hK;have m0:=Qa hK M0W.out;clear hK
  skip
  ·rcases hinv with ⟨rfl,hO⟩|⟨rfl,hO,hy1⟩|⟨rfl,hO,hy1,hy2⟩
   ·skip
    obtain ⟨a,cap,rfl⟩:=hO.slice;have HO:=Qh hO;clear hO;by_cases h0:y1≠0
    ·have hb:(y1 != 0)=true:=bne_iff_ne.2 h0
     have HE:Hid (ahN p s=[]):=by show _=_;rw [HV.out,if_pos h0]
     go_wp2_with fail
     refine (HS1.out _).mono ?_;rintro e w2 ⟨rfl,k2⟩;have HP2:=Qh (HP.out.kept (HKW.out.trans (HK.out.trans k2)));have HO2:=Qh (HO.out.kept k2);have HK2:=Qh (HK.out.trans k2);clear k2;go_wp2_with (first|(refine Qc (by rfl) _ rfl _ rfl _ (HP2.out) ?_)|(refine Qd (by rfl) _ rfl _ rfl _ (HP2.out) ?_))
     refine (HC1.out _).mono ?_;rintro e w3 ⟨rfl,k3⟩;have HK3:=Qh (HK2.out.trans k3);have HO3:=Qh (HO2.out.kept k3);clear k3;go_wp2;go_ret;exact ⟨_,rfl,by rw [HE.out];exact HO3.out.low (HK0.out.trans HKW.out).size,(HK0.out.trans HKW.out).trans HK3.out⟩
    ·replace h0:y1=0:=by simpa using h0
     have hb:(y1 != 0)=false:=by rw [h0];rfl
     go_wp2_with fail
     refine (HS1.out _).mono ?_;rintro e w2 ⟨rfl,k2⟩;have HP2:=Qh (HP.out.kept (HKW.out.trans (HK.out.trans k2)));replace HO:=Qh (HO.out.kept k2);have HK2:=Qh (HK.out.trans k2);clear k2;go_wp2_with (first|(refine Qc (by rfl) _ rfl _ rfl _ (HP2.out) ?_)|(refine Qd (by rfl) _ rfl _ rfl _ (HP2.out) ?_))
     refine (HC1.out _).mono ?_;rintro e w3 ⟨rfl,k3⟩;have HK3:=Qh (HK2.out.trans k3);have KA:=Qh ((Kept.refl w3).alloc (.cells #[.int .i64 x1] 3));go_wp2_with (at_builtin;refine Qs rfl _ _ rfl W.heap.size w3.heap.size _ _ [] [x1] rfl rfl ((HO.out.kept k3).kept KA.out) (LsZ.lit _ [x1] (by simp)) ?c1 ?c2 ?_)
     case c1=>simp
     case c2=>have:=HK3.out.size;simp;omega
     intro v' w4 hO' hg;have hK4:=((HO.out.kept k3).kept KA.out).grown (HK3.out.trans KA.out) (Nat.le_refl _) hg;obtain ⟨a',cap',rfl⟩:=hO'.slice;have HO4:=Qh hO';have HK4:=Qh hK4;clear hO' hK4 hg k3;go_wp2;go_roundw
     case rel=>exact ⟨.inr (.inl ⟨rfl,HO4.out,h0⟩),HK4.out⟩
     case measure=>simp [intOf]
   ·skip
    obtain ⟨a,cap,rfl⟩:=hO.slice;have HO:=Qh hO;clear hO;by_cases h0:y2≠0
    ·have hb:(y2 != 0)=true:=bne_iff_ne.2 h0
     have HE:Hid (ahN p s=[x1]):=by show _=_;rw [HV.out,if_neg (by simpa using hy1),if_pos h0]
     go_wp2_with fail
     refine (HS2.out _).mono ?_;rintro e w2 ⟨rfl,k2⟩;have HP2:=Qh (HP.out.kept (HKW.out.trans (HK.out.trans k2)));have HO2:=Qh (HO.out.kept k2);have HK2:=Qh (HK.out.trans k2);clear k2;go_wp2_with (first|(refine Qc (by rfl) _ rfl _ rfl _ (HP2.out) ?_)|(refine Qd (by rfl) _ rfl _ rfl _ (HP2.out) ?_))
     refine (HC2.out _).mono ?_;rintro e w3 ⟨rfl,k3⟩;have HK3:=Qh (HK2.out.trans k3);have HO3:=Qh (HO2.out.kept k3);clear k3;go_wp2;go_ret;exact ⟨_,rfl,by rw [HE.out];exact HO3.out.low (HK0.out.trans HKW.out).size,(HK0.out.trans HKW.out).trans HK3.out⟩
    ·replace h0:y2=0:=by simpa using h0
     have hb:(y2 != 0)=false:=by rw [h0];rfl
     go_wp2_with fail
     refine (HS2.out _).mono ?_;rintro e w2 ⟨rfl,k2⟩;have HP2:=Qh (HP.out.kept (HKW.out.trans (HK.out.trans k2)));replace HO:=Qh (HO.out.kept k2);have HK2:=Qh (HK.out.trans k2);clear k2;go_wp2_with (first|(refine Qc (by rfl) _ rfl _ rfl _ (HP2.out) ?_)|(refine Qd (by rfl) _ rfl _ rfl _ (HP2.out) ?_))
     refine (HC2.out _).mono ?_;rintro e w3 ⟨rfl,k3⟩;have HK3:=Qh (HK2.out.trans k3);have KA:=Qh ((Kept.refl w3).alloc (.cells #[.int .i64 x2] 3));go_wp2_with (at_builtin;refine Qs rfl _ _ rfl W.heap.size w3.heap.size _ _ [x1] [x2] rfl rfl ((HO.out.kept k3).kept KA.out) (LsZ.lit _ [x2] (by simp)) ?c1 ?c2 ?_)
     case c1=>simp
     case c2=>have:=HK3.out.size;simp;omega
     intro v' w4 hO' hg;have hK4:=((HO.out.kept k3).kept KA.out).grown (HK3.out.trans KA.out) (Nat.le_refl _) hg;obtain ⟨a',cap',rfl⟩:=hO'.slice;have HO4:=Qh hO';have HK4:=Qh hK4;clear hO' hK4 hg k3;go_wp2;go_roundw
     case rel=>exact ⟨.inr (.inr ⟨rfl,HO4.out,hy1,h0⟩),HK4.out⟩
     case measure=>simp [intOf]
   ·skip
    obtain ⟨a,cap,rfl⟩:=hO.slice;have HO:=Qh hO;have HE:Hid (ahN p s=[x1,x2]):=by show _=_;rw [HV.out,if_neg (by simpa using hy1),if_neg (by simpa using hy2)]
    clear hO;go_wp2;go_ret;exact ⟨_,rfl,by rw [HE.out];exact HO.out.low (HK0.out.trans HKW.out).size,(HK0.out.trans HKW.out).trans HK.out⟩
theorem ahead_is {p:Ps} {s:Nat} (h:Pw p s) (w:World) (hT:TabG w):Calls Tryz.prog 176 #[.agg (pl p).toArray,.int .i64 (s:Int)] w (NewZ w (ahN p s)):=by
 obtain ⟨s0,s1⟩:=h.rank;rcases h.turn with ⟨ht,_⟩|⟨ht,_⟩
 ·by_cases hs:(s:Int) / 8=1
  ·exact ahead_w2 p h.brd ht s s0 s1 hs w hT
  ·exact ahead_w1 p h.brd ht s s0 s1 hs w hT
 ·by_cases hs:(s:Int) / 8=6
  ·exact ahead_b2 p h.brd ht s s0 s1 hs w hT
  ·exact ahead_b1 p h.brd ht s s0 s1 hs w hT
end Go.Proofs.YtlpeiolgcaddjaaGreatDoor
