/- MvI: my texts, in their order. -/
import Derived.Test.YtlpeiolgcaddjaaGreatDoorPkE
import Derived.Test.YtlpeiolgcaddjaaGreatDoorPkH
import Derived.Test.YtlpeiolgcaddjaaGreatDoorPkL
namespace Go.Proofs.YtlpeiolgcaddjaaGreatDoor
open Go.RowKit
set_option linter.unusedVariables false
set_option linter.unusedSimpArgs false
set_option maxRecDepth 100000
theorem Jn (B:List Int) (hB:Brd B) (k:Nat) (hk:k<64) (w:World):Calls Tryz.prog 51 #[.agg (cl B).toArray,.int .i64 (k:Int)] w fun e w'=>e=.returned (.bool (kindI (B.getD k 0) == 1))∧Kept w w':=by
 have c:=cell_cl hB.1 (heap_alloc_new w (.cells (cl B).toArray 24)) k hk;have HV:=Qh (kindI_one (B.getD k 0));generalize B.getD k 0=x at *;have hkI:(k:Int)<64:=by omega
 clear hB
 cases h1:(x == 1)
 ·rw [h1] at HV
  go_enter Tryz.func51,Tryz.ntmps51;go_wp2;go_ret;exact ⟨by rw [HV.out];rfl,(Kept.refl _).alloc _⟩
 ·rw [h1] at HV
  go_enter Tryz.func51,Tryz.ntmps51;go_wp2;go_ret;exact ⟨by rw [HV.out];rfl,(Kept.refl _).alloc _⟩
theorem free_0 (B:List Int):freeB B 0=((B.getD 5 0 == 0) && (B.getD 6 0 == 0)):=by
 rw [Bool.eq_iff_iff,free_iff];simp only [Bool.and_eq_true,beq_iff_eq];constructor
 ·intro h;exact ⟨h 5 (by omega) (by decide) (by decide),h 6 (by omega) (by decide) (by decide)⟩
 ·rintro ⟨a,b⟩ s _ h1 h2
  have h1':5≤s:=h1;have h2':s<7:=h2;have:s=5∨s=6:=by omega
  rcases this with rfl|rfl <;> assumption
theorem rclear_0 (B:List Int) (hB:Brd B) (w:World):Calls Tryz.prog 92 #[.agg (cl B).toArray,.int .i64 1] w fun e w'=>e=.returned (.bool (freeB B 0))∧Kept w w':=by
 have c5:=cell_cl hB.1 (heap_alloc_new w (.cells (cl B).toArray 24)) 5 (by omega);have c6:=cell_cl hB.1 (heap_alloc_new w (.cells (cl B).toArray 24)) 6 (by omega);have HV:=Qh (free_0 B);clear hB;generalize B.getD 5 0=x5 at *;generalize B.getD 6 0=x6 at *
 cases h1:(x5 == 0)
 ·rw [h1] at HV
  go_enter Tryz.func92,Tryz.ntmps92;go_wp2;go_ret;exact ⟨by rw [HV.out];rfl,(Kept.refl _).alloc _⟩
 ·rw [h1] at HV
  go_enter Tryz.func92,Tryz.ntmps92;go_wp2;go_ret;exact ⟨by rw [HV.out];rfl,(Kept.refl _).alloc _⟩
theorem free_1 (B:List Int):freeB B 1=(((B.getD 1 0 == 0) && (B.getD 2 0 == 0)) && (B.getD 3 0 == 0)):=by
 rw [Bool.eq_iff_iff,free_iff];simp only [Bool.and_eq_true,beq_iff_eq];constructor
 ·intro h;exact ⟨⟨h 1 (by omega) (by decide) (by decide),h 2 (by omega) (by decide) (by decide)⟩,h 3 (by omega) (by decide) (by decide)⟩
 ·rintro ⟨⟨a,b⟩,c⟩ s _ h1 h2
  have h1':1≤s:=h1;have h2':s<4:=h2;have:s=1∨s=2∨s=3:=by omega
  rcases this with rfl|rfl|rfl <;> assumption
theorem rclear_1 (B:List Int) (hB:Brd B) (w:World):Calls Tryz.prog 92 #[.agg (cl B).toArray,.int .i64 2] w fun e w'=>e=.returned (.bool (freeB B 1))∧Kept w w':=by
 have c1:=cell_cl hB.1 (heap_alloc_new w (.cells (cl B).toArray 24)) 1 (by omega);have c2:=cell_cl hB.1 (heap_alloc_new w (.cells (cl B).toArray 24)) 2 (by omega);have c3:=cell_cl hB.1 (heap_alloc_new w (.cells (cl B).toArray 24)) 3 (by omega);have HV:=Qh (free_1 B);clear hB;generalize B.getD 1 0=x1 at *;generalize B.getD 2 0=x2 at *;generalize B.getD 3 0=x3 at *
 cases h1:(x1 == 0)
 ·rw [h1] at HV
  go_enter Tryz.func92,Tryz.ntmps92;go_wp2;go_ret;exact ⟨by rw [HV.out];rfl,(Kept.refl _).alloc _⟩
 ·rw [h1] at HV
  cases h2:(x2 == 0)
  ·rw [h2] at HV
   go_enter Tryz.func92,Tryz.ntmps92;go_wp2;go_ret;exact ⟨by rw [HV.out];rfl,(Kept.refl _).alloc _⟩
  ·rw [h2] at HV
   go_enter Tryz.func92,Tryz.ntmps92;go_wp2;go_ret;exact ⟨by rw [HV.out];rfl,(Kept.refl _).alloc _⟩
theorem free_2 (B:List Int):freeB B 2=((B.getD 61 0 == 0) && (B.getD 62 0 == 0)):=by
 rw [Bool.eq_iff_iff,free_iff];simp only [Bool.and_eq_true,beq_iff_eq];constructor
 ·intro h;exact ⟨h 61 (by omega) (by decide) (by decide),h 62 (by omega) (by decide) (by decide)⟩
 ·rintro ⟨a,b⟩ s _ h1 h2
  have h1':61≤s:=h1;have h2':s<63:=h2;have:s=61∨s=62:=by omega
  rcases this with rfl|rfl <;> assumption
theorem rclear_2 (B:List Int) (hB:Brd B) (w:World):Calls Tryz.prog 92 #[.agg (cl B).toArray,.int .i64 4] w fun e w'=>e=.returned (.bool (freeB B 2))∧Kept w w':=by
 have c61:=cell_cl hB.1 (heap_alloc_new w (.cells (cl B).toArray 24)) 61 (by omega);have c62:=cell_cl hB.1 (heap_alloc_new w (.cells (cl B).toArray 24)) 62 (by omega);have HV:=Qh (free_2 B);clear hB;generalize B.getD 61 0=x61 at *;generalize B.getD 62 0=x62 at *
 cases h1:(x61 == 0)
 ·rw [h1] at HV
  go_enter Tryz.func92,Tryz.ntmps92;go_wp2;go_ret;exact ⟨by rw [HV.out];rfl,(Kept.refl _).alloc _⟩
 ·rw [h1] at HV
  go_enter Tryz.func92,Tryz.ntmps92;go_wp2;go_ret;exact ⟨by rw [HV.out];rfl,(Kept.refl _).alloc _⟩
theorem free_3 (B:List Int):freeB B 3=(((B.getD 57 0 == 0) && (B.getD 58 0 == 0)) && (B.getD 59 0 == 0)):=by
 rw [Bool.eq_iff_iff,free_iff];simp only [Bool.and_eq_true,beq_iff_eq];constructor
 ·intro h;exact ⟨⟨h 57 (by omega) (by decide) (by decide),h 58 (by omega) (by decide) (by decide)⟩,h 59 (by omega) (by decide) (by decide)⟩
 ·rintro ⟨⟨a,b⟩,c⟩ s _ h1 h2
  have h1':57≤s:=h1;have h2':s<60:=h2;have:s=57∨s=58∨s=59:=by omega
  rcases this with rfl|rfl|rfl <;> assumption
theorem rclear_3 (B:List Int) (hB:Brd B) (w:World):Calls Tryz.prog 92 #[.agg (cl B).toArray,.int .i64 8] w fun e w'=>e=.returned (.bool (freeB B 3))∧Kept w w':=by
 have c57:=cell_cl hB.1 (heap_alloc_new w (.cells (cl B).toArray 24)) 57 (by omega);have c58:=cell_cl hB.1 (heap_alloc_new w (.cells (cl B).toArray 24)) 58 (by omega);have c59:=cell_cl hB.1 (heap_alloc_new w (.cells (cl B).toArray 24)) 59 (by omega);have HV:=Qh (free_3 B);clear hB;generalize B.getD 57 0=x57 at *;generalize B.getD 58 0=x58 at *;generalize B.getD 59 0=x59 at *
 cases h1:(x57 == 0)
 ·rw [h1] at HV
  go_enter Tryz.func92,Tryz.ntmps92;go_wp2;go_ret;exact ⟨by rw [HV.out];rfl,(Kept.refl _).alloc _⟩
 ·rw [h1] at HV
  cases h2:(x58 == 0)
  ·rw [h2] at HV
   go_enter Tryz.func92,Tryz.ntmps92;go_wp2;go_ret;exact ⟨by rw [HV.out];rfl,(Kept.refl _).alloc _⟩
  ·rw [h2] at HV
   go_enter Tryz.func92,Tryz.ntmps92;go_wp2;go_ret;exact ⟨by rw [HV.out];rfl,(Kept.refl _).alloc _⟩
theorem rclear_is (B:List Int) (hB:Brd B) (k:Nat) (hk:k<4) (w:World):Calls Tryz.prog 92 #[.agg (cl B).toArray,.int .i64 (hR k)] w fun e w'=>e=.returned (.bool (freeB B k))∧Kept w w':=by
 have:k=0∨k=1∨k=2∨k=3:=by omega
 rcases this with rfl|rfl|rfl|rfl
 ·exact rclear_0 B hB w
 ·exact rclear_1 B hB w
 ·exact rclear_2 B hB w
 ·exact rclear_3 B hB w
def lostI (s:Int):Int:=if s=0 then 2 else if s=4 then 3 else if s=7 then 1 else if s=56 then 8 else if s=60 then 12 else if s=63 then 4 else 0
theorem lost_is (s:Int) (w:World):Calls Tryz.prog 50 #[.int .i64 s] w fun e w'=>e=.returned (.int .i64 (lostI s))∧Kept w w':=by
 by_cases h0:s=0
 ·have HV:Hid (lostI s=2):=by show _=_;unfold lostI;rw [if_pos h0]
  have b0:(s == 0)=true:=beq_iff_eq.2 h0;clear h0;go_enter Tryz.func50,Tryz.ntmps50;go_wp2;go_ret;exact ⟨by rw [HV.out];rfl,Kept.refl _⟩
 ·have b0:(s == 0)=false:=beq_eq_false_iff_ne.2 h0
  by_cases h1:s=4
  ·have HV:Hid (lostI s=3):=by show _=_;unfold lostI;rw [if_neg h0,if_pos h1]
   have b1:(s == 4)=true:=beq_iff_eq.2 h1;clear h0 h1;go_enter Tryz.func50,Tryz.ntmps50;go_wp2;go_ret;exact ⟨by rw [HV.out];rfl,Kept.refl _⟩
  ·have b1:(s == 4)=false:=beq_eq_false_iff_ne.2 h1
   by_cases h2:s=7
   ·have HV:Hid (lostI s=1):=by show _=_;unfold lostI;rw [if_neg h0,if_neg h1,if_pos h2]
    have b2:(s == 7)=true:=beq_iff_eq.2 h2;clear h0 h1 h2;go_enter Tryz.func50,Tryz.ntmps50;go_wp2;go_ret;exact ⟨by rw [HV.out];rfl,Kept.refl _⟩
   ·have b2:(s == 7)=false:=beq_eq_false_iff_ne.2 h2
    by_cases h3:s=56
    ·have HV:Hid (lostI s=8):=by show _=_;unfold lostI;rw [if_neg h0,if_neg h1,if_neg h2,if_pos h3]
     have b3:(s == 56)=true:=beq_iff_eq.2 h3;clear h0 h1 h2 h3;go_enter Tryz.func50,Tryz.ntmps50;go_wp2;go_ret;exact ⟨by rw [HV.out];rfl,Kept.refl _⟩
    ·have b3:(s == 56)=false:=beq_eq_false_iff_ne.2 h3
     by_cases h4:s=60
     ·have HV:Hid (lostI s=12):=by show _=_;unfold lostI;rw [if_neg h0,if_neg h1,if_neg h2,if_neg h3,if_pos h4]
      have b4:(s == 60)=true:=beq_iff_eq.2 h4;clear h0 h1 h2 h3 h4;go_enter Tryz.func50,Tryz.ntmps50;go_wp2;go_ret;exact ⟨by rw [HV.out];rfl,Kept.refl _⟩
     ·have b4:(s == 60)=false:=beq_eq_false_iff_ne.2 h4
      by_cases h5:s=63
      ·have HV:Hid (lostI s=4):=by show _=_;unfold lostI;rw [if_neg h0,if_neg h1,if_neg h2,if_neg h3,if_neg h4,if_pos h5]
       have b5:(s == 63)=true:=beq_iff_eq.2 h5;clear h0 h1 h2 h3 h4 h5;go_enter Tryz.func50,Tryz.ntmps50;go_wp2;go_ret;exact ⟨by rw [HV.out];rfl,Kept.refl _⟩
      ·have b5:(s == 63)=false:=beq_eq_false_iff_ne.2 h5
       have HV:Hid (lostI s=0):=by show _=_;unfold lostI;rw [if_neg h0,if_neg h1,if_neg h2,if_neg h3,if_neg h4,if_neg h5]
       clear h0 h1 h2 h3 h4 h5;go_enter Tryz.func50,Tryz.ntmps50;go_wp2;go_ret;exact ⟨by rw [HV.out];rfl,Kept.refl _⟩
set_option maxHeartbeats 2000000 in
theorem rtakes0 (p:Ps) (hB:Brd p.B) (m:Mv) (f t:Nat) (hf:m.f=f) (ht:m.t=t) (f1:f<64) (t1:t<64) (h0:bAt p.B m.t≠0) (w:World) :
  Calls Tryz.prog 42 #[.agg (pl p).toArray,.agg (ml m).toArray] w fun e w'=>e=.returned (.int .i64 (takeI p m))∧Kept w w':=by
 have HP:Hid (PAt _ _ p):=⟨hB.1,heap_alloc2_old w (.cells (pl p).toArray 26) (.cells (ml m).toArray 28)⟩;have HM:Hid (MAt _ _ m):=⟨heap_alloc2_new w (.cells (pl p).toArray 26) (.cells (ml m).toArray 28)⟩;have HK0:=Qh (((Kept.refl w).alloc (.cells (pl p).toArray 26)).alloc (.cells (ml m).toArray 28));have hpl:Hid (p.B.length=64):=hB.1;have xt:=HM.out.t;rw [ht] at xt;have hct:=Qh xt;have xf:=HM.out.f;rw [hf] at xf;have hcf:=Qh xf;clear xf;have ct:=HP.out.sq t t1;have eb:bAt p.B m.t=p.B.getD t 0:=by unfold bAt;rw [ht,Int.toNat_natCast]
 have ep:pawnB p m=(kindI (p.B.getD f 0) == 1):=by unfold pawnB bAt;rw [hf,Int.toNat_natCast]
 have HPw:=Qh (Jn p.B hB f f1);have HF1:=Qh (fun w=>rfile_k (f:Int) w (by omega) (by omega));have HF2:=Qh (fun w=>rfile_k (t:Int) w (by omega) (by omega));have HPs:=Qh (rpassed_is p hB);have htI:(t:Int)<64:=by omega
 have HV:Hid (takeI p m=t):=by show _=_;unfold takeI;rw [if_pos h0,ht]
 rw [eb] at h0;have hb:(p.B.getD t 0 != 0)=true:=bne_iff_ne.2 h0;generalize p.B.getD t 0=x at *;clear h0 eb ep;clear hB hf ht;go_enter Tryz.func42,Tryz.ntmps42;go_wp2;go_ret;exact ⟨by rw [HV.out];rfl,HK0.out⟩
set_option maxHeartbeats 2000000 in
theorem rtakes1 (p:Ps) (hB:Brd p.B) (m:Mv) (f t:Nat) (hf:m.f=f) (ht:m.t=t) (f1:f<64) (t1:t<64) (h0:bAt p.B m.t=0) (h1:pawnB p m=false) (w:World) :
  Calls Tryz.prog 42 #[.agg (pl p).toArray,.agg (ml m).toArray] w fun e w'=>e=.returned (.int .i64 (takeI p m))∧Kept w w':=by
 have HP:Hid (PAt _ _ p):=⟨hB.1,heap_alloc2_old w (.cells (pl p).toArray 26) (.cells (ml m).toArray 28)⟩;have HM:Hid (MAt _ _ m):=⟨heap_alloc2_new w (.cells (pl p).toArray 26) (.cells (ml m).toArray 28)⟩;have HK0:=Qh (((Kept.refl w).alloc (.cells (pl p).toArray 26)).alloc (.cells (ml m).toArray 28));have hpl:Hid (p.B.length=64):=hB.1;have xt:=HM.out.t;rw [ht] at xt;have hct:=Qh xt;have xf:=HM.out.f;rw [hf] at xf;have hcf:=Qh xf;clear xf;have ct:=HP.out.sq t t1;have eb:bAt p.B m.t=p.B.getD t 0:=by unfold bAt;rw [ht,Int.toNat_natCast]
 have ep:pawnB p m=(kindI (p.B.getD f 0) == 1):=by unfold pawnB bAt;rw [hf,Int.toNat_natCast]
 have HPw:=Qh (Jn p.B hB f f1);have HF1:=Qh (fun w=>rfile_k (f:Int) w (by omega) (by omega));have HF2:=Qh (fun w=>rfile_k (t:Int) w (by omega) (by omega));have HPs:=Qh (rpassed_is p hB);have htI:(t:Int)<64:=by omega
 have HV:Hid (takeI p m=-1):=by show _=_;unfold takeI epTake;rw [if_neg (by simpa using h0),if_neg (by simp [h1])]
 rw [eb] at h0;rw [h0] at ct;rw [h1] at ep;rw [← ep] at HPw;clear h0 eb ep h1;clear hB hf ht;go_enter Tryz.func42,Tryz.ntmps42;go_wp2;clear ct xt;generalize (w.alloc (.cells (pl p).toArray 26)).alloc (.cells (ml m).toArray 28)=W at *;refine wp_region_held_drew (S:=Kept _) (by kernel_rfl) (Kept.refl _).drew (fun Qj=>?_);refine rT 0 13 (.pointer (some ⟨w.heap.size,0,none⟩)) rfl rfl Qj ?_;simp only [pA,pN,sZ,sU];refine rY 1 14 rfl rfl (Qp (by rfl) _ rfl _ rfl p hpl.out (fun _ h=>(HP.out).kept h)) Qj ?_;simp only [pA,pN,sZ,sU];refine rT 2 15 (.pointer (some ⟨w.heap.size+1,0,none⟩)) rfl rfl Qj ?_;simp only [pA,pN,sZ,sU];refine rC 3 16 (.int .i64 ↑f) rfl rfl (fun _ h=>Qa h (hcf.out)) Qj ?_;simp only [pA,pN,sZ,sU];refine rR 4 rfl (fun K hK=>?_);go_simp;refine (HPw.out _).mono ?_;rintro e w2 ⟨rfl,gw2⟩;refine hK.out _ _ (Qj.trans gw2) (fun _=>?_);replace Qj:=Qj.trans gw2;clear hK K;refine rT 5 18 (.bool false) rfl rfl Qj ?_;simp only [pA,pN,sZ,sU];refine rN 6 19 rfl rfl Qj ?_;simp only [pA,pN,sZ,sU];refine rN 7 20 rfl rfl Qj ?_;simp only [pA,pN,sZ,sU];refine rN 8 21 rfl rfl Qj ?_;simp only [pA,pN,sZ,sU];refine rT 9 22 (.bool false) rfl rfl Qj ?_;simp only [pA,pN,sZ,sU];refine rT 10 23 (.bool false) rfl rfl Qj ?_;simp only [pA,pN,sZ,sU];refine rN 11 24 rfl rfl Qj ?_;simp only [pA,pN,sZ,sU];refine rN 12 25 rfl rfl Qj ?_;simp only [pA,pN,sZ,sU];refine rN 13 26 rfl rfl Qj ?_;simp only [pA,pN,sZ,sU];refine rN 14 27 rfl rfl Qj ?_;simp only [pA,pN,sZ,sU];refine rN 15 28 rfl rfl Qj ?_;simp only [pA,pN,sZ,sU];refine rT 16 29 (.bool false) rfl rfl Qj ?_;simp only [pA,pN,sZ,sU];refine rT 17 30 (.bool false) rfl rfl Qj ?_;simp only [pA,pN,sZ,sU];refine rN 18 31 rfl rfl Qj ?_;simp only [pA,pN,sZ,sU];refine rN 19 32 rfl rfl Qj ?_;simp only [pA,pN,sZ,sU];refine rN 20 33 rfl rfl Qj ?_;simp only [pA,pN,sZ,sU];refine rN 21 34 rfl rfl Qj ?_;simp only [pA,pN,sZ,sU];refine rN 22 35 rfl rfl Qj ?_;simp only [pA,pN,sZ,sU];refine rN 23 36 rfl rfl Qj ?_;simp only [pA,pN,sZ,sU];refine rN 24 37 rfl rfl Qj ?_;simp only [pA,pN,sZ,sU];refine rT 25 38 (.bool false) rfl rfl Qj ?_;simp only [pA,pN,sZ,sU];refine wpAnyH_done (by kernel_rfl) ?_ _;go_wp2;go_ret;exact ⟨by rw [HV.out];rfl,HK0.out.trans Qj⟩
set_option maxHeartbeats 2000000 in
theorem rtakes2 (p:Ps) (hB:Brd p.B) (m:Mv) (f t:Nat) (hf:m.f=f) (ht:m.t=t) (f1:f<64) (t1:t<64) (h0:bAt p.B m.t=0) (h1:pawnB p m=true) (he:¬ 0≤p.e) (w:World) :
  Calls Tryz.prog 42 #[.agg (pl p).toArray,.agg (ml m).toArray] w fun e w'=>e=.returned (.int .i64 (takeI p m))∧Kept w w':=by
 have HP:Hid (PAt _ _ p):=⟨hB.1,heap_alloc2_old w (.cells (pl p).toArray 26) (.cells (ml m).toArray 28)⟩;have HM:Hid (MAt _ _ m):=⟨heap_alloc2_new w (.cells (pl p).toArray 26) (.cells (ml m).toArray 28)⟩;have HK0:=Qh (((Kept.refl w).alloc (.cells (pl p).toArray 26)).alloc (.cells (ml m).toArray 28));have hpl:Hid (p.B.length=64):=hB.1;have xt:=HM.out.t;rw [ht] at xt;have hct:=Qh xt;have xf:=HM.out.f;rw [hf] at xf;have hcf:=Qh xf;clear xf;have ct:=HP.out.sq t t1;have eb:bAt p.B m.t=p.B.getD t 0:=by unfold bAt;rw [ht,Int.toNat_natCast]
 have ep:pawnB p m=(kindI (p.B.getD f 0) == 1):=by unfold pawnB bAt;rw [hf,Int.toNat_natCast]
 have HPw:=Qh (Jn p.B hB f f1);have HF1:=Qh (fun w=>rfile_k (f:Int) w (by omega) (by omega));have HF2:=Qh (fun w=>rfile_k (t:Int) w (by omega) (by omega));have HPs:=Qh (rpassed_is p hB);have htI:(t:Int)<64:=by omega
 have HV:Hid (takeI p m=-1):=by show _=_;unfold takeI epTake;rw [if_neg (by simpa using h0),if_neg (by simp [show (m.t == p.e)=false from beq_eq_false_iff_ne.2 (by omega)])]
 have he':decide ((0:Int)≤p.e)=false:=decide_eq_false he;rw [eb] at h0;rw [h0] at ct;rw [h1] at ep;rw [← ep] at HPw;clear h0 eb ep h1;clear hB hf ht;go_enter Tryz.func42,Tryz.ntmps42;go_wp2;clear ct xt;generalize (w.alloc (.cells (pl p).toArray 26)).alloc (.cells (ml m).toArray 28)=W at *;refine wp_region_held_drew (S:=Kept _) (by kernel_rfl) (Kept.refl _).drew (fun Qj=>?_);refine rT 0 13 (.pointer (some ⟨w.heap.size,0,none⟩)) rfl rfl Qj ?_;simp only [pA,pN,sZ,sU];refine rY 1 14 rfl rfl (Qp (by rfl) _ rfl _ rfl p hpl.out (fun _ h=>(HP.out).kept h)) Qj ?_;simp only [pA,pN,sZ,sU];refine rT 2 15 (.pointer (some ⟨w.heap.size+1,0,none⟩)) rfl rfl Qj ?_;simp only [pA,pN,sZ,sU];refine rC 3 16 (.int .i64 ↑f) rfl rfl (fun _ h=>Qa h (hcf.out)) Qj ?_;simp only [pA,pN,sZ,sU];refine rR 4 rfl (fun K hK=>?_);go_simp;refine (HPw.out _).mono ?_;rintro e w2 ⟨rfl,gw2⟩;refine hK.out _ _ (Qj.trans gw2) (fun _=>?_);replace Qj:=Qj.trans gw2;clear hK K;refine rT 5 18 (.bool true) rfl rfl Qj ?_;simp only [pA,pN,sZ,sU];refine rT 6 19 (.pointer (some ⟨w.heap.size,66,none⟩)) rfl rfl Qj ?_;simp only [pA,pN,sZ,sU];refine rC 7 20 (.int .i64 p.e) rfl rfl (fun _ h=>Qa h (HP.out.ep)) Qj ?_;simp only [pA,pN,sZ,sU];refine rT 8 21 (.bool false) rfl rfl Qj ?_;simp only [pA,pN,sZ,sU];refine rT 9 22 (.bool false) rfl rfl Qj ?_;simp only [pA,pN,sZ,sU];refine rT 10 23 (.bool false) rfl rfl Qj ?_;simp only [pA,pN,sZ,sU];refine rN 11 24 rfl rfl Qj ?_;simp only [pA,pN,sZ,sU];refine rN 12 25 rfl rfl Qj ?_;simp only [pA,pN,sZ,sU];refine rN 13 26 rfl rfl Qj ?_;simp only [pA,pN,sZ,sU];refine rN 14 27 rfl rfl Qj ?_;simp only [pA,pN,sZ,sU];refine rN 15 28 rfl rfl Qj ?_;simp only [pA,pN,sZ,sU];refine rT 16 29 (.bool false) rfl rfl Qj ?_;simp only [pA,pN,sZ,sU];refine rT 17 30 (.bool false) rfl rfl Qj ?_;simp only [pA,pN,sZ,sU];refine rN 18 31 rfl rfl Qj ?_;simp only [pA,pN,sZ,sU];refine rN 19 32 rfl rfl Qj ?_;simp only [pA,pN,sZ,sU];refine rN 20 33 rfl rfl Qj ?_;simp only [pA,pN,sZ,sU];refine rN 21 34 rfl rfl Qj ?_;simp only [pA,pN,sZ,sU];refine rN 22 35 rfl rfl Qj ?_;simp only [pA,pN,sZ,sU];refine rN 23 36 rfl rfl Qj ?_;simp only [pA,pN,sZ,sU];refine rN 24 37 rfl rfl Qj ?_;simp only [pA,pN,sZ,sU];refine rT 25 38 (.bool false) rfl rfl Qj ?_;simp only [pA,pN,sZ,sU];refine wpAnyH_done (by kernel_rfl) ?_ _;go_wp2;go_ret;exact ⟨by rw [HV.out];rfl,HK0.out.trans Qj⟩
set_option maxHeartbeats 2000000 in
theorem rtakes3 (p:Ps) (hB:Brd p.B) (m:Mv) (f t:Nat) (hf:m.f=f) (ht:m.t=t) (f1:f<64) (t1:t<64) (h0:bAt p.B m.t=0) (h1:pawnB p m=true) (he:0≤p.e) (h2:(m.t == p.e)=false) (w:World) :
  Calls Tryz.prog 42 #[.agg (pl p).toArray,.agg (ml m).toArray] w fun e w'=>e=.returned (.int .i64 (takeI p m))∧Kept w w':=by
 have HP:Hid (PAt _ _ p):=⟨hB.1,heap_alloc2_old w (.cells (pl p).toArray 26) (.cells (ml m).toArray 28)⟩;have HM:Hid (MAt _ _ m):=⟨heap_alloc2_new w (.cells (pl p).toArray 26) (.cells (ml m).toArray 28)⟩;have HK0:=Qh (((Kept.refl w).alloc (.cells (pl p).toArray 26)).alloc (.cells (ml m).toArray 28));have hpl:Hid (p.B.length=64):=hB.1;have xt:=HM.out.t;rw [ht] at xt;have hct:=Qh xt;have xf:=HM.out.f;rw [hf] at xf;have hcf:=Qh xf;clear xf;have ct:=HP.out.sq t t1;have eb:bAt p.B m.t=p.B.getD t 0:=by unfold bAt;rw [ht,Int.toNat_natCast]
 have ep:pawnB p m=(kindI (p.B.getD f 0) == 1):=by unfold pawnB bAt;rw [hf,Int.toNat_natCast]
 have HPw:=Qh (Jn p.B hB f f1);have HF1:=Qh (fun w=>rfile_k (f:Int) w (by omega) (by omega));have HF2:=Qh (fun w=>rfile_k (t:Int) w (by omega) (by omega));have HPs:=Qh (rpassed_is p hB);have htI:(t:Int)<64:=by omega
 have HV:Hid (takeI p m=-1):=by show _=_;unfold takeI epTake;rw [if_neg (by simpa using h0),if_neg (by simp [h2])]
 have he':decide ((0:Int)≤p.e)=true:=decide_eq_true he;rw [ht] at h2;rw [eb] at h0;rw [h0] at ct;rw [h1] at ep;rw [← ep] at HPw;clear h0 eb ep h1;clear hB hf ht;go_enter Tryz.func42,Tryz.ntmps42;go_wp2;clear ct xt;generalize (w.alloc (.cells (pl p).toArray 26)).alloc (.cells (ml m).toArray 28)=W at *;refine wp_region_held_drew (S:=Kept _) (by kernel_rfl) (Kept.refl _).drew (fun Qj=>?_);refine rT 0 13 (.pointer (some ⟨w.heap.size,0,none⟩)) rfl rfl Qj ?_;simp only [pA,pN,sZ,sU];refine rY 1 14 rfl rfl (Qp (by rfl) _ rfl _ rfl p hpl.out (fun _ h=>(HP.out).kept h)) Qj ?_;simp only [pA,pN,sZ,sU];refine rT 2 15 (.pointer (some ⟨w.heap.size+1,0,none⟩)) rfl rfl Qj ?_;simp only [pA,pN,sZ,sU];refine rC 3 16 (.int .i64 ↑f) rfl rfl (fun _ h=>Qa h (hcf.out)) Qj ?_;simp only [pA,pN,sZ,sU];refine rR 4 rfl (fun K hK=>?_);go_simp;refine (HPw.out _).mono ?_;rintro e w2 ⟨rfl,gw2⟩;refine hK.out _ _ (Qj.trans gw2) (fun _=>?_);replace Qj:=Qj.trans gw2;clear hK K;refine rT 5 18 (.bool true) rfl rfl Qj ?_;simp only [pA,pN,sZ,sU];refine rT 6 19 (.pointer (some ⟨w.heap.size,66,none⟩)) rfl rfl Qj ?_;simp only [pA,pN,sZ,sU];refine rC 7 20 (.int .i64 p.e) rfl rfl (fun _ h=>Qa h (HP.out.ep)) Qj ?_;simp only [pA,pN,sZ,sU];refine rT 8 21 (.bool true) rfl rfl Qj ?_;simp only [pA,pN,sZ,sU];refine rT 9 22 (.bool true) rfl rfl Qj ?_;simp only [pA,pN,sZ,sU];refine rT 10 23 (.bool true) rfl rfl Qj ?_;simp only [pA,pN,sZ,sU];refine rT 11 24 (.pointer (some ⟨w.heap.size+1,1,none⟩)) rfl rfl Qj ?_;simp only [pA,pN,sZ,sU];refine rC 12 25 (.int .i64 ↑t) rfl rfl (fun _ h=>Qa h (hct.out)) Qj ?_;simp only [pA,pN,sZ,sU];refine rT 13 26 (.pointer (some ⟨w.heap.size,66,none⟩)) rfl rfl Qj ?_;simp only [pA,pN,sZ,sU];refine rC 14 27 (.int .i64 p.e) rfl rfl (fun _ h=>Qa h (HP.out.ep)) Qj ?_;simp only [pA,pN,sZ,sU];refine rT 15 28 (.bool false) rfl rfl Qj ?_;simp only [pA,pN,sZ,sU];refine rT 16 29 (.bool false) rfl rfl Qj ?_;simp only [pA,pN,sZ,sU];refine rT 17 30 (.bool false) rfl rfl Qj ?_;simp only [pA,pN,sZ,sU];refine rN 18 31 rfl rfl Qj ?_;simp only [pA,pN,sZ,sU];refine rN 19 32 rfl rfl Qj ?_;simp only [pA,pN,sZ,sU];refine rN 20 33 rfl rfl Qj ?_;simp only [pA,pN,sZ,sU];refine rN 21 34 rfl rfl Qj ?_;simp only [pA,pN,sZ,sU];refine rN 22 35 rfl rfl Qj ?_;simp only [pA,pN,sZ,sU];refine rN 23 36 rfl rfl Qj ?_;simp only [pA,pN,sZ,sU];refine rN 24 37 rfl rfl Qj ?_;simp only [pA,pN,sZ,sU];refine rT 25 38 (.bool false) rfl rfl Qj ?_;simp only [pA,pN,sZ,sU];refine wpAnyH_done (by kernel_rfl) ?_ _;go_wp2;go_ret;exact ⟨by rw [HV.out];rfl,HK0.out.trans Qj⟩
set_option maxHeartbeats 2000000 in
theorem rtakes4 (p:Ps) (hB:Brd p.B) (m:Mv) (f t:Nat) (hf:m.f=f) (ht:m.t=t) (f1:f<64) (t1:t<64) (h0:bAt p.B m.t=0) (h1:pawnB p m=true) (he:0≤p.e) (h2:(m.t == p.e)=true) (h3:(m.f % 8 != m.t % 8)=false) (w:World) :
  Calls Tryz.prog 42 #[.agg (pl p).toArray,.agg (ml m).toArray] w fun e w'=>e=.returned (.int .i64 (takeI p m))∧Kept w w':=by
 have HP:Hid (PAt _ _ p):=⟨hB.1,heap_alloc2_old w (.cells (pl p).toArray 26) (.cells (ml m).toArray 28)⟩;have HM:Hid (MAt _ _ m):=⟨heap_alloc2_new w (.cells (pl p).toArray 26) (.cells (ml m).toArray 28)⟩;have HK0:=Qh (((Kept.refl w).alloc (.cells (pl p).toArray 26)).alloc (.cells (ml m).toArray 28));have hpl:Hid (p.B.length=64):=hB.1;have xt:=HM.out.t;rw [ht] at xt;have hct:=Qh xt;have xf:=HM.out.f;rw [hf] at xf;have hcf:=Qh xf;clear xf;have ct:=HP.out.sq t t1;have eb:bAt p.B m.t=p.B.getD t 0:=by unfold bAt;rw [ht,Int.toNat_natCast]
 have ep:pawnB p m=(kindI (p.B.getD f 0) == 1):=by unfold pawnB bAt;rw [hf,Int.toNat_natCast]
 have HPw:=Qh (Jn p.B hB f f1);have HF1:=Qh (fun w=>rfile_k (f:Int) w (by omega) (by omega));have HF2:=Qh (fun w=>rfile_k (t:Int) w (by omega) (by omega));have HPs:=Qh (rpassed_is p hB);have htI:(t:Int)<64:=by omega
 have HV:Hid (takeI p m=-1):=by show _=_;unfold takeI epTake;rw [if_neg (by simpa using h0),if_neg (by simp [h3])]
 have he':decide ((0:Int)≤p.e)=true:=decide_eq_true he;have h3':((t:Int) % 8 != (f:Int) % 8)=false:=by rw [← h3,hf,ht,bne_comm]
 rw [ht] at h2;clear h3;rw [eb] at h0;rw [h0] at ct;rw [h1] at ep;rw [← ep] at HPw;clear h0 eb ep h1;clear hB hf ht;go_enter Tryz.func42,Tryz.ntmps42;go_wp2;clear ct xt;generalize (w.alloc (.cells (pl p).toArray 26)).alloc (.cells (ml m).toArray 28)=W at *;refine wp_region_held_drew (S:=Kept _) (by kernel_rfl) (Kept.refl _).drew (fun Qj=>?_);refine rT 0 13 (.pointer (some ⟨w.heap.size,0,none⟩)) rfl rfl Qj ?_;simp only [pA,pN,sZ,sU];refine rY 1 14 rfl rfl (Qp (by rfl) _ rfl _ rfl p hpl.out (fun _ h=>(HP.out).kept h)) Qj ?_;simp only [pA,pN,sZ,sU];refine rT 2 15 (.pointer (some ⟨w.heap.size+1,0,none⟩)) rfl rfl Qj ?_;simp only [pA,pN,sZ,sU];refine rC 3 16 (.int .i64 ↑f) rfl rfl (fun _ h=>Qa h (hcf.out)) Qj ?_;simp only [pA,pN,sZ,sU];refine rR 4 rfl (fun K hK=>?_);go_simp;refine (HPw.out _).mono ?_;rintro e w2 ⟨rfl,gw2⟩;refine hK.out _ _ (Qj.trans gw2) (fun _=>?_);replace Qj:=Qj.trans gw2;clear hK K;refine rT 5 18 (.bool true) rfl rfl Qj ?_;simp only [pA,pN,sZ,sU];refine rT 6 19 (.pointer (some ⟨w.heap.size,66,none⟩)) rfl rfl Qj ?_;simp only [pA,pN,sZ,sU];refine rC 7 20 (.int .i64 p.e) rfl rfl (fun _ h=>Qa h (HP.out.ep)) Qj ?_;simp only [pA,pN,sZ,sU];refine rT 8 21 (.bool true) rfl rfl Qj ?_;simp only [pA,pN,sZ,sU];refine rT 9 22 (.bool true) rfl rfl Qj ?_;simp only [pA,pN,sZ,sU];refine rT 10 23 (.bool true) rfl rfl Qj ?_;simp only [pA,pN,sZ,sU];refine rT 11 24 (.pointer (some ⟨w.heap.size+1,1,none⟩)) rfl rfl Qj ?_;simp only [pA,pN,sZ,sU];refine rC 12 25 (.int .i64 ↑t) rfl rfl (fun _ h=>Qa h (hct.out)) Qj ?_;simp only [pA,pN,sZ,sU];refine rT 13 26 (.pointer (some ⟨w.heap.size,66,none⟩)) rfl rfl Qj ?_;simp only [pA,pN,sZ,sU];refine rC 14 27 (.int .i64 p.e) rfl rfl (fun _ h=>Qa h (HP.out.ep)) Qj ?_;simp only [pA,pN,sZ,sU];refine rT 15 28 (.bool true) rfl rfl Qj ?_;simp only [pA,pN,sZ,sU];refine rT 16 29 (.bool true) rfl rfl Qj ?_;simp only [pA,pN,sZ,sU];refine rT 17 30 (.bool true) rfl rfl Qj ?_;simp only [pA,pN,sZ,sU];refine rT 18 31 (.pointer (some ⟨w.heap.size+1,1,none⟩)) rfl rfl Qj ?_;simp only [pA,pN,sZ,sU];refine rC 19 32 (.int .i64 ↑t) rfl rfl (fun _ h=>Qa h (hct.out)) Qj ?_;simp only [pA,pN,sZ,sU];refine rT 21 34 (.pointer (some ⟨w.heap.size+1,0,none⟩)) rfl rfl Qj ?_;simp only [pA,pN,sZ,sU];refine rC 22 35 (.int .i64 ↑f) rfl rfl (fun _ h=>Qa h (hcf.out)) Qj ?_;simp only [pA,pN,sZ,sU];refine rR 20 rfl (fun K hK=>?_);go_simp;refine (HF2.out _).mono ?_;rintro e w3 ⟨rfl,gw3⟩;refine hK.out _ _ (Qj.trans gw3) (fun _=>?_);replace Qj:=Qj.trans gw3;clear hK K;refine rR 23 rfl (fun K hK=>?_);go_simp;refine (HF1.out _).mono ?_;rintro e w4 ⟨rfl,gw4⟩;refine hK.out _ _ (Qj.trans gw4) (fun _=>?_);replace Qj:=Qj.trans gw4;clear hK K;refine rT 24 37 (.bool false) rfl rfl Qj ?_;simp only [pA,pN,sZ,sU];refine rT 25 38 (.bool false) rfl rfl Qj ?_;simp only [pA,pN,sZ,sU];refine wpAnyH_done (by kernel_rfl) ?_ _;go_wp2;go_ret;exact ⟨by rw [HV.out];rfl,HK0.out.trans Qj⟩
set_option maxHeartbeats 2000000 in
theorem rtakes5 (p:Ps) (hB:Brd p.B) (m:Mv) (f t:Nat) (hf:m.f=f) (ht:m.t=t) (f1:f<64) (t1:t<64) (h0:bAt p.B m.t=0) (h1:pawnB p m=true) (he:0≤p.e) (h2:(m.t == p.e)=true) (h3:(m.f % 8 != m.t % 8)=true) (w:World) :
  Calls Tryz.prog 42 #[.agg (pl p).toArray,.agg (ml m).toArray] w fun e w'=>e=.returned (.int .i64 (takeI p m))∧Kept w w':=by
 have HP:Hid (PAt _ _ p):=⟨hB.1,heap_alloc2_old w (.cells (pl p).toArray 26) (.cells (ml m).toArray 28)⟩;have HM:Hid (MAt _ _ m):=⟨heap_alloc2_new w (.cells (pl p).toArray 26) (.cells (ml m).toArray 28)⟩;have HK0:=Qh (((Kept.refl w).alloc (.cells (pl p).toArray 26)).alloc (.cells (ml m).toArray 28));have hpl:Hid (p.B.length=64):=hB.1;have xt:=HM.out.t;rw [ht] at xt;have hct:=Qh xt;have xf:=HM.out.f;rw [hf] at xf;have hcf:=Qh xf;clear xf;have ct:=HP.out.sq t t1;have eb:bAt p.B m.t=p.B.getD t 0:=by unfold bAt;rw [ht,Int.toNat_natCast]
 have ep:pawnB p m=(kindI (p.B.getD f 0) == 1):=by unfold pawnB bAt;rw [hf,Int.toNat_natCast]
 have HPw:=Qh (Jn p.B hB f f1);have HF1:=Qh (fun w=>rfile_k (f:Int) w (by omega) (by omega));have HF2:=Qh (fun w=>rfile_k (t:Int) w (by omega) (by omega));have HPs:=Qh (rpassed_is p hB);have htI:(t:Int)<64:=by omega
 have HV:Hid (takeI p m=passI p):=by show _=_;unfold takeI epTake;rw [if_neg (by simpa using h0),if_pos (by rw [h1,h2,h3];rfl)]
 have he':decide ((0:Int)≤p.e)=true:=decide_eq_true he;have h3':((t:Int) % 8 != (f:Int) % 8)=true:=by rw [← h3,hf,ht,bne_comm]
 rw [ht] at h2;clear h3;rw [eb] at h0;rw [h0] at ct;rw [h1] at ep;rw [← ep] at HPw;clear h0 eb ep h1;clear hB hf ht;go_enter Tryz.func42,Tryz.ntmps42;go_wp2;clear ct xt;generalize (w.alloc (.cells (pl p).toArray 26)).alloc (.cells (ml m).toArray 28)=W at *;refine wp_region_held_drew (S:=Kept _) (by kernel_rfl) (Kept.refl _).drew (fun Qj=>?_);refine rT 0 13 (.pointer (some ⟨w.heap.size,0,none⟩)) rfl rfl Qj ?_;simp only [pA,pN,sZ,sU];refine rY 1 14 rfl rfl (Qp (by rfl) _ rfl _ rfl p hpl.out (fun _ h=>(HP.out).kept h)) Qj ?_;simp only [pA,pN,sZ,sU];refine rT 2 15 (.pointer (some ⟨w.heap.size+1,0,none⟩)) rfl rfl Qj ?_;simp only [pA,pN,sZ,sU];refine rC 3 16 (.int .i64 ↑f) rfl rfl (fun _ h=>Qa h (hcf.out)) Qj ?_;simp only [pA,pN,sZ,sU];refine rR 4 rfl (fun K hK=>?_);go_simp;refine (HPw.out _).mono ?_;rintro e w2 ⟨rfl,gw2⟩;refine hK.out _ _ (Qj.trans gw2) (fun _=>?_);replace Qj:=Qj.trans gw2;clear hK K;refine rT 5 18 (.bool true) rfl rfl Qj ?_;simp only [pA,pN,sZ,sU];refine rT 6 19 (.pointer (some ⟨w.heap.size,66,none⟩)) rfl rfl Qj ?_;simp only [pA,pN,sZ,sU];refine rC 7 20 (.int .i64 p.e) rfl rfl (fun _ h=>Qa h (HP.out.ep)) Qj ?_;simp only [pA,pN,sZ,sU];refine rT 8 21 (.bool true) rfl rfl Qj ?_;simp only [pA,pN,sZ,sU];refine rT 9 22 (.bool true) rfl rfl Qj ?_;simp only [pA,pN,sZ,sU];refine rT 10 23 (.bool true) rfl rfl Qj ?_;simp only [pA,pN,sZ,sU];refine rT 11 24 (.pointer (some ⟨w.heap.size+1,1,none⟩)) rfl rfl Qj ?_;simp only [pA,pN,sZ,sU];refine rC 12 25 (.int .i64 ↑t) rfl rfl (fun _ h=>Qa h (hct.out)) Qj ?_;simp only [pA,pN,sZ,sU];refine rT 13 26 (.pointer (some ⟨w.heap.size,66,none⟩)) rfl rfl Qj ?_;simp only [pA,pN,sZ,sU];refine rC 14 27 (.int .i64 p.e) rfl rfl (fun _ h=>Qa h (HP.out.ep)) Qj ?_;simp only [pA,pN,sZ,sU];refine rT 15 28 (.bool true) rfl rfl Qj ?_;simp only [pA,pN,sZ,sU];refine rT 16 29 (.bool true) rfl rfl Qj ?_;simp only [pA,pN,sZ,sU];refine rT 17 30 (.bool true) rfl rfl Qj ?_;simp only [pA,pN,sZ,sU];refine rT 18 31 (.pointer (some ⟨w.heap.size+1,1,none⟩)) rfl rfl Qj ?_;simp only [pA,pN,sZ,sU];refine rC 19 32 (.int .i64 ↑t) rfl rfl (fun _ h=>Qa h (hct.out)) Qj ?_;simp only [pA,pN,sZ,sU];refine rT 21 34 (.pointer (some ⟨w.heap.size+1,0,none⟩)) rfl rfl Qj ?_;simp only [pA,pN,sZ,sU];refine rC 22 35 (.int .i64 ↑f) rfl rfl (fun _ h=>Qa h (hcf.out)) Qj ?_;simp only [pA,pN,sZ,sU];refine rR 20 rfl (fun K hK=>?_);go_simp;refine (HF2.out _).mono ?_;rintro e w3 ⟨rfl,gw3⟩;refine hK.out _ _ (Qj.trans gw3) (fun _=>?_);replace Qj:=Qj.trans gw3;clear hK K;refine rR 23 rfl (fun K hK=>?_);go_simp;refine (HF1.out _).mono ?_;rintro e w4 ⟨rfl,gw4⟩;refine hK.out _ _ (Qj.trans gw4) (fun _=>?_);replace Qj:=Qj.trans gw4;clear hK K;refine rT 24 37 (.bool true) rfl rfl Qj ?_;simp only [pA,pN,sZ,sU];refine rT 25 38 (.bool true) rfl rfl Qj ?_;simp only [pA,pN,sZ,sU];refine wpAnyH_done (by kernel_rfl) ?_ _;have HP4:=Qh (HP.out.kept Qj);have HK4:=Qh (HK0.out.trans Qj);clear Qj;go_wp2_with (first|(refine Qc (by rfl) _ rfl _ rfl _ (HP4.out) ?_)|(refine Qd (by rfl) _ rfl _ rfl _ (HP4.out) ?_))
 refine (HPs.out _).mono ?_;rintro e w5 ⟨rfl,k5⟩;have HK5:=Qh (HK4.out.trans k5);clear k5;go_wp2;go_ret;exact ⟨by rw [HV.out];rfl,HK5.out⟩
theorem Jc (p:Ps) (hB:Brd p.B) (m:Mv) (ho:On m) (w:World) :
  Calls Tryz.prog 42 #[.agg (pl p).toArray,.agg (ml m).toArray] w fun e w'=>e=.returned (.int .i64 (takeI p m))∧Kept w w':=by
 obtain ⟨f,hf⟩:=Int.eq_ofNat_of_zero_le ho.f0;obtain ⟨t,ht⟩:=Int.eq_ofNat_of_zero_le ho.t0;have f1:f<64:=by have:=ho.f1;omega
 have t1:t<64:=by have:=ho.t1;omega
 by_cases h0:bAt p.B m.t=0
 ·cases h1:pawnB p m
  ·exact rtakes1 p hB m f t hf ht f1 t1 h0 h1 w
  ·by_cases he:0≤p.e
   ·cases h2:(m.t == p.e)
    ·exact rtakes3 p hB m f t hf ht f1 t1 h0 h1 he h2 w
    ·cases h3:(m.f % 8 != m.t % 8)
     ·exact rtakes4 p hB m f t hf ht f1 t1 h0 h1 he h2 h3 w
     ·exact rtakes5 p hB m f t hf ht f1 t1 h0 h1 he h2 h3 w
   ·exact rtakes2 p hB m f t hf ht f1 t1 h0 h1 he w
 ·exact rtakes0 p hB m f t hf ht f1 t1 h0 w
end Go.Proofs.YtlpeiolgcaddjaaGreatDoor
