/- NoK: my texts, in their order. -/
import Derived.Test.YtlpeiolgcaddjaaGreatDoorPkXWRLo0
import Derived.Test.YtlpeiolgcaddjaaGreatDoorPkA
import Derived.Test.YtlpeiolgcaddjaaGreatDoorPkB
import Derived.Test.YtlpeiolgcaddjaaGreatDoorPkC
import Derived.Test.YtlpeiolgcaddjaaGreatDoorPkD
import Derived.Test.YtlpeiolgcaddjaaGreatDoorPkE
import Derived.Test.YtlpeiolgcaddjaaGreatDoorPkF
import Derived.Test.YtlpeiolgcaddjaaGreatDoorPkGa
import Derived.Test.YtlpeiolgcaddjaaGreatDoorPkGb
import Derived.Test.YtlpeiolgcaddjaaGreatDoorPkGc
import Derived.Test.YtlpeiolgcaddjaaGreatDoorPkGd
import Derived.Test.YtlpeiolgcaddjaaGreatDoorPkGe
import Derived.Test.YtlpeiolgcaddjaaGreatDoorPkGf
import Derived.Test.YtlpeiolgcaddjaaGreatDoorPkGg
import Derived.Test.YtlpeiolgcaddjaaGreatDoorPkGh
import Derived.Test.YtlpeiolgcaddjaaGreatDoorPkGj
import Derived.Test.YtlpeiolgcaddjaaGreatDoorPkH
import Derived.Test.YtlpeiolgcaddjaaGreatDoorPkI
import Derived.Test.YtlpeiolgcaddjaaGreatDoorPkJ
import Derived.Test.YtlpeiolgcaddjaaGreatDoorPkK
import Derived.Test.YtlpeiolgcaddjaaGreatDoorPkL
import Derived.Test.YtlpeiolgcaddjaaGreatDoorPkLa
import Derived.Test.YtlpeiolgcaddjaaGreatDoorPkLd
import Derived.Test.YtlpeiolgcaddjaaGreatDoorPkLe
import Derived.Test.YtlpeiolgcaddjaaGreatDoorPkLf
import Derived.Test.YtlpeiolgcaddjaaGreatDoorPkLg
import Derived.Test.YtlpeiolgcaddjaaGreatDoorPkLh
import Derived.Test.YtlpeiolgcaddjaaGreatDoorPkLi
import Derived.Test.YtlpeiolgcaddjaaGreatDoorPkLj
import Derived.Test.YtlpeiolgcaddjaaGreatDoorPkM
import Derived.Test.YtlpeiolgcaddjaaGreatDoorPkN
import Derived.Test.YtlpeiolgcaddjaaGreatDoorPkNa
import Derived.Test.YtlpeiolgcaddjaaGreatDoorPkNb
import Derived.Test.YtlpeiolgcaddjaaGreatDoorPkNc
import Derived.Test.YtlpeiolgcaddjaaGreatDoorPkNd
import Derived.Test.YtlpeiolgcaddjaaGreatDoorPkO
import Derived.Test.YtlpeiolgcaddjaaGreatDoorPkP
import Derived.Test.YtlpeiolgcaddjaaGreatDoorPkQ
import Derived.Test.YtlpeiolgcaddjaaGreatDoorPkR
import Derived.Test.YtlpeiolgcaddjaaGreatDoorPkU
import Derived.Test.YtlpeiolgcaddjaaGreatDoorPkV
namespace Go.Proofs.YtlpeiolgcaddjaaGreatDoor
open Go.RowKit
set_option linter.unusedVariables false
set_option linter.unusedSimpArgs false
set_option maxRecDepth 100000
theorem mark_size (q:Ps):(markB q).size≤1:=by
 rcases mark_one q with e|e|e <;> rw [e] <;> first|exact Nat.zero_le _|exact Nat.le_refl _
theorem short_size (p:Ps) (m:Mv) (L:List Mv):(shB p m L).size≤8:=bare_size _ _ _ _ (apart_size _ _ _) (Nat.zero_le _)
set_option maxHeartbeats 2000000 in
theorem rshort_is (p:Ps) (hB:Brd p.B) (hr:pwI p=0) (m:Mv) (hl:legB p m=true) (w:World):Calls Tryz.prog 13 #[.agg (pl p).toArray,.agg (ml m).toArray] w fun e w'=>e=.returned (.string (shB p m (legL p)++markB (behP p m)))∧Kept w w':=by
 obtain ⟨f,t,F⟩:=Yt hB (Yg hB hr hl).2.2;have HBr:=Qh (fun w=>rbare_is p hB hr m f t F w);have HMr:=Qh (fun w=>rmark_is p hB hr m hl w);have hpl:Hid (p.B.length=64):=hB.1;have s1:=short_size p m (legL p);have s2:=mark_size (behP p m);have HP:Hid (PAt _ _ p):=⟨hB.1,heap_alloc2_old w (.cells (pl p).toArray 26) (.cells (ml m).toArray 28)⟩;have HM:Hid (MAt _ _ m):=⟨heap_alloc2_new w (.cells (pl p).toArray 26) (.cells (ml m).toArray 28)⟩;have HK0:=Qh (((Kept.refl w).alloc (.cells (pl p).toArray 26)).alloc (.cells (ml m).toArray 28));clear hB hr hl F;generalize shB p m (legL p)=S at *;generalize markB (behP p m)=T at *;have z1:¬ 9223372036854775807<S.size+T.size:=by omega
 go_enter Tryz.func13,Tryz.ntmps13;go_wp2;refine wp_region_held_drew (S:=Kept _) (by kernel_rfl) (Kept.refl _).drew (fun Qj=>?_);refine rY 0 5 rfl rfl (Qk (by rfl) _ rfl _ rfl p hpl.out (fun _ h=>(HP.out).kept h)) Qj ?_;simp only [pA,pN,sZ,sU];refine rY 1 6 rfl rfl (Qm (by rfl) _ rfl _ rfl m (fun _ h=>MAt.kept (HM.out) h)) Qj ?_;simp only [pA,pN,sZ,sU];refine rY 3 8 rfl rfl (Qk (by rfl) _ rfl _ rfl p hpl.out (fun _ h=>(HP.out).kept h)) Qj ?_;simp only [pA,pN,sZ,sU];refine rY 4 9 rfl rfl (Qm (by rfl) _ rfl _ rfl m (fun _ h=>MAt.kept (HM.out) h)) Qj ?_;simp only [pA,pN,sZ,sU];refine rR 2 rfl (fun K hK=>?_);go_simp;refine (HBr.out _).mono ?_;rintro e x1 ⟨rfl,gx1⟩;refine hK.out _ _ (Qj.trans gx1) (fun _=>?_);replace Qj:=Qj.trans gx1;clear hK K;refine rR 5 rfl (fun K hK=>?_);go_simp;refine (HMr.out _).mono ?_;rintro e x2 ⟨rfl,gx2⟩;refine hK.out _ _ (Qj.trans gx2) (fun _=>?_);replace Qj:=Qj.trans gx2;clear hK K;refine rT 6 11 (.string (S++T)) rfl rfl Qj ?_;simp only [pA,pN,sZ,sU];refine rT 7 4 (.string (S++T)) rfl rfl Qj ?_;simp only [pA,pN,sZ,sU];refine wpAnyH_done (by kernel_rfl) ?_ _;go_wp2;go_ret;exact ⟨rfl,HK0.out.trans Qj⟩
end Go.Proofs.YtlpeiolgcaddjaaGreatDoor
