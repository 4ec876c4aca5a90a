/- NoB: my texts, in their order. -/
import Derived.Test.YtlpeiolgcaddjaaGreatDoorPkA
import Derived.Test.YtlpeiolgcaddjaaGreatDoorPkB
import Derived.Test.YtlpeiolgcaddjaaGreatDoorPkC
import Derived.Test.YtlpeiolgcaddjaaGreatDoorPkD
import Derived.Test.YtlpeiolgcaddjaaGreatDoorPkE
import Derived.Test.YtlpeiolgcaddjaaGreatDoorPkF
import Derived.Test.YtlpeiolgcaddjaaGreatDoorPkGa
import Derived.Test.YtlpeiolgcaddjaaGreatDoorPkGb
import Derived.Test.YtlpeiolgcaddjaaGreatDoorPkGc
import Derived.Test.YtlpeiolgcaddjaaGreatDoorPkGd
import Derived.Test.YtlpeiolgcaddjaaGreatDoorPkGe
import Derived.Test.YtlpeiolgcaddjaaGreatDoorPkGh
import Derived.Test.YtlpeiolgcaddjaaGreatDoorPkH
import Derived.Test.YtlpeiolgcaddjaaGreatDoorPkI
import Derived.Test.YtlpeiolgcaddjaaGreatDoorPkJ
import Derived.Test.YtlpeiolgcaddjaaGreatDoorPkK
import Derived.Test.YtlpeiolgcaddjaaGreatDoorPkL
import Derived.Test.YtlpeiolgcaddjaaGreatDoorPkLa
import Derived.Test.YtlpeiolgcaddjaaGreatDoorPkLd
import Derived.Test.YtlpeiolgcaddjaaGreatDoorPkLe
import Derived.Test.YtlpeiolgcaddjaaGreatDoorPkLf
import Derived.Test.YtlpeiolgcaddjaaGreatDoorPkLg
import Derived.Test.YtlpeiolgcaddjaaGreatDoorPkLh
import Derived.Test.YtlpeiolgcaddjaaGreatDoorPkLi
import Derived.Test.YtlpeiolgcaddjaaGreatDoorPkM
import Derived.Test.YtlpeiolgcaddjaaGreatDoorPkN
import Derived.Test.YtlpeiolgcaddjaaGreatDoorPkNa
import Derived.Test.YtlpeiolgcaddjaaGreatDoorPkNb
import Derived.Test.YtlpeiolgcaddjaaGreatDoorPkO
import Derived.Test.YtlpeiolgcaddjaaGreatDoorPkP
import Derived.Test.YtlpeiolgcaddjaaGreatDoorPkR
import Derived.Test.YtlpeiolgcaddjaaGreatDoorPkU
import Derived.Test.YtlpeiolgcaddjaaGreatDoorPkV
import Derived.Test.YtlpeiolgcaddjaaGreatDoorShelfJ
namespace Go.Proofs.YtlpeiolgcaddjaaGreatDoor
open Go.RowKit
set_option linter.unusedVariables false
set_option linter.unusedSimpArgs false
set_option maxRecDepth 100000
theorem after_is (p:Ps) (hB:Brd p.B) (m:Mv) (h:okM p m=true) (hq:(behP p m).B.length=64) (w:World) (hT:TabM w):Calls Tryz.prog 46 #[.agg (pl p).toArray,.agg (ml m).toArray] w (RetP w (behP p m)):=by
 have HP:Hid (PAt _ _ p):=⟨hB.1,heap_alloc2_old w (.cells (pl p).toArray 26) (.cells (ml m).toArray 28)⟩;have HM:Hid (MAt _ _ m):=⟨heap_alloc2_new w (.cells (pl p).toArray 26) (.cells (ml m).toArray 28)⟩;have HK0:=Qh (((Kept.refl w).alloc (.cells (pl p).toArray 26)).alloc (.cells (ml m).toArray 28));have HK1:=Qh (HK0.out.alloc (.cells (pl Zp).toArray 26));have HP1:=Qh (HP.out.kept ((Kept.refl _).alloc (.cells (pl Zp).toArray 26)));have HM1:=Qh (MAt.kept HM.out ((Kept.refl _).alloc (.cells (pl Zp).toArray 26)));have HR1:Hid (PAt _ _ Zp):=PAt.new ((w.alloc (.cells (pl p).toArray 26)).alloc (.cells (ml m).toArray 28)) Yy;have hsz:((w.alloc (.cells (pl p).toArray 26)).alloc (.cells (ml m).toArray 28)).heap.size=w.heap.size+2:=by simp
 rw [hsz] at HR1;have HT:=Qh (hT.kept HK1.out);have HC:=Qh (fun w hw=>make_yes p hB m h w hw);have hql:=Qh hq;clear hB hT h hq HP HM HK0 hsz;generalize behP p m=q at *;go_enter Tryz.func46,Tryz.ntmps46;go_wp2_with (first|(with_reducible refine Qy rfl rfl ?_)|(refine Qc (by rfl) _ rfl _ rfl _ HP1.out ?_)|(refine Qe (by rfl) _ rfl _ rfl _ HM1.out ?_))
 refine (HC.out _ HT.out).mono ?_;rintro e w1 ⟨rfl,k1⟩;have KA:=Qh (k1.alloc (.cells (pl q).toArray 26));have HK2:=Qh (HK1.out.trans KA.out);have HR2:=Qh (HR1.out.kept KA.out);have HQ2:=Qh (PAt.new w1 hql.out);clear k1 KA;go_wp2_with (first|(with_reducible refine Qy rfl rfl ?_)|((with_reducible refine Yb rfl _ _ rfl Zp q Yy hql.out ?_ ?_ ?_);exact rfl;exact rfl)|(refine Qc (by rfl) _ rfl _ rfl _ HQ2.out ?_)|(refine Yd rfl _ _ rfl (w.heap.size+2) Zp q HR2.out hql.out rfl rfl ?_))
 refine bodyPost_ret (v:=.agg (pl q).toArray) ?_ rfl ⟨rfl,HK2.out.setRow (by omega) _⟩;exact results_p rfl _ rfl (HR2.out.setRow hql.out)
end Go.Proofs.YtlpeiolgcaddjaaGreatDoor
