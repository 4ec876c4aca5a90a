/- Base · NoF · NoH: my texts, in their order. -/
import Derived.Test.YtlpeiolgcaddjaaGreatDoorPkA
import Derived.Test.YtlpeiolgcaddjaaGreatDoorPkB
import Derived.Test.YtlpeiolgcaddjaaGreatDoorPkC
import Derived.Test.YtlpeiolgcaddjaaGreatDoorPkD
import Derived.Test.YtlpeiolgcaddjaaGreatDoorPkE
import Derived.Test.YtlpeiolgcaddjaaGreatDoorPkF
import Derived.Test.YtlpeiolgcaddjaaGreatDoorPkGa
import Derived.Test.YtlpeiolgcaddjaaGreatDoorPkGb
import Derived.Test.YtlpeiolgcaddjaaGreatDoorPkGc
import Derived.Test.YtlpeiolgcaddjaaGreatDoorPkGd
import Derived.Test.YtlpeiolgcaddjaaGreatDoorPkGe
import Derived.Test.YtlpeiolgcaddjaaGreatDoorPkGf
import Derived.Test.YtlpeiolgcaddjaaGreatDoorPkGg
import Derived.Test.YtlpeiolgcaddjaaGreatDoorPkGh
import Derived.Test.YtlpeiolgcaddjaaGreatDoorPkGj
import Derived.Test.YtlpeiolgcaddjaaGreatDoorPkH
import Derived.Test.YtlpeiolgcaddjaaGreatDoorPkI
import Derived.Test.YtlpeiolgcaddjaaGreatDoorPkJ
import Derived.Test.YtlpeiolgcaddjaaGreatDoorPkK
import Derived.Test.YtlpeiolgcaddjaaGreatDoorPkL
import Derived.Test.YtlpeiolgcaddjaaGreatDoorPkLa
import Derived.Test.YtlpeiolgcaddjaaGreatDoorPkLd
import Derived.Test.YtlpeiolgcaddjaaGreatDoorPkLe
import Derived.Test.YtlpeiolgcaddjaaGreatDoorPkLf
import Derived.Test.YtlpeiolgcaddjaaGreatDoorPkLg
import Derived.Test.YtlpeiolgcaddjaaGreatDoorPkLh
import Derived.Test.YtlpeiolgcaddjaaGreatDoorPkLi
import Derived.Test.YtlpeiolgcaddjaaGreatDoorPkLj
import Derived.Test.YtlpeiolgcaddjaaGreatDoorPkM
import Derived.Test.YtlpeiolgcaddjaaGreatDoorPkN
import Derived.Test.YtlpeiolgcaddjaaGreatDoorPkNa
import Derived.Test.YtlpeiolgcaddjaaGreatDoorPkNb
import Derived.Test.YtlpeiolgcaddjaaGreatDoorPkNc
import Derived.Test.YtlpeiolgcaddjaaGreatDoorPkNd
import Derived.Test.YtlpeiolgcaddjaaGreatDoorPkNf
import Derived.Test.YtlpeiolgcaddjaaGreatDoorPkO
import Derived.Test.YtlpeiolgcaddjaaGreatDoorPkP
import Derived.Test.YtlpeiolgcaddjaaGreatDoorPkQ
import Derived.Test.YtlpeiolgcaddjaaGreatDoorPkR
import Derived.Test.YtlpeiolgcaddjaaGreatDoorPkU
import Derived.Test.YtlpeiolgcaddjaaGreatDoorPkV
import Derived.Test.YtlpeiolgcaddjaaGreatDoorRows
import Derived.WalkKit
import Derived.ProofKit
import Derived.OpenShut
import Derived.LoopTactic
import Derived.WalkLawsBesides
import Derived.Outline
import Derived.Lib.Hide
import Derived.Deep.QuietTactic
import Derived.BigQuiet
import Derived.Laws.Cover4
import Derived.WalkSpells
import Derived.Laws.RangeAny
namespace Go.Proofs.YtlpeiolgcaddjaaGreatDoor
open Go.RowKit
set_option linter.unusedVariables false
theorem str_eq_false {a b:ByteArray} (h:a≠b):(a.toList == b.toList)=false:=by
 rw [beq_eq_false_iff_ne];intro e;rw [ByteArray.toList_eq,ByteArray.toList_eq] at e;exact h (WideShapes.bytes_inj e)
set_option linter.unusedSimpArgs false
set_option maxRecDepth 100000
theorem extract_list (t:ByteArray) (a b:Nat):(t.extract a b).data.toList=(t.data.toList.drop a).take (b-a):=by
 rw [ByteArray.data_extract,Array.toList_extract]
theorem size_list (t:ByteArray):t.size=t.data.toList.length:=rfl
theorem app_nil' (a:ByteArray):a++⟨#[]⟩=a:=bs_ext (by rw [Jh];simp)
theorem slash_nil' {a:ByteArray} (h:a≠⟨#[]⟩):(a.toList == [])=false:=by
 rw [beq_eq_false_iff_ne,ByteArray.toList_eq];exact fun e=>h (bs_ext (by rw [e]))
end Go.Proofs.YtlpeiolgcaddjaaGreatDoor
