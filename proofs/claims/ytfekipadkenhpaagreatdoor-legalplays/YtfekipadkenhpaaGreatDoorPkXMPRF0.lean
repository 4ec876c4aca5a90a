/- MvN · GeB: my texts, in their order. -/
import Derived.Test.YtfekipadkenhpaaGreatDoorPkA
import Derived.Test.YtfekipadkenhpaaGreatDoorPkB
import Derived.Test.YtfekipadkenhpaaGreatDoorPkC
import Derived.Test.YtfekipadkenhpaaGreatDoorPkD
import Derived.Test.YtfekipadkenhpaaGreatDoorPkE
import Derived.Test.YtfekipadkenhpaaGreatDoorPkF
import Derived.Test.YtfekipadkenhpaaGreatDoorPkGa
import Derived.Test.YtfekipadkenhpaaGreatDoorPkH
import Derived.Test.YtfekipadkenhpaaGreatDoorPkI
import Derived.Test.YtfekipadkenhpaaGreatDoorPkJ
import Derived.Test.YtfekipadkenhpaaGreatDoorPkK
import Derived.Test.YtfekipadkenhpaaGreatDoorPkL
import Derived.Test.YtfekipadkenhpaaGreatDoorPkR
namespace Go.Proofs.YtfekipadkenhpaaGreatDoor
open Go.RowKit
set_option linter.unusedVariables false
set_option linter.unusedSimpArgs false
set_option maxRecDepth 100000
def rtB (c : Int) (b0 b1 b2 b3 : Bool) : Int :=
 let x0 := if b0 then bits .andNot .i64 c 1 else c
 let x1 := if b1 then bits .andNot .i64 x0 2 else x0
 let x2 := if b2 then bits .andNot .i64 x1 4 else x1
 if b3 then bits .andNot .i64 x2 8 else x2
def qB (c : Int) (b0 b1 b2 b3 : Bool) : Int :=
 let x0 := if rgtB c 1 && !b0 then (0 : Int) + 1 else 0
 let x1 := if rgtB c 2 && !b1 then x0 + 2 else x0
 let x2 := if rgtB c 4 && !b2 then x1 + 4 else x1
 if rgtB c 8 && !b3 then x2 + 8 else x2
theorem rq_all : ∀ c : Fin 16, ∀ b0 b1 b2 b3 : Bool, rtB ((c : Nat) : Int) b0 b1 b2 b3 = qB ((c : Nat) : Int) b0 b1 b2 b3 ∧ 0 ≤ qB ((c : Nat) : Int) b0 b1 b2 b3 ∧ qB ((c : Nat) : Int) b0 b1 b2 b3 ≤ 15 ∧ bits .andNot .i64 (qB ((c : Nat) : Int) b0 b1 b2 b3) ((c : Nat) : Int) = 0 := by decide +kernel
theorem rtN_is (c : Int) (m : Mv) : rtN c m 4 = rtB c (tcB m 0) (tcB m 1) (tcB m 2) (tcB m 3) := rfl
theorem rt_q {c : Int} (c0 : 0 ≤ c) (c1 : c ≤ 15) (b0 b1 b2 b3 : Bool) : rtB c b0 b1 b2 b3 = qB c b0 b1 b2 b3 ∧ 0 ≤ qB c b0 b1 b2 b3 ∧ qB c b0 b1 b2 b3 ≤ 15 ∧ bits .andNot .i64 (qB c b0 b1 b2 b3) c = 0 := by
 have := rq_all ⟨c.toNat, by omega⟩ b0 b1 b2 b3
 simp only [show ((c.toNat : Nat) : Int) = c by omega] at this
 exact this
theorem take_load_mvi {ops : Array Oper} {S : World → Prop} {op : Oper} {a : Act} (hw : Region.wanted op (yielded ops a.tmps) = true) (x : Operand) (ho : op.op = .load 36 x)
  (g off : Nat) (hx : a.eval x = .pointer (some ⟨g, off, none⟩)) (m : Mv) (hS : ∀ w, S w → w.rangeAt g off (ml m)) : YieldsIf Tryz.prog ops S op (.agg (ml m).toArray) a :=
 yieldsIf_load_mid hw 36 x ho g off hx (ml m) _ hS Tryz.underlying36 rfl sizeM
end Go.Proofs.YtfekipadkenhpaaGreatDoor
