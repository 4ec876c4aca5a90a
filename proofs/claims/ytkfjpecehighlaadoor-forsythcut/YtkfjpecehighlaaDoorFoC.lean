/- The reader's steps: a man, any sign. -/
import Derived.Test.YtkfjpecehighlaaDoorFoB
namespace Go.Proofs.YtkfjpecehighlaaDoor
open Go.RowKit
set_option linter.unusedVariables false
set_option linter.unusedSimpArgs false

theorem quiet_same {P : Program} {f : FuncId} {args : Array Value} {w : World} {n : Nat} {v : Value}
    (h : Calls P f args (w.drewN n) fun e w' => e = .returned v ∧ w.drewN n = w') : Calls P f args (w.drewN n) fun e w'' => e = .returned v ∧ ∃ m, w'' = w.drewN m :=
  h.mono fun _ _ ⟨he, hm⟩ => ⟨he, n, hm.symm⟩
theorem stand_no_of (w : World) (g : Nat) (q : Nat) (h : ofT (Utf8.encode (q : Int)) = 0) :
    Calls Tryd.prog 28 #[.pointer (some ⟨g, 0, none⟩), .int .i32 q] w fun e w' => e = .returned (.bool false) ∧ Kept w w' := by
  have hs := encode_size_le (q : Int)
  go_enter Tryd.func28, Tryd.ntmps28
  go_wp2_with fail
  refine (of_no _ _ (by omega) h).mono ?_
  rintro e w1 ⟨rfl, gw1⟩
  go_wp2
  go_ret
  exact ⟨rfl, Kept.of_grown gw1⟩
theorem stand_no_sign (w : World) (g : Nat) (q n : Nat) (hn : n < 12) (h : Utf8.encode (q : Int) = signN n) :
    Calls Tryd.prog 28 #[.pointer (some ⟨g, 0, none⟩), .int .i32 q] w fun e w' => e = .returned (.bool false) ∧ Kept w w' := by
  have b1 : ((lettN n).toList == (signN n).toList) = false := str_eq_false (lett_sign n n)
  go_enter Tryd.func28, Tryd.ntmps28
  go_wp2_with fail
  refine (of_yes _ (inOrd n) _ (by rw [signN]; simp [ByteArray.size]) (ofT_sign n hn) (inOrd_man n hn).1).mono ?_
  rintro e w1 ⟨rfl, gw1⟩
  go_wp2_with fail
  refine (letter_yes n hn _).mono ?_
  rintro e w2 ⟨rfl, gw2⟩
  go_wp2
  go_ret
  exact ⟨rfl, (Kept.of_grown gw1).trans (Kept.of_grown gw2)⟩
theorem stand_no_full (w : World) (g : Nat) (B : List Int) (f r : Int) (h : Rd w g B f r) (f0 : 8 ≤ f) (q n : Nat) (hn : n < 12) (hq : Utf8.encode (q : Int) = lettN n) :
    Calls Tryd.prog 28 #[.pointer (some ⟨g, 0, none⟩), .int .i32 q] w fun e w' => e = .returned (.bool false) ∧ Kept w w' := by
  have H := Lib.hid h
  clear h
  go_enter Tryd.func28, Tryd.ntmps28
  go_wp2_with fail
  refine (of_yes _ (inOrd n) _ (by rw [lettN]; simp [ByteArray.size]) (ofT_letter n hn) (inOrd_man n hn).1).mono ?_
  rintro e w1 ⟨rfl, gw1⟩
  go_wp2_with fail
  refine (letter_yes n hn _).mono ?_
  rintro e w2 ⟨rfl, gw2⟩
  have H2 := Lib.hid (H.out.heap ((Kept.of_grown gw1).trans (Kept.of_grown gw2)))
  have c1 := H2.out.file
  have c2 := H2.out.rank
  go_wp2
  go_quiet ((go_at_call 18; exact quiet_same (at_no _ _ _ (by omega))))
  go_wp2
  go_ret
  exact ⟨rfl, ((Kept.of_grown gw1).trans (Kept.of_grown gw2)).drewN _⟩
theorem stand_yes (w : World) (g : Nat) (B : List Int) (hB : Brd B) (f r : Int) (h : Rd w g B f r) (f0 : 0 ≤ f) (f1 : f < 8) (r0 : 0 ≤ r) (r1 : r ≤ 7) (q n : Nat) (hn : n < 12) (hq : Utf8.encode (q : Int) = lettN n) :
    Calls Tryd.prog 28 #[.pointer (some ⟨g, 0, none⟩), .int .i32 q] w fun e w' => e = .returned (.bool true) ∧ Rd w' g (B.set (r * 8 + f).toNat (inOrd n)) (f + 1) r ∧ KeptB g w w' := by
  have H := Lib.hid h
  have HB := Lib.hid hB
  have hok : okB (inOrd n) = true := by
    have := inOrd_man n hn
    unfold okB
    rw [(manB_iff _).2 this, Bool.or_true]
  have HO := Lib.hid hok
  obtain ⟨k, hk⟩ : ∃ k : Nat, (k : Int) = r * 8 + f := ⟨(r * 8 + f).toNat, by omega⟩
  have hk64 : k < 64 := by omega
  rw [← hk, Int.toNat_natCast]
  have HK := Lib.hid hk
  have hlen := Lib.hid (show (B.set k (inOrd n)).length = 64 by simpa using hB.1)
  clear h hB hok hk
  go_enter Tryd.func28, Tryd.ntmps28
  go_wp2_with fail
  refine (of_yes _ (inOrd n) _ (by rw [lettN]; simp [ByteArray.size]) (ofT_letter n hn) (inOrd_man n hn).1).mono ?_
  rintro e w1 ⟨rfl, gw1⟩
  go_wp2_with fail
  refine (letter_yes n hn _).mono ?_
  rintro e w2 ⟨rfl, gw2⟩
  have hk2 := (Kept.of_grown gw1).trans (Kept.of_grown gw2)
  have H2 := Lib.hid (H.out.heap hk2)
  have K2 := Lib.hid hk2
  have c1 := H2.out.file
  have c2 := H2.out.rank
  clear gw1 gw2 hk2
  go_wp2
  go_quiet ((go_at_call 18; exact quiet_same (at_yes _ _ _ (by omega) (by omega) (by omega) (by omega))))
  rw [← HK.out]
  generalize hwd : w2.drewN nq = w3
  have H3 := Lib.hid (show Rd w3 g B f r by rw [← hwd]; exact H2.out.heap ((Kept.refl _).drewN _))
  have K3 := Lib.hid (show Kept w w3 by rw [← hwd]; exact K2.out.drewN _)
  clear c1 c2 hwd H2 K2
  go_wp2_with (refine wpList_load_mid rfl 24 _ rfl g 0 rfl (cl B) _ H3.out.range Tryd.underlying24 rfl (by rw [size24, cl_length, HB.out.1]) ?_)
  refine (put_yes B HB.out k (inOrd n) hk64 HO.out _).mono ?_
  rintro e w4 ⟨rfl, g4⟩
  have H4 := Lib.hid (H3.out.heap g4)
  have K4 := Lib.hid (K3.out.trans g4)
  clear g4
  go_wp2_with (refine wpList_store_mid rfl 24 _ _ rfl g 0 (cl (B.set k (inOrd n))).toArray rfl rfl (by rw [cl_size _ hlen.out]; exact H4.out.there) (by rw [size24, cl_size _ hlen.out]) (cl_one _) ?_; refine Hid.out ?_)
  refine Lib.hid ?_
  have H5 := Lib.hid (H4.out.setBoard _ hlen.out)
  have K5 := Lib.hid (KeptB.setCells (cl (B.set k (inOrd n))).toArray.toList w4 0 (KeptB.of (g := g) K4.out))
  generalize w4.setCells g 0 (cl (B.set k (inOrd n))).toArray.toList = w5 at *
  have c1 := H5.out.file
  have f1 := H5.out.frozen 64
  go_wp2
  go_ret
  exact ⟨rfl, H5.out.setFile _, K5.out.setCell 64 _⟩
end Go.Proofs.YtkfjpecehighlaaDoor
