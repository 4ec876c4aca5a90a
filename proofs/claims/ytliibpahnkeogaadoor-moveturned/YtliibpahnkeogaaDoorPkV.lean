/- Parse: the numbers · Parse; the walk of MoveTexts. (Written by wip/mkmvv.py.). -/
import Derived.Test.YtliibpahnkeogaaDoorPkM
import Derived.Test.YtliibpahnkeogaaDoorPkU
namespace Go.Proofs.YtliibpahnkeogaaDoor
open Go.RowKit
set_option linter.unusedVariables false
set_option linter.unusedSimpArgs false
set_option maxRecDepth 100000

/-- A byte that is no sign of its own. -/
def high (x : ByteArray) : Prop := ∃ y ∈ x.data.toList, 128 ≤ y.toNat
theorem high_left {a : ByteArray} (h : high a) (b : ByteArray) : high (a ++ b) := by
  obtain ⟨y, hy, h1⟩ := h
  exact ⟨y, by simp [hy], h1⟩
theorem high_right {b : ByteArray} (h : high b) (a : ByteArray) : high (a ++ b) := by
  obtain ⟨y, hy, h1⟩ := h
  exact ⟨y, by simp [hy], h1⟩
theorem high_enc (q : Nat) (h : 128 ≤ q) : high (Utf8.encode (q : Int)) := by
  unfold Utf8.encode
  dsimp only
  generalize hc : (if Utf8.valid (q : Int) = true then (q : Int).toNat else Utf8.runeError) = c
  have hc0 : 128 ≤ c := by
    rw [← hc]; split
    · simpa using h
    · decide
  have hc1 : c < 0x110000 := by
    rw [← hc]; split
    · next hv => simp [Utf8.valid] at hv; omega
    · decide
  rw [if_neg (by omega)]
  split
  · refine ⟨_, List.mem_cons_self .., ?_⟩
    simp only [UInt8.toNat_ofNat']
    omega
  · split
    · refine ⟨_, List.mem_cons_self .., ?_⟩
      simp only [UInt8.toNat_ofNat']
      omega
    · refine ⟨_, List.mem_cons_self .., ?_⟩
      simp only [UInt8.toNat_ofNat']
      omega
theorem enc_one (c : UInt8) (h : c.toNat < 128) : Utf8.encode (c.toNat : Nat) = ⟨#[c]⟩ := by
  have : ∀ k : Fin 128, Utf8.encode ((k.val : Nat) : Int) = ⟨#[UInt8.ofNat k.val]⟩ := by decide +kernel
  have h1 := this ⟨c.toNat, h⟩
  simpa using h1
theorem name_low (n : Nat) (h : n < 64) : ¬ high (nameOf n) := by
  have : ∀ m : Fin 64, ∀ y ∈ (nameOf ((m : Nat) : Int)).data.toList, ¬ 128 ≤ y.toNat := by decide +kernel
  rintro ⟨y, hy, h1⟩
  exact this ⟨n, h⟩ y hy h1
theorem sm_low {q : Int} (h : promoB q = true) : ¬ high (smB q) := by
  have key : ∀ x ∈ [(0 : Int), 2, 3, 4, 5], ∀ y ∈ (smB x).data.toList, ¬ 128 ≤ y.toNat := by decide +kernel
  rintro ⟨y, hy, h1⟩
  have : q ∈ [(0 : Int), 2, 3, 4, 5] := by have := promo_five h; simp; omega
  exact key q this y hy h1
theorem okT_iff (m : Mv) : okT m = true ↔ (0 ≤ m.f ∧ m.f < 64) ∧ (0 ≤ m.t ∧ m.t < 64) ∧ promoB m.p = true := by
  unfold okT
  rw [Bool.and_eq_true, Bool.and_eq_true, onB_iff, onB_iff, and_assoc]
theorem tx_low {m : Mv} (h : okT m = true) : ¬ high (txB m) := by
  obtain ⟨h1, h2, h3⟩ := (okT_iff m).1 h
  rintro ⟨y, hy, h4⟩
  obtain ⟨f, hf⟩ := Int.eq_ofNat_of_zero_le h1.1
  obtain ⟨t, ht⟩ := Int.eq_ofNat_of_zero_le h2.1
  have a1 := name_low f (by omega)
  have a2 := name_low t (by omega)
  have a3 := sm_low h3
  rw [← hf] at a1
  rw [← ht] at a2
  unfold txB at hy
  simp only [ByteArray.data_append, Array.toList_append, List.mem_append] at hy
  rcases hy with (hy | hy) | hy
  · exact a1 ⟨y, hy, h4⟩
  · exact a2 ⟨y, hy, h4⟩
  · exact a3 ⟨y, hy, h4⟩
/-- What the reader's three parts hold where it has read up to 'pos'. -/
structure PI (s : ByteArray) (pos : Nat) (a b c : ByteArray) : Prop where
  sa : a.size ≤ 4 * pos
  sb : b.size ≤ 4 * pos
  sc : c.size ≤ 4 * pos
  or : (pos ≤ s.size ∧ pos ≤ 5 ∧ a.data.toList = (s.data.toList.take pos).take 2 ∧ b.data.toList = ((s.data.toList.take pos).drop 2).take 2 ∧ c.data.toList = (s.data.toList.take pos).drop 4)
    ∨ ((high a ∨ high b ∨ high c) ∧ high s)
theorem PI.start (s : ByteArray) : PI s 0 ⟨#[]⟩ ⟨#[]⟩ ⟨#[]⟩ := ⟨by simp [ByteArray.size], by simp [ByteArray.size], by simp [ByteArray.size], .inl ⟨by omega, by omega, by simp, by simp, by simp⟩⟩
/-- The three parts with a sign more. -/
def add3 (pos : Nat) (x : ByteArray) (a b c : ByteArray) : ByteArray × ByteArray × ByteArray :=
  if pos < 2 then (a ++ x, b, c) else if pos < 4 then (a, b ++ x, c) else (a, b, c ++ x)
theorem bl_len (s : ByteArray) : s.data.toList.length = s.size := rfl
theorem enc_le4 (q : Int) : (Utf8.encode q).size ≤ 4 := encode_size_le q
theorem take_more {α : Type} (l : List α) (k : Nat) (h : k < l.length) : l.take (k + 1) = l.take k ++ [l[k]] := by
  rw [List.take_add_one, List.getElem?_eq_getElem h]; rfl
theorem PI.next {s : ByteArray} {pos : Nat} {a b c : ByteArray} (h : PI s pos a b c) (hp : pos < s.size) (h4 : pos ≤ 4) {x y z : ByteArray} (e : add3 pos (Utf8.encode ((Utf8.decode s pos).1 : Nat)) a b c = (x, y, z)) :
    PI s (pos + (Utf8.decode s pos).2) x y z := by
  have hw := width_pos s pos hp
  have hs := enc_le4 ((Utf8.decode s pos).1 : Nat)
  have hsz := bl_len s
  have szs : x.size ≤ 4 * (pos + (Utf8.decode s pos).2) ∧ y.size ≤ 4 * (pos + (Utf8.decode s pos).2) ∧ z.size ≤ 4 * (pos + (Utf8.decode s pos).2) := by
    have := h.sa
    have := h.sb
    have := h.sc
    unfold add3 at e
    split at e
    · obtain ⟨rfl, rfl, rfl⟩ := by simpa using e
      rw [ByteArray.size_append]; omega
    · split at e
      · obtain ⟨rfl, rfl, rfl⟩ := by simpa using e
        rw [ByteArray.size_append]; omega
      · obtain ⟨rfl, rfl, rfl⟩ := by simpa using e
        rw [ByteArray.size_append]; omega
  refine ⟨szs.1, szs.2.1, szs.2.2, ?_⟩
  by_cases ha : (s[pos]'hp).toNat < 128
  · rcases h.or with ⟨g1, g2, g3, g4, g5⟩ | ⟨g1, g2⟩
    · left
      rw [decode_ascii s pos hp ha] at e ⊢
      dsimp only at e ⊢
      rw [enc_one _ ha] at e
      have hx : s.data.toList[pos]'(by omega) = s[pos]'hp := by simp [ByteArray.getElem_eq_getElem_data]
      have htk := take_more s.data.toList pos (by omega)
      rw [hx] at htk
      have hl : (s.data.toList.take pos).length = pos := by rw [List.length_take]; omega
      rw [htk]
      generalize s.data.toList.take pos = L at *
      generalize s[pos]'hp = v at *
      refine ⟨by omega, by omega, ?_⟩
      unfold add3 at e
      have hpos : pos = 0 ∨ pos = 1 ∨ pos = 2 ∨ pos = 3 ∨ pos = 4 := by omega
      rcases hpos with rfl | rfl | rfl | rfl | rfl
      · obtain ⟨rfl, rfl, rfl⟩ := by simpa using e
        match L, hl with
        | [], _ => simp_all
      · obtain ⟨rfl, rfl, rfl⟩ := by simpa using e
        match L, hl with
        | [l0], _ => simp_all
      · obtain ⟨rfl, rfl, rfl⟩ := by simpa using e
        match L, hl with
        | [l0, l1], _ => simp_all
      · obtain ⟨rfl, rfl, rfl⟩ := by simpa using e
        match L, hl with
        | [l0, l1, l2], _ => simp_all
      · obtain ⟨rfl, rfl, rfl⟩ := by simpa using e
        match L, hl with
        | [l0, l1, l2, l3], _ => simp_all
    · right
      refine ⟨?_, g2⟩
      unfold add3 at e
      split at e
      · obtain ⟨rfl, rfl, rfl⟩ := by simpa using e
        rcases g1 with g | g | g
        · exact .inl (high_left g _)
        · exact .inr (.inl g)
        · exact .inr (.inr g)
      · split at e
        · obtain ⟨rfl, rfl, rfl⟩ := by simpa using e
          rcases g1 with g | g | g
          · exact .inl g
          · exact .inr (.inl (high_left g _))
          · exact .inr (.inr g)
        · obtain ⟨rfl, rfl, rfl⟩ := by simpa using e
          rcases g1 with g | g | g
          · exact .inl g
          · exact .inr (.inl g)
          · exact .inr (.inr (high_left g _))
  · right
    have hq := (decode_high s pos hp (by omega)).1
    have hh := high_enc _ hq
    refine ⟨?_, ⟨s[pos]'hp, by simp [ByteArray.getElem_eq_getElem_data], by omega⟩⟩
    unfold add3 at e
    split at e
    · obtain ⟨rfl, rfl, rfl⟩ := by simpa using e
      exact .inl (high_right hh _)
    · split at e
      · obtain ⟨rfl, rfl, rfl⟩ := by simpa using e
        exact .inr (.inl (high_right hh _))
      · obtain ⟨rfl, rfl, rfl⟩ := by simpa using e
        exact .inr (.inr (high_right hh _))
/-- What a text is as a square's name. -/
def SR (a : ByteArray) (n : Int) (b : Bool) : Prop := (b = true ∧ (0 ≤ n ∧ n < 64) ∧ a = nameOf n) ∨ (b = false ∧ n = 0 ∧ ∀ k : Nat, k < 64 → a ≠ nameOf k)
theorem sparse_is (a : ByteArray) (w : World) : Calls Tryd.prog 58 #[.string a] w fun e w' => ∃ n b, SR a n b ∧ e = .returned (.tuple #[.int .i64 n, .bool b]) ∧ Kept w w' := by
  by_cases h : ∃ k : Nat, k < 64 ∧ a = nameOf k
  · obtain ⟨k, hk, rfl⟩ := h
    exact (parse_yes k w hk).mono fun _ _ ⟨x, y⟩ => ⟨k, true, .inl ⟨rfl, by omega, rfl⟩, x, Kept.of_grown y⟩
  · have hn : ∀ k : Nat, k < 64 → a ≠ nameOf k := fun k hk e => h ⟨k, hk, e⟩
    exact (parse_no a w hn).mono fun _ _ ⟨x, y⟩ => ⟨0, false, .inr ⟨rfl, rfl, hn⟩, x, Kept.of_grown y⟩
theorem ba_ext {a b : ByteArray} (h : a.data.toList = b.data.toList) : a = b := WideShapes.bytes_inj h
theorem tx_list (m : Mv) : (txB m).data.toList = (nameOf m.f).data.toList ++ ((nameOf m.t).data.toList ++ (smB m.p).data.toList) := by
  unfold txB; simp
theorem name_len (s : Int) : (nameOf s).data.toList.length = 2 := rfl
theorem three_of {α : Type} (l1 l2 l3 : List α) (h1 : l1.length = 2) (h2 : l2.length = 2) : (l1 ++ (l2 ++ l3)).take 2 = l1 ∧ ((l1 ++ (l2 ++ l3)).drop 2).take 2 = l2 ∧ (l1 ++ (l2 ++ l3)).drop 4 = l3 := by
  match l1, h1, l2, h2 with
  | [a, b], _, [c, d], _ => exact ⟨rfl, rfl, rfl⟩
theorem PI.all {s : ByteArray} {pos : Nat} {a b c : ByteArray} (h : PI s pos a b c) (hp : ¬ pos < s.size) {n1 n2 q : Int} (h1 : SR a n1 true) (h2 : SR b n2 true) (h3 : LR c q true) : okT ⟨n1, n2, q⟩ = true ∧ s = txB ⟨n1, n2, q⟩ := by
  obtain ⟨_, r1, e1⟩ := Or.resolve_right h1 (fun x => Bool.noConfusion x.1)
  obtain ⟨_, r2, e2⟩ := Or.resolve_right h2 (fun x => Bool.noConfusion x.1)
  obtain ⟨_, r3, e3⟩ := Or.resolve_right h3 (fun x => Bool.noConfusion x.1)
  have ok : okT ⟨n1, n2, q⟩ = true := (okT_iff _).2 ⟨r1, r2, r3⟩
  refine ⟨ok, ?_⟩
  rcases h.or with ⟨g1, g2, g3, g4, g5⟩ | ⟨g1, _⟩
  · have hsz := bl_len s
    have ht : s.data.toList.take pos = s.data.toList := List.take_of_length_le (by omega)
    rw [ht] at g3 g4 g5
    apply ba_ext
    rw [tx_list]
    dsimp only
    rw [← e1, ← e2, ← e3, g3, g4, g5]
    have : s.data.toList.drop 4 = (s.data.toList.drop 2).drop 2 := by rw [List.drop_drop]
    rw [this, List.take_append_drop, List.take_append_drop]
  · exfalso
    obtain ⟨k1, hk1⟩ := Int.eq_ofNat_of_zero_le r1.1
    obtain ⟨k2, hk2⟩ := Int.eq_ofNat_of_zero_le r2.1
    rcases g1 with g | g | g
    · rw [e1, hk1] at g; exact name_low k1 (by omega) g
    · rw [e2, hk2] at g; exact name_low k2 (by omega) g
    · rw [e3] at g; exact sm_low r3 g
theorem PI.none {s : ByteArray} {pos : Nat} {a b c : ByteArray} (h : PI s pos a b c) (hp : ¬ pos < s.size) {n1 n2 q : Int} {b1 b2 b3 : Bool} (h1 : SR a n1 b1) (h2 : SR b n2 b2) (h3 : LR c q b3) (hb : b1 = false ∨ b2 = false ∨ b3 = false) : ∀ m, okT m = true → s ≠ txB m := by
  intro m hm e
  obtain ⟨o1, o2, o3⟩ := (okT_iff m).1 hm
  obtain ⟨k1, hk1⟩ := Int.eq_ofNat_of_zero_le o1.1
  obtain ⟨k2, hk2⟩ := Int.eq_ofNat_of_zero_le o2.1
  rcases h.or with ⟨g1, g2, g3, g4, g5⟩ | ⟨_, g⟩
  · have hsz := bl_len s
    have ht : s.data.toList.take pos = s.data.toList := List.take_of_length_le (by omega)
    have hl : s.data.toList = (nameOf m.f).data.toList ++ ((nameOf m.t).data.toList ++ (smB m.p).data.toList) := by rw [e]; exact tx_list m
    rw [ht, hl] at g3 g4 g5
    obtain ⟨t1, t2, t3⟩ := three_of (nameOf m.f).data.toList (nameOf m.t).data.toList (smB m.p).data.toList (name_len _) (name_len _)
    have ea : a = nameOf k1 := by rw [← hk1]; exact ba_ext (g3.trans t1)
    have eb : b = nameOf k2 := by rw [← hk2]; exact ba_ext (g4.trans t2)
    have ec : c = smB m.p := ba_ext (g5.trans t3)
    rcases hb with rfl | rfl | rfl
    · rcases h1 with ⟨x, _⟩ | ⟨_, _, x⟩
      · cases x
      · exact x k1 (by omega) ea
    · rcases h2 with ⟨x, _⟩ | ⟨_, _, x⟩
      · cases x
      · exact x k2 (by omega) eb
    · rcases h3 with ⟨x, _⟩ | ⟨_, _, x⟩
      · cases x
      · exact x m.p o3 ec
  · rw [e] at g; exact tx_low hm g
theorem tx_size (m : Mv) : (txB m).size ≤ 5 ∧ 4 ≤ (txB m).size := by
  have := smB_size m.p
  have s1 : (nameOf m.f).size = 2 := rfl
  have s2 : (nameOf m.t).size = 2 := rfl
  unfold txB
  rw [ByteArray.size_append, ByteArray.size_append]
  omega
theorem PI.long {s : ByteArray} {pos : Nat} (hp : pos < s.size) (h4 : 4 < pos) : ∀ m, okT m = true → s ≠ txB m := by
  intro m hm e
  have := tx_size m
  rw [← e] at this
  omega
end Go.Proofs.YtliibpahnkeogaaDoor
namespace Go.Proofs.YtliibpahnkeogaaDoor
open Go.RowKit
set_option linter.unusedVariables false
set_option linter.unusedSimpArgs false
set_option maxRecDepth 100000

theorem iterAt_oth {w : World} {i j : Nat} (s : ByteArray) (p : Nat) (h : j ≠ i) : (iterAt w i s p).heap[j]? = w.heap[j]? := by
  show (w.heap.setIfInBounds i _)[j]? = _
  rw [Array.getElem?_setIfInBounds_ne (by omega)]
theorem kept_iterAt {a w : World} (h : Kept a w) {i : Nat} (hi : a.heap.size ≤ i) (s : ByteArray) (p : Nat) : Kept a (iterAt w i s p) := by
  refine ⟨h.os, h.output, ?_, fun k hk => ?_⟩
  · show a.heap.size ≤ (w.heap.setIfInBounds i _).size
    simpa using h.size
  · rw [iterAt_oth s p (by omega)]; exact h.block k hk
def Zm : Mv := ⟨0, 0, 0⟩
def p3 (a b c : ByteArray) : List Value := [.string a, .string b, .string c]
/-- What stands where Parse has come to place 'pos' of s. -/
structure PM (s : ByteArray) (w wr : World) (pos : Nat) (a b c : ByteArray) : Prop where
  pi : PI s pos a b c
  iter : wr.heap[w.heap.size + 1 + 1]? = some (.stringIter s pos)
  pt : RAt wr (w.heap.size + 1) (p3 a b c) 66
  res : MAt wr w.heap.size Zm
  kept : Kept w wr
theorem PM.start (s : ByteArray) (w : World) : PM s w (((w.alloc (.cells (ml Zm).toArray 28)).alloc (.cells (p3 ⟨#[]⟩ ⟨#[]⟩ ⟨#[]⟩).toArray 66)).iter s 0) 0 ⟨#[]⟩ ⟨#[]⟩ ⟨#[]⟩ := by
  have k := Kept.of_grown (grown_iter ((w.alloc (.cells (ml Zm).toArray 28)).alloc (.cells (p3 ⟨#[]⟩ ⟨#[]⟩ ⟨#[]⟩).toArray 66)) s 0)
  refine ⟨PI.start s, ?_, ⟨?_⟩, ⟨?_⟩, ?_⟩
  · simpa using World.iter_heap ((w.alloc (.cells (ml Zm).toArray 28)).alloc (.cells (p3 ⟨#[]⟩ ⟨#[]⟩ ⟨#[]⟩).toArray 66)) s 0
  · exact k.heap (heap_alloc2_new _ _ _)
  · exact k.heap (heap_alloc2_old _ _ _)
  · exact (((Kept.refl w).alloc _).alloc _).trans k
theorem PM.ptN {s : ByteArray} {w wr : World} {pos : Nat} {a b c : ByteArray} (h : PM s w wr pos a b c) (q : Nat) : RAt (iterAt wr (w.heap.size + 1 + 1) s q) (w.heap.size + 1) (p3 a b c) 66 :=
  ⟨(iterAt_oth s q (by omega)).trans h.pt.at_⟩
theorem PM.resN {s : ByteArray} {w wr : World} {pos : Nat} {a b c : ByteArray} (h : PM s w wr pos a b c) (q : Nat) : MAt (iterAt wr (w.heap.size + 1 + 1) s q) w.heap.size Zm :=
  ⟨(iterAt_oth s q (by omega)).trans h.res.at_⟩
theorem PM.set {s : ByteArray} {w wr : World} {pos : Nat} {a b c : ByteArray} (h : PM s w wr pos a b c) (q k : Nat) (u : ByteArray) {x y z : ByteArray} (hpi : PI s q x y z) (hl : (p3 a b c).set k (.string u) = p3 x y z) :
    PM s w ((iterAt wr (w.heap.size + 1 + 1) s q).setCell ⟨w.heap.size + 1, k, none⟩ (.string u)) q x y z := by
  have hn : ∀ j, j ≠ w.heap.size + 1 → ((iterAt wr (w.heap.size + 1 + 1) s q).setCell ⟨w.heap.size + 1, k, none⟩ (.string u)).heap[j]? = (iterAt wr (w.heap.size + 1 + 1) s q).heap[j]? := fun j hj => heap_setCell_other _ _ j _ hj
  refine ⟨hpi, (hn _ (by omega)).trans (iterAt_heap h.iter s q), ⟨?_⟩, ⟨(hn _ (by omega)).trans (h.resN q).at_⟩, (kept_iterAt h.kept (by omega) s q).setCell (p := ⟨w.heap.size + 1, k, none⟩) (by show w.heap.size ≤ w.heap.size + 1; omega) _⟩
  rw [heap_setCell_same _ _ k _ _ _ (h.ptN q).at_]
  congr 2
  rw [List.setIfInBounds_toArray, hl]
/-- What a text is as a move's. -/
def PR (s : ByteArray) (m : Mv) (b : Bool) : Prop := (b = true ∧ okT m = true ∧ s = txB m) ∨ (b = false ∧ m = Zm ∧ ∀ x, okT x = true → s ≠ txB x)
theorem ml_size (m : Mv) : (Tryd.prog.info? 28).map (·.size) = some (ml m).toArray.size := by rw [sizeM]; rfl
theorem results_mv_tmp {fn : Func} {s t : Tmp} (h : fn.results = #[.cell s 28, .tmp t]) (tmps : Array Value) {w : World} {g : Nat} {m : Mv}
    (hp : tmps.getD s undef = .pointer (some ⟨g, 0, none⟩)) (hg : MAt w g m) : (results fn tmps).run Tryd.prog w = .ok (.tuple #[.agg (ml m).toArray, tmps.getD t undef]) w := by
  have hp' : tmps[s]?.getD undef = .pointer (some ⟨g, 0, none⟩) := by simpa using hp
  have hl : (loadVar 28 ⟨g, 0, none⟩).run Tryd.prog w = .ok (.agg (ml m).toArray) w := run_loadVar_row w g _ _ (ml m).toArray (0, 0) _ hg.at_ Tryd.underlying28 rfl (ml_size m)
  simp [results, h, hp', asAddr, hl]
theorem wpList_store_mv {ops : Array Oper} {rest : List Oper} {o : Oper} {a : Act} {w : World} {Q : Exit → Act → World → Prop} (hgd : o.guard = none) (x y : Operand) (ho : o.op = .store 28 x y)
    (g : Nat) (j m : Mv) (hg : MAt w g j) (hx : a.eval x = .pointer (some ⟨g, 0, none⟩)) (hy : a.eval y = .agg (ml m).toArray)
    (h : wpList Tryd.prog ops Q rest (a.put o.dst undef) (w.setRow g (ml m).toArray)) : wpList Tryd.prog ops Q (o :: rest) a w :=
  wpList_store_row hgd 28 x y ho g (ml m).toArray hx hy 28 _ hg.at_ (ml_size m) rfl (ml_one _) h
theorem MAt.row {w : World} {g : Nat} {j : Mv} (h : MAt w g j) (m : Mv) : MAt (w.setRow g (ml m).toArray) g m := RAt.row h (ml m)
theorem built_mv (f t p : Int) : Tryd.prog.built 28 [(0, .int .i64 f), (1, .int .i64 t), (2, .int .i64 p)] = some (ml ⟨f, t, p⟩).toArray := by kernel_rfl
theorem built_mv0 : Tryd.prog.built 28 [] = some (ml Zm).toArray := by kernel_rfl
theorem wpList_built_mv0 {ops : Array Oper} {rest : List Oper} {o : Oper} {a : Act} {w : World} {Q : Exit → Act → World → Prop} (hw : Region.wanted o (yielded ops a.tmps) = true) (ho : o.op = .build 28 #[])
    (h : wpList Tryd.prog ops Q rest (a.put o.dst (.agg (ml Zm).toArray)) w) : wpList Tryd.prog ops Q (o :: rest) a w :=
  wpList_step fun _ hK => by
    rw [if_pos hw]
    have hf : Tryd.prog.built 28 ((#[] : Array (Nat × Operand)).map fun (i, x) => (i, a.eval x)).toList = some (ml Zm).toArray := by
      have : ((#[] : Array (Nat × Operand)).map fun (i, x) => (i, a.eval x)).toList = [] := by simp
      rw [this]; exact built_mv0
    exact wp_build _ _ ho (by rw [hf]; rfl) (by rw [hf]; exact hK _ _ h)
theorem wpList_built_mv {ops : Array Oper} {rest : List Oper} {o : Oper} {a : Act} {w : World} {Q : Exit → Act → World → Prop} (hg : o.guard = none) (x0 x1 x2 : Operand) (ho : o.op = .build 28 #[(0, x0), (1, x1), (2, x2)])
    (f t p : Int) (h0 : a.eval x0 = .int .i64 f) (h1 : a.eval x1 = .int .i64 t) (h2 : a.eval x2 = .int .i64 p)
    (h : wpList Tryd.prog ops Q rest (a.put o.dst (.agg (ml ⟨f, t, p⟩).toArray)) w) : wpList Tryd.prog ops Q (o :: rest) a w :=
  wpList_built hg _ _ ho _ (by
    have : ((#[(0, x0), (1, x1), (2, x2)] : Array (Nat × Operand)).map fun (i, x) => (i, a.eval x)).toList = [(0, .int .i64 f), (1, .int .i64 t), (2, .int .i64 p)] := by simp [h0, h1, h2]
    rw [this]; exact built_mv f t p) h
set_option maxHeartbeats 4000000 in
theorem mparse_is (s : ByteArray) (w : World) (hT : TabM w) : Calls Tryd.prog 22 #[.string s] w fun e w' => ∃ m b, PR s m b ∧ e = .returned (.tuple #[.agg (ml m).toArray, .bool b]) ∧ Kept w w' := by
  have HT := Lib.hid hT
  clear hT
  go_enter Tryd.func22, Tryd.ntmps22
  go_wp2
  go_loopw [5] (fun _ wr => ∃ (pos : Nat) (a b c : ByteArray), PM s w wr pos a b c) (fun _ wr => s.size - wr.iterPos (w.heap.size + 1 + 1))
  case atStart => exact ⟨0, _, _, _, PM.start s w⟩
  case round =>
    obtain ⟨pos, a, b, c, hM⟩ := hrel
    have HM := Lib.hid hM
    clear hM
    by_cases hp : pos < s.size
    · have hnx : ∀ ty, (Instr.next (.pointer (some ⟨w.heap.size + 1 + 1, 0, none⟩)) true ty).run Tryd.prog _ = _ := fun ty => next_at _ (w.heap.size + 1 + 1) s pos ty HM.out.iter hp
      have hwd := width_pos s pos hp
      by_cases h4 : pos ≤ 4
      · have hb4 : decide ((4 : Int) < (pos : Int)) = false := decide_eq_false (by omega)
        have HNx := Lib.hid (fun x y z e => HM.out.pi.next hp h4 (x := x) (y := y) (z := z) e)
        have HDl := Lib.hid (decode_le s pos)
        have hes := enc_le4 ((Utf8.decode s pos).1 : Nat)
        have HIt : Hid (∀ q, (iterAt wr (w.heap.size + 1 + 1) s q).heap[w.heap.size + 1 + 1]? = some (.stringIter s q)) := fun q => iterAt_heap HM.out.iter s q
        generalize (Utf8.decode s pos).1 = q at *
        generalize hk : (Utf8.decode s pos).2 = k at *
        clear hk
        obtain ⟨x, hx⟩ : ∃ x, Utf8.encode (q : Int) = x := ⟨_, rfl⟩
        rw [hx] at hes
        have HXE := Lib.hid hx
        simp only [hx] at HNx
        have sa := HM.out.pi.sa
        have sb := HM.out.pi.sb
        have sc := HM.out.pi.sc
        have z1 : ¬ 9223372036854775807 < a.size + x.size := by omega
        have z2 : ¬ 9223372036854775807 < b.size + x.size := by omega
        have z3 : ¬ 9223372036854775807 < c.size + x.size := by omega
        clear sa sb sc hes
        by_cases hc : pos < 2
        · skip
          have hdv : pos / 2 = 0 := by omega
          have hdI : (pos : Int) / 2 = 0 := by omega
          have y1 : _ = some (Value.string a) := (HM.out.ptN (pos + k)).cellK 0
          have y2 := (HM.out.ptN (pos + k)).frozen 0
          have HS := Lib.hid (HM.out.set (pos + k) 0 (a ++ x) (HNx.out (a ++ x) b c (by unfold add3; rw [if_pos hc])) rfl)
          clear h4
          go_wp2
          go_roundw
          case rel => exact ⟨pos + k, _, _, _, HS.out⟩
          case measure => simp [World.iterPos, HS.out.iter, HM.out.iter]; omega
        · by_cases hc2 : pos < 4
          · skip
            have hdv : pos / 2 = 1 := by omega
            have hdI : (pos : Int) / 2 = 1 := by omega
            have y1 : _ = some (Value.string b) := (HM.out.ptN (pos + k)).cellK 1
            have y2 := (HM.out.ptN (pos + k)).frozen 1
            have HS := Lib.hid (HM.out.set (pos + k) 1 (b ++ x) (HNx.out a (b ++ x) c (by unfold add3; rw [if_neg (by omega), if_pos hc2])) rfl)
            clear h4
            go_wp2
            go_roundw
            case rel => exact ⟨pos + k, _, _, _, HS.out⟩
            case measure => simp [World.iterPos, HS.out.iter, HM.out.iter]; omega
          · skip
            have hdv : pos / 2 = 2 := by omega
            have hdI : (pos : Int) / 2 = 2 := by omega
            have y1 : _ = some (Value.string c) := (HM.out.ptN (pos + k)).cellK 2
            have y2 := (HM.out.ptN (pos + k)).frozen 2
            have HS := Lib.hid (HM.out.set (pos + k) 2 (c ++ x) (HNx.out a b (c ++ x) (by unfold add3; rw [if_neg (by omega), if_neg (by omega)])) rfl)
            clear h4
            go_wp2
            go_roundw
            case rel => exact ⟨pos + k, _, _, _, HS.out⟩
            case measure => simp [World.iterPos, HS.out.iter, HM.out.iter]; omega
      · have hb4 : decide ((4 : Int) < (pos : Int)) = true := decide_eq_true (by omega)
        have HL := Lib.hid (PI.long hp (by omega))
        have HR := Lib.hid (HM.out.resN (pos + (Utf8.decode s pos).2))
        have HKf := Lib.hid (kept_iterAt HM.out.kept (i := w.heap.size + 1 + 1) (by omega) s (pos + (Utf8.decode s pos).2))
        generalize (Utf8.decode s pos).1 = q at *
        generalize (Utf8.decode s pos).2 = k at *
        clear h4
        go_wp2_with (first | (refine wpList_built_mv0 (by rfl) rfl ?_) | (refine wpList_store_mv rfl _ _ rfl w.heap.size Zm Zm HR.out rfl rfl ?_))
        refine bodyPost_ret (v := .tuple #[.agg (ml Zm).toArray, .bool false]) ?_ rfl ⟨Zm, false, .inr ⟨rfl, rfl, HL.out⟩, rfl, HKf.out.setRow (by omega) _⟩
        exact (results_mv_tmp (s := 2) (t := 3) rfl _ rfl (HR.out.row Zm)).trans rfl
    · have hnx : ∀ ty, (Instr.next (.pointer (some ⟨w.heap.size + 1 + 1, 0, none⟩)) true ty).run Tryd.prog _ = _ := fun ty => next_at_end _ (w.heap.size + 1 + 1) s pos ty HM.out.iter hp
      have y0 : _ = some (Value.string a) := HM.out.pt.cellK 0
      go_wp2_with fail
      refine (sparse_is a _).mono ?_
      rintro e w1 ⟨n1, b1, hs1, rfl, k1⟩
      have HS1 := Lib.hid hs1
      have HP1 := Lib.hid (HM.out.pt.kept k1)
      have HR1 := Lib.hid (MAt.kept HM.out.res k1)
      have HK1 := Lib.hid (HM.out.kept.trans k1)
      have y1 : _ = some (Value.string b) := HP1.out.cellK 1
      clear k1 y0 hs1 hnx
      go_wp2_with fail
      refine (sparse_is b _).mono ?_
      rintro e w2 ⟨n2, b2, hs2, rfl, k2⟩
      have HS2 := Lib.hid hs2
      have HP2 := Lib.hid (HP1.out.kept k2)
      have HR2 := Lib.hid (MAt.kept HR1.out k2)
      have HK2 := Lib.hid (HK1.out.trans k2)
      have y2 : _ = some (Value.string c) := HP2.out.cellK 2
      clear k2 y1 hs2
      go_wp2_with fail
      refine (promoOf_is c _ (HT.out.kept HK2.out)).mono ?_
      rintro e w3 ⟨n3, b3, hs3, rfl, k3⟩
      have HS3 := Lib.hid hs3
      have HR3 := Lib.hid (MAt.kept HR2.out k3)
      have HK3 := Lib.hid (HK2.out.trans k3)
      have HNo := Lib.hid (fun h => HM.out.pi.none hp HS1.out HS2.out HS3.out h)
      clear k3 y2 hs3
      cases b1
      · skip
        have HNn := Lib.hid (HNo.out (.inl rfl))
        clear HNo
        go_wp2_with (first | (refine wpList_built_mv0 (by rfl) rfl ?_) | (refine wpList_store_mv rfl _ _ rfl w.heap.size Zm Zm HR3.out rfl rfl ?_))
        refine bodyPost_ret (v := .tuple #[.agg (ml Zm).toArray, .bool false]) ?_ rfl ⟨Zm, false, .inr ⟨rfl, rfl, HNn.out⟩, rfl, HK3.out.setRow (by omega) _⟩
        exact (results_mv_tmp (s := 2) (t := 3) rfl _ rfl (HR3.out.row Zm)).trans rfl
      · cases b2
        · skip
          have HNn := Lib.hid (HNo.out (.inr (.inl rfl)))
          clear HNo
          go_wp2_with (first | (refine wpList_built_mv0 (by rfl) rfl ?_) | (refine wpList_store_mv rfl _ _ rfl w.heap.size Zm Zm HR3.out rfl rfl ?_))
          refine bodyPost_ret (v := .tuple #[.agg (ml Zm).toArray, .bool false]) ?_ rfl ⟨Zm, false, .inr ⟨rfl, rfl, HNn.out⟩, rfl, HK3.out.setRow (by omega) _⟩
          exact (results_mv_tmp (s := 2) (t := 3) rfl _ rfl (HR3.out.row Zm)).trans rfl
        · cases b3
          · skip
            have HNn := Lib.hid (HNo.out (.inr (.inr rfl)))
            clear HNo
            go_wp2_with (first | (refine wpList_built_mv0 (by rfl) rfl ?_) | (refine wpList_store_mv rfl _ _ rfl w.heap.size Zm Zm HR3.out rfl rfl ?_))
            refine bodyPost_ret (v := .tuple #[.agg (ml Zm).toArray, .bool false]) ?_ rfl ⟨Zm, false, .inr ⟨rfl, rfl, HNn.out⟩, rfl, HK3.out.setRow (by omega) _⟩
            exact (results_mv_tmp (s := 2) (t := 3) rfl _ rfl (HR3.out.row Zm)).trans rfl
          · have HY := Lib.hid (HM.out.pi.all hp HS1.out HS2.out HS3.out)
            go_wp2_with (first | (refine wpList_built_mv rfl _ _ _ rfl n1 n2 n3 rfl rfl rfl ?_) | (refine wpList_store_mv rfl _ _ rfl w.heap.size Zm ⟨n1, n2, n3⟩ HR3.out rfl rfl ?_))
            refine bodyPost_ret (v := .tuple #[.agg (ml ⟨n1, n2, n3⟩).toArray, .bool true]) ?_ rfl ⟨⟨n1, n2, n3⟩, true, .inl ⟨rfl, HY.out.1, HY.out.2⟩, rfl, HK3.out.setRow (by omega) _⟩
            exact (results_mv_tmp (s := 2) (t := 3) rfl _ rfl (HR3.out.row ⟨n1, n2, n3⟩)).trans rfl
/-- Texts tell moves apart. -/
theorem tx_inj {a b : Mv} (ha : okT a = true) (hb : okT b = true) (h : txB a = txB b) : a = b := by
  obtain ⟨o1, o2, o3⟩ := (okT_iff a).1 ha
  obtain ⟨q1, q2, q3⟩ := (okT_iff b).1 hb
  have hl : (txB a).data.toList = (txB b).data.toList := by rw [h]
  rw [tx_list, tx_list] at hl
  obtain ⟨t1, t2, t3⟩ := three_of (nameOf a.f).data.toList (nameOf a.t).data.toList (smB a.p).data.toList (name_len _) (name_len _)
  obtain ⟨u1, u2, u3⟩ := three_of (nameOf b.f).data.toList (nameOf b.t).data.toList (smB b.p).data.toList (name_len _) (name_len _)
  rw [hl] at t1 t2 t3
  have e1 : nameOf a.f = nameOf b.f := ba_ext (t1.symm.trans u1)
  have e2 : nameOf a.t = nameOf b.t := ba_ext (t2.symm.trans u2)
  have e3 : smB a.p = smB b.p := ba_ext (t3.symm.trans u3)
  obtain ⟨f, hf⟩ := Int.eq_ofNat_of_zero_le o1.1
  obtain ⟨f', hf'⟩ := Int.eq_ofNat_of_zero_le q1.1
  obtain ⟨t, ht⟩ := Int.eq_ofNat_of_zero_le o2.1
  obtain ⟨t', ht'⟩ := Int.eq_ofNat_of_zero_le q2.1
  rw [hf, hf'] at e1
  rw [ht, ht'] at e2
  have g1 := nameOf_inj (a := f) (b := f') (by omega) (by omega) e1
  have g2 := nameOf_inj (a := t) (b := t') (by omega) (by omega) e2
  have g3 : a.p = b.p := by
    have key : ∀ x ∈ [(0 : Int), 2, 3, 4, 5], ∀ y ∈ [(0 : Int), 2, 3, 4, 5], smB x = smB y → x = y := by decide +kernel
    exact key _ (by have := promo_five o3; simp; omega) _ (by have := promo_five q3; simp; omega) e3
  obtain ⟨af, at_, ap⟩ := a
  obtain ⟨bf, bt, bp⟩ := b
  dsimp only at *
  rw [hf, ht, hf', ht', g1, g2, g3]
theorem wpList_new_mv {ops : Array Oper} {rest : List Oper} {o : Oper} {a : Act} {w : World} {Q : Exit → Act → World → Prop} (hgd : o.guard = none) (ho : o.op = .alloc 28)
    (h : wpList Tryd.prog ops Q rest (a.put o.dst (.pointer (some ⟨w.heap.size, 0, none⟩))) (w.alloc (.cells (ml Zm).toArray 28))) : wpList Tryd.prog ops Q (o :: rest) a w := by
  refine wpList_plain hgd fun _ hK => ?_
  have hz : (Tryd.prog.info? 28).map (fun i => (i.zero, i.size)) = some (some (.agg (ml Zm).toArray), 3) := by kernel_rfl
  unfold Oper.wp execOp
  simp only [ho, Instr.alloc, Sem.run_bind, (zero_of_info hz).1, Result.andThen_ok, newVar, newRow, Value.cells]
  exact hK _ _ h
theorem wpList_store_newmv {ops : Array Oper} {rest : List Oper} {o : Oper} {a : Act} {w : World} {Q : Exit → Act → World → Prop} (hgd : o.guard = none) (x y : Operand) (ho : o.op = .store 28 x y)
    (j k : Mv) (hx : a.eval x = .pointer (some ⟨w.heap.size, 0, none⟩)) (hy : a.eval y = .agg (ml k).toArray)
    (h : wpList Tryd.prog ops Q rest (a.put o.dst undef) (w.alloc (.cells (ml k).toArray 28))) : wpList Tryd.prog ops Q (o :: rest) a (w.alloc (.cells (ml j).toArray 28)) := by
  refine wpList_store_row hgd 28 x y ho w.heap.size (ml k).toArray hx hy 28 _ (heap_alloc_new w _) (ml_size k) rfl (ml_one _) ?_
  rw [World.setRow_alloc_new]
  exact h
theorem text_size (m : Mv) : (textB m).size ≤ 5 := by
  unfold textB
  split
  · exact (tx_size m).1
  · exact Nat.zero_le _
theorem Zm_ok : okT Zm = true := by decide +kernel
set_option maxHeartbeats 4000000 in
theorem textsY (m : Mv) (h0 : okT m = true) (t : ByteArray) (ht : ¬ 50 < (t.size : Int)) (w : World) (hT : TabM w) :
    Calls Tryd.prog 6 #[.agg (ml m).toArray, .string t] w fun e w' => e = .returned (.bool true) ∧ Kept w w' := by
  have HM := Lib.hid (MAt.new w m)
  have HK0 := Lib.hid ((Kept.refl w).alloc (.cells (ml m).toArray 28))
  have HT := Lib.hid (hT.kept HK0.out)
  have HX1 := Lib.hid (fun w hw => text_is m w hw)
  have HX2 := Lib.hid (rtext_is m)
  have HU : Hid (textB m = txB m) := by show _ = _; unfold textB; rw [h0]; rfl
  have HO := Lib.hid h0
  obtain ⟨u, hu⟩ : ∃ u, textB m = u := ⟨_, rfl⟩
  rw [hu] at HX1 HX2 HU
  have hne : (u.toList != u.toList) = false := by simp
  have hue : (u.toList == []) = false := by
    rw [beq_eq_false_iff_ne, ByteArray.toList_eq]
    intro h
    have h1 := (tx_size m).2
    rw [← HU.out] at h1
    have h2 : u.data.toList.length = u.size := rfl
    rw [h] at h2
    simp at h2
    omega
  clear hT h0 hu
  go_enter Tryd.func6, Tryd.ntmps6
  go_wp2_with fail
  refine (move_wake _ HT.out).mono ?_
  rintro e w1 ⟨rfl, k1⟩
  have HK1 := Lib.hid (HK0.out.trans k1)
  have HM1 := Lib.hid (MAt.kept HM.out k1)
  have HT1 := Lib.hid (HT.out.kept k1)
  clear k1
  go_wp2_with (refine wpList_load_mv (by rfl) _ rfl _ rfl _ HM1.out ?_)
  refine (HX1.out _ HT1.out).mono ?_
  rintro e w2 ⟨rfl, k2⟩
  have HK2 := Lib.hid (HK1.out.trans k2)
  have HM2 := Lib.hid (MAt.kept HM1.out k2)
  have HT2 := Lib.hid (HT1.out.kept k2)
  clear k2
  go_wp2_with (refine wpList_load_mv (by rfl) _ rfl _ rfl _ HM2.out ?_)
  refine (HX2.out _).mono ?_
  rintro e w3 ⟨rfl, k3⟩
  have HK3 := Lib.hid (HK2.out.trans k3)
  have HM3 := Lib.hid (MAt.kept HM2.out k3)
  have HT3 := Lib.hid (HT2.out.kept k3)
  clear k3
  go_wp2_with fail
  refine (mparse_is u _ HT3.out).mono ?_
  rintro e w4 ⟨x1, b1, hp1, rfl, k4⟩
  have hx1 : b1 = true ∧ x1 = m := by
    rcases hp1 with ⟨a, b, c⟩ | ⟨a, b, c⟩
    · exact ⟨a, tx_inj b HO.out (c.symm.trans HU.out)⟩
    · exact absurd HU.out (c m HO.out)
  obtain ⟨rfl, rfl⟩ := hx1
  have HK4 := Lib.hid ((HK3.out.trans k4).alloc (.cells (ml x1).toArray 28))
  have KA := Lib.hid (k4.alloc (.cells (ml x1).toArray 28))
  have HM4 := Lib.hid (MAt.kept HM3.out KA.out)
  have HT4 := Lib.hid (HT3.out.kept KA.out)
  have HN4 := Lib.hid (MAt.new w4 x1)
  clear k4 hp1
  go_wp2_with (first | (with_reducible refine wpList_new_mv rfl rfl ?_) | ((with_reducible refine wpList_store_newmv rfl _ _ rfl Zm x1 ?_ ?_ ?_); exact rfl; exact rfl) | (refine wpList_load_mv (by rfl) _ rfl _ rfl _ HN4.out ?_) | (refine wpList_load_mv (by rfl) _ rfl _ rfl _ HM4.out ?_) | (refine wpList_neq_mv (by rfl) _ _ _ rfl x1 x1 rfl rfl (b := false) (by rw [beqM_refl]; rfl) ?_))
  refine (mparse_is t _ HT4.out).mono ?_
  rintro e w5 ⟨x2, b2, hp2, rfl, k5⟩
  have HK5 := Lib.hid ((HK4.out.trans k5).alloc (.cells (ml x2).toArray 28))
  have HN5 := Lib.hid (MAt.new w5 x2)
  clear k5
  cases b2
  · rcases hp2 with ⟨a, _⟩ | ⟨_, b, c⟩
    · cases a
    · subst b
      have HX3 := Lib.hid (rtext_is Zm)
      have ez : textB Zm = txB Zm := by unfold textB; rw [Zm_ok]; rfl
      have hnz := str_eq_false (fun e => c Zm Zm_ok e.symm)
      rw [ez] at HX3
      have hnz' : ((txB Zm).toList != t.toList) = true := by rw [bne, hnz]; rfl
      clear c ez
      generalize txB Zm = z at *
      go_wp2_with (first | (with_reducible refine wpList_new_mv rfl rfl ?_) | ((with_reducible refine wpList_store_newmv rfl _ _ rfl Zm Zm ?_ ?_ ?_); exact rfl; exact rfl) | (refine wpList_load_mv (by rfl) _ rfl _ rfl _ HN5.out ?_) | (refine wpList_built_mv0 (by rfl) rfl ?_) | (refine wpList_eql_mv (by rfl) _ _ _ rfl Zm Zm rfl rfl (b := true) (beqM_refl _) ?_))
      refine (HX3.out _).mono ?_
      rintro e w6 ⟨rfl, k6⟩
      have HK6 := Lib.hid (HK5.out.trans k6)
      clear k6
      go_wp2
      go_ret
      exact ⟨rfl, HK6.out⟩
  · rcases hp2 with ⟨_, b, c⟩ | ⟨a, _⟩
    · have HX3 := Lib.hid (rtext_is x2)
      have ez : textB x2 = t := by unfold textB; rw [b, c]; rfl
      rw [ez] at HX3
      have hnz : (t.toList == t.toList) = true := by simp
      clear b c ez
      go_wp2_with (first | (with_reducible refine wpList_new_mv rfl rfl ?_) | ((with_reducible refine wpList_store_newmv rfl _ _ rfl Zm x2 ?_ ?_ ?_); exact rfl; exact rfl) | (refine wpList_load_mv (by rfl) _ rfl _ rfl _ HN5.out ?_))
      refine (HX3.out _).mono ?_
      rintro e w6 ⟨rfl, k6⟩
      have HK6 := Lib.hid (HK5.out.trans k6)
      clear k6
      go_wp2
      go_ret
      exact ⟨rfl, HK6.out⟩
    · cases a
set_option maxHeartbeats 4000000 in
theorem textsN (m : Mv) (h0 : okT m = false) (t : ByteArray) (ht : ¬ 50 < (t.size : Int)) (w : World) (hT : TabM w) :
    Calls Tryd.prog 6 #[.agg (ml m).toArray, .string t] w fun e w' => e = .returned (.bool true) ∧ Kept w w' := by
  have HM := Lib.hid (MAt.new w m)
  have HK0 := Lib.hid ((Kept.refl w).alloc (.cells (ml m).toArray 28))
  have HT := Lib.hid (hT.kept HK0.out)
  have HX1 := Lib.hid (fun w hw => text_is m w hw)
  have HX2 := Lib.hid (rtext_is m)
  have HU : Hid (textB m = ⟨#[]⟩) := by show _ = _; unfold textB; rw [h0]; rfl
  have HO := Lib.hid h0
  obtain ⟨u, hu⟩ : ∃ u, textB m = u := ⟨_, rfl⟩
  rw [hu] at HX1 HX2 HU
  have hne : (u.toList != u.toList) = false := by simp
  clear hT h0 hu
  go_enter Tryd.func6, Tryd.ntmps6
  go_wp2_with fail
  refine (move_wake _ HT.out).mono ?_
  rintro e w1 ⟨rfl, k1⟩
  have HK1 := Lib.hid (HK0.out.trans k1)
  have HM1 := Lib.hid (MAt.kept HM.out k1)
  have HT1 := Lib.hid (HT.out.kept k1)
  clear k1
  go_wp2_with (refine wpList_load_mv (by rfl) _ rfl _ rfl _ HM1.out ?_)
  refine (HX1.out _ HT1.out).mono ?_
  rintro e w2 ⟨rfl, k2⟩
  have HK2 := Lib.hid (HK1.out.trans k2)
  have HM2 := Lib.hid (MAt.kept HM1.out k2)
  have HT2 := Lib.hid (HT1.out.kept k2)
  clear k2
  go_wp2_with (refine wpList_load_mv (by rfl) _ rfl _ rfl _ HM2.out ?_)
  refine (HX2.out _).mono ?_
  rintro e w3 ⟨rfl, k3⟩
  have HK3 := Lib.hid (HK2.out.trans k3)
  have HM3 := Lib.hid (MAt.kept HM2.out k3)
  have HT3 := Lib.hid (HT2.out.kept k3)
  clear k3
  obtain rfl : u = ⟨#[]⟩ := HU.out
  go_wp2_with fail
  refine (mparse_is ⟨#[]⟩ _ HT3.out).mono ?_
  rintro e w4 ⟨x1, b1, hp1, rfl, k4⟩
  have hx1 : b1 = false ∧ x1 = Zm := by
    rcases hp1 with ⟨a, b, c⟩ | ⟨a, b, c⟩
    · have := (tx_size x1).2
      rw [← c] at this
      exact absurd this (by decide)
    · exact ⟨a, b⟩
  obtain ⟨rfl, rfl⟩ := hx1
  have HK4 := Lib.hid ((HK3.out.trans k4).alloc (.cells (ml Zm).toArray 28))
  have KA := Lib.hid (k4.alloc (.cells (ml Zm).toArray 28))
  have HT4 := Lib.hid (HT3.out.kept KA.out)
  clear k4 hp1
  go_wp2_with (first | (with_reducible refine wpList_new_mv rfl rfl ?_) | ((with_reducible refine wpList_store_newmv rfl _ _ rfl Zm Zm ?_ ?_ ?_); exact rfl; exact rfl))
  refine (mparse_is t _ HT4.out).mono ?_
  rintro e w5 ⟨x2, b2, hp2, rfl, k5⟩
  have HK5 := Lib.hid ((HK4.out.trans k5).alloc (.cells (ml x2).toArray 28))
  have HN5 := Lib.hid (MAt.new w5 x2)
  clear k5
  cases b2
  · rcases hp2 with ⟨a, _⟩ | ⟨_, b, c⟩
    · cases a
    · subst b
      have HX3 := Lib.hid (rtext_is Zm)
      have ez : textB Zm = txB Zm := by unfold textB; rw [Zm_ok]; rfl
      have hnz := str_eq_false (fun e => c Zm Zm_ok e.symm)
      rw [ez] at HX3
      have hnz' : ((txB Zm).toList != t.toList) = true := by rw [bne, hnz]; rfl
      clear c ez
      generalize txB Zm = z at *
      go_wp2_with (first | (with_reducible refine wpList_new_mv rfl rfl ?_) | ((with_reducible refine wpList_store_newmv rfl _ _ rfl Zm Zm ?_ ?_ ?_); exact rfl; exact rfl) | (refine wpList_load_mv (by rfl) _ rfl _ rfl _ HN5.out ?_) | (refine wpList_built_mv0 (by rfl) rfl ?_) | (refine wpList_eql_mv (by rfl) _ _ _ rfl Zm Zm rfl rfl (b := true) (beqM_refl _) ?_))
      refine (HX3.out _).mono ?_
      rintro e w6 ⟨rfl, k6⟩
      have HK6 := Lib.hid (HK5.out.trans k6)
      clear k6
      go_wp2
      go_ret
      exact ⟨rfl, HK6.out⟩
  · rcases hp2 with ⟨_, b, c⟩ | ⟨a, _⟩
    · have HX3 := Lib.hid (rtext_is x2)
      have ez : textB x2 = t := by unfold textB; rw [b, c]; rfl
      rw [ez] at HX3
      have hnz : (t.toList == t.toList) = true := by simp
      clear b c ez
      go_wp2_with (first | (with_reducible refine wpList_new_mv rfl rfl ?_) | ((with_reducible refine wpList_store_newmv rfl _ _ rfl Zm x2 ?_ ?_ ?_); exact rfl; exact rfl) | (refine wpList_load_mv (by rfl) _ rfl _ rfl _ HN5.out ?_))
      refine (HX3.out _).mono ?_
      rintro e w6 ⟨rfl, k6⟩
      have HK6 := Lib.hid (HK5.out.trans k6)
      clear k6
      go_wp2
      go_ret
      exact ⟨rfl, HK6.out⟩
    · cases a
theorem walkMoveTexts (m : Mv) (t : ByteArray) (w0 : t.size ≤ maxLen) (w : World) (hT : TabM w) :
    Calls Tryd.prog 6 #[.agg (ml m).toArray, .string t] w fun e w' => e = .returned (.bool true) ∧ Kept w w' := by
  by_cases ht : 50 < (t.size : Int)
  · have HK0 := Lib.hid ((Kept.refl w).alloc (.cells (ml m).toArray 28))
    have HT := Lib.hid (hT.kept HK0.out)
    unfold maxLen at w0
    clear hT
    go_enter Tryd.func6, Tryd.ntmps6
    go_wp2_with fail
    refine (move_wake _ HT.out).mono ?_
    rintro e w1 ⟨rfl, k1⟩
    have HK1 := Lib.hid (HK0.out.trans k1)
    clear k1
    go_wp2
    go_ret
    exact ⟨rfl, HK1.out⟩
  · cases h0 : okT m
    · exact textsN m h0 t ht w hT
    · exact textsY m h0 t ht w hT
end Go.Proofs.YtliibpahnkeogaaDoor
