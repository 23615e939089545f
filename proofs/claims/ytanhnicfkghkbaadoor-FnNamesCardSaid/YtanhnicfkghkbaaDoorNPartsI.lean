/-
  The contracts of strings.Split at a dot and of impl.NameParts.
-/
import Derived.Test.YtanhnicfkghkbaaDoorNPartsS
import Derived.Test.YtanhnicfkghkbaaDoorShelfSp
import Derived.Test.YtanhnicfkghkbaaDoorCl
namespace Go.Proofs.YtanhnicfkghkbaaDoor
set_option maxRecDepth 100000
open Go.ChangeShapes Go.WideShapes Go.ChangeAt Go.RowKit
set_option linter.unusedSimpArgs false
set_option linter.unusedVariables false

theorem index_cons (b c : UInt8) (l : List UInt8) : Lib.index (b :: l) [c] = if b = c then 0 else if Lib.index l [c] = -1 then -1 else Lib.index l [c] + 1 := by
  rw [Lib.index]
  by_cases h : b = c
  · subst h; simp [List.isPrefixOf]
  · have hp : ([c] : List UInt8).isPrefixOf (b :: l) = false := by simp [List.isPrefixOf, Ne.symm h]
    rw [hp]
    simp [h]
theorem cutF_miss (c : UInt8) (l : List UInt8) : ∀ p, Lib.index l [c] = -1 → cutF c p l = [p ++ l] := by
  induction l with
  | nil => intro p _; simp [cutF]
  | cons b l ih =>
    intro p h
    rw [index_cons] at h
    by_cases hb : b = c
    · simp [hb] at h
    · rw [if_neg hb] at h
      have h2 : Lib.index l [c] = -1 := by
        split at h
        · assumption
        · have := Lib.index_ge l [c]; omega
      rw [cutF, if_neg hb, ih _ h2]
      simp
theorem cutF_hit (c : UInt8) (l : List UInt8) : ∀ p (i : Nat), Lib.index l [c] = (i : Int) → cutF c p l = (p ++ l.take i) :: cutF c [] (l.drop (i + 1)) := by
  induction l with
  | nil => intro p i h; simp [Lib.index] at h
  | cons b l ih =>
    intro p i h
    rw [index_cons] at h
    by_cases hb : b = c
    · rw [if_pos hb] at h
      obtain rfl : i = 0 := by omega
      simp [cutF, hb]
    · rw [if_neg hb] at h
      split at h
      · omega
      · obtain ⟨j, rfl⟩ : ∃ j, i = j + 1 := ⟨i - 1, by have := Lib.index_ge l [c]; omega⟩
        rw [cutF, if_neg hb, ih _ j (by omega)]
        simp
theorem splitK_cut (c : UInt8) : ∀ (k : Nat) (l : List UInt8), Lib.count l [c] = k → Lib.splitK [c] 0 k l = cutF c [] l := by
  intro k
  induction k with
  | zero =>
    intro l h
    have hm : Lib.index l [c] = -1 := by
      by_cases hm : Lib.index l [c] = -1
      · exact hm
      · have hge := Lib.index_ge l [c]
        obtain ⟨j, hj⟩ : ∃ j : Nat, Lib.index l [c] = j := ⟨(Lib.index l [c]).toNat, by omega⟩
        rw [Lib.count_hit (by simp) hj] at h
        omega
    rw [cutF_miss c l [] hm]
    rfl
  | succ k ih =>
    intro l h
    by_cases hm : Lib.index l [c] = -1
    · rw [Lib.count_miss hm] at h; omega
    · have hge := Lib.index_ge l [c]
      obtain ⟨j, hj⟩ : ∃ j : Nat, Lib.index l [c] = j := ⟨(Lib.index l [c]).toNat, by omega⟩
      rw [Lib.count_hit (by simp) hj] at h
      rw [Lib.splitK, if_neg (by rw [hj]; simp), hj, cutF_hit c l [] j hj]
      simp only [Int.toNat_natCast, List.length_cons, List.length_nil, Nat.add_zero, Nat.zero_add, List.nil_append]
      rw [ih _ (by simp only [List.length_cons, List.length_nil, Nat.zero_add] at h; omega)]
theorem map_string (L : List ByteArray) (R : List (List UInt8)) (h : L.map (·.data.toList) = R) : L.map Value.string = R.map sv := by
  subst h
  simp [sv, Function.comp_def]

theorem split46 (s : ByteArray) (w : World) (hs : s.size ≤ 40) (hm : ∃ m, w.cell? ⟨0, 0, none⟩ = some (.int .i64 m)) :
    Calls Tryd.prog 21 #[.string s, .string ⟨#[46]⟩] w (LRes (cutL s.data.toList) w) := by
  obtain ⟨m, hm⟩ := hm
  refine (Tryd.strings_Split s ⟨#[46]⟩ m w (by omega) hm (by decide)).mono ?_
  rintro e w' ⟨rfl, rfl⟩
  have hc : Lib.countB s ⟨#[46]⟩ ≤ s.size := Lib.countB_le _ (by decide) s.size s (Nat.le_refl _)
  have hl := Lib.splitB_all ⟨#[46]⟩ (by decide) 0 _ s rfl
  have hd : (Lib.splitB ⟨#[46]⟩ 0 (Lib.countB s ⟨#[46]⟩) s).map (·.data.toList) = cutL s.data.toList := by
    rw [Lib.splitB_data]
    exact splitK_cut 46 _ _ rfl
  have hv := map_string _ _ hd
  have hlen : (cutL s.data.toList).length = Lib.countB s ⟨#[46]⟩ + 1 := by rw [← hd, List.length_map, hl]
  refine ⟨_, rfl, ?_, (Below.refl _ _).alloc (Nat.le_refl _) _⟩
  have h := World.ownsRow_lit (base := w.heap.size) (e := 9) (size := 1) w ((Lib.splitB ⟨#[46]⟩ 0 (Lib.countB s ⟨#[46]⟩) s).map Value.string).toArray (Lib.countB s ⟨#[46]⟩ + 1) (Nat.le_refl _) (by unfold maxLen; omega) (by simp [hl])
  rw [hlen]
  simpa [hv] using h

theorem nparts_le5 (l : List UInt8) : (nparts l).length ≤ 5 := by
  unfold nparts
  split
  · rename_i h
    simp only [nameOk, Bool.and_eq_true, decide_eq_true_eq] at h
    exact h.1.2
  · simp
/-- Some int stands in the first variable's cell (internal/bytealg.MaxLen). -/
def MaxLenInt (w : World) : Prop := ∃ m, w.cell? ⟨0, 0, none⟩ = some (.int .i64 m)
theorem MaxLenInt.pos {w : World} (h : MaxLenInt w) : 0 < w.heap.size := by
  obtain ⟨m, h⟩ := h
  rcases Nat.eq_zero_or_pos w.heap.size with h0 | h0
  · simp [World.cell?, Array.getElem?_eq_none (Nat.le_of_eq h0)] at h
  · exact h0
theorem MaxLenInt.below {w w' : World} (h : MaxLenInt w) (hb : Below w.heap.size w w') : MaxLenInt w' := by
  have hp := h.pos
  obtain ⟨m, h⟩ := h
  exact ⟨m, (hb.cell (p := ⟨0, 0, none⟩) hp).trans h⟩

theorem implNameParts (s : ByteArray) (w : World) (hs : s.size ≤ maxLen) (hm : MaxLenInt w) : Calls Tryd.prog 9 #[.string s] w (LRes (nparts s.data.toList) w) := by
  have f1 := Lib.hid fun W => implNameOk s W hs
  by_cases h1 : nameOk s.data.toList = true
  · have hz : s.size ≤ 40 := nameOk_le h1
    have f2 := Lib.hid fun W (hW : MaxLenInt W) => split46 s W hz hW
    have HR := Lib.hid (show nparts s.data.toList = _ from if_pos h1)
    have hpart := Lib.hid (cutF_part 46 s.data.toList [])
    have hl5 : (cutL s.data.toList).length ≤ 5 := by have := nparts_le5 s.data.toList; rw [HR.out] at this; exact this
    have hls : s.data.toList.length = s.size := rfl
    have hsz : ∀ x ∈ cutL s.data.toList, x.length ≤ 281474976710656 := fun x hx => by have := hpart.out x hx; simp only [List.length_nil, hls] at this; omega
    rw [h1] at f1
    clear h1 hpart hls
    generalize cutL s.data.toList = r at f2 HR hl5 hsz
    go_enter Tryd.func9, Tryd.ntmps9
    go_wp2_with fail
    (with_reducible refine (f1.out _).mono ?_); rintro e w1 ⟨rfl, hb1⟩
    go_wp2_with fail
    (with_reducible refine (f2.out _ (hm.below hb1)).mono ?_); rintro e w2 ⟨v2, rfl, ho2, hb2⟩
    have hB := hb1.trans (hb2.mono hb1.size)
    go_wp2_with fail
    refine (clones ho2 (by omega) hsz).mono ?_
    rintro e w3 ⟨v3, rfl, ho3, hb3⟩
    go_wp2
    go_ret
    rw [HR.out]
    exact ⟨_, rfl, own_mono ho3 hB.size, hB.trans (hb3.mono hB.size)⟩
  · have HR := Lib.hid (show nparts s.data.toList = _ from if_neg h1)
    rw [Bool.not_eq_true] at h1
    rw [h1] at f1
    clear h1
    go_enter Tryd.func9, Tryd.ntmps9
    go_wp2_with fail
    (with_reducible refine (f1.out _).mono ?_); rintro e w1 ⟨rfl, hb1⟩
    go_wp2
    go_ret
    rw [HR.out]
    exact ⟨_, rfl, World.ownsRow_nil _ _ _ _, hb1⟩

end Go.Proofs.YtanhnicfkghkbaaDoor
