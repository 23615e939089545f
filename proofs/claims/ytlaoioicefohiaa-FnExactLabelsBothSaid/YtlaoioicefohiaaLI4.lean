/-
  Contracts of strings.Cut at a colon, strings.Clone and impl.ReadLabel.
-/
import Derived.Test.YtlaoioicefohiaaLI1
import Derived.Test.YtlaoioicefohiaaLI2
import Derived.Test.YtlaoioicefohiaaLb3
import Derived.Test.YtlaoioicefohiaaShelfA
import Derived.BigQuiet
namespace Go.Proofs.Ytlaoioicefohiaa
set_option maxRecDepth 100000
open Go.ChangeShapes Go.WideShapes Go.ChangeAt Go.RowKit
set_option linter.unusedSimpArgs false

/-- A text cut at its first colon; without one the second part is empty. -/
def cut1 : List UInt8 → List UInt8 × List UInt8
  | [] => ([], [])
  | c :: r => if c = 58 then ([], r) else (c :: (cut1 r).1, (cut1 r).2)
theorem cut1_no {t : List UInt8} (h : Lib.indexByte t 58 = -1) : cut1 t = (t, []) ∧ 58 ∉ t := by
  induction t with
  | nil => exact ⟨rfl, by simp⟩
  | cons c r ih =>
    unfold Lib.indexByte at h
    by_cases hc : c = 58
    · simp [hc] at h
    · have hc' : (c == 58) = false := beq_eq_false_iff_ne.2 hc
      rw [hc'] at h
      by_cases h2 : Lib.indexByte r 58 = -1
      · obtain ⟨e1, e2⟩ := ih h2
        refine ⟨by simp [cut1, hc, e1], ?_⟩
        intro hm
        rcases List.mem_cons.1 hm with e | e
        · exact hc e.symm
        · exact e2 e
      · have := Lib.indexByte_ge r 58
        simp [h2] at h
        omega
theorem cut1_yes {t : List UInt8} : ∀ {i : Nat}, Lib.indexByte t 58 = (i : Int) → i < t.length ∧ cut1 t = (t.take i, t.drop (i + 1)) ∧ cutF 58 [] t = t.take i :: cutF 58 [] (t.drop (i + 1)) ∧ ∀ p, cutF 58 p t = (p ++ t.take i) :: cutF 58 [] (t.drop (i + 1)) := by
  induction t with
  | nil => intro i h; unfold Lib.indexByte at h; omega
  | cons c r ih =>
    intro i h
    unfold Lib.indexByte at h
    by_cases hc : c = 58
    · subst hc
      have hi : i = 0 := by simp at h; omega
      subst hi
      exact ⟨by simp, by simp [cut1], by simp [cutF], by simp [cutF]⟩
    · have hc' : (c == 58) = false := beq_eq_false_iff_ne.2 hc
      rw [hc'] at h
      by_cases h2 : Lib.indexByte r 58 = -1
      · simp [h2] at h
      · have hge := Lib.indexByte_ge r 58
        have hb : (Lib.indexByte r 58 == -1) = false := beq_eq_false_iff_ne.2 h2
        rw [hb] at h
        simp only [Bool.false_eq_true, if_false] at h
        obtain ⟨j, rfl⟩ : ∃ j, i = j + 1 := ⟨i - 1, by omega⟩
        obtain ⟨e1, e2, e3, e4⟩ := ih (i := j) (by omega)
        refine ⟨by simp; omega, by simp [cut1, hc, e2], ?_, fun p => ?_⟩
        · rw [cutF, if_neg hc, e4]; simp
        · rw [cutF, if_neg hc, e4]; simp
theorem cutF_none {t : List UInt8} (h : 58 ∉ t) : ∀ p, cutF 58 p t = [p ++ t] := by
  induction t with
  | nil => intro p; simp [cutF]
  | cons c r ih =>
    intro p
    have hc : c ≠ 58 := fun e => h (by simp [e])
    rw [cutF, if_neg hc, ih (fun hm => h (List.mem_cons_of_mem _ hm))]
    simp
theorem cutF_more {t : List UInt8} (h : 58 ∈ t) : ∀ p, 2 ≤ (cutF 58 p t).length := by
  induction t with
  | nil => simp at h
  | cons c r ih =>
    intro p
    by_cases hc : c = 58
    · rw [cutF, if_pos hc]
      have := cutF_pos 58 [] r
      simp; omega
    · rw [cutF, if_neg hc]
      exact ih ((List.mem_cons.1 h).resolve_left fun e => hc e.symm) _
theorem scan_colon {l : List UInt8} : ∀ d b, scan l d b = true → 58 ∉ l := by
  induction l with
  | nil => intro d b _; simp
  | cons c r ih =>
    intro d b h hm
    rw [scan] at h
    by_cases h1 : azB c = true
    · rw [if_pos h1] at h
      rcases List.mem_cons.1 hm with e | e
      · subst e; revert h1; decide
      · exact ih _ _ h e
    · rw [if_neg h1] at h
      by_cases h2 : dgB c = true ∧ b = true
      · rw [if_pos h2] at h
        rcases List.mem_cons.1 hm with e | e
        · subst e; exact absurd h2.1 (by decide)
        · exact ih _ _ h e
      · rw [if_neg h2] at h
        by_cases h3 : c = 46 ∧ b = true
        · rw [if_pos h3] at h
          rcases List.mem_cons.1 hm with e | e
          · subst e; exact absurd h3.1 (by decide)
          · exact ih _ _ h e
        · rw [if_neg h3] at h
          cases h
theorem labelOk_colon {k : Int} {n : List UInt8} (h : labelOk k n = true) : 58 ∉ n := by
  have hl := labelOk_le h
  simp only [labelOk, Bool.and_eq_true] at h
  rw [nameOk_scan n hl] at h
  exact scan_colon _ _ h.2
theorem labelOk_empty (k : Int) : labelOk k [] = false := by
  simp [labelOk, show nameOk [] = false from by decide]

def readI (t : List UInt8) : Option (Int × List UInt8) := if labelOk (kindOfL (cut1 t).1) (cut1 t).2 = true then some (kindOfL (cut1 t).1, (cut1 t).2) else none
theorem kindOfL_cases (p : List UInt8) : (kindOk (kindOfL p) = true ∧ wordL (kindOfL p) = p) ∨ (kindOfL p = 0 ∧ ∀ k : Int, kindOk k = true → wordL k ≠ p) := by
  unfold kindOfL
  cases h : ([1, 2, 3, 4, 5] : List Int).find? fun k => wordL k == p with
  | none =>
    refine .inr ⟨rfl, fun k hk he => ?_⟩
    rw [List.find?_eq_none] at h
    have e : k = 1 ∨ k = 2 ∨ k = 3 ∨ k = 4 ∨ k = 5 := by simp [kindOk] at hk; omega
    refine h k (by simp; omega) ?_
    rw [he]
    exact beq_self_eq_true p
  | some k =>
    have h1 := List.find?_some h
    have h2 := List.mem_of_find?_eq_some h
    refine .inl ⟨?_, by simpa using h1⟩
    simp at h2
    simp [kindOk]
    omega
theorem readTwo_eq (p n : List UInt8) : readTwo p n = if labelOk (kindOfL p) n = true then some (kindOfL p) else none := by
  rcases kindOfL_cases p with ⟨h1, h2⟩ | ⟨h1, h2⟩
  · by_cases h : labelOk (kindOfL p) n = true
    · rw [if_pos h]
      obtain ⟨k, hk⟩ : ∃ k : Nat, kindOfL p = (k : Int) := ⟨(kindOfL p).toNat, by simp [kindOk] at h1; omega⟩
      rw [hk] at h h1 h2 ⊢
      refine readTwo_at (k := k) (by simp [kindOk] at h1; omega) (by simp [kindOk] at h1; omega) (fun j j1 j2 => ?_) ?_
      · rw [readAt, Bool.and_eq_false_iff]
        refine .inl (beq_eq_false_iff_ne.2 fun e => ?_)
        have := wordL_inj (j := (j : Int)) (k := (k : Int)) (by simp [kindOk] at h1 ⊢; omega) h1 (by rw [h2, ← e])
        omega
      · rw [readAt, h2, h]
        simp
    · rw [if_neg h]
      rw [Bool.not_eq_true] at h
      refine readTwo_none fun j j1 j2 => ?_
      rw [readAt, Bool.and_eq_false_iff]
      by_cases e : p = wordL (j : Int)
      · right
        have := wordL_inj (j := (j : Int)) (k := kindOfL p) (by simp [kindOk]; omega) h1 (by rw [h2, ← e])
        rw [this]
        exact h
      · exact .inl (beq_eq_false_iff_ne.2 e)
  · have h : labelOk (kindOfL p) n = false := by rw [h1]; simp [labelOk, show kindOk 0 = false from by decide]
    rw [if_neg (by rw [h]; decide)]
    refine readTwo_none fun j j1 j2 => ?_
    rw [readAt, Bool.and_eq_false_iff]
    exact .inl (beq_eq_false_iff_ne.2 fun e => h2 (j : Int) (by simp [kindOk]; omega) e.symm)
theorem readI_eq (t : List UInt8) : readI t = readL t := by
  unfold readI
  have hge := Lib.indexByte_ge t 58
  by_cases h : Lib.indexByte t 58 = -1
  · obtain ⟨e1, e2⟩ := cut1_no h
    rw [e1, if_neg (by rw [labelOk_empty]; decide), readL_other]
    rw [cutF_none e2]
    simp
  · obtain ⟨i, hi⟩ : ∃ i : Nat, Lib.indexByte t 58 = (i : Int) := ⟨(Lib.indexByte t 58).toNat, by omega⟩
    obtain ⟨hlt, e1, e2, _⟩ := cut1_yes hi
    rw [e1]
    simp only
    have hlen : t.length = (t.take i).length + 1 + (t.drop (i + 1)).length := by simp; omega
    generalize t.take i = p at e2 hlen
    generalize t.drop (i + 1) = n at e2 hlen
    by_cases hm : 58 ∈ n
    · rw [if_neg (fun hk => labelOk_colon hk hm), readL_other]
      rw [e2]
      have := cutF_more hm []
      simp; omega
    · rw [cutF_none hm, List.nil_append] at e2
      by_cases h60 : 60 < t.length
      · rw [readL_long h60, if_neg]
        intro hk
        have h1 := labelOk_le hk
        have h2 := word_len (kindOfL p)
        rcases kindOfL_cases p with ⟨_, h4⟩ | ⟨h3, _⟩
        · rw [h4] at h2
          omega
        · rw [h3] at hk
          simp [labelOk, show kindOk 0 = false from by decide] at hk
      · rw [readL_two h60 e2, readTwo_eq]
        split <;> rfl

theorem cloneS (s : ByteArray) (w : World) (hs : s.size ≤ 281474976710656) :
    Calls Try.prog 53 #[.string s] w fun e w' => e = .returned (.string s) ∧ Below w.heap.size w w' := by
  have f1 := Lib.hid fun W => Try.stringslite_Clone s W hs
  go_enter Try.func53, Try.ntmps53
  go_wp2_with fail
  (with_reducible refine (f1.out _).mono ?_); rintro e w1 ⟨rfl, hb1⟩
  go_wp2
  go_ret
  exact ⟨rfl, hb1⟩

def CutPost (t : List UInt8) (w : World) (e : Ending) (w' : World) : Prop :=
  ∃ b : Bool, e = .returned (.tuple #[.string ⟨(cut1 t).1.toArray⟩, .string ⟨(cut1 t).2.toArray⟩, .bool b]) ∧ ∃ q, w' = w.drewN q
theorem extract_take (s : ByteArray) (i : Nat) : s.extract 0 i = ⟨(s.data.toList.take i).toArray⟩ := by
  apply ByteArray.ext
  rw [ByteArray.data_extract]
  apply Array.ext'
  rw [Array.toList_extract]
  simp [List.extract]
theorem extract_drop (s : ByteArray) (i : Nat) : s.extract i s.size = ⟨(s.data.toList.drop i).toArray⟩ := by
  apply ByteArray.ext
  rw [ByteArray.data_extract]
  apply Array.ext'
  rw [Array.toList_extract, List.extract, List.take_of_length_le]
  rw [List.length_drop]
  exact Nat.le_refl _

set_option maxHeartbeats 1000000 in
theorem cutLite (s : ByteArray) (w : World) (hm : s.size ≤ maxLen) : Calls Try.prog 65 #[.string s, .string ⟨#[58]⟩] w (CutPost s.data.toList w) := by
  unfold maxLen at hm
  have f1 := Lib.hid fun W => Try.stringslite_Index_one s 58 W
  have hge := Lib.indexByte_ge s.data.toList 58
  by_cases h : Lib.indexByte s.data.toList 58 = -1
  · have HC := Lib.hid (cut1_no h).1
    rw [h] at f1
    clear h hge
    go_enter Try.func65, Try.ntmps65
    go_wp2_with fail
    (with_reducible refine (f1.out _).mono ?_); rintro e w1 ⟨rfl, rfl⟩
    go_wp2
    go_ret3
    refine ⟨false, ?_, 0, rfl⟩
    rw [HC.out]
    rfl
  · obtain ⟨i, hi⟩ : ∃ i : Nat, Lib.indexByte s.data.toList 58 = (i : Int) := ⟨(Lib.indexByte s.data.toList 58).toNat, by omega⟩
    obtain ⟨hlt, e1, _, _⟩ := cut1_yes hi
    have HC := Lib.hid e1
    rw [hi] at f1
    have hls : s.data.toList.length = s.size := rfl
    rw [hls] at hlt
    clear h hge e1 hi hls
    have d0 : decide ((0 : Int) ≤ (i : Int)) = true := decide_eq_true (by omega)
    go_enter Try.func65, Try.ntmps65
    go_wp2_with fail
    (with_reducible refine (f1.out _).mono ?_); rintro e w1 ⟨rfl, rfl⟩
    go_wp2
    go_quiet (fail)
    go_wp2
    go_ret3
    refine ⟨true, ?_, _, rfl⟩
    rw [HC.out]
    simp only
    rw [← extract_take, ← extract_drop]
    rfl

theorem cutColon (s : ByteArray) (w : World) (hm : s.size ≤ maxLen) : Calls Try.prog 51 #[.string s, .string ⟨#[58]⟩] w (CutPost s.data.toList w) := by
  have f1 := Lib.hid fun W => cutLite s W hm
  go_enter Try.func51, Try.ntmps51
  go_wp2_with fail
  (with_reducible refine (f1.out _).mono ?_); rintro e w1 ⟨b, rfl, q, rfl⟩
  go_wp2
  go_ret3
  exact ⟨b, rfl, q, rfl⟩
theorem cut1_len (t : List UInt8) : (cut1 t).1.length ≤ t.length ∧ (cut1 t).2.length ≤ t.length := by
  induction t with
  | nil => exact ⟨Nat.le_refl _, Nat.le_refl _⟩
  | cons c r ih =>
    rw [cut1]
    split
    · simp
    · simp; omega

set_option maxHeartbeats 1000000 in
theorem implReadLabel (s : ByteArray) (w : World) (hm : s.size ≤ 1048576) : Calls Try.prog 25 #[.string s] w (LabelPost (readL s.data.toList) w) := by
  rw [← readI_eq]
  have hls : s.data.toList.length = s.size := rfl
  have f0 := Lib.hid fun W => cutColon s W (by unfold maxLen; omega)
  unfold CutPost at f0
  have hl := cut1_len s.data.toList
  rw [hls] at hl
  have HR : Hid (readI s.data.toList = if labelOk (kindOfL (cut1 s.data.toList).1) (cut1 s.data.toList).2 = true then some (kindOfL (cut1 s.data.toList).1, (cut1 s.data.toList).2) else none) := rfl
  generalize (cut1 s.data.toList).1 = p at f0 hl HR
  generalize (cut1 s.data.toList).2 = n at f0 hl HR
  clear hls
  have f1 := Lib.hid fun W => implKindOf p W
  have f2 := Lib.hid fun W => cloneS ⟨n.toArray⟩ W (by simp only [ByteArray.size, List.size_toArray]; omega)
  generalize kindOfL p = k at f1 HR
  have f3 := Lib.hid fun W => implLabelOk k n W (by unfold maxLen; omega)
  generalize labelOk k n = ok at f3 HR
  cases ok
  · rw [if_neg (by decide)] at HR
    go_enter Try.func25, Try.ntmps25
    go_wp2_with fail
    (with_reducible refine (f0.out _).mono ?_); rintro e w1 ⟨b, rfl, q, rfl⟩
    go_wp2_with fail
    (with_reducible refine (f1.out _).mono ?_); rintro e w2 ⟨rfl, rfl⟩
    go_wp2_with fail
    (with_reducible refine (f2.out _).mono ?_); rintro e w3 ⟨rfl, hb3⟩
    go_wp2_with fail
    (with_reducible refine (f3.out _).mono ?_); rintro e w4 ⟨rfl, hb4⟩
    have b3 : Below (w.alloc (.cells #[.int .i64 0, .string ⟨#[]⟩] 31)).heap.size (w.alloc (.cells #[.int .i64 0, .string ⟨#[]⟩] 31)) w3 := (below_drewN (Below.refl _ _) q).trans (hb3.mono (by simp))
    have b4 : Below (w.alloc (.cells #[.int .i64 0, .string ⟨#[]⟩] 31)).heap.size (w.alloc (.cells #[.int .i64 0, .string ⟨#[]⟩] 31)) w4 := (b3.alloc b3.size _).trans (hb4.mono (by have := b3.size; simp at this ⊢; omega))
    have B4 : Below w.heap.size w w4 := ((Below.refl _ _).alloc (Nat.le_refl _) _).trans (b4.mono (by simp))
    have c0 : w4.cell? ⟨w.heap.size, 0, none⟩ = some (.int .i64 0) := (b4.cell (p := ⟨w.heap.size, 0, none⟩) (by simp)).trans (World.news_of_block (cs := #[.int .i64 0, .string ⟨#[]⟩]) (t := 31) (fr := (0, 0)) (heap_alloc_new w _) 0 _ rfl)
    have c1 : w4.cell? ⟨w.heap.size, 1, none⟩ = some (.string ⟨#[]⟩) := (b4.cell (p := ⟨w.heap.size, 1, none⟩) (by simp)).trans (World.news_of_block (cs := #[.int .i64 0, .string ⟨#[]⟩]) (t := 31) (fr := (0, 0)) (heap_alloc_new w _) 1 _ rfl)
    have z0 : w4.frozen? ⟨w.heap.size, 0, none⟩ = false := (b4.frozen (p := ⟨w.heap.size, 0, none⟩) (by simp)).trans (by simp)
    have z1 : w4.frozen? ⟨w.heap.size, 1, none⟩ = false := (b4.frozen (p := ⟨w.heap.size, 1, none⟩) (by simp)).trans (by simp)
    obtain ⟨x0, x1⟩ := boxedL (w := w3) w4 hb4
    clear f0 f1 f2 f3 b3 b4 hb3 hb4
    go_wp2
    rw [HR.out]
    refine bodyPost_ret (v := .tuple #[.agg #[.int .i64 0, .string ⟨#[]⟩], .bool false]) (by simp [results, go_sem, c0, c1]) rfl ⟨rfl, ((B4.setCell (p := ⟨w.heap.size, 0, none⟩) (Nat.le_refl _) _).setCell (p := ⟨w.heap.size, 1, none⟩) (Nat.le_refl _) _)⟩
  · rw [if_pos rfl] at HR
    go_enter Try.func25, Try.ntmps25
    go_wp2_with fail
    (with_reducible refine (f0.out _).mono ?_); rintro e w1 ⟨b, rfl, q, rfl⟩
    go_wp2_with fail
    (with_reducible refine (f1.out _).mono ?_); rintro e w2 ⟨rfl, rfl⟩
    go_wp2_with fail
    (with_reducible refine (f2.out _).mono ?_); rintro e w3 ⟨rfl, hb3⟩
    go_wp2_with fail
    (with_reducible refine (f3.out _).mono ?_); rintro e w4 ⟨rfl, hb4⟩
    have b3 : Below (w.alloc (.cells #[.int .i64 0, .string ⟨#[]⟩] 31)).heap.size (w.alloc (.cells #[.int .i64 0, .string ⟨#[]⟩] 31)) w3 := (below_drewN (Below.refl _ _) q).trans (hb3.mono (by simp))
    have b4 : Below (w.alloc (.cells #[.int .i64 0, .string ⟨#[]⟩] 31)).heap.size (w.alloc (.cells #[.int .i64 0, .string ⟨#[]⟩] 31)) w4 := (b3.alloc b3.size _).trans (hb4.mono (by have := b3.size; simp at this ⊢; omega))
    have B4 : Below w.heap.size w w4 := ((Below.refl _ _).alloc (Nat.le_refl _) _).trans (b4.mono (by simp))
    have c0 : w4.cell? ⟨w.heap.size, 0, none⟩ = some (.int .i64 0) := (b4.cell (p := ⟨w.heap.size, 0, none⟩) (by simp)).trans (World.news_of_block (cs := #[.int .i64 0, .string ⟨#[]⟩]) (t := 31) (fr := (0, 0)) (heap_alloc_new w _) 0 _ rfl)
    have c1 : w4.cell? ⟨w.heap.size, 1, none⟩ = some (.string ⟨#[]⟩) := (b4.cell (p := ⟨w.heap.size, 1, none⟩) (by simp)).trans (World.news_of_block (cs := #[.int .i64 0, .string ⟨#[]⟩]) (t := 31) (fr := (0, 0)) (heap_alloc_new w _) 1 _ rfl)
    have z0 : w4.frozen? ⟨w.heap.size, 0, none⟩ = false := (b4.frozen (p := ⟨w.heap.size, 0, none⟩) (by simp)).trans (by simp)
    have z1 : w4.frozen? ⟨w.heap.size, 1, none⟩ = false := (b4.frozen (p := ⟨w.heap.size, 1, none⟩) (by simp)).trans (by simp)
    obtain ⟨x0, x1⟩ := boxedL (w := w3) w4 hb4
    clear f0 f1 f2 f3 b3 b4 hb3 hb4
    go_wp2
    rw [HR.out]
    refine bodyPost_ret (v := .tuple #[.agg #[.int .i64 k, .string ⟨n.toArray⟩], .bool true]) (by simp [results, go_sem, c0, c1]) rfl ⟨rfl, ((B4.setCell (p := ⟨w.heap.size, 0, none⟩) (Nat.le_refl _) _).setCell (p := ⟨w.heap.size, 1, none⟩) (Nat.le_refl _) _)⟩
end Go.Proofs.Ytlaoioicefohiaa
