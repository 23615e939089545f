/-
  The contract of impl.LabelsBoth.
-/
import Derived.Test.YtlaoioicefohiaaLU
import Derived.Test.YtlaoioicefohiaaLI4
namespace Go.Proofs.Ytlaoioicefohiaa
set_option maxRecDepth 100000
open Go.ChangeShapes Go.WideShapes Go.ChangeAt Go.RowKit
set_option linter.unusedSimpArgs false

theorem set_same {xs : List Value} {j : Nat} {u : Value} (h : xs[j]? = some u) : xs.set j u = xs := by
  apply List.ext_getElem?
  intro i
  rw [List.getElem?_set]
  by_cases e : j = i
  · subst e
    have hl : j < xs.length := by
      rcases Nat.lt_or_ge j xs.length with hl | hl
      · exact hl
      · rw [List.getElem?_eq_none hl] at h; cases h
    rw [if_pos rfl, if_pos hl, h]
  · simp [e]

set_option maxHeartbeats 1000000 in
theorem implLabelsBoth {w : World} {b1 b2 : Nat} {v1 v2 : Value} {a b : List Lbl} (h1 : w.ownsRow b1 31 2 v1 a.length (flat a)) (h2 : w.ownsRow b2 31 2 v2 b.length (flat b)) (ha : a.length ≤ 2000000) (hb : b.length ≤ 2000000) (hx : ∀ x ∈ a ++ b, x.2.length ≤ 1048576) :
    Calls Try.prog 33 #[v1, v2] w (LResL (srt ordL (a ++ b)) w) := by
  have f1 := Lib.hid (unitedL h1 h2 ha hb)
  obtain ⟨_, s2, s3⟩ := srt_spec ordL (a ++ b).length (a ++ b) (Nat.le_refl _)
  have hr : ∀ x ∈ srt ordL (a ++ b), x.2.length ≤ 1048576 := fun x hm => hx x ((s2 x).1 hm)
  have hl : (srt ordL (a ++ b)).length ≤ 4000000 := by simp at s3; omega
  obtain ⟨a1, k1, rfl⟩ := own_sliceU h1
  obtain ⟨a2, k2, rfl⟩ := own_sliceU h2
  clear s2 s3 hx h1 h2
  generalize srt ordL (a ++ b) = r at f1 hr hl
  go_enter Try.func33, Try.ntmps33
  go_wp2_with fail
  (with_reducible refine f1.out.mono ?_); rintro e w2 ⟨v, rfl, hv, hb2⟩
  rcases Nat.eq_zero_or_pos r.length with h0 | hp
  · have HV := Lib.hid hv
    obtain ⟨q, cap, rfl⟩ := own_nil_orL hv h0
    obtain rfl : r = [] := List.length_eq_zero_iff.1 h0
    clear hv
    go_wp2
    refine wp_loop_rounds 1 ?_
    rw [rounds_succ]
    go_wp2
    go_ret
    exact ⟨_, rfl, HV.out, hb2⟩
  · obtain ⟨g, cap, rfl, hBg, _⟩ := hv.form hp
    go_wp2
    go_loopw [13] (fun i wr => ∃ k : Nat, k ≤ r.length ∧ i = .int .i64 k ∧ wr.ownsRow w.heap.size 31 2 (.slice (some ⟨g, 0, none⟩) r.length cap) r.length (flat r) ∧ Below w.heap.size w wr) (fun i _ => r.length - (intOf i).toNat)
    case atStart => exact ⟨0, Nat.zero_le _, rfl, hv, hb2⟩
    case round =>
      obtain ⟨k, hk, rfl, hown, hbel⟩ := hrel
      clear hv hb2 f1
      have hz := hbel.size
      by_cases hlt : k < r.length
      · obtain ⟨fa, fb⟩ := flat_at hlt
        have ca := (hown.cellAt (k * 2) (by omega)).trans fa
        have cb := (hown.cellAt (k * 2 + 1) (by omega)).trans fb
        have hnm := hr _ (List.getElem_mem hlt)
        have HF := Lib.hid (set_same fb)
        have FB := Lib.hid fb
        clear fa fb
        generalize r[k] = x at ca cb hnm HF FB
        obtain ⟨kd, nm⟩ := x
        unfold sv at cb HF FB
        simp only at ca cb hnm HF FB
        have q1 : (0 : Int) ≤ (k : Int) := by omega
        have q2 : (k : Int) < (r.length : Int) := by omega
        have f2 := Lib.hid fun W => cloneS ⟨nm.toArray⟩ W (by simp only [ByteArray.size, List.size_toArray]; omega)
        go_wp2_with fail
        (with_reducible refine (f2.out _).mono ?_); rintro e w3 ⟨rfl, hb3⟩
        have hown3 : w3.ownsRow w.heap.size 31 2 (.slice (some ⟨g, 0, none⟩) r.length cap) r.length (flat r) := own_below (hown.alloc _) hb3
        have hbel3 := (hbel.alloc hz _).trans (hb3.mono (by simp; omega))
        have co2 := (hown3.cellAt (k * 2 + 1) (by omega)).trans FB.out
        have cf2 := hown3.frozenAt (k * 2 + 1)
        have HW := Lib.hid (hown3.stored (k * 2 + 1) (.string ⟨nm.toArray⟩)).1
        rw [HF.out] at HW
        have HB := Lib.hid (hbel3.setCell (p := ⟨g, k * 2 + 1, none⟩) hBg (.string ⟨nm.toArray⟩))
        clear hown hown3 hb3 ca cb f2
        go_wp2
        go_roundw
        case rel => exact ⟨k + 1, by omega, by go_num, HW.out, HB.out⟩
        case measure => simp [intOf]; omega
      · obtain rfl : k = r.length := by omega
        have HO := Lib.hid hown
        clear hown
        go_wp2
        go_ret
        exact ⟨_, rfl, HO.out, hbel⟩
end Go.Proofs.Ytlaoioicefohiaa
