/-
  The contract of (*impl.constantTerm).valid.
-/
import Derived.Test.YtnklajagefedmaaTMath
import Derived.Test.YtnklajagefedmaaNWalks2
import Derived.Test.YtnklajagefedmaaTI0
import Derived.Test.YtnklajagefedmaaVI1
import Derived.Lib.Builder
namespace Go.Proofs.Ytnklajagefedmaa
set_option maxRecDepth 100000
open Go.ChangeShapes Go.WideShapes Go.ChangeAt Go.RowKit
set_option linter.unusedSimpArgs false

theorem lvsB_leI : ∀ {ls : List (List UInt8)}, ls.length ≤ (lvsB ls).length ∧ ∀ x ∈ ls, x.length ≤ (lvsB ls).length
  | [] => by simp [lvsB]
  | y :: r => by
    obtain ⟨h1, h2⟩ := lvsB_leI (ls := r)
    constructor
    · simp [lvsB]; omega
    · intro x hx
      rcases List.mem_cons.1 hx with rfl | hx
      · simp [lvsB]
      · have := h2 x hx
        simp [lvsB]; omega
def constOk (n : List UInt8) (ls : List (List UInt8)) : Bool := nameOk n && decide (ls.length ≤ 3) && ls.all levelOk
theorem constOk_iff {n : List UInt8} {ls : List (List UInt8)} : constOk n ls = true ↔ (Tm.const n ls).Ok := by
  simp [constOk, Tm.Ok, List.all_eq_true, and_assoc]
theorem row_slice {W : World} {b z n : Nat} {e : TypeId} {v : Value} {xs : List Value} (h : W.ownsRow b e z v n xs) : ∃ a c, v = .slice a n c := by
  rcases h.2 with ⟨rfl, rfl⟩ | ⟨g, cap, cur, rfl, _⟩
  · exact ⟨_, _, rfl⟩
  · exact ⟨_, _, rfl⟩
set_option maxHeartbeats 2000000 in
theorem implValid (s : ByteArray) {W : World} {b g0 : Nat} {u : Value} {ls : List (List UInt8)} (hg : W.heap[g0]? = some (.cells #[.string s, u] 31 (0, 0))) (h : W.ownsRow b 9 1 u ls.length (ls.map sv)) (hs : s.size ≤ maxLen) (hx : ∀ x ∈ ls, x.length ≤ maxLen) (hn : ls.length ≤ 10000000) :
    Calls Try.prog 12 #[.pointer (some ⟨g0, 0, none⟩)] W fun e W' => e = .returned (.bool (constOk s.data.toList ls)) ∧ Below W.heap.size W W' := by
  obtain ⟨a0, cap, rfl⟩ := row_slice h
  have f1 := Lib.hid fun W => implNameOk s W hs
  have HC : Hid (constOk s.data.toList ls = (nameOk s.data.toList && decide (ls.length ≤ 3) && ls.all levelOk)) := rfl
  have c0 : W.cell? ⟨g0, 0, none⟩ = some (.string s) := by rw [Lib.cell_of_heap hg]; rfl
  have HG := Lib.hid hg
  have HO := Lib.hid h
  clear h hg
  by_cases hok : nameOk s.data.toList = true
  rotate_left
  · rw [Bool.not_eq_true] at hok
    have HE : Hid (constOk s.data.toList ls = false) := by rw [Hid, HC.out, hok]; rfl
    rw [hok] at f1
    clear hok HC
    go_enter Try.func12, Try.ntmps12
    go_wp2_with fail
    (with_reducible refine (f1.out _).mono ?_); rintro e w1 ⟨rfl, hb1⟩
    go_wp2
    go_ret
    rw [HE.out]
    exact ⟨rfl, hb1⟩
  rw [hok] at HC f1
  simp only [Bool.true_and] at HC
  clear hok
  go_enter Try.func12, Try.ntmps12
  go_wp2_with fail
  (with_reducible refine (f1.out _).mono ?_); rintro e w1 ⟨rfl, hb1⟩
  have blk := blk_below HG.out hb1
  have h1 := own_below HO.out hb1
  have c1 : w1.cell? ⟨g0, 1, none⟩ = some (.slice a0 ls.length cap) := by rw [Lib.cell_of_heap blk]; rfl
  have HB1 := Lib.hid hb1
  clear hb1 HO f1 blk c0 HG
  by_cases h3 : ls.length ≤ 3
  rotate_left
  · have HE : Hid (constOk s.data.toList ls = false) := by rw [Hid, HC.out, decide_eq_false h3]; rfl
    have d1 : decide ((3 : Int) < (ls.length : Int)) = true := decide_eq_true (by omega)
    clear HC h1
    go_wp2
    go_ret
    rw [HE.out]
    exact ⟨rfl, HB1.out⟩
  rw [decide_eq_true h3] at HC
  simp only [Bool.true_and] at HC
  have d1 : decide ((3 : Int) < (ls.length : Int)) = false := decide_eq_false (by omega)
  have f3 := Lib.hid fun (x : List UInt8) (hm : x ∈ ls) W => implLevelOk ⟨x.toArray⟩ W (by simpa [ByteArray.size] using hx x hm)
  simp only at f3
  clear hx
  go_wp2
  go_loopw [24] (fun i wr => ∃ k : Nat, k ≤ ls.length ∧ i = .int .i64 k ∧ wr = w1 ∧ Hid (ls.all levelOk = (ls.drop k).all levelOk)) (fun i _ => ls.length - (intOf i).toNat)
  case atStart => exact ⟨0, Nat.zero_le _, rfl, rfl, by simp [Hid]⟩
  case round =>
    obtain ⟨k, hk, rfl, rfl, HA⟩ := hrel
    by_cases hlt : k < ls.length
    · obtain ⟨g, cap', e0, _, hgl⟩ := h1.form (by omega)
      cases e0
      have ex : (ls.map sv)[k]? = some (sv ls[k]) := by simp [hlt]
      have cc := (h1.cellAt k (by omega)).trans ex
      unfold sv at cc
      have q1 : (0 : Int) ≤ (k : Int) := by omega
      have q2 : (k : Int) < (ls.length : Int) := by omega
      have g3 := Lib.hid (f3.out ls[k] (List.getElem_mem hlt))
      have HA2 : Hid (ls.all levelOk = (levelOk ls[k] && (ls.drop (k + 1)).all levelOk)) := by rw [Hid, HA.out, List.drop_eq_getElem_cons hlt]; rfl
      clear ex HA f3
      generalize levelOk ls[k] = ok at g3 HA2
      generalize ls[k] = x at cc g3
      cases ok
      · have HE : Hid (constOk s.data.toList ls = false) := by rw [Hid, HC.out, HA2.out]; rfl
        clear HA2 HC
        go_wp2_with fail
        (with_reducible refine (g3.out _).mono ?_); rintro e w2 ⟨rfl, rfl⟩
        go_wp2
        go_ret
        rw [HE.out]
        exact ⟨rfl, HB1.out⟩
      · have HN : Hid (ls.all levelOk = (ls.drop (k + 1)).all levelOk) := by rw [Hid, HA2.out, Bool.true_and]
        clear HA2
        go_wp2_with fail
        (with_reducible refine (g3.out _).mono ?_); rintro e w2 ⟨rfl, rfl⟩
        go_wp2
        go_roundw
        case rel => exact ⟨k + 1, by omega, by go_num, trivial, HN.out⟩
        case measure => simp [intOf]; omega
    · have HE : Hid (constOk s.data.toList ls = true) := by rw [Hid, HC.out, HA.out, List.drop_of_length_le (by omega)]; rfl
      have dk : decide ((k : Int) < (ls.length : Int)) = false := decide_eq_false (by omega)
      clear HA f3 h1 HC
      go_wp2
      go_ret
      rw [HE.out]
      exact ⟨rfl, HB1.out⟩
end Go.Proofs.Ytnklajagefedmaa
