/-
  Lists of ints: contracts of laws.eqIntS, toIntS, markIntS and heldIntS; a list of ints that came in.
-/
import Derived.Test.YtdeophmdpbgkdaaBase
import Derived.ChangeSlices
namespace Go.Proofs.Ytdeophmdpbgkdaa
set_option maxRecDepth 100000
open Go.ChangeShapes Go.WideShapes Go.ChangeAt Go.RowKit
set_option linter.unusedSimpArgs false

def iv (x : Int) : Value := .int .i64 x
theorem own_sliceI {w : World} {b n : Nat} {v : Value} {xs : List Value} (h : w.ownsRow b 3 1 v n xs) : ∃ a cap, v = .slice a n cap := by
  rcases h.2 with ⟨rfl, rfl⟩ | ⟨g, cap, cur, rfl, _⟩
  · exact ⟨_, _, rfl⟩
  · exact ⟨_, _, rfl⟩
/-- The value is a slice over ints: nil, empty or not. -/
def CameI (w : World) (v : Value) (l : List Int) : Prop :=
  ∃ (a0 : Option Addr) (cap b off : Nat), v = .slice a0 l.length cap ∧ (0 < l.length → a0 = some ⟨b, off, none⟩ ∧ b < w.heap.size) ∧ (∀ j (h : j < l.length), w.cell? ⟨b, off + j, none⟩ = some (iv l[j])) ∧ l.length ≤ maxLen
theorem CameI.below {w w' : World} {v : Value} {l : List Int} (h : CameI w v l) (hb : Below w.heap.size w w') : CameI w' v l := by
  obtain ⟨a0, cap, b, off, h1, h2, h3, h4⟩ := h
  refine ⟨a0, cap, b, off, h1, fun h0 => ⟨(h2 h0).1, Nat.lt_of_lt_of_le (h2 h0).2 hb.size⟩, fun j hj => ?_, h4⟩
  rw [hb.cell (p := ⟨b, off + j, none⟩) (h2 (by omega)).2]
  exact h3 j hj

/-- Two owned rows of one list of ints are equal. -/
theorem eqIntS {w : World} {b1 b2 n : Nat} {v1 v2 : Value} {l : List Int} (h1 : w.ownsRow b1 3 1 v1 n (l.map iv)) (h2 : w.ownsRow b2 3 1 v2 n (l.map iv)) (hn : n ≤ 1000000000) :
    Calls Try.prog 25 #[v1, v2] w fun e w' => e = .returned (.bool true) ∧ ∃ q, w' = w.drewN q := by
  have hl : l.length = n := by simpa using h1.1
  rcases Nat.eq_zero_or_pos n with h0 | hp
  · subst h0
    rcases h1.2 with ⟨rfl, _⟩ | ⟨g, cap, cur, rfl, _⟩ <;> rcases h2.2 with ⟨rfl, _⟩ | ⟨g2, cap2, cur2, rfl, _⟩
    all_goals
      clear h1 h2 hl hn
      go_enter Try.func25, Try.ntmps25
      go_wp2
      refine wp_loop_rounds 1 ?_
      rw [rounds_succ]
      go_wp2
      go_ret
      exact ⟨rfl, 0, rfl⟩
  · obtain ⟨g1, c1, rfl, _, _⟩ := h1.form hp
    obtain ⟨g2, c2, rfl, _, _⟩ := h2.form hp
    go_enter Try.func25, Try.ntmps25
    go_wp2
    go_loopw [5] (fun i wr => ∃ k q : Nat, k ≤ n ∧ i = .int .i64 k ∧ wr = w.drewN q) (fun i _ => n - (intOf i).toNat)
    case atStart => exact ⟨0, 0, Nat.zero_le _, rfl, rfl⟩
    case round =>
      obtain ⟨k, q, hk, rfl, rfl⟩ := hrel
      by_cases hlt : k < n
      · have e1 := h1.cellAt k (by omega)
        have e2 := h2.cellAt k (by omega)
        have ex : (l.map iv)[k]? = some (iv (l[k]'(by omega))) := by simp [show k < l.length by omega]
        rw [ex] at e1 e2
        generalize l[k]'(by omega) = x at e1 e2
        clear ex h1 h2
        unfold iv at e1 e2
        have q1 : (0 : Int) ≤ (k : Int) := by omega
        have q2 : (k : Int) < (n : Int) := by omega
        go_wp2
        go_quiet (fail)
        go_wp2
        go_roundw
        case rel => exact ⟨k + 1, q + nq, by omega, by go_num, rfl⟩
        case measure => simp [intOf]; omega
      · go_wp2
        go_ret
        exact ⟨rfl, q, rfl⟩

theorem infoInt : (Try.prog.info? 3).map (fun i => (i.zero, i.size, i.bytes)) = some (some (.int .i64 0), 1, 8) := by kernel_rfl
def IRes (r : List Int) (w : World) (e : Ending) (w' : World) : Prop :=
  ∃ v, e = .returned v ∧ w'.ownsRow w.heap.size 3 1 v r.length (r.map iv) ∧ Below w.heap.size w w'
theorem fill_setI {a b : List Value} {k : Nat} {u : Value} (hk : k < a.length) (hb : b.length = a.length) (hu : a[k] = u) : (a.take k ++ b.drop k).set k u = a.take (k + 1) ++ b.drop (k + 1) := by
  rw [List.set_append_right _ _ (by simp; omega)]
  have : (a.take k).length = k := by simp; omega
  rw [this, Nat.sub_self, List.take_succ_eq_append_getElem hk, List.append_assoc]
  congr 1
  rw [List.drop_eq_getElem_cons (by omega), hu]
  rfl

set_option maxHeartbeats 400000 in
theorem toIntS {w : World} {v : Value} {l : List Int} (h : CameI w v l) (hn : l.length ≤ 1048576) :
    Calls Try.prog 24 #[v] w (IRes l w) := by
  obtain ⟨a0, cap, b, off, rfl, h2, h3, h4⟩ := h
  clear h4
  obtain ⟨i0, hi, hz0, hz1, hz2⟩ := info_parts infoInt
  go_enter Try.func24, Try.ntmps24
  go_wp2_with (at_make; refine wpList_make_full _ rfl _ _ 26 rfl w.heap.size 3 i0 (.int .i64 0) 1 Try.underlying26 hi hz0 hz1 _ _ _ _ l.length rfl rfl rfl rfl (by rw [hz2]; omega) (by unfold maxLen; omega) (Nat.le_refl _) ?_; intro w0 hown0 hgrow0)
  have hbel0 : Below w.heap.size w w0 := (Below.refl _ _).grown hgrow0 (Nat.le_refl _) (by simp)
  have hxl := hown0.1
  generalize (madeCells (Value.int .i64 0).cells (l.length * 1)).toList = xs at hown0 hxl
  rw [Nat.mul_one] at hxl
  go_loopw [4] (fun i wr => ∃ k : Nat, k ≤ l.length ∧ i = .int .i64 k ∧ wr.ownsRow w.heap.size 3 1 (.slice (some ⟨w.heap.size, 0, none⟩) l.length l.length) l.length ((l.map iv).take k ++ xs.drop k) ∧ Below w.heap.size w wr) (fun i _ => l.length - (intOf i).toNat)
  case atStart => exact ⟨0, Nat.zero_le _, rfl, by simpa using hown0, hbel0⟩
  case round =>
    obtain ⟨k, hk, rfl, hown, hbel⟩ := hrel
    clear hown0 hgrow0 hbel0
    by_cases hlt : k < l.length
    · obtain ⟨rfl, hb⟩ := h2 (by omega)
      have cc := (hbel.cell (p := ⟨b, off + k, none⟩) hb).trans (h3 k hlt)
      have HU := Lib.hid (fill_setI (a := l.map iv) (b := xs) (k := k) (u := iv l[k]) (by simpa using hlt) (by simpa using hxl) (by simp))
      unfold iv at cc
      have hlen : k < ((l.map iv).take k ++ xs.drop k).length := by simp; omega
      have co := hown.cellAt k (by omega)
      rw [List.getElem?_eq_getElem hlen] at co
      have cf := hown.frozenAt k
      generalize ((l.map iv).take k ++ xs.drop k)[k] = old at co
      have HS := Lib.hid (hown.stored k (iv l[k]))
      have HB := Lib.hid hbel
      have hne : b ≠ w.heap.size := by omega
      unfold iv at HS HU
      generalize l[k] = x at cc HU HS
      have q1 : (0 : Int) ≤ (k : Int) := by omega
      have q2 : (k : Int) < (l.length : Int) := by omega
      clear h2 h3 hown hlen hbel
      go_wp2
      go_roundw
      case rel =>
        have e1 := HS.out
        unfold iv at e1
        rw [HU.out] at e1
        exact ⟨k + 1, by omega, by go_num, e1.1, HB.out.grown e1.2 HB.out.size (fun j hj => by cases hj; exact Nat.le_refl _)⟩
      case measure => simp [intOf]; omega
    · obtain rfl : k = l.length := by omega
      rw [List.drop_eq_nil_of_le (by omega), List.append_nil, List.take_of_length_le (by simp)] at hown
      have HO := Lib.hid hown
      clear hown h2 h3
      go_wp2
      go_ret
      exact ⟨_, rfl, HO.out, hbel⟩

def marksI (k n : Nat) : List Value := (List.range n).map fun i => iv ((k + i : Nat) : Int)
theorem marksI_succ (k n : Nat) : marksI k (n + 1) = marksI k n ++ [iv ((k + n : Nat) : Int)] := by simp [marksI, List.range_succ]
theorem marksI_length (k n : Nat) : (marksI k n).length = n := by simp [marksI]
theorem marksI_set {k j : Nat} {xs : List Value} (h : j < xs.length) : (marksI k j ++ xs.drop j).set j (iv ((k + j : Nat) : Int)) = marksI k (j + 1) ++ xs.drop (j + 1) := by
  rw [List.set_append_right _ _ (by rw [marksI_length]; exact Nat.le_refl _), marksI_length, Nat.sub_self, marksI_succ, List.append_assoc]
  congr 1
  rw [List.drop_eq_getElem_cons h]
  rfl

set_option maxHeartbeats 400000 in
theorem markIntS {w : World} {base n k : Nat} {v : Value} {xs : List Value} (h : w.ownsRow base 3 1 v n xs) (hn : n ≤ 100000000) (hk0 : 0 < k) (hk : k ≤ 100000000) :
    Calls Try.prog 31 #[v, .int .i64 (k : Int)] w fun e w' => e = .returned (.int .i64 ((k + n : Nat) : Int)) ∧ w'.ownsRow base 3 1 v n (marksI k n) ∧ w.grownBy w' v.ownBlock := by
  have hl : xs.length = n := by simpa using h.1
  rcases Nat.eq_zero_or_pos n with h0 | hp
  · subst h0
    have h' := Lib.hid h
    rcases h.2 with ⟨rfl, _⟩ | ⟨g, cap, cur, rfl, _⟩
    all_goals
      clear h hl hn
      go_enter Try.func31, Try.ntmps31
      go_wp2
      refine wp_loop_rounds 1 ?_
      rw [rounds_succ]
      go_wp2
      go_ret
      refine ⟨by simp, ?_, World.grownBy.refl _ _⟩
      have e : xs = marksI k 0 := by have := h'.out.1; simpa [marksI] using this
      rw [← e]
      exact h'.out
  · obtain ⟨g, c, rfl, _, _⟩ := h.form hp
    go_enter Try.func31, Try.ntmps31
    go_wp2
    go_loopw [1, 5] (fun kk i wr => ∃ j : Nat, j ≤ n ∧ i = .int .i64 j ∧ kk = .int .i64 ((k : Int) + (j : Int)) ∧ wr.ownsRow base 3 1 (.slice (some ⟨g, 0, none⟩) n c) n (marksI k j ++ xs.drop j) ∧ w.grownBy wr (some g)) (fun _ i _ => n - (intOf i).toNat)
    case atStart => exact ⟨0, Nat.zero_le _, rfl, by go_num, h, World.grownBy.refl _ _⟩
    case round =>
      obtain ⟨j, hj, rfl, rfl, hown, hg⟩ := hrel
      clear h
      by_cases hlt : j < n
      · have hlen : j < (marksI k j ++ xs.drop j).length := by simp [marksI_length]; omega
        have cc := hown.cellAt j (by omega)
        rw [List.getElem?_eq_getElem hlen] at cc
        have cf := hown.frozenAt j
        generalize (marksI k j ++ xs.drop j)[j] = old at cc
        have HS := hown.stored j (iv ((k + j : Nat) : Int))
        rw [marksI_set (by omega)] at HS
        rw [show iv ((k + j : Nat) : Int) = .int .i64 ((k : Int) + (j : Int)) by rw [iv, show ((k + j : Nat) : Int) = (k : Int) + (j : Int) by omega]] at HS
        have HS2 := Lib.hid HS
        have HG := Lib.hid hg
        clear hown hlen hg HS
        have q1 : (0 : Int) ≤ (j : Int) := by omega
        have q2 : (j : Int) < (n : Int) := by omega
        go_wp2
        go_roundw
        case rel => exact ⟨j + 1, by omega, by go_num, by go_num, HS2.out.1, HG.out.trans HS2.out.2⟩
        case measure => simp [intOf]; omega
      · obtain rfl : j = n := by omega
        go_wp2
        go_ret
        rw [List.drop_eq_nil_of_le (by omega), List.append_nil] at hown
        exact ⟨by go_num, hown, hg⟩

set_option maxHeartbeats 400000 in
theorem heldIntS {w : World} {base n k : Nat} {v : Value} (h : w.ownsRow base 3 1 v n (marksI k n)) (hn : n ≤ 100000000) (hk0 : 0 < k) (hk : k ≤ 100000000) :
    Calls Try.prog 32 #[v, .int .i64 (k : Int)] w fun e w' => e = .returned (.int .i64 ((k + n : Nat) : Int)) ∧ Below w.heap.size w w' := by
  rcases Nat.eq_zero_or_pos n with h0 | hp
  · subst h0
    rcases h.2 with ⟨rfl, _⟩ | ⟨g, cap, cur, rfl, _⟩
    all_goals
      clear h hn
      go_enter Try.func32, Try.ntmps32
      go_wp2
      refine wp_loop_rounds 1 ?_
      rw [rounds_succ]
      go_wp2
      go_ret
      exact ⟨by simp, Below.refl _ _⟩
  · obtain ⟨g, c, rfl, _, hgl⟩ := h.form hp
    go_enter Try.func32, Try.ntmps32
    go_wp2
    go_loopw [1, 5] (fun kk i wr => ∃ j : Nat, j ≤ n ∧ i = .int .i64 j ∧ kk = .int .i64 ((k : Int) + (j : Int)) ∧ Below w.heap.size w wr) (fun _ i _ => n - (intOf i).toNat)
    case atStart => exact ⟨0, Nat.zero_le _, rfl, by go_num, Below.refl _ _⟩
    case round =>
      obtain ⟨j, hj, rfl, rfl, hbel⟩ := hrel
      by_cases hlt : j < n
      · have cc := h.cellAt j (by omega)
        have ex : (marksI k n)[j]? = some (.int .i64 ((k : Int) + (j : Int))) := by simp [marksI, hlt, iv]
        rw [ex] at cc
        have cr : wr.cell? ⟨g, j, none⟩ = some (.int .i64 ((k : Int) + (j : Int))) := (hbel.cell (p := ⟨g, j, none⟩) hgl).trans cc
        have hz := hbel.size
        have q1 : (0 : Int) ≤ (j : Int) := by omega
        have q2 : (j : Int) < (n : Int) := by omega
        clear ex cc h
        go_wp2
        go_roundw
        case rel => exact ⟨j + 1, by omega, by go_num, by go_num, hbel⟩
        case measure => simp [intOf]; omega
      · obtain rfl : j = n := by omega
        go_wp2
        go_ret
        exact ⟨by go_num, hbel⟩
theorem markOneI {w : World} {base n : Nat} {v : Value} {xs : List Value} (h : w.ownsRow base 3 1 v n xs) (hn : n ≤ 100000000) :
    Calls Try.prog 31 #[v, .int .i64 1] w fun e w' => e = .returned (.int .i64 ((n : Int) + 1)) ∧ w'.ownsRow base 3 1 v n (marksI 1 n) ∧ w.grownBy w' v.ownBlock := by
  have := markIntS (k := 1) h hn (by decide) (by decide)
  rw [show ((1 + n : Nat) : Int) = (n : Int) + 1 by omega] at this
  exact this
theorem heldOneI {w : World} {base n : Nat} {v : Value} (h : w.ownsRow base 3 1 v n (marksI 1 n)) (hn : n ≤ 100000000) :
    Calls Try.prog 32 #[v, .int .i64 1] w fun e w' => e = .returned (.int .i64 ((n : Int) + 1)) ∧ Below w.heap.size w w' := by
  have := heldIntS (k := 1) h hn (by decide) (by decide)
  rw [show ((1 + n : Nat) : Int) = (n : Int) + 1 by omega] at this
  exact this

theorem cellsInt : Try.prog.cellsOf 3 = 1 := by kernel_rfl
/-- A []int argument, nil or not, as the walks want it. -/
theorem open_cameI {H : Type} {enc : TypeId × Value → H} {W : World} {a0 : Option Addr} {len cap fuel : Nat} {x : DataW H × List MemPlace}
    (hf : DataW.trod enc Try.prog W 0 (fun _ => true) true fuel 26 [.slice a0 len cap] = some x) : ∃ l, CameI W (.slice a0 len cap) l := by
  rcases open_ints Try.underlying26 Try.underlying3 cellsInt hf with ⟨hcs, hx⟩ | ⟨a, len', cap', zs, hcs, _, hl, hm, hz, hx, hcell, hws⟩
  · simp at hcs
    obtain ⟨rfl, rfl, rfl⟩ := hcs
    exact ⟨[], none, 0, 0, 0, rfl, fun h => absurd h (by simp), fun j h => absurd h (by simp), Nat.zero_le _⟩
  · simp at hcs
    obtain ⟨rfl, rfl, rfl⟩ := hcs
    simp only [if_true] at hz
    obtain ⟨b, off, spot⟩ := a
    have hlen : (zs.take len).length = len := by simp; omega
    have hspot : 0 < len → spot = none := fun h0 => by simpa [Addr.add] using World.cell?_spot (hcell 0 (by omega))
    refine ⟨zs.take len, some ⟨b, off, spot⟩, cap, b, off, by rw [hlen], fun h0 => ?_, fun j hj => ?_, by rw [hlen]; omega⟩
    · rw [hlen] at h0
      obtain rfl := hspot h0
      refine ⟨rfl, ?_⟩
      have hc := hcell 0 (by omega)
      by_cases hb : b < W.heap.size
      · exact hb
      · unfold World.cell? at hc
        rw [Array.getElem?_eq_none (by simp [Addr.add]; omega)] at hc
        cases hc
    · rw [hlen] at hj
      obtain rfl := hspot (by omega)
      have hj2 : j < zs.length := by omega
      have e : iv (zs.take len)[j] = .int .i64 (zs.getD j 0) := by
        simp [iv, List.getElem?_eq_getElem hj2]
      rw [e, ← add_plain]
      exact hcell j hj2
end Go.Proofs.Ytdeophmdpbgkdaa
