/-
  Contracts of strings.Split at a dot, impl.clones, spec.NameParts and impl.NameParts.
-/
import Derived.Test.YtabgibmdkfebhaaDoorNWalks2
import Derived.Test.YtabgibmdkfebhaaDoorShelf
namespace Go.Proofs.YtabgibmdkfebhaaDoor
open Go.ChangeShapes Go.WideShapes Go.ChangeAt Go.RowKit

theorem index_cons (b c : UInt8) (l : List UInt8) : Lib.index (b :: l) [c] = if b = c then 0 else if Lib.index l [c] = -1 then -1 else Lib.index l [c] + 1 := by
  rw [Lib.index]
  by_cases h : b = c
  · subst h; simp [List.isPrefixOf]
  · have hp : ([c] : List UInt8).isPrefixOf (b :: l) = false := by simp [List.isPrefixOf, Ne.symm h]
    rw [hp]
    simp [h]
theorem cutF_miss (c : UInt8) (l : List UInt8) : ∀ p, Lib.index l [c] = -1 → cutF c p l = [p ++ l] := by
  induction l with
  | nil => intro p _; simp [cutF]
  | cons b l ih =>
    intro p h
    rw [index_cons] at h
    by_cases hb : b = c
    · simp [hb] at h
    · rw [if_neg hb] at h
      have h2 : Lib.index l [c] = -1 := by
        split at h
        · assumption
        · have := Lib.index_ge l [c]; omega
      rw [cutF, if_neg hb, ih _ h2]
      simp
theorem cutF_hit (c : UInt8) (l : List UInt8) : ∀ p (i : Nat), Lib.index l [c] = (i : Int) → cutF c p l = (p ++ l.take i) :: cutF c [] (l.drop (i + 1)) := by
  induction l with
  | nil => intro p i h; simp [Lib.index] at h
  | cons b l ih =>
    intro p i h
    rw [index_cons] at h
    by_cases hb : b = c
    · rw [if_pos hb] at h
      obtain rfl : i = 0 := by omega
      simp [cutF, hb]
    · rw [if_neg hb] at h
      split at h
      · omega
      · obtain ⟨j, rfl⟩ : ∃ j, i = j + 1 := ⟨i - 1, by have := Lib.index_ge l [c]; omega⟩
        rw [cutF, if_neg hb, ih _ j (by omega)]
        simp
theorem splitK_cut (c : UInt8) : ∀ (k : Nat) (l : List UInt8), Lib.count l [c] = k → Lib.splitK [c] 0 k l = cutF c [] l := by
  intro k
  induction k with
  | zero =>
    intro l h
    have hm : Lib.index l [c] = -1 := by
      by_cases hm : Lib.index l [c] = -1
      · exact hm
      · have hge := Lib.index_ge l [c]
        obtain ⟨j, hj⟩ : ∃ j : Nat, Lib.index l [c] = j := ⟨(Lib.index l [c]).toNat, by omega⟩
        rw [Lib.count_hit (by simp) hj] at h
        omega
    rw [cutF_miss c l [] hm]
    rfl
  | succ k ih =>
    intro l h
    by_cases hm : Lib.index l [c] = -1
    · rw [Lib.count_miss hm] at h; omega
    · have hge := Lib.index_ge l [c]
      obtain ⟨j, hj⟩ : ∃ j : Nat, Lib.index l [c] = j := ⟨(Lib.index l [c]).toNat, by omega⟩
      rw [Lib.count_hit (by simp) hj] at h
      rw [Lib.splitK, if_neg (by rw [hj]; simp), hj, cutF_hit c l [] j hj]
      simp only [Int.toNat_natCast, List.length_cons, List.length_nil, Nat.add_zero, Nat.zero_add, List.nil_append]
      rw [ih _ (by simp only [List.length_cons, List.length_nil, Nat.zero_add] at h; omega)]
theorem map_string (L : List ByteArray) (R : List (List UInt8)) (h : L.map (·.data.toList) = R) : L.map Value.string = R.map sv := by
  subst h
  simp [sv, Function.comp_def]

theorem split46 (s : ByteArray) (w : World) (hs : s.size ≤ 40) (hm : ∃ m, w.cell? ⟨0, 0, none⟩ = some (.int .i64 m)) :
    Calls Tryd.prog 12 #[.string s, .string ⟨#[46]⟩] w (LRes (cutL s.data.toList) w) := by
  obtain ⟨m, hm⟩ := hm
  refine (Tryd.strings_Split s ⟨#[46]⟩ m w (by omega) hm (by decide)).mono ?_
  rintro e w' ⟨rfl, rfl⟩
  have hc : Lib.countB s ⟨#[46]⟩ ≤ s.size := Lib.countB_le _ (by decide) s.size s (Nat.le_refl _)
  have hl := Lib.splitB_all ⟨#[46]⟩ (by decide) 0 _ s rfl
  have hd : (Lib.splitB ⟨#[46]⟩ 0 (Lib.countB s ⟨#[46]⟩) s).map (·.data.toList) = cutL s.data.toList := by
    rw [Lib.splitB_data]
    exact splitK_cut 46 _ _ rfl
  have hv := map_string _ _ hd
  have hlen : (cutL s.data.toList).length = Lib.countB s ⟨#[46]⟩ + 1 := by rw [← hd, List.length_map, hl]
  refine ⟨_, rfl, ?_, (Below.refl _ _).alloc (Nat.le_refl _) _⟩
  have h := World.ownsRow_lit (base := w.heap.size) (e := 9) (size := 1) w ((Lib.splitB ⟨#[46]⟩ 0 (Lib.countB s ⟨#[46]⟩) s).map Value.string).toArray (Lib.countB s ⟨#[46]⟩ + 1) (Nat.le_refl _) (by unfold maxLen; omega) (by simp [hl])
  rw [hlen]
  simpa [hv] using h

theorem cloneS (s : ByteArray) (w : World) (hs : s.size ≤ 281474976710656) :
    Calls Tryd.prog 17 #[.string s] w fun e w' => e = .returned (.string s) ∧ Below w.heap.size w w' := by
  have f1 := Lib.hid fun W => Tryd.stringslite_Clone s W hs
  go_enter Tryd.func17, Tryd.ntmps17
  go_wp2_with fail
  (with_reducible refine (f1.out _).mono ?_); rintro e w1 ⟨rfl, hb1⟩
  go_wp2
  go_ret
  exact ⟨rfl, hb1⟩

set_option maxHeartbeats 1000000 in
theorem clones {w : World} {b : Nat} {v : Value} {l : List (List UInt8)} (h : w.ownsRow b 9 1 v l.length (l.map sv)) (hn : l.length ≤ 10000000) (hx : ∀ x ∈ l, x.length ≤ 281474976710656) :
    Calls Tryd.prog 13 #[v] w (LRes l w) := by
  obtain ⟨i0, hi, hz0, hz1, hz2⟩ := info_parts infoStr
  rcases Nat.eq_zero_or_pos l.length with h0 | hp
  · obtain rfl : l = [] := List.length_eq_zero_iff.1 h0
    obtain ⟨a, cap, rfl⟩ : ∃ a cap, v = .slice a 0 cap := by
      rcases h.2 with ⟨rfl, _⟩ | ⟨g, cap, cur, rfl, _⟩
      · exact ⟨_, _, rfl⟩
      · exact ⟨_, _, rfl⟩
    clear h h0 hn hx
    go_enter Tryd.func13, Tryd.ntmps13
    go_wp2_with (at_make; refine wpList_make_own _ rfl _ _ 22 rfl w.heap.size 9 i0 (.string ⟨#[]⟩) 1 Tryd.underlying22 hi hz0 hz1 _ _ _ 0 rfl rfl (by omega) (by rw [hz2]; omega) (by unfold maxLen; omega) (Nat.le_refl _) ?_; intro w0 hown0 hgrow0)
    have hbel0 : Below w.heap.size w w0 := (Below.refl _ _).grown hgrow0 (Nat.le_refl _) (by simp)
    refine wp_loop_rounds 1 ?_
    rw [rounds_succ]
    go_wp2
    go_ret
    exact ⟨_, rfl, hown0, hbel0⟩
  · obtain ⟨g, cap, rfl, _, hgl⟩ := h.form hp
    go_enter Tryd.func13, Tryd.ntmps13
    go_wp2_with (at_make; refine wpList_make_own _ rfl _ _ 22 rfl w.heap.size 9 i0 (.string ⟨#[]⟩) 1 Tryd.underlying22 hi hz0 hz1 _ _ _ l.length rfl rfl (by omega) (by rw [hz2]; omega) (by unfold maxLen; omega) (Nat.le_refl _) ?_; intro w0 hown0 hgrow0)
    have hbel0 : Below w.heap.size w w0 := (Below.refl _ _).grown hgrow0 (Nat.le_refl _) (by simp)
    go_loopw [3, 11] (fun vo i wr => ∃ k : Nat, k ≤ l.length ∧ i = .int .i64 k ∧ wr.ownsRow w.heap.size 9 1 vo k ((l.take k).map sv) ∧ Below w.heap.size w wr) (fun _ i _ => l.length - (intOf i).toNat)
    case atStart => exact ⟨0, Nat.zero_le _, rfl, by simpa using hown0, hbel0⟩
    case round =>
      obtain ⟨k, hk, rfl, hown, hbel⟩ := hrel
      clear hown0 hgrow0 hbel0
      have hz := hbel.size
      by_cases hlt : k < l.length
      · have cc := h.cellAt k (by omega)
        have ex : (l.map sv)[k]? = some (sv l[k]) := by simp [hlt]
        rw [ex] at cc
        unfold sv at cc
        have cr := (hbel.cell (p := ⟨g, k, none⟩) hgl).trans cc
        have HT := Lib.hid (List.take_succ_eq_append_getElem hlt)
        have f1 := Lib.hid fun W => cloneS ⟨l[k].toArray⟩ W (by simp only [ByteArray.size, List.size_toArray]; exact hx _ (List.getElem_mem hlt))
        have q1 : (0 : Int) ≤ (k : Int) := by omega
        have q2 : (k : Int) < (l.length : Int) := by omega
        clear ex cc
        generalize l[k] = x at cr f1 HT
        go_wp2_with fail
        (with_reducible refine (f1.out _).mono ?_); rintro e w1 ⟨rfl, hb1⟩
        have hown1 := own_below hown hb1
        have hB1 := hbel.trans (hb1.mono hz)
        have hzB := hB1.size
        have hl := hown1.lt
        go_wp2_with (at_builtin; refine wpList_append_own _ rfl _ _ 22 rfl w.heap.size 9 i0 _ 1 16 Tryd.underlying22 hi hz0 hz1 hz2 rfl (by decide) _ _ _ rfl (hown1.alloc _) ⟨w1.heap.size, 0, none⟩ 1 1 [.string ⟨x.toArray⟩] rfl rfl (oneNew _ _ _) (by simp [Value.oneCell']) (by simp only [maxLen]; omega) (by omega) (by simp; omega) ?_; intro v2 w2 hown2 hgrow hat)
        go_roundw
        case rel => exact ⟨k + 1, by omega, by go_num, by rw [HT.out]; simpa [sv] using hown2, (hB1.alloc hzB _).grown hgrow (by simp; omega) (fun q hq => (hl q hq).1)⟩
        case measure => simp [intOf]; omega
      · obtain rfl : k = l.length := by omega
        rw [List.take_length] at hown
        have HO := Lib.hid hown
        clear hown h
        go_wp2
        go_ret
        exact ⟨_, rfl, HO.out, hbel⟩
end Go.Proofs.YtabgibmdkfebhaaDoor
