/-
  laws.FnExactUnder returns true for every two strings, by the contracts of spec.Under and impl.Under.
-/
import Derived.Test.YtabgibmdkfebhaaAddLaw
import Derived.Test.YtabgibmdkfebhaaShelfA
namespace Go.Proofs.Ytabgibmdkfebhaa
open Go.ChangeShapes Go.WideShapes Go.ChangeAt Go.RowKit

theorem own_mono {w : World} {base base' : Nat} {e : TypeId} {size : Nat} {v : Value} {n : Nat} {xs : List Value} (h : w.ownsRow base e size v n xs) (hb : base' ≤ base) : w.ownsRow base' e size v n xs := by
  refine ⟨h.1, ?_⟩
  rcases h.2 with h | ⟨g, cap, cur, h1, h2, h3⟩
  · exact .inl h
  · exact .inr ⟨g, cap, cur, h1, Nat.le_trans hb h2, h3⟩
theorem cutF_append (y : UInt8) (p t : List UInt8) : ∀ q, cutF y q (p ++ y :: t) = cutF y q p ++ cutF y [] t := by
  induction p with
  | nil => intro q; simp [cutF]
  | cons c p ih =>
    intro q
    rw [List.cons_append, cutF, cutF]
    split
    · rw [ih]; simp
    · rw [ih]
def jn (ps : List (List UInt8)) : List UInt8 := (ps.map (· ++ [46])).flatten
theorem jn_cut (l : List UInt8) : ∀ q, jn (cutF 46 q l) = q ++ l ++ [46] := by
  induction l with
  | nil => intro q; simp [cutF, jn]
  | cons c l ih =>
    intro q
    rw [cutF]
    split
    · rename_i h
      have := ih []
      simp only [jn] at this
      simp [jn, this, h]
    · rw [ih]; simp
theorem prefix_cut (p n : List UInt8) : (p ++ [46]).isPrefixOf (n ++ [46]) = (cutL p).isPrefixOf (cutL n) := by
  rw [Bool.eq_iff_iff, List.isPrefixOf_iff_prefix, List.isPrefixOf_iff_prefix]
  constructor
  · rintro ⟨t, e⟩
    rcases List.eq_nil_or_concat t with rfl | ⟨t', c, rfl⟩
    · rw [List.append_nil] at e
      have : p = n := by simpa using e
      subst this
      exact List.prefix_refl _
    · rw [List.concat_eq_append] at e
      have e2 : (p ++ [46] ++ t') ++ [c] = n ++ [46] := by rw [← e]; simp
      obtain ⟨e3, _⟩ := List.append_inj' e2 rfl
      subst e3
      refine ⟨cutF 46 [] t', ?_⟩
      simp only [cutL, List.append_assoc, List.cons_append, List.nil_append]
      rw [cutF_append]
  · rintro ⟨t, e⟩
    have h1 := jn_cut p []
    have h2 := jn_cut n []
    simp only [cutL] at e
    rw [← e] at h2
    refine ⟨jn t, ?_⟩
    simp only [List.nil_append] at h1 h2
    rw [← h1, ← h2]
    simp [jn]
def nparts (l : List UInt8) : List (List UInt8) := if nameOk l = true then cutL l else []
def under (p n : List UInt8) : Bool := nameOk p && nameOk n && (cutL p).isPrefixOf (cutL n)
theorem under_long {p n : List UInt8} (h : (cutL n).length < (cutL p).length) : under p n = false := by
  rw [Bool.eq_false_iff]
  intro h2
  simp only [under, Bool.and_eq_true, List.isPrefixOf_iff_prefix] at h2
  have := h2.2.length_le
  omega
theorem under_part {p n : List UInt8} {k : Nat} (h1 : k < (cutL p).length) (h2 : k < (cutL n).length) (hne : (cutL p)[k] ≠ (cutL n)[k]) : under p n = false := by
  rw [Bool.eq_false_iff]
  intro h
  simp only [under, Bool.and_eq_true, List.isPrefixOf_iff_prefix] at h
  obtain ⟨t, e⟩ := h.2
  apply hne
  have e' := e.symm
  simp only [e']
  rw [List.getElem_append_left h1]
theorem under_done {p n : List UInt8} (hp : nameOk p = true) (hn : nameOk n = true) (h : (cutL p).take (cutL p).length = (cutL n).take (cutL p).length) : under p n = true := by
  simp only [under, hp, hn, Bool.true_and, List.isPrefixOf_iff_prefix]
  rw [List.take_length] at h
  rw [h]
  exact List.take_prefix _ _
theorem take_succ_eq {a b : List (List UInt8)} {k : Nat} (h1 : k < a.length) (h2 : k < b.length) (h : a.take k = b.take k) (he : a[k] = b[k]) : a.take (k + 1) = b.take (k + 1) := by
  rw [List.take_succ_eq_append_getElem h1, List.take_succ_eq_append_getElem h2, h, he]

theorem specNameParts (s : ByteArray) (w : World) (hs : s.size ≤ maxLen) : Calls Try.prog 28 #[.string s] w (LRes (nparts s.data.toList) w) := by
  have f1 := Lib.hid fun W => specNameOk s W hs
  by_cases h1 : nameOk s.data.toList = true
  · have hz : s.size ≤ 40 := nameOk_le h1
    have f2 := Lib.hid fun W => specCut46 s W (by omega)
    have HR := Lib.hid (show nparts s.data.toList = _ from if_pos h1)
    rw [h1] at f1
    clear h1
    go_enter Try.func28, Try.ntmps28
    go_wp2_with fail
    (with_reducible refine (f1.out _).mono ?_); rintro e w1 ⟨rfl, hb1⟩
    go_wp2_with fail
    (with_reducible refine (f2.out _).mono ?_); rintro e w2 ⟨v2, rfl, ho2, hb2⟩
    go_wp2
    go_ret
    rw [HR.out]
    exact ⟨_, rfl, own_mono ho2 hb1.size, hb1.trans (hb2.mono hb1.size)⟩
  · have HR := Lib.hid (show nparts s.data.toList = _ from if_neg h1)
    rw [Bool.not_eq_true] at h1
    rw [h1] at f1
    clear h1
    go_enter Try.func28, Try.ntmps28
    go_wp2_with fail
    (with_reducible refine (f1.out _).mono ?_); rintro e w1 ⟨rfl, hb1⟩
    go_wp2
    go_ret
    rw [HR.out]
    exact ⟨_, rfl, World.ownsRow_lit w1 #[] 0 hb1.size (by decide) (by simp), hb1.alloc hb1.size _⟩

set_option maxHeartbeats 1000000 in
theorem specUnder (s t : ByteArray) (w : World) (hs : s.size ≤ maxLen) (ht : t.size ≤ maxLen) :
    Calls Try.prog 11 #[.string s, .string t] w fun e w' => e = .returned (.bool (under s.data.toList t.data.toList)) ∧ Below w.heap.size w w' := by
  have f1 := Lib.hid fun W => specNameParts s W hs
  have f2 := Lib.hid fun W => specNameParts t W ht
  by_cases h1 : nameOk s.data.toList = true
  · have l1 : nparts s.data.toList = cutL s.data.toList := if_pos h1
    rw [l1] at f1
    have p1 : 0 < (cutL s.data.toList).length := cutF_pos _ _ _
    have q1 : (cutL s.data.toList).length ≤ s.size + 1 := cutF_len _ _ _
    have r1 : s.size ≤ 40 := nameOk_le h1
    by_cases h2 : nameOk t.data.toList = true
    · have l2 : nparts t.data.toList = cutL t.data.toList := if_pos h2
      rw [l2] at f2
      have p2 : 0 < (cutL t.data.toList).length := cutF_pos _ _ _
      have q2 : (cutL t.data.toList).length ≤ t.size + 1 := cutF_len _ _ _
      have r2 : t.size ≤ 40 := nameOk_le h2
      have hL := Lib.hid fun h => under_long (p := s.data.toList) (n := t.data.toList) h
      have hP := Lib.hid fun k h h' hb => under_part (p := s.data.toList) (n := t.data.toList) (k := k) h h' hb
      have hD := Lib.hid fun h => under_done (p := s.data.toList) (n := t.data.toList) h1 h2 h
      clear h1 h2 l1 l2
      generalize cutL s.data.toList = a at f1 p1 q1 hL hP hD
      generalize cutL t.data.toList = b at f2 p2 q2 hL hP hD
      generalize under s.data.toList t.data.toList = u at hL hP hD
      go_enter Try.func11, Try.ntmps11
      go_wp2_with fail
      (with_reducible refine (f1.out _).mono ?_); rintro e w1 ⟨v1, rfl, ho1, hb1⟩
      go_wp2_with fail
      (with_reducible refine (f2.out _).mono ?_); rintro e w2 ⟨v2, rfl, ho2, hb2⟩
      have ho1' := own_below ho1 hb2
      have hB := hb1.trans (hb2.mono hb1.size)
      clear ho1
      obtain ⟨g1, c1, rfl, _, _⟩ := ho1'.form p1
      obtain ⟨g2, c2, rfl, _, _⟩ := ho2.form p2
      have e0 : ((a.length : Int) == 0) = false := by rw [beq_eq_false_iff_ne]; omega
      by_cases h5 : b.length < a.length
      · have HM := Lib.hid (hL.out h5)
        clear ho1' ho2
        go_wp2
        go_ret
        rw [HM.out]
        exact ⟨rfl, hB⟩
      · have e1 : decide ((b.length : Int) < (a.length : Int)) = false := by rw [decide_eq_false_iff_not]; omega
        go_wp2
        go_loopw [7] (fun i wr => ∃ k q : Nat, k ≤ a.length ∧ i = .int .i64 k ∧ wr = w2.drewN q ∧ Hid (a.take k = b.take k)) (fun i _ => a.length - (intOf i).toNat)
        case atStart => exact ⟨0, 0, Nat.zero_le _, rfl, rfl, by simp [Hid]⟩
        case round =>
          obtain ⟨k, q, hk, rfl, rfl, HA⟩ := hrel
          by_cases hlt : k < a.length
          · have cc1 := ho1'.cellAt k (by omega)
            have cc2 := ho2.cellAt k (by omega)
            have ex1 : (a.map sv)[k]? = some (sv a[k]) := by simp [hlt]
            have hlt2 : k < b.length := by omega
            have ex2 : (b.map sv)[k]? = some (sv b[k]) := by simp [hlt2]
            rw [ex1] at cc1
            rw [ex2] at cc2
            unfold sv at cc1 cc2
            have z1 : (0 : Int) ≤ (k : Int) := by omega
            have z2 : (k : Int) < (a.length : Int) := by omega
            have z3 : (k : Int) < (b.length : Int) := by omega
            by_cases hE : a[k] = b[k]
            · have HR := Lib.hid (take_succ_eq hlt hlt2 HA.out hE)
              rw [hE] at cc1
              clear ex1 ex2 HA hE
              generalize b[k] = x at cc1 cc2
              go_wp2
              go_quiet (fail)
              go_wp2
              go_roundw
              case rel => exact ⟨k + 1, q + nq, by omega, by go_num, rfl, HR.out⟩
              case measure => simp [intOf]; omega
            · have HR := Lib.hid (hP.out k hlt hlt2 hE)
              clear ex1 ex2 HA
              generalize a[k] = x at cc1 hE
              generalize b[k] = y at cc2 hE
              have hE2 : (x == y) = false := by rw [beq_eq_false_iff_ne]; exact hE
              go_wp2
              go_quiet (fail)
              go_wp2
              go_ret
              rw [HR.out]
              exact ⟨rfl, below_drewN (below_drewN hB _) _⟩
          · obtain rfl : k = a.length := by omega
            have HR := Lib.hid (hD.out HA.out)
            clear HA
            go_wp2
            go_ret
            rw [HR.out]
            exact ⟨rfl, below_drewN hB _⟩
    · have l2 : nparts t.data.toList = [] := if_neg h2
      rw [l2] at f2
      have HR := Lib.hid (show under s.data.toList t.data.toList = false by simp [under, h2])
      clear h1 h2 l1 l2
      generalize cutL s.data.toList = a at f1 p1 q1
      go_enter Try.func11, Try.ntmps11
      go_wp2_with fail
      (with_reducible refine (f1.out _).mono ?_); rintro e w1 ⟨v1, rfl, ho1, hb1⟩
      go_wp2_with fail
      (with_reducible refine (f2.out _).mono ?_); rintro e w2 ⟨v2, rfl, ho2, hb2⟩
      have hB := hb1.trans (hb2.mono hb1.size)
      obtain ⟨g1, c1, rfl, _, _⟩ := ho1.form p1
      have e0 : ((a.length : Int) == 0) = false := by rw [beq_eq_false_iff_ne]; omega
      rcases ho2.2 with ⟨rfl, _⟩ | ⟨g, cap, cur, rfl, _⟩
      all_goals
        clear ho1 ho2
        go_wp2
        go_ret
        rw [HR.out]
        exact ⟨rfl, hB⟩
  · have l1 : nparts s.data.toList = [] := if_neg h1
    rw [l1] at f1
    have HR := Lib.hid (show under s.data.toList t.data.toList = false by simp [under, h1])
    clear h1 l1
    generalize nparts t.data.toList = b at f2
    go_enter Try.func11, Try.ntmps11
    go_wp2_with fail
    (with_reducible refine (f1.out _).mono ?_); rintro e w1 ⟨v1, rfl, ho1, hb1⟩
    go_wp2_with fail
    (with_reducible refine (f2.out _).mono ?_); rintro e w2 ⟨v2, rfl, ho2, hb2⟩
    have hB := hb1.trans (hb2.mono hb1.size)
    rcases ho1.2 with ⟨rfl, _⟩ | ⟨g, cap, cur, rfl, _⟩ <;> rcases ho2.2 with ⟨rfl, _⟩ | ⟨g2, cap2, cur2, rfl, _⟩
    all_goals
      clear ho1 ho2
      go_wp2
      go_ret
      rw [HR.out]
      exact ⟨rfl, hB⟩

set_option maxHeartbeats 1000000 in
theorem implUnder (s t : ByteArray) (w : World) (hs : s.size ≤ maxLen) (ht : t.size ≤ maxLen) :
    Calls Try.prog 12 #[.string s, .string t] w fun e w' => e = .returned (.bool (under s.data.toList t.data.toList)) ∧ Below w.heap.size w w' := by
  have f1 := Lib.hid fun W => implNameOk s W hs
  have f2 := Lib.hid fun W => implNameOk t W ht
  by_cases h1 : nameOk s.data.toList = true
  · rw [h1] at f1
    by_cases h2 : nameOk t.data.toList = true
    · rw [h2] at f2
      have r1 : s.size ≤ 40 := nameOk_le h1
      have r2 : t.size ≤ 40 := nameOk_le h2
      have f3 := Lib.hid fun W => Try.strings_HasPrefix (t ++ (⟨#[46]⟩ : ByteArray)) (s ++ (⟨#[46]⟩ : ByteArray)) W
      have hx : Lib.hasPrefix (t ++ (⟨#[46]⟩ : ByteArray)).data.toList (s ++ (⟨#[46]⟩ : ByteArray)).data.toList = under s.data.toList t.data.toList := by
        rw [Lib.hasPrefix, ByteArray.data_append, ByteArray.data_append, Array.toList_append, Array.toList_append]
        show ((s.data.toList ++ [46]).isPrefixOf (t.data.toList ++ [46])) = _
        rw [prefix_cut, under, h1, h2]
        rfl
      rw [hx] at f3
      have hz1 : (s ++ (⟨#[46]⟩ : ByteArray)).size = s.size + 1 := by rw [ByteArray.size_append]; rfl
      have hz2 : (t ++ (⟨#[46]⟩ : ByteArray)).size = t.size + 1 := by rw [ByteArray.size_append]; rfl
      clear h1 h2 hx
      generalize under s.data.toList t.data.toList = u at f3
      go_enter Try.func12, Try.ntmps12
      go_wp2_with fail
      (with_reducible refine (f1.out _).mono ?_); rintro e w1 ⟨rfl, hb1⟩
      go_wp2_with fail
      (with_reducible refine (f2.out _).mono ?_); rintro e w2 ⟨rfl, hb2⟩
      go_wp2_with fail
      (with_reducible refine (f3.out _).mono ?_); rintro e w3 ⟨rfl, rfl⟩
      go_wp2
      go_ret
      exact ⟨rfl, hb1.trans (hb2.mono hb1.size)⟩
    · have HR := Lib.hid (show under s.data.toList t.data.toList = false by simp [under, h2])
      rw [Bool.not_eq_true] at h2
      rw [h2] at f2
      clear h1 h2
      go_enter Try.func12, Try.ntmps12
      go_wp2_with fail
      (with_reducible refine (f1.out _).mono ?_); rintro e w1 ⟨rfl, hb1⟩
      go_wp2_with fail
      (with_reducible refine (f2.out _).mono ?_); rintro e w2 ⟨rfl, hb2⟩
      go_wp2
      go_ret
      rw [HR.out]
      exact ⟨rfl, hb1.trans (hb2.mono hb1.size)⟩
  · have HR := Lib.hid (show under s.data.toList t.data.toList = false by simp [under, h1])
    rw [Bool.not_eq_true] at h1
    rw [h1] at f1
    clear h1
    go_enter Try.func12, Try.ntmps12
    go_wp2_with fail
    (with_reducible refine (f1.out _).mono ?_); rintro e w1 ⟨rfl, hb1⟩
    go_wp2
    go_ret
    rw [HR.out]
    exact ⟨rfl, hb1⟩

theorem lawUnder (s t : ByteArray) (w : World) (hs : s.size ≤ maxLen) (ht : t.size ≤ maxLen) :
    Calls Try.prog 4 #[.string s, .string t] w fun e w' => e = .returned (.bool true) ∧ Below w.heap.size w w' := by
  have f1 := Lib.hid fun W => specUnder s t W hs ht
  have f2 := Lib.hid fun W => implUnder s t W hs ht
  generalize under s.data.toList t.data.toList = b at f1 f2
  unfold maxLen at hs ht
  by_cases h1 : 1048576 < s.size
  · go_enter Try.func4, Try.ntmps4
    go_wp2
    go_ret
    exact ⟨rfl, Below.refl _ _⟩
  · by_cases h2 : 1048576 < t.size
    · go_enter Try.func4, Try.ntmps4
      go_wp2
      go_ret
      exact ⟨rfl, Below.refl _ _⟩
    · go_enter Try.func4, Try.ntmps4
      go_wp2_with fail
      (with_reducible refine (f1.out _).mono ?_); rintro e w1 ⟨rfl, hb1⟩
      go_wp2_with fail
      (with_reducible refine (f2.out _).mono ?_); rintro e w2 ⟨rfl, hb2⟩
      cases b
      all_goals
        go_wp2
        go_ret
        exact ⟨rfl, hb1.trans (hb2.mono hb1.size)⟩
end Go.Proofs.Ytabgibmdkfebhaa
