/-
  Contracts of slices.Grow at nil, slices.Concat at two lists of strings, impl.clones and spec.NamesBoth.
-/
import Derived.Test.YtlaoioicefohiaaSWalks
import Derived.Test.YtlaoioicefohiaaLists
import Derived.Test.YtlaoioicefohiaaNWalks2
import Derived.Test.YtlaoioicefohiaaShelfA
import Derived.Test.YtlaoioicefohiaaShelfS
import Derived.Laws.AppendOwnNone
import Derived.Sort.OwnSorted
import Derived.Lib.OwnBridge
namespace Go.Proofs.Ytlaoioicefohiaa
set_option maxRecDepth 100000
open Go.ChangeShapes Go.WideShapes Go.ChangeAt Go.RowKit

theorem own_nil_or {w : World} {b n : Nat} {v : Value} {xs : List Value} (h : w.ownsRow b 9 1 v n xs) (h0 : n = 0) : ∃ a cap, v = .slice a 0 cap := by
  subst h0
  rcases h.2 with ⟨rfl, _⟩ | ⟨g, cap, cur, rfl, _⟩
  · exact ⟨_, _, rfl⟩
  · exact ⟨_, _, rfl⟩
theorem one_map' (l : List BL) : ∀ u ∈ l.map sv, u.oneCell' = true := by
  intro u hu
  obtain ⟨x, _, rfl⟩ := List.mem_map.1 hu
  rfl
theorem own_slice {w : World} {b n : Nat} {v : Value} {xs : List Value} (h : w.ownsRow b 9 1 v n xs) : ∃ a cap, v = .slice a n cap := by
  rcases h.2 with ⟨rfl, rfl⟩ | ⟨g, cap, cur, rfl, _⟩
  · exact ⟨_, _, rfl⟩
  · exact ⟨_, _, rfl⟩
/-- append of an owned row of strings, nil or not, onto an owned row. -/
theorem append_rows {w : World} {ops : Array Oper} {rest : List Oper} {o : Oper} {a : Act} {Q : Exit → Act → World → Prop} (hgd : o.guard = none) (s x : Operand)
    (ho : o.op = .call { callee := .builtin .append, args := #[s, x], argTypes := #[22, 22] })
    (base : Nat) (v : Value) (n : Nat) (xs : List Value) (hs : a.eval s = v) (hown : w.ownsRow base 9 1 v n xs)
    (bx : Nat) (vx : Value) (l : List BL) (hx : a.eval x = vx) (hrow : w.ownsRow bx 9 1 vx l.length (l.map sv))
    (h63 : n + l.length ≤ 100000000) (hbase : base ≤ w.heap.size)
    (h : ∀ v' w', w'.ownsRow base 9 1 v' (n + l.length) (xs ++ l.map sv) → w.grownBy w' v.ownBlock → (v' = .slice none 0 0 → v = .slice none 0 0) → wpList Try.prog ops Q rest (a.put o.dst v') w') : wpList Try.prog ops Q (o :: rest) a w := by
  obtain ⟨i0, hi, hz0, hz1, hz2⟩ := info_parts infoStr
  rcases hrow.2 with ⟨rfl, h0⟩ | ⟨g, cap, cur, rfl, _⟩
  · have hl : l = [] := List.length_eq_zero_iff.1 h0
    subst hl
    refine wpList_append_own_none hgd s x 22 ho base 9 i0 1 Try.underlying22 hi v n xs hs hown hx ?_
    exact h v w (by simpa using hown) (World.grownBy.refl _ _) id
  · refine wpList_append_own w hgd s x 22 ho base 9 i0 _ 1 16 Try.underlying22 hi hz0 hz1 hz2 rfl (by decide) v n xs hs hown ⟨g, 0, none⟩ l.length cap (l.map sv) hx (by simp) (hrow.cells rfl) (one_map' l) (by unfold maxLen; omega) (by omega) hbase ?_
    intro v' w' h1 h2 h3
    exact h v' w' h1 h2 fun e => (h3.1 e).1

theorem growNil (n : Nat) (w : World) (hn : n ≤ 10000000) :
    Calls Try.prog 74 #[.slice none 0 0, .int .i64 (n : Int)] w fun e w' => ∃ v, e = .returned v ∧ w'.ownsRow w.heap.size 9 1 v 0 [] ∧ Below w.heap.size w w' := by
  rcases Nat.eq_zero_or_pos n with rfl | hp
  · refine (Any8.slices_Grow_room Try.lays8n4S none 0 0 0 w (Nat.le_refl _) (by decide) (by decide) (by decide)).mono ?_
    rintro e w' ⟨rfl, rfl⟩
    exact ⟨_, rfl, World.ownsRow_nil _ _ _ _, Below.refl _ _⟩
  · obtain ⟨i0, hi, hz0, hz1, hz2⟩ := info_parts infoStr
    refine (Any8.slices_Grow_grow Try.lays8n4S i0 (.string ⟨#[]⟩) hi hz0 (by omega) none 0 0 n [] w (Nat.le_refl _) (by omega) (by rw [hz2]; omega) (by omega) (by simp) (fun _ => rfl) (fun a h => by cases h)).mono ?_
    rintro e w' ⟨rfl, rfl⟩
    refine ⟨_, rfl, ?_, ?_⟩
    · have hge := grownCap_ge w (0 + n) 0 9
      have hge2 := grownCap_ge w n 0 9
      have hle := grownCap_le_maxLen w (0 + n) 0 9 (by unfold maxLen; omega)
      have := World.ownsRow_made (base := w.heap.size) (e := 9) (size := 1) w.drew (([] : List Value).toArray ++ Builtin.zeroCells (Value.string ⟨#[]⟩).cells (0 + n - 0) ++ Builtin.zeroCells (Value.string ⟨#[]⟩).cells (grownCap w (0 + n) 0 9 - (0 + n))) (grownCap w (0 + n) 0 9) (Nat.le_refl _) hle (by simp [Builtin.zeroCells, Value.cells]; omega)
      exact this
    · exact ((Below.refl w.heap.size w).drew).alloc (Nat.le_refl _) _

theorem cloneS (s : ByteArray) (w : World) (hs : s.size ≤ 281474976710656) :
    Calls Try.prog 53 #[.string s] w fun e w' => e = .returned (.string s) ∧ Below w.heap.size w w' := by
  have f1 := Lib.hid fun W => Try.stringslite_Clone s W hs
  go_enter Try.func53, Try.ntmps53
  go_wp2_with fail
  (with_reducible refine (f1.out _).mono ?_); rintro e w1 ⟨rfl, hb1⟩
  go_wp2
  go_ret
  exact ⟨rfl, hb1⟩

set_option maxHeartbeats 1000000 in
theorem clones {w : World} {b : Nat} {v : Value} {l : List (List UInt8)} (h : w.ownsRow b 9 1 v l.length (l.map sv)) (hn : l.length ≤ 10000000) (hx : ∀ x ∈ l, x.length ≤ 281474976710656) :
    Calls Try.prog 41 #[v] w (LRes l w) := by
  obtain ⟨i0, hi, hz0, hz1, hz2⟩ := info_parts infoStr
  rcases Nat.eq_zero_or_pos l.length with h0 | hp
  · obtain rfl : l = [] := List.length_eq_zero_iff.1 h0
    obtain ⟨a, cap, rfl⟩ : ∃ a cap, v = .slice a 0 cap := by
      rcases h.2 with ⟨rfl, _⟩ | ⟨g, cap, cur, rfl, _⟩
      · exact ⟨_, _, rfl⟩
      · exact ⟨_, _, rfl⟩
    clear h h0 hn hx
    go_enter Try.func41, Try.ntmps41
    go_wp2_with (at_make; refine wpList_make_own _ rfl _ _ 22 rfl w.heap.size 9 i0 (.string ⟨#[]⟩) 1 Try.underlying22 hi hz0 hz1 _ _ _ 0 rfl rfl (by omega) (by rw [hz2]; omega) (by unfold maxLen; omega) (Nat.le_refl _) ?_; intro w0 hown0 hgrow0)
    have hbel0 : Below w.heap.size w w0 := (Below.refl _ _).grown hgrow0 (Nat.le_refl _) (by simp)
    refine wp_loop_rounds 1 ?_
    rw [rounds_succ]
    go_wp2
    go_ret
    exact ⟨_, rfl, hown0, hbel0⟩
  · obtain ⟨g, cap, rfl, _, hgl⟩ := h.form hp
    go_enter Try.func41, Try.ntmps41
    go_wp2_with (at_make; refine wpList_make_own _ rfl _ _ 22 rfl w.heap.size 9 i0 (.string ⟨#[]⟩) 1 Try.underlying22 hi hz0 hz1 _ _ _ l.length rfl rfl (by omega) (by rw [hz2]; omega) (by unfold maxLen; omega) (Nat.le_refl _) ?_; intro w0 hown0 hgrow0)
    have hbel0 : Below w.heap.size w w0 := (Below.refl _ _).grown hgrow0 (Nat.le_refl _) (by simp)
    go_loopw [3, 11] (fun vo i wr => ∃ k : Nat, k ≤ l.length ∧ i = .int .i64 k ∧ wr.ownsRow w.heap.size 9 1 vo k ((l.take k).map sv) ∧ Below w.heap.size w wr) (fun _ i _ => l.length - (intOf i).toNat)
    case atStart => exact ⟨0, Nat.zero_le _, rfl, by simpa using hown0, hbel0⟩
    case round =>
      obtain ⟨k, hk, rfl, hown, hbel⟩ := hrel
      clear hown0 hgrow0 hbel0
      have hz := hbel.size
      by_cases hlt : k < l.length
      · have cc := h.cellAt k (by omega)
        have ex : (l.map sv)[k]? = some (sv l[k]) := by simp [hlt]
        rw [ex] at cc
        unfold sv at cc
        have cr := (hbel.cell (p := ⟨g, k, none⟩) hgl).trans cc
        have HT := Lib.hid (List.take_succ_eq_append_getElem hlt)
        have f1 := Lib.hid fun W => cloneS ⟨l[k].toArray⟩ W (by simp only [ByteArray.size, List.size_toArray]; exact hx _ (List.getElem_mem hlt))
        have q1 : (0 : Int) ≤ (k : Int) := by omega
        have q2 : (k : Int) < (l.length : Int) := by omega
        clear ex cc
        generalize l[k] = x at cr f1 HT
        go_wp2_with fail
        (with_reducible refine (f1.out _).mono ?_); rintro e w1 ⟨rfl, hb1⟩
        have hown1 := own_below hown hb1
        have hB1 := hbel.trans (hb1.mono hz)
        have hzB := hB1.size
        have hl := hown1.lt
        go_wp2_with (at_builtin; refine wpList_append_own _ rfl _ _ 22 rfl w.heap.size 9 i0 _ 1 16 Try.underlying22 hi hz0 hz1 hz2 rfl (by decide) _ _ _ rfl (hown1.alloc _) ⟨w1.heap.size, 0, none⟩ 1 1 [.string ⟨x.toArray⟩] rfl rfl (oneNew _ _ _) (by simp [Value.oneCell']) (by simp only [maxLen]; omega) (by omega) (by simp; omega) ?_; intro v2 w2 hown2 hgrow hat)
        go_roundw
        case rel => exact ⟨k + 1, by omega, by go_num, by rw [HT.out]; simpa [sv] using hown2, (hB1.alloc hzB _).grown hgrow (by simp; omega) (fun q hq => (hl q hq).1)⟩
        case measure => simp [intOf]; omega
      · obtain rfl : k = l.length := by omega
        rw [List.take_length] at hown
        have HO := Lib.hid hown
        clear hown h
        go_wp2
        go_ret
        exact ⟨_, rfl, HO.out, hbel⟩

set_option maxHeartbeats 1000000 in
theorem concatTwo {w : World} {x b1 b2 : Nat} {v1 v2 : Value} {a b : List BL} (c0 : w.cell? ⟨x, 0, none⟩ = some v1) (c1 : w.cell? ⟨x, 1, none⟩ = some v2) (hx : x < w.heap.size)
    (h1 : w.ownsRow b1 9 1 v1 a.length (a.map sv)) (h2 : w.ownsRow b2 9 1 v2 b.length (b.map sv)) (ha : a.length ≤ 2000000) (hb : b.length ≤ 2000000) :
    Calls Try.prog 59 #[.slice (some ⟨x, 0, none⟩) 2 2] w (LRes (a ++ b) w) := by
  obtain ⟨a1, k1, rfl⟩ := own_slice h1
  obtain ⟨a2, k2, rfl⟩ := own_slice h2
  have f1 := Lib.hid fun W => growNil (a.length + b.length) W (by omega)
  have d1 : decide ((a.length : Int) < 0) = false := decide_eq_false (by omega)
  have d2 : decide ((a.length : Int) + (b.length : Int) < 0) = false := decide_eq_false (by omega)
  go_enter Try.func59, Try.ntmps59
  go_wp2
  refine wp_loop_rounds 3 ?_
  rw [rounds_succ]
  go_wp2
  rw [rounds_succ]
  go_wp2
  rw [rounds_succ]
  go_wp2_with fail
  (refine (f1.out _).mono ?_); rintro e w1 ⟨v, rfl, hv, hb1⟩
  have B1 : Below w.heap.size w w1 := hb1
  have c0' := (B1.cell (p := ⟨x, 0, none⟩) hx).trans c0
  have c1' := (B1.cell (p := ⟨x, 1, none⟩) hx).trans c1
  have r1 := own_below h1 B1
  have hl := hv.lt
  have hz := B1.size
  clear c0 c1 f1
  go_wp2
  refine wp_loop_rounds 3 ?_
  rw [rounds_succ]
  go_wp2_with (at_builtin; refine append_rows rfl _ _ rfl w.heap.size v 0 [] rfl hv b1 _ a rfl r1 (by omega) hz ?_; intro v3 w3 hv3 hg3 hnil3)
  have B3 : Below w.heap.size w w3 := B1.grown hg3 hz (fun q hq => (hl q hq).1)
  have c1'' := (B3.cell (p := ⟨x, 1, none⟩) hx).trans ((B1.cell (p := ⟨x, 1, none⟩) hx).symm.trans c1')
  have r2 := own_below h2 B3
  have hl3 := hv3.lt
  have hz3 := B3.size
  clear hv c0' c1' r1
  rw [rounds_succ]
  go_wp2_with (at_builtin; refine append_rows rfl _ _ rfl w.heap.size v3 _ _ rfl hv3 b2 _ b rfl r2 (by omega) hz3 ?_; intro v4 w4 hv4 hg4 hnil4)
  have B4 : Below w.heap.size w w4 := B3.grown hg4 hz3 (fun q hq => (hl3 q hq).1)
  rw [rounds_succ]
  go_wp2
  go_ret
  exact ⟨_, rfl, by simpa using hv4, B4⟩
theorem view_of_own {w : World} {b : Nat} {v : Value} {l : List BL} (h : w.ownsRow b 9 1 v l.length (l.map sv)) (hv : v ≠ .slice none 0 0) : View w v l := by
  rcases h.2 with ⟨e, _⟩ | ⟨g, cap, cur, rfl, hb, hg, hn, hm, hs, ht⟩
  · exact absurd e hv
  · have hlt : g < w.heap.size := (h.lt g rfl).2
    refine ⟨g, 0, cap, rfl, hn, hm, hlt, fun j hj => ?_⟩
    rw [Nat.zero_add, h.cellAt j (by omega)]
    simp [hj]

set_option maxHeartbeats 1000000 in
theorem specNamesBoth {w : World} {b1 b2 : Nat} {v1 v2 : Value} {a b : List BL} (h1 : w.ownsRow b1 9 1 v1 a.length (a.map sv)) (h2 : w.ownsRow b2 9 1 v2 b.length (b.map sv)) (hn : a.length + b.length ≤ 1048576) :
    Calls Try.prog 12 #[v1, v2] w (LRes (srt (a ++ b)) w) := by
  obtain ⟨a1, k1, rfl⟩ := own_slice h1
  obtain ⟨a2, k2, rfl⟩ := own_slice h2
  have h0 := World.ownsRow_lit (base := w.heap.size) (e := 9) (size := 1) w #[] 0 (Nat.le_refl _) (by decide) (by simp)
  have B0 : Below w.heap.size w (w.alloc (.cells #[] 9)) := (Below.refl _ _).alloc (Nat.le_refl _) _
  have r1 := own_below h1 B0
  go_enter Try.func12, Try.ntmps12
  go_wp2_with (first
    | (at_builtin; refine append_rows rfl _ _ rfl w.heap.size _ 0 _ rfl h0 b1 _ a rfl r1 (by omega) (by simp) ?_; intro v3 w3 hv3 hg3 hnil3
       have B3 : Below w.heap.size w w3 := B0.grown hg3 (by simp) (fun q hq => (h0.lt q hq).1)
       have r2 := own_below h2 B3
       have hl3 := hv3.lt
       have hz3 := B3.size)
    | (at_builtin; refine append_rows rfl _ _ rfl w.heap.size v3 _ _ rfl hv3 b2 _ b rfl r2 (by omega) hz3 ?_; intro v4 w4 hv4 hg4 hnil4))
  have B4 : Below w.heap.size w w4 := B3.grown hg4 hz3 (fun q hq => (hl3 q hq).1)
  have hn4 : v4 ≠ .slice none 0 0 := fun e => by have := hnil3 (hnil4 e); cases this
  have hv5 : w4.ownsRow w.heap.size 9 1 v4 (a ++ b).length ((a ++ b).map sv) := by simpa using hv4
  refine (specSorted _ (a ++ b) (Nat.le_refl _) (by simp; omega) w4 v4 (view_of_own hv5 hn4)).mono ?_
  rintro e w5 ⟨v5, rfl, ho5, hb5⟩
  have hz4 := B4.size
  go_wp2
  go_ret
  exact ⟨_, rfl, own_mono' ho5 hz4, B4.trans (hb5.mono hz4)⟩

end Go.Proofs.Ytlaoioicefohiaa
