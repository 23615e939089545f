/-
  A row of strings appended to a row of strings, either of them nil or not; spec.l02Sorted at such a row; what UsesOf answers.
  The contract of laws.eqStringS.
  Contracts of the laws' helpers over lists of strings: laws.markStringS, heldStringS.
  The laws of NamesOf and UsesOf from the contracts of the model's and the program's functions (the program's handed in as hypotheses).
-/
import Derived.Test.YtgielbamebjjdaaGreatDoorG3
import Derived.Test.YtgielbamebjjdaaGreatDoorE1
import Derived.Test.YtgielbamebjjdaaGreatDoorBase
import Derived.Test.YtgielbamebjjdaaGreatDoorJS
import Derived.Test.YtgielbamebjjdaaGreatDoorK1
import Derived.Test.YtgielbamebjjdaaGreatDoorJ0
import Derived.Test.YtgielbamebjjdaaGreatDoorG2
namespace Go.Proofs.YtgielbamebjjdaaGreatDoor
set_option maxRecDepth 100000
open Go.ChangeShapes Go.WideShapes Go.ChangeAt Go.RowKit
set_option linter.unusedSimpArgs false
set_option linter.unusedVariables false

/-- All names that a declaration's texts use, in their order. -/
noncomputable def usesAll (d : Dc) (k : Nat) : List (List UInt8) := usesIn d.type ++ usesIn d.value ++ (d.ctors.take k).flatMap fun c => usesIn c.2
noncomputable def usesOf (d : Dc) : List (List UInt8) := if declOk d = true then (srt (usesAll d d.ctors.length)).filter fun x => decide (d.kind ≠ 4 ∨ x ≠ d.name) else []
theorem usesAll_len (d : Dc) (k : Nat) : (usesAll d k).length ≤ 4000 + 2000 * k := by
  have h1 := usesIn_len d.type
  have h2 := usesIn_len d.value
  have h3 : ∀ l : List Ct, (l.flatMap fun c => usesIn c.2).length ≤ 2000 * l.length := by
    intro l
    induction l with
    | nil => simp
    | cons c l ih =>
      have := usesIn_len c.2
      rw [List.flatMap_cons, List.length_append, List.length_cons]
      omega
  have h4 := h3 (d.ctors.take k)
  have h5 : (d.ctors.take k).length ≤ k := by rw [List.length_take]; omega
  unfold usesAll
  rw [List.length_append, List.length_append]
  omega
theorem usesAll_succ {d : Dc} {k : Nat} (h : k < d.ctors.length) : usesAll d (k + 1) = usesAll d k ++ usesIn d.ctors[k].2 := by
  unfold usesAll
  rw [List.take_succ_eq_append_getElem h, List.flatMap_append, ← List.append_assoc]
  simp
theorem declOk_ctors {d : Dc} (h : declOk d = true) : d.ctors.length ≤ 6 := by
  simp only [declOk, Bool.and_eq_true, decide_eq_true_eq] at h
  have hk := h.2.2.2.2
  unfold declKindOk at hk
  split at hk
  · simp only [Bool.and_eq_true, decide_eq_true_eq] at hk
    omega
  · split at hk
    · simp only [Bool.and_eq_true, decide_eq_true_eq] at hk
      omega
    · split at hk
      · simp only [dataOk, Bool.and_eq_true, decide_eq_true_eq] at hk
        exact hk.2.2.2.2.1
      · cases hk

theorem wp_append_rows {w : World} {o : Oper} {a : Act} {K : Act → World → Prop} {Q : Exit → Act → World → Prop} (s x : Operand)
    (ho : o.op = .call { callee := .builtin .append, args := #[s, x], argTypes := #[25, 25] }) {base b2 : Nat} {v1 v2 : Value} {l1 l2 : List (List UInt8)}
    (hs : a.eval s = v1) (hx : a.eval x = v2) (h1 : w.ownsRow base 9 1 v1 l1.length (l1.map sv)) (h2 : w.ownsRow b2 9 1 v2 l2.length (l2.map sv)) (hn : l1.length + l2.length ≤ 1000000) (hb : base ≤ w.heap.size)
    (h : ∀ v' w', w'.ownsRow base 9 1 v' (l1 ++ l2).length ((l1 ++ l2).map sv) → Below base w w' → K (a.put o.dst v') w') : o.wp Tryz.prog a w K Q := by
  obtain ⟨i0, hi, iz0, iz1, iz2⟩ := info_parts infoStr'
  rcases id h2.2 with ⟨e, e0⟩ | ⟨g, cap, cur, e, hbg, hg, hnc, hm, hsz, ht⟩
  · have e2 : l2 = [] := List.length_eq_zero_iff.1 e0
    subst e2
    have hK : K (a.put o.dst v1) w := h _ _ (by simpa using h1) (Below.refl _ _)
    have hrun := run_append_owned_none (P := Tryz.prog) (w := w) base 25 o.type 9 i0 1 Tryz.underlying25 hi v1 _ _ h1
    have hx' := hx.trans e
    clear h h1 h2
    unfold Oper.wp
    simp [execOp, ho, resolve, invoke, builtin, hs, hx', hrun, Result.andThen]
    exact hK
  · refine wp_append_own w s x _ ho base 9 i0 _ 1 16 Tryz.underlying25 hi iz0 iz1 iz2 rfl (by decide) v1 _ _ hs h1 ⟨g, 0, none⟩ l2.length cap (l2.map sv) (hx.trans e) (by simp) ?_ (one_map l2) (by simp only [maxLen]; omega) (by omega) hb ?_
    · intro j u hu
      obtain ⟨hj, rfl⟩ := List.getElem?_eq_some_iff.1 hu
      have hj2 : j < l2.length := by simpa using hj
      subst e
      rw [add_plain, Nat.zero_add, h2.cellAt j (by omega)]
      simp [hj2]
    · intro v' w' h3 h4 _
      refine h v' w' ?_ ((Below.refl base w).grown h4 hb (fun q hq => (h1.lt q hq).1))
      rw [List.length_append, List.map_append]
      exact h3
theorem append_rows {w : World} {ops : Array Oper} {rest : List Oper} {o : Oper} {a : Act} {Q : Exit → Act → World → Prop} (hgd : o.guard = none) (s x : Operand)
    (ho : o.op = .call { callee := .builtin .append, args := #[s, x], argTypes := #[25, 25] }) {base b2 : Nat} {v1 v2 : Value} {l1 l2 : List (List UInt8)}
    (hs : a.eval s = v1) (hx : a.eval x = v2) (h1 : w.ownsRow base 9 1 v1 l1.length (l1.map sv)) (h2 : w.ownsRow b2 9 1 v2 l2.length (l2.map sv)) (hn : l1.length + l2.length ≤ 1000000) (hb : base ≤ w.heap.size)
    (h : ∀ v' w', w'.ownsRow base 9 1 v' (l1 ++ l2).length ((l1 ++ l2).map sv) → Below base w w' → wpList Tryz.prog ops Q rest (a.put o.dst v') w') : wpList Tryz.prog ops Q (o :: rest) a w :=
  wpList_plain hgd fun _ hK => wp_append_rows s x ho hs hx h1 h2 hn hb fun v' w' h3 h4 => hK _ _ (h v' w' h3 h4)
theorem step_append_rows {w : World} {ops : Array Oper} {o : Oper} {a : Act} {K : Act → World → Prop} {Q : Exit → Act → World → Prop} {E : Prop} (hgd : o.guard = none) (s x : Operand)
    (ho : o.op = .call { callee := .builtin .append, args := #[s, x], argTypes := #[25, 25] }) {base b2 : Nat} {v1 v2 : Value} {l1 l2 : List (List UInt8)}
    (hs : a.eval s = v1) (hx : a.eval x = v2) (h1 : w.ownsRow base 9 1 v1 l1.length (l1.map sv)) (h2 : w.ownsRow b2 9 1 v2 l2.length (l2.map sv)) (hn : l1.length + l2.length ≤ 1000000) (hb : base ≤ w.heap.size)
    (h : ∀ v' w', w'.ownsRow base 9 1 v' (l1 ++ l2).length ((l1 ++ l2).map sv) → Below base w w' → K (a.put o.dst v') w') : if Region.wanted o (yielded ops a.tmps) = true then Oper.wp Tryz.prog o a w K Q else E := by
  have hw : Region.wanted o (yielded ops a.tmps) = true := by simp [Region.wanted, hgd]
  rw [if_pos hw]
  exact wp_append_rows s x ho hs hx h1 h2 hn hb h

theorem specSortedR {w : World} {b : Nat} {v : Value} {l : List (List UInt8)} (h : w.ownsRow b 9 1 v l.length (l.map sv)) (hl : l.length ≤ 1000000) :
    Calls Tryz.prog 172 #[v] w (LRes' (srt l) w) := by
  by_cases hv : v = .slice none 0 0
  · subst hv
    have e0 : l = [] := by
      rcases id h.2 with ⟨_, e0⟩ | ⟨g, cap, cur, e, _⟩
      · exact List.length_eq_zero_iff.1 e0
      · cases e
    subst e0
    have HR : Hid (srt ([] : List (List UInt8)) = []) := srt_small (by decide)
    clear h hl
    go_enter Tryz.func172, Tryz.ntmps172
    obtain ⟨i0, hi, iz0, iz1, iz2⟩ := info_parts infoStr'
    go_wp2_with (at_builtin; refine wpList_append_own_none rfl _ _ 25 rfl w.heap.size 9 i0 1 Tryz.underlying25 hi _ 0 [] rfl (World.ownsRow_lit w #[] 0 (Nat.le_refl _) (by decide) (by simp)) rfl ?_)
    go_ret
    rw [HR.out]
    exact ⟨_, rfl, World.ownsRow_lit w #[] 0 (Nat.le_refl _) (by decide) (by simp), (Below.refl _ _).alloc (Nat.le_refl _) _⟩
  · exact specSorted l.length l (Nat.le_refl _) (by omega) w v (view_of_row h hv)
end Go.Proofs.YtgielbamebjjdaaGreatDoor

namespace Go.Proofs.YtgielbamebjjdaaGreatDoor
set_option maxRecDepth 100000
open Go.ChangeShapes Go.WideShapes Go.ChangeAt Go.RowKit

/-- Two owned rows of one list of strings are equal. -/
theorem eqStringS {w : World} {b1 b2 n : Nat} {v1 v2 : Value} {l : List (List UInt8)} (h1 : w.ownsRow b1 9 1 v1 n (l.map sv)) (h2 : w.ownsRow b2 9 1 v2 n (l.map sv)) (hn : n ≤ 1000000000) :
    Calls Tryz.prog 39 #[v1, v2] w fun e w' => e = .returned (.bool true) ∧ ∃ q, w' = w.drewN q := by
  have hl : l.length = n := by simpa using h1.1
  rcases Nat.eq_zero_or_pos n with h0 | hp
  · subst h0
    rcases h1.2 with ⟨rfl, _⟩ | ⟨g, cap, cur, rfl, _⟩ <;> rcases h2.2 with ⟨rfl, _⟩ | ⟨g2, cap2, cur2, rfl, _⟩
    all_goals
      clear h1 h2 hl hn
      go_enter Tryz.func39, Tryz.ntmps39
      go_wp2
      refine wp_loop_rounds 1 ?_
      rw [rounds_succ]
      go_wp2
      go_ret
      exact ⟨rfl, 0, rfl⟩
  · obtain ⟨g1, c1, rfl, _, _⟩ := h1.form hp
    obtain ⟨g2, c2, rfl, _, _⟩ := h2.form hp
    go_enter Tryz.func39, Tryz.ntmps39
    go_wp2
    go_loopw [5] (fun i wr => ∃ k q : Nat, k ≤ n ∧ i = .int .i64 k ∧ wr = w.drewN q) (fun i _ => n - (intOf i).toNat)
    case atStart => exact ⟨0, 0, Nat.zero_le _, rfl, rfl⟩
    case round =>
      obtain ⟨k, q, hk, rfl, rfl⟩ := hrel
      by_cases hlt : k < n
      · have e1 := h1.cellAt k (by omega)
        have e2 := h2.cellAt k (by omega)
        have ex : (l.map sv)[k]? = some (sv (l[k]'(by omega))) := by simp [show k < l.length by omega]
        rw [ex] at e1 e2
        generalize l[k]'(by omega) = x at e1 e2
        clear ex h1 h2
        unfold sv at e1 e2
        have q1 : (0 : Int) ≤ (k : Int) := by omega
        have q2 : (k : Int) < (n : Int) := by omega
        go_wp2
        go_quiet (fail)
        go_wp2
        go_roundw
        case rel => exact ⟨k + 1, q + nq, by omega, by go_num, rfl⟩
        case measure => simp [intOf]; omega
      · go_wp2
        go_ret
        exact ⟨rfl, q, rfl⟩
end Go.Proofs.YtgielbamebjjdaaGreatDoor

namespace Go.Proofs.YtgielbamebjjdaaGreatDoor
set_option maxRecDepth 100000
open Go.ChangeShapes Go.WideShapes Go.ChangeAt Go.RowKit

def marks (k n : Nat) : List Value := (List.range n).map fun i => sv (markL (k + i))
theorem marks_succ (k n : Nat) : marks k (n + 1) = marks k n ++ [sv (markL (k + n))] := by simp [marks, List.range_succ]
theorem marks_length (k n : Nat) : (marks k n).length = n := by simp [marks]
theorem marks_set {k j : Nat} {xs : List Value} (h : j < xs.length) : (marks k j ++ xs.drop j).set j (sv (markL (k + j))) = marks k (j + 1) ++ xs.drop (j + 1) := by
  rw [List.set_append_right _ _ (by rw [marks_length]; exact Nat.le_refl _), marks_length, Nat.sub_self, marks_succ, List.append_assoc]
  congr 1
  rw [List.drop_eq_getElem_cons h]
  rfl

set_option maxHeartbeats 400000 in
theorem markStringS {w : World} {base n k : Nat} {v : Value} {xs : List Value} (h : w.ownsRow base 9 1 v n xs) (hn : n ≤ 100000000) (hk0 : 0 < k) (hk : k ≤ 100000000) :
    Calls Tryz.prog 41 #[v, .int .i64 (k : Int)] w fun e w' => e = .returned (.int .i64 ((k + n : Nat) : Int)) ∧ w'.ownsRow base 9 1 v n (marks k n) ∧ w.grownBy w' v.ownBlock := by
  have hl : xs.length = n := by simpa using h.1
  rcases Nat.eq_zero_or_pos n with h0 | hp
  · subst h0
    have h' := Lib.hid h
    rcases h.2 with ⟨rfl, _⟩ | ⟨g, cap, cur, rfl, _⟩
    all_goals
      clear h hl hn
      go_enter Tryz.func41, Tryz.ntmps41
      go_wp2
      refine wp_loop_rounds 1 ?_
      rw [rounds_succ]
      go_wp2
      go_ret
      refine ⟨by simp, ?_, World.grownBy.refl _ _⟩
      have e : xs = marks k 0 := by have := h'.out.1; simpa [marks] using this
      rw [← e]
      exact h'.out
  · obtain ⟨g, c, rfl, _, _⟩ := h.form hp
    go_enter Tryz.func41, Tryz.ntmps41
    go_wp2
    go_loopw [1, 5] (fun kk i wr => ∃ j : Nat, j ≤ n ∧ i = .int .i64 j ∧ kk = .int .i64 ((k : Int) + (j : Int)) ∧ wr.ownsRow base 9 1 (.slice (some ⟨g, 0, none⟩) n c) n (marks k j ++ xs.drop j) ∧ w.grownBy wr (some g)) (fun _ i _ => n - (intOf i).toNat)
    case atStart => exact ⟨0, Nat.zero_le _, rfl, by go_num, h, World.grownBy.refl _ _⟩
    case round =>
      obtain ⟨j, hj, rfl, rfl, hown, hg⟩ := hrel
      clear h
      by_cases hlt : j < n
      · have f1 := Lib.hid fun W => markText (k + j) W (by omega) (by omega)
        simp only [Int.natCast_add] at f1
        go_wp2_with fail
        (with_reducible refine (f1.out _).mono ?_); rintro e w1 ⟨rfl, hb1⟩
        have hown1 := own_below hown hb1
        have hlen : j < (marks k j ++ xs.drop j).length := by simp [marks_length]; omega
        have cc := hown1.cellAt j (by omega)
        rw [List.getElem?_eq_getElem hlen] at cc
        have cf := hown1.frozenAt j
        generalize (marks k j ++ xs.drop j)[j] = old at cc
        have HS := Lib.hid (hown1.stored j (sv (markL (k + j))))
        have HG := Lib.hid hg
        clear hown hown1 hlen hg
        go_wp2
        go_roundw
        case rel =>
          have e1 := HS.out
          rw [marks_set (by omega)] at e1
          exact ⟨j + 1, by omega, by go_num, by go_num, e1.1, HG.out.trans ((grownBy_of_below hb1 _).trans e1.2)⟩
        case measure => simp [intOf]; omega
      · obtain rfl : j = n := by omega
        go_wp2
        go_ret
        rw [List.drop_eq_nil_of_le (by omega), List.append_nil] at hown
        exact ⟨by go_num, hown, hg⟩

set_option maxHeartbeats 400000 in
theorem heldStringS {w : World} {base n k : Nat} {v : Value} (h : w.ownsRow base 9 1 v n (marks k n)) (hn : n ≤ 100000000) (hk0 : 0 < k) (hk : k ≤ 100000000) :
    Calls Tryz.prog 42 #[v, .int .i64 (k : Int)] w fun e w' => e = .returned (.int .i64 ((k + n : Nat) : Int)) ∧ Below w.heap.size w w' := by
  rcases Nat.eq_zero_or_pos n with h0 | hp
  · subst h0
    rcases h.2 with ⟨rfl, _⟩ | ⟨g, cap, cur, rfl, _⟩
    all_goals
      clear h hn
      go_enter Tryz.func42, Tryz.ntmps42
      go_wp2
      refine wp_loop_rounds 1 ?_
      rw [rounds_succ]
      go_wp2
      go_ret
      exact ⟨by simp, Below.refl _ _⟩
  · obtain ⟨g, c, rfl, _, hgl⟩ := h.form hp
    go_enter Tryz.func42, Tryz.ntmps42
    go_wp2
    go_loopw [1, 5] (fun kk i wr => ∃ j : Nat, j ≤ n ∧ i = .int .i64 j ∧ kk = .int .i64 ((k : Int) + (j : Int)) ∧ Below w.heap.size w wr) (fun _ i _ => n - (intOf i).toNat)
    case atStart => exact ⟨0, Nat.zero_le _, rfl, by go_num, Below.refl _ _⟩
    case round =>
      obtain ⟨j, hj, rfl, rfl, hbel⟩ := hrel
      by_cases hlt : j < n
      · have f1 := Lib.hid fun W => markText (k + j) W (by omega) (by omega)
        simp only [Int.natCast_add] at f1
        have cc := h.cellAt j (by omega)
        have ex : (marks k n)[j]? = some (.string ⟨(markL (k + j)).toArray⟩) := by simp [marks, hlt, sv]
        rw [ex] at cc
        have cr : wr.cell? ⟨g, j, none⟩ = some (.string ⟨(markL (k + j)).toArray⟩) := (hbel.cell (p := ⟨g, j, none⟩) hgl).trans cc
        have hz := hbel.size
        have q1 : (0 : Int) ≤ (j : Int) := by omega
        have q2 : (j : Int) < (n : Int) := by omega
        clear ex cc h
        go_wp2
        go_region_law (first
          | (go_simp; go_at_call 91; (with_reducible refine (f1.out _).mono ?_); rintro e w1 ⟨rfl, hb1⟩; have cr1 : w1.cell? ⟨g, j, none⟩ = some (.string ⟨(markL (k + j)).toArray⟩) := (hb1.cell (p := ⟨g, j, none⟩) (by show g < _; simp; omega)).trans cr))
        all_goals
          go_wp2
          go_roundw
          case rel => exact ⟨j + 1, by omega, by go_num, by go_num, hbel.drew.trans (hb1.mono (by simp; omega))⟩
          case measure => simp [intOf]; omega
      · obtain rfl : j = n := by omega
        go_wp2
        go_ret
        exact ⟨by go_num, hbel⟩
theorem markOne {w : World} {base n : Nat} {v : Value} {xs : List Value} (h : w.ownsRow base 9 1 v n xs) (hn : n ≤ 100000000) :
    Calls Tryz.prog 41 #[v, .int .i64 1] w fun e w' => e = .returned (.int .i64 ((n : Int) + 1)) ∧ w'.ownsRow base 9 1 v n (marks 1 n) ∧ w.grownBy w' v.ownBlock := by
  have := markStringS (k := 1) h hn (by decide) (by decide)
  rw [show ((1 + n : Nat) : Int) = (n : Int) + 1 by omega] at this
  exact this
theorem heldOne {w : World} {base n : Nat} {v : Value} (h : w.ownsRow base 9 1 v n (marks 1 n)) (hn : n ≤ 100000000) :
    Calls Tryz.prog 42 #[v, .int .i64 1] w fun e w' => e = .returned (.int .i64 ((n : Int) + 1)) ∧ Below w.heap.size w w' := by
  have := heldStringS (k := 1) h hn (by decide) (by decide)
  rw [show ((1 + n : Nat) : Int) = (n : Int) + 1 by omega] at this
  exact this
end Go.Proofs.YtgielbamebjjdaaGreatDoor

namespace Go.Proofs.YtgielbamebjjdaaGreatDoor
set_option maxRecDepth 100000
open Go.ChangeShapes Go.WideShapes Go.ChangeAt Go.RowKit
set_option linter.unusedSimpArgs false
set_option linter.unusedVariables false

theorem lenNamesOf {d : Dc} (h : d.Small) : (namesOf d).length ≤ 10000000 := by
  have h4 := h.ctors
  unfold namesOf
  split
  · split <;> simp <;> omega
  · simp
theorem apartD {w w' : World} {b n M : Nat} {v v' : Value} {xs : List Value} (h : w.ownsRow b 9 1 v n xs) (hg : w.grownBy w' v'.ownBlock) (hd : ((∀ k, v.ownBlock = some k → k < M) ∧ (∀ k, v'.ownBlock = some k → M ≤ k)) ∨ ((∀ k, v'.ownBlock = some k → k < M) ∧ (∀ k, v.ownBlock = some k → M ≤ k))) : w'.ownsRow b 9 1 v n xs := by
  refine h.kept hg ?_
  rcases hv : v.ownBlock with _ | k
  · exact .inl rfl
  · refine .inr fun e => ?_
    rcases hd with ⟨h1, h2⟩ | ⟨h1, h2⟩
    · have := h1 k hv; have := h2 k e.symm; omega
    · have := h1 k e.symm; have := h2 k hv; omega
set_option maxHeartbeats 16000000 in
theorem lawNamesOf {d : Dc} {u : Value} (w : World) (hu : CameC w u d.ctors) (hf : d.Fits)
    (hI : d.Small → ∀ (W : World) (b : Nat) (v : Value), Below w.heap.size w W → W.ownsRow b 42 2 v d.ctors.length (flatC d.ctors) → Calls Tryz.prog 38 #[d.val v] W (LRes' (namesOf d) W)) :
    Calls Tryz.prog 6 #[d.val u] w fun e w' => e = .returned (.bool true) ∧ Below w.heap.size w w' := by
  obtain ⟨a0, cap, _, _, hsl, _⟩ := id hu
  have HSZ : Hid (∀ W : World, Below w.heap.size w W → Calls Tryz.prog 32 #[d.val u, .int .i64 1048576] W fun e w' => Below W.heap.size W w' ∧ (e = .returned (.int .i64 (-1)) ∨ ∃ r : Nat, e = .returned (.int .i64 (r : Int)) ∧ r + d.size = 1048576)) := fun W hb => szDecl (hu.below hb) hf 1048576 (Nat.le_refl _)
  have HSm : Hid (d.size ≤ 1048576 → d.Small) := fun h => Dc.small h
  have HTo := Lib.hid fun (hn : d.ctors.length ≤ 1048576) (W : World) (hb : Below w.heap.size w W) => toDecl (hu.below hb) hn
  have HSp := Lib.hid fun (hs : d.Small) (W : World) (b : Nat) (v : Value) (h : W.ownsRow b 42 2 v d.ctors.length (flatC d.ctors)) => specNamesOf h hs
  have HEq := Lib.hid fun (hn : d.ctors.length ≤ 1048576) (W : World) (b1 b2 : Nat) (v1 v2 : Value) (h1 : W.ownsRow b1 42 2 v1 d.ctors.length (flatC d.ctors)) (h2 : W.ownsRow b2 42 2 v2 d.ctors.length (flatC d.ctors)) => eqDecl h1 h2 hn
  have HMk : Hid (∀ (hn : d.ctors.length ≤ 1048576) (W : World) (b : Nat) (v : Value) (xs : List Value) (h : W.ownsRow b 42 2 v d.ctors.length xs), Calls Tryz.prog 40 #[d.val v, .int .i64 1] W fun e w' => e = .returned (.int .i64 (1 + 2 * (d.ctors.length : Int))) ∧ W.grownBy w' v.ownBlock) := fun hn W b v xs h => markDecl (k := 1) h (by omega) (by decide) (by decide)
  have HLn : Hid (d.Small → (namesOf d).length ≤ 10000000) := lenNamesOf
  have HI := Lib.hid hI
  unfold DRes at HTo
  obtain ⟨r, hr⟩ : ∃ r, namesOf d = r := ⟨_, rfl⟩
  rw [hr] at HSp HI HLn
  clear hu hf hI hr
  obtain ⟨kd, nm, ps, fl, ty, vl, cs⟩ := d
  have hval : ∀ u, Dc.val ⟨kd, nm, ps, fl, ty, vl, cs⟩ u = .agg #[.int .i64 kd, .string ⟨nm.toArray⟩, .int .i64 ps, .int .i64 fl, .string ⟨ty.toArray⟩, .string ⟨vl.toArray⟩, u] := fun u => rfl
  simp only [hval] at HSZ HTo HSp HEq HI HMk ⊢
  simp only at hsl HSZ HTo HSp HEq HI HMk
  subst hsl
  have HB0 := Lib.hid (alloc_any w (.cells #[.int .i64 kd, .string ⟨nm.toArray⟩, .int .i64 ps, .int .i64 fl, .string ⟨ty.toArray⟩, .string ⟨vl.toArray⟩, .slice a0 cs.length cap] 48))
  have HA := Lib.hid (anyBox (w := w) (kd := kd) (ps := ps) (fl := fl) (nm := nm) (ty := ty) (vl := vl) (u := .slice a0 cs.length cap) (T := 48))
  have HX := Lib.hid fun w u => anyBox (w := w) (kd := kd) (ps := ps) (fl := fl) (nm := nm) (ty := ty) (vl := vl) (u := u) (T := 36)
  clear hval
  go_enter Tryz.func6, Tryz.ntmps6
  go_wp2_with fail
  (with_reducible refine (HSZ.out _ HB0.out).mono ?_); rintro e w1 ⟨hb1, (rfl | ⟨z, rfl, hz⟩)⟩
  · have HB1 := Lib.hid (HB0.out.trans (hb1.mono HB0.out.size))
    clear hb1
    go_wp2
    go_ret
    exact ⟨rfl, HB1.out⟩
  have hsm := HSm.out (by omega)
  have hn := hsm.ctors
  simp only at hn
  have hrl := HLn.out hsm
  have HI2 := Lib.hid (HI.out hsm)
  have HSp2 := Lib.hid (HSp.out hsm)
  have HTo2 := Lib.hid (HTo.out hn)
  have HEq2 := Lib.hid (HEq.out hn)
  have HMk2 := Lib.hid (HMk.out hn)
  have dz : decide ((z : Int) < 0) = false := decide_eq_false (by omega)
  have HB1 := Lib.hid (HB0.out.trans (hb1.mono HB0.out.size))
  have HA1 := Lib.hid hb1
  obtain ⟨c0, c1, c2, c3, c4, c5, c6⟩ := HA.out _ hb1
  clear hb1 hz hsm HI HSp HTo HEq HSZ HSm HMk HLn
  -- the model's answer
  go_wp2_with fail
  (with_reducible refine (HTo2.out _ HB1.out).mono ?_); rintro e w2 ⟨u1, rfl, hu1, hb2⟩
  have HA2 := Lib.hid (HA1.out.trans (hb2.mono HA1.out.size))
  obtain ⟨ua, uc, rfl⟩ := row_sliceD hu1
  clear hb2 c0 c1 c2 c3 c4 c5 c6
  go_wp2_with fail
  (with_reducible refine (HSp2.out _ _ _ hu1).mono ?_); rintro e w3 ⟨vW, rfl, hW3, hb3⟩
  have HA3 := Lib.hid (HA2.out.trans (hb3.mono HA2.out.size))
  have HB3 := Lib.hid (HB0.out.trans (HA3.out.mono HB0.out.size))
  obtain ⟨c0, c1, c2, c3, c4, c5, c6⟩ := HA.out _ HA3.out
  have hiW : Hid (∀ k, vW.ownBlock = some k → k < w3.heap.size) := fun k hk => (hW3.lt k hk).2
  clear hb3 hu1 HB1
  -- the program's argument and answer
  go_wp2_with fail
  (with_reducible refine (HTo2.out _ HB3.out).mono ?_); rintro e w4 ⟨u2, rfl, hu2, hb4⟩
  have HA4 := Lib.hid (HA3.out.trans (hb4.mono HA3.out.size))
  have loX : Hid (∀ k, u2.ownBlock = some k → w3.heap.size ≤ k) := fun k hk => (hu2.lt k hk).1
  have hiX : Hid (∀ k, u2.ownBlock = some k → k < w4.heap.size) := fun k hk => (hu2.lt k hk).2
  have z34 := hb4.size
  obtain ⟨va, vc, rfl⟩ := row_sliceD hu2
  have bx := alloc_any w4 (.cells #[.int .i64 kd, .string ⟨nm.toArray⟩, .int .i64 ps, .int .i64 fl, .string ⟨ty.toArray⟩, .string ⟨vl.toArray⟩, .slice va cs.length vc] 36)
  have hrow5 := own_below hu2 bx
  have hW5 := own_below (own_below hW3 hb4) bx
  have HA5 := Lib.hid (HA4.out.trans (bx.mono HA4.out.size))
  have HB5 := Lib.hid (HB0.out.trans (HA5.out.mono HB0.out.size))
  have HX5 := Lib.hid (HX.out w4 (.slice va cs.length vc))
  have z45 := bx.size
  clear hb4 hu2 hW3 c0 c1 c2 c3 c4 c5 c6 bx HX HB3
  go_wp2_with fail
  (with_reducible refine (HI2.out _ _ _ HB5.out hrow5).mono ?_); rintro e w6 ⟨vg, rfl, hg6, hb6⟩
  have loG : Hid (∀ k, vg.ownBlock = some k → w4.heap.size ≤ k) := fun k hk => Nat.le_trans z45 (hg6.lt k hk).1
  have hrow6 := own_below hrow5 hb6
  have hW6 := own_below hW5 hb6
  have HA6 := Lib.hid (HA5.out.trans (hb6.mono HA5.out.size))
  have hb66 := Lib.hid hb6
  clear hb6 hrow5 hW5 HSp2
  go_wp2_with fail
  (with_reducible refine (eqStringS hg6 hW6 (by omega)).mono ?_); rintro e w7 ⟨rfl, q1, rfl⟩
  have HA7 := Lib.hid (below_drewN HA6.out q1)
  have HB7 := Lib.hid (HB0.out.trans (HA7.out.mono HB0.out.size))
  have hb67 := Lib.hid (below_drewN hb66.out q1)
  have hrow7 := own_drew hrow6 q1
  have hW7 := own_drew hW6 q1
  have hg7 := own_drew hg6 q1
  generalize w6.drewN q1 = w7 at HA7 HB7 hb67 hrow7 hW7 hg7 ⊢
  clear hrow6 hW6 hg6 HA6 hb66 HB5
  obtain ⟨p0, p1, p2, p3, p4, p5, p6⟩ := HA.out _ HA7.out
  obtain ⟨q0, q1, q2, q3, q4, q5, q6⟩ := HX5.out _ hb67.out
  go_wp2
  go_region_held3 (fun w' => (w'.cell? ⟨w.heap.size, 0, none⟩ = some (.int .i64 kd) ∧ w'.cell? ⟨w.heap.size, 1, none⟩ = some (.string ⟨nm.toArray⟩) ∧ w'.cell? ⟨w.heap.size, 2, none⟩ = some (.int .i64 ps) ∧ w'.cell? ⟨w.heap.size, 3, none⟩ = some (.int .i64 fl) ∧ w'.cell? ⟨w.heap.size, 4, none⟩ = some (.string ⟨ty.toArray⟩) ∧ w'.cell? ⟨w.heap.size, 5, none⟩ = some (.string ⟨vl.toArray⟩) ∧ w'.cell? ⟨w.heap.size, 6, none⟩ = some (.slice a0 cs.length cap)) ∧ (w'.cell? ⟨w4.heap.size, 0, none⟩ = some (.int .i64 kd) ∧ w'.cell? ⟨w4.heap.size, 1, none⟩ = some (.string ⟨nm.toArray⟩) ∧ w'.cell? ⟨w4.heap.size, 2, none⟩ = some (.int .i64 ps) ∧ w'.cell? ⟨w4.heap.size, 3, none⟩ = some (.int .i64 fl) ∧ w'.cell? ⟨w4.heap.size, 4, none⟩ = some (.string ⟨ty.toArray⟩) ∧ w'.cell? ⟨w4.heap.size, 5, none⟩ = some (.string ⟨vl.toArray⟩) ∧ w'.cell? ⟨w4.heap.size, 6, none⟩ = some (.slice va cs.length vc))) (first | exact X9 | exact X8 | exact ⟨⟨p0, p1, p2, p3, p4, p5, p6⟩, q0, q1, q2, q3, q4, q5, q6⟩)
    (first | (go_at_call 34; (with_reducible refine (HTo2.out _ HB7.out.drew).mono ?_); rintro e w8 ⟨u3, rfl, hu3, hb8⟩; have HA8 := HA7.out.drew.trans (hb8.mono HA7.out.drew.size); have hd8 := hb67.out.drew.trans (hb8.mono hb67.out.drew.size); have X8 := And.intro (HA.out _ HA8) (HX5.out _ hd8); obtain ⟨wa, wc, rfl⟩ := row_sliceD hu3; have hrow8 := own_below (w := w7.drew) hrow7 hb8; have hW8 := own_below (w := w7.drew) hW7 hb8; have hg8 := own_below (w := w7.drew) hg7 hb8) | (go_at_call 36; (with_reducible refine (HEq2.out _ _ _ _ _ hrow8 hu3).mono ?_); rintro e w9 ⟨rfl, hb9⟩; have HA9 := HA8.trans (hb9.mono HA8.size); have hd9 := hd8.trans (hb9.mono hd8.size); have X9 := And.intro (HA.out _ HA9) (HX5.out _ hd9); have hrow9 := own_below hrow8 hb9; have hW9 := own_below hW8 hb9; have hg9 := own_below hg8 hb9))
  have z9 := HA9.size
  have m9 := hd9.size
  clear HA7 HB7 hb67 hrow7 hW7 hg7 p0 p1 p2 p3 p4 p5 p6 q0 q1 q2 q3 q4 q5 q6 hu3 hb8 hb9 X8 HA8 hd8 hrow8 hW8 hg8 HEq2
  -- the argument is marked
  obtain ⟨_, q0, q1, q2, q3, q4, q5, q6⟩ := X9
  have z03 := HA3.out.size
  have z04 := HA4.out.size
  clear HA1 HA2 HA3 HA4 HA5
  go_wp2_with fail
  (with_reducible refine (HMk2.out _ _ _ _ hrow9).mono ?_); rintro e w10 ⟨rfl, hgr⟩
  have HA10 := HA9.grown hgr z9 (fun k hk => Nat.le_trans z03 (loX.out k hk))
  have hg10 := apartD hg9 hgr (.inr ⟨hiX.out, loG.out⟩)
  have hW10 := apartD hW9 hgr (.inl ⟨hiW.out, loX.out⟩)
  have z10 := HA10.size
  have d14 : decide ((1 : Int) + 2 * (cs.length : Int) < 0) = false := decide_eq_false (by omega)
  clear hgr hg9 hW9 hrow9 HA9 hd9 z9 m9 q0 q1 q2 q3 q4 q5 q6 HMk2
  go_wp2_with fail
  (with_reducible refine (eqStringS hg10 hW10 (by omega)).mono ?_); rintro e w11 ⟨rfl, q1, rfl⟩
  have HA11 := below_drewN HA10 q1
  have hg11 := own_drew hg10 q1
  have hW11 := own_drew hW10 q1
  have z11 := HA11.size
  generalize w10.drewN q1 = w11 at HA11 hg11 hW11 z11 ⊢
  clear HA10 hg10 hW10 z10
  -- the answer is marked
  go_wp2_with fail
  (with_reducible refine (markOne hg11 (by omega)).mono ?_); rintro e w12 ⟨rfl, hm12, hgr⟩
  have HA12 := HA11.grown hgr z11 (fun k hk => Nat.le_trans z04 (loG.out k hk))
  have hW12 := apartD hW11 hgr (.inl ⟨hiW.out, fun k hk => Nat.le_trans z34 (loG.out k hk)⟩)
  have z12 := HA12.size
  clear HA11 hg11 hW11 z11 hgr
  go_wp2_with fail
  (with_reducible refine (heldOne hm12 (by omega)).mono ?_); rintro e w13 ⟨rfl, hb13⟩
  have HA13 := Lib.hid (HA12.trans (hb13.mono z12))
  have HB13 := Lib.hid (HB0.out.trans (HA13.out.mono HB0.out.size))
  have hm13 := own_below hm12 hb13
  have hW13 := own_below hW12 hb13
  have d17 : decide ((r.length : Int) + 1 < 0) = false := decide_eq_false (by omega)
  obtain ⟨p0, p1, p2, p3, p4, p5, p6⟩ := HA.out _ HA13.out
  clear HA12 hm12 hW12 z12 hb13
  -- the second answer
  go_wp2_with fail
  (with_reducible refine (HTo2.out _ HB13.out).mono ?_); rintro e w14 ⟨u4, rfl, hu4, hb14⟩
  have HB14 := Lib.hid (HB13.out.trans (hb14.mono HB13.out.size))
  have hm14 := own_below hm13 hb14
  have hW14 := own_below hW13 hb14
  obtain ⟨ya, yc, rfl⟩ := row_sliceD hu4
  clear hm13 hW13 hb14 p0 p1 p2 p3 p4 p5 p6
  go_wp2_with fail
  (with_reducible refine (HI2.out _ _ _ HB14.out hu4).mono ?_); rintro e w15 ⟨vh, rfl, hh, hb15⟩
  have HB15 := Lib.hid (HB14.out.trans (hb15.mono HB14.out.size))
  have hm15 := own_below hm14 hb15
  have hW15 := own_below hW14 hb15
  clear hm14 hW14 hb15 hu4
  go_wp2_with fail
  (with_reducible refine (eqStringS hh hW15 (by omega)).mono ?_); rintro e w16 ⟨rfl, q5, rfl⟩
  have HB16 := Lib.hid (below_drewN HB15.out q5)
  have hm16 := own_drew hm15 q5
  generalize w15.drewN q5 = w16 at HB16 hm16 ⊢
  clear hm15 hW15 hh
  go_wp2_with fail
  (with_reducible refine (heldOne hm16 (by omega)).mono ?_); rintro e w17 ⟨rfl, hb17⟩
  have HB17 := Lib.hid (HB16.out.trans (hb17.mono HB16.out.size))
  clear hm16 hb17
  go_wp2
  go_ret
  exact ⟨rfl, HB17.out⟩
end Go.Proofs.YtgielbamebjjdaaGreatDoor
