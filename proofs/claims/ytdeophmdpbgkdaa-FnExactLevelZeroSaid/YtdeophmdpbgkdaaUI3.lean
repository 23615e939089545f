/-
  What impl.LevelWitness keeps in memory, and the contract of its closure.
-/
import Derived.Test.YtdeophmdpbgkdaaUI1
import Derived.Test.YtdeophmdpbgkdaaUI2
import Derived.Test.YtdeophmdpbgkdaaUWit
namespace Go.Proofs.Ytdeophmdpbgkdaa
set_option maxRecDepth 100000
open Go.ChangeShapes Go.WideShapes Go.ChangeAt Go.RowKit
set_option linter.unusedSimpArgs false

/-- The first of the lists below number i that shows it. -/
def firstUp (a b : List UInt8) (K i : Nat) : Option (List Nat) := ((List.range i).find? fun j => above a b (tryTri K j)).map (tryTri K)
theorem firstUp_zero (a b : List UInt8) (K : Nat) : firstUp a b K 0 = none := rfl
theorem firstUp_some {a b : List UInt8} {K i : Nat} {l : List Nat} (h : firstUp a b K i = some l) : firstUp a b K (i + 1) = some l ∧ ∃ j, j < i ∧ l = tryTri K j := by
  obtain ⟨j, hj, rfl⟩ := Option.map_eq_some_iff.1 h
  refine ⟨?_, j, List.mem_range.1 (List.mem_of_find?_eq_some hj), rfl⟩
  rw [firstUp, List.range_succ, List.find?_append, hj]
  rfl
theorem firstUp_none {a b : List UInt8} {K i : Nat} (h : firstUp a b K i = none) : firstUp a b K (i + 1) = if above a b (tryTri K i) = true then some (tryTri K i) else none := by
  have hj : (List.range i).find? (fun j => above a b (tryTri K j)) = none := Option.map_eq_none_iff.1 h
  rw [firstUp, List.range_succ, List.find?_append, hj, List.find?_singleton, Option.none_or]
  split <;> rfl
theorem firstUp_wit {a b : List UInt8} (ha : levelOk a = true) (hb : levelOk b = true) : levelWit a b = firstUp a b (2 + levelUps a + levelUps b) 27 := if_pos ⟨ha, hb⟩
theorem tryTri_cmp {K i j : Nat} (hK : 2 ≤ K) (hj : j < i) (hi : i < 27) : cmpI ((tryTri K j).map fun (x : Nat) => (x : Int)) ((tryTri K i).map fun (x : Nat) => (x : Int)) ≤ 0 := by
  have lt1 : ∀ p q : Nat, p < q → q < 3 → tryOne K p < tryOne K q := fun p q h1 h2 => by
    unfold tryOne
    rcases (by omega : p = 0 ∨ p = 1) with rfl | rfl <;> rcases (by omega : q = 0 ∨ q = 1 ∨ q = 2) with rfl | rfl | rfl <;> simp at h1 ⊢ <;> omega
  have key : j / 9 < i / 9 ∨ (j / 9 = i / 9 ∧ (j / 3 % 3 < i / 3 % 3 ∨ (j / 3 % 3 = i / 3 % 3 ∧ j % 3 < i % 3))) := by omega
  have same : ∀ z : Int, sgnI z z = 0 := fun z => by simp [sgnI]
  have less : ∀ p q : Nat, p < q → sgnI (p : Int) (q : Int) = -1 := fun p q h => if_pos (by omega)
  simp only [tryTri, List.map_cons, List.map_nil, cmpI]
  rcases key with h | ⟨e, h | ⟨e2, h⟩⟩
  · rw [less _ _ (lt1 _ _ h (by omega))]; simp
  · rw [e, same, less _ _ (lt1 _ _ h (by omega))]; simp
  · rw [e, same, e2, same, less _ _ (lt1 _ _ h (by omega))]; simp

/-- The memory of impl.LevelWitness while it tries: the boxes of both levels, the best list, the three numbers. -/
structure WSt (N : Nat) (a b : ByteArray) (K : Nat) (r : Option (List Nat)) (W : World) : Prop where
  ca : W.ownsRow N 9 1 (.slice (some ⟨N, 0, none⟩) 1 1) 1 [.string a]
  cb : W.ownsRow N 9 1 (.slice (some ⟨N + 1, 0, none⟩) 1 1) 1 [.string b]
  nums : W.ownsRow N 3 1 (.slice (some ⟨N + 3, 0, none⟩) 3 3) 3 [iv 0, iv 1, iv (K : Int)]
  best : ∃ bv, W.ownsRow N 26 1 (.slice (some ⟨N + 2, 0, none⟩) 1 1) 1 [bv] ∧ W.ownsRow (N + 5) 3 1 bv (r.getD []).length ((r.getD []).map natV) ∧ (r = none → bv = .slice none 0 0)
  sz : N + 5 ≤ W.heap.size
theorem WSt.below {N : Nat} {a b : ByteArray} {K : Nat} {r : Option (List Nat)} {W W' : World} (h : WSt N a b K r W) (hb : Below W.heap.size W W') : WSt N a b K r W' := by
  obtain ⟨bv, h1, h2, h9⟩ := h.best
  exact ⟨own_below h.ca hb, own_below h.cb hb, own_below h.nums hb, ⟨bv, own_below h1 hb, own_below h2 hb, h9⟩, Nat.le_trans h.sz hb.size⟩
theorem WSt.beg {N : Nat} {a b : ByteArray} {K : Nat} {r : Option (List Nat)} {W W' : World} (h : WSt N a b K r W) (hg : W.grownBy W' (some (N + 4))) : WSt N a b K r W' := by
  obtain ⟨bv, h1, h2, h9⟩ := h.best
  refine ⟨h.ca.kept hg (.inr ?_), h.cb.kept hg (.inr ?_), h.nums.kept hg (.inr ?_), ⟨bv, h1.kept hg (.inr ?_), h2.kept hg (.inr fun e => ?_), h9⟩, Nat.le_trans h.sz hg.size⟩
  · simp [Value.ownBlock]
  · simp [Value.ownBlock]
  · simp [Value.ownBlock]
  · simp [Value.ownBlock]
  · have := (h2.lt _ e).1
    omega
/-- The best list is stored. -/
theorem WSt.put {N : Nat} {a b : ByteArray} {K : Nat} {r : Option (List Nat)} {W : World} {l : List Nat} {u : Value} (h : WSt N a b K r W) (hu : W.ownsRow (N + 5) 3 1 u l.length (l.map natV)) :
    WSt N a b K (some l) (W.setCell ⟨N + 2, 0, none⟩ u) ∧ W.grownBy (W.setCell ⟨N + 2, 0, none⟩ u) (some (N + 2)) := by
  obtain ⟨bv, h1, h2, h9⟩ := h.best
  obtain ⟨h3, hg⟩ := h1.stored 0 u
  refine ⟨⟨h.ca.kept hg (.inr ?_), h.cb.kept hg (.inr ?_), h.nums.kept hg (.inr ?_), ⟨u, h3, hu.kept hg (.inr fun e => ?_), fun e => by cases e⟩, Nat.le_trans h.sz hg.size⟩, hg⟩
  · simp [Value.ownBlock]
  · simp [Value.ownBlock]
  · simp [Value.ownBlock]
  · have := (hu.lt _ e).1
    omega

theorem HG3 {l : List UInt8} (h : levelOk l = true) {n : Nat} (hn : n = 3) : ∀ i (hi : i + 1 < l.length), l[i] = 117 → l[i + 1].toNat - 47 ≤ n := fun i hi he => by
  obtain ⟨hj, h1, h2⟩ := lend_par_at l 1 (levelOk_len h).2 i (by omega) he
  omega
theorem natV_iv (l : List Nat) : l.map natV = (l.map fun (x : Nat) => (x : Int)).map iv := by
  rw [List.map_map]; rfl
/-- The value of a whole level at three numbers. -/
theorem fromTri (s : ByteArray) {w : World} {b K i : Nat} {v : Value} (h : w.ownsRow b 3 1 v 3 ((tryTri K i).map natV)) (hs : levelOk s.data.toList = true) (hK : 2 ≤ K) (hK2 : K ≤ 122) :
    ∃ q, Calls Try.prog 42 #[.string s, .int .i64 0, v] w fun e w' => e = .returned (.tuple #[.int .i64 (lval (tryTri K i) s.data.toList : Int), .int .i64 q]) ∧ w' = w := by
  obtain ⟨t, ht⟩ := level_tree hs
  have h60 : s.size ≤ 60 := (levelOk_len hs).1
  rw [natV_iv] at h
  have hl : ((tryTri K i).map fun (x : Nat) => (x : Int)).length = 3 := rfl
  have hv : ∀ x ∈ (tryTri K i).map (fun (x : Nat) => (x : Int)), 0 ≤ x ∧ x ≤ 1000 := fun x hx => by
    obtain ⟨y, hy, rfl⟩ := List.mem_map.1 hx
    have q1 := tryOne_le hK (i / 9)
    have q2 := tryOne_le hK (i / 3 % 3)
    have q3 := tryOne_le hK (i % 3)
    simp only [tryTri, List.mem_cons, List.not_mem_nil, or_false] at hy
    rcases hy with rfl | rfl | rfl <;> omega
  have he : ((tryTri K i).map fun (x : Nat) => (x : Int)).map Int.toNat = tryTri K i := by
    rw [List.map_map]
    exact (List.map_congr_left (fun x _ => by simp)).trans (List.map_id _)
  have := implValueFrom s (vs := (tryTri K i).map fun (x : Nat) => (x : Int)) h h60 hv (by rw [hl]; omega) (fun i hi he => HG3 hs hl i hi he) t 0 [] (by rw [ht]; simp)
  rw [he, ← lval_tree, ← ht] at this
  exact ⟨_, this⟩

set_option maxHeartbeats 4000000 in
/-- One list is tried. -/
theorem implTry (N : Nat) (a b : ByteArray) (K i : Nat) (hK : 2 ≤ K) (hK2 : K ≤ 122) (hi : i < 27) (ha : levelOk a.data.toList = true) (hb : levelOk b.data.toList = true) {W : World} {v : Value} {bs : Nat}
    (h : WSt N a b K (firstUp a.data.toList b.data.toList K i) W) (hv : W.ownsRow bs 3 1 v 3 ((tryTri K i).map natV)) :
    Calls Try.prog 44 #[v, .pointer (some ⟨N + 2, 0, none⟩), .pointer (some ⟨N, 0, none⟩), .pointer (some ⟨N + 1, 0, none⟩)] W fun e W' =>
      e = .returned (.tuple #[]) ∧ WSt N a b K (firstUp a.data.toList b.data.toList K (i + 1)) W' ∧ W.grownBy W' (some (N + 2)) := by
  obtain ⟨bv, hbst, hrow, hnone⟩ := h.best
  have cbest : W.cell? ⟨N + 2, 0, none⟩ = some bv := hbst.cellAt 0 (by omega)
  cases hr : firstUp a.data.toList b.data.toList K i with
  | some l =>
    obtain ⟨h2, j, hj, rfl⟩ := firstUp_some hr
    have H2 : Hid (firstUp a.data.toList b.data.toList K (i + 1) = firstUp a.data.toList b.data.toList K i) := h2.trans hr.symm
    rw [hr] at hrow
    have hrow2 : W.ownsRow (N + 5) 3 1 bv 3 ((tryTri K j).map natV) := hrow
    rw [natV_iv] at hrow2 hv
    have fC := Lib.hid (slicesCompareI hrow2 hv (by omega) (by omega))
    have hc := tryTri_cmp hK hj hi
    generalize cmpI ((tryTri K j).map fun (x : Nat) => (x : Int)) ((tryTri K i).map fun (x : Nat) => (x : Int)) = c at fC hc
    have d1 : decide (c ≤ 0) = true := decide_eq_true hc
    obtain ⟨g, cp, rfl, _, _⟩ := hrow2.form (by omega)
    have hne := fun W => neqNilI (some ⟨g, 0, none⟩) 3 cp W
    simp only [Option.isNone_some, Bool.not_false] at hne
    have HW := Lib.hid h
    clear hrow hrow2 hv h hr h2 hbst
    go_enter Try.func44, Try.ntmps44
    go_wp2_with fail
    (with_reducible refine fC.out.mono ?_); rintro e w1 ⟨rfl, rfl⟩
    go_wp2
    refine bodyPost_ret (results_none rfl _ _ _) rfl ?_
    rw [H2.out]
    exact ⟨rfl, HW.out, rfl, rfl, rfl, Nat.le_refl _, fun _ _ _ => rfl⟩
  | none =>
    have H2 := Lib.hid (firstUp_none hr)
    obtain rfl : bv = .slice none 0 0 := hnone hr
    have hne := fun W => neqNilI none 0 0 W
    simp only [Option.isNone_none, Bool.not_true] at hne
    rw [hr] at h
    have va : W.cell? ⟨N, 0, none⟩ = some (.string a) := h.ca.cellAt 0 (by omega)
    have vb : W.cell? ⟨N + 1, 0, none⟩ = some (.string b) := h.cb.cellAt 0 (by omega)
    obtain ⟨p1, g1⟩ := fromTri a hv ha hK hK2
    obtain ⟨p2, g2⟩ := fromTri b hv hb hK hK2
    have G1 := Lib.hid g1
    have G2 := Lib.hid g2
    have HP : Hid (above a.data.toList b.data.toList (tryTri K i) = decide (lval (tryTri K i) b.data.toList < lval (tryTri K i) a.data.toList)) := rfl
    generalize lval (tryTri K i) a.data.toList = m at G1 HP
    generalize lval (tryTri K i) b.data.toList = n at G2 HP
    have HW := Lib.hid h
    have hsz := h.sz
    clear hrow hnone hr g1 g2
    by_cases hmn : n < m
    · have H3 : Hid (firstUp a.data.toList b.data.toList K (i + 1) = some (tryTri K i)) := by
        have := H2.out
        rw [HP.out, decide_eq_true hmn, if_pos rfl] at this
        exact this
      have d4 : decide ((n : Int) < (m : Int)) = true := decide_eq_true (by omega)
      have d4n : decide (n < m) = true := decide_eq_true (by omega)
      have hv2 := hv
      rw [natV_iv] at hv2
      have fC := Lib.hid (slicesCloneI hv2 (by omega) (by omega))
      clear H2 HP hv hv2 hbst h
      go_enter Try.func44, Try.ntmps44
      go_wp2_with fail
      (with_reducible refine G1.out.mono ?_); rintro e w1 ⟨rfl, rfl⟩
      go_wp2_with fail
      (with_reducible refine G2.out.mono ?_); rintro e w1 ⟨rfl, rfl⟩
      go_wp2_with fail
      (with_reducible refine fC.out.mono ?_); rintro e w2 ⟨u, rfl, hu, hb2⟩
      have h2 := HW.out.below hb2
      rw [← natV_iv] at hu
      have hu2 : w2.ownsRow (N + 5) 3 1 u (tryTri K i).length ((tryTri K i).map natV) := ⟨hu.1, by
        rcases hu.2 with e | ⟨g, cap, cur, e1, e2, e3⟩
        · exact .inl e
        · exact .inr ⟨g, cap, cur, e1, Nat.le_trans hsz e2, e3⟩⟩
      obtain ⟨h3, hg3⟩ := h2.put hu2
      obtain ⟨bv2, hb3, _, _⟩ := h2.best
      have cc : w2.cell? ⟨N + 2, 0, none⟩ = some bv2 := hb3.cellAt 0 (by omega)
      have cf := hb3.frozenAt 0
      obtain ⟨gu, cu, rfl, _, _⟩ := hu.form (by omega)
      have HG := Lib.hid ((grownBy_of_below hb2 (some (N + 2))).trans hg3)
      have H4 := Lib.hid h3
      clear h2 hu hu2 h3 hg3 hb3 hb2
      go_wp2
      go_end0
      rw [H3.out]
      exact ⟨rfl, H4.out, HG.out⟩
    · have H3 : Hid (firstUp a.data.toList b.data.toList K (i + 1) = none) := by
        have := H2.out
        rw [HP.out, decide_eq_false hmn, if_neg (by decide)] at this
        exact this
      have d4 : decide ((n : Int) < (m : Int)) = false := decide_eq_false (by omega)
      have d4n : decide (n < m) = false := decide_eq_false (by omega)
      clear H2 HP hv hbst h
      go_enter Try.func44, Try.ntmps44
      go_wp2_with fail
      (with_reducible refine G1.out.mono ?_); rintro e w1 ⟨rfl, rfl⟩
      go_wp2_with fail
      (with_reducible refine G2.out.mono ?_); rintro e w1 ⟨rfl, rfl⟩
      go_wp2
      go_end0
      rw [H3.out]
      exact ⟨rfl, HW.out, rfl, rfl, rfl, Nat.le_refl _, fun _ _ _ => rfl⟩
end Go.Proofs.Ytdeophmdpbgkdaa
