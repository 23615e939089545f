/-
  The contract of spec.l06Leaf.
-/
import Derived.Test.YtgielbamebjjdaaGreatDoorTDig
import Derived.Test.YtgielbamebjjdaaGreatDoorNWalks2
namespace Go.Proofs.YtgielbamebjjdaaGreatDoor
set_option maxRecDepth 100000
open Go.ChangeShapes Go.WideShapes Go.ChangeAt Go.RowKit
set_option linter.unusedSimpArgs false

/-- A term that has been read, as it lies in memory. -/
structure Nd where
  kind : UInt8
  a : Nat
  b : Nat
  c : Nat
  num : Nat
  text : List UInt8
  lv : Value
def Nd.cells (n : Nd) : List Value := [.int .u8 (n.kind.toNat : Int), .int .i64 (n.a : Int), .int .i64 (n.b : Int), .int .i64 (n.c : Int), .int .i64 (n.num : Int), .string ⟨n.text.toArray⟩, n.lv]
def Tm.isLeaf : Tm → Bool
  | .var _ => true
  | .sort _ => true
  | .const _ _ => true
  | _ => false
def LeafIs (W : World) (B : Nat) (nd : Nd) : Tm → Prop
  | .var n => nd.kind = 118 ∧ nd.num = n ∧ nd.lv = .slice none 0 0
  | .sort l => nd.kind = 115 ∧ nd.text = l ∧ nd.lv = .slice none 0 0
  | .const nm ls => nd.kind = 99 ∧ nd.text = nm ∧ W.ownsRow B 9 1 nd.lv ls.length (ls.map sv)
  | _ => False
def LeafPost (l : List UInt8) (p : Nat) (w : World) (e : Ending) (w' : World) : Prop :=
  Below w.heap.size w w' ∧ ∃ (nd : Nd) (en : Int), (∃ a n c, nd.lv = .slice a n c) ∧ e = .returned (.tuple #[.agg nd.cells.toArray, .int .i64 en]) ∧
    ((∃ t r, t.isLeaf = true ∧ LeafIs w' w.heap.size nd t ∧ Tat (l.drop p) t r ∧ en = ((p + t.bytes.length : Nat) : Int)) ∨ (en = -1 ∧ ∀ t r, Tat (l.drop p) t r → t.isLeaf = false))
theorem bcell {W w1 : World} (hb : Below W.heap.size W w1) : (∀ b o, b < W.heap.size → w1.cell? ⟨b, o, none⟩ = W.cell? ⟨b, o, none⟩) ∧ (∀ b o, b < W.heap.size → w1.frozen? ⟨b, o, none⟩ = W.frozen? ⟨b, o, none⟩) :=
  ⟨fun b o h => hb.cell (p := ⟨b, o, none⟩) h, fun b o h => hb.frozen (p := ⟨b, o, none⟩) h⟩
theorem tat_head {l : List UInt8} {p : Nat} {t : Tm} {r : List UInt8} (hp : p < l.length) (h : Tat (l.drop p) t r) : t.kind = l[p] := by
  obtain ⟨x, hx⟩ := t.bytes_head
  have h2 := h.2
  rw [List.drop_eq_getElem_cons hp, hx, List.cons_append] at h2
  injection h2 with h2 _
  exact h2.symm

theorem decDigits_short {n : Nat} (h : n ≤ 999) : (Lib.decDigits n).length ≤ 3 := by
  rw [Lib.decDigits_length]
  exact nDigits_le 2 n (by omega)
theorem var_tat {l : List UInt8} {p m n : Nat} (hp : p < l.length) (hc : l[p] = 118) (hn : n ≤ 999) (hd : Lib.decDigits n = (l.drop (p + 1)).take m) (hm : p + 1 + m < l.length) (h46 : l[p + 1 + m] = 46) :
    Tat (l.drop p) (.var n) (l.drop (p + 1 + m + 1)) ∧ p + (Tm.var n).bytes.length = p + 1 + m + 1 := by
  have hlen : (Lib.decDigits n).length = m := by rw [hd]; simp; omega
  refine ⟨⟨hn, ?_⟩, by simp [Tm.bytes, hlen]; omega⟩
  rw [Tm.bytes, List.drop_eq_getElem_cons hp, hc, hd, List.cons_append, List.append_assoc]
  congr 1
  have e : l.drop (p + 1 + m) = 46 :: l.drop (p + 1 + m + 1) := by rw [List.drop_eq_getElem_cons hm, h46]
  have e2 : l.drop (p + 1) = (l.drop (p + 1)).take m ++ l.drop (p + 1 + m) := by rw [show l.drop (p + 1 + m) = (l.drop (p + 1)).drop m by rw [List.drop_drop]]; exact (List.take_append_drop _ _).symm
  rw [List.singleton_append, ← e]
  exact e2
theorem run_of_tat {l r : List UInt8} {p m n : Nat} (hrun : Run4 l (p + 1) m) (h : Tat (l.drop p) (.var n) r) :
    n ≤ 999 ∧ Lib.decDigits n = (l.drop (p + 1)).take m ∧ ∃ h : p + 1 + m < l.length, l[p + 1 + m] = 46 := by
  have hn : n ≤ 999 := h.1
  have hk := decDigits_short hn
  have h2 : l.drop (p + 1) = Lib.decDigits n ++ 46 :: r := by
    have := congrArg (List.drop 1) h.2
    rw [List.drop_drop, Tm.bytes, List.cons_append, List.drop_succ_cons, List.drop_zero, List.append_assoc] at this
    exact this
  have hat : ∀ j, j < (Lib.decDigits n).length + 1 → ∃ hj : p + 1 + j < l.length, l[p + 1 + j]? = (Lib.decDigits n ++ 46 :: r)[j]? := fun j hj => by
    have e : (l.drop (p + 1))[j]? = l[p + 1 + j]? := by rw [List.getElem?_drop]
    rw [h2] at e
    have hlt : j < (Lib.decDigits n ++ 46 :: r).length := by simp; omega
    rw [List.getElem?_eq_getElem hlt] at e
    refine ⟨?_, by rw [← e, List.getElem?_eq_getElem hlt]⟩
    by_cases hc : p + 1 + j < l.length
    · exact hc
    · rw [List.getElem?_eq_none (by omega)] at e; cases e
  obtain ⟨r1, r2, r3, r4⟩ := hrun
  have hdig : ∀ j (hj : j < (Lib.decDigits n).length) (hl : p + 1 + j < l.length), isDig l[p + 1 + j] := fun j hj hl => by
    obtain ⟨_, e⟩ := hat j (by omega)
    rw [List.getElem?_eq_getElem hl, List.getElem?_append_left hj, List.getElem?_eq_getElem hj] at e
    injection e with e
    rw [e]
    exact digits_byte n _ (List.getElem_mem hj)
  obtain ⟨hkl, ek⟩ := hat (Lib.decDigits n).length (by omega)
  rw [List.getElem?_eq_getElem hkl, List.getElem?_append_right (Nat.le_refl _), Nat.sub_self, List.getElem?_cons_zero] at ek
  injection ek with ek
  have hmk : m = (Lib.decDigits n).length := by
    rcases Nat.lt_trichotomy m (Lib.decDigits n).length with hlt | heq | hgt
    · exfalso
      rcases r4 with r4 | r4 | ⟨r4, r5⟩
      · omega
      · omega
      · exact r5 (hdig m hlt r4)
    · exact heq
    · exfalso
      have := r3 _ hkl hgt
      rw [ek] at this
      revert this
      unfold isDig
      decide
  subst hmk
  exact ⟨hn, by rw [h2]; simp, hkl, ek⟩
theorem kind_var {t : Tm} (h : t.kind = 118) : ∃ n, t = .var n := by
  cases t with
  | var n => exact ⟨n, rfl⟩
  | _ => exact absurd h (by simp only [Tm.kind]; decide)
theorem kind_sort {t : Tm} (h : t.kind = 115) : ∃ n, t = .sort n := by
  cases t with
  | sort n => exact ⟨n, rfl⟩
  | _ => exact absurd h (by simp only [Tm.kind]; decide)
theorem kind_const {t : Tm} (h : t.kind = 99) : ∃ n ls, t = .const n ls := by
  cases t with
  | const n ls => exact ⟨n, ls, rfl⟩
  | _ => exact absurd h (by simp only [Tm.kind]; decide)
theorem var_no {l : List UInt8} {p m : Nat} (hp : p < l.length) (hc : l[p] = 118) (hrun : Run4 l (p + 1) m)
    (h : (∀ n, n ≤ 999 → Lib.decDigits n ≠ (l.drop (p + 1)).take m) ∨ l.length ≤ p + 1 + m ∨ ∃ h : p + 1 + m < l.length, l[p + 1 + m] ≠ 46) : ∀ t r, Tat (l.drop p) t r → t.isLeaf = false := by
  intro t r ht
  exfalso
  obtain ⟨n, rfl⟩ := kind_var ((tat_head hp ht).trans hc)
  obtain ⟨h1, h2, h3, h4⟩ := run_of_tat hrun ht
  rcases h with h | h | ⟨h, h'⟩
  · exact h n h1 h2
  · omega
  · exact h' h4

/-- The two boxes of a leaf: its result and its node. -/
def boxW (w : World) (k : Int) : World := (w.alloc (.cells #[.int .u8 0, .int .i64 0, .int .i64 0, .int .i64 0, .int .i64 0, .string ⟨#[]⟩, .slice none 0 0] 93)).alloc (.cells #[.int .u8 k, .int .i64 0, .int .i64 0, .int .i64 0, .int .i64 0, .string ⟨#[]⟩, .slice none 0 0] 93)
theorem box_res {w w1 : World} {k : Int} (hb : Below (boxW w k).heap.size (boxW w k) w1) : w1.cell? ⟨w.heap.size, 0, none⟩ = some (.int .u8 0) ∧ w1.cell? ⟨w.heap.size, 1, none⟩ = some (.int .i64 0) ∧ w1.cell? ⟨w.heap.size, 2, none⟩ = some (.int .i64 0) ∧ w1.cell? ⟨w.heap.size, 3, none⟩ = some (.int .i64 0) ∧ w1.cell? ⟨w.heap.size, 4, none⟩ = some (.int .i64 0) ∧ w1.cell? ⟨w.heap.size, 5, none⟩ = some (.string ⟨#[]⟩) ∧ w1.cell? ⟨w.heap.size, 6, none⟩ = some (.slice none 0 0) := by
  unfold boxW at hb
  have h := fun i => (hb.cell (p := ⟨w.heap.size, i, none⟩) (by simp; omega))
  refine ⟨(h 0).trans ?_, (h 1).trans ?_, (h 2).trans ?_, (h 3).trans ?_, (h 4).trans ?_, (h 5).trans ?_, (h 6).trans ?_⟩ <;> simp [go_sem]
theorem box_resF {w w1 : World} {k : Int} (hb : Below (boxW w k).heap.size (boxW w k) w1) : w1.frozen? ⟨w.heap.size, 0, none⟩ = false ∧ w1.frozen? ⟨w.heap.size, 1, none⟩ = false ∧ w1.frozen? ⟨w.heap.size, 2, none⟩ = false ∧ w1.frozen? ⟨w.heap.size, 3, none⟩ = false ∧ w1.frozen? ⟨w.heap.size, 4, none⟩ = false ∧ w1.frozen? ⟨w.heap.size, 5, none⟩ = false ∧ w1.frozen? ⟨w.heap.size, 6, none⟩ = false := by
  unfold boxW at hb
  have h := fun i => (hb.frozen (p := ⟨w.heap.size, i, none⟩) (by simp; omega))
  refine ⟨(h 0).trans ?_, (h 1).trans ?_, (h 2).trans ?_, (h 3).trans ?_, (h 4).trans ?_, (h 5).trans ?_, (h 6).trans ?_⟩ <;> simp
theorem box_node {w w1 : World} {k : Int} (hb : Below (boxW w k).heap.size (boxW w k) w1) : w1.cell? ⟨w.heap.size + 1, 0, none⟩ = some (.int .u8 k) ∧ w1.cell? ⟨w.heap.size + 1, 1, none⟩ = some (.int .i64 0) ∧ w1.cell? ⟨w.heap.size + 1, 2, none⟩ = some (.int .i64 0) ∧ w1.cell? ⟨w.heap.size + 1, 3, none⟩ = some (.int .i64 0) ∧ w1.cell? ⟨w.heap.size + 1, 4, none⟩ = some (.int .i64 0) ∧ w1.cell? ⟨w.heap.size + 1, 5, none⟩ = some (.string ⟨#[]⟩) ∧ w1.cell? ⟨w.heap.size + 1, 6, none⟩ = some (.slice none 0 0) := by
  unfold boxW at hb
  have h := fun i => (hb.cell (p := ⟨w.heap.size + 1, i, none⟩) (by simp))
  refine ⟨(h 0).trans ?_, (h 1).trans ?_, (h 2).trans ?_, (h 3).trans ?_, (h 4).trans ?_, (h 5).trans ?_, (h 6).trans ?_⟩ <;> simp [go_sem]
theorem box_nodeF {w w1 : World} {k : Int} (hb : Below (boxW w k).heap.size (boxW w k) w1) : w1.frozen? ⟨w.heap.size + 1, 0, none⟩ = false ∧ w1.frozen? ⟨w.heap.size + 1, 1, none⟩ = false ∧ w1.frozen? ⟨w.heap.size + 1, 2, none⟩ = false ∧ w1.frozen? ⟨w.heap.size + 1, 3, none⟩ = false ∧ w1.frozen? ⟨w.heap.size + 1, 4, none⟩ = false ∧ w1.frozen? ⟨w.heap.size + 1, 5, none⟩ = false ∧ w1.frozen? ⟨w.heap.size + 1, 6, none⟩ = false := by
  unfold boxW at hb
  have h := fun i => (hb.frozen (p := ⟨w.heap.size + 1, i, none⟩) (by simp))
  refine ⟨(h 0).trans ?_, (h 1).trans ?_, (h 2).trans ?_, (h 3).trans ?_, (h 4).trans ?_, (h 5).trans ?_, (h 6).trans ?_⟩ <;> simp

theorem sort_tat {l : List UInt8} {p k : Nat} (hp : p < l.length) (hc : l[p] = 115) (hk : lend 1 (l.drop (p + 1)) = some k) (h60 : k ≤ 60) (hm : p + 1 + k < l.length) (h46 : l[p + 1 + k] = 46) :
    Tat (l.drop p) (.sort ((l.drop (p + 1)).take k)) (l.drop (p + 1 + k + 1)) ∧ p + (Tm.sort ((l.drop (p + 1)).take k)).bytes.length = p + 1 + k + 1 := by
  have hlen : ((l.drop (p + 1)).take k).length = k := by simp; omega
  refine ⟨⟨levelOk_take hk h60, ?_⟩, by simp only [Tm.bytes, List.length_cons, List.length_append, hlen, List.length_nil]; omega⟩
  rw [Tm.bytes, List.drop_eq_getElem_cons hp, hc, List.cons_append, List.append_assoc]
  congr 1
  have e : l.drop (p + 1 + k) = 46 :: l.drop (p + 1 + k + 1) := by rw [List.drop_eq_getElem_cons hm, h46]
  have e2 : l.drop (p + 1) = (l.drop (p + 1)).take k ++ l.drop (p + 1 + k) := by rw [show l.drop (p + 1 + k) = (l.drop (p + 1)).drop k by rw [List.drop_drop]]; exact (List.take_append_drop _ _).symm
  rw [List.singleton_append, ← e]
  exact e2
theorem at_after {l : List UInt8} {p : Nat} {x : List UInt8} {c : UInt8} {r : List UInt8} (h : l.drop p = x ++ c :: r) : ∃ hj : p + x.length < l.length, l[p + x.length] = c := by
  have e : (l.drop p)[x.length]? = l[p + x.length]? := by rw [List.getElem?_drop]
  rw [h, List.getElem?_append_right (Nat.le_refl _), Nat.sub_self, List.getElem?_cons_zero] at e
  by_cases hc : p + x.length < l.length
  · rw [List.getElem?_eq_getElem hc] at e
    injection e with e
    exact ⟨hc, e.symm⟩
  · rw [List.getElem?_eq_none (by omega)] at e; cases e
theorem tat_tail {l r : List UInt8} {p : Nat} {t : Tm} {x : List UInt8} (h : Tat (l.drop p) t r) (hx : t.bytes = t.kind :: x) : l.drop (p + 1) = x ++ r := by
  have := congrArg (List.drop 1) h.2
  rw [List.drop_drop, hx, List.cons_append, List.drop_succ_cons, List.drop_zero] at this
  exact this
theorem sort_no {l : List UInt8} {p : Nat} (hp : p < l.length) (hc : l[p] = 115)
    (h : lend 1 (l.drop (p + 1)) = none ∨ ∃ k, lend 1 (l.drop (p + 1)) = some k ∧ (60 < k ∨ l.length ≤ p + 1 + k ∨ ∃ h : p + 1 + k < l.length, l[p + 1 + k] ≠ 46)) : ∀ t r, Tat (l.drop p) t r → t.isLeaf = false := by
  intro t r ht
  exfalso
  obtain ⟨n, rfl⟩ := kind_sort ((tat_head hp ht).trans hc)
  have hn : levelOk n = true := ht.1
  have h2 : l.drop (p + 1) = n ++ 46 :: r := by
    have := tat_tail ht (x := n ++ [46]) rfl
    rw [List.append_assoc] at this
    exact this
  have h3 := levelOk_app (r := 46 :: r) hn
  rw [← h2] at h3
  obtain ⟨h4, h5⟩ := at_after h2
  rcases h with h | ⟨k, h, h'⟩
  · rw [h] at h3; cases h3
  · rw [h] at h3
    injection h3 with h3
    subst h3
    have := (levelOk_len hn).1
    rcases h' with h' | h' | ⟨h', h6⟩
    · omega
    · omega
    · exact h6 h5
theorem ext_str (s : ByteArray) (a m : Nat) : (⟨((s.data.toList.drop a).take m).toArray⟩ : ByteArray) = s.extract a (a + m) := by
  refine str_eq ?_
  rw [extract_take]

set_option maxHeartbeats 4000000 in
theorem specLeafV (s : ByteArray) (p : Nat) (w : World) (hs : s.size ≤ 1000000000) (hp : p < s.size) (hc : s[p] = 118) :
    Calls Tryz.prog 152 #[.string s, .int .i64 (p : Int)] w (LeafPost s.data.toList p w) := by
  have f1 := Lib.hid fun W => specL06Digits s (p + 1) W hs (by omega)
  have e1 : ((s[p].toNat : Int) == 118) = true := is_byte hc
  have e2 : (s[p].toNat : Int) = 118 := by rw [hc]; rfl
  have HC := Lib.hid hc
  clear hc
  have q1 : (0 : Int) ≤ (p : Int) := by omega
  have q2 : (p : Int) < (s.size : Int) := by omega
  rw [show ((p + 1 : Nat) : Int) = (p : Int) + 1 by omega] at f1
  go_enter Tryz.func152, Tryz.ntmps152
  go_wp2_with fail
  (with_reducible refine (f1.out _).mono ?_); rintro e w1 ⟨hb1, m, hrun, (⟨n, hn, hd, rfl⟩ | ⟨hno, rfl⟩)⟩
  · obtain ⟨r0, r1, r2, r3, r4, r5, r6⟩ := box_res (w := w) (k := 118) hb1
    obtain ⟨z0, z1, z2, z3, z4, z5, z6⟩ := box_resF (w := w) (k := 118) hb1
    obtain ⟨n0, n1, n2, n3, n4, n5, n6⟩ := box_node (w := w) (k := 118) hb1
    obtain ⟨y0, y1, y2, y3, y4, y5, y6⟩ := box_nodeF (w := w) (k := 118) hb1
    have hz : w.heap.size + 1 < w1.heap.size := by have := hb1.size; simp at this; omega
    have HB := (((Below.refl w.heap.size w).alloc (Nat.le_refl _) _).alloc (by simp) _).trans (hb1.mono (by simp; omega))
    have HBH := Lib.hid HB
    have HR := Lib.hid hrun
    have HD := Lib.hid hd
    have hm1 : p + 1 + m ≤ s.size := hrun.2.1
    clear hb1 hrun hd HB
    have q3 : (0 : Int) ≤ (p : Int) + 1 + (m : Int) := by omega
    have d1 : decide ((p : Int) + 1 + (m : Int) < 0) = false := decide_eq_false (by omega)
    by_cases hlt : p + 1 + m < s.size
    · have q4 : (p : Int) + 1 + (m : Int) < (s.size : Int) := by omega
      have q5 : ((p : Int) + 1 + (m : Int)).toNat = p + 1 + m := by omega
      have d2 : decide ((s.size : Int) ≤ (p : Int) + 1 + (m : Int)) = false := decide_eq_false (by omega)
      by_cases h46 : s[p + 1 + m] = 46
      · have e3 : ((s[p + 1 + m].toNat : Int) == 46) = true := is_byte h46
        have e3' : ((s[p + 1 + m].toNat : Int) != 46) = false := by rw [bne, e3]; rfl
        have HT := Lib.hid (var_tat (l := s.data.toList) hp HC.out hn HD.out hlt h46)
        clear h46
        go_wp2
        have HB := HBH.out
        exact bodyPost_ret (v := .tuple #[.agg #[.int .u8 118, .int .i64 0, .int .i64 0, .int .i64 0, .int .i64 (n : Int), .string ⟨#[]⟩, .slice none 0 0], .int .i64 ((p : Int) + 1 + (m : Int) + 1)]) (by simp [results, Tryz.results152, go_sem, r0, r1, r2, r3, r4, r5, r6]) rfl ⟨(((((((HB.setCell (p := ⟨w.heap.size + 1, 4, none⟩) (by simp) _).setCell (p := ⟨w.heap.size, 0, none⟩) (Nat.le_refl _) _).setCell (p := ⟨w.heap.size, 1, none⟩) (Nat.le_refl _) _).setCell (p := ⟨w.heap.size, 2, none⟩) (Nat.le_refl _) _).setCell (p := ⟨w.heap.size, 3, none⟩) (Nat.le_refl _) _).setCell (p := ⟨w.heap.size, 4, none⟩) (Nat.le_refl _) _).setCell (p := ⟨w.heap.size, 5, none⟩) (Nat.le_refl _) _).setCell (p := ⟨w.heap.size, 6, none⟩) (Nat.le_refl _) _, ⟨118, 0, 0, 0, n, [], .slice none 0 0⟩, _, ⟨_, _, _, rfl⟩, rfl, .inl ⟨.var n, _, rfl, ⟨rfl, rfl, rfl⟩, HT.out.1, by rw [HT.out.2]; simp⟩⟩
      · have e3 : ((s[p + 1 + m].toNat : Int) == 46) = false := ne_byte h46
        have e3' : ((s[p + 1 + m].toNat : Int) != 46) = true := by rw [bne, e3]; rfl
        have HN := Lib.hid (var_no (l := s.data.toList) hp HC.out HR.out (.inr (.inr ⟨hlt, h46⟩)))
        clear h46
        go_wp2
        have HB := HBH.out
        exact bodyPost_ret (v := .tuple #[.agg #[.int .u8 118, .int .i64 0, .int .i64 0, .int .i64 0, .int .i64 (n : Int), .string ⟨#[]⟩, .slice none 0 0], .int .i64 (-1)]) (by simp [results, Tryz.results152, go_sem, r0, r1, r2, r3, r4, r5, r6]) rfl ⟨(((((((HB.setCell (p := ⟨w.heap.size + 1, 4, none⟩) (by simp) _).setCell (p := ⟨w.heap.size, 0, none⟩) (Nat.le_refl _) _).setCell (p := ⟨w.heap.size, 1, none⟩) (Nat.le_refl _) _).setCell (p := ⟨w.heap.size, 2, none⟩) (Nat.le_refl _) _).setCell (p := ⟨w.heap.size, 3, none⟩) (Nat.le_refl _) _).setCell (p := ⟨w.heap.size, 4, none⟩) (Nat.le_refl _) _).setCell (p := ⟨w.heap.size, 5, none⟩) (Nat.le_refl _) _).setCell (p := ⟨w.heap.size, 6, none⟩) (Nat.le_refl _) _, ⟨118, 0, 0, 0, n, [], .slice none 0 0⟩, _, ⟨_, _, _, rfl⟩, rfl, .inr ⟨rfl, HN.out⟩⟩
    · have d2 : decide ((s.size : Int) ≤ (p : Int) + 1 + (m : Int)) = true := decide_eq_true (by omega)
      have HN := Lib.hid (var_no (l := s.data.toList) hp HC.out HR.out (.inr (.inl (by show s.size ≤ _; omega))))
      go_wp2
      have HB := HBH.out
      exact bodyPost_ret (v := .tuple #[.agg #[.int .u8 118, .int .i64 0, .int .i64 0, .int .i64 0, .int .i64 (n : Int), .string ⟨#[]⟩, .slice none 0 0], .int .i64 (-1)]) (by simp [results, Tryz.results152, go_sem, r0, r1, r2, r3, r4, r5, r6]) rfl ⟨(((((((HB.setCell (p := ⟨w.heap.size + 1, 4, none⟩) (by simp) _).setCell (p := ⟨w.heap.size, 0, none⟩) (Nat.le_refl _) _).setCell (p := ⟨w.heap.size, 1, none⟩) (Nat.le_refl _) _).setCell (p := ⟨w.heap.size, 2, none⟩) (Nat.le_refl _) _).setCell (p := ⟨w.heap.size, 3, none⟩) (Nat.le_refl _) _).setCell (p := ⟨w.heap.size, 4, none⟩) (Nat.le_refl _) _).setCell (p := ⟨w.heap.size, 5, none⟩) (Nat.le_refl _) _).setCell (p := ⟨w.heap.size, 6, none⟩) (Nat.le_refl _) _, ⟨118, 0, 0, 0, n, [], .slice none 0 0⟩, _, ⟨_, _, _, rfl⟩, rfl, .inr ⟨rfl, HN.out⟩⟩
  · obtain ⟨r0, r1, r2, r3, r4, r5, r6⟩ := box_res (w := w) (k := 118) hb1
    obtain ⟨z0, z1, z2, z3, z4, z5, z6⟩ := box_resF (w := w) (k := 118) hb1
    obtain ⟨n0, n1, n2, n3, n4, n5, n6⟩ := box_node (w := w) (k := 118) hb1
    obtain ⟨y0, y1, y2, y3, y4, y5, y6⟩ := box_nodeF (w := w) (k := 118) hb1
    have hz : w.heap.size + 1 < w1.heap.size := by have := hb1.size; simp at this; omega
    have HB := (((Below.refl w.heap.size w).alloc (Nat.le_refl _) _).alloc (by simp) _).trans (hb1.mono (by simp; omega))
    have HBH := Lib.hid HB
    have HN := Lib.hid (var_no (l := s.data.toList) hp HC.out hrun (.inl hno))
    clear hb1 hrun hno HB
    go_wp2
    have HB := HBH.out
    exact bodyPost_ret (v := .tuple #[.agg #[.int .u8 118, .int .i64 0, .int .i64 0, .int .i64 0, .int .i64 0, .string ⟨#[]⟩, .slice none 0 0], .int .i64 (-1)]) (by simp [results, Tryz.results152, go_sem, r0, r1, r2, r3, r4, r5, r6]) rfl ⟨(((((((HB.setCell (p := ⟨w.heap.size + 1, 4, none⟩) (by simp) _).setCell (p := ⟨w.heap.size, 0, none⟩) (Nat.le_refl _) _).setCell (p := ⟨w.heap.size, 1, none⟩) (Nat.le_refl _) _).setCell (p := ⟨w.heap.size, 2, none⟩) (Nat.le_refl _) _).setCell (p := ⟨w.heap.size, 3, none⟩) (Nat.le_refl _) _).setCell (p := ⟨w.heap.size, 4, none⟩) (Nat.le_refl _) _).setCell (p := ⟨w.heap.size, 5, none⟩) (Nat.le_refl _) _).setCell (p := ⟨w.heap.size, 6, none⟩) (Nat.le_refl _) _, ⟨118, 0, 0, 0, 0, [], .slice none 0 0⟩, _, ⟨_, _, _, rfl⟩, rfl, .inr ⟨rfl, HN.out⟩⟩
end Go.Proofs.YtgielbamebjjdaaGreatDoor
