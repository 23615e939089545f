/-
  The contract of spec.l06Leaf at a sort and at another byte.
-/
import Derived.Test.YtgielbamebjjdaaGreatDoorTLeaf
namespace Go.Proofs.YtgielbamebjjdaaGreatDoor
set_option maxRecDepth 100000
open Go.ChangeShapes Go.WideShapes Go.ChangeAt Go.RowKit
set_option linter.unusedSimpArgs false

set_option maxHeartbeats 4000000 in
theorem specLeafS (s : ByteArray) (p : Nat) (w : World) (hs : s.size ≤ 1000000000) (hp : p < s.size) (hc : s[p] = 115) :
    Calls Tryz.prog 152 #[.string s, .int .i64 (p : Int)] w (LeafPost s.data.toList p w) := by
  have f1 := Lib.hid fun W => (specL06Level s (p + 1) W hs (by omega)).mono (fun e w' (h : _ ∧ _) => (⟨h.1, h.2 ▸ Below.refl _ _⟩ : e = .returned (.int .i64 (lvlEnd s.data.toList (p + 1))) ∧ Below W.heap.size W w'))
  have e0 : ((s[p].toNat : Int) == 118) = false := ne_byte (d := 118) (by rw [hc]; decide)
  have e1 : ((s[p].toNat : Int) == 115) = true := is_byte hc
  have e2 : (s[p].toNat : Int) = 115 := by rw [hc]; rfl
  have HC := Lib.hid hc
  clear hc
  have q1 : (0 : Int) ≤ (p : Int) := by omega
  have q2 : (p : Int) < (s.size : Int) := by omega
  rw [show ((p + 1 : Nat) : Int) = (p : Int) + 1 by omega] at f1
  by_cases hl : ∃ k, lend 1 (s.data.toList.drop (p + 1)) = some k ∧ k ≤ 60
  · obtain ⟨k, hk, h60⟩ := hl
    rw [show lvlEnd s.data.toList (p + 1) = (p : Int) + 1 + (k : Int) by rw [lvlEnd, hk]; simp [h60]] at f1
    have hkl := (lend_take _ _ _ hk).2
    rw [List.length_drop] at hkl
    have hm1 : p + 1 + k ≤ s.size := by have : s.data.toList.length = s.size := rfl; omega
    clear hkl
    have HK := Lib.hid hk
    clear hk
    go_enter Tryz.func152, Tryz.ntmps152
    go_wp2_with fail
    (with_reducible refine (f1.out _).mono ?_); rintro e w1 ⟨rfl, hb1⟩
    clear f1
    obtain ⟨r0, r1, r2, r3, r4, r5, r6⟩ := box_res (w := w) (k := 115) hb1
    obtain ⟨z0, z1, z2, z3, z4, z5, z6⟩ := box_resF (w := w) (k := 115) hb1
    obtain ⟨n0, n1, n2, n3, n4, n5, n6⟩ := box_node (w := w) (k := 115) hb1
    obtain ⟨y0, y1, y2, y3, y4, y5, y6⟩ := box_nodeF (w := w) (k := 115) hb1
    have HBH : Hid (Below w.heap.size w w1) := (((Below.refl w.heap.size w).alloc (Nat.le_refl _) _).alloc (by simp) _).trans (hb1.mono (by simp; omega))
    clear hb1
    have q3 : (0 : Int) ≤ (p : Int) + 1 + (k : Int) := by omega
    have q6 : (p : Int) + 1 ≤ (p : Int) + 1 + (k : Int) := by omega
    have q9 : (0 : Int) ≤ (p : Int) + 1 := by omega
    have q10 : ((p : Int) + 1).toNat = p + 1 := by omega
    have q7 : (p : Int) + 1 + (k : Int) ≤ (s.size : Int) := by omega
    have q8 : ((p : Int) + 1 + (k : Int)).toNat = p + 1 + k := by omega
    have d1 : decide ((p : Int) + 1 + (k : Int) < 0) = false := decide_eq_false (by omega)
    have d0 : decide ((0 : Int) ≤ (p : Int) + 1 + (k : Int)) = true := decide_eq_true (by omega)
    by_cases hlt : p + 1 + k < s.size
    · have q4 : (p : Int) + 1 + (k : Int) < (s.size : Int) := by omega
      have d2 : decide ((s.size : Int) ≤ (p : Int) + 1 + (k : Int)) = false := decide_eq_false (by omega)
      by_cases h46 : s[p + 1 + k] = 46
      · have e3 : ((s[p + 1 + k].toNat : Int) == 46) = true := is_byte h46
        have e3' : ((s[p + 1 + k].toNat : Int) != 46) = false := by rw [bne, e3]; rfl
        have HT := Lib.hid (sort_tat (l := s.data.toList) hp HC.out HK.out h60 hlt h46)
        clear h46
        go_wp2
        exact bodyPost_ret (v := .tuple #[.agg #[.int .u8 115, .int .i64 0, .int .i64 0, .int .i64 0, .int .i64 0, .string (s.extract (p + 1) (p + 1 + k)), .slice none 0 0], .int .i64 ((p : Int) + 1 + (k : Int) + 1)]) (by simp [results, Tryz.results152, go_sem, r0, r1, r2, r3, r4, r5, r6]) rfl ⟨((((((((HBH.out.setCell (p := ⟨w.heap.size + 1, 5, none⟩) (by simp) _).setCell (p := ⟨w.heap.size, 0, none⟩) (Nat.le_refl _) _).setCell (p := ⟨w.heap.size, 1, none⟩) (Nat.le_refl _) _).setCell (p := ⟨w.heap.size, 2, none⟩) (Nat.le_refl _) _).setCell (p := ⟨w.heap.size, 3, none⟩) (Nat.le_refl _) _).setCell (p := ⟨w.heap.size, 4, none⟩) (Nat.le_refl _) _).setCell (p := ⟨w.heap.size, 5, none⟩) (Nat.le_refl _) _).setCell (p := ⟨w.heap.size, 6, none⟩) (Nat.le_refl _) _), ⟨115, 0, 0, 0, 0, (s.data.toList.drop (p + 1)).take k, .slice none 0 0⟩, _, ⟨_, _, _, rfl⟩, by rw [Nd.cells, ext_str]; rfl, .inl ⟨.sort ((s.data.toList.drop (p + 1)).take k), _, rfl, ⟨rfl, rfl, rfl⟩, HT.out.1, by rw [HT.out.2]; simp⟩⟩
      · have e3 : ((s[p + 1 + k].toNat : Int) == 46) = false := ne_byte h46
        have e3' : ((s[p + 1 + k].toNat : Int) != 46) = true := by rw [bne, e3]; rfl
        have HN := Lib.hid (sort_no (l := s.data.toList) hp HC.out (.inr ⟨k, HK.out, .inr (.inr ⟨hlt, h46⟩)⟩))
        clear h46
        go_wp2
        exact bodyPost_ret (v := .tuple #[.agg #[.int .u8 115, .int .i64 0, .int .i64 0, .int .i64 0, .int .i64 0, .string (s.extract (p + 1) (p + 1 + k)), .slice none 0 0], .int .i64 (-1)]) (by simp [results, Tryz.results152, go_sem, r0, r1, r2, r3, r4, r5, r6]) rfl ⟨((((((((HBH.out.setCell (p := ⟨w.heap.size + 1, 5, none⟩) (by simp) _).setCell (p := ⟨w.heap.size, 0, none⟩) (Nat.le_refl _) _).setCell (p := ⟨w.heap.size, 1, none⟩) (Nat.le_refl _) _).setCell (p := ⟨w.heap.size, 2, none⟩) (Nat.le_refl _) _).setCell (p := ⟨w.heap.size, 3, none⟩) (Nat.le_refl _) _).setCell (p := ⟨w.heap.size, 4, none⟩) (Nat.le_refl _) _).setCell (p := ⟨w.heap.size, 5, none⟩) (Nat.le_refl _) _).setCell (p := ⟨w.heap.size, 6, none⟩) (Nat.le_refl _) _), ⟨115, 0, 0, 0, 0, (s.data.toList.drop (p + 1)).take k, .slice none 0 0⟩, _, ⟨_, _, _, rfl⟩, by rw [Nd.cells, ext_str]; rfl, .inr ⟨rfl, HN.out⟩⟩
    · have d2 : decide ((s.size : Int) ≤ (p : Int) + 1 + (k : Int)) = true := decide_eq_true (by omega)
      have HN := Lib.hid (sort_no (l := s.data.toList) hp HC.out (.inr ⟨k, HK.out, .inr (.inl (by show s.size ≤ _; omega))⟩))
      go_wp2
      exact bodyPost_ret (v := .tuple #[.agg #[.int .u8 115, .int .i64 0, .int .i64 0, .int .i64 0, .int .i64 0, .string (s.extract (p + 1) (p + 1 + k)), .slice none 0 0], .int .i64 (-1)]) (by simp [results, Tryz.results152, go_sem, r0, r1, r2, r3, r4, r5, r6]) rfl ⟨((((((((HBH.out.setCell (p := ⟨w.heap.size + 1, 5, none⟩) (by simp) _).setCell (p := ⟨w.heap.size, 0, none⟩) (Nat.le_refl _) _).setCell (p := ⟨w.heap.size, 1, none⟩) (Nat.le_refl _) _).setCell (p := ⟨w.heap.size, 2, none⟩) (Nat.le_refl _) _).setCell (p := ⟨w.heap.size, 3, none⟩) (Nat.le_refl _) _).setCell (p := ⟨w.heap.size, 4, none⟩) (Nat.le_refl _) _).setCell (p := ⟨w.heap.size, 5, none⟩) (Nat.le_refl _) _).setCell (p := ⟨w.heap.size, 6, none⟩) (Nat.le_refl _) _), ⟨115, 0, 0, 0, 0, (s.data.toList.drop (p + 1)).take k, .slice none 0 0⟩, _, ⟨_, _, _, rfl⟩, by rw [Nd.cells, ext_str]; rfl, .inr ⟨rfl, HN.out⟩⟩
  · have HN := Lib.hid (sort_no (l := s.data.toList) hp HC.out (by
      cases hk : lend 1 (s.data.toList.drop (p + 1)) with
      | none => exact .inl rfl
      | some k => exact .inr ⟨k, rfl, .inl (by have : ¬ k ≤ 60 := fun h => hl ⟨k, hk, h⟩; omega)⟩))
    rw [show lvlEnd s.data.toList (p + 1) = -1 by
      rw [lvlEnd]
      split
      · rename_i k hk
        rw [if_neg (fun h => hl ⟨k, hk, h⟩)]
      · rfl] at f1
    clear hl
    go_enter Tryz.func152, Tryz.ntmps152
    go_wp2_with fail
    (with_reducible refine (f1.out _).mono ?_); rintro e w1 ⟨rfl, hb1⟩
    clear f1
    obtain ⟨r0, r1, r2, r3, r4, r5, r6⟩ := box_res (w := w) (k := 115) hb1
    obtain ⟨z0, z1, z2, z3, z4, z5, z6⟩ := box_resF (w := w) (k := 115) hb1
    obtain ⟨n0, n1, n2, n3, n4, n5, n6⟩ := box_node (w := w) (k := 115) hb1
    obtain ⟨y0, y1, y2, y3, y4, y5, y6⟩ := box_nodeF (w := w) (k := 115) hb1
    have HBH : Hid (Below w.heap.size w w1) := (((Below.refl w.heap.size w).alloc (Nat.le_refl _) _).alloc (by simp) _).trans (hb1.mono (by simp; omega))
    clear hb1
    go_wp2
    exact bodyPost_ret (v := .tuple #[.agg #[.int .u8 115, .int .i64 0, .int .i64 0, .int .i64 0, .int .i64 0, .string ⟨#[]⟩, .slice none 0 0], .int .i64 (-1)]) (by simp [results, Tryz.results152, go_sem, r0, r1, r2, r3, r4, r5, r6]) rfl ⟨(((((((HBH.out.setCell (p := ⟨w.heap.size, 0, none⟩) (Nat.le_refl _) _).setCell (p := ⟨w.heap.size, 1, none⟩) (Nat.le_refl _) _).setCell (p := ⟨w.heap.size, 2, none⟩) (Nat.le_refl _) _).setCell (p := ⟨w.heap.size, 3, none⟩) (Nat.le_refl _) _).setCell (p := ⟨w.heap.size, 4, none⟩) (Nat.le_refl _) _).setCell (p := ⟨w.heap.size, 5, none⟩) (Nat.le_refl _) _).setCell (p := ⟨w.heap.size, 6, none⟩) (Nat.le_refl _) _), ⟨115, 0, 0, 0, 0, [], .slice none 0 0⟩, _, ⟨_, _, _, rfl⟩, rfl, .inr ⟨rfl, HN.out⟩⟩
end Go.Proofs.YtgielbamebjjdaaGreatDoor
