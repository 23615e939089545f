/-
  The contract of spec.l02Sorted: the strings of a list, rising, each once.
-/
import Derived.Test.YtgielbamebjjdaaDoorSMath
import Derived.Test.YtgielbamebjjdaaDoorHeldW
import Derived.Test.YtgielbamebjjdaaDoorNWalks2
import Derived.Laws.AppendOwnNone
import Derived.Sort.Walk0
import Derived.Laws.Cover1
import Derived.Laws.ResultCell
namespace Go.Proofs.YtgielbamebjjdaaDoor
set_option maxRecDepth 100000
open Go.ChangeShapes Go.WideShapes Go.ChangeAt Go.RowKit
set_option linter.unusedSimpArgs false

/-- A slice, not nil, over strings. -/
def View (w : World) (v : Value) (l : List BL) : Prop :=
  ∃ b off cap : Nat, v = .slice (some ⟨b, off, none⟩) l.length cap ∧ l.length ≤ cap ∧ cap ≤ maxLen ∧ b < w.heap.size ∧ ∀ j (h : j < l.length), w.cell? ⟨b, off + j, none⟩ = some (sv l[j])
theorem View.below {w w' : World} {v : Value} {l : List BL} (h : View w v l) (hb : Below w.heap.size w w') : View w' v l := by
  obtain ⟨b, off, cap, h1, h2, h3, h4, h5⟩ := h
  refine ⟨b, off, cap, h1, h2, h3, Nat.lt_of_lt_of_le h4 hb.size, fun j hj => ?_⟩
  rw [hb.cell (p := ⟨b, off + j, none⟩) h4]
  exact h5 j hj
theorem View.take {w : World} {b off cap : Nat} {l : List BL} (h : View w (.slice (some ⟨b, off, none⟩) l.length cap) l) (k : Nat) (hk : k ≤ l.length) : View w (.slice (some ⟨b, off, none⟩) k cap) (l.take k) := by
  obtain ⟨b', off', cap', h1, h2, h3, h4, h5⟩ := h
  simp only [Value.slice.injEq, Option.some.injEq, Addr.mk.injEq, and_true, true_and] at h1
  obtain ⟨⟨rfl, rfl⟩, rfl⟩ := h1
  have e : (l.take k).length = k := by simp; omega
  refine ⟨b, off, cap, by rw [e], by omega, h3, h4, fun j hj => ?_⟩
  rw [e] at hj
  rw [h5 j (by omega), List.getElem_take]
theorem View.drop {w : World} {b off cap : Nat} {l : List BL} (h : View w (.slice (some ⟨b, off, none⟩) l.length cap) l) (k : Nat) (hk : k ≤ l.length) : View w (.slice (some ⟨b, off + k, none⟩) (l.length - k) (cap - k)) (l.drop k) := by
  obtain ⟨b', off', cap', h1, h2, h3, h4, h5⟩ := h
  simp only [Value.slice.injEq, Option.some.injEq, Addr.mk.injEq, and_true, true_and] at h1
  obtain ⟨⟨rfl, rfl⟩, rfl⟩ := h1
  have e : (l.drop k).length = l.length - k := by simp
  refine ⟨b, off + k, cap - k, by rw [e], by omega, by omega, h4, fun j hj => ?_⟩
  rw [e] at hj
  rw [Nat.add_assoc, h5 (k + j) (by omega), List.getElem_drop]
theorem srt_pos {l : List BL} (h : 0 < l.length) : 0 < (srt l).length := by
  obtain ⟨_, s2, _⟩ := srt_spec l.length l (Nat.le_refl _)
  have := (s2 l[0]).2 (List.getElem_mem h)
  exact List.length_pos_of_mem this
theorem one_map (l : List BL) : ∀ u ∈ l.map sv, u.oneCell' = true := by
  intro u hu
  obtain ⟨x, _, rfl⟩ := List.mem_map.1 hu
  rfl

theorem own_mono' {w : World} {base base' : Nat} {e : TypeId} {size : Nat} {v : Value} {n : Nat} {xs : List Value} (h : w.ownsRow base e size v n xs) (hb : base' ≤ base) : w.ownsRow base' e size v n xs := by
  refine ⟨h.1, ?_⟩
  rcases h.2 with h | ⟨g, cap, cur, h1, h2, h3⟩
  · exact .inl h
  · exact .inr ⟨g, cap, cur, h1, Nat.le_trans hb h2, h3⟩
theorem psh_nil (x : BL) : psh [] x = [x] := by simp [psh]
theorem psh_same (r : List BL) (x : BL) : psh (r ++ [x]) x = r ++ [x] := by simp [psh]
theorem psh_other {r : List BL} {z x : BL} (h : z ≠ x) : psh (r ++ [z]) x = r ++ [z] ++ [x] := by simp [psh, h]
theorem leq_true {x y : BL} (h : x ≤ y) : (Op.bytesLess x y || x == y) = true := by
  rw [bytesLess_eq]
  by_cases e : x = y
  · simp [e]
  · simp [lt_of_le_ne h e]
theorem leq_false {x y : BL} (h : ¬ x ≤ y) : (Op.bytesLess x y || x == y) = false := by
  rw [bytesLess_eq, Bool.or_eq_false_iff]
  refine ⟨decide_eq_false fun h2 => h (List.le_of_lt h2), ?_⟩
  rw [beq_eq_false_iff_ne]
  rintro rfl
  exact h (List.le_refl _)

set_option maxHeartbeats 4000000 in
theorem specSorted (n : Nat) : ∀ (l : List BL), l.length ≤ n → l.length ≤ 2097152 → ∀ (w : World) (v : Value), View w v l → Calls Tryd.prog 11 #[v] w (LRes (srt l) w) := by
  induction n using Nat.strongRecOn with
  | ind n ih =>
    intro l hln hn w v hV
    obtain ⟨i0, hi, hz0, hz1, hz2⟩ := info_parts infoStr
    by_cases hsm : l.length < 2
    · obtain ⟨b, off, cap, rfl, hc1, hc2, hb, hcells⟩ := hV
      have HR := Lib.hid (srt_small hsm)
      have hd : decide ((l.length : Int) < 2) = true := decide_eq_true (by omega)
      have hnews : ∀ j u, (l.map sv)[j]? = some u → (w.alloc (.cells #[] 9)).cell? ((⟨b, off, none⟩ : Addr).add j) = some u := by
        intro j u hu
        obtain ⟨hj, rfl⟩ := List.getElem?_eq_some_iff.1 hu
        have hj2 : j < l.length := by simpa using hj
        rw [add_plain, List.getElem_map, ← hcells j hj2]
        exact (Below.cell ((Below.refl w.heap.size w).alloc (Nat.le_refl _) _) (p := ⟨b, off + j, none⟩) hb)
      clear hcells ih
      go_enter Tryd.func11, Tryd.ntmps11
      go_wp2_with (at_builtin; refine wpList_append_own _ rfl _ _ 24 rfl w.heap.size 9 i0 _ 1 16 Tryd.underlying24 hi hz0 hz1 hz2 rfl (by decide) _ 0 [] rfl (World.ownsRow_lit w #[] 0 (Nat.le_refl _) (by decide) (by simp)) ⟨b, off, none⟩ l.length cap (l.map sv) rfl (by simp) hnews (one_map l) (by simp only [maxLen]; omega) (by omega) (by simp) ?_; intro v1 w1 hown1 hgrow hat)
      go_ret
      rw [HR.out]
      exact ⟨_, rfl, by simpa using hown1, ((Below.refl _ _).alloc (Nat.le_refl _) _).grown hgrow (by simp) (fun j hj => by cases hj; exact Nat.le_refl _)⟩
    · have HR := Lib.hid (srt_large hsm)
      obtain ⟨b, off, cap, rfl, hc1, hc2, hb, _⟩ := id hV
      unfold maxLen at hc2
      have hd : decide ((l.length : Int) < 2) = false := decide_eq_false (by omega)
      obtain ⟨m, hm⟩ : ∃ m, l.length / 2 = m := ⟨_, rfl⟩
      rw [hm] at HR
      have hq : (l.length : Int) / 2 = (m : Int) := by omega
      have hm1 : 1 ≤ m := by omega
      have hm2 : m < l.length := by omega
      clear hm
      have hA := Lib.hid (hV.take m (by omega))
      have hB := Lib.hid (hV.drop m (by omega))
      have e1 : (l.take m).length = m := by simp; omega
      have e2 : (l.drop m).length = l.length - m := by simp
      have f1 := Lib.hid fun W v h => ih m (by omega) (l.take m) (by omega) (by omega) W v h
      have f2 := Lib.hid fun W v h => ih (l.length - m) (by omega) (l.drop m) (by omega) (by omega) W v h
      have p1 := srt_pos (l := l.take m) (by omega)
      have p2 := srt_pos (l := l.drop m) (by omega)
      have s1 := (srt_spec _ (l.take m) (Nat.le_refl _)).2.2
      have s2 := (srt_spec _ (l.drop m) (Nat.le_refl _)).2.2
      rw [e1] at s1
      rw [e2] at s2
      clear e1 e2 hV ih
      generalize srt (l.take m) = A at HR f1 p1 s1
      generalize srt (l.drop m) = B at HR f2 p2 s2
      go_enter Tryd.func11, Tryd.ntmps11
      go_wp2_with fail
      (refine (f1.out _ _ hA.out).mono ?_); rintro e w1 ⟨v1, rfl, ho1, hb1⟩
      go_wp2_with fail
      (refine (f2.out _ _ (hB.out.below hb1)).mono ?_); rintro e w2 ⟨v2, rfl, ho2, hb2⟩
      have hB2 := hb1.trans (hb2.mono hb1.size)
      have ho1' := own_below ho1 hb2
      obtain ⟨g1, c1, rfl, _, hg1⟩ := ho1'.form p1
      obtain ⟨g2, c2, rfl, _, hg2⟩ := ho2.form p2
      have hzw := hB2.size
      clear ho1 hb1 hb2 hA hB f1 f2
      go_wp2
      go_loopw [5, 6, 7] (fun vo iv kv wr => ∃ (i k : Nat) (out : List BL) (g cp : Nat), i ≤ A.length ∧ k ≤ B.length ∧ out.length ≤ i + k ∧ iv = .int .i64 i ∧ kv = .int .i64 k ∧ vo = .slice (some ⟨g, 0, none⟩) out.length cp ∧ wr.ownsRow w2.heap.size 9 1 (.slice (some ⟨g, 0, none⟩) out.length cp) out.length (out.map sv) ∧ Below w2.heap.size w2 wr ∧ Hid (mrg A B [] = mrg (A.drop i) (B.drop k) out))
        (fun _ iv kv _ => (A.length - (intOf iv).toNat) + (B.length - (intOf kv).toNat))
      case atStart => exact ⟨0, 0, [], w2.heap.size, 0, Nat.zero_le _, Nat.zero_le _, Nat.le_refl _, rfl, rfl, rfl, World.ownsRow_lit w2 #[] 0 (Nat.le_refl _) (by decide) (by simp), (Below.refl _ _).alloc (Nat.le_refl _) _, by simp [Hid]⟩
      case round =>
        obtain ⟨i, k, out, g, cp, hik, hkk, hol, rfl, rfl, rfl, hown, hbel, HS⟩ := hrel
        have hl := hown.lt
        have hzz := hbel.size
        have bn : out.length + 1 ≤ 4194304 := by omega
        by_cases hi1 : i < A.length
        · have ca := (hbel.cell (p := ⟨g1, i, none⟩) hg1).trans (ho1'.cellAt i (by omega))
          have exa : (A.map sv)[i]? = some (sv A[i]) := by simp [hi1]
          rw [exa] at ca
          unfold sv at ca
          have qa1 : (0 : Int) ≤ (i : Int) := by omega
          have qa2 : (i : Int) < (A.length : Int) := by omega
          have da : decide ((i : Int) < (A.length : Int)) = true := decide_eq_true qa2
          by_cases hk1 : k < B.length
          · have cb := (hbel.cell (p := ⟨g2, k, none⟩) hg2).trans (ho2.cellAt k (by omega))
            have exb : (B.map sv)[k]? = some (sv B[k]) := by simp [hk1]
            rw [exb] at cb
            unfold sv at cb
            have qb1 : (0 : Int) ≤ (k : Int) := by omega
            have qb2 : (k : Int) < (B.length : Int) := by omega
            have db : decide ((B.length : Int) ≤ (k : Int)) = false := decide_eq_false (by omega)
            have HML := Lib.hid fun (h : A[i] ≤ B[k]) => HS.out.trans (mrg_left (b := B) (k := k) out hi1 (fun _ => h))
            have HMR := Lib.hid fun (h : ¬ A[i] ≤ B[k]) => HS.out.trans (mrg_right (a := A) (i := i) out hk1 (fun _ => h))
            clear exa exb HS
            generalize A[i] = xa at ca HML HMR
            generalize B[k] = xb at cb HML HMR
            have hct := Lib.hid (leq_true (x := xa) (y := xb))
            have hcf := Lib.hid (leq_false (x := xa) (y := xb))
            generalize hc : (Op.bytesLess xa xb || xa == xb) = c at hct hcf
            go_wp2_with fail
            refine wp_region_held_drew (S := fun w' => w'.cell? ⟨g1, i, none⟩ = some (.string ⟨xa.toArray⟩) ∧ w'.cell? ⟨g2, k, none⟩ = some (.string ⟨xb.toArray⟩)) (by kernel_rfl) ⟨ca, cb⟩ (fun hS0 => ?_)
            refine heldW 0 38 (.int .i64 (k : Int)) rfl rfl (by kernel_rfl) (by kernel_rfl) (by kernel_rfl) (fun _ _ _ h => h) (by rfl) hS0 (fun W hSW => ?_) ?_
            · (try dsimp only at hSW); (try obtain ⟨hSA, hSB⟩ := hSW); go_simp <;> omega
            simp only [Act.put, List.setIfInBounds_toArray, List.set_cons_zero, List.set_cons_succ]
            refine heldW 1 39 (.slice (some ⟨g2, 0, none⟩) B.length c2) rfl rfl (by kernel_rfl) (by kernel_rfl) (by kernel_rfl) (fun _ _ _ h => h) (by rfl) hS0 (fun W hSW => ?_) ?_
            · (try dsimp only at hSW); (try obtain ⟨hSA, hSB⟩ := hSW); go_simp <;> omega
            simp only [Act.put, List.setIfInBounds_toArray, List.set_cons_zero, List.set_cons_succ]
            refine heldW 2 40 (.int .i64 (B.length : Int)) rfl rfl (by kernel_rfl) (by kernel_rfl) (by kernel_rfl) (fun _ _ _ h => h) (by rfl) hS0 (fun W hSW => ?_) ?_
            · (try dsimp only at hSW); (try obtain ⟨hSA, hSB⟩ := hSW); go_simp <;> omega
            simp only [Act.put, List.setIfInBounds_toArray, List.set_cons_zero, List.set_cons_succ]
            refine heldW 3 41 (.bool false) rfl rfl (by kernel_rfl) (by kernel_rfl) (by kernel_rfl) (fun _ _ _ h => h) (by rfl) hS0 (fun W hSW => ?_) ?_
            · (try dsimp only at hSW); (try obtain ⟨hSA, hSB⟩ := hSW); go_simp <;> omega
            simp only [Act.put, List.setIfInBounds_toArray, List.set_cons_zero, List.set_cons_succ]
            refine heldW 4 42 (.bool false) rfl rfl (by kernel_rfl) (by kernel_rfl) (by kernel_rfl) (fun _ _ _ h => h) (by rfl) hS0 (fun W hSW => ?_) ?_
            · (try dsimp only at hSW); (try obtain ⟨hSA, hSB⟩ := hSW); go_simp <;> omega
            simp only [Act.put, List.setIfInBounds_toArray, List.set_cons_zero, List.set_cons_succ]
            refine heldW 5 43 (.int .i64 (i : Int)) rfl rfl (by kernel_rfl) (by kernel_rfl) (by kernel_rfl) (fun _ _ _ h => h) (by rfl) hS0 (fun W hSW => ?_) ?_
            · (try dsimp only at hSW); (try obtain ⟨hSA, hSB⟩ := hSW); go_simp <;> omega
            simp only [Act.put, List.setIfInBounds_toArray, List.set_cons_zero, List.set_cons_succ]
            refine heldW 6 44 (.slice (some ⟨g1, 0, none⟩) A.length c1) rfl rfl (by kernel_rfl) (by kernel_rfl) (by kernel_rfl) (fun _ _ _ h => h) (by rfl) hS0 (fun W hSW => ?_) ?_
            · (try dsimp only at hSW); (try obtain ⟨hSA, hSB⟩ := hSW); go_simp <;> omega
            simp only [Act.put, List.setIfInBounds_toArray, List.set_cons_zero, List.set_cons_succ]
            refine heldW 7 45 (.int .i64 (A.length : Int)) rfl rfl (by kernel_rfl) (by kernel_rfl) (by kernel_rfl) (fun _ _ _ h => h) (by rfl) hS0 (fun W hSW => ?_) ?_
            · (try dsimp only at hSW); (try obtain ⟨hSA, hSB⟩ := hSW); go_simp <;> omega
            simp only [Act.put, List.setIfInBounds_toArray, List.set_cons_zero, List.set_cons_succ]
            refine heldW 8 46 (.bool true) rfl rfl (by kernel_rfl) (by kernel_rfl) (by kernel_rfl) (fun _ _ _ h => h) (by rfl) hS0 (fun W hSW => ?_) ?_
            · (try dsimp only at hSW); (try obtain ⟨hSA, hSB⟩ := hSW); go_simp <;> omega
            simp only [Act.put, List.setIfInBounds_toArray, List.set_cons_zero, List.set_cons_succ]
            refine heldW 9 47 (.bool true) rfl rfl (by kernel_rfl) (by kernel_rfl) (by kernel_rfl) (fun _ _ _ h => h) (by rfl) hS0 (fun W hSW => ?_) ?_
            · (try dsimp only at hSW); (try obtain ⟨hSA, hSB⟩ := hSW); go_simp <;> omega
            simp only [Act.put, List.setIfInBounds_toArray, List.set_cons_zero, List.set_cons_succ]
            refine heldW 10 48 (.slice (some ⟨g1, 0, none⟩) A.length c1) rfl rfl (by kernel_rfl) (by kernel_rfl) (by kernel_rfl) (fun _ _ _ h => h) (by rfl) hS0 (fun W hSW => ?_) ?_
            · (try dsimp only at hSW); (try obtain ⟨hSA, hSB⟩ := hSW); go_simp <;> omega
            simp only [Act.put, List.setIfInBounds_toArray, List.set_cons_zero, List.set_cons_succ]
            refine heldW 11 49 (.int .i64 (i : Int)) rfl rfl (by kernel_rfl) (by kernel_rfl) (by kernel_rfl) (fun _ _ _ h => h) (by rfl) hS0 (fun W hSW => ?_) ?_
            · (try dsimp only at hSW); (try obtain ⟨hSA, hSB⟩ := hSW); go_simp <;> omega
            simp only [Act.put, List.setIfInBounds_toArray, List.set_cons_zero, List.set_cons_succ]
            refine heldW 12 50 (.pointer (some ⟨g1, i, none⟩)) rfl rfl (by kernel_rfl) (by kernel_rfl) (by kernel_rfl) (fun _ _ _ h => h) (by rfl) hS0 (fun W hSW => ?_) ?_
            · (try dsimp only at hSW); (try obtain ⟨hSA, hSB⟩ := hSW); go_simp <;> omega
            simp only [Act.put, List.setIfInBounds_toArray, List.set_cons_zero, List.set_cons_succ]
            refine heldW 13 51 (.string ⟨xa.toArray⟩) rfl rfl (by kernel_rfl) (by kernel_rfl) (by kernel_rfl) (fun _ _ _ h => h) (by rfl) hS0 (fun W hSW => ?_) ?_
            · (try dsimp only at hSW); (try obtain ⟨hSA, hSB⟩ := hSW); go_simp <;> omega
            simp only [Act.put, List.setIfInBounds_toArray, List.set_cons_zero, List.set_cons_succ]
            refine heldW 14 52 (.slice (some ⟨g2, 0, none⟩) B.length c2) rfl rfl (by kernel_rfl) (by kernel_rfl) (by kernel_rfl) (fun _ _ _ h => h) (by rfl) hS0 (fun W hSW => ?_) ?_
            · (try dsimp only at hSW); (try obtain ⟨hSA, hSB⟩ := hSW); go_simp <;> omega
            simp only [Act.put, List.setIfInBounds_toArray, List.set_cons_zero, List.set_cons_succ]
            refine heldW 15 53 (.int .i64 (k : Int)) rfl rfl (by kernel_rfl) (by kernel_rfl) (by kernel_rfl) (fun _ _ _ h => h) (by rfl) hS0 (fun W hSW => ?_) ?_
            · (try dsimp only at hSW); (try obtain ⟨hSA, hSB⟩ := hSW); go_simp <;> omega
            simp only [Act.put, List.setIfInBounds_toArray, List.set_cons_zero, List.set_cons_succ]
            refine heldW 16 54 (.pointer (some ⟨g2, k, none⟩)) rfl rfl (by kernel_rfl) (by kernel_rfl) (by kernel_rfl) (fun _ _ _ h => h) (by rfl) hS0 (fun W hSW => ?_) ?_
            · (try dsimp only at hSW); (try obtain ⟨hSA, hSB⟩ := hSW); go_simp <;> omega
            simp only [Act.put, List.setIfInBounds_toArray, List.set_cons_zero, List.set_cons_succ]
            refine heldW 17 55 (.string ⟨xb.toArray⟩) rfl rfl (by kernel_rfl) (by kernel_rfl) (by kernel_rfl) (fun _ _ _ h => h) (by rfl) hS0 (fun W hSW => ?_) ?_
            · (try dsimp only at hSW); (try obtain ⟨hSA, hSB⟩ := hSW); go_simp <;> omega
            simp only [Act.put, List.setIfInBounds_toArray, List.set_cons_zero, List.set_cons_succ]
            refine heldW 18 56 (.bool c) rfl rfl (by kernel_rfl) (by kernel_rfl) (by kernel_rfl) (fun _ _ _ h => h) (by rfl) hS0 (fun W hSW => ?_) ?_
            · (try dsimp only at hSW); (try obtain ⟨hSA, hSB⟩ := hSW); go_simp <;> omega
            simp only [Act.put, List.setIfInBounds_toArray, List.set_cons_zero, List.set_cons_succ]
            refine heldW 19 57 (.bool c) rfl rfl (by kernel_rfl) (by kernel_rfl) (by kernel_rfl) (fun _ _ _ h => h) (by rfl) hS0 (fun W hSW => ?_) ?_
            · (try dsimp only at hSW); (try obtain ⟨hSA, hSB⟩ := hSW); go_simp <;> omega
            simp only [Act.put, List.setIfInBounds_toArray, List.set_cons_zero, List.set_cons_succ]
            refine heldW 20 58 (.bool c) rfl rfl (by kernel_rfl) (by kernel_rfl) (by kernel_rfl) (fun _ _ _ h => h) (by rfl) hS0 (fun W hSW => ?_) ?_
            · (try dsimp only at hSW); (try obtain ⟨hSA, hSB⟩ := hSW); go_simp <;> omega
            simp only [Act.put, List.setIfInBounds_toArray, List.set_cons_zero, List.set_cons_succ]
            refine wpAnyH_done (by kernel_rfl) ?_ _
            by_cases hle : xa ≤ xb
            · have hcc := hct.out hle
              have HM := Lib.hid (HML.out hle)
              subst hcc
              clear HML HMR hct hcf hc
              rcases List.eq_nil_or_concat out with hout | ⟨r, z, hout⟩
              · subst hout
                have HP := Lib.hid (HM.out.trans (by rw [psh_nil]))
                clear HM
                go_wp2_with (at_builtin; refine wpList_append_lies _ rfl _ _ _ rfl w2.heap.size 9 i0 _ 1 16 Tryd.underlying24 hi hz0 hz1 hz2 rfl (by decide) _ _ _ rfl ((hown.alloc _).drew) ⟨wr.heap.size, 0, none⟩ 1 1 [.string ⟨xa.toArray⟩] rfl rfl (fun j u hu => oneNew wr _ 9 j u hu) (by simp [Value.oneCell']) (by decide) (by simp only [maxLen]; omega) (by omega) (by simp; omega) _ rfl ?_; intro g3 cap3 w3 hown3 hgrow hat hlt3)
                go_roundw
                case rel => exact ⟨i + 1, k, [xa], g3, cap3, by omega, by omega, by simp only [List.length_singleton]; omega, by go_num, by go_num, rfl, by simpa [sv] using hown3, ((hbel.alloc hzz _).drew).grown hgrow (by simp; omega) (fun j hj => (hl j hj).1), HP.out⟩
                case measure => simp [intOf]; omega
              · rw [List.concat_eq_append] at hout
                subst hout
                have cz := hown.cellAt r.length (by simp)
                have exz : ((r ++ [z]).map sv)[r.length]? = some (sv z) := by simp
                rw [exz] at cz
                unfold sv at cz
                have dz : (((r.length : Int) + 1) == 0) = false := by rw [beq_eq_false_iff_ne]; omega
                have rl : r.length + 1 ≤ 2097152 := by simp at hol; omega
                have qz0 : (0 : Int) ≤ (r.length : Int) := by omega
                have qz1 : (r.length : Int) < (r.length : Int) + 1 := by omega
                clear exz
                by_cases hzx : z = xa
                · subst hzx
                  have HP := Lib.hid (HM.out.trans (by rw [psh_same]))
                  have HO := Lib.hid hown
                  clear HM hown
                  go_wp2
                  go_roundw
                  case rel => exact ⟨i + 1, k, r ++ [z], g, cp, by omega, by omega, by simp at hol ⊢; omega, by go_num, by go_num, by simp, HO.out, hbel.drew, HP.out⟩
                  case measure => simp [intOf]; omega
                · have HP := Lib.hid (HM.out.trans (by rw [psh_other hzx]))
                  have hzb : (z == xa) = false := by rw [beq_eq_false_iff_ne]; exact hzx
                  clear HM
                  go_wp2_with (at_builtin; refine wpList_append_lies _ rfl _ _ _ rfl w2.heap.size 9 i0 _ 1 16 Tryd.underlying24 hi hz0 hz1 hz2 rfl (by decide) _ _ _ rfl ((hown.alloc _).drew) ⟨wr.heap.size, 0, none⟩ 1 1 [.string ⟨xa.toArray⟩] rfl rfl (fun j u hu => oneNew wr _ 9 j u hu) (by simp [Value.oneCell']) (by decide) (by simp only [maxLen]; omega) (by omega) (by simp; omega) _ rfl ?_; intro g3 cap3 w3 hown3 hgrow hat hlt3)
                  go_roundw
                  case rel => exact ⟨i + 1, k, r ++ [z] ++ [xa], g3, cap3, by omega, by omega, by simp at hol ⊢; omega, by go_num, by go_num, by simp, by simpa [sv] using hown3, ((hbel.alloc hzz _).drew).grown hgrow (by simp; omega) (fun j hj => (hl j hj).1), HP.out⟩
                  case measure => simp [intOf]; omega
            · have hcc := hcf.out hle
              have HM := Lib.hid (HMR.out hle)
              subst hcc
              clear HML HMR hct hcf hc
              rcases List.eq_nil_or_concat out with hout | ⟨r, z, hout⟩
              · subst hout
                have HP := Lib.hid (HM.out.trans (by rw [psh_nil]))
                clear HM
                go_wp2_with (at_builtin; refine wpList_append_lies _ rfl _ _ _ rfl w2.heap.size 9 i0 _ 1 16 Tryd.underlying24 hi hz0 hz1 hz2 rfl (by decide) _ _ _ rfl ((hown.alloc _).drew) ⟨wr.heap.size, 0, none⟩ 1 1 [.string ⟨xb.toArray⟩] rfl rfl (fun j u hu => oneNew wr _ 9 j u hu) (by simp [Value.oneCell']) (by decide) (by simp only [maxLen]; omega) (by omega) (by simp; omega) _ rfl ?_; intro g3 cap3 w3 hown3 hgrow hat hlt3)
                go_roundw
                case rel => exact ⟨i, k + 1, [xb], g3, cap3, by omega, by omega, by simp only [List.length_singleton]; omega, by go_num, by go_num, rfl, by simpa [sv] using hown3, ((hbel.alloc hzz _).drew).grown hgrow (by simp; omega) (fun j hj => (hl j hj).1), HP.out⟩
                case measure => simp [intOf]; omega
              · rw [List.concat_eq_append] at hout
                subst hout
                have cz := hown.cellAt r.length (by simp)
                have exz : ((r ++ [z]).map sv)[r.length]? = some (sv z) := by simp
                rw [exz] at cz
                unfold sv at cz
                have dz : (((r.length : Int) + 1) == 0) = false := by rw [beq_eq_false_iff_ne]; omega
                have rl : r.length + 1 ≤ 2097152 := by simp at hol; omega
                have qz0 : (0 : Int) ≤ (r.length : Int) := by omega
                have qz1 : (r.length : Int) < (r.length : Int) + 1 := by omega
                clear exz
                by_cases hzx : z = xb
                · subst hzx
                  have HP := Lib.hid (HM.out.trans (by rw [psh_same]))
                  have HO := Lib.hid hown
                  clear HM hown
                  go_wp2
                  go_roundw
                  case rel => exact ⟨i, k + 1, r ++ [z], g, cp, by omega, by omega, by simp at hol ⊢; omega, by go_num, by go_num, by simp, HO.out, hbel.drew, HP.out⟩
                  case measure => simp [intOf]; omega
                · have HP := Lib.hid (HM.out.trans (by rw [psh_other hzx]))
                  have hzb : (z == xb) = false := by rw [beq_eq_false_iff_ne]; exact hzx
                  clear HM
                  go_wp2_with (at_builtin; refine wpList_append_lies _ rfl _ _ _ rfl w2.heap.size 9 i0 _ 1 16 Tryd.underlying24 hi hz0 hz1 hz2 rfl (by decide) _ _ _ rfl ((hown.alloc _).drew) ⟨wr.heap.size, 0, none⟩ 1 1 [.string ⟨xb.toArray⟩] rfl rfl (fun j u hu => oneNew wr _ 9 j u hu) (by simp [Value.oneCell']) (by decide) (by simp only [maxLen]; omega) (by omega) (by simp; omega) _ rfl ?_; intro g3 cap3 w3 hown3 hgrow hat hlt3)
                  go_roundw
                  case rel => exact ⟨i, k + 1, r ++ [z] ++ [xb], g3, cap3, by omega, by omega, by simp at hol ⊢; omega, by go_num, by go_num, by simp, by simpa [sv] using hown3, ((hbel.alloc hzz _).drew).grown hgrow (by simp; omega) (fun j hj => (hl j hj).1), HP.out⟩
                  case measure => simp [intOf]; omega
          · have HM := Lib.hid (HS.out.trans (mrg_left out hi1 (fun hk => absurd hk hk1)))
            have db : decide ((B.length : Int) ≤ (k : Int)) = true := decide_eq_true (by omega)
            clear exa HS
            generalize A[i] = xa at ca HM
            go_wp2_with fail
            refine wp_region_held_drew (S := fun w' => w'.cell? ⟨g1, i, none⟩ = some (.string ⟨xa.toArray⟩)) (by kernel_rfl) ca (fun hS0 => ?_)
            refine heldW 0 38 (.int .i64 (k : Int)) rfl rfl (by kernel_rfl) (by kernel_rfl) (by kernel_rfl) (fun _ _ _ h => h) (by rfl) hS0 (fun W hSW => ?_) ?_
            · (try dsimp only at hSW); (try obtain ⟨hSA, hSB⟩ := hSW); go_simp <;> omega
            simp only [Act.put, List.setIfInBounds_toArray, List.set_cons_zero, List.set_cons_succ]
            refine heldW 1 39 (.slice (some ⟨g2, 0, none⟩) B.length c2) rfl rfl (by kernel_rfl) (by kernel_rfl) (by kernel_rfl) (fun _ _ _ h => h) (by rfl) hS0 (fun W hSW => ?_) ?_
            · (try dsimp only at hSW); (try obtain ⟨hSA, hSB⟩ := hSW); go_simp <;> omega
            simp only [Act.put, List.setIfInBounds_toArray, List.set_cons_zero, List.set_cons_succ]
            refine heldW 2 40 (.int .i64 (B.length : Int)) rfl rfl (by kernel_rfl) (by kernel_rfl) (by kernel_rfl) (fun _ _ _ h => h) (by rfl) hS0 (fun W hSW => ?_) ?_
            · (try dsimp only at hSW); (try obtain ⟨hSA, hSB⟩ := hSW); go_simp <;> omega
            simp only [Act.put, List.setIfInBounds_toArray, List.set_cons_zero, List.set_cons_succ]
            refine heldW 3 41 (.bool true) rfl rfl (by kernel_rfl) (by kernel_rfl) (by kernel_rfl) (fun _ _ _ h => h) (by rfl) hS0 (fun W hSW => ?_) ?_
            · (try dsimp only at hSW); (try obtain ⟨hSA, hSB⟩ := hSW); go_simp <;> omega
            simp only [Act.put, List.setIfInBounds_toArray, List.set_cons_zero, List.set_cons_succ]
            refine heldW 4 42 (.bool true) rfl rfl (by kernel_rfl) (by kernel_rfl) (by kernel_rfl) (fun _ _ _ h => h) (by rfl) hS0 (fun W hSW => ?_) ?_
            · (try dsimp only at hSW); (try obtain ⟨hSA, hSB⟩ := hSW); go_simp <;> omega
            simp only [Act.put, List.setIfInBounds_toArray, List.set_cons_zero, List.set_cons_succ]
            refine heldS 5 43 rfl rfl (by kernel_rfl) (by kernel_rfl) (by kernel_rfl) (fun _ _ _ h => h) (by rfl) hS0 ?_
            simp only [Act.put, List.setIfInBounds_toArray, List.set_cons_zero, List.set_cons_succ]
            refine heldS 6 44 rfl rfl (by kernel_rfl) (by kernel_rfl) (by kernel_rfl) (fun _ _ _ h => h) (by rfl) hS0 ?_
            simp only [Act.put, List.setIfInBounds_toArray, List.set_cons_zero, List.set_cons_succ]
            refine heldS 7 45 rfl rfl (by kernel_rfl) (by kernel_rfl) (by kernel_rfl) (fun _ _ _ h => h) (by rfl) hS0 ?_
            simp only [Act.put, List.setIfInBounds_toArray, List.set_cons_zero, List.set_cons_succ]
            refine heldS 8 46 rfl rfl (by kernel_rfl) (by kernel_rfl) (by kernel_rfl) (fun _ _ _ h => h) (by rfl) hS0 ?_
            simp only [Act.put, List.setIfInBounds_toArray, List.set_cons_zero, List.set_cons_succ]
            refine heldS 9 47 rfl rfl (by kernel_rfl) (by kernel_rfl) (by kernel_rfl) (fun _ _ _ h => h) (by rfl) hS0 ?_
            simp only [Act.put, List.setIfInBounds_toArray, List.set_cons_zero, List.set_cons_succ]
            refine heldS 10 48 rfl rfl (by kernel_rfl) (by kernel_rfl) (by kernel_rfl) (fun _ _ _ h => h) (by rfl) hS0 ?_
            simp only [Act.put, List.setIfInBounds_toArray, List.set_cons_zero, List.set_cons_succ]
            refine heldS 11 49 rfl rfl (by kernel_rfl) (by kernel_rfl) (by kernel_rfl) (fun _ _ _ h => h) (by rfl) hS0 ?_
            simp only [Act.put, List.setIfInBounds_toArray, List.set_cons_zero, List.set_cons_succ]
            refine heldS 12 50 rfl rfl (by kernel_rfl) (by kernel_rfl) (by kernel_rfl) (fun _ _ _ h => h) (by rfl) hS0 ?_
            simp only [Act.put, List.setIfInBounds_toArray, List.set_cons_zero, List.set_cons_succ]
            refine heldS 13 51 rfl rfl (by kernel_rfl) (by kernel_rfl) (by kernel_rfl) (fun _ _ _ h => h) (by rfl) hS0 ?_
            simp only [Act.put, List.setIfInBounds_toArray, List.set_cons_zero, List.set_cons_succ]
            refine heldS 14 52 rfl rfl (by kernel_rfl) (by kernel_rfl) (by kernel_rfl) (fun _ _ _ h => h) (by rfl) hS0 ?_
            simp only [Act.put, List.setIfInBounds_toArray, List.set_cons_zero, List.set_cons_succ]
            refine heldS 15 53 rfl rfl (by kernel_rfl) (by kernel_rfl) (by kernel_rfl) (fun _ _ _ h => h) (by rfl) hS0 ?_
            simp only [Act.put, List.setIfInBounds_toArray, List.set_cons_zero, List.set_cons_succ]
            refine heldS 16 54 rfl rfl (by kernel_rfl) (by kernel_rfl) (by kernel_rfl) (fun _ _ _ h => h) (by rfl) hS0 ?_
            simp only [Act.put, List.setIfInBounds_toArray, List.set_cons_zero, List.set_cons_succ]
            refine heldS 17 55 rfl rfl (by kernel_rfl) (by kernel_rfl) (by kernel_rfl) (fun _ _ _ h => h) (by rfl) hS0 ?_
            simp only [Act.put, List.setIfInBounds_toArray, List.set_cons_zero, List.set_cons_succ]
            refine heldS 18 56 rfl rfl (by kernel_rfl) (by kernel_rfl) (by kernel_rfl) (fun _ _ _ h => h) (by rfl) hS0 ?_
            simp only [Act.put, List.setIfInBounds_toArray, List.set_cons_zero, List.set_cons_succ]
            refine heldS 19 57 rfl rfl (by kernel_rfl) (by kernel_rfl) (by kernel_rfl) (fun _ _ _ h => h) (by rfl) hS0 ?_
            simp only [Act.put, List.setIfInBounds_toArray, List.set_cons_zero, List.set_cons_succ]
            refine heldW 20 58 (.bool true) rfl rfl (by kernel_rfl) (by kernel_rfl) (by kernel_rfl) (fun _ _ _ h => h) (by rfl) hS0 (fun W hSW => ?_) ?_
            · (try dsimp only at hSW); (try obtain ⟨hSA, hSB⟩ := hSW); go_simp <;> omega
            simp only [Act.put, List.setIfInBounds_toArray, List.set_cons_zero, List.set_cons_succ]
            refine wpAnyH_done (by kernel_rfl) ?_ _
            rcases List.eq_nil_or_concat out with hout | ⟨r, z, hout⟩
            · subst hout
              have HP := Lib.hid (HM.out.trans (by rw [psh_nil]))
              clear HM
              go_wp2_with (at_builtin; refine wpList_append_lies _ rfl _ _ _ rfl w2.heap.size 9 i0 _ 1 16 Tryd.underlying24 hi hz0 hz1 hz2 rfl (by decide) _ _ _ rfl ((hown.alloc _).drew) ⟨wr.heap.size, 0, none⟩ 1 1 [.string ⟨xa.toArray⟩] rfl rfl (fun j u hu => oneNew wr _ 9 j u hu) (by simp [Value.oneCell']) (by decide) (by simp only [maxLen]; omega) (by omega) (by simp; omega) _ rfl ?_; intro g3 cap3 w3 hown3 hgrow hat hlt3)
              go_roundw
              case rel => exact ⟨i + 1, k, [xa], g3, cap3, by omega, by omega, by simp only [List.length_singleton]; omega, by go_num, by go_num, rfl, by simpa [sv] using hown3, ((hbel.alloc hzz _).drew).grown hgrow (by simp; omega) (fun j hj => (hl j hj).1), HP.out⟩
              case measure => simp [intOf]; omega
            · rw [List.concat_eq_append] at hout
              subst hout
              have cz := hown.cellAt r.length (by simp)
              have exz : ((r ++ [z]).map sv)[r.length]? = some (sv z) := by simp
              rw [exz] at cz
              unfold sv at cz
              have dz : (((r.length : Int) + 1) == 0) = false := by rw [beq_eq_false_iff_ne]; omega
              have rl : r.length + 1 ≤ 2097152 := by simp at hol; omega
              have qz0 : (0 : Int) ≤ (r.length : Int) := by omega
              have qz1 : (r.length : Int) < (r.length : Int) + 1 := by omega
              clear exz
              by_cases hzx : z = xa
              · subst hzx
                have HP := Lib.hid (HM.out.trans (by rw [psh_same]))
                have HO := Lib.hid hown
                clear HM hown
                go_wp2
                go_roundw
                case rel => exact ⟨i + 1, k, r ++ [z], g, cp, by omega, by omega, by simp at hol ⊢; omega, by go_num, by go_num, by simp, HO.out, hbel.drew, HP.out⟩
                case measure => simp [intOf]; omega
              · have HP := Lib.hid (HM.out.trans (by rw [psh_other hzx]))
                have hzb : (z == xa) = false := by rw [beq_eq_false_iff_ne]; exact hzx
                clear HM
                go_wp2_with (at_builtin; refine wpList_append_lies _ rfl _ _ _ rfl w2.heap.size 9 i0 _ 1 16 Tryd.underlying24 hi hz0 hz1 hz2 rfl (by decide) _ _ _ rfl ((hown.alloc _).drew) ⟨wr.heap.size, 0, none⟩ 1 1 [.string ⟨xa.toArray⟩] rfl rfl (fun j u hu => oneNew wr _ 9 j u hu) (by simp [Value.oneCell']) (by decide) (by simp only [maxLen]; omega) (by omega) (by simp; omega) _ rfl ?_; intro g3 cap3 w3 hown3 hgrow hat hlt3)
                go_roundw
                case rel => exact ⟨i + 1, k, r ++ [z] ++ [xa], g3, cap3, by omega, by omega, by simp at hol ⊢; omega, by go_num, by go_num, by simp, by simpa [sv] using hown3, ((hbel.alloc hzz _).drew).grown hgrow (by simp; omega) (fun j hj => (hl j hj).1), HP.out⟩
                case measure => simp [intOf]; omega
        · have da : decide ((i : Int) < (A.length : Int)) = false := decide_eq_false (by omega)
          by_cases hk1 : k < B.length
          · have cb := (hbel.cell (p := ⟨g2, k, none⟩) hg2).trans (ho2.cellAt k (by omega))
            have exb : (B.map sv)[k]? = some (sv B[k]) := by simp [hk1]
            rw [exb] at cb
            unfold sv at cb
            have qb1 : (0 : Int) ≤ (k : Int) := by omega
            have qb2 : (k : Int) < (B.length : Int) := by omega
            have db : decide ((B.length : Int) ≤ (k : Int)) = false := decide_eq_false (by omega)
            have db2 : decide ((k : Int) < (B.length : Int)) = true := decide_eq_true (by omega)
            have HM := Lib.hid (HS.out.trans (mrg_right out hk1 (fun hi => absurd hi hi1)))
            clear exb HS
            generalize B[k] = xb at cb HM
            go_wp2_with fail
            refine wp_region_held_drew (S := fun w' => w'.cell? ⟨g2, k, none⟩ = some (.string ⟨xb.toArray⟩)) (by kernel_rfl) cb (fun hS0 => ?_)
            refine heldW 0 38 (.int .i64 (k : Int)) rfl rfl (by kernel_rfl) (by kernel_rfl) (by kernel_rfl) (fun _ _ _ h => h) (by rfl) hS0 (fun W hSW => ?_) ?_
            · (try dsimp only at hSW); (try obtain ⟨hSA, hSB⟩ := hSW); go_simp <;> omega
            simp only [Act.put, List.setIfInBounds_toArray, List.set_cons_zero, List.set_cons_succ]
            refine heldW 1 39 (.slice (some ⟨g2, 0, none⟩) B.length c2) rfl rfl (by kernel_rfl) (by kernel_rfl) (by kernel_rfl) (fun _ _ _ h => h) (by rfl) hS0 (fun W hSW => ?_) ?_
            · (try dsimp only at hSW); (try obtain ⟨hSA, hSB⟩ := hSW); go_simp <;> omega
            simp only [Act.put, List.setIfInBounds_toArray, List.set_cons_zero, List.set_cons_succ]
            refine heldW 2 40 (.int .i64 (B.length : Int)) rfl rfl (by kernel_rfl) (by kernel_rfl) (by kernel_rfl) (fun _ _ _ h => h) (by rfl) hS0 (fun W hSW => ?_) ?_
            · (try dsimp only at hSW); (try obtain ⟨hSA, hSB⟩ := hSW); go_simp <;> omega
            simp only [Act.put, List.setIfInBounds_toArray, List.set_cons_zero, List.set_cons_succ]
            refine heldW 3 41 (.bool false) rfl rfl (by kernel_rfl) (by kernel_rfl) (by kernel_rfl) (fun _ _ _ h => h) (by rfl) hS0 (fun W hSW => ?_) ?_
            · (try dsimp only at hSW); (try obtain ⟨hSA, hSB⟩ := hSW); go_simp <;> omega
            simp only [Act.put, List.setIfInBounds_toArray, List.set_cons_zero, List.set_cons_succ]
            refine heldW 4 42 (.bool false) rfl rfl (by kernel_rfl) (by kernel_rfl) (by kernel_rfl) (fun _ _ _ h => h) (by rfl) hS0 (fun W hSW => ?_) ?_
            · (try dsimp only at hSW); (try obtain ⟨hSA, hSB⟩ := hSW); go_simp <;> omega
            simp only [Act.put, List.setIfInBounds_toArray, List.set_cons_zero, List.set_cons_succ]
            refine heldW 5 43 (.int .i64 (i : Int)) rfl rfl (by kernel_rfl) (by kernel_rfl) (by kernel_rfl) (fun _ _ _ h => h) (by rfl) hS0 (fun W hSW => ?_) ?_
            · (try dsimp only at hSW); (try obtain ⟨hSA, hSB⟩ := hSW); go_simp <;> omega
            simp only [Act.put, List.setIfInBounds_toArray, List.set_cons_zero, List.set_cons_succ]
            refine heldW 6 44 (.slice (some ⟨g1, 0, none⟩) A.length c1) rfl rfl (by kernel_rfl) (by kernel_rfl) (by kernel_rfl) (fun _ _ _ h => h) (by rfl) hS0 (fun W hSW => ?_) ?_
            · (try dsimp only at hSW); (try obtain ⟨hSA, hSB⟩ := hSW); go_simp <;> omega
            simp only [Act.put, List.setIfInBounds_toArray, List.set_cons_zero, List.set_cons_succ]
            refine heldW 7 45 (.int .i64 (A.length : Int)) rfl rfl (by kernel_rfl) (by kernel_rfl) (by kernel_rfl) (fun _ _ _ h => h) (by rfl) hS0 (fun W hSW => ?_) ?_
            · (try dsimp only at hSW); (try obtain ⟨hSA, hSB⟩ := hSW); go_simp <;> omega
            simp only [Act.put, List.setIfInBounds_toArray, List.set_cons_zero, List.set_cons_succ]
            refine heldW 8 46 (.bool false) rfl rfl (by kernel_rfl) (by kernel_rfl) (by kernel_rfl) (fun _ _ _ h => h) (by rfl) hS0 (fun W hSW => ?_) ?_
            · (try dsimp only at hSW); (try obtain ⟨hSA, hSB⟩ := hSW); go_simp <;> omega
            simp only [Act.put, List.setIfInBounds_toArray, List.set_cons_zero, List.set_cons_succ]
            refine heldW 9 47 (.bool false) rfl rfl (by kernel_rfl) (by kernel_rfl) (by kernel_rfl) (fun _ _ _ h => h) (by rfl) hS0 (fun W hSW => ?_) ?_
            · (try dsimp only at hSW); (try obtain ⟨hSA, hSB⟩ := hSW); go_simp <;> omega
            simp only [Act.put, List.setIfInBounds_toArray, List.set_cons_zero, List.set_cons_succ]
            refine heldS 10 48 rfl rfl (by kernel_rfl) (by kernel_rfl) (by kernel_rfl) (fun _ _ _ h => h) (by rfl) hS0 ?_
            simp only [Act.put, List.setIfInBounds_toArray, List.set_cons_zero, List.set_cons_succ]
            refine heldS 11 49 rfl rfl (by kernel_rfl) (by kernel_rfl) (by kernel_rfl) (fun _ _ _ h => h) (by rfl) hS0 ?_
            simp only [Act.put, List.setIfInBounds_toArray, List.set_cons_zero, List.set_cons_succ]
            refine heldS 12 50 rfl rfl (by kernel_rfl) (by kernel_rfl) (by kernel_rfl) (fun _ _ _ h => h) (by rfl) hS0 ?_
            simp only [Act.put, List.setIfInBounds_toArray, List.set_cons_zero, List.set_cons_succ]
            refine heldS 13 51 rfl rfl (by kernel_rfl) (by kernel_rfl) (by kernel_rfl) (fun _ _ _ h => h) (by rfl) hS0 ?_
            simp only [Act.put, List.setIfInBounds_toArray, List.set_cons_zero, List.set_cons_succ]
            refine heldS 14 52 rfl rfl (by kernel_rfl) (by kernel_rfl) (by kernel_rfl) (fun _ _ _ h => h) (by rfl) hS0 ?_
            simp only [Act.put, List.setIfInBounds_toArray, List.set_cons_zero, List.set_cons_succ]
            refine heldS 15 53 rfl rfl (by kernel_rfl) (by kernel_rfl) (by kernel_rfl) (fun _ _ _ h => h) (by rfl) hS0 ?_
            simp only [Act.put, List.setIfInBounds_toArray, List.set_cons_zero, List.set_cons_succ]
            refine heldS 16 54 rfl rfl (by kernel_rfl) (by kernel_rfl) (by kernel_rfl) (fun _ _ _ h => h) (by rfl) hS0 ?_
            simp only [Act.put, List.setIfInBounds_toArray, List.set_cons_zero, List.set_cons_succ]
            refine heldS 17 55 rfl rfl (by kernel_rfl) (by kernel_rfl) (by kernel_rfl) (fun _ _ _ h => h) (by rfl) hS0 ?_
            simp only [Act.put, List.setIfInBounds_toArray, List.set_cons_zero, List.set_cons_succ]
            refine heldS 18 56 rfl rfl (by kernel_rfl) (by kernel_rfl) (by kernel_rfl) (fun _ _ _ h => h) (by rfl) hS0 ?_
            simp only [Act.put, List.setIfInBounds_toArray, List.set_cons_zero, List.set_cons_succ]
            refine heldW 19 57 (.bool false) rfl rfl (by kernel_rfl) (by kernel_rfl) (by kernel_rfl) (fun _ _ _ h => h) (by rfl) hS0 (fun W hSW => ?_) ?_
            · (try dsimp only at hSW); (try obtain ⟨hSA, hSB⟩ := hSW); go_simp <;> omega
            simp only [Act.put, List.setIfInBounds_toArray, List.set_cons_zero, List.set_cons_succ]
            refine heldW 20 58 (.bool false) rfl rfl (by kernel_rfl) (by kernel_rfl) (by kernel_rfl) (fun _ _ _ h => h) (by rfl) hS0 (fun W hSW => ?_) ?_
            · (try dsimp only at hSW); (try obtain ⟨hSA, hSB⟩ := hSW); go_simp <;> omega
            simp only [Act.put, List.setIfInBounds_toArray, List.set_cons_zero, List.set_cons_succ]
            refine wpAnyH_done (by kernel_rfl) ?_ _
            rcases List.eq_nil_or_concat out with hout | ⟨r, z, hout⟩
            · subst hout
              have HP := Lib.hid (HM.out.trans (by rw [psh_nil]))
              clear HM
              go_wp2_with (at_builtin; refine wpList_append_lies _ rfl _ _ _ rfl w2.heap.size 9 i0 _ 1 16 Tryd.underlying24 hi hz0 hz1 hz2 rfl (by decide) _ _ _ rfl ((hown.alloc _).drew) ⟨wr.heap.size, 0, none⟩ 1 1 [.string ⟨xb.toArray⟩] rfl rfl (fun j u hu => oneNew wr _ 9 j u hu) (by simp [Value.oneCell']) (by decide) (by simp only [maxLen]; omega) (by omega) (by simp; omega) _ rfl ?_; intro g3 cap3 w3 hown3 hgrow hat hlt3)
              go_roundw
              case rel => exact ⟨i, k + 1, [xb], g3, cap3, by omega, by omega, by simp only [List.length_singleton]; omega, by go_num, by go_num, rfl, by simpa [sv] using hown3, ((hbel.alloc hzz _).drew).grown hgrow (by simp; omega) (fun j hj => (hl j hj).1), HP.out⟩
              case measure => simp [intOf]; omega
            · rw [List.concat_eq_append] at hout
              subst hout
              have cz := hown.cellAt r.length (by simp)
              have exz : ((r ++ [z]).map sv)[r.length]? = some (sv z) := by simp
              rw [exz] at cz
              unfold sv at cz
              have dz : (((r.length : Int) + 1) == 0) = false := by rw [beq_eq_false_iff_ne]; omega
              have rl : r.length + 1 ≤ 2097152 := by simp at hol; omega
              have qz0 : (0 : Int) ≤ (r.length : Int) := by omega
              have qz1 : (r.length : Int) < (r.length : Int) + 1 := by omega
              clear exz
              by_cases hzx : z = xb
              · subst hzx
                have HP := Lib.hid (HM.out.trans (by rw [psh_same]))
                have HO := Lib.hid hown
                clear HM hown
                go_wp2
                go_roundw
                case rel => exact ⟨i, k + 1, r ++ [z], g, cp, by omega, by omega, by simp at hol ⊢; omega, by go_num, by go_num, by simp, HO.out, hbel.drew, HP.out⟩
                case measure => simp [intOf]; omega
              · have HP := Lib.hid (HM.out.trans (by rw [psh_other hzx]))
                have hzb : (z == xb) = false := by rw [beq_eq_false_iff_ne]; exact hzx
                clear HM
                go_wp2_with (at_builtin; refine wpList_append_lies _ rfl _ _ _ rfl w2.heap.size 9 i0 _ 1 16 Tryd.underlying24 hi hz0 hz1 hz2 rfl (by decide) _ _ _ rfl ((hown.alloc _).drew) ⟨wr.heap.size, 0, none⟩ 1 1 [.string ⟨xb.toArray⟩] rfl rfl (fun j u hu => oneNew wr _ 9 j u hu) (by simp [Value.oneCell']) (by decide) (by simp only [maxLen]; omega) (by omega) (by simp; omega) _ rfl ?_; intro g3 cap3 w3 hown3 hgrow hat hlt3)
                go_roundw
                case rel => exact ⟨i, k + 1, r ++ [z] ++ [xb], g3, cap3, by omega, by omega, by simp at hol ⊢; omega, by go_num, by go_num, by simp, by simpa [sv] using hown3, ((hbel.alloc hzz _).drew).grown hgrow (by simp; omega) (fun j hj => (hl j hj).1), HP.out⟩
                case measure => simp [intOf]; omega
          · have db2 : decide ((k : Int) < (B.length : Int)) = false := decide_eq_false (by omega)
            have HM := Lib.hid (HS.out.trans (mrg_done out hi1 hk1))
            have HO := Lib.hid hown
            clear HS hown
            go_wp2
            go_ret
            rw [HR.out, HM.out]
            exact ⟨_, rfl, own_mono' HO.out hzw, hB2.trans (hbel.mono hzw)⟩
end Go.Proofs.YtgielbamebjjdaaDoor
