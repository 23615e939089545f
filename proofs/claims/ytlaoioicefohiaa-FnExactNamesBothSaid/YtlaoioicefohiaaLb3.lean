/-
  The contract of spec.ReadLabel.
-/
import Derived.Test.YtlaoioicefohiaaLb2
import Derived.Deep.RegionHeld3
namespace Go.Proofs.Ytlaoioicefohiaa
set_option maxRecDepth 100000
open Go.ChangeShapes Go.WideShapes Go.ChangeAt Go.RowKit
set_option linter.unusedSimpArgs false

section
variable {P : Program} {ops : Array Oper} {Q : Exit → Act → World → Prop} {md : Region.Mode} {S : World → Prop}
/-- An operation that its guard lets by comes up first. -/
theorem heldW (i d : Nat) (v : Value) {oi : Oper} {fuel : Nat} {listed : Array Bool} {a : Act} {w : World} (hi : ops[i]? = some oi) (hd : oi.dst = some d)
    (hs : Region.noSelect ops = true) (hf : Region.free md ops listed i = true) (hr : (Region.ready md ops listed).contains i = true)
    (hQ : ∀ c a w, Q (.panic c) (a.put (some d) v) w → Q (.panic c) a w) (hw : Region.wanted oi (yielded ops a.tmps) = true) (hS : S w)
    (hrun : ∀ w, S w → (execOp a.eval oi).run P w = .ok (.value v) w)
    (h : wpAnyH P md ops Q S fuel (listed.setIfInBounds i true) (a.put (some d) v) w) : wpAnyH P md ops Q S (fuel + 1) listed a w :=
  wpAnyH_take hi hs hf hr (by rw [hd]; exact hQ) (Or.inl ⟨hw, hrun⟩) hS (by rw [hd]; exact h)
/-- An operation that its guard passes over comes up first. -/
theorem heldS (i d : Nat) {oi : Oper} {fuel : Nat} {listed : Array Bool} {a : Act} {w : World} (hi : ops[i]? = some oi) (hd : oi.dst = some d)
    (hs : Region.noSelect ops = true) (hf : Region.free md ops listed i = true) (hr : (Region.ready md ops listed).contains i = true)
    (hQ : ∀ c a w, Q (.panic c) (a.put (some d) undef) w → Q (.panic c) a w) (hw : Region.wanted oi (yielded ops a.tmps) = false) (hS : S w)
    (h : wpAnyH P md ops Q S fuel (listed.setIfInBounds i true) (a.put (some d) undef) w) : wpAnyH P md ops Q S (fuel + 1) listed a w :=
  wpAnyH_take hi hs hf hr (by rw [hd]; exact hQ) (Or.inr ⟨hw, rfl⟩) hS (by rw [hd]; exact h)
end

def readAt (p0 p1 : List UInt8) (k : Int) : Bool := p0 == wordL k && labelOk k p1
def readTwo (p0 p1 : List UInt8) : Option Int := ([1, 2, 3, 4, 5] : List Int).find? (readAt p0 p1)
def readL (t : List UInt8) : Option (Int × List UInt8) :=
  if 60 < t.length then none else match cutF 58 [] t with
    | [p0, p1] => (readTwo p0 p1).map fun k => (k, p1)
    | _ => none
def labelRes : Option (Int × List UInt8) → Value
  | some (k, n) => .tuple #[.agg #[.int .i64 k, .string ⟨n.toArray⟩], .bool true]
  | none => .tuple #[.agg #[.int .i64 0, .string ⟨#[]⟩], .bool false]
theorem readTwo_at {p0 p1 : List UInt8} {k : Nat} (h1 : 1 ≤ k) (h5 : k ≤ 5) (hb : ∀ j : Nat, 1 ≤ j → j < k → readAt p0 p1 j = false) (h : readAt p0 p1 k = true) : readTwo p0 p1 = some (k : Int) := by
  have e : k = 1 ∨ k = 2 ∨ k = 3 ∨ k = 4 ∨ k = 5 := by omega
  have b1 := hb 1; have b2 := hb 2; have b3 := hb 3; have b4 := hb 4
  unfold readTwo
  rcases e with rfl | rfl | rfl | rfl | rfl <;> simp_all
theorem readTwo_none {p0 p1 : List UInt8} (hb : ∀ j : Nat, 1 ≤ j → j < 6 → readAt p0 p1 j = false) : readTwo p0 p1 = none := by
  have b1 := hb 1; have b2 := hb 2; have b3 := hb 3; have b4 := hb 4; have b5 := hb 5
  unfold readTwo
  simp_all
theorem readL_long {t : List UInt8} (h : 60 < t.length) : readL t = none := by simp [readL, h]
theorem readL_two {t p0 p1 : List UInt8} (h : ¬ 60 < t.length) (hc : cutF 58 [] t = [p0, p1]) : readL t = (readTwo p0 p1).map fun k => (k, p1) := by simp [readL, h, hc]
theorem readL_other {t : List UInt8} (hc : (cutF 58 [] t).length ≠ 2) : readL t = none := by
  unfold readL
  split
  · rfl
  · split
    · rename_i h; rw [h] at hc; simp at hc
    · rfl
def LabelPost (r : Option (Int × List UInt8)) (w : World) (e : Ending) (w' : World) : Prop := e = .returned (labelRes r) ∧ Below w.heap.size w w'

set_option maxHeartbeats 2000000 in
theorem specReadLabel (s : ByteArray) (w : World) (hm : s.size ≤ maxLen) :
    Calls Try.prog 24 #[.string s] w (LabelPost (readL s.data.toList) w) := by
  unfold maxLen at hm
  have B0 : ∀ o, Below w.heap.size w (w.alloc o) := fun o => (Below.refl _ _).alloc (Nat.le_refl _) o
  by_cases h60 : 60 < s.size
  · have HR := Lib.hid (readL_long (t := s.data.toList) h60)
    go_enter Try.func24, Try.ntmps24
    go_wp2
    rw [HR.out]
    refine bodyPost_ret (v := .tuple #[.agg #[.int .i64 0, .string ⟨#[]⟩], .bool false]) (by simp [results, go_sem]) rfl ⟨rfl, B0 _⟩
  · have f1 : Hid (∀ W, Calls Try.prog 50 #[.string s, .int .u8 58] W (LRes (cutF 58 [] s.data.toList) W)) := fun W => specCut s 58 W (by omega)
    by_cases h2 : (cutF 58 [] s.data.toList).length = 2
    · obtain ⟨p0, p1, hc⟩ : ∃ p0 p1, cutF 58 [] s.data.toList = [p0, p1] := by
        match h : cutF 58 [] s.data.toList, h2 with
        | [p0, p1], _ => exact ⟨p0, p1, rfl⟩
      have HR := Lib.hid (readL_two (t := s.data.toList) h60 hc)
      have hls : s.data.toList.length = s.size := rfl
      have hp1 : p1.length ≤ s.size := by
        have := cutF_part 58 s.data.toList [] p1 (by rw [hc]; simp)
        simp only [List.length_nil, hls] at this
        omega
      rw [hc] at f1
      clear h2 hc hls
      generalize readL s.data.toList = R at HR
      go_enter Try.func24, Try.ntmps24
      go_wp2_with fail
      (with_reducible refine (f1.out _).mono ?_); rintro e w1 ⟨v1, rfl, ho1, hb1⟩
      obtain ⟨g, cap, rfl, hg0, hgl⟩ := ho1.form (by simp)
      have c0 : w1.cell? ⟨w.heap.size, 0, none⟩ = some (.int .i64 0) := (hb1.cell (p := ⟨w.heap.size, 0, none⟩) (by simp)).trans (World.news_of_block (cs := #[.int .i64 0, .string ⟨#[]⟩]) (t := 31) (fr := (0, 0)) (heap_alloc_new w _) 0 _ rfl)
      have c1 : w1.cell? ⟨w.heap.size, 1, none⟩ = some (.string ⟨#[]⟩) := (hb1.cell (p := ⟨w.heap.size, 1, none⟩) (by simp)).trans (World.news_of_block (cs := #[.int .i64 0, .string ⟨#[]⟩]) (t := 31) (fr := (0, 0)) (heap_alloc_new w _) 1 _ rfl)
      have z0 : w1.frozen? ⟨w.heap.size, 0, none⟩ = false := (hb1.frozen (p := ⟨w.heap.size, 0, none⟩) (by simp)).trans (by simp)
      have z1 : w1.frozen? ⟨w.heap.size, 1, none⟩ = false := (hb1.frozen (p := ⟨w.heap.size, 1, none⟩) (by simp)).trans (by simp)
      have B1 := (B0 (.cells #[.int .i64 0, .string ⟨#[]⟩] 31)).trans (hb1.mono (by simp))
      have e0 := ho1.cellAt 0 (by simp)
      have e1 := ho1.cellAt 1 (by simp)
      simp only [List.map_cons, List.map_nil, List.getElem?_cons_zero, List.getElem?_cons_succ, sv] at e0 e1
      simp only [List.length_cons, List.length_nil, Nat.zero_add, Nat.reduceAdd]
      clear ho1 f1
      have hz1 := B1.size
      have hs1 : w.heap.size < w1.heap.size := by have := hb1.size; simp at this; omega
      have hgne : g ≠ w.heap.size := by simp at hg0; omega
      go_wp2
      go_loopw [5] (fun kv wr => ∃ k : Nat, 1 ≤ k ∧ k ≤ 6 ∧ kv = .int .i64 k ∧ Below w1.heap.size w1 wr ∧ Hid (∀ j : Nat, 1 ≤ j → j < k → readAt p0 p1 j = false)) (fun kv _ => 6 - (intOf kv).toNat)
      case atStart => exact ⟨1, by decide, by decide, rfl, Below.refl _ _, fun j h1 h2 => by omega⟩
      case round =>
        obtain ⟨k, hk1, hk6, rfl, hbel, HB⟩ := hrel
        have hz := hbel.size
        have c0r := (hbel.cell (p := ⟨w.heap.size, 0, none⟩) hs1).trans c0
        have c1r := (hbel.cell (p := ⟨w.heap.size, 1, none⟩) hs1).trans c1
        have z0r := (hbel.frozen (p := ⟨w.heap.size, 0, none⟩) hs1).trans z0
        have z1r := (hbel.frozen (p := ⟨w.heap.size, 1, none⟩) hs1).trans z1
        by_cases h5 : k ≤ 5
        · have d5 : decide ((k : Int) ≤ 5) = true := decide_eq_true (by omega)
          have e0r := (hbel.cell (p := ⟨g, 0, none⟩) hgl).trans e0
          have e1r := (hbel.cell (p := ⟨g, 1, none⟩) hgl).trans e1
          have f2 := Lib.hid fun W => specWord (k : Int) W
          have f3 := Lib.hid fun W => specLabelOk (k : Int) p1 W (by unfold maxLen; omega)
          have HA := Lib.hid (show readAt p0 p1 (k : Int) = (p0 == wordL k && labelOk k p1) from rfl)
          have HT := Lib.hid fun h => readTwo_at (p0 := p0) (p1 := p1) hk1 h5 HB.out h
          have HF : Hid (readAt p0 p1 (k : Int) = false → ∀ j : Nat, 1 ≤ j → j < k + 1 → readAt p0 p1 j = false) := by
            intro h j hj1 hj2
            by_cases e : j = k
            · rw [e]; exact h
            · exact HB.out j hj1 (by omega)
          clear HB
          generalize readAt p0 p1 (k : Int) = ra at HA HT HF
          generalize wordL (k : Int) = wd at f2 HA
          generalize labelOk (k : Int) p1 = lo at f3 HA
          have hwb : (wr.alloc (.cells #[.int .i64 (k : Int), .string ⟨p1.toArray⟩] 31)).heap.size = wr.heap.size + 1 := by simp
          have n0 : (wr.alloc (.cells #[.int .i64 (k : Int), .string ⟨p1.toArray⟩] 31)).cell? ⟨wr.heap.size, 0, none⟩ = some (.int .i64 (k : Int)) := World.news_of_block (cs := #[.int .i64 (k : Int), .string ⟨p1.toArray⟩]) (t := 31) (fr := (0, 0)) (heap_alloc_new wr _) 0 _ rfl
          have n1 : (wr.alloc (.cells #[.int .i64 (k : Int), .string ⟨p1.toArray⟩] 31)).cell? ⟨wr.heap.size, 1, none⟩ = some (.string ⟨p1.toArray⟩) := World.news_of_block (cs := #[.int .i64 (k : Int), .string ⟨p1.toArray⟩]) (t := 31) (fr := (0, 0)) (heap_alloc_new wr _) 1 _ rfl
          have BA : Below w1.heap.size w1 (wr.alloc (.cells #[.int .i64 (k : Int), .string ⟨p1.toArray⟩] 31)) := hbel.alloc hz _
          have eA := (BA.cell (p := ⟨g, 0, none⟩) hgl).trans e0
          by_cases hw : p0 = wd
          · have hwb2 : (p0 == wd) = true := by rw [beq_iff_eq]; exact hw
            cases lo
            · go_wp2_with fail
              refine wp_region_held_drew (S := fun w' => w'.cell? ⟨g, 0, none⟩ = some (.string ⟨p0.toArray⟩) ∧ w'.cell? ⟨wr.heap.size, 0, none⟩ = some (.int .i64 (k : Int)) ∧ w'.cell? ⟨wr.heap.size, 1, none⟩ = some (.string ⟨p1.toArray⟩)) (by kernel_rfl) ⟨eA, n0, n1⟩ (fun hS0 => ?_)
              refine heldW 0 27 (.slice (some ⟨g, 0, none⟩) 2 cap) rfl rfl (by kernel_rfl) (by kernel_rfl) (by kernel_rfl) (fun _ _ _ h => h) (by rfl) hS0 (fun W hSW => ?_) ?_
              · (try dsimp only at hSW); (try obtain ⟨hSA, hSB, hSC⟩ := hSW); go_simp <;> omega
              simp only [Act.put, List.setIfInBounds_toArray, List.set_cons_zero, List.set_cons_succ]
              refine heldW 1 28 (.pointer (some ⟨g, 0, none⟩)) rfl rfl (by kernel_rfl) (by kernel_rfl) (by kernel_rfl) (fun _ _ _ h => h) (by rfl) hS0 (fun W hSW => ?_) ?_
              · (try dsimp only at hSW); (try obtain ⟨hSA, hSB, hSC⟩ := hSW); go_simp <;> omega
              simp only [Act.put, List.setIfInBounds_toArray, List.set_cons_zero, List.set_cons_succ]
              refine heldW 2 29 (.string ⟨p0.toArray⟩) rfl rfl (by kernel_rfl) (by kernel_rfl) (by kernel_rfl) (fun _ _ _ h => h) (by rfl) hS0 (fun W hSW => ?_) ?_
              · (try dsimp only at hSW); (try obtain ⟨hSA, hSB, hSC⟩ := hSW); go_simp <;> omega
              simp only [Act.put, List.setIfInBounds_toArray, List.set_cons_zero, List.set_cons_succ]
              refine heldW 3 30 (.int .i64 (k : Int)) rfl rfl (by kernel_rfl) (by kernel_rfl) (by kernel_rfl) (fun _ _ _ h => h) (by rfl) hS0 (fun W hSW => ?_) ?_
              · (try dsimp only at hSW); (try obtain ⟨hSA, hSB, hSC⟩ := hSW); go_simp <;> omega
              simp only [Act.put, List.setIfInBounds_toArray, List.set_cons_zero, List.set_cons_succ]
              refine wpAnyH_ready (rs := [4]) (by kernel_rfl) (by simp) (AllReadyH.cons rfl (fun K hK => ?_) AllReadyH.nil)
              rw [if_pos (by rfl)]
              go_simp
              (with_reducible refine (f2.out _).mono ?_); rintro e w2 ⟨rfl, rfl⟩
              refine hK.out _ _ hS0 (fun hS1 => ?_)
              clear hK K
              try simp only [Act.put, List.setIfInBounds_toArray, List.set_cons_zero, List.set_cons_succ]
              refine heldW 5 32 (.bool true) rfl rfl (by kernel_rfl) (by kernel_rfl) (by kernel_rfl) (fun _ _ _ h => h) (by rfl) hS1 (fun W hSW => ?_) ?_
              · (try dsimp only at hSW); (try obtain ⟨hSA, hSB, hSC⟩ := hSW); go_simp <;> omega
              simp only [Act.put, List.setIfInBounds_toArray, List.set_cons_zero, List.set_cons_succ]
              refine heldW 6 33 (.bool true) rfl rfl (by kernel_rfl) (by kernel_rfl) (by kernel_rfl) (fun _ _ _ h => h) (by rfl) hS1 (fun W hSW => ?_) ?_
              · (try dsimp only at hSW); (try obtain ⟨hSA, hSB, hSC⟩ := hSW); go_simp <;> omega
              simp only [Act.put, List.setIfInBounds_toArray, List.set_cons_zero, List.set_cons_succ]
              refine heldW 7 34 (.agg #[.int .i64 (k : Int), .string ⟨p1.toArray⟩]) rfl rfl (by kernel_rfl) (by kernel_rfl) (by kernel_rfl) (fun _ _ _ h => h) (by rfl) hS1 (fun W hSW => ?_) ?_
              · (try dsimp only at hSW); (try obtain ⟨hSA, hSB, hSC⟩ := hSW); go_simp <;> omega
              simp only [Act.put, List.setIfInBounds_toArray, List.set_cons_zero, List.set_cons_succ]
              refine wpAnyH_ready (rs := [8]) (by kernel_rfl) (by simp) (AllReadyH.cons rfl (fun K hK => ?_) AllReadyH.nil)
              rw [if_pos (by rfl)]
              go_simp
              (with_reducible refine (f3.out _).mono ?_); rintro e w3 ⟨rfl, hb3⟩
              have q0 : w3.cell? ⟨g, 0, none⟩ = some (.string ⟨p0.toArray⟩) := (hb3.cell (p := ⟨g, 0, none⟩) (by show g < _; simp; omega)).trans eA
              have q1 : w3.cell? ⟨wr.heap.size, 0, none⟩ = some (.int .i64 (k : Int)) := (hb3.cell (p := ⟨wr.heap.size, 0, none⟩) (by simp)).trans n0
              have q2 : w3.cell? ⟨wr.heap.size, 1, none⟩ = some (.string ⟨p1.toArray⟩) := (hb3.cell (p := ⟨wr.heap.size, 1, none⟩) (by simp)).trans n1
              have B3 : Below w1.heap.size w1 w3 := BA.drew.trans (hb3.mono (by simp; omega))
              refine hK.out _ _ ⟨q0, q1, q2⟩ (fun hS2 => ?_)
              clear hK K
              try simp only [Act.put, List.setIfInBounds_toArray, List.set_cons_zero, List.set_cons_succ]
              refine heldW 9 36 (.bool false) rfl rfl (by kernel_rfl) (by kernel_rfl) (by kernel_rfl) (fun _ _ _ h => h) (by rfl) hS2 (fun W hSW => ?_) ?_
              · (try dsimp only at hSW); (try obtain ⟨hSA, hSB, hSC⟩ := hSW); go_simp <;> omega
              simp only [Act.put, List.setIfInBounds_toArray, List.set_cons_zero, List.set_cons_succ]
              refine wpAnyH_done (by kernel_rfl) ?_ _
              have HF2 := Lib.hid (HF.out (by rw [HA.out, hwb2]; rfl))
              go_wp2
              go_roundw
              case rel => exact ⟨k + 1, by omega, by omega, by go_num, B3, HF2.out⟩
              case measure => simp [intOf]; omega
            · go_wp2_with fail
              refine wp_region_held_drew (S := fun w' => w'.cell? ⟨g, 0, none⟩ = some (.string ⟨p0.toArray⟩) ∧ w'.cell? ⟨wr.heap.size, 0, none⟩ = some (.int .i64 (k : Int)) ∧ w'.cell? ⟨wr.heap.size, 1, none⟩ = some (.string ⟨p1.toArray⟩)) (by kernel_rfl) ⟨eA, n0, n1⟩ (fun hS0 => ?_)
              refine heldW 0 27 (.slice (some ⟨g, 0, none⟩) 2 cap) rfl rfl (by kernel_rfl) (by kernel_rfl) (by kernel_rfl) (fun _ _ _ h => h) (by rfl) hS0 (fun W hSW => ?_) ?_
              · (try dsimp only at hSW); (try obtain ⟨hSA, hSB, hSC⟩ := hSW); go_simp <;> omega
              simp only [Act.put, List.setIfInBounds_toArray, List.set_cons_zero, List.set_cons_succ]
              refine heldW 1 28 (.pointer (some ⟨g, 0, none⟩)) rfl rfl (by kernel_rfl) (by kernel_rfl) (by kernel_rfl) (fun _ _ _ h => h) (by rfl) hS0 (fun W hSW => ?_) ?_
              · (try dsimp only at hSW); (try obtain ⟨hSA, hSB, hSC⟩ := hSW); go_simp <;> omega
              simp only [Act.put, List.setIfInBounds_toArray, List.set_cons_zero, List.set_cons_succ]
              refine heldW 2 29 (.string ⟨p0.toArray⟩) rfl rfl (by kernel_rfl) (by kernel_rfl) (by kernel_rfl) (fun _ _ _ h => h) (by rfl) hS0 (fun W hSW => ?_) ?_
              · (try dsimp only at hSW); (try obtain ⟨hSA, hSB, hSC⟩ := hSW); go_simp <;> omega
              simp only [Act.put, List.setIfInBounds_toArray, List.set_cons_zero, List.set_cons_succ]
              refine heldW 3 30 (.int .i64 (k : Int)) rfl rfl (by kernel_rfl) (by kernel_rfl) (by kernel_rfl) (fun _ _ _ h => h) (by rfl) hS0 (fun W hSW => ?_) ?_
              · (try dsimp only at hSW); (try obtain ⟨hSA, hSB, hSC⟩ := hSW); go_simp <;> omega
              simp only [Act.put, List.setIfInBounds_toArray, List.set_cons_zero, List.set_cons_succ]
              refine wpAnyH_ready (rs := [4]) (by kernel_rfl) (by simp) (AllReadyH.cons rfl (fun K hK => ?_) AllReadyH.nil)
              rw [if_pos (by rfl)]
              go_simp
              (with_reducible refine (f2.out _).mono ?_); rintro e w2 ⟨rfl, rfl⟩
              refine hK.out _ _ hS0 (fun hS1 => ?_)
              clear hK K
              try simp only [Act.put, List.setIfInBounds_toArray, List.set_cons_zero, List.set_cons_succ]
              refine heldW 5 32 (.bool true) rfl rfl (by kernel_rfl) (by kernel_rfl) (by kernel_rfl) (fun _ _ _ h => h) (by rfl) hS1 (fun W hSW => ?_) ?_
              · (try dsimp only at hSW); (try obtain ⟨hSA, hSB, hSC⟩ := hSW); go_simp <;> omega
              simp only [Act.put, List.setIfInBounds_toArray, List.set_cons_zero, List.set_cons_succ]
              refine heldW 6 33 (.bool true) rfl rfl (by kernel_rfl) (by kernel_rfl) (by kernel_rfl) (fun _ _ _ h => h) (by rfl) hS1 (fun W hSW => ?_) ?_
              · (try dsimp only at hSW); (try obtain ⟨hSA, hSB, hSC⟩ := hSW); go_simp <;> omega
              simp only [Act.put, List.setIfInBounds_toArray, List.set_cons_zero, List.set_cons_succ]
              refine heldW 7 34 (.agg #[.int .i64 (k : Int), .string ⟨p1.toArray⟩]) rfl rfl (by kernel_rfl) (by kernel_rfl) (by kernel_rfl) (fun _ _ _ h => h) (by rfl) hS1 (fun W hSW => ?_) ?_
              · (try dsimp only at hSW); (try obtain ⟨hSA, hSB, hSC⟩ := hSW); go_simp <;> omega
              simp only [Act.put, List.setIfInBounds_toArray, List.set_cons_zero, List.set_cons_succ]
              refine wpAnyH_ready (rs := [8]) (by kernel_rfl) (by simp) (AllReadyH.cons rfl (fun K hK => ?_) AllReadyH.nil)
              rw [if_pos (by rfl)]
              go_simp
              (with_reducible refine (f3.out _).mono ?_); rintro e w3 ⟨rfl, hb3⟩
              have q0 : w3.cell? ⟨g, 0, none⟩ = some (.string ⟨p0.toArray⟩) := (hb3.cell (p := ⟨g, 0, none⟩) (by show g < _; simp; omega)).trans eA
              have q1 : w3.cell? ⟨wr.heap.size, 0, none⟩ = some (.int .i64 (k : Int)) := (hb3.cell (p := ⟨wr.heap.size, 0, none⟩) (by simp)).trans n0
              have q2 : w3.cell? ⟨wr.heap.size, 1, none⟩ = some (.string ⟨p1.toArray⟩) := (hb3.cell (p := ⟨wr.heap.size, 1, none⟩) (by simp)).trans n1
              have B3 : Below w1.heap.size w1 w3 := BA.drew.trans (hb3.mono (by simp; omega))
              refine hK.out _ _ ⟨q0, q1, q2⟩ (fun hS2 => ?_)
              clear hK K
              try simp only [Act.put, List.setIfInBounds_toArray, List.set_cons_zero, List.set_cons_succ]
              refine heldW 9 36 (.bool true) rfl rfl (by kernel_rfl) (by kernel_rfl) (by kernel_rfl) (fun _ _ _ h => h) (by rfl) hS2 (fun W hSW => ?_) ?_
              · (try dsimp only at hSW); (try obtain ⟨hSA, hSB, hSC⟩ := hSW); go_simp <;> omega
              simp only [Act.put, List.setIfInBounds_toArray, List.set_cons_zero, List.set_cons_succ]
              refine wpAnyH_done (by kernel_rfl) ?_ _
              have HT2 := Lib.hid (HT.out (by rw [HA.out, hwb2]; rfl))
              have c0s := (B3.cell (p := ⟨w.heap.size, 0, none⟩) hs1).trans c0
              have c1s := (B3.cell (p := ⟨w.heap.size, 1, none⟩) hs1).trans c1
              have z0s := (B3.frozen (p := ⟨w.heap.size, 0, none⟩) hs1).trans z0
              have z1s := (B3.frozen (p := ⟨w.heap.size, 1, none⟩) hs1).trans z1
              go_wp2
              rw [HR.out, HT2.out]
              refine bodyPost_ret (v := .tuple #[.agg #[.int .i64 (k : Int), .string ⟨p1.toArray⟩], .bool true]) (by simp [results, go_sem, c0s, c1s]) rfl ⟨rfl, (((B1.trans (B3.mono hz1)).setCell (p := ⟨w.heap.size, 0, none⟩) (Nat.le_refl _) _).setCell (p := ⟨w.heap.size, 1, none⟩) (Nat.le_refl _) _)⟩
          · have hwb2 : (p0 == wd) = false := by rw [beq_eq_false_iff_ne]; exact hw
            go_wp2_with fail
            refine wp_region_held_drew (S := fun w' => w'.cell? ⟨g, 0, none⟩ = some (.string ⟨p0.toArray⟩) ∧ w'.cell? ⟨wr.heap.size, 0, none⟩ = some (.int .i64 (k : Int)) ∧ w'.cell? ⟨wr.heap.size, 1, none⟩ = some (.string ⟨p1.toArray⟩)) (by kernel_rfl) ⟨eA, n0, n1⟩ (fun hS0 => ?_)
            refine heldW 0 27 (.slice (some ⟨g, 0, none⟩) 2 cap) rfl rfl (by kernel_rfl) (by kernel_rfl) (by kernel_rfl) (fun _ _ _ h => h) (by rfl) hS0 (fun W hSW => ?_) ?_
            · (try dsimp only at hSW); (try obtain ⟨hSA, hSB, hSC⟩ := hSW); go_simp <;> omega
            simp only [Act.put, List.setIfInBounds_toArray, List.set_cons_zero, List.set_cons_succ]
            refine heldW 1 28 (.pointer (some ⟨g, 0, none⟩)) rfl rfl (by kernel_rfl) (by kernel_rfl) (by kernel_rfl) (fun _ _ _ h => h) (by rfl) hS0 (fun W hSW => ?_) ?_
            · (try dsimp only at hSW); (try obtain ⟨hSA, hSB, hSC⟩ := hSW); go_simp <;> omega
            simp only [Act.put, List.setIfInBounds_toArray, List.set_cons_zero, List.set_cons_succ]
            refine heldW 2 29 (.string ⟨p0.toArray⟩) rfl rfl (by kernel_rfl) (by kernel_rfl) (by kernel_rfl) (fun _ _ _ h => h) (by rfl) hS0 (fun W hSW => ?_) ?_
            · (try dsimp only at hSW); (try obtain ⟨hSA, hSB, hSC⟩ := hSW); go_simp <;> omega
            simp only [Act.put, List.setIfInBounds_toArray, List.set_cons_zero, List.set_cons_succ]
            refine heldW 3 30 (.int .i64 (k : Int)) rfl rfl (by kernel_rfl) (by kernel_rfl) (by kernel_rfl) (fun _ _ _ h => h) (by rfl) hS0 (fun W hSW => ?_) ?_
            · (try dsimp only at hSW); (try obtain ⟨hSA, hSB, hSC⟩ := hSW); go_simp <;> omega
            simp only [Act.put, List.setIfInBounds_toArray, List.set_cons_zero, List.set_cons_succ]
            refine wpAnyH_ready (rs := [4]) (by kernel_rfl) (by simp) (AllReadyH.cons rfl (fun K hK => ?_) AllReadyH.nil)
            rw [if_pos (by rfl)]
            go_simp
            (with_reducible refine (f2.out _).mono ?_); rintro e w2 ⟨rfl, rfl⟩
            refine hK.out _ _ hS0 (fun hS1 => ?_)
            clear hK K
            try simp only [Act.put, List.setIfInBounds_toArray, List.set_cons_zero, List.set_cons_succ]
            refine heldW 5 32 (.bool false) rfl rfl (by kernel_rfl) (by kernel_rfl) (by kernel_rfl) (fun _ _ _ h => h) (by rfl) hS1 (fun W hSW => ?_) ?_
            · (try dsimp only at hSW); (try obtain ⟨hSA, hSB, hSC⟩ := hSW); go_simp <;> omega
            simp only [Act.put, List.setIfInBounds_toArray, List.set_cons_zero, List.set_cons_succ]
            refine heldW 6 33 (.bool false) rfl rfl (by kernel_rfl) (by kernel_rfl) (by kernel_rfl) (fun _ _ _ h => h) (by rfl) hS1 (fun W hSW => ?_) ?_
            · (try dsimp only at hSW); (try obtain ⟨hSA, hSB, hSC⟩ := hSW); go_simp <;> omega
            simp only [Act.put, List.setIfInBounds_toArray, List.set_cons_zero, List.set_cons_succ]
            refine heldS 7 34 rfl rfl (by kernel_rfl) (by kernel_rfl) (by kernel_rfl) (fun _ _ _ h => h) (by rfl) hS1 ?_
            simp only [Act.put, List.setIfInBounds_toArray, List.set_cons_zero, List.set_cons_succ]
            refine heldS 8 35 rfl rfl (by kernel_rfl) (by kernel_rfl) (by kernel_rfl) (fun _ _ _ h => h) (by rfl) hS1 ?_
            simp only [Act.put, List.setIfInBounds_toArray, List.set_cons_zero, List.set_cons_succ]
            refine heldW 9 36 (.bool false) rfl rfl (by kernel_rfl) (by kernel_rfl) (by kernel_rfl) (fun _ _ _ h => h) (by rfl) hS1 (fun W hSW => ?_) ?_
            · (try dsimp only at hSW); (try obtain ⟨hSA, hSB, hSC⟩ := hSW); go_simp <;> omega
            simp only [Act.put, List.setIfInBounds_toArray, List.set_cons_zero, List.set_cons_succ]
            refine wpAnyH_done (by kernel_rfl) ?_ _
            have HF2 := Lib.hid (HF.out (by rw [HA.out, hwb2]; rfl))
            go_wp2
            go_roundw
            case rel => exact ⟨k + 1, by omega, by omega, by go_num, BA.drew, HF2.out⟩
            case measure => simp [intOf]; omega
        · obtain rfl : k = 6 := by omega
          have HN := Lib.hid (readTwo_none HB.out)
          clear HB
          go_wp2
          rw [HR.out, HN.out]
          refine bodyPost_ret (v := .tuple #[.agg #[.int .i64 0, .string ⟨#[]⟩], .bool false]) (by simp [results, go_sem, c0r, c1r, World.cell?_setCell_other]) rfl ⟨rfl, (((B1.trans (hbel.mono hz1)).setCell (p := ⟨w.heap.size, 0, none⟩) (Nat.le_refl _) _).setCell (p := ⟨w.heap.size, 1, none⟩) (Nat.le_refl _) _)⟩
    · have HR := Lib.hid (readL_other (t := s.data.toList) h2)
      have hpos := cutF_pos 58 [] s.data.toList
      have hlen : (cutF 58 [] s.data.toList).length ≤ s.size + 1 := cutF_len 58 s.data.toList []
      have e2 : (((cutF 58 [] s.data.toList).length : Int) == 2) = false := by rw [beq_eq_false_iff_ne]; omega
      clear h2
      generalize cutF 58 [] s.data.toList = r at f1 hpos hlen e2
      go_enter Try.func24, Try.ntmps24
      go_wp2_with fail
      (with_reducible refine (f1.out _).mono ?_); rintro e w1 ⟨v1, rfl, ho1, hb1⟩
      obtain ⟨g, cap, rfl, _, _⟩ := ho1.form hpos
      have c0 : w1.cell? ⟨w.heap.size, 0, none⟩ = some (.int .i64 0) := (hb1.cell (p := ⟨w.heap.size, 0, none⟩) (by simp)).trans (World.news_of_block (cs := #[.int .i64 0, .string ⟨#[]⟩]) (t := 31) (fr := (0, 0)) (heap_alloc_new w _) 0 _ rfl)
      have c1 : w1.cell? ⟨w.heap.size, 1, none⟩ = some (.string ⟨#[]⟩) := (hb1.cell (p := ⟨w.heap.size, 1, none⟩) (by simp)).trans (World.news_of_block (cs := #[.int .i64 0, .string ⟨#[]⟩]) (t := 31) (fr := (0, 0)) (heap_alloc_new w _) 1 _ rfl)
      have z0 : w1.frozen? ⟨w.heap.size, 0, none⟩ = false := (hb1.frozen (p := ⟨w.heap.size, 0, none⟩) (by simp)).trans (by simp)
      have z1 : w1.frozen? ⟨w.heap.size, 1, none⟩ = false := (hb1.frozen (p := ⟨w.heap.size, 1, none⟩) (by simp)).trans (by simp)
      have B1 := (B0 (.cells #[.int .i64 0, .string ⟨#[]⟩] 31)).trans (hb1.mono (by simp))
      clear ho1
      go_wp2
      refine wp_loop_rounds 1 ?_
      rw [rounds_succ]
      go_wp2
      rw [HR.out]
      refine bodyPost_ret (v := .tuple #[.agg #[.int .i64 0, .string ⟨#[]⟩], .bool false]) (by simp [results, go_sem, c0, c1]) rfl ⟨rfl, ((B1.setCell (p := ⟨w.heap.size, 0, none⟩) (Nat.le_refl _) _).setCell (p := ⟨w.heap.size, 1, none⟩) (Nat.le_refl _) _)⟩
end Go.Proofs.Ytlaoioicefohiaa
