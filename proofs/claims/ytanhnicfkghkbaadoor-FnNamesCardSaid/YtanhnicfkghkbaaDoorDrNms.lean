/-
  Contract of spec.DrawNames.
-/
import Derived.Test.YtanhnicfkghkbaaDoorDrNm
namespace Go.Proofs.YtanhnicfkghkbaaDoor
set_option maxRecDepth 100000
open Go.ChangeShapes Go.WideShapes Go.ChangeAt Go.RowKit
set_option linter.unusedSimpArgs false

/-- What DrawNames answers: one to five names. -/
def NmResD (w : World) (e : Ending) (w' : World) : Prop :=
  ∃ (v : Value) (ls : List (List UInt8)), 1 ≤ ls.length ∧ ls.length ≤ 5 ∧ (∀ y ∈ ls, y ∈ theNames) ∧ e = .returned v ∧ w'.ownsRow w.heap.size 9 1 v ls.length (ls.map sv) ∧ Below w.heap.size w w'
set_option maxHeartbeats 2000000 in
theorem drawNamesD {w : World} {v : Value} {l : List UInt8} (hl : CameB w v l) (hn : l.length ≤ 2000000) :
    Calls Tryd.prog 5 #[v] w (NmResD w) := by
  have f1 := Lib.hid (drawNew hl hn)
  have fB : Hid (∀ cb W, Cur w v l cb W → Calls Tryd.prog 15 #[.pointer (some ⟨cb, 0, none⟩), .int .i64 5] W fun e w' => (∃ x : Nat, x < 5 ∧ e = .returned (.int .i64 x)) ∧ Cur w v l cb w' ∧ W.grownBy w' (some cb)) := fun cb W hW => drawBelow hl hW hn 5 (by decide) (by decide)
  have fN := Lib.hid fun cb W (hW : Cur w v l cb W) => drawNameD hl hn W hW
  obtain ⟨i0, hi, hz0, hz1, hz2⟩ := info_parts infoStrT
  obtain ⟨a0, cap, _, _, rfl, _⟩ := hl
  go_enter Tryd.func5, Tryd.ntmps5
  go_wp2_with fail
  (with_reducible refine f1.out.mono ?_); rintro e wa ⟨cb, rfl, hca⟩
  have hcw : cb < wa.heap.size := hca.2.2.1
  have r0 := World.ownsRow_lit (base := wa.heap.size) (e := 9) (size := 1) wa #[] 0 (Nat.le_refl _) (by decide) (by simp)
  have bb0 := (Below.refl wa.heap.size wa).alloc (Nat.le_refl _) (.cells #[] 9)
  have hc3 := hca.below bb0
  have hz0' := bb0.size
  have hwa : w.heap.size ≤ wa.heap.size := hca.1.size
  clear bb0 f1 hca
  go_wp2
  go_loopw [4, 5] (fun vo i wr => ∃ (k : Nat) (ls : List (List UInt8)), k ≤ 5 ∧ ls.length = k ∧ i = .int .i64 k ∧ wr.ownsRow wa.heap.size 9 1 vo ls.length (ls.map sv) ∧ Cur w (.slice a0 l.length cap) l cb wr ∧ wa.heap.size ≤ wr.heap.size ∧ Hid (∀ y ∈ ls, y ∈ theNames)) (fun _ i _ => 5 - (intOf i).toNat)
  case atStart => exact ⟨0, [], by omega, rfl, rfl, r0, hc3, hz0', fun x hx => absurd hx (by simp)⟩
  case round =>
    obtain ⟨k, ls, hk, hp, rfl, hown, hcr, hzz, HP⟩ := hrel
    clear r0 hc3 hz0'
    go_wp2_with fail
    (with_reducible refine (fB.out _ _ hcr).mono ?_); rintro e w3 ⟨⟨y, hy, rfl⟩, hc3, hg3⟩
    have hown3 := keep_cur hown hg3 hcw
    have z3 : wa.heap.size ≤ w3.heap.size := Nat.le_trans hzz hg3.size
    clear hown hg3 hcr
    by_cases hky : k < 1 + y
    · have d1 : decide ((k : Int) < 1 + (y : Int)) = true := decide_eq_true (by omega)
      go_wp2_with fail
      (with_reducible refine (fN.out _ _ hc3).mono ?_); rintro e w4 ⟨⟨t, ht, _, _, rfl⟩, hc4, hg4⟩
      have hown4 := keep_cur hown3 hg4 hcw
      have z4 : wa.heap.size ≤ w4.heap.size := Nat.le_trans z3 hg4.size
      clear hown3 hc3 hg4
      go_wp2_with (at_builtin; refine wpList_append_own _ rfl _ _ 24 rfl wa.heap.size 9 i0 _ 1 16 Tryd.underlying24 hi hz0 hz1 hz2 rfl (by decide) _ _ _ rfl (hown4.alloc _) ⟨_, 0, none⟩ 1 1 [.string ⟨t.toArray⟩] rfl rfl (oneNew _ _ _) (by simp [Value.oneCell']) (by simp only [maxLen]; omega) (by omega) (by simp; omega) ?_; intro v1 w5 hown5 hg5 _)
      have hlo : ∀ g, u4.ownBlock = some g → wa.heap.size ≤ g := fun g hg => (hown4.lt g hg).1
      have hc5 := (hc4.below ((Below.refl w4.heap.size w4).alloc (Nat.le_refl _) (.cells #[.string ⟨t.toArray⟩] 9))).grownS hg5 (fun e => by have := hlo cb e; omega) (fun g hg => by have := hlo g hg; omega)
      have HP2 : Hid (∀ y ∈ ls ++ [t], y ∈ theNames) := fun y hy => by
        rcases List.mem_append.1 hy with h | h
        · exact HP.out y h
        · simp only [List.mem_cons, List.not_mem_nil, or_false] at h
          subst h
          exact ht
      have z5 : wa.heap.size ≤ w5.heap.size := by have := hg5.size; simp at this; omega
      clear hown4 hc4 hg5 HP hlo ht
      go_wp2
      go_roundw
      case rel => exact ⟨k + 1, ls ++ [t], by omega, by simp [hp], by go_num, by simpa [sv] using hown5, hc5, z5, HP2.out⟩
      case measure => simp [intOf]; omega
    · have d1 : decide ((k : Int) < 1 + (y : Int)) = false := decide_eq_false (by omega)
      have HW := Lib.hid (own_weakenS hown3 (b' := w.heap.size) hwa)
      have HC := Lib.hid hc3.1
      have HL : Hid (1 ≤ ls.length ∧ ls.length ≤ 5) := ⟨by omega, by omega⟩
      clear hown3 hc3 hp
      go_wp2
      go_ret
      exact ⟨_, ls, HL.out.1, HL.out.2, HP.out, rfl, HW.out, HC.out⟩
/-- What DrawNames answers: one to five names. -/
def NmRes (w : World) (e : Ending) (w' : World) : Prop :=
  ∃ (v : Value) (ls : List (List UInt8)), 1 ≤ ls.length ∧ ls.length ≤ 5 ∧ (∀ y ∈ ls, nameOk y = true ∧ y.length ≤ 8) ∧ e = .returned v ∧ w'.ownsRow w.heap.size 9 1 v ls.length (ls.map sv) ∧ Below w.heap.size w w'
theorem drawNames {w : World} {v : Value} {l : List UInt8} (hl : CameB w v l) (hn : l.length ≤ 2000000) :
    Calls Tryd.prog 5 #[v] w (NmRes w) :=
  (drawNamesD hl hn).mono fun _ _ ⟨v, ls, h1, h2, h3, h4, h5, h6⟩ => ⟨v, ls, h1, h2, fun y hy => theNames_ok y (h3 y hy), h4, h5, h6⟩
end Go.Proofs.YtanhnicfkghkbaaDoor
