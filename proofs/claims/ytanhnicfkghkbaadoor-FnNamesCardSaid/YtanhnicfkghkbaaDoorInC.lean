/-
  The contract of impl.NameIn.
-/
import Derived.Test.YtanhnicfkghkbaaDoorSBP0
import Derived.Test.YtanhnicfkghkbaaDoorInP
import Derived.Test.YtanhnicfkghkbaaDoorShelfCo
namespace Go.Proofs.YtanhnicfkghkbaaDoor
set_option maxRecDepth 100000
open Go.ChangeShapes Go.WideShapes Go.ChangeAt Go.RowKit

theorem containsS_inL (l : List (List UInt8)) (y : List UInt8) (n : Nat) (hn : n = l.length) : Lib.containsS ((l.map fun x => (⟨x.toArray⟩ : ByteArray)).take n) ⟨y.toArray⟩ = inL l y := by
  subst hn
  rw [Bool.eq_iff_iff, Lib.containsS_iff, List.take_of_length_le (by simp)]
  simp only [inL, decide_eq_true_eq, List.mem_map]
  constructor
  · rintro ⟨x, hx, e⟩
    have : x = y := by simpa using e
    rw [← this]; exact hx
  · intro h; exact ⟨y, h, rfl⟩
theorem implNameIn {w : World} {b : Nat} {v : Value} {l : List (List UInt8)} (h : w.ownsRow b 9 1 v l.length (l.map sv)) (y : List UInt8) (hn : l.length ≤ 1048576) :
    Calls Tryd.prog 12 #[v, .string ⟨y.toArray⟩] w fun e w' => e = .returned (.bool (inL l y)) ∧ w' = w := by
  rcases Nat.eq_zero_or_pos l.length with h0 | hp
  · obtain ⟨a, cap, rfl⟩ := own_nil_or h h0
    obtain rfl : l = [] := List.length_eq_zero_iff.1 h0
    have f1 := Lib.hid fun W => Tryd.slices_Contains_string_empty a cap ⟨y.toArray⟩ W
    clear h h0 hn
    go_enter Tryd.func12, Tryd.ntmps12
    go_wp2_with fail
    (with_reducible refine (f1.out _).mono ?_); rintro e w1 ⟨rfl, rfl⟩
    go_wp2
    go_ret
    exact ⟨rfl, rfl⟩
  · obtain ⟨g, cap, rfl, _, _⟩ := h.form hp
    have f1 := Lib.hid (Tryd.slices_Contains_string g 0 l.length cap (l.map fun x => (⟨x.toArray⟩ : ByteArray)) ⟨y.toArray⟩ w (by simp) (by omega) (fun j hj => by
      have hj2 : j < l.length := by simpa using hj
      rw [Nat.zero_add, h.cellAt j (by omega)]
      simp [hj2, sv]))
    rw [containsS_inL l y _ rfl] at f1
    clear h
    go_enter Tryd.func12, Tryd.ntmps12
    go_wp2_with fail
    (with_reducible refine f1.out.mono ?_); rintro e w1 ⟨rfl, rfl⟩
    go_wp2
    go_ret
    exact ⟨rfl, rfl⟩

end Go.Proofs.YtanhnicfkghkbaaDoor
