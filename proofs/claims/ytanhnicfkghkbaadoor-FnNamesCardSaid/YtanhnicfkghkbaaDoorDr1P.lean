/-
  The cursor of a draw, plainly.
-/
import Derived.Test.YtanhnicfkghkbaaDoorBytesP
import Derived.BigQuiet
import Derived.Laws.Bits128
namespace Go.Proofs.YtanhnicfkghkbaaDoor
set_option maxRecDepth 100000
open Go.ChangeShapes Go.WideShapes Go.ChangeAt Go.RowKit
set_option linter.unusedSimpArgs false

/-- A list of bytes that came in. -/
def CameB (w : World) (v : Value) (l : List UInt8) : Prop :=
  ∃ a0 cap b off, v = .slice a0 l.length cap ∧ (0 < l.length → a0 = some ⟨b, off, none⟩ ∧ b < w.heap.size) ∧ ∀ j (h : j < l.length), w.cell? ⟨b, off + j, none⟩ = some (.int .u8 (l[j].toNat : Int))
/-- A nil list has no elements and no room. -/
def NilB (v : Value) : Prop := ∀ n cap, v = .slice none n cap → n = 0 ∧ cap = 0
/-- A cursor at block cb over a list that came in with the world w0. -/
def Cur (w0 : World) (v : Value) (l : List UInt8) (cb : Nat) (w : World) : Prop :=
  Below w0.heap.size w0 w ∧ w0.heap.size ≤ cb ∧ cb < w.heap.size ∧ ∃ (i : Nat) (h : Int), i ≤ l.length ∧ w.cell? ⟨cb, 0, none⟩ = some v ∧ w.cell? ⟨cb, 1, none⟩ = some (.int .i64 i) ∧ w.cell? ⟨cb, 2, none⟩ = some (.int .i64 h) ∧ w.frozen? ⟨cb, 1, none⟩ = false ∧ w.frozen? ⟨cb, 2, none⟩ = false

theorem i64_and255 (n : Int) : bits .and .i64 n 255 = n % 256 := by
  have h255 : (BitVec.ofInt 64 255).toNat = 2 ^ 8 - 1 := by decide
  have key : (BitVec.ofInt 64 n &&& BitVec.ofInt 64 255).toNat = (n % ((2 ^ 64 : Nat) : Int)).toNat % 2 ^ 8 := by
    rw [BitVec.toNat_and, BitVec.toNat_ofInt, h255, Nat.and_two_pow_sub_one_eq_mod]
  show IntKind.i64.wrap ((BitVec.ofInt 64 n &&& BitVec.ofInt 64 255).toNat : Nat) = n % 256
  rw [key, IntKind.wrap_i64]
  omega
theorem and255 (n : Int) : ∃ x : Nat, x ≤ 255 ∧ bits .and .i64 n 255 = (x : Int) := ⟨(n % 256).toNat, by omega, by rw [i64_and255]; omega⟩

theorem CameB.below {w w' : World} {v : Value} {l : List UInt8} (h : CameB w v l) (hb : Below w.heap.size w w') : CameB w' v l := by
  obtain ⟨a0, cap, b, off, h1, h2, h3⟩ := h
  refine ⟨a0, cap, b, off, h1, fun h0 => ⟨(h2 h0).1, Nat.lt_of_lt_of_le (h2 h0).2 hb.size⟩, fun j hj => ?_⟩
  rw [hb.cell (p := ⟨b, off + j, none⟩) (h2 (by omega)).2]
  exact h3 j hj
end Go.Proofs.YtanhnicfkghkbaaDoor
