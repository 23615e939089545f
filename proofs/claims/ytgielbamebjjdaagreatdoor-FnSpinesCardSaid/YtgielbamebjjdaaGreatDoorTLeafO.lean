/-
  The contract of spec.l06Leaf at another byte.
-/
import Derived.Test.YtgielbamebjjdaaGreatDoorTLeaf
namespace Go.Proofs.YtgielbamebjjdaaGreatDoor
set_option maxRecDepth 100000
open Go.ChangeShapes Go.WideShapes Go.ChangeAt Go.RowKit
set_option linter.unusedSimpArgs false

set_option maxHeartbeats 1000000 in
theorem specLeafO (s : ByteArray) (p : Nat) (w : World) (hp : p < s.size) (h1 : s[p] ≠ 118) (h2 : s[p] ≠ 115) (h3 : s[p] ≠ 99) :
    Calls Tryz.prog 152 #[.string s, .int .i64 (p : Int)] w (LeafPost s.data.toList p w) := by
  have e0 : ((s[p].toNat : Int) == 118) = false := ne_byte h1
  have e1 : ((s[p].toNat : Int) == 115) = false := ne_byte h2
  have e2 : ((s[p].toNat : Int) == 99) = false := ne_byte h3
  have HN : Hid (∀ t r, Tat (s.data.toList.drop p) t r → t.isLeaf = false) := fun t r ht => by
    have hk := tat_head (l := s.data.toList) hp ht
    cases t with
    | var n => exact absurd hk.symm h1
    | sort n => exact absurd hk.symm h2
    | const n ls => exact absurd hk.symm h3
    | _ => rfl
  clear h1 h2 h3
  have q1 : (0 : Int) ≤ (p : Int) := by omega
  have q2 : (p : Int) < (s.size : Int) := by omega
  go_enter Tryz.func152, Tryz.ntmps152
  go_wp2
  exact bodyPost_ret (v := .tuple #[.agg #[.int .u8 (s[p].toNat : Int), .int .i64 0, .int .i64 0, .int .i64 0, .int .i64 0, .string ⟨#[]⟩, .slice none 0 0], .int .i64 (-1)]) (by simp [results, Tryz.results152, go_sem]) rfl ⟨((Below.refl w.heap.size w).alloc (Nat.le_refl _) _).alloc (by simp) _, ⟨s[p], 0, 0, 0, 0, [], .slice none 0 0⟩, _, ⟨_, _, _, rfl⟩, rfl, .inr ⟨rfl, HN.out⟩⟩
end Go.Proofs.YtgielbamebjjdaaGreatDoor
