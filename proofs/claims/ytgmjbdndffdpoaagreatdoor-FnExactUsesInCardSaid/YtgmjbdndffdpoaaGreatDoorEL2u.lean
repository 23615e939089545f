/-
  The law of UsesIn.
-/
import Derived.Test.YtgmjbdndffdpoaaGreatDoorEUses
import Derived.Test.YtgmjbdndffdpoaaGreatDoorEL2P
namespace Go.Proofs.YtgmjbdndffdpoaaGreatDoor
set_option maxRecDepth 100000
open Go.ChangeShapes Go.WideShapes Go.ChangeAt Go.RowKit
set_option linter.unusedSimpArgs false

set_option maxHeartbeats 2000000 in
theorem lawUsesIn (s : ByteArray) (w : World) (hm : s.size ≤ maxLen)
    (hI : s.size ≤ 1048576 → ∀ W, Below w.heap.size w W → Calls Tryz.prog 15 #[.string s] W (LRes' (usesIn s.data.toList) W)) :
    Calls Tryz.prog 4 #[.string s] w fun e w' => e = .returned (.bool true) ∧ Below w.heap.size w w' := by
  by_cases h1 : s.size ≤ 1048576
  rotate_left
  · have d1 : decide ((1048576 : Int) < (s.size : Int)) = true := decide_eq_true (by omega)
    clear hI
    unfold maxLen at hm
    go_enter Tryz.func4, Tryz.ntmps4
    go_wp2
    go_ret
    exact ⟨rfl, Below.refl _ _⟩
  have d1 : decide ((1048576 : Int) < (s.size : Int)) = false := decide_eq_false (by omega)
  have fS := Lib.hid fun W => specUsesIn s W hm
  have fI := Lib.hid (hI h1)
  have hn := usesIn_len s.data.toList
  clear hI
  unfold maxLen at hm
  unfold LRes' at fS fI
  generalize usesIn s.data.toList = l at fS fI hn
  have dn : decide ((l.length : Int) + 1 < 0) = false := decide_eq_false (by omega)
  go_enter Tryz.func4, Tryz.ntmps4
  go_wp2_with fail
  (with_reducible refine (fS.out _).mono ?_); rintro e w1 ⟨u, rfl, hu1, hb1⟩
  have hiU := own_hiE hu1
  have z1 := hb1.size
  go_wp2_with fail
  (with_reducible refine (fI.out _ hb1).mono ?_); rintro e w2 ⟨g, rfl, hg2, hb2⟩
  have B2 := hb1.trans (hb2.mono z1)
  have z2 := B2.size
  have hu2 := own_below hu1 hb2
  have log := own_loE hg2
  clear hu1 hb2 hb1
  go_wp2_with fail
  (refine (eqStringS hg2 hu2 (by omega)).mono ?_); rintro e w3 ⟨rfl, q1, rfl⟩
  have D3 := below_drewN B2 q1
  have hg3 := own_drew hg2 q1
  have hu3 := own_drew hu2 q1
  have z3 := D3.size
  clear hg2 hu2
  go_wp2_with fail
  (refine (markOne hg3 (by omega)).mono ?_); rintro e w4 ⟨rfl, hm4, hgr4⟩
  have B4 := D3.grown hgr4 z3 (fun k hk => by have := log k hk; omega)
  have hu4 := kept_apartE hu3 hgr4 hiU log
  have z4 := B4.size
  clear hg3 hu3 hgr4
  go_wp2_with fail
  (refine (heldOne hm4 (by omega)).mono ?_); rintro e w5 ⟨rfl, hb5⟩
  have B5 := B4.trans (hb5.mono z4)
  have hm5 := own_below hm4 hb5
  have hu5 := own_below hu4 hb5
  clear hm4 hu4 hb5
  go_wp2_with fail
  (with_reducible refine (fI.out _ B5).mono ?_); rintro e w6 ⟨h, rfl, hh6, hb6⟩
  have B6 := B5.trans (hb6.mono B5.size)
  have hm6 := own_below hm5 hb6
  have hu6 := own_below hu5 hb6
  clear hm5 hu5 hb6
  go_wp2_with fail
  (refine (eqStringS hh6 hu6 (by omega)).mono ?_); rintro e w7 ⟨rfl, q2, rfl⟩
  have D7 := below_drewN B6 q2
  have hm7 := own_drew hm6 q2
  clear hh6 hu6 hm6
  go_wp2_with fail
  (refine (heldOne hm7 (by omega)).mono ?_); rintro e w8 ⟨rfl, hb8⟩
  go_wp2
  go_ret
  exact ⟨rfl, D7.trans (hb8.mono D7.size)⟩

end Go.Proofs.YtgmjbdndffdpoaaGreatDoor
