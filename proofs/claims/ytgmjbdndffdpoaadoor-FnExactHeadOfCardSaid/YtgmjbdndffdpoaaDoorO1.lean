/-
  Contracts of impl.headOf, impl.targetOf, impl.HeadOf and impl.Target.
-/
import Derived.Test.YtgmjbdndffdpoaaDoorM3
import Derived.Test.YtgmjbdndffdpoaaDoorEMath
import Derived.Test.YtgmjbdndffdpoaaDoorENode
import Derived.Test.YtgmjbdndffdpoaaDoorM5
namespace Go.Proofs.YtgmjbdndffdpoaaDoor
set_option maxRecDepth 100000
open Go.ChangeShapes Go.WideShapes Go.ChangeAt Go.RowKit
set_option linter.unusedSimpArgs false
set_option linter.unusedVariables false

set_option maxHeartbeats 4000000 in
theorem implHeadOfT {t : Tm} {v : Value} {W : World} (h : IRep W t v) :
    Calls Tryd.prog 30 #[v] W fun e W' => W' = W ∧ ∃ v', e = .returned v' ∧ IRep W t.head v' := by
  have HT := Lib.hid h
  clear h
  go_enter Tryd.func30, Tryd.ntmps30
  go_wp2
  go_loopw [0] (fun o wr => ∃ (u : Tm) (oo : Value), oo = o ∧ wr = W ∧ Hid (IRep W u oo ∧ u.head = t.head)) (fun o _ => msr W o)
  case atStart => exact ⟨t, _, rfl, rfl, ⟨HT.out, rfl⟩⟩
  case round =>
    obtain ⟨u, oo, rfl, rfl, HU⟩ := hrel
    clear HT
    by_cases hk : u.kind = 64
    · obtain ⟨p, q, rfl⟩ := kind_app hk
      obtain ⟨h1, h2⟩ := HU.out
      obtain ⟨g, x, y, rfl, hg, hx, hy⟩ := id h1
      have HM := Lib.hid (msr_app h1 hg)
      have HN : Hid (IRep wr p x ∧ p.head = t.head) := ⟨hx, h2⟩
      have cc : wr.cell? ⟨g, 0, none⟩ = some x := by rw [Lib.cell_of_heap hg]; rfl
      have tA := (taApp 66 (.pointer (some ⟨g, 0, none⟩)) wr).trans (by rw [if_pos rfl])
      clear HU h1 h2 hg hx hy hk
      go_wp2
      go_roundw
      case rel => exact ⟨_, _, rfl, trivial, HN⟩
      case measure => exact HM.out
    · have tA := asked_app HU.out.1 hk wr
      have HR : Hid (IRep wr t.head oo) := by rw [Hid, ← HU.out.2, (not_app hk).1]; exact HU.out.1
      clear HU hk
      go_wp2
      go_ret
      exact ⟨rfl, _, rfl, HR.out⟩

set_option maxHeartbeats 4000000 in
theorem implHeadOf (s : ByteArray) (W : World) (hv : Vars W) (hs : s.size ≤ maxLen) :
    Calls Tryd.prog 10 #[.string s] W fun e W' => e = .returned (.string ⟨(headOf s.data.toList).toArray⟩) ∧ Below W.heap.size W W' := by
  have f1 := Lib.hid (implReadTerm s W hv hs)
  go_enter Tryd.func10, Tryd.ntmps10
  go_wp2_with fail
  (with_reducible refine f1.out.mono ?_); rintro e W1 ⟨hb, ⟨t, v, ht, rfl, hr⟩ | ⟨hno, rfl⟩⟩
  rotate_left
  · have HE : Hid (headOf s.data.toList = []) := by rw [Hid, headOf, termOf_none hno]
    have HB := Lib.hid hb
    clear hno hb f1
    go_wp2
    go_ret
    rw [HE.out]
    exact ⟨rfl, HB.out⟩
  have HE : Hid (headOf s.data.toList = t.head.bytes) := by rw [Hid, headOf, termOf_some ht]
  have hle := ht.2.2
  rw [← ht.2.1] at hle
  have HB := Lib.hid hb
  have HV := Lib.hid (hv.below hb)
  have f2 := Lib.hid (implHeadOfT hr)
  have f3 := Lib.hid fun v' (h : IRep W1 t.head v') => implText HV.out (Tm.head_ok ht.1).lim9 h (by have := t.head_len; omega)
  obtain ⟨T0, x0, rfl⟩ := hr.iface
  clear f1 ht hle hr hb
  go_wp2_with fail
  (with_reducible refine f2.out.mono ?_); rintro e w2 ⟨rfl, v', rfl, hr2⟩
  have f4 := Lib.hid (f3.out v' hr2)
  obtain ⟨T1, x1, rfl⟩ := hr2.iface
  clear f2 f3 hr2
  go_wp2_with fail
  (with_reducible refine f4.out.mono ?_); rintro e W3 ⟨rfl, hb2⟩
  have HB2 := Lib.hid (HB.out.trans (hb2.mono HB.out.size))
  clear hb2
  go_wp2
  go_ret
  rw [HE.out]
  exact ⟨rfl, HB2.out⟩

set_option maxHeartbeats 4000000 in
theorem implTargetT {t : Tm} {v : Value} {W : World} (h : IRep W t v) :
    Calls Tryd.prog 40 #[v] W fun e W' => W' = W ∧ ∃ v', e = .returned v' ∧ IRep W t.targ v' := by
  have HT := Lib.hid h
  clear h
  go_enter Tryd.func40, Tryd.ntmps40
  go_wp2
  go_loopw [0] (fun o wr => ∃ (u : Tm) (oo : Value), oo = o ∧ wr = W ∧ Hid (IRep W u oo ∧ u.targ = t.targ)) (fun o _ => msr W o)
  case atStart => exact ⟨t, _, rfl, rfl, ⟨HT.out, rfl⟩⟩
  case round =>
    obtain ⟨u, oo, rfl, rfl, HU⟩ := hrel
    clear HT
    by_cases hk : u.kind = 112
    · obtain ⟨p, q, rfl⟩ := kind_pi hk
      obtain ⟨h1, h2⟩ := HU.out
      obtain ⟨g, x, y, rfl, hg, hx, hy⟩ := id h1
      have HM := Lib.hid (msr_pi h1 hg)
      have HN : Hid (IRep wr q y ∧ q.targ = t.targ) := ⟨hy, h2⟩
      have cc : wr.cell? ⟨g, 1, none⟩ = some y := by rw [Lib.cell_of_heap hg]; rfl
      have tA := (taPi 72 (.pointer (some ⟨g, 0, none⟩)) wr).trans (by rw [if_pos rfl])
      clear HU h1 h2 hg hx hy hk
      go_wp2
      go_roundw
      case rel => exact ⟨_, _, rfl, trivial, HN⟩
      case measure => exact HM.out
    · have tA := asked_pi HU.out.1 hk wr
      have HR : Hid (IRep wr t.targ oo) := by rw [Hid, ← HU.out.2, (not_pi hk).1]; exact HU.out.1
      clear HU hk
      go_wp2
      go_ret
      exact ⟨rfl, _, rfl, HR.out⟩

set_option maxHeartbeats 4000000 in
theorem implTarget (s : ByteArray) (W : World) (hv : Vars W) (hs : s.size ≤ maxLen) :
    Calls Tryd.prog 23 #[.string s] W fun e W' => e = .returned (.string ⟨(targetOf s.data.toList).toArray⟩) ∧ Below W.heap.size W W' := by
  have f1 := Lib.hid (implReadTerm s W hv hs)
  go_enter Tryd.func23, Tryd.ntmps23
  go_wp2_with fail
  (with_reducible refine f1.out.mono ?_); rintro e W1 ⟨hb, ⟨t, v, ht, rfl, hr⟩ | ⟨hno, rfl⟩⟩
  rotate_left
  · have HE : Hid (targetOf s.data.toList = []) := by rw [Hid, targetOf, termOf_none hno]
    have HB := Lib.hid hb
    clear hno hb f1
    go_wp2
    go_ret
    rw [HE.out]
    exact ⟨rfl, HB.out⟩
  have HE : Hid (targetOf s.data.toList = t.targ.bytes) := by rw [Hid, targetOf, termOf_some ht]
  have hle := ht.2.2
  rw [← ht.2.1] at hle
  have HB := Lib.hid hb
  have HV := Lib.hid (hv.below hb)
  have f2 := Lib.hid (implTargetT hr)
  have f3 := Lib.hid fun v' (h : IRep W1 t.targ v') => implText HV.out (Tm.targ_ok ht.1).lim9 h (by have := t.targ_len; omega)
  obtain ⟨T0, x0, rfl⟩ := hr.iface
  clear f1 ht hle hr hb
  go_wp2_with fail
  (with_reducible refine f2.out.mono ?_); rintro e w2 ⟨rfl, v', rfl, hr2⟩
  have f4 := Lib.hid (f3.out v' hr2)
  obtain ⟨T1, x1, rfl⟩ := hr2.iface
  clear f2 f3 hr2
  go_wp2_with fail
  (with_reducible refine f4.out.mono ?_); rintro e W3 ⟨rfl, hb2⟩
  have HB2 := Lib.hid (HB.out.trans (hb2.mono HB.out.size))
  clear hb2
  go_wp2
  go_ret
  rw [HE.out]
  exact ⟨rfl, HB2.out⟩

end Go.Proofs.YtgmjbdndffdpoaaDoor
