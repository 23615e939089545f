/-
  Contracts of spec.HeadOf and spec.Target.
-/
import Derived.Test.YtgmjbdndffdpoaaDoorENode
import Derived.Test.YtgmjbdndffdpoaaDoorTText
namespace Go.Proofs.YtgmjbdndffdpoaaDoor
set_option maxRecDepth 100000
open Go.ChangeShapes Go.WideShapes Go.ChangeAt Go.RowKit
set_option linter.unusedSimpArgs false
set_option linter.unusedVariables false

set_option maxHeartbeats 4000000 in
theorem specHeadOf (s : ByteArray) (w : World) (hs : s.size ≤ maxLen) :
    Calls Tryd.prog 9 #[.string s] w fun e w' => e = .returned (.string ⟨(headOf s.data.toList).toArray⟩) ∧ Below w.heap.size w w' := by
  have f1 := Lib.hid (specL06AllP s w hs)
  go_enter Tryd.func9, Tryd.ntmps9
  go_wp2_with fail
  (with_reducible refine f1.out.mono ?_); rintro e W ⟨v, ns, rfl, hrow, hb, hsl, (⟨t, ht, hn, hr⟩ | ⟨hno, rfl⟩)⟩
  rotate_left
  · obtain ⟨la, lc, rfl⟩ := own_sliceN hrow
    have HE : Hid (headOf s.data.toList = []) := by rw [Hid, headOf, termOf_none hno]
    have HB := Lib.hid hb
    clear hrow hno hb f1 hsl
    go_wp2
    go_ret
    rw [HE.out]
    exact ⟨rfl, HB.out⟩
  have HE : Hid (headOf s.data.toList = t.head.bytes) := by rw [Hid, headOf, termOf_some ht]
  have hle := ht.2.2
  rw [← ht.2.1] at hle
  have hsz := t.size_pos
  have hszl := t.size_le
  have hn2 : ns.length ≤ 100000 := by omega
  obtain ⟨k0, hk0⟩ : ∃ k0, ns.length = k0 + 1 := ⟨ns.length - 1, by omega⟩
  have HR0 : Hid (RepP W w.heap.size ns k0 t ∧ t.Ok ∧ t.bytes.length ≤ 2000) := ⟨by rw [show k0 = ns.length - 1 by omega]; exact hr, ht.1, hle⟩
  have HB := Lib.hid hb
  have HSL := Lib.hid hsl
  obtain ⟨g, cap, rfl, _, hgl⟩ := hrow.form (by omega)
  have HROW := Lib.hid hrow
  have d0 : (((ns.length : Nat) : Int) == 0) = false := beq_eq_false_iff_ne.2 (by omega)
  have d0' : (((k0 : Int) + 1) == 0) = false := beq_eq_false_iff_ne.2 (by omega)
  have HK0 := Lib.hid hk0
  rw [hk0]
  clear f1 ht hsz hszl hb hsl hrow hr hle hn
  go_wp2
  go_loopw [4] (fun i wr => ∃ (j : Nat) (u : Tm), i = .int .i64 (j : Int) ∧ Hid (j < ns.length ∧ RepP W w.heap.size ns j u ∧ u.Ok ∧ u.bytes.length ≤ 2000 ∧ u.head = t.head) ∧ wr = W) (fun i _ => (intOf i).toNat)
  case atStart => exact ⟨k0, t, by go_num, ⟨by omega, HR0.out.1, HR0.out.2.1, HR0.out.2.2, rfl⟩, rfl⟩
  case round =>
    obtain ⟨j, u, rfl, HU, rfl⟩ := hrel
    obtain ⟨nd, hnd, hkd⟩ := HU.out.2.1.1.kindAt
    have hjl := HU.out.1
    have c0 : wr.cell? ⟨g, j * 7, none⟩ = some (.int .u8 (nd.kind.toNat : Int)) := node_at HROW.out hnd 0 (by decide)
    rw [hkd] at c0
    have q1 : (0 : Int) ≤ (j : Int) := by omega
    have q2 : (j : Int) < (k0 : Int) + 1 := by omega
    by_cases hk : u.kind = 64
    · obtain ⟨x, y, rfl⟩ := kind_app hk
      obtain ⟨nd2, h1, h2, h3, h4, h5, h6⟩ := HU.out.2.1.appAt
      obtain rfl : nd = nd2 := Option.some.inj (hnd.symm.trans h1)
      have c1 : wr.cell? ⟨g, j * 7 + 1, none⟩ = some (.int .i64 (nd.a : Int)) := node_at HROW.out hnd 1 (by decide)
      have HN : Hid (nd.a < ns.length ∧ RepP wr w.heap.size ns nd.a x ∧ x.Ok ∧ x.bytes.length ≤ 2000 ∧ x.head = t.head) :=
        ⟨by omega, h5, HU.out.2.2.1.1, by have := HU.out.2.2.2.1; simp only [Tm.bytes, List.length_cons, List.length_append] at this; omega, HU.out.2.2.2.2⟩
      have hz : nd.a < j := h3
      generalize nd.a = jn at c1 HN hz
      have c0' : wr.cell? ⟨g, j * 7, none⟩ = some (.int .u8 64) := c0
      clear c0 HU hnd hkd h1 h2 h3 h4 h5 h6 HR0 hk
      go_wp2
      go_roundw
      case rel => exact ⟨jn, _, rfl, HN.out, trivial⟩
      case measure => simp [intOf]; omega
    · have b0 : ((u.kind.toNat : Int) == 64) = false := ne_byte (d := 64) hk
      have hu := (not_app hk).1
      have f2 := Lib.hid (specL06Text hn2 HSL.out u j wr _ HROW.out HU.out.2.1.1 HU.out.2.2.1 (by have := HU.out.2.2.2.1; omega))
      have HE2 : Hid (headOf s.data.toList = u.bytes) := by rw [Hid, HE.out, ← HU.out.2.2.2.2, hu]
      rw [HK0.out] at f2
      generalize u.kind = kd at c0 b0
      generalize u.bytes = ub at f2 HE2
      clear HU hnd hkd hu hk HR0 HE
      go_wp2_with fail
      (with_reducible refine f2.out.mono ?_); rintro e w2 ⟨rfl, hb2⟩
      have HB2 := Lib.hid (HB.out.trans (hb2.mono HB.out.size))
      clear hb2
      go_wp2
      go_ret
      rw [HE2.out]
      exact ⟨rfl, HB2.out⟩

set_option maxHeartbeats 4000000 in
theorem specTarget (s : ByteArray) (w : World) (hs : s.size ≤ maxLen) :
    Calls Tryd.prog 22 #[.string s] w fun e w' => e = .returned (.string ⟨(targetOf s.data.toList).toArray⟩) ∧ Below w.heap.size w w' := by
  have f1 := Lib.hid (specL06AllP s w hs)
  go_enter Tryd.func22, Tryd.ntmps22
  go_wp2_with fail
  (with_reducible refine f1.out.mono ?_); rintro e W ⟨v, ns, rfl, hrow, hb, hsl, (⟨t, ht, hn, hr⟩ | ⟨hno, rfl⟩)⟩
  rotate_left
  · obtain ⟨la, lc, rfl⟩ := own_sliceN hrow
    have HE : Hid (targetOf s.data.toList = []) := by rw [Hid, targetOf, termOf_none hno]
    have HB := Lib.hid hb
    clear hrow hno hb f1 hsl
    go_wp2
    go_ret
    rw [HE.out]
    exact ⟨rfl, HB.out⟩
  have HE : Hid (targetOf s.data.toList = t.targ.bytes) := by rw [Hid, targetOf, termOf_some ht]
  have hle := ht.2.2
  rw [← ht.2.1] at hle
  have hsz := t.size_pos
  have hszl := t.size_le
  have hn2 : ns.length ≤ 100000 := by omega
  obtain ⟨k0, hk0⟩ : ∃ k0, ns.length = k0 + 1 := ⟨ns.length - 1, by omega⟩
  have HR0 : Hid (RepP W w.heap.size ns k0 t ∧ t.Ok ∧ t.bytes.length ≤ 2000) := ⟨by rw [show k0 = ns.length - 1 by omega]; exact hr, ht.1, hle⟩
  have HB := Lib.hid hb
  have HSL := Lib.hid hsl
  obtain ⟨g, cap, rfl, _, hgl⟩ := hrow.form (by omega)
  have HROW := Lib.hid hrow
  have d0 : (((ns.length : Nat) : Int) == 0) = false := beq_eq_false_iff_ne.2 (by omega)
  have d0' : (((k0 : Int) + 1) == 0) = false := beq_eq_false_iff_ne.2 (by omega)
  have HK0 := Lib.hid hk0
  rw [hk0]
  clear f1 ht hsz hszl hb hsl hrow hr hle hn
  go_wp2
  go_loopw [4] (fun i wr => ∃ (j : Nat) (u : Tm), i = .int .i64 (j : Int) ∧ Hid (j < ns.length ∧ RepP W w.heap.size ns j u ∧ u.Ok ∧ u.bytes.length ≤ 2000 ∧ u.targ = t.targ) ∧ wr = W) (fun i _ => (intOf i).toNat)
  case atStart => exact ⟨k0, t, by go_num, ⟨by omega, HR0.out.1, HR0.out.2.1, HR0.out.2.2, rfl⟩, rfl⟩
  case round =>
    obtain ⟨j, u, rfl, HU, rfl⟩ := hrel
    obtain ⟨nd, hnd, hkd⟩ := HU.out.2.1.1.kindAt
    have hjl := HU.out.1
    have c0 : wr.cell? ⟨g, j * 7, none⟩ = some (.int .u8 (nd.kind.toNat : Int)) := node_at HROW.out hnd 0 (by decide)
    rw [hkd] at c0
    have q1 : (0 : Int) ≤ (j : Int) := by omega
    have q2 : (j : Int) < (k0 : Int) + 1 := by omega
    by_cases hk : u.kind = 112
    · obtain ⟨x, y, rfl⟩ := kind_pi hk
      obtain ⟨nd2, h1, h2, h3, h4, h5, h6⟩ := HU.out.2.1.piAt
      obtain rfl : nd = nd2 := Option.some.inj (hnd.symm.trans h1)
      have c1 : wr.cell? ⟨g, j * 7 + 2, none⟩ = some (.int .i64 (nd.b : Int)) := node_at HROW.out hnd 2 (by decide)
      have HN : Hid (nd.b < ns.length ∧ RepP wr w.heap.size ns nd.b y ∧ y.Ok ∧ y.bytes.length ≤ 2000 ∧ y.targ = t.targ) :=
        ⟨by omega, h6, HU.out.2.2.1.2, by have := HU.out.2.2.2.1; simp only [Tm.bytes, List.length_cons, List.length_append] at this; omega, HU.out.2.2.2.2⟩
      have hz : nd.b < j := h4
      generalize nd.b = jn at c1 HN hz
      have c0' : wr.cell? ⟨g, j * 7, none⟩ = some (.int .u8 112) := c0
      clear c0 HU hnd hkd h1 h2 h3 h4 h5 h6 HR0 hk
      go_wp2
      go_roundw
      case rel => exact ⟨jn, _, rfl, HN.out, trivial⟩
      case measure => simp [intOf]; omega
    · have b0 : ((u.kind.toNat : Int) == 112) = false := ne_byte (d := 112) hk
      have hu := (not_pi hk).1
      have f2 := Lib.hid (specL06Text hn2 HSL.out u j wr _ HROW.out HU.out.2.1.1 HU.out.2.2.1 (by have := HU.out.2.2.2.1; omega))
      have HE2 : Hid (targetOf s.data.toList = u.bytes) := by rw [Hid, HE.out, ← HU.out.2.2.2.2, hu]
      rw [HK0.out] at f2
      generalize u.kind = kd at c0 b0
      generalize u.bytes = ub at f2 HE2
      clear HU hnd hkd hu hk HR0 HE
      go_wp2_with fail
      (with_reducible refine f2.out.mono ?_); rintro e w2 ⟨rfl, hb2⟩
      have HB2 := Lib.hid (HB.out.trans (hb2.mono HB.out.size))
      clear hb2
      go_wp2
      go_ret
      rw [HE2.out]
      exact ⟨rfl, HB2.out⟩
end Go.Proofs.YtgmjbdndffdpoaaDoor
