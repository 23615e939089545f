/-
  Contracts of spec.ArgsOf and spec.Domains.
-/
import Derived.Test.YtgmjbdndffdpoaaDoorENode
import Derived.Test.YtgmjbdndffdpoaaDoorEKeep
import Derived.Test.YtgmjbdndffdpoaaDoorTText
import Derived.Test.YtgmjbdndffdpoaaDoorListsP
import Derived.Test.YtgmjbdndffdpoaaDoorVPutM
import Derived.Deep.AppendLies
namespace Go.Proofs.YtgmjbdndffdpoaaDoor
set_option maxRecDepth 100000
open Go.ChangeShapes Go.WideShapes Go.ChangeAt Go.RowKit
set_option linter.unusedSimpArgs false
set_option linter.unusedVariables false


set_option maxHeartbeats 8000000 in
theorem specArgsOf (s : ByteArray) (w : World) (hs : s.size ≤ maxLen) :
    Calls Tryd.prog 11 #[.string s] w (LRes' (argsOf s.data.toList) w) := by
  have f1 := Lib.hid (specL06AllP s w hs)
  obtain ⟨i0, hi, iz0, iz1, iz2⟩ := info_parts infoStr'
  go_enter Tryd.func11, Tryd.ntmps11
  go_wp2_with fail
  (with_reducible refine f1.out.mono ?_); rintro e W ⟨v, ns, rfl, hrow, hb, hsl, (⟨t, ht, hn, hr⟩ | ⟨hno, rfl⟩)⟩
  rotate_left
  · obtain ⟨la, lc, rfl⟩ := own_sliceN hrow
    have HE : Hid (argsOf s.data.toList = []) := by rw [Hid, argsOf, termOf_none hno]
    have HB := Lib.hid hb
    clear hrow hno hb f1 hsl
    go_wp2
    go_ret
    rw [HE.out]
    exact ⟨_, rfl, World.ownsRow_lit W #[] 0 HB.out.size (by decide) (by simp), HB.out.alloc HB.out.size _⟩
  have HE : Hid (argsOf s.data.toList = t.args.map Tm.bytes) := by rw [Hid, argsOf, termOf_some ht]
  have hle := ht.2.2
  rw [← ht.2.1] at hle
  have hsz := t.size_pos
  have hszl := t.size_le
  have hal := t.args_len
  have hal2 : t.args.length ≤ 2000 := by omega
  have hn2 : ns.length ≤ 100000 := by omega
  obtain ⟨k0, hk0⟩ : ∃ k0, ns.length = k0 + 1 := ⟨ns.length - 1, by omega⟩
  have HR0 : Hid (RepP W w.heap.size ns k0 t ∧ t.Ok ∧ t.bytes.length ≤ 2000) := ⟨by rw [show k0 = ns.length - 1 by omega]; exact hr, ht.1, hle⟩
  have HB := Lib.hid hb
  have HSL := Lib.hid hsl
  obtain ⟨g, cap, rfl, _, hgl⟩ := hrow.form (by omega)
  have HROW := Lib.hid hrow
  have d0' : (((k0 : Int) + 1) == 0) = false := beq_eq_false_iff_ne.2 (by omega)
  have HK0 := Lib.hid hk0
  have hzW := hb.size
  have HO0 : Hid ((W.alloc (.cells #[] 9)).ownsRow W.heap.size 9 1 (.slice (some ⟨W.heap.size, 0, none⟩) 0 0) 0 []) := World.ownsRow_lit W #[] 0 (Nat.le_refl _) (by decide) (by simp)
  have HB0 : Hid (Below w.heap.size w (W.alloc (.cells #[] 9))) := hb.alloc hb.size _
  have HKA0 : Hid (KeepA w.heap.size W (W.alloc (.cells #[] 9))) := (KeepA.refl _ _).below (Below.alloc (Below.refl _ _) (Nat.le_refl _) _)
  rw [hk0]
  clear f1 ht hsz hszl hb hsl hrow hr hle hn hal
  go_wp2
  go_loopw [4, 5] (fun bk i wr => ∃ (j : Nat) (u : Tm) (tl : List Tm) (oo : Value), i = .int .i64 (j : Int) ∧ oo = bk ∧ Hid (j < ns.length ∧ RepP W w.heap.size ns j u ∧ u.Ok ∧ u.bytes.length ≤ 2000 ∧ t.args = u.args ++ tl) ∧
    wr.ownsRow W.heap.size 9 1 oo tl.length (tl.reverse.map fun p => sv p.bytes) ∧ Below w.heap.size w wr ∧ KeepA w.heap.size W wr ∧ W.heap.size ≤ wr.heap.size) (fun _ i _ => (intOf i).toNat)
  case atStart => exact ⟨k0, t, [], _, by go_num, rfl, ⟨by omega, HR0.out.1, HR0.out.2.1, HR0.out.2.2, by simp⟩, HO0.out, HB0.out, HKA0.out, by simp⟩
  case round =>
    obtain ⟨j, u, tl, oo, rfl, rfl, HU, hown, hbr, hka, hzr⟩ := hrel
    clear HO0 HB0 HKA0
    obtain ⟨nd, hnd, hkd⟩ := HU.out.2.1.1.kindAt
    have hjl := HU.out.1
    have hrowr := hka _ _ _ _ _ HROW.out
    have c0 : wr.cell? ⟨g, j * 7, none⟩ = some (.int .u8 (nd.kind.toNat : Int)) := node_at hrowr hnd 0 (by decide)
    rw [hkd] at c0
    have q1 : (0 : Int) ≤ (j : Int) := by omega
    have q2 : (j : Int) < (k0 : Int) + 1 := by omega
    have htl : tl.length ≤ t.args.length := by have := congrArg List.length HU.out.2.2.2.2; rw [List.length_append] at this; omega
    by_cases hk : u.kind = 64
    · obtain ⟨x, y, rfl⟩ := kind_app hk
      obtain ⟨nd2, h1, h2, h3, h4, h5, h6⟩ := HU.out.2.1.appAt
      obtain rfl : nd = nd2 := Option.some.inj (hnd.symm.trans h1)
      have hyl : x.bytes.length ≤ 2000 ∧ y.bytes.length ≤ 2000 := by have := HU.out.2.2.2.1; simp only [Tm.bytes, List.length_cons, List.length_append] at this; omega
      have c2 : wr.cell? ⟨g, j * 7 + 2, none⟩ = some (.int .i64 (nd.b : Int)) := node_at hrowr hnd 2 (by decide)
      have HN : Hid (nd.a < ns.length ∧ RepP W w.heap.size ns nd.a x ∧ x.Ok ∧ x.bytes.length ≤ 2000 ∧ t.args = x.args ++ (y :: tl)) :=
        ⟨by omega, h5, HU.out.2.2.1.1, hyl.1, by rw [HU.out.2.2.2.2, Tm.args]; simp⟩
      have f2 := Lib.hid (specL06Text hn2 HSL.out y nd.b wr _ hrowr (Rep.keep hka.strs (Ext.refl _) y _ h6.1) HU.out.2.2.1.2 (by omega))
      rw [HK0.out] at f2
      have HND : Hid (∀ W', KeepA w.heap.size W W' → W'.cell? ⟨g, j * 7 + 1, none⟩ = some (.int .i64 (nd.a : Int))) := fun W' hk' => node_at (hk' _ _ _ _ _ HROW.out) hnd 1 (by decide)
      have hz : nd.a < j := h3
      have HTL : Hid ((y :: tl).reverse.map (fun p => sv p.bytes) = tl.reverse.map (fun p => sv p.bytes) ++ [.string ⟨y.bytes.toArray⟩]) := by simp [Hid, sv]
      have c0' : wr.cell? ⟨g, j * 7, none⟩ = some (.int .u8 64) := c0
      have HOW := Lib.hid hown
      have HBR := Lib.hid hbr
      have HKA := Lib.hid hka
      generalize nd.a = jn at HN hz HND
      generalize nd.b = jb at c2 f2
      generalize y.bytes = yb at f2 HTL hyl
      clear c0 HU hnd hkd h1 h2 h3 h4 h5 h6 HR0 hk hown hbr hka hrowr
      go_wp2_with fail
      (with_reducible refine f2.out.mono ?_); rintro e w2 ⟨rfl, hb2⟩
      have ho2 := own_below HOW.out hb2
      have hB2 := HBR.out.trans (hb2.mono HBR.out.size)
      have hK2 := HKA.out.below hb2
      have hz2 := hb2.size
      have hrow2 : ∀ k, oo.ownBlock = some k → W.heap.size ≤ k := fun k hk => (ho2.lt k hk).1
      clear hb2 f2
      go_wp2_with (at_builtin; refine wpList_append_lies _ rfl _ _ 24 rfl W.heap.size 9 i0 _ 1 16 Tryd.underlying24 hi iz0 iz1 iz2 rfl (by decide) _ _ _ rfl (ho2.alloc _) ⟨w2.heap.size, 0, none⟩ 1 1 [.string ⟨yb.toArray⟩] rfl rfl (oneNew _ _ _) (by simp [Value.oneCell']) (by decide) (by simp only [maxLen]; omega) (by omega) (by simp; omega) _ rfl ?_; intro g3 cap3 w3 ho3 hg3 hat3 hlt3; have hK3 := (hK2.below (Below.alloc (Below.refl _ _) (Nat.le_refl _) _)).step hg3 (fun k hk => .inr (hrow2 k hk)); have c1 := HND.out w3 hK3)
      have HO3 : Hid (w3.ownsRow W.heap.size 9 1 (.slice (some ⟨g3, 0, none⟩) (tl.length + 1) cap3) (tl.length + 1) ((y :: tl).reverse.map fun p => sv p.bytes)) := by rw [Hid, HTL.out]; exact ho3
      have HB3 : Hid (Below w.heap.size w w3) := (hB2.alloc hB2.size _).grown hg3 (by simp; omega) (fun k hk => by have := hrow2 k hk; omega)
      have HZ3 : Hid (W.heap.size ≤ w3.heap.size) := by have := hg3.size; simp at this; rw [Hid]; omega
      have HK3 := Lib.hid hK3
      clear ho3 hg3 hat3 hlt3 hK3 ho2 hB2 hK2 hrow2 c1
      go_wp2
      go_roundw
      case rel => exact ⟨jn, x, y :: tl, _, rfl, rfl, HN.out, HO3.out, HB3.out, HK3.out, HZ3.out⟩
      case measure => simp [intOf]; omega
    · have b0 : ((u.kind.toNat : Int) == 64) = false := ne_byte (d := 64) hk
      have hu := (not_app hk).2
      have HT : Hid (t.args = tl) := by rw [Hid, HU.out.2.2.2.2, hu]; rfl
      have htl2 : tl.length ≤ t.args.length := by rw [HT.out]; exact Nat.le_refl _
      have HOW := Lib.hid hown
      have HBR := Lib.hid hbr
      generalize u.kind = kd at c0 b0
      clear HU hnd hkd hu hk HR0 hka hrowr hown
      rename World => wz
      have hzw := hbr.size
      have HWR : Hid (W.heap.size ≤ wz.heap.size) := hzr
      have HO0 : Hid ((wz.alloc (.cells #[] 9)).ownsRow wz.heap.size 9 1 (.slice (some ⟨wz.heap.size, 0, none⟩) 0 0) 0 []) := World.ownsRow_lit wz #[] 0 (Nat.le_refl _) (by decide) (by simp)
      have HB0 : Hid (Below wz.heap.size wz (wz.alloc (.cells #[] 9))) := Below.alloc (Below.refl _ _) (Nat.le_refl _) _
      obtain ⟨oa, oc, rfl⟩ := own_sliceV HOW.out
      clear hbr
      go_wp2
      go_loopw [6, 7] (fun ou i wr => ∃ (p : Nat) (z : Int) (ov : Value), p ≤ tl.length ∧ z = (tl.length : Int) - p - 1 ∧ i = .int .i64 z ∧ ov = ou ∧ wr.ownsRow wz.heap.size 9 1 ov p ((tl.take p).map fun x => sv x.bytes) ∧ Below wz.heap.size wz wr) (fun _ i _ => (intOf i + 1).toNat)
      case atStart => exact ⟨0, (tl.length : Int) - 1, _, Nat.zero_le _, by omega, by go_num, rfl, HO0.out, HB0.out⟩
      case round =>
        obtain ⟨p, z, ov, hp, hz, rfl, rfl, hown, hbr⟩ := hrel
        clear HO0 HB0
        by_cases hlt : p < tl.length
        · obtain ⟨q, rfl⟩ : ∃ q : Nat, z = (q : Int) := ⟨z.toNat, by omega⟩
          have hq : q < tl.length := by omega
          have hqp : tl.length - 1 - q = p := by omega
          have hr := own_below HOW.out hbr
          obtain ⟨g', cap', e0, _, hgl⟩ := hr.form (by omega)
          cases e0
          have ex : (tl.reverse.map fun p => sv p.bytes)[q]? = some (sv tl[p].bytes) := by
            rw [List.getElem?_map, List.getElem?_reverse hq, hqp]
            simp [hlt]
          have cc := (hr.cellAt q (by omega)).trans ex
          unfold sv at cc
          have HT2 : Hid ((tl.take (p + 1)).map (fun x => sv x.bytes) = (tl.take p).map (fun x => sv x.bytes) ++ [.string ⟨tl[p].bytes.toArray⟩]) := by
            rw [Hid, List.take_succ_eq_append_getElem hlt, List.map_append]
            rfl
          have q1' : (0 : Int) ≤ (q : Int) := by omega
          have q2' : (q : Int) < (tl.length : Int) := by omega
          have dq : decide ((0 : Int) ≤ (q : Int)) = true := decide_eq_true (by omega)
          have hw : IntKind.i64.wrap ((q : Int) - 1) = (q : Int) - 1 := IntWalk.i64_in _ (by omega)
          have hl := hown.lt
          have HBR2 := Lib.hid hbr
          have hzr := hbr.size
          generalize tl[p].bytes = yb at cc HT2
          have HZZ := Lib.hid hz
          clear ex hr hbr hqp hz
          go_wp2_with (at_builtin; refine wpList_append_own _ rfl _ _ 24 rfl wz.heap.size 9 i0 _ 1 16 Tryd.underlying24 hi iz0 iz1 iz2 rfl (by decide) _ _ _ rfl (hown.alloc _) ⟨wr.heap.size, 0, none⟩ 1 1 [.string ⟨yb.toArray⟩] rfl rfl (oneNew _ _ _) (by simp [Value.oneCell']) (by simp only [maxLen]; omega) (by omega) (by simp; omega) ?_; intro v3 w3 ho3 hg3 hat3)
          have HO3 : Hid (w3.ownsRow wz.heap.size 9 1 v3 (p + 1) ((tl.take (p + 1)).map fun x => sv x.bytes)) := by rw [Hid, HT2.out]; exact ho3
          have HB3 : Hid (Below wz.heap.size wz w3) := (HBR2.out.alloc hzr _).grown hg3 (by simp; omega) (fun k hk => (hl k hk).1)
          clear ho3 hg3 hat3 hl
          go_wp2
          go_roundw
          case rel => exact ⟨p + 1, (q : Int) - 1, _, by omega, by have := HZZ.out; omega, rfl, rfl, HO3.out, HB3.out⟩
          case measure => simp [intOf] <;> omega
        · have hpl : p = tl.length := by omega
          obtain rfl : z = -1 := by omega
          have HO : Hid (wr.ownsRow w.heap.size 9 1 ov (argsOf s.data.toList).length ((argsOf s.data.toList).map sv)) := by
            rw [hpl, List.take_length] at hown
            have h1 := own_baseE hown (Nat.le_trans HB.out.size (HWR.out))
            rw [Hid, HE.out, HT.out, List.length_map, List.map_map]
            exact h1
          have HB2 : Hid (Below w.heap.size w wr) := HBR.out.trans (hbr.mono HBR.out.size)
          have dq : decide ((0 : Int) ≤ -1) = false := rfl
          clear hown hbr hpl
          go_wp2
          go_ret
          exact ⟨_, rfl, HO.out, HB2.out⟩
end Go.Proofs.YtgmjbdndffdpoaaDoor
