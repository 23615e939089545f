/-
  The contract of spec.Domains.
-/
import Derived.Test.YtgmjbdndffdpoaaDoorEArgs
namespace Go.Proofs.YtgmjbdndffdpoaaDoor
set_option maxRecDepth 100000
open Go.ChangeShapes Go.WideShapes Go.ChangeAt Go.RowKit
set_option linter.unusedSimpArgs false
set_option linter.unusedVariables false

set_option maxHeartbeats 8000000 in
theorem specDomains (s : ByteArray) (w : World) (hs : s.size ≤ maxLen) :
    Calls Tryd.prog 20 #[.string s] w (LRes' (domainsOf s.data.toList) w) := by
  have f1 := Lib.hid (specL06AllP s (w.alloc (.cells #[] 9)) hs)
  obtain ⟨i0, hi, iz0, iz1, iz2⟩ := info_parts infoStr'
  have HO00 : Hid ((w.alloc (.cells #[] 9)).ownsRow w.heap.size 9 1 (.slice (some ⟨w.heap.size, 0, none⟩) 0 0) 0 []) := World.ownsRow_lit w #[] 0 (Nat.le_refl _) (by decide) (by simp)
  have HB00 : Hid (Below w.heap.size w (w.alloc (.cells #[] 9))) := Below.alloc (Below.refl _ _) (Nat.le_refl _) _
  go_enter Tryd.func20, Tryd.ntmps20
  go_wp2_with fail
  (with_reducible refine f1.out.mono ?_); rintro e W ⟨v, ns, rfl, hrow, hb, hsl, hcase⟩
  have HOW0 : Hid (W.ownsRow w.heap.size 9 1 (.slice (some ⟨w.heap.size, 0, none⟩) 0 0) 0 []) := own_below HO00.out hb
  have HBW : Hid (Below w.heap.size w W) := HB00.out.trans (hb.mono HB00.out.size)
  have hzW : (w.alloc (.cells #[] 9)).heap.size ≤ W.heap.size := hb.size
  obtain ⟨B, hB⟩ : ∃ B, (w.alloc (.cells #[] 9)).heap.size = B := ⟨_, rfl⟩
  rw [hB] at hrow hcase hzW
  have hBs : B = w.heap.size + 1 := by rw [← hB]; simp
  have HBS := Lib.hid hBs
  clear hB HB00 HO00 hb f1 hBs
  rcases hcase with ⟨t, ht, hn, hr⟩ | ⟨hno, rfl⟩
  rotate_left
  · obtain ⟨la, lc, rfl⟩ := own_sliceN hrow
    have HE : Hid (domainsOf s.data.toList = []) := by rw [Hid, domainsOf, termOf_none hno]
    clear hrow hno hsl
    go_wp2
    go_loopw [3, 5] (fun o i wr => i = .int .i64 (-1) ∧ wr = W ∧ o = .slice (some ⟨w.heap.size, 0, none⟩) 0 0) (fun _ _ _ => 0)
    case atStart => exact ⟨by go_num, rfl, rfl⟩
    case round =>
      obtain ⟨rfl, rfl, rfl⟩ := hrel
      have dq : decide ((0 : Int) ≤ -1) = false := rfl
      go_wp2
      go_ret
      rw [HE.out]
      exact ⟨_, rfl, HOW0.out, HBW.out⟩
  have HE : Hid (domainsOf s.data.toList = t.doms.map Tm.bytes) := by rw [Hid, domainsOf, termOf_some ht]
  have hle := ht.2.2
  rw [← ht.2.1] at hle
  have hsz := t.size_pos
  have hszl := t.size_le
  have hal := t.doms_len
  have hal2 : t.doms.length ≤ 2000 := by omega
  have hn2 : ns.length ≤ 100000 := by omega
  obtain ⟨k0, hk0⟩ : ∃ k0, ns.length = k0 + 1 := ⟨ns.length - 1, by omega⟩
  have HR0 : Hid (RepP W B ns k0 t ∧ t.Ok ∧ t.bytes.length ≤ 2000) := ⟨by rw [show k0 = ns.length - 1 by omega]; exact hr, ht.1, hle⟩
  have HSL := Lib.hid hsl
  obtain ⟨g, cap, rfl, _, hgl⟩ := hrow.form (by omega)
  have HROW := Lib.hid hrow
  have HK0 := Lib.hid hk0
  have HOF0 : Hid (Off B W.heap.size (.slice (some ⟨w.heap.size, 0, none⟩) 0 0)) := fun k hk => by
    cases hk
    exact .inl (show w.heap.size < B by rw [HBS.out]; exact Nat.lt_succ_self _)
  rw [hk0]
  clear ht hsz hszl hsl hrow hr hle hn hal
  go_wp2
  go_loopw [3, 5] (fun o i wr => ∃ (j : Nat) (u : Tm) (tl : List Tm) (oo : Value), i = .int .i64 (j : Int) ∧ oo = o ∧ Hid (j < ns.length ∧ RepP W B ns j u ∧ u.Ok ∧ u.bytes.length ≤ 2000 ∧ t.doms = tl ++ u.doms) ∧
    wr.ownsRow w.heap.size 9 1 oo tl.length (tl.map fun p => sv p.bytes) ∧ Hid (Off B W.heap.size oo) ∧ Below w.heap.size w wr ∧ KeepA B W wr ∧ W.heap.size ≤ wr.heap.size) (fun _ i _ => (intOf i).toNat)
  case atStart => exact ⟨k0, t, [], _, by go_num, rfl, ⟨by omega, HR0.out.1, HR0.out.2.1, HR0.out.2.2, by simp⟩, HOW0.out, HOF0, HBW.out, KeepA.refl _ _, Nat.le_refl _⟩
  case round =>
    obtain ⟨j, u, tl, oo, rfl, rfl, HU, hown, HOF, hbr, hka, hzr⟩ := hrel
    clear HOW0 HOF0 HBW
    obtain ⟨nd, hnd, hkd⟩ := HU.out.2.1.1.kindAt
    have hjl := HU.out.1
    have hrowr := hka _ _ _ _ _ HROW.out
    have c0 : wr.cell? ⟨g, j * 7, none⟩ = some (.int .u8 (nd.kind.toNat : Int)) := node_at hrowr hnd 0 (by decide)
    rw [hkd] at c0
    have q1 : (0 : Int) ≤ (j : Int) := by omega
    have q2 : (j : Int) < (k0 : Int) + 1 := by omega
    have dq : decide ((0 : Int) ≤ (j : Int)) = true := decide_eq_true q1
    have htl : tl.length ≤ t.doms.length := by have := congrArg List.length HU.out.2.2.2.2; rw [List.length_append] at this; omega
    by_cases hk : u.kind = 112
    · obtain ⟨x, y, rfl⟩ := kind_pi hk
      obtain ⟨nd2, h1, h2, h3, h4, h5, h6⟩ := HU.out.2.1.piAt
      obtain rfl : nd = nd2 := Option.some.inj (hnd.symm.trans h1)
      have hyl : x.bytes.length ≤ 2000 ∧ y.bytes.length ≤ 2000 := by have := HU.out.2.2.2.1; simp only [Tm.bytes, List.length_cons, List.length_append] at this; omega
      have c1 : wr.cell? ⟨g, j * 7 + 1, none⟩ = some (.int .i64 (nd.a : Int)) := node_at hrowr hnd 1 (by decide)
      have HN : Hid (nd.b < ns.length ∧ RepP W B ns nd.b y ∧ y.Ok ∧ y.bytes.length ≤ 2000 ∧ t.doms = (tl ++ [x]) ++ y.doms) :=
        ⟨by omega, h6, HU.out.2.2.1.2, hyl.2, by rw [HU.out.2.2.2.2, Tm.doms]; simp⟩
      have f2 := Lib.hid (specL06Text hn2 HSL.out x nd.a wr _ hrowr (Rep.keep hka.strs (Ext.refl _) x _ h5.1) HU.out.2.2.1.1 (by omega))
      rw [HK0.out] at f2
      have HND : Hid (∀ W', KeepA B W W' → W'.cell? ⟨g, j * 7 + 2, none⟩ = some (.int .i64 (nd.b : Int))) := fun W' hk' => node_at (hk' _ _ _ _ _ HROW.out) hnd 2 (by decide)
      have hz : nd.b < j := h4
      have HTL : Hid ((tl ++ [x]).map (fun p => sv p.bytes) = tl.map (fun p => sv p.bytes) ++ [.string ⟨x.bytes.toArray⟩]) := by simp [Hid, sv]
      have HLN : Hid ((tl ++ [x]).length = tl.length + 1) := by simp [Hid]
      have c0' : wr.cell? ⟨g, j * 7, none⟩ = some (.int .u8 112) := c0
      have HOW := Lib.hid hown
      have HBR := Lib.hid hbr
      have HKA := Lib.hid hka
      generalize nd.b = jn at HN hz HND
      generalize nd.a = jb at c1 f2
      generalize x.bytes = xb at f2 HTL hyl
      clear c0 HU hnd hkd h1 h2 h3 h4 h5 h6 HR0 hk hown hbr hka hrowr
      go_wp2_with fail
      (with_reducible refine f2.out.mono ?_); rintro e w2 ⟨rfl, hb2⟩
      have ho2 := own_below HOW.out hb2
      have hB2 := HBR.out.trans (hb2.mono HBR.out.size)
      have hK2 := HKA.out.below hb2
      have hz2 := hb2.size
      have hBz := HBR.out.size
      have hrow2 : ∀ k, oo.ownBlock = some k → w.heap.size ≤ k := fun k hk => (ho2.lt k hk).1
      clear hb2 f2 c1
      go_wp2_with (at_builtin; refine wpList_append_lies _ rfl _ _ 24 rfl w.heap.size 9 i0 _ 1 16 Tryd.underlying24 hi iz0 iz1 iz2 rfl (by decide) _ _ _ rfl (ho2.alloc _) ⟨w2.heap.size, 0, none⟩ 1 1 [.string ⟨xb.toArray⟩] rfl rfl (oneNew _ _ _) (by simp [Value.oneCell']) (by decide) (by simp only [maxLen]; omega) (by omega) (by simp; omega) _ rfl ?_; intro g3 cap3 w3 ho3 hg3 hat3 hlt3; have hK3 := (hK2.below (Below.alloc (Below.refl _ _) (Nat.le_refl _) _)).step hg3 HOF.out; have c1 := HND.out w3 hK3)
      have HO3 : Hid (w3.ownsRow w.heap.size 9 1 (.slice (some ⟨g3, 0, none⟩) (tl.length + 1) cap3) (tl ++ [x]).length ((tl ++ [x]).map fun p => sv p.bytes)) := by rw [Hid, HTL.out, HLN.out]; exact ho3
      have HOF3 : Hid (Off B W.heap.size (.slice (some ⟨g3, 0, none⟩) (tl.length + 1) cap3)) := fun k hk => by
        cases hk
        rcases hat3 with h | h
        · exact HOF.out _ h
        · refine .inr ?_
          simp at h
          show W.heap.size ≤ g3
          omega
      have HB3 : Hid (Below w.heap.size w w3) := (hB2.alloc hB2.size _).grown hg3 (by simp; omega) (fun k hk => hrow2 k hk)
      have HZ3 : Hid (W.heap.size ≤ w3.heap.size) := by have := hg3.size; simp at this; rw [Hid]; omega
      have HK3 := Lib.hid hK3
      clear ho3 hg3 hat3 hlt3 hK3 ho2 hB2 hK2 hrow2 c1
      go_wp2
      go_roundw
      case rel => exact ⟨jn, y, tl ++ [x], _, rfl, rfl, HN, HO3.out, HOF3, HB3.out, HK3.out, HZ3.out⟩
      case measure => simp [intOf]; omega
    · have b0 : ((u.kind.toNat : Int) == 112) = false := ne_byte (d := 112) hk
      have hu := (not_pi hk).2
      have HT : Hid (t.doms = tl) := by rw [Hid, HU.out.2.2.2.2, hu]; simp
      have HO : Hid (wr.ownsRow w.heap.size 9 1 oo (domainsOf s.data.toList).length ((domainsOf s.data.toList).map sv)) := by
        rw [Hid, HE.out, HT.out, List.length_map, List.map_map]
        exact hown
      have HBR := Lib.hid hbr
      generalize u.kind = kd at c0 b0
      clear HU hnd hkd hu hk HR0 hka hrowr hown hbr
      go_wp2
      go_ret
      exact ⟨_, rfl, HO.out, HBR.out⟩
end Go.Proofs.YtgmjbdndffdpoaaDoor
