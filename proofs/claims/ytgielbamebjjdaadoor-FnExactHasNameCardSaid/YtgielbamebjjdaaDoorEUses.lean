/-
  The contracts of spec.UsesIn and spec.HasName.
-/
import Derived.Test.YtgielbamebjjdaaDoorENode
import Derived.Test.YtgielbamebjjdaaDoorEKeep
import Derived.Test.YtgielbamebjjdaaDoorTAll
import Derived.Test.YtgielbamebjjdaaDoorSWalks
import Derived.Test.YtgielbamebjjdaaDoorListsP
import Derived.Deep.AppendLies
namespace Go.Proofs.YtgielbamebjjdaaDoor
set_option maxRecDepth 100000
open Go.ChangeShapes Go.WideShapes Go.ChangeAt Go.RowKit
set_option linter.unusedSimpArgs false
set_option linter.unusedVariables false

/-- The names of the constants in a term. -/
noncomputable def usesIn (l : List UInt8) : List (List UInt8) := match termOf l with
  | some T => srt T.cnames
  | none => []
theorem usesIn_len (l : List UInt8) : (usesIn l).length ≤ 2000 := by
  unfold usesIn
  cases h : termOf l with
  | none => exact Nat.zero_le _
  | some t =>
    have h1 := (termOf_is h).2
    have h2 := t.cnames_len
    have h3 := t.size_le
    have h4 := (srt_spec _ t.cnames (Nat.le_refl _)).2.2
    show (srt t.cnames).length ≤ 2000
    rw [← h1.1] at h1
    have := h1.2
    omega
theorem view_of_row {w : World} {b : Nat} {v : Value} {l : List BL} (h : w.ownsRow b 9 1 v l.length (l.map sv)) (hv : v ≠ .slice none 0 0) : View w v l := by
  rcases h.2 with ⟨e, _⟩ | ⟨g, cap, cur, rfl, hb, hg, hn, hm, hs, ht⟩
  · exact absurd e hv
  · have hlt : g < w.heap.size := (h.lt g rfl).2
    refine ⟨g, 0, cap, rfl, hn, hm, hlt, fun j hj => ?_⟩
    rw [Nat.zero_add, h.cellAt j (by omega)]
    simp [hj]

set_option maxHeartbeats 8000000 in
theorem specUsesIn (s : ByteArray) (w : World) (hs : s.size ≤ maxLen) :
    Calls Tryd.prog 7 #[.string s] w (LRes' (usesIn s.data.toList) w) := by
  have f1 := Lib.hid (specL06AllP s (w.alloc (.cells #[] 9)) hs)
  obtain ⟨i0, hi, iz0, iz1, iz2⟩ := info_parts infoStr'
  have HO00 : Hid ((w.alloc (.cells #[] 9)).ownsRow w.heap.size 9 1 (.slice (some ⟨w.heap.size, 0, none⟩) 0 0) 0 []) := World.ownsRow_lit w #[] 0 (Nat.le_refl _) (by decide) (by simp)
  have HB00 : Hid (Below w.heap.size w (w.alloc (.cells #[] 9))) := Below.alloc (Below.refl _ _) (Nat.le_refl _) _
  go_enter Tryd.func7, Tryd.ntmps7
  go_wp2_with fail
  (with_reducible refine f1.out.mono ?_); rintro e W ⟨v, ns, rfl, hrow, hb, hsl, hcase⟩
  have HOW0 : Hid (W.ownsRow w.heap.size 9 1 (.slice (some ⟨w.heap.size, 0, none⟩) 0 0) 0 []) := own_below HO00.out hb
  have HBW : Hid (Below w.heap.size w W) := HB00.out.trans (hb.mono HB00.out.size)
  have hzW : (w.alloc (.cells #[] 9)).heap.size ≤ W.heap.size := hb.size
  obtain ⟨B, hB⟩ : ∃ B, (w.alloc (.cells #[] 9)).heap.size = B := ⟨_, rfl⟩
  rw [hB] at hrow hcase hzW
  have hBs : B = w.heap.size + 1 := by rw [← hB]; simp
  have HOF0 : Hid (Off B W.heap.size (.slice (some ⟨w.heap.size, 0, none⟩) 0 0)) := fun k hk => by
    cases hk
    exact .inl (show w.heap.size < B by rw [hBs]; exact Nat.lt_succ_self _)
  have HE : Hid (usesIn s.data.toList = srt ((List.range ns.length).flatMap (nameAt ns)) ∧ ns.length ≤ 2000) := by
    rcases hcase with ⟨t, ht, hn, hr⟩ | ⟨hno, rfl⟩
    · have hle := ht.2.2
      rw [← ht.2.1] at hle
      have hszl := t.size_le
      exact ⟨by rw [usesIn, termOf_some ht, names_all hr hn], by omega⟩
    · exact ⟨by rw [usesIn, termOf_none hno]; simp [srt_small], Nat.zero_le _⟩
  clear hB HB00 HO00 hb f1 hBs hcase hsl
  obtain ⟨va, vc, rfl⟩ := own_sliceN hrow
  have hn2 := HE.out.2
  have HROW := Lib.hid hrow
  clear hrow
  go_wp2
  go_loopw [3, 5] (fun o i wr => ∃ (j : Nat) (oo : Value) (l : List BL), i = .int .i64 (j : Int) ∧ oo = o ∧ j ≤ ns.length ∧ Hid (l = (List.range j).flatMap (nameAt ns)) ∧ oo ≠ .slice none 0 0 ∧
    wr.ownsRow w.heap.size 9 1 oo l.length (l.map sv) ∧ Hid (Off B W.heap.size oo) ∧ Below w.heap.size w wr ∧ KeepA B W wr ∧ W.heap.size ≤ wr.heap.size) (fun _ i _ => ns.length - (intOf i).toNat)
  case atStart => exact ⟨0, _, [], by go_num, rfl, Nat.zero_le _, by simp [Hid], by simp, HOW0.out, HOF0, HBW.out, KeepA.refl _ _, Nat.le_refl _⟩
  case round =>
    obtain ⟨j, oo, l, rfl, rfl, hjn, HL, hne, hown, HOF, hbr, hka, hzr⟩ := hrel
    clear HOW0 HOF0 HBW
    have HLL : Hid (l.length ≤ j) := by rw [Hid, HL.out]; exact names_len ns j
    have HNE := Lib.hid hne
    clear hne
    have q1 : (0 : Int) ≤ (j : Int) := by omega
    by_cases hlt : j < ns.length
    · obtain ⟨nd, hnd⟩ : ∃ nd, ns[j]? = some nd := ⟨ns[j], by simp [hlt]⟩
      have hrowr := hka _ _ _ _ _ HROW.out
      obtain ⟨g, cap, e0, _, hgl⟩ := hrowr.form (by omega)
      cases e0
      have c0 : wr.cell? ⟨g, j * 7, none⟩ = some (.int .u8 (nd.kind.toNat : Int)) := node_at hrowr hnd 0 (by decide)
      have q2 : (j : Int) < (ns.length : Int) := by omega
      by_cases hk : nd.kind = 99
      · have HT : Hid ((List.range (j + 1)).flatMap (nameAt ns) = l ++ [nd.text]) := by rw [Hid, names_succ, nameAt_some hnd, if_pos hk, HL.out]
        have c5 : wr.cell? ⟨g, j * 7 + 5, none⟩ = some (.string ⟨nd.text.toArray⟩) := node_at hrowr hnd 5 (by decide)
        rw [hk] at c0
        have c0' : wr.cell? ⟨g, j * 7, none⟩ = some (.int .u8 99) := c0
        have hB2 := Lib.hid hbr
        have hK2 := Lib.hid hka
        have hz2 := hbr.size
        have HOW := Lib.hid hown
        have hrow2 : Hid (∀ k, oo.ownBlock = some k → w.heap.size ≤ k) := fun k hk => (hown.lt k hk).1
        have hll := HLL.out
        generalize nd.text = yb at c5 HT
        clear c0 hnd hk hrowr HL HLL hbr hka hown
        go_wp2_with (at_builtin; refine wpList_append_lies _ rfl _ _ 24 rfl w.heap.size 9 i0 _ 1 16 Tryd.underlying24 hi iz0 iz1 iz2 rfl (by decide) _ _ _ rfl (HOW.out.alloc _) ⟨wr.heap.size, 0, none⟩ 1 1 [.string ⟨yb.toArray⟩] rfl rfl (oneNew _ _ _) (by simp [Value.oneCell']) (by decide) (by simp only [maxLen]; omega) (by omega) (by simp; omega) _ rfl ?_; intro g3 cap3 w3 ho3 hg3 hat3 hlt3)
        have HO3 : Hid (w3.ownsRow w.heap.size 9 1 (.slice (some ⟨g3, 0, none⟩) (l.length + 1) cap3) (l ++ [yb]).length ((l ++ [yb]).map sv)) := by
          rw [Hid, List.map_append, show (l ++ [yb]).length = l.length + 1 by simp]
          exact ho3
        have HOF3 : Hid (Off B W.heap.size (.slice (some ⟨g3, 0, none⟩) (l.length + 1) cap3)) := fun k hk => by
          cases hk
          rcases hat3 with h | h
          · exact HOF.out _ h
          · refine .inr ?_
            simp at h
            show W.heap.size ≤ g3
            omega
        have HB3 : Hid (Below w.heap.size w w3) := (hB2.out.alloc hz2 _).grown hg3 (by simp; omega) (fun k hk => hrow2.out k hk)
        have HZ3 : Hid (W.heap.size ≤ w3.heap.size) := by have := hg3.size; simp at this; rw [Hid]; omega
        have HK3 : Hid (KeepA B W w3) := (hK2.out.below (Below.alloc (Below.refl _ _) (Nat.le_refl _) _)).step hg3 HOF.out
        clear ho3 hg3 hat3 hlt3 c0' c5
        go_wp2
        go_roundw
        case rel => exact ⟨j + 1, _, l ++ [yb], by go_num, rfl, by omega, HT.out.symm, by simp, HO3.out, HOF3, HB3.out, HK3.out, HZ3.out⟩
        case measure => simp [intOf]; omega
      · have b0 : ((nd.kind.toNat : Int) == 99) = false := ne_byte (d := 99) hk
        have HT : Hid ((List.range (j + 1)).flatMap (nameAt ns) = l) := by rw [Hid, names_succ, nameAt_some hnd, if_neg hk, HL.out, List.append_nil]
        have HOW := Lib.hid hown
        have HBR := Lib.hid hbr
        have HKA := Lib.hid hka
        have HZR := Lib.hid hzr
        generalize nd.kind = kd at c0 b0
        clear hnd hk hrowr HL HLL hbr hka hown
        go_wp2
        go_roundw
        case rel => exact ⟨j + 1, _, l, by go_num, rfl, by omega, HT.out.symm, HNE.out, HOW.out, HOF, HBR.out, HKA.out, HZR.out⟩
        case measure => simp [intOf]; omega
    · have hj : j = ns.length := by omega
      have HR : Hid (usesIn s.data.toList = srt l) := by rw [Hid, HE.out.1, HL.out, hj]
      have q2 : ¬ (j : Int) < (ns.length : Int) := by omega
      have hll := HLL.out
      have f3 := Lib.hid (specSorted l.length l (Nat.le_refl _) (by omega) wr oo (view_of_row hown HNE.out))
      have HBR := Lib.hid hbr
      clear hown hbr hka HL HLL HNE hj
      go_wp2_with fail
      (with_reducible refine f3.out.mono ?_); rintro e w4 ⟨u, rfl, hu, hb4⟩
      have HU : Hid (w4.ownsRow w.heap.size 9 1 u (usesIn s.data.toList).length ((usesIn s.data.toList).map sv)) := by rw [Hid, HR.out]; exact own_baseE hu HBR.out.size
      have HB4 : Hid (Below w.heap.size w w4) := HBR.out.trans (hb4.mono HBR.out.size)
      clear hu hb4 f3
      go_wp2
      go_ret
      exact ⟨_, rfl, HU.out, HB4.out⟩
end Go.Proofs.YtgielbamebjjdaaDoor
