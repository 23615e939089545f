/-
  The contract of impl.clones.
  The contract of impl.ConstIn.
-/
import Derived.Test.YtnklajagefedmaaDoorM1
import Derived.Test.YtnklajagefedmaaDoorNWalks2
import Derived.Test.YtnklajagefedmaaDoorM3
import Derived.Test.YtnklajagefedmaaDoorTConIn
import Derived.Deep.RegionHeld3
namespace Go.Proofs.YtnklajagefedmaaDoor
set_option maxRecDepth 100000
open Go.ChangeShapes Go.WideShapes Go.ChangeAt Go.RowKit

set_option maxHeartbeats 1000000 in
theorem clones {w : World} {b : Nat} {v : Value} {l : List (List UInt8)} (h : w.ownsRow b 9 1 v l.length (l.map sv)) (hn : l.length ≤ 10000000) (hx : ∀ x ∈ l, x.length ≤ 281474976710656) :
    Calls Tryd.prog 53 #[v] w (LRes l w) := by
  obtain ⟨i0, hi, hz0, hz1, hz2⟩ := info_parts infoStr
  rcases Nat.eq_zero_or_pos l.length with h0 | hp
  · obtain rfl : l = [] := List.length_eq_zero_iff.1 h0
    obtain ⟨a, cap, rfl⟩ : ∃ a cap, v = .slice a 0 cap := by
      rcases h.2 with ⟨rfl, _⟩ | ⟨g, cap, cur, rfl, _⟩
      · exact ⟨_, _, rfl⟩
      · exact ⟨_, _, rfl⟩
    clear h h0 hn hx
    go_enter Tryd.func53, Tryd.ntmps53
    go_wp2_with (at_make; refine wpList_make_own _ rfl _ _ 27 rfl w.heap.size 9 i0 (.string ⟨#[]⟩) 1 Tryd.underlying27 hi hz0 hz1 _ _ _ 0 rfl rfl (by omega) (by rw [hz2]; omega) (by unfold maxLen; omega) (Nat.le_refl _) ?_; intro w0 hown0 hgrow0)
    have hbel0 : Below w.heap.size w w0 := (Below.refl _ _).grown hgrow0 (Nat.le_refl _) (by simp)
    refine wp_loop_rounds 1 ?_
    rw [rounds_succ]
    go_wp2
    go_ret
    exact ⟨_, rfl, hown0, hbel0⟩
  · obtain ⟨g, cap, rfl, _, hgl⟩ := h.form hp
    go_enter Tryd.func53, Tryd.ntmps53
    go_wp2_with (at_make; refine wpList_make_own _ rfl _ _ 27 rfl w.heap.size 9 i0 (.string ⟨#[]⟩) 1 Tryd.underlying27 hi hz0 hz1 _ _ _ l.length rfl rfl (by omega) (by rw [hz2]; omega) (by unfold maxLen; omega) (Nat.le_refl _) ?_; intro w0 hown0 hgrow0)
    have hbel0 : Below w.heap.size w w0 := (Below.refl _ _).grown hgrow0 (Nat.le_refl _) (by simp)
    go_loopw [3, 11] (fun vo i wr => ∃ k : Nat, k ≤ l.length ∧ i = .int .i64 k ∧ wr.ownsRow w.heap.size 9 1 vo k ((l.take k).map sv) ∧ Below w.heap.size w wr) (fun _ i _ => l.length - (intOf i).toNat)
    case atStart => exact ⟨0, Nat.zero_le _, rfl, by simpa using hown0, hbel0⟩
    case round =>
      obtain ⟨k, hk, rfl, hown, hbel⟩ := hrel
      clear hown0 hgrow0 hbel0
      have hz := hbel.size
      by_cases hlt : k < l.length
      · have cc := h.cellAt k (by omega)
        have ex : (l.map sv)[k]? = some (sv l[k]) := by simp [hlt]
        rw [ex] at cc
        unfold sv at cc
        have cr := (hbel.cell (p := ⟨g, k, none⟩) hgl).trans cc
        have HT := Lib.hid (List.take_succ_eq_append_getElem hlt)
        have f1 := Lib.hid fun W => cloneS ⟨l[k].toArray⟩ W (by simp only [ByteArray.size, List.size_toArray]; exact hx _ (List.getElem_mem hlt))
        have q1 : (0 : Int) ≤ (k : Int) := by omega
        have q2 : (k : Int) < (l.length : Int) := by omega
        clear ex cc
        generalize l[k] = x at cr f1 HT
        go_wp2_with fail
        (with_reducible refine (f1.out _).mono ?_); rintro e w1 ⟨rfl, hb1⟩
        have hown1 := own_below hown hb1
        have hB1 := hbel.trans (hb1.mono hz)
        have hzB := hB1.size
        have hl := hown1.lt
        go_wp2_with (at_builtin; refine wpList_append_own _ rfl _ _ 27 rfl w.heap.size 9 i0 _ 1 16 Tryd.underlying27 hi hz0 hz1 hz2 rfl (by decide) _ _ _ rfl (hown1.alloc _) ⟨w1.heap.size, 0, none⟩ 1 1 [.string ⟨x.toArray⟩] rfl rfl (oneNew _ _ _) (by simp [Value.oneCell']) (by simp only [maxLen]; omega) (by omega) (by simp; omega) ?_; intro v2 w2 hown2 hgrow hat)
        go_roundw
        case rel => exact ⟨k + 1, by omega, by go_num, by rw [HT.out]; simpa [sv] using hown2, (hB1.alloc hzB _).grown hgrow (by simp; omega) (fun q hq => (hl q hq).1)⟩
        case measure => simp [intOf]; omega
      · obtain rfl : k = l.length := by omega
        rw [List.take_length] at hown
        have HO := Lib.hid hown
        clear hown h
        go_wp2
        go_ret
        exact ⟨_, rfl, HO.out, hbel⟩

end Go.Proofs.YtnklajagefedmaaDoor

namespace Go.Proofs.YtnklajagefedmaaDoor
set_option maxRecDepth 100000
open Go.ChangeShapes Go.WideShapes Go.ChangeAt Go.RowKit
set_option linter.unusedSimpArgs false

theorem taConstNil (w : World) : (Instr.typeAssert .nilIface 51 58 true).run Tryd.prog w = .ok (.tuple #[.pointer none, .bool false]) w := by
  simp [Instr.typeAssert, run_underlying Tryd.underlying58, Tryd.zeroValue58]
theorem IRep.notConst {W : World} {t : Tm} {v : Value} (h : IRep W t v) (hn : ∀ n ls, t ≠ .const n ls) : ∃ T x, v = .iface T x ∧ T ≠ 58 := by
  cases t with
  | const n ls => exact absurd rfl (hn n ls)
  | var _ => obtain ⟨_, h, _⟩ := h; exact ⟨_, _, h, by decide⟩
  | sort _ => obtain ⟨_, h, _⟩ := h; exact ⟨_, _, h, by decide⟩
  | app _ _ => obtain ⟨_, _, _, h, _⟩ := h; exact ⟨_, _, h, by decide⟩
  | lam _ _ => obtain ⟨_, _, _, h, _⟩ := h; exact ⟨_, _, h, by decide⟩
  | pi _ _ => obtain ⟨_, _, _, h, _⟩ := h; exact ⟨_, _, h, by decide⟩
  | lett _ _ _ => obtain ⟨_, _, _, _, h, _⟩ := h; exact ⟨_, _, h, by decide⟩

set_option maxHeartbeats 4000000 in
theorem implConstIn (s : ByteArray) (W : World) (hv : Vars W) (hs : s.size ≤ maxLen) :
    Calls Tryd.prog 21 #[.string s] W (CRes (constIn s.data.toList) W) := by
  have f1 := Lib.hid (implReadTerm s W hv hs)
  clear hv hs
  go_enter Tryd.func21, Tryd.ntmps21
  go_wp2_with fail
  (with_reducible refine f1.out.mono ?_); rintro e w1 ⟨hb, ⟨t, v, ht, rfl, hr⟩ | ⟨hno, rfl⟩⟩
  rotate_left
  · have HB := Lib.hid hb
    have HE : Hid (constIn s.data.toList = none) := by rw [Hid, constIn, termOf_none hno]
    have aN := taConstNil
    clear hb hno f1
    go_wp2
    go_ret3
    rw [HE.out]
    exact ⟨_, rfl, World.ownsRow_nil _ _ _ _, HB.out⟩
  by_cases hn : ∀ n ls, t ≠ .const n ls
  · obtain ⟨T, x, rfl, hT⟩ := hr.notConst hn
    have HE : Hid (constIn s.data.toList = none) := by
      rw [Hid, constIn, termOf_some ht]
      cases t with
      | const n ls => exact absurd rfl (hn n ls)
      | _ => rfl
    have aN : ∀ w, (Instr.typeAssert (.iface T x) 51 58 true).run Tryd.prog w = .ok (.tuple #[.pointer none, .bool false]) w := fun w => by rw [taConst, if_neg hT]
    have HB := Lib.hid hb
    clear hb ht hr hn f1 hT
    go_wp2
    go_ret3
    rw [HE.out]
    exact ⟨_, rfl, World.ownsRow_nil _ _ _ _, HB.out⟩
  · obtain ⟨n, ls, rfl⟩ : ∃ n ls, t = .const n ls := Classical.byContradiction fun hc => hn fun n ls e => hc ⟨n, ls, e⟩
    obtain ⟨g0, u, rfl, hg, hu⟩ := hr
    obtain ⟨ua, uc, rfl⟩ := row_slice hu
    have hok : nameOk n = true ∧ ls.length ≤ 3 ∧ ∀ x ∈ ls, levelOk x = true := ht.1
    have HE : Hid (constIn s.data.toList = some (n, ls)) := by rw [Hid, constIn, termOf_some ht]
    have aN : ∀ w, (Instr.typeAssert (.iface 58 (.pointer (some ⟨g0, 0, none⟩))) 51 58 true).run Tryd.prog w = .ok (.tuple #[.pointer (some ⟨g0, 0, none⟩), .bool true]) w := fun w => by rw [taConst, if_pos rfl]
    have h40 := nameOk_len hok.1
    have hzn : (⟨n.toArray⟩ : ByteArray).size = n.length := by simp [ByteArray.size]
    have F1 := Lib.hid fun Wx => cloneS ⟨n.toArray⟩ Wx (by omega)
    have F2 := Lib.hid fun Wx (hx : Below w1.heap.size w1 Wx) => clones (own_below hu hx) (by omega) (fun x hx => by have := (levelOk_len (hok.2.2 x hx)).1; omega)
    unfold LRes at F2
    have HB := Lib.hid hb
    have HBX : Hid (∀ w', Below w1.heap.size w1 w' → w'.cell? ⟨g0, 0, none⟩ = some (.string ⟨n.toArray⟩) ∧ w'.cell? ⟨g0, 1, none⟩ = some (.slice ua ls.length uc)) := fun w' hb => by
      have := blk_below hg hb
      exact ⟨by rw [Lib.cell_of_heap this]; rfl, by rw [Lib.cell_of_heap this]; rfl⟩
    have X0 := HBX.out _ (Below.refl _ _)
    clear hb ht hu hn hok f1 h40 hg
    go_wp2
    go_region_held3 (fun w' => w'.cell? ⟨g0, 0, none⟩ = some (.string ⟨n.toArray⟩) ∧ w'.cell? ⟨g0, 1, none⟩ = some (.slice ua ls.length uc)) (first | exact X0 | exact X1 | exact X2)
      (first
        | (go_at_call 47; (with_reducible refine (F1.out _).mono ?_); rintro e w2 ⟨rfl, hb2⟩; have B1 := (Below.refl w1.heap.size w1).drew.trans hb2; have X1 := HBX.out _ B1)
        | (go_at_call 53; (with_reducible refine (F2.out _ B1).mono ?_); rintro e w3 ⟨u3, rfl, hu3, hb3⟩; have B2 := B1.trans (hb3.mono B1.size); have X2 := HBX.out _ B2))
    go_wp2
    go_ret3
    rw [HE.out]
    exact ⟨u3, rfl, own_base hu3 (Nat.le_trans HB.out.size B1.size), HB.out.trans (B2.mono HB.out.size)⟩
end Go.Proofs.YtnklajagefedmaaDoor
