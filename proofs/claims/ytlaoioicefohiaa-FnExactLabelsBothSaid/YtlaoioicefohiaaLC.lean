/-
  The contract of slices.CompactFunc at labels, over owned rows.
-/
import Derived.Test.YtlaoioicefohiaaLI6
import Derived.Lib.SlicesCompact
import Derived.Deep.LoopGhost
import Derived.Lib.SliceRun
namespace Go.Proofs.Ytlaoioicefohiaa
set_option maxRecDepth 100000
open Go.ChangeShapes Go.WideShapes Go.ChangeAt Go.RowKit
set_option linter.unusedSimpArgs false

theorem flat_setL (a : Int) (n : List UInt8) : ∀ (l : List Lbl) (k : Nat), flat (l.set k (a, n)) = ((flat l).set (k * 2) (.int .i64 a)).set (k * 2 + 1) (sv n)
  | [], _ => by simp [flat]
  | x :: r, 0 => by simp [flat_cons]
  | x :: r, k + 1 => by
    rw [List.set_cons_succ, flat_cons, flat_cons, flat_setL a n r k, show (k + 1) * 2 = k * 2 + 1 + 1 by omega]
    simp [List.set_cons_succ]
theorem flat_takeL : ∀ (l : List Lbl) (k : Nat), flat (l.take k) = (flat l).take (k * 2)
  | [], _ => by simp [flat]
  | x :: r, 0 => by simp [flat]
  | x :: r, k + 1 => by
    rw [List.take_succ_cons, flat_cons, flat_cons, flat_takeL r k, show (k + 1) * 2 = k * 2 + 1 + 1 by omega]
    simp
def setL : List Value → Nat → List Value → List Value
  | xs, _, [] => xs
  | xs, o, z :: r => setL (xs.set o z) (o + 1) r
theorem setL_take (m : Nat) : ∀ (zs xs : List Value) (o : Nat), m ≤ o → (setL xs o zs).take m = xs.take m
  | [], _, _, _ => rfl
  | z :: r, xs, o, h => by
    rw [setL, setL_take m r _ _ (by omega), List.take_set_of_le h]
theorem own_setCells {B e size g n cap : Nat} : ∀ (zs : List Value) {w : World} {xs : List Value} (o : Nat), w.ownsRow B e size (.slice (some ⟨g, 0, none⟩) n cap) n xs → (w.setCells g o zs).ownsRow B e size (.slice (some ⟨g, 0, none⟩) n cap) n (setL xs o zs)
  | [], _, _, _, h => h
  | z :: r, _, _, o, h => own_setCells r (o + 1) (h.stored o z).1
theorem below_setCells {B g : Nat} {w0 : World} (hg : B ≤ g) : ∀ (zs : List Value) {w : World} (o : Nat), Below B w0 w → Below B w0 (w.setCells g o zs)
  | [], _, _, h => h
  | z :: r, _, o, h => below_setCells hg r (o + 1) (h.setCell (p := ⟨g, o, none⟩) hg z)
theorem own_cut {B e size g n m cap : Nat} {w : World} {xs : List Value} (h : w.ownsRow B e size (.slice (some ⟨g, 0, none⟩) n cap) n xs) (hm : m ≤ n) : w.ownsRow B e size (.slice (some ⟨g, 0, none⟩) m cap) m (xs.take (m * size)) := by
  have hle : m * size ≤ n * size := Nat.mul_le_mul_right _ hm
  refine ⟨by rw [List.length_take, h.1]; omega, ?_⟩
  rcases h.2 with ⟨e0, _⟩ | ⟨g', cap', cur, e0, h1, h2, h3, h4, h5, h6⟩
  · cases e0
  · cases e0
    refine .inr ⟨g, cap, cur, rfl, h1, h2, by omega, h4, h5, ?_⟩
    rw [← h6, List.take_take, Nat.min_eq_left hle]
theorem comp_take {d dk : Array Lbl} {m k : Nat} (h : Lib.CompInv d m k dk) (hm : m ≤ d.size) : Lib.compactUpTo d m = dk.toList.take k := by
  have hk := h.lt
  have hsz := h.size
  apply List.ext_getElem?
  intro j
  by_cases hj : j < k
  · have hs : j < dk.size := by omega
    rw [h.low j hj, List.getElem?_take_of_lt hj, getElem!_pos dk j hs]
    simp [hs]
  · rw [List.getElem?_eq_none (by rw [h.len]; omega), List.getElem?_eq_none (by simp; omega)]
theorem comp_at {d dk : Array Lbl} {m k j : Nat} (h : Lib.CompInv d m k dk) (hj : k ≤ j) (hd : j < d.size) : ∃ hl : j < dk.toList.length, dk.toList[j] = d[j]! := by
  have hs : j < dk.size := by rw [h.size]; exact hd
  refine ⟨by simpa using hs, ?_⟩
  rw [← h.high j hj, getElem!_pos dk j hs]
  simp
theorem zero_cells (n : Nat) : ∀ v ∈ (Builtin.zeroCells (Value.agg #[.int .i64 0, .string ⟨#[]⟩]).cells n).toList, v.oneCell' = true := by
  intro v hv
  have hc : (Value.agg #[.int .i64 0, .string ⟨#[]⟩]).cells = #[.int .i64 0, .string ⟨#[]⟩] := rfl
  rw [hc] at hv
  simp only [Builtin.zeroCells, Array.toList_map, List.mem_map] at hv
  obtain ⟨i, _, rfl⟩ := hv
  have : i % 2 = 0 ∨ i % 2 = 1 := by omega
  rcases this with h | h <;> simp [h, Value.oneCell']
theorem zero_len (n : Nat) : (Builtin.zeroCells (Value.agg #[.int .i64 0, .string ⟨#[]⟩]).cells n).toList.length = n * 2 := by
  have hc : (Value.agg #[.int .i64 0, .string ⟨#[]⟩]).cells = #[.int .i64 0, .string ⟨#[]⟩] := rfl
  rw [hc]
  simp [Builtin.zeroCells]
theorem clearL (w : World) (ty g o n c : Nat) (hn : 0 < n) (hc : ∀ j, j < n * 2 → (w.cell? ⟨g, o + j, none⟩).isSome = true) (hf : ∀ j, j < n * 2 → w.frozen? ⟨g, o + j, none⟩ = false) :
    (Builtin.clear_ #[43] ty #[.slice (some ⟨g, o, none⟩) n c]).run Try.prog w = .ok (.tuple #[]) (w.setCells g o (Builtin.zeroCells (Value.agg #[.int .i64 0, .string ⟨#[]⟩]).cells n).toList) := by
  have hst := run_storeCells_cells (P := Try.prog) g o (Builtin.zeroCells (Value.agg #[.int .i64 0, .string ⟨#[]⟩]).cells n).toList 0 w (by rw [zero_len]; simpa using hc) (by rw [zero_len]; simpa using hf) (zero_cells n)
  simp only [Nat.add_zero] at hst
  have hv := Try.zeroValue31
  obtain ⟨m, rfl⟩ : ∃ m, n = m + 1 := ⟨n - 1, by omega⟩
  simp [Builtin.clear_, run_underlying Try.underlying43, hv, hst]

def EqAt (B : Nat) (w0 : World) (bx : Value) : Prop := ∀ W, Below B w0 W → ∀ (k1 k2 : Int) (n1 n2 : List UInt8), Calls Try.prog 72 #[.agg #[.int .i64 k1, .string ⟨n1.toArray⟩], .agg #[.int .i64 k2, .string ⟨n2.toArray⟩], bx] W fun e w' => e = .returned (.bool (decide ((k1, n1) = (k2, n2)))) ∧ Below W.heap.size W w'

set_option maxHeartbeats 4000000 in
theorem compactFuncL {w0 w : World} {B : Nat} {v bx : Value} {l : List Lbl} (h : w.ownsRow B 31 2 v l.length (flat l)) (hb : Below B w0 w) (hn : l.length ≤ 10000000) (hE : EqAt B w0 bx) :
    Calls Try.prog 71 #[v, .func (.func 72) #[] #[bx]] w fun e w' => ∃ v', e = .returned v' ∧ w'.ownsRow B 31 2 v' (Lib.compact l).length (flat (Lib.compact l)) ∧ Below B w0 w' := by
  by_cases h2 : l.length < 2
  · have HR := Lib.hid (Lib.compact_all l fun j hj => Lib.keeps_lt_one _ j (by omega))
    have HH := Lib.hid h
    obtain ⟨a, cap, rfl⟩ : ∃ a cap, v = .slice a l.length cap := by
      rcases h.2 with ⟨rfl, h0⟩ | ⟨g, cap, cur, rfl, _⟩
      · exact ⟨_, _, by rw [h0]⟩
      · exact ⟨_, _, rfl⟩
    clear h
    have d1 : decide ((l.length : Int) < 2) = true := decide_eq_true (by omega)
    go_enter Try.func71, Try.ntmps71
    go_wp2
    go_ret
    rw [HR.out]
    exact ⟨_, rfl, HH.out, hb⟩
  · obtain ⟨g, cap, rfl, hBg, hgl⟩ := h.form (by omega)
    have hnc : l.length ≤ cap := by
      rcases h.2 with ⟨_, h0⟩ | ⟨g', cap', cur, e0, _, _, h3, _⟩
      · omega
      · cases e0; exact h3
    have d1 : decide ((l.length : Int) < 2) = false := decide_eq_false (by omega)
    have HE := Lib.hid hE
    clear hE
    go_enter Try.func71, Try.ntmps71
    go_wp2
    go_loopg [5] l.length (fun gh s5 wr => ∃ k : Nat, 1 ≤ k ∧ k ≤ l.length ∧ l.length - k ≤ gh ∧ s5 = .int .i64 k ∧ wr.ownsRow B 31 2 (.slice (some ⟨g, 0, none⟩) l.length cap) l.length (flat l) ∧ Below B w0 wr ∧ Hid (∀ j, j < k → Lib.keeps l.toArray j = true))
    case atStart => exact ⟨1, Nat.le_refl _, by omega, by omega, rfl, h, hb, Lib.keeps_lt_one _⟩
    case round =>
      obtain ⟨k, hk1, hk, hg, rfl, hown, hbel, HA⟩ := hrel
      clear h hb
      have hz := hbel.size
      by_cases hlt : k < l.length
      · obtain ⟨k', hk'⟩ : ∃ k', k = k' + 1 := ⟨k - 1, by omega⟩
        have hlt' : k' < l.length := by omega
        obtain ⟨fa, fb⟩ := flat_at hlt
        obtain ⟨ga, gb⟩ := flat_at hlt'
        have ca := (hown.cellAt (k * 2) (by omega)).trans fa
        have cb := (hown.cellAt (k * 2 + 1) (by omega)).trans fb
        have da := (hown.cellAt (k' * 2) (by omega)).trans ga
        have db := (hown.cellAt (k' * 2 + 1) (by omega)).trans gb
        have HX : Hid (l.toArray[k]! = l[k] ∧ l.toArray[k - 1]! = l[k']) := by
          subst hk'
          constructor <;> simp [getElem!_pos, hlt, hlt']
        clear fa fb ga gb
        generalize l[k] = x at ca cb HX
        generalize l[k'] = y at da db HX
        obtain ⟨kx, nx⟩ := x
        obtain ⟨ky, ny⟩ := y
        unfold sv at cb db
        simp only at ca cb da db
        have q1 : (0 : Int) ≤ (k : Int) := by omega
        have q2 : (k : Int) < (l.length : Int) := by omega
        have q3 : (0 : Int) ≤ (k' : Int) := by omega
        have q4 : (k' : Int) < (l.length : Int) := by omega
        have q12 : IntKind.i64.wrap ((k : Int) - 1) = (k' : Int) := by rw [IntKind.wrap_i64]; omega
        have f1 := Lib.hid (HE.out wr.drew hbel.drew kx ky nx ny)
        clear hk' hlt'
        by_cases hdup : (kx, nx) = (ky, ny)
        · rw [decide_eq_true hdup] at f1
          have HD : Hid (Lib.keeps l.toArray k = false) := Lib.keeps_neg (by omega) (by rw [HX.out.1, HX.out.2, hdup])
          clear hdup HX
          go_wp2_with fail
          go_still_tail 10, (by kernel_rfl)
          change wpList _ _ _ _ _ wr.drew
          have hown1 := hown.drew
          have hbel1 := hbel.drew
          clear hown hbel ca cb da db
          generalize wr.drew = wd at f1 hown1 hbel1
          go_wp2_with fail
          (with_reducible refine f1.out.mono ?_); rintro e w2 ⟨rfl, hb2⟩
          go_wp2
          have hown2 := own_below hown1 hb2
          have hbel2 := hbel1.trans (hb2.mono (by have := (hown1.lt g rfl).1; have := (hown1.lt g rfl).2; omega))
          clear hown1 hbel1 hb2 f1
          go_loopg [5, 7] l.length (fun gh s5 s7 wr => ∃ (kk k2 : Nat) (dk : Array Lbl), s5 = .int .i64 kk ∧ s7 = .int .i64 k2 ∧ 1 ≤ k2 ∧ k + k2 ≤ l.length ∧ l.length - (k + k2) ≤ gh ∧ wr.ownsRow B 31 2 (.slice (some ⟨g, 0, none⟩) l.length cap) l.length (flat dk.toList) ∧ Below B w0 wr ∧ Hid (Lib.CompInv l.toArray (k + k2) kk dk))
          case atStart => exact ⟨k, 1, l.toArray, rfl, rfl, Nat.le_refl _, by omega, by omega, hown2, hbel2, Lib.CompInv.start HA.out HD.out⟩
          case round =>
            obtain ⟨kk, k2, dk, rfl, rfl, h1, hle, hg2, hownk, hbelk, HI⟩ := hrel
            clear hown2 hbel2 HD HA
            have hkk := HI.out.lt
            have hds := HI.out.size
            have hdl : dk.toList.length = l.length := by simpa using hds
            by_cases hlt2 : k + k2 < l.length
            · obtain ⟨k3, hk3⟩ : ∃ k3, k2 = k3 + 1 := ⟨k2 - 1, by omega⟩
              obtain ⟨xl, xe⟩ := comp_at HI.out (j := k + k2) (by omega) (by simpa using hlt2)
              obtain ⟨yl, ye⟩ := comp_at HI.out (j := k + k3) (by omega) (by simp; omega)
              obtain ⟨fa, fb⟩ := flat_at xl
              obtain ⟨ga, gb⟩ := flat_at yl
              have ca := (hownk.cellAt ((k + k2) * 2) (by omega)).trans fa
              have cb := (hownk.cellAt ((k + k2) * 2 + 1) (by omega)).trans fb
              have da := (hownk.cellAt ((k + k3) * 2) (by omega)).trans ga
              have db := (hownk.cellAt ((k + k3) * 2 + 1) (by omega)).trans gb
              rw [xe] at ca cb
              rw [ye] at da db
              rw [show (k + k2) * 2 = k * 2 + k2 * 2 by omega] at ca cb
              rw [show (k + k3) * 2 = k * 2 + k3 * 2 by omega] at da db
              have HY : Hid (l.toArray[k + k2 - 1]! = l.toArray[k + k3]!) := by rw [Hid, show k + k2 - 1 = k + k3 by omega]
              clear fa fb ga gb xe ye xl yl
              have HX := Lib.hid (rfl : l.toArray[k + k2]! = l.toArray[k + k2]!)
              have HC := Lib.hid fun x (hx : l.toArray[k + k2]! = x) => hx
              generalize hu : l.toArray[k + k2]! = x at ca cb
              generalize hv : l.toArray[k + k3]! = y at da db HY
              have HU := Lib.hid hu
              clear hu hv HX HC
              obtain ⟨kx, nx⟩ := x
              obtain ⟨ky, ny⟩ := y
              unfold sv at cb db
              simp only at ca cb da db
              have q1 : (0 : Int) ≤ (k2 : Int) := by omega
              have q2 : (k2 : Int) < ((l.length - k : Nat) : Int) := by omega
              have q2' : k2 < l.length - k := by omega
              have q3 : (0 : Int) ≤ (k3 : Int) := by omega
              have q4 : (k3 : Int) < ((l.length - k : Nat) : Int) := by omega
              have q4' : k3 < l.length - k := by omega
              have q12 : IntKind.i64.wrap ((k2 : Int) - 1) = (k3 : Int) := by rw [IntKind.wrap_i64]; omega
              have f1 := Lib.hid (HE.out wr.drew hbelk.drew kx ky nx ny)
              clear hk3
              by_cases huv : (kx, nx) = (ky, ny)
              · rw [decide_eq_true huv] at f1
                have HN : Hid (Lib.keeps l.toArray (k + k2) = false) := Lib.keeps_neg (by omega) (by rw [HU.out, HY.out, huv])
                have HI2 := Lib.hid (HI.out.skip HN.out)
                clear huv HU HY HN HI
                go_wp2_with fail
                go_still_tail 10, (by kernel_rfl)
                change wpList _ _ _ _ _ wr.drew
                have hown1 := hownk.drew
                have hbel1 := hbelk.drew
                clear hownk hbelk ca cb da db
                generalize wr.drew = wd at f1 hown1 hbel1
                go_wp2_with fail
                (with_reducible refine f1.out.mono ?_); rintro e w3 ⟨rfl, hb3⟩
                have hown3 := own_below hown1 hb3
                have hbel3 := hbel1.trans (hb3.mono (by have := (hown1.lt g rfl).1; have := (hown1.lt g rfl).2; omega))
                go_wp2
                go_roundg (l.length - (k + (k2 + 1)))
                case measure => omega
                case rel => exact ⟨kk, k2 + 1, dk, rfl, by go_num, by omega, by omega, Nat.le_refl _, hown3, hbel3, HI2.out⟩
              · rw [decide_eq_false huv] at f1
                have HI2 := Lib.hid (HI.out.keep (by simpa using hlt2) (Lib.keeps_pos (by rw [HU.out, HY.out]; exact huv)))
                rw [HU.out] at HI2
                clear huv HU HY HI
                have HS := Lib.hid (flat_setL kx nx dk.toList kk)
                have hkl : kk < l.length := by omega
                have q5 : (0 : Int) ≤ (kk : Int) := by omega
                have q6 : (kk : Int) < (l.length : Int) := by omega
                go_wp2_with fail
                go_still_tail 10, (by kernel_rfl)
                change wpList _ _ _ _ _ wr.drew
                have hown1 := hownk.drew
                have hbel1 := hbelk.drew
                have ca1 : wr.drew.cell? ⟨g, k * 2 + k2 * 2, none⟩ = some (.int .i64 kx) := ca
                have cb1 : wr.drew.cell? ⟨g, k * 2 + k2 * 2 + 1, none⟩ = some (.string ⟨nx.toArray⟩) := cb
                clear hownk hbelk ca cb da db
                generalize wr.drew = wd at f1 hown1 hbel1 ca1 cb1
                go_wp2_with fail
                (with_reducible refine f1.out.mono ?_); rintro e w3 ⟨rfl, hb3⟩
                have hown3 := own_below hown1 hb3
                have hgd := (hown1.lt g rfl).2
                have hbel3 := hbel1.trans (hb3.mono (by have := (hown1.lt g rfl).1; omega))
                have ca3 := (hb3.cell (p := ⟨g, k * 2 + k2 * 2, none⟩) hgd).trans ca1
                have cb3 := (hb3.cell (p := ⟨g, k * 2 + k2 * 2 + 1, none⟩) hgd).trans cb1
                have hfl : (flat dk.toList).length = l.length * 2 := by rw [flat_length, hdl]
                have co := hown3.cellAt (kk * 2) (by omega)
                rw [List.getElem?_eq_getElem (by omega)] at co
                have co2 := hown3.cellAt (kk * 2 + 1) (by omega)
                rw [List.getElem?_eq_getElem (by omega)] at co2
                have cf := hown3.frozenAt (kk * 2)
                have cf2 := hown3.frozenAt (kk * 2 + 1)
                generalize (flat dk.toList)[kk * 2] = old1 at co
                generalize (flat dk.toList)[kk * 2 + 1] = old2 at co2
                have HW := Lib.hid (((hown3.stored (kk * 2) (.int .i64 kx)).1.stored (kk * 2 + 1) (.string ⟨nx.toArray⟩)).1)
                have HB := Lib.hid ((hbel3.setCell (p := ⟨g, kk * 2, none⟩) hBg (.int .i64 kx)).setCell (p := ⟨g, kk * 2 + 1, none⟩) hBg (.string ⟨nx.toArray⟩))
                clear hown1 hown3 hb3 ca1 cb1 f1
                go_wp2
                go_roundg (l.length - (k + (k2 + 1)))
                case measure => omega
                case rel =>
                  refine ⟨kk + 1, k2 + 1, dk.setIfInBounds kk (kx, nx), by go_num, by go_num, by omega, by omega, Nat.le_refl _, ?_, HB.out, HI2.out⟩
                  rw [Array.toList_setIfInBounds, HS.out]
                  exact HW.out
            · have hend : k + k2 = l.length := by omega
              have hkl : kk < l.length := by omega
              have hfl : (flat dk.toList).length = l.length * 2 := by rw [flat_length, hdl]
              have hcl : ∀ ty, (Builtin.clear_ #[43] ty #[.slice (some ⟨g, kk * 2, none⟩) (l.length - kk) (cap - kk)]).run Try.prog wr = .ok (.tuple #[]) (wr.setCells g (kk * 2) (Builtin.zeroCells (Value.agg #[.int .i64 0, .string ⟨#[]⟩]).cells (l.length - kk)).toList) :=
                fun ty => clearL wr ty g (kk * 2) (l.length - kk) (cap - kk) (by omega) (fun j hj => by rw [hownk.cellAt (kk * 2 + j) (by omega), List.getElem?_eq_getElem (by omega)]; rfl) (fun j hj => hownk.frozenAt (kk * 2 + j))
              have HO := Lib.hid (own_cut (own_setCells (Builtin.zeroCells (Value.agg #[.int .i64 0, .string ⟨#[]⟩]).cells (l.length - kk)).toList (kk * 2) hownk) (m := kk) (by omega))
              have HB := Lib.hid (below_setCells hBg (Builtin.zeroCells (Value.agg #[.int .i64 0, .string ⟨#[]⟩]).cells (l.length - kk)).toList (kk * 2) hbelk)
              rw [setL_take _ _ _ _ (Nat.le_refl _), ← flat_takeL] at HO
              have HT := Lib.hid (comp_take HI.out (by simp; omega))
              have HL := Lib.hid HI.out.len
              rw [hend] at HT HL
              have HC : Hid (Lib.compact l = dk.toList.take kk ∧ (Lib.compact l).length = kk) := ⟨HT.out, HL.out⟩
              have q5 : (0 : Int) ≤ (kk : Int) := by omega
              have q6 : (kk : Int) ≤ (l.length : Int) := by omega
              have d3 : decide ((k2 : Int) < ((l.length - k : Nat) : Int)) = false := decide_eq_false (by omega)
              have d4 : ¬ k2 < l.length - k := by omega
              clear hownk hbelk HI HT HL
              generalize wr.setCells g (kk * 2) (Builtin.zeroCells (Value.agg #[.int .i64 0, .string ⟨#[]⟩]).cells (l.length - kk)).toList = wc at hcl HO HB
              go_wp2
              go_ret
              refine ⟨_, rfl, ?_, HB.out⟩
              rw [HC.out.2, HC.out.1]
              exact HO.out
        · rw [decide_eq_false hdup] at f1
          have HK : Hid (∀ j, j < k + 1 → Lib.keeps l.toArray j = true) := fun j hj => by
            by_cases e : j = k
            · subst e
              exact Lib.keeps_pos (by rw [HX.out.1, HX.out.2]; exact hdup)
            · exact HA.out j (by omega)
          clear hdup HX HA
          go_wp2_with fail
          go_still_tail 10, (by kernel_rfl)
          change wpList _ _ _ _ _ wr.drew
          have hown1 := hown.drew
          have hbel1 := hbel.drew
          clear hown hbel ca cb da db
          generalize wr.drew = wd at f1 hown1 hbel1
          go_wp2_with fail
          (with_reducible refine f1.out.mono ?_); rintro e w2 ⟨rfl, hb2⟩
          have hown2 := own_below hown1 hb2
          have hbel2 := hbel1.trans (hb2.mono (by have := (hown1.lt g rfl).1; have := (hown1.lt g rfl).2; omega))
          go_wp2
          go_roundg (l.length - (k + 1))
          case measure => omega
          case rel => exact ⟨k + 1, by omega, by omega, Nat.le_refl _, by go_num, hown2, hbel2, HK.out⟩
      · obtain rfl : k = l.length := by omega
        have HC := Lib.hid (Lib.compact_all l HA.out)
        have HO := Lib.hid hown
        clear hown HA
        go_wp2
        go_ret
        rw [HC.out]
        exact ⟨_, rfl, HO.out, hbel⟩
end Go.Proofs.Ytlaoioicefohiaa
