/-
  Contracts of slices.SortFunc and slices.CompactFunc at strings over owned rows, of impl.united at strings, its function literal, and impl.NamesBoth.
-/
import Derived.Test.YtanhnicfkghkbaaDoorSBP
import Derived.Test.YtanhnicfkghkbaaDoorCMath
import Derived.Deep.LoopGhost
import Derived.Lib.SliceRun
import Derived.StillTailTactics
namespace Go.Proofs.YtanhnicfkghkbaaDoor
set_option maxRecDepth 100000
open Go.ChangeShapes Go.WideShapes Go.ChangeAt Go.RowKit
set_option linter.unusedSimpArgs false

theorem cmpB_ltOf (x y : BL) : ltOf Lib.compareBytes x y = decide (x < y) := cmpB_lt x y
theorem cmpB_swo : Go.Sort.SWO (ltOf Lib.compareBytes) where
  irrefl x := by rw [cmpB_ltOf]; simp
  trans x y z h1 h2 := by
    rw [cmpB_ltOf] at *
    simp only [decide_eq_true_eq] at *
    exact List.lt_trans h1 h2
  ntrans x y z h1 h2 := by
    rw [cmpB_ltOf] at *
    simp only [decide_eq_false_iff_not, List.not_lt] at *
    exact List.le_trans h2 h1
theorem cmpB_total (x y : BL) (h1 : ltOf Lib.compareBytes x y = false) (h2 : ltOf Lib.compareBytes y x = false) : x = y := by
  rw [cmpB_ltOf] at h1 h2
  simp only [decide_eq_false_iff_not, List.not_lt] at h1 h2
  exact List.le_antisymm h2 h1
theorem cmpB_le : (fun x y : BL => !(ltOf Lib.compareBytes) y x) = fun x y => decide (x ≤ y) := by
  funext x y
  rw [cmpB_ltOf]
  by_cases h : y < x
  · have h2 : ¬ x ≤ y := List.not_le.2 h
    simp [h, h2]
  · have h2 : x ≤ y := List.not_lt.1 h
    simp [h, h2]

theorem sortRowS {w0 w : World} {B : Nat} {v : Value} {l : List BL} (h : w.ownsRow B 9 1 v l.length (l.map sv)) (hb : Below B w0 w) (hn : l.length ≤ 10000000) :
    Calls Tryd.prog 27 #[v, .func (.func 19) #[] #[]] w fun e w' => e = .returned (.tuple #[]) ∧ w'.ownsRow B 9 1 v l.length ((l.mergeSort fun x y => decide (x ≤ y)).map sv) ∧ Below B w0 w' := by
  rcases Nat.eq_zero_or_pos l.length with h0 | hp
  · obtain ⟨a, cap, rfl⟩ := own_nil_orB h h0
    obtain rfl : l = [] := List.length_eq_zero_iff.1 h0
    refine (AnyF.slices_SortFunc_none { Tryd.laysSlF6_f27 with } a cap (.func (.func 19) #[] #[]) w).mono ?_
    rintro e w' ⟨rfl, rfl⟩
    exact ⟨rfl, by simpa using h, hb⟩
  · have hv : v ≠ .slice none 0 0 := by
      obtain ⟨g, cap, rfl, _, _⟩ := h.form hp
      intro e; cases e
    obtain ⟨g, cap, rfl, hbg, hgl, hnc, hcm, _, hH⟩ := Lib.holds_of_ownsRow (enc := encStr) (zs := l) h hv
    have eg : ∀ args w, (callFunc 19 args).run Tryd.prog w = .ok (.enter 19 args) w := enters_of Tryd.func19 (by kernel_rfl) rfl
    have hcmp : CmpReads Tryd.prog 19 #[] encStr Lib.compareBytes g 0 l.toArray.size w := fun m os dk _ x y => (Tryd.strings_Compare ⟨x.toArray⟩ ⟨y.toArray⟩ _).mono fun e w' ⟨he, hw⟩ => ⟨he, 0, hw⟩
    have hcon := Any.slices_SortFunc_total Tryd.laysSlF6_f27 encStr (fun _ => rfl) Lib.compareBytes cmpB_swo 19 #[] g 0 cap l.toArray w eg hcmp.lays hH hgl (by simp; omega) cmpB_total
    rw [cmpB_le] at hcon
    refine Calls.mono hcon ?_
    rintro e w' ⟨rfl, n, os, rfl⟩
    refine ⟨rfl, ?_, hb.grown (grownBy_sorted _) (by omega) (fun j hj => by cases hj; exact hbg)⟩
    rcases h.2 with ⟨e0, _⟩ | ⟨g', cap', cur, e0, hb1, hg1, hn1, hm1, hs1, _⟩
    · cases e0
    · cases e0
      exact ownsRow_sorted (ss := l) (List.length_mergeSort l) hb1 hg1 hn1 hm1 hs1

def setS : List Value → Nat → List Value → List Value
  | xs, _, [] => xs
  | xs, o, z :: r => setS (xs.set o z) (o + 1) r
theorem setS_take (m : Nat) : ∀ (zs xs : List Value) (o : Nat), m ≤ o → (setS xs o zs).take m = xs.take m
  | [], _, _, _ => rfl
  | z :: r, xs, o, h => by
    rw [setS, setS_take m r _ _ (by omega), List.take_set_of_le h]
theorem own_setCellsS {B e size g n cap : Nat} : ∀ (zs : List Value) {w : World} {xs : List Value} (o : Nat), w.ownsRow B e size (.slice (some ⟨g, 0, none⟩) n cap) n xs → (w.setCells g o zs).ownsRow B e size (.slice (some ⟨g, 0, none⟩) n cap) n (setS xs o zs)
  | [], _, _, _, h => h
  | z :: r, _, _, o, h => own_setCellsS r (o + 1) (h.stored o z).1
theorem below_setCellsS {B g : Nat} {w0 : World} (hg : B ≤ g) : ∀ (zs : List Value) {w : World} (o : Nat), Below B w0 w → Below B w0 (w.setCells g o zs)
  | [], _, _, h => h
  | z :: r, _, o, h => below_setCellsS hg r (o + 1) (h.setCell (p := ⟨g, o, none⟩) hg z)
theorem own_cutS {B e size g n m cap : Nat} {w : World} {xs : List Value} (h : w.ownsRow B e size (.slice (some ⟨g, 0, none⟩) n cap) n xs) (hm : m ≤ n) : w.ownsRow B e size (.slice (some ⟨g, 0, none⟩) m cap) m (xs.take (m * size)) := by
  have hle : m * size ≤ n * size := Nat.mul_le_mul_right _ hm
  refine ⟨by rw [List.length_take, h.1]; omega, ?_⟩
  rcases h.2 with ⟨e0, _⟩ | ⟨g', cap', cur, e0, h1, h2, h3, h4, h5, h6⟩
  · cases e0
  · cases e0
    refine .inr ⟨g, cap, cur, rfl, h1, h2, by omega, h4, h5, ?_⟩
    rw [← h6, List.take_take, Nat.min_eq_left hle]
theorem comp_takeS {d dk : Array BL} {m k : Nat} (h : Lib.CompInv d m k dk) (hm : m ≤ d.size) : Lib.compactUpTo d m = dk.toList.take k := by
  have hk := h.lt
  have hsz := h.size
  apply List.ext_getElem?
  intro j
  by_cases hj : j < k
  · have hs : j < dk.size := by omega
    rw [h.low j hj, List.getElem?_take_of_lt hj, getElem!_pos dk j hs]
    simp [hs]
  · rw [List.getElem?_eq_none (by rw [h.len]; omega), List.getElem?_eq_none (by simp; omega)]
theorem comp_atS {d dk : Array BL} {m k j : Nat} (h : Lib.CompInv d m k dk) (hj : k ≤ j) (hd : j < d.size) : (dk.toList.map sv)[j]? = some (sv d[j]!) := by
  have hs : j < dk.size := by rw [h.size]; exact hd
  rw [← h.high j hj, getElem!_pos dk j hs]
  simp [hs]

def EqAtS (B : Nat) (w0 : World) (bx : Value) : Prop := ∀ W, Below B w0 W → ∀ (n1 n2 : BL), Calls Tryd.prog 29 #[.string ⟨n1.toArray⟩, .string ⟨n2.toArray⟩, bx] W fun e w' => e = .returned (.bool (decide (n1 = n2))) ∧ Below W.heap.size W w'

set_option maxHeartbeats 4000000 in
theorem compactFuncS {w0 w : World} {B : Nat} {v bx : Value} {l : List BL} (h : w.ownsRow B 9 1 v l.length (l.map sv)) (hb : Below B w0 w) (hn : l.length ≤ 10000000) (hE : EqAtS B w0 bx) :
    Calls Tryd.prog 28 #[v, .func (.func 29) #[] #[bx]] w fun e w' => ∃ v', e = .returned v' ∧ w'.ownsRow B 9 1 v' (Lib.compact l).length ((Lib.compact l).map sv) ∧ Below B w0 w' := by
  by_cases h2 : l.length < 2
  · have HR := Lib.hid (Lib.compact_all l fun j hj => Lib.keeps_lt_one _ j (by omega))
    have HH := Lib.hid h
    obtain ⟨a, cap, rfl⟩ := own_slice h
    clear h
    have d1 : decide ((l.length : Int) < 2) = true := decide_eq_true (by omega)
    go_enter Tryd.func28, Tryd.ntmps28
    go_wp2
    go_ret
    rw [HR.out]
    exact ⟨_, rfl, HH.out, hb⟩
  · obtain ⟨g, cap, rfl, hBg, hgl⟩ := h.form (by omega)
    have hnc : l.length ≤ cap := by
      rcases h.2 with ⟨_, h0⟩ | ⟨g', cap', cur, e0, _, _, h3, _⟩
      · omega
      · cases e0; exact h3
    have d1 : decide ((l.length : Int) < 2) = false := decide_eq_false (by omega)
    have HE := Lib.hid hE
    clear hE
    go_enter Tryd.func28, Tryd.ntmps28
    go_wp2
    go_loopg [5] l.length (fun gh s5 wr => ∃ k : Nat, 1 ≤ k ∧ k ≤ l.length ∧ l.length - k ≤ gh ∧ s5 = .int .i64 k ∧ wr.ownsRow B 9 1 (.slice (some ⟨g, 0, none⟩) l.length cap) l.length (l.map sv) ∧ Below B w0 wr ∧ Hid (∀ j, j < k → Lib.keeps l.toArray j = true))
    case atStart => exact ⟨1, Nat.le_refl _, by omega, by omega, rfl, h, hb, Lib.keeps_lt_one _⟩
    case round =>
      obtain ⟨k, hk1, hk, hg, rfl, hown, hbel, HA⟩ := hrel
      clear h hb
      have hz := hbel.size
      by_cases hlt : k < l.length
      · obtain ⟨k', hk'⟩ : ∃ k', k = k' + 1 := ⟨k - 1, by omega⟩
        have hlt' : k' < l.length := by omega
        have fa : (l.map sv)[k]? = some (sv l[k]) := by simp [hlt]
        have ga : (l.map sv)[k']? = some (sv l[k']) := by simp [hlt']
        have ca := (hown.cellAt k (by omega)).trans fa
        have da := (hown.cellAt k' (by omega)).trans ga
        have HX : Hid (l.toArray[k]! = l[k] ∧ l.toArray[k - 1]! = l[k']) := by
          subst hk'
          constructor <;> simp [getElem!_pos, hlt, hlt']
        clear fa ga
        generalize l[k] = nx at ca HX
        generalize l[k'] = ny at da HX
        unfold sv at ca da
        have q1 : (0 : Int) ≤ (k : Int) := by omega
        have q2 : (k : Int) < (l.length : Int) := by omega
        have q3 : (0 : Int) ≤ (k' : Int) := by omega
        have q4 : (k' : Int) < (l.length : Int) := by omega
        have q12 : IntKind.i64.wrap ((k : Int) - 1) = (k' : Int) := by rw [IntKind.wrap_i64]; omega
        have f1 := Lib.hid (HE.out wr.drew hbel.drew nx ny)
        clear hk' hlt'
        by_cases hdup : nx = ny
        · rw [decide_eq_true hdup] at f1
          have HD : Hid (Lib.keeps l.toArray k = false) := Lib.keeps_neg (by omega) (by rw [HX.out.1, HX.out.2, hdup])
          clear hdup HX
          go_wp2_with fail
          go_still_tail 10, (by kernel_rfl)
          change wpList _ _ _ _ _ wr.drew
          have hown1 := hown.drew
          have hbel1 := hbel.drew
          clear hown hbel ca da
          generalize wr.drew = wd at f1 hown1 hbel1
          go_wp2_with fail
          (with_reducible refine f1.out.mono ?_); rintro e w2 ⟨rfl, hb2⟩
          go_wp2
          have hown2 := own_below hown1 hb2
          have hbel2 := hbel1.trans (hb2.mono (by have := (hown1.lt g rfl).1; have := (hown1.lt g rfl).2; omega))
          clear hown1 hbel1 hb2 f1
          go_loopg [5, 7] l.length (fun gh s5 s7 wr => ∃ (kk k2 : Nat) (dk : Array BL), s5 = .int .i64 kk ∧ s7 = .int .i64 k2 ∧ 1 ≤ k2 ∧ k + k2 ≤ l.length ∧ l.length - (k + k2) ≤ gh ∧ wr.ownsRow B 9 1 (.slice (some ⟨g, 0, none⟩) l.length cap) l.length (dk.toList.map sv) ∧ Below B w0 wr ∧ Hid (Lib.CompInv l.toArray (k + k2) kk dk))
          case atStart => exact ⟨k, 1, l.toArray, rfl, rfl, Nat.le_refl _, by omega, by omega, hown2, hbel2, Lib.CompInv.start HA.out HD.out⟩
          case round =>
            obtain ⟨kk, k2, dk, rfl, rfl, h1, hle, hg2, hownk, hbelk, HI⟩ := hrel
            clear hown2 hbel2 HD HA
            have hkk := HI.out.lt
            have hds := HI.out.size
            have hdl : dk.toList.length = l.length := by simpa using hds
            have hfl : (dk.toList.map sv).length = l.length := by rw [List.length_map, hdl]
            by_cases hlt2 : k + k2 < l.length
            · obtain ⟨k3, hk3⟩ : ∃ k3, k2 = k3 + 1 := ⟨k2 - 1, by omega⟩
              have fa := comp_atS HI.out (j := k + k2) (by omega) (by simpa using hlt2)
              have ga := comp_atS HI.out (j := k + k3) (by omega) (by simp; omega)
              have ca := (hownk.cellAt (k + k2) (by omega)).trans fa
              have da := (hownk.cellAt (k + k3) (by omega)).trans ga
              have HY : Hid (l.toArray[k + k2 - 1]! = l.toArray[k + k3]!) := by rw [Hid, show k + k2 - 1 = k + k3 by omega]
              clear fa ga
              generalize hu : l.toArray[k + k2]! = nx at ca
              generalize hv : l.toArray[k + k3]! = ny at da HY
              have HU := Lib.hid hu
              clear hu hv
              unfold sv at ca da
              have q1 : (0 : Int) ≤ (k2 : Int) := by omega
              have q2 : (k2 : Int) < ((l.length - k : Nat) : Int) := by omega
              have q2' : k2 < l.length - k := by omega
              have q3 : (0 : Int) ≤ (k3 : Int) := by omega
              have q4 : (k3 : Int) < ((l.length - k : Nat) : Int) := by omega
              have q4' : k3 < l.length - k := by omega
              have q12 : IntKind.i64.wrap ((k2 : Int) - 1) = (k3 : Int) := by rw [IntKind.wrap_i64]; omega
              have f1 := Lib.hid (HE.out wr.drew hbelk.drew nx ny)
              clear hk3
              by_cases huv : nx = ny
              · rw [decide_eq_true huv] at f1
                have HN : Hid (Lib.keeps l.toArray (k + k2) = false) := Lib.keeps_neg (by omega) (by rw [HU.out, HY.out, huv])
                have HI2 := Lib.hid (HI.out.skip HN.out)
                clear huv HU HY HN HI
                go_wp2_with fail
                go_still_tail 10, (by kernel_rfl)
                change wpList _ _ _ _ _ wr.drew
                have hown1 := hownk.drew
                have hbel1 := hbelk.drew
                clear hownk hbelk ca da
                generalize wr.drew = wd at f1 hown1 hbel1
                go_wp2_with fail
                (with_reducible refine f1.out.mono ?_); rintro e w3 ⟨rfl, hb3⟩
                have hown3 := own_below hown1 hb3
                have hbel3 := hbel1.trans (hb3.mono (by have := (hown1.lt g rfl).1; have := (hown1.lt g rfl).2; omega))
                go_wp2
                go_roundg (l.length - (k + (k2 + 1)))
                case measure => omega
                case rel => exact ⟨kk, k2 + 1, dk, rfl, by go_num, by omega, by omega, Nat.le_refl _, hown3, hbel3, HI2.out⟩
              · rw [decide_eq_false huv] at f1
                have HI2 := Lib.hid (HI.out.keep (by simpa using hlt2) (Lib.keeps_pos (by rw [HU.out, HY.out]; exact huv)))
                rw [HU.out] at HI2
                clear huv HU HY HI
                have hkl : kk < l.length := by omega
                have q5 : (0 : Int) ≤ (kk : Int) := by omega
                have q6 : (kk : Int) < (l.length : Int) := by omega
                go_wp2_with fail
                go_still_tail 10, (by kernel_rfl)
                change wpList _ _ _ _ _ wr.drew
                have hown1 := hownk.drew
                have hbel1 := hbelk.drew
                have ca1 : wr.drew.cell? ⟨g, k + k2, none⟩ = some (.string ⟨nx.toArray⟩) := ca
                clear hownk hbelk ca da
                generalize wr.drew = wd at f1 hown1 hbel1 ca1
                go_wp2_with fail
                (with_reducible refine f1.out.mono ?_); rintro e w3 ⟨rfl, hb3⟩
                have hown3 := own_below hown1 hb3
                have hgd := (hown1.lt g rfl).2
                have hbel3 := hbel1.trans (hb3.mono (by have := (hown1.lt g rfl).1; omega))
                have ca3 := (hb3.cell (p := ⟨g, k + k2, none⟩) hgd).trans ca1
                have co := hown3.cellAt kk (by omega)
                rw [List.getElem?_eq_getElem (by omega)] at co
                have cf := hown3.frozenAt kk
                generalize (dk.toList.map sv)[kk] = old1 at co
                have HW := Lib.hid ((hown3.stored kk (.string ⟨nx.toArray⟩)).1)
                have HB := Lib.hid (hbel3.setCell (p := ⟨g, kk, none⟩) hBg (.string ⟨nx.toArray⟩))
                clear hown1 hown3 hb3 ca1 f1
                go_wp2
                go_roundg (l.length - (k + (k2 + 1)))
                case measure => omega
                case rel =>
                  refine ⟨kk + 1, k2 + 1, dk.setIfInBounds kk nx, by go_num, by go_num, by omega, by omega, Nat.le_refl _, ?_, HB.out, HI2.out⟩
                  rw [Array.toList_setIfInBounds, List.map_set]
                  exact HW.out
            · have hend : k + k2 = l.length := by omega
              have hkl : kk < l.length := by omega
              have hcl : ∀ ty, (Builtin.clear_ #[24] ty #[.slice (some ⟨g, kk, none⟩) (l.length - kk) (cap - kk)]).run Tryd.prog wr = .ok (.tuple #[]) (wr.setCells g kk (List.replicate (l.length - kk) (.string ⟨#[]⟩))) :=
                fun ty => Lib.run_clear_slice wr _ _ ty _ Tryd.underlying24 Tryd.zeroValue9 rfl rfl g kk _ _ (by omega) (fun j hj => by rw [hownk.cellAt (kk + j) (by omega), List.getElem?_eq_getElem (by omega)]; rfl) (fun j hj => hownk.frozenAt (kk + j))
              have HO := Lib.hid (own_cutS (own_setCellsS (List.replicate (l.length - kk) (.string ⟨#[]⟩)) kk hownk) (m := kk) (by omega))
              have HB := Lib.hid (below_setCellsS hBg (List.replicate (l.length - kk) (.string ⟨#[]⟩)) kk hbelk)
              rw [Nat.mul_one, setS_take _ _ _ _ (Nat.le_refl _), ← List.map_take] at HO
              have HT := Lib.hid (comp_takeS HI.out (by simp; omega))
              have HL := Lib.hid HI.out.len
              rw [hend] at HT HL
              have HC : Hid (Lib.compact l = dk.toList.take kk ∧ (Lib.compact l).length = kk) := ⟨HT.out, HL.out⟩
              have q5 : (0 : Int) ≤ (kk : Int) := by omega
              have q6 : (kk : Int) ≤ (l.length : Int) := by omega
              have d3 : decide ((k2 : Int) < ((l.length - k : Nat) : Int)) = false := decide_eq_false (by omega)
              have d4 : ¬ k2 < l.length - k := by omega
              clear hownk hbelk HI HT HL
              generalize wr.setCells g kk (List.replicate (l.length - kk) (.string ⟨#[]⟩)) = wc at hcl HO HB
              go_wp2
              go_ret
              refine ⟨_, rfl, ?_, HB.out⟩
              rw [HC.out.2, HC.out.1]
              exact HO.out
        · rw [decide_eq_false hdup] at f1
          have HK : Hid (∀ j, j < k + 1 → Lib.keeps l.toArray j = true) := fun j hj => by
            by_cases e : j = k
            · subst e
              exact Lib.keeps_pos (by rw [HX.out.1, HX.out.2]; exact hdup)
            · exact HA.out j (by omega)
          clear hdup HX HA
          go_wp2_with fail
          go_still_tail 10, (by kernel_rfl)
          change wpList _ _ _ _ _ wr.drew
          have hown1 := hown.drew
          have hbel1 := hbel.drew
          clear hown hbel ca da
          generalize wr.drew = wd at f1 hown1 hbel1
          go_wp2_with fail
          (with_reducible refine f1.out.mono ?_); rintro e w2 ⟨rfl, hb2⟩
          have hown2 := own_below hown1 hb2
          have hbel2 := hbel1.trans (hb2.mono (by have := (hown1.lt g rfl).1; have := (hown1.lt g rfl).2; omega))
          go_wp2
          go_roundg (l.length - (k + 1))
          case measure => omega
          case rel => exact ⟨k + 1, by omega, by omega, Nat.le_refl _, by go_num, hown2, hbel2, HK.out⟩
      · obtain rfl : k = l.length := by omega
        have HC := Lib.hid (Lib.compact_all l HA.out)
        have HO := Lib.hid hown
        clear hown HA
        go_wp2
        go_ret
        rw [HC.out]
        exact ⟨_, rfl, HO.out, hbel⟩
end Go.Proofs.YtanhnicfkghkbaaDoor
