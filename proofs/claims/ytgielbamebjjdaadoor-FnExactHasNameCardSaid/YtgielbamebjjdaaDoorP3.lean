/-
  Lists of values that stand for trees: plain lemmas.
  The program's type assertions at its seven types of terms (pointers).
  Contracts of (*impl.termReader).next and impl.readTerm.
  Owned rows of strings: plain lemmas.
  The contract of impl.NameIn.
-/
import Derived.Test.YtgielbamebjjdaaDoorP2
import Derived.Test.YtgielbamebjjdaaDoorP1
import Derived.Test.YtgielbamebjjdaaDoorTAll
import Derived.Test.YtgielbamebjjdaaDoorListsP
import Derived.Test.YtgielbamebjjdaaDoorE3
namespace Go.Proofs.YtgielbamebjjdaaDoor
set_option maxRecDepth 100000
open Go.ChangeShapes Go.WideShapes Go.ChangeAt Go.RowKit
set_option linter.unusedSimpArgs false

theorem IReps.at : ∀ {W : World} {ts : List Tm} {vs : List Value}, IReps W ts vs → ∀ k (h : k < ts.length) (h2 : k < vs.length), IRep W ts[k] vs[k]
  | _, [], [], _, _, h, _ => by simp at h
  | _, _ :: _, _ :: _, ⟨h1, _⟩, 0, _, _ => h1
  | _, _ :: _, _ :: _, ⟨_, h2⟩, k + 1, h, h3 => IReps.at h2 k (by simpa using h) (by simpa using h3)
  | _, [], _ :: _, h, _, _, _ => h.elim
  | _, _ :: _, [], h, _, _, _ => h.elim
theorem IReps.below {W W' : World} (hb : Below W.heap.size W W') {ts : List Tm} {vs : List Value} (h : IReps W ts vs) : IReps W' ts vs := h.grown (grownBy_of_below hb none) (NoStr.none W)
end Go.Proofs.YtgielbamebjjdaaDoor

namespace Go.Proofs.YtgielbamebjjdaaDoor
set_option maxRecDepth 100000
open Go.ChangeShapes Go.WideShapes Go.ChangeAt Go.RowKit
set_option linter.unusedSimpArgs false

theorem taVar (T : TypeId) (v : Value) (w : World) : (Instr.typeAssert (.iface T v) 27 57 true).run Tryd.prog w = .ok (if T = 57 then .tuple #[v, .bool true] else .tuple #[.pointer none, .bool false]) w := by
  simp [Instr.typeAssert, run_underlying Tryd.underlying57, Tryd.zeroValue57]
  split <;> simp
theorem taSort (T : TypeId) (v : Value) (w : World) : (Instr.typeAssert (.iface T v) 27 61 true).run Tryd.prog w = .ok (if T = 61 then .tuple #[v, .bool true] else .tuple #[.pointer none, .bool false]) w := by
  simp [Instr.typeAssert, run_underlying Tryd.underlying61, Tryd.zeroValue61]
  split <;> simp
theorem taConst (T : TypeId) (v : Value) (w : World) : (Instr.typeAssert (.iface T v) 27 45 true).run Tryd.prog w = .ok (if T = 45 then .tuple #[v, .bool true] else .tuple #[.pointer none, .bool false]) w := by
  simp [Instr.typeAssert, run_underlying Tryd.underlying45, Tryd.zeroValue45]
  split <;> simp
theorem taApp (T : TypeId) (v : Value) (w : World) : (Instr.typeAssert (.iface T v) 27 67 true).run Tryd.prog w = .ok (if T = 67 then .tuple #[v, .bool true] else .tuple #[.pointer none, .bool false]) w := by
  simp [Instr.typeAssert, run_underlying Tryd.underlying67, Tryd.zeroValue67]
  split <;> simp
theorem taLam (T : TypeId) (v : Value) (w : World) : (Instr.typeAssert (.iface T v) 27 70 true).run Tryd.prog w = .ok (if T = 70 then .tuple #[v, .bool true] else .tuple #[.pointer none, .bool false]) w := by
  simp [Instr.typeAssert, run_underlying Tryd.underlying70, Tryd.zeroValue70]
  split <;> simp
theorem taPi (T : TypeId) (v : Value) (w : World) : (Instr.typeAssert (.iface T v) 27 73 true).run Tryd.prog w = .ok (if T = 73 then .tuple #[v, .bool true] else .tuple #[.pointer none, .bool false]) w := by
  simp [Instr.typeAssert, run_underlying Tryd.underlying73, Tryd.zeroValue73]
  split <;> simp
theorem taLet (T : TypeId) (v : Value) (w : World) : (Instr.typeAssert (.iface T v) 27 76 true).run Tryd.prog w = .ok (if T = 76 then .tuple #[v, .bool true] else .tuple #[.pointer none, .bool false]) w := by
  simp [Instr.typeAssert, run_underlying Tryd.underlying76, Tryd.zeroValue76]
  split <;> simp
end Go.Proofs.YtgielbamebjjdaaDoor

namespace Go.Proofs.YtgielbamebjjdaaDoor
set_option maxRecDepth 100000
open Go.ChangeShapes Go.WideShapes Go.ChangeAt Go.RowKit
set_option linter.unusedSimpArgs false

theorem tat_nil {t : Tm} {r : List UInt8} : ¬ Tat [] t r := by
  rintro ⟨_, h⟩
  have h1 := congrArg List.length h
  have := t.bytes_pos
  simp only [List.length_nil, List.length_append] at h1
  omega
theorem NextPost.at {N : Nat} {l l' : List UInt8} {W W1 : World} {e : Ending} {W' : World} (h : NextPost N l W1 e W') (hg : W.grownBy W1 (some N)) (hl : l = l') : NextPost N l' W e W' := by
  subst hl
  exact ⟨hg.trans h.1, h.2⟩

set_option maxHeartbeats 4000000 in
theorem implNext {w0 : World} (hv : Vars w0) : ∀ n, NextAll w0 n := by
  intro n
  induction n with
  | zero =>
    intro s N W hs hm h hb hN
    have hs0 : s = ⟨#[]⟩ := str_eq (List.eq_nil_of_length_eq_zero (by show s.data.toList.length = 0; have : s.data.toList.length = s.size := rfl; omega))
    subst hs0
    have c0 : W.cell? ⟨N, 0, none⟩ = some (.string ⟨#[]⟩) := h.cellAt 0 (by omega)
    have HR := Lib.hid h
    clear h
    go_enter Tryd.func12, Tryd.ntmps12
    go_wp2
    go_ret2
    exact NextPost.no (World.grownBy.refl _ _) (fun _ _ => tat_nil) HR.out
  | succ n ih =>
    intro s N W hs hm h hb hN
    have hls : s.data.toList.length = s.size := rfl
    have c0 : W.cell? ⟨N, 0, none⟩ = some (.string s) := h.cellAt 0 (by omega)
    have z0 : W.frozen? ⟨N, 0, none⟩ = false := h.frozenAt 0
    by_cases hlt : 0 < s.size
    rotate_left
    · have hs0 : s = ⟨#[]⟩ := str_eq (List.eq_nil_of_length_eq_zero (by show s.data.toList.length = 0; omega))
      subst hs0
      have HR := Lib.hid h
      clear h hls
      go_enter Tryd.func12, Tryd.ntmps12
      go_wp2
      go_ret2
      exact NextPost.no (World.grownBy.refl _ _) (fun _ _ => tat_nil) HR.out
    · obtain ⟨h1, hg1⟩ := h.put (s.extract 1 s.size)
      have hl : Hid (s[0] :: (s.extract 1 s.size).data.toList = s.data.toList) := by
        rw [Hid, ext_dropC]
        have : s.data.toList = s.data.toList[0] :: s.data.toList.drop 1 := by
          rw [← List.drop_eq_getElem_cons (by omega), List.drop_zero]
        exact this.symm
      have hz : (s.extract 1 s.size).size = s.size - 1 := by rw [ByteArray.size_extract]; omega
      have HR1 := Lib.hid h1
      have HG1 := Lib.hid hg1
      have HB1 := Lib.hid (hb.grown hg1 hb.size (fun j hj => by injection hj with hj; omega))
      have hne : (s.toList == ([] : List UInt8)) = false := by
        rw [ByteArray.toList_eq]
        cases hh : s.data.toList with
        | nil => rw [hh] at hls; simp at hls; omega
        | cons _ _ => rfl
      have q1 : (0 : Int) ≤ 0 := by omega
      have q2 : (0 : Int) < (s.size : Int) := by omega
      have q3 : (1 : Int) ≤ (s.size : Int) := by omega
      have IH := Lib.hid ih
      have HV := Lib.hid hv
      clear h h1 hg1 hb ih hv hls
      by_cases k118 : s[0] = 118
      · have e118 : ((s[0].toNat : Int) == 118) = true := is_byte k118
        have f1 := Lib.hid (implVariable _ HR1.out (by omega) HV.out HB1.out hN)
        rw [← k118, hl.out] at f1
        clear k118 hl IH HV HB1
        go_enter Tryd.func12, Tryd.ntmps12
        go_wp2_with fail
        (with_reducible refine f1.out.mono ?_); rintro e w2 ⟨hg2, ⟨t, v, r, ht, rfl, hr2, hv2⟩ | ⟨hno, rfl, s2, hr2⟩⟩
        · have HG2 := Lib.hid (HG1.out.trans hg2)
          have HT := Lib.hid ht
          have HR2 := Lib.hid hr2
          have HV2 := Lib.hid hv2
          clear hg2 ht hr2 hv2
          go_wp2
          go_ret2
          exact NextPost.ok HG2.out HT.out HR2.out HV2.out
        · have HG2 := Lib.hid (HG1.out.trans hg2)
          have HT := Lib.hid hno
          have HR2 := Lib.hid hr2
          clear hg2 hno hr2
          go_wp2
          go_ret2
          exact NextPost.no HG2.out HT.out HR2.out
      have e118 : ((s[0].toNat : Int) == 118) = false := ne_byte k118
      by_cases k115 : s[0] = 115
      · have e115 : ((s[0].toNat : Int) == 115) = true := is_byte k115
        have f1 := Lib.hid (implSort _ HR1.out (by omega))
        rw [← k115, hl.out] at f1
        clear k115 hl IH HV HB1
        go_enter Tryd.func12, Tryd.ntmps12
        go_wp2_with fail
        (with_reducible refine f1.out.mono ?_); rintro e w2 ⟨hg2, ⟨t, v, r, ht, rfl, hr2, hv2⟩ | ⟨hno, rfl, s2, hr2⟩⟩
        · have HG2 := Lib.hid (HG1.out.trans hg2)
          have HT := Lib.hid ht
          have HR2 := Lib.hid hr2
          have HV2 := Lib.hid hv2
          clear hg2 ht hr2 hv2
          go_wp2
          go_ret2
          exact NextPost.ok HG2.out HT.out HR2.out HV2.out
        · have HG2 := Lib.hid (HG1.out.trans hg2)
          have HT := Lib.hid hno
          have HR2 := Lib.hid hr2
          clear hg2 hno hr2
          go_wp2
          go_ret2
          exact NextPost.no HG2.out HT.out HR2.out
      have e115 : ((s[0].toNat : Int) == 115) = false := ne_byte k115
      by_cases k99 : s[0] = 99
      · have e99 : ((s[0].toNat : Int) == 99) = true := is_byte k99
        have f1 := Lib.hid (implConstant _ HR1.out (by omega))
        rw [← k99, hl.out] at f1
        clear k99 hl IH HV HB1
        go_enter Tryd.func12, Tryd.ntmps12
        go_wp2_with fail
        (with_reducible refine f1.out.mono ?_); rintro e w2 ⟨hg2, ⟨t, v, r, ht, rfl, hr2, hv2⟩ | ⟨hno, rfl, s2, hr2⟩⟩
        · have HG2 := Lib.hid (HG1.out.trans hg2)
          have HT := Lib.hid ht
          have HR2 := Lib.hid hr2
          have HV2 := Lib.hid hv2
          clear hg2 ht hr2 hv2
          go_wp2
          go_ret2
          exact NextPost.ok HG2.out HT.out HR2.out HV2.out
        · have HG2 := Lib.hid (HG1.out.trans hg2)
          have HT := Lib.hid hno
          have HR2 := Lib.hid hr2
          clear hg2 hno hr2
          go_wp2
          go_ret2
          exact NextPost.no HG2.out HT.out HR2.out
      have e99 : ((s[0].toNat : Int) == 99) = false := ne_byte k99
      by_cases k64 : s[0] = 64
      · have e64 : ((s[0].toNat : Int) == 64) = true := is_byte k64
        have f1 := Lib.hid (implCompound IH.out 64 2 (.inl ⟨rfl, by decide⟩) _ (by omega) (by omega) HR1.out HB1.out hN)
        have e3 : (s[0].toNat : Int) = ((64 : UInt8).toNat : Int) := by rw [k64]
        rw [← e3] at f1
        have f2 := f1.out
        rw [show (64 : UInt8) :: (s.extract 1 s.size).data.toList = s.data.toList by rw [← k64]; exact hl.out, show ((2 : Nat) : Int) = 2 from rfl] at f2
        clear f1
        have f1 := Lib.hid f2
        clear f2 e3
        clear k64 hl IH HV HB1
        go_enter Tryd.func12, Tryd.ntmps12
        go_wp2_with fail
        (with_reducible refine f1.out.mono ?_); rintro e w2 ⟨hg2, ⟨t, v, r, ht, rfl, hr2, hv2⟩ | ⟨hno, rfl, s2, hr2⟩⟩
        · have HG2 := Lib.hid (HG1.out.trans hg2)
          have HT := Lib.hid ht
          have HR2 := Lib.hid hr2
          have HV2 := Lib.hid hv2
          clear hg2 ht hr2 hv2
          go_wp2
          go_ret2
          exact NextPost.ok HG2.out HT.out HR2.out HV2.out
        · have HG2 := Lib.hid (HG1.out.trans hg2)
          have HT := Lib.hid hno
          have HR2 := Lib.hid hr2
          clear hg2 hno hr2
          go_wp2
          go_ret2
          exact NextPost.no HG2.out HT.out HR2.out
      have e64 : ((s[0].toNat : Int) == 64) = false := ne_byte k64
      by_cases k108 : s[0] = 108
      · have e108 : ((s[0].toNat : Int) == 108) = true := is_byte k108
        have f1 := Lib.hid (implCompound IH.out 108 2 (.inl ⟨rfl, by decide⟩) _ (by omega) (by omega) HR1.out HB1.out hN)
        have e3 : (s[0].toNat : Int) = ((108 : UInt8).toNat : Int) := by rw [k108]
        rw [← e3] at f1
        have f2 := f1.out
        rw [show (108 : UInt8) :: (s.extract 1 s.size).data.toList = s.data.toList by rw [← k108]; exact hl.out, show ((2 : Nat) : Int) = 2 from rfl] at f2
        clear f1
        have f1 := Lib.hid f2
        clear f2 e3
        clear k108 hl IH HV HB1
        go_enter Tryd.func12, Tryd.ntmps12
        go_wp2_with fail
        (with_reducible refine f1.out.mono ?_); rintro e w2 ⟨hg2, ⟨t, v, r, ht, rfl, hr2, hv2⟩ | ⟨hno, rfl, s2, hr2⟩⟩
        · have HG2 := Lib.hid (HG1.out.trans hg2)
          have HT := Lib.hid ht
          have HR2 := Lib.hid hr2
          have HV2 := Lib.hid hv2
          clear hg2 ht hr2 hv2
          go_wp2
          go_ret2
          exact NextPost.ok HG2.out HT.out HR2.out HV2.out
        · have HG2 := Lib.hid (HG1.out.trans hg2)
          have HT := Lib.hid hno
          have HR2 := Lib.hid hr2
          clear hg2 hno hr2
          go_wp2
          go_ret2
          exact NextPost.no HG2.out HT.out HR2.out
      have e108 : ((s[0].toNat : Int) == 108) = false := ne_byte k108
      by_cases k112 : s[0] = 112
      · have e112 : ((s[0].toNat : Int) == 112) = true := is_byte k112
        have f1 := Lib.hid (implCompound IH.out 112 2 (.inl ⟨rfl, by decide⟩) _ (by omega) (by omega) HR1.out HB1.out hN)
        have e3 : (s[0].toNat : Int) = ((112 : UInt8).toNat : Int) := by rw [k112]
        rw [← e3] at f1
        have f2 := f1.out
        rw [show (112 : UInt8) :: (s.extract 1 s.size).data.toList = s.data.toList by rw [← k112]; exact hl.out, show ((2 : Nat) : Int) = 2 from rfl] at f2
        clear f1
        have f1 := Lib.hid f2
        clear f2 e3
        clear k112 hl IH HV HB1
        go_enter Tryd.func12, Tryd.ntmps12
        go_wp2_with fail
        (with_reducible refine f1.out.mono ?_); rintro e w2 ⟨hg2, ⟨t, v, r, ht, rfl, hr2, hv2⟩ | ⟨hno, rfl, s2, hr2⟩⟩
        · have HG2 := Lib.hid (HG1.out.trans hg2)
          have HT := Lib.hid ht
          have HR2 := Lib.hid hr2
          have HV2 := Lib.hid hv2
          clear hg2 ht hr2 hv2
          go_wp2
          go_ret2
          exact NextPost.ok HG2.out HT.out HR2.out HV2.out
        · have HG2 := Lib.hid (HG1.out.trans hg2)
          have HT := Lib.hid hno
          have HR2 := Lib.hid hr2
          clear hg2 hno hr2
          go_wp2
          go_ret2
          exact NextPost.no HG2.out HT.out HR2.out
      have e112 : ((s[0].toNat : Int) == 112) = false := ne_byte k112
      by_cases k116 : s[0] = 116
      · have e116 : ((s[0].toNat : Int) == 116) = true := is_byte k116
        have f1 := Lib.hid (implCompound IH.out 116 3 (.inr ⟨rfl, rfl⟩) _ (by omega) (by omega) HR1.out HB1.out hN)
        have e3 : (s[0].toNat : Int) = ((116 : UInt8).toNat : Int) := by rw [k116]
        rw [← e3] at f1
        have f2 := f1.out
        rw [show (116 : UInt8) :: (s.extract 1 s.size).data.toList = s.data.toList by rw [← k116]; exact hl.out, show ((3 : Nat) : Int) = 3 from rfl] at f2
        clear f1
        have f1 := Lib.hid f2
        clear f2 e3
        clear k116 hl IH HV HB1
        go_enter Tryd.func12, Tryd.ntmps12
        go_wp2_with fail
        (with_reducible refine f1.out.mono ?_); rintro e w2 ⟨hg2, ⟨t, v, r, ht, rfl, hr2, hv2⟩ | ⟨hno, rfl, s2, hr2⟩⟩
        · have HG2 := Lib.hid (HG1.out.trans hg2)
          have HT := Lib.hid ht
          have HR2 := Lib.hid hr2
          have HV2 := Lib.hid hv2
          clear hg2 ht hr2 hv2
          go_wp2
          go_ret2
          exact NextPost.ok HG2.out HT.out HR2.out HV2.out
        · have HG2 := Lib.hid (HG1.out.trans hg2)
          have HT := Lib.hid hno
          have HR2 := Lib.hid hr2
          clear hg2 hno hr2
          go_wp2
          go_ret2
          exact NextPost.no HG2.out HT.out HR2.out
      have e116 : ((s[0].toNat : Int) == 116) = false := ne_byte k116
      have HX : Hid (∀ t r, ¬ Tat s.data.toList t r) := fun t r ht => by
        rw [← hl.out] at ht
        have hk := tat_kind ht
        rcases kind_cases t with h | h | h | h | h | h | h
        · exact k118 (hk.trans h)
        · exact k115 (hk.trans h)
        · exact k99 (hk.trans h)
        · exact k64 (hk.trans h)
        · exact k108 (hk.trans h)
        · exact k112 (hk.trans h)
        · exact k116 (hk.trans h)
      clear k118 k115 k99 k64 k108 k112 k116 hl IH HV HB1
      go_enter Tryd.func12, Tryd.ntmps12
      go_wp2
      go_ret2
      exact NextPost.no HG1.out HX.out HR1.out

/-- What readTerm answers. -/
def ReadAns (l : List UInt8) (W : World) (e : Ending) (W' : World) : Prop :=
  Below W.heap.size W W' ∧ ((∃ t v, IsTm l t ∧ e = .returned (.tuple #[v, .bool true]) ∧ IRep W' t v) ∨ ((∀ t, ¬ IsTm l t) ∧ e = .returned (.tuple #[.nilIface, .bool false])))
set_option maxHeartbeats 1000000 in
theorem implReadTerm (s : ByteArray) (W : World) (hv : Vars W) (hs : s.size ≤ maxLen) :
    Calls Tryd.prog 8 #[.string s] W (ReadAns s.data.toList W) := by
  have hls : s.data.toList.length = s.size := rfl
  unfold maxLen at hs
  by_cases h1 : s.size ≤ 2000
  rotate_left
  · have HX : Hid (∀ t, ¬ IsTm s.data.toList t) := fun t ht => by have := ht.2.2; omega
    have d1 : decide ((2000 : Int) < (s.size : Int)) = true := decide_eq_true (by omega)
    clear hv hls
    go_enter Tryd.func8, Tryd.ntmps8
    go_wp2
    go_ret2
    exact ⟨Below.refl _ _, .inr ⟨HX.out, rfl⟩⟩
  have d1 : decide ((2000 : Int) < (s.size : Int)) = false := decide_eq_false (by omega)
  have hb := Below.alloc (Below.refl W.heap.size W) (Nat.le_refl _) (.cells #[.string s] 37)
  have hr : RB W.heap.size s (W.alloc (.cells #[.string s] 37)) := World.ownsRow_lit W #[.string s] 1 (Nat.le_refl _) (by decide) (by simp)
  have HT : Hid (∀ t, IsTm s.data.toList t ↔ Tat s.data.toList t []) := isTm_tat (by omega)
  have f1 := Lib.hid (implNext hv s.size s W.heap.size _ (Nat.le_refl _) h1 hr hb (Nat.le_refl _))
  have HB := Lib.hid hb
  clear hv hls hb hr
  go_enter Tryd.func8, Tryd.ntmps8
  go_wp2_with fail
  (with_reducible refine f1.out.mono ?_); rintro e w2 ⟨hg2, ⟨t, v, r, ht, rfl, hr2, hv2⟩ | ⟨hno, rfl, s2, hr2⟩⟩
  · have HB2 := Lib.hid (HB.out.grown hg2 HB.out.size (fun k hk => by injection hk with hk; omega))
    have c0 : w2.cell? ⟨W.heap.size, 0, none⟩ = some (.string ⟨r.toArray⟩) := hr2.cellAt 0 (by omega)
    have HV2 := Lib.hid hv2
    cases r with
    | nil =>
      have HY := Lib.hid ((HT.out t).2 ht)
      clear hg2 hr2 hv2 ht HT HB
      go_wp2
      go_ret2
      exact ⟨HB2.out, .inl ⟨t, v, HY.out, rfl, HV2.out⟩⟩
    | cons x r =>
      have HY : Hid (∀ t, ¬ IsTm s.data.toList t) := fun u hu => by
        have := ht.uniq ((HT.out u).1 hu)
        cases this.2
      clear hg2 hr2 hv2 ht HT HB
      go_wp2
      go_ret2
      exact ⟨HB2.out, .inr ⟨HY.out, rfl⟩⟩
  · have HB2 := Lib.hid (HB.out.grown hg2 HB.out.size (fun k hk => by injection hk with hk; omega))
    have HY : Hid (∀ t, ¬ IsTm s.data.toList t) := fun u hu => hno u [] ((HT.out u).1 hu)
    clear hg2 hr2 hno HT HB
    go_wp2
    go_ret2
    exact ⟨HB2.out, .inr ⟨HY.out, rfl⟩⟩
end Go.Proofs.YtgielbamebjjdaaDoor

namespace Go.Proofs.YtgielbamebjjdaaDoor
set_option maxRecDepth 100000
open Go.ChangeShapes Go.WideShapes Go.ChangeAt Go.RowKit

theorem own_nil_orB {w : World} {b n : Nat} {v : Value} {xs : List Value} (h : w.ownsRow b 9 1 v n xs) (h0 : n = 0) : ∃ a cap, v = .slice a 0 cap := by
  subst h0
  rcases h.2 with ⟨rfl, _⟩ | ⟨g, cap, cur, rfl, _⟩
  · exact ⟨_, _, rfl⟩
  · exact ⟨_, _, rfl⟩
theorem one_map' (l : List (List UInt8)) : ∀ u ∈ l.map sv, u.oneCell' = true := by
  intro u hu
  obtain ⟨x, _, rfl⟩ := List.mem_map.1 hu
  rfl
theorem own_slice {w : World} {b n : Nat} {v : Value} {xs : List Value} (h : w.ownsRow b 9 1 v n xs) : ∃ a cap, v = .slice a n cap := by
  rcases h.2 with ⟨rfl, rfl⟩ | ⟨g, cap, cur, rfl, _⟩
  · exact ⟨_, _, rfl⟩
  · exact ⟨_, _, rfl⟩
end Go.Proofs.YtgielbamebjjdaaDoor

namespace Go.Proofs.YtgielbamebjjdaaDoor
set_option maxRecDepth 100000
open Go.ChangeShapes Go.WideShapes Go.ChangeAt Go.RowKit

theorem containsS_inL (l : List (List UInt8)) (y : List UInt8) (n : Nat) (hn : n = l.length) : Lib.containsS ((l.map fun x => (⟨x.toArray⟩ : ByteArray)).take n) ⟨y.toArray⟩ = inL l y := by
  subst hn
  rw [Bool.eq_iff_iff, Lib.containsS_iff, List.take_of_length_le (by simp)]
  simp only [inL, decide_eq_true_eq, List.mem_map]
  constructor
  · rintro ⟨x, hx, e⟩
    have : x = y := by simpa using e
    rw [← this]; exact hx
  · intro h; exact ⟨y, h, rfl⟩
theorem implNameIn {w : World} {b : Nat} {v : Value} {l : List (List UInt8)} (h : w.ownsRow b 9 1 v l.length (l.map sv)) (y : List UInt8) (hn : l.length ≤ 1048576) :
    Calls Tryd.prog 13 #[v, .string ⟨y.toArray⟩] w fun e w' => e = .returned (.bool (inL l y)) ∧ w' = w := by
  rcases Nat.eq_zero_or_pos l.length with h0 | hp
  · obtain ⟨a, cap, rfl⟩ := own_nil_or h h0
    obtain rfl : l = [] := List.length_eq_zero_iff.1 h0
    have f1 := Lib.hid fun W => Tryd.slices_Contains_string_empty a cap ⟨y.toArray⟩ W
    clear h h0 hn
    go_enter Tryd.func13, Tryd.ntmps13
    go_wp2_with fail
    (with_reducible refine (f1.out _).mono ?_); rintro e w1 ⟨rfl, rfl⟩
    go_wp2
    go_ret
    exact ⟨rfl, rfl⟩
  · obtain ⟨g, cap, rfl, _, _⟩ := h.form hp
    have f1 := Lib.hid (Tryd.slices_Contains_string g 0 l.length cap (l.map fun x => (⟨x.toArray⟩ : ByteArray)) ⟨y.toArray⟩ w (by simp) (by omega) (fun j hj => by
      have hj2 : j < l.length := by simpa using hj
      rw [Nat.zero_add, h.cellAt j (by omega)]
      simp [hj2, sv]))
    rw [containsS_inL l y _ rfl] at f1
    clear h
    go_enter Tryd.func13, Tryd.ntmps13
    go_wp2_with fail
    (with_reducible refine f1.out.mono ?_); rintro e w1 ⟨rfl, rfl⟩
    go_wp2
    go_ret
    exact ⟨rfl, rfl⟩

end Go.Proofs.YtgielbamebjjdaaDoor
