/-
  Contracts of (*impl.termReader).next and impl.readTerm.
  The program's type assertions at its seven types of terms (pointers).
  Contracts of impl.partsOf and impl.sizeOf.
  The contract of impl.openOf.
  Contracts of impl.TermOk, TermKind, TermSize and TermOpen.
-/
import Derived.Test.YtnklajagefedmaaDoorM2
import Derived.Test.YtnklajagefedmaaDoorTAll
import Derived.Test.YtnklajagefedmaaDoorM1
import Derived.Lib.MinMax
import Derived.Deep.RegionHeld3
namespace Go.Proofs.YtnklajagefedmaaDoor
set_option maxRecDepth 100000
open Go.ChangeShapes Go.WideShapes Go.ChangeAt Go.RowKit
set_option linter.unusedSimpArgs false

theorem tat_nil {t : Tm} {r : List UInt8} : ¬ Tat [] t r := by
  rintro ⟨_, h⟩
  have h1 := congrArg List.length h
  have := t.bytes_pos
  simp only [List.length_nil, List.length_append] at h1
  omega
theorem NextPost.at {N : Nat} {l l' : List UInt8} {W W1 : World} {e : Ending} {W' : World} (h : NextPost N l W1 e W') (hg : W.grownBy W1 (some N)) (hl : l = l') : NextPost N l' W e W' := by
  subst hl
  exact ⟨hg.trans h.1, h.2⟩

set_option maxHeartbeats 4000000 in
theorem implNext {w0 : World} (hv : Vars w0) : ∀ n, NextAll w0 n := by
  intro n
  induction n with
  | zero =>
    intro s N W hs hm h hb hN
    have hs0 : s = ⟨#[]⟩ := str_eq (List.eq_nil_of_length_eq_zero (by show s.data.toList.length = 0; have : s.data.toList.length = s.size := rfl; omega))
    subst hs0
    have c0 : W.cell? ⟨N, 0, none⟩ = some (.string ⟨#[]⟩) := h.cellAt 0 (by omega)
    have HR := Lib.hid h
    clear h
    go_enter Tryd.func74, Tryd.ntmps74
    go_wp2
    go_ret2
    exact NextPost.no (World.grownBy.refl _ _) (fun _ _ => tat_nil) HR.out
  | succ n ih =>
    intro s N W hs hm h hb hN
    have hls : s.data.toList.length = s.size := rfl
    have c0 : W.cell? ⟨N, 0, none⟩ = some (.string s) := h.cellAt 0 (by omega)
    have z0 : W.frozen? ⟨N, 0, none⟩ = false := h.frozenAt 0
    by_cases hlt : 0 < s.size
    rotate_left
    · have hs0 : s = ⟨#[]⟩ := str_eq (List.eq_nil_of_length_eq_zero (by show s.data.toList.length = 0; omega))
      subst hs0
      have HR := Lib.hid h
      clear h hls
      go_enter Tryd.func74, Tryd.ntmps74
      go_wp2
      go_ret2
      exact NextPost.no (World.grownBy.refl _ _) (fun _ _ => tat_nil) HR.out
    · obtain ⟨h1, hg1⟩ := h.put (s.extract 1 s.size)
      have hl : Hid (s[0] :: (s.extract 1 s.size).data.toList = s.data.toList) := by
        rw [Hid, ext_dropC]
        have : s.data.toList = s.data.toList[0] :: s.data.toList.drop 1 := by
          rw [← List.drop_eq_getElem_cons (by omega), List.drop_zero]
        exact this.symm
      have hz : (s.extract 1 s.size).size = s.size - 1 := by rw [ByteArray.size_extract]; omega
      have HR1 := Lib.hid h1
      have HG1 := Lib.hid hg1
      have HB1 := Lib.hid (hb.grown hg1 hb.size (fun j hj => by injection hj with hj; omega))
      have hne : (s.toList == ([] : List UInt8)) = false := by
        rw [ByteArray.toList_eq]
        cases hh : s.data.toList with
        | nil => rw [hh] at hls; simp at hls; omega
        | cons _ _ => rfl
      have q1 : (0 : Int) ≤ 0 := by omega
      have q2 : (0 : Int) < (s.size : Int) := by omega
      have q3 : (1 : Int) ≤ (s.size : Int) := by omega
      have IH := Lib.hid ih
      have HV := Lib.hid hv
      clear h h1 hg1 hb ih hv hls
      by_cases k118 : s[0] = 118
      · have e118 : ((s[0].toNat : Int) == 118) = true := is_byte k118
        have f1 := Lib.hid (implVariable _ HR1.out (by omega) HV.out HB1.out hN)
        rw [← k118, hl.out] at f1
        clear k118 hl IH HV HB1
        go_enter Tryd.func74, Tryd.ntmps74
        go_wp2_with fail
        (with_reducible refine f1.out.mono ?_); rintro e w2 ⟨hg2, ⟨t, v, r, ht, rfl, hr2, hv2⟩ | ⟨hno, rfl, s2, hr2⟩⟩
        · have HG2 := Lib.hid (HG1.out.trans hg2)
          have HT := Lib.hid ht
          have HR2 := Lib.hid hr2
          have HV2 := Lib.hid hv2
          clear hg2 ht hr2 hv2
          go_wp2
          go_ret2
          exact NextPost.ok HG2.out HT.out HR2.out HV2.out
        · have HG2 := Lib.hid (HG1.out.trans hg2)
          have HT := Lib.hid hno
          have HR2 := Lib.hid hr2
          clear hg2 hno hr2
          go_wp2
          go_ret2
          exact NextPost.no HG2.out HT.out HR2.out
      have e118 : ((s[0].toNat : Int) == 118) = false := ne_byte k118
      by_cases k115 : s[0] = 115
      · have e115 : ((s[0].toNat : Int) == 115) = true := is_byte k115
        have f1 := Lib.hid (implSort _ HR1.out (by omega))
        rw [← k115, hl.out] at f1
        clear k115 hl IH HV HB1
        go_enter Tryd.func74, Tryd.ntmps74
        go_wp2_with fail
        (with_reducible refine f1.out.mono ?_); rintro e w2 ⟨hg2, ⟨t, v, r, ht, rfl, hr2, hv2⟩ | ⟨hno, rfl, s2, hr2⟩⟩
        · have HG2 := Lib.hid (HG1.out.trans hg2)
          have HT := Lib.hid ht
          have HR2 := Lib.hid hr2
          have HV2 := Lib.hid hv2
          clear hg2 ht hr2 hv2
          go_wp2
          go_ret2
          exact NextPost.ok HG2.out HT.out HR2.out HV2.out
        · have HG2 := Lib.hid (HG1.out.trans hg2)
          have HT := Lib.hid hno
          have HR2 := Lib.hid hr2
          clear hg2 hno hr2
          go_wp2
          go_ret2
          exact NextPost.no HG2.out HT.out HR2.out
      have e115 : ((s[0].toNat : Int) == 115) = false := ne_byte k115
      by_cases k99 : s[0] = 99
      · have e99 : ((s[0].toNat : Int) == 99) = true := is_byte k99
        have f1 := Lib.hid (implConstant _ HR1.out (by omega))
        rw [← k99, hl.out] at f1
        clear k99 hl IH HV HB1
        go_enter Tryd.func74, Tryd.ntmps74
        go_wp2_with fail
        (with_reducible refine f1.out.mono ?_); rintro e w2 ⟨hg2, ⟨t, v, r, ht, rfl, hr2, hv2⟩ | ⟨hno, rfl, s2, hr2⟩⟩
        · have HG2 := Lib.hid (HG1.out.trans hg2)
          have HT := Lib.hid ht
          have HR2 := Lib.hid hr2
          have HV2 := Lib.hid hv2
          clear hg2 ht hr2 hv2
          go_wp2
          go_ret2
          exact NextPost.ok HG2.out HT.out HR2.out HV2.out
        · have HG2 := Lib.hid (HG1.out.trans hg2)
          have HT := Lib.hid hno
          have HR2 := Lib.hid hr2
          clear hg2 hno hr2
          go_wp2
          go_ret2
          exact NextPost.no HG2.out HT.out HR2.out
      have e99 : ((s[0].toNat : Int) == 99) = false := ne_byte k99
      by_cases k64 : s[0] = 64
      · have e64 : ((s[0].toNat : Int) == 64) = true := is_byte k64
        have f1 := Lib.hid (implCompound IH.out 64 2 (.inl ⟨rfl, by decide⟩) _ (by omega) (by omega) HR1.out HB1.out hN)
        have e3 : (s[0].toNat : Int) = ((64 : UInt8).toNat : Int) := by rw [k64]
        rw [← e3] at f1
        have f2 := f1.out
        rw [show (64 : UInt8) :: (s.extract 1 s.size).data.toList = s.data.toList by rw [← k64]; exact hl.out, show ((2 : Nat) : Int) = 2 from rfl] at f2
        clear f1
        have f1 := Lib.hid f2
        clear f2 e3
        clear k64 hl IH HV HB1
        go_enter Tryd.func74, Tryd.ntmps74
        go_wp2_with fail
        (with_reducible refine f1.out.mono ?_); rintro e w2 ⟨hg2, ⟨t, v, r, ht, rfl, hr2, hv2⟩ | ⟨hno, rfl, s2, hr2⟩⟩
        · have HG2 := Lib.hid (HG1.out.trans hg2)
          have HT := Lib.hid ht
          have HR2 := Lib.hid hr2
          have HV2 := Lib.hid hv2
          clear hg2 ht hr2 hv2
          go_wp2
          go_ret2
          exact NextPost.ok HG2.out HT.out HR2.out HV2.out
        · have HG2 := Lib.hid (HG1.out.trans hg2)
          have HT := Lib.hid hno
          have HR2 := Lib.hid hr2
          clear hg2 hno hr2
          go_wp2
          go_ret2
          exact NextPost.no HG2.out HT.out HR2.out
      have e64 : ((s[0].toNat : Int) == 64) = false := ne_byte k64
      by_cases k108 : s[0] = 108
      · have e108 : ((s[0].toNat : Int) == 108) = true := is_byte k108
        have f1 := Lib.hid (implCompound IH.out 108 2 (.inl ⟨rfl, by decide⟩) _ (by omega) (by omega) HR1.out HB1.out hN)
        have e3 : (s[0].toNat : Int) = ((108 : UInt8).toNat : Int) := by rw [k108]
        rw [← e3] at f1
        have f2 := f1.out
        rw [show (108 : UInt8) :: (s.extract 1 s.size).data.toList = s.data.toList by rw [← k108]; exact hl.out, show ((2 : Nat) : Int) = 2 from rfl] at f2
        clear f1
        have f1 := Lib.hid f2
        clear f2 e3
        clear k108 hl IH HV HB1
        go_enter Tryd.func74, Tryd.ntmps74
        go_wp2_with fail
        (with_reducible refine f1.out.mono ?_); rintro e w2 ⟨hg2, ⟨t, v, r, ht, rfl, hr2, hv2⟩ | ⟨hno, rfl, s2, hr2⟩⟩
        · have HG2 := Lib.hid (HG1.out.trans hg2)
          have HT := Lib.hid ht
          have HR2 := Lib.hid hr2
          have HV2 := Lib.hid hv2
          clear hg2 ht hr2 hv2
          go_wp2
          go_ret2
          exact NextPost.ok HG2.out HT.out HR2.out HV2.out
        · have HG2 := Lib.hid (HG1.out.trans hg2)
          have HT := Lib.hid hno
          have HR2 := Lib.hid hr2
          clear hg2 hno hr2
          go_wp2
          go_ret2
          exact NextPost.no HG2.out HT.out HR2.out
      have e108 : ((s[0].toNat : Int) == 108) = false := ne_byte k108
      by_cases k112 : s[0] = 112
      · have e112 : ((s[0].toNat : Int) == 112) = true := is_byte k112
        have f1 := Lib.hid (implCompound IH.out 112 2 (.inl ⟨rfl, by decide⟩) _ (by omega) (by omega) HR1.out HB1.out hN)
        have e3 : (s[0].toNat : Int) = ((112 : UInt8).toNat : Int) := by rw [k112]
        rw [← e3] at f1
        have f2 := f1.out
        rw [show (112 : UInt8) :: (s.extract 1 s.size).data.toList = s.data.toList by rw [← k112]; exact hl.out, show ((2 : Nat) : Int) = 2 from rfl] at f2
        clear f1
        have f1 := Lib.hid f2
        clear f2 e3
        clear k112 hl IH HV HB1
        go_enter Tryd.func74, Tryd.ntmps74
        go_wp2_with fail
        (with_reducible refine f1.out.mono ?_); rintro e w2 ⟨hg2, ⟨t, v, r, ht, rfl, hr2, hv2⟩ | ⟨hno, rfl, s2, hr2⟩⟩
        · have HG2 := Lib.hid (HG1.out.trans hg2)
          have HT := Lib.hid ht
          have HR2 := Lib.hid hr2
          have HV2 := Lib.hid hv2
          clear hg2 ht hr2 hv2
          go_wp2
          go_ret2
          exact NextPost.ok HG2.out HT.out HR2.out HV2.out
        · have HG2 := Lib.hid (HG1.out.trans hg2)
          have HT := Lib.hid hno
          have HR2 := Lib.hid hr2
          clear hg2 hno hr2
          go_wp2
          go_ret2
          exact NextPost.no HG2.out HT.out HR2.out
      have e112 : ((s[0].toNat : Int) == 112) = false := ne_byte k112
      by_cases k116 : s[0] = 116
      · have e116 : ((s[0].toNat : Int) == 116) = true := is_byte k116
        have f1 := Lib.hid (implCompound IH.out 116 3 (.inr ⟨rfl, rfl⟩) _ (by omega) (by omega) HR1.out HB1.out hN)
        have e3 : (s[0].toNat : Int) = ((116 : UInt8).toNat : Int) := by rw [k116]
        rw [← e3] at f1
        have f2 := f1.out
        rw [show (116 : UInt8) :: (s.extract 1 s.size).data.toList = s.data.toList by rw [← k116]; exact hl.out, show ((3 : Nat) : Int) = 3 from rfl] at f2
        clear f1
        have f1 := Lib.hid f2
        clear f2 e3
        clear k116 hl IH HV HB1
        go_enter Tryd.func74, Tryd.ntmps74
        go_wp2_with fail
        (with_reducible refine f1.out.mono ?_); rintro e w2 ⟨hg2, ⟨t, v, r, ht, rfl, hr2, hv2⟩ | ⟨hno, rfl, s2, hr2⟩⟩
        · have HG2 := Lib.hid (HG1.out.trans hg2)
          have HT := Lib.hid ht
          have HR2 := Lib.hid hr2
          have HV2 := Lib.hid hv2
          clear hg2 ht hr2 hv2
          go_wp2
          go_ret2
          exact NextPost.ok HG2.out HT.out HR2.out HV2.out
        · have HG2 := Lib.hid (HG1.out.trans hg2)
          have HT := Lib.hid hno
          have HR2 := Lib.hid hr2
          clear hg2 hno hr2
          go_wp2
          go_ret2
          exact NextPost.no HG2.out HT.out HR2.out
      have e116 : ((s[0].toNat : Int) == 116) = false := ne_byte k116
      have HX : Hid (∀ t r, ¬ Tat s.data.toList t r) := fun t r ht => by
        rw [← hl.out] at ht
        have hk := tat_kind ht
        rcases kind_cases t with h | h | h | h | h | h | h
        · exact k118 (hk.trans h)
        · exact k115 (hk.trans h)
        · exact k99 (hk.trans h)
        · exact k64 (hk.trans h)
        · exact k108 (hk.trans h)
        · exact k112 (hk.trans h)
        · exact k116 (hk.trans h)
      clear k118 k115 k99 k64 k108 k112 k116 hl IH HV HB1
      go_enter Tryd.func74, Tryd.ntmps74
      go_wp2
      go_ret2
      exact NextPost.no HG1.out HX.out HR1.out

/-- What readTerm answers. -/
def ReadAns (l : List UInt8) (W : World) (e : Ending) (W' : World) : Prop :=
  Below W.heap.size W W' ∧ ((∃ t v, IsTm l t ∧ e = .returned (.tuple #[v, .bool true]) ∧ IRep W' t v) ∨ ((∀ t, ¬ IsTm l t) ∧ e = .returned (.tuple #[.nilIface, .bool false])))
set_option maxHeartbeats 1000000 in
theorem implReadTerm (s : ByteArray) (W : World) (hv : Vars W) (hs : s.size ≤ maxLen) :
    Calls Tryd.prog 48 #[.string s] W (ReadAns s.data.toList W) := by
  have hls : s.data.toList.length = s.size := rfl
  unfold maxLen at hs
  by_cases h1 : s.size ≤ 2000
  rotate_left
  · have HX : Hid (∀ t, ¬ IsTm s.data.toList t) := fun t ht => by have := ht.2.2; omega
    have d1 : decide ((2000 : Int) < (s.size : Int)) = true := decide_eq_true (by omega)
    clear hv hls
    go_enter Tryd.func48, Tryd.ntmps48
    go_wp2
    go_ret2
    exact ⟨Below.refl _ _, .inr ⟨HX.out, rfl⟩⟩
  have d1 : decide ((2000 : Int) < (s.size : Int)) = false := decide_eq_false (by omega)
  have hb := Below.alloc (Below.refl W.heap.size W) (Nat.le_refl _) (.cells #[.string s] 89)
  have hr : RB W.heap.size s (W.alloc (.cells #[.string s] 89)) := World.ownsRow_lit W #[.string s] 1 (Nat.le_refl _) (by decide) (by simp)
  have HT : Hid (∀ t, IsTm s.data.toList t ↔ Tat s.data.toList t []) := isTm_tat (by omega)
  have f1 := Lib.hid (implNext hv s.size s W.heap.size _ (Nat.le_refl _) h1 hr hb (Nat.le_refl _))
  have HB := Lib.hid hb
  clear hv hls hb hr
  go_enter Tryd.func48, Tryd.ntmps48
  go_wp2_with fail
  (with_reducible refine f1.out.mono ?_); rintro e w2 ⟨hg2, ⟨t, v, r, ht, rfl, hr2, hv2⟩ | ⟨hno, rfl, s2, hr2⟩⟩
  · have HB2 := Lib.hid (HB.out.grown hg2 HB.out.size (fun k hk => by injection hk with hk; omega))
    have c0 : w2.cell? ⟨W.heap.size, 0, none⟩ = some (.string ⟨r.toArray⟩) := hr2.cellAt 0 (by omega)
    have HV2 := Lib.hid hv2
    cases r with
    | nil =>
      have HY := Lib.hid ((HT.out t).2 ht)
      clear hg2 hr2 hv2 ht HT HB
      go_wp2
      go_ret2
      exact ⟨HB2.out, .inl ⟨t, v, HY.out, rfl, HV2.out⟩⟩
    | cons x r =>
      have HY : Hid (∀ t, ¬ IsTm s.data.toList t) := fun u hu => by
        have := ht.uniq ((HT.out u).1 hu)
        cases this.2
      clear hg2 hr2 hv2 ht HT HB
      go_wp2
      go_ret2
      exact ⟨HB2.out, .inr ⟨HY.out, rfl⟩⟩
  · have HB2 := Lib.hid (HB.out.grown hg2 HB.out.size (fun k hk => by injection hk with hk; omega))
    have HY : Hid (∀ t, ¬ IsTm s.data.toList t) := fun u hu => hno u [] ((HT.out u).1 hu)
    clear hg2 hr2 hno HT HB
    go_wp2
    go_ret2
    exact ⟨HB2.out, .inr ⟨HY.out, rfl⟩⟩
end Go.Proofs.YtnklajagefedmaaDoor

namespace Go.Proofs.YtnklajagefedmaaDoor
set_option maxRecDepth 100000
open Go.ChangeShapes Go.WideShapes Go.ChangeAt Go.RowKit
set_option linter.unusedSimpArgs false

theorem taVar (T : TypeId) (v : Value) (w : World) : (Instr.typeAssert (.iface T v) 51 65 true).run Tryd.prog w = .ok (if T = 65 then .tuple #[v, .bool true] else .tuple #[.pointer none, .bool false]) w := by
  simp [Instr.typeAssert, run_underlying Tryd.underlying65, Tryd.zeroValue65]
  split <;> simp
theorem taSort (T : TypeId) (v : Value) (w : World) : (Instr.typeAssert (.iface T v) 51 112 true).run Tryd.prog w = .ok (if T = 112 then .tuple #[v, .bool true] else .tuple #[.pointer none, .bool false]) w := by
  simp [Instr.typeAssert, run_underlying Tryd.underlying112, Tryd.zeroValue112]
  split <;> simp
theorem taConst (T : TypeId) (v : Value) (w : World) : (Instr.typeAssert (.iface T v) 51 58 true).run Tryd.prog w = .ok (if T = 58 then .tuple #[v, .bool true] else .tuple #[.pointer none, .bool false]) w := by
  simp [Instr.typeAssert, run_underlying Tryd.underlying58, Tryd.zeroValue58]
  split <;> simp
theorem taApp (T : TypeId) (v : Value) (w : World) : (Instr.typeAssert (.iface T v) 51 91 true).run Tryd.prog w = .ok (if T = 91 then .tuple #[v, .bool true] else .tuple #[.pointer none, .bool false]) w := by
  simp [Instr.typeAssert, run_underlying Tryd.underlying91, Tryd.zeroValue91]
  split <;> simp
theorem taLam (T : TypeId) (v : Value) (w : World) : (Instr.typeAssert (.iface T v) 51 94 true).run Tryd.prog w = .ok (if T = 94 then .tuple #[v, .bool true] else .tuple #[.pointer none, .bool false]) w := by
  simp [Instr.typeAssert, run_underlying Tryd.underlying94, Tryd.zeroValue94]
  split <;> simp
theorem taPi (T : TypeId) (v : Value) (w : World) : (Instr.typeAssert (.iface T v) 51 97 true).run Tryd.prog w = .ok (if T = 97 then .tuple #[v, .bool true] else .tuple #[.pointer none, .bool false]) w := by
  simp [Instr.typeAssert, run_underlying Tryd.underlying97, Tryd.zeroValue97]
  split <;> simp
theorem taLet (T : TypeId) (v : Value) (w : World) : (Instr.typeAssert (.iface T v) 51 100 true).run Tryd.prog w = .ok (if T = 100 then .tuple #[v, .bool true] else .tuple #[.pointer none, .bool false]) w := by
  simp [Instr.typeAssert, run_underlying Tryd.underlying100, Tryd.zeroValue100]
  split <;> simp
end Go.Proofs.YtnklajagefedmaaDoor

namespace Go.Proofs.YtnklajagefedmaaDoor
set_option maxRecDepth 100000
open Go.ChangeShapes Go.WideShapes Go.ChangeAt Go.RowKit
set_option linter.unusedSimpArgs false

theorem IReps.at : ∀ {W : World} {ts : List Tm} {vs : List Value}, IReps W ts vs → ∀ k (h : k < ts.length) (h2 : k < vs.length), IRep W ts[k] vs[k]
  | _, [], [], _, _, h, _ => by simp at h
  | _, _ :: _, _ :: _, ⟨h1, _⟩, 0, _, _ => h1
  | _, _ :: _, _ :: _, ⟨_, h2⟩, k + 1, h, h3 => IReps.at h2 k (by simpa using h) (by simpa using h3)
  | _, [], _ :: _, h, _, _, _ => h.elim
  | _, _ :: _, [], h, _, _, _ => h.elim
theorem IReps.below {W W' : World} (hb : Below W.heap.size W W') {ts : List Tm} {vs : List Value} (h : IReps W ts vs) : IReps W' ts vs := h.grown (grownBy_of_below hb none) (NoStr.none W)
/-- The parts' values in new memory. -/
def PartsAns (t : Tm) (W : World) (e : Ending) (W' : World) : Prop :=
  ∃ v vs, e = .returned v ∧ W'.ownsRow W.heap.size 51 1 v t.parts.length vs ∧ IReps W' t.parts vs ∧ Below W.heap.size W W'
set_option maxHeartbeats 2000000 in
theorem implPartsOf {t : Tm} {v : Value} {W : World} (h : IRep W t v) : Calls Tryd.prog 49 #[v] W (PartsAns t W) := by
  cases t with
  | var n =>
    obtain ⟨g, rfl, hg⟩ := h
    clear hg
    have aApp : ∀ v w, (Instr.typeAssert (.iface 65 v) 51 91 true).run Tryd.prog w = .ok (.tuple #[.pointer none, .bool false]) w := fun v w => by rw [taApp, if_neg (by decide)]
    have aLam : ∀ v w, (Instr.typeAssert (.iface 65 v) 51 94 true).run Tryd.prog w = .ok (.tuple #[.pointer none, .bool false]) w := fun v w => by rw [taLam, if_neg (by decide)]
    have aPi : ∀ v w, (Instr.typeAssert (.iface 65 v) 51 97 true).run Tryd.prog w = .ok (.tuple #[.pointer none, .bool false]) w := fun v w => by rw [taPi, if_neg (by decide)]
    have aLet : ∀ v w, (Instr.typeAssert (.iface 65 v) 51 100 true).run Tryd.prog w = .ok (.tuple #[.pointer none, .bool false]) w := fun v w => by rw [taLet, if_neg (by decide)]
    go_enter Tryd.func49, Tryd.ntmps49
    go_wp2
    go_ret
    exact ⟨_, [], rfl, World.ownsRow_nil _ _ _ _, trivial, Below.refl _ _⟩
  | sort n =>
    obtain ⟨g, rfl, hg⟩ := h
    clear hg
    have aApp : ∀ v w, (Instr.typeAssert (.iface 112 v) 51 91 true).run Tryd.prog w = .ok (.tuple #[.pointer none, .bool false]) w := fun v w => by rw [taApp, if_neg (by decide)]
    have aLam : ∀ v w, (Instr.typeAssert (.iface 112 v) 51 94 true).run Tryd.prog w = .ok (.tuple #[.pointer none, .bool false]) w := fun v w => by rw [taLam, if_neg (by decide)]
    have aPi : ∀ v w, (Instr.typeAssert (.iface 112 v) 51 97 true).run Tryd.prog w = .ok (.tuple #[.pointer none, .bool false]) w := fun v w => by rw [taPi, if_neg (by decide)]
    have aLet : ∀ v w, (Instr.typeAssert (.iface 112 v) 51 100 true).run Tryd.prog w = .ok (.tuple #[.pointer none, .bool false]) w := fun v w => by rw [taLet, if_neg (by decide)]
    go_enter Tryd.func49, Tryd.ntmps49
    go_wp2
    go_ret
    exact ⟨_, [], rfl, World.ownsRow_nil _ _ _ _, trivial, Below.refl _ _⟩
  | const n ls =>
    obtain ⟨g, u, rfl, hg, hu⟩ := h
    clear hu hg
    have aApp : ∀ v w, (Instr.typeAssert (.iface 58 v) 51 91 true).run Tryd.prog w = .ok (.tuple #[.pointer none, .bool false]) w := fun v w => by rw [taApp, if_neg (by decide)]
    have aLam : ∀ v w, (Instr.typeAssert (.iface 58 v) 51 94 true).run Tryd.prog w = .ok (.tuple #[.pointer none, .bool false]) w := fun v w => by rw [taLam, if_neg (by decide)]
    have aPi : ∀ v w, (Instr.typeAssert (.iface 58 v) 51 97 true).run Tryd.prog w = .ok (.tuple #[.pointer none, .bool false]) w := fun v w => by rw [taPi, if_neg (by decide)]
    have aLet : ∀ v w, (Instr.typeAssert (.iface 58 v) 51 100 true).run Tryd.prog w = .ok (.tuple #[.pointer none, .bool false]) w := fun v w => by rw [taLet, if_neg (by decide)]
    go_enter Tryd.func49, Tryd.ntmps49
    go_wp2
    go_ret
    exact ⟨_, [], rfl, World.ownsRow_nil _ _ _ _, trivial, Below.refl _ _⟩
  | app a b =>
    obtain ⟨g, x, y, rfl, hg, hx, hy⟩ := h
    have HX := Lib.hid hx
    have HY := Lib.hid hy
    obtain ⟨T0, x0, rfl⟩ := hx.iface
    obtain ⟨T1, y0, rfl⟩ := hy.iface
    have c0 : W.cell? ⟨g, 0, none⟩ = some (.iface T0 x0) := by rw [Lib.cell_of_heap hg]; rfl
    have c1 : W.cell? ⟨g, 1, none⟩ = some (.iface T1 y0) := by rw [Lib.cell_of_heap hg]; rfl
    clear hx hy hg
    have aApp : ∀ v w, (Instr.typeAssert (.iface 91 v) 51 91 true).run Tryd.prog w = .ok (.tuple #[v, .bool true]) w := fun v w => by rw [taApp, if_pos rfl]
    go_enter Tryd.func49, Tryd.ntmps49
    go_wp2
    go_region
    all_goals
      go_wp2
      go_ret
      have hb2 := (below_drewN (Below.refl W.heap.size W) 1).alloc (Nat.le_refl _) (.cells #[.iface T0 x0, .iface T1 y0] 51)
      have hrow := World.ownsRow_lit (size := 1) (base := W.heap.size) (e := 51) (W.drewN 1) #[.iface T0 x0, .iface T1 y0] 2 (Nat.le_refl _) (by decide) (by simp)
      exact ⟨_, [.iface T0 x0, .iface T1 y0], rfl, hrow, ⟨HX.out.below hb2, HY.out.below hb2, trivial⟩, hb2⟩
  | lam a b =>
    obtain ⟨g, x, y, rfl, hg, hx, hy⟩ := h
    have HX := Lib.hid hx
    have HY := Lib.hid hy
    obtain ⟨T0, x0, rfl⟩ := hx.iface
    obtain ⟨T1, y0, rfl⟩ := hy.iface
    have c0 : W.cell? ⟨g, 0, none⟩ = some (.iface T0 x0) := by rw [Lib.cell_of_heap hg]; rfl
    have c1 : W.cell? ⟨g, 1, none⟩ = some (.iface T1 y0) := by rw [Lib.cell_of_heap hg]; rfl
    clear hx hy hg
    have aApp : ∀ v w, (Instr.typeAssert (.iface 94 v) 51 91 true).run Tryd.prog w = .ok (.tuple #[.pointer none, .bool false]) w := fun v w => by rw [taApp, if_neg (by decide)]
    have aLam : ∀ v w, (Instr.typeAssert (.iface 94 v) 51 94 true).run Tryd.prog w = .ok (.tuple #[v, .bool true]) w := fun v w => by rw [taLam, if_pos rfl]
    go_enter Tryd.func49, Tryd.ntmps49
    go_wp2
    go_region
    all_goals
      go_wp2
      go_ret
      have hb2 := (below_drewN (Below.refl W.heap.size W) 1).alloc (Nat.le_refl _) (.cells #[.iface T0 x0, .iface T1 y0] 51)
      have hrow := World.ownsRow_lit (size := 1) (base := W.heap.size) (e := 51) (W.drewN 1) #[.iface T0 x0, .iface T1 y0] 2 (Nat.le_refl _) (by decide) (by simp)
      exact ⟨_, [.iface T0 x0, .iface T1 y0], rfl, hrow, ⟨HX.out.below hb2, HY.out.below hb2, trivial⟩, hb2⟩
  | pi a b =>
    obtain ⟨g, x, y, rfl, hg, hx, hy⟩ := h
    have HX := Lib.hid hx
    have HY := Lib.hid hy
    obtain ⟨T0, x0, rfl⟩ := hx.iface
    obtain ⟨T1, y0, rfl⟩ := hy.iface
    have c0 : W.cell? ⟨g, 0, none⟩ = some (.iface T0 x0) := by rw [Lib.cell_of_heap hg]; rfl
    have c1 : W.cell? ⟨g, 1, none⟩ = some (.iface T1 y0) := by rw [Lib.cell_of_heap hg]; rfl
    clear hx hy hg
    have aApp : ∀ v w, (Instr.typeAssert (.iface 97 v) 51 91 true).run Tryd.prog w = .ok (.tuple #[.pointer none, .bool false]) w := fun v w => by rw [taApp, if_neg (by decide)]
    have aLam : ∀ v w, (Instr.typeAssert (.iface 97 v) 51 94 true).run Tryd.prog w = .ok (.tuple #[.pointer none, .bool false]) w := fun v w => by rw [taLam, if_neg (by decide)]
    have aPi : ∀ v w, (Instr.typeAssert (.iface 97 v) 51 97 true).run Tryd.prog w = .ok (.tuple #[v, .bool true]) w := fun v w => by rw [taPi, if_pos rfl]
    go_enter Tryd.func49, Tryd.ntmps49
    go_wp2
    go_region
    all_goals
      go_wp2
      go_ret
      have hb2 := (below_drewN (Below.refl W.heap.size W) 1).alloc (Nat.le_refl _) (.cells #[.iface T0 x0, .iface T1 y0] 51)
      have hrow := World.ownsRow_lit (size := 1) (base := W.heap.size) (e := 51) (W.drewN 1) #[.iface T0 x0, .iface T1 y0] 2 (Nat.le_refl _) (by decide) (by simp)
      exact ⟨_, [.iface T0 x0, .iface T1 y0], rfl, hrow, ⟨HX.out.below hb2, HY.out.below hb2, trivial⟩, hb2⟩
  | lett a b c =>
    obtain ⟨g, x, y, z, rfl, hg, hx, hy, hz⟩ := h
    have HX := Lib.hid hx
    have HY := Lib.hid hy
    have HZ := Lib.hid hz
    obtain ⟨T0, x0, rfl⟩ := hx.iface
    obtain ⟨T1, y0, rfl⟩ := hy.iface
    obtain ⟨T2, z0, rfl⟩ := hz.iface
    have c0 : W.cell? ⟨g, 0, none⟩ = some (.iface T0 x0) := by rw [Lib.cell_of_heap hg]; rfl
    have c1 : W.cell? ⟨g, 1, none⟩ = some (.iface T1 y0) := by rw [Lib.cell_of_heap hg]; rfl
    have c2 : W.cell? ⟨g, 2, none⟩ = some (.iface T2 z0) := by rw [Lib.cell_of_heap hg]; rfl
    clear hx hy hz hg
    have aApp : ∀ v w, (Instr.typeAssert (.iface 100 v) 51 91 true).run Tryd.prog w = .ok (.tuple #[.pointer none, .bool false]) w := fun v w => by rw [taApp, if_neg (by decide)]
    have aLam : ∀ v w, (Instr.typeAssert (.iface 100 v) 51 94 true).run Tryd.prog w = .ok (.tuple #[.pointer none, .bool false]) w := fun v w => by rw [taLam, if_neg (by decide)]
    have aPi : ∀ v w, (Instr.typeAssert (.iface 100 v) 51 97 true).run Tryd.prog w = .ok (.tuple #[.pointer none, .bool false]) w := fun v w => by rw [taPi, if_neg (by decide)]
    have aLet : ∀ v w, (Instr.typeAssert (.iface 100 v) 51 100 true).run Tryd.prog w = .ok (.tuple #[v, .bool true]) w := fun v w => by rw [taLet, if_pos rfl]
    go_enter Tryd.func49, Tryd.ntmps49
    go_wp2
    go_region
    all_goals
      go_wp2
      go_ret
      have hb2 := (below_drewN (Below.refl W.heap.size W) 1).alloc (Nat.le_refl _) (.cells #[.iface T0 x0, .iface T1 y0, .iface T2 z0] 51)
      have hrow := World.ownsRow_lit (size := 1) (base := W.heap.size) (e := 51) (W.drewN 1) #[.iface T0 x0, .iface T1 y0, .iface T2 z0] 3 (Nat.le_refl _) (by decide) (by simp)
      exact ⟨_, [.iface T0 x0, .iface T1 y0, .iface T2 z0], rfl, hrow, ⟨HX.out.below hb2, HY.out.below hb2, HZ.out.below hb2, trivial⟩, hb2⟩

theorem Tm.parts_size : ∀ (t : Tm), ∀ p ∈ t.parts, p.size < t.size
  | .var _, p, h => by simp [Tm.parts] at h
  | .sort _, p, h => by simp [Tm.parts] at h
  | .const _ _, p, h => by simp [Tm.parts] at h
  | .app a b, p, h => by
    have := a.size_pos; have := b.size_pos
    simp only [Tm.parts, List.mem_cons, List.not_mem_nil, or_false] at h
    rcases h with rfl | rfl <;> simp only [Tm.size] <;> omega
  | .lam a b, p, h => by
    have := a.size_pos; have := b.size_pos
    simp only [Tm.parts, List.mem_cons, List.not_mem_nil, or_false] at h
    rcases h with rfl | rfl <;> simp only [Tm.size] <;> omega
  | .pi a b, p, h => by
    have := a.size_pos; have := b.size_pos
    simp only [Tm.parts, List.mem_cons, List.not_mem_nil, or_false] at h
    rcases h with rfl | rfl <;> simp only [Tm.size] <;> omega
  | .lett a b c, p, h => by
    have := a.size_pos; have := b.size_pos; have := c.size_pos
    simp only [Tm.parts, List.mem_cons, List.not_mem_nil, or_false] at h
    rcases h with rfl | rfl | rfl <;> simp only [Tm.size] <;> omega
def sizes (ts : List Tm) : Nat := (ts.map Tm.size).sum
theorem Tm.size_parts (t : Tm) : t.size = 1 + sizes t.parts := by
  cases t <;> simp [Tm.size, Tm.parts, sizes] <;> omega
theorem sizes_append (a b : List Tm) : sizes (a ++ b) = sizes a + sizes b := by simp [sizes]
theorem sizes_take {ts : List Tm} {k : Nat} (h : k < ts.length) : sizes (ts.take (k + 1)) = sizes (ts.take k) + ts[k].size := by
  rw [List.take_succ_eq_append_getElem h, sizes_append]
  simp [sizes]
theorem sizes_take_le (ts : List Tm) (k : Nat) : sizes (ts.take k) ≤ sizes ts := by
  have h := sizes_append (ts.take k) (ts.drop k)
  rw [List.take_append_drop] at h
  omega
theorem Tm.parts_le (t : Tm) : t.parts.length ≤ 3 := by cases t <;> simp [Tm.parts]
set_option maxHeartbeats 2000000 in
theorem implSizeOf : ∀ (n : Nat) (t : Tm) (v : Value) (W : World), t.size ≤ n → t.size ≤ 1000000 → IRep W t v →
    Calls Tryd.prog 51 #[v] W fun e W' => e = .returned (.int .i64 (t.size : Int)) ∧ Below W.heap.size W W' := by
  intro n
  induction n with
  | zero => intro t v W h _ _; have := t.size_pos; omega
  | succ n ih =>
    intro t v W hn hm h
    have f1 := Lib.hid (implPartsOf h)
    unfold PartsAns at f1
    have hsp := t.size_parts
    have hl3 := t.parts_le
    have IH : Hid (∀ p ∈ t.parts, ∀ (v : Value) (W : World), IRep W p v → Calls Tryd.prog 51 #[v] W fun e W' => e = .returned (.int .i64 (p.size : Int)) ∧ Below W.heap.size W W') :=
      fun p hp v W hr => ih p v W (by have := t.parts_size p hp; omega) (by have := t.parts_size p hp; omega) hr
    have HT : Hid (t.size = 1 + sizes t.parts) := hsp
    generalize t.size = z at hn hm hsp HT
    generalize t.parts = ts at f1 hsp hl3 IH HT
    clear h ih
    go_enter Tryd.func51, Tryd.ntmps51
    go_wp2_with fail
    (with_reducible refine f1.out.mono ?_); rintro e w1 ⟨u, vs, rfl, hu, hrs, hb⟩
    obtain ⟨ua, uc, rfl⟩ := row_slice hu
    have hvl := hrs.len
    have HU := Lib.hid hu
    have HRS := Lib.hid hrs
    have HB := Lib.hid hb
    clear hu hrs hb f1
    go_wp2
    go_loopw [3, 9] (fun s i wr => ∃ k : Nat, k ≤ ts.length ∧ i = .int .i64 k ∧ (∃ m : Nat, s = .int .i64 (m : Int) ∧ Hid (m = 1 + sizes (ts.take k))) ∧ Below w1.heap.size w1 wr) (fun _ i _ => ts.length - (intOf i).toNat)
    case atStart => exact ⟨0, Nat.zero_le _, rfl, ⟨1, rfl, by simp [sizes, Hid]⟩, Below.refl _ _⟩
    case round =>
      obtain ⟨k, hk, rfl, ⟨m, rfl, hmm⟩, hbr⟩ := hrel
      have hmm2 := hmm.out
      have hle := sizes_take_le ts k
      by_cases hlt : k < ts.length
      · have hst := sizes_take hlt
        have hle2 := sizes_take_le ts (k + 1)
        have hu2 := own_below HU.out hbr
        obtain ⟨g, cap', e0, _, hgl⟩ := hu2.form (by omega)
        cases e0
        have ex : vs[k]? = some vs[k] := by simp [hvl, hlt]
        have cc := (hu2.cellAt k (by omega)).trans ex
        have f2 := Lib.hid (IH.out ts[k] (List.getElem_mem hlt) vs[k] wr ((HRS.out.below hbr).at k hlt (by omega)))
        have HBR := Lib.hid hbr
        have q1 : (0 : Int) ≤ (k : Int) := by omega
        have q2 : (k : Int) < (ts.length : Int) := by omega
        have HM2 : Hid (m + ts[k].size = 1 + sizes (ts.take (k + 1))) := by rw [Hid, hst, hmm2]; omega
        have hmb : m + ts[k].size ≤ 1000000 := by omega
        generalize ts[k].size = x at f2 hst HM2 hmb
        generalize vs[k] = vk at cc f2
        clear ex hu2 hbr hmm hmm2 hle hle2 hst
        go_wp2_with fail
        (with_reducible refine f2.out.mono ?_); rintro e w2 ⟨rfl, hb2⟩
        have HB2 := Lib.hid (HBR.out.trans (hb2.mono HBR.out.size))
        clear hb2 HBR
        go_wp2
        go_roundw
        case rel => exact ⟨k + 1, by omega, by go_num, ⟨m + x, by go_num, HM2.out⟩, HB2.out⟩
        case measure => simp [intOf]; omega
      · have hkk : k = ts.length := by omega
        have HE : Hid (m = z) := by rw [Hid, hmm2, hkk, List.take_length, HT.out]
        have HB2 := Lib.hid (HB.out.trans (hbr.mono HB.out.size))
        have d1 : decide ((k : Int) < (ts.length : Int)) = false := decide_eq_false (by omega)
        clear hbr HT hsp hmm hmm2 hle
        go_wp2
        go_ret
        rw [HE.out]
        exact ⟨rfl, HB2.out⟩
end Go.Proofs.YtnklajagefedmaaDoor

namespace Go.Proofs.YtnklajagefedmaaDoor
set_option maxRecDepth 100000
open Go.ChangeShapes Go.WideShapes Go.ChangeAt Go.RowKit
set_option linter.unusedSimpArgs false

theorem max_three (w : World) (ts : Array TypeId) (t : TypeId) (x y z : Int) :
    (Builtin.max_ ts t #[.int .i64 x, .int .i64 y, .int .i64 z]).run Tryd.prog w = .ok (.int .i64 (max (max x y) z)) w := by
  have e : ∀ x y : Int, (if y > x then y else x) = max x y := fun x y => by
    rw [Int.max_def]
    split <;> split <;> omega
  simp [Builtin.max_, Builtin.max2, e]
set_option maxHeartbeats 4000000 in
theorem implOpenOf : ∀ (t : Tm) (v : Value) (W : World) (b : Nat), t.Ok → b + t.size ≤ 1000000 → IRep W t v →
    Calls Tryd.prog 54 #[v, .int .i64 (b : Int)] W fun e W' => e = .returned (.int .i64 ((t.opn - b : Nat) : Int)) ∧ Below W.heap.size W W' := by
  intro t
  induction t with
  | var n =>
    intro v W b hok hsz h
    have hn : n ≤ 999 := hok
    simp only [Tm.size] at hsz
    obtain ⟨g, rfl, hg⟩ := h
    have c0 : W.cell? ⟨g, 0, none⟩ = some (.int .i64 (n : Int)) := by rw [Lib.cell_of_heap hg]; rfl
    clear hg
    have HE : Hid (((n + 1 - b : Nat) : Int) = max ((n : Int) + 1 - (b : Int)) 0) := by rw [Hid]; omega
    simp only [Tm.opn]
    have aVar : ∀ v w, (Instr.typeAssert (.iface 65 v) 51 65 true).run Tryd.prog w = .ok (.tuple #[v, .bool true]) w := fun v w => by rw [taVar, if_pos rfl]
    go_enter Tryd.func54, Tryd.ntmps54
    go_wp2
    go_ret
    rw [HE.out]
    exact ⟨rfl, Below.refl _ _⟩
  | sort n =>
    intro v W b hok hsz h
    obtain ⟨g, rfl, hg⟩ := h
    clear hg
    have HE : Hid (((0 - b : Nat) : Int) = 0) := by rw [Hid]; omega
    simp only [Tm.opn]
    have aVar : ∀ v w, (Instr.typeAssert (.iface 112 v) 51 65 true).run Tryd.prog w = .ok (.tuple #[.pointer none, .bool false]) w := fun v w => by rw [taVar, if_neg (by decide)]
    have aApp : ∀ v w, (Instr.typeAssert (.iface 112 v) 51 91 true).run Tryd.prog w = .ok (.tuple #[.pointer none, .bool false]) w := fun v w => by rw [taApp, if_neg (by decide)]
    have aLam : ∀ v w, (Instr.typeAssert (.iface 112 v) 51 94 true).run Tryd.prog w = .ok (.tuple #[.pointer none, .bool false]) w := fun v w => by rw [taLam, if_neg (by decide)]
    have aPi : ∀ v w, (Instr.typeAssert (.iface 112 v) 51 97 true).run Tryd.prog w = .ok (.tuple #[.pointer none, .bool false]) w := fun v w => by rw [taPi, if_neg (by decide)]
    have aLet : ∀ v w, (Instr.typeAssert (.iface 112 v) 51 100 true).run Tryd.prog w = .ok (.tuple #[.pointer none, .bool false]) w := fun v w => by rw [taLet, if_neg (by decide)]
    go_enter Tryd.func54, Tryd.ntmps54
    go_wp2
    go_ret
    rw [HE.out]
    exact ⟨rfl, Below.refl _ _⟩
  | const n ls =>
    intro v W b hok hsz h
    obtain ⟨g, u, rfl, hg, hu⟩ := h
    clear hu
    clear hg
    have HE : Hid (((0 - b : Nat) : Int) = 0) := by rw [Hid]; omega
    simp only [Tm.opn]
    have aVar : ∀ v w, (Instr.typeAssert (.iface 58 v) 51 65 true).run Tryd.prog w = .ok (.tuple #[.pointer none, .bool false]) w := fun v w => by rw [taVar, if_neg (by decide)]
    have aApp : ∀ v w, (Instr.typeAssert (.iface 58 v) 51 91 true).run Tryd.prog w = .ok (.tuple #[.pointer none, .bool false]) w := fun v w => by rw [taApp, if_neg (by decide)]
    have aLam : ∀ v w, (Instr.typeAssert (.iface 58 v) 51 94 true).run Tryd.prog w = .ok (.tuple #[.pointer none, .bool false]) w := fun v w => by rw [taLam, if_neg (by decide)]
    have aPi : ∀ v w, (Instr.typeAssert (.iface 58 v) 51 97 true).run Tryd.prog w = .ok (.tuple #[.pointer none, .bool false]) w := fun v w => by rw [taPi, if_neg (by decide)]
    have aLet : ∀ v w, (Instr.typeAssert (.iface 58 v) 51 100 true).run Tryd.prog w = .ok (.tuple #[.pointer none, .bool false]) w := fun v w => by rw [taLet, if_neg (by decide)]
    go_enter Tryd.func54, Tryd.ntmps54
    go_wp2
    go_ret
    rw [HE.out]
    exact ⟨rfl, Below.refl _ _⟩
  | app f a ihf iha =>
    intro v W b hok hsz h
    have s1 := f.size_pos
    have o1 := Tm.opn_le f hok.1
    have s2 := a.size_pos
    have o2 := Tm.opn_le a hok.2
    simp only [Tm.size] at hsz
    obtain ⟨g, x, y, rfl, hg, hx, hy⟩ := h
    have F1 := Lib.hid fun Wx (hr : IRep Wx f x) => ihf x Wx b hok.1 (by omega) hr
    have F2 := Lib.hid fun Wx (hr : IRep Wx a y) => iha y Wx b hok.2 (by omega) hr
    have HX := Lib.hid hx
    have HY := Lib.hid hy
    have HE : Hid ((((Tm.app f a).opn - b : Nat) : Int) = max ((f.opn - b : Nat) : Int) ((a.opn - b : Nat) : Int)) := by rw [Hid]; simp only [Tm.opn]; omega
    generalize (Tm.app f a).opn - b = m at HE ⊢
    have b1 : f.opn - b ≤ 1000 := by omega
    have b2 : a.opn - b ≤ 1000 := by omega
    generalize f.opn - b = p at F1 HE b1
    generalize a.opn - b = q at F2 HE b2
    obtain ⟨T0, x0, rfl⟩ := hx.iface
    obtain ⟨T1, y0, rfl⟩ := hy.iface
    clear hx hy ihf iha hok o1 o2
    have HBX : Hid (∀ w', Below W.heap.size W w' → w'.cell? ⟨g, 0, none⟩ = some (.iface T0 x0) ∧ w'.cell? ⟨g, 1, none⟩ = some (.iface T1 y0)) := fun w' hb => by
      have := blk_below hg hb
      exact ⟨by rw [Lib.cell_of_heap this]; rfl, by rw [Lib.cell_of_heap this]; rfl⟩
    have X0 := HBX.out _ (Below.refl _ _)
    clear hg
    have aVar : ∀ v w, (Instr.typeAssert (.iface 91 v) 51 65 true).run Tryd.prog w = .ok (.tuple #[.pointer none, .bool false]) w := fun v w => by rw [taVar, if_neg (by decide)]
    have aApp : ∀ v w, (Instr.typeAssert (.iface 91 v) 51 91 true).run Tryd.prog w = .ok (.tuple #[v, .bool true]) w := fun v w => by rw [taApp, if_pos rfl]
    go_enter Tryd.func54, Tryd.ntmps54
    go_wp2
    go_region_held3 (fun w' => w'.cell? ⟨g, 0, none⟩ = some (.iface T0 x0) ∧ w'.cell? ⟨g, 1, none⟩ = some (.iface T1 y0)) (first | exact X0 | exact X1 | exact X2)
      (first
        | (go_at_call 54; (with_reducible refine (F1.out _ (HX.out.below (Below.refl W.heap.size W).drew)).mono ?_); rintro e w2 ⟨rfl, hb2⟩; have B1 := (Below.refl W.heap.size W).drew.trans hb2; have X1 := HBX.out _ B1)
        | (go_at_call 54; (with_reducible refine (F2.out _ (HY.out.below B1)).mono ?_); rintro e w3 ⟨rfl, hb3⟩; have B2 := B1.trans (hb3.mono B1.size); have X2 := HBX.out _ B2))
    go_wp2
    go_ret
    rw [HE.out]
    exact ⟨rfl, B2⟩
  | lam f a ihf iha =>
    intro v W b hok hsz h
    have s1 := f.size_pos
    have o1 := Tm.opn_le f hok.1
    have s2 := a.size_pos
    have o2 := Tm.opn_le a hok.2
    simp only [Tm.size] at hsz
    obtain ⟨g, x, y, rfl, hg, hx, hy⟩ := h
    have F1 := Lib.hid fun Wx (hr : IRep Wx f x) => ihf x Wx b hok.1 (by omega) hr
    have F2 := Lib.hid fun Wx (hr : IRep Wx a y) => iha y Wx (b + 1) hok.2 (by omega) hr
    have HX := Lib.hid hx
    have HY := Lib.hid hy
    have HE : Hid ((((Tm.lam f a).opn - b : Nat) : Int) = max ((f.opn - b : Nat) : Int) ((a.opn - (b + 1) : Nat) : Int)) := by rw [Hid]; simp only [Tm.opn]; omega
    have hw : IntKind.i64.wrap ((b : Int) + 1) = (b : Int) + 1 := IntWalk.i64_in _ (by omega)
    rw [show ((b + 1 : Nat) : Int) = (b : Int) + 1 by omega] at F2
    generalize (Tm.lam f a).opn - b = m at HE ⊢
    have b1 : f.opn - b ≤ 1000 := by omega
    have b2 : a.opn - (b + 1) ≤ 1000 := by omega
    generalize f.opn - b = p at F1 HE b1
    generalize a.opn - (b + 1) = q at F2 HE b2
    obtain ⟨T0, x0, rfl⟩ := hx.iface
    obtain ⟨T1, y0, rfl⟩ := hy.iface
    clear hx hy ihf iha hok o1 o2
    have HBX : Hid (∀ w', Below W.heap.size W w' → w'.cell? ⟨g, 0, none⟩ = some (.iface T0 x0) ∧ w'.cell? ⟨g, 1, none⟩ = some (.iface T1 y0)) := fun w' hb => by
      have := blk_below hg hb
      exact ⟨by rw [Lib.cell_of_heap this]; rfl, by rw [Lib.cell_of_heap this]; rfl⟩
    have X0 := HBX.out _ (Below.refl _ _)
    clear hg
    have aVar : ∀ v w, (Instr.typeAssert (.iface 94 v) 51 65 true).run Tryd.prog w = .ok (.tuple #[.pointer none, .bool false]) w := fun v w => by rw [taVar, if_neg (by decide)]
    have aApp : ∀ v w, (Instr.typeAssert (.iface 94 v) 51 91 true).run Tryd.prog w = .ok (.tuple #[.pointer none, .bool false]) w := fun v w => by rw [taApp, if_neg (by decide)]
    have aLam : ∀ v w, (Instr.typeAssert (.iface 94 v) 51 94 true).run Tryd.prog w = .ok (.tuple #[v, .bool true]) w := fun v w => by rw [taLam, if_pos rfl]
    go_enter Tryd.func54, Tryd.ntmps54
    go_wp2
    go_region_held3 (fun w' => w'.cell? ⟨g, 0, none⟩ = some (.iface T0 x0) ∧ w'.cell? ⟨g, 1, none⟩ = some (.iface T1 y0)) (first | exact X0 | exact X1 | exact X2)
      (first
        | (go_at_call 54; (with_reducible refine (F1.out _ (HX.out.below (Below.refl W.heap.size W).drew)).mono ?_); rintro e w2 ⟨rfl, hb2⟩; have B1 := (Below.refl W.heap.size W).drew.trans hb2; have X1 := HBX.out _ B1)
        | (go_at_call 54; (with_reducible refine (F2.out _ (HY.out.below B1)).mono ?_); rintro e w3 ⟨rfl, hb3⟩; have B2 := B1.trans (hb3.mono B1.size); have X2 := HBX.out _ B2))
    go_wp2
    go_ret
    rw [HE.out]
    exact ⟨rfl, B2⟩
  | pi f a ihf iha =>
    intro v W b hok hsz h
    have s1 := f.size_pos
    have o1 := Tm.opn_le f hok.1
    have s2 := a.size_pos
    have o2 := Tm.opn_le a hok.2
    simp only [Tm.size] at hsz
    obtain ⟨g, x, y, rfl, hg, hx, hy⟩ := h
    have F1 := Lib.hid fun Wx (hr : IRep Wx f x) => ihf x Wx b hok.1 (by omega) hr
    have F2 := Lib.hid fun Wx (hr : IRep Wx a y) => iha y Wx (b + 1) hok.2 (by omega) hr
    have HX := Lib.hid hx
    have HY := Lib.hid hy
    have HE : Hid ((((Tm.pi f a).opn - b : Nat) : Int) = max ((f.opn - b : Nat) : Int) ((a.opn - (b + 1) : Nat) : Int)) := by rw [Hid]; simp only [Tm.opn]; omega
    have hw : IntKind.i64.wrap ((b : Int) + 1) = (b : Int) + 1 := IntWalk.i64_in _ (by omega)
    rw [show ((b + 1 : Nat) : Int) = (b : Int) + 1 by omega] at F2
    generalize (Tm.pi f a).opn - b = m at HE ⊢
    have b1 : f.opn - b ≤ 1000 := by omega
    have b2 : a.opn - (b + 1) ≤ 1000 := by omega
    generalize f.opn - b = p at F1 HE b1
    generalize a.opn - (b + 1) = q at F2 HE b2
    obtain ⟨T0, x0, rfl⟩ := hx.iface
    obtain ⟨T1, y0, rfl⟩ := hy.iface
    clear hx hy ihf iha hok o1 o2
    have HBX : Hid (∀ w', Below W.heap.size W w' → w'.cell? ⟨g, 0, none⟩ = some (.iface T0 x0) ∧ w'.cell? ⟨g, 1, none⟩ = some (.iface T1 y0)) := fun w' hb => by
      have := blk_below hg hb
      exact ⟨by rw [Lib.cell_of_heap this]; rfl, by rw [Lib.cell_of_heap this]; rfl⟩
    have X0 := HBX.out _ (Below.refl _ _)
    clear hg
    have aVar : ∀ v w, (Instr.typeAssert (.iface 97 v) 51 65 true).run Tryd.prog w = .ok (.tuple #[.pointer none, .bool false]) w := fun v w => by rw [taVar, if_neg (by decide)]
    have aApp : ∀ v w, (Instr.typeAssert (.iface 97 v) 51 91 true).run Tryd.prog w = .ok (.tuple #[.pointer none, .bool false]) w := fun v w => by rw [taApp, if_neg (by decide)]
    have aLam : ∀ v w, (Instr.typeAssert (.iface 97 v) 51 94 true).run Tryd.prog w = .ok (.tuple #[.pointer none, .bool false]) w := fun v w => by rw [taLam, if_neg (by decide)]
    have aPi : ∀ v w, (Instr.typeAssert (.iface 97 v) 51 97 true).run Tryd.prog w = .ok (.tuple #[v, .bool true]) w := fun v w => by rw [taPi, if_pos rfl]
    go_enter Tryd.func54, Tryd.ntmps54
    go_wp2
    go_region_held3 (fun w' => w'.cell? ⟨g, 0, none⟩ = some (.iface T0 x0) ∧ w'.cell? ⟨g, 1, none⟩ = some (.iface T1 y0)) (first | exact X0 | exact X1 | exact X2)
      (first
        | (go_at_call 54; (with_reducible refine (F1.out _ (HX.out.below (Below.refl W.heap.size W).drew)).mono ?_); rintro e w2 ⟨rfl, hb2⟩; have B1 := (Below.refl W.heap.size W).drew.trans hb2; have X1 := HBX.out _ B1)
        | (go_at_call 54; (with_reducible refine (F2.out _ (HY.out.below B1)).mono ?_); rintro e w3 ⟨rfl, hb3⟩; have B2 := B1.trans (hb3.mono B1.size); have X2 := HBX.out _ B2))
    go_wp2
    go_ret
    rw [HE.out]
    exact ⟨rfl, B2⟩
  | lett f a c ihf iha ihc =>
    intro v W b hok hsz h
    have s1 := f.size_pos
    have o1 := Tm.opn_le f hok.1
    have s2 := a.size_pos
    have o2 := Tm.opn_le a hok.2.1
    have s3 := c.size_pos
    have o3 := Tm.opn_le c hok.2.2
    simp only [Tm.size] at hsz
    obtain ⟨g, x, y, z, rfl, hg, hx, hy, hz⟩ := h
    have F1 := Lib.hid fun Wx (hr : IRep Wx f x) => ihf x Wx b hok.1 (by omega) hr
    have F2 := Lib.hid fun Wx (hr : IRep Wx a y) => iha y Wx b hok.2.1 (by omega) hr
    have F3 := Lib.hid fun Wx (hr : IRep Wx c z) => ihc z Wx (b + 1) hok.2.2 (by omega) hr
    have HX := Lib.hid hx
    have HY := Lib.hid hy
    have HZ := Lib.hid hz
    have HE : Hid ((((Tm.lett f a c).opn - b : Nat) : Int) = max ((f.opn - b : Nat) : Int) (max ((a.opn - b : Nat) : Int) ((c.opn - (b + 1) : Nat) : Int))) := by rw [Hid]; simp only [Tm.opn]; omega
    have hw : IntKind.i64.wrap ((b : Int) + 1) = (b : Int) + 1 := IntWalk.i64_in _ (by omega)
    rw [show ((b + 1 : Nat) : Int) = (b : Int) + 1 by omega] at F3
    generalize (Tm.lett f a c).opn - b = m at HE ⊢
    have b1 : f.opn - b ≤ 1000 := by omega
    have b2 : a.opn - b ≤ 1000 := by omega
    have b3 : c.opn - (b + 1) ≤ 1000 := by omega
    generalize f.opn - b = p at F1 HE b1
    generalize a.opn - b = q at F2 HE b2
    generalize c.opn - (b + 1) = r at F3 HE b3
    obtain ⟨T0, x0, rfl⟩ := hx.iface
    obtain ⟨T1, y0, rfl⟩ := hy.iface
    obtain ⟨T2, z0, rfl⟩ := hz.iface
    clear hx hy hz ihf iha ihc hok o1 o2 o3
    have m3 := fun w ts t => max_three w ts t (p : Int) (q : Int) (r : Int)
    have HBX : Hid (∀ w', Below W.heap.size W w' → w'.cell? ⟨g, 0, none⟩ = some (.iface T0 x0) ∧ w'.cell? ⟨g, 1, none⟩ = some (.iface T1 y0) ∧ w'.cell? ⟨g, 2, none⟩ = some (.iface T2 z0)) := fun w' hb => by
      have := blk_below hg hb
      exact ⟨by rw [Lib.cell_of_heap this]; rfl, by rw [Lib.cell_of_heap this]; rfl, by rw [Lib.cell_of_heap this]; rfl⟩
    have X0 := HBX.out _ (Below.refl _ _)
    clear hg
    have aVar : ∀ v w, (Instr.typeAssert (.iface 100 v) 51 65 true).run Tryd.prog w = .ok (.tuple #[.pointer none, .bool false]) w := fun v w => by rw [taVar, if_neg (by decide)]
    have aApp : ∀ v w, (Instr.typeAssert (.iface 100 v) 51 91 true).run Tryd.prog w = .ok (.tuple #[.pointer none, .bool false]) w := fun v w => by rw [taApp, if_neg (by decide)]
    have aLam : ∀ v w, (Instr.typeAssert (.iface 100 v) 51 94 true).run Tryd.prog w = .ok (.tuple #[.pointer none, .bool false]) w := fun v w => by rw [taLam, if_neg (by decide)]
    have aPi : ∀ v w, (Instr.typeAssert (.iface 100 v) 51 97 true).run Tryd.prog w = .ok (.tuple #[.pointer none, .bool false]) w := fun v w => by rw [taPi, if_neg (by decide)]
    have aLet : ∀ v w, (Instr.typeAssert (.iface 100 v) 51 100 true).run Tryd.prog w = .ok (.tuple #[v, .bool true]) w := fun v w => by rw [taLet, if_pos rfl]
    go_enter Tryd.func54, Tryd.ntmps54
    go_wp2
    go_region_held3 (fun w' => w'.cell? ⟨g, 0, none⟩ = some (.iface T0 x0) ∧ w'.cell? ⟨g, 1, none⟩ = some (.iface T1 y0) ∧ w'.cell? ⟨g, 2, none⟩ = some (.iface T2 z0)) (first | exact X0 | exact X1 | exact X2 | exact X3)
      (first
        | (go_at_call 54; (with_reducible refine (F1.out _ (HX.out.below (Below.refl W.heap.size W).drew)).mono ?_); rintro e w2 ⟨rfl, hb2⟩; have B1 := (Below.refl W.heap.size W).drew.trans hb2; have X1 := HBX.out _ B1)
        | (go_at_call 54; (with_reducible refine (F2.out _ (HY.out.below B1)).mono ?_); rintro e w3 ⟨rfl, hb3⟩; have B2 := B1.trans (hb3.mono B1.size); have X2 := HBX.out _ B2)
        | (go_at_call 54; (with_reducible refine (F3.out _ (HZ.out.below B2)).mono ?_); rintro e w4 ⟨rfl, hb4⟩; have B3 := B2.trans (hb4.mono B2.size); have X3 := HBX.out _ B3))
    go_wp2
    go_ret
    rw [HE.out]
    exact ⟨rfl, B3⟩
end Go.Proofs.YtnklajagefedmaaDoor

namespace Go.Proofs.YtnklajagefedmaaDoor
set_option maxRecDepth 100000
open Go.ChangeShapes Go.WideShapes Go.ChangeAt Go.RowKit
set_option linter.unusedSimpArgs false

theorem implTermOk (s : ByteArray) (W : World) (hv : Vars W) (hs : s.size ≤ maxLen) :
    Calls Tryd.prog 22 #[.string s] W fun e W' => e = .returned (.bool (termOk s.data.toList)) ∧ Below W.heap.size W W' := by
  have f1 := Lib.hid (implReadTerm s W hv hs)
  clear hv hs
  go_enter Tryd.func22, Tryd.ntmps22
  go_wp2_with fail
  (with_reducible refine f1.out.mono ?_); rintro e w1 ⟨hb, ⟨t, v, ht, rfl, hr⟩ | ⟨hno, rfl⟩⟩
  · have HB := Lib.hid hb
    have HE : Hid (termOk s.data.toList = true) := by rw [Hid, termOk, termOf_some ht]; rfl
    clear hb ht hr f1
    go_wp2
    go_ret
    rw [HE.out]
    exact ⟨rfl, HB.out⟩
  · have HB := Lib.hid hb
    have HE : Hid (termOk s.data.toList = false) := by rw [Hid, termOk, termOf_none hno]; rfl
    clear hb hno f1
    go_wp2
    go_ret
    rw [HE.out]
    exact ⟨rfl, HB.out⟩
theorem implTermSize (s : ByteArray) (W : World) (hv : Vars W) (hs : s.size ≤ maxLen) :
    Calls Tryd.prog 19 #[.string s] W fun e W' => e = .returned (.int .i64 (termSize s.data.toList : Int)) ∧ Below W.heap.size W W' := by
  have f1 := Lib.hid (implReadTerm s W hv hs)
  clear hv hs
  go_enter Tryd.func19, Tryd.ntmps19
  go_wp2_with fail
  (with_reducible refine f1.out.mono ?_); rintro e w1 ⟨hb, ⟨t, v, ht, rfl, hr⟩ | ⟨hno, rfl⟩⟩
  · have HB := Lib.hid hb
    have HE : Hid (termSize s.data.toList = t.size) := by rw [Hid, termSize, termOf_some ht]
    have hle := t.size_le
    have h2 := ht.2.2
    rw [← ht.2.1] at h2
    have f2 := Lib.hid (implSizeOf t.size t v w1 (Nat.le_refl _) (by omega) hr)
    obtain ⟨T, x, rfl⟩ := hr.iface
    clear hb ht hr f1 hle h2
    generalize t.size = z at f2 HE
    go_wp2_with fail
    (with_reducible refine f2.out.mono ?_); rintro e w2 ⟨rfl, hb2⟩
    have HB2 := Lib.hid (HB.out.trans (hb2.mono HB.out.size))
    clear hb2
    go_wp2
    go_ret
    rw [HE.out]
    exact ⟨rfl, HB2.out⟩
  · have HB := Lib.hid hb
    have HE : Hid (termSize s.data.toList = 0) := by rw [Hid, termSize, termOf_none hno]
    clear hb hno f1
    go_wp2
    go_ret
    rw [HE.out]
    exact ⟨rfl, HB.out⟩
theorem implTermOpen (s : ByteArray) (W : World) (hv : Vars W) (hs : s.size ≤ maxLen) :
    Calls Tryd.prog 24 #[.string s] W fun e W' => e = .returned (.int .i64 (termOpen s.data.toList : Int)) ∧ Below W.heap.size W W' := by
  have f1 := Lib.hid (implReadTerm s W hv hs)
  clear hv hs
  go_enter Tryd.func24, Tryd.ntmps24
  go_wp2_with fail
  (with_reducible refine f1.out.mono ?_); rintro e w1 ⟨hb, ⟨t, v, ht, rfl, hr⟩ | ⟨hno, rfl⟩⟩
  · have HB := Lib.hid hb
    have HE : Hid (termOpen s.data.toList = t.opn) := by rw [Hid, termOpen, termOf_some ht]
    have hle := t.size_le
    have h2 := ht.2.2
    rw [← ht.2.1] at h2
    have f2 := Lib.hid (implOpenOf t v w1 0 ht.1 (by omega) hr)
    rw [Nat.sub_zero] at f2
    rw [show ((0 : Nat) : Int) = 0 from rfl] at f2
    obtain ⟨T, x, rfl⟩ := hr.iface
    clear hb ht hr f1 hle h2
    generalize t.opn = z at f2 HE
    go_wp2_with fail
    (with_reducible refine f2.out.mono ?_); rintro e w2 ⟨rfl, hb2⟩
    have HB2 := Lib.hid (HB.out.trans (hb2.mono HB.out.size))
    clear hb2
    go_wp2
    go_ret
    rw [HE.out]
    exact ⟨rfl, HB2.out⟩
  · have HB := Lib.hid hb
    have HE : Hid (termOpen s.data.toList = 0) := by rw [Hid, termOpen, termOf_none hno]
    clear hb hno f1
    go_wp2
    go_ret
    rw [HE.out]
    exact ⟨rfl, HB.out⟩
theorem termOk_pos {l : List UInt8} (h : termOk l = true) : 1 ≤ l.length := by
  unfold termOk at h
  cases ht : termOf l with
  | none => rw [ht] at h; cases h
  | some t =>
    have h1 := (termOf_is ht).2.1
    have := t.bytes_pos
    rw [← h1]
    omega
theorem implTermKind (s : ByteArray) (W : World) (hv : Vars W) (hs : s.size ≤ 281474976710656) :
    Calls Tryd.prog 17 #[.string s] W fun e W' => e = .returned (.string ⟨(termKind s.data.toList).toArray⟩) ∧ Below W.heap.size W W' := by
  have f1 := Lib.hid (implTermOk s W hv (by unfold maxLen; omega))
  have hls : s.data.toList.length = s.size := rfl
  clear hv
  by_cases h : termOk s.data.toList = true
  · have h1 := termOk_pos h
    rw [hls] at h1
    have HE : Hid ((⟨(termKind s.data.toList).toArray⟩ : ByteArray) = s.extract 0 1) := by rw [Hid, termKind, if_pos h, ext_takeC]
    have hz : (s.extract 0 1).size = 1 := by rw [ByteArray.size_extract]; omega
    have f2 := Lib.hid fun W => cloneS (s.extract 0 1) W (by rw [hz]; omega)
    rw [h] at f1
    clear h hls hs hz
    go_enter Tryd.func17, Tryd.ntmps17
    go_wp2_with fail
    (with_reducible refine f1.out.mono ?_); rintro e w1 ⟨rfl, hb⟩
    go_wp2_with fail
    (with_reducible refine (f2.out _).mono ?_); rintro e w2 ⟨rfl, hb2⟩
    go_wp2
    go_ret
    rw [HE.out]
    exact ⟨rfl, hb.trans (hb2.mono hb.size)⟩
  · have HE : Hid (termKind s.data.toList = []) := by rw [Hid, termKind, if_neg h]
    rw [Bool.not_eq_true] at h
    rw [h] at f1
    clear h hls hs
    go_enter Tryd.func17, Tryd.ntmps17
    go_wp2_with fail
    (with_reducible refine f1.out.mono ?_); rintro e w1 ⟨rfl, hb⟩
    go_wp2
    go_ret
    rw [HE.out]
    exact ⟨rfl, hb⟩
end Go.Proofs.YtnklajagefedmaaDoor
