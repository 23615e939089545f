/-
  A name is short.
  The contract of spec.NameParts.
  What chapter 9's functions answer, plainly; no function of the program is named here.
  The contract of spec.TermOk.
  The contract of spec.l06Open.
  The contract of spec.TermOpen.
  The contract of spec.l06Const.
  The contract of spec.l09Closed and of spec.l09Levels.
  Contracts of spec.NameAdd and impl.NameAdd.
  The contract of spec.TermKind.
  Plain lemmas: an operation of a drawn region whose guard lets it by, or passes it over, comes up first.
  The contract of spec.l01In.
-/
import Derived.Test.YtimekfhchammnaaGreatDoorNWalks2
import Derived.Test.YtimekfhchammnaaGreatDoorGDecl
import Derived.Test.YtimekfhchammnaaGreatDoorFParamsS
import Derived.Test.YtimekfhchammnaaGreatDoorTAll
import Derived.Test.YtimekfhchammnaaGreatDoorTNode
import Derived.Test.YtimekfhchammnaaGreatDoorTMath
import Derived.Test.YtimekfhchammnaaGreatDoorVPutM
import Derived.Test.YtimekfhchammnaaGreatDoorDecS
import Derived.Test.YtimekfhchammnaaGreatDoorBase
import Derived.Deep.RegionHeld3
namespace Go.Proofs.YtimekfhchammnaaGreatDoor
set_option maxRecDepth 100000
open Go.ChangeShapes Go.WideShapes Go.ChangeAt Go.RowKit

theorem nameOk_le {l : List UInt8} (h : nameOk l = true) : l.length ≤ 40 := by
  simp only [nameOk, Bool.and_eq_true, decide_eq_true_eq] at h
  exact h.1.1
end Go.Proofs.YtimekfhchammnaaGreatDoor

namespace Go.Proofs.YtimekfhchammnaaGreatDoor
set_option maxRecDepth 100000
open Go.ChangeShapes Go.WideShapes Go.ChangeAt Go.RowKit
set_option linter.unusedSimpArgs false
set_option linter.unusedVariables false

theorem own_mono {w : World} {base base' : Nat} {e : TypeId} {size : Nat} {v : Value} {n : Nat} {xs : List Value} (h : w.ownsRow base e size v n xs) (hb : base' ≤ base) : w.ownsRow base' e size v n xs := by
  refine ⟨h.1, ?_⟩
  rcases h.2 with h | ⟨g, cap, cur, h1, h2, h3⟩
  · exact .inl h
  · exact .inr ⟨g, cap, cur, h1, Nat.le_trans hb h2, h3⟩
def nparts (l : List UInt8) : List (List UInt8) := if nameOk l = true then cutL l else []
theorem specNameParts (s : ByteArray) (w : World) (hs : s.size ≤ maxLen) : Calls Tryz.prog 60 #[.string s] w (LRes (nparts s.data.toList) w) := by
  have f1 := Lib.hid fun W => specNameOk s W hs
  by_cases h1 : nameOk s.data.toList = true
  · have hz : s.size ≤ 40 := nameOk_le h1
    have f2 := Lib.hid fun W => specCut46 s W (by omega)
    have HR := Lib.hid (show nparts s.data.toList = _ from if_pos h1)
    rw [h1] at f1
    clear h1
    go_enter Tryz.func60, Tryz.ntmps60
    go_wp2_with fail
    (with_reducible refine (f1.out _).mono ?_); rintro e w1 ⟨rfl, hb1⟩
    go_wp2_with fail
    (with_reducible refine (f2.out _).mono ?_); rintro e w2 ⟨v2, rfl, ho2, hb2⟩
    go_wp2
    go_ret
    rw [HR.out]
    exact ⟨_, rfl, own_mono ho2 hb1.size, hb1.trans (hb2.mono hb1.size)⟩
  · have HR := Lib.hid (show nparts s.data.toList = _ from if_neg h1)
    rw [Bool.not_eq_true] at h1
    rw [h1] at f1
    clear h1
    go_enter Tryz.func60, Tryz.ntmps60
    go_wp2_with fail
    (with_reducible refine (f1.out _).mono ?_); rintro e w1 ⟨rfl, hb1⟩
    go_wp2
    go_ret
    rw [HR.out]
    exact ⟨_, rfl, World.ownsRow_lit w1 #[] 0 hb1.size (by decide) (by simp), hb1.alloc hb1.size _⟩
end Go.Proofs.YtimekfhchammnaaGreatDoor

namespace Go.Proofs.YtimekfhchammnaaGreatDoor
set_option maxRecDepth 100000
open Go
set_option linter.unusedVariables false

noncomputable def closedOf (t : List UInt8) (p : Int) : Bool := termOk t && (decide (termOpen t = 0) && decide ((paramsIn t : Int) ≤ p))
def recB : List UInt8 := [114, 101, 99]
/-- What is left of a constructor's name behind the name of its data type. -/
def restOf (nm c : List UInt8) : List UInt8 := c.drop (nm.length + 1)
def headOk (nm c : List UInt8) : Bool := nameOk c && (decide (nm.length + 1 < c.length) && decide (c.take (nm.length + 1) = nm ++ [46]))
noncomputable def tailOk (nm : List UInt8) (p : Int) (c : Ct) : Bool := decide ((nparts (restOf nm c.1)).length = 1) && (decide (restOf nm c.1 ≠ recB) && closedOf c.2 p)
noncomputable def ctorOk (nm : List UInt8) (p : Int) (c : Ct) : Bool := headOk nm c.1 && tailOk nm p c
open Classical in
/-- The constructors ahead of the k-th are right, and have names of their own. -/
noncomputable def ctorsOk (nm : List UInt8) (p : Int) (l : List Ct) (k : Nat) : Bool := decide (∀ (i : Nat) (h : i < l.length), i < k → ctorOk nm p l[i] = true ∧ ∀ (j : Nat) (hj : j < i), l[j].1 ≠ l[i].1)
noncomputable def dataOk (d : Dc) : Bool := decide (d.flags.tmod 2 = 0) && (decide (d.value = []) && (decide (d.params < 3) && (decide (termKind d.type = [115]) && (decide (d.ctors.length ≤ 6) && ((nameOk d.name && nameOk (d.name ++ 46 :: recB)) && ctorsOk d.name d.params d.ctors d.ctors.length)))))
noncomputable def declKindOk (d : Dc) : Bool :=
  if d.kind = 1 then decide (d.flags = 0) && (decide (d.value = []) && decide (d.ctors.length = 0))
  else if d.kind = 2 ∨ d.kind = 3 then decide (d.flags ≤ 1) && (closedOf d.value d.params && decide (d.ctors.length = 0))
  else if d.kind = 4 then dataOk d else false
noncomputable def declOk (d : Dc) : Bool := nameOk d.name && ((decide (0 ≤ d.params) && decide (d.params ≤ 3)) && ((decide (0 ≤ d.flags) && decide (d.flags ≤ 7)) && (closedOf d.type d.params && declKindOk d)))
noncomputable def recName (d : Dc) : List UInt8 := if d.kind = 4 ∧ declOk d = true then d.name ++ 46 :: recB else []
noncomputable def namesOf (d : Dc) : List (List UInt8) := if declOk d = true then d.name :: (d.ctors.map fun c => c.1) ++ (if d.kind = 4 then [d.name ++ 46 :: recB] else []) else []
def levelsN (n : Nat) : List (List UInt8) := (List.range n).map fun i => 117 :: Lib.decDigits i
noncomputable def selfConst (d : Dc) : List UInt8 := if declOk d = true then (Tm.const d.name (levelsN d.params.toNat)).bytes else []
theorem ctorsOk_zero (nm : List UInt8) (p : Int) (l : List Ct) : ctorsOk nm p l 0 = true := by
  simp [ctorsOk]
theorem ctorsOk_succ {nm : List UInt8} {p : Int} {l : List Ct} {k : Nat} (hk : k < l.length) (h : ctorsOk nm p l k = true) (h1 : ctorOk nm p l[k] = true) (h2 : ∀ (j : Nat) (hj : j < k), l[j].1 ≠ l[k].1) : ctorsOk nm p l (k + 1) = true := by
  simp only [ctorsOk, decide_eq_true_eq] at h ⊢
  intro i hi hik
  rcases Nat.lt_succ_iff_lt_or_eq.1 hik with h3 | rfl
  · exact h i hi h3
  · exact ⟨h1, h2⟩
theorem ctorsOk_bad {nm : List UInt8} {p : Int} {l : List Ct} {k : Nat} (hk : k < l.length) (h1 : ctorOk nm p l[k] = false) : ctorsOk nm p l l.length = false := by
  rw [Bool.eq_false_iff]
  intro h
  simp only [ctorsOk, decide_eq_true_eq] at h
  rw [(h k hk hk).1] at h1
  cases h1
theorem ctorsOk_dup {nm : List UInt8} {p : Int} {l : List Ct} {k j : Nat} (hk : k < l.length) (hj : j < k) (h1 : l[j].1 = l[k].1) : ctorsOk nm p l l.length = false := by
  rw [Bool.eq_false_iff]
  intro h
  simp only [ctorsOk, decide_eq_true_eq] at h
  exact (h k hk hk).2 j hj h1
/-- The strings of a declaration are short. -/
structure Dc.Small (d : Dc) : Prop where
  name : d.name.length ≤ 1048576
  type : d.type.length ≤ 1048576
  value : d.value.length ≤ 1048576
  ctors : d.ctors.length ≤ 1048576
  each : ∀ c ∈ d.ctors, c.1.length ≤ 1048576 ∧ c.2.length ≤ 1048576
theorem Dc.small {d : Dc} (h : d.size ≤ 1048576) : d.Small := by
  unfold Dc.size at h
  exact ⟨by omega, by omega, by omega, by omega, fun c hc => by have := totC_mem hc; constructor <;> omega⟩
end Go.Proofs.YtimekfhchammnaaGreatDoor

namespace Go.Proofs.YtimekfhchammnaaGreatDoor
set_option maxRecDepth 100000
open Go.ChangeShapes Go.WideShapes Go.ChangeAt Go.RowKit
set_option linter.unusedSimpArgs false

theorem specTermOk (s : ByteArray) (w : World) (hs : s.size ≤ maxLen) :
    Calls Tryz.prog 55 #[.string s] w fun e w' => e = .returned (.bool (termOk s.data.toList)) ∧ Below w.heap.size w w' := by
  have f1 := Lib.hid (specL06All s w hs)
  go_enter Tryz.func55, Tryz.ntmps55
  go_wp2_with fail
  (with_reducible refine f1.out.mono ?_); rintro e w1 ⟨v, ns, rfl, hr, hb, _, (⟨t, ht, hn, hp⟩ | ⟨hno, rfl⟩)⟩
  · obtain ⟨la, lc, rfl⟩ := own_sliceN hr
    have hsz := t.size_pos
    have HE : Hid (termOk s.data.toList = true) := by rw [Hid, termOk, termOf_some ht]; rfl
    have d1 : decide ((0 : Int) < (ns.length : Int)) = true := decide_eq_true (by omega)
    have d1n : decide (0 < ns.length) = true := decide_eq_true (by omega)
    have HB := Lib.hid hb
    clear hr ht hn hp hb f1
    go_wp2
    go_ret
    rw [HE.out]
    exact ⟨rfl, HB.out⟩
  · obtain ⟨la, lc, rfl⟩ := own_sliceN hr
    have HE : Hid (termOk s.data.toList = false) := by rw [Hid, termOk, termOf_none hno]; rfl
    have HB := Lib.hid hb
    clear hr hno hb f1
    go_wp2
    go_ret
    rw [HE.out]
    exact ⟨rfl, HB.out⟩
end Go.Proofs.YtimekfhchammnaaGreatDoor

namespace Go.Proofs.YtimekfhchammnaaGreatDoor
set_option maxRecDepth 100000
open Go.ChangeShapes Go.WideShapes Go.ChangeAt Go.RowKit
set_option linter.unusedSimpArgs false

set_option maxHeartbeats 4000000 in
theorem specL06Open {ns : List Nd} (hn : ns.length ≤ 100000) (hsl : ∀ nd ∈ ns, ∃ a n c, nd.lv = .slice a n c) {b B : Nat} : ∀ (t : Tm) (k : Nat) (W : World) (v : Value), W.ownsRow b 77 7 v ns.length (flatN ns) → Rep W B ns k t → t.Ok →
    Calls Tryz.prog 81 #[v, .int .i64 (k : Int)] W fun e w' => e = .returned (.int .i64 (t.opn : Int)) ∧ Below W.heap.size W w' := by
  have hklt : ∀ (k : Nat) nd, ns[k]? = some nd → k < ns.length := fun k nd h => by
    by_cases hl : k < ns.length
    · exact hl
    · rw [List.getElem?_eq_none (by omega)] at h; cases h
  intro t
  induction t with
  | var n =>
    intro k W v hrow hr hok
    obtain ⟨nd, hnd, HK⟩ := hr
    obtain ⟨sa, sn, sc, hlv⟩ := hsl nd (List.mem_of_getElem? hnd)
    have hlt := hklt k nd hnd
    obtain ⟨g, cap, rfl, _, hgl⟩ := hrow.form (by omega)
    have c0 : W.cell? ⟨g, k * 7, none⟩ = some (.int .u8 (nd.kind.toNat : Int)) := node_at hrow hnd 0 (by decide)
    have c1 : W.cell? ⟨g, k * 7 + 1, none⟩ = some (.int .i64 (nd.a : Int)) := node_at hrow hnd 1 (by decide)
    have c2 : W.cell? ⟨g, k * 7 + 2, none⟩ = some (.int .i64 (nd.b : Int)) := node_at hrow hnd 2 (by decide)
    have c3 : W.cell? ⟨g, k * 7 + 3, none⟩ = some (.int .i64 (nd.c : Int)) := node_at hrow hnd 3 (by decide)
    have c4 : W.cell? ⟨g, k * 7 + 4, none⟩ = some (.int .i64 (nd.num : Int)) := node_at hrow hnd 4 (by decide)
    have c5 : W.cell? ⟨g, k * 7 + 5, none⟩ = some (.string ⟨nd.text.toArray⟩) := node_at hrow hnd 5 (by decide)
    have c6 : W.cell? ⟨g, k * 7 + 6, none⟩ = some (.slice sa sn sc) := by rw [← hlv]; exact node_at hrow hnd 6 (by decide)
    have q1 : (0 : Int) ≤ (k : Int) := by omega
    have q2 : (k : Int) < (ns.length : Int) := by omega
    have hkind : nd.kind = 118 := HK.1
    have hnum : nd.num = n := HK.2.1
    have hn9 : n ≤ 999 := hok
    rw [hkind] at c0
    rw [hnum] at c4
    clear hrow hnd HK hkind hnum hlv hsl hklt
    go_enter Tryz.func81, Tryz.ntmps81
    go_wp2
    go_ret
    refine ⟨?_, (Below.refl _ _).alloc (Nat.le_refl _) _⟩
    simp [Tm.opn]
  | sort l =>
    intro k W v hrow hr hok
    obtain ⟨nd, hnd, HK⟩ := hr
    obtain ⟨sa, sn, sc, hlv⟩ := hsl nd (List.mem_of_getElem? hnd)
    have hlt := hklt k nd hnd
    obtain ⟨g, cap, rfl, _, hgl⟩ := hrow.form (by omega)
    have c0 : W.cell? ⟨g, k * 7, none⟩ = some (.int .u8 (nd.kind.toNat : Int)) := node_at hrow hnd 0 (by decide)
    have c1 : W.cell? ⟨g, k * 7 + 1, none⟩ = some (.int .i64 (nd.a : Int)) := node_at hrow hnd 1 (by decide)
    have c2 : W.cell? ⟨g, k * 7 + 2, none⟩ = some (.int .i64 (nd.b : Int)) := node_at hrow hnd 2 (by decide)
    have c3 : W.cell? ⟨g, k * 7 + 3, none⟩ = some (.int .i64 (nd.c : Int)) := node_at hrow hnd 3 (by decide)
    have c4 : W.cell? ⟨g, k * 7 + 4, none⟩ = some (.int .i64 (nd.num : Int)) := node_at hrow hnd 4 (by decide)
    have c5 : W.cell? ⟨g, k * 7 + 5, none⟩ = some (.string ⟨nd.text.toArray⟩) := node_at hrow hnd 5 (by decide)
    have c6 : W.cell? ⟨g, k * 7 + 6, none⟩ = some (.slice sa sn sc) := by rw [← hlv]; exact node_at hrow hnd 6 (by decide)
    have q1 : (0 : Int) ≤ (k : Int) := by omega
    have q2 : (k : Int) < (ns.length : Int) := by omega
    have hkind : nd.kind = 115 := HK.1
    rw [hkind] at c0
    clear hrow hnd HK hkind hlv hsl hklt
    go_enter Tryz.func81, Tryz.ntmps81
    go_wp2
    go_ret
    exact ⟨rfl, (Below.refl _ _).alloc (Nat.le_refl _) _⟩
  | const n ls =>
    intro k W v hrow hr hok
    obtain ⟨nd, hnd, HK⟩ := hr
    obtain ⟨sa, sn, sc, hlv⟩ := hsl nd (List.mem_of_getElem? hnd)
    have hlt := hklt k nd hnd
    obtain ⟨g, cap, rfl, _, hgl⟩ := hrow.form (by omega)
    have c0 : W.cell? ⟨g, k * 7, none⟩ = some (.int .u8 (nd.kind.toNat : Int)) := node_at hrow hnd 0 (by decide)
    have c1 : W.cell? ⟨g, k * 7 + 1, none⟩ = some (.int .i64 (nd.a : Int)) := node_at hrow hnd 1 (by decide)
    have c2 : W.cell? ⟨g, k * 7 + 2, none⟩ = some (.int .i64 (nd.b : Int)) := node_at hrow hnd 2 (by decide)
    have c3 : W.cell? ⟨g, k * 7 + 3, none⟩ = some (.int .i64 (nd.c : Int)) := node_at hrow hnd 3 (by decide)
    have c4 : W.cell? ⟨g, k * 7 + 4, none⟩ = some (.int .i64 (nd.num : Int)) := node_at hrow hnd 4 (by decide)
    have c5 : W.cell? ⟨g, k * 7 + 5, none⟩ = some (.string ⟨nd.text.toArray⟩) := node_at hrow hnd 5 (by decide)
    have c6 : W.cell? ⟨g, k * 7 + 6, none⟩ = some (.slice sa sn sc) := by rw [← hlv]; exact node_at hrow hnd 6 (by decide)
    have q1 : (0 : Int) ≤ (k : Int) := by omega
    have q2 : (k : Int) < (ns.length : Int) := by omega
    have hkind : nd.kind = 99 := HK.1
    rw [hkind] at c0
    clear hrow hnd HK hkind hlv hsl hklt
    go_enter Tryz.func81, Tryz.ntmps81
    go_wp2
    go_ret
    exact ⟨rfl, (Below.refl _ _).alloc (Nat.le_refl _) _⟩
  | app f a ihf iha =>
    intro k W v hrow hr hok
    obtain ⟨nd, hnd, HK⟩ := hr
    obtain ⟨sa, sn, sc, hlv⟩ := hsl nd (List.mem_of_getElem? hnd)
    have hlt := hklt k nd hnd
    obtain ⟨g, cap, rfl, _, hgl⟩ := hrow.form (by omega)
    have c0 : W.cell? ⟨g, k * 7, none⟩ = some (.int .u8 (nd.kind.toNat : Int)) := node_at hrow hnd 0 (by decide)
    have c1 : W.cell? ⟨g, k * 7 + 1, none⟩ = some (.int .i64 (nd.a : Int)) := node_at hrow hnd 1 (by decide)
    have c2 : W.cell? ⟨g, k * 7 + 2, none⟩ = some (.int .i64 (nd.b : Int)) := node_at hrow hnd 2 (by decide)
    have c3 : W.cell? ⟨g, k * 7 + 3, none⟩ = some (.int .i64 (nd.c : Int)) := node_at hrow hnd 3 (by decide)
    have c4 : W.cell? ⟨g, k * 7 + 4, none⟩ = some (.int .i64 (nd.num : Int)) := node_at hrow hnd 4 (by decide)
    have c5 : W.cell? ⟨g, k * 7 + 5, none⟩ = some (.string ⟨nd.text.toArray⟩) := node_at hrow hnd 5 (by decide)
    have c6 : W.cell? ⟨g, k * 7 + 6, none⟩ = some (.slice sa sn sc) := by rw [← hlv]; exact node_at hrow hnd 6 (by decide)
    have q1 : (0 : Int) ≤ (k : Int) := by omega
    have q2 : (k : Int) < (ns.length : Int) := by omega
    obtain ⟨hkind, hr1, hr2⟩ := HK
    rw [hkind] at c0
    have b1 := (Below.refl W.heap.size W).alloc (Nat.le_refl _) (.cells #[.int .u8 64, .int .i64 (nd.a : Int), .int .i64 (nd.b : Int), .int .i64 (nd.c : Int), .int .i64 (nd.num : Int), .string ⟨nd.text.toArray⟩, .slice sa sn sc] 77)
    have hblk : (W.alloc (.cells #[.int .u8 64, .int .i64 (nd.a : Int), .int .i64 (nd.b : Int), .int .i64 (nd.c : Int), .int .i64 (nd.num : Int), .string ⟨nd.text.toArray⟩, .slice sa sn sc] 77)).heap[W.heap.size]? = some (.cells #[.int .u8 64, .int .i64 (nd.a : Int), .int .i64 (nd.b : Int), .int .i64 (nd.c : Int), .int .i64 (nd.num : Int), .string ⟨nd.text.toArray⟩, .slice sa sn sc] 77 (0, 0)) := heap_alloc_new W _
    have hrow1 := own_below hrow b1
    have ks1 : KeepS B W (W.alloc (.cells #[.int .u8 64, .int .i64 (nd.a : Int), .int .i64 (nd.b : Int), .int .i64 (nd.c : Int), .int .i64 (nd.num : Int), .string ⟨nd.text.toArray⟩, .slice sa sn sc] 77)) := fun _ _ _ h => own_below h b1
    have z1 : W.heap.size < (W.alloc (.cells #[.int .u8 64, .int .i64 (nd.a : Int), .int .i64 (nd.b : Int), .int .i64 (nd.c : Int), .int .i64 (nd.num : Int), .string ⟨nd.text.toArray⟩, .slice sa sn sc] 77)).heap.size := by simp
    have B1 := Lib.hid b1
    have f1 := Lib.hid (ihf nd.a _ _ hrow1 (Rep.keep ks1 (Ext.refl _) f _ hr1) hok.1)
    have xb := Tm.opn_le f hok.1
    have yb := Tm.opn_le a hok.2
    have HE : Hid ((Tm.app f a).opn = max f.opn a.opn) := rfl
    generalize f.opn = x at f1 xb HE
    clear hnd hkind hlv b1 ks1 hrow hr1
    go_enter Tryz.func81, Tryz.ntmps81
    go_wp2_with fail
    (with_reducible refine f1.out.mono ?_); rintro e W2 ⟨rfl, hb2⟩
    have hblk2 := (hb2.block _ z1).trans hblk
    have hrow2 := own_below hrow1 hb2
    have B2 := Lib.hid (B1.out.trans (hb2.mono (Nat.le_of_lt z1)))
    have z2 : W.heap.size < W2.heap.size := Nat.lt_of_lt_of_le z1 hb2.size
    have f2 := Lib.hid (iha nd.b _ _ hrow2 (Rep.keep (fun _ _ _ h => own_below h B2.out) (Ext.refl _) a _ hr2) hok.2)
    generalize a.opn = y at f2 yb HE
    have a0 : W2.cell? ⟨W.heap.size, 0, none⟩ = some (.int .u8 64) := cell_of_row _ _ _ _ _ _ hblk2
    have a1 : W2.cell? ⟨W.heap.size, 1, none⟩ = some (.int .i64 (nd.a : Int)) := cell_of_row _ _ _ _ _ _ hblk2
    have a2 : W2.cell? ⟨W.heap.size, 2, none⟩ = some (.int .i64 (nd.b : Int)) := cell_of_row _ _ _ _ _ _ hblk2
    clear f1 hb2 hrow1 hblk hr2 z1
    go_wp2_with fail
    (with_reducible refine f2.out.mono ?_); rintro e W3 ⟨rfl, hb3⟩
    have hblk3 := (hb3.block _ z2).trans hblk2
    have B3 := Lib.hid (B2.out.trans (hb3.mono (Nat.le_of_lt z2)))
    have d0 : W3.cell? ⟨W.heap.size, 0, none⟩ = some (.int .u8 64) := cell_of_row _ _ _ _ _ _ hblk3
    have d3 : W3.cell? ⟨W.heap.size, 3, none⟩ = some (.int .i64 (nd.c : Int)) := cell_of_row _ _ _ _ _ _ hblk3
    have dz : decide ((x : Int) < 0) = false := decide_eq_false (by omega)
    have dz2 : decide ((y : Int) < 0) = false := decide_eq_false (by omega)
    clear f2 hb3 hrow2 hblk2 hblk3 a0 a1 a2
    by_cases hxy : x < y
    · have e1 : decide ((x : Int) < (y : Int)) = true := decide_eq_true (by omega)
      have e1n : decide (x < y) = true := decide_eq_true (by omega)
      go_wp2
      go_ret
      rw [HE.out, Nat.max_eq_right (by omega)]
      exact ⟨rfl, B3.out⟩
    · have e1 : decide ((x : Int) < (y : Int)) = false := decide_eq_false (by omega)
      have e1n : decide (x < y) = false := decide_eq_false (by omega)
      go_wp2
      go_ret
      rw [HE.out, Nat.max_eq_left (by omega)]
      exact ⟨rfl, B3.out⟩
  | lam f a ihf iha =>
    intro k W v hrow hr hok
    obtain ⟨nd, hnd, HK⟩ := hr
    obtain ⟨sa, sn, sc, hlv⟩ := hsl nd (List.mem_of_getElem? hnd)
    have hlt := hklt k nd hnd
    obtain ⟨g, cap, rfl, _, hgl⟩ := hrow.form (by omega)
    have c0 : W.cell? ⟨g, k * 7, none⟩ = some (.int .u8 (nd.kind.toNat : Int)) := node_at hrow hnd 0 (by decide)
    have c1 : W.cell? ⟨g, k * 7 + 1, none⟩ = some (.int .i64 (nd.a : Int)) := node_at hrow hnd 1 (by decide)
    have c2 : W.cell? ⟨g, k * 7 + 2, none⟩ = some (.int .i64 (nd.b : Int)) := node_at hrow hnd 2 (by decide)
    have c3 : W.cell? ⟨g, k * 7 + 3, none⟩ = some (.int .i64 (nd.c : Int)) := node_at hrow hnd 3 (by decide)
    have c4 : W.cell? ⟨g, k * 7 + 4, none⟩ = some (.int .i64 (nd.num : Int)) := node_at hrow hnd 4 (by decide)
    have c5 : W.cell? ⟨g, k * 7 + 5, none⟩ = some (.string ⟨nd.text.toArray⟩) := node_at hrow hnd 5 (by decide)
    have c6 : W.cell? ⟨g, k * 7 + 6, none⟩ = some (.slice sa sn sc) := by rw [← hlv]; exact node_at hrow hnd 6 (by decide)
    have q1 : (0 : Int) ≤ (k : Int) := by omega
    have q2 : (k : Int) < (ns.length : Int) := by omega
    obtain ⟨hkind, hr1, hr2⟩ := HK
    rw [hkind] at c0
    have b1 := (Below.refl W.heap.size W).alloc (Nat.le_refl _) (.cells #[.int .u8 108, .int .i64 (nd.a : Int), .int .i64 (nd.b : Int), .int .i64 (nd.c : Int), .int .i64 (nd.num : Int), .string ⟨nd.text.toArray⟩, .slice sa sn sc] 77)
    have hblk : (W.alloc (.cells #[.int .u8 108, .int .i64 (nd.a : Int), .int .i64 (nd.b : Int), .int .i64 (nd.c : Int), .int .i64 (nd.num : Int), .string ⟨nd.text.toArray⟩, .slice sa sn sc] 77)).heap[W.heap.size]? = some (.cells #[.int .u8 108, .int .i64 (nd.a : Int), .int .i64 (nd.b : Int), .int .i64 (nd.c : Int), .int .i64 (nd.num : Int), .string ⟨nd.text.toArray⟩, .slice sa sn sc] 77 (0, 0)) := heap_alloc_new W _
    have hrow1 := own_below hrow b1
    have ks1 : KeepS B W (W.alloc (.cells #[.int .u8 108, .int .i64 (nd.a : Int), .int .i64 (nd.b : Int), .int .i64 (nd.c : Int), .int .i64 (nd.num : Int), .string ⟨nd.text.toArray⟩, .slice sa sn sc] 77)) := fun _ _ _ h => own_below h b1
    have z1 : W.heap.size < (W.alloc (.cells #[.int .u8 108, .int .i64 (nd.a : Int), .int .i64 (nd.b : Int), .int .i64 (nd.c : Int), .int .i64 (nd.num : Int), .string ⟨nd.text.toArray⟩, .slice sa sn sc] 77)).heap.size := by simp
    have B1 := Lib.hid b1
    have f1 := Lib.hid (ihf nd.a _ _ hrow1 (Rep.keep ks1 (Ext.refl _) f _ hr1) hok.1)
    have xb := Tm.opn_le f hok.1
    have yb := Tm.opn_le a hok.2
    have HE : Hid ((Tm.lam f a).opn = max f.opn (a.opn - 1)) := rfl
    generalize f.opn = x at f1 xb HE
    clear hnd hkind hlv b1 ks1 hrow hr1
    go_enter Tryz.func81, Tryz.ntmps81
    go_wp2_with fail
    (with_reducible refine f1.out.mono ?_); rintro e W2 ⟨rfl, hb2⟩
    have hblk2 := (hb2.block _ z1).trans hblk
    have hrow2 := own_below hrow1 hb2
    have B2 := Lib.hid (B1.out.trans (hb2.mono (Nat.le_of_lt z1)))
    have z2 : W.heap.size < W2.heap.size := Nat.lt_of_lt_of_le z1 hb2.size
    have f2 := Lib.hid (iha nd.b _ _ hrow2 (Rep.keep (fun _ _ _ h => own_below h B2.out) (Ext.refl _) a _ hr2) hok.2)
    generalize a.opn = y at f2 yb HE
    have a0 : W2.cell? ⟨W.heap.size, 0, none⟩ = some (.int .u8 108) := cell_of_row _ _ _ _ _ _ hblk2
    have a1 : W2.cell? ⟨W.heap.size, 1, none⟩ = some (.int .i64 (nd.a : Int)) := cell_of_row _ _ _ _ _ _ hblk2
    have a2 : W2.cell? ⟨W.heap.size, 2, none⟩ = some (.int .i64 (nd.b : Int)) := cell_of_row _ _ _ _ _ _ hblk2
    clear f1 hb2 hrow1 hblk hr2 z1
    go_wp2_with fail
    (with_reducible refine f2.out.mono ?_); rintro e W3 ⟨rfl, hb3⟩
    have hblk3 := (hb3.block _ z2).trans hblk2
    have B3 := Lib.hid (B2.out.trans (hb3.mono (Nat.le_of_lt z2)))
    have d0 : W3.cell? ⟨W.heap.size, 0, none⟩ = some (.int .u8 108) := cell_of_row _ _ _ _ _ _ hblk3
    have d3 : W3.cell? ⟨W.heap.size, 3, none⟩ = some (.int .i64 (nd.c : Int)) := cell_of_row _ _ _ _ _ _ hblk3
    have dz : decide ((x : Int) < 0) = false := decide_eq_false (by omega)
    have dz2 : decide ((y : Int) - 1 < 0) = true ∨ decide ((y : Int) - 1 < 0) = false := by cases decide ((y : Int) - 1 < 0) <;> simp
    clear f2 hb3 hrow2 hblk2 hblk3 a0 a1 a2
    by_cases hxy : x + 1 < y
    · have e1 : decide ((x : Int) < (y : Int) - 1) = true := decide_eq_true (by omega)
      have e2 : decide ((y : Int) - 1 < 0) = false := decide_eq_false (by omega)
      clear dz2
      go_wp2
      go_ret
      rw [HE.out, Nat.max_eq_right (by omega)]
      exact ⟨by rw [show ((y - 1 : Nat) : Int) = (y : Int) - 1 by omega]; rfl, B3.out⟩
    · have e1 : decide ((x : Int) < (y : Int) - 1) = false := decide_eq_false (by omega)
      clear dz2
      go_wp2
      go_ret
      rw [HE.out, Nat.max_eq_left (by omega)]
      exact ⟨rfl, B3.out⟩
  | pi f a ihf iha =>
    intro k W v hrow hr hok
    obtain ⟨nd, hnd, HK⟩ := hr
    obtain ⟨sa, sn, sc, hlv⟩ := hsl nd (List.mem_of_getElem? hnd)
    have hlt := hklt k nd hnd
    obtain ⟨g, cap, rfl, _, hgl⟩ := hrow.form (by omega)
    have c0 : W.cell? ⟨g, k * 7, none⟩ = some (.int .u8 (nd.kind.toNat : Int)) := node_at hrow hnd 0 (by decide)
    have c1 : W.cell? ⟨g, k * 7 + 1, none⟩ = some (.int .i64 (nd.a : Int)) := node_at hrow hnd 1 (by decide)
    have c2 : W.cell? ⟨g, k * 7 + 2, none⟩ = some (.int .i64 (nd.b : Int)) := node_at hrow hnd 2 (by decide)
    have c3 : W.cell? ⟨g, k * 7 + 3, none⟩ = some (.int .i64 (nd.c : Int)) := node_at hrow hnd 3 (by decide)
    have c4 : W.cell? ⟨g, k * 7 + 4, none⟩ = some (.int .i64 (nd.num : Int)) := node_at hrow hnd 4 (by decide)
    have c5 : W.cell? ⟨g, k * 7 + 5, none⟩ = some (.string ⟨nd.text.toArray⟩) := node_at hrow hnd 5 (by decide)
    have c6 : W.cell? ⟨g, k * 7 + 6, none⟩ = some (.slice sa sn sc) := by rw [← hlv]; exact node_at hrow hnd 6 (by decide)
    have q1 : (0 : Int) ≤ (k : Int) := by omega
    have q2 : (k : Int) < (ns.length : Int) := by omega
    obtain ⟨hkind, hr1, hr2⟩ := HK
    rw [hkind] at c0
    have b1 := (Below.refl W.heap.size W).alloc (Nat.le_refl _) (.cells #[.int .u8 112, .int .i64 (nd.a : Int), .int .i64 (nd.b : Int), .int .i64 (nd.c : Int), .int .i64 (nd.num : Int), .string ⟨nd.text.toArray⟩, .slice sa sn sc] 77)
    have hblk : (W.alloc (.cells #[.int .u8 112, .int .i64 (nd.a : Int), .int .i64 (nd.b : Int), .int .i64 (nd.c : Int), .int .i64 (nd.num : Int), .string ⟨nd.text.toArray⟩, .slice sa sn sc] 77)).heap[W.heap.size]? = some (.cells #[.int .u8 112, .int .i64 (nd.a : Int), .int .i64 (nd.b : Int), .int .i64 (nd.c : Int), .int .i64 (nd.num : Int), .string ⟨nd.text.toArray⟩, .slice sa sn sc] 77 (0, 0)) := heap_alloc_new W _
    have hrow1 := own_below hrow b1
    have ks1 : KeepS B W (W.alloc (.cells #[.int .u8 112, .int .i64 (nd.a : Int), .int .i64 (nd.b : Int), .int .i64 (nd.c : Int), .int .i64 (nd.num : Int), .string ⟨nd.text.toArray⟩, .slice sa sn sc] 77)) := fun _ _ _ h => own_below h b1
    have z1 : W.heap.size < (W.alloc (.cells #[.int .u8 112, .int .i64 (nd.a : Int), .int .i64 (nd.b : Int), .int .i64 (nd.c : Int), .int .i64 (nd.num : Int), .string ⟨nd.text.toArray⟩, .slice sa sn sc] 77)).heap.size := by simp
    have B1 := Lib.hid b1
    have f1 := Lib.hid (ihf nd.a _ _ hrow1 (Rep.keep ks1 (Ext.refl _) f _ hr1) hok.1)
    have xb := Tm.opn_le f hok.1
    have yb := Tm.opn_le a hok.2
    have HE : Hid ((Tm.pi f a).opn = max f.opn (a.opn - 1)) := rfl
    generalize f.opn = x at f1 xb HE
    clear hnd hkind hlv b1 ks1 hrow hr1
    go_enter Tryz.func81, Tryz.ntmps81
    go_wp2_with fail
    (with_reducible refine f1.out.mono ?_); rintro e W2 ⟨rfl, hb2⟩
    have hblk2 := (hb2.block _ z1).trans hblk
    have hrow2 := own_below hrow1 hb2
    have B2 := Lib.hid (B1.out.trans (hb2.mono (Nat.le_of_lt z1)))
    have z2 : W.heap.size < W2.heap.size := Nat.lt_of_lt_of_le z1 hb2.size
    have f2 := Lib.hid (iha nd.b _ _ hrow2 (Rep.keep (fun _ _ _ h => own_below h B2.out) (Ext.refl _) a _ hr2) hok.2)
    generalize a.opn = y at f2 yb HE
    have a0 : W2.cell? ⟨W.heap.size, 0, none⟩ = some (.int .u8 112) := cell_of_row _ _ _ _ _ _ hblk2
    have a1 : W2.cell? ⟨W.heap.size, 1, none⟩ = some (.int .i64 (nd.a : Int)) := cell_of_row _ _ _ _ _ _ hblk2
    have a2 : W2.cell? ⟨W.heap.size, 2, none⟩ = some (.int .i64 (nd.b : Int)) := cell_of_row _ _ _ _ _ _ hblk2
    clear f1 hb2 hrow1 hblk hr2 z1
    go_wp2_with fail
    (with_reducible refine f2.out.mono ?_); rintro e W3 ⟨rfl, hb3⟩
    have hblk3 := (hb3.block _ z2).trans hblk2
    have B3 := Lib.hid (B2.out.trans (hb3.mono (Nat.le_of_lt z2)))
    have d0 : W3.cell? ⟨W.heap.size, 0, none⟩ = some (.int .u8 112) := cell_of_row _ _ _ _ _ _ hblk3
    have d3 : W3.cell? ⟨W.heap.size, 3, none⟩ = some (.int .i64 (nd.c : Int)) := cell_of_row _ _ _ _ _ _ hblk3
    have dz : decide ((x : Int) < 0) = false := decide_eq_false (by omega)
    have dz2 : decide ((y : Int) - 1 < 0) = true ∨ decide ((y : Int) - 1 < 0) = false := by cases decide ((y : Int) - 1 < 0) <;> simp
    clear f2 hb3 hrow2 hblk2 hblk3 a0 a1 a2
    by_cases hxy : x + 1 < y
    · have e1 : decide ((x : Int) < (y : Int) - 1) = true := decide_eq_true (by omega)
      have e2 : decide ((y : Int) - 1 < 0) = false := decide_eq_false (by omega)
      clear dz2
      go_wp2
      go_ret
      rw [HE.out, Nat.max_eq_right (by omega)]
      exact ⟨by rw [show ((y - 1 : Nat) : Int) = (y : Int) - 1 by omega]; rfl, B3.out⟩
    · have e1 : decide ((x : Int) < (y : Int) - 1) = false := decide_eq_false (by omega)
      clear dz2
      go_wp2
      go_ret
      rw [HE.out, Nat.max_eq_left (by omega)]
      exact ⟨rfl, B3.out⟩
  | lett f a c ihf iha ihc =>
    intro k W v hrow hr hok
    obtain ⟨nd, hnd, HK⟩ := hr
    obtain ⟨sa, sn, sc, hlv⟩ := hsl nd (List.mem_of_getElem? hnd)
    have hlt := hklt k nd hnd
    obtain ⟨g, cap, rfl, _, hgl⟩ := hrow.form (by omega)
    have c0 : W.cell? ⟨g, k * 7, none⟩ = some (.int .u8 (nd.kind.toNat : Int)) := node_at hrow hnd 0 (by decide)
    have c1 : W.cell? ⟨g, k * 7 + 1, none⟩ = some (.int .i64 (nd.a : Int)) := node_at hrow hnd 1 (by decide)
    have c2 : W.cell? ⟨g, k * 7 + 2, none⟩ = some (.int .i64 (nd.b : Int)) := node_at hrow hnd 2 (by decide)
    have c3 : W.cell? ⟨g, k * 7 + 3, none⟩ = some (.int .i64 (nd.c : Int)) := node_at hrow hnd 3 (by decide)
    have c4 : W.cell? ⟨g, k * 7 + 4, none⟩ = some (.int .i64 (nd.num : Int)) := node_at hrow hnd 4 (by decide)
    have c5 : W.cell? ⟨g, k * 7 + 5, none⟩ = some (.string ⟨nd.text.toArray⟩) := node_at hrow hnd 5 (by decide)
    have c6 : W.cell? ⟨g, k * 7 + 6, none⟩ = some (.slice sa sn sc) := by rw [← hlv]; exact node_at hrow hnd 6 (by decide)
    have q1 : (0 : Int) ≤ (k : Int) := by omega
    have q2 : (k : Int) < (ns.length : Int) := by omega
    obtain ⟨hkind, hr1, hr2, hr3⟩ := HK
    rw [hkind] at c0
    have b1 := (Below.refl W.heap.size W).alloc (Nat.le_refl _) (.cells #[.int .u8 116, .int .i64 (nd.a : Int), .int .i64 (nd.b : Int), .int .i64 (nd.c : Int), .int .i64 (nd.num : Int), .string ⟨nd.text.toArray⟩, .slice sa sn sc] 77)
    have hblk : (W.alloc (.cells #[.int .u8 116, .int .i64 (nd.a : Int), .int .i64 (nd.b : Int), .int .i64 (nd.c : Int), .int .i64 (nd.num : Int), .string ⟨nd.text.toArray⟩, .slice sa sn sc] 77)).heap[W.heap.size]? = some (.cells #[.int .u8 116, .int .i64 (nd.a : Int), .int .i64 (nd.b : Int), .int .i64 (nd.c : Int), .int .i64 (nd.num : Int), .string ⟨nd.text.toArray⟩, .slice sa sn sc] 77 (0, 0)) := heap_alloc_new W _
    have hrow1 := own_below hrow b1
    have ks1 : KeepS B W (W.alloc (.cells #[.int .u8 116, .int .i64 (nd.a : Int), .int .i64 (nd.b : Int), .int .i64 (nd.c : Int), .int .i64 (nd.num : Int), .string ⟨nd.text.toArray⟩, .slice sa sn sc] 77)) := fun _ _ _ h => own_below h b1
    have z1 : W.heap.size < (W.alloc (.cells #[.int .u8 116, .int .i64 (nd.a : Int), .int .i64 (nd.b : Int), .int .i64 (nd.c : Int), .int .i64 (nd.num : Int), .string ⟨nd.text.toArray⟩, .slice sa sn sc] 77)).heap.size := by simp
    have B1 := Lib.hid b1
    have f1 := Lib.hid (ihf nd.a _ _ hrow1 (Rep.keep ks1 (Ext.refl _) f _ hr1) hok.1)
    have xb := Tm.opn_le f hok.1
    have yb := Tm.opn_le a hok.2.1
    have HE : Hid ((Tm.lett f a c).opn = max (max f.opn a.opn) (c.opn - 1)) := rfl
    generalize f.opn = x at f1 xb HE
    have zb := Tm.opn_le c hok.2.2
    clear hnd hkind hlv b1 ks1 hrow hr1
    go_enter Tryz.func81, Tryz.ntmps81
    go_wp2_with fail
    (with_reducible refine f1.out.mono ?_); rintro e W2 ⟨rfl, hb2⟩
    have hblk2 := (hb2.block _ z1).trans hblk
    have hrow2 := own_below hrow1 hb2
    have B2 := Lib.hid (B1.out.trans (hb2.mono (Nat.le_of_lt z1)))
    have z2 : W.heap.size < W2.heap.size := Nat.lt_of_lt_of_le z1 hb2.size
    have f2 := Lib.hid (iha nd.b _ _ hrow2 (Rep.keep (fun _ _ _ h => own_below h B2.out) (Ext.refl _) a _ hr2) hok.2.1)
    generalize a.opn = y at f2 yb HE
    have a0 : W2.cell? ⟨W.heap.size, 0, none⟩ = some (.int .u8 116) := cell_of_row _ _ _ _ _ _ hblk2
    have a1 : W2.cell? ⟨W.heap.size, 1, none⟩ = some (.int .i64 (nd.a : Int)) := cell_of_row _ _ _ _ _ _ hblk2
    have a2 : W2.cell? ⟨W.heap.size, 2, none⟩ = some (.int .i64 (nd.b : Int)) := cell_of_row _ _ _ _ _ _ hblk2
    clear f1 hb2 hrow1 hblk hr2 z1
    go_wp2_with fail
    (with_reducible refine f2.out.mono ?_); rintro e W3 ⟨rfl, hb3⟩
    have hblk3 := (hb3.block _ z2).trans hblk2
    have B3 := Lib.hid (B2.out.trans (hb3.mono (Nat.le_of_lt z2)))
    have d0 : W3.cell? ⟨W.heap.size, 0, none⟩ = some (.int .u8 116) := cell_of_row _ _ _ _ _ _ hblk3
    have d3 : W3.cell? ⟨W.heap.size, 3, none⟩ = some (.int .i64 (nd.c : Int)) := cell_of_row _ _ _ _ _ _ hblk3
    have hrow3 := own_below hrow2 hb3
    have z3 : W.heap.size < W3.heap.size := Nat.lt_of_lt_of_le z2 hb3.size
    have f3 := Lib.hid (ihc nd.c _ _ hrow3 (Rep.keep (fun _ _ _ h => own_below h B3.out) (Ext.refl _) c _ hr3) hok.2.2)
    generalize c.opn = z at f3 zb HE
    clear f2 hb3 hrow2 hblk2 a0 a1 a2 hr3
    go_wp2_with fail
    (with_reducible refine f3.out.mono ?_); rintro e W4 ⟨rfl, hb4⟩
    have hblk4 := (hb4.block _ z3).trans hblk3
    have B4 := Lib.hid (B3.out.trans (hb4.mono (Nat.le_of_lt z3)))
    have g0 : W4.cell? ⟨W.heap.size, 0, none⟩ = some (.int .u8 116) := cell_of_row _ _ _ _ _ _ hblk4
    clear f3 hb4 hrow3 hblk3 hblk4 d0 d3
    by_cases hxy : x < y
    · have e1 : decide ((x : Int) < (y : Int)) = true := decide_eq_true (by omega)
      have e1n : decide (x < y) = true := decide_eq_true (by omega)
      by_cases hz : y + 1 < z
      · have e2 : decide ((y : Int) < (z : Int) - 1) = true := decide_eq_true (by omega)
        go_wp2
        go_ret
        rw [HE.out, Nat.max_eq_right (by omega)]
        exact ⟨by rw [show ((z - 1 : Nat) : Int) = (z : Int) - 1 by omega]; rfl, B4.out⟩
      · have e2 : decide ((y : Int) < (z : Int) - 1) = false := decide_eq_false (by omega)
        go_wp2
        go_ret
        rw [HE.out, Nat.max_eq_left (by omega), Nat.max_eq_right (by omega)]
        exact ⟨rfl, B4.out⟩
    · have e1 : decide ((x : Int) < (y : Int)) = false := decide_eq_false (by omega)
      have e1n : decide (x < y) = false := decide_eq_false (by omega)
      by_cases hz : x + 1 < z
      · have e2 : decide ((x : Int) < (z : Int) - 1) = true := decide_eq_true (by omega)
        go_wp2
        go_ret
        rw [HE.out, Nat.max_eq_right (by omega)]
        exact ⟨by rw [show ((z - 1 : Nat) : Int) = (z : Int) - 1 by omega]; rfl, B4.out⟩
      · have e2 : decide ((x : Int) < (z : Int) - 1) = false := decide_eq_false (by omega)
        go_wp2
        go_ret
        rw [HE.out, Nat.max_eq_left (by omega), Nat.max_eq_left (by omega)]
        exact ⟨rfl, B4.out⟩
end Go.Proofs.YtimekfhchammnaaGreatDoor

namespace Go.Proofs.YtimekfhchammnaaGreatDoor
set_option maxRecDepth 100000
open Go.ChangeShapes Go.WideShapes Go.ChangeAt Go.RowKit
set_option linter.unusedSimpArgs false
set_option linter.unusedVariables false

theorem specBroughtIn (n : Nat) (w : World) (h : n ≤ 1000) :
    Calls Tryz.prog 80 #[.int .i64 (n : Int), .int .i64 0, .int .i64 1000] w fun e w' => e = .returned (.int .i64 (n : Int)) ∧ w' = w := by
  have d1 : decide ((n : Int) < 0) = false := decide_eq_false (by omega)
  have d2 : decide ((1000 : Int) < (n : Int)) = false := decide_eq_false (by omega)
  have d2n : decide (1000 < n) = false := decide_eq_false (by omega)
  go_enter Tryz.func80, Tryz.ntmps80
  go_wp2
  go_ret
  exact ⟨rfl, rfl⟩
theorem specTermOpen (s : ByteArray) (w : World) (hs : s.size ≤ maxLen) :
    Calls Tryz.prog 56 #[.string s] w fun e w' => e = .returned (.int .i64 (termOpen s.data.toList : Int)) ∧ Below w.heap.size w w' := by
  have f1 := Lib.hid (specL06All s w hs)
  go_enter Tryz.func56, Tryz.ntmps56
  go_wp2_with fail
  (with_reducible refine f1.out.mono ?_); rintro e w1 ⟨v, ns, rfl, hr, hb, hsl, (⟨t, ht, hn, hp⟩ | ⟨hno, rfl⟩)⟩
  · have hsz := t.size_pos
    have hle := t.size_le
    have h2 := ht.2.2
    rw [← ht.2.1] at h2
    have f2 := Lib.hid (specL06Open (ns := ns) (by omega) hsl t (ns.length - 1) w1 v hr hp ht.1)
    rw [show ((ns.length - 1 : Nat) : Int) = (ns.length : Int) - 1 by omega] at f2
    have f3 := Lib.hid fun W => specBroughtIn t.opn W (Tm.opn_le t ht.1)
    obtain ⟨la, lc, rfl⟩ := own_sliceN hr
    have HE : Hid (termOpen s.data.toList = t.opn) := by rw [Hid, termOpen, termOf_some ht]
    have d1 : ((ns.length : Int) == 0) = false := beq_eq_false_iff_ne.2 (by omega)
    have HB := Lib.hid hb
    generalize t.opn = x at f2 f3 HE
    have hn2 : ns.length ≤ 2000 := by omega
    have hn1 : 1 ≤ ns.length := by omega
    clear hr ht hp hb f1 hsl hn hle h2
    go_wp2_with fail
    (with_reducible refine f2.out.mono ?_); rintro e w2 ⟨rfl, hb2⟩
    have HB2 := Lib.hid (HB.out.trans (hb2.mono HB.out.size))
    clear hb2
    go_wp2_with fail
    (with_reducible refine (f3.out _).mono ?_); rintro e w3 ⟨rfl, rfl⟩
    go_wp2
    go_ret
    rw [HE.out]
    exact ⟨rfl, HB2.out⟩
  · obtain ⟨la, lc, rfl⟩ := own_sliceN hr
    have HE : Hid (termOpen s.data.toList = 0) := by rw [Hid, termOpen, termOf_none hno]
    have HB := Lib.hid hb
    clear hr hno hb f1 hsl
    go_wp2
    go_ret
    rw [HE.out]
    exact ⟨rfl, HB.out⟩
end Go.Proofs.YtimekfhchammnaaGreatDoor

namespace Go.Proofs.YtimekfhchammnaaGreatDoor
set_option maxRecDepth 100000
open Go.ChangeShapes Go.WideShapes Go.ChangeAt Go.RowKit
set_option linter.unusedSimpArgs false

theorem con_start (n : ByteArray) : (⟨#[99]⟩ : ByteArray) ++ n ++ ⟨#[59]⟩ = ⟨(99 :: (n.data.toList ++ 59 :: lvsB [])).toArray⟩ := by
  apply ByteArray.ext
  simp [lvsB]
theorem con_step (n : List UInt8) (ls : List (List UInt8)) (k : Nat) (hk : k < ls.length) : (⟨(99 :: (n ++ 59 :: lvsB (ls.take k))).toArray⟩ : ByteArray) ++ ⟨ls[k].toArray⟩ ++ ⟨#[44]⟩ = ⟨(99 :: (n ++ 59 :: lvsB (ls.take (k + 1)))).toArray⟩ := by
  apply ByteArray.ext
  rw [List.take_succ_eq_append_getElem hk, lvsB_append]
  simp [lvsB]
theorem con_end (n : List UInt8) (ls : List (List UInt8)) : (⟨(99 :: (n ++ 59 :: lvsB ls)).toArray⟩ : ByteArray) ++ ⟨#[46]⟩ = ⟨(Tm.const n ls).bytes.toArray⟩ := by
  apply ByteArray.ext
  simp [Tm.bytes]
theorem lvsB_take (ls : List (List UInt8)) (k : Nat) (hk : k < ls.length) : (lvsB (ls.take k)).length + ls[k].length + 1 ≤ (lvsB ls).length := by
  have h : lvsB ls = lvsB (ls.take (k + 1)) ++ lvsB (ls.drop (k + 1)) := by rw [← lvsB_append, List.take_append_drop]
  rw [h, List.take_succ_eq_append_getElem hk, lvsB_append]
  simp [lvsB]
  omega
set_option maxHeartbeats 1000000 in
theorem specConst (n : ByteArray) {W : World} {b : Nat} {v : Value} {ls : List (List UInt8)} (h : W.ownsRow b 9 1 v ls.length (ls.map sv)) (hl : ls.length ≤ 1000000) (hz : n.size ≤ 10000000) (hzl : (lvsB ls).length ≤ 10000000) :
    Calls Tryz.prog 48 #[.string n, v] W fun e w' => e = .returned (.string ⟨(Tm.const n.data.toList ls).bytes.toArray⟩) ∧ w' = W := by
  obtain ⟨a0, cap, rfl⟩ := own_sliceV h
  have H0 := con_start n
  have HS := Lib.hid (con_step n.data.toList ls)
  have HE := Lib.hid (con_end n.data.toList ls)
  have HT := Lib.hid (lvsB_take ls)
  have hnl : n.data.toList.length = n.size := rfl
  go_enter Tryz.func48, Tryz.ntmps48
  go_wp2
  go_loopw [5, 6] (fun sv' i wr => ∃ k : Nat, k ≤ ls.length ∧ i = .int .i64 k ∧ sv' = .string ⟨(99 :: (n.data.toList ++ 59 :: lvsB (ls.take k))).toArray⟩ ∧ wr = W) (fun _ i _ => ls.length - (intOf i).toNat)
  case atStart => exact ⟨0, Nat.zero_le _, rfl, by rw [List.take_zero, ← H0], rfl⟩
  case round =>
    obtain ⟨k, hk, rfl, rfl, rfl⟩ := hrel
    by_cases hlt : k < ls.length
    · obtain ⟨g, cap', e0, _, hgl⟩ := h.form (by omega)
      cases e0
      have ex : (ls.map sv)[k]? = some (sv ls[k]) := by simp [hlt]
      have cc := (h.cellAt k (by omega)).trans ex
      unfold sv at cc
      have q1 : (0 : Int) ≤ (k : Int) := by omega
      have q2 : (k : Int) < (ls.length : Int) := by omega
      have HK := Lib.hid (HS.out k hlt)
      have hT := HT.out k hlt
      have zs : (⟨(99 :: (n.data.toList ++ 59 :: lvsB (ls.take k))).toArray⟩ : ByteArray).size ≤ 20000100 := by
        show (99 :: (n.data.toList ++ 59 :: lvsB (ls.take k))).length ≤ _
        simp only [List.length_cons, List.length_append]
        omega
      have zx : ls[k].length ≤ 10000000 := by omega
      clear hT
      generalize ls[k] = x at cc HK zx
      generalize (⟨(99 :: (n.data.toList ++ 59 :: lvsB (ls.take k))).toArray⟩ : ByteArray) = s at HK zs
      clear ex HS HT
      go_wp2
      go_roundw
      case rel => exact ⟨k + 1, by omega, by go_num, by rw [← HK.out], trivial⟩
      case measure => simp [intOf]; omega
    · obtain rfl : k = ls.length := by omega
      rw [List.take_length] 
      have d1 : decide ((ls.length : Int) < (ls.length : Int)) = false := decide_eq_false (by omega)
      have zs : (⟨(99 :: (n.data.toList ++ 59 :: lvsB ls)).toArray⟩ : ByteArray).size ≤ 20000100 := by
        show (99 :: (n.data.toList ++ 59 :: lvsB ls)).length ≤ _
        simp only [List.length_cons, List.length_append]
        omega
      generalize (⟨(99 :: (n.data.toList ++ 59 :: lvsB ls)).toArray⟩ : ByteArray) = s at HE zs
      clear HS HT
      go_wp2
      go_ret
      rw [← HE.out]
      exact ⟨rfl, rfl⟩
end Go.Proofs.YtimekfhchammnaaGreatDoor

namespace Go.Proofs.YtimekfhchammnaaGreatDoor
set_option maxRecDepth 100000
open Go.ChangeShapes Go.WideShapes Go.ChangeAt Go.RowKit
set_option linter.unusedSimpArgs false
set_option linter.unusedVariables false

theorem specClosed (t : List UInt8) (p : Int) (w : World) (ht : t.length ≤ maxLen) :
    Calls Tryz.prog 28 #[.string ⟨t.toArray⟩, .int .i64 p] w fun e w' => e = .returned (.bool (closedOf t p)) ∧ Below w.heap.size w w' := by
  have hz : (⟨t.toArray⟩ : ByteArray).size ≤ maxLen := by rw [size_sv]; exact ht
  have f1 := Lib.hid fun W => specTermOk ⟨t.toArray⟩ W hz
  have f2 := Lib.hid fun W => specTermOpen ⟨t.toArray⟩ W hz
  have f3 := Lib.hid fun W => specParamsIn ⟨t.toArray⟩ W hz
  simp only at f1 f2 f3
  have HE : Hid (closedOf t p = (termOk t && (decide (termOpen t = 0) && decide ((paramsIn t : Int) ≤ p)))) := rfl
  generalize termOk t = a at f1 HE
  generalize termOpen t = b at f2 HE
  generalize paramsIn t = c at f3 HE
  clear ht hz
  cases a
  · go_enter Tryz.func28, Tryz.ntmps28
    go_wp2_with fail
    (with_reducible refine (f1.out _).mono ?_); rintro e w1 ⟨rfl, hb1⟩
    have HB := Lib.hid hb1
    clear hb1
    go_wp2
    go_ret
    rw [HE.out]
    exact ⟨rfl, HB.out⟩
  by_cases hb : b = 0
  · subst hb
    have d1 : decide ((c : Int) ≤ p) = true ∨ decide ((c : Int) ≤ p) = false := by cases decide ((c : Int) ≤ p) <;> simp
    go_enter Tryz.func28, Tryz.ntmps28
    go_wp2_with fail
    (with_reducible refine (f1.out _).mono ?_); rintro e w1 ⟨rfl, hb1⟩
    go_wp2_with fail
    (with_reducible refine (f2.out _).mono ?_); rintro e w2 ⟨rfl, hb2⟩
    go_wp2_with fail
    (with_reducible refine (f3.out _).mono ?_); rintro e w3 ⟨rfl, hb3⟩
    have HB := Lib.hid ((hb1.trans (hb2.mono hb1.size)).trans (hb3.mono (hb1.trans (hb2.mono hb1.size)).size))
    clear hb1 hb2 hb3 f1 f2 f3
    rcases d1 with d1 | d1
    all_goals
      go_wp2
      go_ret
      rw [HE.out]
      exact ⟨by simp [d1], HB.out⟩
  · have e1 : ((b : Int) == 0) = false := by rw [beq_eq_false_iff_ne]; omega
    go_enter Tryz.func28, Tryz.ntmps28
    go_wp2_with fail
    (with_reducible refine (f1.out _).mono ?_); rintro e w1 ⟨rfl, hb1⟩
    go_wp2_with fail
    (with_reducible refine (f2.out _).mono ?_); rintro e w2 ⟨rfl, hb2⟩
    have HB := Lib.hid (hb1.trans (hb2.mono hb1.size))
    clear hb1 hb2 f1 f2 f3
    go_wp2
    go_ret
    rw [HE.out]
    exact ⟨by simp [hb], HB.out⟩
end Go.Proofs.YtimekfhchammnaaGreatDoor

namespace Go.Proofs.YtimekfhchammnaaGreatDoor
set_option maxRecDepth 100000
open Go.ChangeShapes Go.WideShapes Go.ChangeAt Go.RowKit

theorem size_join (s t : ByteArray) : (s ++ (⟨#[46]⟩ : ByteArray) ++ t).size = s.size + 1 + t.size := by
  simp [ByteArray.size_append]; rfl
def addRes (s t : ByteArray) : Value := if nameOk s.data.toList = true ∧ nameOk t.data.toList = true ∧ nameOk (s ++ (⟨#[46]⟩ : ByteArray) ++ t).data.toList = true then .tuple #[.string (s ++ (⟨#[46]⟩ : ByteArray) ++ t), .bool true] else .tuple #[.string ⟨#[]⟩, .bool false]

set_option maxHeartbeats 1000000 in
theorem specNameAdd (s t : ByteArray) (w : World) (hs : s.size ≤ maxLen) (ht : t.size ≤ maxLen) :
    Calls Tryz.prog 58 #[.string s, .string t] w fun e w' => e = .returned (addRes s t) ∧ Below w.heap.size w w' := by
  have f1 := Lib.hid fun W => specNameOk s W hs
  have f2 := Lib.hid fun W => specNameOk t W ht
  by_cases h1 : nameOk s.data.toList = true
  · by_cases h2 : nameOk t.data.toList = true
    · have l1 : s.size ≤ 40 := nameOk_le h1
      have l2 : t.size ≤ 40 := nameOk_le h2
      have hj := size_join s t
      have f3 := Lib.hid fun W => specNameOk (s ++ (⟨#[46]⟩ : ByteArray) ++ t) W (by rw [hj]; unfold maxLen; omega)
      have hz : (s ++ (⟨#[46]⟩ : ByteArray)).size = s.size + 1 := by rw [ByteArray.size_append]; rfl
      rw [h1] at f1
      rw [h2] at f2
      by_cases h3 : nameOk (s ++ (⟨#[46]⟩ : ByteArray) ++ t).data.toList = true
      · have HR := Lib.hid (show addRes s t = _ from if_pos ⟨h1, h2, h3⟩)
        rw [h3] at f3
        clear h1 h2 h3
        go_enter Tryz.func58, Tryz.ntmps58
        go_wp2_with fail
        (with_reducible refine (f1.out _).mono ?_); rintro e w1 ⟨rfl, hb1⟩
        go_wp2_with fail
        (with_reducible refine (f2.out _).mono ?_); rintro e w2 ⟨rfl, hb2⟩
        go_wp2_with fail
        (with_reducible refine (f3.out _).mono ?_); rintro e w3 ⟨rfl, hb3⟩
        go_wp2
        go_ret2
        rw [HR.out]
        exact ⟨rfl, (hb1.trans (hb2.mono hb1.size)).trans (hb3.mono (Nat.le_trans hb1.size hb2.size))⟩
      · have HR := Lib.hid (show addRes s t = _ from if_neg fun h => h3 h.2.2)
        rw [Bool.not_eq_true] at h3
        rw [h3] at f3
        clear h1 h2 h3
        go_enter Tryz.func58, Tryz.ntmps58
        go_wp2_with fail
        (with_reducible refine (f1.out _).mono ?_); rintro e w1 ⟨rfl, hb1⟩
        go_wp2_with fail
        (with_reducible refine (f2.out _).mono ?_); rintro e w2 ⟨rfl, hb2⟩
        go_wp2_with fail
        (with_reducible refine (f3.out _).mono ?_); rintro e w3 ⟨rfl, hb3⟩
        go_wp2
        go_ret2
        rw [HR.out]
        exact ⟨rfl, (hb1.trans (hb2.mono hb1.size)).trans (hb3.mono (Nat.le_trans hb1.size hb2.size))⟩
    · have HR := Lib.hid (show addRes s t = _ from if_neg fun h => h2 h.2.1)
      rw [Bool.not_eq_true] at h2
      rw [h1] at f1
      rw [h2] at f2
      clear h1 h2
      go_enter Tryz.func58, Tryz.ntmps58
      go_wp2_with fail
      (with_reducible refine (f1.out _).mono ?_); rintro e w1 ⟨rfl, hb1⟩
      go_wp2_with fail
      (with_reducible refine (f2.out _).mono ?_); rintro e w2 ⟨rfl, hb2⟩
      go_wp2
      go_ret2
      rw [HR.out]
      exact ⟨rfl, hb1.trans (hb2.mono hb1.size)⟩
  · have HR := Lib.hid (show addRes s t = _ from if_neg fun h => h1 h.1)
    rw [Bool.not_eq_true] at h1
    rw [h1] at f1
    clear h1
    go_enter Tryz.func58, Tryz.ntmps58
    go_wp2_with fail
    (with_reducible refine (f1.out _).mono ?_); rintro e w1 ⟨rfl, hb1⟩
    go_wp2
    go_ret2
    rw [HR.out]
    exact ⟨rfl, hb1⟩
set_option maxHeartbeats 1000000 in
theorem implNameAdd (s t : ByteArray) (w : World) (hs : s.size ≤ maxLen) (ht : t.size ≤ maxLen) :
    Calls Tryz.prog 66 #[.string s, .string t] w fun e w' => e = .returned (addRes s t) ∧ Below w.heap.size w w' := by
  have f1 := Lib.hid fun W => implNameOk s W hs
  have f2 := Lib.hid fun W => implNameOk t W ht
  by_cases h1 : nameOk s.data.toList = true
  · by_cases h2 : nameOk t.data.toList = true
    · have l1 : s.size ≤ 40 := nameOk_le h1
      have l2 : t.size ≤ 40 := nameOk_le h2
      have hj := size_join s t
      have f3 := Lib.hid fun W => implNameOk (s ++ (⟨#[46]⟩ : ByteArray) ++ t) W (by rw [hj]; unfold maxLen; omega)
      have hz : (s ++ (⟨#[46]⟩ : ByteArray)).size = s.size + 1 := by rw [ByteArray.size_append]; rfl
      rw [h1] at f1
      rw [h2] at f2
      by_cases h3 : nameOk (s ++ (⟨#[46]⟩ : ByteArray) ++ t).data.toList = true
      · have HR := Lib.hid (show addRes s t = _ from if_pos ⟨h1, h2, h3⟩)
        rw [h3] at f3
        clear h1 h2 h3
        go_enter Tryz.func66, Tryz.ntmps66
        go_wp2_with fail
        (with_reducible refine (f1.out _).mono ?_); rintro e w1 ⟨rfl, hb1⟩
        go_wp2_with fail
        (with_reducible refine (f2.out _).mono ?_); rintro e w2 ⟨rfl, hb2⟩
        go_wp2_with fail
        (with_reducible refine (f3.out _).mono ?_); rintro e w3 ⟨rfl, hb3⟩
        go_wp2
        go_ret2
        rw [HR.out]
        exact ⟨rfl, (hb1.trans (hb2.mono hb1.size)).trans (hb3.mono (Nat.le_trans hb1.size hb2.size))⟩
      · have HR := Lib.hid (show addRes s t = _ from if_neg fun h => h3 h.2.2)
        rw [Bool.not_eq_true] at h3
        rw [h3] at f3
        clear h1 h2 h3
        go_enter Tryz.func66, Tryz.ntmps66
        go_wp2_with fail
        (with_reducible refine (f1.out _).mono ?_); rintro e w1 ⟨rfl, hb1⟩
        go_wp2_with fail
        (with_reducible refine (f2.out _).mono ?_); rintro e w2 ⟨rfl, hb2⟩
        go_wp2_with fail
        (with_reducible refine (f3.out _).mono ?_); rintro e w3 ⟨rfl, hb3⟩
        go_wp2
        go_ret2
        rw [HR.out]
        exact ⟨rfl, (hb1.trans (hb2.mono hb1.size)).trans (hb3.mono (Nat.le_trans hb1.size hb2.size))⟩
    · have HR := Lib.hid (show addRes s t = _ from if_neg fun h => h2 h.2.1)
      rw [Bool.not_eq_true] at h2
      rw [h1] at f1
      rw [h2] at f2
      clear h1 h2
      go_enter Tryz.func66, Tryz.ntmps66
      go_wp2_with fail
      (with_reducible refine (f1.out _).mono ?_); rintro e w1 ⟨rfl, hb1⟩
      go_wp2_with fail
      (with_reducible refine (f2.out _).mono ?_); rintro e w2 ⟨rfl, hb2⟩
      go_wp2
      go_ret2
      rw [HR.out]
      exact ⟨rfl, hb1.trans (hb2.mono hb1.size)⟩
  · have HR := Lib.hid (show addRes s t = _ from if_neg fun h => h1 h.1)
    rw [Bool.not_eq_true] at h1
    rw [h1] at f1
    clear h1
    go_enter Tryz.func66, Tryz.ntmps66
    go_wp2_with fail
    (with_reducible refine (f1.out _).mono ?_); rintro e w1 ⟨rfl, hb1⟩
    go_wp2
    go_ret2
    rw [HR.out]
    exact ⟨rfl, hb1⟩

end Go.Proofs.YtimekfhchammnaaGreatDoor

namespace Go.Proofs.YtimekfhchammnaaGreatDoor
set_option maxRecDepth 100000
open Go.ChangeShapes Go.WideShapes Go.ChangeAt Go.RowKit
set_option linter.unusedSimpArgs false
set_option linter.unusedVariables false

theorem termOk_len {l : List UInt8} (h : termOk l = true) : 1 ≤ l.length := by
  unfold termOk at h
  cases ht : termOf l with
  | none => rw [ht] at h; cases h
  | some t =>
    have := (termOf_is ht).2.1
    have := t.bytes_pos
    rw [← (termOf_is ht).2.1]
    omega
theorem specTermKind (s : ByteArray) (w : World) (hs : s.size ≤ maxLen) :
    Calls Tryz.prog 59 #[.string s] w fun e w' => e = .returned (.string ⟨(termKind s.data.toList).toArray⟩) ∧ Below w.heap.size w w' := by
  have f1 := Lib.hid (specTermOk s w hs)
  have hls : s.data.toList.length = s.size := rfl
  unfold maxLen at hs
  by_cases h : termOk s.data.toList = true
  · have h1 := termOk_len h
    rw [hls] at h1
    have HE : Hid ((⟨(termKind s.data.toList).toArray⟩ : ByteArray) = s.extract 0 1) := by
      rw [Hid, termKind, if_pos h]
      have := ext_str s 0 1
      rw [List.drop_zero, Nat.zero_add] at this
      exact this
    rw [h] at f1
    clear h hls
    go_enter Tryz.func59, Tryz.ntmps59
    go_wp2_with fail
    (with_reducible refine f1.out.mono ?_); rintro e w1 ⟨rfl, hb⟩
    go_wp2
    go_ret
    rw [HE.out]
    exact ⟨rfl, hb⟩
  · have HE : Hid (termKind s.data.toList = []) := by rw [Hid, termKind, if_neg h]
    rw [Bool.not_eq_true] at h
    rw [h] at f1
    clear h hls
    go_enter Tryz.func59, Tryz.ntmps59
    go_wp2_with fail
    (with_reducible refine f1.out.mono ?_); rintro e w1 ⟨rfl, hb⟩
    go_wp2
    go_ret
    rw [HE.out]
    exact ⟨rfl, hb⟩
end Go.Proofs.YtimekfhchammnaaGreatDoor

namespace Go.Proofs.YtimekfhchammnaaGreatDoor
set_option maxRecDepth 100000
open Go.ChangeShapes Go.WideShapes Go.ChangeAt Go.RowKit
set_option linter.unusedSimpArgs false

section
variable {P : Program} {ops : Array Oper} {Q : Exit → Act → World → Prop} {md : Region.Mode} {S : World → Prop}
/-- An operation that its guard lets by comes up first. -/
theorem heldW (i d : Nat) (v : Value) {oi : Oper} {fuel : Nat} {listed : Array Bool} {a : Act} {w : World} (hi : ops[i]? = some oi) (hd : oi.dst = some d)
    (hs : Region.noSelect ops = true) (hf : Region.free md ops listed i = true) (hr : (Region.ready md ops listed).contains i = true)
    (hQ : ∀ c a w, Q (.panic c) (a.put (some d) v) w → Q (.panic c) a w) (hw : Region.wanted oi (yielded ops a.tmps) = true) (hS : S w)
    (hrun : ∀ w, S w → (execOp a.eval oi).run P w = .ok (.value v) w)
    (h : wpAnyH P md ops Q S fuel (listed.setIfInBounds i true) (a.put (some d) v) w) : wpAnyH P md ops Q S (fuel + 1) listed a w :=
  wpAnyH_take hi hs hf hr (by rw [hd]; exact hQ) (Or.inl ⟨hw, hrun⟩) hS (by rw [hd]; exact h)
/-- An operation that its guard passes over comes up first. -/
theorem heldS (i d : Nat) {oi : Oper} {fuel : Nat} {listed : Array Bool} {a : Act} {w : World} (hi : ops[i]? = some oi) (hd : oi.dst = some d)
    (hs : Region.noSelect ops = true) (hf : Region.free md ops listed i = true) (hr : (Region.ready md ops listed).contains i = true)
    (hQ : ∀ c a w, Q (.panic c) (a.put (some d) undef) w → Q (.panic c) a w) (hw : Region.wanted oi (yielded ops a.tmps) = false) (hS : S w)
    (h : wpAnyH P md ops Q S fuel (listed.setIfInBounds i true) (a.put (some d) undef) w) : wpAnyH P md ops Q S (fuel + 1) listed a w :=
  wpAnyH_take hi hs hf hr (by rw [hd]; exact hQ) (Or.inr ⟨hw, rfl⟩) hS (by rw [hd]; exact h)
end
end Go.Proofs.YtimekfhchammnaaGreatDoor

namespace Go.Proofs.YtimekfhchammnaaGreatDoor
set_option maxRecDepth 100000
open Go.ChangeShapes Go.WideShapes Go.ChangeAt Go.RowKit
set_option linter.unusedSimpArgs false

theorem specInV (x lo hi : Int) (w : World) :
    Calls Tryz.prog 27 #[.int .i64 x, .int .i64 lo, .int .i64 hi] w fun e w' => e = .returned (.bool (decide (lo ≤ x) && decide (x ≤ hi))) ∧ w' = w := by
  by_cases h1 : lo ≤ x
  · have d1 : decide (lo ≤ x) = true := decide_eq_true h1
    by_cases h2 : x ≤ hi
    · have d2 : decide (x ≤ hi) = true := decide_eq_true h2
      go_enter Tryz.func27, Tryz.ntmps27
      go_wp2
      go_ret
      exact ⟨by simp [d1, d2], rfl⟩
    · have d2 : decide (x ≤ hi) = false := decide_eq_false h2
      go_enter Tryz.func27, Tryz.ntmps27
      go_wp2
      go_ret
      exact ⟨by simp [d1, d2], rfl⟩
  · have d1 : decide (lo ≤ x) = false := decide_eq_false h1
    go_enter Tryz.func27, Tryz.ntmps27
    go_wp2
    go_ret
    exact ⟨by simp [d1], rfl⟩
end Go.Proofs.YtimekfhchammnaaGreatDoor
