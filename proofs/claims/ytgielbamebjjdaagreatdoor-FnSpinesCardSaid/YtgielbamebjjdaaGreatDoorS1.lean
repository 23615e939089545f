/-
  The contract of strings.Compare at this translation, as the shelf command lays them in plain words (trimmed).
  The layings of slices.SortFunc and slices.Grow at this translation, as the shelf command lays them in plain words (trimmed).
  Contracts of slices.Grow at nil, slices.Concat at two lists of strings and impl.clones.
  Plain lemmas on the comparison of lists of bytes and of numbers by a sign; no function of the program is named here.
  Contracts of slices.SortFunc and slices.CompactFunc at strings over owned rows, of impl.united at strings, its function literal, and impl.NamesBoth.
  Contracts of impl.united at strings, its function literal, and impl.NamesBoth.
-/
import Derived.Shelf.Small.Strs
import Derived.Shelf.Small.Wraps
import Derived.Test.YtgielbamebjjdaaGreatDoorProg
import Derived.Shelf.SlSortCmp.NoneTotal
import Derived.Shelf.Spec.SlicesGrow
import Derived.Test.YtgielbamebjjdaaGreatDoorP4
import Derived.Test.YtgielbamebjjdaaGreatDoorE1
import Derived.Test.YtgielbamebjjdaaGreatDoorP1
import Derived.Laws.AppendOwnNone
import Derived.Sort.OwnSorted
import Derived.Lib.OwnBridge
import Derived.Test.YtgielbamebjjdaaGreatDoorBase
import Derived.Lib.Bytealg
import Derived.Lib.Small
import Derived.Deep.LoopGhost
import Derived.Lib.SliceRun
import Derived.StillTailTactics
namespace Go.Proofs
open Go.Shelf
def Tryz.lays106_ren : Go.Shelf.Ren := ⟨fun | 106 => 111 | 213 => 150 | 265 => 182 | n => n, fun | 9 => 9 | 3 => 3 | n => n, fun | n => n⟩
theorem Tryz.lays106 : Go.Proofs.Lays.n106 Tryz.prog Tryz.lays106_ren := {
  mixed := by kernel_rfl
  f106 := Tryz.func111.trans (congrArg some (by kernel_rfl))
  f213 := Tryz.func150.trans (congrArg some (by kernel_rfl))
  f265 := Tryz.func182.trans (congrArg some (by kernel_rfl))
  t3 := Tryz.underlying3
  a3 := Tryz.isAgg3
  z3 := Tryz.sizeOf3
  v3 := Tryz.zeroValue3
  t9 := Tryz.underlying9
  a9 := Tryz.isAgg9
  z9 := Tryz.sizeOf9
  v9 := Tryz.zeroValue9 }
open Go.RowKit in
theorem Tryz.strings_Compare (a b : ByteArray) (w : World) :
    Calls Tryz.prog 111 #[.string a, .string b] w fun e w' => e = .returned (.int .i64 (Lib.compareBytes a.data.toList b.data.toList)) ∧ w' = w := Any.strings_Compare Tryz.lays106 a b w
end Go.Proofs

namespace Go.Proofs
open Go.Shelf
def Tryz.laysSlF6_f60_ren : Go.Shelf.Ren := ⟨fun | 6 => 147 | 15 => 181 | 14 => 180 | 28 => 212 | 29 => 213 | 20 => 204 | 21 => 205 | 22 => 206 | 23 => 207 | 24 => 208 | 25 => 209 | 26 => 210 | 27 => 211 | 46 => 226 | 47 => 227 | 48 => 228 | 49 => 229 | 50 => 230 | 57 => 250 | n => n, fun | 22 => 25 | 24 => 9 | 25 => 133 | 3 => 3 | 39 => 161 | 0 => 0 | 53 => 220 | 55 => 222 | 4 => 4 | 46 => 214 | 45 => 213 | 50 => 185 | 5 => 5 | 9 => 9 | 66 => 228 | 70 => 232 | 76 => 248 | 77 => 140 | n => n, fun | n => n⟩
theorem Tryz.laysSlF6_f147 : Go.Proofs.SlLaysF.n6 Tryz.prog Tryz.laysSlF6_f60_ren := {
  mixed := by kernel_rfl
  f6 := ⟨Tryz.f147.name, by decide, Tryz.func147.trans (congrArg some (by kernel_rfl))⟩
  f14 := ⟨Tryz.f180.name, by decide, Tryz.func180.trans (congrArg some (by kernel_rfl))⟩
  f15 := Tryz.func181.trans (congrArg some (by kernel_rfl))
  f20 := ⟨Tryz.f204.name, by decide, Tryz.func204.trans (congrArg some (by kernel_rfl))⟩
  f21 := ⟨Tryz.f205.name, by decide, Tryz.func205.trans (congrArg some (by kernel_rfl))⟩
  f22 := ⟨Tryz.f206.name, by decide, Tryz.func206.trans (congrArg some (by kernel_rfl))⟩
  f23 := ⟨Tryz.f207.name, by decide, Tryz.func207.trans (congrArg some (by kernel_rfl))⟩
  f24 := ⟨Tryz.f208.name, by decide, Tryz.func208.trans (congrArg some (by kernel_rfl))⟩
  f25 := ⟨Tryz.f209.name, by decide, Tryz.func209.trans (congrArg some (by kernel_rfl))⟩
  f26 := ⟨Tryz.f210.name, by decide, Tryz.func210.trans (congrArg some (by kernel_rfl))⟩
  f27 := ⟨Tryz.f211.name, by decide, Tryz.func211.trans (congrArg some (by kernel_rfl))⟩
  f28 := Tryz.func212.trans (congrArg some (by kernel_rfl))
  f29 := Tryz.func213.trans (congrArg some (by kernel_rfl))
  f46 := ⟨Tryz.f226.name, by decide, Tryz.func226.trans (congrArg some (by kernel_rfl))⟩
  f47 := Tryz.func227.trans (congrArg some (by kernel_rfl))
  f48 := Tryz.func228.trans (congrArg some (by kernel_rfl))
  f49 := ⟨Tryz.f229.name, by decide, Tryz.func229.trans (congrArg some (by kernel_rfl))⟩
  f50 := ⟨Tryz.f230.name, by decide, Tryz.func230.trans (congrArg some (by kernel_rfl))⟩
  f57 := ⟨Tryz.f250.name, by decide, Tryz.func250.trans (congrArg some (by kernel_rfl))⟩
  t0 := Tryz.underlying0
  a0 := Tryz.isAgg0
  z0 := Tryz.sizeOf0
  v0 := Tryz.zeroValue0
  t3 := Tryz.underlying3
  a3 := Tryz.isAgg3
  z3 := Tryz.sizeOf3
  v3 := Tryz.zeroValue3
  t4 := Tryz.underlying4
  a4 := Tryz.isAgg4
  z4 := Tryz.sizeOf4
  v4 := Tryz.zeroValue4
  t5 := Tryz.underlying5
  a5 := Tryz.isAgg5
  z5 := Tryz.sizeOf5
  v5 := Tryz.zeroValue5
  t9 := Tryz.underlying9
  a9 := Tryz.isAgg9
  z9 := Tryz.sizeOf9
  v9 := Tryz.zeroValue9
  t22 := Tryz.underlying25
  a22 := Tryz.isAgg25
  z22 := Tryz.sizeOf25
  v22 := Tryz.zeroValue25
  a24 := Tryz.isAgg9
  z24 := Tryz.sizeOf9
  t25 := Tryz.underlying133
  a25 := Tryz.isAgg133
  z25 := Tryz.sizeOf133
  v25 := Tryz.zeroValue133
  t39 := Tryz.underlying161
  a39 := Tryz.isAgg161
  z39 := Tryz.sizeOf161
  v39 := Tryz.zeroValue161
  t45 := Tryz.underlying213
  a45 := Tryz.isAgg213
  z45 := Tryz.sizeOf213
  v45 := Tryz.zeroValue213
  t46 := Tryz.underlying214
  a46 := Tryz.isAgg214
  z46 := Tryz.sizeOf214
  v46 := Tryz.zeroValue214
  t50 := Tryz.underlying185
  a50 := Tryz.isAgg185
  z50 := Tryz.sizeOf185
  v50 := Tryz.zeroValue185
  t53 := Tryz.underlying220
  a53 := Tryz.isAgg220
  z53 := Tryz.sizeOf220
  v53 := Tryz.zeroValue220
  t55 := Tryz.underlying222
  a55 := Tryz.isAgg222
  z55 := Tryz.sizeOf222
  v55 := Tryz.zeroValue222
  t66 := Tryz.underlying228
  a66 := Tryz.isAgg228
  z66 := Tryz.sizeOf228
  v66 := Tryz.zeroValue228
  t70 := Tryz.underlying232
  a70 := Tryz.isAgg232
  z70 := Tryz.sizeOf232
  v70 := Tryz.zeroValue232
  t76 := Tryz.underlying248
  a76 := Tryz.isAgg248
  z76 := Tryz.sizeOf248
  v76 := Tryz.zeroValue248
  t77 := Tryz.underlying140
  a77 := Tryz.isAgg140
  z77 := Tryz.sizeOf140
  v77 := Tryz.zeroValue140 }
open Go.RowKit Go.Lib Go.Sort in
theorem Tryz.slices_SortFunc {α : Type} [Inhabited α] (enc : α → Value) (h1 : OneCell enc) (cf : α → α → Int) (hO : SWO (ltOf cf)) (g : Nat) (cb : Array Value) (blk off cap : Nat) (d : Array α) (w : World) (eg : ∀ args w, (callFunc g args).run Tryz.prog w = .ok (.enter g args) w) (hcmp : CmpLays1 Tryz.prog g cb enc cf blk off d.size w) (hH : Holds enc w blk off d) (hblk : blk < w.heap.size) (hsz : d.size < 4611686018427387904) :
    Calls Tryz.prog 147 #[.slice (some ⟨blk, off, none⟩) d.size cap, .func (.func g) #[] cb] w fun e w' =>
      e = .returned (.tuple #[]) ∧ ∃ d' n os, PermIn 0 d.size d d' ∧ SortedIn (ltOf cf) 0 d.size d' ∧ w' = sortWorld enc w blk off n d' os := Any.slices_SortFunc Tryz.laysSlF6_f147 enc h1 cf hO g cb blk off cap d w eg hcmp hH hblk hsz
def Tryz.lays8n4S_ren : Go.Shelf.Ren := ⟨fun | 4 => 179 | n => n, fun | 22 => 25 | 25 => 9 | 3 => 3 | 4 => 4 | 9 => 9 | 20 => 20 | 0 => 0 | n => n, fun | n => n⟩
theorem Tryz.lays8n4S : Go.Proofs.Lays8.n4 Tryz.prog Tryz.lays8n4S_ren := {
  mixed := by kernel_rfl
  f4 := ⟨Tryz.f179.name, by decide, Tryz.func179.trans (congrArg some (by kernel_rfl))⟩
  t0 := Tryz.underlying0
  a0 := Tryz.isAgg0
  z0 := Tryz.sizeOf0
  v0 := Tryz.zeroValue0
  t3 := Tryz.underlying3
  a3 := Tryz.isAgg3
  z3 := Tryz.sizeOf3
  v3 := Tryz.zeroValue3
  t4 := Tryz.underlying4
  a4 := Tryz.isAgg4
  z4 := Tryz.sizeOf4
  v4 := Tryz.zeroValue4
  t9 := Tryz.underlying9
  a9 := Tryz.isAgg9
  z9 := Tryz.sizeOf9
  v9 := Tryz.zeroValue9
  t20 := Tryz.underlying20
  a20 := Tryz.isAgg20
  z20 := Tryz.sizeOf20
  v20 := Tryz.zeroValue20
  t22 := Tryz.underlying25
  a22 := Tryz.isAgg25
  z22 := Tryz.sizeOf25
  v22 := Tryz.zeroValue25 }
end Go.Proofs

namespace Go.Proofs.YtgielbamebjjdaaGreatDoor
set_option maxRecDepth 100000
open Go.ChangeShapes Go.WideShapes Go.ChangeAt Go.RowKit

/-- append of an owned row of strings, nil or not, onto an owned row. -/
theorem append_rowsS {w : World} {ops : Array Oper} {rest : List Oper} {o : Oper} {a : Act} {Q : Exit → Act → World → Prop} (hgd : o.guard = none) (s x : Operand)
    (ho : o.op = .call { callee := .builtin .append, args := #[s, x], argTypes := #[25, 25] })
    (base : Nat) (v : Value) (n : Nat) (xs : List Value) (hs : a.eval s = v) (hown : w.ownsRow base 9 1 v n xs)
    (bx : Nat) (vx : Value) (l : List BL) (hx : a.eval x = vx) (hrow : w.ownsRow bx 9 1 vx l.length (l.map sv))
    (h63 : n + l.length ≤ 100000000) (hbase : base ≤ w.heap.size)
    (h : ∀ v' w', w'.ownsRow base 9 1 v' (n + l.length) (xs ++ l.map sv) → w.grownBy w' v.ownBlock → (v' = .slice none 0 0 → v = .slice none 0 0) → wpList Tryz.prog ops Q rest (a.put o.dst v') w') : wpList Tryz.prog ops Q (o :: rest) a w := by
  obtain ⟨i0, hi, hz0, hz1, hz2⟩ := info_parts infoStr
  rcases hrow.2 with ⟨rfl, h0⟩ | ⟨g, cap, cur, rfl, _⟩
  · have hl : l = [] := List.length_eq_zero_iff.1 h0
    subst hl
    refine wpList_append_own_none hgd s x 25 ho base 9 i0 1 Tryz.underlying25 hi v n xs hs hown hx ?_
    exact h v w (by simpa using hown) (World.grownBy.refl _ _) id
  · refine wpList_append_own w hgd s x 25 ho base 9 i0 _ 1 16 Tryz.underlying25 hi hz0 hz1 hz2 rfl (by decide) v n xs hs hown ⟨g, 0, none⟩ l.length cap (l.map sv) hx (by simp) (hrow.cells rfl) (one_map' l) (by unfold maxLen; omega) (by omega) hbase ?_
    intro v' w' h1 h2 h3
    exact h v' w' h1 h2 fun e => (h3.1 e).1

theorem growNil (n : Nat) (w : World) (hn : n ≤ 10000000) :
    Calls Tryz.prog 179 #[.slice none 0 0, .int .i64 (n : Int)] w fun e w' => ∃ v, e = .returned v ∧ w'.ownsRow w.heap.size 9 1 v 0 [] ∧ Below w.heap.size w w' := by
  rcases Nat.eq_zero_or_pos n with rfl | hp
  · refine (Any8.slices_Grow_room Tryz.lays8n4S none 0 0 0 w (Nat.le_refl _) (by decide) (by decide) (by decide)).mono ?_
    rintro e w' ⟨rfl, rfl⟩
    exact ⟨_, rfl, World.ownsRow_nil _ _ _ _, Below.refl _ _⟩
  · obtain ⟨i0, hi, hz0, hz1, hz2⟩ := info_parts infoStr
    refine (Any8.slices_Grow_grow Tryz.lays8n4S i0 (.string ⟨#[]⟩) hi hz0 (by omega) none 0 0 n [] w (Nat.le_refl _) (by omega) (by rw [hz2]; omega) (by omega) (by simp) (fun _ => rfl) (fun a h => by cases h)).mono ?_
    rintro e w' ⟨rfl, rfl⟩
    refine ⟨_, rfl, ?_, ?_⟩
    · have hge := grownCap_ge w (0 + n) 0 9
      have hge2 := grownCap_ge w n 0 9
      have hle := grownCap_le_maxLen w (0 + n) 0 9 (by unfold maxLen; omega)
      have := World.ownsRow_made (base := w.heap.size) (e := 9) (size := 1) w.drew (([] : List Value).toArray ++ Builtin.zeroCells (Value.string ⟨#[]⟩).cells (0 + n - 0) ++ Builtin.zeroCells (Value.string ⟨#[]⟩).cells (grownCap w (0 + n) 0 9 - (0 + n))) (grownCap w (0 + n) 0 9) (Nat.le_refl _) hle (by simp [Builtin.zeroCells, Value.cells]; omega)
      exact this
    · exact ((Below.refl w.heap.size w).drew).alloc (Nat.le_refl _) _

set_option maxHeartbeats 1000000 in
theorem concatTwo {w : World} {x b1 b2 : Nat} {v1 v2 : Value} {a b : List BL} (c0 : w.cell? ⟨x, 0, none⟩ = some v1) (c1 : w.cell? ⟨x, 1, none⟩ = some v2) (hx : x < w.heap.size)
    (h1 : w.ownsRow b1 9 1 v1 a.length (a.map sv)) (h2 : w.ownsRow b2 9 1 v2 b.length (b.map sv)) (ha : a.length ≤ 2000000) (hb : b.length ≤ 2000000) :
    Calls Tryz.prog 146 #[.slice (some ⟨x, 0, none⟩) 2 2] w (LRes (a ++ b) w) := by
  obtain ⟨a1, k1, rfl⟩ := own_slice h1
  obtain ⟨a2, k2, rfl⟩ := own_slice h2
  have f1 := Lib.hid fun W => growNil (a.length + b.length) W (by omega)
  have d1 : decide ((a.length : Int) < 0) = false := decide_eq_false (by omega)
  have d2 : decide ((a.length : Int) + (b.length : Int) < 0) = false := decide_eq_false (by omega)
  go_enter Tryz.func146, Tryz.ntmps146
  go_wp2
  refine wp_loop_rounds 3 ?_
  rw [rounds_succ]
  go_wp2
  rw [rounds_succ]
  go_wp2
  rw [rounds_succ]
  go_wp2_with fail
  (refine (f1.out _).mono ?_); rintro e w1 ⟨v, rfl, hv, hb1⟩
  have B1 : Below w.heap.size w w1 := hb1
  have c0' := (B1.cell (p := ⟨x, 0, none⟩) hx).trans c0
  have c1' := (B1.cell (p := ⟨x, 1, none⟩) hx).trans c1
  have r1 := own_below h1 B1
  have hl := hv.lt
  have hz := B1.size
  clear c0 c1 f1
  go_wp2
  refine wp_loop_rounds 3 ?_
  rw [rounds_succ]
  go_wp2_with (at_builtin; refine append_rowsS rfl _ _ rfl w.heap.size v 0 [] rfl hv b1 _ a rfl r1 (by omega) hz ?_; intro v3 w3 hv3 hg3 hnil3)
  have B3 : Below w.heap.size w w3 := B1.grown hg3 hz (fun q hq => (hl q hq).1)
  have c1'' := (B3.cell (p := ⟨x, 1, none⟩) hx).trans ((B1.cell (p := ⟨x, 1, none⟩) hx).symm.trans c1')
  have r2 := own_below h2 B3
  have hl3 := hv3.lt
  have hz3 := B3.size
  clear hv c0' c1' r1
  rw [rounds_succ]
  go_wp2_with (at_builtin; refine append_rowsS rfl _ _ rfl w.heap.size v3 _ _ rfl hv3 b2 _ b rfl r2 (by omega) hz3 ?_; intro v4 w4 hv4 hg4 hnil4)
  have B4 : Below w.heap.size w w4 := B3.grown hg4 hz3 (fun q hq => (hl3 q hq).1)
  rw [rounds_succ]
  go_wp2
  go_ret
  exact ⟨_, rfl, by simpa using hv4, B4⟩
end Go.Proofs.YtgielbamebjjdaaGreatDoor

namespace Go.Proofs.YtgielbamebjjdaaGreatDoor
set_option maxRecDepth 100000

theorem cmpB_cases : ∀ a b : List UInt8, (Lib.compareBytes a b = -1 ∧ a < b) ∨ (Lib.compareBytes a b = 0 ∧ a = b) ∨ (Lib.compareBytes a b = 1 ∧ b < a)
  | [], [] => .inr (.inl ⟨rfl, rfl⟩)
  | [], y :: b => .inl ⟨rfl, List.nil_lt_cons _ _⟩
  | x :: a, [] => .inr (.inr ⟨rfl, List.nil_lt_cons _ _⟩)
  | x :: a, y :: b => by
    rw [Lib.compareBytes]
    by_cases h1 : x < y
    · rw [if_pos h1]
      exact .inl ⟨rfl, List.cons_lt_cons_iff.2 (.inl h1)⟩
    · rw [if_neg h1]
      by_cases h2 : y < x
      · rw [if_pos h2]
        exact .inr (.inr ⟨rfl, List.cons_lt_cons_iff.2 (.inl h2)⟩)
      · rw [if_neg h2]
        have e : x = y := UInt8.toNat_inj.1 (by rw [UInt8.lt_iff_toNat_lt] at h1 h2; omega)
        subst e
        rcases cmpB_cases a b with ⟨h, h'⟩ | ⟨h, h'⟩ | ⟨h, h'⟩
        · exact .inl ⟨h, List.cons_lt_cons_iff.2 (.inr ⟨rfl, h'⟩)⟩
        · exact .inr (.inl ⟨h, by rw [h']⟩)
        · exact .inr (.inr ⟨h, List.cons_lt_cons_iff.2 (.inr ⟨rfl, h'⟩)⟩)
theorem cmpB_lt (a b : List UInt8) : decide (Lib.compareBytes a b < 0) = decide (a < b) := by
  rcases cmpB_cases a b with ⟨h, h'⟩ | ⟨h, h'⟩ | ⟨h, h'⟩
  · rw [h]; simp [h']
  · rw [h]; subst h'; simp
  · rw [h]
    have : ¬ a < b := fun h2 => List.lt_irrefl _ (List.lt_trans h2 h')
    simp [this]
theorem cmpB_zero (a b : List UInt8) : Lib.compareBytes a b = 0 ↔ a = b := by
  rcases cmpB_cases a b with ⟨h, h'⟩ | ⟨h, h'⟩ | ⟨h, h'⟩
  · rw [h]
    refine ⟨fun h2 => by omega, fun h2 => ?_⟩
    subst h2
    exact absurd h' (List.lt_irrefl _)
  · rw [h]; simp [h']
  · rw [h]
    refine ⟨fun h2 => by omega, fun h2 => ?_⟩
    subst h2
    exact absurd h' (List.lt_irrefl _)
theorem cmpI_lt (a b : Int) : Lib.compareInt a b < 0 ↔ a < b := by
  unfold Lib.compareInt
  by_cases h1 : a < b
  · simp [h1]
  · by_cases h2 : a > b <;> simp [h1, h2]
theorem cmpI_zero (a b : Int) : Lib.compareInt a b = 0 ↔ a = b := by
  unfold Lib.compareInt
  by_cases h1 : a < b
  · rw [if_pos h1]; omega
  · rw [if_neg h1]
    by_cases h2 : a > b
    · rw [if_pos h2]; omega
    · rw [if_neg h2]; omega
end Go.Proofs.YtgielbamebjjdaaGreatDoor

namespace Go.Proofs.YtgielbamebjjdaaGreatDoor
set_option maxRecDepth 100000
open Go.ChangeShapes Go.WideShapes Go.ChangeAt Go.RowKit
set_option linter.unusedSimpArgs false

theorem cmpB_ltOf (x y : BL) : ltOf Lib.compareBytes x y = decide (x < y) := cmpB_lt x y
theorem cmpB_swo : Go.Sort.SWO (ltOf Lib.compareBytes) where
  irrefl x := by rw [cmpB_ltOf]; simp
  trans x y z h1 h2 := by
    rw [cmpB_ltOf] at *
    simp only [decide_eq_true_eq] at *
    exact List.lt_trans h1 h2
  ntrans x y z h1 h2 := by
    rw [cmpB_ltOf] at *
    simp only [decide_eq_false_iff_not, List.not_lt] at *
    exact List.le_trans h2 h1
theorem cmpB_total (x y : BL) (h1 : ltOf Lib.compareBytes x y = false) (h2 : ltOf Lib.compareBytes y x = false) : x = y := by
  rw [cmpB_ltOf] at h1 h2
  simp only [decide_eq_false_iff_not, List.not_lt] at h1 h2
  exact List.le_antisymm h2 h1
theorem cmpB_le : (fun x y : BL => !(ltOf Lib.compareBytes) y x) = fun x y => decide (x ≤ y) := by
  funext x y
  rw [cmpB_ltOf]
  by_cases h : y < x
  · have h2 : ¬ x ≤ y := List.not_le.2 h
    simp [h, h2]
  · have h2 : x ≤ y := List.not_lt.1 h
    simp [h, h2]

theorem sortRowS {w0 w : World} {B : Nat} {v : Value} {l : List BL} (h : w.ownsRow B 9 1 v l.length (l.map sv)) (hb : Below B w0 w) (hn : l.length ≤ 10000000) :
    Calls Tryz.prog 147 #[v, .func (.func 111) #[] #[]] w fun e w' => e = .returned (.tuple #[]) ∧ w'.ownsRow B 9 1 v l.length ((l.mergeSort fun x y => decide (x ≤ y)).map sv) ∧ Below B w0 w' := by
  rcases Nat.eq_zero_or_pos l.length with h0 | hp
  · obtain ⟨a, cap, rfl⟩ := own_nil_orB h h0
    obtain rfl : l = [] := List.length_eq_zero_iff.1 h0
    refine (AnyF.slices_SortFunc_none { Tryz.laysSlF6_f147 with } a cap (.func (.func 111) #[] #[]) w).mono ?_
    rintro e w' ⟨rfl, rfl⟩
    exact ⟨rfl, by simpa using h, hb⟩
  · have hv : v ≠ .slice none 0 0 := by
      obtain ⟨g, cap, rfl, _, _⟩ := h.form hp
      intro e; cases e
    obtain ⟨g, cap, rfl, hbg, hgl, hnc, hcm, _, hH⟩ := Lib.holds_of_ownsRow (enc := encStr) (zs := l) h hv
    have eg : ∀ args w, (callFunc 111 args).run Tryz.prog w = .ok (.enter 111 args) w := enters_of Tryz.func111 (by kernel_rfl) rfl
    have hcmp : CmpReads Tryz.prog 111 #[] encStr Lib.compareBytes g 0 l.toArray.size w := fun m os dk _ x y => (Tryz.strings_Compare ⟨x.toArray⟩ ⟨y.toArray⟩ _).mono fun e w' ⟨he, hw⟩ => ⟨he, 0, hw⟩
    have hcon := Any.slices_SortFunc_total Tryz.laysSlF6_f147 encStr (fun _ => rfl) Lib.compareBytes cmpB_swo 111 #[] g 0 cap l.toArray w eg hcmp.lays hH hgl (by simp; omega) cmpB_total
    rw [cmpB_le] at hcon
    refine Calls.mono hcon ?_
    rintro e w' ⟨rfl, n, os, rfl⟩
    refine ⟨rfl, ?_, hb.grown (grownBy_sorted _) (by omega) (fun j hj => by cases hj; exact hbg)⟩
    rcases h.2 with ⟨e0, _⟩ | ⟨g', cap', cur, e0, hb1, hg1, hn1, hm1, hs1, _⟩
    · cases e0
    · cases e0
      exact ownsRow_sorted (ss := l) (List.length_mergeSort l) hb1 hg1 hn1 hm1 hs1

def setS : List Value → Nat → List Value → List Value
  | xs, _, [] => xs
  | xs, o, z :: r => setS (xs.set o z) (o + 1) r
theorem setS_take (m : Nat) : ∀ (zs xs : List Value) (o : Nat), m ≤ o → (setS xs o zs).take m = xs.take m
  | [], _, _, _ => rfl
  | z :: r, xs, o, h => by
    rw [setS, setS_take m r _ _ (by omega), List.take_set_of_le h]
theorem own_setCellsS {B e size g n cap : Nat} : ∀ (zs : List Value) {w : World} {xs : List Value} (o : Nat), w.ownsRow B e size (.slice (some ⟨g, 0, none⟩) n cap) n xs → (w.setCells g o zs).ownsRow B e size (.slice (some ⟨g, 0, none⟩) n cap) n (setS xs o zs)
  | [], _, _, _, h => h
  | z :: r, _, _, o, h => own_setCellsS r (o + 1) (h.stored o z).1
theorem below_setCellsS {B g : Nat} {w0 : World} (hg : B ≤ g) : ∀ (zs : List Value) {w : World} (o : Nat), Below B w0 w → Below B w0 (w.setCells g o zs)
  | [], _, _, h => h
  | z :: r, _, o, h => below_setCellsS hg r (o + 1) (h.setCell (p := ⟨g, o, none⟩) hg z)
theorem own_cutS {B e size g n m cap : Nat} {w : World} {xs : List Value} (h : w.ownsRow B e size (.slice (some ⟨g, 0, none⟩) n cap) n xs) (hm : m ≤ n) : w.ownsRow B e size (.slice (some ⟨g, 0, none⟩) m cap) m (xs.take (m * size)) := by
  have hle : m * size ≤ n * size := Nat.mul_le_mul_right _ hm
  refine ⟨by rw [List.length_take, h.1]; omega, ?_⟩
  rcases h.2 with ⟨e0, _⟩ | ⟨g', cap', cur, e0, h1, h2, h3, h4, h5, h6⟩
  · cases e0
  · cases e0
    refine .inr ⟨g, cap, cur, rfl, h1, h2, by omega, h4, h5, ?_⟩
    rw [← h6, List.take_take, Nat.min_eq_left hle]
theorem comp_takeS {d dk : Array BL} {m k : Nat} (h : Lib.CompInv d m k dk) (hm : m ≤ d.size) : Lib.compactUpTo d m = dk.toList.take k := by
  have hk := h.lt
  have hsz := h.size
  apply List.ext_getElem?
  intro j
  by_cases hj : j < k
  · have hs : j < dk.size := by omega
    rw [h.low j hj, List.getElem?_take_of_lt hj, getElem!_pos dk j hs]
    simp [hs]
  · rw [List.getElem?_eq_none (by rw [h.len]; omega), List.getElem?_eq_none (by simp; omega)]
theorem comp_atS {d dk : Array BL} {m k j : Nat} (h : Lib.CompInv d m k dk) (hj : k ≤ j) (hd : j < d.size) : (dk.toList.map sv)[j]? = some (sv d[j]!) := by
  have hs : j < dk.size := by rw [h.size]; exact hd
  rw [← h.high j hj, getElem!_pos dk j hs]
  simp [hs]

def EqAtS (B : Nat) (w0 : World) (bx : Value) : Prop := ∀ W, Below B w0 W → ∀ (n1 n2 : BL), Calls Tryz.prog 149 #[.string ⟨n1.toArray⟩, .string ⟨n2.toArray⟩, bx] W fun e w' => e = .returned (.bool (decide (n1 = n2))) ∧ Below W.heap.size W w'

set_option maxHeartbeats 4000000 in
theorem compactFuncS {w0 w : World} {B : Nat} {v bx : Value} {l : List BL} (h : w.ownsRow B 9 1 v l.length (l.map sv)) (hb : Below B w0 w) (hn : l.length ≤ 10000000) (hE : EqAtS B w0 bx) :
    Calls Tryz.prog 148 #[v, .func (.func 149) #[] #[bx]] w fun e w' => ∃ v', e = .returned v' ∧ w'.ownsRow B 9 1 v' (Lib.compact l).length ((Lib.compact l).map sv) ∧ Below B w0 w' := by
  by_cases h2 : l.length < 2
  · have HR := Lib.hid (Lib.compact_all l fun j hj => Lib.keeps_lt_one _ j (by omega))
    have HH := Lib.hid h
    obtain ⟨a, cap, rfl⟩ := own_slice h
    clear h
    have d1 : decide ((l.length : Int) < 2) = true := decide_eq_true (by omega)
    go_enter Tryz.func148, Tryz.ntmps148
    go_wp2
    go_ret
    rw [HR.out]
    exact ⟨_, rfl, HH.out, hb⟩
  · obtain ⟨g, cap, rfl, hBg, hgl⟩ := h.form (by omega)
    have hnc : l.length ≤ cap := by
      rcases h.2 with ⟨_, h0⟩ | ⟨g', cap', cur, e0, _, _, h3, _⟩
      · omega
      · cases e0; exact h3
    have d1 : decide ((l.length : Int) < 2) = false := decide_eq_false (by omega)
    have HE := Lib.hid hE
    clear hE
    go_enter Tryz.func148, Tryz.ntmps148
    go_wp2
    go_loopg [5] l.length (fun gh s5 wr => ∃ k : Nat, 1 ≤ k ∧ k ≤ l.length ∧ l.length - k ≤ gh ∧ s5 = .int .i64 k ∧ wr.ownsRow B 9 1 (.slice (some ⟨g, 0, none⟩) l.length cap) l.length (l.map sv) ∧ Below B w0 wr ∧ Hid (∀ j, j < k → Lib.keeps l.toArray j = true))
    case atStart => exact ⟨1, Nat.le_refl _, by omega, by omega, rfl, h, hb, Lib.keeps_lt_one _⟩
    case round =>
      obtain ⟨k, hk1, hk, hg, rfl, hown, hbel, HA⟩ := hrel
      clear h hb
      have hz := hbel.size
      by_cases hlt : k < l.length
      · obtain ⟨k', hk'⟩ : ∃ k', k = k' + 1 := ⟨k - 1, by omega⟩
        have hlt' : k' < l.length := by omega
        have fa : (l.map sv)[k]? = some (sv l[k]) := by simp [hlt]
        have ga : (l.map sv)[k']? = some (sv l[k']) := by simp [hlt']
        have ca := (hown.cellAt k (by omega)).trans fa
        have da := (hown.cellAt k' (by omega)).trans ga
        have HX : Hid (l.toArray[k]! = l[k] ∧ l.toArray[k - 1]! = l[k']) := by
          subst hk'
          constructor <;> simp [getElem!_pos, hlt, hlt']
        clear fa ga
        generalize l[k] = nx at ca HX
        generalize l[k'] = ny at da HX
        unfold sv at ca da
        have q1 : (0 : Int) ≤ (k : Int) := by omega
        have q2 : (k : Int) < (l.length : Int) := by omega
        have q3 : (0 : Int) ≤ (k' : Int) := by omega
        have q4 : (k' : Int) < (l.length : Int) := by omega
        have q12 : IntKind.i64.wrap ((k : Int) - 1) = (k' : Int) := by rw [IntKind.wrap_i64]; omega
        have f1 := Lib.hid (HE.out wr.drew hbel.drew nx ny)
        clear hk' hlt'
        by_cases hdup : nx = ny
        · rw [decide_eq_true hdup] at f1
          have HD : Hid (Lib.keeps l.toArray k = false) := Lib.keeps_neg (by omega) (by rw [HX.out.1, HX.out.2, hdup])
          clear hdup HX
          go_wp2_with fail
          go_still_tail 10, (by kernel_rfl)
          change wpList _ _ _ _ _ wr.drew
          have hown1 := hown.drew
          have hbel1 := hbel.drew
          clear hown hbel ca da
          generalize wr.drew = wd at f1 hown1 hbel1
          go_wp2_with fail
          (with_reducible refine f1.out.mono ?_); rintro e w2 ⟨rfl, hb2⟩
          go_wp2
          have hown2 := own_below hown1 hb2
          have hbel2 := hbel1.trans (hb2.mono (by have := (hown1.lt g rfl).1; have := (hown1.lt g rfl).2; omega))
          clear hown1 hbel1 hb2 f1
          go_loopg [5, 7] l.length (fun gh s5 s7 wr => ∃ (kk k2 : Nat) (dk : Array BL), s5 = .int .i64 kk ∧ s7 = .int .i64 k2 ∧ 1 ≤ k2 ∧ k + k2 ≤ l.length ∧ l.length - (k + k2) ≤ gh ∧ wr.ownsRow B 9 1 (.slice (some ⟨g, 0, none⟩) l.length cap) l.length (dk.toList.map sv) ∧ Below B w0 wr ∧ Hid (Lib.CompInv l.toArray (k + k2) kk dk))
          case atStart => exact ⟨k, 1, l.toArray, rfl, rfl, Nat.le_refl _, by omega, by omega, hown2, hbel2, Lib.CompInv.start HA.out HD.out⟩
          case round =>
            obtain ⟨kk, k2, dk, rfl, rfl, h1, hle, hg2, hownk, hbelk, HI⟩ := hrel
            clear hown2 hbel2 HD HA
            have hkk := HI.out.lt
            have hds := HI.out.size
            have hdl : dk.toList.length = l.length := by simpa using hds
            have hfl : (dk.toList.map sv).length = l.length := by rw [List.length_map, hdl]
            by_cases hlt2 : k + k2 < l.length
            · obtain ⟨k3, hk3⟩ : ∃ k3, k2 = k3 + 1 := ⟨k2 - 1, by omega⟩
              have fa := comp_atS HI.out (j := k + k2) (by omega) (by simpa using hlt2)
              have ga := comp_atS HI.out (j := k + k3) (by omega) (by simp; omega)
              have ca := (hownk.cellAt (k + k2) (by omega)).trans fa
              have da := (hownk.cellAt (k + k3) (by omega)).trans ga
              have HY : Hid (l.toArray[k + k2 - 1]! = l.toArray[k + k3]!) := by rw [Hid, show k + k2 - 1 = k + k3 by omega]
              clear fa ga
              generalize hu : l.toArray[k + k2]! = nx at ca
              generalize hv : l.toArray[k + k3]! = ny at da HY
              have HU := Lib.hid hu
              clear hu hv
              unfold sv at ca da
              have q1 : (0 : Int) ≤ (k2 : Int) := by omega
              have q2 : (k2 : Int) < ((l.length - k : Nat) : Int) := by omega
              have q2' : k2 < l.length - k := by omega
              have q3 : (0 : Int) ≤ (k3 : Int) := by omega
              have q4 : (k3 : Int) < ((l.length - k : Nat) : Int) := by omega
              have q4' : k3 < l.length - k := by omega
              have q12 : IntKind.i64.wrap ((k2 : Int) - 1) = (k3 : Int) := by rw [IntKind.wrap_i64]; omega
              have f1 := Lib.hid (HE.out wr.drew hbelk.drew nx ny)
              clear hk3
              by_cases huv : nx = ny
              · rw [decide_eq_true huv] at f1
                have HN : Hid (Lib.keeps l.toArray (k + k2) = false) := Lib.keeps_neg (by omega) (by rw [HU.out, HY.out, huv])
                have HI2 := Lib.hid (HI.out.skip HN.out)
                clear huv HU HY HN HI
                go_wp2_with fail
                go_still_tail 10, (by kernel_rfl)
                change wpList _ _ _ _ _ wr.drew
                have hown1 := hownk.drew
                have hbel1 := hbelk.drew
                clear hownk hbelk ca da
                generalize wr.drew = wd at f1 hown1 hbel1
                go_wp2_with fail
                (with_reducible refine f1.out.mono ?_); rintro e w3 ⟨rfl, hb3⟩
                have hown3 := own_below hown1 hb3
                have hbel3 := hbel1.trans (hb3.mono (by have := (hown1.lt g rfl).1; have := (hown1.lt g rfl).2; omega))
                go_wp2
                go_roundg (l.length - (k + (k2 + 1)))
                case measure => omega
                case rel => exact ⟨kk, k2 + 1, dk, rfl, by go_num, by omega, by omega, Nat.le_refl _, hown3, hbel3, HI2.out⟩
              · rw [decide_eq_false huv] at f1
                have HI2 := Lib.hid (HI.out.keep (by simpa using hlt2) (Lib.keeps_pos (by rw [HU.out, HY.out]; exact huv)))
                rw [HU.out] at HI2
                clear huv HU HY HI
                have hkl : kk < l.length := by omega
                have q5 : (0 : Int) ≤ (kk : Int) := by omega
                have q6 : (kk : Int) < (l.length : Int) := by omega
                go_wp2_with fail
                go_still_tail 10, (by kernel_rfl)
                change wpList _ _ _ _ _ wr.drew
                have hown1 := hownk.drew
                have hbel1 := hbelk.drew
                have ca1 : wr.drew.cell? ⟨g, k + k2, none⟩ = some (.string ⟨nx.toArray⟩) := ca
                clear hownk hbelk ca da
                generalize wr.drew = wd at f1 hown1 hbel1 ca1
                go_wp2_with fail
                (with_reducible refine f1.out.mono ?_); rintro e w3 ⟨rfl, hb3⟩
                have hown3 := own_below hown1 hb3
                have hgd := (hown1.lt g rfl).2
                have hbel3 := hbel1.trans (hb3.mono (by have := (hown1.lt g rfl).1; omega))
                have ca3 := (hb3.cell (p := ⟨g, k + k2, none⟩) hgd).trans ca1
                have co := hown3.cellAt kk (by omega)
                rw [List.getElem?_eq_getElem (by omega)] at co
                have cf := hown3.frozenAt kk
                generalize (dk.toList.map sv)[kk] = old1 at co
                have HW := Lib.hid ((hown3.stored kk (.string ⟨nx.toArray⟩)).1)
                have HB := Lib.hid (hbel3.setCell (p := ⟨g, kk, none⟩) hBg (.string ⟨nx.toArray⟩))
                clear hown1 hown3 hb3 ca1 f1
                go_wp2
                go_roundg (l.length - (k + (k2 + 1)))
                case measure => omega
                case rel =>
                  refine ⟨kk + 1, k2 + 1, dk.setIfInBounds kk nx, by go_num, by go_num, by omega, by omega, Nat.le_refl _, ?_, HB.out, HI2.out⟩
                  rw [Array.toList_setIfInBounds, List.map_set]
                  exact HW.out
            · have hend : k + k2 = l.length := by omega
              have hkl : kk < l.length := by omega
              have hcl : ∀ ty, (Builtin.clear_ #[25] ty #[.slice (some ⟨g, kk, none⟩) (l.length - kk) (cap - kk)]).run Tryz.prog wr = .ok (.tuple #[]) (wr.setCells g kk (List.replicate (l.length - kk) (.string ⟨#[]⟩))) :=
                fun ty => Lib.run_clear_slice wr _ _ ty _ Tryz.underlying25 Tryz.zeroValue9 rfl rfl g kk _ _ (by omega) (fun j hj => by rw [hownk.cellAt (kk + j) (by omega), List.getElem?_eq_getElem (by omega)]; rfl) (fun j hj => hownk.frozenAt (kk + j))
              have HO := Lib.hid (own_cutS (own_setCellsS (List.replicate (l.length - kk) (.string ⟨#[]⟩)) kk hownk) (m := kk) (by omega))
              have HB := Lib.hid (below_setCellsS hBg (List.replicate (l.length - kk) (.string ⟨#[]⟩)) kk hbelk)
              rw [Nat.mul_one, setS_take _ _ _ _ (Nat.le_refl _), ← List.map_take] at HO
              have HT := Lib.hid (comp_takeS HI.out (by simp; omega))
              have HL := Lib.hid HI.out.len
              rw [hend] at HT HL
              have HC : Hid (Lib.compact l = dk.toList.take kk ∧ (Lib.compact l).length = kk) := ⟨HT.out, HL.out⟩
              have q5 : (0 : Int) ≤ (kk : Int) := by omega
              have q6 : (kk : Int) ≤ (l.length : Int) := by omega
              have d3 : decide ((k2 : Int) < ((l.length - k : Nat) : Int)) = false := decide_eq_false (by omega)
              have d4 : ¬ k2 < l.length - k := by omega
              clear hownk hbelk HI HT HL
              generalize wr.setCells g kk (List.replicate (l.length - kk) (.string ⟨#[]⟩)) = wc at hcl HO HB
              go_wp2
              go_ret
              refine ⟨_, rfl, ?_, HB.out⟩
              rw [HC.out.2, HC.out.1]
              exact HO.out
        · rw [decide_eq_false hdup] at f1
          have HK : Hid (∀ j, j < k + 1 → Lib.keeps l.toArray j = true) := fun j hj => by
            by_cases e : j = k
            · subst e
              exact Lib.keeps_pos (by rw [HX.out.1, HX.out.2]; exact hdup)
            · exact HA.out j (by omega)
          clear hdup HX HA
          go_wp2_with fail
          go_still_tail 10, (by kernel_rfl)
          change wpList _ _ _ _ _ wr.drew
          have hown1 := hown.drew
          have hbel1 := hbel.drew
          clear hown hbel ca da
          generalize wr.drew = wd at f1 hown1 hbel1
          go_wp2_with fail
          (with_reducible refine f1.out.mono ?_); rintro e w2 ⟨rfl, hb2⟩
          have hown2 := own_below hown1 hb2
          have hbel2 := hbel1.trans (hb2.mono (by have := (hown1.lt g rfl).1; have := (hown1.lt g rfl).2; omega))
          go_wp2
          go_roundg (l.length - (k + 1))
          case measure => omega
          case rel => exact ⟨k + 1, by omega, by omega, Nat.le_refl _, by go_num, hown2, hbel2, HK.out⟩
      · obtain rfl : k = l.length := by omega
        have HC := Lib.hid (Lib.compact_all l HA.out)
        have HO := Lib.hid hown
        clear hown HA
        go_wp2
        go_ret
        rw [HC.out]
        exact ⟨_, rfl, HO.out, hbel⟩
end Go.Proofs.YtgielbamebjjdaaGreatDoor

namespace Go.Proofs.YtgielbamebjjdaaGreatDoor
set_option maxRecDepth 100000
open Go.ChangeShapes Go.WideShapes Go.ChangeAt Go.RowKit
set_option linter.unusedSimpArgs false

set_option maxHeartbeats 1000000 in
theorem eqLitS {B pb : Nat} {w0 : World} (hc : w0.cell? ⟨pb, 0, none⟩ = some (.func (.func 111) #[] #[])) (hp : pb < B) : EqAtS B w0 (.pointer (some ⟨pb, 0, none⟩)) := by
  intro W hW n1 n2
  have hcW := (hW.cell (p := ⟨pb, 0, none⟩) hp).trans hc
  have f1 := Lib.hid fun W => Tryz.strings_Compare ⟨n1.toArray⟩ ⟨n2.toArray⟩ W
  simp only at f1
  have HD : Hid (decide (Lib.compareBytes n1 n2 = 0) = decide (n1 = n2)) := by simp [Hid, cmpB_zero n1 n2]
  have eg : ∀ args w, (callFunc 111 args).run Tryz.prog w = .ok (.enter 111 args) w := enters_of Tryz.func111 (by kernel_rfl) rfl
  generalize Lib.compareBytes n1 n2 = r at f1 HD
  clear hc hp hW
  go_enter Tryz.func149, Tryz.ntmps149
  go_wp2_with fail
  (with_reducible refine (f1.out _).mono ?_); rintro e w1 ⟨rfl, rfl⟩
  have hd : (r == 0) = decide (n1 = n2) := by rw [← HD.out]; rfl
  have HF := Lib.hid hd
  clear hd HD
  go_wp2
  go_ret
  refine ⟨?_, Below.refl _ _⟩
  rw [← HF.out]
  rfl

set_option maxHeartbeats 1000000 in
theorem unitedS {w : World} {b1 b2 : Nat} {v1 v2 : Value} {a b : List BL} (h1 : w.ownsRow b1 9 1 v1 a.length (a.map sv)) (h2 : w.ownsRow b2 9 1 v2 b.length (b.map sv)) (ha : a.length ≤ 2000000) (hb : b.length ≤ 2000000) :
    Calls Tryz.prog 110 #[v1, v2, .func (.func 111) #[] #[]] w (LRes (srt (a ++ b)) w) := by
  have BA : Below w.heap.size w ((w.alloc (.cells #[.func (.func 111) #[] #[]] 133)).alloc (.cells #[v1, v2] 25)) := ((Below.refl _ _).alloc (Nat.le_refl _) _).alloc (by simp) _
  have hsz : ((w.alloc (.cells #[.func (.func 111) #[] #[]] 133)).alloc (.cells #[v1, v2] 25)).heap.size = w.heap.size + 2 := by simp
  have x0 : ((w.alloc (.cells #[.func (.func 111) #[] #[]] 133)).alloc (.cells #[v1, v2] 25)).cell? ⟨w.heap.size, 0, none⟩ = some (.func (.func 111) #[] #[]) := (((Below.refl (w.alloc (.cells #[.func (.func 111) #[] #[]] 133)).heap.size _).alloc (Nat.le_refl _) _).cell (p := ⟨w.heap.size, 0, none⟩) (by simp)).trans (World.news_of_block (cs := #[.func (.func 111) #[] #[]]) (t := 133) (fr := (0, 0)) (heap_alloc_new w _) 0 _ rfl)
  have y0 : ((w.alloc (.cells #[.func (.func 111) #[] #[]] 133)).alloc (.cells #[v1, v2] 25)).cell? ⟨w.heap.size + 1, 0, none⟩ = some v1 := by simp
  have y1 : ((w.alloc (.cells #[.func (.func 111) #[] #[]] 133)).alloc (.cells #[v1, v2] 25)).cell? ⟨w.heap.size + 1, 1, none⟩ = some v2 := by simp
  have f1 := Lib.hid (concatTwo y0 y1 (by omega) (own_below h1 BA) (own_below h2 BA) ha hb)
  have HL : Hid ((a ++ b).length ≤ 10000000) := by simp [Hid]; omega
  have HS := Lib.hid (compact_srt (a ++ b))
  have HM : Hid (((a ++ b).mergeSort fun x y => decide (x ≤ y)).length = (a ++ b).length) := List.length_mergeSort _
  obtain ⟨a1, k1, rfl⟩ := own_slice h1
  obtain ⟨a2, k2, rfl⟩ := own_slice h2
  clear h1 h2 y0 y1
  generalize a ++ b = ab at f1 HL HS HM
  go_enter Tryz.func110, Tryz.ntmps110
  go_wp2_with fail
  (with_reducible refine f1.out.mono ?_); rintro e w2 ⟨v, rfl, hv, hb2⟩
  clear f1
  generalize (w.alloc (.cells #[.func (.func 111) #[] #[]] 133)).alloc (.cells #[.slice a1 a.length k1, .slice a2 b.length k2] 25) = wa at BA hsz x0 hv hb2
  have c2 := (hb2.cell (p := ⟨w.heap.size, 0, none⟩) (show w.heap.size < _ by omega)).trans x0
  have hE := Lib.hid (eqLitS (B := wa.heap.size) x0 (by omega))
  have f2 := Lib.hid (sortRowS hv hb2 HL.out)
  obtain ⟨av, kv, hve⟩ := own_slice hv
  clear hv
  subst hve
  go_wp2_with fail
  (with_reducible refine f2.out.mono ?_); rintro e w3 ⟨rfl, hv3, hb3⟩
  clear f2 c2
  rw [← HM.out] at hv3
  have f3 := Lib.hid (compactFuncS hv3 hb3 (by rw [HM.out]; exact HL.out) hE.out)
  rw [HS.out, HM.out] at f3
  clear hv3
  go_wp2_with fail
  (with_reducible refine f3.out.mono ?_); rintro e w4 ⟨v4, rfl, hv4, hb4⟩
  go_wp2
  go_ret
  exact ⟨_, rfl, own_mono' hv4 (by omega), BA.trans (hb4.mono (by omega))⟩

theorem implNamesBoth {w : World} {b1 b2 : Nat} {v1 v2 : Value} {a b : List BL} (h1 : w.ownsRow b1 9 1 v1 a.length (a.map sv)) (h2 : w.ownsRow b2 9 1 v2 b.length (b.map sv)) (hn : a.length + b.length ≤ 1048576) (hx : ∀ x ∈ a ++ b, x.length ≤ 1048576) :
    Calls Tryz.prog 65 #[v1, v2] w (LRes (srt (a ++ b)) w) := by
  have f1 := Lib.hid (unitedS h1 h2 (by omega) (by omega))
  obtain ⟨_, s2, s3⟩ := srt_spec _ (a ++ b) (Nat.le_refl _)
  have hsl : (srt (a ++ b)).length ≤ 10000000 := by simp at s3; omega
  have hsx : ∀ x ∈ srt (a ++ b), x.length ≤ 281474976710656 := fun x h => by have := hx x ((s2 x).1 h); omega
  obtain ⟨a1, k1, rfl⟩ := own_slice h1
  obtain ⟨a2, k2, rfl⟩ := own_slice h2
  clear s2 s3 h1 h2 hx hn
  generalize srt (a ++ b) = l at f1 hsl hsx
  go_enter Tryz.func65, Tryz.ntmps65
  go_wp2_with fail
  (with_reducible refine f1.out.mono ?_); rintro e w3 ⟨v3, rfl, ho3, hb3⟩
  have hz3 := hb3.size
  have f2 := Lib.hid (clones ho3 hsl hsx)
  clear f1 ho3
  go_wp2_with fail
  (with_reducible refine f2.out.mono ?_); rintro e w6 ⟨v6, rfl, ho6, hb6⟩
  go_wp2
  go_ret
  exact ⟨_, rfl, own_mono' ho6 hz3, hb3.trans (hb6.mono hz3)⟩
end Go.Proofs.YtgielbamebjjdaaGreatDoor
