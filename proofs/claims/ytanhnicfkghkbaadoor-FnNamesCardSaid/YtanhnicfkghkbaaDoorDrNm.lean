/-
  Drawn names: contracts of spec.l01Pick and l02Name.
-/
import Derived.Test.YtanhnicfkghkbaaDoorDrNew
import Derived.Test.YtanhnicfkghkbaaDoorNMath
import Derived.Laws.AppendOwnNone
namespace Go.Proofs.YtanhnicfkghkbaaDoor
set_option maxRecDepth 100000
open Go.ChangeShapes Go.WideShapes Go.ChangeAt Go.RowKit
set_option linter.unusedSimpArgs false

theorem own_weakenS {w : World} {b b' n z : Nat} {e : TypeId} {v : Value} {xs : List Value} (h : w.ownsRow b e z v n xs) (hb : b' ≤ b) : w.ownsRow b' e z v n xs := by
  obtain ⟨h1, h2 | ⟨g, cap, cur, e, h3, h4⟩⟩ := h
  · exact ⟨h1, .inl h2⟩
  · exact ⟨h1, .inr ⟨g, cap, cur, e, Nat.le_trans hb h3, h4⟩⟩
theorem Cur.grownS {w0 w w' : World} {v : Value} {l : List UInt8} {cb : Nat} {row : Option Nat} (h : Cur w0 v l cb w) (hg : w.grownBy w' row) (h1 : row ≠ some cb) (h2 : ∀ k, row = some k → w0.heap.size ≤ k) : Cur w0 v l cb w' := by
  obtain ⟨b1, b2, b3, i, x, b4, c0, c1, c2, z1, z2⟩ := h
  have hb : w'.heap[cb]? = w.heap[cb]? := hg.block cb b3 (fun e => h1 e.symm)
  exact ⟨b1.grown hg b1.size h2, b2, Nat.lt_of_lt_of_le b3 hg.size, i, x, b4, (World.cell?_of_block (a := ⟨cb, 0, none⟩) hb).trans c0, (World.cell?_of_block (a := ⟨cb, 1, none⟩) hb).trans c1, (World.cell?_of_block (a := ⟨cb, 2, none⟩) hb).trans c2, (World.frozen?_of_block (a := ⟨cb, 1, none⟩) hb).trans z1, (World.frozen?_of_block (a := ⟨cb, 2, none⟩) hb).trans z2⟩
/-- One of the strings of a list that is no row of the cursor. -/
theorem drawPick {w0 w : World} {v : Value} {l : List UInt8} {cb : Nat} (hl : CameB w0 v l) (hc : Cur w0 v l cb w) (hn : l.length ≤ 2000000) {b n : Nat} {u : Value} {ls : List (List UInt8)}
    (hr : w.ownsRow b 9 1 u n (ls.map sv)) (hb : cb < b) (h1 : 1 ≤ n) (h2 : n ≤ 256) :
    Calls Tryd.prog 24 #[.pointer (some ⟨cb, 0, none⟩), u] w fun e w' => (∃ x, x ∈ ls ∧ e = .returned (.string ⟨x.toArray⟩)) ∧ Cur w0 v l cb w' ∧ w.grownBy w' (some cb) := by
  have hln : ls.length = n := by simpa using hr.1
  have f1 := Lib.hid (drawBelow hl hc hn n h1 h2)
  obtain ⟨g, cap, rfl, hgb, hgl⟩ := hr.form (by omega)
  have hgc : g ≠ cb := by have := (hr.lt g rfl).1; omega
  clear hl hc
  go_enter Tryd.func24, Tryd.ntmps24
  go_wp2_with fail
  (with_reducible refine f1.out.mono ?_); rintro e w1 ⟨⟨x, hx, rfl⟩, hc1, hg1⟩
  have hr1 := hr.kept hg1 (.inr (by simp [Value.ownBlock]; exact hgc))
  have ex : (ls.map sv)[x]? = some (sv ls[x]) := by simp [show x < ls.length by omega]
  have cc := (hr1.cellAt x (by omega)).trans ex
  unfold sv at cc
  have hm := List.getElem_mem (show x < ls.length by omega)
  have q1 : (0 : Int) ≤ (x : Int) := by omega
  have q2 : (x : Int) < (n : Int) := by omega
  generalize ls[x] = y at cc hm
  have H := Lib.hid (And.intro hc1 hg1)
  clear ex hr hr1 hc1 hg1 f1
  go_wp2
  go_ret
  exact ⟨⟨y, hm, rfl⟩, H.out⟩
def theNames : List (List UInt8) := [[110, 97, 116], [110, 97, 116, 46, 122, 101, 114, 111], [110, 97, 116, 46, 115, 117, 99, 99], [105, 100], [101, 109], [97, 46, 98], [97, 46, 98, 46, 99], [98, 111, 111, 108], [101, 113], [97, 100, 100], [120, 49]]
theorem theNames_ok : ∀ x ∈ theNames, nameOk x = true ∧ x.length ≤ 8 := by decide
theorem drawNameD {w0 : World} {v : Value} {l : List UInt8} {cb : Nat} (hl : CameB w0 v l) (hn : l.length ≤ 2000000) (w : World) (hc : Cur w0 v l cb w) :
    Calls Tryd.prog 16 #[.pointer (some ⟨cb, 0, none⟩)] w fun e w' => (∃ x, x ∈ theNames ∧ nameOk x = true ∧ x.length ≤ 8 ∧ e = .returned (.string ⟨x.toArray⟩)) ∧ Cur w0 v l cb w' ∧ w.grownBy w' (some cb) := by
  have hcw : cb < w.heap.size := hc.2.2.1
  have r0 : (w.alloc (.cells #[.string ⟨#[110, 97, 116]⟩, .string ⟨#[110, 97, 116, 46, 122, 101, 114, 111]⟩, .string ⟨#[110, 97, 116, 46, 115, 117, 99, 99]⟩, .string ⟨#[105, 100]⟩, .string ⟨#[101, 109]⟩, .string ⟨#[97, 46, 98]⟩, .string ⟨#[97, 46, 98, 46, 99]⟩, .string ⟨#[98, 111, 111, 108]⟩, .string ⟨#[101, 113]⟩, .string ⟨#[97, 100, 100]⟩, .string ⟨#[120, 49]⟩] 9)).ownsRow w.heap.size 9 1 (.slice (some ⟨w.heap.size, 0, none⟩) 11 11) 11 (theNames.map sv) := World.ownsRow_lit (base := w.heap.size) (e := 9) (size := 1) w #[.string ⟨#[110, 97, 116]⟩, .string ⟨#[110, 97, 116, 46, 122, 101, 114, 111]⟩, .string ⟨#[110, 97, 116, 46, 115, 117, 99, 99]⟩, .string ⟨#[105, 100]⟩, .string ⟨#[101, 109]⟩, .string ⟨#[97, 46, 98]⟩, .string ⟨#[97, 46, 98, 46, 99]⟩, .string ⟨#[98, 111, 111, 108]⟩, .string ⟨#[101, 113]⟩, .string ⟨#[97, 100, 100]⟩, .string ⟨#[120, 49]⟩] 11 (Nat.le_refl _) (by decide) (by simp)
  have b0 := (Below.refl w.heap.size w).alloc (Nat.le_refl _) (.cells #[.string ⟨#[110, 97, 116]⟩, .string ⟨#[110, 97, 116, 46, 122, 101, 114, 111]⟩, .string ⟨#[110, 97, 116, 46, 115, 117, 99, 99]⟩, .string ⟨#[105, 100]⟩, .string ⟨#[101, 109]⟩, .string ⟨#[97, 46, 98]⟩, .string ⟨#[97, 46, 98, 46, 99]⟩, .string ⟨#[98, 111, 111, 108]⟩, .string ⟨#[101, 113]⟩, .string ⟨#[97, 100, 100]⟩, .string ⟨#[120, 49]⟩] 9)
  have f1 := Lib.hid (drawPick hl (hc.below b0) hn r0 hcw (by decide) (by decide))
  have G0 := Lib.hid (grownBy_of_below b0 (some cb))
  clear r0 b0 hc hl
  go_enter Tryd.func16, Tryd.ntmps16
  go_wp2_with fail
  (with_reducible refine f1.out.mono ?_); rintro e w1 ⟨⟨x, hx, rfl⟩, hc1, hg1⟩
  obtain ⟨h1, h2⟩ := theNames_ok x hx
  have HX := Lib.hid hx
  have H := Lib.hid (And.intro hc1 (G0.out.trans hg1))
  clear hc1 hg1 hx f1 G0
  go_wp2
  go_ret
  exact ⟨⟨x, HX.out, h1, h2, rfl⟩, H.out⟩
theorem drawName {w0 : World} {v : Value} {l : List UInt8} {cb : Nat} (hl : CameB w0 v l) (hn : l.length ≤ 2000000) (w : World) (hc : Cur w0 v l cb w) :
    Calls Tryd.prog 16 #[.pointer (some ⟨cb, 0, none⟩)] w fun e w' => (∃ x, nameOk x = true ∧ x.length ≤ 8 ∧ e = .returned (.string ⟨x.toArray⟩)) ∧ Cur w0 v l cb w' ∧ w.grownBy w' (some cb) :=
  (drawNameD hl hn w hc).mono fun _ _ ⟨⟨x, _, h1, h2, h3⟩, h4⟩ => ⟨⟨x, h1, h2, h3⟩, h4⟩
theorem infoStrT : (Tryd.prog.info? 9).map (fun i => (i.zero, i.size, i.bytes)) = some (some (.string ⟨#[]⟩), 1, 16) := by kernel_rfl
/-- A row above the cursor's block stays while the cursor moves. -/
theorem keep_cur {w w' : World} {b cb n : Nat} {v : Value} {xs : List Value} (h : w.ownsRow b 9 1 v n xs) (hg : w.grownBy w' (some cb)) (hb : cb < b) : w'.ownsRow b 9 1 v n xs :=
  h.kept hg (by
    rcases hv : v.ownBlock with _ | g
    · exact .inl rfl
    · refine .inr fun e => ?_
      have h1 := (h.lt g hv).1
      have h2 : g = cb := by simpa using e
      omega)
end Go.Proofs.YtanhnicfkghkbaaDoor
