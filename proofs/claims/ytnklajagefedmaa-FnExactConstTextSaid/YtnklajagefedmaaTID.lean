/-
  The contract of impl.textOf from that of the value's own method; terms that are constants.
-/
import Derived.Test.YtnklajagefedmaaTIC
import Derived.Shelf.Abstract
namespace Go.Proofs.Ytnklajagefedmaa
set_option maxRecDepth 100000
open Go.ChangeShapes Go.WideShapes Go.ChangeAt Go.RowKit
set_option linter.unusedSimpArgs false

/-- The method appendTo of values of this type is this function. -/
def MethIs (T : TypeId) (fn : FuncId) : Prop :=
  (∀ n x w, (method (n + 1) T x "loop.example/g00963/impl.appendTo").run Try.prog w = .ok (fn, x) w) ∧ ∀ args w, (callFunc fn args).run Try.prog w = .ok (.enter fn args) w
theorem methConst : MethIs 29 36 :=
  ⟨fun n x w => by kernel_rfl, Go.Proofs.enters_of Try.func36 (by kernel_rfl) rfl⟩
theorem implTextOf {w0 : World} {T : TypeId} {fn : FuncId} {x : Value} {out : List UInt8} (hm : MethIs T fn) (hc : Calls Try.prog fn #[x, .slice none 0 0] w0 (AppAns w0 w0 out)) :
    Calls Try.prog 13 #[.iface T x] w0 fun e W' => e = .returned (.string ⟨out.toArray⟩) ∧ Below w0.heap.size w0 W' := by
  obtain ⟨m1, m2⟩ := hm
  have f1 := Lib.hid hc
  clear hc
  go_enter Try.func13, Try.ntmps13
  go_wp2_with fail
  (with_reducible refine f1.out.mono ?_); rintro e w1 ⟨u, rfl, hu, hb, _⟩
  have hcv := conv_own (P := Try.prog) w1 Try.underlying38 Try.underlying5 Try.underlying9 hu
  have HB := Lib.hid hb
  clear hu hb
  go_wp2
  go_ret
  exact ⟨rfl, HB.out⟩
theorem textConst (s : List UInt8) {ls : List (List UInt8)} {w0 : World} {b g0 : Nat} {c : Value} (hg : w0.heap[g0]? = some (.cells #[.string ⟨s.toArray⟩, c] 31 (0, 0))) (hr : w0.ownsRow b 9 1 c ls.length (ls.map sv)) (hl : (Tm.const s ls).bytes.length ≤ 100000000) :
    Calls Try.prog 13 #[.iface 29 (.pointer (some ⟨g0, 0, none⟩))] w0 fun e W' => e = .returned (.string ⟨(Tm.const s ls).bytes.toArray⟩) ∧ Below w0.heap.size w0 W' :=
  implTextOf methConst (appConst (l := []) s hg hr (Below.refl _ _) (World.ownsRow_nil _ _ _ _) (by simpa using hl))

set_option maxHeartbeats 1000000 in
theorem implConstText (s : ByteArray) {W : World} {b : Nat} {u : Value} {ls : List (List UInt8)} (h : W.ownsRow b 9 1 u ls.length (ls.map sv)) (hs : s.size ≤ maxLen) (hx : ∀ x ∈ ls, x.length ≤ maxLen) (hn : ls.length ≤ 10000000) :
    Calls Try.prog 7 #[.string s, u] W fun e W' => e = .returned (.string ⟨(constText s.data.toList ls).toArray⟩) ∧ Below W.heap.size W W' := by
  obtain ⟨a0, cap, rfl⟩ := row_slice h
  have hb0 := Below.alloc (Below.refl W.heap.size W) (Nat.le_refl _) (.cells #[.string s, .slice a0 ls.length cap] 31)
  have hblk : (W.alloc (.cells #[.string s, .slice a0 ls.length cap] 31)).heap[W.heap.size]? = some (.cells #[.string s, .slice a0 ls.length cap] 31 (0, 0)) := heap_alloc_new W _
  have f1 := Lib.hid (implValid s hblk (h.alloc (.cells #[.string s, .slice a0 ls.length cap] 31)) hs hx hn)
  by_cases hok : constOk s.data.toList ls = true
  · have hok2 := constOk_iff.1 hok
    have HE : Hid (constText s.data.toList ls = (Tm.const s.data.toList ls).bytes) := if_pos hok2
    have h40 := nameOk_len hok2.1
    have hlv : (lvsB ls).length ≤ 183 := by
      have : ∀ {ls : List (List UInt8)}, (∀ y ∈ ls, levelOk y = true) → (lvsB ls).length ≤ ls.length * 61 := by
        intro ls
        induction ls with
        | nil => intro _; simp [lvsB]
        | cons x r ih =>
          intro h
          have h1 := (levelOk_len (h x List.mem_cons_self)).1
          have h2 := ih fun y hy => h y (List.mem_cons_of_mem _ hy)
          simp only [lvsB, List.length_append, List.length_cons]
          omega
      have h1 := this hok2.2.2
      have h2 : ls.length ≤ 3 := hok2.2.1
      have : ls.length * 61 ≤ 183 := by omega
      omega
    have hbl : (Tm.const s.data.toList ls).bytes.length ≤ 100000000 := by
      simp only [Tm.bytes, List.length_cons, List.length_append, List.length_nil]
      omega
    have f2 := Lib.hid fun W1 (hb : Below (W.alloc (.cells #[.string s, .slice a0 ls.length cap] 31)).heap.size (W.alloc (.cells #[.string s, .slice a0 ls.length cap] 31)) W1) =>
      textConst s.data.toList (blk_below hblk hb) (own_below (h.alloc (.cells #[.string s, .slice a0 ls.length cap] 31)) hb) hbl
    rw [hok] at f1
    generalize (Tm.const s.data.toList ls).bytes = tb at f2 HE
    have HB0 := Lib.hid hb0
    clear hok hok2 h40 hlv h hx hb0 hbl hblk
    go_enter Try.func7, Try.ntmps7
    go_wp2_with fail
    (with_reducible refine f1.out.mono ?_); rintro e w1 ⟨rfl, hb1⟩
    have HB1 := Lib.hid hb1
    clear hb1 f1
    go_wp2_with fail
    (with_reducible refine (f2.out _ HB1.out).mono ?_); rintro e w2 ⟨rfl, hb2⟩
    have HB2 := Lib.hid ((HB0.out.trans (HB1.out.mono HB0.out.size)).trans (hb2.mono (HB0.out.trans (HB1.out.mono HB0.out.size)).size))
    clear hb2
    go_wp2
    go_ret
    rw [HE.out]
    exact ⟨rfl, HB2.out⟩
  · have HE : Hid (constText s.data.toList ls = []) := if_neg fun hc => hok (constOk_iff.2 hc)
    rw [Bool.not_eq_true] at hok
    rw [hok] at f1
    have HB0 := Lib.hid hb0
    clear hok h hx hb0 hblk
    go_enter Try.func7, Try.ntmps7
    go_wp2_with fail
    (with_reducible refine f1.out.mono ?_); rintro e w1 ⟨rfl, hb1⟩
    have HB1 := Lib.hid (HB0.out.trans (hb1.mono HB0.out.size))
    clear hb1 HB0 f1
    go_wp2
    go_ret
    rw [HE.out]
    exact ⟨rfl, HB1.out⟩
end Go.Proofs.Ytnklajagefedmaa
