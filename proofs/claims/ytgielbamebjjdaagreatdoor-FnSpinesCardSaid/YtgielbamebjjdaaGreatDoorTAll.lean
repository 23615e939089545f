/-
  Contracts of spec.l06Read, l06All, l06Text and l06Open.
-/
import Derived.Test.YtgielbamebjjdaaGreatDoorTReadT
import Derived.Test.YtgielbamebjjdaaGreatDoorTReadU
namespace Go.Proofs.YtgielbamebjjdaaGreatDoor
set_option maxRecDepth 100000
open Go.ChangeShapes Go.WideShapes Go.ChangeAt Go.RowKit
set_option linter.unusedSimpArgs false

theorem specL06Read (s : ByteArray) (hs : s.size ≤ 100000) {B cb : Nat} : ∀ (n p : Nat), s.size - p ≤ n → p ≤ s.size → ∀ (W : World) (v : Value) (ns : List Nd), NSt B cb W v ns → ns.length ≤ p →
    Calls Tryz.prog 114 #[.string s, .int .i64 (p : Int), .pointer (some ⟨cb, 0, none⟩)] W (ReadPost s.data.toList p B cb W v ns) := by
  intro n
  induction n with
  | zero => intro p h1 h2 W v ns h h3; exact readEnd s p W h (by omega)
  | succ n ih =>
    intro p h1 h2 W v ns h h3
    by_cases hp : p < s.size
    · have IH : ∀ p', p < p' → p' ≤ s.size → ∀ (W : World) (v : Value) (ns : List Nd), NSt B cb W v ns → ns.length ≤ p' → Calls Tryz.prog 114 #[.string s, .int .i64 (p' : Int), .pointer (some ⟨cb, 0, none⟩)] W (ReadPost s.data.toList p' B cb W v ns) := fun p' hp' hs' W v ns h h3 => ih p' (by omega) hs' W v ns h h3
      by_cases c1 : s[p] = 64
      · exact readTwo64 twoApp s p W h hs hp h3 c1 IH
      by_cases c2 : s[p] = 108
      · exact readTwo108 twoLam s p W h hs hp h3 c2 IH
      by_cases c3 : s[p] = 112
      · exact readTwo112 twoPi s p W h hs hp h3 c3 IH
      by_cases c4 : s[p] = 116
      · exact readThree s p W h hs hp h3 c4 IH
      exact readLeaf s p W h hs hp h3 c1 c2 c3 c4
    · exact readEnd s p W h (by omega)

/-- What l06All answers: the nodes of the term, the last one the whole, or none. -/
def AllPost (l : List UInt8) (w : World) (e : Ending) (w' : World) : Prop :=
  ∃ v ns, e = .returned v ∧ w'.ownsRow w.heap.size 93 7 v ns.length (flatN ns) ∧ Below w.heap.size w w' ∧ (∀ nd ∈ ns, ∃ a n c, nd.lv = .slice a n c) ∧
    ((∃ t, IsTm l t ∧ ns.length = t.size ∧ Rep w' w.heap.size ns (ns.length - 1) t) ∨ ((∀ t, ¬ IsTm l t) ∧ ns = []))
theorem isTm_tat {l : List UInt8} (hl : l.length ≤ 2000) (t : Tm) : IsTm l t ↔ Tat l t [] := by
  constructor
  · rintro ⟨h1, h2, _⟩
    exact ⟨h1, by rw [h2]; simp⟩
  · rintro ⟨h1, h2⟩
    exact ⟨h1, by rw [h2]; simp, hl⟩
theorem Rep.weaken {W : World} {B B' : Nat} {ns : List Nd} (hb : B' ≤ B) : ∀ (t : Tm) (k : Nat), Rep W B ns k t → Rep W B' ns k t
  | .var _, _, ⟨nd, h1, h2⟩ => ⟨nd, h1, h2⟩
  | .sort _, _, ⟨nd, h1, h2⟩ => ⟨nd, h1, h2⟩
  | .const _ _, _, ⟨nd, h1, h2⟩ => ⟨nd, h1, h2.weaken hb⟩
  | .app f a, _, ⟨nd, h1, h2, h3, h4⟩ => ⟨nd, h1, h2, Rep.weaken hb f _ h3, Rep.weaken hb a _ h4⟩
  | .lam f a, _, ⟨nd, h1, h2, h3, h4⟩ => ⟨nd, h1, h2, Rep.weaken hb f _ h3, Rep.weaken hb a _ h4⟩
  | .pi f a, _, ⟨nd, h1, h2, h3, h4⟩ => ⟨nd, h1, h2, Rep.weaken hb f _ h3, Rep.weaken hb a _ h4⟩
  | .lett f a b, _, ⟨nd, h1, h2, h3, h4, h5⟩ => ⟨nd, h1, h2, Rep.weaken hb f _ h3, Rep.weaken hb a _ h4, Rep.weaken hb b _ h5⟩
theorem KeepN.belowOf {B cb : Nat} {w0 W W' : World} {v v' : Value} (h : KeepN B cb W v W' v') (hb : Below w0.heap.size w0 W) (hcb : w0.heap.size ≤ cb) (hv : ∀ g, v.ownBlock = some g → w0.heap.size ≤ g) : Below w0.heap.size w0 W' :=
  ⟨h.os.trans hb.os, h.tape.trans hb.tape, h.output.trans hb.output, Nat.le_trans hb.size h.size, fun i hi => (h.block i (Nat.lt_of_lt_of_le hi hb.size) (by omega) (fun e => by have := hv i e; omega)).trans (hb.block i hi)⟩

/-- The same, with the nodes one behind another. -/
def AllPostP (l : List UInt8) (w : World) (e : Ending) (w' : World) : Prop :=
  ∃ v ns, e = .returned v ∧ w'.ownsRow w.heap.size 93 7 v ns.length (flatN ns) ∧ Below w.heap.size w w' ∧ (∀ nd ∈ ns, ∃ a n c, nd.lv = .slice a n c) ∧
    ((∃ t, IsTm l t ∧ ns.length = t.size ∧ RepP w' w.heap.size ns (ns.length - 1) t) ∨ ((∀ t, ¬ IsTm l t) ∧ ns = []))
set_option maxHeartbeats 4000000 in
theorem specL06AllP (s : ByteArray) (w : World) (hs : s.size ≤ maxLen) :
    Calls Tryz.prog 73 #[.string s] w (AllPostP s.data.toList w) := by
  have hls : Hid (s.data.toList.length = s.size) := rfl
  unfold maxLen at hs
  have r0 := World.ownsRow_lit (base := w.heap.size) (e := 93) (size := 7) w #[] 0 (Nat.le_refl _) (by decide) (by simp)
  have b0 := (Below.refl w.heap.size w).alloc (Nat.le_refl _) (.cells #[] 93)
  by_cases h1 : s.size ≤ 2000
  rotate_left
  · have HN : Hid (∀ t, ¬ IsTm s.data.toList t) := fun t ht => by have := ht.2.2; rw [hls.out] at this; omega
    have d1 : decide ((2000 : Int) < (s.size : Int)) = true := decide_eq_true (by omega)
    have R0 := Lib.hid r0
    have B0 := Lib.hid b0
    clear r0 b0
    go_enter Tryz.func73, Tryz.ntmps73
    go_wp2
    go_ret
    exact ⟨_, [], rfl, R0.out.alloc _, B0.out.alloc (by simp) _, fun nd h => absurd h (by simp), .inr ⟨HN.out, rfl⟩⟩
  have d1 : decide ((2000 : Int) < (s.size : Int)) = false := decide_eq_false (by omega)
  have hcell : ((w.alloc (.cells #[] 93)).alloc (.cells #[.slice (some ⟨w.heap.size, 0, none⟩) 0 0] 90)).cell? ⟨w.heap.size + 1, 0, none⟩ = some (.slice (some ⟨w.heap.size, 0, none⟩) 0 0) := by simp [go_sem]
  have hfroz : ((w.alloc (.cells #[] 93)).alloc (.cells #[.slice (some ⟨w.heap.size, 0, none⟩) 0 0] 90)).frozen? ⟨w.heap.size + 1, 0, none⟩ = false := by simp
  have bW := b0.alloc b0.size (.cells #[.slice (some ⟨w.heap.size, 0, none⟩) 0 0] 90)
  have hst : NSt (w.heap.size + 2) (w.heap.size + 1) ((w.alloc (.cells #[] 93)).alloc (.cells #[.slice (some ⟨w.heap.size, 0, none⟩) 0 0] 90)) (.slice (some ⟨w.heap.size, 0, none⟩) 0 0) [] :=
    ⟨hcell, hfroz, by rw [Nat.add_sub_cancel]; exact r0.alloc _, by simp [Value.ownBlock], fun nd h => absurd h (by simp), by omega, by simp⟩
  have f1 := Lib.hid (specL06Read s (by omega) s.size 0 (by omega) (Nat.zero_le _) _ _ [] hst (Nat.le_refl _))
  rw [show ((0 : Nat) : Int) = 0 from rfl] at f1
  have BW := Lib.hid bW
  clear hcell hfroz bW hst r0 b0
  go_enter Tryz.func73, Tryz.ntmps73
  go_wp2_with fail
  (with_reducible refine f1.out.mono ?_); rintro e W1 ⟨v1, ns1, hst1, hkn1, hks1, hext1, (⟨t, r, ht, hlen, hrep, rfl⟩ | ⟨hno, rfl⟩)⟩
  · have hsz := t.size_pos
    rw [List.length_nil, Nat.zero_add] at hlen
    have hB := hkn1.belowOf BW.out (by omega) (fun g hg => by simp [Value.ownBlock] at hg; omega)
    have hrow := hst1.row
    rw [Nat.add_sub_cancel] at hrow
    obtain ⟨la, lc, rfl⟩ := own_sliceN hrow
    have cc := hst1.cell
    have hll := congrArg List.length ht.2
    rw [List.drop_zero, hls.out, List.length_append] at hll
    have dk : decide ((ns1.length : Int) - 1 < 0) = false := decide_eq_false (by omega)
    have hnl : ns1.length ≤ 100000 := by have := t.size_le; omega
    have HR := Lib.hid hrow
    have HB := Lib.hid hB
    have HSL := Lib.hid hst1.sl
    have HT := Lib.hid ht
    have HL := Lib.hid hlen
    have HP := Lib.hid (show RepP W1 w.heap.size ns1 (ns1.length - 1) t from ⟨hrep.1.weaken (B' := w.heap.size) (by omega), hrep.2⟩)
    rw [Nat.zero_add]
    clear hrow hB ht hlen hrep hst1 hkn1 hks1 hext1 f1
    by_cases heq : t.bytes.length = s.size
    · have HI : Hid (IsTm s.data.toList t) := (isTm_tat (by rw [hls.out]; exact h1) t).2 (by
        have h2 := HT.out
        have hr : r = [] := List.length_eq_zero_iff.1 (by omega)
        rw [hr, List.drop_zero] at h2
        exact h2)
      have de : (((t.bytes.length : Nat) : Int) == (s.size : Int)) = true := by simp [heq]
      have de' : (((t.bytes.length : Nat) : Int) != (s.size : Int)) = false := by rw [bne, de]; rfl
      clear heq hll
      go_wp2
      go_ret
      exact ⟨_, ns1, rfl, HR.out, HB.out, HSL.out, .inl ⟨t, HI.out, HL.out, HP.out⟩⟩
    · have HN : Hid (∀ t, ¬ IsTm s.data.toList t) := fun u hu => by
        have h2 := (isTm_tat (by rw [hls.out]; exact h1) u).1 hu
        have h3 := HT.out
        rw [List.drop_zero] at h3
        obtain ⟨rfl, rfl⟩ := h3.uniq h2
        rw [List.length_nil] at hll
        exact heq (by omega)
      have de : (((t.bytes.length : Nat) : Int) == (s.size : Int)) = false := beq_eq_false_iff_ne.2 (by omega)
      have de' : (((t.bytes.length : Nat) : Int) != (s.size : Int)) = true := by rw [bne, de]; rfl
      clear heq hll
      go_wp2
      go_ret
      exact ⟨_, [], rfl, World.ownsRow_lit (base := w.heap.size) (e := 93) (size := 7) W1 #[] 0 HB.out.size (by decide) (by simp), HB.out.alloc HB.out.size _, fun nd h => absurd h (by simp), .inr ⟨HN.out, rfl⟩⟩
  · have hB := hkn1.belowOf BW.out (by omega) (fun g hg => by simp [Value.ownBlock] at hg; omega)
    have HB := Lib.hid hB
    have HN : Hid (∀ t, ¬ IsTm s.data.toList t) := fun u hu => by
      have h2 := (isTm_tat (by rw [hls.out]; exact h1) u).1 hu
      exact hno u [] (by rw [List.drop_zero]; exact h2)
    clear hB hno hst1 hkn1 hks1 hext1 f1
    go_wp2
    go_ret
    exact ⟨_, [], rfl, World.ownsRow_lit (base := w.heap.size) (e := 93) (size := 7) W1 #[] 0 HB.out.size (by decide) (by simp), HB.out.alloc HB.out.size _, fun nd h => absurd h (by simp), .inr ⟨HN.out, rfl⟩⟩
theorem specL06All (s : ByteArray) (w : World) (hs : s.size ≤ maxLen) :
    Calls Tryz.prog 73 #[.string s] w (AllPost s.data.toList w) :=
  (specL06AllP s w hs).mono fun _ _ ⟨v, ns, h1, h2, h3, h4, h5⟩ => ⟨v, ns, h1, h2, h3, h4, h5.imp (fun ⟨t, a, b, c⟩ => ⟨t, a, b, c.1⟩) id⟩
end Go.Proofs.YtgielbamebjjdaaGreatDoor
