/-
  Contracts of spec.Hex, impl.Hex and laws.FnExactHex: the lower-case hexadecimal text of a string of at most 20000 bytes, else the empty string and false; the law returns true for every string.
-/
import Derived.Test.YthpjacdfnnjghaaRows
import Derived.WalkKit
import Derived.ProofKit
import Derived.OpenShut
import Derived.StillTailTactics
import Derived.Lib.Hide
import Derived.Deep.AppendLies
import Derived.Deep.RegionLaw
import Derived.Laws.BytesArg
import Derived.Laws.IdiomStrings
namespace Go.Proofs.Ythpjacdfnnjghaa
open Go.ChangeShapes Go.WideShapes Go.ChangeAt Go.RowKit


def figI (x : Int) : Int := if x < 10 then 48 + x else 87 + x
def fig (n : Nat) : UInt8 := UInt8.ofNat (figI n).toNat
theorem fig_toNat (n : Nat) (h : n < 16) : ((fig n).toNat : Int) = figI n := by
  unfold fig figI
  split <;> simp <;> omega
def hexL (l : List UInt8) : List UInt8 := l.flatMap fun c => [fig (c.toNat / 16), fig (c.toNat % 16)]
def bv (c : UInt8) : Value := .int .u8 (c.toNat : Int)

theorem figure (x : Int) (w : World) (h0 : 0 ≤ x) (h : x < 16) : Calls Try.prog 18 #[.int .i64 x] w fun e w' => e = .returned (.int .u8 (figI x)) ∧ w = w' := by
  by_cases h1 : x < 10
  · go_enter Try.func18, Try.ntmps18
    go_wp2
    go_ret
    refine ⟨?_, rfl⟩
    congr 2
    simp [figI, h1]
  · go_enter Try.func18, Try.ntmps18
    go_wp2
    go_ret
    refine ⟨?_, rfl⟩
    congr 2
    simp [figI]
    rw [if_neg (by omega)]
    omega

theorem info5 : (Try.prog.info? 5).map (fun i => (i.zero, i.size, i.bytes)) = some (some (.int .u8 0), 1, 1) := by kernel_rfl
theorem conv_own {P : Program} {t e d : TypeId} {v : Value} {base n : Nat} {l : List UInt8} (w : World) (ht : P.underlying t = some (.slice e)) (he : P.underlying e = some (.int .u8)) (hd : P.underlying d = some .string)
    (h : w.ownsRow base e 1 v n (l.map bv)) : (convert t d v).run P w = .ok (.string ⟨l.toArray⟩) w := by
  have hn : l.length = n := by simpa using h.1
  rcases h.2 with ⟨rfl, rfl⟩ | ⟨g, cap, cur, rfl, _⟩
  · rw [List.length_eq_zero_iff] at hn
    subst hn
    exact run_convert_bytes_nil w t e ht he 0 0 d hd
  · subst hn
    refine run_convert_bytes_back w t d e ⟨g, 0, none⟩ cap l ht he hd fun j hj => ?_
    refine h.cells (g := g) rfl j _ ?_
    simp [bv, hj]
def hexBytes (l : List UInt8) : List Value := (hexL l).map bv
theorem hexL_snoc (s : ByteArray) (k : Nat) (h : k < s.size) : hexBytes (s.data.toList.take (k + 1)) = hexBytes (s.data.toList.take k) ++ [.int .u8 (figI (s[k].toNat / 16)), .int .u8 (figI (s[k].toNat % 16))] := by
  rw [List.take_succ_eq_append_getElem (by simpa using h)]
  have e : s.data.toList[k]'(by simpa using h) = s[k] := rfl
  rw [e]
  have hb := s[k].toNat_lt
  have h1 := fig_toNat (s[k].toNat / 16) (by omega)
  have h2 := fig_toNat (s[k].toNat % 16) (by omega)
  simp [hexBytes, hexL, bv, h1, h2]
set_option maxHeartbeats 400000 in
theorem specHex (s : ByteArray) (w : World) (hs : s.size ≤ 20000) :
    Calls Try.prog 7 #[.string s] w fun e w' => e = .returned (.tuple #[.string ⟨(hexL s.data.toList).toArray⟩, .bool true]) ∧ Below w.heap.size w w' := by
  have hb : decide ((20000 : Int) < (s.size : Int)) = false := by simp; omega
  obtain ⟨i0, hi, hz0, hz1, hz2⟩ := info_parts info5
  go_enter Try.func7, Try.ntmps7
  go_wp2
  go_loopw [4, 5] (fun v i wr => ∃ k : Nat, k ≤ s.size ∧ i = .int .i64 k ∧ wr.ownsRow w.heap.size 5 1 v (2 * k) (hexBytes (s.data.toList.take k)) ∧ Below w.heap.size w wr)
    (fun _ i _ => s.size - (intOf i).toNat)
  case atStart =>
    refine ⟨0, Nat.zero_le _, rfl, ?_, ?_⟩
    · exact World.ownsRow_lit w #[] 0 (Nat.le_refl _) (by decide) (by simp)
    · exact (Below.refl _ _).alloc (Nat.le_refl _) _
  case round =>
    obtain ⟨k, hk, rfl, hown, hbel⟩ := hrel
    by_cases hlt : k < s.size
    · have hl := hown.lt
      have hz := hbel.size
      have hc := s[k].toNat_lt
      have HS := Lib.hid (hexL_snoc s k hlt)
      have f1 := Lib.hid fun W => figure ((s[k].toNat : Int) / 16) W (by omega) (by omega)
      have f2 := Lib.hid fun W => figure ((s[k].toNat : Int) % 16) W (by omega) (by omega)
      have z1 : 2 * k + 2 ≤ maxLen := by simp only [maxLen]; omega
      have z2 : (2 * k + 2) * 1 ≤ 140737488355328 := by omega
      have q1 : (0 : Int) ≤ (k : Int) := by omega
      have q2 : (k : Int) < (s.size : Int) := by omega
      have e1 : IntKind.i64.wrap ((s[k].toNat : Int)) = (s[k].toNat : Int) := IntWalk.i64_in _ (by omega)
      have e2 : ((s[k].toNat : Int)).tdiv 16 = (s[k].toNat : Int) / 16 := Int.tdiv_eq_ediv_of_nonneg (by omega)
      have e3 : IntKind.i64.wrap ((s[k].toNat : Int) / 16) = (s[k].toNat : Int) / 16 := IntWalk.i64_in _ (by omega)
      have e4 : ((s[k].toNat : Int)).tmod 16 = (s[k].toNat : Int) % 16 := Int.tmod_eq_emod_of_nonneg (by omega)
      go_wp2
      go_region_law (first
       | (refine step_append_lies _ (by rfl) _ _ _ (by rfl) w.heap.size 5 i0 _ 1 1 Try.underlying32 hi hz0 hz1 hz2 rfl (by decide) u4 (2 * k) _ (by rfl) ((hown.alloc _).drew)
           ⟨wr.heap.size, 0, none⟩ 2 2 [.int .u8 (figI ((s[k].toNat : Int) / 16)), .int .u8 (figI ((s[k].toNat : Int) % 16))] (by rfl) (by rfl) (World.news_of_block (cs := #[.int .u8 (figI ((s[k].toNat : Int) / 16)), .int .u8 (figI ((s[k].toNat : Int) % 16))]) (t := 5) (fr := (0, 0)) (heap_alloc_new wr _)) (by simp [Value.oneCell'])
           (by decide) z1 z2 (by simp; omega) (wr.heap.size + 1) (by simp) ?_; intro g cap w1 hown1 hgrow hat hlt1)
       | (go_simp; go_at_call 18; (with_reducible refine (f1.out _).mono ?_); rintro e w' ⟨rfl, rfl⟩)
       | (go_simp; go_at_call 18; (with_reducible refine (f2.out _).mono ?_); rintro e w' ⟨rfl, rfl⟩))
      all_goals
        go_wp2
        go_roundw
        case rel => exact ⟨k + 1, by omega, by go_num, by rw [HS.out]; exact hown1, ((hbel.alloc hz _).drew).grown hgrow (by simp; omega) (fun j hj => (hl j hj).1)⟩
        case measure => simp [intOf]; omega
    · obtain rfl : k = s.size := by omega
      have hcv := conv_own wr Try.underlying32 Try.underlying5 Try.underlying9 hown
      go_wp2
      go_ret2
      exact ⟨by rw [List.take_of_length_le (show s.data.toList.length ≤ s.size from Nat.le_refl _)]; rfl, hbel⟩

theorem specHex_long (s : ByteArray) (w : World) (hs : 20000 < s.size) (hm : s.size ≤ maxLen) :
    Calls Try.prog 7 #[.string s] w fun e w' => e = .returned (.tuple #[.string ⟨#[]⟩, .bool false]) ∧ w = w' := by
  unfold maxLen at hm
  go_enter Try.func7, Try.ntmps7
  go_wp2
  go_ret2
  exact ⟨rfl, rfl⟩

theorem implHex_long (s : ByteArray) (w : World) (hs : 20000 < s.size) (hm : s.size ≤ maxLen) :
    Calls Try.prog 8 #[.string s] w fun e w' => e = .returned (.tuple #[.string ⟨#[]⟩, .bool false]) ∧ w = w' := by
  unfold maxLen at hm
  go_enter Try.func8, Try.ntmps8
  go_wp2
  go_ret2
  exact ⟨rfl, rfl⟩

def digits : ByteArray := ⟨#[48, 49, 50, 51, 52, 53, 54, 55, 56, 57, 97, 98, 99, 100, 101, 102]⟩
theorem digits_fig : ∀ n : Fin 16, ((digits[n.val]'(n.isLt)).toNat : Int) = figI n.val := by decide
theorem idx16 (x : Int) (h0 : 0 ≤ x) (h1 : x < 16) (w : World) : (Instr.index 9 (.string ⟨#[48, 49, 50, 51, 52, 53, 54, 55, 56, 57, 97, 98, 99, 100, 101, 102]⟩) (.int .u8 x)).run Try.prog w = .ok (.int .u8 (figI x)) w := by
  have e := run_index_string (P := Try.prog) w 9 digits .u8 x Try.underlying9
  have hs : digits.size = 16 := rfl
  rw [dif_pos ⟨h0, by rw [hs]; exact h1⟩] at e
  refine e.trans ?_
  have h := digits_fig ⟨x.toNat, by omega⟩
  exact congrArg (fun z => Result.ok (Value.int .u8 z) w) (h.trans (congrArg figI (Int.toNat_of_nonneg h0)))
theorem and15 : ∀ c : Fin 256, c.val &&& 15 = c.val % 16 := by decide +kernel
theorem and15I (c : UInt8) : bits .and .u8 (c.toNat : Int) 15 = (c.toNat : Int) % 16 := by
  have hc := c.toNat_lt
  have e := u8_and_nat c.toNat 15 hc (by decide)
  refine e.trans ?_
  have := and15 ⟨c.toNat, hc⟩
  simp only at this
  rw [this]
  omega
set_option maxHeartbeats 400000 in
theorem implHex (s : ByteArray) (w : World) (hs : s.size ≤ 20000) :
    Calls Try.prog 8 #[.string s] w fun e w' => e = .returned (.tuple #[.string ⟨(hexL s.data.toList).toArray⟩, .bool true]) ∧ Below w.heap.size w w' := by
  have hb : decide ((20000 : Int) < (s.size : Int)) = false := by simp; omega
  obtain ⟨i0, hi, hz0, hz1, hz2⟩ := info_parts info5
  go_enter Try.func8, Try.ntmps8
  go_wp2_with (at_make; refine wpList_make_own _ rfl _ _ 32 rfl w.heap.size 5 i0 (.int .u8 0) 1 Try.underlying32 hi hz0 hz1 _ _ _ (2 * s.size) rfl rfl (by omega) (by rw [hz2]; omega) (by unfold maxLen; omega) (Nat.le_refl _) ?_; intro w0 hown0 hgrow0)
  have hbel0 : Below w.heap.size w w0 := (Below.refl _ _).grown hgrow0 (Nat.le_refl _) (by simp)
  go_loopw [4, 5] (fun v i wr => ∃ k : Nat, k ≤ s.size ∧ i = .int .i64 k ∧ wr.ownsRow w.heap.size 5 1 v (2 * k) (hexBytes (s.data.toList.take k)) ∧ Below w.heap.size w wr)
    (fun _ i _ => s.size - (intOf i).toNat)
  case atStart => exact ⟨0, Nat.zero_le _, rfl, hown0, hbel0⟩
  case round =>
    obtain ⟨k, hk, rfl, hown, hbel⟩ := hrel
    by_cases hlt : k < s.size
    · have hl := hown.lt
      have hz := hbel.size
      have hc := s[k].toNat_lt
      have HS := Lib.hid (hexL_snoc s k hlt)
      have z1 : 2 * k + 2 ≤ maxLen := by simp only [maxLen]; omega
      have z2 : (2 * k + 2) * 1 ≤ 140737488355328 := by omega
      have q1 : (0 : Int) ≤ (k : Int) := by omega
      have q2 : (k : Int) < (s.size : Int) := by omega
      have hx1 := idx16 ((s[k].toNat : Int) / 16) (by omega) (by omega)
      have hx2 := idx16 ((s[k].toNat : Int) % 16) (by omega) (by omega)
      have hx3 := and15I s[k]
      go_wp2
      go_region_law (first
       | (refine step_append_lies _ (by rfl) _ _ _ (by rfl) w.heap.size 5 i0 _ 1 1 Try.underlying32 hi hz0 hz1 hz2 rfl (by decide) u4 (2 * k) _ (by rfl) ((hown.alloc _).drew)
           ⟨wr.heap.size, 0, none⟩ 2 2 [.int .u8 (figI ((s[k].toNat : Int) / 16)), .int .u8 (figI ((s[k].toNat : Int) % 16))] (by rfl) (by rfl) (World.news_of_block (cs := #[.int .u8 (figI ((s[k].toNat : Int) / 16)), .int .u8 (figI ((s[k].toNat : Int) % 16))]) (t := 5) (fr := (0, 0)) (heap_alloc_new wr _)) (by simp [Value.oneCell'])
           (by decide) z1 z2 (by simp; omega) (wr.heap.size + 1) (by simp) ?_; intro g cap w1 hown1 hgrow hat hlt1))
      all_goals
        go_wp2
        go_roundw
        case rel => exact ⟨k + 1, by omega, by go_num, by rw [HS.out]; exact hown1, ((hbel.alloc hz _).drew).grown hgrow (by simp; omega) (fun j hj => (hl j hj).1)⟩
        case measure => simp [intOf]; omega
    · obtain rfl : k = s.size := by omega
      have hcv := conv_own wr Try.underlying32 Try.underlying5 Try.underlying9 hown
      go_wp2
      go_ret2
      exact ⟨by rw [List.take_of_length_le (show s.data.toList.length ≤ s.size from Nat.le_refl _)]; rfl, hbel⟩

set_option maxHeartbeats 400000 in
theorem lawHex (s : ByteArray) (w : World) (hm : s.size ≤ maxLen) :
    Calls Try.prog 3 #[.string s] w fun e w' => e = .returned (.bool true) ∧ Below w.heap.size w w' := by
  unfold maxLen at hm
  by_cases h1 : 1048576 < s.size
  · go_enter Try.func3, Try.ntmps3
    go_wp2
    go_ret
    exact ⟨rfl, Below.refl _ _⟩
  · by_cases h2 : s.size ≤ 20000
    · go_enter Try.func3, Try.ntmps3
      go_wp2_with fail
      refine (specHex s _ h2).mono ?_
      rintro e w1 ⟨rfl, hb1⟩
      go_wp2_with fail
      refine (implHex s _ h2).mono ?_
      rintro e w2 ⟨rfl, hb2⟩
      go_wp2
      go_ret
      exact ⟨rfl, hb1.trans (hb2.mono hb1.size)⟩
    · go_enter Try.func3, Try.ntmps3
      go_wp2_with fail
      refine (specHex_long s _ (by omega) (by unfold maxLen; omega)).mono ?_
      rintro e w1 ⟨rfl, rfl⟩
      go_wp2_with fail
      refine (implHex_long s _ (by omega) (by unfold maxLen; omega)).mono ?_
      rintro e w2 ⟨rfl, rfl⟩
      go_wp2
      go_ret
      exact ⟨rfl, Below.refl _ _⟩
end Go.Proofs.Ythpjacdfnnjghaa
