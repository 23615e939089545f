/-
  The contract of impl.Hex (cut out of HexWalks, for seats with Base).
-/
import Derived.Test.YtpljjkhlgckfkaaDoorBase
import Derived.WalkKit
import Derived.ProofKit
import Derived.OpenShut
import Derived.StillTailTactics
import Derived.Lib.Hide
import Derived.Deep.AppendLies
import Derived.Deep.RegionLaw
import Derived.Laws.BytesArg
import Derived.Laws.IdiomStrings
namespace Go.Proofs.YtpljjkhlgckfkaaDoor
set_option maxRecDepth 100000
open Go.ChangeShapes Go.WideShapes Go.ChangeAt Go.RowKit
set_option linter.unusedSimpArgs false
set_option linter.unusedVariables false

theorem infoU8 : (Tryd.prog.info? 5).map (fun i => (i.zero, i.size, i.bytes)) = some (some (.int .u8 0), 1, 1) := by kernel_rfl
def figI (x : Int) : Int := if x < 10 then 48 + x else 87 + x
def fig (n : Nat) : UInt8 := UInt8.ofNat (figI n).toNat
theorem fig_toNat (n : Nat) (h : n < 16) : ((fig n).toNat : Int) = figI n := by
  unfold fig figI
  split <;> simp <;> omega
def hexL (l : List UInt8) : List UInt8 := l.flatMap fun c => [fig (c.toNat / 16), fig (c.toNat % 16)]

def hexBytes (l : List UInt8) : List Value := (hexL l).map bv
theorem hexL_snoc (s : ByteArray) (k : Nat) (h : k < s.size) : hexBytes (s.data.toList.take (k + 1)) = hexBytes (s.data.toList.take k) ++ [.int .u8 (figI (s[k].toNat / 16)), .int .u8 (figI (s[k].toNat % 16))] := by
  rw [List.take_succ_eq_append_getElem (by simpa using h)]
  have e : s.data.toList[k]'(by simpa using h) = s[k] := rfl
  rw [e]
  have hb := s[k].toNat_lt
  have h1 := fig_toNat (s[k].toNat / 16) (by omega)
  have h2 := fig_toNat (s[k].toNat % 16) (by omega)
  simp [hexBytes, hexL, bv, h1, h2]

def digits : ByteArray := ⟨#[48, 49, 50, 51, 52, 53, 54, 55, 56, 57, 97, 98, 99, 100, 101, 102]⟩
theorem digits_fig : ∀ n : Fin 16, ((digits[n.val]'(n.isLt)).toNat : Int) = figI n.val := by decide
theorem idx16 (x : Int) (h0 : 0 ≤ x) (h1 : x < 16) (w : World) : (Instr.index 9 (.string ⟨#[48, 49, 50, 51, 52, 53, 54, 55, 56, 57, 97, 98, 99, 100, 101, 102]⟩) (.int .u8 x)).run Tryd.prog w = .ok (.int .u8 (figI x)) w := by
  have e := run_index_string (P := Tryd.prog) w 9 digits .u8 x Tryd.underlying9
  have hs : digits.size = 16 := rfl
  rw [dif_pos ⟨h0, by rw [hs]; exact h1⟩] at e
  refine e.trans ?_
  have h := digits_fig ⟨x.toNat, by omega⟩
  exact congrArg (fun z => Result.ok (Value.int .u8 z) w) (h.trans (congrArg figI (Int.toNat_of_nonneg h0)))
theorem and15 : ∀ c : Fin 256, c.val &&& 15 = c.val % 16 := by decide +kernel
theorem and15I (c : UInt8) : bits .and .u8 (c.toNat : Int) 15 = (c.toNat : Int) % 16 := by
  have hc := c.toNat_lt
  have e := u8_and_nat c.toNat 15 hc (by decide)
  refine e.trans ?_
  have := and15 ⟨c.toNat, hc⟩
  simp only at this
  rw [this]
  omega
set_option maxHeartbeats 400000 in
theorem implHex (s : ByteArray) (w : World) (hs : s.size ≤ 20000) :
    Calls Tryd.prog 7 #[.string s] w fun e w' => e = .returned (.tuple #[.string ⟨(hexL s.data.toList).toArray⟩, .bool true]) ∧ Below w.heap.size w w' := by
  have hb : decide ((20000 : Int) < (s.size : Int)) = false := by simp; omega
  obtain ⟨i0, hi, hz0, hz1, hz2⟩ := info_parts infoU8
  go_enter Tryd.func7, Tryd.ntmps7
  go_wp2_with (at_make; refine wpList_make_own _ rfl _ _ 22 rfl w.heap.size 5 i0 (.int .u8 0) 1 Tryd.underlying22 hi hz0 hz1 _ _ _ (2 * s.size) rfl rfl (by omega) (by rw [hz2]; omega) (by unfold maxLen; omega) (Nat.le_refl _) ?_; intro w0 hown0 hgrow0)
  have hbel0 : Below w.heap.size w w0 := (Below.refl _ _).grown hgrow0 (Nat.le_refl _) (by simp)
  go_loopw [4, 5] (fun v i wr => ∃ k : Nat, k ≤ s.size ∧ i = .int .i64 k ∧ wr.ownsRow w.heap.size 5 1 v (2 * k) (hexBytes (s.data.toList.take k)) ∧ Below w.heap.size w wr)
    (fun _ i _ => s.size - (intOf i).toNat)
  case atStart => exact ⟨0, Nat.zero_le _, rfl, hown0, hbel0⟩
  case round =>
    obtain ⟨k, hk, rfl, hown, hbel⟩ := hrel
    by_cases hlt : k < s.size
    · have hl := hown.lt
      have hz := hbel.size
      have hc := s[k].toNat_lt
      have HS := Lib.hid (hexL_snoc s k hlt)
      have z1 : 2 * k + 2 ≤ maxLen := by simp only [maxLen]; omega
      have z2 : (2 * k + 2) * 1 ≤ 140737488355328 := by omega
      have q1 : (0 : Int) ≤ (k : Int) := by omega
      have q2 : (k : Int) < (s.size : Int) := by omega
      have hx1 := idx16 ((s[k].toNat : Int) / 16) (by omega) (by omega)
      have hx2 := idx16 ((s[k].toNat : Int) % 16) (by omega) (by omega)
      have hx3 := and15I s[k]
      go_wp2
      go_region_law (first
       | (refine step_append_lies _ (by rfl) _ _ _ (by rfl) w.heap.size 5 i0 _ 1 1 Tryd.underlying22 hi hz0 hz1 hz2 rfl (by decide) u4 (2 * k) _ (by rfl) ((hown.alloc _).drew)
           ⟨wr.heap.size, 0, none⟩ 2 2 [.int .u8 (figI ((s[k].toNat : Int) / 16)), .int .u8 (figI ((s[k].toNat : Int) % 16))] (by rfl) (by rfl) (World.news_of_block (cs := #[.int .u8 (figI ((s[k].toNat : Int) / 16)), .int .u8 (figI ((s[k].toNat : Int) % 16))]) (t := 5) (fr := (0, 0)) (heap_alloc_new wr _)) (by simp [Value.oneCell'])
           (by decide) z1 z2 (by simp; omega) (wr.heap.size + 1) (by simp) ?_; intro g cap w1 hown1 hgrow hat hlt1))
      all_goals
        go_wp2
        go_roundw
        case rel => exact ⟨k + 1, by omega, by go_num, by rw [HS.out]; exact hown1, ((hbel.alloc hz _).drew).grown hgrow (by simp; omega) (fun j hj => (hl j hj).1)⟩
        case measure => simp [intOf]; omega
    · obtain rfl : k = s.size := by omega
      have hcv := conv_own wr Tryd.underlying22 Tryd.underlying5 Tryd.underlying9 hown
      go_wp2
      go_ret2
      exact ⟨by rw [List.take_of_length_le (show s.data.toList.length ≤ s.size from Nat.le_refl _)]; rfl, hbel⟩

end Go.Proofs.YtpljjkhlgckfkaaDoor
