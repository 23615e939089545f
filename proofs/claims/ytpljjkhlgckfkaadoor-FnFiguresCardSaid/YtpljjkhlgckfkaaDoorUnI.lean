/-
  The contract of impl.Unhex (cut out of UnhexWalks, for seats with Base).
-/
import Derived.Test.YtpljjkhlgckfkaaDoorHexI
namespace Go.Proofs.YtpljjkhlgckfkaaDoor
set_option maxRecDepth 100000
open Go.ChangeShapes Go.WideShapes Go.ChangeAt Go.RowKit
set_option linter.unusedSimpArgs false
set_option linter.unusedVariables false

def hvI (c : Int) : Int := if 48 ≤ c ∧ c ≤ 57 then c - 48 else if 97 ≤ c ∧ c ≤ 102 then c - 87 else -1
theorem hvI_le (c : Int) : hvI c ≤ 15 := by unfold hvI; split <;> (try split) <;> omega
theorem hvI_ge (c : Int) : -1 ≤ hvI c := by unfold hvI; split <;> (try split) <;> omega
def un : List UInt8 → Option (List UInt8)
  | [] => some []
  | [_] => none
  | a :: b :: r => if hvI a.toNat < 0 ∨ hvI b.toNat < 0 then none else (un r).map (UInt8.ofNat (16 * hvI a.toNat + hvI b.toNat).toNat :: ·)
def unRes : Option (List UInt8) → Value
  | some r => .tuple #[.string ⟨r.toArray⟩, .bool true]
  | none => .tuple #[.string ⟨#[]⟩, .bool false]

theorem un_at (s : ByteArray) (j : Nat) (h0 : j < s.size) (h : j + 1 < s.size) : un (s.data.toList.drop j) =
    if hvI s[j].toNat < 0 ∨ hvI s[j + 1].toNat < 0 then none else (un (s.data.toList.drop (j + 2))).map (UInt8.ofNat (16 * hvI s[j].toNat + hvI s[j + 1].toNat).toNat :: ·) := by
  have e1 : s.data.toList.drop j = s[j] :: s.data.toList.drop (j + 1) := List.drop_eq_getElem_cons (l := s.data.toList) (i := j) h0
  have e2 : s.data.toList.drop (j + 1) = s[j + 1] :: s.data.toList.drop (j + 2) := List.drop_eq_getElem_cons (l := s.data.toList) (i := j + 1) h
  rw [e1, e2, un]
theorem un_none {s : ByteArray} {j : Nat} {acc : List UInt8} (h0 : j < s.size) (h : j + 1 < s.size) (hn : hvI s[j].toNat < 0 ∨ hvI s[j + 1].toNat < 0)
    (e : un s.data.toList = (un (s.data.toList.drop j)).map (acc ++ ·)) : un s.data.toList = none := by
  rw [e, un_at s j h0 h, if_pos hn]; rfl
theorem un_some {s : ByteArray} {j : Nat} {acc : List UInt8} (h0 : j < s.size) (h : j + 1 < s.size) (h1 : 0 ≤ hvI s[j].toNat) (h2 : 0 ≤ hvI s[j + 1].toNat)
    (e : un s.data.toList = (un (s.data.toList.drop j)).map (acc ++ ·)) :
    un s.data.toList = (un (s.data.toList.drop (j + 2))).map ((acc ++ [UInt8.ofNat (16 * hvI s[j].toNat + hvI s[j + 1].toNat).toNat]) ++ ·) := by
  rw [e, un_at s j h0 h, if_neg (by omega), Option.map_map]
  congr 1
  funext x
  simp
theorem un_end {s : ByteArray} {acc : List UInt8} (e : un s.data.toList = (un (s.data.toList.drop s.size)).map (acc ++ ·)) : un s.data.toList = some acc := by
  rw [e, List.drop_eq_nil_of_le (show s.data.toList.length ≤ s.size from Nat.le_refl _)]
  simp [un]
theorem nums_bv (acc : List UInt8) (x : Int) (h0 : 0 ≤ x) (h1 : x ≤ 255) : acc.map bv ++ [.int .u8 x] = (acc ++ [UInt8.ofNat x.toNat]).map bv := by
  have e : ((UInt8.ofNat x.toNat).toNat : Int) = x := by simp; omega
  rw [List.map_append]
  simp only [List.map_cons, List.map_nil, bv, e]

theorem value20 (c : Int) (w : World) (h0 : 0 ≤ c) (h1 : c ≤ 255) (h : 0 ≤ hvI c) : Calls Tryd.prog 15 #[.int .u8 c] w fun e w' => e = .returned (.tuple #[.int .u8 (hvI c), .bool true]) ∧ w = w' := by
  rcases (show (48 ≤ c ∧ c ≤ 57) ∨ (97 ≤ c ∧ c ≤ 102) from by unfold hvI at h; split at h <;> (try split at h) <;> omega) with h2 | h2
  all_goals
    have e := Lib.hid (show hvI c = if 48 ≤ c ∧ c ≤ 57 then c - 48 else if 97 ≤ c ∧ c ≤ 102 then c - 87 else -1 from rfl)
    clear h
    go_enter Tryd.func15, Tryd.ntmps15
    go_wp2
    go_ret2
    refine ⟨congrArg (fun z => Ending.returned (Value.tuple #[.int .u8 z, .bool true])) ?_, rfl⟩
    rw [e.out]
    split <;> (try split) <;> omega
theorem value20_no (c : Int) (w : World) (h0 : 0 ≤ c) (h1 : c ≤ 255) (h : hvI c < 0) : Calls Tryd.prog 15 #[.int .u8 c] w fun e w' => e = .returned (.tuple #[.int .u8 0, .bool false]) ∧ w = w' := by
  rcases (show c < 48 ∨ (57 < c ∧ c < 97) ∨ 102 < c from by unfold hvI at h; split at h <;> (try split at h) <;> omega) with h2 | h2 | h2
  all_goals
    clear h
    go_enter Tryd.func15, Tryd.ntmps15
    go_wp2
    go_ret2
    exact ⟨rfl, rfl⟩

set_option maxHeartbeats 1000000
theorem or16 : ∀ a b : Fin 16, (16 * a.val) ||| b.val = 16 * a.val + b.val := by decide +kernel
theorem or16I (a b : Int) (a0 : 0 ≤ a) (a1 : a ≤ 15) (b0 : 0 ≤ b) (b1 : b ≤ 15) : bits .or .u8 (a * 16) b = 16 * a + b := by
  have e := u8_or_nat (16 * a.toNat) b.toNat (by omega) (by omega)
  have ea : ((16 * a.toNat : Nat) : Int) = a * 16 := by omega
  have eb : ((b.toNat : Nat) : Int) = b := by omega
  rw [ea, eb] at e
  have := or16 ⟨a.toNat, by omega⟩ ⟨b.toNat, by omega⟩
  simp only at this
  rw [e, this]
  omega
set_option maxHeartbeats 1000000 in
theorem implUnhex (s : ByteArray) (w : World) (hs : s.size ≤ 40000) (h2 : s.size % 2 = 0) :
    Calls Tryd.prog 8 #[.string s] w fun e w' => e = .returned (unRes (un s.data.toList)) ∧ Below w.heap.size w w' := by
  have hb : decide ((40000 : Int) < (s.size : Int)) = false := by simp; omega
  have hb2 : (s.size : Int) % 2 = 0 := by omega
  obtain ⟨i0, hi, hz0, hz1, hz2⟩ := info_parts infoU8
  go_enter Tryd.func8, Tryd.ntmps8
  go_wp2_with (at_make; refine wpList_make_own _ rfl _ _ 22 rfl w.heap.size 5 i0 (.int .u8 0) 1 Tryd.underlying22 hi hz0 hz1 _ _ _ (s.size / 2) rfl rfl (by omega) (by rw [hz2]; omega) (by unfold maxLen; omega) (Nat.le_refl _) ?_; intro w0 hown0 hgrow0)
  clear hb2
  have hbel0 : Below w.heap.size w w0 := (Below.refl _ _).grown hgrow0 (Nat.le_refl _) (by simp)
  go_loopw [4, 5] (fun v i wr => ∃ (j : Nat) (acc : List UInt8), j ≤ s.size ∧ j % 2 = 0 ∧ acc.length ≤ j ∧ i = .int .i64 j ∧ wr.ownsRow w.heap.size 5 1 v acc.length (acc.map bv) ∧ Below w.heap.size w wr ∧ Hid (un s.data.toList = (un (s.data.toList.drop j)).map (acc ++ ·)))
    (fun _ i _ => s.size - (intOf i).toNat)
  case atStart =>
    refine ⟨0, [], Nat.zero_le _, rfl, Nat.le_refl _, rfl, hown0, hbel0, ?_⟩
    show _ = _
    simp
  case round =>
    obtain ⟨j, acc, hj, hj2, hal, rfl, hown, hbel, HU⟩ := hrel
    by_cases hlt : j < s.size
    · have hlt1 : j + 1 < s.size := by omega
      have hl := hown.lt
      have hz := hbel.size
      have c1 := s[j].toNat_lt
      have c2 := s[j + 1].toNat_lt
      have b1 := hvI_le s[j].toNat
      have b2 := hvI_le s[j + 1].toNat
      by_cases hn1 : hvI s[j].toNat < 0
      · have HN := un_none hlt hlt1 (.inl hn1) HU.out
        have HN' := Lib.hid HN
        have f1 := Lib.hid fun W => value20_no (s[j].toNat : Int) W (by omega) (by omega) hn1
        clear HN HU
        by_cases hn2 : hvI s[j + 1].toNat < 0
        · have f2 := Lib.hid fun W => value20_no (s[j + 1].toNat : Int) W (by omega) (by omega) hn2
          go_wp2_with fail
          (with_reducible refine (f1.out _).mono ?_); rintro e w' ⟨rfl, rfl⟩
          go_wp2_with fail
          (with_reducible refine (f2.out _).mono ?_); rintro e w' ⟨rfl, rfl⟩
          go_wp2
          go_ret2
          exact ⟨by rw [HN'.out]; rfl, hbel⟩
        · have f2 := Lib.hid fun W => value20 (s[j + 1].toNat : Int) W (by omega) (by omega) (by omega)
          go_wp2_with fail
          (with_reducible refine (f1.out _).mono ?_); rintro e w' ⟨rfl, rfl⟩
          go_wp2_with fail
          (with_reducible refine (f2.out _).mono ?_); rintro e w' ⟨rfl, rfl⟩
          go_wp2
          go_ret2
          exact ⟨by rw [HN'.out]; rfl, hbel⟩
      · have f1 := Lib.hid fun W => value20 (s[j].toNat : Int) W (by omega) (by omega) (by omega)
        by_cases hn2 : hvI s[j + 1].toNat < 0
        · have HN := un_none hlt hlt1 (.inr hn2) HU.out
          have HN' := Lib.hid HN
          have f2 := Lib.hid fun W => value20_no (s[j + 1].toNat : Int) W (by omega) (by omega) hn2
          clear HN HU
          go_wp2_with fail
          (with_reducible refine (f1.out _).mono ?_); rintro e w' ⟨rfl, rfl⟩
          go_wp2_with fail
          (with_reducible refine (f2.out _).mono ?_); rintro e w' ⟨rfl, rfl⟩
          go_wp2
          go_ret2
          exact ⟨by rw [HN'.out]; rfl, hbel⟩
        · have HN := un_some hlt hlt1 (by omega) (by omega) HU.out
          have HN' := Lib.hid HN
          have f2 := Lib.hid fun W => value20 (s[j + 1].toNat : Int) W (by omega) (by omega) (by omega)
          have ho := or16I (hvI s[j].toNat) (hvI s[j + 1].toNat) (by omega) (by omega) (by omega) (by omega)
          clear HN HU
          go_wp2_with fail
          (with_reducible refine (f1.out _).mono ?_); rintro e w' ⟨rfl, rfl⟩
          go_wp2_with fail
          (with_reducible refine (f2.out _).mono ?_); rintro e w' ⟨rfl, rfl⟩
          go_wp2_with (at_builtin; refine wpList_append_own _ rfl _ _ 22 rfl w.heap.size 5 i0 (.int .u8 0) 1 1 Tryd.underlying22 hi hz0 hz1 hz2 rfl (by decide) _ _ _ rfl (hown.alloc _) ⟨wr.heap.size, 0, none⟩ 1 1 [.int .u8 (16 * hvI s[j].toNat + hvI s[j + 1].toNat)] rfl rfl (oneNew _ _ _) (by simp [Value.oneCell']) (by simp only [maxLen]; omega) (by omega) (by simp; omega) ?_; intro v1 w1 hown1 hgrow hat)
          rw [nums_bv acc _ (by omega) (by omega)] at hown1
          go_roundw
          case rel => exact ⟨j + 2, acc ++ [UInt8.ofNat (16 * hvI s[j].toNat + hvI s[j + 1].toNat).toNat], by omega, by omega, by simp; omega, by go_num, by simpa using hown1, (hbel.alloc hz _).grown hgrow (by simp; omega) (fun q hq => (hl q hq).1), HN'.out⟩
          case measure => simp [intOf]; omega
    · obtain rfl : j = s.size := by omega
      have hcv := conv_own wr Tryd.underlying22 Tryd.underlying5 Tryd.underlying9 hown
      have HN := Lib.hid (un_end HU.out)
      clear HU
      go_wp2
      go_ret2
      exact ⟨by rw [HN.out]; rfl, hbel⟩

end Go.Proofs.YtpljjkhlgckfkaaDoor
