/-
  Contracts of spec.l02Part, spec.l02Cut, spec.NameOk and impl.NameOk: whether a string is a name.
-/
import Derived.Test.YtgielbamebjjdaaGreatDoorNMath
import Derived.Laws.RangeAny
namespace Go.Proofs.YtgielbamebjjdaaGreatDoor
set_option maxRecDepth 100000
open Go.ChangeShapes Go.WideShapes Go.ChangeAt Go.RowKit

theorem partOk_nil {l : List UInt8} (h : l.length = 0) : partOk l = false := by
  rw [List.length_eq_zero_iff] at h; subst h; rfl
theorem partOk_head {l : List UInt8} (h : 0 < l.length) (hb : azB l[0] = false) : partOk l = false := by
  cases l with
  | nil => simp at h
  | cons c r => simp only [List.getElem_cons_zero] at hb; simp [partOk, hb]
theorem partOk_at {l : List UInt8} {k : Nat} (h : k < l.length) (hb : alB l[k] = false) : partOk l = false := by
  have h2 : l.all alB = false := by
    rw [Bool.eq_false_iff]
    intro h3
    have := List.all_eq_true.1 h3 l[k] (List.getElem_mem h)
    rw [hb] at this
    cases this
  cases l with
  | nil => simp at h
  | cons c r => simp only [partOk, h2, Bool.and_false]
theorem partOk_done {l : List UInt8} (h : 0 < l.length) (hz : azB l[0] = true) (ha : (l.take l.length).all alB = true) : partOk l = true := by
  rw [List.take_length] at ha
  cases l with
  | nil => simp at h
  | cons c r => simp only [List.getElem_cons_zero] at hz; simp only [partOk, hz, ha, Bool.and_self]
theorem all_succ {f : UInt8 → Bool} {l : List UInt8} {k : Nat} (h : k < l.length) (h0 : (l.take k).all f = true) (hb : f l[k] = true) : (l.take (k + 1)).all f = true := by
  rw [List.take_succ_eq_append_getElem h, List.all_append, h0]
  simp [hb]
theorem azB_iff (c : UInt8) : azB c = true ↔ 97 ≤ c.toNat ∧ c.toNat ≤ 122 := by simp [azB]
theorem azB_no (c : UInt8) : azB c = false ↔ ¬ (97 ≤ c.toNat ∧ c.toNat ≤ 122) := by rw [← azB_iff]; simp
theorem dgB_iff (c : UInt8) : dgB c = true ↔ 48 ≤ c.toNat ∧ c.toNat ≤ 57 := by simp [dgB]
theorem dgB_no (c : UInt8) : dgB c = false ↔ ¬ (48 ≤ c.toNat ∧ c.toNat ≤ 57) := by rw [← dgB_iff]; simp
theorem alB_iff (c : UInt8) : alB c = true ↔ (97 ≤ c.toNat ∧ c.toNat ≤ 122) ∨ (48 ≤ c.toNat ∧ c.toNat ≤ 57) := by simp [alB, azB, dgB]
theorem alB_no (c : UInt8) : alB c = false ↔ ¬ ((97 ≤ c.toNat ∧ c.toNat ≤ 122) ∨ (48 ≤ c.toNat ∧ c.toNat ≤ 57)) := by rw [← alB_iff]; simp

set_option maxHeartbeats 1000000 in
theorem specPart (s : ByteArray) (w : World) (hm : s.size ≤ maxLen) :
    Calls Tryz.prog 165 #[.string s] w fun e w' => e = .returned (.bool (partOk s.data.toList)) ∧ w' = w := by
  unfold maxLen at hm
  have hls : s.data.toList.length = s.size := rfl
  by_cases h0 : s.size = 0
  · have HR := Lib.hid (partOk_nil (l := s.data.toList) (hls.trans h0))
    go_enter Tryz.func165, Tryz.ntmps165
    go_wp2
    go_ret
    rw [HR.out]
    exact ⟨rfl, rfl⟩
  · have hp : 0 < s.size := by omega
    have hb0 : ((s.size : Int) == 0) = false := by rw [beq_eq_false_iff_ne]; omega
    have hc0 := s[0].toNat_lt
    by_cases hz : 97 ≤ s[0].toNat ∧ s[0].toNat ≤ 122
    · have HZ := Lib.hid ((azB_iff s[0]).2 hz)
      obtain ⟨z1, z2⟩ := hz
      clear hls h0
      go_enter Tryz.func165, Tryz.ntmps165
      go_wp2
      go_loopw [3] (fun i wr => ∃ k : Nat, k ≤ s.size ∧ i = .int .i64 k ∧ wr = w ∧ Hid ((s.data.toList.take k).all alB = true)) (fun i _ => s.size - (intOf i).toNat)
      case atStart => exact ⟨0, Nat.zero_le _, rfl, rfl, by simp [Hid]⟩
      case round =>
        obtain ⟨k, hk, rfl, rfl, HA⟩ := hrel
        by_cases hlt : k < s.size
        · have hc1 := s[k].toNat_lt
          by_cases hx : (97 ≤ s[k].toNat ∧ s[k].toNat ≤ 122) ∨ (48 ≤ s[k].toNat ∧ s[k].toNat ≤ 57)
          · have HR := Lib.hid (all_succ (l := s.data.toList) hlt HA.out ((alB_iff s[k]).2 hx))
            clear HA
            by_cases hy : 97 ≤ s[k].toNat ∧ s[k].toNat ≤ 122
            · obtain ⟨y1, y2⟩ := hy
              have a1 : decide ((97 : Int) ≤ (s[k].toNat : Int)) = true := by simp; omega
              have a2 : decide ((s[k].toNat : Int) ≤ 122) = true := by simp; omega
              have a3 : decide ((48 : Int) ≤ (s[k].toNat : Int)) = true := by simp; omega
              have a4 : decide ((s[k].toNat : Int) ≤ 57) = false := by simp; omega
              clear hx
              go_wp2
              go_roundw
              case rel => exact ⟨k + 1, by omega, by go_num, trivial, HR.out⟩
              case measure => simp [intOf]; omega
            · obtain ⟨y1, y2⟩ : 48 ≤ s[k].toNat ∧ s[k].toNat ≤ 57 := by omega
              have a1 : decide ((97 : Int) ≤ (s[k].toNat : Int)) = false := by simp; omega
              have a2 : decide ((s[k].toNat : Int) ≤ 122) = true := by simp; omega
              have a3 : decide ((48 : Int) ≤ (s[k].toNat : Int)) = true := by simp; omega
              have a4 : decide ((s[k].toNat : Int) ≤ 57) = true := by simp; omega
              clear hx hy
              go_wp2
              go_roundw
              case rel => exact ⟨k + 1, by omega, by go_num, trivial, HR.out⟩
              case measure => simp [intOf]; omega
          · have HR := Lib.hid (partOk_at (l := s.data.toList) hlt ((alB_no s[k]).2 hx))
            by_cases hy : 122 < s[k].toNat
            · have a1 : decide ((97 : Int) ≤ (s[k].toNat : Int)) = true := by simp; omega
              have a2 : decide ((s[k].toNat : Int) ≤ 122) = false := by simp; omega
              have a3 : decide ((48 : Int) ≤ (s[k].toNat : Int)) = true := by simp; omega
              have a4 : decide ((s[k].toNat : Int) ≤ 57) = false := by simp; omega
              clear hx
              go_wp2
              go_ret
              rw [HR.out]
              exact ⟨rfl, rfl⟩
            · by_cases hy2 : 57 < s[k].toNat
              · have hy3 : s[k].toNat < 97 := by omega
                have a1 : decide ((97 : Int) ≤ (s[k].toNat : Int)) = false := by simp; omega
                have a2 : decide ((s[k].toNat : Int) ≤ 122) = true := by simp; omega
                have a3 : decide ((48 : Int) ≤ (s[k].toNat : Int)) = true := by simp; omega
                have a4 : decide ((s[k].toNat : Int) ≤ 57) = false := by simp; omega
                clear hx
                go_wp2
                go_ret
                rw [HR.out]
                exact ⟨rfl, rfl⟩
              · have hy3 : s[k].toNat < 48 := by omega
                have a1 : decide ((97 : Int) ≤ (s[k].toNat : Int)) = false := by simp; omega
                have a2 : decide ((s[k].toNat : Int) ≤ 122) = true := by simp; omega
                have a3 : decide ((48 : Int) ≤ (s[k].toNat : Int)) = false := by simp; omega
                have a4 : decide ((s[k].toNat : Int) ≤ 57) = true := by simp; omega
                clear hx
                go_wp2
                go_ret
                rw [HR.out]
                exact ⟨rfl, rfl⟩
        · obtain rfl : k = s.size := by omega
          have HR := Lib.hid (partOk_done (l := s.data.toList) hp HZ.out HA.out)
          clear HA
          go_wp2
          go_ret
          rw [HR.out]
          exact ⟨rfl, rfl⟩
    · have HR := Lib.hid (partOk_head (l := s.data.toList) hp ((azB_no s[0]).2 hz))
      by_cases hy : s[0].toNat < 97
      all_goals
        go_enter Tryz.func165, Tryz.ntmps165
        go_wp2
        go_ret
        rw [HR.out]
        exact ⟨rfl, rfl⟩

/-- The state of the model's loop that cuts a text: byte k comes next, the part begins at b, `out` has been collected. -/
def CRel (y : UInt8) (l : List UInt8) (k b : Nat) (out : List (List UInt8)) : Prop :=
  (k ≤ l.length ∧ b ≤ k ∧ out.length ≤ k ∧ cutF y [] l = out ++ cutF y ((l.drop b).take (k - b)) (l.drop k)) ∨ (k = l.length + 1 ∧ out.length ≤ k ∧ cutF y [] l = out)
theorem CRel.start (y : UInt8) (l : List UInt8) : CRel y l 0 0 [] := .inl ⟨Nat.zero_le _, Nat.le_refl _, Nat.le_refl _, by simp⟩
theorem CRel.len {y : UInt8} {l : List UInt8} {k b : Nat} {out : List (List UInt8)} (h : CRel y l k b out) : out.length ≤ k := by rcases h with h | h <;> omega
theorem CRel.plain {y : UInt8} {l : List UInt8} {k b : Nat} {out : List (List UInt8)} (h : CRel y l k b out) (hk : k < l.length) (hc : l[k] ≠ y) : CRel y l (k + 1) b out := by
  rcases h with ⟨h1, h2, h3, h4⟩ | ⟨h1, _⟩
  · refine .inl ⟨hk, by omega, by omega, ?_⟩
    rw [h4, List.drop_eq_getElem_cons hk, cutF, if_neg hc]
    have : k + 1 - b = (k - b) + 1 := by omega
    rw [this, List.take_succ_eq_append_getElem (by simp; omega)]
    simp [List.getElem_drop, show b + (k - b) = k by omega]
  · omega
theorem CRel.cut {y : UInt8} {l : List UInt8} {k b : Nat} {out : List (List UInt8)} (h : CRel y l k b out) (hk : k < l.length) (hc : l[k] = y) : CRel y l (k + 1) (k + 1) (out ++ [(l.drop b).take (k - b)]) := by
  rcases h with ⟨h1, h2, h3, h4⟩ | ⟨h1, _⟩
  · refine .inl ⟨hk, by omega, by simp; omega, ?_⟩
    rw [h4, List.drop_eq_getElem_cons hk, cutF, if_pos hc]
    simp
  · omega
theorem CRel.last {y : UInt8} {l : List UInt8} {b : Nat} {out : List (List UInt8)} (h : CRel y l l.length b out) : CRel y l (l.length + 1) (l.length + 1) (out ++ [(l.drop b).take (l.length - b)]) := by
  rcases h with ⟨h1, h2, h3, h4⟩ | ⟨h1, _⟩
  · refine .inr ⟨rfl, by simp; omega, ?_⟩
    rw [h4, List.drop_length, cutF]
  · omega
theorem CRel.done {y : UInt8} {l : List UInt8} {b : Nat} {out : List (List UInt8)} (h : CRel y l (l.length + 1) b out) : cutF y [] l = out := by
  rcases h with ⟨h1, _⟩ | ⟨_, _, h3⟩
  · omega
  · exact h3
/-- A list of strings is returned in new memory. -/
def LRes (r : List (List UInt8)) (w : World) (e : Ending) (w' : World) : Prop :=
  ∃ v, e = .returned v ∧ w'.ownsRow w.heap.size 9 1 v r.length (r.map sv) ∧ Below w.heap.size w w'
theorem infoStr : (Tryz.prog.info? 9).map (fun i => (i.zero, i.size, i.bytes)) = some (some (.string ⟨#[]⟩), 1, 16) := by kernel_rfl

set_option maxHeartbeats 1000000 in
theorem specCut (s : ByteArray) (y : UInt8) (w : World) (hs : s.size ≤ 1000000000) : Calls Tryz.prog 164 #[.string s, .int .u8 (y.toNat : Int)] w (LRes (cutF y [] s.data.toList) w) := by
  have hls : s.data.toList.length = s.size := rfl
  have HLS := Lib.hid hls
  clear hls
  obtain ⟨i0, hi, hz0, hz1, hz2⟩ := info_parts infoStr
  go_enter Tryz.func164, Tryz.ntmps164
  go_wp2
  go_loopw [5, 6, 7] (fun v bb i wr => ∃ (k b : Nat) (out : List (List UInt8)), k ≤ s.size + 1 ∧ b ≤ k ∧ out.length ≤ k ∧ i = .int .i64 k ∧ bb = .int .i64 b ∧ wr.ownsRow w.heap.size 9 1 v out.length (out.map sv) ∧ Below w.heap.size w wr ∧ CRel y s.data.toList k b out)
    (fun _ _ i _ => s.size + 1 - (intOf i).toNat)
  case atStart =>
    exact ⟨0, 0, [], Nat.zero_le _, Nat.le_refl _, Nat.le_refl _, rfl, rfl, World.ownsRow_lit w #[] 0 (Nat.le_refl _) (by decide) (by simp), (Below.refl _ _).alloc (Nat.le_refl _) _, CRel.start _ _⟩
  case round =>
    obtain ⟨k, b, out, hk, hbk, hol, rfl, rfl, hown, hbel, hS⟩ := hrel
    have hz := hbel.size
    have hl := hown.lt
    by_cases hlt : k < s.size
    · have hne : ((k : Int) == (s.size : Int)) = false := by rw [beq_eq_false_iff_ne]; omega
      by_cases hc : s[k] = y
      · have HR := Lib.hid (hS.cut hlt hc)
        have h33 : ((s[k].toNat : Int) == (y.toNat : Int)) = true := by rw [beq_iff_eq, hc]
        clear hS hc
        go_wp2_with (at_builtin; refine wpList_append_own _ rfl _ _ 25 rfl w.heap.size 9 i0 _ 1 16 Tryz.underlying25 hi hz0 hz1 hz2 rfl (by decide) _ _ _ rfl (hown.alloc _) ⟨wr.heap.size, 0, none⟩ 1 1 [.string (s.extract b k)] rfl rfl (oneNew _ _ _) (by simp [Value.oneCell']) (by simp only [maxLen]; omega) (by omega) (by simp; omega) ?_; intro v1 w1 hown1 hgrow hat)
        rw [extract_sv] at hown1
        go_roundw
        case rel => exact ⟨k + 1, k + 1, _, by omega, Nat.le_refl _, HR.out.len, by go_num, by go_num, by simpa using hown1, (hbel.alloc hz _).grown hgrow (by simp; omega) (fun q hq => (hl q hq).1), HR.out⟩
        case measure => simp [intOf]; omega
      · have HR := Lib.hid (hS.plain hlt hc)
        have h33 : ((s[k].toNat : Int) == (y.toNat : Int)) = false := by
          rw [beq_eq_false_iff_ne]
          intro e
          exact hc (UInt8.toNat_inj.1 (by omega))
        clear hS hc
        go_wp2
        go_roundw
        case rel => exact ⟨k + 1, b, _, by omega, by omega, HR.out.len, by go_num, rfl, hown, hbel, HR.out⟩
        case measure => simp [intOf]; omega
    · by_cases heq : k = s.size
      · subst heq
        have HR := Lib.hid (CRel.last hS)
        clear hS
        go_wp2_with (at_builtin; refine wpList_append_own _ rfl _ _ 25 rfl w.heap.size 9 i0 _ 1 16 Tryz.underlying25 hi hz0 hz1 hz2 rfl (by decide) _ _ _ rfl (hown.alloc _) ⟨wr.heap.size, 0, none⟩ 1 1 [.string (s.extract b s.size)] rfl rfl (oneNew _ _ _) (by simp [Value.oneCell']) (by simp only [maxLen]; omega) (by omega) (by simp; omega) ?_; intro v1 w1 hown1 hgrow hat)
        rw [extract_sv] at hown1
        go_roundw
        case rel => exact ⟨s.size + 1, s.size + 1, _, Nat.le_refl _, Nat.le_refl _, HR.out.len, by go_num, by go_num, by simpa using hown1, (hbel.alloc hz _).grown hgrow (by simp; omega) (fun q hq => (hl q hq).1), HR.out⟩
        case measure => simp [intOf]
      · obtain rfl : k = s.size + 1 := by omega
        have HR := Lib.hid (CRel.done hS)
        clear hS
        have hO := Lib.hid hown
        clear hown
        go_wp2
        go_ret
        rw [HR.out]
        exact ⟨_, rfl, hO.out, hbel⟩
theorem specCut46 (s : ByteArray) (w : World) (hs : s.size ≤ 1000000000) : Calls Tryz.prog 164 #[.string s, .int .u8 46] w (LRes (cutL s.data.toList) w) := specCut s 46 w hs
end Go.Proofs.YtgielbamebjjdaaGreatDoor
