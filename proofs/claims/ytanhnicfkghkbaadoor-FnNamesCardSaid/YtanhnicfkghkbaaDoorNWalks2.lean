/-
  Contracts of spec.NameOk and impl.NameOk: whether a string is a name.
-/
import Derived.Test.YtanhnicfkghkbaaDoorNWalks
namespace Go.Proofs.YtanhnicfkghkbaaDoor
set_option maxRecDepth 100000
open Go.ChangeShapes Go.WideShapes Go.ChangeAt Go.RowKit

theorem nameOk_many {l : List UInt8} (h : 5 < (cutL l).length) : nameOk l = false := by
  simp [nameOk, show ¬ (cutL l).length ≤ 5 by omega]
theorem nameOk_part {l : List UInt8} {k : Nat} (h : k < (cutL l).length) (hb : partOk (cutL l)[k] = false) : nameOk l = false := by
  have h2 : (cutL l).all partOk = false := by
    rw [Bool.eq_false_iff]
    intro h3
    have := List.all_eq_true.1 h3 (cutL l)[k] (List.getElem_mem h)
    rw [hb] at this
    cases this
  simp only [nameOk, h2, Bool.and_false]
theorem nameOk_done {l : List UInt8} (h40 : l.length ≤ 40) (h5 : (cutL l).length ≤ 5) (h : ((cutL l).take (cutL l).length).all partOk = true) : nameOk l = true := by
  rw [List.take_length] at h
  simp [nameOk, h40, h5, h]
theorem all_succ' {f : List UInt8 → Bool} {l : List (List UInt8)} {k : Nat} (h : k < l.length) (h0 : (l.take k).all f = true) (hb : f l[k] = true) : (l.take (k + 1)).all f = true := by
  rw [List.take_succ_eq_append_getElem h, List.all_append, h0]
  simp [hb]
theorem cutF_part (y : UInt8) (l : List UInt8) : ∀ p x, x ∈ cutF y p l → x.length ≤ p.length + l.length := by
  induction l with
  | nil => intro p x hx; simp only [cutF, List.mem_singleton] at hx; subst hx; simp
  | cons c l ih =>
    intro p x hx
    rw [cutF] at hx
    split at hx
    · rw [List.mem_cons] at hx
      rcases hx with rfl | hx
      · omega
      · have := ih [] x hx; simp at this ⊢; omega
    · have := ih _ x hx; simp at this ⊢; omega

theorem scan_fail {l : List UInt8} {k d : Nat} {b : Bool} (h : k < l.length) (h1 : ¬ (97 ≤ l[k].toNat ∧ l[k].toNat ≤ 122)) (h2 : ¬ ((48 ≤ l[k].toNat ∧ l[k].toNat ≤ 57) ∧ b = true)) (h3 : ¬ (l[k].toNat = 46 ∧ b = true)) : scan (l.drop k) d b = false := by
  rw [scan_drop h, if_neg (by rw [azB_iff]; exact h1), if_neg (by rw [dgB_iff]; exact h2), if_neg]
  rintro ⟨h4, h5⟩
  exact h3 ⟨by rw [h4]; rfl, h5⟩
theorem scan_digit {l : List UInt8} {k d : Nat} (h : k < l.length) (h1 : 48 ≤ l[k].toNat ∧ l[k].toNat ≤ 57) : scan (l.drop k) d true = scan (l.drop (k + 1)) d true := by
  rw [scan_drop h, if_neg (by rw [azB_iff]; omega), if_pos ⟨(dgB_iff _).2 h1, rfl⟩]
theorem scan_dot {l : List UInt8} {k d : Nat} (h : k < l.length) (h1 : l[k].toNat = 46) : scan (l.drop k) d true = scan (l.drop (k + 1)) (d + 1) false := by
  rw [scan_drop h, if_neg (by rw [azB_iff]; omega), if_neg (by rw [dgB_iff]; omega), if_pos ⟨UInt8.toNat_inj.1 h1, rfl⟩]
theorem scan_az {l : List UInt8} {k d : Nat} {b : Bool} (h : k < l.length) (h1 : 97 ≤ l[k].toNat ∧ l[k].toNat ≤ 122) : scan (l.drop k) d b = scan (l.drop (k + 1)) d true := by
  rw [scan_drop h, if_pos ((azB_iff _).2 h1)]
theorem below_iter (w : World) (s : ByteArray) (p : Nat) : Below w.heap.size w (w.iter s p) := (Below.refl _ _).alloc (Nat.le_refl _) _

set_option maxHeartbeats 1000000 in
theorem implNameOk (s : ByteArray) (w : World) (hm : s.size ≤ maxLen) :
    Calls Tryd.prog 11 #[.string s] w fun e w' => e = .returned (.bool (nameOk s.data.toList)) ∧ Below w.heap.size w w' := by
  unfold maxLen at hm
  by_cases h40 : 40 < s.size
  · have HR := Lib.hid (nameOk_long (l := s.data.toList) h40)
    go_enter Tryd.func11, Tryd.ntmps11
    go_wp2
    go_ret
    rw [HR.out]
    exact ⟨rfl, Below.refl _ _⟩
  · rw [nameOk_scan _ (Nat.not_lt.1 h40)]
    have hb : decide ((40 : Int) < (s.size : Int)) = false := by rw [decide_eq_false_iff_not]; omega
    go_enter Tryd.func11, Tryd.ntmps11
    go_wp2
    go_loopw [3, 4] (fun dv bv wr => ∃ (k d : Nat) (b : Bool), k ≤ s.size ∧ d ≤ k + 1 ∧ dv = .int .i64 d ∧ bv = .bool b ∧ wr = w.iter s k ∧ Hid (scan s.data.toList 1 false = scan (s.data.toList.drop k) d b)) (fun _ _ wr => s.size - wr.iterPos w.heap.size)
    case atStart => exact ⟨0, 1, false, Nat.zero_le _, Nat.le_refl _, rfl, rfl, rfl, by simp [Hid]⟩
    case round =>
      obtain ⟨k, d, b, hk, hd, rfl, rfl, rfl, HS⟩ := hrel
      by_cases hlt : k < s.size
      · by_cases hasc : (s[k]).toNat < 128
        · have hnx : ∀ ty, (Instr.next (.pointer (some ⟨w.heap.size, 0, none⟩)) true ty).run Tryd.prog (w.iter s k) = _ := fun ty => run_next_ascii w s k ty hlt hasc
          by_cases haz : 97 ≤ s[k].toNat ∧ s[k].toNat ≤ 122
          · have HR := Lib.hid (HS.out.trans (scan_az (l := s.data.toList) hlt haz))
            clear HS
            obtain ⟨y1, y2⟩ := haz
            have a1 : decide ((97 : Int) ≤ (s[k].toNat : Int)) = true := by simp; omega
            have a2 : decide ((s[k].toNat : Int) ≤ 122) = true := by simp; omega
            have a3 : decide ((48 : Int) ≤ (s[k].toNat : Int)) = true := by simp; omega
            have a4 : decide ((s[k].toNat : Int) ≤ 57) = false := by simp; omega
            have a5 : ((s[k].toNat : Int) == 46) = false := by rw [beq_eq_false_iff_ne]; omega
            go_wp2
            go_roundw
            case rel => exact ⟨k + 1, d, true, by omega, by omega, rfl, rfl, rfl, HR.out⟩
            case measure => simp; omega
          · by_cases hdg : 48 ≤ s[k].toNat ∧ s[k].toNat ≤ 57
            · cases b
              · have HR := Lib.hid (HS.out.trans (scan_fail (l := s.data.toList) hlt haz (by simp) (by simp)))
                obtain ⟨y1, y2⟩ := hdg
                clear HS haz
                have a1 : decide ((97 : Int) ≤ (s[k].toNat : Int)) = false := by simp; omega
                have a2 : decide ((s[k].toNat : Int) ≤ 122) = true := by simp; omega
                have a3 : decide ((48 : Int) ≤ (s[k].toNat : Int)) = true := by simp; omega
                have a4 : decide ((s[k].toNat : Int) ≤ 57) = true := by simp; omega
                have a5 : ((s[k].toNat : Int) == 46) = false := by rw [beq_eq_false_iff_ne]; omega
                go_wp2
                go_ret
                rw [HR.out]
                exact ⟨rfl, below_iter _ _ _⟩
              · have HR := Lib.hid (HS.out.trans (scan_digit (l := s.data.toList) hlt hdg))
                obtain ⟨y1, y2⟩ := hdg
                clear HS haz
                have a1 : decide ((97 : Int) ≤ (s[k].toNat : Int)) = false := by simp; omega
                have a2 : decide ((s[k].toNat : Int) ≤ 122) = true := by simp; omega
                have a3 : decide ((48 : Int) ≤ (s[k].toNat : Int)) = true := by simp; omega
                have a4 : decide ((s[k].toNat : Int) ≤ 57) = true := by simp; omega
                have a5 : ((s[k].toNat : Int) == 46) = false := by rw [beq_eq_false_iff_ne]; omega
                go_wp2
                go_roundw
                case rel => exact ⟨k + 1, d, true, by omega, by omega, rfl, rfl, rfl, HR.out⟩
                case measure => simp; omega
            · by_cases h46 : s[k].toNat = 46
              · cases b
                · have HR := Lib.hid (HS.out.trans (scan_fail (l := s.data.toList) hlt haz (by simp) (by simp)))
                  clear HS haz hdg
                  have a1 : decide ((97 : Int) ≤ (s[k].toNat : Int)) = false := by simp; omega
                  have a2 : decide ((s[k].toNat : Int) ≤ 122) = true := by simp; omega
                  have a3 : decide ((48 : Int) ≤ (s[k].toNat : Int)) = false := by simp; omega
                  have a4 : decide ((s[k].toNat : Int) ≤ 57) = true := by simp; omega
                  have a5 : ((s[k].toNat : Int) == 46) = true := by rw [beq_iff_eq]; omega
                  go_wp2
                  go_ret
                  rw [HR.out]
                  exact ⟨rfl, below_iter _ _ _⟩
                · have HR := Lib.hid (HS.out.trans (scan_dot (l := s.data.toList) hlt h46))
                  clear HS haz hdg
                  have a1 : decide ((97 : Int) ≤ (s[k].toNat : Int)) = false := by simp; omega
                  have a2 : decide ((s[k].toNat : Int) ≤ 122) = true := by simp; omega
                  have a3 : decide ((48 : Int) ≤ (s[k].toNat : Int)) = false := by simp; omega
                  have a4 : decide ((s[k].toNat : Int) ≤ 57) = true := by simp; omega
                  have a5 : ((s[k].toNat : Int) == 46) = true := by rw [beq_iff_eq]; omega
                  clear h46
                  go_wp2
                  go_roundw
                  case rel => exact ⟨k + 1, d + 1, false, by omega, by omega, by go_num, rfl, rfl, HR.out⟩
                  case measure => simp; omega
              · have HR := Lib.hid (HS.out.trans (scan_fail (l := s.data.toList) hlt haz (fun h => hdg h.1) (fun h => h46 h.1)))
                clear HS
                by_cases z1 : 122 < s[k].toNat
                · clear haz hdg
                  have a1 : decide ((97 : Int) ≤ (s[k].toNat : Int)) = true := by simp; omega
                  have a2 : decide ((s[k].toNat : Int) ≤ 122) = false := by simp; omega
                  have a3 : decide ((48 : Int) ≤ (s[k].toNat : Int)) = true := by simp; omega
                  have a4 : decide ((s[k].toNat : Int) ≤ 57) = false := by simp; omega
                  have a5 : ((s[k].toNat : Int) == 46) = false := by rw [beq_eq_false_iff_ne]; omega
                  go_wp2
                  go_ret
                  rw [HR.out]
                  exact ⟨rfl, below_iter _ _ _⟩
                · by_cases z2 : 57 < s[k].toNat
                  · have z3 : s[k].toNat < 97 := by omega
                    clear haz hdg
                    have a1 : decide ((97 : Int) ≤ (s[k].toNat : Int)) = false := by simp; omega
                    have a2 : decide ((s[k].toNat : Int) ≤ 122) = true := by simp; omega
                    have a3 : decide ((48 : Int) ≤ (s[k].toNat : Int)) = true := by simp; omega
                    have a4 : decide ((s[k].toNat : Int) ≤ 57) = false := by simp; omega
                    have a5 : ((s[k].toNat : Int) == 46) = false := by rw [beq_eq_false_iff_ne]; omega
                    go_wp2
                    go_ret
                    rw [HR.out]
                    exact ⟨rfl, below_iter _ _ _⟩
                  · have z3 : s[k].toNat < 48 := by omega
                    clear haz hdg
                    have a1 : decide ((97 : Int) ≤ (s[k].toNat : Int)) = false := by simp; omega
                    have a2 : decide ((s[k].toNat : Int) ≤ 122) = true := by simp; omega
                    have a3 : decide ((48 : Int) ≤ (s[k].toNat : Int)) = false := by simp; omega
                    have a4 : decide ((s[k].toNat : Int) ≤ 57) = true := by simp; omega
                    have a5 : ((s[k].toNat : Int) == 46) = false := by rw [beq_eq_false_iff_ne]; omega
                    go_wp2
                    go_ret
                    rw [HR.out]
                    exact ⟨rfl, below_iter _ _ _⟩
        · have hnx : ∀ ty, (Instr.next (.pointer (some ⟨w.heap.size, 0, none⟩)) true ty).run Tryd.prog (w.iter s k) = _ := fun ty => run_next_any w s k ty hlt
          have hhi := (decode_high s k hlt (by omega)).1
          have HR := Lib.hid (HS.out.trans (scan_fail (l := s.data.toList) hlt (show ¬ (97 ≤ s[k].toNat ∧ s[k].toNat ≤ 122) by omega) (show ¬ ((48 ≤ s[k].toNat ∧ s[k].toNat ≤ 57) ∧ b = true) by omega) (show ¬ (s[k].toNat = 46 ∧ b = true) by omega)))
          clear HS
          have a1 : decide ((97 : Int) ≤ ((Utf8.decode s k).1 : Int)) = true := by simp; omega
          have a2 : decide (((Utf8.decode s k).1 : Int) ≤ 122) = false := by simp; omega
          have a3 : decide ((48 : Int) ≤ ((Utf8.decode s k).1 : Int)) = true := by simp; omega
          have a4 : decide (((Utf8.decode s k).1 : Int) ≤ 57) = false := by simp; omega
          have a5 : (((Utf8.decode s k).1 : Int) == 46) = false := by rw [beq_eq_false_iff_ne]; omega
          go_wp2
          go_ret
          rw [HR.out]
          exact ⟨rfl, below_iter _ _ _⟩
      · obtain rfl : k = s.size := by omega
        have hnx : ∀ ty, (Instr.next (.pointer (some ⟨w.heap.size, 0, none⟩)) true ty).run Tryd.prog (w.iter s s.size) = _ := fun ty => run_next_end w s s.size ty (Nat.lt_irrefl _)
        have e0 : s.data.toList.drop s.size = [] := List.drop_length
        have HR := Lib.hid (HS.out.trans (show scan (s.data.toList.drop s.size) d b = (b && decide (d ≤ 5)) by rw [e0]; rfl))
        clear HS e0
        cases b
        · go_wp2
          go_ret
          rw [HR.out]
          exact ⟨rfl, below_iter _ _ _⟩
        · go_wp2
          go_ret
          rw [HR.out]
          exact ⟨by simp; omega, below_iter _ _ _⟩
end Go.Proofs.YtanhnicfkghkbaaDoor
