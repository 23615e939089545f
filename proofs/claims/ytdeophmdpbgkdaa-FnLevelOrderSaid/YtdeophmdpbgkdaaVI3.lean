/-
  Contracts of impl.putParams and impl.LevelPut.
-/
import Derived.Test.YtdeophmdpbgkdaaVI2
import Derived.Test.YtdeophmdpbgkdaaVPut
import Derived.Test.YtdeophmdpbgkdaaVB
import Derived.Test.YtdeophmdpbgkdaaVSB
import Derived.Test.YtdeophmdpbgkdaaListsP
namespace Go.Proofs.Ytdeophmdpbgkdaa
set_option maxRecDepth 100000
open Go.ChangeShapes Go.WideShapes Go.ChangeAt Go.RowKit
set_option linter.unusedSimpArgs false

/-- What the program puts: no byte for an u, the argument for its digit, every other byte as it is. -/
def iput (args : List (List UInt8)) : List UInt8 → List UInt8
  | [] => []
  | c :: r => if c = 117 then iput args r else if 48 ≤ c.toNat ∧ c.toNat ≤ 50 then args.getD (c.toNat - 48) [] ++ iput args r else c :: iput args r
theorem iput_eq (args : List (List UInt8)) : ∀ (l : List UInt8) (k : Nat), lend k l = some l.length → iput args l = putF args l := by
  refine lend_ind (motive := fun k l => lend k l = some l.length → iput args l = putF args l) ?_ ?_ ?_ ?_ ?_ ?_ ?_
  · intro l h
    rw [lend_zero] at h
    have : l = [] := List.length_eq_zero_iff.1 (Option.some.inj h).symm
    rw [this, putF_nil]; rfl
  · intro n h; rw [lend_nil] at h; cases h
  · intro n r ih h
    rw [lend_z] at h
    rw [iput, if_neg (by decide), if_neg (by decide), putF_step args (by decide), ih (lend_map1 h)]
  · intro n r ih h
    rw [lend_up] at h
    rw [iput, if_neg (by decide), if_neg (by decide), putF_step args (by decide), ih (lend_map1 h)]
  · intro n c r hc ih h
    rw [lend_two n hc] at h
    have hu : c ≠ 117 := by rcases hc with rfl | rfl <;> decide
    rw [iput, if_neg hu, if_neg (by rcases hc with rfl | rfl <;> decide), putF_step args hu, ih (lend_map1 h)]
  · intro n d r h1 h2 ih h
    rw [lend_par n h1 h2] at h
    have hd : d ≠ 117 := by rintro rfl; revert h2; decide
    rw [iput, if_pos rfl, iput, if_neg hd, if_pos ⟨h1, h2⟩, putF_par, ih (lend_map2 h)]
  · intro n c r hbad h; rw [hbad] at h; cases h
theorem iput_u {args : List (List UInt8)} {l : List UInt8} {p : Nat} (hp : p < l.length) (h : l[p] = 117) : iput args (l.drop p) = iput args (l.drop (p + 1)) := by
  rw [List.drop_eq_getElem_cons hp, iput, if_pos h]
theorem iput_d {args : List (List UInt8)} {l : List UInt8} {p : Nat} (hp : p < l.length) (h : l[p] ≠ 117) (hd : 48 ≤ l[p].toNat ∧ l[p].toNat ≤ 50) : iput args (l.drop p) = args.getD (l[p].toNat - 48) [] ++ iput args (l.drop (p + 1)) := by
  rw [List.drop_eq_getElem_cons hp, iput, if_neg h, if_pos hd]
theorem iput_c {args : List (List UInt8)} {l : List UInt8} {p : Nat} (hp : p < l.length) (h : l[p] ≠ 117) (hd : ¬ (48 ≤ l[p].toNat ∧ l[p].toNat ≤ 50)) : iput args (l.drop p) = l[p] :: iput args (l.drop (p + 1)) := by
  rw [List.drop_eq_getElem_cons hp, iput, if_neg h, if_neg hd]

set_option maxHeartbeats 4000000 in
theorem implPutParams (s : ByteArray) {w : World} {b : Nat} {v : Value} {args : List (List UInt8)} (h : w.ownsRow b 9 1 v args.length (args.map sv)) (hs : s.size ≤ 60) (h3 : args.length ≤ 3) (hx : ∀ x ∈ args, x.length ≤ 60)
    (hd : ∀ i (hi : i < s.data.toList.length), 48 ≤ s.data.toList[i].toNat → s.data.toList[i].toNat ≤ 50 → s.data.toList[i].toNat - 47 ≤ args.length) :
    Calls Try.prog 39 #[.string s, v] w fun e w' => e = .returned (.string ⟨(iput args s.data.toList).toArray⟩) ∧ Below w.heap.size w w' := by
  obtain ⟨a0, cap, rfl⟩ := own_sliceV h
  have hls : s.data.toList.length = s.size := rfl
  have HLS := Lib.hid hls
  have HD := Lib.hid hd
  have HX := Lib.hid hx
  have HO := Lib.hid h
  clear hls hd hx
  go_enter Try.func39, Try.ntmps39
  go_wp2
  go_loopw [6] (fun i wr => ∃ (p : Nat) (out : List UInt8), p ≤ s.size ∧ out.length ≤ 60 * p ∧ i = .int .i64 p ∧ Below w.heap.size w wr ∧ Lib.IsBuilder 64 5 w.heap.size w.heap.size (Lib.byteCells out) wr ∧ Hid (out ++ iput args (s.data.toList.drop p) = iput args s.data.toList)) (fun i _ => s.size - (intOf i).toNat)
  case atStart => exact ⟨0, [], Nat.zero_le _, Nat.le_refl _, rfl, (Below.refl _ _).alloc (Nat.le_refl _) _, Lib.fresh_isBuilder 64 5 w, rfl⟩
  case round =>
    obtain ⟨p, out, hp, ho, rfl, hb, hbl, HR⟩ := hrel
    have hsz := hb.size
    by_cases hlt : p < s.size
    · have hll : p < s.data.toList.length := hlt
      have q1 : (0 : Int) ≤ (p : Int) := by omega
      have q2 : (p : Int) < (s.size : Int) := by omega
      have d1 : decide ((p : Int) < (s.size : Int)) = true := decide_eq_true (by omega)
      have hlen : (Lib.byteCells out).length ≤ 1000000000 := by rw [Lib.byteCells_length]; omega
      by_cases c1 : s[p] = 117
      · have e1 : ((s[p].toNat : Int) == 117) = true := is_byte c1
        have HR2 : Hid (out ++ iput args (s.data.toList.drop (p + 1)) = iput args s.data.toList) := by rw [Hid, ← iput_u hll c1]; exact HR.out
        clear HR c1
        go_wp2
        go_roundw
        case rel => exact ⟨p + 1, out, by omega, by omega, by go_num, hb, hbl, HR2.out⟩
        case measure => simp [intOf]; omega
      have e1 : ((s[p].toNat : Int) == 117) = false := ne_byte c1
      have f2 := Lib.hid fun W => implIsParam s[p] W
      by_cases b1 : 48 ≤ s[p].toNat ∧ s[p].toNat ≤ 50
      · rw [decide_eq_true b1] at f2
        have hk : s[p].toNat - 48 < args.length := by have := HD.out p hll b1.1 b1.2; have e : s.data.toList[p] = s[p] := rfl; rw [e] at this; omega
        have HR2 : Hid ((out ++ args[s[p].toNat - 48]) ++ iput args (s.data.toList.drop (p + 1)) = iput args s.data.toList) := by
          have e : s.data.toList[p] = s[p] := rfl
          have e2 := iput_d (args := args) hll c1 b1
          rw [e, List.getD_eq_getElem?_getD, List.getElem?_eq_getElem hk, Option.getD_some] at e2
          rw [Hid, List.append_assoc, ← e2]
          exact HR.out
        have f3 := Lib.hid fun W => implParamOf s[p] W b1.1
        have hx := HX.out args[s[p].toNat - 48] (List.getElem_mem hk)
        have hon := own_below h hb
        obtain ⟨g, cap', e0, _, hgl⟩ := h.form (by omega)
        cases e0
        have ex : (args.map sv)[s[p].toNat - 48]? = some (sv args[s[p].toNat - 48]) := by simp [hk]
        have cc := (hon.cellAt (s[p].toNat - 48) (by omega)).trans ex
        unfold sv at cc
        have q3 : (0 : Int) ≤ ((s[p].toNat - 48 : Nat) : Int) := by omega
        have q4 : ((s[p].toNat - 48 : Nat) : Int) < (args.length : Int) := by omega
        have f4 := Lib.hid (bldString (⟨args[s[p].toNat - 48].toArray⟩ : ByteArray) hbl hlen (by show (args[s[p].toNat - 48].toArray).size ≤ 1000000000; rw [List.size_toArray]; omega) hsz)
        have HC : Hid (Lib.byteCells out ++ Lib.strCells ⟨args[s[p].toNat - 48].toArray⟩ = Lib.byteCells (out ++ args[s[p].toNat - 48])) := by
          rw [Hid, Lib.strCells_eq, Lib.byteCells, Lib.byteCells, Lib.byteCells, List.map_append]
        rw [HC.out] at f4
        generalize hkk : s[p].toNat - 48 = kk at *
        generalize hxa : args[kk] = xa at *
        clear HR c1 b1 ex HC hbl
        go_wp2_with fail
        (with_reducible refine (f2.out _).mono ?_); rintro e w1 ⟨rfl, rfl⟩
        go_wp2_with fail
        (with_reducible refine (f3.out _).mono ?_); rintro e w1 ⟨rfl, rfl⟩
        go_wp2_with fail
        (with_reducible refine f4.out.mono ?_); rintro e w2 ⟨rfl, hbl2, hb2⟩
        go_wp2
        go_roundw
        case rel => exact ⟨p + 1, out ++ xa, by omega, by simp; omega, by go_num, hb.trans hb2, .inr hbl2, HR2.out⟩
        case measure => simp [intOf]; omega
      · rw [decide_eq_false b1] at f2
        have HR2 : Hid ((out ++ [s[p]]) ++ iput args (s.data.toList.drop (p + 1)) = iput args s.data.toList) := by
          have e : s.data.toList[p] = s[p] := rfl
          have e2 := iput_c (args := args) hll c1 b1
          rw [e] at e2
          rw [Hid, List.append_assoc, List.singleton_append, ← e2]
          exact HR.out
        have f4 := Lib.hid (bldByte (s[p].toNat : Int) hbl hlen hsz)
        have HC : Hid (Lib.byteCells out ++ [Value.int .u8 (s[p].toNat : Int)] = Lib.byteCells (out ++ [s[p]])) := by
          rw [Hid, Lib.byteCells, Lib.byteCells, List.map_append]; rfl
        rw [HC.out] at f4
        clear HR c1 b1 HC hbl
        go_wp2_with fail
        (with_reducible refine (f2.out _).mono ?_); rintro e w1 ⟨rfl, rfl⟩
        go_wp2_with fail
        (with_reducible refine f4.out.mono ?_); rintro e w2 ⟨rfl, hbl2, hb2⟩
        go_wp2
        go_roundw
        case rel => exact ⟨p + 1, out ++ [s[p]], by omega, by simp; omega, by go_num, hb.trans hb2, .inr hbl2, HR2.out⟩
        case measure => simp [intOf]; omega
    · have d1 : decide ((p : Int) < (s.size : Int)) = false := decide_eq_false (by omega)
      have HE : Hid (iput args s.data.toList = out) := by
        rw [Hid, ← HR.out, List.drop_eq_nil_of_le (by show s.size ≤ p; omega), iput, List.append_nil]
      have f1 := Lib.hid (Try.Builder_String_any _ _ out _ hbl hsz)
      clear HR hbl
      go_wp2_with fail
      (with_reducible refine f1.out.mono ?_); rintro e w2 ⟨rfl, hb2⟩
      go_wp2
      go_ret
      rw [HE.out]
      exact ⟨rfl, hb.trans hb2⟩

set_option maxHeartbeats 4000000 in
theorem implLevelPut (s : ByteArray) {w : World} {b : Nat} {v : Value} {args : List (List UInt8)} (h : w.ownsRow b 9 1 v args.length (args.map sv)) (hs : s.size ≤ maxLen) (hx : ∀ x ∈ args, x.length ≤ maxLen) (hn : args.length ≤ 10000000) :
    Calls Try.prog 14 #[.string s, v] w fun e w' => e = .returned (putRes (levelPut s.data.toList args)) ∧ Below w.heap.size w w' := by
  obtain ⟨a0, cap, rfl⟩ := own_sliceV h
  have f1 := Lib.hid fun W => implLevelOk s W hs
  have f2 := Lib.hid fun W => implLevelParams s W hs
  have hls : s.data.toList.length = s.size := rfl
  by_cases hok : levelOk s.data.toList = true
  rotate_left
  · have HE : Hid (levelPut s.data.toList args = none) := if_neg fun hc => hok hc.1
    rw [Bool.not_eq_true] at hok
    rw [hok] at f1
    clear hok h hls f2
    go_enter Try.func14, Try.ntmps14
    go_wp2_with fail
    (with_reducible refine (f1.out _).mono ?_); rintro e w1 ⟨rfl, rfl⟩
    go_wp2
    go_ret2
    rw [HE.out]
    exact ⟨rfl, Below.refl _ _⟩
  have h60 := (levelOk_len hok).1
  rw [hls] at h60
  have hpar : levelParams s.data.toList = digF 0 s.data.toList := (if_pos hok).trans (digF_eq s.data.toList 1 (levelOk_len hok).2 0).symm
  have HI := Lib.hid (iput_eq args s.data.toList 1 (levelOk_len hok).2)
  have HOK := Lib.hid hok
  rw [hok] at f1
  clear hok hls
  by_cases h4 : levelParams s.data.toList ≤ args.length
  rotate_left
  · have HE : Hid (levelPut s.data.toList args = none) := if_neg fun hc => h4 hc.2.2.1
    have d2 : decide ((args.length : Int) < (levelParams s.data.toList : Int)) = true := decide_eq_true (by omega)
    clear h hpar HI
    go_enter Try.func14, Try.ntmps14
    go_wp2_with fail
    (with_reducible refine (f1.out _).mono ?_); rintro e w1 ⟨rfl, rfl⟩
    go_wp2_with fail
    (with_reducible refine (f2.out _).mono ?_); rintro e w1 ⟨rfl, rfl⟩
    go_wp2
    go_ret2
    rw [HE.out]
    exact ⟨rfl, Below.refl _ _⟩
  have d2 : decide ((args.length : Int) < (levelParams s.data.toList : Int)) = false := decide_eq_false (by omega)
  have d2n : decide (args.length < levelParams s.data.toList) = false := decide_eq_false (by omega)
  by_cases h3 : args.length ≤ 3
  rotate_left
  · have HE : Hid (levelPut s.data.toList args = none) := if_neg fun hc => h3 hc.2.1
    have d1 : decide ((3 : Int) < (args.length : Int)) = true := decide_eq_true (by omega)
    clear h hpar HI
    go_enter Try.func14, Try.ntmps14
    go_wp2_with fail
    (with_reducible refine (f1.out _).mono ?_); rintro e w1 ⟨rfl, rfl⟩
    go_wp2_with fail
    (with_reducible refine (f2.out _).mono ?_); rintro e w1 ⟨rfl, rfl⟩
    go_wp2
    go_ret2
    rw [HE.out]
    exact ⟨rfl, Below.refl _ _⟩
  have d1 : decide ((3 : Int) < (args.length : Int)) = false := decide_eq_false (by omega)
  have HG : Hid (∀ i (hi : i < s.data.toList.length), 48 ≤ s.data.toList[i].toNat → s.data.toList[i].toNat ≤ 50 → s.data.toList[i].toNat - 47 ≤ args.length) := fun i hi u1 u2 => Nat.le_trans (digF_ge s.data.toList 0 i hi u1 u2) (hpar ▸ h4)
  clear hpar
  have f3 := Lib.hid fun (x : List UInt8) (hm : x ∈ args) W => implLevelOk ⟨x.toArray⟩ W (by simpa [ByteArray.size] using hx x hm)
  simp only at f3
  go_enter Try.func14, Try.ntmps14
  go_wp2_with fail
  (with_reducible refine (f1.out _).mono ?_); rintro e w1 ⟨rfl, rfl⟩
  go_wp2_with fail
  (with_reducible refine (f2.out _).mono ?_); rintro e w1 ⟨rfl, rfl⟩
  clear f1 f2
  go_wp2
  go_loopw [26] (fun i wr => ∃ k : Nat, k ≤ args.length ∧ i = .int .i64 k ∧ wr = w1 ∧ Hid (∀ j (hj : j < args.length), j < k → levelOk args[j] = true)) (fun i _ => args.length - (intOf i).toNat)
  case atStart => exact ⟨0, Nat.zero_le _, rfl, rfl, fun j _ hj => by omega⟩
  case round =>
    obtain ⟨k, hk, rfl, rfl, HA⟩ := hrel
    by_cases hlt : k < args.length
    · obtain ⟨g, cap', e0, _, hgl⟩ := h.form (by omega)
      cases e0
      have ex : (args.map sv)[k]? = some (sv args[k]) := by simp [hlt]
      have cc := (h.cellAt k (by omega)).trans ex
      unfold sv at cc
      have q1 : (0 : Int) ≤ (k : Int) := by omega
      have q2 : (k : Int) < (args.length : Int) := by omega
      have dk : decide ((k : Int) < (args.length : Int)) = true := decide_eq_true q2
      have g3 := Lib.hid (f3.out args[k] (List.getElem_mem hlt))
      have HB : Hid (levelOk args[k] = false → levelPut s.data.toList args = none) := fun hb => if_neg fun hc => by
        have := hc.2.2.2.1 args[k] (List.getElem_mem hlt)
        rw [hb] at this
        cases this
      have HA2 : Hid (levelOk args[k] = true → ∀ j (hj : j < args.length), j < k + 1 → levelOk args[j] = true) := fun hb j hj hjk => if e : j = k then by subst e; exact hb else HA.out j hj (by omega)
      clear ex HA f3
      generalize levelOk args[k] = ok at g3 HB HA2
      generalize args[k] = x at cc g3
      cases ok
      · have HE := Lib.hid (HB.out rfl)
        clear HB HA2
        go_wp2_with fail
        (with_reducible refine (g3.out _).mono ?_); rintro e w2 ⟨rfl, rfl⟩
        go_wp2
        go_ret2
        rw [HE.out]
        exact ⟨rfl, Below.refl _ _⟩
      · have HN := Lib.hid (HA2.out rfl)
        clear HB HA2
        go_wp2_with fail
        (with_reducible refine (g3.out _).mono ?_); rintro e w2 ⟨rfl, rfl⟩
        go_wp2
        go_roundw
        case rel => exact ⟨k + 1, by omega, by go_num, trivial, HN.out⟩
        case measure => simp [intOf]; omega
    · have hall : ∀ x ∈ args, levelOk x = true := fun x hm => by
        obtain ⟨j, hj, e⟩ := List.getElem_of_mem hm
        rw [← e]
        exact HA.out j hj (by omega)
      have dk : decide ((k : Int) < (args.length : Int)) = false := decide_eq_false (by omega)
      have dkn : decide (k < args.length) = false := decide_eq_false (by omega)
      have f4 := Lib.hid fun (W : World) (hW : W.ownsRow b 9 1 (.slice a0 args.length cap) args.length (args.map sv)) => implPutParams s hW h60 h3 (fun x hm => (levelOk_len (hall x hm)).1) HG.out
      rw [HI.out] at f4
      by_cases hc : (putF args s.data.toList).length ≤ 60
      · have HE : Hid (levelPut s.data.toList args = some (putF args s.data.toList)) := if_pos ⟨HOK.out, h3, h4, hall, hc⟩
        generalize putF args s.data.toList = out at HE f4 hc
        have hsz : ((⟨out.toArray⟩ : ByteArray).size : Int) = (out.length : Int) := rfl
        have d5 : decide ((60 : Int) < ((⟨out.toArray⟩ : ByteArray).size : Int)) = false := decide_eq_false (by rw [hsz]; omega)
        have g4 := Lib.hid (f4.out _ h)
        clear HA hall f3 f4 hsz
        go_wp2_with fail
        (with_reducible refine g4.out.mono ?_); rintro e w2 ⟨rfl, hb2⟩
        go_wp2
        go_ret2
        rw [HE.out]
        exact ⟨rfl, hb2⟩
      · have HE : Hid (levelPut s.data.toList args = none) := if_neg fun h5 => hc h5.2.2.2.2
        generalize putF args s.data.toList = out at HE f4 hc
        have hsz : ((⟨out.toArray⟩ : ByteArray).size : Int) = (out.length : Int) := rfl
        have d5 : decide ((60 : Int) < ((⟨out.toArray⟩ : ByteArray).size : Int)) = true := decide_eq_true (by rw [hsz]; omega)
        have g4 := Lib.hid (f4.out _ h)
        clear HA hall f3 f4 hsz
        go_wp2_with fail
        (with_reducible refine g4.out.mono ?_); rintro e w2 ⟨rfl, hb2⟩
        go_wp2
        go_ret2
        rw [HE.out]
        exact ⟨rfl, hb2⟩
end Go.Proofs.Ytdeophmdpbgkdaa
