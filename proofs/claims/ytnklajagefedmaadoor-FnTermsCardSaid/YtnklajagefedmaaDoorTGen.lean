/-
  laws.FnTerms from the contracts of the program's functions (handed in as hypotheses).
-/
import Derived.Test.YtnklajagefedmaaDoorTDraw2
import Derived.Test.YtnklajagefedmaaDoorDr3L
import Derived.Test.YtnklajagefedmaaDoorTConIn
import Derived.Test.YtnklajagefedmaaDoorBig
namespace Go.Proofs.YtnklajagefedmaaDoor
set_option maxRecDepth 100000
open Go.ChangeShapes Go.WideShapes Go.ChangeAt Go.RowKit
set_option linter.unusedSimpArgs false

theorem Tm.part_ok {T P : Tm} (hT : T.Ok) (h : P ∈ T.parts) : P.Ok ∧ P.bytes.length ≤ T.bytes.length := by
  cases T with
  | app f a =>
    simp only [Tm.parts, List.mem_cons, List.not_mem_nil, or_false] at h
    rcases h with rfl | rfl
    · exact ⟨hT.1, by simp only [Tm.bytes, List.length_cons, List.length_append]; omega⟩
    · exact ⟨hT.2, by simp only [Tm.bytes, List.length_cons, List.length_append]; omega⟩
  | lam f a =>
    simp only [Tm.parts, List.mem_cons, List.not_mem_nil, or_false] at h
    rcases h with rfl | rfl
    · exact ⟨hT.1, by simp only [Tm.bytes, List.length_cons, List.length_append]; omega⟩
    · exact ⟨hT.2, by simp only [Tm.bytes, List.length_cons, List.length_append]; omega⟩
  | pi f a =>
    simp only [Tm.parts, List.mem_cons, List.not_mem_nil, or_false] at h
    rcases h with rfl | rfl
    · exact ⟨hT.1, by simp only [Tm.bytes, List.length_cons, List.length_append]; omega⟩
    · exact ⟨hT.2, by simp only [Tm.bytes, List.length_cons, List.length_append]; omega⟩
  | lett f a b =>
    simp only [Tm.parts, List.mem_cons, List.not_mem_nil, or_false] at h
    rcases h with rfl | rfl | rfl
    · exact ⟨hT.1, by simp only [Tm.bytes, List.length_cons, List.length_append]; omega⟩
    · exact ⟨hT.2.1, by simp only [Tm.bytes, List.length_cons, List.length_append]; omega⟩
    · exact ⟨hT.2.2, by simp only [Tm.bytes, List.length_cons, List.length_append]; omega⟩
  | _ => simp [Tm.parts] at h
theorem Tm.whole (T : Tm) : (T.parts = [] ∧ T.size = 1 ∧ (T.kind = 118 ∨ T.kind = 115 ∨ T.kind = 99)) ∨ (T.parts ≠ [] ∧ T.bytes = T.kind :: T.parts.flatMap Tm.bytes ∧ T.size = 1 + (T.parts.map Tm.size).sum) := by
  cases T with
  | var n => exact .inl ⟨rfl, rfl, .inl rfl⟩
  | sort l => exact .inl ⟨rfl, rfl, .inr (.inl rfl)⟩
  | const n ls => exact .inl ⟨rfl, rfl, .inr (.inr rfl)⟩
  | app f a => exact .inr ⟨by simp [Tm.parts], by simp [Tm.parts, Tm.bytes, Tm.kind], by simp [Tm.parts, Tm.size]; omega⟩
  | lam f a => exact .inr ⟨by simp [Tm.parts], by simp [Tm.parts, Tm.bytes, Tm.kind], by simp [Tm.parts, Tm.size]; omega⟩
  | pi f a => exact .inr ⟨by simp [Tm.parts], by simp [Tm.parts, Tm.bytes, Tm.kind], by simp [Tm.parts, Tm.size]; omega⟩
  | lett f a b => exact .inr ⟨by simp [Tm.parts], by simp [Tm.parts, Tm.bytes, Tm.kind], by simp [Tm.parts, Tm.size]; omega⟩
theorem Tm.parts_len (T : Tm) : T.parts.length ≤ 3 := by cases T <;> simp [Tm.parts]
theorem isTm_self {T : Tm} (hT : T.Ok) (hl : T.bytes.length ≤ 2000) : IsTm T.bytes T := ⟨hT, rfl, hl⟩
theorem term_dot {T : Tm} (hT : T.Ok) : termOk (T.bytes ++ [46]) = false := by
  rw [termOk, termOf_none]
  · rfl
  · rintro u ⟨h1, h2, _⟩
    have := (Tm.uniq u T [] [46] h1 hT (by rw [List.append_nil]; exact h2)).2
    cases this
/-- Two owned rows of one list of texts are the same. -/
theorem sameTextsS {w : World} {b1 b2 n : Nat} {v1 v2 : Value} {l : List (List UInt8)} (h1 : w.ownsRow b1 9 1 v1 n (l.map sv)) (h2 : w.ownsRow b2 9 1 v2 n (l.map sv)) (hp : 0 < n) (hn : n ≤ 1000000000) :
    Calls Tryd.prog 23 #[v1, v2] w fun e w' => e = .returned (.bool true) ∧ ∃ q, w' = w.drewN q := by
  have hl : l.length = n := by simpa using h1.1
  obtain ⟨g1, c1, rfl, _, _⟩ := h1.form hp
  obtain ⟨g2, c2, rfl, _, _⟩ := h2.form hp
  have d0 : ((n : Int) == (n : Int)) = true := by simp
  go_enter Tryd.func23, Tryd.ntmps23
  go_wp2
  go_loopw [5] (fun i wr => ∃ k q : Nat, k ≤ n ∧ i = .int .i64 k ∧ wr = w.drewN q) (fun i _ => n - (intOf i).toNat)
  case atStart => exact ⟨0, 0, Nat.zero_le _, rfl, rfl⟩
  case round =>
    obtain ⟨k, q, hk, rfl, rfl⟩ := hrel
    by_cases hlt : k < n
    · have e1 := h1.cellAt k (by omega)
      have e2 := h2.cellAt k (by omega)
      have ex : (l.map sv)[k]? = some (sv (l[k]'(by omega))) := by simp [show k < l.length by omega]
      rw [ex] at e1 e2
      generalize l[k]'(by omega) = x at e1 e2
      clear ex h1 h2
      unfold sv at e1 e2
      have q1 : (0 : Int) ≤ (k : Int) := by omega
      have q2 : (k : Int) < (n : Int) := by omega
      go_wp2
      go_quiet (fail)
      go_wp2
      go_roundw
      case rel => exact ⟨k + 1, q + nq, by omega, by go_num, rfl⟩
      case measure => simp [intOf]; omega
    · go_wp2
      go_ret
      exact ⟨rfl, q, rfl⟩
theorem sB_step (T : Tm) (k : Nat) (hk : k < T.parts.length) : (⟨(T.kind :: (T.parts.take k).flatMap Tm.bytes).toArray⟩ : ByteArray) ++ ⟨T.parts[k].bytes.toArray⟩ = ⟨(T.kind :: (T.parts.take (k + 1)).flatMap Tm.bytes).toArray⟩ := by
  apply ByteArray.ext
  rw [List.take_succ_eq_append_getElem hk]
  generalize T.parts.take k = l
  simp
theorem zB_step (T : Tm) (k : Nat) (hk : k < T.parts.length) : 1 + ((T.parts.take (k + 1)).map Tm.size).sum = 1 + ((T.parts.take k).map Tm.size).sum + T.parts[k].size := by
  rw [List.take_succ_eq_append_getElem hk]
  generalize T.parts.take k = l
  simp
  omega
theorem flat_le {ps : List Tm} {m : Nat} (h : ∀ P ∈ ps, P.bytes.length ≤ m) : (ps.flatMap Tm.bytes).length ≤ ps.length * m := by
  induction ps with
  | nil => simp
  | cons p r ih =>
    have h1 := h p List.mem_cons_self
    have h2 := ih fun P hP => h P (List.mem_cons_of_mem _ hP)
    rw [List.flatMap_cons, List.length_append, List.length_cons, Nat.succ_mul]
    omega
theorem sum_le {ps : List Tm} {m : Nat} (h : ∀ P ∈ ps, P.size ≤ m) : (ps.map Tm.size).sum ≤ ps.length * m := by
  induction ps with
  | nil => simp
  | cons p r ih =>
    have h1 := h p List.mem_cons_self
    have h2 := ih fun P hP => h P (List.mem_cons_of_mem _ hP)
    rw [List.map_cons, List.sum_cons, List.length_cons, Nat.succ_mul]
    omega

set_option maxHeartbeats 8000000 in
theorem lawTerms {v : Value} {l : List UInt8} (w : World) (hl : CameB w v l) (hm : l.length ≤ maxLen)
    (hOk : ∀ (s : ByteArray), s.size ≤ 1048576 → ∀ W, Below w.heap.size w W → Calls Tryd.prog 22 #[.string s] W fun e w' => e = .returned (.bool (termOk s.data.toList)) ∧ Below W.heap.size W w')
    (hKind : ∀ (s : ByteArray), s.size ≤ 1048576 → ∀ W, Below w.heap.size w W → Calls Tryd.prog 17 #[.string s] W fun e w' => e = .returned (.string ⟨(termKind s.data.toList).toArray⟩) ∧ Below W.heap.size W w')
    (hParts : ∀ (s : ByteArray), s.size ≤ 1048576 → ∀ W, Below w.heap.size w W → Calls Tryd.prog 18 #[.string s] W (LRes' (termParts s.data.toList) W))
    (hSize : ∀ (s : ByteArray), s.size ≤ 1048576 → ∀ W, Below w.heap.size w W → Calls Tryd.prog 19 #[.string s] W fun e w' => e = .returned (.int .i64 (termSize s.data.toList : Int)) ∧ Below W.heap.size W w')
    (hOpen : ∀ (s : ByteArray), s.size ≤ 1048576 → ∀ W, Below w.heap.size w W → Calls Tryd.prog 24 #[.string s] W fun e w' => e = .returned (.int .i64 (termOpen s.data.toList : Int)) ∧ Below W.heap.size W w')
    (hVar : ∀ (n : Int) W, Below w.heap.size w W → Calls Tryd.prog 25 #[.int .i64 n] W fun e w' => e = .returned (.string ⟨(varText n).toArray⟩) ∧ Below W.heap.size W w')
    (hCon : ∀ (s : ByteArray) (ls : List (List UInt8)), s.size ≤ 1048576 → ls.length ≤ 1048576 → (∀ x ∈ ls, x.length ≤ 1048576) → ∀ (W : World) (b : Nat) (u : Value), Below w.heap.size w W → W.ownsRow b 9 1 u ls.length (ls.map sv) → Calls Tryd.prog 20 #[.string s, u] W fun e w' => e = .returned (.string ⟨(constText s.data.toList ls).toArray⟩) ∧ Below W.heap.size W w')
    (hCIn : ∀ (s : ByteArray), s.size ≤ 1048576 → ∀ W, Below w.heap.size w W → Calls Tryd.prog 21 #[.string s] W (CRes (constIn s.data.toList) W)) :
    Calls Tryd.prog 3 #[v] w fun e w' => e = .returned (.bool true) ∧ Below w.heap.size w w' := by
  have f0 := Lib.hid (bigB hl hm)
  by_cases hbig : 1048576 < l.length
  · rw [decide_eq_true hbig] at f0
    obtain ⟨a0, cap, _, _, rfl, _⟩ := hl
    clear hOk hKind hParts hSize hOpen hVar hCon hCIn
    go_enter Tryd.func3, Tryd.ntmps3
    go_wp2_with fail
    (with_reducible refine f0.out.mono ?_); rintro e w1 ⟨rfl, rfl⟩
    go_wp2
    go_ret
    exact ⟨rfl, Below.refl _ _⟩
  rw [decide_eq_false hbig] at f0
  have f1 := Lib.hid (drawTermTop hl (by omega))
  have f2 := Lib.hid fun W (hb : Below w.heap.size w W) => drawLevels (hl.below hb) (by omega)
  have f3 := Lib.hid fun W (hb : Below w.heap.size w W) => drawNames (hl.below hb) (by omega)
  have gOk := Lib.hid hOk
  have gKind := Lib.hid hKind
  have gParts := Lib.hid hParts
  have gSize := Lib.hid hSize
  have gOpen := Lib.hid hOpen
  have gVar := Lib.hid hVar
  have gCon := Lib.hid hCon
  have gCIn := Lib.hid hCIn
  clear hOk hKind hParts hSize hOpen hVar hCon hCIn
  obtain ⟨a0, cap, _, _, rfl, _⟩ := hl
  go_enter Tryd.func3, Tryd.ntmps3
  go_wp2_with fail
  (with_reducible refine f0.out.mono ?_); rintro e w1 ⟨rfl, rfl⟩
  go_wp2_with fail
  (with_reducible refine f1.out.mono ?_); rintro e w2 ⟨⟨T, hT, hTl, rfl⟩, B2⟩
  go_wp2_with fail
  (with_reducible refine (f2.out _ B2).mono ?_); rintro e w3 ⟨⟨a, b, hLa, hLb, la, lb, rfl⟩, hb3⟩
  have B3 := B2.trans (hb3.mono B2.size)
  clear hb3 B2
  have oa := hLa.run.ok (by omega)
  have ob := hLb.run.ok (by omega)
  clear hLa hLb
  go_wp2_with fail
  (with_reducible refine (f3.out _ B3).mono ?_); rintro e w4 ⟨vn, nms, h1, h5, hnms, rfl, hrown, hb4⟩
  have B4 := B3.trans (hb4.mono B3.size)
  clear hb4 B3 f0 f1 f2 f3
  obtain ⟨nm, rest, rfl⟩ : ∃ nm rest, nms = nm :: rest := by
    match nms, h1 with
    | x :: r, _ => exact ⟨x, r, rfl⟩
  obtain ⟨hnm, hnl⟩ := hnms nm List.mem_cons_self
  obtain ⟨gn, cn, rfl, _, hgn⟩ := hrown.form h1
  have cc : w4.cell? ⟨gn, 0, none⟩ = some (.string ⟨nm.toArray⟩) := hrown.cellAt 0 (by simp)
  generalize (nm :: rest).length = nn at h1 hgn ⊢
  have q0 : decide ((0 : Int) < (nn : Int)) = true := decide_eq_true (by omega)
  have q0' : (0 : Int) < (nn : Int) := by omega
  have HB4 := Lib.hid B4
  clear hrown hnms B4 h5
  have isT := isTm_self hT (by omega)
  have zT : (⟨T.bytes.toArray⟩ : ByteArray).size ≤ 1048576 := by show T.bytes.length ≤ _; omega
  have zC0 : (Tm.const nm [a, b]).bytes.length ≤ 100 := by
    simp only [Tm.bytes, lvsB, List.length_cons, List.length_append, List.length_nil]
    omega
  have zC : (⟨(Tm.const nm [a, b]).bytes.toArray⟩ : ByteArray).size ≤ 1048576 := by show (Tm.const nm [a, b]).bytes.length ≤ _; omega
  have hC : (Tm.const nm [a, b]).Ok := ⟨hnm, by simp, fun x hx => by
    simp only [List.mem_cons, List.not_mem_nil, or_false] at hx
    rcases hx with rfl | rfl
    · exact oa
    · exact ob⟩
  have isC := isTm_self hC (by omega)
  have zV0 : (Tm.var 7).bytes.length ≤ 20 := by
    have : (Lib.decDigits 7).length ≤ 10 := digits_len (by omega)
    simp only [Tm.bytes, List.length_cons, List.length_append, List.length_nil]
    omega
  have isV : IsTm (Tm.var 7).bytes (Tm.var 7) := isTm_self (T := .var 7) (show 7 ≤ 999 by omega) (by omega)
  have fOk : Hid (∀ W, Below w1.heap.size w1 W → Calls Tryd.prog 22 #[.string ⟨T.bytes.toArray⟩] W fun e w' => e = .returned (.bool true) ∧ Below W.heap.size W w') := fun W hb => by
    have := gOk.out ⟨T.bytes.toArray⟩ zT W hb
    rw [show termOk (ByteArray.data ⟨T.bytes.toArray⟩).toList = true by show termOk T.bytes = true; rw [termOk, termOf_some isT]; rfl] at this
    exact this
  have fDot : Hid (∀ W, Below w1.heap.size w1 W → Calls Tryd.prog 22 #[.string ((⟨T.bytes.toArray⟩ : ByteArray) ++ ⟨#[46]⟩)] W fun e w' => e = .returned (.bool false) ∧ Below W.heap.size W w') := fun W hb => by
    have := gOk.out ((⟨T.bytes.toArray⟩ : ByteArray) ++ ⟨#[46]⟩) (by rw [ByteArray.size_append]; show T.bytes.length + 1 ≤ _; omega) W hb
    rw [show termOk (ByteArray.data ((⟨T.bytes.toArray⟩ : ByteArray) ++ ⟨#[46]⟩)).toList = false by rw [show (ByteArray.data ((⟨T.bytes.toArray⟩ : ByteArray) ++ ⟨#[46]⟩)).toList = T.bytes ++ [46] by simp]; exact term_dot hT] at this
    exact this
  have fKind : Hid (∀ W, Below w1.heap.size w1 W → Calls Tryd.prog 17 #[.string ⟨T.bytes.toArray⟩] W fun e w' => e = .returned (.string ⟨#[T.kind]⟩) ∧ Below W.heap.size W w') := fun W hb => by
    have := gKind.out ⟨T.bytes.toArray⟩ zT W hb
    rw [show termKind (ByteArray.data ⟨T.bytes.toArray⟩).toList = [T.kind] by show termKind T.bytes = _; rw [termKind, if_pos (by rw [termOk, termOf_some isT]; rfl)]; obtain ⟨r, hr⟩ := T.bytes_head; rw [hr]; rfl] at this
    exact this
  have fSz : Hid (∀ W, Below w1.heap.size w1 W → Calls Tryd.prog 19 #[.string ⟨T.bytes.toArray⟩] W fun e w' => e = .returned (.int .i64 (T.size : Int)) ∧ Below W.heap.size W w') := fun W hb => by
    have := gSize.out ⟨T.bytes.toArray⟩ zT W hb
    rw [show termSize (ByteArray.data ⟨T.bytes.toArray⟩).toList = T.size by show termSize T.bytes = _; rw [termSize, termOf_some isT]] at this
    exact this
  have fCo : Hid (∀ W, Below w1.heap.size w1 W → Calls Tryd.prog 24 #[.string ⟨(Tm.const nm [a, b]).bytes.toArray⟩] W fun e w' => e = .returned (.int .i64 0) ∧ Below W.heap.size W w') := fun W hb => by
    have := gOpen.out ⟨(Tm.const nm [a, b]).bytes.toArray⟩ zC W hb
    rw [show termOpen (ByteArray.data ⟨(Tm.const nm [a, b]).bytes.toArray⟩).toList = 0 by show termOpen (Tm.const nm [a, b]).bytes = _; rw [termOpen, termOf_some isC]; rfl] at this
    exact this
  have fVo : Hid (∀ W, Below w1.heap.size w1 W → Calls Tryd.prog 24 #[.string ⟨(Tm.var 7).bytes.toArray⟩] W fun e w' => e = .returned (.int .i64 8) ∧ Below W.heap.size W w') := fun W hb => by
    have := gOpen.out ⟨(Tm.var 7).bytes.toArray⟩ (by show (Tm.var 7).bytes.length ≤ _; omega) W hb
    rw [show termOpen (ByteArray.data ⟨(Tm.var 7).bytes.toArray⟩).toList = 8 by show termOpen (Tm.var 7).bytes = _; rw [termOpen, termOf_some isV]; rfl] at this
    exact this
  have fVar : Hid (∀ W, Below w1.heap.size w1 W → Calls Tryd.prog 25 #[.int .i64 7] W fun e w' => e = .returned (.string ⟨(Tm.var 7).bytes.toArray⟩) ∧ Below W.heap.size W w') := fun W hb => gVar.out 7 W hb
  have fSzP : Hid (∀ P, P ∈ T.parts → ∀ W, Below w1.heap.size w1 W → Calls Tryd.prog 19 #[.string ⟨P.bytes.toArray⟩] W fun e w' => e = .returned (.int .i64 (P.size : Int)) ∧ Below W.heap.size W w') := fun P hP W hb => by
    obtain ⟨h1, h2⟩ := T.part_ok hT hP
    have := gSize.out ⟨P.bytes.toArray⟩ (by show P.bytes.length ≤ _; omega) W hb
    rw [show termSize (ByteArray.data ⟨P.bytes.toArray⟩).toList = P.size by show termSize P.bytes = _; rw [termSize, termOf_some (isTm_self h1 (by omega))]] at this
    exact this
  have fParts : Hid (∀ W, Below w1.heap.size w1 W → Calls Tryd.prog 18 #[.string ⟨T.bytes.toArray⟩] W fun e w' => ∃ u, e = .returned u ∧ w'.ownsRow W.heap.size 9 1 u T.parts.length ((T.parts.map Tm.bytes).map sv) ∧ Below W.heap.size W w') := fun W hb => by
    have := gParts.out ⟨T.bytes.toArray⟩ zT W hb
    rw [show termParts (ByteArray.data ⟨T.bytes.toArray⟩).toList = T.parts.map Tm.bytes by show termParts T.bytes = _; rw [termParts, termOf_some isT]] at this
    refine this.mono ?_
    rintro e w' ⟨u, h1, h2, h3⟩
    exact ⟨u, h1, by simpa using h2, h3⟩
  have fCon : Hid (∀ (W : World) (q : Nat) (u : Value), Below w1.heap.size w1 W → W.ownsRow q 9 1 u 2 ([a, b].map sv) → Calls Tryd.prog 20 #[.string ⟨nm.toArray⟩, u] W fun e w' => e = .returned (.string ⟨(Tm.const nm [a, b]).bytes.toArray⟩) ∧ Below W.heap.size W w') := fun W q u hb hu => by
    have := gCon.out ⟨nm.toArray⟩ [a, b] (by show nm.length ≤ _; omega) (by simp) (fun x hx => by
      simp only [List.mem_cons, List.not_mem_nil, or_false] at hx
      rcases hx with rfl | rfl <;> omega) W q u hb hu
    rw [show constText (ByteArray.data ⟨nm.toArray⟩).toList [a, b] = (Tm.const nm [a, b]).bytes by show constText nm [a, b] = _; exact if_pos hC] at this
    exact this
  have fCIn : Hid (∀ W, Below w1.heap.size w1 W → Calls Tryd.prog 21 #[.string ⟨(Tm.const nm [a, b]).bytes.toArray⟩] W fun e w' => ∃ u, e = .returned (.tuple #[.string ⟨nm.toArray⟩, u, .bool true]) ∧ w'.ownsRow W.heap.size 9 1 u 2 ([a, b].map sv) ∧ Below W.heap.size W w') := fun W hb => by
    have := gCIn.out ⟨(Tm.const nm [a, b]).bytes.toArray⟩ zC W hb
    rw [show constIn (ByteArray.data ⟨(Tm.const nm [a, b]).bytes.toArray⟩).toList = some (nm, [a, b]) by show constIn (Tm.const nm [a, b]).bytes = _; rw [constIn, termOf_some isC]] at this
    exact this
  have HWh := Lib.hid T.whole
  have HPl := T.parts_len
  have HPo : Hid (∀ P ∈ T.parts, P.bytes.length ≤ 1000) := fun P hP => Nat.le_trans (T.part_ok hT hP).2 hTl
  have HPz : Hid (∀ P ∈ T.parts, P.size ≤ 1000) := fun P hP => Nat.le_trans P.size_le ((HPo.out P hP))
  clear gOk gKind gParts gSize gOpen gVar gCon gCIn isT isC isV oa ob hC
  generalize (Tm.const nm [a, b]).bytes = Cb at fCo fCon fCIn zC0 zC
  generalize (Tm.var 7).bytes = Vb at fVar fVo zV0
  go_wp2_with fail
  (with_reducible refine (fKind.out _ HB4.out).mono ?_); rintro e w5 ⟨rfl, hb5⟩
  have B5 := HB4.out.trans (hb5.mono HB4.out.size)
  clear HB4 hb5 cc
  go_wp2_with fail
  (with_reducible refine (fParts.out _ B5).mono ?_); rintro e w6 ⟨u, rfl, hrow, hb6⟩
  have B6 := B5.trans (hb6.mono B5.size)
  have HR6 := Lib.hid hrow
  have HB6 := Lib.hid B6
  clear hb6 B5
  obtain ⟨pa, pc, rfl⟩ := own_sliceV hrow
  clear hrow B6
  go_wp2
  go_loopw [9, 10, 11] (fun sq z i wr => ∃ k : Nat, k ≤ T.parts.length ∧ i = .int .i64 k ∧ z = .int .i64 ((1 + ((T.parts.take k).map Tm.size).sum : Nat) : Int) ∧ sq = .string ⟨(T.kind :: (T.parts.take k).flatMap Tm.bytes).toArray⟩ ∧ Below w1.heap.size w1 wr ∧ wr.ownsRow w5.heap.size 9 1 (.slice pa T.parts.length pc) T.parts.length ((T.parts.map Tm.bytes).map sv)) (fun _ _ i _ => T.parts.length - (intOf i).toNat)
  case atStart => exact ⟨0, Nat.zero_le _, rfl, rfl, rfl, HB6.out, HR6.out⟩
  case round =>
    obtain ⟨k, hk, rfl, rfl, rfl, hbel, hrow⟩ := hrel
    clear HB6 HR6
    by_cases hlt : k < T.parts.length
    · obtain ⟨g, cap', e0, _, hgl⟩ := hrow.form (by omega)
      cases e0
      have ex : ((T.parts.map Tm.bytes).map sv)[k]? = some (sv T.parts[k].bytes) := by simp [hlt]
      have ce := (hrow.cellAt k (by omega)).trans ex
      unfold sv at ce
      have q1 : (0 : Int) ≤ (k : Int) := by omega
      have q2 : (k : Int) < (T.parts.length : Int) := by omega
      have hmem := List.getElem_mem hlt
      have fP := Lib.hid (fSzP.out _ hmem)
      have HS := Lib.hid (sB_step T k hlt)
      have HZ := Lib.hid (zB_step T k hlt)
      have hk3 : (T.parts.take k).length ≤ 3 := by rw [List.length_take]; omega
      have hf := flat_le (ps := T.parts.take k) fun P hP => HPo.out P (List.mem_of_mem_take hP)
      have hz := sum_le (ps := T.parts.take k) fun P hP => HPz.out P (List.mem_of_mem_take hP)
      have hf3 : (T.parts.take k).length * 1000 ≤ 3000 := by omega
      have zs : (⟨(T.kind :: (T.parts.take k).flatMap Tm.bytes).toArray⟩ : ByteArray).size ≤ 3001 := by
        show (T.kind :: (T.parts.take k).flatMap Tm.bytes).length ≤ _
        rw [List.length_cons]
        omega
      have zz : 1 + ((T.parts.take k).map Tm.size).sum ≤ 3001 := by omega
      have zp : T.parts[k].bytes.length ≤ 1000 := HPo.out _ hmem
      have zq : T.parts[k].size ≤ 1000 := HPz.out _ hmem
      have HBe := Lib.hid hbel
      have HRo := Lib.hid hrow
      clear ex hmem hk3 hf hz hf3 hbel hrow
      generalize T.parts[k].bytes = pb at ce fP HS zp
      generalize T.parts[k].size = pz at fP HZ zq
      generalize (⟨(T.kind :: (T.parts.take k).flatMap Tm.bytes).toArray⟩ : ByteArray) = sk at HS zs ⊢
      generalize 1 + ((T.parts.take k).map Tm.size).sum = zk at HZ zz ⊢
      go_wp2_with fail
      (with_reducible refine (fP.out _ HBe.out).mono ?_); rintro e w7 ⟨rfl, hb7⟩
      have HB7 := Lib.hid (HBe.out.trans (hb7.mono HBe.out.size))
      have HR7 := Lib.hid (own_below HRo.out hb7)
      clear hb7
      go_wp2
      go_roundw
      case rel => exact ⟨k + 1, by omega, by go_num, by rw [HZ.out]; go_num, by rw [← HS.out], HB7.out, HR7.out⟩
      case measure => simp [intOf]; omega
    · have hke : k = T.parts.length := by omega
      rw [hke, List.take_length]
      have HBe := Lib.hid hbel
      have d1 : decide ((T.parts.length : Int) < (T.parts.length : Int)) = false := decide_eq_false (by omega)
      have hf := flat_le HPo.out
      have hz := sum_le HPz.out
      have hf3 : T.parts.length * 1000 ≤ 3000 := by omega
      have zz : 1 + (T.parts.map Tm.size).sum ≤ 3001 := by omega
      have rS := Lib.hid fun W : World => World.ownsRow_lit (base := W.heap.size) (e := 9) (size := 1) W #[.string ⟨a.toArray⟩, .string ⟨b.toArray⟩] 2 (Nat.le_refl _) (by decide) (by simp)
      clear hk hlt hke hbel hrow hf hz hf3 fSzP HPo HPz
      generalize hnp : T.parts.length = np at HPl d1
      generalize hsx : (⟨(T.kind :: T.parts.flatMap Tm.bytes).toArray⟩ : ByteArray) = sx
      generalize hzx : 1 + (T.parts.map Tm.size).sum = zx at zz
      have HNP := Lib.hid hnp
      have HSX := Lib.hid hsx
      have HZX := Lib.hid hzx
      clear hnp hsx hzx
      go_wp2_with fail
      have bs := (Below.refl wr.heap.size wr).alloc (Nat.le_refl _) (.cells #[.string ⟨a.toArray⟩, .string ⟨b.toArray⟩] 9)
      have B7 := HBe.out.trans (bs.mono HBe.out.size)
      (refine (fCon.out _ _ _ B7 (rS.out wr)).mono ?_); rintro e w8 ⟨rfl, hb8⟩
      have B8 := B7.trans (hb8.mono B7.size)
      have HB8 := Lib.hid B8
      clear bs B7 hb8 HBe B8 fCon
      go_wp2_with fail
      (with_reducible refine (fCIn.out _ HB8.out).mono ?_); rintro e w9 ⟨uc, rfl, hrc, hb9⟩
      have HB9 := Lib.hid (HB8.out.trans (hb9.mono HB8.out.size))
      have HRC := Lib.hid hrc
      clear hb9 HB8 fCIn hrc
      go_wp2_with fail
      (with_reducible refine (fOk.out _ HB9.out).mono ?_); rintro e w10 ⟨rfl, hb10⟩
      have B10 := HB9.out.trans (hb10.mono HB9.out.size)
      have R10 := own_below HRC.out hb10
      have bs := (Below.refl w10.heap.size w10).alloc (Nat.le_refl _) (.cells #[.string ⟨a.toArray⟩, .string ⟨b.toArray⟩] 9)
      have HB11 := Lib.hid (B10.trans (bs.mono B10.size))
      have HR11 := Lib.hid (own_below R10 bs)
      clear hb10 B10 R10 bs HB9 HRC fOk
      go_wp2_with fail
      (refine (sameTextsS HR11.out (rS.out w10) (by omega) (by omega)).mono ?_); rintro e w11 ⟨rfl, qd, rfl⟩
      have HB12 := Lib.hid (below_drewN HB11.out qd)
      clear HB11 HR11 rS
      generalize (w10.alloc (.cells #[.string ⟨a.toArray⟩, .string ⟨b.toArray⟩] 9)).drewN qd = w12 at HB12 ⊢
      go_wp2_with fail
      (with_reducible refine (fDot.out _ HB12.out).mono ?_); rintro e w13 ⟨rfl, hb13⟩
      have HB13 := Lib.hid (HB12.out.trans (hb13.mono HB12.out.size))
      clear hb13 HB12 fDot
      go_wp2_with fail
      (with_reducible refine (fCo.out _ HB13.out).mono ?_); rintro e w14 ⟨rfl, hb14⟩
      have HB14 := Lib.hid (HB13.out.trans (hb14.mono HB13.out.size))
      clear hb14 HB13 fCo
      go_wp2_with fail
      (with_reducible refine (fVar.out _ HB14.out).mono ?_); rintro e w15 ⟨rfl, hb15⟩
      have HB15 := Lib.hid (HB14.out.trans (hb15.mono HB14.out.size))
      clear hb15 HB14 fVar
      go_wp2_with fail
      (with_reducible refine (fVo.out _ HB15.out).mono ?_); rintro e w16 ⟨rfl, hb16⟩
      have HB16 := Lib.hid (HB15.out.trans (hb16.mono HB15.out.size))
      clear hb16 HB15 fVo
      rcases HWh.out with ⟨hp, hsz1, hkd⟩ | ⟨hp, hb, hsz⟩
      · have hnp0 : np = 0 := by rw [← HNP.out, hp]; rfl
        subst hnp0
        rw [hsz1] at fSz
        clear HWh HNP HSX HZX hp hsz1
        rcases hkd with h | h | h
        all_goals
          rw [h]
          clear h
          go_wp2_with fail
          (with_reducible refine (fSz.out _ HB16.out).mono ?_); rintro e w17 ⟨rfl, hb17⟩
          have HB17 := Lib.hid (HB16.out.trans (hb17.mono HB16.out.size))
          clear hb17
          go_wp2
          go_ret
          exact ⟨rfl, HB17.out⟩
      · have hnp0 : ¬ np = 0 := fun h => hp (List.length_eq_zero_iff.1 (HNP.out.trans h))
        have dnp : ((np : Int) == 0) = false := beq_eq_false_iff_ne.2 (by omega)
        have es : sx = ⟨T.bytes.toArray⟩ := by rw [← HSX.out, ← hb]
        have ez : zx = T.size := by rw [← HZX.out, ← hsz]
        rw [es, ez]
        clear HWh HNP HSX HZX hp hb hsz es ez
        generalize T.size = z at fSz
        go_wp2_with fail
        (with_reducible refine (fSz.out _ HB16.out).mono ?_); rintro e w17 ⟨rfl, hb17⟩
        have HB17 := Lib.hid (HB16.out.trans (hb17.mono HB16.out.size))
        clear hb17
        go_wp2
        go_ret
        exact ⟨by simp, HB17.out⟩
end Go.Proofs.YtnklajagefedmaaDoor
