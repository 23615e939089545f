/-
  Contracts of spec.PartsOf and impl.PartsOf: the parts of a line at spaces, or none and false.
-/
import Derived.Test.YthpjacdfnnjghaaStrs
namespace Go.Proofs.Ythpjacdfnnjghaa
open Go.ChangeShapes Go.WideShapes Go.ChangeAt Go.RowKit

def pstep (s : List (List UInt8) × List UInt8) (c : UInt8) : List (List UInt8) × List UInt8 := if c = 32 then (if s.2 = [] then (s.1, []) else (s.1 ++ [s.2], [])) else (s.1, s.2 ++ [c])
def pst (l : List UInt8) (k : Nat) : List (List UInt8) × List UInt8 := (l.take k).foldl pstep ([], [])
def pfin (s : List (List UInt8) × List UInt8) : List (List UInt8) := if s.2 = [] then s.1 else s.1 ++ [s.2]
def badB (c : UInt8) : Bool := decide (c.toNat < 32) || decide (126 < c.toNat)
def partsRes (l : List UInt8) : List (List UInt8) × Bool := if l.any badB = true ∨ 12 < (pfin (pst l l.length)).length then ([], false) else (pfin (pst l l.length), true)
theorem pst_succ (l : List UInt8) (k : Nat) (h : k < l.length) : pst l (k + 1) = pstep (pst l k) l[k] := by
  unfold pst
  rw [List.take_succ_eq_append_getElem h, List.foldl_append]
  rfl
theorem pstep_len (s : List (List UInt8) × List UInt8) (c : UInt8) : (pstep s c).1.length ≤ s.1.length + 1 ∧ (pstep s c).2.length ≤ s.2.length + 1 := by
  unfold pstep
  split
  · split <;> simp
  · simp
theorem pst_len (l : List UInt8) (k : Nat) : (pst l k).1.length ≤ k ∧ (pst l k).2.length ≤ k := by
  unfold pst
  have : ∀ (r : List UInt8) (s : List (List UInt8) × List UInt8), (r.foldl pstep s).1.length ≤ s.1.length + r.length ∧ (r.foldl pstep s).2.length ≤ s.2.length + r.length := by
    intro r
    induction r with
    | nil => intro s; simp
    | cons c r ih =>
      intro s
      have h1 := ih (pstep s c)
      have h2 := pstep_len s c
      simp only [List.foldl_cons, List.length_cons]
      omega
  have h := this (l.take k) ([], [])
  have h3 : (l.take k).length ≤ k := List.length_take_le _ _
  simp only [List.length_nil, Nat.zero_add] at h
  omega
theorem any_succ (l : List UInt8) (k : Nat) (h : k < l.length) (h0 : (l.take k).any badB = false) (hb : badB l[k] = false) : (l.take (k + 1)).any badB = false := by
  rw [List.take_succ_eq_append_getElem h, List.any_append, h0]
  simp [hb]
theorem any_bad (l : List UInt8) (k : Nat) (h : k < l.length) (hb : badB l[k] = true) : l.any badB = true :=
  List.any_eq_true.2 ⟨l[k], List.getElem_mem h, hb⟩
theorem badB_iff (c : UInt8) : badB c = true ↔ c.toNat < 32 ∨ 126 < c.toNat := by simp [badB]
theorem badB_no (c : UInt8) : badB c = false ↔ ¬ (c.toNat < 32 ∨ 126 < c.toNat) := by rw [← badB_iff]; simp

/-- The state of the model's loop: byte k comes next, the part begins at b, `out` has been collected. -/
def SRel (l : List UInt8) (k b : Nat) (out : List (List UInt8)) : Prop :=
  (k ≤ l.length ∧ b ≤ k ∧ out.length ≤ k ∧ (l.take k).any badB = false ∧ pst l k = (out, (l.drop b).take (k - b))) ∨ (k = l.length + 1 ∧ out.length ≤ k ∧ l.any badB = false ∧ out = pfin (pst l l.length))
theorem SRel.len {l : List UInt8} {k b : Nat} {out : List (List UInt8)} (h : SRel l k b out) : out.length ≤ k := by rcases h with h | h <;> omega
theorem SRel.start (l : List UInt8) : SRel l 0 0 [] := .inl ⟨Nat.zero_le _, Nat.le_refl _, Nat.le_refl _, by simp, by simp [pst]⟩
theorem SRel.plain {l : List UInt8} {k b : Nat} {out : List (List UInt8)} (h : SRel l k b out) (hk : k < l.length) (hb : badB l[k] = false) (hc : l[k] ≠ 32) : SRel l (k + 1) b out := by
  rcases h with ⟨h1, h2, h3, h4, h5⟩ | ⟨h1, _⟩
  · refine .inl ⟨hk, by omega, by omega, any_succ l k hk h4 hb, ?_⟩
    rw [pst_succ l k hk, h5, pstep, if_neg hc]
    have : k + 1 - b = (k - b) + 1 := by omega
    rw [this, List.take_succ_eq_append_getElem (by simp; omega)]
    simp [List.getElem_drop, show b + (k - b) = k by omega]
  · omega
theorem SRel.cut {l : List UInt8} {k b : Nat} {out : List (List UInt8)} (h : SRel l k b out) (hk : k < l.length) (hc : l[k] = 32) (hb : b < k) : SRel l (k + 1) (k + 1) (out ++ [(l.drop b).take (k - b)]) := by
  rcases h with ⟨h1, h2, h3, h4, h5⟩ | ⟨h1, _⟩
  · refine .inl ⟨hk, by omega, by simp; omega, any_succ l k hk h4 (by rw [hc]; decide), ?_⟩
    have hne : (l.drop b).take (k - b) ≠ [] := by
      intro e
      have := congrArg List.length e
      simp at this
      omega
    rw [pst_succ l k hk, h5, pstep, if_pos hc, if_neg hne]
    simp
  · omega
theorem SRel.gap {l : List UInt8} {k b : Nat} {out : List (List UInt8)} (h : SRel l k b out) (hk : k < l.length) (hc : l[k] = 32) (hb : ¬ b < k) : SRel l (k + 1) (k + 1) out := by
  rcases h with ⟨h1, h2, h3, h4, h5⟩ | ⟨h1, _⟩
  · refine .inl ⟨hk, by omega, by omega, any_succ l k hk h4 (by rw [hc]; decide), ?_⟩
    obtain rfl : b = k := by omega
    rw [pst_succ l b hk, h5, pstep, if_pos hc]
    simp
  · omega
theorem SRel.lastCut {l : List UInt8} {b : Nat} {out : List (List UInt8)} (h : SRel l l.length b out) (hb : b < l.length) : SRel l (l.length + 1) (l.length + 1) (out ++ [(l.drop b).take (l.length - b)]) := by
  rcases h with ⟨h1, h2, h3, h4, h5⟩ | ⟨h1, _⟩
  · refine .inr ⟨rfl, by simp; omega, by simpa using h4, ?_⟩
    have hne : (l.drop b).take (l.length - b) ≠ [] := by
      intro e
      have := congrArg List.length e
      simp at this
      omega
    rw [h5, pfin, if_neg hne]
  · omega
theorem SRel.lastGap {l : List UInt8} {b : Nat} {out : List (List UInt8)} (h : SRel l l.length b out) (hb : ¬ b < l.length) : SRel l (l.length + 1) (l.length + 1) out := by
  rcases h with ⟨h1, h2, h3, h4, h5⟩ | ⟨h1, _⟩
  · refine .inr ⟨rfl, by omega, by simpa using h4, ?_⟩
    obtain rfl : b = l.length := by omega
    rw [h5, pfin]
    simp
  · omega
theorem SRel.done {l : List UInt8} {b : Nat} {out : List (List UInt8)} (h : SRel l (l.length + 1) b out) : partsRes l = if 12 < out.length then ([], false) else (out, true) := by
  rcases h with ⟨h1, _⟩ | ⟨_, _, h3, h4⟩
  · omega
  · rw [partsRes, ← h4, h3]
    simp
theorem partsRes_bad {l : List UInt8} {k : Nat} (h : k < l.length) (hb : badB l[k] = true) : partsRes l = ([], false) := by
  rw [partsRes, any_bad l k h hb]
  simp
theorem extract_sv (s : ByteArray) (b k : Nat) : Value.string (s.extract b k) = sv ((s.data.toList.drop b).take (k - b)) := by
  unfold sv
  congr 1
  apply ByteArray.ext
  apply Array.toList_inj.1
  simp [ByteArray.data_extract, Array.toList_extract]

theorem oneNew (w : World) (x : Value) (t : TypeId) : ∀ j u, [x][j]? = some u → ((w.alloc (.cells #[x] t)).cell? ((⟨w.heap.size, 0, none⟩ : Addr).add j)) = some u :=
  World.news_of_block (cs := #[x]) (t := t) (fr := (0, 0)) (heap_alloc_new w _)
def PRes (r : List (List UInt8) × Bool) (w : World) (e : Ending) (w' : World) : Prop :=
  ∃ v, e = .returned (.tuple #[v, .bool r.2]) ∧ w'.ownsRow w.heap.size 9 1 v r.1.length (r.1.map sv) ∧ Below w.heap.size w w'
theorem info9 : (Try.prog.info? 9).map (fun i => (i.zero, i.size, i.bytes)) = some (some (.string ⟨#[]⟩), 1, 16) := by kernel_rfl

theorem specParts_long (s : ByteArray) (w : World) (hs : 600 < s.size) (hm : s.size ≤ maxLen) : Calls Try.prog 11 #[.string s] w (PRes ([], false) w) := by
  unfold maxLen at hm
  go_enter Try.func11, Try.ntmps11
  go_wp2
  go_ret2
  exact ⟨_, rfl, World.ownsRow_lit w #[] 0 (Nat.le_refl _) (by decide) (by simp), (Below.refl _ _).alloc (Nat.le_refl _) _⟩

set_option maxHeartbeats 1000000 in
theorem specParts (s : ByteArray) (w : World) (hs : s.size ≤ 600) : Calls Try.prog 11 #[.string s] w (PRes (partsRes s.data.toList) w) := by
  have hb : decide ((600 : Int) < (s.size : Int)) = false := by simp; omega
  have hls : s.data.toList.length = s.size := rfl
  have HLS := Lib.hid hls
  clear hls
  obtain ⟨i0, hi, hz0, hz1, hz2⟩ := info_parts info9
  go_enter Try.func11, Try.ntmps11
  go_wp2
  go_loopw [4, 5, 6] (fun v bb i wr => ∃ (k b : Nat) (out : List (List UInt8)), k ≤ s.size + 1 ∧ b ≤ k ∧ out.length ≤ k ∧ i = .int .i64 k ∧ bb = .int .i64 b ∧ wr.ownsRow w.heap.size 9 1 v out.length (out.map sv) ∧ Below w.heap.size w wr ∧ SRel s.data.toList k b out)
    (fun _ _ i _ => s.size + 1 - (intOf i).toNat)
  case atStart =>
    exact ⟨0, 0, [], Nat.zero_le _, Nat.le_refl _, Nat.le_refl _, rfl, rfl, World.ownsRow_lit w #[] 0 (Nat.le_refl _) (by decide) (by simp), (Below.refl _ _).alloc (Nat.le_refl _) _, SRel.start _⟩
  case round =>
    obtain ⟨k, b, out, hk, hbk, hol, rfl, rfl, hown, hbel, hS⟩ := hrel
    have hz := hbel.size
    have hl := hown.lt
    by_cases hlt : k < s.size
    · have hc1 := s[k].toNat_lt
      by_cases hx : s[k].toNat < 32 ∨ 126 < s[k].toNat
      · have HR := Lib.hid (partsRes_bad (l := s.data.toList) hlt ((badB_iff _).2 hx))
        clear hS
        rcases hx with hx | hx
        all_goals
          go_wp2
          go_ret2
          rw [HR.out]
          exact ⟨_, rfl, World.ownsRow_lit wr #[] 0 hz (by decide) (by simp), hbel.alloc hz _⟩
      · have hg := Lib.hid ((badB_no s[k]).2 hx)
        have x1 : 32 ≤ s[k].toNat := by omega
        have x2 : s[k].toNat ≤ 126 := by omega
        clear hx
        by_cases h32 : s[k].toNat = 32
        · by_cases hb2 : b < k
          · have HR := Lib.hid (hS.cut hlt (UInt8.toNat_inj.1 h32) hb2)
            have h33 : ((s[k].toNat : Int) == 32) = true := by simp; omega
            clear hS h32
            go_wp2_with (at_builtin; refine wpList_append_own _ rfl _ _ 25 rfl w.heap.size 9 i0 _ 1 16 Try.underlying25 hi hz0 hz1 hz2 rfl (by decide) _ _ _ rfl (hown.alloc _) ⟨wr.heap.size, 0, none⟩ 1 1 [.string (s.extract b k)] rfl rfl (oneNew _ _ _) (by simp [Value.oneCell']) (by simp only [maxLen]; omega) (by omega) (by simp; omega) ?_; intro v1 w1 hown1 hgrow hat)
            rw [extract_sv] at hown1
            go_roundw
            case rel => exact ⟨k + 1, k + 1, _, by omega, Nat.le_refl _, HR.out.len, by go_num, by go_num, by simpa using hown1, (hbel.alloc hz _).grown hgrow (by simp; omega) (fun q hq => (hl q hq).1), HR.out⟩
            case measure => simp [intOf]; omega
          · have HR := Lib.hid (hS.gap hlt (UInt8.toNat_inj.1 h32) hb2)
            have h33 : ((s[k].toNat : Int) == 32) = true := by simp; omega
            clear hS h32
            go_wp2
            go_roundw
            case rel => exact ⟨k + 1, k + 1, _, by omega, Nat.le_refl _, HR.out.len, by go_num, by go_num, hown, hbel, HR.out⟩
            case measure => simp [intOf]; omega
        · have HR := Lib.hid (hS.plain hlt hg.out (fun e => h32 (congrArg UInt8.toNat e)))
          have h33 : ((s[k].toNat : Int) == 32) = false := by simp; omega
          clear hS h32
          go_wp2
          go_roundw
          case rel => exact ⟨k + 1, b, _, by omega, by omega, HR.out.len, by go_num, rfl, hown, hbel, HR.out⟩
          case measure => simp [intOf]; omega
    · by_cases heq : k = s.size
      · subst heq
        by_cases hb2 : b < s.size
        · have HR := Lib.hid (hS.lastCut hb2)
          clear hS
          go_wp2_with (at_builtin; refine wpList_append_own _ rfl _ _ 25 rfl w.heap.size 9 i0 _ 1 16 Try.underlying25 hi hz0 hz1 hz2 rfl (by decide) _ _ _ rfl (hown.alloc _) ⟨wr.heap.size, 0, none⟩ 1 1 [.string (s.extract b s.size)] rfl rfl (oneNew _ _ _) (by simp [Value.oneCell']) (by simp only [maxLen]; omega) (by omega) (by simp; omega) ?_; intro v1 w1 hown1 hgrow hat)
          rw [extract_sv] at hown1
          go_roundw
          case rel => exact ⟨s.size + 1, s.size + 1, _, Nat.le_refl _, Nat.le_refl _, HR.out.len, by go_num, by go_num, by simpa using hown1, (hbel.alloc hz _).grown hgrow (by simp; omega) (fun q hq => (hl q hq).1), HR.out⟩
          case measure => simp [intOf]
        · have HR := Lib.hid (hS.lastGap hb2)
          clear hS
          go_wp2
          go_roundw
          case rel => exact ⟨s.size + 1, s.size + 1, _, Nat.le_refl _, Nat.le_refl _, HR.out.len, by go_num, by go_num, hown, hbel, HR.out⟩
          case measure => simp [intOf]
      · obtain rfl : k = s.size + 1 := by omega
        have HR := Lib.hid hS.done
        clear hS
        have hown' := Lib.hid hown
        rcases hown.2 with ⟨rfl, h0⟩ | ⟨g, cap, cur, rfl, _⟩
        · have HR' := Lib.hid (HR.out.trans (if_neg (by omega)))
          clear hown HR
          go_wp2
          go_ret2
          rw [HR'.out]
          exact ⟨_, rfl, hown'.out, hbel⟩
        · by_cases h12 : 12 < out.length
          · have HR' := Lib.hid (HR.out.trans (if_pos h12))
            clear hown HR
            go_wp2
            go_ret2
            rw [HR'.out]
            exact ⟨_, rfl, World.ownsRow_lit wr #[] 0 hz (by decide) (by simp), hbel.alloc hz _⟩
          · have HR' := Lib.hid (HR.out.trans (if_neg h12))
            clear hown HR
            go_wp2
            go_ret2
            rw [HR'.out]
            exact ⟨_, rfl, hown'.out, hbel⟩

theorem own_other {w w' : World} {b b' : Nat} {e e' : TypeId} {z z' n n' : Nat} {v v' : Value} {xs xs' : List Value} (h : w.ownsRow b e z v n xs) (h' : w.ownsRow b' e' z' v' n' xs') (hne : e ≠ e') (hg : w.grownBy w' v'.ownBlock) :
    w'.ownsRow b e z v n xs := by
  refine h.kept hg ?_
  rcases h.2 with ⟨rfl, _⟩ | ⟨g, cap, cur, rfl, _, hh, _⟩
  · exact .inl rfl
  · rcases h'.2 with ⟨rfl, _⟩ | ⟨g', cap', cur', rfl, _, hh', _⟩
    · exact .inr (by simp [Value.ownBlock])
    · refine .inr ?_
      simp only [Value.ownBlock, ne_eq, Option.some.injEq]
      intro hgg
      subst hgg
      rw [hh] at hh'
      simp only [Option.some.injEq, Obj.cells.injEq] at hh'
      exact hne hh'.2.1
theorem own_reset {w : World} {b g cap n : Nat} {e : TypeId} {xs : List Value} (h : w.ownsRow b e 1 (.slice (some ⟨g, 0, none⟩) n cap) n xs) : w.ownsRow b e 1 (.slice (some ⟨g, 0, none⟩) 0 cap) 0 [] := by
  rcases h.2 with ⟨h', _⟩ | ⟨g', cap', cur, h', hb, hh, hnc, hcm, hcs, _⟩
  · simp at h'
  · simp only [Value.slice.injEq, Option.some.injEq, Addr.mk.injEq, and_true, true_and] at h'
    obtain ⟨rfl, rfl⟩ := h'
    exact ⟨by simp, .inr ⟨g, cap, cur, rfl, hb, hh, Nat.zero_le _, hcm, hcs, by simp⟩⟩

/-- The state of the program's loop. -/
def IRel (l : List UInt8) (k : Nat) (out : List (List UInt8)) (cur : List UInt8) : Prop := pst l k = (out, cur) ∧ (l.take k).any badB = false
theorem IRel.len {l : List UInt8} {k : Nat} {out : List (List UInt8)} {cur : List UInt8} (h : IRel l k out cur) : out.length ≤ k ∧ cur.length ≤ k := by
  have := pst_len l k
  rw [h.1] at this
  exact this
theorem IRel.plain {l : List UInt8} {k : Nat} {out : List (List UInt8)} {cur : List UInt8} (h : IRel l k out cur) (hk : k < l.length) (hb : badB l[k] = false) (hc : l[k] ≠ 32) : IRel l (k + 1) out (cur ++ [l[k]]) := by
  refine ⟨?_, any_succ l k hk h.2 hb⟩
  rw [pst_succ l k hk, h.1, pstep, if_neg hc]
theorem IRel.cut {l : List UInt8} {k : Nat} {out : List (List UInt8)} {cur : List UInt8} (h : IRel l k out cur) (hk : k < l.length) (hc : l[k] = 32) (hne : cur ≠ []) : IRel l (k + 1) (out ++ [cur]) [] := by
  refine ⟨?_, any_succ l k hk h.2 (by rw [hc]; decide)⟩
  rw [pst_succ l k hk, h.1, pstep, if_pos hc, if_neg hne]
theorem IRel.gap {l : List UInt8} {k : Nat} {out : List (List UInt8)} (h : IRel l k out []) (hk : k < l.length) (hc : l[k] = 32) : IRel l (k + 1) out [] := by
  refine ⟨?_, any_succ l k hk h.2 (by rw [hc]; decide)⟩
  rw [pst_succ l k hk, h.1, pstep, if_pos hc]
  simp
theorem IRel.done {l : List UInt8} {out : List (List UInt8)} {cur : List UInt8} (h : IRel l l.length out cur) : partsRes l = if 12 < (pfin (out, cur)).length then ([], false) else (pfin (out, cur), true) := by
  have h2 : l.any badB = false := by simpa using h.2
  rw [partsRes, h.1, h2]
  simp

theorem implParts_long (s : ByteArray) (w : World) (hs : 600 < s.size) (hm : s.size ≤ maxLen) : Calls Try.prog 12 #[.string s] w (PRes ([], false) w) := by
  unfold maxLen at hm
  go_enter Try.func12, Try.ntmps12
  go_wp2
  go_step3
  go_wp2
  try rw [Exit.noGoto_ret]
  go_ret2
  exact ⟨_, rfl, World.ownsRow_nil _ _ _ _, Below.refl _ _⟩

set_option maxHeartbeats 2000000 in
theorem implParts (s : ByteArray) (w : World) (hs : s.size ≤ 600) : Calls Try.prog 12 #[.string s] w (PRes (partsRes s.data.toList) w) := by
  have hb : decide ((600 : Int) < (s.size : Int)) = false := by simp; omega
  obtain ⟨i0, hi, hz0, hz1, hz2⟩ := info_parts info9
  obtain ⟨j0, hj, hy0, hy1, hy2⟩ := info_parts info5
  go_enter Try.func12, Try.ntmps12
  go_wp2
  go_step3
  go_wp2
  go_step3
  go_wp2
  go_loopw [4, 5, 6, 7] (fun vb vo vp i wr => ∃ (k : Nat) (out : List (List UInt8)) (cur : List UInt8), k ≤ s.size ∧ vb = .bool true ∧ i = .int .i64 k ∧ wr.ownsRow w.heap.size 9 1 vo out.length (out.map sv) ∧ wr.ownsRow w.heap.size 5 1 vp cur.length (cur.map bv) ∧ Below w.heap.size w wr ∧ IRel s.data.toList k out cur)
    (fun _ _ _ i _ => s.size - (intOf i).toNat)
  case atStart =>
    refine ⟨0, [], [], Nat.zero_le _, rfl, rfl, ?_, ?_, ?_, ⟨by simp [pst], by simp⟩⟩
    · exact (World.ownsRow_lit w #[] 0 (Nat.le_refl _) (by decide) (by simp)).alloc _
    · have h := World.ownsRow_lit (base := w.heap.size) (e := 5) (size := 1) (w.alloc (.cells #[] 9)) #[] 0 (by simp) (by decide) (by simp)
      rw [World.size_alloc] at h
      exact h
    · exact ((Below.refl _ _).alloc (Nat.le_refl _) _).alloc (by simp) _
  case round =>
    obtain ⟨k, out, cur, hk, rfl, rfl, hownO, hownP, hbel, hI⟩ := hrel
    have hz := hbel.size
    have hlO := hownO.lt
    have hlP := hownP.lt
    obtain ⟨n1, n2⟩ := hI.len
    by_cases hlt : k < s.size
    · have hc1 := s[k].toNat_lt
      by_cases hx : s[k].toNat < 32 ∨ 126 < s[k].toNat
      · have HR := Lib.hid (partsRes_bad (l := s.data.toList) hlt ((badB_iff _).2 hx))
        clear hI
        by_cases hcur : cur = []
        · subst hcur
          rcases hownP.2 with ⟨rfl, _⟩ | ⟨g, cap, cu, rfl, _⟩ <;> rcases hx with hx | hx
          all_goals
            clear hownP hownO
            go_wp2
            try rw [Exit.noGoto_ret]
            go_ret2
            rw [HR.out]
            exact ⟨_, rfl, World.ownsRow_nil _ _ _ _, hbel⟩
        · have hpos : 0 < cur.length := List.length_pos_iff.2 hcur
          have hcv := conv_own wr Try.underlying32 Try.underlying5 Try.underlying9 hownP
          obtain ⟨g, cap, rfl, _, _⟩ := hownP.form hpos
          rcases hx with hx | hx
          all_goals
            go_wp2_with (at_builtin; refine wpList_append_own _ rfl _ _ 25 rfl w.heap.size 9 i0 _ 1 16 Try.underlying25 hi hz0 hz1 hz2 rfl (by decide) _ _ _ rfl (hownO.alloc _) ⟨wr.heap.size, 0, none⟩ 1 1 [.string ⟨cur.toArray⟩] rfl rfl (oneNew _ _ _) (by simp [Value.oneCell']) (by simp only [maxLen]; omega) (by omega) (by simp; omega) ?_; intro v1 w1 hown1 hgrow hat)
            try rw [Exit.noGoto_ret]
            go_ret2
            rw [HR.out]
            exact ⟨_, rfl, World.ownsRow_nil _ _ _ _, (hbel.alloc hz _).grown hgrow (by simp; omega) (fun q hq => (hlO q hq).1)⟩
      · have hg := Lib.hid ((badB_no s[k]).2 hx)
        have x1 : 32 ≤ s[k].toNat := by omega
        have x2 : s[k].toNat ≤ 126 := by omega
        clear hx
        by_cases h32 : s[k].toNat = 32
        · have h33 : ((s[k].toNat : Int) == 32) = true := by simp; omega
          by_cases hcur : cur = []
          · subst hcur
            have HR := Lib.hid (hI.gap hlt (UInt8.toNat_inj.1 h32))
            have hP := Lib.hid hownP
            clear hI h32
            rcases hownP.2 with ⟨rfl, _⟩ | ⟨g, cap, cu, rfl, _⟩
            all_goals
              clear hownP
              go_wp2
              go_roundw
              case rel => exact ⟨k + 1, out, [], by omega, rfl, by go_num, hownO, hP.out, hbel, HR.out⟩
              case measure => simp [intOf]; omega
          · have HR := Lib.hid (hI.cut hlt (UInt8.toNat_inj.1 h32) hcur)
            have hpos : 0 < cur.length := List.length_pos_iff.2 hcur
            have hcv := conv_own wr Try.underlying32 Try.underlying5 Try.underlying9 hownP
            obtain ⟨g, cap, rfl, _, _⟩ := hownP.form hpos
            clear hI h32
            go_wp2_with (at_builtin; refine wpList_append_own _ rfl _ _ 25 rfl w.heap.size 9 i0 _ 1 16 Try.underlying25 hi hz0 hz1 hz2 rfl (by decide) _ _ _ rfl (hownO.alloc _) ⟨wr.heap.size, 0, none⟩ 1 1 [.string ⟨cur.toArray⟩] rfl rfl (oneNew _ _ _) (by simp [Value.oneCell']) (by simp only [maxLen]; omega) (by omega) (by simp; omega) ?_; intro v1 w1 hown1 hgrow hat)
            go_roundw
            case rel => exact ⟨k + 1, out ++ [cur], [], by omega, rfl, by go_num, by simpa [sv] using hown1, own_reset (own_other (hownP.alloc _) (hownO.alloc _) (by decide) hgrow), (hbel.alloc hz _).grown hgrow (by simp; omega) (fun q hq => (hlO q hq).1), HR.out⟩
            case measure => simp [intOf]; omega
        · have h33 : ((s[k].toNat : Int) == 32) = false := by simp; omega
          have HR := Lib.hid (hI.plain hlt hg.out (fun e => h32 (congrArg UInt8.toNat e)))
          clear hI h32
          go_wp2_with (at_builtin; refine wpList_append_own _ rfl _ _ 32 rfl w.heap.size 5 j0 _ 1 1 Try.underlying32 hj hy0 hy1 hy2 rfl (by decide) _ _ _ rfl (hownP.alloc _) ⟨wr.heap.size, 0, none⟩ 1 1 [.int .u8 (s[k].toNat : Int)] rfl rfl (oneNew _ _ _) (by simp [Value.oneCell']) (by simp only [maxLen]; omega) (by omega) (by simp; omega) ?_; intro v1 w1 hown1 hgrow hat)
          go_roundw
          case rel => exact ⟨k + 1, out, cur ++ [s[k]], by omega, rfl, by go_num, own_other (hownO.alloc _) (hownP.alloc _) (by decide) hgrow, by simpa [bv] using hown1, (hbel.alloc hz _).grown hgrow (by simp; omega) (fun q hq => (hlP q hq).1), HR.out⟩
          case measure => simp [intOf]; omega
    · obtain rfl : k = s.size := by omega
      have HD := Lib.hid (hI.done)
      clear hI
      by_cases hcur : cur = []
      · subst hcur
        have hO := Lib.hid hownO
        simp only [pfin, if_pos] at HD
        rcases hownP.2 with ⟨rfl, _⟩ | ⟨g, cap, cu, rfl, _⟩ <;> rcases hownO.2 with ⟨rfl, e0⟩ | ⟨g2, cap2, cu2, rfl, e0⟩ <;> by_cases h12 : 12 < out.length
        all_goals try (exfalso; omega)
        all_goals
          clear hownP hownO e0
          go_wp2
          try rw [Exit.noGoto_ret]
          go_ret2
          rw [HD.out]
          first
            | (rw [if_pos h12]; exact ⟨_, rfl, World.ownsRow_nil _ _ _ _, hbel⟩)
            | (rw [if_neg h12]; exact ⟨_, rfl, hO.out, hbel⟩)
      · have hpos : 0 < cur.length := List.length_pos_iff.2 hcur
        simp only [pfin, if_neg hcur] at HD
        have hcv := conv_own wr Try.underlying32 Try.underlying5 Try.underlying9 hownP
        obtain ⟨g, cap, rfl, _, _⟩ := hownP.form hpos
        by_cases h12 : 12 < out.length + 1
        all_goals
          go_wp2_with (at_builtin; refine wpList_append_lies _ rfl _ _ _ rfl w.heap.size 9 i0 _ 1 16 Try.underlying25 hi hz0 hz1 hz2 rfl (by decide) _ _ _ rfl (hownO.alloc _) ⟨wr.heap.size, 0, none⟩ 1 1 [.string ⟨cur.toArray⟩] rfl rfl (oneNew _ _ _) (by simp [Value.oneCell']) (by decide) (by simp only [maxLen]; omega) (by omega) (by simp; omega) _ rfl ?_; intro g1 cap1 w1 hown1 hgrow hat hlt1)
          try rw [Exit.noGoto_ret]
          go_ret2
          rw [HD.out]
          first
            | (rw [if_pos (by simpa using h12)]; exact ⟨_, rfl, World.ownsRow_nil _ _ _ _, (hbel.alloc hz _).grown hgrow (by simp; omega) (fun q hq => (hlO q hq).1)⟩)
            | (rw [if_neg (by simpa using h12)]; exact ⟨_, rfl, by simpa [sv] using hown1, (hbel.alloc hz _).grown hgrow (by simp; omega) (fun q hq => (hlO q hq).1)⟩)

def partsAll (l : List UInt8) : List (List UInt8) × Bool := if 600 < l.length then ([], false) else partsRes l
theorem partsAll_len (l : List UInt8) : (partsAll l).1.length ≤ 12 := by
  unfold partsAll partsRes
  split
  · simp
  · split
    · simp
    · rename_i h; simp only [not_or] at h; simp; omega
theorem specPartsAll (s : ByteArray) (w : World) (hm : s.size ≤ maxLen) : Calls Try.prog 11 #[.string s] w (PRes (partsAll s.data.toList) w) := by
  by_cases h : 600 < s.size
  · have e : partsAll s.data.toList = ([], false) := if_pos h
    rw [e]
    exact specParts_long s w h hm
  · have e : partsAll s.data.toList = partsRes s.data.toList := if_neg h
    rw [e]
    exact specParts s w (by omega)
theorem implPartsAll (s : ByteArray) (w : World) (hm : s.size ≤ maxLen) : Calls Try.prog 12 #[.string s] w (PRes (partsAll s.data.toList) w) := by
  by_cases h : 600 < s.size
  · have e : partsAll s.data.toList = ([], false) := if_pos h
    rw [e]
    exact implParts_long s w h hm
  · have e : partsAll s.data.toList = partsRes s.data.toList := if_neg h
    rw [e]
    exact implParts s w (by omega)
theorem own_drew {w : World} {b : Nat} {e : TypeId} {z n : Nat} {v : Value} {xs : List Value} (h : w.ownsRow b e z v n xs) (q : Nat) : (w.drewN q).ownsRow b e z v n xs := h

end Go.Proofs.Ythpjacdfnnjghaa
