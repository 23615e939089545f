/-
  Contracts of impl.tryEach and impl.LevelWitness.
-/
import Derived.Test.YtdeophmdpbgkdaaUI3
import Derived.Test.YtdeophmdpbgkdaaVU
namespace Go.Proofs.Ytdeophmdpbgkdaa
set_option maxRecDepth 100000
open Go.ChangeShapes Go.WideShapes Go.ChangeAt Go.RowKit
set_option linter.unusedSimpArgs false

/-- The closure as a value. -/
def fnV (N : Nat) : Value := .func (.func 44) #[] #[.pointer (some ⟨N + 2, 0, none⟩), .pointer (some ⟨N, 0, none⟩), .pointer (some ⟨N + 1, 0, none⟩)]
def codeD (ds : List Nat) : Nat := ds.foldl (fun c x => 3 * c + x) 0
theorem codeD_snoc (ds : List Nat) (x : Nat) : codeD (ds ++ [x]) = 3 * codeD ds + x := by simp [codeD, List.foldl_append]
theorem codeD_three {ds : List Nat} (h : ds.length = 3) (hx : ∀ x ∈ ds, x < 3) (K : Nat) : codeD ds < 27 ∧ ds.map (tryOne K) = tryTri K (codeD ds) := by
  match ds, h with
  | [x, y, z], _ =>
    have h1 := hx x (by simp)
    have h2 := hx y (by simp)
    have h3 := hx z (by simp)
    have e : codeD [x, y, z] = 9 * x + 3 * y + z := by simp [codeD]; omega
    rw [e, tri_form h2 h3]
    exact ⟨by omega, rfl⟩
theorem own_mono {w : World} {b b' n z : Nat} {e : TypeId} {v : Value} {xs : List Value} (h : w.ownsRow b e z v n xs) (hb : b' ≤ b) : w.ownsRow b' e z v n xs :=
  ⟨h.1, h.2.imp id fun ⟨g, cap, cur, e1, e2, e3⟩ => ⟨g, cap, cur, e1, Nat.le_trans hb e2, e3⟩⟩
theorem own_take {w : World} {b g cap n : Nat} {e : TypeId} {xs : List Value} {x : Value} (h : w.ownsRow b e 1 (.slice (some ⟨g, 0, none⟩) (n + 1) cap) (n + 1) (xs ++ [x])) (hx : xs.length = n) : w.ownsRow b e 1 (.slice (some ⟨g, 0, none⟩) n cap) n xs := by
  refine ⟨by rw [hx, Nat.mul_one], ?_⟩
  rcases h.2 with ⟨e', _⟩ | ⟨g', cap', cur, e1, h2, h3, h4, h5, h6, h7⟩
  · cases e'
  · cases e1
    refine .inr ⟨g, cap, cur, rfl, h2, h3, by omega, h5, h6, ?_⟩
    have := congrArg (List.take n) h7
    rw [List.take_take, List.take_left' hx] at this
    rw [Nat.mul_one, ← this]
    congr 1
    omega

set_option maxHeartbeats 4000000 in
theorem implEach (N : Nat) (a b : ByteArray) (K : Nat) (hK : 2 ≤ K) (hK2 : K ≤ 122) (ha : levelOk a.data.toList = true) (hb : levelOk b.data.toList = true) :
    ∀ (e d : Nat) (ds : List Nat) (p m : Nat), d + e = 3 → ds.length = d → (∀ x ∈ ds, x < 3) → p = 3 ^ e → m = codeD ds * p → ∀ W : World, WSt N a b K (firstUp a.data.toList b.data.toList K m) W →
      W.ownsRow N 3 1 (.slice (some ⟨N + 4, 0, none⟩) d 3) d ((ds.map (tryOne K)).map natV) →
      Calls Try.prog 47 #[.slice (some ⟨N + 3, 0, none⟩) 3 3, .slice (some ⟨N + 4, 0, none⟩) d 3, fnV N] W fun e W' =>
        e = .returned (.tuple #[]) ∧ WSt N a b K (firstUp a.data.toList b.data.toList K (m + p)) W' ∧ W'.ownsRow N 3 1 (.slice (some ⟨N + 4, 0, none⟩) d 3) d ((ds.map (tryOne K)).map natV) ∧ Below N W W' := by
  intro e
  induction e with
  | zero =>
    intro d ds p m hd hl hx hp hm W hW hown
    obtain rfl : d = 3 := by omega
    obtain ⟨h27, htri⟩ := codeD_three hl hx K
    obtain rfl : p = 1 := hp
    rw [Nat.mul_one] at hm
    subst hm
    have hown2 := hown
    rw [htri] at hown2
    have fT := Lib.hid (implTry N a b K (codeD ds) hK hK2 h27 ha hb hW hown2)
    have HO := Lib.hid hown
    have hsz := hW.sz
    clear hown hown2 hW htri
    unfold fnV
    go_enter Try.func47, Try.ntmps47
    go_wp2_with fail
    (with_reducible refine fT.out.mono ?_); rintro e w1 ⟨rfl, h1, hg⟩
    have h2 := HO.out.kept hg (.inr (by simp [Value.ownBlock]))
    have h3 := (Below.refl N W).grown hg (by omega) (fun k hk => by cases hk; omega)
    have H := Lib.hid (And.intro h1 (And.intro h2 h3))
    clear h1 h2 h3 hg fT
    go_wp2
    refine bodyPost_ret (results_none rfl _ _ _) rfl ?_
    exact ⟨rfl, H.out⟩
  | succ e ih =>
    intro d ds p m hd hl hx hp hm W hW hown
    have hpp : p = 3 * 3 ^ e := by rw [hp, Nat.pow_succ, Nat.mul_comm]
    have IH := Lib.hid fun k (hk : k < 3) W' h1 h2 => ih (d + 1) (ds ++ [k]) (3 ^ e) (m + k * 3 ^ e) (by omega) (by simp [hl]) (fun x hm => by
      rcases List.mem_append.1 hm with h | h
      · exact hx x h
      · simp at h; omega) rfl (by
        rw [codeD_snoc, hm, hpp, Nat.add_mul, ← Nat.mul_assoc, Nat.mul_comm (codeD ds) 3]) W' h1 h2
    clear ih
    generalize 3 ^ e = q at IH hpp
    have hd3 : d < 3 := by omega
    have d0 : ((d : Int) == 3) = false := beq_eq_false_iff_ne.2 (by omega)
    clear hp
    unfold fnV at IH ⊢
    go_enter Try.func47, Try.ntmps47
    go_wp2
    have HW := Lib.hid hW
    have HO := Lib.hid hown
    have hsz := hW.sz
    clear hW hown
    go_loopw [16] (fun i wr => ∃ k : Nat, k ≤ 3 ∧ i = .int .i64 k ∧ WSt N a b K (firstUp a.data.toList b.data.toList K (m + k * q)) wr ∧ wr.ownsRow N 3 1 (.slice (some ⟨N + 4, 0, none⟩) d 3) d ((ds.map (tryOne K)).map natV) ∧ Below N W wr) (fun i _ => 3 - (intOf i).toNat)
    case atStart => exact ⟨0, Nat.zero_le _, rfl, by rw [Nat.zero_mul, Nat.add_zero]; exact HW.out, HO.out, Below.refl _ _⟩
    case round =>
      obtain ⟨k, hk, rfl, hW, hown, hbel⟩ := hrel
      clear HW HO
      by_cases hk3 : k < 3
      · have cc : wr.cell? ⟨N + 3, k, none⟩ = some (.int .i64 (tryOne K k : Int)) := by
          rw [hW.nums.cellAt k (by omega)]
          rcases (by omega : k = 0 ∨ k = 1 ∨ k = 2) with rfl | rfl | rfl <;> rfl
        have d1 : decide ((k : Int) < 3) = true := decide_eq_true (by omega)
        have q1 : (0 : Int) ≤ (k : Int) := by omega
        have q2 : (k : Int) < 3 := by omega
        obtain ⟨i0, hi, hz0, hz1, hz2⟩ := info_parts infoInt
        have hml : ((ds ++ [k]).map (tryOne K)).map natV = (ds.map (tryOne K)).map natV ++ [.int .i64 (tryOne K k : Int)] := by
          rw [List.map_append, List.map_append]; rfl
        have hlen : ((ds.map (tryOne K)).map natV).length = d := by simp [hl]
        have fR := Lib.hid fun W' h1 h2 => IH.out k hk3 W' h1 (by rw [hml]; exact h2)
        rw [hml] at fR
        generalize (ds.map (tryOne K)).map natV = xs at fR hown hlen
        generalize tryOne K k = X at fR cc
        clear IH hml
        go_wp2_with (at_builtin; refine wpList_append_fits _ rfl _ _ 26 rfl N 3 i0 1 Try.underlying26 hi hz1 (N + 4) d 3 xs rfl (hown.alloc _) ⟨wr.heap.size, 0, none⟩ 1 1 [.int .i64 (X : Int)] rfl rfl (oneNew _ _ _) (by intro u hu; simp at hu; subst hu; rfl) (by omega) ?_; intro w1 hown1 hg1)
        have hW1 := (hW.below ((Below.refl wr.heap.size wr).alloc (Nat.le_refl _) _)).beg hg1
        have hsz2 := hW.sz
        have hb1 := (hbel.alloc (by omega) _).grown hg1 (by simp; omega) (fun k hk => by cases hk; omega)
        have HW1 := Lib.hid hW1
        have HB1 := Lib.hid hb1
        clear hg1 hown hW hbel cc
        go_wp2_with fail
        (with_reducible refine (fR.out _ HW1.out hown1).mono ?_); rintro e w2 ⟨rfl, h3, h4, h5⟩
        have H3 := Lib.hid h3
        have H4 := Lib.hid (own_take h4 hlen)
        have H5 := Lib.hid (HB1.out.trans h5)
        clear h3 h4 h5 hown1 fR HW1 HB1
        go_wp2
        go_roundw
        case rel => exact ⟨k + 1, by omega, by go_num, by rw [Nat.succ_mul, ← Nat.add_assoc]; exact H3.out, H4.out, H5.out⟩
        case measure => simp [intOf]; omega
      · obtain rfl : k = 3 := by omega
        rw [← hpp] at hW
        have H := Lib.hid (And.intro hW (And.intro hown hbel))
        have d1 : decide ((3 : Int) < 3) = false := by decide
        clear hW hown hbel IH
        go_wp2
        go_end0
        exact ⟨rfl, H.out⟩

set_option maxHeartbeats 4000000 in
theorem implLevelWitness (a b : ByteArray) (w : World) (ha : a.size ≤ maxLen) (hb : b.size ≤ maxLen) :
    Calls Try.prog 19 #[.string a, .string b] w (WitRes (levelWit a.data.toList b.data.toList) w) := by
  have f1 := Lib.hid fun W => implLevelOk a W ha
  have f2 := Lib.hid fun W => implLevelOk b W hb
  have bB := ((Below.refl w.heap.size w).alloc (Nat.le_refl _) (.cells #[.string a] 9)).alloc (by simp) (.cells #[.string b] 9)
  by_cases ho : levelOk a.data.toList = true
  rotate_left
  · have HE : Hid (levelWit a.data.toList b.data.toList = none) := if_neg fun hc => ho hc.1
    rw [Bool.not_eq_true] at ho
    rw [ho] at f1
    clear ho f2
    go_enter Try.func19, Try.ntmps19
    go_wp2_with fail
    (with_reducible refine (f1.out _).mono ?_); rintro e w1 ⟨rfl, rfl⟩
    go_wp2
    go_ret2
    rw [HE.out]
    exact ⟨_, rfl, World.ownsRow_nil _ _ _ _, bB⟩
  have HOa := Lib.hid ho
  rw [ho] at f1
  clear ho
  by_cases ho : levelOk b.data.toList = true
  rotate_left
  · have HE : Hid (levelWit a.data.toList b.data.toList = none) := if_neg fun hc => ho hc.2
    rw [Bool.not_eq_true] at ho
    rw [ho] at f2
    clear ho
    go_enter Try.func19, Try.ntmps19
    go_wp2_with fail
    (with_reducible refine (f1.out _).mono ?_); rintro e w1 ⟨rfl, rfl⟩
    go_wp2_with fail
    (with_reducible refine (f2.out _).mono ?_); rintro e w2 ⟨rfl, rfl⟩
    go_wp2
    go_ret2
    rw [HE.out]
    exact ⟨_, rfl, World.ownsRow_nil _ _ _ _, bB⟩
  have HOb := Lib.hid ho
  rw [ho] at f2
  clear ho
  have f3 := Lib.hid fun W => implLevelUps a W ha
  have f4 := Lib.hid fun W => implLevelUps b W hb
  have HWit := Lib.hid (firstUp_wit HOa.out HOb.out)
  have hua : levelUps a.data.toList ≤ 60 := by
    have : a.data.toList.length ≤ 60 := (levelOk_len HOa.out).1
    rw [levelUps, if_pos HOa.out]
    exact Nat.le_trans List.count_le_length this
  have hub : levelUps b.data.toList ≤ 60 := by
    have : b.data.toList.length ≤ 60 := (levelOk_len HOb.out).1
    rw [levelUps, if_pos HOb.out]
    exact Nat.le_trans List.count_le_length this
  generalize levelUps a.data.toList = ua at f3 hua HWit
  generalize levelUps b.data.toList = ub at f4 hub HWit
  have ra : (((w.alloc (.cells #[.string a] 9)).alloc (.cells #[.string b] 9)).alloc (.cells #[.slice none 0 0] 26)).ownsRow w.heap.size 9 1 (.slice (some ⟨w.heap.size, 0, none⟩) 1 1) 1 [.string a] :=
    ((World.ownsRow_lit (base := w.heap.size) (e := 9) (size := 1) w #[.string a] 1 (Nat.le_refl _) (by decide) (by simp)).alloc _).alloc _
  have rb : (((w.alloc (.cells #[.string a] 9)).alloc (.cells #[.string b] 9)).alloc (.cells #[.slice none 0 0] 26)).ownsRow w.heap.size 9 1 (.slice (some ⟨w.heap.size + 1, 0, none⟩) 1 1) 1 [.string b] := by
    have := (World.ownsRow_lit (base := w.heap.size) (e := 9) (size := 1) (w.alloc (.cells #[.string a] 9)) #[.string b] 1 (by simp) (by decide) (by simp)).alloc (.cells #[.slice none 0 0] 26)
    simpa using this
  have rc : (((w.alloc (.cells #[.string a] 9)).alloc (.cells #[.string b] 9)).alloc (.cells #[.slice none 0 0] 26)).ownsRow w.heap.size 26 1 (.slice (some ⟨w.heap.size + 2, 0, none⟩) 1 1) 1 [.slice none 0 0] := by
    have := (World.ownsRow_lit (base := w.heap.size) (e := 26) (size := 1) ((w.alloc (.cells #[.string a] 9)).alloc (.cells #[.string b] 9)) #[.slice none 0 0] 1 (by simp; omega) (by decide) (by simp))
    simpa using this
  have bC := bB.alloc (by simp; omega) (.cells #[.slice none 0 0] 26)
  have sz0 : (((w.alloc (.cells #[.string a] 9)).alloc (.cells #[.string b] 9)).alloc (.cells #[.slice none 0 0] 26)).heap.size = w.heap.size + 3 := by simp
  go_enter Try.func19, Try.ntmps19
  go_wp2_with fail
  (with_reducible refine (f1.out _).mono ?_); rintro e w1 ⟨rfl, rfl⟩
  go_wp2_with fail
  (with_reducible refine (f2.out _).mono ?_); rintro e w2 ⟨rfl, rfl⟩
  go_wp2_with fail
  generalize (((w.alloc (.cells #[.string a] 9)).alloc (.cells #[.string b] 9)).alloc (.cells #[.slice none 0 0] 26)) = W at ra rb rc bC sz0
  have va : W.cell? ⟨w.heap.size, 0, none⟩ = some (.string a) := ra.cellAt 0 (by omega)
  have vb : W.cell? ⟨w.heap.size + 1, 0, none⟩ = some (.string b) := rb.cellAt 0 (by omega)
  go_still_tail 6, (by kernel_rfl)
  still_call (f3.out _)
  repeat still_step
  still_call (f4.out _)
  repeat still_step
  refine wpStill_nil ?_
  change wpList _ _ _ _ _ W.drew
  obtain ⟨K, hK⟩ : ∃ K, 2 + ua + ub = K := ⟨_, rfl⟩
  have hK2 : 2 ≤ K := by omega
  have hKm : K ≤ 122 := by omega
  rw [hK] at HWit
  have hKK : (2 : Int) + (ua : Int) + (ub : Int) = (K : Int) := by omega
  have ra1 : W.drew.ownsRow w.heap.size 9 1 (.slice (some ⟨w.heap.size, 0, none⟩) 1 1) 1 [.string a] := ra.drew
  have rb1 : W.drew.ownsRow w.heap.size 9 1 (.slice (some ⟨w.heap.size + 1, 0, none⟩) 1 1) 1 [.string b] := rb.drew
  have rc1 : W.drew.ownsRow w.heap.size 26 1 (.slice (some ⟨w.heap.size + 2, 0, none⟩) 1 1) 1 [.slice none 0 0] := rc.drew
  have bC1 := bC.drew
  have sz1 : W.drew.heap.size = w.heap.size + 3 := sz0
  clear ra rb rc bC sz0 va vb hK f1 f2 f3 f4 bB
  generalize W.drew = wd at ra1 rb1 rc1 bC1 sz1
  clear hua hub
  have rn := World.ownsRow_lit (base := w.heap.size) (e := 3) (size := 1) wd #[.int .i64 0, .int .i64 1, .int .i64 (K : Int)] 3 (by omega) (by decide) (by simp)
  have bn := (Below.refl wd.heap.size wd).alloc (Nat.le_refl _) (.cells #[.int .i64 0, .int .i64 1, .int .i64 (K : Int)] 3)
  have szn : (wd.alloc (.cells #[.int .i64 0, .int .i64 1, .int .i64 (K : Int)] 3)).heap.size = w.heap.size + 4 := by simp [sz1]
  rw [sz1] at rn
  have ra2 := own_below ra1 bn
  have rb2 := own_below rb1 bn
  have rc2 := own_below rc1 bn
  have bC2 := bC1.trans (bn.mono bC1.size)
  clear ra1 rb1 rc1 bC1 bn
  obtain ⟨i0, hi, hz0, hz1, hz2⟩ := info_parts infoInt
  have HF := Lib.hid fun W' m hm => implEach w.heap.size a b K hK2 hKm HOa.out HOb.out 3 0 [] 27 0 rfl rfl (by simp) rfl rfl W' m hm
  have H := Lib.hid (And.intro ra2 (And.intro rb2 (And.intro rc2 (And.intro rn bC2))))
  clear ra2 rb2 rc2 rn bC2
  have SZ : ∀ o, (wd.alloc o).heap.size = w.heap.size + 4 := fun o => by simp [sz1]
  go_wp2_with (at_make; refine wpList_make_own _ rfl _ _ 26 rfl w.heap.size 3 i0 (.int .i64 0) 1 Try.underlying26 hi hz0 hz1 _ _ _ 3 rfl rfl (by omega) (by rw [hz2]; omega) (by unfold maxLen; omega) (by rw [SZ]; omega) ?_; intro w1 hown1 hg1; simp only [SZ] at hown1 ⊢; rw [hKK] at hg1)
  obtain ⟨ra, rb, rc, rn, bC⟩ := H.out
  have hsz1 := (hown1.lt _ rfl).2
  have hW1 : WSt w.heap.size a b K (firstUp a.data.toList b.data.toList K 0) w1 := by
    rw [firstUp_zero]
    exact ⟨ra.kept hg1 (.inr (by simp [Value.ownBlock])), rb.kept hg1 (.inr (by simp [Value.ownBlock])), rn.kept hg1 (.inr (by simp [Value.ownBlock])),
      ⟨_, rc.kept hg1 (.inr (by simp [Value.ownBlock])), World.ownsRow_nil _ _ _ _, fun _ => rfl⟩, by simp at hsz1; omega⟩
  have bC1 := Lib.hid (bC.grown hg1 (by omega) (fun k hk => by cases hk))
  have fE := HF.out w1 hW1 hown1
  unfold fnV at fE
  rw [show w.heap.size + 2 = w.heap.size + 1 + 1 from rfl] at fE
  have fE := Lib.hid fE
  clear ra rb rc rn bC hW1 hg1 hown1 H HF SZ szn hsz1
  go_wp2_with fail
  (with_reducible refine fE.out.mono ?_); rintro e w2 ⟨rfl, hW2, _, hb2⟩
  have B2 := Lib.hid (bC1.out.trans hb2)
  clear bC1 hb2 fE
  rw [Nat.zero_add, ← HWit.out] at hW2
  clear HWit
  obtain ⟨bv, hb, hrow, hnone⟩ := hW2.best
  have cb : w2.cell? ⟨w.heap.size + 1 + 1, 0, none⟩ = some bv := hb.cellAt 0 (by omega)
  clear hW2 hb
  cases hr : levelWit a.data.toList b.data.toList with
  | none =>
    obtain rfl := hnone hr
    have hne := fun W => neqNilI none 0 0 W
    simp only [Option.isNone_none, Bool.not_true] at hne
    have HR2 := Lib.hid hr
    clear hrow hnone hr
    go_wp2
    go_quiet (fail)
    go_wp2
    go_ret2
    rw [HR2.out]
    exact ⟨_, rfl, World.ownsRow_nil _ _ _ _, below_drewN B2.out nq⟩
  | some l =>
    rw [hr] at hrow
    have h3 : l.length = 3 := by
      rw [levelWit, if_pos ⟨HOa.out, HOb.out⟩] at hr
      obtain ⟨i, _, rfl⟩ := Option.map_eq_some_iff.1 hr
      rfl
    rw [show Option.getD (some l) [] = l from rfl, h3] at hrow
    have HR := Lib.hid hrow
    obtain ⟨g, cp, rfl, _, _⟩ := hrow.form (by omega)
    have hne := fun W => neqNilI (some ⟨g, 0, none⟩) 3 cp W
    simp only [Option.isNone_some, Bool.not_false] at hne
    have HR2 := Lib.hid hr
    clear hrow hnone hr
    go_wp2
    go_quiet (fail)
    go_wp2
    go_ret2
    rw [HR2.out]
    rw [WitRes, show Option.getD (some l) [] = l from rfl, h3]
    exact ⟨_, rfl, own_drew (own_mono (b := w.heap.size + 5) (b' := w.heap.size) HR.out (by omega)) nq, below_drewN B2.out nq⟩

theorem implLevelLe (a b : ByteArray) (w : World) (ha : a.size ≤ maxLen) (hb : b.size ≤ maxLen) :
    Calls Try.prog 18 #[.string a, .string b] w fun e w' => e = .returned (.bool (levelLe a.data.toList b.data.toList)) ∧ Below w.heap.size w w' := by
  have f0 := Lib.hid fun W => implLevelWitness a b W ha hb
  have f1 := Lib.hid fun W => implLevelOk a W ha
  have f2 := Lib.hid fun W => implLevelOk b W hb
  have HE : Hid (levelLe a.data.toList b.data.toList = (levelOk a.data.toList && levelOk b.data.toList && !(levelWit a.data.toList b.data.toList).isSome)) := by
    rw [Hid, levelLe]; cases levelWit a.data.toList b.data.toList <;> rfl
  generalize levelLe a.data.toList b.data.toList = r at HE
  generalize levelOk a.data.toList = oa at HE f1
  generalize levelOk b.data.toList = ob at HE f2
  generalize levelWit a.data.toList b.data.toList = rr at HE f0
  go_enter Try.func18, Try.ntmps18
  cases oa
  · go_wp2_with fail
    (with_reducible refine (f1.out _).mono ?_); rintro e w2 ⟨rfl, rfl⟩
    go_wp2
    go_ret
    rw [HE.out]
    exact ⟨rfl, Below.refl _ _⟩
  cases ob
  · go_wp2_with fail
    (with_reducible refine (f1.out _).mono ?_); rintro e w2 ⟨rfl, rfl⟩
    go_wp2_with fail
    (with_reducible refine (f2.out _).mono ?_); rintro e w2 ⟨rfl, rfl⟩
    go_wp2
    go_ret
    rw [HE.out]
    exact ⟨rfl, Below.refl _ _⟩
  go_wp2_with fail
  (with_reducible refine (f1.out _).mono ?_); rintro e w2 ⟨rfl, rfl⟩
  go_wp2_with fail
  (with_reducible refine (f2.out _).mono ?_); rintro e w2 ⟨rfl, rfl⟩
  go_wp2_with fail
  (with_reducible refine (f0.out _).mono ?_); rintro e w1 ⟨u, rfl, _, hb1⟩
  clear f0
  generalize rr.isSome = s at HE
  cases s
  all_goals
    go_wp2
    go_ret
    rw [HE.out]
    exact ⟨rfl, hb1⟩
theorem implLevelSame (a b : ByteArray) (w : World) (ha : a.size ≤ maxLen) (hb : b.size ≤ maxLen) :
    Calls Try.prog 22 #[.string a, .string b] w fun e w' => e = .returned (.bool (levelSame a.data.toList b.data.toList)) ∧ Below w.heap.size w w' := by
  have f1 := Lib.hid fun W => implLevelLe a b W ha hb
  have f2 := Lib.hid fun W => implLevelLe b a W hb ha
  have HE : Hid (levelSame a.data.toList b.data.toList = (levelLe a.data.toList b.data.toList && levelLe b.data.toList a.data.toList)) := rfl
  generalize levelSame a.data.toList b.data.toList = r at HE
  generalize levelLe a.data.toList b.data.toList = x at HE f1
  generalize levelLe b.data.toList a.data.toList = y at HE f2
  go_enter Try.func22, Try.ntmps22
  cases x
  · go_wp2_with fail
    (with_reducible refine (f1.out _).mono ?_); rintro e w1 ⟨rfl, hb1⟩
    go_wp2
    go_ret
    rw [HE.out]
    exact ⟨rfl, hb1⟩
  · go_wp2_with fail
    (with_reducible refine (f1.out _).mono ?_); rintro e w1 ⟨rfl, hb1⟩
    go_wp2_with fail
    (with_reducible refine (f2.out _).mono ?_); rintro e w2 ⟨rfl, hb2⟩
    go_wp2
    go_ret
    rw [HE.out]
    exact ⟨rfl, hb1.trans (hb2.mono hb1.size)⟩
theorem implLevelZero (s : ByteArray) (w : World) (hs : s.size ≤ maxLen) :
    Calls Try.prog 21 #[.string s] w fun e w' => e = .returned (.bool (levelLe s.data.toList [122])) ∧ Below w.heap.size w w' := by
  have f1 : Hid (∀ W, Calls Try.prog 18 #[.string s, .string ⟨#[122]⟩] W fun e w' => e = .returned (.bool (levelLe s.data.toList [122])) ∧ Below W.heap.size W w') := fun W => implLevelLe s ⟨#[122]⟩ W hs (by decide)
  generalize levelLe s.data.toList [122] = x at f1
  go_enter Try.func21, Try.ntmps21
  go_wp2_with fail
  (with_reducible refine (f1.out _).mono ?_); rintro e w1 ⟨rfl, hb1⟩
  go_wp2
  go_ret
  exact ⟨rfl, hb1⟩
theorem implLevelAbove (s : ByteArray) (w : World) (hs : s.size ≤ maxLen) :
    Calls Try.prog 20 #[.string s] w fun e w' => e = .returned (.bool (levelLe [43, 122] s.data.toList)) ∧ Below w.heap.size w w' := by
  have f1 : Hid (∀ W, Calls Try.prog 18 #[.string ⟨#[43, 122]⟩, .string s] W fun e w' => e = .returned (.bool (levelLe [43, 122] s.data.toList)) ∧ Below W.heap.size W w') := fun W => implLevelLe ⟨#[43, 122]⟩ s W (by decide) hs
  generalize levelLe [43, 122] s.data.toList = x at f1
  go_enter Try.func20, Try.ntmps20
  go_wp2_with fail
  (with_reducible refine (f1.out _).mono ?_); rintro e w1 ⟨rfl, hb1⟩
  go_wp2
  go_ret
  exact ⟨rfl, hb1⟩
end Go.Proofs.Ytdeophmdpbgkdaa
