/-
  The contract of impl.paramOf.
  Contract of impl.LevelParams.
  Contracts of impl.paramsOf and impl.ParamsIn.
-/
import Derived.Test.YtnklajagefedmaaDoorM2
import Derived.Test.YtnklajagefedmaaDoorVPar
import Derived.Lib.MinMax
import Derived.Test.YtnklajagefedmaaDoorM3
import Derived.Test.YtnklajagefedmaaDoorFParams
namespace Go.Proofs.YtnklajagefedmaaDoor
set_option maxRecDepth 100000
open Go.ChangeShapes Go.WideShapes Go.ChangeAt Go.RowKit

theorem implParamOf (c : UInt8) (w : World) (h1 : 48 ≤ c.toNat) :
    Calls Tryd.prog 92 #[.int .u8 (c.toNat : Int)] w fun e w' => e = .returned (.int .i64 ((c.toNat - 48 : Nat) : Int)) ∧ w' = w := by
  have hc : c.toNat < 256 := UInt8.toNat_lt c
  go_enter Tryd.func92, Tryd.ntmps92
  go_wp2
  go_ret
  refine ⟨?_, rfl⟩
  simp
  omega

end Go.Proofs.YtnklajagefedmaaDoor

namespace Go.Proofs.YtnklajagefedmaaDoor
set_option maxRecDepth 100000
open Go.ChangeShapes Go.WideShapes Go.ChangeAt Go.RowKit
set_option linter.unusedSimpArgs false

theorem lend_map1 {o : Option Nat} {n : Nat} (h : o.map (· + 1) = some (n + 1)) : o = some n := by
  cases o with
  | none => cases h
  | some k => simp at h; rw [h]
theorem lend_map2 {o : Option Nat} {n : Nat} (h : o.map (· + 2) = some (n + 2)) : o = some n := by
  cases o with
  | none => cases h
  | some k => simp at h; rw [h]
/-- The greatest digit of a parameter, wherever it stands. -/
def digF : Nat → List UInt8 → Nat
  | n, [] => n
  | n, c :: r => digF (if 48 ≤ c.toNat ∧ c.toNat ≤ 50 then max n (c.toNat - 47) else n) r
theorem digF_eq : ∀ (l : List UInt8) (k : Nat), lend k l = some l.length → ∀ n, digF n l = parF n l := by
  refine lend_ind (motive := fun k l => lend k l = some l.length → ∀ n, digF n l = parF n l) ?_ ?_ ?_ ?_ ?_ ?_ ?_
  · intro l h n
    rw [lend_zero] at h
    have : l = [] := List.length_eq_zero_iff.1 (Option.some.inj h).symm
    rw [this]; rfl
  · intro n h; rw [lend_nil] at h; cases h
  · intro n r ih h m
    rw [lend_z] at h
    rw [digF, parF, if_neg (by decide), if_neg (fun hc => absurd hc.1 (by decide))]
    exact ih (lend_map1 h) m
  · intro n r ih h m
    rw [lend_up] at h
    rw [digF, parF, if_neg (by decide), if_neg (fun hc => absurd hc.1 (by decide))]
    exact ih (lend_map1 h) m
  · intro n c r hc ih h m
    rw [lend_two n hc] at h
    rw [digF, parF, if_neg (by rcases hc with rfl | rfl <;> decide), if_neg (fun hd => by rcases hc with rfl | rfl <;> exact absurd hd.1 (by decide))]
    exact ih (lend_map1 h) m
  · intro n d r h1 h2 ih h m
    rw [lend_par n h1 h2] at h
    have hd : d ≠ 117 := by rintro rfl; revert h2; decide
    rw [digF, if_neg (show ¬ (48 ≤ (117 : UInt8).toNat ∧ (117 : UInt8).toNat ≤ 50) by decide), digF, if_pos ⟨h1, h2⟩, ih (lend_map2 h), parF, parF]
    simp only [List.headD_cons, true_and, hd, false_and, if_false]
    congr 1
    by_cases hm : m < d.toNat - 47
    · rw [if_pos hm]; omega
    · rw [if_neg hm]; omega
  · intro n c r hbad h; rw [hbad] at h; cases h
theorem digF_mono : ∀ (l : List UInt8) (n : Nat), n ≤ digF n l
  | [], n => Nat.le_refl _
  | c :: r, n => by
    rw [digF]
    refine Nat.le_trans ?_ (digF_mono r _)
    split <;> omega
theorem digF_ge : ∀ (l : List UInt8) (n i : Nat) (hi : i < l.length), 48 ≤ l[i].toNat → l[i].toNat ≤ 50 → l[i].toNat - 47 ≤ digF n l
  | [], n, i, hi, _, _ => by simp at hi
  | c :: r, n, 0, hi, h1, h2 => by
    simp at h1 h2 ⊢
    rw [digF, if_pos ⟨h1, h2⟩]
    have := digF_mono r (max n (c.toNat - 47))
    omega
  | c :: r, n, i + 1, hi, h1, h2 => by
    simp only [List.getElem_cons_succ] at h1 h2 ⊢
    rw [digF]
    exact digF_ge r _ i (by simpa using hi) h1 h2
theorem digF_at {l : List UInt8} {n p : Nat} (hp : p < l.length) : digF n (l.drop p) = digF (if 48 ≤ l[p].toNat ∧ l[p].toNat ≤ 50 then max n (l[p].toNat - 47) else n) (l.drop (p + 1)) := by
  rw [List.drop_eq_getElem_cons hp, digF]

set_option maxHeartbeats 1000000 in
theorem implLevelParams (s : ByteArray) (w : World) (hs : s.size ≤ maxLen) :
    Calls Tryd.prog 82 #[.string s] w fun e w' => e = .returned (.int .i64 (levelParams s.data.toList : Int)) ∧ w' = w := by
  have f1 := Lib.hid fun W => implLevelOk s W hs
  have hls : s.data.toList.length = s.size := rfl
  unfold maxLen at hs
  by_cases hok : levelOk s.data.toList = true
  · rw [hok] at f1
    have h60 := (levelOk_len hok).1
    rw [hls] at h60
    have HE : Hid (levelParams s.data.toList = digF 0 s.data.toList) := (if_pos hok).trans (digF_eq s.data.toList 1 (levelOk_len hok).2 0).symm
    rw [HE.out]
    clear hok HE hls
    go_enter Tryd.func82, Tryd.ntmps82
    go_wp2_with fail
    (with_reducible refine (f1.out _).mono ?_); rintro e w1 ⟨rfl, rfl⟩
    clear f1
    go_wp2
    go_loopw [3, 4] (fun nn i wr => ∃ n p : Nat, p ≤ s.size ∧ n ≤ 208 ∧ nn = .int .i64 n ∧ i = .int .i64 p ∧ wr = w1 ∧ Hid (digF n (s.data.toList.drop p) = digF 0 s.data.toList)) (fun _ i _ => s.size - (intOf i).toNat)
    case atStart => exact ⟨0, 0, Nat.zero_le _, Nat.zero_le _, rfl, rfl, rfl, rfl⟩
    case round =>
      obtain ⟨n, p, hp, hn, rfl, rfl, rfl, HR⟩ := hrel
      by_cases hlt : p < s.size
      · have hll : p < s.data.toList.length := hlt
        have q1 : (0 : Int) ≤ (p : Int) := by omega
        have q2 : (p : Int) < (s.size : Int) := by omega
        have d1 : decide ((p : Int) < (s.size : Int)) = true := decide_eq_true (by omega)
        have f2 := Lib.hid fun W => implIsParam s[p] W
        by_cases b1 : 48 ≤ s[p].toNat ∧ s[p].toNat ≤ 50
        · have HR2 := Lib.hid ((digF_at (n := n) hll).symm.trans HR.out)
          rw [show s.data.toList[p] = s[p] from rfl, if_pos b1] at HR2
          have hmx : max (n : Int) (((s[p].toNat - 48 : Nat) : Int) + 1) = ((max n (s[p].toNat - 47) : Nat) : Int) := by omega
          have hmx2 : max n (s[p].toNat - 47) ≤ 208 := by omega
          have f3 := Lib.hid fun W => implParamOf s[p] W b1.1
          rw [decide_eq_true b1] at f2
          clear HR b1
          go_wp2_with fail
          (with_reducible refine (f2.out _).mono ?_); rintro e w1 ⟨rfl, rfl⟩
          go_wp2_with fail
          (with_reducible refine (f3.out _).mono ?_); rintro e w1 ⟨rfl, rfl⟩
          go_wp2
          go_roundw
          case rel => exact ⟨max n (s[p].toNat - 47), p + 1, by omega, hmx2, by simp <;> omega, by go_num, trivial, HR2.out⟩
          case measure => simp [intOf]; omega
        · have HR2 := Lib.hid ((digF_at (n := n) hll).symm.trans HR.out)
          rw [show s.data.toList[p] = s[p] from rfl, if_neg b1] at HR2
          rw [decide_eq_false b1] at f2
          clear HR b1
          go_wp2_with fail
          (with_reducible refine (f2.out _).mono ?_); rintro e w1 ⟨rfl, rfl⟩
          go_wp2
          go_roundw
          case rel => exact ⟨n, p + 1, by omega, hn, rfl, by go_num, trivial, HR2.out⟩
          case measure => simp [intOf]; omega
      · have d1 : decide ((p : Int) < (s.size : Int)) = false := decide_eq_false (by omega)
        have HE : Hid (digF 0 s.data.toList = n) := by
          rw [Hid, ← HR.out, List.drop_eq_nil_of_le (by show s.size ≤ p; omega)]; rfl
        clear HR
        go_wp2
        go_ret
        rw [HE.out]
        exact ⟨rfl, rfl⟩
  · have HE : Hid (levelParams s.data.toList = 0) := if_neg hok
    rw [Bool.not_eq_true] at hok
    rw [hok] at f1
    clear hok hls
    go_enter Tryd.func82, Tryd.ntmps82
    go_wp2_with fail
    (with_reducible refine (f1.out _).mono ?_); rintro e w1 ⟨rfl, rfl⟩
    go_wp2
    go_ret
    rw [HE.out]
    exact ⟨rfl, rfl⟩
end Go.Proofs.YtnklajagefedmaaDoor

namespace Go.Proofs.YtnklajagefedmaaDoor
set_option maxRecDepth 100000
open Go.ChangeShapes Go.WideShapes Go.ChangeAt Go.RowKit
set_option linter.unusedSimpArgs false
set_option linter.unusedVariables false

def maxP (ts : List Tm) : Nat := ts.foldl (fun m p => max m p.params) 0
theorem maxP_take {ts : List Tm} {k : Nat} (h : k < ts.length) : maxP (ts.take (k + 1)) = max (maxP (ts.take k)) ts[k].params := by
  rw [maxP, List.take_succ_eq_append_getElem h, List.foldl_append]
  rfl
def maxL (ls : List (List UInt8)) : Nat := ls.foldl (fun m l => max m (levelParams l)) 0
theorem maxL_take {ls : List (List UInt8)} {k : Nat} (h : k < ls.length) : maxL (ls.take (k + 1)) = max (maxL (ls.take k)) (levelParams ls[k]) := by
  rw [maxL, List.take_succ_eq_append_getElem h, List.foldl_append]
  rfl
theorem params_parts {t : Tm} (h1 : ∀ l, t ≠ .sort l) (h2 : ∀ n ls, t ≠ .const n ls) : t.params = maxP t.parts := by
  cases t with
  | var n => rfl
  | sort l => exact absurd rfl (h1 l)
  | const n ls => exact absurd rfl (h2 n ls)
  | app f a => simp only [Tm.params, Tm.parts, maxP, List.foldl_cons, List.foldl_nil]; omega
  | lam f a => simp only [Tm.params, Tm.parts, maxP, List.foldl_cons, List.foldl_nil]; omega
  | pi f a => simp only [Tm.params, Tm.parts, maxP, List.foldl_cons, List.foldl_nil]; omega
  | lett f a b => simp only [Tm.params, Tm.parts, maxP, List.foldl_cons, List.foldl_nil]; omega
theorem Tm.parts_oks (t : Tm) (h : t.Ok) : ∀ p ∈ t.parts, p.Ok := by
  cases t with
  | var _ => intro p hp; simp [Tm.parts] at hp
  | sort _ => intro p hp; simp [Tm.parts] at hp
  | const _ _ => intro p hp; simp [Tm.parts] at hp
  | app a b => intro p hp; simp only [Tm.parts, List.mem_cons, List.not_mem_nil, or_false] at hp; exact hp.elim (fun e => e ▸ h.1) (fun e => e ▸ h.2)
  | lam a b => intro p hp; simp only [Tm.parts, List.mem_cons, List.not_mem_nil, or_false] at hp; exact hp.elim (fun e => e ▸ h.1) (fun e => e ▸ h.2)
  | pi a b => intro p hp; simp only [Tm.parts, List.mem_cons, List.not_mem_nil, or_false] at hp; exact hp.elim (fun e => e ▸ h.1) (fun e => e ▸ h.2)
  | lett a b c => intro p hp; simp only [Tm.parts, List.mem_cons, List.not_mem_nil, or_false] at hp; exact hp.elim (fun e => e ▸ h.1) (fun hp => hp.elim (fun e => e ▸ h.2.1) (fun e => e ▸ h.2.2))
theorem IRep.notLevels {W : World} {t : Tm} {v : Value} (h : IRep W t v) (h1 : ∀ l, t ≠ .sort l) (h2 : ∀ n ls, t ≠ .const n ls) : ∃ T x, v = .iface T x ∧ T ≠ 112 ∧ T ≠ 58 := by
  cases t with
  | sort l => exact absurd rfl (h1 l)
  | const n ls => exact absurd rfl (h2 n ls)
  | var _ => obtain ⟨_, h, _⟩ := h; exact ⟨_, _, h, by decide, by decide⟩
  | app _ _ => obtain ⟨_, _, _, h, _⟩ := h; exact ⟨_, _, h, by decide, by decide⟩
  | lam _ _ => obtain ⟨_, _, _, h, _⟩ := h; exact ⟨_, _, h, by decide, by decide⟩
  | pi _ _ => obtain ⟨_, _, _, h, _⟩ := h; exact ⟨_, _, h, by decide, by decide⟩
  | lett _ _ _ => obtain ⟨_, _, _, _, h, _⟩ := h; exact ⟨_, _, h, by decide, by decide⟩
set_option maxHeartbeats 4000000 in
theorem implParamsOf : ∀ (n : Nat) (t : Tm) (v : Value) (W : World), t.size ≤ n → t.Ok → IRep W t v →
    Calls Tryd.prog 67 #[v] W fun e W' => e = .returned (.int .i64 (t.params : Int)) ∧ Below W.heap.size W W' := by
  intro n
  induction n with
  | zero => intro t v W h _ _; have := t.size_pos; omega
  | succ n ih =>
    intro t v W hn hok h
    by_cases h1 : ∀ l, t ≠ .sort l
    rotate_left
    · obtain ⟨l, rfl⟩ : ∃ l, t = .sort l := Classical.byContradiction fun hc => h1 fun l e => hc ⟨l, e⟩
      obtain ⟨g, rfl, hg⟩ := h
      have h60 := (levelOk_len (show levelOk l = true from hok)).1
      have c0 : W.cell? ⟨g, 0, none⟩ = some (.string ⟨l.toArray⟩) := by rw [Lib.cell_of_heap hg]; rfl
      have aSort : ∀ v w, (Instr.typeAssert (.iface 112 v) 51 112 true).run Tryd.prog w = .ok (.tuple #[v, .bool true]) w := fun v w => by rw [taSort, if_pos rfl]
      have f1 := Lib.hid (implLevelParams ⟨l.toArray⟩ W (by simp only [maxLen, ByteArray.size, List.size_toArray]; omega))
      show Calls _ _ _ _ fun e W' => e = .returned (.int .i64 (levelParams l : Int)) ∧ _
      simp only at f1
      generalize levelParams l = r at f1
      clear hg ih h1 hok
      go_enter Tryd.func67, Tryd.ntmps67
      go_wp2_with fail
      (with_reducible refine f1.out.mono ?_); rintro e w1 ⟨rfl, rfl⟩
      go_wp2
      go_ret
      exact ⟨rfl, Below.refl _ _⟩
    by_cases h2 : ∀ m ls, t ≠ .const m ls
    rotate_left
    · obtain ⟨m, ls, rfl⟩ : ∃ m ls, t = .const m ls := Classical.byContradiction fun hc => h2 fun m ls e => hc ⟨m, ls, e⟩
      obtain ⟨g, u, rfl, hg, hu⟩ := h
      obtain ⟨ua, uc, rfl⟩ := row_slice hu
      have hls3 : ls.length ≤ 3 := hok.2.1
      have h60 : ∀ x ∈ ls, x.length ≤ 60 := fun x hxm => (levelOk_len (hok.2.2 x hxm)).1
      have c1 : W.cell? ⟨g, 1, none⟩ = some (.slice ua ls.length uc) := by rw [Lib.cell_of_heap hg]; rfl
      have aSort : ∀ v w, (Instr.typeAssert (.iface 58 v) 51 112 true).run Tryd.prog w = .ok (.tuple #[.pointer none, .bool false]) w := fun v w => by rw [taSort, if_neg (by decide)]
      have aConst : ∀ v w, (Instr.typeAssert (.iface 58 v) 51 58 true).run Tryd.prog w = .ok (.tuple #[v, .bool true]) w := fun v w => by rw [taConst, if_pos rfl]
      have f1 := Lib.hid fun (l : List UInt8) (hl : l ∈ ls) => implLevelParams ⟨l.toArray⟩ W (by have := h60 l hl; simp only [maxLen, ByteArray.size, List.size_toArray]; omega)
      simp only at f1
      show Calls _ _ _ _ fun e W' => e = .returned (.int .i64 (maxL ls : Int)) ∧ _
      have HU := Lib.hid hu
      clear hg ih h1 h2 hok hu
      go_enter Tryd.func67, Tryd.ntmps67
      go_wp2
      go_loopw [3, 27] (fun s i wr => ∃ k : Nat, k ≤ ls.length ∧ i = .int .i64 k ∧ (∃ m : Nat, s = .int .i64 (m : Int) ∧ Hid (m = maxL (ls.take k))) ∧ wr = W) (fun _ i _ => ls.length - (intOf i).toNat)
      case atStart => exact ⟨0, Nat.zero_le _, rfl, ⟨0, rfl, rfl⟩, rfl⟩
      case round =>
        obtain ⟨k, hk, rfl, ⟨m2, rfl, HM⟩, rfl⟩ := hrel
        by_cases hlt : k < ls.length
        · obtain ⟨g', cap', e0, _, hgl⟩ := HU.out.form (by omega)
          cases e0
          have ex : (ls.map sv)[k]? = some (sv ls[k]) := by simp [hlt]
          have cc := (HU.out.cellAt k (by omega)).trans ex
          unfold sv at cc
          have q1 : (0 : Int) ≤ (k : Int) := by omega
          have q2 : (k : Int) < (ls.length : Int) := by omega
          have f2 := Lib.hid (f1.out ls[k] (List.getElem_mem hlt))
          have HM2 : Hid (max m2 (levelParams ls[k]) = maxL (ls.take (k + 1))) := by rw [Hid, maxL_take hlt, HM.out]
          clear ex HM
          generalize levelParams ls[k] = x at f2 HM2
          generalize ls[k] = lk at cc f2
          go_wp2_with fail
          (with_reducible refine f2.out.mono ?_); rintro e w1 ⟨rfl, rfl⟩
          go_wp2
          go_roundw
          case rel => exact ⟨k + 1, by omega, by go_num, ⟨max m2 x, by rw [show ((max m2 x : Nat) : Int) = max (m2 : Int) (x : Int) by omega], HM2.out⟩, trivial⟩
          case measure => simp [intOf]; omega
        · have HE : Hid (m2 = maxL ls) := by rw [Hid, HM.out, List.take_of_length_le (by omega)]
          have dk : decide ((k : Int) < (ls.length : Int)) = false := decide_eq_false (by omega)
          clear HM f1 HU
          go_wp2
          go_ret
          rw [HE.out]
          exact ⟨rfl, Below.refl _ _⟩
    obtain ⟨T, x, rfl, hT1, hT2⟩ := h.notLevels h1 h2
    have aSort : ∀ w, (Instr.typeAssert (.iface T x) 51 112 true).run Tryd.prog w = .ok (.tuple #[.pointer none, .bool false]) w := fun w => by rw [taSort, if_neg hT1]
    have aConst : ∀ w, (Instr.typeAssert (.iface T x) 51 58 true).run Tryd.prog w = .ok (.tuple #[.pointer none, .bool false]) w := fun w => by rw [taConst, if_neg hT2]
    have f1 := Lib.hid (implPartsOf h)
    unfold PartsAns at f1
    have hl3 := t.parts_le
    have IH : Hid (∀ p ∈ t.parts, ∀ (v : Value) (W : World), IRep W p v → Calls Tryd.prog 67 #[v] W fun e W' => e = .returned (.int .i64 (p.params : Int)) ∧ Below W.heap.size W W') :=
      fun p hp v W hr => ih p v W (by have := t.parts_size p hp; omega) (t.parts_oks hok p hp) hr
    rw [params_parts h1 h2]
    generalize t.parts = ts at f1 hl3 IH ⊢
    clear h ih h1 h2 hok hT1 hT2 hn
    go_enter Tryd.func67, Tryd.ntmps67
    go_wp2_with fail
    (with_reducible refine f1.out.mono ?_); rintro e w1 ⟨u, vs, rfl, hu, hrs, hb⟩
    obtain ⟨ua, uc, rfl⟩ := row_slice hu
    have hvl := hrs.len
    have HU := Lib.hid hu
    have HRS := Lib.hid hrs
    have HB := Lib.hid hb
    clear hu hrs hb f1
    go_wp2
    go_loopw [3, 40] (fun s i wr => ∃ k : Nat, k ≤ ts.length ∧ i = .int .i64 k ∧ (∃ m : Nat, s = .int .i64 (m : Int) ∧ Hid (m = maxP (ts.take k))) ∧ Below w1.heap.size w1 wr) (fun _ i _ => ts.length - (intOf i).toNat)
    case atStart => exact ⟨0, Nat.zero_le _, rfl, ⟨0, rfl, rfl⟩, Below.refl _ _⟩
    case round =>
      obtain ⟨k, hk, rfl, ⟨m, rfl, hmm⟩, hbr⟩ := hrel
      by_cases hlt : k < ts.length
      · have hu2 := own_below HU.out hbr
        obtain ⟨g, cap', e0, _, hgl⟩ := hu2.form (by omega)
        cases e0
        have ex : vs[k]? = some vs[k] := by simp [hvl, hlt]
        have cc := (hu2.cellAt k (by omega)).trans ex
        have f2 := Lib.hid (IH.out ts[k] (List.getElem_mem hlt) vs[k] wr ((HRS.out.below hbr).at k hlt (by omega)))
        have HBR := Lib.hid hbr
        have q1 : (0 : Int) ≤ (k : Int) := by omega
        have q2 : (k : Int) < (ts.length : Int) := by omega
        have HM2 : Hid (max m ts[k].params = maxP (ts.take (k + 1))) := by rw [Hid, maxP_take hlt, hmm.out]
        generalize ts[k].params = x at f2 HM2
        generalize vs[k] = vk at cc f2
        clear ex hu2 hbr hmm
        go_wp2_with fail
        (with_reducible refine f2.out.mono ?_); rintro e w2 ⟨rfl, hb2⟩
        have HB2 := Lib.hid (HBR.out.trans (hb2.mono HBR.out.size))
        clear hb2 HBR
        go_wp2
        go_roundw
        case rel => exact ⟨k + 1, by omega, by go_num, ⟨max m x, by rw [show ((max m x : Nat) : Int) = max (m : Int) (x : Int) by omega], HM2.out⟩, HB2.out⟩
        case measure => simp [intOf]; omega
      · have HE : Hid (m = maxP ts) := by rw [Hid, hmm.out, List.take_of_length_le (by omega)]
        have HB2 := Lib.hid (HB.out.trans (hbr.mono HB.out.size))
        have d1 : decide ((k : Int) < (ts.length : Int)) = false := decide_eq_false (by omega)
        clear hbr hmm
        go_wp2
        go_ret
        rw [HE.out]
        exact ⟨rfl, HB2.out⟩

set_option maxHeartbeats 1000000 in
theorem implParamsIn (s : ByteArray) (W : World) (hv : Vars W) (hs : s.size ≤ maxLen) :
    Calls Tryd.prog 41 #[.string s] W fun e W' => e = .returned (.int .i64 (paramsIn s.data.toList : Int)) ∧ Below W.heap.size W W' := by
  have f1 := Lib.hid (implReadTerm s W hv hs)
  clear hv hs
  go_enter Tryd.func41, Tryd.ntmps41
  go_wp2_with fail
  (with_reducible refine f1.out.mono ?_); rintro e w1 ⟨hb, ⟨t, v, ht, rfl, hr⟩ | ⟨hno, rfl⟩⟩
  · have HB := Lib.hid hb
    have HE : Hid (paramsIn s.data.toList = t.params) := by rw [Hid, paramsIn, termOf_some ht]
    have f2 := Lib.hid (implParamsOf t.size t v w1 (Nat.le_refl _) ht.1 hr)
    obtain ⟨T, x, rfl⟩ := hr.iface
    clear hb ht hr f1
    generalize t.params = z at f2 HE
    go_wp2_with fail
    (with_reducible refine f2.out.mono ?_); rintro e w2 ⟨rfl, hb2⟩
    have HB2 := Lib.hid (HB.out.trans (hb2.mono HB.out.size))
    clear hb2
    go_wp2
    go_ret
    rw [HE.out]
    exact ⟨rfl, HB2.out⟩
  · have HB := Lib.hid hb
    have HE : Hid (paramsIn s.data.toList = 0) := by rw [Hid, paramsIn, termOf_none hno]
    clear hb hno f1
    go_wp2
    go_ret
    rw [HE.out]
    exact ⟨rfl, HB.out⟩
end Go.Proofs.YtnklajagefedmaaDoor
