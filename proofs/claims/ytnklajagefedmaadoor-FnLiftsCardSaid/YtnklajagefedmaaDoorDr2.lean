/-
  Plain lemmas on drawn levels: what is known of a text that is one level; no function of the program is named here.
-/
import Derived.Test.YtnklajagefedmaaDoorVPutM
namespace Go.Proofs.YtnklajagefedmaaDoor
set_option maxRecDepth 100000

def own3 : List (List UInt8) := [[117, 48], [117, 49], [117, 50]]
def zer3 : List (List UInt8) := [[122], [122], [122]]
def Reads (t : List UInt8) : Prop := ∀ n r, lend (n + 1) (t ++ r) = (lend n r).map (· + t.length)
structure LvP (t : List UInt8) : Prop where
  pos : 0 < t.length
  run : Reads t
  same : ∀ r, putF own3 (t ++ r) = t ++ putF own3 r
  zs : ∃ t', (∀ r, putF zer3 (t ++ r) = t' ++ putF zer3 r) ∧ t'.length ≤ t.length ∧ Reads t' ∧ t'.count 43 = t.count 43 ∧ 117 ∉ t'

theorem reads_z : Reads [122] := fun n r => lend_z n r
theorem reads_par {d : UInt8} (h1 : 48 ≤ d.toNat) (h2 : d.toNat ≤ 50) : Reads [117, d] := fun n r => lend_par n h1 h2 r
theorem reads_up {t : List UInt8} (h : Reads t) : Reads (43 :: t) := fun n r => by
  rw [List.cons_append, lend_up, h, Option.map_map]
  congr 1
theorem reads_two {c : UInt8} (hc : c = 109 ∨ c = 105) {a b : List UInt8} (ha : Reads a) (hb : Reads b) : Reads (c :: (a ++ b)) := fun n r => by
  rw [List.cons_append, lend_two n hc, List.append_assoc, ha, hb, Option.map_map, Option.map_map]
  congr 1
  funext x
  simp
  omega
theorem LvP.z : LvP [122] where
  pos := by decide
  run := reads_z
  same r := putF_step _ (by decide) r
  zs := ⟨[122], fun r => putF_step _ (by decide) r, Nat.le_refl _, reads_z, rfl, by decide⟩
theorem LvP.par {d : UInt8} (h1 : 48 ≤ d.toNat) (h2 : d.toNat ≤ 50) : LvP [117, d] where
  pos := by simp
  run := reads_par h1 h2
  same r := by
    have hd : d = 48 ∨ d = 49 ∨ d = 50 := by
      rcases (by omega : d.toNat = 48 ∨ d.toNat = 49 ∨ d.toNat = 50) with h | h | h
      · exact .inl (UInt8.toNat_inj.1 h)
      · exact .inr (.inl (UInt8.toNat_inj.1 h))
      · exact .inr (.inr (UInt8.toNat_inj.1 h))
    show putF own3 (117 :: d :: r) = _
    rw [putF_par]
    rcases hd with rfl | rfl | rfl <;> rfl
  zs := by
    have hd : d = 48 ∨ d = 49 ∨ d = 50 := by
      rcases (by omega : d.toNat = 48 ∨ d.toNat = 49 ∨ d.toNat = 50) with h | h | h
      · exact .inl (UInt8.toNat_inj.1 h)
      · exact .inr (.inl (UInt8.toNat_inj.1 h))
      · exact .inr (.inr (UInt8.toNat_inj.1 h))
    refine ⟨[122], fun r => ?_, by simp, reads_z, ?_, by decide⟩
    · show putF zer3 (117 :: d :: r) = _
      rw [putF_par]
      rcases hd with rfl | rfl | rfl <;> rfl
    · rcases hd with rfl | rfl | rfl <;> decide
theorem LvP.up {t : List UInt8} (h : LvP t) : LvP (43 :: t) where
  pos := by simp
  run := reads_up h.run
  same r := by rw [List.cons_append, putF_step _ (by decide), h.same]; rfl
  zs := by
    obtain ⟨t', h1, h2, h3, h4, h5⟩ := h.zs
    refine ⟨43 :: t', fun r => by rw [List.cons_append, putF_step _ (by decide), h1]; rfl, by simpa using h2, reads_up h3, by simp [h4], ?_⟩
    intro hm
    rcases List.mem_cons.1 hm with e | e
    · exact absurd e (by decide)
    · exact h5 e
theorem LvP.two {c : UInt8} (hc : c = 109 ∨ c = 105) {a b : List UInt8} (ha : LvP a) (hb : LvP b) : LvP (c :: (a ++ b)) where
  pos := by simp
  run := reads_two hc ha.run hb.run
  same r := by
    have h1 : c ≠ 117 := by rcases hc with rfl | rfl <;> decide
    rw [List.cons_append, putF_step _ h1, List.append_assoc, ha.same, hb.same]
    simp
  zs := by
    have h1 : c ≠ 117 := by rcases hc with rfl | rfl <;> decide
    have h43 : c ≠ 43 := by rcases hc with rfl | rfl <;> decide
    obtain ⟨a', a1, a2, a3, a4, a5⟩ := ha.zs
    obtain ⟨b', b1, b2, b3, b4, b5⟩ := hb.zs
    refine ⟨c :: (a' ++ b'), fun r => ?_, by simp; omega, reads_two hc a3 b3, by simp [h43, a4, b4], ?_⟩
    · rw [List.cons_append, putF_step _ h1, List.append_assoc, a1, b1]
      simp
    · intro hm
      rcases List.mem_cons.1 hm with e | e
      · exact h1 e.symm
      · rcases List.mem_append.1 e with e | e
        · exact a5 e
        · exact b5 e

theorem Reads.whole {t : List UInt8} (h : Reads t) : lend 1 t = some t.length := by
  have := h 0 []
  rw [List.append_nil, lend_zero] at this
  simpa using this
theorem Reads.ok {t : List UInt8} (h : Reads t) (hl : t.length ≤ 60) : levelOk t = true := by
  rw [levelOk, h.whole]
  simp [hl]
theorem parF_top : ∀ (l : List UInt8) (n : Nat), (∀ i (hi : i < l.length), l[i] = 117 → ∃ hj : i + 1 < l.length, 48 ≤ l[i + 1].toNat ∧ l[i + 1].toNat ≤ 50) → n ≤ 3 → parF n l ≤ 3
  | [], n, _, hn => hn
  | c :: r, n, h, hn => by
    rw [parF]
    refine parF_top r _ (fun i hi he => ?_) ?_
    · obtain ⟨hj, h2⟩ := h (i + 1) (by simpa using hi) (by simpa using he)
      exact ⟨by simpa using hj, by simpa using h2⟩
    · split
      · rename_i hc
        obtain ⟨hj, _, h3⟩ := h 0 (by simp) hc.1
        have e : r.headD 0 = (c :: r)[1] := by
          cases r with
          | nil => simp at hj
          | cons d r => rfl
        have h3' : (c :: r)[1].toNat ≤ 50 := h3
        rw [e]
        omega
      · exact hn
theorem parF_free : ∀ (l : List UInt8) (n : Nat), 117 ∉ l → parF n l = n
  | [], _, _ => rfl
  | c :: r, n, h => by
    rw [parF, if_neg (fun hc => h (by rw [hc.1]; simp))]
    exact parF_free r n fun hm => h (List.mem_cons_of_mem _ hm)
theorem levelParams_top {l : List UInt8} : levelParams l ≤ 3 := by
  unfold levelParams
  split
  · rename_i h
    exact parF_top l 0 (lend_par_at l 1 (levelOk_len h).2) (by omega)
  · omega

/-- What the law asks of two drawn levels. -/
structure TwoP (a b : List UInt8) : Prop where
  own : levelPut a own3 = some a
  zer : ∃ t, levelPut (43 :: a) zer3 = some t ∧ levelParams t = 0 ∧ levelUps t = levelUps a + 1
  ok : levelOk a = true
  end0 : levelEnd (a ++ b) 0 = a.length
  end1 : levelEnd (a ++ b) (a.length : Int) = (a.length : Int) + b.length
  ups : levelUps (109 :: (a ++ b)) = levelUps a + levelUps b
  not : levelOk (a ++ b) = false
theorem twoP {a b : List UInt8} (ha : LvP a) (hb : LvP b) (la : a.length ≤ 23) (lb : b.length ≤ 23) : TwoP a b := by
  have oka := ha.run.ok (by omega)
  have okb := hb.run.ok (by omega)
  refine ⟨?_, ?_, oka, ?_, ?_, ?_, ?_⟩
  · have e : putF own3 a = a := by have := ha.same []; rwa [List.append_nil, putF_nil, List.append_nil] at this
    rw [levelPut, if_pos, e]
    refine ⟨oka, by decide, levelParams_top, ?_, by rw [e]; omega⟩
    intro x hx
    simp only [own3, List.mem_cons, List.not_mem_nil, or_false] at hx
    rcases hx with rfl | rfl | rfl
    · exact (reads_par (d := 48) (by decide) (by decide)).ok (by decide)
    · exact (reads_par (d := 49) (by decide) (by decide)).ok (by decide)
    · exact (reads_par (d := 50) (by decide) (by decide)).ok (by decide)
  · obtain ⟨t, h1, h2, h3, h4, h5⟩ := ha.up.zs
    have e : putF zer3 (43 :: a) = t := by have := h1 []; rwa [List.append_nil, putF_nil, List.append_nil] at this
    have ht : t.length ≤ 60 := by simp at h2; omega
    have okt := h3.ok ht
    refine ⟨t, ?_, ?_, ?_⟩
    · rw [levelPut, if_pos, e]
      refine ⟨ha.up.run.ok (by simp; omega), by decide, levelParams_top, ?_, by rw [e]; exact ht⟩
      intro x hx
      simp only [zer3, List.mem_cons, List.not_mem_nil, or_false] at hx
      rcases hx with rfl | rfl | rfl <;> exact reads_z.ok (by decide)
    · rw [levelParams, if_pos okt, parF_free t 0 h5]
    · rw [levelUps, if_pos okt, levelUps, if_pos oka, h4]
      simp
  · have := ha.run 0 b
    rw [lend_zero] at this
    rw [levelEnd, if_neg (by simp; omega)]
    simp [this]
  · rw [levelEnd, if_neg (by simp; omega)]
    simp [hb.run.whole]
  · have ok2 := (reads_two (.inl rfl : (109 : UInt8) = 109 ∨ (109 : UInt8) = 105) ha.run hb.run).ok (by simp; omega)
    rw [levelUps, if_pos ok2, levelUps, if_pos oka, levelUps, if_pos okb]
    simp
  · have h1 := ha.run 0 b
    rw [lend_zero] at h1
    have hp := hb.pos
    have hne : (Option.map (· + a.length) (some 0) = some (a ++ b).length) = False := by simp; intro e; rw [e] at hp; simp at hp
    rw [levelOk, h1]
    simp only [hne, decide_false, Bool.and_false]
end Go.Proofs.YtnklajagefedmaaDoor
