/-
  The contract of spec.l06Read at a node of three parts.
-/
import Derived.Test.YtgielbamebjjdaaGreatDoorTReadL
namespace Go.Proofs.YtgielbamebjjdaaGreatDoor
set_option maxRecDepth 100000
open Go.ChangeShapes Go.WideShapes Go.ChangeAt Go.RowKit
set_option linter.unusedSimpArgs false

theorem kind_lett {t : Tm} (h : t.kind = 116) : ∃ f a b, t = .lett f a b := by
  cases t with
  | lett f a b => exact ⟨f, a, b, rfl⟩
  | _ => exact absurd h (by simp only [Tm.kind]; decide)
theorem lett_split {l r : List UInt8} {p : Nat} {f a b : Tm} (h : Tat (l.drop p) (.lett f a b) r) :
    Tat (l.drop (p + 1)) f (a.bytes ++ (b.bytes ++ r)) ∧ Tat (l.drop (p + 1 + f.bytes.length)) a (b.bytes ++ r) ∧ Tat (l.drop (p + 1 + f.bytes.length + a.bytes.length)) b r := by
  have h2 : l.drop (p + 1) = f.bytes ++ (a.bytes ++ (b.bytes ++ r)) := by
    rw [tat_tail h (x := f.bytes ++ (a.bytes ++ b.bytes)) rfl]
    simp
  have h3 := drop_part h2
  exact ⟨⟨h.1.1, h2⟩, ⟨h.1.2.1, h3⟩, h.1.2.2, drop_part h3⟩
theorem lett_join {l r1 r2 r : List UInt8} {p : Nat} {f a b : Tm} (hp : p < l.length) (hc : l[p] = 116) (h1 : Tat (l.drop (p + 1)) f r1) (h2 : Tat (l.drop (p + 1 + f.bytes.length)) a r2) (h3 : Tat (l.drop (p + 1 + f.bytes.length + a.bytes.length)) b r) : Tat (l.drop p) (.lett f a b) r := by
  refine ⟨⟨h1.1, h2.1, h3.1⟩, ?_⟩
  have e := drop_part h1.2
  have e2 := drop_part h2.2
  rw [List.drop_eq_getElem_cons hp, hc, Tm.bytes, h1.2, ← e, h2.2, ← e2, h3.2]
  simp
theorem lett_no1 {l : List UInt8} {p : Nat} (hp : p < l.length) (hc : l[p] = 116) (h : ∀ t r, ¬ Tat (l.drop (p + 1)) t r) : ∀ t r, ¬ Tat (l.drop p) t r := fun t r ht => by
  obtain ⟨f, a, b, rfl⟩ := kind_lett ((tat_head hp ht).trans hc)
  exact h f _ (lett_split ht).1
theorem lett_no2 {l r1 : List UInt8} {p : Nat} {f : Tm} (hp : p < l.length) (hc : l[p] = 116) (h1 : Tat (l.drop (p + 1)) f r1) (h : ∀ t r, ¬ Tat (l.drop (p + 1 + f.bytes.length)) t r) : ∀ t r, ¬ Tat (l.drop p) t r := fun t r ht => by
  obtain ⟨f', a, b, rfl⟩ := kind_lett ((tat_head hp ht).trans hc)
  obtain ⟨h2, h3, _⟩ := lett_split ht
  obtain ⟨rfl, _⟩ := h1.uniq h2
  exact h a _ h3
theorem lett_no3 {l r1 r2 : List UInt8} {p : Nat} {f a : Tm} (hp : p < l.length) (hc : l[p] = 116) (h1 : Tat (l.drop (p + 1)) f r1) (h2 : Tat (l.drop (p + 1 + f.bytes.length)) a r2) (h : ∀ t r, ¬ Tat (l.drop (p + 1 + f.bytes.length + a.bytes.length)) t r) : ∀ t r, ¬ Tat (l.drop p) t r := fun t r ht => by
  obtain ⟨f', a', b, rfl⟩ := kind_lett ((tat_head hp ht).trans hc)
  obtain ⟨h3, h4, h5⟩ := lett_split ht
  obtain ⟨rfl, _⟩ := h1.uniq h3
  obtain ⟨rfl, _⟩ := h2.uniq h4
  exact h b _ h5

set_option maxHeartbeats 8000000 in
theorem readThree (s : ByteArray) (p : Nat) (W : World) {v : Value} {ns : List Nd} {B cb : Nat} (h : NSt B cb W v ns) (hs : s.size ≤ 100000) (hp : p < s.size) (hn : ns.length ≤ p) (hc : s[p] = 116)
    (IH : ∀ p', p < p' → p' ≤ s.size → ∀ (W : World) (v : Value) (ns : List Nd), NSt B cb W v ns → ns.length ≤ p' → Calls Tryz.prog 114 #[.string s, .int .i64 (p' : Int), .pointer (some ⟨cb, 0, none⟩)] W (ReadPost s.data.toList p' B cb W v ns)) :
    Calls Tryz.prog 114 #[.string s, .int .i64 (p : Int), .pointer (some ⟨cb, 0, none⟩)] W (ReadPost s.data.toList p B cb W v ns) := by
  have hls : Hid (s.data.toList.length = s.size) := rfl
  have HIH := Lib.hid IH
  clear IH
  have HC : Hid (s.data.toList[p]'hp = 116) := hc
  have e0 : ((s[p].toNat : Int) == 64) = false := ne_byte (d := 64) (by rw [hc]; decide)
  have e00 : ((s[p].toNat : Int) == 108) = false := ne_byte (d := 108) (by rw [hc]; decide)
  have e000 : ((s[p].toNat : Int) == 112) = false := ne_byte (d := 112) (by rw [hc]; decide)
  have e1 : ((s[p].toNat : Int) == 116) = true := is_byte hc
  have e9 : (s[p].toNat : Int) = 116 := by rw [hc]; rfl
  have d1 : decide ((s.size : Int) ≤ (p : Int)) = false := decide_eq_false (by omega)
  have d1n : decide (s.size ≤ p) = false := decide_eq_false (by omega)
  have q1 : (0 : Int) ≤ (p : Int) := by omega
  have q2 : (p : Int) < (s.size : Int) := by omega
  clear hc
  have HH := Lib.hid h
  have zB := h.lt
  have zL := h.le
  have hcb : W.heap.size ≠ cb := by omega
  have hv0 : v.ownBlock ≠ some W.heap.size := fun e => by have := (h.row.lt _ e).2; omega
  have hb0 := (Below.refl W.heap.size W).alloc (Nat.le_refl _) (.cells #[.int .u8 116, .int .i64 0, .int .i64 0, .int .i64 0, .int .i64 0, .string ⟨#[]⟩, .slice none 0 0] 93)
  have hst0 := h.below hb0
  have hbx0 : NBox W.heap.size (W.alloc (.cells #[.int .u8 116, .int .i64 0, .int .i64 0, .int .i64 0, .int .i64 0, .string ⟨#[]⟩, .slice none 0 0] 93)) 116 0 0 0 := heap_alloc_new W _
  have K0 := KeepN.below (B := B) (cb := cb) (v := v) hb0
  have f1 := HIH.out (p + 1) (by omega) (by omega) _ v ns hst0 (by omega)
  rw [show ((p + 1 : Nat) : Int) = (p : Int) + 1 by omega] at f1
  have F1 := Lib.hid f1
  clear f1 h hb0
  obtain ⟨n0, n1, n2, n3, n4, n5, n6⟩ := hbx0.cells
  have HK0 := Lib.hid K0
  have HBX0 := Lib.hid hbx0
  clear K0 hbx0
  go_enter Tryz.func114, Tryz.ntmps114
  go_wp2_with fail
  refine wp_loop_rounds 4 ?_
  rw [rounds_succ]
  go_wp2_with fail
  (with_reducible refine F1.out.mono ?_); rintro e W1 ⟨v1, ns1, hst1, hkn1, hks1, hext1, (⟨t1, r1, ht1, hlen1, hrep1, he⟩ | ⟨hno, rfl⟩)⟩
  rotate_left
  · have HN := Lib.hid (lett_no1 hp HC.out hno)
    have HK := Lib.hid (HK0.out.trans hkn1)
    have HS1 := Lib.hid hst1
    have HE := Lib.hid hext1
    clear hno hst1 hkn1 hks1 hext1 hst0
    go_wp2
    go_ret2
    exact ⟨v1, ns1, HS1.out, HK.out, HK.out.strs HH.out, HE.out, .inr ⟨HN.out, rfl⟩⟩
  have hsz1 := t1.size_pos
  obtain ⟨j1, hj1⟩ : ∃ j, ns1.length = j + 1 := ⟨ns1.length - 1, by omega⟩
  have hln1 := congrArg List.length ht1.2
  rw [List.length_append, List.length_drop, hls.out] at hln1
  have hsl1 := t1.size_le
  rw [show ((ns1.length : Int) - 1) = (j1 : Int) by omega] at he
  obtain ⟨m1, hm1⟩ : ∃ m, p + 1 + t1.bytes.length = m := ⟨_, rfl⟩
  rw [hm1] at he
  have hm1s : m1 ≤ s.size := by omega
  have hm1n : ns1.length ≤ m1 := by omega
  have hm1p : p < m1 := by omega
  have dm1 : decide ((m1 : Int) < 0) = false := decide_eq_false (by omega)
  have HM1 := Lib.hid hm1
  have HLEN1 := Lib.hid hlen1
  have HT1 := Lib.hid ht1
  rw [show ns1.length - 1 = j1 by omega] at hrep1
  have HREP1 := Lib.hid hrep1
  have HJ1 := Lib.hid hj1
  obtain ⟨hbx1, ho1⟩ := hkn1.nbox HBX0.out hcb hv0
  have HBX1 := Lib.hid hbx1
  have HB1' := Lib.hid (hbx1.set1 j1)
  have HS1 := Lib.hid (hst1.setOther (i := 1) hcb ho1 (.int .i64 (j1 : Int)))
  have HK1 := Lib.hid ((HK0.out.trans hkn1).setOther (i := 1) (Nat.le_refl _) (.int .i64 (j1 : Int)))
  have HE1 := Lib.hid hext1
  have HKS1 := Lib.hid (KeepS.set (B := B) (i := 1) hbx1 (.int .i64 (j1 : Int)))
  obtain ⟨a0, a1, a2, a3, a4, a5, a6⟩ := hbx1.cells
  have b1 := hbx1.frozen 1
  have f2 := Lib.hid (HIH.out m1 hm1p hm1s _ v1 ns1 HS1.out hm1n)
  clear hsz1 hj1 hln1 hsl1 hm1 hlen1 ht1 hrep1 hkn1 hks1 hst1 hext1 hst0 n0 n1 n2 n3 n4 n5 n6 F1 hbx1
  subst he
  go_wp2_with fail
  rw [rounds_succ]
  go_wp2_with fail
  (with_reducible refine f2.out.mono ?_); rintro e W2 ⟨v2, ns2, hst2, hkn2, hks2, hext2, (⟨t2, r2, ht2, hlen2, hrep2, he⟩ | ⟨hno, rfl⟩)⟩
  rotate_left
  · have HN := Lib.hid (lett_no2 hp HC.out HT1.out (by rw [HM1.out]; exact hno))
    have HK := Lib.hid (HK1.out.trans hkn2)
    have HS2 := Lib.hid hst2
    have HE := Lib.hid (HE1.out.trans hext2)
    clear hno hst2 hkn2 hks2 hext2
    go_wp2
    go_ret2
    exact ⟨v2, ns2, HS2.out, HK.out, HK.out.strs HH.out, HE.out, .inr ⟨HN.out, rfl⟩⟩
  have hsz2 := t2.size_pos
  obtain ⟨j2, hj2⟩ : ∃ j, ns2.length = j + 1 := ⟨ns2.length - 1, by omega⟩
  have hln2 := congrArg List.length ht2.2
  rw [List.length_append, List.length_drop, hls.out] at hln2
  have hsl2 := t2.size_le
  rw [show ((ns2.length : Int) - 1) = (j2 : Int) by omega] at he
  obtain ⟨m2, hm2⟩ : ∃ m, m1 + t2.bytes.length = m := ⟨_, rfl⟩
  rw [hm2] at he
  have hm2s : m2 ≤ s.size := by omega
  have hm2n : ns2.length ≤ m2 := by omega
  have dm2 : decide ((m2 : Int) < 0) = false := decide_eq_false (by omega)
  have HM2 := Lib.hid hm2
  have HLEN2 := Lib.hid hlen2
  have HT2 := Lib.hid ht2
  rw [show ns2.length - 1 = j2 by omega] at hrep2
  have HREP2 := Lib.hid hrep2
  have HJ2 := Lib.hid hj2
  obtain ⟨hbx2, ho2⟩ := hkn2.nbox HB1'.out hcb ho1
  have HB2' := Lib.hid (hbx2.set2 j2)
  have HS2 := Lib.hid (hst2.setOther (i := 2) hcb ho2 (.int .i64 (j2 : Int)))
  have HK2 := Lib.hid ((HK1.out.trans hkn2).setOther (i := 2) (Nat.le_refl _) (.int .i64 (j2 : Int)))
  have HE2 := Lib.hid (HE1.out.trans hext2)
  have HKS2 := Lib.hid ((HKS1.out.trans hks2).trans (KeepS.set (B := B) (i := 2) hbx2 (.int .i64 (j2 : Int))))
  have HKS3 := Lib.hid (KeepS.set (B := B) (i := 2) hbx2 (.int .i64 (j2 : Int)))
  have HX2 := Lib.hid hext2
  obtain ⟨a0', a1', a2', a3', a4', a5', a6'⟩ := hbx2.cells
  have b2 := hbx2.frozen 2
  have hm2p : p < m2 := by have := HM1.out; omega
  have f3 := Lib.hid (HIH.out m2 hm2p hm2s _ v2 ns2 HS2.out hm2n)
  clear hsz2 hj2 hln2 hsl2 hm2 hlen2 ht2 hrep2 hkn2 hks2 hst2 hext2 hbx2 f2 a0 a1 a2 a3 a4 a5 a6
  subst he
  go_wp2_with fail
  rw [rounds_succ]
  go_wp2_with fail
  (with_reducible refine f3.out.mono ?_); rintro e W3 ⟨v3, ns3, hst3, hkn3, hks3, hext3, (⟨t3, r3, ht3, hlen3, hrep3, he⟩ | ⟨hno, rfl⟩)⟩
  rotate_left
  · have HN := Lib.hid (lett_no3 hp HC.out HT1.out (by rw [HM1.out]; exact HT2.out) (by rw [HM1.out, HM2.out]; exact hno))
    have HK := Lib.hid (HK2.out.trans hkn3)
    have HS3 := Lib.hid hst3
    have HE := Lib.hid (HE2.out.trans hext3)
    clear hno hst3 hkn3 hks3 hext3
    go_wp2
    go_ret2
    exact ⟨v3, ns3, HS3.out, HK.out, HK.out.strs HH.out, HE.out, .inr ⟨HN.out, rfl⟩⟩
  have hsz3 := t3.size_pos
  obtain ⟨j3, hj3⟩ : ∃ j, ns3.length = j + 1 := ⟨ns3.length - 1, by omega⟩
  have hln3 := congrArg List.length ht3.2
  rw [List.length_append, List.length_drop, hls.out] at hln3
  have hsl3 := t3.size_le
  rw [show ((ns3.length : Int) - 1) = (j3 : Int) by omega] at he
  obtain ⟨m3, hm3⟩ : ∃ m, m2 + t3.bytes.length = m := ⟨_, rfl⟩
  rw [hm3] at he
  have hm3s : m3 ≤ s.size := by omega
  have hm3n : ns3.length ≤ m3 := by omega
  have dm3 : decide ((m3 : Int) < 0) = false := decide_eq_false (by omega)
  have HM3 := Lib.hid hm3
  have HLEN3 := Lib.hid hlen3
  have HJ3 := Lib.hid hj3
  have HT3 := Lib.hid ht3
  rw [show ns3.length - 1 = j3 by omega] at hrep3
  have HREP3 := Lib.hid hrep3
  obtain ⟨hbx3, ho3⟩ := hkn3.nbox HB2'.out hcb ho2
  have hbx4 := hbx3.set3 j3
  have hst4 := hst3.setOther (i := 3) hcb ho3 (.int .i64 (j3 : Int))
  have HK4 := Lib.hid ((HK2.out.trans hkn3).setOther (i := 3) (Nat.le_refl _) (.int .i64 (j3 : Int)))
  have HE4 := Lib.hid (HE2.out.trans hext3)
  have HKS4 := Lib.hid (KeepS.set (B := B) (i := 3) hbx3 (.int .i64 (j3 : Int)))
  have HKA := Lib.hid ((HKS2.out.trans hks3).trans HKS4.out)
  have HKB := Lib.hid ((HKS3.out.trans hks3).trans HKS4.out)
  have HX3 := Lib.hid hext3
  obtain ⟨c0, c1, c2, c3, c4, c5, c6⟩ := hbx3.cells
  have b4 := hbx3.frozen 3
  have hsz : W.heap.size < (W3.setCell ⟨W.heap.size, 3, none⟩ (.int .i64 (j3 : Int))).heap.size := (Array.getElem?_eq_some_iff.1 hbx4).1
  obtain ⟨g0, g1, g2, g3, g4, g5, g6⟩ := hbx4.cells
  obtain ⟨i0, hi, hz0, hz1, hz2⟩ := info_parts infoNode
  obtain ⟨la, lc, rfl⟩ := own_sliceN hst4.row
  have b3 := (Below.refl (W3.setCell ⟨W.heap.size, 3, none⟩ (.int .i64 (j3 : Int))).heap.size (W3.setCell ⟨W.heap.size, 3, none⟩ (.int .i64 (j3 : Int)))).alloc (Nat.le_refl _) (.cells #[.int .u8 116, .int .i64 (j1 : Int), .int .i64 (j2 : Int), .int .i64 (j3 : Int), .int .i64 0, .string ⟨#[]⟩, .slice none 0 0] 93)
  have hst5 := hst4.below b3
  have k0 := (b3.cell (p := ⟨W.heap.size, 0, none⟩) hsz).trans g0
  have k1 := (b3.cell (p := ⟨W.heap.size, 1, none⟩) hsz).trans g1
  have k2 := (b3.cell (p := ⟨W.heap.size, 2, none⟩) hsz).trans g2
  have k3 := (b3.cell (p := ⟨W.heap.size, 3, none⟩) hsz).trans g3
  have k4 := (b3.cell (p := ⟨W.heap.size, 4, none⟩) hsz).trans g4
  have k5 := (b3.cell (p := ⟨W.heap.size, 5, none⟩) hsz).trans g5
  have k6 := (b3.cell (p := ⟨W.heap.size, 6, none⟩) hsz).trans g6
  have cb3 := hst4.cell
  have cb4 := hst5.cell
  have cf3 := hst4.froz
  have cf4 := hst5.froz
  have hown := hst4.row
  have hle1 := hst4.le
  have hnl : ns3.length ≤ 100000 := by omega
  have hcb4 : cb < ((W3.setCell ⟨W.heap.size, 3, none⟩ (.int .i64 (j3 : Int))).alloc (.cells #[.int .u8 116, .int .i64 (j1 : Int), .int .i64 (j2 : Int), .int .i64 (j3 : Int), .int .i64 0, .string ⟨#[]⟩, .slice none 0 0] 93)).drew.heap.size := Nat.lt_of_lt_of_le hst5.lt hst5.le
  have hne : some cb ≠ (Value.slice la ns3.length lc).ownBlock := fun e => hst4.ne e.symm
  have HS4 := Lib.hid hst4
  have HB4 : Hid (Below (W3.setCell ⟨W.heap.size, 3, none⟩ (.int .i64 (j3 : Int))).heap.size (W3.setCell ⟨W.heap.size, 3, none⟩ (.int .i64 (j3 : Int))) ((W3.setCell ⟨W.heap.size, 3, none⟩ (.int .i64 (j3 : Int))).alloc (.cells #[.int .u8 116, .int .i64 (j1 : Int), .int .i64 (j2 : Int), .int .i64 (j3 : Int), .int .i64 0, .string ⟨#[]⟩, .slice none 0 0] 93)).drew) := b3.drew
  clear hsz3 hj3 hln3 hsl3 hm3 hlen3 ht3 hrep3 hkn3 hks3 hst3 hext3 hbx3 hbx4 f3 hst4 hst5 b3
  subst he
  go_wp2_with fail
  rw [rounds_succ]
  go_wp2_with fail
  go_region_law (first
    | (refine step_append_lies _ (by rfl) _ _ _ (by rfl) (cb - 1) 93 i0 _ 7 80 Tryz.underlying90 hi hz0 hz1 hz2 rfl (by decide) (.slice la ns3.length lc) ns3.length _ (by rfl) ((hown.alloc _).drew)
        ⟨(W3.setCell ⟨W.heap.size, 3, none⟩ (.int .i64 (j3 : Int))).heap.size, 0, none⟩ 1 1 [.int .u8 116, .int .i64 (j1 : Int), .int .i64 (j2 : Int), .int .i64 (j3 : Int), .int .i64 0, .string ⟨#[]⟩, .slice none 0 0] (by first | rfl | simp [Act.eval]) (by rfl) (World.news_of_block (cs := #[.int .u8 116, .int .i64 (j1 : Int), .int .i64 (j2 : Int), .int .i64 (j3 : Int), .int .i64 0, .string ⟨#[]⟩, .slice none 0 0]) (t := 93) (fr := (0, 0)) (heap_alloc_new (W3.setCell ⟨W.heap.size, 3, none⟩ (.int .i64 (j3 : Int))) _)) (by simp [Value.oneCell'])
        (by decide) (by unfold maxLen; omega) (by omega) (by first | (simp; omega) | (have := hle1; simp at this ⊢; omega)) (W3.heap.size + 1) (by simp) ?_; intro g cap w6 hown6 hgrow6 hat6 hlt6
       have m0 : w6.cell? ⟨cb, 0, none⟩ = some (.slice la ns3.length lc) := (World.cell?_of_block (a := ⟨cb, 0, none⟩) (hgrow6.block cb hcb4 hne)).trans cb4
       have mf : w6.frozen? ⟨cb, 0, none⟩ = false := (World.frozen?_of_block (a := ⟨cb, 0, none⟩) (hgrow6.block cb hcb4 hne)).trans cf4))
  all_goals
    have P := HS4.out.push (g := g) (nd := ⟨116, j1, j2, j3, 0, [], .slice none 0 0⟩) HB4.out hgrow6 hown6 rfl (by rcases hat6 with h | h; exact .inl h; exact .inr (by rw [h]; simp)) ⟨_, _, _, rfl⟩
    have PP := Lib.hid P
    clear P hown6 hgrow6 hat6
    go_wp2
    go_ret2
    have hk := HK4.out.trans PP.out.2
    have hs3 := PP.out.2.strs HS4.out
    refine ⟨_, ns3 ++ [⟨116, j1, j2, j3, 0, [], .slice none 0 0⟩], PP.out.1, hk, hk.strs HH.out, HE4.out.trans (Ext.snoc _ _), .inl ⟨.lett t1 t2 t3, r3, lett_join hp HC.out HT1.out (by rw [HM1.out]; exact HT2.out) (by rw [HM1.out, HM2.out]; exact HT3.out), ?_, ?_, ?_⟩⟩
    · rw [Tm.size, List.length_append, HLEN3.out, HLEN2.out, HLEN1.out, List.length_singleton]
      omega
    · have P1 := RepP.keep (HKA.out.trans hs3) ((HX2.out.trans HX3.out).trans (Ext.snoc _ ⟨116, j1, j2, j3, 0, [], .slice none 0 0⟩)) t1 j1 HREP1.out
      have P2 := RepP.keep (HKB.out.trans hs3) (HX3.out.trans (Ext.snoc _ ⟨116, j1, j2, j3, 0, [], .slice none 0 0⟩)) t2 j2 HREP2.out
      have P3 := RepP.keep (HKS4.out.trans hs3) (Ext.snoc _ ⟨116, j1, j2, j3, 0, [], .slice none 0 0⟩) t3 j3 HREP3.out
      have l1 := HLEN2.out
      have l2 := HLEN3.out
      have l3 := HJ1.out
      have l4 := HJ2.out
      have l5 := HJ3.out
      have hkk : (ns3 ++ [(⟨116, j1, j2, j3, 0, [], .slice none 0 0⟩ : Nd)]).length - 1 = ns3.length := by simp
      rw [hkk]
      have hget : (ns3 ++ [(⟨116, j1, j2, j3, 0, [], .slice none 0 0⟩ : Nd)])[ns3.length]? = some ⟨116, j1, j2, j3, 0, [], .slice none 0 0⟩ := by simp
      exact ⟨⟨_, hget, rfl, P1.1, P2.1, P3.1⟩, ⟨_, hget, rfl, show j3 + 1 = ns3.length by omega, show j2 + t3.size + 1 = ns3.length by omega, show j1 + t2.size + t3.size + 1 = ns3.length by omega, P1.2, P2.2, P3.2⟩⟩
    · have e1 : (Tm.lett t1 t2 t3).bytes.length = t1.bytes.length + t2.bytes.length + t3.bytes.length + 1 := by simp [Tm.bytes]; omega
      have h1 := HM1.out
      have h2 := HM2.out
      have h3 := HM3.out
      rw [show p + (Tm.lett t1 t2 t3).bytes.length = m3 by omega]
      simp
end Go.Proofs.YtgielbamebjjdaaGreatDoor
