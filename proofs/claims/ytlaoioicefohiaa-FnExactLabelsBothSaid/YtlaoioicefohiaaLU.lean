/-
  Contracts of slices.Grow at nil and slices.Concat at two lists of labels, of impl.united at labels and its function literal.
-/
import Derived.Test.YtlaoioicefohiaaLC
import Derived.Test.YtlaoioicefohiaaLS
import Derived.Test.YtlaoioicefohiaaGComp
import Derived.Laws.AppendOwnNone
namespace Go.Proofs.Ytlaoioicefohiaa
set_option maxRecDepth 100000
open Go.ChangeShapes Go.WideShapes Go.ChangeAt Go.RowKit
set_option linter.unusedSimpArgs false

theorem one_flatU (l : List Lbl) : ∀ u ∈ flat l, u.oneCell' = true := by
  intro u hu
  obtain ⟨x, _, hx⟩ := List.mem_flatMap.1 hu
  simp only [lcells, List.mem_cons, List.not_mem_nil, or_false] at hx
  rcases hx with rfl | rfl <;> rfl
theorem own_sliceU {w : World} {b n : Nat} {v : Value} {xs : List Value} (h : w.ownsRow b 31 2 v n xs) : ∃ a cap, v = .slice a n cap := by
  rcases h.2 with ⟨rfl, rfl⟩ | ⟨g, cap, cur, rfl, _⟩
  · exact ⟨_, _, rfl⟩
  · exact ⟨_, _, rfl⟩
theorem own_base {w : World} {b b' e s n : Nat} {v : Value} {xs : List Value} (h : w.ownsRow b e s v n xs) (hb : b' ≤ b) : w.ownsRow b' e s v n xs := by
  refine ⟨h.1, ?_⟩
  rcases h.2 with h2 | ⟨g, cap, cur, e0, h1, h2⟩
  · exact .inl h2
  · exact .inr ⟨g, cap, cur, e0, by omega, h2⟩
/-- append of an owned row of labels, nil or not, onto an owned row. -/
theorem append_rowsU {w : World} {ops : Array Oper} {rest : List Oper} {o : Oper} {a : Act} {Q : Exit → Act → World → Prop} (hgd : o.guard = none) (s x : Operand)
    (ho : o.op = .call { callee := .builtin .append, args := #[s, x], argTypes := #[43, 43] })
    (base : Nat) (v : Value) (n : Nat) (xs : List Value) (hs : a.eval s = v) (hown : w.ownsRow base 31 2 v n xs)
    (bx : Nat) (vx : Value) (l : List Lbl) (hx : a.eval x = vx) (hrow : w.ownsRow bx 31 2 vx l.length (flat l))
    (h63 : n + l.length ≤ 100000000) (hbase : base ≤ w.heap.size)
    (h : ∀ v' w', w'.ownsRow base 31 2 v' (n + l.length) (xs ++ flat l) → w.grownBy w' v.ownBlock → (v' = .slice none 0 0 → v = .slice none 0 0) → wpList Try.prog ops Q rest (a.put o.dst v') w') : wpList Try.prog ops Q (o :: rest) a w := by
  obtain ⟨i0, hi, hz0, hz1, hz2⟩ := info_parts infoLb
  rcases hrow.2 with ⟨rfl, h0⟩ | ⟨g, cap, cur, rfl, _⟩
  · have hl : l = [] := List.length_eq_zero_iff.1 h0
    subst hl
    refine wpList_append_own_none hgd s x 43 ho base 31 i0 2 Try.underlying43 hi v n xs hs hown hx ?_
    exact h v w (by simpa [flat_nil] using hown) (World.grownBy.refl _ _) id
  · refine wpList_append_own w hgd s x 43 ho base 31 i0 _ 2 24 Try.underlying43 hi hz0 hz1 hz2 rfl (by decide) v n xs hs hown ⟨g, 0, none⟩ l.length cap (flat l) hx (flat_length l) (hrow.cells rfl) (one_flatU l) (by unfold maxLen; omega) (by omega) hbase ?_
    intro v' w' h1 h2 h3
    exact h v' w' h1 h2 fun e => (h3.1 e).1

theorem growNilL (n : Nat) (w : World) (hn : n ≤ 10000000) :
    Calls Try.prog 80 #[.slice none 0 0, .int .i64 (n : Int)] w fun e w' => ∃ v, e = .returned v ∧ w'.ownsRow w.heap.size 31 2 v 0 [] ∧ Below w.heap.size w w' := by
  rcases Nat.eq_zero_or_pos n with rfl | hp
  · refine (Any8.slices_Grow_room Try.lays8n4L none 0 0 0 w (Nat.le_refl _) (by decide) (by decide) (by decide)).mono ?_
    rintro e w' ⟨rfl, rfl⟩
    exact ⟨_, rfl, World.ownsRow_nil _ _ _ _, Below.refl _ _⟩
  · obtain ⟨i0, hi, hz0, hz1, hz2⟩ := info_parts infoLb
    refine (Any8.slices_Grow_grow Try.lays8n4L i0 (.agg #[.int .i64 0, .string ⟨#[]⟩]) hi hz0 (by omega) none 0 0 n [] w (Nat.le_refl _) (by omega) (by rw [hz2]; omega) (by omega) (by simp) (fun _ => rfl) (fun a h => by cases h)).mono ?_
    rintro e w' ⟨rfl, rfl⟩
    refine ⟨_, rfl, ?_, ?_⟩
    · have hge := grownCap_ge w (0 + n) 0 31
      have hge2 := grownCap_ge w n 0 31
      have hle := grownCap_le_maxLen w (0 + n) 0 31 (by unfold maxLen; omega)
      have hc : (Value.agg #[.int .i64 0, .string ⟨#[]⟩]).cells.size = 2 := rfl
      have := World.ownsRow_made (base := w.heap.size) (e := 31) (size := 2) w.drew (([] : List Value).toArray ++ Builtin.zeroCells (Value.agg #[.int .i64 0, .string ⟨#[]⟩]).cells (0 + n - 0) ++ Builtin.zeroCells (Value.agg #[.int .i64 0, .string ⟨#[]⟩]).cells (grownCap w (0 + n) 0 31 - (0 + n))) (grownCap w (0 + n) 0 31) (Nat.le_refl _) hle (by simp [Builtin.zeroCells, hc]; omega)
      exact this
    · exact ((Below.refl w.heap.size w).drew).alloc (Nat.le_refl _) _

set_option maxHeartbeats 1000000 in
theorem concatTwoL {w : World} {x b1 b2 : Nat} {v1 v2 : Value} {a b : List Lbl} (c0 : w.cell? ⟨x, 0, none⟩ = some v1) (c1 : w.cell? ⟨x, 1, none⟩ = some v2) (hx : x < w.heap.size)
    (h1 : w.ownsRow b1 31 2 v1 a.length (flat a)) (h2 : w.ownsRow b2 31 2 v2 b.length (flat b)) (ha : a.length ≤ 2000000) (hb : b.length ≤ 2000000) :
    Calls Try.prog 69 #[.slice (some ⟨x, 0, none⟩) 2 2] w (LResL (a ++ b) w) := by
  obtain ⟨a1, k1, rfl⟩ := own_sliceU h1
  obtain ⟨a2, k2, rfl⟩ := own_sliceU h2
  have f1 := Lib.hid fun W => growNilL (a.length + b.length) W (by omega)
  have d1 : decide ((a.length : Int) < 0) = false := decide_eq_false (by omega)
  have d2 : decide ((a.length : Int) + (b.length : Int) < 0) = false := decide_eq_false (by omega)
  go_enter Try.func69, Try.ntmps69
  go_wp2
  refine wp_loop_rounds 3 ?_
  rw [rounds_succ]
  go_wp2
  rw [rounds_succ]
  go_wp2
  rw [rounds_succ]
  go_wp2_with fail
  (refine (f1.out _).mono ?_); rintro e w1 ⟨v, rfl, hv, hb1⟩
  have B1 : Below w.heap.size w w1 := hb1
  have c0' := (B1.cell (p := ⟨x, 0, none⟩) hx).trans c0
  have c1' := (B1.cell (p := ⟨x, 1, none⟩) hx).trans c1
  have r1 := own_below h1 B1
  have hl := hv.lt
  have hz := B1.size
  clear c0 c1 f1
  go_wp2
  refine wp_loop_rounds 3 ?_
  rw [rounds_succ]
  go_wp2_with (at_builtin; refine append_rowsU rfl _ _ rfl w.heap.size v 0 [] rfl hv b1 _ a rfl r1 (by omega) hz ?_; intro v3 w3 hv3 hg3 hnil3)
  have B3 : Below w.heap.size w w3 := B1.grown hg3 hz (fun q hq => (hl q hq).1)
  have c1'' := (B3.cell (p := ⟨x, 1, none⟩) hx).trans ((B1.cell (p := ⟨x, 1, none⟩) hx).symm.trans c1')
  have r2 := own_below h2 B3
  have hl3 := hv3.lt
  have hz3 := B3.size
  clear hv c0' c1' r1
  rw [rounds_succ]
  go_wp2_with (at_builtin; refine append_rowsU rfl _ _ rfl w.heap.size v3 _ _ rfl hv3 b2 _ b rfl r2 (by omega) hz3 ?_; intro v4 w4 hv4 hg4 hnil4)
  have B4 : Below w.heap.size w w4 := B3.grown hg4 hz3 (fun q hq => (hl3 q hq).1)
  rw [rounds_succ]
  go_wp2
  go_ret
  exact ⟨_, rfl, by simpa [flat_append] using hv4, B4⟩

set_option maxHeartbeats 1000000 in
theorem eqLit {B pb : Nat} {w0 : World} (hc : w0.cell? ⟨pb, 0, none⟩ = some (.func (.func 55) #[] #[])) (hp : pb < B) (hB : B ≤ w0.heap.size) : EqAt B w0 (.pointer (some ⟨pb, 0, none⟩)) := by
  intro W hW k1 k2 n1 n2
  have hcW := (hW.cell (p := ⟨pb, 0, none⟩) hp).trans hc
  have hpW : pb < W.heap.size := by have := hW.size; omega
  have f1 := Lib.hid fun W => compareLabelsB k1 k2 n1 n2 W
  have HZ := Lib.hid (cmpL_zero (k1, n1) (k2, n2))
  have HD : Hid (decide (cmpL (k1, n1) (k2, n2) = 0) = decide ((k1, n1) = (k2, n2))) := by simp [Hid, HZ.out]
  have eg : ∀ args w, (callFunc 55 args).run Try.prog w = .ok (.enter 55 args) w := enters_of Try.func55 (by kernel_rfl) rfl
  generalize cmpL (k1, n1) (k2, n2) = r at f1 HD
  have B0 : Below W.heap.size W ((W.alloc (.cells #[.int .i64 k1, .string ⟨n1.toArray⟩] 31)).alloc (.cells #[.int .i64 k2, .string ⟨n2.toArray⟩] 31)) := ((Below.refl _ _).alloc (Nat.le_refl _) _).alloc (by simp) _
  have hc2 := (B0.cell (p := ⟨pb, 0, none⟩) hpW).trans hcW
  have x0 : ((W.alloc (.cells #[.int .i64 k1, .string ⟨n1.toArray⟩] 31)).alloc (.cells #[.int .i64 k2, .string ⟨n2.toArray⟩] 31)).cell? ⟨W.heap.size, 0, none⟩ = some (.int .i64 k1) := (((Below.refl (W.alloc (.cells #[.int .i64 k1, .string ⟨n1.toArray⟩] 31)).heap.size _).alloc (Nat.le_refl _) _).cell (p := ⟨W.heap.size, 0, none⟩) (by simp)).trans (World.news_of_block (cs := #[.int .i64 k1, .string ⟨n1.toArray⟩]) (t := 31) (fr := (0, 0)) (heap_alloc_new W _) 0 _ rfl)
  have x1 : ((W.alloc (.cells #[.int .i64 k1, .string ⟨n1.toArray⟩] 31)).alloc (.cells #[.int .i64 k2, .string ⟨n2.toArray⟩] 31)).cell? ⟨W.heap.size, 1, none⟩ = some (.string ⟨n1.toArray⟩) := (((Below.refl (W.alloc (.cells #[.int .i64 k1, .string ⟨n1.toArray⟩] 31)).heap.size _).alloc (Nat.le_refl _) _).cell (p := ⟨W.heap.size, 1, none⟩) (by simp)).trans (World.news_of_block (cs := #[.int .i64 k1, .string ⟨n1.toArray⟩]) (t := 31) (fr := (0, 0)) (heap_alloc_new W _) 1 _ rfl)
  have y0 : ((W.alloc (.cells #[.int .i64 k1, .string ⟨n1.toArray⟩] 31)).alloc (.cells #[.int .i64 k2, .string ⟨n2.toArray⟩] 31)).cell? ⟨W.heap.size + 1, 0, none⟩ = some (.int .i64 k2) := by simp
  have y1 : ((W.alloc (.cells #[.int .i64 k1, .string ⟨n1.toArray⟩] 31)).alloc (.cells #[.int .i64 k2, .string ⟨n2.toArray⟩] 31)).cell? ⟨W.heap.size + 1, 1, none⟩ = some (.string ⟨n2.toArray⟩) := by simp
  clear hc hp hcW hW HZ
  go_enter Try.func72, Try.ntmps72
  go_wp2_with fail
  (with_reducible refine (f1.out _).mono ?_); rintro e w1 ⟨rfl, hb1⟩
  have hd : (r == 0) = decide ((k1, n1) = (k2, n2)) := by rw [← HD.out]; rfl
  have HF := Lib.hid hd
  clear hd HD
  go_wp2
  go_ret
  refine ⟨?_, B0.trans (hb1.mono (by simp; omega))⟩
  rw [← HF.out]
  rfl

set_option maxHeartbeats 1000000 in
theorem unitedL {w : World} {b1 b2 : Nat} {v1 v2 : Value} {a b : List Lbl} (h1 : w.ownsRow b1 31 2 v1 a.length (flat a)) (h2 : w.ownsRow b2 31 2 v2 b.length (flat b)) (ha : a.length ≤ 2000000) (hb : b.length ≤ 2000000) :
    Calls Try.prog 57 #[v1, v2, .func (.func 55) #[] #[]] w (LResL (srt ordL (a ++ b)) w) := by
  have BA : Below w.heap.size w ((w.alloc (.cells #[.func (.func 55) #[] #[]] 61)).alloc (.cells #[v1, v2] 43)) := ((Below.refl _ _).alloc (Nat.le_refl _) _).alloc (by simp) _
  have hsz : ((w.alloc (.cells #[.func (.func 55) #[] #[]] 61)).alloc (.cells #[v1, v2] 43)).heap.size = w.heap.size + 2 := by simp
  have x0 : ((w.alloc (.cells #[.func (.func 55) #[] #[]] 61)).alloc (.cells #[v1, v2] 43)).cell? ⟨w.heap.size, 0, none⟩ = some (.func (.func 55) #[] #[]) := (((Below.refl (w.alloc (.cells #[.func (.func 55) #[] #[]] 61)).heap.size _).alloc (Nat.le_refl _) _).cell (p := ⟨w.heap.size, 0, none⟩) (by simp)).trans (World.news_of_block (cs := #[.func (.func 55) #[] #[]]) (t := 61) (fr := (0, 0)) (heap_alloc_new w _) 0 _ rfl)
  have y0 : ((w.alloc (.cells #[.func (.func 55) #[] #[]] 61)).alloc (.cells #[v1, v2] 43)).cell? ⟨w.heap.size + 1, 0, none⟩ = some v1 := by simp
  have y1 : ((w.alloc (.cells #[.func (.func 55) #[] #[]] 61)).alloc (.cells #[v1, v2] 43)).cell? ⟨w.heap.size + 1, 1, none⟩ = some v2 := by simp
  have f1 := Lib.hid (concatTwoL y0 y1 (by omega) (own_below h1 BA) (own_below h2 BA) ha hb)
  have HL : Hid ((a ++ b).length ≤ 10000000) := by simp [Hid]; omega
  have HS := Lib.hid (gcompact_srt ordL (a ++ b))
  have HM : Hid (((a ++ b).mergeSort fun x y => !ordL.lt y x).length = (a ++ b).length) := List.length_mergeSort _
  obtain ⟨a1, k1, rfl⟩ := own_sliceU h1
  obtain ⟨a2, k2, rfl⟩ := own_sliceU h2
  clear h1 h2 y0 y1
  generalize a ++ b = ab at f1 HL HS HM
  go_enter Try.func57, Try.ntmps57
  go_wp2_with fail
  (with_reducible refine f1.out.mono ?_); rintro e w2 ⟨v, rfl, hv, hb2⟩
  clear f1
  generalize (w.alloc (.cells #[.func (.func 55) #[] #[]] 61)).alloc (.cells #[.slice a1 a.length k1, .slice a2 b.length k2] 43) = wa at BA hsz x0 hv hb2
  have c2 := (hb2.cell (p := ⟨w.heap.size, 0, none⟩) (show w.heap.size < _ by omega)).trans x0
  have hE := Lib.hid (eqLit (B := wa.heap.size) x0 (by omega) (Nat.le_refl _))
  have f2 := Lib.hid (sortRowL hv hb2 HL.out)
  obtain ⟨av, kv, hve⟩ := own_sliceU hv
  clear hv
  subst hve
  go_wp2_with fail
  (with_reducible refine f2.out.mono ?_); rintro e w3 ⟨rfl, hv3, hb3⟩
  clear f2 c2
  rw [← HM.out] at hv3
  have f3 := Lib.hid (compactFuncL hv3 hb3 (by rw [HM.out]; exact HL.out) hE.out)
  rw [HS.out, HM.out] at f3
  clear hv3
  go_wp2_with fail
  (with_reducible refine f3.out.mono ?_); rintro e w4 ⟨v4, rfl, hv4, hb4⟩
  go_wp2
  go_ret
  exact ⟨_, rfl, own_base hv4 (by omega), BA.trans (hb4.mono (by omega))⟩
end Go.Proofs.Ytlaoioicefohiaa
