/-
  laws.FnLevelValues from the contracts of the program's functions (handed in as hypotheses).
-/
import Derived.Test.YtdeophmdpbgkdaaUOrd
import Derived.Test.YtdeophmdpbgkdaaUDr
import Derived.Test.YtdeophmdpbgkdaaBig
import Derived.StillTailTactics
namespace Go.Proofs.Ytdeophmdpbgkdaa
set_option maxRecDepth 100000
open Go.ChangeShapes Go.WideShapes Go.ChangeAt Go.RowKit
set_option linter.unusedSimpArgs false

theorem LvP.ok {a : List UInt8} (h : LvP a) (hl : a.length ≤ 23) : levelOk a = true := h.run.ok (by omega)

set_option maxHeartbeats 4000000 in
theorem lawLevelValues {v : Value} {l : List UInt8} (w : World) (hl : CameB w v l) (hm : l.length ≤ maxLen) (hnil : NilB v)
    (hPut : ∀ (s : ByteArray) (args : List (List UInt8)), s.size ≤ 1048576 → args.length ≤ 1048576 → (∀ x ∈ args, x.length ≤ 1048576) → ∀ (W : World) (b : Nat) (v : Value), W.ownsRow b 9 1 v args.length (args.map sv) → Calls Try.prog 14 #[.string s, v] W fun e w' => e = .returned (putRes (levelPut s.data.toList args)) ∧ Below W.heap.size W w')
    (hUps : ∀ (s : ByteArray), s.size ≤ 1048576 → ∀ W, Calls Try.prog 17 #[.string s] W fun e w' => e = .returned (.int .i64 (levelUps s.data.toList : Int)) ∧ Below W.heap.size W w')
    (hAt : ∀ (s : ByteArray) (vs : List Int), s.size ≤ 1048576 → vs.length ≤ 1048576 → ∀ (W : World) (b : Nat) (v : Value), W.ownsRow b 3 1 v vs.length (vs.map iv) → Calls Try.prog 16 #[.string s, v] W fun e w' => e = .returned (.int .i64 (levelAt s.data.toList vs)) ∧ Below W.heap.size W w') :
    Calls Try.prog 3 #[v] w fun e w' => e = .returned (.bool true) ∧ Below w.heap.size w w' := by
  have f0 := Lib.hid (bigB hl hm)
  by_cases hbig : 1048576 < l.length
  · rw [decide_eq_true hbig] at f0
    obtain ⟨a0, cap, _, _, rfl, _⟩ := hl
    clear hPut hUps hAt
    go_enter Try.func3, Try.ntmps3
    go_wp2_with fail
    (with_reducible refine f0.out.mono ?_); rintro e w1 ⟨rfl, rfl⟩
    go_wp2
    go_ret
    exact ⟨rfl, Below.refl _ _⟩
  rw [decide_eq_false hbig] at f0
  have f1 := Lib.hid (drawLevels hl (by omega))
  have f3 := Lib.hid fun W (hb : Below w.heap.size w W) => drawPlaces (hl.below hb) (by omega)
  have f2 := Lib.hid fun (W : World) (u : Value) (hb : W.ownsRow w.heap.size 5 1 u (5 :: l).length ((5 :: l).map bv)) => drawLevels (cameB_own hb) (by rw [List.length_cons]; omega)
  have HL := Lib.hid hl
  have HN := Lib.hid hnil
  clear hnil
  obtain ⟨a0, cap, _, _, rfl, _⟩ := hl
  have gPut := Lib.hid hPut
  have gUps := Lib.hid hUps
  have gAt := Lib.hid hAt
  clear hPut hUps hAt
  go_enter Try.func3, Try.ntmps3
  go_wp2_with fail
  (with_reducible refine f0.out.mono ?_); rintro e w1 ⟨rfl, rfl⟩
  go_wp2_with fail
  (with_reducible refine f1.out.mono ?_); rintro e w2 ⟨⟨a, b, hLa, hLb, la, lb, rfl⟩, B2⟩
  have oa := hLa.ok la
  have ob := hLb.ok lb
  clear f0 f1 hLa hLb
  have r5 := World.ownsRow_lit (base := w1.heap.size) (e := 5) (size := 1) w2 #[.int .u8 5] 1 B2.size (by decide) (by simp)
  have b5 := (Below.refl w2.heap.size w2).alloc (Nat.le_refl _) (.cells #[.int .u8 5] 5)
  have B5 := B2.trans (b5.mono B2.size)
  clear b5
  go_wp2_with (at_builtin; refine append_cameB rfl _ _ rfl w1.heap.size _ 1 _ rfl r5 _ l rfl (HL.out.below B5) HN.out (by omega) B5.size ?_; intro v6 w6 hown6 hg6)
  have B6 := B5.grown hg6 B5.size (fun k hk => by cases hk; exact B2.size)
  have h6 : w6.ownsRow w1.heap.size 5 1 v6 (5 :: l).length ((5 :: l).map bv) := by
    rw [show (5 :: l).length = 1 + l.length by simp; omega]
    exact hown6
  clear hown6 hg6 r5 B5 B2
  go_wp2_with fail
  (with_reducible refine (f2.out _ _ h6).mono ?_); rintro e w7 ⟨⟨c, d, hLc, hLd, lc, ld, rfl⟩, hb7⟩
  have oc := hLc.ok lc
  have od := hLd.ok ld
  have B7 := B6.trans (hb7.mono B6.size)
  clear h6 f2 hLc hLd hb7 B6
  go_wp2_with fail
  (with_reducible refine (f3.out _ B7).mono ?_); rintro e w8 ⟨u, p, hp12, hp, rfl, hrow, hb8⟩
  have B8 := B7.trans (hb8.mono B7.size)
  clear f3 hb8
  obtain ⟨g, cp, rfl, _, hgl⟩ := hrow.form (by omega)
  obtain ⟨y0, y1, y2, pr, rfl⟩ : ∃ y0 y1 y2 pr, p = y0 :: y1 :: y2 :: pr := by
    match p, hp12 with
    | y0 :: y1 :: y2 :: pr, _ => exact ⟨y0, y1, y2, pr, rfl⟩
  have k0 := hp y0 (by simp)
  have k1 := hp y1 (by simp)
  have k2 := hp y2 (by simp)
  have c0 : w8.cell? ⟨g, 0, none⟩ = some (.int .i64 y0) := hrow.cellAt 0 (by omega)
  have c1 : w8.cell? ⟨g, 1, none⟩ = some (.int .i64 y1) := hrow.cellAt 1 (by omega)
  have c2 : w8.cell? ⟨g, 2, none⟩ = some (.int .i64 y2) := hrow.cellAt 2 (by omega)
  obtain ⟨⟨p0, p1⟩, ⟨p2, p3⟩, ⟨p4, p5⟩⟩ := And.intro k0 (And.intro k1 k2)
  clear k0 k1 k2 hp hrow hp12
  go_wp2_with fail
  go_still_tail 12, (by kernel_rfl)
  change wpList _ _ _ _ _ w8.drew
  have B9 := B8.drew
  clear c0 c1 c2 B7
  generalize w8.drew = w9 at B9
  have hvs : ∀ x ∈ [y0 % 5, y1 % 5, y2 % 5], 0 ≤ x ∧ x ≤ 4 := fun x hx => by
    simp only [List.mem_cons, List.not_mem_nil, or_false] at hx
    rcases hx with rfl | rfl | rfl <;> omega
  have r9 : (w9.alloc (.cells #[.int .i64 (y0 % 5), .int .i64 (y1 % 5), .int .i64 (y2 % 5)] 3)).ownsRow w1.heap.size 3 1 (.slice (some ⟨w9.heap.size, 0, none⟩) 3 3) 3 ([y0 % 5, y1 % 5, y2 % 5].map iv) :=
    World.ownsRow_lit (base := w1.heap.size) (e := 3) (size := 1) w9 #[.int .i64 (y0 % 5), .int .i64 (y1 % 5), .int .i64 (y2 % 5)] 3 B9.size (by decide) (by simp)
  have B10 := B9.trans (((Below.refl w9.heap.size w9).alloc (Nat.le_refl _) (.cells #[.int .i64 (y0 % 5), .int .i64 (y1 % 5), .int .i64 (y2 % 5)] 3)).mono B9.size)
  have rS : ∀ W : World, (W.alloc (.cells #[.string ⟨b.toArray⟩, .string ⟨c.toArray⟩, .string ⟨d.toArray⟩] 9)).ownsRow W.heap.size 9 1 (.slice (some ⟨W.heap.size, 0, none⟩) 3 3) 3 ([b, c, d].map sv) := fun W =>
    World.ownsRow_lit (base := W.heap.size) (e := 9) (size := 1) W #[.string ⟨b.toArray⟩, .string ⟨c.toArray⟩, .string ⟨d.toArray⟩] 3 (Nat.le_refl _) (by decide) (by simp)
  have RS := Lib.hid rS
  have bS := Lib.hid fun W : World => (Below.refl W.heap.size W).alloc (Nat.le_refl _) (.cells #[.string ⟨b.toArray⟩, .string ⟨c.toArray⟩, .string ⟨d.toArray⟩] 9)
  have z10 : (w9.alloc (.cells #[.int .i64 (y0 % 5), .int .i64 (y1 % 5), .int .i64 (y2 % 5)] 3)).heap.size = w9.heap.size + 1 := by simp
  have rs1 := RS.out (w9.alloc (.cells #[.int .i64 (y0 % 5), .int .i64 (y1 % 5), .int .i64 (y2 % 5)] 3))
  have bs1 := Lib.hid (bS.out (w9.alloc (.cells #[.int .i64 (y0 % 5), .int .i64 (y1 % 5), .int .i64 (y2 % 5)] 3)))
  rw [show Value.slice (some ⟨(w9.alloc (.cells #[.int .i64 (y0 % 5), .int .i64 (y1 % 5), .int .i64 (y2 % 5)] 3)).heap.size, 0, none⟩) 3 3 = .slice (some ⟨w9.heap.size + 1, 0, none⟩) 3 3 by rw [z10]] at rs1
  have HB10 := Lib.hid B10
  have HR9 := Lib.hid r9
  have RS1 := Lib.hid rs1
  have HVS := Lib.hid hvs
  have Z10 := Lib.hid z10
  clear rS rs1 B10 r9 hvs z10
  have sa : (⟨a.toArray⟩ : ByteArray).size = a.length := by simp [ByteArray.size]
  have hargs : ∀ x ∈ [b, c, d], x.length ≤ 1048576 := fun x hx => by
    simp only [List.mem_cons, List.not_mem_nil, or_false] at hx
    rcases hx with rfl | rfl | rfl <;> omega
  have fP : Hid (∀ (W : World) (q : Nat) (v : Value), W.ownsRow q 9 1 v 3 ([b, c, d].map sv) → Calls Try.prog 14 #[.string ⟨a.toArray⟩, v] W fun e w' => e = .returned (putRes (levelPut a [b, c, d])) ∧ Below W.heap.size W w') := fun W q v hv => gPut.out ⟨a.toArray⟩ [b, c, d] (by omega) (by simp) hargs W q v hv
  have fSP : Hid (∀ (W : World) (q : Nat) (v : Value), W.ownsRow q 9 1 v 3 ([b, c, d].map sv) → Calls Try.prog 15 #[.string ⟨a.toArray⟩, v] W fun e w' => e = .returned (putRes (levelPut a [b, c, d])) ∧ Below W.heap.size W w') := fun W q v hv => specLevelPut (args := [b, c, d]) ⟨a.toArray⟩ hv (by unfold maxLen; omega) (fun x hx => by have := hargs x hx; unfold maxLen; omega) (by simp)
  have HY := Lib.hid fun s (hs : levelPut a [b, c, d] = some s) => valY oa ob oc od la lb lc ld rfl HVS.out hs
  clear hargs gPut
  cases hput : levelPut a [b, c, d] with
  | none =>
    rw [hput, show putRes none = .tuple #[.string ⟨#[]⟩, .bool false] from rfl] at fP fSP
    clear hput HY
    go_wp2_with fail
    (with_reducible refine (fP.out _ _ _ RS1.out).mono ?_); rintro e w11 ⟨rfl, hb11⟩
    have B11 := HB10.out.trans ((bs1.out.trans (hb11.mono (bs1.out.size))).mono HB10.out.size)
    clear hb11
    go_wp2_with fail
    (with_reducible refine (fSP.out _ _ _ (RS.out w11)).mono ?_); rintro e w12 ⟨rfl, hb12⟩
    go_wp2
    go_ret
    exact ⟨rfl, B11.trans (((bS.out w11).trans (hb12.mono (bS.out w11).size)).mono B11.size)⟩
  | some s =>
    obtain ⟨⟨xb, xc, xd, n, m, k1, k2, k3, k4, e1, e2, e3, e4, e5, e6, e7, e8⟩, hs60⟩ := HY.out s hput
    rw [hput, show putRes (some s) = .tuple #[.string ⟨s.toArray⟩, .bool true] from rfl] at fP
    clear hput HY fSP
    have fb : Hid (∀ (W : World) (q : Nat) (v : Value), W.ownsRow q 3 1 v 3 ([y0 % 5, y1 % 5, y2 % 5].map iv) → Calls Try.prog 16 #[.string ⟨b.toArray⟩, v] W fun e w' => e = .returned (.int .i64 (xb : Int)) ∧ Below W.heap.size W w') := fun W q v hv => by
      have := gAt.out ⟨b.toArray⟩ [y0 % 5, y1 % 5, y2 % 5] (by simp [ByteArray.size]; omega) (by simp) W q v hv
      rw [show levelAt (⟨b.toArray⟩ : ByteArray).data.toList [y0 % 5, y1 % 5, y2 % 5] = _ from e1] at this
      exact this
    have fc : Hid (∀ (W : World) (q : Nat) (v : Value), W.ownsRow q 3 1 v 3 ([y0 % 5, y1 % 5, y2 % 5].map iv) → Calls Try.prog 16 #[.string ⟨c.toArray⟩, v] W fun e w' => e = .returned (.int .i64 (xc : Int)) ∧ Below W.heap.size W w') := fun W q v hv => by
      have := gAt.out ⟨c.toArray⟩ [y0 % 5, y1 % 5, y2 % 5] (by simp [ByteArray.size]; omega) (by simp) W q v hv
      rw [show levelAt (⟨c.toArray⟩ : ByteArray).data.toList [y0 % 5, y1 % 5, y2 % 5] = _ from e2] at this
      exact this
    have fd : Hid (∀ (W : World) (q : Nat) (v : Value), W.ownsRow q 3 1 v 3 ([y0 % 5, y1 % 5, y2 % 5].map iv) → Calls Try.prog 16 #[.string ⟨d.toArray⟩, v] W fun e w' => e = .returned (.int .i64 (xd : Int)) ∧ Below W.heap.size W w') := fun W q v hv => by
      have := gAt.out ⟨d.toArray⟩ [y0 % 5, y1 % 5, y2 % 5] (by simp [ByteArray.size]; omega) (by simp) W q v hv
      rw [show levelAt (⟨d.toArray⟩ : ByteArray).data.toList [y0 % 5, y1 % 5, y2 % 5] = _ from e3] at this
      exact this
    have fa : Hid (∀ (W : World) (q : Nat) (v : Value), W.ownsRow q 3 1 v 3 ([y0 % 5, y1 % 5, y2 % 5].map iv) → Calls Try.prog 16 #[.string ⟨a.toArray⟩, v] W fun e w' => e = .returned (.int .i64 (n : Int)) ∧ Below W.heap.size W w') := fun W q v hv => by
      have := gAt.out ⟨a.toArray⟩ [y0 % 5, y1 % 5, y2 % 5] (by simp [ByteArray.size]; omega) (by simp) W q v hv
      rw [show levelAt (⟨a.toArray⟩ : ByteArray).data.toList [y0 % 5, y1 % 5, y2 % 5] = _ from e4] at this
      exact this
    have fs : Hid (∀ (W : World) (q : Nat) (v : Value), W.ownsRow q 3 1 v 3 ([y0 % 5, y1 % 5, y2 % 5].map iv) → Calls Try.prog 16 #[.string ⟨s.toArray⟩, v] W fun e w' => e = .returned (.int .i64 (m : Int)) ∧ Below W.heap.size W w') := fun W q v hv => by
      have := gAt.out ⟨s.toArray⟩ [y0 % 5, y1 % 5, y2 % 5] (by simp [ByteArray.size]; omega) (by simp) W q v hv
      rw [show levelAt (⟨s.toArray⟩ : ByteArray).data.toList [y0 % 5, y1 % 5, y2 % 5] = _ from e5] at this
      exact this
    have fw : Hid (∀ (W : World) (q : Nat) (v : Value), W.ownsRow q 3 1 v 3 ([(xb : Int), (xc : Int), (xd : Int)].map iv) → Calls Try.prog 16 #[.string ⟨a.toArray⟩, v] W fun e w' => e = .returned (.int .i64 (m : Int)) ∧ Below W.heap.size W w') := fun W q v hv => by
      have := gAt.out ⟨a.toArray⟩ [(xb : Int), (xc : Int), (xd : Int)] (by simp [ByteArray.size]; omega) (by simp) W q v hv
      rw [show levelAt (⟨a.toArray⟩ : ByteArray).data.toList [(xb : Int), (xc : Int), (xd : Int)] = _ from e6] at this
      exact this
    have fu : Hid (∀ (W : World) (q : Nat) (v : Value), W.ownsRow q 3 1 v 3 ([y0 % 5, y1 % 5, y2 % 5].map iv) → Calls Try.prog 16 #[.string ((⟨#[43]⟩ : ByteArray) ++ ⟨a.toArray⟩), v] W fun e w' => e = .returned (.int .i64 ((n : Int) + 1)) ∧ Below W.heap.size W w') := fun W q v hv => by
      have := gAt.out ((⟨#[43]⟩ : ByteArray) ++ ⟨a.toArray⟩) [y0 % 5, y1 % 5, y2 % 5] (by rw [lvBytes2]; simp [ByteArray.size]; omega) (by simp) W q v hv
      rw [show levelAt ((⟨#[43]⟩ : ByteArray) ++ ⟨a.toArray⟩).data.toList [y0 % 5, y1 % 5, y2 % 5] = (n : Int) + 1 by rw [lvBytes2]; exact e7] at this
      exact this
    have fU : Hid (∀ W, Calls Try.prog 17 #[.string ⟨a.toArray⟩] W fun e w' => e = .returned (.int .i64 (levelUps a : Int)) ∧ Below W.heap.size W w') := gUps.out ⟨a.toArray⟩ (by omega)
    have hua : levelUps a ≤ a.length := by rw [levelUps, if_pos oa]; exact List.count_le_length
    clear gAt gUps e1 e2 e3 e4 e5 e6 e7
    generalize levelUps a = ua at fU hua e8
    have d1 : decide ((0 : Int) ≤ (n : Int)) = true := decide_eq_true (by omega)
    have d2 : decide ((n : Int) ≤ 4 + (ua : Int)) = true := decide_eq_true (by omega)
    go_wp2_with fail
    (with_reducible refine (fP.out _ _ _ RS1.out).mono ?_); rintro e w11 ⟨rfl, hb11⟩
    have hv11 := own_below (own_below HR9.out bs1.out) hb11
    have B11 := HB10.out.trans ((bs1.out.trans (hb11.mono (bs1.out.size))).mono HB10.out.size)
    clear hb11 HB10 HR9 bs1 RS1 RS bS fP
    go_wp2_with (at_builtin; refine append_copyI rfl _ _ rfl rfl _ _ [y0 % 5, y1 % 5, y2 % 5] rfl hv11 (by simp) (by simp) ?_; intro u12 w12 h12 hb12)
    have B12 := B11.trans (hb12.mono B11.size)
    have hv12 := own_below hv11 hb12
    clear hv11 hb12
    go_wp2_with fail
    (with_reducible refine (fb.out _ _ _ h12).mono ?_); rintro e w13 ⟨rfl, hb13⟩
    have B13 := B12.trans (hb13.mono B12.size)
    have hv13 := own_below hv12 hb13
    clear hv12 hb13 h12 fb
    go_wp2_with (at_builtin; refine append_copyI rfl _ _ rfl rfl _ _ [y0 % 5, y1 % 5, y2 % 5] rfl hv13 (by simp) (by simp) ?_; intro u14 w14 h14 hb14)
    have B14 := B13.trans (hb14.mono B13.size)
    have hv14 := own_below hv13 hb14
    clear hv13 hb14
    go_wp2_with fail
    (with_reducible refine (fc.out _ _ _ h14).mono ?_); rintro e w15 ⟨rfl, hb15⟩
    have B15 := B14.trans (hb15.mono B14.size)
    have hv15 := own_below hv14 hb15
    clear hv14 hb15 h14 fc
    go_wp2_with (at_builtin; refine append_copyI rfl _ _ rfl rfl _ _ [y0 % 5, y1 % 5, y2 % 5] rfl hv15 (by simp) (by simp) ?_; intro u16 w16 h16 hb16)
    have B16 := B15.trans (hb16.mono B15.size)
    have hv16 := own_below hv15 hb16
    clear hv15 hb16
    go_wp2_with fail
    (with_reducible refine (fd.out _ _ _ h16).mono ?_); rintro e w17 ⟨rfl, hb17⟩
    have B17 := B16.trans (hb17.mono B16.size)
    have hv17 := own_below hv16 hb17
    clear hv16 hb17 h16 fd
    have rw17 : (w17.alloc (.cells #[.int .i64 (xb : Int), .int .i64 (xc : Int), .int .i64 (xd : Int)] 3)).ownsRow w17.heap.size 3 1 (.slice (some ⟨w17.heap.size, 0, none⟩) 3 3) 3 ([(xb : Int), (xc : Int), (xd : Int)].map iv) :=
      World.ownsRow_lit (base := w17.heap.size) (e := 3) (size := 1) w17 #[.int .i64 (xb : Int), .int .i64 (xc : Int), .int .i64 (xd : Int)] 3 (Nat.le_refl _) (by decide) (by simp)
    have bw17 := (Below.refl w17.heap.size w17).alloc (Nat.le_refl _) (.cells #[.int .i64 (xb : Int), .int .i64 (xc : Int), .int .i64 (xd : Int)] 3)
    have hv18 := own_below hv17 bw17
    have B18 := B17.trans (bw17.mono B17.size)
    have z18 : (w17.alloc (.cells #[.int .i64 (xb : Int), .int .i64 (xc : Int), .int .i64 (xd : Int)] 3)).heap.size = w17.heap.size + 1 := by simp
    have Z18 := Lib.hid z18
    clear hv17 bw17 B17 z18
    go_wp2_with (at_builtin; refine append_copyI (W := w17.alloc (.cells #[.int .i64 (xb : Int), .int .i64 (xc : Int), .int .i64 (xd : Int)] 3)) rfl _ _ rfl (by simp [Act.eval]) _ _ [y0 % 5, y1 % 5, y2 % 5] rfl hv18 (by simp) (by simp) ?_; intro u19 w19 h19 hb19)
    have B19 := B18.trans (hb19.mono B18.size)
    have hv19 := own_below hv18 hb19
    have hx19 := own_below rw17 hb19
    clear hv18 rw17 hb19
    go_wp2_with fail
    (with_reducible refine (fa.out _ _ _ h19).mono ?_); rintro e w20 ⟨rfl, hb20⟩
    have B20 := B19.trans (hb20.mono B19.size)
    have hv20 := own_below hv19 hb20
    have hx20 := own_below hx19 hb20
    clear hv19 hx19 hb20 h19 fa
    go_wp2_with (at_builtin; refine append_copyI rfl _ _ rfl rfl _ _ [y0 % 5, y1 % 5, y2 % 5] rfl hv20 (by simp) (by simp) ?_; intro u21 w21 h21 hb21)
    have B21 := B20.trans (hb21.mono B20.size)
    have hv21 := own_below hv20 hb21
    have hx21 := own_below hx20 hb21
    clear hv20 hx20 hb21
    go_wp2_with fail
    (with_reducible refine (fs.out _ _ _ h21).mono ?_); rintro e w22 ⟨rfl, hb22⟩
    have B22 := B21.trans (hb22.mono B21.size)
    have hv22 := own_below hv21 hb22
    have hx22 := own_below hx21 hb22
    clear hv21 hx21 hb22 h21 fs
    go_wp2_with fail
    (with_reducible refine (fw.out _ _ _ hx22).mono ?_); rintro e w23 ⟨rfl, hb23⟩
    have B23 := B22.trans (hb23.mono B22.size)
    have hv23 := own_below hv22 hb23
    clear hv22 hx22 hb23 fw
    go_wp2_with (at_builtin; refine append_copyI rfl _ _ rfl rfl _ _ [y0 % 5, y1 % 5, y2 % 5] rfl hv23 (by simp) (by simp) ?_; intro u24 w24 h24 hb24)
    have B24 := B23.trans (hb24.mono B23.size)
    clear hv23 hb24
    go_wp2_with fail
    (with_reducible refine (fu.out _ _ _ h24).mono ?_); rintro e w25 ⟨rfl, hb25⟩
    have B25 := B24.trans (hb25.mono B24.size)
    clear hb25 h24 fu
    go_wp2_with fail
    (with_reducible refine (fU.out _).mono ?_); rintro e w26 ⟨rfl, hb26⟩
    have B26 := B25.trans (hb26.mono B25.size)
    clear hb26 fU
    go_wp2
    go_ret
    refine ⟨?_, B26⟩
    simp
end Go.Proofs.Ytdeophmdpbgkdaa
