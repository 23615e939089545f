/-
  laws.FnLifts from the contracts of the program's functions (handed in as hypotheses).
-/
import Derived.Test.YtnklajagefedmaaDoorFSay
import Derived.Test.YtnklajagefedmaaDoorTDraw
import Derived.Test.YtnklajagefedmaaDoorUDr
import Derived.Test.YtnklajagefedmaaDoorBig
namespace Go.Proofs.YtnklajagefedmaaDoor
set_option maxRecDepth 100000
open Go.ChangeShapes Go.WideShapes Go.ChangeAt Go.RowKit
set_option linter.unusedSimpArgs false

theorem drawTerms {w : World} {v : Value} {l : List UInt8} (hl : CameB w v l) (hn : l.length ≤ 2000000) :
    Calls Tryd.prog 26 #[v] w fun e w' => (∃ T U : Tm, T.Ok ∧ T.Lim 30 ∧ T.bytes.length ≤ 1000 ∧ U.Ok ∧ U.Lim 30 ∧ U.bytes.length ≤ 1000 ∧ e = .returned (.tuple #[.string ⟨T.bytes.toArray⟩, .string ⟨U.bytes.toArray⟩])) ∧ Below w.heap.size w w' := by
  have f1 := Lib.hid (drawNew hl hn)
  have f2 : Hid (∀ cb W, Cur w v l cb W → Calls Tryd.prog 42 #[.pointer (some ⟨cb, 0, none⟩), .int .i64 1, .int .i64 3] W (TmPost w v l cb (tmMax 3))) := fun cb W hW => drawTerm hl hn 3 1 (by decide) (by decide) W hW
  have f3 : Hid (∀ cb W, Cur w v l cb W → Calls Tryd.prog 42 #[.pointer (some ⟨cb, 0, none⟩), .int .i64 1, .int .i64 2] W (TmPost w v l cb (tmMax 2))) := fun cb W hW => drawTerm hl hn 2 1 (by decide) (by decide) W hW
  obtain ⟨a0, cap, _, _, rfl, _⟩ := hl
  go_enter Tryd.func26, Tryd.ntmps26
  go_wp2_with fail
  (with_reducible refine f1.out.mono ?_); rintro e w1 ⟨cb, rfl, hc1⟩
  go_wp2_with fail
  (with_reducible refine (f2.out _ _ hc1).mono ?_); rintro e w2 ⟨⟨T, hT, hLT, hlT, rfl⟩, hc2⟩
  go_wp2_with fail
  (with_reducible refine (f3.out _ _ hc2).mono ?_); rintro e w3 ⟨⟨U, hU, hLU, hlU, rfl⟩, hc3⟩
  go_wp2
  go_ret2
  exact ⟨⟨T, U, hT, hLT, Nat.le_trans hlT (by decide), hU, hLU, Nat.le_trans hlU (by decide), rfl⟩, hc3.1⟩

theorem two_digits {n : Nat} (h : n ≤ 99) : (Lib.decDigits n).length ≤ 2 := by
  rw [Lib.decDigits_length]
  by_cases h1 : n < 10
  · rw [Lib.nDigits_small h1]; decide
  · rw [Lib.nDigits_big h1, Lib.nDigits_small (by omega)]; decide
theorem one_digit (n : Nat) : 1 ≤ (Lib.decDigits n).length := by
  have := digits_ne n
  cases h : Lib.decDigits n with
  | nil => exact absurd h this
  | cons a b => simp
/-- What FnLifts asks of two drawn terms and two numbers. -/
theorem liftP {T U : Tm} (hT : T.Ok) (hL : T.Lim 30) (hl : T.bytes.length ≤ 1000) (hU : U.Ok) (hUl : U.bytes.length ≤ 1000) (a b c : Nat) (ha : a ≤ 4) (hb : b ≤ 4) (hc : c ≤ 999) :
    lifted T.bytes (a : Int) 0 = some (T.lift a 0).bytes ∧ lifted (T.lift a 0).bytes (b : Int) 0 = some (T.lift (a + b) 0).bytes ∧ lifted T.bytes ((a : Int) + (b : Int)) 0 = some (T.lift (a + b) 0).bytes ∧
      lifted T.bytes 0 (c : Int) = some T.bytes ∧ lifted T.bytes 1 0 = some (T.lift 1 0).bytes ∧ putIn (T.lift 1 0).bytes U.bytes = some T.bytes ∧
      termOpen T.bytes = T.opn ∧ termOpen (T.lift a 0).bytes = (if 0 < T.opn then T.opn + a else T.opn) ∧ termSize (T.lift a 0).bytes = T.size ∧ termSize T.bytes = T.size ∧
      (T.lift a 0).bytes.length ≤ 2000 ∧ (T.lift 1 0).bytes.length ≤ 2000 := by
  have len : ∀ x, x ≤ 8 → (T.lift x 0).bytes.length ≤ 2000 := fun x hx => by
    have h1 := Tm.lift_len (a := x) (m := 30) (by omega) (fun n hn => two_digits hn) one_digit T 0 hL
    have h2 := T.size_le
    omega
  have ok : ∀ x, x ≤ 8 → (T.lift x 0).Ok := fun x hx => Tm.lift_ok (m := 30) (by omega) T 0 hT hL
  have is : ∀ x, x ≤ 8 → termOf (T.lift x 0).bytes = some (T.lift x 0) := fun x hx => termOf_some ⟨ok x hx, rfl, len x hx⟩
  have isT : termOf T.bytes = some T := termOf_some ⟨hT, rfl, by omega⟩
  have isU : termOf U.bytes = some U := termOf_some ⟨hU, rfl, by omega⟩
  have one : ∀ x, x ≤ 8 → sayT (some []) (T.lift x 0) = some (T.lift x 0).bytes := fun x hx => by rw [sayT_some (ok x hx) (by have := len x hx; simpa using this)]; rfl
  have self : sayT (some []) T = some T.bytes := by rw [sayT_some hT (by simp; omega)]; rfl
  have obtainO := Tm.opn_lift a T 0
  refine ⟨?_, ?_, ?_, ?_, ?_, ?_, ?_, ?_, ?_, ?_, len a (by omega), len 1 (by omega)⟩
  · rw [lifted, isT]
    show (if _ then _ else _) = _
    rw [if_pos (by omega)]
    exact one a (by omega)
  · rw [lifted, is a (by omega)]
    show (if _ then _ else _) = _
    rw [if_pos (by omega)]
    show sayT (some []) ((T.lift a 0).lift b 0) = _
    rw [Tm.lift_lift]
    exact one (a + b) (by omega)
  · rw [lifted, isT]
    show (if _ then _ else _) = _
    rw [if_pos (by omega)]
    show sayT (some []) (T.lift (((a : Int) + (b : Int)).toNat) 0) = _
    rw [show ((a : Int) + (b : Int)).toNat = a + b by omega]
    exact one (a + b) (by omega)
  · rw [lifted, isT]
    show (if _ then _ else _) = _
    rw [if_pos (by omega)]
    show sayT (some []) (T.lift 0 _) = _
    rw [Tm.lift_zero]
    exact self
  · rw [lifted, isT]
    show (if _ then _ else _) = _
    rw [if_pos (by omega)]
    exact one 1 (by omega)
  · rw [putIn, is 1 (by omega), isU]
    show sayT (some []) (Tm.put U 0 (T.lift 1 0)) = _
    rw [Tm.put_lift]
    exact self
  · rw [termOpen, isT]
  · rw [termOpen, is a (by omega)]
    show (T.lift a 0).opn = _
    by_cases h : 0 < T.opn
    · rw [if_pos h]; exact obtainO.1 h
    · rw [if_neg h]; exact obtainO.2 (by omega)
  · rw [termSize, is a (by omega)]
    exact Tm.size_lift a T 0
  · rw [termSize, isT]

set_option maxHeartbeats 8000000 in
theorem lawLifts {v : Value} {l : List UInt8} (w : World) (hl : CameB w v l) (hm : l.length ≤ maxLen)
    (hLift : ∀ (s : ByteArray) (x y : Int), s.size ≤ 1048576 → ∀ W, Below w.heap.size w W → Calls Tryd.prog 28 #[.string s, .int .i64 x, .int .i64 y] W fun e w' => e = .returned (putRes (lifted s.data.toList x y)) ∧ Below W.heap.size W w')
    (hPutIn : ∀ (s t : ByteArray), s.size ≤ 1048576 → t.size ≤ 1048576 → ∀ W, Below w.heap.size w W → Calls Tryd.prog 29 #[.string s, .string t] W fun e w' => e = .returned (putRes (putIn s.data.toList t.data.toList)) ∧ Below W.heap.size W w')
    (hOpen : ∀ (s : ByteArray), s.size ≤ 1048576 → ∀ W, Below w.heap.size w W → Calls Tryd.prog 24 #[.string s] W fun e w' => e = .returned (.int .i64 (termOpen s.data.toList : Int)) ∧ Below W.heap.size W w')
    (hSize : ∀ (s : ByteArray), s.size ≤ 1048576 → ∀ W, Below w.heap.size w W → Calls Tryd.prog 19 #[.string s] W fun e w' => e = .returned (.int .i64 (termSize s.data.toList : Int)) ∧ Below W.heap.size W w') :
    Calls Tryd.prog 4 #[v] w fun e w' => e = .returned (.bool true) ∧ Below w.heap.size w w' := by
  have f0 := Lib.hid (bigB hl hm)
  by_cases hbig : 1048576 < l.length
  · rw [decide_eq_true hbig] at f0
    obtain ⟨a0, cap, _, _, rfl, _⟩ := hl
    clear hLift hPutIn hOpen hSize
    go_enter Tryd.func4, Tryd.ntmps4
    go_wp2_with fail
    (with_reducible refine f0.out.mono ?_); rintro e w1 ⟨rfl, rfl⟩
    go_wp2
    go_ret
    exact ⟨rfl, Below.refl _ _⟩
  rw [decide_eq_false hbig] at f0
  have f1 := Lib.hid (drawTerms hl (by omega))
  have f2 := Lib.hid fun W (hb : Below w.heap.size w W) => drawPlaces (hl.below hb) (by omega)
  have gLift := Lib.hid hLift
  have gPut := Lib.hid hPutIn
  have gOpen := Lib.hid hOpen
  have gSize := Lib.hid hSize
  clear hLift hPutIn hOpen hSize
  obtain ⟨a0, cap, _, _, rfl, _⟩ := hl
  go_enter Tryd.func4, Tryd.ntmps4
  go_wp2_with fail
  (with_reducible refine f0.out.mono ?_); rintro e w1 ⟨rfl, rfl⟩
  go_wp2_with fail
  (with_reducible refine f1.out.mono ?_); rintro e w2 ⟨⟨T, U, hT, hLT, hTl, hU, hLU, hUl, rfl⟩, B2⟩
  go_wp2_with fail
  (with_reducible refine (f2.out _ B2).mono ?_); rintro e w3 ⟨u, p, hp12, hp, rfl, hrow, hb3⟩
  have B3 := B2.trans (hb3.mono B2.size)
  clear hb3 B2 f0 f1 f2 hLU
  obtain ⟨g, cp, rfl, _, hgl⟩ := hrow.form (by omega)
  obtain ⟨y0, y1, y2, pr, rfl⟩ : ∃ y0 y1 y2 pr, p = y0 :: y1 :: y2 :: pr := by
    match p, hp12 with
    | y0 :: y1 :: y2 :: pr, _ => exact ⟨y0, y1, y2, pr, rfl⟩
  have k0 := hp y0 (by simp)
  have k1 := hp y1 (by simp)
  have k2 := hp y2 (by simp)
  have c0 : w3.cell? ⟨g, 0, none⟩ = some (.int .i64 y0) := hrow.cellAt 0 (by omega)
  have c1 : w3.cell? ⟨g, 1, none⟩ = some (.int .i64 y1) := hrow.cellAt 1 (by omega)
  have c2 : w3.cell? ⟨g, 2, none⟩ = some (.int .i64 y2) := hrow.cellAt 2 (by omega)
  obtain ⟨⟨p0, p1⟩, ⟨p2, p3⟩, ⟨p4, p5⟩⟩ := And.intro k0 (And.intro k1 k2)
  have HR3 := Lib.hid hrow
  clear k0 k1 k2 hp hrow hp12
  obtain ⟨a, ha, ha4⟩ : ∃ a : Nat, y0 % 5 = (a : Int) ∧ a ≤ 4 := ⟨(y0 % 5).toNat, by omega, by omega⟩
  obtain ⟨b, hb, hb4⟩ : ∃ b : Nat, y1 % 5 = (b : Int) ∧ b ≤ 4 := ⟨(y1 % 5).toNat, by omega, by omega⟩
  obtain ⟨c, hc, hc2⟩ : ∃ c : Nat, y2 % 3 = (c : Int) ∧ c ≤ 2 := ⟨(y2 % 3).toNat, by omega, by omega⟩
  obtain ⟨e1, e2, e3, e4, e5, e6, e7, e8, e9, e10, zx, zw⟩ := liftP hT hLT hTl hU hUl a b c ha4 hb4 (by omega)
  have zT : (⟨T.bytes.toArray⟩ : ByteArray).size ≤ 1048576 := by show T.bytes.length ≤ _; omega
  have zU : (⟨U.bytes.toArray⟩ : ByteArray).size ≤ 1048576 := by show U.bytes.length ≤ _; omega
  have zX : (⟨(T.lift a 0).bytes.toArray⟩ : ByteArray).size ≤ 1048576 := by show (T.lift a 0).bytes.length ≤ _; omega
  have zW : (⟨(T.lift 1 0).bytes.toArray⟩ : ByteArray).size ≤ 1048576 := by show (T.lift 1 0).bytes.length ≤ _; omega
  have hopn : T.opn ≤ 1000 := Tm.opn_le T hT
  have fX : Hid (∀ W, Below w1.heap.size w1 W → Calls Tryd.prog 28 #[.string ⟨T.bytes.toArray⟩, .int .i64 (a : Int), .int .i64 0] W fun e w' => e = .returned (.tuple #[.string ⟨(T.lift a 0).bytes.toArray⟩, .bool true]) ∧ Below W.heap.size W w') := fun W hb => by
    have := gLift.out ⟨T.bytes.toArray⟩ (a : Int) 0 zT W hb
    rw [show lifted (ByteArray.data ⟨T.bytes.toArray⟩).toList (a : Int) 0 = some (T.lift a 0).bytes from e1, show putRes (some (T.lift a 0).bytes) = .tuple #[.string ⟨(T.lift a 0).bytes.toArray⟩, .bool true] from rfl] at this
    exact this
  have fY : Hid (∀ W, Below w1.heap.size w1 W → Calls Tryd.prog 28 #[.string ⟨(T.lift a 0).bytes.toArray⟩, .int .i64 (b : Int), .int .i64 0] W fun e w' => e = .returned (.tuple #[.string ⟨(T.lift (a + b) 0).bytes.toArray⟩, .bool true]) ∧ Below W.heap.size W w') := fun W hb => by
    have := gLift.out ⟨(T.lift a 0).bytes.toArray⟩ (b : Int) 0 zX W hb
    rw [show lifted (ByteArray.data ⟨(T.lift a 0).bytes.toArray⟩).toList (b : Int) 0 = some (T.lift (a + b) 0).bytes from e2, show putRes (some (T.lift (a + b) 0).bytes) = .tuple #[.string ⟨(T.lift (a + b) 0).bytes.toArray⟩, .bool true] from rfl] at this
    exact this
  have fZ : Hid (∀ W, Below w1.heap.size w1 W → Calls Tryd.prog 28 #[.string ⟨T.bytes.toArray⟩, .int .i64 ((a : Int) + (b : Int)), .int .i64 0] W fun e w' => e = .returned (.tuple #[.string ⟨(T.lift (a + b) 0).bytes.toArray⟩, .bool true]) ∧ Below W.heap.size W w') := fun W hb => by
    have := gLift.out ⟨T.bytes.toArray⟩ ((a : Int) + (b : Int)) 0 zT W hb
    rw [show lifted (ByteArray.data ⟨T.bytes.toArray⟩).toList ((a : Int) + (b : Int)) 0 = some (T.lift (a + b) 0).bytes from e3, show putRes (some (T.lift (a + b) 0).bytes) = .tuple #[.string ⟨(T.lift (a + b) 0).bytes.toArray⟩, .bool true] from rfl] at this
    exact this
  have fS : Hid (∀ W, Below w1.heap.size w1 W → Calls Tryd.prog 28 #[.string ⟨T.bytes.toArray⟩, .int .i64 0, .int .i64 (c : Int)] W fun e w' => e = .returned (.tuple #[.string ⟨T.bytes.toArray⟩, .bool true]) ∧ Below W.heap.size W w') := fun W hb => by
    have := gLift.out ⟨T.bytes.toArray⟩ 0 (c : Int) zT W hb
    rw [show lifted (ByteArray.data ⟨T.bytes.toArray⟩).toList 0 (c : Int) = some T.bytes from e4, show putRes (some T.bytes) = .tuple #[.string ⟨T.bytes.toArray⟩, .bool true] from rfl] at this
    exact this
  have fW : Hid (∀ W, Below w1.heap.size w1 W → Calls Tryd.prog 28 #[.string ⟨T.bytes.toArray⟩, .int .i64 1, .int .i64 0] W fun e w' => e = .returned (.tuple #[.string ⟨(T.lift 1 0).bytes.toArray⟩, .bool true]) ∧ Below W.heap.size W w') := fun W hb => by
    have := gLift.out ⟨T.bytes.toArray⟩ 1 0 zT W hb
    rw [show lifted (ByteArray.data ⟨T.bytes.toArray⟩).toList 1 0 = some (T.lift 1 0).bytes from e5, show putRes (some (T.lift 1 0).bytes) = .tuple #[.string ⟨(T.lift 1 0).bytes.toArray⟩, .bool true] from rfl] at this
    exact this
  have fV : Hid (∀ W, Below w1.heap.size w1 W → Calls Tryd.prog 29 #[.string ⟨(T.lift 1 0).bytes.toArray⟩, .string ⟨U.bytes.toArray⟩] W fun e w' => e = .returned (.tuple #[.string ⟨T.bytes.toArray⟩, .bool true]) ∧ Below W.heap.size W w') := fun W hb => by
    have := gPut.out ⟨(T.lift 1 0).bytes.toArray⟩ ⟨U.bytes.toArray⟩ zW zU W hb
    rw [show putIn (ByteArray.data ⟨(T.lift 1 0).bytes.toArray⟩).toList (ByteArray.data ⟨U.bytes.toArray⟩).toList = some T.bytes from e6, show putRes (some T.bytes) = .tuple #[.string ⟨T.bytes.toArray⟩, .bool true] from rfl] at this
    exact this
  have fO : Hid (∀ W, Below w1.heap.size w1 W → Calls Tryd.prog 24 #[.string ⟨T.bytes.toArray⟩] W fun e w' => e = .returned (.int .i64 (T.opn : Int)) ∧ Below W.heap.size W w') := fun W hb => by
    have := gOpen.out ⟨T.bytes.toArray⟩ zT W hb
    rw [show termOpen (ByteArray.data ⟨T.bytes.toArray⟩).toList = T.opn from e7] at this
    exact this
  have fOX : Hid (∀ W, Below w1.heap.size w1 W → Calls Tryd.prog 24 #[.string ⟨(T.lift a 0).bytes.toArray⟩] W fun e w' => e = .returned (.int .i64 ((if 0 < T.opn then T.opn + a else T.opn : Nat) : Int)) ∧ Below W.heap.size W w') := fun W hb => by
    have := gOpen.out ⟨(T.lift a 0).bytes.toArray⟩ zX W hb
    rw [show termOpen (ByteArray.data ⟨(T.lift a 0).bytes.toArray⟩).toList = (if 0 < T.opn then T.opn + a else T.opn) from e8] at this
    exact this
  have fSX : Hid (∀ W, Below w1.heap.size w1 W → Calls Tryd.prog 19 #[.string ⟨(T.lift a 0).bytes.toArray⟩] W fun e w' => e = .returned (.int .i64 (T.size : Int)) ∧ Below W.heap.size W w') := fun W hb => by
    have := gSize.out ⟨(T.lift a 0).bytes.toArray⟩ zX W hb
    rw [show termSize (ByteArray.data ⟨(T.lift a 0).bytes.toArray⟩).toList = T.size from e9] at this
    exact this
  have fST : Hid (∀ W, Below w1.heap.size w1 W → Calls Tryd.prog 19 #[.string ⟨T.bytes.toArray⟩] W fun e w' => e = .returned (.int .i64 (T.size : Int)) ∧ Below W.heap.size W w') := fun W hb => by
    have := gSize.out ⟨T.bytes.toArray⟩ zT W hb
    rw [show termSize (ByteArray.data ⟨T.bytes.toArray⟩).toList = T.size from e10] at this
    exact this
  have HB3 := Lib.hid B3
  clear gLift gPut gOpen gSize e1 e2 e3 e4 e5 e6 e7 e8 e9 e10 zT zU zX zW zx zw hT hLT hU B3
  generalize (T.lift (a + b) 0).bytes = zb at fY fZ
  generalize (T.lift 1 0).bytes = wb at fW fV
  generalize (T.lift a 0).bytes = xb at fX fY fOX fSX
  generalize T.size = sz at fSX fST
  generalize T.opn = on at fO fOX hopn
  go_wp2_with fail
  (with_reducible refine (fX.out _ HB3.out).mono ?_); rintro e w4 ⟨rfl, hb4⟩
  have HB4 := Lib.hid (HB3.out.trans (hb4.mono HB3.out.size))
  have D4 := Lib.hid hb4
  clear hb4 HB3 fX c0 c1
  go_wp2_with fail
  (with_reducible refine (fY.out _ HB4.out).mono ?_); rintro e w5 ⟨rfl, hb5⟩
  have HB5 := Lib.hid (HB4.out.trans (hb5.mono HB4.out.size))
  have D5 := Lib.hid (D4.out.trans (hb5.mono D4.out.size))
  clear hb5 HB4 D4 fY
  go_wp2_with fail
  (with_reducible refine (fZ.out _ HB5.out).mono ?_); rintro e w6 ⟨rfl, hb6⟩
  have HB6 := Lib.hid (HB5.out.trans (hb6.mono HB5.out.size))
  have D6 := Lib.hid (D5.out.trans (hb6.mono D5.out.size))
  clear hb6 HB5 D5 fZ
  have c2' : w6.cell? ⟨g, 2, none⟩ = some (.int .i64 y2) := (D6.out.cell (p := ⟨g, 2, none⟩) hgl).trans c2
  clear c2 D6
  go_wp2_with fail
  (with_reducible refine (fS.out _ HB6.out).mono ?_); rintro e w7 ⟨rfl, hb7⟩
  have HB7 := Lib.hid (HB6.out.trans (hb7.mono HB6.out.size))
  clear hb7 HB6 fS c2'
  go_wp2_with fail
  (with_reducible refine (fW.out _ HB7.out).mono ?_); rintro e w8 ⟨rfl, hb8⟩
  have HB8 := Lib.hid (HB7.out.trans (hb8.mono HB7.out.size))
  clear hb8 HB7 fW
  go_wp2_with fail
  (with_reducible refine (fV.out _ HB8.out).mono ?_); rintro e w9 ⟨rfl, hb9⟩
  have HB9 := Lib.hid (HB8.out.trans (hb9.mono HB8.out.size))
  clear hb9 HB8 fV
  go_wp2_with fail
  (with_reducible refine (fO.out _ HB9.out).mono ?_); rintro e w10 ⟨rfl, hb10⟩
  have HB10 := Lib.hid (HB9.out.trans (hb10.mono HB9.out.size))
  clear hb10 HB9 fO HR3
  by_cases hon : 0 < on
  · rw [if_pos hon] at fOX
    have d1 : decide ((0 : Int) < (on : Int)) = true := decide_eq_true (by omega)
    have d1n : decide (0 < on) = true := decide_eq_true hon
    have hs : ((on : Int) + (a : Int) == (on : Int) + (a : Int)) = true := by simp
    go_wp2_with fail
    (with_reducible refine (fOX.out _ HB10.out).mono ?_); rintro e w11 ⟨rfl, hb11⟩
    have HB11 := Lib.hid (HB10.out.trans (hb11.mono HB10.out.size))
    clear hb11 HB10 fOX
    go_wp2_with fail
    (with_reducible refine (fSX.out _ HB11.out).mono ?_); rintro e w12 ⟨rfl, hb12⟩
    have HB12 := Lib.hid (HB11.out.trans (hb12.mono HB11.out.size))
    clear hb12 HB11 fSX
    go_wp2_with fail
    (with_reducible refine (fST.out _ HB12.out).mono ?_); rintro e w13 ⟨rfl, hb13⟩
    have HB13 := Lib.hid (HB12.out.trans (hb13.mono HB12.out.size))
    clear hb13 HB12 fST
    go_wp2
    go_ret
    exact ⟨by simp, HB13.out⟩
  · rw [if_neg hon] at fOX
    have d1 : decide ((0 : Int) < (on : Int)) = false := decide_eq_false (by omega)
    have d1n : decide (0 < on) = false := decide_eq_false hon
    go_wp2_with fail
    (with_reducible refine (fOX.out _ HB10.out).mono ?_); rintro e w11 ⟨rfl, hb11⟩
    have HB11 := Lib.hid (HB10.out.trans (hb11.mono HB10.out.size))
    clear hb11 HB10 fOX
    go_wp2_with fail
    (with_reducible refine (fSX.out _ HB11.out).mono ?_); rintro e w12 ⟨rfl, hb12⟩
    have HB12 := Lib.hid (HB11.out.trans (hb12.mono HB11.out.size))
    clear hb12 HB11 fSX
    go_wp2_with fail
    (with_reducible refine (fST.out _ HB12.out).mono ?_); rintro e w13 ⟨rfl, hb13⟩
    have HB13 := Lib.hid (HB12.out.trans (hb13.mono HB12.out.size))
    clear hb13 HB12 fST
    go_wp2
    go_ret
    exact ⟨by simp, HB13.out⟩
end Go.Proofs.YtnklajagefedmaaDoor
