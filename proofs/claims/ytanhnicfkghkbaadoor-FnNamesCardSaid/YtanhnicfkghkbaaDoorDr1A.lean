/-
  Contracts of the draws: a byte, a number below another.
-/
import Derived.Test.YtanhnicfkghkbaaDoorDr1P
import Derived.BigQuiet
import Derived.Laws.Bits128
namespace Go.Proofs.YtanhnicfkghkbaaDoor
set_option maxRecDepth 100000
open Go.ChangeShapes Go.WideShapes Go.ChangeAt Go.RowKit
set_option linter.unusedSimpArgs false
set_option linter.unusedVariables false

set_option maxHeartbeats 2000000 in
theorem drawByte {w0 w : World} {v : Value} {l : List UInt8} {cb : Nat} (hl : CameB w0 v l) (hc : Cur w0 v l cb w) (hn : l.length ≤ 2000000) :
    Calls Tryd.prog 23 #[.pointer (some ⟨cb, 0, none⟩)] w fun e w' => (∃ x : Nat, x ≤ 255 ∧ e = .returned (.int .i64 x)) ∧ Cur w0 v l cb w' ∧ w.grownBy w' (some cb) := by
  obtain ⟨a0, cap, b, off, rfl, h2, h3⟩ := hl
  obtain ⟨hbel, hcb, hcw, i, hh, hi, c0, c1, c2, z1, z2⟩ := hc
  go_enter Tryd.func23, Tryd.ntmps23
  go_wp2
  generalize wrap64 (wrap64 (hh * 6364136223846793005) + 1442695040888963407) = h1
  have k0 : (w.setCell ⟨cb, 2, none⟩ (.int .i64 h1)).cell? ⟨cb, 0, none⟩ = some (.slice a0 l.length cap) := (World.cell?_setCell_other _ _ _ _ (by simp)).trans c0
  have k1 : (w.setCell ⟨cb, 2, none⟩ (.int .i64 h1)).cell? ⟨cb, 1, none⟩ = some (.int .i64 i) := (World.cell?_setCell_other _ _ _ _ (by simp)).trans c1
  have k2 : (w.setCell ⟨cb, 2, none⟩ (.int .i64 h1)).cell? ⟨cb, 2, none⟩ = some (.int .i64 h1) := World.cell?_setCell_same _ _ _ c2
  have y1 : (w.setCell ⟨cb, 2, none⟩ (.int .i64 h1)).frozen? ⟨cb, 1, none⟩ = false := by simpa using z1
  have y2 : (w.setCell ⟨cb, 2, none⟩ (.int .i64 h1)).frozen? ⟨cb, 2, none⟩ = false := by simpa using z2
  have B1 := hbel.setCell (p := ⟨cb, 2, none⟩) hcb (.int .i64 h1)
  have G1 : w.grownBy (w.setCell ⟨cb, 2, none⟩ (.int .i64 h1)) (some cb) := ⟨rfl, rfl, rfl, by simp [World.setCell], fun k hk hne => Below.heap_setCell _ _ _ _ (fun e => hne (by rw [e]))⟩
  have hcw1 : cb < (w.setCell ⟨cb, 2, none⟩ (.int .i64 h1)).heap.size := by simpa [World.setCell] using hcw
  generalize w.setCell ⟨cb, 2, none⟩ (.int .i64 h1) = w1 at k0 k1 k2 y1 y2 B1 G1 hcw1
  clear c0 c1 c2 z1 z2
  go_quiet (fail)
  obtain ⟨x0, hx0, ex0⟩ := and255 (bits BinOp.xor IntKind.i64 (h1 / 8589934592) (h1 / 35184372088832))
  rw [ex0]
  have B2 := below_drewN B1 nq
  have G2 : w.grownBy (w1.drewN nq) (some cb) := ⟨G1.os, G1.tape, G1.output, G1.size, G1.block⟩
  have k0' : (w1.drewN nq).cell? ⟨cb, 0, none⟩ = some (.slice a0 l.length cap) := k0
  have k1' : (w1.drewN nq).cell? ⟨cb, 1, none⟩ = some (.int .i64 i) := k1
  have k2' : (w1.drewN nq).cell? ⟨cb, 2, none⟩ = some (.int .i64 h1) := k2
  have y1' : (w1.drewN nq).frozen? ⟨cb, 1, none⟩ = false := y1
  have y2' : (w1.drewN nq).frozen? ⟨cb, 2, none⟩ = false := y2
  have hcw2 : cb < (w1.drewN nq).heap.size := hcw1
  generalize w1.drewN nq = w2 at k0' k1' k2' y1' y2' B2 G2 hcw2
  clear k0 k1 k2 y1 y2 B1 G1 hcw1 ex0
  by_cases hlt : i < l.length
  · have d1 : decide ((i : Int) < (l.length : Int)) = true := decide_eq_true (by omega)
    obtain ⟨rfl, hb⟩ := h2 (by omega)
    have cc := (B2.cell (p := ⟨b, off + i, none⟩) hb).trans (h3 i hlt)
    have hby := l[i].toNat_lt
    generalize l[i].toNat = u at cc hby
    have q1 : (0 : Int) ≤ (i : Int) := by omega
    have q2 : (i : Int) < (l.length : Int) := by omega
    have e1 : IntKind.i64.wrap ((u : Int)) = (u : Int) := IntWalk.i64_in _ (by omega)
    have e2 : IntKind.i64.wrap ((x0 : Int) + (u : Int)) = (x0 : Int) + (u : Int) := IntWalk.i64_in _ (by omega)
    obtain ⟨x1, hx1, ex1⟩ := and255 ((x0 : Int) + (u : Int))
    clear h2 h3
    go_wp2
    go_quiet (fail)
    have B3 := below_drewN B2 nq
    have G3 : w.grownBy (w2.drewN nq) (some cb) := ⟨G2.os, G2.tape, G2.output, G2.size, G2.block⟩
    have m0 : (w2.drewN nq).cell? ⟨cb, 0, none⟩ = some (.slice (some ⟨b, off, none⟩) l.length cap) := k0'
    have m1 : (w2.drewN nq).cell? ⟨cb, 1, none⟩ = some (.int .i64 i) := k1'
    have m2 : (w2.drewN nq).cell? ⟨cb, 2, none⟩ = some (.int .i64 h1) := k2'
    have s1 : (w2.drewN nq).frozen? ⟨cb, 1, none⟩ = false := y1'
    have s2 : (w2.drewN nq).frozen? ⟨cb, 2, none⟩ = false := y2'
    have hcw3 : cb < (w2.drewN nq).heap.size := hcw2
    have cd : (w2.drewN nq).cell? ⟨b, off + i, none⟩ = some (.int .u8 (u : Int)) := cc
    generalize w2.drewN nq = w3 at m0 m1 m2 s1 s2 B3 G3 hcw3 cd
    clear k0' k1' k2' y1' y2' B2 G2 hcw2 cc
    have k0' := m0
    have k1' := m1
    have k2' := m2
    have y1' := s1
    have y2' := s2
    have cc := cd
    clear m0 m1 m2 s1 s2 cd
    go_wp2
    go_quiet (fail)
    have B4 := below_drewN B3 nq
    have G4 : w.grownBy (w3.drewN nq) (some cb) := ⟨G3.os, G3.tape, G3.output, G3.size, G3.block⟩
    have m0 : (w3.drewN nq).cell? ⟨cb, 0, none⟩ = some (.slice (some ⟨b, off, none⟩) l.length cap) := k0'
    have m1 : (w3.drewN nq).cell? ⟨cb, 1, none⟩ = some (.int .i64 i) := k1'
    have m2 : (w3.drewN nq).cell? ⟨cb, 2, none⟩ = some (.int .i64 h1) := k2'
    have s1 : (w3.drewN nq).frozen? ⟨cb, 1, none⟩ = false := y1'
    have s2 : (w3.drewN nq).frozen? ⟨cb, 2, none⟩ = false := y2'
    have hcw4 : cb < (w3.drewN nq).heap.size := hcw3
    have cd : (w3.drewN nq).cell? ⟨b, off + i, none⟩ = some (.int .u8 (u : Int)) := cc
    generalize w3.drewN nq = w4 at m0 m1 m2 s1 s2 B4 G4 hcw4 cd
    clear k0' k1' k2' y1' y2' B3 G3 hcw3 cc
    have k0' := m0
    have k1' := m1
    have k2' := m2
    have y1' := s1
    have y2' := s2
    have cc := cd
    clear m0 m1 m2 s1 s2 cd
    have K0 := Lib.hid ((World.cell?_setCell_other w4 ⟨cb, 1, none⟩ ⟨cb, 0, none⟩ (.int .i64 ((i : Int) + 1)) (by simp)).trans k0')
    have K1 := Lib.hid (World.cell?_setCell_same w4 ⟨cb, 1, none⟩ (.int .i64 ((i : Int) + 1)) k1')
    have K2 := Lib.hid ((World.cell?_setCell_other w4 ⟨cb, 1, none⟩ ⟨cb, 2, none⟩ (.int .i64 ((i : Int) + 1)) (by simp)).trans k2')
    have BB := Lib.hid (B4.setCell (p := ⟨cb, 1, none⟩) hcb (.int .i64 ((i : Int) + 1)))
    have GG : Hid (w.grownBy (w4.setCell ⟨cb, 1, none⟩ (.int .i64 ((i : Int) + 1))) (some cb)) := ⟨G4.os, G4.tape, G4.output, by simpa [World.setCell] using G4.size, fun k hk hne => (Below.heap_setCell _ _ _ _ (fun e => hne (by rw [e]))).trans (G4.block k hk hne)⟩
    go_wp2
    go_ret
    refine ⟨⟨x1, hx1, rfl⟩, ⟨BB.out, hcb, by simpa [World.setCell] using hcw4, i + 1, h1, by omega, K0.out, ?_, K2.out, by simpa using y1', by simpa using y2'⟩, GG.out⟩
    rw [K1.out]
    simp
  · have d1 : decide ((i : Int) < (l.length : Int)) = false := decide_eq_false (by omega)
    clear h2 h3
    go_wp2
    go_quiet (fail)
    go_wp2
    go_ret
    exact ⟨⟨x0, hx0, rfl⟩, ⟨below_drewN B2 _, hcb, hcw2, i, h1, hi, k0', k1', k2', y1', y2'⟩, ⟨G2.os, G2.tape, G2.output, G2.size, G2.block⟩⟩

theorem drawBelow {w0 w : World} {v : Value} {l : List UInt8} {cb : Nat} (hl : CameB w0 v l) (hc : Cur w0 v l cb w) (hn : l.length ≤ 2000000) (n : Nat) (h1 : 1 ≤ n) (h2 : n ≤ 256) :
    Calls Tryd.prog 15 #[.pointer (some ⟨cb, 0, none⟩), .int .i64 (n : Int)] w fun e w' => (∃ x : Nat, x < n ∧ e = .returned (.int .i64 x)) ∧ Cur w0 v l cb w' ∧ w.grownBy w' (some cb) := by
  have f1 := Lib.hid (drawByte hl hc hn)
  have d1 : decide ((n : Int) ≤ 0) = false := decide_eq_false (by omega)
  have d2 : decide ((n : Int) ≤ 256) = true := decide_eq_true (by omega)
  have d3 : ((n : Int) == 0) = false := beq_eq_false_iff_ne.2 (by omega)
  clear hl hc
  go_enter Tryd.func15, Tryd.ntmps15
  go_wp2_with fail
  (with_reducible refine f1.out.mono ?_); rintro e w1 ⟨⟨x, hx, rfl⟩, hc1, hg1⟩
  have e1 : ((x : Int)).tmod (n : Int) = ((x % n : Nat) : Int) := by
    rw [Int.tmod_eq_emod_of_nonneg (by omega)]
    omega
  have hxn : x % n < n := Nat.mod_lt _ (by omega)
  go_wp2
  go_ret
  refine ⟨⟨x % n, hxn, ?_⟩, hc1, hg1⟩
  simp
end Go.Proofs.YtanhnicfkghkbaaDoor
