/-
  Plain lemmas for the nodes with parts in spec.l06Read.
-/
import Derived.Test.YtgielbamebjjdaaGreatDoorTReadW
namespace Go.Proofs.YtgielbamebjjdaaGreatDoor
set_option maxRecDepth 100000
open Go.ChangeShapes Go.WideShapes Go.ChangeAt Go.RowKit
set_option linter.unusedSimpArgs false

/-- A term of two parts whose first byte is c. -/
structure Two (c : UInt8) (K : Tm → Tm → Tm) : Prop where
  bytes : ∀ f a, (K f a).bytes = c :: (f.bytes ++ a.bytes)
  ok : ∀ f a, (K f a).Ok ↔ f.Ok ∧ a.Ok
  size : ∀ f a, (K f a).size = f.size + a.size + 1
  inv : ∀ t, t.kind = c → ∃ f a, t = K f a
  rep : ∀ (W : World) (B : Nat) (ns : List Nd) (k : Nat) (f a : Tm) (nd : Nd), ns[k]? = some nd → nd.kind = c → nd.lv = .slice none 0 0 → nd.b + 1 = k → nd.a + a.size + 1 = k → RepP W B ns nd.a f → RepP W B ns nd.b a → RepP W B ns k (K f a)
theorem twoApp : Two 64 .app := ⟨fun _ _ => rfl, fun _ _ => Iff.rfl, fun _ _ => rfl, fun t h => by
  cases t with
  | app f a => exact ⟨f, a, rfl⟩
  | _ => exact absurd h (by simp only [Tm.kind]; decide), fun _ _ _ _ _ _ nd h1 h2 p0 p1 p2 h3 h4 => ⟨⟨nd, h1, h2, h3.1, h4.1⟩, ⟨nd, h1, p0, p1, p2, h3.2, h4.2⟩⟩⟩
theorem twoLam : Two 108 .lam := ⟨fun _ _ => rfl, fun _ _ => Iff.rfl, fun _ _ => rfl, fun t h => by
  cases t with
  | lam f a => exact ⟨f, a, rfl⟩
  | _ => exact absurd h (by simp only [Tm.kind]; decide), fun _ _ _ _ _ _ nd h1 h2 p0 p1 p2 h3 h4 => ⟨⟨nd, h1, h2, h3.1, h4.1⟩, ⟨nd, h1, p0, p1, p2, h3.2, h4.2⟩⟩⟩
theorem twoPi : Two 112 .pi := ⟨fun _ _ => rfl, fun _ _ => Iff.rfl, fun _ _ => rfl, fun t h => by
  cases t with
  | pi f a => exact ⟨f, a, rfl⟩
  | _ => exact absurd h (by simp only [Tm.kind]; decide), fun _ _ _ _ _ _ nd h1 h2 p0 p1 p2 h3 h4 => ⟨⟨nd, h1, h2, h3.1, h4.1⟩, ⟨nd, h1, p0, p1, p2, h3.2, h4.2⟩⟩⟩
theorem drop_part {l r : List UInt8} {p : Nat} {x : List UInt8} (h : l.drop p = x ++ r) : l.drop (p + x.length) = r := by
  rw [← List.drop_drop, h, List.drop_left]
theorem Two.split {c : UInt8} {K : Tm → Tm → Tm} (hT : Two c K) {l r : List UInt8} {p : Nat} {f a : Tm} (h : Tat (l.drop p) (K f a) r) :
    Tat (l.drop (p + 1)) f (a.bytes ++ r) ∧ Tat (l.drop (p + 1 + f.bytes.length)) a r := by
  have h1 := (hT.ok f a).1 h.1
  have hk : (K f a).bytes = (K f a).kind :: (f.bytes ++ a.bytes) := by
    obtain ⟨x, hx⟩ := (K f a).bytes_head
    have := hT.bytes f a
    rw [hx] at this
    injection this with e1 e2
    rw [hx, e2]
  have h2 : l.drop (p + 1) = f.bytes ++ (a.bytes ++ r) := by
    rw [tat_tail h hk, List.append_assoc]
  exact ⟨⟨h1.1, h2⟩, h1.2, drop_part h2⟩
theorem Two.join {c : UInt8} {K : Tm → Tm → Tm} (hT : Two c K) {l r1 r : List UInt8} {p : Nat} {f a : Tm} (hp : p < l.length) (hc : l[p] = c) (h1 : Tat (l.drop (p + 1)) f r1) (h2 : Tat (l.drop (p + 1 + f.bytes.length)) a r) : Tat (l.drop p) (K f a) r := by
  refine ⟨(hT.ok f a).2 ⟨h1.1, h2.1⟩, ?_⟩
  have e := drop_part h1.2
  rw [List.drop_eq_getElem_cons hp, hc, hT.bytes, h1.2, ← e, h2.2]
  simp
theorem Two.no1 {c : UInt8} {K : Tm → Tm → Tm} (hT : Two c K) {l : List UInt8} {p : Nat} (hp : p < l.length) (hc : l[p] = c) (h : ∀ t r, ¬ Tat (l.drop (p + 1)) t r) : ∀ t r, ¬ Tat (l.drop p) t r := fun t r ht => by
  obtain ⟨f, a, rfl⟩ := hT.inv t ((tat_head hp ht).trans hc)
  exact h f _ (hT.split ht).1
theorem Two.no2 {c : UInt8} {K : Tm → Tm → Tm} (hT : Two c K) {l r1 : List UInt8} {p : Nat} {f : Tm} (hp : p < l.length) (hc : l[p] = c) (h1 : Tat (l.drop (p + 1)) f r1) (h : ∀ t r, ¬ Tat (l.drop (p + 1 + f.bytes.length)) t r) : ∀ t r, ¬ Tat (l.drop p) t r := fun t r ht => by
  obtain ⟨f', a, rfl⟩ := hT.inv t ((tat_head hp ht).trans hc)
  obtain ⟨h2, h3⟩ := hT.split ht
  obtain ⟨rfl, _⟩ := h1.uniq h2
  exact h a _ h3

/-- The box of a node that is being read. -/
def NBox (nb : Nat) (W : World) (c : Int) (a b d : Nat) : Prop :=
  W.heap[nb]? = some (.cells #[.int .u8 c, .int .i64 (a : Int), .int .i64 (b : Int), .int .i64 (d : Int), .int .i64 0, .string ⟨#[]⟩, .slice none 0 0] 93 (0, 0))
theorem KeepS.set {B nb i : Nat} {W : World} {c : Int} {a b d : Nat} (h : NBox nb W c a b d) (u : Value) : KeepS B W (W.setCell ⟨nb, i, none⟩ u) := fun v n xs hv => by
  refine ⟨hv.1, ?_⟩
  rcases hv.2 with hz | ⟨g, cap, cur, e, hb, hg, rest⟩
  · exact .inl hz
  · refine .inr ⟨g, cap, cur, e, hb, ?_, rest⟩
    rw [heap_setCell_other _ _ _ _ (fun e => ?_)]
    · exact hg
    · have e : g = nb := e
      subst e
      unfold NBox at h
      rw [hg] at h
      simp only [Option.some.injEq, Obj.cells.injEq] at h
      exact absurd h.2.1 (by decide)
theorem NSt.setOther {B cb nb i : Nat} {W : World} {v : Value} {ns : List Nd} (h : NSt B cb W v ns) (hcb : nb ≠ cb) (hv : v.ownBlock ≠ some nb) (u : Value) : NSt B cb (W.setCell ⟨nb, i, none⟩ u) v ns := by
  refine ⟨(World.cell?_setCell_other _ _ _ _ (by intro e; have := congrArg Addr.block e; simp at this; omega)).trans h.cell, by simpa using h.froz, ?_, h.ne, h.sl, h.lt, by simpa [World.setCell] using h.le⟩
  refine h.row.kept (row := some nb) ⟨rfl, rfl, rfl, by simp [World.setCell], fun k hk hne => Below.heap_setCell _ _ _ _ (fun e => hne (by rw [e]))⟩ (.inr hv)
theorem KeepN.setOther {B cb nb i : Nat} {W W1 : World} {v v1 : Value} (h : KeepN B cb W v W1 v1) (hnb : W.heap.size ≤ nb) (u : Value) : KeepN B cb W v (W1.setCell ⟨nb, i, none⟩ u) v1 :=
  ⟨h.os, h.tape, h.output, by simpa [World.setCell] using h.size, fun k hk hc hv => (Below.heap_setCell _ _ _ _ (fun e => by have e : k = nb := e; omega)).trans (h.block k hk hc hv), h.own⟩
theorem KeepN.nbox {B cb nb : Nat} {W W1 : World} {v v1 : Value} {c : Int} {a b d : Nat} (h : KeepN B cb W v W1 v1) (hb : NBox nb W c a b d) (hcb : nb ≠ cb) (hv : v.ownBlock ≠ some nb) : NBox nb W1 c a b d ∧ v1.ownBlock ≠ some nb := by
  have hlt : nb < W.heap.size := (Array.getElem?_eq_some_iff.1 hb).1
  refine ⟨(h.block nb hlt hcb hv).trans hb, fun e => ?_⟩
  rcases h.own with h1 | h1
  · exact hv (h1 ▸ e)
  · have := h1 nb e; omega
theorem NBox.set1 {nb : Nat} {W : World} {c : Int} {a b d : Nat} (h : NBox nb W c a b d) (k : Nat) : NBox nb (W.setCell ⟨nb, 1, none⟩ (.int .i64 (k : Int))) c k b d := heap_setCell_same _ _ _ _ _ _ h
theorem NBox.set2 {nb : Nat} {W : World} {c : Int} {a b d : Nat} (h : NBox nb W c a b d) (k : Nat) : NBox nb (W.setCell ⟨nb, 2, none⟩ (.int .i64 (k : Int))) c a k d := heap_setCell_same _ _ _ _ _ _ h
theorem NBox.set3 {nb : Nat} {W : World} {c : Int} {a b d : Nat} (h : NBox nb W c a b d) (k : Nat) : NBox nb (W.setCell ⟨nb, 3, none⟩ (.int .i64 (k : Int))) c a b k := heap_setCell_same _ _ _ _ _ _ h
theorem NBox.cells {nb : Nat} {W : World} {c : Int} {a b d : Nat} (h : NBox nb W c a b d) : W.cell? ⟨nb, 0, none⟩ = some (.int .u8 c) ∧ W.cell? ⟨nb, 1, none⟩ = some (.int .i64 (a : Int)) ∧ W.cell? ⟨nb, 2, none⟩ = some (.int .i64 (b : Int)) ∧ W.cell? ⟨nb, 3, none⟩ = some (.int .i64 (d : Int)) ∧ W.cell? ⟨nb, 4, none⟩ = some (.int .i64 0) ∧ W.cell? ⟨nb, 5, none⟩ = some (.string ⟨#[]⟩) ∧ W.cell? ⟨nb, 6, none⟩ = some (.slice none 0 0) :=
  ⟨cell_of_row _ _ _ _ _ _ h, cell_of_row _ _ _ _ _ _ h, cell_of_row _ _ _ _ _ _ h, cell_of_row _ _ _ _ _ _ h, cell_of_row _ _ _ _ _ _ h, cell_of_row _ _ _ _ _ _ h, cell_of_row _ _ _ _ _ _ h⟩
theorem NBox.frozen {nb : Nat} {W : World} {c : Int} {a b d : Nat} (h : NBox nb W c a b d) (i : Nat) : W.frozen? ⟨nb, i, none⟩ = false := frozen_of_row _ _ _ _ _ h
end Go.Proofs.YtgielbamebjjdaaGreatDoor
