/-
  Plain lemmas on the nodes of a term in memory: which node stands for which tree, and what keeps it so.
-/
import Derived.Test.YtgielbamebjjdaaGreatDoorTLeafC
namespace Go.Proofs.YtgielbamebjjdaaGreatDoor
set_option maxRecDepth 100000
open Go.ChangeShapes Go.WideShapes Go.ChangeAt Go.RowKit
set_option linter.unusedSimpArgs false

def flatN (ns : List Nd) : List Value := ns.flatMap Nd.cells
theorem cells_len (n : Nd) : n.cells.length = 7 := rfl
theorem flatN_len : ∀ ns : List Nd, (flatN ns).length = ns.length * 7
  | [] => rfl
  | n :: ns => by
    have := flatN_len ns
    unfold flatN at this ⊢
    rw [List.flatMap_cons, List.length_append, this, cells_len, List.length_cons]
    omega
theorem flatN_append (a b : List Nd) : flatN (a ++ b) = flatN a ++ flatN b := by simp [flatN]
theorem flatN_one (n : Nd) : flatN [n] = n.cells := by simp [flatN]
theorem infoNode : (Tryz.prog.info? 93).map (fun i => (i.zero, i.size, i.bytes)) = some (some (.agg #[.int .u8 0, .int .i64 0, .int .i64 0, .int .i64 0, .int .i64 0, .string ⟨#[]⟩, .slice none 0 0]), 7, 80) := by kernel_rfl

/-- The node k stands for the tree t. -/
def Rep (W : World) (B : Nat) (ns : List Nd) : Nat → Tm → Prop
  | k, .var n => ∃ nd, ns[k]? = some nd ∧ LeafIs W B nd (.var n)
  | k, .sort l => ∃ nd, ns[k]? = some nd ∧ LeafIs W B nd (.sort l)
  | k, .const n ls => ∃ nd, ns[k]? = some nd ∧ LeafIs W B nd (.const n ls)
  | k, .app f a => ∃ nd, ns[k]? = some nd ∧ nd.kind = 64 ∧ Rep W B ns nd.a f ∧ Rep W B ns nd.b a
  | k, .lam d b => ∃ nd, ns[k]? = some nd ∧ nd.kind = 108 ∧ Rep W B ns nd.a d ∧ Rep W B ns nd.b b
  | k, .pi d b => ∃ nd, ns[k]? = some nd ∧ nd.kind = 112 ∧ Rep W B ns nd.a d ∧ Rep W B ns nd.b b
  | k, .lett t v b => ∃ nd, ns[k]? = some nd ∧ nd.kind = 116 ∧ Rep W B ns nd.a t ∧ Rep W B ns nd.b v ∧ Rep W B ns nd.c b
/-- The lists of strings above a block are as they were. -/
def KeepS (B : Nat) (W W' : World) : Prop := ∀ v n xs, W.ownsRow B 9 1 v n xs → W'.ownsRow B 9 1 v n xs
theorem KeepS.trans {B : Nat} {W W1 W2 : World} (h : KeepS B W W1) (k : KeepS B W1 W2) : KeepS B W W2 := fun v n xs hv => k v n xs (h v n xs hv)
theorem KeepS.refl (B : Nat) (W : World) : KeepS B W W := fun _ _ _ h => h
theorem LeafIs.keep {W W' : World} {B : Nat} {nd : Nd} {t : Tm} (h : LeafIs W B nd t) (hk : KeepS B W W') : LeafIs W' B nd t := by
  cases t with
  | const n ls => exact ⟨h.1, h.2.1, hk _ _ _ h.2.2⟩
  | _ => exact h
def Ext (ns ns' : List Nd) : Prop := ∀ (i : Nat) nd, ns[i]? = some nd → ns'[i]? = some nd
theorem Ext.refl (ns : List Nd) : Ext ns ns := fun _ _ h => h
theorem Ext.trans {a b c : List Nd} (h : Ext a b) (k : Ext b c) : Ext a c := fun i nd hi => k i nd (h i nd hi)
theorem Ext.snoc (ns : List Nd) (nd : Nd) : Ext ns (ns ++ [nd]) := fun i x h => by
  have hi : i < ns.length := by
    by_cases hi : i < ns.length
    · exact hi
    · rw [List.getElem?_eq_none (by omega)] at h; cases h
  rw [List.getElem?_append_left hi]
  exact h
theorem Rep.keep {W W' : World} {B : Nat} {ns ns' : List Nd} (hk : KeepS B W W') (he : Ext ns ns') : ∀ (t : Tm) (k : Nat), Rep W B ns k t → Rep W' B ns' k t
  | .var _, _, ⟨nd, h1, h2⟩ => ⟨nd, he _ _ h1, h2⟩
  | .sort _, _, ⟨nd, h1, h2⟩ => ⟨nd, he _ _ h1, h2⟩
  | .const _ _, _, ⟨nd, h1, h2⟩ => ⟨nd, he _ _ h1, h2.keep hk⟩
  | .app f a, _, ⟨nd, h1, h2, h3, h4⟩ => ⟨nd, he _ _ h1, h2, Rep.keep hk he f _ h3, Rep.keep hk he a _ h4⟩
  | .lam f a, _, ⟨nd, h1, h2, h3, h4⟩ => ⟨nd, he _ _ h1, h2, Rep.keep hk he f _ h3, Rep.keep hk he a _ h4⟩
  | .pi f a, _, ⟨nd, h1, h2, h3, h4⟩ => ⟨nd, he _ _ h1, h2, Rep.keep hk he f _ h3, Rep.keep hk he a _ h4⟩
  | .lett f a b, _, ⟨nd, h1, h2, h3, h4, h5⟩ => ⟨nd, he _ _ h1, h2, Rep.keep hk he f _ h3, Rep.keep hk he a _ h4, Rep.keep hk he b _ h5⟩
theorem Rep.leaf {W : World} {B : Nat} {ns : List Nd} {k : Nat} {nd : Nd} {t : Tm} (hl : t.isLeaf = true) (h : LeafIs W B nd t) (hk : ns[k]? = some nd) : Rep W B ns k t := by
  cases t with
  | var n => exact ⟨nd, hk, h⟩
  | sort l => exact ⟨nd, hk, h⟩
  | const n ls => exact ⟨nd, hk, h⟩
  | _ => cases hl
theorem LeafIs.weaken {W : World} {B B' : Nat} {nd : Nd} {t : Tm} (h : LeafIs W B nd t) (hb : B' ≤ B) : LeafIs W B' nd t := by
  cases t with
  | const n ls => exact ⟨h.1, h.2.1, own_weakenL h.2.2 hb⟩
  | _ => exact h

/-- The nodes as the pointer at cb has them. -/
structure NSt (B cb : Nat) (W : World) (vn : Value) (ns : List Nd) : Prop where
  cell : W.cell? ⟨cb, 0, none⟩ = some vn
  froz : W.frozen? ⟨cb, 0, none⟩ = false
  row : W.ownsRow (cb - 1) 93 7 vn ns.length (flatN ns)
  ne : vn.ownBlock ≠ some cb
  sl : ∀ nd ∈ ns, ∃ a n c, nd.lv = .slice a n c
  lt : cb < B
  le : B ≤ W.heap.size
/-- Nothing but the pointer's cell and the row of the nodes has changed. -/
structure KeepN (B cb : Nat) (W : World) (vn : Value) (W' : World) (vn' : Value) : Prop where
  os : W'.os = W.os
  tape : W'.tape = W.tape
  output : W'.output = W.output
  size : W.heap.size ≤ W'.heap.size
  block : ∀ i, i < W.heap.size → i ≠ cb → vn.ownBlock ≠ some i → W'.heap[i]? = W.heap[i]?
  own : vn'.ownBlock = vn.ownBlock ∨ ∀ g, vn'.ownBlock = some g → W.heap.size ≤ g
theorem KeepN.refl (B cb : Nat) (W : World) (vn : Value) : KeepN B cb W vn W vn := ⟨rfl, rfl, rfl, Nat.le_refl _, fun _ _ _ _ => rfl, .inl rfl⟩
theorem KeepN.trans {B cb : Nat} {W W1 W2 : World} {v v1 v2 : Value} (h : KeepN B cb W v W1 v1) (k : KeepN B cb W1 v1 W2 v2) : KeepN B cb W v W2 v2 := by
  refine ⟨k.os.trans h.os, k.tape.trans h.tape, k.output.trans h.output, Nat.le_trans h.size k.size, fun i hi hc hv => ?_, ?_⟩
  · refine (k.block i (Nat.lt_of_lt_of_le hi h.size) hc (fun e => ?_)).trans (h.block i hi hc hv)
    rcases h.own with h1 | h1
    · exact hv (h1 ▸ e)
    · have := h1 i e; omega
  · rcases k.own with k1 | k1
    · rcases h.own with h1 | h1
      · exact .inl (k1.trans h1)
      · exact .inr fun g hg => h1 g (k1 ▸ hg)
    · exact .inr fun g hg => Nat.le_trans h.size (k1 g hg)
theorem KeepN.below {B cb : Nat} {W W' : World} {v : Value} (hb : Below W.heap.size W W') : KeepN B cb W v W' v :=
  ⟨hb.os, hb.tape, hb.output, hb.size, fun i hi _ _ => hb.block i hi, .inl rfl⟩
/-- A row of strings is no row of nodes. -/
theorem KeepN.strs {B cb : Nat} {W W' : World} {v v' : Value} {ns : List Nd} (h : KeepN B cb W v W' v') (hn : NSt B cb W v ns) : KeepS B W W' := by
  intro u n xs hu
  refine ⟨hu.1, ?_⟩
  rcases hu.2 with hz | ⟨g, cap, cur, e, hb, hg, rest⟩
  · exact .inl hz
  · refine .inr ⟨g, cap, cur, e, hb, ?_, rest⟩
    have hlt : g < W.heap.size := (Array.getElem?_eq_some_iff.1 hg).1
    rw [h.block g hlt (by have := hn.lt; omega) (fun ho => ?_)]
    · exact hg
    · rcases hn.row.2 with ⟨e2, _⟩ | ⟨g2, cap2, cur2, e2, _, hg2, _⟩
      · rw [e2] at ho; cases ho
      · rw [e2] at ho
        simp only [Value.ownBlock, Option.some.injEq] at ho
        subst ho
        rw [hg] at hg2
        simp only [Option.some.injEq, Obj.cells.injEq] at hg2
        exact absurd hg2.2.1 (by decide)
theorem NSt.below {B cb : Nat} {W W' : World} {v : Value} {ns : List Nd} (h : NSt B cb W v ns) (hb : Below W.heap.size W W') : NSt B cb W' v ns := by
  have hl : cb < W.heap.size := Nat.lt_of_lt_of_le h.lt h.le
  exact ⟨(hb.cell (p := ⟨cb, 0, none⟩) hl).trans h.cell, (hb.frozen (p := ⟨cb, 0, none⟩) hl).trans h.froz, own_below h.row hb, h.ne, h.sl, h.lt, Nat.le_trans h.le hb.size⟩
/-- A node more, and the pointer's cell with the new row. -/
theorem NSt.push {B cb g : Nat} {W W1 w6 : World} {v v' : Value} {ns : List Nd} {nd : Nd} (h : NSt B cb W v ns) (hb : Below W.heap.size W W1) (hg : W1.grownBy w6 v.ownBlock)
    (hr : w6.ownsRow (cb - 1) 93 7 v' (ns.length + 1) (flatN ns ++ nd.cells)) (hv : v'.ownBlock = some g) (ho : v.ownBlock = some g ∨ W.heap.size ≤ g) (hsl : ∃ a n c, nd.lv = .slice a n c) :
    NSt B cb (w6.setCell ⟨cb, 0, none⟩ v') v' (ns ++ [nd]) ∧ KeepN B cb W v (w6.setCell ⟨cb, 0, none⟩ v') v' := by
  have h1 := h.below hb
  have hl : cb < W1.heap.size := Nat.lt_of_lt_of_le h1.lt h1.le
  have hne : some cb ≠ v.ownBlock := fun e => h.ne e.symm
  have hgc : v'.ownBlock ≠ some cb := fun e => by
    rw [hv] at e
    injection e with e
    subst e
    rcases ho with ho | ho
    · exact h.ne ho
    · have := h.lt; have := h.le; omega
  have hblk := hg.block cb hl hne
  have hc : w6.cell? ⟨cb, 0, none⟩ = some v := (World.cell?_of_block (a := ⟨cb, 0, none⟩) hblk).trans h1.cell
  have hf : w6.frozen? ⟨cb, 0, none⟩ = false := (World.frozen?_of_block (a := ⟨cb, 0, none⟩) hblk).trans h1.froz
  refine ⟨⟨World.cell?_setCell_same _ _ _ hc, by simpa using hf, ?_, hgc, fun x hx => ?_, h.lt, ?_⟩, ?_⟩
  · have := hr.kept (w' := w6.setCell ⟨cb, 0, none⟩ v') (row := some cb) ⟨rfl, rfl, rfl, by simp [World.setCell], fun k hk hne => Below.heap_setCell _ _ _ _ (fun e => hne (by rw [e]))⟩ (.inr hgc)
    rw [flatN_append, flatN_one, List.length_append]
    exact this
  · rcases List.mem_append.1 hx with hx | hx
    · exact h.sl x hx
    · simp only [List.mem_cons, List.not_mem_nil, or_false] at hx
      subst hx
      exact hsl
  · have h3 : (w6.setCell ⟨cb, 0, none⟩ v').heap.size = w6.heap.size := by simp [World.setCell]
    have := hg.size
    have := h1.le
    omega
  · refine ⟨hg.os.trans hb.os, hg.tape.trans hb.tape, hg.output.trans hb.output, ?_, fun i hi hic hiv => ?_, ?_⟩
    · have h3 : (w6.setCell ⟨cb, 0, none⟩ v').heap.size = w6.heap.size := by simp [World.setCell]
      have := hg.size
      have := hb.size
      omega
    · refine (Below.heap_setCell _ _ _ _ (fun e => hic e)).trans ?_
      exact (hg.block i (Nat.lt_of_lt_of_le hi hb.size) (fun e => hiv e.symm)).trans (hb.block i hi)
    · rcases ho with ho | ho
      · exact .inl (hv.trans ho.symm)
      · exact .inr fun x hx => by
          rw [hv] at hx
          cases hx
          exact ho
end Go.Proofs.YtgielbamebjjdaaGreatDoor
