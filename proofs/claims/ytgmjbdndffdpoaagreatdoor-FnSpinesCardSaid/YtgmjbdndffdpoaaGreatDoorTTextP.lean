/-
  Plain lemmas behind spec.l06Text: regions held, nodes whose leaves' levels may be any.
-/
import Derived.Test.YtgmjbdndffdpoaaGreatDoorTNode
import Derived.Deep.RegionHeld3
namespace Go.Proofs.YtgmjbdndffdpoaaGreatDoor
set_option maxRecDepth 100000
open Go.ChangeShapes Go.WideShapes Go.ChangeAt Go.RowKit
set_option linter.unusedSimpArgs false

theorem sort_textN (t : List UInt8) : (⟨#[115]⟩ : ByteArray) ++ ⟨t.toArray⟩ ++ ⟨#[46]⟩ = ⟨(Tm.sort t).bytes.toArray⟩ := by
  apply ByteArray.ext
  simp [Tm.bytes]
theorem two_textN (c : UInt8) (a b : List UInt8) : (⟨#[c]⟩ : ByteArray) ++ ⟨a.toArray⟩ ++ ⟨b.toArray⟩ = ⟨(c :: (a ++ b)).toArray⟩ := by
  apply ByteArray.ext
  simp
theorem let_textN (a b c : List UInt8) : (⟨#[116]⟩ : ByteArray) ++ ⟨a.toArray⟩ ++ ⟨b.toArray⟩ ++ ⟨c.toArray⟩ = ⟨(116 :: (a ++ (b ++ c))).toArray⟩ := by
  apply ByteArray.ext
  simp
theorem lvsB_le60 : ∀ {ls : List (List UInt8)}, (∀ y ∈ ls, levelOk y = true) → (lvsB ls).length ≤ ls.length * 61
  | [], _ => by simp [lvsB]
  | x :: r, h => by
    have h1 := (levelOk_len (h x List.mem_cons_self)).1
    have h2 := lvsB_le60 (ls := r) fun y hy => h y (List.mem_cons_of_mem _ hy)
    simp only [lvsB, List.length_append, List.length_cons]
    omega

section
variable {P : Program} {ops : Array Oper} {Q : Exit → Act → World → Prop} {md : Region.Mode} {S S' : World → Prop}
/-- An operation that its guard lets by comes up first. -/
theorem heldT (i d : Nat) (v : Value) {oi : Oper} {fuel : Nat} {listed : Array Bool} {a : Act} {w : World} (hi : ops[i]? = some oi) (hd : oi.dst = some d)
    (hs : Region.noSelect ops = true) (hf : Region.free md ops listed i = true) (hr : (Region.ready md ops listed).contains i = true)
    (hQ : ∀ c a w, Q (.panic c) (a.put (some d) v) w → Q (.panic c) a w) (hw : Region.wanted oi (yielded ops a.tmps) = true) (hS : S w)
    (hrun : ∀ w, S w → (execOp a.eval oi).run P w = .ok (.value v) w)
    (h : wpAnyH P md ops Q S fuel (listed.setIfInBounds i true) (a.put (some d) v) w) : wpAnyH P md ops Q S (fuel + 1) listed a w :=
  wpAnyH_take hi hs hf hr (by rw [hd]; exact hQ) (Or.inl ⟨hw, hrun⟩) hS (by rw [hd]; exact h)
theorem wpAnyH_more (hS : ∀ w, S' w → S w) : ∀ (fuel : Nat) (listed : Array Bool) (a : Act) (w : World), wpAnyH P md ops Q S' fuel listed a w → wpAnyH P md ops Q S fuel listed a w
  | 0, _, _, _, h => h
  | fuel + 1, _, _, _, h => ⟨h.1, fun i hi => wpOp_mono (fun a' w' h' => ⟨hS w' h'.1, wpAnyH_more hS fuel _ a' w' h'.2⟩) (h.2 i hi)⟩
end
theorem allocS {W1 w : World} (h : Below W1.heap.size W1 w) (o : Obj) : Below W1.heap.size W1 (w.alloc o) := h.alloc h.size o
theorem stepS {W1 w w2 : World} (h : Below W1.heap.size W1 w) (k : Below w.heap.size w w2) : Below W1.heap.size W1 w2 := h.trans (k.mono h.size)

/-- As LeafIs, Rep, but a variable's and a sort's list of levels may be any. -/
def LeafT (W : World) (B : Nat) (nd : Nd) : Tm → Prop
  | .var n => nd.kind = 118 ∧ nd.num = n
  | .sort l => nd.kind = 115 ∧ nd.text = l
  | .const nm ls => nd.kind = 99 ∧ nd.text = nm ∧ W.ownsRow B 9 1 nd.lv ls.length (ls.map sv)
  | _ => False
def RepT (W : World) (B : Nat) (ns : List Nd) : Nat → Tm → Prop
  | k, .var n => ∃ nd, ns[k]? = some nd ∧ LeafT W B nd (.var n)
  | k, .sort l => ∃ nd, ns[k]? = some nd ∧ LeafT W B nd (.sort l)
  | k, .const n ls => ∃ nd, ns[k]? = some nd ∧ LeafT W B nd (.const n ls)
  | k, .app f a => ∃ nd, ns[k]? = some nd ∧ nd.kind = 64 ∧ RepT W B ns nd.a f ∧ RepT W B ns nd.b a
  | k, .lam d b => ∃ nd, ns[k]? = some nd ∧ nd.kind = 108 ∧ RepT W B ns nd.a d ∧ RepT W B ns nd.b b
  | k, .pi d b => ∃ nd, ns[k]? = some nd ∧ nd.kind = 112 ∧ RepT W B ns nd.a d ∧ RepT W B ns nd.b b
  | k, .lett t v b => ∃ nd, ns[k]? = some nd ∧ nd.kind = 116 ∧ RepT W B ns nd.a t ∧ RepT W B ns nd.b v ∧ RepT W B ns nd.c b
theorem RepT.keep {W W' : World} {B : Nat} {ns ns' : List Nd} (hk : KeepS B W W') (he : Ext ns ns') : ∀ (t : Tm) (k : Nat), RepT W B ns k t → RepT W' B ns' k t
  | .var _, _, ⟨nd, h1, h2⟩ => ⟨nd, he _ _ h1, h2⟩
  | .sort _, _, ⟨nd, h1, h2⟩ => ⟨nd, he _ _ h1, h2⟩
  | .const _ _, _, ⟨nd, h1, h2, h3, h4⟩ => ⟨nd, he _ _ h1, h2, h3, hk _ _ _ h4⟩
  | .app f a, _, ⟨nd, h1, h2, h3, h4⟩ => ⟨nd, he _ _ h1, h2, RepT.keep hk he f _ h3, RepT.keep hk he a _ h4⟩
  | .lam f a, _, ⟨nd, h1, h2, h3, h4⟩ => ⟨nd, he _ _ h1, h2, RepT.keep hk he f _ h3, RepT.keep hk he a _ h4⟩
  | .pi f a, _, ⟨nd, h1, h2, h3, h4⟩ => ⟨nd, he _ _ h1, h2, RepT.keep hk he f _ h3, RepT.keep hk he a _ h4⟩
  | .lett f a b, _, ⟨nd, h1, h2, h3, h4, h5⟩ => ⟨nd, he _ _ h1, h2, RepT.keep hk he f _ h3, RepT.keep hk he a _ h4, RepT.keep hk he b _ h5⟩
theorem Rep.toT {W : World} {B : Nat} {ns : List Nd} : ∀ (t : Tm) (k : Nat), Rep W B ns k t → RepT W B ns k t
  | .var _, _, ⟨nd, h1, h2⟩ => ⟨nd, h1, h2.1, h2.2.1⟩
  | .sort _, _, ⟨nd, h1, h2⟩ => ⟨nd, h1, h2.1, h2.2.1⟩
  | .const _ _, _, ⟨nd, h1, h2⟩ => ⟨nd, h1, h2⟩
  | .app f a, _, ⟨nd, h1, h2, h3, h4⟩ => ⟨nd, h1, h2, Rep.toT f _ h3, Rep.toT a _ h4⟩
  | .lam f a, _, ⟨nd, h1, h2, h3, h4⟩ => ⟨nd, h1, h2, Rep.toT f _ h3, Rep.toT a _ h4⟩
  | .pi f a, _, ⟨nd, h1, h2, h3, h4⟩ => ⟨nd, h1, h2, Rep.toT f _ h3, Rep.toT a _ h4⟩
  | .lett f a b, _, ⟨nd, h1, h2, h3, h4, h5⟩ => ⟨nd, h1, h2, Rep.toT f _ h3, Rep.toT a _ h4, Rep.toT b _ h5⟩

end Go.Proofs.YtgmjbdndffdpoaaGreatDoor
