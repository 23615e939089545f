/-
  Plain lemmas on putting levels into terms: the nodes before and behind, and the length of the result.
-/
import Derived.Test.YtnklajagefedmaaGreatDoorFPost
import Derived.Test.YtnklajagefedmaaGreatDoorTText
import Derived.Test.YtnklajagefedmaaGreatDoorUMath
import Derived.Test.YtnklajagefedmaaGreatDoorVPutM
namespace Go.Proofs.YtnklajagefedmaaGreatDoor
set_option maxRecDepth 100000
open Go.ChangeShapes Go.WideShapes Go.ChangeAt Go.RowKit
set_option linter.unusedSimpArgs false

/-- No parameter of the text is greater. -/
def ParIn (m : Nat) (l : List UInt8) : Prop := ∀ p d q, l = p ++ 117 :: d :: q → d.toNat - 47 ≤ m
theorem ParIn.tail {m : Nat} {a l : List UInt8} (h : ParIn m (a ++ l)) : ParIn m l := fun p d q e => h (a ++ p) d q (by rw [e, List.append_assoc])
theorem ParIn.of {l : List UInt8} (h : levelOk l = true) : ParIn (levelParams l) l := fun p d q e => by
  have h1 := parF_ge l 0 p.length (by rw [e]; simp) (by simp [e])
  rw [levelParams, if_pos h]
  simpa [e] using h1
theorem putF_lv {args : List (List UInt8)} (ha : ∀ x ∈ args, levelOk x = true) : ∀ (t : Lv) (r : List UInt8), ParIn args.length (t.bytes ++ r) → ∃ t' : Lv, putF args (t.bytes ++ r) = t'.bytes ++ putF args r
  | .z, r, _ => ⟨.z, putF_step args (by decide) r⟩
  | .up t, r, h => by
    obtain ⟨t', e⟩ := putF_lv ha t r (ParIn.tail (a := [43]) h)
    exact ⟨.up t', by rw [Lv.bytes, List.cons_append, putF_step args (by decide), e]; rfl⟩
  | .mx a b, r, h => by
    have h1 : ParIn args.length (a.bytes ++ (b.bytes ++ r)) := ParIn.tail (a := [109]) (by simpa [Lv.bytes] using h)
    obtain ⟨a', ea⟩ := putF_lv ha a (b.bytes ++ r) h1
    obtain ⟨b', eb⟩ := putF_lv ha b r h1.tail
    exact ⟨.mx a' b', by rw [Lv.bytes, List.cons_append, putF_step args (by decide), List.append_assoc, ea, eb]; simp [Lv.bytes]⟩
  | .im a b, r, h => by
    have h1 : ParIn args.length (a.bytes ++ (b.bytes ++ r)) := ParIn.tail (a := [105]) (by simpa [Lv.bytes] using h)
    obtain ⟨a', ea⟩ := putF_lv ha a (b.bytes ++ r) h1
    obtain ⟨b', eb⟩ := putF_lv ha b r h1.tail
    exact ⟨.im a' b', by rw [Lv.bytes, List.cons_append, putF_step args (by decide), List.append_assoc, ea, eb]; simp [Lv.bytes]⟩
  | .par k, r, h => by
    have h1 := h [] (UInt8.ofNat (48 + k.val)) r (by simp [Lv.bytes])
    have hk := (Lv.par_byte k).2.2
    have h0 := (Lv.par_byte k).1
    have hlt : k.val < args.length := by omega
    have hx : args.getD k.val [] = args[k.val] := by simp [List.getD, hlt]
    obtain ⟨t', e⟩ := level_tree (ha args[k.val] (List.getElem_mem hlt))
    refine ⟨t', ?_⟩
    rw [Lv.bytes, List.cons_append, List.cons_append, putF_par, hk, hx, e]
    rfl
theorem levelPut_ok {l r : List UInt8} {args : List (List UInt8)} (h : levelPut l args = some r) : levelOk r = true ∧ args.length ≤ 3 := by
  unfold levelPut at h
  split at h
  · rename_i hc
    injection h with h
    subst h
    obtain ⟨h1, h2, h3, h4, h5⟩ := hc
    obtain ⟨t, rfl⟩ := level_tree h1
    obtain ⟨t', e⟩ := putF_lv (r := []) h4 t (by
      rw [List.append_nil]
      intro p d q e
      exact Nat.le_trans (ParIn.of h1 p d q e) h3)
    rw [List.append_nil, putF_nil, List.append_nil] at e
    rw [e] at h5 ⊢
    exact ⟨tree_ok t' h5, h2⟩
  · cases h

def SameN (nd nd' : Nd) : Prop := nd'.kind = nd.kind ∧ nd'.a = nd.a ∧ nd'.b = nd.b ∧ nd'.c = nd.c ∧ nd'.num = nd.num
/-- What becomes of a node. -/
def UpdT (W' : World) (B' : Nat) (args : List (List UInt8)) (nd nd' : Nd) : Tm → Prop
  | .sort l => SameN nd nd' ∧ levelPut l args = some nd'.text
  | .const _ ls => SameN nd nd' ∧ nd'.text = nd.text ∧ ∃ ls', (ls.mapM fun l => levelPut l args) = some ls' ∧ W'.ownsRow B' 9 1 nd'.lv ls'.length (ls'.map sv)
  | _ => SameN nd nd'
theorem rep_upd {W W' : World} {B B' : Nat} {ns ns' : List Nd} {args : List (List UInt8)} : ∀ (T : Tm) (k : Nat), RepP W B ns k T →
    (∀ (i : Nat) (u : Tm), T.post[i]? = some u → ∃ nd nd', ns[k + 1 - T.size + i]? = some nd ∧ ns'[k + 1 - T.size + i]? = some nd' ∧ UpdT W' B' args nd nd' u) →
    ∃ T', T.lvs args = some T' ∧ RepT W' B' ns' k T'
  | .var n, k, h, hu => by
    obtain ⟨nd, h1, h2⟩ := h.1
    obtain ⟨nd1, nd', g1, g2, g3⟩ := hu 0 _ rfl
    rw [show k + 1 - (Tm.var n).size + 0 = k from rfl] at g1 g2
    obtain rfl : nd = nd1 := Option.some.inj (h1.symm.trans g1)
    obtain ⟨s1, s2, s3, s4, s5⟩ : SameN nd nd' := g3
    exact ⟨.var n, rfl, nd', g2, s1.trans h2.1, s5.trans h2.2.1⟩
  | .sort l, k, h, hu => by
    obtain ⟨nd, h1, h2⟩ := h.1
    obtain ⟨nd1, nd', g1, g2, ⟨s1, _⟩, g3⟩ := hu 0 _ rfl
    rw [show k + 1 - (Tm.sort l).size + 0 = k from rfl] at g1 g2
    obtain rfl : nd = nd1 := Option.some.inj (h1.symm.trans g1)
    exact ⟨.sort nd'.text, by rw [Tm.lvs, g3]; rfl, nd', g2, s1.trans h2.1, rfl⟩
  | .const n ls, k, h, hu => by
    obtain ⟨nd, h1, h2⟩ := h.1
    obtain ⟨nd1, nd', g1, g2, ⟨s1, _⟩, g3, ls', g4, g5⟩ := hu 0 _ rfl
    rw [show k + 1 - (Tm.const n ls).size + 0 = k from rfl] at g1 g2
    obtain rfl : nd = nd1 := Option.some.inj (h1.symm.trans g1)
    exact ⟨.const n ls', by rw [Tm.lvs, g4]; rfl, nd', g2, s1.trans h2.1, g3.trans h2.2.1, g5⟩
  | .app f a, k, h, hu => by
    have hsz := h.at.1
    obtain ⟨⟨nd, h1, h2, h3, h4⟩, ⟨nd2, g1, g0, g2, g3, g4, g5⟩⟩ := h
    obtain rfl : nd = nd2 := Option.some.inj (h1.symm.trans g1)
    have l1 := f.post_len
    have l2 := a.post_len
    have hT : (Tm.app f a).size = f.size + a.size + 1 := rfl
    have z1 := f.size_pos
    have z2 := a.size_pos
    have y1 := (RepP.at f nd.a ⟨h3, g4⟩).1
    have y2 := (RepP.at a nd.b ⟨h4, g5⟩).1
    obtain ⟨f', e1, r1⟩ := rep_upd f nd.a ⟨h3, g4⟩ (fun i u hi => by
      have hlt : i < f.post.length := (List.getElem?_eq_some_iff.1 hi).1
      have := hu i u (by rw [Tm.post, List.getElem?_append_left hlt]; exact hi)
      rwa [show k + 1 - (Tm.app f a).size + i = nd.a + 1 - f.size + i by omega] at this)
    obtain ⟨a', e2, r2⟩ := rep_upd a nd.b ⟨h4, g5⟩ (fun i u hi => by
      have hlt : i < a.post.length := (List.getElem?_eq_some_iff.1 hi).1
      have := hu (f.size + i) u (by rw [Tm.post, List.getElem?_append_right (by omega), show f.size + i - f.post.length = i by omega, List.getElem?_append_left hlt]; exact hi)
      rwa [show k + 1 - (Tm.app f a).size + (f.size + i) = nd.b + 1 - a.size + i by omega] at this)
    obtain ⟨nd1, nd', x1, x2, x3⟩ := hu (f.size + a.size) (Tm.app f a) (by rw [Tm.post, List.getElem?_append_right (by omega), List.getElem?_append_right (by omega), show f.size + a.size - f.post.length - a.post.length = 0 by omega]; rfl)
    rw [show k + 1 - (Tm.app f a).size + (f.size + a.size) = k by omega] at x1 x2
    obtain rfl : nd = nd1 := Option.some.inj (h1.symm.trans x1)
    obtain ⟨s1, s2, s3, s4, s5⟩ : SameN nd nd' := x3
    exact ⟨.app f' a', by rw [Tm.lvs, e1, e2]; rfl, nd', x2, s1.trans h2, by rw [s2]; exact r1, by rw [s3]; exact r2⟩
  | .lam f a, k, h, hu => by
    have hsz := h.at.1
    obtain ⟨⟨nd, h1, h2, h3, h4⟩, ⟨nd2, g1, g0, g2, g3, g4, g5⟩⟩ := h
    obtain rfl : nd = nd2 := Option.some.inj (h1.symm.trans g1)
    have l1 := f.post_len
    have l2 := a.post_len
    have hT : (Tm.lam f a).size = f.size + a.size + 1 := rfl
    have z1 := f.size_pos
    have z2 := a.size_pos
    have y1 := (RepP.at f nd.a ⟨h3, g4⟩).1
    have y2 := (RepP.at a nd.b ⟨h4, g5⟩).1
    obtain ⟨f', e1, r1⟩ := rep_upd f nd.a ⟨h3, g4⟩ (fun i u hi => by
      have hlt : i < f.post.length := (List.getElem?_eq_some_iff.1 hi).1
      have := hu i u (by rw [Tm.post, List.getElem?_append_left hlt]; exact hi)
      rwa [show k + 1 - (Tm.lam f a).size + i = nd.a + 1 - f.size + i by omega] at this)
    obtain ⟨a', e2, r2⟩ := rep_upd a nd.b ⟨h4, g5⟩ (fun i u hi => by
      have hlt : i < a.post.length := (List.getElem?_eq_some_iff.1 hi).1
      have := hu (f.size + i) u (by rw [Tm.post, List.getElem?_append_right (by omega), show f.size + i - f.post.length = i by omega, List.getElem?_append_left hlt]; exact hi)
      rwa [show k + 1 - (Tm.lam f a).size + (f.size + i) = nd.b + 1 - a.size + i by omega] at this)
    obtain ⟨nd1, nd', x1, x2, x3⟩ := hu (f.size + a.size) (Tm.lam f a) (by rw [Tm.post, List.getElem?_append_right (by omega), List.getElem?_append_right (by omega), show f.size + a.size - f.post.length - a.post.length = 0 by omega]; rfl)
    rw [show k + 1 - (Tm.lam f a).size + (f.size + a.size) = k by omega] at x1 x2
    obtain rfl : nd = nd1 := Option.some.inj (h1.symm.trans x1)
    obtain ⟨s1, s2, s3, s4, s5⟩ : SameN nd nd' := x3
    exact ⟨.lam f' a', by rw [Tm.lvs, e1, e2]; rfl, nd', x2, s1.trans h2, by rw [s2]; exact r1, by rw [s3]; exact r2⟩
  | .pi f a, k, h, hu => by
    have hsz := h.at.1
    obtain ⟨⟨nd, h1, h2, h3, h4⟩, ⟨nd2, g1, g0, g2, g3, g4, g5⟩⟩ := h
    obtain rfl : nd = nd2 := Option.some.inj (h1.symm.trans g1)
    have l1 := f.post_len
    have l2 := a.post_len
    have hT : (Tm.pi f a).size = f.size + a.size + 1 := rfl
    have z1 := f.size_pos
    have z2 := a.size_pos
    have y1 := (RepP.at f nd.a ⟨h3, g4⟩).1
    have y2 := (RepP.at a nd.b ⟨h4, g5⟩).1
    obtain ⟨f', e1, r1⟩ := rep_upd f nd.a ⟨h3, g4⟩ (fun i u hi => by
      have hlt : i < f.post.length := (List.getElem?_eq_some_iff.1 hi).1
      have := hu i u (by rw [Tm.post, List.getElem?_append_left hlt]; exact hi)
      rwa [show k + 1 - (Tm.pi f a).size + i = nd.a + 1 - f.size + i by omega] at this)
    obtain ⟨a', e2, r2⟩ := rep_upd a nd.b ⟨h4, g5⟩ (fun i u hi => by
      have hlt : i < a.post.length := (List.getElem?_eq_some_iff.1 hi).1
      have := hu (f.size + i) u (by rw [Tm.post, List.getElem?_append_right (by omega), show f.size + i - f.post.length = i by omega, List.getElem?_append_left hlt]; exact hi)
      rwa [show k + 1 - (Tm.pi f a).size + (f.size + i) = nd.b + 1 - a.size + i by omega] at this)
    obtain ⟨nd1, nd', x1, x2, x3⟩ := hu (f.size + a.size) (Tm.pi f a) (by rw [Tm.post, List.getElem?_append_right (by omega), List.getElem?_append_right (by omega), show f.size + a.size - f.post.length - a.post.length = 0 by omega]; rfl)
    rw [show k + 1 - (Tm.pi f a).size + (f.size + a.size) = k by omega] at x1 x2
    obtain rfl : nd = nd1 := Option.some.inj (h1.symm.trans x1)
    obtain ⟨s1, s2, s3, s4, s5⟩ : SameN nd nd' := x3
    exact ⟨.pi f' a', by rw [Tm.lvs, e1, e2]; rfl, nd', x2, s1.trans h2, by rw [s2]; exact r1, by rw [s3]; exact r2⟩
  | .lett f a b, k, h, hu => by
    have hsz := h.at.1
    obtain ⟨⟨nd, h1, h2, h3, h4, h5⟩, ⟨nd2, g1, g0, g2, g3, g4, g5, g6, g7⟩⟩ := h
    obtain rfl : nd = nd2 := Option.some.inj (h1.symm.trans g1)
    have l1 := f.post_len
    have l2 := a.post_len
    have l3 := b.post_len
    have hT : (Tm.lett f a b).size = f.size + a.size + b.size + 1 := rfl
    have z1 := f.size_pos
    have z2 := a.size_pos
    have z3 := b.size_pos
    have y1 := (RepP.at f nd.a ⟨h3, g5⟩).1
    have y2 := (RepP.at a nd.b ⟨h4, g6⟩).1
    have y3 := (RepP.at b nd.c ⟨h5, g7⟩).1
    obtain ⟨f', e1, r1⟩ := rep_upd f nd.a ⟨h3, g5⟩ (fun i u hi => by
      have hlt : i < f.post.length := (List.getElem?_eq_some_iff.1 hi).1
      have := hu i u (by rw [Tm.post, List.getElem?_append_left hlt]; exact hi)
      rwa [show k + 1 - (Tm.lett f a b).size + i = nd.a + 1 - f.size + i by omega] at this)
    obtain ⟨a', e2, r2⟩ := rep_upd a nd.b ⟨h4, g6⟩ (fun i u hi => by
      have hlt : i < a.post.length := (List.getElem?_eq_some_iff.1 hi).1
      have := hu (f.size + i) u (by rw [Tm.post, List.getElem?_append_right (by omega), show f.size + i - f.post.length = i by omega, List.getElem?_append_left hlt]; exact hi)
      rwa [show k + 1 - (Tm.lett f a b).size + (f.size + i) = nd.b + 1 - a.size + i by omega] at this)
    obtain ⟨b', e3, r3⟩ := rep_upd b nd.c ⟨h5, g7⟩ (fun i u hi => by
      have hlt : i < b.post.length := (List.getElem?_eq_some_iff.1 hi).1
      have := hu (f.size + a.size + i) u (by rw [Tm.post, List.getElem?_append_right (by omega), List.getElem?_append_right (by omega), show f.size + a.size + i - f.post.length - a.post.length = i by omega, List.getElem?_append_left hlt]; exact hi)
      rwa [show k + 1 - (Tm.lett f a b).size + (f.size + a.size + i) = nd.c + 1 - b.size + i by omega] at this)
    obtain ⟨nd1, nd', x1, x2, x3⟩ := hu (f.size + a.size + b.size) (Tm.lett f a b) (by rw [Tm.post, List.getElem?_append_right (by omega), List.getElem?_append_right (by omega), List.getElem?_append_right (by omega), show f.size + a.size + b.size - f.post.length - a.post.length - b.post.length = 0 by omega]; rfl)
    rw [show k + 1 - (Tm.lett f a b).size + (f.size + a.size + b.size) = k by omega] at x1 x2
    obtain rfl : nd = nd1 := Option.some.inj (h1.symm.trans x1)
    obtain ⟨s1, s2, s3, s4, s5⟩ : SameN nd nd' := x3
    exact ⟨.lett f' a' b', by rw [Tm.lvs, e1, e2, e3]; rfl, nd', x2, s1.trans h2, by rw [s2]; exact r1, by rw [s3]; exact r2, by rw [s4]; exact r3⟩
/-- Where levels can be put into a whole term, they can be put into each of its nodes. -/
def PutsOk (args : List (List UInt8)) : Tm → Prop
  | .sort l => ∃ r, levelPut l args = some r
  | .const _ ls => ∃ r, (ls.mapM fun l => levelPut l args) = some r
  | _ => True
theorem lvs_post {args : List (List UInt8)} : ∀ (T T' : Tm), T.lvs args = some T' → ∀ u ∈ T.post, PutsOk args u
  | .var n, _, _, u, hu => by simp [Tm.post] at hu; subst hu; trivial
  | .sort l, _, h, u, hu => by
    simp [Tm.post] at hu; subst hu
    obtain ⟨r, hr, _⟩ := Option.map_eq_some_iff.1 (show (levelPut l args).map Tm.sort = some _ from h)
    exact ⟨r, hr⟩
  | .const n ls, _, h, u, hu => by
    simp [Tm.post] at hu; subst hu
    obtain ⟨r, hr, _⟩ := Option.map_eq_some_iff.1 (show (ls.mapM fun l => levelPut l args).map (Tm.const n) = some _ from h)
    exact ⟨r, hr⟩
  | .app f a, _, h, u, hu => by
    obtain ⟨f', hf, h2⟩ := Option.bind_eq_some_iff.1 (show (Tm.lvs args f).bind (fun f' => (Tm.lvs args a).map (Tm.app f')) = some _ from h)
    obtain ⟨a', ha, _⟩ := Option.map_eq_some_iff.1 h2
    simp only [Tm.post, List.mem_append, List.mem_singleton] at hu
    rcases hu with hu | hu | rfl
    · exact lvs_post f f' hf u hu
    · exact lvs_post a a' ha u hu
    · trivial
  | .lam f a, _, h, u, hu => by
    obtain ⟨f', hf, h2⟩ := Option.bind_eq_some_iff.1 (show (Tm.lvs args f).bind (fun f' => (Tm.lvs args a).map (Tm.lam f')) = some _ from h)
    obtain ⟨a', ha, _⟩ := Option.map_eq_some_iff.1 h2
    simp only [Tm.post, List.mem_append, List.mem_singleton] at hu
    rcases hu with hu | hu | rfl
    · exact lvs_post f f' hf u hu
    · exact lvs_post a a' ha u hu
    · trivial
  | .pi f a, _, h, u, hu => by
    obtain ⟨f', hf, h2⟩ := Option.bind_eq_some_iff.1 (show (Tm.lvs args f).bind (fun f' => (Tm.lvs args a).map (Tm.pi f')) = some _ from h)
    obtain ⟨a', ha, _⟩ := Option.map_eq_some_iff.1 h2
    simp only [Tm.post, List.mem_append, List.mem_singleton] at hu
    rcases hu with hu | hu | rfl
    · exact lvs_post f f' hf u hu
    · exact lvs_post a a' ha u hu
    · trivial
  | .lett f a b, _, h, u, hu => by
    obtain ⟨f', hf, h2⟩ := Option.bind_eq_some_iff.1 (show (Tm.lvs args f).bind (fun f' => (Tm.lvs args a).bind fun a' => (Tm.lvs args b).map (Tm.lett f' a')) = some _ from h)
    obtain ⟨a', ha, h3⟩ := Option.bind_eq_some_iff.1 h2
    obtain ⟨b', hb, _⟩ := Option.map_eq_some_iff.1 h3
    simp only [Tm.post, List.mem_append, List.mem_singleton] at hu
    rcases hu with hu | hu | hu | rfl
    · exact lvs_post f f' hf u hu
    · exact lvs_post a a' ha u hu
    · exact lvs_post b b' hb u hu
    · trivial
theorem mapM_puts {args : List (List UInt8)} : ∀ {ls r : List (List UInt8)}, (ls.mapM fun l => levelPut l args) = some r → r.length = ls.length ∧ ∀ x ∈ r, levelOk x = true
  | [], r, h => by simp at h; subst h; simp
  | l :: ls, r, h => by
    rw [List.mapM_cons] at h
    obtain ⟨x, hx, h2⟩ := Option.bind_eq_some_iff.1 h
    obtain ⟨r', hr, h3⟩ := Option.bind_eq_some_iff.1 h2
    cases h3
    obtain ⟨k1, k2⟩ := mapM_puts hr
    refine ⟨by simp [k1], fun y hy => ?_⟩
    rcases List.mem_cons.1 hy with rfl | hy
    · exact (levelPut_ok hx).1
    · exact k2 y hy
theorem lvsB_61 : ∀ {ls : List (List UInt8)}, (∀ y ∈ ls, levelOk y = true) → (lvsB ls).length ≤ ls.length * 61 ∧ ls.length * 2 ≤ (lvsB ls).length
  | [], _ => by simp [lvsB]
  | x :: r, h => by
    have h0 := h x List.mem_cons_self
    have h1 := (levelOk_len h0).1
    have h3 : 1 ≤ x.length := List.length_pos_iff.2 (levelOk_ne h0)
    have h2 := lvsB_61 (ls := r) fun y hy => h y (List.mem_cons_of_mem _ hy)
    simp only [lvsB, List.length_append, List.length_cons]
    omega
theorem lvs_ok {args : List (List UInt8)} : ∀ (T T' : Tm), T.Ok → T.lvs args = some T' → T'.Ok ∧ T'.bytes.length ≤ 31 * T.bytes.length
  | .var n, _, hk, h => by
    cases (show some (Tm.var n) = some _ from h)
    exact ⟨hk, by omega⟩
  | .sort l, _, hk, h => by
    obtain ⟨r, hr, rfl⟩ := Option.map_eq_some_iff.1 (show (levelPut l args).map Tm.sort = some _ from h)
    have h1 := (levelPut_ok hr).1
    refine ⟨h1, ?_⟩
    have h2 := (levelOk_len h1).1
    simp only [Tm.bytes, List.length_cons, List.length_append, List.length_nil]
    omega
  | .const n ls, _, hk, h => by
    obtain ⟨r, hr, rfl⟩ := Option.map_eq_some_iff.1 (show (ls.mapM fun l => levelPut l args).map (Tm.const n) = some _ from h)
    obtain ⟨h1, h2⟩ := mapM_puts hr
    refine ⟨⟨hk.1, by rw [h1]; exact hk.2.1, h2⟩, ?_⟩
    have k1 := (lvsB_61 h2).1
    have k2 := (lvsB_61 hk.2.2).2
    simp only [Tm.bytes, List.length_cons, List.length_append, List.length_nil]
    omega
  | .app f a, _, hk, h => by
    obtain ⟨f', hf, h2⟩ := Option.bind_eq_some_iff.1 (show (Tm.lvs args f).bind (fun f' => (Tm.lvs args a).map (Tm.app f')) = some _ from h)
    obtain ⟨a', ha, rfl⟩ := Option.map_eq_some_iff.1 h2
    obtain ⟨k1, k2⟩ := lvs_ok f f' hk.1 hf
    obtain ⟨k3, k4⟩ := lvs_ok a a' hk.2 ha
    refine ⟨⟨k1, k3⟩, ?_⟩
    simp only [Tm.bytes, List.length_cons, List.length_append]
    omega
  | .lam f a, _, hk, h => by
    obtain ⟨f', hf, h2⟩ := Option.bind_eq_some_iff.1 (show (Tm.lvs args f).bind (fun f' => (Tm.lvs args a).map (Tm.lam f')) = some _ from h)
    obtain ⟨a', ha, rfl⟩ := Option.map_eq_some_iff.1 h2
    obtain ⟨k1, k2⟩ := lvs_ok f f' hk.1 hf
    obtain ⟨k3, k4⟩ := lvs_ok a a' hk.2 ha
    refine ⟨⟨k1, k3⟩, ?_⟩
    simp only [Tm.bytes, List.length_cons, List.length_append]
    omega
  | .pi f a, _, hk, h => by
    obtain ⟨f', hf, h2⟩ := Option.bind_eq_some_iff.1 (show (Tm.lvs args f).bind (fun f' => (Tm.lvs args a).map (Tm.pi f')) = some _ from h)
    obtain ⟨a', ha, rfl⟩ := Option.map_eq_some_iff.1 h2
    obtain ⟨k1, k2⟩ := lvs_ok f f' hk.1 hf
    obtain ⟨k3, k4⟩ := lvs_ok a a' hk.2 ha
    refine ⟨⟨k1, k3⟩, ?_⟩
    simp only [Tm.bytes, List.length_cons, List.length_append]
    omega
  | .lett f a b, _, hk, h => by
    obtain ⟨f', hf, h2⟩ := Option.bind_eq_some_iff.1 (show (Tm.lvs args f).bind (fun f' => (Tm.lvs args a).bind fun a' => (Tm.lvs args b).map (Tm.lett f' a')) = some _ from h)
    obtain ⟨a', ha, h3⟩ := Option.bind_eq_some_iff.1 h2
    obtain ⟨b', hb, rfl⟩ := Option.map_eq_some_iff.1 h3
    obtain ⟨k1, k2⟩ := lvs_ok f f' hk.1 hf
    obtain ⟨k3, k4⟩ := lvs_ok a a' hk.2.1 ha
    obtain ⟨k5, k6⟩ := lvs_ok b b' hk.2.2 hb
    refine ⟨⟨k1, k3, k5⟩, ?_⟩
    simp only [Tm.bytes, List.length_cons, List.length_append]
    omega
noncomputable def termLevels (l : List UInt8) (args : List (List UInt8)) : Option (List UInt8) := match termOf l with
  | some T => if args.length ≤ 3 then (T.lvs args).bind fun T' => if T'.bytes.length ≤ 2000 then some T'.bytes else none else none
  | none => none
end Go.Proofs.YtnklajagefedmaaGreatDoor
