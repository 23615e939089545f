/-
  Contracts of impl.readTerms and impl.applied.
  Plain lemmas on putting levels into terms: the nodes before and behind, and the length of the result.
  Plain lemmas: a term said after what has been said; what Lifted and PutIn answer; no function of the program is named here.
  Plain lemmas: the leaves of a term changed one by one, with a state; texts of trees whose leaves may be beyond their limits; no function of the program is named here.
  The contract of impl.textWithin.
  The contract of impl.Given.
-/
import Derived.Test.YtgielbamebjjdaaGreatDoorE1
import Derived.Test.YtgielbamebjjdaaGreatDoorListsP
import Derived.Test.YtgielbamebjjdaaGreatDoorP3
import Derived.Test.YtgielbamebjjdaaGreatDoorF1
import Derived.Test.YtgielbamebjjdaaGreatDoorE2
import Derived.Test.YtgielbamebjjdaaGreatDoorV1
import Derived.Test.YtgielbamebjjdaaGreatDoorP1
import Derived.Test.YtgielbamebjjdaaGreatDoorQ1
namespace Go.Proofs.YtgielbamebjjdaaGreatDoor
set_option maxRecDepth 100000
open Go.ChangeShapes Go.WideShapes Go.ChangeAt Go.RowKit
set_option linter.unusedSimpArgs false
set_option linter.unusedVariables false

/-- Texts that are all terms. -/
def AllTm (ls : List (List UInt8)) (ts : List Tm) : Prop := ts.map Tm.bytes = ls ∧ ∀ t ∈ ts, IsTm t.bytes t
theorem AllTm.snoc {ls : List (List UInt8)} {ts : List Tm} {x : List UInt8} {t : Tm} (h : AllTm ls ts) (ht : IsTm x t) : AllTm (ls ++ [x]) (ts ++ [t]) := by
  refine ⟨?_, fun u hu => ?_⟩
  · rw [List.map_append, h.1]
    simp [ht.2.1]
  · rcases List.mem_append.1 hu with h1 | h1
    · exact h.2 u h1
    · simp only [List.mem_cons, List.not_mem_nil, or_false] at h1
      subst h1
      rw [ht.2.1]
      exact ht
theorem AllTm.len {ls : List (List UInt8)} {ts : List Tm} (h : AllTm ls ts) : ts.length = ls.length := by rw [← h.1, List.length_map]
theorem flat_takeJ (ls : List (List UInt8)) (k : Nat) : (ls.take k).flatten.length ≤ ls.flatten.length := by
  have h := congrArg List.length (congrArg List.flatten (List.take_append_drop k ls))
  rw [List.flatten_append, List.length_append] at h
  omega
/-- The terms with these texts, or none: one is no term, or all of them together are too long. -/
def ReadsAns (ls : List (List UInt8)) (W : World) (e : Ending) (W' : World) : Prop :=
  Below W.heap.size W W' ∧
  ((∃ ts u vs, AllTm ls ts ∧ ls.flatten.length ≤ 2000 ∧ ls.length ≤ 2000 ∧ e = .returned (.tuple #[u, .bool true]) ∧ W'.ownsRow W.heap.size 66 1 u ts.length vs ∧ IReps W' ts vs) ∨
   (((∃ a ∈ ls, ∀ t, ¬ IsTm a t) ∨ 2000 < ls.flatten.length) ∧ e = .returned (.tuple #[.slice none 0 0, .bool false])))

set_option maxHeartbeats 4000000 in
theorem implReadTerms {W : World} {b : Nat} {v : Value} {ls : List (List UInt8)} (hv : Vars W) (h : W.ownsRow b 9 1 v ls.length (ls.map sv)) (hn : ls.length ≤ 1048576) (hx : ∀ x ∈ ls, x.length ≤ 1048576) :
    Calls Tryz.prog 55 #[v] W (ReadsAns ls W) := by
  obtain ⟨i0, hi, hz0, hz1, hz2⟩ := info_parts infoTerm
  obtain ⟨ua, uc, rfl⟩ := row_slice h
  have HX := Lib.hid hx
  have HV := Lib.hid hv
  have HH := Lib.hid h
  clear hx hv h
  go_enter Tryz.func55, Tryz.ntmps55
  go_wp2
  go_loopw [4, 5, 12] (fun tv zv i wr => ∃ (k z : Nat) (ts : List Tm) (vs : List Value) (oo : Value), k ≤ ls.length ∧ i = .int .i64 k ∧ zv = .int .i64 (z : Int) ∧ oo = tv ∧ z ≤ 2000 ∧ k ≤ z ∧ Hid (z = (ls.take k).flatten.length ∧ AllTm (ls.take k) ts) ∧ Hid (wr.ownsRow W.heap.size 66 1 oo k vs ∧ IReps wr ts vs) ∧ Hid (Below W.heap.size W wr)) (fun _ _ i _ => ls.length - (intOf i).toNat)
  case atStart => exact ⟨0, 0, [], [], _, Nat.zero_le _, rfl, rfl, rfl, Nat.zero_le _, Nat.le_refl _, ⟨by simp, rfl, by simp⟩, ⟨World.ownsRow_nil _ _ _ _, trivial⟩, Below.refl _ _⟩
  case round =>
    obtain ⟨k, z, ts, vs, oo, hk, rfl, rfl, rfl, hz, hkz, HT, HO, HB⟩ := hrel
    by_cases hlt : k < ls.length
    · have hu := own_below HH.out HB.out
      obtain ⟨g, cap', e0, _, hgl⟩ := hu.form (by omega)
      cases e0
      have ex : (ls.map sv)[k]? = some (sv ls[k]) := by simp [hlt]
      have cc := (hu.cellAt k (by omega)).trans ex
      unfold sv at cc
      have hxl := HX.out ls[k] (List.getElem_mem hlt)
      have f1 := Lib.hid (implReadTerm ⟨ls[k].toArray⟩ wr (HV.out.below HB.out) (by simp only [ByteArray.size, List.size_toArray, maxLen]; omega))
      have hzx := size_sv ls[k]
      have HS := Lib.hid (List.take_succ_eq_append_getElem hlt)
      have HM : Hid (ls[k] ∈ ls) := List.getElem_mem hlt
      have HF := Lib.hid (flat_takeJ ls (k + 1))
      simp only at f1
      generalize ls[k] = x at cc hxl f1 hzx HS HM
      have q1 : (0 : Int) ≤ (k : Int) := by omega
      have q2 : (k : Int) < (ls.length : Int) := by omega
      clear ex hu hgl
      go_wp2_with fail
      (with_reducible refine f1.out.mono ?_); rintro e w1 ⟨hb1, ⟨t, tv', ht, rfl, hr⟩ | ⟨hno, rfl⟩⟩
      rotate_left
      · have HB1 : Hid (Below W.heap.size W w1) := HB.out.trans (hb1.mono HB.out.size)
        have HN := Lib.hid hno
        clear hb1 hno f1
        go_wp2
        go_ret2
        exact ⟨HB1.out, .inr ⟨.inl ⟨x, HM.out, HN.out⟩, rfl⟩⟩
      have HB1 : Hid (Below W.heap.size W w1) := HB.out.trans (hb1.mono HB.out.size)
      have hx1 : 1 ≤ x.length := by
        obtain ⟨p, hp⟩ := t.bytes_head
        have := ht.2.1
        rw [hp] at this
        rw [← this, List.length_cons]
        omega
      by_cases hlong : 2000 < z + x.length
      · have HL : Hid (2000 < ls.flatten.length) := by
          have h1 := HF.out
          have h2 := HT.out.1
          rw [HS.out, List.flatten_append, List.length_append] at h1
          simp only [List.flatten_cons, List.flatten_nil, List.append_nil] at h1
          show 2000 < ls.flatten.length
          omega
        have d1 : decide ((2000 : Int) < (z : Int) + (x.length : Int)) = true := decide_eq_true (by omega)
        clear hb1 ht hr f1
        go_wp2
        go_ret2
        exact ⟨HB1.out, .inr ⟨.inr HL.out, rfl⟩⟩
      have d1 : decide ((2000 : Int) < (z : Int) + (x.length : Int)) = false := decide_eq_false (by omega)
      have ho1 := own_below HO.out.1 hb1
      have HI1 : Hid (IReps w1 (ts ++ [t]) (vs ++ [tv'])) := IReps.snoc hr (HO.out.2.below hb1)
      have HT1 : Hid (z + x.length = (ls.take (k + 1)).flatten.length ∧ AllTm (ls.take (k + 1)) (ts ++ [t])) := by
        have h2 := HT.out
        rw [Hid, HS.out]
        refine ⟨?_, h2.2.snoc ht⟩
        simp only [List.flatten_append, List.length_append, List.flatten_cons, List.flatten_nil, List.append_nil]
        omega
      obtain ⟨T, y, rfl⟩ := hr.iface
      have hz1b := HB1.out.size
      clear hb1 ht hr f1 HO HT HB
      go_wp2_with (at_builtin; refine wpList_append_own _ rfl _ _ 69 rfl W.heap.size 66 i0 _ 1 16 Tryz.underlying69 hi hz0 hz1 hz2 rfl (by decide) _ _ _ rfl (ho1.alloc _) ⟨w1.heap.size, 0, none⟩ 1 1 [.iface T y] rfl rfl (oneNew _ _ _) (by simp [Value.oneCell']) (by simp only [maxLen]; omega) (by omega) (by simp; omega) ?_)
      intro v4 w4 ho4 hg4 _
      have HO4 : Hid (w4.ownsRow W.heap.size 66 1 v4 (k + 1) (vs ++ [.iface T y])) := ho4
      have HI4 : Hid (IReps w4 (ts ++ [t]) (vs ++ [.iface T y])) := IReps.grown hg4 (NoStr.own (ho1.alloc _) (by decide)) (HI1.out.below (Below.alloc (Below.refl _ _) (Nat.le_refl _) _))
      have HB4 : Hid (Below W.heap.size W w4) := (HB1.out.alloc HB1.out.size _).grown hg4 (by simp; have := HB1.out.size; omega) (fun j hj => (ho1.lt j hj).1)
      clear ho4 hg4 ho1 HI1 HB1
      go_wp2
      go_roundw
      case rel => exact ⟨k + 1, z + x.length, _, _, _, by omega, by go_num, by go_num, rfl, by omega, by omega, HT1.out, ⟨HO4.out, HI4.out⟩, HB4.out⟩
      case measure => simp [intOf]; omega
    · obtain rfl : k = ls.length := by omega
      have HT1 : Hid (ls.flatten.length ≤ 2000 ∧ AllTm ls ts ∧ ls.length ≤ 2000) := by
        have h2 := HT.out
        rw [List.take_length] at h2
        refine ⟨by omega, h2.2, by omega⟩
      clear HT
      go_wp2
      go_ret2
      have hl := HT1.out.2.1.len
      refine ⟨HB.out, .inl ⟨ts, _, vs, HT1.out.2.1, HT1.out.1, HT1.out.2.2, rfl, ?_, HO.out.2⟩⟩
      rw [hl]
      exact HO.out.1

theorem given_snoc (h : Tm) (ts : List Tm) (a : Tm) : h.given (ts ++ [a]) = .app (h.given ts) a := by simp [Tm.given]
set_option maxHeartbeats 4000000 in
theorem implApplied {W : World} {t : Tm} {v u : Value} {b : Nat} {ts : List Tm} {vs : List Value} (hr : IRep W t v) (h : W.ownsRow b 66 1 u ts.length vs) (hs : IReps W ts vs) (hn : ts.length ≤ 100000) :
    Calls Tryz.prog 57 #[v, u] W fun e W' => Below W.heap.size W W' ∧ ∃ v', e = .returned v' ∧ IRep W' (t.given ts) v' := by
  obtain ⟨ua, uc, rfl⟩ := row_slice h
  have hvl := hs.len
  have hv1 : vs.length ≤ ts.length := by omega
  have hv2 : ts.length ≤ vs.length := by omega
  have HR := Lib.hid hr
  have HS := Lib.hid hs
  have HH := Lib.hid h
  clear hr hs h hvl
  go_enter Tryz.func57, Tryz.ntmps57
  go_wp2
  go_loopw [0, 9] (fun o i wr => ∃ (k : Nat) (oo : Value), k ≤ ts.length ∧ i = .int .i64 k ∧ oo = o ∧ Hid (IRep wr (t.given (ts.take k)) oo) ∧ Hid (Below W.heap.size W wr)) (fun _ i _ => ts.length - (intOf i).toNat)
  case atStart => exact ⟨0, _, Nat.zero_le _, rfl, rfl, HR.out, Below.refl _ _⟩
  case round =>
    obtain ⟨k, oo, hk, rfl, rfl, HI, HB⟩ := hrel
    by_cases hlt : k < ts.length
    · have hu := own_below HH.out HB.out
      obtain ⟨g, cap', e0, _, hgl⟩ := hu.form (by omega)
      cases e0
      have ex : vs[k]? = some vs[k] := by simp
      have cc := (hu.cellAt k (by omega)).trans ex
      have hr2 := (HS.out.below HB.out).at k hlt (by omega)
      obtain ⟨T, x, e1⟩ := hr2.iface
      have HR2 : Hid (IRep wr ts[k] (.iface T x)) := by rw [Hid, ← e1]; exact hr2
      rw [e1] at cc
      obtain ⟨T0, x0, rfl⟩ := HI.out.iface
      have HG : Hid (t.given (ts.take (k + 1)) = .app (t.given (ts.take k)) ts[k]) := by rw [Hid, List.take_succ_eq_append_getElem hlt, given_snoc]
      have q1 : (0 : Int) ≤ (k : Int) := by omega
      have q2 : (k : Int) < (ts.length : Int) := by omega
      clear ex hu hr2 e1
      go_wp2
      go_roundw
      case rel =>
        refine ⟨k + 1, _, by omega, by go_num, rfl, ?_, HB.out.alloc HB.out.size _⟩
        rw [Hid, HG.out]
        exact ⟨_, _, _, rfl, heap_alloc_new _ _, HI.out.below (Below.alloc (Below.refl _ _) (Nat.le_refl _) _), HR2.out.below (Below.alloc (Below.refl _ _) (Nat.le_refl _) _)⟩
      case measure => simp [intOf]; omega
    · obtain rfl : k = ts.length := by omega
      have HI2 : Hid (IRep wr (t.given ts) oo) := by have := HI.out; rw [List.take_length] at this; exact this
      clear HI
      go_wp2
      go_ret
      exact ⟨HB.out, _, rfl, HI2.out⟩
end Go.Proofs.YtgielbamebjjdaaGreatDoor

namespace Go.Proofs.YtgielbamebjjdaaGreatDoor
set_option maxRecDepth 100000
open Go.ChangeShapes Go.WideShapes Go.ChangeAt Go.RowKit
set_option linter.unusedSimpArgs false

/-- No parameter of the text is greater. -/
def ParIn (m : Nat) (l : List UInt8) : Prop := ∀ p d q, l = p ++ 117 :: d :: q → d.toNat - 47 ≤ m
theorem ParIn.tail {m : Nat} {a l : List UInt8} (h : ParIn m (a ++ l)) : ParIn m l := fun p d q e => h (a ++ p) d q (by rw [e, List.append_assoc])
theorem ParIn.of {l : List UInt8} (h : levelOk l = true) : ParIn (levelParams l) l := fun p d q e => by
  have h1 := parF_ge l 0 p.length (by rw [e]; simp) (by simp [e])
  rw [levelParams, if_pos h]
  simpa [e] using h1
theorem putF_lv {args : List (List UInt8)} (ha : ∀ x ∈ args, levelOk x = true) : ∀ (t : Lv) (r : List UInt8), ParIn args.length (t.bytes ++ r) → ∃ t' : Lv, putF args (t.bytes ++ r) = t'.bytes ++ putF args r
  | .z, r, _ => ⟨.z, putF_step args (by decide) r⟩
  | .up t, r, h => by
    obtain ⟨t', e⟩ := putF_lv ha t r (ParIn.tail (a := [43]) h)
    exact ⟨.up t', by rw [Lv.bytes, List.cons_append, putF_step args (by decide), e]; rfl⟩
  | .mx a b, r, h => by
    have h1 : ParIn args.length (a.bytes ++ (b.bytes ++ r)) := ParIn.tail (a := [109]) (by simpa [Lv.bytes] using h)
    obtain ⟨a', ea⟩ := putF_lv ha a (b.bytes ++ r) h1
    obtain ⟨b', eb⟩ := putF_lv ha b r h1.tail
    exact ⟨.mx a' b', by rw [Lv.bytes, List.cons_append, putF_step args (by decide), List.append_assoc, ea, eb]; simp [Lv.bytes]⟩
  | .im a b, r, h => by
    have h1 : ParIn args.length (a.bytes ++ (b.bytes ++ r)) := ParIn.tail (a := [105]) (by simpa [Lv.bytes] using h)
    obtain ⟨a', ea⟩ := putF_lv ha a (b.bytes ++ r) h1
    obtain ⟨b', eb⟩ := putF_lv ha b r h1.tail
    exact ⟨.im a' b', by rw [Lv.bytes, List.cons_append, putF_step args (by decide), List.append_assoc, ea, eb]; simp [Lv.bytes]⟩
  | .par k, r, h => by
    have h1 := h [] (UInt8.ofNat (48 + k.val)) r (by simp [Lv.bytes])
    have hk := (Lv.par_byte k).2.2
    have h0 := (Lv.par_byte k).1
    have hlt : k.val < args.length := by omega
    have hx : args.getD k.val [] = args[k.val] := by simp [List.getD, hlt]
    obtain ⟨t', e⟩ := level_tree (ha args[k.val] (List.getElem_mem hlt))
    refine ⟨t', ?_⟩
    rw [Lv.bytes, List.cons_append, List.cons_append, putF_par, hk, hx, e]
    rfl
theorem levelPut_ok {l r : List UInt8} {args : List (List UInt8)} (h : levelPut l args = some r) : levelOk r = true ∧ args.length ≤ 3 := by
  unfold levelPut at h
  split at h
  · rename_i hc
    injection h with h
    subst h
    obtain ⟨h1, h2, h3, h4, h5⟩ := hc
    obtain ⟨t, rfl⟩ := level_tree h1
    obtain ⟨t', e⟩ := putF_lv (r := []) h4 t (by
      rw [List.append_nil]
      intro p d q e
      exact Nat.le_trans (ParIn.of h1 p d q e) h3)
    rw [List.append_nil, putF_nil, List.append_nil] at e
    rw [e] at h5 ⊢
    exact ⟨tree_ok t' h5, h2⟩
  · cases h

def SameN (nd nd' : Nd) : Prop := nd'.kind = nd.kind ∧ nd'.a = nd.a ∧ nd'.b = nd.b ∧ nd'.c = nd.c ∧ nd'.num = nd.num
/-- What becomes of a node. -/
def UpdT (W' : World) (B' : Nat) (args : List (List UInt8)) (nd nd' : Nd) : Tm → Prop
  | .sort l => SameN nd nd' ∧ levelPut l args = some nd'.text
  | .const _ ls => SameN nd nd' ∧ nd'.text = nd.text ∧ ∃ ls', (ls.mapM fun l => levelPut l args) = some ls' ∧ W'.ownsRow B' 9 1 nd'.lv ls'.length (ls'.map sv)
  | _ => SameN nd nd'
theorem rep_upd {W W' : World} {B B' : Nat} {ns ns' : List Nd} {args : List (List UInt8)} : ∀ (T : Tm) (k : Nat), RepP W B ns k T →
    (∀ (i : Nat) (u : Tm), T.post[i]? = some u → ∃ nd nd', ns[k + 1 - T.size + i]? = some nd ∧ ns'[k + 1 - T.size + i]? = some nd' ∧ UpdT W' B' args nd nd' u) →
    ∃ T', T.lvs args = some T' ∧ RepT W' B' ns' k T'
  | .var n, k, h, hu => by
    obtain ⟨nd, h1, h2⟩ := h.1
    obtain ⟨nd1, nd', g1, g2, g3⟩ := hu 0 _ rfl
    rw [show k + 1 - (Tm.var n).size + 0 = k from rfl] at g1 g2
    obtain rfl : nd = nd1 := Option.some.inj (h1.symm.trans g1)
    obtain ⟨s1, s2, s3, s4, s5⟩ : SameN nd nd' := g3
    exact ⟨.var n, rfl, nd', g2, s1.trans h2.1, s5.trans h2.2.1⟩
  | .sort l, k, h, hu => by
    obtain ⟨nd, h1, h2⟩ := h.1
    obtain ⟨nd1, nd', g1, g2, ⟨s1, _⟩, g3⟩ := hu 0 _ rfl
    rw [show k + 1 - (Tm.sort l).size + 0 = k from rfl] at g1 g2
    obtain rfl : nd = nd1 := Option.some.inj (h1.symm.trans g1)
    exact ⟨.sort nd'.text, by rw [Tm.lvs, g3]; rfl, nd', g2, s1.trans h2.1, rfl⟩
  | .const n ls, k, h, hu => by
    obtain ⟨nd, h1, h2⟩ := h.1
    obtain ⟨nd1, nd', g1, g2, ⟨s1, _⟩, g3, ls', g4, g5⟩ := hu 0 _ rfl
    rw [show k + 1 - (Tm.const n ls).size + 0 = k from rfl] at g1 g2
    obtain rfl : nd = nd1 := Option.some.inj (h1.symm.trans g1)
    exact ⟨.const n ls', by rw [Tm.lvs, g4]; rfl, nd', g2, s1.trans h2.1, g3.trans h2.2.1, g5⟩
  | .app f a, k, h, hu => by
    have hsz := h.at.1
    obtain ⟨⟨nd, h1, h2, h3, h4⟩, ⟨nd2, g1, g0, g2, g3, g4, g5⟩⟩ := h
    obtain rfl : nd = nd2 := Option.some.inj (h1.symm.trans g1)
    have l1 := f.post_len
    have l2 := a.post_len
    have hT : (Tm.app f a).size = f.size + a.size + 1 := rfl
    have z1 := f.size_pos
    have z2 := a.size_pos
    have y1 := (RepP.at f nd.a ⟨h3, g4⟩).1
    have y2 := (RepP.at a nd.b ⟨h4, g5⟩).1
    obtain ⟨f', e1, r1⟩ := rep_upd f nd.a ⟨h3, g4⟩ (fun i u hi => by
      have hlt : i < f.post.length := (List.getElem?_eq_some_iff.1 hi).1
      have := hu i u (by rw [Tm.post, List.getElem?_append_left hlt]; exact hi)
      rwa [show k + 1 - (Tm.app f a).size + i = nd.a + 1 - f.size + i by omega] at this)
    obtain ⟨a', e2, r2⟩ := rep_upd a nd.b ⟨h4, g5⟩ (fun i u hi => by
      have hlt : i < a.post.length := (List.getElem?_eq_some_iff.1 hi).1
      have := hu (f.size + i) u (by rw [Tm.post, List.getElem?_append_right (by omega), show f.size + i - f.post.length = i by omega, List.getElem?_append_left hlt]; exact hi)
      rwa [show k + 1 - (Tm.app f a).size + (f.size + i) = nd.b + 1 - a.size + i by omega] at this)
    obtain ⟨nd1, nd', x1, x2, x3⟩ := hu (f.size + a.size) (Tm.app f a) (by rw [Tm.post, List.getElem?_append_right (by omega), List.getElem?_append_right (by omega), show f.size + a.size - f.post.length - a.post.length = 0 by omega]; rfl)
    rw [show k + 1 - (Tm.app f a).size + (f.size + a.size) = k by omega] at x1 x2
    obtain rfl : nd = nd1 := Option.some.inj (h1.symm.trans x1)
    obtain ⟨s1, s2, s3, s4, s5⟩ : SameN nd nd' := x3
    exact ⟨.app f' a', by rw [Tm.lvs, e1, e2]; rfl, nd', x2, s1.trans h2, by rw [s2]; exact r1, by rw [s3]; exact r2⟩
  | .lam f a, k, h, hu => by
    have hsz := h.at.1
    obtain ⟨⟨nd, h1, h2, h3, h4⟩, ⟨nd2, g1, g0, g2, g3, g4, g5⟩⟩ := h
    obtain rfl : nd = nd2 := Option.some.inj (h1.symm.trans g1)
    have l1 := f.post_len
    have l2 := a.post_len
    have hT : (Tm.lam f a).size = f.size + a.size + 1 := rfl
    have z1 := f.size_pos
    have z2 := a.size_pos
    have y1 := (RepP.at f nd.a ⟨h3, g4⟩).1
    have y2 := (RepP.at a nd.b ⟨h4, g5⟩).1
    obtain ⟨f', e1, r1⟩ := rep_upd f nd.a ⟨h3, g4⟩ (fun i u hi => by
      have hlt : i < f.post.length := (List.getElem?_eq_some_iff.1 hi).1
      have := hu i u (by rw [Tm.post, List.getElem?_append_left hlt]; exact hi)
      rwa [show k + 1 - (Tm.lam f a).size + i = nd.a + 1 - f.size + i by omega] at this)
    obtain ⟨a', e2, r2⟩ := rep_upd a nd.b ⟨h4, g5⟩ (fun i u hi => by
      have hlt : i < a.post.length := (List.getElem?_eq_some_iff.1 hi).1
      have := hu (f.size + i) u (by rw [Tm.post, List.getElem?_append_right (by omega), show f.size + i - f.post.length = i by omega, List.getElem?_append_left hlt]; exact hi)
      rwa [show k + 1 - (Tm.lam f a).size + (f.size + i) = nd.b + 1 - a.size + i by omega] at this)
    obtain ⟨nd1, nd', x1, x2, x3⟩ := hu (f.size + a.size) (Tm.lam f a) (by rw [Tm.post, List.getElem?_append_right (by omega), List.getElem?_append_right (by omega), show f.size + a.size - f.post.length - a.post.length = 0 by omega]; rfl)
    rw [show k + 1 - (Tm.lam f a).size + (f.size + a.size) = k by omega] at x1 x2
    obtain rfl : nd = nd1 := Option.some.inj (h1.symm.trans x1)
    obtain ⟨s1, s2, s3, s4, s5⟩ : SameN nd nd' := x3
    exact ⟨.lam f' a', by rw [Tm.lvs, e1, e2]; rfl, nd', x2, s1.trans h2, by rw [s2]; exact r1, by rw [s3]; exact r2⟩
  | .pi f a, k, h, hu => by
    have hsz := h.at.1
    obtain ⟨⟨nd, h1, h2, h3, h4⟩, ⟨nd2, g1, g0, g2, g3, g4, g5⟩⟩ := h
    obtain rfl : nd = nd2 := Option.some.inj (h1.symm.trans g1)
    have l1 := f.post_len
    have l2 := a.post_len
    have hT : (Tm.pi f a).size = f.size + a.size + 1 := rfl
    have z1 := f.size_pos
    have z2 := a.size_pos
    have y1 := (RepP.at f nd.a ⟨h3, g4⟩).1
    have y2 := (RepP.at a nd.b ⟨h4, g5⟩).1
    obtain ⟨f', e1, r1⟩ := rep_upd f nd.a ⟨h3, g4⟩ (fun i u hi => by
      have hlt : i < f.post.length := (List.getElem?_eq_some_iff.1 hi).1
      have := hu i u (by rw [Tm.post, List.getElem?_append_left hlt]; exact hi)
      rwa [show k + 1 - (Tm.pi f a).size + i = nd.a + 1 - f.size + i by omega] at this)
    obtain ⟨a', e2, r2⟩ := rep_upd a nd.b ⟨h4, g5⟩ (fun i u hi => by
      have hlt : i < a.post.length := (List.getElem?_eq_some_iff.1 hi).1
      have := hu (f.size + i) u (by rw [Tm.post, List.getElem?_append_right (by omega), show f.size + i - f.post.length = i by omega, List.getElem?_append_left hlt]; exact hi)
      rwa [show k + 1 - (Tm.pi f a).size + (f.size + i) = nd.b + 1 - a.size + i by omega] at this)
    obtain ⟨nd1, nd', x1, x2, x3⟩ := hu (f.size + a.size) (Tm.pi f a) (by rw [Tm.post, List.getElem?_append_right (by omega), List.getElem?_append_right (by omega), show f.size + a.size - f.post.length - a.post.length = 0 by omega]; rfl)
    rw [show k + 1 - (Tm.pi f a).size + (f.size + a.size) = k by omega] at x1 x2
    obtain rfl : nd = nd1 := Option.some.inj (h1.symm.trans x1)
    obtain ⟨s1, s2, s3, s4, s5⟩ : SameN nd nd' := x3
    exact ⟨.pi f' a', by rw [Tm.lvs, e1, e2]; rfl, nd', x2, s1.trans h2, by rw [s2]; exact r1, by rw [s3]; exact r2⟩
  | .lett f a b, k, h, hu => by
    have hsz := h.at.1
    obtain ⟨⟨nd, h1, h2, h3, h4, h5⟩, ⟨nd2, g1, g0, g2, g3, g4, g5, g6, g7⟩⟩ := h
    obtain rfl : nd = nd2 := Option.some.inj (h1.symm.trans g1)
    have l1 := f.post_len
    have l2 := a.post_len
    have l3 := b.post_len
    have hT : (Tm.lett f a b).size = f.size + a.size + b.size + 1 := rfl
    have z1 := f.size_pos
    have z2 := a.size_pos
    have z3 := b.size_pos
    have y1 := (RepP.at f nd.a ⟨h3, g5⟩).1
    have y2 := (RepP.at a nd.b ⟨h4, g6⟩).1
    have y3 := (RepP.at b nd.c ⟨h5, g7⟩).1
    obtain ⟨f', e1, r1⟩ := rep_upd f nd.a ⟨h3, g5⟩ (fun i u hi => by
      have hlt : i < f.post.length := (List.getElem?_eq_some_iff.1 hi).1
      have := hu i u (by rw [Tm.post, List.getElem?_append_left hlt]; exact hi)
      rwa [show k + 1 - (Tm.lett f a b).size + i = nd.a + 1 - f.size + i by omega] at this)
    obtain ⟨a', e2, r2⟩ := rep_upd a nd.b ⟨h4, g6⟩ (fun i u hi => by
      have hlt : i < a.post.length := (List.getElem?_eq_some_iff.1 hi).1
      have := hu (f.size + i) u (by rw [Tm.post, List.getElem?_append_right (by omega), show f.size + i - f.post.length = i by omega, List.getElem?_append_left hlt]; exact hi)
      rwa [show k + 1 - (Tm.lett f a b).size + (f.size + i) = nd.b + 1 - a.size + i by omega] at this)
    obtain ⟨b', e3, r3⟩ := rep_upd b nd.c ⟨h5, g7⟩ (fun i u hi => by
      have hlt : i < b.post.length := (List.getElem?_eq_some_iff.1 hi).1
      have := hu (f.size + a.size + i) u (by rw [Tm.post, List.getElem?_append_right (by omega), List.getElem?_append_right (by omega), show f.size + a.size + i - f.post.length - a.post.length = i by omega, List.getElem?_append_left hlt]; exact hi)
      rwa [show k + 1 - (Tm.lett f a b).size + (f.size + a.size + i) = nd.c + 1 - b.size + i by omega] at this)
    obtain ⟨nd1, nd', x1, x2, x3⟩ := hu (f.size + a.size + b.size) (Tm.lett f a b) (by rw [Tm.post, List.getElem?_append_right (by omega), List.getElem?_append_right (by omega), List.getElem?_append_right (by omega), show f.size + a.size + b.size - f.post.length - a.post.length - b.post.length = 0 by omega]; rfl)
    rw [show k + 1 - (Tm.lett f a b).size + (f.size + a.size + b.size) = k by omega] at x1 x2
    obtain rfl : nd = nd1 := Option.some.inj (h1.symm.trans x1)
    obtain ⟨s1, s2, s3, s4, s5⟩ : SameN nd nd' := x3
    exact ⟨.lett f' a' b', by rw [Tm.lvs, e1, e2, e3]; rfl, nd', x2, s1.trans h2, by rw [s2]; exact r1, by rw [s3]; exact r2, by rw [s4]; exact r3⟩
/-- Where levels can be put into a whole term, they can be put into each of its nodes. -/
def PutsOk (args : List (List UInt8)) : Tm → Prop
  | .sort l => ∃ r, levelPut l args = some r
  | .const _ ls => ∃ r, (ls.mapM fun l => levelPut l args) = some r
  | _ => True
theorem lvs_post {args : List (List UInt8)} : ∀ (T T' : Tm), T.lvs args = some T' → ∀ u ∈ T.post, PutsOk args u
  | .var n, _, _, u, hu => by simp [Tm.post] at hu; subst hu; trivial
  | .sort l, _, h, u, hu => by
    simp [Tm.post] at hu; subst hu
    obtain ⟨r, hr, _⟩ := Option.map_eq_some_iff.1 (show (levelPut l args).map Tm.sort = some _ from h)
    exact ⟨r, hr⟩
  | .const n ls, _, h, u, hu => by
    simp [Tm.post] at hu; subst hu
    obtain ⟨r, hr, _⟩ := Option.map_eq_some_iff.1 (show (ls.mapM fun l => levelPut l args).map (Tm.const n) = some _ from h)
    exact ⟨r, hr⟩
  | .app f a, _, h, u, hu => by
    obtain ⟨f', hf, h2⟩ := Option.bind_eq_some_iff.1 (show (Tm.lvs args f).bind (fun f' => (Tm.lvs args a).map (Tm.app f')) = some _ from h)
    obtain ⟨a', ha, _⟩ := Option.map_eq_some_iff.1 h2
    simp only [Tm.post, List.mem_append, List.mem_singleton] at hu
    rcases hu with hu | hu | rfl
    · exact lvs_post f f' hf u hu
    · exact lvs_post a a' ha u hu
    · trivial
  | .lam f a, _, h, u, hu => by
    obtain ⟨f', hf, h2⟩ := Option.bind_eq_some_iff.1 (show (Tm.lvs args f).bind (fun f' => (Tm.lvs args a).map (Tm.lam f')) = some _ from h)
    obtain ⟨a', ha, _⟩ := Option.map_eq_some_iff.1 h2
    simp only [Tm.post, List.mem_append, List.mem_singleton] at hu
    rcases hu with hu | hu | rfl
    · exact lvs_post f f' hf u hu
    · exact lvs_post a a' ha u hu
    · trivial
  | .pi f a, _, h, u, hu => by
    obtain ⟨f', hf, h2⟩ := Option.bind_eq_some_iff.1 (show (Tm.lvs args f).bind (fun f' => (Tm.lvs args a).map (Tm.pi f')) = some _ from h)
    obtain ⟨a', ha, _⟩ := Option.map_eq_some_iff.1 h2
    simp only [Tm.post, List.mem_append, List.mem_singleton] at hu
    rcases hu with hu | hu | rfl
    · exact lvs_post f f' hf u hu
    · exact lvs_post a a' ha u hu
    · trivial
  | .lett f a b, _, h, u, hu => by
    obtain ⟨f', hf, h2⟩ := Option.bind_eq_some_iff.1 (show (Tm.lvs args f).bind (fun f' => (Tm.lvs args a).bind fun a' => (Tm.lvs args b).map (Tm.lett f' a')) = some _ from h)
    obtain ⟨a', ha, h3⟩ := Option.bind_eq_some_iff.1 h2
    obtain ⟨b', hb, _⟩ := Option.map_eq_some_iff.1 h3
    simp only [Tm.post, List.mem_append, List.mem_singleton] at hu
    rcases hu with hu | hu | hu | rfl
    · exact lvs_post f f' hf u hu
    · exact lvs_post a a' ha u hu
    · exact lvs_post b b' hb u hu
    · trivial
theorem mapM_puts {args : List (List UInt8)} : ∀ {ls r : List (List UInt8)}, (ls.mapM fun l => levelPut l args) = some r → r.length = ls.length ∧ ∀ x ∈ r, levelOk x = true
  | [], r, h => by simp at h; subst h; simp
  | l :: ls, r, h => by
    rw [List.mapM_cons] at h
    obtain ⟨x, hx, h2⟩ := Option.bind_eq_some_iff.1 h
    obtain ⟨r', hr, h3⟩ := Option.bind_eq_some_iff.1 h2
    cases h3
    obtain ⟨k1, k2⟩ := mapM_puts hr
    refine ⟨by simp [k1], fun y hy => ?_⟩
    rcases List.mem_cons.1 hy with rfl | hy
    · exact (levelPut_ok hx).1
    · exact k2 y hy
theorem lvsB_61 : ∀ {ls : List (List UInt8)}, (∀ y ∈ ls, levelOk y = true) → (lvsB ls).length ≤ ls.length * 61 ∧ ls.length * 2 ≤ (lvsB ls).length
  | [], _ => by simp [lvsB]
  | x :: r, h => by
    have h0 := h x List.mem_cons_self
    have h1 := (levelOk_len h0).1
    have h3 : 1 ≤ x.length := List.length_pos_iff.2 (levelOk_ne h0)
    have h2 := lvsB_61 (ls := r) fun y hy => h y (List.mem_cons_of_mem _ hy)
    simp only [lvsB, List.length_append, List.length_cons]
    omega
theorem lvs_ok {args : List (List UInt8)} : ∀ (T T' : Tm), T.Ok → T.lvs args = some T' → T'.Ok ∧ T'.bytes.length ≤ 31 * T.bytes.length
  | .var n, _, hk, h => by
    cases (show some (Tm.var n) = some _ from h)
    exact ⟨hk, by omega⟩
  | .sort l, _, hk, h => by
    obtain ⟨r, hr, rfl⟩ := Option.map_eq_some_iff.1 (show (levelPut l args).map Tm.sort = some _ from h)
    have h1 := (levelPut_ok hr).1
    refine ⟨h1, ?_⟩
    have h2 := (levelOk_len h1).1
    simp only [Tm.bytes, List.length_cons, List.length_append, List.length_nil]
    omega
  | .const n ls, _, hk, h => by
    obtain ⟨r, hr, rfl⟩ := Option.map_eq_some_iff.1 (show (ls.mapM fun l => levelPut l args).map (Tm.const n) = some _ from h)
    obtain ⟨h1, h2⟩ := mapM_puts hr
    refine ⟨⟨hk.1, by rw [h1]; exact hk.2.1, h2⟩, ?_⟩
    have k1 := (lvsB_61 h2).1
    have k2 := (lvsB_61 hk.2.2).2
    simp only [Tm.bytes, List.length_cons, List.length_append, List.length_nil]
    omega
  | .app f a, _, hk, h => by
    obtain ⟨f', hf, h2⟩ := Option.bind_eq_some_iff.1 (show (Tm.lvs args f).bind (fun f' => (Tm.lvs args a).map (Tm.app f')) = some _ from h)
    obtain ⟨a', ha, rfl⟩ := Option.map_eq_some_iff.1 h2
    obtain ⟨k1, k2⟩ := lvs_ok f f' hk.1 hf
    obtain ⟨k3, k4⟩ := lvs_ok a a' hk.2 ha
    refine ⟨⟨k1, k3⟩, ?_⟩
    simp only [Tm.bytes, List.length_cons, List.length_append]
    omega
  | .lam f a, _, hk, h => by
    obtain ⟨f', hf, h2⟩ := Option.bind_eq_some_iff.1 (show (Tm.lvs args f).bind (fun f' => (Tm.lvs args a).map (Tm.lam f')) = some _ from h)
    obtain ⟨a', ha, rfl⟩ := Option.map_eq_some_iff.1 h2
    obtain ⟨k1, k2⟩ := lvs_ok f f' hk.1 hf
    obtain ⟨k3, k4⟩ := lvs_ok a a' hk.2 ha
    refine ⟨⟨k1, k3⟩, ?_⟩
    simp only [Tm.bytes, List.length_cons, List.length_append]
    omega
  | .pi f a, _, hk, h => by
    obtain ⟨f', hf, h2⟩ := Option.bind_eq_some_iff.1 (show (Tm.lvs args f).bind (fun f' => (Tm.lvs args a).map (Tm.pi f')) = some _ from h)
    obtain ⟨a', ha, rfl⟩ := Option.map_eq_some_iff.1 h2
    obtain ⟨k1, k2⟩ := lvs_ok f f' hk.1 hf
    obtain ⟨k3, k4⟩ := lvs_ok a a' hk.2 ha
    refine ⟨⟨k1, k3⟩, ?_⟩
    simp only [Tm.bytes, List.length_cons, List.length_append]
    omega
  | .lett f a b, _, hk, h => by
    obtain ⟨f', hf, h2⟩ := Option.bind_eq_some_iff.1 (show (Tm.lvs args f).bind (fun f' => (Tm.lvs args a).bind fun a' => (Tm.lvs args b).map (Tm.lett f' a')) = some _ from h)
    obtain ⟨a', ha, h3⟩ := Option.bind_eq_some_iff.1 h2
    obtain ⟨b', hb, rfl⟩ := Option.map_eq_some_iff.1 h3
    obtain ⟨k1, k2⟩ := lvs_ok f f' hk.1 hf
    obtain ⟨k3, k4⟩ := lvs_ok a a' hk.2.1 ha
    obtain ⟨k5, k6⟩ := lvs_ok b b' hk.2.2 hb
    refine ⟨⟨k1, k3, k5⟩, ?_⟩
    simp only [Tm.bytes, List.length_cons, List.length_append]
    omega
noncomputable def termLevels (l : List UInt8) (args : List (List UInt8)) : Option (List UInt8) := match termOf l with
  | some T => if args.length ≤ 3 then (T.lvs args).bind fun T' => if T'.bytes.length ≤ 2000 then some T'.bytes else none else none
  | none => none
end Go.Proofs.YtgielbamebjjdaaGreatDoor

namespace Go.Proofs.YtgielbamebjjdaaGreatDoor
open Go
set_option maxRecDepth 100000

def say (st : Option (List UInt8)) (s : List UInt8) : Option (List UInt8) := st.bind fun B => if B.length + s.length ≤ 2000 then some (B ++ s) else none
open Classical in
/-- A term is said, if it is one and what is said is not too long. -/
noncomputable def sayT (st : Option (List UInt8)) (R : Tm) : Option (List UInt8) := st.bind fun B => if R.Ok ∧ B.length + R.bytes.length ≤ 2000 then some (B ++ R.bytes) else none
theorem sayT_none (R : Tm) : sayT none R = none := rfl
theorem sayT_ok {R : Tm} (h : R.Ok) (st : Option (List UInt8)) : sayT st R = say st R.bytes := by
  cases st with
  | none => rfl
  | some B => simp [sayT, say, h]
theorem sayT_bad {R : Tm} (h : ¬ R.Ok) (st : Option (List UInt8)) : sayT st R = none := by
  cases st with
  | none => rfl
  | some B => simp [sayT, h]
theorem sayT_some {B : List UInt8} {R : Tm} (h : R.Ok) (hl : B.length + R.bytes.length ≤ 2000) : sayT (some B) R = some (B ++ R.bytes) := if_pos ⟨h, hl⟩
theorem sayT_fail {B : List UInt8} {R : Tm} (h : ¬ (R.Ok ∧ B.length + R.bytes.length ≤ 2000)) : sayT (some B) R = none := if_neg h
theorem say_some {B s : List UInt8} (h : B.length + s.length ≤ 2000) : say (some B) s = some (B ++ s) := if_pos h
theorem say_fail {B s : List UInt8} (h : ¬ B.length + s.length ≤ 2000) : say (some B) s = none := if_neg h
theorem len1 (B : List UInt8) (c : UInt8) : (B ++ [c]).length = B.length + 1 := by simp
theorem sayT_two {c : UInt8} {f x R : Tm} (hb : R.bytes = c :: (f.bytes ++ x.bytes)) (hO : R.Ok ↔ f.Ok ∧ x.Ok) (st : Option (List UInt8)) : sayT (sayT (say st [c]) f) x = sayT st R := by
  cases st with
  | none => rfl
  | some B =>
    have hl : R.bytes.length = 1 + f.bytes.length + x.bytes.length := by rw [hb]; simp; omega
    have l1 := len1 B c
    have l2 : (B ++ [c] ++ f.bytes).length = B.length + 1 + f.bytes.length := by simp; omega
    by_cases h1 : B.length + 1 ≤ 2000
    · rw [say_some (s := [c]) h1]
      by_cases h2 : f.Ok ∧ B.length + 1 + f.bytes.length ≤ 2000
      · rw [sayT_some h2.1 (by omega)]
        by_cases h3 : x.Ok ∧ B.length + 1 + f.bytes.length + x.bytes.length ≤ 2000
        · rw [sayT_some h3.1 (by omega), sayT_some (hO.2 ⟨h2.1, h3.1⟩) (by omega), hb]
          simp
        · rw [sayT_fail (fun h => h3 ⟨h.1, by omega⟩), sayT_fail (fun h => h3 ⟨(hO.1 h.1).2, by omega⟩)]
      · rw [sayT_fail (fun h => h2 ⟨h.1, by omega⟩), sayT_none, sayT_fail (fun h => h2 ⟨(hO.1 h.1).1, by omega⟩)]
    · rw [say_fail (s := [c]) h1, sayT_none, sayT_none, sayT_fail (fun h => h1 (by omega))]
theorem sayT_three {c : UInt8} {f x y R : Tm} (hb : R.bytes = c :: (f.bytes ++ (x.bytes ++ y.bytes))) (hO : R.Ok ↔ f.Ok ∧ x.Ok ∧ y.Ok) (st : Option (List UInt8)) : sayT (sayT (sayT (say st [c]) f) x) y = sayT st R := by
  cases st with
  | none => rfl
  | some B =>
    have hl : R.bytes.length = 1 + f.bytes.length + x.bytes.length + y.bytes.length := by rw [hb]; simp; omega
    have l1 := len1 B c
    have l2 : (B ++ [c] ++ f.bytes).length = B.length + 1 + f.bytes.length := by simp; omega
    have l3 : (B ++ [c] ++ f.bytes ++ x.bytes).length = B.length + 1 + f.bytes.length + x.bytes.length := by simp; omega
    by_cases h1 : B.length + 1 ≤ 2000
    · rw [say_some (s := [c]) h1]
      by_cases h2 : f.Ok ∧ B.length + 1 + f.bytes.length ≤ 2000
      · rw [sayT_some h2.1 (by omega)]
        by_cases h3 : x.Ok ∧ B.length + 1 + f.bytes.length + x.bytes.length ≤ 2000
        · rw [sayT_some h3.1 (by omega)]
          by_cases h5 : y.Ok ∧ B.length + 1 + f.bytes.length + x.bytes.length + y.bytes.length ≤ 2000
          · rw [sayT_some h5.1 (by omega), sayT_some (hO.2 ⟨h2.1, h3.1, h5.1⟩) (by omega), hb]
            simp
          · rw [sayT_fail (fun h => h5 ⟨h.1, by omega⟩), sayT_fail (fun h => h5 ⟨(hO.1 h.1).2.2, by omega⟩)]
        · rw [sayT_fail (fun h => h3 ⟨h.1, by omega⟩), sayT_none, sayT_fail (fun h => h3 ⟨(hO.1 h.1).2.1, by omega⟩)]
      · rw [sayT_fail (fun h => h2 ⟨h.1, by omega⟩), sayT_none, sayT_none, sayT_fail (fun h => h2 ⟨(hO.1 h.1).1, by omega⟩)]
    · rw [say_fail (s := [c]) h1, sayT_none, sayT_none, sayT_none, sayT_fail (fun h => h1 (by omega))]

/-- What Lifted answers. -/
noncomputable def lifted (l : List UInt8) (x y : Int) : Option (List UInt8) := match termOf l with
  | some T => if 0 ≤ x ∧ x ≤ 999 ∧ 0 ≤ y ∧ y ≤ 999 then sayT (some []) (T.lift x.toNat y.toNat) else none
  | none => none
/-- What PutIn answers. -/
noncomputable def putIn (l m : List UInt8) : Option (List UInt8) := match termOf l, termOf m with
  | some T, some A => sayT (some []) (Tm.put A 0 T)
  | _, _ => none
end Go.Proofs.YtgielbamebjjdaaGreatDoor

namespace Go.Proofs.YtgielbamebjjdaaGreatDoor
open Go
set_option maxRecDepth 100000
set_option linter.unusedVariables false

namespace Tm
/-- Each leaf is changed, from left to right, with a state. -/
def mapS {σ : Type} (f : σ → Tm → Nat → Tm × σ) : Tm → σ → Nat → Tm × σ
  | var n, s, b => f s (var n) b
  | sort l, s, b => f s (sort l) b
  | const n ls, s, b => f s (const n ls) b
  | app x y, s, b => (app (mapS f x s b).1 (mapS f y (mapS f x s b).2 b).1, (mapS f y (mapS f x s b).2 b).2)
  | lam x y, s, b => (lam (mapS f x s b).1 (mapS f y (mapS f x s b).2 (b + 1)).1, (mapS f y (mapS f x s b).2 (b + 1)).2)
  | pi x y, s, b => (pi (mapS f x s b).1 (mapS f y (mapS f x s b).2 (b + 1)).1, (mapS f y (mapS f x s b).2 (b + 1)).2)
  | lett x y z, s, b => (lett (mapS f x s b).1 (mapS f y (mapS f x s b).2 b).1 (mapS f z (mapS f y (mapS f x s b).2 b).2 (b + 1)).1, (mapS f z (mapS f y (mapS f x s b).2 b).2 (b + 1)).2)
/-- Every leaf, under its binders. -/
def Lv (P : Tm → Nat → Prop) : Tm → Nat → Prop
  | var n, b => P (var n) b
  | sort l, b => P (sort l) b
  | const n ls, b => P (const n ls) b
  | app x y, b => Lv P x b ∧ Lv P y b
  | lam x y, b => Lv P x b ∧ Lv P y (b + 1)
  | pi x y, b => Lv P x b ∧ Lv P y (b + 1)
  | lett x y z, b => Lv P x b ∧ Lv P y b ∧ Lv P z (b + 1)
/-- A leaf that a term may have, under at most so many binders. -/
def OkLeaf (B : Nat) (t : Tm) (b : Nat) : Prop := b ≤ B ∧ ((∃ n, n ≤ 999 ∧ t = var n) ∨ (∃ l, levelOk l = true ∧ t = sort l) ∨ ∃ n ls, (const n ls).Ok ∧ t = const n ls)
theorem ok_lv {B : Nat} : ∀ (T : Tm) (b : Nat), T.Ok → b + T.size ≤ B → T.Lv (OkLeaf B) b
  | var n, b, h, hb => ⟨by omega, .inl ⟨n, h, rfl⟩⟩
  | sort l, b, h, hb => ⟨by omega, .inr (.inl ⟨l, h, rfl⟩)⟩
  | const n ls, b, h, hb => ⟨by omega, .inr (.inr ⟨n, ls, h, rfl⟩)⟩
  | app x y, b, h, hb => by simp only [size] at hb; exact ⟨ok_lv x b h.1 (by omega), ok_lv y b h.2 (by omega)⟩
  | lam x y, b, h, hb => by have := x.size_pos; simp only [size] at hb; exact ⟨ok_lv x b h.1 (by omega), ok_lv y (b + 1) h.2 (by omega)⟩
  | pi x y, b, h, hb => by have := x.size_pos; simp only [size] at hb; exact ⟨ok_lv x b h.1 (by omega), ok_lv y (b + 1) h.2 (by omega)⟩
  | lett x y z, b, h, hb => by have := x.size_pos; simp only [size] at hb; exact ⟨ok_lv x b h.1 (by omega), ok_lv y b h.2.1 (by omega), ok_lv z (b + 1) h.2.2 (by omega)⟩
/-- What holds of a tree if it holds of its parts. -/
structure Comp (Q : Tm → Prop) : Prop where
  app : ∀ x y, Q x → Q y → Q (app x y)
  lam : ∀ x y, Q x → Q y → Q (lam x y)
  pi : ∀ x y, Q x → Q y → Q (pi x y)
  lett : ∀ x y z, Q x → Q y → Q z → Q (lett x y z)
theorem mapS_q {σ : Type} {f : σ → Tm → Nat → Tm × σ} {P : Tm → Nat → Prop} {Q : Tm → Prop} (hQ : Comp Q) (hf : ∀ s t b, P t b → Q (f s t b).1) : ∀ (T : Tm) (s : σ) (b : Nat), T.Lv P b → Q (mapS f T s b).1
  | var n, s, b, h => hf s _ b h
  | sort l, s, b, h => hf s _ b h
  | const n ls, s, b, h => hf s _ b h
  | app x y, s, b, h => hQ.app _ _ (mapS_q hQ hf x s b h.1) (mapS_q hQ hf y _ b h.2)
  | lam x y, s, b, h => hQ.lam _ _ (mapS_q hQ hf x s b h.1) (mapS_q hQ hf y _ (b + 1) h.2)
  | pi x y, s, b, h => hQ.pi _ _ (mapS_q hQ hf x s b h.1) (mapS_q hQ hf y _ (b + 1) h.2)
  | lett x y z, s, b, h => hQ.lett _ _ _ (mapS_q hQ hf x s b h.1) (mapS_q hQ hf y _ b h.2.1) (mapS_q hQ hf z _ (b + 1) h.2.2)
theorem mapS_len {σ : Type} {f : σ → Tm → Nat → Tm × σ} {P : Tm → Nat → Prop} {K : Nat} (hK : 1 ≤ K) (hf : ∀ s t b, P t b → (f s t b).1.bytes.length ≤ K * t.bytes.length) : ∀ (T : Tm) (s : σ) (b : Nat), T.Lv P b → (mapS f T s b).1.bytes.length ≤ K * T.bytes.length
  | var n, s, b, h => hf s _ b h
  | sort l, s, b, h => hf s _ b h
  | const n ls, s, b, h => hf s _ b h
  | app x y, s, b, h => by
    have h1 := mapS_len hK hf x s b h.1
    have h2 := mapS_len hK hf y (mapS f x s b).2 b h.2
    simp only [mapS, bytes, List.length_cons, List.length_append, Nat.mul_add, Nat.mul_one]; omega
  | lam x y, s, b, h => by
    have h1 := mapS_len hK hf x s b h.1
    have h2 := mapS_len hK hf y (mapS f x s b).2 (b + 1) h.2
    simp only [mapS, bytes, List.length_cons, List.length_append, Nat.mul_add, Nat.mul_one]; omega
  | pi x y, s, b, h => by
    have h1 := mapS_len hK hf x s b h.1
    have h2 := mapS_len hK hf y (mapS f x s b).2 (b + 1) h.2
    simp only [mapS, bytes, List.length_cons, List.length_append, Nat.mul_add, Nat.mul_one]; omega
  | lett x y z, s, b, h => by
    have h1 := mapS_len hK hf x s b h.1
    have h2 := mapS_len hK hf y (mapS f x s b).2 b h.2.1
    have h3 := mapS_len hK hf z (mapS f y (mapS f x s b).2 b).2 (b + 1) h.2.2
    simp only [mapS, bytes, List.length_cons, List.length_append, Nat.mul_add, Nat.mul_one]; omega

/-- The marks of a text can be told from its leaves, though these may be beyond their limits. -/
def Pre : Tm → Prop
  | var _ => True
  | sort l => (46 : UInt8) ∉ l
  | const n ls => (59 : UInt8) ∉ n ∧ ∀ x ∈ ls, (46 : UInt8) ∉ x ∧ (44 : UInt8) ∉ x
  | app f a => f.Pre ∧ a.Pre
  | lam f a => f.Pre ∧ a.Pre
  | pi f a => f.Pre ∧ a.Pre
  | lett f a b => f.Pre ∧ a.Pre ∧ b.Pre
theorem comp_pre : Comp Pre := ⟨fun _ _ h k => ⟨h, k⟩, fun _ _ h k => ⟨h, k⟩, fun _ _ h k => ⟨h, k⟩, fun _ _ _ h k l => ⟨h, k, l⟩⟩
theorem comp_lim (m : Nat) : Comp (Lim m) := ⟨fun _ _ h k => ⟨h, k⟩, fun _ _ h k => ⟨h, k⟩, fun _ _ h k => ⟨h, k⟩, fun _ _ _ h k l => ⟨h, k, l⟩⟩
theorem Ok.pre : ∀ {t : Tm}, t.Ok → t.Pre
  | var _, _ => trivial
  | sort _, h => (level_clean h).1
  | const _ _, h => ⟨name_no59 h.1, fun x hx => level_clean (h.2.2 x hx)⟩
  | app _ _, h => ⟨h.1.pre, h.2.pre⟩
  | lam _ _, h => ⟨h.1.pre, h.2.pre⟩
  | pi _ _, h => ⟨h.1.pre, h.2.pre⟩
  | lett _ _ _, h => ⟨h.1.pre, h.2.1.pre, h.2.2.pre⟩
theorem no46 : ∀ {ls : List (List UInt8)}, (∀ x ∈ ls, (46 : UInt8) ∉ x) → (46 : UInt8) ∉ lvsB ls
  | [], _ => by simp [lvsB]
  | x :: r, h => by
    intro hm
    rw [lvsB] at hm
    rcases List.mem_append.1 hm with h1 | h1
    · exact h x List.mem_cons_self h1
    rcases List.mem_cons.1 h1 with h2 | h2
    · revert h2; decide
    · exact no46 (fun y hy => h y (List.mem_cons_of_mem _ hy)) h2
theorem preUniq : ∀ (t u : Tm) (r s : List UInt8), t.Pre → u.Pre → t.bytes ++ r = u.bytes ++ s → t = u ∧ r = s := by
  intro t
  induction t with
  | var n =>
    intro u r s ht hu h
    cases u with
    | var m =>
      simp only [Tm.bytes, List.cons_append, List.append_assoc, List.nil_append] at h
      injection h with _ h
      obtain ⟨h1, h2⟩ := span_uniq (digits_no46 n) (digits_no46 m) h
      exact ⟨by rw [digits_inj h1], h2⟩
    | _ => simp [Tm.bytes] at h
  | sort l =>
    intro u r s ht hu h
    cases u with
    | sort m =>
      simp only [Tm.bytes, List.cons_append, List.append_assoc, List.nil_append] at h
      injection h with _ h
      obtain ⟨h1, h2⟩ := span_uniq ht hu h
      exact ⟨by rw [h1], h2⟩
    | _ => simp [Tm.bytes] at h
  | const n ls =>
    intro u r s ht hu h
    cases u with
    | const m ms =>
      simp only [Tm.bytes, List.cons_append, List.append_assoc, List.nil_append] at h
      injection h with _ h
      obtain ⟨h1, h2⟩ := span_uniq ht.1 hu.1 h
      obtain ⟨h3, h4⟩ := span_uniq (no46 fun x hx => (ht.2 x hx).1) (no46 fun x hx => (hu.2 x hx).1) h2
      exact ⟨by rw [h1, lvsB_inj (fun x hx => (ht.2 x hx).2) (fun x hx => (hu.2 x hx).2) h3], h4⟩
    | _ => simp [Tm.bytes] at h
  | app f a ihf iha =>
    intro u r s ht hu h
    cases u with
    | app g b =>
      simp only [Tm.bytes, List.cons_append, List.append_assoc] at h
      injection h with _ h
      obtain ⟨h1, h2⟩ := ihf g _ _ ht.1 hu.1 h
      obtain ⟨h3, h4⟩ := iha b _ _ ht.2 hu.2 h2
      exact ⟨by rw [h1, h3], h4⟩
    | _ => simp [Tm.bytes] at h
  | lam f a ihf iha =>
    intro u r s ht hu h
    cases u with
    | lam g b =>
      simp only [Tm.bytes, List.cons_append, List.append_assoc] at h
      injection h with _ h
      obtain ⟨h1, h2⟩ := ihf g _ _ ht.1 hu.1 h
      obtain ⟨h3, h4⟩ := iha b _ _ ht.2 hu.2 h2
      exact ⟨by rw [h1, h3], h4⟩
    | _ => simp [Tm.bytes] at h
  | pi f a ihf iha =>
    intro u r s ht hu h
    cases u with
    | pi g b =>
      simp only [Tm.bytes, List.cons_append, List.append_assoc] at h
      injection h with _ h
      obtain ⟨h1, h2⟩ := ihf g _ _ ht.1 hu.1 h
      obtain ⟨h3, h4⟩ := iha b _ _ ht.2 hu.2 h2
      exact ⟨by rw [h1, h3], h4⟩
    | _ => simp [Tm.bytes] at h
  | lett f a c ihf iha ihc =>
    intro u r s ht hu h
    cases u with
    | lett g b d =>
      simp only [Tm.bytes, List.cons_append, List.append_assoc] at h
      injection h with _ h
      obtain ⟨h1, h2⟩ := ihf g _ _ ht.1 hu.1 h
      obtain ⟨h3, h4⟩ := iha b _ _ ht.2.1 hu.2.1 h2
      obtain ⟨h5, h6⟩ := ihc d _ _ ht.2.2 hu.2.2 h4
      exact ⟨by rw [h1, h3, h5], h6⟩
    | _ => simp [Tm.bytes] at h
end Tm
/-- A tree's text is a term if no limit is exceeded. -/
theorem termOk_pre {T : Tm} (h : T.Pre) : termOk T.bytes = true ↔ T.Ok ∧ T.bytes.length ≤ 2000 := by
  constructor
  · intro hk
    cases ht : termOf T.bytes with
    | none => rw [termOk, ht] at hk; cases hk
    | some t =>
      obtain ⟨h1, h2, h3⟩ := termOf_is ht
      obtain ⟨rfl, _⟩ := Tm.preUniq t T [] [] h1.pre h (by rw [h2])
      exact ⟨h1, h3⟩
  · rintro ⟨h1, h2⟩
    rw [termOk, termOf_some ⟨h1, rfl, h2⟩]
    rfl
theorem sayT_nil (T : Tm) : (T.Ok ∧ T.bytes.length ≤ 2000 → sayT (some []) T = some T.bytes) ∧ (¬ (T.Ok ∧ T.bytes.length ≤ 2000) → sayT (some []) T = none) := by
  constructor
  · intro h
    rw [sayT_some h.1 (by simpa using h.2)]
    rfl
  · intro h
    exact sayT_fail (fun k => h ⟨k.1, by simpa using k.2⟩)

/-- What Lifted does with a leaf. -/
def liftF (a c : Nat) : Unit → Tm → Nat → Tm × Unit := fun _ t b => (t.lift a (c + b), ())
theorem mapS_lift (a c : Nat) : ∀ (T : Tm) (b : Nat), (T.mapS (liftF a c) () b).1 = T.lift a (c + b)
  | .var n, b => rfl
  | .sort _, _ => rfl
  | .const _ _, _ => rfl
  | .app x y, b => by simp only [Tm.mapS, Tm.lift, mapS_lift a c x b]; rw [← mapS_lift a c y b]
  | .lam x y, b => by simp only [Tm.mapS, Tm.lift, mapS_lift a c x b]; rw [Nat.add_assoc, ← mapS_lift a c y (b + 1)]
  | .pi x y, b => by simp only [Tm.mapS, Tm.lift, mapS_lift a c x b]; rw [Nat.add_assoc, ← mapS_lift a c y (b + 1)]
  | .lett x y z, b => by simp only [Tm.mapS, Tm.lift, mapS_lift a c x b]; rw [Nat.add_assoc, ← mapS_lift a c y b, ← mapS_lift a c z (b + 1)]
theorem digits_mono : ∀ (m n : Nat), n ≤ m → (Lib.decDigits n).length ≤ (Lib.decDigits m).length := by
  intro m
  induction m using Nat.strongRecOn with
  | _ m ih =>
    intro n h
    rw [Lib.decDigits_length, Lib.decDigits_length]
    by_cases hm : m < 10
    · rw [Lib.nDigits_small hm, Lib.nDigits_small (by omega)]; exact Nat.le_refl _
    · by_cases hn : n < 10
      · rw [Lib.nDigits_small hn, Lib.nDigits_big hm]; omega
      · have := ih (m / 10) (by omega) (n / 10) (by omega)
        rw [Lib.decDigits_length, Lib.decDigits_length] at this
        rw [Lib.nDigits_big hm, Lib.nDigits_big hn]
        omega
theorem digits_four {n : Nat} (h : n ≤ 9999) : (Lib.decDigits n).length ≤ 4 := by
  have := digits_mono 9999 n h
  have e : (Lib.decDigits 9999).length = 4 := by
    rw [Lib.decDigits_length, Lib.nDigits_big (by decide), Lib.nDigits_big (by decide), Lib.nDigits_big (by decide), Lib.nDigits_small (by decide)]
  omega
theorem digits_pos (n : Nat) : 1 ≤ (Lib.decDigits n).length := by
  have := digits_mono n 0 (Nat.zero_le _)
  rw [Lib.decDigits_length, Lib.nDigits_small (by decide)] at this
  exact this
namespace Tm
theorem lift_grows (a : Nat) : ∀ (T : Tm) (c : Nat), T.bytes.length ≤ (T.lift a c).bytes.length
  | var n, c => by
    have := digits_mono (if c ≤ n then n + a else n) n (by split <;> omega)
    simp only [lift, bytes, List.length_cons, List.length_append, List.length_nil]; omega
  | sort _, _ => Nat.le_refl _
  | const _ _, _ => Nat.le_refl _
  | app x y, c => by have := lift_grows a x c; have := lift_grows a y c; simp only [lift, bytes, List.length_cons, List.length_append]; omega
  | lam x y, c => by have := lift_grows a x c; have := lift_grows a y (c + 1); simp only [lift, bytes, List.length_cons, List.length_append]; omega
  | pi x y, c => by have := lift_grows a x c; have := lift_grows a y (c + 1); simp only [lift, bytes, List.length_cons, List.length_append]; omega
  | lett x y z, c => by have := lift_grows a x c; have := lift_grows a y c; have := lift_grows a z (c + 1); simp only [lift, bytes, List.length_cons, List.length_append]; omega
theorem lift_len2 {a m : Nat} (hm : m + a ≤ 9999) : ∀ (T : Tm) (c : Nat), T.Lim m → (T.lift a c).bytes.length ≤ 2 * T.bytes.length
  | var n, c, h => by
    have h2 : n ≤ m := h
    have := digits_four (n := if c ≤ n then n + a else n) (by split <;> omega)
    have := digits_pos n
    simp only [lift, bytes, List.length_cons, List.length_append, List.length_nil]; omega
  | sort _, _, _ => by simp only [lift]; omega
  | const _ _, _, _ => by simp only [lift]; omega
  | app x y, c, h => by have := lift_len2 hm x c h.1; have := lift_len2 hm y c h.2; simp only [lift, bytes, List.length_cons, List.length_append]; omega
  | lam x y, c, h => by have := lift_len2 hm x c h.1; have := lift_len2 hm y (c + 1) h.2; simp only [lift, bytes, List.length_cons, List.length_append]; omega
  | pi x y, c, h => by have := lift_len2 hm x c h.1; have := lift_len2 hm y (c + 1) h.2; simp only [lift, bytes, List.length_cons, List.length_append]; omega
  | lett x y z, c, h => by have := lift_len2 hm x c h.1; have := lift_len2 hm y c h.2.1; have := lift_len2 hm z (c + 1) h.2.2; simp only [lift, bytes, List.length_cons, List.length_append]; omega
theorem lift_pre (a : Nat) : ∀ (T : Tm) (c : Nat), T.Pre → (T.lift a c).Pre
  | var _, _, _ => trivial
  | sort _, _, h => h
  | const _ _, _, h => h
  | app x y, c, h => ⟨lift_pre a x c h.1, lift_pre a y c h.2⟩
  | lam x y, c, h => ⟨lift_pre a x c h.1, lift_pre a y (c + 1) h.2⟩
  | pi x y, c, h => ⟨lift_pre a x c h.1, lift_pre a y (c + 1) h.2⟩
  | lett x y z, c, h => ⟨lift_pre a x c h.1, lift_pre a y c h.2.1, lift_pre a z (c + 1) h.2.2⟩
end Tm

/-- What PutIn does with a leaf: the state is how many bytes are left. -/
def pinF (A : Tm) (z : Nat) : Int → Tm → Nat → Tm × Int
  | r, .var n, b => if n < b then (.var n, r) else if b < n then (.var (n - 1), r) else if r < 0 then (.var n, r) else (A.lift b 0, r - z)
  | r, t, _ => (t, r)
theorem put_down {A : Tm} {z : Nat} : ∀ (T : Tm) (r : Int) (b : Nat), (T.mapS (pinF A z) r b).2 ≤ r
  | .var n, r, b => by
    simp only [Tm.mapS, pinF]
    split
    · exact Int.le_refl _
    · split
      · exact Int.le_refl _
      · split
        · exact Int.le_refl _
        · simp only; omega
  | .sort _, r, b => Int.le_refl _
  | .const _ _, r, b => Int.le_refl _
  | .app x y, r, b => Int.le_trans (put_down y _ b) (put_down x r b)
  | .lam x y, r, b => Int.le_trans (put_down y _ (b + 1)) (put_down x r b)
  | .pi x y, r, b => Int.le_trans (put_down y _ (b + 1)) (put_down x r b)
  | .lett x y w, r, b => Int.le_trans (put_down w _ (b + 1)) (Int.le_trans (put_down y _ b) (put_down x r b))
/-- As long as bytes are left, all is put in. -/
theorem put_same {A : Tm} {z : Nat} (hz : 1 ≤ z) : ∀ (T : Tm) (r : Int) (b : Nat), 0 ≤ (T.mapS (pinF A z) r b).2 → (T.mapS (pinF A z) r b).1 = Tm.put A b T
  | .var n, r, b, h => by
    simp only [Tm.mapS, pinF, Tm.put] at h ⊢
    by_cases h1 : n < b
    · rw [if_pos h1, if_neg (by omega), if_neg (by omega)]
    · rw [if_neg h1] at h ⊢
      by_cases h2 : b < n
      · rw [if_pos h2, if_neg (by omega), if_pos h2]
      · rw [if_neg h2] at h ⊢
        rw [if_pos (by omega : n = b)]
        by_cases h3 : r < 0
        · rw [if_pos h3] at h; simp only at h; omega
        · rw [if_neg h3]
  | .sort _, r, b, _ => rfl
  | .const _ _, r, b, _ => rfl
  | .app x y, r, b, h => by
    have h2 : 0 ≤ (y.mapS (pinF A z) (x.mapS (pinF A z) r b).2 b).2 := h
    have h1 := Int.le_trans h2 (put_down y _ b)
    simp only [Tm.mapS, Tm.put]
    rw [put_same hz x r b h1, put_same hz y _ b h2]
  | .lam x y, r, b, h => by
    have h2 : 0 ≤ (y.mapS (pinF A z) (x.mapS (pinF A z) r b).2 (b + 1)).2 := h
    have h1 := Int.le_trans h2 (put_down y _ (b + 1))
    simp only [Tm.mapS, Tm.put]
    rw [put_same hz x r b h1, put_same hz y _ (b + 1) h2]
  | .pi x y, r, b, h => by
    have h2 : 0 ≤ (y.mapS (pinF A z) (x.mapS (pinF A z) r b).2 (b + 1)).2 := h
    have h1 := Int.le_trans h2 (put_down y _ (b + 1))
    simp only [Tm.mapS, Tm.put]
    rw [put_same hz x r b h1, put_same hz y _ (b + 1) h2]
  | .lett x y w, r, b, h => by
    have h3 : 0 ≤ (w.mapS (pinF A z) (y.mapS (pinF A z) (x.mapS (pinF A z) r b).2 b).2 (b + 1)).2 := h
    have h2 := Int.le_trans h3 (put_down w _ (b + 1))
    have h1 := Int.le_trans h2 (put_down y _ b)
    simp only [Tm.mapS, Tm.put]
    rw [put_same hz x r b h1, put_same hz y _ b h2, put_same hz w _ (b + 1) h3]
/-- What is put in counts. -/
theorem put_count {A : Tm} : ∀ (T : Tm) (r : Int) (b : Nat), r ≤ ((T.mapS (pinF A A.bytes.length) r b).1.bytes.length : Int) + (T.mapS (pinF A A.bytes.length) r b).2 ∧ r ≤ ((Tm.put A b T).bytes.length : Int) + (T.mapS (pinF A A.bytes.length) r b).2
  | .var n, r, b => by
    have hl := A.lift_grows b 0
    simp only [Tm.mapS, pinF, Tm.put]
    by_cases h1 : n < b
    · rw [if_pos h1, if_neg (by omega), if_neg (by omega)]; simp only; omega
    · rw [if_neg h1]
      by_cases h2 : b < n
      · rw [if_pos h2, if_neg (by omega), if_pos h2]; simp only; omega
      · rw [if_neg h2, if_pos (by omega : n = b)]
        by_cases h3 : r < 0
        · rw [if_pos h3]; simp only; omega
        · rw [if_neg h3]; simp only; omega
  | .sort _, r, b => by simp only [Tm.mapS, pinF, Tm.put]; omega
  | .const _ _, r, b => by simp only [Tm.mapS, pinF, Tm.put]; omega
  | .app x y, r, b => by
    obtain ⟨h1, h2⟩ := put_count (A := A) x r b
    obtain ⟨h3, h4⟩ := put_count (A := A) y (x.mapS (pinF A A.bytes.length) r b).2 b
    simp only [Tm.mapS, Tm.put, Tm.bytes, List.length_cons, List.length_append]; omega
  | .lam x y, r, b => by
    obtain ⟨h1, h2⟩ := put_count (A := A) x r b
    obtain ⟨h3, h4⟩ := put_count (A := A) y (x.mapS (pinF A A.bytes.length) r b).2 (b + 1)
    simp only [Tm.mapS, Tm.put, Tm.bytes, List.length_cons, List.length_append]; omega
  | .pi x y, r, b => by
    obtain ⟨h1, h2⟩ := put_count (A := A) x r b
    obtain ⟨h3, h4⟩ := put_count (A := A) y (x.mapS (pinF A A.bytes.length) r b).2 (b + 1)
    simp only [Tm.mapS, Tm.put, Tm.bytes, List.length_cons, List.length_append]; omega
  | .lett x y w, r, b => by
    obtain ⟨h1, h2⟩ := put_count (A := A) x r b
    obtain ⟨h3, h4⟩ := put_count (A := A) y (x.mapS (pinF A A.bytes.length) r b).2 b
    obtain ⟨h5, h6⟩ := put_count (A := A) w (y.mapS (pinF A A.bytes.length) (x.mapS (pinF A A.bytes.length) r b).2 b).2 (b + 1)
    simp only [Tm.mapS, Tm.put, Tm.bytes, List.length_cons, List.length_append]; omega
theorem putIn_say {l m : List UInt8} {T A : Tm} (hT : IsTm l T) (hA : IsTm m A) : putIn l m = sayT (some []) (T.mapS (pinF A m.length) 2000 0).1 := by
  have e : m.length = A.bytes.length := by rw [hA.2.1]
  have hz := A.bytes_pos
  obtain ⟨h1, h2⟩ := put_count (A := A) T 2000 0
  rw [putIn, termOf_some hT, termOf_some hA, e]
  show sayT (some []) (Tm.put A 0 T) = _
  by_cases h0 : 0 ≤ (T.mapS (pinF A A.bytes.length) 2000 0).2
  · rw [put_same hz T 2000 0 h0]
  · rw [(sayT_nil _).2 (fun h => by have := h.2; omega), (sayT_nil _).2 (fun h => by have := h.2; omega)]

/-- What TermLevels does with a leaf. -/
def lvF (args : List (List UInt8)) : Unit → Tm → Nat → Tm × Unit
  | _, .sort l, _ => (.sort ((levelPut l args).getD []), ())
  | _, .const n ls, _ => (.const n (ls.map fun l => (levelPut l args).getD []), ())
  | _, t, _ => (t, ())
theorem mapM_some {args : List (List UInt8)} : ∀ {ls r : List (List UInt8)}, (ls.mapM fun l => levelPut l args) = some r → (ls.map fun l => (levelPut l args).getD []) = r
  | [], r, h => by simp at h; subst h; rfl
  | l :: ls, r, h => by
    rw [List.mapM_cons] at h
    obtain ⟨x, hx, h2⟩ := Option.bind_eq_some_iff.1 h
    obtain ⟨r', hr, h3⟩ := Option.bind_eq_some_iff.1 h2
    cases h3
    rw [List.map_cons, hx, mapM_some hr]
    rfl
theorem mapM_none {args : List (List UInt8)} : ∀ {ls : List (List UInt8)}, (ls.mapM fun l => levelPut l args) = none → ∃ l ∈ ls, levelPut l args = none
  | [], h => by simp at h
  | l :: ls, h => by
    cases hx : levelPut l args with
    | none => exact ⟨l, List.mem_cons_self, hx⟩
    | some x =>
      rw [List.mapM_cons, hx] at h
      cases hr : (ls.mapM fun l => levelPut l args) with
      | none =>
        obtain ⟨y, hy, h3⟩ := mapM_none hr
        exact ⟨y, List.mem_cons_of_mem _ hy, h3⟩
      | some r => rw [hr] at h; cases h
theorem levelOk_nil : levelOk [] = false := by
  cases h : levelOk [] with
  | false => rfl
  | true => exact absurd rfl (levelOk_ne h)
theorem mapS_lvs (args : List (List UInt8)) : ∀ (T : Tm) (b : Nat), (∀ T', T.lvs args = some T' → (T.mapS (lvF args) () b).1 = T') ∧ (T.lvs args = none → ¬ (T.mapS (lvF args) () b).1.Ok)
  | .var n, b => ⟨fun T' h => by cases h; rfl, fun h => by cases h⟩
  | .sort l, b => by
    cases hx : levelPut l args with
    | none =>
      refine ⟨fun T' h => ?_, fun _ hk => ?_⟩
      · rw [Tm.lvs, hx] at h; cases h
      · have h1 : levelOk ((levelPut l args).getD []) = true := hk
        rw [hx] at h1
        exact absurd h1 (by rw [Option.getD_none, levelOk_nil]; decide)
    | some x =>
      refine ⟨fun T' h => ?_, fun h => ?_⟩
      · rw [Tm.lvs, hx] at h
        cases h
        show Tm.sort ((levelPut l args).getD []) = _
        rw [hx]; rfl
      · rw [Tm.lvs, hx] at h; cases h
  | .const n ls, b => by
    cases hx : (ls.mapM fun l => levelPut l args) with
    | none =>
      refine ⟨fun T' h => ?_, fun _ hk => ?_⟩
      · rw [Tm.lvs, hx] at h; cases h
      · obtain ⟨y, hy, h3⟩ := mapM_none hx
        have h1 : ∀ x ∈ ls.map (fun l => (levelPut l args).getD []), levelOk x = true := hk.2.2
        have h2 := h1 [] (List.mem_map.2 ⟨y, hy, by rw [h3]; rfl⟩)
        rw [levelOk_nil] at h2
        cases h2
    | some x =>
      refine ⟨fun T' h => ?_, fun h => ?_⟩
      · rw [Tm.lvs, hx] at h
        cases h
        show Tm.const n (ls.map fun l => (levelPut l args).getD []) = _
        rw [mapM_some hx]
      · rw [Tm.lvs, hx] at h; cases h
  | .app x y, b => by
    obtain ⟨p1, p2⟩ := mapS_lvs args x b
    obtain ⟨q1, q2⟩ := mapS_lvs args y b
    simp only [Tm.lvs, Tm.mapS]
    cases hx : x.lvs args with
    | none => exact ⟨(fun T' h => by cases h), fun _ hk => p2 hx hk.1⟩
    | some x' =>
      cases hy : y.lvs args with
      | none => exact ⟨(fun T' h => by cases h), fun _ hk => q2 hy hk.2⟩
      | some y' => exact ⟨(fun T' h => by cases h; rw [p1 _ hx, q1 _ hy]), (fun h => by cases h)⟩
  | .lam x y, b => by
    obtain ⟨p1, p2⟩ := mapS_lvs args x b
    obtain ⟨q1, q2⟩ := mapS_lvs args y (b + 1)
    simp only [Tm.lvs, Tm.mapS]
    cases hx : x.lvs args with
    | none => exact ⟨(fun T' h => by cases h), fun _ hk => p2 hx hk.1⟩
    | some x' =>
      cases hy : y.lvs args with
      | none => exact ⟨(fun T' h => by cases h), fun _ hk => q2 hy hk.2⟩
      | some y' => exact ⟨(fun T' h => by cases h; rw [p1 _ hx, q1 _ hy]), (fun h => by cases h)⟩
  | .pi x y, b => by
    obtain ⟨p1, p2⟩ := mapS_lvs args x b
    obtain ⟨q1, q2⟩ := mapS_lvs args y (b + 1)
    simp only [Tm.lvs, Tm.mapS]
    cases hx : x.lvs args with
    | none => exact ⟨(fun T' h => by cases h), fun _ hk => p2 hx hk.1⟩
    | some x' =>
      cases hy : y.lvs args with
      | none => exact ⟨(fun T' h => by cases h), fun _ hk => q2 hy hk.2⟩
      | some y' => exact ⟨(fun T' h => by cases h; rw [p1 _ hx, q1 _ hy]), (fun h => by cases h)⟩
  | .lett x y z, b => by
    obtain ⟨p1, p2⟩ := mapS_lvs args x b
    obtain ⟨q1, q2⟩ := mapS_lvs args y b
    obtain ⟨r1, r2⟩ := mapS_lvs args z (b + 1)
    simp only [Tm.lvs, Tm.mapS]
    cases hx : x.lvs args with
    | none => exact ⟨(fun T' h => by cases h), fun _ hk => p2 hx hk.1⟩
    | some x' =>
      cases hy : y.lvs args with
      | none => exact ⟨(fun T' h => by cases h), fun _ hk => q2 hy hk.2.1⟩
      | some y' =>
        cases hz : z.lvs args with
        | none => exact ⟨(fun T' h => by cases h), fun _ hk => r2 hz hk.2.2⟩
        | some z' => exact ⟨(fun T' h => by cases h; rw [p1 _ hx, q1 _ hy, r1 _ hz]), (fun h => by cases h)⟩
theorem termLevels_say {l : List UInt8} {T : Tm} {args : List (List UInt8)} (hT : IsTm l T) (ha : args.length ≤ 3) : termLevels l args = sayT (some []) (T.mapS (lvF args) () 0).1 := by
  obtain ⟨h1, h2⟩ := mapS_lvs args T 0
  rw [termLevels, termOf_some hT]
  show (if args.length ≤ 3 then _ else _) = _
  rw [if_pos ha]
  cases hx : T.lvs args with
  | none => rw [(sayT_nil _).2 (fun h => h2 hx h.1)]; rfl
  | some T' =>
    rw [h1 _ hx]
    have hk := (lvs_ok T T' hT.1 hx).1
    show (if T'.bytes.length ≤ 2000 then some T'.bytes else none) = _
    by_cases hl : T'.bytes.length ≤ 2000
    · rw [if_pos hl, (sayT_nil T').1 ⟨hk, hl⟩]
    · rw [if_neg hl, (sayT_nil T').2 (fun h => hl h.2)]
/-- Leaves that PutIn, Lifted and TermLevels make. -/
theorem lift_leaf {a c B : Nat} (hB : B ≤ 3000) (ha : a ≤ 3000) : ∀ (s : Unit) (t : Tm) (b : Nat), t.OkLeaf B b → (liftF a c s t b).1.Pre ∧ (liftF a c s t b).1.Lim 9999 ∧ (liftF a c s t b).1.bytes.length ≤ 2000 * t.bytes.length := by
  rintro s t b ⟨hb, ⟨n, hn, rfl⟩ | ⟨l, hl, rfl⟩ | ⟨n, ls, hk, rfl⟩⟩
  · refine ⟨trivial, ?_, ?_⟩
    · show (if c + b ≤ n then n + a else n) ≤ 9999
      split <;> omega
    · have := Tm.lift_len2 (a := a) (m := 999) (by omega) (.var n) (c + b) hn
      show ((Tm.var n).lift a (c + b)).bytes.length ≤ _
      omega
  · exact ⟨(level_clean hl).1, trivial, by show (Tm.sort l).bytes.length ≤ _; omega⟩
  · exact ⟨Tm.Ok.pre (t := .const n ls) hk, trivial, by show (Tm.const n ls).bytes.length ≤ _; omega⟩
theorem put_leaf {A : Tm} {z B : Nat} (hA : A.Ok) (hl : A.bytes.length ≤ 2000) (hB : B ≤ 3000) : ∀ (s : Int) (t : Tm) (b : Nat), t.OkLeaf B b → (pinF A z s t b).1.Pre ∧ (pinF A z s t b).1.Lim 9999 ∧ (pinF A z s t b).1.bytes.length ≤ 2000 * t.bytes.length := by
  rintro s t b ⟨hb, ⟨n, hn, rfl⟩ | ⟨l, hl2, rfl⟩ | ⟨n, ls, hk, rfl⟩⟩
  · have h3 : 3 ≤ (Tm.var n).bytes.length := by have := digits_pos n; simp only [Tm.bytes, List.length_cons, List.length_append, List.length_nil]; omega
    simp only [pinF]
    split
    · exact ⟨trivial, (by show n ≤ 9999; omega), by simp only; omega⟩
    · split
      · refine ⟨trivial, (by show n - 1 ≤ 9999; omega), ?_⟩
        have := digits_four (n := n - 1) (by omega)
        simp only [Tm.bytes, List.length_cons, List.length_append, List.length_nil] at h3 ⊢
        omega
      · split
        · exact ⟨trivial, (by show n ≤ 9999; omega), by simp only; omega⟩
        · have := Tm.lift_len2 (a := b) (m := 999) (by omega) A 0 hA.lim
          exact ⟨Tm.lift_pre b A 0 hA.pre, Tm.Lim.mono (by omega : 999 + b ≤ 9999) (Tm.lift_lim A 0 hA.lim), by simp only; omega⟩
  · exact ⟨(level_clean hl2).1, trivial, by show (Tm.sort l).bytes.length ≤ _; omega⟩
  · exact ⟨Tm.Ok.pre (t := .const n ls) hk, trivial, by show (Tm.const n ls).bytes.length ≤ _; omega⟩
theorem put_clean (l : List UInt8) (args : List (List UInt8)) : (46 : UInt8) ∉ (levelPut l args).getD [] ∧ (44 : UInt8) ∉ (levelPut l args).getD [] ∧ ((levelPut l args).getD []).length ≤ 60 := by
  cases hx : levelPut l args with
  | none => simp
  | some x =>
    have h1 := (levelPut_ok hx).1
    exact ⟨(level_clean h1).1, (level_clean h1).2, (levelOk_len h1).1⟩
theorem lvsB_short : ∀ {ls : List (List UInt8)}, (∀ y ∈ ls, y.length ≤ 60) → (lvsB ls).length ≤ ls.length * 61
  | [], _ => by simp [lvsB]
  | x :: r, h => by
    have h1 := h x List.mem_cons_self
    have h2 := lvsB_short (ls := r) fun y hy => h y (List.mem_cons_of_mem _ hy)
    simp only [lvsB, List.length_append, List.length_cons]
    omega
theorem lv_leaf {args : List (List UInt8)} {B : Nat} : ∀ (s : Unit) (t : Tm) (b : Nat), t.OkLeaf B b → (lvF args s t b).1.Pre ∧ (lvF args s t b).1.Lim 9999 ∧ (lvF args s t b).1.bytes.length ≤ 2000 * t.bytes.length := by
  rintro s t b ⟨hb, ⟨n, hn, rfl⟩ | ⟨l, hl, rfl⟩ | ⟨n, ls, hk, rfl⟩⟩
  · exact ⟨trivial, (by show n ≤ 9999; omega), by show (Tm.var n).bytes.length ≤ _; omega⟩
  · obtain ⟨h1, h2, h3⟩ := put_clean l args
    refine ⟨h1, trivial, ?_⟩
    simp only [lvF, Tm.bytes, List.length_cons, List.length_append, List.length_nil]
    omega
  · refine ⟨⟨name_no59 hk.1, fun x hx => ?_⟩, trivial, ?_⟩
    · obtain ⟨y, _, rfl⟩ := List.mem_map.1 hx
      exact ⟨(put_clean y args).1, (put_clean y args).2.1⟩
    · have h3 : ls.length ≤ 3 := hk.2.1
      have h4 := lvsB_short (ls := ls.map fun l => (levelPut l args).getD []) (fun x hx => by
        obtain ⟨y, _, rfl⟩ := List.mem_map.1 hx
        exact (put_clean y args).2.2)
      rw [List.length_map] at h4
      have h5 : ls.length * 61 ≤ 183 := by omega
      simp only [lvF, Tm.bytes, List.length_cons, List.length_append, List.length_nil]
      omega
end Go.Proofs.YtgielbamebjjdaaGreatDoor

namespace Go.Proofs.YtgielbamebjjdaaGreatDoor
set_option maxRecDepth 100000
open Go.ChangeShapes Go.WideShapes Go.ChangeAt Go.RowKit
set_option linter.unusedSimpArgs false
set_option linter.unusedVariables false

/-- A tree in new memory. -/
def TreeAns (t : Tm) (W : World) (e : Ending) (W' : World) : Prop := ∃ T x, e = .returned (.iface T x) ∧ IRep W' t (.iface T x) ∧ Below W.heap.size W W'
theorem below_of_grown {W W' : World} (h : W.grownBy W' none) : Below W.heap.size W W' :=
  ⟨h.os, h.tape, h.output, h.size, fun i hi => h.block i hi (by simp)⟩
theorem putRes_get (o : Option (List UInt8)) : ∃ b, putRes o = .tuple #[.string ⟨(o.getD []).toArray⟩, .bool b] := by
  cases o with
  | none => exact ⟨_, rfl⟩
  | some t => exact ⟨_, rfl⟩
theorem putRes_say (T : Tm) (tb : List UInt8) (h : T.bytes = tb) (hp : T.Pre) : putRes (sayT (some []) T) = if termOk tb = true then .tuple #[.string ⟨tb.toArray⟩, .bool true] else .tuple #[.string ⟨#[]⟩, .bool false] := by
  subst h
  by_cases hk : termOk T.bytes = true
  · rw [if_pos hk, (sayT_nil T).1 ((termOk_pre hp).1 hk)]
    rfl
  · rw [if_neg hk, (sayT_nil T).2 (fun h => hk ((termOk_pre hp).2 h))]
    rfl
theorem implTextWithin {t : Tm} {v : Value} {W : World} (hv : Vars W) (hl : t.Lim 9999) (hp : t.Pre) (hz : t.bytes.length ≤ 100000000) (h : IRep W t v) :
    Calls Tryz.prog 56 #[v] W fun e W' => e = .returned (putRes (sayT (some []) t)) ∧ Below W.heap.size W W' := by
  obtain ⟨T, x, rfl⟩ := h.iface
  have f1 := Lib.hid (implText hv hl h hz)
  have f2 := Lib.hid fun W1 (hb : Below W.heap.size W W1) => implTermOk ⟨t.bytes.toArray⟩ W1 (hv.below hb) (by simp only [maxLen, ByteArray.size, List.size_toArray]; omega)
  have HE := Lib.hid (putRes_say t _ rfl hp)
  simp only at f2
  generalize t.bytes = tb at f1 f2 HE
  rw [HE.out]
  clear HE h hl hp hz hv
  generalize termOk tb = ok at f2
  go_enter Tryz.func56, Tryz.ntmps56
  go_wp2_with fail
  (with_reducible refine f1.out.mono ?_); rintro e w1 ⟨rfl, hb1⟩
  go_wp2_with fail
  (with_reducible refine (f2.out _ hb1).mono ?_); rintro e w2 ⟨rfl, hb2⟩
  have HB2 := Lib.hid (hb1.trans (hb2.mono hb1.size))
  clear hb1 hb2 f1 f2
  cases ok
  all_goals
    go_wp2
    go_ret2
    exact ⟨rfl, HB2.out⟩
end Go.Proofs.YtgielbamebjjdaaGreatDoor

namespace Go.Proofs.YtgielbamebjjdaaGreatDoor
set_option maxRecDepth 100000
open Go.ChangeShapes Go.WideShapes Go.ChangeAt Go.RowKit
set_option linter.unusedSimpArgs false
set_option linter.unusedVariables false

theorem termOk_iff {l : List UInt8} : termOk l = true ↔ ∃ t, IsTm l t := by
  unfold termOk
  constructor
  · intro h
    obtain ⟨t, ht⟩ := Option.isSome_iff_exists.1 h
    exact ⟨t, termOf_is ht⟩
  · rintro ⟨t, ht⟩
    rw [termOf_some ht]
    rfl
theorem AllTm.flat {ls : List (List UInt8)} {ts : List Tm} (h : AllTm ls ts) : catB ts = ls.flatten := by rw [catB, h.1]
theorem AllTm.ok {ls : List (List UInt8)} {ts : List Tm} (h : AllTm ls ts) : ∀ t ∈ ts, t.Ok := fun t ht => (h.2 t ht).1
theorem AllTm.all {ls : List (List UInt8)} {ts : List Tm} (h : AllTm ls ts) : ∀ a ∈ ls, termOk a = true := fun a ha => by
  rw [← h.1] at ha
  obtain ⟨t, ht, rfl⟩ := List.mem_map.1 ha
  exact termOk_iff.2 ⟨t, h.2 t ht⟩
theorem given_no {h : List UInt8} (ls : List (List UInt8)) (hno : ∀ t, ¬ IsTm h t) : givenOf h ls = none := by
  unfold givenOf
  rw [if_neg]
  rintro ⟨h1, _⟩
  obtain ⟨t, ht⟩ := termOk_iff.1 h1
  exact hno t ht
theorem given_no2 (h : List UInt8) {ls : List (List UInt8)} (hno : (∃ a ∈ ls, ∀ t, ¬ IsTm a t) ∨ 2000 < ls.flatten.length) : givenOf h ls = none := by
  unfold givenOf
  rw [if_neg]
  rintro ⟨_, h2, h3⟩
  rcases hno with ⟨a, ha, hx⟩ | hl
  · obtain ⟨t, ht⟩ := termOk_iff.1 (h2 a ha)
    exact hx t ht
  · omega
theorem given_yes {h : List UInt8} {ls : List (List UInt8)} {T : Tm} {ts : List Tm} (ht : IsTm h T) (ha : AllTm ls ts) : givenOf h ls = sayT (some []) (T.given ts) := by
  have hok := given_ok ts T ht.1 ha.ok
  have hb := given_bytes ts T
  rw [ha.flat, ht.2.1, ha.len] at hb
  have hl : (T.given ts).bytes.length = h.length + ls.length + ls.flatten.length := by rw [hb]; simp only [List.length_append, List.length_replicate]; omega
  unfold givenOf
  by_cases hk : h.length + ls.length + ls.flatten.length ≤ 2000
  · rw [if_pos ⟨termOk_iff.2 ⟨T, ht⟩, ha.all, hk⟩, (sayT_nil _).1 ⟨hok, by omega⟩, hb]
  · rw [if_neg (fun hh => hk hh.2.2), (sayT_nil _).2 (fun hh => hk (by have := hh.2; omega))]

set_option maxHeartbeats 4000000 in
theorem implGiven (s : ByteArray) {W : World} {b : Nat} {v : Value} {ls : List (List UInt8)} (hv : Vars W) (hs : s.size ≤ maxLen) (h : W.ownsRow b 9 1 v ls.length (ls.map sv)) (hn : ls.length ≤ 1048576) (hx : ∀ x ∈ ls, x.length ≤ 1048576) :
    Calls Tryz.prog 15 #[.string s, v] W fun e w' => e = .returned (putRes (givenOf s.data.toList ls)) ∧ Below W.heap.size W w' := by
  have f1 := Lib.hid (implReadTerm s W hv hs)
  have f2 := Lib.hid fun W1 (hb : Below W.heap.size W W1) => implReadTerms (hv.below hb) (own_below h hb) hn hx
  have HV := Lib.hid hv
  obtain ⟨ua, uc, rfl⟩ := row_slice h
  clear hv h hx hs
  go_enter Tryz.func15, Tryz.ntmps15
  go_wp2_with fail
  (with_reducible refine f1.out.mono ?_); rintro e w1 ⟨hb, ⟨t, tv, ht, rfl, hr⟩ | ⟨hno, rfl⟩⟩
  rotate_left
  · have HB := Lib.hid hb
    have HE : Hid (givenOf s.data.toList ls = none) := given_no ls hno
    clear hno f1 hb
    go_wp2_with fail
    (with_reducible refine (f2.out _ HB.out).mono ?_); rintro e w2 ⟨hb2, ⟨ts, u, vs, hA, hfl, hl2, rfl, hu, hvs⟩ | ⟨hno2, rfl⟩⟩
    · have HB2 := Lib.hid (HB.out.trans (hb2.mono HB.out.size))
      obtain ⟨xa, xc, rfl⟩ := row_slice hu
      clear hb2 hA hu hvs f2
      go_wp2
      go_ret2
      rw [HE.out]
      exact ⟨rfl, HB2.out⟩
    · have HB2 := Lib.hid (HB.out.trans (hb2.mono HB.out.size))
      clear hb2 hno2 f2
      go_wp2
      go_ret2
      rw [HE.out]
      exact ⟨rfl, HB2.out⟩
  obtain ⟨T, x, rfl⟩ := hr.iface
  have HB := Lib.hid hb
  clear hb f1
  go_wp2_with fail
  (with_reducible refine (f2.out _ HB.out).mono ?_); rintro e w2 ⟨hb2, ⟨ts, u, vs, hA, hfl, hl2, rfl, hu, hvs⟩ | ⟨hno2, rfl⟩⟩
  rotate_left
  · have HB2 := Lib.hid (HB.out.trans (hb2.mono HB.out.size))
    have HE : Hid (givenOf s.data.toList ls = none) := given_no2 _ hno2
    clear hb2 hno2 f2 ht hr
    go_wp2
    go_ret2
    rw [HE.out]
    exact ⟨rfl, HB2.out⟩
  have HB2 := Lib.hid (HB.out.trans (hb2.mono HB.out.size))
  have HE := Lib.hid (given_yes ht hA)
  have hok := given_ok ts t ht.1 hA.ok
  have hbl := congrArg List.length (given_bytes ts t)
  rw [hA.flat] at hbl
  have hle := ht.2.2
  rw [← ht.2.1] at hle
  have hll := hA.len
  simp only [List.length_append, List.length_replicate] at hbl
  have f3 := Lib.hid (implApplied (hr.below hb2) hu hvs (by omega))
  have f4 := Lib.hid fun W2 v' (hb3 : Below W.heap.size W W2) (hr3 : IRep W2 (t.given ts) v') => implTextWithin (HV.out.below hb3) hok.lim9 hok.pre (by omega) hr3
  obtain ⟨xa, xc, rfl⟩ := row_slice hu
  generalize t.given ts = R at f3 f4 HE
  clear hb2 hA hu hvs f2 ht hr hok hbl hle hll hfl HB
  go_wp2_with fail
  (with_reducible refine f3.out.mono ?_); rintro e w3 ⟨hb3, v', rfl, hr3⟩
  have HB3 := Lib.hid (HB2.out.trans (hb3.mono HB2.out.size))
  have f5 := Lib.hid (f4.out w3 v' HB3.out hr3)
  obtain ⟨T1, x1, rfl⟩ := hr3.iface
  obtain ⟨o2, ho⟩ := putRes_get (sayT (some []) R)
  rw [ho] at f5
  have HO := Lib.hid ho
  clear hr3 hb3 f3 f4 ho
  go_wp2_with fail
  (with_reducible refine f5.out.mono ?_); rintro e w4 ⟨rfl, hb4⟩
  have HB4 := Lib.hid (HB3.out.trans (hb4.mono HB3.out.size))
  clear hb4 f5
  go_wp2
  go_ret2
  rw [HE.out, HO.out]
  exact ⟨rfl, HB4.out⟩
end Go.Proofs.YtgielbamebjjdaaGreatDoor
