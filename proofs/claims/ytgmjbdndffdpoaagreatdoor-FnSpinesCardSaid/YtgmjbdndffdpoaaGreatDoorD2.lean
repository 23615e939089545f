/-
  Plain: whether a list consists of names and rises strictly.
  Plain: heads, arguments, domains, targets and names of drawn terms.
  append([]string{}, v...): a copy in a place of its own, whether v is nil, empty or not.
  The contract of laws.big.
  An argument that is a list of bytes, as the walks want it.
-/
import Derived.Test.YtgmjbdndffdpoaaGreatDoorNMath
import Derived.Test.YtgmjbdndffdpoaaGreatDoorEUses
import Derived.Test.YtgmjbdndffdpoaaGreatDoorD1
import Derived.Test.YtgmjbdndffdpoaaGreatDoorListsP
import Derived.Laws.AppendOwnNone
import Derived.ChangeSlices
namespace Go.Proofs.YtgmjbdndffdpoaaGreatDoor
set_option maxRecDepth 100000
open Go.ChangeShapes Go.WideShapes Go.ChangeAt Go.RowKit
set_option linter.unusedSimpArgs false
set_option linter.unusedVariables false

def okAt (l : List (List UInt8)) (k : Nat) : Bool := nameOk (l.getD k []) && (decide (k = 0) || decide (l.getD (k - 1) [] < l.getD k []))
def namesOk (l : List (List UInt8)) : Bool := (List.range l.length).all (okAt l)
theorem namesOk_bad {l : List (List UInt8)} {k : Nat} (h : k < l.length) (hb : okAt l k = false) : namesOk l = false := by
  rw [Bool.eq_false_iff]
  intro h2
  have := List.all_eq_true.1 h2 k (List.mem_range.2 h)
  rw [hb] at this
  cases this
theorem namesOk_done {l : List (List UInt8)} (h : ∀ j, j < l.length → okAt l j = true) : namesOk l = true :=
  List.all_eq_true.2 fun k hk => h k (List.mem_range.1 hk)
theorem okAt_name {l : List (List UInt8)} {k : Nat} (h : k < l.length) (hb : nameOk l[k] = false) : okAt l k = false := by
  simp [okAt, List.getElem?_eq_getElem h, hb]
theorem okAt_zero {l : List (List UInt8)} (h : 0 < l.length) (hb : nameOk l[0] = true) : okAt l 0 = true := by
  simp [okAt, List.getElem?_eq_getElem h, hb]
theorem okAt_succ {l : List (List UInt8)} {k : Nat} (h : k + 1 < l.length) (hb : nameOk l[k + 1] = true) : okAt l (k + 1) = decide (l[k] < l[k + 1]) := by
  have h2 : k < l.length := by omega
  simp [okAt, List.getElem?_eq_getElem h, List.getElem?_eq_getElem h2, hb]

end Go.Proofs.YtgmjbdndffdpoaaGreatDoor

namespace Go.Proofs.YtgmjbdndffdpoaaGreatDoor
set_option maxRecDepth 100000
open Go.ChangeShapes Go.WideShapes Go.ChangeAt Go.RowKit
set_option linter.unusedSimpArgs false
set_option linter.unusedVariables false

theorem isTm_own {T : Tm} (hT : T.Ok) (hl : T.bytes.length ≤ 2000) : IsTm T.bytes T := ⟨hT, rfl, hl⟩
theorem headOf_own {T : Tm} (hT : T.Ok) (hl : T.bytes.length ≤ 2000) : headOf T.bytes = T.head.bytes := by rw [headOf, termOf_some (isTm_own hT hl)]
theorem targetOf_own {T : Tm} (hT : T.Ok) (hl : T.bytes.length ≤ 2000) : targetOf T.bytes = T.targ.bytes := by rw [targetOf, termOf_some (isTm_own hT hl)]
theorem argsOf_own {T : Tm} (hT : T.Ok) (hl : T.bytes.length ≤ 2000) : argsOf T.bytes = T.args.map Tm.bytes := by rw [argsOf, termOf_some (isTm_own hT hl)]
theorem domainsOf_own {T : Tm} (hT : T.Ok) (hl : T.bytes.length ≤ 2000) : domainsOf T.bytes = T.doms.map Tm.bytes := by rw [domainsOf, termOf_some (isTm_own hT hl)]
theorem usesIn_own {T : Tm} (hT : T.Ok) (hl : T.bytes.length ≤ 2000) : usesIn T.bytes = srt T.cnames := by rw [usesIn, termOf_some (isTm_own hT hl)]
theorem termOk_own {T : Tm} (hT : T.Ok) (hl : T.bytes.length ≤ 2000) : termOk T.bytes = true := by rw [termOk, termOf_some (isTm_own hT hl)]; rfl
theorem catB_len (ts : List Tm) (a : Tm) (h : a ∈ ts) : a.bytes.length ≤ (catB ts).length := by
  induction ts with
  | nil => cases h
  | cons x r ih =>
    have e : catB (x :: r) = x.bytes ++ catB r := by simp [catB]
    rw [e, List.length_append]
    rcases List.mem_cons.1 h with rfl | h
    · omega
    · have := ih h; omega
theorem givenOf_own {h : Tm} {us : List Tm} (hh : h.Ok) (hu : ∀ a ∈ us, a.Ok) (hl : (h.given us).bytes.length ≤ 2000) : givenOf h.bytes (us.map Tm.bytes) = some (h.given us).bytes := by
  have hb := given_bytes us h
  have hz : h.bytes.length + us.length + (catB us).length = (h.given us).bytes.length := by rw [hb]; simp; omega
  have e : (us.map Tm.bytes).flatten = catB us := rfl
  rw [givenOf, if_pos]
  · rw [hb, e, List.length_map]
  · refine ⟨termOk_own hh (by omega), fun a ha => ?_, by rw [e, List.length_map]; omega⟩
    obtain ⟨x, hx, rfl⟩ := List.mem_map.1 ha
    exact termOk_own (hu x hx) (by have := catB_len us x hx; omega)
theorem catP_len (ts : List Tm) : (catP ts).length = ts.length + (catB ts).length := by
  induction ts with
  | nil => rfl
  | cons x r ih =>
    have e : catB (x :: r) = x.bytes ++ catB r := by simp [catB]
    have e2 : catP (x :: r) = 112 :: (x.bytes ++ catP r) := by simp [catP]
    rw [e, e2]
    simp only [List.length_cons, List.length_append, ih]
    omega
theorem arrowsOf_own {t : Tm} {ds : List Tm} (ht : t.Ok) (hd : ∀ a ∈ ds, a.Ok) (hl : (Tm.arrows ds t).bytes.length ≤ 2000) : arrowsOf (ds.map Tm.bytes) t.bytes = some (Tm.arrows ds t).bytes := by
  have hb := arrows_bytes ds t
  have hz : t.bytes.length + ds.length + (catB ds).length = (Tm.arrows ds t).bytes.length := by rw [hb, List.length_append, catP_len]; omega
  have e : (ds.map Tm.bytes).flatten = catB ds := rfl
  have e2 : ((ds.map Tm.bytes).map fun d => 112 :: d).flatten = catP ds := by simp [catP, Function.comp_def]
  rw [arrowsOf, if_pos]
  · rw [hb, e2]
  · refine ⟨termOk_own ht (by omega), fun a ha => ?_, by rw [e, List.length_map]; omega⟩
    obtain ⟨x, hx, rfl⟩ := List.mem_map.1 ha
    exact termOk_own (hd x hx) (by have := catB_len ds x hx; omega)
theorem given_own (T : Tm) : T.head.given T.args = T := by
  induction T with
  | app f a ih1 ih2 =>
    rw [Tm.head, Tm.args, Tm.given, List.foldl_append]
    show Tm.app (f.head.given f.args) a = _
    rw [ih1]
  | _ => rfl
theorem arrows_own (T : Tm) : Tm.arrows T.doms T.targ = T := by
  induction T with
  | pi d b ih1 ih2 =>
    rw [Tm.targ, Tm.doms]
    show Tm.pi d (Tm.arrows b.doms b.targ) = _
    rw [ih2]
  | _ => rfl
theorem arrows_names : ∀ (ds : List Tm) (t : Tm) (x : List UInt8), x ∈ t.cnames → x ∈ (Tm.arrows ds t).cnames
  | [], t, x, k => k
  | a :: us, t, x, k => List.mem_append_right _ (arrows_names us t x k)
theorem names_drawn : ∀ {T : Tm}, T.Drawn → ∀ x ∈ T.cnames, x ∈ theNames := by
  intro T
  induction T with
  | var n => intro _ x hx; simp [Tm.cnames] at hx
  | sort t => intro _ x hx; simp [Tm.cnames] at hx
  | const n ls => intro h x hx; simp only [Tm.cnames, List.mem_singleton] at hx; subst hx; exact h
  | app f a i1 i2 => intro h x hx; exact (List.mem_append.1 hx).elim (i1 h.1 x) (i2 h.2 x)
  | lam f a i1 i2 => intro h x hx; exact (List.mem_append.1 hx).elim (i1 h.1 x) (i2 h.2 x)
  | pi f a i1 i2 => intro h x hx; exact (List.mem_append.1 hx).elim (i1 h.1 x) (i2 h.2 x)
  | lett f a b i1 i2 i3 => intro h x hx; exact (List.mem_append.1 hx).elim (fun k => (List.mem_append.1 k).elim (i1 h.1 x) (i2 h.2.1 x)) (i3 h.2.2 x)
theorem namesOk_asc {l : List BL} (ha : Asc l) (hn : ∀ x ∈ l, nameOk x = true) : namesOk l = true := by
  refine namesOk_done fun j hj => ?_
  cases j with
  | zero => exact okAt_zero hj (hn _ (List.getElem_mem hj))
  | succ k =>
    rw [okAt_succ hj (hn _ (List.getElem_mem hj)), decide_eq_true_eq]
    exact List.pairwise_iff_getElem.1 ha k (k + 1) (by omega) hj (by omega)
theorem none_not : ([110, 111, 110, 101] : List UInt8) ∉ theNames := by decide
theorem catB_le {ts : List Tm} {m : Nat} (h : ∀ a ∈ ts, a.bytes.length ≤ m) : (catB ts).length ≤ ts.length * m := by
  induction ts with
  | nil => simp [catB]
  | cons x r ih =>
    have e : catB (x :: r) = x.bytes ++ catB r := by simp [catB]
    have h1 := h x List.mem_cons_self
    have h2 := ih fun a ha => h a (List.mem_cons_of_mem _ ha)
    rw [e, List.length_append, List.length_cons, Nat.add_mul]
    omega
end Go.Proofs.YtgmjbdndffdpoaaGreatDoor

namespace Go.Proofs.YtgmjbdndffdpoaaGreatDoor
set_option maxRecDepth 100000
open Go.ChangeShapes Go.WideShapes Go.ChangeAt Go.RowKit
set_option linter.unusedSimpArgs false
set_option linter.unusedVariables false

theorem append_copyS {W : World} {ops : Array Oper} {rest : List Oper} {o : Oper} {a : Act} {Q : Exit → Act → World → Prop} (hgd : Region.wanted o (yielded ops a.tmps) = true) (s x : Operand)
    (ho : o.op = .call { callee := .builtin .append, args := #[s, x], argTypes := #[25, 25] })
    (hs : a.eval s = .slice (some ⟨W.heap.size, 0, none⟩) 0 0) (bx : Nat) (vx : Value) (l : List (List UInt8)) (hx : a.eval x = vx) (hrow : W.ownsRow bx 9 1 vx l.length (l.map sv))
    (h63 : l.length ≤ 1000000)
    (h : ∀ v' w', w'.ownsRow W.heap.size 9 1 v' l.length (l.map sv) → Below W.heap.size W w' → wpList Tryz.prog ops Q rest (a.put o.dst v') w') : wpList Tryz.prog ops Q (o :: rest) a (W.alloc (.cells #[] 9)) := by
  have b0 := (Below.refl W.heap.size W).alloc (Nat.le_refl _) (.cells #[] 9)
  obtain ⟨i0, hi, hz0, hz1, hz2⟩ := info_parts infoStr'
  have r0 := World.ownsRow_lit (base := W.heap.size) (e := 9) (size := 1) W #[] 0 (Nat.le_refl _) (by decide) (by simp)
  refine wpList_step fun K hK => ?_
  rw [if_pos hgd]
  rcases hrow.2 with ⟨rfl, h0⟩ | ⟨g, cap, cur, rfl, _⟩
  · obtain rfl : l = [] := List.length_eq_zero_iff.1 h0
    have hrun := run_append_owned_none (P := Tryz.prog) (w := W.alloc (.cells #[] 9)) W.heap.size 25 o.type 9 i0 1 Tryz.underlying25 hi _ 0 [] r0
    unfold Oper.wp
    simp [execOp, ho, resolve, invoke, builtin, hs, hx, hrun, Result.andThen]
    exact hK _ _ (h _ _ r0 b0)
  refine wp_append_own _ s x 25 ho W.heap.size 9 i0 _ 1 16 Tryz.underlying25 hi hz0 hz1 hz2 rfl (by decide) _ 0 [] hs r0 ⟨g, 0, none⟩ l.length cap (l.map sv) hx (by simp) ((hrow.alloc _).cells rfl) (fun u hu => by obtain ⟨x, _, rfl⟩ := List.mem_map.1 hu; rfl) (by unfold maxLen; omega) (by omega) (by simp) ?_
  intro v' w' h1 h2 h3
  refine hK _ _ (h v' w' (by simpa using h1) (b0.grown h2 b0.size fun k hk => ?_))
  cases hk
  exact Nat.le_refl _
end Go.Proofs.YtgmjbdndffdpoaaGreatDoor

namespace Go.Proofs.YtgmjbdndffdpoaaGreatDoor
set_option maxRecDepth 100000
open Go.ChangeShapes Go.WideShapes Go.ChangeAt Go.RowKit
set_option linter.unusedSimpArgs false

theorem CameB.below {w w' : World} {v : Value} {l : List UInt8} (h : CameB w v l) (hb : Below w.heap.size w w') : CameB w' v l := by
  obtain ⟨a0, cap, b, off, h1, h2, h3⟩ := h
  refine ⟨a0, cap, b, off, h1, fun h0 => ⟨(h2 h0).1, Nat.lt_of_lt_of_le (h2 h0).2 hb.size⟩, fun j hj => ?_⟩
  rw [hb.cell (p := ⟨b, off + j, none⟩) (h2 (by omega)).2]
  exact h3 j hj
theorem bigB {w : World} {v : Value} {l : List UInt8} (hl : CameB w v l) (hm : l.length ≤ maxLen) :
    Calls Tryz.prog 6 #[v] w fun e w' => e = .returned (.bool (decide (1048576 < l.length))) ∧ w' = w := by
  obtain ⟨a0, cap, _, _, rfl, _⟩ := hl
  unfold maxLen at hm
  by_cases h : 1048576 < l.length
  · have d1 : decide ((1048576 : Int) < (l.length : Int)) = true := decide_eq_true (by omega)
    have HE : Hid (decide (1048576 < l.length) = true) := decide_eq_true h
    go_enter Tryz.func6, Tryz.ntmps6
    go_wp2
    go_ret
    rw [HE.out]
    exact ⟨rfl, rfl⟩
  · have d1 : decide ((1048576 : Int) < (l.length : Int)) = false := decide_eq_false (by omega)
    have HE : Hid (decide (1048576 < l.length) = false) := decide_eq_false h
    go_enter Tryz.func6, Tryz.ntmps6
    go_wp2
    go_ret
    rw [HE.out]
    exact ⟨rfl, rfl⟩
end Go.Proofs.YtgmjbdndffdpoaaGreatDoor

namespace Go.Proofs.YtgmjbdndffdpoaaGreatDoor
set_option maxRecDepth 100000
open Go.ChangeShapes Go.WideShapes Go.ChangeAt Go.RowKit

theorem cellsU8 : Tryz.prog.cellsOf 5 = 1 := by kernel_rfl
theorem u8_wf {n : Int} (h : (Lit.int .u8 n).wf = true) : 0 ≤ n ∧ n ≤ 255 := by
  have h2 : IntKind.u8.min ≤ n ∧ n ≤ IntKind.u8.max := by simpa [Lit.wf] using h
  exact h2
/-- A []byte argument, nil or not, as the walks want it. -/
theorem open_cameB {H : Type} {enc : TypeId × Value → H} {W : World} {a0 : Option Addr} {len cap fuel : Nat} {x : DataW H × List MemPlace}
    (hf : DataW.trod enc Tryz.prog W 0 (fun _ => true) true fuel 22 [.slice a0 len cap] = some x) : ∃ l, CameB W (.slice a0 len cap) l ∧ l.length ≤ maxLen := by
  rcases open_ints Tryz.underlying22 Tryz.underlying5 cellsU8 hf with ⟨hcs, hx⟩ | ⟨a, len', cap', zs, hcs, _, hl, hm, hz, hx, hcell, hws⟩
  · simp at hcs
    obtain ⟨rfl, rfl, rfl⟩ := hcs
    exact ⟨[], ⟨none, 0, 0, 0, rfl, fun h => absurd h (by simp), fun j h => absurd h (by simp)⟩, Nat.zero_le _⟩
  · simp at hcs
    obtain ⟨rfl, rfl, rfl⟩ := hcs
    simp only [if_true] at hz
    obtain ⟨b, off, spot⟩ := a
    have hlen : ((zs.take len).map fun z => UInt8.ofNat z.toNat).length = len := by simp; omega
    have hspot : 0 < len → spot = none := fun h0 => by simpa [Addr.add] using World.cell?_spot (hcell 0 (by omega))
    refine ⟨(zs.take len).map (fun z => UInt8.ofNat z.toNat), ⟨some ⟨b, off, spot⟩, cap, b, off, by rw [hlen], fun h0 => ?_, fun j hj => ?_⟩, by rw [hlen]; omega⟩
    · rw [hlen] at h0
      obtain rfl := hspot h0
      refine ⟨rfl, ?_⟩
      have hc := hcell 0 (by omega)
      by_cases hb : b < W.heap.size
      · exact hb
      · unfold World.cell? at hc
        rw [Array.getElem?_eq_none (by simp [Addr.add]; omega)] at hc
        cases hc
    · rw [hlen] at hj
      obtain rfl := hspot (by omega)
      have hj2 : j < zs.length := by omega
      have hw := u8_wf (hws zs[j] (List.getElem_mem hj2))
      have e : ((((zs.take len).map fun z => UInt8.ofNat z.toNat)[j]).toNat : Int) = zs.getD j 0 := by
        simp [List.getElem?_eq_getElem hj2]
        omega
      rw [e, ← add_plain]
      exact hcell j hj2
theorem open_nilB {H : Type} {enc : TypeId × Value → H} {W : World} {a0 : Option Addr} {len cap fuel : Nat} {x : DataW H × List MemPlace}
    (hf : DataW.trod enc Tryz.prog W 0 (fun _ => true) true fuel 22 [.slice a0 len cap] = some x) : NilB (.slice a0 len cap) := by
  rcases open_ints Tryz.underlying22 Tryz.underlying5 cellsU8 hf with ⟨hcs, hx⟩ | ⟨a, len', cap', zs, hcs, _, hl, hm, hz, hx, hcell, hws⟩
  · simp at hcs
    obtain ⟨rfl, rfl, rfl⟩ := hcs
    intro n c h
    cases h
    exact ⟨rfl, rfl⟩
  · simp at hcs
    obtain ⟨rfl, rfl, rfl⟩ := hcs
    intro n c h
    cases h
end Go.Proofs.YtgmjbdndffdpoaaGreatDoor
