/-
  Contracts of impl.textsOf, impl.ArgsOf and impl.Domains.
-/
import Derived.RangeFuncBox
import Derived.Maps.AppendAt
import Derived.RangeFuncCalls
import Derived.RangeFuncWrites
import Derived.RegionIn
import Derived.Shelf.RegionOpen
import Derived.Test.YtgmjbdndffdpoaaDoorO4
import Derived.Test.YtgmjbdndffdpoaaDoorM3
import Derived.Test.YtgmjbdndffdpoaaDoorM5
import Derived.Test.YtgmjbdndffdpoaaDoorListsP
import Derived.Test.YtgmjbdndffdpoaaDoorEKeep
import Derived.Test.YtgmjbdndffdpoaaDoorNWalks
namespace Go.Proofs.YtgmjbdndffdpoaaDoor
set_option maxRecDepth 100000
open Go.ChangeShapes Go.WideShapes Go.ChangeAt Go.RowKit Go.Shelf
set_option linter.unusedSimpArgs false
set_option linter.unusedVariables false
attribute [local go_sem] Oper.semAt_some

/-- append of new elements onto an owned row, as one operation inside a fence. -/
theorem appendIn {F : Fence} {n : Nat} {P : Program} {o : Oper} {a : Act} {K : Act → World → Prop} {Q : Exit → Act → World → Prop} (w : World) (s x : Operand) (t : TypeId)
    (ho : o.op = .call { callee := .builtin .append, args := #[s, x], argTypes := #[t, t] })
    (b : Nat) (e : TypeId) (i : TypeInfo) (z : Value) (size bytes : Nat) (ht : P.underlying t = some (.slice e)) (hi : P.info? e = some i) (hz : i.zero = some z) (hs1 : i.size = size) (hb1 : i.bytes = bytes) (hzs : z.cells.size = size) (hsz : 0 < size)
    (v : Value) (k : Nat) (xs : List Value) (hs : a.eval s = v) (hown : w.ownsRow b e size v k xs) (ad : Addr) (m c : Nat) (news : List Value) (hx : a.eval x = .slice (some ad) m c) (hl : news.length = m * size)
    (hnews : ∀ j u, news[j]? = some u → w.cell? (ad.add j) = some u) (h1 : ∀ u ∈ news, u.oneCell' = true) (h63 : k + m ≤ maxLen) (hby : (k + m) * bytes ≤ 140737488355328) (hbase : b ≤ w.heap.size)
    (h : ∀ v' w', w'.ownsRow b e size v' (k + m) (xs ++ news) → w.grownBy w' v.ownBlock → K (a.put o.dst v') w') : o.wpIn F n P a w K Q := by
  obtain ⟨v', w', hr, h2, h3, _⟩ := run_append_own (P := P) w b t o.type e i z size bytes ht hi hz hs1 hb1 hzs hsz v k xs hown ad m c news hl hnews h1 h63 hby hbase
  unfold Oper.wpIn
  constructor
  · simp [Oper.about, ho, resolve, Target.leads, Sem.run_pure]
  · rw [Oper.semAt_plain F _ _ (fun d hd => by rw [ho] at hd; cases hd)]
    simp only [execOp, ho, resolve, invoke, builtin, Sem.run_bind, Sem.run_pure, Result.andThen_ok, List.map_toArray, List.map_cons, List.map_nil, hs, hx, hr]
    exact h v' w' h2 h3

set_option maxHeartbeats 8000000 in
theorem implTextsOf (gf : Nat) (lb : Array Value) (ts : List Tm) (w : World) (hv : Vars w) (eg : ∀ args w, (callFunc gf args).run Tryd.prog w = .ok (.enter gf args) w) (hn : ts.length ≤ 2000)
    (hseq : ∀ n, 1 ≤ n → SeqStopsK Fence.wide n Tryd.prog gf lb (fun x : Pt w => #[x.1.2]) (Below w.heap.size) (fun ys => trees ys = ts) (fun _ => True) ts.length w) :
    Calls Tryd.prog 31 #[.func (.func gf) #[] lb] w (LRes' (ts.map Tm.bytes) w) := by
  obtain ⟨i0, hi, hz0, hz1', hz2⟩ := info_parts infoStr
  refine (callsIn_wide (n := 3)).1 ?_
  refine callsIn_of_wp_marks Tryd.func31 rfl trivial ?_ rfl
  simp only [Tryd.ntmps31, List.size_toArray, List.length_cons, List.length_nil, Nat.reduceAdd, Nat.reduceSub, Array.replicate_succ, Array.replicate_zero, List.push_toArray, List.append_toArray, List.nil_append, List.cons_append]
  gi_wp2
  have bO := Boxed.new w 24 (.slice none 0 0)
  have hB0 : Below w.heap.size w (w.alloc (.cells #[.slice none 0 0] 24)) := (Below.refl _ w).alloc (Nat.le_refl _) _
  refine wpIn_rangeFunc_ownG rfl (by omega) (gf := gf) (lb := lb) rfl trivial eg (hseq _ (by omega)) belowK_t (belowK_b (by simp)) hB0 (fun _ => rfl)
    (fun (pre : List (Pt w)) W => (∃ v, Boxed W w.heap.size 24 v ∧ W.ownsRow w.heap.size 9 1 v pre.length (pre.map fun x => sv x.1.1.bytes) ∧ True) ∧ Below w.heap.size w W)
    (fun _ _ _ => False)
    (OwnFrom.and (Own.from (holdsRow_own w.heap.size w.heap.size 24 9 1 (fun pre : List (Pt w) => pre.length) (fun pre : List (Pt w) => pre.map fun x => sv x.1.1.bytes) (fun _ _ => True)) _) (ownFrom_below (Nat.le_refl _) (by simp)))
    (fun _ _ _ _ _ hs _ _ => hs)
    ⟨⟨_, bO, World.ownsRow_nil _ _ _ _, trivial⟩, hB0⟩
    (fun x : Pt w => { tmps := #[.func (.func gf) #[] lb, undef, .slice none 0 0, .pointer (some ⟨w.heap.size, 0, none⟩), x.1.2, .func (.func gf) #[] lb, x.1.2, undef, undef, undef, undef, undef, undef], defers := [] }) ?assign ?body ?done ?stop
  case assign =>
    intro l x W K hK
    gi_wp2
    exact hK
  case body =>
    rintro l pre ⟨⟨tm, tv⟩, hr0, hok, hlen⟩ W ⟨⟨v, hv1, hrow, -⟩, hB⟩ hlt
    obtain ⟨T0, x0, rfl⟩ := IRep.iface hr0
    have hc := hv1.cell
    have hBd := hB.drew
    have f1 := Lib.hid (implText (hv.below hBd) (Tm.Ok.lim9 hok) (IRep.below hBd hr0) (by show tm.bytes.length ≤ 100000000; have : tm.bytes.length ≤ 2000 := hlen; omega))
    dsimp only at f1
    have hmx : Tryd.prog.follows .mixedOrders = true := by kernel_rfl
    have hlt2 : pre.length < 2000 := by omega
    gi_wp2
    refine wpIn_region_any hmx ?_
    change wpAnyIn _ _ _ _ _ _ 6 #[false, false, false, false, false, false] _ W.drew
    refine wpAnyIn_ready (rs := [0, 1]) (by kernel_rfl) (by simp) ?_
    refine AllReadyIn.cons rfl (fun K hK => ?_) (AllReadyIn.cons rfl (fun K hK => ?_) AllReadyIn.nil)
    · go_simp
      refine hK _ _ ?_; clear hK K
      refine wpAnyIn_ready (rs := [1]) (by kernel_rfl) (by simp) ?_
      refine AllReadyIn.cons rfl (fun K hK => ?_) AllReadyIn.nil
      go_simp
      refine hK _ _ ?_; clear hK K
      refine wpAnyIn_ready (rs := [2]) (by kernel_rfl) (by simp) ?_
      refine AllReadyIn.cons rfl (fun K hK => ?_) AllReadyIn.nil
      go_simp
      refine ⟨trivial, ?_⟩
      gi_at_call 29
      refine (CallsIn.inRound l (callsIn_wide.2 f1.out)).mono ?_
      rintro e w1 ⟨rfl, hb1⟩
      refine hK _ _ ?_; clear hK K
      have bx1 : Boxed w1 w.heap.size 24 v := (hb1.block _ hv1.lt).trans hv1
      have hc1 := bx1.cell
      have hc1a := (bx1.alloc (.cells #[.string ⟨tm.bytes.toArray⟩] 9)).cell
      refine wpAnyIn_ready (rs := [3]) (by kernel_rfl) (by simp) ?_
      refine AllReadyIn.cons rfl (fun K hK => ?_) AllReadyIn.nil
      go_simp
      refine hK _ _ ?_; clear hK K
      have row1 : w1.ownsRow w.heap.size 9 1 v pre.length (pre.map fun x => sv x.1.1.bytes) := own_below (w := W.drew) hrow hb1
      have hz1 : w.heap.size ≤ w1.heap.size := Nat.le_trans hBd.size hb1.size
      refine wpAnyIn_ready (rs := [4]) (by kernel_rfl) (by simp) ?_
      refine AllReadyIn.cons rfl (fun K hK => ?_) AllReadyIn.nil
      rw [if_pos (by rfl)]
      refine appendIn _ _ _ 24 rfl w.heap.size 9 i0 (.string ⟨#[]⟩) 1 16 Tryd.underlying24 hi hz0 hz1' hz2 rfl (by decide) v pre.length _ rfl (row1.alloc _) ⟨w1.heap.size, 0, none⟩ 1 1 [.string ⟨tm.bytes.toArray⟩] rfl rfl (oneNew _ _ _) (by simp [Value.oneCell']) (by simp only [maxLen]; omega) (by omega) (by simp; omega) ?_
      intro v' w' r1 r2
      refine hK _ _ ?_; clear hK K
      obtain ⟨p1, p2, p3, p4, p5⟩ := bx1.appended (by decide) row1 hz1 (Nat.le_refl _) r1 r2
      have hc2 := p1.cell
      have hf2 := p1.frozen
      obtain ⟨va, vc, rfl⟩ := row_slice r1
      refine wpAnyIn_ready (rs := [5]) (by kernel_rfl) (by simp) ?_
      refine AllReadyIn.cons rfl (fun K hK => ?_) AllReadyIn.nil
      go_simp
      refine hK _ _ ?_; clear hK K
      refine wpAnyIn_done (by kernel_rfl) ?_ _
      have hb1W : Below W.heap.size W w1 := ((Below.refl W.heap.size W).drew).trans hb1
      refine ⟨((KeepsOthers.of_grownBy (grownBy_of_below hb1W none) (fun j o e => by cases e)).trans p4).from _, (hb1W.mono hB.size).trans p5, ⟨_, p2, ?_, trivial⟩, (hB.trans (hb1W.mono hB.size)).trans p5⟩
      rw [List.length_append, List.map_append]
      exact p3
    · go_simp
      refine hK _ _ ?_; clear hK K
      refine wpAnyIn_ready (rs := [0, 2]) (by kernel_rfl) (by simp) ?_
      refine AllReadyIn.cons rfl (fun K hK => ?_) (AllReadyIn.cons rfl (fun K hK => ?_) AllReadyIn.nil)
      · go_simp
        refine hK _ _ ?_; clear hK K
        refine wpAnyIn_ready (rs := [2]) (by kernel_rfl) (by simp) ?_
        refine AllReadyIn.cons rfl (fun K hK => ?_) AllReadyIn.nil
        go_simp
        refine ⟨trivial, ?_⟩
        gi_at_call 29
        refine (CallsIn.inRound l (callsIn_wide.2 f1.out)).mono ?_
        rintro e w1 ⟨rfl, hb1⟩
        refine hK _ _ ?_; clear hK K
        have bx1 : Boxed w1 w.heap.size 24 v := (hb1.block _ hv1.lt).trans hv1
        have hc1 := bx1.cell
        have hc1a := (bx1.alloc (.cells #[.string ⟨tm.bytes.toArray⟩] 9)).cell
        refine wpAnyIn_ready (rs := [3]) (by kernel_rfl) (by simp) ?_
        refine AllReadyIn.cons rfl (fun K hK => ?_) AllReadyIn.nil
        go_simp
        refine hK _ _ ?_; clear hK K
        have row1 : w1.ownsRow w.heap.size 9 1 v pre.length (pre.map fun x => sv x.1.1.bytes) := own_below (w := W.drew) hrow hb1
        have hz1 : w.heap.size ≤ w1.heap.size := Nat.le_trans hBd.size hb1.size
        refine wpAnyIn_ready (rs := [4]) (by kernel_rfl) (by simp) ?_
        refine AllReadyIn.cons rfl (fun K hK => ?_) AllReadyIn.nil
        rw [if_pos (by rfl)]
        refine appendIn _ _ _ 24 rfl w.heap.size 9 i0 (.string ⟨#[]⟩) 1 16 Tryd.underlying24 hi hz0 hz1' hz2 rfl (by decide) v pre.length _ rfl (row1.alloc _) ⟨w1.heap.size, 0, none⟩ 1 1 [.string ⟨tm.bytes.toArray⟩] rfl rfl (oneNew _ _ _) (by simp [Value.oneCell']) (by simp only [maxLen]; omega) (by omega) (by simp; omega) ?_
        intro v' w' r1 r2
        refine hK _ _ ?_; clear hK K
        obtain ⟨p1, p2, p3, p4, p5⟩ := bx1.appended (by decide) row1 hz1 (Nat.le_refl _) r1 r2
        have hc2 := p1.cell
        have hf2 := p1.frozen
        obtain ⟨va, vc, rfl⟩ := row_slice r1
        refine wpAnyIn_ready (rs := [5]) (by kernel_rfl) (by simp) ?_
        refine AllReadyIn.cons rfl (fun K hK => ?_) AllReadyIn.nil
        go_simp
        refine hK _ _ ?_; clear hK K
        refine wpAnyIn_done (by kernel_rfl) ?_ _
        have hb1W : Below W.heap.size W w1 := ((Below.refl W.heap.size W).drew).trans hb1
        refine ⟨((KeepsOthers.of_grownBy (grownBy_of_below hb1W none) (fun j o e => by cases e)).trans p4).from _, (hb1W.mono hB.size).trans p5, ⟨_, p2, ?_, trivial⟩, (hB.trans (hb1W.mono hB.size)).trans p5⟩
        rw [List.length_append, List.map_append]
        exact p3
      · go_simp
        refine ⟨trivial, ?_⟩
        gi_at_call 29
        refine (CallsIn.inRound l (callsIn_wide.2 f1.out)).mono ?_
        rintro e w1 ⟨rfl, hb1⟩
        refine hK _ _ ?_; clear hK K
        have bx1 : Boxed w1 w.heap.size 24 v := (hb1.block _ hv1.lt).trans hv1
        have hc1 := bx1.cell
        have hc1a := (bx1.alloc (.cells #[.string ⟨tm.bytes.toArray⟩] 9)).cell
        refine wpAnyIn_ready (rs := [0, 3]) (by kernel_rfl) (by simp) ?_
        refine AllReadyIn.cons rfl (fun K hK => ?_) (AllReadyIn.cons rfl (fun K hK => ?_) AllReadyIn.nil)
        · go_simp
          refine hK _ _ ?_; clear hK K
          refine wpAnyIn_ready (rs := [3]) (by kernel_rfl) (by simp) ?_
          refine AllReadyIn.cons rfl (fun K hK => ?_) AllReadyIn.nil
          go_simp
          refine hK _ _ ?_; clear hK K
          have row1 : w1.ownsRow w.heap.size 9 1 v pre.length (pre.map fun x => sv x.1.1.bytes) := own_below (w := W.drew) hrow hb1
          have hz1 : w.heap.size ≤ w1.heap.size := Nat.le_trans hBd.size hb1.size
          refine wpAnyIn_ready (rs := [4]) (by kernel_rfl) (by simp) ?_
          refine AllReadyIn.cons rfl (fun K hK => ?_) AllReadyIn.nil
          rw [if_pos (by rfl)]
          refine appendIn _ _ _ 24 rfl w.heap.size 9 i0 (.string ⟨#[]⟩) 1 16 Tryd.underlying24 hi hz0 hz1' hz2 rfl (by decide) v pre.length _ rfl (row1.alloc _) ⟨w1.heap.size, 0, none⟩ 1 1 [.string ⟨tm.bytes.toArray⟩] rfl rfl (oneNew _ _ _) (by simp [Value.oneCell']) (by simp only [maxLen]; omega) (by omega) (by simp; omega) ?_
          intro v' w' r1 r2
          refine hK _ _ ?_; clear hK K
          obtain ⟨p1, p2, p3, p4, p5⟩ := bx1.appended (by decide) row1 hz1 (Nat.le_refl _) r1 r2
          have hc2 := p1.cell
          have hf2 := p1.frozen
          obtain ⟨va, vc, rfl⟩ := row_slice r1
          refine wpAnyIn_ready (rs := [5]) (by kernel_rfl) (by simp) ?_
          refine AllReadyIn.cons rfl (fun K hK => ?_) AllReadyIn.nil
          go_simp
          refine hK _ _ ?_; clear hK K
          refine wpAnyIn_done (by kernel_rfl) ?_ _
          have hb1W : Below W.heap.size W w1 := ((Below.refl W.heap.size W).drew).trans hb1
          refine ⟨((KeepsOthers.of_grownBy (grownBy_of_below hb1W none) (fun j o e => by cases e)).trans p4).from _, (hb1W.mono hB.size).trans p5, ⟨_, p2, ?_, trivial⟩, (hB.trans (hb1W.mono hB.size)).trans p5⟩
          rw [List.length_append, List.map_append]
          exact p3
        · go_simp
          refine hK _ _ ?_; clear hK K
          refine wpAnyIn_ready (rs := [0]) (by kernel_rfl) (by simp) ?_
          refine AllReadyIn.cons rfl (fun K hK => ?_) AllReadyIn.nil
          go_simp
          refine hK _ _ ?_; clear hK K
          have row1 : w1.ownsRow w.heap.size 9 1 v pre.length (pre.map fun x => sv x.1.1.bytes) := own_below (w := W.drew) hrow hb1
          have hz1 : w.heap.size ≤ w1.heap.size := Nat.le_trans hBd.size hb1.size
          refine wpAnyIn_ready (rs := [4]) (by kernel_rfl) (by simp) ?_
          refine AllReadyIn.cons rfl (fun K hK => ?_) AllReadyIn.nil
          rw [if_pos (by rfl)]
          refine appendIn _ _ _ 24 rfl w.heap.size 9 i0 (.string ⟨#[]⟩) 1 16 Tryd.underlying24 hi hz0 hz1' hz2 rfl (by decide) v pre.length _ rfl (row1.alloc _) ⟨w1.heap.size, 0, none⟩ 1 1 [.string ⟨tm.bytes.toArray⟩] rfl rfl (oneNew _ _ _) (by simp [Value.oneCell']) (by simp only [maxLen]; omega) (by omega) (by simp; omega) ?_
          intro v' w' r1 r2
          refine hK _ _ ?_; clear hK K
          obtain ⟨p1, p2, p3, p4, p5⟩ := bx1.appended (by decide) row1 hz1 (Nat.le_refl _) r1 r2
          have hc2 := p1.cell
          have hf2 := p1.frozen
          obtain ⟨va, vc, rfl⟩ := row_slice r1
          refine wpAnyIn_ready (rs := [5]) (by kernel_rfl) (by simp) ?_
          refine AllReadyIn.cons rfl (fun K hK => ?_) AllReadyIn.nil
          go_simp
          refine hK _ _ ?_; clear hK K
          refine wpAnyIn_done (by kernel_rfl) ?_ _
          have hb1W : Below W.heap.size W w1 := ((Below.refl W.heap.size W).drew).trans hb1
          refine ⟨((KeepsOthers.of_grownBy (grownBy_of_below hb1W none) (fun j o e => by cases e)).trans p4).from _, (hb1W.mono hB.size).trans p5, ⟨_, p2, ?_, trivial⟩, (hB.trans (hb1W.mono hB.size)).trans p5⟩
          rw [List.length_append, List.map_append]
          exact p3
  case done =>
    rintro D ys W hD hys ⟨⟨v, hv1, hrow, -⟩, hB⟩ hK
    have hc := hv1.cell
    gi_wp2
    refine ⟨by simp, .inl ⟨_, _, rfl, run_takeDeferred hK, ?_⟩⟩
    refine ⟨_, results_tmp rfl _ _ _, v, rfl, ?_, hB.trans (belowK_b (w := w) (Nat.le_refl _) W D _ _ (by simp at hD; omega) hK rfl rfl)⟩
    have h1 := ownsRow_putObj hrow (.deferred none) hK rfl
    rw [List.length_map, ← hys, trees_len, List.map_map, trees, List.map_map]
    exact h1
  case stop =>
    rintro D c pre W _ _ h _
    exact h.elim
set_option maxHeartbeats 4000000 in
theorem implArgsOf (s : ByteArray) (W : World) (hv : Vars W) (hs : s.size ≤ maxLen) :
    Calls Tryd.prog 12 #[.string s] W (LRes' (argsOf s.data.toList) W) := by
  have f1 := Lib.hid (implReadTerm s W hv hs)
  have hn := argsOf_len s.data.toList
  have HV := Lib.hid hv
  clear hv hs
  go_enter Tryd.func12, Tryd.ntmps12
  go_wp2_with fail
  (with_reducible refine f1.out.mono ?_); rintro e W1 ⟨hb, ⟨t, v, ht, rfl, hr⟩ | ⟨hno, rfl⟩⟩
  rotate_left
  · have HE : Hid (argsOf s.data.toList = []) := by rw [Hid, argsOf, termOf_none hno]
    have HB := Lib.hid hb
    clear hno hb f1 hn
    go_wp2
    go_ret
    rw [HE.out]
    exact ⟨_, rfl, World.ownsRow_nil _ _ _ _, HB.out⟩
  have HE : Hid (argsOf s.data.toList = t.args.map Tm.bytes) := by rw [Hid, argsOf, termOf_some ht]
  rw [HE.out, List.length_map] at hn
  have hle := ht.2.2
  rw [← ht.2.1] at hle
  obtain ⟨T0, x0, rfl⟩ := hr.iface
  have hb2 : Below W1.heap.size W1 (W1.alloc (.cells #[.iface T0 x0] 40)) := (Below.refl _ _).alloc (Nat.le_refl _) _
  have f2 := Lib.hid (implArgumentsOf T0 x0 W1)
  have f3 := Lib.hid (implTextsOf 46 #[.pointer (some ⟨W1.heap.size, 0, none⟩)] t.args (W1.alloc (.cells #[.iface T0 x0] 40)) ((HV.out.below hb).below hb2) (enters_of Tryd.func46 (by kernel_rfl) rfl) hn
    (fun n hn1 => argsStops Fence.wide rfl n trivial trivial rfl W1.heap.size (.iface T0 x0) t _ (by simp) (by simp) (hr.below hb2) ht.1 hle))
  have HB : Hid (Below W.heap.size W (W1.alloc (.cells #[.iface T0 x0] 40))) := hb.trans (hb2.mono hb.size)
  clear hb hb2 hr ht hle hn f1 HV
  generalize t.args.map Tm.bytes = lt at f3 HE
  go_wp2_with fail
  (with_reducible refine f2.out.mono ?_); rintro e w2 ⟨rfl, rfl⟩
  clear f2
  generalize W1.alloc (.cells #[.iface T0 x0] 40) = w2 at f3 HB
  go_wp2_with fail
  (with_reducible refine f3.out.mono ?_); rintro e w3 ⟨u, rfl, hu, hb3⟩
  have HO : Hid (w3.ownsRow W.heap.size 9 1 u (argsOf s.data.toList).length ((argsOf s.data.toList).map sv)) := by
    rw [Hid, HE.out]
    exact own_baseE hu HB.out.size
  have HB3 := Lib.hid (HB.out.trans (hb3.mono HB.out.size))
  obtain ⟨ua, uc, rfl⟩ := row_slice hu
  clear hu hb3 f3
  go_wp2
  go_ret
  exact ⟨_, rfl, HO.out, HB3.out⟩

set_option maxHeartbeats 4000000 in
theorem implDomains (s : ByteArray) (W : World) (hv : Vars W) (hs : s.size ≤ maxLen) :
    Calls Tryd.prog 21 #[.string s] W (LRes' (domainsOf s.data.toList) W) := by
  have f1 := Lib.hid (implReadTerm s W hv hs)
  have hn := domainsOf_len s.data.toList
  have HV := Lib.hid hv
  clear hv hs
  go_enter Tryd.func21, Tryd.ntmps21
  go_wp2_with fail
  (with_reducible refine f1.out.mono ?_); rintro e W1 ⟨hb, ⟨t, v, ht, rfl, hr⟩ | ⟨hno, rfl⟩⟩
  rotate_left
  · have HE : Hid (domainsOf s.data.toList = []) := by rw [Hid, domainsOf, termOf_none hno]
    have HB := Lib.hid hb
    clear hno hb f1 hn
    go_wp2
    go_ret
    rw [HE.out]
    exact ⟨_, rfl, World.ownsRow_nil _ _ _ _, HB.out⟩
  have HE : Hid (domainsOf s.data.toList = t.doms.map Tm.bytes) := by rw [Hid, domainsOf, termOf_some ht]
  rw [HE.out, List.length_map] at hn
  have hle := ht.2.2
  rw [← ht.2.1] at hle
  obtain ⟨T0, x0, rfl⟩ := hr.iface
  have hb2 : Below W1.heap.size W1 (W1.alloc (.cells #[.iface T0 x0] 40)) := (Below.refl _ _).alloc (Nat.le_refl _) _
  have f2 := Lib.hid (implDomainsOf T0 x0 W1)
  have f3 := Lib.hid (implTextsOf 49 #[.pointer (some ⟨W1.heap.size, 0, none⟩)] t.doms (W1.alloc (.cells #[.iface T0 x0] 40)) ((HV.out.below hb).below hb2) (enters_of Tryd.func49 (by kernel_rfl) rfl) hn
    (fun n hn1 => domsStops Fence.wide n hn1 trivial rfl W1.heap.size (.iface T0 x0) t _ (by simp) (by simp) (hr.below hb2) ht.1 hle))
  have HB : Hid (Below W.heap.size W (W1.alloc (.cells #[.iface T0 x0] 40))) := hb.trans (hb2.mono hb.size)
  clear hb hb2 hr ht hle hn f1 HV
  generalize t.doms.map Tm.bytes = lt at f3 HE
  go_wp2_with fail
  (with_reducible refine f2.out.mono ?_); rintro e w2 ⟨rfl, rfl⟩
  clear f2
  generalize W1.alloc (.cells #[.iface T0 x0] 40) = w2 at f3 HB
  go_wp2_with fail
  (with_reducible refine f3.out.mono ?_); rintro e w3 ⟨u, rfl, hu, hb3⟩
  have HO : Hid (w3.ownsRow W.heap.size 9 1 u (domainsOf s.data.toList).length ((domainsOf s.data.toList).map sv)) := by
    rw [Hid, HE.out]
    exact own_baseE hu HB.out.size
  have HB3 := Lib.hid (HB.out.trans (hb3.mono HB.out.size))
  obtain ⟨ua, uc, rfl⟩ := row_slice hu
  clear hu hb3 f3
  go_wp2
  go_ret
  exact ⟨_, rfl, HO.out, HB3.out⟩

end Go.Proofs.YtgmjbdndffdpoaaDoor
