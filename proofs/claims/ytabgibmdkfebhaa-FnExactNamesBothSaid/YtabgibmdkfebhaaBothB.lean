/-
  Contracts of spec.NamesBoth and impl.NamesBoth: the strings of two lists, rising, each once.
-/
import Derived.Test.YtabgibmdkfebhaaBothA
import Derived.Test.YtabgibmdkfebhaaSWalks
namespace Go.Proofs.Ytabgibmdkfebhaa
open Go.ChangeShapes Go.WideShapes Go.ChangeAt Go.RowKit

theorem view_of_own {w : World} {b : Nat} {v : Value} {l : List BL} (h : w.ownsRow b 9 1 v l.length (l.map sv)) (hv : v ≠ .slice none 0 0) : View w v l := by
  rcases h.2 with ⟨e, _⟩ | ⟨g, cap, cur, rfl, hb, hg, hn, hm, hs, ht⟩
  · exact absurd e hv
  · have hlt : g < w.heap.size := (h.lt g rfl).2
    refine ⟨g, 0, cap, rfl, hn, hm, hlt, fun j hj => ?_⟩
    rw [Nat.zero_add, h.cellAt j (by omega)]
    simp [hj]

set_option maxHeartbeats 1000000 in
theorem specNamesBoth {w : World} {b1 b2 : Nat} {v1 v2 : Value} {a b : List BL} (h1 : w.ownsRow b1 9 1 v1 a.length (a.map sv)) (h2 : w.ownsRow b2 9 1 v2 b.length (b.map sv)) (hn : a.length + b.length ≤ 1048576) :
    Calls Try.prog 20 #[v1, v2] w (LRes (srt (a ++ b)) w) := by
  obtain ⟨a1, k1, rfl⟩ := own_slice h1
  obtain ⟨a2, k2, rfl⟩ := own_slice h2
  have h0 := World.ownsRow_lit (base := w.heap.size) (e := 9) (size := 1) w #[] 0 (Nat.le_refl _) (by decide) (by simp)
  have B0 : Below w.heap.size w (w.alloc (.cells #[] 9)) := (Below.refl _ _).alloc (Nat.le_refl _) _
  have r1 := own_below h1 B0
  go_enter Try.func20, Try.ntmps20
  go_wp2_with (first
    | (at_builtin; refine append_rows rfl _ _ rfl w.heap.size _ 0 _ rfl h0 b1 _ a rfl r1 (by omega) (by simp) ?_; intro v3 w3 hv3 hg3 hnil3
       have B3 : Below w.heap.size w w3 := B0.grown hg3 (by simp) (fun q hq => (h0.lt q hq).1)
       have r2 := own_below h2 B3
       have hl3 := hv3.lt
       have hz3 := B3.size)
    | (at_builtin; refine append_rows rfl _ _ rfl w.heap.size v3 _ _ rfl hv3 b2 _ b rfl r2 (by omega) hz3 ?_; intro v4 w4 hv4 hg4 hnil4))
  have B4 : Below w.heap.size w w4 := B3.grown hg4 hz3 (fun q hq => (hl3 q hq).1)
  have hn4 : v4 ≠ .slice none 0 0 := fun e => by have := hnil3 (hnil4 e); cases this
  have hv5 : w4.ownsRow w.heap.size 9 1 v4 (a ++ b).length ((a ++ b).map sv) := by simpa using hv4
  refine (specSorted _ (a ++ b) (Nat.le_refl _) (by simp; omega) w4 v4 (view_of_own hv5 hn4)).mono ?_
  rintro e w5 ⟨v5, rfl, ho5, hb5⟩
  have hz4 := B4.size
  go_wp2
  go_ret
  exact ⟨_, rfl, own_mono' ho5 hz4, B4.trans (hb5.mono hz4)⟩

set_option maxHeartbeats 1000000 in
theorem implNamesBoth {w : World} {b1 b2 : Nat} {v1 v2 : Value} {a b : List BL} (h1 : w.ownsRow b1 9 1 v1 a.length (a.map sv)) (h2 : w.ownsRow b2 9 1 v2 b.length (b.map sv)) (hn : a.length + b.length ≤ 1048576) (hx : ∀ x ∈ a ++ b, x.length ≤ 1048576) :
    Calls Try.prog 21 #[v1, v2] w (LRes (srt (a ++ b)) w) := by
  obtain ⟨a1, k1, rfl⟩ := own_slice h1
  obtain ⟨a2, k2, rfl⟩ := own_slice h2
  have B0 : Below w.heap.size w (w.alloc (.cells #[.slice a1 a.length k1, .slice a2 b.length k2] 26)) := (Below.refl _ _).alloc (Nat.le_refl _) _
  have r1 := own_below h1 B0
  have r2 := own_below h2 B0
  have c0 : (w.alloc (.cells #[.slice a1 a.length k1, .slice a2 b.length k2] 26)).cell? ⟨w.heap.size, 0, none⟩ = some (.slice a1 a.length k1) := World.news_of_block (cs := #[.slice a1 a.length k1, .slice a2 b.length k2]) (t := 26) (fr := (0, 0)) (heap_alloc_new w _) 0 _ rfl
  have c1 : (w.alloc (.cells #[.slice a1 a.length k1, .slice a2 b.length k2] 26)).cell? ⟨w.heap.size, 1, none⟩ = some (.slice a2 b.length k2) := World.news_of_block (cs := #[.slice a1 a.length k1, .slice a2 b.length k2]) (t := 26) (fr := (0, 0)) (heap_alloc_new w _) 1 _ rfl
  have hs1 : (w.alloc (.cells #[.slice a1 a.length k1, .slice a2 b.length k2] 26)).heap.size = w.heap.size + 1 := by simp
  have f1 := Lib.hid (concatTwo c0 c1 (by rw [hs1]; omega) r1 r2 (by omega) (by omega))
  have hcs := Lib.hid (compact_srt (a ++ b))
  obtain ⟨s1, s2, s3⟩ := srt_spec _ (a ++ b) (Nat.le_refl _)
  have hsl : (srt (a ++ b)).length ≤ 10000000 := by simp at s3; omega
  have hsx : ∀ x ∈ srt (a ++ b), x.length ≤ 281474976710656 := fun x h => by have := hx x ((s2 x).1 h); omega
  have hll : (a ++ b).length ≤ 10000000 := by simp; omega
  have hml : ((a ++ b).mergeSort fun x y => decide (x ≤ y)).length = (a ++ b).length := List.length_mergeSort _
  have hml2 := Lib.hid hml
  clear s1 s2 s3 hml c0 c1 r1 r2 h1 h2 hx hn
  generalize a ++ b = l at f1 hcs hsl hsx hll hml2
  go_enter Try.func21, Try.ntmps21
  go_wp2_with fail
  (refine f1.out.mono ?_); rintro e w3 ⟨v3, rfl, ho3, hb3⟩
  have hz0 : w.heap.size ≤ (w.alloc (.cells #[.slice a1 a.length k1, .slice a2 b.length k2] 26)).heap.size := by rw [hs1]; omega
  have B3 := B0.trans (hb3.mono hz0)
  go_wp2_with fail
  (refine (sortRow (own_mono' ho3 hz0) B3 hll).mono ?_); rintro e w4 ⟨rfl, ho4, B4⟩
  have ho4' : w4.ownsRow w.heap.size 9 1 v3 (l.mergeSort fun x y => decide (x ≤ y)).length ((l.mergeSort fun x y => decide (x ≤ y)).map sv) := by
    rw [hml2.out]
    exact ho4
  have HO := Lib.hid ho4'
  have hm2 := Lib.hid (show (l.mergeSort fun x y => decide (x ≤ y)).length ≤ 10000000 by rw [hml2.out]; exact hll)
  clear ho4 ho4' ho3 hb3 hml2
  go_wp2_with fail
  (refine (compactRow HO.out B4 hm2.out).mono ?_); rintro e w5 ⟨v5, rfl, ho5, B5⟩
  rw [hcs.out] at ho5
  have hz5 := B5.size
  clear HO hm2 hcs
  go_wp2_with fail
  (refine (clones ho5 hsl hsx).mono ?_); rintro e w6 ⟨v6, rfl, ho6, hb6⟩
  go_wp2
  go_ret
  exact ⟨_, rfl, own_mono' ho6 hz5, B5.trans (hb6.mono hz5)⟩
end Go.Proofs.Ytabgibmdkfebhaa
