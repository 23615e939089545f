/-
  Contracts of impl.united at strings, its function literal, and impl.NamesBoth.
-/
import Derived.Test.YtanhnicfkghkbaaDoorSU
namespace Go.Proofs.YtanhnicfkghkbaaDoor
set_option maxRecDepth 100000
open Go.ChangeShapes Go.WideShapes Go.ChangeAt Go.RowKit
set_option linter.unusedSimpArgs false

set_option maxHeartbeats 1000000 in
theorem eqLitS {B pb : Nat} {w0 : World} (hc : w0.cell? ⟨pb, 0, none⟩ = some (.func (.func 19) #[] #[])) (hp : pb < B) : EqAtS B w0 (.pointer (some ⟨pb, 0, none⟩)) := by
  intro W hW n1 n2
  have hcW := (hW.cell (p := ⟨pb, 0, none⟩) hp).trans hc
  have f1 := Lib.hid fun W => Tryd.strings_Compare ⟨n1.toArray⟩ ⟨n2.toArray⟩ W
  simp only at f1
  have HD : Hid (decide (Lib.compareBytes n1 n2 = 0) = decide (n1 = n2)) := by simp [Hid, cmpB_zero n1 n2]
  have eg : ∀ args w, (callFunc 19 args).run Tryd.prog w = .ok (.enter 19 args) w := enters_of Tryd.func19 (by kernel_rfl) rfl
  generalize Lib.compareBytes n1 n2 = r at f1 HD
  clear hc hp hW
  go_enter Tryd.func29, Tryd.ntmps29
  go_wp2_with fail
  (with_reducible refine (f1.out _).mono ?_); rintro e w1 ⟨rfl, rfl⟩
  have hd : (r == 0) = decide (n1 = n2) := by rw [← HD.out]; rfl
  have HF := Lib.hid hd
  clear hd HD
  go_wp2
  go_ret
  refine ⟨?_, Below.refl _ _⟩
  rw [← HF.out]
  rfl

set_option maxHeartbeats 1000000 in
theorem unitedS {w : World} {b1 b2 : Nat} {v1 v2 : Value} {a b : List BL} (h1 : w.ownsRow b1 9 1 v1 a.length (a.map sv)) (h2 : w.ownsRow b2 9 1 v2 b.length (b.map sv)) (ha : a.length ≤ 2000000) (hb : b.length ≤ 2000000) :
    Calls Tryd.prog 18 #[v1, v2, .func (.func 19) #[] #[]] w (LRes (srt (a ++ b)) w) := by
  have BA : Below w.heap.size w ((w.alloc (.cells #[.func (.func 19) #[] #[]] 41)).alloc (.cells #[v1, v2] 24)) := ((Below.refl _ _).alloc (Nat.le_refl _) _).alloc (by simp) _
  have hsz : ((w.alloc (.cells #[.func (.func 19) #[] #[]] 41)).alloc (.cells #[v1, v2] 24)).heap.size = w.heap.size + 2 := by simp
  have x0 : ((w.alloc (.cells #[.func (.func 19) #[] #[]] 41)).alloc (.cells #[v1, v2] 24)).cell? ⟨w.heap.size, 0, none⟩ = some (.func (.func 19) #[] #[]) := (((Below.refl (w.alloc (.cells #[.func (.func 19) #[] #[]] 41)).heap.size _).alloc (Nat.le_refl _) _).cell (p := ⟨w.heap.size, 0, none⟩) (by simp)).trans (World.news_of_block (cs := #[.func (.func 19) #[] #[]]) (t := 41) (fr := (0, 0)) (heap_alloc_new w _) 0 _ rfl)
  have y0 : ((w.alloc (.cells #[.func (.func 19) #[] #[]] 41)).alloc (.cells #[v1, v2] 24)).cell? ⟨w.heap.size + 1, 0, none⟩ = some v1 := by simp
  have y1 : ((w.alloc (.cells #[.func (.func 19) #[] #[]] 41)).alloc (.cells #[v1, v2] 24)).cell? ⟨w.heap.size + 1, 1, none⟩ = some v2 := by simp
  have f1 := Lib.hid (concatTwo y0 y1 (by omega) (own_below h1 BA) (own_below h2 BA) ha hb)
  have HL : Hid ((a ++ b).length ≤ 10000000) := by simp [Hid]; omega
  have HS := Lib.hid (compact_srt (a ++ b))
  have HM : Hid (((a ++ b).mergeSort fun x y => decide (x ≤ y)).length = (a ++ b).length) := List.length_mergeSort _
  obtain ⟨a1, k1, rfl⟩ := own_slice h1
  obtain ⟨a2, k2, rfl⟩ := own_slice h2
  clear h1 h2 y0 y1
  generalize a ++ b = ab at f1 HL HS HM
  go_enter Tryd.func18, Tryd.ntmps18
  go_wp2_with fail
  (with_reducible refine f1.out.mono ?_); rintro e w2 ⟨v, rfl, hv, hb2⟩
  clear f1
  generalize (w.alloc (.cells #[.func (.func 19) #[] #[]] 41)).alloc (.cells #[.slice a1 a.length k1, .slice a2 b.length k2] 24) = wa at BA hsz x0 hv hb2
  have c2 := (hb2.cell (p := ⟨w.heap.size, 0, none⟩) (show w.heap.size < _ by omega)).trans x0
  have hE := Lib.hid (eqLitS (B := wa.heap.size) x0 (by omega))
  have f2 := Lib.hid (sortRowS hv hb2 HL.out)
  obtain ⟨av, kv, hve⟩ := own_slice hv
  clear hv
  subst hve
  go_wp2_with fail
  (with_reducible refine f2.out.mono ?_); rintro e w3 ⟨rfl, hv3, hb3⟩
  clear f2 c2
  rw [← HM.out] at hv3
  have f3 := Lib.hid (compactFuncS hv3 hb3 (by rw [HM.out]; exact HL.out) hE.out)
  rw [HS.out, HM.out] at f3
  clear hv3
  go_wp2_with fail
  (with_reducible refine f3.out.mono ?_); rintro e w4 ⟨v4, rfl, hv4, hb4⟩
  go_wp2
  go_ret
  exact ⟨_, rfl, own_mono' hv4 (by omega), BA.trans (hb4.mono (by omega))⟩

theorem implNamesBoth {w : World} {b1 b2 : Nat} {v1 v2 : Value} {a b : List BL} (h1 : w.ownsRow b1 9 1 v1 a.length (a.map sv)) (h2 : w.ownsRow b2 9 1 v2 b.length (b.map sv)) (hn : a.length + b.length ≤ 1048576) (hx : ∀ x ∈ a ++ b, x.length ≤ 1048576) :
    Calls Tryd.prog 7 #[v1, v2] w (LRes (srt (a ++ b)) w) := by
  have f1 := Lib.hid (unitedS h1 h2 (by omega) (by omega))
  obtain ⟨_, s2, s3⟩ := srt_spec _ (a ++ b) (Nat.le_refl _)
  have hsl : (srt (a ++ b)).length ≤ 10000000 := by simp at s3; omega
  have hsx : ∀ x ∈ srt (a ++ b), x.length ≤ 281474976710656 := fun x h => by have := hx x ((s2 x).1 h); omega
  obtain ⟨a1, k1, rfl⟩ := own_slice h1
  obtain ⟨a2, k2, rfl⟩ := own_slice h2
  clear s2 s3 h1 h2 hx hn
  generalize srt (a ++ b) = l at f1 hsl hsx
  go_enter Tryd.func7, Tryd.ntmps7
  go_wp2_with fail
  (with_reducible refine f1.out.mono ?_); rintro e w3 ⟨v3, rfl, ho3, hb3⟩
  have hz3 := hb3.size
  have f2 := Lib.hid (clones ho3 hsl hsx)
  clear f1 ho3
  go_wp2_with fail
  (with_reducible refine f2.out.mono ?_); rintro e w6 ⟨v6, rfl, ho6, hb6⟩
  go_wp2
  go_ret
  exact ⟨_, rfl, own_mono' ho6 hz3, hb3.trans (hb6.mono hz3)⟩
end Go.Proofs.YtanhnicfkghkbaaDoor
