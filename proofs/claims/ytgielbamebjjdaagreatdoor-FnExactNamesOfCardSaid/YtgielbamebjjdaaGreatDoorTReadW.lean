/-
  The contract of spec.l06Read.
-/
import Derived.Test.YtgielbamebjjdaaGreatDoorTRead
namespace Go.Proofs.YtgielbamebjjdaaGreatDoor
set_option maxRecDepth 100000
open Go.ChangeShapes Go.WideShapes Go.ChangeAt Go.RowKit
set_option linter.unusedSimpArgs false

/-- The nodes of a term lie one behind another, its parts first. -/
def Pos (ns : List Nd) : Nat → Tm → Prop
  | _, .var _ => True
  | _, .sort _ => True
  | _, .const _ _ => True
  | k, .app f a => ∃ nd, ns[k]? = some nd ∧ nd.lv = .slice none 0 0 ∧ nd.b + 1 = k ∧ nd.a + a.size + 1 = k ∧ Pos ns nd.a f ∧ Pos ns nd.b a
  | k, .lam f a => ∃ nd, ns[k]? = some nd ∧ nd.lv = .slice none 0 0 ∧ nd.b + 1 = k ∧ nd.a + a.size + 1 = k ∧ Pos ns nd.a f ∧ Pos ns nd.b a
  | k, .pi f a => ∃ nd, ns[k]? = some nd ∧ nd.lv = .slice none 0 0 ∧ nd.b + 1 = k ∧ nd.a + a.size + 1 = k ∧ Pos ns nd.a f ∧ Pos ns nd.b a
  | k, .lett f a b => ∃ nd, ns[k]? = some nd ∧ nd.lv = .slice none 0 0 ∧ nd.c + 1 = k ∧ nd.b + b.size + 1 = k ∧ nd.a + a.size + b.size + 1 = k ∧ Pos ns nd.a f ∧ Pos ns nd.b a ∧ Pos ns nd.c b
theorem Pos.keep {ns ns' : List Nd} (he : Ext ns ns') : ∀ (t : Tm) (k : Nat), Pos ns k t → Pos ns' k t
  | .var _, _, _ => trivial
  | .sort _, _, _ => trivial
  | .const _ _, _, _ => trivial
  | .app f a, _, ⟨nd, h1, h0, h2, h3, h4, h5⟩ => ⟨nd, he _ _ h1, h0, h2, h3, Pos.keep he f _ h4, Pos.keep he a _ h5⟩
  | .lam f a, _, ⟨nd, h1, h0, h2, h3, h4, h5⟩ => ⟨nd, he _ _ h1, h0, h2, h3, Pos.keep he f _ h4, Pos.keep he a _ h5⟩
  | .pi f a, _, ⟨nd, h1, h0, h2, h3, h4, h5⟩ => ⟨nd, he _ _ h1, h0, h2, h3, Pos.keep he f _ h4, Pos.keep he a _ h5⟩
  | .lett f a b, _, ⟨nd, h1, h0, h2, h3, h4, h5, h6, h7⟩ => ⟨nd, he _ _ h1, h0, h2, h3, h4, Pos.keep he f _ h5, Pos.keep he a _ h6, Pos.keep he b _ h7⟩
/-- The node k stands for the tree t, and the nodes of its parts lie ahead of it. -/
def RepP (W : World) (B : Nat) (ns : List Nd) (k : Nat) (t : Tm) : Prop := Rep W B ns k t ∧ Pos ns k t
theorem RepP.keep {W W' : World} {B : Nat} {ns ns' : List Nd} (hk : KeepS B W W') (he : Ext ns ns') (t : Tm) (k : Nat) (h : RepP W B ns k t) : RepP W' B ns' k t :=
  ⟨Rep.keep hk he t k h.1, Pos.keep he t k h.2⟩
theorem RepP.leaf {W : World} {B : Nat} {ns : List Nd} {k : Nat} {nd : Nd} {t : Tm} (hl : t.isLeaf = true) (h : LeafIs W B nd t) (hk : ns[k]? = some nd) : RepP W B ns k t :=
  ⟨Rep.leaf hl h hk, by cases t <;> first | trivial | cases hl⟩
def ReadPost (l : List UInt8) (p B cb : Nat) (W : World) (v : Value) (ns : List Nd) (e : Ending) (W' : World) : Prop :=
  ∃ v' ns', NSt B cb W' v' ns' ∧ KeepN B cb W v W' v' ∧ KeepS B W W' ∧ Ext ns ns' ∧
    ((∃ t r, Tat (l.drop p) t r ∧ ns'.length = ns.length + t.size ∧ RepP W' B ns' (ns'.length - 1) t ∧ e = .returned (.tuple #[.int .i64 ((ns'.length : Int) - 1), .int .i64 ((p + t.bytes.length : Nat) : Int)])) ∨
     ((∀ t r, ¬ Tat (l.drop p) t r) ∧ e = .returned (.tuple #[.int .i64 (-1), .int .i64 (-1)])))
theorem own_sliceN {w : World} {b n : Nat} {v : Value} {xs : List Value} (h : w.ownsRow b 93 7 v n xs) : ∃ a cap, v = .slice a n cap := by
  rcases h.2 with ⟨rfl, rfl⟩ | ⟨g, cap, cur, rfl, _⟩
  · exact ⟨_, _, rfl⟩
  · exact ⟨_, _, rfl⟩
theorem read_end {l : List UInt8} {p : Nat} (hp : l.length ≤ p) : ∀ t r, ¬ Tat (l.drop p) t r := fun t r h => by
  have h2 := h.2
  rw [List.drop_eq_nil_of_le hp] at h2
  have := t.bytes_pos
  have h3 := congrArg List.length h2
  rw [List.length_append] at h3
  simp at h3
  omega
theorem readEnd (s : ByteArray) (p : Nat) (W : World) {v : Value} {ns : List Nd} {B cb : Nat} (h : NSt B cb W v ns) (hp : s.size ≤ p) :
    Calls Tryz.prog 114 #[.string s, .int .i64 (p : Int), .pointer (some ⟨cb, 0, none⟩)] W (ReadPost s.data.toList p B cb W v ns) := by
  have HN := Lib.hid (read_end (l := s.data.toList) (p := p) hp)
  have HH := Lib.hid h
  have d1 : decide ((s.size : Int) ≤ (p : Int)) = true := decide_eq_true (by omega)
  clear h
  go_enter Tryz.func114, Tryz.ntmps114
  go_wp2
  go_ret2
  exact ⟨v, ns, HH.out, KeepN.refl _ _ _ _, KeepS.refl _ _, Ext.refl _, .inr ⟨HN.out, rfl⟩⟩

set_option maxHeartbeats 4000000 in
theorem readLeaf (s : ByteArray) (p : Nat) (W : World) {v : Value} {ns : List Nd} {B cb : Nat} (h : NSt B cb W v ns) (hs : s.size ≤ 100000) (hp : p < s.size) (hn : ns.length ≤ p)
    (h1 : s[p] ≠ 64) (h2 : s[p] ≠ 108) (h3 : s[p] ≠ 112) (h4 : s[p] ≠ 116) :
    Calls Tryz.prog 114 #[.string s, .int .i64 (p : Int), .pointer (some ⟨cb, 0, none⟩)] W (ReadPost s.data.toList p B cb W v ns) := by
  have f1 := Lib.hid fun W => specLeaf s p W (by omega) hp
  have d1 : decide ((s.size : Int) ≤ (p : Int)) = false := decide_eq_false (by omega)
  have d1n : decide (s.size ≤ p) = false := decide_eq_false (by omega)
  have e1 : ((s[p].toNat : Int) == 64) = false := ne_byte h1
  have e2 : ((s[p].toNat : Int) == 108) = false := ne_byte h2
  have e3 : ((s[p].toNat : Int) == 112) = false := ne_byte h3
  have e4 : ((s[p].toNat : Int) == 116) = false := ne_byte h4
  have HL : Hid (∀ t r, Tat (s.data.toList.drop p) t r → t.isLeaf = true) := fun t r ht => by
    have hk := tat_head (l := s.data.toList) hp ht
    cases t with
    | app f a => exact absurd hk.symm h1
    | lam f a => exact absurd hk.symm h2
    | pi f a => exact absurd hk.symm h3
    | lett f a b => exact absurd hk.symm h4
    | _ => rfl
  clear h1 h2 h3 h4
  have q1 : (0 : Int) ≤ (p : Int) := by omega
  have q2 : (p : Int) < (s.size : Int) := by omega
  have HH := Lib.hid h
  clear h
  go_enter Tryz.func114, Tryz.ntmps114
  go_wp2_with fail
  (with_reducible refine (f1.out _).mono ?_); rintro e W1 ⟨hb1, ⟨k, na, nb, nc, num, tx, lv⟩, en, ⟨sa, sn, sc, hlv⟩, rfl, (⟨t, r, ht1, ht2, ht3, rfl⟩ | ⟨rfl, hno⟩)⟩
  · have hlv : lv = .slice sa sn sc := hlv
    subst hlv
    have hlen := congrArg List.length ht3.2
    rw [List.length_append, List.length_drop] at hlen
    have hls : s.data.toList.length = s.size := rfl
    have hen : p + t.bytes.length ≤ s.size := by omega
    have d2 : decide (((p + t.bytes.length : Nat) : Int) < 0) = false := decide_eq_false (by omega)
    have HT := Lib.hid ht3
    have HI := Lib.hid ht2
    have hsz : t.size = 1 := by
      cases t with
      | var n => rfl
      | sort n => rfl
      | const n ls => rfl
      | _ => cases ht1
    have HSZ := Lib.hid hsz
    have HLF := Lib.hid ht1
    clear hlen hls ht3 ht2 hsz ht1 f1 HL
    generalize hm : p + t.bytes.length = m at d2 hen
    have HM := Lib.hid hm
    clear hm
    simp only [Nd.cells]
    have hs2 := HH.out.below hb1
    have b2 := (Below.refl W1.heap.size W1).alloc (Nat.le_refl _) (.cells #[.int .u8 (k.toNat : Int), .int .i64 (na : Int), .int .i64 (nb : Int), .int .i64 (nc : Int), .int .i64 (num : Int), .string ⟨tx.toArray⟩, .slice sa sn sc] 93)
    have hs3 := hs2.below b2
    obtain ⟨i0, hi, hz0, hz1, hz2⟩ := info_parts infoNode
    obtain ⟨la, lc, rfl⟩ := own_sliceN HH.out.row
    have hc : ∀ j u, ([.int .u8 (k.toNat : Int), .int .i64 (na : Int), .int .i64 (nb : Int), .int .i64 (nc : Int), .int .i64 (num : Int), .string ⟨tx.toArray⟩, .slice sa sn sc] : List Value)[j]? = some u → (W1.alloc (.cells #[.int .u8 (k.toNat : Int), .int .i64 (na : Int), .int .i64 (nb : Int), .int .i64 (nc : Int), .int .i64 (num : Int), .string ⟨tx.toArray⟩, .slice sa sn sc] 93)).cell? ⟨W1.heap.size, j, none⟩ = some u := fun j u hu => by
      have := World.news_of_block (cs := #[.int .u8 (k.toNat : Int), .int .i64 (na : Int), .int .i64 (nb : Int), .int .i64 (nc : Int), .int .i64 (num : Int), .string ⟨tx.toArray⟩, .slice sa sn sc]) (t := 93) (fr := (0, 0)) (heap_alloc_new W1 _) j u hu
      rw [add_plain, Nat.zero_add] at this
      exact this
    have zW2 : W1.heap.size < (W1.alloc (.cells #[.int .u8 (k.toNat : Int), .int .i64 (na : Int), .int .i64 (nb : Int), .int .i64 (nc : Int), .int .i64 (num : Int), .string ⟨tx.toArray⟩, .slice sa sn sc] 93)).heap.size := by simp
    have B2 := Lib.hid (hb1.trans (b2.mono hb1.size))
    generalize hW2 : W1.alloc (.cells #[.int .u8 (k.toNat : Int), .int .i64 (na : Int), .int .i64 (nb : Int), .int .i64 (nc : Int), .int .i64 (num : Int), .string ⟨tx.toArray⟩, .slice sa sn sc] 93) = W2 at hs3 hc zW2 b2 B2
    have g0 := hc 0 _ rfl
    have g1 := hc 1 _ rfl
    have g2 := hc 2 _ rfl
    have g3 := hc 3 _ rfl
    have g4 := hc 4 _ rfl
    have g5 := hc 5 _ rfl
    have g6 := hc 6 _ rfl
    have b3 := (Below.refl W2.heap.size W2).alloc (Nat.le_refl _) (.cells #[.int .u8 (k.toNat : Int), .int .i64 (na : Int), .int .i64 (nb : Int), .int .i64 (nc : Int), .int .i64 (num : Int), .string ⟨tx.toArray⟩, .slice sa sn sc] 93)
    have hs4 := hs3.below b3
    have k0 := (b3.cell (p := ⟨W1.heap.size, 0, none⟩) zW2).trans g0
    have k1 := (b3.cell (p := ⟨W1.heap.size, 1, none⟩) zW2).trans g1
    have k2 := (b3.cell (p := ⟨W1.heap.size, 2, none⟩) zW2).trans g2
    have k3 := (b3.cell (p := ⟨W1.heap.size, 3, none⟩) zW2).trans g3
    have k4 := (b3.cell (p := ⟨W1.heap.size, 4, none⟩) zW2).trans g4
    have k5 := (b3.cell (p := ⟨W1.heap.size, 5, none⟩) zW2).trans g5
    have k6 := (b3.cell (p := ⟨W1.heap.size, 6, none⟩) zW2).trans g6
    have cb3 := hs3.cell
    have cb4 := hs4.cell
    have cf3 := hs3.froz
    have cf4 := hs4.froz
    have hown := hs3.row
    have hle := hs3.le
    clear hc b2
    have HB1 := Lib.hid hb1
    clear hb1
    subst hW2
    have zB := HH.out.lt
    have hnl : ns.length ≤ 100000 := by omega
    have hle1 := hs2.le
    have hcb : cb < ((W1.alloc (.cells #[.int .u8 (k.toNat : Int), .int .i64 (na : Int), .int .i64 (nb : Int), .int .i64 (nc : Int), .int .i64 (num : Int), .string ⟨tx.toArray⟩, .slice sa sn sc] 93)).alloc (.cells #[.int .u8 (k.toNat : Int), .int .i64 (na : Int), .int .i64 (nb : Int), .int .i64 (nc : Int), .int .i64 (num : Int), .string ⟨tx.toArray⟩, .slice sa sn sc] 93)).drew.heap.size := Nat.lt_of_lt_of_le hs4.lt hs4.le
    have hne : some cb ≠ (Value.slice la ns.length lc).ownBlock := fun e => hs3.ne e.symm
    have HS2 := Lib.hid hs2
    have HB3 : Hid (Below W1.heap.size W1 ((W1.alloc (.cells #[.int .u8 (k.toNat : Int), .int .i64 (na : Int), .int .i64 (nb : Int), .int .i64 (nc : Int), .int .i64 (num : Int), .string ⟨tx.toArray⟩, .slice sa sn sc] 93)).alloc (.cells #[.int .u8 (k.toNat : Int), .int .i64 (na : Int), .int .i64 (nb : Int), .int .i64 (nc : Int), .int .i64 (num : Int), .string ⟨tx.toArray⟩, .slice sa sn sc] 93)).drew) := (((Below.refl W1.heap.size W1).alloc (Nat.le_refl _) _).alloc (by simp) _).drew
    clear hs2 hs3 hs4 b3
    go_wp2_with fail
    go_region_law (first
      | (refine step_append_lies _ (by rfl) _ _ _ (by rfl) (cb - 1) 93 i0 _ 7 80 Tryz.underlying90 hi hz0 hz1 hz2 rfl (by decide) (.slice la ns.length lc) ns.length _ (by rfl) ((hown.alloc _).drew)
          ⟨(W1.alloc (.cells #[.int .u8 (k.toNat : Int), .int .i64 (na : Int), .int .i64 (nb : Int), .int .i64 (nc : Int), .int .i64 (num : Int), .string ⟨tx.toArray⟩, .slice sa sn sc] 93)).heap.size, 0, none⟩ 1 1 [.int .u8 (k.toNat : Int), .int .i64 (na : Int), .int .i64 (nb : Int), .int .i64 (nc : Int), .int .i64 (num : Int), .string ⟨tx.toArray⟩, .slice sa sn sc] (by simp [Act.eval]) (by rfl) (World.news_of_block (cs := #[.int .u8 (k.toNat : Int), .int .i64 (na : Int), .int .i64 (nb : Int), .int .i64 (nc : Int), .int .i64 (num : Int), .string ⟨tx.toArray⟩, .slice sa sn sc]) (t := 93) (fr := (0, 0)) (heap_alloc_new (W1.alloc (.cells #[.int .u8 (k.toNat : Int), .int .i64 (na : Int), .int .i64 (nb : Int), .int .i64 (nc : Int), .int .i64 (num : Int), .string ⟨tx.toArray⟩, .slice sa sn sc] 93)) _)) (by simp [Value.oneCell'])
          (by decide) (by unfold maxLen; omega) (by omega) (by simp; omega) (W1.heap.size + 1 + 1) (by simp) ?_; intro g cap w6 hown6 hgrow6 hat6 hlt6
         have m0 : w6.cell? ⟨cb, 0, none⟩ = some (.slice la ns.length lc) := (World.cell?_of_block (a := ⟨cb, 0, none⟩) (hgrow6.block cb hcb hne)).trans cb4
         have mf : w6.frozen? ⟨cb, 0, none⟩ = false := (World.frozen?_of_block (a := ⟨cb, 0, none⟩) (hgrow6.block cb hcb hne)).trans cf4))
    all_goals
      have P := HS2.out.push (g := g) (nd := ⟨k, na, nb, nc, num, tx, .slice sa sn sc⟩) HB3.out hgrow6 hown6 rfl (by rcases hat6 with h | h; exact .inl h; exact .inr (by rw [h]; omega)) ⟨_, _, _, rfl⟩
      have PP := Lib.hid P
      have hz1 := HB1.out.size
      clear P hown6 hgrow6 hat6
      go_wp2
      go_ret2
      have hk := (KeepN.below (B := B) (cb := cb) (v := .slice la ns.length lc) HB1.out).trans PP.out.2
      refine ⟨_, ns ++ [⟨k, na, nb, nc, num, tx, .slice sa sn sc⟩], PP.out.1, hk, hk.strs HH.out, Ext.snoc _ _, .inl ⟨t, r, HT.out, by rw [HSZ.out]; simp, ?_, ?_⟩⟩
      · refine RepP.leaf HLF.out ((HI.out.weaken HH.out.le).keep (PP.out.2.strs HS2.out)) ?_
        simp
      · rw [HM.out]
        simp
  · have hlv : lv = .slice sa sn sc := hlv
    subst hlv
    have HN : Hid (∀ t r, ¬ Tat (s.data.toList.drop p) t r) := fun t r ht => by
      have h1 := hno t r ht
      rw [HL.out t r ht] at h1
      cases h1
    clear hno HL
    have HB1 := Lib.hid hb1
    clear hb1
    simp only [Nd.cells]
    go_wp2
    go_ret2
    have hb := HB1.out.trans (((Below.refl W1.heap.size W1).alloc (Nat.le_refl _) (.cells #[.int .u8 (k.toNat : Int), .int .i64 (na : Int), .int .i64 (nb : Int), .int .i64 (nc : Int), .int .i64 (num : Int), .string ⟨tx.toArray⟩, .slice sa sn sc] 93)).mono HB1.out.size)
    exact ⟨v, ns, HH.out.below hb, KeepN.below hb, (KeepN.below (B := B) (cb := cb) (v := v) hb).strs HH.out, Ext.refl _, .inr ⟨HN.out, rfl⟩⟩
end Go.Proofs.YtgielbamebjjdaaGreatDoor
