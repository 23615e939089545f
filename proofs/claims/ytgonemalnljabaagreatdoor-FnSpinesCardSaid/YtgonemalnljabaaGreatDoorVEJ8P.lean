/- EJ8P -/
import Derived.Test.YtgonemalnljabaaGreatDoorVQ1
import Derived.Test.YtgonemalnljabaaGreatDoorVSU2
set_option maxRecDepth 100000
set_option maxHeartbeats 16000000
set_option linter.unusedSimpArgs false
set_option linter.unusedVariables false
namespace Go.Proofs.YtgonemalnljabaaGreatDoor
open Go.ChangeShapes Go.WideShapes Go.ChangeAt Go.RowKit
theorem implUsesIn (s:ByteArray) (W:World) (hv:Vars W) (hs:s.size≤maxLen) :
  Calls Tryz.prog 23 #[.string s] W (LRes' (usesIn s.data.toList) W):=by
 have f1:=Ld (implReadTerm s W hv hs)
 clear hv hs
 go_enter Tryz.func23,Tryz.ntmps23
 go_wp2_with fail
 (with_reducible refine f1.out.mono ?_);rintro e W1 ⟨hb,⟨t,v,ht,rfl,hr⟩ | ⟨hno,rfl⟩⟩
 rotate_left
 ·have HE:Hid (usesIn s.data.toList=[]):=by rw [Hid,usesIn,termOf_none hno]
  have HB:=Ld hb
  clear hno hb f1
  go_wp2
  go_ret
  rw [HE.out]
  exact ⟨_,rfl,World.ownsRow_nil _ _ _ _,HB.out⟩
 have HE:Hid (usesIn s.data.toList=srt (t.cnames ++ [])):=by rw [Hid,usesIn,termOf_some ht,List.append_nil]
 have hle:=ht.2.2
 rw [← ht.2.1] at hle
 have hcl:=t.cnames_len
 have hsz:=t.size_le
 have HX:Hid (∀ x∈t.cnames ++ [],x.length≤1048576):=fun x hx=>by
  rw [List.append_nil] at hx
  have:=names_short t x hx
  omega
 have f2:=Ld (implAppendUses t.size t (Nat.le_refl _) v (.slice none 0 0) W1 [] hr (Below.refl _ _) (World.ownsRow_nil _ _ _ _) (by simp only [List.length_nil];omega))
 rw [List.nil_append] at f2
 unfold UsesAns at f2
 have HB:=Ld hb
 obtain ⟨T0,x0,rfl⟩:=hr.iface
 have hn:t.cnames.length+([]:List (List UInt8)).length≤1048576:=by simp only [List.length_nil];omega
 clear hb ht hr hle hcl hsz f1
 generalize t.cnames=ns at f2 HE HX hn
 go_wp2_with fail
 (with_reducible refine f2.out.mono ?_);rintro e w2 ⟨u,rfl,hu,hb2,_⟩
 have f3:=Ld (implNamesBoth (b:=[]) hu (World.ownsRow_nil w2 0 _ _) hn HX.out)
 have HB2:=Ld (HB.out.trans (hb2.mono HB.out.size))
 obtain ⟨ua,uc,rfl⟩:=row_slice hu
 unfold LRes at f3
 generalize srt (ns ++ [])=r at f3 HE
 clear hu hb2 f2
 go_wp2_with fail
 (with_reducible refine f3.out.mono ?_);rintro e w3 ⟨u3,rfl,hu3,hb3⟩
 have HO:Hid (w3.ownsRow W.heap.size 9 1 u3 (usesIn s.data.toList).length ((usesIn s.data.toList).map sv)):=by
  rw [Hid,HE.out]
  exact own_baseE hu3 HB2.out.size
 have HB3:=Ld (HB2.out.trans (hb3.mono HB2.out.size))
 clear hu3 hb3 f3
 go_wp2
 go_ret
 exact ⟨_,rfl,HO.out,HB3.out⟩
end Go.Proofs.YtgonemalnljabaaGreatDoor
