/- HC4t -/
import Derived.Test.YtfohdgplaimomaaGreatDoorYKC
import Derived.Test.YtfohdgplaimomaaGreatDoorYQ1
import Derived.Test.YtfohdgplaimomaaGreatDoorYP3
set_option maxRecDepth 100000
set_option maxHeartbeats 16000000
set_option linter.unusedSimpArgs false
set_option linter.unusedVariables false
namespace Go.Proofs.YtfohdgplaimomaaGreatDoor
open Go.ChangeShapes Go.WideShapes Go.ChangeAt Go.RowKit
theorem below_of_grown {W W':World} (h:W.grownBy W' none):Below W.heap.size W W' := ⟨h.os,h.tape,h.output,h.size,fun i hi=>h.block i hi (by simp)⟩
theorem putRes_get (o:Option (List UInt8)):∃ b,putRes o=.tuple #[.string ⟨(o.getD []).toArray⟩,.bool b]:=by
 cases o with
 | none=>exact ⟨_,rfl⟩
 | some t=>exact ⟨_,rfl⟩
theorem putRes_say (T:Tm) (tb:List UInt8) (h:T.bytes=tb) (hp:T.Pre):putRes (sayT (some []) T)=if termOk tb=true then .tuple #[.string ⟨tb.toArray⟩,.bool true] else .tuple #[.string ⟨#[]⟩,.bool false]:=by
 subst h
 by_cases hk:termOk T.bytes=true
 ·rw [if_pos hk,(sayT_nil T).1 ((termOk_pre hp).1 hk)]
  rfl
 ·rw [if_neg hk,(sayT_nil T).2 (fun h=>hk ((termOk_pre hp).2 h))]
  rfl
theorem implTextWithin {t:Tm} {v:Value} {W:World} (hv:Vars W) (hl:t.Lim 9999) (hp:t.Pre) (hz:t.bytes.length≤100000000) (h:IRep W t v) :
  Calls Tryz.prog 89 #[v] W fun e W'=>e=.returned (putRes (sayT (some []) t))∧Below W.heap.size W W':=by
 obtain ⟨T,x,rfl⟩:=h.iface
 have f1:=Ld (implText hv hl h hz)
 have f2:=Ld fun W1 (hb:Below W.heap.size W W1)=>implTermOk ⟨t.bytes.toArray⟩ W1 (hv.below hb) (by simp only [maxLen,ByteArray.size,List.size_toArray];omega)
 have HE:=Ld (putRes_say t _ rfl hp)
 simp only at f2
 generalize t.bytes=tb at f1 f2 HE
 rw [HE.out]
 clear HE h hl hp hz hv
 generalize termOk tb=ok at f2
 go_enter Tryz.func89,Tryz.ntmps89
 go_wp2_with fail
 (with_reducible refine f1.out.mono ?_);rintro e w1 ⟨rfl,hb1⟩
 go_wp2_with fail
 (with_reducible refine (f2.out _ hb1).mono ?_);rintro e w2 ⟨rfl,hb2⟩
 have HB2:=Ld (hb1.trans (hb2.mono hb1.size))
 clear hb1 hb2 f1 f2
 cases ok
 all_goals
  go_wp2
  go_ret2
  exact ⟨rfl,HB2.out⟩
end Go.Proofs.YtfohdgplaimomaaGreatDoor
