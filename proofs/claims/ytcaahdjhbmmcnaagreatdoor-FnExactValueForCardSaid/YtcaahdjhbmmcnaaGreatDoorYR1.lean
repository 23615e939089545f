/- HC4t -/
import Derived.Test.YtcaahdjhbmmcnaaGreatDoorYKC
import Derived.Test.YtcaahdjhbmmcnaaGreatDoorYQ1
import Derived.Test.YtcaahdjhbmmcnaaGreatDoorYP3
set_option maxRecDepth 100000
set_option maxHeartbeats 16000000
set_option linter.unusedSimpArgs false
set_option linter.unusedVariables false
namespace Go.Proofs.YtcaahdjhbmmcnaaGreatDoor
open Go.ChangeShapes Go.WideShapes Go.ChangeAt Go.RowKit
theorem below_of_grown {W W':World} (h:W.grownBy W' none):Below W.heap.size W W' := ⟨h.os,h.tape,h.output,h.size,fun i hi=>h.block i hi (by simp)⟩
theorem putRes_get (o:Option (List UInt8)):∃ b,putRes o=.tuple #[.string ⟨(o.getD []).toArray⟩,.bool b]:=by
 cases o with
 | none=>exact ⟨_,rfl⟩
 | some t=>exact ⟨_,rfl⟩
theorem putRes_say (T:Tm) (tb:List UInt8) (h:T.bytes=tb) (hp:T.Pre):putRes (sayT (some []) T)=if termOk tb=true then .tuple #[.string ⟨tb.toArray⟩,.bool true] else .tuple #[.string ⟨#[]⟩,.bool false]:=by
 subst h;by_cases hk:termOk T.bytes=true
 ·rw [iP hk,(sayT_nil T).1 ((termOk_pre hp).1 hk)];rfl
 ·rw [iN hk,(sayT_nil T).2 (fun h=>hk ((termOk_pre hp).2 h))];rfl
theorem implTextWithin {t:Tm} {v:Value} {W:World} (hv:Vars W) (hl:t.Lim 9999) (hp:t.Pre) (hz:t.bytes.length<=100000000) (h:IRep W t v) :
  Rt 86 #[v] W (putRes (sayT (some []) t)):=by
 obtain ⟨T,x,rfl⟩:=h.iface;have f1:=Ld (implText hv hl h hz);have f2:=Ld fun W1 (hb:Below W.heap.size W W1)=>implTermOk ⟨t.bytes.toArray⟩ W1 (hv.below hb) (by simp only [maxLen,ByteArray.size,List.size_toArray];omega);have HE:=Ld (putRes_say t _ rfl hp);simp only at f2;generalize t.bytes=tb at f1 f2 HE;rw [HE.out];clear HE h hl hp hz hv;generalize termOk tb=ok at f2;go_enter Tryz.func86,Tryz.ntmps86;go_wp2_with fail;(with_reducible refine mo f1.out fun w1 hb1=>?_);go_wp2_with fail;(with_reducible refine mo (f2.out _ hb1) fun w2 hb2=>?_);have HB2:=bt hb1 hb2;clear hb1 hb2 f1 f2;cases ok
 all_goals
  go_wp2;go_ret2;exact ⟨rfl,HB2.out⟩
end Go.Proofs.YtcaahdjhbmmcnaaGreatDoor
