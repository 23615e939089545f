/- EJ2 HC4t -/
import Derived.Test.YtgonemalnljabaaGreatDoorYE1
import Derived.Test.YtgonemalnljabaaGreatDoorYA6
import Derived.Test.YtgonemalnljabaaGreatDoorYP3
import Derived.Test.YtgonemalnljabaaGreatDoorYKC
import Derived.Test.YtgonemalnljabaaGreatDoorYQ1
set_option maxRecDepth 100000
set_option maxHeartbeats 16000000
set_option linter.unusedSimpArgs false
set_option linter.unusedVariables false
namespace Go.Proofs.YtgonemalnljabaaGreatDoor
open Go.ChangeShapes Go.WideShapes Go.ChangeAt Go.RowKit
def AllTm (ls:List (List UInt8)) (ts:List Tm):Prop:=ts.map Tm.bytes=ls∧∀ t∈ts,IsTm t.bytes t
theorem AllTm.snoc {ls:List (List UInt8)} {ts:List Tm} {x:List UInt8} {t:Tm} (h:AllTm ls ts) (ht:IsTm x t):AllTm (ls ++ [x]) (ts ++ [t]):=by
  refine ⟨?_,fun u hu=>?_⟩
  · rw [List.map_append,h.1]
    simp [ht.2.1]
  · rcases List.mem_append.1 hu with h1 | h1
    · exact h.2 u h1
    · simp only [List.mem_cons,List.not_mem_nil,or_false] at h1
      subst h1
      rw [ht.2.1]
      exact ht
theorem AllTm.len {ls:List (List UInt8)} {ts:List Tm} (h:AllTm ls ts):ts.length=ls.length:=by rw [← h.1,List.length_map]
theorem given_snoc (h:Tm) (ts:List Tm) (a:Tm):h.given (ts ++ [a])=.app (h.given ts) a:=by simp [Tm.given]
def TreeAns (t:Tm) (W:World) (e:Ending) (W':World):Prop:=∃ T x,e=.returned (.iface T x)∧IRep W' t (.iface T x)∧Below W.heap.size W W'
theorem below_of_grown {W W':World} (h:W.grownBy W' none):Below W.heap.size W W' := ⟨h.os,h.tape,h.output,h.size,fun i hi=>h.block i hi (by simp)⟩
theorem putRes_get (o:Option (List UInt8)):∃ b,putRes o=.tuple #[.string ⟨(o.getD []).toArray⟩,.bool b]:=by
 cases o with
 | none=>exact ⟨_,rfl⟩
 | some t=>exact ⟨_,rfl⟩
theorem putRes_say (T:Tm) (tb:List UInt8) (h:T.bytes=tb) (hp:T.Pre):putRes (sayT (some []) T)=if termOk tb=true then .tuple #[.string ⟨tb.toArray⟩,.bool true] else .tuple #[.string ⟨#[]⟩,.bool false]:=by
 subst h
 by_cases hk:termOk T.bytes=true
 ·rw [if_pos hk,(sayT_nil T).1 ((termOk_pre hp).1 hk)]
  rfl
 ·rw [if_neg hk,(sayT_nil T).2 (fun h=>hk ((termOk_pre hp).2 h))]
  rfl
theorem implTextWithin {t:Tm} {v:Value} {W:World} (hv:Vars W) (hl:t.Lim 9999) (hp:t.Pre) (hz:t.bytes.length≤100000000) (h:IRep W t v) :
  Calls Tryz.prog 62 #[v] W fun e W'=>e=.returned (putRes (sayT (some []) t))∧Below W.heap.size W W':=by
 obtain ⟨T,x,rfl⟩:=h.iface
 have f1:=Ld (implText hv hl h hz)
 have f2:=Ld fun W1 (hb:Below W.heap.size W W1)=>implTermOk ⟨t.bytes.toArray⟩ W1 (hv.below hb) (by simp only [maxLen,ByteArray.size,List.size_toArray];omega)
 have HE:=Ld (putRes_say t _ rfl hp)
 simp only at f2
 generalize t.bytes=tb at f1 f2 HE
 rw [HE.out]
 clear HE h hl hp hz hv
 generalize termOk tb=ok at f2
 go_enter Tryz.func62,Tryz.ntmps62
 go_wp2_with fail
 (with_reducible refine f1.out.mono ?_);rintro e w1 ⟨rfl,hb1⟩
 go_wp2_with fail
 (with_reducible refine (f2.out _ hb1).mono ?_);rintro e w2 ⟨rfl,hb2⟩
 have HB2:=Ld (hb1.trans (hb2.mono hb1.size))
 clear hb1 hb2 f1 f2
 cases ok
 all_goals
  go_wp2
  go_ret2
  exact ⟨rfl,HB2.out⟩
end Go.Proofs.YtgonemalnljabaaGreatDoor
