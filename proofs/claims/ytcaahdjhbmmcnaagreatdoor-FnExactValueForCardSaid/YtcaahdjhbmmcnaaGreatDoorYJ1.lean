/- ULeA JLg JCt JRo JArg JSh -/
import Derived.Laws.Cover1
import Derived.Test.YtcaahdjhbmmcnaaGreatDoorYJ0
import Derived.Test.YtcaahdjhbmmcnaaGreatDoorYE1
import Derived.Test.YtcaahdjhbmmcnaaGreatDoorYG2
import Derived.Test.YtcaahdjhbmmcnaaGreatDoorYG1
import Derived.Test.YtcaahdjhbmmcnaaGreatDoorYG3
set_option maxRecDepth 100000
set_option maxHeartbeats 16000000
set_option linter.unusedSimpArgs false
set_option linter.unusedVariables false
namespace Go.Proofs.YtcaahdjhbmmcnaaGreatDoor
open Go.ChangeShapes Go.WideShapes Go.ChangeAt Go.RowKit
theorem specLevelLe (a b:ByteArray) (w:World) (ha:a.size<=maxLen) (hb:b.size<=maxLen) :
  Rt 79 #[.string a,.string b] w (.bool (levelLe a.data.toList b.data.toList)):=by
 have f0:=Ld fun W=>specLevelWitness a b W ha hb;have f1:=Ld fun W=>specLevelOk a W ha;have f2:=Ld fun W=>specLevelOk b W hb;have HE:Hid (levelLe a.data.toList b.data.toList=(levelOk a.data.toList && levelOk b.data.toList && !(levelWit a.data.toList b.data.toList).isSome)):=by
  rw [Hid,levelLe];cases levelWit a.data.toList b.data.toList<;>rfl
 generalize levelLe a.data.toList b.data.toList=r at HE;generalize levelOk a.data.toList=oa at HE f1;generalize levelOk b.data.toList=ob at HE f2;generalize levelWit a.data.toList b.data.toList=rr at HE f0;go_enter Tryz.func79,Tryz.ntmps79;go_wp2_with fail;(with_reducible refine (f0.out _).mono ?_);rintro e w1 ⟨u,rfl,_,hb1⟩;clear f0;generalize rr.isSome=s at HE;cases oa
 ·go_wp2_with fail;(with_reducible refine mo (f1.out _) ?_);rintro w2 rfl;go_wp2;go_ret;rw [HE.out];exact ⟨rfl,hb1⟩
 cases ob
 ·go_wp2_with fail;(with_reducible refine mo (f1.out _) ?_);rintro w2 rfl;go_wp2_with fail;(with_reducible refine mo (f2.out _) ?_);rintro w2 rfl;go_wp2;go_ret;rw [HE.out];exact ⟨rfl,hb1⟩
 cases s
 all_goals
  go_wp2_with fail;(with_reducible refine mo (f1.out _) ?_);rintro w2 rfl;go_wp2_with fail;(with_reducible refine mo (f2.out _) ?_);rintro w2 rfl;go_wp2;go_ret;rw [HE.out];exact ⟨rfl,hb1⟩
theorem specLevelAbove (s:ByteArray) (w:World) (hs:s.size<=maxLen) :
  Rt 55 #[.string s] w (.bool (levelLe [43,122] s.data.toList)):=by
 have f1:Hid (∀ W,Rt 79 #[.string ⟨#[43,122]⟩,.string s] W (.bool (levelLe [43,122] s.data.toList))):=fun W=>specLevelLe ⟨#[43,122]⟩ s W (by decide) hs;generalize levelLe [43,122] s.data.toList=x at f1;go_enter Tryz.func55,Tryz.ntmps55;go_wp2_with fail;(with_reducible refine mo (f1.out _) fun w1 hb1=>?_);go_wp2;go_ret;exact ⟨rfl,hb1⟩
theorem data_kind {d:Dc} (h4:d.kind=4) (h:declOk d=true):termKind d.type=[115]:=by
 simp only [declOk,declKindOk,Bool.and_eq_true] at h;have h1:=h.2.2.2.2;rw [h4,iN (by decide),iN (by decide),iP rfl] at h1;simp only [dataOk,Bool.and_eq_true,decide_eq_true_eq] at h1;exact h1.2.2.2.1
end Go.Proofs.YtcaahdjhbmmcnaaGreatDoor
