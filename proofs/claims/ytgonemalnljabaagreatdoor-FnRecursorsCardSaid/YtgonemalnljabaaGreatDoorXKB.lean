/- GUse1 KMin KLv KRec -/
import Derived.Deep.RegionHeld3
import Derived.Test.YtgonemalnljabaaGreatDoorXG3
import Derived.Test.YtgonemalnljabaaGreatDoorXE1
import Derived.Test.YtgonemalnljabaaGreatDoorXKA
import Derived.Test.YtgonemalnljabaaGreatDoorXJ1
import Derived.Test.YtgonemalnljabaaGreatDoorXG2
set_option maxRecDepth 100000
set_option maxHeartbeats 16000000
set_option linter.unusedSimpArgs false
set_option linter.unusedVariables false
namespace Go.Proofs.YtgonemalnljabaaGreatDoor
open Go.ChangeShapes Go.WideShapes Go.ChangeAt Go.RowKit
theorem declOk_ctors {d:Dc} (h:declOk d=true):d.ctors.length≤6:=by
 simp only [declOk,Bool.and_eq_true,decide_eq_true_eq] at h
 have hk:=h.2.2.2.2
 unfold declKindOk at hk
 split at hk
 ·simp only [Bool.and_eq_true,decide_eq_true_eq] at hk
  omega
 ·split at hk
  ·simp only [Bool.and_eq_true,decide_eq_true_eq] at hk
   omega
  ·split at hk
   ·simp only [dataOk,Bool.and_eq_true,decide_eq_true_eq] at hk
    exact hk.2.2.2.2.1
   ·cases hk
theorem varText_len (n:Int):(varText n).length≤30:=by
 unfold varText
 split
 ·exact var_len _ (by omega)
 ·simp
theorem isCtor_six {d:Dc} {k:Int} (h:isCtor d k=true):d.ctors.length≤6:=by
 have h1:=(isCtor_lt h).2.2
 simp only [isData,Bool.and_eq_true] at h1
 exact declOk_ctors h1.2
theorem isCtor_params {d:Dc} {k:Int} (h:isCtor d k=true):0≤d.params∧d.params≤3:=by
 have h1:=(isCtor_lt h).2.2
 simp only [isData,Bool.and_eq_true] at h1
 exact declOk_params h1.2
theorem resultOk_ctor {d:Dc} {k:Int} (h:resultOk d k=true):isCtor d k=true:=by
 simp only [resultOk,Bool.and_eq_true] at h
 exact h.1
theorem minors_none {d:Dc} {n k:Nat} (h:k < n) (hm:minorType d (k:Int)=none):minors d (n - k) k=none:=by
 obtain ⟨m,hm1⟩:∃ m,n - k=m+1:=⟨n - k - 1,by omega⟩
 rw [hm1,minors,hm]
theorem minors_some {d:Dc} {n k:Nat} {t:List UInt8} (h:k < n) (hm:minorType d (k:Int)=some t):minors d (n - k) k=(minors d (n - (k+1)) (k+1)).map (t :: ·):=by
 obtain ⟨m,hm1⟩:∃ m,n - k=m+1:=⟨n - k - 1,by omega⟩
 rw [hm1,minors,hm,show n - (k+1)=m by omega]
 simp only
 cases minors d m (k+1)<;>rfl
theorem minors_end {d:Dc} {n:Nat}:minors d (n - n) n=some []:=by rw [Nat.sub_self,minors]
theorem isData_small {d:Dc} (h:isData d=true):(selfConst d).length≤1000∧(motiveSort d).length≤1000∧d.ctors.length≤6:=by
 have hd:=h
 simp only [isData,Bool.and_eq_true] at hd
 have h6:=declOk_ctors hd.2
 obtain ⟨p0,p3⟩:=declOk_params hd.2
 have hn:d.name.length≤40:=by
  have h2:=hd.2
  simp only [declOk,Bool.and_eq_true] at h2
  exact nameOk_le h2.1
 refine ⟨?_,?_,h6⟩
 ·have hl:=levelsN_short (n:=d.params.toNat) (by omega)
  unfold selfConst
  rw [if_pos hd.2]
  simp only [Tm.bytes,List.length_cons,List.length_append,List.length_nil]
  omega
 ·unfold motiveSort
  obtain ⟨q,hq⟩:∃ q:Nat,d.params=(q:Int):=⟨d.params.toNat,by omega⟩
  rw [hq,Lib.itoa_nonneg]
  have:=digits_len (u:=q) (by omega)
  rw [if_pos h]
  split
  ·simp only [List.length_cons,List.length_append,List.length_nil]
   omega
  ·decide
end Go.Proofs.YtgonemalnljabaaGreatDoor
