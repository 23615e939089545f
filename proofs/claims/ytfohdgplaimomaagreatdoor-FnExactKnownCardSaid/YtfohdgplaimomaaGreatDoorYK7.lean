/- GI5R -/
import Derived.Test.YtfohdgplaimomaaGreatDoorYP6
import Derived.Test.YtfohdgplaimomaaGreatDoorYP4
set_option maxRecDepth 100000
set_option maxHeartbeats 16000000
set_option linter.unusedSimpArgs false
set_option linter.unusedVariables false
namespace Go.Proofs.YtfohdgplaimomaaGreatDoor
open Go.ChangeShapes Go.WideShapes Go.ChangeAt Go.RowKit
theorem recText2 (nm:List UInt8):(⟨nm.toArray⟩:ByteArray) ++ ⟨#[46]⟩ ++ ⟨#[114,101,99]⟩=⟨(nm ++ 46 :: recB).toArray⟩:=by
 apply ByteArray.ext
 simp [recB]
theorem implRecName {w:World} {d:Dc} {b:Nat} {u:Value} (h:w.ownsRow b 90 2 u d.ctors.length (flatC d.ctors)) (hs:d.Small) (hr:d.Rng) (hv:Vars w) (hm:MaxLenInt w) :
  Calls Tryz.prog 76 #[d.val u] w fun e w'=>e=.returned (.string ⟨(recName d).toArray⟩)∧Below w.heap.size w w':=by
 obtain ⟨kd,nm,ps,fl,ty,vl,cs⟩:=d
 obtain ⟨ua,uc,rfl⟩:=row_sliceD h
 have HB0:=Ld (alloc_any w (.cells #[.int .i64 kd,.string ⟨nm.toArray⟩,.int .i64 ps,.int .i64 fl,.string ⟨ty.toArray⟩,.string ⟨vl.toArray⟩,.slice ua cs.length uc] 52))
 have f1:=Ld (implIsData (d:=⟨kd,nm,ps,fl,ty,vl,cs⟩) (own_below h HB0.out) hs hr (hv.below HB0.out) (hm.below HB0.out))
 have hval:Dc.val ⟨kd,nm,ps,fl,ty,vl,cs⟩ (.slice ua cs.length uc)=.agg #[.int .i64 kd,.string ⟨nm.toArray⟩,.int .i64 ps,.int .i64 fl,.string ⟨ty.toArray⟩,.string ⟨vl.toArray⟩,.slice ua cs.length uc]:=rfl
 rw [hval] at f1 ⊢
 have s1:=hs.name
 simp only at s1 f1
 have HE:Hid (recName ⟨kd,nm,ps,fl,ty,vl,cs⟩=if kd=4∧declOk ⟨kd,nm,ps,fl,ty,vl,cs⟩=true then nm ++ 46 :: recB else []):=rfl
 have HX:=Ld (declBox (w:=w) (kd:=kd) (ps:=ps) (fl:=fl) (nm:=nm) (ty:=ty) (vl:=vl) (u:=.slice ua cs.length uc))
 have hrt:=recText2 nm
 have znm:=size_sv nm
 have hz:((⟨nm.toArray⟩:ByteArray) ++ (⟨#[46]⟩:ByteArray)).size=nm.length+1:=by rw [ByteArray.size_append,znm];rfl
 obtain ⟨c0,c1,c2,c3,c4,c5,c6⟩:=HX.out _ (Below.refl _ _)
 clear h hval hs hr hv hm
 have HD:Hid ((kd=4∧declOk ⟨kd,nm,ps,fl,ty,vl,cs⟩=true)↔(decide (kd=4) && declOk ⟨kd,nm,ps,fl,ty,vl,cs⟩)=true):=by rw [Hid,Bool.and_eq_true,decide_eq_true_eq]
 generalize (decide (kd=4) && declOk ⟨kd,nm,ps,fl,ty,vl,cs⟩)=ok at f1 HD
 go_enter Tryz.func76,Tryz.ntmps76
 go_wp2_with fail
 (with_reducible refine f1.out.mono ?_);rintro e w1 ⟨rfl,hb⟩
 have HB1:=Ld (HB0.out.trans (hb.mono HB0.out.size))
 clear c0 c1 c2 c3 c4 c5 c6
 obtain ⟨c0,c1,c2,c3,c4,c5,c6⟩:=HX.out _ hb
 clear hb f1 HX
 cases ok
 ·have HF:Hid (recName ⟨kd,nm,ps,fl,ty,vl,cs⟩=[]):=by rw [Hid,HE.out,if_neg (fun h=>by have:=HD.out.1 h;cases this)]
  go_wp2
  go_ret
  rw [HF.out]
  exact ⟨rfl,HB1.out⟩
 ·have HF:Hid (recName ⟨kd,nm,ps,fl,ty,vl,cs⟩=nm ++ 46 :: recB):=by rw [Hid,HE.out,if_pos (HD.out.2 rfl)]
  generalize nm ++ 46 :: recB=rn at hrt HF
  go_wp2
  go_ret
  rw [HF.out]
  exact ⟨rfl,HB1.out⟩
end Go.Proofs.YtfohdgplaimomaaGreatDoor
