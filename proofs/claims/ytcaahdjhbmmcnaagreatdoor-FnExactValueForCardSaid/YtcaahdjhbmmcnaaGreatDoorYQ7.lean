/- JI7 -/
import Derived.Test.YtcaahdjhbmmcnaaGreatDoorYP6
import Derived.Test.YtcaahdjhbmmcnaaGreatDoorYUI
import Derived.Test.YtcaahdjhbmmcnaaGreatDoorYE1
import Derived.Test.YtcaahdjhbmmcnaaGreatDoorYP3
set_option maxRecDepth 100000
set_option maxHeartbeats 16000000
set_option linter.unusedSimpArgs false
set_option linter.unusedVariables false
namespace Go.Proofs.YtcaahdjhbmmcnaaGreatDoor
open Go.ChangeShapes Go.WideShapes Go.ChangeAt Go.RowKit
theorem data_sort {d:Dc} (h:isData d=true):∃ l,IsTm d.type (.sort l)/\levelIn d.type=l:=by
 rw [isData,Bool.and_eq_true,decide_eq_true_eq] at h;have h2:=h.2;simp only [declOk,declKindOk,Bool.and_eq_true] at h2;have h1:=h2.2.2.2.2;rw [h.1,iN (by decide),iN (by decide),iP rfl] at h1;simp only [dataOk,Bool.and_eq_true,decide_eq_true_eq] at h1;have hk:termKind d.type=[115]:=h1.2.2.2.1;unfold termKind termOk at hk;cases ht:termOf d.type with
 | none=>rw [ht] at hk;simp at hk
 | some t =>
  have hi:=termOf_is ht;rw [ht] at hk;rw [iP (show (some t).isSome=true from rfl)] at hk;rw [← hi.2.1] at hk;cases t with
  | sort l =>
   refine ⟨l,hi,?_⟩;rw [← hi.2.1];unfold levelIn;simp [Tm.bytes]
  | var n=>simp [Tm.bytes] at hk
  | const n ls=>simp [Tm.bytes] at hk
  | app a b=>simp [Tm.bytes] at hk
  | lam a b=>simp [Tm.bytes] at hk
  | pi a b=>simp [Tm.bytes] at hk
  | lett a b c=>simp [Tm.bytes] at hk
theorem implLevelOf {s l:List UInt8} (h:IsTm s (.sort l)) (w:World) (hv:Vars w) (hs:s.length<=maxLen) :
  Rt 162 #[.string ⟨s.toArray⟩] w (.string ⟨l.toArray⟩):=by
 have f1:=Ld (implReadTerm ⟨s.toArray⟩ w hv (by rw [size_sv];exact hs));unfold ReadAns at f1;simp only at f1;have HT:=Ld h;clear h hv hs;go_enter Tryz.func162,Tryz.ntmps162;go_wp2_with fail;(with_reducible refine f1.out.mono ?_);rintro e w1 ⟨hb,⟨t,v,ht,rfl,hr⟩ | ⟨hno,rfl⟩⟩;rotate_left
 ·exact absurd HT.out (hno _)
 obtain rfl:=ht.uniq HT.out;obtain ⟨g,rfl,hg⟩:=hr;have c0:w1.cell? ⟨g,0,none⟩=some (.string ⟨l.toArray⟩):=by rw [Lib.cell_of_heap hg];rfl
 have tS:=(taSort 120 (.pointer (some ⟨g,0,none⟩)) w1).trans (by rw [iP rfl]);have HB:=Ld hb;clear hb hg ht HT f1;go_wp2;go_ret;exact ⟨rfl,HB.out⟩
theorem implLargeOk {w:World} {d:Dc} {b:Nat} {u:Value} (h:w.ownsRow b 88 2 u d.ctors.length (flatC d.ctors)) (hs:d.Small) (hr:d.Rng) (hv:Vars w) (hm:MaxLenInt w) :
  Rt 116 #[d.val u] w (.bool (largeOk d)):=by
 have FD:=Ld fun (W:World) (hW:Below w.heap.size w W)=>implIsData (own_below h hW) hs hr (hv.below hW) (hm.below hW);have HV:=Ld hv;have s2:=hs.type;have HS:=Ld fun h=>data_sort (d:=d) h;have hid:(decide (d.kind=4) && declOk d)=isData d:=rfl;rw [hid] at FD;have HE:Hid (largeOk d=(isData d && levelLe [43,122] (levelIn d.type))):=rfl;clear hid;obtain ⟨kd,nm,ps,fl,ty,vl,cs⟩:=d;obtain ⟨ua,uc,rfl⟩:=row_sliceD h;have hval:=dval kd nm ps fl ty vl cs (.slice ua cs.length uc);rw [hval] at FD |-;simp only at s2 HS HE;obtain ⟨W0,hW0⟩:∃ W0,w.alloc (dC kd nm ps fl ty vl (.slice ua cs.length uc) 52)=W0:=⟨_,rfl⟩;have HX:Hid (∀ W,Below W0.heap.size W0 W->W.cell? ⟨w.heap.size,0,none⟩=some (.int .i64 kd)/\W.cell? ⟨w.heap.size,1,none⟩=some (.string ⟨nm.toArray⟩)/\W.cell? ⟨w.heap.size,2,none⟩=some (.int .i64 ps)/\W.cell? ⟨w.heap.size,3,none⟩=some (.int .i64 fl)/\W.cell? ⟨w.heap.size,4,none⟩=some (.string ⟨ty.toArray⟩)/\W.cell? ⟨w.heap.size,5,none⟩=some (.string ⟨vl.toArray⟩)/\W.cell? ⟨w.heap.size,6,none⟩=some (.slice ua cs.length uc)):=by
  rw [Hid,← hW0];exact declBox
 have HB0:Hid (Below w.heap.size w W0):=by rw [Hid,← hW0];exact alloc_any _ _
 obtain ⟨c0,c1,c2,c3,c4,c5,c6⟩:=HX.out _ (bR _ _);have f1:=Ld (FD.out _ HB0.out);clear h hval hs hr hv hm FD;generalize isData ⟨kd,nm,ps,fl,ty,vl,cs⟩=b1 at f1 HS HE;generalize largeOk ⟨kd,nm,ps,fl,ty,vl,cs⟩=r at HE |-;go_enter Tryz.func116,Tryz.ntmps116;go_wp2_with fail;(with_reducible refine mo f1.out fun w1 hb=>?_);have HB1:=bt HB0.out hb;clear c0 c1 c2 c3 c4 c5 c6;obtain ⟨c0,c1,c2,c3,c4,c5,c6⟩:=HX.out _ hb;clear hb f1 hW0;cases b1
 ·have HF:Hid (r=false):=(by rw [Hid,HE.out,Bool.false_and]);clear HX HS HE;go_wp2;go_ret;rw [HF.out];exact ⟨rfl,HB1.out⟩
 obtain ⟨l,ht,hl⟩:=HS.out rfl;have HF:Hid (r=levelLe [43,122] l):=by rw [Hid,HE.out,Bool.true_and,hl]
 have hll:l.length<=2000:=by
  have h1:=ht.2.2;rw [← ht.2.1] at h1;simp [Tm.bytes] at h1;omega
 have f2:=Ld (implLevelOf ht w1 (HV.out.below HB1.out) (by unfold maxLen;omega));have F3:=Ld fun W=>implLevelAbove ⟨l.toArray⟩ W (by rw [size_sv];unfold maxLen;omega);simp only at F3;generalize levelLe [43,122] l=z at F3 HF;clear HX HS HE ht hl;go_wp2_with fail;(with_reducible refine mo f2.out fun w2 hb2=>?_);have HB2:=bt HB1.out hb2;clear hb2 f2;go_wp2_with fail;(with_reducible refine mo (F3.out _) fun w3 hb3=>?_);have HB3:=bt HB2.out hb3;clear hb3 F3;go_wp2;go_ret;rw [HF.out];exact ⟨rfl,HB3.out⟩
end Go.Proofs.YtcaahdjhbmmcnaaGreatDoor
