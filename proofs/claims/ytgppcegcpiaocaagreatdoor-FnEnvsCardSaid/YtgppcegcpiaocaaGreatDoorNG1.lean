/- NLe NPartsS GMath HeldW VIn TVarM AddC TCon TTextP TText -/
import Derived.Deep.RegionHeld3
import Derived.Test.YtgppcegcpiaocaaGreatDoorNA2
import Derived.Test.YtgppcegcpiaocaaGreatDoorNZGOr
import Derived.Test.YtgppcegcpiaocaaGreatDoorNV1
import Derived.Test.YtgppcegcpiaocaaGreatDoorNBase
import Derived.Test.YtgppcegcpiaocaaGreatDoorNA1
import Derived.Test.YtgppcegcpiaocaaGreatDoorNA5
set_option maxRecDepth 100000
set_option maxHeartbeats 16000000
set_option linter.unusedSimpArgs false
set_option linter.unusedVariables false
namespace Go.Proofs.YtgppcegcpiaocaaGreatDoor
open Go.ChangeShapes Go.WideShapes Go.ChangeAt Go.RowKit
theorem vZ{l:List UInt8}(h:zI l=true):l.length<=40:=by
 simp only[zI,Bool.and_eq_true,decide_eq_true_eq] at h;exact h.1.1
theorem zW8{w:World}{base base':Nat}{e:TypeId}{size:Nat}{v:Value}{n:Nat}{xs:List Value}(h:w.ownsRow base e size v n xs)(hb:base'<=base):w.ownsRow base' e size v n xs:=by
 refine⟨h.1,?_⟩;rcases h.2 with h|⟨g,cap,cur,h1,h2,h3⟩
 ·exact .inl h
 ·exact .inr ⟨g,cap,cur,h1,Nat.le_trans hb h2,h3⟩
def tQ (l:List UInt8):List (List UInt8):=if zI l=true then gH l else []
theorem aD(s:ByteArray)(w:World)(hs:s.size<=maxLen):Calls Tryz.prog 101 #[.string s] w (yU1 (tQ s.data.toList) w):=by
 have f1:=Ld fun W=>tU s W hs;by_cases h1:zI s.data.toList=true
 ·have hz:s.size<=40:=vZ h1;have f2:=Ld fun W=>zE6 s W (by omega);have HR:=Ld (show tQ s.data.toList=_ from iP h1);rw[h1] at f1;clear h1;go_enter Tryz.func101,Tryz.ntmps101;go_wp2_with fail;(with_reducible refine mo (f1.out _) fun w1 hb1=>?_);go_wp2_with fail;(with_reducible refine(f2.out _).mono ?_);rintro e w2 ⟨v2,rfl,ho2,hb2⟩;go_wp2;go_ret;rw[HR.out];exact⟨_,rfl,zW8 ho2 hb1.size,hb1.trans (hb2.mono hb1.size)⟩
 ·have HR:=Ld (show tQ s.data.toList=_ from iN h1);rw[Bool.not_eq_true] at h1;rw[h1] at f1;clear h1;go_enter Tryz.func101,Tryz.ntmps101;go_wp2_with fail;(with_reducible refine mo (f1.out _) fun w1 hb1=>?_);go_wp2;go_ret;rw[HR.out];exact⟨_,rfl,World.ownsRow_lit w1 #[] 0 hb1.size (by decide) (by simp),hb1.alloc hb1.size _⟩
end Go.Proofs.YtgppcegcpiaocaaGreatDoor
namespace Go.Proofs.YtgppcegcpiaocaaGreatDoor
open Go
noncomputable def zH (t:List UInt8) (p:Int):Bool:=yF t&&(decide (yW t=0)&&decide ((yY t:Int)<=p))
def sD:List UInt8:=[114,101,99]
def tI (nm c:List UInt8):List UInt8:=c.drop (nm.length+1)
def iQ (nm c:List UInt8):Bool:=zI c&&(decide (nm.length+1<c.length)&&decide (c.take (nm.length+1)=nm++[46]))
noncomputable def jZ (nm:List UInt8) (p:Int) (c:Ct):Bool:=decide ((tQ (tI nm c.1)).length=1)&&(decide (tI nm c.1≠sD)&&zH c.2 p)
noncomputable def oM (nm:List UInt8) (p:Int) (c:Ct):Bool:=iQ nm c.1&&jZ nm p c
open Classical in
noncomputable def yQ (nm:List UInt8) (p:Int) (l:List Ct) (k:Nat):Bool:=decide (∀ (i:Nat) (h:i<l.length),i<k->oM nm p l[i]=true/\∀ (j:Nat) (hj:j<i),l[j].1≠l[i].1)
noncomputable def xV (d:Dc):Bool:=decide (d.flags.tmod 2=0)&&(decide (d.value=[])&&(decide (d.params<3)&&(decide (xA d.type=[115])&&(decide (d.ctors.length<=6)&&((zI d.name&&zI (d.name++46::sD))&&yQ d.name d.params d.ctors d.ctors.length)))))
noncomputable def zQ (d:Dc):Bool :=
 if d.kind=1 then decide (d.flags=0)&&(decide (d.value=[])&&decide (d.ctors.length=0))
 else if d.kind=2\/d.kind=3 then decide (d.flags<=1)&&(zH d.value d.params&&decide (d.ctors.length=0))
 else if d.kind=4 then xV d else false
noncomputable def zJ (d:Dc):Bool:=zI d.name&&((decide (0<=d.params)&&decide (d.params<=3))&&((decide (0<=d.flags)&&decide (d.flags<=7))&&(zH d.type d.params&&zQ d)))
noncomputable def mN (d:Dc):List UInt8:=if d.kind=4/\zJ d=true then d.name++46::sD else []
noncomputable def zO (d:Dc):List (List UInt8):=if zJ d=true then d.name::(d.ctors.map fun c=>c.1)++(if d.kind=4 then [d.name++46::sD] else []) else []
def zN (n:Nat):List (List UInt8):=(List.range n).map fun i=>117::Lib.decDigits i
noncomputable def zR (d:Dc):List UInt8:=if zJ d=true then (Tm.const d.name (zN d.params.toNat)).bytes else []
theorem iS(nm:List UInt8)(p:Int)(l:List Ct):yQ nm p l 0=true:=by
 simp[yQ]
theorem iT{nm:List UInt8}{p:Int}{l:List Ct}{k:Nat}(hk:k<l.length)(h:yQ nm p l k=true)(h1:oM nm p l[k]=true)(h2:∀ (j:Nat) (hj:j<k),l[j].1≠l[k].1):yQ nm p l (k+1)=true:=by
 simp only[yQ,decide_eq_true_eq] at h |-;intro i hi hik;rcases Nat.lt_succ_iff_lt_or_eq.1 hik with h3|rfl
 ·exact h i hi h3
 ·exact⟨h1,h2⟩
theorem eZ{nm:List UInt8}{p:Int}{l:List Ct}{k:Nat}(hk:k<l.length)(h1:oM nm p l[k]=false):yQ nm p l l.length=false:=by
 rw[Bool.eq_false_iff];intro h;simp only[yQ,decide_eq_true_eq] at h;rw[(h k hk hk).1] at h1;cases h1
theorem eY{nm:List UInt8}{p:Int}{l:List Ct}{k j:Nat}(hk:k<l.length)(hj:j<k)(h1:l[j].1=l[k].1):yQ nm p l l.length=false:=by
 rw[Bool.eq_false_iff];intro h;simp only[yQ,decide_eq_true_eq] at h;exact(h k hk hk).2 j hj h1
structure Dc.Small (d:Dc):Prop where
 name:d.name.length<=1048576
 type:d.type.length<=1048576
 value:d.value.length<=1048576
 ctors:d.ctors.length<=1048576
 each:∀ c∈d.ctors,c.1.length<=1048576/\c.2.length<=1048576
theorem Dc.small{d:Dc}(h:d.size<=1048576):d.Small:=by
 unfold Dc.size at h;exact⟨by omega,by omega,by omega,by omega,fun c hc=>by have:=yU6 hc;constructor<;>omega⟩
end Go.Proofs.YtgppcegcpiaocaaGreatDoor
namespace Go.Proofs.YtgppcegcpiaocaaGreatDoor
open Go.ChangeShapes Go.WideShapes Go.ChangeAt Go.RowKit
section
variable {P:Program} {ops:Array Oper} {Q:Exit->Act->World->Prop} {md:Region.Mode} {S:World->Prop}
theorem heldW(i d:Nat)(v:Value){oi:Oper}{fuel:Nat}{listed:Array Bool}{a:Act}{w:World}(hi:ops[i]?=some oi)(hd:oi.dst=some d)
  (hs:Region.noSelect ops=true) (hf:Region.free md ops listed i=true) (hr:(Region.ready md ops listed).contains i=true)
  (hQ:∀ c a w,Q (.panic c) (a.put (some d) v) w->Q (.panic c) a w) (hw:Region.wanted oi (yielded ops a.tmps)=true) (hS:S w)
  (hrun:∀ w,S w->(execOp a.eval oi).run P w=.ok (.value v) w)
  (h:wpAnyH P md ops Q S fuel (listed.setIfInBounds i true) (a.put (some d) v) w):wpAnyH P md ops Q S (fuel+1) listed a w :=
 wpAnyH_take hi hs hf hr (by rw[hd];exact hQ) (Or.inl ⟨hw,hrun⟩) hS (by rw[hd];exact h)
theorem heldS(i d:Nat){oi:Oper}{fuel:Nat}{listed:Array Bool}{a:Act}{w:World}(hi:ops[i]?=some oi)(hd:oi.dst=some d)
  (hs:Region.noSelect ops=true) (hf:Region.free md ops listed i=true) (hr:(Region.ready md ops listed).contains i=true)
  (hQ:∀ c a w,Q (.panic c) (a.put (some d) undef) w->Q (.panic c) a w) (hw:Region.wanted oi (yielded ops a.tmps)=false) (hS:S w)
  (h:wpAnyH P md ops Q S fuel (listed.setIfInBounds i true) (a.put (some d) undef) w):wpAnyH P md ops Q S (fuel+1) listed a w :=
 wpAnyH_take hi hs hf hr (by rw[hd];exact hQ) (Or.inr ⟨hw,rfl⟩) hS (by rw[hd];exact h)
theorem qW(i d:Nat)(v:Value){oi:Oper}{fuel:Nat}{listed:Array Bool}{a:Act}{w:World}(hS:S w)(hrun:∀ w,S w->(execOp a.eval oi).run P w=.ok (.value v) w)(h:wpAnyH P md ops Q S fuel (listed.setIfInBounds i true) (a.put (some d) v) w)(hi:ops[i]? =some oi:=by exact rfl)(hd:oi.dst=some d:=by exact rfl)(hs:Region.noSelect ops=true:=by kernel_rfl)(hf:Region.free md ops listed i=true:=by kernel_rfl)(hr:(Region.ready md ops listed).contains i=true:=by kernel_rfl)(hQ:∀ c a w,Q (.panic c) (a.put (some d) v) w->Q (.panic c) a w:=by exact fun _ _ _ h=>h)(hw:Region.wanted oi (yielded ops a.tmps)=true:=by rfl) :wpAnyH P md ops Q S (fuel+1) listed a w:=heldW i d v hi hd hs hf hr hQ hw hS hrun h
theorem qV(i d:Nat)(v:Value){oi:Oper}{fuel:Nat}{listed:Array Bool}{a:Act}{w:World}(hS:S w)(h:wpAnyH P md ops Q S fuel (listed.setIfInBounds i true) (a.put (some d) v) w)(hi:ops[i]? =some oi:=by exact rfl)(hd:oi.dst=some d:=by exact rfl)(hs:Region.noSelect ops=true:=by kernel_rfl)(hf:Region.free md ops listed i=true:=by kernel_rfl)(hr:(Region.ready md ops listed).contains i=true:=by kernel_rfl)(hQ:∀ c a w,Q (.panic c) (a.put (some d) v) w->Q (.panic c) a w:=by exact fun _ _ _ h=>h)(hw:Region.wanted oi (yielded ops a.tmps)=true:=by rfl)(hrun:∀ w,S w->(execOp a.eval oi).run P w=.ok (.value v) w:=by (intro W hSW;(try dsimp only at hSW);(try obtain⟨hSA,hSB⟩:=hSW);go_simp)) :wpAnyH P md ops Q S (fuel+1) listed a w:=heldW i d v hi hd hs hf hr hQ hw hS hrun h
theorem qS(i d:Nat){oi:Oper}{fuel:Nat}{listed:Array Bool}{a:Act}{w:World}(hS:S w)(h:wpAnyH P md ops Q S fuel (listed.setIfInBounds i true) (a.put (some d) undef) w)(hi:ops[i]? =some oi:=by exact rfl)(hd:oi.dst=some d:=by exact rfl)(hs:Region.noSelect ops=true:=by kernel_rfl)(hf:Region.free md ops listed i=true:=by kernel_rfl)(hr:(Region.ready md ops listed).contains i=true:=by kernel_rfl)(hQ:∀ c a w,Q (.panic c) (a.put (some d) undef) w->Q (.panic c) a w:=by exact fun _ _ _ h=>h)(hw:Region.wanted oi (yielded ops a.tmps)=false:=by rfl) :wpAnyH P md ops Q S (fuel+1) listed a w:=heldS i d hi hd hs hf hr hQ hw hS h
theorem qR(i:Nat){oi:Oper}{fuel:Nat}{listed:Array Bool}{a:Act}{w:World}(h:∀ K':Act->World->Prop,Shut (∀ a w,S w->(S w->wpAnyH P md ops Q S fuel (listed.setIfInBounds i true) a w)->K' a w)->Oper.wp P oi a w K' Q)(ho:ops[i]? =some oi:=by exact rfl)(hr:Region.ready md ops listed=[i]:=by kernel_rfl)(hw:Region.wanted oi (yielded ops a.tmps)=true:=by rfl):wpAnyH P md ops Q S (fuel+1) listed a w:=wpAnyH_ready hr (by simp) (AllReadyH.cons ho (fun K hK=>by rw[if_pos hw];exact h K hK) AllReadyH.nil)
end
theorem zO3(x lo hi:Int)(w:World) :
  Calls Tryz.prog 55 #[.int .i64 x,.int .i64 lo,.int .i64 hi] w fun e w'=>e=.returned (.bool (decide (lo<=x)&&decide (x<=hi)))/\w'=w:=by
 by_cases h1:lo<=x
 ·have d1:decide (lo<=x)=true:=dT h1;by_cases h2:x<=hi
  ·have d2:decide (x<=hi)=true:=dT h2;go_enter Tryz.func55,Tryz.ntmps55;go_wp2;go_ret;exact⟨by simp[d1,d2],rfl⟩
  ·have d2:decide (x<=hi)=false:=dF h2;go_enter Tryz.func55,Tryz.ntmps55;go_wp2;go_ret;exact⟨by simp[d1,d2],rfl⟩
 ·have d1:decide (lo<=x)=false:=dF h1;go_enter Tryz.func55,Tryz.ntmps55;go_wp2;go_ret;exact⟨by simp[d1],rfl⟩
theorem zF0(s t:ByteArray):(s++(⟨#[46]⟩:ByteArray)++t).size=s.size+1+t.size:=by
 simp[ByteArray.size_append];rfl
def qI (s t:ByteArray):Value:=if zI s.data.toList=true/\zI t.data.toList=true/\zI (s++(⟨#[46]⟩:ByteArray)++t).data.toList=true then .tuple #[.string (s++(⟨#[46]⟩:ByteArray)++t),.bool true] else .tuple #[.string ⟨#[]⟩,.bool false]
theorem zN9(s t:ByteArray)(w:World)(hs:s.size<=maxLen)(ht:t.size<=maxLen) :
  Rt 99 #[.string s,.string t] w (qI s t):=by
 have f1:=Ld fun W=>tU s W hs;have f2:=Ld fun W=>tU t W ht;by_cases h1:zI s.data.toList=true
 ·by_cases h2:zI t.data.toList=true
  ·have l1:s.size<=40:=vZ h1;have l2:t.size<=40:=vZ h2;have hj:=zF0 s t;have f3:=Ld fun W=>tU (s++(⟨#[46]⟩:ByteArray)++t) W (by rw[hj];unfold maxLen;omega);have hz:(s++(⟨#[46]⟩:ByteArray)).size=s.size+1:=(by rw[ByteArray.size_append];rfl);rw[h1] at f1;rw[h2] at f2;by_cases h3:zI (s++(⟨#[46]⟩:ByteArray)++t).data.toList=true
   ·have HR:=Ld (show qI s t=_ from iP ⟨h1,h2,h3⟩);rw[h3] at f3;clear h1 h2 h3;go_enter Tryz.func99,Tryz.ntmps99;go_wp2_with fail;(with_reducible refine mo (f1.out _) fun w1 hb1=>?_);go_wp2_with fail;(with_reducible refine mo (f2.out _) fun w2 hb2=>?_);go_wp2_with fail;(with_reducible refine mo (f3.out _) fun w3 hb3=>?_);go_wp2;go_ret2;rw[HR.out];exact⟨rfl,(bu hb1 hb2).trans (hb3.mono (Nat.le_trans hb1.size hb2.size))⟩
   ·have HR:=Ld (show qI s t=_ from iN fun h=>h3 h.2.2);rw[Bool.not_eq_true] at h3;rw[h3] at f3;clear h1 h2 h3;go_enter Tryz.func99,Tryz.ntmps99;go_wp2_with fail;(with_reducible refine mo (f1.out _) fun w1 hb1=>?_);go_wp2_with fail;(with_reducible refine mo (f2.out _) fun w2 hb2=>?_);go_wp2_with fail;(with_reducible refine mo (f3.out _) fun w3 hb3=>?_);go_wp2;go_ret2;rw[HR.out];exact⟨rfl,(bu hb1 hb2).trans (hb3.mono (Nat.le_trans hb1.size hb2.size))⟩
  ·have HR:=Ld (show qI s t=_ from iN fun h=>h2 h.2.1);rw[Bool.not_eq_true] at h2;rw[h1] at f1;rw[h2] at f2;clear h1 h2;go_enter Tryz.func99,Tryz.ntmps99;go_wp2_with fail;(with_reducible refine mo (f1.out _) fun w1 hb1=>?_);go_wp2_with fail;(with_reducible refine mo (f2.out _) fun w2 hb2=>?_);go_wp2;go_ret2;rw[HR.out];exact⟨rfl,hb1.trans (hb2.mono hb1.size)⟩
 ·have HR:=Ld (show qI s t=_ from iN fun h=>h1 h.1);rw[Bool.not_eq_true] at h1;rw[h1] at f1;clear h1;go_enter Tryz.func99,Tryz.ntmps99;go_wp2_with fail;(with_reducible refine mo (f1.out _) fun w1 hb1=>?_);go_wp2;go_ret2;rw[HR.out];exact⟨rfl,hb1⟩
theorem mT(s t:ByteArray)(w:World)(hs:s.size<=maxLen)(ht:t.size<=maxLen) :
  Rt 125 #[.string s,.string t] w (qI s t):=by
 have f1:=Ld fun W=>rE s W hs;have f2:=Ld fun W=>rE t W ht;by_cases h1:zI s.data.toList=true
 ·by_cases h2:zI t.data.toList=true
  ·have l1:s.size<=40:=vZ h1;have l2:t.size<=40:=vZ h2;have hj:=zF0 s t;have f3:=Ld fun W=>rE (s++(⟨#[46]⟩:ByteArray)++t) W (by rw[hj];unfold maxLen;omega);have hz:(s++(⟨#[46]⟩:ByteArray)).size=s.size+1:=(by rw[ByteArray.size_append];rfl);rw[h1] at f1;rw[h2] at f2;by_cases h3:zI (s++(⟨#[46]⟩:ByteArray)++t).data.toList=true
   ·have HR:=Ld (show qI s t=_ from iP ⟨h1,h2,h3⟩);rw[h3] at f3;clear h1 h2 h3;go_enter Tryz.func125,Tryz.ntmps125;go_wp2_with fail;(with_reducible refine mo (f1.out _) fun w1 hb1=>?_);go_wp2_with fail;(with_reducible refine mo (f2.out _) fun w2 hb2=>?_);go_wp2_with fail;(with_reducible refine mo (f3.out _) fun w3 hb3=>?_);go_wp2;go_ret2;rw[HR.out];exact⟨rfl,(bu hb1 hb2).trans (hb3.mono (Nat.le_trans hb1.size hb2.size))⟩
   ·have HR:=Ld (show qI s t=_ from iN fun h=>h3 h.2.2);rw[Bool.not_eq_true] at h3;rw[h3] at f3;clear h1 h2 h3;go_enter Tryz.func125,Tryz.ntmps125;go_wp2_with fail;(with_reducible refine mo (f1.out _) fun w1 hb1=>?_);go_wp2_with fail;(with_reducible refine mo (f2.out _) fun w2 hb2=>?_);go_wp2_with fail;(with_reducible refine mo (f3.out _) fun w3 hb3=>?_);go_wp2;go_ret2;rw[HR.out];exact⟨rfl,(bu hb1 hb2).trans (hb3.mono (Nat.le_trans hb1.size hb2.size))⟩
  ·have HR:=Ld (show qI s t=_ from iN fun h=>h2 h.2.1);rw[Bool.not_eq_true] at h2;rw[h1] at f1;rw[h2] at f2;clear h1 h2;go_enter Tryz.func125,Tryz.ntmps125;go_wp2_with fail;(with_reducible refine mo (f1.out _) fun w1 hb1=>?_);go_wp2_with fail;(with_reducible refine mo (f2.out _) fun w2 hb2=>?_);go_wp2;go_ret2;rw[HR.out];exact⟨rfl,hb1.trans (hb2.mono hb1.size)⟩
 ·have HR:=Ld (show qI s t=_ from iN fun h=>h1 h.1);rw[Bool.not_eq_true] at h1;rw[h1] at f1;clear h1;go_enter Tryz.func125,Tryz.ntmps125;go_wp2_with fail;(with_reducible refine mo (f1.out _) fun w1 hb1=>?_);go_wp2;go_ret2;rw[HR.out];exact⟨rfl,hb1⟩
section
variable {P:Program} {ops:Array Oper} {Q:Exit->Act->World->Prop} {md:Region.Mode} {S S':World->Prop}
theorem heldT(i d:Nat)(v:Value){oi:Oper}{fuel:Nat}{listed:Array Bool}{a:Act}{w:World}(hi:ops[i]?=some oi)(hd:oi.dst=some d)
  (hs:Region.noSelect ops=true) (hf:Region.free md ops listed i=true) (hr:(Region.ready md ops listed).contains i=true)
  (hQ:∀ c a w,Q (.panic c) (a.put (some d) v) w->Q (.panic c) a w) (hw:Region.wanted oi (yielded ops a.tmps)=true) (hS:S w)
  (hrun:∀ w,S w->(execOp a.eval oi).run P w=.ok (.value v) w)
  (h:wpAnyH P md ops Q S fuel (listed.setIfInBounds i true) (a.put (some d) v) w):wpAnyH P md ops Q S (fuel+1) listed a w :=
 wpAnyH_take hi hs hf hr (by rw[hd];exact hQ) (Or.inl ⟨hw,hrun⟩) hS (by rw[hd];exact h)
theorem qT(i d:Nat)(v:Value){oi:Oper}{fuel:Nat}{listed:Array Bool}{a:Act}{w:World}(hS:S w)(hrun:∀ w,S w->(execOp a.eval oi).run P w=.ok (.value v) w)(h:wpAnyH P md ops Q S fuel (listed.setIfInBounds i true) (a.put (some d) v) w)(hi:ops[i]? =some oi:=by exact rfl)(hd:oi.dst=some d:=by exact rfl)(hs:Region.noSelect ops=true:=by kernel_rfl)(hf:Region.free md ops listed i=true:=by kernel_rfl)(hr:(Region.ready md ops listed).contains i=true:=by kernel_rfl)(hQ:∀ c a w,Q (.panic c) (a.put (some d) v) w->Q (.panic c) a w:=by exact fun _ _ _ h=>h)(hw:Region.wanted oi (yielded ops a.tmps)=true:=by rfl) :wpAnyH P md ops Q S (fuel+1) listed a w:=heldT i d v hi hd hs hf hr hQ hw hS hrun h
theorem qU(i d:Nat)(v:Value){oi:Oper}{fuel:Nat}{listed:Array Bool}{a:Act}{w:World}(hS:S w)(h:wpAnyH P md ops Q S fuel (listed.setIfInBounds i true) (a.put (some d) v) w)(hi:ops[i]? =some oi:=by exact rfl)(hd:oi.dst=some d:=by exact rfl)(hs:Region.noSelect ops=true:=by kernel_rfl)(hf:Region.free md ops listed i=true:=by kernel_rfl)(hr:(Region.ready md ops listed).contains i=true:=by kernel_rfl)(hQ:∀ c a w,Q (.panic c) (a.put (some d) v) w->Q (.panic c) a w:=by exact fun _ _ _ h=>h)(hw:Region.wanted oi (yielded ops a.tmps)=true:=by rfl)(hrun:∀ w,S w->(execOp a.eval oi).run P w=.ok (.value v) w:=by (intro W hSW;(try dsimp only at hSW);(try obtain⟨hSA,hSB⟩:=hSW);go_simp)) :wpAnyH P md ops Q S (fuel+1) listed a w:=heldT i d v hi hd hs hf hr hQ hw hS hrun h
end
def LeafT (W:World) (B:Nat) (nd:Nd):Tm->Prop
|.var n=>nd.kind=118/\nd.num=n
|.sort l=>nd.kind=115/\nd.text=l
|.const nm ls=>nd.kind=99/\nd.text=nm/\W.ownsRow B 9 1 nd.lv ls.length (ls.map sv)
|_=>False
def cL (W:World) (B:Nat) (ns:List Nd):Nat->Tm->Prop
|k,.var n=>∃ nd,ns[k]?=some nd/\LeafT W B nd (.var n)
|k,.sort l=>∃ nd,ns[k]?=some nd/\LeafT W B nd (.sort l)
|k,.const n ls=>∃ nd,ns[k]?=some nd/\LeafT W B nd (.const n ls)
|k,.app f a=>∃ nd,ns[k]?=some nd/\nd.kind=64/\cL W B ns nd.a f/\cL W B ns nd.b a
|k,.lam d b=>∃ nd,ns[k]?=some nd/\nd.kind=108/\cL W B ns nd.a d/\cL W B ns nd.b b
|k,.pi d b=>∃ nd,ns[k]?=some nd/\nd.kind=112/\cL W B ns nd.a d/\cL W B ns nd.b b
|k,.lett t v b=>∃ nd,ns[k]?=some nd/\nd.kind=116/\cL W B ns nd.a t/\cL W B ns nd.b v/\cL W B ns nd.c b
theorem cL.keep{W W':World}{B:Nat}{ns ns':List Nd}(hk:uV B W W')(he:Ext ns ns'):∀ (t:Tm) (k:Nat),cL W B ns k t->cL W' B ns' k t
|.var _,_,⟨nd,h1,h2⟩=>⟨nd,he _ _ h1,h2⟩
|.sort _,_,⟨nd,h1,h2⟩=>⟨nd,he _ _ h1,h2⟩
|.const _ _,_,⟨nd,h1,h2,h3,h4⟩=>⟨nd,he _ _ h1,h2,h3,hk _ _ _ h4⟩
|.app f a,_,⟨nd,h1,h2,h3,h4⟩=>⟨nd,he _ _ h1,h2,cL.keep hk he f _ h3,cL.keep hk he a _ h4⟩
|.lam f a,_,⟨nd,h1,h2,h3,h4⟩=>⟨nd,he _ _ h1,h2,cL.keep hk he f _ h3,cL.keep hk he a _ h4⟩
|.pi f a,_,⟨nd,h1,h2,h3,h4⟩=>⟨nd,he _ _ h1,h2,cL.keep hk he f _ h3,cL.keep hk he a _ h4⟩
|.lett f a b,_,⟨nd,h1,h2,h3,h4,h5⟩=>⟨nd,he _ _ h1,h2,cL.keep hk he f _ h3,cL.keep hk he a _ h4,cL.keep hk he b _ h5⟩
end Go.Proofs.YtgppcegcpiaocaaGreatDoor
