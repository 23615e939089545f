/- NLe NPartsS GMath AddC TCon HeldW VIn -/
import Derived.Deep.RegionHeld3
import Derived.Test.YtcaahdjhbmmcnaaGreatDoorYA2
import Derived.Test.YtcaahdjhbmmcnaaGreatDoorYA6
import Derived.Test.YtcaahdjhbmmcnaaGreatDoorYV1
import Derived.Test.YtcaahdjhbmmcnaaGreatDoorYA1
import Derived.Test.YtcaahdjhbmmcnaaGreatDoorYBase
set_option maxRecDepth 100000
set_option maxHeartbeats 16000000
set_option linter.unusedSimpArgs false
set_option linter.unusedVariables false
namespace Go.Proofs.YtcaahdjhbmmcnaaGreatDoor
open Go.ChangeShapes Go.WideShapes Go.ChangeAt Go.RowKit
theorem nameOk_le {l:List UInt8} (h:nameOk l=true):l.length<=40:=by
 simp only [nameOk,Bool.and_eq_true,decide_eq_true_eq] at h;exact h.1.1
theorem own_mono {w:World} {base base':Nat} {e:TypeId} {size:Nat} {v:Value} {n:Nat} {xs:List Value} (h:w.ownsRow base e size v n xs) (hb:base'<=base):w.ownsRow base' e size v n xs:=by
 refine ⟨h.1,?_⟩;rcases h.2 with h | ⟨g,cap,cur,h1,h2,h3⟩
 ·exact .inl h
 ·exact .inr ⟨g,cap,cur,h1,Nat.le_trans hb h2,h3⟩
def nparts (l:List UInt8):List (List UInt8):=if nameOk l=true then cutL l else []
theorem specNameParts (s:ByteArray) (w:World) (hs:s.size<=maxLen):Calls Tryz.prog 105 #[.string s] w (LRes (nparts s.data.toList) w):=by
 have f1:=Ld fun W=>specNameOk s W hs;by_cases h1:nameOk s.data.toList=true
 ·have hz:s.size<=40:=nameOk_le h1;have f2:=Ld fun W=>specCut46 s W (by omega);have HR:=Ld (show nparts s.data.toList=_ from iP h1);rw [h1] at f1;clear h1;go_enter Tryz.func105,Tryz.ntmps105;go_wp2_with fail;(with_reducible refine mo (f1.out _) fun w1 hb1=>?_);go_wp2_with fail;(with_reducible refine (f2.out _).mono ?_);rintro e w2 ⟨v2,rfl,ho2,hb2⟩;go_wp2;go_ret;rw [HR.out];exact ⟨_,rfl,own_mono ho2 hb1.size,hb1.trans (hb2.mono hb1.size)⟩
 ·have HR:=Ld (show nparts s.data.toList=_ from iN h1);rw [Bool.not_eq_true] at h1;rw [h1] at f1;clear h1;go_enter Tryz.func105,Tryz.ntmps105;go_wp2_with fail;(with_reducible refine mo (f1.out _) fun w1 hb1=>?_);go_wp2;go_ret;rw [HR.out];exact ⟨_,rfl,World.ownsRow_lit w1 #[] 0 hb1.size (by decide) (by simp),hb1.alloc hb1.size _⟩
end Go.Proofs.YtcaahdjhbmmcnaaGreatDoor
namespace Go.Proofs.YtcaahdjhbmmcnaaGreatDoor
open Go
noncomputable def closedOf (t:List UInt8) (p:Int):Bool:=termOk t && (decide (termOpen t=0) && decide ((paramsIn t:Int)<=p))
def recB:List UInt8:=[114,101,99]
def restOf (nm c:List UInt8):List UInt8:=c.drop (nm.length+1)
def headOk (nm c:List UInt8):Bool:=nameOk c && (decide (nm.length+1 < c.length) && decide (c.take (nm.length+1)=nm ++ [46]))
noncomputable def tailOk (nm:List UInt8) (p:Int) (c:Ct):Bool:=decide ((nparts (restOf nm c.1)).length=1) && (decide (restOf nm c.1≠recB) && closedOf c.2 p)
noncomputable def ctorOk (nm:List UInt8) (p:Int) (c:Ct):Bool:=headOk nm c.1 && tailOk nm p c
open Classical in
noncomputable def ctorsOk (nm:List UInt8) (p:Int) (l:List Ct) (k:Nat):Bool:=decide (∀ (i:Nat) (h:i < l.length),i < k->ctorOk nm p l[i]=true/\∀ (j:Nat) (hj:j < i),l[j].1≠l[i].1)
noncomputable def dataOk (d:Dc):Bool:=decide (d.flags.tmod 2=0) && (decide (d.value=[]) && (decide (d.params < 3) && (decide (termKind d.type=[115]) && (decide (d.ctors.length<=6) && ((nameOk d.name && nameOk (d.name ++ 46 :: recB)) && ctorsOk d.name d.params d.ctors d.ctors.length)))))
noncomputable def declKindOk (d:Dc):Bool :=
 if d.kind=1 then decide (d.flags=0) && (decide (d.value=[]) && decide (d.ctors.length=0))
 else if d.kind=2\/d.kind=3 then decide (d.flags<=1) && (closedOf d.value d.params && decide (d.ctors.length=0))
 else if d.kind=4 then dataOk d else false
noncomputable def declOk (d:Dc):Bool:=nameOk d.name && ((decide (0<=d.params) && decide (d.params<=3)) && ((decide (0<=d.flags) && decide (d.flags<=7)) && (closedOf d.type d.params && declKindOk d)))
noncomputable def recName (d:Dc):List UInt8:=if d.kind=4/\declOk d=true then d.name ++ 46 :: recB else []
noncomputable def namesOf (d:Dc):List (List UInt8):=if declOk d=true then d.name :: (d.ctors.map fun c=>c.1) ++ (if d.kind=4 then [d.name ++ 46 :: recB] else []) else []
theorem ctorsOk_zero (nm:List UInt8) (p:Int) (l:List Ct):ctorsOk nm p l 0=true:=by
 simp [ctorsOk]
theorem ctorsOk_succ {nm:List UInt8} {p:Int} {l:List Ct} {k:Nat} (hk:k < l.length) (h:ctorsOk nm p l k=true) (h1:ctorOk nm p l[k]=true) (h2:∀ (j:Nat) (hj:j < k),l[j].1≠l[k].1):ctorsOk nm p l (k+1)=true:=by
 simp only [ctorsOk,decide_eq_true_eq] at h |-;intro i hi hik;rcases Nat.lt_succ_iff_lt_or_eq.1 hik with h3 | rfl
 ·exact h i hi h3
 ·exact ⟨h1,h2⟩
theorem ctorsOk_bad {nm:List UInt8} {p:Int} {l:List Ct} {k:Nat} (hk:k < l.length) (h1:ctorOk nm p l[k]=false):ctorsOk nm p l l.length=false:=by
 rw [Bool.eq_false_iff];intro h;simp only [ctorsOk,decide_eq_true_eq] at h;rw [(h k hk hk).1] at h1;cases h1
theorem ctorsOk_dup {nm:List UInt8} {p:Int} {l:List Ct} {k j:Nat} (hk:k < l.length) (hj:j < k) (h1:l[j].1=l[k].1):ctorsOk nm p l l.length=false:=by
 rw [Bool.eq_false_iff];intro h;simp only [ctorsOk,decide_eq_true_eq] at h;exact (h k hk hk).2 j hj h1
structure Dc.Small (d:Dc):Prop where
 name:d.name.length<=1048576
 type:d.type.length<=1048576
 value:d.value.length<=1048576
 ctors:d.ctors.length<=1048576
 each:∀ c∈d.ctors,c.1.length<=1048576/\c.2.length<=1048576
theorem Dc.small {d:Dc} (h:d.size<=1048576):d.Small:=by
 unfold Dc.size at h;exact ⟨by omega,by omega,by omega,by omega,fun c hc=>by have:=totC_mem hc;constructor<;>omega⟩
end Go.Proofs.YtcaahdjhbmmcnaaGreatDoor
namespace Go.Proofs.YtcaahdjhbmmcnaaGreatDoor
open Go.ChangeShapes Go.WideShapes Go.ChangeAt Go.RowKit
theorem size_join (s t:ByteArray):(s ++ (⟨#[46]⟩:ByteArray) ++ t).size=s.size+1+t.size:=by
 simp [ByteArray.size_append];rfl
def addRes (s t:ByteArray):Value:=if nameOk s.data.toList=true/\nameOk t.data.toList=true/\nameOk (s ++ (⟨#[46]⟩:ByteArray) ++ t).data.toList=true then .tuple #[.string (s ++ (⟨#[46]⟩:ByteArray) ++ t),.bool true] else .tuple #[.string ⟨#[]⟩,.bool false]
theorem specNameAdd (s t:ByteArray) (w:World) (hs:s.size<=maxLen) (ht:t.size<=maxLen) :
  Rt 103 #[.string s,.string t] w (addRes s t):=by
 have f1:=Ld fun W=>specNameOk s W hs;have f2:=Ld fun W=>specNameOk t W ht;by_cases h1:nameOk s.data.toList=true
 ·by_cases h2:nameOk t.data.toList=true
  ·have l1:s.size<=40:=nameOk_le h1;have l2:t.size<=40:=nameOk_le h2;have hj:=size_join s t;have f3:=Ld fun W=>specNameOk (s ++ (⟨#[46]⟩:ByteArray) ++ t) W (by rw [hj];unfold maxLen;omega);have hz:(s ++ (⟨#[46]⟩:ByteArray)).size=s.size+1:=(by rw [ByteArray.size_append];rfl);rw [h1] at f1;rw [h2] at f2;by_cases h3:nameOk (s ++ (⟨#[46]⟩:ByteArray) ++ t).data.toList=true
   ·have HR:=Ld (show addRes s t=_ from iP ⟨h1,h2,h3⟩);rw [h3] at f3;clear h1 h2 h3;go_enter Tryz.func103,Tryz.ntmps103;go_wp2_with fail;(with_reducible refine mo (f1.out _) fun w1 hb1=>?_);go_wp2_with fail;(with_reducible refine mo (f2.out _) fun w2 hb2=>?_);go_wp2_with fail;(with_reducible refine mo (f3.out _) fun w3 hb3=>?_);go_wp2;go_ret2;rw [HR.out];exact ⟨rfl,(bu hb1 hb2).trans (hb3.mono (Nat.le_trans hb1.size hb2.size))⟩
   ·have HR:=Ld (show addRes s t=_ from iN fun h=>h3 h.2.2);rw [Bool.not_eq_true] at h3;rw [h3] at f3;clear h1 h2 h3;go_enter Tryz.func103,Tryz.ntmps103;go_wp2_with fail;(with_reducible refine mo (f1.out _) fun w1 hb1=>?_);go_wp2_with fail;(with_reducible refine mo (f2.out _) fun w2 hb2=>?_);go_wp2_with fail;(with_reducible refine mo (f3.out _) fun w3 hb3=>?_);go_wp2;go_ret2;rw [HR.out];exact ⟨rfl,(bu hb1 hb2).trans (hb3.mono (Nat.le_trans hb1.size hb2.size))⟩
  ·have HR:=Ld (show addRes s t=_ from iN fun h=>h2 h.2.1);rw [Bool.not_eq_true] at h2;rw [h1] at f1;rw [h2] at f2;clear h1 h2;go_enter Tryz.func103,Tryz.ntmps103;go_wp2_with fail;(with_reducible refine mo (f1.out _) fun w1 hb1=>?_);go_wp2_with fail;(with_reducible refine mo (f2.out _) fun w2 hb2=>?_);go_wp2;go_ret2;rw [HR.out];exact ⟨rfl,hb1.trans (hb2.mono hb1.size)⟩
 ·have HR:=Ld (show addRes s t=_ from iN fun h=>h1 h.1);rw [Bool.not_eq_true] at h1;rw [h1] at f1;clear h1;go_enter Tryz.func103,Tryz.ntmps103;go_wp2_with fail;(with_reducible refine mo (f1.out _) fun w1 hb1=>?_);go_wp2;go_ret2;rw [HR.out];exact ⟨rfl,hb1⟩
theorem implNameAdd (s t:ByteArray) (w:World) (hs:s.size<=maxLen) (ht:t.size<=maxLen) :
  Rt 157 #[.string s,.string t] w (addRes s t):=by
 have f1:=Ld fun W=>implNameOk s W hs;have f2:=Ld fun W=>implNameOk t W ht;by_cases h1:nameOk s.data.toList=true
 ·by_cases h2:nameOk t.data.toList=true
  ·have l1:s.size<=40:=nameOk_le h1;have l2:t.size<=40:=nameOk_le h2;have hj:=size_join s t;have f3:=Ld fun W=>implNameOk (s ++ (⟨#[46]⟩:ByteArray) ++ t) W (by rw [hj];unfold maxLen;omega);have hz:(s ++ (⟨#[46]⟩:ByteArray)).size=s.size+1:=(by rw [ByteArray.size_append];rfl);rw [h1] at f1;rw [h2] at f2;by_cases h3:nameOk (s ++ (⟨#[46]⟩:ByteArray) ++ t).data.toList=true
   ·have HR:=Ld (show addRes s t=_ from iP ⟨h1,h2,h3⟩);rw [h3] at f3;clear h1 h2 h3;go_enter Tryz.func157,Tryz.ntmps157;go_wp2_with fail;(with_reducible refine mo (f1.out _) fun w1 hb1=>?_);go_wp2_with fail;(with_reducible refine mo (f2.out _) fun w2 hb2=>?_);go_wp2_with fail;(with_reducible refine mo (f3.out _) fun w3 hb3=>?_);go_wp2;go_ret2;rw [HR.out];exact ⟨rfl,(bu hb1 hb2).trans (hb3.mono (Nat.le_trans hb1.size hb2.size))⟩
   ·have HR:=Ld (show addRes s t=_ from iN fun h=>h3 h.2.2);rw [Bool.not_eq_true] at h3;rw [h3] at f3;clear h1 h2 h3;go_enter Tryz.func157,Tryz.ntmps157;go_wp2_with fail;(with_reducible refine mo (f1.out _) fun w1 hb1=>?_);go_wp2_with fail;(with_reducible refine mo (f2.out _) fun w2 hb2=>?_);go_wp2_with fail;(with_reducible refine mo (f3.out _) fun w3 hb3=>?_);go_wp2;go_ret2;rw [HR.out];exact ⟨rfl,(bu hb1 hb2).trans (hb3.mono (Nat.le_trans hb1.size hb2.size))⟩
  ·have HR:=Ld (show addRes s t=_ from iN fun h=>h2 h.2.1);rw [Bool.not_eq_true] at h2;rw [h1] at f1;rw [h2] at f2;clear h1 h2;go_enter Tryz.func157,Tryz.ntmps157;go_wp2_with fail;(with_reducible refine mo (f1.out _) fun w1 hb1=>?_);go_wp2_with fail;(with_reducible refine mo (f2.out _) fun w2 hb2=>?_);go_wp2;go_ret2;rw [HR.out];exact ⟨rfl,hb1.trans (hb2.mono hb1.size)⟩
 ·have HR:=Ld (show addRes s t=_ from iN fun h=>h1 h.1);rw [Bool.not_eq_true] at h1;rw [h1] at f1;clear h1;go_enter Tryz.func157,Tryz.ntmps157;go_wp2_with fail;(with_reducible refine mo (f1.out _) fun w1 hb1=>?_);go_wp2;go_ret2;rw [HR.out];exact ⟨rfl,hb1⟩
theorem con_start (n:ByteArray):(⟨#[99]⟩:ByteArray) ++ n ++ ⟨#[59]⟩=⟨(99 :: (n.data.toList ++ 59 :: lvsB [])).toArray⟩:=by
 apply ByteArray.ext;simp [lvsB]
theorem con_step (n:List UInt8) (ls:List (List UInt8)) (k:Nat) (hk:k < ls.length):(⟨(99 :: (n ++ 59 :: lvsB (ls.take k))).toArray⟩:ByteArray) ++ ⟨ls[k].toArray⟩ ++ ⟨#[44]⟩=⟨(99 :: (n ++ 59 :: lvsB (ls.take (k+1)))).toArray⟩:=by
 apply ByteArray.ext;rw [List.take_succ_eq_append_getElem hk,lvsB_append];simp [lvsB]
theorem con_end (n:List UInt8) (ls:List (List UInt8)):(⟨(99 :: (n ++ 59 :: lvsB ls)).toArray⟩:ByteArray) ++ ⟨#[46]⟩=⟨(Tm.const n ls).bytes.toArray⟩:=by
 apply ByteArray.ext;simp [Tm.bytes]
theorem lvsB_take (ls:List (List UInt8)) (k:Nat) (hk:k < ls.length):(lvsB (ls.take k)).length+ls[k].length+1<=(lvsB ls).length:=by
 have h:lvsB ls=lvsB (ls.take (k+1)) ++ lvsB (ls.drop (k+1)):=by rw [← lvsB_append,List.take_append_drop]
 rw [h,List.take_succ_eq_append_getElem hk,lvsB_append];simp [lvsB];omega
theorem specConst (n:ByteArray) {W:World} {b:Nat} {v:Value} {ls:List (List UInt8)} (h:W.ownsRow b 9 1 v ls.length (ls.map sv)) (hl:ls.length<=1000000) (hz:n.size<=10000000) (hzl:(lvsB ls).length<=10000000) :
  Calls Tryz.prog 93 #[.string n,v] W fun e w'=>e=.returned (.string ⟨(Tm.const n.data.toList ls).bytes.toArray⟩)/\w'=W:=by
 obtain ⟨a0,cap,rfl⟩:=own_sliceV h;have H0:=con_start n;have HS:=Ld (con_step n.data.toList ls);have HE:=Ld (con_end n.data.toList ls);have HT:=Ld (lvsB_take ls);have hnl:n.data.toList.length=n.size:=rfl;go_enter Tryz.func93,Tryz.ntmps93;go_wp2;go_loopw [5,6] (fun sv' i wr=>∃ k:Nat,k<=ls.length/\i=.int .i64 k/\sv'=.string ⟨(99 :: (n.data.toList ++ 59 :: lvsB (ls.take k))).toArray⟩/\wr=W) (fun _ i _=>ls.length - (intOf i).toNat)
 case atStart=>exact ⟨0,Nat.zero_le _,rfl,by rw [List.take_zero,← H0],rfl⟩
 case round =>
  obtain ⟨k,hk,rfl,rfl,rfl⟩:=hrel;by_cases hlt:k < ls.length
  ·obtain ⟨g,cap',e0,_,hgl⟩:=h.form (by omega);cases e0;have ex:(ls.map sv)[k]?=some (sv ls[k]):=(by simp [hlt]);have cc:=(h.cellAt k (by omega)).trans ex;unfold sv at cc;have q1:=zn k;have q2:(k:Int) < (ls.length:Int):=(by omega);have HK:=Ld (HS.out k hlt);have hT:=HT.out k hlt;have zs:(⟨(99 :: (n.data.toList ++ 59 :: lvsB (ls.take k))).toArray⟩:ByteArray).size<=20000100:=by
    show (99 :: (n.data.toList ++ 59 :: lvsB (ls.take k))).length<=_;simp only [lC,lA];omega
   have zx:ls[k].length<=10000000:=(by omega);clear hT;generalize ls[k]=x at cc HK zx;generalize (⟨(99 :: (n.data.toList ++ 59 :: lvsB (ls.take k))).toArray⟩:ByteArray)=s at HK zs;clear ex HS HT;go_wp2;go_roundw
   case rel=>exact ⟨k+1,by omega,by go_num,by rw [← HK.out],trivial⟩
   case measure=>simp [intOf];omega
  ·obtain rfl:k=ls.length:=(by omega);rw [List.take_length];have d1:decide ((ls.length:Int) < (ls.length:Int))=false:=dF (by omega);have zs:(⟨(99 :: (n.data.toList ++ 59 :: lvsB ls)).toArray⟩:ByteArray).size<=20000100:=by
    show (99 :: (n.data.toList ++ 59 :: lvsB ls)).length<=_;simp only [lC,lA];omega
   generalize (⟨(99 :: (n.data.toList ++ 59 :: lvsB ls)).toArray⟩:ByteArray)=s at HE zs;clear HS HT;go_wp2;go_ret;rw [← HE.out];exact ⟨rfl,rfl⟩
section
variable {P:Program} {ops:Array Oper} {Q:Exit->Act->World->Prop} {md:Region.Mode} {S:World->Prop}
theorem heldW (i d:Nat) (v:Value) {oi:Oper} {fuel:Nat} {listed:Array Bool} {a:Act} {w:World} (hi:ops[i]?=some oi) (hd:oi.dst=some d)
  (hs:Region.noSelect ops=true) (hf:Region.free md ops listed i=true) (hr:(Region.ready md ops listed).contains i=true)
  (hQ:∀ c a w,Q (.panic c) (a.put (some d) v) w->Q (.panic c) a w) (hw:Region.wanted oi (yielded ops a.tmps)=true) (hS:S w)
  (hrun:∀ w,S w->(execOp a.eval oi).run P w=.ok (.value v) w)
  (h:wpAnyH P md ops Q S fuel (listed.setIfInBounds i true) (a.put (some d) v) w):wpAnyH P md ops Q S (fuel+1) listed a w :=
 wpAnyH_take hi hs hf hr (by rw [hd];exact hQ) (Or.inl ⟨hw,hrun⟩) hS (by rw [hd];exact h)
theorem heldS (i d:Nat) {oi:Oper} {fuel:Nat} {listed:Array Bool} {a:Act} {w:World} (hi:ops[i]?=some oi) (hd:oi.dst=some d)
  (hs:Region.noSelect ops=true) (hf:Region.free md ops listed i=true) (hr:(Region.ready md ops listed).contains i=true)
  (hQ:∀ c a w,Q (.panic c) (a.put (some d) undef) w->Q (.panic c) a w) (hw:Region.wanted oi (yielded ops a.tmps)=false) (hS:S w)
  (h:wpAnyH P md ops Q S fuel (listed.setIfInBounds i true) (a.put (some d) undef) w):wpAnyH P md ops Q S (fuel+1) listed a w :=
 wpAnyH_take hi hs hf hr (by rw [hd];exact hQ) (Or.inr ⟨hw,rfl⟩) hS (by rw [hd];exact h)
theorem qW (i d:Nat) (v:Value) {oi:Oper} {fuel:Nat} {listed:Array Bool} {a:Act} {w:World} (hS:S w) (hrun:∀ w,S w->(execOp a.eval oi).run P w=.ok (.value v) w) (h:wpAnyH P md ops Q S fuel (listed.setIfInBounds i true) (a.put (some d) v) w) (hi:ops[i]? =some oi:=by exact rfl) (hd:oi.dst=some d:=by exact rfl) (hs:Region.noSelect ops=true:=by kernel_rfl) (hf:Region.free md ops listed i=true:=by kernel_rfl) (hr:(Region.ready md ops listed).contains i=true:=by kernel_rfl) (hQ:∀ c a w,Q (.panic c) (a.put (some d) v) w->Q (.panic c) a w:=by exact fun _ _ _ h=>h) (hw:Region.wanted oi (yielded ops a.tmps)=true:=by rfl) :wpAnyH P md ops Q S (fuel+1) listed a w:=heldW i d v hi hd hs hf hr hQ hw hS hrun h
theorem qV (i d:Nat) (v:Value) {oi:Oper} {fuel:Nat} {listed:Array Bool} {a:Act} {w:World} (hS:S w) (h:wpAnyH P md ops Q S fuel (listed.setIfInBounds i true) (a.put (some d) v) w) (hi:ops[i]? =some oi:=by exact rfl) (hd:oi.dst=some d:=by exact rfl) (hs:Region.noSelect ops=true:=by kernel_rfl) (hf:Region.free md ops listed i=true:=by kernel_rfl) (hr:(Region.ready md ops listed).contains i=true:=by kernel_rfl) (hQ:∀ c a w,Q (.panic c) (a.put (some d) v) w->Q (.panic c) a w:=by exact fun _ _ _ h=>h) (hw:Region.wanted oi (yielded ops a.tmps)=true:=by rfl) (hrun:∀ w,S w->(execOp a.eval oi).run P w=.ok (.value v) w:=by (intro W hSW;(try dsimp only at hSW);(try obtain ⟨hSA,hSB⟩:=hSW);go_simp)) :wpAnyH P md ops Q S (fuel+1) listed a w:=heldW i d v hi hd hs hf hr hQ hw hS hrun h
theorem qS (i d:Nat) {oi:Oper} {fuel:Nat} {listed:Array Bool} {a:Act} {w:World} (hS:S w) (h:wpAnyH P md ops Q S fuel (listed.setIfInBounds i true) (a.put (some d) undef) w) (hi:ops[i]? =some oi:=by exact rfl) (hd:oi.dst=some d:=by exact rfl) (hs:Region.noSelect ops=true:=by kernel_rfl) (hf:Region.free md ops listed i=true:=by kernel_rfl) (hr:(Region.ready md ops listed).contains i=true:=by kernel_rfl) (hQ:∀ c a w,Q (.panic c) (a.put (some d) undef) w->Q (.panic c) a w:=by exact fun _ _ _ h=>h) (hw:Region.wanted oi (yielded ops a.tmps)=false:=by rfl) :wpAnyH P md ops Q S (fuel+1) listed a w:=heldS i d hi hd hs hf hr hQ hw hS h
theorem qR (i:Nat){oi:Oper}{fuel:Nat}{listed:Array Bool}{a:Act}{w:World}(h:∀ K':Act->World->Prop,Shut (∀ a w,S w->(S w->wpAnyH P md ops Q S fuel (listed.setIfInBounds i true) a w)->K' a w)->Oper.wp P oi a w K' Q)(ho:ops[i]? =some oi:=by exact rfl)(hr:Region.ready md ops listed=[i]:=by kernel_rfl)(hw:Region.wanted oi (yielded ops a.tmps)=true:=by rfl):wpAnyH P md ops Q S (fuel+1) listed a w:=wpAnyH_ready hr (by simp) (AllReadyH.cons ho (fun K hK=>by rw [if_pos hw];exact h K hK) AllReadyH.nil)
end
theorem specInV (x lo hi:Int) (w:World) :
  Calls Tryz.prog 68 #[.int .i64 x,.int .i64 lo,.int .i64 hi] w fun e w'=>e=.returned (.bool (decide (lo<=x) && decide (x<=hi)))/\w'=w:=by
 by_cases h1:lo<=x
 ·have d1:decide (lo<=x)=true:=dT h1;by_cases h2:x<=hi
  ·have d2:decide (x<=hi)=true:=dT h2;go_enter Tryz.func68,Tryz.ntmps68;go_wp2;go_ret;exact ⟨by simp [d1,d2],rfl⟩
  ·have d2:decide (x<=hi)=false:=dF h2;go_enter Tryz.func68,Tryz.ntmps68;go_wp2;go_ret;exact ⟨by simp [d1,d2],rfl⟩
 ·have d1:decide (lo<=x)=false:=dF h1;go_enter Tryz.func68,Tryz.ntmps68;go_wp2;go_ret;exact ⟨by simp [d1],rfl⟩
end Go.Proofs.YtcaahdjhbmmcnaaGreatDoor
