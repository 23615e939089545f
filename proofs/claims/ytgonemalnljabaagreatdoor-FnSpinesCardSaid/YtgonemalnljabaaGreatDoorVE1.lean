/- InP EMath ENode EKeep SMath SWalks EUses UMath -/
import Derived.Lib.SlicesCompact
import Derived.Laws.AppendOwnNone
import Derived.Sort.Walk0
import Derived.Laws.Cover1
import Derived.Laws.ResultCell
import Derived.Deep.AppendLies
import Derived.Test.YtgonemalnljabaaGreatDoorVA6
import Derived.Test.YtgonemalnljabaaGreatDoorVA1
import Derived.Test.YtgonemalnljabaaGreatDoorVF1
import Derived.Test.YtgonemalnljabaaGreatDoorVA4
import Derived.Test.YtgonemalnljabaaGreatDoorVV1
import Derived.Test.YtgonemalnljabaaGreatDoorVBase
import Derived.Test.YtgonemalnljabaaGreatDoorVG1
import Derived.Test.YtgonemalnljabaaGreatDoorVA2
import Derived.Test.YtgonemalnljabaaGreatDoorVA5
set_option maxRecDepth 100000
set_option maxHeartbeats 16000000
set_option linter.unusedSimpArgs false
set_option linter.unusedVariables false
namespace Go.Proofs.YtgonemalnljabaaGreatDoor
open Go.ChangeShapes Go.WideShapes Go.ChangeAt Go.RowKit
theorem own_nil_or {w:World} {b n:Nat} {v:Value} {xs:List Value} (h:w.ownsRow b 9 1 v n xs) (h0:n=0):∃ a cap,v=.slice a 0 cap:=by
 subst h0
 rcases h.2 with ⟨rfl,_⟩ | ⟨g,cap,cur,rfl,_⟩
 ·exact ⟨_,_,rfl⟩
 ·exact ⟨_,_,rfl⟩
def inL (l:List (List UInt8)) (y:List UInt8):Bool:=decide (y∈l)
end Go.Proofs.YtgonemalnljabaaGreatDoor
namespace Go.Proofs.YtgonemalnljabaaGreatDoor
open Go
namespace Tm
def head:Tm→Tm
 | app f _=>f.head
 | t=>t
def args:Tm→List Tm
 | app f a=>f.args ++ [a]
 | _=>[]
def doms:Tm→List Tm
 | pi d b=>d :: b.doms
 | _=>[]
def targ:Tm→Tm
 | pi _ b=>b.targ
 | t=>t
def cnames:Tm→List (List UInt8)
 | var _=>[]
 | sort _=>[]
 | const n _=>[n]
 | app f a=>f.cnames ++ a.cnames
 | lam f a=>f.cnames ++ a.cnames
 | pi f a=>f.cnames ++ a.cnames
 | lett f a b=>f.cnames ++ a.cnames ++ b.cnames
theorem head_ok:∀ {t:Tm},t.Ok→t.head.Ok
 | var _,h=>h
 | sort _,h=>h
 | const _ _,h=>h
 | app f a,h=>by rw [head];exact head_ok h.1
 | lam _ _,h=>h
 | pi _ _,h=>h
 | lett _ _ _,h=>h
theorem head_len:∀ (t:Tm),t.head.bytes.length≤t.bytes.length
 | var _=>Nat.le_refl _
 | sort _=>Nat.le_refl _
 | const _ _=>Nat.le_refl _
 | app f a=>by have:=head_len f;simp only [head,bytes,List.length_cons,List.length_append];omega
 | lam _ _=>Nat.le_refl _
 | pi _ _=>Nat.le_refl _
 | lett _ _ _=>Nat.le_refl _
theorem targ_ok:∀ {t:Tm},t.Ok→t.targ.Ok
 | var _,h=>h
 | sort _,h=>h
 | const _ _,h=>h
 | pi f a,h=>by rw [targ];exact targ_ok h.2
 | lam _ _,h=>h
 | app _ _,h=>h
 | lett _ _ _,h=>h
theorem targ_len:∀ (t:Tm),t.targ.bytes.length≤t.bytes.length
 | var _=>Nat.le_refl _
 | sort _=>Nat.le_refl _
 | const _ _=>Nat.le_refl _
 | pi f a=>by have:=targ_len a;simp only [targ,bytes,List.length_cons,List.length_append];omega
 | lam _ _=>Nat.le_refl _
 | app _ _=>Nat.le_refl _
 | lett _ _ _=>Nat.le_refl _
theorem args_len:∀ (t:Tm),t.args.length < t.size
 | var _=>by simp [args,size]
 | sort _=>by simp [args,size]
 | const _ _=>by simp [args,size]
 | app f a=>by have:=args_len f;have:=a.size_pos;simp only [args,size,List.length_append,List.length_cons,List.length_nil];omega
 | lam f a=>by have:=f.size_pos;simp [args,size]
 | pi f a=>by have:=f.size_pos;simp [args,size]
 | lett f a b=>by have:=f.size_pos;simp [args,size]
theorem doms_len:∀ (t:Tm),t.doms.length < t.size
 | var _=>by simp [doms,size]
 | sort _=>by simp [doms,size]
 | const _ _=>by simp [doms,size]
 | pi f a=>by have:=doms_len a;have:=f.size_pos;simp only [doms,size,List.length_cons];omega
 | lam f a=>by have:=f.size_pos;simp [doms,size]
 | app f a=>by have:=f.size_pos;simp [doms,size]
 | lett f a b=>by have:=f.size_pos;simp [doms,size]
theorem cnames_len:∀ (t:Tm),t.cnames.length≤t.size
 | var _=>by simp [cnames]
 | sort _=>by simp [cnames]
 | const _ _=>by simp [cnames,size]
 | app f a=>by have:=cnames_len f;have:=cnames_len a;simp only [cnames,size,List.length_append];omega
 | lam f a=>by have:=cnames_len f;have:=cnames_len a;simp only [cnames,size,List.length_append];omega
 | pi f a=>by have:=cnames_len f;have:=cnames_len a;simp only [cnames,size,List.length_append];omega
 | lett f a b=>by have:=cnames_len f;have:=cnames_len a;have:=cnames_len b;simp only [cnames,size,List.length_append];omega
theorem args_ok:∀ {t:Tm},t.Ok→∀ a∈t.args,a.Ok
 | var _,_,a,h=>by simp [args] at h
 | sort _,_,a,h=>by simp [args] at h
 | const _ _,_,a,h=>by simp [args] at h
 | app f x,k,a,h=>by
  simp only [args,List.mem_append,List.mem_cons,List.not_mem_nil,or_false] at h
  exact h.elim (fun h=>args_ok k.1 a h) (fun e=>e ▸ k.2)
 | lam _ _,_,a,h=>by simp [args] at h
 | pi _ _,_,a,h=>by simp [args] at h
 | lett _ _ _,_,a,h=>by simp [args] at h
theorem doms_ok:∀ {t:Tm},t.Ok→∀ a∈t.doms,a.Ok
 | var _,_,a,h=>by simp [doms] at h
 | sort _,_,a,h=>by simp [doms] at h
 | const _ _,_,a,h=>by simp [doms] at h
 | pi f x,k,a,h=>by
  simp only [doms,List.mem_cons] at h
  exact h.elim (fun e=>e ▸ k.1) (fun h=>doms_ok k.2 a h)
 | lam _ _,_,a,h=>by simp [doms] at h
 | app _ _,_,a,h=>by simp [doms] at h
 | lett _ _ _,_,a,h=>by simp [doms] at h
end Tm
def catB (ts:List Tm):List UInt8:=(ts.map Tm.bytes).flatten
def catP (ts:List Tm):List UInt8:=(ts.map fun t=>112 :: t.bytes).flatten
theorem catB_append (a b:List Tm):catB (a ++ b)=catB a ++ catB b:=by simp [catB]
theorem head_args:∀ (t:Tm),t.bytes=List.replicate t.args.length 64 ++ t.head.bytes ++ catB t.args
 | .var _=>by simp [Tm.args,Tm.head,catB]
 | .sort _=>by simp [Tm.args,Tm.head,catB]
 | .const _ _=>by simp [Tm.args,Tm.head,catB]
 | .app f a=>by
  have h:=head_args f
  rw [Tm.args,Tm.head,catB_append,List.length_append,List.length_singleton,List.replicate_succ,Tm.bytes,h]
  simp [catB]
 | .lam _ _=>by simp [Tm.args,Tm.head,catB]
 | .pi _ _=>by simp [Tm.args,Tm.head,catB]
 | .lett _ _ _=>by simp [Tm.args,Tm.head,catB]
theorem doms_targ:∀ (t:Tm),t.bytes=catP t.doms ++ t.targ.bytes
 | .var _=>by simp [Tm.doms,Tm.targ,catP]
 | .sort _=>by simp [Tm.doms,Tm.targ,catP]
 | .const _ _=>by simp [Tm.doms,Tm.targ,catP]
 | .pi f a=>by
  have h:=doms_targ a
  rw [Tm.doms,Tm.targ,Tm.bytes,h]
  simp [catP]
 | .lam _ _=>by simp [Tm.doms,Tm.targ,catP]
 | .app _ _=>by simp [Tm.doms,Tm.targ,catP]
 | .lett _ _ _=>by simp [Tm.doms,Tm.targ,catP]
def Tm.given (h:Tm) (us:List Tm):Tm:=us.foldl Tm.app h
def Tm.arrows (ds:List Tm) (t:Tm):Tm:=ds.foldr Tm.pi t
theorem given_bytes:∀ (us:List Tm) (h:Tm),(h.given us).bytes=List.replicate us.length 64 ++ h.bytes ++ catB us
 | [],h=>by simp [Tm.given,catB]
 | a :: us,h=>by
  have:=given_bytes us (.app h a)
  rw [Tm.given,List.foldl_cons]
  show (Tm.given (.app h a) us).bytes=_
  rw [this,List.length_cons,List.replicate_succ']
  simp [Tm.bytes,catB]
theorem given_ok:∀ (us:List Tm) (h:Tm),h.Ok→(∀ a∈us,a.Ok)→(h.given us).Ok
 | [],h,k,_=>k
 | a :: us,h,k,ha=>given_ok us (.app h a) ⟨k,ha a List.mem_cons_self⟩ (fun x hx=>ha x (List.mem_cons_of_mem _ hx))
theorem given_head:∀ (us:List Tm) (h:Tm),(h.given us).head=h.head
 | [],h=>rfl
 | a :: us,h=>given_head us (.app h a)
theorem given_args:∀ (us:List Tm) (h:Tm),(h.given us).args=h.args ++ us
 | [],h=>by simp [Tm.given]
 | a :: us,h=>by
  have:=given_args us (.app h a)
  show (Tm.given (.app h a) us).args=_
  rw [this,Tm.args]
  simp
theorem given_names:∀ (us:List Tm) (h:Tm) (x:List UInt8),x∈h.cnames→x∈(h.given us).cnames
 | [],h,x,k=>k
 | a :: us,h,x,k=>given_names us (.app h a) x (List.mem_append_left _ k)
theorem arrows_bytes:∀ (ds:List Tm) (t:Tm),(Tm.arrows ds t).bytes=catP ds ++ t.bytes
 | [],t=>by simp [Tm.arrows,catP]
 | d :: ds,t=>by
  have:=arrows_bytes ds t
  show (Tm.pi d (Tm.arrows ds t)).bytes=_
  rw [Tm.bytes,this]
  simp [catP]
theorem arrows_ok:∀ (ds:List Tm) (t:Tm),t.Ok→(∀ a∈ds,a.Ok)→(Tm.arrows ds t).Ok
 | [],t,k,_=>k
 | d :: ds,t,k,ha=>⟨ha d List.mem_cons_self,arrows_ok ds t k (fun x hx=>ha x (List.mem_cons_of_mem _ hx))⟩
theorem arrows_targ:∀ (ds:List Tm) (t:Tm),(Tm.arrows ds t).targ=t.targ
 | [],t=>rfl
 | d :: ds,t=>arrows_targ ds t
theorem arrows_doms:∀ (ds:List Tm) (t:Tm),(Tm.arrows ds t).doms=ds ++ t.doms
 | [],t=>rfl
 | d :: ds,t=>by
  have:=arrows_doms ds t
  show d :: (Tm.arrows ds t).doms=_
  rw [this]
  rfl
noncomputable def headOf (l:List UInt8):List UInt8:=match termOf l with
 | some T=>T.head.bytes
 | none=>[]
noncomputable def argsOf (l:List UInt8):List (List UInt8):=match termOf l with
 | some T=>T.args.map Tm.bytes
 | none=>[]
noncomputable def domainsOf (l:List UInt8):List (List UInt8):=match termOf l with
 | some T=>T.doms.map Tm.bytes
 | none=>[]
noncomputable def targetOf (l:List UInt8):List UInt8:=match termOf l with
 | some T=>T.targ.bytes
 | none=>[]
noncomputable def givenOf (h:List UInt8) (us:List (List UInt8)):Option (List UInt8) :=
 if termOk h=true∧(∀ a∈us,termOk a=true)∧h.length+us.length+us.flatten.length≤2000 then some (List.replicate us.length 64 ++ h ++ us.flatten) else none
noncomputable def arrowsOf (ds:List (List UInt8)) (t:List UInt8):Option (List UInt8) :=
 if termOk t=true∧(∀ a∈ds,termOk a=true)∧t.length+ds.length+ds.flatten.length≤2000 then some ((ds.map fun d=>112 :: d).flatten ++ t) else none
theorem argsOf_len (l:List UInt8):(argsOf l).length≤2000:=by
 unfold argsOf
 cases h:termOf l with
 | none=>exact Nat.zero_le _
 | some t =>
  have h1:=(termOf_is h).2
  have h2:=t.args_len
  have h3:=t.size_le
  show (t.args.map Tm.bytes).length≤2000
  rw [List.length_map]
  rw [← h1.1] at h1
  have:=h1.2
  omega
theorem domainsOf_len (l:List UInt8):(domainsOf l).length≤2000:=by
 unfold domainsOf
 cases h:termOf l with
 | none=>exact Nat.zero_le _
 | some t =>
  have h1:=(termOf_is h).2
  have h2:=t.doms_len
  have h3:=t.size_le
  show (t.doms.map Tm.bytes).length≤2000
  rw [List.length_map]
  rw [← h1.1] at h1
  have:=h1.2
  omega
end Go.Proofs.YtgonemalnljabaaGreatDoor
namespace Go.Proofs.YtgonemalnljabaaGreatDoor
open Go.ChangeShapes Go.WideShapes Go.ChangeAt Go.RowKit
theorem kind_app {u:Tm} (h:u.kind=64):∃ f a,u=.app f a:=by
 cases u with
 | app f a=>exact ⟨f,a,rfl⟩
 | _=>simp [Tm.kind] at h
theorem kind_pi {u:Tm} (h:u.kind=112):∃ f a,u=.pi f a:=by
 cases u with
 | pi f a=>exact ⟨f,a,rfl⟩
 | _=>simp [Tm.kind] at h
theorem not_app {u:Tm} (h:u.kind≠64):u.head=u∧u.args=[]:=by
 cases u with
 | app f a=>exact absurd rfl h
 | _=>exact ⟨rfl,rfl⟩
theorem not_pi {u:Tm} (h:u.kind≠112):u.targ=u∧u.doms=[]:=by
 cases u with
 | pi f a=>exact absurd rfl h
 | _=>exact ⟨rfl,rfl⟩
def KeepA (B:Nat) (W W':World):Prop:=∀ e z v n xs,W.ownsRow B e z v n xs→W'.ownsRow B e z v n xs
theorem KeepA.refl (B:Nat) (W:World):KeepA B W W:=fun _ _ _ _ _ h=>h
theorem KeepA.step {B:Nat} {W wr w2:World} {ob:Option Nat} (h:KeepA B W wr) (hg:wr.grownBy w2 ob) (ha:∀ k,ob=some k→k < B∨W.heap.size≤k):KeepA B W w2:=fun e z v n xs hv=>by
 refine (h e z v n xs hv).kept hg ?_
 rcases hb:v.ownBlock with _ | k
 ·exact .inl rfl
 ·refine .inr fun e=>?_
  have h1:=hv.lt k hb
  have h2:=ha k e.symm
  omega
theorem KeepA.below {B:Nat} {W wr w2:World} (h:KeepA B W wr) (hb:Below wr.heap.size wr w2):KeepA B W w2:=h.step (grownBy_of_below hb none) (fun _ h=>by cases h)
theorem own_baseE {W:World} {b b' z n:Nat} {e:TypeId} {v:Value} {xs:List Value} (h:W.ownsRow b e z v n xs) (hb:b'≤b):W.ownsRow b' e z v n xs:=by
 refine ⟨h.1,?_⟩
 rcases h.2 with h1 | ⟨g,cap,cur,h1,h2,h3⟩
 ·exact .inl h1
 ·exact .inr ⟨g,cap,cur,h1,Nat.le_trans hb h2,h3⟩
end Go.Proofs.YtgonemalnljabaaGreatDoor
namespace Go.Proofs.YtgonemalnljabaaGreatDoor
abbrev BL:=List UInt8
def psh (out:List BL) (s:BL):List BL:=if out.getLast?=some s then out else out ++ [s]
def mrg (a b out:List BL):List BL :=
 match a,b with
 | [],[]=>out
 | x :: a',[]=>mrg a' [] (psh out x)
 | [],y :: b'=>mrg [] b' (psh out y)
 | x :: a',y :: b'=>if x≤y then mrg a' (y :: b') (psh out x) else mrg (x :: a') b' (psh out y)
termination_by a.length+b.length
def srt (l:List BL):List BL :=
 if h:l.length < 2 then l else mrg (srt (l.take (l.length / 2))) (srt (l.drop (l.length / 2))) []
termination_by l.length
decreasing_by
 ·simp;omega
 ·simp;omega
theorem srt_small {l:List BL} (h:l.length < 2):srt l=l:=by rw [srt,dif_pos h]
theorem srt_large {l:List BL} (h:¬ l.length < 2):srt l=mrg (srt (l.take (l.length / 2))) (srt (l.drop (l.length / 2))) []:=by rw [srt,dif_neg h]
theorem psh_len (out:List BL) (s:BL):(psh out s).length≤out.length+1:=by
 unfold psh;split<;>simp
def Asc (l:List BL):Prop:=l.Pairwise (· < ·)
theorem lt_of_le_ne {x y:BL} (h:x≤y) (hne:x≠y):x < y:=by
 by_cases h2:x < y
 ·exact h2
 ·exact absurd (List.le_antisymm h (List.not_lt.1 h2)) hne
theorem lt_of_le_lt {x y z:BL} (h:x≤y) (h2:y < z):x < z:=by
 by_cases e:x=y
 ·rw [e];exact h2
 ·exact List.lt_trans (lt_of_le_ne h e) h2
theorem psh_mem {out:List BL} {s z:BL}:z∈psh out s↔z∈out∨z=s:=by
 unfold psh
 split
 ·rename_i h
  constructor
  ·exact .inl
  ·rintro (h2 | rfl)
   ·exact h2
   ·exact List.mem_of_getLast? h
 ·simp
theorem asc_le_last {out:List BL} {s:BL} (h:Asc out) (hs:out.getLast?=some s):∀ o∈out,o≤s:=by
 intro o ho
 obtain ⟨r,rfl⟩:∃ r,out=r ++ [s]:=List.getLast?_eq_some_iff.1 hs
 rcases List.mem_append.1 ho with h1 | h1
 ·exact List.le_of_lt ((List.pairwise_append.1 h).2.2 o h1 s (by simp))
 ·rw [List.mem_singleton.1 h1];exact List.le_refl _
theorem psh_asc {out:List BL} {s:BL} (h:Asc out) (hle:∀ o∈out,o≤s):Asc (psh out s):=by
 unfold psh
 split
 ·exact h
 ·rename_i hne
  refine List.pairwise_append.2 ⟨h,by simp,fun o ho x hx=>?_⟩
  rw [List.mem_singleton.1 hx]
  refine lt_of_le_ne (hle o ho) ?_
  rintro rfl
  cases hl:out.getLast? with
  | none=>rw [List.getLast?_eq_none_iff.1 hl] at ho;simp at ho
  | some t =>
   have h1:=asc_le_last h hl o ho
   have h2:=hle t (List.mem_of_getLast? hl)
   exact hne (by rw [hl,List.le_antisymm h2 h1])
theorem asc_cons {x:BL} {l:List BL} (h:Asc (x :: l)):Asc l∧∀ y∈l,x < y:=⟨(List.pairwise_cons.1 h).2,(List.pairwise_cons.1 h).1⟩
theorem mrg_spec:∀ (n:Nat) (a b out:List BL),a.length+b.length≤n→Asc a→Asc b→Asc out→(∀ o∈out,(∀ x∈a,o≤x)∧∀ y∈b,o≤y) →
  Asc (mrg a b out)∧∀ z,z∈mrg a b out↔z∈out∨z∈a∨z∈b:=by
 intro n
 induction n with
 | zero =>
  intro a b out hn _ _ ho _
  have h1:a=[]:=List.length_eq_zero_iff.1 (by omega)
  have h2:b=[]:=List.length_eq_zero_iff.1 (by omega)
  subst h1 h2
  rw [mrg]
  exact ⟨ho,by simp⟩
 | succ n ih =>
  intro a b out hn ha hb ho hle
  cases a with
  | nil =>
   cases b with
   | nil=>rw [mrg];exact ⟨ho,by simp⟩
   | cons y b =>
    rw [mrg]
    obtain ⟨hb1,hb2⟩:=asc_cons hb
    obtain ⟨h1,h2⟩:=ih [] b (psh out y) (by simp at hn ⊢;omega) ha hb1 (psh_asc ho fun o h=>(hle o h).2 y (by simp)) (fun o h=>by
     refine ⟨by simp,fun z hz=>?_⟩
     rcases psh_mem.1 h with h | rfl
     ·exact (hle o h).2 z (by simp [hz])
     ·exact List.le_of_lt (hb2 z hz))
    refine ⟨h1,fun z=>?_⟩
    rw [h2,psh_mem]
    simp [or_assoc]
  | cons x a =>
   obtain ⟨ha1,ha2⟩:=asc_cons ha
   cases b with
   | nil =>
    rw [mrg]
    obtain ⟨h1,h2⟩:=ih a [] (psh out x) (by simp at hn ⊢;omega) ha1 hb (psh_asc ho fun o h=>(hle o h).1 x (by simp)) (fun o h=>by
     refine ⟨fun z hz=>?_,by simp⟩
     rcases psh_mem.1 h with h | rfl
     ·exact (hle o h).1 z (by simp [hz])
     ·exact List.le_of_lt (ha2 z hz))
    refine ⟨h1,fun z=>?_⟩
    rw [h2,psh_mem]
    simp [or_assoc]
   | cons y b =>
    obtain ⟨hb1,hb2⟩:=asc_cons hb
    rw [mrg]
    split
    ·rename_i hxy
     obtain ⟨h1,h2⟩:=ih a (y :: b) (psh out x) (by simp at hn ⊢;omega) ha1 hb (psh_asc ho fun o h=>(hle o h).1 x (by simp)) (fun o h=>by
      rcases psh_mem.1 h with h | rfl
      ·exact ⟨fun z hz=>(hle o h).1 z (by simp [hz]),(hle o h).2⟩
      ·refine ⟨fun z hz=>List.le_of_lt (ha2 z hz),fun z hz=>?_⟩
       rcases List.mem_cons.1 hz with rfl | hz
       ·exact hxy
       ·exact List.le_trans hxy (List.le_of_lt (hb2 z hz)))
     refine ⟨h1,fun z=>?_⟩
     rw [h2,psh_mem]
     simp [or_assoc]
    ·rename_i hxy
     have hyx:y≤x:=(List.le_total x y).resolve_left hxy
     obtain ⟨h1,h2⟩:=ih (x :: a) b (psh out y) (by simp at hn ⊢;omega) ha hb1 (psh_asc ho fun o h=>(hle o h).2 y (by simp)) (fun o h=>by
      rcases psh_mem.1 h with h | rfl
      ·exact ⟨(hle o h).1,fun z hz=>(hle o h).2 z (by simp [hz])⟩
      ·refine ⟨fun z hz=>?_,fun z hz=>List.le_of_lt (hb2 z hz)⟩
       rcases List.mem_cons.1 hz with rfl | hz
       ·exact hyx
       ·exact List.le_trans hyx (List.le_of_lt (ha2 z hz)))
     refine ⟨h1,fun z=>?_⟩
     rw [h2,psh_mem]
     simp only [List.mem_cons]
     constructor
     ·rintro ((h | h) | h | h)
      ·exact .inl h
      ·exact .inr (.inr (.inl h))
      ·exact .inr (.inl h)
      ·exact .inr (.inr (.inr h))
     ·rintro (h | h | h | h)
      ·exact .inl (.inl h)
      ·exact .inr (.inl h)
      ·exact .inl (.inr h)
      ·exact .inr (.inr h)
theorem mrg_len:∀ (n:Nat) (a b out:List BL),a.length+b.length≤n→(mrg a b out).length≤out.length+a.length+b.length:=by
 intro n
 induction n with
 | zero =>
  intro a b out hn
  have h1:a=[]:=List.length_eq_zero_iff.1 (by omega)
  have h2:b=[]:=List.length_eq_zero_iff.1 (by omega)
  subst h1 h2
  rw [mrg];simp
 | succ n ih =>
  intro a b out hn
  cases a with
  | nil =>
   cases b with
   | nil=>rw [mrg];simp
   | cons y b =>
    rw [mrg]
    have:=ih [] b (psh out y) (by simp at hn ⊢;omega)
    have:=psh_len out y
    simp at *;omega
  | cons x a =>
   cases b with
   | nil =>
    rw [mrg]
    have:=ih a [] (psh out x) (by simp at hn ⊢;omega)
    have:=psh_len out x
    simp at *;omega
   | cons y b =>
    rw [mrg]
    split
    ·have:=ih a (y :: b) (psh out x) (by simp at hn ⊢;omega)
     have:=psh_len out x
     simp at *;omega
    ·have:=ih (x :: a) b (psh out y) (by simp at hn ⊢;omega)
     have:=psh_len out y
     simp at *;omega
theorem srt_spec:∀ (n:Nat) (l:List BL),l.length≤n→Asc (srt l)∧(∀ z,z∈srt l↔z∈l)∧(srt l).length≤l.length:=by
 intro n
 induction n using Nat.strongRecOn with
 | ind n ih =>
  intro l hl
  by_cases h:l.length < 2
  ·rw [srt_small h]
   refine ⟨?_,fun z=>Iff.rfl,Nat.le_refl _⟩
   match l,h with
   | [],_=>exact List.Pairwise.nil
   | [x],_=>exact List.pairwise_singleton _ _
  ·have e1:(l.take (l.length / 2)).length=l.length / 2:=by simp;omega
   have e2:(l.drop (l.length / 2)).length=l.length - l.length / 2:=by simp
   obtain ⟨a1,a2,a3⟩:=ih (l.length / 2) (by omega) (l.take (l.length / 2)) (by omega)
   obtain ⟨b1,b2,b3⟩:=ih (l.length - l.length / 2) (by omega) (l.drop (l.length / 2)) (by omega)
   rw [srt_large h]
   obtain ⟨m1,m2⟩:=mrg_spec _ _ _ [] (Nat.le_refl _) a1 b1 List.Pairwise.nil (by simp)
   refine ⟨m1,fun z=>?_,?_⟩
   ·rw [m2,a2,b2]
    simp only [List.not_mem_nil,false_or]
    rw [← List.mem_append,List.take_append_drop]
   ·have:=mrg_len _ (srt (l.take (l.length / 2))) (srt (l.drop (l.length / 2))) [] (Nat.le_refl _)
    simp only [List.length_nil] at this
    omega
theorem asc_unique:∀ (a b:List BL),Asc a→Asc b→(∀ z,z∈a↔z∈b)→a=b:=by
 intro a
 induction a with
 | nil =>
  intro b _ _ h
  cases b with
  | nil=>rfl
  | cons y b=>have:=(h y).2 (by simp);simp at this
 | cons x a ih =>
  intro b ha hb h
  cases b with
  | nil=>have:=(h x).1 (by simp);simp at this
  | cons y b =>
   obtain ⟨ha1,ha2⟩:=asc_cons ha
   obtain ⟨hb1,hb2⟩:=asc_cons hb
   have hxy:x=y:=by
    rcases List.mem_cons.1 ((h x).1 (by simp)) with e | hx
    ·exact e
    ·rcases List.mem_cons.1 ((h y).2 (by simp)) with e | hy
     ·exact e.symm
     ·exact absurd (List.lt_trans (ha2 y hy) (hb2 x hx)) (List.lt_irrefl x)
   subst hxy
   rw [ih b ha1 hb1 fun z=>?_]
   constructor
   ·intro hz
    rcases List.mem_cons.1 ((h z).1 (by simp [hz])) with rfl | hz2
    ·exact absurd (ha2 z hz) (List.lt_irrefl z)
    ·exact hz2
   ·intro hz
    rcases List.mem_cons.1 ((h z).2 (by simp [hz])) with rfl | hz2
    ·exact absurd (hb2 z hz) (List.lt_irrefl z)
    ·exact hz2
theorem compact_spec (d:Array BL) (hs:∀ i j,i < j→j < d.size→d[i]!≤d[j]!):∀ m,m≤d.size →
  Asc (Lib.compactUpTo d m)∧(∀ z,z∈Lib.compactUpTo d m↔∃ j,j < m∧d[j]! = z):=by
 intro m
 induction m with
 | zero=>intro _;simp [Lib.compactUpTo,Asc]
 | succ m ih =>
  intro hm
  obtain ⟨h1,h2⟩:=ih (by omega)
  rw [Lib.compactUpTo_succ]
  by_cases hk:Lib.keeps d m=true
  ·rw [if_pos hk]
   constructor
   ·refine List.pairwise_append.2 ⟨h1,by simp,fun o ho x hx=>?_⟩
    rw [List.mem_singleton.1 hx]
    obtain ⟨j,hj,rfl⟩:=(h2 o).1 ho
    have hne:d[m]!≠d[m - 1]!:=by
     simp only [Lib.keeps,decide_eq_true_eq] at hk
     rcases hk with hk | hk
     ·omega
     ·exact hk
    have h3:d[m - 1]! < d[m]!:=lt_of_le_ne (hs (m - 1) m (by omega) (by omega)) (Ne.symm hne)
    by_cases e:j=m - 1
    ·rw [e];exact h3
    ·exact lt_of_le_lt (hs j (m - 1) (by omega) (by omega)) h3
   ·intro z
    rw [List.mem_append,h2,List.mem_singleton]
    constructor
    ·rintro (⟨j,hj,e⟩ | rfl)
     ·exact ⟨j,by omega,e⟩
     ·exact ⟨m,by omega,rfl⟩
    ·rintro ⟨j,hj,rfl⟩
     by_cases e:j=m
     ·exact .inr (by rw [e])
     ·exact .inl ⟨j,by omega,rfl⟩
  ·rw [if_neg hk,List.append_nil]
   refine ⟨h1,fun z=>?_⟩
   rw [h2]
   have hm0:m≠0∧d[m]! = d[m - 1]!:=by
    simp only [Lib.keeps,decide_eq_true_eq,not_or,ne_eq,Decidable.not_not] at hk
    exact hk
   constructor
   ·rintro ⟨j,hj,e⟩;exact ⟨j,by omega,e⟩
   ·rintro ⟨j,hj,e⟩
    by_cases e2:j=m
    ·exact ⟨m - 1,by omega,by rw [← e,e2,hm0.2]⟩
    ·exact ⟨j,by omega,e⟩
theorem compact_srt (l:List BL):Lib.compact (l.mergeSort fun x y=>decide (x≤y))=srt l:=by
 have hp:(l.mergeSort fun x y=>decide (x≤y)).Pairwise (fun a b=>decide (a≤b)=true) :=
  List.pairwise_mergeSort (fun a b c h1 h2=>by simp only [decide_eq_true_eq] at *;exact List.le_trans h1 h2) (fun a b=>by simp only [Bool.or_eq_true,decide_eq_true_eq];exact List.le_total a b) l
 have hmem:∀ z,z∈(l.mergeSort fun x y=>decide (x≤y))↔z∈l:=fun z=>List.mem_mergeSort
 generalize (l.mergeSort fun x y=>decide (x≤y))=s at hp hmem
 obtain ⟨c1,c2⟩:=compact_spec s.toArray (fun i j hij hj=>by
  have hj2:j < s.length:=by simpa using hj
  have hi2:i < s.length:=by omega
  have:=List.pairwise_iff_getElem.1 hp i j hi2 hj2 hij
  simpa [getElem!_pos,hi2,hj2] using this) s.length (by simp)
 obtain ⟨s1,s2,_⟩:=srt_spec l.length l (Nat.le_refl _)
 refine asc_unique _ _ c1 s1 fun z=>?_
 show z∈Lib.compactUpTo s.toArray s.length↔_
 rw [c2,s2,← hmem]
 constructor
 ·rintro ⟨j,hj,rfl⟩
  simp [getElem!_pos,hj]
 ·intro hz
  obtain ⟨j,hj,e⟩:=List.getElem_of_mem hz
  exact ⟨j,hj,by simp [getElem!_pos,hj,e]⟩
end Go.Proofs.YtgonemalnljabaaGreatDoor
namespace Go.Proofs.YtgonemalnljabaaGreatDoor
open Go.ChangeShapes Go.WideShapes Go.ChangeAt Go.RowKit
def View (w:World) (v:Value) (l:List BL):Prop :=
 ∃ b off cap:Nat,v=.slice (some ⟨b,off,none⟩) l.length cap∧l.length≤cap∧cap≤maxLen∧b < w.heap.size∧∀ j (h:j < l.length),w.cell? ⟨b,off+j,none⟩=some (sv l[j])
theorem View.below {w w':World} {v:Value} {l:List BL} (h:View w v l) (hb:Below w.heap.size w w'):View w' v l:=by
 obtain ⟨b,off,cap,h1,h2,h3,h4,h5⟩:=h
 refine ⟨b,off,cap,h1,h2,h3,Nat.lt_of_lt_of_le h4 hb.size,fun j hj=>?_⟩
 rw [hb.cell (p:=⟨b,off+j,none⟩) h4]
 exact h5 j hj
theorem View.take {w:World} {b off cap:Nat} {l:List BL} (h:View w (.slice (some ⟨b,off,none⟩) l.length cap) l) (k:Nat) (hk:k≤l.length):View w (.slice (some ⟨b,off,none⟩) k cap) (l.take k):=by
 obtain ⟨b',off',cap',h1,h2,h3,h4,h5⟩:=h
 simp only [Value.slice.injEq,Option.some.injEq,Addr.mk.injEq,and_true,true_and] at h1
 obtain ⟨⟨rfl,rfl⟩,rfl⟩:=h1
 have e:(l.take k).length=k:=by simp;omega
 refine ⟨b,off,cap,by rw [e],by omega,h3,h4,fun j hj=>?_⟩
 rw [e] at hj
 rw [h5 j (by omega),List.getElem_take]
theorem View.drop {w:World} {b off cap:Nat} {l:List BL} (h:View w (.slice (some ⟨b,off,none⟩) l.length cap) l) (k:Nat) (hk:k≤l.length):View w (.slice (some ⟨b,off+k,none⟩) (l.length - k) (cap - k)) (l.drop k):=by
 obtain ⟨b',off',cap',h1,h2,h3,h4,h5⟩:=h
 simp only [Value.slice.injEq,Option.some.injEq,Addr.mk.injEq,and_true,true_and] at h1
 obtain ⟨⟨rfl,rfl⟩,rfl⟩:=h1
 have e:(l.drop k).length=l.length - k:=by simp
 refine ⟨b,off+k,cap - k,by rw [e],by omega,by omega,h4,fun j hj=>?_⟩
 rw [e] at hj
 rw [Nat.add_assoc,h5 (k+j) (by omega),List.getElem_drop]
theorem own_mono' {w:World} {base base':Nat} {e:TypeId} {size:Nat} {v:Value} {n:Nat} {xs:List Value} (h:w.ownsRow base e size v n xs) (hb:base'≤base):w.ownsRow base' e size v n xs:=by
 refine ⟨h.1,?_⟩
 rcases h.2 with h | ⟨g,cap,cur,h1,h2,h3⟩
 ·exact .inl h
 ·exact .inr ⟨g,cap,cur,h1,Nat.le_trans hb h2,h3⟩
noncomputable def usesIn (l:List UInt8):List (List UInt8):=match termOf l with
 | some T=>srt T.cnames
 | none=>[]
end Go.Proofs.YtgonemalnljabaaGreatDoor
namespace Go.Proofs.YtgonemalnljabaaGreatDoor
inductive Lv where
 | z | par (k:Fin 3) | up (t:Lv) | mx (a b:Lv) | im (a b:Lv)
def Lv.bytes:Lv→List UInt8
 | .z=>[122]
 | .par k=>[117,UInt8.ofNat (48+k.val)]
 | .up t=>43 :: t.bytes
 | .mx a b=>109 :: (a.bytes ++ b.bytes)
 | .im a b=>105 :: (a.bytes ++ b.bytes)
def Lv.val (V:Fin 3→Nat):Lv→Nat
 | .z=>0
 | .par k=>V k
 | .up t=>t.val V+1
 | .mx a b=>max (a.val V) (b.val V)
 | .im a b=>if b.val V=0 then 0 else max (a.val V) (b.val V)
def Lv.ups:Lv→Nat
 | .z=>0
 | .par _=>0
 | .up t=>t.ups+1
 | .mx a b=>a.ups+b.ups
 | .im a b=>a.ups+b.ups
end Go.Proofs.YtgonemalnljabaaGreatDoor
