/- OwnM FLvM HMath -/
import Derived.Test.YtgonemalnljabaaGreatDoorVE1
import Derived.Test.YtgonemalnljabaaGreatDoorVF1
import Derived.Test.YtgonemalnljabaaGreatDoorVE2
import Derived.Test.YtgonemalnljabaaGreatDoorVV1
import Derived.Test.YtgonemalnljabaaGreatDoorVP1
import Derived.Test.YtgonemalnljabaaGreatDoorVKA
set_option maxRecDepth 100000
set_option maxHeartbeats 16000000
set_option linter.unusedSimpArgs false
set_option linter.unusedVariables false
namespace Go.Proofs.YtgonemalnljabaaGreatDoor
open Go.ChangeShapes Go.WideShapes Go.ChangeAt Go.RowKit
theorem isTm_own {T:Tm} (hT:T.Ok) (hl:T.bytes.length≤2000):IsTm T.bytes T:=⟨hT,rfl,hl⟩
theorem headOf_own {T:Tm} (hT:T.Ok) (hl:T.bytes.length≤2000):headOf T.bytes=T.head.bytes:=by rw [headOf,termOf_some (isTm_own hT hl)]
theorem targetOf_own {T:Tm} (hT:T.Ok) (hl:T.bytes.length≤2000):targetOf T.bytes=T.targ.bytes:=by rw [targetOf,termOf_some (isTm_own hT hl)]
theorem argsOf_own {T:Tm} (hT:T.Ok) (hl:T.bytes.length≤2000):argsOf T.bytes=T.args.map Tm.bytes:=by rw [argsOf,termOf_some (isTm_own hT hl)]
theorem domainsOf_own {T:Tm} (hT:T.Ok) (hl:T.bytes.length≤2000):domainsOf T.bytes=T.doms.map Tm.bytes:=by rw [domainsOf,termOf_some (isTm_own hT hl)]
theorem termOk_own {T:Tm} (hT:T.Ok) (hl:T.bytes.length≤2000):termOk T.bytes=true:=by rw [termOk,termOf_some (isTm_own hT hl)];rfl
theorem catB_len (ts:List Tm) (a:Tm) (h:a∈ts):a.bytes.length≤(catB ts).length:=by
 induction ts with
 | nil=>cases h
 | cons x r ih =>
  have e:catB (x :: r)=x.bytes ++ catB r:=by simp [catB]
  rw [e,List.length_append]
  rcases List.mem_cons.1 h with rfl | h
  ·omega
  ·have:=ih h;omega
theorem givenOf_own {h:Tm} {us:List Tm} (hh:h.Ok) (hu:∀ a∈us,a.Ok) (hl:(h.given us).bytes.length≤2000):givenOf h.bytes (us.map Tm.bytes)=some (h.given us).bytes:=by
 have hb:=given_bytes us h
 have hz:h.bytes.length+us.length+(catB us).length=(h.given us).bytes.length:=by rw [hb];simp;omega
 have e:(us.map Tm.bytes).flatten=catB us:=rfl
 rw [givenOf,if_pos]
 ·rw [hb,e,List.length_map]
 ·refine ⟨termOk_own hh (by omega),fun a ha=>?_,by rw [e,List.length_map];omega⟩
  obtain ⟨x,hx,rfl⟩:=List.mem_map.1 ha
  exact termOk_own (hu x hx) (by have:=catB_len us x hx;omega)
theorem catP_len (ts:List Tm):(catP ts).length=ts.length+(catB ts).length:=by
 induction ts with
 | nil=>rfl
 | cons x r ih =>
  have e:catB (x :: r)=x.bytes ++ catB r:=by simp [catB]
  have e2:catP (x :: r)=112 :: (x.bytes ++ catP r):=by simp [catP]
  rw [e,e2]
  simp only [List.length_cons,List.length_append,ih]
  omega
theorem arrowsOf_own {t:Tm} {ds:List Tm} (ht:t.Ok) (hd:∀ a∈ds,a.Ok) (hl:(Tm.arrows ds t).bytes.length≤2000):arrowsOf (ds.map Tm.bytes) t.bytes=some (Tm.arrows ds t).bytes:=by
 have hb:=arrows_bytes ds t
 have hz:t.bytes.length+ds.length+(catB ds).length=(Tm.arrows ds t).bytes.length:=by rw [hb,List.length_append,catP_len];omega
 have e:(ds.map Tm.bytes).flatten=catB ds:=rfl
 have e2:((ds.map Tm.bytes).map fun d=>112 :: d).flatten=catP ds:=by simp [catP,Function.comp_def]
 rw [arrowsOf,if_pos]
 ·rw [hb,e2]
 ·refine ⟨termOk_own ht (by omega),fun a ha=>?_,by rw [e,List.length_map];omega⟩
  obtain ⟨x,hx,rfl⟩:=List.mem_map.1 ha
  exact termOk_own (hd x hx) (by have:=catB_len ds x hx;omega)
end Go.Proofs.YtgonemalnljabaaGreatDoor
namespace Go.Proofs.YtgonemalnljabaaGreatDoor
open Go
namespace Tm
def Lv (P:Tm→Nat→Prop):Tm→Nat→Prop
 | var n,b=>P (var n) b
 | sort l,b=>P (sort l) b
 | const n ls,b=>P (const n ls) b
 | app x y,b=>Lv P x b∧Lv P y b
 | lam x y,b=>Lv P x b∧Lv P y (b+1)
 | pi x y,b=>Lv P x b∧Lv P y (b+1)
 | lett x y z,b=>Lv P x b∧Lv P y b∧Lv P z (b+1)
structure Comp (Q:Tm→Prop):Prop where
 app:∀ x y,Q x→Q y→Q (app x y)
 lam:∀ x y,Q x→Q y→Q (lam x y)
 pi:∀ x y,Q x→Q y→Q (pi x y)
 lett:∀ x y z,Q x→Q y→Q z→Q (lett x y z)
def Pre:Tm→Prop
 | var _=>True
 | sort l=>(46:UInt8)∉l
 | const n ls=>(59:UInt8)∉n∧∀ x∈ls,(46:UInt8)∉x∧(44:UInt8)∉x
 | app f a=>f.Pre∧a.Pre
 | lam f a=>f.Pre∧a.Pre
 | pi f a=>f.Pre∧a.Pre
 | lett f a b=>f.Pre∧a.Pre∧b.Pre
theorem Ok.pre:∀ {t:Tm},t.Ok→t.Pre
 | var _,_=>trivial
 | sort _,h=>(level_clean h).1
 | const _ _,h=>⟨name_no59 h.1,fun x hx=>level_clean (h.2.2 x hx)⟩
 | app _ _,h=>⟨h.1.pre,h.2.pre⟩
 | lam _ _,h=>⟨h.1.pre,h.2.pre⟩
 | pi _ _,h=>⟨h.1.pre,h.2.pre⟩
 | lett _ _ _,h=>⟨h.1.pre,h.2.1.pre,h.2.2.pre⟩
theorem no46:∀ {ls:List (List UInt8)},(∀ x∈ls,(46:UInt8)∉x)→(46:UInt8)∉lvsB ls
 | [],_=>by simp [lvsB]
 | x :: r,h=>by
  intro hm
  rw [lvsB] at hm
  rcases List.mem_append.1 hm with h1 | h1
  ·exact h x List.mem_cons_self h1
  rcases List.mem_cons.1 h1 with h2 | h2
  ·revert h2;decide
  ·exact no46 (fun y hy=>h y (List.mem_cons_of_mem _ hy)) h2
theorem preUniq:∀ (t u:Tm) (r s:List UInt8),t.Pre→u.Pre→t.bytes ++ r=u.bytes ++ s→t=u∧r=s:=by
 intro t
 induction t with
 | var n =>
  intro u r s ht hu h
  cases u with
  | var m =>
   simp only [Tm.bytes,List.cons_append,List.append_assoc,List.nil_append] at h
   injection h with _ h
   obtain ⟨h1,h2⟩:=span_uniq (digits_no46 n) (digits_no46 m) h
   exact ⟨by rw [digits_inj h1],h2⟩
  | _=>simp [Tm.bytes] at h
 | sort l =>
  intro u r s ht hu h
  cases u with
  | sort m =>
   simp only [Tm.bytes,List.cons_append,List.append_assoc,List.nil_append] at h
   injection h with _ h
   obtain ⟨h1,h2⟩:=span_uniq ht hu h
   exact ⟨by rw [h1],h2⟩
  | _=>simp [Tm.bytes] at h
 | const n ls =>
  intro u r s ht hu h
  cases u with
  | const m ms =>
   simp only [Tm.bytes,List.cons_append,List.append_assoc,List.nil_append] at h
   injection h with _ h
   obtain ⟨h1,h2⟩:=span_uniq ht.1 hu.1 h
   obtain ⟨h3,h4⟩:=span_uniq (no46 fun x hx=>(ht.2 x hx).1) (no46 fun x hx=>(hu.2 x hx).1) h2
   exact ⟨by rw [h1,lvsB_inj (fun x hx=>(ht.2 x hx).2) (fun x hx=>(hu.2 x hx).2) h3],h4⟩
  | _=>simp [Tm.bytes] at h
 | app f a ihf iha =>
  intro u r s ht hu h
  cases u with
  | app g b =>
   simp only [Tm.bytes,List.cons_append,List.append_assoc] at h
   injection h with _ h
   obtain ⟨h1,h2⟩:=ihf g _ _ ht.1 hu.1 h
   obtain ⟨h3,h4⟩:=iha b _ _ ht.2 hu.2 h2
   exact ⟨by rw [h1,h3],h4⟩
  | _=>simp [Tm.bytes] at h
 | lam f a ihf iha =>
  intro u r s ht hu h
  cases u with
  | lam g b =>
   simp only [Tm.bytes,List.cons_append,List.append_assoc] at h
   injection h with _ h
   obtain ⟨h1,h2⟩:=ihf g _ _ ht.1 hu.1 h
   obtain ⟨h3,h4⟩:=iha b _ _ ht.2 hu.2 h2
   exact ⟨by rw [h1,h3],h4⟩
  | _=>simp [Tm.bytes] at h
 | pi f a ihf iha =>
  intro u r s ht hu h
  cases u with
  | pi g b =>
   simp only [Tm.bytes,List.cons_append,List.append_assoc] at h
   injection h with _ h
   obtain ⟨h1,h2⟩:=ihf g _ _ ht.1 hu.1 h
   obtain ⟨h3,h4⟩:=iha b _ _ ht.2 hu.2 h2
   exact ⟨by rw [h1,h3],h4⟩
  | _=>simp [Tm.bytes] at h
 | lett f a c ihf iha ihc =>
  intro u r s ht hu h
  cases u with
  | lett g b d =>
   simp only [Tm.bytes,List.cons_append,List.append_assoc] at h
   injection h with _ h
   obtain ⟨h1,h2⟩:=ihf g _ _ ht.1 hu.1 h
   obtain ⟨h3,h4⟩:=iha b _ _ ht.2.1 hu.2.1 h2
   obtain ⟨h5,h6⟩:=ihc d _ _ ht.2.2 hu.2.2 h4
   exact ⟨by rw [h1,h3,h5],h6⟩
  | _=>simp [Tm.bytes] at h
end Tm
theorem termOk_pre {T:Tm} (h:T.Pre):termOk T.bytes=true↔T.Ok∧T.bytes.length≤2000:=by
 constructor
 ·intro hk
  cases ht:termOf T.bytes with
  | none=>rw [termOk,ht] at hk;cases hk
  | some t =>
   obtain ⟨h1,h2,h3⟩:=termOf_is ht
   obtain ⟨rfl,_⟩:=Tm.preUniq t T [] [] h1.pre h (by rw [h2])
   exact ⟨h1,h3⟩
 ·rintro ⟨h1,h2⟩
  rw [termOk,termOf_some ⟨h1,rfl,h2⟩]
  rfl
theorem sayT_nil (T:Tm):(T.Ok∧T.bytes.length≤2000→sayT (some []) T=some T.bytes)∧(¬ (T.Ok∧T.bytes.length≤2000)→sayT (some []) T=none):=by
 constructor
 ·intro h
  rw [sayT_some h.1 (by simpa using h.2)]
  rfl
 ·intro h
  exact sayT_fail (fun k=>h ⟨k.1,by simpa using k.2⟩)
namespace Tm
end Tm
end Go.Proofs.YtgonemalnljabaaGreatDoor
