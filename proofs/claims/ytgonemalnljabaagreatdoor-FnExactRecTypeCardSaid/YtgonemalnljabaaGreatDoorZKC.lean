/- FLvM HMath KTreeP OwnM KPre KPre2 -/
import Derived.Test.YtgonemalnljabaaGreatDoorZF1
import Derived.Test.YtgonemalnljabaaGreatDoorZE2
import Derived.Test.YtgonemalnljabaaGreatDoorZE1
import Derived.Test.YtgonemalnljabaaGreatDoorZV1
import Derived.Test.YtgonemalnljabaaGreatDoorZP1
import Derived.Test.YtgonemalnljabaaGreatDoorZKA
import Derived.Test.YtgonemalnljabaaGreatDoorZP5
import Derived.Test.YtgonemalnljabaaGreatDoorZKB
set_option maxRecDepth 100000
set_option maxHeartbeats 16000000
set_option linter.unusedSimpArgs false
set_option linter.unusedVariables false
namespace Go.Proofs.YtgonemalnljabaaGreatDoor
open Go
namespace Tm
def mapS {σ:Type} (f:σ→Tm→Nat→Tm × σ):Tm→σ→Nat→Tm × σ
|var n,s,b=>f s (var n) b
|sort l,s,b=>f s (sort l) b
|const n ls,s,b=>f s (const n ls) b
|app x y,s,b=>(app (mapS f x s b).1 (mapS f y (mapS f x s b).2 b).1,(mapS f y (mapS f x s b).2 b).2)
|lam x y,s,b=>(lam (mapS f x s b).1 (mapS f y (mapS f x s b).2 (b+1)).1,(mapS f y (mapS f x s b).2 (b+1)).2)
|pi x y,s,b=>(pi (mapS f x s b).1 (mapS f y (mapS f x s b).2 (b+1)).1,(mapS f y (mapS f x s b).2 (b+1)).2)
|lett x y z,s,b=>(lett (mapS f x s b).1 (mapS f y (mapS f x s b).2 b).1 (mapS f z (mapS f y (mapS f x s b).2 b).2 (b+1)).1,(mapS f z (mapS f y (mapS f x s b).2 b).2 (b+1)).2)
def Lv (P:Tm→Nat→Prop):Tm→Nat→Prop
|var n,b=>P (var n) b
|sort l,b=>P (sort l) b
|const n ls,b=>P (const n ls) b
|app x y,b=>Lv P x b∧Lv P y b
|lam x y,b=>Lv P x b∧Lv P y (b+1)
|pi x y,b=>Lv P x b∧Lv P y (b+1)
|lett x y z,b=>Lv P x b∧Lv P y b∧Lv P z (b+1)
def OkLeaf (B:Nat) (t:Tm) (b:Nat):Prop:=b≤B∧((∃ n,n≤999∧t=var n)∨(∃ l,zE l=true∧t=sort l)∨∃ n ls,(const n ls).Ok∧t=const n ls)
theorem ok_lv{B:Nat}:∀ (T:Tm) (b:Nat),T.Ok→b+T.size≤B→T.Lv (OkLeaf B) b
|var n,b,h,hb=>⟨by omega,.inl ⟨n,h,rfl⟩⟩
|sort l,b,h,hb=>⟨by omega,.inr (.inl ⟨l,h,rfl⟩)⟩
|const n ls,b,h,hb=>⟨by omega,.inr (.inr ⟨n,ls,h,rfl⟩)⟩
|app x y,b,h,hb=>by simp only[size] at hb;exact⟨ok_lv x b h.1 (by omega),ok_lv y b h.2 (by omega)⟩
|lam x y,b,h,hb=>by have:=x.size_pos;simp only[size] at hb;exact⟨ok_lv x b h.1 (by omega),ok_lv y (b+1) h.2 (by omega)⟩
|pi x y,b,h,hb=>by have:=x.size_pos;simp only[size] at hb;exact⟨ok_lv x b h.1 (by omega),ok_lv y (b+1) h.2 (by omega)⟩
|lett x y z,b,h,hb=>by have:=x.size_pos;simp only[size] at hb;exact⟨ok_lv x b h.1 (by omega),ok_lv y b h.2.1 (by omega),ok_lv z (b+1) h.2.2 (by omega)⟩
structure Comp (Q:Tm→Prop):Prop where
 app:∀ x y,Q x→Q y→Q (app x y)
 lam:∀ x y,Q x→Q y→Q (lam x y)
 pi:∀ x y,Q x→Q y→Q (pi x y)
 lett:∀ x y z,Q x→Q y→Q z→Q (lett x y z)
def Pre:Tm→Prop
|var _=>True
|sort l=>(46:UInt8)∉l
|const n ls=>(59:UInt8)∉n∧∀ x∈ls,(46:UInt8)∉x∧(44:UInt8)∉x
|app f a=>f.Pre∧a.Pre
|lam f a=>f.Pre∧a.Pre
|pi f a=>f.Pre∧a.Pre
|lett f a b=>f.Pre∧a.Pre∧b.Pre
theorem Ok.pre:∀ {t:Tm},t.Ok→t.Pre
|var _,_=>trivial
|sort _,h=>(level_clean h).1
|const _ _,h=>⟨name_no59 h.1,fun x hx=>level_clean (h.2.2 x hx)⟩
|app _ _,h=>⟨h.1.pre,h.2.pre⟩
|lam _ _,h=>⟨h.1.pre,h.2.pre⟩
|pi _ _,h=>⟨h.1.pre,h.2.pre⟩
|lett _ _ _,h=>⟨h.1.pre,h.2.1.pre,h.2.2.pre⟩
theorem no46:∀ {ls:List (List UInt8)},(∀ x∈ls,(46:UInt8)∉x)→(46:UInt8)∉yV ls
|[],_=>by simp[yV]
|x::r,h=>by
  intro hm
  rw[yV] at hm
  rcases List.mem_append.1 hm with h1|h1
  ·exact h x List.mem_cons_self h1
  rcases List.mem_cons.1 h1 with h2|h2
  ·revert h2;decide
  ·exact no46 (fun y hy=>h y (List.mem_cons_of_mem _ hy)) h2
theorem preUniq:∀ (t u:Tm) (r s:List UInt8),t.Pre→u.Pre→t.bytes++r=u.bytes++s→t=u∧r=s:=by
 intro t
 induction t with
|var n =>
  intro u r s ht hu h
  cases u with
 |var m =>
   simp only[Tm.bytes,List.cons_append,List.append_assoc,List.nil_append] at h
   injection h with _ h
   obtain⟨h1,h2⟩:=span_uniq (digits_no46 n) (digits_no46 m) h
   exact⟨by rw[digits_inj h1],h2⟩
 |_=>simp[Tm.bytes] at h
|sort l =>
  intro u r s ht hu h
  cases u with
 |sort m =>
   simp only[Tm.bytes,List.cons_append,List.append_assoc,List.nil_append] at h
   injection h with _ h
   obtain⟨h1,h2⟩:=span_uniq ht hu h
   exact⟨by rw[h1],h2⟩
 |_=>simp[Tm.bytes] at h
|const n ls =>
  intro u r s ht hu h
  cases u with
 |const m ms =>
   simp only[Tm.bytes,List.cons_append,List.append_assoc,List.nil_append] at h
   injection h with _ h
   obtain⟨h1,h2⟩:=span_uniq ht.1 hu.1 h
   obtain⟨h3,h4⟩:=span_uniq (no46 fun x hx=>(ht.2 x hx).1) (no46 fun x hx=>(hu.2 x hx).1) h2
   exact⟨by rw[h1,lvsB_inj (fun x hx=>(ht.2 x hx).2) (fun x hx=>(hu.2 x hx).2) h3],h4⟩
 |_=>simp[Tm.bytes] at h
|app f a ihf iha =>
  intro u r s ht hu h
  cases u with
 |app g b =>
   simp only[Tm.bytes,List.cons_append,List.append_assoc] at h
   injection h with _ h
   obtain⟨h1,h2⟩:=ihf g _ _ ht.1 hu.1 h
   obtain⟨h3,h4⟩:=iha b _ _ ht.2 hu.2 h2
   exact⟨by rw[h1,h3],h4⟩
 |_=>simp[Tm.bytes] at h
|lam f a ihf iha =>
  intro u r s ht hu h
  cases u with
 |lam g b =>
   simp only[Tm.bytes,List.cons_append,List.append_assoc] at h
   injection h with _ h
   obtain⟨h1,h2⟩:=ihf g _ _ ht.1 hu.1 h
   obtain⟨h3,h4⟩:=iha b _ _ ht.2 hu.2 h2
   exact⟨by rw[h1,h3],h4⟩
 |_=>simp[Tm.bytes] at h
|pi f a ihf iha =>
  intro u r s ht hu h
  cases u with
 |pi g b =>
   simp only[Tm.bytes,List.cons_append,List.append_assoc] at h
   injection h with _ h
   obtain⟨h1,h2⟩:=ihf g _ _ ht.1 hu.1 h
   obtain⟨h3,h4⟩:=iha b _ _ ht.2 hu.2 h2
   exact⟨by rw[h1,h3],h4⟩
 |_=>simp[Tm.bytes] at h
|lett f a c ihf iha ihc =>
  intro u r s ht hu h
  cases u with
 |lett g b d =>
   simp only[Tm.bytes,List.cons_append,List.append_assoc] at h
   injection h with _ h
   obtain⟨h1,h2⟩:=ihf g _ _ ht.1 hu.1 h
   obtain⟨h3,h4⟩:=iha b _ _ ht.2.1 hu.2.1 h2
   obtain⟨h5,h6⟩:=ihc d _ _ ht.2.2 hu.2.2 h4
   exact⟨by rw[h1,h3,h5],h6⟩
 |_=>simp[Tm.bytes] at h
end Tm
theorem termOk_pre{T:Tm}(h:T.Pre):zX T.bytes=true↔T.Ok∧T.bytes.length≤2000:=by
 constructor
 ·intro hk
  cases ht:termOf T.bytes with
 |none=>rw[zX,ht] at hk;cases hk
 |some t =>
   obtain⟨h1,h2,h3⟩:=termOf_is ht
   obtain⟨rfl,_⟩:=Tm.preUniq t T [] [] h1.pre h (by rw[h2])
   exact⟨h1,h3⟩
 ·rintro ⟨h1,h2⟩
  rw[zX,zY ⟨h1,rfl,h2⟩]
  rfl
theorem sayT_nil(T:Tm):(T.Ok∧T.bytes.length≤2000→sayT (some []) T=some T.bytes)∧(¬ (T.Ok∧T.bytes.length≤2000)→sayT (some []) T=none):=by
 constructor
 ·intro h
  rw[sayT_some h.1 (by simpa using h.2)]
  rfl
 ·intro h
  exact sayT_fail (fun k=>h ⟨k.1,by simpa using k.2⟩)
def liftF (a c:Nat):Unit→Tm→Nat→Tm × Unit:=fun _ t b=>(t.lift a (c+b),())
theorem mapS_lift(a c:Nat):∀ (T:Tm) (b:Nat),(T.mapS (liftF a c) () b).1=T.lift a (c+b)
|.var n,b=>rfl
|.sort _,_=>rfl
|.const _ _,_=>rfl
|.app x y,b=>by simp only[Tm.mapS,Tm.lift,mapS_lift a c x b];rw[← mapS_lift a c y b]
|.lam x y,b=>by simp only[Tm.mapS,Tm.lift,mapS_lift a c x b];rw[Nat.add_assoc,← mapS_lift a c y (b+1)]
|.pi x y,b=>by simp only[Tm.mapS,Tm.lift,mapS_lift a c x b];rw[Nat.add_assoc,← mapS_lift a c y (b+1)]
|.lett x y z,b=>by simp only[Tm.mapS,Tm.lift,mapS_lift a c x b];rw[Nat.add_assoc,← mapS_lift a c y b,← mapS_lift a c z (b+1)]
theorem digits_mono:∀ (m n:Nat),n≤m→(Lib.decDigits n).length≤(Lib.decDigits m).length:=by
 intro m
 induction m using Nat.strongRecOn with
|_ m ih =>
  intro n h
  rw[Lib.decDigits_length,Lib.decDigits_length]
  by_cases hm:m<10
  ·rw[Lib.nDigits_small hm,Lib.nDigits_small (by omega)];exact Nat.le_refl _
  ·by_cases hn:n<10
   ·rw[Lib.nDigits_small hn,Lib.nDigits_big hm];omega
   ·have:=ih (m / 10) (by omega) (n / 10) (by omega)
    rw[Lib.decDigits_length,Lib.decDigits_length] at this
    rw[Lib.nDigits_big hm,Lib.nDigits_big hn]
    omega
theorem digits_four{n:Nat}(h:n≤9999):(Lib.decDigits n).length≤4:=by
 have:=digits_mono 9999 n h
 have e:(Lib.decDigits 9999).length=4:=by
  rw[Lib.decDigits_length,Lib.nDigits_big (by decide),Lib.nDigits_big (by decide),Lib.nDigits_big (by decide),Lib.nDigits_small (by decide)]
 omega
theorem digits_pos(n:Nat):1≤(Lib.decDigits n).length:=by
 have:=digits_mono n 0 (Nat.zero_le _)
 rw[Lib.decDigits_length,Lib.nDigits_small (by decide)] at this
 exact this
namespace Tm
theorem lift_len2{a m:Nat}(hm:m+a≤9999):∀ (T:Tm) (c:Nat),T.Lim m→(T.lift a c).bytes.length≤2*T.bytes.length
|var n,c,h=>by
  have h2:n≤m:=h
  have:=digits_four (n:=if c≤n then n+a else n) (by split<;>omega)
  have:=digits_pos n
  simp only[lift,bytes,List.length_cons,List.length_append,List.length_nil];omega
|sort _,_,_=>by simp only[lift];omega
|const _ _,_,_=>by simp only[lift];omega
|app x y,c,h=>by have:=lift_len2 hm x c h.1;have:=lift_len2 hm y c h.2;simp only[lift,bytes,List.length_cons,List.length_append];omega
|lam x y,c,h=>by have:=lift_len2 hm x c h.1;have:=lift_len2 hm y (c+1) h.2;simp only[lift,bytes,List.length_cons,List.length_append];omega
|pi x y,c,h=>by have:=lift_len2 hm x c h.1;have:=lift_len2 hm y (c+1) h.2;simp only[lift,bytes,List.length_cons,List.length_append];omega
|lett x y z,c,h=>by have:=lift_len2 hm x c h.1;have:=lift_len2 hm y c h.2.1;have:=lift_len2 hm z (c+1) h.2.2;simp only[lift,bytes,List.length_cons,List.length_append];omega
theorem lift_pre(a:Nat):∀ (T:Tm) (c:Nat),T.Pre→(T.lift a c).Pre
|var _,_,_=>trivial
|sort _,_,h=>h
|const _ _,_,h=>h
|app x y,c,h=>⟨lift_pre a x c h.1,lift_pre a y c h.2⟩
|lam x y,c,h=>⟨lift_pre a x c h.1,lift_pre a y (c+1) h.2⟩
|pi x y,c,h=>⟨lift_pre a x c h.1,lift_pre a y (c+1) h.2⟩
|lett x y z,c,h=>⟨lift_pre a x c h.1,lift_pre a y c h.2.1,lift_pre a z (c+1) h.2.2⟩
end Tm
def varsT (s:Nat):List Tm:=(List.range s).map fun i=>.var (s - 1 - i)
theorem varsT_bytes(s:Nat):(varsT s).map Tm.bytes=xE s:=by simp[varsT,xE,Function.comp_def]
def callT (n j q s:Nat):Tm:=(Tm.var (n - 1 - j+q+s)).given (varsT s)
def stepT (k n j q:Nat) (dm:Tm):Tm :=
 Tm.arrows (dm.lift (n - j+q) 0).doms (.app (.var (k+n+q+(dm.lift (n - j+q) 0).doms.length)) (callT n j q (dm.lift (n - j+q) 0).doms.length))
theorem varText_eq{n:Nat}(h:n≤999):yO (n:Int)=(Tm.var n).bytes:=by
 unfold yO
 rw[if_pos (by omega)]
 rfl
def zN (k n:Nat):List (Tm × Bool)→Nat→Nat→List Tm→List Tm × Nat
|[],_,q,acc=>(acc,q)
|dm::r,j,q,acc=>if dm.2=true then zN k n r (j+1) (q+1) (acc++[stepT k n j q dm.1]) else zN k n r (j+1) q acc
def argsT (n q:Nat):List Tm:=(List.range n).map fun j=>.var (n - 1 - j+q)
theorem argsT_bytes{n q:Nat}(h:n+q≤999):(argsT n q).map Tm.bytes=yX n q:=by
 simp only[argsT,yX,List.map_map]
 refine List.map_congr_left fun j hj=>?_
 rw[List.mem_range] at hj
 exact(varText_eq (by omega)).symm
def madeT (nm:List UInt8) (lv:List (List UInt8)) (n q:Nat):Tm:=(Tm.const nm lv).given (argsT n q)
def endT (nm:List UInt8) (lv:List (List UInt8)) (k n:Nat) (r:List Tm × Nat):Tm:=Tm.arrows r.1 (.app (.var (k+n+r.2)) (madeT nm lv n r.2))
def minorT (nm:List UInt8) (lv:List (List UInt8)) (k:Nat) (ds:List (Tm × Bool)):Tm:=endT nm lv k ds.length (zN k ds.length ds 0 0 (ds.map Prod.fst))
end Go.Proofs.YtgonemalnljabaaGreatDoor
namespace Go.Proofs.YtgonemalnljabaaGreatDoor
open Go.ChangeShapes Go.WideShapes Go.ChangeAt Go.RowKit
theorem isTm_own{T:Tm}(hT:T.Ok)(hl:T.bytes.length≤2000):IsTm T.bytes T:=⟨hT,rfl,hl⟩
theorem targetOf_own{T:Tm}(hT:T.Ok)(hl:T.bytes.length≤2000):yI T.bytes=T.targ.bytes:=by rw[yI,zY (isTm_own hT hl)]
theorem domainsOf_own{T:Tm}(hT:T.Ok)(hl:T.bytes.length≤2000):zH T.bytes=T.doms.map Tm.bytes:=by rw[zH,zY (isTm_own hT hl)]
theorem termOk_own{T:Tm}(hT:T.Ok)(hl:T.bytes.length≤2000):zX T.bytes=true:=by rw[zX,zY (isTm_own hT hl)];rfl
theorem catB_len(ts:List Tm)(a:Tm)(h:a∈ts):a.bytes.length≤(catB ts).length:=by
 induction ts with
|nil=>cases h
|cons x r ih =>
  have e:catB (x::r)=x.bytes++catB r:=by simp[catB]
  rw[e,List.length_append]
  rcases List.mem_cons.1 h with rfl|h
  ·omega
  ·have:=ih h;omega
theorem givenOf_own{h:Tm}{us:List Tm}(hh:h.Ok)(hu:∀ a∈us,a.Ok)(hl:(h.given us).bytes.length≤2000):yF h.bytes (us.map Tm.bytes)=some (h.given us).bytes:=by
 have hb:=given_bytes us h
 have hz:h.bytes.length+us.length+(catB us).length=(h.given us).bytes.length:=by rw[hb];simp;omega
 have e:(us.map Tm.bytes).flatten=catB us:=rfl
 rw[yF,if_pos]
 ·rw[hb,e,List.length_map]
 ·refine⟨termOk_own hh (by omega),fun a ha=>?_,by rw[e,List.length_map];omega⟩
  obtain⟨x,hx,rfl⟩:=List.mem_map.1 ha
  exact termOk_own (hu x hx) (by have:=catB_len us x hx;omega)
theorem catP_len(ts:List Tm):(catP ts).length=ts.length+(catB ts).length:=by
 induction ts with
|nil=>rfl
|cons x r ih =>
  have e:catB (x::r)=x.bytes++catB r:=by simp[catB]
  have e2:catP (x::r)=112::(x.bytes++catP r):=by simp[catP]
  rw[e,e2]
  simp only[List.length_cons,List.length_append,ih]
  omega
theorem arrowsOf_own{t:Tm}{ds:List Tm}(ht:t.Ok)(hd:∀ a∈ds,a.Ok)(hl:(Tm.arrows ds t).bytes.length≤2000):zS (ds.map Tm.bytes) t.bytes=some (Tm.arrows ds t).bytes:=by
 have hb:=yY ds t
 have hz:t.bytes.length+ds.length+(catB ds).length=(Tm.arrows ds t).bytes.length:=by rw[hb,List.length_append,catP_len];omega
 have e:(ds.map Tm.bytes).flatten=catB ds:=rfl
 have e2:((ds.map Tm.bytes).map fun d=>112::d).flatten=catP ds:=by simp[catP,Function.comp_def]
 rw[zS,if_pos]
 ·rw[hb,e2]
 ·refine⟨termOk_own ht (by omega),fun a ha=>?_,by rw[e,List.length_map];omega⟩
  obtain⟨x,hx,rfl⟩:=List.mem_map.1 ha
  exact termOk_own (hd x hx) (by have:=catB_len ds x hx;omega)
end Go.Proofs.YtgonemalnljabaaGreatDoor
namespace Go.Proofs.YtgonemalnljabaaGreatDoor
open Go
def Tm.Good (t:Tm):Prop:=t.Ok∧t.bytes.length≤2000
theorem good_ok{t:Tm}(h:t.Pre):zX t.bytes=true↔t.Good:=termOk_pre h
theorem say_good{t:Tm}(h:t.Good):sayT (some []) t=some t.bytes:=(sayT_nil t).1 h
theorem say_bad{t:Tm}(h:¬ t.Good):sayT (some []) t=none:=(sayT_nil t).2 h
theorem given_all:∀ (us:List Tm) (h:Tm),(h.given us).Ok↔h.Ok∧∀ a∈us,a.Ok
|[],h=>by simp[Tm.given]
|a::us,h=>by
  have:=given_all us (.app h a)
  show (Tm.given (.app h a) us).Ok↔_
  rw[this]
  constructor
  ·rintro ⟨⟨h1,h2⟩,h3⟩
   exact⟨h1,fun x hx=>(List.mem_cons.1 hx).elim (fun e=>e ▸ h2) (h3 x)⟩
  ·rintro ⟨h1,h2⟩
   exact⟨⟨h1,h2 a List.mem_cons_self⟩,fun x hx=>h2 x (List.mem_cons_of_mem _ hx)⟩
theorem arrows_all:∀ (ds:List Tm) (t:Tm),(Tm.arrows ds t).Ok↔t.Ok∧∀ a∈ds,a.Ok
|[],t=>by simp[Tm.arrows]
|d::ds,t=>by
  have:=arrows_all ds t
  show (d.Ok∧(Tm.arrows ds t).Ok)↔_
  rw[this]
  constructor
  ·rintro ⟨h1,h2,h3⟩
   exact⟨h2,fun x hx=>(List.mem_cons.1 hx).elim (fun e=>e ▸ h1) (h3 x)⟩
  ·rintro ⟨h1,h2⟩
   exact⟨h2 d List.mem_cons_self,h1,fun x hx=>h2 x (List.mem_cons_of_mem _ hx)⟩
theorem given_pre:∀ (us:List Tm) (h:Tm),h.Pre→(∀ a∈us,a.Pre)→(h.given us).Pre
|[],h,k,_=>k
|a::us,h,k,ha=>given_pre us (.app h a) ⟨k,ha a List.mem_cons_self⟩ (fun x hx=>ha x (List.mem_cons_of_mem _ hx))
theorem arrows_pre:∀ (ds:List Tm) (t:Tm),t.Pre→(∀ a∈ds,a.Pre)→(Tm.arrows ds t).Pre
|[],t,k,_=>k
|d::ds,t,k,ha=>⟨ha d List.mem_cons_self,arrows_pre ds t k (fun x hx=>ha x (List.mem_cons_of_mem _ hx))⟩
theorem given_lim{m:Nat}:∀ (us:List Tm) (h:Tm),h.Lim m→(∀ a∈us,a.Lim m)→(h.given us).Lim m
|[],h,k,_=>k
|a::us,h,k,ha=>given_lim us (.app h a) ⟨k,ha a List.mem_cons_self⟩ (fun x hx=>ha x (List.mem_cons_of_mem _ hx))
theorem arrows_lim{m:Nat}:∀ (ds:List Tm) (t:Tm),t.Lim m→(∀ a∈ds,a.Lim m)→(Tm.arrows ds t).Lim m
|[],t,k,_=>k
|d::ds,t,k,ha=>⟨ha d List.mem_cons_self,arrows_lim ds t k (fun x hx=>ha x (List.mem_cons_of_mem _ hx))⟩
theorem given_say{h:Tm}{us:List Tm}(hh:h.Pre)(hu:∀ a∈us,a.Pre):yF h.bytes (us.map Tm.bytes)=sayT (some []) (h.given us):=by
 by_cases hg:(h.given us).Good
 ·have h1:=(given_all us h).1 hg.1
  rw[say_good hg]
  exact givenOf_own h1.1 h1.2 hg.2
 ·rw[say_bad hg,yF,if_neg]
  rintro ⟨k1,k2,k3⟩
  refine hg ⟨(given_all us h).2 ⟨((good_ok hh).1 k1).1,fun a ha=>((good_ok (hu a ha)).1 (k2 _ (List.mem_map_of_mem ha))).1⟩,?_⟩
  rw[given_bytes]
  rw[List.length_map] at k3
  have e:(us.map Tm.bytes).flatten=catB us:=rfl
  rw[e] at k3
  simp only[List.length_append,List.length_replicate]
  omega
theorem arrows_say{t:Tm}{ds:List Tm}(ht:t.Pre)(hd:∀ a∈ds,a.Pre):zS (ds.map Tm.bytes) t.bytes=sayT (some []) (Tm.arrows ds t):=by
 by_cases hg:(Tm.arrows ds t).Good
 ·have h1:=(arrows_all ds t).1 hg.1
  rw[say_good hg]
  exact arrowsOf_own h1.1 h1.2 hg.2
 ·rw[say_bad hg,zS,if_neg]
  rintro ⟨k1,k2,k3⟩
  refine hg ⟨(arrows_all ds t).2 ⟨((good_ok ht).1 k1).1,fun a ha=>((good_ok (hd a ha)).1 (k2 _ (List.mem_map_of_mem ha))).1⟩,?_⟩
  rw[yY]
  rw[List.length_map] at k3
  have e:(ds.map Tm.bytes).flatten=catB ds:=rfl
  rw[e] at k3
  rw[List.length_append,catP_len]
  omega
theorem lift_targ{n:List UInt8}{ls:List (List UInt8)}{a:Nat}:∀ (t:Tm) (c:Nat),t.targ=.const n ls→(t.lift a c).targ=.const n ls
|.var _,c,h=>by cases h
|.sort _,c,h=>by cases h
|.const _ _,c,h=>h
|.app _ _,c,h=>by cases h
|.lam _ _,c,h=>by cases h
|.pi f b,c,h=>lift_targ b (c+1) h
|.lett _ _ _,c,h=>by cases h
theorem arrows_self:∀ (t:Tm),Tm.arrows t.doms t.targ=t
|.var _=>rfl
|.sort _=>rfl
|.const _ _=>rfl
|.app _ _=>rfl
|.lam _ _=>rfl
|.pi f b=>by
  show Tm.pi f (Tm.arrows b.doms b.targ)=_
  rw[arrows_self b]
|.lett _ _ _=>rfl
theorem doms_pre:∀ {t:Tm},t.Pre→∀ a∈t.doms,a.Pre
|.pi f x,k,a,h=>by
  simp only[Tm.doms,List.mem_cons] at h
  exact h.elim (fun e=>e ▸ k.1) (fun h=>doms_pre k.2 a h)
|.var _,_,a,h=>by simp[Tm.doms] at h
|.sort _,_,a,h=>by simp[Tm.doms] at h
|.const _ _,_,a,h=>by simp[Tm.doms] at h
|.lam _ _,_,a,h=>by simp[Tm.doms] at h
|.app _ _,_,a,h=>by simp[Tm.doms] at h
|.lett _ _ _,_,a,h=>by simp[Tm.doms] at h
theorem doms_lim{m:Nat}:∀ {t:Tm},t.Lim m→∀ a∈t.doms,a.Lim m
|.pi f x,k,a,h=>by
  simp only[Tm.doms,List.mem_cons] at h
  exact h.elim (fun e=>e ▸ k.1) (fun h=>doms_lim k.2 a h)
|.var _,_,a,h=>by simp[Tm.doms] at h
|.sort _,_,a,h=>by simp[Tm.doms] at h
|.const _ _,_,a,h=>by simp[Tm.doms] at h
|.lam _ _,_,a,h=>by simp[Tm.doms] at h
|.app _ _,_,a,h=>by simp[Tm.doms] at h
|.lett _ _ _,_,a,h=>by simp[Tm.doms] at h
theorem bytes_three{t:Tm}(h:t.Ok):3≤t.bytes.length:=by
 cases t with
|var n=>have:=digits_pos n;simp[Tm.bytes];omega
|sort l=>have:=List.length_pos_iff.2 (levelOk_ne h);simp[Tm.bytes];omega
|const n ls=>simp[Tm.bytes];omega
|app a b=>have:=bytes_two a;have:=a.bytes_pos;have:=b.bytes_pos;simp[Tm.bytes];omega
|lam a b=>have:=bytes_two a;have:=a.bytes_pos;have:=b.bytes_pos;simp[Tm.bytes];omega
|pi a b=>have:=bytes_two a;have:=a.bytes_pos;have:=b.bytes_pos;simp[Tm.bytes];omega
|lett a b c=>have:=bytes_two a;have:=b.bytes_pos;have:=c.bytes_pos;simp[Tm.bytes];omega
theorem catP_many:∀ (ts:List Tm),(∀ a∈ts,a.Ok)→4*ts.length≤(catP ts).length
|[],_=>Nat.zero_le _
|a::ts,h=>by
  have h1:=bytes_three (h a List.mem_cons_self)
  have h2:=catP_many ts fun x hx=>h x (List.mem_cons_of_mem _ hx)
  rw[show catP (a::ts)=(112::a.bytes)++catP ts from rfl,List.length_append,List.length_cons,List.length_cons]
  omega
theorem doms_many{t:Tm}(h:t.Ok)(hl:t.bytes.length≤2000):t.doms.length≤499:=by
 have h1:=catP_many t.doms (Tm.doms_ok h)
 have h2:=congrArg List.length (doms_targ t)
 rw[List.length_append] at h2
 have:=t.targ.bytes_pos
 omega
theorem catP_app(a b:List Tm):catP (a++b)=catP a++catP b:=by simp[catP]
theorem lifted_say{dm:Tm}(h:IsTm dm.bytes dm){a:Nat}(ha:a≤999):lifted dm.bytes (a:Int) 0=sayT (some []) (dm.lift a 0):=by
 rw[lifted,zY h]
 simp only
 rw[if_pos (by omega),Int.toNat_natCast]
 rfl
theorem varsT_pre(s:Nat):∀ a∈varsT s,a.Pre:=fun a ha=>by
 obtain⟨i,_,rfl⟩:=List.mem_map.1 ha
 trivial
theorem argsT_pre(n q:Nat):∀ a∈argsT n q,a.Pre:=fun a ha=>by
 obtain⟨i,_,rfl⟩:=List.mem_map.1 ha
 trivial
theorem varText_no{n:Nat}(h:999<n):yO (n:Int)=[]:=by
 unfold yO
 rw[if_neg (by omega)]
theorem termOk_nil:zX []=false:=by
 rw[zX,yT]
 ·rfl
 ·intro t h
  have:=h.2.1
  have h2:=t.bytes_pos
  rw[this] at h2
  simp at h2
theorem givenOf_nil(us:List (List UInt8)):yF [] us=none:=by
 rw[yF,if_neg]
 rintro ⟨h,_⟩
 rw[termOk_nil] at h
 cases h
theorem callT_pre(n j q s:Nat):(callT n j q s).Pre:=given_pre _ _ trivial (varsT_pre s)
theorem stepT_pre{k n j q:Nat}{dm:Tm}(h:dm.Pre):(stepT k n j q dm).Pre:=arrows_pre _ _ ⟨trivial,callT_pre _ _ _ _⟩ (doms_pre (Tm.lift_pre _ _ _ h))
open Classical in
theorem step_say{k n j q:Nat}{dm:Tm}(h:IsTm dm.bytes dm)(ha:n - j+q≤999) :
  stepOf k n j q dm.bytes=if (dm.lift (n - j+q) 0).Good∧(stepT k n j q dm).Good then some (stepT k n j q dm).bytes else none:=by
 have hL:=Tm.lift_pre (n - j+q) dm 0 h.1.pre
 have hdp:=doms_pre hL
 unfold stepOf
 rw[lifted_say h ha]
 by_cases hg:(dm.lift (n - j+q) 0).Good
 ·rw[say_good hg]
  have hdo:zH (dm.lift (n - j+q) 0).bytes=(dm.lift (n - j+q) 0).doms.map Tm.bytes:=domainsOf_own hg.1 hg.2
  simp only[hdo,List.length_map]
  unfold stepT
  generalize (dm.lift (n - j+q) 0).doms=dd at hdp ⊢
  have hb:(Tm.app (.var (k+n+q+dd.length)) (callT n j q dd.length)).Pre:=⟨trivial,callT_pre _ _ _ _⟩
  by_cases hm:n - 1 - j+q+dd.length≤999
  ·rw[varText_eq hm,← varsT_bytes,given_say (h:=.var _) trivial (varsT_pre _)]
   show (match sayT (some []) (callT n j q dd.length) with|none=>none|some arg=>_)=_
   by_cases hc:(callT n j q dd.length).Good
   ·rw[say_good hc]
    show zS (dd.map Tm.bytes) (Tm.app (.var (k+n+q+dd.length)) (callT n j q dd.length)).bytes=_
    rw[arrows_say hb hdp]
    by_cases hs:(Tm.arrows dd (.app (.var (k+n+q+dd.length)) (callT n j q dd.length))).Good
    ·rw[say_good hs,if_pos ⟨hg,hs⟩]
    ·rw[say_bad hs,if_neg (fun hh=>hs hh.2)]
   ·rw[say_bad hc,if_neg]
    rintro ⟨_,h1,h2⟩
    have h3:=((arrows_all _ _).1 h1).1
    refine hc ⟨h3.2,?_⟩
    rw[yY,List.length_append] at h2
    simp only[Tm.bytes,List.length_cons,List.length_append] at h2
    omega
  ·rw[varText_no (by omega),givenOf_nil,if_neg]
   rintro ⟨_,h1,_⟩
   have h3:=((arrows_all _ _).1 h1).1.2
   have h4:n - 1 - j+q+dd.length≤999:=((given_all _ _).1 h3).1
   omega
 ·rw[say_bad hg,if_neg (fun hh=>hg hh.1)]
theorem run_mono{k n:Nat}:∀ (ds:List (Tm × Bool)) (j q:Nat) (acc:List Tm),∃ more,(zN k n ds j q acc).1=acc++more
|[],j,q,acc=>⟨[],by simp[zN]⟩
|(dm,true)::r,j,q,acc=>by
  obtain⟨m,hm⟩:=run_mono (k:=k) (n:=n) r (j+1) (q+1) (acc++[stepT k n j q dm])
  refine⟨stepT k n j q dm::m,?_⟩
  rw[zN,if_pos rfl,hm]
  simp
|(dm,false)::r,j,q,acc=>by
  obtain⟨m,hm⟩:=run_mono (k:=k) (n:=n) r (j+1) q acc
  exact⟨m,by rw[zN,if_neg (by simp),hm]⟩
theorem run_q{k n:Nat}:∀ (ds:List (Tm × Bool)) (j q:Nat) (acc:List Tm),(zN k n ds j q acc).2≤q+ds.length
|[],j,q,acc=>by simp[zN]
|(dm,true)::r,j,q,acc=>by
  have:=run_q (k:=k) (n:=n) r (j+1) (q+1) (acc++[stepT k n j q dm])
  rw[zN,if_pos rfl,List.length_cons]
  simp only
  omega
|(dm,false)::r,j,q,acc=>by
  have:=run_q (k:=k) (n:=n) r (j+1) q acc
  rw[zN,if_neg (by simp),List.length_cons]
  omega
theorem run_pre{k n:Nat}:∀ (ds:List (Tm × Bool)) (j q:Nat) (acc:List Tm),(∀ p∈ds,p.1.Pre)→(∀ a∈acc,a.Pre)→∀ a∈(zN k n ds j q acc).1,a.Pre
|[],j,q,acc,_,ha=>by simpa [zN] using ha
|(dm,true)::r,j,q,acc,hd,ha=>by
  rw[zN,if_pos rfl]
  refine run_pre r (j+1) (q+1) _ (fun p hp=>hd p (List.mem_cons_of_mem _ hp)) fun a h=>?_
  rcases List.mem_append.1 h with h|h
  ·exact ha a h
  ·rw[List.mem_singleton] at h
   rw[h]
   exact stepT_pre (hd (dm,true) List.mem_cons_self)
|(dm,false)::r,j,q,acc,hd,ha=>by
  rw[zN,if_neg (by simp)]
  exact run_pre r (j+1) q _ (fun p hp=>hd p (List.mem_cons_of_mem _ hp)) ha
theorem run_say{k n:Nat}{sh:List UInt8→Int}{cn:List UInt8}{cl:List (List UInt8)}:∀ (ds:List (Tm × Bool)) (j q:Nat) (acc:List Tm),(∀ p∈ds,sh p.1.bytes=if p.2=true then 1 else 0) →
  (∀ p∈ds,p.2=true→p.1.targ=.const cn cl)→(∀ p∈ds,p.1.Good∧p.1∈acc)→n+q+ds.length≤999 →
  yH k n sh (ds.map fun p=>p.1.bytes) j q (acc.map Tm.bytes)=some ((zN k n ds j q acc).1.map Tm.bytes,(zN k n ds j q acc).2) ∨
  (yH k n sh (ds.map fun p=>p.1.bytes) j q (acc.map Tm.bytes)=none∧¬ ((∀ a∈(zN k n ds j q acc).1,a.Ok)∧(catP (zN k n ds j q acc).1).length≤2000))
|[],j,q,acc,_,_,_,_=>.inl (by simp[yH,zN])
|(dm,b)::r,j,q,acc,hs,ht,hg,hz=>by
  have h1:=hs (dm,b) List.mem_cons_self
  have h2:∀ p∈r,sh p.1.bytes=if p.2=true then 1 else 0:=fun p hp=>hs p (List.mem_cons_of_mem _ hp)
  have h3:∀ p∈r,p.2=true→p.1.targ=.const cn cl:=fun p hp=>ht p (List.mem_cons_of_mem _ hp)
  rw[List.length_cons] at hz
  rw[List.map_cons]
  cases b
  ·simp only[Bool.false_eq_true,if_false] at h1
   have ih:=run_say (k:=k) (n:=n) r (j+1) q acc h2 h3 (fun p hp=>hg p (List.mem_cons_of_mem _ hp)) (by omega)
   rw[yH,h1,if_neg (by omega),if_neg (by omega),zN,if_neg (by simp)]
   exact ih
  ·simp only[if_true] at h1
   obtain⟨hdm,hin⟩:=hg (dm,true) List.mem_cons_self
   have ih:=run_say (k:=k) (n:=n) r (j+1) (q+1) (acc++[stepT k n j q dm]) h2 h3 (fun p hp=>⟨(hg p (List.mem_cons_of_mem _ hp)).1,List.mem_append_left _ (hg p (List.mem_cons_of_mem _ hp)).2⟩) (by omega)
   rw[List.map_append,List.map_singleton] at ih
   rw[yH,h1,if_neg (by omega),if_pos rfl,step_say ⟨hdm.1,rfl,hdm.2⟩ (by omega),zN,if_pos rfl]
   by_cases hc:(dm.lift (n - j+q) 0).Good∧(stepT k n j q dm).Good
   ·rw[if_pos hc]
    exact ih
   ·rw[if_neg hc]
    refine .inr ⟨rfl,fun ⟨k1,k2⟩=>hc ?_⟩
    obtain⟨more,hm⟩:=run_mono (k:=k) (n:=n) r (j+1) (q+1) (acc++[stepT k n j q dm])
    rw[hm] at k1 k2
    have hst:(stepT k n j q dm).Ok:=k1 _ (by simp)
    rw[catP_app,catP_app,List.length_append,List.length_append] at k2
    have e1:(catP [stepT k n j q dm]).length=(stepT k n j q dm).bytes.length+1:=by simp[catP]
    have e2:=catP_mem hin
    simp only at e2
    have hT:=ht (dm,true) List.mem_cons_self rfl
    have hLT:=lift_targ (a:=n - j+q) dm 0 hT
    have e3:=doms_targ (dm.lift (n - j+q) 0)
    have e4:=congrArg List.length e3
    rw[List.length_append,hLT] at e4
    have e5:=Tm.targ_len dm
    simp only at hT
    rw[hT] at e5
    have hso:=(arrows_all _ _).1 hst
    have e6:=congrArg List.length (yY (dm.lift (n - j+q) 0).doms (.app (.var (k+n+q+(dm.lift (n - j+q) 0).doms.length)) (callT n j q (dm.lift (n - j+q) 0).doms.length)))
    rw[List.length_append] at e6
    have e7:(stepT k n j q dm).bytes.length=(catP (dm.lift (n - j+q) 0).doms).length+(Tm.app (.var (k+n+q+(dm.lift (n - j+q) 0).doms.length)) (callT n j q (dm.lift (n - j+q) 0).doms.length)).bytes.length:=e6
    refine⟨⟨?_,by omega⟩,hst,by omega⟩
    rw[← arrows_self (dm.lift (n - j+q) 0),hLT]
    have hk:=Tm.targ_ok hdm.1
    rw[hT] at hk
    exact arrows_ok _ _ hk hso.2
theorem minor_say{sh:List UInt8→Int}{cn nm:List UInt8}{cl lv:List (List UInt8)}{d:Dc}{k:Nat}{t:Tm}{ds:List (Tm × Bool)}(ht:IsTm (yN d (k:Int)) t)(hd:t.doms=ds.map Prod.fst)
  (hs:∀ p∈ds,sh p.1.bytes=if p.2=true then 1 else 0) (hT:∀ p∈ds,p.2=true→p.1.targ=.const cn cl) (hn:ctorName d k=nm) (hl:zT d.params.toNat=lv) (hc:(Tm.const nm lv).Ok) (hsh:zP (zJ d) d.name=sh) :
  minorAt d k=sayT (some []) (minorT nm lv k ds):=by
 have e1:zH (yN d (k:Int))=ds.map fun p=>p.1.bytes:=by
  rw[zH,zY ht]
  simp[hd]
 have hle:t.bytes.length≤2000:=by rw[ht.2.1];exact ht.2.2
 have hdl:=doms_many ht.1 hle
 rw[hd,List.length_map] at hdl
 have hmem:∀ p∈ds,p.1∈t.doms:=fun p hp=>by rw[hd];exact List.mem_map_of_mem hp
 have hgd:∀ p∈ds,p.1.Good:=fun p hp=>⟨Tm.doms_ok ht.1 _ (hmem p hp),by
  have h1:=catP_mem (hmem p hp)
  have h2:=congrArg List.length (doms_targ t)
  rw[List.length_append] at h2
  omega⟩
 have e2:=run_say (k:=k) (n:=ds.length) (sh:=sh) ds 0 0 (ds.map Prod.fst) hs hT (fun p hp=>⟨hgd p hp,List.mem_map_of_mem hp⟩) (by omega)
 rw[List.map_map] at e2
 have hq:=run_q (k:=k) (n:=ds.length) ds 0 0 (ds.map Prod.fst)
 have hp:=run_pre (k:=k) (n:=ds.length) ds 0 0 (ds.map Prod.fst) (fun p hp=>(hgd p hp).1.pre) (fun a ha=>by
  obtain⟨p,hp,rfl⟩:=List.mem_map.1 ha
  exact(hgd p hp).1.pre)
 rw[minorAt,e1,List.length_map,hsh]
 rw[show (ds.map fun p=>p.1.bytes)=ds.map (Tm.bytes ∘ Prod.fst) from rfl] at e2 ⊢
 unfold minorT
 generalize zN k ds.length ds 0 0 (ds.map Prod.fst)=r at *
 obtain⟨all,q⟩:=r
 simp only at e2 hq hp
 have hb:(Tm.app (.var (k+ds.length+q)) (madeT nm lv ds.length q)).Pre:=⟨trivial,given_pre _ _ hc.pre (argsT_pre _ _)⟩
 rcases e2 with e2|⟨e2,e3⟩
 ·rw[e2]
  simp only[minorEnd,hn,hl]
  rw[← argsT_bytes (by omega),given_say hc.pre (argsT_pre _ _)]
  show (match sayT (some []) (madeT nm lv ds.length q) with|none=>none|some made=>_)=_
  by_cases hm:(madeT nm lv ds.length q).Good
  ·rw[say_good hm]
   show zS (all.map Tm.bytes) (Tm.app (.var (k+ds.length+q)) (madeT nm lv ds.length q)).bytes=_
   rw[arrows_say hb hp]
   rfl
  ·rw[say_bad hm,say_bad]
   rintro ⟨h1,h2⟩
   have h3:=((arrows_all _ _).1 h1).1
   refine hm ⟨h3.2,?_⟩
   rw[endT,yY,List.length_append] at h2
   simp only[Tm.bytes,List.length_cons,List.length_append] at h2
   omega
 ·rw[e2]
  show none=_
  rw[say_bad]
  rintro ⟨h1,h2⟩
  refine e3 ⟨((arrows_all _ _).1 h1).2,?_⟩
  rw[endT,yY,List.length_append] at h2
  simp only at h2 ⊢
  omega
theorem yZ{a m M:Nat}(h:m+a≤M):∀ (t:Tm) (c:Nat),t.Lim m→(t.lift a c).Lim M
|.var n,c,k=>by
  have h2:n≤m:=k
  show (if c≤n then n+a else n)≤M
  split<;>omega
|.sort _,_,_=>trivial
|.const _ _,_,_=>trivial
|.app x y,c,k=>⟨yZ h x c k.1,yZ h y c k.2⟩
|.lam x y,c,k=>⟨yZ h x c k.1,yZ h y (c+1) k.2⟩
|.pi x y,c,k=>⟨yZ h x c k.1,yZ h y (c+1) k.2⟩
|.lett x y z,c,k=>⟨yZ h x c k.1,yZ h y c k.2.1,yZ h z (c+1) k.2.2⟩
theorem ok_lim:∀ {t:Tm},t.Ok→t.Lim 999
|.var _,h=>h
|.sort _,_=>trivial
|.const _ _,_=>trivial
|.app _ _,h=>⟨ok_lim h.1,ok_lim h.2⟩
|.lam _ _,h=>⟨ok_lim h.1,ok_lim h.2⟩
|.pi _ _,h=>⟨ok_lim h.1,ok_lim h.2⟩
|.lett _ _ _,h=>⟨ok_lim h.1,ok_lim h.2.1,ok_lim h.2.2⟩
theorem lift_doms_len'(a:Nat):∀ (t:Tm) (c:Nat),(t.lift a c).doms.length=t.doms.length
|.var _,_=>rfl
|.sort _,_=>rfl
|.const _ _,_=>rfl
|.app _ _,_=>rfl
|.lam _ _,_=>rfl
|.pi f b,c=>by
  show (b.lift a (c+1)).doms.length+1=b.doms.length+1
  rw[lift_doms_len' a b (c+1)]
|.lett _ _ _,_=>rfl
theorem vars_len{us:List Tm}(h:∀ u∈us,∃ n,n≤9999∧u=.var n):(catB us).length≤6*us.length:=by
 induction us with
|nil=>simp[catB]
|cons u us ih =>
  obtain⟨n,hn,rfl⟩:=h u List.mem_cons_self
  have h1:=ih fun x hx=>h x (List.mem_cons_of_mem _ hx)
  have h2:=digits_four hn
  rw[show catB (Tm.var n::us)=(Tm.var n).bytes++catB us from rfl,List.length_append,List.length_cons]
  simp only[Tm.bytes,List.length_cons,List.length_append,List.length_nil]
  omega
theorem varsT_var{s:Nat}(h:s≤9999):∀ u∈varsT s,∃ n,n≤9999∧u=Tm.var n:=fun u hu=>by
 obtain⟨i,_,rfl⟩:=List.mem_map.1 hu
 exact⟨_,by omega,rfl⟩
theorem argsT_var{n q:Nat}(h:n+q≤9999):∀ u∈argsT n q,∃ n,n≤9999∧u=Tm.var n:=fun u hu=>by
 obtain⟨i,hi,rfl⟩:=List.mem_map.1 hu
 rw[List.mem_range] at hi
 exact⟨_,by omega,rfl⟩
theorem vars_lim{us:List Tm}(h:∀ u∈us,∃ n,n≤9999∧u=.var n):∀ u∈us,u.Lim 9999:=fun u hu=>by
 obtain⟨n,hn,rfl⟩:=h u hu
 exact hn
theorem callT_len{n j q s:Nat}(h:n - 1 - j+q+s≤9999)(hs:s≤499):(callT n j q s).bytes.length≤3499:=by
 have h1:=vars_len (varsT_var (s:=s) (by omega))
 have h2:=digits_four h
 have h3:(varsT s).length=s:=by simp[varsT]
 rw[callT,given_bytes]
 simp only[List.length_append,List.length_replicate,Tm.bytes,List.length_cons,List.length_nil]
 omega
theorem stepT_len{k n j q:Nat}{dm:Tm}(hd:dm.Good)(ha:n - j+q≤999)(hk:k+n+q≤2000):(stepT k n j q dm).Lim 9999∧(stepT k n j q dm).bytes.length≤8000:=by
 have hl:=ok_lim hd.1
 have h1:=yZ (a:=n - j+q) (M:=9999) (by omega) dm 0 hl
 have h2:=Tm.lift_len2 (a:=n - j+q) (by omega) dm 0 hl
 have hs:(dm.lift (n - j+q) 0).doms.length≤499:=by rw[lift_doms_len'];exact doms_many hd.1 hd.2
 have h3:=congrArg List.length (doms_targ (dm.lift (n - j+q) 0))
 rw[List.length_append] at h3
 have hd2:=hd.2
 unfold stepT
 have hdl:=doms_lim h1
 generalize dm.lift (n - j+q) 0=L at *
 have h4:=callT_len (n:=n) (j:=j) (q:=q) (s:=L.doms.length) (by omega) hs
 have h5:=digits_four (n:=k+n+q+L.doms.length) (by omega)
 constructor
 ·exact arrows_lim _ _ ⟨(by show k+n+q+L.doms.length≤9999;omega),given_lim _ _ (by show n - 1 - j+q+L.doms.length≤9999;omega) (vars_lim (varsT_var (by omega)))⟩ hdl
 ·rw[yY,List.length_append]
  simp only[Tm.bytes,List.length_cons,List.length_append,List.length_nil]
  omega
theorem run_lim{k n:Nat}(hk:k≤10):∀ (ds:List (Tm × Bool)) (j q:Nat) (acc:List Tm),(∀ p∈ds,p.1.Good)→n+q+ds.length≤999→(∀ a∈acc,a.Lim 9999) →
  (∀ a∈(zN k n ds j q acc).1,a.Lim 9999)∧(catP (zN k n ds j q acc).1).length≤(catP acc).length+8001*ds.length
|[],j,q,acc,_,_,ha=>by
  rw[zN]
  exact⟨ha,by simp⟩
|(dm,true)::r,j,q,acc,hd,hz,ha=>by
  rw[List.length_cons] at hz
  obtain⟨h1,h2⟩:=stepT_len (k:=k) (n:=n) (j:=j) (q:=q) (hd (dm,true) List.mem_cons_self) (by omega) (by omega)
  obtain⟨h3,h4⟩:=run_lim (n:=n) hk r (j+1) (q+1) (acc++[stepT k n j q dm]) (fun p hp=>hd p (List.mem_cons_of_mem _ hp)) (by omega) (fun a h=>by
   rcases List.mem_append.1 h with h|h
   ·exact ha a h
   ·rw[List.mem_singleton] at h
    rw[h]
    exact h1)
  rw[zN,if_pos rfl]
  refine⟨h3,Nat.le_trans h4 ?_⟩
  rw[catP_app,List.length_append,List.length_cons]
  have e1:(catP [stepT k n j q dm]).length=(stepT k n j q dm).bytes.length+1:=by simp[catP]
  simp only at h2
  omega
|(dm,false)::r,j,q,acc,hd,hz,ha=>by
  rw[List.length_cons] at hz
  obtain⟨h3,h4⟩:=run_lim (n:=n) hk r (j+1) q acc (fun p hp=>hd p (List.mem_cons_of_mem _ hp)) (by omega) ha
  rw[zN,if_neg (by simp)]
  refine⟨h3,Nat.le_trans h4 ?_⟩
  rw[List.length_cons]
  omega
theorem minorT_fit{k:Nat}(hk:k≤10){nm:List UInt8}{lv:List (List UInt8)}{t:Tm}{ds:List (Tm × Bool)}(ht:t.Good)(hd:t.doms=ds.map Prod.fst)(hc:(Tm.const nm lv).Good) :
  (minorT nm lv k ds).Lim 9999∧(minorT nm lv k ds).Pre∧(minorT nm lv k ds).bytes.length≤100000000:=by
 have hdl:=doms_many ht.1 ht.2
 have hmem:∀ p∈ds,p.1∈t.doms:=fun p hp=>by rw[hd];exact List.mem_map_of_mem hp
 have hcp:=congrArg List.length (doms_targ t)
 rw[List.length_append] at hcp
 have hgd:∀ p∈ds,p.1.Good:=fun p hp=>⟨Tm.doms_ok ht.1 _ (hmem p hp),by
  have h1:=catP_mem (hmem p hp)
  have:=ht.2
  omega⟩
 rw[hd,List.length_map] at hdl
 have hq:=run_q (k:=k) (n:=ds.length) ds 0 0 (ds.map Prod.fst)
 have hp:=run_pre (k:=k) (n:=ds.length) ds 0 0 (ds.map Prod.fst) (fun p hp=>(hgd p hp).1.pre) (fun a ha=>by
  obtain⟨p,hp,rfl⟩:=List.mem_map.1 ha
  exact(hgd p hp).1.pre)
 obtain⟨hl,hz⟩:=run_lim (k:=k) (n:=ds.length) hk ds 0 0 (ds.map Prod.fst) hgd (by omega) (fun a ha=>by
  obtain⟨p,hp,rfl⟩:=List.mem_map.1 ha
  exact Tm.Ok.lim9 (hgd p hp).1)
 rw[← hd] at hz
 unfold minorT
 rw[← hd] at hq hp hl ⊢
 generalize zN k ds.length ds 0 0 t.doms=r at *
 obtain⟨all,q⟩:=r
 simp only at hq hp hl hz
 have h5:=digits_four (n:=k+ds.length+q) (by omega)
 have h6:=vars_len (argsT_var (n:=ds.length) (q:=q) (by omega))
 have h7:(argsT ds.length q).length=ds.length:=by simp[argsT]
 have hc2:=hc.2
 have ht2:=ht.2
 refine⟨?_,?_,?_⟩
 ·exact arrows_lim _ _ ⟨(by show k+ds.length+q≤9999;omega),given_lim _ _ trivial (vars_lim (argsT_var (by omega)))⟩ hl
 ·exact arrows_pre _ _ ⟨trivial,given_pre _ _ hc.1.pre (argsT_pre _ _)⟩ hp
 ·rw[endT,madeT,yY,List.length_append]
  simp only[Tm.bytes] at hc2 ⊢
  simp only[List.length_cons,List.length_append,List.length_nil,given_bytes,List.length_replicate,Tm.bytes] at hc2 ⊢
  omega
theorem minorRun_badAny{k n:Nat}{sh:List UInt8→Int}:∀ (l:List (List UInt8)) (j q:Nat) (acc:List (List UInt8)),(∃ x∈l,sh x=2)→yH k n sh l j q acc=none
|[],_,_,_,⟨x,hx,_⟩=>by cases hx
|a::l,j,q,acc,⟨x,hx,h2⟩=>by
  rw[yH]
  by_cases ha:sh a=2
  ·rw[if_pos ha]
  ·rw[if_neg ha]
   have hx':∃ x∈l,sh x=2:=by
    rcases List.mem_cons.1 hx with rfl|hx
    ·exact absurd h2 ha
    ·exact⟨x,hx,h2⟩
   split
   ·split
    ·rfl
    ·exact minorRun_badAny l _ _ _ hx'
   ·exact minorRun_badAny l _ _ _ hx'
theorem minor_none{d:Dc}{k:Nat}(hc:xH d (k:Int)=true)(h:(2:Int)∈yL d (k:Int)):minorAt d k=none:=by
 rw[yL,if_pos hc] at h
 obtain⟨x,hx,h2⟩:=List.mem_map.1 h
 rw[minorAt,minorRun_badAny _ _ _ _ ⟨x,hx,h2⟩]
 rfl
theorem constOk_good{nm:List UInt8}{n:Nat}(h:zK nm=true)(hn:n≤3):(Tm.const nm (zT n)).Good:=by
 have h0:=levelsN_short hn
 have h1:=nameOk_le h
 have hl:∀ x∈zT n,zE x=true:=by
  have h0:Lib.decDigits 0=[48]:=Lib.decDigits_one (by decide)
  have h1:Lib.decDigits 1=[49]:=Lib.decDigits_one (by decide)
  have h2:Lib.decDigits 2=[50]:=Lib.decDigits_one (by decide)
  intro x hx
  obtain⟨i,hi,rfl⟩:=List.mem_map.1 hx
  rw[List.mem_range] at hi
  have e:i=0∨i=1∨i=2:=by omega
  rcases e with rfl|rfl|rfl
  ·rw[h0];simp[zE,lend]
  ·rw[h1];simp[zE,lend]
  ·rw[h2];simp[zE,lend]
 refine⟨⟨h,by rw[levelsN_len];exact hn,hl⟩,?_⟩
 simp only[Tm.bytes,List.length_cons,List.length_append,List.length_nil]
 omega
theorem minor_pack{d:Dc}{k:Nat}(hr:yM d (k:Int)=true)(hb:¬ (2:Int)∈yL d (k:Int)) :
  ∃ (t:Tm) (ds:List (Tm × Bool)),IsTm (yN d (k:Int)) t∧t.doms=ds.map Prod.fst∧yL d (k:Int)=(ds.map fun p=>if p.2=true then (1:Int) else 0) ∧
   minorAt d k=sayT (some []) (minorT (ctorName d k) (zT d.params.toNat) k ds)∧ds.length≤499∧(∀ p∈ds,p.1.Ok∧p.1.bytes.length≤2000)∧(Tm.const (ctorName d k) (zT d.params.toNat)).Good:=by
 have hc:=resultOk_ctor hr
 obtain⟨_,hlt,hdt⟩:=isCtor_lt hc
 have hlt':k<d.ctors.length:=by omega
 simp only[isData,Bool.and_eq_true,decide_eq_true_eq] at hdt
 obtain⟨hk4,hok⟩:=hdt
 have hself:zJ d=(Tm.const d.name (zT d.params.toNat)).bytes:=by rw[zJ,if_pos hok]
 have hpar:=declOk_params hok
 have hnm:zK d.name=true:=by simp only[zZ,Bool.and_eq_true] at hok;exact hok.1
 have hsg:=constOk_good (n:=d.params.toNat) hnm (by omega)
 have hcn:zK (ctorName d k)=true:=by
  rw[ctorName_at hlt']
  simp only[zZ,Bool.and_eq_true,declKindOk,hk4] at hok
  have h1:=hok.2.2.2.2
  rw[if_neg (by omega),if_neg (by omega),if_pos trivial] at h1
  simp only[dataOk,Bool.and_eq_true] at h1
  have h2:=h1.2.2.2.2.2.2
  simp only[yS,decide_eq_true_eq] at h2
  have h3:=(h2 k hlt' hlt').1
  simp only[ctorOk,headOk,Bool.and_eq_true] at h3
  exact h3.1.1
 have hcg:=constOk_good (n:=d.params.toNat) hcn (by omega)
 have hres:yI (yN d (k:Int))=zJ d:=by
  simp only[yM,Bool.and_eq_true,decide_eq_true_eq] at hr
  exact hr.2
 cases hto:termOf (yN d (k:Int)) with
|none =>
  rw[yI,hto,hself] at hres
  have:=congrArg List.length hres
  simp[Tm.bytes] at this
|some t =>
  have ht:=termOf_is hto
  have hle:t.bytes.length≤2000:=by rw[ht.2.1];exact ht.2.2
  have hdo:zH (yN d (k:Int))=t.doms.map Tm.bytes:=by rw[zH,hto]
  have hcp:=congrArg List.length (doms_targ t)
  rw[List.length_append] at hcp
  have hgd:∀ a∈t.doms,a.Good:=fun a ha=>⟨Tm.doms_ok ht.1 _ ha,by
   have h1:=catP_mem ha
   omega⟩
  have hsh:yL d (k:Int)=t.doms.map fun a=>zP (zJ d) d.name a.bytes:=by
   rw[yL,if_pos hc,hdo,List.map_map]
   rfl
  have hne:∀ a∈t.doms,zP (zJ d) d.name a.bytes≠2:=fun a ha e=>hb (by
   rw[hsh]
   exact List.mem_map.2 ⟨a,ha,e⟩)
  have hin:∀ a∈t.doms,zP (zJ d) d.name a.bytes=if (decide (zP (zJ d) d.name a.bytes=1))=true then 1 else 0:=fun a ha=>by
   have h1:=argShape_in (zJ d) d.name a.bytes
   have h2:=hne a ha
   by_cases h3:zP (zJ d) d.name a.bytes=1
   ·rw[if_pos (by simpa using h3)]
    exact h3
   ·rw[if_neg (by simpa using h3)]
    omega
  have hfs:(t.doms.map fun a=>(a,decide (zP (zJ d) d.name a.bytes=1))).map Prod.fst=t.doms:=by
   rw[List.map_map]
   exact List.map_id _
  refine⟨t,t.doms.map fun a=>(a,decide (zP (zJ d) d.name a.bytes=1)),ht,hfs.symm,?_,?_,?_,?_,hcg⟩
  ·rw[hsh,List.map_map]
   refine List.map_congr_left fun a ha=>?_
   exact hin a ha
  ·refine minor_say (sh:=zP (zJ d) d.name) (cn:=d.name) (cl:=zT d.params.toNat) ht hfs.symm ?_ ?_ rfl rfl hcg.1 rfl
   ·intro p hp
    obtain⟨a,ha,rfl⟩:=List.mem_map.1 hp
    exact hin a ha
   ·intro p hp hp2
    obtain⟨a,ha,rfl⟩:=List.mem_map.1 hp
    simp only[decide_eq_true_eq] at hp2
    have hg:=hgd a ha
    have h3:yI a.bytes=zJ d:=by
     unfold zP at hp2
     split at hp2
     ·split at hp2
      ·split at hp2
       ·cases hp2
       ·split at hp2
        ·assumption
        ·cases hp2
      ·cases hp2
     ·cases hp2
    rw[targetOf_own hg.1 hg.2,hself] at h3
    exact(Tm.uniq _ _ [] [] (Tm.targ_ok hg.1) hsg.1 (by rw[h3])).1
  ·rw[List.length_map]
   exact doms_many ht.1 hle
  ·intro p hp
   obtain⟨a,ha,rfl⟩:=List.mem_map.1 hp
   exact hgd a ha
end Go.Proofs.YtgonemalnljabaaGreatDoor
