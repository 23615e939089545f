/- EMath ENode EKeep SMath SWalks EUses InP UMath JMath ETarg InS EL4S EDom -/
import Derived.Lib.SlicesCompact
import Derived.Laws.AppendOwnNone
import Derived.Sort.Walk0
import Derived.Laws.Cover1
import Derived.Laws.ResultCell
import Derived.Deep.AppendLies
import Derived.Test.YtcaahdjhbmmcnaaGreatDoorTA1
import Derived.Test.YtcaahdjhbmmcnaaGreatDoorTF1
import Derived.Test.YtcaahdjhbmmcnaaGreatDoorTA4
import Derived.Test.YtcaahdjhbmmcnaaGreatDoorTV1
import Derived.Test.YtcaahdjhbmmcnaaGreatDoorTBase
import Derived.Test.YtcaahdjhbmmcnaaGreatDoorTG1
import Derived.Test.YtcaahdjhbmmcnaaGreatDoorTA2
import Derived.Test.YtcaahdjhbmmcnaaGreatDoorTA5
import Derived.Test.YtcaahdjhbmmcnaaGreatDoorTA6
import Derived.Test.YtcaahdjhbmmcnaaGreatDoorTE2
set_option maxRecDepth 100000
set_option maxHeartbeats 16000000
set_option linter.unusedSimpArgs false
set_option linter.unusedVariables false
namespace Go.Proofs.YtcaahdjhbmmcnaaGreatDoor
open Go
namespace Tm
def args:Tm->List Tm
|app f a=>f.args++[a]
|_=>[]
def doms:Tm->List Tm
|pi d b=>d::b.doms
|_=>[]
def targ:Tm->Tm
|pi _ b=>b.targ
|t=>t
def cnames:Tm->List (List UInt8)
|var _=>[]
|sort _=>[]
|const n _=>[n]
|app f a=>f.cnames++a.cnames
|lam f a=>f.cnames++a.cnames
|pi f a=>f.cnames++a.cnames
|lett f a b=>f.cnames++a.cnames++b.cnames
theorem targ_ok:∀ {t:Tm},t.Ok->t.targ.Ok
|var _,h=>h
|sort _,h=>h
|const _ _,h=>h
|pi f a,h=>by rw[targ];exact targ_ok h.2
|lam _ _,h=>h
|app _ _,h=>h
|lett _ _ _,h=>h
theorem targ_len:∀ (t:Tm),t.targ.bytes.length<=t.bytes.length
|var _=>nR _
|sort _=>nR _
|const _ _=>nR _
|pi f a=>by have:=targ_len a;simp only[targ,bytes,lC,lA];omega
|lam _ _=>nR _
|app _ _=>nR _
|lett _ _ _=>nR _
theorem doms_len:∀ (t:Tm),t.doms.length<t.size
|var _=>by simp[doms,size]
|sort _=>by simp[doms,size]
|const _ _=>by simp[doms,size]
|pi f a=>by have:=doms_len a;have:=f.size_pos;simp only[doms,size,lC];omega
|lam f a=>by have:=f.size_pos;simp[doms,size]
|app f a=>by have:=f.size_pos;simp[doms,size]
|lett f a b=>by have:=f.size_pos;simp[doms,size]
theorem cnames_len:∀ (t:Tm),t.cnames.length<=t.size
|var _=>by simp[cnames]
|sort _=>by simp[cnames]
|const _ _=>by simp[cnames,size]
|app f a=>by have:=cnames_len f;have:=cnames_len a;simp only[cnames,size,lA];omega
|lam f a=>by have:=cnames_len f;have:=cnames_len a;simp only[cnames,size,lA];omega
|pi f a=>by have:=cnames_len f;have:=cnames_len a;simp only[cnames,size,lA];omega
|lett f a b=>by have:=cnames_len f;have:=cnames_len a;have:=cnames_len b;simp only[cnames,size,lA];omega
theorem doms_ok:∀ {t:Tm},t.Ok->∀ a∈t.doms,a.Ok
|var _,_,a,h=>by simp[doms] at h
|sort _,_,a,h=>by simp[doms] at h
|const _ _,_,a,h=>by simp[doms] at h
|pi f x,k,a,h=>by
  simp only[doms,List.mem_cons] at h;exact h.elim (fun e=>e ▸ k.1) (fun h=>doms_ok k.2 a h)
|lam _ _,_,a,h=>by simp[doms] at h
|app _ _,_,a,h=>by simp[doms] at h
|lett _ _ _,_,a,h=>by simp[doms] at h
end Tm
def gV (ts:List Tm):List UInt8:=(ts.map Tm.bytes).flatten
def pR (ts:List Tm):List UInt8:=(ts.map fun t=>112::t.bytes).flatten
theorem tG:∀ (t:Tm),t.bytes=pR t.doms++t.targ.bytes
|.var _=>by simp[Tm.doms,Tm.targ,pR]
|.sort _=>by simp[Tm.doms,Tm.targ,pR]
|.const _ _=>by simp[Tm.doms,Tm.targ,pR]
|.pi f a=>by
  have h:=tG a;rw[Tm.doms,Tm.targ,Tm.bytes,h];simp[pR]
|.lam _ _=>by simp[Tm.doms,Tm.targ,pR]
|.app _ _=>by simp[Tm.doms,Tm.targ,pR]
|.lett _ _ _=>by simp[Tm.doms,Tm.targ,pR]
def Tm.given (h:Tm) (us:List Tm):Tm:=us.foldl Tm.app h
def Tm.arrows (ds:List Tm) (t:Tm):Tm:=ds.foldr Tm.pi t
theorem uP:∀ (us:List Tm) (h:Tm),(h.given us).bytes=List.replicate us.length 64++h.bytes++gV us
|[],h=>by simp[Tm.given,gV]
|a::us,h=>by
  have:=uP us (.app h a);rw[Tm.given,List.foldl_cons];show (Tm.given (.app h a) us).bytes=_;rw[this,lC,List.replicate_succ'];simp[Tm.bytes,gV]
theorem bM:∀ (us:List Tm) (h:Tm),h.Ok->(∀ a∈us,a.Ok)->(h.given us).Ok
|[],h,k,_=>k
|a::us,h,k,ha=>bM us (.app h a) ⟨k,ha a List.mem_cons_self⟩ (fun x hx=>ha x (List.mem_cons_of_mem _ hx))
theorem xI:∀ (ds:List Tm) (t:Tm),(Tm.arrows ds t).bytes=pR ds++t.bytes
|[],t=>by simp[Tm.arrows,pR]
|d::ds,t=>by
  have:=xI ds t;show (Tm.pi d (Tm.arrows ds t)).bytes=_;rw[Tm.bytes,this];simp[pR]
theorem lK:∀ (ds:List Tm) (t:Tm),t.Ok->(∀ a∈ds,a.Ok)->(Tm.arrows ds t).Ok
|[],t,k,_=>k
|d::ds,t,k,ha=>⟨ha d List.mem_cons_self,lK ds t k (fun x hx=>ha x (List.mem_cons_of_mem _ hx))⟩
noncomputable def zJ (l:List UInt8):List (List UInt8):=match vQ l with
|some T=>T.doms.map Tm.bytes
|none=>[]
noncomputable def yN (l:List UInt8):List UInt8:=match vQ l with
|some T=>T.targ.bytes
|none=>[]
noncomputable def yK (h:List UInt8) (us:List (List UInt8)):Option (List UInt8) :=
 if yB h=true/\(∀ a∈us,yB a=true)/\h.length+us.length+us.flatten.length<=2000 then some (List.replicate us.length 64++h++us.flatten) else none
noncomputable def zU (ds:List (List UInt8)) (t:List UInt8):Option (List UInt8) :=
 if yB t=true/\(∀ a∈ds,yB a=true)/\t.length+ds.length+ds.flatten.length<=2000 then some ((ds.map fun d=>112::d).flatten++t) else none
theorem vP(l:List UInt8):(zJ l).length<=2000:=by
 unfold zJ;cases h:vQ l with
|none=>exact Nat.zero_le _
|some t =>
  have h1:=(vF h).2;have h2:=t.doms_len;have h3:=t.size_le;show (t.doms.map Tm.bytes).length<=2000;rw[List.length_map];rw[← h1.1] at h1;have:=h1.2;omega
end Go.Proofs.YtcaahdjhbmmcnaaGreatDoor
namespace Go.Proofs.YtcaahdjhbmmcnaaGreatDoor
open Go.ChangeShapes Go.WideShapes Go.ChangeAt Go.RowKit
theorem Rep.kindAt{W:World}{B:Nat}{ns:List Nd}{k:Nat}{t:Tm}(h:Rep W B ns k t):∃ nd,ns[k]?=some nd/\nd.kind=t.kind:=by
 cases t with
|var n=>obtain⟨nd,h,h2⟩:=h;exact⟨nd,h,h2.1⟩
|sort n=>obtain⟨nd,h,h2⟩:=h;exact⟨nd,h,h2.1⟩
|const n ls=>obtain⟨nd,h,h2⟩:=h;exact⟨nd,h,h2.1⟩
|app f a=>obtain⟨nd,h,h2⟩:=h;exact⟨nd,h,h2.1⟩
|lam f a=>obtain⟨nd,h,h2⟩:=h;exact⟨nd,h,h2.1⟩
|pi f a=>obtain⟨nd,h,h2⟩:=h;exact⟨nd,h,h2.1⟩
|lett f a b=>obtain⟨nd,h,h2⟩:=h;exact⟨nd,h,h2.1⟩
theorem sL.piAt{W:World}{B:Nat}{ns:List Nd}{k:Nat}{f a:Tm}(h:sL W B ns k (.pi f a)):∃ nd,ns[k]?=some nd/\nd.kind=112/\nd.a<k/\nd.b<k/\sL W B ns nd.a f/\sL W B ns nd.b a:=by
 obtain⟨⟨nd,h1,h2,h3,h4⟩,⟨nd2,g1,g0,g2,g3,g4,g5⟩⟩:=h;obtain rfl:nd=nd2:=Option.some.inj (h1.symm.trans g1);exact⟨nd,h1,h2,by omega,by omega,⟨h3,g4⟩,⟨h4,g5⟩⟩
theorem hJ{u:Tm}(h:u.kind=112):∃ f a,u=.pi f a:=by
 cases u with
|pi f a=>exact⟨f,a,rfl⟩
|_=>simp[Tm.kind] at h
theorem zB1{u:Tm}(h:u.kind≠112):u.targ=u/\u.doms=[]:=by
 cases u with
|pi f a=>exact absurd rfl h
|_=>exact⟨rfl,rfl⟩
def rR (ns:List Nd) (i:Nat):List (List UInt8):=match ns[i]? with
|some nd=>if nd.kind=99 then [nd.text] else []
|none=>[]
theorem vL{ns:List Nd}{i:Nat}{nd:Nd}(h:ns[i]?=some nd):rR ns i=if nd.kind=99 then [nd.text] else []:=by
 rw[rR,h]
theorem tT{W:World}{B:Nat}{ns:List Nd}:∀ (T:Tm) (k:Nat),sL W B ns k T->(List.range' (k+1 - T.size) T.size).flatMap (rR ns)=T.cnames
|.var n,k,h=>by
  obtain⟨nd,h1,h2⟩:=h.1;have hk:nd.kind=118:=h2.1;rw[show k+1 - (Tm.var n).size=k from rfl];show [k].flatMap _=_;rw[List.flatMap_cons,vL h1,hk];rfl
|.sort l,k,h=>by
  obtain⟨nd,h1,h2⟩:=h.1;have hk:nd.kind=115:=h2.1;rw[show k+1 - (Tm.sort l).size=k from rfl];show [k].flatMap _=_;rw[List.flatMap_cons,vL h1,hk];rfl
|.const n ls,k,h=>by
  obtain⟨nd,h1,h2⟩:=h.1;have hk:nd.kind=99:=h2.1;have ht:nd.text=n:=h2.2.1;rw[show k+1 - (Tm.const n ls).size=k from rfl];show [k].flatMap _=_;rw[List.flatMap_cons,vL h1,hk,ht];rfl
|.app f a,k,h=>by
  have hz:=h.at.1;obtain⟨⟨nd,h1,h2,h3,h4⟩,⟨nd2,g1,g0,g2,g3,g4,g5⟩⟩:=h;obtain rfl:nd=nd2:=Option.some.inj (h1.symm.trans g1);have i1:=tT f nd.a ⟨h3,g4⟩;have i2:=tT a nd.b ⟨h4,g5⟩;have z1:=(sL.at f nd.a ⟨h3,g4⟩).1;have z2:=(sL.at a nd.b ⟨h4,g5⟩).1;have y1:=f.size_pos;simp only[Tm.size] at hz |-;rw[show f.size+a.size+1=(f.size+a.size)+1 from rfl,← List.range'_append_1,← List.range'_append_1,List.flatMap_append,List.flatMap_append];rw[show k+1 - (f.size+a.size+1)=nd.a+1 - f.size by omega,i1,show nd.a+1 - f.size+f.size=nd.b+1 - a.size by omega,i2];rw[show nd.a+1 - f.size+(f.size+a.size)=k by omega];show _++_++[k].flatMap _=_;rw[List.flatMap_cons,vL h1,h2];simp[Tm.cnames]
|.lam f a,k,h=>by
  have hz:=h.at.1;obtain⟨⟨nd,h1,h2,h3,h4⟩,⟨nd2,g1,g0,g2,g3,g4,g5⟩⟩:=h;obtain rfl:nd=nd2:=Option.some.inj (h1.symm.trans g1);have i1:=tT f nd.a ⟨h3,g4⟩;have i2:=tT a nd.b ⟨h4,g5⟩;have z1:=(sL.at f nd.a ⟨h3,g4⟩).1;have z2:=(sL.at a nd.b ⟨h4,g5⟩).1;have y1:=f.size_pos;simp only[Tm.size] at hz |-;rw[show f.size+a.size+1=(f.size+a.size)+1 from rfl,← List.range'_append_1,← List.range'_append_1,List.flatMap_append,List.flatMap_append];rw[show k+1 - (f.size+a.size+1)=nd.a+1 - f.size by omega,i1,show nd.a+1 - f.size+f.size=nd.b+1 - a.size by omega,i2];rw[show nd.a+1 - f.size+(f.size+a.size)=k by omega];show _++_++[k].flatMap _=_;rw[List.flatMap_cons,vL h1,h2];simp[Tm.cnames]
|.pi f a,k,h=>by
  have hz:=h.at.1;obtain⟨⟨nd,h1,h2,h3,h4⟩,⟨nd2,g1,g0,g2,g3,g4,g5⟩⟩:=h;obtain rfl:nd=nd2:=Option.some.inj (h1.symm.trans g1);have i1:=tT f nd.a ⟨h3,g4⟩;have i2:=tT a nd.b ⟨h4,g5⟩;have z1:=(sL.at f nd.a ⟨h3,g4⟩).1;have z2:=(sL.at a nd.b ⟨h4,g5⟩).1;have y1:=f.size_pos;simp only[Tm.size] at hz |-;rw[show f.size+a.size+1=(f.size+a.size)+1 from rfl,← List.range'_append_1,← List.range'_append_1,List.flatMap_append,List.flatMap_append];rw[show k+1 - (f.size+a.size+1)=nd.a+1 - f.size by omega,i1,show nd.a+1 - f.size+f.size=nd.b+1 - a.size by omega,i2];rw[show nd.a+1 - f.size+(f.size+a.size)=k by omega];show _++_++[k].flatMap _=_;rw[List.flatMap_cons,vL h1,h2];simp[Tm.cnames]
|.lett f a b,k,h=>by
  have hz:=h.at.1;obtain⟨⟨nd,h1,h2,h3,h4,h5⟩,⟨nd2,g1,g0,g2,g3,g4,g5,g6,g7⟩⟩:=h;obtain rfl:nd=nd2:=Option.some.inj (h1.symm.trans g1);have i1:=tT f nd.a ⟨h3,g5⟩;have i2:=tT a nd.b ⟨h4,g6⟩;have i3:=tT b nd.c ⟨h5,g7⟩;have z1:=(sL.at f nd.a ⟨h3,g5⟩).1;have z2:=(sL.at a nd.b ⟨h4,g6⟩).1;have z3:=(sL.at b nd.c ⟨h5,g7⟩).1;have y1:=f.size_pos;simp only[Tm.size] at hz |-;rw[show f.size+a.size+b.size+1=((f.size+a.size)+b.size)+1 from rfl,← List.range'_append_1,← List.range'_append_1,← List.range'_append_1,List.flatMap_append,List.flatMap_append,List.flatMap_append];rw[show k+1 - (f.size+a.size+b.size+1)=nd.a+1 - f.size by omega,i1,show nd.a+1 - f.size+f.size=nd.b+1 - a.size by omega,i2,show nd.a+1 - f.size+(f.size+a.size)=nd.c+1 - b.size by omega,i3];rw[show nd.a+1 - f.size+(f.size+a.size+b.size)=k by omega];show _++_++_++[k].flatMap _=_;rw[List.flatMap_cons,vL h1,h2];simp[Tm.cnames]
theorem yF3{W:World}{B:Nat}{ns:List Nd}{T:Tm}(h:sL W B ns (ns.length - 1) T)(hn:ns.length=T.size):(List.range ns.length).flatMap (rR ns)=T.cnames:=by
 have hz:=T.size_pos;have h1:=tT T _ h;rw[show ns.length - 1+1 - T.size=0 by omega,← hn] at h1;rw[List.range_eq_range'];exact h1
theorem lW(ns:List Nd)(k:Nat):(List.range (k+1)).flatMap (rR ns)=(List.range k).flatMap (rR ns)++rR ns k:=by
 rw[List.range_succ,List.flatMap_append,List.flatMap_singleton]
theorem zB2(ns:List Nd):∀ k,((List.range k).flatMap (rR ns)).length<=k
|0=>by simp
|k+1=>by
  have h1:=zB2 ns k;have h2:(rR ns k).length<=1:=by
   unfold rR;split
   ·split<;>simp
   ·simp
  rw[lW,lA];omega
def nE (B:Nat) (W W':World):Prop:=∀ e z v n xs,W.ownsRow B e z v n xs->W'.ownsRow B e z v n xs
theorem nE.refl(B:Nat)(W:World):nE B W W:=fun _ _ _ _ _ h=>h
theorem nE.strs{B:Nat}{W W':World}(h:nE B W W'):uF B W W':=fun v n xs hv=>h _ _ v n xs hv
theorem nE.step{B:Nat}{W wr w2:World}{ob:Option Nat}(h:nE B W wr)(hg:wr.grownBy w2 ob)(ha:∀ k,ob=some k->k<B\/W.heap.size<=k):nE B W w2:=fun e z v n xs hv=>by
 refine(h e z v n xs hv).kept hg ?_;rcases hb:v.ownBlock with _|k
 ·exact .inl rfl
 ·refine .inr fun e=>?_;have h1:=hv.lt k hb;have h2:=ha k e.symm;omega
theorem nE.below{B:Nat}{W wr w2:World}(h:nE B W wr)(hb:Below wr.heap.size wr w2):nE B W w2:=h.step (zC hb none) (fun _ h=>by cases h)
theorem iO{W:World}{b b' z n:Nat}{e:TypeId}{v:Value}{xs:List Value}(h:W.ownsRow b e z v n xs)(hb:b'<=b):W.ownsRow b' e z v n xs:=by
 refine⟨h.1,?_⟩;rcases h.2 with h1|⟨g,cap,cur,h1,h2,h3⟩
 ·exact .inl h1
 ·exact .inr ⟨g,cap,cur,h1,Nat.le_trans hb h2,h3⟩
def Off (B H:Nat) (v:Value):Prop:=∀ k,v.ownBlock=some k->k<B\/H<=k
end Go.Proofs.YtcaahdjhbmmcnaaGreatDoor
namespace Go.Proofs.YtcaahdjhbmmcnaaGreatDoor
abbrev BL:=List UInt8
def xI8 (out:List BL) (s:BL):List BL:=if out.getLast?=some s then out else out++[s]
def xJ0 (a b out:List BL):List BL :=
 match a,b with
|[],[]=>out
|x::a',[]=>xJ0 a' [] (xI8 out x)
|[],y::b'=>xJ0 [] b' (xI8 out y)
|x::a',y::b'=>if x<=y then xJ0 a' (y::b') (xI8 out x) else xJ0 (x::a') b' (xI8 out y)
termination_by a.length+b.length
def xI6 (l:List BL):List BL :=
 if h:l.length<2 then l else xJ0 (xI6 (l.take (l.length / 2))) (xI6 (l.drop (l.length / 2))) []
termination_by l.length
decreasing_by
 ·simp;omega
 ·simp;omega
theorem jZ{l:List BL}(h:l.length<2):xI6 l=l:=by rw[xI6,dif_pos h]
theorem aQ{l:List BL}(h:¬ l.length<2):xI6 l=xJ0 (xI6 (l.take (l.length / 2))) (xI6 (l.drop (l.length / 2))) []:=by rw[xI6,dif_neg h]
theorem cH(out:List BL)(s:BL):(xI8 out s).length<=out.length+1:=by
 unfold xI8;split<;>simp
theorem zS2{a b:List BL}{i k:Nat}(out:List BL)(hi:i<a.length)(h:∀ hk:k<b.length,a[i]<=b[k]):xJ0 (a.drop i) (b.drop k) out=xJ0 (a.drop (i+1)) (b.drop k) (xI8 out a[i]):=by
 rw[List.drop_eq_getElem_cons hi];by_cases hk:k<b.length
 ·rw[List.drop_eq_getElem_cons hk,xJ0,iP (h hk)]
 ·have e:b.drop k=[]:=List.drop_eq_nil_of_le (by omega);rw[e,xJ0]
theorem zB5{a b:List BL}{i k:Nat}(out:List BL)(hk:k<b.length)(h:∀ hi:i<a.length,¬ a[i]<=b[k]):xJ0 (a.drop i) (b.drop k) out=xJ0 (a.drop i) (b.drop (k+1)) (xI8 out b[k]):=by
 rw[List.drop_eq_getElem_cons hk];by_cases hi:i<a.length
 ·rw[List.drop_eq_getElem_cons hi,xJ0,iN (h hi)]
 ·rw[List.drop_eq_nil_of_le (by omega),xJ0]
theorem yQ7{a b:List BL}{i k:Nat}(out:List BL)(hi:¬ i<a.length)(hk:¬ k<b.length):xJ0 (a.drop i) (b.drop k) out=out:=by
 rw[List.drop_eq_nil_of_le (by omega),List.drop_eq_nil_of_le (by omega),xJ0]
def Asc (l:List BL):Prop:=l.Pairwise (·<·)
theorem iU{x y:BL}(h:x<=y)(hne:x≠y):x<y:=by
 by_cases h2:x<y
 ·exact h2
 ·exact absurd (List.le_antisymm h (List.not_lt.1 h2)) hne
theorem pX{out:List BL}{s z:BL}:z∈xI8 out s↔z∈out\/z=s:=by
 unfold xI8;split
 ·rename_i h;constructor
  ·exact .inl
  ·rintro (h2|rfl)
   ·exact h2
   ·exact List.mem_of_getLast? h
 ·simp
theorem zP9{out:List BL}{s:BL}(h:Asc out)(hs:out.getLast?=some s):∀ o∈out,o<=s:=by
 intro o ho;obtain⟨r,rfl⟩:∃ r,out=r++[s]:=List.getLast?_eq_some_iff.1 hs;rcases List.mem_append.1 ho with h1|h1
 ·exact List.le_of_lt ((List.pairwise_append.1 h).2.2 o h1 s (by simp))
 ·rw[List.mem_singleton.1 h1];exact List.le_refl _
theorem cI{out:List BL}{s:BL}(h:Asc out)(hle:∀ o∈out,o<=s):Asc (xI8 out s):=by
 unfold xI8;split
 ·exact h
 ·rename_i hne;refine List.pairwise_append.2 ⟨h,by simp,fun o ho x hx=>?_⟩;rw[List.mem_singleton.1 hx];refine iU (hle o ho) ?_;rintro rfl;cases hl:out.getLast? with
 |none=>rw[List.getLast?_eq_none_iff.1 hl] at ho;simp at ho
 |some t =>
   have h1:=zP9 h hl o ho;have h2:=hle t (List.mem_of_getLast? hl);exact hne (by rw[hl,List.le_antisymm h2 h1])
theorem aA{x:BL}{l:List BL}(h:Asc (x::l)):Asc l/\∀ y∈l,x<y:=⟨(List.pairwise_cons.1 h).2,(List.pairwise_cons.1 h).1⟩
theorem yQ6:∀ (n:Nat) (a b out:List BL),a.length+b.length<=n->Asc a->Asc b->Asc out->(∀ o∈out,(∀ x∈a,o<=x)/\∀ y∈b,o<=y) ->
  Asc (xJ0 a b out)/\∀ z,z∈xJ0 a b out↔z∈out\/z∈a\/z∈b:=by
 intro n
 induction n with
|zero =>
  intro a b out hn _ _ ho _;have h1:a=[]:=List.length_eq_zero_iff.1 (by omega);have h2:b=[]:=List.length_eq_zero_iff.1 (by omega);subst h1 h2;rw[xJ0];exact⟨ho,by simp⟩
|succ n ih =>
  intro a b out hn ha hb ho hle;cases a with
 |nil =>
   cases b with
  |nil=>rw[xJ0];exact⟨ho,by simp⟩
  |cons y b =>
    rw[xJ0];obtain⟨hb1,hb2⟩:=aA hb
    obtain⟨h1,h2⟩:=ih [] b (xI8 out y) (by simp at hn |-;omega) ha hb1 (cI ho fun o h=>(hle o h).2 y (by simp)) (fun o h=>by
     refine⟨by simp,fun z hz=>?_⟩;rcases pX.1 h with h|rfl
     ·exact(hle o h).2 z (by simp[hz])
     ·exact List.le_of_lt (hb2 z hz))
    refine⟨h1,fun z=>?_⟩;rw[h2,pX];simp[or_assoc]
 |cons x a =>
   obtain⟨ha1,ha2⟩:=aA ha;cases b with
  |nil =>
    rw[xJ0]
    obtain⟨h1,h2⟩:=ih a [] (xI8 out x) (by simp at hn |-;omega) ha1 hb (cI ho fun o h=>(hle o h).1 x (by simp)) (fun o h=>by
     refine⟨fun z hz=>?_,by simp⟩;rcases pX.1 h with h|rfl
     ·exact(hle o h).1 z (by simp[hz])
     ·exact List.le_of_lt (ha2 z hz))
    refine⟨h1,fun z=>?_⟩;rw[h2,pX];simp[or_assoc]
  |cons y b =>
    obtain⟨hb1,hb2⟩:=aA hb;rw[xJ0];split
    ·rename_i hxy
     obtain⟨h1,h2⟩:=ih a (y::b) (xI8 out x) (by simp at hn |-;omega) ha1 hb (cI ho fun o h=>(hle o h).1 x (by simp)) (fun o h=>by
      rcases pX.1 h with h|rfl
      ·exact⟨fun z hz=>(hle o h).1 z (by simp[hz]),(hle o h).2⟩
      ·refine⟨fun z hz=>List.le_of_lt (ha2 z hz),fun z hz=>?_⟩;rcases List.mem_cons.1 hz with rfl|hz
       ·exact hxy
       ·exact List.le_trans hxy (List.le_of_lt (hb2 z hz)))
     refine⟨h1,fun z=>?_⟩;rw[h2,pX];simp[or_assoc]
    ·rename_i hxy;have hyx:y<=x:=(List.le_total x y).resolve_left hxy
     obtain⟨h1,h2⟩:=ih (x::a) b (xI8 out y) (by simp at hn |-;omega) ha hb1 (cI ho fun o h=>(hle o h).2 y (by simp)) (fun o h=>by
      rcases pX.1 h with h|rfl
      ·exact⟨(hle o h).1,fun z hz=>(hle o h).2 z (by simp[hz])⟩
      ·refine⟨fun z hz=>?_,fun z hz=>List.le_of_lt (hb2 z hz)⟩;rcases List.mem_cons.1 hz with rfl|hz
       ·exact hyx
       ·exact List.le_trans hyx (List.le_of_lt (ha2 z hz)))
     refine⟨h1,fun z=>?_⟩;rw[h2,pX];simp only[List.mem_cons];constructor
     ·rintro ((h|h)|h|h)
      ·exact .inl h
      ·exact .inr (.inr (.inl h))
      ·exact .inr (.inl h)
      ·exact .inr (.inr (.inr h))
     ·rintro (h|h|h|h)
      ·exact .inl (.inl h)
      ·exact .inr (.inl h)
      ·exact .inl (.inr h)
      ·exact .inr (.inr h)
theorem yZ1:∀ (n:Nat) (a b out:List BL),a.length+b.length<=n->(xJ0 a b out).length<=out.length+a.length+b.length:=by
 intro n
 induction n with
|zero =>
  intro a b out hn;have h1:a=[]:=List.length_eq_zero_iff.1 (by omega);have h2:b=[]:=List.length_eq_zero_iff.1 (by omega);subst h1 h2;rw[xJ0];simp
|succ n ih =>
  intro a b out hn;cases a with
 |nil =>
   cases b with
  |nil=>rw[xJ0];simp
  |cons y b =>
    rw[xJ0];have:=ih [] b (xI8 out y) (by simp at hn |-;omega);have:=cH out y;simp at *;omega
 |cons x a =>
   cases b with
  |nil =>
    rw[xJ0];have:=ih a [] (xI8 out x) (by simp at hn |-;omega);have:=cH out x;simp at *;omega
  |cons y b =>
    rw[xJ0];split
    ·have:=ih a (y::b) (xI8 out x) (by simp at hn |-;omega);have:=cH out x;simp at *;omega
    ·have:=ih (x::a) b (xI8 out y) (by simp at hn |-;omega);have:=cH out y;simp at *;omega
theorem mG:∀ (n:Nat) (l:List BL),l.length<=n->Asc (xI6 l)/\(∀ z,z∈xI6 l↔z∈l)/\(xI6 l).length<=l.length:=by
 intro n
 induction n using Nat.strongRecOn with
|ind n ih =>
  intro l hl;by_cases h:l.length<2
  ·rw[jZ h];refine⟨?_,fun z=>Iff.rfl,nR _⟩
   match l,h with
  |[],_=>exact List.Pairwise.nil
  |[x],_=>exact List.pairwise_singleton _ _
  ·have e1:(l.take (l.length / 2)).length=l.length / 2:=(by simp;omega);have e2:(l.drop (l.length / 2)).length=l.length - l.length / 2:=(by simp);obtain⟨a1,a2,a3⟩:=ih (l.length / 2) (by omega) (l.take (l.length / 2)) (by omega);obtain⟨b1,b2,b3⟩:=ih (l.length - l.length / 2) (by omega) (l.drop (l.length / 2)) (by omega);rw[aQ h];obtain⟨m1,m2⟩:=yQ6 _ _ _ [] (nR _) a1 b1 List.Pairwise.nil (by simp);refine⟨m1,fun z=>?_,?_⟩
   ·rw[m2,a2,b2];simp only[List.not_mem_nil,false_or];rw[← List.mem_append,List.take_append_drop]
   ·have:=yZ1 _ (xI6 (l.take (l.length / 2))) (xI6 (l.drop (l.length / 2))) [] (nR _);simp only[List.length_nil] at this;omega
end Go.Proofs.YtcaahdjhbmmcnaaGreatDoor
namespace Go.Proofs.YtcaahdjhbmmcnaaGreatDoor
open Go.ChangeShapes Go.WideShapes Go.ChangeAt Go.RowKit
def yL9 (w:World) (v:Value) (l:List BL):Prop :=
 ∃ b off cap:Nat,v=.slice (some ⟨b,off,none⟩) l.length cap/\l.length<=cap/\cap<=maxLen/\b<w.heap.size/\∀ j (h:j<l.length),w.cell? ⟨b,off+j,none⟩=some (sv l[j])
theorem yL9.below{w w':World}{v:Value}{l:List BL}(h:yL9 w v l)(hb:Below w.heap.size w w'):yL9 w' v l:=by
 obtain⟨b,off,cap,h1,h2,h3,h4,h5⟩:=h;refine⟨b,off,cap,h1,h2,h3,Nat.lt_of_lt_of_le h4 hb.size,fun j hj=>?_⟩;rw[hb.cell (p:=⟨b,off+j,none⟩) h4];exact h5 j hj
theorem yL9.take{w:World}{b off cap:Nat}{l:List BL}(h:yL9 w (.slice (some ⟨b,off,none⟩) l.length cap) l)(k:Nat)(hk:k<=l.length):yL9 w (.slice (some ⟨b,off,none⟩) k cap) (l.take k):=by
 obtain⟨b',off',cap',h1,h2,h3,h4,h5⟩:=h;simp only[Value.slice.injEq,Option.some.injEq,Addr.mk.injEq,and_true,true_and] at h1;obtain⟨⟨rfl,rfl⟩,rfl⟩:=h1;have e:(l.take k).length=k:=by simp;omega
 refine⟨b,off,cap,by rw[e],by omega,h3,h4,fun j hj=>?_⟩;rw[e] at hj;rw[h5 j (by omega),List.getElem_take]
theorem yL9.drop{w:World}{b off cap:Nat}{l:List BL}(h:yL9 w (.slice (some ⟨b,off,none⟩) l.length cap) l)(k:Nat)(hk:k<=l.length):yL9 w (.slice (some ⟨b,off+k,none⟩) (l.length - k) (cap - k)) (l.drop k):=by
 obtain⟨b',off',cap',h1,h2,h3,h4,h5⟩:=h;simp only[Value.slice.injEq,Option.some.injEq,Addr.mk.injEq,and_true,true_and] at h1;obtain⟨⟨rfl,rfl⟩,rfl⟩:=h1;have e:(l.drop k).length=l.length - k:=by simp
 refine⟨b,off+k,cap - k,by rw[e],by omega,by omega,h4,fun j hj=>?_⟩;rw[e] at hj;rw[Nat.add_assoc,h5 (k+j) (by omega),List.getElem_drop]
theorem yC5{l:List BL}(h:0<l.length):0<(xI6 l).length:=by
 obtain⟨_,s2,_⟩:=mG l.length l (nR _);have:=(s2 l[0]).2 (List.getElem_mem h);exact List.length_pos_of_mem this
theorem yF1(l:List BL):∀ u∈l.map sv,u.oneCell'=true:=by
 intro u hu;obtain⟨x,_,rfl⟩:=List.mem_map.1 hu;rfl
theorem yE9{w:World}{base base':Nat}{e:TypeId}{size:Nat}{v:Value}{n:Nat}{xs:List Value}(h:w.ownsRow base e size v n xs)(hb:base'<=base):w.ownsRow base' e size v n xs:=by
 refine⟨h.1,?_⟩;rcases h.2 with h|⟨g,cap,cur,h1,h2,h3⟩
 ·exact .inl h
 ·exact .inr ⟨g,cap,cur,h1,Nat.le_trans hb h2,h3⟩
theorem cG(x:BL):xI8 [] x=[x]:=by simp[xI8]
theorem jO(r:List BL)(x:BL):xI8 (r++[x]) x=r++[x]:=by simp[xI8]
theorem mN{r:List BL}{z x:BL}(h:z≠x):xI8 (r++[z]) x=r++[z]++[x]:=by simp[xI8,h]
theorem yR9{x y:BL}(h:x<=y):(Op.bytesLess x y || x==y)=true:=by
 rw[bytesLess_eq];by_cases e:x=y
 ·simp[e]
 ·simp[iU h e]
theorem yG7{x y:BL}(h:¬ x<=y):(Op.bytesLess x y || x==y)=false:=by
 rw[bytesLess_eq,Bool.or_eq_false_iff];refine⟨dF fun h2=>h (List.le_of_lt h2),?_⟩;rw[bF];rintro rfl;exact h (List.le_refl _)
theorem zV3(n:Nat):∀ (l:List BL),l.length<=n->l.length<=2097152->∀ (w:World) (v:Value),yL9 w v l->Calls Tryz.prog 39 #[v] w (yM5 (xI6 l) w):=by
 induction n using Nat.strongRecOn with
|ind n ih =>
  intro l hln hn w v hV;obtain⟨i0,hi,hz0,hz1,hz2⟩:=info_parts rZ;by_cases hsm:l.length<2
  ·obtain⟨b,off,cap,rfl,hc1,hc2,hb,hcells⟩:=hV;have HR:=Ld (jZ hsm);have hd:decide ((l.length:Int)<2)=true:=dT (by omega);have hnews:∀ j u,(l.map sv)[j]?=some u->(w.alloc (.cells #[] 9)).cell? ((⟨b,off,none⟩:Addr).add j)=some u:=by
    intro j u hu;obtain⟨hj,rfl⟩:=List.getElem?_eq_some_iff.1 hu;have hj2:j<l.length:=(by simpa using hj);rw[add_plain,List.getElem_map,← hcells j hj2];exact(Below.cell ((bR w.heap.size w).alloc (nR _) _) (p:=⟨b,off+j,none⟩) hb)
   clear hcells ih;go_enter Tryz.func39,Tryz.ntmps39;go_wp2_with (at_builtin;refine wpList_append_own _ rfl _ _ 31 rfl w.heap.size 9 i0 _ 1 16 Tryz.underlying31 hi hz0 hz1 hz2 rfl (by decide) _ 0 [] rfl (World.ownsRow_lit w #[] 0 (nR _) (by decide) (by simp)) ⟨b,off,none⟩ l.length cap (l.map sv) rfl (by simp) hnews (yF1 l) (by simp only[maxLen];omega) (by omega) (by simp) ?_;intro v1 w1 hown1 hgrow hat);go_ret;rw[HR.out];exact⟨_,rfl,by simpa using hown1,((bR _ _).alloc (nR _) _).grown hgrow (by simp) (fun j hj=>by cases hj;exact nR _)⟩
  ·have HR:=Ld (aQ hsm);obtain⟨b,off,cap,rfl,hc1,hc2,hb,_⟩:=id hV;unfold maxLen at hc2;have hd:decide ((l.length:Int)<2)=false:=dF (by omega);obtain⟨m,hm⟩:∃ m,l.length / 2=m:=⟨_,rfl⟩;rw[hm] at HR;have hq:(l.length:Int) / 2=(m:Int):=(by omega);have hm1:1<=m:=(by omega);have hm2:m<l.length:=(by omega);clear hm;have hA:=Ld (hV.take m (by omega));have hB:=Ld (hV.drop m (by omega));have e1:(l.take m).length=m:=(by simp;omega);have e2:(l.drop m).length=l.length - m:=(by simp);have f1:=Ld fun W v h=>ih m (by omega) (l.take m) (by omega) (by omega) W v h;have f2:=Ld fun W v h=>ih (l.length - m) (by omega) (l.drop m) (by omega) (by omega) W v h;have p1:=yC5 (l:=l.take m) (by omega);have p2:=yC5 (l:=l.drop m) (by omega);have s1:=(mG _ (l.take m) (nR _)).2.2;have s2:=(mG _ (l.drop m) (nR _)).2.2;rw[e1] at s1;rw[e2] at s2;clear e1 e2 hV ih;generalize xI6 (l.take m)=A at HR f1 p1 s1;generalize xI6 (l.drop m)=B at HR f2 p2 s2;go_enter Tryz.func39,Tryz.ntmps39;go_wp2_with fail
   (refine(f1.out _ _ hA.out).mono ?_);rintro e w1 ⟨v1,rfl,ho1,hb1⟩
   go_wp2_with fail
   (refine(f2.out _ _ (hB.out.below hb1)).mono ?_);rintro e w2 ⟨v2,rfl,ho2,hb2⟩
   have hB2:=hb1.trans (hb2.mono hb1.size);have ho1':=zA ho1 hb2;obtain⟨g1,c1,rfl,_,hg1⟩:=ho1'.form p1;obtain⟨g2,c2,rfl,_,hg2⟩:=ho2.form p2;have hzw:=hB2.size;clear ho1 hb1 hb2 hA hB f1 f2;go_wp2;go_loopw [5,6,7] (fun vo iv kv wr=>∃ (i k:Nat) (out:List BL) (g cp:Nat),i<=A.length/\k<=B.length/\out.length<=i+k/\iv=.int .i64 i/\kv=.int .i64 k/\vo=.slice (some ⟨g,0,none⟩) out.length cp/\wr.ownsRow w2.heap.size 9 1 (.slice (some ⟨g,0,none⟩) out.length cp) out.length (out.map sv)/\Below w2.heap.size w2 wr/\Hid (xJ0 A B []=xJ0 (A.drop i) (B.drop k) out))
    (fun _ iv kv _=>(A.length - (intOf iv).toNat)+(B.length - (intOf kv).toNat))
   case atStart=>exact⟨0,0,[],w2.heap.size,0,Nat.zero_le _,Nat.zero_le _,nR _,rfl,rfl,rfl,World.ownsRow_lit w2 #[] 0 (nR _) (by decide) (by simp),(bR _ _).alloc (nR _) _,by simp[Hid]⟩
   case round =>
    obtain⟨i,k,out,g,cp,hik,hkk,hol,rfl,rfl,rfl,hown,hbel,HS⟩:=hrel;have hl:=hown.lt;have hzz:=hbel.size;have bn:out.length+1<=4194304:=(by omega);by_cases hi1:i<A.length
    ·have ca:=(hbel.cell (p:=⟨g1,i,none⟩) hg1).trans (ho1'.cellAt i (by omega));have exa:(A.map sv)[i]?=some (sv A[i]):=(by simp[hi1]);rw[exa] at ca;unfold sv at ca;have qa1:=zn i;have qa2:(i:Int)<(A.length:Int):=(by omega);have da:decide ((i:Int)<(A.length:Int))=true:=dT qa2;by_cases hk1:k<B.length
     ·have cb:=(hbel.cell (p:=⟨g2,k,none⟩) hg2).trans (ho2.cellAt k (by omega));have exb:(B.map sv)[k]?=some (sv B[k]):=(by simp[hk1]);rw[exb] at cb;unfold sv at cb;have qb1:=zn k;have qb2:(k:Int)<(B.length:Int):=(by omega);have db:decide ((B.length:Int)<=(k:Int))=false:=dF (by omega);have HML:=Ld fun (h:A[i]<=B[k])=>HS.out.trans (zS2 (b:=B) (k:=k) out hi1 (fun _=>h));have HMR:=Ld fun (h:¬ A[i]<=B[k])=>HS.out.trans (zB5 (a:=A) (i:=i) out hk1 (fun _=>h));clear exa exb HS;generalize A[i]=xa at ca HML HMR;generalize B[k]=xb at cb HML HMR;have hct:=Ld (yR9 (x:=xa) (y:=xb));have hcf:=Ld (yG7 (x:=xa) (y:=xb));generalize hc:(Op.bytesLess xa xb || xa==xb)=c at hct hcf;go_wp2_with fail;refine wp_region_held_drew (S:=fun w'=>w'.cell? ⟨g1,i,none⟩=some (.string ⟨xa.toArray⟩)/\w'.cell? ⟨g2,k,none⟩=some (.string ⟨xb.toArray⟩)) (by kernel_rfl) ⟨ca,cb⟩ (fun hS0=>?_);refine qW 0 38 (.int .i64 (k:Int)) hS0 (fun W hSW=>?_) ?_
      ·(try dsimp only at hSW);(try obtain⟨hSA,hSB⟩:=hSW);go_simp<;>omega
      simp only[Act.put,eA,eB,eC];refine qW 1 39 (.slice (some ⟨g2,0,none⟩) B.length c2) hS0 (fun W hSW=>?_) ?_
      ·(try dsimp only at hSW);(try obtain⟨hSA,hSB⟩:=hSW);go_simp<;>omega
      simp only[Act.put,eA,eB,eC];refine qW 2 40 (.int .i64 (B.length:Int)) hS0 (fun W hSW=>?_) ?_
      ·(try dsimp only at hSW);(try obtain⟨hSA,hSB⟩:=hSW);go_simp<;>omega
      simp only[Act.put,eA,eB,eC];refine qW 3 41 (.bool false) hS0 (fun W hSW=>?_) ?_
      ·(try dsimp only at hSW);(try obtain⟨hSA,hSB⟩:=hSW);go_simp<;>omega
      simp only[Act.put,eA,eB,eC];refine qW 4 42 (.bool false) hS0 (fun W hSW=>?_) ?_
      ·(try dsimp only at hSW);(try obtain⟨hSA,hSB⟩:=hSW);go_simp<;>omega
      simp only[Act.put,eA,eB,eC];refine qW 5 43 (.int .i64 (i:Int)) hS0 (fun W hSW=>?_) ?_
      ·(try dsimp only at hSW);(try obtain⟨hSA,hSB⟩:=hSW);go_simp<;>omega
      simp only[Act.put,eA,eB,eC];refine qW 6 44 (.slice (some ⟨g1,0,none⟩) A.length c1) hS0 (fun W hSW=>?_) ?_
      ·(try dsimp only at hSW);(try obtain⟨hSA,hSB⟩:=hSW);go_simp<;>omega
      simp only[Act.put,eA,eB,eC];refine qW 7 45 (.int .i64 (A.length:Int)) hS0 (fun W hSW=>?_) ?_
      ·(try dsimp only at hSW);(try obtain⟨hSA,hSB⟩:=hSW);go_simp<;>omega
      simp only[Act.put,eA,eB,eC];refine qW 8 46 (.bool true) hS0 (fun W hSW=>?_) ?_
      ·(try dsimp only at hSW);(try obtain⟨hSA,hSB⟩:=hSW);go_simp<;>omega
      simp only[Act.put,eA,eB,eC];refine qW 9 47 (.bool true) hS0 (fun W hSW=>?_) ?_
      ·(try dsimp only at hSW);(try obtain⟨hSA,hSB⟩:=hSW);go_simp<;>omega
      simp only[Act.put,eA,eB,eC];refine qW 10 48 (.slice (some ⟨g1,0,none⟩) A.length c1) hS0 (fun W hSW=>?_) ?_
      ·(try dsimp only at hSW);(try obtain⟨hSA,hSB⟩:=hSW);go_simp<;>omega
      simp only[Act.put,eA,eB,eC];refine qW 11 49 (.int .i64 (i:Int)) hS0 (fun W hSW=>?_) ?_
      ·(try dsimp only at hSW);(try obtain⟨hSA,hSB⟩:=hSW);go_simp<;>omega
      simp only[Act.put,eA,eB,eC];refine qW 12 50 (.pointer (some ⟨g1,i,none⟩)) hS0 (fun W hSW=>?_) ?_
      ·(try dsimp only at hSW);(try obtain⟨hSA,hSB⟩:=hSW);go_simp<;>omega
      simp only[Act.put,eA,eB,eC];refine qW 13 51 (.string ⟨xa.toArray⟩) hS0 (fun W hSW=>?_) ?_
      ·(try dsimp only at hSW);(try obtain⟨hSA,hSB⟩:=hSW);go_simp<;>omega
      simp only[Act.put,eA,eB,eC];refine qW 14 52 (.slice (some ⟨g2,0,none⟩) B.length c2) hS0 (fun W hSW=>?_) ?_
      ·(try dsimp only at hSW);(try obtain⟨hSA,hSB⟩:=hSW);go_simp<;>omega
      simp only[Act.put,eA,eB,eC];refine qW 15 53 (.int .i64 (k:Int)) hS0 (fun W hSW=>?_) ?_
      ·(try dsimp only at hSW);(try obtain⟨hSA,hSB⟩:=hSW);go_simp<;>omega
      simp only[Act.put,eA,eB,eC];refine qW 16 54 (.pointer (some ⟨g2,k,none⟩)) hS0 (fun W hSW=>?_) ?_
      ·(try dsimp only at hSW);(try obtain⟨hSA,hSB⟩:=hSW);go_simp<;>omega
      simp only[Act.put,eA,eB,eC];refine qW 17 55 (.string ⟨xb.toArray⟩) hS0 (fun W hSW=>?_) ?_
      ·(try dsimp only at hSW);(try obtain⟨hSA,hSB⟩:=hSW);go_simp<;>omega
      simp only[Act.put,eA,eB,eC];refine qW 18 56 (.bool c) hS0 (fun W hSW=>?_) ?_
      ·(try dsimp only at hSW);(try obtain⟨hSA,hSB⟩:=hSW);go_simp<;>omega
      simp only[Act.put,eA,eB,eC];refine qW 19 57 (.bool c) hS0 (fun W hSW=>?_) ?_
      ·(try dsimp only at hSW);(try obtain⟨hSA,hSB⟩:=hSW);go_simp<;>omega
      simp only[Act.put,eA,eB,eC];refine qW 20 58 (.bool c) hS0 (fun W hSW=>?_) ?_
      ·(try dsimp only at hSW);(try obtain⟨hSA,hSB⟩:=hSW);go_simp<;>omega
      simp only[Act.put,eA,eB,eC];refine wpAnyH_done (by kernel_rfl) ?_ _;by_cases hle:xa<=xb
      ·have hcc:=hct.out hle;have HM:=Ld (HML.out hle);subst hcc;clear HML HMR hct hcf hc;rcases List.eq_nil_or_concat out with hout|⟨r,z,hout⟩
       ·subst hout;have HP:=Ld (HM.out.trans (by rw[cG]));clear HM;go_wp2_with (at_builtin;refine wpList_append_lies _ rfl _ _ _ rfl w2.heap.size 9 i0 _ 1 16 Tryz.underlying31 hi hz0 hz1 hz2 rfl (by decide) _ _ _ rfl ((hown.alloc _).drew) ⟨wr.heap.size,0,none⟩ 1 1 [.string ⟨xa.toArray⟩] rfl rfl (fun j u hu=>yI wr _ 9 j u hu) (by simp[Value.oneCell']) (by decide) (by simp only[maxLen];omega) (by omega) (by simp;omega) _ rfl ?_;intro g3 cap3 w3 hown3 hgrow hat hlt3);go_roundw
        case rel=>exact⟨i+1,k,[xa],g3,cap3,by omega,by omega,by simp only[List.length_singleton];omega,by go_num,by go_num,rfl,by simpa [sv] using hown3,((hbel.alloc hzz _).drew).grown hgrow (by simp;omega) (fun j hj=>(hl j hj).1),HP.out⟩
        case measure=>simp[intOf];omega
       ·rw[List.concat_eq_append] at hout;subst hout;have cz:=hown.cellAt r.length (by simp);have exz:((r++[z]).map sv)[r.length]?=some (sv z):=(by simp);rw[exz] at cz;unfold sv at cz;have dz:(((r.length:Int)+1)==0)=false:=(by rw[bF];omega);have rl:r.length+1<=2097152:=(by simp at hol;omega);have qz0:(0:Int)<=(r.length:Int):=(by omega);have qz1:(r.length:Int)<(r.length:Int)+1:=(by omega);clear exz;by_cases hzx:z=xa
        ·subst hzx;have HP:=Ld (HM.out.trans (by rw[jO]));have HO:=Ld hown;clear HM hown;go_wp2;go_roundw
         case rel=>exact⟨i+1,k,r++[z],g,cp,by omega,by omega,by simp at hol |-;omega,by go_num,by go_num,by simp,HO.out,hbel.drew,HP.out⟩
         case measure=>simp[intOf];omega
        ·have HP:=Ld (HM.out.trans (by rw[mN hzx]));have hzb:(z==xa)=false:=(by rw[bF];exact hzx);clear HM;go_wp2_with (at_builtin;refine wpList_append_lies _ rfl _ _ _ rfl w2.heap.size 9 i0 _ 1 16 Tryz.underlying31 hi hz0 hz1 hz2 rfl (by decide) _ _ _ rfl ((hown.alloc _).drew) ⟨wr.heap.size,0,none⟩ 1 1 [.string ⟨xa.toArray⟩] rfl rfl (fun j u hu=>yI wr _ 9 j u hu) (by simp[Value.oneCell']) (by decide) (by simp only[maxLen];omega) (by omega) (by simp;omega) _ rfl ?_;intro g3 cap3 w3 hown3 hgrow hat hlt3);go_roundw
         case rel=>exact⟨i+1,k,r++[z]++[xa],g3,cap3,by omega,by omega,by simp at hol |-;omega,by go_num,by go_num,by simp,by simpa [sv] using hown3,((hbel.alloc hzz _).drew).grown hgrow (by simp;omega) (fun j hj=>(hl j hj).1),HP.out⟩
         case measure=>simp[intOf];omega
      ·have hcc:=hcf.out hle;have HM:=Ld (HMR.out hle);subst hcc;clear HML HMR hct hcf hc;rcases List.eq_nil_or_concat out with hout|⟨r,z,hout⟩
       ·subst hout;have HP:=Ld (HM.out.trans (by rw[cG]));clear HM;go_wp2_with (at_builtin;refine wpList_append_lies _ rfl _ _ _ rfl w2.heap.size 9 i0 _ 1 16 Tryz.underlying31 hi hz0 hz1 hz2 rfl (by decide) _ _ _ rfl ((hown.alloc _).drew) ⟨wr.heap.size,0,none⟩ 1 1 [.string ⟨xb.toArray⟩] rfl rfl (fun j u hu=>yI wr _ 9 j u hu) (by simp[Value.oneCell']) (by decide) (by simp only[maxLen];omega) (by omega) (by simp;omega) _ rfl ?_;intro g3 cap3 w3 hown3 hgrow hat hlt3);go_roundw
        case rel=>exact⟨i,k+1,[xb],g3,cap3,by omega,by omega,by simp only[List.length_singleton];omega,by go_num,by go_num,rfl,by simpa [sv] using hown3,((hbel.alloc hzz _).drew).grown hgrow (by simp;omega) (fun j hj=>(hl j hj).1),HP.out⟩
        case measure=>simp[intOf];omega
       ·rw[List.concat_eq_append] at hout;subst hout;have cz:=hown.cellAt r.length (by simp);have exz:((r++[z]).map sv)[r.length]?=some (sv z):=(by simp);rw[exz] at cz;unfold sv at cz;have dz:(((r.length:Int)+1)==0)=false:=(by rw[bF];omega);have rl:r.length+1<=2097152:=(by simp at hol;omega);have qz0:(0:Int)<=(r.length:Int):=(by omega);have qz1:(r.length:Int)<(r.length:Int)+1:=(by omega);clear exz;by_cases hzx:z=xb
        ·subst hzx;have HP:=Ld (HM.out.trans (by rw[jO]));have HO:=Ld hown;clear HM hown;go_wp2;go_roundw
         case rel=>exact⟨i,k+1,r++[z],g,cp,by omega,by omega,by simp at hol |-;omega,by go_num,by go_num,by simp,HO.out,hbel.drew,HP.out⟩
         case measure=>simp[intOf];omega
        ·have HP:=Ld (HM.out.trans (by rw[mN hzx]));have hzb:(z==xb)=false:=(by rw[bF];exact hzx);clear HM;go_wp2_with (at_builtin;refine wpList_append_lies _ rfl _ _ _ rfl w2.heap.size 9 i0 _ 1 16 Tryz.underlying31 hi hz0 hz1 hz2 rfl (by decide) _ _ _ rfl ((hown.alloc _).drew) ⟨wr.heap.size,0,none⟩ 1 1 [.string ⟨xb.toArray⟩] rfl rfl (fun j u hu=>yI wr _ 9 j u hu) (by simp[Value.oneCell']) (by decide) (by simp only[maxLen];omega) (by omega) (by simp;omega) _ rfl ?_;intro g3 cap3 w3 hown3 hgrow hat hlt3);go_roundw
         case rel=>exact⟨i,k+1,r++[z]++[xb],g3,cap3,by omega,by omega,by simp at hol |-;omega,by go_num,by go_num,by simp,by simpa [sv] using hown3,((hbel.alloc hzz _).drew).grown hgrow (by simp;omega) (fun j hj=>(hl j hj).1),HP.out⟩
         case measure=>simp[intOf];omega
     ·have HM:=Ld (HS.out.trans (zS2 out hi1 (fun hk=>absurd hk hk1)));have db:decide ((B.length:Int)<=(k:Int))=true:=dT (by omega);clear exa HS;generalize A[i]=xa at ca HM;go_wp2_with fail;refine wp_region_held_drew (S:=fun w'=>w'.cell? ⟨g1,i,none⟩=some (.string ⟨xa.toArray⟩)) (by kernel_rfl) ca (fun hS0=>?_);refine qW 0 38 (.int .i64 (k:Int)) hS0 (fun W hSW=>?_) ?_
      ·(try dsimp only at hSW);(try obtain⟨hSA,hSB⟩:=hSW);go_simp<;>omega
      simp only[Act.put,eA,eB,eC];refine qW 1 39 (.slice (some ⟨g2,0,none⟩) B.length c2) hS0 (fun W hSW=>?_) ?_
      ·(try dsimp only at hSW);(try obtain⟨hSA,hSB⟩:=hSW);go_simp<;>omega
      simp only[Act.put,eA,eB,eC];refine qW 2 40 (.int .i64 (B.length:Int)) hS0 (fun W hSW=>?_) ?_
      ·(try dsimp only at hSW);(try obtain⟨hSA,hSB⟩:=hSW);go_simp<;>omega
      simp only[Act.put,eA,eB,eC];refine qW 3 41 (.bool true) hS0 (fun W hSW=>?_) ?_
      ·(try dsimp only at hSW);(try obtain⟨hSA,hSB⟩:=hSW);go_simp<;>omega
      simp only[Act.put,eA,eB,eC];refine qW 4 42 (.bool true) hS0 (fun W hSW=>?_) ?_
      ·(try dsimp only at hSW);(try obtain⟨hSA,hSB⟩:=hSW);go_simp<;>omega
      simp only[Act.put,eA,eB,eC];refine qS 5 43 hS0 ?_;simp only[Act.put,eA,eB,eC];refine qS 6 44 hS0 ?_;simp only[Act.put,eA,eB,eC];refine qS 7 45 hS0 ?_;simp only[Act.put,eA,eB,eC];refine qS 8 46 hS0 ?_;simp only[Act.put,eA,eB,eC];refine qS 9 47 hS0 ?_;simp only[Act.put,eA,eB,eC];refine qS 10 48 hS0 ?_;simp only[Act.put,eA,eB,eC];refine qS 11 49 hS0 ?_;simp only[Act.put,eA,eB,eC];refine qS 12 50 hS0 ?_;simp only[Act.put,eA,eB,eC];refine qS 13 51 hS0 ?_;simp only[Act.put,eA,eB,eC];refine qS 14 52 hS0 ?_;simp only[Act.put,eA,eB,eC];refine qS 15 53 hS0 ?_;simp only[Act.put,eA,eB,eC];refine qS 16 54 hS0 ?_;simp only[Act.put,eA,eB,eC];refine qS 17 55 hS0 ?_;simp only[Act.put,eA,eB,eC];refine qS 18 56 hS0 ?_;simp only[Act.put,eA,eB,eC];refine qS 19 57 hS0 ?_;simp only[Act.put,eA,eB,eC];refine qW 20 58 (.bool true) hS0 (fun W hSW=>?_) ?_
      ·(try dsimp only at hSW);(try obtain⟨hSA,hSB⟩:=hSW);go_simp<;>omega
      simp only[Act.put,eA,eB,eC];refine wpAnyH_done (by kernel_rfl) ?_ _;rcases List.eq_nil_or_concat out with hout|⟨r,z,hout⟩
      ·subst hout;have HP:=Ld (HM.out.trans (by rw[cG]));clear HM;go_wp2_with (at_builtin;refine wpList_append_lies _ rfl _ _ _ rfl w2.heap.size 9 i0 _ 1 16 Tryz.underlying31 hi hz0 hz1 hz2 rfl (by decide) _ _ _ rfl ((hown.alloc _).drew) ⟨wr.heap.size,0,none⟩ 1 1 [.string ⟨xa.toArray⟩] rfl rfl (fun j u hu=>yI wr _ 9 j u hu) (by simp[Value.oneCell']) (by decide) (by simp only[maxLen];omega) (by omega) (by simp;omega) _ rfl ?_;intro g3 cap3 w3 hown3 hgrow hat hlt3);go_roundw
       case rel=>exact⟨i+1,k,[xa],g3,cap3,by omega,by omega,by simp only[List.length_singleton];omega,by go_num,by go_num,rfl,by simpa [sv] using hown3,((hbel.alloc hzz _).drew).grown hgrow (by simp;omega) (fun j hj=>(hl j hj).1),HP.out⟩
       case measure=>simp[intOf];omega
      ·rw[List.concat_eq_append] at hout;subst hout;have cz:=hown.cellAt r.length (by simp);have exz:((r++[z]).map sv)[r.length]?=some (sv z):=(by simp);rw[exz] at cz;unfold sv at cz;have dz:(((r.length:Int)+1)==0)=false:=(by rw[bF];omega);have rl:r.length+1<=2097152:=(by simp at hol;omega);have qz0:(0:Int)<=(r.length:Int):=(by omega);have qz1:(r.length:Int)<(r.length:Int)+1:=(by omega);clear exz;by_cases hzx:z=xa
       ·subst hzx;have HP:=Ld (HM.out.trans (by rw[jO]));have HO:=Ld hown;clear HM hown;go_wp2;go_roundw
        case rel=>exact⟨i+1,k,r++[z],g,cp,by omega,by omega,by simp at hol |-;omega,by go_num,by go_num,by simp,HO.out,hbel.drew,HP.out⟩
        case measure=>simp[intOf];omega
       ·have HP:=Ld (HM.out.trans (by rw[mN hzx]));have hzb:(z==xa)=false:=(by rw[bF];exact hzx);clear HM;go_wp2_with (at_builtin;refine wpList_append_lies _ rfl _ _ _ rfl w2.heap.size 9 i0 _ 1 16 Tryz.underlying31 hi hz0 hz1 hz2 rfl (by decide) _ _ _ rfl ((hown.alloc _).drew) ⟨wr.heap.size,0,none⟩ 1 1 [.string ⟨xa.toArray⟩] rfl rfl (fun j u hu=>yI wr _ 9 j u hu) (by simp[Value.oneCell']) (by decide) (by simp only[maxLen];omega) (by omega) (by simp;omega) _ rfl ?_;intro g3 cap3 w3 hown3 hgrow hat hlt3);go_roundw
        case rel=>exact⟨i+1,k,r++[z]++[xa],g3,cap3,by omega,by omega,by simp at hol |-;omega,by go_num,by go_num,by simp,by simpa [sv] using hown3,((hbel.alloc hzz _).drew).grown hgrow (by simp;omega) (fun j hj=>(hl j hj).1),HP.out⟩
        case measure=>simp[intOf];omega
    ·have da:decide ((i:Int)<(A.length:Int))=false:=dF (by omega);by_cases hk1:k<B.length
     ·have cb:=(hbel.cell (p:=⟨g2,k,none⟩) hg2).trans (ho2.cellAt k (by omega));have exb:(B.map sv)[k]?=some (sv B[k]):=(by simp[hk1]);rw[exb] at cb;unfold sv at cb;have qb1:=zn k;have qb2:(k:Int)<(B.length:Int):=(by omega);have db:decide ((B.length:Int)<=(k:Int))=false:=dF (by omega);have db2:decide ((k:Int)<(B.length:Int))=true:=dT (by omega);have HM:=Ld (HS.out.trans (zB5 out hk1 (fun hi=>absurd hi hi1)));clear exb HS;generalize B[k]=xb at cb HM;go_wp2_with fail;refine wp_region_held_drew (S:=fun w'=>w'.cell? ⟨g2,k,none⟩=some (.string ⟨xb.toArray⟩)) (by kernel_rfl) cb (fun hS0=>?_);refine qW 0 38 (.int .i64 (k:Int)) hS0 (fun W hSW=>?_) ?_
      ·(try dsimp only at hSW);(try obtain⟨hSA,hSB⟩:=hSW);go_simp<;>omega
      simp only[Act.put,eA,eB,eC];refine qW 1 39 (.slice (some ⟨g2,0,none⟩) B.length c2) hS0 (fun W hSW=>?_) ?_
      ·(try dsimp only at hSW);(try obtain⟨hSA,hSB⟩:=hSW);go_simp<;>omega
      simp only[Act.put,eA,eB,eC];refine qW 2 40 (.int .i64 (B.length:Int)) hS0 (fun W hSW=>?_) ?_
      ·(try dsimp only at hSW);(try obtain⟨hSA,hSB⟩:=hSW);go_simp<;>omega
      simp only[Act.put,eA,eB,eC];refine qW 3 41 (.bool false) hS0 (fun W hSW=>?_) ?_
      ·(try dsimp only at hSW);(try obtain⟨hSA,hSB⟩:=hSW);go_simp<;>omega
      simp only[Act.put,eA,eB,eC];refine qW 4 42 (.bool false) hS0 (fun W hSW=>?_) ?_
      ·(try dsimp only at hSW);(try obtain⟨hSA,hSB⟩:=hSW);go_simp<;>omega
      simp only[Act.put,eA,eB,eC];refine qW 5 43 (.int .i64 (i:Int)) hS0 (fun W hSW=>?_) ?_
      ·(try dsimp only at hSW);(try obtain⟨hSA,hSB⟩:=hSW);go_simp<;>omega
      simp only[Act.put,eA,eB,eC];refine qW 6 44 (.slice (some ⟨g1,0,none⟩) A.length c1) hS0 (fun W hSW=>?_) ?_
      ·(try dsimp only at hSW);(try obtain⟨hSA,hSB⟩:=hSW);go_simp<;>omega
      simp only[Act.put,eA,eB,eC];refine qW 7 45 (.int .i64 (A.length:Int)) hS0 (fun W hSW=>?_) ?_
      ·(try dsimp only at hSW);(try obtain⟨hSA,hSB⟩:=hSW);go_simp<;>omega
      simp only[Act.put,eA,eB,eC];refine qW 8 46 (.bool false) hS0 (fun W hSW=>?_) ?_
      ·(try dsimp only at hSW);(try obtain⟨hSA,hSB⟩:=hSW);go_simp<;>omega
      simp only[Act.put,eA,eB,eC];refine qW 9 47 (.bool false) hS0 (fun W hSW=>?_) ?_
      ·(try dsimp only at hSW);(try obtain⟨hSA,hSB⟩:=hSW);go_simp<;>omega
      simp only[Act.put,eA,eB,eC];refine qS 10 48 hS0 ?_;simp only[Act.put,eA,eB,eC];refine qS 11 49 hS0 ?_;simp only[Act.put,eA,eB,eC];refine qS 12 50 hS0 ?_;simp only[Act.put,eA,eB,eC];refine qS 13 51 hS0 ?_;simp only[Act.put,eA,eB,eC];refine qS 14 52 hS0 ?_;simp only[Act.put,eA,eB,eC];refine qS 15 53 hS0 ?_;simp only[Act.put,eA,eB,eC];refine qS 16 54 hS0 ?_;simp only[Act.put,eA,eB,eC];refine qS 17 55 hS0 ?_;simp only[Act.put,eA,eB,eC];refine qS 18 56 hS0 ?_;simp only[Act.put,eA,eB,eC];refine qW 19 57 (.bool false) hS0 (fun W hSW=>?_) ?_
      ·(try dsimp only at hSW);(try obtain⟨hSA,hSB⟩:=hSW);go_simp<;>omega
      simp only[Act.put,eA,eB,eC];refine qW 20 58 (.bool false) hS0 (fun W hSW=>?_) ?_
      ·(try dsimp only at hSW);(try obtain⟨hSA,hSB⟩:=hSW);go_simp<;>omega
      simp only[Act.put,eA,eB,eC];refine wpAnyH_done (by kernel_rfl) ?_ _;rcases List.eq_nil_or_concat out with hout|⟨r,z,hout⟩
      ·subst hout;have HP:=Ld (HM.out.trans (by rw[cG]));clear HM;go_wp2_with (at_builtin;refine wpList_append_lies _ rfl _ _ _ rfl w2.heap.size 9 i0 _ 1 16 Tryz.underlying31 hi hz0 hz1 hz2 rfl (by decide) _ _ _ rfl ((hown.alloc _).drew) ⟨wr.heap.size,0,none⟩ 1 1 [.string ⟨xb.toArray⟩] rfl rfl (fun j u hu=>yI wr _ 9 j u hu) (by simp[Value.oneCell']) (by decide) (by simp only[maxLen];omega) (by omega) (by simp;omega) _ rfl ?_;intro g3 cap3 w3 hown3 hgrow hat hlt3);go_roundw
       case rel=>exact⟨i,k+1,[xb],g3,cap3,by omega,by omega,by simp only[List.length_singleton];omega,by go_num,by go_num,rfl,by simpa [sv] using hown3,((hbel.alloc hzz _).drew).grown hgrow (by simp;omega) (fun j hj=>(hl j hj).1),HP.out⟩
       case measure=>simp[intOf];omega
      ·rw[List.concat_eq_append] at hout;subst hout;have cz:=hown.cellAt r.length (by simp);have exz:((r++[z]).map sv)[r.length]?=some (sv z):=(by simp);rw[exz] at cz;unfold sv at cz;have dz:(((r.length:Int)+1)==0)=false:=(by rw[bF];omega);have rl:r.length+1<=2097152:=(by simp at hol;omega);have qz0:(0:Int)<=(r.length:Int):=(by omega);have qz1:(r.length:Int)<(r.length:Int)+1:=(by omega);clear exz;by_cases hzx:z=xb
       ·subst hzx;have HP:=Ld (HM.out.trans (by rw[jO]));have HO:=Ld hown;clear HM hown;go_wp2;go_roundw
        case rel=>exact⟨i,k+1,r++[z],g,cp,by omega,by omega,by simp at hol |-;omega,by go_num,by go_num,by simp,HO.out,hbel.drew,HP.out⟩
        case measure=>simp[intOf];omega
       ·have HP:=Ld (HM.out.trans (by rw[mN hzx]));have hzb:(z==xb)=false:=(by rw[bF];exact hzx);clear HM;go_wp2_with (at_builtin;refine wpList_append_lies _ rfl _ _ _ rfl w2.heap.size 9 i0 _ 1 16 Tryz.underlying31 hi hz0 hz1 hz2 rfl (by decide) _ _ _ rfl ((hown.alloc _).drew) ⟨wr.heap.size,0,none⟩ 1 1 [.string ⟨xb.toArray⟩] rfl rfl (fun j u hu=>yI wr _ 9 j u hu) (by simp[Value.oneCell']) (by decide) (by simp only[maxLen];omega) (by omega) (by simp;omega) _ rfl ?_;intro g3 cap3 w3 hown3 hgrow hat hlt3);go_roundw
        case rel=>exact⟨i,k+1,r++[z]++[xb],g3,cap3,by omega,by omega,by simp at hol |-;omega,by go_num,by go_num,by simp,by simpa [sv] using hown3,((hbel.alloc hzz _).drew).grown hgrow (by simp;omega) (fun j hj=>(hl j hj).1),HP.out⟩
        case measure=>simp[intOf];omega
     ·have db2:decide ((k:Int)<(B.length:Int))=false:=dF (by omega);have HM:=Ld (HS.out.trans (yQ7 out hi1 hk1));have HO:=Ld hown;clear HS hown;go_wp2;go_ret;rw[HR.out,HM.out];exact⟨_,rfl,yE9 HO.out hzw,hB2.trans (hbel.mono hzw)⟩
noncomputable def vE (l:List UInt8):List (List UInt8):=match vQ l with
|some T=>xI6 T.cnames
|none=>[]
theorem zU0(l:List UInt8):(vE l).length<=2000:=by
 unfold vE;cases h:vQ l with
|none=>exact Nat.zero_le _
|some t =>
  have h1:=(vF h).2;have h2:=t.cnames_len;have h3:=t.size_le;have h4:=(mG _ t.cnames (nR _)).2.2;show (xI6 t.cnames).length<=2000;rw[← h1.1] at h1;have:=h1.2;omega
theorem zI9{w:World}{b:Nat}{v:Value}{l:List BL}(h:w.ownsRow b 9 1 v l.length (l.map sv))(hv:v≠.slice none 0 0):yL9 w v l:=by
 rcases h.2 with ⟨e,_⟩|⟨g,cap,cur,rfl,hb,hg,hn,hm,hs,ht⟩
 ·exact absurd e hv
 ·have hlt:g<w.heap.size:=(h.lt g rfl).2;refine⟨g,0,cap,rfl,hn,hm,hlt,fun j hj=>?_⟩;rw[Nat.zero_add,h.cellAt j (by omega)];simp[hj]
theorem zV2(s:ByteArray)(w:World)(hs:s.size<=maxLen) :
  Calls Tryz.prog 235 #[.string s] w (oS (vE s.data.toList) w):=by
 have f1:=Ld (tN s (w.alloc (.cells #[] 9)) hs);obtain⟨i0,hi,iz0,iz1,iz2⟩:=info_parts tF;have HO00:Hid ((w.alloc (.cells #[] 9)).ownsRow w.heap.size 9 1 (.slice (some ⟨w.heap.size,0,none⟩) 0 0) 0 []):=World.ownsRow_lit w #[] 0 (nR _) (by decide) (by simp);have HB00:Hid (Below w.heap.size w (w.alloc (.cells #[] 9))):=Below.alloc (bR _ _) (nR _) _;go_enter Tryz.func235,Tryz.ntmps235;go_wp2_with fail;(with_reducible refine f1.out.mono ?_);rintro e W ⟨v,ns,rfl,hrow,hb,hsl,hcase⟩;have HOW0:Hid (W.ownsRow w.heap.size 9 1 (.slice (some ⟨w.heap.size,0,none⟩) 0 0) 0 []):=zA HO00.out hb;have HBW:Hid (Below w.heap.size w W):=HB00.out.trans (hb.mono HB00.out.size);have hzW:(w.alloc (.cells #[] 9)).heap.size<=W.heap.size:=hb.size;obtain⟨B,hB⟩:∃ B,(w.alloc (.cells #[] 9)).heap.size=B:=⟨_,rfl⟩;rw[hB] at hrow hcase hzW;have hBs:B=w.heap.size+1:=by rw[← hB];simp
 have HOF0:Hid (Off B W.heap.size (.slice (some ⟨w.heap.size,0,none⟩) 0 0)):=fun k hk=>by
  cases hk;exact .inl (show w.heap.size<B by rw[hBs];exact Nat.lt_succ_self _)
 have HE:Hid (vE s.data.toList=xI6 ((List.range ns.length).flatMap (rR ns))/\ns.length<=2000):=by
  rcases hcase with ⟨t,ht,hn,hr⟩|⟨hno,rfl⟩
  ·have hle:=ht.2.2;rw[← ht.2.1] at hle;have hszl:=t.size_le;exact⟨by rw[vE,zY ht,yF3 hr hn],by omega⟩
  ·exact⟨by rw[vE,yR hno];simp[jZ],Nat.zero_le _⟩
 clear hB HB00 HO00 hb f1 hBs hcase hsl;obtain⟨va,vc,rfl⟩:=xE hrow;have hn2:=HE.out.2;have HROW:=Ld hrow;clear hrow;go_wp2
 go_loopw [3,5] (fun o i wr=>∃ (j:Nat) (oo:Value) (l:List BL),i=.int .i64 (j:Int)/\oo=o/\j<=ns.length/\Hid (l=(List.range j).flatMap (rR ns))/\oo≠.slice none 0 0 /\
  wr.ownsRow w.heap.size 9 1 oo l.length (l.map sv)/\Hid (Off B W.heap.size oo)/\Below w.heap.size w wr/\nE B W wr/\W.heap.size<=wr.heap.size) (fun _ i _=>ns.length - (intOf i).toNat)
 case atStart=>exact⟨0,_,[],by go_num,rfl,Nat.zero_le _,by simp[Hid],by simp,HOW0.out,HOF0,HBW.out,nE.refl _ _,nR _⟩
 case round =>
  obtain⟨j,oo,l,rfl,rfl,hjn,HL,hne,hown,HOF,hbr,hka,hzr⟩:=hrel;clear HOW0 HOF0 HBW;have HLL:Hid (l.length<=j):=(by rw[Hid,HL.out];exact zB2 ns j);have HNE:=Ld hne;clear hne;have q1:=zn j;by_cases hlt:j<ns.length
  ·obtain⟨nd,hnd⟩:∃ nd,ns[j]?=some nd:=⟨ns[j],by simp[hlt]⟩;have hrowr:=hka _ _ _ _ _ HROW.out;obtain⟨g,cap,e0,_,hgl⟩:=hrowr.form (by omega);cases e0;have c0:wr.cell? ⟨g,j*7,none⟩=some (.int .u8 (nd.kind.toNat:Int)):=xP hrowr hnd 0 (by decide);have q2:(j:Int)<(ns.length:Int):=(by omega);by_cases hk:nd.kind=99
   ·have HT:Hid ((List.range (j+1)).flatMap (rR ns)=l++[nd.text]):=(by rw[Hid,lW,vL hnd,iP hk,HL.out]);have c5:wr.cell? ⟨g,j*7+5,none⟩=some (.string ⟨nd.text.toArray⟩):=xP hrowr hnd 5 (by decide);rw[hk] at c0;have c0':wr.cell? ⟨g,j*7,none⟩=some (.int .u8 99):=c0;have hB2:=Ld hbr;have hK2:=Ld hka;have hz2:=hbr.size;have HOW:=Ld hown;have hrow2:Hid (∀ k,oo.ownBlock=some k->w.heap.size<=k):=fun k hk=>(hown.lt k hk).1;have hll:=HLL.out;generalize nd.text=yb at c5 HT;clear c0 hnd hk hrowr HL HLL hbr hka hown;go_wp2_with (at_builtin;refine wpList_append_lies _ rfl _ _ 31 rfl w.heap.size 9 i0 _ 1 16 Tryz.underlying31 hi iz0 iz1 iz2 rfl (by decide) _ _ _ rfl (HOW.out.alloc _) ⟨wr.heap.size,0,none⟩ 1 1 [.string ⟨yb.toArray⟩] rfl rfl (yI _ _ _) (by simp[Value.oneCell']) (by decide) (by simp only[maxLen];omega) (by omega) (by simp;omega) _ rfl ?_;intro g3 cap3 w3 ho3 hg3 hat3 hlt3);have HO3:Hid (w3.ownsRow w.heap.size 9 1 (.slice (some ⟨g3,0,none⟩) (l.length+1) cap3) (l++[yb]).length ((l++[yb]).map sv)):=by
     rw[Hid,List.map_append,show (l++[yb]).length=l.length+1 by simp];exact ho3
    have HOF3:Hid (Off B W.heap.size (.slice (some ⟨g3,0,none⟩) (l.length+1) cap3)):=fun k hk=>by
     cases hk;rcases hat3 with h|h
     ·exact HOF.out _ h
     ·refine .inr ?_;simp at h;show W.heap.size<=g3;omega
    have HB3:Hid (Below w.heap.size w w3):=(hB2.out.alloc hz2 _).grown hg3 (by simp;omega) (fun k hk=>hrow2.out k hk);have HZ3:Hid (W.heap.size<=w3.heap.size):=(by have:=hg3.size;simp at this;rw[Hid];omega);have HK3:Hid (nE B W w3):=(hK2.out.below (Below.alloc (bR _ _) (nR _) _)).step hg3 HOF.out;clear ho3 hg3 hat3 hlt3 c0' c5;go_wp2;go_roundw
    case rel=>exact⟨j+1,_,l++[yb],by go_num,rfl,by omega,HT.out.symm,by simp,HO3.out,HOF3,HB3.out,HK3.out,HZ3.out⟩
    case measure=>simp[intOf];omega
   ·have b0:((nd.kind.toNat:Int)==99)=false:=zQ (d:=99) hk;have HT:Hid ((List.range (j+1)).flatMap (rR ns)=l):=(by rw[Hid,lW,vL hnd,iN hk,HL.out,List.append_nil]);have HOW:=Ld hown;have HBR:=Ld hbr;have HKA:=Ld hka;have HZR:=Ld hzr;generalize nd.kind=kd at c0 b0;clear hnd hk hrowr HL HLL hbr hka hown;go_wp2;go_roundw
    case rel=>exact⟨j+1,_,l,by go_num,rfl,by omega,HT.out.symm,HNE.out,HOW.out,HOF,HBR.out,HKA.out,HZR.out⟩
    case measure=>simp[intOf];omega
  ·have hj:j=ns.length:=(by omega);have HR:Hid (vE s.data.toList=xI6 l):=(by rw[Hid,HE.out.1,HL.out,hj]);have q2:¬ (j:Int)<(ns.length:Int):=(by omega);have hll:=HLL.out;have f3:=Ld (zV3 l.length l (nR _) (by omega) wr oo (zI9 hown HNE.out));have HBR:=Ld hbr;clear hown hbr hka HL HLL HNE hj;go_wp2_with fail;(with_reducible refine f3.out.mono ?_);rintro e w4 ⟨u,rfl,hu,hb4⟩;have HU:Hid (w4.ownsRow w.heap.size 9 1 u (vE s.data.toList).length ((vE s.data.toList).map sv)):=(by rw[Hid,HR.out];exact iO hu HBR.out.size);have HB4:Hid (Below w.heap.size w w4):=HBR.out.trans (hb4.mono HBR.out.size);clear hu hb4 f3;go_wp2;go_ret;exact⟨_,rfl,HU.out,HB4.out⟩
theorem eS{w:World}{b n:Nat}{v:Value}{xs:List Value}(h:w.ownsRow b 9 1 v n xs)(h0:n=0):∃ a cap,v=.slice a 0 cap:=by
 subst h0;rcases h.2 with ⟨rfl,_⟩|⟨g,cap,cur,rfl,_⟩
 ·exact⟨_,_,rfl⟩
 ·exact⟨_,_,rfl⟩
def xJ2 (l:List (List UInt8)) (y:List UInt8):Bool:=decide (y∈l)
theorem xE6{l:List (List UInt8)}{y:List UInt8}{k:Nat}(h:k<l.length)(he:l[k]=y):xJ2 l y=true:=by
 simp only[xJ2,decide_eq_true_eq];rw[← he];exact List.getElem_mem h
theorem yS2{l:List (List UInt8)}{y:List UInt8}{k:Nat}(h:k<l.length)(h0:xJ2 (l.take k) y=false)(he:l[k]≠y):xJ2 (l.take (k+1)) y=false:=by
 simp only[xJ2,decide_eq_false_iff_not] at h0 |-;rw[List.take_succ_eq_append_getElem h,List.mem_append];rintro (h1|h1)
 ·exact h0 h1
 ·exact he (List.mem_singleton.1 h1).symm
end Go.Proofs.YtcaahdjhbmmcnaaGreatDoor
namespace Go.Proofs.YtcaahdjhbmmcnaaGreatDoor
inductive Lv where
|z|par (k:Fin 3)|up (t:Lv)|mx (a b:Lv)|im (a b:Lv)
def Lv.bytes:Lv->List UInt8
|.z=>[122]
|.par k=>[117,UInt8.ofNat (48+k.val)]
|.up t=>43::t.bytes
|.mx a b=>109::(a.bytes++b.bytes)
|.im a b=>105::(a.bytes++b.bytes)
def Lv.val (V:Fin 3->Nat):Lv->Nat
|.z=>0
|.par k=>V k
|.up t=>t.val V+1
|.mx a b=>max (a.val V) (b.val V)
|.im a b=>if b.val V=0 then 0 else max (a.val V) (b.val V)
def Lv.ups:Lv->Nat
|.z=>0
|.par _=>0
|.up t=>t.ups+1
|.mx a b=>a.ups+b.ups
|.im a b=>a.ups+b.ups
theorem Lv.par_byte(k:Fin 3):48<=(UInt8.ofNat (48+k.val)).toNat/\(UInt8.ofNat (48+k.val)).toNat<=50/\(UInt8.ofNat (48+k.val)).toNat - 48=k.val:=by
 have:=k.isLt;have e:(UInt8.ofNat (48+k.val)).toNat=48+k.val:=by
  rw[UInt8.toNat_ofNat'];exact Nat.mod_eq_of_lt (by omega)
 rw[e];omega
theorem Lv.val_le{V:Fin 3->Nat}{M:Nat}(h:∀ k,V k<=M):∀ t:Lv,t.val V<=M+t.ups
|.z=>Nat.zero_le _
|.par k=>by simp only[Lv.val,Lv.ups];have:=h k;omega
|.up t=>by have:=Lv.val_le h t;simp only[Lv.val,Lv.ups];omega
|.mx a b=>by have:=Lv.val_le h a;have:=Lv.val_le h b;simp only[Lv.val,Lv.ups];omega
|.im a b=>by have:=Lv.val_le h a;have:=Lv.val_le h b;simp only[Lv.val,Lv.ups];split<;>omega
theorem Lv.ups_lt:∀ t:Lv,t.ups<t.bytes.length
|.z=>by simp[Lv.ups,Lv.bytes]
|.par k=>by simp[Lv.ups,Lv.bytes]
|.up t=>by have:=Lv.ups_lt t;simp only[Lv.ups,Lv.bytes,lC];omega
|.mx a b=>by have:=Lv.ups_lt a;have:=Lv.ups_lt b;simp only[Lv.ups,Lv.bytes,lC,lA];omega
|.im a b=>by have:=Lv.ups_lt a;have:=Lv.ups_lt b;simp only[Lv.ups,Lv.bytes,lC,lA];omega
def asV (vs:List Nat) (k:Fin 3):Nat:=vs.getD k.val 0
def lY (vs:List Nat):List UInt8->List Nat
|[]=>[]
|[c]=>if c=122 then [0] else []
|c::d::r =>
  if c=122 then 0::lY vs (d::r)
  else if c=117 then vs.getD (d.toNat - 48) 0::lY vs r
  else match lY vs (d::r) with
  |[]=>[]
  |x::s=>if c=43 then (x+1)::s else match s with
   |[]=>[]
   |y::q=>if c=109 then max x y::q else (if y=0 then 0 else max x y)::q
termination_by l=>l.length
def zI7 (vs:List Nat) (l:List UInt8):Nat:=(lY vs l).headD 0
theorem Lv.bytes_ne(t:Lv):∃ c r,t.bytes=c::r:=by cases t<;>exact⟨_,_,rfl⟩
theorem sR(vs:List Nat):∀ (t:Lv) (r:List UInt8),lY vs (t.bytes++r)=t.val (asV vs)::lY vs r
|.z,r=>by
  cases r with
 |nil=>rw[Lv.bytes,List.append_nil,lY,lY];rfl
 |cons d r=>rw[Lv.bytes,List.singleton_append,lY];rfl
|.par k,r=>by
  rw[Lv.bytes,List.cons_append,List.cons_append,List.nil_append,lY,iN (by decide),iP rfl,(Lv.par_byte k).2.2];rfl
|.up t,r=>by
  obtain⟨c,q,e⟩:=t.bytes_ne;have ih:=sR vs t r;rw[e,List.cons_append] at ih;rw[Lv.bytes,e,List.cons_append,List.cons_append,lY,iN (by decide),iN (by decide),ih];rfl
|.mx a b,r=>by
  obtain⟨c,q,e⟩:=a.bytes_ne;have ih:=sR vs a (b.bytes++r);rw[sR vs b r,e,List.cons_append] at ih;rw[Lv.bytes,List.cons_append,List.append_assoc,e,List.cons_append,lY,iN (by decide),iN (by decide),ih];rfl
|.im a b,r=>by
  obtain⟨c,q,e⟩:=a.bytes_ne;have ih:=sR vs a (b.bytes++r);rw[sR vs b r,e,List.cons_append] at ih;rw[Lv.bytes,List.cons_append,List.append_assoc,e,List.cons_append,lY,iN (by decide),iN (by decide),ih];rfl
theorem zC6(vs:List Nat)(t:Lv):zI7 vs t.bytes=t.val (asV vs):=by
 have:=sR vs t [];rw[List.append_nil] at this;rw[zI7,this];rfl
theorem zY0:∀ (l:List UInt8) (n:Nat),xW n l=some l.length->∃ ts:List Lv,ts.length=n/\l=ts.flatMap Lv.bytes:=by
 refine pF (motive:=fun n l=>xW n l=some l.length->∃ ts:List Lv,ts.length=n/\l=ts.flatMap Lv.bytes) ?_ ?_ ?_ ?_ ?_ ?_ ?_
 ·intro l h;rw[uA] at h;have:l=[]:=List.eq_nil_of_length_eq_zero (Option.some.inj h).symm;exact⟨[],rfl,this⟩
 ·intro n h;rw[tD] at h;cases h
 ·intro n r ih h;rw[pP] at h;obtain⟨j,hj,e⟩:=Option.map_eq_some_iff.1 h;obtain⟨ts,h1,h2⟩:=ih (by rw[hj];congr 1;simpa using e);exact⟨.z::ts,by simp[h1],by rw[List.flatMap_cons,← h2];rfl⟩
 ·intro n r ih h;rw[sE] at h;obtain⟨j,hj,e⟩:=Option.map_eq_some_iff.1 h;obtain⟨ts,h1,h2⟩:=ih (by rw[hj];congr 1;simpa using e)
  match ts,h1 with
 |t::ts,h1=>exact⟨.up t::ts,h1,by rw[h2,List.flatMap_cons,List.flatMap_cons];rfl⟩
 ·intro n c r hc ih h;rw[uD n hc] at h;obtain⟨j,hj,e⟩:=Option.map_eq_some_iff.1 h;obtain⟨ts,h1,h2⟩:=ih (by rw[hj];congr 1;simpa using e)
  match ts,h1 with
 |t::u::ts,h1 =>
   rcases hc with rfl|rfl
   ·exact⟨.mx t u::ts,by simpa using h1,by rw[h2,List.flatMap_cons,List.flatMap_cons,List.flatMap_cons,Lv.bytes,List.cons_append,List.append_assoc]⟩
   ·exact⟨.im t u::ts,by simpa using h1,by rw[h2,List.flatMap_cons,List.flatMap_cons,List.flatMap_cons,Lv.bytes,List.cons_append,List.append_assoc]⟩
 ·intro n d r g1 g2 ih h;rw[uL n g1 g2] at h;obtain⟨j,hj,e⟩:=Option.map_eq_some_iff.1 h;obtain⟨ts,h1,h2⟩:=ih (by rw[hj];congr 1;simpa using e);refine⟨.par ⟨d.toNat - 48,by omega⟩::ts,by simp[h1],?_⟩;rw[List.flatMap_cons,← h2,Lv.bytes];have:UInt8.ofNat (48+(d.toNat - 48))=d:=(by rw[show 48+(d.toNat - 48)=d.toNat by omega];exact UInt8.ofNat_toNat);simp only[this,List.cons_append,List.nil_append]
 ·intro n c r h0 h;rw[h0] at h;cases h
theorem oY{l:List UInt8}(h:zD l=true):∃ t:Lv,l=t.bytes:=by
 obtain⟨ts,h1,h2⟩:=zY0 l 1 (zK h).2
 match ts,h1 with
|[t],_=>exact⟨t,by simpa using h2⟩
theorem qL:∀ (t:Lv) (n:Nat) (r:List UInt8),xW (n+1) (t.bytes++r)=(xW n r).map (·+t.bytes.length)
|.z,n,r=>pP n r
|.par k,n,r=>by
  rw[Lv.bytes,List.cons_append,List.cons_append,List.nil_append,uL n (Lv.par_byte k).1 (Lv.par_byte k).2.1];rfl
|.up t,n,r=>by
  rw[Lv.bytes,List.cons_append,sE,qL t n r,Option.map_map];congr 1
|.mx a b,n,r=>by
  rw[Lv.bytes,List.cons_append,List.append_assoc,uD n (.inl rfl),qL a (n+1),qL b n,Option.map_map,Option.map_map];congr 1
  funext x
  simp only[Function.comp,lC,lA];omega
|.im a b,n,r=>by
  rw[Lv.bytes,List.cons_append,List.append_assoc,uD n (.inr rfl),qL a (n+1),qL b n,Option.map_map,Option.map_map];congr 1
  funext x
  simp only[Function.comp,lC,lA];omega
theorem yX3(t:Lv)(h:t.bytes.length<=60):zD t.bytes=true:=by
 have:=qL t 0 [];rw[List.append_nil,uA] at this;rw[zD,dT h,this];simp
def pD (l:List UInt8) (vs:List Int):Int :=
 if zD l=true/\vs.length<=3/\zE l<=vs.length/\(∀ x∈vs,0<=x/\x<=1000) then (zI7 (vs.map Int.toNat) l:Int) else -1
def vJ (k i:Nat):Nat:=if i=0 then 0 else if i=1 then 1 else k
def yP (k i:Nat):List Nat:=[vJ k (i / 9),vJ k (i / 3 % 3),vJ k (i % 3)]
def mA (a b:List UInt8) (vs:List Nat):Bool:=decide (zI7 vs b<zI7 vs a)
def aI (a b:List UInt8):Option Nat:=(List.range 27).find? fun i=>mA a b (yP (2+zZ a+zZ b) i)
def xL (a b:List UInt8):Option (List Nat) :=
 if zD a=true/\zD b=true then (aI a b).map (yP (2+zZ a+zZ b)) else none
def xQ (a b:List UInt8):Bool:=zD a&&zD b&&(xL a b).isNone
end Go.Proofs.YtcaahdjhbmmcnaaGreatDoor
namespace Go.Proofs.YtcaahdjhbmmcnaaGreatDoor
open Go
noncomputable def zS (self name dom:List UInt8):Int :=
 if yB dom=true then (if xJ2 (vE dom) name=true then (if ((zJ dom).any fun x=>xJ2 (vE x) name)=true then 2 else if yN dom=self then 1 else 2) else 0) else 2
noncomputable def xD (d:Dc):Bool:=decide (d.kind=4)&&zT d
noncomputable def xS (d:Dc) (k:Int):Bool:=xD d&&(decide (0<=k)&&decide (k<(d.ctors.length:Int)))
def yU (d:Dc) (k:Int):List UInt8:=match d.ctors[k.toNat]? with
|some c=>c.2
|none=>[]
noncomputable def yS (d:Dc) (k:Int):List Int:=if xS d k=true then (zJ (yU d k)).map fun x=>zS (zM d) d.name x else []
noncomputable def yT (d:Dc) (k:Int):Bool:=xS d k&&decide (yN (yU d k)=zM d)
def vT (l:List UInt8):List UInt8:=(l.drop 1).take (l.length - 2)
noncomputable def uB (d:Dc):Bool:=xD d&&xQ [43,122] (vT d.type)
theorem gZ{self name dom:List UInt8}(h:yB dom=false):zS self name dom=2:=by
 unfold zS;rw[h];rfl
theorem aD{self name dom:List UInt8}(h:yB dom=true)(h1:xJ2 (vE dom) name=false):zS self name dom=0:=by
 unfold zS;rw[h,h1];rfl
theorem zI0{self name dom:List UInt8}(h:yB dom=true)(h1:xJ2 (vE dom) name=true)(h2:((zJ dom).any fun x=>xJ2 (vE x) name)=true):zS self name dom=2:=by
 unfold zS;rw[h,h1,h2];rfl
theorem aC{self name dom:List UInt8}(h:yB dom=true)(h1:xJ2 (vE dom) name=true)(h2:((zJ dom).any fun x=>xJ2 (vE x) name)=false):zS self name dom=if yN dom=self then 1 else 2:=by
 unfold zS;rw[h,h1,h2];rfl
theorem zQ1(self name dom:List UInt8):0<=zS self name dom/\zS self name dom<=2:=by
 unfold zS;split
 ·split
  ·split
   ·decide
   ·split<;>decide
  ·decide
 ·decide
theorem tE{d:Dc}{k:Int}(h:xS d k=true):0<=k/\k<(d.ctors.length:Int)/\xD d=true:=by
 simp only[xS,Bool.and_eq_true,decide_eq_true_eq] at h;exact⟨h.2.1,h.2.2,h.1⟩
theorem uQ{d:Dc}{k:Nat}(h:k<d.ctors.length):yU d (k:Int)=d.ctors[k].2:=by
 unfold yU;rw[Int.toNat_natCast,List.getElem?_eq_getElem h]
theorem nB{ts:List Tm}{t:Tm}(h:t∈ts):t.bytes.length<(pR ts).length:=by
 induction ts with
|nil=>cases h
|cons a ts ih =>
  rw[show pR (a::ts)=(112::a.bytes)++pR ts from rfl,lA,lC];rcases List.mem_cons.1 h with rfl|h
  ·omega
  ·have:=ih h;omega
theorem uC(l:List UInt8):∀ x∈zJ l,x.length<=2000:=by
 intro x hx;unfold zJ at hx;cases h:vQ l with
|none=>rw[h] at hx;cases hx
|some t =>
  rw[h] at hx;obtain⟨a,ha,rfl⟩:=List.mem_map.1 hx;have h1:=(vF h).2;have h2:=tG t;have h3:=nB ha;have h4:=congrArg List.length h2;rw[lA] at h4;rw[← h1.1] at h1;have:=h1.2;omega
theorem zA4(d:Dc)(k:Int):(yS d k).length<=2000:=by
 unfold yS;split
 ·rw[List.length_map];exact vP _
 ·exact Nat.zero_le _
theorem oN(t:Tm):2<=t.bytes.length:=by
 cases t with
|var n=>simp[Tm.bytes]
|sort l=>simp[Tm.bytes]
|const n ls=>simp[Tm.bytes];omega
|app a b=>have:=a.bytes_pos;simp[Tm.bytes];omega
|lam a b=>have:=a.bytes_pos;simp[Tm.bytes];omega
|pi a b=>have:=a.bytes_pos;simp[Tm.bytes];omega
|lett a b c=>have:=a.bytes_pos;simp[Tm.bytes];omega
theorem zR1{l:List UInt8}(h:xC l=[115]):2<=l.length:=by
 unfold xC at h;split at h
 ·rename_i h1;unfold yB at h1;cases ht:vQ l with
 |none=>rw[ht] at h1;cases h1
 |some t =>
   have h2:=(vF ht).2;rw[← h2.1];exact oN t
 ·cases h
end Go.Proofs.YtcaahdjhbmmcnaaGreatDoor
namespace Go.Proofs.YtcaahdjhbmmcnaaGreatDoor
open Go.ChangeShapes Go.WideShapes Go.ChangeAt Go.RowKit
theorem eP(s:ByteArray)(w:World)(hs:s.size<=maxLen) :
  Rt 167 #[.string s] w (.string ⟨(yN s.data.toList).toArray⟩):=by
 have f1:=Ld (tN s w hs);go_enter Tryz.func167,Tryz.ntmps167;go_wp2_with fail;(with_reducible refine f1.out.mono ?_);rintro e W ⟨v,ns,rfl,hrow,hb,hsl,(⟨t,ht,hn,hr⟩|⟨hno,rfl⟩)⟩;rotate_left
 ·obtain⟨la,lc,rfl⟩:=xE hrow;have HE:Hid (yN s.data.toList=[]):=(by rw[Hid,yN,yR hno]);have HB:=Ld hb;clear hrow hno hb f1 hsl;go_wp2;go_ret;rw[HE.out];exact⟨rfl,HB.out⟩
 have HE:Hid (yN s.data.toList=t.targ.bytes):=by rw[Hid,yN,zY ht]
 have hle:=ht.2.2;rw[← ht.2.1] at hle;have hsz:=t.size_pos;have hszl:=t.size_le;have hn2:ns.length<=100000:=by omega
 obtain⟨k0,hk0⟩:∃ k0,ns.length=k0+1:=⟨ns.length - 1,by omega⟩;have HR0:Hid (sL W w.heap.size ns k0 t/\t.Ok/\t.bytes.length<=2000):=⟨by rw[show k0=ns.length - 1 by omega];exact hr,ht.1,hle⟩;have HB:=Ld hb;have HSL:=Ld hsl;obtain⟨g,cap,rfl,_,hgl⟩:=hrow.form (by omega);have HROW:=Ld hrow;have d0:(((ns.length:Nat):Int)==0)=false:=beq_eq_false_iff_ne.2 (by omega);have d0':(((k0:Int)+1)==0)=false:=beq_eq_false_iff_ne.2 (by omega);have HK0:=Ld hk0;rw[hk0];clear f1 ht hsz hszl hb hsl hrow hr hle hn;go_wp2;go_loopw [4] (fun i wr=>∃ (j:Nat) (u:Tm),i=.int .i64 (j:Int)/\Hid (j<ns.length/\sL W w.heap.size ns j u/\u.Ok/\u.bytes.length<=2000/\u.targ=t.targ)/\wr=W) (fun i _=>(intOf i).toNat)
 case atStart=>exact⟨k0,t,by go_num,⟨by omega,HR0.out.1,HR0.out.2.1,HR0.out.2.2,rfl⟩,rfl⟩
 case round =>
  obtain⟨j,u,rfl,HU,rfl⟩:=hrel;obtain⟨nd,hnd,hkd⟩:=HU.out.2.1.1.kindAt;have hjl:=HU.out.1;have c0:wr.cell? ⟨g,j*7,none⟩=some (.int .u8 (nd.kind.toNat:Int)):=xP HROW.out hnd 0 (by decide);rw[hkd] at c0;have q1:=zn j;have q2:(j:Int)<(k0:Int)+1:=(by omega);by_cases hk:u.kind=112
  ·obtain⟨x,y,rfl⟩:=hJ hk;obtain⟨nd2,h1,h2,h3,h4,h5,h6⟩:=HU.out.2.1.piAt;obtain rfl:nd=nd2:=Option.some.inj (hnd.symm.trans h1);have c1:wr.cell? ⟨g,j*7+2,none⟩=some (.int .i64 (nd.b:Int)):=xP HROW.out hnd 2 (by decide);have HN:Hid (nd.b<ns.length/\sL wr w.heap.size ns nd.b y/\y.Ok/\y.bytes.length<=2000/\y.targ=t.targ) := ⟨by omega,h6,HU.out.2.2.1.2,by have:=HU.out.2.2.2.1;simp only[Tm.bytes,lC,lA] at this;omega,HU.out.2.2.2.2⟩;have hz:nd.b<j:=h4;generalize nd.b=jn at c1 HN hz;have c0':wr.cell? ⟨g,j*7,none⟩=some (.int .u8 112):=c0;clear c0 HU hnd hkd h1 h2 h3 h4 h5 h6 HR0 hk;go_wp2;go_roundw
   case rel=>exact⟨jn,_,rfl,HN.out,trivial⟩
   case measure=>simp[intOf];omega
  ·have b0:((u.kind.toNat:Int)==112)=false:=zQ (d:=112) hk;have hu:=(zB1 hk).1;have f2:=Ld (qZ hn2 HSL.out u j wr _ HROW.out HU.out.2.1.1 HU.out.2.2.1 (by have:=HU.out.2.2.2.1;omega));have HE2:Hid (yN s.data.toList=u.bytes):=(by rw[Hid,HE.out,← HU.out.2.2.2.2,hu]);rw[HK0.out] at f2;generalize u.kind=kd at c0 b0;generalize u.bytes=ub at f2 HE2;clear HU hnd hkd hu hk HR0 HE;go_wp2_with fail;(with_reducible refine mo f2.out fun w2 hb2=>?_);have HB2:=bt HB.out hb2;clear hb2;go_wp2;go_ret;rw[HE2.out];exact⟨rfl,HB2.out⟩
theorem zV4{w:World}{b:Nat}{v:Value}{l:List (List UInt8)}(h:w.ownsRow b 9 1 v l.length (l.map sv))(y:List UInt8)(hn:l.length<=1048576) :
  Calls Tryz.prog 234 #[v,.string ⟨y.toArray⟩] w fun e w'=>e=.returned (.bool (xJ2 l y))/\w'=w:=by
 rcases Nat.eq_zero_or_pos l.length with h0|hp
 ·obtain⟨a,cap,rfl⟩:=eS h h0;obtain rfl:l=[]:=List.length_eq_zero_iff.1 h0;clear h h0 hn;go_enter Tryz.func234,Tryz.ntmps234;go_wp2;refine wp_loop_rounds 1 ?_;rw[rounds_succ];go_wp2;go_ret;exact⟨rfl,rfl⟩
 ·obtain⟨g,cap,rfl,_,_⟩:=h.form hp;go_enter Tryz.func234,Tryz.ntmps234;go_wp2;go_loopw [5] (fun i wr=>∃ k:Nat,k<=l.length/\i=.int .i64 k/\wr=w/\Hid (xJ2 (l.take k) y=false)) (fun i _=>l.length - (intOf i).toNat)
  case atStart=>exact⟨0,Nat.zero_le _,rfl,rfl,by simp[Hid,xJ2]⟩
  case round =>
   obtain⟨k,hk,rfl,rfl,HA⟩:=hrel;by_cases hlt:k<l.length
   ·have cc:=h.cellAt k (by omega);have ex:(l.map sv)[k]?=some (sv l[k]):=(by simp[hlt]);rw[ex] at cc;unfold sv at cc;have q1:=zn k;have q2:(k:Int)<(l.length:Int):=(by omega);by_cases hE:l[k]=y
    ·have HR:=Ld (xE6 hlt hE);rw[hE] at cc;clear h ex hE HA;go_wp2;go_ret;rw[HR.out];exact⟨rfl,rfl⟩
    ·have HR:=Ld (yS2 hlt HA.out hE);clear h ex HA;generalize l[k]=x at cc hE;have hE2:(x==y)=false:=(by rw[bF];exact hE);go_wp2;go_roundw
     case rel=>exact⟨k+1,by omega,by go_num,trivial,HR.out⟩
     case measure=>simp[intOf];omega
   ·obtain rfl:k=l.length:=(by omega);have HR:=HA.out;rw[List.take_length] at HR;have HR2:=Ld HR;clear h HA HR;go_wp2;go_ret;rw[HR2.out];exact⟨rfl,rfl⟩
theorem iE(s y:ByteArray)(w:World)(hs:s.size<=maxLen) :
  Rt 205 #[.string s,.string y] w (.bool (xJ2 (vE s.data.toList) y.data.toList)):=by
 have f1:=Ld (zV2 s w hs);have hn:=zU0 s.data.toList;generalize vE s.data.toList=l at f1 hn;go_enter Tryz.func205,Tryz.ntmps205;go_wp2_with fail;(with_reducible refine f1.out.mono ?_);rintro e w1 ⟨u,rfl,hu,hb⟩;have f2:Hid (Calls Tryz.prog 234 #[u,.string y] w1 fun e w'=>e=.returned (.bool (xJ2 l y.data.toList))/\w'=w1):=zV4 hu y.data.toList (by omega);have HB:=Ld hb;clear hu hb f1;go_wp2_with fail;(with_reducible refine mo f2.out ?_);rintro w2 rfl;go_wp2;go_ret;exact⟨rfl,HB.out⟩
theorem pA(s:ByteArray)(w:World)(hs:s.size<=maxLen) :
  Calls Tryz.prog 123 #[.string s] w (oS (zJ s.data.toList) w):=by
 have f1:=Ld (tN s (w.alloc (.cells #[] 9)) hs);obtain⟨i0,hi,iz0,iz1,iz2⟩:=info_parts tF;have HO00:Hid ((w.alloc (.cells #[] 9)).ownsRow w.heap.size 9 1 (.slice (some ⟨w.heap.size,0,none⟩) 0 0) 0 []):=World.ownsRow_lit w #[] 0 (nR _) (by decide) (by simp);have HB00:Hid (Below w.heap.size w (w.alloc (.cells #[] 9))):=Below.alloc (bR _ _) (nR _) _;go_enter Tryz.func123,Tryz.ntmps123;go_wp2_with fail;(with_reducible refine f1.out.mono ?_);rintro e W ⟨v,ns,rfl,hrow,hb,hsl,hcase⟩;have HOW0:Hid (W.ownsRow w.heap.size 9 1 (.slice (some ⟨w.heap.size,0,none⟩) 0 0) 0 []):=zA HO00.out hb;have HBW:Hid (Below w.heap.size w W):=HB00.out.trans (hb.mono HB00.out.size);have hzW:(w.alloc (.cells #[] 9)).heap.size<=W.heap.size:=hb.size;obtain⟨B,hB⟩:∃ B,(w.alloc (.cells #[] 9)).heap.size=B:=⟨_,rfl⟩;rw[hB] at hrow hcase hzW;have hBs:B=w.heap.size+1:=by rw[← hB];simp
 have HBS:=Ld hBs;clear hB HB00 HO00 hb f1 hBs;rcases hcase with ⟨t,ht,hn,hr⟩|⟨hno,rfl⟩;rotate_left
 ·obtain⟨la,lc,rfl⟩:=xE hrow;have HE:Hid (zJ s.data.toList=[]):=(by rw[Hid,zJ,yR hno]);clear hrow hno hsl;go_wp2;go_loopw [3,5] (fun o i wr=>i=.int .i64 (-1)/\wr=W/\o=.slice (some ⟨w.heap.size,0,none⟩) 0 0) (fun _ _ _=>0)
  case atStart=>exact⟨by go_num,rfl,rfl⟩
  case round =>
   obtain⟨rfl,rfl,rfl⟩:=hrel;have dq:decide ((0:Int)<=-1)=false:=rfl;go_wp2;go_ret;rw[HE.out];exact⟨_,rfl,HOW0.out,HBW.out⟩
 have HE:Hid (zJ s.data.toList=t.doms.map Tm.bytes):=by rw[Hid,zJ,zY ht]
 have hle:=ht.2.2;rw[← ht.2.1] at hle;have hsz:=t.size_pos;have hszl:=t.size_le;have hal:=t.doms_len;have hal2:t.doms.length<=2000:=by omega
 have hn2:ns.length<=100000:=by omega
 obtain⟨k0,hk0⟩:∃ k0,ns.length=k0+1:=⟨ns.length - 1,by omega⟩;have HR0:Hid (sL W B ns k0 t/\t.Ok/\t.bytes.length<=2000):=⟨by rw[show k0=ns.length - 1 by omega];exact hr,ht.1,hle⟩;have HSL:=Ld hsl;obtain⟨g,cap,rfl,_,hgl⟩:=hrow.form (by omega);have HROW:=Ld hrow;have HK0:=Ld hk0;have HOF0:Hid (Off B W.heap.size (.slice (some ⟨w.heap.size,0,none⟩) 0 0)):=fun k hk=>by
  cases hk;exact .inl (show w.heap.size<B by rw[HBS.out];exact Nat.lt_succ_self _)
 rw[hk0];clear ht hsz hszl hsl hrow hr hle hn hal;go_wp2
 go_loopw [3,5] (fun o i wr=>∃ (j:Nat) (u:Tm) (tl:List Tm) (oo:Value),i=.int .i64 (j:Int)/\oo=o/\Hid (j<ns.length/\sL W B ns j u/\u.Ok/\u.bytes.length<=2000/\t.doms=tl++u.doms) /\
  wr.ownsRow w.heap.size 9 1 oo tl.length (tl.map fun p=>sv p.bytes)/\Hid (Off B W.heap.size oo)/\Below w.heap.size w wr/\nE B W wr/\W.heap.size<=wr.heap.size) (fun _ i _=>(intOf i).toNat)
 case atStart=>exact⟨k0,t,[],_,by go_num,rfl,⟨by omega,HR0.out.1,HR0.out.2.1,HR0.out.2.2,by simp⟩,HOW0.out,HOF0,HBW.out,nE.refl _ _,nR _⟩
 case round =>
  obtain⟨j,u,tl,oo,rfl,rfl,HU,hown,HOF,hbr,hka,hzr⟩:=hrel;clear HOW0 HOF0 HBW;obtain⟨nd,hnd,hkd⟩:=HU.out.2.1.1.kindAt;have hjl:=HU.out.1;have hrowr:=hka _ _ _ _ _ HROW.out;have c0:wr.cell? ⟨g,j*7,none⟩=some (.int .u8 (nd.kind.toNat:Int)):=xP hrowr hnd 0 (by decide);rw[hkd] at c0;have q1:=zn j;have q2:(j:Int)<(k0:Int)+1:=(by omega);have dq:decide ((0:Int)<=(j:Int))=true:=dT q1;have htl:tl.length<=t.doms.length:=(by have:=congrArg List.length HU.out.2.2.2.2;rw[lA] at this;omega);by_cases hk:u.kind=112
  ·obtain⟨x,y,rfl⟩:=hJ hk;obtain⟨nd2,h1,h2,h3,h4,h5,h6⟩:=HU.out.2.1.piAt;obtain rfl:nd=nd2:=Option.some.inj (hnd.symm.trans h1);have hyl:x.bytes.length<=2000/\y.bytes.length<=2000:=(by have:=HU.out.2.2.2.1;simp only[Tm.bytes,lC,lA] at this;omega);have c1:wr.cell? ⟨g,j*7+1,none⟩=some (.int .i64 (nd.a:Int)):=xP hrowr hnd 1 (by decide);have HN:Hid (nd.b<ns.length/\sL W B ns nd.b y/\y.Ok/\y.bytes.length<=2000/\t.doms=(tl++[x])++y.doms) := ⟨by omega,h6,HU.out.2.2.1.2,hyl.2,by rw[HU.out.2.2.2.2,Tm.doms];simp⟩;have f2:=Ld (qZ hn2 HSL.out x nd.a wr _ hrowr (Rep.keep hka.strs (Ext.refl _) x _ h5.1) HU.out.2.2.1.1 (by omega));rw[HK0.out] at f2;have HND:Hid (∀ W',nE B W W'->W'.cell? ⟨g,j*7+2,none⟩=some (.int .i64 (nd.b:Int))):=fun W' hk'=>xP (hk' _ _ _ _ _ HROW.out) hnd 2 (by decide);have hz:nd.b<j:=h4;have HTL:Hid ((tl++[x]).map (fun p=>sv p.bytes)=tl.map (fun p=>sv p.bytes)++[.string ⟨x.bytes.toArray⟩]):=(by simp[Hid,sv]);have HLN:Hid ((tl++[x]).length=tl.length+1):=(by simp[Hid]);have c0':wr.cell? ⟨g,j*7,none⟩=some (.int .u8 112):=c0;have HOW:=Ld hown;have HBR:=Ld hbr;have HKA:=Ld hka;generalize nd.b=jn at HN hz HND;generalize nd.a=jb at c1 f2;generalize x.bytes=xb at f2 HTL hyl;clear c0 HU hnd hkd h1 h2 h3 h4 h5 h6 HR0 hk hown hbr hka hrowr;go_wp2_with fail;(with_reducible refine mo f2.out fun w2 hb2=>?_);have ho2:=zA HOW.out hb2;have hB2:=HBR.out.trans (hb2.mono HBR.out.size);have hK2:=HKA.out.below hb2;have hz2:=hb2.size;have hBz:=HBR.out.size
   have hrow2:∀ k,oo.ownBlock=some k->w.heap.size<=k:=fun k hk=>(ho2.lt k hk).1;clear hb2 f2 c1;go_wp2_with (at_builtin;refine wpList_append_lies _ rfl _ _ 31 rfl w.heap.size 9 i0 _ 1 16 Tryz.underlying31 hi iz0 iz1 iz2 rfl (by decide) _ _ _ rfl (ho2.alloc _) ⟨w2.heap.size,0,none⟩ 1 1 [.string ⟨xb.toArray⟩] rfl rfl (yI _ _ _) (by simp[Value.oneCell']) (by decide) (by simp only[maxLen];omega) (by omega) (by simp;omega) _ rfl ?_;intro g3 cap3 w3 ho3 hg3 hat3 hlt3;have hK3:=(hK2.below (Below.alloc (bR _ _) (nR _) _)).step hg3 HOF.out;have c1:=HND.out w3 hK3);have HO3:Hid (w3.ownsRow w.heap.size 9 1 (.slice (some ⟨g3,0,none⟩) (tl.length+1) cap3) (tl++[x]).length ((tl++[x]).map fun p=>sv p.bytes)):=(by rw[Hid,HTL.out,HLN.out];exact ho3);have HOF3:Hid (Off B W.heap.size (.slice (some ⟨g3,0,none⟩) (tl.length+1) cap3)):=fun k hk=>by
    cases hk;rcases hat3 with h|h
    ·exact HOF.out _ h
    ·refine .inr ?_;simp at h;show W.heap.size<=g3;omega
   have HB3:Hid (Below w.heap.size w w3):=(hB2.alloc hB2.size _).grown hg3 (by simp;omega) (fun k hk=>hrow2 k hk);have HZ3:Hid (W.heap.size<=w3.heap.size):=(by have:=hg3.size;simp at this;rw[Hid];omega);have HK3:=Ld hK3;clear ho3 hg3 hat3 hlt3 hK3 ho2 hB2 hK2 hrow2 c1;go_wp2;go_roundw
   case rel=>exact⟨jn,y,tl++[x],_,rfl,rfl,HN,HO3.out,HOF3,HB3.out,HK3.out,HZ3.out⟩
   case measure=>simp[intOf];omega
  ·have b0:((u.kind.toNat:Int)==112)=false:=zQ (d:=112) hk;have hu:=(zB1 hk).2;have HT:Hid (t.doms=tl):=(by rw[Hid,HU.out.2.2.2.2,hu];simp);have HO:Hid (wr.ownsRow w.heap.size 9 1 oo (zJ s.data.toList).length ((zJ s.data.toList).map sv)):=by
    rw[Hid,HE.out,HT.out,List.length_map,List.map_map];exact hown
   have HBR:=Ld hbr;generalize u.kind=kd at c0 b0;clear HU hnd hkd hu hk HR0 hka hrowr hown hbr;go_wp2;go_ret;exact⟨_,rfl,HO.out,HBR.out⟩
end Go.Proofs.YtcaahdjhbmmcnaaGreatDoor
