/- OwnM KTreeP FLvM VPut FLv HMath KPre KPre2 -/
import Derived.Lib.AppendStr
import Derived.Lib.Builder
import Derived.Test.YtgppcegcpiaocaaGreatDoorNE1
import Derived.Test.YtgppcegcpiaocaaGreatDoorNQB
import Derived.Test.YtgppcegcpiaocaaGreatDoorNA5
import Derived.Test.YtgppcegcpiaocaaGreatDoorNG1
import Derived.Test.YtgppcegcpiaocaaGreatDoorNV1
import Derived.Test.YtgppcegcpiaocaaGreatDoorNZGOr
import Derived.Test.YtgppcegcpiaocaaGreatDoorNP1
import Derived.Test.YtgppcegcpiaocaaGreatDoorNP5
import Derived.Test.YtgppcegcpiaocaaGreatDoorNQD
set_option maxRecDepth 100000
set_option maxHeartbeats 16000000
set_option linter.unusedSimpArgs false
set_option linter.unusedVariables false
namespace Go.Proofs.YtgppcegcpiaocaaGreatDoor
open Go.ChangeShapes Go.WideShapes Go.ChangeAt Go.RowKit
theorem zA8{T:Tm}(hT:T.Ok)(hl:T.bytes.length<=2000):qQ T.bytes T:=⟨hT,rfl,hl⟩
theorem zE0{T:Tm}(hT:T.Ok)(hl:T.bytes.length<=2000):xR T.bytes=T.targ.bytes:=by rw[xR,zW (zA8 hT hl)]
theorem kJ{T:Tm}(hT:T.Ok)(hl:T.bytes.length<=2000):zT T.bytes=T.doms.map Tm.bytes:=by rw[zT,zW (zA8 hT hl)]
theorem nP{T:Tm}(hT:T.Ok)(hl:T.bytes.length<=2000):yF T.bytes=true:=by rw[yF,zW (zA8 hT hl)];rfl
theorem zZ1(ts:List Tm)(a:Tm)(h:a∈ts):a.bytes.length<=(dD ts).length:=by
 induction ts with
|nil=>cases h
|cons x r ih =>
  have e:dD (x::r)=x.bytes++dD r:=(by simp[dD]);rw[e,lA];rcases List.mem_cons.1 h with rfl|h
  ·omega
  ·have:=ih h;omega
theorem mW{h:Tm}{us:List Tm}(hh:h.Ok)(hu:∀ a∈us,a.Ok)(hl:(h.given us).bytes.length<=2000):vL h.bytes (us.map Tm.bytes)=some (h.given us).bytes:=by
 have hb:=uU us h;have hz:h.bytes.length+us.length+(dD us).length=(h.given us).bytes.length:=by rw[hb];simp;omega
 have e:(us.map Tm.bytes).flatten=dD us:=rfl;rw[vL,iP]
 ·rw[hb,e,List.length_map]
 ·refine⟨nP hh (by omega),fun a ha=>?_,by rw[e,List.length_map];omega⟩;obtain⟨x,hx,rfl⟩:=List.mem_map.1 ha;exact nP (hu x hx) (by have:=zZ1 us x hx;omega)
theorem zZ0(ts:List Tm):(oO ts).length=ts.length+(dD ts).length:=by
 induction ts with
|nil=>rfl
|cons x r ih =>
  have e:dD (x::r)=x.bytes++dD r:=(by simp[dD]);have e2:oO (x::r)=112::(x.bytes++oO r):=(by simp[oO]);rw[e,e2];simp only[lC,lA,ih];omega
theorem qH{t:Tm}{ds:List Tm}(ht:t.Ok)(hd:∀ a∈ds,a.Ok)(hl:(Tm.arrows ds t).bytes.length<=2000):yT (ds.map Tm.bytes) t.bytes=some (Tm.arrows ds t).bytes:=by
 have hb:=xH ds t;have hz:t.bytes.length+ds.length+(dD ds).length=(Tm.arrows ds t).bytes.length:=by rw[hb,lA,zZ0];omega
 have e:(ds.map Tm.bytes).flatten=dD ds:=rfl;have e2:((ds.map Tm.bytes).map fun d=>112::d).flatten=oO ds:=by simp[oO,Function.comp_def]
 rw[yT,iP]
 ·rw[hb,e2]
 ·refine⟨nP ht (by omega),fun a ha=>?_,by rw[e,List.length_map];omega⟩;obtain⟨x,hx,rfl⟩:=List.mem_map.1 ha;exact nP (hd x hx) (by have:=zZ1 ds x hx;omega)
end Go.Proofs.YtgppcegcpiaocaaGreatDoor
namespace Go.Proofs.YtgppcegcpiaocaaGreatDoor
open Go
def gN (s:Nat):List Tm:=(List.range s).map fun i=>.var (s - 1 - i)
theorem gM(s:Nat):(gN s).map Tm.bytes=hC s:=by simp[gN,hC,Function.comp_def]
def mY (n j q s:Nat):Tm:=(Tm.var (n - 1 - j+q+s)).given (gN s)
def tT (k n j q:Nat) (dm:Tm):Tm :=
 Tm.arrows (dm.lift (n - j+q) 0).doms (.app (.var (k+n+q+(dm.lift (n - j+q) 0).doms.length)) (mY n j q (dm.lift (n - j+q) 0).doms.length))
theorem qY{n:Nat}(h:n<=999):vH (n:Int)=(Tm.var n).bytes:=by
 unfold vH;rw[iP (by omega)];rfl
def zM (k n:Nat):List (Tm × Bool)->Nat->Nat->List Tm->List Tm × Nat
|[],_,q,acc=>(acc,q)
|dm::r,j,q,acc=>if dm.2=true then zM k n r (j+1) (q+1) (acc++[tT k n j q dm.1]) else zM k n r (j+1) q acc
def rY (n q:Nat):List Tm:=(List.range n).map fun j=>.var (n - 1 - j+q)
theorem dI{n q:Nat}(h:n+q<=999):(rY n q).map Tm.bytes=lW n q:=by
 simp only[rY,lW,List.map_map];refine List.map_congr_left fun j hj=>?_;rw[List.mem_range] at hj;exact(qY (by omega)).symm
def fQ (nm:List UInt8) (lv:List (List UInt8)) (n q:Nat):Tm:=(Tm.const nm lv).given (rY n q)
def endT (nm:List UInt8) (lv:List (List UInt8)) (k n:Nat) (r:List Tm × Nat):Tm:=Tm.arrows r.1 (.app (.var (k+n+r.2)) (fQ nm lv n r.2))
def xP (nm:List UInt8) (lv:List (List UInt8)) (k:Nat) (ds:List (Tm × Bool)):Tm:=endT nm lv k ds.length (zM k ds.length ds 0 0 (ds.map Prod.fst))
end Go.Proofs.YtgppcegcpiaocaaGreatDoor
namespace Go.Proofs.YtgppcegcpiaocaaGreatDoor
open Go.ChangeShapes Go.WideShapes Go.ChangeAt Go.RowKit
def jX (m:Nat) (l:List UInt8):Prop:=∀ p d q,l=p++117::d::q->d.toNat - 47<=m
theorem jX.tail{m:Nat}{a l:List UInt8}(h:jX m (a++l)):jX m l:=fun p d q e=>h (a++p) d q (by rw[e,List.append_assoc])
theorem jX.of{l:List UInt8}(h:zD l=true):jX (zC l) l:=fun p d q e=>by
 have h1:=yK5 l 0 p.length (by rw[e];simp) (by simp[e]);rw[zC,iP h];simpa [e] using h1
theorem jA{args:List (List UInt8)}(ha:∀ x∈args,zD x=true):∀ (t:Lv) (r:List UInt8),jX args.length (t.bytes++r)->∃ t':Lv,nY args (t.bytes++r)=t'.bytes++nY args r
|.z,r,_=>⟨.z,vJ args (by decide) r⟩
|.up t,r,h=>by
  obtain⟨t',e⟩:=jA ha t r (jX.tail (a:=[43]) h);exact⟨.up t',by rw[Lv.bytes,List.cons_append,vJ args (by decide),e];rfl⟩
|.mx a b,r,h=>by
  have h1:jX args.length (a.bytes++(b.bytes++r)):=jX.tail (a:=[109]) (by simpa [Lv.bytes] using h);obtain⟨a',ea⟩:=jA ha a (b.bytes++r) h1;obtain⟨b',eb⟩:=jA ha b r h1.tail;exact⟨.mx a' b',by rw[Lv.bytes,List.cons_append,vJ args (by decide),List.append_assoc,ea,eb];simp[Lv.bytes]⟩
|.im a b,r,h=>by
  have h1:jX args.length (a.bytes++(b.bytes++r)):=jX.tail (a:=[105]) (by simpa [Lv.bytes] using h);obtain⟨a',ea⟩:=jA ha a (b.bytes++r) h1;obtain⟨b',eb⟩:=jA ha b r h1.tail;exact⟨.im a' b',by rw[Lv.bytes,List.cons_append,vJ args (by decide),List.append_assoc,ea,eb];simp[Lv.bytes]⟩
|.par k,r,h=>by
  have h1:=h [] (UInt8.ofNat (48+k.val)) r (by simp[Lv.bytes]);have hk:=(Lv.par_byte k).2.2;have h0:=(Lv.par_byte k).1;have hlt:k.val<args.length:=(by omega);have hx:args.getD k.val []=args[k.val]:=(by simp[List.getD,hlt]);obtain⟨t',e⟩:=jH (ha args[k.val] (List.getElem_mem hlt));refine⟨t',?_⟩;rw[Lv.bytes,List.cons_append,List.cons_append,gA,hk,hx,e];rfl
theorem mQ{l r:List UInt8}{args:List (List UInt8)}(h:zS l args=some r):zD r=true/\args.length<=3:=by
 unfold zS at h;split at h
 ·rename_i hc;injection h with h;subst h;obtain⟨h1,h2,h3,h4,h5⟩:=hc;obtain⟨t,rfl⟩:=jH h1
  obtain⟨t',e⟩:=jA (r:=[]) h4 t (by
   rw[List.append_nil];intro p d q e;exact Nat.le_trans (jX.of h1 p d q e) h3)
  rw[List.append_nil,aM,List.append_nil] at e;rw[e] at h5 |-;exact⟨gU t' h5,h2⟩
 ·cases h
def SameN (nd nd':Nd):Prop:=nd'.kind=nd.kind/\nd'.a=nd.a/\nd'.b=nd.b/\nd'.c=nd.c/\nd'.num=nd.num
def UpdT (W':World) (B':Nat) (args:List (List UInt8)) (nd nd':Nd):Tm->Prop
|.sort l=>SameN nd nd'/\zS l args=some nd'.text
|.const _ ls=>SameN nd nd'/\nd'.text=nd.text/\∃ ls',(ls.mapM fun l=>zS l args)=some ls'/\W'.ownsRow B' 9 1 nd'.lv ls'.length (ls'.map sv)
|_=>SameN nd nd'
theorem zG5{args:List (List UInt8)}:∀ {ls r:List (List UInt8)},(ls.mapM fun l=>zS l args)=some r->r.length=ls.length/\∀ x∈r,zD x=true
|[],r,h=>by simp at h;subst h;simp
|l::ls,r,h=>by
  rw[List.mapM_cons] at h;obtain⟨x,hx,h2⟩:=Option.bind_eq_some_iff.1 h;obtain⟨r',hr,h3⟩:=Option.bind_eq_some_iff.1 h2;cases h3;obtain⟨k1,k2⟩:=zG5 hr;refine⟨by simp[k1],fun y hy=>?_⟩;rcases List.mem_cons.1 hy with rfl|hy
  ·exact(mQ hx).1
  ·exact k2 y hy
theorem zQ3:∀ {ls:List (List UInt8)},(∀ y∈ls,zD y=true)->(yH ls).length<=ls.length*61/\ls.length*2<=(yH ls).length
|[],_=>by simp[yH]
|x::r,h=>by
  have h0:=h x List.mem_cons_self;have h1:=(zU h0).1;have h3:1<=x.length:=List.length_pos_iff.2 (jI h0);have h2:=zQ3 (ls:=r) fun y hy=>h y (List.mem_cons_of_mem _ hy);simp only[yH,lA,lC];omega
theorem oX{args:List (List UInt8)}:∀ (T T':Tm),T.Ok->T.lvs args=some T'->T'.Ok/\T'.bytes.length<=31*T.bytes.length
|.var n,_,hk,h=>by
  cases (show some (Tm.var n)=some _ from h);exact⟨hk,by omega⟩
|.sort l,_,hk,h=>by
  obtain⟨r,hr,rfl⟩:=Option.map_eq_some_iff.1 (show (zS l args).map Tm.sort=some _ from h);have h1:=(mQ hr).1;refine⟨h1,?_⟩;have h2:=(zU h1).1;simp only[Tm.bytes,lC,lA,List.length_nil];omega
|.const n ls,_,hk,h=>by
  obtain⟨r,hr,rfl⟩:=Option.map_eq_some_iff.1 (show (ls.mapM fun l=>zS l args).map (Tm.const n)=some _ from h);obtain⟨h1,h2⟩:=zG5 hr;refine⟨⟨hk.1,by rw[h1];exact hk.2.1,h2⟩,?_⟩;have k1:=(zQ3 h2).1;have k2:=(zQ3 hk.2.2).2;simp only[Tm.bytes,lC,lA,List.length_nil];omega
|.app f a,_,hk,h=>by
  obtain⟨f',hf,h2⟩:=Option.bind_eq_some_iff.1 (show (Tm.lvs args f).bind (fun f'=>(Tm.lvs args a).map (Tm.app f'))=some _ from h);obtain⟨a',ha,rfl⟩:=Option.map_eq_some_iff.1 h2;obtain⟨k1,k2⟩:=oX f f' hk.1 hf;obtain⟨k3,k4⟩:=oX a a' hk.2 ha;refine⟨⟨k1,k3⟩,?_⟩;simp only[Tm.bytes,lC,lA];omega
|.lam f a,_,hk,h=>by
  obtain⟨f',hf,h2⟩:=Option.bind_eq_some_iff.1 (show (Tm.lvs args f).bind (fun f'=>(Tm.lvs args a).map (Tm.lam f'))=some _ from h);obtain⟨a',ha,rfl⟩:=Option.map_eq_some_iff.1 h2;obtain⟨k1,k2⟩:=oX f f' hk.1 hf;obtain⟨k3,k4⟩:=oX a a' hk.2 ha;refine⟨⟨k1,k3⟩,?_⟩;simp only[Tm.bytes,lC,lA];omega
|.pi f a,_,hk,h=>by
  obtain⟨f',hf,h2⟩:=Option.bind_eq_some_iff.1 (show (Tm.lvs args f).bind (fun f'=>(Tm.lvs args a).map (Tm.pi f'))=some _ from h);obtain⟨a',ha,rfl⟩:=Option.map_eq_some_iff.1 h2;obtain⟨k1,k2⟩:=oX f f' hk.1 hf;obtain⟨k3,k4⟩:=oX a a' hk.2 ha;refine⟨⟨k1,k3⟩,?_⟩;simp only[Tm.bytes,lC,lA];omega
|.lett f a b,_,hk,h=>by
  obtain⟨f',hf,h2⟩:=Option.bind_eq_some_iff.1 (show (Tm.lvs args f).bind (fun f'=>(Tm.lvs args a).bind fun a'=>(Tm.lvs args b).map (Tm.lett f' a'))=some _ from h);obtain⟨a',ha,h3⟩:=Option.bind_eq_some_iff.1 h2;obtain⟨b',hb,rfl⟩:=Option.map_eq_some_iff.1 h3;obtain⟨k1,k2⟩:=oX f f' hk.1 hf;obtain⟨k3,k4⟩:=oX a a' hk.2.1 ha;obtain⟨k5,k6⟩:=oX b b' hk.2.2 hb;refine⟨⟨k1,k3,k5⟩,?_⟩;simp only[Tm.bytes,lC,lA];omega
noncomputable def yE (l:List UInt8) (args:List (List UInt8)):Option (List UInt8):=match vN l with
|some T=>if args.length<=3 then (T.lvs args).bind fun T'=>if T'.bytes.length<=2000 then some T'.bytes else none else none
|none=>none
theorem zK2{j:Nat}(hj:j<7)(u:Value):∀ (cur:List Nd) (k:Nat) (nd nd':Nd),cur[k]?=some nd->nd'.cells=nd.cells.set j u->(rX cur).set (k*7+j) u=rX (cur.set k nd')
|[],k,nd,nd',h,_=>by simp at h
|n::cur,0,nd,nd',h,e=>by
  simp at h;subst h;unfold rX;rw[List.set_cons_zero,List.flatMap_cons,List.flatMap_cons,e,Nat.zero_mul,Nat.zero_add,List.set_append_left _ _ (by rw[rW];exact hj)]
|n::cur,k+1,nd,nd',h,e=>by
  have ih:=zK2 hj u cur k nd nd' (by simpa using h) e;unfold rX at ih |-;rw[List.set_cons_succ,List.flatMap_cons,List.flatMap_cons,List.set_append_right _ _ (by rw[rW];omega),rW,show (k+1)*7+j - 7=k*7+j by omega,ih]
structure LSt (w W wr:World) (B b g cap:Nat) (av:Value) (args:List (List UInt8)) (P:List Tm) (ns cur:List Nd) (k:Nat):Prop where
 len:cur.length=ns.length
 row:wr.ownsRow B 162 7 (.slice (some ⟨g,0,none⟩) ns.length cap) ns.length (rX cur)
 rest:∀ i,k<=i->cur[i]?=ns[i]?
 done:∀ i u,i<k->P[i]?=some u->∃ nd nd',ns[i]?=some nd/\cur[i]?=some nd'/\UpdT wr B args nd nd' u
 sl:∀ nd∈cur,∃ a n c,nd.lv=.slice a n c
 strs:uV B W wr
 arg:wr.ownsRow b 9 1 av args.length (args.map sv)
 below:Below B w wr
 sz:B<=wr.heap.size
structure LSm (w W wr:World) (B b g cap:Nat) (av:Value) (args:List (List UInt8)) (P:List Tm) (ns cur:List Nd) (k:Nat) (nd:Nd):Prop where
 len:cur.length=ns.length
 row:wr.ownsRow B 162 7 (.slice (some ⟨g,0,none⟩) ns.length cap) ns.length (rX cur)
 rest:∀ i,k<i->cur[i]?=ns[i]?
 here:cur[k]?=some nd
 done:∀ i u,i<k->P[i]?=some u->∃ nd nd',ns[i]?=some nd/\cur[i]?=some nd'/\UpdT wr B args nd nd' u
 sl:∀ nd∈cur,∃ a n c,nd.lv=.slice a n c
 strs:uV B W wr
 arg:wr.ownsRow b 9 1 av args.length (args.map sv)
 below:Below B w wr
 sz:B<=wr.heap.size
theorem UpdT.keep{W W':World}{B:Nat}{args:List (List UInt8)}{nd nd':Nd}{u:Tm}(h:UpdT W B args nd nd' u)(hk:uV B W W'):UpdT W' B args nd nd' u:=by
 cases u with
|const n ls=>obtain⟨h1,h2,ls',h3,h4⟩:=h;exact⟨h1,h2,ls',h3,hk _ _ _ h4⟩
|_=>exact h
section
variable {w W wr wr':World} {B b g cap k:Nat} {av:Value} {args:List (List UInt8)} {P:List Tm} {ns cur:List Nd} {nd:Nd}
theorem LSt.at(h:LSt w W wr B b g cap av args P ns cur k)(hk:ns[k]?=some nd):LSm w W wr B b g cap av args P ns cur k nd := ⟨h.len,h.row,fun i hi=>h.rest i (by omega),(h.rest k (nR _)).trans hk,h.done,h.sl,h.strs,h.arg,h.below,h.sz⟩
theorem LSm.keep(h:LSm w W wr B b g cap av args P ns cur k nd)(hb:Below wr.heap.size wr wr'):LSm w W wr' B b g cap av args P ns cur k nd := ⟨h.len,zA h.row hb,h.rest,h.here,fun i u hi hu=>by
  obtain⟨x,y,h1,h2,h3⟩:=h.done i u hi hu;exact⟨x,y,h1,h2,h3.keep fun _ _ _ hr=>zA hr hb⟩,h.sl,fun v n xs hv=>zA (h.strs v n xs hv) hb,zA h.arg hb,h.below.trans (hb.mono h.sz),Nat.le_trans h.sz hb.size⟩
theorem LSm.put(h:LSm w W wr B b g cap av args P ns cur k nd){j:Nat}(hj:j<7){u:Value}{nd':Nd}(hc:nd'.cells=nd.cells.set j u)(hlv:∃ a n c,nd'.lv=.slice a n c) :
  LSm w W (wr.setCell ⟨g,k*7+j,none⟩ u) B b g cap av args P ns (cur.set k nd') k nd'/\wr.grownBy (wr.setCell ⟨g,k*7+j,none⟩ u) (some g)/\uV B wr (wr.setCell ⟨g,k*7+j,none⟩ u):=by
 obtain⟨h1,hg⟩:=h.row.stored (k*7+j) u;rw[zK2 hj u cur k nd nd' h.here hc] at h1;have hks:∀ (b:Nat) (v:Value) (n:Nat) (xs:List Value),wr.ownsRow b 9 1 v n xs->(wr.setCell ⟨g,k*7+j,none⟩ u).ownsRow b 9 1 v n xs:=fun b v n xs hv=>pC hv h.row (by decide) hg;have hkl:k<cur.length:=(List.getElem?_eq_some_iff.1 h.here).1;refine⟨⟨by rw[List.length_set];exact h.len,h1,fun i hi=>by rw[List.getElem?_set_ne (by omega)];exact h.rest i hi,by rw[List.getElem?_set_self hkl],fun i x hi hx=>?_,fun x hx=>?_,fun v n xs hv=>hks B v n xs (h.strs v n xs hv),hks _ _ _ _ h.arg,h.below.grown hg h.sz (fun q hq=>by injection hq with hq;subst hq;exact(h.row.lt _ rfl).1),Nat.le_trans h.sz hg.size⟩,hg,fun v n xs hv=>hks B v n xs hv⟩
 ·obtain⟨x1,y1,k1,k2,k3⟩:=h.done i x hi hx;exact⟨x1,y1,k1,by rw[List.getElem?_set_ne (by omega)];exact k2,k3.keep fun v n xs hv=>hks B v n xs hv⟩
 ·rcases List.mem_or_eq_of_mem_set hx with hx|rfl
  ·exact h.sl x hx
  ·exact hlv
theorem LSm.next{nd0:Nd}{u:Tm}(h:LSm w W wr B b g cap av args P ns cur k nd)(h0:ns[k]?=some nd0)(hP:P[k]?=some u)(hu:UpdT wr B args nd0 nd u):LSt w W wr B b g cap av args P ns cur (k+1) := ⟨h.len,h.row,fun i hi=>h.rest i (by omega),fun i x hi hx=>by
  by_cases e:i=k
  ·subst e;rw[hP] at hx;cases hx;exact⟨nd0,nd,h0,h.here,hu⟩
  ·exact h.done i x (by omega) hx,h.sl,h.strs,h.arg,h.below,h.sz⟩
end
end Go.Proofs.YtgppcegcpiaocaaGreatDoor
namespace Go.Proofs.YtgppcegcpiaocaaGreatDoor
open Go
namespace Tm
def mapS {σ:Type} (f:σ->Tm->Nat->Tm × σ):Tm->σ->Nat->Tm × σ
|var n,s,b=>f s (var n) b
|sort l,s,b=>f s (sort l) b
|const n ls,s,b=>f s (const n ls) b
|app x y,s,b=>(app (mapS f x s b).1 (mapS f y (mapS f x s b).2 b).1,(mapS f y (mapS f x s b).2 b).2)
|lam x y,s,b=>(lam (mapS f x s b).1 (mapS f y (mapS f x s b).2 (b+1)).1,(mapS f y (mapS f x s b).2 (b+1)).2)
|pi x y,s,b=>(pi (mapS f x s b).1 (mapS f y (mapS f x s b).2 (b+1)).1,(mapS f y (mapS f x s b).2 (b+1)).2)
|lett x y z,s,b=>(lett (mapS f x s b).1 (mapS f y (mapS f x s b).2 b).1 (mapS f z (mapS f y (mapS f x s b).2 b).2 (b+1)).1,(mapS f z (mapS f y (mapS f x s b).2 b).2 (b+1)).2)
def Lv (P:Tm->Nat->Prop):Tm->Nat->Prop
|var n,b=>P (var n) b
|sort l,b=>P (sort l) b
|const n ls,b=>P (const n ls) b
|app x y,b=>Lv P x b/\Lv P y b
|lam x y,b=>Lv P x b/\Lv P y (b+1)
|pi x y,b=>Lv P x b/\Lv P y (b+1)
|lett x y z,b=>Lv P x b/\Lv P y b/\Lv P z (b+1)
def OkLeaf (B:Nat) (t:Tm) (b:Nat):Prop:=b<=B/\((∃ n,n<=999/\t=var n)\/(∃ l,zD l=true/\t=sort l)\/∃ n ls,(const n ls).Ok/\t=const n ls)
theorem ok_lv{B:Nat}:∀ (T:Tm) (b:Nat),T.Ok->b+T.size<=B->T.Lv (OkLeaf B) b
|var n,b,h,hb=>⟨by omega,.inl ⟨n,h,rfl⟩⟩
|sort l,b,h,hb=>⟨by omega,.inr (.inl ⟨l,h,rfl⟩)⟩
|const n ls,b,h,hb=>⟨by omega,.inr (.inr ⟨n,ls,h,rfl⟩)⟩
|app x y,b,h,hb=>by simp only[size] at hb;exact⟨ok_lv x b h.1 (by omega),ok_lv y b h.2 (by omega)⟩
|lam x y,b,h,hb=>by have:=x.size_pos;simp only[size] at hb;exact⟨ok_lv x b h.1 (by omega),ok_lv y (b+1) h.2 (by omega)⟩
|pi x y,b,h,hb=>by have:=x.size_pos;simp only[size] at hb;exact⟨ok_lv x b h.1 (by omega),ok_lv y (b+1) h.2 (by omega)⟩
|lett x y z,b,h,hb=>by have:=x.size_pos;simp only[size] at hb;exact⟨ok_lv x b h.1 (by omega),ok_lv y b h.2.1 (by omega),ok_lv z (b+1) h.2.2 (by omega)⟩
structure Comp (Q:Tm->Prop):Prop where
 app:∀ x y,Q x->Q y->Q (app x y)
 lam:∀ x y,Q x->Q y->Q (lam x y)
 pi:∀ x y,Q x->Q y->Q (pi x y)
 lett:∀ x y z,Q x->Q y->Q z->Q (lett x y z)
theorem mapS_q{σ:Type}{f:σ->Tm->Nat->Tm × σ}{P:Tm->Nat->Prop}{Q:Tm->Prop}(hQ:Comp Q)(hf:∀ s t b,P t b->Q (f s t b).1):∀ (T:Tm) (s:σ) (b:Nat),T.Lv P b->Q (mapS f T s b).1
|var n,s,b,h=>hf s _ b h
|sort l,s,b,h=>hf s _ b h
|const n ls,s,b,h=>hf s _ b h
|app x y,s,b,h=>hQ.app _ _ (mapS_q hQ hf x s b h.1) (mapS_q hQ hf y _ b h.2)
|lam x y,s,b,h=>hQ.lam _ _ (mapS_q hQ hf x s b h.1) (mapS_q hQ hf y _ (b+1) h.2)
|pi x y,s,b,h=>hQ.pi _ _ (mapS_q hQ hf x s b h.1) (mapS_q hQ hf y _ (b+1) h.2)
|lett x y z,s,b,h=>hQ.lett _ _ _ (mapS_q hQ hf x s b h.1) (mapS_q hQ hf y _ b h.2.1) (mapS_q hQ hf z _ (b+1) h.2.2)
theorem mapS_len{σ:Type}{f:σ->Tm->Nat->Tm × σ}{P:Tm->Nat->Prop}{K:Nat}(hK:1<=K)(hf:∀ s t b,P t b->(f s t b).1.bytes.length<=K*t.bytes.length):∀ (T:Tm) (s:σ) (b:Nat),T.Lv P b->(mapS f T s b).1.bytes.length<=K*T.bytes.length
|var n,s,b,h=>hf s _ b h
|sort l,s,b,h=>hf s _ b h
|const n ls,s,b,h=>hf s _ b h
|app x y,s,b,h=>by
  have h1:=mapS_len hK hf x s b h.1;have h2:=mapS_len hK hf y (mapS f x s b).2 b h.2;simp only[mapS,bytes,lC,lA,Nat.mul_add,Nat.mul_one];omega
|lam x y,s,b,h=>by
  have h1:=mapS_len hK hf x s b h.1;have h2:=mapS_len hK hf y (mapS f x s b).2 (b+1) h.2;simp only[mapS,bytes,lC,lA,Nat.mul_add,Nat.mul_one];omega
|pi x y,s,b,h=>by
  have h1:=mapS_len hK hf x s b h.1;have h2:=mapS_len hK hf y (mapS f x s b).2 (b+1) h.2;simp only[mapS,bytes,lC,lA,Nat.mul_add,Nat.mul_one];omega
|lett x y z,s,b,h=>by
  have h1:=mapS_len hK hf x s b h.1;have h2:=mapS_len hK hf y (mapS f x s b).2 b h.2.1;have h3:=mapS_len hK hf z (mapS f y (mapS f x s b).2 b).2 (b+1) h.2.2;simp only[mapS,bytes,lC,lA,Nat.mul_add,Nat.mul_one];omega
def Pre:Tm->Prop
|var _=>True
|sort l=>(46:UInt8)∉l
|const n ls=>(59:UInt8)∉n/\∀ x∈ls,(46:UInt8)∉x/\(44:UInt8)∉x
|app f a=>f.Pre/\a.Pre
|lam f a=>f.Pre/\a.Pre
|pi f a=>f.Pre/\a.Pre
|lett f a b=>f.Pre/\a.Pre/\b.Pre
theorem comp_pre:Comp Pre:=⟨fun _ _ h k=>⟨h,k⟩,fun _ _ h k=>⟨h,k⟩,fun _ _ h k=>⟨h,k⟩,fun _ _ _ h k l=>⟨h,k,l⟩⟩
theorem comp_lim(m:Nat):Comp (Lim m):=⟨fun _ _ h k=>⟨h,k⟩,fun _ _ h k=>⟨h,k⟩,fun _ _ h k=>⟨h,k⟩,fun _ _ _ h k l=>⟨h,k,l⟩⟩
theorem Ok.pre:∀ {t:Tm},t.Ok->t.Pre
|var _,_=>trivial
|sort _,h=>(uT h).1
|const _ _,h=>⟨pD h.1,fun x hx=>uT (h.2.2 x hx)⟩
|app _ _,h=>⟨h.1.pre,h.2.pre⟩
|lam _ _,h=>⟨h.1.pre,h.2.pre⟩
|pi _ _,h=>⟨h.1.pre,h.2.pre⟩
|lett _ _ _,h=>⟨h.1.pre,h.2.1.pre,h.2.2.pre⟩
theorem no46:∀ {ls:List (List UInt8)},(∀ x∈ls,(46:UInt8)∉x)->(46:UInt8)∉yH ls
|[],_=>by simp[yH]
|x::r,h=>by
  intro hm;rw[yH] at hm;rcases List.mem_append.1 hm with h1|h1
  ·exact h x List.mem_cons_self h1
  rcases List.mem_cons.1 h1 with h2|h2
  ·revert h2;decide
  ·exact no46 (fun y hy=>h y (List.mem_cons_of_mem _ hy)) h2
theorem preUniq:∀ (t u:Tm) (r s:List UInt8),t.Pre->u.Pre->t.bytes++r=u.bytes++s->t=u/\r=s:=by
 intro t
 induction t with
|var n =>
  intro u r s ht hu h;cases u with
 |var m =>
   simp only[Tm.bytes,List.cons_append,List.append_assoc,List.nil_append] at h;injection h with _ h;obtain⟨h1,h2⟩:=sL (rU n) (rU m) h;exact⟨by rw[tB h1],h2⟩
 |_=>simp[Tm.bytes] at h
|sort l =>
  intro u r s ht hu h;cases u with
 |sort m =>
   simp only[Tm.bytes,List.cons_append,List.append_assoc,List.nil_append] at h;injection h with _ h;obtain⟨h1,h2⟩:=sL ht hu h;exact⟨by rw[h1],h2⟩
 |_=>simp[Tm.bytes] at h
|const n ls =>
  intro u r s ht hu h;cases u with
 |const m ms =>
   simp only[Tm.bytes,List.cons_append,List.append_assoc,List.nil_append] at h;injection h with _ h;obtain⟨h1,h2⟩:=sL ht.1 hu.1 h;obtain⟨h3,h4⟩:=sL (no46 fun x hx=>(ht.2 x hx).1) (no46 fun x hx=>(hu.2 x hx).1) h2;exact⟨by rw[h1,zA0 (fun x hx=>(ht.2 x hx).2) (fun x hx=>(hu.2 x hx).2) h3],h4⟩
 |_=>simp[Tm.bytes] at h
|app f a ihf iha =>
  intro u r s ht hu h;cases u with
 |app g b =>
   simp only[Tm.bytes,List.cons_append,List.append_assoc] at h;injection h with _ h;obtain⟨h1,h2⟩:=ihf g _ _ ht.1 hu.1 h;obtain⟨h3,h4⟩:=iha b _ _ ht.2 hu.2 h2;exact⟨by rw[h1,h3],h4⟩
 |_=>simp[Tm.bytes] at h
|lam f a ihf iha =>
  intro u r s ht hu h;cases u with
 |lam g b =>
   simp only[Tm.bytes,List.cons_append,List.append_assoc] at h;injection h with _ h;obtain⟨h1,h2⟩:=ihf g _ _ ht.1 hu.1 h;obtain⟨h3,h4⟩:=iha b _ _ ht.2 hu.2 h2;exact⟨by rw[h1,h3],h4⟩
 |_=>simp[Tm.bytes] at h
|pi f a ihf iha =>
  intro u r s ht hu h;cases u with
 |pi g b =>
   simp only[Tm.bytes,List.cons_append,List.append_assoc] at h;injection h with _ h;obtain⟨h1,h2⟩:=ihf g _ _ ht.1 hu.1 h;obtain⟨h3,h4⟩:=iha b _ _ ht.2 hu.2 h2;exact⟨by rw[h1,h3],h4⟩
 |_=>simp[Tm.bytes] at h
|lett f a c ihf iha ihc =>
  intro u r s ht hu h;cases u with
 |lett g b d =>
   simp only[Tm.bytes,List.cons_append,List.append_assoc] at h;injection h with _ h;obtain⟨h1,h2⟩:=ihf g _ _ ht.1 hu.1 h;obtain⟨h3,h4⟩:=iha b _ _ ht.2.1 hu.2.1 h2;obtain⟨h5,h6⟩:=ihc d _ _ ht.2.2 hu.2.2 h4;exact⟨by rw[h1,h3,h5],h6⟩
 |_=>simp[Tm.bytes] at h
end Tm
theorem kV{T:Tm}(h:T.Pre):yF T.bytes=true↔T.Ok/\T.bytes.length<=2000:=by
 constructor
 ·intro hk;cases ht:vN T.bytes with
 |none=>rw[yF,ht] at hk;cases hk
 |some t =>
   obtain⟨h1,h2,h3⟩:=vS ht;obtain⟨rfl,_⟩:=Tm.preUniq t T [] [] h1.pre h (by rw[h2]);exact⟨h1,h3⟩
 ·rintro ⟨h1,h2⟩;rw[yF,zW ⟨h1,rfl,h2⟩];rfl
theorem tH(T:Tm):(T.Ok/\T.bytes.length<=2000->kT (some []) T=some T.bytes)/\(¬ (T.Ok/\T.bytes.length<=2000)->kT (some []) T=none):=by
 constructor
 ·intro h;rw[yI9 h.1 (by simpa using h.2)];rfl
 ·intro h;exact yJ0 (fun k=>h ⟨k.1,by simpa using k.2⟩)
def fY (a c:Nat):Unit->Tm->Nat->Tm × Unit:=fun _ t b=>(t.lift a (c+b),())
theorem uA(a c:Nat):∀ (T:Tm) (b:Nat),(T.mapS (fY a c) () b).1=T.lift a (c+b)
|.var n,b=>rfl
|.sort _,_=>rfl
|.const _ _,_=>rfl
|.app x y,b=>by simp only[Tm.mapS,Tm.lift,uA a c x b];rw[← uA a c y b]
|.lam x y,b=>by simp only[Tm.mapS,Tm.lift,uA a c x b];rw[Nat.add_assoc,← uA a c y (b+1)]
|.pi x y,b=>by simp only[Tm.mapS,Tm.lift,uA a c x b];rw[Nat.add_assoc,← uA a c y (b+1)]
|.lett x y z,b=>by simp only[Tm.mapS,Tm.lift,uA a c x b];rw[Nat.add_assoc,← uA a c y b,← uA a c z (b+1)]
theorem eT:∀ (m n:Nat),n<=m->(Lib.decDigits n).length<=(Lib.decDigits m).length:=by
 intro m
 induction m using Nat.strongRecOn with
|_ m ih =>
  intro n h;rw[Lib.decDigits_length,Lib.decDigits_length];by_cases hm:m<10
  ·rw[Lib.nDigits_small hm,Lib.nDigits_small (by omega)];exact nR _
  ·by_cases hn:n<10
   ·rw[Lib.nDigits_small hn,Lib.nDigits_big hm];omega
   ·have:=ih (m / 10) (by omega) (n / 10) (by omega);rw[Lib.decDigits_length,Lib.decDigits_length] at this;rw[Lib.nDigits_big hm,Lib.nDigits_big hn];omega
theorem tZ{n:Nat}(h:n<=9999):(Lib.decDigits n).length<=4:=by
 have:=eT 9999 n h;have e:(Lib.decDigits 9999).length=4:=by
  rw[Lib.decDigits_length,Lib.nDigits_big (by decide),Lib.nDigits_big (by decide),Lib.nDigits_big (by decide),Lib.nDigits_small (by decide)]
 omega
theorem bQ(n:Nat):1<=(Lib.decDigits n).length:=by
 have:=eT n 0 (Nat.zero_le _);rw[Lib.decDigits_length,Lib.nDigits_small (by decide)] at this;exact this
namespace Tm
theorem lift_len2{a m:Nat}(hm:m+a<=9999):∀ (T:Tm) (c:Nat),T.Lim m->(T.lift a c).bytes.length<=2*T.bytes.length
|var n,c,h=>by
  have h2:n<=m:=h;have:=tZ (n:=if c<=n then n+a else n) (by split<;>omega);have:=bQ n;simp only[lift,bytes,lC,lA,List.length_nil];omega
|sort _,_,_=>by simp only[lift];omega
|const _ _,_,_=>by simp only[lift];omega
|app x y,c,h=>by have:=lift_len2 hm x c h.1;have:=lift_len2 hm y c h.2;simp only[lift,bytes,lC,lA];omega
|lam x y,c,h=>by have:=lift_len2 hm x c h.1;have:=lift_len2 hm y (c+1) h.2;simp only[lift,bytes,lC,lA];omega
|pi x y,c,h=>by have:=lift_len2 hm x c h.1;have:=lift_len2 hm y (c+1) h.2;simp only[lift,bytes,lC,lA];omega
|lett x y z,c,h=>by have:=lift_len2 hm x c h.1;have:=lift_len2 hm y c h.2.1;have:=lift_len2 hm z (c+1) h.2.2;simp only[lift,bytes,lC,lA];omega
theorem lift_pre(a:Nat):∀ (T:Tm) (c:Nat),T.Pre->(T.lift a c).Pre
|var _,_,_=>trivial
|sort _,_,h=>h
|const _ _,_,h=>h
|app x y,c,h=>⟨lift_pre a x c h.1,lift_pre a y c h.2⟩
|lam x y,c,h=>⟨lift_pre a x c h.1,lift_pre a y (c+1) h.2⟩
|pi x y,c,h=>⟨lift_pre a x c h.1,lift_pre a y (c+1) h.2⟩
|lett x y z,c,h=>⟨lift_pre a x c h.1,lift_pre a y c h.2.1,lift_pre a z (c+1) h.2.2⟩
end Tm
def lvF (args:List (List UInt8)):Unit->Tm->Nat->Tm × Unit
|_,.sort l,_=>(.sort ((zS l args).getD []),())
|_,.const n ls,_=>(.const n (ls.map fun l=>(zS l args).getD []),())
|_,t,_=>(t,())
theorem zG4{args:List (List UInt8)}:∀ {ls r:List (List UInt8)},(ls.mapM fun l=>zS l args)=some r->(ls.map fun l=>(zS l args).getD [])=r
|[],r,h=>by simp at h;subst h;rfl
|l::ls,r,h=>by
  rw[List.mapM_cons] at h;obtain⟨x,hx,h2⟩:=Option.bind_eq_some_iff.1 h;obtain⟨r',hr,h3⟩:=Option.bind_eq_some_iff.1 h2;cases h3;rw[List.map_cons,hx,zG4 hr];rfl
theorem zG6{args:List (List UInt8)}:∀ {ls:List (List UInt8)},(ls.mapM fun l=>zS l args)=none->∃ l∈ls,zS l args=none
|[],h=>by simp at h
|l::ls,h=>by
  cases hx:zS l args with
 |none=>exact⟨l,List.mem_cons_self,hx⟩
 |some x =>
   rw[List.mapM_cons,hx] at h;cases hr:(ls.mapM fun l=>zS l args) with
  |none =>
    obtain⟨y,hy,h3⟩:=zG6 hr;exact⟨y,List.mem_cons_of_mem _ hy,h3⟩
  |some r=>rw[hr] at h;cases h
theorem eE:zD []=false:=by
 cases h:zD [] with
|false=>rfl
|true=>exact absurd rfl (jI h)
theorem sF(args:List (List UInt8)):∀ (T:Tm) (b:Nat),(∀ T',T.lvs args=some T'->(T.mapS (lvF args) () b).1=T')/\(T.lvs args=none->¬ (T.mapS (lvF args) () b).1.Ok)
|.var n,b=>⟨fun T' h=>by cases h;rfl,fun h=>by cases h⟩
|.sort l,b=>by
  cases hx:zS l args with
 |none =>
   refine⟨fun T' h=>?_,fun _ hk=>?_⟩
   ·rw[Tm.lvs,hx] at h;cases h
   ·have h1:zD ((zS l args).getD [])=true:=hk;rw[hx] at h1;exact absurd h1 (by rw[Option.getD_none,eE];decide)
 |some x =>
   refine⟨fun T' h=>?_,fun h=>?_⟩
   ·rw[Tm.lvs,hx] at h;cases h;show Tm.sort ((zS l args).getD [])=_;rw[hx];rfl
   ·rw[Tm.lvs,hx] at h;cases h
|.const n ls,b=>by
  cases hx:(ls.mapM fun l=>zS l args) with
 |none =>
   refine⟨fun T' h=>?_,fun _ hk=>?_⟩
   ·rw[Tm.lvs,hx] at h;cases h
   ·obtain⟨y,hy,h3⟩:=zG6 hx;have h1:∀ x∈ls.map (fun l=>(zS l args).getD []),zD x=true:=hk.2.2;have h2:=h1 [] (List.mem_map.2 ⟨y,hy,by rw[h3];rfl⟩);rw[eE] at h2;cases h2
 |some x =>
   refine⟨fun T' h=>?_,fun h=>?_⟩
   ·rw[Tm.lvs,hx] at h;cases h;show Tm.const n (ls.map fun l=>(zS l args).getD [])=_;rw[zG4 hx]
   ·rw[Tm.lvs,hx] at h;cases h
|.app x y,b=>by
  obtain⟨p1,p2⟩:=sF args x b;obtain⟨q1,q2⟩:=sF args y b;simp only[Tm.lvs,Tm.mapS];cases hx:x.lvs args with
 |none=>exact⟨(fun T' h=>by cases h),fun _ hk=>p2 hx hk.1⟩
 |some x' =>
   cases hy:y.lvs args with
  |none=>exact⟨(fun T' h=>by cases h),fun _ hk=>q2 hy hk.2⟩
  |some y'=>exact⟨(fun T' h=>by cases h;rw[p1 _ hx,q1 _ hy]),(fun h=>by cases h)⟩
|.lam x y,b=>by
  obtain⟨p1,p2⟩:=sF args x b;obtain⟨q1,q2⟩:=sF args y (b+1);simp only[Tm.lvs,Tm.mapS];cases hx:x.lvs args with
 |none=>exact⟨(fun T' h=>by cases h),fun _ hk=>p2 hx hk.1⟩
 |some x' =>
   cases hy:y.lvs args with
  |none=>exact⟨(fun T' h=>by cases h),fun _ hk=>q2 hy hk.2⟩
  |some y'=>exact⟨(fun T' h=>by cases h;rw[p1 _ hx,q1 _ hy]),(fun h=>by cases h)⟩
|.pi x y,b=>by
  obtain⟨p1,p2⟩:=sF args x b;obtain⟨q1,q2⟩:=sF args y (b+1);simp only[Tm.lvs,Tm.mapS];cases hx:x.lvs args with
 |none=>exact⟨(fun T' h=>by cases h),fun _ hk=>p2 hx hk.1⟩
 |some x' =>
   cases hy:y.lvs args with
  |none=>exact⟨(fun T' h=>by cases h),fun _ hk=>q2 hy hk.2⟩
  |some y'=>exact⟨(fun T' h=>by cases h;rw[p1 _ hx,q1 _ hy]),(fun h=>by cases h)⟩
|.lett x y z,b=>by
  obtain⟨p1,p2⟩:=sF args x b;obtain⟨q1,q2⟩:=sF args y b;obtain⟨r1,r2⟩:=sF args z (b+1);simp only[Tm.lvs,Tm.mapS];cases hx:x.lvs args with
 |none=>exact⟨(fun T' h=>by cases h),fun _ hk=>p2 hx hk.1⟩
 |some x' =>
   cases hy:y.lvs args with
  |none=>exact⟨(fun T' h=>by cases h),fun _ hk=>q2 hy hk.2.1⟩
  |some y' =>
    cases hz:z.lvs args with
   |none=>exact⟨(fun T' h=>by cases h),fun _ hk=>r2 hz hk.2.2⟩
   |some z'=>exact⟨(fun T' h=>by cases h;rw[p1 _ hx,q1 _ hy,r1 _ hz]),(fun h=>by cases h)⟩
theorem dQ{l:List UInt8}{T:Tm}{args:List (List UInt8)}(hT:qQ l T)(ha:args.length<=3):yE l args=kT (some []) (T.mapS (lvF args) () 0).1:=by
 obtain⟨h1,h2⟩:=sF args T 0;rw[yE,zW hT];show (if args.length<=3 then _ else _)=_;rw[iP ha];cases hx:T.lvs args with
|none=>rw[(tH _).2 (fun h=>h2 hx h.1)];rfl
|some T' =>
  rw[h1 _ hx];have hk:=(oX T T' hT.1 hx).1;show (if T'.bytes.length<=2000 then some T'.bytes else none)=_;by_cases hl:T'.bytes.length<=2000
  ·rw[iP hl,(tH T').1 ⟨hk,hl⟩]
  ·rw[iN hl,(tH T').2 (fun h=>hl h.2)]
theorem lO(l:List UInt8)(args:List (List UInt8)):(46:UInt8)∉(zS l args).getD []/\(44:UInt8)∉(zS l args).getD []/\((zS l args).getD []).length<=60:=by
 cases hx:zS l args with
|none=>simp
|some x =>
  have h1:=(mQ hx).1;exact⟨(uT h1).1,(uT h1).2,(zU h1).1⟩
theorem cV:∀ {ls:List (List UInt8)},(∀ y∈ls,y.length<=60)->(yH ls).length<=ls.length*61
|[],_=>by simp[yH]
|x::r,h=>by
  have h1:=h x List.mem_cons_self;have h2:=cV (ls:=r) fun y hy=>h y (List.mem_cons_of_mem _ hy);simp only[yH,lA,lC];omega
theorem xI5{args:List (List UInt8)}{B:Nat}:∀ (s:Unit) (t:Tm) (b:Nat),t.OkLeaf B b->(lvF args s t b).1.Pre/\(lvF args s t b).1.Lim 9999/\(lvF args s t b).1.bytes.length<=2000*t.bytes.length:=by
 rintro s t b ⟨hb,⟨n,hn,rfl⟩|⟨l,hl,rfl⟩|⟨n,ls,hk,rfl⟩⟩
 ·exact⟨trivial,(by show n<=9999;omega),by show (Tm.var n).bytes.length<=_;omega⟩
 ·obtain⟨h1,h2,h3⟩:=lO l args;refine⟨h1,trivial,?_⟩;simp only[lvF,Tm.bytes,lC,lA,List.length_nil];omega
 ·refine⟨⟨pD hk.1,fun x hx=>?_⟩,trivial,?_⟩
  ·obtain⟨y,_,rfl⟩:=List.mem_map.1 hx;exact⟨(lO y args).1,(lO y args).2.1⟩
  ·have h3:ls.length<=3:=hk.2.1
   have h4:=cV (ls:=ls.map fun l=>(zS l args).getD []) (fun x hx=>by
    obtain⟨y,_,rfl⟩:=List.mem_map.1 hx;exact(lO y args).2.2)
   rw[List.length_map] at h4;have h5:ls.length*61<=183:=(by omega);simp only[lvF,Tm.bytes,lC,lA,List.length_nil];omega
def Tm.Good (t:Tm):Prop:=t.Ok/\t.bytes.length<=2000
theorem zC0{t:Tm}(h:t.Pre):yF t.bytes=true↔t.Good:=kV h
theorem rZ{t:Tm}(h:t.Good):kT (some []) t=some t.bytes:=(tH t).1 h
theorem oT{t:Tm}(h:¬ t.Good):kT (some []) t=none:=(tH t).2 h
theorem kG:∀ (us:List Tm) (h:Tm),(h.given us).Ok↔h.Ok/\∀ a∈us,a.Ok
|[],h=>by simp[Tm.given]
|a::us,h=>by
  have:=kG us (.app h a);show (Tm.given (.app h a) us).Ok↔_;rw[this];constructor
  ·rintro ⟨⟨h1,h2⟩,h3⟩;exact⟨h1,fun x hx=>(List.mem_cons.1 hx).elim (fun e=>e ▸ h2) (h3 x)⟩
  ·rintro ⟨h1,h2⟩;exact⟨⟨h1,h2 a List.mem_cons_self⟩,fun x hx=>h2 x (List.mem_cons_of_mem _ hx)⟩
theorem tE:∀ (ds:List Tm) (t:Tm),(Tm.arrows ds t).Ok↔t.Ok/\∀ a∈ds,a.Ok
|[],t=>by simp[Tm.arrows]
|d::ds,t=>by
  have:=tE ds t;show (d.Ok/\(Tm.arrows ds t).Ok)↔_;rw[this];constructor
  ·rintro ⟨h1,h2,h3⟩;exact⟨h2,fun x hx=>(List.mem_cons.1 hx).elim (fun e=>e ▸ h1) (h3 x)⟩
  ·rintro ⟨h1,h2⟩;exact⟨h2 d List.mem_cons_self,h1,fun x hx=>h2 x (List.mem_cons_of_mem _ hx)⟩
theorem kF:∀ (us:List Tm) (h:Tm),h.Pre->(∀ a∈us,a.Pre)->(h.given us).Pre
|[],h,k,_=>k
|a::us,h,k,ha=>kF us (.app h a) ⟨k,ha a List.mem_cons_self⟩ (fun x hx=>ha x (List.mem_cons_of_mem _ hx))
theorem jU:∀ (ds:List Tm) (t:Tm),t.Pre->(∀ a∈ds,a.Pre)->(Tm.arrows ds t).Pre
|[],t,k,_=>k
|d::ds,t,k,ha=>⟨ha d List.mem_cons_self,jU ds t k (fun x hx=>ha x (List.mem_cons_of_mem _ hx))⟩
theorem eQ{m:Nat}:∀ (us:List Tm) (h:Tm),h.Lim m->(∀ a∈us,a.Lim m)->(h.given us).Lim m
|[],h,k,_=>k
|a::us,h,k,ha=>eQ us (.app h a) ⟨k,ha a List.mem_cons_self⟩ (fun x hx=>ha x (List.mem_cons_of_mem _ hx))
theorem jV{m:Nat}:∀ (ds:List Tm) (t:Tm),t.Lim m->(∀ a∈ds,a.Lim m)->(Tm.arrows ds t).Lim m
|[],t,k,_=>k
|d::ds,t,k,ha=>⟨ha d List.mem_cons_self,jV ds t k (fun x hx=>ha x (List.mem_cons_of_mem _ hx))⟩
theorem eP{h:Tm}{us:List Tm}(hh:h.Pre)(hu:∀ a∈us,a.Pre):vL h.bytes (us.map Tm.bytes)=kT (some []) (h.given us):=by
 by_cases hg:(h.given us).Good
 ·have h1:=(kG us h).1 hg.1;rw[rZ hg];exact mW h1.1 h1.2 hg.2
 ·rw[oT hg,vL,iN];rintro ⟨k1,k2,k3⟩;refine hg ⟨(kG us h).2 ⟨((zC0 hh).1 k1).1,fun a ha=>((zC0 (hu a ha)).1 (k2 _ (List.mem_map_of_mem ha))).1⟩,?_⟩;rw[uU];rw[List.length_map] at k3;have e:(us.map Tm.bytes).flatten=dD us:=rfl;rw[e] at k3;simp only[lA,List.length_replicate];omega
theorem jT{t:Tm}{ds:List Tm}(ht:t.Pre)(hd:∀ a∈ds,a.Pre):yT (ds.map Tm.bytes) t.bytes=kT (some []) (Tm.arrows ds t):=by
 by_cases hg:(Tm.arrows ds t).Good
 ·have h1:=(tE ds t).1 hg.1;rw[rZ hg];exact qH h1.1 h1.2 hg.2
 ·rw[oT hg,yT,iN];rintro ⟨k1,k2,k3⟩;refine hg ⟨(tE ds t).2 ⟨((zC0 ht).1 k1).1,fun a ha=>((zC0 (hd a ha)).1 (k2 _ (List.mem_map_of_mem ha))).1⟩,?_⟩;rw[xH];rw[List.length_map] at k3;have e:(ds.map Tm.bytes).flatten=dD ds:=rfl;rw[e] at k3;rw[lA,zZ0];omega
theorem zH2{n:List UInt8}{ls:List (List UInt8)}{a:Nat}:∀ (t:Tm) (c:Nat),t.targ=.const n ls->(t.lift a c).targ=.const n ls
|.var _,c,h=>by cases h
|.sort _,c,h=>by cases h
|.const _ _,c,h=>h
|.app _ _,c,h=>by cases h
|.lam _ _,c,h=>by cases h
|.pi f b,c,h=>zH2 b (c+1) h
|.lett _ _ _,c,h=>by cases h
theorem dG:∀ (t:Tm),Tm.arrows t.doms t.targ=t
|.var _=>rfl
|.sort _=>rfl
|.const _ _=>rfl
|.app _ _=>rfl
|.lam _ _=>rfl
|.pi f b=>by
  show Tm.pi f (Tm.arrows b.doms b.targ)=_;rw[dG b]
|.lett _ _ _=>rfl
theorem zC3:∀ {t:Tm},t.Pre->∀ a∈t.doms,a.Pre
|.pi f x,k,a,h=>by
  simp only[Tm.doms,List.mem_cons] at h;exact h.elim (fun e=>e ▸ k.1) (fun h=>zC3 k.2 a h)
|.var _,_,a,h=>by simp[Tm.doms] at h
|.sort _,_,a,h=>by simp[Tm.doms] at h
|.const _ _,_,a,h=>by simp[Tm.doms] at h
|.lam _ _,_,a,h=>by simp[Tm.doms] at h
|.app _ _,_,a,h=>by simp[Tm.doms] at h
|.lett _ _ _,_,a,h=>by simp[Tm.doms] at h
theorem zY6{m:Nat}:∀ {t:Tm},t.Lim m->∀ a∈t.doms,a.Lim m
|.pi f x,k,a,h=>by
  simp only[Tm.doms,List.mem_cons] at h;exact h.elim (fun e=>e ▸ k.1) (fun h=>zY6 k.2 a h)
|.var _,_,a,h=>by simp[Tm.doms] at h
|.sort _,_,a,h=>by simp[Tm.doms] at h
|.const _ _,_,a,h=>by simp[Tm.doms] at h
|.lam _ _,_,a,h=>by simp[Tm.doms] at h
|.app _ _,_,a,h=>by simp[Tm.doms] at h
|.lett _ _ _,_,a,h=>by simp[Tm.doms] at h
theorem zU8{t:Tm}(h:t.Ok):3<=t.bytes.length:=by
 cases t with
|var n=>have:=bQ n;simp[Tm.bytes];omega
|sort l=>have:=List.length_pos_iff.2 (jI h);simp[Tm.bytes];omega
|const n ls=>simp[Tm.bytes];omega
|app a b=>have:=kM a;have:=a.bytes_pos;have:=b.bytes_pos;simp[Tm.bytes];omega
|lam a b=>have:=kM a;have:=a.bytes_pos;have:=b.bytes_pos;simp[Tm.bytes];omega
|pi a b=>have:=kM a;have:=a.bytes_pos;have:=b.bytes_pos;simp[Tm.bytes];omega
|lett a b c=>have:=kM a;have:=b.bytes_pos;have:=c.bytes_pos;simp[Tm.bytes];omega
theorem zM0:∀ (ts:List Tm),(∀ a∈ts,a.Ok)->4*ts.length<=(oO ts).length
|[],_=>Nat.zero_le _
|a::ts,h=>by
  have h1:=zU8 (h a List.mem_cons_self);have h2:=zM0 ts fun x hx=>h x (List.mem_cons_of_mem _ hx);rw[show oO (a::ts)=(112::a.bytes)++oO ts from rfl,lA,lC,lC];omega
theorem nI{t:Tm}(h:t.Ok)(hl:t.bytes.length<=2000):t.doms.length<=499:=by
 have h1:=zM0 t.doms (Tm.doms_ok h);have h2:=congrArg List.length (uQ t);rw[lA] at h2;have:=t.targ.bytes_pos;omega
theorem zC8(a b:List Tm):oO (a++b)=oO a++oO b:=by simp[oO]
theorem yD0{dm:Tm}(h:qQ dm.bytes dm){a:Nat}(ha:a<=999):lifted dm.bytes (a:Int) 0=kT (some []) (dm.lift a 0):=by
 rw[lifted,zW h];simp only;rw[iP (by omega),Int.toNat_natCast];rfl
theorem zD6(s:Nat):∀ a∈gN s,a.Pre:=fun a ha=>by
 obtain⟨i,_,rfl⟩:=List.mem_map.1 ha;trivial
theorem dH(n q:Nat):∀ a∈rY n q,a.Pre:=fun a ha=>by
 obtain⟨i,_,rfl⟩:=List.mem_map.1 ha;trivial
theorem zZ7{n:Nat}(h:999<n):vH (n:Int)=[]:=by
 unfold vH;rw[iN (by omega)]
theorem yA1:yF []=false:=by
 rw[yF,yZ]
 ·rfl
 ·intro t h;have:=h.2.1;have h2:=t.bytes_pos;rw[this] at h2;simp at h2
theorem zT2(us:List (List UInt8)):vL [] us=none:=by
 rw[vL,iN];rintro ⟨h,_⟩;rw[yA1] at h;cases h
theorem zM1(n j q s:Nat):(mY n j q s).Pre:=kF _ _ trivial (zD6 s)
theorem yH8{k n j q:Nat}{dm:Tm}(h:dm.Pre):(tT k n j q dm).Pre:=jU _ _ ⟨trivial,zM1 _ _ _ _⟩ (zC3 (Tm.lift_pre _ _ _ h))
open Classical in
theorem yV2{k n j q:Nat}{dm:Tm}(h:qQ dm.bytes dm)(ha:n - j+q<=999) :
  zE2 k n j q dm.bytes=if (dm.lift (n - j+q) 0).Good/\(tT k n j q dm).Good then some (tT k n j q dm).bytes else none:=by
 have hL:=Tm.lift_pre (n - j+q) dm 0 h.1.pre;have hdp:=zC3 hL;unfold zE2;rw[yD0 h ha];by_cases hg:(dm.lift (n - j+q) 0).Good
 ·rw[rZ hg];have hdo:zT (dm.lift (n - j+q) 0).bytes=(dm.lift (n - j+q) 0).doms.map Tm.bytes:=kJ hg.1 hg.2;simp only[hdo,List.length_map];unfold tT;generalize (dm.lift (n - j+q) 0).doms=dd at hdp |-;have hb:(Tm.app (.var (k+n+q+dd.length)) (mY n j q dd.length)).Pre:=⟨trivial,zM1 _ _ _ _⟩;by_cases hm:n - 1 - j+q+dd.length<=999
  ·rw[qY hm,← gM,eP (h:=.var _) trivial (zD6 _)];show (match kT (some []) (mY n j q dd.length) with|none=>none|some arg=>_)=_;by_cases hc:(mY n j q dd.length).Good
   ·rw[rZ hc];show yT (dd.map Tm.bytes) (Tm.app (.var (k+n+q+dd.length)) (mY n j q dd.length)).bytes=_;rw[jT hb hdp];by_cases hs:(Tm.arrows dd (.app (.var (k+n+q+dd.length)) (mY n j q dd.length))).Good
    ·rw[rZ hs,iP ⟨hg,hs⟩]
    ·rw[oT hs,iN (fun hh=>hs hh.2)]
   ·rw[oT hc,iN];rintro ⟨_,h1,h2⟩;have h3:=((tE _ _).1 h1).1;refine hc ⟨h3.2,?_⟩;rw[xH,lA] at h2;simp only[Tm.bytes,lC,lA] at h2;omega
  ·rw[zZ7 (by omega),zT2,iN];rintro ⟨_,h1,_⟩;have h3:=((tE _ _).1 h1).1.2;have h4:n - 1 - j+q+dd.length<=999:=((kG _ _).1 h3).1;omega
 ·rw[oT hg,iN (fun hh=>hg hh.1)]
theorem aI{k n:Nat}:∀ (ds:List (Tm × Bool)) (j q:Nat) (acc:List Tm),∃ more,(zM k n ds j q acc).1=acc++more
|[],j,q,acc=>⟨[],by simp[zM]⟩
|(dm,true)::r,j,q,acc=>by
  obtain⟨m,hm⟩:=aI (k:=k) (n:=n) r (j+1) (q+1) (acc++[tT k n j q dm]);refine⟨tT k n j q dm::m,?_⟩;rw[zM,iP rfl,hm];simp
|(dm,false)::r,j,q,acc=>by
  obtain⟨m,hm⟩:=aI (k:=k) (n:=n) r (j+1) q acc;exact⟨m,by rw[zM,iN (by simp),hm]⟩
theorem yW4{k n:Nat}:∀ (ds:List (Tm × Bool)) (j q:Nat) (acc:List Tm),(zM k n ds j q acc).2<=q+ds.length
|[],j,q,acc=>by simp[zM]
|(dm,true)::r,j,q,acc=>by
  have:=yW4 (k:=k) (n:=n) r (j+1) (q+1) (acc++[tT k n j q dm]);rw[zM,iP rfl,lC];simp only;omega
|(dm,false)::r,j,q,acc=>by
  have:=yW4 (k:=k) (n:=n) r (j+1) q acc;rw[zM,iN (by simp),lC];omega
theorem aH{k n:Nat}:∀ (ds:List (Tm × Bool)) (j q:Nat) (acc:List Tm),(∀ p∈ds,p.1.Pre)->(∀ a∈acc,a.Pre)->∀ a∈(zM k n ds j q acc).1,a.Pre
|[],j,q,acc,_,ha=>by simpa [zM] using ha
|(dm,true)::r,j,q,acc,hd,ha=>by
  rw[zM,iP rfl];refine aH r (j+1) (q+1) _ (fun p hp=>hd p (List.mem_cons_of_mem _ hp)) fun a h=>?_;rcases List.mem_append.1 h with h|h
  ·exact ha a h
  ·rw[List.mem_singleton] at h;rw[h];exact yH8 (hd (dm,true) List.mem_cons_self)
|(dm,false)::r,j,q,acc,hd,ha=>by
  rw[zM,iN (by simp)];exact aH r (j+1) q _ (fun p hp=>hd p (List.mem_cons_of_mem _ hp)) ha
theorem zO6{k n:Nat}{sh:List UInt8->Int}{cn:List UInt8}{cl:List (List UInt8)}:∀ (ds:List (Tm × Bool)) (j q:Nat) (acc:List Tm),(∀ p∈ds,sh p.1.bytes=if p.2=true then 1 else 0) ->
  (∀ p∈ds,p.2=true->p.1.targ=.const cn cl)->(∀ p∈ds,p.1.Good/\p.1∈acc)->n+q+ds.length<=999 ->
  vG k n sh (ds.map fun p=>p.1.bytes) j q (acc.map Tm.bytes)=some ((zM k n ds j q acc).1.map Tm.bytes,(zM k n ds j q acc).2) \/
  (vG k n sh (ds.map fun p=>p.1.bytes) j q (acc.map Tm.bytes)=none/\¬ ((∀ a∈(zM k n ds j q acc).1,a.Ok)/\(oO (zM k n ds j q acc).1).length<=2000))
|[],j,q,acc,_,_,_,_=>.inl (by simp[vG,zM])
|(dm,b)::r,j,q,acc,hs,ht,hg,hz=>by
  have h1:=hs (dm,b) List.mem_cons_self;have h2:∀ p∈r,sh p.1.bytes=if p.2=true then 1 else 0:=fun p hp=>hs p (List.mem_cons_of_mem _ hp);have h3:∀ p∈r,p.2=true->p.1.targ=.const cn cl:=fun p hp=>ht p (List.mem_cons_of_mem _ hp);rw[lC] at hz;rw[List.map_cons];cases b
  ·simp only[Bool.false_eq_true,if_false] at h1;have ih:=zO6 (k:=k) (n:=n) r (j+1) q acc h2 h3 (fun p hp=>hg p (List.mem_cons_of_mem _ hp)) (by omega);rw[vG,h1,iN (by omega),iN (by omega),zM,iN (by simp)];exact ih
  ·simp only[if_true] at h1;obtain⟨hdm,hin⟩:=hg (dm,true) List.mem_cons_self;have ih:=zO6 (k:=k) (n:=n) r (j+1) (q+1) (acc++[tT k n j q dm]) h2 h3 (fun p hp=>⟨(hg p (List.mem_cons_of_mem _ hp)).1,List.mem_append_left _ (hg p (List.mem_cons_of_mem _ hp)).2⟩) (by omega);rw[List.map_append,List.map_singleton] at ih;rw[vG,h1,iN (by omega),iP rfl,yV2 ⟨hdm.1,rfl,hdm.2⟩ (by omega),zM,iP rfl];by_cases hc:(dm.lift (n - j+q) 0).Good/\(tT k n j q dm).Good
   ·rw[iP hc];exact ih
   ·rw[iN hc];refine .inr ⟨rfl,fun ⟨k1,k2⟩=>hc ?_⟩;obtain⟨more,hm⟩:=aI (k:=k) (n:=n) r (j+1) (q+1) (acc++[tT k n j q dm]);rw[hm] at k1 k2;have hst:(tT k n j q dm).Ok:=k1 _ (by simp);rw[zC8,zC8,lA,lA] at k2;have e1:(oO [tT k n j q dm]).length=(tT k n j q dm).bytes.length+1:=(by simp[oO]);have e2:=oE hin;simp only at e2;have hT:=ht (dm,true) List.mem_cons_self rfl;have hLT:=zH2 (a:=n - j+q) dm 0 hT;have e3:=uQ (dm.lift (n - j+q) 0);have e4:=congrArg List.length e3;rw[lA,hLT] at e4;have e5:=Tm.targ_len dm;simp only at hT;rw[hT] at e5;have hso:=(tE _ _).1 hst;have e6:=congrArg List.length (xH (dm.lift (n - j+q) 0).doms (.app (.var (k+n+q+(dm.lift (n - j+q) 0).doms.length)) (mY n j q (dm.lift (n - j+q) 0).doms.length)));rw[lA] at e6;have e7:(tT k n j q dm).bytes.length=(oO (dm.lift (n - j+q) 0).doms).length+(Tm.app (.var (k+n+q+(dm.lift (n - j+q) 0).doms.length)) (mY n j q (dm.lift (n - j+q) 0).doms.length)).bytes.length:=e6;refine⟨⟨?_,by omega⟩,hst,by omega⟩;rw[← dG (dm.lift (n - j+q) 0),hLT];have hk:=Tm.targ_ok hdm.1;rw[hT] at hk;exact kP _ _ hk hso.2
theorem yL5{sh:List UInt8->Int}{cn nm:List UInt8}{cl lv:List (List UInt8)}{d:Dc}{k:Nat}{t:Tm}{ds:List (Tm × Bool)}(ht:qQ (yR d (k:Int)) t)(hd:t.doms=ds.map Prod.fst)
  (hs:∀ p∈ds,sh p.1.bytes=if p.2=true then 1 else 0) (hT:∀ p∈ds,p.2=true->p.1.targ=.const cn cl) (hn:tN d k=nm) (hl:zN d.params.toNat=lv) (hc:(Tm.const nm lv).Ok) (hsh:yA (zR d) d.name=sh) :
  sR d k=kT (some []) (xP nm lv k ds):=by
 have e1:zT (yR d (k:Int))=ds.map fun p=>p.1.bytes:=by
  rw[zT,zW ht];simp[hd]
 have hle:t.bytes.length<=2000:=by rw[ht.2.1];exact ht.2.2
 have hdl:=nI ht.1 hle;rw[hd,List.length_map] at hdl;have hmem:∀ p∈ds,p.1∈t.doms:=fun p hp=>by rw[hd];exact List.mem_map_of_mem hp
 have hgd:∀ p∈ds,p.1.Good:=fun p hp=>⟨Tm.doms_ok ht.1 _ (hmem p hp),by
  have h1:=oE (hmem p hp);have h2:=congrArg List.length (uQ t);rw[lA] at h2;omega⟩
 have e2:=zO6 (k:=k) (n:=ds.length) (sh:=sh) ds 0 0 (ds.map Prod.fst) hs hT (fun p hp=>⟨hgd p hp,List.mem_map_of_mem hp⟩) (by omega);rw[List.map_map] at e2;have hq:=yW4 (k:=k) (n:=ds.length) ds 0 0 (ds.map Prod.fst)
 have hp:=aH (k:=k) (n:=ds.length) ds 0 0 (ds.map Prod.fst) (fun p hp=>(hgd p hp).1.pre) (fun a ha=>by
  obtain⟨p,hp,rfl⟩:=List.mem_map.1 ha;exact(hgd p hp).1.pre)
 rw[sR,e1,List.length_map,hsh];rw[show (ds.map fun p=>p.1.bytes)=ds.map (Tm.bytes ∘ Prod.fst) from rfl] at e2 |-;unfold xP;generalize zM k ds.length ds 0 0 (ds.map Prod.fst)=r at *;obtain⟨all,q⟩:=r;simp only at e2 hq hp;have hb:(Tm.app (.var (k+ds.length+q)) (fQ nm lv ds.length q)).Pre:=⟨trivial,kF _ _ hc.pre (dH _ _)⟩;rcases e2 with e2|⟨e2,e3⟩
 ·rw[e2];simp only[lU,hn,hl];rw[← dI (by omega),eP hc.pre (dH _ _)];show (match kT (some []) (fQ nm lv ds.length q) with|none=>none|some made=>_)=_;by_cases hm:(fQ nm lv ds.length q).Good
  ·rw[rZ hm];show yT (all.map Tm.bytes) (Tm.app (.var (k+ds.length+q)) (fQ nm lv ds.length q)).bytes=_;rw[jT hb hp];rfl
  ·rw[oT hm,oT];rintro ⟨h1,h2⟩;have h3:=((tE _ _).1 h1).1;refine hm ⟨h3.2,?_⟩;rw[endT,xH,lA] at h2;simp only[Tm.bytes,lC,lA] at h2;omega
 ·rw[e2];show none=_;rw[oT];rintro ⟨h1,h2⟩;refine e3 ⟨((tE _ _).1 h1).2,?_⟩;rw[endT,xH,lA] at h2;simp only at h2 |-;omega
theorem xK{a m M:Nat}(h:m+a<=M):∀ (t:Tm) (c:Nat),t.Lim m->(t.lift a c).Lim M
|.var n,c,k=>by
  have h2:n<=m:=k;show (if c<=n then n+a else n)<=M;split<;>omega
|.sort _,_,_=>trivial
|.const _ _,_,_=>trivial
|.app x y,c,k=>⟨xK h x c k.1,xK h y c k.2⟩
|.lam x y,c,k=>⟨xK h x c k.1,xK h y (c+1) k.2⟩
|.pi x y,c,k=>⟨xK h x c k.1,xK h y (c+1) k.2⟩
|.lett x y z,c,k=>⟨xK h x c k.1,xK h y c k.2.1,xK h z (c+1) k.2.2⟩
theorem mC:∀ {t:Tm},t.Ok->t.Lim 999
|.var _,h=>h
|.sort _,_=>trivial
|.const _ _,_=>trivial
|.app _ _,h=>⟨mC h.1,mC h.2⟩
|.lam _ _,h=>⟨mC h.1,mC h.2⟩
|.pi _ _,h=>⟨mC h.1,mC h.2⟩
|.lett _ _ _,h=>⟨mC h.1,mC h.2.1,mC h.2.2⟩
theorem mD(a:Nat):∀ (t:Tm) (c:Nat),(t.lift a c).doms.length=t.doms.length
|.var _,_=>rfl
|.sort _,_=>rfl
|.const _ _,_=>rfl
|.app _ _,_=>rfl
|.lam _ _,_=>rfl
|.pi f b,c=>by
  show (b.lift a (c+1)).doms.length+1=b.doms.length+1;rw[mD a b (c+1)]
|.lett _ _ _,_=>rfl
theorem zV7{us:List Tm}(h:∀ u∈us,∃ n,n<=9999/\u=.var n):(dD us).length<=6*us.length:=by
 induction us with
|nil=>simp[dD]
|cons u us ih =>
  obtain⟨n,hn,rfl⟩:=h u List.mem_cons_self;have h1:=ih fun x hx=>h x (List.mem_cons_of_mem _ hx);have h2:=tZ hn;rw[show dD (Tm.var n::us)=(Tm.var n).bytes++dD us from rfl,lA,lC];simp only[Tm.bytes,lC,lA,List.length_nil];omega
theorem zD5{s:Nat}(h:s<=9999):∀ u∈gN s,∃ n,n<=9999/\u=Tm.var n:=fun u hu=>by
 obtain⟨i,_,rfl⟩:=List.mem_map.1 hu;exact⟨_,by omega,rfl⟩
theorem zM5{n q:Nat}(h:n+q<=9999):∀ u∈rY n q,∃ n,n<=9999/\u=Tm.var n:=fun u hu=>by
 obtain⟨i,hi,rfl⟩:=List.mem_map.1 hu;rw[List.mem_range] at hi;exact⟨_,by omega,rfl⟩
theorem zV6{us:List Tm}(h:∀ u∈us,∃ n,n<=9999/\u=.var n):∀ u∈us,u.Lim 9999:=fun u hu=>by
 obtain⟨n,hn,rfl⟩:=h u hu;exact hn
theorem yS6{n j q s:Nat}(h:n - 1 - j+q+s<=9999)(hs:s<=499):(mY n j q s).bytes.length<=3499:=by
 have h1:=zV7 (zD5 (s:=s) (by omega));have h2:=tZ h;have h3:(gN s).length=s:=by simp[gN]
 rw[mY,uU];simp only[lA,List.length_replicate,Tm.bytes,lC,List.length_nil];omega
theorem yH9{k n j q:Nat}{dm:Tm}(hd:dm.Good)(ha:n - j+q<=999)(hk:k+n+q<=2000):(tT k n j q dm).Lim 9999/\(tT k n j q dm).bytes.length<=8000:=by
 have hl:=mC hd.1;have h1:=xK (a:=n - j+q) (M:=9999) (by omega) dm 0 hl;have h2:=Tm.lift_len2 (a:=n - j+q) (by omega) dm 0 hl;have hs:(dm.lift (n - j+q) 0).doms.length<=499:=by rw[mD];exact nI hd.1 hd.2
 have h3:=congrArg List.length (uQ (dm.lift (n - j+q) 0));rw[lA] at h3;have hd2:=hd.2;unfold tT;have hdl:=zY6 h1;generalize dm.lift (n - j+q) 0=L at *;have h4:=yS6 (n:=n) (j:=j) (q:=q) (s:=L.doms.length) (by omega) hs;have h5:=tZ (n:=k+n+q+L.doms.length) (by omega);constructor
 ·exact jV _ _ ⟨(by show k+n+q+L.doms.length<=9999;omega),eQ _ _ (by show n - 1 - j+q+L.doms.length<=9999;omega) (zV6 (zD5 (by omega)))⟩ hdl
 ·rw[xH,lA];simp only[Tm.bytes,lC,lA,List.length_nil];omega
theorem zO7{k n:Nat}(hk:k<=10):∀ (ds:List (Tm × Bool)) (j q:Nat) (acc:List Tm),(∀ p∈ds,p.1.Good)->n+q+ds.length<=999->(∀ a∈acc,a.Lim 9999) ->
  (∀ a∈(zM k n ds j q acc).1,a.Lim 9999)/\(oO (zM k n ds j q acc).1).length<=(oO acc).length+8001*ds.length
|[],j,q,acc,_,_,ha=>by
  rw[zM];exact⟨ha,by simp⟩
|(dm,true)::r,j,q,acc,hd,hz,ha=>by
  rw[lC] at hz;obtain⟨h1,h2⟩:=yH9 (k:=k) (n:=n) (j:=j) (q:=q) (hd (dm,true) List.mem_cons_self) (by omega) (by omega)
  obtain⟨h3,h4⟩:=zO7 (n:=n) hk r (j+1) (q+1) (acc++[tT k n j q dm]) (fun p hp=>hd p (List.mem_cons_of_mem _ hp)) (by omega) (fun a h=>by
   rcases List.mem_append.1 h with h|h
   ·exact ha a h
   ·rw[List.mem_singleton] at h;rw[h];exact h1)
  rw[zM,iP rfl];refine⟨h3,Nat.le_trans h4 ?_⟩;rw[zC8,lA,lC];have e1:(oO [tT k n j q dm]).length=(tT k n j q dm).bytes.length+1:=(by simp[oO]);simp only at h2;omega
|(dm,false)::r,j,q,acc,hd,hz,ha=>by
  rw[lC] at hz;obtain⟨h3,h4⟩:=zO7 (n:=n) hk r (j+1) q acc (fun p hp=>hd p (List.mem_cons_of_mem _ hp)) (by omega) ha;rw[zM,iN (by simp)];refine⟨h3,Nat.le_trans h4 ?_⟩;rw[lC];omega
theorem yC7{k:Nat}(hk:k<=10){nm:List UInt8}{lv:List (List UInt8)}{t:Tm}{ds:List (Tm × Bool)}(ht:t.Good)(hd:t.doms=ds.map Prod.fst)(hc:(Tm.const nm lv).Good) :
  (xP nm lv k ds).Lim 9999/\(xP nm lv k ds).Pre/\(xP nm lv k ds).bytes.length<=100000000:=by
 have hdl:=nI ht.1 ht.2;have hmem:∀ p∈ds,p.1∈t.doms:=fun p hp=>by rw[hd];exact List.mem_map_of_mem hp
 have hcp:=congrArg List.length (uQ t);rw[lA] at hcp
 have hgd:∀ p∈ds,p.1.Good:=fun p hp=>⟨Tm.doms_ok ht.1 _ (hmem p hp),by
  have h1:=oE (hmem p hp);have:=ht.2;omega⟩
 rw[hd,List.length_map] at hdl;have hq:=yW4 (k:=k) (n:=ds.length) ds 0 0 (ds.map Prod.fst)
 have hp:=aH (k:=k) (n:=ds.length) ds 0 0 (ds.map Prod.fst) (fun p hp=>(hgd p hp).1.pre) (fun a ha=>by
  obtain⟨p,hp,rfl⟩:=List.mem_map.1 ha;exact(hgd p hp).1.pre)
 obtain⟨hl,hz⟩:=zO7 (k:=k) (n:=ds.length) hk ds 0 0 (ds.map Prod.fst) hgd (by omega) (fun a ha=>by
  obtain⟨p,hp,rfl⟩:=List.mem_map.1 ha;exact Tm.Ok.lim9 (hgd p hp).1)
 rw[← hd] at hz;unfold xP;rw[← hd] at hq hp hl |-;generalize zM k ds.length ds 0 0 t.doms=r at *;obtain⟨all,q⟩:=r;simp only at hq hp hl hz;have h5:=tZ (n:=k+ds.length+q) (by omega);have h6:=zV7 (zM5 (n:=ds.length) (q:=q) (by omega));have h7:(rY ds.length q).length=ds.length:=by simp[rY]
 have hc2:=hc.2;have ht2:=ht.2;refine⟨?_,?_,?_⟩
 ·exact jV _ _ ⟨(by show k+ds.length+q<=9999;omega),eQ _ _ trivial (zV6 (zM5 (by omega)))⟩ hl
 ·exact jU _ _ ⟨trivial,kF _ _ hc.1.pre (dH _ _)⟩ hp
 ·rw[endT,fQ,xH,lA];simp only[Tm.bytes] at hc2 |-;simp only[lC,lA,List.length_nil,uU,List.length_replicate,Tm.bytes] at hc2 |-;omega
theorem rK{k n:Nat}{sh:List UInt8->Int}:∀ (l:List (List UInt8)) (j q:Nat) (acc:List (List UInt8)),(∃ x∈l,sh x=2)->vG k n sh l j q acc=none
|[],_,_,_,⟨x,hx,_⟩=>by cases hx
|a::l,j,q,acc,⟨x,hx,h2⟩=>by
  rw[vG];by_cases ha:sh a=2
  ·rw[iP ha]
  ·rw[iN ha];have hx':∃ x∈l,sh x=2:=by
    rcases List.mem_cons.1 hx with rfl|hx
    ·exact absurd h2 ha
    ·exact⟨x,hx,h2⟩
   split
   ·split
    ·rfl
    ·exact rK l _ _ _ hx'
   ·exact rK l _ _ _ hx'
theorem yC6{d:Dc}{k:Nat}(hc:isCtor d (k:Int)=true)(h:(2:Int)∈xB d (k:Int)):sR d k=none:=by
 rw[xB,iP hc] at h;obtain⟨x,hx,h2⟩:=List.mem_map.1 h;rw[sR,rK _ _ _ _ ⟨x,hx,h2⟩];rfl
theorem nL{nm:List UInt8}{n:Nat}(h:zI nm=true)(hn:n<=3):(Tm.const nm (zN n)).Good:=by
 have h0:=pT hn;have h1:=vZ h;have hl:∀ x∈zN n,zD x=true:=by
  have h0:Lib.decDigits 0=[48]:=Lib.decDigits_one (by decide);have h1:Lib.decDigits 1=[49]:=Lib.decDigits_one (by decide);have h2:Lib.decDigits 2=[50]:=Lib.decDigits_one (by decide);intro x hx;obtain⟨i,hi,rfl⟩:=List.mem_map.1 hx;rw[List.mem_range] at hi;have e:i=0\/i=1\/i=2:=(by omega);rcases e with rfl|rfl|rfl
  ·rw[h0];simp[zD,zY]
  ·rw[h1];simp[zD,zY]
  ·rw[h2];simp[zD,zY]
 refine⟨⟨h,by rw[pU];exact hn,hl⟩,?_⟩;simp only[Tm.bytes,lC,lA,List.length_nil];omega
theorem yC5{d:Dc}{k:Nat}(hr:xS d (k:Int)=true)(hb:¬ (2:Int)∈xB d (k:Int)) :
  ∃ (t:Tm) (ds:List (Tm × Bool)),qQ (yR d (k:Int)) t/\t.doms=ds.map Prod.fst/\xB d (k:Int)=(ds.map fun p=>if p.2=true then (1:Int) else 0) /\
   sR d k=kT (some []) (xP (tN d k) (zN d.params.toNat) k ds)/\ds.length<=499/\(∀ p∈ds,p.1.Ok/\p.1.bytes.length<=2000)/\(Tm.const (tN d k) (zN d.params.toNat)).Good:=by
 have hc:=lN hr;obtain⟨_,hlt,hdt⟩:=pG hc;have hlt':k<d.ctors.length:=by omega
 simp only[xQ,Bool.and_eq_true,decide_eq_true_eq] at hdt;obtain⟨hk4,hok⟩:=hdt;have hself:zR d=(Tm.const d.name (zN d.params.toNat)).bytes:=by rw[zR,iP hok]
 have hpar:=vD hok;have hnm:zI d.name=true:=by simp only[zJ,Bool.and_eq_true] at hok;exact hok.1
 have hsg:=nL (n:=d.params.toNat) hnm (by omega);have hcn:zI (tN d k)=true:=by
  rw[dA hlt'];simp only[zJ,Bool.and_eq_true,zQ,hk4] at hok;have h1:=hok.2.2.2.2;rw[iN (by omega),iN (by omega),iP trivial] at h1;simp only[xV,Bool.and_eq_true] at h1;have h2:=h1.2.2.2.2.2.2;simp only[yQ,decide_eq_true_eq] at h2;have h3:=(h2 k hlt' hlt').1;simp only[oM,iQ,Bool.and_eq_true] at h3;exact h3.1.1
 have hcg:=nL (n:=d.params.toNat) hcn (by omega);have hres:xR (yR d (k:Int))=zR d:=by
  simp only[xS,Bool.and_eq_true,decide_eq_true_eq] at hr;exact hr.2
 cases hto:vN (yR d (k:Int)) with
|none =>
  rw[xR,hto,hself] at hres;have:=congrArg List.length hres;simp[Tm.bytes] at this
|some t =>
  have ht:=vS hto;have hle:t.bytes.length<=2000:=(by rw[ht.2.1];exact ht.2.2);have hdo:zT (yR d (k:Int))=t.doms.map Tm.bytes:=(by rw[zT,hto]);have hcp:=congrArg List.length (uQ t);rw[lA] at hcp
  have hgd:∀ a∈t.doms,a.Good:=fun a ha=>⟨Tm.doms_ok ht.1 _ ha,by
   have h1:=oE ha;omega⟩
  have hsh:xB d (k:Int)=t.doms.map fun a=>yA (zR d) d.name a.bytes:=by
   rw[xB,iP hc,hdo,List.map_map];rfl
  have hne:∀ a∈t.doms,yA (zR d) d.name a.bytes≠2:=fun a ha e=>hb (by
   rw[hsh];exact List.mem_map.2 ⟨a,ha,e⟩)
  have hin:∀ a∈t.doms,yA (zR d) d.name a.bytes=if (decide (yA (zR d) d.name a.bytes=1))=true then 1 else 0:=fun a ha=>by
   have h1:=zV2 (zR d) d.name a.bytes;have h2:=hne a ha;by_cases h3:yA (zR d) d.name a.bytes=1
   ·rw[iP (by simpa using h3)];exact h3
   ·rw[iN (by simpa using h3)];omega
  have hfs:(t.doms.map fun a=>(a,decide (yA (zR d) d.name a.bytes=1))).map Prod.fst=t.doms:=by
   rw[List.map_map];exact List.map_id _
  refine⟨t,t.doms.map fun a=>(a,decide (yA (zR d) d.name a.bytes=1)),ht,hfs.symm,?_,?_,?_,?_,hcg⟩
  ·rw[hsh,List.map_map];refine List.map_congr_left fun a ha=>?_;exact hin a ha
  ·refine yL5 (sh:=yA (zR d) d.name) (cn:=d.name) (cl:=zN d.params.toNat) ht hfs.symm ?_ ?_ rfl rfl hcg.1 rfl
   ·intro p hp;obtain⟨a,ha,rfl⟩:=List.mem_map.1 hp;exact hin a ha
   ·intro p hp hp2;obtain⟨a,ha,rfl⟩:=List.mem_map.1 hp;simp only[decide_eq_true_eq] at hp2;have hg:=hgd a ha;have h3:xR a.bytes=zR d:=by
     unfold yA at hp2;split at hp2
     ·split at hp2
      ·split at hp2
       ·cases hp2
       ·split at hp2
        ·assumption
        ·cases hp2
      ·cases hp2
     ·cases hp2
    rw[zE0 hg.1 hg.2,hself] at h3;exact(Tm.uniq _ _ [] [] (Tm.targ_ok hg.1) hsg.1 (by rw[h3])).1
  ·rw[List.length_map];exact nI ht.1 hle
  ·intro p hp;obtain⟨a,ha,rfl⟩:=List.mem_map.1 hp;exact hgd a ha
end Go.Proofs.YtgppcegcpiaocaaGreatDoor
