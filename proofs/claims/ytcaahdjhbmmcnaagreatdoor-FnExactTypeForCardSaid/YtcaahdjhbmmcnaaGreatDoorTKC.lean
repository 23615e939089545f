/- FLvM VPut FLv HMath KTreeP OwnM KPre KPre2 -/
import Derived.Lib.AppendStr
import Derived.Lib.Builder
import Derived.Test.YtcaahdjhbmmcnaaGreatDoorTF1
import Derived.Test.YtcaahdjhbmmcnaaGreatDoorTE2
import Derived.Test.YtcaahdjhbmmcnaaGreatDoorTE1
import Derived.Test.YtcaahdjhbmmcnaaGreatDoorTV1
import Derived.Test.YtcaahdjhbmmcnaaGreatDoorTMK
import Derived.Test.YtcaahdjhbmmcnaaGreatDoorTP1
import Derived.Test.YtcaahdjhbmmcnaaGreatDoorTKA
import Derived.Test.YtcaahdjhbmmcnaaGreatDoorTP5
import Derived.Test.YtcaahdjhbmmcnaaGreatDoorTKB
set_option maxRecDepth 100000
set_option maxHeartbeats 16000000
set_option linter.unusedSimpArgs false
set_option linter.unusedVariables false
namespace Go.Proofs.YtcaahdjhbmmcnaaGreatDoor
open Go.ChangeShapes Go.WideShapes Go.ChangeAt Go.RowKit
def jK (m:Nat) (l:List UInt8):Prop:=∀ p d q,l=p++117::d::q->d.toNat - 47<=m
theorem jK.tail{m:Nat}{a l:List UInt8}(h:jK m (a++l)):jK m l:=fun p d q e=>h (a++p) d q (by rw[e,List.append_assoc])
theorem jK.of{l:List UInt8}(h:zD l=true):jK (zE l) l:=fun p d q e=>by
 have h1:=cL l 0 p.length (by rw[e];simp) (by simp[e]);rw[zE,iP h];simpa [e] using h1
theorem lU{args:List (List UInt8)}(ha:∀ x∈args,zD x=true):∀ (t:Lv) (r:List UInt8),jK args.length (t.bytes++r)->∃ t':Lv,qG args (t.bytes++r)=t'.bytes++qG args r
|.z,r,_=>⟨.z,vC args (by decide) r⟩
|.up t,r,h=>by
  obtain⟨t',e⟩:=lU ha t r (jK.tail (a:=[43]) h);exact⟨.up t',by rw[Lv.bytes,List.cons_append,vC args (by decide),e];rfl⟩
|.mx a b,r,h=>by
  have h1:jK args.length (a.bytes++(b.bytes++r)):=jK.tail (a:=[109]) (by simpa [Lv.bytes] using h);obtain⟨a',ea⟩:=lU ha a (b.bytes++r) h1;obtain⟨b',eb⟩:=lU ha b r h1.tail;exact⟨.mx a' b',by rw[Lv.bytes,List.cons_append,vC args (by decide),List.append_assoc,ea,eb];simp[Lv.bytes]⟩
|.im a b,r,h=>by
  have h1:jK args.length (a.bytes++(b.bytes++r)):=jK.tail (a:=[105]) (by simpa [Lv.bytes] using h);obtain⟨a',ea⟩:=lU ha a (b.bytes++r) h1;obtain⟨b',eb⟩:=lU ha b r h1.tail;exact⟨.im a' b',by rw[Lv.bytes,List.cons_append,vC args (by decide),List.append_assoc,ea,eb];simp[Lv.bytes]⟩
|.par k,r,h=>by
  have h1:=h [] (UInt8.ofNat (48+k.val)) r (by simp[Lv.bytes]);have hk:=(Lv.par_byte k).2.2;have h0:=(Lv.par_byte k).1;have hlt:k.val<args.length:=(by omega);have hx:args.getD k.val []=args[k.val]:=(by simp[List.getD,hlt]);obtain⟨t',e⟩:=oY (ha args[k.val] (List.getElem_mem hlt));refine⟨t',?_⟩;rw[Lv.bytes,List.cons_append,List.cons_append,mM,hk,hx,e];rfl
theorem nU{l r:List UInt8}{args:List (List UInt8)}(h:zI l args=some r):zD r=true/\args.length<=3:=by
 unfold zI at h;split at h
 ·rename_i hc;injection h with h;subst h;obtain⟨h1,h2,h3,h4,h5⟩:=hc;obtain⟨t,rfl⟩:=oY h1
  obtain⟨t',e⟩:=lU (r:=[]) h4 t (by
   rw[List.append_nil];intro p d q e;exact Nat.le_trans (jK.of h1 p d q e) h3)
  rw[List.append_nil,jN,List.append_nil] at e;rw[e] at h5 |-;exact⟨yX3 t' h5,h2⟩
 ·cases h
def aE (nd nd':Nd):Prop:=nd'.kind=nd.kind/\nd'.a=nd.a/\nd'.b=nd.b/\nd'.c=nd.c/\nd'.num=nd.num
def yV4 (W':World) (B':Nat) (args:List (List UInt8)) (nd nd':Nd):Tm->Prop
|.sort l=>aE nd nd'/\zI l args=some nd'.text
|.const _ ls=>aE nd nd'/\nd'.text=nd.text/\∃ ls',(ls.mapM fun l=>zI l args)=some ls'/\W'.ownsRow B' 9 1 nd'.lv ls'.length (ls'.map sv)
|_=>aE nd nd'
theorem rY{W W':World}{B B':Nat}{ns ns':List Nd}{args:List (List UInt8)}:∀ (T:Tm) (k:Nat),sL W B ns k T ->
  (∀ (i:Nat) (u:Tm),T.post[i]?=some u->∃ nd nd',ns[k+1 - T.size+i]?=some nd/\ns'[k+1 - T.size+i]?=some nd'/\yV4 W' B' args nd nd' u) ->
  ∃ T',T.lvs args=some T'/\nD W' B' ns' k T'
|.var n,k,h,hu=>by
  obtain⟨nd,h1,h2⟩:=h.1;obtain⟨nd1,nd',g1,g2,g3⟩:=hu 0 _ rfl;rw[show k+1 - (Tm.var n).size+0=k from rfl] at g1 g2;obtain rfl:nd=nd1:=Option.some.inj (h1.symm.trans g1);obtain⟨s1,s2,s3,s4,s5⟩:aE nd nd':=g3;exact⟨.var n,rfl,nd',g2,s1.trans h2.1,s5.trans h2.2.1⟩
|.sort l,k,h,hu=>by
  obtain⟨nd,h1,h2⟩:=h.1;obtain⟨nd1,nd',g1,g2,⟨s1,_⟩,g3⟩:=hu 0 _ rfl;rw[show k+1 - (Tm.sort l).size+0=k from rfl] at g1 g2;obtain rfl:nd=nd1:=Option.some.inj (h1.symm.trans g1);exact⟨.sort nd'.text,by rw[Tm.lvs,g3];rfl,nd',g2,s1.trans h2.1,rfl⟩
|.const n ls,k,h,hu=>by
  obtain⟨nd,h1,h2⟩:=h.1;obtain⟨nd1,nd',g1,g2,⟨s1,_⟩,g3,ls',g4,g5⟩:=hu 0 _ rfl;rw[show k+1 - (Tm.const n ls).size+0=k from rfl] at g1 g2;obtain rfl:nd=nd1:=Option.some.inj (h1.symm.trans g1);exact⟨.const n ls',by rw[Tm.lvs,g4];rfl,nd',g2,s1.trans h2.1,g3.trans h2.2.1,g5⟩
|.app f a,k,h,hu=>by
  have hsz:=h.at.1;obtain⟨⟨nd,h1,h2,h3,h4⟩,⟨nd2,g1,g0,g2,g3,g4,g5⟩⟩:=h;obtain rfl:nd=nd2:=Option.some.inj (h1.symm.trans g1);have l1:=f.post_len;have l2:=a.post_len;have hT:(Tm.app f a).size=f.size+a.size+1:=rfl;have z1:=f.size_pos;have z2:=a.size_pos;have y1:=(sL.at f nd.a ⟨h3,g4⟩).1;have y2:=(sL.at a nd.b ⟨h4,g5⟩).1
  obtain⟨f',e1,r1⟩:=rY f nd.a ⟨h3,g4⟩ (fun i u hi=>by
   have hlt:i<f.post.length:=(List.getElem?_eq_some_iff.1 hi).1;have:=hu i u (by rw[Tm.post,List.getElem?_append_left hlt];exact hi)
   rwa [show k+1 - (Tm.app f a).size+i=nd.a+1 - f.size+i by omega] at this)
  obtain⟨a',e2,r2⟩:=rY a nd.b ⟨h4,g5⟩ (fun i u hi=>by
   have hlt:i<a.post.length:=(List.getElem?_eq_some_iff.1 hi).1;have:=hu (f.size+i) u (by rw[Tm.post,List.getElem?_append_right (by omega),show f.size+i - f.post.length=i by omega,List.getElem?_append_left hlt];exact hi)
   rwa [show k+1 - (Tm.app f a).size+(f.size+i)=nd.b+1 - a.size+i by omega] at this)
  obtain⟨nd1,nd',x1,x2,x3⟩:=hu (f.size+a.size) (Tm.app f a) (by rw[Tm.post,List.getElem?_append_right (by omega),List.getElem?_append_right (by omega),show f.size+a.size - f.post.length - a.post.length=0 by omega];rfl);rw[show k+1 - (Tm.app f a).size+(f.size+a.size)=k by omega] at x1 x2;obtain rfl:nd=nd1:=Option.some.inj (h1.symm.trans x1);obtain⟨s1,s2,s3,s4,s5⟩:aE nd nd':=x3;exact⟨.app f' a',by rw[Tm.lvs,e1,e2];rfl,nd',x2,s1.trans h2,by rw[s2];exact r1,by rw[s3];exact r2⟩
|.lam f a,k,h,hu=>by
  have hsz:=h.at.1;obtain⟨⟨nd,h1,h2,h3,h4⟩,⟨nd2,g1,g0,g2,g3,g4,g5⟩⟩:=h;obtain rfl:nd=nd2:=Option.some.inj (h1.symm.trans g1);have l1:=f.post_len;have l2:=a.post_len;have hT:(Tm.lam f a).size=f.size+a.size+1:=rfl;have z1:=f.size_pos;have z2:=a.size_pos;have y1:=(sL.at f nd.a ⟨h3,g4⟩).1;have y2:=(sL.at a nd.b ⟨h4,g5⟩).1
  obtain⟨f',e1,r1⟩:=rY f nd.a ⟨h3,g4⟩ (fun i u hi=>by
   have hlt:i<f.post.length:=(List.getElem?_eq_some_iff.1 hi).1;have:=hu i u (by rw[Tm.post,List.getElem?_append_left hlt];exact hi)
   rwa [show k+1 - (Tm.lam f a).size+i=nd.a+1 - f.size+i by omega] at this)
  obtain⟨a',e2,r2⟩:=rY a nd.b ⟨h4,g5⟩ (fun i u hi=>by
   have hlt:i<a.post.length:=(List.getElem?_eq_some_iff.1 hi).1;have:=hu (f.size+i) u (by rw[Tm.post,List.getElem?_append_right (by omega),show f.size+i - f.post.length=i by omega,List.getElem?_append_left hlt];exact hi)
   rwa [show k+1 - (Tm.lam f a).size+(f.size+i)=nd.b+1 - a.size+i by omega] at this)
  obtain⟨nd1,nd',x1,x2,x3⟩:=hu (f.size+a.size) (Tm.lam f a) (by rw[Tm.post,List.getElem?_append_right (by omega),List.getElem?_append_right (by omega),show f.size+a.size - f.post.length - a.post.length=0 by omega];rfl);rw[show k+1 - (Tm.lam f a).size+(f.size+a.size)=k by omega] at x1 x2;obtain rfl:nd=nd1:=Option.some.inj (h1.symm.trans x1);obtain⟨s1,s2,s3,s4,s5⟩:aE nd nd':=x3;exact⟨.lam f' a',by rw[Tm.lvs,e1,e2];rfl,nd',x2,s1.trans h2,by rw[s2];exact r1,by rw[s3];exact r2⟩
|.pi f a,k,h,hu=>by
  have hsz:=h.at.1;obtain⟨⟨nd,h1,h2,h3,h4⟩,⟨nd2,g1,g0,g2,g3,g4,g5⟩⟩:=h;obtain rfl:nd=nd2:=Option.some.inj (h1.symm.trans g1);have l1:=f.post_len;have l2:=a.post_len;have hT:(Tm.pi f a).size=f.size+a.size+1:=rfl;have z1:=f.size_pos;have z2:=a.size_pos;have y1:=(sL.at f nd.a ⟨h3,g4⟩).1;have y2:=(sL.at a nd.b ⟨h4,g5⟩).1
  obtain⟨f',e1,r1⟩:=rY f nd.a ⟨h3,g4⟩ (fun i u hi=>by
   have hlt:i<f.post.length:=(List.getElem?_eq_some_iff.1 hi).1;have:=hu i u (by rw[Tm.post,List.getElem?_append_left hlt];exact hi)
   rwa [show k+1 - (Tm.pi f a).size+i=nd.a+1 - f.size+i by omega] at this)
  obtain⟨a',e2,r2⟩:=rY a nd.b ⟨h4,g5⟩ (fun i u hi=>by
   have hlt:i<a.post.length:=(List.getElem?_eq_some_iff.1 hi).1;have:=hu (f.size+i) u (by rw[Tm.post,List.getElem?_append_right (by omega),show f.size+i - f.post.length=i by omega,List.getElem?_append_left hlt];exact hi)
   rwa [show k+1 - (Tm.pi f a).size+(f.size+i)=nd.b+1 - a.size+i by omega] at this)
  obtain⟨nd1,nd',x1,x2,x3⟩:=hu (f.size+a.size) (Tm.pi f a) (by rw[Tm.post,List.getElem?_append_right (by omega),List.getElem?_append_right (by omega),show f.size+a.size - f.post.length - a.post.length=0 by omega];rfl);rw[show k+1 - (Tm.pi f a).size+(f.size+a.size)=k by omega] at x1 x2;obtain rfl:nd=nd1:=Option.some.inj (h1.symm.trans x1);obtain⟨s1,s2,s3,s4,s5⟩:aE nd nd':=x3;exact⟨.pi f' a',by rw[Tm.lvs,e1,e2];rfl,nd',x2,s1.trans h2,by rw[s2];exact r1,by rw[s3];exact r2⟩
|.lett f a b,k,h,hu=>by
  have hsz:=h.at.1;obtain⟨⟨nd,h1,h2,h3,h4,h5⟩,⟨nd2,g1,g0,g2,g3,g4,g5,g6,g7⟩⟩:=h;obtain rfl:nd=nd2:=Option.some.inj (h1.symm.trans g1);have l1:=f.post_len;have l2:=a.post_len;have l3:=b.post_len;have hT:(Tm.lett f a b).size=f.size+a.size+b.size+1:=rfl;have z1:=f.size_pos;have z2:=a.size_pos;have z3:=b.size_pos;have y1:=(sL.at f nd.a ⟨h3,g5⟩).1;have y2:=(sL.at a nd.b ⟨h4,g6⟩).1;have y3:=(sL.at b nd.c ⟨h5,g7⟩).1
  obtain⟨f',e1,r1⟩:=rY f nd.a ⟨h3,g5⟩ (fun i u hi=>by
   have hlt:i<f.post.length:=(List.getElem?_eq_some_iff.1 hi).1;have:=hu i u (by rw[Tm.post,List.getElem?_append_left hlt];exact hi)
   rwa [show k+1 - (Tm.lett f a b).size+i=nd.a+1 - f.size+i by omega] at this)
  obtain⟨a',e2,r2⟩:=rY a nd.b ⟨h4,g6⟩ (fun i u hi=>by
   have hlt:i<a.post.length:=(List.getElem?_eq_some_iff.1 hi).1;have:=hu (f.size+i) u (by rw[Tm.post,List.getElem?_append_right (by omega),show f.size+i - f.post.length=i by omega,List.getElem?_append_left hlt];exact hi)
   rwa [show k+1 - (Tm.lett f a b).size+(f.size+i)=nd.b+1 - a.size+i by omega] at this)
  obtain⟨b',e3,r3⟩:=rY b nd.c ⟨h5,g7⟩ (fun i u hi=>by
   have hlt:i<b.post.length:=(List.getElem?_eq_some_iff.1 hi).1;have:=hu (f.size+a.size+i) u (by rw[Tm.post,List.getElem?_append_right (by omega),List.getElem?_append_right (by omega),show f.size+a.size+i - f.post.length - a.post.length=i by omega,List.getElem?_append_left hlt];exact hi)
   rwa [show k+1 - (Tm.lett f a b).size+(f.size+a.size+i)=nd.c+1 - b.size+i by omega] at this)
  obtain⟨nd1,nd',x1,x2,x3⟩:=hu (f.size+a.size+b.size) (Tm.lett f a b) (by rw[Tm.post,List.getElem?_append_right (by omega),List.getElem?_append_right (by omega),List.getElem?_append_right (by omega),show f.size+a.size+b.size - f.post.length - a.post.length - b.post.length=0 by omega];rfl);rw[show k+1 - (Tm.lett f a b).size+(f.size+a.size+b.size)=k by omega] at x1 x2;obtain rfl:nd=nd1:=Option.some.inj (h1.symm.trans x1);obtain⟨s1,s2,s3,s4,s5⟩:aE nd nd':=x3;exact⟨.lett f' a' b',by rw[Tm.lvs,e1,e2,e3];rfl,nd',x2,s1.trans h2,by rw[s2];exact r1,by rw[s3];exact r2,by rw[s4];exact r3⟩
def yM2 (args:List (List UInt8)):Tm->Prop
|.sort l=>∃ r,zI l args=some r
|.const _ ls=>∃ r,(ls.mapM fun l=>zI l args)=some r
|_=>True
theorem tV{args:List (List UInt8)}:∀ (T T':Tm),T.lvs args=some T'->∀ u∈T.post,yM2 args u
|.var n,_,_,u,hu=>by simp[Tm.post] at hu;subst hu;trivial
|.sort l,_,h,u,hu=>by
  simp[Tm.post] at hu;subst hu;obtain⟨r,hr,_⟩:=Option.map_eq_some_iff.1 (show (zI l args).map Tm.sort=some _ from h);exact⟨r,hr⟩
|.const n ls,_,h,u,hu=>by
  simp[Tm.post] at hu;subst hu;obtain⟨r,hr,_⟩:=Option.map_eq_some_iff.1 (show (ls.mapM fun l=>zI l args).map (Tm.const n)=some _ from h);exact⟨r,hr⟩
|.app f a,_,h,u,hu=>by
  obtain⟨f',hf,h2⟩:=Option.bind_eq_some_iff.1 (show (Tm.lvs args f).bind (fun f'=>(Tm.lvs args a).map (Tm.app f'))=some _ from h);obtain⟨a',ha,_⟩:=Option.map_eq_some_iff.1 h2;simp only[Tm.post,List.mem_append,List.mem_singleton] at hu;rcases hu with hu|hu|rfl
  ·exact tV f f' hf u hu
  ·exact tV a a' ha u hu
  ·trivial
|.lam f a,_,h,u,hu=>by
  obtain⟨f',hf,h2⟩:=Option.bind_eq_some_iff.1 (show (Tm.lvs args f).bind (fun f'=>(Tm.lvs args a).map (Tm.lam f'))=some _ from h);obtain⟨a',ha,_⟩:=Option.map_eq_some_iff.1 h2;simp only[Tm.post,List.mem_append,List.mem_singleton] at hu;rcases hu with hu|hu|rfl
  ·exact tV f f' hf u hu
  ·exact tV a a' ha u hu
  ·trivial
|.pi f a,_,h,u,hu=>by
  obtain⟨f',hf,h2⟩:=Option.bind_eq_some_iff.1 (show (Tm.lvs args f).bind (fun f'=>(Tm.lvs args a).map (Tm.pi f'))=some _ from h);obtain⟨a',ha,_⟩:=Option.map_eq_some_iff.1 h2;simp only[Tm.post,List.mem_append,List.mem_singleton] at hu;rcases hu with hu|hu|rfl
  ·exact tV f f' hf u hu
  ·exact tV a a' ha u hu
  ·trivial
|.lett f a b,_,h,u,hu=>by
  obtain⟨f',hf,h2⟩:=Option.bind_eq_some_iff.1 (show (Tm.lvs args f).bind (fun f'=>(Tm.lvs args a).bind fun a'=>(Tm.lvs args b).map (Tm.lett f' a'))=some _ from h);obtain⟨a',ha,h3⟩:=Option.bind_eq_some_iff.1 h2;obtain⟨b',hb,_⟩:=Option.map_eq_some_iff.1 h3;simp only[Tm.post,List.mem_append,List.mem_singleton] at hu;rcases hu with hu|hu|hu|rfl
  ·exact tV f f' hf u hu
  ·exact tV a a' ha u hu
  ·exact tV b b' hb u hu
  ·trivial
theorem zC1{args:List (List UInt8)}:∀ {ls r:List (List UInt8)},(ls.mapM fun l=>zI l args)=some r->r.length=ls.length/\∀ x∈r,zD x=true
|[],r,h=>by simp at h;subst h;simp
|l::ls,r,h=>by
  rw[List.mapM_cons] at h;obtain⟨x,hx,h2⟩:=Option.bind_eq_some_iff.1 h;obtain⟨r',hr,h3⟩:=Option.bind_eq_some_iff.1 h2;cases h3;obtain⟨k1,k2⟩:=zC1 hr;refine⟨by simp[k1],fun y hy=>?_⟩;rcases List.mem_cons.1 hy with rfl|hy
  ·exact(nU hx).1
  ·exact k2 y hy
theorem zL8:∀ {ls:List (List UInt8)},(∀ y∈ls,zD y=true)->(xA ls).length<=ls.length*61/\ls.length*2<=(xA ls).length
|[],_=>by simp[xA]
|x::r,h=>by
  have h0:=h x List.mem_cons_self;have h1:=(zK h0).1;have h3:1<=x.length:=List.length_pos_iff.2 (lZ h0);have h2:=zL8 (ls:=r) fun y hy=>h y (List.mem_cons_of_mem _ hy);simp only[xA,lA,lC];omega
theorem oA{args:List (List UInt8)}:∀ (T T':Tm),T.Ok->T.lvs args=some T'->T'.Ok/\T'.bytes.length<=31*T.bytes.length
|.var n,_,hk,h=>by
  cases (show some (Tm.var n)=some _ from h);exact⟨hk,by omega⟩
|.sort l,_,hk,h=>by
  obtain⟨r,hr,rfl⟩:=Option.map_eq_some_iff.1 (show (zI l args).map Tm.sort=some _ from h);have h1:=(nU hr).1;refine⟨h1,?_⟩;have h2:=(zK h1).1;simp only[Tm.bytes,lC,lA,List.length_nil];omega
|.const n ls,_,hk,h=>by
  obtain⟨r,hr,rfl⟩:=Option.map_eq_some_iff.1 (show (ls.mapM fun l=>zI l args).map (Tm.const n)=some _ from h);obtain⟨h1,h2⟩:=zC1 hr;refine⟨⟨hk.1,by rw[h1];exact hk.2.1,h2⟩,?_⟩;have k1:=(zL8 h2).1;have k2:=(zL8 hk.2.2).2;simp only[Tm.bytes,lC,lA,List.length_nil];omega
|.app f a,_,hk,h=>by
  obtain⟨f',hf,h2⟩:=Option.bind_eq_some_iff.1 (show (Tm.lvs args f).bind (fun f'=>(Tm.lvs args a).map (Tm.app f'))=some _ from h);obtain⟨a',ha,rfl⟩:=Option.map_eq_some_iff.1 h2;obtain⟨k1,k2⟩:=oA f f' hk.1 hf;obtain⟨k3,k4⟩:=oA a a' hk.2 ha;refine⟨⟨k1,k3⟩,?_⟩;simp only[Tm.bytes,lC,lA];omega
|.lam f a,_,hk,h=>by
  obtain⟨f',hf,h2⟩:=Option.bind_eq_some_iff.1 (show (Tm.lvs args f).bind (fun f'=>(Tm.lvs args a).map (Tm.lam f'))=some _ from h);obtain⟨a',ha,rfl⟩:=Option.map_eq_some_iff.1 h2;obtain⟨k1,k2⟩:=oA f f' hk.1 hf;obtain⟨k3,k4⟩:=oA a a' hk.2 ha;refine⟨⟨k1,k3⟩,?_⟩;simp only[Tm.bytes,lC,lA];omega
|.pi f a,_,hk,h=>by
  obtain⟨f',hf,h2⟩:=Option.bind_eq_some_iff.1 (show (Tm.lvs args f).bind (fun f'=>(Tm.lvs args a).map (Tm.pi f'))=some _ from h);obtain⟨a',ha,rfl⟩:=Option.map_eq_some_iff.1 h2;obtain⟨k1,k2⟩:=oA f f' hk.1 hf;obtain⟨k3,k4⟩:=oA a a' hk.2 ha;refine⟨⟨k1,k3⟩,?_⟩;simp only[Tm.bytes,lC,lA];omega
|.lett f a b,_,hk,h=>by
  obtain⟨f',hf,h2⟩:=Option.bind_eq_some_iff.1 (show (Tm.lvs args f).bind (fun f'=>(Tm.lvs args a).bind fun a'=>(Tm.lvs args b).map (Tm.lett f' a'))=some _ from h);obtain⟨a',ha,h3⟩:=Option.bind_eq_some_iff.1 h2;obtain⟨b',hb,rfl⟩:=Option.map_eq_some_iff.1 h3;obtain⟨k1,k2⟩:=oA f f' hk.1 hf;obtain⟨k3,k4⟩:=oA a a' hk.2.1 ha;obtain⟨k5,k6⟩:=oA b b' hk.2.2 hb;refine⟨⟨k1,k3,k5⟩,?_⟩;simp only[Tm.bytes,lC,lA];omega
noncomputable def zV (l:List UInt8) (args:List (List UInt8)):Option (List UInt8):=match vQ l with
|some T=>if args.length<=3 then (T.lvs args).bind fun T'=>if T'.bytes.length<=2000 then some T'.bytes else none else none
|none=>none
theorem aW(s:ByteArray){w:World}{b:Nat}{v:Value}{args:List (List UInt8)}(h:w.ownsRow b 9 1 v args.length (args.map sv))(hs:s.size<=maxLen)(hx:∀ x∈args,x.length<=maxLen)(hn:args.length<=10000000) :
  Rt 60 #[.string s,v] w (yC (zI s.data.toList args)):=by
 obtain⟨a0,cap,rfl⟩:=yW h;have f1:=Ld fun W=>vK s W hs;have f2:=Ld fun W=>sY s W hs;have hls:s.data.toList.length=s.size:=rfl;by_cases hok:zD s.data.toList=true;rotate_left
 ·have HE:Hid (zI s.data.toList args=none):=iN fun hc=>hok hc.1;rw[Bool.not_eq_true] at hok;rw[hok] at f1;clear hok h hls f2;go_enter Tryz.func60,Tryz.ntmps60;go_wp2_with fail;(with_reducible refine mo (f1.out _) ?_);rintro w1 rfl;go_wp2;go_ret2;rw[HE.out];exact⟨rfl,bR _ _⟩
 have h60:=(zK hok).1;rw[hls] at h60;have HP:=Ld (pE s.data.toList 1 (zK hok).2);have hpar:zE s.data.toList=oX 0 s.data.toList:=iP hok;have HOK:=Ld hok;rw[hok] at f1;clear hok hls;by_cases h3:args.length<=3;rotate_left
 ·have HE:Hid (zI s.data.toList args=none):=iN fun hc=>h3 hc.2.1;have d1:decide ((3:Int)<(args.length:Int))=true:=dT (by omega);clear h f2 hpar HP;go_enter Tryz.func60,Tryz.ntmps60;go_wp2_with fail;(with_reducible refine mo (f1.out _) ?_);rintro w1 rfl;go_wp2;go_ret2;rw[HE.out];exact⟨rfl,bR _ _⟩
 have d1:decide ((3:Int)<(args.length:Int))=false:=dF (by omega);by_cases h4:zE s.data.toList<=args.length;rotate_left
 ·have HE:Hid (zI s.data.toList args=none):=iN fun hc=>h4 hc.2.2.1;have d2:decide ((args.length:Int)<(zE s.data.toList:Int))=true:=dT (by omega);clear h hpar HP;go_enter Tryz.func60,Tryz.ntmps60;go_wp2_with fail;(with_reducible refine mo (f1.out _) ?_);rintro w1 rfl;go_wp2_with fail;(with_reducible refine mo (f2.out _) ?_);rintro w1 rfl;go_wp2;go_ret2;rw[HE.out];exact⟨rfl,bR _ _⟩
 have d2:decide ((args.length:Int)<(zE s.data.toList:Int))=false:=dF (by omega);have d2n:decide (args.length<zE s.data.toList)=false:=dF (by omega);have HG:=Ld (cL s.data.toList 0);rw[← hpar] at HG;clear hpar;have f3:=Ld fun (x:List UInt8) (hm:x∈args) W=>vK ⟨x.toArray⟩ W (by simpa [ByteArray.size] using hx x hm);simp only at f3;go_enter Tryz.func60,Tryz.ntmps60;go_wp2_with fail;(with_reducible refine mo (f1.out _) ?_);rintro w1 rfl;go_wp2_with fail;(with_reducible refine mo (f2.out _) ?_);rintro w1 rfl;clear f1 f2;go_wp2;go_loopw [6] (fun i wr=>∃ k:Nat,k<=args.length/\i=.int .i64 k/\wr=w1/\Hid (∀ j (hj:j<args.length),j<k->zD args[j]=true)) (fun i _=>args.length - (intOf i).toNat)
 case atStart=>exact⟨0,Nat.zero_le _,rfl,rfl,fun j _ hj=>by omega⟩
 case round =>
  obtain⟨k,hk,rfl,rfl,HA⟩:=hrel;by_cases hlt:k<args.length
  ·obtain⟨g,cap',e0,_,hgl⟩:=h.form (by omega);cases e0;have ex:(args.map sv)[k]?=some (sv args[k]):=(by simp[hlt]);have cc:=(h.cellAt k (by omega)).trans ex;unfold sv at cc;have q1:=zn k;have q2:(k:Int)<(args.length:Int):=(by omega);have g3:=Ld (f3.out args[k] (List.getElem_mem hlt));have HB:Hid (zD args[k]=false->zI s.data.toList args=none):=fun hb=>iN fun hc=>by
    have:=hc.2.2.2.1 args[k] (List.getElem_mem hlt);rw[hb] at this;cases this
   have HA2:Hid (zD args[k]=true->∀ j (hj:j<args.length),j<k+1->zD args[j]=true):=fun hb j hj hjk=>if e:j=k then by subst e;exact hb else HA.out j hj (by omega)
   clear ex HA f3;generalize zD args[k]=ok at g3 HB HA2;generalize args[k]=x at cc g3;cases ok
   ·have HE:=Ld (HB.out rfl);clear HB HA2;go_wp2_with fail;(with_reducible refine mo (g3.out _) ?_);rintro w2 rfl;go_wp2;go_ret2;rw[HE.out];exact⟨rfl,bR _ _⟩
   ·have HN:=Ld (HA2.out rfl);clear HB HA2;go_wp2_with fail;(with_reducible refine mo (g3.out _) ?_);rintro w2 rfl;go_wp2;go_roundw
    case rel=>exact⟨k+1,by omega,by go_num,trivial,HN.out⟩
    case measure=>simp[intOf];omega
  ·rename World=>wz
   have hke:args.length<=k:=(by omega);have hall:∀ x∈args,zD x=true:=fun x hm=>by
    obtain⟨j,hj,e⟩:=List.getElem_of_mem hm;rw[← e];exact HA.out j hj (by omega)
   have HL:Hid (∀ x∈args,x.length<=60):=fun x hm=>(zK (hall x hm)).1;have HY:Hid ((qG args s.data.toList).length<=60->zI s.data.toList args=some (qG args s.data.toList)):=fun hc=>iP ⟨HOK.out,h3,h4,hall,hc⟩;have HN:Hid (¬ (qG args s.data.toList).length<=60->zI s.data.toList args=none):=fun hc=>iN fun h5=>hc h5.2.2.2.2;have dk:decide ((k:Int)<(args.length:Int))=false:=dF (by omega);obtain⟨i0,hi,hz0,hz1,hz2⟩:=info_parts xH4;clear HA hall f3;go_wp2;go_loopw [7,8] (fun vo i wq=>∃ (p:Nat) (out:List UInt8),p<=s.size/\out.length<=60*p/\i=.int .i64 p/\wq.ownsRow wz.heap.size 5 1 vo out.length (out.map bv)/\Below wz.heap.size wz wq/\Hid (out++qG args (s.data.toList.drop p)=qG args s.data.toList)) (fun _ i _=>s.size - (intOf i).toNat)
   case atStart=>exact⟨0,[],Nat.zero_le _,nR _,rfl,World.ownsRow_lit wz #[] 0 (nR _) (by decide) (by simp),(bR _ _).alloc (nR _) _,rfl⟩
   case round =>
    obtain⟨p,out,hp,hol,rfl,hown,hbel,HR⟩:=hrel;have hz:=hbel.size;have hl:=hown.lt;by_cases hlt2:p<s.size
    ·have hll:p<s.data.toList.length:=hlt2;have q1:=zn p;have q2:(p:Int)<(s.size:Int):=(by omega);by_cases c1:s[p]=117
     ·have e1:((s[p].toNat:Int)==117)=true:=yH c1;obtain⟨hj,b1,b2⟩:=HP.out p hll c1;have hj':p+1<s.size:=hj;have hge:=HG.out p hj c1;have b1':48<=s[p+1].toNat:=b1;have b2':s[p+1].toNat<=50:=b2;have hge':s[p+1].toNat - 47<=zE s.data.toList:=hge;have q3:(0:Int)<=(p:Int)+1:=(by omega);have q4:(p:Int)+1<(s.size:Int):=(by omega);obtain⟨d,hd⟩:∃ d,s[p+1].toNat=d+48:=⟨s[p+1].toNat - 48,by omega⟩;have hda:d<args.length:=(by omega);obtain⟨g,cap',e0,_,hgl⟩:=h.form (by omega);cases e0;have ex:(args.map sv)[d]?=some (sv args[d]):=(by simp[hda]);have cc:=(hbel.cell (p:=⟨g,d,none⟩) hgl).trans ((h.cellAt d (by omega)).trans ex);unfold sv at cc;have q5:=zn d;have q6:(d:Int)<(args.length:Int):=(by omega);have e3:IntKind.i64.wrap ((s[p+1].toNat:Int))=(d:Int)+48:=(by rw[hd];exact IntWalk.i64_in _ (by omega));have e4:IntKind.i64.wrap ((d:Int)+48 - 48)=(d:Int):=(by rw[show (d:Int)+48 - 48=(d:Int) by omega];exact IntWalk.i64_in _ (by omega));have hxl:=HL.out args[d] (List.getElem_mem hda);have HS:=Ld (zW3 (args:=args) hj c1);have hget:args.getD (s.data.toList[p+1].toNat - 48) []=args[d]:=by
       have:s.data.toList[p+1].toNat - 48=d:=(by show s[p+1].toNat - 48=d;omega);rw[this];simp[hda]
      rw[hget] at HS;have HR2:Hid ((out++args[d])++qG args (s.data.toList.drop (p+2))=qG args s.data.toList):=(by rw[Hid,List.append_assoc,← HS.out,HR.out]);clear HS HR ex hget hge b1 b2;generalize args[d]=x at cc hxl HR2;go_wp2_with (at_builtin;refine Lib.wpList_append_own_string _ rfl _ _ 97 9 rfl wz.heap.size 5 i0 Tryz.underlying97 Tryz.underlying9 hi hz0 hz1 hz2 _ _ _ rfl hown ⟨x.toArray⟩ rfl (by simp only[maxLen,ByteArray.size,List.size_toArray];omega) (by simp only[ByteArray.size,List.size_toArray];omega) hz ?_;intro v1 w2 hown1 hgrow hat);rw[zJ3,← List.map_append] at hown1;go_roundw
      case rel=>exact⟨p+2,out++x,by omega,by simp;omega,by go_num,by simpa [ByteArray.size] using hown1,hbel.grown hgrow hz (fun q hq=>(hl q hq).1),HR2.out⟩
      case measure=>simp[intOf];omega
     ·have e1:((s[p].toNat:Int)==117)=false:=zQ c1;have HS:=Ld (yY8 (args:=args) hll c1);have HR2:Hid ((out++[s[p]])++qG args (s.data.toList.drop (p+1))=qG args s.data.toList):=by
       rw[Hid,List.append_assoc];exact(congrArg (out++·) HS.out.symm).trans HR.out
      clear HS HR c1;go_wp2_with (at_builtin;refine wpList_append_own _ rfl _ _ 97 rfl wz.heap.size 5 i0 _ 1 1 Tryz.underlying97 hi hz0 hz1 hz2 rfl (by decide) _ _ _ rfl (hown.alloc _) ⟨_,0,none⟩ 1 1 [.int .u8 (s[p].toNat:Int)] rfl rfl (yI _ _ _) (by simp[Value.oneCell']) (by simp only[maxLen];omega) (by omega) (by simp;omega) ?_;intro v1 w2 hown1 hgrow hat);go_roundw
      case rel=>exact⟨p+1,out++[s[p]],by omega,by simp;omega,by go_num,by simpa [bv] using hown1,(hbel.alloc hz _).grown hgrow (by simp;omega) (fun q hq=>(hl q hq).1),HR2.out⟩
      case measure=>simp[intOf];omega
    ·have hE:out=qG args s.data.toList:=by
      have:=HR.out;rw[List.drop_eq_nil_of_le (by show s.size<=p;omega),jN,List.append_nil] at this;exact this
     have dp:decide ((p:Int)<(s.size:Int))=false:=dF (by omega);rw[← hE] at HY HN;have hcv:=rV _ Tryz.underlying97 Tryz.underlying5 Tryz.underlying9 hown;obtain⟨ao,co,rfl⟩:∃ a c,u7=.slice a out.length c:=by
      rcases hown.2 with ⟨rfl,e⟩|⟨g,cap,cur,rfl,_⟩
      ·exact⟨_,_,by rw[e]⟩
      ·exact⟨_,_,rfl⟩
     clear hE HR hown;by_cases h6:out.length<=60
     ·have HE:=Ld (HY.out h6);have d6:decide ((60:Int)<(out.length:Int))=false:=dF (by omega);go_wp2;go_ret2;rw[HE.out];exact⟨rfl,hbel⟩
     ·have HE:=Ld (HN.out h6);have d6:decide ((60:Int)<(out.length:Int))=true:=dT (by omega);go_wp2;go_ret2;rw[HE.out];exact⟨rfl,hbel⟩
theorem nG:∀ (T:Tm),T.Ok->∀ u∈T.post,u.Ok
|.var n,h,u,hu=>by simp[Tm.post] at hu;subst hu;exact h
|.sort l,h,u,hu=>by simp[Tm.post] at hu;subst hu;exact h
|.const n ls,h,u,hu=>by simp[Tm.post] at hu;subst hu;exact h
|.app f a,h,u,hu=>by
  simp only[Tm.post,List.mem_append,List.mem_singleton] at hu;rcases hu with hu|hu|rfl
  ·exact nG f h.1 u hu
  ·exact nG a h.2 u hu
  ·exact h
|.lam f a,h,u,hu=>by
  simp only[Tm.post,List.mem_append,List.mem_singleton] at hu;rcases hu with hu|hu|rfl
  ·exact nG f h.1 u hu
  ·exact nG a h.2 u hu
  ·exact h
|.pi f a,h,u,hu=>by
  simp only[Tm.post,List.mem_append,List.mem_singleton] at hu;rcases hu with hu|hu|rfl
  ·exact nG f h.1 u hu
  ·exact nG a h.2 u hu
  ·exact h
|.lett f a b,h,u,hu=>by
  simp only[Tm.post,List.mem_append,List.mem_singleton] at hu;rcases hu with hu|hu|hu|rfl
  ·exact nG f h.1 u hu
  ·exact nG a h.2.1 u hu
  ·exact nG b h.2.2 u hu
  ·exact h
theorem zE9{j:Nat}(hj:j<7)(u:Value):∀ (cur:List Nd) (k:Nat) (nd nd':Nd),cur[k]?=some nd->nd'.cells=nd.cells.set j u->(uG cur).set (k*7+j) u=uG (cur.set k nd')
|[],k,nd,nd',h,_=>by simp at h
|n::cur,0,nd,nd',h,e=>by
  simp at h;subst h;unfold uG;rw[List.set_cons_zero,List.flatMap_cons,List.flatMap_cons,e,Nat.zero_mul,Nat.zero_add,List.set_append_left _ _ (by rw[rK];exact hj)]
|n::cur,k+1,nd,nd',h,e=>by
  have ih:=zE9 hj u cur k nd nd' (by simpa using h) e;unfold uG at ih |-;rw[List.set_cons_succ,List.flatMap_cons,List.flatMap_cons,List.set_append_right _ _ (by rw[rK];omega),rK,show (k+1)*7+j - 7=k*7+j by omega,ih]
structure LSt (w W wr:World) (B b g cap:Nat) (av:Value) (args:List (List UInt8)) (P:List Tm) (ns cur:List Nd) (k:Nat):Prop where
 len:cur.length=ns.length
 row:wr.ownsRow B 94 7 (.slice (some ⟨g,0,none⟩) ns.length cap) ns.length (uG cur)
 rest:∀ i,k<=i->cur[i]?=ns[i]?
 done:∀ i u,i<k->P[i]?=some u->∃ nd nd',ns[i]?=some nd/\cur[i]?=some nd'/\yV4 wr B args nd nd' u
 sl:∀ nd∈cur,∃ a n c,nd.lv=.slice a n c
 strs:uF B W wr
 arg:wr.ownsRow b 9 1 av args.length (args.map sv)
 below:Below B w wr
 sz:B<=wr.heap.size
structure LSm (w W wr:World) (B b g cap:Nat) (av:Value) (args:List (List UInt8)) (P:List Tm) (ns cur:List Nd) (k:Nat) (nd:Nd):Prop where
 len:cur.length=ns.length
 row:wr.ownsRow B 94 7 (.slice (some ⟨g,0,none⟩) ns.length cap) ns.length (uG cur)
 rest:∀ i,k<i->cur[i]?=ns[i]?
 here:cur[k]?=some nd
 done:∀ i u,i<k->P[i]?=some u->∃ nd nd',ns[i]?=some nd/\cur[i]?=some nd'/\yV4 wr B args nd nd' u
 sl:∀ nd∈cur,∃ a n c,nd.lv=.slice a n c
 strs:uF B W wr
 arg:wr.ownsRow b 9 1 av args.length (args.map sv)
 below:Below B w wr
 sz:B<=wr.heap.size
theorem yV4.keep{W W':World}{B:Nat}{args:List (List UInt8)}{nd nd':Nd}{u:Tm}(h:yV4 W B args nd nd' u)(hk:uF B W W'):yV4 W' B args nd nd' u:=by
 cases u with
|const n ls=>obtain⟨h1,h2,ls',h3,h4⟩:=h;exact⟨h1,h2,ls',h3,hk _ _ _ h4⟩
|_=>exact h
section
variable {w W wr wr':World} {B b g cap k:Nat} {av:Value} {args:List (List UInt8)} {P:List Tm} {ns cur:List Nd} {nd:Nd}
theorem LSt.at(h:LSt w W wr B b g cap av args P ns cur k)(hk:ns[k]?=some nd):LSm w W wr B b g cap av args P ns cur k nd := ⟨h.len,h.row,fun i hi=>h.rest i (by omega),(h.rest k (nR _)).trans hk,h.done,h.sl,h.strs,h.arg,h.below,h.sz⟩
theorem LSm.keep(h:LSm w W wr B b g cap av args P ns cur k nd)(hb:Below wr.heap.size wr wr'):LSm w W wr' B b g cap av args P ns cur k nd := ⟨h.len,zA h.row hb,h.rest,h.here,fun i u hi hu=>by
  obtain⟨x,y,h1,h2,h3⟩:=h.done i u hi hu;exact⟨x,y,h1,h2,h3.keep fun _ _ _ hr=>zA hr hb⟩,h.sl,fun v n xs hv=>zA (h.strs v n xs hv) hb,zA h.arg hb,h.below.trans (hb.mono h.sz),Nat.le_trans h.sz hb.size⟩
theorem LSm.put(h:LSm w W wr B b g cap av args P ns cur k nd){j:Nat}(hj:j<7){u:Value}{nd':Nd}(hc:nd'.cells=nd.cells.set j u)(hlv:∃ a n c,nd'.lv=.slice a n c) :
  LSm w W (wr.setCell ⟨g,k*7+j,none⟩ u) B b g cap av args P ns (cur.set k nd') k nd'/\wr.grownBy (wr.setCell ⟨g,k*7+j,none⟩ u) (some g)/\uF B wr (wr.setCell ⟨g,k*7+j,none⟩ u):=by
 obtain⟨h1,hg⟩:=h.row.stored (k*7+j) u;rw[zE9 hj u cur k nd nd' h.here hc] at h1;have hks:∀ (b:Nat) (v:Value) (n:Nat) (xs:List Value),wr.ownsRow b 9 1 v n xs->(wr.setCell ⟨g,k*7+j,none⟩ u).ownsRow b 9 1 v n xs:=fun b v n xs hv=>sZ hv h.row (by decide) hg;have hkl:k<cur.length:=(List.getElem?_eq_some_iff.1 h.here).1;refine⟨⟨by rw[List.length_set];exact h.len,h1,fun i hi=>by rw[List.getElem?_set_ne (by omega)];exact h.rest i hi,by rw[List.getElem?_set_self hkl],fun i x hi hx=>?_,fun x hx=>?_,fun v n xs hv=>hks B v n xs (h.strs v n xs hv),hks _ _ _ _ h.arg,h.below.grown hg h.sz (fun q hq=>by injection hq with hq;subst hq;exact(h.row.lt _ rfl).1),Nat.le_trans h.sz hg.size⟩,hg,fun v n xs hv=>hks B v n xs hv⟩
 ·obtain⟨x1,y1,k1,k2,k3⟩:=h.done i x hi hx;exact⟨x1,y1,k1,by rw[List.getElem?_set_ne (by omega)];exact k2,k3.keep fun v n xs hv=>hks B v n xs hv⟩
 ·rcases List.mem_or_eq_of_mem_set hx with hx|rfl
  ·exact h.sl x hx
  ·exact hlv
theorem LSm.next{nd0:Nd}{u:Tm}(h:LSm w W wr B b g cap av args P ns cur k nd)(h0:ns[k]?=some nd0)(hP:P[k]?=some u)(hu:yV4 wr B args nd0 nd u):LSt w W wr B b g cap av args P ns cur (k+1) := ⟨h.len,h.row,fun i hi=>h.rest i (by omega),fun i x hi hx=>by
  by_cases e:i=k
  ·subst e;rw[hP] at hx;cases hx;exact⟨nd0,nd,h0,h.here,hu⟩
  ·exact h.done i x (by omega) hx,h.sl,h.strs,h.arg,h.below,h.sz⟩
end
theorem yF0{W:World}{b b' z n:Nat}{e:TypeId}{v:Value}{xs:List Value}(h:W.ownsRow b e z v n xs)(hb:b'<=b):W.ownsRow b' e z v n xs:=by
 refine⟨h.1,?_⟩;rcases h.2 with h1|⟨g,cap,cur,h1,h2,h3⟩
 ·exact .inl h1
 ·exact .inr ⟨g,cap,cur,h1,Nat.le_trans hb h2,h3⟩
theorem zS3{args:List (List UInt8)}:∀ {ls:List (List UInt8)} {j:Nat} (h:j<ls.length),zI ls[j] args=none->(ls.mapM fun l=>zI l args)=none
|l::ls,0,_,e=>by
  rw[List.mapM_cons];simp only[List.getElem_cons_zero] at e;rw[e];rfl
|l::ls,j+1,h,e=>by
  have ih:=zS3 (ls:=ls) (j:=j) (by simpa using h) (by simpa using e);rw[List.mapM_cons,ih];cases zI l args<;>rfl
theorem yG1{args ls:List (List UInt8)}{j:Nat}{rr:List (List UInt8)}{x:List UInt8}(h:j<ls.length)(h1:((ls.take j).mapM fun l=>zI l args)=some rr)(h2:zI ls[j] args=some x):((ls.take (j+1)).mapM fun l=>zI l args)=some (rr++[x]):=by
 rw[List.take_succ_eq_append_getElem h,List.mapM_append,h1];simp[h2]
theorem yF2(u:Tm):(∃ l,u=.sort l)\/(∃ nm ls,u=.const nm ls)\/(u.kind≠115/\u.lvOf=[]/\∀ W B args nd nd',aE nd nd'->yV4 W B args nd nd' u):=by
 cases u with
|sort l=>exact .inl ⟨l,rfl⟩
|const nm ls=>exact .inr (.inl ⟨nm,ls,rfl⟩)
|_=>exact .inr (.inr ⟨by simp[Tm.kind],rfl,fun _ _ _ _ _ h=>h⟩)
theorem fN(s:ByteArray){w:World}{b:Nat}{av:Value}{args:List (List UInt8)}(h:w.ownsRow b 9 1 av args.length (args.map sv))(hs:s.size<=maxLen)(hx:∀ x∈args,x.length<=maxLen)(hn:args.length<=10000000) :
  Rt 36 #[.string s,av] w (yC (zV s.data.toList args)):=by
 obtain⟨aa,ac,rfl⟩:=yW h;have f1:=Ld (tN s w hs);obtain⟨i0,hi,hz0,hz1,hz2'⟩:=info_parts rZ;have HARG:=Ld h;have FP:Hid (∀ (l:List UInt8) (wr:World),l.length<=60->wr.ownsRow b 9 1 (.slice aa args.length ac) args.length (args.map sv)->Rt 60 #[.string ⟨l.toArray⟩,.slice aa args.length ac] wr (yC (zI l args))):=fun l wr hl ha=>aW ⟨l.toArray⟩ ha (by show l.length<=_;unfold maxLen;omega) hx hn;clear h hs hx;go_enter Tryz.func36,Tryz.ntmps36;go_wp2_with fail;(with_reducible refine f1.out.mono ?_);rintro e W ⟨v,ns,rfl,hrow,hb,hsl,hall⟩;have HB:=Ld hb;have hzW:=hb.size;rcases hall with ⟨t,ht,hnt,hr⟩|⟨hno,rfl⟩;rotate_left
 ·obtain⟨la,lc,rfl⟩:=xE hrow;have HE:Hid (zV s.data.toList args=none):=(by rw[Hid,zV,yR hno]);clear hrow hno hb f1 hsl FP;go_wp2;go_ret2;rw[HE.out];exact⟨rfl,HB.out⟩
 have hsz:=t.size_pos;obtain⟨g,cap,rfl,hgB,hgl⟩:=hrow.form (by omega);have d0:((ns.length:Int)==0)=false:=beq_eq_false_iff_ne.2 (by omega);by_cases h3:args.length<=3;rotate_left
 ·have HE:Hid (zV s.data.toList args=none):=(by rw[Hid,zV,zY ht];exact iN h3);have d1:decide ((3:Int)<(args.length:Int))=true:=dT (by omega);clear hrow hb f1 hsl FP ht hr;go_wp2;go_ret2;rw[HE.out];exact⟨rfl,HB.out⟩
 have d1:decide ((3:Int)<(args.length:Int))=false:=dF (by omega);have hszl:=t.size_le;have hle:=ht.2.2;rw[← ht.2.1] at hle;have HTL:Hid (zV s.data.toList args=(t.lvs args).bind fun T'=>if T'.bytes.length<=2000 then some T'.bytes else none):=by rw[Hid,zV,zY ht];exact iP h3
 have HLO:Hid (∀ T',t.lvs args=some T'->T'.Ok/\T'.bytes.length<=62000):=fun T' hT=>by
  obtain⟨k1,k2⟩:=oA t T' ht.1 hT;exact⟨k1,by omega⟩
 have HPO:Hid (∀ T',t.lvs args=some T'->∀ u∈t.post,yM2 args u):=fun T' hT=>tV t T' hT;have HREP:Hid (∀ (wr:World) (cur:List Nd),(∀ (i:Nat) (u:Tm),t.post[i]?=some u->∃ nd nd',ns[i]?=some nd/\cur[i]?=some nd'/\yV4 wr w.heap.size args nd nd' u)->∃ T',t.lvs args=some T'/\nD wr w.heap.size cur (ns.length - 1) T'):=fun wr cur hu =>
  rY t (ns.length - 1) hr fun i u hi=>by
   rw[show ns.length - 1+1 - t.size+i=i by omega];exact hu i u hi
 have HPN:Hid (∀ (i:Nat) (u:Tm),t.post[i]?=some u->∃ nd,ns[i]?=some nd/\lL W w.heap.size nd u):=fun i u hu=>by
  obtain⟨nd,p,q⟩:=(hr.at).2 i u hu;exact⟨nd,by rw[show i=ns.length - 1+1 - t.size+i by omega];exact p,q⟩
 have HPK:Hid (∀ u∈t.post,u.Ok):=nG t ht.1;have hPl:t.post.length=ns.length:=by rw[t.post_len,hnt]
 have hPl1:t.post.length<=ns.length:=by omega
 have hPl2:ns.length<=t.post.length:=by omega
 have hn2:ns.length<=2000:=by omega
 have hn1:1<=ns.length:=by omega
 have h0:LSt w W W w.heap.size b g cap (.slice aa args.length ac) args t.post ns ns 0:=⟨rfl,hrow,fun _ _=>rfl,fun i u hi _=>by omega,hsl,uF.refl _ _,zA HARG.out hb,hb,hzW⟩;have H0:=Ld h0;generalize t.post=P at HPO HREP HPN HPK hPl hPl1 hPl2 H0;clear hrow hb hsl ht hr hnt hsz hszl hle f1 h0 hPl h3 HARG;go_wp2;go_loopw [7] (fun i wr=>∃ (k:Nat) (cur:List Nd),k<=ns.length/\i=.int .i64 k/\LSt w W wr w.heap.size b g cap (.slice aa args.length ac) args P ns cur k) (fun i _=>ns.length - (intOf i).toNat)
 case atStart=>exact⟨0,ns,Nat.zero_le _,rfl,H0.out⟩
 case round =>
  obtain⟨k,cur,hk,rfl,hst⟩:=hrel;by_cases hlt:k<ns.length;rotate_left
  ·have hkk:k=ns.length:=(by omega);obtain⟨T',hT,hrep⟩:=HREP.out wr cur (fun i u hu=>hst.done i u (by have:=(List.getElem?_eq_some_iff.1 hu).1;omega) hu);obtain⟨k1,k2⟩:=HLO.out T' hT;have hrow2:wr.ownsRow w.heap.size 94 7 (.slice (some ⟨g,0,none⟩) ns.length cap) cur.length (uG cur):=(by rw[hst.len];exact hst.row);have f5:=Ld (kM (ns:=cur) (by rw[hst.len];omega) hst.sl T' (ns.length - 1) wr (.slice (some ⟨g,0,none⟩) ns.length cap) hrow2 hrep k1 (by omega));rw[show ((ns.length - 1:Nat):Int)=(ns.length:Int) - 1 by omega] at f5;have HBr:=Ld hst.below;have hzr:=hst.sz;have HT2:Hid (zV s.data.toList args=if T'.bytes.length<=2000 then some T'.bytes else none):=(by rw[Hid,HTL.out,hT];rfl);have dk:decide ((k:Int)<(ns.length:Int))=false:=dF (by omega);have hz5:(⟨T'.bytes.toArray⟩:ByteArray).size=T'.bytes.length:=(by simp[ByteArray.size]);generalize T'.bytes=tb at f5 HT2 k2 hz5;clear hst hrep hrow2 hT k1 H0 HTL HLO HPO HREP HPN HPK;go_wp2_with fail;(with_reducible refine mo f5.out fun w5 hb5=>?_);have HB5:=Ld (HBr.out.trans (hb5.mono hzr));clear hb5;by_cases h2k:tb.length<=2000
   ·have HE:Hid (zV s.data.toList args=some tb):=(by rw[Hid,HT2.out,iP h2k]);have d5:decide ((2000:Int)<(tb.length:Int))=false:=dF (by omega);go_wp2;go_ret2;rw[HE.out];exact⟨rfl,HB5.out⟩
   ·have HE:Hid (zV s.data.toList args=none):=(by rw[Hid,HT2.out,iN h2k]);have d5:decide ((2000:Int)<(tb.length:Int))=true:=dT (by omega);go_wp2;go_ret2;rw[HE.out];exact⟨rfl,HB5.out⟩
  ·have hPk:P[k]?=some P[k]:=(by simp);obtain⟨nd,hnd,hnk,hns,hnr⟩:=HPN.out k _ hPk;have hum:=List.getElem_mem (show k<P.length by omega);have hok:=HPK.out _ hum;have HNo:Hid (¬ yM2 args P[k]->zV s.data.toList args=none):=fun hnp=>by
    rw[HTL.out];cases hT:t.lvs args with
   |none=>rfl
   |some T'=>exact absurd (HPO.out T' hT _ hum) hnp
   have M:=hst.at hnd;have hrow2:wr.ownsRow w.heap.size 94 7 (.slice (some ⟨g,0,none⟩) cur.length cap) cur.length (uG cur):=(by rw[M.len];exact M.row);have c0:wr.cell? ⟨g,k*7,none⟩=some (.int .u8 (nd.kind.toNat:Int)):=xP hrow2 M.here 0 (by decide);have c5:wr.cell? ⟨g,k*7+5,none⟩=some (.string ⟨nd.text.toArray⟩):=xP hrow2 M.here 5 (by decide);have c6:wr.cell? ⟨g,k*7+6,none⟩=some nd.lv:=xP hrow2 M.here 6 (by decide);have z5:wr.frozen? ⟨g,k*7+5,none⟩=false:=M.row.frozenAt _;have z6:wr.frozen? ⟨g,k*7+6,none⟩=false:=M.row.frozenAt _;have q1:=zn k;have q2:(k:Int)<(ns.length:Int):=(by omega);have dk:decide ((k:Int)<(ns.length:Int))=true:=dT q2;have hnr2:=M.strs _ _ _ hnr;obtain⟨al,cl,hlv⟩:=yW hnr;have hsl1:=M.sl nd (List.mem_of_getElem? M.here);have HND:=Ld hnd;have HPk:=Ld hPk;rw[hlv] at c6;have HM:=Ld M;clear hst hnr hrow2 M hum hnd hPk H0;generalize P[k]=u at hnk hns hok HNo hnr2 hlv c6 HPk
   rename World=>wo
   rcases yF2 u with ⟨l,rfl⟩|⟨nm,ls,rfl⟩|⟨hk1,hk2,hk3⟩
   ·have ht:=hns l rfl;have h60:l.length<=60:=(zK hok).1;have f2:=Ld (FP.out l wo h60 HM.out.arg);rw[ht] at c5;have e115:(nd.kind.toNat:Int)=115:=(by rw[hnk];rfl);rw[e115] at c0;replace c6:wo.cell? ⟨g,k*7+6,none⟩=some (.slice al 0 cl):=c6;cases hput:zI l args with
   |none =>
     have HE:=Ld (HNo.out (fun hp=>by obtain⟨r,hr⟩:=hp;rw[hput] at hr;cases hr));rw[hput] at f2;simp only[yC] at f2;clear hnr2 hlv hns hok HNo;go_wp2_with fail;(with_reducible refine mo f2.out fun w2 hb2=>?_);have HB2:=Ld (HM.out.below.trans (hb2.mono HM.out.sz));clear hb2;go_wp2;go_ret2;rw[HE.out];exact⟨rfl,HB2.out⟩
   |some r =>
     rw[hput] at f2;simp only[yC] at f2;have HPUT:=Ld hput;clear hput hnr2 hns hok HNo;go_wp2_with fail;(with_reducible refine mo f2.out fun w2 hb2=>?_);have M2:=HM.out.keep hb2;have y5:w2.frozen? ⟨g,k*7+5,none⟩=false:=M2.row.frozenAt _;have x5:w2.cell? ⟨g,k*7+5,none⟩=some (.string ⟨l.toArray⟩):=by
      have:=xP (W:=w2) (ns:=cur) (g:=g) (cap:=cap) (by rw[M2.len];exact M2.row) M2.here 5 (by decide);rw[this,← ht];rfl
     have M3:=(M2.put (j:=5) (by decide) (u:=.string ⟨r.toArray⟩) (nd':={ nd with text:=r }) rfl hsl1).1;have hz3:=M3.sz;have b4:=Below.alloc (bR (w2.setCell ⟨g,k*7+5,none⟩ (.string ⟨r.toArray⟩)).heap.size (w2.setCell ⟨g,k*7+5,none⟩ (.string ⟨r.toArray⟩))) (nR _) (.cells #[] 9);have M4:=M3.keep b4;clear M2 M3 hb2;go_wp2;generalize (w2.setCell ⟨g,k*7+5,none⟩ (.string ⟨r.toArray⟩)).alloc (.cells #[] 9)=w4 at M4 b4 |-;have M4h:=Ld M4;have c6':w4.cell? ⟨g,k*7+6,none⟩=some (.slice al 0 cl):=by
      have:=xP (W:=w4) (g:=g) (cap:=cap) (by rw[M4.len];exact M4.row) M4.here 6 (by decide);rw[this,show (.slice al 0 cl:Value)=nd.lv from hlv.symm];rfl
     have z6':w4.frozen? ⟨g,k*7+6,none⟩=false:=M4.row.frozenAt _;clear M4 b4 c0 c5 c6 z5 z6;go_loopw [10,11] (fun z i wi=>i=.int .i64 0/\z=.slice (some ⟨w2.heap.size,0,none⟩) 0 0/\wi=w4) (fun _ _ _=>0)
     case atStart=>exact⟨rfl,rfl,rfl⟩
     case round =>
      obtain⟨rfl,rfl,rfl⟩:=hrel;go_wp2;have M5:=(M4h.out.put (j:=6) (by decide) (u:=.slice (some ⟨w2.heap.size,0,none⟩) 0 0) (nd':={ ({ nd with text:=r }:Nd) with lv:=.slice (some ⟨w2.heap.size,0,none⟩) 0 0 }) rfl ⟨_,_,_,rfl⟩).1;have MN:=M5.next HND.out HPk.out (⟨⟨rfl,rfl,rfl,rfl,rfl⟩,HPUT.out⟩);have HMN:=Ld MN;clear M5 MN;go_roundw
      case rel=>exact⟨k+1,_,by omega,by go_num,HMN.out⟩
      case measure=>simp[intOf];omega
   ·have e115:((nd.kind.toNat:Int)==115)=false:=zQ (d:=115) (by rw[hnk];simp[Tm.kind]);replace c6:wo.cell? ⟨g,k*7+6,none⟩=some (.slice al ls.length cl):=c6;have hlv2:nd.lv=.slice al ls.length cl:=hlv;have hnr3:wo.ownsRow w.heap.size 9 1 (.slice al ls.length cl) ls.length (ls.map sv):=(by rw[← hlv2];exact hnr2);have hl3:ls.length<=3:=hok.2.1;have HL60:Hid (∀ x∈ls,x.length<=60):=fun x hx=>(zK (hok.2.2 x hx)).1;have b4:=Below.alloc (bR wo.heap.size wo) (nR _) (.cells #[] 9);have r4:=World.ownsRow_lit (base:=wo.heap.size) (e:=9) (size:=1) wo #[] 0 (nR _) (by decide) (by simp);have HNR:=Ld hnr3;have HB4:=Ld b4;have HR4:=Ld r4;clear hnr2 hnr3 hns hok b4 r4 z5 c5;go_wp2;go_loopw [10,11] (fun z i wi=>∃ (j:Nat) (rr:List (List UInt8)) (zz:Value),zz=z/\j<=ls.length/\i=.int .i64 j/\Hid ((ls.take j).mapM (fun l=>zI l args)=some rr)/\rr.length<=j/\wi.ownsRow wo.heap.size 9 1 zz rr.length (rr.map sv)/\Below wo.heap.size wo wi) (fun _ i _=>ls.length - (intOf i).toNat)
    case atStart=>exact⟨0,[],_,rfl,Nat.zero_le _,rfl,rfl,nR _,HR4.out,HB4.out⟩
    case round =>
     obtain⟨j,rr,zz,rfl,hj,rfl,HMP,hrl,hzz,hbi⟩:=hrel
     rename World=>wi
     have Mi:=HM.out.keep hbi;have hszi:=hbi.size;have c6i:wi.cell? ⟨g,k*7+6,none⟩=some (.slice al ls.length cl):=by
      have:=xP (W:=wi) (g:=g) (cap:=cap) (by rw[Mi.len];exact Mi.row) Mi.here 6 (by decide);rw[this,← hlv2];rfl
     have z6i:wi.frozen? ⟨g,k*7+6,none⟩=false:=Mi.row.frozenAt _;have HMi:=Ld Mi;have HZZ:=Ld hzz;have HBI:=Ld hbi;have hri:=zA HNR.out hbi;clear HR4 HB4 c0 c6 z6 hbi hzz Mi;by_cases hjl:j<ls.length
     ·obtain⟨g2,cap2,e2,_,_⟩:=hri.form (by omega);cases e2;have ex:(ls.map sv)[j]?=some (sv ls[j]):=(by simp[hjl]);have cj:=(hri.cellAt j (by omega)).trans ex;unfold sv at cj;have q3:=zn j;have q4:(j:Int)<(ls.length:Int):=(by omega);have f2:=Ld (FP.out ls[j] wi (HL60.out _ (List.getElem_mem hjl)) HMi.out.arg)
      have HMB:Hid (zI ls[j] args=none->zV s.data.toList args=none):=fun hb0=>HNo.out (fun hp=>by
       obtain⟨r,hr⟩:=hp;rw[zS3 hjl hb0] at hr;cases hr)
      have HMT:Hid (∀ x,zI ls[j] args=some x->(ls.take (j+1)).mapM (fun l=>zI l args)=some (rr++[x])):=fun x hx=>yG1 hjl HMP.out hx;clear ex hri HMP;generalize ls[j]=lj at cj f2 HMB HMT;cases hput:zI lj args with
     |none =>
       have HE:=Ld (HMB.out hput);rw[hput] at f2;simp only[yC] at f2;clear HMB HMT hput;go_wp2_with fail;(with_reducible refine mo f2.out fun w2 hb2=>?_);have HB2:=Ld (HMi.out.below.trans (hb2.mono HMi.out.sz));clear hb2;go_wp2;go_ret2;rw[HE.out];exact⟨rfl,HB2.out⟩
     |some x =>
       have HX:=Ld (HMT.out x hput);rw[hput] at f2;simp only[yC] at f2;clear HMB HMT hput;go_wp2_with fail;(with_reducible refine mo f2.out fun w2 hb2=>?_);have hz2:=zA HZZ.out hb2;have hB2:=HBI.out.trans (hb2.mono HBI.out.size);have hs2:=hB2.size;clear hb2 HZZ;go_wp2_with (at_builtin;refine wpList_append_own _ rfl _ _ 31 rfl wo.heap.size 9 i0 _ 1 16 Tryz.underlying31 hi hz0 hz1 hz2' rfl (by decide) _ _ _ rfl (hz2.alloc _) ⟨w2.heap.size,0,none⟩ 1 1 [.string ⟨x.toArray⟩] rfl rfl (yI _ _ _) (by simp[Value.oneCell']) (by simp only[maxLen];omega) (by omega) (by simp;omega) ?_);intro v3 w3 ho3 hg3 _;have HB3:=Ld ((hB2.alloc hs2 (.cells #[.string ⟨x.toArray⟩] 9)).grown hg3 (by simp;omega) (fun q hq=>(hz2.lt q hq).1));have HO3:=Ld ho3;clear ho3 hg3 hz2 hB2;go_wp2;go_roundw
       case rel=>exact⟨j+1,rr++[x],_,rfl,by omega,by go_num,HX.out,by simp;omega,by simpa [sv] using HO3.out,HB3.out⟩
       case measure=>simp[intOf];omega
     ·have hje:j=ls.length:=(by omega);have HMF:Hid (ls.mapM (fun l=>zI l args)=some rr):=by
       have:=HMP.out;rw[hje,List.take_length] at this;exact this
      obtain⟨za,zc,rfl⟩:=yW HZZ.out;have dj:decide ((j:Int)<(ls.length:Int))=false:=dF (by omega);have HPT:=Ld (HMi.out.put (j:=6) (by decide) (u:=.slice za rr.length zc) (nd':={ nd with lv:=.slice za rr.length zc }) rfl ⟨_,_,_,rfl⟩);have HRB:Hid (wi.ownsRow w.heap.size 9 1 (.slice za rr.length zc) rr.length (rr.map sv)):=yF0 HZZ.out HM.out.sz;have MN:=HPT.out.1.next HND.out HPk.out ⟨⟨rfl,rfl,rfl,rfl,rfl⟩,rfl,rr,HMF.out,HPT.out.2.2 _ _ _ HRB.out⟩;have HMN:=Ld MN;clear MN hri HMP hje;go_wp2;go_roundw
      case rel=>exact⟨k+1,_,by omega,by go_num,HMN.out⟩
      case measure=>simp[intOf];omega
   ·have e115:((nd.kind.toNat:Int)==115)=false:=zQ (d:=115) (by rw[hnk];exact hk1);rw[hk2] at c6 hlv;replace hlv:nd.lv=.slice al 0 cl:=hlv;replace c6:wo.cell? ⟨g,k*7+6,none⟩=some (.slice al 0 cl):=c6;have b4:=Below.alloc (bR wo.heap.size wo) (nR _) (.cells #[] 9);have M4:=HM.out.keep b4;clear hnr2 hns hok HNo hnk hk1 hk2;go_wp2;generalize wo.alloc (.cells #[] 9)=w4 at M4 b4 |-;have M4h:=Ld M4;have c6':w4.cell? ⟨g,k*7+6,none⟩=some (.slice al 0 cl):=by
     have:=xP (W:=w4) (g:=g) (cap:=cap) (by rw[M4.len];exact M4.row) M4.here 6 (by decide);rw[this,show (.slice al 0 cl:Value)=nd.lv from hlv.symm];rfl
    have z6':w4.frozen? ⟨g,k*7+6,none⟩=false:=M4.row.frozenAt _;clear M4 b4 c0 c5 c6 z5 z6;go_loopw [10,11] (fun z i wi=>i=.int .i64 0/\z=.slice (some ⟨wo.heap.size,0,none⟩) 0 0/\wi=w4) (fun _ _ _=>0)
    case atStart=>exact⟨rfl,rfl,rfl⟩
    case round =>
     obtain⟨rfl,rfl,rfl⟩:=hrel;go_wp2;have M5:=(M4h.out.put (j:=6) (by decide) (u:=.slice (some ⟨wo.heap.size,0,none⟩) 0 0) (nd':={ nd with lv:=.slice (some ⟨wo.heap.size,0,none⟩) 0 0 }) rfl ⟨_,_,_,rfl⟩).1;have MN:=M5.next HND.out HPk.out (hk3 _ _ _ _ _ ⟨rfl,rfl,rfl,rfl,rfl⟩);have HMN:=Ld MN;clear M5 MN;go_roundw
     case rel=>exact⟨k+1,_,by omega,by go_num,HMN.out⟩
     case measure=>simp[intOf];omega
end Go.Proofs.YtcaahdjhbmmcnaaGreatDoor
namespace Go.Proofs.YtcaahdjhbmmcnaaGreatDoor
open Go
namespace Tm
def mapS {σ:Type} (f:σ->Tm->Nat->Tm × σ):Tm->σ->Nat->Tm × σ
|var n,s,b=>f s (var n) b
|sort l,s,b=>f s (sort l) b
|const n ls,s,b=>f s (const n ls) b
|app x y,s,b=>(app (mapS f x s b).1 (mapS f y (mapS f x s b).2 b).1,(mapS f y (mapS f x s b).2 b).2)
|lam x y,s,b=>(lam (mapS f x s b).1 (mapS f y (mapS f x s b).2 (b+1)).1,(mapS f y (mapS f x s b).2 (b+1)).2)
|pi x y,s,b=>(pi (mapS f x s b).1 (mapS f y (mapS f x s b).2 (b+1)).1,(mapS f y (mapS f x s b).2 (b+1)).2)
|lett x y z,s,b=>(lett (mapS f x s b).1 (mapS f y (mapS f x s b).2 b).1 (mapS f z (mapS f y (mapS f x s b).2 b).2 (b+1)).1,(mapS f z (mapS f y (mapS f x s b).2 b).2 (b+1)).2)
def Lv (P:Tm->Nat->Prop):Tm->Nat->Prop
|var n,b=>P (var n) b
|sort l,b=>P (sort l) b
|const n ls,b=>P (const n ls) b
|app x y,b=>Lv P x b/\Lv P y b
|lam x y,b=>Lv P x b/\Lv P y (b+1)
|pi x y,b=>Lv P x b/\Lv P y (b+1)
|lett x y z,b=>Lv P x b/\Lv P y b/\Lv P z (b+1)
def OkLeaf (B:Nat) (t:Tm) (b:Nat):Prop:=b<=B/\((∃ n,n<=999/\t=var n)\/(∃ l,zD l=true/\t=sort l)\/∃ n ls,(const n ls).Ok/\t=const n ls)
theorem ok_lv{B:Nat}:∀ (T:Tm) (b:Nat),T.Ok->b+T.size<=B->T.Lv (OkLeaf B) b
|var n,b,h,hb=>⟨by omega,.inl ⟨n,h,rfl⟩⟩
|sort l,b,h,hb=>⟨by omega,.inr (.inl ⟨l,h,rfl⟩)⟩
|const n ls,b,h,hb=>⟨by omega,.inr (.inr ⟨n,ls,h,rfl⟩)⟩
|app x y,b,h,hb=>by simp only[size] at hb;exact⟨ok_lv x b h.1 (by omega),ok_lv y b h.2 (by omega)⟩
|lam x y,b,h,hb=>by have:=x.size_pos;simp only[size] at hb;exact⟨ok_lv x b h.1 (by omega),ok_lv y (b+1) h.2 (by omega)⟩
|pi x y,b,h,hb=>by have:=x.size_pos;simp only[size] at hb;exact⟨ok_lv x b h.1 (by omega),ok_lv y (b+1) h.2 (by omega)⟩
|lett x y z,b,h,hb=>by have:=x.size_pos;simp only[size] at hb;exact⟨ok_lv x b h.1 (by omega),ok_lv y b h.2.1 (by omega),ok_lv z (b+1) h.2.2 (by omega)⟩
structure Comp (Q:Tm->Prop):Prop where
 app:∀ x y,Q x->Q y->Q (app x y)
 lam:∀ x y,Q x->Q y->Q (lam x y)
 pi:∀ x y,Q x->Q y->Q (pi x y)
 lett:∀ x y z,Q x->Q y->Q z->Q (lett x y z)
theorem mapS_q{σ:Type}{f:σ->Tm->Nat->Tm × σ}{P:Tm->Nat->Prop}{Q:Tm->Prop}(hQ:Comp Q)(hf:∀ s t b,P t b->Q (f s t b).1):∀ (T:Tm) (s:σ) (b:Nat),T.Lv P b->Q (mapS f T s b).1
|var n,s,b,h=>hf s _ b h
|sort l,s,b,h=>hf s _ b h
|const n ls,s,b,h=>hf s _ b h
|app x y,s,b,h=>hQ.app _ _ (mapS_q hQ hf x s b h.1) (mapS_q hQ hf y _ b h.2)
|lam x y,s,b,h=>hQ.lam _ _ (mapS_q hQ hf x s b h.1) (mapS_q hQ hf y _ (b+1) h.2)
|pi x y,s,b,h=>hQ.pi _ _ (mapS_q hQ hf x s b h.1) (mapS_q hQ hf y _ (b+1) h.2)
|lett x y z,s,b,h=>hQ.lett _ _ _ (mapS_q hQ hf x s b h.1) (mapS_q hQ hf y _ b h.2.1) (mapS_q hQ hf z _ (b+1) h.2.2)
theorem mapS_len{σ:Type}{f:σ->Tm->Nat->Tm × σ}{P:Tm->Nat->Prop}{K:Nat}(hK:1<=K)(hf:∀ s t b,P t b->(f s t b).1.bytes.length<=K*t.bytes.length):∀ (T:Tm) (s:σ) (b:Nat),T.Lv P b->(mapS f T s b).1.bytes.length<=K*T.bytes.length
|var n,s,b,h=>hf s _ b h
|sort l,s,b,h=>hf s _ b h
|const n ls,s,b,h=>hf s _ b h
|app x y,s,b,h=>by
  have h1:=mapS_len hK hf x s b h.1;have h2:=mapS_len hK hf y (mapS f x s b).2 b h.2;simp only[mapS,bytes,lC,lA,Nat.mul_add,Nat.mul_one];omega
|lam x y,s,b,h=>by
  have h1:=mapS_len hK hf x s b h.1;have h2:=mapS_len hK hf y (mapS f x s b).2 (b+1) h.2;simp only[mapS,bytes,lC,lA,Nat.mul_add,Nat.mul_one];omega
|pi x y,s,b,h=>by
  have h1:=mapS_len hK hf x s b h.1;have h2:=mapS_len hK hf y (mapS f x s b).2 (b+1) h.2;simp only[mapS,bytes,lC,lA,Nat.mul_add,Nat.mul_one];omega
|lett x y z,s,b,h=>by
  have h1:=mapS_len hK hf x s b h.1;have h2:=mapS_len hK hf y (mapS f x s b).2 b h.2.1;have h3:=mapS_len hK hf z (mapS f y (mapS f x s b).2 b).2 (b+1) h.2.2;simp only[mapS,bytes,lC,lA,Nat.mul_add,Nat.mul_one];omega
def Pre:Tm->Prop
|var _=>True
|sort l=>(46:UInt8)∉l
|const n ls=>(59:UInt8)∉n/\∀ x∈ls,(46:UInt8)∉x/\(44:UInt8)∉x
|app f a=>f.Pre/\a.Pre
|lam f a=>f.Pre/\a.Pre
|pi f a=>f.Pre/\a.Pre
|lett f a b=>f.Pre/\a.Pre/\b.Pre
theorem comp_pre:Comp Pre:=⟨fun _ _ h k=>⟨h,k⟩,fun _ _ h k=>⟨h,k⟩,fun _ _ h k=>⟨h,k⟩,fun _ _ _ h k l=>⟨h,k,l⟩⟩
theorem comp_lim(m:Nat):Comp (Lim m):=⟨fun _ _ h k=>⟨h,k⟩,fun _ _ h k=>⟨h,k⟩,fun _ _ h k=>⟨h,k⟩,fun _ _ _ h k l=>⟨h,k,l⟩⟩
theorem Ok.pre:∀ {t:Tm},t.Ok->t.Pre
|var _,_=>trivial
|sort _,h=>(uO h).1
|const _ _,h=>⟨qJ h.1,fun x hx=>uO (h.2.2 x hx)⟩
|app _ _,h=>⟨h.1.pre,h.2.pre⟩
|lam _ _,h=>⟨h.1.pre,h.2.pre⟩
|pi _ _,h=>⟨h.1.pre,h.2.pre⟩
|lett _ _ _,h=>⟨h.1.pre,h.2.1.pre,h.2.2.pre⟩
theorem xH3:∀ {ls:List (List UInt8)},(∀ x∈ls,(46:UInt8)∉x)->(46:UInt8)∉xA ls
|[],_=>by simp[xA]
|x::r,h=>by
  intro hm;rw[xA] at hm;rcases List.mem_append.1 hm with h1|h1
  ·exact h x List.mem_cons_self h1
  rcases List.mem_cons.1 h1 with h2|h2
  ·revert h2;decide
  ·exact xH3 (fun y hy=>h y (List.mem_cons_of_mem _ hy)) h2
theorem preUniq:∀ (t u:Tm) (r s:List UInt8),t.Pre->u.Pre->t.bytes++r=u.bytes++s->t=u/\r=s:=by
 intro t
 induction t with
|var n =>
  intro u r s ht hu h;cases u with
 |var m =>
   simp only[Tm.bytes,List.cons_append,List.append_assoc,List.nil_append] at h;injection h with _ h;obtain⟨h1,h2⟩:=tZ (rI n) (rI m) h;exact⟨by rw[uT h1],h2⟩
 |_=>simp[Tm.bytes] at h
|sort l =>
  intro u r s ht hu h;cases u with
 |sort m =>
   simp only[Tm.bytes,List.cons_append,List.append_assoc,List.nil_append] at h;injection h with _ h;obtain⟨h1,h2⟩:=tZ ht hu h;exact⟨by rw[h1],h2⟩
 |_=>simp[Tm.bytes] at h
|const n ls =>
  intro u r s ht hu h;cases u with
 |const m ms =>
   simp only[Tm.bytes,List.cons_append,List.append_assoc,List.nil_append] at h;injection h with _ h;obtain⟨h1,h2⟩:=tZ ht.1 hu.1 h;obtain⟨h3,h4⟩:=tZ (xH3 fun x hx=>(ht.2 x hx).1) (xH3 fun x hx=>(hu.2 x hx).1) h2;exact⟨by rw[h1,cV (fun x hx=>(ht.2 x hx).2) (fun x hx=>(hu.2 x hx).2) h3],h4⟩
 |_=>simp[Tm.bytes] at h
|app f a ihf iha =>
  intro u r s ht hu h;cases u with
 |app g b =>
   simp only[Tm.bytes,List.cons_append,List.append_assoc] at h;injection h with _ h;obtain⟨h1,h2⟩:=ihf g _ _ ht.1 hu.1 h;obtain⟨h3,h4⟩:=iha b _ _ ht.2 hu.2 h2;exact⟨by rw[h1,h3],h4⟩
 |_=>simp[Tm.bytes] at h
|lam f a ihf iha =>
  intro u r s ht hu h;cases u with
 |lam g b =>
   simp only[Tm.bytes,List.cons_append,List.append_assoc] at h;injection h with _ h;obtain⟨h1,h2⟩:=ihf g _ _ ht.1 hu.1 h;obtain⟨h3,h4⟩:=iha b _ _ ht.2 hu.2 h2;exact⟨by rw[h1,h3],h4⟩
 |_=>simp[Tm.bytes] at h
|pi f a ihf iha =>
  intro u r s ht hu h;cases u with
 |pi g b =>
   simp only[Tm.bytes,List.cons_append,List.append_assoc] at h;injection h with _ h;obtain⟨h1,h2⟩:=ihf g _ _ ht.1 hu.1 h;obtain⟨h3,h4⟩:=iha b _ _ ht.2 hu.2 h2;exact⟨by rw[h1,h3],h4⟩
 |_=>simp[Tm.bytes] at h
|lett f a c ihf iha ihc =>
  intro u r s ht hu h;cases u with
 |lett g b d =>
   simp only[Tm.bytes,List.cons_append,List.append_assoc] at h;injection h with _ h;obtain⟨h1,h2⟩:=ihf g _ _ ht.1 hu.1 h;obtain⟨h3,h4⟩:=iha b _ _ ht.2.1 hu.2.1 h2;obtain⟨h5,h6⟩:=ihc d _ _ ht.2.2 hu.2.2 h4;exact⟨by rw[h1,h3,h5],h6⟩
 |_=>simp[Tm.bytes] at h
end Tm
theorem lQ{T:Tm}(h:T.Pre):yB T.bytes=true↔T.Ok/\T.bytes.length<=2000:=by
 constructor
 ·intro hk;cases ht:vQ T.bytes with
 |none=>rw[yB,ht] at hk;cases hk
 |some t =>
   obtain⟨h1,h2,h3⟩:=vF ht;obtain⟨rfl,_⟩:=Tm.preUniq t T [] [] h1.pre h (by rw[h2]);exact⟨h1,h3⟩
 ·rintro ⟨h1,h2⟩;rw[yB,zY ⟨h1,rfl,h2⟩];rfl
theorem uZ(T:Tm):(T.Ok/\T.bytes.length<=2000->vV (some []) T=some T.bytes)/\(¬ (T.Ok/\T.bytes.length<=2000)->vV (some []) T=none):=by
 constructor
 ·intro h;rw[sA h.1 (by simpa using h.2)];rfl
 ·intro h;exact vG (fun k=>h ⟨k.1,by simpa using k.2⟩)
def iW (a c:Nat):Unit->Tm->Nat->Tm × Unit:=fun _ t b=>(t.lift a (c+b),())
theorem vY(a c:Nat):∀ (T:Tm) (b:Nat),(T.mapS (iW a c) () b).1=T.lift a (c+b)
|.var n,b=>rfl
|.sort _,_=>rfl
|.const _ _,_=>rfl
|.app x y,b=>by simp only[Tm.mapS,Tm.lift,vY a c x b];rw[← vY a c y b]
|.lam x y,b=>by simp only[Tm.mapS,Tm.lift,vY a c x b];rw[Nat.add_assoc,← vY a c y (b+1)]
|.pi x y,b=>by simp only[Tm.mapS,Tm.lift,vY a c x b];rw[Nat.add_assoc,← vY a c y (b+1)]
|.lett x y z,b=>by simp only[Tm.mapS,Tm.lift,vY a c x b];rw[Nat.add_assoc,← vY a c y b,← vY a c z (b+1)]
theorem gM:∀ (m n:Nat),n<=m->(Lib.decDigits n).length<=(Lib.decDigits m).length:=by
 intro m
 induction m using Nat.strongRecOn with
|_ m ih =>
  intro n h;rw[Lib.decDigits_length,Lib.decDigits_length];by_cases hm:m<10
  ·rw[Lib.nDigits_small hm,Lib.nDigits_small (by omega)];exact nR _
  ·by_cases hn:n<10
   ·rw[Lib.nDigits_small hn,Lib.nDigits_big hm];omega
   ·have:=ih (m / 10) (by omega) (n / 10) (by omega);rw[Lib.decDigits_length,Lib.decDigits_length] at this;rw[Lib.nDigits_big hm,Lib.nDigits_big hn];omega
theorem tO{n:Nat}(h:n<=9999):(Lib.decDigits n).length<=4:=by
 have:=gM 9999 n h;have e:(Lib.decDigits 9999).length=4:=by
  rw[Lib.decDigits_length,Lib.nDigits_big (by decide),Lib.nDigits_big (by decide),Lib.nDigits_big (by decide),Lib.nDigits_small (by decide)]
 omega
theorem dN(n:Nat):1<=(Lib.decDigits n).length:=by
 have:=gM n 0 (Nat.zero_le _);rw[Lib.decDigits_length,Lib.nDigits_small (by decide)] at this;exact this
namespace Tm
theorem lift_len2{a m:Nat}(hm:m+a<=9999):∀ (T:Tm) (c:Nat),T.Lim m->(T.lift a c).bytes.length<=2*T.bytes.length
|var n,c,h=>by
  have h2:n<=m:=h;have:=tO (n:=if c<=n then n+a else n) (by split<;>omega);have:=dN n;simp only[lift,bytes,lC,lA,List.length_nil];omega
|sort _,_,_=>by simp only[lift];omega
|const _ _,_,_=>by simp only[lift];omega
|app x y,c,h=>by have:=lift_len2 hm x c h.1;have:=lift_len2 hm y c h.2;simp only[lift,bytes,lC,lA];omega
|lam x y,c,h=>by have:=lift_len2 hm x c h.1;have:=lift_len2 hm y (c+1) h.2;simp only[lift,bytes,lC,lA];omega
|pi x y,c,h=>by have:=lift_len2 hm x c h.1;have:=lift_len2 hm y (c+1) h.2;simp only[lift,bytes,lC,lA];omega
|lett x y z,c,h=>by have:=lift_len2 hm x c h.1;have:=lift_len2 hm y c h.2.1;have:=lift_len2 hm z (c+1) h.2.2;simp only[lift,bytes,lC,lA];omega
theorem lift_pre(a:Nat):∀ (T:Tm) (c:Nat),T.Pre->(T.lift a c).Pre
|var _,_,_=>trivial
|sort _,_,h=>h
|const _ _,_,h=>h
|app x y,c,h=>⟨lift_pre a x c h.1,lift_pre a y c h.2⟩
|lam x y,c,h=>⟨lift_pre a x c h.1,lift_pre a y (c+1) h.2⟩
|pi x y,c,h=>⟨lift_pre a x c h.1,lift_pre a y (c+1) h.2⟩
|lett x y z,c,h=>⟨lift_pre a x c h.1,lift_pre a y c h.2.1,lift_pre a z (c+1) h.2.2⟩
end Tm
def xJ1 (args:List (List UInt8)):Unit->Tm->Nat->Tm × Unit
|_,.sort l,_=>(.sort ((zI l args).getD []),())
|_,.const n ls,_=>(.const n (ls.map fun l=>(zI l args).getD []),())
|_,t,_=>(t,())
theorem zC0{args:List (List UInt8)}:∀ {ls r:List (List UInt8)},(ls.mapM fun l=>zI l args)=some r->(ls.map fun l=>(zI l args).getD [])=r
|[],r,h=>by simp at h;subst h;rfl
|l::ls,r,h=>by
  rw[List.mapM_cons] at h;obtain⟨x,hx,h2⟩:=Option.bind_eq_some_iff.1 h;obtain⟨r',hr,h3⟩:=Option.bind_eq_some_iff.1 h2;cases h3;rw[List.map_cons,hx,zC0 hr];rfl
theorem zC2{args:List (List UInt8)}:∀ {ls:List (List UInt8)},(ls.mapM fun l=>zI l args)=none->∃ l∈ls,zI l args=none
|[],h=>by simp at h
|l::ls,h=>by
  cases hx:zI l args with
 |none=>exact⟨l,List.mem_cons_self,hx⟩
 |some x =>
   rw[List.mapM_cons,hx] at h;cases hr:(ls.mapM fun l=>zI l args) with
  |none =>
    obtain⟨y,hy,h3⟩:=zC2 hr;exact⟨y,List.mem_cons_of_mem _ hy,h3⟩
  |some r=>rw[hr] at h;cases h
theorem iZ:zD []=false:=by
 cases h:zD [] with
|false=>rfl
|true=>exact absurd rfl (lZ h)
theorem tU(args:List (List UInt8)):∀ (T:Tm) (b:Nat),(∀ T',T.lvs args=some T'->(T.mapS (xJ1 args) () b).1=T')/\(T.lvs args=none->¬ (T.mapS (xJ1 args) () b).1.Ok)
|.var n,b=>⟨fun T' h=>by cases h;rfl,fun h=>by cases h⟩
|.sort l,b=>by
  cases hx:zI l args with
 |none =>
   refine⟨fun T' h=>?_,fun _ hk=>?_⟩
   ·rw[Tm.lvs,hx] at h;cases h
   ·have h1:zD ((zI l args).getD [])=true:=hk;rw[hx] at h1;exact absurd h1 (by rw[Option.getD_none,iZ];decide)
 |some x =>
   refine⟨fun T' h=>?_,fun h=>?_⟩
   ·rw[Tm.lvs,hx] at h;cases h;show Tm.sort ((zI l args).getD [])=_;rw[hx];rfl
   ·rw[Tm.lvs,hx] at h;cases h
|.const n ls,b=>by
  cases hx:(ls.mapM fun l=>zI l args) with
 |none =>
   refine⟨fun T' h=>?_,fun _ hk=>?_⟩
   ·rw[Tm.lvs,hx] at h;cases h
   ·obtain⟨y,hy,h3⟩:=zC2 hx;have h1:∀ x∈ls.map (fun l=>(zI l args).getD []),zD x=true:=hk.2.2;have h2:=h1 [] (List.mem_map.2 ⟨y,hy,by rw[h3];rfl⟩);rw[iZ] at h2;cases h2
 |some x =>
   refine⟨fun T' h=>?_,fun h=>?_⟩
   ·rw[Tm.lvs,hx] at h;cases h;show Tm.const n (ls.map fun l=>(zI l args).getD [])=_;rw[zC0 hx]
   ·rw[Tm.lvs,hx] at h;cases h
|.app x y,b=>by
  obtain⟨p1,p2⟩:=tU args x b;obtain⟨q1,q2⟩:=tU args y b;simp only[Tm.lvs,Tm.mapS];cases hx:x.lvs args with
 |none=>exact⟨(fun T' h=>by cases h),fun _ hk=>p2 hx hk.1⟩
 |some x' =>
   cases hy:y.lvs args with
  |none=>exact⟨(fun T' h=>by cases h),fun _ hk=>q2 hy hk.2⟩
  |some y'=>exact⟨(fun T' h=>by cases h;rw[p1 _ hx,q1 _ hy]),(fun h=>by cases h)⟩
|.lam x y,b=>by
  obtain⟨p1,p2⟩:=tU args x b;obtain⟨q1,q2⟩:=tU args y (b+1);simp only[Tm.lvs,Tm.mapS];cases hx:x.lvs args with
 |none=>exact⟨(fun T' h=>by cases h),fun _ hk=>p2 hx hk.1⟩
 |some x' =>
   cases hy:y.lvs args with
  |none=>exact⟨(fun T' h=>by cases h),fun _ hk=>q2 hy hk.2⟩
  |some y'=>exact⟨(fun T' h=>by cases h;rw[p1 _ hx,q1 _ hy]),(fun h=>by cases h)⟩
|.pi x y,b=>by
  obtain⟨p1,p2⟩:=tU args x b;obtain⟨q1,q2⟩:=tU args y (b+1);simp only[Tm.lvs,Tm.mapS];cases hx:x.lvs args with
 |none=>exact⟨(fun T' h=>by cases h),fun _ hk=>p2 hx hk.1⟩
 |some x' =>
   cases hy:y.lvs args with
  |none=>exact⟨(fun T' h=>by cases h),fun _ hk=>q2 hy hk.2⟩
  |some y'=>exact⟨(fun T' h=>by cases h;rw[p1 _ hx,q1 _ hy]),(fun h=>by cases h)⟩
|.lett x y z,b=>by
  obtain⟨p1,p2⟩:=tU args x b;obtain⟨q1,q2⟩:=tU args y b;obtain⟨r1,r2⟩:=tU args z (b+1);simp only[Tm.lvs,Tm.mapS];cases hx:x.lvs args with
 |none=>exact⟨(fun T' h=>by cases h),fun _ hk=>p2 hx hk.1⟩
 |some x' =>
   cases hy:y.lvs args with
  |none=>exact⟨(fun T' h=>by cases h),fun _ hk=>q2 hy hk.2.1⟩
  |some y' =>
    cases hz:z.lvs args with
   |none=>exact⟨(fun T' h=>by cases h),fun _ hk=>r2 hz hk.2.2⟩
   |some z'=>exact⟨(fun T' h=>by cases h;rw[p1 _ hx,q1 _ hy,r1 _ hz]),(fun h=>by cases h)⟩
theorem fJ{l:List UInt8}{T:Tm}{args:List (List UInt8)}(hT:qC l T)(ha:args.length<=3):zV l args=vV (some []) (T.mapS (xJ1 args) () 0).1:=by
 obtain⟨h1,h2⟩:=tU args T 0;rw[zV,zY hT];show (if args.length<=3 then _ else _)=_;rw[iP ha];cases hx:T.lvs args with
|none=>rw[(uZ _).2 (fun h=>h2 hx h.1)];rfl
|some T' =>
  rw[h1 _ hx];have hk:=(oA T T' hT.1 hx).1;show (if T'.bytes.length<=2000 then some T'.bytes else none)=_;by_cases hl:T'.bytes.length<=2000
  ·rw[iP hl,(uZ T').1 ⟨hk,hl⟩]
  ·rw[iN hl,(uZ T').2 (fun h=>hl h.2)]
theorem mL(l:List UInt8)(args:List (List UInt8)):(46:UInt8)∉(zI l args).getD []/\(44:UInt8)∉(zI l args).getD []/\((zI l args).getD []).length<=60:=by
 cases hx:zI l args with
|none=>simp
|some x =>
  have h1:=(nU hx).1;exact⟨(uO h1).1,(uO h1).2,(zK h1).1⟩
theorem eW:∀ {ls:List (List UInt8)},(∀ y∈ls,y.length<=60)->(xA ls).length<=ls.length*61
|[],_=>by simp[xA]
|x::r,h=>by
  have h1:=h x List.mem_cons_self;have h2:=eW (ls:=r) fun y hy=>h y (List.mem_cons_of_mem _ hy);simp only[xA,lA,lC];omega
theorem yZ8{args:List (List UInt8)}{B:Nat}:∀ (s:Unit) (t:Tm) (b:Nat),t.OkLeaf B b->(xJ1 args s t b).1.Pre/\(xJ1 args s t b).1.Lim 9999/\(xJ1 args s t b).1.bytes.length<=2000*t.bytes.length:=by
 rintro s t b ⟨hb,⟨n,hn,rfl⟩|⟨l,hl,rfl⟩|⟨n,ls,hk,rfl⟩⟩
 ·exact⟨trivial,(by show n<=9999;omega),by show (Tm.var n).bytes.length<=_;omega⟩
 ·obtain⟨h1,h2,h3⟩:=mL l args;refine⟨h1,trivial,?_⟩;simp only[xJ1,Tm.bytes,lC,lA,List.length_nil];omega
 ·refine⟨⟨qJ hk.1,fun x hx=>?_⟩,trivial,?_⟩
  ·obtain⟨y,_,rfl⟩:=List.mem_map.1 hx;exact⟨(mL y args).1,(mL y args).2.1⟩
  ·have h3:ls.length<=3:=hk.2.1
   have h4:=eW (ls:=ls.map fun l=>(zI l args).getD []) (fun x hx=>by
    obtain⟨y,_,rfl⟩:=List.mem_map.1 hx;exact(mL y args).2.2)
   rw[List.length_map] at h4;have h5:ls.length*61<=183:=(by omega);simp only[xJ1,Tm.bytes,lC,lA,List.length_nil];omega
def jU (s:Nat):List Tm:=(List.range s).map fun i=>.var (s - 1 - i)
theorem zJ0(s:Nat):(jU s).map Tm.bytes=xO s:=by simp[jU,xO,Function.comp_def]
def jJ (n j q s:Nat):Tm:=(Tm.var (n - 1 - j+q+s)).given (jU s)
def sX (k n j q:Nat) (dm:Tm):Tm :=
 Tm.arrows (dm.lift (n - j+q) 0).doms (.app (.var (k+n+q+(dm.lift (n - j+q) 0).doms.length)) (jJ n j q (dm.lift (n - j+q) 0).doms.length))
theorem oT{n:Nat}(h:n<=999):yX (n:Int)=(Tm.var n).bytes:=by
 unfold yX;rw[iP (by omega)];rfl
def zR (k n:Nat):List (Tm × Bool)->Nat->Nat->List Tm->List Tm × Nat
|[],_,q,acc=>(acc,q)
|dm::r,j,q,acc=>if dm.2=true then zR k n r (j+1) (q+1) (acc++[sX k n j q dm.1]) else zR k n r (j+1) q acc
def rL (n q:Nat):List Tm:=(List.range n).map fun j=>.var (n - 1 - j+q)
theorem zQ0{n q:Nat}(h:n+q<=999):(rL n q).map Tm.bytes=xG n q:=by
 simp only[rL,xG,List.map_map];refine List.map_congr_left fun j hj=>?_;rw[List.mem_range] at hj;exact(oT (by omega)).symm
def zC3 (nm:List UInt8) (lv:List (List UInt8)) (n q:Nat):Tm:=(Tm.const nm lv).given (rL n q)
def xH1 (nm:List UInt8) (lv:List (List UInt8)) (k n:Nat) (r:List Tm × Nat):Tm:=Tm.arrows r.1 (.app (.var (k+n+r.2)) (zC3 nm lv n r.2))
def rA (nm:List UInt8) (lv:List (List UInt8)) (k:Nat) (ds:List (Tm × Bool)):Tm:=xH1 nm lv k ds.length (zR k ds.length ds 0 0 (ds.map Prod.fst))
end Go.Proofs.YtcaahdjhbmmcnaaGreatDoor
namespace Go.Proofs.YtcaahdjhbmmcnaaGreatDoor
open Go.ChangeShapes Go.WideShapes Go.ChangeAt Go.RowKit
theorem cZ{T:Tm}(hT:T.Ok)(hl:T.bytes.length<=2000):qC T.bytes T:=⟨hT,rfl,hl⟩
theorem aM{T:Tm}(hT:T.Ok)(hl:T.bytes.length<=2000):yN T.bytes=T.targ.bytes:=by rw[yN,zY (cZ hT hl)]
theorem bQ{T:Tm}(hT:T.Ok)(hl:T.bytes.length<=2000):zJ T.bytes=T.doms.map Tm.bytes:=by rw[zJ,zY (cZ hT hl)]
theorem oU{T:Tm}(hT:T.Ok)(hl:T.bytes.length<=2000):yB T.bytes=true:=by rw[yB,zY (cZ hT hl)];rfl
theorem zT3(ts:List Tm)(a:Tm)(h:a∈ts):a.bytes.length<=(gV ts).length:=by
 induction ts with
|nil=>cases h
|cons x r ih =>
  have e:gV (x::r)=x.bytes++gV r:=(by simp[gV]);rw[e,lA];rcases List.mem_cons.1 h with rfl|h
  ·omega
  ·have:=ih h;omega
theorem zO1{h:Tm}{us:List Tm}(hh:h.Ok)(hu:∀ a∈us,a.Ok)(hl:(h.given us).bytes.length<=2000):yK h.bytes (us.map Tm.bytes)=some (h.given us).bytes:=by
 have hb:=uP us h;have hz:h.bytes.length+us.length+(gV us).length=(h.given us).bytes.length:=by rw[hb];simp;omega
 have e:(us.map Tm.bytes).flatten=gV us:=rfl;rw[yK,iP]
 ·rw[hb,e,List.length_map]
 ·refine⟨oU hh (by omega),fun a ha=>?_,by rw[e,List.length_map];omega⟩;obtain⟨x,hx,rfl⟩:=List.mem_map.1 ha;exact oU (hu x hx) (by have:=zT3 us x hx;omega)
theorem zT2(ts:List Tm):(pR ts).length=ts.length+(gV ts).length:=by
 induction ts with
|nil=>rfl
|cons x r ih =>
  have e:gV (x::r)=x.bytes++gV r:=(by simp[gV]);have e2:pR (x::r)=112::(x.bytes++pR r):=(by simp[pR]);rw[e,e2];simp only[lC,lA,ih];omega
theorem zH7{t:Tm}{ds:List Tm}(ht:t.Ok)(hd:∀ a∈ds,a.Ok)(hl:(Tm.arrows ds t).bytes.length<=2000):zU (ds.map Tm.bytes) t.bytes=some (Tm.arrows ds t).bytes:=by
 have hb:=xI ds t;have hz:t.bytes.length+ds.length+(gV ds).length=(Tm.arrows ds t).bytes.length:=by rw[hb,lA,zT2];omega
 have e:(ds.map Tm.bytes).flatten=gV ds:=rfl;have e2:((ds.map Tm.bytes).map fun d=>112::d).flatten=pR ds:=by simp[pR,Function.comp_def]
 rw[zU,iP]
 ·rw[hb,e2]
 ·refine⟨oU ht (by omega),fun a ha=>?_,by rw[e,List.length_map];omega⟩;obtain⟨x,hx,rfl⟩:=List.mem_map.1 ha;exact oU (hd x hx) (by have:=zT3 ds x hx;omega)
end Go.Proofs.YtcaahdjhbmmcnaaGreatDoor
namespace Go.Proofs.YtcaahdjhbmmcnaaGreatDoor
open Go
def Tm.Good (t:Tm):Prop:=t.Ok/\t.bytes.length<=2000
theorem bL{t:Tm}(h:t.Pre):yB t.bytes=true↔t.Good:=lQ h
theorem rO{t:Tm}(h:t.Good):vV (some []) t=some t.bytes:=(uZ t).1 h
theorem pW{t:Tm}(h:¬ t.Good):vV (some []) t=none:=(uZ t).2 h
theorem lB:∀ (us:List Tm) (h:Tm),(h.given us).Ok↔h.Ok/\∀ a∈us,a.Ok
|[],h=>by simp[Tm.given]
|a::us,h=>by
  have:=lB us (.app h a);show (Tm.given (.app h a) us).Ok↔_;rw[this];constructor
  ·rintro ⟨⟨h1,h2⟩,h3⟩;exact⟨h1,fun x hx=>(List.mem_cons.1 hx).elim (fun e=>e ▸ h2) (h3 x)⟩
  ·rintro ⟨h1,h2⟩;exact⟨⟨h1,h2 a List.mem_cons_self⟩,fun x hx=>h2 x (List.mem_cons_of_mem _ hx)⟩
theorem uV:∀ (ds:List Tm) (t:Tm),(Tm.arrows ds t).Ok↔t.Ok/\∀ a∈ds,a.Ok
|[],t=>by simp[Tm.arrows]
|d::ds,t=>by
  have:=uV ds t;show (d.Ok/\(Tm.arrows ds t).Ok)↔_;rw[this];constructor
  ·rintro ⟨h1,h2,h3⟩;exact⟨h2,fun x hx=>(List.mem_cons.1 hx).elim (fun e=>e ▸ h1) (h3 x)⟩
  ·rintro ⟨h1,h2⟩;exact⟨h2 d List.mem_cons_self,h1,fun x hx=>h2 x (List.mem_cons_of_mem _ hx)⟩
theorem mZ:∀ (us:List Tm) (h:Tm),h.Pre->(∀ a∈us,a.Pre)->(h.given us).Pre
|[],h,k,_=>k
|a::us,h,k,ha=>mZ us (.app h a) ⟨k,ha a List.mem_cons_self⟩ (fun x hx=>ha x (List.mem_cons_of_mem _ hx))
theorem kI:∀ (ds:List Tm) (t:Tm),t.Pre->(∀ a∈ds,a.Pre)->(Tm.arrows ds t).Pre
|[],t,k,_=>k
|d::ds,t,k,ha=>⟨ha d List.mem_cons_self,kI ds t k (fun x hx=>ha x (List.mem_cons_of_mem _ hx))⟩
theorem gH{m:Nat}:∀ (us:List Tm) (h:Tm),h.Lim m->(∀ a∈us,a.Lim m)->(h.given us).Lim m
|[],h,k,_=>k
|a::us,h,k,ha=>gH us (.app h a) ⟨k,ha a List.mem_cons_self⟩ (fun x hx=>ha x (List.mem_cons_of_mem _ hx))
theorem kJ{m:Nat}:∀ (ds:List Tm) (t:Tm),t.Lim m->(∀ a∈ds,a.Lim m)->(Tm.arrows ds t).Lim m
|[],t,k,_=>k
|d::ds,t,k,ha=>⟨ha d List.mem_cons_self,kJ ds t k (fun x hx=>ha x (List.mem_cons_of_mem _ hx))⟩
theorem gG{h:Tm}{us:List Tm}(hh:h.Pre)(hu:∀ a∈us,a.Pre):yK h.bytes (us.map Tm.bytes)=vV (some []) (h.given us):=by
 by_cases hg:(h.given us).Good
 ·have h1:=(lB us h).1 hg.1;rw[rO hg];exact zO1 h1.1 h1.2 hg.2
 ·rw[pW hg,yK,iN];rintro ⟨k1,k2,k3⟩;refine hg ⟨(lB us h).2 ⟨((bL hh).1 k1).1,fun a ha=>((bL (hu a ha)).1 (k2 _ (List.mem_map_of_mem ha))).1⟩,?_⟩;rw[uP];rw[List.length_map] at k3;have e:(us.map Tm.bytes).flatten=gV us:=rfl;rw[e] at k3;simp only[lA,List.length_replicate];omega
theorem kH{t:Tm}{ds:List Tm}(ht:t.Pre)(hd:∀ a∈ds,a.Pre):zU (ds.map Tm.bytes) t.bytes=vV (some []) (Tm.arrows ds t):=by
 by_cases hg:(Tm.arrows ds t).Good
 ·have h1:=(uV ds t).1 hg.1;rw[rO hg];exact zH7 h1.1 h1.2 hg.2
 ·rw[pW hg,zU,iN];rintro ⟨k1,k2,k3⟩;refine hg ⟨(uV ds t).2 ⟨((bL ht).1 k1).1,fun a ha=>((bL (hd a ha)).1 (k2 _ (List.mem_map_of_mem ha))).1⟩,?_⟩;rw[xI];rw[List.length_map] at k3;have e:(ds.map Tm.bytes).flatten=gV ds:=rfl;rw[e] at k3;rw[lA,zT2];omega
theorem zC9{n:List UInt8}{ls:List (List UInt8)}{a:Nat}:∀ (t:Tm) (c:Nat),t.targ=.const n ls->(t.lift a c).targ=.const n ls
|.var _,c,h=>by cases h
|.sort _,c,h=>by cases h
|.const _ _,c,h=>h
|.app _ _,c,h=>by cases h
|.lam _ _,c,h=>by cases h
|.pi f b,c,h=>zC9 b (c+1) h
|.lett _ _ _,c,h=>by cases h
theorem gX:∀ (t:Tm),Tm.arrows t.doms t.targ=t
|.var _=>rfl
|.sort _=>rfl
|.const _ _=>rfl
|.app _ _=>rfl
|.lam _ _=>rfl
|.pi f b=>by
  show Tm.pi f (Tm.arrows b.doms b.targ)=_;rw[gX b]
|.lett _ _ _=>rfl
theorem bP:∀ {t:Tm},t.Pre->∀ a∈t.doms,a.Pre
|.pi f x,k,a,h=>by
  simp only[Tm.doms,List.mem_cons] at h;exact h.elim (fun e=>e ▸ k.1) (fun h=>bP k.2 a h)
|.var _,_,a,h=>by simp[Tm.doms] at h
|.sort _,_,a,h=>by simp[Tm.doms] at h
|.const _ _,_,a,h=>by simp[Tm.doms] at h
|.lam _ _,_,a,h=>by simp[Tm.doms] at h
|.app _ _,_,a,h=>by simp[Tm.doms] at h
|.lett _ _ _,_,a,h=>by simp[Tm.doms] at h
theorem zS9{m:Nat}:∀ {t:Tm},t.Lim m->∀ a∈t.doms,a.Lim m
|.pi f x,k,a,h=>by
  simp only[Tm.doms,List.mem_cons] at h;exact h.elim (fun e=>e ▸ k.1) (fun h=>zS9 k.2 a h)
|.var _,_,a,h=>by simp[Tm.doms] at h
|.sort _,_,a,h=>by simp[Tm.doms] at h
|.const _ _,_,a,h=>by simp[Tm.doms] at h
|.lam _ _,_,a,h=>by simp[Tm.doms] at h
|.app _ _,_,a,h=>by simp[Tm.doms] at h
|.lett _ _ _,_,a,h=>by simp[Tm.doms] at h
theorem zP6{t:Tm}(h:t.Ok):3<=t.bytes.length:=by
 cases t with
|var n=>have:=dN n;simp[Tm.bytes];omega
|sort l=>have:=List.length_pos_iff.2 (lZ h);simp[Tm.bytes];omega
|const n ls=>simp[Tm.bytes];omega
|app a b=>have:=oN a;have:=a.bytes_pos;have:=b.bytes_pos;simp[Tm.bytes];omega
|lam a b=>have:=oN a;have:=a.bytes_pos;have:=b.bytes_pos;simp[Tm.bytes];omega
|pi a b=>have:=oN a;have:=a.bytes_pos;have:=b.bytes_pos;simp[Tm.bytes];omega
|lett a b c=>have:=oN a;have:=b.bytes_pos;have:=c.bytes_pos;simp[Tm.bytes];omega
theorem zG9:∀ (ts:List Tm),(∀ a∈ts,a.Ok)->4*ts.length<=(pR ts).length
|[],_=>Nat.zero_le _
|a::ts,h=>by
  have h1:=zP6 (h a List.mem_cons_self);have h2:=zG9 ts fun x hx=>h x (List.mem_cons_of_mem _ hx);rw[show pR (a::ts)=(112::a.bytes)++pR ts from rfl,lA,lC,lC];omega
theorem oJ{t:Tm}(h:t.Ok)(hl:t.bytes.length<=2000):t.doms.length<=499:=by
 have h1:=zG9 t.doms (Tm.doms_ok h);have h2:=congrArg List.length (tG t);rw[lA] at h2;have:=t.targ.bytes_pos;omega
theorem bY(a b:List Tm):pR (a++b)=pR a++pR b:=by simp[pR]
theorem zX8{dm:Tm}(h:qC dm.bytes dm){a:Nat}(ha:a<=999):lifted dm.bytes (a:Int) 0=vV (some []) (dm.lift a 0):=by
 rw[lifted,zY h];simp only;rw[iP (by omega),Int.toNat_natCast];rfl
theorem aK(s:Nat):∀ a∈jU s,a.Pre:=fun a ha=>by
 obtain⟨i,_,rfl⟩:=List.mem_map.1 ha;trivial
theorem gY(n q:Nat):∀ a∈rL n q,a.Pre:=fun a ha=>by
 obtain⟨i,_,rfl⟩:=List.mem_map.1 ha;trivial
theorem zT9{n:Nat}(h:999<n):yX (n:Int)=[]:=by
 unfold yX;rw[iN (by omega)]
theorem zU6:yB []=false:=by
 rw[yB,yR]
 ·rfl
 ·intro t h;have:=h.2.1;have h2:=t.bytes_pos;rw[this] at h2;simp at h2
theorem zO2(us:List (List UInt8)):yK [] us=none:=by
 rw[yK,iN];rintro ⟨h,_⟩;rw[zU6] at h;cases h
theorem zH2(n j q s:Nat):(jJ n j q s).Pre:=mZ _ _ trivial (aK s)
theorem yC3{k n j q:Nat}{dm:Tm}(h:dm.Pre):(sX k n j q dm).Pre:=kI _ _ ⟨trivial,zH2 _ _ _ _⟩ (bP (Tm.lift_pre _ _ _ h))
open Classical in
theorem yO3{k n j q:Nat}{dm:Tm}(h:qC dm.bytes dm)(ha:n - j+q<=999) :
  rN k n j q dm.bytes=if (dm.lift (n - j+q) 0).Good/\(sX k n j q dm).Good then some (sX k n j q dm).bytes else none:=by
 have hL:=Tm.lift_pre (n - j+q) dm 0 h.1.pre;have hdp:=bP hL;unfold rN;rw[zX8 h ha];by_cases hg:(dm.lift (n - j+q) 0).Good
 ·rw[rO hg];have hdo:zJ (dm.lift (n - j+q) 0).bytes=(dm.lift (n - j+q) 0).doms.map Tm.bytes:=bQ hg.1 hg.2;simp only[hdo,List.length_map];unfold sX;generalize (dm.lift (n - j+q) 0).doms=dd at hdp |-;have hb:(Tm.app (.var (k+n+q+dd.length)) (jJ n j q dd.length)).Pre:=⟨trivial,zH2 _ _ _ _⟩;by_cases hm:n - 1 - j+q+dd.length<=999
  ·rw[oT hm,← zJ0,gG (h:=.var _) trivial (aK _)];show (match vV (some []) (jJ n j q dd.length) with|none=>none|some arg=>_)=_;by_cases hc:(jJ n j q dd.length).Good
   ·rw[rO hc];show zU (dd.map Tm.bytes) (Tm.app (.var (k+n+q+dd.length)) (jJ n j q dd.length)).bytes=_;rw[kH hb hdp];by_cases hs:(Tm.arrows dd (.app (.var (k+n+q+dd.length)) (jJ n j q dd.length))).Good
    ·rw[rO hs,iP ⟨hg,hs⟩]
    ·rw[pW hs,iN (fun hh=>hs hh.2)]
   ·rw[pW hc,iN];rintro ⟨_,h1,h2⟩;have h3:=((uV _ _).1 h1).1;refine hc ⟨h3.2,?_⟩;rw[xI,lA] at h2;simp only[Tm.bytes,lC,lA] at h2;omega
  ·rw[zT9 (by omega),zO2,iN];rintro ⟨_,h1,_⟩;have h3:=((uV _ _).1 h1).1.2;have h4:n - 1 - j+q+dd.length<=999:=((lB _ _).1 h3).1;omega
 ·rw[pW hg,iN (fun hh=>hg hh.1)]
theorem cC{k n:Nat}:∀ (ds:List (Tm × Bool)) (j q:Nat) (acc:List Tm),∃ more,(zR k n ds j q acc).1=acc++more
|[],j,q,acc=>⟨[],by simp[zR]⟩
|(dm,true)::r,j,q,acc=>by
  obtain⟨m,hm⟩:=cC (k:=k) (n:=n) r (j+1) (q+1) (acc++[sX k n j q dm]);refine⟨sX k n j q dm::m,?_⟩;rw[zR,iP rfl,hm];simp
|(dm,false)::r,j,q,acc=>by
  obtain⟨m,hm⟩:=cC (k:=k) (n:=n) r (j+1) q acc;exact⟨m,by rw[zR,iN (by simp),hm]⟩
theorem yP9{k n:Nat}:∀ (ds:List (Tm × Bool)) (j q:Nat) (acc:List Tm),(zR k n ds j q acc).2<=q+ds.length
|[],j,q,acc=>by simp[zR]
|(dm,true)::r,j,q,acc=>by
  have:=yP9 (k:=k) (n:=n) r (j+1) (q+1) (acc++[sX k n j q dm]);rw[zR,iP rfl,lC];simp only;omega
|(dm,false)::r,j,q,acc=>by
  have:=yP9 (k:=k) (n:=n) r (j+1) q acc;rw[zR,iN (by simp),lC];omega
theorem cB{k n:Nat}:∀ (ds:List (Tm × Bool)) (j q:Nat) (acc:List Tm),(∀ p∈ds,p.1.Pre)->(∀ a∈acc,a.Pre)->∀ a∈(zR k n ds j q acc).1,a.Pre
|[],j,q,acc,_,ha=>by simpa [zR] using ha
|(dm,true)::r,j,q,acc,hd,ha=>by
  rw[zR,iP rfl];refine cB r (j+1) (q+1) _ (fun p hp=>hd p (List.mem_cons_of_mem _ hp)) fun a h=>?_;rcases List.mem_append.1 h with h|h
  ·exact ha a h
  ·rw[List.mem_singleton] at h;rw[h];exact yC3 (hd (dm,true) List.mem_cons_self)
|(dm,false)::r,j,q,acc,hd,ha=>by
  rw[zR,iN (by simp)];exact cB r (j+1) q _ (fun p hp=>hd p (List.mem_cons_of_mem _ hp)) ha
theorem zK4{k n:Nat}{sh:List UInt8->Int}{cn:List UInt8}{cl:List (List UInt8)}:∀ (ds:List (Tm × Bool)) (j q:Nat) (acc:List Tm),(∀ p∈ds,sh p.1.bytes=if p.2=true then 1 else 0) ->
  (∀ p∈ds,p.2=true->p.1.targ=.const cn cl)->(∀ p∈ds,p.1.Good/\p.1∈acc)->n+q+ds.length<=999 ->
  yM k n sh (ds.map fun p=>p.1.bytes) j q (acc.map Tm.bytes)=some ((zR k n ds j q acc).1.map Tm.bytes,(zR k n ds j q acc).2) \/
  (yM k n sh (ds.map fun p=>p.1.bytes) j q (acc.map Tm.bytes)=none/\¬ ((∀ a∈(zR k n ds j q acc).1,a.Ok)/\(pR (zR k n ds j q acc).1).length<=2000))
|[],j,q,acc,_,_,_,_=>.inl (by simp[yM,zR])
|(dm,b)::r,j,q,acc,hs,ht,hg,hz=>by
  have h1:=hs (dm,b) List.mem_cons_self;have h2:∀ p∈r,sh p.1.bytes=if p.2=true then 1 else 0:=fun p hp=>hs p (List.mem_cons_of_mem _ hp);have h3:∀ p∈r,p.2=true->p.1.targ=.const cn cl:=fun p hp=>ht p (List.mem_cons_of_mem _ hp);rw[lC] at hz;rw[List.map_cons];cases b
  ·simp only[Bool.false_eq_true,if_false] at h1;have ih:=zK4 (k:=k) (n:=n) r (j+1) q acc h2 h3 (fun p hp=>hg p (List.mem_cons_of_mem _ hp)) (by omega);rw[yM,h1,iN (by omega),iN (by omega),zR,iN (by simp)];exact ih
  ·simp only[if_true] at h1;obtain⟨hdm,hin⟩:=hg (dm,true) List.mem_cons_self;have ih:=zK4 (k:=k) (n:=n) r (j+1) (q+1) (acc++[sX k n j q dm]) h2 h3 (fun p hp=>⟨(hg p (List.mem_cons_of_mem _ hp)).1,List.mem_append_left _ (hg p (List.mem_cons_of_mem _ hp)).2⟩) (by omega);rw[List.map_append,List.map_singleton] at ih;rw[yM,h1,iN (by omega),iP rfl,yO3 ⟨hdm.1,rfl,hdm.2⟩ (by omega),zR,iP rfl];by_cases hc:(dm.lift (n - j+q) 0).Good/\(sX k n j q dm).Good
   ·rw[iP hc];exact ih
   ·rw[iN hc];refine .inr ⟨rfl,fun ⟨k1,k2⟩=>hc ?_⟩;obtain⟨more,hm⟩:=cC (k:=k) (n:=n) r (j+1) (q+1) (acc++[sX k n j q dm]);rw[hm] at k1 k2;have hst:(sX k n j q dm).Ok:=k1 _ (by simp);rw[bY,bY,lA,lA] at k2;have e1:(pR [sX k n j q dm]).length=(sX k n j q dm).bytes.length+1:=(by simp[pR]);have e2:=nB hin;simp only at e2;have hT:=ht (dm,true) List.mem_cons_self rfl;have hLT:=zC9 (a:=n - j+q) dm 0 hT;have e3:=tG (dm.lift (n - j+q) 0);have e4:=congrArg List.length e3;rw[lA,hLT] at e4;have e5:=Tm.targ_len dm;simp only at hT;rw[hT] at e5;have hso:=(uV _ _).1 hst;have e6:=congrArg List.length (xI (dm.lift (n - j+q) 0).doms (.app (.var (k+n+q+(dm.lift (n - j+q) 0).doms.length)) (jJ n j q (dm.lift (n - j+q) 0).doms.length)));rw[lA] at e6;have e7:(sX k n j q dm).bytes.length=(pR (dm.lift (n - j+q) 0).doms).length+(Tm.app (.var (k+n+q+(dm.lift (n - j+q) 0).doms.length)) (jJ n j q (dm.lift (n - j+q) 0).doms.length)).bytes.length:=e6;refine⟨⟨?_,by omega⟩,hst,by omega⟩;rw[← gX (dm.lift (n - j+q) 0),hLT];have hk:=Tm.targ_ok hdm.1;rw[hT] at hk;exact lK _ _ hk hso.2
theorem yF5{sh:List UInt8->Int}{cn nm:List UInt8}{cl lv:List (List UInt8)}{d:Dc}{k:Nat}{t:Tm}{ds:List (Tm × Bool)}(ht:qC (yU d (k:Int)) t)(hd:t.doms=ds.map Prod.fst)
  (hs:∀ p∈ds,sh p.1.bytes=if p.2=true then 1 else 0) (hT:∀ p∈ds,p.2=true->p.1.targ=.const cn cl) (hn:tH d k=nm) (hl:zW d.params.toNat=lv) (hc:(Tm.const nm lv).Ok) (hsh:zS (zM d) d.name=sh) :
  uM d k=vV (some []) (rA nm lv k ds):=by
 have e1:zJ (yU d (k:Int))=ds.map fun p=>p.1.bytes:=by
  rw[zJ,zY ht];simp[hd]
 have hle:t.bytes.length<=2000:=by rw[ht.2.1];exact ht.2.2
 have hdl:=oJ ht.1 hle;rw[hd,List.length_map] at hdl;have hmem:∀ p∈ds,p.1∈t.doms:=fun p hp=>by rw[hd];exact List.mem_map_of_mem hp
 have hgd:∀ p∈ds,p.1.Good:=fun p hp=>⟨Tm.doms_ok ht.1 _ (hmem p hp),by
  have h1:=nB (hmem p hp);have h2:=congrArg List.length (tG t);rw[lA] at h2;omega⟩
 have e2:=zK4 (k:=k) (n:=ds.length) (sh:=sh) ds 0 0 (ds.map Prod.fst) hs hT (fun p hp=>⟨hgd p hp,List.mem_map_of_mem hp⟩) (by omega);rw[List.map_map] at e2;have hq:=yP9 (k:=k) (n:=ds.length) ds 0 0 (ds.map Prod.fst)
 have hp:=cB (k:=k) (n:=ds.length) ds 0 0 (ds.map Prod.fst) (fun p hp=>(hgd p hp).1.pre) (fun a ha=>by
  obtain⟨p,hp,rfl⟩:=List.mem_map.1 ha;exact(hgd p hp).1.pre)
 rw[uM,e1,List.length_map,hsh];rw[show (ds.map fun p=>p.1.bytes)=ds.map (Tm.bytes ∘ Prod.fst) from rfl] at e2 |-;unfold rA;generalize zR k ds.length ds 0 0 (ds.map Prod.fst)=r at *;obtain⟨all,q⟩:=r;simp only at e2 hq hp;have hb:(Tm.app (.var (k+ds.length+q)) (zC3 nm lv ds.length q)).Pre:=⟨trivial,mZ _ _ hc.pre (gY _ _)⟩;rcases e2 with e2|⟨e2,e3⟩
 ·rw[e2];simp only[rT,hn,hl];rw[← zQ0 (by omega),gG hc.pre (gY _ _)];show (match vV (some []) (zC3 nm lv ds.length q) with|none=>none|some made=>_)=_;by_cases hm:(zC3 nm lv ds.length q).Good
  ·rw[rO hm];show zU (all.map Tm.bytes) (Tm.app (.var (k+ds.length+q)) (zC3 nm lv ds.length q)).bytes=_;rw[kH hb hp];rfl
  ·rw[pW hm,pW];rintro ⟨h1,h2⟩;have h3:=((uV _ _).1 h1).1;refine hm ⟨h3.2,?_⟩;rw[xH1,xI,lA] at h2;simp only[Tm.bytes,lC,lA] at h2;omega
 ·rw[e2];show none=_;rw[pW];rintro ⟨h1,h2⟩;refine e3 ⟨((uV _ _).1 h1).2,?_⟩;rw[xH1,xI,lA] at h2;simp only at h2 |-;omega
theorem xK{a m M:Nat}(h:m+a<=M):∀ (t:Tm) (c:Nat),t.Lim m->(t.lift a c).Lim M
|.var n,c,k=>by
  have h2:n<=m:=k;show (if c<=n then n+a else n)<=M;split<;>omega
|.sort _,_,_=>trivial
|.const _ _,_,_=>trivial
|.app x y,c,k=>⟨xK h x c k.1,xK h y c k.2⟩
|.lam x y,c,k=>⟨xK h x c k.1,xK h y (c+1) k.2⟩
|.pi x y,c,k=>⟨xK h x c k.1,xK h y (c+1) k.2⟩
|.lett x y z,c,k=>⟨xK h x c k.1,xK h y c k.2.1,xK h z (c+1) k.2.2⟩
theorem nH:∀ {t:Tm},t.Ok->t.Lim 999
|.var _,h=>h
|.sort _,_=>trivial
|.const _ _,_=>trivial
|.app _ _,h=>⟨nH h.1,nH h.2⟩
|.lam _ _,h=>⟨nH h.1,nH h.2⟩
|.pi _ _,h=>⟨nH h.1,nH h.2⟩
|.lett _ _ _,h=>⟨nH h.1,nH h.2.1,nH h.2.2⟩
theorem nI(a:Nat):∀ (t:Tm) (c:Nat),(t.lift a c).doms.length=t.doms.length
|.var _,_=>rfl
|.sort _,_=>rfl
|.const _ _,_=>rfl
|.app _ _,_=>rfl
|.lam _ _,_=>rfl
|.pi f b,c=>by
  show (b.lift a (c+1)).doms.length+1=b.doms.length+1;rw[nI a b (c+1)]
|.lett _ _ _,_=>rfl
theorem zQ7{us:List Tm}(h:∀ u∈us,∃ n,n<=9999/\u=.var n):(gV us).length<=6*us.length:=by
 induction us with
|nil=>simp[gV]
|cons u us ih =>
  obtain⟨n,hn,rfl⟩:=h u List.mem_cons_self;have h1:=ih fun x hx=>h x (List.mem_cons_of_mem _ hx);have h2:=tO hn;rw[show gV (Tm.var n::us)=(Tm.var n).bytes++gV us from rfl,lA,lC];simp only[Tm.bytes,lC,lA,List.length_nil];omega
theorem aJ{s:Nat}(h:s<=9999):∀ u∈jU s,∃ n,n<=9999/\u=Tm.var n:=fun u hu=>by
 obtain⟨i,_,rfl⟩:=List.mem_map.1 hu;exact⟨_,by omega,rfl⟩
theorem zH8{n q:Nat}(h:n+q<=9999):∀ u∈rL n q,∃ n,n<=9999/\u=Tm.var n:=fun u hu=>by
 obtain⟨i,hi,rfl⟩:=List.mem_map.1 hu;rw[List.mem_range] at hi;exact⟨_,by omega,rfl⟩
theorem zQ6{us:List Tm}(h:∀ u∈us,∃ n,n<=9999/\u=.var n):∀ u∈us,u.Lim 9999:=fun u hu=>by
 obtain⟨n,hn,rfl⟩:=h u hu;exact hn
theorem yK5{n j q s:Nat}(h:n - 1 - j+q+s<=9999)(hs:s<=499):(jJ n j q s).bytes.length<=3499:=by
 have h1:=zQ7 (aJ (s:=s) (by omega));have h2:=tO h;have h3:(jU s).length=s:=by simp[jU]
 rw[jJ,uP];simp only[lA,List.length_replicate,Tm.bytes,lC,List.length_nil];omega
theorem yC4{k n j q:Nat}{dm:Tm}(hd:dm.Good)(ha:n - j+q<=999)(hk:k+n+q<=2000):(sX k n j q dm).Lim 9999/\(sX k n j q dm).bytes.length<=8000:=by
 have hl:=nH hd.1;have h1:=xK (a:=n - j+q) (M:=9999) (by omega) dm 0 hl;have h2:=Tm.lift_len2 (a:=n - j+q) (by omega) dm 0 hl;have hs:(dm.lift (n - j+q) 0).doms.length<=499:=by rw[nI];exact oJ hd.1 hd.2
 have h3:=congrArg List.length (tG (dm.lift (n - j+q) 0));rw[lA] at h3;have hd2:=hd.2;unfold sX;have hdl:=zS9 h1;generalize dm.lift (n - j+q) 0=L at *;have h4:=yK5 (n:=n) (j:=j) (q:=q) (s:=L.doms.length) (by omega) hs;have h5:=tO (n:=k+n+q+L.doms.length) (by omega);constructor
 ·exact kJ _ _ ⟨(by show k+n+q+L.doms.length<=9999;omega),gH _ _ (by show n - 1 - j+q+L.doms.length<=9999;omega) (zQ6 (aJ (by omega)))⟩ hdl
 ·rw[xI,lA];simp only[Tm.bytes,lC,lA,List.length_nil];omega
theorem zK5{k n:Nat}(hk:k<=10):∀ (ds:List (Tm × Bool)) (j q:Nat) (acc:List Tm),(∀ p∈ds,p.1.Good)->n+q+ds.length<=999->(∀ a∈acc,a.Lim 9999) ->
  (∀ a∈(zR k n ds j q acc).1,a.Lim 9999)/\(pR (zR k n ds j q acc).1).length<=(pR acc).length+8001*ds.length
|[],j,q,acc,_,_,ha=>by
  rw[zR];exact⟨ha,by simp⟩
|(dm,true)::r,j,q,acc,hd,hz,ha=>by
  rw[lC] at hz;obtain⟨h1,h2⟩:=yC4 (k:=k) (n:=n) (j:=j) (q:=q) (hd (dm,true) List.mem_cons_self) (by omega) (by omega)
  obtain⟨h3,h4⟩:=zK5 (n:=n) hk r (j+1) (q+1) (acc++[sX k n j q dm]) (fun p hp=>hd p (List.mem_cons_of_mem _ hp)) (by omega) (fun a h=>by
   rcases List.mem_append.1 h with h|h
   ·exact ha a h
   ·rw[List.mem_singleton] at h;rw[h];exact h1)
  rw[zR,iP rfl];refine⟨h3,Nat.le_trans h4 ?_⟩;rw[bY,lA,lC];have e1:(pR [sX k n j q dm]).length=(sX k n j q dm).bytes.length+1:=(by simp[pR]);simp only at h2;omega
|(dm,false)::r,j,q,acc,hd,hz,ha=>by
  rw[lC] at hz;obtain⟨h3,h4⟩:=zK5 (n:=n) hk r (j+1) q acc (fun p hp=>hd p (List.mem_cons_of_mem _ hp)) (by omega) ha;rw[zR,iN (by simp)];refine⟨h3,Nat.le_trans h4 ?_⟩;rw[lC];omega
theorem zX5{k:Nat}(hk:k<=10){nm:List UInt8}{lv:List (List UInt8)}{t:Tm}{ds:List (Tm × Bool)}(ht:t.Good)(hd:t.doms=ds.map Prod.fst)(hc:(Tm.const nm lv).Good) :
  (rA nm lv k ds).Lim 9999/\(rA nm lv k ds).Pre/\(rA nm lv k ds).bytes.length<=100000000:=by
 have hdl:=oJ ht.1 ht.2;have hmem:∀ p∈ds,p.1∈t.doms:=fun p hp=>by rw[hd];exact List.mem_map_of_mem hp
 have hcp:=congrArg List.length (tG t);rw[lA] at hcp
 have hgd:∀ p∈ds,p.1.Good:=fun p hp=>⟨Tm.doms_ok ht.1 _ (hmem p hp),by
  have h1:=nB (hmem p hp);have:=ht.2;omega⟩
 rw[hd,List.length_map] at hdl;have hq:=yP9 (k:=k) (n:=ds.length) ds 0 0 (ds.map Prod.fst)
 have hp:=cB (k:=k) (n:=ds.length) ds 0 0 (ds.map Prod.fst) (fun p hp=>(hgd p hp).1.pre) (fun a ha=>by
  obtain⟨p,hp,rfl⟩:=List.mem_map.1 ha;exact(hgd p hp).1.pre)
 obtain⟨hl,hz⟩:=zK5 (k:=k) (n:=ds.length) hk ds 0 0 (ds.map Prod.fst) hgd (by omega) (fun a ha=>by
  obtain⟨p,hp,rfl⟩:=List.mem_map.1 ha;exact Tm.Ok.lim9 (hgd p hp).1)
 rw[← hd] at hz;unfold rA;rw[← hd] at hq hp hl |-;generalize zR k ds.length ds 0 0 t.doms=r at *;obtain⟨all,q⟩:=r;simp only at hq hp hl hz;have h5:=tO (n:=k+ds.length+q) (by omega);have h6:=zQ7 (zH8 (n:=ds.length) (q:=q) (by omega));have h7:(rL ds.length q).length=ds.length:=by simp[rL]
 have hc2:=hc.2;have ht2:=ht.2;refine⟨?_,?_,?_⟩
 ·exact kJ _ _ ⟨(by show k+ds.length+q<=9999;omega),gH _ _ trivial (zQ6 (zH8 (by omega)))⟩ hl
 ·exact kI _ _ ⟨trivial,mZ _ _ hc.1.pre (gY _ _)⟩ hp
 ·rw[xH1,zC3,xI,lA];simp only[Tm.bytes] at hc2 |-;simp only[lC,lA,List.length_nil,uP,List.length_replicate,Tm.bytes] at hc2 |-;omega
theorem rB{k n:Nat}{sh:List UInt8->Int}:∀ (l:List (List UInt8)) (j q:Nat) (acc:List (List UInt8)),(∃ x∈l,sh x=2)->yM k n sh l j q acc=none
|[],_,_,_,⟨x,hx,_⟩=>by cases hx
|a::l,j,q,acc,⟨x,hx,h2⟩=>by
  rw[yM];by_cases ha:sh a=2
  ·rw[iP ha]
  ·rw[iN ha];have hx':∃ x∈l,sh x=2:=by
    rcases List.mem_cons.1 hx with rfl|hx
    ·exact absurd h2 ha
    ·exact⟨x,hx,h2⟩
   split
   ·split
    ·rfl
    ·exact rB l _ _ _ hx'
   ·exact rB l _ _ _ hx'
theorem zX4{d:Dc}{k:Nat}(hc:xS d (k:Int)=true)(h:(2:Int)∈yS d (k:Int)):uM d k=none:=by
 rw[yS,iP hc] at h;obtain⟨x,hx,h2⟩:=List.mem_map.1 h;rw[uM,rB _ _ _ _ ⟨x,hx,h2⟩];rfl
theorem oM{nm:List UInt8}{n:Nat}(h:zN nm=true)(hn:n<=3):(Tm.const nm (zW n)).Good:=by
 have h0:=tB hn;have h1:=uI h;have hl:∀ x∈zW n,zD x=true:=by
  have h0:Lib.decDigits 0=[48]:=Lib.decDigits_one (by decide);have h1:Lib.decDigits 1=[49]:=Lib.decDigits_one (by decide);have h2:Lib.decDigits 2=[50]:=Lib.decDigits_one (by decide);intro x hx;obtain⟨i,hi,rfl⟩:=List.mem_map.1 hx;rw[List.mem_range] at hi;have e:i=0\/i=1\/i=2:=(by omega);rcases e with rfl|rfl|rfl
  ·rw[h0];simp[zD,xW]
  ·rw[h1];simp[zD,xW]
  ·rw[h2];simp[zD,xW]
 refine⟨⟨h,by rw[uN];exact hn,hl⟩,?_⟩;simp only[Tm.bytes,lC,lA,List.length_nil];omega
theorem zX3{d:Dc}{k:Nat}(hr:yT d (k:Int)=true)(hb:¬ (2:Int)∈yS d (k:Int)) :
  ∃ (t:Tm) (ds:List (Tm × Bool)),qC (yU d (k:Int)) t/\t.doms=ds.map Prod.fst/\yS d (k:Int)=(ds.map fun p=>if p.2=true then (1:Int) else 0) /\
   uM d k=vV (some []) (rA (tH d k) (zW d.params.toNat) k ds)/\ds.length<=499/\(∀ p∈ds,p.1.Ok/\p.1.bytes.length<=2000)/\(Tm.const (tH d k) (zW d.params.toNat)).Good:=by
 have hc:=pB hr;obtain⟨_,hlt,hdt⟩:=tE hc;have hlt':k<d.ctors.length:=by omega
 simp only[xD,Bool.and_eq_true,decide_eq_true_eq] at hdt;obtain⟨hk4,hok⟩:=hdt;have hself:zM d=(Tm.const d.name (zW d.params.toNat)).bytes:=by rw[zM,iP hok]
 have hpar:=xF hok;have hnm:zN d.name=true:=by simp only[zT,Bool.and_eq_true] at hok;exact hok.1
 have hsg:=oM (n:=d.params.toNat) hnm (by omega);have hcn:zN (tH d k)=true:=by
  rw[gT hlt'];simp only[zT,Bool.and_eq_true,vH,hk4] at hok;have h1:=hok.2.2.2.2;rw[iN (by omega),iN (by omega),iP trivial] at h1;simp only[vI,Bool.and_eq_true] at h1;have h2:=h1.2.2.2.2.2.2;simp only[xB,decide_eq_true_eq] at h2;have h3:=(h2 k hlt' hlt').1;simp only[jE,gF,Bool.and_eq_true] at h3;exact h3.1.1
 have hcg:=oM (n:=d.params.toNat) hcn (by omega);have hres:yN (yU d (k:Int))=zM d:=by
  simp only[yT,Bool.and_eq_true,decide_eq_true_eq] at hr;exact hr.2
 cases hto:vQ (yU d (k:Int)) with
|none =>
  rw[yN,hto,hself] at hres;have:=congrArg List.length hres;simp[Tm.bytes] at this
|some t =>
  have ht:=vF hto;have hle:t.bytes.length<=2000:=(by rw[ht.2.1];exact ht.2.2);have hdo:zJ (yU d (k:Int))=t.doms.map Tm.bytes:=(by rw[zJ,hto]);have hcp:=congrArg List.length (tG t);rw[lA] at hcp
  have hgd:∀ a∈t.doms,a.Good:=fun a ha=>⟨Tm.doms_ok ht.1 _ ha,by
   have h1:=nB ha;omega⟩
  have hsh:yS d (k:Int)=t.doms.map fun a=>zS (zM d) d.name a.bytes:=by
   rw[yS,iP hc,hdo,List.map_map];rfl
  have hne:∀ a∈t.doms,zS (zM d) d.name a.bytes≠2:=fun a ha e=>hb (by
   rw[hsh];exact List.mem_map.2 ⟨a,ha,e⟩)
  have hin:∀ a∈t.doms,zS (zM d) d.name a.bytes=if (decide (zS (zM d) d.name a.bytes=1))=true then 1 else 0:=fun a ha=>by
   have h1:=zQ1 (zM d) d.name a.bytes;have h2:=hne a ha;by_cases h3:zS (zM d) d.name a.bytes=1
   ·rw[iP (by simpa using h3)];exact h3
   ·rw[iN (by simpa using h3)];omega
  have hfs:(t.doms.map fun a=>(a,decide (zS (zM d) d.name a.bytes=1))).map Prod.fst=t.doms:=by
   rw[List.map_map];exact List.map_id _
  refine⟨t,t.doms.map fun a=>(a,decide (zS (zM d) d.name a.bytes=1)),ht,hfs.symm,?_,?_,?_,?_,hcg⟩
  ·rw[hsh,List.map_map];refine List.map_congr_left fun a ha=>?_;exact hin a ha
  ·refine yF5 (sh:=zS (zM d) d.name) (cn:=d.name) (cl:=zW d.params.toNat) ht hfs.symm ?_ ?_ rfl rfl hcg.1 rfl
   ·intro p hp;obtain⟨a,ha,rfl⟩:=List.mem_map.1 hp;exact hin a ha
   ·intro p hp hp2;obtain⟨a,ha,rfl⟩:=List.mem_map.1 hp;simp only[decide_eq_true_eq] at hp2;have hg:=hgd a ha;have h3:yN a.bytes=zM d:=by
     unfold zS at hp2;split at hp2
     ·split at hp2
      ·split at hp2
       ·cases hp2
       ·split at hp2
        ·assumption
        ·cases hp2
      ·cases hp2
     ·cases hp2
    rw[aM hg.1 hg.2,hself] at h3;exact(Tm.uniq _ _ [] [] (Tm.targ_ok hg.1) hsg.1 (by rw[h3])).1
  ·rw[List.length_map];exact oJ ht.1 hle
  ·intro p hp;obtain⟨a,ha,rfl⟩:=List.mem_map.1 hp;exact hgd a ha
end Go.Proofs.YtcaahdjhbmmcnaaGreatDoor
