/- FLvM VPut FLv HMath -/
import Derived.Lib.AppendStr
import Derived.Lib.Builder
import Derived.Test.YtcaahdjhbmmcnaaGreatDoorYF1
import Derived.Test.YtcaahdjhbmmcnaaGreatDoorYE2
import Derived.Test.YtcaahdjhbmmcnaaGreatDoorYE1
import Derived.Test.YtcaahdjhbmmcnaaGreatDoorYV1
import Derived.Test.YtcaahdjhbmmcnaaGreatDoorYMK
import Derived.Test.YtcaahdjhbmmcnaaGreatDoorYP1
import Derived.Test.YtcaahdjhbmmcnaaGreatDoorYKA
set_option maxRecDepth 100000
set_option maxHeartbeats 16000000
set_option linter.unusedSimpArgs false
set_option linter.unusedVariables false
namespace Go.Proofs.YtcaahdjhbmmcnaaGreatDoor
open Go.ChangeShapes Go.WideShapes Go.ChangeAt Go.RowKit
def ParIn (m:Nat) (l:List UInt8):Prop:=∀ p d q,l=p ++ 117 :: d :: q->d.toNat - 47<=m
theorem ParIn.tail {m:Nat} {a l:List UInt8} (h:ParIn m (a ++ l)):ParIn m l:=fun p d q e=>h (a ++ p) d q (by rw [e,List.append_assoc])
theorem ParIn.of {l:List UInt8} (h:levelOk l=true):ParIn (levelParams l) l:=fun p d q e=>by
 have h1:=parF_ge l 0 p.length (by rw [e];simp) (by simp [e]);rw [levelParams,iP h];simpa [e] using h1
theorem putF_lv {args:List (List UInt8)} (ha:∀ x∈args,levelOk x=true):∀ (t:Lv) (r:List UInt8),ParIn args.length (t.bytes ++ r)->∃ t':Lv,putF args (t.bytes ++ r)=t'.bytes ++ putF args r
 | .z,r,_=>⟨.z,putF_step args (by decide) r⟩
 | .up t,r,h=>by
  obtain ⟨t',e⟩:=putF_lv ha t r (ParIn.tail (a:=[43]) h);exact ⟨.up t',by rw [Lv.bytes,List.cons_append,putF_step args (by decide),e];rfl⟩
 | .mx a b,r,h=>by
  have h1:ParIn args.length (a.bytes ++ (b.bytes ++ r)):=ParIn.tail (a:=[109]) (by simpa [Lv.bytes] using h);obtain ⟨a',ea⟩:=putF_lv ha a (b.bytes ++ r) h1;obtain ⟨b',eb⟩:=putF_lv ha b r h1.tail;exact ⟨.mx a' b',by rw [Lv.bytes,List.cons_append,putF_step args (by decide),List.append_assoc,ea,eb];simp [Lv.bytes]⟩
 | .im a b,r,h=>by
  have h1:ParIn args.length (a.bytes ++ (b.bytes ++ r)):=ParIn.tail (a:=[105]) (by simpa [Lv.bytes] using h);obtain ⟨a',ea⟩:=putF_lv ha a (b.bytes ++ r) h1;obtain ⟨b',eb⟩:=putF_lv ha b r h1.tail;exact ⟨.im a' b',by rw [Lv.bytes,List.cons_append,putF_step args (by decide),List.append_assoc,ea,eb];simp [Lv.bytes]⟩
 | .par k,r,h=>by
  have h1:=h [] (UInt8.ofNat (48+k.val)) r (by simp [Lv.bytes]);have hk:=(Lv.par_byte k).2.2;have h0:=(Lv.par_byte k).1;have hlt:k.val < args.length:=(by omega);have hx:args.getD k.val []=args[k.val]:=(by simp [List.getD,hlt]);obtain ⟨t',e⟩:=level_tree (ha args[k.val] (List.getElem_mem hlt));refine ⟨t',?_⟩;rw [Lv.bytes,List.cons_append,List.cons_append,putF_par,hk,hx,e];rfl
theorem levelPut_ok {l r:List UInt8} {args:List (List UInt8)} (h:levelPut l args=some r):levelOk r=true/\args.length<=3:=by
 unfold levelPut at h;split at h
 ·rename_i hc;injection h with h;subst h;obtain ⟨h1,h2,h3,h4,h5⟩:=hc;obtain ⟨t,rfl⟩:=level_tree h1
  obtain ⟨t',e⟩:=putF_lv (r:=[]) h4 t (by
   rw [List.append_nil];intro p d q e;exact Nat.le_trans (ParIn.of h1 p d q e) h3)
  rw [List.append_nil,putF_nil,List.append_nil] at e;rw [e] at h5 |-;exact ⟨tree_ok t' h5,h2⟩
 ·cases h
def SameN (nd nd':Nd):Prop:=nd'.kind=nd.kind/\nd'.a=nd.a/\nd'.b=nd.b/\nd'.c=nd.c/\nd'.num=nd.num
def UpdT (W':World) (B':Nat) (args:List (List UInt8)) (nd nd':Nd):Tm->Prop
 | .sort l=>SameN nd nd'/\levelPut l args=some nd'.text
 | .const _ ls=>SameN nd nd'/\nd'.text=nd.text/\∃ ls',(ls.mapM fun l=>levelPut l args)=some ls'/\W'.ownsRow B' 9 1 nd'.lv ls'.length (ls'.map sv)
 | _=>SameN nd nd'
theorem rep_upd {W W':World} {B B':Nat} {ns ns':List Nd} {args:List (List UInt8)}:∀ (T:Tm) (k:Nat),RepP W B ns k T ->
  (∀ (i:Nat) (u:Tm),T.post[i]?=some u->∃ nd nd',ns[k+1 - T.size+i]?=some nd/\ns'[k+1 - T.size+i]?=some nd'/\UpdT W' B' args nd nd' u) ->
  ∃ T',T.lvs args=some T'/\RepT W' B' ns' k T'
 | .var n,k,h,hu=>by
  obtain ⟨nd,h1,h2⟩:=h.1;obtain ⟨nd1,nd',g1,g2,g3⟩:=hu 0 _ rfl;rw [show k+1 - (Tm.var n).size+0=k from rfl] at g1 g2;obtain rfl:nd=nd1:=Option.some.inj (h1.symm.trans g1);obtain ⟨s1,s2,s3,s4,s5⟩:SameN nd nd':=g3;exact ⟨.var n,rfl,nd',g2,s1.trans h2.1,s5.trans h2.2.1⟩
 | .sort l,k,h,hu=>by
  obtain ⟨nd,h1,h2⟩:=h.1;obtain ⟨nd1,nd',g1,g2,⟨s1,_⟩,g3⟩:=hu 0 _ rfl;rw [show k+1 - (Tm.sort l).size+0=k from rfl] at g1 g2;obtain rfl:nd=nd1:=Option.some.inj (h1.symm.trans g1);exact ⟨.sort nd'.text,by rw [Tm.lvs,g3];rfl,nd',g2,s1.trans h2.1,rfl⟩
 | .const n ls,k,h,hu=>by
  obtain ⟨nd,h1,h2⟩:=h.1;obtain ⟨nd1,nd',g1,g2,⟨s1,_⟩,g3,ls',g4,g5⟩:=hu 0 _ rfl;rw [show k+1 - (Tm.const n ls).size+0=k from rfl] at g1 g2;obtain rfl:nd=nd1:=Option.some.inj (h1.symm.trans g1);exact ⟨.const n ls',by rw [Tm.lvs,g4];rfl,nd',g2,s1.trans h2.1,g3.trans h2.2.1,g5⟩
 | .app f a,k,h,hu=>by
  have hsz:=h.at.1;obtain ⟨⟨nd,h1,h2,h3,h4⟩,⟨nd2,g1,g0,g2,g3,g4,g5⟩⟩:=h;obtain rfl:nd=nd2:=Option.some.inj (h1.symm.trans g1);have l1:=f.post_len;have l2:=a.post_len;have hT:(Tm.app f a).size=f.size+a.size+1:=rfl;have z1:=f.size_pos;have z2:=a.size_pos;have y1:=(RepP.at f nd.a ⟨h3,g4⟩).1;have y2:=(RepP.at a nd.b ⟨h4,g5⟩).1
  obtain ⟨f',e1,r1⟩:=rep_upd f nd.a ⟨h3,g4⟩ (fun i u hi=>by
   have hlt:i < f.post.length:=(List.getElem?_eq_some_iff.1 hi).1;have:=hu i u (by rw [Tm.post,List.getElem?_append_left hlt];exact hi)
   rwa [show k+1 - (Tm.app f a).size+i=nd.a+1 - f.size+i by omega] at this)
  obtain ⟨a',e2,r2⟩:=rep_upd a nd.b ⟨h4,g5⟩ (fun i u hi=>by
   have hlt:i < a.post.length:=(List.getElem?_eq_some_iff.1 hi).1;have:=hu (f.size+i) u (by rw [Tm.post,List.getElem?_append_right (by omega),show f.size+i - f.post.length=i by omega,List.getElem?_append_left hlt];exact hi)
   rwa [show k+1 - (Tm.app f a).size+(f.size+i)=nd.b+1 - a.size+i by omega] at this)
  obtain ⟨nd1,nd',x1,x2,x3⟩:=hu (f.size+a.size) (Tm.app f a) (by rw [Tm.post,List.getElem?_append_right (by omega),List.getElem?_append_right (by omega),show f.size+a.size - f.post.length - a.post.length=0 by omega];rfl);rw [show k+1 - (Tm.app f a).size+(f.size+a.size)=k by omega] at x1 x2;obtain rfl:nd=nd1:=Option.some.inj (h1.symm.trans x1);obtain ⟨s1,s2,s3,s4,s5⟩:SameN nd nd':=x3;exact ⟨.app f' a',by rw [Tm.lvs,e1,e2];rfl,nd',x2,s1.trans h2,by rw [s2];exact r1,by rw [s3];exact r2⟩
 | .lam f a,k,h,hu=>by
  have hsz:=h.at.1;obtain ⟨⟨nd,h1,h2,h3,h4⟩,⟨nd2,g1,g0,g2,g3,g4,g5⟩⟩:=h;obtain rfl:nd=nd2:=Option.some.inj (h1.symm.trans g1);have l1:=f.post_len;have l2:=a.post_len;have hT:(Tm.lam f a).size=f.size+a.size+1:=rfl;have z1:=f.size_pos;have z2:=a.size_pos;have y1:=(RepP.at f nd.a ⟨h3,g4⟩).1;have y2:=(RepP.at a nd.b ⟨h4,g5⟩).1
  obtain ⟨f',e1,r1⟩:=rep_upd f nd.a ⟨h3,g4⟩ (fun i u hi=>by
   have hlt:i < f.post.length:=(List.getElem?_eq_some_iff.1 hi).1;have:=hu i u (by rw [Tm.post,List.getElem?_append_left hlt];exact hi)
   rwa [show k+1 - (Tm.lam f a).size+i=nd.a+1 - f.size+i by omega] at this)
  obtain ⟨a',e2,r2⟩:=rep_upd a nd.b ⟨h4,g5⟩ (fun i u hi=>by
   have hlt:i < a.post.length:=(List.getElem?_eq_some_iff.1 hi).1;have:=hu (f.size+i) u (by rw [Tm.post,List.getElem?_append_right (by omega),show f.size+i - f.post.length=i by omega,List.getElem?_append_left hlt];exact hi)
   rwa [show k+1 - (Tm.lam f a).size+(f.size+i)=nd.b+1 - a.size+i by omega] at this)
  obtain ⟨nd1,nd',x1,x2,x3⟩:=hu (f.size+a.size) (Tm.lam f a) (by rw [Tm.post,List.getElem?_append_right (by omega),List.getElem?_append_right (by omega),show f.size+a.size - f.post.length - a.post.length=0 by omega];rfl);rw [show k+1 - (Tm.lam f a).size+(f.size+a.size)=k by omega] at x1 x2;obtain rfl:nd=nd1:=Option.some.inj (h1.symm.trans x1);obtain ⟨s1,s2,s3,s4,s5⟩:SameN nd nd':=x3;exact ⟨.lam f' a',by rw [Tm.lvs,e1,e2];rfl,nd',x2,s1.trans h2,by rw [s2];exact r1,by rw [s3];exact r2⟩
 | .pi f a,k,h,hu=>by
  have hsz:=h.at.1;obtain ⟨⟨nd,h1,h2,h3,h4⟩,⟨nd2,g1,g0,g2,g3,g4,g5⟩⟩:=h;obtain rfl:nd=nd2:=Option.some.inj (h1.symm.trans g1);have l1:=f.post_len;have l2:=a.post_len;have hT:(Tm.pi f a).size=f.size+a.size+1:=rfl;have z1:=f.size_pos;have z2:=a.size_pos;have y1:=(RepP.at f nd.a ⟨h3,g4⟩).1;have y2:=(RepP.at a nd.b ⟨h4,g5⟩).1
  obtain ⟨f',e1,r1⟩:=rep_upd f nd.a ⟨h3,g4⟩ (fun i u hi=>by
   have hlt:i < f.post.length:=(List.getElem?_eq_some_iff.1 hi).1;have:=hu i u (by rw [Tm.post,List.getElem?_append_left hlt];exact hi)
   rwa [show k+1 - (Tm.pi f a).size+i=nd.a+1 - f.size+i by omega] at this)
  obtain ⟨a',e2,r2⟩:=rep_upd a nd.b ⟨h4,g5⟩ (fun i u hi=>by
   have hlt:i < a.post.length:=(List.getElem?_eq_some_iff.1 hi).1;have:=hu (f.size+i) u (by rw [Tm.post,List.getElem?_append_right (by omega),show f.size+i - f.post.length=i by omega,List.getElem?_append_left hlt];exact hi)
   rwa [show k+1 - (Tm.pi f a).size+(f.size+i)=nd.b+1 - a.size+i by omega] at this)
  obtain ⟨nd1,nd',x1,x2,x3⟩:=hu (f.size+a.size) (Tm.pi f a) (by rw [Tm.post,List.getElem?_append_right (by omega),List.getElem?_append_right (by omega),show f.size+a.size - f.post.length - a.post.length=0 by omega];rfl);rw [show k+1 - (Tm.pi f a).size+(f.size+a.size)=k by omega] at x1 x2;obtain rfl:nd=nd1:=Option.some.inj (h1.symm.trans x1);obtain ⟨s1,s2,s3,s4,s5⟩:SameN nd nd':=x3;exact ⟨.pi f' a',by rw [Tm.lvs,e1,e2];rfl,nd',x2,s1.trans h2,by rw [s2];exact r1,by rw [s3];exact r2⟩
 | .lett f a b,k,h,hu=>by
  have hsz:=h.at.1;obtain ⟨⟨nd,h1,h2,h3,h4,h5⟩,⟨nd2,g1,g0,g2,g3,g4,g5,g6,g7⟩⟩:=h;obtain rfl:nd=nd2:=Option.some.inj (h1.symm.trans g1);have l1:=f.post_len;have l2:=a.post_len;have l3:=b.post_len;have hT:(Tm.lett f a b).size=f.size+a.size+b.size+1:=rfl;have z1:=f.size_pos;have z2:=a.size_pos;have z3:=b.size_pos;have y1:=(RepP.at f nd.a ⟨h3,g5⟩).1;have y2:=(RepP.at a nd.b ⟨h4,g6⟩).1;have y3:=(RepP.at b nd.c ⟨h5,g7⟩).1
  obtain ⟨f',e1,r1⟩:=rep_upd f nd.a ⟨h3,g5⟩ (fun i u hi=>by
   have hlt:i < f.post.length:=(List.getElem?_eq_some_iff.1 hi).1;have:=hu i u (by rw [Tm.post,List.getElem?_append_left hlt];exact hi)
   rwa [show k+1 - (Tm.lett f a b).size+i=nd.a+1 - f.size+i by omega] at this)
  obtain ⟨a',e2,r2⟩:=rep_upd a nd.b ⟨h4,g6⟩ (fun i u hi=>by
   have hlt:i < a.post.length:=(List.getElem?_eq_some_iff.1 hi).1;have:=hu (f.size+i) u (by rw [Tm.post,List.getElem?_append_right (by omega),show f.size+i - f.post.length=i by omega,List.getElem?_append_left hlt];exact hi)
   rwa [show k+1 - (Tm.lett f a b).size+(f.size+i)=nd.b+1 - a.size+i by omega] at this)
  obtain ⟨b',e3,r3⟩:=rep_upd b nd.c ⟨h5,g7⟩ (fun i u hi=>by
   have hlt:i < b.post.length:=(List.getElem?_eq_some_iff.1 hi).1;have:=hu (f.size+a.size+i) u (by rw [Tm.post,List.getElem?_append_right (by omega),List.getElem?_append_right (by omega),show f.size+a.size+i - f.post.length - a.post.length=i by omega,List.getElem?_append_left hlt];exact hi)
   rwa [show k+1 - (Tm.lett f a b).size+(f.size+a.size+i)=nd.c+1 - b.size+i by omega] at this)
  obtain ⟨nd1,nd',x1,x2,x3⟩:=hu (f.size+a.size+b.size) (Tm.lett f a b) (by rw [Tm.post,List.getElem?_append_right (by omega),List.getElem?_append_right (by omega),List.getElem?_append_right (by omega),show f.size+a.size+b.size - f.post.length - a.post.length - b.post.length=0 by omega];rfl);rw [show k+1 - (Tm.lett f a b).size+(f.size+a.size+b.size)=k by omega] at x1 x2;obtain rfl:nd=nd1:=Option.some.inj (h1.symm.trans x1);obtain ⟨s1,s2,s3,s4,s5⟩:SameN nd nd':=x3;exact ⟨.lett f' a' b',by rw [Tm.lvs,e1,e2,e3];rfl,nd',x2,s1.trans h2,by rw [s2];exact r1,by rw [s3];exact r2,by rw [s4];exact r3⟩
def PutsOk (args:List (List UInt8)):Tm->Prop
 | .sort l=>∃ r,levelPut l args=some r
 | .const _ ls=>∃ r,(ls.mapM fun l=>levelPut l args)=some r
 | _=>True
theorem lvs_post {args:List (List UInt8)}:∀ (T T':Tm),T.lvs args=some T'->∀ u∈T.post,PutsOk args u
 | .var n,_,_,u,hu=>by simp [Tm.post] at hu;subst hu;trivial
 | .sort l,_,h,u,hu=>by
  simp [Tm.post] at hu;subst hu;obtain ⟨r,hr,_⟩:=Option.map_eq_some_iff.1 (show (levelPut l args).map Tm.sort=some _ from h);exact ⟨r,hr⟩
 | .const n ls,_,h,u,hu=>by
  simp [Tm.post] at hu;subst hu;obtain ⟨r,hr,_⟩:=Option.map_eq_some_iff.1 (show (ls.mapM fun l=>levelPut l args).map (Tm.const n)=some _ from h);exact ⟨r,hr⟩
 | .app f a,_,h,u,hu=>by
  obtain ⟨f',hf,h2⟩:=Option.bind_eq_some_iff.1 (show (Tm.lvs args f).bind (fun f'=>(Tm.lvs args a).map (Tm.app f'))=some _ from h);obtain ⟨a',ha,_⟩:=Option.map_eq_some_iff.1 h2;simp only [Tm.post,List.mem_append,List.mem_singleton] at hu;rcases hu with hu | hu | rfl
  ·exact lvs_post f f' hf u hu
  ·exact lvs_post a a' ha u hu
  ·trivial
 | .lam f a,_,h,u,hu=>by
  obtain ⟨f',hf,h2⟩:=Option.bind_eq_some_iff.1 (show (Tm.lvs args f).bind (fun f'=>(Tm.lvs args a).map (Tm.lam f'))=some _ from h);obtain ⟨a',ha,_⟩:=Option.map_eq_some_iff.1 h2;simp only [Tm.post,List.mem_append,List.mem_singleton] at hu;rcases hu with hu | hu | rfl
  ·exact lvs_post f f' hf u hu
  ·exact lvs_post a a' ha u hu
  ·trivial
 | .pi f a,_,h,u,hu=>by
  obtain ⟨f',hf,h2⟩:=Option.bind_eq_some_iff.1 (show (Tm.lvs args f).bind (fun f'=>(Tm.lvs args a).map (Tm.pi f'))=some _ from h);obtain ⟨a',ha,_⟩:=Option.map_eq_some_iff.1 h2;simp only [Tm.post,List.mem_append,List.mem_singleton] at hu;rcases hu with hu | hu | rfl
  ·exact lvs_post f f' hf u hu
  ·exact lvs_post a a' ha u hu
  ·trivial
 | .lett f a b,_,h,u,hu=>by
  obtain ⟨f',hf,h2⟩:=Option.bind_eq_some_iff.1 (show (Tm.lvs args f).bind (fun f'=>(Tm.lvs args a).bind fun a'=>(Tm.lvs args b).map (Tm.lett f' a'))=some _ from h);obtain ⟨a',ha,h3⟩:=Option.bind_eq_some_iff.1 h2;obtain ⟨b',hb,_⟩:=Option.map_eq_some_iff.1 h3;simp only [Tm.post,List.mem_append,List.mem_singleton] at hu;rcases hu with hu | hu | hu | rfl
  ·exact lvs_post f f' hf u hu
  ·exact lvs_post a a' ha u hu
  ·exact lvs_post b b' hb u hu
  ·trivial
theorem mapM_puts {args:List (List UInt8)}:∀ {ls r:List (List UInt8)},(ls.mapM fun l=>levelPut l args)=some r->r.length=ls.length/\∀ x∈r,levelOk x=true
 | [],r,h=>by simp at h;subst h;simp
 | l :: ls,r,h=>by
  rw [List.mapM_cons] at h;obtain ⟨x,hx,h2⟩:=Option.bind_eq_some_iff.1 h;obtain ⟨r',hr,h3⟩:=Option.bind_eq_some_iff.1 h2;cases h3;obtain ⟨k1,k2⟩:=mapM_puts hr;refine ⟨by simp [k1],fun y hy=>?_⟩;rcases List.mem_cons.1 hy with rfl | hy
  ·exact (levelPut_ok hx).1
  ·exact k2 y hy
theorem lvsB_61:∀ {ls:List (List UInt8)},(∀ y∈ls,levelOk y=true)->(lvsB ls).length<=ls.length*61/\ls.length*2<=(lvsB ls).length
 | [],_=>by simp [lvsB]
 | x :: r,h=>by
  have h0:=h x List.mem_cons_self;have h1:=(levelOk_len h0).1;have h3:1<=x.length:=List.length_pos_iff.2 (levelOk_ne h0);have h2:=lvsB_61 (ls:=r) fun y hy=>h y (List.mem_cons_of_mem _ hy);simp only [lvsB,lA,lC];omega
theorem lvs_ok {args:List (List UInt8)}:∀ (T T':Tm),T.Ok->T.lvs args=some T'->T'.Ok/\T'.bytes.length<=31*T.bytes.length
 | .var n,_,hk,h=>by
  cases (show some (Tm.var n)=some _ from h);exact ⟨hk,by omega⟩
 | .sort l,_,hk,h=>by
  obtain ⟨r,hr,rfl⟩:=Option.map_eq_some_iff.1 (show (levelPut l args).map Tm.sort=some _ from h);have h1:=(levelPut_ok hr).1;refine ⟨h1,?_⟩;have h2:=(levelOk_len h1).1;simp only [Tm.bytes,lC,lA,List.length_nil];omega
 | .const n ls,_,hk,h=>by
  obtain ⟨r,hr,rfl⟩:=Option.map_eq_some_iff.1 (show (ls.mapM fun l=>levelPut l args).map (Tm.const n)=some _ from h);obtain ⟨h1,h2⟩:=mapM_puts hr;refine ⟨⟨hk.1,by rw [h1];exact hk.2.1,h2⟩,?_⟩;have k1:=(lvsB_61 h2).1;have k2:=(lvsB_61 hk.2.2).2;simp only [Tm.bytes,lC,lA,List.length_nil];omega
 | .app f a,_,hk,h=>by
  obtain ⟨f',hf,h2⟩:=Option.bind_eq_some_iff.1 (show (Tm.lvs args f).bind (fun f'=>(Tm.lvs args a).map (Tm.app f'))=some _ from h);obtain ⟨a',ha,rfl⟩:=Option.map_eq_some_iff.1 h2;obtain ⟨k1,k2⟩:=lvs_ok f f' hk.1 hf;obtain ⟨k3,k4⟩:=lvs_ok a a' hk.2 ha;refine ⟨⟨k1,k3⟩,?_⟩;simp only [Tm.bytes,lC,lA];omega
 | .lam f a,_,hk,h=>by
  obtain ⟨f',hf,h2⟩:=Option.bind_eq_some_iff.1 (show (Tm.lvs args f).bind (fun f'=>(Tm.lvs args a).map (Tm.lam f'))=some _ from h);obtain ⟨a',ha,rfl⟩:=Option.map_eq_some_iff.1 h2;obtain ⟨k1,k2⟩:=lvs_ok f f' hk.1 hf;obtain ⟨k3,k4⟩:=lvs_ok a a' hk.2 ha;refine ⟨⟨k1,k3⟩,?_⟩;simp only [Tm.bytes,lC,lA];omega
 | .pi f a,_,hk,h=>by
  obtain ⟨f',hf,h2⟩:=Option.bind_eq_some_iff.1 (show (Tm.lvs args f).bind (fun f'=>(Tm.lvs args a).map (Tm.pi f'))=some _ from h);obtain ⟨a',ha,rfl⟩:=Option.map_eq_some_iff.1 h2;obtain ⟨k1,k2⟩:=lvs_ok f f' hk.1 hf;obtain ⟨k3,k4⟩:=lvs_ok a a' hk.2 ha;refine ⟨⟨k1,k3⟩,?_⟩;simp only [Tm.bytes,lC,lA];omega
 | .lett f a b,_,hk,h=>by
  obtain ⟨f',hf,h2⟩:=Option.bind_eq_some_iff.1 (show (Tm.lvs args f).bind (fun f'=>(Tm.lvs args a).bind fun a'=>(Tm.lvs args b).map (Tm.lett f' a'))=some _ from h);obtain ⟨a',ha,h3⟩:=Option.bind_eq_some_iff.1 h2;obtain ⟨b',hb,rfl⟩:=Option.map_eq_some_iff.1 h3;obtain ⟨k1,k2⟩:=lvs_ok f f' hk.1 hf;obtain ⟨k3,k4⟩:=lvs_ok a a' hk.2.1 ha;obtain ⟨k5,k6⟩:=lvs_ok b b' hk.2.2 hb;refine ⟨⟨k1,k3,k5⟩,?_⟩;simp only [Tm.bytes,lC,lA];omega
noncomputable def termLevels (l:List UInt8) (args:List (List UInt8)):Option (List UInt8):=match termOf l with
 | some T=>if args.length<=3 then (T.lvs args).bind fun T'=>if T'.bytes.length<=2000 then some T'.bytes else none else none
 | none=>none
theorem specLevelPut (s:ByteArray) {w:World} {b:Nat} {v:Value} {args:List (List UInt8)} (h:w.ownsRow b 9 1 v args.length (args.map sv)) (hs:s.size<=maxLen) (hx:∀ x∈args,x.length<=maxLen) (hn:args.length<=10000000) :
  Rt 60 #[.string s,v] w (putRes (levelPut s.data.toList args)):=by
 obtain ⟨a0,cap,rfl⟩:=own_sliceV h;have f1:=Ld fun W=>specLevelOk s W hs;have f2:=Ld fun W=>specLevelParams s W hs;have hls:s.data.toList.length=s.size:=rfl;by_cases hok:levelOk s.data.toList=true;rotate_left
 ·have HE:Hid (levelPut s.data.toList args=none):=iN fun hc=>hok hc.1;rw [Bool.not_eq_true] at hok;rw [hok] at f1;clear hok h hls f2;go_enter Tryz.func60,Tryz.ntmps60;go_wp2_with fail;(with_reducible refine mo (f1.out _) ?_);rintro w1 rfl;go_wp2;go_ret2;rw [HE.out];exact ⟨rfl,bR _ _⟩
 have h60:=(levelOk_len hok).1;rw [hls] at h60;have HP:=Ld (lend_par_at s.data.toList 1 (levelOk_len hok).2);have hpar:levelParams s.data.toList=parF 0 s.data.toList:=iP hok;have HOK:=Ld hok;rw [hok] at f1;clear hok hls;by_cases h3:args.length<=3;rotate_left
 ·have HE:Hid (levelPut s.data.toList args=none):=iN fun hc=>h3 hc.2.1;have d1:decide ((3:Int) < (args.length:Int))=true:=dT (by omega);clear h f2 hpar HP;go_enter Tryz.func60,Tryz.ntmps60;go_wp2_with fail;(with_reducible refine mo (f1.out _) ?_);rintro w1 rfl;go_wp2;go_ret2;rw [HE.out];exact ⟨rfl,bR _ _⟩
 have d1:decide ((3:Int) < (args.length:Int))=false:=dF (by omega);by_cases h4:levelParams s.data.toList<=args.length;rotate_left
 ·have HE:Hid (levelPut s.data.toList args=none):=iN fun hc=>h4 hc.2.2.1;have d2:decide ((args.length:Int) < (levelParams s.data.toList:Int))=true:=dT (by omega);clear h hpar HP;go_enter Tryz.func60,Tryz.ntmps60;go_wp2_with fail;(with_reducible refine mo (f1.out _) ?_);rintro w1 rfl;go_wp2_with fail;(with_reducible refine mo (f2.out _) ?_);rintro w1 rfl;go_wp2;go_ret2;rw [HE.out];exact ⟨rfl,bR _ _⟩
 have d2:decide ((args.length:Int) < (levelParams s.data.toList:Int))=false:=dF (by omega);have d2n:decide (args.length < levelParams s.data.toList)=false:=dF (by omega);have HG:=Ld (parF_ge s.data.toList 0);rw [← hpar] at HG;clear hpar;have f3:=Ld fun (x:List UInt8) (hm:x∈args) W=>specLevelOk ⟨x.toArray⟩ W (by simpa [ByteArray.size] using hx x hm);simp only at f3;go_enter Tryz.func60,Tryz.ntmps60;go_wp2_with fail;(with_reducible refine mo (f1.out _) ?_);rintro w1 rfl;go_wp2_with fail;(with_reducible refine mo (f2.out _) ?_);rintro w1 rfl;clear f1 f2;go_wp2;go_loopw [6] (fun i wr=>∃ k:Nat,k<=args.length/\i=.int .i64 k/\wr=w1/\Hid (∀ j (hj:j < args.length),j < k->levelOk args[j]=true)) (fun i _=>args.length - (intOf i).toNat)
 case atStart=>exact ⟨0,Nat.zero_le _,rfl,rfl,fun j _ hj=>by omega⟩
 case round =>
  obtain ⟨k,hk,rfl,rfl,HA⟩:=hrel;by_cases hlt:k < args.length
  ·obtain ⟨g,cap',e0,_,hgl⟩:=h.form (by omega);cases e0;have ex:(args.map sv)[k]?=some (sv args[k]):=(by simp [hlt]);have cc:=(h.cellAt k (by omega)).trans ex;unfold sv at cc;have q1:=zn k;have q2:(k:Int) < (args.length:Int):=(by omega);have g3:=Ld (f3.out args[k] (List.getElem_mem hlt));have HB:Hid (levelOk args[k]=false->levelPut s.data.toList args=none):=fun hb=>iN fun hc=>by
    have:=hc.2.2.2.1 args[k] (List.getElem_mem hlt);rw [hb] at this;cases this
   have HA2:Hid (levelOk args[k]=true->∀ j (hj:j < args.length),j < k+1->levelOk args[j]=true):=fun hb j hj hjk=>if e:j=k then by subst e;exact hb else HA.out j hj (by omega)
   clear ex HA f3;generalize levelOk args[k]=ok at g3 HB HA2;generalize args[k]=x at cc g3;cases ok
   ·have HE:=Ld (HB.out rfl);clear HB HA2;go_wp2_with fail;(with_reducible refine mo (g3.out _) ?_);rintro w2 rfl;go_wp2;go_ret2;rw [HE.out];exact ⟨rfl,bR _ _⟩
   ·have HN:=Ld (HA2.out rfl);clear HB HA2;go_wp2_with fail;(with_reducible refine mo (g3.out _) ?_);rintro w2 rfl;go_wp2;go_roundw
    case rel=>exact ⟨k+1,by omega,by go_num,trivial,HN.out⟩
    case measure=>simp [intOf];omega
  ·rename World=>wz
   have hke:args.length<=k:=(by omega);have hall:∀ x∈args,levelOk x=true:=fun x hm=>by
    obtain ⟨j,hj,e⟩:=List.getElem_of_mem hm;rw [← e];exact HA.out j hj (by omega)
   have HL:Hid (∀ x∈args,x.length<=60):=fun x hm=>(levelOk_len (hall x hm)).1;have HY:Hid ((putF args s.data.toList).length<=60->levelPut s.data.toList args=some (putF args s.data.toList)):=fun hc=>iP ⟨HOK.out,h3,h4,hall,hc⟩;have HN:Hid (¬ (putF args s.data.toList).length<=60->levelPut s.data.toList args=none):=fun hc=>iN fun h5=>hc h5.2.2.2.2;have dk:decide ((k:Int) < (args.length:Int))=false:=dF (by omega);obtain ⟨i0,hi,hz0,hz1,hz2⟩:=info_parts info8;clear HA hall f3;go_wp2;go_loopw [7,8] (fun vo i wq=>∃ (p:Nat) (out:List UInt8),p<=s.size/\out.length<=60*p/\i=.int .i64 p/\wq.ownsRow wz.heap.size 5 1 vo out.length (out.map bv)/\Below wz.heap.size wz wq/\Hid (out ++ putF args (s.data.toList.drop p)=putF args s.data.toList)) (fun _ i _=>s.size - (intOf i).toNat)
   case atStart=>exact ⟨0,[],Nat.zero_le _,nR _,rfl,World.ownsRow_lit wz #[] 0 (nR _) (by decide) (by simp),(bR _ _).alloc (nR _) _,rfl⟩
   case round =>
    obtain ⟨p,out,hp,hol,rfl,hown,hbel,HR⟩:=hrel;have hz:=hbel.size;have hl:=hown.lt;by_cases hlt2:p < s.size
    ·have hll:p < s.data.toList.length:=hlt2;have q1:=zn p;have q2:(p:Int) < (s.size:Int):=(by omega);by_cases c1:s[p]=117
     ·have e1:((s[p].toNat:Int) == 117)=true:=is_byte c1;obtain ⟨hj,b1,b2⟩:=HP.out p hll c1;have hj':p+1 < s.size:=hj;have hge:=HG.out p hj c1;have b1':48<=s[p+1].toNat:=b1;have b2':s[p+1].toNat<=50:=b2;have hge':s[p+1].toNat - 47<=levelParams s.data.toList:=hge;have q3:(0:Int)<=(p:Int)+1:=(by omega);have q4:(p:Int)+1 < (s.size:Int):=(by omega);obtain ⟨d,hd⟩:∃ d,s[p+1].toNat=d+48:=⟨s[p+1].toNat - 48,by omega⟩;have hda:d < args.length:=(by omega);obtain ⟨g,cap',e0,_,hgl⟩:=h.form (by omega);cases e0;have ex:(args.map sv)[d]?=some (sv args[d]):=(by simp [hda]);have cc:=(hbel.cell (p:=⟨g,d,none⟩) hgl).trans ((h.cellAt d (by omega)).trans ex);unfold sv at cc;have q5:=zn d;have q6:(d:Int) < (args.length:Int):=(by omega);have e3:IntKind.i64.wrap ((s[p+1].toNat:Int))=(d:Int)+48:=(by rw [hd];exact IntWalk.i64_in _ (by omega));have e4:IntKind.i64.wrap ((d:Int)+48 - 48)=(d:Int):=(by rw [show (d:Int)+48 - 48=(d:Int) by omega];exact IntWalk.i64_in _ (by omega));have hxl:=HL.out args[d] (List.getElem_mem hda);have HS:=Ld (putF_atPar (args:=args) hj c1);have hget:args.getD (s.data.toList[p+1].toNat - 48) []=args[d]:=by
       have:s.data.toList[p+1].toNat - 48=d:=(by show s[p+1].toNat - 48=d;omega);rw [this];simp [hda]
      rw [hget] at HS;have HR2:Hid ((out ++ args[d]) ++ putF args (s.data.toList.drop (p+2))=putF args s.data.toList):=(by rw [Hid,List.append_assoc,← HS.out,HR.out]);clear HS HR ex hget hge b1 b2;generalize args[d]=x at cc hxl HR2;go_wp2_with (at_builtin;refine Lib.wpList_append_own_string _ rfl _ _ 97 9 rfl wz.heap.size 5 i0 Tryz.underlying97 Tryz.underlying9 hi hz0 hz1 hz2 _ _ _ rfl hown ⟨x.toArray⟩ rfl (by simp only [maxLen,ByteArray.size,List.size_toArray];omega) (by simp only [ByteArray.size,List.size_toArray];omega) hz ?_;intro v1 w2 hown1 hgrow hat);rw [strCells_bv,← List.map_append] at hown1;go_roundw
      case rel=>exact ⟨p+2,out ++ x,by omega,by simp;omega,by go_num,by simpa [ByteArray.size] using hown1,hbel.grown hgrow hz (fun q hq=>(hl q hq).1),HR2.out⟩
      case measure=>simp [intOf];omega
     ·have e1:((s[p].toNat:Int) == 117)=false:=ne_byte c1;have HS:=Ld (putF_at (args:=args) hll c1);have HR2:Hid ((out ++ [s[p]]) ++ putF args (s.data.toList.drop (p+1))=putF args s.data.toList):=by
       rw [Hid,List.append_assoc];exact (congrArg (out ++ ·) HS.out.symm).trans HR.out
      clear HS HR c1;go_wp2_with (at_builtin;refine wpList_append_own _ rfl _ _ 97 rfl wz.heap.size 5 i0 _ 1 1 Tryz.underlying97 hi hz0 hz1 hz2 rfl (by decide) _ _ _ rfl (hown.alloc _) ⟨_,0,none⟩ 1 1 [.int .u8 (s[p].toNat:Int)] rfl rfl (oneNew _ _ _) (by simp [Value.oneCell']) (by simp only [maxLen];omega) (by omega) (by simp;omega) ?_;intro v1 w2 hown1 hgrow hat);go_roundw
      case rel=>exact ⟨p+1,out ++ [s[p]],by omega,by simp;omega,by go_num,by simpa [bv] using hown1,(hbel.alloc hz _).grown hgrow (by simp;omega) (fun q hq=>(hl q hq).1),HR2.out⟩
      case measure=>simp [intOf];omega
    ·have hE:out=putF args s.data.toList:=by
      have:=HR.out;rw [List.drop_eq_nil_of_le (by show s.size<=p;omega),putF_nil,List.append_nil] at this;exact this
     have dp:decide ((p:Int) < (s.size:Int))=false:=dF (by omega);rw [← hE] at HY HN;have hcv:=conv_own _ Tryz.underlying97 Tryz.underlying5 Tryz.underlying9 hown;obtain ⟨ao,co,rfl⟩:∃ a c,u7=.slice a out.length c:=by
      rcases hown.2 with ⟨rfl,e⟩ | ⟨g,cap,cur,rfl,_⟩
      ·exact ⟨_,_,by rw [e]⟩
      ·exact ⟨_,_,rfl⟩
     clear hE HR hown;by_cases h6:out.length<=60
     ·have HE:=Ld (HY.out h6);have d6:decide ((60:Int) < (out.length:Int))=false:=dF (by omega);go_wp2;go_ret2;rw [HE.out];exact ⟨rfl,hbel⟩
     ·have HE:=Ld (HN.out h6);have d6:decide ((60:Int) < (out.length:Int))=true:=dT (by omega);go_wp2;go_ret2;rw [HE.out];exact ⟨rfl,hbel⟩
theorem postOk:∀ (T:Tm),T.Ok->∀ u∈T.post,u.Ok
 | .var n,h,u,hu=>by simp [Tm.post] at hu;subst hu;exact h
 | .sort l,h,u,hu=>by simp [Tm.post] at hu;subst hu;exact h
 | .const n ls,h,u,hu=>by simp [Tm.post] at hu;subst hu;exact h
 | .app f a,h,u,hu=>by
  simp only [Tm.post,List.mem_append,List.mem_singleton] at hu;rcases hu with hu | hu | rfl
  ·exact postOk f h.1 u hu
  ·exact postOk a h.2 u hu
  ·exact h
 | .lam f a,h,u,hu=>by
  simp only [Tm.post,List.mem_append,List.mem_singleton] at hu;rcases hu with hu | hu | rfl
  ·exact postOk f h.1 u hu
  ·exact postOk a h.2 u hu
  ·exact h
 | .pi f a,h,u,hu=>by
  simp only [Tm.post,List.mem_append,List.mem_singleton] at hu;rcases hu with hu | hu | rfl
  ·exact postOk f h.1 u hu
  ·exact postOk a h.2 u hu
  ·exact h
 | .lett f a b,h,u,hu=>by
  simp only [Tm.post,List.mem_append,List.mem_singleton] at hu;rcases hu with hu | hu | hu | rfl
  ·exact postOk f h.1 u hu
  ·exact postOk a h.2.1 u hu
  ·exact postOk b h.2.2 u hu
  ·exact h
theorem flatN_set {j:Nat} (hj:j < 7) (u:Value):∀ (cur:List Nd) (k:Nat) (nd nd':Nd),cur[k]?=some nd->nd'.cells=nd.cells.set j u->(flatN cur).set (k*7+j) u=flatN (cur.set k nd')
 | [],k,nd,nd',h,_=>by simp at h
 | n :: cur,0,nd,nd',h,e=>by
  simp at h;subst h;unfold flatN;rw [List.set_cons_zero,List.flatMap_cons,List.flatMap_cons,e,Nat.zero_mul,Nat.zero_add,List.set_append_left _ _ (by rw [cells_len];exact hj)]
 | n :: cur,k+1,nd,nd',h,e=>by
  have ih:=flatN_set hj u cur k nd nd' (by simpa using h) e;unfold flatN at ih |-;rw [List.set_cons_succ,List.flatMap_cons,List.flatMap_cons,List.set_append_right _ _ (by rw [cells_len];omega),cells_len,show (k+1)*7+j - 7=k*7+j by omega,ih]
structure LSt (w W wr:World) (B b g cap:Nat) (av:Value) (args:List (List UInt8)) (P:List Tm) (ns cur:List Nd) (k:Nat):Prop where
 len:cur.length=ns.length
 row:wr.ownsRow B 94 7 (.slice (some ⟨g,0,none⟩) ns.length cap) ns.length (flatN cur)
 rest:∀ i,k<=i->cur[i]?=ns[i]?
 done:∀ i u,i < k->P[i]?=some u->∃ nd nd',ns[i]?=some nd/\cur[i]?=some nd'/\UpdT wr B args nd nd' u
 sl:∀ nd∈cur,∃ a n c,nd.lv=.slice a n c
 strs:KeepS B W wr
 arg:wr.ownsRow b 9 1 av args.length (args.map sv)
 below:Below B w wr
 sz:B<=wr.heap.size
structure LSm (w W wr:World) (B b g cap:Nat) (av:Value) (args:List (List UInt8)) (P:List Tm) (ns cur:List Nd) (k:Nat) (nd:Nd):Prop where
 len:cur.length=ns.length
 row:wr.ownsRow B 94 7 (.slice (some ⟨g,0,none⟩) ns.length cap) ns.length (flatN cur)
 rest:∀ i,k < i->cur[i]?=ns[i]?
 here:cur[k]?=some nd
 done:∀ i u,i < k->P[i]?=some u->∃ nd nd',ns[i]?=some nd/\cur[i]?=some nd'/\UpdT wr B args nd nd' u
 sl:∀ nd∈cur,∃ a n c,nd.lv=.slice a n c
 strs:KeepS B W wr
 arg:wr.ownsRow b 9 1 av args.length (args.map sv)
 below:Below B w wr
 sz:B<=wr.heap.size
theorem UpdT.keep {W W':World} {B:Nat} {args:List (List UInt8)} {nd nd':Nd} {u:Tm} (h:UpdT W B args nd nd' u) (hk:KeepS B W W'):UpdT W' B args nd nd' u:=by
 cases u with
 | const n ls=>obtain ⟨h1,h2,ls',h3,h4⟩:=h;exact ⟨h1,h2,ls',h3,hk _ _ _ h4⟩
 | _=>exact h
section
variable {w W wr wr':World} {B b g cap k:Nat} {av:Value} {args:List (List UInt8)} {P:List Tm} {ns cur:List Nd} {nd:Nd}
theorem LSt.at (h:LSt w W wr B b g cap av args P ns cur k) (hk:ns[k]?=some nd):LSm w W wr B b g cap av args P ns cur k nd := ⟨h.len,h.row,fun i hi=>h.rest i (by omega),(h.rest k (nR _)).trans hk,h.done,h.sl,h.strs,h.arg,h.below,h.sz⟩
theorem LSm.keep (h:LSm w W wr B b g cap av args P ns cur k nd) (hb:Below wr.heap.size wr wr'):LSm w W wr' B b g cap av args P ns cur k nd := ⟨h.len,own_below h.row hb,h.rest,h.here,fun i u hi hu=>by
  obtain ⟨x,y,h1,h2,h3⟩:=h.done i u hi hu;exact ⟨x,y,h1,h2,h3.keep fun _ _ _ hr=>own_below hr hb⟩,h.sl,fun v n xs hv=>own_below (h.strs v n xs hv) hb,own_below h.arg hb,h.below.trans (hb.mono h.sz),Nat.le_trans h.sz hb.size⟩
theorem LSm.put (h:LSm w W wr B b g cap av args P ns cur k nd) {j:Nat} (hj:j < 7) {u:Value} {nd':Nd} (hc:nd'.cells=nd.cells.set j u) (hlv:∃ a n c,nd'.lv=.slice a n c) :
  LSm w W (wr.setCell ⟨g,k*7+j,none⟩ u) B b g cap av args P ns (cur.set k nd') k nd'/\wr.grownBy (wr.setCell ⟨g,k*7+j,none⟩ u) (some g)/\KeepS B wr (wr.setCell ⟨g,k*7+j,none⟩ u):=by
 obtain ⟨h1,hg⟩:=h.row.stored (k*7+j) u;rw [flatN_set hj u cur k nd nd' h.here hc] at h1;have hks:∀ (b:Nat) (v:Value) (n:Nat) (xs:List Value),wr.ownsRow b 9 1 v n xs->(wr.setCell ⟨g,k*7+j,none⟩ u).ownsRow b 9 1 v n xs:=fun b v n xs hv=>own_other hv h.row (by decide) hg;have hkl:k < cur.length:=(List.getElem?_eq_some_iff.1 h.here).1;refine ⟨⟨by rw [List.length_set];exact h.len,h1,fun i hi=>by rw [List.getElem?_set_ne (by omega)];exact h.rest i hi,by rw [List.getElem?_set_self hkl],fun i x hi hx=>?_,fun x hx=>?_,fun v n xs hv=>hks B v n xs (h.strs v n xs hv),hks _ _ _ _ h.arg,h.below.grown hg h.sz (fun q hq=>by injection hq with hq;subst hq;exact (h.row.lt _ rfl).1),Nat.le_trans h.sz hg.size⟩,hg,fun v n xs hv=>hks B v n xs hv⟩
 ·obtain ⟨x1,y1,k1,k2,k3⟩:=h.done i x hi hx;exact ⟨x1,y1,k1,by rw [List.getElem?_set_ne (by omega)];exact k2,k3.keep fun v n xs hv=>hks B v n xs hv⟩
 ·rcases List.mem_or_eq_of_mem_set hx with hx | rfl
  ·exact h.sl x hx
  ·exact hlv
theorem LSm.next {nd0:Nd} {u:Tm} (h:LSm w W wr B b g cap av args P ns cur k nd) (h0:ns[k]?=some nd0) (hP:P[k]?=some u) (hu:UpdT wr B args nd0 nd u):LSt w W wr B b g cap av args P ns cur (k+1) := ⟨h.len,h.row,fun i hi=>h.rest i (by omega),fun i x hi hx=>by
  by_cases e:i=k
  ·subst e;rw [hP] at hx;cases hx;exact ⟨nd0,nd,h0,h.here,hu⟩
  ·exact h.done i x (by omega) hx,h.sl,h.strs,h.arg,h.below,h.sz⟩
end
theorem own_baseL {W:World} {b b' z n:Nat} {e:TypeId} {v:Value} {xs:List Value} (h:W.ownsRow b e z v n xs) (hb:b'<=b):W.ownsRow b' e z v n xs:=by
 refine ⟨h.1,?_⟩;rcases h.2 with h1 | ⟨g,cap,cur,h1,h2,h3⟩
 ·exact .inl h1
 ·exact .inr ⟨g,cap,cur,h1,Nat.le_trans hb h2,h3⟩
theorem mapM_bad {args:List (List UInt8)}:∀ {ls:List (List UInt8)} {j:Nat} (h:j < ls.length),levelPut ls[j] args=none->(ls.mapM fun l=>levelPut l args)=none
 | l :: ls,0,_,e=>by
  rw [List.mapM_cons];simp only [List.getElem_cons_zero] at e;rw [e];rfl
 | l :: ls,j+1,h,e=>by
  have ih:=mapM_bad (ls:=ls) (j:=j) (by simpa using h) (by simpa using e);rw [List.mapM_cons,ih];cases levelPut l args<;>rfl
theorem mapM_take {args ls:List (List UInt8)} {j:Nat} {rr:List (List UInt8)} {x:List UInt8} (h:j < ls.length) (h1:((ls.take j).mapM fun l=>levelPut l args)=some rr) (h2:levelPut ls[j] args=some x):((ls.take (j+1)).mapM fun l=>levelPut l args)=some (rr ++ [x]):=by
 rw [List.take_succ_eq_append_getElem h,List.mapM_append,h1];simp [h2]
theorem node_case (u:Tm):(∃ l,u=.sort l)\/(∃ nm ls,u=.const nm ls)\/(u.kind≠115/\u.lvOf=[]/\∀ W B args nd nd',SameN nd nd'->UpdT W B args nd nd' u):=by
 cases u with
 | sort l=>exact .inl ⟨l,rfl⟩
 | const nm ls=>exact .inr (.inl ⟨nm,ls,rfl⟩)
 | _=>exact .inr (.inr ⟨by simp [Tm.kind],rfl,fun _ _ _ _ _ h=>h⟩)
theorem specTermLevels (s:ByteArray) {w:World} {b:Nat} {av:Value} {args:List (List UInt8)} (h:w.ownsRow b 9 1 av args.length (args.map sv)) (hs:s.size<=maxLen) (hx:∀ x∈args,x.length<=maxLen) (hn:args.length<=10000000) :
  Rt 36 #[.string s,av] w (putRes (termLevels s.data.toList args)):=by
 obtain ⟨aa,ac,rfl⟩:=own_sliceV h;have f1:=Ld (specL06AllP s w hs);obtain ⟨i0,hi,hz0,hz1,hz2'⟩:=info_parts infoStr;have HARG:=Ld h;have FP:Hid (∀ (l:List UInt8) (wr:World),l.length<=60->wr.ownsRow b 9 1 (.slice aa args.length ac) args.length (args.map sv)->Rt 60 #[.string ⟨l.toArray⟩,.slice aa args.length ac] wr (putRes (levelPut l args))):=fun l wr hl ha=>specLevelPut ⟨l.toArray⟩ ha (by show l.length<=_;unfold maxLen;omega) hx hn;clear h hs hx;go_enter Tryz.func36,Tryz.ntmps36;go_wp2_with fail;(with_reducible refine f1.out.mono ?_);rintro e W ⟨v,ns,rfl,hrow,hb,hsl,hall⟩;have HB:=Ld hb;have hzW:=hb.size;rcases hall with ⟨t,ht,hnt,hr⟩ | ⟨hno,rfl⟩;rotate_left
 ·obtain ⟨la,lc,rfl⟩:=own_sliceN hrow;have HE:Hid (termLevels s.data.toList args=none):=(by rw [Hid,termLevels,termOf_none hno]);clear hrow hno hb f1 hsl FP;go_wp2;go_ret2;rw [HE.out];exact ⟨rfl,HB.out⟩
 have hsz:=t.size_pos;obtain ⟨g,cap,rfl,hgB,hgl⟩:=hrow.form (by omega);have d0:((ns.length:Int) == 0)=false:=beq_eq_false_iff_ne.2 (by omega);by_cases h3:args.length<=3;rotate_left
 ·have HE:Hid (termLevels s.data.toList args=none):=(by rw [Hid,termLevels,termOf_some ht];exact iN h3);have d1:decide ((3:Int) < (args.length:Int))=true:=dT (by omega);clear hrow hb f1 hsl FP ht hr;go_wp2;go_ret2;rw [HE.out];exact ⟨rfl,HB.out⟩
 have d1:decide ((3:Int) < (args.length:Int))=false:=dF (by omega);have hszl:=t.size_le;have hle:=ht.2.2;rw [← ht.2.1] at hle;have HTL:Hid (termLevels s.data.toList args=(t.lvs args).bind fun T'=>if T'.bytes.length<=2000 then some T'.bytes else none):=by rw [Hid,termLevels,termOf_some ht];exact iP h3
 have HLO:Hid (∀ T',t.lvs args=some T'->T'.Ok/\T'.bytes.length<=62000):=fun T' hT=>by
  obtain ⟨k1,k2⟩:=lvs_ok t T' ht.1 hT;exact ⟨k1,by omega⟩
 have HPO:Hid (∀ T',t.lvs args=some T'->∀ u∈t.post,PutsOk args u):=fun T' hT=>lvs_post t T' hT;have HREP:Hid (∀ (wr:World) (cur:List Nd),(∀ (i:Nat) (u:Tm),t.post[i]?=some u->∃ nd nd',ns[i]?=some nd/\cur[i]?=some nd'/\UpdT wr w.heap.size args nd nd' u)->∃ T',t.lvs args=some T'/\RepT wr w.heap.size cur (ns.length - 1) T'):=fun wr cur hu =>
  rep_upd t (ns.length - 1) hr fun i u hi=>by
   rw [show ns.length - 1+1 - t.size+i=i by omega];exact hu i u hi
 have HPN:Hid (∀ (i:Nat) (u:Tm),t.post[i]?=some u->∃ nd,ns[i]?=some nd/\NodeIs W w.heap.size nd u):=fun i u hu=>by
  obtain ⟨nd,p,q⟩:=(hr.at).2 i u hu;exact ⟨nd,by rw [show i=ns.length - 1+1 - t.size+i by omega];exact p,q⟩
 have HPK:Hid (∀ u∈t.post,u.Ok):=postOk t ht.1;have hPl:t.post.length=ns.length:=by rw [t.post_len,hnt]
 have hPl1:t.post.length<=ns.length:=by omega
 have hPl2:ns.length<=t.post.length:=by omega
 have hn2:ns.length<=2000:=by omega
 have hn1:1<=ns.length:=by omega
 have h0:LSt w W W w.heap.size b g cap (.slice aa args.length ac) args t.post ns ns 0:=⟨rfl,hrow,fun _ _=>rfl,fun i u hi _=>by omega,hsl,KeepS.refl _ _,own_below HARG.out hb,hb,hzW⟩;have H0:=Ld h0;generalize t.post=P at HPO HREP HPN HPK hPl hPl1 hPl2 H0;clear hrow hb hsl ht hr hnt hsz hszl hle f1 h0 hPl h3 HARG;go_wp2;go_loopw [7] (fun i wr=>∃ (k:Nat) (cur:List Nd),k<=ns.length/\i=.int .i64 k/\LSt w W wr w.heap.size b g cap (.slice aa args.length ac) args P ns cur k) (fun i _=>ns.length - (intOf i).toNat)
 case atStart=>exact ⟨0,ns,Nat.zero_le _,rfl,H0.out⟩
 case round =>
  obtain ⟨k,cur,hk,rfl,hst⟩:=hrel;by_cases hlt:k < ns.length;rotate_left
  ·have hkk:k=ns.length:=(by omega);obtain ⟨T',hT,hrep⟩:=HREP.out wr cur (fun i u hu=>hst.done i u (by have:=(List.getElem?_eq_some_iff.1 hu).1;omega) hu);obtain ⟨k1,k2⟩:=HLO.out T' hT;have hrow2:wr.ownsRow w.heap.size 94 7 (.slice (some ⟨g,0,none⟩) ns.length cap) cur.length (flatN cur):=(by rw [hst.len];exact hst.row);have f5:=Ld (specL06TextT (ns:=cur) (by rw [hst.len];omega) hst.sl T' (ns.length - 1) wr (.slice (some ⟨g,0,none⟩) ns.length cap) hrow2 hrep k1 (by omega));rw [show ((ns.length - 1:Nat):Int)=(ns.length:Int) - 1 by omega] at f5;have HBr:=Ld hst.below;have hzr:=hst.sz;have HT2:Hid (termLevels s.data.toList args=if T'.bytes.length<=2000 then some T'.bytes else none):=(by rw [Hid,HTL.out,hT];rfl);have dk:decide ((k:Int) < (ns.length:Int))=false:=dF (by omega);have hz5:(⟨T'.bytes.toArray⟩:ByteArray).size=T'.bytes.length:=(by simp [ByteArray.size]);generalize T'.bytes=tb at f5 HT2 k2 hz5;clear hst hrep hrow2 hT k1 H0 HTL HLO HPO HREP HPN HPK;go_wp2_with fail;(with_reducible refine mo f5.out fun w5 hb5=>?_);have HB5:=Ld (HBr.out.trans (hb5.mono hzr));clear hb5;by_cases h2k:tb.length<=2000
   ·have HE:Hid (termLevels s.data.toList args=some tb):=(by rw [Hid,HT2.out,iP h2k]);have d5:decide ((2000:Int) < (tb.length:Int))=false:=dF (by omega);go_wp2;go_ret2;rw [HE.out];exact ⟨rfl,HB5.out⟩
   ·have HE:Hid (termLevels s.data.toList args=none):=(by rw [Hid,HT2.out,iN h2k]);have d5:decide ((2000:Int) < (tb.length:Int))=true:=dT (by omega);go_wp2;go_ret2;rw [HE.out];exact ⟨rfl,HB5.out⟩
  ·have hPk:P[k]?=some P[k]:=(by simp);obtain ⟨nd,hnd,hnk,hns,hnr⟩:=HPN.out k _ hPk;have hum:=List.getElem_mem (show k < P.length by omega);have hok:=HPK.out _ hum;have HNo:Hid (¬ PutsOk args P[k]->termLevels s.data.toList args=none):=fun hnp=>by
    rw [HTL.out];cases hT:t.lvs args with
    | none=>rfl
    | some T'=>exact absurd (HPO.out T' hT _ hum) hnp
   have M:=hst.at hnd;have hrow2:wr.ownsRow w.heap.size 94 7 (.slice (some ⟨g,0,none⟩) cur.length cap) cur.length (flatN cur):=(by rw [M.len];exact M.row);have c0:wr.cell? ⟨g,k*7,none⟩=some (.int .u8 (nd.kind.toNat:Int)):=node_at hrow2 M.here 0 (by decide);have c5:wr.cell? ⟨g,k*7+5,none⟩=some (.string ⟨nd.text.toArray⟩):=node_at hrow2 M.here 5 (by decide);have c6:wr.cell? ⟨g,k*7+6,none⟩=some nd.lv:=node_at hrow2 M.here 6 (by decide);have z5:wr.frozen? ⟨g,k*7+5,none⟩=false:=M.row.frozenAt _;have z6:wr.frozen? ⟨g,k*7+6,none⟩=false:=M.row.frozenAt _;have q1:=zn k;have q2:(k:Int) < (ns.length:Int):=(by omega);have dk:decide ((k:Int) < (ns.length:Int))=true:=dT q2;have hnr2:=M.strs _ _ _ hnr;obtain ⟨al,cl,hlv⟩:=own_sliceV hnr;have hsl1:=M.sl nd (List.mem_of_getElem? M.here);have HND:=Ld hnd;have HPk:=Ld hPk;rw [hlv] at c6;have HM:=Ld M;clear hst hnr hrow2 M hum hnd hPk H0;generalize P[k]=u at hnk hns hok HNo hnr2 hlv c6 HPk
   rename World=>wo
   rcases node_case u with ⟨l,rfl⟩ | ⟨nm,ls,rfl⟩ | ⟨hk1,hk2,hk3⟩
   ·have ht:=hns l rfl;have h60:l.length<=60:=(levelOk_len hok).1;have f2:=Ld (FP.out l wo h60 HM.out.arg);rw [ht] at c5;have e115:(nd.kind.toNat:Int)=115:=(by rw [hnk];rfl);rw [e115] at c0;replace c6:wo.cell? ⟨g,k*7+6,none⟩=some (.slice al 0 cl):=c6;cases hput:levelPut l args with
    | none =>
     have HE:=Ld (HNo.out (fun hp=>by obtain ⟨r,hr⟩:=hp;rw [hput] at hr;cases hr));rw [hput] at f2;simp only [putRes] at f2;clear hnr2 hlv hns hok HNo;go_wp2_with fail;(with_reducible refine mo f2.out fun w2 hb2=>?_);have HB2:=Ld (HM.out.below.trans (hb2.mono HM.out.sz));clear hb2;go_wp2;go_ret2;rw [HE.out];exact ⟨rfl,HB2.out⟩
    | some r =>
     rw [hput] at f2;simp only [putRes] at f2;have HPUT:=Ld hput;clear hput hnr2 hns hok HNo;go_wp2_with fail;(with_reducible refine mo f2.out fun w2 hb2=>?_);have M2:=HM.out.keep hb2;have y5:w2.frozen? ⟨g,k*7+5,none⟩=false:=M2.row.frozenAt _;have x5:w2.cell? ⟨g,k*7+5,none⟩=some (.string ⟨l.toArray⟩):=by
      have:=node_at (W:=w2) (ns:=cur) (g:=g) (cap:=cap) (by rw [M2.len];exact M2.row) M2.here 5 (by decide);rw [this,← ht];rfl
     have M3:=(M2.put (j:=5) (by decide) (u:=.string ⟨r.toArray⟩) (nd':={ nd with text:=r }) rfl hsl1).1;have hz3:=M3.sz;have b4:=Below.alloc (bR (w2.setCell ⟨g,k*7+5,none⟩ (.string ⟨r.toArray⟩)).heap.size (w2.setCell ⟨g,k*7+5,none⟩ (.string ⟨r.toArray⟩))) (nR _) (.cells #[] 9);have M4:=M3.keep b4;clear M2 M3 hb2;go_wp2;generalize (w2.setCell ⟨g,k*7+5,none⟩ (.string ⟨r.toArray⟩)).alloc (.cells #[] 9)=w4 at M4 b4 |-;have M4h:=Ld M4;have c6':w4.cell? ⟨g,k*7+6,none⟩=some (.slice al 0 cl):=by
      have:=node_at (W:=w4) (g:=g) (cap:=cap) (by rw [M4.len];exact M4.row) M4.here 6 (by decide);rw [this,show (.slice al 0 cl:Value)=nd.lv from hlv.symm];rfl
     have z6':w4.frozen? ⟨g,k*7+6,none⟩=false:=M4.row.frozenAt _;clear M4 b4 c0 c5 c6 z5 z6;go_loopw [10,11] (fun z i wi=>i=.int .i64 0/\z=.slice (some ⟨w2.heap.size,0,none⟩) 0 0/\wi=w4) (fun _ _ _=>0)
     case atStart=>exact ⟨rfl,rfl,rfl⟩
     case round =>
      obtain ⟨rfl,rfl,rfl⟩:=hrel;go_wp2;have M5:=(M4h.out.put (j:=6) (by decide) (u:=.slice (some ⟨w2.heap.size,0,none⟩) 0 0) (nd':={ ({ nd with text:=r }:Nd) with lv:=.slice (some ⟨w2.heap.size,0,none⟩) 0 0 }) rfl ⟨_,_,_,rfl⟩).1;have MN:=M5.next HND.out HPk.out (⟨⟨rfl,rfl,rfl,rfl,rfl⟩,HPUT.out⟩);have HMN:=Ld MN;clear M5 MN;go_roundw
      case rel=>exact ⟨k+1,_,by omega,by go_num,HMN.out⟩
      case measure=>simp [intOf];omega
   ·have e115:((nd.kind.toNat:Int) == 115)=false:=ne_byte (d:=115) (by rw [hnk];simp [Tm.kind]);replace c6:wo.cell? ⟨g,k*7+6,none⟩=some (.slice al ls.length cl):=c6;have hlv2:nd.lv=.slice al ls.length cl:=hlv;have hnr3:wo.ownsRow w.heap.size 9 1 (.slice al ls.length cl) ls.length (ls.map sv):=(by rw [← hlv2];exact hnr2);have hl3:ls.length<=3:=hok.2.1;have HL60:Hid (∀ x∈ls,x.length<=60):=fun x hx=>(levelOk_len (hok.2.2 x hx)).1;have b4:=Below.alloc (bR wo.heap.size wo) (nR _) (.cells #[] 9);have r4:=World.ownsRow_lit (base:=wo.heap.size) (e:=9) (size:=1) wo #[] 0 (nR _) (by decide) (by simp);have HNR:=Ld hnr3;have HB4:=Ld b4;have HR4:=Ld r4;clear hnr2 hnr3 hns hok b4 r4 z5 c5;go_wp2;go_loopw [10,11] (fun z i wi=>∃ (j:Nat) (rr:List (List UInt8)) (zz:Value),zz=z/\j<=ls.length/\i=.int .i64 j/\Hid ((ls.take j).mapM (fun l=>levelPut l args)=some rr)/\rr.length<=j/\wi.ownsRow wo.heap.size 9 1 zz rr.length (rr.map sv)/\Below wo.heap.size wo wi) (fun _ i _=>ls.length - (intOf i).toNat)
    case atStart=>exact ⟨0,[],_,rfl,Nat.zero_le _,rfl,rfl,nR _,HR4.out,HB4.out⟩
    case round =>
     obtain ⟨j,rr,zz,rfl,hj,rfl,HMP,hrl,hzz,hbi⟩:=hrel
     rename World=>wi
     have Mi:=HM.out.keep hbi;have hszi:=hbi.size;have c6i:wi.cell? ⟨g,k*7+6,none⟩=some (.slice al ls.length cl):=by
      have:=node_at (W:=wi) (g:=g) (cap:=cap) (by rw [Mi.len];exact Mi.row) Mi.here 6 (by decide);rw [this,← hlv2];rfl
     have z6i:wi.frozen? ⟨g,k*7+6,none⟩=false:=Mi.row.frozenAt _;have HMi:=Ld Mi;have HZZ:=Ld hzz;have HBI:=Ld hbi;have hri:=own_below HNR.out hbi;clear HR4 HB4 c0 c6 z6 hbi hzz Mi;by_cases hjl:j < ls.length
     ·obtain ⟨g2,cap2,e2,_,_⟩:=hri.form (by omega);cases e2;have ex:(ls.map sv)[j]?=some (sv ls[j]):=(by simp [hjl]);have cj:=(hri.cellAt j (by omega)).trans ex;unfold sv at cj;have q3:=zn j;have q4:(j:Int) < (ls.length:Int):=(by omega);have f2:=Ld (FP.out ls[j] wi (HL60.out _ (List.getElem_mem hjl)) HMi.out.arg)
      have HMB:Hid (levelPut ls[j] args=none->termLevels s.data.toList args=none):=fun hb0=>HNo.out (fun hp=>by
       obtain ⟨r,hr⟩:=hp;rw [mapM_bad hjl hb0] at hr;cases hr)
      have HMT:Hid (∀ x,levelPut ls[j] args=some x->(ls.take (j+1)).mapM (fun l=>levelPut l args)=some (rr ++ [x])):=fun x hx=>mapM_take hjl HMP.out hx;clear ex hri HMP;generalize ls[j]=lj at cj f2 HMB HMT;cases hput:levelPut lj args with
      | none =>
       have HE:=Ld (HMB.out hput);rw [hput] at f2;simp only [putRes] at f2;clear HMB HMT hput;go_wp2_with fail;(with_reducible refine mo f2.out fun w2 hb2=>?_);have HB2:=Ld (HMi.out.below.trans (hb2.mono HMi.out.sz));clear hb2;go_wp2;go_ret2;rw [HE.out];exact ⟨rfl,HB2.out⟩
      | some x =>
       have HX:=Ld (HMT.out x hput);rw [hput] at f2;simp only [putRes] at f2;clear HMB HMT hput;go_wp2_with fail;(with_reducible refine mo f2.out fun w2 hb2=>?_);have hz2:=own_below HZZ.out hb2;have hB2:=HBI.out.trans (hb2.mono HBI.out.size);have hs2:=hB2.size;clear hb2 HZZ;go_wp2_with (at_builtin;refine wpList_append_own _ rfl _ _ 31 rfl wo.heap.size 9 i0 _ 1 16 Tryz.underlying31 hi hz0 hz1 hz2' rfl (by decide) _ _ _ rfl (hz2.alloc _) ⟨w2.heap.size,0,none⟩ 1 1 [.string ⟨x.toArray⟩] rfl rfl (oneNew _ _ _) (by simp [Value.oneCell']) (by simp only [maxLen];omega) (by omega) (by simp;omega) ?_);intro v3 w3 ho3 hg3 _;have HB3:=Ld ((hB2.alloc hs2 (.cells #[.string ⟨x.toArray⟩] 9)).grown hg3 (by simp;omega) (fun q hq=>(hz2.lt q hq).1));have HO3:=Ld ho3;clear ho3 hg3 hz2 hB2;go_wp2;go_roundw
       case rel=>exact ⟨j+1,rr ++ [x],_,rfl,by omega,by go_num,HX.out,by simp;omega,by simpa [sv] using HO3.out,HB3.out⟩
       case measure=>simp [intOf];omega
     ·have hje:j=ls.length:=(by omega);have HMF:Hid (ls.mapM (fun l=>levelPut l args)=some rr):=by
       have:=HMP.out;rw [hje,List.take_length] at this;exact this
      obtain ⟨za,zc,rfl⟩:=own_sliceV HZZ.out;have dj:decide ((j:Int) < (ls.length:Int))=false:=dF (by omega);have HPT:=Ld (HMi.out.put (j:=6) (by decide) (u:=.slice za rr.length zc) (nd':={ nd with lv:=.slice za rr.length zc }) rfl ⟨_,_,_,rfl⟩);have HRB:Hid (wi.ownsRow w.heap.size 9 1 (.slice za rr.length zc) rr.length (rr.map sv)):=own_baseL HZZ.out HM.out.sz;have MN:=HPT.out.1.next HND.out HPk.out ⟨⟨rfl,rfl,rfl,rfl,rfl⟩,rfl,rr,HMF.out,HPT.out.2.2 _ _ _ HRB.out⟩;have HMN:=Ld MN;clear MN hri HMP hje;go_wp2;go_roundw
      case rel=>exact ⟨k+1,_,by omega,by go_num,HMN.out⟩
      case measure=>simp [intOf];omega
   ·have e115:((nd.kind.toNat:Int) == 115)=false:=ne_byte (d:=115) (by rw [hnk];exact hk1);rw [hk2] at c6 hlv;replace hlv:nd.lv=.slice al 0 cl:=hlv;replace c6:wo.cell? ⟨g,k*7+6,none⟩=some (.slice al 0 cl):=c6;have b4:=Below.alloc (bR wo.heap.size wo) (nR _) (.cells #[] 9);have M4:=HM.out.keep b4;clear hnr2 hns hok HNo hnk hk1 hk2;go_wp2;generalize wo.alloc (.cells #[] 9)=w4 at M4 b4 |-;have M4h:=Ld M4;have c6':w4.cell? ⟨g,k*7+6,none⟩=some (.slice al 0 cl):=by
     have:=node_at (W:=w4) (g:=g) (cap:=cap) (by rw [M4.len];exact M4.row) M4.here 6 (by decide);rw [this,show (.slice al 0 cl:Value)=nd.lv from hlv.symm];rfl
    have z6':w4.frozen? ⟨g,k*7+6,none⟩=false:=M4.row.frozenAt _;clear M4 b4 c0 c5 c6 z5 z6;go_loopw [10,11] (fun z i wi=>i=.int .i64 0/\z=.slice (some ⟨wo.heap.size,0,none⟩) 0 0/\wi=w4) (fun _ _ _=>0)
    case atStart=>exact ⟨rfl,rfl,rfl⟩
    case round =>
     obtain ⟨rfl,rfl,rfl⟩:=hrel;go_wp2;have M5:=(M4h.out.put (j:=6) (by decide) (u:=.slice (some ⟨wo.heap.size,0,none⟩) 0 0) (nd':={ nd with lv:=.slice (some ⟨wo.heap.size,0,none⟩) 0 0 }) rfl ⟨_,_,_,rfl⟩).1;have MN:=M5.next HND.out HPk.out (hk3 _ _ _ _ _ ⟨rfl,rfl,rfl,rfl,rfl⟩);have HMN:=Ld MN;clear M5 MN;go_roundw
     case rel=>exact ⟨k+1,_,by omega,by go_num,HMN.out⟩
     case measure=>simp [intOf];omega
end Go.Proofs.YtcaahdjhbmmcnaaGreatDoor
namespace Go.Proofs.YtcaahdjhbmmcnaaGreatDoor
open Go
namespace Tm
def mapS {σ:Type} (f:σ->Tm->Nat->Tm × σ):Tm->σ->Nat->Tm × σ
 | var n,s,b=>f s (var n) b
 | sort l,s,b=>f s (sort l) b
 | const n ls,s,b=>f s (const n ls) b
 | app x y,s,b=>(app (mapS f x s b).1 (mapS f y (mapS f x s b).2 b).1,(mapS f y (mapS f x s b).2 b).2)
 | lam x y,s,b=>(lam (mapS f x s b).1 (mapS f y (mapS f x s b).2 (b+1)).1,(mapS f y (mapS f x s b).2 (b+1)).2)
 | pi x y,s,b=>(pi (mapS f x s b).1 (mapS f y (mapS f x s b).2 (b+1)).1,(mapS f y (mapS f x s b).2 (b+1)).2)
 | lett x y z,s,b=>(lett (mapS f x s b).1 (mapS f y (mapS f x s b).2 b).1 (mapS f z (mapS f y (mapS f x s b).2 b).2 (b+1)).1,(mapS f z (mapS f y (mapS f x s b).2 b).2 (b+1)).2)
def Lv (P:Tm->Nat->Prop):Tm->Nat->Prop
 | var n,b=>P (var n) b
 | sort l,b=>P (sort l) b
 | const n ls,b=>P (const n ls) b
 | app x y,b=>Lv P x b/\Lv P y b
 | lam x y,b=>Lv P x b/\Lv P y (b+1)
 | pi x y,b=>Lv P x b/\Lv P y (b+1)
 | lett x y z,b=>Lv P x b/\Lv P y b/\Lv P z (b+1)
def OkLeaf (B:Nat) (t:Tm) (b:Nat):Prop:=b<=B/\((∃ n,n<=999/\t=var n)\/(∃ l,levelOk l=true/\t=sort l)\/∃ n ls,(const n ls).Ok/\t=const n ls)
theorem ok_lv {B:Nat}:∀ (T:Tm) (b:Nat),T.Ok->b+T.size<=B->T.Lv (OkLeaf B) b
 | var n,b,h,hb=>⟨by omega,.inl ⟨n,h,rfl⟩⟩
 | sort l,b,h,hb=>⟨by omega,.inr (.inl ⟨l,h,rfl⟩)⟩
 | const n ls,b,h,hb=>⟨by omega,.inr (.inr ⟨n,ls,h,rfl⟩)⟩
 | app x y,b,h,hb=>by simp only [size] at hb;exact ⟨ok_lv x b h.1 (by omega),ok_lv y b h.2 (by omega)⟩
 | lam x y,b,h,hb=>by have:=x.size_pos;simp only [size] at hb;exact ⟨ok_lv x b h.1 (by omega),ok_lv y (b+1) h.2 (by omega)⟩
 | pi x y,b,h,hb=>by have:=x.size_pos;simp only [size] at hb;exact ⟨ok_lv x b h.1 (by omega),ok_lv y (b+1) h.2 (by omega)⟩
 | lett x y z,b,h,hb=>by have:=x.size_pos;simp only [size] at hb;exact ⟨ok_lv x b h.1 (by omega),ok_lv y b h.2.1 (by omega),ok_lv z (b+1) h.2.2 (by omega)⟩
structure Comp (Q:Tm->Prop):Prop where
 app:∀ x y,Q x->Q y->Q (app x y)
 lam:∀ x y,Q x->Q y->Q (lam x y)
 pi:∀ x y,Q x->Q y->Q (pi x y)
 lett:∀ x y z,Q x->Q y->Q z->Q (lett x y z)
theorem mapS_q {σ:Type} {f:σ->Tm->Nat->Tm × σ} {P:Tm->Nat->Prop} {Q:Tm->Prop} (hQ:Comp Q) (hf:∀ s t b,P t b->Q (f s t b).1):∀ (T:Tm) (s:σ) (b:Nat),T.Lv P b->Q (mapS f T s b).1
 | var n,s,b,h=>hf s _ b h
 | sort l,s,b,h=>hf s _ b h
 | const n ls,s,b,h=>hf s _ b h
 | app x y,s,b,h=>hQ.app _ _ (mapS_q hQ hf x s b h.1) (mapS_q hQ hf y _ b h.2)
 | lam x y,s,b,h=>hQ.lam _ _ (mapS_q hQ hf x s b h.1) (mapS_q hQ hf y _ (b+1) h.2)
 | pi x y,s,b,h=>hQ.pi _ _ (mapS_q hQ hf x s b h.1) (mapS_q hQ hf y _ (b+1) h.2)
 | lett x y z,s,b,h=>hQ.lett _ _ _ (mapS_q hQ hf x s b h.1) (mapS_q hQ hf y _ b h.2.1) (mapS_q hQ hf z _ (b+1) h.2.2)
theorem mapS_len {σ:Type} {f:σ->Tm->Nat->Tm × σ} {P:Tm->Nat->Prop} {K:Nat} (hK:1<=K) (hf:∀ s t b,P t b->(f s t b).1.bytes.length<=K*t.bytes.length):∀ (T:Tm) (s:σ) (b:Nat),T.Lv P b->(mapS f T s b).1.bytes.length<=K*T.bytes.length
 | var n,s,b,h=>hf s _ b h
 | sort l,s,b,h=>hf s _ b h
 | const n ls,s,b,h=>hf s _ b h
 | app x y,s,b,h=>by
  have h1:=mapS_len hK hf x s b h.1;have h2:=mapS_len hK hf y (mapS f x s b).2 b h.2;simp only [mapS,bytes,lC,lA,Nat.mul_add,Nat.mul_one];omega
 | lam x y,s,b,h=>by
  have h1:=mapS_len hK hf x s b h.1;have h2:=mapS_len hK hf y (mapS f x s b).2 (b+1) h.2;simp only [mapS,bytes,lC,lA,Nat.mul_add,Nat.mul_one];omega
 | pi x y,s,b,h=>by
  have h1:=mapS_len hK hf x s b h.1;have h2:=mapS_len hK hf y (mapS f x s b).2 (b+1) h.2;simp only [mapS,bytes,lC,lA,Nat.mul_add,Nat.mul_one];omega
 | lett x y z,s,b,h=>by
  have h1:=mapS_len hK hf x s b h.1;have h2:=mapS_len hK hf y (mapS f x s b).2 b h.2.1;have h3:=mapS_len hK hf z (mapS f y (mapS f x s b).2 b).2 (b+1) h.2.2;simp only [mapS,bytes,lC,lA,Nat.mul_add,Nat.mul_one];omega
def Pre:Tm->Prop
 | var _=>True
 | sort l=>(46:UInt8)∉l
 | const n ls=>(59:UInt8)∉n/\∀ x∈ls,(46:UInt8)∉x/\(44:UInt8)∉x
 | app f a=>f.Pre/\a.Pre
 | lam f a=>f.Pre/\a.Pre
 | pi f a=>f.Pre/\a.Pre
 | lett f a b=>f.Pre/\a.Pre/\b.Pre
theorem comp_pre:Comp Pre:=⟨fun _ _ h k=>⟨h,k⟩,fun _ _ h k=>⟨h,k⟩,fun _ _ h k=>⟨h,k⟩,fun _ _ _ h k l=>⟨h,k,l⟩⟩
theorem comp_lim (m:Nat):Comp (Lim m):=⟨fun _ _ h k=>⟨h,k⟩,fun _ _ h k=>⟨h,k⟩,fun _ _ h k=>⟨h,k⟩,fun _ _ _ h k l=>⟨h,k,l⟩⟩
theorem Ok.pre:∀ {t:Tm},t.Ok->t.Pre
 | var _,_=>trivial
 | sort _,h=>(level_clean h).1
 | const _ _,h=>⟨name_no59 h.1,fun x hx=>level_clean (h.2.2 x hx)⟩
 | app _ _,h=>⟨h.1.pre,h.2.pre⟩
 | lam _ _,h=>⟨h.1.pre,h.2.pre⟩
 | pi _ _,h=>⟨h.1.pre,h.2.pre⟩
 | lett _ _ _,h=>⟨h.1.pre,h.2.1.pre,h.2.2.pre⟩
theorem no46:∀ {ls:List (List UInt8)},(∀ x∈ls,(46:UInt8)∉x)->(46:UInt8)∉lvsB ls
 | [],_=>by simp [lvsB]
 | x :: r,h=>by
  intro hm;rw [lvsB] at hm;rcases List.mem_append.1 hm with h1 | h1
  ·exact h x List.mem_cons_self h1
  rcases List.mem_cons.1 h1 with h2 | h2
  ·revert h2;decide
  ·exact no46 (fun y hy=>h y (List.mem_cons_of_mem _ hy)) h2
theorem preUniq:∀ (t u:Tm) (r s:List UInt8),t.Pre->u.Pre->t.bytes ++ r=u.bytes ++ s->t=u/\r=s:=by
 intro t
 induction t with
 | var n =>
  intro u r s ht hu h;cases u with
  | var m =>
   simp only [Tm.bytes,List.cons_append,List.append_assoc,List.nil_append] at h;injection h with _ h;obtain ⟨h1,h2⟩:=span_uniq (digits_no46 n) (digits_no46 m) h;exact ⟨by rw [digits_inj h1],h2⟩
  | _=>simp [Tm.bytes] at h
 | sort l =>
  intro u r s ht hu h;cases u with
  | sort m =>
   simp only [Tm.bytes,List.cons_append,List.append_assoc,List.nil_append] at h;injection h with _ h;obtain ⟨h1,h2⟩:=span_uniq ht hu h;exact ⟨by rw [h1],h2⟩
  | _=>simp [Tm.bytes] at h
 | const n ls =>
  intro u r s ht hu h;cases u with
  | const m ms =>
   simp only [Tm.bytes,List.cons_append,List.append_assoc,List.nil_append] at h;injection h with _ h;obtain ⟨h1,h2⟩:=span_uniq ht.1 hu.1 h;obtain ⟨h3,h4⟩:=span_uniq (no46 fun x hx=>(ht.2 x hx).1) (no46 fun x hx=>(hu.2 x hx).1) h2;exact ⟨by rw [h1,lvsB_inj (fun x hx=>(ht.2 x hx).2) (fun x hx=>(hu.2 x hx).2) h3],h4⟩
  | _=>simp [Tm.bytes] at h
 | app f a ihf iha =>
  intro u r s ht hu h;cases u with
  | app g b =>
   simp only [Tm.bytes,List.cons_append,List.append_assoc] at h;injection h with _ h;obtain ⟨h1,h2⟩:=ihf g _ _ ht.1 hu.1 h;obtain ⟨h3,h4⟩:=iha b _ _ ht.2 hu.2 h2;exact ⟨by rw [h1,h3],h4⟩
  | _=>simp [Tm.bytes] at h
 | lam f a ihf iha =>
  intro u r s ht hu h;cases u with
  | lam g b =>
   simp only [Tm.bytes,List.cons_append,List.append_assoc] at h;injection h with _ h;obtain ⟨h1,h2⟩:=ihf g _ _ ht.1 hu.1 h;obtain ⟨h3,h4⟩:=iha b _ _ ht.2 hu.2 h2;exact ⟨by rw [h1,h3],h4⟩
  | _=>simp [Tm.bytes] at h
 | pi f a ihf iha =>
  intro u r s ht hu h;cases u with
  | pi g b =>
   simp only [Tm.bytes,List.cons_append,List.append_assoc] at h;injection h with _ h;obtain ⟨h1,h2⟩:=ihf g _ _ ht.1 hu.1 h;obtain ⟨h3,h4⟩:=iha b _ _ ht.2 hu.2 h2;exact ⟨by rw [h1,h3],h4⟩
  | _=>simp [Tm.bytes] at h
 | lett f a c ihf iha ihc =>
  intro u r s ht hu h;cases u with
  | lett g b d =>
   simp only [Tm.bytes,List.cons_append,List.append_assoc] at h;injection h with _ h;obtain ⟨h1,h2⟩:=ihf g _ _ ht.1 hu.1 h;obtain ⟨h3,h4⟩:=iha b _ _ ht.2.1 hu.2.1 h2;obtain ⟨h5,h6⟩:=ihc d _ _ ht.2.2 hu.2.2 h4;exact ⟨by rw [h1,h3,h5],h6⟩
  | _=>simp [Tm.bytes] at h
end Tm
theorem termOk_pre {T:Tm} (h:T.Pre):termOk T.bytes=true↔T.Ok/\T.bytes.length<=2000:=by
 constructor
 ·intro hk;cases ht:termOf T.bytes with
  | none=>rw [termOk,ht] at hk;cases hk
  | some t =>
   obtain ⟨h1,h2,h3⟩:=termOf_is ht;obtain ⟨rfl,_⟩:=Tm.preUniq t T [] [] h1.pre h (by rw [h2]);exact ⟨h1,h3⟩
 ·rintro ⟨h1,h2⟩;rw [termOk,termOf_some ⟨h1,rfl,h2⟩];rfl
theorem sayT_nil (T:Tm):(T.Ok/\T.bytes.length<=2000->sayT (some []) T=some T.bytes)/\(¬ (T.Ok/\T.bytes.length<=2000)->sayT (some []) T=none):=by
 constructor
 ·intro h;rw [sayT_some h.1 (by simpa using h.2)];rfl
 ·intro h;exact sayT_fail (fun k=>h ⟨k.1,by simpa using k.2⟩)
namespace Tm
end Tm
def lvF (args:List (List UInt8)):Unit->Tm->Nat->Tm × Unit
 | _,.sort l,_=>(.sort ((levelPut l args).getD []),())
 | _,.const n ls,_=>(.const n (ls.map fun l=>(levelPut l args).getD []),())
 | _,t,_=>(t,())
theorem mapM_some {args:List (List UInt8)}:∀ {ls r:List (List UInt8)},(ls.mapM fun l=>levelPut l args)=some r->(ls.map fun l=>(levelPut l args).getD [])=r
 | [],r,h=>by simp at h;subst h;rfl
 | l :: ls,r,h=>by
  rw [List.mapM_cons] at h;obtain ⟨x,hx,h2⟩:=Option.bind_eq_some_iff.1 h;obtain ⟨r',hr,h3⟩:=Option.bind_eq_some_iff.1 h2;cases h3;rw [List.map_cons,hx,mapM_some hr];rfl
theorem mapM_none {args:List (List UInt8)}:∀ {ls:List (List UInt8)},(ls.mapM fun l=>levelPut l args)=none->∃ l∈ls,levelPut l args=none
 | [],h=>by simp at h
 | l :: ls,h=>by
  cases hx:levelPut l args with
  | none=>exact ⟨l,List.mem_cons_self,hx⟩
  | some x =>
   rw [List.mapM_cons,hx] at h;cases hr:(ls.mapM fun l=>levelPut l args) with
   | none =>
    obtain ⟨y,hy,h3⟩:=mapM_none hr;exact ⟨y,List.mem_cons_of_mem _ hy,h3⟩
   | some r=>rw [hr] at h;cases h
theorem levelOk_nil:levelOk []=false:=by
 cases h:levelOk [] with
 | false=>rfl
 | true=>exact absurd rfl (levelOk_ne h)
theorem mapS_lvs (args:List (List UInt8)):∀ (T:Tm) (b:Nat),(∀ T',T.lvs args=some T'->(T.mapS (lvF args) () b).1=T')/\(T.lvs args=none->¬ (T.mapS (lvF args) () b).1.Ok)
 | .var n,b=>⟨fun T' h=>by cases h;rfl,fun h=>by cases h⟩
 | .sort l,b=>by
  cases hx:levelPut l args with
  | none =>
   refine ⟨fun T' h=>?_,fun _ hk=>?_⟩
   ·rw [Tm.lvs,hx] at h;cases h
   ·have h1:levelOk ((levelPut l args).getD [])=true:=hk;rw [hx] at h1;exact absurd h1 (by rw [Option.getD_none,levelOk_nil];decide)
  | some x =>
   refine ⟨fun T' h=>?_,fun h=>?_⟩
   ·rw [Tm.lvs,hx] at h;cases h;show Tm.sort ((levelPut l args).getD [])=_;rw [hx];rfl
   ·rw [Tm.lvs,hx] at h;cases h
 | .const n ls,b=>by
  cases hx:(ls.mapM fun l=>levelPut l args) with
  | none =>
   refine ⟨fun T' h=>?_,fun _ hk=>?_⟩
   ·rw [Tm.lvs,hx] at h;cases h
   ·obtain ⟨y,hy,h3⟩:=mapM_none hx;have h1:∀ x∈ls.map (fun l=>(levelPut l args).getD []),levelOk x=true:=hk.2.2;have h2:=h1 [] (List.mem_map.2 ⟨y,hy,by rw [h3];rfl⟩);rw [levelOk_nil] at h2;cases h2
  | some x =>
   refine ⟨fun T' h=>?_,fun h=>?_⟩
   ·rw [Tm.lvs,hx] at h;cases h;show Tm.const n (ls.map fun l=>(levelPut l args).getD [])=_;rw [mapM_some hx]
   ·rw [Tm.lvs,hx] at h;cases h
 | .app x y,b=>by
  obtain ⟨p1,p2⟩:=mapS_lvs args x b;obtain ⟨q1,q2⟩:=mapS_lvs args y b;simp only [Tm.lvs,Tm.mapS];cases hx:x.lvs args with
  | none=>exact ⟨(fun T' h=>by cases h),fun _ hk=>p2 hx hk.1⟩
  | some x' =>
   cases hy:y.lvs args with
   | none=>exact ⟨(fun T' h=>by cases h),fun _ hk=>q2 hy hk.2⟩
   | some y'=>exact ⟨(fun T' h=>by cases h;rw [p1 _ hx,q1 _ hy]),(fun h=>by cases h)⟩
 | .lam x y,b=>by
  obtain ⟨p1,p2⟩:=mapS_lvs args x b;obtain ⟨q1,q2⟩:=mapS_lvs args y (b+1);simp only [Tm.lvs,Tm.mapS];cases hx:x.lvs args with
  | none=>exact ⟨(fun T' h=>by cases h),fun _ hk=>p2 hx hk.1⟩
  | some x' =>
   cases hy:y.lvs args with
   | none=>exact ⟨(fun T' h=>by cases h),fun _ hk=>q2 hy hk.2⟩
   | some y'=>exact ⟨(fun T' h=>by cases h;rw [p1 _ hx,q1 _ hy]),(fun h=>by cases h)⟩
 | .pi x y,b=>by
  obtain ⟨p1,p2⟩:=mapS_lvs args x b;obtain ⟨q1,q2⟩:=mapS_lvs args y (b+1);simp only [Tm.lvs,Tm.mapS];cases hx:x.lvs args with
  | none=>exact ⟨(fun T' h=>by cases h),fun _ hk=>p2 hx hk.1⟩
  | some x' =>
   cases hy:y.lvs args with
   | none=>exact ⟨(fun T' h=>by cases h),fun _ hk=>q2 hy hk.2⟩
   | some y'=>exact ⟨(fun T' h=>by cases h;rw [p1 _ hx,q1 _ hy]),(fun h=>by cases h)⟩
 | .lett x y z,b=>by
  obtain ⟨p1,p2⟩:=mapS_lvs args x b;obtain ⟨q1,q2⟩:=mapS_lvs args y b;obtain ⟨r1,r2⟩:=mapS_lvs args z (b+1);simp only [Tm.lvs,Tm.mapS];cases hx:x.lvs args with
  | none=>exact ⟨(fun T' h=>by cases h),fun _ hk=>p2 hx hk.1⟩
  | some x' =>
   cases hy:y.lvs args with
   | none=>exact ⟨(fun T' h=>by cases h),fun _ hk=>q2 hy hk.2.1⟩
   | some y' =>
    cases hz:z.lvs args with
    | none=>exact ⟨(fun T' h=>by cases h),fun _ hk=>r2 hz hk.2.2⟩
    | some z'=>exact ⟨(fun T' h=>by cases h;rw [p1 _ hx,q1 _ hy,r1 _ hz]),(fun h=>by cases h)⟩
theorem termLevels_say {l:List UInt8} {T:Tm} {args:List (List UInt8)} (hT:IsTm l T) (ha:args.length<=3):termLevels l args=sayT (some []) (T.mapS (lvF args) () 0).1:=by
 obtain ⟨h1,h2⟩:=mapS_lvs args T 0;rw [termLevels,termOf_some hT];show (if args.length<=3 then _ else _)=_;rw [iP ha];cases hx:T.lvs args with
 | none=>rw [(sayT_nil _).2 (fun h=>h2 hx h.1)];rfl
 | some T' =>
  rw [h1 _ hx];have hk:=(lvs_ok T T' hT.1 hx).1;show (if T'.bytes.length<=2000 then some T'.bytes else none)=_;by_cases hl:T'.bytes.length<=2000
  ·rw [iP hl,(sayT_nil T').1 ⟨hk,hl⟩]
  ·rw [iN hl,(sayT_nil T').2 (fun h=>hl h.2)]
theorem put_clean (l:List UInt8) (args:List (List UInt8)):(46:UInt8)∉(levelPut l args).getD []/\(44:UInt8)∉(levelPut l args).getD []/\((levelPut l args).getD []).length<=60:=by
 cases hx:levelPut l args with
 | none=>simp
 | some x =>
  have h1:=(levelPut_ok hx).1;exact ⟨(level_clean h1).1,(level_clean h1).2,(levelOk_len h1).1⟩
theorem lvsB_short:∀ {ls:List (List UInt8)},(∀ y∈ls,y.length<=60)->(lvsB ls).length<=ls.length*61
 | [],_=>by simp [lvsB]
 | x :: r,h=>by
  have h1:=h x List.mem_cons_self;have h2:=lvsB_short (ls:=r) fun y hy=>h y (List.mem_cons_of_mem _ hy);simp only [lvsB,lA,lC];omega
theorem lv_leaf {args:List (List UInt8)} {B:Nat}:∀ (s:Unit) (t:Tm) (b:Nat),t.OkLeaf B b->(lvF args s t b).1.Pre/\(lvF args s t b).1.Lim 9999/\(lvF args s t b).1.bytes.length<=2000*t.bytes.length:=by
 rintro s t b ⟨hb,⟨n,hn,rfl⟩ | ⟨l,hl,rfl⟩ | ⟨n,ls,hk,rfl⟩⟩
 ·exact ⟨trivial,(by show n<=9999;omega),by show (Tm.var n).bytes.length<=_;omega⟩
 ·obtain ⟨h1,h2,h3⟩:=put_clean l args;refine ⟨h1,trivial,?_⟩;simp only [lvF,Tm.bytes,lC,lA,List.length_nil];omega
 ·refine ⟨⟨name_no59 hk.1,fun x hx=>?_⟩,trivial,?_⟩
  ·obtain ⟨y,_,rfl⟩:=List.mem_map.1 hx;exact ⟨(put_clean y args).1,(put_clean y args).2.1⟩
  ·have h3:ls.length<=3:=hk.2.1
   have h4:=lvsB_short (ls:=ls.map fun l=>(levelPut l args).getD []) (fun x hx=>by
    obtain ⟨y,_,rfl⟩:=List.mem_map.1 hx;exact (put_clean y args).2.2)
   rw [List.length_map] at h4;have h5:ls.length*61<=183:=(by omega);simp only [lvF,Tm.bytes,lC,lA,List.length_nil];omega
end Go.Proofs.YtcaahdjhbmmcnaaGreatDoor
