/- FLvM HMath -/
import Derived.Test.YtfohdgplaimomaaGreatDoorYF1
import Derived.Test.YtfohdgplaimomaaGreatDoorYE2
import Derived.Test.YtfohdgplaimomaaGreatDoorYE1
import Derived.Test.YtfohdgplaimomaaGreatDoorYV1
import Derived.Test.YtfohdgplaimomaaGreatDoorYP1
import Derived.Test.YtfohdgplaimomaaGreatDoorYKA
set_option maxRecDepth 100000
set_option maxHeartbeats 16000000
set_option linter.unusedSimpArgs false
set_option linter.unusedVariables false
namespace Go.Proofs.YtfohdgplaimomaaGreatDoor
open Go.ChangeShapes Go.WideShapes Go.ChangeAt Go.RowKit
def ParIn (m:Nat) (l:List UInt8):Prop:=∀ p d q,l=p ++ 117 :: d :: q→d.toNat - 47≤m
theorem ParIn.tail {m:Nat} {a l:List UInt8} (h:ParIn m (a ++ l)):ParIn m l:=fun p d q e=>h (a ++ p) d q (by rw [e,List.append_assoc])
theorem ParIn.of {l:List UInt8} (h:levelOk l=true):ParIn (levelParams l) l:=fun p d q e=>by
 have h1:=parF_ge l 0 p.length (by rw [e];simp) (by simp [e])
 rw [levelParams,if_pos h]
 simpa [e] using h1
theorem putF_lv {args:List (List UInt8)} (ha:∀ x∈args,levelOk x=true):∀ (t:Lv) (r:List UInt8),ParIn args.length (t.bytes ++ r)→∃ t':Lv,putF args (t.bytes ++ r)=t'.bytes ++ putF args r
 | .z,r,_=>⟨.z,putF_step args (by decide) r⟩
 | .up t,r,h=>by
  obtain ⟨t',e⟩:=putF_lv ha t r (ParIn.tail (a:=[43]) h)
  exact ⟨.up t',by rw [Lv.bytes,List.cons_append,putF_step args (by decide),e];rfl⟩
 | .mx a b,r,h=>by
  have h1:ParIn args.length (a.bytes ++ (b.bytes ++ r)):=ParIn.tail (a:=[109]) (by simpa [Lv.bytes] using h)
  obtain ⟨a',ea⟩:=putF_lv ha a (b.bytes ++ r) h1
  obtain ⟨b',eb⟩:=putF_lv ha b r h1.tail
  exact ⟨.mx a' b',by rw [Lv.bytes,List.cons_append,putF_step args (by decide),List.append_assoc,ea,eb];simp [Lv.bytes]⟩
 | .im a b,r,h=>by
  have h1:ParIn args.length (a.bytes ++ (b.bytes ++ r)):=ParIn.tail (a:=[105]) (by simpa [Lv.bytes] using h)
  obtain ⟨a',ea⟩:=putF_lv ha a (b.bytes ++ r) h1
  obtain ⟨b',eb⟩:=putF_lv ha b r h1.tail
  exact ⟨.im a' b',by rw [Lv.bytes,List.cons_append,putF_step args (by decide),List.append_assoc,ea,eb];simp [Lv.bytes]⟩
 | .par k,r,h=>by
  have h1:=h [] (UInt8.ofNat (48+k.val)) r (by simp [Lv.bytes])
  have hk:=(Lv.par_byte k).2.2
  have h0:=(Lv.par_byte k).1
  have hlt:k.val < args.length:=by omega
  have hx:args.getD k.val []=args[k.val]:=by simp [List.getD,hlt]
  obtain ⟨t',e⟩:=level_tree (ha args[k.val] (List.getElem_mem hlt))
  refine ⟨t',?_⟩
  rw [Lv.bytes,List.cons_append,List.cons_append,putF_par,hk,hx,e]
  rfl
theorem levelPut_ok {l r:List UInt8} {args:List (List UInt8)} (h:levelPut l args=some r):levelOk r=true∧args.length≤3:=by
 unfold levelPut at h
 split at h
 ·rename_i hc
  injection h with h
  subst h
  obtain ⟨h1,h2,h3,h4,h5⟩:=hc
  obtain ⟨t,rfl⟩:=level_tree h1
  obtain ⟨t',e⟩:=putF_lv (r:=[]) h4 t (by
   rw [List.append_nil]
   intro p d q e
   exact Nat.le_trans (ParIn.of h1 p d q e) h3)
  rw [List.append_nil,putF_nil,List.append_nil] at e
  rw [e] at h5 ⊢
  exact ⟨tree_ok t' h5,h2⟩
 ·cases h
def SameN (nd nd':Nd):Prop:=nd'.kind=nd.kind∧nd'.a=nd.a∧nd'.b=nd.b∧nd'.c=nd.c∧nd'.num=nd.num
def UpdT (W':World) (B':Nat) (args:List (List UInt8)) (nd nd':Nd):Tm→Prop
 | .sort l=>SameN nd nd'∧levelPut l args=some nd'.text
 | .const _ ls=>SameN nd nd'∧nd'.text=nd.text∧∃ ls',(ls.mapM fun l=>levelPut l args)=some ls'∧W'.ownsRow B' 9 1 nd'.lv ls'.length (ls'.map sv)
 | _=>SameN nd nd'
theorem rep_upd {W W':World} {B B':Nat} {ns ns':List Nd} {args:List (List UInt8)}:∀ (T:Tm) (k:Nat),RepP W B ns k T →
  (∀ (i:Nat) (u:Tm),T.post[i]?=some u→∃ nd nd',ns[k+1 - T.size+i]?=some nd∧ns'[k+1 - T.size+i]?=some nd'∧UpdT W' B' args nd nd' u) →
  ∃ T',T.lvs args=some T'∧RepT W' B' ns' k T'
 | .var n,k,h,hu=>by
  obtain ⟨nd,h1,h2⟩:=h.1
  obtain ⟨nd1,nd',g1,g2,g3⟩:=hu 0 _ rfl
  rw [show k+1 - (Tm.var n).size+0=k from rfl] at g1 g2
  obtain rfl:nd=nd1:=Option.some.inj (h1.symm.trans g1)
  obtain ⟨s1,s2,s3,s4,s5⟩:SameN nd nd':=g3
  exact ⟨.var n,rfl,nd',g2,s1.trans h2.1,s5.trans h2.2.1⟩
 | .sort l,k,h,hu=>by
  obtain ⟨nd,h1,h2⟩:=h.1
  obtain ⟨nd1,nd',g1,g2,⟨s1,_⟩,g3⟩:=hu 0 _ rfl
  rw [show k+1 - (Tm.sort l).size+0=k from rfl] at g1 g2
  obtain rfl:nd=nd1:=Option.some.inj (h1.symm.trans g1)
  exact ⟨.sort nd'.text,by rw [Tm.lvs,g3];rfl,nd',g2,s1.trans h2.1,rfl⟩
 | .const n ls,k,h,hu=>by
  obtain ⟨nd,h1,h2⟩:=h.1
  obtain ⟨nd1,nd',g1,g2,⟨s1,_⟩,g3,ls',g4,g5⟩:=hu 0 _ rfl
  rw [show k+1 - (Tm.const n ls).size+0=k from rfl] at g1 g2
  obtain rfl:nd=nd1:=Option.some.inj (h1.symm.trans g1)
  exact ⟨.const n ls',by rw [Tm.lvs,g4];rfl,nd',g2,s1.trans h2.1,g3.trans h2.2.1,g5⟩
 | .app f a,k,h,hu=>by
  have hsz:=h.at.1
  obtain ⟨⟨nd,h1,h2,h3,h4⟩,⟨nd2,g1,g0,g2,g3,g4,g5⟩⟩:=h
  obtain rfl:nd=nd2:=Option.some.inj (h1.symm.trans g1)
  have l1:=f.post_len
  have l2:=a.post_len
  have hT:(Tm.app f a).size=f.size+a.size+1:=rfl
  have z1:=f.size_pos
  have z2:=a.size_pos
  have y1:=(RepP.at f nd.a ⟨h3,g4⟩).1
  have y2:=(RepP.at a nd.b ⟨h4,g5⟩).1
  obtain ⟨f',e1,r1⟩:=rep_upd f nd.a ⟨h3,g4⟩ (fun i u hi=>by
   have hlt:i < f.post.length:=(List.getElem?_eq_some_iff.1 hi).1
   have:=hu i u (by rw [Tm.post,List.getElem?_append_left hlt];exact hi)
   rwa [show k+1 - (Tm.app f a).size+i=nd.a+1 - f.size+i by omega] at this)
  obtain ⟨a',e2,r2⟩:=rep_upd a nd.b ⟨h4,g5⟩ (fun i u hi=>by
   have hlt:i < a.post.length:=(List.getElem?_eq_some_iff.1 hi).1
   have:=hu (f.size+i) u (by rw [Tm.post,List.getElem?_append_right (by omega),show f.size+i - f.post.length=i by omega,List.getElem?_append_left hlt];exact hi)
   rwa [show k+1 - (Tm.app f a).size+(f.size+i)=nd.b+1 - a.size+i by omega] at this)
  obtain ⟨nd1,nd',x1,x2,x3⟩:=hu (f.size+a.size) (Tm.app f a) (by rw [Tm.post,List.getElem?_append_right (by omega),List.getElem?_append_right (by omega),show f.size+a.size - f.post.length - a.post.length=0 by omega];rfl)
  rw [show k+1 - (Tm.app f a).size+(f.size+a.size)=k by omega] at x1 x2
  obtain rfl:nd=nd1:=Option.some.inj (h1.symm.trans x1)
  obtain ⟨s1,s2,s3,s4,s5⟩:SameN nd nd':=x3
  exact ⟨.app f' a',by rw [Tm.lvs,e1,e2];rfl,nd',x2,s1.trans h2,by rw [s2];exact r1,by rw [s3];exact r2⟩
 | .lam f a,k,h,hu=>by
  have hsz:=h.at.1
  obtain ⟨⟨nd,h1,h2,h3,h4⟩,⟨nd2,g1,g0,g2,g3,g4,g5⟩⟩:=h
  obtain rfl:nd=nd2:=Option.some.inj (h1.symm.trans g1)
  have l1:=f.post_len
  have l2:=a.post_len
  have hT:(Tm.lam f a).size=f.size+a.size+1:=rfl
  have z1:=f.size_pos
  have z2:=a.size_pos
  have y1:=(RepP.at f nd.a ⟨h3,g4⟩).1
  have y2:=(RepP.at a nd.b ⟨h4,g5⟩).1
  obtain ⟨f',e1,r1⟩:=rep_upd f nd.a ⟨h3,g4⟩ (fun i u hi=>by
   have hlt:i < f.post.length:=(List.getElem?_eq_some_iff.1 hi).1
   have:=hu i u (by rw [Tm.post,List.getElem?_append_left hlt];exact hi)
   rwa [show k+1 - (Tm.lam f a).size+i=nd.a+1 - f.size+i by omega] at this)
  obtain ⟨a',e2,r2⟩:=rep_upd a nd.b ⟨h4,g5⟩ (fun i u hi=>by
   have hlt:i < a.post.length:=(List.getElem?_eq_some_iff.1 hi).1
   have:=hu (f.size+i) u (by rw [Tm.post,List.getElem?_append_right (by omega),show f.size+i - f.post.length=i by omega,List.getElem?_append_left hlt];exact hi)
   rwa [show k+1 - (Tm.lam f a).size+(f.size+i)=nd.b+1 - a.size+i by omega] at this)
  obtain ⟨nd1,nd',x1,x2,x3⟩:=hu (f.size+a.size) (Tm.lam f a) (by rw [Tm.post,List.getElem?_append_right (by omega),List.getElem?_append_right (by omega),show f.size+a.size - f.post.length - a.post.length=0 by omega];rfl)
  rw [show k+1 - (Tm.lam f a).size+(f.size+a.size)=k by omega] at x1 x2
  obtain rfl:nd=nd1:=Option.some.inj (h1.symm.trans x1)
  obtain ⟨s1,s2,s3,s4,s5⟩:SameN nd nd':=x3
  exact ⟨.lam f' a',by rw [Tm.lvs,e1,e2];rfl,nd',x2,s1.trans h2,by rw [s2];exact r1,by rw [s3];exact r2⟩
 | .pi f a,k,h,hu=>by
  have hsz:=h.at.1
  obtain ⟨⟨nd,h1,h2,h3,h4⟩,⟨nd2,g1,g0,g2,g3,g4,g5⟩⟩:=h
  obtain rfl:nd=nd2:=Option.some.inj (h1.symm.trans g1)
  have l1:=f.post_len
  have l2:=a.post_len
  have hT:(Tm.pi f a).size=f.size+a.size+1:=rfl
  have z1:=f.size_pos
  have z2:=a.size_pos
  have y1:=(RepP.at f nd.a ⟨h3,g4⟩).1
  have y2:=(RepP.at a nd.b ⟨h4,g5⟩).1
  obtain ⟨f',e1,r1⟩:=rep_upd f nd.a ⟨h3,g4⟩ (fun i u hi=>by
   have hlt:i < f.post.length:=(List.getElem?_eq_some_iff.1 hi).1
   have:=hu i u (by rw [Tm.post,List.getElem?_append_left hlt];exact hi)
   rwa [show k+1 - (Tm.pi f a).size+i=nd.a+1 - f.size+i by omega] at this)
  obtain ⟨a',e2,r2⟩:=rep_upd a nd.b ⟨h4,g5⟩ (fun i u hi=>by
   have hlt:i < a.post.length:=(List.getElem?_eq_some_iff.1 hi).1
   have:=hu (f.size+i) u (by rw [Tm.post,List.getElem?_append_right (by omega),show f.size+i - f.post.length=i by omega,List.getElem?_append_left hlt];exact hi)
   rwa [show k+1 - (Tm.pi f a).size+(f.size+i)=nd.b+1 - a.size+i by omega] at this)
  obtain ⟨nd1,nd',x1,x2,x3⟩:=hu (f.size+a.size) (Tm.pi f a) (by rw [Tm.post,List.getElem?_append_right (by omega),List.getElem?_append_right (by omega),show f.size+a.size - f.post.length - a.post.length=0 by omega];rfl)
  rw [show k+1 - (Tm.pi f a).size+(f.size+a.size)=k by omega] at x1 x2
  obtain rfl:nd=nd1:=Option.some.inj (h1.symm.trans x1)
  obtain ⟨s1,s2,s3,s4,s5⟩:SameN nd nd':=x3
  exact ⟨.pi f' a',by rw [Tm.lvs,e1,e2];rfl,nd',x2,s1.trans h2,by rw [s2];exact r1,by rw [s3];exact r2⟩
 | .lett f a b,k,h,hu=>by
  have hsz:=h.at.1
  obtain ⟨⟨nd,h1,h2,h3,h4,h5⟩,⟨nd2,g1,g0,g2,g3,g4,g5,g6,g7⟩⟩:=h
  obtain rfl:nd=nd2:=Option.some.inj (h1.symm.trans g1)
  have l1:=f.post_len
  have l2:=a.post_len
  have l3:=b.post_len
  have hT:(Tm.lett f a b).size=f.size+a.size+b.size+1:=rfl
  have z1:=f.size_pos
  have z2:=a.size_pos
  have z3:=b.size_pos
  have y1:=(RepP.at f nd.a ⟨h3,g5⟩).1
  have y2:=(RepP.at a nd.b ⟨h4,g6⟩).1
  have y3:=(RepP.at b nd.c ⟨h5,g7⟩).1
  obtain ⟨f',e1,r1⟩:=rep_upd f nd.a ⟨h3,g5⟩ (fun i u hi=>by
   have hlt:i < f.post.length:=(List.getElem?_eq_some_iff.1 hi).1
   have:=hu i u (by rw [Tm.post,List.getElem?_append_left hlt];exact hi)
   rwa [show k+1 - (Tm.lett f a b).size+i=nd.a+1 - f.size+i by omega] at this)
  obtain ⟨a',e2,r2⟩:=rep_upd a nd.b ⟨h4,g6⟩ (fun i u hi=>by
   have hlt:i < a.post.length:=(List.getElem?_eq_some_iff.1 hi).1
   have:=hu (f.size+i) u (by rw [Tm.post,List.getElem?_append_right (by omega),show f.size+i - f.post.length=i by omega,List.getElem?_append_left hlt];exact hi)
   rwa [show k+1 - (Tm.lett f a b).size+(f.size+i)=nd.b+1 - a.size+i by omega] at this)
  obtain ⟨b',e3,r3⟩:=rep_upd b nd.c ⟨h5,g7⟩ (fun i u hi=>by
   have hlt:i < b.post.length:=(List.getElem?_eq_some_iff.1 hi).1
   have:=hu (f.size+a.size+i) u (by rw [Tm.post,List.getElem?_append_right (by omega),List.getElem?_append_right (by omega),show f.size+a.size+i - f.post.length - a.post.length=i by omega,List.getElem?_append_left hlt];exact hi)
   rwa [show k+1 - (Tm.lett f a b).size+(f.size+a.size+i)=nd.c+1 - b.size+i by omega] at this)
  obtain ⟨nd1,nd',x1,x2,x3⟩:=hu (f.size+a.size+b.size) (Tm.lett f a b) (by rw [Tm.post,List.getElem?_append_right (by omega),List.getElem?_append_right (by omega),List.getElem?_append_right (by omega),show f.size+a.size+b.size - f.post.length - a.post.length - b.post.length=0 by omega];rfl)
  rw [show k+1 - (Tm.lett f a b).size+(f.size+a.size+b.size)=k by omega] at x1 x2
  obtain rfl:nd=nd1:=Option.some.inj (h1.symm.trans x1)
  obtain ⟨s1,s2,s3,s4,s5⟩:SameN nd nd':=x3
  exact ⟨.lett f' a' b',by rw [Tm.lvs,e1,e2,e3];rfl,nd',x2,s1.trans h2,by rw [s2];exact r1,by rw [s3];exact r2,by rw [s4];exact r3⟩
def PutsOk (args:List (List UInt8)):Tm→Prop
 | .sort l=>∃ r,levelPut l args=some r
 | .const _ ls=>∃ r,(ls.mapM fun l=>levelPut l args)=some r
 | _=>True
theorem lvs_post {args:List (List UInt8)}:∀ (T T':Tm),T.lvs args=some T'→∀ u∈T.post,PutsOk args u
 | .var n,_,_,u,hu=>by simp [Tm.post] at hu;subst hu;trivial
 | .sort l,_,h,u,hu=>by
  simp [Tm.post] at hu;subst hu
  obtain ⟨r,hr,_⟩:=Option.map_eq_some_iff.1 (show (levelPut l args).map Tm.sort=some _ from h)
  exact ⟨r,hr⟩
 | .const n ls,_,h,u,hu=>by
  simp [Tm.post] at hu;subst hu
  obtain ⟨r,hr,_⟩:=Option.map_eq_some_iff.1 (show (ls.mapM fun l=>levelPut l args).map (Tm.const n)=some _ from h)
  exact ⟨r,hr⟩
 | .app f a,_,h,u,hu=>by
  obtain ⟨f',hf,h2⟩:=Option.bind_eq_some_iff.1 (show (Tm.lvs args f).bind (fun f'=>(Tm.lvs args a).map (Tm.app f'))=some _ from h)
  obtain ⟨a',ha,_⟩:=Option.map_eq_some_iff.1 h2
  simp only [Tm.post,List.mem_append,List.mem_singleton] at hu
  rcases hu with hu | hu | rfl
  ·exact lvs_post f f' hf u hu
  ·exact lvs_post a a' ha u hu
  ·trivial
 | .lam f a,_,h,u,hu=>by
  obtain ⟨f',hf,h2⟩:=Option.bind_eq_some_iff.1 (show (Tm.lvs args f).bind (fun f'=>(Tm.lvs args a).map (Tm.lam f'))=some _ from h)
  obtain ⟨a',ha,_⟩:=Option.map_eq_some_iff.1 h2
  simp only [Tm.post,List.mem_append,List.mem_singleton] at hu
  rcases hu with hu | hu | rfl
  ·exact lvs_post f f' hf u hu
  ·exact lvs_post a a' ha u hu
  ·trivial
 | .pi f a,_,h,u,hu=>by
  obtain ⟨f',hf,h2⟩:=Option.bind_eq_some_iff.1 (show (Tm.lvs args f).bind (fun f'=>(Tm.lvs args a).map (Tm.pi f'))=some _ from h)
  obtain ⟨a',ha,_⟩:=Option.map_eq_some_iff.1 h2
  simp only [Tm.post,List.mem_append,List.mem_singleton] at hu
  rcases hu with hu | hu | rfl
  ·exact lvs_post f f' hf u hu
  ·exact lvs_post a a' ha u hu
  ·trivial
 | .lett f a b,_,h,u,hu=>by
  obtain ⟨f',hf,h2⟩:=Option.bind_eq_some_iff.1 (show (Tm.lvs args f).bind (fun f'=>(Tm.lvs args a).bind fun a'=>(Tm.lvs args b).map (Tm.lett f' a'))=some _ from h)
  obtain ⟨a',ha,h3⟩:=Option.bind_eq_some_iff.1 h2
  obtain ⟨b',hb,_⟩:=Option.map_eq_some_iff.1 h3
  simp only [Tm.post,List.mem_append,List.mem_singleton] at hu
  rcases hu with hu | hu | hu | rfl
  ·exact lvs_post f f' hf u hu
  ·exact lvs_post a a' ha u hu
  ·exact lvs_post b b' hb u hu
  ·trivial
theorem mapM_puts {args:List (List UInt8)}:∀ {ls r:List (List UInt8)},(ls.mapM fun l=>levelPut l args)=some r→r.length=ls.length∧∀ x∈r,levelOk x=true
 | [],r,h=>by simp at h;subst h;simp
 | l :: ls,r,h=>by
  rw [List.mapM_cons] at h
  obtain ⟨x,hx,h2⟩:=Option.bind_eq_some_iff.1 h
  obtain ⟨r',hr,h3⟩:=Option.bind_eq_some_iff.1 h2
  cases h3
  obtain ⟨k1,k2⟩:=mapM_puts hr
  refine ⟨by simp [k1],fun y hy=>?_⟩
  rcases List.mem_cons.1 hy with rfl | hy
  ·exact (levelPut_ok hx).1
  ·exact k2 y hy
theorem lvsB_61:∀ {ls:List (List UInt8)},(∀ y∈ls,levelOk y=true)→(lvsB ls).length≤ls.length*61∧ls.length*2≤(lvsB ls).length
 | [],_=>by simp [lvsB]
 | x :: r,h=>by
  have h0:=h x List.mem_cons_self
  have h1:=(levelOk_len h0).1
  have h3:1≤x.length:=List.length_pos_iff.2 (levelOk_ne h0)
  have h2:=lvsB_61 (ls:=r) fun y hy=>h y (List.mem_cons_of_mem _ hy)
  simp only [lvsB,List.length_append,List.length_cons]
  omega
theorem lvs_ok {args:List (List UInt8)}:∀ (T T':Tm),T.Ok→T.lvs args=some T'→T'.Ok∧T'.bytes.length≤31*T.bytes.length
 | .var n,_,hk,h=>by
  cases (show some (Tm.var n)=some _ from h)
  exact ⟨hk,by omega⟩
 | .sort l,_,hk,h=>by
  obtain ⟨r,hr,rfl⟩:=Option.map_eq_some_iff.1 (show (levelPut l args).map Tm.sort=some _ from h)
  have h1:=(levelPut_ok hr).1
  refine ⟨h1,?_⟩
  have h2:=(levelOk_len h1).1
  simp only [Tm.bytes,List.length_cons,List.length_append,List.length_nil]
  omega
 | .const n ls,_,hk,h=>by
  obtain ⟨r,hr,rfl⟩:=Option.map_eq_some_iff.1 (show (ls.mapM fun l=>levelPut l args).map (Tm.const n)=some _ from h)
  obtain ⟨h1,h2⟩:=mapM_puts hr
  refine ⟨⟨hk.1,by rw [h1];exact hk.2.1,h2⟩,?_⟩
  have k1:=(lvsB_61 h2).1
  have k2:=(lvsB_61 hk.2.2).2
  simp only [Tm.bytes,List.length_cons,List.length_append,List.length_nil]
  omega
 | .app f a,_,hk,h=>by
  obtain ⟨f',hf,h2⟩:=Option.bind_eq_some_iff.1 (show (Tm.lvs args f).bind (fun f'=>(Tm.lvs args a).map (Tm.app f'))=some _ from h)
  obtain ⟨a',ha,rfl⟩:=Option.map_eq_some_iff.1 h2
  obtain ⟨k1,k2⟩:=lvs_ok f f' hk.1 hf
  obtain ⟨k3,k4⟩:=lvs_ok a a' hk.2 ha
  refine ⟨⟨k1,k3⟩,?_⟩
  simp only [Tm.bytes,List.length_cons,List.length_append]
  omega
 | .lam f a,_,hk,h=>by
  obtain ⟨f',hf,h2⟩:=Option.bind_eq_some_iff.1 (show (Tm.lvs args f).bind (fun f'=>(Tm.lvs args a).map (Tm.lam f'))=some _ from h)
  obtain ⟨a',ha,rfl⟩:=Option.map_eq_some_iff.1 h2
  obtain ⟨k1,k2⟩:=lvs_ok f f' hk.1 hf
  obtain ⟨k3,k4⟩:=lvs_ok a a' hk.2 ha
  refine ⟨⟨k1,k3⟩,?_⟩
  simp only [Tm.bytes,List.length_cons,List.length_append]
  omega
 | .pi f a,_,hk,h=>by
  obtain ⟨f',hf,h2⟩:=Option.bind_eq_some_iff.1 (show (Tm.lvs args f).bind (fun f'=>(Tm.lvs args a).map (Tm.pi f'))=some _ from h)
  obtain ⟨a',ha,rfl⟩:=Option.map_eq_some_iff.1 h2
  obtain ⟨k1,k2⟩:=lvs_ok f f' hk.1 hf
  obtain ⟨k3,k4⟩:=lvs_ok a a' hk.2 ha
  refine ⟨⟨k1,k3⟩,?_⟩
  simp only [Tm.bytes,List.length_cons,List.length_append]
  omega
 | .lett f a b,_,hk,h=>by
  obtain ⟨f',hf,h2⟩:=Option.bind_eq_some_iff.1 (show (Tm.lvs args f).bind (fun f'=>(Tm.lvs args a).bind fun a'=>(Tm.lvs args b).map (Tm.lett f' a'))=some _ from h)
  obtain ⟨a',ha,h3⟩:=Option.bind_eq_some_iff.1 h2
  obtain ⟨b',hb,rfl⟩:=Option.map_eq_some_iff.1 h3
  obtain ⟨k1,k2⟩:=lvs_ok f f' hk.1 hf
  obtain ⟨k3,k4⟩:=lvs_ok a a' hk.2.1 ha
  obtain ⟨k5,k6⟩:=lvs_ok b b' hk.2.2 hb
  refine ⟨⟨k1,k3,k5⟩,?_⟩
  simp only [Tm.bytes,List.length_cons,List.length_append]
  omega
noncomputable def termLevels (l:List UInt8) (args:List (List UInt8)):Option (List UInt8):=match termOf l with
 | some T=>if args.length≤3 then (T.lvs args).bind fun T'=>if T'.bytes.length≤2000 then some T'.bytes else none else none
 | none=>none
end Go.Proofs.YtfohdgplaimomaaGreatDoor
namespace Go.Proofs.YtfohdgplaimomaaGreatDoor
open Go
namespace Tm
def mapS {σ:Type} (f:σ→Tm→Nat→Tm × σ):Tm→σ→Nat→Tm × σ
 | var n,s,b=>f s (var n) b
 | sort l,s,b=>f s (sort l) b
 | const n ls,s,b=>f s (const n ls) b
 | app x y,s,b=>(app (mapS f x s b).1 (mapS f y (mapS f x s b).2 b).1,(mapS f y (mapS f x s b).2 b).2)
 | lam x y,s,b=>(lam (mapS f x s b).1 (mapS f y (mapS f x s b).2 (b+1)).1,(mapS f y (mapS f x s b).2 (b+1)).2)
 | pi x y,s,b=>(pi (mapS f x s b).1 (mapS f y (mapS f x s b).2 (b+1)).1,(mapS f y (mapS f x s b).2 (b+1)).2)
 | lett x y z,s,b=>(lett (mapS f x s b).1 (mapS f y (mapS f x s b).2 b).1 (mapS f z (mapS f y (mapS f x s b).2 b).2 (b+1)).1,(mapS f z (mapS f y (mapS f x s b).2 b).2 (b+1)).2)
def Lv (P:Tm→Nat→Prop):Tm→Nat→Prop
 | var n,b=>P (var n) b
 | sort l,b=>P (sort l) b
 | const n ls,b=>P (const n ls) b
 | app x y,b=>Lv P x b∧Lv P y b
 | lam x y,b=>Lv P x b∧Lv P y (b+1)
 | pi x y,b=>Lv P x b∧Lv P y (b+1)
 | lett x y z,b=>Lv P x b∧Lv P y b∧Lv P z (b+1)
def OkLeaf (B:Nat) (t:Tm) (b:Nat):Prop:=b≤B∧((∃ n,n≤999∧t=var n)∨(∃ l,levelOk l=true∧t=sort l)∨∃ n ls,(const n ls).Ok∧t=const n ls)
theorem ok_lv {B:Nat}:∀ (T:Tm) (b:Nat),T.Ok→b+T.size≤B→T.Lv (OkLeaf B) b
 | var n,b,h,hb=>⟨by omega,.inl ⟨n,h,rfl⟩⟩
 | sort l,b,h,hb=>⟨by omega,.inr (.inl ⟨l,h,rfl⟩)⟩
 | const n ls,b,h,hb=>⟨by omega,.inr (.inr ⟨n,ls,h,rfl⟩)⟩
 | app x y,b,h,hb=>by simp only [size] at hb;exact ⟨ok_lv x b h.1 (by omega),ok_lv y b h.2 (by omega)⟩
 | lam x y,b,h,hb=>by have:=x.size_pos;simp only [size] at hb;exact ⟨ok_lv x b h.1 (by omega),ok_lv y (b+1) h.2 (by omega)⟩
 | pi x y,b,h,hb=>by have:=x.size_pos;simp only [size] at hb;exact ⟨ok_lv x b h.1 (by omega),ok_lv y (b+1) h.2 (by omega)⟩
 | lett x y z,b,h,hb=>by have:=x.size_pos;simp only [size] at hb;exact ⟨ok_lv x b h.1 (by omega),ok_lv y b h.2.1 (by omega),ok_lv z (b+1) h.2.2 (by omega)⟩
structure Comp (Q:Tm→Prop):Prop where
 app:∀ x y,Q x→Q y→Q (app x y)
 lam:∀ x y,Q x→Q y→Q (lam x y)
 pi:∀ x y,Q x→Q y→Q (pi x y)
 lett:∀ x y z,Q x→Q y→Q z→Q (lett x y z)
theorem mapS_q {σ:Type} {f:σ→Tm→Nat→Tm × σ} {P:Tm→Nat→Prop} {Q:Tm→Prop} (hQ:Comp Q) (hf:∀ s t b,P t b→Q (f s t b).1):∀ (T:Tm) (s:σ) (b:Nat),T.Lv P b→Q (mapS f T s b).1
 | var n,s,b,h=>hf s _ b h
 | sort l,s,b,h=>hf s _ b h
 | const n ls,s,b,h=>hf s _ b h
 | app x y,s,b,h=>hQ.app _ _ (mapS_q hQ hf x s b h.1) (mapS_q hQ hf y _ b h.2)
 | lam x y,s,b,h=>hQ.lam _ _ (mapS_q hQ hf x s b h.1) (mapS_q hQ hf y _ (b+1) h.2)
 | pi x y,s,b,h=>hQ.pi _ _ (mapS_q hQ hf x s b h.1) (mapS_q hQ hf y _ (b+1) h.2)
 | lett x y z,s,b,h=>hQ.lett _ _ _ (mapS_q hQ hf x s b h.1) (mapS_q hQ hf y _ b h.2.1) (mapS_q hQ hf z _ (b+1) h.2.2)
theorem mapS_len {σ:Type} {f:σ→Tm→Nat→Tm × σ} {P:Tm→Nat→Prop} {K:Nat} (hK:1≤K) (hf:∀ s t b,P t b→(f s t b).1.bytes.length≤K*t.bytes.length):∀ (T:Tm) (s:σ) (b:Nat),T.Lv P b→(mapS f T s b).1.bytes.length≤K*T.bytes.length
 | var n,s,b,h=>hf s _ b h
 | sort l,s,b,h=>hf s _ b h
 | const n ls,s,b,h=>hf s _ b h
 | app x y,s,b,h=>by
  have h1:=mapS_len hK hf x s b h.1
  have h2:=mapS_len hK hf y (mapS f x s b).2 b h.2
  simp only [mapS,bytes,List.length_cons,List.length_append,Nat.mul_add,Nat.mul_one];omega
 | lam x y,s,b,h=>by
  have h1:=mapS_len hK hf x s b h.1
  have h2:=mapS_len hK hf y (mapS f x s b).2 (b+1) h.2
  simp only [mapS,bytes,List.length_cons,List.length_append,Nat.mul_add,Nat.mul_one];omega
 | pi x y,s,b,h=>by
  have h1:=mapS_len hK hf x s b h.1
  have h2:=mapS_len hK hf y (mapS f x s b).2 (b+1) h.2
  simp only [mapS,bytes,List.length_cons,List.length_append,Nat.mul_add,Nat.mul_one];omega
 | lett x y z,s,b,h=>by
  have h1:=mapS_len hK hf x s b h.1
  have h2:=mapS_len hK hf y (mapS f x s b).2 b h.2.1
  have h3:=mapS_len hK hf z (mapS f y (mapS f x s b).2 b).2 (b+1) h.2.2
  simp only [mapS,bytes,List.length_cons,List.length_append,Nat.mul_add,Nat.mul_one];omega
def Pre:Tm→Prop
 | var _=>True
 | sort l=>(46:UInt8)∉l
 | const n ls=>(59:UInt8)∉n∧∀ x∈ls,(46:UInt8)∉x∧(44:UInt8)∉x
 | app f a=>f.Pre∧a.Pre
 | lam f a=>f.Pre∧a.Pre
 | pi f a=>f.Pre∧a.Pre
 | lett f a b=>f.Pre∧a.Pre∧b.Pre
theorem comp_pre:Comp Pre:=⟨fun _ _ h k=>⟨h,k⟩,fun _ _ h k=>⟨h,k⟩,fun _ _ h k=>⟨h,k⟩,fun _ _ _ h k l=>⟨h,k,l⟩⟩
theorem comp_lim (m:Nat):Comp (Lim m):=⟨fun _ _ h k=>⟨h,k⟩,fun _ _ h k=>⟨h,k⟩,fun _ _ h k=>⟨h,k⟩,fun _ _ _ h k l=>⟨h,k,l⟩⟩
theorem Ok.pre:∀ {t:Tm},t.Ok→t.Pre
 | var _,_=>trivial
 | sort _,h=>(level_clean h).1
 | const _ _,h=>⟨name_no59 h.1,fun x hx=>level_clean (h.2.2 x hx)⟩
 | app _ _,h=>⟨h.1.pre,h.2.pre⟩
 | lam _ _,h=>⟨h.1.pre,h.2.pre⟩
 | pi _ _,h=>⟨h.1.pre,h.2.pre⟩
 | lett _ _ _,h=>⟨h.1.pre,h.2.1.pre,h.2.2.pre⟩
theorem no46:∀ {ls:List (List UInt8)},(∀ x∈ls,(46:UInt8)∉x)→(46:UInt8)∉lvsB ls
 | [],_=>by simp [lvsB]
 | x :: r,h=>by
  intro hm
  rw [lvsB] at hm
  rcases List.mem_append.1 hm with h1 | h1
  ·exact h x List.mem_cons_self h1
  rcases List.mem_cons.1 h1 with h2 | h2
  ·revert h2;decide
  ·exact no46 (fun y hy=>h y (List.mem_cons_of_mem _ hy)) h2
theorem preUniq:∀ (t u:Tm) (r s:List UInt8),t.Pre→u.Pre→t.bytes ++ r=u.bytes ++ s→t=u∧r=s:=by
 intro t
 induction t with
 | var n =>
  intro u r s ht hu h
  cases u with
  | var m =>
   simp only [Tm.bytes,List.cons_append,List.append_assoc,List.nil_append] at h
   injection h with _ h
   obtain ⟨h1,h2⟩:=span_uniq (digits_no46 n) (digits_no46 m) h
   exact ⟨by rw [digits_inj h1],h2⟩
  | _=>simp [Tm.bytes] at h
 | sort l =>
  intro u r s ht hu h
  cases u with
  | sort m =>
   simp only [Tm.bytes,List.cons_append,List.append_assoc,List.nil_append] at h
   injection h with _ h
   obtain ⟨h1,h2⟩:=span_uniq ht hu h
   exact ⟨by rw [h1],h2⟩
  | _=>simp [Tm.bytes] at h
 | const n ls =>
  intro u r s ht hu h
  cases u with
  | const m ms =>
   simp only [Tm.bytes,List.cons_append,List.append_assoc,List.nil_append] at h
   injection h with _ h
   obtain ⟨h1,h2⟩:=span_uniq ht.1 hu.1 h
   obtain ⟨h3,h4⟩:=span_uniq (no46 fun x hx=>(ht.2 x hx).1) (no46 fun x hx=>(hu.2 x hx).1) h2
   exact ⟨by rw [h1,lvsB_inj (fun x hx=>(ht.2 x hx).2) (fun x hx=>(hu.2 x hx).2) h3],h4⟩
  | _=>simp [Tm.bytes] at h
 | app f a ihf iha =>
  intro u r s ht hu h
  cases u with
  | app g b =>
   simp only [Tm.bytes,List.cons_append,List.append_assoc] at h
   injection h with _ h
   obtain ⟨h1,h2⟩:=ihf g _ _ ht.1 hu.1 h
   obtain ⟨h3,h4⟩:=iha b _ _ ht.2 hu.2 h2
   exact ⟨by rw [h1,h3],h4⟩
  | _=>simp [Tm.bytes] at h
 | lam f a ihf iha =>
  intro u r s ht hu h
  cases u with
  | lam g b =>
   simp only [Tm.bytes,List.cons_append,List.append_assoc] at h
   injection h with _ h
   obtain ⟨h1,h2⟩:=ihf g _ _ ht.1 hu.1 h
   obtain ⟨h3,h4⟩:=iha b _ _ ht.2 hu.2 h2
   exact ⟨by rw [h1,h3],h4⟩
  | _=>simp [Tm.bytes] at h
 | pi f a ihf iha =>
  intro u r s ht hu h
  cases u with
  | pi g b =>
   simp only [Tm.bytes,List.cons_append,List.append_assoc] at h
   injection h with _ h
   obtain ⟨h1,h2⟩:=ihf g _ _ ht.1 hu.1 h
   obtain ⟨h3,h4⟩:=iha b _ _ ht.2 hu.2 h2
   exact ⟨by rw [h1,h3],h4⟩
  | _=>simp [Tm.bytes] at h
 | lett f a c ihf iha ihc =>
  intro u r s ht hu h
  cases u with
  | lett g b d =>
   simp only [Tm.bytes,List.cons_append,List.append_assoc] at h
   injection h with _ h
   obtain ⟨h1,h2⟩:=ihf g _ _ ht.1 hu.1 h
   obtain ⟨h3,h4⟩:=iha b _ _ ht.2.1 hu.2.1 h2
   obtain ⟨h5,h6⟩:=ihc d _ _ ht.2.2 hu.2.2 h4
   exact ⟨by rw [h1,h3,h5],h6⟩
  | _=>simp [Tm.bytes] at h
end Tm
theorem termOk_pre {T:Tm} (h:T.Pre):termOk T.bytes=true↔T.Ok∧T.bytes.length≤2000:=by
 constructor
 ·intro hk
  cases ht:termOf T.bytes with
  | none=>rw [termOk,ht] at hk;cases hk
  | some t =>
   obtain ⟨h1,h2,h3⟩:=termOf_is ht
   obtain ⟨rfl,_⟩:=Tm.preUniq t T [] [] h1.pre h (by rw [h2])
   exact ⟨h1,h3⟩
 ·rintro ⟨h1,h2⟩
  rw [termOk,termOf_some ⟨h1,rfl,h2⟩]
  rfl
theorem sayT_nil (T:Tm):(T.Ok∧T.bytes.length≤2000→sayT (some []) T=some T.bytes)∧(¬ (T.Ok∧T.bytes.length≤2000)→sayT (some []) T=none):=by
 constructor
 ·intro h
  rw [sayT_some h.1 (by simpa using h.2)]
  rfl
 ·intro h
  exact sayT_fail (fun k=>h ⟨k.1,by simpa using k.2⟩)
namespace Tm
end Tm
def lvF (args:List (List UInt8)):Unit→Tm→Nat→Tm × Unit
 | _,.sort l,_=>(.sort ((levelPut l args).getD []),())
 | _,.const n ls,_=>(.const n (ls.map fun l=>(levelPut l args).getD []),())
 | _,t,_=>(t,())
theorem mapM_some {args:List (List UInt8)}:∀ {ls r:List (List UInt8)},(ls.mapM fun l=>levelPut l args)=some r→(ls.map fun l=>(levelPut l args).getD [])=r
 | [],r,h=>by simp at h;subst h;rfl
 | l :: ls,r,h=>by
  rw [List.mapM_cons] at h
  obtain ⟨x,hx,h2⟩:=Option.bind_eq_some_iff.1 h
  obtain ⟨r',hr,h3⟩:=Option.bind_eq_some_iff.1 h2
  cases h3
  rw [List.map_cons,hx,mapM_some hr]
  rfl
theorem mapM_none {args:List (List UInt8)}:∀ {ls:List (List UInt8)},(ls.mapM fun l=>levelPut l args)=none→∃ l∈ls,levelPut l args=none
 | [],h=>by simp at h
 | l :: ls,h=>by
  cases hx:levelPut l args with
  | none=>exact ⟨l,List.mem_cons_self,hx⟩
  | some x =>
   rw [List.mapM_cons,hx] at h
   cases hr:(ls.mapM fun l=>levelPut l args) with
   | none =>
    obtain ⟨y,hy,h3⟩:=mapM_none hr
    exact ⟨y,List.mem_cons_of_mem _ hy,h3⟩
   | some r=>rw [hr] at h;cases h
theorem levelOk_nil:levelOk []=false:=by
 cases h:levelOk [] with
 | false=>rfl
 | true=>exact absurd rfl (levelOk_ne h)
theorem mapS_lvs (args:List (List UInt8)):∀ (T:Tm) (b:Nat),(∀ T',T.lvs args=some T'→(T.mapS (lvF args) () b).1=T')∧(T.lvs args=none→¬ (T.mapS (lvF args) () b).1.Ok)
 | .var n,b=>⟨fun T' h=>by cases h;rfl,fun h=>by cases h⟩
 | .sort l,b=>by
  cases hx:levelPut l args with
  | none =>
   refine ⟨fun T' h=>?_,fun _ hk=>?_⟩
   ·rw [Tm.lvs,hx] at h;cases h
   ·have h1:levelOk ((levelPut l args).getD [])=true:=hk
    rw [hx] at h1
    exact absurd h1 (by rw [Option.getD_none,levelOk_nil];decide)
  | some x =>
   refine ⟨fun T' h=>?_,fun h=>?_⟩
   ·rw [Tm.lvs,hx] at h
    cases h
    show Tm.sort ((levelPut l args).getD [])=_
    rw [hx];rfl
   ·rw [Tm.lvs,hx] at h;cases h
 | .const n ls,b=>by
  cases hx:(ls.mapM fun l=>levelPut l args) with
  | none =>
   refine ⟨fun T' h=>?_,fun _ hk=>?_⟩
   ·rw [Tm.lvs,hx] at h;cases h
   ·obtain ⟨y,hy,h3⟩:=mapM_none hx
    have h1:∀ x∈ls.map (fun l=>(levelPut l args).getD []),levelOk x=true:=hk.2.2
    have h2:=h1 [] (List.mem_map.2 ⟨y,hy,by rw [h3];rfl⟩)
    rw [levelOk_nil] at h2
    cases h2
  | some x =>
   refine ⟨fun T' h=>?_,fun h=>?_⟩
   ·rw [Tm.lvs,hx] at h
    cases h
    show Tm.const n (ls.map fun l=>(levelPut l args).getD [])=_
    rw [mapM_some hx]
   ·rw [Tm.lvs,hx] at h;cases h
 | .app x y,b=>by
  obtain ⟨p1,p2⟩:=mapS_lvs args x b
  obtain ⟨q1,q2⟩:=mapS_lvs args y b
  simp only [Tm.lvs,Tm.mapS]
  cases hx:x.lvs args with
  | none=>exact ⟨(fun T' h=>by cases h),fun _ hk=>p2 hx hk.1⟩
  | some x' =>
   cases hy:y.lvs args with
   | none=>exact ⟨(fun T' h=>by cases h),fun _ hk=>q2 hy hk.2⟩
   | some y'=>exact ⟨(fun T' h=>by cases h;rw [p1 _ hx,q1 _ hy]),(fun h=>by cases h)⟩
 | .lam x y,b=>by
  obtain ⟨p1,p2⟩:=mapS_lvs args x b
  obtain ⟨q1,q2⟩:=mapS_lvs args y (b+1)
  simp only [Tm.lvs,Tm.mapS]
  cases hx:x.lvs args with
  | none=>exact ⟨(fun T' h=>by cases h),fun _ hk=>p2 hx hk.1⟩
  | some x' =>
   cases hy:y.lvs args with
   | none=>exact ⟨(fun T' h=>by cases h),fun _ hk=>q2 hy hk.2⟩
   | some y'=>exact ⟨(fun T' h=>by cases h;rw [p1 _ hx,q1 _ hy]),(fun h=>by cases h)⟩
 | .pi x y,b=>by
  obtain ⟨p1,p2⟩:=mapS_lvs args x b
  obtain ⟨q1,q2⟩:=mapS_lvs args y (b+1)
  simp only [Tm.lvs,Tm.mapS]
  cases hx:x.lvs args with
  | none=>exact ⟨(fun T' h=>by cases h),fun _ hk=>p2 hx hk.1⟩
  | some x' =>
   cases hy:y.lvs args with
   | none=>exact ⟨(fun T' h=>by cases h),fun _ hk=>q2 hy hk.2⟩
   | some y'=>exact ⟨(fun T' h=>by cases h;rw [p1 _ hx,q1 _ hy]),(fun h=>by cases h)⟩
 | .lett x y z,b=>by
  obtain ⟨p1,p2⟩:=mapS_lvs args x b
  obtain ⟨q1,q2⟩:=mapS_lvs args y b
  obtain ⟨r1,r2⟩:=mapS_lvs args z (b+1)
  simp only [Tm.lvs,Tm.mapS]
  cases hx:x.lvs args with
  | none=>exact ⟨(fun T' h=>by cases h),fun _ hk=>p2 hx hk.1⟩
  | some x' =>
   cases hy:y.lvs args with
   | none=>exact ⟨(fun T' h=>by cases h),fun _ hk=>q2 hy hk.2.1⟩
   | some y' =>
    cases hz:z.lvs args with
    | none=>exact ⟨(fun T' h=>by cases h),fun _ hk=>r2 hz hk.2.2⟩
    | some z'=>exact ⟨(fun T' h=>by cases h;rw [p1 _ hx,q1 _ hy,r1 _ hz]),(fun h=>by cases h)⟩
theorem termLevels_say {l:List UInt8} {T:Tm} {args:List (List UInt8)} (hT:IsTm l T) (ha:args.length≤3):termLevels l args=sayT (some []) (T.mapS (lvF args) () 0).1:=by
 obtain ⟨h1,h2⟩:=mapS_lvs args T 0
 rw [termLevels,termOf_some hT]
 show (if args.length≤3 then _ else _)=_
 rw [if_pos ha]
 cases hx:T.lvs args with
 | none=>rw [(sayT_nil _).2 (fun h=>h2 hx h.1)];rfl
 | some T' =>
  rw [h1 _ hx]
  have hk:=(lvs_ok T T' hT.1 hx).1
  show (if T'.bytes.length≤2000 then some T'.bytes else none)=_
  by_cases hl:T'.bytes.length≤2000
  ·rw [if_pos hl,(sayT_nil T').1 ⟨hk,hl⟩]
  ·rw [if_neg hl,(sayT_nil T').2 (fun h=>hl h.2)]
theorem put_clean (l:List UInt8) (args:List (List UInt8)):(46:UInt8)∉(levelPut l args).getD []∧(44:UInt8)∉(levelPut l args).getD []∧((levelPut l args).getD []).length≤60:=by
 cases hx:levelPut l args with
 | none=>simp
 | some x =>
  have h1:=(levelPut_ok hx).1
  exact ⟨(level_clean h1).1,(level_clean h1).2,(levelOk_len h1).1⟩
theorem lvsB_short:∀ {ls:List (List UInt8)},(∀ y∈ls,y.length≤60)→(lvsB ls).length≤ls.length*61
 | [],_=>by simp [lvsB]
 | x :: r,h=>by
  have h1:=h x List.mem_cons_self
  have h2:=lvsB_short (ls:=r) fun y hy=>h y (List.mem_cons_of_mem _ hy)
  simp only [lvsB,List.length_append,List.length_cons]
  omega
theorem lv_leaf {args:List (List UInt8)} {B:Nat}:∀ (s:Unit) (t:Tm) (b:Nat),t.OkLeaf B b→(lvF args s t b).1.Pre∧(lvF args s t b).1.Lim 9999∧(lvF args s t b).1.bytes.length≤2000*t.bytes.length:=by
 rintro s t b ⟨hb,⟨n,hn,rfl⟩ | ⟨l,hl,rfl⟩ | ⟨n,ls,hk,rfl⟩⟩
 ·exact ⟨trivial,(by show n≤9999;omega),by show (Tm.var n).bytes.length≤_;omega⟩
 ·obtain ⟨h1,h2,h3⟩:=put_clean l args
  refine ⟨h1,trivial,?_⟩
  simp only [lvF,Tm.bytes,List.length_cons,List.length_append,List.length_nil]
  omega
 ·refine ⟨⟨name_no59 hk.1,fun x hx=>?_⟩,trivial,?_⟩
  ·obtain ⟨y,_,rfl⟩:=List.mem_map.1 hx
   exact ⟨(put_clean y args).1,(put_clean y args).2.1⟩
  ·have h3:ls.length≤3:=hk.2.1
   have h4:=lvsB_short (ls:=ls.map fun l=>(levelPut l args).getD []) (fun x hx=>by
    obtain ⟨y,_,rfl⟩:=List.mem_map.1 hx
    exact (put_clean y args).2.2)
   rw [List.length_map] at h4
   have h5:ls.length*61≤183:=by omega
   simp only [lvF,Tm.bytes,List.length_cons,List.length_append,List.length_nil]
   omega
end Go.Proofs.YtfohdgplaimomaaGreatDoor
