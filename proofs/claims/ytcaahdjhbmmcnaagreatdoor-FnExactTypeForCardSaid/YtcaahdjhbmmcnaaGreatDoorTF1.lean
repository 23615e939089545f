/- FMath FPost TNode -/
import Derived.Test.YtcaahdjhbmmcnaaGreatDoorTA1
import Derived.Test.YtcaahdjhbmmcnaaGreatDoorTA5
set_option maxRecDepth 100000
set_option maxHeartbeats 16000000
set_option linter.unusedSimpArgs false
set_option linter.unusedVariables false
namespace Go.Proofs.YtcaahdjhbmmcnaaGreatDoor
open Go
namespace Tm
def lift (a:Nat):Nat->Tm->Tm
|c,var n=>var (if c<=n then n+a else n)
|_,sort l=>sort l
|_,const n ls=>const n ls
|c,app f x=>app (lift a c f) (lift a c x)
|c,lam d b=>lam (lift a c d) (lift a (c+1) b)
|c,pi d b=>pi (lift a c d) (lift a (c+1) b)
|c,lett t v b=>lett (lift a c t) (lift a c v) (lift a (c+1) b)
def put (A:Tm):Nat->Tm->Tm
|u,var n=>if n=u then lift u 0 A else if u<n then var (n - 1) else var n
|_,sort l=>sort l
|_,const n ls=>const n ls
|u,app f x=>app (put A u f) (put A u x)
|u,lam d b=>lam (put A u d) (put A (u+1) b)
|u,pi d b=>pi (put A u d) (put A (u+1) b)
|u,lett t v b=>lett (put A u t) (put A u v) (put A (u+1) b)
def lvs (args:List (List UInt8)):Tm->Option Tm
|var n=>some (var n)
|sort l=>(zI l args).map sort
|const n ls=>(ls.mapM fun l=>zI l args).map (const n)
|app f x=>(lvs args f).bind fun f'=>(lvs args x).map (app f')
|lam d b=>(lvs args d).bind fun d'=>(lvs args b).map (lam d')
|pi d b=>(lvs args d).bind fun d'=>(lvs args b).map (pi d')
|lett t v b=>(lvs args t).bind fun t'=>(lvs args v).bind fun v'=>(lvs args b).map (lett t' v')
def params:Tm->Nat
|var _=>0
|sort l=>zE l
|const _ ls=>ls.foldl (fun m l=>max m (zE l)) 0
|app f x=>max (params f) (params x)
|lam d b=>max (params d) (params b)
|pi d b=>max (params d) (params b)
|lett t v b=>max (max (params t) (params v)) (params b)
theorem xK{a m:Nat}:∀ (T:Tm) (c:Nat),T.Lim m->(lift a c T).Lim (m+a)
|var n,c,hl=>by
  have h2:n<=m:=hl;show (if c<=n then n+a else n)<=m+a;split<;>omega
|sort _,_,_=>trivial
|const _ _,_,_=>trivial
|app f x,c,hl=>⟨xK f c hl.1,xK x c hl.2⟩
|lam f x,c,hl=>⟨xK f c hl.1,xK x (c+1) hl.2⟩
|pi f x,c,hl=>⟨xK f c hl.1,xK x (c+1) hl.2⟩
|lett f x y,c,hl=>⟨xK f c hl.1,xK x c hl.2.1,xK y (c+1) hl.2.2⟩
end Tm
end Go.Proofs.YtcaahdjhbmmcnaaGreatDoor
namespace Go.Proofs.YtcaahdjhbmmcnaaGreatDoor
open Go.ChangeShapes Go.WideShapes Go.ChangeAt Go.RowKit
namespace Tm
def post:Tm->List Tm
|var n=>[var n]
|sort l=>[sort l]
|const n ls=>[const n ls]
|app f a=>post f++(post a++[app f a])
|lam f a=>post f++(post a++[lam f a])
|pi f a=>post f++(post a++[pi f a])
|lett f a b=>post f++(post a++(post b++[lett f a b]))
theorem post_len:∀ T:Tm,T.post.length=T.size
|var _=>rfl
|sort _=>rfl
|const _ _=>rfl
|app f a=>by simp[post,size,post_len f,post_len a];omega
|lam f a=>by simp[post,size,post_len f,post_len a];omega
|pi f a=>by simp[post,size,post_len f,post_len a];omega
|lett f a b=>by simp[post,size,post_len f,post_len a,post_len b];omega
def lvOf:Tm->List (List UInt8)
|const _ ls=>ls
|_=>[]
def ownP:Tm->Nat
|sort l=>zE l
|const _ ls=>ls.foldl (fun m l=>max m (zE l)) 0
|_=>0
end Tm
theorem vR{α:Type}(f:α->Nat):∀ (l:List α) (m:Nat),l.foldl (fun m x=>max m (f x)) m=max m (l.foldl (fun m x=>max m (f x)) 0)
|[],m=>by simp
|x::l,m=>by
  rw[List.foldl_cons,List.foldl_cons,vR f l (max m (f x)),vR f l (max 0 (f x))];omega
theorem Tm.params_post:∀ T:Tm,T.params=T.post.foldl (fun m u=>max m u.ownP) 0
|var _=>rfl
|sort l=>by simp[params,post,ownP]
|const n ls=>by simp[params,post,ownP]
|app f a=>by
  rw[params,post,List.foldl_append,List.foldl_append,vR,← params_post f,vR _ a.post,← params_post a];simp[ownP]
|lam f a=>by
  rw[params,post,List.foldl_append,List.foldl_append,vR,← params_post f,vR _ a.post,← params_post a];simp[ownP]
|pi f a=>by
  rw[params,post,List.foldl_append,List.foldl_append,vR,← params_post f,vR _ a.post,← params_post a];simp[ownP]
|lett f a b=>by
  rw[params,post,List.foldl_append,List.foldl_append,List.foldl_append,vR,← params_post f,vR _ a.post,← params_post a,vR _ b.post,← params_post b];simp[ownP]
def lL (W:World) (B:Nat) (nd:Nd) (u:Tm):Prop :=
 nd.kind=u.kind/\(∀ l,u=.sort l->nd.text=l)/\W.ownsRow B 9 1 nd.lv u.lvOf.length (u.lvOf.map sv)
theorem sL.at:∀ {W:World} {B:Nat} {ns:List Nd} (T:Tm) (k:Nat),sL W B ns k T->T.size<=k+1/\∀ (i:Nat) (u:Tm),T.post[i]?=some u->∃ nd,ns[k+1 - T.size+i]?=some nd/\lL W B nd u:=by
 intro W B ns T;have one:∀ (k:Nat) (t:Tm) (nd:Nd),t.post=[t]->t.size=1->ns[k]?=some nd->lL W B nd t->t.size<=k+1/\∀ (i:Nat) (u:Tm),t.post[i]?=some u->∃ nd,ns[k+1 - t.size+i]?=some nd/\lL W B nd u:=fun k t nd hp hs hk hn=>by
  refine⟨by omega,fun i u hu=>?_⟩;rw[hp] at hu;cases i with
 |zero =>
   simp at hu;subst hu;exact⟨nd,by rw[hs];simpa using hk,hn⟩
 |succ i=>simp at hu
 have two:∀ (k:Nat) (f a t:Tm) (nd:Nd),(f.size<=nd.a+1/\∀ (i:Nat) (u:Tm),f.post[i]?=some u->∃ nd',ns[nd.a+1 - f.size+i]?=some nd'/\lL W B nd' u)->(a.size<=nd.b+1/\∀ (i:Nat) (u:Tm),a.post[i]?=some u->∃ nd',ns[nd.b+1 - a.size+i]?=some nd'/\lL W B nd' u) ->
   t.post=f.post++(a.post++[t])->t.size=f.size+a.size+1->nd.b+1=k->nd.a+a.size+1=k->ns[k]?=some nd->lL W B nd t->t.size<=k+1/\∀ (i:Nat) (u:Tm),t.post[i]?=some u->∃ nd,ns[k+1 - t.size+i]?=some nd/\lL W B nd u:=fun k f a t nd hf ha hp hs hb1 hb2 hk hn=>by
  have l1:=f.post_len;have l2:=a.post_len;refine⟨by omega,fun i u hu=>?_⟩;rw[hp] at hu;by_cases h1:i<f.post.length
  ·rw[List.getElem?_append_left h1] at hu;obtain⟨nd',h3,h4⟩:=hf.2 i u hu;exact⟨nd',by rw[show k+1 - t.size+i=nd.a+1 - f.size+i by omega];exact h3,h4⟩
  ·rw[List.getElem?_append_right (by omega)] at hu;by_cases h2:i - f.post.length<a.post.length
   ·rw[List.getElem?_append_left h2] at hu;obtain⟨nd',h3,h4⟩:=ha.2 _ u hu;exact⟨nd',by rw[show k+1 - t.size+i=nd.b+1 - a.size+(i - f.post.length) by omega];exact h3,h4⟩
   ·rw[List.getElem?_append_right (by omega)] at hu;have h5:i - f.post.length - a.post.length=0:=by
     cases h:i - f.post.length - a.post.length with
    |zero=>rfl
    |succ j=>rw[h] at hu;simp at hu
    rw[h5] at hu;simp at hu;subst hu;exact⟨nd,by rw[show k+1 - t.size+i=k by omega];exact hk,hn⟩
 induction T with
|var n =>
  intro k h;obtain⟨nd,h1,h2⟩:=h.1;exact one k _ nd rfl rfl h1 ⟨h2.1,(fun l e=>by cases e),by rw[h2.2.2];exact World.ownsRow_nil _ _ _ _⟩
|sort l =>
  intro k h;obtain⟨nd,h1,h2⟩:=h.1;exact one k _ nd rfl rfl h1 ⟨h2.1,(fun l' e=>by cases e;exact h2.2.1),by rw[h2.2.2];exact World.ownsRow_nil _ _ _ _⟩
|const n ls =>
  intro k h;obtain⟨nd,h1,h2⟩:=h.1;exact one k _ nd rfl rfl h1 ⟨h2.1,(fun l e=>by cases e),h2.2.2⟩
|app f a ihf iha =>
  intro k h;obtain⟨⟨nd,h1,h2,h3,h4⟩,⟨nd',g1,g0,g2,g3,g4,g5⟩⟩:=h;obtain rfl:nd=nd':=Option.some.inj (h1.symm.trans g1);exact two k f a _ nd (ihf nd.a ⟨h3,g4⟩) (iha nd.b ⟨h4,g5⟩) rfl rfl g2 g3 h1 ⟨h2,(fun l e=>by cases e),by rw[g0];exact World.ownsRow_nil _ _ _ _⟩
|lam f a ihf iha =>
  intro k h;obtain⟨⟨nd,h1,h2,h3,h4⟩,⟨nd',g1,g0,g2,g3,g4,g5⟩⟩:=h;obtain rfl:nd=nd':=Option.some.inj (h1.symm.trans g1);exact two k f a _ nd (ihf nd.a ⟨h3,g4⟩) (iha nd.b ⟨h4,g5⟩) rfl rfl g2 g3 h1 ⟨h2,(fun l e=>by cases e),by rw[g0];exact World.ownsRow_nil _ _ _ _⟩
|pi f a ihf iha =>
  intro k h;obtain⟨⟨nd,h1,h2,h3,h4⟩,⟨nd',g1,g0,g2,g3,g4,g5⟩⟩:=h;obtain rfl:nd=nd':=Option.some.inj (h1.symm.trans g1);exact two k f a _ nd (ihf nd.a ⟨h3,g4⟩) (iha nd.b ⟨h4,g5⟩) rfl rfl g2 g3 h1 ⟨h2,(fun l e=>by cases e),by rw[g0];exact World.ownsRow_nil _ _ _ _⟩
|lett f a b ihf iha ihb =>
  intro k h;obtain⟨⟨nd,h1,h2,h3,h4,h5⟩,⟨nd',g1,g0,g2,g3,g4,g5,g6,g7⟩⟩:=h;obtain rfl:nd=nd':=Option.some.inj (h1.symm.trans g1);obtain⟨f1,f2⟩:=ihf nd.a ⟨h3,g5⟩;obtain⟨a1,a2⟩:=iha nd.b ⟨h4,g6⟩;obtain⟨b1,b2⟩:=ihb nd.c ⟨h5,g7⟩;have l1:=f.post_len;have l2:=a.post_len;have l3:=b.post_len;have hsz:(Tm.lett f a b).size=f.size+a.size+b.size+1:=rfl;refine⟨by omega,fun i u hu=>?_⟩;rw[Tm.post] at hu;by_cases i1:i<f.post.length
  ·rw[List.getElem?_append_left i1] at hu;obtain⟨nd',p,q⟩:=f2 i u hu;exact⟨nd',by rw[show k+1 - (Tm.lett f a b).size+i=nd.a+1 - f.size+i by omega];exact p,q⟩
  ·rw[List.getElem?_append_right (by omega)] at hu;by_cases i2:i - f.post.length<a.post.length
   ·rw[List.getElem?_append_left i2] at hu;obtain⟨nd',p,q⟩:=a2 _ u hu;exact⟨nd',by rw[show k+1 - (Tm.lett f a b).size+i=nd.b+1 - a.size+(i - f.post.length) by omega];exact p,q⟩
   ·rw[List.getElem?_append_right (by omega)] at hu;by_cases i3:i - f.post.length - a.post.length<b.post.length
    ·rw[List.getElem?_append_left i3] at hu;obtain⟨nd',p,q⟩:=b2 _ u hu;exact⟨nd',by rw[show k+1 - (Tm.lett f a b).size+i=nd.c+1 - b.size+(i - f.post.length - a.post.length) by omega];exact p,q⟩
    ·rw[List.getElem?_append_right (by omega)] at hu;have h5:i - f.post.length - a.post.length - b.post.length=0:=by
      cases h:i - f.post.length - a.post.length - b.post.length with
     |zero=>rfl
     |succ j=>rw[h] at hu;simp at hu
     rw[h5] at hu;simp at hu;subst hu;exact⟨nd,by rw[show k+1 - (Tm.lett f a b).size+i=k by omega];exact h1,h2,(fun l e=>by cases e),by rw[g0];exact World.ownsRow_nil _ _ _ _⟩
theorem zF0:∀ (ns:List Nd) (k:Nat) (nd:Nd) (i:Nat),ns[k]?=some nd->i<7->(uG ns)[k*7+i]?=nd.cells[i]?
|[],k,nd,i,h,_=>by simp at h
|n::ns,0,nd,i,h,hi=>by
  simp at h;subst h;rw[Nat.zero_mul,Nat.zero_add,uG,List.flatMap_cons,List.getElem?_append_left (by rw[rK];exact hi)]
|n::ns,k+1,nd,i,h,hi=>by
  have:=zF0 ns k nd i (by simpa using h) hi;rw[← this];unfold uG;rw[List.flatMap_cons,List.getElem?_append_right (by rw[rK];omega),rK];congr 1;omega
theorem xP{W:World}{b g cap:Nat}{ns:List Nd}(h:W.ownsRow b 94 7 (.slice (some ⟨g,0,none⟩) ns.length cap) ns.length (uG ns)){k:Nat}{nd:Nd}(hk:ns[k]?=some nd)(i:Nat)(hi:i<7) :
  W.cell? ⟨g,k*7+i,none⟩=nd.cells[i]?:=by
 have h1:=zF0 ns k nd i hk hi;have hc:i<nd.cells.length:=by rw[rK];exact hi
 rw[List.getElem?_eq_getElem hc] at h1 |-;have:=h.cells (g:=g) rfl (k*7+i) _ h1;rw[add_plain,Nat.zero_add] at this;exact this
theorem Rep.lt{W:World}{B:Nat}{ns:List Nd}{k:Nat}{t:Tm}(h:Rep W B ns k t):∃ nd,ns[k]?=some nd/\k<ns.length:=by
 have hx:∃ nd,ns[k]?=some nd:=by
  cases t with
 |var n=>obtain⟨nd,h,_⟩:=h;exact⟨nd,h⟩
 |sort n=>obtain⟨nd,h,_⟩:=h;exact⟨nd,h⟩
 |const n ls=>obtain⟨nd,h,_⟩:=h;exact⟨nd,h⟩
 |app f a=>obtain⟨nd,h,_⟩:=h;exact⟨nd,h⟩
 |lam f a=>obtain⟨nd,h,_⟩:=h;exact⟨nd,h⟩
 |pi f a=>obtain⟨nd,h,_⟩:=h;exact⟨nd,h⟩
 |lett f a b=>obtain⟨nd,h,_⟩:=h;exact⟨nd,h⟩
 obtain⟨nd,hn⟩:=hx;refine⟨nd,hn,?_⟩;by_cases hl:k<ns.length
 ·exact hl
 ·rw[List.getElem?_eq_none (by omega)] at hn;cases hn
theorem xT{W:World}{b g cap:Nat}{ns:List Nd}(h:W.ownsRow b 94 7 (.slice (some ⟨g,0,none⟩) ns.length cap) ns.length (uG ns)){k:Nat}{nd:Nd}(hk:ns[k]?=some nd){x:Option Addr}{y z:Nat}(hl:nd.lv=.slice x y z):W.cell? ⟨g,k*7,none⟩=some (.int .u8 (nd.kind.toNat:Int))/\W.cell? ⟨g,k*7+1,none⟩=some (.int .i64 (nd.a:Int))/\W.cell? ⟨g,k*7+2,none⟩=some (.int .i64 (nd.b:Int))/\W.cell? ⟨g,k*7+3,none⟩=some (.int .i64 (nd.c:Int))/\W.cell? ⟨g,k*7+4,none⟩=some (.int .i64 (nd.num:Int))/\W.cell? ⟨g,k*7+5,none⟩=some (.string ⟨nd.text.toArray⟩)/\W.cell? ⟨g,k*7+6,none⟩=some (.slice x y z):=⟨xP h hk 0 (by decide),xP h hk 1 (by decide),xP h hk 2 (by decide),xP h hk 3 (by decide),xP h hk 4 (by decide),xP h hk 5 (by decide),by rw[← hl];exact xP h hk 6 (by decide)⟩
end Go.Proofs.YtcaahdjhbmmcnaaGreatDoor
