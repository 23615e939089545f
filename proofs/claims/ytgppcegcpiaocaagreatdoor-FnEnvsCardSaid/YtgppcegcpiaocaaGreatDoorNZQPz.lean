/- QPz QTy -/
import Derived.Test.YtgppcegcpiaocaaGreatDoorNKC
import Derived.Test.YtgppcegcpiaocaaGreatDoorNV1
import Derived.Test.YtgppcegcpiaocaaGreatDoorNQD
set_option maxRecDepth 100000
set_option maxHeartbeats 16000000
set_option linter.unusedSimpArgs false
set_option linter.unusedVariables false
namespace Go.Proofs.YtgppcegcpiaocaaGreatDoor
open Go.ChangeShapes Go.WideShapes Go.ChangeAt Go.RowKit
def zs (m:Nat):List (List UInt8):=List.replicate m [43,122]
theorem lH(m:Nat):(zs m).length=m:=List.length_replicate
theorem zs_at{m i:Nat}(h:i<m):(zs m).getD i []=[43,122]:=by
 unfold zs;rw[List.getD_eq_getElem?_getD,List.getElem?_replicate,iP h];rfl
theorem zs_ok(m:Nat):∀ x∈zs m,zD x=true:=by
 intro x hx;rw[(List.mem_replicate.1 hx).2];simp[zD,zY]
theorem putZ{m:Nat}:∀ (n:Nat) (l:List UInt8),l.length<=n->(∀ i (hi:i<l.length),l[i]=117->∃ hj:i+1<l.length,(l[i+1]'hj).toNat - 48<m)->(nY (zs m) l).length=l.length/\∀ x∈nY (zs m) l,x≠117:=by
 intro n
 induction n using Nat.strongRecOn with
|ind n ih =>
  intro l hn h
  match l,h,hn with
 |[],_,_=>rw[nY];exact⟨rfl,fun x hx=>by cases hx⟩
 |[c],h,_ =>
   rw[nY];refine⟨rfl,fun x hx=>?_⟩;simp only[List.mem_cons,List.not_mem_nil,or_false] at hx;subst hx;intro e;obtain⟨hj,_⟩:=h 0 (by simp) (by simpa using e);simp at hj
 |c::d::r,h,hn =>
   rw[nY];simp only[lC] at hn;by_cases hc:c=117
   ·rw[iP hc];obtain⟨hj,hd⟩:=h 0 (by simp) (by simpa using hc);have hd':d.toNat - 48<m:=(by simpa using hd);rw[zs_at hd'];obtain⟨i1,i2⟩:=ih (n - 1) (by omega) r (by omega) fun i hi e=>by
     obtain⟨hj,hh⟩:=h (i+2) (by simp;omega) (by simpa using e);exact⟨by simp at hj |-;omega,by simpa using hh⟩
    refine⟨by simp[i1],fun x hx=>?_⟩;simp only[List.mem_append,List.mem_cons,List.not_mem_nil,or_false] at hx;rcases hx with (rfl|rfl)|hx
    ·decide
    ·decide
    ·exact i2 x hx
   ·rw[iN hc];obtain⟨i1,i2⟩:=ih (n - 1) (by omega) (d::r) (by simp;omega) fun i hi e=>by
     obtain⟨hj,hh⟩:=h (i+1) (by simp at hi |-;omega) (by simpa using e);exact⟨by simp at hj |-;omega,by simpa using hh⟩
    refine⟨by simp[i1],fun x hx=>?_⟩;rw[List.mem_cons] at hx;rcases hx with rfl|hx
    ·exact hc
    ·exact i2 x hx
theorem xH6:∀ (l:List UInt8) (n:Nat),(∀ x∈l,x≠117)->xJ n l=n:=by
 intro l
 induction l with
|nil=>intro n _;rfl
|cons c l ih =>
  intro n h;rw[xJ,iN (fun k=>h c (List.mem_cons_self ..) k.1)];exact ih n fun x hx=>h x (List.mem_cons_of_mem _ hx)
theorem zI0{l:List UInt8}{m:Nat}(h:zD l=true)(hp:zC l<=m)(hm:m<=3):∃ r,zS l (zs m)=some r/\r.length=l.length/\zC r=0:=by
 obtain⟨h60,hle⟩:=zU h;obtain⟨p1,p2⟩:=putZ (m:=m) l.length l (nR _) fun i hi e=>by
  obtain⟨hj,ha,hb⟩:=mR l 1 hle i hi e;refine⟨hj,?_⟩
  have h1:=jX.of h (l.take i) l[i+1] (l.drop (i+2)) (by
   rw[← e]
   conv=>lhs;rw[← List.take_append_drop i l]
   rw[List.drop_eq_getElem_cons hi,List.drop_eq_getElem_cons hj])
  omega
 refine⟨nY (zs m) l,?_,p1,?_⟩
 ·unfold zS;rw[iP ⟨h,by rw[lH];exact hm,by rw[lH];exact hp,zs_ok m,by omega⟩]
 ·unfold zC;split
  ·exact xH6 _ 0 p2
  ·rfl
theorem mapZ{m:Nat}(hm:m<=3):∀ {ls:List (List UInt8)},(∀ y∈ls,zD y=true/\zC y<=m)->∃ rs,(ls.mapM fun l=>zS l (zs m))=some rs/\(yH rs).length=(yH ls).length/\∀ y∈rs,zC y=0:=by
 intro ls
 induction ls with
|nil=>intro _;exact⟨[],rfl,rfl,fun y h=>(by cases h)⟩
|cons l ls ih =>
  intro h;obtain⟨a,b⟩:=h l (List.mem_cons_self ..);obtain⟨r,r1,r2,r3⟩:=zI0 a b hm;obtain⟨rs,s1,s2,s3⟩:=ih fun y hy=>h y (List.mem_cons_of_mem _ hy);refine⟨r::rs,?_,by simp[yH,r2,s2],fun y hy=>?_⟩
  ·rw[List.mapM_cons,r1,s1];rfl
  ·rw[List.mem_cons] at hy;rcases hy with rfl|hy
   ·exact r3
   ·exact s3 y hy
theorem yP7{ls:List (List UInt8)}(h:∀ y∈ls,zC y=0):ls.foldl (fun m l=>max m (zC l)) 0=0:=by
 induction ls with
|nil=>rfl
|cons l ls ih =>
  rw[List.foldl_cons,h l (List.mem_cons_self ..)];exact ih fun y hy=>h y (List.mem_cons_of_mem _ hy)
theorem xB3{ls:List (List UInt8)}{m:Nat}(h:ls.foldl (fun m l=>max m (zC l)) 0<=m):∀ y∈ls,zC y<=m:=by
 induction ls with
|nil=>intro y hy;cases hy
|cons l ls ih =>
  rw[List.foldl_cons,vM zC ls] at h;intro y hy;rw[List.mem_cons] at hy;rcases hy with rfl|hy
  ·omega
  ·exact ih (by omega) y hy
theorem yU4{m:Nat}(hm:m<=3):∀ (T:Tm),T.Ok->T.params<=m->∃ T',T.lvs (zs m)=some T'/\T'.bytes.length=T.bytes.length/\T'.opn=T.opn/\T'.params=0
|.var n,_,_=>⟨.var n,rfl,rfl,rfl,rfl⟩
|.sort l,hk,hp=>by
  obtain⟨r,r1,r2,r3⟩:=zI0 (m:=m) hk hp hm;exact⟨.sort r,by rw[Tm.lvs,r1];rfl,by simp[Tm.bytes,r2],rfl,r3⟩
|.const n ls,hk,hp=>by
  obtain⟨rs,s1,s2,s3⟩:=mapZ hm (ls:=ls) fun y hy=>⟨hk.2.2 y hy,xB3 hp y hy⟩;exact⟨.const n rs,by rw[Tm.lvs,s1];rfl,by simp[Tm.bytes,s2],rfl,yP7 s3⟩
|.app f a,hk,hp=>by
  simp only[Tm.params] at hp;obtain⟨f',f1,f2,f3,f4⟩:=yU4 hm f hk.1 (by omega);obtain⟨a',a1,a2,a3,a4⟩:=yU4 hm a hk.2 (by omega);exact⟨.app f' a',by rw[Tm.lvs,f1,a1];rfl,by simp[Tm.bytes,f2,a2],by simp[Tm.opn,f3,a3],by simp[Tm.params,f4,a4]⟩
|.lam f a,hk,hp=>by
  simp only[Tm.params] at hp;obtain⟨f',f1,f2,f3,f4⟩:=yU4 hm f hk.1 (by omega);obtain⟨a',a1,a2,a3,a4⟩:=yU4 hm a hk.2 (by omega);exact⟨.lam f' a',by rw[Tm.lvs,f1,a1];rfl,by simp[Tm.bytes,f2,a2],by simp[Tm.opn,f3,a3],by simp[Tm.params,f4,a4]⟩
|.pi f a,hk,hp=>by
  simp only[Tm.params] at hp;obtain⟨f',f1,f2,f3,f4⟩:=yU4 hm f hk.1 (by omega);obtain⟨a',a1,a2,a3,a4⟩:=yU4 hm a hk.2 (by omega);exact⟨.pi f' a',by rw[Tm.lvs,f1,a1];rfl,by simp[Tm.bytes,f2,a2],by simp[Tm.opn,f3,a3],by simp[Tm.params,f4,a4]⟩
|.lett t v b,hk,hp=>by
  simp only[Tm.params] at hp;obtain⟨t',t1,t2,t3,t4⟩:=yU4 hm t hk.1 (by omega);obtain⟨v',v1,v2,v3,v4⟩:=yU4 hm v hk.2.1 (by omega);obtain⟨b',b1,b2,b3,b4⟩:=yU4 hm b hk.2.2 (by omega);exact⟨.lett t' v' b',by rw[Tm.lvs,t1,v1,b1];rfl,by simp[Tm.bytes,t2,v2,b2],by simp[Tm.opn,t3,v3,b3],by simp[Tm.params,t4,v4,b4]⟩
theorem gV{l:List UInt8}{m:Nat}(hm:m<=3)(hk:yF l=true)(ho:yW l=0)(hp:yY l<=m):∃ r,yE l (zs m)=some r/\yW r=0/\yY r=0:=by
 unfold yF at hk;cases hT:vN l with
|none=>rw[hT] at hk;cases hk
|some T =>
  have hi:=vS hT;unfold yW at ho;unfold yY at hp;rw[hT] at ho hp;obtain⟨T',t1,t2,t3,t4⟩:=yU4 hm T hi.1 hp;have hb:T'.bytes.length<=2000:=by
   have h1:=hi.2.2;rw[← hi.2.1] at h1;omega
  have hok':=(oX T T' hi.1 t1).1;have hT':vN T'.bytes=some T':=zW ⟨hok',rfl,hb⟩;refine⟨T'.bytes,?_,?_,?_⟩
  ·unfold yE;rw[hT];show (if (zs m).length<=3 then _ else _)=_;rw[lH,iP hm,t1];show (if T'.bytes.length<=2000 then _ else _)=_;rw[iP hb]
  ·unfold yW;rw[hT'];show T'.opn=0;rw[t3];exact ho
  ·unfold yY;rw[hT'];exact t4
theorem tJ(o:Option (List UInt8)):∃ t b,vO o=.tuple #[.string t,.bool b]:=by
 cases o with
|none=>exact⟨_,_,rfl⟩
|some t=>exact⟨_,_,rfl⟩
theorem zO8{d:Dc}{r:List UInt8}(h:uJ d=some r):r.length<=2000:=by
 unfold uJ at h;split at h
 ·split at h
  ·cases h
  ·exact iV h
 ·cases h
noncomputable def fH (env:List En) (r:Int × Int × Int):Option (List UInt8):=match env[r.2.1.toNat]? with
|some e=>if r.1=5 then (e.1.ctors[r.2.2.toNat]?).map (fun c=>c.2) else if r.1=6 then uJ e.1 else some e.1.type
|none=>none
noncomputable def mB (env:List En) (r:Int × Int × Int) (ls:List (List UInt8)):Option (List UInt8) :=
 if r.1=0\/(ls.length:Int)≠vW env r then none else (fH env r).bind fun t=>yE t ls
noncomputable def rG (env:List En) (n:List UInt8) (ls:List (List UInt8)):Option (List UInt8):=mB env (yC env n) ls
noncomputable def mI (env:List En) (r:Int × Int × Int) (ls:List (List UInt8)):Option (List UInt8) :=
 if r.1≠2\/(ls.length:Int)≠vW env r then none else match env[r.2.1.toNat]? with
 |some e=>yE e.1.value ls
 |none=>none
noncomputable def sX (env:List En) (n:List UInt8) (ls:List (List UInt8)):Option (List UInt8):=mI env (yC env n) ls
theorem aL{env:List En}{r:Int × Int × Int}{j:Nat}{e:En}(he:env[j]?=some e)(hj:r.2.1=(j:Int)):fH env r=if r.1=5 then (e.1.ctors[r.2.2.toNat]?).map (fun c=>c.2) else if r.1=6 then uJ e.1 else some e.1.type:=by
 unfold fH;rw[hj,Int.toNat_natCast,he]
end Go.Proofs.YtgppcegcpiaocaaGreatDoor
