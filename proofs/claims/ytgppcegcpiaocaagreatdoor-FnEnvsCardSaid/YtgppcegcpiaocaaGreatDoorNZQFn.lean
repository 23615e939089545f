/- KLibQ QFn QLawE -/
import Derived.Test.YtgppcegcpiaocaaGreatDoorNKD
import Derived.Test.YtgppcegcpiaocaaGreatDoorNQKnw
import Derived.Test.YtgppcegcpiaocaaGreatDoorNQLk
import Derived.Test.YtgppcegcpiaocaaGreatDoorNZQPz
import Derived.Test.YtgppcegcpiaocaaGreatDoorNZGUs
import Derived.Test.YtgppcegcpiaocaaGreatDoorNZQLa
import Derived.Test.YtgppcegcpiaocaaGreatDoorNQI
import Derived.Test.YtgppcegcpiaocaaGreatDoorNQD
import Derived.Test.YtgppcegcpiaocaaGreatDoorNZGOr
import Derived.Test.YtgppcegcpiaocaaGreatDoorNV1
set_option maxRecDepth 100000
set_option maxHeartbeats 16000000
set_option linter.unusedSimpArgs false
set_option linter.unusedVariables false
namespace Go.Proofs.YtgppcegcpiaocaaGreatDoor
open Go.ChangeShapes Go.WideShapes Go.ChangeAt Go.RowKit
structure RecQ (d:Dc) (m:Nat):Prop where
 lv:yU d=(m:Int)
 ty:∃ T:Tm,uJ d=some T.bytes/\T.Ok/\T.bytes.length<=2000/\T.opn=0/\T.params<=m
def yX8 (m:Nat):List (List UInt8):=if m=0 then [[122],[43,122]] else if m=1 then [[122],[43,122],[117,48]] else if m=2 then [[122],[43,122],[117,48],[117,49],[43,109,117,48,43,122]] else []
theorem zX2{m:Nat}{l:List UInt8}(h:(yX8 m).contains l=true):zC l<=m:=by
 have a0:zC [122]=0:=by simp[zC,xJ]
 have a1:zC [43,122]=0:=by simp[zC,xJ]
 have a2:zC [117,48]<=1:=by unfold zC;split<;>simp[xJ]
 have a3:zC [117,49]<=2:=by unfold zC;split<;>simp[xJ]
 have a4:zC [43,109,117,48,43,122]<=1:=by unfold zC;split<;>simp[xJ]
 rw[List.contains_iff_mem] at h;unfold yX8 at h;split at h
 ·simp only[List.mem_cons,List.not_mem_nil,or_false] at h;rcases h with rfl|rfl<;>omega
 ·split at h
  ·simp only[List.mem_cons,List.not_mem_nil,or_false] at h;rcases h with rfl|rfl|rfl<;>omega
  ·split at h
   ·simp only[List.mem_cons,List.not_mem_nil,or_false] at h;rcases h with rfl|rfl|rfl|rfl|rfl<;>omega
   ·cases h
def Tm.parB (m:Nat):Tm->Bool
|.var _=>true
|.sort l=>(yX8 m).contains l
|.const _ ls=>ls.all fun l=>(yX8 m).contains l
|.app f x=>Tm.parB m f&&Tm.parB m x
|.lam d b=>Tm.parB m d&&Tm.parB m b
|.pi d b=>Tm.parB m d&&Tm.parB m b
|.lett t v b=>Tm.parB m t&&(Tm.parB m v&&Tm.parB m b)
theorem zY4{m:Nat}:∀ (ls:List (List UInt8)) (k:Nat),k<=m->(∀ x∈ls,zC x<=m)->ls.foldl (fun m l=>max m (zC l)) k<=m
|[],k,hk,_=>hk
|l::ls,k,hk,h=>zY4 ls _ (Nat.max_le.2 ⟨hk,h l (List.mem_cons_self ..)⟩) fun x hx=>h x (List.mem_cons_of_mem _ hx)
theorem qK{m:Nat}:∀ {t:Tm},t.parB m=true->t.params<=m
|.var _,_=>Nat.zero_le _
|.sort l,h=>zX2 h
|.const _ ls,h=>zY4 ls 0 (Nat.zero_le _) fun x hx=>zX2 (List.all_eq_true.1 h x hx)
|.app f x,h=>by
  simp only[Tm.parB,Bool.and_eq_true] at h;exact Nat.max_le.2 ⟨qK h.1,qK h.2⟩
|.lam f x,h=>by
  simp only[Tm.parB,Bool.and_eq_true] at h;exact Nat.max_le.2 ⟨qK h.1,qK h.2⟩
|.pi f x,h=>by
  simp only[Tm.parB,Bool.and_eq_true] at h;exact Nat.max_le.2 ⟨qK h.1,qK h.2⟩
|.lett f x y,h=>by
  simp only[Tm.parB,Bool.and_eq_true] at h;exact Nat.max_le.2 ⟨Nat.max_le.2 ⟨qK h.1,qK h.2.1⟩,qK h.2.2⟩
theorem kZ{d:Dc}{lv:List UInt8}(h:LibP d lv){self:Tm}(hs:uE d=self){lvM:List UInt8}(hM:yM d=(Tm.sort lvM).bytes){ms:List Tm}(hl:ms.length=d.ctors.length)
  (hm:∀ (k:Nat) (hk:k<ms.length),yD d (k:Int)=some ms[k].bytes) (hf:aJ self lvM ms=true) {m:Nat} (hv:yU d=(m:Int)) (hp:(yJ4 self lvM ms).parB m=true):RecQ d m:=by
 have e:=zF3 h hs hM hl hm hf;simp only[aJ,Bool.and_eq_true,decide_eq_true_eq,List.all_eq_true] at hf;obtain⟨_,_,_,_,hr,ho,hd⟩:=hf;exact⟨hv,_,e,(tX hr).1,(tX hr).2,ho,qK hp⟩
theorem xI7:RecQ qB 1:=by
 refine kZ mP (self:=.const [110,97,116] []) (lvM:=[117,48]) (ms:=[xP [110,97,116,46,122,101,114,111] [] 0 ([]:List (Tm × Bool)),xP [110,97,116,46,115,117,99,99] [] 1 ([((.const [110,97,116] []),true)]:List (Tm × Bool))]) ?_ ?_ rfl ?_ (by decide) (m:=1) ?_ ?_
 ·rw[uE,show qB.params=0 from rfl,vQ];rfl
 ·rw[yM,iP mP.data,yM8];simp[Tm.bytes,show qB.params=0 from rfl,nB]
 ·intro k hk;have hk2:k<2:=hk;have e:k=0\/k=1:=(by omega);rcases e with rfl|rfl
  ·exact yY5
  ·exact yY4
 ·rw[yU,iP mP.data,yM8];rfl
 ·decide
theorem yY8:RecQ tL 1:=by
 refine kZ pS (self:=.const [98,111,111,108] []) (lvM:=[117,48]) (ms:=[xP [98,111,111,108,46,116,116] [] 0 ([]:List (Tm × Bool)),xP [98,111,111,108,46,102,102] [] 1 ([]:List (Tm × Bool))]) ?_ ?_ rfl ?_ (by decide) (m:=1) ?_ ?_
 ·rw[uE,show tL.params=0 from rfl,vQ];rfl
 ·rw[yM,iP pS.data,zY0];simp[Tm.bytes,show tL.params=0 from rfl,nB]
 ·intro k hk;have hk2:k<2:=hk;have e:k=0\/k=1:=(by omega);rcases e with rfl|rfl
  ·exact yN4
  ·exact yN3
 ·rw[yU,iP pS.data,zY0];rfl
 ·decide
theorem yY3:RecQ tK 1:=by
 refine kZ pQ (self:=.const [116,114,101,101] []) (lvM:=[117,48]) (ms:=[xP [116,114,101,101,46,108,101,97,102] [] 0 ([]:List (Tm × Bool)),xP [116,114,101,101,46,110,111,100,101] [] 1 ([((.const [110,97,116] []),false),((.pi (.const [110,97,116] []) (.const [116,114,101,101] [])),true)]:List (Tm × Bool))]) ?_ ?_ rfl ?_ (by decide) (m:=1) ?_ ?_
 ·rw[uE,show tK.params=0 from rfl,vQ];rfl
 ·rw[yM,iP pQ.data,zX4];simp[Tm.bytes,show tK.params=0 from rfl,nB]
 ·intro k hk;have hk2:k<2:=hk;have e:k=0\/k=1:=(by omega);rcases e with rfl|rfl
  ·exact yM7
  ·exact yM6
 ·rw[yU,iP pQ.data,zX4];rfl
 ·decide
theorem yM9:RecQ nV 0:=by
 refine kZ oZ (self:=.const [102,97,108,115,101] []) (lvM:=[122]) (ms:=[]) ?_ ?_ rfl ?_ (by decide) (m:=0) ?_ ?_
 ·rw[uE,show nV.params=0 from rfl,vQ];rfl
 ·rw[yM,iP oZ.data,zH5];simp[Tm.bytes,show nV.params=0 from rfl,nB]
 ·intro k hk;have hk2:k<0:=hk;omega
 ·rw[yU,iP oZ.data,zH5];rfl
 ·decide
theorem xI9:RecQ mE 1:=by
 refine kZ jG (self:=.const [98,105,103] []) (lvM:=[117,48]) (ms:=[xP [98,105,103,46,109,107] [] 0 ([((.sort [43,122]),false)]:List (Tm × Bool))]) ?_ ?_ rfl ?_ (by decide) (m:=1) ?_ ?_
 ·rw[uE,show mE.params=0 from rfl,vQ];rfl
 ·rw[yM,iP jG.data,yN5];simp[Tm.bytes,show mE.params=0 from rfl,nB]
 ·intro k hk;have hk2:k<1:=hk;obtain rfl:k=0:=(by omega);exact yY9
 ·rw[yU,iP jG.data,yN5];rfl
 ·decide
theorem xI8:RecQ xU 2:=by
 refine kZ jF (self:=.const [98,111,120] [[117,48]]) (lvM:=[117,49]) (ms:=[xP [98,111,120,46,109,107] [[117,48]] 0 ([((.sort [117,48]),false),((.var 0),false)]:List (Tm × Bool))]) ?_ ?_ rfl ?_ (by decide) (m:=2) ?_ ?_
 ·rw[uE,show xU.params=1 from rfl,yM1];rfl
 ·rw[yM,iP jF.data,yN2];simp[Tm.bytes,show xU.params=1 from rfl,xA5]
 ·intro k hk;have hk2:k<1:=hk;obtain rfl:k=0:=(by omega);exact yY7
 ·rw[yU,iP jF.data,yN2];rfl
 ·decide
theorem zU1:yA (zR sP) sP.name (Tm.pi (.const [99,117,114,114,121] []) (.const [110,97,116] [])).bytes=2:=by
 rw[lB (by simp[Tm.Ok,zD,zY]<;>decide) (by decide)];unfold vI;rw[iP (by decide),iP (by decide)]
theorem yF7:zT (yR sP 0)=[(Tm.pi (.const [99,117,114,114,121] []) (.const [110,97,116] [])).bytes]:=by
 have hb:yR sP 0=(Tm.pi (.pi (.const [99,117,114,114,121] []) (.const [110,97,116] [])) (.const [99,117,114,114,121] [])).bytes:=by decide
 rw[hb];unfold zT;rw[xE (by simp[Tm.Ok,zD,zY]<;>decide) (by decide)];rfl
theorem yF6:uJ sP=none:=by
 have hm:yD sP ((0:Nat):Int)=none:=by
  unfold yD;split
  ·show lU sP 0 _ (vG 0 _ (yA (zR sP) sP.name) (zT (yR sP 0)) 0 0 _)=none;rw[yF7,vG,iP zU1];rfl
  ·rfl
 unfold uJ;split
 ·rw[show tR sP sP.ctors.length 0=none by
   show tR sP 1 0=none;rw[tR,hm]]
 ·rfl
theorem yY2{j:Nat}(hj:j<18)(h4:(pK j).kind=4):(j=11/\pK j=sP)\/(j≠11/\∃ m,m<=3/\RecQ (pK j) m):=by
 have e:j=0\/j=1\/j=2\/j=3\/j=4\/j=5\/j=6\/j=7\/j=8\/j=9\/j=10\/j=11\/j=12\/j=13\/j=14\/j=15\/j=16\/j=17:=by omega
 rcases e with rfl|rfl|rfl|rfl|rfl|rfl|rfl|rfl|rfl|rfl|rfl|rfl|rfl|rfl|rfl|rfl|rfl|rfl
 ·exact .inr ⟨by decide,1,by decide,xI7⟩
 ·exact absurd h4 (by decide)
 ·exact absurd h4 (by decide)
 ·exact absurd h4 (by decide)
 ·exact absurd h4 (by decide)
 ·exact absurd h4 (by decide)
 ·exact absurd h4 (by decide)
 ·exact absurd h4 (by decide)
 ·exact absurd h4 (by decide)
 ·exact .inr ⟨by decide,1,by decide,yY8⟩
 ·exact absurd h4 (by decide)
 ·exact .inl ⟨rfl,rfl⟩
 ·exact .inr ⟨by decide,1,by decide,yY3⟩
 ·exact .inr ⟨by decide,0,by decide,yM9⟩
 ·exact .inr ⟨by decide,1,by decide,xI9⟩
 ·exact absurd h4 (by decide)
 ·exact .inr ⟨by decide,2,by decide,xI8⟩
 ·exact absurd h4 (by decide)
theorem yY1{j:Nat}(hj:j<18):(pK j).name=[99,117,114,114,121]↔j=11:=by
 have e:j=0\/j=1\/j=2\/j=3\/j=4\/j=5\/j=6\/j=7\/j=8\/j=9\/j=10\/j=11\/j=12\/j=13\/j=14\/j=15\/j=16\/j=17:=by omega
 rcases e with rfl|rfl|rfl|rfl|rfl|rfl|rfl|rfl|rfl|rfl|rfl|rfl|rfl|rfl|rfl|rfl|rfl|rfl<;>decide
theorem jP{j:Nat}{e:En}(he:(xL 18)[j]?=some e):j<18/\e.1=pK j:=by
 have hj:j<18:=by
  rw[List.getElem?_eq_some_iff] at he;obtain⟨h,_⟩:=he;rw[pR] at h;exact h
 have h:=congrArg (fun l=>l[j]?) (eD 18);simp only[List.getElem?_map,he,Option.map_some,List.getElem?_range hj] at h;exact⟨hj,Option.some.inj h⟩
theorem qG{t:List UInt8}{p:Int}(h:zH t p=true):yF t=true/\yW t=0/\(yY t:Int)<=p:=by
 simp only[zH,Bool.and_eq_true,decide_eq_true_eq] at h;exact h
theorem zN2{d:Dc}(hok:zJ d=true):zH d.type d.params=true:=by
 simp only[zJ,Bool.and_eq_true] at hok;exact hok.2.2.2.1
theorem zU2{d:Dc}(hok:zJ d=true){k:Nat}(hk:k<d.ctors.length):zH d.ctors[k].2 d.params=true:=by
 simp only[zJ,Bool.and_eq_true] at hok;have h1:=hok.2.2.2.2;unfold zQ at h1;split at h1
 ·simp only[Bool.and_eq_true,decide_eq_true_eq] at h1;omega
 ·split at h1
  ·simp only[Bool.and_eq_true,decide_eq_true_eq] at h1;omega
  ·split at h1
   ·simp only[xV,Bool.and_eq_true,yQ,decide_eq_true_eq] at h1;have h2:=(h1.2.2.2.2.2.2 k hk hk).1;simp only[oM,jZ,Bool.and_eq_true] at h2;exact h2.2.2.2
   ·cases h1
theorem zD7{d:Dc}(hok:zJ d=true)(h2:d.kind=2):zH d.value d.params=true:=by
 simp only[zJ,Bool.and_eq_true] at hok;have h1:=hok.2.2.2.2;unfold zQ at h1;rw[h2,iN (by decide),iP (by decide)] at h1;simp only[Bool.and_eq_true] at h1;exact h1.2.1
theorem closedZ{t:List UInt8}{m:Nat}(hm:m<=3)(h:zH t (m:Int)=true):∃ r,yE t (zs m)=some r/\yW r=0/\yY r=0:=by
 obtain⟨h1,h2,h3⟩:=qG h;exact gV hm h1 h2 (by omega)
theorem dS{l r:List UInt8}{ls:List (List UInt8)}(h:yE l ls=some r):r.length<=2000:=by
 unfold yE at h;split at h
 ·split at h
  ·rename_i T _ _;cases hT:T.lvs ls with
  |none=>rw[hT] at h;cases h
  |some T' =>
    rw[hT] at h;simp only[Option.bind_some] at h;split at h
    ·rename_i hl;cases h;exact hl
    ·cases h
  ·cases h
 ·cases h
theorem zN3{env:List En}{r:Int × Int × Int}{ls t:List (List UInt8)}{raw x:List UInt8}(h0:r.1≠0)(hm:(ls.length:Int)=vW env r)(hr:fH env r=some raw)(hx:yE raw ls=some x):mB env r ls=some x:=by
 unfold mB;rw[iN (fun h=>h.elim h0 (fun h=>h hm)),hr];exact hx
theorem xI6{n:List UInt8}(hn:n∈tW (xL 18)):∃ (j m:Nat),j<18/\(yC (xL 18) n).1≠0/\(yC (xL 18) n).2.1=(j:Int)/\0<=(yC (xL 18) n).2.2/\uN (xL 18) n=(m:Int)/\m<=3 /\
  rG (xL 18) n (zs m++[[122]])=none/\((sX (xL 18) n (zs m)).isSome=true↔(yC (xL 18) n).1=2) /\
  (((yC (xL 18) n).1=6/\j=11/\rG (xL 18) n (zs m)=none)\/(¬ ((yC (xL 18) n).1=6/\j=11)/\∃ t,rG (xL 18) n (zs m)=some t/\t.length<=2000/\yW t=0/\yY t=0)):=by
 have h0:=zQ7 hn;have hP:=kH (xL 18) n;unfold rG sX uN;generalize yC (xL 18) n=r at h0 hP |-;rcases hP with rfl|⟨j,e,he,hok,hj,hk⟩
 ·exact absurd rfl h0
 obtain⟨hj18,hd⟩:=jP he;have hpar:=vD hok;have hma:=lX he hj h0;have hra:=aL he hj;have hrk:0<=r.2.2:=by
  rcases hk with h|⟨_,k,_,h⟩|h
  ·rw[h.2];exact Int.le_refl 0
  ·rw[h];omega
  ·rw[h.2.2];exact Int.le_refl 0
 have key:∀ m:Nat,vW (xL 18) r=(m:Int)->m<=3->(r.1=2->zH e.1.value (m:Int)=true) ->
   ((r.1=6/\j=11/\fH (xL 18) r=none)\/(¬ (r.1=6/\j=11)/\∃ raw,fH (xL 18) r=some raw/\yF raw=true/\yW raw=0/\yY raw<=m)) ->
   ∃ (j m:Nat),j<18/\r.1≠0/\r.2.1=(j:Int)/\0<=r.2.2/\vW (xL 18) r=(m:Int)/\m<=3/\mB (xL 18) r (zs m++[[122]])=none/\((mI (xL 18) r (zs m)).isSome=true↔r.1=2) /\
    ((r.1=6/\j=11/\mB (xL 18) r (zs m)=none)\/(¬ (r.1=6/\j=11)/\∃ t,mB (xL 18) r (zs m)=some t/\t.length<=2000/\yW t=0/\yY t=0)):=by
  intro m hm hm3 hval hraw;have hzl:((zs m).length:Int)=vW (xL 18) r:=(by rw[lH,hm]);refine⟨j,m,hj18,h0,hj,hrk,hm,hm3,?_,?_,?_⟩
  ·unfold mB;rw[iP (.inr (by rw[lA,lH,hm,List.length_singleton];omega))]
  ·unfold mI;by_cases h2:r.1=2
   ·rw[iN (fun h=>h.elim (fun h=>h h2) (fun h=>h hzl)),hj,Int.toNat_natCast,he];obtain⟨x,hx,_⟩:=closedZ hm3 (hval h2);simp only[hx,Option.isSome_some,true_iff];exact h2
   ·rw[iP (.inl h2)];simp only[Option.isSome_none,Bool.false_eq_true,false_iff];exact h2
  ·rcases hraw with ⟨a,b,c⟩|⟨a,raw,hr,h1,h2,h3⟩
   ·refine .inl ⟨a,b,?_⟩;unfold mB;rw[c];split<;>rfl
   ·obtain⟨x,hx,hx1,hx2⟩:=gV hm3 h1 h2 h3;exact .inr ⟨a,x,zN3 (t:=[]) h0 hzl hr hx,dS hx,hx1,hx2⟩
 rcases hk with ⟨hk,_⟩|⟨hk,k,hkl,hkk⟩|⟨hk,h4,_⟩
 ·
  have hkd:=oC hok;have h6:r.1≠6:=(by rw[hk];omega);have h5:r.1≠5:=(by rw[hk];omega);rw[iN h6] at hma;rw[iN h5,iN h6] at hra;obtain⟨c1,c2,c3⟩:=qG (zN2 hok);exact key e.1.params.toNat (by rw[hma];omega) (by omega) (fun h2=>by rw[Int.toNat_of_nonneg hpar.1];exact zD7 hok (by rw[← hk];exact h2))
   (.inr ⟨fun h=>h6 h.1,_,hra,c1,c2,by omega⟩)
 ·
  have h6:r.1≠6:=(by rw[hk];decide);rw[iN h6] at hma;rw[iP hk,hkk,Int.toNat_natCast,List.getElem?_eq_getElem hkl] at hra;replace hra:fH (xL 18) r=some e.1.ctors[k].2:=hra;obtain⟨c1,c2,c3⟩:=qG (zU2 hok hkl);exact key e.1.params.toNat (by rw[hma];omega) (by omega) (fun h2=>by rw[hk] at h2;exact absurd h2 (by decide))
   (.inr ⟨fun h=>h6 h.1,_,hra,c1,c2,by omega⟩)
 ·
  have h5:r.1≠5:=(by rw[hk];decide);rw[iP hk] at hma;rw[iN h5,iP hk] at hra;rw[hd] at h4 hma hra;have hn2:r.1=2->zH e.1.value ((0:Nat):Int)=true:=fun h2=>by rw[hk] at h2;exact absurd h2 (by decide)
  rcases yY2 hj18 h4 with ⟨rfl,hl⟩|⟨hne,m,hm3,hq⟩
  ·rw[hl] at hma hra;rw[yF6] at hra;have hb:0<=yU sP/\yU sP<=1:=by
    unfold yU;split
    ·split<;>decide
    ·decide
   exact key (yU sP).toNat (by rw[hma];omega) (by omega) (fun h2=>by rw[hk] at h2;exact absurd h2 (by decide)) (.inl ⟨hk,rfl,hra⟩)
  ·obtain⟨T,hT,hTo,hTl,hT0,hTp⟩:=hq.ty;rw[hT] at hra;have hc:=yJ (p:=(m:Int)) hTo hTl hT0 (by omega);obtain⟨c1,c2,c3⟩:=qG hc;exact key m (by rw[hma,hq.lv]) hm3 (fun h2=>by rw[hk] at h2;exact absurd h2 (by decide)) (.inr ⟨fun h=>hne h.2,_,hra,c1,c2,by omega⟩)
theorem zA1:0<(tW (xL 18)).length:=by
 have h:([110,97,116]:List UInt8)∈zX (xL 18):=by
  unfold zX;rw[List.mem_flatMap];have hj:0<(xL 18).length:=(by rw[pR];decide);refine⟨(xL 18)[0],List.getElem_mem hj,?_⟩;have he:=(jP (List.getElem?_eq_getElem hj)).2;rw[he];unfold zO;rw[iP (yN1 (by decide))];exact List.mem_append_left _ (List.mem_cons_self ..)
 have h2:=(srt_spec _ (zX (xL 18)) (nR _)).2.1 [110,97,116];exact List.length_pos_of_mem (h2.2 h)
theorem zA2{n:List UInt8}(h:n∈tW (xL 18)):n.length<=281474976710656:=by
 have h2:=((srt_spec _ (zX (xL 18)) (nR _)).2.1 n).1 h;unfold zX at h2;rw[List.mem_flatMap] at h2;obtain⟨e,he,hn⟩:=h2;exact iD ((uY (nR 18)).2 e he).1 hn
theorem yM4{j:Nat}(hj:j<18):([110,111,110,101]:List UInt8)∉(pK j).name::((pK j).ctors.map fun c=>c.1)++[(pK j).name++46::sD]:=by
 have e:j=0\/j=1\/j=2\/j=3\/j=4\/j=5\/j=6\/j=7\/j=8\/j=9\/j=10\/j=11\/j=12\/j=13\/j=14\/j=15\/j=16\/j=17:=by omega
 rcases e with rfl|rfl|rfl|rfl|rfl|rfl|rfl|rfl|rfl|rfl|rfl|rfl|rfl|rfl|rfl|rfl|rfl|rfl<;>decide
theorem yY0:yC (xL 18) [110,111,110,101]=(0,-1,0):=by
 refine zK1 fun h=>?_;unfold zX at h;rw[List.mem_flatMap] at h;obtain⟨e,he,hn⟩:=h;obtain⟨j,hj,rfl⟩:=List.getElem_of_mem he;obtain⟨hj18,hd⟩:=jP (List.getElem?_eq_getElem hj);have hq:=yM4 hj18;rw[hd] at hn;unfold zO at hn;rw[iP (yN1 hj18)] at hn;apply hq;rcases List.mem_append.1 hn with h1|h1
 ·exact List.mem_append_left _ h1
 ·split at h1
  ·exact List.mem_append_right _ h1
  ·cases h1
theorem zX8{j:Nat}(hj:j<18):(pK j).ctors.length<=2/\-9223372036854775808<=(pK j).flags/\(pK j).flags<=9223372036854775807:=by
 have e:j=0\/j=1\/j=2\/j=3\/j=4\/j=5\/j=6\/j=7\/j=8\/j=9\/j=10\/j=11\/j=12\/j=13\/j=14\/j=15\/j=16\/j=17:=by omega
 rcases e with rfl|rfl|rfl|rfl|rfl|rfl|rfl|rfl|rfl|rfl|rfl|rfl|rfl|rfl|rfl|rfl|rfl|rfl<;>decide
theorem fZ{e:En}(he:e∈xL 18):-9223372036854775808<=e.1.flags/\e.1.flags<=9223372036854775807:=by
 obtain⟨j,hj,rfl⟩:=List.getElem_of_mem he;obtain⟨hj18,hd⟩:=jP (List.getElem?_eq_getElem hj);rw[hd];exact(zX8 hj18).2
theorem yM5:(zX (xL 18)).length<=72:=by
 unfold zX
 have h:=yP9 (l:=xL 18) (f:=fun e=>zO e.1) (n:=4) (fun e he=>by
  obtain⟨j,hj,rfl⟩:=List.getElem_of_mem he;obtain⟨hj18,hd⟩:=jP (List.getElem?_eq_getElem hj);exact Nat.le_trans (Nat.le_of_eq (congrArg (fun d=>(zO d).length) hd)) (by have h1:=oV (pK j);have h2:=(zX8 hj18).1;omega))
 rw[pR] at h;omega
theorem zF5(o:Option (List UInt8)):vO o=.tuple #[.string ⟨(o.getD []).toArray⟩,.bool o.isSome]:=by cases o<;>rfl
theorem lawEnvs{v:Value}{l:List UInt8}(w:World)(hl:cM w v l)(hm:l.length<=maxLen)
  (hKn:∀ (W:World) (B:Nat) (u:Value),Below w.heap.size w W->uL W B u (xL 18)->Calls Tryz.prog 6 #[u] W (nZ (tW (xL 18)) W))
  (hFi:∀ (n:List UInt8),n.length<=281474976710656->∀ (W:World) (B:Nat) (u:Value),Below w.heap.size w W->uL W B u (xL 18)->Rt 9 #[u,.string ⟨n.toArray⟩] W (uD (yC (xL 18) n)))
  (hLv:∀ (n:List UInt8),n.length<=281474976710656->∀ (W:World) (B:Nat) (u:Value),Below w.heap.size w W->uL W B u (xL 18)->Rt 10 #[u,.string ⟨n.toArray⟩] W (.int .i64 (uN (xL 18) n)))
  (hTy:∀ (n:List UInt8),n.length<=281474976710656->∀ ls:List (List UInt8),ls.length<=1048576->(∀ x∈ls,x.length<=1048576)->∀ (W:World) (B b:Nat) (u s:Value),Below w.heap.size w W->uL W B u (xL 18)->W.ownsRow b 9 1 s ls.length (ls.map sv)->Rt 11 #[u,.string ⟨n.toArray⟩,s] W (vO (rG (xL 18) n ls)))
  (hVa:∀ (n:List UInt8),n.length<=281474976710656->∀ ls:List (List UInt8),ls.length<=1048576->(∀ x∈ls,x.length<=1048576)->∀ (W:World) (B b:Nat) (u s:Value),Below w.heap.size w W->uL W B u (xL 18)->W.ownsRow b 9 1 s ls.length (ls.map sv)->Rt 12 #[u,.string ⟨n.toArray⟩,s] W (vO (sX (xL 18) n ls)))
  (hOp:∀ t:List UInt8,t.length<=2000->∀ W,Below w.heap.size w W->Rt 13 #[.string ⟨t.toArray⟩] W (.int .i64 (yW t:Int)))
  (hPa:∀ t:List UInt8,t.length<=2000->∀ W,Below w.heap.size w W->Rt 14 #[.string ⟨t.toArray⟩] W (.int .i64 (yY t:Int))) :
  Rt 3 #[v] w (.bool true):=by
 have f0:=Ld (bigB hl hm);by_cases hbig:1048576<l.length
 ·rw[dT hbig] at f0;obtain⟨a0,cap,_,_,rfl,_⟩:=hl;clear hKn hFi hLv hTy hVa hOp hPa;go_enter Tryz.func3,Tryz.ntmps3;go_wp2_with fail;(with_reducible refine mo f0.out ?_);rintro w1 rfl;go_wp2;go_ret;exact⟨rfl,bR _ _⟩
 rw[dF hbig] at f0;have FD:=Ld fun W=>fB W;unfold zZ6 at FD;have FK:=Ld fun (W:World) (B:Nat) (u:Value) (h:uL W B u (xL 18))=>yI6 h (uY (nR 18)) (Nat.le_trans yM5 (by decide));unfold nZ at FK hKn;have FP:=Ld fun (W:World) (hW:Below w.heap.size w W)=>yF3 (hl.below hW) (by omega);have HKn:=Ld hKn;have HFi:=Ld hFi;have HLv:=Ld hLv;have HTy:=Ld hTy;have HVa:=Ld hVa;have HOp:=Ld hOp;have HPa:=Ld hPa;have HAns:=Ld fun (n:List UInt8) (h:n∈tW (xL 18))=>xI6 h;have HLen:=Ld fun (n:List UInt8) (h:n∈tW (xL 18))=>zA2 h;have HNone:=Ld yY0;have hpos:=zA1;have hEl:=pR 18;obtain⟨a0,cap,_,_,hvv,_⟩:=hl;clear hKn hFi hLv hTy hVa hOp hPa;subst hvv;go_enter Tryz.func3,Tryz.ntmps3;go_wp2_with fail;(with_reducible refine mo f0.out ?_);rintro w1 rfl;have HB1:=Ld (bR w1.heap.size w1);clear f0;go_wp2_with fail;(with_reducible refine(FD.out _).mono ?_);rintro e w2 ⟨u2,rfl,hu2,hb2⟩;have HB2:=bt HB1.out hb2;have HE2:=Ld hu2;clear hu2 hb2;go_wp2_with fail;(with_reducible refine(FD.out _).mono ?_);rintro e w3 ⟨u3,rfl,hu3,hb3⟩;have HB3:=bt HB2.out hb3;have HE3:=Ld (HE2.out.below hb3);have f4:=Ld (HKn.out _ _ _ HB3.out hu3);clear hu3 hb3 HE2 HKn;go_wp2_with fail;(with_reducible refine f4.out.mono ?_);rintro e w4 ⟨u4,rfl,hu4,hb4⟩;have HB4:=bt HB3.out hb4;have HE4:=Ld (HE3.out.below hb4);obtain⟨a4,c4,rfl⟩:=xZ hu4;have HK4:=Ld hu4;clear hu4 hb4 HE3 f4;go_wp2_with fail;(with_reducible refine(FD.out _).mono ?_);rintro e w5 ⟨u5,rfl,hu5,hb5⟩;have HB5:=bt HB4.out hb5;have HE5:=Ld (HE4.out.below hb5)
 have HK5:=Ld (zA HK4.out hb5);have f6:=Ld (FK.out _ _ _ hu5);clear hu5 hb5 HE4 HK4 FD FK;go_wp2_with fail;(with_reducible refine f6.out.mono ?_);rintro e w6 ⟨u6,rfl,hu6,hb6⟩;have HB6:=bt HB5.out hb6;have HE6:=Ld (HE5.out.below hb6);have HK6:=Ld (zA HK5.out hb6);obtain⟨a6,c6,rfl⟩:=xZ hu6;have f7:=Ld (FP.out _ HB6.out);clear hu6 hb6 HE5 HK5 f6 FP;go_wp2_with fail;(with_reducible refine f7.out.mono ?_);rintro e w7 ⟨u7,ps,rfl,hps,hpr,hu7,hb7⟩;have HB7:=bt HB6.out hb7;have HE7:=Ld (HE6.out.below hb7);have HK7:=Ld (zA HK6.out hb7);have hN:=hpos;obtain⟨gk,ck,ek,_,hgk⟩:=HK7.out.form hN;cases ek;obtain⟨gp,cp,ep,_,hgp⟩:=hu7.form (by omega);cases ep;have p0:=hu7.cellAt 0 (by omega);obtain⟨p,hp0,hp1⟩:∃ p:Nat,(ps.map iv)[0]?=some (.int .i64 (p:Int))/\p<10000:=by
  rw[List.getElem?_map,List.getElem?_eq_getElem (by omega)];obtain⟨q0,q1⟩:=hpr _ (List.getElem_mem (by omega:0<ps.length));exact⟨ps[0].toNat,by simp[iv];omega,by omega⟩
 rw[hp0] at p0;have hj0:p % (tW (xL 18)).length<(tW (xL 18)).length:=Nat.mod_lt _ hN;have k0:=HK7.out.cellAt (p % (tW (xL 18)).length) (by omega);rw[List.getElem?_map,List.getElem?_eq_getElem hj0] at k0;have hnm:=List.getElem_mem hj0;have hlen:=HLen.out _ hnm;obtain⟨j,m,hj18,h0,hjj,hrk,hlv,hm3,hmore,hval,hty⟩:=HAns.out _ hnm;have hmod:Int.tmod (p:Int) ((tW (xL 18)).length:Int)=((p % (tW (xL 18)).length:Nat):Int):=rfl;have t1:(0:Int)<=((p % (tW (xL 18)).length:Nat):Int):=by omega
 have t2:((p % (tW (xL 18)).length:Nat):Int)<((tW (xL 18)).length:Int):=by omega
 have hp12:(0:Int)<(ps.length:Int):=by omega
 have hp12':0<ps.length:=by omega
 have hNz:(((tW (xL 18)).length:Int)==0)=false:=by rw[bF];omega
 generalize p % (tW (xL 18)).length=j0 at hj0 k0 hnm hlen hjj hrk hlv hmore hval hty h0 hmod t1 t2;generalize (tW (xL 18))[j0]=name at k0 hnm hlen hjj hrk hlv hmore hval hty h0;generalize tW (xL 18)=KN at *;simp only[Option.map_some,sv] at k0;have f8:=Ld (HFi.out name hlen _ _ _ HB7.out HE7.out);clear hu7 hb7 HE6 HK6 HK7 hps hpr hp0 f7;generalize yC (xL 18) name=rr at f8 h0 hjj hrk hval hty;obtain⟨r0,r1,r2⟩:=rr;simp only at h0 hjj hrk hval hty;subst hjj;unfold uD at f8;simp only at f8;go_wp2_with fail;(with_reducible refine mo f8.out fun w8 hb8=>?_);have HB8:=bt HB7.out hb8;have HE8:=Ld (HE7.out.below hb8);have f9:=Ld (HLv.out name hlen _ _ _ HB8.out HE8.out);rw[hlv] at f9;clear hb8 HE7 f8 HLv p0 k0 hgk hgp;go_wp2_with fail;(with_reducible refine mo f9.out fun w9 hb9=>?_);have HB9:=bt HB8.out hb9;have HE9:=Ld (HE8.out.below hb9);clear hb9 HE8 f9;obtain⟨i0,hi,hz0,hz1,hz2⟩:=info_parts sH;have hrow0:Hid ((w9.alloc (.cells #[] 9)).ownsRow w9.heap.size 9 1 (.slice (some ⟨w9.heap.size,0,none⟩) 0 0) 0 ((zs 0).map sv)):=World.ownsRow_lit w9 #[] 0 (nR _) (by decide) (by simp);have hbl0:=Ld ((bR w9.heap.size w9).alloc (nR _) (.cells #[] 9));go_wp2;go_loopw [10,11] (fun o i wr=>∃ (k:Nat) (oo:Value),k<=m/\i=.int .i64 k/\oo=o/\Hid (wr.ownsRow w9.heap.size 9 1 oo k ((zs k).map sv))/\Hid (Below w9.heap.size w9 wr)) (fun _ i _=>m - (intOf i).toNat)
 case atStart=>exact⟨0,_,Nat.zero_le _,rfl,rfl,hrow0.out,hbl0.out⟩
 case round =>
  obtain⟨k,oo,hk,rfl,rfl,HO,HW⟩:=hrel;have hz:=HW.out.size;by_cases hlt:k<m
  ·have q1:(k:Int)<(m:Int):=(by omega);have HT:Hid ((zs (k+1)).map sv=(zs k).map sv++[.string ⟨([43,122]:List UInt8).toArray⟩]):=by
    rw[Hid,zs,List.replicate_succ',List.map_append];rfl
   obtain⟨ob,oc,hoo⟩:=xZ HO.out;go_wp2_with (at_builtin;refine wpList_append_own _ rfl _ _ 26 rfl w9.heap.size 9 i0 _ 1 16 Tryz.underlying26 hi hz0 hz1 hz2 rfl (by decide) _ _ _ rfl (HO.out.alloc _) ⟨wr.heap.size,0,none⟩ 1 1 [.string ⟨([43,122]:List UInt8).toArray⟩] rfl rfl (yO _ _ _) (by simp[Value.oneCell']) (by simp only[maxLen];omega) (by omega) (by simp;omega) ?_;intro v2 w2 hown2 hgrow hnil2);have HO2:Hid (w2.ownsRow w9.heap.size 9 1 v2 (k+1) ((zs (k+1)).map sv)):=by
    rw[Hid,HT.out];exact hown2
   have HW2:Hid (Below w9.heap.size w9 w2):=(HW.out.alloc hz _).grown hgrow (by simp;omega) (fun q hq=>(HO.out.lt q hq).1);clear hown2 hgrow;go_wp2;go_roundw
   case rel=>exact⟨k+1,_,by omega,by go_num,rfl,HO2.out,HW2.out⟩
   case measure=>simp[intOf];omega
  ·obtain rfl:k=m:=(by omega);have q1:¬ (k:Int)<(k:Int):=(by omega);have HB10:=Ld (HB9.out.trans (HW.out.mono HB9.out.size));have HE10:=Ld (HE9.out.below HW.out);have HZ:Hid (wr.ownsRow w9.heap.size 9 1 oo (zs k).length ((zs k).map sv)):=by
    rw[Hid,lH];exact HO.out
   have HZl:Hid ((zs k).length<=1000000):=(by rw[Hid,lH];omega);have HZl':Hid ((zs k).length<=1048576):=(by rw[Hid,lH];omega);have HZe:Hid (∀ x∈zs k,x.length<=1048576):=fun x hx=>by
    rw[List.eq_of_mem_replicate hx]
    decide
   clear HO HE9 HB9;go_wp2_with (at_builtin;refine nN rfl _ _ rfl rfl _ _ (zs k) rfl HZ.out HZl.out ?_;intro u11 w11 ho11 hb11);have HW11:=Ld (HW.out.trans (hb11.mono hz));have HB11:=bt HB10.out hb11;have HE11:=Ld (HE10.out.below hb11);have HZ11:=Ld (zA HZ.out hb11);have f11:=Ld (HTy.out name hlen _ HZl'.out HZe.out _ _ _ _ _ HB11.out HE11.out ho11);rw[zF5] at f11;generalize rG (xL 18) name (zs k)=T at f11 hty;clear ho11 hb11 HB10 HE10 HZ HW;go_wp2_with fail;(with_reducible refine mo f11.out fun w12 hb12=>?_);have hz11:=HW11.out.size;have HW12:=Ld (HW11.out.trans (hb12.mono hz11));have HB12:=bt HB11.out hb12;have HE12:=Ld (HE11.out.below hb12);have HZ12:=Ld (zA HZ11.out hb12);clear hb12 HB11 HE11 HZ11 HW11 f11;go_wp2_with (at_builtin;refine nN rfl _ _ rfl rfl _ _ (zs k) rfl HZ12.out HZl.out ?_;intro u13 w13 ho13 hb13);have hz12:=HW12.out.size;have HW13:=Ld (HW12.out.trans (hb13.mono hz12));have HB13:=bt HB12.out hb13;have HE13:=Ld (HE12.out.below hb13);have HZ13:=Ld (zA HZ12.out hb13);have f13:=Ld (HVa.out name hlen _ HZl'.out HZe.out _ _ _ _ _ HB13.out HE13.out ho13);rw[zF5] at f13;generalize sX (xL 18) name (zs k)=V at f13 hval;clear ho13 hb13 HB12 HE12 HZ12 HW12 HVa;go_wp2_with fail;(with_reducible refine mo f13.out fun w14 hb14=>?_);have hz13:=HW13.out.size;have HW14:=Ld (HW13.out.trans (hb14.mono hz13));have HB14:=bt HB13.out hb14;have HE14:=Ld (HE13.out.below hb14);have HZ14:=Ld (zA HZ13.out hb14);clear hb14 HB13 HE13 HZ13 HW13 f13;have hz14:=HW14.out.size
   have hzk:(zs k).length<=3:=(by rw[lH];omega);go_wp2_with (at_builtin;first|(refine nN rfl _ _ rfl rfl _ _ (zs k) rfl HZ14.out HZl.out ?_;intro u15 w15 ho15 hb15)|(refine wpList_append_own _ rfl _ _ 26 rfl w14.heap.size 9 i0 _ 1 16 Tryz.underlying26 hi hz0 hz1 hz2 rfl (by decide) _ _ _ rfl (ho15.alloc _) ⟨w15.heap.size,0,none⟩ 1 1 [.string ⟨([122]:List UInt8).toArray⟩] rfl rfl (yO _ _ _) (by simp[Value.oneCell']) (by simp only[maxLen];omega) (by omega) (by have:=hb15.size;simp;omega) ?_;intro v16 w16 hown16 hgrow hnil2))
   have hzb:=hb15.size;have HO16:Hid (w16.ownsRow w14.heap.size 9 1 v16 (zs k++[[122]]).length ((zs k++[[122]]).map sv)):=by
    rw[Hid,lA,List.map_append];exact hown16
   have HC16:Hid (Below w14.heap.size w14 w16):=(hb15.alloc hzb _).grown hgrow (by simp;omega) (fun q hq=>(ho15.lt q hq).1);have HB16:=Ld (HB14.out.trans (HC16.out.mono HB14.out.size));have HE16:=Ld (HE14.out.below HC16.out)
   have f16:=Ld (HTy.out name hlen _ (by rw[lA];simp;omega) (by
    intro x hx;rw[List.mem_append,List.mem_singleton] at hx;rcases hx with hx|rfl
    ·exact HZe.out x hx
    ·decide) _ _ _ _ _ HB16.out HE16.out HO16.out)
   rw[hmore] at f16;unfold vO at f16;simp only at f16;clear hown16 hgrow ho15 hb15 HB14 HE14 HZ14 HW14 HO16 HTy;go_wp2_with fail;(with_reducible refine mo f16.out fun w17 hb17=>?_);have HB17:=bt HB16.out hb17;have HE17:=Ld (HE16.out.below hb17);have f18:=Ld (HFi.out [110,111,110,101] (by decide) _ _ _ HB17.out HE17.out);rw[HNone.out] at f18;unfold uD at f18;simp only at f18;clear hb17 HB16 HE16 HFi f16;go_wp2_with fail;(with_reducible refine mo f18.out fun w18 hb18=>?_);have HB18:=bt HB17.out hb18;have HE18:=Ld (HE17.out.below hb18);clear hb18 HB17 HE17 f18;have hjl:j<(xL 18).length:=(by omega);have he:(xL 18)[j]?=some (xL 18)[j]:=List.getElem?_eq_getElem hjl;obtain⟨_,hd⟩:=jP he;obtain⟨ge,ce,ua,uc,hv,_,_,hc⟩:=zC2 HE18.out he;obtain⟨_,c1,_⟩:=hc _ (bR _ _);rw[hEl] at hv;subst hv;have hnm:=yY1 hj18;rw[← hd] at hnm;generalize (xL 18)[j].1.name=jn at c1 hnm;have e0:(r0==0)=false:=(by rw[bF];exact h0);have d1:decide ((j:Int)<0)=false:=dF (by omega);have d2:decide ((18:Int)<=(j:Int))=false:=dF (by omega);have d3:decide ((k:Int)<0)=false:=dF (by omega);have d4:decide (r2<0)=false:=dF (by omega);have e2':(j:Int)<18:=(by omega);have e2'':(0:Int)<=(j:Int):=(by omega);have e5:V.isSome=(r0==2):=by
    cases hb:V.isSome
    ·refine(beq_eq_false_iff_ne.2 fun h=>?_).symm;have:=hval.2 h;rw[hb] at this;cases this
    ·exact(beq_iff_eq.2 (hval.1 hb)).symm
   rw[e5];clear hc hd hval e5 HE18 he;rcases hty with ⟨rfl,rfl,rfl⟩|⟨hn6,tt,rfl,htl,hto,htp⟩
   ·have e6:((6:Int)==2)=false:=rfl;rw[e6];have e7:(jn==[99,117,114,114,121])=true:=beq_iff_eq.2 (hnm.2 rfl);go_wp2;go_ret;exact⟨rfl,HB18.out⟩
   ·have fo:=Ld (HOp.out tt htl);have fp:=Ld (HPa.out tt htl);rw[hto] at fo;rw[htp] at fp;have ho:=Ld (fo.out _ HB18.out);clear fo HOp HPa;simp only[Option.getD_some,Option.isSome_some];have fin:∀ b7:Bool,(jn==[99,117,114,114,121])=b7->(b7=true->((r0==6)=false)):=by
     intro b7 e7 hb;rw[hb,beq_iff_eq] at e7;rw[bF];exact fun h6=>hn6 ⟨h6,hnm.1 e7⟩
    cases e6:(r0==2)<;>cases e7:(jn==[99,117,114,114,121])
    all_goals have e8:=fin _ e7
    all_goals clear fin
    all_goals simp only[true_implies,Bool.false_eq_true,false_implies] at e8
    all_goals go_wp2_with fail
    all_goals ((with_reducible refine mo ho.out fun w19 hb19=>?_))
    all_goals have HB19:=bt HB18.out hb19
    all_goals have hp:=Ld (fp.out _ HB19.out)
    all_goals clear ho fp hb19
    all_goals go_wp2_with fail
    all_goals ((with_reducible refine mo hp.out fun w20 hb20=>?_))
    all_goals have HB20:=bt HB19.out hb20
    all_goals clear hb20
    all_goals go_wp2
    all_goals go_ret
    all_goals exact⟨rfl,HB20.out⟩
end Go.Proofs.YtgppcegcpiaocaaGreatDoor
