/- VMath NMath RdMath TMath V4 DecS -/
import Derived.Lib.ItoaNum
import Derived.Lib.ItoaMem
import Derived.Lib.AtoiTie
import Derived.WalkKit
import Derived.ProofKit
import Derived.OpenShut
import Derived.Lib.Hide
import Derived.Deep.AppendLies
import Derived.Laws.BytesArg
import Derived.Laws.IdiomStrings
import Derived.Test.YtgppcegcpiaocaaGreatDoorNBase
set_option maxRecDepth 100000
set_option maxHeartbeats 16000000
set_option linter.unusedSimpArgs false
set_option linter.unusedVariables false
namespace Go.Proofs.YtgppcegcpiaocaaGreatDoor
def zY:Nat->List UInt8->Option Nat
|0,_=>some 0
|_+1,[]=>none
|n+1,[c]=>if c=122 then (zY n []).map (·+1) else none
|n+1,c::d::r =>
  if c=122 then (zY n (d::r)).map (·+1)
  else if c=43 then (zY (n+1) (d::r)).map (·+1)
  else if c=109\/c=105 then (zY (n+2) (d::r)).map (·+1)
  else if c=117 then (if 48<=d.toNat/\d.toNat<=50 then (zY n r).map (·+2) else none)
  else none
termination_by _ l=>l.length
theorem uB(l:List UInt8):zY 0 l=some 0:=by rw[zY]
theorem tM(n:Nat):zY (n+1) []=none:=by rw[zY]
theorem oK(n:Nat)(r:List UInt8):zY (n+1) (122::r)=(zY n r).map (·+1):=by
 cases r with
|nil=>rw[zY];simp
|cons d r=>rw[zY];simp
theorem sS(n:Nat)(r:List UInt8):zY (n+1) (43::r)=(zY (n+1) r).map (·+1):=by
 cases r with
|nil=>rw[tM,zY];simp
|cons d r=>rw[zY];simp
theorem uH(n:Nat){c:UInt8}(hc:c=109\/c=105)(r:List UInt8):zY (n+1) (c::r)=(zY (n+2) r).map (·+1):=by
 have h1:c≠122:=by rcases hc with rfl|rfl<;>decide
 have h2:c≠43:=by rcases hc with rfl|rfl<;>decide
 cases r with
|nil=>rw[tM,zY,iN h1];simp
|cons d r=>rw[zY,iN h1,iN h2,iP hc]
theorem uS(n:Nat){d:UInt8}(h1:48<=d.toNat)(h2:d.toNat<=50)(r:List UInt8):zY (n+1) (117::d::r)=(zY n r).map (·+2):=by
 rw[zY];simp[h1,h2]
theorem iH(n:Nat){d:UInt8}(h:¬ (48<=d.toNat/\d.toNat<=50))(r:List UInt8):zY (n+1) (117::d::r)=none:=by
 rw[zY];simp[h]
theorem iG(n:Nat):zY (n+1) [117]=none:=by rw[zY];simp
theorem zA5(n:Nat){c:UInt8}(h1:c≠122)(h2:c≠43)(h3:¬ (c=109\/c=105))(h4:c≠117)(r:List UInt8):zY (n+1) (c::r)=none:=by
 cases r with
|nil=>rw[zY,iN h1]
|cons d r=>rw[zY,iN h1,iN h2,iN h3,iN h4]
theorem pW{motive:Nat->List UInt8->Prop}(zero:∀ l,motive 0 l)(nil:∀ n,motive (n+1) [])
  (z:∀ n r,motive n r->motive (n+1) (122::r)) (up:∀ n r,motive (n+1) r->motive (n+1) (43::r))
  (two:∀ n c r,c=109\/c=105->motive (n+2) r->motive (n+1) (c::r)) (par:∀ n d r,48<=d.toNat->d.toNat<=50->motive n r->motive (n+1) (117::d::r))
  (bad:∀ n c r,zY (n+1) (c::r)=none->motive (n+1) (c::r)):∀ (l:List UInt8) (n:Nat),motive n l:=by
 intro l
 induction hl:l.length using Nat.strongRecOn generalizing l with
|ind k ih =>
  intro n;cases n with
 |zero=>exact zero l
 |succ n =>
   cases l with
  |nil=>exact nil n
  |cons c r =>
    have hr:r.length<k:=(by simp at hl;omega);by_cases h1:c=122
    ·subst h1;exact z n r (ih _ hr r rfl n)
    by_cases h2:c=43
    ·subst h2;exact up n r (ih _ hr r rfl (n+1))
    by_cases h3:c=109\/c=105
    ·exact two n c r h3 (ih _ hr r rfl (n+2))
    by_cases h4:c=117
    ·subst h4;cases r with
    |nil=>exact bad n 117 [] (iG n)
    |cons d r =>
      by_cases h5:48<=d.toNat/\d.toNat<=50
      ·exact par n d r h5.1 h5.2 (ih _ (by simp at hl;omega) r rfl n)
      ·exact bad n 117 (d::r) (iH n h5 r)
    ·exact bad n c r (zA5 n h1 h2 h3 h4 r)
def zD (l:List UInt8):Bool:=decide (l.length<=60)&&decide (zY 1 l=some l.length)
def zY2 (l:List UInt8) (at':Int):Int :=
 if 10000<l.length\/at'<0\/(l.length:Int)<at' then -1 else match zY 1 (l.drop at'.toNat) with
 |some k=>at'+k
 |none=>-1
def xJ:Nat->List UInt8->Nat
|n,[]=>n
|n,c::r=>xJ (if c=117/\n<(r.headD 0).toNat - 47 then (r.headD 0).toNat - 47 else n) r
def zC (l:List UInt8):Nat:=if zD l=true then xJ 0 l else 0
def xC (l:List UInt8):Nat:=if zD l=true then l.count 43 else 0
def nY (args:List (List UInt8)):List UInt8->List UInt8
|[]=>[]
|[c]=>[c]
|c::d::r=>if c=117 then args.getD (d.toNat - 48) []++nY args r else c::nY args (d::r)
termination_by l=>l.length
def zS (l:List UInt8) (args:List (List UInt8)):Option (List UInt8) :=
 if zD l=true/\args.length<=3/\zC l<=args.length/\(∀ x∈args,zD x=true)/\(nY args l).length<=60 then some (nY args l) else none
theorem zU{l:List UInt8}(h:zD l=true):l.length<=60/\zY 1 l=some l.length:=by
 simpa [zD] using h
theorem mR:∀ (l:List UInt8) (n:Nat),zY n l=some l.length->∀ i (hi:i<l.length),l[i]=117->∃ hj:i+1<l.length,48<=l[i+1].toNat/\l[i+1].toNat<=50:=by
 refine pW (motive:=fun n l=>zY n l=some l.length->∀ i (hi:i<l.length),l[i]=117->∃ hj:i+1<l.length,48<=l[i+1].toNat/\l[i+1].toNat<=50) ?_ ?_ ?_ ?_ ?_ ?_ ?_
 ·intro l h i hi _;rw[uB] at h;have:=Option.some.inj h;omega
 ·intro n h;rw[tM] at h;cases h
 ·intro n r ih h i hi he;rw[oK] at h;have h':zY n r=some r.length:=by
   cases hr:zY n r with
  |none=>rw[hr] at h;cases h
  |some k=>rw[hr] at h;simp at h;rw[h]
  cases i with
 |zero=>exact absurd he (by simp)
 |succ i =>
   obtain⟨hj,h2⟩:=ih h' i (by simpa using hi) (by simpa using he);exact⟨by simpa using hj,by simpa using h2⟩
 ·intro n r ih h i hi he;rw[sS] at h;have h':zY (n+1) r=some r.length:=by
   cases hr:zY (n+1) r with
  |none=>rw[hr] at h;cases h
  |some k=>rw[hr] at h;simp at h;rw[h]
  cases i with
 |zero=>exact absurd he (by simp)
 |succ i =>
   obtain⟨hj,h2⟩:=ih h' i (by simpa using hi) (by simpa using he);exact⟨by simpa using hj,by simpa using h2⟩
 ·intro n c r hc ih h i hi he;rw[uH n hc] at h;have h':zY (n+2) r=some r.length:=by
   cases hr:zY (n+2) r with
  |none=>rw[hr] at h;cases h
  |some k=>rw[hr] at h;simp at h;rw[h]
  cases i with
 |zero=>simp at he;subst he;rcases hc with hc|hc<;>exact absurd hc (by decide)
 |succ i =>
   obtain⟨hj,h2⟩:=ih h' i (by simpa using hi) (by simpa using he);exact⟨by simpa using hj,by simpa using h2⟩
 ·intro n d r h1 h2 ih h i hi he;rw[uS n h1 h2] at h;have h':zY n r=some r.length:=by
   cases hr:zY n r with
  |none=>rw[hr] at h;cases h
  |some k=>rw[hr] at h;simp at h;rw[h]
  cases i with
 |zero=>exact⟨by simp,h1,h2⟩
 |succ i =>
   cases i with
  |zero=>simp at he;subst he;exact absurd h2 (by decide)
  |succ i =>
    obtain⟨hj,h3⟩:=ih h' i (by simpa using hi) (by simpa using he);exact⟨by simpa using hj,by simpa using h3⟩
 ·intro n c r h0 h;rw[h0] at h;cases h
def azB (c:UInt8):Bool:=decide (97<=c.toNat)&&decide (c.toNat<=122)
def dgB (c:UInt8):Bool:=decide (48<=c.toNat)&&decide (c.toNat<=57)
def alB (c:UInt8):Bool:=azB c || dgB c
def xO:List UInt8->Bool
|[]=>false
|c::r=>azB c&&(c::r).all alB
def qX (by':UInt8):List UInt8->List UInt8->List (List UInt8)
|p,[]=>[p]
|p,c::r=>if c=by' then p::qX by' [] r else qX by' (p++[c]) r
def nS:List UInt8->Nat->Bool->Bool
|[],d,b=>b&&decide (d<=5)
|c::r,d,b=>if azB c=true then nS r d true else if dgB c=true/\b=true then nS r d b else if c=46/\b=true then nS r (d+1) false else false
def gH (l:List UInt8):List (List UInt8):=qX 46 [] l
def zI (l:List UInt8):Bool:=decide (l.length<=40)&&decide ((gH l).length<=5)&&(gH l).all xO
theorem eX(b:UInt8)(l:List UInt8):∀ p,∃ t r,qX b p l=(p++t)::r:=by
 induction l with
|nil=>intro p;exact⟨[],[],by simp[qX]⟩
|cons c l ih =>
  intro p;by_cases h:c=b
  ·exact⟨[],qX b [] l,by simp[qX,h]⟩
  ·obtain⟨t,r,e⟩:=ih (p++[c]);exact⟨c::t,r,by rw[qX,iN h,e];simp⟩
theorem xB7(b:UInt8)(p l:List UInt8):0<(qX b p l).length:=by
 obtain⟨t,r,e⟩:=eX b l p;rw[e];simp
theorem xB8(b:UInt8)(l:List UInt8):∀ p,(qX b p l).length<=l.length+1:=by
 induction l with
|nil=>intro p;simp[qX]
|cons c l ih =>
  intro p;by_cases h:c=b
  ·have:=ih [];simp[qX,h];omega
  ·have:=ih (p++[c]);simp only[qX,iN h,lC];omega
theorem xE3{c:UInt8}(h:azB c=true):c≠46:=by
 rintro rfl;revert h;decide
theorem xB6{c:UInt8}(h:dgB c=true):c≠46:=by
 rintro rfl;revert h;decide
theorem fK{p:List UInt8}{c:UInt8}(h:xO p=true)(hc:alB c=true):xO (p++[c])=true:=by
 cases p with
|nil=>simp[xO] at h
|cons x r =>
  simp only[xO,Bool.and_eq_true] at h;simp only[List.cons_append,xO,Bool.and_eq_true,h.1,true_and];have h2:=h.2;simp only[List.all_cons,List.all_append,List.all_nil,Bool.and_true,Bool.and_eq_true] at h2 |-;exact⟨h2.1,h2.2,hc⟩
theorem yB7(p t:List UInt8){c:UInt8}(hc:alB c=false):xO ((p++[c])++t)=false:=by
 cases p with
|nil=>simp[xO,hc]
|cons x r=>simp[xO,hc]
theorem dW(t:List UInt8){c:UInt8}(hc:azB c=false):xO (([]++[c])++t)=false:=by
 simp[xO,hc]
theorem yW1(l:List UInt8):∀ (p:List UInt8) (d:Nat),(p=[]\/xO p=true)->0<d ->
  nS l d (decide (p≠[]))=(decide (d - 1+(qX 46 p l).length<=5)&&(qX 46 p l).all xO):=by
 induction l with
|nil =>
  intro p d hp hd;rcases hp with rfl|hp
  ·simp[nS,qX,xO]
  ·have hne:p≠[]:=(by rintro rfl;simp[xO] at hp);simp only[nS,qX,hne,ne_eq,not_false_eq_true,decide_true,Bool.true_and,lC,List.length_nil,List.all_cons,List.all_nil,hp,Bool.and_true];congr 1;apply propext;omega
|cons c l ih =>
  intro p d hp hd;by_cases haz:azB c=true
  ·have h46:=xE3 haz;have hal:alB c=true:=(by simp[alB,haz]);have hq:xO (p++[c])=true:=by
    rcases hp with rfl|hp
    ·simp[xO,haz,hal]
    ·exact fK hp hal
   have:=ih (p++[c]) d (.inr hq) hd;rw[nS,iP haz,qX,iN h46,← this];simp
  ·rw[Bool.not_eq_true] at haz;by_cases hdg:dgB c=true
   ·have h46:=xB6 hdg;rcases hp with rfl|hp
    ·have e:nS (c::l) d (decide (([]:List UInt8)≠[]))=false:=(by simp[nS,haz,h46]);rw[e,qX,iN h46];obtain⟨t,r,e⟩:=eX 46 l ([]++[c]);rw[e,List.all_cons,dW t haz];simp
    ·have hne:p≠[]:=(by rintro rfl;simp[xO] at hp);have hal:alB c=true:=(by simp[alB,hdg]);have:=ih (p++[c]) d (.inr (fK hp hal)) hd;rw[qX,iN h46,← this];simp[nS,haz,hdg,hne]
   ·rw[Bool.not_eq_true] at hdg;have hal:alB c=false:=(by simp[alB,haz,hdg]);by_cases h46:c=46
    ·subst h46;rcases hp with rfl|hp
     ·simp[nS,haz,hdg,qX,xO]
     ·have hne:p≠[]:=(by rintro rfl;simp[xO] at hp);have:=ih [] (d+1) (.inl rfl) (by omega);have e:nS (46::l) d (decide (p≠[]))=nS l (d+1) (decide (([]:List UInt8)≠[])):=(by simp[nS,haz,hdg,hne]);rw[e,this];simp only[qX,if_true,lC,List.all_cons,hp,Bool.true_and];congr 1;congr 1;apply propext;omega
    ·have e:nS (c::l) d (decide (p≠[]))=false:=(by simp[nS,haz,hdg,h46]);rw[e,qX,iN h46];obtain⟨t,r,e⟩:=eX 46 l (p++[c]);rw[e,List.all_cons,yB7 p t hal];simp
theorem fN(l:List UInt8)(h:l.length<=40):zI l=nS l 1 false:=by
 have:=yW1 l [] 1 (.inl rfl) (by decide);simp only[ne_eq,not_true_eq_false,decide_false,Nat.sub_self,Nat.zero_add] at this;rw[this,zI,gH];simp[h]
theorem mO{l:List UInt8}(h:40<l.length):zI l=false:=by
 simp[zI,show ¬ l.length<=40 by omega]
theorem lM{l:List UInt8}{k:Nat}(h:k<l.length)(d:Nat)(b:Bool):nS (l.drop k) d b=if azB l[k]=true then nS (l.drop (k+1)) d true else if dgB l[k]=true/\b=true then nS (l.drop (k+1)) d b else if l[k]=46/\b=true then nS (l.drop (k+1)) (d+1) false else false:=by
 rw[List.drop_eq_getElem_cons h,nS]
end Go.Proofs.YtgppcegcpiaocaaGreatDoor
namespace Go.Proofs.YtgppcegcpiaocaaGreatDoor
open Go
theorem nJ:∀ (l:List UInt8) (acc a d:Nat) (c:UInt8),Lib.decFrom acc l=some a->Lib.digitVal c=some d->Lib.decFrom acc (l++[c])=some (a*10+d)
|[],acc,a,d,c,h,hc=>by
  simp only[Lib.decFrom] at h;injection h with h;subst h;simp only[List.nil_append,Lib.decFrom,hc]
|b::r,acc,a,d,c,h,hc=>by
  simp only[List.cons_append,Lib.decFrom] at h |-;cases hb:Lib.digitVal b with
 |none=>rw[hb] at h;cases h
 |some e=>rw[hb] at h;exact nJ r _ a d c h hc
theorem zY8(k:Nat)(h:k<10):Lib.digitVal (UInt8.ofNat (48+k))=some k:=by
 have e:(UInt8.ofNat (48+k)).toNat=48+k:=UInt8.toNat_ofNat_of_lt (by show 48+k<256;omega);unfold Lib.digitVal;rw[e,iP (by omega)];congr 1;omega
theorem sJ(u:Nat):Lib.decFrom 0 (Lib.decDigits u)=some u:=by
 induction u using Nat.strongRecOn with
|_ u ih =>
  rw[Lib.decDigits];by_cases h:u<10
  ·rw[dif_pos h];have:=nJ [] 0 0 u _ rfl (zY8 u h);simpa using this
  ·rw[dif_neg h,nJ _ 0 _ _ _ (ih (u / 10) (by omega)) (zY8 (u % 10) (by omega))];congr 1;omega
theorem tB{m n:Nat}(h:Lib.decDigits m=Lib.decDigits n):m=n:=by
 have h1:=sJ m;rw[h,sJ n] at h1;injection h1 with h1;exact h1.symm
theorem jD:∀ (k u:Nat),u<10 ^ (k+1)->Lib.nDigits u<=k+1
|0,u,h=>by rw[Lib.nDigits_small (by simpa using h)];exact nR _
|k+1,u,h=>by
  rw[Lib.nDigits];split
  ·omega
  ·have:=jD k (u / 10) (by rw[Nat.pow_succ] at h;omega);omega
theorem tY{u:Nat}(h:u<=1000000000):(Lib.decDigits u).length<=10:=by
 rw[Lib.decDigits_length];exact jD 9 u (by omega)
theorem yQ8(u:Nat):Lib.decDigits u≠[]:=by
 rw[Lib.decDigits];split<;>simp
theorem zT4{u:Nat}(h:u<=1000000000):Lib.atoiAll (Lib.decDigits u)=.ok (u:Int):=by
 rw[Lib.atoiAll_short _ (by have:=tY h;omega)];have hd:=sJ u;have hne:=yQ8 u;cases hl:Lib.decDigits u with
|nil=>exact absurd hl hne
|cons b r =>
  rw[hl] at hd;obtain⟨d,hdv⟩:=Lib.digit_of_decFrom (b::r) 0 u hd 0 b rfl;have hb:=Lib.digitVal_eq hdv;have h1:(b==45)=false:=by
   rw[bF];rintro rfl;have:=hb.1;simp at this
  have h2:(b==43)=false:=by
   rw[bF];rintro rfl;have:=hb.1;simp at this
  simp only[Lib.atoi,h1,h2,Lib.decNat,List.isEmpty_cons,Bool.false_eq_true,if_false,hd];rfl
def oP (l:List UInt8) (n:Nat):Prop:=n<=1000000000/\Lib.decDigits n=l
theorem oP.uniq{l:List UInt8}{m n:Nat}(h:oP l m)(k:oP l n):m=n:=tB (h.2.trans k.2.symm)
theorem oP.len{l:List UInt8}{n:Nat}(h:oP l n):l.length<=10:=by rw[← h.2];exact tY h.1
theorem oP.from_{l:List UInt8}{n:Nat}(h:oP l n):Lib.decFrom 0 l=some n:=by rw[← h.2];exact sJ n
theorem oP.atoi{l:List UInt8}{n:Nat}(h:oP l n):Lib.atoiAll l=.ok (n:Int):=by rw[← h.2];exact zT4 h.1
theorem xA3:∀ (l:List UInt8) (n k:Nat) (r:List UInt8),zY n l=some k->zY n (l++r)=some k:=by
 refine pW (motive:=fun n l=>∀ (k:Nat) (r:List UInt8),zY n l=some k->zY n (l++r)=some k) ?_ ?_ ?_ ?_ ?_ ?_ ?_
 ·intro l k r h;rw[uB] at h |-;exact h
 ·intro n k r h;rw[tM] at h;cases h
 ·intro n l ih k r h;rw[oK] at h;obtain⟨j,hj,rfl⟩:=Option.map_eq_some_iff.1 h;rw[List.cons_append,oK,ih j r hj];rfl
 ·intro n l ih k r h;rw[sS] at h;obtain⟨j,hj,rfl⟩:=Option.map_eq_some_iff.1 h;rw[List.cons_append,sS,ih j r hj];rfl
 ·intro n c l hc ih k r h;rw[uH n hc] at h;obtain⟨j,hj,rfl⟩:=Option.map_eq_some_iff.1 h;rw[List.cons_append,uH n hc,ih j r hj];rfl
 ·intro n d l h1 h2 ih k r h;rw[uS n h1 h2] at h;obtain⟨j,hj,rfl⟩:=Option.map_eq_some_iff.1 h;rw[List.cons_append,List.cons_append,uS n h1 h2,ih j r hj];rfl
 ·intro n c l h0 k r h;rw[h0] at h;cases h
theorem lZ:∀ (l:List UInt8) (n k:Nat),zY n l=some k->zY n (l.take k)=some k/\k<=l.length:=by
 refine pW (motive:=fun n l=>∀ k:Nat,zY n l=some k->zY n (l.take k)=some k/\k<=l.length) ?_ ?_ ?_ ?_ ?_ ?_ ?_
 ·intro l k h;rw[uB] at h;cases h;exact⟨by rw[uB],Nat.zero_le _⟩
 ·intro n k h;rw[tM] at h;cases h
 ·intro n l ih k h;rw[oK] at h;obtain⟨j,hj,rfl⟩:=Option.map_eq_some_iff.1 h;obtain⟨h1,h2⟩:=ih j hj;exact⟨by rw[List.take_succ_cons,oK,h1];rfl,by simp;omega⟩
 ·intro n l ih k h;rw[sS] at h;obtain⟨j,hj,rfl⟩:=Option.map_eq_some_iff.1 h;obtain⟨h1,h2⟩:=ih j hj;exact⟨by rw[List.take_succ_cons,sS,h1];rfl,by simp;omega⟩
 ·intro n c l hc ih k h;rw[uH n hc] at h;obtain⟨j,hj,rfl⟩:=Option.map_eq_some_iff.1 h;obtain⟨h1,h2⟩:=ih j hj;exact⟨by rw[List.take_succ_cons,uH n hc,h1];rfl,by simp;omega⟩
 ·intro n d l g1 g2 ih k h;rw[uS n g1 g2] at h;obtain⟨j,hj,rfl⟩:=Option.map_eq_some_iff.1 h;obtain⟨h1,h2⟩:=ih j hj;exact⟨by rw[show j+2=(j+1)+1 by omega,List.take_succ_cons,List.take_succ_cons,uS n g1 g2,h1];rfl,by simp;omega⟩
 ·intro n c l h0 k h;rw[h0] at h;cases h
theorem rL{l r:List UInt8}(h:zD l=true):zY 1 (l++r)=some l.length:=xA3 l 1 _ r (zU h).2
theorem iF{l:List UInt8}{k:Nat}(h:zY 1 l=some k)(hk:k<=60):zD (l.take k)=true:=by
 obtain⟨h1,h2⟩:=lZ l 1 k h;have e:(l.take k).length=k:=by simp;omega
 rw[zD,e,h1];simp[hk]
theorem nA{l m r s:List UInt8}(hl:zD l=true)(hm:zD m=true)(h:l++r=m++s):l=m/\r=s:=by
 have h1:=rL (r:=r) hl;rw[h,rL hm] at h1;injection h1 with h1;exact⟨List.append_inj_left h h1.symm,List.append_inj_right h h1.symm⟩
theorem jI{l:List UInt8}(h:zD l=true):l≠[]:=by
 intro e;subst e;have:=(zU h).2;rw[tM] at this;cases this
theorem pV{l r s:List UInt8}(h:zD l=true):l++r≠46::s:=by
 intro e;have h1:=rL (r:=r) h;rw[e,zA5 0 (by decide) (by decide) (by decide) (by decide)] at h1;cases h1
theorem sL{c:UInt8}:∀ {xs ys r s:List UInt8},c∉xs->c∉ys->xs++c::r=ys++c::s->xs=ys/\r=s
|[],[],r,s,_,_,h=>by injection h with _ h;exact⟨rfl,h⟩
|[],y::ys,r,s,_,hy,h=>by injection h with h1 _;subst h1;exact absurd List.mem_cons_self hy
|x::xs,[],r,s,hx,_,h=>by injection h with h1 _;subst h1;exact absurd List.mem_cons_self hx
|x::xs,y::ys,r,s,hx,hy,h=>by
  injection h with h1 h2;obtain⟨h3,h4⟩:=sL (fun hm=>hx (List.mem_cons_of_mem _ hm)) (fun hm=>hy (List.mem_cons_of_mem _ hm)) h2;exact⟨by rw[h1,h3],h4⟩
theorem eU:∀ (n:Nat) (c:UInt8),c∈Lib.decDigits n->48<=c.toNat/\c.toNat<=57:=by
 intro n
 induction n using Nat.strongRecOn with
|_ n ih =>
  intro c hc;have hd:∀ k,k<10->48<=(UInt8.ofNat (48+k)).toNat/\(UInt8.ofNat (48+k)).toNat<=57:=fun k hk=>by
   have e:(UInt8.ofNat (48+k)).toNat=48+k:=UInt8.toNat_ofNat_of_lt (by show 48+k<256;omega);omega
  rw[Lib.decDigits] at hc;by_cases h:n<10
  ·rw[dif_pos h] at hc;simp only[List.mem_cons,List.not_mem_nil,or_false] at hc;subst hc;exact hd n h
  ·rw[dif_neg h] at hc;rcases List.mem_append.1 hc with h1|h1
   ·exact ih (n / 10) (by omega) c h1
   ·simp only[List.mem_cons,List.not_mem_nil,or_false] at h1;subst h1;exact hd _ (by omega)
theorem rU(n:Nat):(46:UInt8)∉Lib.decDigits n:=fun h=>by
 have:=eU n 46 h;revert this
 decide
theorem lK:∀ (l:List UInt8) (d:Nat) (b:Bool),nS l d b=true->(59:UInt8)∉l
|[],_,_,_=>by simp
|c::r,d,b,h=>by
  rw[nS] at h;intro hm;rcases List.mem_cons.1 hm with rfl|hm
  ·revert h;simp[azB,dgB]
  ·split at h
   ·exact lK r _ _ h hm
   ·split at h
    ·exact lK r _ _ h hm
    ·split at h
     ·exact lK r _ _ h hm
     ·cases h
theorem nU{l:List UInt8}(h:zI l=true):l.length<=40:=by
 by_cases hl:l.length<=40
 ·exact hl
 ·rw[mO (by omega)] at h;cases h
theorem pD{l:List UInt8}(h:zI l=true):(59:UInt8)∉l:=by
 have hl:=nU h;rw[fN l hl] at h;exact lK l _ _ h
inductive Tm where
|var:Nat->Tm
|sort:List UInt8->Tm
|const:List UInt8->List (List UInt8)->Tm
|app:Tm->Tm->Tm
|lam:Tm->Tm->Tm
|pi:Tm->Tm->Tm
|lett:Tm->Tm->Tm->Tm
def yH:List (List UInt8)->List UInt8
|[]=>[]
|l::r=>l++44::yH r
theorem tV:∀ a b:List (List UInt8),yH (a++b)=yH a++yH b
|[],b=>rfl
|x::a,b=>by simp[yH,tV a b]
namespace Tm
def bytes:Tm->List UInt8
|var n=>118::(Lib.decDigits n++[46])
|sort l=>115::(l++[46])
|const n ls=>99::(n++59::(yH ls++[46]))
|app f a=>64::(f.bytes++a.bytes)
|lam d b=>108::(d.bytes++b.bytes)
|pi d b=>112::(d.bytes++b.bytes)
|lett t v b=>116::(t.bytes++(v.bytes++b.bytes))
def Ok:Tm->Prop
|var n=>n<=999
|sort l=>zD l=true
|const n ls=>zI n=true/\ls.length<=3/\∀ x∈ls,zD x=true
|app f a=>f.Ok/\a.Ok
|lam d b=>d.Ok/\b.Ok
|pi d b=>d.Ok/\b.Ok
|lett t v b=>t.Ok/\v.Ok/\b.Ok
def size:Tm->Nat
|var _=>1
|sort _=>1
|const _ _=>1
|app f a=>f.size+a.size+1
|lam d b=>d.size+b.size+1
|pi d b=>d.size+b.size+1
|lett t v b=>t.size+v.size+b.size+1
def opn:Tm->Nat
|var n=>n+1
|sort _=>0
|const _ _=>0
|app f a=>max f.opn a.opn
|lam d b=>max d.opn (b.opn - 1)
|pi d b=>max d.opn (b.opn - 1)
|lett t v b=>max (max t.opn v.opn) (b.opn - 1)
def parts:Tm->List Tm
|var _=>[]
|sort _=>[]
|const _ _=>[]
|app f a=>[f,a]
|lam d b=>[d,b]
|pi d b=>[d,b]
|lett t v b=>[t,v,b]
def kind:Tm->UInt8
|var _=>118
|sort _=>115
|const _ _=>99
|app _ _=>64
|lam _ _=>108
|pi _ _=>112
|lett _ _ _=>116
def Lim (m:Nat):Tm->Prop
|var n=>n<=m
|sort _=>True
|const _ _=>True
|app f x=>Lim m f/\Lim m x
|lam d b=>Lim m d/\Lim m b
|pi d b=>Lim m d/\Lim m b
|lett t v b=>Lim m t/\Lim m v/\Lim m b
theorem bytes_head(t:Tm):∃ r,t.bytes=t.kind::r:=by
 cases t<;>exact⟨_,rfl⟩
theorem bytes_pos(t:Tm):0<t.bytes.length:=by
 obtain⟨r,h⟩:=t.bytes_head;rw[h];simp
theorem size_pos(t:Tm):0<t.size:=by cases t<;>simp[size]
theorem size_le:∀ t:Tm,t.size<=t.bytes.length
|var _=>by simp[size,bytes]
|sort _=>by simp[size,bytes]
|const _ _=>by simp[size,bytes]
|app f a=>by have:=size_le f;have:=size_le a;simp[size,bytes];omega
|lam f a=>by have:=size_le f;have:=size_le a;simp[size,bytes];omega
|pi f a=>by have:=size_le f;have:=size_le a;simp[size,bytes];omega
|lett f a b=>by have:=size_le f;have:=size_le a;have:=size_le b;simp[size,bytes];omega
theorem opn_le:∀ t:Tm,t.Ok->t.opn<=1000
|var n,h=>by have:n<=999:=h;simp only[opn];omega
|sort _,_=>by simp[opn]
|const _ _,_=>by simp[opn]
|app f a,h=>by have:=opn_le f h.1;have:=opn_le a h.2;simp only[opn];omega
|lam f a,h=>by have:=opn_le f h.1;have:=opn_le a h.2;simp only[opn];omega
|pi f a,h=>by have:=opn_le f h.1;have:=opn_le a h.2;simp only[opn];omega
|lett f a b,h=>by have:=opn_le f h.1;have:=opn_le a h.2.1;have:=opn_le b h.2.2;simp only[opn];omega
end Tm
theorem zX1:∀ {a b:List (List UInt8)} {r s:List UInt8},(∀ x∈a,zD x=true)->(∀ x∈b,zD x=true)->yH a++46::r=yH b++46::s->a=b/\r=s
|[],[],r,s,_,_,h=>by injection h with _ h;exact⟨rfl,h⟩
|[],y::b,r,s,_,hy,h=>by
  rw[yH,yH,List.append_assoc] at h;exact absurd h.symm (pV (hy y List.mem_cons_self))
|x::a,[],r,s,hx,_,h=>by
  rw[yH,yH,List.append_assoc] at h;exact absurd h (pV (hx x List.mem_cons_self))
|x::a,y::b,r,s,hx,hy,h=>by
  rw[yH,yH,List.append_assoc,List.append_assoc,List.cons_append,List.cons_append] at h;obtain⟨h1,h2⟩:=nA (hx x List.mem_cons_self) (hy y List.mem_cons_self) h;injection h2 with _ h2;obtain⟨h3,h4⟩:=zX1 (fun z hz=>hx z (List.mem_cons_of_mem _ hz)) (fun z hz=>hy z (List.mem_cons_of_mem _ hz)) h2;exact⟨by rw[h1,h3],h4⟩
theorem Tm.uniq:∀ (t u:Tm) (r s:List UInt8),t.Ok->u.Ok->t.bytes++r=u.bytes++s->t=u/\r=s:=by
 intro t
 induction t with
|var n =>
  intro u r s ht hu h;cases u with
 |var m =>
   simp only[Tm.bytes,List.cons_append,List.append_assoc,List.nil_append] at h;injection h with _ h;obtain⟨h1,h2⟩:=sL (rU n) (rU m) h;exact⟨by rw[tB h1],h2⟩
 |_=>simp[Tm.bytes] at h
|sort l =>
  intro u r s ht hu h;cases u with
 |sort m =>
   simp only[Tm.bytes,List.cons_append,List.append_assoc,List.nil_append] at h;injection h with _ h;obtain⟨h1,h2⟩:=nA ht hu h;injection h2 with _ h2;exact⟨by rw[h1],h2⟩
 |_=>simp[Tm.bytes] at h
|const n ls =>
  intro u r s ht hu h;cases u with
 |const m ms =>
   simp only[Tm.bytes,List.cons_append,List.append_assoc,List.nil_append] at h;injection h with _ h;obtain⟨h1,h2⟩:=sL (pD ht.1) (pD hu.1) h;obtain⟨h3,h4⟩:=zX1 ht.2.2 hu.2.2 h2;exact⟨by rw[h1,h3],h4⟩
 |_=>simp[Tm.bytes] at h
|app f a ihf iha =>
  intro u r s ht hu h;cases u with
 |app g b =>
   simp only[Tm.bytes,List.cons_append,List.append_assoc] at h;injection h with _ h;obtain⟨h1,h2⟩:=ihf g _ _ ht.1 hu.1 h;obtain⟨h3,h4⟩:=iha b _ _ ht.2 hu.2 h2;exact⟨by rw[h1,h3],h4⟩
 |_=>simp[Tm.bytes] at h
|lam f a ihf iha =>
  intro u r s ht hu h;cases u with
 |lam g b =>
   simp only[Tm.bytes,List.cons_append,List.append_assoc] at h;injection h with _ h;obtain⟨h1,h2⟩:=ihf g _ _ ht.1 hu.1 h;obtain⟨h3,h4⟩:=iha b _ _ ht.2 hu.2 h2;exact⟨by rw[h1,h3],h4⟩
 |_=>simp[Tm.bytes] at h
|pi f a ihf iha =>
  intro u r s ht hu h;cases u with
 |pi g b =>
   simp only[Tm.bytes,List.cons_append,List.append_assoc] at h;injection h with _ h;obtain⟨h1,h2⟩:=ihf g _ _ ht.1 hu.1 h;obtain⟨h3,h4⟩:=iha b _ _ ht.2 hu.2 h2;exact⟨by rw[h1,h3],h4⟩
 |_=>simp[Tm.bytes] at h
|lett f a c ihf iha ihc =>
  intro u r s ht hu h;cases u with
 |lett g b d =>
   simp only[Tm.bytes,List.cons_append,List.append_assoc] at h;injection h with _ h;obtain⟨h1,h2⟩:=ihf g _ _ ht.1 hu.1 h;obtain⟨h3,h4⟩:=iha b _ _ ht.2.1 hu.2.1 h2;obtain⟨h5,h6⟩:=ihc d _ _ ht.2.2 hu.2.2 h4;exact⟨by rw[h1,h3,h5],h6⟩
 |_=>simp[Tm.bytes] at h
def qQ (l:List UInt8) (t:Tm):Prop:=t.Ok/\t.bytes=l/\l.length<=2000
theorem qQ.uniq{l:List UInt8}{t u:Tm}(h:qQ l t)(k:qQ l u):t=u :=
 (Tm.uniq t u [] [] h.1 k.1 (by rw[h.2.1,k.2.1])).1
open Classical in
noncomputable def vN (l:List UInt8):Option Tm:=if h:∃ t,qQ l t then some (Classical.choose h) else none
theorem zW{l:List UInt8}{t:Tm}(h:qQ l t):vN l=some t:=by
 unfold vN;have he:∃ t,qQ l t:=⟨t,h⟩;rw[dif_pos he];congr 1;exact(Classical.choose_spec he).uniq h
theorem yZ{l:List UInt8}(h:∀ t,¬ qQ l t):vN l=none:=by
 unfold vN;rw[dif_neg (fun ⟨t,ht⟩=>h t ht)]
theorem vS{l:List UInt8}{t:Tm}(h:vN l=some t):qQ l t:=by
 unfold vN at h;split at h
 ·rename_i he;injection h with h;rw[← h];exact Classical.choose_spec he
 ·cases h
def Tat (l:List UInt8) (t:Tm) (r:List UInt8):Prop:=t.Ok/\l=t.bytes++r
theorem Tat.uniq{l r s:List UInt8}{t u:Tm}(h:Tat l t r)(k:Tat l u s):t=u/\r=s :=
 Tm.uniq t u r s h.1 k.1 (h.2.symm.trans k.2)
noncomputable def yF (l:List UInt8):Bool:=(vN l).isSome
noncomputable def xA (l:List UInt8):List UInt8:=if yF l=true then l.take 1 else []
noncomputable def yW (l:List UInt8):Nat:=match vN l with
|some t=>t.opn
|none=>0
def vH (n:Int):List UInt8:=if 0<=n/\n<=999 then (Tm.var n.toNat).bytes else []
def nK (n:List UInt8) (ls:List (List UInt8)):List UInt8:=if zI n=true/\ls.length<=3/\∀ x∈ls,zD x=true then (Tm.const n ls).bytes else []
end Go.Proofs.YtgppcegcpiaocaaGreatDoor
namespace Go.Proofs.YtgppcegcpiaocaaGreatDoor
open Go.ChangeShapes Go.WideShapes Go.ChangeAt Go.RowKit
def sM (l:List UInt8) (n p:Nat):Option Nat:=(zY n (l.drop p)).map (·+p)
theorem xF3{l:List UInt8}{n p:Nat}(hp:p<l.length)(h:l[p]=122):sM l (n+1) p=sM l n (p+1):=by
 rw[sM,List.drop_eq_getElem_cons hp,h,oK,sM,Option.map_map];congr 1;funext x;simp;omega
theorem yJ2{l:List UInt8}{n p:Nat}(hp:p<l.length)(h:l[p]=43):sM l (n+1) p=sM l (n+1) (p+1):=by
 rw[sM,List.drop_eq_getElem_cons hp,h,sS,sM,Option.map_map];congr 1;funext x;simp;omega
theorem hZ{l:List UInt8}{n p:Nat}(hp:p<l.length)(h:l[p]=109\/l[p]=105):sM l (n+1) p=sM l (n+2) (p+1):=by
 rw[sM,List.drop_eq_getElem_cons hp,uH n h,sM,Option.map_map];congr 1;funext x;simp;omega
theorem zW3{l:List UInt8}{n p:Nat}(hp:p+1<l.length)(h:l[p]=117)(h1:48<=l[p+1].toNat)(h2:l[p+1].toNat<=50):sM l (n+1) p=sM l n (p+2):=by
 rw[sM,List.drop_eq_getElem_cons (by omega),h,List.drop_eq_getElem_cons hp,uS n h1 h2,sM,Option.map_map];congr 1;funext x;simp;omega
theorem mM{l:List UInt8}{n p:Nat}(hp:p+1<l.length)(h:l[p]=117)(h1:¬ (48<=l[p+1].toNat/\l[p+1].toNat<=50)):sM l (n+1) p=none:=by
 rw[sM,List.drop_eq_getElem_cons (by omega),h,List.drop_eq_getElem_cons hp,iH n h1];rfl
theorem fG{l:List UInt8}{n p:Nat}(hp:p<l.length)(hq:¬ p+1<l.length)(h:l[p]=117):sM l (n+1) p=none:=by
 rw[sM,List.drop_eq_getElem_cons hp,h,List.drop_eq_nil_of_le (by omega),iG];rfl
theorem zW5{l:List UInt8}{n p:Nat}(hp:p<l.length)(h1:l[p]≠122)(h2:l[p]≠43)(h3:l[p]≠109)(h5:l[p]≠105)(h4:l[p]≠117):sM l (n+1) p=none:=by
 rw[sM,List.drop_eq_getElem_cons hp,zA5 n h1 h2 (by rintro (h|h)<;>contradiction) h4];rfl
theorem zW4{l:List UInt8}{n p:Nat}(hp:¬ p<l.length):sM l (n+1) p=none:=by
 rw[sM,List.drop_eq_nil_of_le (by omega),tM];rfl
theorem zF2(l:List UInt8)(p:Nat):sM l 0 p=some p:=by rw[sM,uB];simp
def dO:Option Nat->Int
|some k=>k
|none=>-1
theorem zZ{c d:UInt8}(h:c≠d):((c.toNat:Int)==(d.toNat:Int))=false:=by
 rw[bF];intro e;exact h (UInt8.toNat_inj.1 (by omega))
theorem yV{c d:UInt8}(h:c=d):((c.toNat:Int)==(d.toNat:Int))=true:=by rw[h];simp
theorem cR(s:ByteArray)(a:Nat)(w:World)(hs:s.size<=1000000000)(ha:a<=s.size) :
  Calls Tryz.prog 180 #[.string s,.int .i64 (a:Int)] w fun e w'=>e=.returned (.int .i64 (dO (sM s.data.toList 1 a)))/\w'=w:=by
 have hls:s.data.toList.length=s.size:=rfl;have HLS:=Ld hls;clear hls;go_enter Tryz.func180,Tryz.ntmps180;go_wp2;go_loopw [1,5] (fun i nd wr=>∃ p n:Nat,p<=s.size/\n<=p+1/\i=.int .i64 p/\nd=.int .i64 n/\wr=w/\Hid (sM s.data.toList n p=sM s.data.toList 1 a)) (fun i _ _=>s.size - (intOf i).toNat)
 case atStart=>exact⟨a,1,ha,by omega,rfl,rfl,rfl,rfl⟩
 case round =>
  obtain⟨p,n,hp,hn,rfl,rfl,rfl,HR⟩:=hrel;rcases Nat.eq_zero_or_pos n with h0|hpos
  ·subst h0;rw[zF2] at HR;have HE:Hid (dO (sM s.data.toList 1 a)=(p:Int)):=(by rw[Hid,← HR.out];rfl);clear HR;go_wp2;go_ret;rw[HE.out];exact⟨rfl,rfl⟩
  ·obtain⟨m,hm⟩:∃ m,n=m+1:=⟨n - 1,by omega⟩;rw[hm] at HR;have d0:decide ((0:Int)<(n:Int))=true:=dT (by omega);by_cases hlt:p<s.size
   ·have hll:p<s.data.toList.length:=hlt;have q1:=zn p;have q2:(p:Int)<(s.size:Int):=(by omega);have d1:decide ((s.size:Int)<=(p:Int))=false:=dF (by omega);by_cases c1:s[p]=122
    ·have e1:((s[p].toNat:Int)==122)=true:=yV c1;have HR2:=Ld ((xF3 hll c1).symm.trans HR.out);clear HR c1;go_wp2;go_roundw
     case rel=>exact⟨p+1,m,by omega,by omega,by go_num,by simp<;>omega,trivial,HR2.out⟩
     case measure=>simp[intOf];omega
    have e1:((s[p].toNat:Int)==122)=false:=zZ c1;by_cases c2:s[p]=43
    ·have e2:((s[p].toNat:Int)==43)=true:=yV c2;have HR2:=Ld ((yJ2 hll c2).symm.trans HR.out);rw[← hm] at HR2;clear HR c2;go_wp2;go_roundw
     case rel=>exact⟨p+1,n,by omega,by omega,by go_num,rfl,trivial,HR2.out⟩
     case measure=>simp[intOf];omega
    have e2:((s[p].toNat:Int)==43)=false:=zZ c2;by_cases c3:s[p]=109
    ·have e3:((s[p].toNat:Int)==109)=true:=yV c3;have HR2:=Ld ((hZ hll (.inl c3)).symm.trans HR.out);clear HR c3;go_wp2;go_roundw
     case rel=>exact⟨p+1,m+2,by omega,by omega,by go_num,by simp<;>omega,trivial,HR2.out⟩
     case measure=>simp[intOf];omega
    have e3:((s[p].toNat:Int)==109)=false:=zZ c3;by_cases c4:s[p]=105
    ·have e4:((s[p].toNat:Int)==105)=true:=yV c4;have HR2:=Ld ((hZ hll (.inr c4)).symm.trans HR.out);clear HR c4;go_wp2;go_roundw
     case rel=>exact⟨p+1,m+2,by omega,by omega,by go_num,by simp<;>omega,trivial,HR2.out⟩
     case measure=>simp[intOf];omega
    have e4:((s[p].toNat:Int)==105)=false:=zZ c4;by_cases c5:s[p]=117
    ·have e5:((s[p].toNat:Int)==117)=true:=yV c5;by_cases hl2:p+1<s.size
     ·have hll2:p+1<s.data.toList.length:=hl2;have d2:decide ((s.size:Int)<=(p:Int)+1)=false:=dF (by omega);have q3:(0:Int)<=(p:Int)+1:=(by omega);have q4:(p:Int)+1<(s.size:Int):=(by omega);by_cases b1:48<=s[p+1].toNat
      ·have d3:decide ((s[p+1].toNat:Int)<48)=false:=dF (by omega);by_cases b2:s[p+1].toNat<=50
       ·have d4:decide ((50:Int)<(s[p+1].toNat:Int))=false:=dF (by omega);have HR2:=Ld ((zW3 hll2 c5 b1 b2).symm.trans HR.out);clear HR c5;go_wp2;go_roundw
        case rel=>exact⟨p+2,m,by omega,by omega,by go_num,by simp<;>omega,trivial,HR2.out⟩
        case measure=>simp[intOf];omega
       ·have d4:decide ((50:Int)<(s[p+1].toNat:Int))=true:=dT (by omega);have HR2:=Ld ((mM (n:=m) hll2 c5 (by rintro ⟨_,h⟩;exact b2 h)).symm.trans HR.out);have HE:Hid (dO (sM s.data.toList 1 a)=-1):=(by rw[Hid,← HR2.out];rfl);clear HR HR2 c5;go_wp2;go_ret;rw[HE.out];exact⟨rfl,rfl⟩
      ·have d3:decide ((s[p+1].toNat:Int)<48)=true:=dT (by omega);have HR2:=Ld ((mM (n:=m) hll2 c5 (by rintro ⟨h,_⟩;exact b1 h)).symm.trans HR.out);have HE:Hid (dO (sM s.data.toList 1 a)=-1):=(by rw[Hid,← HR2.out];rfl);clear HR HR2 c5;go_wp2;go_ret;rw[HE.out];exact⟨rfl,rfl⟩
     ·have d2:decide ((s.size:Int)<=(p:Int)+1)=true:=dT (by omega);have HR2:=Ld ((fG (n:=m) hll (by simpa using hl2) c5).symm.trans HR.out);have HE:Hid (dO (sM s.data.toList 1 a)=-1):=(by rw[Hid,← HR2.out];rfl);clear HR HR2 c5;go_wp2;go_ret;rw[HE.out];exact⟨rfl,rfl⟩
    ·have e5:((s[p].toNat:Int)==117)=false:=zZ c5;have HR2:=Ld ((zW5 (n:=m) hll c1 c2 c3 c4 c5).symm.trans HR.out);have HE:Hid (dO (sM s.data.toList 1 a)=-1):=(by rw[Hid,← HR2.out];rfl);clear c1 c2 c3 c4 c5;clear HR HR2;go_wp2;go_ret;rw[HE.out];exact⟨rfl,rfl⟩
   ·have HR2:=Ld ((zW4 (n:=m) (l:=s.data.toList) (p:=p) (by simpa using hlt)).symm.trans HR.out);have HE:Hid (dO (sM s.data.toList 1 a)=-1):=(by rw[Hid,← HR2.out];rfl);have d1:decide ((s.size:Int)<=(p:Int))=true:=dT (by omega);clear HR HR2;go_wp2;go_ret;rw[HE.out];exact⟨rfl,rfl⟩
theorem yQ2(x:Int)(w:World)(h0:0<=x)(h:x<10):Calls Tryz.prog 240 #[.int .i64 x] w fun e w'=>e=.returned (.int .u8 (48+x))/\w=w':=by
 go_enter Tryz.func240,Tryz.ntmps240;go_wp2;go_ret;exact⟨rfl,rfl⟩
def yG4 (u:Nat) (acc:List UInt8):List UInt8:=if u=0 then acc else Lib.decDigits u++acc
theorem zL7{u:Nat}(h:0<u)(acc:List UInt8):yG4 u acc=yG4 (u / 10) (UInt8.ofNat (48+u % 10)::acc):=by
 unfold yG4;rw[iN (by omega),Lib.decDigits];by_cases h1:u<10
 ·rw[dif_pos h1,iP (by omega),Nat.mod_eq_of_lt h1];rfl
 ·rw[dif_neg h1,iN (by omega)];simp
theorem zL6(acc:List UInt8):yG4 0 acc=acc:=iP rfl
theorem zC7(x:UInt8)(acc:List UInt8):Value.string ({ data:=#[x] }++{ data:=acc.toArray })=.string ⟨(x::acc).toArray⟩:=by
 congr 1
theorem yQ9(m:Nat):UInt8.ofNat (48+m % 10)=48+UInt8.ofNat (m % 10):=by
 apply UInt8.toNat_inj.1;simp
theorem zT8(u:Nat)(w:World)(h0:0<u)(hu:u<=9223372036854775807) :
  Rt 228 #[.int .i64 (u:Int)] w (.string ⟨(Lib.decDigits u).toArray⟩):=by
 have hb:((u:Int)==0)=false:=by simp;omega
 have hs:Hid (yG4 u []=Lib.decDigits u):=by show _=_;unfold yG4;rw[iN (by omega),List.append_nil]
 go_enter Tryz.func228,Tryz.ntmps228;go_wp2;go_loopw [0,4] (fun i s wr=>∃ (m:Nat) (acc:List UInt8),m+acc.length<=u/\i=.int .i64 m/\s=.string ⟨acc.toArray⟩/\Below w.heap.size w wr/\Hid (yG4 u []=yG4 m acc))
  (fun i _ _=>(intOf i).toNat)
 case atStart=>exact⟨u,[],by simp,rfl,rfl,bR _ _,rfl⟩
 case round =>
  obtain⟨m,acc,hm,rfl,rfl,hbel,HD⟩:=hrel;by_cases hp:0<m
  ·have HD2:=Ld (HD.out.trans (zL7 hp acc));clear HD;have hmb:((m:Int) != 0)=true:=(by simp;omega);have hcv:=zC5 (P:=Tryz.prog) wr (48+(m:Int) % 10) Tryz.underlying22 Tryz.underlying5 Tryz.underlying9 (by omega) (by omega);have hz:(⟨acc.toArray⟩:ByteArray).size=acc.length:=(by simp[ByteArray.size]);have f1:=Ld fun W=>yQ2 ((m:Int) % 10) W (by omega) (by omega);go_wp2_with fail;(with_reducible refine mo (f1.out _) ?_);rintro w' rfl;go_wp2;go_roundw
   case rel=>exact⟨m / 10,UInt8.ofNat (48+m % 10)::acc,by simp;omega,by go_num,(zC7 _ _).trans (by rw[yQ9]),hbel.alloc hbel.size _,HD2.out⟩
   case measure=>simp[intOf];omega
  ·obtain rfl:m=0:=(by omega);have HD2:=Ld (HD.out.trans (zL6 acc));clear HD;go_wp2;go_ret;exact⟨by rw[← hs.out,HD2.out];rfl,hbel⟩
theorem yU7(m:Nat):(-(m:Int)).tmod 10=-((m:Int) % 10):=by
 rw[Int.neg_tmod,Int.tmod_eq_emod_of_nonneg (by omega)]
theorem yU9(m:Nat):(-(m:Int)).tdiv 10=-((m:Int) / 10):=by
 rw[Int.neg_tdiv,Int.tdiv_eq_ediv_of_nonneg (by omega)]
theorem zT9(u:Nat)(w:World)(h0:0<u)(hu:u<=9223372036854775808) :
  Rt 228 #[.int .i64 (-(u:Int))] w (.string ⟨(45::Lib.decDigits u).toArray⟩):=by
 have hb:(-(u:Int)==0)=false:=by simp;omega
 have hb2:decide (-(u:Int)<0)=true:=by simp;omega
 have hs:Hid (yG4 u []=Lib.decDigits u):=by show _=_;unfold yG4;rw[iN (by omega),List.append_nil]
 go_enter Tryz.func228,Tryz.ntmps228;go_wp2;go_loopw [0,4] (fun i s wr=>∃ (m:Nat) (acc:List UInt8),9*acc.length<=u+9/\(0<m->9*acc.length+m<=u)/\i=.int .i64 (-(m:Int))/\s=.string ⟨acc.toArray⟩/\Below w.heap.size w wr/\Hid (yG4 u []=yG4 m acc))
  (fun i _ _=>(-intOf i).toNat)
 case atStart=>exact⟨u,[],by simp,fun _=>by simp,rfl,rfl,bR _ _,rfl⟩
 case round =>
  obtain⟨m,acc,hm,hm2,rfl,rfl,hbel,HD⟩:=hrel;by_cases hp:0<m
  ·have hm3:=hm2 hp;clear hm2;have HD2:=Ld (HD.out.trans (zL7 hp acc));clear HD;have hmb:(-(m:Int) != 0)=true:=(by simp;omega);have hz:(⟨acc.toArray⟩:ByteArray).size=acc.length:=(by simp[ByteArray.size]);have e1:=yU7 m;have e2:=yU9 m;by_cases hz10:m % 10=0
   ·have hcv:=zC5 (P:=Tryz.prog) wr 48 Tryz.underlying22 Tryz.underlying5 Tryz.underlying9 (by decide) (by decide);have f1:=Ld fun W=>yQ2 0 W (by decide) (by decide);simp only[Int.add_zero] at f1;rw[show ((m:Int) % 10)=0 by omega,Int.neg_zero] at e1;rw[hz10] at HD2;clear hz10;go_wp2_with fail;(with_reducible refine mo (f1.out _) ?_);rintro w' rfl;go_wp2;go_roundw
    case rel=>exact⟨m / 10,48::acc,by simp;omega,fun _=>by simp;omega,by go_num,zC7 _ _,hbel.alloc hbel.size _,HD2.out⟩
    case measure=>simp[intOf];omega
   ·have hcv:=zC5 (P:=Tryz.prog) wr (48+(m:Int) % 10) Tryz.underlying22 Tryz.underlying5 Tryz.underlying9 (by omega) (by omega);have f1:=Ld fun W=>yQ2 ((m:Int) % 10) W (by omega) (by omega);have hz11:0<(m:Int) % 10:=(by omega);clear hz10;go_wp2_with fail;(with_reducible refine mo (f1.out _) ?_);rintro w' rfl;go_wp2;go_roundw
    case rel=>exact⟨m / 10,UInt8.ofNat (48+m % 10)::acc,by simp;omega,fun _=>by simp;omega,by go_num,(zC7 _ _).trans (by rw[yQ9]),hbel.alloc hbel.size _,HD2.out⟩
    case measure=>simp[intOf];omega
  ·have e0:-(m:Int)=0:=(by omega);have hm0:m=0:=(by omega);have HD2:=Ld (HD.out.trans (by rw[hm0,zL6]));have HM:=Ld hm0;clear HD hm0;have hz:(⟨acc.toArray⟩:ByteArray).size=acc.length:=(by simp[ByteArray.size]);rw[e0];clear e0 hp;go_wp2;go_ret;exact⟨by rw[← hs.out,HD2.out];exact congrArg Ending.returned (zC7 _ _),hbel⟩
theorem zU0(n:Int)(w:World)(h0:-9223372036854775808<=n)(h1:n<=9223372036854775807) :
  Rt 228 #[.int .i64 n] w (.string ⟨(Lib.itoa n).toArray⟩):=by
 rcases Int.lt_trichotomy n 0 with h|h|h
 ·obtain⟨u,rfl⟩:∃ u:Nat,n=-(u:Int):=⟨n.natAbs,by omega⟩;rw[Lib.itoa_neg u (by omega)];exact zT9 u w (by omega) (by omega)
 ·subst h;rw[show Lib.itoa 0=[48] from by rw[show (0:Int)=((0:Nat):Int) from rfl,Lib.itoa_nonneg,Lib.decDigits_one (by decide)];rfl];go_enter Tryz.func228,Tryz.ntmps228;go_wp2;go_ret;exact⟨rfl,bR _ _⟩
 ·obtain⟨u,rfl⟩:∃ u:Nat,n=(u:Int):=⟨n.natAbs,by omega⟩;rw[Lib.itoa_nonneg u];exact zT8 u w (by omega) (by omega)
end Go.Proofs.YtgppcegcpiaocaaGreatDoor
