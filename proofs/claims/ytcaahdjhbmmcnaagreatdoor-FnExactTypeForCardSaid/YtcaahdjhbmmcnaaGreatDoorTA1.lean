/- VMath NMath RdMath TMath V4 DecS -/
import Derived.Lib.ItoaNum
import Derived.Lib.ItoaMem
import Derived.Lib.AtoiTie
import Derived.WalkKit
import Derived.ProofKit
import Derived.OpenShut
import Derived.Lib.Hide
import Derived.Deep.AppendLies
import Derived.Laws.BytesArg
import Derived.Laws.IdiomStrings
import Derived.Test.YtcaahdjhbmmcnaaGreatDoorTBase
set_option maxRecDepth 100000
set_option maxHeartbeats 16000000
set_option linter.unusedSimpArgs false
set_option linter.unusedVariables false
namespace Go.Proofs.YtcaahdjhbmmcnaaGreatDoor
def xW:Nat->List UInt8->Option Nat
|0,_=>some 0
|_+1,[]=>none
|n+1,[c]=>if c=122 then (xW n []).map (·+1) else none
|n+1,c::d::r =>
  if c=122 then (xW n (d::r)).map (·+1)
  else if c=43 then (xW (n+1) (d::r)).map (·+1)
  else if c=109\/c=105 then (xW (n+2) (d::r)).map (·+1)
  else if c=117 then (if 48<=d.toNat/\d.toNat<=50 then (xW n r).map (·+2) else none)
  else none
termination_by _ l=>l.length
theorem uA(l:List UInt8):xW 0 l=some 0:=by rw[xW]
theorem tD(n:Nat):xW (n+1) []=none:=by rw[xW]
theorem pP(n:Nat)(r:List UInt8):xW (n+1) (122::r)=(xW n r).map (·+1):=by
 cases r with
|nil=>rw[xW];simp
|cons d r=>rw[xW];simp
theorem sE(n:Nat)(r:List UInt8):xW (n+1) (43::r)=(xW (n+1) r).map (·+1):=by
 cases r with
|nil=>rw[tD,xW];simp
|cons d r=>rw[xW];simp
theorem uD(n:Nat){c:UInt8}(hc:c=109\/c=105)(r:List UInt8):xW (n+1) (c::r)=(xW (n+2) r).map (·+1):=by
 have h1:c≠122:=by rcases hc with rfl|rfl<;>decide
 have h2:c≠43:=by rcases hc with rfl|rfl<;>decide
 cases r with
|nil=>rw[tD,xW,iN h1];simp
|cons d r=>rw[xW,iN h1,iN h2,iP hc]
theorem uL(n:Nat){d:UInt8}(h1:48<=d.toNat)(h2:d.toNat<=50)(r:List UInt8):xW (n+1) (117::d::r)=(xW n r).map (·+2):=by
 rw[xW];simp[h1,h2]
theorem kV(n:Nat){d:UInt8}(h:¬ (48<=d.toNat/\d.toNat<=50))(r:List UInt8):xW (n+1) (117::d::r)=none:=by
 rw[xW];simp[h]
theorem kU(n:Nat):xW (n+1) [117]=none:=by rw[xW];simp
theorem cW(n:Nat){c:UInt8}(h1:c≠122)(h2:c≠43)(h3:¬ (c=109\/c=105))(h4:c≠117)(r:List UInt8):xW (n+1) (c::r)=none:=by
 cases r with
|nil=>rw[xW,iN h1]
|cons d r=>rw[xW,iN h1,iN h2,iN h3,iN h4]
theorem pF{motive:Nat->List UInt8->Prop}(zero:∀ l,motive 0 l)(nil:∀ n,motive (n+1) [])
  (z:∀ n r,motive n r->motive (n+1) (122::r)) (up:∀ n r,motive (n+1) r->motive (n+1) (43::r))
  (two:∀ n c r,c=109\/c=105->motive (n+2) r->motive (n+1) (c::r)) (par:∀ n d r,48<=d.toNat->d.toNat<=50->motive n r->motive (n+1) (117::d::r))
  (bad:∀ n c r,xW (n+1) (c::r)=none->motive (n+1) (c::r)):∀ (l:List UInt8) (n:Nat),motive n l:=by
 intro l
 induction hl:l.length using Nat.strongRecOn generalizing l with
|ind k ih =>
  intro n;cases n with
 |zero=>exact zero l
 |succ n =>
   cases l with
  |nil=>exact nil n
  |cons c r =>
    have hr:r.length<k:=(by simp at hl;omega);by_cases h1:c=122
    ·subst h1;exact z n r (ih _ hr r rfl n)
    by_cases h2:c=43
    ·subst h2;exact up n r (ih _ hr r rfl (n+1))
    by_cases h3:c=109\/c=105
    ·exact two n c r h3 (ih _ hr r rfl (n+2))
    by_cases h4:c=117
    ·subst h4;cases r with
    |nil=>exact bad n 117 [] (kU n)
    |cons d r =>
      by_cases h5:48<=d.toNat/\d.toNat<=50
      ·exact par n d r h5.1 h5.2 (ih _ (by simp at hl;omega) r rfl n)
      ·exact bad n 117 (d::r) (kV n h5 r)
    ·exact bad n c r (cW n h1 h2 h3 h4 r)
def zD (l:List UInt8):Bool:=decide (l.length<=60)&&decide (xW 1 l=some l.length)
def zS7 (l:List UInt8) (at':Int):Int :=
 if 10000<l.length\/at'<0\/(l.length:Int)<at' then -1 else match xW 1 (l.drop at'.toNat) with
 |some k=>at'+k
 |none=>-1
def oX:Nat->List UInt8->Nat
|n,[]=>n
|n,c::r=>oX (if c=117/\n<(r.headD 0).toNat - 47 then (r.headD 0).toNat - 47 else n) r
def zE (l:List UInt8):Nat:=if zD l=true then oX 0 l else 0
def zZ (l:List UInt8):Nat:=if zD l=true then l.count 43 else 0
def qG (args:List (List UInt8)):List UInt8->List UInt8
|[]=>[]
|[c]=>[c]
|c::d::r=>if c=117 then args.getD (d.toNat - 48) []++qG args r else c::qG args (d::r)
termination_by l=>l.length
def zI (l:List UInt8) (args:List (List UInt8)):Option (List UInt8) :=
 if zD l=true/\args.length<=3/\zE l<=args.length/\(∀ x∈args,zD x=true)/\(qG args l).length<=60 then some (qG args l) else none
theorem zK{l:List UInt8}(h:zD l=true):l.length<=60/\xW 1 l=some l.length:=by
 simpa [zD] using h
theorem pE:∀ (l:List UInt8) (n:Nat),xW n l=some l.length->∀ i (hi:i<l.length),l[i]=117->∃ hj:i+1<l.length,48<=l[i+1].toNat/\l[i+1].toNat<=50:=by
 refine pF (motive:=fun n l=>xW n l=some l.length->∀ i (hi:i<l.length),l[i]=117->∃ hj:i+1<l.length,48<=l[i+1].toNat/\l[i+1].toNat<=50) ?_ ?_ ?_ ?_ ?_ ?_ ?_
 ·intro l h i hi _;rw[uA] at h;have:=Option.some.inj h;omega
 ·intro n h;rw[tD] at h;cases h
 ·intro n r ih h i hi he;rw[pP] at h;have h':xW n r=some r.length:=by
   cases hr:xW n r with
  |none=>rw[hr] at h;cases h
  |some k=>rw[hr] at h;simp at h;rw[h]
  cases i with
 |zero=>exact absurd he (by simp)
 |succ i =>
   obtain⟨hj,h2⟩:=ih h' i (by simpa using hi) (by simpa using he);exact⟨by simpa using hj,by simpa using h2⟩
 ·intro n r ih h i hi he;rw[sE] at h;have h':xW (n+1) r=some r.length:=by
   cases hr:xW (n+1) r with
  |none=>rw[hr] at h;cases h
  |some k=>rw[hr] at h;simp at h;rw[h]
  cases i with
 |zero=>exact absurd he (by simp)
 |succ i =>
   obtain⟨hj,h2⟩:=ih h' i (by simpa using hi) (by simpa using he);exact⟨by simpa using hj,by simpa using h2⟩
 ·intro n c r hc ih h i hi he;rw[uD n hc] at h;have h':xW (n+2) r=some r.length:=by
   cases hr:xW (n+2) r with
  |none=>rw[hr] at h;cases h
  |some k=>rw[hr] at h;simp at h;rw[h]
  cases i with
 |zero=>simp at he;subst he;rcases hc with hc|hc<;>exact absurd hc (by decide)
 |succ i =>
   obtain⟨hj,h2⟩:=ih h' i (by simpa using hi) (by simpa using he);exact⟨by simpa using hj,by simpa using h2⟩
 ·intro n d r h1 h2 ih h i hi he;rw[uL n h1 h2] at h;have h':xW n r=some r.length:=by
   cases hr:xW n r with
  |none=>rw[hr] at h;cases h
  |some k=>rw[hr] at h;simp at h;rw[h]
  cases i with
 |zero=>exact⟨by simp,h1,h2⟩
 |succ i =>
   cases i with
  |zero=>simp at he;subst he;exact absurd h2 (by decide)
  |succ i =>
    obtain⟨hj,h3⟩:=ih h' i (by simpa using hi) (by simpa using he);exact⟨by simpa using hj,by simpa using h3⟩
 ·intro n c r h0 h;rw[h0] at h;cases h
def azB (c:UInt8):Bool:=decide (97<=c.toNat)&&decide (c.toNat<=122)
def xJ4 (c:UInt8):Bool:=decide (48<=c.toNat)&&decide (c.toNat<=57)
def alB (c:UInt8):Bool:=azB c || xJ4 c
def xN:List UInt8->Bool
|[]=>false
|c::r=>azB c&&(c::r).all alB
def qD (by':UInt8):List UInt8->List UInt8->List (List UInt8)
|p,[]=>[p]
|p,c::r=>if c=by' then p::qD by' [] r else qD by' (p++[c]) r
def oW:List UInt8->Nat->Bool->Bool
|[],d,b=>b&&decide (d<=5)
|c::r,d,b=>if azB c=true then oW r d true else if xJ4 c=true/\b=true then oW r d b else if c=46/\b=true then oW r (d+1) false else false
def jQ (l:List UInt8):List (List UInt8):=qD 46 [] l
def zN (l:List UInt8):Bool:=decide (l.length<=40)&&decide ((jQ l).length<=5)&&(jQ l).all xN
theorem gQ(b:UInt8)(l:List UInt8):∀ p,∃ t r,qD b p l=(p++t)::r:=by
 induction l with
|nil=>intro p;exact⟨[],[],by simp[qD]⟩
|cons c l ih =>
  intro p;by_cases h:c=b
  ·exact⟨[],qD b [] l,by simp[qD,h]⟩
  ·obtain⟨t,r,e⟩:=ih (p++[c]);exact⟨c::t,r,by rw[qD,iN h,e];simp⟩
theorem yT5(b:UInt8)(p l:List UInt8):0<(qD b p l).length:=by
 obtain⟨t,r,e⟩:=gQ b l p;rw[e];simp
theorem yT6(b:UInt8)(l:List UInt8):∀ p,(qD b p l).length<=l.length+1:=by
 induction l with
|nil=>intro p;simp[qD]
|cons c l ih =>
  intro p;by_cases h:c=b
  ·have:=ih [];simp[qD,h];omega
  ·have:=ih (p++[c]);simp only[qD,iN h,lC];omega
theorem yV1{c:UInt8}(h:azB c=true):c≠46:=by
 rintro rfl;revert h;decide
theorem yT4{c:UInt8}(h:xJ4 c=true):c≠46:=by
 rintro rfl;revert h;decide
theorem iL{p:List UInt8}{c:UInt8}(h:xN p=true)(hc:alB c=true):xN (p++[c])=true:=by
 cases p with
|nil=>simp[xN] at h
|cons x r =>
  simp only[xN,Bool.and_eq_true] at h;simp only[List.cons_append,xN,Bool.and_eq_true,h.1,true_and];have h2:=h.2;simp only[List.all_cons,List.all_append,List.all_nil,Bool.and_true,Bool.and_eq_true] at h2 |-;exact⟨h2.1,h2.2,hc⟩
theorem zW7(p t:List UInt8){c:UInt8}(hc:alB c=false):xN ((p++[c])++t)=false:=by
 cases p with
|nil=>simp[xN,hc]
|cons x r=>simp[xN,hc]
theorem fU(t:List UInt8){c:UInt8}(hc:azB c=false):xN (([]++[c])++t)=false:=by
 simp[xN,hc]
theorem yP4(l:List UInt8):∀ (p:List UInt8) (d:Nat),(p=[]\/xN p=true)->0<d ->
  oW l d (decide (p≠[]))=(decide (d - 1+(qD 46 p l).length<=5)&&(qD 46 p l).all xN):=by
 induction l with
|nil =>
  intro p d hp hd;rcases hp with rfl|hp
  ·simp[oW,qD,xN]
  ·have hne:p≠[]:=(by rintro rfl;simp[xN] at hp);simp only[oW,qD,hne,ne_eq,not_false_eq_true,decide_true,Bool.true_and,lC,List.length_nil,List.all_cons,List.all_nil,hp,Bool.and_true];congr 1;apply propext;omega
|cons c l ih =>
  intro p d hp hd;by_cases haz:azB c=true
  ·have h46:=yV1 haz;have hal:alB c=true:=(by simp[alB,haz]);have hq:xN (p++[c])=true:=by
    rcases hp with rfl|hp
    ·simp[xN,haz,hal]
    ·exact iL hp hal
   have:=ih (p++[c]) d (.inr hq) hd;rw[oW,iP haz,qD,iN h46,← this];simp
  ·rw[Bool.not_eq_true] at haz;by_cases hdg:xJ4 c=true
   ·have h46:=yT4 hdg;rcases hp with rfl|hp
    ·have e:oW (c::l) d (decide (([]:List UInt8)≠[]))=false:=(by simp[oW,haz,h46]);rw[e,qD,iN h46];obtain⟨t,r,e⟩:=gQ 46 l ([]++[c]);rw[e,List.all_cons,fU t haz];simp
    ·have hne:p≠[]:=(by rintro rfl;simp[xN] at hp);have hal:alB c=true:=(by simp[alB,hdg]);have:=ih (p++[c]) d (.inr (iL hp hal)) hd;rw[qD,iN h46,← this];simp[oW,haz,hdg,hne]
   ·rw[Bool.not_eq_true] at hdg;have hal:alB c=false:=(by simp[alB,haz,hdg]);by_cases h46:c=46
    ·subst h46;rcases hp with rfl|hp
     ·simp[oW,haz,hdg,qD,xN]
     ·have hne:p≠[]:=(by rintro rfl;simp[xN] at hp);have:=ih [] (d+1) (.inl rfl) (by omega);have e:oW (46::l) d (decide (p≠[]))=oW l (d+1) (decide (([]:List UInt8)≠[])):=(by simp[oW,haz,hdg,hne]);rw[e,this];simp only[qD,if_true,lC,List.all_cons,hp,Bool.true_and];congr 1;congr 1;apply propext;omega
    ·have e:oW (c::l) d (decide (p≠[]))=false:=(by simp[oW,haz,hdg,h46]);rw[e,qD,iN h46];obtain⟨t,r,e⟩:=gQ 46 l (p++[c]);rw[e,List.all_cons,zW7 p t hal];simp
theorem iQ(l:List UInt8)(h:l.length<=40):zN l=oW l 1 false:=by
 have:=yP4 l [] 1 (.inl rfl) (by decide);simp only[ne_eq,not_true_eq_false,decide_false,Nat.sub_self,Nat.zero_add] at this;rw[this,zN,jQ];simp[h]
theorem nS{l:List UInt8}(h:40<l.length):zN l=false:=by
 simp[zN,show ¬ l.length<=40 by omega]
theorem mK{l:List UInt8}{k:Nat}(h:k<l.length)(d:Nat)(b:Bool):oW (l.drop k) d b=if azB l[k]=true then oW (l.drop (k+1)) d true else if xJ4 l[k]=true/\b=true then oW (l.drop (k+1)) d b else if l[k]=46/\b=true then oW (l.drop (k+1)) (d+1) false else false:=by
 rw[List.drop_eq_getElem_cons h,oW]
end Go.Proofs.YtcaahdjhbmmcnaaGreatDoor
namespace Go.Proofs.YtcaahdjhbmmcnaaGreatDoor
open Go
theorem oK:∀ (l:List UInt8) (acc a d:Nat) (c:UInt8),Lib.decFrom acc l=some a->Lib.digitVal c=some d->Lib.decFrom acc (l++[c])=some (a*10+d)
|[],acc,a,d,c,h,hc=>by
  simp only[Lib.decFrom] at h;injection h with h;subst h;simp only[List.nil_append,Lib.decFrom,hc]
|b::r,acc,a,d,c,h,hc=>by
  simp only[List.cons_append,Lib.decFrom] at h |-;cases hb:Lib.digitVal b with
 |none=>rw[hb] at h;cases h
 |some e=>rw[hb] at h;exact oK r _ a d c h hc
theorem zT1(k:Nat)(h:k<10):Lib.digitVal (UInt8.ofNat (48+k))=some k:=by
 have e:(UInt8.ofNat (48+k)).toNat=48+k:=UInt8.toNat_ofNat_of_lt (by show 48+k<256;omega);unfold Lib.digitVal;rw[e,iP (by omega)];congr 1;omega
theorem tY(u:Nat):Lib.decFrom 0 (Lib.decDigits u)=some u:=by
 induction u using Nat.strongRecOn with
|_ u ih =>
  rw[Lib.decDigits];by_cases h:u<10
  ·rw[dif_pos h];have:=oK [] 0 0 u _ rfl (zT1 u h);simpa using this
  ·rw[dif_neg h,oK _ 0 _ _ _ (ih (u / 10) (by omega)) (zT1 (u % 10) (by omega))];congr 1;omega
theorem uT{m n:Nat}(h:Lib.decDigits m=Lib.decDigits n):m=n:=by
 have h1:=tY m;rw[h,tY n] at h1;injection h1 with h1;exact h1.symm
theorem lX:∀ (k u:Nat),u<10 ^ (k+1)->Lib.nDigits u<=k+1
|0,u,h=>by rw[Lib.nDigits_small (by simpa using h)];exact nR _
|k+1,u,h=>by
  rw[Lib.nDigits];split
  ·omega
  ·have:=lX k (u / 10) (by rw[Nat.pow_succ] at h;omega);omega
theorem vS{u:Nat}(h:u<=1000000000):(Lib.decDigits u).length<=10:=by
 rw[Lib.decDigits_length];exact lX 9 u (by omega)
theorem yJ3(u:Nat):Lib.decDigits u≠[]:=by
 rw[Lib.decDigits];split<;>simp
theorem zO5{u:Nat}(h:u<=1000000000):Lib.atoiAll (Lib.decDigits u)=.ok (u:Int):=by
 rw[Lib.atoiAll_short _ (by have:=vS h;omega)];have hd:=tY u;have hne:=yJ3 u;cases hl:Lib.decDigits u with
|nil=>exact absurd hl hne
|cons b r =>
  rw[hl] at hd;obtain⟨d,hdv⟩:=Lib.digit_of_decFrom (b::r) 0 u hd 0 b rfl;have hb:=Lib.digitVal_eq hdv;have h1:(b==45)=false:=by
   rw[bF];rintro rfl;have:=hb.1;simp at this
  have h2:(b==43)=false:=by
   rw[bF];rintro rfl;have:=hb.1;simp at this
  simp only[Lib.atoi,h1,h2,Lib.decNat,List.isEmpty_cons,Bool.false_eq_true,if_false,hd];rfl
def pS (l:List UInt8) (n:Nat):Prop:=n<=1000000000/\Lib.decDigits n=l
theorem pS.uniq{l:List UInt8}{m n:Nat}(h:pS l m)(k:pS l n):m=n:=uT (h.2.trans k.2.symm)
theorem pS.len{l:List UInt8}{n:Nat}(h:pS l n):l.length<=10:=by rw[← h.2];exact vS h.1
theorem pS.from_{l:List UInt8}{n:Nat}(h:pS l n):Lib.decFrom 0 l=some n:=by rw[← h.2];exact tY n
theorem pS.atoi{l:List UInt8}{n:Nat}(h:pS l n):Lib.atoiAll l=.ok (n:Int):=by rw[← h.2];exact zO5 h.1
theorem yS0:∀ (l:List UInt8) (n k:Nat) (r:List UInt8),xW n l=some k->xW n (l++r)=some k:=by
 refine pF (motive:=fun n l=>∀ (k:Nat) (r:List UInt8),xW n l=some k->xW n (l++r)=some k) ?_ ?_ ?_ ?_ ?_ ?_ ?_
 ·intro l k r h;rw[uA] at h |-;exact h
 ·intro n k r h;rw[tD] at h;cases h
 ·intro n l ih k r h;rw[pP] at h;obtain⟨j,hj,rfl⟩:=Option.map_eq_some_iff.1 h;rw[List.cons_append,pP,ih j r hj];rfl
 ·intro n l ih k r h;rw[sE] at h;obtain⟨j,hj,rfl⟩:=Option.map_eq_some_iff.1 h;rw[List.cons_append,sE,ih j r hj];rfl
 ·intro n c l hc ih k r h;rw[uD n hc] at h;obtain⟨j,hj,rfl⟩:=Option.map_eq_some_iff.1 h;rw[List.cons_append,uD n hc,ih j r hj];rfl
 ·intro n d l h1 h2 ih k r h;rw[uL n h1 h2] at h;obtain⟨j,hj,rfl⟩:=Option.map_eq_some_iff.1 h;rw[List.cons_append,List.cons_append,uL n h1 h2,ih j r hj];rfl
 ·intro n c l h0 k r h;rw[h0] at h;cases h
theorem mU:∀ (l:List UInt8) (n k:Nat),xW n l=some k->xW n (l.take k)=some k/\k<=l.length:=by
 refine pF (motive:=fun n l=>∀ k:Nat,xW n l=some k->xW n (l.take k)=some k/\k<=l.length) ?_ ?_ ?_ ?_ ?_ ?_ ?_
 ·intro l k h;rw[uA] at h;cases h;exact⟨by rw[uA],Nat.zero_le _⟩
 ·intro n k h;rw[tD] at h;cases h
 ·intro n l ih k h;rw[pP] at h;obtain⟨j,hj,rfl⟩:=Option.map_eq_some_iff.1 h;obtain⟨h1,h2⟩:=ih j hj;exact⟨by rw[List.take_succ_cons,pP,h1];rfl,by simp;omega⟩
 ·intro n l ih k h;rw[sE] at h;obtain⟨j,hj,rfl⟩:=Option.map_eq_some_iff.1 h;obtain⟨h1,h2⟩:=ih j hj;exact⟨by rw[List.take_succ_cons,sE,h1];rfl,by simp;omega⟩
 ·intro n c l hc ih k h;rw[uD n hc] at h;obtain⟨j,hj,rfl⟩:=Option.map_eq_some_iff.1 h;obtain⟨h1,h2⟩:=ih j hj;exact⟨by rw[List.take_succ_cons,uD n hc,h1];rfl,by simp;omega⟩
 ·intro n d l g1 g2 ih k h;rw[uL n g1 g2] at h;obtain⟨j,hj,rfl⟩:=Option.map_eq_some_iff.1 h;obtain⟨h1,h2⟩:=ih j hj;exact⟨by rw[show j+2=(j+1)+1 by omega,List.take_succ_cons,List.take_succ_cons,uL n g1 g2,h1];rfl,by simp;omega⟩
 ·intro n c l h0 k h;rw[h0] at h;cases h
theorem rC{l r:List UInt8}(h:zD l=true):xW 1 (l++r)=some l.length:=yS0 l 1 _ r (zK h).2
theorem kT{l:List UInt8}{k:Nat}(h:xW 1 l=some k)(hk:k<=60):zD (l.take k)=true:=by
 obtain⟨h1,h2⟩:=mU l 1 k h;have e:(l.take k).length=k:=by simp;omega
 rw[zD,e,h1];simp[hk]
theorem oC{l m r s:List UInt8}(hl:zD l=true)(hm:zD m=true)(h:l++r=m++s):l=m/\r=s:=by
 have h1:=rC (r:=r) hl;rw[h,rC hm] at h1;injection h1 with h1;exact⟨List.append_inj_left h h1.symm,List.append_inj_right h h1.symm⟩
theorem lZ{l:List UInt8}(h:zD l=true):l≠[]:=by
 intro e;subst e;have:=(zK h).2;rw[tD] at this;cases this
theorem pC{l r s:List UInt8}(h:zD l=true):l++r≠46::s:=by
 intro e;have h1:=rC (r:=r) h;rw[e,cW 0 (by decide) (by decide) (by decide) (by decide)] at h1;cases h1
theorem tZ{c:UInt8}:∀ {xs ys r s:List UInt8},c∉xs->c∉ys->xs++c::r=ys++c::s->xs=ys/\r=s
|[],[],r,s,_,_,h=>by injection h with _ h;exact⟨rfl,h⟩
|[],y::ys,r,s,_,hy,h=>by injection h with h1 _;subst h1;exact absurd List.mem_cons_self hy
|x::xs,[],r,s,hx,_,h=>by injection h with h1 _;subst h1;exact absurd List.mem_cons_self hx
|x::xs,y::ys,r,s,hx,hy,h=>by
  injection h with h1 h2;obtain⟨h3,h4⟩:=tZ (fun hm=>hx (List.mem_cons_of_mem _ hm)) (fun hm=>hy (List.mem_cons_of_mem _ hm)) h2;exact⟨by rw[h1,h3],h4⟩
theorem gN:∀ (n:Nat) (c:UInt8),c∈Lib.decDigits n->48<=c.toNat/\c.toNat<=57:=by
 intro n
 induction n using Nat.strongRecOn with
|_ n ih =>
  intro c hc;have hd:∀ k,k<10->48<=(UInt8.ofNat (48+k)).toNat/\(UInt8.ofNat (48+k)).toNat<=57:=fun k hk=>by
   have e:(UInt8.ofNat (48+k)).toNat=48+k:=UInt8.toNat_ofNat_of_lt (by show 48+k<256;omega);omega
  rw[Lib.decDigits] at hc;by_cases h:n<10
  ·rw[dif_pos h] at hc;simp only[List.mem_cons,List.not_mem_nil,or_false] at hc;subst hc;exact hd n h
  ·rw[dif_neg h] at hc;rcases List.mem_append.1 hc with h1|h1
   ·exact ih (n / 10) (by omega) c h1
   ·simp only[List.mem_cons,List.not_mem_nil,or_false] at h1;subst h1;exact hd _ (by omega)
theorem rI(n:Nat):(46:UInt8)∉Lib.decDigits n:=fun h=>by
 have:=gN n 46 h;revert this
 decide
theorem mI:∀ (l:List UInt8) (d:Nat) (b:Bool),oW l d b=true->(59:UInt8)∉l
|[],_,_,_=>by simp
|c::r,d,b,h=>by
  rw[oW] at h;intro hm;rcases List.mem_cons.1 hm with rfl|hm
  ·revert h;simp[azB,xJ4]
  ·split at h
   ·exact mI r _ _ h hm
   ·split at h
    ·exact mI r _ _ h hm
    ·split at h
     ·exact mI r _ _ h hm
     ·cases h
theorem qK{l:List UInt8}(h:zN l=true):l.length<=40:=by
 by_cases hl:l.length<=40
 ·exact hl
 ·rw[nS (by omega)] at h;cases h
theorem qJ{l:List UInt8}(h:zN l=true):(59:UInt8)∉l:=by
 have hl:=qK h;rw[iQ l hl] at h;exact mI l _ _ h
inductive Tm where
|var:Nat->Tm
|sort:List UInt8->Tm
|const:List UInt8->List (List UInt8)->Tm
|app:Tm->Tm->Tm
|lam:Tm->Tm->Tm
|pi:Tm->Tm->Tm
|lett:Tm->Tm->Tm->Tm
def xA:List (List UInt8)->List UInt8
|[]=>[]
|l::r=>l++44::xA r
theorem vM:∀ a b:List (List UInt8),xA (a++b)=xA a++xA b
|[],b=>rfl
|x::a,b=>by simp[xA,vM a b]
namespace Tm
def bytes:Tm->List UInt8
|var n=>118::(Lib.decDigits n++[46])
|sort l=>115::(l++[46])
|const n ls=>99::(n++59::(xA ls++[46]))
|app f a=>64::(f.bytes++a.bytes)
|lam d b=>108::(d.bytes++b.bytes)
|pi d b=>112::(d.bytes++b.bytes)
|lett t v b=>116::(t.bytes++(v.bytes++b.bytes))
def Ok:Tm->Prop
|var n=>n<=999
|sort l=>zD l=true
|const n ls=>zN n=true/\ls.length<=3/\∀ x∈ls,zD x=true
|app f a=>f.Ok/\a.Ok
|lam d b=>d.Ok/\b.Ok
|pi d b=>d.Ok/\b.Ok
|lett t v b=>t.Ok/\v.Ok/\b.Ok
def size:Tm->Nat
|var _=>1
|sort _=>1
|const _ _=>1
|app f a=>f.size+a.size+1
|lam d b=>d.size+b.size+1
|pi d b=>d.size+b.size+1
|lett t v b=>t.size+v.size+b.size+1
def opn:Tm->Nat
|var n=>n+1
|sort _=>0
|const _ _=>0
|app f a=>max f.opn a.opn
|lam d b=>max d.opn (b.opn - 1)
|pi d b=>max d.opn (b.opn - 1)
|lett t v b=>max (max t.opn v.opn) (b.opn - 1)
def parts:Tm->List Tm
|var _=>[]
|sort _=>[]
|const _ _=>[]
|app f a=>[f,a]
|lam d b=>[d,b]
|pi d b=>[d,b]
|lett t v b=>[t,v,b]
def kind:Tm->UInt8
|var _=>118
|sort _=>115
|const _ _=>99
|app _ _=>64
|lam _ _=>108
|pi _ _=>112
|lett _ _ _=>116
def Lim (m:Nat):Tm->Prop
|var n=>n<=m
|sort _=>True
|const _ _=>True
|app f x=>Lim m f/\Lim m x
|lam d b=>Lim m d/\Lim m b
|pi d b=>Lim m d/\Lim m b
|lett t v b=>Lim m t/\Lim m v/\Lim m b
theorem bytes_head(t:Tm):∃ r,t.bytes=t.kind::r:=by
 cases t<;>exact⟨_,rfl⟩
theorem bytes_pos(t:Tm):0<t.bytes.length:=by
 obtain⟨r,h⟩:=t.bytes_head;rw[h];simp
theorem size_pos(t:Tm):0<t.size:=by cases t<;>simp[size]
theorem size_le:∀ t:Tm,t.size<=t.bytes.length
|var _=>by simp[size,bytes]
|sort _=>by simp[size,bytes]
|const _ _=>by simp[size,bytes]
|app f a=>by have:=size_le f;have:=size_le a;simp[size,bytes];omega
|lam f a=>by have:=size_le f;have:=size_le a;simp[size,bytes];omega
|pi f a=>by have:=size_le f;have:=size_le a;simp[size,bytes];omega
|lett f a b=>by have:=size_le f;have:=size_le a;have:=size_le b;simp[size,bytes];omega
theorem opn_le:∀ t:Tm,t.Ok->t.opn<=1000
|var n,h=>by have:n<=999:=h;simp only[opn];omega
|sort _,_=>by simp[opn]
|const _ _,_=>by simp[opn]
|app f a,h=>by have:=opn_le f h.1;have:=opn_le a h.2;simp only[opn];omega
|lam f a,h=>by have:=opn_le f h.1;have:=opn_le a h.2;simp only[opn];omega
|pi f a,h=>by have:=opn_le f h.1;have:=opn_le a h.2;simp only[opn];omega
|lett f a b,h=>by have:=opn_le f h.1;have:=opn_le a h.2.1;have:=opn_le b h.2.2;simp only[opn];omega
end Tm
theorem zS4:∀ {a b:List (List UInt8)} {r s:List UInt8},(∀ x∈a,zD x=true)->(∀ x∈b,zD x=true)->xA a++46::r=xA b++46::s->a=b/\r=s
|[],[],r,s,_,_,h=>by injection h with _ h;exact⟨rfl,h⟩
|[],y::b,r,s,_,hy,h=>by
  rw[xA,xA,List.append_assoc] at h;exact absurd h.symm (pC (hy y List.mem_cons_self))
|x::a,[],r,s,hx,_,h=>by
  rw[xA,xA,List.append_assoc] at h;exact absurd h (pC (hx x List.mem_cons_self))
|x::a,y::b,r,s,hx,hy,h=>by
  rw[xA,xA,List.append_assoc,List.append_assoc,List.cons_append,List.cons_append] at h;obtain⟨h1,h2⟩:=oC (hx x List.mem_cons_self) (hy y List.mem_cons_self) h;injection h2 with _ h2;obtain⟨h3,h4⟩:=zS4 (fun z hz=>hx z (List.mem_cons_of_mem _ hz)) (fun z hz=>hy z (List.mem_cons_of_mem _ hz)) h2;exact⟨by rw[h1,h3],h4⟩
theorem Tm.uniq:∀ (t u:Tm) (r s:List UInt8),t.Ok->u.Ok->t.bytes++r=u.bytes++s->t=u/\r=s:=by
 intro t
 induction t with
|var n =>
  intro u r s ht hu h;cases u with
 |var m =>
   simp only[Tm.bytes,List.cons_append,List.append_assoc,List.nil_append] at h;injection h with _ h;obtain⟨h1,h2⟩:=tZ (rI n) (rI m) h;exact⟨by rw[uT h1],h2⟩
 |_=>simp[Tm.bytes] at h
|sort l =>
  intro u r s ht hu h;cases u with
 |sort m =>
   simp only[Tm.bytes,List.cons_append,List.append_assoc,List.nil_append] at h;injection h with _ h;obtain⟨h1,h2⟩:=oC ht hu h;injection h2 with _ h2;exact⟨by rw[h1],h2⟩
 |_=>simp[Tm.bytes] at h
|const n ls =>
  intro u r s ht hu h;cases u with
 |const m ms =>
   simp only[Tm.bytes,List.cons_append,List.append_assoc,List.nil_append] at h;injection h with _ h;obtain⟨h1,h2⟩:=tZ (qJ ht.1) (qJ hu.1) h;obtain⟨h3,h4⟩:=zS4 ht.2.2 hu.2.2 h2;exact⟨by rw[h1,h3],h4⟩
 |_=>simp[Tm.bytes] at h
|app f a ihf iha =>
  intro u r s ht hu h;cases u with
 |app g b =>
   simp only[Tm.bytes,List.cons_append,List.append_assoc] at h;injection h with _ h;obtain⟨h1,h2⟩:=ihf g _ _ ht.1 hu.1 h;obtain⟨h3,h4⟩:=iha b _ _ ht.2 hu.2 h2;exact⟨by rw[h1,h3],h4⟩
 |_=>simp[Tm.bytes] at h
|lam f a ihf iha =>
  intro u r s ht hu h;cases u with
 |lam g b =>
   simp only[Tm.bytes,List.cons_append,List.append_assoc] at h;injection h with _ h;obtain⟨h1,h2⟩:=ihf g _ _ ht.1 hu.1 h;obtain⟨h3,h4⟩:=iha b _ _ ht.2 hu.2 h2;exact⟨by rw[h1,h3],h4⟩
 |_=>simp[Tm.bytes] at h
|pi f a ihf iha =>
  intro u r s ht hu h;cases u with
 |pi g b =>
   simp only[Tm.bytes,List.cons_append,List.append_assoc] at h;injection h with _ h;obtain⟨h1,h2⟩:=ihf g _ _ ht.1 hu.1 h;obtain⟨h3,h4⟩:=iha b _ _ ht.2 hu.2 h2;exact⟨by rw[h1,h3],h4⟩
 |_=>simp[Tm.bytes] at h
|lett f a c ihf iha ihc =>
  intro u r s ht hu h;cases u with
 |lett g b d =>
   simp only[Tm.bytes,List.cons_append,List.append_assoc] at h;injection h with _ h;obtain⟨h1,h2⟩:=ihf g _ _ ht.1 hu.1 h;obtain⟨h3,h4⟩:=iha b _ _ ht.2.1 hu.2.1 h2;obtain⟨h5,h6⟩:=ihc d _ _ ht.2.2 hu.2.2 h4;exact⟨by rw[h1,h3,h5],h6⟩
 |_=>simp[Tm.bytes] at h
def qC (l:List UInt8) (t:Tm):Prop:=t.Ok/\t.bytes=l/\l.length<=2000
theorem qC.uniq{l:List UInt8}{t u:Tm}(h:qC l t)(k:qC l u):t=u :=
 (Tm.uniq t u [] [] h.1 k.1 (by rw[h.2.1,k.2.1])).1
open Classical in
noncomputable def vQ (l:List UInt8):Option Tm:=if h:∃ t,qC l t then some (Classical.choose h) else none
theorem zY{l:List UInt8}{t:Tm}(h:qC l t):vQ l=some t:=by
 unfold vQ;have he:∃ t,qC l t:=⟨t,h⟩;rw[dif_pos he];congr 1;exact(Classical.choose_spec he).uniq h
theorem yR{l:List UInt8}(h:∀ t,¬ qC l t):vQ l=none:=by
 unfold vQ;rw[dif_neg (fun ⟨t,ht⟩=>h t ht)]
theorem vF{l:List UInt8}{t:Tm}(h:vQ l=some t):qC l t:=by
 unfold vQ at h;split at h
 ·rename_i he;injection h with h;rw[← h];exact Classical.choose_spec he
 ·cases h
def Tat (l:List UInt8) (t:Tm) (r:List UInt8):Prop:=t.Ok/\l=t.bytes++r
theorem Tat.uniq{l r s:List UInt8}{t u:Tm}(h:Tat l t r)(k:Tat l u s):t=u/\r=s :=
 Tm.uniq t u r s h.1 k.1 (h.2.symm.trans k.2)
noncomputable def yB (l:List UInt8):Bool:=(vQ l).isSome
noncomputable def xC (l:List UInt8):List UInt8:=if yB l=true then l.take 1 else []
noncomputable def sM (l:List UInt8):Nat:=match vQ l with
|some t=>t.opn
|none=>0
def yX (n:Int):List UInt8:=if 0<=n/\n<=999 then (Tm.var n.toNat).bytes else []
def oL (n:List UInt8) (ls:List (List UInt8)):List UInt8:=if zN n=true/\ls.length<=3/\∀ x∈ls,zD x=true then (Tm.const n ls).bytes else []
end Go.Proofs.YtcaahdjhbmmcnaaGreatDoor
namespace Go.Proofs.YtcaahdjhbmmcnaaGreatDoor
open Go.ChangeShapes Go.WideShapes Go.ChangeAt Go.RowKit
def sB (l:List UInt8) (n p:Nat):Option Nat:=(xW n (l.drop p)).map (·+p)
theorem yW0{l:List UInt8}{n p:Nat}(hp:p<l.length)(h:l[p]=122):sB l (n+1) p=sB l n (p+1):=by
 rw[sB,List.drop_eq_getElem_cons hp,h,pP,sB,Option.map_map];congr 1;funext x;simp;omega
theorem yD6{l:List UInt8}{n p:Nat}(hp:p<l.length)(h:l[p]=43):sB l (n+1) p=sB l (n+1) (p+1):=by
 rw[sB,List.drop_eq_getElem_cons hp,h,sE,sB,Option.map_map];congr 1;funext x;simp;omega
theorem jM{l:List UInt8}{n p:Nat}(hp:p<l.length)(h:l[p]=109\/l[p]=105):sB l (n+1) p=sB l (n+2) (p+1):=by
 rw[sB,List.drop_eq_getElem_cons hp,uD n h,sB,Option.map_map];congr 1;funext x;simp;omega
theorem zR5{l:List UInt8}{n p:Nat}(hp:p+1<l.length)(h:l[p]=117)(h1:48<=l[p+1].toNat)(h2:l[p+1].toNat<=50):sB l (n+1) p=sB l n (p+2):=by
 rw[sB,List.drop_eq_getElem_cons (by omega),h,List.drop_eq_getElem_cons hp,uL n h1 h2,sB,Option.map_map];congr 1;funext x;simp;omega
theorem nP{l:List UInt8}{n p:Nat}(hp:p+1<l.length)(h:l[p]=117)(h1:¬ (48<=l[p+1].toNat/\l[p+1].toNat<=50)):sB l (n+1) p=none:=by
 rw[sB,List.drop_eq_getElem_cons (by omega),h,List.drop_eq_getElem_cons hp,kV n h1];rfl
theorem iH{l:List UInt8}{n p:Nat}(hp:p<l.length)(hq:¬ p+1<l.length)(h:l[p]=117):sB l (n+1) p=none:=by
 rw[sB,List.drop_eq_getElem_cons hp,h,List.drop_eq_nil_of_le (by omega),kU];rfl
theorem zR7{l:List UInt8}{n p:Nat}(hp:p<l.length)(h1:l[p]≠122)(h2:l[p]≠43)(h3:l[p]≠109)(h5:l[p]≠105)(h4:l[p]≠117):sB l (n+1) p=none:=by
 rw[sB,List.drop_eq_getElem_cons hp,cW n h1 h2 (by rintro (h|h)<;>contradiction) h4];rfl
theorem zR6{l:List UInt8}{n p:Nat}(hp:¬ p<l.length):sB l (n+1) p=none:=by
 rw[sB,List.drop_eq_nil_of_le (by omega),tD];rfl
theorem zA5(l:List UInt8)(p:Nat):sB l 0 p=some p:=by rw[sB,uA];simp
def fH:Option Nat->Int
|some k=>k
|none=>-1
theorem zQ{c d:UInt8}(h:c≠d):((c.toNat:Int)==(d.toNat:Int))=false:=by
 rw[bF];intro e;exact h (UInt8.toNat_inj.1 (by omega))
theorem yH{c d:UInt8}(h:c=d):((c.toNat:Int)==(d.toNat:Int))=true:=by rw[h];simp
theorem eQ(s:ByteArray)(a:Nat)(w:World)(hs:s.size<=1000000000)(ha:a<=s.size) :
  Calls Tryz.prog 140 #[.string s,.int .i64 (a:Int)] w fun e w'=>e=.returned (.int .i64 (fH (sB s.data.toList 1 a)))/\w'=w:=by
 have hls:s.data.toList.length=s.size:=rfl;have HLS:=Ld hls;clear hls;go_enter Tryz.func140,Tryz.ntmps140;go_wp2;go_loopw [1,5] (fun i nd wr=>∃ p n:Nat,p<=s.size/\n<=p+1/\i=.int .i64 p/\nd=.int .i64 n/\wr=w/\Hid (sB s.data.toList n p=sB s.data.toList 1 a)) (fun i _ _=>s.size - (intOf i).toNat)
 case atStart=>exact⟨a,1,ha,by omega,rfl,rfl,rfl,rfl⟩
 case round =>
  obtain⟨p,n,hp,hn,rfl,rfl,rfl,HR⟩:=hrel;rcases Nat.eq_zero_or_pos n with h0|hpos
  ·subst h0;rw[zA5] at HR;have HE:Hid (fH (sB s.data.toList 1 a)=(p:Int)):=(by rw[Hid,← HR.out];rfl);clear HR;go_wp2;go_ret;rw[HE.out];exact⟨rfl,rfl⟩
  ·obtain⟨m,hm⟩:∃ m,n=m+1:=⟨n - 1,by omega⟩;rw[hm] at HR;have d0:decide ((0:Int)<(n:Int))=true:=dT (by omega);by_cases hlt:p<s.size
   ·have hll:p<s.data.toList.length:=hlt;have q1:=zn p;have q2:(p:Int)<(s.size:Int):=(by omega);have d1:decide ((s.size:Int)<=(p:Int))=false:=dF (by omega);by_cases c1:s[p]=122
    ·have e1:((s[p].toNat:Int)==122)=true:=yH c1;have HR2:=Ld ((yW0 hll c1).symm.trans HR.out);clear HR c1;go_wp2;go_roundw
     case rel=>exact⟨p+1,m,by omega,by omega,by go_num,by simp<;>omega,trivial,HR2.out⟩
     case measure=>simp[intOf];omega
    have e1:((s[p].toNat:Int)==122)=false:=zQ c1;by_cases c2:s[p]=43
    ·have e2:((s[p].toNat:Int)==43)=true:=yH c2;have HR2:=Ld ((yD6 hll c2).symm.trans HR.out);rw[← hm] at HR2;clear HR c2;go_wp2;go_roundw
     case rel=>exact⟨p+1,n,by omega,by omega,by go_num,rfl,trivial,HR2.out⟩
     case measure=>simp[intOf];omega
    have e2:((s[p].toNat:Int)==43)=false:=zQ c2;by_cases c3:s[p]=109
    ·have e3:((s[p].toNat:Int)==109)=true:=yH c3;have HR2:=Ld ((jM hll (.inl c3)).symm.trans HR.out);clear HR c3;go_wp2;go_roundw
     case rel=>exact⟨p+1,m+2,by omega,by omega,by go_num,by simp<;>omega,trivial,HR2.out⟩
     case measure=>simp[intOf];omega
    have e3:((s[p].toNat:Int)==109)=false:=zQ c3;by_cases c4:s[p]=105
    ·have e4:((s[p].toNat:Int)==105)=true:=yH c4;have HR2:=Ld ((jM hll (.inr c4)).symm.trans HR.out);clear HR c4;go_wp2;go_roundw
     case rel=>exact⟨p+1,m+2,by omega,by omega,by go_num,by simp<;>omega,trivial,HR2.out⟩
     case measure=>simp[intOf];omega
    have e4:((s[p].toNat:Int)==105)=false:=zQ c4;by_cases c5:s[p]=117
    ·have e5:((s[p].toNat:Int)==117)=true:=yH c5;by_cases hl2:p+1<s.size
     ·have hll2:p+1<s.data.toList.length:=hl2;have d2:decide ((s.size:Int)<=(p:Int)+1)=false:=dF (by omega);have q3:(0:Int)<=(p:Int)+1:=(by omega);have q4:(p:Int)+1<(s.size:Int):=(by omega);by_cases b1:48<=s[p+1].toNat
      ·have d3:decide ((s[p+1].toNat:Int)<48)=false:=dF (by omega);by_cases b2:s[p+1].toNat<=50
       ·have d4:decide ((50:Int)<(s[p+1].toNat:Int))=false:=dF (by omega);have HR2:=Ld ((zR5 hll2 c5 b1 b2).symm.trans HR.out);clear HR c5;go_wp2;go_roundw
        case rel=>exact⟨p+2,m,by omega,by omega,by go_num,by simp<;>omega,trivial,HR2.out⟩
        case measure=>simp[intOf];omega
       ·have d4:decide ((50:Int)<(s[p+1].toNat:Int))=true:=dT (by omega);have HR2:=Ld ((nP (n:=m) hll2 c5 (by rintro ⟨_,h⟩;exact b2 h)).symm.trans HR.out);have HE:Hid (fH (sB s.data.toList 1 a)=-1):=(by rw[Hid,← HR2.out];rfl);clear HR HR2 c5;go_wp2;go_ret;rw[HE.out];exact⟨rfl,rfl⟩
      ·have d3:decide ((s[p+1].toNat:Int)<48)=true:=dT (by omega);have HR2:=Ld ((nP (n:=m) hll2 c5 (by rintro ⟨h,_⟩;exact b1 h)).symm.trans HR.out);have HE:Hid (fH (sB s.data.toList 1 a)=-1):=(by rw[Hid,← HR2.out];rfl);clear HR HR2 c5;go_wp2;go_ret;rw[HE.out];exact⟨rfl,rfl⟩
     ·have d2:decide ((s.size:Int)<=(p:Int)+1)=true:=dT (by omega);have HR2:=Ld ((iH (n:=m) hll (by simpa using hl2) c5).symm.trans HR.out);have HE:Hid (fH (sB s.data.toList 1 a)=-1):=(by rw[Hid,← HR2.out];rfl);clear HR HR2 c5;go_wp2;go_ret;rw[HE.out];exact⟨rfl,rfl⟩
    ·have e5:((s[p].toNat:Int)==117)=false:=zQ c5;have HR2:=Ld ((zR7 (n:=m) hll c1 c2 c3 c4 c5).symm.trans HR.out);have HE:Hid (fH (sB s.data.toList 1 a)=-1):=(by rw[Hid,← HR2.out];rfl);clear c1 c2 c3 c4 c5;clear HR HR2;go_wp2;go_ret;rw[HE.out];exact⟨rfl,rfl⟩
   ·have HR2:=Ld ((zR6 (n:=m) (l:=s.data.toList) (p:=p) (by simpa using hlt)).symm.trans HR.out);have HE:Hid (fH (sB s.data.toList 1 a)=-1):=(by rw[Hid,← HR2.out];rfl);have d1:decide ((s.size:Int)<=(p:Int))=true:=dT (by omega);clear HR HR2;go_wp2;go_ret;rw[HE.out];exact⟨rfl,rfl⟩
theorem yI5(x:Int)(w:World)(h0:0<=x)(h:x<10):Calls Tryz.prog 165 #[.int .i64 x] w fun e w'=>e=.returned (.int .u8 (48+x))/\w=w':=by
 go_enter Tryz.func165,Tryz.ntmps165;go_wp2;go_ret;exact⟨rfl,rfl⟩
def yA1 (u:Nat) (acc:List UInt8):List UInt8:=if u=0 then acc else Lib.decDigits u++acc
theorem zG5{u:Nat}(h:0<u)(acc:List UInt8):yA1 u acc=yA1 (u / 10) (UInt8.ofNat (48+u % 10)::acc):=by
 unfold yA1;rw[iN (by omega),Lib.decDigits];by_cases h1:u<10
 ·rw[dif_pos h1,iP (by omega),Nat.mod_eq_of_lt h1];rfl
 ·rw[dif_neg h1,iN (by omega)];simp
theorem zG4(acc:List UInt8):yA1 0 acc=acc:=iP rfl
theorem bX(x:UInt8)(acc:List UInt8):Value.string ({ data:=#[x] }++{ data:=acc.toArray })=.string ⟨(x::acc).toArray⟩:=by
 congr 1
theorem yJ4(m:Nat):UInt8.ofNat (48+m % 10)=48+UInt8.ofNat (m % 10):=by
 apply UInt8.toNat_inj.1;simp
theorem zO9(u:Nat)(w:World)(h0:0<u)(hu:u<=9223372036854775807) :
  Rt 121 #[.int .i64 (u:Int)] w (.string ⟨(Lib.decDigits u).toArray⟩):=by
 have hb:((u:Int)==0)=false:=by simp;omega
 have hs:Hid (yA1 u []=Lib.decDigits u):=by show _=_;unfold yA1;rw[iN (by omega),List.append_nil]
 go_enter Tryz.func121,Tryz.ntmps121;go_wp2;go_loopw [0,4] (fun i s wr=>∃ (m:Nat) (acc:List UInt8),m+acc.length<=u/\i=.int .i64 m/\s=.string ⟨acc.toArray⟩/\Below w.heap.size w wr/\Hid (yA1 u []=yA1 m acc))
  (fun i _ _=>(intOf i).toNat)
 case atStart=>exact⟨u,[],by simp,rfl,rfl,bR _ _,rfl⟩
 case round =>
  obtain⟨m,acc,hm,rfl,rfl,hbel,HD⟩:=hrel;by_cases hp:0<m
  ·have HD2:=Ld (HD.out.trans (zG5 hp acc));clear HD;have hmb:((m:Int) != 0)=true:=(by simp;omega);have hcv:=lH (P:=Tryz.prog) wr (48+(m:Int) % 10) Tryz.underlying97 Tryz.underlying5 Tryz.underlying9 (by omega) (by omega);have hz:(⟨acc.toArray⟩:ByteArray).size=acc.length:=(by simp[ByteArray.size]);have f1:=Ld fun W=>yI5 ((m:Int) % 10) W (by omega) (by omega);go_wp2_with fail;(with_reducible refine mo (f1.out _) ?_);rintro w' rfl;go_wp2;go_roundw
   case rel=>exact⟨m / 10,UInt8.ofNat (48+m % 10)::acc,by simp;omega,by go_num,(bX _ _).trans (by rw[yJ4]),hbel.alloc hbel.size _,HD2.out⟩
   case measure=>simp[intOf];omega
  ·obtain rfl:m=0:=(by omega);have HD2:=Ld (HD.out.trans (zG4 acc));clear HD;go_wp2;go_ret;exact⟨by rw[← hs.out,HD2.out];rfl,hbel⟩
theorem yN4(m:Nat):(-(m:Int)).tmod 10=-((m:Int) % 10):=by
 rw[Int.neg_tmod,Int.tmod_eq_emod_of_nonneg (by omega)]
theorem yN6(m:Nat):(-(m:Int)).tdiv 10=-((m:Int) / 10):=by
 rw[Int.neg_tdiv,Int.tdiv_eq_ediv_of_nonneg (by omega)]
theorem zP0(u:Nat)(w:World)(h0:0<u)(hu:u<=9223372036854775808) :
  Rt 121 #[.int .i64 (-(u:Int))] w (.string ⟨(45::Lib.decDigits u).toArray⟩):=by
 have hb:(-(u:Int)==0)=false:=by simp;omega
 have hb2:decide (-(u:Int)<0)=true:=by simp;omega
 have hs:Hid (yA1 u []=Lib.decDigits u):=by show _=_;unfold yA1;rw[iN (by omega),List.append_nil]
 go_enter Tryz.func121,Tryz.ntmps121;go_wp2;go_loopw [0,4] (fun i s wr=>∃ (m:Nat) (acc:List UInt8),9*acc.length<=u+9/\(0<m->9*acc.length+m<=u)/\i=.int .i64 (-(m:Int))/\s=.string ⟨acc.toArray⟩/\Below w.heap.size w wr/\Hid (yA1 u []=yA1 m acc))
  (fun i _ _=>(-intOf i).toNat)
 case atStart=>exact⟨u,[],by simp,fun _=>by simp,rfl,rfl,bR _ _,rfl⟩
 case round =>
  obtain⟨m,acc,hm,hm2,rfl,rfl,hbel,HD⟩:=hrel;by_cases hp:0<m
  ·have hm3:=hm2 hp;clear hm2;have HD2:=Ld (HD.out.trans (zG5 hp acc));clear HD;have hmb:(-(m:Int) != 0)=true:=(by simp;omega);have hz:(⟨acc.toArray⟩:ByteArray).size=acc.length:=(by simp[ByteArray.size]);have e1:=yN4 m;have e2:=yN6 m;by_cases hz10:m % 10=0
   ·have hcv:=lH (P:=Tryz.prog) wr 48 Tryz.underlying97 Tryz.underlying5 Tryz.underlying9 (by decide) (by decide);have f1:=Ld fun W=>yI5 0 W (by decide) (by decide);simp only[Int.add_zero] at f1;rw[show ((m:Int) % 10)=0 by omega,Int.neg_zero] at e1;rw[hz10] at HD2;clear hz10;go_wp2_with fail;(with_reducible refine mo (f1.out _) ?_);rintro w' rfl;go_wp2;go_roundw
    case rel=>exact⟨m / 10,48::acc,by simp;omega,fun _=>by simp;omega,by go_num,bX _ _,hbel.alloc hbel.size _,HD2.out⟩
    case measure=>simp[intOf];omega
   ·have hcv:=lH (P:=Tryz.prog) wr (48+(m:Int) % 10) Tryz.underlying97 Tryz.underlying5 Tryz.underlying9 (by omega) (by omega);have f1:=Ld fun W=>yI5 ((m:Int) % 10) W (by omega) (by omega);have hz11:0<(m:Int) % 10:=(by omega);clear hz10;go_wp2_with fail;(with_reducible refine mo (f1.out _) ?_);rintro w' rfl;go_wp2;go_roundw
    case rel=>exact⟨m / 10,UInt8.ofNat (48+m % 10)::acc,by simp;omega,fun _=>by simp;omega,by go_num,(bX _ _).trans (by rw[yJ4]),hbel.alloc hbel.size _,HD2.out⟩
    case measure=>simp[intOf];omega
  ·have e0:-(m:Int)=0:=(by omega);have hm0:m=0:=(by omega);have HD2:=Ld (HD.out.trans (by rw[hm0,zG4]));have HM:=Ld hm0;clear HD hm0;have hz:(⟨acc.toArray⟩:ByteArray).size=acc.length:=(by simp[ByteArray.size]);rw[e0];clear e0 hp;go_wp2;go_ret;exact⟨by rw[← hs.out,HD2.out];exact congrArg Ending.returned (bX _ _),hbel⟩
theorem pK(n:Int)(w:World)(h0:-9223372036854775808<=n)(h1:n<=9223372036854775807) :
  Rt 121 #[.int .i64 n] w (.string ⟨(Lib.itoa n).toArray⟩):=by
 rcases Int.lt_trichotomy n 0 with h|h|h
 ·obtain⟨u,rfl⟩:∃ u:Nat,n=-(u:Int):=⟨n.natAbs,by omega⟩;rw[Lib.itoa_neg u (by omega)];exact zP0 u w (by omega) (by omega)
 ·subst h;rw[show Lib.itoa 0=[48] from by rw[show (0:Int)=((0:Nat):Int) from rfl,Lib.itoa_nonneg,Lib.decDigits_one (by decide)];rfl];go_enter Tryz.func121,Tryz.ntmps121;go_wp2;go_ret;exact⟨rfl,bR _ _⟩
 ·obtain⟨u,rfl⟩:∃ u:Nat,n=(u:Int):=⟨n.natAbs,by omega⟩;rw[Lib.itoa_nonneg u];exact zO9 u w (by omega) (by omega)
end Go.Proofs.YtcaahdjhbmmcnaaGreatDoor
