/- KTree KLib Dr3 QDr -/
import Derived.Test.YtgppcegcpiaocaaGreatDoorNJF2
import Derived.Test.YtgppcegcpiaocaaGreatDoorNKC
import Derived.Test.YtgppcegcpiaocaaGreatDoorNQD
import Derived.Test.YtgppcegcpiaocaaGreatDoorNV1
import Derived.Test.YtgppcegcpiaocaaGreatDoorNQB
import Derived.Test.YtgppcegcpiaocaaGreatDoorNUI
import Derived.Test.YtgppcegcpiaocaaGreatDoorNZGOr
set_option maxRecDepth 100000
set_option maxHeartbeats 16000000
set_option linter.unusedSimpArgs false
set_option linter.unusedVariables false
namespace Go.Proofs.YtgppcegcpiaocaaGreatDoor
open Go
def zA6:List (List UInt8):=[[122],[43,122],[117,48],[117,49],[43,109,117,48,43,122]]
theorem nW{l:List UInt8}(h:zA6.contains l=true):zD l=true/\l.length<=10:=by
 simp only[zA6,List.contains_cons,List.contains_nil,Bool.or_false,Bool.or_eq_true,beq_iff_eq] at h;rcases h with rfl|rfl|rfl|rfl|rfl<;>simp[zD,zY]
def Tm.okB:Tm->Bool
|.var n=>decide (n<=30)
|.sort l=>zA6.contains l
|.const n ls=>zI n&&(decide (ls.length<=3)&&ls.all zA6.contains)
|.app f a=>f.okB&&a.okB
|.lam f a=>f.okB&&a.okB
|.pi f a=>f.okB&&a.okB
|.lett f a b=>f.okB&&(a.okB&&b.okB)
def Tm.bnd:Tm->Nat
|.var _=>12
|.sort _=>12
|.const _ _=>76
|.app f a=>f.bnd+a.bnd+1
|.lam f a=>f.bnd+a.bnd+1
|.pi f a=>f.bnd+a.bnd+1
|.lett f a b=>f.bnd+a.bnd+b.bnd+1
theorem rJ:∀ {t:Tm},t.okB=true->t.Ok
|.var n,h=>by simp only[Tm.okB,decide_eq_true_eq] at h;show n<=999;omega
|.sort l,h=>(nW h).1
|.const n ls,h=>by
  simp only[Tm.okB,Bool.and_eq_true,decide_eq_true_eq,List.all_eq_true] at h;exact⟨h.1,h.2.1,fun x hx=>(nW (h.2.2 x hx)).1⟩
|.app f a,h=>by simp only[Tm.okB,Bool.and_eq_true] at h;exact⟨rJ h.1,rJ h.2⟩
|.lam f a,h=>by simp only[Tm.okB,Bool.and_eq_true] at h;exact⟨rJ h.1,rJ h.2⟩
|.pi f a,h=>by simp only[Tm.okB,Bool.and_eq_true] at h;exact⟨rJ h.1,rJ h.2⟩
|.lett f a b,h=>by simp only[Tm.okB,Bool.and_eq_true] at h;exact⟨rJ h.1,rJ h.2.1,rJ h.2.2⟩
theorem zG8:∀ (ls:List (List UInt8)),(∀ x∈ls,x.length<=10)->(yH ls).length<=11*ls.length
|[],_=>by simp[yH]
|a::ls,h=>by
  have h1:=h a List.mem_cons_self;have h2:=zG8 ls fun x hx=>h x (List.mem_cons_of_mem _ hx);simp[yH];omega
theorem qL:∀ {t:Tm},t.okB=true->t.bytes.length<=t.bnd
|.var n,h=>by
  simp only[Tm.okB,decide_eq_true_eq] at h;have:=tY (u:=n) (by omega);simp[Tm.bytes,Tm.bnd];omega
|.sort l,h=>by
  have:=(nW h).2;simp[Tm.bytes,Tm.bnd];omega
|.const n ls,h=>by
  simp only[Tm.okB,Bool.and_eq_true,decide_eq_true_eq,List.all_eq_true] at h;have h1:=vZ h.1;have h2:=zG8 ls fun x hx=>(nW (h.2.2 x hx)).2;have h3:=h.2.1;simp only[Tm.bytes,Tm.bnd,lC,lA,List.length_nil];omega
|.app f a,h=>by
  simp only[Tm.okB,Bool.and_eq_true] at h;have:=qL h.1;have:=qL h.2;simp[Tm.bytes,Tm.bnd];omega
|.lam f a,h=>by
  simp only[Tm.okB,Bool.and_eq_true] at h;have:=qL h.1;have:=qL h.2;simp[Tm.bytes,Tm.bnd];omega
|.pi f a,h=>by
  simp only[Tm.okB,Bool.and_eq_true] at h;have:=qL h.1;have:=qL h.2;simp[Tm.bytes,Tm.bnd];omega
|.lett f a b,h=>by
  simp only[Tm.okB,Bool.and_eq_true] at h;have:=qL h.1;have:=qL h.2.1;have:=qL h.2.2;simp[Tm.bytes,Tm.bnd];omega
def Tm.fits (t:Tm):Bool:=t.okB&&decide (t.bnd<=2000)
theorem tX{t:Tm}(h:t.fits=true):t.Ok/\t.bytes.length<=2000:=by
 simp only[Tm.fits,Bool.and_eq_true,decide_eq_true_eq] at h;exact⟨rJ h.1,Nat.le_trans (qL h.1) h.2⟩
def aB (k n j q:Nat) (dm:Tm):Bool :=
 decide (n - j+q<=999)&&(decide (n - 1 - j+q+(dm.lift (n - j+q) 0).doms.length<=999)&&(dm.fits&&((dm.lift (n - j+q) 0).fits&&((mY n j q (dm.lift (n - j+q) 0).doms.length).fits&&((Tm.app (.var (k+n+q+(dm.lift (n - j+q) 0).doms.length)) (mY n j q (dm.lift (n - j+q) 0).doms.length)).fits&&(decide ((dm.lift (n - j+q) 0).doms.length<=30)&&(tT k n j q dm).fits))))))
theorem zN6{k n j q:Nat}{dm:Tm}(h:aB k n j q dm=true):zE2 k n j q dm.bytes=some (tT k n j q dm).bytes:=by
 simp only[aB,Bool.and_eq_true,decide_eq_true_eq] at h;obtain⟨h1,h2,hd,hl,hc,hb,hs,hf⟩:=h;have hD:=tX hd;have hL:=tX hl;have hlift:lifted dm.bytes ((n - j+q:Nat):Int) 0=some (dm.lift (n - j+q) 0).bytes:=by
  rw[lifted,zW ⟨hD.1,rfl,hD.2⟩];simp only;rw[iP (by omega),Int.toNat_natCast,show (0:Int).toNat=0 from rfl,kT,Option.bind_some,iP ⟨hL.1,by simpa using hL.2⟩,List.nil_append]
 have hdo:zT (dm.lift (n - j+q) 0).bytes=(dm.lift (n - j+q) 0).doms.map Tm.bytes:=kJ hL.1 hL.2;unfold zE2;rw[hlift];simp only[hdo,List.length_map];unfold tT at hf |-;generalize (dm.lift (n - j+q) 0).doms.length=s at *;have hg:vL (vH ((n - 1 - j+q+s:Nat):Int)) (hC s)=some (mY n j q s).bytes:=by
  rw[qY h2,← gM]
  exact mW h2 (fun a ha=>by
   obtain⟨i,_,rfl⟩:=List.mem_map.1 ha;show s - 1 - i<=999;omega) (tX hc).2
 rw[hg];simp only;have hA:=qH (tX hb).1 (fun a ha=>Tm.doms_ok hL.1 a ha) (tX hf).2;exact hA
def kY (k n:Nat):List (Tm × Bool)->Nat->Nat->Bool
|[],_,_=>true
|dm::r,j,q=>if dm.2=true then aB k n j q dm.1&&kY k n r (j+1) (q+1) else kY k n r (j+1) q
theorem pP{k n:Nat}{sh:List UInt8->Int}:∀ (ds:List (Tm × Bool)) (j q:Nat) (acc:List Tm),(∀ p∈ds,sh p.1.bytes=if p.2=true then 1 else 0)->kY k n ds j q=true ->
  vG k n sh (ds.map fun p=>p.1.bytes) j q (acc.map Tm.bytes)=some ((zM k n ds j q acc).1.map Tm.bytes,(zM k n ds j q acc).2)
|[],j,q,acc,_,_=>by simp[vG,zM]
|(dm,b)::r,j,q,acc,hs,hf=>by
  have h1:=hs (dm,b) List.mem_cons_self;have h2:∀ p∈r,sh p.1.bytes=if p.2=true then 1 else 0:=fun p hp=>hs p (List.mem_cons_of_mem _ hp);rw[List.map_cons];cases b
  ·simp only[Bool.false_eq_true,if_false] at h1;simp only[kY,Bool.false_eq_true,if_false] at hf;rw[vG,h1,iN (by omega),iN (by omega),pP r (j+1) q acc h2 hf];simp[zM]
  ·simp only[if_true] at h1;simp only[kY,if_true,Bool.and_eq_true] at hf;have h3:=pP r (j+1) (q+1) (acc++[tT k n j q dm]) h2 hf.2;rw[List.map_append,List.map_singleton] at h3;rw[vG,h1,iN (by omega),iP rfl,zN6 hf.1];simp only;rw[h3];simp[zM]
def yQ5 (nm:List UInt8) (lv:List (List UInt8)) (k n:Nat) (r:List Tm × Nat):Bool :=
 decide (n+r.2<=30)&&((Tm.const nm lv).fits&&((fQ nm lv n r.2).fits&&((Tm.app (.var (k+n+r.2)) (fQ nm lv n r.2)).fits&&(r.1.all Tm.okB&&(endT nm lv k n r).fits))))
def zG2 (nm:List UInt8) (lv:List (List UInt8)) (k:Nat) (ds:List (Tm × Bool)):Bool :=
 kY k ds.length ds 0 0&&yQ5 nm lv k ds.length (zM k ds.length ds 0 0 (ds.map Prod.fst))
structure ArgsP (d:Dc) (t:Tm) (ds:List (Tm × Bool)):Prop where
 doms:t.doms=ds.map Prod.fst
 shapes:∀ p∈ds,vI (uE d).bytes d.name p.1=if p.2=true then 1 else 0
theorem uX{d:Dc}{lv:List UInt8}(h:LibP d lv){k:Nat}(hk:k<d.ctors.length){t:Tm}(ht:CtorP d d.ctors[k] t){ds:List (Tm × Bool)}(ha:ArgsP d t ds)(hf:zG2 d.ctors[k].1 (zN d.params.toNat) k ds=true) :
  yD d (k:Int)=some (xP d.ctors[k].1 (zN d.params.toNat) k ds).bytes:=by
 simp only[zG2,yQ5,Bool.and_eq_true,decide_eq_true_eq,List.all_eq_true] at hf;obtain⟨hr,hn,hc,hm,hb,hall,he⟩:=hf;have e1:zT (yR d (k:Int))=ds.map fun p=>p.1.bytes:=by
  rw[sA hk,← ht.bytes,zT,xE ht.ok ht.len];simp[ha.doms]
 have hsh:∀ p∈ds,yA (zR d) d.name p.1.bytes=if p.2=true then 1 else 0:=fun p hp=>by
  have hp1:p.1∈t.doms:=(by rw[ha.doms];exact List.mem_map_of_mem hp);rw[h.self,lB (Tm.doms_ok ht.ok _ hp1) (Nat.le_trans (doms_len hp1) ht.len)];exact ha.shapes p hp
 have e2:=pP (k:=k) (n:=ds.length) (sh:=yA (zR d) d.name) ds 0 0 (ds.map Prod.fst) hsh hr;rw[List.map_map] at e2;unfold yD;rw[iP (h.result hk),Int.toNat_natCast,sR,e1,List.length_map];rw[show (ds.map fun p=>p.1.bytes)=ds.map (Tm.bytes ∘ Prod.fst) from rfl] at e2 |-;rw[e2];unfold xP;generalize zM k ds.length ds 0 0 (ds.map Prod.fst)=r at *;obtain⟨all,q⟩:=r;simp only[lU,dA hk];have hg:vL (Tm.const d.ctors[k].1 (zN d.params.toNat)).bytes (lW ds.length q)=some (fQ d.ctors[k].1 (zN d.params.toNat) ds.length q).bytes:=by
  rw[← dI (by simp only at hn;omega)]
  exact mW (tX hc).1 (fun a ha=>by
   obtain⟨i,hi,rfl⟩:=List.mem_map.1 ha;rw[List.mem_range] at hi;show ds.length - 1 - i+q<=999;simp only at hn;omega) (tX hm).2
 rw[hg];exact qH (tX hb).1 (fun a ha=>rJ (hall a ha)) (tX he).2
def yJ4 (self:Tm) (lvM:List UInt8) (ms:List Tm):Tm:=Tm.arrows (.pi self (.sort lvM)::(ms++[self])) (.app (.var (ms.length+1)) (.var 0))
theorem fO{d:Dc}{ms:List Tm}(hl:ms.length=d.ctors.length)(hm:∀ (k:Nat) (hk:k<ms.length),yD d (k:Int)=some ms[k].bytes):∀ (m k:Nat),k+m=ms.length->tR d m k=some ((ms.drop k).map Tm.bytes)
|0,k,h=>by
  rw[tR,List.drop_of_length_le (by omega)];rfl
|m+1,k,h=>by
  rw[tR,hm k (by omega)];simp only;rw[fO hl hm m (k+1) (by omega),List.drop_eq_getElem_cons (by omega:k<ms.length)];rfl
def aJ (self:Tm) (lvM:List UInt8) (ms:List Tm):Bool:=(Tm.app (.var (ms.length+1)) (.var 0)).fits&&(self.okB&&((Tm.sort lvM).okB&&(ms.all Tm.okB&&((yJ4 self lvM ms).fits&&(decide ((yJ4 self lvM ms).opn=0)&&decide (ms.length+2<=(yJ4 self lvM ms).doms.length))))))
theorem zF3{d:Dc}{lv:List UInt8}(h:LibP d lv){self:Tm}(hs:uE d=self){lvM:List UInt8}(hM:yM d=(Tm.sort lvM).bytes){ms:List Tm}(hl:ms.length=d.ctors.length)
  (hm:∀ (k:Nat) (hk:k<ms.length),yD d (k:Int)=some ms[k].bytes) (hf:aJ self lvM ms=true):uJ d=some (yJ4 self lvM ms).bytes:=by
 simp only[aJ,Bool.and_eq_true,decide_eq_true_eq,List.all_eq_true] at hf;obtain⟨hb,hs1,hm1,hall,hr,_,_⟩:=hf;have e1:=fO hl hm ms.length 0 (by omega);rw[List.drop_zero] at e1;have e2:(112::(zR d++yM d))=(Tm.pi self (.sort lvM)).bytes:=by rw[h.self,hs,hM];rfl
 have e3:(64::((Tm.var (d.ctors.length+1)).bytes++[118,48,46]))=(Tm.app (.var (ms.length+1)) (.var 0)).bytes:=by
  rw[hl];simp[Tm.bytes,Lib.decDigits_one]
 unfold uJ;rw[iP h.data,← hl,e1];simp only;rw[e2,hl,e3,h.self,hs];rw[show ((Tm.pi self (.sort lvM)).bytes::(ms.map Tm.bytes++[self.bytes]))=(Tm.pi self (.sort lvM)::(ms++[self])).map Tm.bytes by simp]
 exact qH (tX hb).1 (fun a ha=>by
  rcases List.mem_cons.1 ha with rfl|ha
  ·exact⟨rJ hs1,rJ hm1⟩
  ·rcases List.mem_append.1 ha with ha|ha
   ·exact rJ (hall a ha)
   ·rw[List.mem_singleton] at ha;subst ha;exact rJ hs1) (tX hr).2
structure RecP (d:Dc):Prop where
 type:∃ T:Tm,uJ d=some T.bytes/\T.Ok/\T.bytes.length<=2000/\T.opn=0/\d.ctors.length+2<=T.doms.length
 minor:∀ (k:Nat),k<d.ctors.length->∃ t,yD d (k:Int)=some t
theorem vQ:zN (0:Int).toNat=[]:=rfl
theorem yM1:zN (1:Int).toNat=[[117,48]]:=by simp[zN,List.range,List.range.loop,Lib.decDigits_one]
theorem nB:Lib.itoa 0=[48]:=by
 rw[show (0:Int)=((0:Nat):Int) from rfl,Lib.itoa_nonneg,Lib.decDigits_one (by decide)];rfl
theorem xA5:Lib.itoa 1=[49]:=by
 rw[show (1:Int)=((1:Nat):Int) from rfl,Lib.itoa_nonneg,Lib.decDigits_one (by decide)];rfl
theorem yY5:yD qB (0:Nat)=some (xP [110,97,116,46,122,101,114,111] [] 0 ([]:List (Tm × Bool))).bytes:=by
 have e:=uX mP (k:=0) (by decide) zX6 (ds:=[]) ⟨rfl,by
  intro p hp;simp only[List.mem_cons,List.not_mem_nil,or_false] at hp⟩ (by rw[show qB.params=0 from rfl,vQ];decide)
 rw[show qB.params=0 from rfl,vQ] at e;exact e
theorem yY4:yD qB (1:Nat)=some (xP [110,97,116,46,115,117,99,99] [] 1 ([((.const [110,97,116] []),true)]:List (Tm × Bool))).bytes:=by
 have e:=uX mP (k:=1) (by decide) zX5 (ds:=[((.const [110,97,116] []),true)]) ⟨rfl,by
  intro p hp;simp only[List.mem_cons,List.not_mem_nil,or_false] at hp;rcases hp with rfl
  ·decide⟩ (by rw[show qB.params=0 from rfl,vQ];decide)
 rw[show qB.params=0 from rfl,vQ] at e;exact e
theorem yN4:yD tL (0:Nat)=some (xP [98,111,111,108,46,116,116] [] 0 ([]:List (Tm × Bool))).bytes:=by
 have e:=uX pS (k:=0) (by decide) zH7 (ds:=[]) ⟨rfl,by
  intro p hp;simp only[List.mem_cons,List.not_mem_nil,or_false] at hp⟩ (by rw[show tL.params=0 from rfl,vQ];decide)
 rw[show tL.params=0 from rfl,vQ] at e;exact e
theorem yN3:yD tL (1:Nat)=some (xP [98,111,111,108,46,102,102] [] 1 ([]:List (Tm × Bool))).bytes:=by
 have e:=uX pS (k:=1) (by decide) zH6 (ds:=[]) ⟨rfl,by
  intro p hp;simp only[List.mem_cons,List.not_mem_nil,or_false] at hp⟩ (by rw[show tL.params=0 from rfl,vQ];decide)
 rw[show tL.params=0 from rfl,vQ] at e;exact e
theorem yM7:yD tK (0:Nat)=some (xP [116,114,101,101,46,108,101,97,102] [] 0 ([]:List (Tm × Bool))).bytes:=by
 have e:=uX pQ (k:=0) (by decide) zH4 (ds:=[]) ⟨rfl,by
  intro p hp;simp only[List.mem_cons,List.not_mem_nil,or_false] at hp⟩ (by rw[show tK.params=0 from rfl,vQ];decide)
 rw[show tK.params=0 from rfl,vQ] at e;exact e
theorem yM6:yD tK (1:Nat)=some (xP [116,114,101,101,46,110,111,100,101] [] 1 ([((.const [110,97,116] []),false),((.pi (.const [110,97,116] []) (.const [116,114,101,101] [])),true)]:List (Tm × Bool))).bytes:=by
 have e:=uX pQ (k:=1) (by decide) zH3 (ds:=[((.const [110,97,116] []),false),((.pi (.const [110,97,116] []) (.const [116,114,101,101] [])),true)]) ⟨rfl,by
  intro p hp;simp only[List.mem_cons,List.not_mem_nil,or_false] at hp;rcases hp with rfl|rfl
  ·decide
  ·decide⟩ (by rw[show tK.params=0 from rfl,vQ];decide)
 rw[show tK.params=0 from rfl,vQ] at e;exact e
theorem yY9:yD mE (0:Nat)=some (xP [98,105,103,46,109,107] [] 0 ([((.sort [43,122]),false)]:List (Tm × Bool))).bytes:=by
 have e:=uX jG (k:=0) (by decide) zY1 (ds:=[((.sort [43,122]),false)]) ⟨rfl,by
  intro p hp;simp only[List.mem_cons,List.not_mem_nil,or_false] at hp;rcases hp with rfl
  ·decide⟩ (by rw[show mE.params=0 from rfl,vQ];decide)
 rw[show mE.params=0 from rfl,vQ] at e;exact e
theorem yY7:yD xU (0:Nat)=some (xP [98,111,120,46,109,107] [[117,48]] 0 ([((.sort [117,48]),false),((.var 0),false)]:List (Tm × Bool))).bytes:=by
 have e:=uX jF (k:=0) (by decide) zX9 (ds:=[((.sort [117,48]),false),((.var 0),false)]) ⟨rfl,by
  intro p hp;simp only[List.mem_cons,List.not_mem_nil,or_false] at hp;rcases hp with rfl|rfl
  ·simp[Tm.bytes,Tm.targ,Tm.doms,Tm.cnames,Tm.opn,Tm.params,uE,zN,List.range,List.range.loop,yH,xU,Lib.decDigits_one,zC,xJ,zD,zY,vI]
  ·simp[Tm.bytes,Tm.targ,Tm.doms,Tm.cnames,Tm.opn,Tm.params,uE,zN,List.range,List.range.loop,yH,xU,Lib.decDigits_one,zC,xJ,zD,zY,vI]⟩ (by rw[show xU.params=1 from rfl,yM1];decide)
 rw[show xU.params=1 from rfl,yM1] at e;exact e
end Go.Proofs.YtgppcegcpiaocaaGreatDoor
namespace Go.Proofs.YtgppcegcpiaocaaGreatDoor
open Go.ChangeShapes Go.WideShapes Go.ChangeAt Go.RowKit
theorem drawNew{w:World}{v:Value}{l:List UInt8}(hl:cM w v l)(hn:l.length<=2000000) :
  Calls Tryz.prog 21 #[v] w fun e w'=>∃ cb,e=.returned (.pointer (some ⟨cb,0,none⟩))/\Cur w v l cb w':=by
 obtain⟨a0,cap,b,off,rfl,h2,h3⟩:=hl;go_enter Tryz.func21,Tryz.ntmps21;go_wp2;go_loopw [3,4] (fun hh i wr=>∃ (p:Nat) (x:Int),p<=l.length/\hh=.int .i64 x/\i=.int .i64 p/\wr=w) (fun _ i _=>l.length - (intOf i).toNat)
 case atStart=>exact⟨0,_,Nat.zero_le _,rfl,rfl,rfl⟩
 case round =>
  obtain⟨p,x,hp,rfl,rfl,rfl⟩:=hrel;by_cases hlt:p<l.length
  ·by_cases h4:p<4000
   ·have d1:decide ((p:Int)<(l.length:Int))=true:=dT (by omega);have d2:decide ((p:Int)<4000)=true:=dT (by omega);obtain⟨rfl,hb⟩:=h2 (by omega);have cc:=h3 p hlt;have hby:=l[p].toNat_lt;generalize l[p].toNat=u at cc hby
    have q1:=zn p;have q2:(p:Int)<(l.length:Int):=(by omega);clear h2 h3;go_wp2;go_roundw
    case rel=>exact⟨p+1,_,by omega,rfl,by go_num,trivial⟩
    case measure=>simp[intOf];omega
   ·have d1:decide ((p:Int)<(l.length:Int))=true:=dT (by omega);have d2:decide ((p:Int)<4000)=false:=dF (by omega);clear h2 h3;go_wp2;go_ret;exact⟨wr.heap.size,rfl,(bR _ _).alloc (nR _) _,nR _,by simp,0,x,Nat.zero_le _,World.news_of_block (cs:=#[.slice a0 l.length cap,.int .i64 0,.int .i64 x]) (t:=77) (fr:=(0,0)) (heap_alloc_new wr _) 0 _ rfl,World.news_of_block (cs:=#[.slice a0 l.length cap,.int .i64 0,.int .i64 x]) (t:=77) (fr:=(0,0)) (heap_alloc_new wr _) 1 _ rfl,World.news_of_block (cs:=#[.slice a0 l.length cap,.int .i64 0,.int .i64 x]) (t:=77) (fr:=(0,0)) (heap_alloc_new wr _) 2 _ rfl,by simp,by simp⟩
  ·have d1:decide ((p:Int)<(l.length:Int))=false:=dF (by omega);clear h2 h3;go_wp2;go_ret;exact⟨wr.heap.size,rfl,(bR _ _).alloc (nR _) _,nR _,by simp,0,x,Nat.zero_le _,World.news_of_block (cs:=#[.slice a0 l.length cap,.int .i64 0,.int .i64 x]) (t:=77) (fr:=(0,0)) (heap_alloc_new wr _) 0 _ rfl,World.news_of_block (cs:=#[.slice a0 l.length cap,.int .i64 0,.int .i64 x]) (t:=77) (fr:=(0,0)) (heap_alloc_new wr _) 1 _ rfl,World.news_of_block (cs:=#[.slice a0 l.length cap,.int .i64 0,.int .i64 x]) (t:=77) (fr:=(0,0)) (heap_alloc_new wr _) 2 _ rfl,by simp,by simp⟩
theorem Cur.below{w0 w w':World}{v:Value}{l:List UInt8}{cb:Nat}(h:Cur w0 v l cb w)(hb:Below w.heap.size w w'):Cur w0 v l cb w':=by
 obtain⟨h1,h2,h3,i,x,h4,c0,c1,c2,z1,z2⟩:=h;refine⟨h1.trans (hb.mono h1.size),h2,Nat.lt_of_lt_of_le h3 hb.size,i,x,h4,(hb.cell (p:=⟨cb,0,none⟩) h3).trans c0,(hb.cell (p:=⟨cb,1,none⟩) h3).trans c1,(hb.cell (p:=⟨cb,2,none⟩) h3).trans c2,(hb.frozen (p:=⟨cb,1,none⟩) h3).trans z1,(hb.frozen (p:=⟨cb,2,none⟩) h3).trans z2⟩
theorem xB5{w0 w:World}{v:Value}{l:List UInt8}{cb:Nat}(hl:cM w0 v l)(hc:Cur w0 v l cb w)(hn:l.length<=2000000)(n:Nat)(h1:256<n)(h2:n<=1000000) :
  Calls Tryz.prog 23 #[.pointer (some ⟨cb,0,none⟩),.int .i64 (n:Int)] w fun e w'=>(∃ x:Nat,x<n/\e=.returned (.int .i64 x))/\Cur w0 v l cb w'/\w.grownBy w' (some cb):=by
 have f1:=Ld fun W (h:Cur w0 v l cb W)=>zY5 hl h hn;have d1:decide ((n:Int)<=0)=false:=dF (by omega);have d2:decide ((n:Int)<=256)=false:=dF (by omega);have d3:((n:Int)==0)=false:=beq_eq_false_iff_ne.2 (by omega);have HC:=Ld hc;clear hl hc;go_enter Tryz.func23,Tryz.ntmps23;go_wp2_with fail;(with_reducible refine(f1.out _ HC.out).mono ?_);rintro e w1 ⟨⟨x1,hx1,rfl⟩,hc1,hg1⟩;have HC1:=Ld hc1;have HG1:=Ld hg1;clear hc1 hg1;go_wp2_with fail;(with_reducible refine(f1.out _ HC1.out).mono ?_);rintro e w2 ⟨⟨x2,hx2,rfl⟩,hc2,hg2⟩;have HC2:=Ld hc2;have HG2:=Ld (HG1.out.trans hg2);clear hc2 hg2;go_wp2_with fail;(with_reducible refine(f1.out _ HC2.out).mono ?_);rintro e w3 ⟨⟨x3,hx3,rfl⟩,hc3,hg3⟩;have HC3:=Ld hc3;have HG3:=Ld (HG2.out.trans hg3);clear hc3 hg3;go_wp2_with fail;(with_reducible refine(f1.out _ HC3.out).mono ?_);rintro e w4 ⟨⟨x4,hx4,rfl⟩,hc4,hg4⟩;have HC4:=Ld hc4;have HG4:=Ld (HG3.out.trans hg4);clear hc4 hg4;have e1:((x1:Int)*16777216+(x2:Int)*65536+(x3:Int)*256+(x4:Int)).tmod (n:Int)=(((x1*16777216+x2*65536+x3*256+x4) % n:Nat):Int):=by
  have ec:(x1:Int)*16777216+(x2:Int)*65536+(x3:Int)*256+(x4:Int)=((x1*16777216+x2*65536+x3*256+x4:Nat):Int):=(by omega);rw[ec,Int.tmod_eq_emod_of_nonneg (by omega)];exact(Int.natCast_emod _ _).symm
 have hxn:(x1*16777216+x2*65536+x3*256+x4) % n<n:=Nat.mod_lt _ (by omega);have hx:(x1*16777216+x2*65536+x3*256+x4) % n<=x1*16777216+x2*65536+x3*256+x4:=Nat.mod_le _ _;generalize (x1*16777216+x2*65536+x3*256+x4) % n=y at e1 hxn hx;clear f1;go_wp2;go_ret;exact⟨⟨y,hxn,rfl⟩,HC4.out,HG4.out⟩
theorem Cur.other{w0 w w':World}{v:Value}{l:List UInt8}{cb:Nat}{row:Option Nat}(h:Cur w0 v l cb w)(hg:w.grownBy w' row)(hne:row≠some cb)(hr:∀ k,row=some k->w0.heap.size<=k):Cur w0 v l cb w':=by
 obtain⟨h1,h2,h3,i,hh,h4,c0,c1,c2,z1,z2⟩:=h;have hb:w'.heap[cb]?=w.heap[cb]?:=hg.block cb h3 (fun e=>hne e.symm);have hf:∀ i,w'.frozen? ⟨cb,i,none⟩=w.frozen? ⟨cb,i,none⟩:=fun i=>World.frozen?_of_block (w:=w) (w':=w') (a:=⟨cb,i,none⟩) hb;exact⟨h1.grown hg h1.size hr,h2,Nat.lt_of_lt_of_le h3 hg.size,i,hh,h4,hg.cell c0 (fun e=>hne e.symm),hg.cell c1 (fun e=>hne e.symm),hg.cell c2 (fun e=>hne e.symm),(hf 1).trans z1,(hf 2).trans z2⟩
theorem yF3{w:World}{v:Value}{l:List UInt8}(hl:cM w v l)(hn:l.length<=2000000) :
  Calls Tryz.prog 8 #[v] w fun e w'=>∃ (u:Value) (ps:List Int),e=.returned u/\ps.length=12/\(∀ x∈ps,0<=x/\x<10000)/\w'.ownsRow w.heap.size 3 1 u ps.length (ps.map iv)/\Below w.heap.size w w':=by
 have f1:=Ld (drawNew hl hn);have f2:=Ld fun (cb:Nat) (W:World) (h:Cur w v l cb W)=>zY5 hl h hn;have f3:Hid (∀ (cb:Nat) (W:World) (h:Cur w v l cb W),Calls Tryz.prog 23 #[.pointer (some ⟨cb,0,none⟩),.int .i64 10000] W fun e w'=>(∃ x:Nat,x<10000/\e=.returned (.int .i64 x))/\Cur w v l cb w'/\W.grownBy w' (some cb)):=fun cb W h=>xB5 hl h hn 10000 (by decide) (by decide);obtain⟨a0,cap,_,_,hv,_⟩:=id hl;clear hl;subst hv;go_enter Tryz.func8,Tryz.ntmps8;go_wp2_with fail;(with_reducible refine f1.out.mono ?_);rintro e w1 ⟨cb,rfl,hc1⟩;have HC1:=Ld hc1;clear hc1 f1;go_wp2_with fail;(with_reducible refine(f2.out _ _ HC1.out).mono ?_);rintro e w2 ⟨⟨x,hx,rfl⟩,hc2,hg2⟩;have hcb:=hc2.2.2.1;have hb3:=zE w2 (.cells #[] 3);have HC3:=Ld (hc2.below hb3);have HR3:Hid ((w2.alloc (.cells #[] 3)).ownsRow w2.heap.size 3 1 (.slice (some ⟨w2.heap.size,0,none⟩) 0 0) ([]:List Int).length (([]:List Int).map iv)):=World.ownsRow_lit w2 #[] 0 (nR _) (by decide) (by simp);have hz2:w.heap.size<=w2.heap.size:=hc2.1.size;have z3:=hb3.size;clear hc2 hg2 hb3 f2 HC1;go_wp2;go_loopw [4,5] (fun o i wr=>∃ (k:Nat) (oo:Value) (ps:List Int),k<=12/\i=.int .i64 k/\oo=o/\ps.length=k/\Hid (∀ x∈ps,0<=x/\x<10000)/\Hid (wr.ownsRow w2.heap.size 3 1 oo ps.length (ps.map iv))/\Hid (Cur w (.slice a0 l.length cap) l cb wr)/\w2.heap.size<=wr.heap.size) (fun _ i _=>12 - (intOf i).toNat)
 case atStart=>exact⟨0,_,[],Nat.zero_le _,rfl,rfl,rfl,fun x h=>(by cases h),HR3.out,HC3.out,z3⟩
 case round =>
  obtain⟨k,oo,ps,hk,rfl,rfl,hps,HP,HR,HC,hzr⟩:=hrel;clear HR3 HC3 z3;by_cases hlt:k<12;rotate_left
  ·obtain rfl:k=12:=(by omega);have HB:=Ld HC.out.1;have HR':=Ld (yG HR.out hz2);clear HR HC f3;go_wp2;go_ret;exact⟨_,ps,rfl,hps,HP.out,HR'.out,HB.out⟩
  have q:(k:Int)<12:=(by omega);go_wp2_with fail;(with_reducible refine(f3.out _ _ HC.out).mono ?_);rintro e w4 ⟨⟨y,hy,rfl⟩,hc4,hg4⟩;have HR4:Hid (w4.ownsRow w2.heap.size 3 1 oo ps.length (ps.map iv)):=by
   refine HR.out.kept hg4 ?_;rcases hv:oo.ownBlock with _|q
   ·exact .inl rfl
   ·refine .inr (fun e=>?_);have h1:=(HR.out.lt q hv).1;injection e with e;omega
  have HC4:=Ld hc4;have z4:w2.heap.size<=w4.heap.size:=Nat.le_trans hzr hg4.size;have HNE:Hid (oo.ownBlock≠some cb/\∀ q,oo.ownBlock=some q->w.heap.size<=q):=⟨fun e=>by have:=(HR4.out.lt cb e).1;omega,fun q e=>Nat.le_trans hz2 (HR4.out.lt q e).1⟩;clear hc4 hg4 HC HR;have HN:Hid ((w4.alloc (.cells #[.int .i64 (y:Int)] 3)).ownsRow w4.heap.size 3 1 (.slice (some ⟨w4.heap.size,0,none⟩) 1 1) [(y:Int)].length ([(y:Int)].map iv)):=World.ownsRow_lit w4 #[.int .i64 (y:Int)] 1 (nR _) (by decide) (by simp);go_wp2_with (at_builtin;refine zM7 rfl _ _ rfl w2.heap.size _ _ _ rfl (zA HR4.out (zE _ _)) _ _ [(y:Int)] rfl HN.out (by simp only[lC,List.length_nil];omega) (Nat.le_trans z4 (zE _ _).size) ?_;intro vA wA hoA hgA);have HC5:=Ld ((HC4.out.below (zE _ (.cells #[.int .i64 (y:Int)] 3))).other hgA HNE.out.1 HNE.out.2);have z5:w2.heap.size<=wA.heap.size:=Nat.le_trans (Nat.le_trans z4 (zE _ _).size) hgA.size;have HR5:Hid (wA.ownsRow w2.heap.size 3 1 vA (ps++[(y:Int)]).length ((ps++[(y:Int)]).map iv)):=by
   rw[Hid,List.map_append,lA];exact hoA
  have HP5:Hid (∀ x∈ps++[(y:Int)],0<=x/\x<10000):=by
   intro x hx;rw[List.mem_append] at hx;rcases hx with hx|hx
   ·exact HP.out x hx
   ·simp only[List.mem_cons,List.not_mem_nil,or_false] at hx;subst hx;omega
  clear hoA hgA HR4 HC4 HN HNE HP;go_wp2;go_roundw
  case rel=>exact⟨k+1,_,ps++[(y:Int)],by omega,by go_num,rfl,by simp[hps],HP5.out,HR5.out,HC5.out,z5⟩
  case measure=>simp[intOf];omega
end Go.Proofs.YtgppcegcpiaocaaGreatDoor
