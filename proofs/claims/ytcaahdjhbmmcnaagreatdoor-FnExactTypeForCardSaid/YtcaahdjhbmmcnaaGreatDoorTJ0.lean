/- GAny IntsP UVal Dr2 VParU UWit -/
import Derived.ChangeSlices
import Derived.StillTailTactics
import Derived.Test.YtcaahdjhbmmcnaaGreatDoorTA6
import Derived.Test.YtcaahdjhbmmcnaaGreatDoorTBase
import Derived.Test.YtcaahdjhbmmcnaaGreatDoorTG1
import Derived.Test.YtcaahdjhbmmcnaaGreatDoorTE1
import Derived.Test.YtcaahdjhbmmcnaaGreatDoorTV1
set_option maxRecDepth 100000
set_option maxHeartbeats 16000000
set_option linter.unusedSimpArgs false
set_option linter.unusedVariables false
namespace Go.Proofs.YtcaahdjhbmmcnaaGreatDoor
open Go.ChangeShapes Go.WideShapes Go.ChangeAt Go.RowKit
def iv (x:Int):Value:=.int .i64 x
theorem qI{w:World}{b n:Nat}{v:Value}{xs:List Value}(h:w.ownsRow b 3 1 v n xs):∃ a cap,v=.slice a n cap:=by
 rcases h.2 with ⟨rfl,rfl⟩|⟨g,cap,cur,rfl,_⟩
 ·exact⟨_,_,rfl⟩
 ·exact⟨_,_,rfl⟩
def xC3 (w:World) (v:Value) (l:List Int):Prop :=
 ∃ (a0:Option Addr) (cap b off:Nat),v=.slice a0 l.length cap/\(0<l.length->a0=some ⟨b,off,none⟩/\b<w.heap.size)/\(∀ j (h:j<l.length),w.cell? ⟨b,off+j,none⟩=some (iv l[j]))/\l.length<=maxLen
theorem xC3.below{w w':World}{v:Value}{l:List Int}(h:xC3 w v l)(hb:Below w.heap.size w w'):xC3 w' v l:=by
 obtain⟨a0,cap,b,off,h1,h2,h3,h4⟩:=h;refine⟨a0,cap,b,off,h1,fun h0=>⟨(h2 h0).1,Nat.lt_of_lt_of_le (h2 h0).2 hb.size⟩,fun j hj=>?_,h4⟩;rw[hb.cell (p:=⟨b,off+j,none⟩) (h2 (by omega)).2];exact h3 j hj
theorem hZ:(Tryz.prog.info? 3).map (fun i=>(i.zero,i.size,i.bytes))=some (some (.int .i64 0),1,8):=by kernel_rfl
def xC6 (r:List Int) (w:World) (e:Ending) (w':World):Prop :=
 ∃ v,e=.returned v/\w'.ownsRow w.heap.size 3 1 v r.length (r.map iv)/\Below w.heap.size w w'
theorem sF{l:List UInt8}{p:Nat}{c:UInt8}{r:List UInt8}(h:l.drop p=c::r):∃ hp:p<l.length,l[p]=c/\l.drop (p+1)=r:=by
 have hp:p<l.length:=by
  by_cases hp:p<l.length
  ·exact hp
  ·rw[List.drop_eq_nil_of_le (by omega)] at h;cases h
 rw[List.drop_eq_getElem_cons hp] at h;injection h with h1 h2;exact⟨hp,h1,h2⟩
theorem zT6{vs:List Int}(hv:∀ x∈vs,0<=x/\x<=1000)(k:Fin 3):asV (vs.map Int.toNat) k<=1000:=by
 unfold asV;by_cases hk:k.val<vs.length
 ·have:(vs.map Int.toNat).getD k.val 0=(vs[k.val]).toNat:=(by simp[hk]);rw[this];have:=hv _ (List.getElem_mem hk);omega
 ·have:(vs.map Int.toNat).getD k.val 0=0:=(by simp[List.getD,List.getElem?_eq_none (show vs.length<=k.val by omega)]);omega
theorem yW5{vs:List Int}(hv:∀ x∈vs,0<=x/\x<=1000)(k:Fin 3)(hk:k.val<vs.length):vs[k.val]=(asV (vs.map Int.toNat) k:Int):=by
 unfold asV;have:(vs.map Int.toNat).getD k.val 0=(vs[k.val]).toNat:=by simp[hk]
 rw[this];have:=hv _ (List.getElem_mem hk);omega
theorem yD2(s:ByteArray){w:World}{b:Nat}{v:Value}{vs:List Int}(h:w.ownsRow b 3 1 v vs.length (vs.map iv))(hs:s.size<=60)(hv:∀ x∈vs,0<=x/\x<=1000)(hn:vs.length<=3)
  (HG:Hid (∀ i (hi:i+1<s.data.toList.length),s.data.toList[i]=117->s.data.toList[i+1].toNat - 47<=vs.length)) :
  ∀ (t:Lv) (p:Nat) (r:List UInt8),s.data.toList.drop p=t.bytes++r->Calls Tryz.prog 204 #[.string s,.int .i64 (p:Int),v] w fun e w'=>e=.returned (.tuple #[.int .i64 (t.val (asV (vs.map Int.toNat)):Int),.int .i64 ((p+t.bytes.length:Nat):Int)])/\w'=w:=by
 have HV:=Ld (Lv.val_le (zT6 hv));have HU:=Ld Lv.ups_lt;have HA:=Ld (yW5 hv);have HL:=Ld (zT6 hv);have HLS:Hid (s.data.toList.length=s.size):=rfl;generalize asV (vs.map Int.toNat)=V at HV HA HL;have HVS:=Ld hv;clear hv;intro t
 induction t with
|z =>
  intro p r hd;obtain⟨hp,c1,_⟩:=sF hd;have hp':p<s.size:=hp;have c1':s[p]=122:=c1;have q1:=zn p;have q2:(p:Int)<(s.size:Int):=(by omega);have e1:((s[p].toNat:Int)==122)=true:=yH c1';clear c1 c1' hd;go_enter Tryz.func204,Tryz.ntmps204;go_wp2;go_ret2;exact⟨rfl,rfl⟩
|par k =>
  intro p r hd;obtain⟨hp,c1,hd2⟩:=sF hd;obtain⟨hp2,c2,_⟩:=sF hd2;have hp':p<s.size:=hp;have hp2':p+1<s.size:=hp2;have c1':s[p]=117:=c1;have hge:=HG.out p hp2 c1;have hb:=(Lv.par_byte k).2.2;have hb1:=(Lv.par_byte k).1;rw[← c2] at hb hb1;have hb':s[p+1].toNat - 48=k.val:=hb;have hb1':48<=s[p+1].toNat:=hb1;have hge':s[p+1].toNat - 47<=vs.length:=hge;have q1:=zn p;have q2:(p:Int)<(s.size:Int):=(by omega);have q3:(0:Int)<=(p:Int)+1:=(by omega);have q4:(p:Int)+1<(s.size:Int):=(by omega);have e1:((s[p].toNat:Int)==117)=true:=yH c1';have e0:((s[p].toNat:Int)==122)=false:=zQ (d:=122) (by rw[c1'];decide);have hkl:k.val<vs.length:=(by omega);have e3:s[p+1].toNat=k.val+48:=(by omega);obtain⟨g,cap,rfl,_,hgl⟩:=h.form (by omega);have ex:(vs.map iv)[k.val]?=some (iv (V k:Int)):=(by simp[hkl,HA.out k hkl]);have cc:=(h.cellAt k.val (by omega)).trans ex;unfold iv at cc;have q5:(0:Int)<=(k.val:Int):=(by omega);have q6:(k.val:Int)<(vs.length:Int):=(by omega);have e4:IntKind.i64.wrap ((s[p+1].toNat:Int))=(k.val:Int)+48:=(by rw[e3];exact IntWalk.i64_in _ (by omega));have e5:IntKind.i64.wrap ((k.val:Int)+48 - 48)=(k.val:Int):=(by rw[show (k.val:Int)+48 - 48=(k.val:Int) by omega];exact IntWalk.i64_in _ (by omega));clear c1 c1' hd hd2 c2 hb hb1 hge ex h hb' e3 hb1' hge';go_enter Tryz.func204,Tryz.ntmps204;go_wp2;go_ret2;exact⟨rfl,rfl⟩
|up t ih =>
  intro p r hd;obtain⟨hp,c1,hd2⟩:=sF hd;have hp':p<s.size:=hp;have c1':s[p]=43:=c1;have q1:=zn p;have q2:(p:Int)<(s.size:Int):=(by omega);have e1:((s[p].toNat:Int)==43)=true:=yH c1';have e0:((s[p].toNat:Int)==122)=false:=zQ (d:=122) (by rw[c1'];decide);have e2:((s[p].toNat:Int)==117)=false:=zQ (d:=117) (by rw[c1'];decide);have hd2:s.data.toList.drop (p+1)=t.bytes++r:=hd2;have f1:=Ld (ih (p+1) r hd2);rw[show ((p+1:Nat):Int)=(p:Int)+1 by omega] at f1;have hn1:=HV.out t;have hn2:=HU.out t;have hn3:t.bytes.length<=60:=by
   have e:=congrArg List.length hd2;have:=HLS.out;simp only[List.length_drop,lA] at e;omega
  have HF:Hid ((Lv.up t).val V=t.val V+1/\(Lv.up t).bytes.length=t.bytes.length+1):=⟨rfl,rfl⟩;clear c1 c1' hd hd2 ih;generalize (Lv.up t).val V=N at HF;generalize (Lv.up t).bytes.length=M at HF;generalize t.val V=n at f1 HF hn1;generalize t.bytes.length=m at f1 HF hn2 hn3;generalize t.ups=u at hn1 hn2;go_enter Tryz.func204,Tryz.ntmps204;go_wp2_with fail;(with_reducible refine mo f1.out ?_);rintro w1 rfl;go_wp2;go_ret2;obtain⟨rfl,rfl⟩:=HF.out;exact⟨by simp<;>omega,rfl⟩
|mx a b iha ihb =>
  intro p r hd;obtain⟨hp,c1,hd2⟩:=sF hd;have hp':p<s.size:=hp;have c1':s[p]=109:=c1;have q1:=zn p;have q2:(p:Int)<(s.size:Int):=(by omega);have e3:((s[p].toNat:Int)==105)=false:=zQ (d:=105) (by rw[c1'];decide);have e0:((s[p].toNat:Int)==122)=false:=zQ (d:=122) (by rw[c1'];decide);have e2:((s[p].toNat:Int)==117)=false:=zQ (d:=117) (by rw[c1'];decide);have e1:((s[p].toNat:Int)==43)=false:=zQ (d:=43) (by rw[c1'];decide);have hd2:s.data.toList.drop (p+1)=a.bytes++(b.bytes++r):=hd2.trans (List.append_assoc _ _ _);have f1:=Ld (iha (p+1) _ hd2);have hdb:s.data.toList.drop (p+1+a.bytes.length)=b.bytes++r:=by
   rw[← List.drop_drop,hd2,List.drop_left]
  have f2:=Ld (ihb _ r hdb);rw[show ((p+1+a.bytes.length:Nat):Int)=(p:Int)+1+(a.bytes.length:Int) by omega] at f2;rw[show ((p+1:Nat):Int)=(p:Int)+1 by omega] at f1;have hn1:=HV.out a;have hn2:=HU.out a;have hm1:=HV.out b;have hm2:=HU.out b;have hn3:p+1+a.bytes.length+b.bytes.length<=60:=by
   have e:=congrArg List.length hdb;have e':=congrArg List.length hd2;have:=HLS.out;simp only[List.length_drop,lA] at e e';omega
  have HF:Hid ((Lv.mx a b).val V=max (a.val V) (b.val V)/\(Lv.mx a b).bytes.length=a.bytes.length+b.bytes.length+1):=⟨rfl,by simp[Lv.bytes]⟩;clear c1 c1' hd hd2 iha ihb hdb;generalize (Lv.mx a b).val V=N at HF;generalize (Lv.mx a b).bytes.length=M at HF;generalize a.val V=x at f1 HF hn1;generalize b.val V=y at f2 HF hm1;generalize a.bytes.length=m at f1 f2 HF hn2 hn3;generalize b.bytes.length=k at f2 HF hm2 hn3;generalize a.ups=u at hn1 hn2;generalize b.ups=u' at hm1 hm2;by_cases hxy:y<x
  ·have d1:decide ((y:Int)<(x:Int))=true:=dT (by omega);have d1n:decide (y<x)=true:=dT (by omega);go_enter Tryz.func204,Tryz.ntmps204;go_wp2_with fail;(with_reducible refine mo f1.out ?_);rintro w1 rfl;go_wp2_with fail;(with_reducible refine mo f2.out ?_);rintro w1 rfl;go_wp2;go_ret2;obtain⟨rfl,rfl⟩:=HF.out;rw[Nat.max_eq_left (by omega)];exact⟨by simp<;>omega,rfl⟩
  ·have d1:decide ((y:Int)<(x:Int))=false:=dF (by omega);have d1n:decide (y<x)=false:=dF (by omega);go_enter Tryz.func204,Tryz.ntmps204;go_wp2_with fail;(with_reducible refine mo f1.out ?_);rintro w1 rfl;go_wp2_with fail;(with_reducible refine mo f2.out ?_);rintro w1 rfl;go_wp2;go_ret2;obtain⟨rfl,rfl⟩:=HF.out;rw[Nat.max_eq_right (by omega)];exact⟨by simp<;>omega,rfl⟩
|im a b iha ihb =>
  intro p r hd;obtain⟨hp,c1,hd2⟩:=sF hd;have hp':p<s.size:=hp;have c1':s[p]=105:=c1;have q1:=zn p;have q2:(p:Int)<(s.size:Int):=(by omega);have e3:((s[p].toNat:Int)==105)=true:=yH c1';have e0:((s[p].toNat:Int)==122)=false:=zQ (d:=122) (by rw[c1'];decide);have e2:((s[p].toNat:Int)==117)=false:=zQ (d:=117) (by rw[c1'];decide);have e1:((s[p].toNat:Int)==43)=false:=zQ (d:=43) (by rw[c1'];decide);have hd2:s.data.toList.drop (p+1)=a.bytes++(b.bytes++r):=hd2.trans (List.append_assoc _ _ _);have f1:=Ld (iha (p+1) _ hd2);have hdb:s.data.toList.drop (p+1+a.bytes.length)=b.bytes++r:=by
   rw[← List.drop_drop,hd2,List.drop_left]
  have f2:=Ld (ihb _ r hdb);rw[show ((p+1+a.bytes.length:Nat):Int)=(p:Int)+1+(a.bytes.length:Int) by omega] at f2;rw[show ((p+1:Nat):Int)=(p:Int)+1 by omega] at f1;have hn1:=HV.out a;have hn2:=HU.out a;have hm1:=HV.out b;have hm2:=HU.out b;have hn3:p+1+a.bytes.length+b.bytes.length<=60:=by
   have e:=congrArg List.length hdb;have e':=congrArg List.length hd2;have:=HLS.out;simp only[List.length_drop,lA] at e e';omega
  have HF:Hid ((Lv.im a b).val V=(if b.val V=0 then 0 else max (a.val V) (b.val V))/\(Lv.im a b).bytes.length=a.bytes.length+b.bytes.length+1):=⟨rfl,by simp[Lv.bytes]⟩;clear c1 c1' hd hd2 iha ihb hdb;generalize (Lv.im a b).val V=N at HF;generalize (Lv.im a b).bytes.length=M at HF;generalize a.val V=x at f1 HF hn1;generalize b.val V=y at f2 HF hm1;generalize a.bytes.length=m at f1 f2 HF hn2 hn3;generalize b.bytes.length=k at f2 HF hm2 hn3;generalize a.ups=u at hn1 hn2;generalize b.ups=u' at hm1 hm2;by_cases hy0:y=0
  ·have dz:((y:Int)==0)=true:=(by simp[hy0]);have HY:=Ld hy0;clear hy0;go_enter Tryz.func204,Tryz.ntmps204;go_wp2_with fail;(with_reducible refine mo f1.out ?_);rintro w1 rfl;go_wp2_with fail;(with_reducible refine mo f2.out ?_);rintro w1 rfl;go_wp2;go_ret2;obtain⟨rfl,rfl⟩:=HF.out;rw[iP HY.out];exact⟨by simp<;>omega,rfl⟩
  ·have dz:((y:Int)==0)=false:=beq_eq_false_iff_ne.2 (by omega);by_cases hxy:y<x
   ·have d1:decide ((y:Int)<(x:Int))=true:=dT (by omega);have d1n:decide (y<x)=true:=dT (by omega);go_enter Tryz.func204,Tryz.ntmps204;go_wp2_with fail;(with_reducible refine mo f1.out ?_);rintro w1 rfl;go_wp2_with fail;(with_reducible refine mo f2.out ?_);rintro w1 rfl;go_wp2;go_ret2;obtain⟨rfl,rfl⟩:=HF.out;rw[iN hy0,Nat.max_eq_left (by omega)];exact⟨by simp<;>omega,rfl⟩
   ·have d1:decide ((y:Int)<(x:Int))=false:=dF (by omega);have d1n:decide (y<x)=false:=dF (by omega);go_enter Tryz.func204,Tryz.ntmps204;go_wp2_with fail;(with_reducible refine mo f1.out ?_);rintro w1 rfl;go_wp2_with fail;(with_reducible refine mo f2.out ?_);rintro w1 rfl;go_wp2;go_ret2;obtain⟨rfl,rfl⟩:=HF.out;rw[iN hy0,Nat.max_eq_right (by omega)];exact⟨by simp<;>omega,rfl⟩
theorem iC(s:ByteArray){w:World}{b:Nat}{v:Value}{vs:List Int}(h:w.ownsRow b 3 1 v vs.length (vs.map iv))(hs:s.size<=maxLen)(hn:vs.length<=10000000) :
  Calls Tryz.prog 164 #[.string s,v] w fun e w'=>e=.returned (.int .i64 (pD s.data.toList vs))/\w'=w:=by
 obtain⟨a0,cap,rfl⟩:=qI h;have f1:=Ld fun W=>vK s W hs;have f2:=Ld fun W=>sY s W hs;have hls:s.data.toList.length=s.size:=rfl;by_cases hok:zD s.data.toList=true;rotate_left
 ·have HE:Hid (pD s.data.toList vs=-1):=iN fun hc=>hok hc.1;rw[Bool.not_eq_true] at hok;rw[hok] at f1;clear hok h hls f2;go_enter Tryz.func164,Tryz.ntmps164;go_wp2_with fail;(with_reducible refine mo (f1.out _) ?_);rintro w1 rfl;go_wp2;go_ret;rw[HE.out];exact⟨rfl,rfl⟩
 have h60:=(zK hok).1;rw[hls] at h60;have hpar:zE s.data.toList=oX 0 s.data.toList:=iP hok;have HOK:=Ld hok;rw[hok] at f1;clear hok hls;by_cases h3:vs.length<=3;rotate_left
 ·have HE:Hid (pD s.data.toList vs=-1):=iN fun hc=>h3 hc.2.1;have d1:decide ((3:Int)<(vs.length:Int))=true:=dT (by omega);clear h f2 hpar;go_enter Tryz.func164,Tryz.ntmps164;go_wp2_with fail;(with_reducible refine mo (f1.out _) ?_);rintro w1 rfl;go_wp2;go_ret;rw[HE.out];exact⟨rfl,rfl⟩
 have d1:decide ((3:Int)<(vs.length:Int))=false:=dF (by omega);by_cases h4:zE s.data.toList<=vs.length;rotate_left
 ·have HE:Hid (pD s.data.toList vs=-1):=iN fun hc=>h4 hc.2.2.1;have d2:decide ((vs.length:Int)<(zE s.data.toList:Int))=true:=dT (by omega);have d2n:decide (vs.length<zE s.data.toList)=true:=dT (by omega);clear h hpar;go_enter Tryz.func164,Tryz.ntmps164;go_wp2_with fail;(with_reducible refine mo (f1.out _) ?_);rintro w1 rfl;go_wp2_with fail;(with_reducible refine mo (f2.out _) ?_);rintro w1 rfl;go_wp2;go_ret;rw[HE.out];exact⟨rfl,rfl⟩
 have d2:decide ((vs.length:Int)<(zE s.data.toList:Int))=false:=dF (by omega);have d2n:decide (vs.length<zE s.data.toList)=false:=dF (by omega);have HG:Hid (∀ i (hi:i+1<s.data.toList.length),s.data.toList[i]=117->s.data.toList[i+1].toNat - 47<=vs.length):=fun i hi he=>Nat.le_trans (cL s.data.toList 0 i hi he) (by rw[← hpar];exact h4);clear hpar;go_enter Tryz.func164,Tryz.ntmps164;go_wp2_with fail;(with_reducible refine mo (f1.out _) ?_);rintro w1 rfl;go_wp2_with fail;(with_reducible refine mo (f2.out _) ?_);rintro w1 rfl;clear f1 f2;go_wp2;go_loopw [5] (fun i wr=>∃ k:Nat,k<=vs.length/\i=.int .i64 k/\wr=w1/\Hid (∀ j (hj:j<vs.length),j<k->0<=vs[j]/\vs[j]<=1000)) (fun i _=>vs.length - (intOf i).toNat)
 case atStart=>exact⟨0,Nat.zero_le _,rfl,rfl,fun j _ hj=>by omega⟩
 case round =>
  obtain⟨k,hk,rfl,rfl,HA⟩:=hrel;by_cases hlt:k<vs.length
  ·obtain⟨g,cap',e0,_,hgl⟩:=h.form (by omega);cases e0;have ex:(vs.map iv)[k]?=some (iv vs[k]):=(by simp[hlt]);have cc:=(h.cellAt k (by omega)).trans ex;unfold iv at cc;have q1:=zn k;have q2:(k:Int)<(vs.length:Int):=(by omega);have g3:=Ld fun W=>iD vs[k] 0 1000 W;have HB:Hid ((decide ((0:Int)<=vs[k])&&decide (vs[k]<=(1000:Int)))=false->pD s.data.toList vs=-1):=fun hb=>iN fun hc=>by
    have:=hc.2.2.2 vs[k] (List.getElem_mem hlt);rw[dT this.1,dT this.2] at hb;cases hb
   have HA2:Hid ((decide ((0:Int)<=vs[k])&&decide (vs[k]<=(1000:Int)))=true->∀ j (hj:j<vs.length),j<k+1->0<=vs[j]/\vs[j]<=1000):=fun hb j hj hjk=>if e:j=k then by subst e;simpa using hb else HA.out j hj (by omega)
   clear ex HA;generalize (decide ((0:Int)<=vs[k])&&decide (vs[k]<=(1000:Int)))=ok at g3 HB HA2;generalize vs[k]=x at cc g3;cases ok
   ·have HE:=Ld (HB.out rfl);clear HB HA2;go_wp2_with fail;(with_reducible refine mo (g3.out _) ?_);rintro w2 rfl;go_wp2;go_ret;rw[HE.out];exact⟨rfl,rfl⟩
   ·have HN:=Ld (HA2.out rfl);clear HB HA2;go_wp2_with fail;(with_reducible refine mo (g3.out _) ?_);rintro w2 rfl;go_wp2;go_roundw
    case rel=>exact⟨k+1,by omega,by go_num,trivial,HN.out⟩
    case measure=>simp[intOf];omega
  ·have hall:∀ x∈vs,0<=x/\x<=1000:=fun x hm=>by
    obtain⟨j,hj,e⟩:=List.getElem_of_mem hm;rw[← e];exact HA.out j hj (by omega)
   obtain⟨t,ht⟩:=oY HOK.out;have HY:Hid (pD s.data.toList vs=(t.val (asV (vs.map Int.toNat)):Int)):=by
    have e:pD s.data.toList vs=(zI7 (vs.map Int.toNat) s.data.toList:Int):=iP ⟨HOK.out,h3,h4,hall⟩;rw[Hid,e,ht,zC6]
   have f3:=Ld (yD2 s h h60 hall h3 HG t 0 [] (by rw[ht];simp));rw[show (((0:Nat):Int))=0 by rfl] at f3;have dk:decide ((k:Int)<(vs.length:Int))=false:=dF (by omega);clear HA hall ht h;go_wp2_with fail;(with_reducible refine mo f3.out ?_);rintro w2 rfl;go_wp2;go_ret;rw[HY.out];exact⟨rfl,rfl⟩
end Go.Proofs.YtcaahdjhbmmcnaaGreatDoor
namespace Go.Proofs.YtcaahdjhbmmcnaaGreatDoor
def xH0:List (List UInt8):=[[117,48],[117,49],[117,50]]
def xG9:List (List UInt8):=[[122],[122],[122]]
def kK (t:List UInt8):Prop:=∀ n r,xW (n+1) (t++r)=(xW n r).map (·+t.length)
structure LvP (t:List UInt8):Prop where
 pos:0<t.length
 run:kK t
 same:∀ r,qG xH0 (t++r)=t++qG xH0 r
 zs:∃ t',(∀ r,qG xG9 (t++r)=t'++qG xG9 r)/\t'.length<=t.length/\kK t'/\t'.count 43=t.count 43/\117∉t'
theorem zK6:kK [122]:=fun n r=>pP n r
theorem yD9{d:UInt8}(h1:48<=d.toNat)(h2:d.toNat<=50):kK [117,d]:=fun n r=>uL n h1 h2 r
theorem zR8{t:List UInt8}(h:kK t):kK (43::t):=fun n r=>by
 rw[List.cons_append,sE,h,Option.map_map];congr 1
theorem zA6{c:UInt8}(hc:c=109\/c=105){a b:List UInt8}(ha:kK a)(hb:kK b):kK (c::(a++b)):=fun n r=>by
 rw[List.cons_append,uD n hc,List.append_assoc,ha,hb,Option.map_map,Option.map_map];congr 1
 funext x
 simp;omega
theorem LvP.z:LvP [122] where
 pos:=by decide
 run:=zK6
 same r:=vC _ (by decide) r
 zs:=⟨[122],fun r=>vC _ (by decide) r,nR _,zK6,rfl,by decide⟩
theorem LvP.par{d:UInt8}(h1:48<=d.toNat)(h2:d.toNat<=50):LvP [117,d] where
 pos:=by simp
 run:=yD9 h1 h2
 same r:=by
  have hd:d=48\/d=49\/d=50:=by
   rcases (by omega:d.toNat=48\/d.toNat=49\/d.toNat=50) with h|h|h
   ·exact .inl (UInt8.toNat_inj.1 h)
   ·exact .inr (.inl (UInt8.toNat_inj.1 h))
   ·exact .inr (.inr (UInt8.toNat_inj.1 h))
  show qG xH0 (117::d::r)=_;rw[mM];rcases hd with rfl|rfl|rfl<;>rfl
 zs:=by
  have hd:d=48\/d=49\/d=50:=by
   rcases (by omega:d.toNat=48\/d.toNat=49\/d.toNat=50) with h|h|h
   ·exact .inl (UInt8.toNat_inj.1 h)
   ·exact .inr (.inl (UInt8.toNat_inj.1 h))
   ·exact .inr (.inr (UInt8.toNat_inj.1 h))
  refine⟨[122],fun r=>?_,by simp,zK6,?_,by decide⟩
  ·show qG xG9 (117::d::r)=_;rw[mM];rcases hd with rfl|rfl|rfl<;>rfl
  ·rcases hd with rfl|rfl|rfl<;>decide
theorem LvP.up{t:List UInt8}(h:LvP t):LvP (43::t) where
 pos:=by simp
 run:=zR8 h.run
 same r:=by rw[List.cons_append,vC _ (by decide),h.same];rfl
 zs:=by
  obtain⟨t',h1,h2,h3,h4,h5⟩:=h.zs;refine⟨43::t',fun r=>by rw[List.cons_append,vC _ (by decide),h1];rfl,by simpa using h2,zR8 h3,by simp[h4],?_⟩;intro hm;rcases List.mem_cons.1 hm with e|e
  ·exact absurd e (by decide)
  ·exact h5 e
theorem LvP.two{c:UInt8}(hc:c=109\/c=105){a b:List UInt8}(ha:LvP a)(hb:LvP b):LvP (c::(a++b)) where
 pos:=by simp
 run:=zA6 hc ha.run hb.run
 same r:=by
  have h1:c≠117:=(by rcases hc with rfl|rfl<;>decide);rw[List.cons_append,vC _ h1,List.append_assoc,ha.same,hb.same];simp
 zs:=by
  have h1:c≠117:=(by rcases hc with rfl|rfl<;>decide);have h43:c≠43:=(by rcases hc with rfl|rfl<;>decide);obtain⟨a',a1,a2,a3,a4,a5⟩:=ha.zs;obtain⟨b',b1,b2,b3,b4,b5⟩:=hb.zs;refine⟨c::(a'++b'),fun r=>?_,by simp;omega,zA6 hc a3 b3,by simp[h43,a4,b4],?_⟩
  ·rw[List.cons_append,vC _ h1,List.append_assoc,a1,b1];simp
  ·intro hm;rcases List.mem_cons.1 hm with e|e
   ·exact h1 e.symm
   ·rcases List.mem_append.1 e with e|e
    ·exact a5 e
    ·exact b5 e
theorem kK.whole{t:List UInt8}(h:kK t):xW 1 t=some t.length:=by
 have:=h 0 [];rw[List.append_nil,uA] at this;simpa using this
theorem kK.ok{t:List UInt8}(h:kK t)(hl:t.length<=60):zD t=true:=by
 rw[zD,h.whole];simp[hl]
theorem zR9:∀ (l:List UInt8) (n:Nat),(∀ i (hi:i<l.length),l[i]=117->∃ hj:i+1<l.length,48<=l[i+1].toNat/\l[i+1].toNat<=50)->n<=3->oX n l<=3
|[],n,_,hn=>hn
|c::r,n,h,hn=>by
  rw[oX];refine zR9 r _ (fun i hi he=>?_) ?_
  ·obtain⟨hj,h2⟩:=h (i+1) (by simpa using hi) (by simpa using he);exact⟨by simpa using hj,by simpa using h2⟩
  ·split
   ·rename_i hc;obtain⟨hj,_,h3⟩:=h 0 (by simp) hc.1;have e:r.headD 0=(c::r)[1]:=by
     cases r with
    |nil=>simp at hj
    |cons d r=>rfl
    have h3':(c::r)[1].toNat<=50:=h3;rw[e];omega
   ·exact hn
theorem oB{l:List UInt8}:zE l<=3:=by
 unfold zE;split
 ·rename_i h;exact zR9 l 0 (pE l 1 (zK h).2) (by omega)
 ·omega
structure TwoP (a b:List UInt8):Prop where
 own:zI a xH0=some a
 zer:∃ t,zI (43::a) xG9=some t/\zE t=0/\zZ t=zZ a+1
 ok:zD a=true
 end0:zS7 (a++b) 0=a.length
 end1:zS7 (a++b) (a.length:Int)=(a.length:Int)+b.length
 ups:zZ (109::(a++b))=zZ a+zZ b
 not:zD (a++b)=false
end Go.Proofs.YtcaahdjhbmmcnaaGreatDoor
namespace Go.Proofs.YtcaahdjhbmmcnaaGreatDoor
open Go.ChangeShapes Go.WideShapes Go.ChangeAt Go.RowKit
theorem yK0{l:List UInt8}{p:Nat}(hp:p<l.length)(h:l[p]=43):(l.take (p+1)).count 43=(l.take p).count 43+1:=by
 rw[List.take_succ_eq_append_getElem hp,List.count_append,h];simp
theorem yU0{l:List UInt8}{p:Nat}(hp:p<l.length)(h:l[p]≠43):(l.take (p+1)).count 43=(l.take p).count 43:=by
 rw[List.take_succ_eq_append_getElem hp,List.count_append];simp[h]
theorem kL(s:ByteArray)(w:World)(hs:s.size<=maxLen) :
  Calls Tryz.prog 163 #[.string s] w fun e w'=>e=.returned (.int .i64 (zZ s.data.toList:Int))/\w'=w:=by
 have f1:=Ld fun W=>vK s W hs;have hls:s.data.toList.length=s.size:=rfl;unfold maxLen at hs;rcases Nat.eq_zero_or_pos s.size with h0|hpos
 ·have HE:Hid (zZ s.data.toList=0):=by
   have:s.data.toList=[]:=List.length_eq_zero_iff.1 (by omega);rw[Hid,this];simp[zZ]
  have d1:decide ((0:Int)<(s.size:Int))=false:=dF (by omega);clear hls f1;go_enter Tryz.func163,Tryz.ntmps163;go_wp2;refine wp_loop_rounds 1 ?_;rw[rounds_succ];go_wp2;go_ret;rw[HE.out];exact⟨rfl,rfl⟩
 by_cases hok:zD s.data.toList=true
 ·rw[hok] at f1;have h60:=(zK hok).1;rw[hls] at h60;have HE:Hid (zZ s.data.toList=s.data.toList.count 43):=iP hok;rw[HE.out];clear hok HE hls;go_enter Tryz.func163,Tryz.ntmps163;go_wp2;go_loopw [3,4] (fun nn i wr=>∃ p:Nat,p<=s.size/\nn=.int .i64 (((s.data.toList.take p).count 43:Nat):Int)/\i=.int .i64 p/\wr=w) (fun _ i _=>s.size - (intOf i).toNat)
  case atStart=>exact⟨0,Nat.zero_le _,rfl,rfl,rfl⟩
  case round =>
   obtain⟨p,hp,rfl,rfl,rfl⟩:=hrel;by_cases hlt:p<s.size
   ·have hll:p<s.data.toList.length:=hlt;have q1:=zn p;have q2:(p:Int)<(s.size:Int):=(by omega);have hcl:(s.data.toList.take p).count 43<=p:=Nat.le_trans List.count_le_length (by simp;omega);by_cases c1:s[p]=43
    ·have e1:((s[p].toNat:Int)==43)=true:=yH c1;have HC:=Ld (yK0 hll c1);clear c1;generalize (s.data.toList.take p).count 43=n at HC hcl;go_wp2_with fail;(with_reducible refine mo (f1.out _) ?_);rintro w1 rfl;go_wp2;go_roundw
     case rel=>exact⟨p+1,by omega,by rw[HC.out];simp,by go_num,trivial⟩
     case measure=>simp[intOf];omega
    ·have e1:((s[p].toNat:Int)==43)=false:=zQ c1;have HC:=Ld (yU0 hll c1);clear c1;generalize (s.data.toList.take p).count 43=n at HC hcl;go_wp2_with fail;(with_reducible refine mo (f1.out _) ?_);rintro w1 rfl;go_wp2;go_roundw
     case rel=>exact⟨p+1,by omega,by rw[HC.out],by go_num,trivial⟩
     case measure=>simp[intOf];omega
   ·have hpe:p=s.size:=(by omega);have HE:Hid ((s.data.toList.take p).count 43=s.data.toList.count 43):=by
     rw[Hid,List.take_of_length_le (by show s.size<=p;omega)]
    rw[HE.out];have d1:decide ((p:Int)<(s.size:Int))=false:=dF (by omega);go_wp2;go_ret;exact⟨rfl,rfl⟩
 ·rw[Bool.not_eq_true] at hok;rw[hok] at f1;have HE:Hid (zZ s.data.toList=0):=iN (by rw[hok];decide);have d1:decide ((0:Int)<(s.size:Int))=true:=dT (by omega);clear hls hok;go_enter Tryz.func163,Tryz.ntmps163;go_wp2;refine wp_loop_rounds 1 ?_;rw[rounds_succ];go_wp2_with fail;(with_reducible refine mo (f1.out _) ?_);rintro w1 rfl;go_wp2;go_ret;rw[HE.out];exact⟨rfl,rfl⟩
def zL1 (x:Nat):Value:=iv (x:Int)
def yL8 (r:Option (List Nat)) (w:World) (e:Ending) (w':World):Prop :=
 ∃ v,e=.returned (.tuple #[v,.bool r.isSome])/\w'.ownsRow w.heap.size 3 1 v (r.getD []).length ((r.getD []).map zL1)/\Below w.heap.size w w'
theorem qE{k:Nat}(hk:2<=k)(i:Nat):vJ k i<=k:=by unfold vJ;split;omega;split<;>omega
theorem zQ8{x y z k:Nat}(hy:y<3)(hz:z<3):yP k (9*x+3*y+z)=[vJ k x,vJ k y,vJ k z]:=by
 rw[yP,show (9*x+3*y+z) / 9=x by omega,show (9*x+3*y+z) / 3 % 3=y by omega,show (9*x+3*y+z) % 3=z by omega]
theorem yA2{a b:List UInt8}{i:Nat}(ha:zD a=true)(hb:zD b=true)(hi:i<27)
  (h1:∀ j,j<i->mA a b (yP (2+zZ a+zZ b) j)=false) (h2:mA a b (yP (2+zZ a+zZ b) i)=true) :
  xL a b=some (yP (2+zZ a+zZ b) i):=by
 rw[xL,iP ⟨ha,hb⟩];have:aI a b=some i:=by
  rw[aI,List.find?_range_eq_some];exact⟨h2,by simpa using hi,fun j hj=>by rw[h1 j hj];rfl⟩
 rw[this];rfl
theorem yM7{a b:List UInt8}(h1:∀ j,j<27->mA a b (yP (2+zZ a+zZ b) j)=false):xL a b=none:=by
 rw[xL];split
 ·have:aI a b=none:=by
   rw[aI,List.find?_eq_none];intro j hj;rw[h1 j (List.mem_range.1 hj)]
   decide
  rw[this];rfl
 ·rfl
theorem hH{l:List UInt8}{vs:List Nat}(ho:zD l=true)(h3:vs.length=3)(hp:zE l<=3)(hv:∀ x∈vs,x<=1000):pD l (vs.map fun (x:Nat)=>(x:Int))=(zI7 vs l:Int):=by
 rw[pD,iP,List.map_map]
 ·congr 2;exact(List.map_congr_left (fun x _=>by simp)).trans (List.map_id _)
 ·refine⟨ho,by simp[h3],by simpa [h3] using hp,?_⟩;intro x hx;obtain⟨y,hy,rfl⟩:=List.mem_map.1 hx;have:=hv y hy;omega
theorem jH(a b:ByteArray)(w:World)(ha:a.size<=maxLen)(hb:b.size<=maxLen) :
  Calls Tryz.prog 118 #[.string a,.string b] w (yL8 (xL a.data.toList b.data.toList) w):=by
 have f1:=Ld fun W=>vK a W ha;have f2:=Ld fun W=>vK b W hb;by_cases ho:zD a.data.toList=true;rotate_left
 ·have HE:Hid (xL a.data.toList b.data.toList=none):=iN fun hc=>ho hc.1;rw[Bool.not_eq_true] at ho;rw[ho] at f1;clear ho f2;have r1:=World.ownsRow_lit (base:=w.heap.size) (e:=3) (size:=1) w #[] 0 (nR _) (by decide) (by simp);have b1:=(bR w.heap.size w).alloc (nR _) (.cells #[] 3);go_enter Tryz.func118,Tryz.ntmps118;go_wp2_with fail;(with_reducible refine mo (f1.out _) ?_);rintro w1 rfl;go_wp2;go_ret2;rw[HE.out];exact⟨_,rfl,r1,b1⟩
 have ha60:a.size<=60:=(zK ho).1;have HOa:=Ld ho;rw[ho] at f1;clear ho;by_cases ho:zD b.data.toList=true;rotate_left
 ·have HE:Hid (xL a.data.toList b.data.toList=none):=iN fun hc=>ho hc.2;rw[Bool.not_eq_true] at ho;rw[ho] at f2;clear ho;have r1:=World.ownsRow_lit (base:=w.heap.size) (e:=3) (size:=1) w #[] 0 (nR _) (by decide) (by simp);have b1:=(bR w.heap.size w).alloc (nR _) (.cells #[] 3);go_enter Tryz.func118,Tryz.ntmps118;go_wp2_with fail;(with_reducible refine mo (f1.out _) ?_);rintro w1 rfl;go_wp2_with fail;(with_reducible refine mo (f2.out _) ?_);rintro w1 rfl;go_wp2;go_ret2;rw[HE.out];exact⟨_,rfl,r1,b1⟩
 have hb60:b.size<=60:=(zK ho).1;have HOb:=Ld ho;rw[ho] at f2;clear ho;have f3:=Ld fun W=>kL a W ha;have f4:=Ld fun W=>kL b W hb;have hua:zZ a.data.toList<=60:=by
  have:a.data.toList.length=a.size:=rfl;unfold zZ;split
  ·exact Nat.le_trans List.count_le_length (by omega)
  ·omega
 have hub:zZ b.data.toList<=60:=by
  have:b.data.toList.length=b.size:=rfl;unfold zZ;split
  ·exact Nat.le_trans List.count_le_length (by omega)
  ·omega
 have HFnd:=Ld fun i hi h1 h2=>yA2 (a:=a.data.toList) (b:=b.data.toList) (i:=i) HOa.out HOb.out hi h1 h2;have HNon:=Ld fun h1=>yM7 (a:=a.data.toList) (b:=b.data.toList) h1;generalize zZ a.data.toList=ua at f3 hua HFnd HNon;generalize zZ b.data.toList=ub at f4 hub HFnd HNon;go_enter Tryz.func118,Tryz.ntmps118;go_wp2_with fail;(with_reducible refine mo (f1.out _) ?_);rintro w1 rfl;go_wp2_with fail;(with_reducible refine mo (f2.out _) ?_);rintro w2 rfl;go_wp2_with fail;(with_reducible refine mo (f3.out _) ?_);rintro w3 rfl;go_wp2_with fail;(with_reducible refine mo (f4.out _) ?_);rintro w4 rfl;clear f1 f2 f3 f4;obtain⟨K,hK⟩:∃ K,2+ua+ub=K:=⟨_,rfl⟩;have hK2:2<=K:=by omega
 have hKm:K<=122:=by omega
 rw[hK] at HFnd HNon;have hKK:(2:Int)+(ua:Int)+(ub:Int)=(K:Int):=by omega
 clear hK;go_wp2_with fail;clear hKK
 rename World=>w0
 have r0:=World.ownsRow_lit (base:=w0.heap.size) (e:=3) (size:=1) w0 #[.int .i64 0,.int .i64 1,.int .i64 (K:Int)] 3 (nR _) (by decide) (by simp);have b0:=(bR w0.heap.size w0).alloc (nR _) (.cells #[.int .i64 0,.int .i64 1,.int .i64 (K:Int)] 3);go_loopw [7] (fun i wr=>∃ x:Nat,x<=3/\i=.int .i64 x/\wr.ownsRow w0.heap.size 3 1 (.slice (some ⟨w0.heap.size,0,none⟩) 3 3) 3 [.int .i64 0,.int .i64 1,.int .i64 (K:Int)]/\Below w0.heap.size w0 wr/\Hid (∀ j,j<9*x->mA a.data.toList b.data.toList (yP K j)=false)) (fun i _=>3 - (intOf i).toNat)
 case atStart=>exact⟨0,by omega,rfl,r0,b0,fun j hj=>by omega⟩
 case round =>
  obtain⟨x,hx,rfl,hown,hbel,HA⟩:=hrel;clear r0 b0;by_cases hx3:x<3
  ·rename World=>w1
   have d1:decide ((x:Int)<3)=true:=dT (by omega);go_wp2;go_loopw [8] (fun i wr=>∃ y:Nat,y<=3/\i=.int .i64 y/\wr.ownsRow w0.heap.size 3 1 (.slice (some ⟨w0.heap.size,0,none⟩) 3 3) 3 [.int .i64 0,.int .i64 1,.int .i64 (K:Int)]/\Below w0.heap.size w0 wr/\Hid (∀ j,j<9*x+3*y->mA a.data.toList b.data.toList (yP K j)=false)) (fun i _=>3 - (intOf i).toNat)
   case atStart=>exact⟨0,by omega,rfl,hown,hbel,fun j hj=>HA.out j (by omega)⟩
   case round =>
    clear hown hbel HA;obtain⟨y,hy,rfl,hown,hbel,HA⟩:=hrel;by_cases hy3:y<3
    ·rename World=>w2
     have d2:decide ((y:Int)<3)=true:=dT (by omega);go_wp2;go_loopw [9] (fun i wr=>∃ z:Nat,z<=3/\i=.int .i64 z/\wr.ownsRow w0.heap.size 3 1 (.slice (some ⟨w0.heap.size,0,none⟩) 3 3) 3 [.int .i64 0,.int .i64 1,.int .i64 (K:Int)]/\Below w0.heap.size w0 wr/\Hid (∀ j,j<9*x+3*y+z->mA a.data.toList b.data.toList (yP K j)=false)) (fun i _=>3 - (intOf i).toNat)
     case atStart=>exact⟨0,by omega,rfl,hown,hbel,fun j hj=>HA.out j (by omega)⟩
     case round =>
      clear hown hbel HA;obtain⟨z,hz,rfl,hown,hbel,HA⟩:=hrel;by_cases hz3:z<3
      ·have d3:decide ((z:Int)<3)=true:=dT (by omega);have row:∀ i,i<3->wr.cell? ⟨w0.heap.size,i,none⟩=some (.int .i64 (vJ K i:Int)):=fun i hi=>by
        have:=hown.cellAt i (by omega);rw[this];have:i=0\/i=1\/i=2:=(by omega);rcases this with rfl|rfl|rfl<;>rfl
       have cx:=row x hx3;have cy:=row y hy3;have cz:=row z hz3;have tx:=qE hK2 x;have ty:=qE hK2 y;have tz:=qE hK2 z;have HT:=Ld (zQ8 (x:=x) (k:=K) hy3 hz3);clear row;generalize vJ K x=X at cx tx HT;generalize vJ K y=Y at cy ty HT;generalize vJ K z=Z at cz tz HT;have q1:=zn x;have q2:(x:Int)<3:=(by omega);have q3:=zn y;have q4:(y:Int)<3:=(by omega);have q5:=zn z;have q6:(z:Int)<3:=(by omega);go_wp2_with fail;go_still_tail 12,(by kernel_rfl);change wpList _ _ _ _ _ wr.drew;have hbel1:=hbel.drew;have hown1:wr.drew.ownsRow w0.heap.size 3 1 (.slice (some ⟨w0.heap.size,0,none⟩) 3 3) 3 [.int .i64 0,.int .i64 1,.int .i64 (K:Int)]:=hown.drew;clear hown hbel cx cy cz;generalize wr.drew=wd at hown1 hbel1;have r1:=World.ownsRow_lit (base:=w0.heap.size) (e:=3) (size:=1) wd #[.int .i64 (X:Int),.int .i64 (Y:Int),.int .i64 (Z:Int)] 3 hbel1.size (by decide) (by simp);have b1:=(bR wd.heap.size wd).alloc (nR _) (.cells #[.int .i64 (X:Int),.int .i64 (Y:Int),.int .i64 (Z:Int)] 3);have hown2:=Ld (zA hown1 b1);have hbel2:=bt hbel1 b1;have R1:=Ld r1;have e3:[X,Y,Z].length=3:=rfl;have em:([X,Y,Z].map fun (x:Nat)=>(x:Int))=[(X:Int),(Y:Int),(Z:Int)]:=rfl;have hv:∀ x∈[X,Y,Z],x<=1000:=fun x hx=>by
        simp only[List.mem_cons,List.not_mem_nil,or_false] at hx;rcases hx with rfl|rfl|rfl<;>omega
       have g1:=iC a (vs:=[(X:Int),(Y:Int),(Z:Int)]) r1 ha (by simp);have g2:=iC b (vs:=[(X:Int),(Y:Int),(Z:Int)]) r1 hb (by simp);rw[← em,hH HOa.out e3 oB hv] at g1;rw[← em,hH HOb.out e3 oB hv] at g2;have G1:=Ld g1;have G2:=Ld g2;have HP:Hid (mA a.data.toList b.data.toList (yP K (9*x+3*y+z))=decide (zI7 [X,Y,Z] b.data.toList<zI7 [X,Y,Z] a.data.toList)):=(by rw[Hid,HT.out];rfl);clear g1 g2 r1 b1 hown1 hbel1 em e3 hv;generalize zI7 [X,Y,Z] a.data.toList=m at G1 HP;generalize zI7 [X,Y,Z] b.data.toList=n at G2 HP;by_cases hmn:n<m
       ·have HW:=Ld (HFnd.out (9*x+3*y+z) (by omega) HA.out (by rw[HP.out];exact dT hmn));rw[HT.out] at HW;have d4:decide ((n:Int)<(m:Int))=true:=dT (by omega);have d4n:decide (n<m)=true:=dT (by omega);clear HP HT HFnd HNon HA;go_wp2_with fail;(with_reducible refine mo G1.out ?_);rintro w5 rfl;go_wp2_with fail;(with_reducible refine mo G2.out ?_);rintro w5 rfl;go_wp2;go_ret2;rw[HW.out];exact⟨_,rfl,R1.out,hbel2.out⟩
       ·have HA2:Hid (∀ j,j<9*x+3*y+(z+1)->mA a.data.toList b.data.toList (yP K j)=false):=fun j hj=>by
         by_cases e:j=9*x+3*y+z
         ·subst e;rw[HP.out];exact dF hmn
         ·exact HA.out j (by omega)
        have d4:decide ((n:Int)<(m:Int))=false:=dF (by omega);have d4n:decide (n<m)=false:=dF (by omega);clear HP HT HFnd HNon HA;go_wp2_with fail;(with_reducible refine mo G1.out ?_);rintro w5 rfl;go_wp2_with fail;(with_reducible refine mo G2.out ?_);rintro w5 rfl;go_wp2;go_roundw
        case rel=>exact⟨z+1,by omega,by go_num,hown2.out,hbel2.out,HA2.out⟩
        case measure=>simp[intOf];omega
      ·have d3:decide ((z:Int)<3)=false:=dF (by omega);have HA2:Hid (∀ j,j<9*x+3*(y+1)->mA a.data.toList b.data.toList (yP K j)=false):=fun j hj=>HA.out j (by omega);clear HA;go_wp2;go_roundw
       case rel=>exact⟨y+1,by omega,by go_num,hown,hbel,HA2.out⟩
       case measure=>simp[intOf];omega
    ·have d2:decide ((y:Int)<3)=false:=dF (by omega);have HA2:Hid (∀ j,j<9*(x+1)->mA a.data.toList b.data.toList (yP K j)=false):=fun j hj=>HA.out j (by omega);clear HA;go_wp2;go_roundw
     case rel=>exact⟨x+1,by omega,by go_num,hown,hbel,HA2.out⟩
     case measure=>simp[intOf];omega
  ·have HE:=Ld (HNon.out fun j hj=>HA.out j (by omega));have d1:decide ((x:Int)<3)=false:=dF (by omega);clear HA HFnd HNon;go_wp2;go_ret2;rw[HE.out];exact⟨_,rfl,World.ownsRow_lit (base:=w0.heap.size) (e:=3) (size:=1) wr #[] 0 hbel.size (by decide) (by simp),hbel.alloc hbel.size _⟩
end Go.Proofs.YtcaahdjhbmmcnaaGreatDoor
