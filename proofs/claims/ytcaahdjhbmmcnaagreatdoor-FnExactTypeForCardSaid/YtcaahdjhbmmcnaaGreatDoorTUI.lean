/- UI1P UDrP UI2 UI3 VSC VU UI4 -/
import Derived.Lib.MinMax
import Derived.Laws.AppendOwnNone
import Derived.StillTailTactics
import Derived.Laws.Cover3
import Derived.Shelf.Strings.Count
import Derived.Test.YtcaahdjhbmmcnaaGreatDoorProg
import Derived.Test.YtcaahdjhbmmcnaaGreatDoorTP4
import Derived.Test.YtcaahdjhbmmcnaaGreatDoorTJ0
import Derived.Test.YtcaahdjhbmmcnaaGreatDoorTP2
set_option maxRecDepth 100000
set_option maxHeartbeats 16000000
set_option linter.unusedSimpArgs false
set_option linter.unusedVariables false
namespace Go.Proofs.YtcaahdjhbmmcnaaGreatDoor
open Go.ChangeShapes Go.WideShapes Go.ChangeAt Go.RowKit
theorem bD(s:ByteArray){w:World}{b:Nat}{v:Value}{vs:List Int}(h:w.ownsRow b 3 1 v vs.length (vs.map iv))(hs:s.size<=60)(hv:∀ x∈vs,0<=x/\x<=1000)(hn:vs.length<=3)
  (HG:Hid (∀ i (hi:i+1<s.data.toList.length),s.data.toList[i]=117->s.data.toList[i+1].toNat - 47<=vs.length)) :
  ∀ (t:Lv) (p:Nat) (r:List UInt8),s.data.toList.drop p=t.bytes++r->Calls Tryz.prog 250 #[.string s,.int .i64 (p:Int),v] w fun e w'=>e=.returned (.tuple #[.int .i64 (t.val (asV (vs.map Int.toNat)):Int),.int .i64 ((p+t.bytes.length:Nat):Int)])/\w'=w:=by
 have HV:=Ld (Lv.val_le (zT6 hv));have HU:=Ld Lv.ups_lt;have HA:=Ld (yW5 hv);have HL:=Ld (zT6 hv);have HLS:Hid (s.data.toList.length=s.size):=rfl;generalize asV (vs.map Int.toNat)=V at HV HA HL;have HVS:=Ld hv;clear hv;intro t
 induction t with
|z =>
  intro p r hd;obtain⟨hp,c1,_⟩:=sF hd;have hp':p<s.size:=hp;have c1':s[p]=122:=c1;have q1:=zn p;have q2:(p:Int)<(s.size:Int):=(by omega);have e1:((s[p].toNat:Int)==122)=true:=yH c1';clear c1 c1' hd;go_enter Tryz.func250,Tryz.ntmps250;go_wp2;go_ret2;exact⟨rfl,rfl⟩
|par k =>
  intro p r hd;obtain⟨hp,c1,hd2⟩:=sF hd;obtain⟨hp2,c2,_⟩:=sF hd2;have hp':p<s.size:=hp;have hp2':p+1<s.size:=hp2;have c1':s[p]=117:=c1;have hge:=HG.out p hp2 c1;have hb:=(Lv.par_byte k).2.2;have hb1:=(Lv.par_byte k).1;rw[← c2] at hb hb1;have hb':s[p+1].toNat - 48=k.val:=hb;have hb1':48<=s[p+1].toNat:=hb1;have hge':s[p+1].toNat - 47<=vs.length:=hge;have q1:=zn p;have q2:(p:Int)<(s.size:Int):=(by omega);have q3:(0:Int)<=(p:Int)+1:=(by omega);have q4:(p:Int)+1<(s.size:Int):=(by omega);have e1:((s[p].toNat:Int)==117)=true:=yH c1';have fp:=Ld fun W=>nV s[p+1] W hb1';rw[hb'] at fp;have e0:((s[p].toNat:Int)==122)=false:=zQ (d:=122) (by rw[c1'];decide);have hkl:k.val<vs.length:=(by omega);have e3:s[p+1].toNat=k.val+48:=(by omega);obtain⟨g,cap,rfl,_,hgl⟩:=h.form (by omega);have ex:(vs.map iv)[k.val]?=some (iv (V k:Int)):=(by simp[hkl,HA.out k hkl]);have cc:=(h.cellAt k.val (by omega)).trans ex;unfold iv at cc;have q5:(0:Int)<=(k.val:Int):=(by omega);have q6:(k.val:Int)<(vs.length:Int):=(by omega);clear c1 c1' hd hd2 c2 hb hb1 hge ex h hb' e3 hge';go_enter Tryz.func250,Tryz.ntmps250;go_wp2_with fail;(with_reducible refine mo (fp.out _) ?_);rintro w1 rfl;go_wp2;go_ret2;exact⟨rfl,rfl⟩
|up t ih =>
  intro p r hd;obtain⟨hp,c1,hd2⟩:=sF hd;have hp':p<s.size:=hp;have c1':s[p]=43:=c1;have q1:=zn p;have q2:(p:Int)<(s.size:Int):=(by omega);have e1:((s[p].toNat:Int)==43)=true:=yH c1';have e0:((s[p].toNat:Int)==122)=false:=zQ (d:=122) (by rw[c1'];decide);have e2:((s[p].toNat:Int)==117)=false:=zQ (d:=117) (by rw[c1'];decide);have hd2:s.data.toList.drop (p+1)=t.bytes++r:=hd2;have f1:=Ld (ih (p+1) r hd2);rw[show ((p+1:Nat):Int)=(p:Int)+1 by omega] at f1;have hn1:=HV.out t;have hn2:=HU.out t;have hn3:t.bytes.length<=60:=by
   have e:=congrArg List.length hd2;have:=HLS.out;simp only[List.length_drop,lA] at e;omega
  have HF:Hid ((Lv.up t).val V=t.val V+1/\(Lv.up t).bytes.length=t.bytes.length+1):=⟨rfl,rfl⟩;clear c1 c1' hd hd2 ih;generalize (Lv.up t).val V=N at HF;generalize (Lv.up t).bytes.length=M at HF;generalize t.val V=n at f1 HF hn1;generalize t.bytes.length=m at f1 HF hn2 hn3;generalize t.ups=u at hn1 hn2;go_enter Tryz.func250,Tryz.ntmps250;go_wp2_with fail;(with_reducible refine mo f1.out ?_);rintro w1 rfl;go_wp2;go_ret2;obtain⟨rfl,rfl⟩:=HF.out;exact⟨by simp<;>omega,rfl⟩
|mx a b iha ihb =>
  intro p r hd;obtain⟨hp,c1,hd2⟩:=sF hd;have hp':p<s.size:=hp;have c1':s[p]=109:=c1;have q1:=zn p;have q2:(p:Int)<(s.size:Int):=(by omega);have e3:((s[p].toNat:Int)==105)=false:=zQ (d:=105) (by rw[c1'];decide);have e0:((s[p].toNat:Int)==122)=false:=zQ (d:=122) (by rw[c1'];decide);have e2:((s[p].toNat:Int)==117)=false:=zQ (d:=117) (by rw[c1'];decide);have e1:((s[p].toNat:Int)==43)=false:=zQ (d:=43) (by rw[c1'];decide);have hd2:s.data.toList.drop (p+1)=a.bytes++(b.bytes++r):=hd2.trans (List.append_assoc _ _ _);have f1:=Ld (iha (p+1) _ hd2);have hdb:s.data.toList.drop (p+1+a.bytes.length)=b.bytes++r:=by
   rw[← List.drop_drop,hd2,List.drop_left]
  have f2:=Ld (ihb _ r hdb);rw[show ((p+1+a.bytes.length:Nat):Int)=(p:Int)+1+(a.bytes.length:Int) by omega] at f2;rw[show ((p+1:Nat):Int)=(p:Int)+1 by omega] at f1;have hn1:=HV.out a;have hn2:=HU.out a;have hm1:=HV.out b;have hm2:=HU.out b;have hn3:p+1+a.bytes.length+b.bytes.length<=60:=by
   have e:=congrArg List.length hdb;have e':=congrArg List.length hd2;have:=HLS.out;simp only[List.length_drop,lA] at e e';omega
  have HF:Hid ((Lv.mx a b).val V=max (a.val V) (b.val V)/\(Lv.mx a b).bytes.length=a.bytes.length+b.bytes.length+1):=⟨rfl,by simp[Lv.bytes]⟩;clear c1 c1' hd hd2 iha ihb hdb;generalize (Lv.mx a b).val V=N at HF;generalize (Lv.mx a b).bytes.length=M at HF;generalize a.val V=x at f1 HF hn1;generalize b.val V=y at f2 HF hm1;generalize a.bytes.length=m at f1 f2 HF hn2 hn3;generalize b.bytes.length=k at f2 HF hm2 hn3;generalize a.ups=u at hn1 hn2;generalize b.ups=u' at hm1 hm2;have hmax:max (x:Int) (y:Int)=((max x y:Nat):Int):=(by omega);go_enter Tryz.func250,Tryz.ntmps250;go_wp2_with fail;(with_reducible refine mo f1.out ?_);rintro w1 rfl;go_wp2_with fail;(with_reducible refine mo f2.out ?_);rintro w1 rfl;go_wp2;go_ret2;obtain⟨rfl,rfl⟩:=HF.out;exact⟨by simp<;>omega,rfl⟩
|im a b iha ihb =>
  intro p r hd;obtain⟨hp,c1,hd2⟩:=sF hd;have hp':p<s.size:=hp;have c1':s[p]=105:=c1;have q1:=zn p;have q2:(p:Int)<(s.size:Int):=(by omega);have e3:((s[p].toNat:Int)==105)=true:=yH c1';have e0:((s[p].toNat:Int)==122)=false:=zQ (d:=122) (by rw[c1'];decide);have e2:((s[p].toNat:Int)==117)=false:=zQ (d:=117) (by rw[c1'];decide);have e1:((s[p].toNat:Int)==43)=false:=zQ (d:=43) (by rw[c1'];decide);have hd2:s.data.toList.drop (p+1)=a.bytes++(b.bytes++r):=hd2.trans (List.append_assoc _ _ _);have f1:=Ld (iha (p+1) _ hd2);have hdb:s.data.toList.drop (p+1+a.bytes.length)=b.bytes++r:=by
   rw[← List.drop_drop,hd2,List.drop_left]
  have f2:=Ld (ihb _ r hdb);rw[show ((p+1+a.bytes.length:Nat):Int)=(p:Int)+1+(a.bytes.length:Int) by omega] at f2;rw[show ((p+1:Nat):Int)=(p:Int)+1 by omega] at f1;have hn1:=HV.out a;have hn2:=HU.out a;have hm1:=HV.out b;have hm2:=HU.out b;have hn3:p+1+a.bytes.length+b.bytes.length<=60:=by
   have e:=congrArg List.length hdb;have e':=congrArg List.length hd2;have:=HLS.out;simp only[List.length_drop,lA] at e e';omega
  have HF:Hid ((Lv.im a b).val V=(if b.val V=0 then 0 else max (a.val V) (b.val V))/\(Lv.im a b).bytes.length=a.bytes.length+b.bytes.length+1):=⟨rfl,by simp[Lv.bytes]⟩;clear c1 c1' hd hd2 iha ihb hdb;generalize (Lv.im a b).val V=N at HF;generalize (Lv.im a b).bytes.length=M at HF;generalize a.val V=x at f1 HF hn1;generalize b.val V=y at f2 HF hm1;generalize a.bytes.length=m at f1 f2 HF hn2 hn3;generalize b.bytes.length=k at f2 HF hm2 hn3;generalize a.ups=u at hn1 hn2;generalize b.ups=u' at hm1 hm2;by_cases hy0:y=0
  ·have dz:((y:Int)==0)=true:=(by simp[hy0]);have HY:=Ld hy0;clear hy0;go_enter Tryz.func250,Tryz.ntmps250;go_wp2_with fail;(with_reducible refine mo f1.out ?_);rintro w1 rfl;go_wp2_with fail;(with_reducible refine mo f2.out ?_);rintro w1 rfl;go_wp2;go_ret2;obtain⟨rfl,rfl⟩:=HF.out;rw[iP HY.out];exact⟨by simp<;>omega,rfl⟩
  ·have dz:((y:Int)==0)=false:=beq_eq_false_iff_ne.2 (by omega);have hmax:max (x:Int) (y:Int)=((max x y:Nat):Int):=(by omega);go_enter Tryz.func250,Tryz.ntmps250;go_wp2_with fail;(with_reducible refine mo f1.out ?_);rintro w1 rfl;go_wp2_with fail;(with_reducible refine mo f2.out ?_);rintro w1 rfl;go_wp2;go_ret2;obtain⟨rfl,rfl⟩:=HF.out;rw[iN hy0];exact⟨by simp<;>omega,rfl⟩
theorem yQ4(l:List Int):∀ u∈l.map iv,u.oneCell'=true:=by
 intro u hu;obtain⟨x,_,rfl⟩:=List.mem_map.1 hu;rfl
theorem zI1{W:World}{ops:Array Oper}{rest:List Oper}{o:Oper}{a:Act}{Q:Exit->Act->World->Prop}(hgd:Region.wanted o (yielded ops a.tmps)=true)(s x:Operand)
  (ho:o.op=.call { callee:=.builtin .append,args:=#[s,x],argTypes:=#[147,147] })
  (hs:a.eval s=.slice (some ⟨W.heap.size,0,none⟩) 0 0) (bx:Nat) (vx:Value) (l:List Int) (hx:a.eval x=vx) (hrow:W.ownsRow bx 3 1 vx l.length (l.map iv))
  (hpos:0<l.length) (h63:l.length<=1000000)
  (h:∀ v' w',w'.ownsRow W.heap.size 3 1 v' l.length (l.map iv)->Below W.heap.size W w'->wpList Tryz.prog ops Q rest (a.put o.dst v') w'):wpList Tryz.prog ops Q (o::rest) a (W.alloc (.cells #[] 3)):=by
 have b0:=(bR W.heap.size W).alloc (nR _) (.cells #[] 3);obtain⟨i0,hi,hz0,hz1,hz2⟩:=info_parts hZ;obtain⟨g,cap,rfl,_,hgl⟩:=hrow.form hpos;have r0:=World.ownsRow_lit (base:=W.heap.size) (e:=3) (size:=1) W #[] 0 (nR _) (by decide) (by simp);refine wpList_step fun K hK=>?_;rw[iP hgd];refine wp_append_own _ s x 147 ho W.heap.size 3 i0 _ 1 8 Tryz.underlying147 hi hz0 hz1 hz2 rfl (by decide) _ 0 [] hs r0 ⟨g,0,none⟩ l.length cap (l.map iv) hx (by simp) ((hrow.alloc _).cells rfl) (yQ4 l) (by unfold maxLen;omega) (by omega) (by simp) ?_;intro v' w' h1 h2 h3;refine hK _ _ (h v' w' (by simpa using h1) (b0.grown h2 b0.size fun k hk=>?_));cases hk;exact nR _
def zR2 (x y:Int):Int:=if x<y then -1 else if y<x then 1 else 0
theorem zP3(x y:Int)(w:World) :
  Calls Tryz.prog 263 #[.int .i64 x,.int .i64 y] w fun e w'=>e=.returned (.int .i64 (zR2 x y))/\w'=w:=by
 have hx:∀ (z:Int) (W:World),Calls Tryz.prog 278 #[.int .i64 z] W fun e w'=>e=.returned (.bool false)/\w'=W:=fun z W=>by
  go_enter Tryz.func278,Tryz.ntmps278;go_wp2;go_ret;exact⟨by simp,rfl⟩
 have f1:=Ld (hx x);have f2:=Ld (hx y);clear hx;by_cases h1:x<y
 ·have d1:decide (x<y)=true:=dT h1;have HE:Hid (zR2 x y=-1):=iP h1;go_enter Tryz.func263,Tryz.ntmps263;go_wp2_with fail;(with_reducible refine mo (f1.out _) ?_);rintro w1 rfl;go_wp2_with fail;(with_reducible refine mo (f2.out _) ?_);rintro w1 rfl;go_wp2;go_ret;rw[HE.out];exact⟨rfl,rfl⟩
 ·have d1:decide (x<y)=false:=dF h1;by_cases h2:y<x
  ·have d2:decide (y<x)=true:=dT h2;have HE:Hid (zR2 x y=1):=(by rw[Hid,zR2,iN h1,iP h2]);go_enter Tryz.func263,Tryz.ntmps263;go_wp2_with fail;(with_reducible refine mo (f1.out _) ?_);rintro w1 rfl;go_wp2_with fail;(with_reducible refine mo (f2.out _) ?_);rintro w1 rfl;go_wp2;go_ret;rw[HE.out];exact⟨rfl,rfl⟩
  ·have d2:decide (y<x)=false:=dF h2;have HE:Hid (zR2 x y=0):=(by rw[Hid,zR2,iN h1,iN h2]);go_enter Tryz.func263,Tryz.ntmps263;go_wp2_with fail;(with_reducible refine mo (f1.out _) ?_);rintro w1 rfl;go_wp2_with fail;(with_reducible refine mo (f2.out _) ?_);rintro w1 rfl;go_wp2;go_ret;rw[HE.out];exact⟨rfl,rfl⟩
def yU3:List Int->List Int->Int
|[],[]=>0
|[],_::_=>-1
|_::_,[]=>1
|x::a,y::b=>if zR2 x y=0 then yU3 a b else zR2 x y
theorem fQ{w:World}{b1 b2 n:Nat}{v1 v2:Value}{l m:List Int}(h1:w.ownsRow b1 3 1 v1 n (l.map iv))(h2:w.ownsRow b2 3 1 v2 n (m.map iv))(hp:0<n)(hn:n<=1000000000) :
  Calls Tryz.prog 249 #[v1,v2] w fun e w'=>e=.returned (.int .i64 (yU3 l m))/\w'=w:=by
 have hl:l.length=n:=by simpa using h1.1
 have hm:m.length=n:=by simpa using h2.1
 obtain⟨g1,c1,rfl,_,_⟩:=h1.form hp;obtain⟨g2,c2,rfl,_,_⟩:=h2.form hp;have fc:=Ld zP3;go_enter Tryz.func249,Tryz.ntmps249;go_wp2;go_loopw [11] (fun i wr=>∃ k:Nat,k<=n/\i=.int .i64 k/\wr=w/\Hid (yU3 l m=yU3 (l.drop k) (m.drop k))) (fun i _=>n - (intOf i).toNat)
 case atStart=>exact⟨0,Nat.zero_le _,rfl,rfl,rfl⟩
 case round =>
  obtain⟨k,hk,rfl,rfl,HC⟩:=hrel;by_cases hlt:k<n
  ·have e1:=h1.cellAt k (by omega);have e2:=h2.cellAt k (by omega);rw[show (l.map iv)[k]?=some (iv (l[k]'(by omega))) by simp[show k<l.length by omega]] at e1;rw[show (m.map iv)[k]?=some (iv (m[k]'(by omega))) by simp[show k<m.length by omega]] at e2;have HD:=HC.out;rw[List.drop_eq_getElem_cons (show k<l.length by omega),List.drop_eq_getElem_cons (show k<m.length by omega),yU3] at HD;have HD:=Ld HD;generalize l[k]'(by omega)=x at e1 HD;generalize m[k]'(by omega)=y at e2 HD;clear h1 h2 HC;unfold iv at e1 e2;have q1:=zn k;have q2:(k:Int)<(n:Int):=(by omega);have d0:decide ((n:Int)<=(k:Int))=false:=dF (by omega);have d0n:decide (n<=k)=false:=dF (by omega);by_cases hz:zR2 x y=0
   ·have HD2:=HD.out;rw[iP hz] at HD2;have HD2:=Ld HD2;have fz:=Ld fun W=>fc.out x y W;rw[hz] at fz;clear HD hz;go_wp2_with fail;(with_reducible refine mo (fz.out _) ?_);rintro w1 rfl;go_wp2;go_roundw
    case rel=>exact⟨k+1,by omega,by go_num,trivial,HD2.out⟩
    case measure=>simp[intOf];omega
   ·have HD2:=HD.out;rw[iN hz] at HD2;have HD2:=Ld HD2;have fz:=Ld fun W=>fc.out x y W;have dz:(zR2 x y==0)=false:=beq_eq_false_iff_ne.2 hz;clear HD hz fc;generalize zR2 x y=r at HD2 fz dz;go_wp2_with fail;(with_reducible refine mo (fz.out _) ?_);rintro w1 rfl;go_wp2;go_ret;rw[HD2.out];exact⟨rfl,rfl⟩
  ·have HE:Hid (yU3 l m=0):=by
    have:=HC.out;rw[List.drop_eq_nil_of_le (by omega),List.drop_eq_nil_of_le (by omega)] at this;exact this
   have d0:decide ((k:Int)<(n:Int))=false:=dF (by omega);have d1:decide ((n:Int)<(n:Int))=false:=dF (by omega);clear HC h1 h2;go_wp2;go_ret;rw[HE.out];exact⟨rfl,rfl⟩
theorem xA7(a:Option Addr)(l c:Nat)(w:World):(binOp .eql 147 (.slice a l c) (.slice none 0 0)).run Tryz.prog w=.ok (.bool a.isNone) w:=by
 simp only[binOp];simp[run_equal_slice_nil w 147 3 a l c Tryz.underlying147]
theorem cN(a:Option Addr)(l c:Nat)(w:World):(binOp .neq 147 (.slice a l c) (.slice none 0 0)).run Tryz.prog w=.ok (.bool (!a.isNone)) w:=by
 simp only[binOp];simp[run_equal_slice_nil w 147 3 a l c Tryz.underlying147]
theorem zA2{w:World}{b n:Nat}{v:Value}{l:List Int}(h:w.ownsRow b 3 1 v n (l.map iv))(hp:0<n)(hn:n<=1000000) :
  Calls Tryz.prog 251 #[v] w fun e w'=>∃ u,e=.returned u/\w'.ownsRow w.heap.size 3 1 u n (l.map iv)/\Below w.heap.size w w':=by
 have hl:l.length=n:=by simpa using h.1
 subst hl;obtain⟨g1,c1,rfl,_,_⟩:=h.form hp;have hne:=fun W=>xA7 (some ⟨g1,0,none⟩) l.length c1 W;simp only[Option.isNone_some] at hne;go_enter Tryz.func251,Tryz.ntmps251;go_wp2_with (at_builtin;refine zI1 rfl _ _ rfl rfl _ _ l rfl h (by omega) (by omega) ?_;intro u w2 h2 hb2);go_wp2;go_ret;exact⟨_,rfl,h2,hb2⟩
def vO (a b:List UInt8) (K i:Nat):Option (List Nat):=((List.range i).find? fun j=>mA a b (yP K j)).map (yP K)
theorem zF5(a b:List UInt8)(K:Nat):vO a b K 0=none:=rfl
theorem zF6{a b:List UInt8}{K i:Nat}{l:List Nat}(h:vO a b K i=some l):vO a b K (i+1)=some l/\∃ j,j<i/\l=yP K j:=by
 obtain⟨j,hj,rfl⟩:=Option.map_eq_some_iff.1 h;refine⟨?_,j,List.mem_range.1 (List.mem_of_find?_eq_some hj),rfl⟩;rw[vO,List.range_succ,List.find?_append,hj];rfl
theorem zF7{a b:List UInt8}{K i:Nat}(h:vO a b K i=none):vO a b K (i+1)=if mA a b (yP K i)=true then some (yP K i) else none:=by
 have hj:(List.range i).find? (fun j=>mA a b (yP K j))=none:=Option.map_eq_none_iff.1 h;rw[vO,List.range_succ,List.find?_append,hj,List.find?_singleton,Option.none_or];split<;>rfl
theorem zO4{a b:List UInt8}(ha:zD a=true)(hb:zD b=true):xL a b=vO a b (2+zZ a+zZ b) 27:=iP ⟨ha,hb⟩
theorem zU1{K i j:Nat}(hK:2<=K)(hj:j<i)(hi:i<27):yU3 ((yP K j).map fun (x:Nat)=>(x:Int)) ((yP K i).map fun (x:Nat)=>(x:Int))<=0:=by
 have lt1:∀ p q:Nat,p<q->q<3->vJ K p<vJ K q:=fun p q h1 h2=>by
  unfold vJ;rcases (by omega:p=0\/p=1) with rfl|rfl<;>rcases (by omega:q=0\/q=1\/q=2) with rfl|rfl|rfl<;>simp at h1 |-<;>omega
 have key:j / 9<i / 9\/(j / 9=i / 9/\(j / 3 % 3<i / 3 % 3\/(j / 3 % 3=i / 3 % 3/\j % 3<i % 3))):=by omega
 have same:∀ z:Int,zR2 z z=0:=fun z=>by simp[zR2]
 have less:∀ p q:Nat,p<q->zR2 (p:Int) (q:Int)=-1:=fun p q h=>iP (by omega);simp only[yP,List.map_cons,List.map_nil,yU3];rcases key with h|⟨e,h|⟨e2,h⟩⟩
 ·rw[less _ _ (lt1 _ _ h (by omega))];simp
 ·rw[e,same,less _ _ (lt1 _ _ h (by omega))];simp
 ·rw[e,same,e2,same,less _ _ (lt1 _ _ h (by omega))];simp
structure WSt (N:Nat) (a b:ByteArray) (K:Nat) (r:Option (List Nat)) (W:World):Prop where
 ca:W.ownsRow N 9 1 (.slice (some ⟨N,0,none⟩) 1 1) 1 [.string a]
 cb:W.ownsRow N 9 1 (.slice (some ⟨N+1,0,none⟩) 1 1) 1 [.string b]
 nums:W.ownsRow N 3 1 (.slice (some ⟨N+3,0,none⟩) 3 3) 3 [iv 0,iv 1,iv (K:Int)]
 best:∃ bv,W.ownsRow N 147 1 (.slice (some ⟨N+2,0,none⟩) 1 1) 1 [bv]/\W.ownsRow (N+5) 3 1 bv (r.getD []).length ((r.getD []).map zL1)/\(r=none->bv=.slice none 0 0)
 sz:N+5<=W.heap.size
theorem WSt.below{N:Nat}{a b:ByteArray}{K:Nat}{r:Option (List Nat)}{W W':World}(h:WSt N a b K r W)(hb:Below W.heap.size W W'):WSt N a b K r W':=by
 obtain⟨bv,h1,h2,h9⟩:=h.best;exact⟨zA h.ca hb,zA h.cb hb,zA h.nums hb,⟨bv,zA h1 hb,zA h2 hb,h9⟩,Nat.le_trans h.sz hb.size⟩
theorem WSt.beg{N:Nat}{a b:ByteArray}{K:Nat}{r:Option (List Nat)}{W W':World}(h:WSt N a b K r W)(hg:W.grownBy W' (some (N+4))):WSt N a b K r W':=by
 obtain⟨bv,h1,h2,h9⟩:=h.best;refine⟨h.ca.kept hg (.inr ?_),h.cb.kept hg (.inr ?_),h.nums.kept hg (.inr ?_),⟨bv,h1.kept hg (.inr ?_),h2.kept hg (.inr fun e=>?_),h9⟩,Nat.le_trans h.sz hg.size⟩
 ·simp[Value.ownBlock]
 ·simp[Value.ownBlock]
 ·simp[Value.ownBlock]
 ·simp[Value.ownBlock]
 ·have:=(h2.lt _ e).1;omega
theorem WSt.put{N:Nat}{a b:ByteArray}{K:Nat}{r:Option (List Nat)}{W:World}{l:List Nat}{u:Value}(h:WSt N a b K r W)(hu:W.ownsRow (N+5) 3 1 u l.length (l.map zL1)) :
  WSt N a b K (some l) (W.setCell ⟨N+2,0,none⟩ u)/\W.grownBy (W.setCell ⟨N+2,0,none⟩ u) (some (N+2)):=by
 obtain⟨bv,h1,h2,h9⟩:=h.best;obtain⟨h3,hg⟩:=h1.stored 0 u;refine⟨⟨h.ca.kept hg (.inr ?_),h.cb.kept hg (.inr ?_),h.nums.kept hg (.inr ?_),⟨u,h3,hu.kept hg (.inr fun e=>?_),fun e=>by cases e⟩,Nat.le_trans h.sz hg.size⟩,hg⟩
 ·simp[Value.ownBlock]
 ·simp[Value.ownBlock]
 ·simp[Value.ownBlock]
 ·have:=(hu.lt _ e).1;omega
theorem HG3{l:List UInt8}(h:zD l=true){n:Nat}(hn:n=3):∀ i (hi:i+1<l.length),l[i]=117->l[i+1].toNat - 47<=n:=fun i hi he=>by
 obtain⟨hj,h1,h2⟩:=pE l 1 (zK h).2 i (by omega) he;omega
theorem cO(l:List Nat):l.map zL1=(l.map fun (x:Nat)=>(x:Int)).map iv:=by
 rw[List.map_map];rfl
theorem yH9(s:ByteArray){w:World}{b K i:Nat}{v:Value}(h:w.ownsRow b 3 1 v 3 ((yP K i).map zL1))(hs:zD s.data.toList=true)(hK:2<=K)(hK2:K<=122) :
  ∃ q,Calls Tryz.prog 250 #[.string s,.int .i64 0,v] w fun e w'=>e=.returned (.tuple #[.int .i64 (zI7 (yP K i) s.data.toList:Int),.int .i64 q])/\w'=w:=by
 obtain⟨t,ht⟩:=oY hs;have h60:s.size<=60:=(zK hs).1;rw[cO] at h;have hl:((yP K i).map fun (x:Nat)=>(x:Int)).length=3:=rfl;have hv:∀ x∈(yP K i).map (fun (x:Nat)=>(x:Int)),0<=x/\x<=1000:=fun x hx=>by
  obtain⟨y,hy,rfl⟩:=List.mem_map.1 hx;have q1:=qE hK (i / 9);have q2:=qE hK (i / 3 % 3);have q3:=qE hK (i % 3);simp only[yP,List.mem_cons,List.not_mem_nil,or_false] at hy;rcases hy with rfl|rfl|rfl<;>omega
 have he:((yP K i).map fun (x:Nat)=>(x:Int)).map Int.toNat=yP K i:=by
  rw[List.map_map];exact(List.map_congr_left (fun x _=>by simp)).trans (List.map_id _)
 have:=bD s (vs:=(yP K i).map fun (x:Nat)=>(x:Int)) h h60 hv (by rw[hl];omega) (fun i hi he=>HG3 hs hl i hi he) t 0 [] (by rw[ht];simp);rw[he,← zC6,← ht] at this;exact⟨_,this⟩
theorem xA2(N:Nat)(a b:ByteArray)(K i:Nat)(hK:2<=K)(hK2:K<=122)(hi:i<27)(ha:zD a.data.toList=true)(hb:zD b.data.toList=true){W:World}{v:Value}{bs:Nat}
  (h:WSt N a b K (vO a.data.toList b.data.toList K i) W) (hv:W.ownsRow bs 3 1 v 3 ((yP K i).map zL1)) :
  Calls Tryz.prog 248 #[v,.pointer (some ⟨N+2,0,none⟩),.pointer (some ⟨N,0,none⟩),.pointer (some ⟨N+1,0,none⟩)] W fun e W' =>
   e=.returned (.tuple #[])/\WSt N a b K (vO a.data.toList b.data.toList K (i+1)) W'/\W.grownBy W' (some (N+2)):=by
 obtain⟨bv,hbst,hrow,hnone⟩:=h.best;have cbest:W.cell? ⟨N+2,0,none⟩=some bv:=hbst.cellAt 0 (by omega);cases hr:vO a.data.toList b.data.toList K i with
|some l =>
  obtain⟨h2,j,hj,rfl⟩:=zF6 hr;have H2:Hid (vO a.data.toList b.data.toList K (i+1)=vO a.data.toList b.data.toList K i):=h2.trans hr.symm;rw[hr] at hrow;have hrow2:W.ownsRow (N+5) 3 1 bv 3 ((yP K j).map zL1):=hrow;rw[cO] at hrow2 hv;have fC:=Ld (fQ hrow2 hv (by omega) (by omega));have hc:=zU1 hK hj hi;generalize yU3 ((yP K j).map fun (x:Nat)=>(x:Int)) ((yP K i).map fun (x:Nat)=>(x:Int))=c at fC hc;have d1:decide (c<=0)=true:=dT hc;obtain⟨g,cp,rfl,_,_⟩:=hrow2.form (by omega);have hne:=fun W=>cN (some ⟨g,0,none⟩) 3 cp W;simp only[Option.isNone_some,Bool.not_false] at hne;have HW:=Ld h;clear hrow hrow2 hv h hr h2 hbst;go_enter Tryz.func248,Tryz.ntmps248;go_wp2_with fail;(with_reducible refine mo fC.out ?_);rintro w1 rfl;go_wp2;refine bodyPost_ret (results_none rfl _ _ _) rfl ?_;rw[H2.out];exact⟨rfl,HW.out,rfl,rfl,rfl,nR _,fun _ _ _=>rfl⟩
|none =>
  have H2:=Ld (zF7 hr);obtain rfl:bv=.slice none 0 0:=hnone hr;have hne:=fun W=>cN none 0 0 W;simp only[Option.isNone_none,Bool.not_true] at hne;rw[hr] at h;have va:W.cell? ⟨N,0,none⟩=some (.string a):=h.ca.cellAt 0 (by omega);have vb:W.cell? ⟨N+1,0,none⟩=some (.string b):=h.cb.cellAt 0 (by omega);obtain⟨p1,g1⟩:=yH9 a hv ha hK hK2;obtain⟨p2,g2⟩:=yH9 b hv hb hK hK2;have G1:=Ld g1;have G2:=Ld g2;have HP:Hid (mA a.data.toList b.data.toList (yP K i)=decide (zI7 (yP K i) b.data.toList<zI7 (yP K i) a.data.toList)):=rfl;generalize zI7 (yP K i) a.data.toList=m at G1 HP;generalize zI7 (yP K i) b.data.toList=n at G2 HP;have HW:=Ld h;have hsz:=h.sz;clear hrow hnone hr g1 g2;by_cases hmn:n<m
  ·have H3:Hid (vO a.data.toList b.data.toList K (i+1)=some (yP K i)):=by
    have:=H2.out;rw[HP.out,dT hmn,iP rfl] at this;exact this
   have d4:decide ((n:Int)<(m:Int))=true:=dT (by omega);have d4n:decide (n<m)=true:=dT (by omega);have hv2:=hv;rw[cO] at hv2;have fC:=Ld (zA2 hv2 (by omega) (by omega));clear H2 HP hv hv2 hbst h;go_enter Tryz.func248,Tryz.ntmps248;go_wp2_with fail;(with_reducible refine mo G1.out ?_);rintro w1 rfl;go_wp2_with fail;(with_reducible refine mo G2.out ?_);rintro w1 rfl;go_wp2_with fail;(with_reducible refine fC.out.mono ?_);rintro e w2 ⟨u,rfl,hu,hb2⟩;have h2:=HW.out.below hb2;rw[← cO] at hu
   have hu2:w2.ownsRow (N+5) 3 1 u (yP K i).length ((yP K i).map zL1):=⟨hu.1,by
    rcases hu.2 with e|⟨g,cap,cur,e1,e2,e3⟩
    ·exact .inl e
    ·exact .inr ⟨g,cap,cur,e1,Nat.le_trans hsz e2,e3⟩⟩
   obtain⟨h3,hg3⟩:=h2.put hu2;obtain⟨bv2,hb3,_,_⟩:=h2.best;have cc:w2.cell? ⟨N+2,0,none⟩=some bv2:=hb3.cellAt 0 (by omega);have cf:=hb3.frozenAt 0;obtain⟨gu,cu,rfl,_,_⟩:=hu.form (by omega);have HG:=Ld ((zC hb2 (some (N+2))).trans hg3);have H4:=Ld h3;clear h2 hu hu2 h3 hg3 hb3 hb2;go_wp2;go_end0;rw[H3.out];exact⟨rfl,H4.out,HG.out⟩
  ·have H3:Hid (vO a.data.toList b.data.toList K (i+1)=none):=by
    have:=H2.out;rw[HP.out,dF hmn,iN (by decide)] at this;exact this
   have d4:decide ((n:Int)<(m:Int))=false:=dF (by omega);have d4n:decide (n<m)=false:=dF (by omega);clear H2 HP hv hbst h;go_enter Tryz.func248,Tryz.ntmps248;go_wp2_with fail;(with_reducible refine mo G1.out ?_);rintro w1 rfl;go_wp2_with fail;(with_reducible refine mo G2.out ?_);rintro w1 rfl;go_wp2;go_end0;rw[H3.out];exact⟨rfl,HW.out,rfl,rfl,rfl,nR _,fun _ _ _=>rfl⟩
end Go.Proofs.YtcaahdjhbmmcnaaGreatDoor
namespace Go.Proofs
open Go.Shelf
def Tryz.lays138_ren:Go.Shelf.Ren:=⟨fun|138=>264|195=>279|218=>280|143=>277|219=>256|217=>270|225=>271|224=>272|267=>273|266=>283|314=>284|n=>n,fun|9=>9|3=>3|4=>4|5=>5|0=>0|46=>135|146=>298|51=>170|n=>n,fun|1=>0|n=>n⟩
theorem Tryz.lays138:Go.Proofs.Lays.n138 Tryz.prog Tryz.lays138_ren:={
 mixed:=by kernel_rfl
 f138:=Tryz.func264.trans (congrArg some (by kernel_rfl))
 f143:=Tryz.func277.trans (congrArg some (by kernel_rfl))
 f195:=Tryz.func279.trans (congrArg some (by kernel_rfl))
 f217:=Tryz.func270.trans (congrArg some (by kernel_rfl))
 f218:=Tryz.func280.trans (congrArg some (by kernel_rfl))
 f219:=Tryz.func256.trans (congrArg some (by kernel_rfl))
 f224:=Tryz.func272.trans (congrArg some (by kernel_rfl))
 f225:=Tryz.func271.trans (congrArg some (by kernel_rfl))
 f266:=Tryz.func283.trans (congrArg some (by kernel_rfl))
 f267:=Tryz.func273.trans (congrArg some (by kernel_rfl))
 f314:=Tryz.func284.trans (congrArg some (by kernel_rfl))
 t0:=Tryz.underlying0
 a0:=Tryz.isAgg0
 z0:=Tryz.sizeOf0
 v0:=Tryz.zeroValue0
 t3:=Tryz.underlying3
 a3:=Tryz.isAgg3
 z3:=Tryz.sizeOf3
 v3:=Tryz.zeroValue3
 t4:=Tryz.underlying4
 a4:=Tryz.isAgg4
 z4:=Tryz.sizeOf4
 v4:=Tryz.zeroValue4
 t5:=Tryz.underlying5
 a5:=Tryz.isAgg5
 z5:=Tryz.sizeOf5
 v5:=Tryz.zeroValue5
 t9:=Tryz.underlying9
 a9:=Tryz.isAgg9
 z9:=Tryz.sizeOf9
 v9:=Tryz.zeroValue9
 t46:=Tryz.underlying135
 a46:=Tryz.isAgg135
 z46:=Tryz.sizeOf135
 v46:=Tryz.zeroValue135
 t51:=Tryz.underlying170
 a51:=Tryz.isAgg170
 z51:=Tryz.sizeOf170
 v51:=Tryz.zeroValue170
 t146:=Tryz.underlying298
 a146:=Tryz.isAgg298
 z146:=Tryz.sizeOf298
 v146:=Tryz.zeroValue298
 g1:=by kernel_rfl }
open Go.RowKit Go.Lib in
theorem Tryz.strings_Count_one(s:ByteArray)(c:UInt8)(w:World) :
  Calls Tryz.prog 264 #[.string s,.string ⟨#[c]⟩] w fun e w'=>e=.returned (.int .i64 (Lib.countByte s.data.toList c))/\w'=w:=Any.strings_Count_one Tryz.lays138 s c w
end Go.Proofs
namespace Go.Proofs.YtcaahdjhbmmcnaaGreatDoor
open Go.ChangeShapes Go.WideShapes Go.ChangeAt Go.RowKit
theorem kZ(s:ByteArray)(w:World)(hs:s.size<=maxLen) :
  Calls Tryz.prog 252 #[.string s] w fun e w'=>e=.returned (.int .i64 (zZ s.data.toList:Int))/\w'=w:=by
 have f1:=Ld fun W=>vD s W hs;have f2:=Ld fun W=>Tryz.strings_Count_one s 43 W;generalize hc:Lib.countByte s.data.toList 43=cnt at f2;unfold maxLen at hs;by_cases hok:zD s.data.toList=true
 ·rw[hok] at f1;have HE:Hid (zZ s.data.toList=cnt):=(iP hok).trans hc;rw[HE.out];clear hok HE hc;go_enter Tryz.func252,Tryz.ntmps252;go_wp2_with fail;(with_reducible refine mo (f1.out _) ?_);rintro w1 rfl;go_wp2_with fail;(with_reducible refine mo (f2.out _) ?_);rintro w1 rfl;go_wp2;go_ret;exact⟨rfl,rfl⟩
 ·have HE:Hid (zZ s.data.toList=0):=iN hok;rw[Bool.not_eq_true] at hok;rw[hok] at f1;clear hok;go_enter Tryz.func252,Tryz.ntmps252;go_wp2_with fail;(with_reducible refine mo (f1.out _) ?_);rintro w1 rfl;go_wp2;go_ret;rw[HE.out];exact⟨rfl,rfl⟩
def xJ3 (N:Nat):Value:=.func (.func 248) #[] #[.pointer (some ⟨N+2,0,none⟩),.pointer (some ⟨N,0,none⟩),.pointer (some ⟨N+1,0,none⟩)]
def eK (ds:List Nat):Nat:=ds.foldl (fun c x=>3*c+x) 0
theorem zZ5(ds:List Nat)(x:Nat):eK (ds++[x])=3*eK ds+x:=by simp[eK,List.foldl_append]
theorem zP2{ds:List Nat}(h:ds.length=3)(hx:∀ x∈ds,x<3)(K:Nat):eK ds<27/\ds.map (vJ K)=yP K (eK ds):=by
 match ds,h with
|[x,y,z],_ =>
  have h1:=hx x (by simp);have h2:=hx y (by simp);have h3:=hx z (by simp);have e:eK [x,y,z]=9*x+3*y+z:=(by simp[eK];omega);rw[e,zQ8 h2 h3];exact⟨by omega,rfl⟩
theorem yE8{w:World}{b b' n z:Nat}{e:TypeId}{v:Value}{xs:List Value}(h:w.ownsRow b e z v n xs)(hb:b'<=b):w.ownsRow b' e z v n xs := ⟨h.1,h.2.imp id fun ⟨g,cap,cur,e1,e2,e3⟩=>⟨g,cap,cur,e1,Nat.le_trans hb e2,e3⟩⟩
theorem yQ3{w:World}{b g cap n:Nat}{e:TypeId}{xs:List Value}{x:Value}(h:w.ownsRow b e 1 (.slice (some ⟨g,0,none⟩) (n+1) cap) (n+1) (xs++[x]))(hx:xs.length=n):w.ownsRow b e 1 (.slice (some ⟨g,0,none⟩) n cap) n xs:=by
 refine⟨by rw[hx,Nat.mul_one],?_⟩;rcases h.2 with ⟨e',_⟩|⟨g',cap',cur,e1,h2,h3,h4,h5,h6,h7⟩
 ·cases e'
 ·cases e1;refine .inr ⟨g,cap,cur,rfl,h2,h3,by omega,h5,h6,?_⟩;have:=congrArg (List.take n) h7;rw[List.take_take,List.take_left' hx] at this;rw[Nat.mul_one,← this];congr 1;omega
theorem yS8(N:Nat)(a b:ByteArray)(K:Nat)(hK:2<=K)(hK2:K<=122)(ha:zD a.data.toList=true)(hb:zD b.data.toList=true) :
  ∀ (e d:Nat) (ds:List Nat) (p m:Nat),d+e=3->ds.length=d->(∀ x∈ds,x<3)->p=3 ^ e->m=eK ds*p->∀ W:World,WSt N a b K (vO a.data.toList b.data.toList K m) W ->
   W.ownsRow N 3 1 (.slice (some ⟨N+4,0,none⟩) d 3) d ((ds.map (vJ K)).map zL1) ->
   Calls Tryz.prog 253 #[.slice (some ⟨N+3,0,none⟩) 3 3,.slice (some ⟨N+4,0,none⟩) d 3,xJ3 N] W fun e W' =>
    e=.returned (.tuple #[])/\WSt N a b K (vO a.data.toList b.data.toList K (m+p)) W'/\W'.ownsRow N 3 1 (.slice (some ⟨N+4,0,none⟩) d 3) d ((ds.map (vJ K)).map zL1)/\Below N W W':=by
 intro e
 induction e with
|zero =>
  intro d ds p m hd hl hx hp hm W hW hown;obtain rfl:d=3:=(by omega);obtain⟨h27,htri⟩:=zP2 hl hx K;obtain rfl:p=1:=hp;rw[Nat.mul_one] at hm;subst hm;have hown2:=hown;rw[htri] at hown2;have fT:=Ld (xA2 N a b K (eK ds) hK hK2 h27 ha hb hW hown2);have HO:=Ld hown;have hsz:=hW.sz;clear hown hown2 hW htri;unfold xJ3;go_enter Tryz.func253,Tryz.ntmps253;go_wp2_with fail;(with_reducible refine fT.out.mono ?_);rintro e w1 ⟨rfl,h1,hg⟩;have h2:=HO.out.kept hg (.inr (by simp[Value.ownBlock]));have h3:=(bR N W).grown hg (by omega) (fun k hk=>by cases hk;omega);have H:=Ld (And.intro h1 (And.intro h2 h3));clear h1 h2 h3 hg fT;go_wp2;refine bodyPost_ret (results_none rfl _ _ _) rfl ?_;exact⟨rfl,H.out⟩
|succ e ih =>
  intro d ds p m hd hl hx hp hm W hW hown;have hpp:p=3*3 ^ e:=by rw[hp,Nat.pow_succ,Nat.mul_comm]
  have IH:=Ld fun k (hk:k<3) W' h1 h2=>ih (d+1) (ds++[k]) (3 ^ e) (m+k*3 ^ e) (by omega) (by simp[hl]) (fun x hm=>by
   rcases List.mem_append.1 hm with h|h
   ·exact hx x h
   ·simp at h;omega) rfl (by
    rw[zZ5,hm,hpp,Nat.add_mul,← Nat.mul_assoc,Nat.mul_comm (eK ds) 3]) W' h1 h2
  clear ih;generalize 3 ^ e=q at IH hpp;have hd3:d<3:=(by omega);have d0:((d:Int)==3)=false:=beq_eq_false_iff_ne.2 (by omega);clear hp;unfold xJ3 at IH |-;go_enter Tryz.func253,Tryz.ntmps253;go_wp2;have HW:=Ld hW;have HO:=Ld hown;have hsz:=hW.sz;clear hW hown;go_loopw [16] (fun i wr=>∃ k:Nat,k<=3/\i=.int .i64 k/\WSt N a b K (vO a.data.toList b.data.toList K (m+k*q)) wr/\wr.ownsRow N 3 1 (.slice (some ⟨N+4,0,none⟩) d 3) d ((ds.map (vJ K)).map zL1)/\Below N W wr) (fun i _=>3 - (intOf i).toNat)
  case atStart=>exact⟨0,Nat.zero_le _,rfl,by rw[Nat.zero_mul,Nat.add_zero];exact HW.out,HO.out,bR _ _⟩
  case round =>
   obtain⟨k,hk,rfl,hW,hown,hbel⟩:=hrel;clear HW HO;by_cases hk3:k<3
   ·have cc:wr.cell? ⟨N+3,k,none⟩=some (.int .i64 (vJ K k:Int)):=by
     rw[hW.nums.cellAt k (by omega)];rcases (by omega:k=0\/k=1\/k=2) with rfl|rfl|rfl<;>rfl
    have d1:decide ((k:Int)<3)=true:=dT (by omega);have q1:=zn k;have q2:(k:Int)<3:=(by omega);obtain⟨i0,hi,hz0,hz1,hz2⟩:=info_parts hZ;have hml:((ds++[k]).map (vJ K)).map zL1=(ds.map (vJ K)).map zL1++[.int .i64 (vJ K k:Int)]:=by
     rw[List.map_append,List.map_append];rfl
    have hlen:((ds.map (vJ K)).map zL1).length=d:=(by simp[hl]);have fR:=Ld fun W' h1 h2=>IH.out k hk3 W' h1 (by rw[hml];exact h2);rw[hml] at fR;generalize (ds.map (vJ K)).map zL1=xs at fR hown hlen;generalize vJ K k=X at fR cc;clear IH hml;go_wp2_with (at_builtin;refine wpList_append_fits _ rfl _ _ 147 rfl N 3 i0 1 Tryz.underlying147 hi hz1 (N+4) d 3 xs rfl (hown.alloc _) ⟨wr.heap.size,0,none⟩ 1 1 [.int .i64 (X:Int)] rfl rfl (yI _ _ _) (by intro u hu;simp at hu;subst hu;rfl) (by omega) ?_;intro w1 hown1 hg1);have hW1:=(hW.below ((bR wr.heap.size wr).alloc (nR _) _)).beg hg1;have hsz2:=hW.sz;have hb1:=(hbel.alloc (by omega) _).grown hg1 (by simp;omega) (fun k hk=>by cases hk;omega);have HW1:=Ld hW1;have HB1:=Ld hb1;clear hg1 hown hW hbel cc;go_wp2_with fail;(with_reducible refine(fR.out _ HW1.out hown1).mono ?_);rintro e w2 ⟨rfl,h3,h4,h5⟩;have H3:=Ld h3;have H4:=Ld (yQ3 h4 hlen);have H5:=Ld (HB1.out.trans h5);clear h3 h4 h5 hown1 fR HW1 HB1;go_wp2;go_roundw
    case rel=>exact⟨k+1,by omega,by go_num,by rw[Nat.succ_mul,← Nat.add_assoc];exact H3.out,H4.out,H5.out⟩
    case measure=>simp[intOf];omega
   ·obtain rfl:k=3:=(by omega);rw[← hpp] at hW;have H:=Ld (And.intro hW (And.intro hown hbel));have d1:decide ((3:Int)<3)=false:=(by decide);clear hW hown hbel IH;go_wp2;go_end0;exact⟨rfl,H.out⟩
theorem jI(a b:ByteArray)(w:World)(ha:a.size<=maxLen)(hb:b.size<=maxLen) :
  Calls Tryz.prog 233 #[.string a,.string b] w (yL8 (xL a.data.toList b.data.toList) w):=by
 have f1:=Ld fun W=>vD a W ha;have f2:=Ld fun W=>vD b W hb;have bB:=((bR w.heap.size w).alloc (nR _) (.cells #[.string a] 9)).alloc (by simp) (.cells #[.string b] 9);by_cases ho:zD a.data.toList=true;rotate_left
 ·have HE:Hid (xL a.data.toList b.data.toList=none):=iN fun hc=>ho hc.1;rw[Bool.not_eq_true] at ho;rw[ho] at f1;clear ho f2;go_enter Tryz.func233,Tryz.ntmps233;go_wp2_with fail;(with_reducible refine mo (f1.out _) ?_);rintro w1 rfl;go_wp2;go_ret2;rw[HE.out];exact⟨_,rfl,World.ownsRow_nil _ _ _ _,bB⟩
 have HOa:=Ld ho;rw[ho] at f1;clear ho;by_cases ho:zD b.data.toList=true;rotate_left
 ·have HE:Hid (xL a.data.toList b.data.toList=none):=iN fun hc=>ho hc.2;rw[Bool.not_eq_true] at ho;rw[ho] at f2;clear ho;go_enter Tryz.func233,Tryz.ntmps233;go_wp2_with fail;(with_reducible refine mo (f1.out _) ?_);rintro w1 rfl;go_wp2_with fail;(with_reducible refine mo (f2.out _) ?_);rintro w2 rfl;go_wp2;go_ret2;rw[HE.out];exact⟨_,rfl,World.ownsRow_nil _ _ _ _,bB⟩
 have HOb:=Ld ho;rw[ho] at f2;clear ho;have f3:=Ld fun W=>kZ a W ha;have f4:=Ld fun W=>kZ b W hb;have HWit:=Ld (zO4 HOa.out HOb.out);have hua:zZ a.data.toList<=60:=by
  have:a.data.toList.length<=60:=(zK HOa.out).1;rw[zZ,iP HOa.out];exact Nat.le_trans List.count_le_length this
 have hub:zZ b.data.toList<=60:=by
  have:b.data.toList.length<=60:=(zK HOb.out).1;rw[zZ,iP HOb.out];exact Nat.le_trans List.count_le_length this
 generalize zZ a.data.toList=ua at f3 hua HWit;generalize zZ b.data.toList=ub at f4 hub HWit;have ra:(((w.alloc (.cells #[.string a] 9)).alloc (.cells #[.string b] 9)).alloc (.cells #[.slice none 0 0] 147)).ownsRow w.heap.size 9 1 (.slice (some ⟨w.heap.size,0,none⟩) 1 1) 1 [.string a] :=
  ((World.ownsRow_lit (base:=w.heap.size) (e:=9) (size:=1) w #[.string a] 1 (nR _) (by decide) (by simp)).alloc _).alloc _
 have rb:(((w.alloc (.cells #[.string a] 9)).alloc (.cells #[.string b] 9)).alloc (.cells #[.slice none 0 0] 147)).ownsRow w.heap.size 9 1 (.slice (some ⟨w.heap.size+1,0,none⟩) 1 1) 1 [.string b]:=by
  have:=(World.ownsRow_lit (base:=w.heap.size) (e:=9) (size:=1) (w.alloc (.cells #[.string a] 9)) #[.string b] 1 (by simp) (by decide) (by simp)).alloc (.cells #[.slice none 0 0] 147);simpa using this
 have rc:(((w.alloc (.cells #[.string a] 9)).alloc (.cells #[.string b] 9)).alloc (.cells #[.slice none 0 0] 147)).ownsRow w.heap.size 147 1 (.slice (some ⟨w.heap.size+2,0,none⟩) 1 1) 1 [.slice none 0 0]:=by
  have:=(World.ownsRow_lit (base:=w.heap.size) (e:=147) (size:=1) ((w.alloc (.cells #[.string a] 9)).alloc (.cells #[.string b] 9)) #[.slice none 0 0] 1 (by simp;omega) (by decide) (by simp));simpa using this
 have bC:=bB.alloc (by simp;omega) (.cells #[.slice none 0 0] 147);have sz0:(((w.alloc (.cells #[.string a] 9)).alloc (.cells #[.string b] 9)).alloc (.cells #[.slice none 0 0] 147)).heap.size=w.heap.size+3:=by simp
 go_enter Tryz.func233,Tryz.ntmps233;go_wp2_with fail;(with_reducible refine mo (f1.out _) ?_);rintro w1 rfl;go_wp2_with fail;(with_reducible refine mo (f2.out _) ?_);rintro w2 rfl;go_wp2_with fail;generalize (((w.alloc (.cells #[.string a] 9)).alloc (.cells #[.string b] 9)).alloc (.cells #[.slice none 0 0] 147))=W at ra rb rc bC sz0;have va:W.cell? ⟨w.heap.size,0,none⟩=some (.string a):=ra.cellAt 0 (by omega);have vb:W.cell? ⟨w.heap.size+1,0,none⟩=some (.string b):=rb.cellAt 0 (by omega);go_still_tail 6,(by kernel_rfl)
 still_call (f3.out _)
 repeat still_step
 still_call (f4.out _)
 repeat still_step
 refine wpStill_nil ?_;change wpList _ _ _ _ _ W.drew;obtain⟨K,hK⟩:∃ K,2+ua+ub=K:=⟨_,rfl⟩;have hK2:2<=K:=by omega
 have hKm:K<=122:=by omega
 rw[hK] at HWit;have hKK:(2:Int)+(ua:Int)+(ub:Int)=(K:Int):=by omega
 have ra1:W.drew.ownsRow w.heap.size 9 1 (.slice (some ⟨w.heap.size,0,none⟩) 1 1) 1 [.string a]:=ra.drew;have rb1:W.drew.ownsRow w.heap.size 9 1 (.slice (some ⟨w.heap.size+1,0,none⟩) 1 1) 1 [.string b]:=rb.drew;have rc1:W.drew.ownsRow w.heap.size 147 1 (.slice (some ⟨w.heap.size+2,0,none⟩) 1 1) 1 [.slice none 0 0]:=rc.drew;have bC1:=bC.drew;have sz1:W.drew.heap.size=w.heap.size+3:=sz0;clear ra rb rc bC sz0 va vb hK f1 f2 f3 f4 bB;generalize W.drew=wd at ra1 rb1 rc1 bC1 sz1;clear hua hub;have rn:=World.ownsRow_lit (base:=w.heap.size) (e:=3) (size:=1) wd #[.int .i64 0,.int .i64 1,.int .i64 (K:Int)] 3 (by omega) (by decide) (by simp);have bn:=(bR wd.heap.size wd).alloc (nR _) (.cells #[.int .i64 0,.int .i64 1,.int .i64 (K:Int)] 3);have szn:(wd.alloc (.cells #[.int .i64 0,.int .i64 1,.int .i64 (K:Int)] 3)).heap.size=w.heap.size+4:=by simp[sz1]
 rw[sz1] at rn;have ra2:=zA ra1 bn;have rb2:=zA rb1 bn;have rc2:=zA rc1 bn;have bC2:=bC1.trans (bn.mono bC1.size);clear ra1 rb1 rc1 bC1 bn;obtain⟨i0,hi,hz0,hz1,hz2⟩:=info_parts hZ;have HF:=Ld fun W' m hm=>yS8 w.heap.size a b K hK2 hKm HOa.out HOb.out 3 0 [] 27 0 rfl rfl (by simp) rfl rfl W' m hm;have H:=Ld (And.intro ra2 (And.intro rb2 (And.intro rc2 (And.intro rn bC2))));clear ra2 rb2 rc2 rn bC2;have SZ:∀ o,(wd.alloc o).heap.size=w.heap.size+4:=fun o=>by simp[sz1]
 go_wp2_with (at_make;refine wpList_make_own _ rfl _ _ 147 rfl w.heap.size 3 i0 (.int .i64 0) 1 Tryz.underlying147 hi hz0 hz1 _ _ _ 3 rfl rfl (by omega) (by rw[hz2];omega) (by unfold maxLen;omega) (by rw[SZ];omega) ?_;intro w1 hown1 hg1;simp only[SZ] at hown1 |-;rw[hKK] at hg1);obtain⟨ra,rb,rc,rn,bC⟩:=H.out;have hsz1:=(hown1.lt _ rfl).2;have hW1:WSt w.heap.size a b K (vO a.data.toList b.data.toList K 0) w1:=by
  rw[zF5];exact⟨ra.kept hg1 (.inr (by simp[Value.ownBlock])),rb.kept hg1 (.inr (by simp[Value.ownBlock])),rn.kept hg1 (.inr (by simp[Value.ownBlock])), ⟨_,rc.kept hg1 (.inr (by simp[Value.ownBlock])),World.ownsRow_nil _ _ _ _,fun _=>rfl⟩,by simp at hsz1;omega⟩
 have bC1:=Ld (bC.grown hg1 (by omega) (fun k hk=>by cases hk));have fE:=HF.out w1 hW1 hown1;unfold xJ3 at fE;rw[show w.heap.size+2=w.heap.size+1+1 from rfl] at fE;have fE:=Ld fE;clear ra rb rc rn bC hW1 hg1 hown1 H HF SZ szn hsz1;go_wp2_with fail;(with_reducible refine fE.out.mono ?_);rintro e w2 ⟨rfl,hW2,_,hb2⟩;have B2:=Ld (bC1.out.trans hb2);clear bC1 hb2 fE;rw[Nat.zero_add,← HWit.out] at hW2;clear HWit;obtain⟨bv,hb,hrow,hnone⟩:=hW2.best;have cb:w2.cell? ⟨w.heap.size+1+1,0,none⟩=some bv:=hb.cellAt 0 (by omega);clear hW2 hb;cases hr:xL a.data.toList b.data.toList with
|none =>
  obtain rfl:=hnone hr;have hne:=fun W=>cN none 0 0 W;simp only[Option.isNone_none,Bool.not_true] at hne;have HR2:=Ld hr;clear hrow hnone hr;go_wp2;go_quiet (fail);go_wp2;go_ret2;rw[HR2.out];exact⟨_,rfl,World.ownsRow_nil _ _ _ _,zH B2.out nq⟩
|some l =>
  rw[hr] at hrow;have h3:l.length=3:=by
   rw[xL,iP ⟨HOa.out,HOb.out⟩] at hr;obtain⟨i,_,rfl⟩:=Option.map_eq_some_iff.1 hr;rfl
  rw[show Option.getD (some l) []=l from rfl,h3] at hrow;have HR:=Ld hrow;obtain⟨g,cp,rfl,_,_⟩:=hrow.form (by omega);have hne:=fun W=>cN (some ⟨g,0,none⟩) 3 cp W;simp only[Option.isNone_some,Bool.not_false] at hne;have HR2:=Ld hr;clear hrow hnone hr;go_wp2;go_quiet (fail);go_wp2;go_ret2;rw[HR2.out];rw[yL8,show Option.getD (some l) []=l from rfl,h3];exact⟨_,rfl,tR (yE8 (b:=w.heap.size+5) (b':=w.heap.size) HR.out (by omega)) nq,zH B2.out nq⟩
theorem zN5(a b:ByteArray)(w:World)(ha:a.size<=maxLen)(hb:b.size<=maxLen) :
  Rt 203 #[.string a,.string b] w (.bool (xQ a.data.toList b.data.toList)):=by
 have f0:=Ld fun W=>jI a b W ha hb;have f1:=Ld fun W=>vD a W ha;have f2:=Ld fun W=>vD b W hb;have HE:Hid (xQ a.data.toList b.data.toList=(zD a.data.toList&&zD b.data.toList&&!(xL a.data.toList b.data.toList).isSome)):=by
  rw[Hid,xQ];cases xL a.data.toList b.data.toList<;>rfl
 generalize xQ a.data.toList b.data.toList=r at HE;generalize zD a.data.toList=oa at HE f1;generalize zD b.data.toList=ob at HE f2;generalize xL a.data.toList b.data.toList=rr at HE f0;go_enter Tryz.func203,Tryz.ntmps203;cases oa
 ·go_wp2_with fail;(with_reducible refine mo (f1.out _) ?_);rintro w2 rfl;go_wp2;go_ret;rw[HE.out];exact⟨rfl,bR _ _⟩
 cases ob
 ·go_wp2_with fail;(with_reducible refine mo (f1.out _) ?_);rintro w2 rfl;go_wp2_with fail;(with_reducible refine mo (f2.out _) ?_);rintro w2 rfl;go_wp2;go_ret;rw[HE.out];exact⟨rfl,bR _ _⟩
 go_wp2_with fail;(with_reducible refine mo (f1.out _) ?_);rintro w2 rfl;go_wp2_with fail;(with_reducible refine mo (f2.out _) ?_);rintro w2 rfl;go_wp2_with fail;(with_reducible refine(f0.out _).mono ?_);rintro e w1 ⟨u,rfl,_,hb1⟩;clear f0;generalize rr.isSome=s at HE;cases s
 all_goals
  go_wp2;go_ret;rw[HE.out];exact⟨rfl,hb1⟩
theorem eE(s:ByteArray)(w:World)(hs:s.size<=maxLen) :
  Rt 161 #[.string s] w (.bool (xQ [43,122] s.data.toList)):=by
 have f1:Hid (∀ W,Rt 203 #[.string ⟨#[43,122]⟩,.string s] W (.bool (xQ [43,122] s.data.toList))):=fun W=>zN5 ⟨#[43,122]⟩ s W (by decide) hs;generalize xQ [43,122] s.data.toList=x at f1;go_enter Tryz.func161,Tryz.ntmps161;go_wp2_with fail;(with_reducible refine mo (f1.out _) fun w1 hb1=>?_);go_wp2;go_ret;exact⟨rfl,hb1⟩
end Go.Proofs.YtcaahdjhbmmcnaaGreatDoor
