/- FSay KMath KVars EGiv EArr TVarS FOut FLift LftS -/
import Derived.Laws.Cover1
import Derived.Test.YtcaahdjhbmmcnaaGreatDoorTF1
import Derived.Test.YtcaahdjhbmmcnaaGreatDoorTE1
import Derived.Test.YtcaahdjhbmmcnaaGreatDoorTE2
import Derived.Test.YtcaahdjhbmmcnaaGreatDoorTA6
import Derived.Test.YtcaahdjhbmmcnaaGreatDoorTG3
import Derived.Test.YtcaahdjhbmmcnaaGreatDoorTV1
import Derived.Test.YtcaahdjhbmmcnaaGreatDoorTA4
import Derived.Test.YtcaahdjhbmmcnaaGreatDoorTG1
set_option maxRecDepth 100000
set_option maxHeartbeats 16000000
set_option linter.unusedSimpArgs false
set_option linter.unusedVariables false
namespace Go.Proofs.YtcaahdjhbmmcnaaGreatDoor
open Go
def xI7 (st:Option (List UInt8)) (s:List UInt8):Option (List UInt8):=st.bind fun B=>if B.length+s.length<=2000 then some (B++s) else none
open Classical in
noncomputable def vV (st:Option (List UInt8)) (R:Tm):Option (List UInt8):=st.bind fun B=>if R.Ok/\B.length+R.bytes.length<=2000 then some (B++R.bytes) else none
theorem uY(R:Tm):vV none R=none:=rfl
theorem cA{R:Tm}(h:R.Ok)(st:Option (List UInt8)):vV st R=xI7 st R.bytes:=by
 cases st with
|none=>rfl
|some B=>simp[vV,xI7,h]
theorem yP6{R:Tm}(h:¬ R.Ok)(st:Option (List UInt8)):vV st R=none:=by
 cases st with
|none=>rfl
|some B=>simp[vV,h]
theorem sA{B:List UInt8}{R:Tm}(h:R.Ok)(hl:B.length+R.bytes.length<=2000):vV (some B) R=some (B++R.bytes):=iP ⟨h,hl⟩
theorem vG{B:List UInt8}{R:Tm}(h:¬ (R.Ok/\B.length+R.bytes.length<=2000)):vV (some B) R=none:=iN h
theorem zR3{B s:List UInt8}(h:B.length+s.length<=2000):xI7 (some B) s=some (B++s):=iP h
theorem zR4{B s:List UInt8}(h:¬ B.length+s.length<=2000):xI7 (some B) s=none:=iN h
theorem xI1(B:List UInt8)(c:UInt8):(B++[c]).length=B.length+1:=by simp
theorem dZ{c:UInt8}{f x R:Tm}(hb:R.bytes=c::(f.bytes++x.bytes))(hO:R.Ok↔f.Ok/\x.Ok)(st:Option (List UInt8)):vV (vV (xI7 st [c]) f) x=vV st R:=by
 cases st with
|none=>rfl
|some B =>
  have hl:R.bytes.length=1+f.bytes.length+x.bytes.length:=(by rw[hb];simp;omega);have l1:=xI1 B c;have l2:(B++[c]++f.bytes).length=B.length+1+f.bytes.length:=(by simp;omega);by_cases h1:B.length+1<=2000
  ·rw[zR3 (s:=[c]) h1];by_cases h2:f.Ok/\B.length+1+f.bytes.length<=2000
   ·rw[sA h2.1 (by omega)];by_cases h3:x.Ok/\B.length+1+f.bytes.length+x.bytes.length<=2000
    ·rw[sA h3.1 (by omega),sA (hO.2 ⟨h2.1,h3.1⟩) (by omega),hb];simp
    ·rw[vG (fun h=>h3 ⟨h.1,by omega⟩),vG (fun h=>h3 ⟨(hO.1 h.1).2,by omega⟩)]
   ·rw[vG (fun h=>h2 ⟨h.1,by omega⟩),uY,vG (fun h=>h2 ⟨(hO.1 h.1).1,by omega⟩)]
  ·rw[zR4 (s:=[c]) h1,uY,uY,vG (fun h=>h1 (by omega))]
theorem zV8{c:UInt8}{f x y R:Tm}(hb:R.bytes=c::(f.bytes++(x.bytes++y.bytes)))(hO:R.Ok↔f.Ok/\x.Ok/\y.Ok)(st:Option (List UInt8)):vV (vV (vV (xI7 st [c]) f) x) y=vV st R:=by
 cases st with
|none=>rfl
|some B =>
  have hl:R.bytes.length=1+f.bytes.length+x.bytes.length+y.bytes.length:=(by rw[hb];simp;omega);have l1:=xI1 B c;have l2:(B++[c]++f.bytes).length=B.length+1+f.bytes.length:=(by simp;omega);have l3:(B++[c]++f.bytes++x.bytes).length=B.length+1+f.bytes.length+x.bytes.length:=(by simp;omega);by_cases h1:B.length+1<=2000
  ·rw[zR3 (s:=[c]) h1];by_cases h2:f.Ok/\B.length+1+f.bytes.length<=2000
   ·rw[sA h2.1 (by omega)];by_cases h3:x.Ok/\B.length+1+f.bytes.length+x.bytes.length<=2000
    ·rw[sA h3.1 (by omega)];by_cases h5:y.Ok/\B.length+1+f.bytes.length+x.bytes.length+y.bytes.length<=2000
     ·rw[sA h5.1 (by omega),sA (hO.2 ⟨h2.1,h3.1,h5.1⟩) (by omega),hb];simp
     ·rw[vG (fun h=>h5 ⟨h.1,by omega⟩),vG (fun h=>h5 ⟨(hO.1 h.1).2.2,by omega⟩)]
    ·rw[vG (fun h=>h3 ⟨h.1,by omega⟩),uY,vG (fun h=>h3 ⟨(hO.1 h.1).2.1,by omega⟩)]
   ·rw[vG (fun h=>h2 ⟨h.1,by omega⟩),uY,uY,vG (fun h=>h2 ⟨(hO.1 h.1).1,by omega⟩)]
  ·rw[zR4 (s:=[c]) h1,uY,uY,uY,vG (fun h=>h1 (by omega))]
noncomputable def lifted (l:List UInt8) (x y:Int):Option (List UInt8):=match vQ l with
|some T=>if 0<=x/\x<=999/\0<=y/\y<=999 then vV (some []) (T.lift x.toNat y.toNat) else none
|none=>none
noncomputable def vX (d:Dc):Int:=if xD d=true then (if uB d=true then d.params+1 else d.params) else 0
noncomputable def yL (d:Dc):List UInt8:=if xD d=true then (if uB d=true then 115::117::(Lib.itoa d.params++[46]) else [115,122,46]) else []
def xO (s:Nat):List (List UInt8):=(List.range s).map fun i=>(Tm.var (s - 1 - i)).bytes
noncomputable def rN (k n j q:Nat) (dm:List UInt8):Option (List UInt8) :=
 match lifted dm ((n - j+q:Nat):Int) 0 with
|none=>none
|some dom=>match yK (yX ((n - 1 - j+q+(zJ dom).length:Nat):Int)) (xO (zJ dom).length) with
 |none=>none
 |some arg=>zU (zJ dom) (64::((Tm.var (k+n+q+(zJ dom).length)).bytes++arg))
noncomputable def yM (k n:Nat) (sh:List UInt8->Int):List (List UInt8)->Nat->Nat->List (List UInt8)->Option (List (List UInt8) × Nat)
|[],_,q,acc=>some (acc,q)
|dm::r,j,q,acc =>
  if sh dm=2 then none
  else if sh dm=1 then match rN k n j q dm with
  |none=>none
  |some st=>yM k n sh r (j+1) (q+1) (acc++[st])
  else yM k n sh r (j+1) q acc
def xG (n q:Nat):List (List UInt8):=(List.range n).map fun j=>yX ((n - 1 - j+q:Nat):Int)
def tH (d:Dc) (k:Nat):List UInt8:=match d.ctors[k]? with
|some c=>c.1
|none=>[]
noncomputable def rT (d:Dc) (k n:Nat):Option (List (List UInt8) × Nat)->Option (List UInt8)
|none=>none
|some (all,q)=>match yK (Tm.const (tH d k) (zW d.params.toNat)).bytes (xG n q) with
 |none=>none
 |some made=>zU all (64::((Tm.var (k+n+q)).bytes++made))
noncomputable def uM (d:Dc) (k:Nat):Option (List UInt8) :=
 rT d k (zJ (yU d k)).length (yM k (zJ (yU d k)).length (zS (zM d) d.name) (zJ (yU d k)) 0 0 (zJ (yU d k)))
noncomputable def yY (d:Dc) (k:Int):Option (List UInt8):=if yT d k=true then uM d k.toNat else none
noncomputable def rS (d:Dc):Nat->Nat->Option (List (List UInt8))
|0,_=>some []
|m+1,k=>match yY d k with
 |none=>none
 |some t=>match rS d m (k+1) with
  |none=>none
  |some r=>some (t::r)
noncomputable def vW (d:Dc):Option (List UInt8) :=
 if xD d=true then (match rS d d.ctors.length 0 with
 |none=>none
 |some ms=>zU ((112::(zM d++yL d))::(ms++[zM d])) (64::((Tm.var (d.ctors.length+1)).bytes++[118,48,46])))
 else none
theorem oQ{ds:List (List UInt8)}{t r:List UInt8}(h:zU ds t=some r):r.length<=2000:=by
 unfold zU at h;split at h
 ·rename_i hc;injection h with h;subst h;have hf:∀ ds:List (List UInt8),((ds.map fun d=>(112:UInt8)::d).flatten).length=ds.length+ds.flatten.length:=by
   intro ds
   induction ds with
  |nil=>rfl
  |cons a ds ih =>
    rw[List.map_cons,List.flatten_cons,lA,ih,List.flatten_cons,lA];simp only[lC];omega
  rw[lA,hf];have:=hc.2.2;omega
 ·cases h
theorem gI{h:List UInt8}{us:List (List UInt8)}{r:List UInt8}(e:yK h us=some r):r.length<=2000:=by
 unfold yK at e;split at e
 ·rename_i hc;injection e with e;subst e;simp only[lA,List.length_replicate];have:=hc.2.2;omega
 ·cases e
theorem yP5{o:Option (List UInt8)}{t:Tm}{r:List UInt8}(h:vV o t=some r):r.length<=2000:=by
 unfold vV at h;cases o with
|none=>cases h
|some B =>
  simp only[Option.bind_some] at h;split at h
  ·rename_i hc;injection h with h;subst h;rw[lA];exact hc.2
  ·cases h
theorem zX9{l r:List UInt8}{x y:Int}(h:lifted l x y=some r):r.length<=2000:=by
 unfold lifted at h;split at h
 ·split at h
  ·exact yP5 h
  ·cases h
 ·cases h
theorem zU9{k n j q:Nat}{dm r:List UInt8}(h:rN k n j q dm=some r):r.length<=2000:=by
 unfold rN at h;split at h
 ·cases h
 ·split at h
  ·cases h
  ·exact oQ h
theorem mQ{d:Dc}{k:Int}{r:List UInt8}(h:yY d k=some r):r.length<=2000:=by
 unfold yY at h;split at h
 ·unfold uM rT at h;split at h
  ·cases h
  ·split at h
   ·cases h
   ·exact oQ h
 ·cases h
theorem gT{d:Dc}{k:Nat}(h:k<d.ctors.length):tH d k=d.ctors[k].1:=by
 unfold tH;rw[List.getElem?_eq_getElem h]
theorem rM(s:Nat):(xO s).length=s:=by simp[xO]
theorem sN(n q:Nat):(xG n q).length=n:=by simp[xG]
theorem nL(n:Nat)(h:n<=1000000):(Tm.var n).bytes.length<=30:=by
 have hl:(Lib.decDigits n).length<=10:=vS (by omega);simp[Tm.bytes];omega
end Go.Proofs.YtcaahdjhbmmcnaaGreatDoor
namespace Go.Proofs.YtcaahdjhbmmcnaaGreatDoor
open Go.ChangeShapes Go.WideShapes Go.ChangeAt Go.RowKit
theorem dS{s m:Nat}(h:m<s):((xO s).take (m+1)).map sv=((xO s).take m).map sv++[sv (Tm.var (s - 1 - m)).bytes]:=by
 have hl:m<(xO s).length:=by rw[rM];exact h
 rw[List.take_succ_eq_append_getElem hl,List.map_append];simp[xO]
theorem yO4{s:Nat}(w:World)(hs:s<=2000) :
  Calls Tryz.prog 128 #[.int .i64 (s:Int)] w (oS (xO s) w):=by
 obtain⟨i0,hi,hz0,hz1,hz2⟩:=info_parts tF;have hrow0:Hid ((w.alloc (.cells #[] 9)).ownsRow w.heap.size 9 1 (.slice (some ⟨w.heap.size,0,none⟩) 0 0) 0 []):=World.ownsRow_lit w #[] 0 (nR _) (by decide) (by simp);have hbl0:=Ld ((bR w.heap.size w).alloc (nR _) (.cells #[] 9));go_enter Tryz.func128,Tryz.ntmps128;go_wp2;go_loopw [3,4] (fun o i wr=>∃ (m:Nat) (oo:Value),m<=s/\i=.int .i64 ((s:Int) - 1 - (m:Int))/\oo=o/\Hid (wr.ownsRow w.heap.size 9 1 oo m (((xO s).take m).map sv))/\Hid (Below w.heap.size w wr)) (fun _ i _=>(intOf i+1).toNat)
 case atStart=>exact⟨0,_,Nat.zero_le _,by go_num,rfl,hrow0.out,hbl0.out⟩
 case round =>
  obtain⟨m,oo,hm,rfl,rfl,HO,HW⟩:=hrel;have hz:=HW.out.size;by_cases hlt:m<s
  ·have HT:=Ld (dS hlt);have d0:decide ((0:Int)<=(s:Int) - 1 - (m:Int))=true:=dT (by omega);have f1:=Ld fun W=>qX (s - 1 - m) W (by omega);have hv:=nL (s - 1 - m) (by omega);rw[show (((s - 1 - m:Nat):Nat):Int)=(s:Int) - 1 - (m:Int) by omega] at f1;generalize (Tm.var (s - 1 - m)).bytes=x at f1 HT hv;go_wp2_with fail;(with_reducible refine mo (f1.out _) fun w1 hb1=>?_);have HO1:=Ld (zA HO.out hb1);have HW1:=Ld (HW.out.trans (hb1.mono hz));have hz1':=HW1.out.size;clear hb1 f1 HO HW;go_wp2_with (at_builtin;refine wpList_append_own _ rfl _ _ 31 rfl w.heap.size 9 i0 _ 1 16 Tryz.underlying31 hi hz0 hz1 hz2 rfl (by decide) _ _ _ rfl (HO1.out.alloc _) ⟨w1.heap.size,0,none⟩ 1 1 [.string ⟨x.toArray⟩] rfl rfl (yI _ _ _) (by simp[Value.oneCell']) (by simp only[maxLen];omega) (by omega) (by simp;omega) ?_;intro v2 w2 hown2 hgrow hnil2);have HO2:Hid (w2.ownsRow w.heap.size 9 1 v2 (m+1) (((xO s).take (m+1)).map sv)):=by
    rw[Hid,HT.out];exact hown2
   have HW2:Hid (Below w.heap.size w w2):=(HW1.out.alloc hz1' _).grown hgrow (by simp;omega) (fun q hq=>(HO1.out.lt q hq).1);clear hown2 hgrow;go_wp2;go_roundw
   case rel=>exact⟨m+1,_,by omega,by go_num,rfl,HO2.out,HW2.out⟩
   case measure=>simp[intOf];omega
  ·obtain rfl:m=s:=(by omega);have d0:decide ((0:Int)<=(m:Int) - 1 - (m:Int))=false:=dF (by omega);have HR:Hid (wr.ownsRow w.heap.size 9 1 oo (xO m).length ((xO m).map sv)):=by
    have h1:=HO.out;rw[List.take_of_length_le (by rw[rM];exact nR _)] at h1;rw[Hid,rM];exact h1
   clear HO;go_wp2;go_ret;exact⟨_,rfl,HR.out,HW.out⟩
theorem yG9:(Tryz.prog.info? 5).map (fun i=>(i.zero,i.size,i.bytes))=some (some (.int .u8 0),1,1):=by kernel_rfl
theorem yO8(n:Nat)(x:UInt8)(w:World)(hn:n<=100000) :
  Rt 170 #[.int .i64 (n:Int),.int .u8 (x.toNat:Int)] w (.string ⟨(List.replicate n x).toArray⟩):=by
 obtain⟨i0,hi,hz0,hz1,hz2⟩:=info_parts yG9;go_enter Tryz.func170,Tryz.ntmps170;go_wp2_with (at_make;refine wpList_make_full _ rfl _ _ 97 rfl w.heap.size 5 i0 (.int .u8 0) 1 Tryz.underlying97 hi hz0 hz1 _ _ _ _ n rfl rfl rfl rfl (by rw[hz2];omega) (by unfold maxLen;omega) (nR _) ?_;intro w0 hown0 hgrow0);have hbel0:Below w.heap.size w w0:=(bR _ _).grown hgrow0 (nR _) (by simp);have hxl:=hown0.1;generalize (madeCells (Value.int .u8 0).cells (n*1)).toList=xs at hown0 hxl;rw[Nat.mul_one] at hxl;go_loopw [6] (fun i wr=>∃ k:Nat,k<=n/\i=.int .i64 k/\wr.ownsRow w.heap.size 5 1 (.slice (some ⟨w.heap.size,0,none⟩) n n) n ((List.replicate n (Value.int .u8 (x.toNat:Int))).take k++xs.drop k)/\Below w.heap.size w wr) (fun i _=>n - (intOf i).toNat)
 case atStart=>exact⟨0,Nat.zero_le _,rfl,by simpa using hown0,hbel0⟩
 case round =>
  obtain⟨k,hk,rfl,hown,hbel⟩:=hrel;clear hown0 hgrow0 hbel0;by_cases hlt:k<n
  ·have HU:=Ld (zS8 (a:=List.replicate n (Value.int .u8 (x.toNat:Int))) (b:=xs) (k:=k) (u:=.int .u8 (x.toNat:Int)) (by simpa using hlt) (by simpa using hxl) (by simp));have hlen:k<((List.replicate n (Value.int .u8 (x.toNat:Int))).take k++xs.drop k).length:=(by simp;omega);have co:=hown.cellAt k (by omega);rw[List.getElem?_eq_getElem hlen] at co;have cf:=hown.frozenAt k;generalize ((List.replicate n (Value.int .u8 (x.toNat:Int))).take k++xs.drop k)[k]=old at co;have HS:=Ld (hown.stored k (.int .u8 (x.toNat:Int)));have HB:=Ld hbel;have q1:=zn k;have q2:(k:Int)<(n:Int):=(by omega);clear hown hlen hbel;go_wp2;go_roundw
   case rel =>
    have e1:=HS.out;rw[HU.out] at e1;exact⟨k+1,by omega,by go_num,e1.1,HB.out.grown e1.2 HB.out.size (fun j hj=>by cases hj;exact nR _)⟩
   case measure=>simp[intOf];omega
  ·obtain rfl:k=n:=(by omega);rw[List.drop_eq_nil_of_le (by omega),List.append_nil,List.take_of_length_le (by simp)] at hown;have hown2:wr.ownsRow w.heap.size 5 1 (.slice (some ⟨w.heap.size,0,none⟩) k k) k ((List.replicate k x).map bv):=(by rw[List.map_replicate];exact hown);have cv:=rV (P:=Tryz.prog) (t:=97) (d:=9) wr Tryz.underlying97 Tryz.underlying5 Tryz.underlying9 hown2;have HB:=Ld hbel;clear hown hown2 hbel;go_wp2;go_ret;exact⟨rfl,HB.out⟩
theorem yL1(a b:List UInt8):(⟨a.toArray⟩:ByteArray)++⟨b.toArray⟩=⟨(a++b).toArray⟩:=by
 apply ByteArray.ext;simp
theorem zE7{l:List (List UInt8)}{k:Nat}(h:k<l.length):(l.take (k+1)).flatten=(l.take k).flatten++l[k]:=by
 rw[List.take_succ_eq_append_getElem h,List.flatten_append];simp
theorem oH(l:List (List UInt8))(k:Nat):(l.take k).flatten.length<=l.flatten.length:=by
 have h:=congrArg List.length (congrArg List.flatten (List.take_append_drop k l));rw[List.flatten_append,lA] at h;omega
theorem mR{l:List (List UInt8)}{k:Nat}(h:k<l.length){P:List UInt8->Prop}(h1:∀ a∈l.take k,P a)(h2:P l[k]):∀ a∈l.take (k+1),P a:=by
 intro a ha;rw[List.take_succ_eq_append_getElem h] at ha;rcases List.mem_append.1 ha with ha|ha
 ·exact h1 a ha
 ·rw[List.mem_singleton.1 ha];exact h2
theorem aX(s:ByteArray){W:World}{b:Nat}{v:Value}{args:List (List UInt8)}(h:W.ownsRow b 9 1 v args.length (args.map sv))(hs:s.size<=maxLen)(hx:∀ x∈args,x.length<=1048576)(hn:args.length<=10000000) :
  Rt 126 #[.string s,v] W (yC (yK s.data.toList args)):=by
 obtain⟨a0,cap,rfl⟩:=yW h;have hls:s.data.toList.length=s.size:=rfl;have f1:=Ld (tL s W hs);have HO:=Ld h;unfold maxLen at hs;by_cases hok:yB s.data.toList=true;rotate_left
 ·have HE:Hid (yK s.data.toList args=none):=(by rw[Hid,yK,iN (fun k=>hok k.1)]);rw[Bool.not_eq_true] at hok;rw[hok] at f1;clear h hok hx HO hls;go_enter Tryz.func126,Tryz.ntmps126;go_wp2_with fail;(with_reducible refine mo f1.out fun w1 hb1=>?_);go_wp2;go_ret2;rw[HE.out];exact⟨rfl,hb1⟩
 have hs2:s.size<=2000:=by
  rw[← hls];have hk:=hok;unfold yB at hk;cases ht:vQ s.data.toList with
 |none=>rw[ht] at hk;cases hk
 |some t=>exact(vF ht).2.2
 have HOK:=Ld hok;rw[hok] at f1;by_cases hl:args.length<=2000;rotate_left
 ·have HE:Hid (yK s.data.toList args=none):=(by rw[Hid,yK,iN (fun k=>by have:=k.2.2;omega)]);have d1:decide ((2000:Int)<(args.length:Int))=true:=dT (by omega);have e1:decide (2000<args.length)=true:=dT (by omega);clear h hok hx HO hls;go_enter Tryz.func126,Tryz.ntmps126;go_wp2_with fail;(with_reducible refine mo f1.out fun w1 hb1=>?_);go_wp2;go_ret2;rw[HE.out];exact⟨rfl,hb1⟩
 have d1:decide ((2000:Int)<(args.length:Int))=false:=dF (by omega);have e1:decide (2000<args.length)=false:=dF (by omega);have HX:=Ld hx;clear h hok hx hn;go_enter Tryz.func126,Tryz.ntmps126;go_wp2_with fail;(with_reducible refine mo f1.out fun w1 hb1=>?_);have HB1:=Ld hb1;clear hb1 f1;go_wp2;go_loopw [6,7] (fun n i wr=>∃ (k m:Nat),k<=args.length/\i=.int .i64 k/\n=.int .i64 (m:Int)/\m<=2000/\Hid (m=s.size+k+(args.take k).flatten.length/\∀ a∈args.take k,yB a=true)/\Below W.heap.size W wr) (fun _ i _=>args.length - (intOf i).toNat)
 case atStart=>exact⟨0,s.size,Nat.zero_le _,rfl,rfl,hs2,⟨by simp,by simp⟩,HB1.out⟩
 case round =>
  obtain⟨k,m,hk,rfl,rfl,hm,HM,hbr⟩:=hrel;clear HB1;by_cases hlt:k<args.length
  ·have hr:=zA HO.out hbr;obtain⟨g',cap',e0,_,hgl⟩:=hr.form (by omega);cases e0;have ex:(args.map sv)[k]?=some (sv args[k]):=(by simp[hlt]);have cc:=(hr.cellAt k (by omega)).trans ex;unfold sv at cc;have q1:=zn k;have q2:(k:Int)<(args.length:Int):=(by omega);have hxk:=HX.out args[k] (List.getElem_mem hlt);have hzk:(⟨args[k].toArray⟩:ByteArray).size=args[k].length:=(by simp[ByteArray.size]);have f2:=Ld (tL ⟨args[k].toArray⟩ wr (by unfold maxLen;omega));simp only at f2;have hft:=congrArg List.length (zE7 hlt);rw[lA] at hft;have htl:=oH args (k+1);by_cases hka:yB args[k]=true;rotate_left
   ·have HE:Hid (yK s.data.toList args=none):=(by rw[Hid,yK,iN (fun k'=>hka (k'.2.1 _ (List.getElem_mem hlt)))]);rw[Bool.not_eq_true] at hka;rw[hka] at f2;have HB:=Ld hbr;clear hka HM ex hr hft htl hbr;generalize args[k]=xk at cc f2 hxk hzk;go_wp2_with fail;(with_reducible refine mo f2.out fun w2 hb2=>?_);have HB2:=bt HB.out hb2;clear hb2 f2 HB;go_wp2;go_ret2;rw[HE.out];exact⟨rfl,HB2.out⟩
   ·have HOKK:=Ld (mR (P:=fun a=>yB a=true) hlt HM.out.2 hka);rw[hka] at f2;have hmm:=HM.out.1;by_cases hbig:m+1+args[k].length<=2000;rotate_left
    ·have HE:Hid (yK s.data.toList args=none):=(by rw[Hid,yK,iN (fun k'=>by have:=k'.2.2;omega)]);have d3:decide ((2000:Int)<(m:Int)+1+(args[k].length:Int))=true:=dT (by omega);have HB:=Ld hbr;clear hka HM ex hr hft htl hbr HOKK hmm;generalize args[k]=xk at cc f2 hxk hzk d3 hbig;go_wp2_with fail;(with_reducible refine mo f2.out fun w2 hb2=>?_);have HB2:=bt HB.out hb2;clear hb2 f2 HB;go_wp2;go_ret2;rw[HE.out];exact⟨rfl,HB2.out⟩
    ·have d3:decide ((2000:Int)<(m:Int)+1+(args[k].length:Int))=false:=dF (by omega);have HM2:Hid (m+1+args[k].length=s.size+(k+1)+(args.take (k+1)).flatten.length/\∀ a∈args.take (k+1),yB a=true):=⟨by omega,HOKK.out⟩;have HB:=Ld hbr;clear hka HM ex hr hft htl hbr HOKK hmm;generalize args[k]=xk at cc f2 hxk hzk d3 hbig HM2;go_wp2_with fail;(with_reducible refine mo f2.out fun w2 hb2=>?_);have HB2:=bt HB.out hb2;clear hb2 f2 HB;go_wp2;go_roundw
     case rel=>exact⟨k+1,m+1+xk.length,by omega,by go_num,by go_num,hbig,HM2.out,HB2.out⟩
     case measure=>simp[intOf];omega
  ·obtain rfl:k=args.length:=(by omega);have HM2:=HM.out;rw[List.take_length] at HM2;have HE:Hid (yK s.data.toList args=some (List.replicate args.length 64++s.data.toList++args.flatten)):=by
    rw[Hid,yK,iP ⟨HOK.out,HM2.2,by rw[hls];omega⟩]
   have htot:s.size+args.length+args.flatten.length<=2000:=(by omega);have f3:=Ld (yO8 args.length 64 wr (by omega));have hrl:(List.replicate args.length (64:UInt8)).length=args.length:=List.length_replicate;have zr:(⟨(List.replicate args.length (64:UInt8)).toArray⟩:ByteArray).size<=2000:=(by show (List.replicate args.length (64:UInt8)).length<=2000;omega);have HA:Hid ((⟨(List.replicate args.length (64:UInt8)).toArray⟩:ByteArray)++s=⟨(List.replicate args.length 64++s.data.toList++(args.take 0).flatten).toArray⟩):=by
    rw[Hid,List.take_zero,List.flatten_nil,List.append_nil,← yL1]
   have HRP:=Ld (rfl:List.replicate args.length (64:UInt8)=List.replicate args.length 64);have d4:decide ((args.length:Int)<(args.length:Int))=false:=dF (by omega);have HB:=Ld hbr;have e64:((64:UInt8).toNat:Int)=64:=rfl;rw[e64] at f3;generalize List.replicate args.length (64:UInt8)=rp at f3 zr HA HE hrl;clear HM HM2 hbr HOK;go_wp2_with fail;(with_reducible refine mo f3.out fun w2 hb2=>?_);have HB2:=bt HB.out hb2;clear hb2 f3 HB;go_wp2;go_loopw [8,9] (fun t i wr'=>∃ k:Nat,k<=args.length/\i=.int .i64 k/\t=.string ⟨(rp++s.data.toList++(args.take k).flatten).toArray⟩/\wr'=w2) (fun _ i _=>args.length - (intOf i).toNat)
   case atStart=>exact⟨0,Nat.zero_le _,rfl,by rw[HA.out],rfl⟩
   case round =>
    obtain⟨k,hk,rfl,rfl,rfl⟩:=hrel;by_cases hlt:k<args.length
    ·have hr:=zA HO.out HB2.out;obtain⟨g',cap',e0,_,hgl⟩:=hr.form (by omega);cases e0;have ex:(args.map sv)[k]?=some (sv args[k]):=(by simp[hlt]);have cc:=(hr.cellAt k (by omega)).trans ex;unfold sv at cc;have q1:=zn k;have q2:(k:Int)<(args.length:Int):=(by omega);have HK:Hid ((⟨(rp++s.data.toList++(args.take k).flatten).toArray⟩:ByteArray)++⟨args[k].toArray⟩=⟨(rp++s.data.toList++(args.take (k+1)).flatten).toArray⟩):=by
      rw[Hid,yL1,zE7 hlt,List.append_assoc]
     have hft:=oH args k;have zs:(⟨(rp++s.data.toList++(args.take k).flatten).toArray⟩:ByteArray).size<=100000:=by
      show (rp++s.data.toList++(args.take k).flatten).length<=100000;simp only[lA];omega
     have zx:args[k].length<=1048576:=HX.out args[k] (List.getElem_mem hlt);generalize args[k]=xk at cc HK zx;generalize (⟨(rp++s.data.toList++(args.take k).flatten).toArray⟩:ByteArray)=tx at HK zs;clear ex hr hft;go_wp2;go_roundw
     case rel=>exact⟨k+1,by omega,by go_num,by rw[← HK.out],trivial⟩
     case measure=>simp[intOf];omega
    ·obtain rfl:k=args.length:=(by omega);rw[List.take_length];have d5:decide ((args.length:Int)<(args.length:Int))=false:=dF (by omega);clear HA;generalize rp++s.data.toList++args.flatten=tx at HE;go_wp2;go_ret2;rw[HE.out];exact⟨rfl,HB2.out⟩
def pT (l:List (List UInt8)):List UInt8:=(l.map fun d=>112::d).flatten
theorem zH1{l:List (List UInt8)}{k:Nat}(h:k<l.length):pT (l.take (k+1))=pT (l.take k)++(112::l[k]):=by
 rw[pT,List.take_succ_eq_append_getElem h,List.map_append,List.flatten_append];simp[pT]
theorem jR(l:List (List UInt8)):(pT l).length=l.length+l.flatten.length:=by
 induction l with
|nil=>rfl
|cons x r ih =>
  have:pT (x::r)=(112::x)++pT r:=rfl;rw[this,lA,ih];simp;omega
theorem zH0(l:List (List UInt8))(k:Nat):(pT (l.take k)).length<=(pT l).length:=by
 have h1:=oH l k;rw[jR,jR,List.length_take];omega
theorem yV0(a b:List UInt8):(⟨a.toArray⟩:ByteArray)++⟨#[112]⟩++⟨b.toArray⟩=⟨(a++(112::b)).toArray⟩:=by
 apply ByteArray.ext;simp
theorem lT(s:ByteArray){W:World}{b:Nat}{v:Value}{args:List (List UInt8)}(h:W.ownsRow b 9 1 v args.length (args.map sv))(hs:s.size<=maxLen)(hx:∀ x∈args,x.length<=1048576)(hn:args.length<=10000000) :
  Rt 83 #[v,.string s] W (yC (zU args s.data.toList)):=by
 obtain⟨a0,cap,rfl⟩:=yW h;have hls:s.data.toList.length=s.size:=rfl;have f1:=Ld (tL s W hs);have HO:=Ld h;unfold maxLen at hs;by_cases hok:yB s.data.toList=true;rotate_left
 ·have HE:Hid (zU args s.data.toList=none):=(by rw[Hid,zU,iN (fun k=>hok k.1)]);rw[Bool.not_eq_true] at hok;rw[hok] at f1;clear h hok hx HO hls;go_enter Tryz.func83,Tryz.ntmps83;go_wp2_with fail;(with_reducible refine mo f1.out fun w1 hb1=>?_);go_wp2;go_ret2;rw[HE.out];exact⟨rfl,hb1⟩
 have hs2:s.size<=2000:=by
  rw[← hls];have hk:=hok;unfold yB at hk;cases ht:vQ s.data.toList with
 |none=>rw[ht] at hk;cases hk
 |some t=>exact(vF ht).2.2
 have HOK:=Ld hok;rw[hok] at f1;by_cases hl:args.length<=2000;rotate_left
 ·have HE:Hid (zU args s.data.toList=none):=(by rw[Hid,zU,iN (fun k=>by have:=k.2.2;omega)]);have d1:decide ((2000:Int)<(args.length:Int))=true:=dT (by omega);have e1:decide (2000<args.length)=true:=dT (by omega);clear h hok hx HO hls;go_enter Tryz.func83,Tryz.ntmps83;go_wp2_with fail;(with_reducible refine mo f1.out fun w1 hb1=>?_);go_wp2;go_ret2;rw[HE.out];exact⟨rfl,hb1⟩
 have d1:decide ((2000:Int)<(args.length:Int))=false:=dF (by omega);have e1:decide (2000<args.length)=false:=dF (by omega);have HX:=Ld hx;clear h hok hx hn;go_enter Tryz.func83,Tryz.ntmps83;go_wp2_with fail;(with_reducible refine mo f1.out fun w1 hb1=>?_);have HB1:=Ld hb1;clear hb1 f1;go_wp2;go_loopw [6,7] (fun t i wr=>∃ k:Nat,k<=args.length/\i=.int .i64 k/\t=.string ⟨(pT (args.take k)).toArray⟩/\(pT (args.take k)).length<=2000/\Hid (∀ a∈args.take k,yB a=true)/\Below W.heap.size W wr) (fun _ i _=>args.length - (intOf i).toNat)
 case atStart=>exact⟨0,Nat.zero_le _,rfl,rfl,Nat.zero_le _,by simp[Hid],HB1.out⟩
 case round =>
  obtain⟨k,hk,rfl,rfl,hm,HM,hbr⟩:=hrel;clear HB1;have zsz:(⟨(pT (args.take k)).toArray⟩:ByteArray).size=(pT (args.take k)).length:=rfl;by_cases hlt:k<args.length
  ·have hr:=zA HO.out hbr;obtain⟨g',cap',e0,_,hgl⟩:=hr.form (by omega);cases e0;have ex:(args.map sv)[k]?=some (sv args[k]):=(by simp[hlt]);have cc:=(hr.cellAt k (by omega)).trans ex;unfold sv at cc;have HCC:Hid (∀ W',Below wr.heap.size wr W'->W'.cell? ⟨g',k,none⟩=some (.string ⟨args[k].toArray⟩)):=fun W' hb'=>by
    have:=((zA hr hb').cellAt k (by omega)).trans ex;exact this
   have q1:=zn k;have q2:(k:Int)<(args.length:Int):=(by omega);have hxk:=HX.out args[k] (List.getElem_mem hlt);have hzk:(⟨args[k].toArray⟩:ByteArray).size=args[k].length:=(by simp[ByteArray.size]);have f2:=Ld (tL ⟨args[k].toArray⟩ wr (by unfold maxLen;omega));simp only at f2;have hct:=congrArg List.length (zH1 hlt);rw[lA,lC] at hct;have hcl:=zH0 args (k+1);have hcd:=jR args;by_cases hka:yB args[k]=true;rotate_left
   ·have HE:Hid (zU args s.data.toList=none):=(by rw[Hid,zU,iN (fun k'=>hka (k'.2.1 _ (List.getElem_mem hlt)))]);rw[Bool.not_eq_true] at hka;rw[hka] at f2;have HB:=Ld hbr;clear hka HM ex hr hct hcl hcd hbr;generalize (⟨(pT (args.take k)).toArray⟩:ByteArray)=tx at zsz |-;generalize args[k]=xk at cc f2 hxk hzk HCC;go_wp2_with fail;(with_reducible refine mo f2.out fun w2 hb2=>?_);have HB2:=bt HB.out hb2;clear hb2 f2 HB;go_wp2;go_ret2;rw[HE.out];exact⟨rfl,HB2.out⟩
   ·have HOKK:=Ld (mR (P:=fun a=>yB a=true) hlt HM.out hka);rw[hka] at f2;by_cases hbig:(pT (args.take k)).length+1+args[k].length<=2000;rotate_left
    ·have HE:Hid (zU args s.data.toList=none):=(by rw[Hid,zU,iN (fun k'=>by have:=k'.2.2;omega)]);have d3:decide ((2000:Int)<((pT (args.take k)).length:Int)+1+(args[k].length:Int))=true:=dT (by omega);have HB:=Ld hbr;clear hka HM ex hr hct hcl hcd hbr HOKK;generalize (pT (args.take k)).length=cl at hm hbig d3 zsz;generalize (⟨(pT (args.take k)).toArray⟩:ByteArray)=tx at zsz |-;generalize args[k]=xk at cc f2 hxk hzk d3 hbig HCC;go_wp2_with fail;(with_reducible refine mo f2.out fun w2 hb2=>?_);have cc2:=HCC.out w2 hb2;have HB2:=bt HB.out hb2;clear hb2 f2 HB;go_wp2;go_ret2;rw[HE.out];exact⟨rfl,HB2.out⟩
    ·have d3:decide ((2000:Int)<((pT (args.take k)).length:Int)+1+(args[k].length:Int))=false:=dF (by omega);have HC:Hid ((⟨(pT (args.take k)).toArray⟩:ByteArray)++⟨#[112]⟩++⟨args[k].toArray⟩=⟨(pT (args.take (k+1))).toArray⟩):=(by rw[Hid,yV0,zH1 hlt]);have hcl2:(pT (args.take (k+1))).length<=2000:=(by omega);have zz:((⟨(pT (args.take k)).toArray⟩:ByteArray)++⟨#[112]⟩).size<=100000:=(by rw[ByteArray.size_append,zsz];show _+1<=_;omega);have HB:=Ld hbr;have HCL:=Ld hcl2;clear hka HM ex hr hct hcl hcd hbr hcl2;generalize (pT (args.take k)).length=cl at hm hbig d3 zsz;generalize (⟨(pT (args.take k)).toArray⟩:ByteArray)=tx at zsz HC zz |-;generalize args[k]=xk at cc f2 hxk hzk d3 hbig HC HCC;go_wp2_with fail;(with_reducible refine mo f2.out fun w2 hb2=>?_);have cc2:=HCC.out w2 hb2;have HB2:=bt HB.out hb2;clear hb2 f2 HB;go_wp2;go_roundw
     case rel=>exact⟨k+1,by omega,by go_num,by rw[← HC.out],HCL.out,HOKK.out,HB2.out⟩
     case measure=>simp[intOf];omega
  ·obtain rfl:k=args.length:=(by omega);have HM2:=HM.out;have hcd:=jR args;rw[List.take_length] at HM2 hm zsz |-;have dk:decide ((args.length:Int)<(args.length:Int))=false:=dF (by omega);have HB:=Ld hbr;by_cases hbig:(pT args).length+s.size<=2000
   ·have HE:Hid (zU args s.data.toList=some (pT args++s.data.toList)):=by
     rw[Hid,zU,iP ⟨HOK.out,HM2,by rw[hls];omega⟩];rfl
    have d4:decide ((2000:Int)<((pT args).length:Int)+(s.size:Int))=false:=dF (by omega);have HC:Hid ((⟨(pT args).toArray⟩:ByteArray)++s=⟨(pT args++s.data.toList).toArray⟩):=(by rw[Hid,← yL1]);clear HM HM2 hbr HOK hcd;generalize pT args++s.data.toList=res at HC HE;generalize (pT args).length=cl at hm hbig d4 zsz;generalize (⟨(pT args).toArray⟩:ByteArray)=tx at zsz HC |-;go_wp2;go_ret2;rw[HE.out,HC.out];exact⟨rfl,HB.out⟩
   ·have HE:Hid (zU args s.data.toList=none):=(by rw[Hid,zU,iN (fun k'=>by have:=k'.2.2;omega)]);have d4:decide ((2000:Int)<((pT args).length:Int)+(s.size:Int))=true:=dT (by omega);clear HM HM2 hbr HOK hcd;generalize (pT args).length=cl at hm hbig d4 zsz;generalize (⟨(pT args).toArray⟩:ByteArray)=tx at zsz |-;go_wp2;go_ret2;rw[HE.out];exact⟨rfl,HB.out⟩
theorem yY5(x lo hi:Int)(w:World) :
  Calls Tryz.prog 68 #[.int .i64 x,.int .i64 lo,.int .i64 hi] w fun e w'=>e=.returned (.bool (decide (lo<=x)&&decide (x<=hi)))/\w'=w:=by
 by_cases h1:lo<=x
 ·have d1:decide (lo<=x)=true:=dT h1;by_cases h2:x<=hi
  ·have d2:decide (x<=hi)=true:=dT h2;go_enter Tryz.func68,Tryz.ntmps68;go_wp2;go_ret;exact⟨by simp[d1,d2],rfl⟩
  ·have d2:decide (x<=hi)=false:=dF h2;go_enter Tryz.func68,Tryz.ntmps68;go_wp2;go_ret;exact⟨by simp[d1,d2],rfl⟩
 ·have d1:decide (lo<=x)=false:=dF h1;go_enter Tryz.func68,Tryz.ntmps68;go_wp2;go_ret;exact⟨by simp[d1],rfl⟩
theorem iA(n:Int)(w:World) :
  Rt 127 #[.int .i64 n] w (.string ⟨(yX n).toArray⟩):=by
 have f1:=Ld fun W=>yY5 n 0 999 W;by_cases h:0<=n/\n<=999
 ·obtain⟨u,rfl⟩:∃ u:Nat,n=(u:Int):=⟨n.toNat,by omega⟩;have HE:Hid (yX (u:Int)=(Tm.var u).bytes):=(by rw[Hid,yX,iP h];rfl);rw[show (decide ((0:Int)<=(u:Int))&&decide ((u:Int)<=999))=true by rw[dT h.1,dT h.2];rfl] at f1;have f2:=Ld fun W=>qX u W (by omega);generalize (Tm.var u).bytes=t at f2 HE;clear h;go_enter Tryz.func127,Tryz.ntmps127;go_wp2_with fail;(with_reducible refine mo (f1.out _) ?_);rintro w1 rfl;go_wp2_with fail;(with_reducible refine mo (f2.out _) fun w2 hb=>?_);go_wp2;go_ret;rw[HE.out];exact⟨rfl,hb⟩
 ·have HE:Hid (yX n=[]):=(by rw[Hid,yX,iN h]);rw[show (decide ((0:Int)<=n)&&decide (n<=999))=false by rw[Bool.and_eq_false_iff,decide_eq_false_iff_not,decide_eq_false_iff_not];omega] at f1;clear h;go_enter Tryz.func127,Tryz.ntmps127;go_wp2_with fail;(with_reducible refine mo (f1.out _) ?_);rintro w1 rfl;go_wp2;go_ret;rw[HE.out];exact⟨rfl,bR _ _⟩
structure KeepO (ob:Nat) (W W':World):Prop where
 os:W'.os=W.os
 tape:W'.tape=W.tape
 output:W'.output=W.output
 size:W.heap.size<=W'.heap.size
 low:∀ i,i<ob->W'.heap[i]?=W.heap[i]?
 typ:∀ i cur t fr,W.heap[i]?=some (.cells cur t fr)->t≠5->i≠ob->W'.heap[i]?=W.heap[i]?
theorem KeepO.refl(ob:Nat)(W:World):KeepO ob W W:=⟨rfl,rfl,rfl,nR _,fun _ _=>rfl,fun _ _ _ _ _ _ _=>rfl⟩
theorem KeepO.trans{ob:Nat}{W W1 W2:World}(h:KeepO ob W W1)(k:KeepO ob W1 W2):KeepO ob W W2 := ⟨k.os.trans h.os,k.tape.trans h.tape,k.output.trans h.output,Nat.le_trans h.size k.size,fun i hi=>(k.low i hi).trans (h.low i hi),
  fun i cur t fr hc ht hi=>(k.typ i cur t fr ((h.typ i cur t fr hc ht hi).trans hc) ht hi).trans (h.typ i cur t fr hc ht hi)⟩
theorem pI{W:World}{i:Nat}{o:Obj}(h:W.heap[i]?=some o):i<W.heap.size:=(Array.getElem?_eq_some_iff.1 h).1
theorem KeepO.below{ob:Nat}{W W':World}(hb:Below W.heap.size W W')(hob:ob<=W.heap.size):KeepO ob W W' := ⟨hb.os,hb.tape,hb.output,hb.size,fun i hi=>hb.block i (by omega),fun i _ _ _ hc _ _=>hb.block i (pI hc)⟩
theorem KeepO.belowOf{ob:Nat}{w W W':World}(h:KeepO ob W W')(hb:Below w.heap.size w W)(hob:w.heap.size<=ob):Below w.heap.size w W' := ⟨h.os.trans hb.os,h.tape.trans hb.tape,h.output.trans hb.output,Nat.le_trans hb.size h.size,fun i hi=>(h.low i (by omega)).trans (hb.block i hi)⟩
structure OSt (ob:Nat) (W:World) (vb:Value) (B:List UInt8) (bad:Bool):Prop where
 box:W.heap[ob]?=some (.cells #[vb,.bool bad] 182 (0,0))
 row:W.ownsRow (ob+1) 5 1 vb B.length (B.map bv)
theorem OSt.ne{ob:Nat}{W:World}{vb:Value}{B:List UInt8}{bad:Bool}(h:OSt ob W vb B bad):vb.ownBlock≠some ob:=fun e=>by
 have:=(h.row.lt ob e).1;omega
theorem OSt.below{ob:Nat}{W W':World}{vb:Value}{B:List UInt8}{bad:Bool}(h:OSt ob W vb B bad)(hb:Below W.heap.size W W'):OSt ob W' vb B bad := ⟨(hb.block ob (pI h.box)).trans h.box,zA h.row hb⟩
theorem mH(W:World)(ob j:Nat)(u:Value):W.grownBy (W.setCell ⟨ob,j,none⟩ u) (some ob) := ⟨rfl,rfl,rfl,by simp[World.setCell],fun k hk hne=>Below.heap_setCell _ _ _ _ (fun e=>hne (by rw[e]))⟩
theorem OSt.mark{ob:Nat}{W:World}{vb:Value}{B:List UInt8}{bad:Bool}(h:OSt ob W vb B bad) :
  OSt ob (W.setCell ⟨ob,1,none⟩ (.bool true)) vb B true/\KeepO ob W (W.setCell ⟨ob,1,none⟩ (.bool true)):=by
 have hg:=mH W ob 1 (.bool true);refine⟨⟨heap_setCell_same W ob 1 _ _ _ h.box,h.row.kept hg (.inr h.ne)⟩,rfl,rfl,rfl,hg.size,fun i hi=>heap_setCell_other _ _ _ _ (by show i≠ob;omega),fun i _ _ _ _ _ hi=>heap_setCell_other _ _ _ _ hi⟩
theorem OSt.add{ob:Nat}{W w6:World}{vb v':Value}{B C:List UInt8}{bad:Bool}(h:OSt ob W vb B bad)(hg:W.grownBy w6 vb.ownBlock)(hr:w6.ownsRow (ob+1) 5 1 v' C.length (C.map bv)) :
  OSt ob (w6.setCell ⟨ob,0,none⟩ v') v' C bad/\KeepO ob W (w6.setCell ⟨ob,0,none⟩ v'):=by
 have hl:=pI h.box;have hb6:w6.heap[ob]?=some (.cells #[vb,.bool bad] 182 (0,0)):=(hg.block ob hl (fun e=>h.ne e.symm)).trans h.box;have hg2:=mH w6 ob 0 v';have hne:v'.ownBlock≠some ob:=fun e=>by have:=(hr.lt ob e).1;omega
 refine⟨⟨heap_setCell_same w6 ob 0 _ _ _ hb6,hr.kept hg2 (.inr hne)⟩,hg.os,hg.tape,hg.output,Nat.le_trans hg.size hg2.size,fun i hi=>?_,fun i cur t fr hc ht hi=>?_⟩
 ·refine(heap_setCell_other _ _ _ _ (by show i≠ob;omega)).trans (hg.block i (by omega) fun e=>?_);have:=(h.row.lt i e.symm).1;omega
 ·refine(heap_setCell_other _ _ _ _ hi).trans (hg.block i (pI hc) fun e=>?_);rcases h.row.2 with ⟨e2,_⟩|⟨g,cap,cu,e2,_,hgh,_⟩
  ·rw[e2] at e;cases e
  ·rw[e2] at e;simp only[Value.ownBlock,Option.some.injEq] at e;subst e;rw[hc] at hgh;simp only[Option.some.injEq,Obj.cells.injEq] at hgh;exact ht hgh.2.1
theorem KeepO.row{ob:Nat}{W W':World}{b n z:Nat}{e:TypeId}{v:Value}{xs:List Value}(h:KeepO ob W W'){vb:Value}{B:List UInt8}{bad:Bool}(ho:OSt ob W vb B bad)
  (hr:W.ownsRow b e z v n xs) (h1:e≠5) (h2:e≠182):W'.ownsRow b e z v n xs:=by
 refine⟨hr.1,?_⟩;rcases hr.2 with hz|⟨g,cap,cur,e1,hb,hg,rest⟩
 ·exact .inl hz
 ·refine .inr ⟨g,cap,cur,e1,hb,?_,rest⟩;rw[h.typ g _ _ _ hg h1 (fun e=>?_)]
  ·exact hg
  ·subst e;rw[ho.box] at hg;simp only[Option.some.injEq,Obj.cells.injEq] at hg;exact h2 hg.2.1.symm
theorem KeepO.keepS{ob:Nat}{W W':World}(h:KeepO ob W W'){vb:Value}{B:List UInt8}{bad:Bool}(ho:OSt ob W vb B bad)(M:Nat):uF M W W' :=
 fun _ _ _ hr=>h.row ho hr (by decide) (by decide)
def pM (ob:Nat) (W:World) (st:Option (List UInt8)):Prop:=∃ vb B bad,OSt ob W vb B bad/\B.length<=2000/\st=if bad=true then none else some B
theorem xE5:(Tryz.prog.info? 5).map (fun i=>(i.zero,i.size,i.bytes))=some (some (.int .u8 0),1,1):=by kernel_rfl
theorem lV{w:World}{b n:Nat}{v:Value}{xs:List Value}(h:w.ownsRow b 5 1 v n xs):∃ a cap,v=.slice a n cap:=by
 rcases h.2 with ⟨rfl,rfl⟩|⟨g,cap,cur,rfl,_⟩
 ·exact⟨_,_,rfl⟩
 ·exact⟨_,_,rfl⟩
theorem nO(s:List UInt8){ob:Nat}{W:World}{st:Option (List UInt8)}(h:pM ob W st)(hs:s.length<=100000000) :
  Calls Tryz.prog 206 #[.pointer (some ⟨ob,0,none⟩),.string ⟨s.toArray⟩] W fun e W'=>e=.returned (.tuple #[])/\KeepO ob W W'/\pM ob W' (xI7 st s):=by
 obtain⟨vb,B,bad,ho,hB,rfl⟩:=h;obtain⟨a0,cap,rfl⟩:=lV ho.row;have c0:W.cell? ⟨ob,0,none⟩=some (.slice a0 B.length cap):=cell_of_row _ _ _ _ _ _ ho.box;have c1:W.cell? ⟨ob,1,none⟩=some (.bool bad):=cell_of_row _ _ _ _ _ _ ho.box;have z0:W.frozen? ⟨ob,0,none⟩=false:=frozen_of_row _ _ _ _ _ ho.box;have z1:W.frozen? ⟨ob,1,none⟩=false:=frozen_of_row _ _ _ _ _ ho.box;have hz:(⟨s.toArray⟩:ByteArray).size=s.length:=by simp[ByteArray.size]
 by_cases hlong:B.length+s.length<=2000
 ·have d1:decide ((2000:Int)<(B.length:Int)+(s.length:Int))=false:=dF (by omega);cases bad
  ·obtain⟨i0,hi,hz0,hz1,hz2⟩:=info_parts xE5;have hob:=pI ho.box;have HO:=Ld ho;clear ho;go_enter Tryz.func206,Tryz.ntmps206;go_wp2_with (at_builtin;refine Lib.wpList_append_own_string _ rfl _ _ 97 9 rfl (ob+1) 5 i0 Tryz.underlying97 Tryz.underlying9 hi hz0 hz1 hz2 _ _ _ rfl HO.out.row ⟨s.toArray⟩ rfl (by simp only[maxLen];omega) (by omega) (by omega) ?_;intro v1 w2 hown1 hgrow hat;obtain⟨a1,cp1,rfl⟩:=lV hown1;have hb6:=(hgrow.block ob hob (fun e=>HO.out.ne e.symm)).trans HO.out.box;have k0:w2.cell? ⟨ob,0,none⟩=some (.slice a0 B.length cap):=cell_of_row _ _ _ _ _ _ hb6;have y0:w2.frozen? ⟨ob,0,none⟩=false:=frozen_of_row _ _ _ _ _ hb6);have hC:w2.ownsRow (ob+1) 5 1 (.slice a1 (B.length+s.length) cp1) (B++s).length ((B++s).map bv):=by
    rw[hz] at hown1;rw[lA,List.map_append];exact hown1
   obtain⟨r1,r2⟩:=HO.out.add hgrow hC;have R1:=Ld r1;have R2:=Ld r2;clear hown1 hgrow hat hb6 hC r1 r2;go_wp2;go_end0;refine⟨rfl,R2.out,_,B++s,false,R1.out,by rw[lA];exact hlong,?_⟩;simp[xI7,hlong]
  ·have HO:=Ld ho;clear ho;go_enter Tryz.func206,Tryz.ntmps206;go_wp2;go_end0;exact⟨rfl,KeepO.refl _ _,_,B,true,HO.out,hB,by simp[xI7]⟩
 ·have d1:decide ((2000:Int)<(B.length:Int)+(s.length:Int))=true:=dT (by omega);obtain⟨r1,r2⟩:=ho.mark;have R1:=Ld r1;have R2:=Ld r2;have k1:(W.setCell ⟨ob,1,none⟩ (.bool true)).cell? ⟨ob,1,none⟩=some (.bool true):=cell_of_row _ _ _ _ _ _ r1.box;clear ho r1 r2;cases bad
  all_goals
   go_enter Tryz.func206,Tryz.ntmps206;go_wp2;go_end0;exact⟨rfl,R2.out,_,B,true,R1.out,hB,by simp[xI7,hlong]⟩
theorem pM.below{ob:Nat}{W W':World}{st:Option (List UInt8)}(h:pM ob W st)(hb:Below W.heap.size W W'):pM ob W' st:=by
 obtain⟨vb,B,bad,ho,hB,e⟩:=h;exact⟨vb,B,bad,ho.below hb,hB,e⟩
theorem pM.lt{ob:Nat}{W:World}{st:Option (List UInt8)}(h:pM ob W st):ob<W.heap.size:=by
 obtain⟨vb,B,bad,ho,_,_⟩:=h;exact pI ho.box
theorem KeepO.rowO{ob:Nat}{W W':World}{b n z:Nat}{e:TypeId}{v:Value}{xs:List Value}(h:KeepO ob W W'){st:Option (List UInt8)}(ho:pM ob W st)
  (hr:W.ownsRow b e z v n xs) (h1:e≠5) (h2:e≠182):W'.ownsRow b e z v n xs:=by
 obtain⟨vb,B,bad,ho,_,_⟩:=ho;exact h.row ho hr h1 h2
theorem KeepO.keepSO{ob:Nat}{W W':World}(h:KeepO ob W W'){st:Option (List UInt8)}(ho:pM ob W st)(M:Nat):uF M W W':=by
 obtain⟨vb,B,bad,ho,_,_⟩:=ho;exact h.keepS ho M
theorem zS6{q:UInt8}(e1:((q.toNat:Int)==118)=false)(e2:((q.toNat:Int)==115)=false)(e3:((q.toNat:Int)==99)=false)(e4:((q.toNat:Int)==116)=false)(e5:((q.toNat:Int) != 64)=true){ns:List Nd}(hn:ns.length<=100000)(hsl:∀ nd∈ns,∃ a n c,nd.lv=.slice a n c){b M ob a:Nat}(ha:a<=999){C:Tm->Tm->Tm}{f x:Tm}
  (ihf:∀ (k c:Nat) (W:World) (v:Value) (st:Option (List UInt8)),pM ob W st->W.ownsRow b 94 7 v ns.length (uG ns)->Rep W M ns k f->f.Ok->f.bytes.length<=100000->c+f.bytes.length<=200000->Calls Tryz.prog 169 #[.pointer (some ⟨ob,0,none⟩),v,.int .i64 (k:Int),.int .i64 (a:Int),.int .i64 (c:Int)] W fun e w'=>e=.returned (.tuple #[])/\KeepO ob W w'/\pM ob w' (vV st (f.lift a c)))
  (ihx:∀ (k c:Nat) (W:World) (v:Value) (st:Option (List UInt8)),pM ob W st->W.ownsRow b 94 7 v ns.length (uG ns)->Rep W M ns k x->x.Ok->x.bytes.length<=100000->c+x.bytes.length<=200000->Calls Tryz.prog 169 #[.pointer (some ⟨ob,0,none⟩),v,.int .i64 (k:Int),.int .i64 (a:Int),.int .i64 (c:Int)] W fun e w'=>e=.returned (.tuple #[])/\KeepO ob W w'/\pM ob w' (vV st (x.lift a c)))
  (k c:Nat) (hC:∀ s,vV (vV (xI7 s [q]) (f.lift a c)) (x.lift a (c+1))=vV s ((C f x).lift a c)) (W:World) (v:Value) (st:Option (List UInt8)) (hO:pM ob W st) (hrow:W.ownsRow b 94 7 v ns.length (uG ns)) (hr:∃ nd,ns[k]?=some nd/\nd.kind=q/\Rep W M ns nd.a f/\Rep W M ns nd.b x) (hok:f.Ok/\x.Ok) (hle:(q::(f.bytes++x.bytes)).length<=100000) (hcc:c+(q::(f.bytes++x.bytes)).length<=200000) :
  Calls Tryz.prog 169 #[.pointer (some ⟨ob,0,none⟩),v,.int .i64 (k:Int),.int .i64 (a:Int),.int .i64 (c:Int)] W fun e w'=>e=.returned (.tuple #[])/\KeepO ob W w'/\pM ob w' (vV st ((C f x).lift a c)):=by
 obtain⟨nd,hnd,HK⟩:=hr;obtain⟨sa,sn,sc,hlv⟩:=hsl nd (List.mem_of_getElem? hnd);have hlt:k<ns.length:=by
  by_cases hl:k<ns.length
  ·exact hl
  ·rw[List.getElem?_eq_none (by omega)] at hnd;cases hnd
 obtain⟨g,cap,rfl,_,hgl⟩:=hrow.form (by omega);obtain⟨c0,c1,c2,c3,c4,c5,c6⟩:=xT hrow hnd hlv;have q1:=zn k;have q2:(k:Int)<(ns.length:Int):=by omega
 obtain⟨hkind,hr1,hr2⟩:=HK;rw[hkind] at c0;have b1:=(bR W.heap.size W).alloc (nR _) (nC (q.toNat:Int) nd (.slice sa sn sc) 94);have HO1:=hO.below b1;have hob:=hO.lt;have KB:KeepO ob W (W.alloc (nC (q.toNat:Int) nd (.slice sa sn sc) 94)):=KeepO.below b1 (Nat.le_of_lt hob);obtain⟨vb,B,bad,ho,hB,rfl⟩:=HO1;have k1:(W.alloc (nC (q.toNat:Int) nd (.slice sa sn sc) 94)).cell? ⟨ob,1,none⟩=some (.bool bad):=cell_of_row _ _ _ _ _ _ ho.box;cases bad;rotate_left
 ·have HS:=Ld ho;have KB':=KB;clear hO hrow hnd hkind hlv hsl ho b1 KB hr1 hr2 ihf ihx;go_enter Tryz.func169,Tryz.ntmps169;go_wp2;refine bodyPost_ret (results_none rfl _ _ _) rfl ?_;exact⟨rfl,KB',⟨vb,B,true,HS.out,hB,rfl⟩⟩
 have HO2:Hid (pM ob (W.alloc (nC (q.toNat:Int) nd (.slice sa sn sc) 94)) (some B)):=⟨vb,B,false,ho,hB,rfl⟩;have HKB:=Ld KB;have hblk:(W.alloc (nC (q.toNat:Int) nd (.slice sa sn sc) 94)).heap[W.heap.size]?=some (nC (q.toNat:Int) nd (.slice sa sn sc) 94 (0,0)):=heap_alloc_new W _;have HBC:Hid (∀ W',KeepO ob (W.alloc (nC (q.toNat:Int) nd (.slice sa sn sc) 94)) W'->W'.cell? ⟨W.heap.size,0,none⟩=some (.int .u8 (q.toNat:Int))/\W'.cell? ⟨W.heap.size,1,none⟩=some (.int .i64 (nd.a:Int))/\W'.cell? ⟨W.heap.size,2,none⟩=some (.int .i64 (nd.b:Int))/\W'.cell? ⟨W.heap.size,3,none⟩=some (.int .i64 (nd.c:Int))):=fun W' hk=>by
  have h:=(hk.typ _ _ _ _ hblk (by decide) (by omega)).trans hblk;exact⟨cell_of_row _ _ _ _ _ _ h,cell_of_row _ _ _ _ _ _ h,cell_of_row _ _ _ _ _ _ h,cell_of_row _ _ _ _ _ _ h⟩
 have Hf:Hid (∀ W' s',KeepO ob (W.alloc (nC (q.toNat:Int) nd (.slice sa sn sc) 94)) W'->pM ob W' s'->Calls Tryz.prog 169 #[.pointer (some ⟨ob,0,none⟩),.slice (some ⟨g,0,none⟩) ns.length cap,.int .i64 (nd.a:Int),.int .i64 (a:Int),.int .i64 (c:Int)] W' fun e w'=>e=.returned (.tuple #[])/\KeepO ob W' w'/\pM ob w' (vV s' (f.lift a c))):=fun W' s' hk ho'=>by
  have:=ihf nd.a c W' _ s' ho' (hk.rowO HO2.out (zA hrow b1) (by decide) (by decide)) (Rep.keep (hk.keepSO HO2.out M) (Ext.refl _) _ _ (Rep.keep (fun _ _ _ h=>zA h b1) (Ext.refl _) _ _ hr1)) hok.1 (by simp only[lC,lA] at hle;omega) (by simp only[lC,lA] at hcc;omega);exact this
 have Hx:Hid (∀ W' s',KeepO ob (W.alloc (nC (q.toNat:Int) nd (.slice sa sn sc) 94)) W'->pM ob W' s'->Calls Tryz.prog 169 #[.pointer (some ⟨ob,0,none⟩),.slice (some ⟨g,0,none⟩) ns.length cap,.int .i64 (nd.b:Int),.int .i64 (a:Int),.int .i64 ((c:Int)+1)] W' fun e w'=>e=.returned (.tuple #[])/\KeepO ob W' w'/\pM ob w' (vV s' (x.lift a (c+1)))):=fun W' s' hk ho'=>by
  have:=ihx nd.b (c+1) W' _ s' ho' (hk.rowO HO2.out (zA hrow b1) (by decide) (by decide)) (Rep.keep (hk.keepSO HO2.out M) (Ext.refl _) _ _ (Rep.keep (fun _ _ _ h=>zA h b1) (Ext.refl _) _ _ hr2)) hok.2 (by simp only[lC,lA] at hle;omega) (by simp only[lC,lA] at hcc;omega);rw[show ((c+1:Nat):Int)=(c:Int)+1 by omega] at this;exact this
 have HE:Hid (vV (vV (xI7 (some B) [q]) (f.lift a c)) (x.lift a (c+1))=vV (some B) ((C f x).lift a c)):=hC _;have z1:(W.alloc (nC (q.toNat:Int) nd (.slice sa sn sc) 94)).heap.size=W.heap.size+1:=by simp
 clear hO hrow hnd hkind hlv hsl ho b1 KB hblk hr1 hr2 ihf ihx hok hle;generalize f.lift a c=fl at Hf HE;generalize x.lift a (c+1)=xl at Hx HE;have cv:=lH (P:=Tryz.prog) (t:=97) (d:=9) (W.alloc (nC (q.toNat:Int) nd (.slice sa sn sc) 94)) (q.toNat:Int) Tryz.underlying97 Tryz.underlying5 Tryz.underlying9 (by omega) (by have:=q.toNat_lt;omega);rw[z1,show (⟨#[UInt8.ofNat ((q.toNat:Int).toNat)]⟩:ByteArray)=⟨#[q]⟩ by rw[Int.toNat_natCast,UInt8.ofNat_toNat]] at cv;have bs:=(bR (W.alloc (nC (q.toNat:Int) nd (.slice sa sn sc) 94)).heap.size (W.alloc (nC (q.toNat:Int) nd (.slice sa sn sc) 94))).alloc (nR _) (.cells #[.int .u8 (q.toNat:Int)] 5);have HO3:=HO2.out.below bs;have HK3:=Ld (KeepO.below bs (Nat.le_of_lt HO2.out.lt));have fS:=Ld (nO [q] HO3 (by simp));clear bs HO3;go_enter Tryz.func169,Tryz.ntmps169;go_wp2_with fail
 (refine fS.out.mono ?_);rintro e w3 ⟨rfl,hk3,ho3⟩
 have HKc:=Ld (HK3.out.trans hk3);have HOc:=Ld ho3;clear hk3 ho3 HK3 fS cv;obtain⟨x0,x1,x2,x3⟩:=HBC.out _ HKc.out;go_wp2_with fail;(with_reducible refine(Hf.out _ _ HKc.out HOc.out).mono ?_);rintro e w4 ⟨rfl,hk4,ho4⟩;have HK4:=Ld (HKc.out.trans hk4);have HO4:=Ld ho4;clear hk4 ho4 HKc HOc x0 x1 x2 x3 Hf;have HKc:=HK4;have HOc:=HO4;clear HK4 HO4;obtain⟨x0,x1,x2,x3⟩:=HBC.out _ HKc.out;go_wp2_with fail;(with_reducible refine(Hx.out _ _ HKc.out HOc.out).mono ?_);rintro e w5 ⟨rfl,hk4,ho4⟩;have HK5:=Ld (HKc.out.trans hk4);have HO5:=Ld ho4;clear hk4 ho4 HKc HOc x0 x1 x2 x3 Hx;have HKc:=HK5;have HOc:=HO5;clear HK5 HO5;obtain⟨x0,x1,x2,x3⟩:=HBC.out _ HKc.out;have H:=Ld (And.intro (HKB.out.trans HKc.out) HOc.out);clear HKc HOc x0 x1 x2 x3 HBC HKB;go_wp2
 first|go_end0|refine bodyPost_ret (results_none rfl _ _ _) rfl ?_
 rw[← HE.out];exact⟨rfl,H.out⟩
theorem yO9{ns:List Nd}(hn:ns.length<=100000)(hsl:∀ nd∈ns,∃ a n c,nd.lv=.slice a n c){b M ob a:Nat}(ha:a<=999):∀ (T:Tm) (k c:Nat) (W:World) (v:Value) (st:Option (List UInt8)),pM ob W st->W.ownsRow b 94 7 v ns.length (uG ns)->Rep W M ns k T->T.Ok->T.bytes.length<=100000->c+T.bytes.length<=200000 ->
  Calls Tryz.prog 169 #[.pointer (some ⟨ob,0,none⟩),v,.int .i64 (k:Int),.int .i64 (a:Int),.int .i64 (c:Int)] W fun e w'=>e=.returned (.tuple #[])/\KeepO ob W w'/\pM ob w' (vV st (T.lift a c)):=by
 have hklt:∀ (k:Nat) nd,ns[k]?=some nd->k<ns.length:=fun k nd h=>by
  by_cases hl:k<ns.length
  ·exact hl
  ·rw[List.getElem?_eq_none (by omega)] at h;cases h
 intro T
 induction T with
|var n =>
  intro k c W v st hO hrow hr hok hle hcc;obtain⟨nd,hnd,HK⟩:=hr;obtain⟨sa,sn,sc,hlv⟩:=hsl nd (List.mem_of_getElem? hnd);have hlt:=hklt k nd hnd;obtain⟨g,cap,rfl,_,hgl⟩:=hrow.form (by omega);obtain⟨c0,c1,c2,c3,c4,c5,c6⟩:=xT hrow hnd hlv;have q1:=zn k;have q2:(k:Int)<(ns.length:Int):=(by omega);have hkind:nd.kind=118:=HK.1;have hnum:nd.num=n:=HK.2.1;have hn9:n<=999:=hok;rw[hkind] at c0;rw[hnum] at c4;clear hnum;have b1:=(bR W.heap.size W).alloc (nR _) (.cells #[.int .u8 118,.int .i64 (nd.a:Int),.int .i64 (nd.b:Int),.int .i64 (nd.c:Int),.int .i64 (n:Int),.string ⟨nd.text.toArray⟩,.slice sa sn sc] 94);have HO1:=hO.below b1;have hob:=hO.lt;have KB:KeepO ob W (W.alloc (.cells #[.int .u8 118,.int .i64 (nd.a:Int),.int .i64 (nd.b:Int),.int .i64 (nd.c:Int),.int .i64 (n:Int),.string ⟨nd.text.toArray⟩,.slice sa sn sc] 94)):=KeepO.below b1 (Nat.le_of_lt hob);obtain⟨vb,B,bad,ho,hB,rfl⟩:=HO1;have k1:(W.alloc (.cells #[.int .u8 118,.int .i64 (nd.a:Int),.int .i64 (nd.b:Int),.int .i64 (nd.c:Int),.int .i64 (n:Int),.string ⟨nd.text.toArray⟩,.slice sa sn sc] 94)).cell? ⟨ob,1,none⟩=some (.bool bad):=cell_of_row _ _ _ _ _ _ ho.box;cases bad;rotate_left
  ·have HS:=Ld ho;have KB':=KB;clear hO hrow hnd hkind hlv hsl hklt ho b1 KB HK;go_enter Tryz.func169,Tryz.ntmps169;go_wp2;refine bodyPost_ret (results_none rfl _ _ _) rfl ?_;exact⟨rfl,KB',⟨vb,B,true,HS.out,hB,rfl⟩⟩
  have HO1:pM ob (W.alloc (.cells #[.int .u8 118,.int .i64 (nd.a:Int),.int .i64 (nd.b:Int),.int .i64 (nd.c:Int),.int .i64 (n:Int),.string ⟨nd.text.toArray⟩,.slice sa sn sc] 94)) (some B):=⟨vb,B,false,ho,hB,rfl⟩;have HOS:=Ld ho;have HO2:=Ld HO1;have HKB:=Ld KB;have fV:=Ld qX;have z1:(W.alloc (.cells #[.int .u8 118,.int .i64 (nd.a:Int),.int .i64 (nd.b:Int),.int .i64 (nd.c:Int),.int .i64 (n:Int),.string ⟨nd.text.toArray⟩,.slice sa sn sc] 94)).frozen? ⟨ob,1,none⟩=false:=frozen_of_row _ _ _ _ _ ho.box;by_cases hc:c<=n
  ·have d1:decide ((c:Int)<=(n:Int))=true:=dT (by omega);have d1n:decide (c<=n)=true:=dT hc;by_cases h9:n+a<=999
   ·have d2:decide ((999:Int)<(n:Int)+(a:Int))=false:=dF (by omega);have hR:(Tm.var n).lift a c=.var (n+a):=(by rw[Tm.lift,iP hc]);have HE:Hid (vV (some B) ((Tm.var n).lift a c)=xI7 (some B) (Tm.var (n+a)).bytes):=(by rw[Hid,hR];exact cA (R:=.var (n+a)) h9 _);have zb:(Tm.var (n+a)).bytes.length<=12:=by
     have hd:(Lib.decDigits (n+a)).length<=10:=vS (by omega);simp only[Tm.bytes,lC,lA,List.length_nil];omega
    have fV2:=Ld fun W=>qX (n+a) W (by omega);rw[show ((n+a:Nat):Int)=(n:Int)+(a:Int) by omega] at fV2;clear hO hrow hnd hkind hlv hsl hklt ho b1 KB HK HO1 z1 hR fV;generalize (Tm.var (n+a)).bytes=tb at fV2 HE zb;go_enter Tryz.func169,Tryz.ntmps169;go_wp2_with fail;(with_reducible refine mo (fV2.out _) fun w2 hb2=>?_);have HO3:=HO2.out.below hb2;have K3:=HKB.out.trans (KeepO.below hb2 (Nat.le_of_lt HO2.out.lt));have fS:=Ld (nO tb HO3 (by omega));have HK3:=Ld K3;clear HO3 K3 hb2;go_wp2_with fail;(with_reducible refine fS.out.mono ?_);rintro e w3 ⟨rfl,hk3,ho3⟩;have H:=Ld (And.intro (HK3.out.trans hk3) ho3);clear hk3 ho3;go_wp2
    first|go_end0|refine bodyPost_ret (results_none rfl _ _ _) rfl ?_
    rw[HE.out];exact⟨rfl,H.out⟩
   ·have d2:decide ((999:Int)<(n:Int)+(a:Int))=true:=dT (by omega);have hR:(Tm.var n).lift a c=.var (n+a):=(by rw[Tm.lift,iP hc]);have HE:Hid (vV (some B) ((Tm.var n).lift a c)=none):=(by rw[Hid,hR];exact yP6 (R:=.var (n+a)) h9 _);obtain⟨r1,r2⟩:=ho.mark;have H:Hid (KeepO ob W ((W.alloc (.cells #[.int .u8 118,.int .i64 (nd.a:Int),.int .i64 (nd.b:Int),.int .i64 (nd.c:Int),.int .i64 (n:Int),.string ⟨nd.text.toArray⟩,.slice sa sn sc] 94)).setCell ⟨ob,1,none⟩ (.bool true))/\pM ob ((W.alloc (.cells #[.int .u8 118,.int .i64 (nd.a:Int),.int .i64 (nd.b:Int),.int .i64 (nd.c:Int),.int .i64 (n:Int),.string ⟨nd.text.toArray⟩,.slice sa sn sc] 94)).setCell ⟨ob,1,none⟩ (.bool true)) none):=⟨KB.trans r2,vb,B,true,r1,hB,rfl⟩;clear hO hrow hnd hkind hlv hsl hklt ho b1 KB HK HO1 hR fV r1 r2;go_enter Tryz.func169,Tryz.ntmps169;go_wp2
    first|go_end0|refine bodyPost_ret (results_none rfl _ _ _) rfl ?_
    rw[HE.out];have HH:=H.out;rw[World.setCell_alloc_past (hn:=hob)] at HH;exact⟨rfl,HH⟩
  ·have d1:decide ((c:Int)<=(n:Int))=false:=dF (by omega);have d1n:decide (c<=n)=false:=dF hc;have hR:(Tm.var n).lift a c=.var n:=(by rw[Tm.lift,iN hc]);have HE:Hid (vV (some B) ((Tm.var n).lift a c)=xI7 (some B) (Tm.var n).bytes):=(by rw[Hid,hR];exact cA (R:=.var n) hn9 _);have zb:(Tm.var n).bytes.length<=12:=by
    have hd:(Lib.decDigits n).length<=10:=vS (by omega);simp only[Tm.bytes,lC,lA,List.length_nil];omega
   have fV2:=Ld fun W=>qX n W (by omega);clear hO hrow hnd hkind hlv hsl hklt ho b1 KB HK HO1 z1 hR fV;generalize (Tm.var n).bytes=tb at fV2 HE zb;go_enter Tryz.func169,Tryz.ntmps169;go_wp2_with fail;(with_reducible refine mo (fV2.out _) fun w2 hb2=>?_);have HO3:=HO2.out.below hb2;have K3:=HKB.out.trans (KeepO.below hb2 (Nat.le_of_lt HO2.out.lt));have fS:=Ld (nO tb HO3 (by omega));have HK3:=Ld K3;clear HO3 K3 hb2;go_wp2_with fail;(with_reducible refine fS.out.mono ?_);rintro e w3 ⟨rfl,hk3,ho3⟩;have H:=Ld (And.intro (HK3.out.trans hk3) ho3);clear hk3 ho3;go_wp2
   first|go_end0|refine bodyPost_ret (results_none rfl _ _ _) rfl ?_
   rw[HE.out];exact⟨rfl,H.out⟩
|sort l =>
  intro k c W v st hO hrow hr hok hle hcc;obtain⟨nd,hnd,HK⟩:=hr;obtain⟨sa,sn,sc,hlv⟩:=hsl nd (List.mem_of_getElem? hnd);have hlt:=hklt k nd hnd;obtain⟨g,cap,rfl,_,hgl⟩:=hrow.form (by omega);obtain⟨c0,c1,c2,c3,c4,c5,c6⟩:=xT hrow hnd hlv;have q1:=zn k;have q2:(k:Int)<(ns.length:Int):=(by omega);have hkind:nd.kind=115:=HK.1;rw[hkind] at c0;have hrep:Rep W M ns k (.sort l):=⟨nd,hnd,HK⟩;have b1:=(bR W.heap.size W).alloc (nR _) (nC 115 nd (.slice sa sn sc) 94);have HO1:=hO.below b1;have hob:=hO.lt;have KB:KeepO ob W (W.alloc (nC 115 nd (.slice sa sn sc) 94)):=KeepO.below b1 (Nat.le_of_lt hob);obtain⟨vb,B,bad,ho,hB,rfl⟩:=HO1;have k1:(W.alloc (nC 115 nd (.slice sa sn sc) 94)).cell? ⟨ob,1,none⟩=some (.bool bad):=cell_of_row _ _ _ _ _ _ ho.box;cases bad;rotate_left
  ·have HS:=Ld ho;have KB':=KB;clear hrep;clear hO hrow hnd hkind hlv hsl hklt ho b1 KB HK;go_enter Tryz.func169,Tryz.ntmps169;go_wp2;refine bodyPost_ret (results_none rfl _ _ _) rfl ?_;exact⟨rfl,KB',⟨vb,B,true,HS.out,hB,rfl⟩⟩
  have HO2:Hid (pM ob (W.alloc (nC 115 nd (.slice sa sn sc) 94)) (some B)):=⟨vb,B,false,ho,hB,rfl⟩;have HKB:=Ld KB;have hR:(Tm.sort l).lift a c=.sort l:=rfl;have HE:Hid (vV (some B) ((Tm.sort l).lift a c)=xI7 (some B) (Tm.sort l).bytes):=(by rw[Hid,hR];exact cA hok _);have fT:=Ld (qZ hn hsl (.sort l) k _ _ (zA hrow b1) (Rep.keep (fun _ _ _ h=>zA h b1) (Ext.refl _) _ _ hrep) hok hle);clear hO hrow hnd hkind hlv hsl hklt ho b1 KB HK hrep hR hok;generalize (Tm.sort l).bytes=tb at fT HE hle;go_enter Tryz.func169,Tryz.ntmps169;go_wp2_with fail;(with_reducible refine mo fT.out fun w2 hb2=>?_);have HO3:=HO2.out.below hb2;have K3:=HKB.out.trans (KeepO.below hb2 (Nat.le_of_lt HO2.out.lt));have fS:=Ld (nO tb HO3 (by omega));have HK3:=Ld K3;clear HO3 K3 hb2;go_wp2_with fail;(with_reducible refine fS.out.mono ?_);rintro e w3 ⟨rfl,hk3,ho3⟩;have H:=Ld (And.intro (HK3.out.trans hk3) ho3);clear hk3 ho3;go_wp2
  first|go_end0|refine bodyPost_ret (results_none rfl _ _ _) rfl ?_
  rw[HE.out];exact⟨rfl,H.out⟩
|const n ls =>
  intro k c W v st hO hrow hr hok hle hcc;obtain⟨nd,hnd,HK⟩:=hr;obtain⟨sa,sn,sc,hlv⟩:=hsl nd (List.mem_of_getElem? hnd);have hlt:=hklt k nd hnd;obtain⟨g,cap,rfl,_,hgl⟩:=hrow.form (by omega);obtain⟨c0,c1,c2,c3,c4,c5,c6⟩:=xT hrow hnd hlv;have q1:=zn k;have q2:(k:Int)<(ns.length:Int):=(by omega);have hkind:nd.kind=99:=HK.1;rw[hkind] at c0;have hrep:Rep W M ns k (.const n ls):=⟨nd,hnd,HK⟩;have b1:=(bR W.heap.size W).alloc (nR _) (nC 99 nd (.slice sa sn sc) 94);have HO1:=hO.below b1;have hob:=hO.lt;have KB:KeepO ob W (W.alloc (nC 99 nd (.slice sa sn sc) 94)):=KeepO.below b1 (Nat.le_of_lt hob);obtain⟨vb,B,bad,ho,hB,rfl⟩:=HO1;have k1:(W.alloc (nC 99 nd (.slice sa sn sc) 94)).cell? ⟨ob,1,none⟩=some (.bool bad):=cell_of_row _ _ _ _ _ _ ho.box;cases bad;rotate_left
  ·have HS:=Ld ho;have KB':=KB;clear hrep;clear hO hrow hnd hkind hlv hsl hklt ho b1 KB HK;go_enter Tryz.func169,Tryz.ntmps169;go_wp2;refine bodyPost_ret (results_none rfl _ _ _) rfl ?_;exact⟨rfl,KB',⟨vb,B,true,HS.out,hB,rfl⟩⟩
  have HO2:Hid (pM ob (W.alloc (nC 99 nd (.slice sa sn sc) 94)) (some B)):=⟨vb,B,false,ho,hB,rfl⟩;have HKB:=Ld KB;have hR:(Tm.const n ls).lift a c=.const n ls:=rfl;have HE:Hid (vV (some B) ((Tm.const n ls).lift a c)=xI7 (some B) (Tm.const n ls).bytes):=(by rw[Hid,hR];exact cA hok _);have fT:=Ld (qZ hn hsl (.const n ls) k _ _ (zA hrow b1) (Rep.keep (fun _ _ _ h=>zA h b1) (Ext.refl _) _ _ hrep) hok hle);clear hO hrow hnd hkind hlv hsl hklt ho b1 KB HK hrep hR hok;generalize (Tm.const n ls).bytes=tb at fT HE hle;go_enter Tryz.func169,Tryz.ntmps169;go_wp2_with fail;(with_reducible refine mo fT.out fun w2 hb2=>?_);have HO3:=HO2.out.below hb2;have K3:=HKB.out.trans (KeepO.below hb2 (Nat.le_of_lt HO2.out.lt));have fS:=Ld (nO tb HO3 (by omega));have HK3:=Ld K3;clear HO3 K3 hb2;go_wp2_with fail;(with_reducible refine fS.out.mono ?_);rintro e w3 ⟨rfl,hk3,ho3⟩;have H:=Ld (And.intro (HK3.out.trans hk3) ho3);clear hk3 ho3;go_wp2
  first|go_end0|refine bodyPost_ret (results_none rfl _ _ _) rfl ?_
  rw[HE.out];exact⟨rfl,H.out⟩
|app f x ihf ihx =>
  intro k c W v st hO hrow hr hok hle hcc;obtain⟨nd,hnd,HK⟩:=hr;obtain⟨sa,sn,sc,hlv⟩:=hsl nd (List.mem_of_getElem? hnd);have hlt:=hklt k nd hnd;obtain⟨g,cap,rfl,_,hgl⟩:=hrow.form (by omega);obtain⟨c0,c1,c2,c3,c4,c5,c6⟩:=xT hrow hnd hlv;have q1:=zn k;have q2:(k:Int)<(ns.length:Int):=(by omega);obtain⟨hkind,hr1,hr2⟩:=HK;rw[hkind] at c0;have b1:=(bR W.heap.size W).alloc (nR _) (nC 64 nd (.slice sa sn sc) 94);have HO1:=hO.below b1;have hob:=hO.lt;have KB:KeepO ob W (W.alloc (nC 64 nd (.slice sa sn sc) 94)):=KeepO.below b1 (Nat.le_of_lt hob);obtain⟨vb,B,bad,ho,hB,rfl⟩:=HO1;have k1:(W.alloc (nC 64 nd (.slice sa sn sc) 94)).cell? ⟨ob,1,none⟩=some (.bool bad):=cell_of_row _ _ _ _ _ _ ho.box;cases bad;rotate_left
  ·have HS:=Ld ho;have KB':=KB;clear hO hrow hnd hkind hlv hsl hklt ho b1 KB hr1 hr2 ihf ihx;go_enter Tryz.func169,Tryz.ntmps169;go_wp2;refine bodyPost_ret (results_none rfl _ _ _) rfl ?_;exact⟨rfl,KB',⟨vb,B,true,HS.out,hB,rfl⟩⟩
  have HO2:Hid (pM ob (W.alloc (nC 64 nd (.slice sa sn sc) 94)) (some B)):=⟨vb,B,false,ho,hB,rfl⟩;have HKB:=Ld KB;have hblk:(W.alloc (nC 64 nd (.slice sa sn sc) 94)).heap[W.heap.size]?=some (nC 64 nd (.slice sa sn sc) 94 (0,0)):=heap_alloc_new W _;have HBC:Hid (∀ W',KeepO ob (W.alloc (nC 64 nd (.slice sa sn sc) 94)) W'->W'.cell? ⟨W.heap.size,0,none⟩=some (.int .u8 64)/\W'.cell? ⟨W.heap.size,1,none⟩=some (.int .i64 (nd.a:Int))/\W'.cell? ⟨W.heap.size,2,none⟩=some (.int .i64 (nd.b:Int))/\W'.cell? ⟨W.heap.size,3,none⟩=some (.int .i64 (nd.c:Int))):=fun W' hk=>by
   have h:=(hk.typ _ _ _ _ hblk (by decide) (by omega)).trans hblk;exact⟨cell_of_row _ _ _ _ _ _ h,cell_of_row _ _ _ _ _ _ h,cell_of_row _ _ _ _ _ _ h,cell_of_row _ _ _ _ _ _ h⟩
  have Hf:Hid (∀ W' s',KeepO ob (W.alloc (nC 64 nd (.slice sa sn sc) 94)) W'->pM ob W' s'->Calls Tryz.prog 169 #[.pointer (some ⟨ob,0,none⟩),.slice (some ⟨g,0,none⟩) ns.length cap,.int .i64 (nd.a:Int),.int .i64 (a:Int),.int .i64 (c:Int)] W' fun e w'=>e=.returned (.tuple #[])/\KeepO ob W' w'/\pM ob w' (vV s' (f.lift a c))):=fun W' s' hk ho'=>by
   have:=ihf nd.a c W' _ s' ho' (hk.rowO HO2.out (zA hrow b1) (by decide) (by decide)) (Rep.keep (hk.keepSO HO2.out M) (Ext.refl _) _ _ (Rep.keep (fun _ _ _ h=>zA h b1) (Ext.refl _) _ _ hr1)) hok.1 (by simp only[Tm.bytes,lC,lA] at hle;omega) (by simp only[Tm.bytes,lC,lA] at hcc;omega);exact this
  have Hx:Hid (∀ W' s',KeepO ob (W.alloc (nC 64 nd (.slice sa sn sc) 94)) W'->pM ob W' s'->Calls Tryz.prog 169 #[.pointer (some ⟨ob,0,none⟩),.slice (some ⟨g,0,none⟩) ns.length cap,.int .i64 (nd.b:Int),.int .i64 (a:Int),.int .i64 (c:Int)] W' fun e w'=>e=.returned (.tuple #[])/\KeepO ob W' w'/\pM ob w' (vV s' (x.lift a c))):=fun W' s' hk ho'=>by
   have:=ihx nd.b c W' _ s' ho' (hk.rowO HO2.out (zA hrow b1) (by decide) (by decide)) (Rep.keep (hk.keepSO HO2.out M) (Ext.refl _) _ _ (Rep.keep (fun _ _ _ h=>zA h b1) (Ext.refl _) _ _ hr2)) hok.2 (by simp only[Tm.bytes,lC,lA] at hle;omega) (by simp only[Tm.bytes,lC,lA] at hcc;omega);exact this
  have HE:Hid (vV (vV (xI7 (some B) [64]) (f.lift a c)) (x.lift a c)=vV (some B) ((Tm.app f x).lift a c)):=dZ rfl Iff.rfl _;have z1:(W.alloc (nC 64 nd (.slice sa sn sc) 94)).heap.size=W.heap.size+1:=(by simp);clear hO hrow hnd hkind hlv hsl hklt ho b1 KB hblk hr1 hr2 ihf ihx hok hle;generalize f.lift a c=fl at Hf HE;generalize x.lift a c=xl at Hx HE;have cv:=lH (P:=Tryz.prog) (t:=97) (d:=9) (W.alloc (nC 64 nd (.slice sa sn sc) 94)) 64 Tryz.underlying97 Tryz.underlying5 Tryz.underlying9 (by omega) (by omega);rw[z1,show (⟨#[UInt8.ofNat ((64:Int).toNat)]⟩:ByteArray)=⟨#[64]⟩ from rfl] at cv;have bs:=(bR (W.alloc (nC 64 nd (.slice sa sn sc) 94)).heap.size (W.alloc (nC 64 nd (.slice sa sn sc) 94))).alloc (nR _) (.cells #[.int .u8 64] 5);have HO3:=HO2.out.below bs;have HK3:=Ld (KeepO.below bs (Nat.le_of_lt HO2.out.lt));have fS:=Ld (nO [64] HO3 (by decide));clear bs HO3;go_enter Tryz.func169,Tryz.ntmps169;go_wp2_with fail
  (refine fS.out.mono ?_);rintro e w3 ⟨rfl,hk3,ho3⟩
  have HKc:=Ld (HK3.out.trans hk3);have HOc:=Ld ho3;clear hk3 ho3 HK3 fS cv;obtain⟨x0,x1,x2,x3⟩:=HBC.out _ HKc.out;go_wp2_with fail;(with_reducible refine(Hf.out _ _ HKc.out HOc.out).mono ?_);rintro e w4 ⟨rfl,hk4,ho4⟩;have HK4:=Ld (HKc.out.trans hk4);have HO4:=Ld ho4;clear hk4 ho4 HKc HOc x0 x1 x2 x3 Hf;have HKc:=HK4;have HOc:=HO4;clear HK4 HO4;obtain⟨x0,x1,x2,x3⟩:=HBC.out _ HKc.out;go_wp2_with fail;(with_reducible refine(Hx.out _ _ HKc.out HOc.out).mono ?_);rintro e w5 ⟨rfl,hk4,ho4⟩;have HK5:=Ld (HKc.out.trans hk4);have HO5:=Ld ho4;clear hk4 ho4 HKc HOc x0 x1 x2 x3 Hx;have HKc:=HK5;have HOc:=HO5;clear HK5 HO5;obtain⟨x0,x1,x2,x3⟩:=HBC.out _ HKc.out;have H:=Ld (And.intro (HKB.out.trans HKc.out) HOc.out);clear HKc HOc x0 x1 x2 x3 HBC HKB;go_wp2
  first|go_end0|refine bodyPost_ret (results_none rfl _ _ _) rfl ?_
  rw[← HE.out];exact⟨rfl,H.out⟩
|lam f x ihf ihx=>exact fun k c W v st hO hrow hr hok hle hcc=>zS6 (C:=Tm.lam) (by decide) (by decide) (by decide) (by decide) (by decide) hn hsl ha ihf ihx k c (fun _=>dZ rfl Iff.rfl _) W v st hO hrow hr hok hle hcc
|pi f x ihf ihx=>exact fun k c W v st hO hrow hr hok hle hcc=>zS6 (C:=Tm.pi) (by decide) (by decide) (by decide) (by decide) (by decide) hn hsl ha ihf ihx k c (fun _=>dZ rfl Iff.rfl _) W v st hO hrow hr hok hle hcc
|lett f x y ihf ihx ihy =>
  intro k c W v st hO hrow hr hok hle hcc;obtain⟨nd,hnd,HK⟩:=hr;obtain⟨sa,sn,sc,hlv⟩:=hsl nd (List.mem_of_getElem? hnd);have hlt:=hklt k nd hnd;obtain⟨g,cap,rfl,_,hgl⟩:=hrow.form (by omega);obtain⟨c0,c1,c2,c3,c4,c5,c6⟩:=xT hrow hnd hlv;have q1:=zn k;have q2:(k:Int)<(ns.length:Int):=(by omega);obtain⟨hkind,hr1,hr2,hr3⟩:=HK;rw[hkind] at c0;have b1:=(bR W.heap.size W).alloc (nR _) (nC 116 nd (.slice sa sn sc) 94);have HO1:=hO.below b1;have hob:=hO.lt;have KB:KeepO ob W (W.alloc (nC 116 nd (.slice sa sn sc) 94)):=KeepO.below b1 (Nat.le_of_lt hob);obtain⟨vb,B,bad,ho,hB,rfl⟩:=HO1;have k1:(W.alloc (nC 116 nd (.slice sa sn sc) 94)).cell? ⟨ob,1,none⟩=some (.bool bad):=cell_of_row _ _ _ _ _ _ ho.box;cases bad;rotate_left
  ·have HS:=Ld ho;have KB':=KB;clear hO hrow hnd hkind hlv hsl hklt ho b1 KB hr1 hr2 hr3 ihf ihx ihy;go_enter Tryz.func169,Tryz.ntmps169;go_wp2;refine bodyPost_ret (results_none rfl _ _ _) rfl ?_;exact⟨rfl,KB',⟨vb,B,true,HS.out,hB,rfl⟩⟩
  have HO2:Hid (pM ob (W.alloc (nC 116 nd (.slice sa sn sc) 94)) (some B)):=⟨vb,B,false,ho,hB,rfl⟩;have HKB:=Ld KB;have hblk:(W.alloc (nC 116 nd (.slice sa sn sc) 94)).heap[W.heap.size]?=some (nC 116 nd (.slice sa sn sc) 94 (0,0)):=heap_alloc_new W _;have HBC:Hid (∀ W',KeepO ob (W.alloc (nC 116 nd (.slice sa sn sc) 94)) W'->W'.cell? ⟨W.heap.size,0,none⟩=some (.int .u8 116)/\W'.cell? ⟨W.heap.size,1,none⟩=some (.int .i64 (nd.a:Int))/\W'.cell? ⟨W.heap.size,2,none⟩=some (.int .i64 (nd.b:Int))/\W'.cell? ⟨W.heap.size,3,none⟩=some (.int .i64 (nd.c:Int))):=fun W' hk=>by
   have h:=(hk.typ _ _ _ _ hblk (by decide) (by omega)).trans hblk;exact⟨cell_of_row _ _ _ _ _ _ h,cell_of_row _ _ _ _ _ _ h,cell_of_row _ _ _ _ _ _ h,cell_of_row _ _ _ _ _ _ h⟩
  have Hf:Hid (∀ W' s',KeepO ob (W.alloc (nC 116 nd (.slice sa sn sc) 94)) W'->pM ob W' s'->Calls Tryz.prog 169 #[.pointer (some ⟨ob,0,none⟩),.slice (some ⟨g,0,none⟩) ns.length cap,.int .i64 (nd.a:Int),.int .i64 (a:Int),.int .i64 (c:Int)] W' fun e w'=>e=.returned (.tuple #[])/\KeepO ob W' w'/\pM ob w' (vV s' (f.lift a c))):=fun W' s' hk ho'=>by
   have:=ihf nd.a c W' _ s' ho' (hk.rowO HO2.out (zA hrow b1) (by decide) (by decide)) (Rep.keep (hk.keepSO HO2.out M) (Ext.refl _) _ _ (Rep.keep (fun _ _ _ h=>zA h b1) (Ext.refl _) _ _ hr1)) hok.1 (by simp only[Tm.bytes,lC,lA] at hle;omega) (by simp only[Tm.bytes,lC,lA] at hcc;omega);exact this
  have Hx:Hid (∀ W' s',KeepO ob (W.alloc (nC 116 nd (.slice sa sn sc) 94)) W'->pM ob W' s'->Calls Tryz.prog 169 #[.pointer (some ⟨ob,0,none⟩),.slice (some ⟨g,0,none⟩) ns.length cap,.int .i64 (nd.b:Int),.int .i64 (a:Int),.int .i64 (c:Int)] W' fun e w'=>e=.returned (.tuple #[])/\KeepO ob W' w'/\pM ob w' (vV s' (x.lift a c))):=fun W' s' hk ho'=>by
   have:=ihx nd.b c W' _ s' ho' (hk.rowO HO2.out (zA hrow b1) (by decide) (by decide)) (Rep.keep (hk.keepSO HO2.out M) (Ext.refl _) _ _ (Rep.keep (fun _ _ _ h=>zA h b1) (Ext.refl _) _ _ hr2)) hok.2.1 (by simp only[Tm.bytes,lC,lA] at hle;omega) (by simp only[Tm.bytes,lC,lA] at hcc;omega);exact this
  have Hy:Hid (∀ W' s',KeepO ob (W.alloc (nC 116 nd (.slice sa sn sc) 94)) W'->pM ob W' s'->Calls Tryz.prog 169 #[.pointer (some ⟨ob,0,none⟩),.slice (some ⟨g,0,none⟩) ns.length cap,.int .i64 (nd.c:Int),.int .i64 (a:Int),.int .i64 ((c:Int)+1)] W' fun e w'=>e=.returned (.tuple #[])/\KeepO ob W' w'/\pM ob w' (vV s' (y.lift a (c+1)))):=fun W' s' hk ho'=>by
   have:=ihy nd.c (c+1) W' _ s' ho' (hk.rowO HO2.out (zA hrow b1) (by decide) (by decide)) (Rep.keep (hk.keepSO HO2.out M) (Ext.refl _) _ _ (Rep.keep (fun _ _ _ h=>zA h b1) (Ext.refl _) _ _ hr3)) hok.2.2 (by simp only[Tm.bytes,lC,lA] at hle;omega) (by simp only[Tm.bytes,lC,lA] at hcc;omega);rw[show ((c+1:Nat):Int)=(c:Int)+1 by omega] at this;exact this
  have HE:Hid (vV (vV (vV (xI7 (some B) [116]) (f.lift a c)) (x.lift a c)) (y.lift a (c+1))=vV (some B) ((Tm.lett f x y).lift a c)):=zV8 rfl Iff.rfl _;have z1:(W.alloc (nC 116 nd (.slice sa sn sc) 94)).heap.size=W.heap.size+1:=(by simp);clear hO hrow hnd hkind hlv hsl hklt ho b1 KB hblk hr1 hr2 hr3 ihf ihx ihy hok hle;generalize f.lift a c=fl at Hf HE;generalize x.lift a c=xl at Hx HE;generalize y.lift a (c+1)=yl at Hy HE;have fS:=Ld (nO [116] HO2.out (by decide));have HK3:=Ld (KeepO.refl ob (W.alloc (nC 116 nd (.slice sa sn sc) 94)));go_enter Tryz.func169,Tryz.ntmps169;go_wp2_with fail
  (refine fS.out.mono ?_);rintro e w3 ⟨rfl,hk3,ho3⟩
  have HKc:=Ld (HK3.out.trans hk3);have HOc:=Ld ho3;clear hk3 ho3 HK3 fS;obtain⟨x0,x1,x2,x3⟩:=HBC.out _ HKc.out;go_wp2_with fail;(with_reducible refine(Hf.out _ _ HKc.out HOc.out).mono ?_);rintro e w4 ⟨rfl,hk4,ho4⟩;have HK4:=Ld (HKc.out.trans hk4);have HO4:=Ld ho4;clear hk4 ho4 HKc HOc x0 x1 x2 x3 Hf;have HKc:=HK4;have HOc:=HO4;clear HK4 HO4;obtain⟨x0,x1,x2,x3⟩:=HBC.out _ HKc.out;go_wp2_with fail;(with_reducible refine(Hx.out _ _ HKc.out HOc.out).mono ?_);rintro e w5 ⟨rfl,hk4,ho4⟩;have HK5:=Ld (HKc.out.trans hk4);have HO5:=Ld ho4;clear hk4 ho4 HKc HOc x0 x1 x2 x3 Hx;have HKc:=HK5;have HOc:=HO5;clear HK5 HO5;obtain⟨x0,x1,x2,x3⟩:=HBC.out _ HKc.out;go_wp2_with fail;(with_reducible refine(Hy.out _ _ HKc.out HOc.out).mono ?_);rintro e w6 ⟨rfl,hk4,ho4⟩;have HK6:=Ld (HKc.out.trans hk4);have HO6:=Ld ho4;clear hk4 ho4 HKc HOc x0 x1 x2 x3 Hy;have HKc:=HK6;have HOc:=HO6;clear HK6 HO6;obtain⟨x0,x1,x2,x3⟩:=HBC.out _ HKc.out;have H:=Ld (And.intro (HKB.out.trans HKc.out) HOc.out);clear HKc HOc x0 x1 x2 x3 HBC HKB;go_wp2
  first|go_end0|refine bodyPost_ret (results_none rfl _ _ _) rfl ?_
  rw[← HE.out];exact⟨rfl,H.out⟩
theorem zV5(s:ByteArray)(x y:Int)(w:World)(hs:s.size<=maxLen) :
  Rt 125 #[.string s,.int .i64 x,.int .i64 y] w (yC (lifted s.data.toList x y)):=by
 have f1:=Ld (lR s w hs);have g1:=Ld fun W=>iD x 0 999 W;have g2:=Ld fun W=>iD y 0 999 W;go_enter Tryz.func125,Tryz.ntmps125;go_wp2_with fail;(with_reducible refine f1.out.mono ?_);rintro e W ⟨v,ns,rfl,hrow,hb,hsl,(⟨t,ht,hn,hr⟩|⟨hno,rfl⟩)⟩;rotate_left
 ·obtain⟨la,lc,rfl⟩:=xE hrow;have HE:Hid (lifted s.data.toList x y=none):=(by rw[Hid,lifted,yR hno]);have HB:=Ld hb;clear hrow hno hb f1 hsl;go_wp2;go_ret2;rw[HE.out];exact⟨rfl,HB.out⟩
 have hle:=ht.2.2;rw[← ht.2.1] at hle;have hok:=ht.1;have hszl:=t.size_le;have hsz:=t.size_pos;have HT:Hid (lifted s.data.toList x y=if 0<=x/\x<=999/\0<=y/\y<=999 then vV (some []) (t.lift x.toNat y.toNat) else none):=by rw[Hid,lifted,zY ht]
 obtain⟨k,hk⟩:∃ k,ns.length=k+1:=⟨ns.length - 1,by omega⟩;rw[hk,Nat.add_sub_cancel] at hr;have hn2:ns.length<=100000:=by omega
 have hk2:k<=100000:=by omega
 have d0:(((k:Int)+1)==0)=false:=beq_eq_false_iff_ne.2 (by omega);have HB:=Ld hb;obtain⟨la,lc,rfl⟩:=xE hrow;clear f1 ht hsz hszl hb hn;by_cases hx:0<=x/\x<=999;rotate_left
 ·have HE:Hid (lifted s.data.toList x y=none):=(by rw[Hid,HT.out,iN (fun h=>hx ⟨h.1,h.2.1⟩)]);rw[show (decide ((0:Int)<=x)&&decide (x<=999))=false by rw[Bool.and_eq_false_iff,decide_eq_false_iff_not,decide_eq_false_iff_not];omega] at g1;rw[hk];clear hrow hsl hr HT hx hk hn2;go_wp2_with fail;(with_reducible refine mo (g1.out _) ?_);rintro w2 rfl;go_wp2;go_ret2;rw[HE.out];exact⟨rfl,HB.out⟩
 rw[show (decide ((0:Int)<=x)&&decide (x<=999))=true by rw[dT hx.1,dT hx.2];rfl] at g1;by_cases hy:0<=y/\y<=999;rotate_left
 ·have HE:Hid (lifted s.data.toList x y=none):=(by rw[Hid,HT.out,iN (fun h=>hy h.2.2)]);rw[show (decide ((0:Int)<=y)&&decide (y<=999))=false by rw[Bool.and_eq_false_iff,decide_eq_false_iff_not,decide_eq_false_iff_not];omega] at g2;rw[hk];clear hrow hsl hr HT hx hy hk hn2;go_wp2_with fail;(with_reducible refine mo (g1.out _) ?_);rintro w2 rfl;go_wp2_with fail;(with_reducible refine mo (g2.out _) ?_);rintro w2 rfl;go_wp2;go_ret2;rw[HE.out];exact⟨rfl,HB.out⟩
 rw[show (decide ((0:Int)<=y)&&decide (y<=999))=true by rw[dT hy.1,dT hy.2];rfl] at g2;obtain⟨a,rfl⟩:∃ a:Nat,x=(a:Int):=⟨x.toNat,by omega⟩;obtain⟨c,rfl⟩:∃ c:Nat,y=(c:Int):=⟨y.toNat,by omega⟩;have HE:Hid (lifted s.data.toList (a:Int) (c:Int)=vV (some []) (t.lift a c)):=by rw[Hid,HT.out,iP ⟨hx.1,hx.2,hy.1,hy.2⟩];rfl
 have bs:=(bR W.heap.size W).alloc (nR _) (.cells #[.slice none 0 0,.bool false] 182);have HO:pM W.heap.size (W.alloc (.cells #[.slice none 0 0,.bool false] 182)) (some []) := ⟨_,[],false,⟨heap_alloc_new W _,World.ownsRow_nil _ _ _ _⟩,Nat.zero_le _,rfl⟩;have fL:=Ld (yO9 hn2 hsl (by omega) t k c _ _ _ HO (zA hrow bs) (Rep.keep (fun _ _ _ h=>zA h bs) (Ext.refl _) t _ hr) hok (by omega) (by omega) (a:=a));have HB1:=bt HB.out bs;have hbz:=HB.out.size;rw[hk] at fL |-;clear hrow hsl hr HT hk hn2 HO bs hok hle;go_wp2_with fail;(with_reducible refine mo (g1.out _) ?_);rintro w2 rfl;go_wp2_with fail;(with_reducible refine mo (g2.out _) ?_);rintro w2 rfl;go_wp2_with fail;(with_reducible refine fL.out.mono ?_);rintro e w3 ⟨rfl,hk3,vb,B,bad,ho,hBl,hst⟩;have HB3:=Ld (hk3.belowOf HB1.out hbz);have k1:w3.cell? ⟨w2.heap.size,1,none⟩=some (.bool bad):=cell_of_row _ _ _ _ _ _ ho.box;have hrow:=Ld ho.row;obtain⟨a1,cp1,rfl⟩:=lV ho.row;have k0:w3.cell? ⟨w2.heap.size,0,none⟩=some (.slice a1 B.length cp1):=cell_of_row _ _ _ _ _ _ ho.box;clear hk3 ho fL HB1;cases bad
 ·have HE2:Hid (lifted s.data.toList (a:Int) (c:Int)=some B):=(by rw[Hid,HE.out,hst];rfl);have cv:=rV (P:=Tryz.prog) (t:=97) (d:=9) w3 Tryz.underlying97 Tryz.underlying5 Tryz.underlying9 hrow.out;clear hst HE hrow;go_wp2;go_ret2;rw[HE2.out];exact⟨rfl,HB3.out⟩
 ·have HE2:Hid (lifted s.data.toList (a:Int) (c:Int)=none):=(by rw[Hid,HE.out,hst];rfl);clear hst HE hrow;go_wp2;go_ret2;rw[HE2.out];exact⟨rfl,HB3.out⟩
end Go.Proofs.YtcaahdjhbmmcnaaGreatDoor
