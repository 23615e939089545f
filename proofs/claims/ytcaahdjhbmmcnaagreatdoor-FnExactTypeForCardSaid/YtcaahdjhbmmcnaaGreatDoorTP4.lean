/- VI1P VI2 HC7P TI1c Cl NPartsI SBP0 InC TIK -/
import Derived.Lib.MinMax
import Derived.Test.YtcaahdjhbmmcnaaGreatDoorTP2
import Derived.Test.YtcaahdjhbmmcnaaGreatDoorTV1
import Derived.Test.YtcaahdjhbmmcnaaGreatDoorTP3
import Derived.Test.YtcaahdjhbmmcnaaGreatDoorTP1
import Derived.Test.YtcaahdjhbmmcnaaGreatDoorTA2
import Derived.Test.YtcaahdjhbmmcnaaGreatDoorTG1
import Derived.Test.YtcaahdjhbmmcnaaGreatDoorTA6
import Derived.Test.YtcaahdjhbmmcnaaGreatDoorTE1
set_option maxRecDepth 100000
set_option maxHeartbeats 16000000
set_option linter.unusedSimpArgs false
set_option linter.unusedVariables false
namespace Go.Proofs.YtcaahdjhbmmcnaaGreatDoor
open Go.ChangeShapes Go.WideShapes Go.ChangeAt Go.RowKit
theorem nV(c:UInt8)(w:World)(h1:48<=c.toNat) :
  Calls Tryz.prog 213 #[.int .u8 (c.toNat:Int)] w fun e w'=>e=.returned (.int .i64 ((c.toNat - 48:Nat):Int))/\w'=w:=by
 have hc:c.toNat<256:=UInt8.toNat_lt c;go_enter Tryz.func213,Tryz.ntmps213;go_wp2;go_ret;refine⟨?_,rfl⟩;simp;omega
theorem qM{o:Option Nat}{n:Nat}(h:o.map (·+1)=some (n+1)):o=some n:=by
 cases o with
|none=>cases h
|some k=>simp at h;rw[h]
theorem zD0{o:Option Nat}{n:Nat}(h:o.map (·+2)=some (n+2)):o=some n:=by
 cases o with
|none=>cases h
|some k=>simp at h;rw[h]
def eJ:Nat->List UInt8->Nat
|n,[]=>n
|n,c::r=>eJ (if 48<=c.toNat/\c.toNat<=50 then max n (c.toNat - 47) else n) r
theorem yJ6:∀ (l:List UInt8) (k:Nat),xW k l=some l.length->∀ n,eJ n l=oX n l:=by
 refine pF (motive:=fun k l=>xW k l=some l.length->∀ n,eJ n l=oX n l) ?_ ?_ ?_ ?_ ?_ ?_ ?_
 ·intro l h n;rw[uA] at h;have:l=[]:=List.length_eq_zero_iff.1 (Option.some.inj h).symm;rw[this];rfl
 ·intro n h;rw[tD] at h;cases h
 ·intro n r ih h m;rw[pP] at h;rw[eJ,oX,iN (by decide),iN (fun hc=>absurd hc.1 (by decide))];exact ih (qM h) m
 ·intro n r ih h m;rw[sE] at h;rw[eJ,oX,iN (by decide),iN (fun hc=>absurd hc.1 (by decide))];exact ih (qM h) m
 ·intro n c r hc ih h m;rw[uD n hc] at h;rw[eJ,oX,iN (by rcases hc with rfl|rfl<;>decide),iN (fun hd=>by rcases hc with rfl|rfl<;>exact absurd hd.1 (by decide))];exact ih (qM h) m
 ·intro n d r h1 h2 ih h m;rw[uL n h1 h2] at h;have hd:d≠117:=(by rintro rfl;revert h2;decide);rw[eJ,iN (show ¬ (48<=(117:UInt8).toNat/\(117:UInt8).toNat<=50) by decide),eJ,iP ⟨h1,h2⟩,ih (zD0 h),oX,oX];simp only[List.headD_cons,true_and,hd,false_and,if_false];congr 1;by_cases hm:m<d.toNat - 47
  ·rw[iP hm];omega
  ·rw[iN hm];omega
 ·intro n c r hbad h;rw[hbad] at h;cases h
theorem zG3:∀ (l:List UInt8) (n:Nat),n<=eJ n l
|[],n=>nR _
|c::r,n=>by
  rw[eJ];refine Nat.le_trans ?_ (zG3 r _);split<;>omega
theorem yJ5:∀ (l:List UInt8) (n i:Nat) (hi:i<l.length),48<=l[i].toNat->l[i].toNat<=50->l[i].toNat - 47<=eJ n l
|[],n,i,hi,_,_=>by simp at hi
|c::r,n,0,hi,h1,h2=>by
  simp at h1 h2 |-;rw[eJ,iP ⟨h1,h2⟩];have:=zG3 r (max n (c.toNat - 47));omega
|c::r,n,i+1,hi,h1,h2=>by
  simp only[List.getElem_cons_succ] at h1 h2 |-;rw[eJ];exact yJ5 r _ i (by simpa using hi) h1 h2
theorem yJ7{l:List UInt8}{n p:Nat}(hp:p<l.length):eJ n (l.drop p)=eJ (if 48<=l[p].toNat/\l[p].toNat<=50 then max n (l[p].toNat - 47) else n) (l.drop (p+1)):=by
 rw[List.drop_eq_getElem_cons hp,eJ]
theorem rF(s:ByteArray)(w:World)(hs:s.size<=maxLen) :
  Calls Tryz.prog 176 #[.string s] w fun e w'=>e=.returned (.int .i64 (zE s.data.toList:Int))/\w'=w:=by
 have f1:=Ld fun W=>vD s W hs;have hls:s.data.toList.length=s.size:=rfl;unfold maxLen at hs;by_cases hok:zD s.data.toList=true
 ·rw[hok] at f1;have h60:=(zK hok).1;rw[hls] at h60;have HE:Hid (zE s.data.toList=eJ 0 s.data.toList):=(iP hok).trans (yJ6 s.data.toList 1 (zK hok).2 0).symm;rw[HE.out];clear hok HE hls;go_enter Tryz.func176,Tryz.ntmps176;go_wp2_with fail;(with_reducible refine mo (f1.out _) ?_);rintro w1 rfl;clear f1;go_wp2;go_loopw [3,4] (fun nn i wr=>∃ n p:Nat,p<=s.size/\n<=208/\nn=.int .i64 n/\i=.int .i64 p/\wr=w1/\Hid (eJ n (s.data.toList.drop p)=eJ 0 s.data.toList)) (fun _ i _=>s.size - (intOf i).toNat)
  case atStart=>exact⟨0,0,Nat.zero_le _,Nat.zero_le _,rfl,rfl,rfl,rfl⟩
  case round =>
   obtain⟨n,p,hp,hn,rfl,rfl,rfl,HR⟩:=hrel;by_cases hlt:p<s.size
   ·have hll:p<s.data.toList.length:=hlt;have q1:=zn p;have q2:(p:Int)<(s.size:Int):=(by omega);have d1:decide ((p:Int)<(s.size:Int))=true:=dT (by omega);have f2:=Ld fun W=>nX s[p] W;by_cases b1:48<=s[p].toNat/\s[p].toNat<=50
    ·have HR2:=Ld ((yJ7 (n:=n) hll).symm.trans HR.out);rw[show s.data.toList[p]=s[p] from rfl,iP b1] at HR2;have hmx:max (n:Int) (((s[p].toNat - 48:Nat):Int)+1)=((max n (s[p].toNat - 47):Nat):Int):=(by omega);have hmx2:max n (s[p].toNat - 47)<=208:=(by omega);have f3:=Ld fun W=>nV s[p] W b1.1;rw[dT b1] at f2;clear HR b1;go_wp2_with fail;(with_reducible refine mo (f2.out _) ?_);rintro w1 rfl;go_wp2_with fail;(with_reducible refine mo (f3.out _) ?_);rintro w1 rfl;go_wp2;go_roundw
     case rel=>exact⟨max n (s[p].toNat - 47),p+1,by omega,hmx2,by simp<;>omega,by go_num,trivial,HR2.out⟩
     case measure=>simp[intOf];omega
    ·have HR2:=Ld ((yJ7 (n:=n) hll).symm.trans HR.out);rw[show s.data.toList[p]=s[p] from rfl,iN b1] at HR2;rw[dF b1] at f2;clear HR b1;go_wp2_with fail;(with_reducible refine mo (f2.out _) ?_);rintro w1 rfl;go_wp2;go_roundw
     case rel=>exact⟨n,p+1,by omega,hn,rfl,by go_num,trivial,HR2.out⟩
     case measure=>simp[intOf];omega
   ·have d1:decide ((p:Int)<(s.size:Int))=false:=dF (by omega);have HE:Hid (eJ 0 s.data.toList=n):=by
     rw[Hid,← HR.out,List.drop_eq_nil_of_le (by show s.size<=p;omega)];rfl
    clear HR;go_wp2;go_ret;rw[HE.out];exact⟨rfl,rfl⟩
 ·have HE:Hid (zE s.data.toList=0):=iN hok;rw[Bool.not_eq_true] at hok;rw[hok] at f1;clear hok hls;go_enter Tryz.func176,Tryz.ntmps176;go_wp2_with fail;(with_reducible refine mo (f1.out _) ?_);rintro w1 rfl;go_wp2;go_ret;rw[HE.out];exact⟨rfl,rfl⟩
def yF9 (ts:List Tm):Nat:=ts.foldl (fun m p=>max m p.params) 0
theorem yF8{ts:List Tm}{k:Nat}(h:k<ts.length):yF9 (ts.take (k+1))=max (yF9 (ts.take k)) ts[k].params:=by
 rw[yF9,List.take_succ_eq_append_getElem h,List.foldl_append];rfl
def yZ7 (ls:List (List UInt8)):Nat:=ls.foldl (fun m l=>max m (zE l)) 0
theorem yG0{ls:List (List UInt8)}{k:Nat}(h:k<ls.length):yZ7 (ls.take (k+1))=max (yZ7 (ls.take k)) (zE ls[k]):=by
 rw[yZ7,List.take_succ_eq_append_getElem h,List.foldl_append];rfl
theorem zA9{t:Tm}(h1:∀ l,t≠.sort l)(h2:∀ n ls,t≠.const n ls):t.params=yF9 t.parts:=by
 cases t with
|var n=>rfl
|sort l=>exact absurd rfl (h1 l)
|const n ls=>exact absurd rfl (h2 n ls)
|app f a=>simp only[Tm.params,Tm.parts,yF9,List.foldl_cons,List.foldl_nil];omega
|lam f a=>simp only[Tm.params,Tm.parts,yF9,List.foldl_cons,List.foldl_nil];omega
|pi f a=>simp only[Tm.params,Tm.parts,yF9,List.foldl_cons,List.foldl_nil];omega
|lett f a b=>simp only[Tm.params,Tm.parts,yF9,List.foldl_cons,List.foldl_nil];omega
theorem Tm.parts_oks(t:Tm)(h:t.Ok):∀ p∈t.parts,p.Ok:=by
 cases t with
|var _=>intro p hp;simp[Tm.parts] at hp
|sort _=>intro p hp;simp[Tm.parts] at hp
|const _ _=>intro p hp;simp[Tm.parts] at hp
|app a b=>intro p hp;simp only[Tm.parts,List.mem_cons,List.not_mem_nil,or_false] at hp;exact hp.elim (fun e=>e ▸ h.1) (fun e=>e ▸ h.2)
|lam a b=>intro p hp;simp only[Tm.parts,List.mem_cons,List.not_mem_nil,or_false] at hp;exact hp.elim (fun e=>e ▸ h.1) (fun e=>e ▸ h.2)
|pi a b=>intro p hp;simp only[Tm.parts,List.mem_cons,List.not_mem_nil,or_false] at hp;exact hp.elim (fun e=>e ▸ h.1) (fun e=>e ▸ h.2)
|lett a b c=>intro p hp;simp only[Tm.parts,List.mem_cons,List.not_mem_nil,or_false] at hp;exact hp.elim (fun e=>e ▸ h.1) (fun hp=>hp.elim (fun e=>e ▸ h.2.1) (fun e=>e ▸ h.2.2))
theorem yG.notLevels{W:World}{t:Tm}{v:Value}(h:yG W t v)(h1:∀ l,t≠.sort l)(h2:∀ n ls,t≠.const n ls):∃ T x,v=.iface T x/\T≠120/\T≠124:=by
 cases t with
|sort l=>exact absurd rfl (h1 l)
|const n ls=>exact absurd rfl (h2 n ls)
|var _=>obtain⟨_,h,_⟩:=h;exact⟨_,_,h,by decide,by decide⟩
|app _ _=>obtain⟨_,_,_,h,_⟩:=h;exact⟨_,_,h,by decide,by decide⟩
|lam _ _=>obtain⟨_,_,_,h,_⟩:=h;exact⟨_,_,h,by decide,by decide⟩
|pi _ _=>obtain⟨_,_,_,h,_⟩:=h;exact⟨_,_,h,by decide,by decide⟩
|lett _ _ _=>obtain⟨_,_,_,_,h,_⟩:=h;exact⟨_,_,h,by decide,by decide⟩
theorem zE0:∀ (n:Nat) (t:Tm) (v:Value) (W:World),t.size<=n->t.Ok->yG W t v ->
  Rt 155 #[v] W (.int .i64 (t.params:Int)):=by
 intro n
 induction n with
|zero=>intro t v W h _ _;have:=t.size_pos;omega
|succ n ih =>
  intro t v W hn hok h;by_cases h1:∀ l,t≠.sort l;rotate_left
  ·obtain⟨l,rfl⟩:∃ l,t=.sort l:=Classical.byContradiction fun hc=>h1 fun l e=>hc ⟨l,e⟩;obtain⟨g,rfl,hg⟩:=h;have h60:=(zK (show zD l=true from hok)).1;have c0:W.cell? ⟨g,0,none⟩=some (.string ⟨l.toArray⟩):=(by rw[Lib.cell_of_heap hg];rfl);have aSort:∀ v w,(Instr.typeAssert (.iface 120 v) 115 120 true).run Tryz.prog w=.ok (.tuple #[v,.bool true]) w:=fun v w=>by rw[jW,iP rfl]
   have f1:=Ld (rF ⟨l.toArray⟩ W (by simp only[maxLen,ByteArray.size,List.size_toArray];omega));show Calls _ _ _ _ fun e W'=>e=.returned (.int .i64 (zE l:Int))/\_;simp only at f1;generalize zE l=r at f1;clear hg ih h1 hok;go_enter Tryz.func155,Tryz.ntmps155;go_wp2_with fail;(with_reducible refine mo f1.out ?_);rintro w1 rfl;go_wp2;go_ret;exact⟨rfl,bR _ _⟩
  by_cases h2:∀ m ls,t≠.const m ls;rotate_left
  ·obtain⟨m,ls,rfl⟩:∃ m ls,t=.const m ls:=Classical.byContradiction fun hc=>h2 fun m ls e=>hc ⟨m,ls,e⟩;obtain⟨g,u,rfl,hg,hu⟩:=h;obtain⟨ua,uc,rfl⟩:=zP hu;have hls3:ls.length<=3:=hok.2.1;have h60:∀ x∈ls,x.length<=60:=fun x hxm=>(zK (hok.2.2 x hxm)).1;have c1:W.cell? ⟨g,1,none⟩=some (.slice ua ls.length uc):=(by rw[Lib.cell_of_heap hg];rfl);have aSort:∀ v w,(Instr.typeAssert (.iface 124 v) 115 120 true).run Tryz.prog w=.ok (.tuple #[.pointer none,.bool false]) w:=fun v w=>by rw[jW,iN (by decide)]
   have aConst:∀ v w,(Instr.typeAssert (.iface 124 v) 115 124 true).run Tryz.prog w=.ok (.tuple #[v,.bool true]) w:=fun v w=>by rw[sW,iP rfl]
   have f1:=Ld fun (l:List UInt8) (hl:l∈ls)=>rF ⟨l.toArray⟩ W (by have:=h60 l hl;simp only[maxLen,ByteArray.size,List.size_toArray];omega);simp only at f1;show Calls _ _ _ _ fun e W'=>e=.returned (.int .i64 (yZ7 ls:Int))/\_;have HU:=Ld hu;clear hg ih h1 h2 hok hu;go_enter Tryz.func155,Tryz.ntmps155;go_wp2;go_loopw [3,27] (fun s i wr=>∃ k:Nat,k<=ls.length/\i=.int .i64 k/\(∃ m:Nat,s=.int .i64 (m:Int)/\Hid (m=yZ7 (ls.take k)))/\wr=W) (fun _ i _=>ls.length - (intOf i).toNat)
   case atStart=>exact⟨0,Nat.zero_le _,rfl,⟨0,rfl,rfl⟩,rfl⟩
   case round =>
    obtain⟨k,hk,rfl,⟨m2,rfl,HM⟩,rfl⟩:=hrel;by_cases hlt:k<ls.length
    ·obtain⟨g',cap',e0,_,hgl⟩:=HU.out.form (by omega);cases e0;have ex:(ls.map sv)[k]?=some (sv ls[k]):=(by simp[hlt]);have cc:=(HU.out.cellAt k (by omega)).trans ex;unfold sv at cc;have q1:=zn k;have q2:(k:Int)<(ls.length:Int):=(by omega);have f2:=Ld (f1.out ls[k] (List.getElem_mem hlt));have HM2:Hid (max m2 (zE ls[k])=yZ7 (ls.take (k+1))):=(by rw[Hid,yG0 hlt,HM.out]);clear ex HM;generalize zE ls[k]=x at f2 HM2;generalize ls[k]=lk at cc f2;go_wp2_with fail;(with_reducible refine mo f2.out ?_);rintro w1 rfl;go_wp2;go_roundw
     case rel=>exact⟨k+1,by omega,by go_num,⟨max m2 x,by rw[show ((max m2 x:Nat):Int)=max (m2:Int) (x:Int) by omega],HM2.out⟩,trivial⟩
     case measure=>simp[intOf];omega
    ·have HE:Hid (m2=yZ7 ls):=(by rw[Hid,HM.out,List.take_of_length_le (by omega)]);have dk:decide ((k:Int)<(ls.length:Int))=false:=dF (by omega);clear HM f1 HU;go_wp2;go_ret;rw[HE.out];exact⟨rfl,bR _ _⟩
  obtain⟨T,x,rfl,hT1,hT2⟩:=h.notLevels h1 h2;have aSort:∀ w,(Instr.typeAssert (.iface T x) 115 120 true).run Tryz.prog w=.ok (.tuple #[.pointer none,.bool false]) w:=fun w=>by rw[jW,iN hT1]
  have aConst:∀ w,(Instr.typeAssert (.iface T x) 115 124 true).run Tryz.prog w=.ok (.tuple #[.pointer none,.bool false]) w:=fun w=>by rw[sW,iN hT2]
  have f1:=Ld (zM7 h);unfold zT8 at f1;have hl3:t.parts.length<=3:=(by cases t<;>simp[Tm.parts]);have IH:Hid (∀ p∈t.parts,∀ (v:Value) (W:World),yG W p v->Rt 155 #[v] W (.int .i64 (p.params:Int))) :=
   fun p hp v W hr=>ih p v W (by have:=t.parts_size p hp;omega) (t.parts_oks hok p hp) hr
  rw[zA9 h1 h2];generalize t.parts=ts at f1 hl3 IH |-;clear h ih h1 h2 hok hT1 hT2 hn;go_enter Tryz.func155,Tryz.ntmps155;go_wp2_with fail;(with_reducible refine f1.out.mono ?_);rintro e w1 ⟨u,vs,rfl,hu,hrs,hb⟩;obtain⟨ua,uc,rfl⟩:=zP hu;have hvl:=hrs.len;have HU:=Ld hu;have HRS:=Ld hrs;have HB:=Ld hb;clear hu hrs hb f1;go_wp2;go_loopw [3,40] (fun s i wr=>∃ k:Nat,k<=ts.length/\i=.int .i64 k/\(∃ m:Nat,s=.int .i64 (m:Int)/\Hid (m=yF9 (ts.take k)))/\Below w1.heap.size w1 wr) (fun _ i _=>ts.length - (intOf i).toNat)
  case atStart=>exact⟨0,Nat.zero_le _,rfl,⟨0,rfl,rfl⟩,bR _ _⟩
  case round =>
   obtain⟨k,hk,rfl,⟨m,rfl,hmm⟩,hbr⟩:=hrel;by_cases hlt:k<ts.length
   ·have hu2:=zA HU.out hbr;obtain⟨g,cap',e0,_,hgl⟩:=hu2.form (by omega);cases e0;have ex:vs[k]?=some vs[k]:=(by simp[hvl,hlt]);have cc:=(hu2.cellAt k (by omega)).trans ex;have f2:=Ld (IH.out ts[k] (List.getElem_mem hlt) vs[k] wr ((HRS.out.below hbr).at k hlt (by omega)));have HBR:=Ld hbr;have q1:=zn k;have q2:(k:Int)<(ts.length:Int):=(by omega);have HM2:Hid (max m ts[k].params=yF9 (ts.take (k+1))):=(by rw[Hid,yF8 hlt,hmm.out]);generalize ts[k].params=x at f2 HM2;generalize vs[k]=vk at cc f2;clear ex hu2 hbr hmm;go_wp2_with fail;(with_reducible refine mo f2.out fun w2 hb2=>?_);have HB2:=bt HBR.out hb2;clear hb2 HBR;go_wp2;go_roundw
    case rel=>exact⟨k+1,by omega,by go_num,⟨max m x,by rw[show ((max m x:Nat):Int)=max (m:Int) (x:Int) by omega],HM2.out⟩,HB2.out⟩
    case measure=>simp[intOf];omega
   ·have HE:Hid (m=yF9 ts):=(by rw[Hid,hmm.out,List.take_of_length_le (by omega)]);have HB2:=bt HB.out hbr;have d1:decide ((k:Int)<(ts.length:Int))=false:=dF (by omega);clear hbr hmm;go_wp2;go_ret;rw[HE.out];exact⟨rfl,HB2.out⟩
theorem yW4(s:ByteArray)(w:World)(hs:s.size<=281474976710656) :
  Rt 115 #[.string s] w (.string s):=by
 have f1:=Ld fun W=>Tryz.stringslite_Clone s W hs;go_enter Tryz.func115,Tryz.ntmps115;go_wp2_with fail;(with_reducible refine mo (f1.out _) fun w1 hb1=>?_);go_wp2;go_ret;exact⟨rfl,hb1⟩
theorem yK3{w:World}{b:Nat}{v:Value}{l:List (List UInt8)}(h:w.ownsRow b 9 1 v l.length (l.map sv))(hn:l.length<=10000000)(hx:∀ x∈l,x.length<=281474976710656) :
  Calls Tryz.prog 75 #[v] w (yM5 l w):=by
 obtain⟨i0,hi,hz0,hz1,hz2⟩:=info_parts rZ;rcases Nat.eq_zero_or_pos l.length with h0|hp
 ·obtain rfl:l=[]:=List.length_eq_zero_iff.1 h0;obtain⟨a,cap,rfl⟩:∃ a cap,v=.slice a 0 cap:=by
   rcases h.2 with ⟨rfl,_⟩|⟨g,cap,cur,rfl,_⟩
   ·exact⟨_,_,rfl⟩
   ·exact⟨_,_,rfl⟩
  clear h h0 hn hx;go_enter Tryz.func75,Tryz.ntmps75;go_wp2_with (at_make;refine wpList_make_own _ rfl _ _ 31 rfl w.heap.size 9 i0 (.string ⟨#[]⟩) 1 Tryz.underlying31 hi hz0 hz1 _ _ _ 0 rfl rfl (by omega) (by rw[hz2];omega) (by unfold maxLen;omega) (nR _) ?_;intro w0 hown0 hgrow0);have hbel0:Below w.heap.size w w0:=(bR _ _).grown hgrow0 (nR _) (by simp);refine wp_loop_rounds 1 ?_;rw[rounds_succ];go_wp2;go_ret;exact⟨_,rfl,hown0,hbel0⟩
 ·obtain⟨g,cap,rfl,_,hgl⟩:=h.form hp;go_enter Tryz.func75,Tryz.ntmps75;go_wp2_with (at_make;refine wpList_make_own _ rfl _ _ 31 rfl w.heap.size 9 i0 (.string ⟨#[]⟩) 1 Tryz.underlying31 hi hz0 hz1 _ _ _ l.length rfl rfl (by omega) (by rw[hz2];omega) (by unfold maxLen;omega) (nR _) ?_;intro w0 hown0 hgrow0);have hbel0:Below w.heap.size w w0:=(bR _ _).grown hgrow0 (nR _) (by simp);go_loopw [3,11] (fun vo i wr=>∃ k:Nat,k<=l.length/\i=.int .i64 k/\wr.ownsRow w.heap.size 9 1 vo k ((l.take k).map sv)/\Below w.heap.size w wr) (fun _ i _=>l.length - (intOf i).toNat)
  case atStart=>exact⟨0,Nat.zero_le _,rfl,by simpa using hown0,hbel0⟩
  case round =>
   obtain⟨k,hk,rfl,hown,hbel⟩:=hrel;clear hown0 hgrow0 hbel0;have hz:=hbel.size;by_cases hlt:k<l.length
   ·have cc:=h.cellAt k (by omega);have ex:(l.map sv)[k]?=some (sv l[k]):=(by simp[hlt]);rw[ex] at cc;unfold sv at cc;have cr:=(hbel.cell (p:=⟨g,k,none⟩) hgl).trans cc;have HT:=Ld (List.take_succ_eq_append_getElem hlt);have f1:=Ld fun W=>yW4 ⟨l[k].toArray⟩ W (by simp only[ByteArray.size,List.size_toArray];exact hx _ (List.getElem_mem hlt));have q1:=zn k;have q2:(k:Int)<(l.length:Int):=(by omega);clear ex cc;generalize l[k]=x at cr f1 HT;go_wp2_with fail;(with_reducible refine mo (f1.out _) fun w1 hb1=>?_);have hown1:=zA hown hb1;have hB1:=hbel.trans (hb1.mono hz);have hzB:=hB1.size;have hl:=hown1.lt;go_wp2_with (at_builtin;refine wpList_append_own _ rfl _ _ 31 rfl w.heap.size 9 i0 _ 1 16 Tryz.underlying31 hi hz0 hz1 hz2 rfl (by decide) _ _ _ rfl (hown1.alloc _) ⟨w1.heap.size,0,none⟩ 1 1 [.string ⟨x.toArray⟩] rfl rfl (yI _ _ _) (by simp[Value.oneCell']) (by simp only[maxLen];omega) (by omega) (by simp;omega) ?_;intro v2 w2 hown2 hgrow hat);go_roundw
    case rel=>exact⟨k+1,by omega,by go_num,by rw[HT.out];simpa [sv] using hown2,(hB1.alloc hzB _).grown hgrow (by simp;omega) (fun q hq=>(hl q hq).1)⟩
    case measure=>simp[intOf];omega
   ·obtain rfl:k=l.length:=(by omega);rw[List.take_length] at hown;have HO:=Ld hown;clear hown h;go_wp2;go_ret;exact⟨_,rfl,HO.out,hbel⟩
theorem dB(b c:UInt8)(l:List UInt8):Lib.index (b::l) [c]=if b=c then 0 else if Lib.index l [c]=-1 then -1 else Lib.index l [c]+1:=by
 rw[Lib.index];by_cases h:b=c
 ·subst h;simp[List.isPrefixOf]
 ·have hp:([c]:List UInt8).isPrefixOf (b::l)=false:=(by simp[List.isPrefixOf,Ne.symm h]);rw[hp];simp[h]
theorem yJ9(c:UInt8)(l:List UInt8):∀ p,Lib.index l [c]=-1->qD c p l=[p++l]:=by
 induction l with
|nil=>intro p _;simp[qD]
|cons b l ih =>
  intro p h;rw[dB] at h;by_cases hb:b=c
  ·simp[hb] at h
  ·rw[iN hb] at h;have h2:Lib.index l [c]=-1:=by
    split at h
    ·assumption
    ·have:=Lib.index_ge l [c];omega
   rw[qD,iN hb,ih _ h2];simp
theorem yT7(c:UInt8)(l:List UInt8):∀ p (i:Nat),Lib.index l [c]=(i:Int)->qD c p l=(p++l.take i)::qD c [] (l.drop (i+1)):=by
 induction l with
|nil=>intro p i h;simp[Lib.index] at h
|cons b l ih =>
  intro p i h;rw[dB] at h;by_cases hb:b=c
  ·rw[iP hb] at h;obtain rfl:i=0:=(by omega);simp[qD,hb]
  ·rw[iN hb] at h;split at h
   ·omega
   ·obtain⟨j,rfl⟩:∃ j,i=j+1:=⟨i - 1,by have:=Lib.index_ge l [c];omega⟩;rw[qD,iN hb,ih _ j (by omega)];simp
theorem zV1(c:UInt8):∀ (k:Nat) (l:List UInt8),Lib.count l [c]=k->Lib.splitK [c] 0 k l=qD c [] l:=by
 intro k
 induction k with
|zero =>
  intro l h;have hm:Lib.index l [c]=-1:=by
   by_cases hm:Lib.index l [c]=-1
   ·exact hm
   ·have hge:=Lib.index_ge l [c];obtain⟨j,hj⟩:∃ j:Nat,Lib.index l [c]=j:=⟨(Lib.index l [c]).toNat,by omega⟩;rw[Lib.count_hit (by simp) hj] at h;omega
  rw[yJ9 c l [] hm];rfl
|succ k ih =>
  intro l h;by_cases hm:Lib.index l [c]=-1
  ·rw[Lib.count_miss hm] at h;omega
  ·have hge:=Lib.index_ge l [c];obtain⟨j,hj⟩:∃ j:Nat,Lib.index l [c]=j:=⟨(Lib.index l [c]).toNat,by omega⟩;rw[Lib.count_hit (by simp) hj] at h;rw[Lib.splitK,iN (by rw[hj];simp),hj,yT7 c l [] j hj];simp only[Int.toNat_natCast,lC,List.length_nil,Nat.add_zero,Nat.zero_add,List.nil_append];rw[ih _ (by simp only[lC,List.length_nil,Nat.zero_add] at h;omega)]
theorem zX7(L:List ByteArray)(R:List (List UInt8))(h:L.map (·.data.toList)=R):L.map Value.string=R.map sv:=by
 subst h;simp[sv,Function.comp_def]
theorem yY4(s:ByteArray)(w:World)(hs:s.size<=40)(hm:∃ m,w.cell? ⟨0,0,none⟩=some (.int .i64 m)) :
  Calls Tryz.prog 246 #[.string s,.string ⟨#[46]⟩] w (yM5 (jQ s.data.toList) w):=by
 obtain⟨m,hm⟩:=hm;refine(Tryz.strings_Split s ⟨#[46]⟩ m w (by omega) hm (by decide)).mono ?_;rintro e w' ⟨rfl,rfl⟩;have hc:Lib.countB s ⟨#[46]⟩<=s.size:=Lib.countB_le _ (by decide) s.size s (nR _);have hl:=Lib.splitB_all ⟨#[46]⟩ (by decide) 0 _ s rfl;have hd:(Lib.splitB ⟨#[46]⟩ 0 (Lib.countB s ⟨#[46]⟩) s).map (·.data.toList)=jQ s.data.toList:=by
  rw[Lib.splitB_data];exact zV1 46 _ _ rfl
 have hv:=zX7 _ _ hd;have hlen:(jQ s.data.toList).length=Lib.countB s ⟨#[46]⟩+1:=by rw[← hd,List.length_map,hl]
 refine⟨_,rfl,?_,(bR _ _).alloc (nR _) _⟩;have h:=World.ownsRow_lit (base:=w.heap.size) (e:=9) (size:=1) w ((Lib.splitB ⟨#[46]⟩ 0 (Lib.countB s ⟨#[46]⟩) s).map Value.string).toArray (Lib.countB s ⟨#[46]⟩+1) (nR _) (by unfold maxLen;omega) (by simp[hl]);rw[hlen];simpa [hv] using h
theorem eT(l:List UInt8):(sD l).length<=5:=by
 unfold sD;split
 ·rename_i h;simp only[zN,Bool.and_eq_true,decide_eq_true_eq] at h;exact h.1.2
 ·simp
def MaxLenInt (w:World):Prop:=∃ m,w.cell? ⟨0,0,none⟩=some (.int .i64 m)
theorem MaxLenInt.pos{w:World}(h:MaxLenInt w):0<w.heap.size:=by
 obtain⟨m,h⟩:=h;rcases Nat.eq_zero_or_pos w.heap.size with h0|h0
 ·simp[World.cell?,Array.getElem?_eq_none (Nat.le_of_eq h0)] at h
 ·exact h0
theorem MaxLenInt.below{w w':World}(h:MaxLenInt w)(hb:Below w.heap.size w w'):MaxLenInt w':=by
 have hp:=h.pos;obtain⟨m,h⟩:=h;exact⟨m,(hb.cell (p:=⟨0,0,none⟩) hp).trans h⟩
theorem bH(s:ByteArray)(w:World)(hs:s.size<=maxLen)(hm:MaxLenInt w):Calls Tryz.prog 231 #[.string s] w (yM5 (sD s.data.toList) w):=by
 have f1:=Ld fun W=>sS s W hs;by_cases h1:zN s.data.toList=true
 ·have hz:s.size<=40:=uI h1;have f2:=Ld fun W (hW:MaxLenInt W)=>yY4 s W hz hW;have HR:=Ld (show sD s.data.toList=_ from iP h1);have hpart:=Ld (zG7 46 s.data.toList []);have hl5:(jQ s.data.toList).length<=5:=(by have:=eT s.data.toList;rw[HR.out] at this;exact this);have hls:s.data.toList.length=s.size:=rfl;have hsz:∀ x∈jQ s.data.toList,x.length<=281474976710656:=fun x hx=>by have:=hpart.out x hx;simp only[List.length_nil,hls] at this;omega
  rw[h1] at f1;clear h1 hpart hls;generalize jQ s.data.toList=r at f2 HR hl5 hsz;go_enter Tryz.func231,Tryz.ntmps231;go_wp2_with fail;(with_reducible refine mo (f1.out _) fun w1 hb1=>?_);go_wp2_with fail;(with_reducible refine(f2.out _ (hm.below hb1)).mono ?_);rintro e w2 ⟨v2,rfl,ho2,hb2⟩;have hB:=hb1.trans (hb2.mono hb1.size);go_wp2_with fail;refine(yK3 ho2 (by omega) hsz).mono ?_;rintro e w3 ⟨v3,rfl,ho3,hb3⟩;go_wp2;go_ret;rw[HR.out];exact⟨_,rfl,zS0 ho3 hB.size,hB.trans (hb3.mono hB.size)⟩
 ·have HR:=Ld (show sD s.data.toList=_ from iN h1);rw[Bool.not_eq_true] at h1;rw[h1] at f1;clear h1;go_enter Tryz.func231,Tryz.ntmps231;go_wp2_with fail;(with_reducible refine mo (f1.out _) fun w1 hb1=>?_);go_wp2;go_ret;rw[HR.out];exact⟨_,rfl,World.ownsRow_nil _ _ _ _,hb1⟩
theorem bV(l:List (List UInt8))(y:List UInt8)(n:Nat)(hn:n=l.length):Lib.containsS ((l.map fun x=>(⟨x.toArray⟩:ByteArray)).take n) ⟨y.toArray⟩=xJ2 l y:=by
 subst hn;rw[Bool.eq_iff_iff,Lib.containsS_iff,List.take_of_length_le (by simp)];simp only[xJ2,decide_eq_true_eq,List.mem_map];constructor
 ·rintro ⟨x,hx,e⟩;have:x=y:=(by simpa using e);rw[← this];exact hx
 ·intro h;exact⟨y,h,rfl⟩
theorem dG{w:World}{b:Nat}{v:Value}{l:List (List UInt8)}(h:w.ownsRow b 9 1 v l.length (l.map sv))(y:List UInt8)(hn:l.length<=1048576) :
  Calls Tryz.prog 202 #[v,.string ⟨y.toArray⟩] w fun e w'=>e=.returned (.bool (xJ2 l y))/\w'=w:=by
 rcases Nat.eq_zero_or_pos l.length with h0|hp
 ·obtain⟨a,cap,rfl⟩:=eS h h0;obtain rfl:l=[]:=List.length_eq_zero_iff.1 h0;have f1:=Ld fun W=>Tryz.slices_Contains_string_empty a cap ⟨y.toArray⟩ W;clear h h0 hn;go_enter Tryz.func202,Tryz.ntmps202;go_wp2_with fail;(with_reducible refine mo (f1.out _) ?_);rintro w1 rfl;go_wp2;go_ret;exact⟨rfl,rfl⟩
 ·obtain⟨g,cap,rfl,_,_⟩:=h.form hp
  have f1:=Ld (Tryz.slices_Contains_string g 0 l.length cap (l.map fun x=>(⟨x.toArray⟩:ByteArray)) ⟨y.toArray⟩ w (by simp) (by omega) (fun j hj=>by
   have hj2:j<l.length:=(by simpa using hj);rw[Nat.zero_add,h.cellAt j (by omega)];simp[hj2,sv]))
  rw[bV l y _ rfl] at f1;clear h;go_enter Tryz.func202,Tryz.ntmps202;go_wp2_with fail;(with_reducible refine mo f1.out ?_);rintro w1 rfl;go_wp2;go_ret;exact⟨rfl,rfl⟩
theorem zU5{l:List UInt8}(h:yB l=true):1<=l.length:=by
 unfold yB at h;cases ht:vQ l with
|none=>rw[ht] at h;cases h
|some t =>
  have h1:=(vF ht).2.1;have:=t.bytes_pos;rw[← h1];omega
theorem zD5(s:ByteArray)(W:World)(hv:Vars W)(hs:s.size<=281474976710656) :
  Rt 158 #[.string s] W (.string ⟨(xC s.data.toList).toArray⟩):=by
 have f1:=Ld (dE s W hv (by unfold maxLen;omega));have hls:s.data.toList.length=s.size:=rfl;clear hv;by_cases h:yB s.data.toList=true
 ·have h1:=zU5 h;rw[hls] at h1;have HE:Hid ((⟨(xC s.data.toList).toArray⟩:ByteArray)=s.extract 0 1):=(by rw[Hid,xC,iP h,zF8]);have hz:(s.extract 0 1).size=1:=(by rw[ByteArray.size_extract];omega);have f2:=Ld fun W=>yW4 (s.extract 0 1) W (by rw[hz];omega);rw[h] at f1;clear h hls hs hz;go_enter Tryz.func158,Tryz.ntmps158;go_wp2_with fail;(with_reducible refine mo f1.out fun w1 hb=>?_);go_wp2_with fail;(with_reducible refine mo (f2.out _) fun w2 hb2=>?_);go_wp2;go_ret;rw[HE.out];exact⟨rfl,hb.trans (hb2.mono hb.size)⟩
 ·have HE:Hid (xC s.data.toList=[]):=(by rw[Hid,xC,iN h]);rw[Bool.not_eq_true] at h;rw[h] at f1;clear h hls hs;go_enter Tryz.func158,Tryz.ntmps158;go_wp2_with fail;(with_reducible refine mo f1.out fun w1 hb=>?_);go_wp2;go_ret;rw[HE.out];exact⟨rfl,hb⟩
end Go.Proofs.YtcaahdjhbmmcnaaGreatDoor
