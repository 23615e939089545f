/- TDig TLeaf TConst TLeafS TLeafO TLeafC -/
import Derived.StillTailTactics
import Derived.Test.YtcaahdjhbmmcnaaGreatDoorYA1
import Derived.Test.YtcaahdjhbmmcnaaGreatDoorYA2
set_option maxRecDepth 100000
set_option maxHeartbeats 16000000
set_option linter.unusedSimpArgs false
set_option linter.unusedVariables false
namespace Go.Proofs.YtcaahdjhbmmcnaaGreatDoor
open Go.ChangeShapes Go.WideShapes Go.ChangeAt Go.RowKit
def lvlEnd (l:List UInt8) (a:Nat):Int:=match lend 1 (l.drop a) with
 | some k=>if k<=60 then (a:Int)+k else -1
 | none=>-1
theorem specL06Level (s:ByteArray) (a:Nat) (w:World) (hs:s.size<=1000000000) (ha:a<=s.size) :
  Calls Tryz.prog 193 #[.string s,.int .i64 (a:Int)] w fun e w'=>e=.returned (.int .i64 (lvlEnd s.data.toList a))/\w'=w:=by
 have f1:=Ld fun W=>specL04End s a W hs ha;cases hr:lend 1 (s.data.toList.drop a) with
 | none =>
  have HE:Hid (lvlEnd s.data.toList a=-1):=(by rw [Hid,lvlEnd,hr]);rw [show runE s.data.toList 1 a=none by rw [runE,hr];rfl,show endV none=-1 from rfl] at f1;clear hr;go_enter Tryz.func193,Tryz.ntmps193;go_wp2_with fail;(with_reducible refine mo (f1.out _) ?_);rintro w1 rfl;go_wp2;go_ret;rw [HE.out];exact ⟨rfl,rfl⟩
 | some k =>
  have hk:=(lend_take _ _ _ hr).2;rw [List.length_drop] at hk;have hk2:a+k<=s.size:=(by have:s.data.toList.length=s.size:=rfl;omega);clear hk;rw [show runE s.data.toList 1 a=some (k+a) by rw [runE,hr];rfl,show endV (some (k+a))=((k+a:Nat):Int) from rfl,show ((k+a:Nat):Int)=(a:Int)+(k:Int) by omega] at f1;by_cases h60:k<=60
  ·have HE:Hid (lvlEnd s.data.toList a=(a:Int)+k):=(by rw [Hid,lvlEnd,hr];simp [h60]);have d1:decide ((60:Int) < (k:Int))=false:=dF (by omega);have e1:IntKind.i64.wrap ((a:Int)+(k:Int) - (a:Int))=(k:Int):=(by rw [show (a:Int)+(k:Int) - (a:Int)=(k:Int) by omega];exact IntWalk.i64_in _ (by omega));have e2:(a:Int)+(k:Int) - (a:Int)=(k:Int):=(by omega);have d2:decide ((a:Int)+(k:Int) < 0)=false:=dF (by omega);clear hr;go_enter Tryz.func193,Tryz.ntmps193;go_wp2_with fail;(with_reducible refine mo (f1.out _) ?_);rintro w1 rfl;go_wp2;go_ret;rw [HE.out];exact ⟨rfl,rfl⟩
  ·have HE:Hid (lvlEnd s.data.toList a=-1):=(by rw [Hid,lvlEnd,hr];simp [h60]);have d1:decide ((60:Int) < (k:Int))=true:=dT (by omega);have e1:IntKind.i64.wrap ((a:Int)+(k:Int) - (a:Int))=(k:Int):=(by rw [show (a:Int)+(k:Int) - (a:Int)=(k:Int) by omega];exact IntWalk.i64_in _ (by omega));have e2:(a:Int)+(k:Int) - (a:Int)=(k:Int):=(by omega);have d2:decide ((a:Int)+(k:Int) < 0)=false:=dF (by omega);clear hr;go_enter Tryz.func193,Tryz.ntmps193;go_wp2_with fail;(with_reducible refine mo (f1.out _) ?_);rintro w1 rfl;go_wp2;go_ret;rw [HE.out];exact ⟨rfl,rfl⟩
def isDig (c:UInt8):Prop:=48<=c.toNat/\c.toNat<=57
def Run4 (l:List UInt8) (a m:Nat):Prop :=
 m<=4/\a+m<=l.length/\(∀ j (h:a+j < l.length),j < m->isDig l[a+j])/\(a+m=l.length\/m=4\/∃ h:a+m < l.length,¬ isDig l[a+m])
def DigPost (l:List UInt8) (a:Nat) (w:World) (e:Ending) (w':World):Prop :=
 Below w.heap.size w w'/\∃ m,Run4 l a m/\((∃ n,n<=999/\Lib.decDigits n=(l.drop a).take m/\e=.returned (.tuple #[.int .i64 (n:Int),.int .i64 ((a:Int)+(m:Int))]))\/((∀ n,n<=999->Lib.decDigits n≠(l.drop a).take m)/\e=.returned (.tuple #[.int .i64 0,.int .i64 (-1)])))
theorem extract_take (s:ByteArray) (a m:Nat):(s.extract a (a+m)).data.toList=(s.data.toList.drop a).take m:=by
 simp [ByteArray.data_extract,Array.toList_extract,List.extract_eq_take_drop]
theorem specL06Digits (s:ByteArray) (a:Nat) (w:World) (hs:s.size<=1000000000) (ha:a<=s.size) :
  Calls Tryz.prog 192 #[.string s,.int .i64 (a:Int)] w (DigPost s.data.toList a w):=by
 have hls:Hid (s.data.toList.length=s.size):=rfl;have q0:=zn a;have hEx:∀ m,a+m<=s.size->(s.extract a (a+m)).size<=maxLen:=fun m hm=>by
  rw [ByteArray.size_extract];unfold maxLen;omega
 have HF:=Ld fun m W (hm:a+m<=s.size)=>specRead (s.extract a (a+m)) W (hEx m hm);clear hEx;go_enter Tryz.func192,Tryz.ntmps192;go_wp2;go_loopw [6] (fun i wr=>∃ m:Nat,m<=4/\a+m<=s.size/\i=.int .i64 ((a:Int)+(m:Int))/\wr=w/\Hid (∀ j (h:a+j < s.data.toList.length),j < m->isDig s.data.toList[a+j])) (fun i _=>s.size - (intOf i).toNat)
 case atStart=>exact ⟨0,by omega,by omega,by simp,rfl,fun j _ hj=>by omega⟩
 case round =>
  obtain ⟨m,hm4,hma,rfl,rfl,HD⟩:=hrel;by_cases hlt:a+m < s.size
  ·by_cases h4:m < 4
   ·have hll:a+m < s.data.toList.length:=hlt;by_cases hd:isDig s.data.toList[a+m]
    ·have b1:48<=s[a+m].toNat:=hd.1;have b2:s[a+m].toNat<=57:=hd.2;have q1:(0:Int)<=(a:Int)+(m:Int):=(by omega);have q2:(a:Int)+(m:Int) < (s.size:Int):=(by omega);have q3:((a:Int)+(m:Int)).toNat=a+m:=(by omega);have d1:decide ((a:Int)+(m:Int) < (s.size:Int))=true:=dT (by omega);have d2:decide ((a:Int)+(m:Int) < (a:Int)+4)=true:=dT (by omega);have d3:decide ((48:Int)<=(s[a+m].toNat:Int))=true:=dT (by omega);have d4:decide ((s[a+m].toNat:Int)<=57)=true:=dT (by omega);have HD2:Hid (∀ j (h:a+j < s.data.toList.length),j < m+1->isDig s.data.toList[a+j]):=fun j h hj=>if e:j=m then by subst e;exact hd else HD.out j h (by omega)
     clear hd HD;go_wp2;go_roundw
     case rel=>exact ⟨m+1,by omega,by omega,by go_num,trivial,HD2.out⟩
     case measure=>simp [intOf];omega
    ·have hnd:=Ld hd;have q1:(0:Int)<=(a:Int)+(m:Int):=(by omega);have q2:(a:Int)+(m:Int) < (s.size:Int):=(by omega);have q2':(a:Int)+(m:Int)<=(s.size:Int):=(by omega);have q5:(a:Int)<=(a:Int)+(m:Int):=(by omega);have q3:((a:Int)+(m:Int)).toNat=a+m:=(by omega);have d1:decide ((a:Int)+(m:Int) < (s.size:Int))=true:=dT (by omega);have d2:decide ((a:Int)+(m:Int) < (a:Int)+4)=true:=dT (by omega);by_cases b1:48<=s[a+m].toNat
     ·have b2:¬ s[a+m].toNat<=57:=fun h=>hd ⟨b1,h⟩;have d3:decide ((48:Int)<=(s[a+m].toNat:Int))=true:=dT (by omega);have d4:decide ((s[a+m].toNat:Int)<=57)=false:=dF (by omega);clear hd;have HR:Hid (Run4 s.data.toList a m):=⟨hm4,hma,HD.out,.inr (.inr ⟨hll,hnd.out⟩)⟩;have f1:=HF.out m wr hma;unfold RdPost at f1;rw [extract_take] at f1;have F1:=Ld f1;clear f1 HF HD;go_wp2_with fail;(with_reducible refine F1.out.mono ?_);rintro e w1 ⟨hb1,(⟨n,hn,rfl⟩ | ⟨hno,rfl⟩)⟩
      ·by_cases h9:n<=999
       ·have d9:decide ((999:Int) < (n:Int))=false:=dF (by omega);have HN:=Ld hn.2;clear hn;go_wp2;go_ret2;exact ⟨hb1,m,HR.out,.inl ⟨n,h9,HN.out,rfl⟩⟩
       ·have d9:decide ((999:Int) < (n:Int))=true:=dT (by omega);have HN:Hid (∀ k,k<=999->Lib.decDigits k≠(s.data.toList.drop a).take m):=fun k hk e=>by
         have:=digits_inj (e.trans hn.2.symm);omega
        clear hn;go_wp2;go_ret2;exact ⟨hb1,m,HR.out,.inr ⟨HN.out,rfl⟩⟩
      ·have HN:Hid (∀ k,k<=999->Lib.decDigits k≠(s.data.toList.drop a).take m):=fun k hk e=>hno k ⟨by omega,e⟩;clear hno;go_wp2;go_ret2;exact ⟨hb1,m,HR.out,.inr ⟨HN.out,rfl⟩⟩
     ·have d3:decide ((48:Int)<=(s[a+m].toNat:Int))=false:=dF (by omega);clear hd;have HR:Hid (Run4 s.data.toList a m):=⟨hm4,hma,HD.out,.inr (.inr ⟨hll,hnd.out⟩)⟩;have f1:=HF.out m wr hma;unfold RdPost at f1;rw [extract_take] at f1;have F1:=Ld f1;clear f1 HF HD;go_wp2_with fail;(with_reducible refine F1.out.mono ?_);rintro e w1 ⟨hb1,(⟨n,hn,rfl⟩ | ⟨hno,rfl⟩)⟩
      ·by_cases h9:n<=999
       ·have d9:decide ((999:Int) < (n:Int))=false:=dF (by omega);have HN:=Ld hn.2;clear hn;go_wp2;go_ret2;exact ⟨hb1,m,HR.out,.inl ⟨n,h9,HN.out,rfl⟩⟩
       ·have d9:decide ((999:Int) < (n:Int))=true:=dT (by omega);have HN:Hid (∀ k,k<=999->Lib.decDigits k≠(s.data.toList.drop a).take m):=fun k hk e=>by
         have:=digits_inj (e.trans hn.2.symm);omega
        clear hn;go_wp2;go_ret2;exact ⟨hb1,m,HR.out,.inr ⟨HN.out,rfl⟩⟩
      ·have HN:Hid (∀ k,k<=999->Lib.decDigits k≠(s.data.toList.drop a).take m):=fun k hk e=>hno k ⟨by omega,e⟩;clear hno;go_wp2;go_ret2;exact ⟨hb1,m,HR.out,.inr ⟨HN.out,rfl⟩⟩
   ·obtain rfl:m=4:=(by omega);have q1:(0:Int)<=(a:Int)+4:=(by omega);have q2:(a:Int)+4 < (s.size:Int):=(by omega);have q2':(a:Int)+4<=(s.size:Int):=(by omega);have q5:(a:Int)<=(a:Int)+4:=(by omega);have q3:((a:Int)+4).toNat=a+4:=(by omega);have d1:decide ((a:Int)+4 < (s.size:Int))=true:=dT (by omega);have d2:decide ((a:Int)+4 < (a:Int)+4)=false:=dF (by omega);have HR:Hid (Run4 s.data.toList a 4):=⟨hm4,hma,HD.out,.inr (.inl rfl)⟩;have f1:=HF.out 4 wr hma;unfold RdPost at f1;rw [extract_take] at f1;have F1:=Ld f1;clear f1 HF HD;go_wp2_with fail;(with_reducible refine F1.out.mono ?_);rintro e w1 ⟨hb1,(⟨n,hn,rfl⟩ | ⟨hno,rfl⟩)⟩
    ·by_cases h9:n<=999
     ·have d9:decide ((999:Int) < (n:Int))=false:=dF (by omega);have HN:=Ld hn.2;clear hn;go_wp2;go_ret2;exact ⟨hb1,4,HR.out,.inl ⟨n,h9,HN.out,rfl⟩⟩
     ·have d9:decide ((999:Int) < (n:Int))=true:=dT (by omega);have HN:Hid (∀ k,k<=999->Lib.decDigits k≠(s.data.toList.drop a).take 4):=fun k hk e=>by
       have:=digits_inj (e.trans hn.2.symm);omega
      clear hn;go_wp2;go_ret2;exact ⟨hb1,4,HR.out,.inr ⟨HN.out,rfl⟩⟩
    ·have HN:Hid (∀ k,k<=999->Lib.decDigits k≠(s.data.toList.drop a).take 4):=fun k hk e=>hno k ⟨by omega,e⟩;clear hno;go_wp2;go_ret2;exact ⟨hb1,4,HR.out,.inr ⟨HN.out,rfl⟩⟩
  ·have hme:a+m=s.data.toList.length:=(by rw [hls.out];omega);have HME:=Ld hme;clear hme;have q1:(0:Int)<=(a:Int)+(m:Int):=(by omega);have q2':(a:Int)+(m:Int)<=(s.size:Int):=(by omega);have q5:(a:Int)<=(a:Int)+(m:Int):=(by omega);have q3:((a:Int)+(m:Int)).toNat=a+m:=(by omega);have d1:decide ((a:Int)+(m:Int) < (s.size:Int))=false:=dF (by omega);have HR:Hid (Run4 s.data.toList a m):=⟨hm4,hma,HD.out,.inl HME.out⟩;have f1:=HF.out m wr hma;unfold RdPost at f1;rw [extract_take] at f1;have F1:=Ld f1;clear f1 HF HD;go_wp2_with fail;(with_reducible refine F1.out.mono ?_);rintro e w1 ⟨hb1,(⟨n,hn,rfl⟩ | ⟨hno,rfl⟩)⟩
   ·by_cases h9:n<=999
    ·have d9:decide ((999:Int) < (n:Int))=false:=dF (by omega);have HN:=Ld hn.2;clear hn;go_wp2;go_ret2;exact ⟨hb1,m,HR.out,.inl ⟨n,h9,HN.out,rfl⟩⟩
    ·have d9:decide ((999:Int) < (n:Int))=true:=dT (by omega);have HN:Hid (∀ k,k<=999->Lib.decDigits k≠(s.data.toList.drop a).take m):=fun k hk e=>by
      have:=digits_inj (e.trans hn.2.symm);omega
     clear hn;go_wp2;go_ret2;exact ⟨hb1,m,HR.out,.inr ⟨HN.out,rfl⟩⟩
   ·have HN:Hid (∀ k,k<=999->Lib.decDigits k≠(s.data.toList.drop a).take m):=fun k hk e=>hno k ⟨by omega,e⟩;clear hno;go_wp2;go_ret2;exact ⟨hb1,m,HR.out,.inr ⟨HN.out,rfl⟩⟩
structure Nd where
 kind:UInt8
 a:Nat
 b:Nat
 c:Nat
 num:Nat
 text:List UInt8
 lv:Value
def Nd.cells (n:Nd):List Value:=[.int .u8 (n.kind.toNat:Int),.int .i64 (n.a:Int),.int .i64 (n.b:Int),.int .i64 (n.c:Int),.int .i64 (n.num:Int),.string ⟨n.text.toArray⟩,n.lv]
abbrev nC(q:Int)(n:Nd)(l:Value)(T:TypeId)(r:Nat×Nat:=(0,0)):Obj:=.cells #[.int .u8 q,.int .i64 (n.a:Int),.int .i64 (n.b:Int),.int .i64 (n.c:Int),.int .i64 (n.num:Int),.string ⟨n.text.toArray⟩,l] T r
def Tm.isLeaf:Tm->Bool
 | .var _=>true
 | .sort _=>true
 | .const _ _=>true
 | _=>false
def LeafIs (W:World) (B:Nat) (nd:Nd):Tm->Prop
 | .var n=>nd.kind=118/\nd.num=n/\nd.lv=.slice none 0 0
 | .sort l=>nd.kind=115/\nd.text=l/\nd.lv=.slice none 0 0
 | .const nm ls=>nd.kind=99/\nd.text=nm/\W.ownsRow B 9 1 nd.lv ls.length (ls.map sv)
 | _=>False
def LeafPost (l:List UInt8) (p:Nat) (w:World) (e:Ending) (w':World):Prop :=
 Below w.heap.size w w'/\∃ (nd:Nd) (en:Int),(∃ a n c,nd.lv=.slice a n c)/\e=.returned (.tuple #[.agg nd.cells.toArray,.int .i64 en]) /\
  ((∃ t r,t.isLeaf=true/\LeafIs w' w.heap.size nd t/\Tat (l.drop p) t r/\en=((p+t.bytes.length:Nat):Int))\/(en=-1/\∀ t r,Tat (l.drop p) t r->t.isLeaf=false))
theorem tat_head {l:List UInt8} {p:Nat} {t:Tm} {r:List UInt8} (hp:p < l.length) (h:Tat (l.drop p) t r):t.kind=l[p]:=by
 obtain ⟨x,hx⟩:=t.bytes_head;have h2:=h.2;rw [List.drop_eq_getElem_cons hp,hx,List.cons_append] at h2;injection h2 with h2 _;exact h2.symm
theorem decDigits_short {n:Nat} (h:n<=999):(Lib.decDigits n).length<=3:=by
 rw [Lib.decDigits_length];exact nDigits_le 2 n (by omega)
theorem var_tat {l:List UInt8} {p m n:Nat} (hp:p < l.length) (hc:l[p]=118) (hn:n<=999) (hd:Lib.decDigits n=(l.drop (p+1)).take m) (hm:p+1+m < l.length) (h46:l[p+1+m]=46) :
  Tat (l.drop p) (.var n) (l.drop (p+1+m+1))/\p+(Tm.var n).bytes.length=p+1+m+1:=by
 have hlen:(Lib.decDigits n).length=m:=by rw [hd];simp;omega
 refine ⟨⟨hn,?_⟩,by simp [Tm.bytes,hlen];omega⟩;rw [Tm.bytes,List.drop_eq_getElem_cons hp,hc,hd,List.cons_append,List.append_assoc];congr 1;have e:l.drop (p+1+m)=46 :: l.drop (p+1+m+1):=by rw [List.drop_eq_getElem_cons hm,h46]
 have e2:l.drop (p+1)=(l.drop (p+1)).take m ++ l.drop (p+1+m):=by rw [show l.drop (p+1+m)=(l.drop (p+1)).drop m by rw [List.drop_drop]];exact (List.take_append_drop _ _).symm
 rw [List.singleton_append,← e];exact e2
theorem run_of_tat {l r:List UInt8} {p m n:Nat} (hrun:Run4 l (p+1) m) (h:Tat (l.drop p) (.var n) r) :
  n<=999/\Lib.decDigits n=(l.drop (p+1)).take m/\∃ h:p+1+m < l.length,l[p+1+m]=46:=by
 have hn:n<=999:=h.1;have hk:=decDigits_short hn;have h2:l.drop (p+1)=Lib.decDigits n ++ 46 :: r:=by
  have:=congrArg (List.drop 1) h.2;rw [List.drop_drop,Tm.bytes,List.cons_append,List.drop_succ_cons,List.drop_zero,List.append_assoc] at this;exact this
 have hat:∀ j,j < (Lib.decDigits n).length+1->∃ hj:p+1+j < l.length,l[p+1+j]?=(Lib.decDigits n ++ 46 :: r)[j]?:=fun j hj=>by
  have e:(l.drop (p+1))[j]?=l[p+1+j]?:=(by rw [List.getElem?_drop]);rw [h2] at e;have hlt:j < (Lib.decDigits n ++ 46 :: r).length:=(by simp;omega);rw [List.getElem?_eq_getElem hlt] at e;refine ⟨?_,by rw [← e,List.getElem?_eq_getElem hlt]⟩;by_cases hc:p+1+j < l.length
  ·exact hc
  ·rw [List.getElem?_eq_none (by omega)] at e;cases e
 obtain ⟨r1,r2,r3,r4⟩:=hrun;have hdig:∀ j (hj:j < (Lib.decDigits n).length) (hl:p+1+j < l.length),isDig l[p+1+j]:=fun j hj hl=>by
  obtain ⟨_,e⟩:=hat j (by omega);rw [List.getElem?_eq_getElem hl,List.getElem?_append_left hj,List.getElem?_eq_getElem hj] at e;injection e with e;rw [e];exact digits_byte n _ (List.getElem_mem hj)
 obtain ⟨hkl,ek⟩:=hat (Lib.decDigits n).length (by omega);rw [List.getElem?_eq_getElem hkl,List.getElem?_append_right (nR _),Nat.sub_self,List.getElem?_cons_zero] at ek;injection ek with ek;have hmk:m=(Lib.decDigits n).length:=by
  rcases Nat.lt_trichotomy m (Lib.decDigits n).length with hlt | heq | hgt
  ·exfalso;rcases r4 with r4 | r4 | ⟨r4,r5⟩
   ·omega
   ·omega
   ·exact r5 (hdig m hlt r4)
  ·exact heq
  ·exfalso;have:=r3 _ hkl hgt;rw [ek] at this;revert this;unfold isDig
   decide
 subst hmk;exact ⟨hn,by rw [h2];simp,hkl,ek⟩
theorem kind_var {t:Tm} (h:t.kind=118):∃ n,t=.var n:=by
 cases t with
 | var n=>exact ⟨n,rfl⟩
 | _=>exact absurd h (by simp only [Tm.kind];decide)
theorem kind_sort {t:Tm} (h:t.kind=115):∃ n,t=.sort n:=by
 cases t with
 | sort n=>exact ⟨n,rfl⟩
 | _=>exact absurd h (by simp only [Tm.kind];decide)
theorem kind_const {t:Tm} (h:t.kind=99):∃ n ls,t=.const n ls:=by
 cases t with
 | const n ls=>exact ⟨n,ls,rfl⟩
 | _=>exact absurd h (by simp only [Tm.kind];decide)
theorem var_no {l:List UInt8} {p m:Nat} (hp:p < l.length) (hc:l[p]=118) (hrun:Run4 l (p+1) m)
  (h:(∀ n,n<=999->Lib.decDigits n≠(l.drop (p+1)).take m)\/l.length<=p+1+m\/∃ h:p+1+m < l.length,l[p+1+m]≠46):∀ t r,Tat (l.drop p) t r->t.isLeaf=false:=by
 intro t r ht;exfalso;obtain ⟨n,rfl⟩:=kind_var ((tat_head hp ht).trans hc);obtain ⟨h1,h2,h3,h4⟩:=run_of_tat hrun ht;rcases h with h | h | ⟨h,h'⟩
 ·exact h n h1 h2
 ·omega
 ·exact h' h4
def boxW (w:World) (k:Int):World:=(w.alloc (.cells #[.int .u8 0,.int .i64 0,.int .i64 0,.int .i64 0,.int .i64 0,.string ⟨#[]⟩,.slice none 0 0] 94)).alloc (.cells #[.int .u8 k,.int .i64 0,.int .i64 0,.int .i64 0,.int .i64 0,.string ⟨#[]⟩,.slice none 0 0] 94)
theorem box_res {w w1:World} {k:Int} (hb:Below (boxW w k).heap.size (boxW w k) w1):w1.cell? ⟨w.heap.size,0,none⟩=some (.int .u8 0)/\w1.cell? ⟨w.heap.size,1,none⟩=some (.int .i64 0)/\w1.cell? ⟨w.heap.size,2,none⟩=some (.int .i64 0)/\w1.cell? ⟨w.heap.size,3,none⟩=some (.int .i64 0)/\w1.cell? ⟨w.heap.size,4,none⟩=some (.int .i64 0)/\w1.cell? ⟨w.heap.size,5,none⟩=some (.string ⟨#[]⟩)/\w1.cell? ⟨w.heap.size,6,none⟩=some (.slice none 0 0):=by
 unfold boxW at hb;have h:=fun i=>(hb.cell (p:=⟨w.heap.size,i,none⟩) (by simp;omega));refine ⟨(h 0).trans ?_,(h 1).trans ?_,(h 2).trans ?_,(h 3).trans ?_,(h 4).trans ?_,(h 5).trans ?_,(h 6).trans ?_⟩<;>simp [go_sem]
theorem box_resF {w w1:World} {k:Int} (hb:Below (boxW w k).heap.size (boxW w k) w1):w1.frozen? ⟨w.heap.size,0,none⟩=false/\w1.frozen? ⟨w.heap.size,1,none⟩=false/\w1.frozen? ⟨w.heap.size,2,none⟩=false/\w1.frozen? ⟨w.heap.size,3,none⟩=false/\w1.frozen? ⟨w.heap.size,4,none⟩=false/\w1.frozen? ⟨w.heap.size,5,none⟩=false/\w1.frozen? ⟨w.heap.size,6,none⟩=false:=by
 unfold boxW at hb;have h:=fun i=>(hb.frozen (p:=⟨w.heap.size,i,none⟩) (by simp;omega));refine ⟨(h 0).trans ?_,(h 1).trans ?_,(h 2).trans ?_,(h 3).trans ?_,(h 4).trans ?_,(h 5).trans ?_,(h 6).trans ?_⟩<;>simp
theorem box_node {w w1:World} {k:Int} (hb:Below (boxW w k).heap.size (boxW w k) w1):w1.cell? ⟨w.heap.size+1,0,none⟩=some (.int .u8 k)/\w1.cell? ⟨w.heap.size+1,1,none⟩=some (.int .i64 0)/\w1.cell? ⟨w.heap.size+1,2,none⟩=some (.int .i64 0)/\w1.cell? ⟨w.heap.size+1,3,none⟩=some (.int .i64 0)/\w1.cell? ⟨w.heap.size+1,4,none⟩=some (.int .i64 0)/\w1.cell? ⟨w.heap.size+1,5,none⟩=some (.string ⟨#[]⟩)/\w1.cell? ⟨w.heap.size+1,6,none⟩=some (.slice none 0 0):=by
 unfold boxW at hb;have h:=fun i=>(hb.cell (p:=⟨w.heap.size+1,i,none⟩) (by simp));refine ⟨(h 0).trans ?_,(h 1).trans ?_,(h 2).trans ?_,(h 3).trans ?_,(h 4).trans ?_,(h 5).trans ?_,(h 6).trans ?_⟩<;>simp [go_sem]
theorem box_nodeF {w w1:World} {k:Int} (hb:Below (boxW w k).heap.size (boxW w k) w1):w1.frozen? ⟨w.heap.size+1,0,none⟩=false/\w1.frozen? ⟨w.heap.size+1,1,none⟩=false/\w1.frozen? ⟨w.heap.size+1,2,none⟩=false/\w1.frozen? ⟨w.heap.size+1,3,none⟩=false/\w1.frozen? ⟨w.heap.size+1,4,none⟩=false/\w1.frozen? ⟨w.heap.size+1,5,none⟩=false/\w1.frozen? ⟨w.heap.size+1,6,none⟩=false:=by
 unfold boxW at hb;have h:=fun i=>(hb.frozen (p:=⟨w.heap.size+1,i,none⟩) (by simp));refine ⟨(h 0).trans ?_,(h 1).trans ?_,(h 2).trans ?_,(h 3).trans ?_,(h 4).trans ?_,(h 5).trans ?_,(h 6).trans ?_⟩<;>simp
theorem sort_tat {l:List UInt8} {p k:Nat} (hp:p < l.length) (hc:l[p]=115) (hk:lend 1 (l.drop (p+1))=some k) (h60:k<=60) (hm:p+1+k < l.length) (h46:l[p+1+k]=46) :
  Tat (l.drop p) (.sort ((l.drop (p+1)).take k)) (l.drop (p+1+k+1))/\p+(Tm.sort ((l.drop (p+1)).take k)).bytes.length=p+1+k+1:=by
 have hlen:((l.drop (p+1)).take k).length=k:=by simp;omega
 refine ⟨⟨levelOk_take hk h60,?_⟩,by simp only [Tm.bytes,lC,lA,hlen,List.length_nil];omega⟩;rw [Tm.bytes,List.drop_eq_getElem_cons hp,hc,List.cons_append,List.append_assoc];congr 1;have e:l.drop (p+1+k)=46 :: l.drop (p+1+k+1):=by rw [List.drop_eq_getElem_cons hm,h46]
 have e2:l.drop (p+1)=(l.drop (p+1)).take k ++ l.drop (p+1+k):=by rw [show l.drop (p+1+k)=(l.drop (p+1)).drop k by rw [List.drop_drop]];exact (List.take_append_drop _ _).symm
 rw [List.singleton_append,← e];exact e2
theorem at_after {l:List UInt8} {p:Nat} {x:List UInt8} {c:UInt8} {r:List UInt8} (h:l.drop p=x ++ c :: r):∃ hj:p+x.length < l.length,l[p+x.length]=c:=by
 have e:(l.drop p)[x.length]?=l[p+x.length]?:=by rw [List.getElem?_drop]
 rw [h,List.getElem?_append_right (nR _),Nat.sub_self,List.getElem?_cons_zero] at e;by_cases hc:p+x.length < l.length
 ·rw [List.getElem?_eq_getElem hc] at e;injection e with e;exact ⟨hc,e.symm⟩
 ·rw [List.getElem?_eq_none (by omega)] at e;cases e
theorem tat_tail {l r:List UInt8} {p:Nat} {t:Tm} {x:List UInt8} (h:Tat (l.drop p) t r) (hx:t.bytes=t.kind :: x):l.drop (p+1)=x ++ r:=by
 have:=congrArg (List.drop 1) h.2;rw [List.drop_drop,hx,List.cons_append,List.drop_succ_cons,List.drop_zero] at this;exact this
theorem sort_no {l:List UInt8} {p:Nat} (hp:p < l.length) (hc:l[p]=115)
  (h:lend 1 (l.drop (p+1))=none\/∃ k,lend 1 (l.drop (p+1))=some k/\(60 < k\/l.length<=p+1+k\/∃ h:p+1+k < l.length,l[p+1+k]≠46)):∀ t r,Tat (l.drop p) t r->t.isLeaf=false:=by
 intro t r ht;exfalso;obtain ⟨n,rfl⟩:=kind_sort ((tat_head hp ht).trans hc);have hn:levelOk n=true:=ht.1;have h2:l.drop (p+1)=n ++ 46 :: r:=by
  have:=tat_tail ht (x:=n ++ [46]) rfl;rw [List.append_assoc] at this;exact this
 have h3:=levelOk_app (r:=46 :: r) hn;rw [← h2] at h3;obtain ⟨h4,h5⟩:=at_after h2;rcases h with h | ⟨k,h,h'⟩
 ·rw [h] at h3;cases h3
 ·rw [h] at h3;injection h3 with h3;subst h3;have:=(levelOk_len hn).1;rcases h' with h' | h' | ⟨h',h6⟩
  ·omega
  ·omega
  ·exact h6 h5
theorem ext_str (s:ByteArray) (a m:Nat):(⟨((s.data.toList.drop a).take m).toArray⟩:ByteArray)=s.extract a (a+m):=by
 refine str_eq ?_;rw [extract_take]
theorem specLeafV (s:ByteArray) (p:Nat) (w:World) (hs:s.size<=1000000000) (hp:p < s.size) (hc:s[p]=118) :
  Calls Tryz.prog 139 #[.string s,.int .i64 (p:Int)] w (LeafPost s.data.toList p w):=by
 have f1:=Ld fun W=>specL06Digits s (p+1) W hs (by omega);have e1:((s[p].toNat:Int) == 118)=true:=is_byte hc;have e2:(s[p].toNat:Int)=118:=by rw [hc];rfl
 have HC:=Ld hc;clear hc;have q1:=zn p;have q2:(p:Int) < (s.size:Int):=by omega
 rw [show ((p+1:Nat):Int)=(p:Int)+1 by omega] at f1;go_enter Tryz.func139,Tryz.ntmps139;go_wp2_with fail;(with_reducible refine (f1.out _).mono ?_);rintro e w1 ⟨hb1,m,hrun,(⟨n,hn,hd,rfl⟩ | ⟨hno,rfl⟩)⟩
 ·obtain ⟨r0,r1,r2,r3,r4,r5,r6⟩:=box_res (w:=w) (k:=118) hb1;obtain ⟨z0,z1,z2,z3,z4,z5,z6⟩:=box_resF (w:=w) (k:=118) hb1;obtain ⟨n0,n1,n2,n3,n4,n5,n6⟩:=box_node (w:=w) (k:=118) hb1;obtain ⟨y0,y1,y2,y3,y4,y5,y6⟩:=box_nodeF (w:=w) (k:=118) hb1;have hz:w.heap.size+1 < w1.heap.size:=(by have:=hb1.size;simp at this;omega);have HB:=(((bR w.heap.size w).alloc (nR _) _).alloc (by simp) _).trans (hb1.mono (by simp;omega));have HBH:=Ld HB;have HR:=Ld hrun;have HD:=Ld hd;have hm1:p+1+m<=s.size:=hrun.2.1;clear hb1 hrun hd HB;have q3:(0:Int)<=(p:Int)+1+(m:Int):=(by omega);have d1:decide ((p:Int)+1+(m:Int) < 0)=false:=dF (by omega);by_cases hlt:p+1+m < s.size
  ·have q4:(p:Int)+1+(m:Int) < (s.size:Int):=(by omega);have q5:((p:Int)+1+(m:Int)).toNat=p+1+m:=(by omega);have d2:decide ((s.size:Int)<=(p:Int)+1+(m:Int))=false:=dF (by omega);by_cases h46:s[p+1+m]=46
   ·have e3:((s[p+1+m].toNat:Int) == 46)=true:=is_byte h46;have e3':((s[p+1+m].toNat:Int) != 46)=false:=(by rw [bne,e3];rfl);have HT:=Ld (var_tat (l:=s.data.toList) hp HC.out hn HD.out hlt h46);clear h46;go_wp2;have HB:=HBH.out;exact bodyPost_ret (v:=.tuple #[.agg #[.int .u8 118,.int .i64 0,.int .i64 0,.int .i64 0,.int .i64 (n:Int),.string ⟨#[]⟩,.slice none 0 0],.int .i64 ((p:Int)+1+(m:Int)+1)]) (by simp [results,Tryz.results139,go_sem,r0,r1,r2,r3,r4,r5,r6]) rfl ⟨(((((((HB.setCell (p:=⟨w.heap.size+1,4,none⟩) (by simp) _).setCell (p:=⟨w.heap.size,0,none⟩) (nR _) _).setCell (p:=⟨w.heap.size,1,none⟩) (nR _) _).setCell (p:=⟨w.heap.size,2,none⟩) (nR _) _).setCell (p:=⟨w.heap.size,3,none⟩) (nR _) _).setCell (p:=⟨w.heap.size,4,none⟩) (nR _) _).setCell (p:=⟨w.heap.size,5,none⟩) (nR _) _).setCell (p:=⟨w.heap.size,6,none⟩) (nR _) _,⟨118,0,0,0,n,[],.slice none 0 0⟩,_,⟨_,_,_,rfl⟩,rfl,.inl ⟨.var n,_,rfl,⟨rfl,rfl,rfl⟩,HT.out.1,by rw [HT.out.2];simp⟩⟩
   ·have e3:((s[p+1+m].toNat:Int) == 46)=false:=ne_byte h46;have e3':((s[p+1+m].toNat:Int) != 46)=true:=(by rw [bne,e3];rfl);have HN:=Ld (var_no (l:=s.data.toList) hp HC.out HR.out (.inr (.inr ⟨hlt,h46⟩)));clear h46;go_wp2;have HB:=HBH.out;exact bodyPost_ret (v:=.tuple #[.agg #[.int .u8 118,.int .i64 0,.int .i64 0,.int .i64 0,.int .i64 (n:Int),.string ⟨#[]⟩,.slice none 0 0],.int .i64 (-1)]) (by simp [results,Tryz.results139,go_sem,r0,r1,r2,r3,r4,r5,r6]) rfl ⟨(((((((HB.setCell (p:=⟨w.heap.size+1,4,none⟩) (by simp) _).setCell (p:=⟨w.heap.size,0,none⟩) (nR _) _).setCell (p:=⟨w.heap.size,1,none⟩) (nR _) _).setCell (p:=⟨w.heap.size,2,none⟩) (nR _) _).setCell (p:=⟨w.heap.size,3,none⟩) (nR _) _).setCell (p:=⟨w.heap.size,4,none⟩) (nR _) _).setCell (p:=⟨w.heap.size,5,none⟩) (nR _) _).setCell (p:=⟨w.heap.size,6,none⟩) (nR _) _,⟨118,0,0,0,n,[],.slice none 0 0⟩,_,⟨_,_,_,rfl⟩,rfl,.inr ⟨rfl,HN.out⟩⟩
  ·have d2:decide ((s.size:Int)<=(p:Int)+1+(m:Int))=true:=dT (by omega);have HN:=Ld (var_no (l:=s.data.toList) hp HC.out HR.out (.inr (.inl (by show s.size<=_;omega))));go_wp2;have HB:=HBH.out;exact bodyPost_ret (v:=.tuple #[.agg #[.int .u8 118,.int .i64 0,.int .i64 0,.int .i64 0,.int .i64 (n:Int),.string ⟨#[]⟩,.slice none 0 0],.int .i64 (-1)]) (by simp [results,Tryz.results139,go_sem,r0,r1,r2,r3,r4,r5,r6]) rfl ⟨(((((((HB.setCell (p:=⟨w.heap.size+1,4,none⟩) (by simp) _).setCell (p:=⟨w.heap.size,0,none⟩) (nR _) _).setCell (p:=⟨w.heap.size,1,none⟩) (nR _) _).setCell (p:=⟨w.heap.size,2,none⟩) (nR _) _).setCell (p:=⟨w.heap.size,3,none⟩) (nR _) _).setCell (p:=⟨w.heap.size,4,none⟩) (nR _) _).setCell (p:=⟨w.heap.size,5,none⟩) (nR _) _).setCell (p:=⟨w.heap.size,6,none⟩) (nR _) _,⟨118,0,0,0,n,[],.slice none 0 0⟩,_,⟨_,_,_,rfl⟩,rfl,.inr ⟨rfl,HN.out⟩⟩
 ·obtain ⟨r0,r1,r2,r3,r4,r5,r6⟩:=box_res (w:=w) (k:=118) hb1;obtain ⟨z0,z1,z2,z3,z4,z5,z6⟩:=box_resF (w:=w) (k:=118) hb1;obtain ⟨n0,n1,n2,n3,n4,n5,n6⟩:=box_node (w:=w) (k:=118) hb1;obtain ⟨y0,y1,y2,y3,y4,y5,y6⟩:=box_nodeF (w:=w) (k:=118) hb1;have hz:w.heap.size+1 < w1.heap.size:=(by have:=hb1.size;simp at this;omega);have HB:=(((bR w.heap.size w).alloc (nR _) _).alloc (by simp) _).trans (hb1.mono (by simp;omega));have HBH:=Ld HB;have HN:=Ld (var_no (l:=s.data.toList) hp HC.out hrun (.inl hno));clear hb1 hrun hno HB;go_wp2;have HB:=HBH.out;exact bodyPost_ret (v:=.tuple #[.agg #[.int .u8 118,.int .i64 0,.int .i64 0,.int .i64 0,.int .i64 0,.string ⟨#[]⟩,.slice none 0 0],.int .i64 (-1)]) (by simp [results,Tryz.results139,go_sem,r0,r1,r2,r3,r4,r5,r6]) rfl ⟨(((((((HB.setCell (p:=⟨w.heap.size+1,4,none⟩) (by simp) _).setCell (p:=⟨w.heap.size,0,none⟩) (nR _) _).setCell (p:=⟨w.heap.size,1,none⟩) (nR _) _).setCell (p:=⟨w.heap.size,2,none⟩) (nR _) _).setCell (p:=⟨w.heap.size,3,none⟩) (nR _) _).setCell (p:=⟨w.heap.size,4,none⟩) (nR _) _).setCell (p:=⟨w.heap.size,5,none⟩) (nR _) _).setCell (p:=⟨w.heap.size,6,none⟩) (nR _) _,⟨118,0,0,0,0,[],.slice none 0 0⟩,_,⟨_,_,_,rfl⟩,rfl,.inr ⟨rfl,HN.out⟩⟩
theorem const_parts {l r:List UInt8} {p:Nat} {nm:List UInt8} {ls:List (List UInt8)} (h:Tat (l.drop p) (.const nm ls) r):l.drop (p+1)=nm ++ 59 :: (lvsB ls ++ 46 :: r):=by
 have:=tat_tail h (x:=nm ++ 59 :: (lvsB ls ++ [46])) rfl;rw [this];simp
def RunN (l:List UInt8) (p j:Nat):Prop :=
 p+1+j<=l.length/\(∀ i (h:p+1+i < l.length),i < j->l[p+1+i]≠59)/\(p+1+j=l.length\/j=41\/∃ h:p+1+j < l.length,l[p+1+j]=59)
theorem runN_of {l R:List UInt8} {p j:Nat} {nm:List UInt8} (hrun:RunN l p j) (hnm:nameOk nm=true) (h2:l.drop (p+1)=nm ++ 59 :: R) :
  (∃ h:p+1+j < l.length,l[p+1+j]=59)/\(l.drop (p+1)).take j=nm/\l.drop (p+1+j+1)=R:=by
 have h40:=nameOk_len hnm;have h59:=name_no59 hnm;have hat:∀ i,i < nm.length+1->∃ hi:p+1+i < l.length,l[p+1+i]?=(nm ++ 59 :: R)[i]?:=fun i hi=>by
  have e:(l.drop (p+1))[i]?=l[p+1+i]?:=(by rw [List.getElem?_drop]);rw [h2] at e;have hlt:i < (nm ++ 59 :: R).length:=(by simp;omega);rw [List.getElem?_eq_getElem hlt] at e;refine ⟨?_,by rw [← e,List.getElem?_eq_getElem hlt]⟩;by_cases hc:p+1+i < l.length
  ·exact hc
  ·rw [List.getElem?_eq_none (by omega)] at e;cases e
 obtain ⟨r1,r2,r3⟩:=hrun;obtain ⟨hkl,ek⟩:=hat nm.length (by omega);rw [List.getElem?_eq_getElem hkl,List.getElem?_append_right (nR _),Nat.sub_self,List.getElem?_cons_zero] at ek;injection ek with ek;have hjk:j=nm.length:=by
  rcases Nat.lt_trichotomy j nm.length with hlt | heq | hgt
  ·exfalso;rcases r3 with r3 | r3 | ⟨r3,r4⟩
   ·have:=(hat j (by omega)).1;omega
   ·omega
   ·obtain ⟨_,e⟩:=hat j (by omega);rw [List.getElem?_eq_getElem r3,List.getElem?_append_left hlt,List.getElem?_eq_getElem hlt] at e;injection e with e;rw [r4] at e;exact h59 (e ▸ List.getElem_mem hlt)
  ·exact heq
  ·exact absurd ek (r2 _ hkl hgt)
 subst hjk;refine ⟨⟨hkl,ek⟩,by rw [h2];simp,?_⟩;have e3:l.drop (p+1+nm.length)=59 :: R:=by rw [← List.drop_drop,h2,List.drop_left]
 rw [← List.drop_drop,e3];rfl
theorem lvs_prefix:∀ {a b:List (List UInt8)} {X r:List UInt8},(∀ x∈a,levelOk x=true)->(∀ x∈b,levelOk x=true)->lvsB a ++ X=lvsB b ++ 46 :: r->∃ c,b=a ++ c/\X=lvsB c ++ 46 :: r
 | [],b,X,r,_,_,h=>⟨b,rfl,h⟩
 | x :: a,[],X,r,hx,_,h=>by
  rw [lvsB,lvsB,List.append_assoc] at h;exact absurd h (levelOk_not46 (hx x List.mem_cons_self))
 | x :: a,y :: b,X,r,hx,hy,h=>by
  rw [lvsB,lvsB,List.append_assoc,List.append_assoc,List.cons_append,List.cons_append] at h;obtain ⟨h1,h2⟩:=levelOk_uniq (hx x List.mem_cons_self) (hy y List.mem_cons_self) h;injection h2 with _ h2;obtain ⟨c,h3,h4⟩:=lvs_prefix (fun z hz=>hx z (List.mem_cons_of_mem _ hz)) (fun z hz=>hy z (List.mem_cons_of_mem _ hz)) h2;exact ⟨c,by rw [h1,h3];rfl,h4⟩
structure ConstUpTo (l:List UInt8) (p j:Nat) (ls:List (List UInt8)) (q:Nat):Prop where
 run:RunN l p j
 semi:∃ h:p+1+j < l.length,l[p+1+j]=59
 name:nameOk ((l.drop (p+1)).take j)=true
 ok:∀ x∈ls,levelOk x=true
 le:ls.length<=3
 text:l.drop (p+1+j+1)=lvsB ls ++ l.drop q
 at':q=p+1+j+1+(lvsB ls).length
 lt:q<=l.length
theorem ConstUpTo.start {l:List UInt8} {p j:Nat} (h1:RunN l p j) (h2:∃ h:p+1+j < l.length,l[p+1+j]=59) (h3:nameOk ((l.drop (p+1)).take j)=true):ConstUpTo l p j [] (p+1+j+1) := ⟨h1,h2,h3,fun x hx=>by simp at hx,by simp,rfl,by simp [lvsB],by obtain ⟨h,_⟩:=h2;omega⟩
theorem ConstUpTo.next {l:List UInt8} {p j q k:Nat} {ls:List (List UInt8)} (h:ConstUpTo l p j ls q) (hk:lend 1 (l.drop q)=some k) (h60:k<=60) (h3:ls.length < 3) (hm:q+k < l.length) (h44:l[q+k]=44) :
  ConstUpTo l p j (ls ++ [(l.drop q).take k]) (q+k+1):=by
 have hlen:((l.drop q).take k).length=k:=by simp;omega
 have e2:l.drop q=(l.drop q).take k ++ l.drop (q+k):=by rw [show l.drop (q+k)=(l.drop q).drop k by rw [List.drop_drop]];exact (List.take_append_drop _ _).symm
 have e:l.drop (q+k)=44 :: l.drop (q+k+1):=by rw [List.drop_eq_getElem_cons hm,h44]
 refine ⟨h.run,h.semi,h.name,fun x hx=>?_,by simp;omega,?_,?_,by omega⟩
 ·rcases List.mem_append.1 hx with hx | hx
  ·exact h.ok x hx
  ·simp only [List.mem_cons,List.not_mem_nil,or_false] at hx;subst hx;exact levelOk_take hk h60
 ·rw [h.text,lvsB_append,List.append_assoc];congr 1;simp only [lvsB,List.append_assoc,List.cons_append,List.nil_append];rw [← e];exact e2
 ·rw [lvsB_append,lA,← Nat.add_assoc,← h.at'];simp only [lvsB,lA,lC,List.length_nil,hlen];omega
theorem ConstUpTo.done {l:List UInt8} {p j q:Nat} {ls:List (List UInt8)} (h:ConstUpTo l p j ls q) (hc:∃ hp:p < l.length,l[p]=99) (hm:q < l.length) (h46:l[q]=46) :
  Tat (l.drop p) (.const ((l.drop (p+1)).take j) ls) (l.drop (q+1))/\p+(Tm.const ((l.drop (p+1)).take j) ls).bytes.length=q+1:=by
 obtain ⟨hp,hc⟩:=hc;obtain ⟨hs,h59⟩:=h.semi;have hlen:((l.drop (p+1)).take j).length=j:=by simp;omega
 have e46:l.drop q=46 :: l.drop (q+1):=by rw [List.drop_eq_getElem_cons hm,h46]
 have e59:l.drop (p+1+j)=59 :: l.drop (p+1+j+1):=by rw [List.drop_eq_getElem_cons hs,h59]
 have e2:l.drop (p+1)=(l.drop (p+1)).take j ++ l.drop (p+1+j):=by rw [show l.drop (p+1+j)=(l.drop (p+1)).drop j by rw [List.drop_drop]];exact (List.take_append_drop _ _).symm
 refine ⟨⟨⟨h.name,h.le,h.ok⟩,?_⟩,?_⟩
 ·rw [Tm.bytes,List.drop_eq_getElem_cons hp,hc];simp only [List.cons_append,List.append_assoc,List.nil_append];congr 1;rw [← e46,← h.text,← e59];exact e2
 ·have:=h.at';simp only [Tm.bytes,lC,lA,hlen,List.length_nil];omega
theorem const_no_name {l:List UInt8} {p j:Nat} (hp:p < l.length) (hc:l[p]=99) (hrun:RunN l p j)
  (h:l.length<=p+1+j\/(∃ h:p+1+j < l.length,l[p+1+j]≠59)\/nameOk ((l.drop (p+1)).take j)=false):∀ t r,Tat (l.drop p) t r->t.isLeaf=false:=by
 intro t r ht;exfalso;obtain ⟨nm,ls,rfl⟩:=kind_const ((tat_head hp ht).trans hc);obtain ⟨⟨h1,h2⟩,h3,_⟩:=runN_of hrun ht.1.1 (const_parts ht);rcases h with h | ⟨h,h'⟩ | h
 ·omega
 ·exact h' h2
 ·rw [h3,ht.1.1] at h;cases h
theorem ConstUpTo.no {l:List UInt8} {p j q:Nat} {ls:List (List UInt8)} (h:ConstUpTo l p j ls q) (hp:p < l.length) (hc:l[p]=99)
  (hn:l.length<=q\/((∃ hq:q < l.length,l[q]≠46)/\(lend 1 (l.drop q)=none\/3<=ls.length\/∃ k,lend 1 (l.drop q)=some k/\(60 < k\/l.length<=q+k\/∃ h:q+k < l.length,l[q+k]≠44)))):∀ t r,Tat (l.drop p) t r->t.isLeaf=false:=by
 intro t r ht;exfalso;obtain ⟨nm,ms,rfl⟩:=kind_const ((tat_head hp ht).trans hc);obtain ⟨_,_,h3⟩:=runN_of h.run ht.1.1 (const_parts ht);rw [h.text] at h3;obtain ⟨c,h4,h5⟩:=lvs_prefix h.ok ht.1.2.2 h3;rcases hn with hn | ⟨⟨hq,h46⟩,hn⟩
 ·rw [List.drop_eq_nil_of_le hn] at h5;cases c with
  | nil=>cases h5
  | cons x c =>
   have:=congrArg List.length h5;simp at this
 ·cases c with
  | nil =>
   rw [List.drop_eq_getElem_cons hq] at h5;injection h5 with h5 _;exact h46 h5
  | cons x c =>
   have hx:levelOk x=true:=ht.1.2.2 x (by rw [h4];simp);have h6:l.drop q=x ++ 44 :: (lvsB c ++ 46 :: r):=(by rw [h5,lvsB,List.append_assoc];rfl);have h7:=levelOk_app (r:=44 :: (lvsB c ++ 46 :: r)) hx;rw [← h6] at h7;obtain ⟨h8,h9⟩:=at_after h6;have h10:=(levelOk_len hx).1;have h11:=ht.1.2.1;rw [h4] at h11;simp at h11;rcases hn with hn | hn | ⟨k,hn,hn'⟩
   ·rw [hn] at h7;cases h7
   ·omega
   ·rw [hn] at h7;injection h7 with h7;subst h7;rcases hn' with hn' | hn' | ⟨hn',h12⟩
    ·omega
    ·omega
    ·exact h12 h9
structure Box (w wr:World) (k:Int) (tx:ByteArray) (lv:Value):Prop where
 r:∀ i v,[Value.int .u8 0,.int .i64 0,.int .i64 0,.int .i64 0,.int .i64 0,.string ⟨#[]⟩,.slice none 0 0][i]?=some v->wr.cell? ⟨w.heap.size,i,none⟩=some v
 rf:∀ i,i < 7->wr.frozen? ⟨w.heap.size,i,none⟩=false
 n:∀ i v,[Value.int .u8 k,.int .i64 0,.int .i64 0,.int .i64 0,.int .i64 0,.string tx,lv][i]?=some v->wr.cell? ⟨w.heap.size+1,i,none⟩=some v
 nf:∀ i,i < 7->wr.frozen? ⟨w.heap.size+1,i,none⟩=false
 bel:Below w.heap.size w wr
 sz:w.heap.size+2<=wr.heap.size
theorem Box.all {w wr:World} {k:Int} {tx:ByteArray} {lv:Value} (h:Box w wr k tx lv):wr.cell? ⟨w.heap.size,0,none⟩=some (.int .u8 0)/\wr.cell? ⟨w.heap.size,1,none⟩=some (.int .i64 0)/\wr.cell? ⟨w.heap.size,2,none⟩=some (.int .i64 0)/\wr.cell? ⟨w.heap.size,3,none⟩=some (.int .i64 0)/\wr.cell? ⟨w.heap.size,4,none⟩=some (.int .i64 0)/\wr.cell? ⟨w.heap.size,5,none⟩=some (.string ⟨#[]⟩)/\wr.cell? ⟨w.heap.size,6,none⟩=some (.slice none 0 0)/\wr.frozen? ⟨w.heap.size,0,none⟩=false/\wr.frozen? ⟨w.heap.size,1,none⟩=false/\wr.frozen? ⟨w.heap.size,2,none⟩=false/\wr.frozen? ⟨w.heap.size,3,none⟩=false/\wr.frozen? ⟨w.heap.size,4,none⟩=false/\wr.frozen? ⟨w.heap.size,5,none⟩=false/\wr.frozen? ⟨w.heap.size,6,none⟩=false/\wr.cell? ⟨w.heap.size+1,0,none⟩=some (.int .u8 k)/\wr.cell? ⟨w.heap.size+1,1,none⟩=some (.int .i64 0)/\wr.cell? ⟨w.heap.size+1,2,none⟩=some (.int .i64 0)/\wr.cell? ⟨w.heap.size+1,3,none⟩=some (.int .i64 0)/\wr.cell? ⟨w.heap.size+1,4,none⟩=some (.int .i64 0)/\wr.cell? ⟨w.heap.size+1,5,none⟩=some (.string tx)/\wr.cell? ⟨w.heap.size+1,6,none⟩=some (lv)/\wr.frozen? ⟨w.heap.size+1,0,none⟩=false/\wr.frozen? ⟨w.heap.size+1,1,none⟩=false/\wr.frozen? ⟨w.heap.size+1,2,none⟩=false/\wr.frozen? ⟨w.heap.size+1,3,none⟩=false/\wr.frozen? ⟨w.heap.size+1,4,none⟩=false/\wr.frozen? ⟨w.heap.size+1,5,none⟩=false/\wr.frozen? ⟨w.heap.size+1,6,none⟩=false:=⟨h.r 0 _ rfl,h.r 1 _ rfl,h.r 2 _ rfl,h.r 3 _ rfl,h.r 4 _ rfl,h.r 5 _ rfl,h.r 6 _ rfl,h.rf 0 (by decide),h.rf 1 (by decide),h.rf 2 (by decide),h.rf 3 (by decide),h.rf 4 (by decide),h.rf 5 (by decide),h.rf 6 (by decide),h.n 0 _ rfl,h.n 1 _ rfl,h.n 2 _ rfl,h.n 3 _ rfl,h.n 4 _ rfl,h.n 5 _ rfl,h.n 6 _ rfl,h.nf 0 (by decide),h.nf 1 (by decide),h.nf 2 (by decide),h.nf 3 (by decide),h.nf 4 (by decide),h.nf 5 (by decide),h.nf 6 (by decide)⟩
theorem Box.start (w:World) (k:Int):Box w (boxW w k) k ⟨#[]⟩ (.slice none 0 0):=by
 have hb:=bR (boxW w k).heap.size (boxW w k);obtain ⟨r0,r1,r2,r3,r4,r5,r6⟩:=box_res hb;obtain ⟨z0,z1,z2,z3,z4,z5,z6⟩:=box_resF hb;obtain ⟨n0,n1,n2,n3,n4,n5,n6⟩:=box_node hb;obtain ⟨y0,y1,y2,y3,y4,y5,y6⟩:=box_nodeF hb;refine ⟨fun i v h=>?_,fun i h=>?_,fun i v h=>?_,fun i h=>?_,((bR w.heap.size w).alloc (nR _) _).alloc (by simp) _,by simp [boxW]⟩
 ·match i,h with
  | 0,h=>cases h;exact r0
  | 1,h=>cases h;exact r1
  | 2,h=>cases h;exact r2
  | 3,h=>cases h;exact r3
  | 4,h=>cases h;exact r4
  | 5,h=>cases h;exact r5
  | 6,h=>cases h;exact r6
  | i+7,h=>simp at h
 ·match i,h with
  | 0,_=>exact z0
  | 1,_=>exact z1
  | 2,_=>exact z2
  | 3,_=>exact z3
  | 4,_=>exact z4
  | 5,_=>exact z5
  | 6,_=>exact z6
  | i+7,h=>omega
 ·match i,h with
  | 0,h=>cases h;exact n0
  | 1,h=>cases h;exact n1
  | 2,h=>cases h;exact n2
  | 3,h=>cases h;exact n3
  | 4,h=>cases h;exact n4
  | 5,h=>cases h;exact n5
  | 6,h=>cases h;exact n6
  | i+7,h=>simp at h
 ·match i,h with
  | 0,_=>exact y0
  | 1,_=>exact y1
  | 2,_=>exact y2
  | 3,_=>exact y3
  | 4,_=>exact y4
  | 5,_=>exact y5
  | 6,_=>exact y6
  | i+7,h=>omega
theorem Box.grown {w wr w':World} {k:Int} {tx:ByteArray} {lv:Value} {row:Option Nat} (h:Box w wr k tx lv) (hg:wr.grownBy w' row) (hr:∀ g,row=some g->w.heap.size+2<=g):Box w w' k tx lv:=by
 have b0:w'.heap[w.heap.size]?=wr.heap[w.heap.size]?:=hg.block _ (by have:=h.sz;omega) (fun e=>by have:=hr _ e.symm;omega);have b1:w'.heap[w.heap.size+1]?=wr.heap[w.heap.size+1]?:=hg.block _ (by have:=h.sz;omega) (fun e=>by have:=hr _ e.symm;omega)
 exact ⟨fun i v hv=>(World.cell?_of_block (a:=⟨w.heap.size,i,none⟩) b0).trans (h.r i v hv),fun i hi=>(World.frozen?_of_block (a:=⟨w.heap.size,i,none⟩) b0).trans (h.rf i hi),
  fun i v hv=>(World.cell?_of_block (a:=⟨w.heap.size+1,i,none⟩) b1).trans (h.n i v hv),fun i hi=>(World.frozen?_of_block (a:=⟨w.heap.size+1,i,none⟩) b1).trans (h.nf i hi),
  h.bel.grown hg h.bel.size (fun g hg'=>by have:=hr g hg';omega),by have:=h.sz;have:=hg.size;omega⟩
theorem Box.set {w wr:World} {k:Int} {tx tx':ByteArray} {lv lv':Value} (h:Box w wr k tx lv) (j:Nat) (u:Value) (hj:j < 7)
  (hu:∀ i v,[Value.int .u8 k,.int .i64 0,.int .i64 0,.int .i64 0,.int .i64 0,.string tx',lv'][i]?=some v->if i=j then v=u else [Value.int .u8 k,.int .i64 0,.int .i64 0,.int .i64 0,.int .i64 0,.string tx,lv][i]?=some v):Box w (wr.setCell ⟨w.heap.size+1,j,none⟩ u) k tx' lv':=by
 refine ⟨fun i v hv=>(World.cell?_setCell_other _ _ _ _ (by simp)).trans (h.r i v hv),fun i hi=>by simpa using h.rf i hi,fun i v hv=>?_,fun i hi=>by simpa using h.nf i hi,h.bel.setCell (p:=⟨w.heap.size+1,j,none⟩) (by simp) _,by simpa [World.setCell] using h.sz⟩;have:=hu i v hv;split at this
 ·rename_i e;subst e;subst this;have hex:∃ old,[Value.int .u8 k,.int .i64 0,.int .i64 0,.int .i64 0,.int .i64 0,.string tx,lv][i]?=some old:=⟨_,List.getElem?_eq_getElem (by simpa using hj)⟩;obtain ⟨old,hold⟩:=hex;exact World.cell?_setCell_same _ _ _ (h.n i old hold)
 ·rename_i e;exact (World.cell?_setCell_other _ _ _ _ (by first | (simp;done) | (simp;omega))).trans (h.n i v this)
theorem specLeafS (s:ByteArray) (p:Nat) (w:World) (hs:s.size<=1000000000) (hp:p < s.size) (hc:s[p]=115) :
  Calls Tryz.prog 139 #[.string s,.int .i64 (p:Int)] w (LeafPost s.data.toList p w):=by
 have f1:=Ld fun W=>(specL06Level s (p+1) W hs (by omega)).mono (fun e w' (h:_/\_)=>(⟨h.1,h.2 ▸ bR _ _⟩:e=.returned (.int .i64 (lvlEnd s.data.toList (p+1)))/\Below W.heap.size W w'));have e0:((s[p].toNat:Int) == 118)=false:=ne_byte (d:=118) (by rw [hc];decide);have e1:((s[p].toNat:Int) == 115)=true:=is_byte hc;have e2:(s[p].toNat:Int)=115:=by rw [hc];rfl
 have HC:=Ld hc;clear hc;have q1:=zn p;have q2:(p:Int) < (s.size:Int):=by omega
 rw [show ((p+1:Nat):Int)=(p:Int)+1 by omega] at f1;by_cases hl:∃ k,lend 1 (s.data.toList.drop (p+1))=some k/\k<=60
 ·obtain ⟨k,hk,h60⟩:=hl;rw [show lvlEnd s.data.toList (p+1)=(p:Int)+1+(k:Int) by rw [lvlEnd,hk];simp [h60]] at f1;have hkl:=(lend_take _ _ _ hk).2;rw [List.length_drop] at hkl;have hm1:p+1+k<=s.size:=(by have:s.data.toList.length=s.size:=rfl;omega);clear hkl;have HK:=Ld hk;clear hk;go_enter Tryz.func139,Tryz.ntmps139;go_wp2_with fail;(with_reducible refine mo (f1.out _) fun w1 hb1=>?_);clear f1;obtain ⟨r0,r1,r2,r3,r4,r5,r6⟩:=box_res (w:=w) (k:=115) hb1;obtain ⟨z0,z1,z2,z3,z4,z5,z6⟩:=box_resF (w:=w) (k:=115) hb1;obtain ⟨n0,n1,n2,n3,n4,n5,n6⟩:=box_node (w:=w) (k:=115) hb1;obtain ⟨y0,y1,y2,y3,y4,y5,y6⟩:=box_nodeF (w:=w) (k:=115) hb1;have HBH:Hid (Below w.heap.size w w1):=(((bR w.heap.size w).alloc (nR _) _).alloc (by simp) _).trans (hb1.mono (by simp;omega));clear hb1;have q3:(0:Int)<=(p:Int)+1+(k:Int):=(by omega);have q6:(p:Int)+1<=(p:Int)+1+(k:Int):=(by omega);have q9:(0:Int)<=(p:Int)+1:=(by omega);have q10:((p:Int)+1).toNat=p+1:=(by omega);have q7:(p:Int)+1+(k:Int)<=(s.size:Int):=(by omega);have q8:((p:Int)+1+(k:Int)).toNat=p+1+k:=(by omega);have d1:decide ((p:Int)+1+(k:Int) < 0)=false:=dF (by omega);have d0:decide ((0:Int)<=(p:Int)+1+(k:Int))=true:=dT (by omega);by_cases hlt:p+1+k < s.size
  ·have q4:(p:Int)+1+(k:Int) < (s.size:Int):=(by omega);have d2:decide ((s.size:Int)<=(p:Int)+1+(k:Int))=false:=dF (by omega);by_cases h46:s[p+1+k]=46
   ·have e3:((s[p+1+k].toNat:Int) == 46)=true:=is_byte h46;have e3':((s[p+1+k].toNat:Int) != 46)=false:=(by rw [bne,e3];rfl);have HT:=Ld (sort_tat (l:=s.data.toList) hp HC.out HK.out h60 hlt h46);clear h46;go_wp2;exact bodyPost_ret (v:=.tuple #[.agg #[.int .u8 115,.int .i64 0,.int .i64 0,.int .i64 0,.int .i64 0,.string (s.extract (p+1) (p+1+k)),.slice none 0 0],.int .i64 ((p:Int)+1+(k:Int)+1)]) (by simp [results,Tryz.results139,go_sem,r0,r1,r2,r3,r4,r5,r6]) rfl ⟨((((((((HBH.out.setCell (p:=⟨w.heap.size+1,5,none⟩) (by simp) _).setCell (p:=⟨w.heap.size,0,none⟩) (nR _) _).setCell (p:=⟨w.heap.size,1,none⟩) (nR _) _).setCell (p:=⟨w.heap.size,2,none⟩) (nR _) _).setCell (p:=⟨w.heap.size,3,none⟩) (nR _) _).setCell (p:=⟨w.heap.size,4,none⟩) (nR _) _).setCell (p:=⟨w.heap.size,5,none⟩) (nR _) _).setCell (p:=⟨w.heap.size,6,none⟩) (nR _) _),⟨115,0,0,0,0,(s.data.toList.drop (p+1)).take k,.slice none 0 0⟩,_,⟨_,_,_,rfl⟩,by rw [Nd.cells,ext_str];rfl,.inl ⟨.sort ((s.data.toList.drop (p+1)).take k),_,rfl,⟨rfl,rfl,rfl⟩,HT.out.1,by rw [HT.out.2];simp⟩⟩
   ·have e3:((s[p+1+k].toNat:Int) == 46)=false:=ne_byte h46;have e3':((s[p+1+k].toNat:Int) != 46)=true:=(by rw [bne,e3];rfl);have HN:=Ld (sort_no (l:=s.data.toList) hp HC.out (.inr ⟨k,HK.out,.inr (.inr ⟨hlt,h46⟩)⟩));clear h46;go_wp2;exact bodyPost_ret (v:=.tuple #[.agg #[.int .u8 115,.int .i64 0,.int .i64 0,.int .i64 0,.int .i64 0,.string (s.extract (p+1) (p+1+k)),.slice none 0 0],.int .i64 (-1)]) (by simp [results,Tryz.results139,go_sem,r0,r1,r2,r3,r4,r5,r6]) rfl ⟨((((((((HBH.out.setCell (p:=⟨w.heap.size+1,5,none⟩) (by simp) _).setCell (p:=⟨w.heap.size,0,none⟩) (nR _) _).setCell (p:=⟨w.heap.size,1,none⟩) (nR _) _).setCell (p:=⟨w.heap.size,2,none⟩) (nR _) _).setCell (p:=⟨w.heap.size,3,none⟩) (nR _) _).setCell (p:=⟨w.heap.size,4,none⟩) (nR _) _).setCell (p:=⟨w.heap.size,5,none⟩) (nR _) _).setCell (p:=⟨w.heap.size,6,none⟩) (nR _) _),⟨115,0,0,0,0,(s.data.toList.drop (p+1)).take k,.slice none 0 0⟩,_,⟨_,_,_,rfl⟩,by rw [Nd.cells,ext_str];rfl,.inr ⟨rfl,HN.out⟩⟩
  ·have d2:decide ((s.size:Int)<=(p:Int)+1+(k:Int))=true:=dT (by omega);have HN:=Ld (sort_no (l:=s.data.toList) hp HC.out (.inr ⟨k,HK.out,.inr (.inl (by show s.size<=_;omega))⟩));go_wp2;exact bodyPost_ret (v:=.tuple #[.agg #[.int .u8 115,.int .i64 0,.int .i64 0,.int .i64 0,.int .i64 0,.string (s.extract (p+1) (p+1+k)),.slice none 0 0],.int .i64 (-1)]) (by simp [results,Tryz.results139,go_sem,r0,r1,r2,r3,r4,r5,r6]) rfl ⟨((((((((HBH.out.setCell (p:=⟨w.heap.size+1,5,none⟩) (by simp) _).setCell (p:=⟨w.heap.size,0,none⟩) (nR _) _).setCell (p:=⟨w.heap.size,1,none⟩) (nR _) _).setCell (p:=⟨w.heap.size,2,none⟩) (nR _) _).setCell (p:=⟨w.heap.size,3,none⟩) (nR _) _).setCell (p:=⟨w.heap.size,4,none⟩) (nR _) _).setCell (p:=⟨w.heap.size,5,none⟩) (nR _) _).setCell (p:=⟨w.heap.size,6,none⟩) (nR _) _),⟨115,0,0,0,0,(s.data.toList.drop (p+1)).take k,.slice none 0 0⟩,_,⟨_,_,_,rfl⟩,by rw [Nd.cells,ext_str];rfl,.inr ⟨rfl,HN.out⟩⟩
 ·have HN:=Ld (sort_no (l:=s.data.toList) hp HC.out (by
   cases hk:lend 1 (s.data.toList.drop (p+1)) with
   | none=>exact .inl rfl
   | some k=>exact .inr ⟨k,rfl,.inl (by have:¬ k<=60:=fun h=>hl ⟨k,hk,h⟩;omega)⟩))
  rw [show lvlEnd s.data.toList (p+1)=-1 by
   rw [lvlEnd];split
   ·rename_i k hk;rw [iN (fun h=>hl ⟨k,hk,h⟩)]
   ·rfl] at f1
  clear hl;go_enter Tryz.func139,Tryz.ntmps139;go_wp2_with fail;(with_reducible refine mo (f1.out _) fun w1 hb1=>?_);clear f1;obtain ⟨r0,r1,r2,r3,r4,r5,r6⟩:=box_res (w:=w) (k:=115) hb1;obtain ⟨z0,z1,z2,z3,z4,z5,z6⟩:=box_resF (w:=w) (k:=115) hb1;obtain ⟨n0,n1,n2,n3,n4,n5,n6⟩:=box_node (w:=w) (k:=115) hb1;obtain ⟨y0,y1,y2,y3,y4,y5,y6⟩:=box_nodeF (w:=w) (k:=115) hb1;have HBH:Hid (Below w.heap.size w w1):=(((bR w.heap.size w).alloc (nR _) _).alloc (by simp) _).trans (hb1.mono (by simp;omega));clear hb1;go_wp2;exact bodyPost_ret (v:=.tuple #[.agg #[.int .u8 115,.int .i64 0,.int .i64 0,.int .i64 0,.int .i64 0,.string ⟨#[]⟩,.slice none 0 0],.int .i64 (-1)]) (by simp [results,Tryz.results139,go_sem,r0,r1,r2,r3,r4,r5,r6]) rfl ⟨(((((((HBH.out.setCell (p:=⟨w.heap.size,0,none⟩) (nR _) _).setCell (p:=⟨w.heap.size,1,none⟩) (nR _) _).setCell (p:=⟨w.heap.size,2,none⟩) (nR _) _).setCell (p:=⟨w.heap.size,3,none⟩) (nR _) _).setCell (p:=⟨w.heap.size,4,none⟩) (nR _) _).setCell (p:=⟨w.heap.size,5,none⟩) (nR _) _).setCell (p:=⟨w.heap.size,6,none⟩) (nR _) _),⟨115,0,0,0,0,[],.slice none 0 0⟩,_,⟨_,_,_,rfl⟩,rfl,.inr ⟨rfl,HN.out⟩⟩
theorem specLeafO (s:ByteArray) (p:Nat) (w:World) (hp:p < s.size) (h1:s[p]≠118) (h2:s[p]≠115) (h3:s[p]≠99) :
  Calls Tryz.prog 139 #[.string s,.int .i64 (p:Int)] w (LeafPost s.data.toList p w):=by
 have e0:((s[p].toNat:Int) == 118)=false:=ne_byte h1;have e1:((s[p].toNat:Int) == 115)=false:=ne_byte h2;have e2:((s[p].toNat:Int) == 99)=false:=ne_byte h3;have HN:Hid (∀ t r,Tat (s.data.toList.drop p) t r->t.isLeaf=false):=fun t r ht=>by
  have hk:=tat_head (l:=s.data.toList) hp ht;cases t with
  | var n=>exact absurd hk.symm h1
  | sort n=>exact absurd hk.symm h2
  | const n ls=>exact absurd hk.symm h3
  | _=>rfl
 clear h1 h2 h3;have q1:=zn p;have q2:(p:Int) < (s.size:Int):=by omega
 go_enter Tryz.func139,Tryz.ntmps139;go_wp2;exact bodyPost_ret (v:=.tuple #[.agg #[.int .u8 (s[p].toNat:Int),.int .i64 0,.int .i64 0,.int .i64 0,.int .i64 0,.string ⟨#[]⟩,.slice none 0 0],.int .i64 (-1)]) (by simp [results,Tryz.results139,go_sem]) rfl ⟨((bR w.heap.size w).alloc (nR _) _).alloc (by simp) _,⟨s[p],0,0,0,0,[],.slice none 0 0⟩,_,⟨_,_,_,rfl⟩,rfl,.inr ⟨rfl,HN.out⟩⟩
theorem own_sliceL {w:World} {b n:Nat} {v:Value} {xs:List Value} (h:w.ownsRow b 9 1 v n xs):∃ a cap,v=.slice a n cap:=by
  rcases h.2 with ⟨rfl,rfl⟩ | ⟨g,cap,cur,rfl,_⟩
  · exact ⟨_,_,rfl⟩
  · exact ⟨_,_,rfl⟩
theorem own_weakenL {w:World} {b b' n z:Nat} {e:TypeId} {v:Value} {xs:List Value} (h:w.ownsRow b e z v n xs) (hb:b'<=b):w.ownsRow b' e z v n xs:=by
  obtain ⟨h1,h2 | ⟨g,cap,cur,e,h3,h4⟩⟩:=h
  · exact ⟨h1,.inl h2⟩
  · exact ⟨h1,.inr ⟨g,cap,cur,e,Nat.le_trans hb h3,h4⟩⟩
theorem Box.allocDrew {w wr:World} {k:Int} {tx:ByteArray} {lv:Value} (h:Box w wr k tx lv) (o:Obj):Box w (wr.alloc o).drew k tx lv:=by
  have h1:=h.grown (World.grownBy_alloc wr o none) (fun g hg=>by cases hg)
  exact ⟨h1.r,h1.rf,h1.n,h1.nf,h1.bel.drew,h1.sz⟩
theorem own_set {w:World} {b n z:Nat} {e:TypeId} {v:Value} {xs:List Value} (h:w.ownsRow b e z v n xs) (a:Addr) (u:Value) (ha:a.block < b):(w.setCell a u).ownsRow b e z v n xs:=by
  refine h.kept (row:=some a.block) ⟨rfl,rfl,rfl,by simp [World.setCell],fun k hk hne=>Below.heap_setCell _ _ _ _ (fun e=>hne (by rw [e]))⟩ ?_
  rcases hv:v.ownBlock with _ | g
  · exact .inl rfl
  · refine .inr fun e=>?_
    have:=(h.lt g hv).1
    injection e with e
    omega
theorem own_box {w wr:World} {n:Nat} {e:TypeId} {v:Value} {xs:List Value} {u0 u1 u2 u3 u4 u5 u6:Value} (h:wr.ownsRow (w.heap.size+2) e 1 v n xs) :
    (((((((wr.setCell ⟨w.heap.size,0,none⟩ u0).setCell ⟨w.heap.size,1,none⟩ u1).setCell ⟨w.heap.size,2,none⟩ u2).setCell ⟨w.heap.size,3,none⟩ u3).setCell ⟨w.heap.size,4,none⟩ u4).setCell ⟨w.heap.size,5,none⟩ u5).setCell ⟨w.heap.size,6,none⟩ u6).ownsRow (w.heap.size+2) e 1 v n xs :=
  own_set (own_set (own_set (own_set (own_set (own_set (own_set h _ _ (by simp)) _ _ (by simp)) _ _ (by simp)) _ _ (by simp)) _ _ (by simp)) _ _ (by simp)) _ _ (by simp)
theorem specLeafC (s:ByteArray) (p:Nat) (w:World) (hs:s.size<=1000000000) (hp:p < s.size) (hc:s[p]=99) :
    Calls Tryz.prog 139 #[.string s,.int .i64 (p:Int)] w (LeafPost s.data.toList p w):=by
  have hls:Hid (s.data.toList.length=s.size):=rfl
  have f1:=Ld fun q W (hq:q<=s.size)=>specL06Level s q W hs hq
  have hEx:∀ j,p+1+j<=s.size->(s.extract (p+1) (p+1+j)).size<=maxLen:=fun m hm=>by
    rw [ByteArray.size_extract]
    unfold maxLen
    omega
  have f2:=Ld fun j W (hj:p+1+j<=s.size)=>specNameOk (s.extract (p+1) (p+1+j)) W (hEx j hj)
  clear hEx
  have e0:((s[p].toNat:Int) == 118)=false:=ne_byte (d:=118) (by rw [hc];decide)
  have e1:((s[p].toNat:Int) == 115)=false:=ne_byte (d:=115) (by rw [hc];decide)
  have e2:((s[p].toNat:Int) == 99)=true:=is_byte hc
  have e3:(s[p].toNat:Int)=99:=by rw [hc];rfl
  have HC:=Ld hc
  clear hc
  have q1:=zn p
  have q2:(p:Int) < (s.size:Int):=by omega
  go_enter Tryz.func139,Tryz.ntmps139
  go_wp2
  have hbx:=Box.start w 99
  unfold boxW at hbx
  generalize (w.alloc (.cells #[.int .u8 0,.int .i64 0,.int .i64 0,.int .i64 0,.int .i64 0,.string ⟨#[]⟩,.slice none 0 0] 94)).alloc (.cells #[.int .u8 99,.int .i64 0,.int .i64 0,.int .i64 0,.int .i64 0,.string ⟨#[]⟩,.slice none 0 0] 94)=wb at hbx
  go_loopw [8] (fun i wr=>∃ j:Nat,p+1+j<=s.size/\j<=41/\i=.int .i64 ((p:Int)+1+(j:Int))/\wr=wb/\Hid (∀ i (h:p+1+i < s.data.toList.length),i < j->s.data.toList[p+1+i]≠59)) (fun i _=>s.size - (intOf i).toNat)
  case atStart=>exact ⟨0,by omega,by omega,by simp,rfl,fun i _ hi=>by omega⟩
  case round =>
    obtain ⟨j,hj,hj41,rfl,rfl,HN⟩:=hrel
    have q3:(0:Int)<=(p:Int)+1+(j:Int):=by omega
    have q5:((p:Int)+1+(j:Int)).toNat=p+1+j:=by omega
    have q6:(p:Int)+1<=(p:Int)+1+(j:Int):=by omega
    have q7:(p:Int)+1+(j:Int)<=(s.size:Int):=by omega
    have q9:(0:Int)<=(p:Int)+1:=by omega
    have q10:((p:Int)+1).toNat=p+1:=by omega
    by_cases hlt:p+1+j < s.size
    rotate_left
    · have HX:=Ld (const_no_name (l:=s.data.toList) (j:=j) hp HC.out ⟨by rw [hls.out];omega,HN.out,.inl (by rw [hls.out];omega)⟩ (.inl (by rw [hls.out];omega)))
      have d1:decide ((p:Int)+1+(j:Int) < (s.size:Int))=false:=dF (by omega)
      have d2:decide ((s.size:Int)<=(p:Int)+1+(j:Int))=true:=dT (by omega)
      have HB:=Ld hbx
      clear HN
      obtain ⟨r0,r1,r2,r3,r4,r5,r6,z0,z1,z2,z3,z4,z5,z6,n0,n1,n2,n3,n4,n5,n6,y0,y1,y2,y3,y4,y5,y6⟩:=HB.out.all
      go_wp2
      have HB:=HB.out
      exact bodyPost_ret (v:=.tuple #[.agg #[.int .u8 99,.int .i64 0,.int .i64 0,.int .i64 0,.int .i64 0,.string ⟨#[]⟩,.slice none 0 0],.int .i64 (-1)]) (by simp [results,Tryz.results139,go_sem,r0,r1,r2,r3,r4,r5,r6]) rfl ⟨(((((((HB.bel.setCell (p:=⟨w.heap.size,0,none⟩) (nR _) _).setCell (p:=⟨w.heap.size,1,none⟩) (nR _) _).setCell (p:=⟨w.heap.size,2,none⟩) (nR _) _).setCell (p:=⟨w.heap.size,3,none⟩) (nR _) _).setCell (p:=⟨w.heap.size,4,none⟩) (nR _) _).setCell (p:=⟨w.heap.size,5,none⟩) (nR _) _).setCell (p:=⟨w.heap.size,6,none⟩) (nR _) _),⟨99,0,0,0,0,[],.slice none 0 0⟩,_,⟨_,_,_,rfl⟩,rfl,.inr ⟨rfl,HX.out⟩⟩
    have hll:p+1+j < s.data.toList.length:=hlt
    have q4:(p:Int)+1+(j:Int) < (s.size:Int):=by omega
    have d1:decide ((p:Int)+1+(j:Int) < (s.size:Int))=true:=dT (by omega)
    have d2:decide ((s.size:Int)<=(p:Int)+1+(j:Int))=false:=dF (by omega)
    by_cases h59:s[p+1+j]=59
    rotate_left
    · have e4:((s[p+1+j].toNat:Int) == 59)=false:=ne_byte h59
      have e4':((s[p+1+j].toNat:Int) != 59)=true:=by rw [bne,e4];rfl
      by_cases h41:j < 41
      · have d3:decide ((p:Int)+1+(j:Int) < (p:Int)+40+2)=true:=dT (by omega)
        have d3':decide ((p:Int)+1+(j:Int) < (p:Int)+42)=true:=dT (by omega)
        have HN2:Hid (∀ i (h:p+1+i < s.data.toList.length),i < j+1->s.data.toList[p+1+i]≠59):=fun i h hi=>if e:i=j then by subst e;exact h59 else HN.out i h (by omega)
        clear h59 HN
        go_wp2
        go_roundw
        case rel=>exact ⟨j+1,by omega,by omega,by go_num,trivial,HN2.out⟩
        case measure=>simp [intOf];omega
      · have HX:=Ld (const_no_name (l:=s.data.toList) (j:=j) hp HC.out ⟨by rw [hls.out];omega,HN.out,.inr (.inl (by omega))⟩ (.inr (.inl ⟨hll,h59⟩)))
        have d3:decide ((p:Int)+1+(j:Int) < (p:Int)+40+2)=false:=dF (by omega)
        have d3':decide ((p:Int)+1+(j:Int) < (p:Int)+42)=false:=dF (by omega)
        have HB:=Ld hbx
        clear HN h59
        obtain ⟨r0,r1,r2,r3,r4,r5,r6,z0,z1,z2,z3,z4,z5,z6,n0,n1,n2,n3,n4,n5,n6,y0,y1,y2,y3,y4,y5,y6⟩:=HB.out.all
        go_wp2
        have HB:=HB.out
        exact bodyPost_ret (v:=.tuple #[.agg #[.int .u8 99,.int .i64 0,.int .i64 0,.int .i64 0,.int .i64 0,.string ⟨#[]⟩,.slice none 0 0],.int .i64 (-1)]) (by simp [results,Tryz.results139,go_sem,r0,r1,r2,r3,r4,r5,r6]) rfl ⟨(((((((HB.bel.setCell (p:=⟨w.heap.size,0,none⟩) (nR _) _).setCell (p:=⟨w.heap.size,1,none⟩) (nR _) _).setCell (p:=⟨w.heap.size,2,none⟩) (nR _) _).setCell (p:=⟨w.heap.size,3,none⟩) (nR _) _).setCell (p:=⟨w.heap.size,4,none⟩) (nR _) _).setCell (p:=⟨w.heap.size,5,none⟩) (nR _) _).setCell (p:=⟨w.heap.size,6,none⟩) (nR _) _),⟨99,0,0,0,0,[],.slice none 0 0⟩,_,⟨_,_,_,rfl⟩,rfl,.inr ⟨rfl,HX.out⟩⟩
    have e4:((s[p+1+j].toNat:Int) == 59)=true:=is_byte h59
    have e4':((s[p+1+j].toNat:Int) != 59)=false:=by rw [bne,e4];rfl
    have HRN:Hid (RunN s.data.toList p j):=⟨by rw [hls.out];omega,HN.out,.inr (.inr ⟨hll,h59⟩)⟩
    have d3:decide ((p:Int)+1+(j:Int) < (p:Int)+40+2)=true\/decide ((p:Int)+1+(j:Int) < (p:Int)+40+2)=false:=by cases decide ((p:Int)+1+(j:Int) < (p:Int)+40+2)<;>simp
    have H59:=Ld h59
    clear HN h59
    have f3:=Ld (f2.out j wr hj)
    rw [extract_take] at f3
    have HB:=Ld hbx
    clear f2 hbx
    by_cases hnm:nameOk ((s.data.toList.drop (p+1)).take j)=true
    rotate_left
    · have hnm2:nameOk ((s.data.toList.drop (p+1)).take j)=false:=by simpa using hnm
      have HX:=Ld (const_no_name (l:=s.data.toList) (j:=j) hp HC.out HRN.out (.inr (.inr hnm2)))
      rw [hnm2] at f3
      clear hnm hnm2
      rcases d3 with d3 | d3
      all_goals
        go_wp2_with fail
        (with_reducible refine mo f3.out fun w1 hb1=>?_)
        have HB1:=HB.out.grown (grownBy_of_below hb1 none) (fun g hg=>by cases hg)
        have HB:=Ld HB1
        clear hb1 HB1
        obtain ⟨r0,r1,r2,r3,r4,r5,r6,z0,z1,z2,z3,z4,z5,z6,n0,n1,n2,n3,n4,n5,n6,y0,y1,y2,y3,y4,y5,y6⟩:=HB.out.all
        go_wp2
        have HB:=HB.out
        exact bodyPost_ret (v:=.tuple #[.agg #[.int .u8 99,.int .i64 0,.int .i64 0,.int .i64 0,.int .i64 0,.string ⟨#[]⟩,.slice none 0 0],.int .i64 (-1)]) (by simp [results,Tryz.results139,go_sem,r0,r1,r2,r3,r4,r5,r6]) rfl ⟨(((((((HB.bel.setCell (p:=⟨w.heap.size,0,none⟩) (nR _) _).setCell (p:=⟨w.heap.size,1,none⟩) (nR _) _).setCell (p:=⟨w.heap.size,2,none⟩) (nR _) _).setCell (p:=⟨w.heap.size,3,none⟩) (nR _) _).setCell (p:=⟨w.heap.size,4,none⟩) (nR _) _).setCell (p:=⟨w.heap.size,5,none⟩) (nR _) _).setCell (p:=⟨w.heap.size,6,none⟩) (nR _) _),⟨99,0,0,0,0,[],.slice none 0 0⟩,_,⟨_,_,_,rfl⟩,rfl,.inr ⟨rfl,HX.out⟩⟩
    have HNM:=Ld hnm
    rw [hnm] at f3
    clear hnm
    have h40:=nameOk_len HNM.out
    rw [List.length_take,List.length_drop,hls.out] at h40
    rcases d3 with d3 | d3
    rotate_left
    · rw [decide_eq_false_iff_not] at d3
      omega
    · skip
      go_wp2_with fail
      (with_reducible refine mo f3.out fun w1 hb1=>?_)
      have HB1:=HB.out.grown (grownBy_of_below hb1 none) (fun g hg=>by cases hg)
      have HB:=Ld HB1
      clear hb1 HB1
      obtain ⟨r0,r1,r2,r3,r4,r5,r6,z0,z1,z2,z3,z4,z5,z6,n0,n1,n2,n3,n4,n5,n6,y0,y1,y2,y3,y4,y5,y6⟩:=HB.out.all
      go_wp2
      have HB2:=HB.out.set (tx':=(s.extract (p+1) (p+1+j))) (lv':=.slice none 0 0) 5 (.string (s.extract (p+1) (p+1+j))) (by decide) (fun i v hv=>by
        match i,hv with
        | 0,h=>exact h
        | 1,h=>exact h
        | 2,h=>exact h
        | 3,h=>exact h
        | 4,h=>exact h
        | 5,h=>cases h;rfl
        | 6,h=>exact h
        | i+7,h=>simp at h)
      clear r0 r1 r2 r3 r4 r5 r6 z0 z1 z2 z3 z4 z5 z6 n0 n1 n2 n3 n4 n5 n6 y0 y1 y2 y3 y4 y5 y6 HB f3 d3
      have HB3:=Ld HB2
      clear HB2
      generalize w1.setCell ⟨w.heap.size+1,5,none⟩ (.string (s.extract (p+1) (p+1+j)))=w2 at HB3
      have HC0:=Ld (ConstUpTo.start HRN.out ⟨hll,H59.out⟩ HNM.out)
      go_loopw [7] (fun i wr=>∃ (q:Nat) (ls:List (List UInt8)) (lv:Value),q<=s.size/\i=.int .i64 q/\Hid (ConstUpTo s.data.toList p j ls q)/\Hid (Box w wr 99 (s.extract (p+1) (p+1+j)) lv)/\Hid (wr.ownsRow (w.heap.size+2) 9 1 lv ls.length (ls.map sv))) (fun i _=>s.size - (intOf i).toNat)
      case atStart=>exact ⟨p+1+j+1,[],.slice none 0 0,by omega,by simp,HC0.out,HB3.out,World.ownsRow_nil _ _ _ _⟩
      case round =>
        clear HB3 HC0
        obtain ⟨q,ls,lv,hq,rfl,HU,HB,HO⟩:=hrel
        have h3:=HU.out.le
        obtain ⟨la,lc,rfl⟩:=own_sliceL HO.out
        have u0:=zn q
        have u1:decide ((0:Int)<=(q:Int))=true:=dT (by omega)
        have u2:decide ((q:Int) < 0)=false:=dF (by omega)
        by_cases hlt2:q < s.size
        rotate_left
        · have HX:=Ld (HU.out.no hp HC.out (.inl (by rw [hls.out];omega)))
          have u3:decide ((q:Int) < (s.size:Int))=false:=dF (by omega)
          have u4:decide ((s.size:Int)<=(q:Int))=true:=dT (by omega)
          obtain ⟨r0,r1,r2,r3,r4,r5,r6,z0,z1,z2,z3,z4,z5,z6,n0,n1,n2,n3,n4,n5,n6,y0,y1,y2,y3,y4,y5,y6⟩:=HB.out.all
          go_wp2
          have HB:=HB.out
          exact bodyPost_ret (v:=.tuple #[.agg #[.int .u8 99,.int .i64 0,.int .i64 0,.int .i64 0,.int .i64 0,.string (s.extract (p+1) (p+1+j)),(.slice la ls.length lc)],.int .i64 (-1)]) (by simp [results,Tryz.results139,go_sem,r0,r1,r2,r3,r4,r5,r6]) rfl ⟨(((((((HB.bel.setCell (p:=⟨w.heap.size,0,none⟩) (nR _) _).setCell (p:=⟨w.heap.size,1,none⟩) (nR _) _).setCell (p:=⟨w.heap.size,2,none⟩) (nR _) _).setCell (p:=⟨w.heap.size,3,none⟩) (nR _) _).setCell (p:=⟨w.heap.size,4,none⟩) (nR _) _).setCell (p:=⟨w.heap.size,5,none⟩) (nR _) _).setCell (p:=⟨w.heap.size,6,none⟩) (nR _) _),⟨99,0,0,0,0,(s.data.toList.drop (p+1)).take j,(.slice la ls.length lc)⟩,_,⟨_,_,_,rfl⟩,by rw [Nd.cells,ext_str];rfl,.inr ⟨rfl,HX.out⟩⟩
        have hll2:q < s.data.toList.length:=hlt2
        have u3:decide ((q:Int) < (s.size:Int))=true:=dT (by omega)
        have u4:decide ((s.size:Int)<=(q:Int))=false:=dF (by omega)
        have u5:(q:Int) < (s.size:Int):=by omega
        by_cases h46:s[q]=46
        · have v1:((s[q].toNat:Int) == 46)=true:=is_byte h46
          have v1':((s[q].toNat:Int) != 46)=false:=by rw [bne,v1];rfl
          have HT:=Ld (HU.out.done ⟨hp,HC.out⟩ hll2 h46)
          clear h46
          obtain ⟨r0,r1,r2,r3,r4,r5,r6,z0,z1,z2,z3,z4,z5,z6,n0,n1,n2,n3,n4,n5,n6,y0,y1,y2,y3,y4,y5,y6⟩:=HB.out.all
          go_wp2
          have HB:=HB.out
          exact bodyPost_ret (v:=.tuple #[.agg #[.int .u8 99,.int .i64 0,.int .i64 0,.int .i64 0,.int .i64 0,.string (s.extract (p+1) (p+1+j)),(.slice la ls.length lc)],.int .i64 ((q:Int)+1)]) (by simp [results,Tryz.results139,go_sem,r0,r1,r2,r3,r4,r5,r6]) rfl ⟨(((((((HB.bel.setCell (p:=⟨w.heap.size,0,none⟩) (nR _) _).setCell (p:=⟨w.heap.size,1,none⟩) (nR _) _).setCell (p:=⟨w.heap.size,2,none⟩) (nR _) _).setCell (p:=⟨w.heap.size,3,none⟩) (nR _) _).setCell (p:=⟨w.heap.size,4,none⟩) (nR _) _).setCell (p:=⟨w.heap.size,5,none⟩) (nR _) _).setCell (p:=⟨w.heap.size,6,none⟩) (nR _) _),⟨99,0,0,0,0,(s.data.toList.drop (p+1)).take j,(.slice la ls.length lc)⟩,_,⟨_,_,_,rfl⟩,by rw [Nd.cells,ext_str];rfl,.inl ⟨.const ((s.data.toList.drop (p+1)).take j) ls,_,rfl,⟨rfl,rfl,own_weakenL (own_box HO.out) (by omega)⟩,HT.out.1,by rw [HT.out.2];simp⟩⟩
        have v1:((s[q].toNat:Int) == 46)=false:=ne_byte h46
        have v1':((s[q].toNat:Int) != 46)=true:=by rw [bne,v1];rfl
        have H46:=Ld h46
        clear h46
        have g1:=f1.out q wr hq
        by_cases hl:∃ k,lend 1 (s.data.toList.drop q)=some k/\k<=60
        rotate_left
        · have HX:=Ld (HU.out.no hp HC.out (.inr ⟨⟨hll2,H46.out⟩,by
            cases hk:lend 1 (s.data.toList.drop q) with
            | none=>exact .inl rfl
            | some k=>exact .inr (.inr ⟨k,rfl,.inl (by have:¬ k<=60:=fun h=>hl ⟨k,hk,h⟩;omega)⟩)⟩))
          rw [show lvlEnd s.data.toList q=-1 by
            rw [lvlEnd]
            split
            · rename_i k hk
              rw [iN (fun h=>hl ⟨k,hk,h⟩)]
            · rfl] at g1
          have G1:=Ld g1
          clear hl g1
          obtain ⟨r0,r1,r2,r3,r4,r5,r6,z0,z1,z2,z3,z4,z5,z6,n0,n1,n2,n3,n4,n5,n6,y0,y1,y2,y3,y4,y5,y6⟩:=HB.out.all
          go_wp2_with fail
          (with_reducible refine mo G1.out ?_);rintro w5 rfl
          go_wp2
          have HB:=HB.out
          exact bodyPost_ret (v:=.tuple #[.agg #[.int .u8 99,.int .i64 0,.int .i64 0,.int .i64 0,.int .i64 0,.string (s.extract (p+1) (p+1+j)),(.slice la ls.length lc)],.int .i64 (-1)]) (by simp [results,Tryz.results139,go_sem,r0,r1,r2,r3,r4,r5,r6]) rfl ⟨(((((((HB.bel.setCell (p:=⟨w.heap.size,0,none⟩) (nR _) _).setCell (p:=⟨w.heap.size,1,none⟩) (nR _) _).setCell (p:=⟨w.heap.size,2,none⟩) (nR _) _).setCell (p:=⟨w.heap.size,3,none⟩) (nR _) _).setCell (p:=⟨w.heap.size,4,none⟩) (nR _) _).setCell (p:=⟨w.heap.size,5,none⟩) (nR _) _).setCell (p:=⟨w.heap.size,6,none⟩) (nR _) _),⟨99,0,0,0,0,(s.data.toList.drop (p+1)).take j,(.slice la ls.length lc)⟩,_,⟨_,_,_,rfl⟩,by rw [Nd.cells,ext_str];rfl,.inr ⟨rfl,HX.out⟩⟩
        obtain ⟨k,hk,h60⟩:=hl
        rw [show lvlEnd s.data.toList q=(q:Int)+(k:Int) by rw [lvlEnd,hk];simp [h60]] at g1
        have G1:=Ld g1
        have HK:=Ld hk
        have hkl:=(lend_take _ _ _ hk).2
        rw [List.length_drop,hls.out] at hkl
        clear hk g1
        have x0:(0:Int)<=(q:Int)+(k:Int):=by omega
        have x1:decide ((q:Int)+(k:Int) < 0)=false:=dF (by omega)
        have x2:((q:Int)+(k:Int)).toNat=q+k:=by omega
        have x3:(q:Int)<=(q:Int)+(k:Int):=by omega
        have x4:(q:Int)+(k:Int)<=(s.size:Int):=by omega
        by_cases hlt3:q+k < s.size
        rotate_left
        · have HX:=Ld (HU.out.no hp HC.out (.inr ⟨⟨hll2,H46.out⟩,.inr (.inr ⟨k,HK.out,.inr (.inl (by rw [hls.out];omega))⟩)⟩))
          have x5:decide ((s.size:Int)<=(q:Int)+(k:Int))=true:=dT (by omega)
          obtain ⟨r0,r1,r2,r3,r4,r5,r6,z0,z1,z2,z3,z4,z5,z6,n0,n1,n2,n3,n4,n5,n6,y0,y1,y2,y3,y4,y5,y6⟩:=HB.out.all
          go_wp2_with fail
          (with_reducible refine mo G1.out ?_);rintro w5 rfl
          go_wp2
          have HB:=HB.out
          exact bodyPost_ret (v:=.tuple #[.agg #[.int .u8 99,.int .i64 0,.int .i64 0,.int .i64 0,.int .i64 0,.string (s.extract (p+1) (p+1+j)),(.slice la ls.length lc)],.int .i64 (-1)]) (by simp [results,Tryz.results139,go_sem,r0,r1,r2,r3,r4,r5,r6]) rfl ⟨(((((((HB.bel.setCell (p:=⟨w.heap.size,0,none⟩) (nR _) _).setCell (p:=⟨w.heap.size,1,none⟩) (nR _) _).setCell (p:=⟨w.heap.size,2,none⟩) (nR _) _).setCell (p:=⟨w.heap.size,3,none⟩) (nR _) _).setCell (p:=⟨w.heap.size,4,none⟩) (nR _) _).setCell (p:=⟨w.heap.size,5,none⟩) (nR _) _).setCell (p:=⟨w.heap.size,6,none⟩) (nR _) _),⟨99,0,0,0,0,(s.data.toList.drop (p+1)).take j,(.slice la ls.length lc)⟩,_,⟨_,_,_,rfl⟩,by rw [Nd.cells,ext_str];rfl,.inr ⟨rfl,HX.out⟩⟩
        have hll3:q+k < s.data.toList.length:=hlt3
        have x5:decide ((s.size:Int)<=(q:Int)+(k:Int))=false:=dF (by omega)
        have x6:(q:Int)+(k:Int) < (s.size:Int):=by omega
        by_cases h44:s[q+k]=44
        rotate_left
        · have HX:=Ld (HU.out.no hp HC.out (.inr ⟨⟨hll2,H46.out⟩,.inr (.inr ⟨k,HK.out,.inr (.inr ⟨hll3,h44⟩)⟩)⟩))
          have v2:((s[q+k].toNat:Int) == 44)=false:=ne_byte h44
          have v2':((s[q+k].toNat:Int) != 44)=true:=by rw [bne,v2];rfl
          clear h44
          obtain ⟨r0,r1,r2,r3,r4,r5,r6,z0,z1,z2,z3,z4,z5,z6,n0,n1,n2,n3,n4,n5,n6,y0,y1,y2,y3,y4,y5,y6⟩:=HB.out.all
          go_wp2_with fail
          (with_reducible refine mo G1.out ?_);rintro w5 rfl
          go_wp2
          have HB:=HB.out
          exact bodyPost_ret (v:=.tuple #[.agg #[.int .u8 99,.int .i64 0,.int .i64 0,.int .i64 0,.int .i64 0,.string (s.extract (p+1) (p+1+j)),(.slice la ls.length lc)],.int .i64 (-1)]) (by simp [results,Tryz.results139,go_sem,r0,r1,r2,r3,r4,r5,r6]) rfl ⟨(((((((HB.bel.setCell (p:=⟨w.heap.size,0,none⟩) (nR _) _).setCell (p:=⟨w.heap.size,1,none⟩) (nR _) _).setCell (p:=⟨w.heap.size,2,none⟩) (nR _) _).setCell (p:=⟨w.heap.size,3,none⟩) (nR _) _).setCell (p:=⟨w.heap.size,4,none⟩) (nR _) _).setCell (p:=⟨w.heap.size,5,none⟩) (nR _) _).setCell (p:=⟨w.heap.size,6,none⟩) (nR _) _),⟨99,0,0,0,0,(s.data.toList.drop (p+1)).take j,(.slice la ls.length lc)⟩,_,⟨_,_,_,rfl⟩,by rw [Nd.cells,ext_str];rfl,.inr ⟨rfl,HX.out⟩⟩
        have v2:((s[q+k].toNat:Int) == 44)=true:=is_byte h44
        have v2':((s[q+k].toNat:Int) != 44)=false:=by rw [bne,v2];rfl
        have H44:=Ld h44
        clear h44
        by_cases hl3:ls.length < 3
        rotate_left
        · have HX:=Ld (HU.out.no hp HC.out (.inr ⟨⟨hll2,H46.out⟩,.inr (.inl (by omega))⟩))
          have v3:decide ((3:Int)<=(ls.length:Int))=true:=dT (by omega)
          have v3n:decide (3<=ls.length)=true:=dT (by omega)
          obtain ⟨r0,r1,r2,r3,r4,r5,r6,z0,z1,z2,z3,z4,z5,z6,n0,n1,n2,n3,n4,n5,n6,y0,y1,y2,y3,y4,y5,y6⟩:=HB.out.all
          go_wp2_with fail
          (with_reducible refine mo G1.out ?_);rintro w5 rfl
          go_wp2
          have HB:=HB.out
          exact bodyPost_ret (v:=.tuple #[.agg #[.int .u8 99,.int .i64 0,.int .i64 0,.int .i64 0,.int .i64 0,.string (s.extract (p+1) (p+1+j)),(.slice la ls.length lc)],.int .i64 (-1)]) (by simp [results,Tryz.results139,go_sem,r0,r1,r2,r3,r4,r5,r6]) rfl ⟨(((((((HB.bel.setCell (p:=⟨w.heap.size,0,none⟩) (nR _) _).setCell (p:=⟨w.heap.size,1,none⟩) (nR _) _).setCell (p:=⟨w.heap.size,2,none⟩) (nR _) _).setCell (p:=⟨w.heap.size,3,none⟩) (nR _) _).setCell (p:=⟨w.heap.size,4,none⟩) (nR _) _).setCell (p:=⟨w.heap.size,5,none⟩) (nR _) _).setCell (p:=⟨w.heap.size,6,none⟩) (nR _) _),⟨99,0,0,0,0,(s.data.toList.drop (p+1)).take j,(.slice la ls.length lc)⟩,_,⟨_,_,_,rfl⟩,by rw [Nd.cells,ext_str];rfl,.inr ⟨rfl,HX.out⟩⟩
        have v3:decide ((3:Int)<=(ls.length:Int))=false:=dF (by omega)
        have v3n:decide (3<=ls.length)=false:=dF (by omega)
        have HU2:=Ld (HU.out.next HK.out h60 hl3 hll3 H44.out)
        obtain ⟨r0,r1,r2,r3,r4,r5,r6,z0,z1,z2,z3,z4,z5,z6,n0,n1,n2,n3,n4,n5,n6,y0,y1,y2,y3,y4,y5,y6⟩:=HB.out.all
        go_wp2_with fail
        (with_reducible refine mo G1.out ?_);rintro w5 rfl
        obtain ⟨i0,hi,hz0,hz1,hz2⟩:=info_parts infoStr
        have hown:=HO.out
        have hzz:=HB.out.sz
        have ca:=(HB.out.grown (World.grownBy_alloc w5 (.cells #[.string (s.extract q (q+k))] 9) none) (fun g hg=>by cases hg)).n 6 _ rfl
        go_wp2_with fail
        go_region_law (first
          | (refine step_append_lies _ (by rfl) _ _ _ (by rfl) (w.heap.size+2) 9 i0 _ 1 16 Tryz.underlying31 hi hz0 hz1 hz2 rfl (by decide) (.slice la ls.length lc) ls.length _ (by rfl) ((hown.alloc _).drew)
              ⟨w5.heap.size,0,none⟩ 1 1 [.string (s.extract q (q+k))] (by rfl) (by rfl) (oneNew w5 _ _) (by simp [Value.oneCell'])
              (by decide) (by unfold maxLen;omega) (by omega) (by simp;omega) (w5.heap.size+1) (by simp) ?_;intro g cap w6 hown6 hgrow6 hat6 hlt6
             have B6:=Ld ((HB.out.allocDrew _).grown hgrow6 (fun g hg=>(hown.lt g hg).1))
             have m6:=B6.out.n 6 _ rfl
             have my6:=B6.out.nf 6 (by decide)))
        all_goals
          have HO6:=Ld (own_set hown6 ⟨w.heap.size+1,6,none⟩ (.slice (some ⟨g,0,none⟩) (ls.length+1) cap) (by simp))
          have HB6:=Ld (B6.out.set (tx':=(s.extract (p+1) (p+1+j))) (lv':=.slice (some ⟨g,0,none⟩) (ls.length+1) cap) 6 (.slice (some ⟨g,0,none⟩) (ls.length+1) cap) (by decide) (fun i v hv=>by
            match i,hv with
            | 0,h=>exact h
            | 1,h=>exact h
            | 2,h=>exact h
            | 3,h=>exact h
            | 4,h=>exact h
            | 5,h=>exact h
            | 6,h=>cases h;rfl
            | i+7,h=>simp at h))
          clear r0 r1 r2 r3 r4 r5 r6 z0 z1 z2 z3 z4 z5 z6 n0 n1 n2 n3 n4 n5 n6 y0 y1 y2 y3 y4 y5 y6 m6 my6
          go_wp2
          go_roundw
          case rel =>
            refine ⟨q+k+1,ls ++ [(s.data.toList.drop q).take k],_,by omega,by go_num,HU2.out,HB6.out,Ld ?_⟩
            have:=HO6.out
            simpa [sv,ext_str] using this
          case measure=>simp [intOf];omega
theorem specLeaf (s:ByteArray) (p:Nat) (w:World) (hs:s.size<=1000000000) (hp:p < s.size) :
    Calls Tryz.prog 139 #[.string s,.int .i64 (p:Int)] w (LeafPost s.data.toList p w):=by
  by_cases h1:s[p]=118
  · exact specLeafV s p w hs hp h1
  by_cases h2:s[p]=115
  · exact specLeafS s p w hs hp h2
  by_cases h3:s[p]=99
  · exact specLeafC s p w hs hp h3
  exact specLeafO s p w hp h1 h2 h3
end Go.Proofs.YtcaahdjhbmmcnaaGreatDoor
