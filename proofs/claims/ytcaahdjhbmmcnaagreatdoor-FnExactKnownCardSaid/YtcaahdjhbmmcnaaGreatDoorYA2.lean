/- RdS NWalks NWalks2 -/
import Derived.BigCall
import Derived.Laws.RangeAny
import Derived.Test.YtcaahdjhbmmcnaaGreatDoorYA1
set_option maxRecDepth 100000
set_option maxHeartbeats 16000000
set_option linter.unusedSimpArgs false
set_option linter.unusedVariables false
namespace Go.Proofs.YtcaahdjhbmmcnaaGreatDoor
open Go.ChangeShapes Go.WideShapes Go.ChangeAt Go.RowKit
def RdPost (l:List UInt8) (w:World) (e:Ending) (w':World):Prop :=
 Below w.heap.size w w'/\((∃ n,IsDec l n/\e=.returned (.tuple #[.int .i64 (n:Int),.bool true]))\/((∀ n,¬ IsDec l n)/\e=.returned (.tuple #[.int .i64 0,.bool false])))
theorem no_digit {s:ByteArray} {k:Nat} (h:k < s.size) (hx:s[k].toNat < 48\/57 < s[k].toNat):∀ n,¬ IsDec s.data.toList n:=by
 intro n hn;obtain ⟨d,hd⟩:=Lib.digit_of_decFrom _ 0 n hn.from_ k s[k] (List.getElem?_eq_getElem (l:=s.data.toList) h);have:=Lib.digitVal_eq hd;omega
theorem next_digit {s:ByteArray} {k n:Nat} (h:k < s.size) (h0:48<=s[k].toNat) (h1:s[k].toNat<=57) (hn:Lib.decFrom 0 (s.data.toList.take k)=some n) :
  Lib.decFrom 0 (s.data.toList.take (k+1))=some (n*10+(s[k].toNat - 48)):=by
 refine Lib.decFrom_take _ k 0 n s[k] _ hn (List.getElem?_eq_getElem (l:=s.data.toList) h) ?_;unfold Lib.digitVal;rw [iP ⟨h0,h1⟩]
theorem small_num {s:ByteArray} {k n:Nat} (hk:k<=10) (h:Lib.decFrom 0 (s.data.toList.take k)=some n):n < 10000000000:=by
 have h1:=Lib.decFrom_lt _ 0 n h;have h2:(s.data.toList.take k).length<=10:=by have:=List.length_take_le k s.data.toList;omega
 have h3:10 ^ (s.data.toList.take k).length<=10 ^ 10:=Nat.pow_le_pow_right (by decide) h2;have h4:(10:Nat) ^ 10=10000000000:=by decide
 omega
theorem specRead (s:ByteArray) (w:World) (hm:s.size<=maxLen):Calls Tryz.prog 228 #[.string s] w (RdPost s.data.toList w):=by
 unfold maxLen at hm;by_cases h10:10 < s.size
 ·have hno:∀ n,¬ IsDec s.data.toList n:=fun n hn=>by have h1:=hn.len;have h2:s.data.toList.length=s.size:=rfl;omega
  have HN:=Ld hno;clear hno;go_enter Tryz.func228,Tryz.ntmps228;go_wp2;go_ret2;exact ⟨bR _ _,.inr ⟨HN.out,rfl⟩⟩
 ·have hb:decide ((10:Int) < (s.size:Int))=false:=(by simp;omega);go_enter Tryz.func228,Tryz.ntmps228;go_wp2;go_loop [4,5] (fun x i=>∃ k n:Nat,k<=s.size/\n < 10000000000/\i=.int .i64 k/\x=.int .i64 n/\Hid (Lib.decFrom 0 (s.data.toList.take k)=some n)) (fun _ i=>s.size - (intOf i).toNat)
  case atStart=>exact ⟨0,0,Nat.zero_le _,by decide,rfl,rfl,rfl⟩
  case round =>
   obtain ⟨k,n,hk,hn,rfl,rfl,HD⟩:=hrel;by_cases hlt:k < s.size
   ·have hc:=s[k].toNat_lt;by_cases hx:s[k].toNat < 48\/57 < s[k].toNat
    ·have HN:=Ld (no_digit hlt hx);clear HD;rcases hx with hx | hx
     all_goals
      go_wp2;go_ret2;exact ⟨bR _ _,.inr ⟨HN.out,rfl⟩⟩
    ·have h0:48<=s[k].toNat:=(by omega);have h1:s[k].toNat<=57:=(by omega);have HN:=Ld (next_digit hlt h0 h1 HD.out);have hb2:=small_num (by omega) HN.out;clear HD hx;go_wp2;go_round
     case rel=>exact ⟨k+1,n*10+(s[k].toNat - 48),by omega,hb2,by go_num,by go_num,HN.out⟩
     case measure=>simp [intOf];omega
   ·obtain rfl:k=s.size:=(by omega);have e1:s.data.toList.take s.size=s.data.toList:=List.take_of_length_le (show s.data.toList.length<=s.size from nR _);have HD':=HD.out;rw [e1] at HD';have HD2:=Ld HD';clear HD HD' e1;by_cases hbig:1000000000 < n
    ·have HN:Hid (∀ m,¬ IsDec s.data.toList m):=fun m h=>by
      have h1:=h.from_.symm.trans HD2.out;have h2:=h.1;injection h1 with h1;omega
     go_wp2;go_ret2;exact ⟨bR _ _,.inr ⟨HN.out,rfl⟩⟩
    ·have f1:=Ld fun W=>decimal_any (n:Int) W (by omega) (by omega);rw [Lib.itoa_nonneg] at f1;go_wp2_with fail;(with_reducible refine (f1.out _).mono ?_);rintro e w1 ⟨rfl,hb1⟩;by_cases heq:Lib.decDigits n=s.data.toList
     ·have es:(⟨(Lib.decDigits n).toArray⟩:ByteArray)=s:=str_eq (by simpa using heq);rw [es];go_wp2;go_ret2;exact ⟨hb1,.inl ⟨n,⟨by omega,heq⟩,rfl⟩⟩
     ·have hne:(Lib.decDigits n == s.toList)=false:=(by rw [ByteArray.toList_eq];simpa using heq);have HN:Hid (∀ m,¬ IsDec s.data.toList m):=fun m h=>by
       have h1:=h.from_.symm.trans HD2.out;injection h1 with h1;subst h1;exact heq h.2
      clear heq;go_wp2;go_ret2;exact ⟨hb1,.inr ⟨HN.out,rfl⟩⟩
theorem partOk_nil {l:List UInt8} (h:l.length=0):partOk l=false:=by
 rw [List.length_eq_zero_iff] at h;subst h;rfl
theorem partOk_head {l:List UInt8} (h:0 < l.length) (hb:azB l[0]=false):partOk l=false:=by
 cases l with
 | nil=>simp at h
 | cons c r=>simp only [List.getElem_cons_zero] at hb;simp [partOk,hb]
theorem partOk_at {l:List UInt8} {k:Nat} (h:k < l.length) (hb:alB l[k]=false):partOk l=false:=by
 have h2:l.all alB=false:=by
  rw [Bool.eq_false_iff];intro h3;have:=List.all_eq_true.1 h3 l[k] (List.getElem_mem h);rw [hb] at this;cases this
 cases l with
 | nil=>simp at h
 | cons c r=>simp only [partOk,h2,Bool.and_false]
theorem partOk_done {l:List UInt8} (h:0 < l.length) (hz:azB l[0]=true) (ha:(l.take l.length).all alB=true):partOk l=true:=by
 rw [List.take_length] at ha;cases l with
 | nil=>simp at h
 | cons c r=>simp only [List.getElem_cons_zero] at hz;simp only [partOk,hz,ha,Bool.and_self]
theorem all_succ {f:UInt8->Bool} {l:List UInt8} {k:Nat} (h:k < l.length) (h0:(l.take k).all f=true) (hb:f l[k]=true):(l.take (k+1)).all f=true:=by
 rw [List.take_succ_eq_append_getElem h,List.all_append,h0];simp [hb]
theorem azB_iff (c:UInt8):azB c=true↔97<=c.toNat/\c.toNat<=122:=by simp [azB]
theorem azB_no (c:UInt8):azB c=false↔¬ (97<=c.toNat/\c.toNat<=122):=by rw [← azB_iff];simp
theorem dgB_iff (c:UInt8):dgB c=true↔48<=c.toNat/\c.toNat<=57:=by simp [dgB]
theorem alB_iff (c:UInt8):alB c=true↔(97<=c.toNat/\c.toNat<=122)\/(48<=c.toNat/\c.toNat<=57):=by simp [alB,azB,dgB]
theorem alB_no (c:UInt8):alB c=false↔¬ ((97<=c.toNat/\c.toNat<=122)\/(48<=c.toNat/\c.toNat<=57)):=by rw [← alB_iff];simp
theorem specPart (s:ByteArray) (w:World) (hm:s.size<=maxLen) :
  Calls Tryz.prog 99 #[.string s] w fun e w'=>e=.returned (.bool (partOk s.data.toList))/\w'=w:=by
 unfold maxLen at hm;have hls:s.data.toList.length=s.size:=rfl;by_cases h0:s.size=0
 ·have HR:=Ld (partOk_nil (l:=s.data.toList) (hls.trans h0));go_enter Tryz.func99,Tryz.ntmps99;go_wp2;go_ret;rw [HR.out];exact ⟨rfl,rfl⟩
 ·have hp:0 < s.size:=(by omega);have hb0:((s.size:Int) == 0)=false:=(by rw [bF];omega);have hc0:=s[0].toNat_lt;by_cases hz:97<=s[0].toNat/\s[0].toNat<=122
  ·have HZ:=Ld ((azB_iff s[0]).2 hz);obtain ⟨z1,z2⟩:=hz;clear hls h0;go_enter Tryz.func99,Tryz.ntmps99;go_wp2;go_loopw [3] (fun i wr=>∃ k:Nat,k<=s.size/\i=.int .i64 k/\wr=w/\Hid ((s.data.toList.take k).all alB=true)) (fun i _=>s.size - (intOf i).toNat)
   case atStart=>exact ⟨0,Nat.zero_le _,rfl,rfl,by simp [Hid]⟩
   case round =>
    obtain ⟨k,hk,rfl,rfl,HA⟩:=hrel;by_cases hlt:k < s.size
    ·have hc1:=s[k].toNat_lt;by_cases hx:(97<=s[k].toNat/\s[k].toNat<=122)\/(48<=s[k].toNat/\s[k].toNat<=57)
     ·have HR:=Ld (all_succ (l:=s.data.toList) hlt HA.out ((alB_iff s[k]).2 hx));clear HA;by_cases hy:97<=s[k].toNat/\s[k].toNat<=122
      ·obtain ⟨y1,y2⟩:=hy;have a1:decide ((97:Int)<=(s[k].toNat:Int))=true:=(by simp;omega);have a2:decide ((s[k].toNat:Int)<=122)=true:=(by simp;omega);have a3:decide ((48:Int)<=(s[k].toNat:Int))=true:=(by simp;omega);have a4:decide ((s[k].toNat:Int)<=57)=false:=(by simp;omega);clear hx;go_wp2;go_roundw
       case rel=>exact ⟨k+1,by omega,by go_num,trivial,HR.out⟩
       case measure=>simp [intOf];omega
      ·obtain ⟨y1,y2⟩:48<=s[k].toNat/\s[k].toNat<=57:=(by omega);have a1:decide ((97:Int)<=(s[k].toNat:Int))=false:=(by simp;omega);have a2:decide ((s[k].toNat:Int)<=122)=true:=(by simp;omega);have a3:decide ((48:Int)<=(s[k].toNat:Int))=true:=(by simp;omega);have a4:decide ((s[k].toNat:Int)<=57)=true:=(by simp;omega);clear hx hy;go_wp2;go_roundw
       case rel=>exact ⟨k+1,by omega,by go_num,trivial,HR.out⟩
       case measure=>simp [intOf];omega
     ·have HR:=Ld (partOk_at (l:=s.data.toList) hlt ((alB_no s[k]).2 hx));by_cases hy:122 < s[k].toNat
      ·have a1:decide ((97:Int)<=(s[k].toNat:Int))=true:=(by simp;omega);have a2:decide ((s[k].toNat:Int)<=122)=false:=(by simp;omega);have a3:decide ((48:Int)<=(s[k].toNat:Int))=true:=(by simp;omega);have a4:decide ((s[k].toNat:Int)<=57)=false:=(by simp;omega);clear hx;go_wp2;go_ret;rw [HR.out];exact ⟨rfl,rfl⟩
      ·by_cases hy2:57 < s[k].toNat
       ·have hy3:s[k].toNat < 97:=(by omega);have a1:decide ((97:Int)<=(s[k].toNat:Int))=false:=(by simp;omega);have a2:decide ((s[k].toNat:Int)<=122)=true:=(by simp;omega);have a3:decide ((48:Int)<=(s[k].toNat:Int))=true:=(by simp;omega);have a4:decide ((s[k].toNat:Int)<=57)=false:=(by simp;omega);clear hx;go_wp2;go_ret;rw [HR.out];exact ⟨rfl,rfl⟩
       ·have hy3:s[k].toNat < 48:=(by omega);have a1:decide ((97:Int)<=(s[k].toNat:Int))=false:=(by simp;omega);have a2:decide ((s[k].toNat:Int)<=122)=true:=(by simp;omega);have a3:decide ((48:Int)<=(s[k].toNat:Int))=false:=(by simp;omega);have a4:decide ((s[k].toNat:Int)<=57)=true:=(by simp;omega);clear hx;go_wp2;go_ret;rw [HR.out];exact ⟨rfl,rfl⟩
    ·obtain rfl:k=s.size:=(by omega);have HR:=Ld (partOk_done (l:=s.data.toList) hp HZ.out HA.out);clear HA;go_wp2;go_ret;rw [HR.out];exact ⟨rfl,rfl⟩
  ·have HR:=Ld (partOk_head (l:=s.data.toList) hp ((azB_no s[0]).2 hz));by_cases hy:s[0].toNat < 97
   all_goals
    go_enter Tryz.func99,Tryz.ntmps99;go_wp2;go_ret;rw [HR.out];exact ⟨rfl,rfl⟩
def CRel (y:UInt8) (l:List UInt8) (k b:Nat) (out:List (List UInt8)):Prop :=
 (k<=l.length/\b<=k/\out.length<=k/\cutF y [] l=out ++ cutF y ((l.drop b).take (k - b)) (l.drop k))\/(k=l.length+1/\out.length<=k/\cutF y [] l=out)
theorem CRel.start (y:UInt8) (l:List UInt8):CRel y l 0 0 []:=.inl ⟨Nat.zero_le _,nR _,nR _,by simp⟩
theorem CRel.len {y:UInt8} {l:List UInt8} {k b:Nat} {out:List (List UInt8)} (h:CRel y l k b out):out.length<=k:=by rcases h with h | h<;>omega
theorem CRel.plain {y:UInt8} {l:List UInt8} {k b:Nat} {out:List (List UInt8)} (h:CRel y l k b out) (hk:k < l.length) (hc:l[k]≠y):CRel y l (k+1) b out:=by
 rcases h with ⟨h1,h2,h3,h4⟩ | ⟨h1,_⟩
 ·refine .inl ⟨hk,by omega,by omega,?_⟩;rw [h4,List.drop_eq_getElem_cons hk,cutF,iN hc];have:k+1 - b=(k - b)+1:=(by omega);rw [this,List.take_succ_eq_append_getElem (by simp;omega)];simp [List.getElem_drop,show b+(k - b)=k by omega]
 ·omega
theorem CRel.cut {y:UInt8} {l:List UInt8} {k b:Nat} {out:List (List UInt8)} (h:CRel y l k b out) (hk:k < l.length) (hc:l[k]=y):CRel y l (k+1) (k+1) (out ++ [(l.drop b).take (k - b)]):=by
 rcases h with ⟨h1,h2,h3,h4⟩ | ⟨h1,_⟩
 ·refine .inl ⟨hk,by omega,by simp;omega,?_⟩;rw [h4,List.drop_eq_getElem_cons hk,cutF,iP hc];simp
 ·omega
theorem CRel.last {y:UInt8} {l:List UInt8} {b:Nat} {out:List (List UInt8)} (h:CRel y l l.length b out):CRel y l (l.length+1) (l.length+1) (out ++ [(l.drop b).take (l.length - b)]):=by
 rcases h with ⟨h1,h2,h3,h4⟩ | ⟨h1,_⟩
 ·refine .inr ⟨rfl,by simp;omega,?_⟩;rw [h4,List.drop_length,cutF]
 ·omega
theorem CRel.done {y:UInt8} {l:List UInt8} {b:Nat} {out:List (List UInt8)} (h:CRel y l (l.length+1) b out):cutF y [] l=out:=by
 rcases h with ⟨h1,_⟩ | ⟨_,_,h3⟩
 ·omega
 ·exact h3
def LRes (r:List (List UInt8)) (w:World) (e:Ending) (w':World):Prop :=
 ∃ v,e=.returned v/\w'.ownsRow w.heap.size 9 1 v r.length (r.map sv)/\Below w.heap.size w w'
theorem infoStr:(Tryz.prog.info? 9).map (fun i=>(i.zero,i.size,i.bytes))=some (some (.string ⟨#[]⟩),1,16):=by kernel_rfl
theorem specCut (s:ByteArray) (y:UInt8) (w:World) (hs:s.size<=1000000000):Calls Tryz.prog 98 #[.string s,.int .u8 (y.toNat:Int)] w (LRes (cutF y [] s.data.toList) w):=by
 have hls:s.data.toList.length=s.size:=rfl;have HLS:=Ld hls;clear hls;obtain ⟨i0,hi,hz0,hz1,hz2⟩:=info_parts infoStr;go_enter Tryz.func98,Tryz.ntmps98;go_wp2;go_loopw [5,6,7] (fun v bb i wr=>∃ (k b:Nat) (out:List (List UInt8)),k<=s.size+1/\b<=k/\out.length<=k/\i=.int .i64 k/\bb=.int .i64 b/\wr.ownsRow w.heap.size 9 1 v out.length (out.map sv)/\Below w.heap.size w wr/\CRel y s.data.toList k b out)
  (fun _ _ i _=>s.size+1 - (intOf i).toNat)
 case atStart =>
  exact ⟨0,0,[],Nat.zero_le _,nR _,nR _,rfl,rfl,World.ownsRow_lit w #[] 0 (nR _) (by decide) (by simp),(bR _ _).alloc (nR _) _,CRel.start _ _⟩
 case round =>
  obtain ⟨k,b,out,hk,hbk,hol,rfl,rfl,hown,hbel,hS⟩:=hrel;have hz:=hbel.size;have hl:=hown.lt;by_cases hlt:k < s.size
  ·have hne:((k:Int) == (s.size:Int))=false:=(by rw [bF];omega);by_cases hc:s[k]=y
   ·have HR:=Ld (hS.cut hlt hc);have h33:((s[k].toNat:Int) == (y.toNat:Int))=true:=(by rw [beq_iff_eq,hc]);clear hS hc;go_wp2_with (at_builtin;refine wpList_append_own _ rfl _ _ 31 rfl w.heap.size 9 i0 _ 1 16 Tryz.underlying31 hi hz0 hz1 hz2 rfl (by decide) _ _ _ rfl (hown.alloc _) ⟨wr.heap.size,0,none⟩ 1 1 [.string (s.extract b k)] rfl rfl (oneNew _ _ _) (by simp [Value.oneCell']) (by simp only [maxLen];omega) (by omega) (by simp;omega) ?_;intro v1 w1 hown1 hgrow hat);rw [extract_sv] at hown1;go_roundw
    case rel=>exact ⟨k+1,k+1,_,by omega,nR _,HR.out.len,by go_num,by go_num,by simpa using hown1,(hbel.alloc hz _).grown hgrow (by simp;omega) (fun q hq=>(hl q hq).1),HR.out⟩
    case measure=>simp [intOf];omega
   ·have HR:=Ld (hS.plain hlt hc);have h33:((s[k].toNat:Int) == (y.toNat:Int))=false:=by
     rw [bF];intro e;exact hc (UInt8.toNat_inj.1 (by omega))
    clear hS hc;go_wp2;go_roundw
    case rel=>exact ⟨k+1,b,_,by omega,by omega,HR.out.len,by go_num,rfl,hown,hbel,HR.out⟩
    case measure=>simp [intOf];omega
  ·by_cases heq:k=s.size
   ·subst heq;have HR:=Ld (CRel.last hS);clear hS;go_wp2_with (at_builtin;refine wpList_append_own _ rfl _ _ 31 rfl w.heap.size 9 i0 _ 1 16 Tryz.underlying31 hi hz0 hz1 hz2 rfl (by decide) _ _ _ rfl (hown.alloc _) ⟨wr.heap.size,0,none⟩ 1 1 [.string (s.extract b s.size)] rfl rfl (oneNew _ _ _) (by simp [Value.oneCell']) (by simp only [maxLen];omega) (by omega) (by simp;omega) ?_;intro v1 w1 hown1 hgrow hat);rw [extract_sv] at hown1;go_roundw
    case rel=>exact ⟨s.size+1,s.size+1,_,nR _,nR _,HR.out.len,by go_num,by go_num,by simpa using hown1,(hbel.alloc hz _).grown hgrow (by simp;omega) (fun q hq=>(hl q hq).1),HR.out⟩
    case measure=>simp [intOf]
   ·obtain rfl:k=s.size+1:=(by omega);have HR:=Ld (CRel.done hS);clear hS;have hO:=Ld hown;clear hown;go_wp2;go_ret;rw [HR.out];exact ⟨_,rfl,hO.out,hbel⟩
theorem specCut46 (s:ByteArray) (w:World) (hs:s.size<=1000000000):Calls Tryz.prog 98 #[.string s,.int .u8 46] w (LRes (cutL s.data.toList) w):=specCut s 46 w hs
theorem nameOk_many {l:List UInt8} (h:5 < (cutL l).length):nameOk l=false:=by
 simp [nameOk,show ¬ (cutL l).length<=5 by omega]
theorem nameOk_part {l:List UInt8} {k:Nat} (h:k < (cutL l).length) (hb:partOk (cutL l)[k]=false):nameOk l=false:=by
 have h2:(cutL l).all partOk=false:=by
  rw [Bool.eq_false_iff];intro h3;have:=List.all_eq_true.1 h3 (cutL l)[k] (List.getElem_mem h);rw [hb] at this;cases this
 simp only [nameOk,h2,Bool.and_false]
theorem nameOk_done {l:List UInt8} (h40:l.length<=40) (h5:(cutL l).length<=5) (h:((cutL l).take (cutL l).length).all partOk=true):nameOk l=true:=by
 rw [List.take_length] at h;simp [nameOk,h40,h5,h]
theorem all_succ' {f:List UInt8->Bool} {l:List (List UInt8)} {k:Nat} (h:k < l.length) (h0:(l.take k).all f=true) (hb:f l[k]=true):(l.take (k+1)).all f=true:=by
 rw [List.take_succ_eq_append_getElem h,List.all_append,h0];simp [hb]
theorem cutF_part (y:UInt8) (l:List UInt8):∀ p x,x∈cutF y p l->x.length<=p.length+l.length:=by
 induction l with
 | nil=>intro p x hx;simp only [cutF,List.mem_singleton] at hx;subst hx;simp
 | cons c l ih =>
  intro p x hx;rw [cutF] at hx;split at hx
  ·rw [List.mem_cons] at hx;rcases hx with rfl | hx
   ·omega
   ·have:=ih [] x hx;simp at this |-;omega
  ·have:=ih _ x hx;simp at this |-;omega
theorem specNameOk (s:ByteArray) (w:World) (hm:s.size<=maxLen) :
  Rt 67 #[.string s] w (.bool (nameOk s.data.toList)):=by
 unfold maxLen at hm;by_cases h40:40 < s.size
 ·have HR:=Ld (nameOk_long (l:=s.data.toList) h40);go_enter Tryz.func67,Tryz.ntmps67;go_wp2;go_ret;rw [HR.out];exact ⟨rfl,bR _ _⟩
 ·have f1:=Ld fun W=>specCut46 s W (by omega);have hpos:=Ld (cutF_pos 46 [] s.data.toList);have hpart:=Ld (cutF_part 46 s.data.toList []);have hD:=Ld fun h5=>nameOk_done (l:=s.data.toList) (show s.data.toList.length<=40 from Nat.not_lt.1 h40) h5;have hP:=Ld fun k h hb=>nameOk_part (l:=s.data.toList) (k:=k) h hb;have hM:=Ld fun h=>nameOk_many (l:=s.data.toList) h;have hls:s.data.toList.length=s.size:=rfl;have hsz:∀ x∈cutL s.data.toList,x.length<=40:=fun x hx=>by have:=hpart.out x hx;simp only [List.length_nil,hls] at this;omega
  have hpos1:0 < (cutL s.data.toList).length:=hpos.out;generalize cutL s.data.toList=r at f1 hD hP hM hpos1 hsz;generalize nameOk s.data.toList=a at hD hP hM;clear hpart hls hpos;go_enter Tryz.func67,Tryz.ntmps67;go_wp2_with fail;(with_reducible refine (f1.out _).mono ?_);rintro e w1 ⟨v1,rfl,ho1,hb1⟩;obtain ⟨g,cap,rfl,hg0,hgl⟩:=ho1.form hpos1;by_cases h5:5 < r.length
  ·have HM:=Ld (hM.out h5);clear ho1;go_wp2;go_ret;rw [HM.out];exact ⟨rfl,hb1⟩
  ·go_wp2;go_loopw [4] (fun i wr=>∃ k:Nat,k<=r.length/\i=.int .i64 k/\wr=w1/\Hid ((r.take k).all partOk=true)) (fun i _=>r.length - (intOf i).toNat)
   case atStart=>exact ⟨0,Nat.zero_le _,rfl,rfl,by simp [Hid]⟩
   case round =>
    obtain ⟨k,hk,rfl,rfl,HA⟩:=hrel;by_cases hlt:k < r.length
    ·have cc:=ho1.cellAt k (by omega);have ex:(r.map sv)[k]?=some (sv r[k]):=(by simp [hlt]);rw [ex] at cc;have hx:=hsz r[k] (List.getElem_mem hlt);unfold sv at cc;have f2:=Ld fun W=>specPart ⟨r[k].toArray⟩ W (by simp only [maxLen,ByteArray.size,List.size_toArray];omega);simp only at f2;by_cases hp:partOk r[k]=true
     ·have HR:=Ld (all_succ' hlt HA.out hp);rw [hp] at f2;clear HA ex hp;generalize r[k]=x at cc f2;have q1:=zn k;have q2:(k:Int) < (r.length:Int):=(by omega);go_wp2_with fail;(with_reducible refine mo (f2.out _) ?_);rintro w2 rfl;go_wp2;go_roundw
      case rel=>exact ⟨k+1,by omega,by go_num,trivial,HR.out⟩
      case measure=>simp [intOf];omega
     ·rw [Bool.not_eq_true] at hp;have HR:=Ld (hP.out k hlt hp);rw [hp] at f2;clear HA ex hp;generalize r[k]=x at cc f2;have q1:=zn k;have q2:(k:Int) < (r.length:Int):=(by omega);go_wp2_with fail;(with_reducible refine mo (f2.out _) ?_);rintro w2 rfl;go_wp2;go_ret;rw [HR.out];exact ⟨rfl,hb1⟩
    ·obtain rfl:k=r.length:=(by omega);have HR:=Ld (hD.out (by omega) HA.out);clear HA;go_wp2;go_ret;rw [HR.out];exact ⟨rfl,hb1⟩
theorem scan_fail {l:List UInt8} {k d:Nat} {b:Bool} (h:k < l.length) (h1:¬ (97<=l[k].toNat/\l[k].toNat<=122)) (h2:¬ ((48<=l[k].toNat/\l[k].toNat<=57)/\b=true)) (h3:¬ (l[k].toNat=46/\b=true)):scan (l.drop k) d b=false:=by
 rw [scan_drop h,iN (by rw [azB_iff];exact h1),iN (by rw [dgB_iff];exact h2),iN];rintro ⟨h4,h5⟩;exact h3 ⟨by rw [h4];rfl,h5⟩
theorem scan_digit {l:List UInt8} {k d:Nat} (h:k < l.length) (h1:48<=l[k].toNat/\l[k].toNat<=57):scan (l.drop k) d true=scan (l.drop (k+1)) d true:=by
 rw [scan_drop h,iN (by rw [azB_iff];omega),iP ⟨(dgB_iff _).2 h1,rfl⟩]
theorem scan_dot {l:List UInt8} {k d:Nat} (h:k < l.length) (h1:l[k].toNat=46):scan (l.drop k) d true=scan (l.drop (k+1)) (d+1) false:=by
 rw [scan_drop h,iN (by rw [azB_iff];omega),iN (by rw [dgB_iff];omega),iP ⟨UInt8.toNat_inj.1 h1,rfl⟩]
theorem scan_az {l:List UInt8} {k d:Nat} {b:Bool} (h:k < l.length) (h1:97<=l[k].toNat/\l[k].toNat<=122):scan (l.drop k) d b=scan (l.drop (k+1)) d true:=by
 rw [scan_drop h,iP ((azB_iff _).2 h1)]
theorem below_iter (w:World) (s:ByteArray) (p:Nat):Below w.heap.size w (w.iter s p):=(bR _ _).alloc (nR _) _
theorem implNameOk (s:ByteArray) (w:World) (hm:s.size<=maxLen) :
  Rt 108 #[.string s] w (.bool (nameOk s.data.toList)):=by
 unfold maxLen at hm;by_cases h40:40 < s.size
 ·have HR:=Ld (nameOk_long (l:=s.data.toList) h40);go_enter Tryz.func108,Tryz.ntmps108;go_wp2;go_ret;rw [HR.out];exact ⟨rfl,bR _ _⟩
 ·rw [nameOk_scan _ (Nat.not_lt.1 h40)];have hb:decide ((40:Int) < (s.size:Int))=false:=(by rw [decide_eq_false_iff_not];omega);go_enter Tryz.func108,Tryz.ntmps108;go_wp2;go_loopw [3,4] (fun dv bv wr=>∃ (k d:Nat) (b:Bool),k<=s.size/\d<=k+1/\dv=.int .i64 d/\bv=.bool b/\wr=w.iter s k/\Hid (scan s.data.toList 1 false=scan (s.data.toList.drop k) d b)) (fun _ _ wr=>s.size - wr.iterPos w.heap.size)
  case atStart=>exact ⟨0,1,false,Nat.zero_le _,nR _,rfl,rfl,rfl,by simp [Hid]⟩
  case round =>
   obtain ⟨k,d,b,hk,hd,rfl,rfl,rfl,HS⟩:=hrel;by_cases hlt:k < s.size
   ·by_cases hasc:(s[k]).toNat < 128
    ·have hnx:∀ ty,(Instr.next (.pointer (some ⟨w.heap.size,0,none⟩)) true ty).run Tryz.prog (w.iter s k)=_:=fun ty=>run_next_ascii w s k ty hlt hasc;by_cases haz:97<=s[k].toNat/\s[k].toNat<=122
     ·have HR:=Ld (HS.out.trans (scan_az (l:=s.data.toList) hlt haz));clear HS;obtain ⟨y1,y2⟩:=haz;have a1:decide ((97:Int)<=(s[k].toNat:Int))=true:=(by simp;omega);have a2:decide ((s[k].toNat:Int)<=122)=true:=(by simp;omega);have a3:decide ((48:Int)<=(s[k].toNat:Int))=true:=(by simp;omega);have a4:decide ((s[k].toNat:Int)<=57)=false:=(by simp;omega);have a5:((s[k].toNat:Int) == 46)=false:=(by rw [bF];omega);go_wp2;go_roundw
      case rel=>exact ⟨k+1,d,true,by omega,by omega,rfl,rfl,rfl,HR.out⟩
      case measure=>simp;omega
     ·by_cases hdg:48<=s[k].toNat/\s[k].toNat<=57
      ·cases b
       ·have HR:=Ld (HS.out.trans (scan_fail (l:=s.data.toList) hlt haz (by simp) (by simp)));obtain ⟨y1,y2⟩:=hdg;clear HS haz;have a1:decide ((97:Int)<=(s[k].toNat:Int))=false:=(by simp;omega);have a2:decide ((s[k].toNat:Int)<=122)=true:=(by simp;omega);have a3:decide ((48:Int)<=(s[k].toNat:Int))=true:=(by simp;omega);have a4:decide ((s[k].toNat:Int)<=57)=true:=(by simp;omega);have a5:((s[k].toNat:Int) == 46)=false:=(by rw [bF];omega);go_wp2;go_ret;rw [HR.out];exact ⟨rfl,below_iter _ _ _⟩
       ·have HR:=Ld (HS.out.trans (scan_digit (l:=s.data.toList) hlt hdg));obtain ⟨y1,y2⟩:=hdg;clear HS haz;have a1:decide ((97:Int)<=(s[k].toNat:Int))=false:=(by simp;omega);have a2:decide ((s[k].toNat:Int)<=122)=true:=(by simp;omega);have a3:decide ((48:Int)<=(s[k].toNat:Int))=true:=(by simp;omega);have a4:decide ((s[k].toNat:Int)<=57)=true:=(by simp;omega);have a5:((s[k].toNat:Int) == 46)=false:=(by rw [bF];omega);go_wp2;go_roundw
        case rel=>exact ⟨k+1,d,true,by omega,by omega,rfl,rfl,rfl,HR.out⟩
        case measure=>simp;omega
      ·by_cases h46:s[k].toNat=46
       ·cases b
        ·have HR:=Ld (HS.out.trans (scan_fail (l:=s.data.toList) hlt haz (by simp) (by simp)));clear HS haz hdg;have a1:decide ((97:Int)<=(s[k].toNat:Int))=false:=(by simp;omega);have a2:decide ((s[k].toNat:Int)<=122)=true:=(by simp;omega);have a3:decide ((48:Int)<=(s[k].toNat:Int))=false:=(by simp;omega);have a4:decide ((s[k].toNat:Int)<=57)=true:=(by simp;omega);have a5:((s[k].toNat:Int) == 46)=true:=(by rw [beq_iff_eq];omega);go_wp2;go_ret;rw [HR.out];exact ⟨rfl,below_iter _ _ _⟩
        ·have HR:=Ld (HS.out.trans (scan_dot (l:=s.data.toList) hlt h46));clear HS haz hdg;have a1:decide ((97:Int)<=(s[k].toNat:Int))=false:=(by simp;omega);have a2:decide ((s[k].toNat:Int)<=122)=true:=(by simp;omega);have a3:decide ((48:Int)<=(s[k].toNat:Int))=false:=(by simp;omega);have a4:decide ((s[k].toNat:Int)<=57)=true:=(by simp;omega);have a5:((s[k].toNat:Int) == 46)=true:=(by rw [beq_iff_eq];omega);clear h46;go_wp2;go_roundw
         case rel=>exact ⟨k+1,d+1,false,by omega,by omega,by go_num,rfl,rfl,HR.out⟩
         case measure=>simp;omega
       ·have HR:=Ld (HS.out.trans (scan_fail (l:=s.data.toList) hlt haz (fun h=>hdg h.1) (fun h=>h46 h.1)));clear HS;by_cases z1:122 < s[k].toNat
        ·clear haz hdg;have a1:decide ((97:Int)<=(s[k].toNat:Int))=true:=(by simp;omega);have a2:decide ((s[k].toNat:Int)<=122)=false:=(by simp;omega);have a3:decide ((48:Int)<=(s[k].toNat:Int))=true:=(by simp;omega);have a4:decide ((s[k].toNat:Int)<=57)=false:=(by simp;omega);have a5:((s[k].toNat:Int) == 46)=false:=(by rw [bF];omega);go_wp2;go_ret;rw [HR.out];exact ⟨rfl,below_iter _ _ _⟩
        ·by_cases z2:57 < s[k].toNat
         ·have z3:s[k].toNat < 97:=(by omega);clear haz hdg;have a1:decide ((97:Int)<=(s[k].toNat:Int))=false:=(by simp;omega);have a2:decide ((s[k].toNat:Int)<=122)=true:=(by simp;omega);have a3:decide ((48:Int)<=(s[k].toNat:Int))=true:=(by simp;omega);have a4:decide ((s[k].toNat:Int)<=57)=false:=(by simp;omega);have a5:((s[k].toNat:Int) == 46)=false:=(by rw [bF];omega);go_wp2;go_ret;rw [HR.out];exact ⟨rfl,below_iter _ _ _⟩
         ·have z3:s[k].toNat < 48:=(by omega);clear haz hdg;have a1:decide ((97:Int)<=(s[k].toNat:Int))=false:=(by simp;omega);have a2:decide ((s[k].toNat:Int)<=122)=true:=(by simp;omega);have a3:decide ((48:Int)<=(s[k].toNat:Int))=false:=(by simp;omega);have a4:decide ((s[k].toNat:Int)<=57)=true:=(by simp;omega);have a5:((s[k].toNat:Int) == 46)=false:=(by rw [bF];omega);go_wp2;go_ret;rw [HR.out];exact ⟨rfl,below_iter _ _ _⟩
    ·have hnx:∀ ty,(Instr.next (.pointer (some ⟨w.heap.size,0,none⟩)) true ty).run Tryz.prog (w.iter s k)=_:=fun ty=>run_next_any w s k ty hlt;have hhi:=(decode_high s k hlt (by omega)).1;have HR:=Ld (HS.out.trans (scan_fail (l:=s.data.toList) hlt (show ¬ (97<=s[k].toNat/\s[k].toNat<=122) by omega) (show ¬ ((48<=s[k].toNat/\s[k].toNat<=57)/\b=true) by omega) (show ¬ (s[k].toNat=46/\b=true) by omega)));clear HS;have a1:decide ((97:Int)<=((Utf8.decode s k).1:Int))=true:=(by simp;omega);have a2:decide (((Utf8.decode s k).1:Int)<=122)=false:=(by simp;omega);have a3:decide ((48:Int)<=((Utf8.decode s k).1:Int))=true:=(by simp;omega);have a4:decide (((Utf8.decode s k).1:Int)<=57)=false:=(by simp;omega);have a5:(((Utf8.decode s k).1:Int) == 46)=false:=(by rw [bF];omega);go_wp2;go_ret;rw [HR.out];exact ⟨rfl,below_iter _ _ _⟩
   ·obtain rfl:k=s.size:=(by omega);have hnx:∀ ty,(Instr.next (.pointer (some ⟨w.heap.size,0,none⟩)) true ty).run Tryz.prog (w.iter s s.size)=_:=fun ty=>run_next_end w s s.size ty (Nat.lt_irrefl _);have e0:s.data.toList.drop s.size=[]:=List.drop_length;have HR:=Ld (HS.out.trans (show scan (s.data.toList.drop s.size) d b=(b && decide (d<=5)) by rw [e0];rfl));clear HS e0;cases b
    ·go_wp2;go_ret;rw [HR.out];exact ⟨rfl,below_iter _ _ _⟩
    ·go_wp2;go_ret;rw [HR.out];exact ⟨by simp;omega,below_iter _ _ _⟩
end Go.Proofs.YtcaahdjhbmmcnaaGreatDoor
