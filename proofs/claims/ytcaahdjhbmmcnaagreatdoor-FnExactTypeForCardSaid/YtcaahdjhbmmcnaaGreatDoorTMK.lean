/- EqS Lists -/
import Derived.SliceStrings
import Derived.Test.YtcaahdjhbmmcnaaGreatDoorTBase
import Derived.Test.YtcaahdjhbmmcnaaGreatDoorTA6
set_option maxRecDepth 100000
set_option maxHeartbeats 16000000
set_option linter.unusedSimpArgs false
set_option linter.unusedVariables false
namespace Go.Proofs.YtcaahdjhbmmcnaaGreatDoor
open Go.ChangeShapes Go.WideShapes Go.ChangeAt Go.RowKit
theorem yI8{w:World}{b1 b2 n:Nat}{v1 v2:Value}{l:List (List UInt8)}(h1:w.ownsRow b1 9 1 v1 n (l.map sv))(h2:w.ownsRow b2 9 1 v2 n (l.map sv))(hn:n<=1000000000) :
  Calls Tryz.prog 19 #[v1,v2] w fun e w'=>e=.returned (.bool true)/\∃ q,w'=w.drewN q:=by
 have hl:l.length=n:=by simpa using h1.1
 rcases Nat.eq_zero_or_pos n with h0|hp
 ·subst h0;rcases h1.2 with ⟨rfl,_⟩|⟨g,cap,cur,rfl,_⟩<;>rcases h2.2 with ⟨rfl,_⟩|⟨g2,cap2,cur2,rfl,_⟩
  all_goals
   clear h1 h2 hl hn;go_enter Tryz.func19,Tryz.ntmps19;go_wp2;refine wp_loop_rounds 1 ?_;rw[rounds_succ];go_wp2;go_ret;exact⟨rfl,0,rfl⟩
 ·obtain⟨g1,c1,rfl,_,_⟩:=h1.form hp;obtain⟨g2,c2,rfl,_,_⟩:=h2.form hp;go_enter Tryz.func19,Tryz.ntmps19;go_wp2;go_loopw [5] (fun i wr=>∃ k q:Nat,k<=n/\i=.int .i64 k/\wr=w.drewN q) (fun i _=>n - (intOf i).toNat)
  case atStart=>exact⟨0,0,Nat.zero_le _,rfl,rfl⟩
  case round =>
   obtain⟨k,q,hk,rfl,rfl⟩:=hrel;by_cases hlt:k<n
   ·have e1:=h1.cellAt k (by omega);have e2:=h2.cellAt k (by omega);have ex:(l.map sv)[k]?=some (sv (l[k]'(by omega))):=(by simp[show k<l.length by omega]);rw[ex] at e1 e2;generalize l[k]'(by omega)=x at e1 e2;clear ex h1 h2;unfold sv at e1 e2;have q1:=zn k;have q2:(k:Int)<(n:Int):=(by omega);go_wp2;go_quiet (fail);go_wp2;go_roundw
    case rel=>exact⟨k+1,q+nq,by omega,by go_num,rfl⟩
    case measure=>simp[intOf];omega
   ·go_wp2;go_ret;exact⟨rfl,q,rfl⟩
def xG5 (l:List (List UInt8)) (left:Nat) (w:World) (e:Ending) (w':World):Prop :=
 w'=w/\(e=.returned (.int .i64 (-1))\/∃ r:Nat,e=.returned (.int .i64 (r:Int))/\r+l.length+yA8 l=left)
theorem yC1{w:World}{v:Value}{l:List (List UInt8)}(h:xC4 w v l)(left:Nat)(hle:left<=1048576) :
  Calls Tryz.prog 15 #[v,.int .i64 (left:Int)] w (xG5 l left w):=by
 obtain⟨a0,cap,b,off,rfl,h2,h3,h4,h5⟩:=h;unfold maxLen at h4 h5;by_cases hn:left<l.length
 ·have hd:decide ((left:Int) - (l.length:Int)<0)=true:=(by simp;omega);clear h2 h3;go_enter Tryz.func15,Tryz.ntmps15;go_wp2;go_ret;exact⟨rfl,.inl rfl⟩
 ·have hd:decide ((left:Int) - (l.length:Int)<0)=false:=(by simp;omega);go_enter Tryz.func15,Tryz.ntmps15;go_wp2;go_loopw [1,5] (fun lv i wr=>∃ k r:Nat,k<=l.length/\i=.int .i64 k/\lv=.int .i64 (r:Int)/\wr=w/\Hid (r+l.length+yA8 (l.take k)=left)) (fun _ i _=>l.length - (intOf i).toNat)
  case atStart=>exact⟨0,left - l.length,Nat.zero_le _,rfl,by go_num,rfl,by simp only[List.take_zero,Hid,yA8];simp;omega⟩
  case round =>
   obtain⟨k,r,hk,rfl,rfl,rfl,HT⟩:=hrel;have hr:r<=1048576:=(by have:=HT.out;omega);by_cases hlt:k<l.length
   ·obtain⟨rfl,hb⟩:=h2 (by omega);have cc:=h3 k hlt;unfold sv at cc;have hz:=zO l[k];have hx:=h5 l[k] (List.getElem_mem hlt);have HT2:=Ld (yA7 hlt);generalize l[k]=x at cc hz hx HT2;have q1:=zn k;have q2:(k:Int)<(l.length:Int):=(by omega);by_cases hneg:r<x.length
    ·have hd2:decide ((r:Int) - (x.length:Int)<0)=true:=(by simp;omega);clear h2 h3;go_wp2;go_ret;exact⟨rfl,.inl rfl⟩
    ·have hd2:decide ((r:Int) - (x.length:Int)<0)=false:=(by simp;omega);clear h2 h3;go_wp2;go_roundw
     case rel=>exact⟨k+1,r - x.length,by omega,by go_num,by go_num,trivial,by have:=HT.out;have:=HT2.out;simp only[Hid];omega⟩
     case measure=>simp[intOf];omega
   ·obtain rfl:k=l.length:=(by omega);have HT2:=HT.out;rw[List.take_length] at HT2;have HT3:=Ld HT2;clear HT HT2 h2 h3;go_wp2;go_ret;exact⟨rfl,.inr ⟨r,rfl,HT3.out⟩⟩
theorem yB1{w:World}{v:Value}{l:List (List UInt8)}(h:xC4 w v l)(hn:l.length<=1048576) :
  Calls Tryz.prog 17 #[v] w (oS l w):=by
 obtain⟨a0,cap,b,off,rfl,h2,h3,h4,h5⟩:=h;clear h4 h5;obtain⟨i0,hi,hz0,hz1,hz2⟩:=info_parts tF;go_enter Tryz.func17,Tryz.ntmps17;go_wp2_with (at_make;refine wpList_make_full _ rfl _ _ 31 rfl w.heap.size 9 i0 (.string ⟨#[]⟩) 1 Tryz.underlying31 hi hz0 hz1 _ _ _ _ l.length rfl rfl rfl rfl (by rw[hz2];omega) (by unfold maxLen;omega) (nR _) ?_;intro w0 hown0 hgrow0);have hbel0:Below w.heap.size w w0:=(bR _ _).grown hgrow0 (nR _) (by simp);have hxl:=hown0.1;generalize (madeCells (Value.string ⟨#[]⟩).cells (l.length*1)).toList=xs at hown0 hxl;rw[Nat.mul_one] at hxl;go_loopw [4] (fun i wr=>∃ k:Nat,k<=l.length/\i=.int .i64 k/\wr.ownsRow w.heap.size 9 1 (.slice (some ⟨w.heap.size,0,none⟩) l.length l.length) l.length ((l.map sv).take k++xs.drop k)/\Below w.heap.size w wr) (fun i _=>l.length - (intOf i).toNat)
 case atStart=>exact⟨0,Nat.zero_le _,rfl,by simpa using hown0,hbel0⟩
 case round =>
  obtain⟨k,hk,rfl,hown,hbel⟩:=hrel;clear hown0 hgrow0 hbel0;by_cases hlt:k<l.length
  ·obtain⟨rfl,hb⟩:=h2 (by omega);have cc:=(hbel.cell (p:=⟨b,off+k,none⟩) hb).trans (h3 k hlt);have HU:=Ld (zS8 (a:=l.map sv) (b:=xs) (k:=k) (u:=sv l[k]) (by simpa using hlt) (by simpa using hxl) (by simp));unfold sv at cc;have hlen:k<((l.map sv).take k++xs.drop k).length:=(by simp;omega);have co:=hown.cellAt k (by omega);rw[List.getElem?_eq_getElem hlen] at co;have cf:=hown.frozenAt k;generalize ((l.map sv).take k++xs.drop k)[k]=old at co;have HS:=Ld (hown.stored k (sv l[k]));have HB:=Ld hbel;have hne:b≠w.heap.size:=(by omega);unfold sv at HS HU;generalize l[k]=x at cc HU HS;have q1:=zn k;have q2:(k:Int)<(l.length:Int):=(by omega);clear h2 h3 hown hlen hbel;go_wp2;go_roundw
   case rel =>
    have e1:=HS.out;unfold sv at e1;rw[HU.out] at e1;exact⟨k+1,by omega,by go_num,e1.1,HB.out.grown e1.2 HB.out.size (fun j hj=>by cases hj;exact nR _)⟩
   case measure=>simp[intOf];omega
  ·obtain rfl:k=l.length:=(by omega);rw[List.drop_eq_nil_of_le (by omega),List.append_nil,List.take_of_length_le (by simp)] at hown;have HO:=Ld hown;clear hown h2 h3;go_wp2;go_ret;exact⟨_,rfl,HO.out,hbel⟩
end Go.Proofs.YtcaahdjhbmmcnaaGreatDoor
