/- EqS Lists MarksLP Marks -/
import Derived.SliceStrings
import Derived.Test.YtcaahdjhbmmcnaaGreatDoorYBase
import Derived.Test.YtcaahdjhbmmcnaaGreatDoorYA6
import Derived.Test.YtcaahdjhbmmcnaaGreatDoorYQA
import Derived.Test.YtcaahdjhbmmcnaaGreatDoorYJS
set_option maxRecDepth 100000
set_option maxHeartbeats 16000000
set_option linter.unusedSimpArgs false
set_option linter.unusedVariables false
namespace Go.Proofs.YtcaahdjhbmmcnaaGreatDoor
open Go.ChangeShapes Go.WideShapes Go.ChangeAt Go.RowKit
theorem eqStringS {w:World} {b1 b2 n:Nat} {v1 v2:Value} {l:List (List UInt8)} (h1:w.ownsRow b1 9 1 v1 n (l.map sv)) (h2:w.ownsRow b2 9 1 v2 n (l.map sv)) (hn:n<=1000000000) :
  Calls Tryz.prog 19 #[v1,v2] w fun e w'=>e=.returned (.bool true)/\∃ q,w'=w.drewN q:=by
 have hl:l.length=n:=by simpa using h1.1
 rcases Nat.eq_zero_or_pos n with h0 | hp
 ·subst h0;rcases h1.2 with ⟨rfl,_⟩ | ⟨g,cap,cur,rfl,_⟩<;>rcases h2.2 with ⟨rfl,_⟩ | ⟨g2,cap2,cur2,rfl,_⟩
  all_goals
   clear h1 h2 hl hn;go_enter Tryz.func19,Tryz.ntmps19;go_wp2;refine wp_loop_rounds 1 ?_;rw [rounds_succ];go_wp2;go_ret;exact ⟨rfl,0,rfl⟩
 ·obtain ⟨g1,c1,rfl,_,_⟩:=h1.form hp;obtain ⟨g2,c2,rfl,_,_⟩:=h2.form hp;go_enter Tryz.func19,Tryz.ntmps19;go_wp2;go_loopw [5] (fun i wr=>∃ k q:Nat,k<=n/\i=.int .i64 k/\wr=w.drewN q) (fun i _=>n - (intOf i).toNat)
  case atStart=>exact ⟨0,0,Nat.zero_le _,rfl,rfl⟩
  case round =>
   obtain ⟨k,q,hk,rfl,rfl⟩:=hrel;by_cases hlt:k < n
   ·have e1:=h1.cellAt k (by omega);have e2:=h2.cellAt k (by omega);have ex:(l.map sv)[k]?=some (sv (l[k]'(by omega))):=(by simp [show k < l.length by omega]);rw [ex] at e1 e2;generalize l[k]'(by omega)=x at e1 e2;clear ex h1 h2;unfold sv at e1 e2;have q1:=zn k;have q2:(k:Int) < (n:Int):=(by omega);go_wp2;go_quiet (fail);go_wp2;go_roundw
    case rel=>exact ⟨k+1,q+nq,by omega,by go_num,rfl⟩
    case measure=>simp [intOf];omega
   ·go_wp2;go_ret;exact ⟨rfl,q,rfl⟩
def SzRes (l:List (List UInt8)) (left:Nat) (w:World) (e:Ending) (w':World):Prop :=
 w'=w/\(e=.returned (.int .i64 (-1))\/∃ r:Nat,e=.returned (.int .i64 (r:Int))/\r+l.length+totL l=left)
theorem szStringS {w:World} {v:Value} {l:List (List UInt8)} (h:Came w v l) (left:Nat) (hle:left<=1048576) :
  Calls Tryz.prog 15 #[v,.int .i64 (left:Int)] w (SzRes l left w):=by
 obtain ⟨a0,cap,b,off,rfl,h2,h3,h4,h5⟩:=h;unfold maxLen at h4 h5;by_cases hn:left < l.length
 ·have hd:decide ((left:Int) - (l.length:Int) < 0)=true:=(by simp;omega);clear h2 h3;go_enter Tryz.func15,Tryz.ntmps15;go_wp2;go_ret;exact ⟨rfl,.inl rfl⟩
 ·have hd:decide ((left:Int) - (l.length:Int) < 0)=false:=(by simp;omega);go_enter Tryz.func15,Tryz.ntmps15;go_wp2;go_loopw [1,5] (fun lv i wr=>∃ k r:Nat,k<=l.length/\i=.int .i64 k/\lv=.int .i64 (r:Int)/\wr=w/\Hid (r+l.length+totL (l.take k)=left)) (fun _ i _=>l.length - (intOf i).toNat)
  case atStart=>exact ⟨0,left - l.length,Nat.zero_le _,rfl,by go_num,rfl,by simp only [List.take_zero,Hid,totL];simp;omega⟩
  case round =>
   obtain ⟨k,r,hk,rfl,rfl,rfl,HT⟩:=hrel;have hr:r<=1048576:=(by have:=HT.out;omega);by_cases hlt:k < l.length
   ·obtain ⟨rfl,hb⟩:=h2 (by omega);have cc:=h3 k hlt;unfold sv at cc;have hz:=size_sv l[k];have hx:=h5 l[k] (List.getElem_mem hlt);have HT2:=Ld (totL_succ hlt);generalize l[k]=x at cc hz hx HT2;have q1:=zn k;have q2:(k:Int) < (l.length:Int):=(by omega);by_cases hneg:r < x.length
    ·have hd2:decide ((r:Int) - (x.length:Int) < 0)=true:=(by simp;omega);clear h2 h3;go_wp2;go_ret;exact ⟨rfl,.inl rfl⟩
    ·have hd2:decide ((r:Int) - (x.length:Int) < 0)=false:=(by simp;omega);clear h2 h3;go_wp2;go_roundw
     case rel=>exact ⟨k+1,r - x.length,by omega,by go_num,by go_num,trivial,by have:=HT.out;have:=HT2.out;simp only [Hid];omega⟩
     case measure=>simp [intOf];omega
   ·obtain rfl:k=l.length:=(by omega);have HT2:=HT.out;rw [List.take_length] at HT2;have HT3:=Ld HT2;clear HT HT2 h2 h3;go_wp2;go_ret;exact ⟨rfl,.inr ⟨r,rfl,HT3.out⟩⟩
theorem toStringS {w:World} {v:Value} {l:List (List UInt8)} (h:Came w v l) (hn:l.length<=1048576) :
  Calls Tryz.prog 17 #[v] w (LRes' l w):=by
 obtain ⟨a0,cap,b,off,rfl,h2,h3,h4,h5⟩:=h;clear h4 h5;obtain ⟨i0,hi,hz0,hz1,hz2⟩:=info_parts infoStr';go_enter Tryz.func17,Tryz.ntmps17;go_wp2_with (at_make;refine wpList_make_full _ rfl _ _ 31 rfl w.heap.size 9 i0 (.string ⟨#[]⟩) 1 Tryz.underlying31 hi hz0 hz1 _ _ _ _ l.length rfl rfl rfl rfl (by rw [hz2];omega) (by unfold maxLen;omega) (nR _) ?_;intro w0 hown0 hgrow0);have hbel0:Below w.heap.size w w0:=(bR _ _).grown hgrow0 (nR _) (by simp);have hxl:=hown0.1;generalize (madeCells (Value.string ⟨#[]⟩).cells (l.length*1)).toList=xs at hown0 hxl;rw [Nat.mul_one] at hxl;go_loopw [4] (fun i wr=>∃ k:Nat,k<=l.length/\i=.int .i64 k/\wr.ownsRow w.heap.size 9 1 (.slice (some ⟨w.heap.size,0,none⟩) l.length l.length) l.length ((l.map sv).take k ++ xs.drop k)/\Below w.heap.size w wr) (fun i _=>l.length - (intOf i).toNat)
 case atStart=>exact ⟨0,Nat.zero_le _,rfl,by simpa using hown0,hbel0⟩
 case round =>
  obtain ⟨k,hk,rfl,hown,hbel⟩:=hrel;clear hown0 hgrow0 hbel0;by_cases hlt:k < l.length
  ·obtain ⟨rfl,hb⟩:=h2 (by omega);have cc:=(hbel.cell (p:=⟨b,off+k,none⟩) hb).trans (h3 k hlt);have HU:=Ld (fill_set (a:=l.map sv) (b:=xs) (k:=k) (u:=sv l[k]) (by simpa using hlt) (by simpa using hxl) (by simp));unfold sv at cc;have hlen:k < ((l.map sv).take k ++ xs.drop k).length:=(by simp;omega);have co:=hown.cellAt k (by omega);rw [List.getElem?_eq_getElem hlen] at co;have cf:=hown.frozenAt k;generalize ((l.map sv).take k ++ xs.drop k)[k]=old at co;have HS:=Ld (hown.stored k (sv l[k]));have HB:=Ld hbel;have hne:b≠w.heap.size:=(by omega);unfold sv at HS HU;generalize l[k]=x at cc HU HS;have q1:=zn k;have q2:(k:Int) < (l.length:Int):=(by omega);clear h2 h3 hown hlen hbel;go_wp2;go_roundw
   case rel =>
    have e1:=HS.out;unfold sv at e1;rw [HU.out] at e1;exact ⟨k+1,by omega,by go_num,e1.1,HB.out.grown e1.2 HB.out.size (fun j hj=>by cases hj;exact nR _)⟩
   case measure=>simp [intOf];omega
  ·obtain rfl:k=l.length:=(by omega);rw [List.drop_eq_nil_of_le (by omega),List.append_nil,List.take_of_length_le (by simp)] at hown;have HO:=Ld hown;clear hown h2 h3;go_wp2;go_ret;exact ⟨_,rfl,HO.out,hbel⟩
def marksL (k n:Nat):List Lbl:=(List.range n).map fun i=>(((k+2*i:Nat):Int),markL (k+2*i+1))
theorem marksL_length (k n:Nat):(marksL k n).length=n:=by simp [marksL]
theorem marksL_at {k n j:Nat} (h:j < n):(flat (marksL k n))[j*2]?=some (.int .i64 ((k:Int)+2*(j:Int)))/\(flat (marksL k n))[j*2+1]?=some (.string ⟨(markL (k+2*j+1)).toArray⟩):=by
 obtain ⟨h1,h2⟩:=flat_at (l:=marksL k n) (j:=j) (by rw [marksL_length];exact h);rw [h1,h2];simp [marksL,sv]
theorem markLabelS {w:World} {base n k:Nat} {v:Value} {xs:List Value} (h:w.ownsRow base 99 2 v n xs) (hn:n<=10000000) (hk0:0 < k) (hk:k<=100000000) :
  Calls Tryz.prog 44 #[v,.int .i64 (k:Int)] w fun e w'=>e=.returned (.int .i64 ((k:Int)+2*(n:Int)))/\w'.ownsRow base 99 2 v n (flat (marksL k n))/\w.grownBy w' v.ownBlock:=by
 have hl:xs.length=n*2:=h.1;have hM:(flat (marksL k n)).length=n*2:=by rw [flat_length,marksL_length]
 rcases Nat.eq_zero_or_pos n with h0 | hp
 ·subst h0;have h':=Ld h;have e:xs=flat (marksL k 0):=by
   have:xs=[]:=List.length_eq_zero_iff.1 (by omega);rw [this];rfl
  have he:=Ld e;rcases h.2 with ⟨rfl,_⟩ | ⟨g,cap,cur,rfl,_⟩
  all_goals
   clear h hl hn hM e;go_enter Tryz.func44,Tryz.ntmps44;go_wp2;refine wp_loop_rounds 1 ?_;rw [rounds_succ];go_wp2;go_ret;refine ⟨by simp,?_,World.grownBy.refl _ _⟩;rw [← he.out];exact h'.out
 ·obtain ⟨g,c,rfl,_,_⟩:=h.form hp;go_enter Tryz.func44,Tryz.ntmps44;go_wp2;go_loopw [1,5] (fun kk i wr=>∃ j:Nat,j<=n/\i=.int .i64 j/\kk=.int .i64 ((k:Int)+2*(j:Int))/\wr.ownsRow base 99 2 (.slice (some ⟨g,0,none⟩) n c) n ((flat (marksL k n)).take (j*2) ++ xs.drop (j*2))/\w.grownBy wr (some g)) (fun _ i _=>n - (intOf i).toNat)
  case atStart=>exact ⟨0,Nat.zero_le _,rfl,by go_num,by simpa using h,World.grownBy.refl _ _⟩
  case round =>
   obtain ⟨j,hj,rfl,rfl,hown,hg⟩:=hrel;clear h;by_cases hlt:j < n
   ·obtain ⟨m1,m2⟩:=marksL_at (k:=k) hlt;have HU:=Ld (fill2 (a:=flat (marksL k n)) (b:=xs) (k:=j*2) (by omega) (by omega) m1 m2);have f1:=Ld fun W=>markText (k+2*j+1) W (by omega) (by omega);simp only [Int.natCast_add,Int.natCast_mul,Int.cast_ofNat_Int,Int.natCast_one] at f1;clear m1 m2;generalize markL (k+2*j+1)=mk at f1 HU;have hlen:((flat (marksL k n)).take (j*2) ++ xs.drop (j*2)).length=n*2:=(by simp;omega);generalize (flat (marksL k n)).take (j*2) ++ xs.drop (j*2)=ys at hown HU hlen;have co:=hown.cellAt (j*2) (by omega);rw [List.getElem?_eq_getElem (by omega)] at co;have cf:=hown.frozenAt (j*2);generalize ys[j*2]=old1 at co;have HS1:=hown.stored (j*2) (.int .i64 ((k:Int)+2*(j:Int)));obtain ⟨hown2,hg2⟩:=HS1;have q1:=zn j;have q2:(j:Int) < (n:Int):=(by omega);have HG:=Ld (hg.trans hg2);clear hown hg hg2;go_wp2_with fail;(with_reducible refine mo (f1.out _) fun w1 hb1=>?_);have hown3:=own_below hown2 hb1;have hl3:(ys.set (j*2) (.int .i64 ((k:Int)+2*(j:Int)))).length=n*2:=(by simp;omega);have co2:=hown3.cellAt (j*2+1) (by omega);rw [List.getElem?_eq_getElem (by omega)] at co2;have cf2:=hown3.frozenAt (j*2+1);generalize (ys.set (j*2) (.int .i64 ((k:Int)+2*(j:Int))))[j*2+1]=old2 at co2;have HS2:=Ld (hown3.stored (j*2+1) (.string ⟨mk.toArray⟩));clear hown2 hown3 hl3 co cf;go_wp2;go_roundw
    case rel =>
     have e1:=HS2.out;rw [HU.out] at e1;exact ⟨j+1,by omega,by go_num,by go_num,by rw [show (j+1)*2=j*2+2 by omega];exact e1.1,HG.out.trans ((grownBy_of_below hb1 _).trans e1.2)⟩
    case measure=>simp [intOf];omega
   ·obtain rfl:j=n:=(by omega);rw [List.drop_eq_nil_of_le (by omega),List.append_nil,List.take_of_length_le (by omega)] at hown;go_wp2;go_ret;exact ⟨rfl,hown,hg⟩
def marks (k n:Nat):List Value:=(List.range n).map fun i=>sv (markL (k+i))
theorem marks_succ (k n:Nat):marks k (n+1)=marks k n ++ [sv (markL (k+n))]:=by simp [marks,List.range_succ]
theorem marks_length (k n:Nat):(marks k n).length=n:=by simp [marks]
theorem marks_set {k j:Nat} {xs:List Value} (h:j < xs.length):(marks k j ++ xs.drop j).set j (sv (markL (k+j)))=marks k (j+1) ++ xs.drop (j+1):=by
 rw [List.set_append_right _ _ (by rw [marks_length];exact nR _),marks_length,Nat.sub_self,marks_succ,List.append_assoc];congr 1;rw [List.drop_eq_getElem_cons h];rfl
theorem markStringS {w:World} {base n k:Nat} {v:Value} {xs:List Value} (h:w.ownsRow base 9 1 v n xs) (hn:n<=100000000) (hk0:0 < k) (hk:k<=100000000) :
  Calls Tryz.prog 25 #[v,.int .i64 (k:Int)] w fun e w'=>e=.returned (.int .i64 ((k+n:Nat):Int))/\w'.ownsRow base 9 1 v n (marks k n)/\w.grownBy w' v.ownBlock:=by
 have hl:xs.length=n:=by simpa using h.1
 rcases Nat.eq_zero_or_pos n with h0 | hp
 ·subst h0;have h':=Ld h;rcases h.2 with ⟨rfl,_⟩ | ⟨g,cap,cur,rfl,_⟩
  all_goals
   clear h hl hn;go_enter Tryz.func25,Tryz.ntmps25;go_wp2;refine wp_loop_rounds 1 ?_;rw [rounds_succ];go_wp2;go_ret;refine ⟨by simp,?_,World.grownBy.refl _ _⟩;have e:xs=marks k 0:=(by have:=h'.out.1;simpa [marks] using this);rw [← e];exact h'.out
 ·obtain ⟨g,c,rfl,_,_⟩:=h.form hp;go_enter Tryz.func25,Tryz.ntmps25;go_wp2;go_loopw [1,5] (fun kk i wr=>∃ j:Nat,j<=n/\i=.int .i64 j/\kk=.int .i64 ((k:Int)+(j:Int))/\wr.ownsRow base 9 1 (.slice (some ⟨g,0,none⟩) n c) n (marks k j ++ xs.drop j)/\w.grownBy wr (some g)) (fun _ i _=>n - (intOf i).toNat)
  case atStart=>exact ⟨0,Nat.zero_le _,rfl,by go_num,h,World.grownBy.refl _ _⟩
  case round =>
   obtain ⟨j,hj,rfl,rfl,hown,hg⟩:=hrel;clear h;by_cases hlt:j < n
   ·have f1:=Ld fun W=>markText (k+j) W (by omega) (by omega);simp only [Int.natCast_add] at f1;go_wp2_with fail;(with_reducible refine mo (f1.out _) fun w1 hb1=>?_);have hown1:=own_below hown hb1;have hlen:j < (marks k j ++ xs.drop j).length:=(by simp [marks_length];omega);have cc:=hown1.cellAt j (by omega);rw [List.getElem?_eq_getElem hlen] at cc;have cf:=hown1.frozenAt j;generalize (marks k j ++ xs.drop j)[j]=old at cc;have HS:=Ld (hown1.stored j (sv (markL (k+j))));have HG:=Ld hg;clear hown hown1 hlen hg;go_wp2;go_roundw
    case rel =>
     have e1:=HS.out;rw [marks_set (by omega)] at e1;exact ⟨j+1,by omega,by go_num,by go_num,e1.1,HG.out.trans ((grownBy_of_below hb1 _).trans e1.2)⟩
    case measure=>simp [intOf];omega
   ·obtain rfl:j=n:=(by omega);go_wp2;go_ret;rw [List.drop_eq_nil_of_le (by omega),List.append_nil] at hown;exact ⟨by go_num,hown,hg⟩
theorem heldStringS {w:World} {base n k:Nat} {v:Value} (h:w.ownsRow base 9 1 v n (marks k n)) (hn:n<=100000000) (hk0:0 < k) (hk:k<=100000000) :
  Rt 26 #[v,.int .i64 (k:Int)] w (.int .i64 ((k+n:Nat):Int)):=by
 rcases Nat.eq_zero_or_pos n with h0 | hp
 ·subst h0;rcases h.2 with ⟨rfl,_⟩ | ⟨g,cap,cur,rfl,_⟩
  all_goals
   clear h hn;go_enter Tryz.func26,Tryz.ntmps26;go_wp2;refine wp_loop_rounds 1 ?_;rw [rounds_succ];go_wp2;go_ret;exact ⟨by simp,bR _ _⟩
 ·obtain ⟨g,c,rfl,_,hgl⟩:=h.form hp;go_enter Tryz.func26,Tryz.ntmps26;go_wp2;go_loopw [1,5] (fun kk i wr=>∃ j:Nat,j<=n/\i=.int .i64 j/\kk=.int .i64 ((k:Int)+(j:Int))/\Below w.heap.size w wr) (fun _ i _=>n - (intOf i).toNat)
  case atStart=>exact ⟨0,Nat.zero_le _,rfl,by go_num,bR _ _⟩
  case round =>
   obtain ⟨j,hj,rfl,rfl,hbel⟩:=hrel;by_cases hlt:j < n
   ·have f1:=Ld fun W=>markText (k+j) W (by omega) (by omega);simp only [Int.natCast_add] at f1;have cc:=h.cellAt j (by omega);have ex:(marks k n)[j]?=some (.string ⟨(markL (k+j)).toArray⟩):=(by simp [marks,hlt,sv]);rw [ex] at cc;have cr:wr.cell? ⟨g,j,none⟩=some (.string ⟨(markL (k+j)).toArray⟩):=(hbel.cell (p:=⟨g,j,none⟩) hgl).trans cc;have hz:=hbel.size;have q1:=zn j;have q2:(j:Int) < (n:Int):=(by omega);clear ex cc h;go_wp2
    go_region_law (first
     | (go_simp;go_at_call 42;(with_reducible refine mo (f1.out _) fun w1 hb1=>?_);have cr1:w1.cell? ⟨g,j,none⟩=some (.string ⟨(markL (k+j)).toArray⟩):=(hb1.cell (p:=⟨g,j,none⟩) (by show g < _;simp;omega)).trans cr))
    all_goals
     go_wp2;go_roundw
     case rel=>exact ⟨j+1,by omega,by go_num,by go_num,hbel.drew.trans (hb1.mono (by simp;omega))⟩
     case measure=>simp [intOf];omega
   ·obtain rfl:j=n:=(by omega);go_wp2;go_ret;exact ⟨by go_num,hbel⟩
theorem markOne {w:World} {base n:Nat} {v:Value} {xs:List Value} (h:w.ownsRow base 9 1 v n xs) (hn:n<=100000000) :
  Calls Tryz.prog 25 #[v,.int .i64 1] w fun e w'=>e=.returned (.int .i64 ((n:Int)+1))/\w'.ownsRow base 9 1 v n (marks 1 n)/\w.grownBy w' v.ownBlock:=by
 have:=markStringS (k:=1) h hn (by decide) (by decide);rw [show ((1+n:Nat):Int)=(n:Int)+1 by omega] at this;exact this
theorem heldOne {w:World} {base n:Nat} {v:Value} (h:w.ownsRow base 9 1 v n (marks 1 n)) (hn:n<=100000000) :
  Rt 26 #[v,.int .i64 1] w (.int .i64 ((n:Int)+1)):=by
 have:=heldStringS (k:=1) h hn (by decide) (by decide);rw [show ((1+n:Nat):Int)=(n:Int)+1 by omega] at this;exact this
end Go.Proofs.YtcaahdjhbmmcnaaGreatDoor
