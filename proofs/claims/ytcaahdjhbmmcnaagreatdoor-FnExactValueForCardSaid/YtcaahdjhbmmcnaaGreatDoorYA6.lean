/- ListsP GCt GDecl -/
import Derived.SliceStrings
import Derived.Laws.Cover1
import Derived.Laws.ResultCell
import Derived.Deep.RegionHeld3
import Derived.Test.YtcaahdjhbmmcnaaGreatDoorYBase
set_option maxRecDepth 100000
set_option maxHeartbeats 16000000
set_option linter.unusedSimpArgs false
set_option linter.unusedVariables false
namespace Go.Proofs.YtcaahdjhbmmcnaaGreatDoor
open Go.ChangeShapes Go.WideShapes Go.ChangeAt Go.RowKit
def Came (w:World) (v:Value) (l:List (List UInt8)):Prop :=
 ∃ (a0:Option Addr) (cap b off:Nat),v=.slice a0 l.length cap/\(0 < l.length->a0=some ⟨b,off,none⟩/\b < w.heap.size)/\(∀ j (h:j < l.length),w.cell? ⟨b,off+j,none⟩=some (sv l[j]))/\l.length<=maxLen/\∀ x∈l,x.length<=maxLen
theorem Came.below {w w':World} {v:Value} {l:List (List UInt8)} (h:Came w v l) (hb:Below w.heap.size w w'):Came w' v l:=by
 obtain ⟨a0,cap,b,off,h1,h2,h3,h4,h5⟩:=h;refine ⟨a0,cap,b,off,h1,fun h0=>⟨(h2 h0).1,Nat.lt_of_lt_of_le (h2 h0).2 hb.size⟩,fun j hj=>?_,h4,h5⟩;rw [hb.cell (p:=⟨b,off+j,none⟩) (h2 (by omega)).2];exact h3 j hj
def totL (l:List (List UInt8)):Nat:=(l.map List.length).sum
theorem totL_succ {l:List (List UInt8)} {k:Nat} (h:k < l.length):totL (l.take (k+1))=totL (l.take k)+l[k].length:=by
 rw [List.take_succ_eq_append_getElem h,totL,List.map_append,List.sum_append];simp [totL]
theorem totL_mem {l:List (List UInt8)} {x:List UInt8} (h:x∈l):x.length<=totL l:=by
 induction l with
 | nil=>simp at h
 | cons a r ih =>
  simp only [totL,List.map_cons,List.sum_cons];rcases List.mem_cons.1 h with rfl | h
  ·omega
  ·have:=ih h;simp only [totL] at this;omega
theorem size_sv (x:List UInt8):(⟨x.toArray⟩:ByteArray).size=x.length:=by simp [ByteArray.size]
theorem infoStr':(Tryz.prog.info? 9).map (fun i=>(i.zero,i.size,i.bytes))=some (some (.string ⟨#[]⟩),1,16):=by kernel_rfl
def LRes' (r:List (List UInt8)) (w:World) (e:Ending) (w':World):Prop :=
 ∃ v,e=.returned v/\w'.ownsRow w.heap.size 9 1 v r.length (r.map sv)/\Below w.heap.size w w'
theorem fill_set {a b:List Value} {k:Nat} {u:Value} (hk:k < a.length) (hb:b.length=a.length) (hu:a[k]=u):(a.take k ++ b.drop k).set k u=a.take (k+1) ++ b.drop (k+1):=by
 rw [List.set_append_right _ _ (by simp;omega)];have:(a.take k).length=k:=by simp;omega
 rw [this,Nat.sub_self,List.take_succ_eq_append_getElem hk,List.append_assoc];congr 1;rw [List.drop_eq_getElem_cons (by omega),hu];rfl
theorem szCtor (n t:List UInt8) (left:Nat) (w:World) (hn:n.length<=maxLen) (ht:t.length<=maxLen) (hl:left<=1048576) :
  Rt 97 #[.agg #[.string ⟨n.toArray⟩,.string ⟨t.toArray⟩],.int .i64 (left:Int)] w (.int .i64 (if left < n.length+t.length then -1 else ((left - (n.length+t.length):Nat):Int))):=by
 unfold maxLen at hn ht;have zn:=size_sv n;have zt:=size_sv t;by_cases h1:left < n.length
 ·rw [iP (by omega)];have hd:decide ((left:Int) - (n.length:Int) < 0)=true:=dT (by omega);go_enter Tryz.func97,Tryz.ntmps97;go_wp2;go_ret;exact ⟨rfl,(bR _ _).alloc (nR _) _⟩
 have hd:decide ((left:Int) - (n.length:Int) < 0)=false:=dF (by omega);by_cases h2:left < n.length+t.length
 ·rw [iP h2];have hd2:decide ((left:Int) - (n.length:Int) - (t.length:Int) < 0)=true:=dT (by omega);go_enter Tryz.func97,Tryz.ntmps97;go_wp2;go_ret;exact ⟨rfl,(bR _ _).alloc (nR _) _⟩
 ·rw [iN h2];have hd2:decide ((left:Int) - (n.length:Int) - (t.length:Int) < 0)=false:=dF (by omega);go_enter Tryz.func97,Tryz.ntmps97;go_wp2;go_ret;exact ⟨by go_num,(bR _ _).alloc (nR _) _⟩
theorem eqCtor (n t:List UInt8) (w:World) :
  Rt 117 #[.agg #[.string ⟨n.toArray⟩,.string ⟨t.toArray⟩],.agg #[.string ⟨n.toArray⟩,.string ⟨t.toArray⟩]] w (.bool true):=by
 have hB:∀ o1 o2,Below w.heap.size w ((w.alloc o1).alloc o2):=fun o1 o2=>((bR _ _).alloc (nR _) o1).alloc (by simp) o2;go_enter Tryz.func117,Tryz.ntmps117;go_wp2;go_ret;exact ⟨rfl,hB _ _⟩
theorem toCtor (n t:List UInt8) (w:World) :
  Rt 106 #[.agg #[.string ⟨n.toArray⟩,.string ⟨t.toArray⟩]] w (.agg #[.string ⟨n.toArray⟩,.string ⟨t.toArray⟩]):=by
 have hB:∀ o1 o2 o3,Below w.heap.size w (((w.alloc o1).alloc o2).alloc o3):=fun o1 o2 o3=>(((bR _ _).alloc (nR _) o1).alloc (by simp) o2).alloc (by simp;omega) o3;go_enter Tryz.func106,Tryz.ntmps106;go_wp2;refine bodyPost_ret (v:=.agg #[.string ⟨n.toArray⟩,.string ⟨t.toArray⟩]) (by simp [results,go_sem]) rfl ⟨rfl,hB _ _ _⟩
abbrev Ct:=List UInt8 × List UInt8
def ccells (x:Ct):List Value:=[sv x.1,sv x.2]
def flatC (l:List Ct):List Value:=l.flatMap ccells
theorem flatC_cons (x:Ct) (l:List Ct):flatC (x :: l)=sv x.1 :: sv x.2 :: flatC l:=rfl
theorem flatC_length (l:List Ct):(flatC l).length=l.length*2:=by
 induction l with
 | nil=>rfl
 | cons x l ih=>rw [flatC_cons];simp only [lC,ih];omega
theorem flatC_at {l:List Ct}:∀ {j:Nat} (h:j < l.length),(flatC l)[j*2]?=some (sv l[j].1)/\(flatC l)[j*2+1]?=some (sv l[j].2):=by
 induction l with
 | nil=>intro j h;simp at h
 | cons x l ih =>
  intro j h;cases j with
  | zero=>exact ⟨rfl,rfl⟩
  | succ j =>
   have:=ih (j:=j) (by simpa using h);rw [flatC_cons,show (j+1)*2=j*2+1+1 by omega];simpa using this
theorem infoCt:(Tryz.prog.info? 88).map (fun i=>(i.zero,i.size,i.bytes))=some (some (.agg #[.string ⟨#[]⟩,.string ⟨#[]⟩]),2,32):=by kernel_rfl
theorem eqCtorS {w:World} {b1 b2:Nat} {v1 v2:Value} {l:List Ct} (h1:w.ownsRow b1 88 2 v1 l.length (flatC l)) (h2:w.ownsRow b2 88 2 v2 l.length (flatC l)) (hn:l.length<=100000000) :
  Rt 77 #[v1,v2] w (.bool true):=by
 rcases Nat.eq_zero_or_pos l.length with h0 | hp
 ·obtain rfl:l=[]:=List.length_eq_zero_iff.1 h0;rcases h1.2 with ⟨rfl,_⟩ | ⟨g,cap,cur,rfl,_⟩<;>rcases h2.2 with ⟨rfl,_⟩ | ⟨g2,cap2,cur2,rfl,_⟩
  all_goals
   clear h1 h2 hn h0;go_enter Tryz.func77,Tryz.ntmps77;go_wp2;refine wp_loop_rounds 1 ?_;rw [rounds_succ];go_wp2;go_ret;exact ⟨rfl,bR _ _⟩
 ·obtain ⟨g1,c1,rfl,_,hg1⟩:=h1.form hp;obtain ⟨g2,c2,rfl,_,hg2⟩:=h2.form hp;go_enter Tryz.func77,Tryz.ntmps77;go_wp2;go_loopw [5] (fun i wr=>∃ k:Nat,k<=l.length/\i=.int .i64 k/\Below w.heap.size w wr) (fun i _=>l.length - (intOf i).toNat)
  case atStart=>exact ⟨0,Nat.zero_le _,rfl,bR _ _⟩
  case round =>
   obtain ⟨k,hk,rfl,hbel⟩:=hrel;have hz:=hbel.size;by_cases hlt:k < l.length
   ·obtain ⟨fa,fb⟩:=flatC_at hlt;have x1:=(hbel.cell (p:=⟨g1,k*2,none⟩) hg1).trans ((h1.cellAt (k*2) (by omega)).trans fa);have y1:=(hbel.cell (p:=⟨g1,k*2+1,none⟩) hg1).trans ((h1.cellAt (k*2+1) (by omega)).trans fb);have x2:=(hbel.cell (p:=⟨g2,k*2,none⟩) hg2).trans ((h2.cellAt (k*2) (by omega)).trans fa);have y2:=(hbel.cell (p:=⟨g2,k*2+1,none⟩) hg2).trans ((h2.cellAt (k*2+1) (by omega)).trans fb);clear fa fb h1 h2;generalize l[k]=lk at x1 y1 x2 y2;obtain ⟨kd,nm⟩:=lk;unfold sv at x1 x2 y1 y2;simp only at x1 x2 y1 y2;have f1:=Ld fun W=>eqCtor kd nm W;have q1:=zn k;have q2:(k:Int) < (l.length:Int):=(by omega);go_wp2;go_region_held3 (fun w'=>w'.cell? ⟨g1,k*2,none⟩=some (.string ⟨kd.toArray⟩)/\w'.cell? ⟨g1,k*2+1,none⟩=some (.string ⟨nm.toArray⟩)/\w'.cell? ⟨g2,k*2,none⟩=some (.string ⟨kd.toArray⟩)/\w'.cell? ⟨g2,k*2+1,none⟩=some (.string ⟨nm.toArray⟩)) (first | exact ⟨x1,y1,x2,y2⟩ | exact X3)
     (first | (go_at_call 117;(with_reducible refine mo (f1.out _) fun w1 hb1=>?_);have X3:=And.intro ((hb1.cell (p:=⟨g1,k*2,none⟩) (by show g1 < _;simp;omega)).trans x1) (And.intro ((hb1.cell (p:=⟨g1,k*2+1,none⟩) (by show g1 < _;simp;omega)).trans y1) (And.intro ((hb1.cell (p:=⟨g2,k*2,none⟩) (by show g2 < _;simp;omega)).trans x2) ((hb1.cell (p:=⟨g2,k*2+1,none⟩) (by show g2 < _;simp;omega)).trans y2)))))
    go_wp2;go_roundw
    case rel=>exact ⟨k+1,by omega,by go_num,hbel.drew.trans (hb1.mono (by simp;omega))⟩
    case measure=>simp [intOf];omega
   ·go_wp2;go_ret;exact ⟨rfl,hbel⟩
def CameC (w:World) (v:Value) (l:List Ct):Prop :=
 ∃ (a0:Option Addr) (cap b off:Nat),v=.slice a0 l.length cap/\(0 < l.length->a0=some ⟨b,off,none⟩/\b < w.heap.size)/\(∀ j (h:j < l.length),w.cell? ⟨b,off+j*2,none⟩=some (sv l[j].1)/\w.cell? ⟨b,off+j*2+1,none⟩=some (sv l[j].2))/\l.length<=maxLen/\∀ x∈l,x.1.length<=maxLen/\x.2.length<=maxLen
theorem CameC.below {w w':World} {v:Value} {l:List Ct} (h:CameC w v l) (hb:Below w.heap.size w w'):CameC w' v l:=by
 obtain ⟨a0,cap,b,off,h1,h2,h3,h4,h5⟩:=h;refine ⟨a0,cap,b,off,h1,fun h0=>⟨(h2 h0).1,Nat.lt_of_lt_of_le (h2 h0).2 hb.size⟩,fun j hj=>?_,h4,h5⟩;have hlt:=(h2 (by omega)).2;rw [hb.cell (p:=⟨b,off+j*2,none⟩) hlt,hb.cell (p:=⟨b,off+j*2+1,none⟩) hlt];exact h3 j hj
def totC (l:List Ct):Nat:=(l.map fun x=>x.1.length+x.2.length).sum
theorem totC_succ {l:List Ct} {k:Nat} (h:k < l.length):totC (l.take (k+1))=totC (l.take k)+(l[k].1.length+l[k].2.length):=by
 rw [List.take_succ_eq_append_getElem h,totC,List.map_append,List.sum_append];simp [totC]
theorem totC_mem {l:List Ct} {x:Ct} (h:x∈l):x.1.length+x.2.length<=totC l:=by
 induction l with
 | nil=>simp at h
 | cons a r ih =>
  simp only [totC,List.map_cons,List.sum_cons];rcases List.mem_cons.1 h with rfl | h
  ·omega
  ·have:=ih h;simp only [totC] at this;omega
def SzResC (l:List Ct) (left:Nat) (w:World) (e:Ending) (w':World):Prop :=
 Below w.heap.size w w'/\(e=.returned (.int .i64 (-1))\/∃ r:Nat,e=.returned (.int .i64 (r:Int))/\r+l.length+totC l=left)
theorem szCtorS {w:World} {v:Value} {l:List Ct} (h:CameC w v l) (left:Nat) (hle:left<=1048576) :
  Calls Tryz.prog 65 #[v,.int .i64 (left:Int)] w (SzResC l left w):=by
 obtain ⟨a0,cap,b,off,rfl,h2,h3,h4,h5⟩:=h;unfold maxLen at h4;by_cases hn:left < l.length
 ·have hd:decide ((left:Int) - (l.length:Int) < 0)=true:=(by simp;omega);clear h2 h3;go_enter Tryz.func65,Tryz.ntmps65;go_wp2;go_ret;exact ⟨bR _ _,.inl rfl⟩
 ·have hd:decide ((left:Int) - (l.length:Int) < 0)=false:=(by simp;omega);go_enter Tryz.func65,Tryz.ntmps65;go_wp2;go_loopw [1,5] (fun lv i wr=>∃ k r:Nat,k<=l.length/\i=.int .i64 k/\lv=.int .i64 (r:Int)/\Below w.heap.size w wr/\Hid (r+l.length+totC (l.take k)=left)) (fun _ i _=>l.length - (intOf i).toNat)
  case atStart=>exact ⟨0,left - l.length,Nat.zero_le _,rfl,by go_num,bR _ _,by simp only [List.take_zero,Hid,totC];simp;omega⟩
  case round =>
   obtain ⟨k,r,hk,rfl,rfl,hbel,HT⟩:=hrel;have hr:r<=1048576:=(by have:=HT.out;omega);have hz:=hbel.size;by_cases hlt:k < l.length
   ·obtain ⟨rfl,hb⟩:=h2 (by omega);obtain ⟨ca,cb⟩:=h3 k hlt;have ca':=(hbel.cell (p:=⟨b,off+k*2,none⟩) hb).trans ca;have cb':=(hbel.cell (p:=⟨b,off+k*2+1,none⟩) hb).trans cb;have hx:=h5 l[k] (List.getElem_mem hlt);have HT2:=Ld (totC_succ hlt);clear ca cb h2 h3;generalize l[k]=lk at ca' cb' hx HT2;obtain ⟨kd,nm⟩:=lk;unfold sv at ca' cb';simp only at ca' cb' hx HT2;have f1:=Ld fun W=>szCtor kd nm r W hx.1 hx.2 hr;have q1:=zn k;have q2:(k:Int) < (l.length:Int):=(by omega);by_cases hneg:r < kd.length+nm.length
    ·rw [iP hneg] at f1;go_wp2_with fail;(with_reducible refine mo (f1.out _) fun w1 hb1=>?_);go_wp2;go_ret;exact ⟨hbel.trans (hb1.mono hz),.inl rfl⟩
    ·rw [iN hneg] at f1;have hd2:decide ((((r - (kd.length+nm.length):Nat)):Int) < 0)=false:=dF (by omega);obtain ⟨r',hr'⟩:∃ r',r - (kd.length+nm.length)=r':=⟨_,rfl⟩;rw [hr'] at f1 hd2;have hrr:r'+(kd.length+nm.length)=r:=(by omega);clear hr';go_wp2_with fail;(with_reducible refine mo (f1.out _) fun w1 hb1=>?_);go_wp2;go_roundw
     case rel=>exact ⟨k+1,r',by omega,by go_num,rfl,hbel.trans (hb1.mono hz),by have:=HT.out;have:=HT2.out;simp only [Hid];omega⟩
     case measure=>simp [intOf];omega
   ·obtain rfl:k=l.length:=(by omega);have HT2:=HT.out;rw [List.take_length] at HT2;have HT3:=Ld HT2;clear HT HT2 h2 h3;go_wp2;go_ret;exact ⟨hbel,.inr ⟨r,rfl,HT3.out⟩⟩
def LResC (r:List Ct) (w:World) (e:Ending) (w':World):Prop :=
 ∃ v,e=.returned v/\w'.ownsRow w.heap.size 88 2 v r.length (flatC r)/\Below w.heap.size w w'
theorem fillC2 {a b:List Value} {k:Nat} {u1 u2:Value} (hk:k+1 < a.length) (hb:b.length=a.length) (h1:a[k]?=some u1) (h2:a[k+1]?=some u2) :
  ((a.take k ++ b.drop k).set k u1).set (k+1) u2=a.take (k+2) ++ b.drop (k+2):=by
 apply List.ext_getElem?;intro i;have hl:(a.take k).length=k:=by simp;omega
 have hl2:(a.take (k+2)).length=k+2:=by simp;omega
 simp only [List.getElem?_set,List.getElem?_append,List.length_set,lA,hl,hl2,List.length_drop,List.getElem?_take,List.getElem?_drop];by_cases e1:k+1=i
 ·subst e1;simp [show k+1 < k+2 by omega,h2,show k+1 < k+(b.length - k) by omega]
 ·by_cases e2:k=i
  ·subst e2;simp [h1,show k < k+(b.length - k) by omega]
  ·by_cases e3:i < k
   ·simp [e1,e2,e3,show i < k+2 by omega]
   ·simp [e1,e2,e3,show ¬ i < k+2 by omega,show k+(i - k)=i by omega,show k+2+(i - (k+2))=i by omega]
theorem toCtorS {w:World} {v:Value} {l:List Ct} (h:CameC w v l) (hn:l.length<=1048576) :
  Calls Tryz.prog 71 #[v] w (LResC l w):=by
 obtain ⟨a0,cap,b,off,rfl,h2,h3,h4,h5⟩:=h;clear h4 h5;obtain ⟨i0,hi,hz0,hz1,hz2⟩:=info_parts infoCt;have hfl:=flatC_length l;go_enter Tryz.func71,Tryz.ntmps71;go_wp2_with (at_make;refine wpList_make_full _ rfl _ _ 50 rfl w.heap.size 88 i0 (.agg #[.string ⟨#[]⟩,.string ⟨#[]⟩]) 2 Tryz.underlying50 hi hz0 hz1 _ _ _ _ l.length rfl rfl rfl rfl (by rw [hz2];omega) (by unfold maxLen;omega) (nR _) ?_;intro w0 hown0 hgrow0);have hbel0:Below w.heap.size w w0:=(bR _ _).grown hgrow0 (nR _) (by simp);have hxl:=hown0.1;generalize (madeCells (Value.agg #[.string ⟨#[]⟩,.string ⟨#[]⟩]).cells (l.length*2)).toList=xs at hown0 hxl;go_loopw [4] (fun i wr=>∃ k:Nat,k<=l.length/\i=.int .i64 k/\wr.ownsRow w.heap.size 88 2 (.slice (some ⟨w.heap.size,0,none⟩) l.length l.length) l.length ((flatC l).take (k*2) ++ xs.drop (k*2))/\Below w.heap.size w wr) (fun i _=>l.length - (intOf i).toNat)
 case atStart=>exact ⟨0,Nat.zero_le _,rfl,by simpa using hown0,hbel0⟩
 case round =>
  obtain ⟨k,hk,rfl,hown,hbel⟩:=hrel;clear hown0 hgrow0 hbel0;have hz:=hbel.size;by_cases hlt:k < l.length
  ·obtain ⟨rfl,hb⟩:=h2 (by omega);obtain ⟨ca,cb⟩:=h3 k hlt;have ca':=(hbel.cell (p:=⟨b,off+k*2,none⟩) hb).trans ca;have cb':=(hbel.cell (p:=⟨b,off+k*2+1,none⟩) hb).trans cb;obtain ⟨fa,fb⟩:=flatC_at hlt;have HU:=Ld (fillC2 (a:=flatC l) (b:=xs) (k:=k*2) (by omega) (by omega) fa fb);clear ca cb h2 h3 fa fb;generalize l[k]=lk at ca' cb' HU;obtain ⟨kd,nm⟩:=lk;unfold sv at ca' cb' HU;simp only at ca' cb' HU;have f1:=Ld fun W=>toCtor kd nm W;have q1:=zn k;have q2:(k:Int) < (l.length:Int):=(by omega);go_wp2_with fail;(with_reducible refine mo (f1.out _) fun w1 hb1=>?_);have hown1:w1.ownsRow w.heap.size 88 2 (.slice (some ⟨w.heap.size,0,none⟩) l.length l.length) l.length ((flatC l).take (k*2) ++ xs.drop (k*2)):=own_below hown hb1;have B1:=hbel.trans (hb1.mono hz);have hlen:((flatC l).take (k*2) ++ xs.drop (k*2)).length=l.length*2:=(by simp;omega);have co:=hown1.cellAt (k*2) (by omega);rw [List.getElem?_eq_getElem (by omega)] at co;have co2:=hown1.cellAt (k*2+1) (by omega);rw [List.getElem?_eq_getElem (by omega)] at co2;have cf:=hown1.frozenAt (k*2);have cf2:=hown1.frozenAt (k*2+1);generalize ((flatC l).take (k*2) ++ xs.drop (k*2))[k*2]=old1 at co;generalize ((flatC l).take (k*2) ++ xs.drop (k*2))[k*2+1]=old2 at co2;have HS:=Ld (((hown1.stored (k*2) (.string ⟨kd.toArray⟩)).1.stored (k*2+1) (.string ⟨nm.toArray⟩)).1);clear hown hown1 hlen;go_wp2;go_roundw
   case rel =>
    have e1:=HS.out;rw [HU.out] at e1;exact ⟨k+1,by omega,by go_num,by rw [show (k+1)*2=k*2+2 by omega];exact e1,(B1.setCell (p:=⟨w.heap.size,k*2,none⟩) (nR _) _).setCell (p:=⟨w.heap.size,k*2+1,none⟩) (nR _) _⟩
   case measure=>simp [intOf];omega
  ·obtain rfl:k=l.length:=(by omega);rw [List.drop_eq_nil_of_le (by omega),List.append_nil,List.take_of_length_le (by omega)] at hown;have HO:=Ld hown;clear hown h2 h3;go_wp2;go_ret;exact ⟨_,rfl,HO.out,hbel⟩
structure Dc where
 kind:Int
 name:List UInt8
 params:Int
 flags:Int
 type:List UInt8
 value:List UInt8
 ctors:List Ct
def Dc.val (d:Dc) (u:Value):Value:=.agg #[.int .i64 d.kind,.string ⟨d.name.toArray⟩,.int .i64 d.params,.int .i64 d.flags,.string ⟨d.type.toArray⟩,.string ⟨d.value.toArray⟩,u]
theorem dval(kd:Int)(nm:List UInt8)(ps fl:Int)(ty vl:List UInt8)(cs:List Ct)(u:Value):Dc.val ⟨kd,nm,ps,fl,ty,vl,cs⟩ u=.agg #[.int .i64 kd,.string ⟨nm.toArray⟩,.int .i64 ps,.int .i64 fl,.string ⟨ty.toArray⟩,.string ⟨vl.toArray⟩,u]:=rfl
structure Dc.Fits (d:Dc):Prop where
 name:d.name.length<=maxLen
 type:d.type.length<=maxLen
 value:d.value.length<=maxLen
def Dc.size (d:Dc):Nat:=d.name.length+d.type.length+d.value.length+d.ctors.length+totC d.ctors
theorem alloc_any (w:World) (o:Obj):Below w.heap.size w (w.alloc o):=(bR _ _).alloc (nR _) _
def SzResD (d:Dc) (left:Nat) (w:World) (e:Ending) (w':World):Prop :=
 Below w.heap.size w w'/\(e=.returned (.int .i64 (-1))\/∃ r:Nat,e=.returned (.int .i64 (r:Int))/\r+d.size=left)
theorem szDecl {w:World} {d:Dc} {u:Value} (h:CameC w u d.ctors) (hf:d.Fits) (left:Nat) (hle:left<=1048576) :
  Calls Tryz.prog 45 #[d.val u,.int .i64 (left:Int)] w (SzResD d left w):=by
 obtain ⟨kd,nm,ps,fl,ty,vl,cs⟩:=d;obtain ⟨h1,h2,h3⟩:=hf;simp only at h h1 h2 h3;unfold maxLen at h1 h2 h3;have zn:=size_sv nm;have zt:=size_sv ty;have zv:=size_sv vl;obtain ⟨a0,cap,b,off,rfl,hx⟩:=id h;have hsl:=dval kd nm ps fl ty vl cs (.slice a0 cs.length cap);rw [hsl];have HZ:Hid (Dc.size ⟨kd,nm,ps,fl,ty,vl,cs⟩=nm.length+ty.length+vl.length+cs.length+totC cs):=rfl;have HB0:=Ld (alloc_any w (dC kd nm ps fl ty vl (.slice a0 cs.length cap) 44));have hC:=h.below HB0.out;clear h hx hsl;by_cases k1:left < nm.length
 ·have d1:decide ((left:Int) - (nm.length:Int) < 0)=true:=dT (by omega);clear hC;go_enter Tryz.func45,Tryz.ntmps45;go_wp2;go_ret;exact ⟨HB0.out,.inl rfl⟩
 have d1:decide ((left:Int) - (nm.length:Int) < 0)=false:=dF (by omega);by_cases k2:left < nm.length+ty.length
 ·have d2:decide ((left:Int) - (nm.length:Int) - (ty.length:Int) < 0)=true:=dT (by omega);clear hC;go_enter Tryz.func45,Tryz.ntmps45;go_wp2;go_ret;exact ⟨HB0.out,.inl rfl⟩
 have d2:decide ((left:Int) - (nm.length:Int) - (ty.length:Int) < 0)=false:=dF (by omega);by_cases k3:left < nm.length+ty.length+vl.length
 ·have d3:decide ((left:Int) - (nm.length:Int) - (ty.length:Int) - (vl.length:Int) < 0)=true:=dT (by omega);clear hC;go_enter Tryz.func45,Tryz.ntmps45;go_wp2;go_ret;exact ⟨HB0.out,.inl rfl⟩
 have d3:decide ((left:Int) - (nm.length:Int) - (ty.length:Int) - (vl.length:Int) < 0)=false:=dF (by omega);obtain ⟨r0,hr0⟩:∃ r0,left - (nm.length+ty.length+vl.length)=r0:=⟨_,rfl⟩;have e0:(left:Int) - (nm.length:Int) - (ty.length:Int) - (vl.length:Int)=(r0:Int):=by omega
 have HR:Hid (r0+nm.length+ty.length+vl.length=left):=by rw [Hid];omega
 have f1:=Ld (szCtorS hC r0 (by omega));unfold SzResC at f1;clear hC hr0;go_enter Tryz.func45,Tryz.ntmps45;go_wp2_with fail;(with_reducible refine f1.out.mono ?_);rintro e w1 ⟨hb1,(rfl | ⟨r,rfl,hr⟩)⟩
 ·have HB1:=bt HB0.out hb1;clear hb1 f1;go_wp2;go_ret;exact ⟨HB1.out,.inl rfl⟩
 ·have HB1:=bt HB0.out hb1;have d4:decide ((r:Int) < 0)=false:=dF (by omega);have HR2:Hid (r+(nm.length+ty.length+vl.length+cs.length+totC cs)=left):=(by have:=HR.out;rw [Hid];omega);clear hb1 hr f1;go_wp2;go_ret;exact ⟨HB1.out,.inr ⟨r,rfl,by rw [HZ.out];exact HR2.out⟩⟩
theorem own_setD {w:World} {b n z:Nat} {e:TypeId} {v:Value} {xs:List Value} (h:w.ownsRow b e z v n xs) (a:Nat) (i:Nat) (u:Value) (ha:a < b):(w.setCell ⟨a,i,none⟩ u).ownsRow b e z v n xs:=by
 refine h.kept (row:=some a) ⟨rfl,rfl,rfl,by simp [World.setCell],fun k hk hne=>Below.heap_setCell _ _ _ _ (fun e=>hne (by rw [e]))⟩ ?_;rcases hv:v.ownBlock with _ | k
 ·exact .inl rfl
 ·exact .inr fun e'=>by
   have:=(h.lt k hv).1;cases e';omega
theorem own_lower {W:World} {b b' z n:Nat} {e:TypeId} {v:Value} {xs:List Value} (h:W.ownsRow b e z v n xs) (hb:b'<=b):W.ownsRow b' e z v n xs:=by
 refine ⟨h.1,?_⟩;rcases h.2 with h1 | ⟨g,cap,cur,h1,h2,h3⟩
 ·exact .inl h1
 ·exact .inr ⟨g,cap,cur,h1,Nat.le_trans hb h2,h3⟩
def boxD (w:World) (kd ps fl:Int) (nm ty vl:List UInt8) (sl:Value):World:=(((w.alloc (dC kd nm ps fl ty vl sl 44)).alloc (.cells #[.int .i64 0,.string ⟨#[]⟩,.int .i64 0,.int .i64 0,.string ⟨#[]⟩,.string ⟨#[]⟩,.slice none 0 0] 52)).alloc (dC kd nm ps fl ty vl (.slice none 0 0) 52))
theorem boxD_size (w:World) (kd ps fl:Int) (nm ty vl:List UInt8) (sl:Value):(boxD w kd ps fl nm ty vl sl).heap.size=w.heap.size+3:=by simp [boxD]
theorem boxD_below (w:World) (kd ps fl:Int) (nm ty vl:List UInt8) (sl:Value):Below w.heap.size w (boxD w kd ps fl nm ty vl sl):=by
 unfold boxD;exact (((bR _ _).alloc (nR _) _).alloc (by simp) _).alloc (by simp;omega) _
theorem boxD_res {w w1:World} {kd ps fl:Int} {nm ty vl:List UInt8} {sl:Value} (hb:Below (boxD w kd ps fl nm ty vl sl).heap.size (boxD w kd ps fl nm ty vl sl) w1):w1.cell? ⟨w.heap.size+1,0,none⟩=some (.int .i64 0)/\w1.cell? ⟨w.heap.size+1,1,none⟩=some (.string ⟨#[]⟩)/\w1.cell? ⟨w.heap.size+1,2,none⟩=some (.int .i64 0)/\w1.cell? ⟨w.heap.size+1,3,none⟩=some (.int .i64 0)/\w1.cell? ⟨w.heap.size+1,4,none⟩=some (.string ⟨#[]⟩)/\w1.cell? ⟨w.heap.size+1,5,none⟩=some (.string ⟨#[]⟩)/\w1.cell? ⟨w.heap.size+1,6,none⟩=some (.slice none 0 0):=by
 have h:=fun i=>(hb.cell (p:=⟨w.heap.size+1,i,none⟩) (by rw [boxD_size];show w.heap.size+1 < _;omega));unfold boxD at h;refine ⟨(h 0).trans ?_,(h 1).trans ?_,(h 2).trans ?_,(h 3).trans ?_,(h 4).trans ?_,(h 5).trans ?_,(h 6).trans ?_⟩<;>simp [go_sem]
theorem boxD_resF {w w1:World} {kd ps fl:Int} {nm ty vl:List UInt8} {sl:Value} (hb:Below (boxD w kd ps fl nm ty vl sl).heap.size (boxD w kd ps fl nm ty vl sl) w1):w1.frozen? ⟨w.heap.size+1,0,none⟩=false/\w1.frozen? ⟨w.heap.size+1,1,none⟩=false/\w1.frozen? ⟨w.heap.size+1,2,none⟩=false/\w1.frozen? ⟨w.heap.size+1,3,none⟩=false/\w1.frozen? ⟨w.heap.size+1,4,none⟩=false/\w1.frozen? ⟨w.heap.size+1,5,none⟩=false/\w1.frozen? ⟨w.heap.size+1,6,none⟩=false:=by
 have h:=fun i=>(hb.frozen (p:=⟨w.heap.size+1,i,none⟩) (by rw [boxD_size];show w.heap.size+1 < _;omega));unfold boxD at h;refine ⟨(h 0).trans ?_,(h 1).trans ?_,(h 2).trans ?_,(h 3).trans ?_,(h 4).trans ?_,(h 5).trans ?_,(h 6).trans ?_⟩<;>first | simp | simp [go_sem] | simp [World.frozen?,World.alloc]
theorem boxD_out {w w1:World} {kd ps fl:Int} {nm ty vl:List UInt8} {sl:Value} (hb:Below (boxD w kd ps fl nm ty vl sl).heap.size (boxD w kd ps fl nm ty vl sl) w1):w1.cell? ⟨w.heap.size+1+1,0,none⟩=some (.int .i64 kd)/\w1.cell? ⟨w.heap.size+1+1,1,none⟩=some (.string ⟨nm.toArray⟩)/\w1.cell? ⟨w.heap.size+1+1,2,none⟩=some (.int .i64 ps)/\w1.cell? ⟨w.heap.size+1+1,3,none⟩=some (.int .i64 fl)/\w1.cell? ⟨w.heap.size+1+1,4,none⟩=some (.string ⟨ty.toArray⟩)/\w1.cell? ⟨w.heap.size+1+1,5,none⟩=some (.string ⟨vl.toArray⟩)/\w1.cell? ⟨w.heap.size+1+1,6,none⟩=some (.slice none 0 0):=by
 have h:=fun i=>(hb.cell (p:=⟨w.heap.size+1+1,i,none⟩) (by rw [boxD_size];show w.heap.size+1+1 < _;omega));unfold boxD at h;refine ⟨(h 0).trans ?_,(h 1).trans ?_,(h 2).trans ?_,(h 3).trans ?_,(h 4).trans ?_,(h 5).trans ?_,(h 6).trans ?_⟩<;>simp [go_sem]
theorem boxD_outF {w w1:World} {kd ps fl:Int} {nm ty vl:List UInt8} {sl:Value} (hb:Below (boxD w kd ps fl nm ty vl sl).heap.size (boxD w kd ps fl nm ty vl sl) w1):w1.frozen? ⟨w.heap.size+1+1,0,none⟩=false/\w1.frozen? ⟨w.heap.size+1+1,1,none⟩=false/\w1.frozen? ⟨w.heap.size+1+1,2,none⟩=false/\w1.frozen? ⟨w.heap.size+1+1,3,none⟩=false/\w1.frozen? ⟨w.heap.size+1+1,4,none⟩=false/\w1.frozen? ⟨w.heap.size+1+1,5,none⟩=false/\w1.frozen? ⟨w.heap.size+1+1,6,none⟩=false:=by
 have h:=fun i=>(hb.frozen (p:=⟨w.heap.size+1+1,i,none⟩) (by rw [boxD_size];show w.heap.size+1+1 < _;omega));unfold boxD at h;refine ⟨(h 0).trans ?_,(h 1).trans ?_,(h 2).trans ?_,(h 3).trans ?_,(h 4).trans ?_,(h 5).trans ?_,(h 6).trans ?_⟩<;>first | simp | simp [go_sem] | simp [World.frozen?,World.alloc]
def DRes (d:Dc) (w:World) (e:Ending) (w':World):Prop :=
 ∃ u,e=.returned (d.val u)/\w'.ownsRow w.heap.size 88 2 u d.ctors.length (flatC d.ctors)/\Below w.heap.size w w'
theorem toDecl {w:World} {d:Dc} {u:Value} (h:CameC w u d.ctors) (hn:d.ctors.length<=1048576) :
  Calls Tryz.prog 49 #[d.val u] w (DRes d w):=by
 obtain ⟨kd,nm,ps,fl,ty,vl,cs⟩:=d;obtain ⟨a0,cap,b,off,rfl,hx⟩:=id h;have hsl:=dval kd nm ps fl ty vl cs (.slice a0 cs.length cap);rw [hsl];have HB0:=Ld (boxD_below w kd ps fl nm ty vl (.slice a0 cs.length cap));have f1:=Ld (toCtorS (h.below HB0.out) hn);have HBX:=Ld fun w1 (hb:Below _ _ w1)=>And.intro (boxD_res (w:=w) (kd:=kd) (ps:=ps) (fl:=fl) (nm:=nm) (ty:=ty) (vl:=vl) (sl:=.slice a0 cs.length cap) hb) (And.intro (boxD_resF (w:=w) (kd:=kd) (ps:=ps) (fl:=fl) (nm:=nm) (ty:=ty) (vl:=vl) (sl:=.slice a0 cs.length cap) hb) (And.intro (boxD_out (w:=w) (kd:=kd) (ps:=ps) (fl:=fl) (nm:=nm) (ty:=ty) (vl:=vl) (sl:=.slice a0 cs.length cap) hb) (boxD_outF (w:=w) (kd:=kd) (ps:=ps) (fl:=fl) (nm:=nm) (ty:=ty) (vl:=vl) (sl:=.slice a0 cs.length cap) hb)));have HZ:=Ld (boxD_size w kd ps fl nm ty vl (.slice a0 cs.length cap));unfold LResC at f1;rw [HZ.out] at f1;unfold boxD at f1;clear h hx hsl hn;go_enter Tryz.func49,Tryz.ntmps49;go_wp2_with fail;(with_reducible refine f1.out.mono ?_);rintro e w1 ⟨u,rfl,hu,hb⟩;have hb':=hb;rw [← HZ.out] at hb';obtain ⟨⟨r0,r1,r2,r3,r4,r5,r6⟩,⟨z0,z1,z2,z3,z4,z5,z6⟩,⟨n0,n1,n2,n3,n4,n5,n6⟩,⟨y0,y1,y2,y3,y4,y5,y6⟩⟩:=HBX.out w1 hb';have HU:=Ld hu;have HB:=Ld (HB0.out.trans (hb'.mono HB0.out.size));obtain ⟨ua,uc,rfl⟩:∃ a c,u=.slice a cs.length c:=by
  rcases hu.2 with ⟨rfl,e⟩ | ⟨g,cap',cur,rfl,_⟩
  ·exact ⟨_,_,by rw [← e]⟩
  ·exact ⟨_,_,rfl⟩
 clear hu hb hb' f1 HBX;have HR:=Ld (own_setD (own_setD (own_setD (own_setD (own_setD (own_setD (own_setD (own_setD HU.out (w.heap.size+1+1) 6 (.slice ua cs.length uc) (by omega)) (w.heap.size+1) 0 (.int .i64 kd) (by omega)) (w.heap.size+1) 1 (.string ⟨nm.toArray⟩) (by omega)) (w.heap.size+1) 2 (.int .i64 ps) (by omega)) (w.heap.size+1) 3 (.int .i64 fl) (by omega)) (w.heap.size+1) 4 (.string ⟨ty.toArray⟩) (by omega)) (w.heap.size+1) 5 (.string ⟨vl.toArray⟩) (by omega)) (w.heap.size+1) 6 (.slice ua cs.length uc) (by omega));have HBF:=Ld ((((((((HB.out.setCell (p:=⟨w.heap.size+1+1,6,none⟩) (by show w.heap.size<=w.heap.size+1+1;omega) (.slice ua cs.length uc)).setCell (p:=⟨w.heap.size+1,0,none⟩) (by show w.heap.size<=w.heap.size+1;omega) (.int .i64 kd)).setCell (p:=⟨w.heap.size+1,1,none⟩) (by show w.heap.size<=w.heap.size+1;omega) (.string ⟨nm.toArray⟩)).setCell (p:=⟨w.heap.size+1,2,none⟩) (by show w.heap.size<=w.heap.size+1;omega) (.int .i64 ps)).setCell (p:=⟨w.heap.size+1,3,none⟩) (by show w.heap.size<=w.heap.size+1;omega) (.int .i64 fl)).setCell (p:=⟨w.heap.size+1,4,none⟩) (by show w.heap.size<=w.heap.size+1;omega) (.string ⟨ty.toArray⟩)).setCell (p:=⟨w.heap.size+1,5,none⟩) (by show w.heap.size<=w.heap.size+1;omega) (.string ⟨vl.toArray⟩)).setCell (p:=⟨w.heap.size+1,6,none⟩) (by show w.heap.size<=w.heap.size+1;omega) (.slice ua cs.length uc));clear HU HB;go_wp2
 exact bodyPost_ret (v:=.agg #[.int .i64 kd,.string ⟨nm.toArray⟩,.int .i64 ps,.int .i64 fl,.string ⟨ty.toArray⟩,.string ⟨vl.toArray⟩,.slice ua cs.length uc]) (by simp [results,Tryz.results49,go_sem,r0,r1,r2,r3,r4,r5,r6]) rfl ⟨_,rfl,own_lower HR.out (by omega),HBF.out⟩
theorem eqCtorAny {w:World} {b1 b2:Nat} {v1 v2:Value} {l:List Ct} (h1:w.ownsRow b1 88 2 v1 l.length (flatC l)) (h2:w.ownsRow b2 88 2 v2 l.length (flatC l)) (hn:l.length<=1048576) :
  Rt 77 #[v1,v2] w (.bool true):=eqCtorS h1 h2 (by omega)
theorem row_sliceD {W:World} {b z n:Nat} {e:TypeId} {v:Value} {xs:List Value} (h:W.ownsRow b e z v n xs):∃ a c,v=.slice a n c:=by
 rcases h.2 with ⟨rfl,rfl⟩ | ⟨g,cap,cur,rfl,_⟩
 ·exact ⟨_,_,rfl⟩
 ·exact ⟨_,_,rfl⟩
theorem eqDecl {w:World} {d:Dc} {b1 b2:Nat} {u1 u2:Value} (h1:w.ownsRow b1 88 2 u1 d.ctors.length (flatC d.ctors)) (h2:w.ownsRow b2 88 2 u2 d.ctors.length (flatC d.ctors)) (hn:d.ctors.length<=1048576) :
  Rt 53 #[d.val u1,d.val u2] w (.bool true):=by
 obtain ⟨kd,nm,ps,fl,ty,vl,cs⟩:=d;obtain ⟨a1,c1,rfl⟩:=row_sliceD h1;obtain ⟨a2,c2,rfl⟩:=row_sliceD h2;have e1:∀ u,Dc.val ⟨kd,nm,ps,fl,ty,vl,cs⟩ u=.agg #[.int .i64 kd,.string ⟨nm.toArray⟩,.int .i64 ps,.int .i64 fl,.string ⟨ty.toArray⟩,.string ⟨vl.toArray⟩,u]:=fun u=>rfl;rw [e1,e1];have HB0:=Ld fun o1 o2=>((alloc_any w o1).alloc (by simp) o2:Below w.heap.size w ((w.alloc o1).alloc o2));have f1:=Ld fun W (hb:Below w.heap.size w W)=>eqCtorAny (own_below h1 hb) (own_below h2 hb) hn;clear h1 h2 e1 hn;go_enter Tryz.func53,Tryz.ntmps53;go_wp2_with fail;(with_reducible refine mo (f1.out _ (HB0.out _ _)) fun w1 hb=>?_);have HB1:=Ld ((HB0.out _ _).trans (hb.mono (HB0.out _ _).size));clear hb;go_wp2;go_ret;exact ⟨rfl,HB1.out⟩
end Go.Proofs.YtcaahdjhbmmcnaaGreatDoor
