/- LbP RowsL -/
import Derived.Laws.Cover1
import Derived.Laws.ResultCell
import Derived.Deep.RegionHeld3
import Derived.Test.YtcaahdjhbmmcnaaGreatDoorYA6
set_option maxRecDepth 100000
set_option maxHeartbeats 16000000
set_option linter.unusedSimpArgs false
set_option linter.unusedVariables false
namespace Go.Proofs.YtcaahdjhbmmcnaaGreatDoor
open Go.ChangeShapes Go.WideShapes Go.ChangeAt Go.RowKit
theorem szLabel (k:Int) (n:List UInt8) (left:Nat) (w:World) (hn:n.length<=maxLen) (hl:left<=1048576) :
  Rt 66 #[.agg #[.int .i64 k,.string ⟨n.toArray⟩],.int .i64 (left:Int)] w (.int .i64 (if left < n.length then -1 else ((left - n.length:Nat):Int))):=by
 unfold maxLen at hn;by_cases h:left < n.length
 ·rw [iP h];have hd:decide ((left:Int) - (n.length:Int) < 0)=true:=dT (by omega);go_enter Tryz.func66,Tryz.ntmps66;go_wp2;go_ret;exact ⟨rfl,(bR _ _).alloc (nR _) _⟩
 ·rw [iN h];have hd:decide ((left:Int) - (n.length:Int) < 0)=false:=dF (by omega);go_enter Tryz.func66,Tryz.ntmps66;go_wp2;go_ret;exact ⟨by go_num,(bR _ _).alloc (nR _) _⟩
theorem eqLabel (k1 k2:Int) (n1 n2:List UInt8) (w:World) :
  Rt 78 #[.agg #[.int .i64 k1,.string ⟨n1.toArray⟩],.agg #[.int .i64 k2,.string ⟨n2.toArray⟩]] w (.bool (k1 == k2 && n1 == n2)):=by
 have hB:∀ o1 o2,Below w.heap.size w ((w.alloc o1).alloc o2):=fun o1 o2=>((bR _ _).alloc (nR _) o1).alloc (by simp) o2;by_cases h1:k1=k2
 ·subst h1;by_cases h2:n1=n2
  ·subst h2;go_enter Tryz.func78,Tryz.ntmps78;go_wp2;go_ret;exact ⟨by simp,hB _ _⟩
  ·have hb:(n1 == n2)=false:=(by rw [bF];exact h2);go_enter Tryz.func78,Tryz.ntmps78;go_wp2;go_ret;exact ⟨by simp [hb],hB _ _⟩
 ·have hb:(k1 == k2)=false:=(by rw [bF];exact h1);go_enter Tryz.func78,Tryz.ntmps78;go_wp2;go_ret;exact ⟨by simp [hb],hB _ _⟩
theorem toLabel (k:Int) (n:List UInt8) (w:World) :
  Rt 72 #[.agg #[.int .i64 k,.string ⟨n.toArray⟩]] w (.agg #[.int .i64 k,.string ⟨n.toArray⟩]):=by
 have hB:∀ o1 o2 o3,Below w.heap.size w (((w.alloc o1).alloc o2).alloc o3):=fun o1 o2 o3=>(((bR _ _).alloc (nR _) o1).alloc (by simp) o2).alloc (by simp;omega) o3;go_enter Tryz.func72,Tryz.ntmps72;go_wp2;refine bodyPost_ret (v:=.agg #[.int .i64 k,.string ⟨n.toArray⟩]) (by simp [results,go_sem]) rfl ⟨rfl,hB _ _ _⟩
abbrev Lbl:=Int × List UInt8
def lcells (x:Lbl):List Value:=[.int .i64 x.1,sv x.2]
def flat (l:List Lbl):List Value:=l.flatMap lcells
theorem flat_cons (x:Lbl) (l:List Lbl):flat (x :: l)=.int .i64 x.1 :: sv x.2 :: flat l:=rfl
theorem flat_length (l:List Lbl):(flat l).length=l.length*2:=by
 induction l with
 | nil=>rfl
 | cons x l ih=>rw [flat_cons];simp only [lC,ih];omega
theorem flat_at {l:List Lbl}:∀ {j:Nat} (h:j < l.length),(flat l)[j*2]?=some (.int .i64 l[j].1)/\(flat l)[j*2+1]?=some (sv l[j].2):=by
 induction l with
 | nil=>intro j h;simp at h
 | cons x l ih =>
  intro j h;cases j with
  | zero=>exact ⟨rfl,rfl⟩
  | succ j =>
   have:=ih (j:=j) (by simpa using h);rw [flat_cons,show (j+1)*2=j*2+1+1 by omega];simpa using this
theorem infoLb:(Tryz.prog.info? 99).map (fun i=>(i.zero,i.size,i.bytes))=some (some (.agg #[.int .i64 0,.string ⟨#[]⟩]),2,24):=by kernel_rfl
theorem eqLabelS {w:World} {b1 b2:Nat} {v1 v2:Value} {l:List Lbl} (h1:w.ownsRow b1 99 2 v1 l.length (flat l)) (h2:w.ownsRow b2 99 2 v2 l.length (flat l)) (hn:l.length<=100000000) :
  Rt 54 #[v1,v2] w (.bool true):=by
 rcases Nat.eq_zero_or_pos l.length with h0 | hp
 ·obtain rfl:l=[]:=List.length_eq_zero_iff.1 h0;rcases h1.2 with ⟨rfl,_⟩ | ⟨g,cap,cur,rfl,_⟩<;>rcases h2.2 with ⟨rfl,_⟩ | ⟨g2,cap2,cur2,rfl,_⟩
  all_goals
   clear h1 h2 hn h0;go_enter Tryz.func54,Tryz.ntmps54;go_wp2;refine wp_loop_rounds 1 ?_;rw [rounds_succ];go_wp2;go_ret;exact ⟨rfl,bR _ _⟩
 ·obtain ⟨g1,c1,rfl,_,hg1⟩:=h1.form hp;obtain ⟨g2,c2,rfl,_,hg2⟩:=h2.form hp;go_enter Tryz.func54,Tryz.ntmps54;go_wp2;go_loopw [5] (fun i wr=>∃ k:Nat,k<=l.length/\i=.int .i64 k/\Below w.heap.size w wr) (fun i _=>l.length - (intOf i).toNat)
  case atStart=>exact ⟨0,Nat.zero_le _,rfl,bR _ _⟩
  case round =>
   obtain ⟨k,hk,rfl,hbel⟩:=hrel;have hz:=hbel.size;by_cases hlt:k < l.length
   ·obtain ⟨fa,fb⟩:=flat_at hlt;have x1:=(hbel.cell (p:=⟨g1,k*2,none⟩) hg1).trans ((h1.cellAt (k*2) (by omega)).trans fa);have y1:=(hbel.cell (p:=⟨g1,k*2+1,none⟩) hg1).trans ((h1.cellAt (k*2+1) (by omega)).trans fb);have x2:=(hbel.cell (p:=⟨g2,k*2,none⟩) hg2).trans ((h2.cellAt (k*2) (by omega)).trans fa);have y2:=(hbel.cell (p:=⟨g2,k*2+1,none⟩) hg2).trans ((h2.cellAt (k*2+1) (by omega)).trans fb);clear fa fb h1 h2;generalize l[k]=lk at x1 y1 x2 y2;obtain ⟨kd,nm⟩:=lk;unfold sv at y1 y2;simp only at x1 x2 y1 y2;have f1:=Ld fun W=>eqLabel kd kd nm nm W;simp only [beq_self_eq_true,Bool.and_self] at f1;have q1:=zn k;have q2:(k:Int) < (l.length:Int):=(by omega);go_wp2;go_region_held3 (fun w'=>w'.cell? ⟨g1,k*2,none⟩=some (.int .i64 kd)/\w'.cell? ⟨g1,k*2+1,none⟩=some (.string ⟨nm.toArray⟩)/\w'.cell? ⟨g2,k*2,none⟩=some (.int .i64 kd)/\w'.cell? ⟨g2,k*2+1,none⟩=some (.string ⟨nm.toArray⟩)) (first | exact ⟨x1,y1,x2,y2⟩ | exact X3)
     (first | (go_at_call 78;(with_reducible refine mo (f1.out _) fun w1 hb1=>?_);have X3:=And.intro ((hb1.cell (p:=⟨g1,k*2,none⟩) (by show g1 < _;simp;omega)).trans x1) (And.intro ((hb1.cell (p:=⟨g1,k*2+1,none⟩) (by show g1 < _;simp;omega)).trans y1) (And.intro ((hb1.cell (p:=⟨g2,k*2,none⟩) (by show g2 < _;simp;omega)).trans x2) ((hb1.cell (p:=⟨g2,k*2+1,none⟩) (by show g2 < _;simp;omega)).trans y2)))))
    go_wp2;go_roundw
    case rel=>exact ⟨k+1,by omega,by go_num,hbel.drew.trans (hb1.mono (by simp;omega))⟩
    case measure=>simp [intOf];omega
   ·go_wp2;go_ret;exact ⟨rfl,hbel⟩
def CameL (w:World) (v:Value) (l:List Lbl):Prop :=
 ∃ (a0:Option Addr) (cap b off:Nat),v=.slice a0 l.length cap/\(0 < l.length->a0=some ⟨b,off,none⟩/\b < w.heap.size)/\(∀ j (h:j < l.length),w.cell? ⟨b,off+j*2,none⟩=some (.int .i64 l[j].1)/\w.cell? ⟨b,off+j*2+1,none⟩=some (sv l[j].2))/\l.length<=maxLen/\∀ x∈l,x.2.length<=maxLen
theorem CameL.below {w w':World} {v:Value} {l:List Lbl} (h:CameL w v l) (hb:Below w.heap.size w w'):CameL w' v l:=by
 obtain ⟨a0,cap,b,off,h1,h2,h3,h4,h5⟩:=h;refine ⟨a0,cap,b,off,h1,fun h0=>⟨(h2 h0).1,Nat.lt_of_lt_of_le (h2 h0).2 hb.size⟩,fun j hj=>?_,h4,h5⟩;have hlt:=(h2 (by omega)).2;rw [hb.cell (p:=⟨b,off+j*2,none⟩) hlt,hb.cell (p:=⟨b,off+j*2+1,none⟩) hlt];exact h3 j hj
def totLb (l:List Lbl):Nat:=(l.map fun x=>x.2.length).sum
theorem totLb_succ {l:List Lbl} {k:Nat} (h:k < l.length):totLb (l.take (k+1))=totLb (l.take k)+l[k].2.length:=by
 rw [List.take_succ_eq_append_getElem h,totLb,List.map_append,List.sum_append];simp [totLb]
def SzResL (l:List Lbl) (left:Nat) (w:World) (e:Ending) (w':World):Prop :=
 Below w.heap.size w w'/\(e=.returned (.int .i64 (-1))\/∃ r:Nat,e=.returned (.int .i64 (r:Int))/\r+l.length+totLb l=left)
theorem szLabelS {w:World} {v:Value} {l:List Lbl} (h:CameL w v l) (left:Nat) (hle:left<=1048576) :
  Calls Tryz.prog 46 #[v,.int .i64 (left:Int)] w (SzResL l left w):=by
 obtain ⟨a0,cap,b,off,rfl,h2,h3,h4,h5⟩:=h;unfold maxLen at h4;by_cases hn:left < l.length
 ·have hd:decide ((left:Int) - (l.length:Int) < 0)=true:=(by simp;omega);clear h2 h3;go_enter Tryz.func46,Tryz.ntmps46;go_wp2;go_ret;exact ⟨bR _ _,.inl rfl⟩
 ·have hd:decide ((left:Int) - (l.length:Int) < 0)=false:=(by simp;omega);go_enter Tryz.func46,Tryz.ntmps46;go_wp2;go_loopw [1,5] (fun lv i wr=>∃ k r:Nat,k<=l.length/\i=.int .i64 k/\lv=.int .i64 (r:Int)/\Below w.heap.size w wr/\Hid (r+l.length+totLb (l.take k)=left)) (fun _ i _=>l.length - (intOf i).toNat)
  case atStart=>exact ⟨0,left - l.length,Nat.zero_le _,rfl,by go_num,bR _ _,by simp only [List.take_zero,Hid,totLb];simp;omega⟩
  case round =>
   obtain ⟨k,r,hk,rfl,rfl,hbel,HT⟩:=hrel;have hr:r<=1048576:=(by have:=HT.out;omega);have hz:=hbel.size;by_cases hlt:k < l.length
   ·obtain ⟨rfl,hb⟩:=h2 (by omega);obtain ⟨ca,cb⟩:=h3 k hlt;have ca':=(hbel.cell (p:=⟨b,off+k*2,none⟩) hb).trans ca;have cb':=(hbel.cell (p:=⟨b,off+k*2+1,none⟩) hb).trans cb;have hx:=h5 l[k] (List.getElem_mem hlt);have HT2:=Ld (totLb_succ hlt);clear ca cb h2 h3;generalize l[k]=lk at ca' cb' hx HT2;obtain ⟨kd,nm⟩:=lk;unfold sv at cb';simp only at ca' cb' hx HT2;have f1:=Ld fun W=>szLabel kd nm r W hx hr;have q1:=zn k;have q2:(k:Int) < (l.length:Int):=(by omega);by_cases hneg:r < nm.length
    ·rw [iP hneg] at f1;go_wp2_with fail;(with_reducible refine mo (f1.out _) fun w1 hb1=>?_);go_wp2;go_ret;exact ⟨hbel.trans (hb1.mono hz),.inl rfl⟩
    ·rw [iN hneg] at f1;have hd2:decide ((((r - nm.length:Nat)):Int) < 0)=false:=dF (by omega);obtain ⟨r',hr'⟩:∃ r',r - nm.length=r':=⟨_,rfl⟩;rw [hr'] at f1 hd2;have hrr:r'+nm.length=r:=(by omega);clear hr';go_wp2_with fail;(with_reducible refine mo (f1.out _) fun w1 hb1=>?_);go_wp2;go_roundw
     case rel=>exact ⟨k+1,r',by omega,by go_num,rfl,hbel.trans (hb1.mono hz),by have:=HT.out;have:=HT2.out;simp only [Hid];omega⟩
     case measure=>simp [intOf];omega
   ·obtain rfl:k=l.length:=(by omega);have HT2:=HT.out;rw [List.take_length] at HT2;have HT3:=Ld HT2;clear HT HT2 h2 h3;go_wp2;go_ret;exact ⟨hbel,.inr ⟨r,rfl,HT3.out⟩⟩
def LResL (r:List Lbl) (w:World) (e:Ending) (w':World):Prop :=
 ∃ v,e=.returned v/\w'.ownsRow w.heap.size 99 2 v r.length (flat r)/\Below w.heap.size w w'
theorem fill2 {a b:List Value} {k:Nat} {u1 u2:Value} (hk:k+1 < a.length) (hb:b.length=a.length) (h1:a[k]?=some u1) (h2:a[k+1]?=some u2) :
  ((a.take k ++ b.drop k).set k u1).set (k+1) u2=a.take (k+2) ++ b.drop (k+2):=by
 apply List.ext_getElem?;intro i;have hl:(a.take k).length=k:=by simp;omega
 have hl2:(a.take (k+2)).length=k+2:=by simp;omega
 simp only [List.getElem?_set,List.getElem?_append,List.length_set,lA,hl,hl2,List.length_drop,List.getElem?_take,List.getElem?_drop];by_cases e1:k+1=i
 ·subst e1;simp [show k+1 < k+2 by omega,h2,show k+1 < k+(b.length - k) by omega]
 ·by_cases e2:k=i
  ·subst e2;simp [h1,show k < k+(b.length - k) by omega]
  ·by_cases e3:i < k
   ·simp [e1,e2,e3,show i < k+2 by omega]
   ·simp [e1,e2,e3,show ¬ i < k+2 by omega,show k+(i - k)=i by omega,show k+2+(i - (k+2))=i by omega]
theorem toLabelS {w:World} {v:Value} {l:List Lbl} (h:CameL w v l) (hn:l.length<=1048576) :
  Calls Tryz.prog 50 #[v] w (LResL l w):=by
 obtain ⟨a0,cap,b,off,rfl,h2,h3,h4,h5⟩:=h;clear h4 h5;obtain ⟨i0,hi,hz0,hz1,hz2⟩:=info_parts infoLb;have hfl:=flat_length l;go_enter Tryz.func50,Tryz.ntmps50;go_wp2_with (at_make;refine wpList_make_full _ rfl _ _ 53 rfl w.heap.size 99 i0 (.agg #[.int .i64 0,.string ⟨#[]⟩]) 2 Tryz.underlying53 hi hz0 hz1 _ _ _ _ l.length rfl rfl rfl rfl (by rw [hz2];omega) (by unfold maxLen;omega) (nR _) ?_;intro w0 hown0 hgrow0);have hbel0:Below w.heap.size w w0:=(bR _ _).grown hgrow0 (nR _) (by simp);have hxl:=hown0.1;generalize (madeCells (Value.agg #[.int .i64 0,.string ⟨#[]⟩]).cells (l.length*2)).toList=xs at hown0 hxl;go_loopw [4] (fun i wr=>∃ k:Nat,k<=l.length/\i=.int .i64 k/\wr.ownsRow w.heap.size 99 2 (.slice (some ⟨w.heap.size,0,none⟩) l.length l.length) l.length ((flat l).take (k*2) ++ xs.drop (k*2))/\Below w.heap.size w wr) (fun i _=>l.length - (intOf i).toNat)
 case atStart=>exact ⟨0,Nat.zero_le _,rfl,by simpa using hown0,hbel0⟩
 case round =>
  obtain ⟨k,hk,rfl,hown,hbel⟩:=hrel;clear hown0 hgrow0 hbel0;have hz:=hbel.size;by_cases hlt:k < l.length
  ·obtain ⟨rfl,hb⟩:=h2 (by omega);obtain ⟨ca,cb⟩:=h3 k hlt;have ca':=(hbel.cell (p:=⟨b,off+k*2,none⟩) hb).trans ca;have cb':=(hbel.cell (p:=⟨b,off+k*2+1,none⟩) hb).trans cb;obtain ⟨fa,fb⟩:=flat_at hlt;have HU:=Ld (fill2 (a:=flat l) (b:=xs) (k:=k*2) (by omega) (by omega) fa fb);clear ca cb h2 h3 fa fb;generalize l[k]=lk at ca' cb' HU;obtain ⟨kd,nm⟩:=lk;unfold sv at cb' HU;simp only at ca' cb' HU;have f1:=Ld fun W=>toLabel kd nm W;have q1:=zn k;have q2:(k:Int) < (l.length:Int):=(by omega);go_wp2_with fail;(with_reducible refine mo (f1.out _) fun w1 hb1=>?_);have hown1:w1.ownsRow w.heap.size 99 2 (.slice (some ⟨w.heap.size,0,none⟩) l.length l.length) l.length ((flat l).take (k*2) ++ xs.drop (k*2)):=own_below hown hb1;have B1:=hbel.trans (hb1.mono hz);have hlen:((flat l).take (k*2) ++ xs.drop (k*2)).length=l.length*2:=(by simp;omega);have co:=hown1.cellAt (k*2) (by omega);rw [List.getElem?_eq_getElem (by omega)] at co;have co2:=hown1.cellAt (k*2+1) (by omega);rw [List.getElem?_eq_getElem (by omega)] at co2;have cf:=hown1.frozenAt (k*2);have cf2:=hown1.frozenAt (k*2+1);generalize ((flat l).take (k*2) ++ xs.drop (k*2))[k*2]=old1 at co;generalize ((flat l).take (k*2) ++ xs.drop (k*2))[k*2+1]=old2 at co2;have HS:=Ld (((hown1.stored (k*2) (.int .i64 kd)).1.stored (k*2+1) (.string ⟨nm.toArray⟩)).1);clear hown hown1 hlen;go_wp2;go_roundw
   case rel =>
    have e1:=HS.out;rw [HU.out] at e1;exact ⟨k+1,by omega,by go_num,by rw [show (k+1)*2=k*2+2 by omega];exact e1,(B1.setCell (p:=⟨w.heap.size,k*2,none⟩) (nR _) _).setCell (p:=⟨w.heap.size,k*2+1,none⟩) (nR _) _⟩
   case measure=>simp [intOf];omega
  ·obtain rfl:k=l.length:=(by omega);rw [List.drop_eq_nil_of_le (by omega),List.append_nil,List.take_of_length_le (by omega)] at hown;have HO:=Ld hown;clear hown h2 h3;go_wp2;go_ret;exact ⟨_,rfl,HO.out,hbel⟩
end Go.Proofs.YtcaahdjhbmmcnaaGreatDoor
