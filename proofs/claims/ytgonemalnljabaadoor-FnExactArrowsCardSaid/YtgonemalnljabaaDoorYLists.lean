/- Lists -/
import Derived.SliceStrings
import Derived.Test.YtgonemalnljabaaDoorYA6
import Derived.Test.YtgonemalnljabaaDoorYEqS
set_option maxRecDepth 100000
set_option maxHeartbeats 16000000
set_option linter.unusedSimpArgs false
set_option linter.unusedVariables false
namespace Go.Proofs.YtgonemalnljabaaDoor
open Go.ChangeShapes Go.WideShapes Go.ChangeAt Go.RowKit
def SzRes (l:List (List UInt8)) (left:Nat) (w:World) (e:Ending) (w':World):Prop :=
 w'=w∧(e=.returned (.int .i64 (-1))∨∃ r:Nat,e=.returned (.int .i64 (r:Int))∧r+l.length+totL l=left)
theorem szStringS {w:World} {v:Value} {l:List (List UInt8)} (h:Came w v l) (left:Nat) (hle:left≤1048576) :
  Calls Tryd.prog 4 #[v,.int .i64 (left:Int)] w (SzRes l left w):=by
 obtain ⟨a0,cap,b,off,rfl,h2,h3,h4,h5⟩:=h
 unfold maxLen at h4 h5
 by_cases hn:left < l.length
 ·have hd:decide ((left:Int) - (l.length:Int) < 0)=true:=by simp;omega
  clear h2 h3
  go_enter Tryd.func4,Tryd.ntmps4
  go_wp2
  go_ret
  exact ⟨rfl,.inl rfl⟩
 ·have hd:decide ((left:Int) - (l.length:Int) < 0)=false:=by simp;omega
  go_enter Tryd.func4,Tryd.ntmps4
  go_wp2
  go_loopw [1,5] (fun lv i wr=>∃ k r:Nat,k≤l.length∧i=.int .i64 k∧lv=.int .i64 (r:Int)∧wr=w∧Hid (r+l.length+totL (l.take k)=left)) (fun _ i _=>l.length - (intOf i).toNat)
  case atStart=>exact ⟨0,left - l.length,Nat.zero_le _,rfl,by go_num,rfl,by simp only [List.take_zero,Hid,totL];simp;omega⟩
  case round =>
   obtain ⟨k,r,hk,rfl,rfl,rfl,HT⟩:=hrel
   have hr:r≤1048576:=by have:=HT.out;omega
   by_cases hlt:k < l.length
   ·obtain ⟨rfl,hb⟩:=h2 (by omega)
    have cc:=h3 k hlt
    unfold sv at cc
    have hz:=size_sv l[k]
    have hx:=h5 l[k] (List.getElem_mem hlt)
    have HT2:=Ld (totL_succ hlt)
    generalize l[k]=x at cc hz hx HT2
    have q1:(0:Int)≤(k:Int):=by omega
    have q2:(k:Int) < (l.length:Int):=by omega
    by_cases hneg:r < x.length
    ·have hd2:decide ((r:Int) - (x.length:Int) < 0)=true:=by simp;omega
     clear h2 h3
     go_wp2
     go_ret
     exact ⟨rfl,.inl rfl⟩
    ·have hd2:decide ((r:Int) - (x.length:Int) < 0)=false:=by simp;omega
     clear h2 h3
     go_wp2
     go_roundw
     case rel=>exact ⟨k+1,r - x.length,by omega,by go_num,by go_num,trivial,by have:=HT.out;have:=HT2.out;simp only [Hid];omega⟩
     case measure=>simp [intOf];omega
   ·obtain rfl:k=l.length:=by omega
    have HT2:=HT.out
    rw [List.take_length] at HT2
    have HT3:=Ld HT2
    clear HT HT2 h2 h3
    go_wp2
    go_ret
    exact ⟨rfl,.inr ⟨r,rfl,HT3.out⟩⟩
theorem toStringS {w:World} {v:Value} {l:List (List UInt8)} (h:Came w v l) (hn:l.length≤1048576) :
  Calls Tryd.prog 6 #[v] w (LRes' l w):=by
 obtain ⟨a0,cap,b,off,rfl,h2,h3,h4,h5⟩:=h
 clear h4 h5
 obtain ⟨i0,hi,hz0,hz1,hz2⟩:=info_parts infoStr'
 go_enter Tryd.func6,Tryd.ntmps6
 go_wp2_with (at_make;refine wpList_make_full _ rfl _ _ 22 rfl w.heap.size 9 i0 (.string ⟨#[]⟩) 1 Tryd.underlying22 hi hz0 hz1 _ _ _ _ l.length rfl rfl rfl rfl (by rw [hz2];omega) (by unfold maxLen;omega) (Nat.le_refl _) ?_;intro w0 hown0 hgrow0)
 have hbel0:Below w.heap.size w w0:=(Below.refl _ _).grown hgrow0 (Nat.le_refl _) (by simp)
 have hxl:=hown0.1
 generalize (madeCells (Value.string ⟨#[]⟩).cells (l.length*1)).toList=xs at hown0 hxl
 rw [Nat.mul_one] at hxl
 go_loopw [4] (fun i wr=>∃ k:Nat,k≤l.length∧i=.int .i64 k∧wr.ownsRow w.heap.size 9 1 (.slice (some ⟨w.heap.size,0,none⟩) l.length l.length) l.length ((l.map sv).take k ++ xs.drop k)∧Below w.heap.size w wr) (fun i _=>l.length - (intOf i).toNat)
 case atStart=>exact ⟨0,Nat.zero_le _,rfl,by simpa using hown0,hbel0⟩
 case round =>
  obtain ⟨k,hk,rfl,hown,hbel⟩:=hrel
  clear hown0 hgrow0 hbel0
  by_cases hlt:k < l.length
  ·obtain ⟨rfl,hb⟩:=h2 (by omega)
   have cc:=(hbel.cell (p:=⟨b,off+k,none⟩) hb).trans (h3 k hlt)
   have HU:=Ld (fill_set (a:=l.map sv) (b:=xs) (k:=k) (u:=sv l[k]) (by simpa using hlt) (by simpa using hxl) (by simp))
   unfold sv at cc
   have hlen:k < ((l.map sv).take k ++ xs.drop k).length:=by simp;omega
   have co:=hown.cellAt k (by omega)
   rw [List.getElem?_eq_getElem hlen] at co
   have cf:=hown.frozenAt k
   generalize ((l.map sv).take k ++ xs.drop k)[k]=old at co
   have HS:=Ld (hown.stored k (sv l[k]))
   have HB:=Ld hbel
   have hne:b≠w.heap.size:=by omega
   unfold sv at HS HU
   generalize l[k]=x at cc HU HS
   have q1:(0:Int)≤(k:Int):=by omega
   have q2:(k:Int) < (l.length:Int):=by omega
   clear h2 h3 hown hlen hbel
   go_wp2
   go_roundw
   case rel =>
    have e1:=HS.out
    unfold sv at e1
    rw [HU.out] at e1
    exact ⟨k+1,by omega,by go_num,e1.1,HB.out.grown e1.2 HB.out.size (fun j hj=>by cases hj;exact Nat.le_refl _)⟩
   case measure=>simp [intOf];omega
  ·obtain rfl:k=l.length:=by omega
   rw [List.drop_eq_nil_of_le (by omega),List.append_nil,List.take_of_length_le (by simp)] at hown
   have HO:=Ld hown
   clear hown h2 h3
   go_wp2
   go_ret
   exact ⟨_,rfl,HO.out,hbel⟩
end Go.Proofs.YtgonemalnljabaaDoor
