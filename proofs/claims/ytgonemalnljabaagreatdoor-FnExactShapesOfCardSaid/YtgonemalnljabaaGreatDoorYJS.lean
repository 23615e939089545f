/- MarkText GMk GDm IntsQ JLawS -/
import Derived.ChangeSlices
import Derived.Deep.RegionHeld3
import Derived.Test.YtgonemalnljabaaGreatDoorYBase
import Derived.Test.YtgonemalnljabaaGreatDoorYA6
import Derived.Test.YtgonemalnljabaaGreatDoorYJ0
import Derived.Test.YtgonemalnljabaaGreatDoorYJ1
set_option maxRecDepth 100000
set_option maxHeartbeats 16000000
set_option linter.unusedSimpArgs false
set_option linter.unusedVariables false
namespace Go.Proofs.YtgonemalnljabaaGreatDoor
open Go.ChangeShapes Go.WideShapes Go.ChangeAt Go.RowKit
def decA (k:Nat) (acc:List UInt8):List UInt8:=if h:k=0 then acc else decA (k / 10) (UInt8.ofNat (48+k % 10) :: acc)
termination_by k
decreasing_by omega
def markL (k:Nat):List UInt8:=109 :: decA k []
theorem decA_step {k:Nat} (h:0 < k) (acc:List UInt8):decA k acc=decA (k / 10) (UInt8.ofNat (48+k % 10) :: acc):=by
 rw [decA,dif_neg (by omega)]
theorem decA_zero (acc:List UInt8):decA 0 acc=acc:=by rw [decA,dif_pos rfl]
theorem sv_cons (m:Nat) (acc:List UInt8) (k:Nat) (h:k=m:=by rfl):Value.string ({ data:=#[48+UInt8.ofNat (m % 10)] } ++ { data:=acc.toArray })=sv (UInt8.ofNat (48+k % 10) :: acc):=by
 subst h
 have e:UInt8.ofNat (48+k % 10)=48+UInt8.ofNat (k % 10):=by
  apply UInt8.toNat_inj.1;simp
 rw [e]
 unfold sv
 congr 1
theorem sv_cons109 (acc:List UInt8):Value.string ({ data:=#[109] } ++ { data:=acc.toArray })=sv (109 :: acc):=by
 unfold sv
 congr 1
theorem markText (k:Nat) (w:World) (h0:0 < k) (hk:k≤1000000000) :
  Calls Tryz.prog 165 #[.int .i64 (k:Int)] w fun e w'=>e=.returned (.string ⟨(markL k).toArray⟩)∧Below w.heap.size w w':=by
 have hb:decide ((k:Int)≤0)=false:=by simp;omega
 go_enter Tryz.func165,Tryz.ntmps165
 go_wp2
 go_loopw [0,3] (fun i s wr=>∃ (m:Nat) (acc:List UInt8),m+acc.length≤k∧i=.int .i64 m∧s=sv acc∧Below w.heap.size w wr∧Hid (decA k []=decA m acc))
  (fun i _ _=>(intOf i).toNat)
 case atStart=>exact ⟨k,[],by simp,rfl,rfl,Below.refl _ _,rfl⟩
 case round =>
  obtain ⟨m,acc,hm,rfl,rfl,hbel,HD⟩:=hrel
  by_cases hp:0 < m
  ·have HD':=HD.out.trans (decA_step hp acc)
   have HD2:=Ld HD'
   clear HD' HD
   have hcv:=conv_one (P:=Tryz.prog) wr (48+(m:Int) % 10) Tryz.underlying22 Tryz.underlying5 Tryz.underlying9 (by omega) (by omega)
   simp only [sv]
   go_wp2
   go_roundw
   case rel=>exact ⟨m / 10,UInt8.ofNat (48+m % 10) :: acc,by simp;omega,by go_num,sv_cons _ _ _,hbel.alloc hbel.size _,HD2.out⟩
   case measure=>simp [intOf];omega
  ·obtain rfl:m=0:=by omega
   have HD':=HD.out.trans (decA_zero acc)
   have HD2:=Ld HD'
   clear HD' HD
   have hz:(⟨acc.toArray⟩:ByteArray).size=acc.length:=by simp [ByteArray.size]
   simp only [sv]
   go_wp2
   go_ret
   refine ⟨?_,hbel⟩
   unfold markL
   rw [HD2.out]
   exact congrArg Ending.returned (sv_cons109 acc)
theorem markCtorS {w:World} {base n k:Nat} {v:Value} {xs:List Value} (h:w.ownsRow base 42 2 v n xs) (hn:n≤10000000) (hk0:0 < k) (hk:k≤100000000) :
  Calls Tryz.prog 109 #[v,.int .i64 (k:Int)] w fun e w'=>e=.returned (.int .i64 ((k:Int)+2*(n:Int)))∧w.grownBy w' v.ownBlock∧∃ ys,w'.ownsRow base 42 2 v n ys:=by
 rcases Nat.eq_zero_or_pos n with h0 | hp
 ·subst h0
  rcases h.2 with ⟨rfl,_⟩ | ⟨g,cap,cur,rfl,_⟩
  all_goals
   have h':=Ld h
   clear h hn
   go_enter Tryz.func109,Tryz.ntmps109
   go_wp2
   refine wp_loop_rounds 1 ?_
   rw [rounds_succ]
   go_wp2
   go_ret
   exact ⟨by simp,World.grownBy.refl _ _,_,h'.out⟩
 ·obtain ⟨g,c,rfl,_,_⟩:=h.form hp
  go_enter Tryz.func109,Tryz.ntmps109
  go_wp2
  go_loopw [1,5] (fun kk i wr=>∃ (j:Nat) (ys:List Value),j≤n∧i=.int .i64 j∧kk=.int .i64 ((k:Int)+2*(j:Int))∧Hid (wr.ownsRow base 42 2 (.slice (some ⟨g,0,none⟩) n c) n ys∧w.grownBy wr (some g))) (fun _ i _=>n - (intOf i).toNat)
  case atStart=>exact ⟨0,xs,Nat.zero_le _,rfl,by go_num,h,World.grownBy.refl _ _⟩
  case round =>
   obtain ⟨j,ys,hj,rfl,rfl,HO⟩:=hrel
   clear h
   by_cases hlt:j < n
   ·have f1:=Ld fun W=>markText (k+2*j) W (by omega) (by omega)
    have f2:=Ld fun W=>markText (k+2*j+1) W (by omega) (by omega)
    simp only [Int.natCast_add,Int.natCast_mul,Int.cast_ofNat_Int,Int.natCast_one] at f1 f2
    generalize markL (k+2*j+1)=mk2 at f2
    generalize markL (k+2*j)=mk1 at f1
    have q1:(0:Int)≤(j:Int):=by omega
    have q2:(j:Int) < (n:Int):=by omega
    go_wp2_with fail
    (with_reducible refine (f1.out _).mono ?_);rintro e w1 ⟨rfl,hb1⟩
    have hown:=own_below HO.out.1 hb1
    have hyl:ys.length=n*2:=hown.1
    have co:=hown.cellAt (j*2) (by omega)
    rw [List.getElem?_eq_getElem (by omega)] at co
    have cf:=hown.frozenAt (j*2)
    generalize ys[j*2]=old1 at co
    have HS1:=Ld (hown.stored (j*2) (.string ⟨mk1.toArray⟩))
    have HG1:=Ld (HO.out.2.trans (grownBy_of_below hb1 (some g)))
    clear hown hyl hb1 HO f1
    go_wp2_with fail
    (with_reducible refine (f2.out _).mono ?_);rintro e w2 ⟨rfl,hb2⟩
    have hown2:=own_below HS1.out.1 hb2
    have hyl2:(ys.set (j*2) (.string ⟨mk1.toArray⟩)).length=n*2:=hown2.1
    have co2:=hown2.cellAt (j*2+1) (by omega)
    rw [List.getElem?_eq_getElem (by omega)] at co2
    have cf2:=hown2.frozenAt (j*2+1)
    generalize (ys.set (j*2) (.string ⟨mk1.toArray⟩))[j*2+1]=old2 at co2
    have HS2:=Ld (hown2.stored (j*2+1) (.string ⟨mk2.toArray⟩))
    have HG2:=Ld ((HG1.out.trans HS1.out.2).trans ((grownBy_of_below hb2 (some g)).trans HS2.out.2))
    clear hown2 hyl2 hb2 f2 HS1 HG1 co cf
    go_wp2
    go_roundw
    case rel=>exact ⟨j+1,_,by omega,by go_num,by go_num,HS2.out.1,HG2.out⟩
    case measure=>simp [intOf];omega
   ·obtain rfl:j=n:=by omega
    have HG:=Ld HO.out.2
    have HR:=Ld HO.out.1
    clear HO
    go_wp2
    go_ret
    exact ⟨rfl,HG.out,_,HR.out⟩
theorem markDecl {w:World} {d:Dc} {base k:Nat} {u:Value} {xs:List Value} (h:w.ownsRow base 42 2 u d.ctors.length xs) (hn:d.ctors.length≤10000000) (hk0:0 < k) (hk:k≤100000000) :
  Calls Tryz.prog 48 #[d.val u,.int .i64 (k:Int)] w fun e w'=>e=.returned (.int .i64 ((k:Int)+2*(d.ctors.length:Int)))∧w.grownBy w' u.ownBlock:=by
 obtain ⟨kd,nm,ps,fl,ty,vl,cs⟩:=d
 obtain ⟨a1,c1,rfl⟩:=row_sliceD h
 have e1:∀ u,Dc.val ⟨kd,nm,ps,fl,ty,vl,cs⟩ u=.agg #[.int .i64 kd,.string ⟨nm.toArray⟩,.int .i64 ps,.int .i64 fl,.string ⟨ty.toArray⟩,.string ⟨vl.toArray⟩,u]:=fun u=>rfl
 rw [e1]
 have f1:=Ld fun W (hb:Below w.heap.size w W)=>markCtorS (own_below h hb) hn hk0 hk
 clear h e1 hn
 go_enter Tryz.func48,Tryz.ntmps48
 go_wp2_with fail
 (with_reducible refine (f1.out _ (alloc_any w _)).mono ?_);rintro e w1 ⟨rfl,hg,-⟩
 have HG:=Ld ((World.grownBy_alloc w _ _).trans hg)
 clear hg f1
 go_wp2
 go_ret
 exact ⟨rfl,HG.out⟩
theorem eqIntS {w:World} {b1 b2 n:Nat} {v1 v2:Value} {l:List Int} (h1:w.ownsRow b1 3 1 v1 n (l.map iv)) (h2:w.ownsRow b2 3 1 v2 n (l.map iv)) (hn:n≤1000000000) :
  Calls Tryz.prog 47 #[v1,v2] w fun e w'=>e=.returned (.bool true)∧∃ q,w'=w.drewN q:=by
 have hl:l.length=n:=by simpa using h1.1
 rcases Nat.eq_zero_or_pos n with h0 | hp
 ·subst h0
  rcases h1.2 with ⟨rfl,_⟩ | ⟨g,cap,cur,rfl,_⟩<;>rcases h2.2 with ⟨rfl,_⟩ | ⟨g2,cap2,cur2,rfl,_⟩
  all_goals
   clear h1 h2 hl hn
   go_enter Tryz.func47,Tryz.ntmps47
   go_wp2
   refine wp_loop_rounds 1 ?_
   rw [rounds_succ]
   go_wp2
   go_ret
   exact ⟨rfl,0,rfl⟩
 ·obtain ⟨g1,c1,rfl,_,_⟩:=h1.form hp
  obtain ⟨g2,c2,rfl,_,_⟩:=h2.form hp
  go_enter Tryz.func47,Tryz.ntmps47
  go_wp2
  go_loopw [5] (fun i wr=>∃ k q:Nat,k≤n∧i=.int .i64 k∧wr=w.drewN q) (fun i _=>n - (intOf i).toNat)
  case atStart=>exact ⟨0,0,Nat.zero_le _,rfl,rfl⟩
  case round =>
   obtain ⟨k,q,hk,rfl,rfl⟩:=hrel
   by_cases hlt:k < n
   ·have e1:=h1.cellAt k (by omega)
    have e2:=h2.cellAt k (by omega)
    have ex:(l.map iv)[k]?=some (iv (l[k]'(by omega))):=by simp [show k < l.length by omega]
    rw [ex] at e1 e2
    generalize l[k]'(by omega)=x at e1 e2
    clear ex h1 h2
    unfold iv at e1 e2
    have q1:(0:Int)≤(k:Int):=by omega
    have q2:(k:Int) < (n:Int):=by omega
    go_wp2
    go_quiet (fail)
    go_wp2
    go_roundw
    case rel=>exact ⟨k+1,q+nq,by omega,by go_num,rfl⟩
    case measure=>simp [intOf];omega
   ·go_wp2
    go_ret
    exact ⟨rfl,q,rfl⟩
def marksI (k n:Nat):List Value:=(List.range n).map fun i=>iv ((k+i:Nat):Int)
theorem marksI_succ (k n:Nat):marksI k (n+1)=marksI k n ++ [iv ((k+n:Nat):Int)]:=by simp [marksI,List.range_succ]
theorem marksI_length (k n:Nat):(marksI k n).length=n:=by simp [marksI]
theorem marksI_set {k j:Nat} {xs:List Value} (h:j < xs.length):(marksI k j ++ xs.drop j).set j (iv ((k+j:Nat):Int))=marksI k (j+1) ++ xs.drop (j+1):=by
 rw [List.set_append_right _ _ (by rw [marksI_length];exact Nat.le_refl _),marksI_length,Nat.sub_self,marksI_succ,List.append_assoc]
 congr 1
 rw [List.drop_eq_getElem_cons h]
 rfl
theorem markIntS {w:World} {base n k:Nat} {v:Value} {xs:List Value} (h:w.ownsRow base 3 1 v n xs) (hn:n≤100000000) (hk0:0 < k) (hk:k≤100000000) :
  Calls Tryz.prog 49 #[v,.int .i64 (k:Int)] w fun e w'=>e=.returned (.int .i64 ((k+n:Nat):Int))∧w'.ownsRow base 3 1 v n (marksI k n)∧w.grownBy w' v.ownBlock:=by
 have hl:xs.length=n:=by simpa using h.1
 rcases Nat.eq_zero_or_pos n with h0 | hp
 ·subst h0
  have h':=Ld h
  rcases h.2 with ⟨rfl,_⟩ | ⟨g,cap,cur,rfl,_⟩
  all_goals
   clear h hl hn
   go_enter Tryz.func49,Tryz.ntmps49
   go_wp2
   refine wp_loop_rounds 1 ?_
   rw [rounds_succ]
   go_wp2
   go_ret
   refine ⟨by simp,?_,World.grownBy.refl _ _⟩
   have e:xs=marksI k 0:=by have:=h'.out.1;simpa [marksI] using this
   rw [← e]
   exact h'.out
 ·obtain ⟨g,c,rfl,_,_⟩:=h.form hp
  go_enter Tryz.func49,Tryz.ntmps49
  go_wp2
  go_loopw [1,5] (fun kk i wr=>∃ j:Nat,j≤n∧i=.int .i64 j∧kk=.int .i64 ((k:Int)+(j:Int))∧wr.ownsRow base 3 1 (.slice (some ⟨g,0,none⟩) n c) n (marksI k j ++ xs.drop j)∧w.grownBy wr (some g)) (fun _ i _=>n - (intOf i).toNat)
  case atStart=>exact ⟨0,Nat.zero_le _,rfl,by go_num,h,World.grownBy.refl _ _⟩
  case round =>
   obtain ⟨j,hj,rfl,rfl,hown,hg⟩:=hrel
   clear h
   by_cases hlt:j < n
   ·have hlen:j < (marksI k j ++ xs.drop j).length:=by simp [marksI_length];omega
    have cc:=hown.cellAt j (by omega)
    rw [List.getElem?_eq_getElem hlen] at cc
    have cf:=hown.frozenAt j
    generalize (marksI k j ++ xs.drop j)[j]=old at cc
    have HS:=hown.stored j (iv ((k+j:Nat):Int))
    rw [marksI_set (by omega)] at HS
    rw [show iv ((k+j:Nat):Int)=.int .i64 ((k:Int)+(j:Int)) by rw [iv,show ((k+j:Nat):Int)=(k:Int)+(j:Int) by omega]] at HS
    have HS2:=Ld HS
    have HG:=Ld hg
    clear hown hlen hg HS
    have q1:(0:Int)≤(j:Int):=by omega
    have q2:(j:Int) < (n:Int):=by omega
    go_wp2
    go_roundw
    case rel=>exact ⟨j+1,by omega,by go_num,by go_num,HS2.out.1,HG.out.trans HS2.out.2⟩
    case measure=>simp [intOf];omega
   ·obtain rfl:j=n:=by omega
    go_wp2
    go_ret
    rw [List.drop_eq_nil_of_le (by omega),List.append_nil] at hown
    exact ⟨by go_num,hown,hg⟩
theorem heldIntS {w:World} {base n k:Nat} {v:Value} (h:w.ownsRow base 3 1 v n (marksI k n)) (hn:n≤100000000) (hk0:0 < k) (hk:k≤100000000) :
  Calls Tryz.prog 50 #[v,.int .i64 (k:Int)] w fun e w'=>e=.returned (.int .i64 ((k+n:Nat):Int))∧Below w.heap.size w w':=by
 rcases Nat.eq_zero_or_pos n with h0 | hp
 ·subst h0
  rcases h.2 with ⟨rfl,_⟩ | ⟨g,cap,cur,rfl,_⟩
  all_goals
   clear h hn
   go_enter Tryz.func50,Tryz.ntmps50
   go_wp2
   refine wp_loop_rounds 1 ?_
   rw [rounds_succ]
   go_wp2
   go_ret
   exact ⟨by simp,Below.refl _ _⟩
 ·obtain ⟨g,c,rfl,_,hgl⟩:=h.form hp
  go_enter Tryz.func50,Tryz.ntmps50
  go_wp2
  go_loopw [1,5] (fun kk i wr=>∃ j:Nat,j≤n∧i=.int .i64 j∧kk=.int .i64 ((k:Int)+(j:Int))∧Below w.heap.size w wr) (fun _ i _=>n - (intOf i).toNat)
  case atStart=>exact ⟨0,Nat.zero_le _,rfl,by go_num,Below.refl _ _⟩
  case round =>
   obtain ⟨j,hj,rfl,rfl,hbel⟩:=hrel
   by_cases hlt:j < n
   ·have cc:=h.cellAt j (by omega)
    have ex:(marksI k n)[j]?=some (.int .i64 ((k:Int)+(j:Int))):=by simp [marksI,hlt,iv]
    rw [ex] at cc
    have cr:wr.cell? ⟨g,j,none⟩=some (.int .i64 ((k:Int)+(j:Int))):=(hbel.cell (p:=⟨g,j,none⟩) hgl).trans cc
    have hz:=hbel.size
    have q1:(0:Int)≤(j:Int):=by omega
    have q2:(j:Int) < (n:Int):=by omega
    clear ex cc h
    go_wp2
    go_roundw
    case rel=>exact ⟨j+1,by omega,by go_num,by go_num,hbel⟩
    case measure=>simp [intOf];omega
   ·obtain rfl:j=n:=by omega
    go_wp2
    go_ret
    exact ⟨by go_num,hbel⟩
theorem markOneI {w:World} {base n:Nat} {v:Value} {xs:List Value} (h:w.ownsRow base 3 1 v n xs) (hn:n≤100000000) :
  Calls Tryz.prog 49 #[v,.int .i64 1] w fun e w'=>e=.returned (.int .i64 ((n:Int)+1))∧w'.ownsRow base 3 1 v n (marksI 1 n)∧w.grownBy w' v.ownBlock:=by
 have:=markIntS (k:=1) h hn (by decide) (by decide)
 rw [show ((1+n:Nat):Int)=(n:Int)+1 by omega] at this
 exact this
theorem heldOneI {w:World} {base n:Nat} {v:Value} (h:w.ownsRow base 3 1 v n (marksI 1 n)) (hn:n≤100000000) :
  Calls Tryz.prog 50 #[v,.int .i64 1] w fun e w'=>e=.returned (.int .i64 ((n:Int)+1))∧Below w.heap.size w w':=by
 have:=heldIntS (k:=1) h hn (by decide) (by decide)
 rw [show ((1+n:Nat):Int)=(n:Int)+1 by omega] at this
 exact this
theorem apartI {w w':World} {b n M:Nat} {v v':Value} {xs:List Value} (h:w.ownsRow b 3 1 v n xs) (hg:w.grownBy w' v'.ownBlock) (hd:((∀ k,v.ownBlock=some k→k < M)∧(∀ k,v'.ownBlock=some k→M≤k))∨((∀ k,v'.ownBlock=some k→k < M)∧(∀ k,v.ownBlock=some k→M≤k))):w'.ownsRow b 3 1 v n xs:=by
 refine h.kept hg ?_
 rcases hv:v.ownBlock with _ | k
 ·exact .inl rfl
 ·refine .inr fun e=>?_
  rcases hd with ⟨h1,h2⟩ | ⟨h1,h2⟩
  ·have:=h1 k hv;have:=h2 k e.symm;omega
  ·have:=h1 k e.symm;have:=h2 k hv;omega
theorem lawShapesOf {d:Dc} {u:Value} (k:Int) (w:World) (hu:CameC w u d.ctors) (hf:d.Fits)
  (hI:d.Small→∀ (W:World) (b:Nat) (v:Value),Below w.heap.size w W→W.ownsRow b 42 2 v d.ctors.length (flatC d.ctors)→Calls Tryz.prog 27 #[d.val v,.int .i64 k] W (IRes (shapesOf d k) W)) :
  Calls Tryz.prog 7 #[d.val u,.int .i64 k] w fun e w'=>e=.returned (.bool true)∧Below w.heap.size w w':=by
 obtain ⟨a0,cap,_,_,hsl,_⟩:=id hu
 have HSZ:Hid (∀ W:World,Below w.heap.size w W→Calls Tryz.prog 42 #[d.val u,.int .i64 1048576] W fun e w'=>Below W.heap.size W w'∧(e=.returned (.int .i64 (-1))∨∃ r:Nat,e=.returned (.int .i64 (r:Int))∧r+d.size=1048576)):=fun W hb=>szDecl (hu.below hb) hf 1048576 (Nat.le_refl _)
 have HSm:Hid (d.size≤1048576→d.Small):=fun h=>Dc.small h
 have HTo:=Ld fun (hn:d.ctors.length≤1048576) (W:World) (hb:Below w.heap.size w W)=>toDecl (hu.below hb) hn
 have HSp:=Ld fun (hs:d.Small) (W:World) (b:Nat) (v:Value) (h:W.ownsRow b 42 2 v d.ctors.length (flatC d.ctors))=>specShapesOf h hs k
 have HEq:=Ld fun (hn:d.ctors.length≤1048576) (W:World) (b1 b2:Nat) (v1 v2:Value) (h1:W.ownsRow b1 42 2 v1 d.ctors.length (flatC d.ctors)) (h2:W.ownsRow b2 42 2 v2 d.ctors.length (flatC d.ctors))=>eqDecl h1 h2 hn
 have HMk:Hid (∀ (hn:d.ctors.length≤1048576) (W:World) (b:Nat) (v:Value) (xs:List Value) (h:W.ownsRow b 42 2 v d.ctors.length xs),Calls Tryz.prog 48 #[d.val v,.int .i64 1] W fun e w'=>e=.returned (.int .i64 (1+2*(d.ctors.length:Int)))∧W.grownBy w' v.ownBlock):=fun hn W b v xs h=>markDecl (k:=1) h (by omega) (by decide) (by decide)
 have HLn:Hid (d.Small→(shapesOf d k).length≤10000000):=fun _=>Nat.le_trans (shapesOf_len d k) (by decide)
 have HI:=Ld hI
 unfold DRes at HTo
 obtain ⟨r,hr⟩:∃ r,shapesOf d k=r:=⟨_,rfl⟩
 rw [hr] at HSp HI HLn
 clear hu hf hI hr
 obtain ⟨kd,nm,ps,fl,ty,vl,cs⟩:=d
 have hval:∀ u,Dc.val ⟨kd,nm,ps,fl,ty,vl,cs⟩ u=.agg #[.int .i64 kd,.string ⟨nm.toArray⟩,.int .i64 ps,.int .i64 fl,.string ⟨ty.toArray⟩,.string ⟨vl.toArray⟩,u]:=fun u=>rfl
 simp only [hval] at HSZ HTo HSp HEq HI HMk ⊢
 simp only at hsl HSZ HTo HSp HEq HI HMk
 subst hsl
 have HB0:=Ld (alloc_any w (.cells #[.int .i64 kd,.string ⟨nm.toArray⟩,.int .i64 ps,.int .i64 fl,.string ⟨ty.toArray⟩,.string ⟨vl.toArray⟩,.slice a0 cs.length cap] 54))
 have HA:=Ld (anyBox (w:=w) (kd:=kd) (ps:=ps) (fl:=fl) (nm:=nm) (ty:=ty) (vl:=vl) (u:=.slice a0 cs.length cap) (T:=54))
 have HX:=Ld fun w u=>anyBox (w:=w) (kd:=kd) (ps:=ps) (fl:=fl) (nm:=nm) (ty:=ty) (vl:=vl) (u:=u) (T:=36)
 clear hval
 go_enter Tryz.func7,Tryz.ntmps7
 go_wp2_with fail
 (with_reducible refine (HSZ.out _ HB0.out).mono ?_);rintro e w1 ⟨hb1,(rfl | ⟨z,rfl,hz⟩)⟩
 ·have HB1:=Ld (HB0.out.trans (hb1.mono HB0.out.size))
  clear hb1
  go_wp2
  go_ret
  exact ⟨rfl,HB1.out⟩
 have hsm:=HSm.out (by omega)
 have hn:=hsm.ctors
 simp only at hn
 have hrl:=HLn.out hsm
 have HI2:=Ld (HI.out hsm)
 have HSp2:=Ld (HSp.out hsm)
 have HTo2:=Ld (HTo.out hn)
 have HEq2:=Ld (HEq.out hn)
 have HMk2:=Ld (HMk.out hn)
 have dz:decide ((z:Int) < 0)=false:=decide_eq_false (by omega)
 have HB1:=Ld (HB0.out.trans (hb1.mono HB0.out.size))
 have HA1:=Ld hb1
 obtain ⟨c0,c1,c2,c3,c4,c5,c6⟩:=HA.out _ hb1
 clear hb1 hz hsm HI HSp HTo HEq HSZ HSm HMk HLn
 go_wp2_with fail
 (with_reducible refine (HTo2.out _ HB1.out).mono ?_);rintro e w2 ⟨u1,rfl,hu1,hb2⟩
 have HA2:=Ld (HA1.out.trans (hb2.mono HA1.out.size))
 obtain ⟨ua,uc,rfl⟩:=row_sliceD hu1
 clear hb2 c0 c1 c2 c3 c4 c5 c6
 go_wp2_with fail
 (with_reducible refine (HSp2.out _ _ _ hu1).mono ?_);rintro e w3 ⟨vW,rfl,hW3,hb3⟩
 have HA3:=Ld (HA2.out.trans (hb3.mono HA2.out.size))
 have HB3:=Ld (HB0.out.trans (HA3.out.mono HB0.out.size))
 obtain ⟨c0,c1,c2,c3,c4,c5,c6⟩:=HA.out _ HA3.out
 have hiW:Hid (∀ k,vW.ownBlock=some k→k < w3.heap.size):=fun q hq=>(hW3.lt q hq).2
 clear hb3 hu1 HB1
 go_wp2_with fail
 (with_reducible refine (HTo2.out _ HB3.out).mono ?_);rintro e w4 ⟨u2,rfl,hu2,hb4⟩
 have HA4:=Ld (HA3.out.trans (hb4.mono HA3.out.size))
 have loX:Hid (∀ k,u2.ownBlock=some k→w3.heap.size≤k):=fun q hq=>(hu2.lt q hq).1
 have hiX:Hid (∀ k,u2.ownBlock=some k→k < w4.heap.size):=fun q hq=>(hu2.lt q hq).2
 have z34:=hb4.size
 obtain ⟨va,vc,rfl⟩:=row_sliceD hu2
 have bx:=alloc_any w4 (.cells #[.int .i64 kd,.string ⟨nm.toArray⟩,.int .i64 ps,.int .i64 fl,.string ⟨ty.toArray⟩,.string ⟨vl.toArray⟩,.slice va cs.length vc] 36)
 have hrow5:=own_below hu2 bx
 have hW5:=own_below (own_below hW3 hb4) bx
 have HA5:=Ld (HA4.out.trans (bx.mono HA4.out.size))
 have HB5:=Ld (HB0.out.trans (HA5.out.mono HB0.out.size))
 have HX5:=Ld (HX.out w4 (.slice va cs.length vc))
 have z45:=bx.size
 clear hb4 hu2 hW3 c0 c1 c2 c3 c4 c5 c6 bx HX HB3
 go_wp2_with fail
 (with_reducible refine (HI2.out _ _ _ HB5.out hrow5).mono ?_);rintro e w6 ⟨vg,rfl,hg6,hb6⟩
 have loG:Hid (∀ k,vg.ownBlock=some k→w4.heap.size≤k):=fun q hq=>Nat.le_trans z45 (hg6.lt q hq).1
 have hrow6:=own_below hrow5 hb6
 have hW6:=own_below hW5 hb6
 have HA6:=Ld (HA5.out.trans (hb6.mono HA5.out.size))
 have hb66:=Ld hb6
 clear hb6 hrow5 hW5 HSp2
 go_wp2_with fail
 (with_reducible refine (eqIntS hg6 hW6 (by omega)).mono ?_);rintro e w7 ⟨rfl,q1,rfl⟩
 have HA7:=Ld (below_drewN HA6.out q1)
 have HB7:=Ld (HB0.out.trans (HA7.out.mono HB0.out.size))
 have hb67:=Ld (below_drewN hb66.out q1)
 have hrow7:=own_drew hrow6 q1
 have hW7:=own_drew hW6 q1
 have hg7:=own_drew hg6 q1
 generalize w6.drewN q1=w7 at HA7 HB7 hb67 hrow7 hW7 hg7 ⊢
 clear hrow6 hW6 hg6 HA6 hb66 HB5
 obtain ⟨p0,p1,p2,p3,p4,p5,p6⟩:=HA.out _ HA7.out
 obtain ⟨q0,q1,q2,q3,q4,q5,q6⟩:=HX5.out _ hb67.out
 go_wp2
 go_region_held3 (fun w'=>(w'.cell? ⟨w.heap.size,0,none⟩=some (.int .i64 kd)∧w'.cell? ⟨w.heap.size,1,none⟩=some (.string ⟨nm.toArray⟩)∧w'.cell? ⟨w.heap.size,2,none⟩=some (.int .i64 ps)∧w'.cell? ⟨w.heap.size,3,none⟩=some (.int .i64 fl)∧w'.cell? ⟨w.heap.size,4,none⟩=some (.string ⟨ty.toArray⟩)∧w'.cell? ⟨w.heap.size,5,none⟩=some (.string ⟨vl.toArray⟩)∧w'.cell? ⟨w.heap.size,6,none⟩=some (.slice a0 cs.length cap))∧(w'.cell? ⟨w4.heap.size,0,none⟩=some (.int .i64 kd)∧w'.cell? ⟨w4.heap.size,1,none⟩=some (.string ⟨nm.toArray⟩)∧w'.cell? ⟨w4.heap.size,2,none⟩=some (.int .i64 ps)∧w'.cell? ⟨w4.heap.size,3,none⟩=some (.int .i64 fl)∧w'.cell? ⟨w4.heap.size,4,none⟩=some (.string ⟨ty.toArray⟩)∧w'.cell? ⟨w4.heap.size,5,none⟩=some (.string ⟨vl.toArray⟩)∧w'.cell? ⟨w4.heap.size,6,none⟩=some (.slice va cs.length vc))) (first | exact X9 | exact X8 | exact ⟨⟨p0,p1,p2,p3,p4,p5,p6⟩,q0,q1,q2,q3,q4,q5,q6⟩)
  (first | (go_at_call 44;(with_reducible refine (HTo2.out _ HB7.out.drew).mono ?_);rintro e w8 ⟨u3,rfl,hu3,hb8⟩;have HA8:=HA7.out.drew.trans (hb8.mono HA7.out.drew.size);have hd8:=hb67.out.drew.trans (hb8.mono hb67.out.drew.size);have X8:=And.intro (HA.out _ HA8) (HX5.out _ hd8);obtain ⟨wa,wc,rfl⟩:=row_sliceD hu3;have hrow8:=own_below (w:=w7.drew) hrow7 hb8;have hW8:=own_below (w:=w7.drew) hW7 hb8;have hg8:=own_below (w:=w7.drew) hg7 hb8) | (go_at_call 45;(with_reducible refine (HEq2.out _ _ _ _ _ hrow8 hu3).mono ?_);rintro e w9 ⟨rfl,hb9⟩;have HA9:=HA8.trans (hb9.mono HA8.size);have hd9:=hd8.trans (hb9.mono hd8.size);have X9:=And.intro (HA.out _ HA9) (HX5.out _ hd9);have hrow9:=own_below hrow8 hb9;have hW9:=own_below hW8 hb9;have hg9:=own_below hg8 hb9))
 have z9:=HA9.size
 have m9:=hd9.size
 clear HA7 HB7 hb67 hrow7 hW7 hg7 p0 p1 p2 p3 p4 p5 p6 q0 q1 q2 q3 q4 q5 q6 hu3 hb8 hb9 X8 HA8 hd8 hrow8 hW8 hg8 HEq2
 obtain ⟨_,q0,q1,q2,q3,q4,q5,q6⟩:=X9
 have z03:=HA3.out.size
 have z04:=HA4.out.size
 clear HA1 HA2 HA3 HA4 HA5
 go_wp2_with fail
 (with_reducible refine (HMk2.out _ _ _ _ hrow9).mono ?_);rintro e w10 ⟨rfl,hgr⟩
 have HA10:=HA9.grown hgr z9 (fun q hq=>Nat.le_trans z03 (loX.out q hq))
 have hg10:=apartI hg9 hgr (.inr ⟨hiX.out,loG.out⟩)
 have hW10:=apartI hW9 hgr (.inl ⟨hiW.out,loX.out⟩)
 have z10:=HA10.size
 have d14:decide ((1:Int)+2*(cs.length:Int) < 0)=false:=decide_eq_false (by omega)
 clear hgr hg9 hW9 hrow9 HA9 hd9 z9 m9 q0 q1 q2 q3 q4 q5 q6 HMk2
 go_wp2_with fail
 (with_reducible refine (eqIntS hg10 hW10 (by omega)).mono ?_);rintro e w11 ⟨rfl,q1,rfl⟩
 have HA11:=below_drewN HA10 q1
 have hg11:=own_drew hg10 q1
 have hW11:=own_drew hW10 q1
 have z11:=HA11.size
 generalize w10.drewN q1=w11 at HA11 hg11 hW11 z11 ⊢
 clear HA10 hg10 hW10 z10
 go_wp2_with fail
 (with_reducible refine (markOneI hg11 (by omega)).mono ?_);rintro e w12 ⟨rfl,hm12,hgr⟩
 have HA12:=HA11.grown hgr z11 (fun q hq=>Nat.le_trans z04 (loG.out q hq))
 have hW12:=apartI hW11 hgr (.inl ⟨hiW.out,fun q hq=>Nat.le_trans z34 (loG.out q hq)⟩)
 have z12:=HA12.size
 clear HA11 hg11 hW11 z11 hgr
 go_wp2_with fail
 (with_reducible refine (heldOneI hm12 (by omega)).mono ?_);rintro e w13 ⟨rfl,hb13⟩
 have HA13:=Ld (HA12.trans (hb13.mono z12))
 have HB13:=Ld (HB0.out.trans (HA13.out.mono HB0.out.size))
 have hm13:=own_below hm12 hb13
 have hW13:=own_below hW12 hb13
 have d17:decide ((r.length:Int)+1 < 0)=false:=decide_eq_false (by omega)
 obtain ⟨p0,p1,p2,p3,p4,p5,p6⟩:=HA.out _ HA13.out
 clear HA12 hm12 hW12 z12 hb13
 go_wp2_with fail
 (with_reducible refine (HTo2.out _ HB13.out).mono ?_);rintro e w14 ⟨u4,rfl,hu4,hb14⟩
 have HB14:=Ld (HB13.out.trans (hb14.mono HB13.out.size))
 have hm14:=own_below hm13 hb14
 have hW14:=own_below hW13 hb14
 obtain ⟨ya,yc,rfl⟩:=row_sliceD hu4
 clear hm13 hW13 hb14 p0 p1 p2 p3 p4 p5 p6
 go_wp2_with fail
 (with_reducible refine (HI2.out _ _ _ HB14.out hu4).mono ?_);rintro e w15 ⟨vh,rfl,hh,hb15⟩
 have HB15:=Ld (HB14.out.trans (hb15.mono HB14.out.size))
 have hm15:=own_below hm14 hb15
 have hW15:=own_below hW14 hb15
 clear hm14 hW14 hb15 hu4
 go_wp2_with fail
 (with_reducible refine (eqIntS hh hW15 (by omega)).mono ?_);rintro e w16 ⟨rfl,q5,rfl⟩
 have HB16:=Ld (below_drewN HB15.out q5)
 have hm16:=own_drew hm15 q5
 generalize w15.drewN q5=w16 at HB16 hm16 ⊢
 clear hm15 hW15 hh
 go_wp2_with fail
 (with_reducible refine (heldOneI hm16 (by omega)).mono ?_);rintro e w17 ⟨rfl,hb17⟩
 have HB17:=Ld (HB16.out.trans (hb17.mono HB16.out.size))
 clear hm16 hb17
 go_wp2
 go_ret
 exact ⟨rfl,HB17.out⟩
end Go.Proofs.YtgonemalnljabaaGreatDoor
