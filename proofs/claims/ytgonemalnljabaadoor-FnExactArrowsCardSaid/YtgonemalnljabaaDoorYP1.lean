/- ShelfC ShelfI TI1 TI0 TI2 ShelfD -/
import Derived.Shelf.LaysM
import Derived.Shelf.Strconv.Clone
import Derived.Test.YtgonemalnljabaaDoorProg
import Derived.Shelf.Strings.Search2
import Derived.Shelf.LaysC
import Derived.Shelf.Strconv.Itoa3
import Derived.Shelf.Strconv.AtoiAll
import Derived.Shelf.Strconv.ErrVarAll
import Derived.Test.YtgonemalnljabaaDoorYA1
import Derived.Test.YtgonemalnljabaaDoorYA2
set_option maxRecDepth 100000
set_option maxHeartbeats 16000000
set_option linter.unusedSimpArgs false
set_option linter.unusedVariables false
namespace Go.Proofs
open Go.Shelf
def Tryd.lays219_ren:Go.Shelf.Ren:=⟨fun | 219=>48 | 217=>56 | 225=>57 | 224=>58 | 267=>59 | 266=>65 | 314=>66 | n=>n,fun | 9=>9 | 3=>3 | 4=>4 | 5=>5 | 46=>108 | 146=>119 | 51=>118 | n=>n,fun | 1=>0 | n=>n⟩
theorem Tryd.lays219:Go.Proofs.Lays.n219 Tryd.prog Tryd.lays219_ren:={
 mixed:=by kernel_rfl
 f217:=Tryd.func56.trans (congrArg some (by kernel_rfl))
 f219:=Tryd.func48.trans (congrArg some (by kernel_rfl))
 f224:=Tryd.func58.trans (congrArg some (by kernel_rfl))
 f225:=Tryd.func57.trans (congrArg some (by kernel_rfl))
 f266:=Tryd.func65.trans (congrArg some (by kernel_rfl))
 f267:=Tryd.func59.trans (congrArg some (by kernel_rfl))
 f314:=Tryd.func66.trans (congrArg some (by kernel_rfl))
 t3:=Tryd.underlying3
 a3:=Tryd.isAgg3
 z3:=Tryd.sizeOf3
 v3:=Tryd.zeroValue3
 t4:=Tryd.underlying4
 a4:=Tryd.isAgg4
 z4:=Tryd.sizeOf4
 v4:=Tryd.zeroValue4
 t5:=Tryd.underlying5
 a5:=Tryd.isAgg5
 z5:=Tryd.sizeOf5
 v5:=Tryd.zeroValue5
 t9:=Tryd.underlying9
 a9:=Tryd.isAgg9
 z9:=Tryd.sizeOf9
 v9:=Tryd.zeroValue9
 t46:=Tryd.underlying108
 a46:=Tryd.isAgg108
 z46:=Tryd.sizeOf108
 v46:=Tryd.zeroValue108
 t51:=Tryd.underlying118
 a51:=Tryd.isAgg118
 z51:=Tryd.sizeOf118
 v51:=Tryd.zeroValue118
 t146:=Tryd.underlying119
 a146:=Tryd.isAgg119
 z146:=Tryd.sizeOf119
 v146:=Tryd.zeroValue119
 g1:=by kernel_rfl }
open Go.RowKit Go.Lib in
theorem Tryd.stringslite_Index_one (s:ByteArray) (c:UInt8) (w:World) :
  Calls Tryd.prog 48 #[.string s,.string ⟨#[c]⟩] w fun e w'=>e=.returned (.int .i64 (Lib.indexByte s.data.toList c))∧w'=w:=Any.stringslite_Index_one Tryd.lays219 s c w
end Go.Proofs
namespace Go.Proofs.YtgonemalnljabaaDoor
open Go.ChangeShapes Go.WideShapes Go.ChangeAt Go.RowKit
def cutC (c:UInt8):List UInt8→List UInt8 × List UInt8 × Bool
 | []=>([],[],false)
 | x :: r=>if x=c then ([],r,true) else (x :: (cutC c r).1,(cutC c r).2.1,(cutC c r).2.2)
theorem cutC_no {c:UInt8} {t:List UInt8} (h:Lib.indexByte t c=-1):cutC c t=(t,[],false):=by
 induction t with
 | nil=>rfl
 | cons x r ih =>
  unfold Lib.indexByte at h
  by_cases hc:x=c
  ·simp [hc] at h
  ·have hc':(x == c)=false:=beq_eq_false_iff_ne.2 hc
   rw [hc'] at h
   by_cases h2:Lib.indexByte r c=-1
   ·simp [cutC,hc,ih h2]
   ·have:=Lib.indexByte_ge r c
    simp [h2] at h
    omega
theorem cutC_yes {c:UInt8} {t:List UInt8}:∀ {i:Nat},Lib.indexByte t c=(i:Int)→i < t.length∧cutC c t=(t.take i,t.drop (i+1),true):=by
 induction t with
 | nil=>intro i h;unfold Lib.indexByte at h;omega
 | cons x r ih =>
  intro i h
  unfold Lib.indexByte at h
  by_cases hc:x=c
  ·subst hc
   have hi:i=0:=by simp at h;omega
   subst hi
   exact ⟨by simp,by simp [cutC]⟩
  ·have hc':(x == c)=false:=beq_eq_false_iff_ne.2 hc
   rw [hc'] at h
   by_cases h2:Lib.indexByte r c=-1
   ·simp [h2] at h
   ·have hge:=Lib.indexByte_ge r c
    have hb:(Lib.indexByte r c == -1)=false:=beq_eq_false_iff_ne.2 h2
    rw [hb] at h
    simp only [Bool.false_eq_true,if_false] at h
    obtain ⟨j,rfl⟩:∃ j,i=j+1:=⟨i - 1,by omega⟩
    obtain ⟨e1,e2⟩:=ih (i:=j) (by omega)
    exact ⟨by simp;omega,by simp [cutC,hc,e2]⟩
theorem cutC_split {c:UInt8}:∀ {p:List UInt8} (r:List UInt8),c∉p→cutC c (p ++ c :: r)=(p,r,true)
 | [],r,_=>by simp [cutC]
 | x :: p,r,h=>by
  have h1:x≠c:=fun e=>h (by simp [e])
  have h2:=cutC_split (p:=p) r (fun hm=>h (List.mem_cons_of_mem _ hm))
  simp [cutC,h1,h2]
theorem cutC_true {c:UInt8}:∀ {t p r:List UInt8},cutC c t=(p,r,true)→c∉p∧t=p ++ c :: r
 | [],p,r,h=>by simp [cutC] at h
 | x :: t,p,r,h=>by
  rw [cutC] at h
  by_cases hx:x=c
  ·rw [if_pos hx] at h
   simp only [Prod.mk.injEq,and_true] at h
   obtain ⟨rfl,rfl⟩:=h
   exact ⟨by simp,by simp [hx]⟩
  ·rw [if_neg hx] at h
   rcases hh:cutC c t with ⟨p',r',b⟩
   rw [hh] at h
   simp only [Prod.mk.injEq] at h
   obtain ⟨rfl,rfl,rfl⟩:=h
   obtain ⟨h1,h2⟩:=cutC_true hh
   exact ⟨fun hm=>(List.mem_cons.1 hm).elim (fun e=>hx e.symm) h1,by rw [h2];rfl⟩
theorem cutC_false {c:UInt8}:∀ {t p r:List UInt8},cutC c t=(p,r,false)→c∉t∧p=t∧r=[]
 | [],p,r,h=>by simp [cutC] at h;simp [h]
 | x :: t,p,r,h=>by
  rw [cutC] at h
  by_cases hx:x=c
  ·rw [if_pos hx] at h;simp at h
  ·rw [if_neg hx] at h
   rcases hh:cutC c t with ⟨p',r',b⟩
   rw [hh] at h
   simp only [Prod.mk.injEq] at h
   obtain ⟨rfl,rfl,rfl⟩:=h
   obtain ⟨h1,h2,h3⟩:=cutC_false hh
   exact ⟨fun hm=>(List.mem_cons.1 hm).elim (fun e=>hx e.symm) h1,by rw [h2],h3⟩
theorem cutC_len {c:UInt8} {t p r:List UInt8} {b:Bool} (h:cutC c t=(p,r,b)):p.length≤t.length∧r.length≤t.length:=by
 cases b
 ·obtain ⟨_,rfl,rfl⟩:=cutC_false h
  simp
 ·obtain ⟨_,rfl⟩:=cutC_true h
  simp;omega
theorem ext_takeC (s:ByteArray) (i:Nat):s.extract 0 i=⟨(s.data.toList.take i).toArray⟩:=by
 apply ByteArray.ext
 rw [ByteArray.data_extract]
 apply Array.ext'
 rw [Array.toList_extract]
 simp [List.extract]
theorem ext_dropC (s:ByteArray) (i:Nat):s.extract i s.size=⟨(s.data.toList.drop i).toArray⟩:=by
 apply ByteArray.ext
 rw [ByteArray.data_extract]
 apply Array.ext'
 rw [Array.toList_extract,List.extract,List.take_of_length_le]
 rw [List.length_drop]
 exact Nat.le_refl _
def CutRes (x:List UInt8 × List UInt8 × Bool):Value:=.tuple #[.string ⟨x.1.toArray⟩,.string ⟨x.2.1.toArray⟩,.bool x.2.2]
theorem cutLite (c:UInt8) (s:ByteArray) (w:World) (hm:s.size≤maxLen):Calls Tryd.prog 38 #[.string s,.string ⟨#[c]⟩] w fun e w'=>e=.returned (CutRes (cutC c s.data.toList))∧∃ q,w'=w.drewN q:=by
 unfold maxLen at hm
 have f1:=Ld fun W=>Tryd.stringslite_Index_one s c W
 have hge:=Lib.indexByte_ge s.data.toList c
 by_cases h:Lib.indexByte s.data.toList c=-1
 ·have HC:=Ld (cutC_no h)
  rw [h] at f1
  clear h hge
  go_enter Tryd.func38,Tryd.ntmps38
  go_wp2_with fail
  (with_reducible refine (f1.out _).mono ?_);rintro e w1 ⟨rfl,rfl⟩
  go_wp2
  go_ret3
  refine ⟨?_,0,rfl⟩
  rw [HC.out]
  rfl
 ·obtain ⟨i,hi⟩:∃ i:Nat,Lib.indexByte s.data.toList c=(i:Int):=⟨(Lib.indexByte s.data.toList c).toNat,by omega⟩
  obtain ⟨hlt,e1⟩:=cutC_yes hi
  have HC:=Ld e1
  rw [hi] at f1
  have hls:s.data.toList.length=s.size:=rfl
  rw [hls] at hlt
  clear h hge e1 hi hls
  have d0:decide ((0:Int)≤(i:Int))=true:=decide_eq_true (by omega)
  have hz1:(⟨#[c]⟩:ByteArray).size=1:=rfl
  go_enter Tryd.func38,Tryd.ntmps38
  go_wp2_with fail
  (with_reducible refine (f1.out _).mono ?_);rintro e w1 ⟨rfl,rfl⟩
  go_wp2
  go_quiet (fail)
  go_wp2
  go_ret3
  refine ⟨?_,_,rfl⟩
  rw [HC.out]
  simp only [CutRes]
  rw [← ext_takeC,← ext_dropC]
  rfl
theorem cutAtC (c:UInt8) (s:ByteArray) (w:World) (hm:s.size≤maxLen):Calls Tryd.prog 30 #[.string s,.string ⟨#[c]⟩] w fun e w'=>e=.returned (CutRes (cutC c s.data.toList))∧∃ q,w'=w.drewN q:=by
 have f1:=Ld fun W=>cutLite c s W hm
 unfold CutRes at f1
 rcases hh:cutC c s.data.toList with ⟨p,r,b⟩
 rw [hh] at f1
 simp only at f1
 go_enter Tryd.func30,Tryd.ntmps30
 go_wp2_with fail
 (with_reducible refine (f1.out _).mono ?_);rintro e w1 ⟨rfl,q,rfl⟩
 go_wp2
 go_ret3
 exact ⟨rfl,q,rfl⟩
def RB (N:Nat) (s:ByteArray) (W:World):Prop:=W.ownsRow N 43 1 (.slice (some ⟨N,0,none⟩) 1 1) 1 [.string s]
theorem RB.put {N:Nat} {s:ByteArray} {W:World} (h:RB N s W) (s':ByteArray):RB N s' (W.setCell ⟨N,0,none⟩ (.string s'))∧W.grownBy (W.setCell ⟨N,0,none⟩ (.string s')) (some N):=h.stored 0 (.string s')
theorem implBefore (c:UInt8) (s:ByteArray) {N:Nat} {W:World} (h:RB N s W) (hm:s.size≤maxLen) {p r:List UInt8} {b:Bool} (hc:cutC c s.data.toList=(p,r,b)) :
  Calls Tryd.prog 27 #[.pointer (some ⟨N,0,none⟩),.string ⟨#[c]⟩] W fun e W'=>e=.returned (.tuple #[.string ⟨p.toArray⟩,.bool b])∧RB N ⟨r.toArray⟩ W'∧W.grownBy W' (some N):=by
 have f1:=Ld fun W=>cutAtC c s W hm
 rw [hc] at f1
 unfold CutRes at f1
 simp only at f1
 have c0:W.cell? ⟨N,0,none⟩=some (.string s):=h.cellAt 0 (by omega)
 have z0:W.frozen? ⟨N,0,none⟩=false:=h.frozenAt 0
 have HR:=Ld h
 clear hc h
 go_enter Tryd.func27,Tryd.ntmps27
 go_wp2_with fail
 (with_reducible refine (f1.out _).mono ?_);rintro e w1 ⟨rfl,q,rfl⟩
 have HR2:Hid (RB N s (W.drewN q)):=own_drew HR.out q
 have z1:(W.drewN q).frozen? ⟨N,0,none⟩=false:=z0
 have HG:Hid (W.grownBy (W.drewN q) (some N)):=grownBy_of_below (below_drewN (Below.refl _ _) q) _
 generalize W.drewN q=W1 at HR2 z1 HG
 have c1:W1.cell? ⟨N,0,none⟩=some (.string s):=HR2.out.cellAt 0 (by omega)
 go_wp2
 go_ret2
 obtain ⟨h1,h2⟩:=HR2.out.put ⟨r.toArray⟩
 exact ⟨rfl,h1,HG.out.trans h2⟩
theorem heap_lt {W:World} {g:Nat} {o:Obj} (h:W.heap[g]?=some o):g < W.heap.size:=by
 rcases Nat.lt_or_ge g W.heap.size with h' | h'
 ·exact h'
 ·rw [Array.getElem?_eq_none h'] at h
  cases h
theorem blk_below {W W':World} {g:Nat} {o:Obj} (h:W.heap[g]?=some o) (hb:Below W.heap.size W W'):W'.heap[g]?=some o:=by
 rw [hb.block _ (heap_lt h)]
 exact h
theorem lend_clean:∀ (l:List UInt8) (n k:Nat),lend n l=some k→∀ x∈l.take k,x≠46∧x≠44:=by
  refine lend_ind (motive:=fun n l=>∀ k:Nat,lend n l=some k→∀ x∈l.take k,x≠46∧x≠44) ?_ ?_ ?_ ?_ ?_ ?_ ?_
  · intro l k h x hx;rw [lend_zero] at h;cases h;simp at hx
  · intro n k h;rw [lend_nil] at h;cases h
  · intro n l ih k h x hx
    rw [lend_z] at h
    obtain ⟨j,hj,rfl⟩:=Option.map_eq_some_iff.1 h
    rw [List.take_succ_cons] at hx
    rcases List.mem_cons.1 hx with rfl | hx
    · decide
    · exact ih j hj x hx
  · intro n l ih k h x hx
    rw [lend_up] at h
    obtain ⟨j,hj,rfl⟩:=Option.map_eq_some_iff.1 h
    rw [List.take_succ_cons] at hx
    rcases List.mem_cons.1 hx with rfl | hx
    · decide
    · exact ih j hj x hx
  · intro n c l hc ih k h x hx
    rw [lend_two n hc] at h
    obtain ⟨j,hj,rfl⟩:=Option.map_eq_some_iff.1 h
    rw [List.take_succ_cons] at hx
    rcases List.mem_cons.1 hx with rfl | hx
    · rcases hc with rfl | rfl<;>decide
    · exact ih j hj x hx
  · intro n d l g1 g2 ih k h x hx
    rw [lend_par n g1 g2] at h
    obtain ⟨j,hj,rfl⟩:=Option.map_eq_some_iff.1 h
    rw [show j+2=(j+1)+1 by omega,List.take_succ_cons,List.take_succ_cons] at hx
    rcases List.mem_cons.1 hx with rfl | hx
    · decide
    rcases List.mem_cons.1 hx with rfl | hx
    · constructor<;>(intro e;subst e;revert g1 g2;decide)
    · exact ih j hj x hx
  · intro n c l h0 k h;rw [h0] at h;cases h
theorem level_clean {l:List UInt8} (h:levelOk l=true):(46:UInt8)∉l∧(44:UInt8)∉l:=by
  have h1:=lend_clean l 1 _ (levelOk_len h).2
  rw [List.take_length] at h1
  exact ⟨fun hm=>(h1 _ hm).1 rfl,fun hm=>(h1 _ hm).2 rfl⟩
theorem lvsB_no46:∀ {ls:List (List UInt8)},(∀ x∈ls,levelOk x=true)→(46:UInt8)∉lvsB ls
  | [],_=>by simp [lvsB]
  | x :: r,h=>by
    intro hm
    rw [lvsB] at hm
    rcases List.mem_append.1 hm with h1 | h1
    · exact (level_clean (h x List.mem_cons_self)).1 h1
    rcases List.mem_cons.1 h1 with h2 | h2
    · revert h2;decide
    · exact lvsB_no46 (fun y hy=>h y (List.mem_cons_of_mem _ hy)) h2
theorem lvsB_inj:∀ {a b:List (List UInt8)},(∀ x∈a,(44:UInt8)∉x)→(∀ x∈b,(44:UInt8)∉x)→lvsB a=lvsB b→a=b
  | [],[],_,_,_=>rfl
  | [],y :: b,_,_,h=>by simp [lvsB] at h
  | x :: a,[],_,_,h=>by simp [lvsB] at h
  | x :: a,y :: b,ha,hb,h=>by
    rw [lvsB,lvsB] at h
    obtain ⟨h1,h2⟩:=span_uniq (ha x List.mem_cons_self) (hb y List.mem_cons_self) h
    rw [h1,lvsB_inj (fun z hz=>ha z (List.mem_cons_of_mem _ hz)) (fun z hz=>hb z (List.mem_cons_of_mem _ hz)) h2]
theorem lvsB_rest:∀ {ls:List (List UInt8)} {a r:List UInt8},lvsB ls=a ++ r→r≠[]→(44:UInt8)∈r
  | [],a,r,h,hr=>by
    rw [lvsB] at h
    have h1:=congrArg List.length h
    simp only [List.length_nil,List.length_append] at h1
    exact absurd (List.eq_nil_of_length_eq_zero (by omega)) hr
  | x :: ls,a,r,h,hr=>by
    rw [lvsB,show x ++ 44 :: lvsB ls=(x ++ [44]) ++ lvsB ls by simp] at h
    rcases List.append_eq_append_iff.1 h with ⟨c,h1,h2⟩ | ⟨c,h1,h2⟩
    · exact lvsB_rest h2 hr
    · by_cases hc:c=[]
      · subst hc
        rw [List.nil_append] at h2
        exact lvsB_rest (a:=[]) h2.symm hr
      · rw [h2]
        refine List.mem_append.2 (.inl ?_)
        have h3:=congrArg List.getLast? h1
        rw [List.getLast?_append,List.getLast?_append] at h3
        cases hl:c.getLast? with
        | none=>exact absurd (List.getLast?_eq_none_iff.1 hl) hc
        | some z =>
          rw [hl] at h3
          simp at h3
          rw [← h3] at hl
          exact List.mem_of_getLast? hl
theorem tat_var {l r:List UInt8} {t:Tm} (h:Tat (118 :: l) t r):∃ n,n≤999∧t=.var n∧l=Lib.decDigits n ++ 46 :: r:=by
  obtain ⟨h1,h2⟩:=h
  cases t with
  | var n=>simp only [Tm.bytes,List.cons_append,List.append_assoc,List.nil_append] at h2;injection h2 with _ h2;exact ⟨n,h1,rfl,h2⟩
  | _=>simp [Tm.bytes] at h2
theorem tat_sort {l r:List UInt8} {t:Tm} (h:Tat (115 :: l) t r):∃ v,levelOk v=true∧t=.sort v∧l=v ++ 46 :: r:=by
  obtain ⟨h1,h2⟩:=h
  cases t with
  | sort n=>simp only [Tm.bytes,List.cons_append,List.append_assoc,List.nil_append] at h2;injection h2 with _ h2;exact ⟨n,h1,rfl,h2⟩
  | _=>simp [Tm.bytes] at h2
theorem tat_const {l r:List UInt8} {t:Tm} (h:Tat (99 :: l) t r):∃ n ls,(Tm.const n ls).Ok∧t=.const n ls∧l=n ++ 59 :: (lvsB ls ++ 46 :: r):=by
  obtain ⟨h1,h2⟩:=h
  cases t with
  | const n ls=>simp only [Tm.bytes,List.cons_append,List.append_assoc,List.nil_append] at h2;injection h2 with _ h2;exact ⟨n,ls,h1,rfl,h2⟩
  | _=>simp [Tm.bytes] at h2
theorem tat_kind {c:UInt8} {l r:List UInt8} {t:Tm} (h:Tat (c :: l) t r):c=t.kind:=by
  obtain ⟨_,h2⟩:=h
  obtain ⟨q,hq⟩:=t.bytes_head
  rw [hq] at h2
  injection h2
theorem kind_cases (t:Tm):t.kind=118∨t.kind=115∨t.kind=99∨t.kind=64∨t.kind=108∨t.kind=112∨t.kind=116:=by
  cases t<;>simp [Tm.kind]
def two (k:UInt8) (a b:Tm):Tm:=if k=64 then .app a b else if k=108 then .lam a b else .pi a b
theorem two_ok {k:UInt8} {a b:Tm} (ha:a.Ok) (hb:b.Ok):(two k a b).Ok:=by
  unfold two;split
  · exact ⟨ha,hb⟩
  · split<;>exact ⟨ha,hb⟩
theorem two_bytes {k:UInt8} (hk:k=64∨k=108∨k=112) (a b:Tm):(two k a b).bytes=k :: (a.bytes ++ b.bytes):=by
  rcases hk with rfl | rfl | rfl<;>simp [two,Tm.bytes]
theorem tat_two {k:UInt8} (hk:k=64∨k=108∨k=112) {l r:List UInt8} {t:Tm} (h:Tat (k :: l) t r):∃ a b q,t=two k a b∧Tat l a q∧Tat q b r:=by
  obtain ⟨h1,h2⟩:=h
  cases t with
  | app a b =>
    simp only [Tm.bytes,List.cons_append,List.append_assoc] at h2
    injection h2 with h0 h2
    subst h0
    exact ⟨a,b,_,rfl,⟨h1.1,h2⟩,h1.2,rfl⟩
  | lam a b =>
    simp only [Tm.bytes,List.cons_append,List.append_assoc] at h2
    injection h2 with h0 h2
    subst h0
    exact ⟨a,b,_,rfl,⟨h1.1,h2⟩,h1.2,rfl⟩
  | pi a b =>
    simp only [Tm.bytes,List.cons_append,List.append_assoc] at h2
    injection h2 with h0 h2
    subst h0
    exact ⟨a,b,_,rfl,⟨h1.1,h2⟩,h1.2,rfl⟩
  | _=>simp [Tm.bytes] at h2;rcases hk with rfl | rfl | rfl<;>simp at h2
theorem tat_three {l r:List UInt8} {t:Tm} (h:Tat (116 :: l) t r):∃ a b c q p,t=.lett a b c∧Tat l a q∧Tat q b p∧Tat p c r:=by
  obtain ⟨h1,h2⟩:=h
  cases t with
  | lett a b c =>
    simp only [Tm.bytes,List.cons_append,List.append_assoc] at h2
    injection h2 with h0 h2
    exact ⟨a,b,c,_,_,rfl,⟨h1.1,h2⟩,⟨h1.2.1,rfl⟩,h1.2.2,rfl⟩
  | _=>simp [Tm.bytes] at h2
theorem two_tat {k:UInt8} (hk:k=64∨k=108∨k=112) {l q r:List UInt8} {a b:Tm} (ha:Tat l a q) (hb:Tat q b r):Tat (k :: l) (two k a b) r:=by
  refine ⟨two_ok ha.1 hb.1,?_⟩
  rw [two_bytes hk,ha.2,hb.2]
  simp
theorem three_tat {l p q r:List UInt8} {a b c:Tm} (ha:Tat l a p) (hb:Tat p b q) (hc:Tat q c r):Tat (116 :: l) (.lett a b c) r:=by
  refine ⟨⟨ha.1,hb.1,hc.1⟩,?_⟩
  rw [ha.2,hb.2,hc.2]
  simp [Tm.bytes]
theorem Tm.Ok.lim:∀ {t:Tm},t.Ok→t.Lim 999
  | .var _,h=>h
  | .sort _,_=>trivial
  | .const _ _,_=>trivial
  | .app _ _,h=>⟨h.1.lim,h.2.lim⟩
  | .lam _ _,h=>⟨h.1.lim,h.2.lim⟩
  | .pi _ _,h=>⟨h.1.lim,h.2.lim⟩
  | .lett _ _ _,h=>⟨h.1.lim,h.2.1.lim,h.2.2.lim⟩
theorem Tm.Lim.mono {m n:Nat} (hmn:m≤n):∀ {t:Tm},t.Lim m→t.Lim n
  | .var _,h=>Nat.le_trans h hmn
  | .sort _,_=>trivial
  | .const _ _,_=>trivial
  | .app _ _,h=>⟨Tm.Lim.mono hmn h.1,Tm.Lim.mono hmn h.2⟩
  | .lam _ _,h=>⟨Tm.Lim.mono hmn h.1,Tm.Lim.mono hmn h.2⟩
  | .pi _ _,h=>⟨Tm.Lim.mono hmn h.1,Tm.Lim.mono hmn h.2⟩
  | .lett _ _ _,h=>⟨Tm.Lim.mono hmn h.1,Tm.Lim.mono hmn h.2.1,Tm.Lim.mono hmn h.2.2⟩
theorem Tm.Ok.lim9 {t:Tm} (h:t.Ok):t.Lim 9999:=Tm.Lim.mono (by decide) h.lim
def IRep (W:World):Tm→Value→Prop
  | .var n,v=>∃ g,v=.iface 68 (.pointer (some ⟨g,0,none⟩))∧W.heap[g]?=some (.cells #[.int .i64 (n:Int)] 70 (0,0))
  | .sort l,v=>∃ g,v=.iface 71 (.pointer (some ⟨g,0,none⟩))∧W.heap[g]?=some (.cells #[.string ⟨l.toArray⟩] 73 (0,0))
  | .const n ls,v=>∃ g u,v=.iface 74 (.pointer (some ⟨g,0,none⟩))∧W.heap[g]?=some (.cells #[.string ⟨n.toArray⟩,u] 76 (0,0))∧W.ownsRow 0 9 1 u ls.length (ls.map sv)
  | .app f a,v=>∃ g x y,v=.iface 80 (.pointer (some ⟨g,0,none⟩))∧W.heap[g]?=some (.cells #[x,y] 82 (0,0))∧IRep W f x∧IRep W a y
  | .lam f a,v=>∃ g x y,v=.iface 83 (.pointer (some ⟨g,0,none⟩))∧W.heap[g]?=some (.cells #[x,y] 85 (0,0))∧IRep W f x∧IRep W a y
  | .pi f a,v=>∃ g x y,v=.iface 50 (.pointer (some ⟨g,0,none⟩))∧W.heap[g]?=some (.cells #[x,y] 52 (0,0))∧IRep W f x∧IRep W a y
  | .lett f a b,v=>∃ g x y z,v=.iface 86 (.pointer (some ⟨g,0,none⟩))∧W.heap[g]?=some (.cells #[x,y,z] 88 (0,0))∧IRep W f x∧IRep W a y∧IRep W b z
def TmTy (e:TypeId):Bool:=e == 9 || e == 70 || e == 73 || e == 76 || e == 82 || e == 85 || e == 52 || e == 88
def NoStr (W:World) (row:Option Nat):Prop:=∀ k cs e fr,row=some k→TmTy e=true→W.heap[k]?≠some (.cells cs e fr)
theorem NoStr.none (W:World):NoStr W none:=fun _ _ _ _ h=>by cases h
theorem NoStr.own {W:World} {b z n:Nat} {e:TypeId} {v:Value} {xs:List Value} (h:W.ownsRow b e z v n xs) (he:TmTy e=false):NoStr W v.ownBlock:=by
  intro k cs e' fr hk ht hh
  rcases h.2 with ⟨rfl,_⟩ | ⟨g,cap,cur,rfl,_,hg,_⟩
  · cases hk
  · simp only [Value.ownBlock,Option.some.injEq] at hk
    subst hk
    rw [hg] at hh
    simp only [Option.some.injEq,Obj.cells.injEq] at hh
    rw [← hh.2.1,he] at ht
    cases ht
theorem heap_grown {W W':World} {row:Option Nat} (hg:W.grownBy W' row) (hn:NoStr W row) {g:Nat} {cs:Array Value} {e:TypeId} {fr:Nat × Nat} (he:TmTy e=true) (h:W.heap[g]?=some (.cells cs e fr)):W'.heap[g]?=some (.cells cs e fr):=by
  rw [hg.block g (heap_lt h) (fun e'=>hn g cs e fr e'.symm he h)]
  exact h
theorem row_grown {W W':World} {b z n:Nat} {v:Value} {xs:List Value} {row:Option Nat} (h:W.ownsRow b 9 z v n xs) (hg:W.grownBy W' row) (hn:NoStr W row):W'.ownsRow b 9 z v n xs:=by
  refine h.kept hg ?_
  rcases h.2 with ⟨rfl,_⟩ | ⟨g,cap,cur,rfl,_,hh,_⟩
  · exact .inl rfl
  · exact .inr fun e=>hn g cur _ _ e.symm (by decide) hh
theorem IRep.grown {W W':World} {row:Option Nat} (hg:W.grownBy W' row) (hn:NoStr W row):∀ {t:Tm} {v:Value},IRep W t v→IRep W' t v
  | .var _,_,⟨g,h1,h0⟩=>⟨g,h1,heap_grown hg hn (by decide) h0⟩
  | .sort _,_,⟨g,h1,h0⟩=>⟨g,h1,heap_grown hg hn (by decide) h0⟩
  | .const _ _,_,⟨g,u,h1,h0,h2⟩=>⟨g,u,h1,heap_grown hg hn (by decide) h0,row_grown h2 hg hn⟩
  | .app _ _,_,⟨g,x,y,h1,h0,h2,h3⟩=>⟨g,x,y,h1,heap_grown hg hn (by decide) h0,IRep.grown hg hn h2,IRep.grown hg hn h3⟩
  | .lam _ _,_,⟨g,x,y,h1,h0,h2,h3⟩=>⟨g,x,y,h1,heap_grown hg hn (by decide) h0,IRep.grown hg hn h2,IRep.grown hg hn h3⟩
  | .pi _ _,_,⟨g,x,y,h1,h0,h2,h3⟩=>⟨g,x,y,h1,heap_grown hg hn (by decide) h0,IRep.grown hg hn h2,IRep.grown hg hn h3⟩
  | .lett _ _ _,_,⟨g,x,y,z,h1,h0,h2,h3,h4⟩=>⟨g,x,y,z,h1,heap_grown hg hn (by decide) h0,IRep.grown hg hn h2,IRep.grown hg hn h3,IRep.grown hg hn h4⟩
theorem alloc_grown (W:World) (o:Obj) (row:Option Nat):W.grownBy (W.alloc o) row:=grownBy_of_below (Below.alloc (Below.refl _ _) (Nat.le_refl _) _) _
theorem IRep.below {W W':World} (hb:Below W.heap.size W W') {t:Tm} {v:Value} (h:IRep W t v):IRep W' t v:=h.grown (grownBy_of_below hb none) (NoStr.none W)
theorem RB.noStr {N:Nat} {s:ByteArray} {W:World} (h:RB N s W):NoStr W (some N):=NoStr.own (v:=.slice (some ⟨N,0,none⟩) 1 1) h (by decide)
theorem RB.alloc {N:Nat} {s:ByteArray} {W:World} (h:RB N s W) (o:Obj):RB N s (W.alloc o):=World.ownsRow.alloc h o
theorem RB.below {N:Nat} {s:ByteArray} {W W':World} (h:RB N s W) (hb:Below W.heap.size W W'):RB N s W':=own_below h hb
theorem IRep.iface {W:World} {t:Tm} {v:Value} (h:IRep W t v):∃ T x,v=.iface T x:=by
  cases t with
  | var _=>obtain ⟨_,h,_⟩:=h;exact ⟨_,_,h⟩
  | sort _=>obtain ⟨_,h,_⟩:=h;exact ⟨_,_,h⟩
  | const _ _=>obtain ⟨_,_,h,_⟩:=h;exact ⟨_,_,h⟩
  | app _ _=>obtain ⟨_,_,_,h,_⟩:=h;exact ⟨_,_,h⟩
  | lam _ _=>obtain ⟨_,_,_,h,_⟩:=h;exact ⟨_,_,h⟩
  | pi _ _=>obtain ⟨_,_,_,h,_⟩:=h;exact ⟨_,_,h⟩
  | lett _ _ _=>obtain ⟨_,_,_,_,h,_⟩:=h;exact ⟨_,_,h⟩
def NextPost (N:Nat) (l:List UInt8) (W:World) (e:Ending) (W':World):Prop :=
  W.grownBy W' (some N) ∧
  ((∃ t v r,Tat l t r∧e=.returned (.tuple #[v,.bool true])∧RB N ⟨r.toArray⟩ W'∧IRep W' t v) ∨
   ((∀ t r,¬ Tat l t r)∧e=.returned (.tuple #[.nilIface,.bool false])∧∃ s,RB N s W'))
theorem NextPost.ok {N:Nat} {l:List UInt8} {W W':World} {t:Tm} {v:Value} {r:List UInt8} (hg:W.grownBy W' (some N)) (h:Tat l t r) (hr:RB N ⟨r.toArray⟩ W') (hv:IRep W' t v) :
    NextPost N l W (.returned (.tuple #[v,.bool true])) W':=⟨hg,.inl ⟨t,v,r,h,rfl,hr,hv⟩⟩
theorem NextPost.no {N:Nat} {l:List UInt8} {W W':World} {s:ByteArray} (hg:W.grownBy W' (some N)) (h:∀ t r,¬ Tat l t r) (hr:RB N s W') :
    NextPost N l W (.returned (.tuple #[.nilIface,.bool false])) W':=⟨hg,.inr ⟨h,rfl,s,hr⟩⟩
end Go.Proofs.YtgonemalnljabaaDoor
namespace Go.Proofs
open Go.Shelf
def Tryd.laysM171_ren:Go.Shelf.Ren:=⟨fun | 171=>46 | 243=>55 | 246=>64 | 283=>69 | 284=>70 | 285=>71 | 286=>72 | 129=>74 | 317=>73 | 318=>75 | 319=>76 | 320=>77 | 337=>78 | 338=>79 | n=>n,fun | 3=>3 | 9=>9 | 2=>2 | 4=>4 | 171=>126 | 0=>0 | 53=>110 | 37=>58 | 5=>5 | 173=>129 | 212=>132 | 51=>118 | 20=>20 | 213=>133 | 46=>108 | 232=>137 | 233=>138 | n=>n,fun | 17=>3 | 18=>4 | 19=>5 | n=>n⟩
theorem Tryd.laysM171:Go.Proofs.LaysM.n171 Tryd.prog Tryd.laysM171_ren:={
 mixed:=by kernel_rfl
 f129:=Tryd.func74.trans (congrArg some (by kernel_rfl))
 f171:=Tryd.func46.trans (congrArg some (by kernel_rfl))
 f243:=Tryd.func55.trans (congrArg some (by kernel_rfl))
 f246:=Tryd.func64.trans (congrArg some (by kernel_rfl))
 f283:=Tryd.func69.trans (congrArg some (by kernel_rfl))
 f284:=Tryd.func70.trans (congrArg some (by kernel_rfl))
 f285:=Tryd.func71.trans (congrArg some (by kernel_rfl))
 f286:=Tryd.func72.trans (congrArg some (by kernel_rfl))
 f317:=Tryd.func73.trans (congrArg some (by kernel_rfl))
 f318:=Tryd.func75.trans (congrArg some (by kernel_rfl))
 f319:=Tryd.func76.trans (congrArg some (by kernel_rfl))
 f320:=Tryd.func77.trans (congrArg some (by kernel_rfl))
 f337:=Tryd.func78.trans (congrArg some (by kernel_rfl))
 f338:=Tryd.func79.trans (congrArg some (by kernel_rfl))
 t0:=Tryd.underlying0
 a0:=Tryd.isAgg0
 z0:=Tryd.sizeOf0
 v0:=Tryd.zeroValue0
 t2:=Tryd.underlying2
 a2:=Tryd.isAgg2
 z2:=Tryd.sizeOf2
 v2:=Tryd.zeroValue2
 t3:=Tryd.underlying3
 a3:=Tryd.isAgg3
 z3:=Tryd.sizeOf3
 v3:=Tryd.zeroValue3
 t4:=Tryd.underlying4
 a4:=Tryd.isAgg4
 z4:=Tryd.sizeOf4
 v4:=Tryd.zeroValue4
 t5:=Tryd.underlying5
 a5:=Tryd.isAgg5
 z5:=Tryd.sizeOf5
 v5:=Tryd.zeroValue5
 t9:=Tryd.underlying9
 a9:=Tryd.isAgg9
 z9:=Tryd.sizeOf9
 v9:=Tryd.zeroValue9
 t20:=Tryd.underlying20
 a20:=Tryd.isAgg20
 z20:=Tryd.sizeOf20
 v20:=Tryd.zeroValue20
 t37:=Tryd.underlying58
 a37:=Tryd.isAgg58
 z37:=Tryd.sizeOf58
 v37:=Tryd.zeroValue58
 t46:=Tryd.underlying108
 a46:=Tryd.isAgg108
 z46:=Tryd.sizeOf108
 v46:=Tryd.zeroValue108
 t51:=Tryd.underlying118
 a51:=Tryd.isAgg118
 z51:=Tryd.sizeOf118
 v51:=Tryd.zeroValue118
 t53:=Tryd.underlying110
 a53:=Tryd.isAgg110
 z53:=Tryd.sizeOf110
 v53:=Tryd.zeroValue110
 t171:=Tryd.underlying126
 a171:=Tryd.isAgg126
 z171:=Tryd.sizeOf126
 v171:=Tryd.zeroValue126
 t173:=Tryd.underlying129
 a173:=Tryd.isAgg129
 z173:=Tryd.sizeOf129
 v173:=Tryd.zeroValue129
 t212:=Tryd.underlying132
 a212:=Tryd.isAgg132
 z212:=Tryd.sizeOf132
 v212:=Tryd.zeroValue132
 t213:=Tryd.underlying133
 a213:=Tryd.isAgg133
 z213:=Tryd.sizeOf133
 t232:=Tryd.underlying137
 a232:=Tryd.isAgg137
 z232:=Tryd.sizeOf137
 v232:=Tryd.zeroValue137
 t233:=Tryd.underlying138
 a233:=Tryd.isAgg138
 z233:=Tryd.sizeOf138
 v233:=Tryd.zeroValue138
 g17:=by kernel_rfl
 g18:=by kernel_rfl
 g19:=by kernel_rfl
 i0:=by kernel_rfl
 i2:=by kernel_rfl
 i3:=by kernel_rfl
 i4:=by kernel_rfl
 i5:=by kernel_rfl
 i9:=by kernel_rfl
 i20:=by kernel_rfl
 i37:=by kernel_rfl
 i46:=by kernel_rfl
 i51:=by kernel_rfl
 i53:=by kernel_rfl
 i171:=by kernel_rfl
 i173:=by kernel_rfl
 i212:=by kernel_rfl
 i232:=by kernel_rfl
 i233:=by kernel_rfl
 m17:=by kernel_rfl
 m18:=by kernel_rfl
 m19:=by kernel_rfl }
open Go.RowKit Go.Sort Go.Lib in
theorem Tryd.strconv_Itoa (n:Int) (h0:-9223372036854775808≤n) (h1:n≤9223372036854775807) (w:World) (htab:Lib.TabIs Tryd.prog w "internal/strconv.uint64pow10" .u64 Lib.pow10Tab) :
  Calls Tryd.prog 46 #[.int .i64 n] w fun e w'=>e=.returned (.string ⟨(Lib.itoa n).toArray⟩)∧∃ k os,w'=grow (w.drewN k) os:=Any.strconv_Itoa Tryd.laysM171 n h0 h1 w htab
def Tryd.laysC172_ren:Go.Shelf.Ren:=⟨fun | 172=>35 | 244=>44 | 245=>45 | 247=>50 | 279=>51 | 280=>52 | 281=>53 | 282=>54 | 287=>61 | 316=>62 | 171=>46 | 205=>63 | 321=>67 | 322=>68 | 243=>55 | 246=>64 | 283=>69 | 284=>70 | 285=>71 | 286=>72 | 129=>74 | 317=>73 | 318=>75 | 319=>76 | 320=>77 | 337=>78 | 338=>79 | n=>n,fun | 9=>9 | 3=>3 | 75=>92 | 76=>93 | 4=>4 | 5=>5 | 167=>100 | 37=>58 | 0=>0 | 85=>101 | 2=>2 | 168=>103 | 53=>110 | 175=>111 | 46=>108 | 210=>115 | 127=>122 | 145=>125 | 143=>123 | 21=>21 | 171=>126 | 173=>129 | 212=>132 | 51=>118 | 20=>20 | 213=>133 | 232=>137 | 233=>138 | 80=>139 | n=>n,fun | 15=>1 | 16=>2 | 17=>3 | 18=>4 | 19=>5 | n=>n⟩
theorem Tryd.laysC172:Go.Proofs.LaysC.n172 Tryd.prog Tryd.laysC172_ren:={
 mixed:=by kernel_rfl
 f129:=Tryd.func74.trans (congrArg some (by kernel_rfl))
 f171:=Tryd.func46.trans (congrArg some (by kernel_rfl))
 f172:=Tryd.func35.trans (congrArg some (by kernel_rfl))
 f205:=Tryd.func63.trans (congrArg some (by kernel_rfl))
 f243:=Tryd.func55.trans (congrArg some (by kernel_rfl))
 f244:=Tryd.func44.trans (congrArg some (by kernel_rfl))
 f245:=Tryd.func45.trans (congrArg some (by kernel_rfl))
 f246:=Tryd.func64.trans (congrArg some (by kernel_rfl))
 f247:=Tryd.func50.trans (congrArg some (by kernel_rfl))
 f279:=Tryd.func51.trans (congrArg some (by kernel_rfl))
 f280:=Tryd.func52.trans (congrArg some (by kernel_rfl))
 f281:=Tryd.func53.trans (congrArg some (by kernel_rfl))
 f282:=Tryd.func54.trans (congrArg some (by kernel_rfl))
 f283:=Tryd.func69.trans (congrArg some (by kernel_rfl))
 f284:=Tryd.func70.trans (congrArg some (by kernel_rfl))
 f285:=Tryd.func71.trans (congrArg some (by kernel_rfl))
 f286:=Tryd.func72.trans (congrArg some (by kernel_rfl))
 f287:=Tryd.func61.trans (congrArg some (by kernel_rfl))
 f316:=Tryd.func62.trans (congrArg some (by kernel_rfl))
 f317:=Tryd.func73.trans (congrArg some (by kernel_rfl))
 f318:=Tryd.func75.trans (congrArg some (by kernel_rfl))
 f319:=Tryd.func76.trans (congrArg some (by kernel_rfl))
 f320:=Tryd.func77.trans (congrArg some (by kernel_rfl))
 f321:=Tryd.func67.trans (congrArg some (by kernel_rfl))
 f322:=Tryd.func68.trans (congrArg some (by kernel_rfl))
 f337:=Tryd.func78.trans (congrArg some (by kernel_rfl))
 f338:=Tryd.func79.trans (congrArg some (by kernel_rfl))
 t0:=Tryd.underlying0
 a0:=Tryd.isAgg0
 z0:=Tryd.sizeOf0
 v0:=Tryd.zeroValue0
 t2:=Tryd.underlying2
 a2:=Tryd.isAgg2
 z2:=Tryd.sizeOf2
 v2:=Tryd.zeroValue2
 t3:=Tryd.underlying3
 a3:=Tryd.isAgg3
 z3:=Tryd.sizeOf3
 v3:=Tryd.zeroValue3
 t4:=Tryd.underlying4
 a4:=Tryd.isAgg4
 z4:=Tryd.sizeOf4
 v4:=Tryd.zeroValue4
 t5:=Tryd.underlying5
 a5:=Tryd.isAgg5
 z5:=Tryd.sizeOf5
 v5:=Tryd.zeroValue5
 t9:=Tryd.underlying9
 a9:=Tryd.isAgg9
 z9:=Tryd.sizeOf9
 v9:=Tryd.zeroValue9
 t20:=Tryd.underlying20
 a20:=Tryd.isAgg20
 z20:=Tryd.sizeOf20
 v20:=Tryd.zeroValue20
 t21:=Tryd.underlying21
 a21:=Tryd.isAgg21
 z21:=Tryd.sizeOf21
 v21:=Tryd.zeroValue21
 t37:=Tryd.underlying58
 a37:=Tryd.isAgg58
 z37:=Tryd.sizeOf58
 v37:=Tryd.zeroValue58
 t46:=Tryd.underlying108
 a46:=Tryd.isAgg108
 z46:=Tryd.sizeOf108
 v46:=Tryd.zeroValue108
 t51:=Tryd.underlying118
 a51:=Tryd.isAgg118
 z51:=Tryd.sizeOf118
 v51:=Tryd.zeroValue118
 t53:=Tryd.underlying110
 a53:=Tryd.isAgg110
 z53:=Tryd.sizeOf110
 v53:=Tryd.zeroValue110
 t75:=Tryd.underlying92
 a75:=Tryd.isAgg92
 z75:=Tryd.sizeOf92
 v75:=Tryd.zeroValue92
 t76:=Tryd.underlying93
 a76:=Tryd.isAgg93
 z76:=Tryd.sizeOf93
 v76:=Tryd.zeroValue93
 t85:=Tryd.underlying101
 a85:=Tryd.isAgg101
 z85:=Tryd.sizeOf101
 v85:=Tryd.zeroValue101
 t127:=Tryd.underlying122
 a127:=Tryd.isAgg122
 z127:=Tryd.sizeOf122
 v127:=Tryd.zeroValue122
 t143:=Tryd.underlying123
 a143:=Tryd.isAgg123
 z143:=Tryd.sizeOf123
 v143:=Tryd.zeroValue123
 t145:=Tryd.underlying125
 a145:=Tryd.isAgg125
 z145:=Tryd.sizeOf125
 v145:=Tryd.zeroValue125
 t167:=Tryd.underlying100
 a167:=Tryd.isAgg100
 z167:=Tryd.sizeOf100
 v167:=Tryd.zeroValue100
 t168:=Tryd.underlying103
 a168:=Tryd.isAgg103
 z168:=Tryd.sizeOf103
 v168:=Tryd.zeroValue103
 t171:=Tryd.underlying126
 a171:=Tryd.isAgg126
 z171:=Tryd.sizeOf126
 v171:=Tryd.zeroValue126
 t173:=Tryd.underlying129
 a173:=Tryd.isAgg129
 z173:=Tryd.sizeOf129
 v173:=Tryd.zeroValue129
 t175:=Tryd.underlying111
 a175:=Tryd.isAgg111
 z175:=Tryd.sizeOf111
 v175:=Tryd.zeroValue111
 t210:=Tryd.underlying115
 a210:=Tryd.isAgg115
 z210:=Tryd.sizeOf115
 v210:=Tryd.zeroValue115
 t212:=Tryd.underlying132
 a212:=Tryd.isAgg132
 z212:=Tryd.sizeOf132
 v212:=Tryd.zeroValue132
 t213:=Tryd.underlying133
 a213:=Tryd.isAgg133
 z213:=Tryd.sizeOf133
 t232:=Tryd.underlying137
 a232:=Tryd.isAgg137
 z232:=Tryd.sizeOf137
 v232:=Tryd.zeroValue137
 t233:=Tryd.underlying138
 a233:=Tryd.isAgg138
 z233:=Tryd.sizeOf138
 v233:=Tryd.zeroValue138
 g15:=by kernel_rfl
 g16:=by kernel_rfl
 g17:=by kernel_rfl
 g18:=by kernel_rfl
 g19:=by kernel_rfl
 t80:=Tryd.underlying139
 a80:=Tryd.isAgg139
 z80:=Tryd.sizeOf139
 v80:=Tryd.zeroValue139
 i0:=by kernel_rfl
 i2:=by kernel_rfl
 i3:=by kernel_rfl
 i4:=by kernel_rfl
 i5:=by kernel_rfl
 i9:=by kernel_rfl
 i20:=by kernel_rfl
 i21:=by kernel_rfl
 i37:=by kernel_rfl
 i46:=by kernel_rfl
 i51:=by kernel_rfl
 i53:=by kernel_rfl
 i75:=by kernel_rfl
 i76:=by kernel_rfl
 i80:=by kernel_rfl
 i85:=by kernel_rfl
 i127:=by kernel_rfl
 i143:=by kernel_rfl
 i145:=by kernel_rfl
 i167:=by kernel_rfl
 i168:=by kernel_rfl
 i171:=by kernel_rfl
 i173:=by kernel_rfl
 i175:=by kernel_rfl
 i210:=by kernel_rfl
 i212:=by kernel_rfl
 i232:=by kernel_rfl
 i233:=by kernel_rfl
 m15:=by kernel_rfl
 m16:=by kernel_rfl
 m17:=by kernel_rfl
 m18:=by kernel_rfl
 m19:=by kernel_rfl
 c0:=by kernel_rfl
 c2:=by kernel_rfl
 c3:=by kernel_rfl
 c4:=by kernel_rfl
 c5:=by kernel_rfl
 c9:=by kernel_rfl
 c20:=by kernel_rfl
 c21:=by kernel_rfl
 c37:=by kernel_rfl
 c46:=by kernel_rfl
 c51:=by kernel_rfl
 c53:=by kernel_rfl
 c75:=by kernel_rfl
 c76:=by kernel_rfl
 c80:=by kernel_rfl
 c85:=by kernel_rfl
 c127:=by kernel_rfl
 c143:=by kernel_rfl
 c145:=by kernel_rfl
 c167:=by kernel_rfl
 c168:=by kernel_rfl
 c171:=by kernel_rfl
 c173:=by kernel_rfl
 c175:=by kernel_rfl
 c210:=by kernel_rfl
 c212:=by kernel_rfl
 c213:=by kernel_rfl
 c232:=by kernel_rfl
 c233:=by kernel_rfl }
open Go.RowKit in
theorem Tryd.strconv_Atoi_ok (s:ByteArray) (hmax:s.size≤9223372036854775806) (v:Int) (h:Lib.atoiAll s.data.toList=.ok v) (w:World) :
  Calls Tryd.prog 35 #[.string s] w fun e w'=>e=.returned (.tuple #[.int .i64 v,.nilIface])∧(w'=w∨∃ t,w'=Lib.bytesWorld w 5 t):=Any.strconv_Atoi_ok Tryd.laysC172 s hmax v h w
end Go.Proofs
