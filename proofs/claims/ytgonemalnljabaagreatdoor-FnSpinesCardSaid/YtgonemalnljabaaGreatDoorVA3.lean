/- TDig TLeaf TConst TLeafS TLeafO -/
import Derived.Test.YtgonemalnljabaaGreatDoorVA1
import Derived.Test.YtgonemalnljabaaGreatDoorVA2
set_option maxRecDepth 100000
set_option maxHeartbeats 16000000
set_option linter.unusedSimpArgs false
set_option linter.unusedVariables false
namespace Go.Proofs.YtgonemalnljabaaGreatDoor
open Go.ChangeShapes Go.WideShapes Go.ChangeAt Go.RowKit
structure Nd where
 kind:UInt8
 a:Nat
 b:Nat
 c:Nat
 num:Nat
 text:List UInt8
 lv:Value
def Nd.cells (n:Nd):List Value:=[.int .u8 (n.kind.toNat:Int),.int .i64 (n.a:Int),.int .i64 (n.b:Int),.int .i64 (n.c:Int),.int .i64 (n.num:Int),.string ⟨n.text.toArray⟩,n.lv]
def Tm.isLeaf:Tm→Bool
 | .var _=>true
 | .sort _=>true
 | .const _ _=>true
 | _=>false
def LeafIs (W:World) (B:Nat) (nd:Nd):Tm→Prop
 | .var n=>nd.kind=118∧nd.num=n∧nd.lv=.slice none 0 0
 | .sort l=>nd.kind=115∧nd.text=l∧nd.lv=.slice none 0 0
 | .const nm ls=>nd.kind=99∧nd.text=nm∧W.ownsRow B 9 1 nd.lv ls.length (ls.map sv)
 | _=>False
theorem tat_head {l:List UInt8} {p:Nat} {t:Tm} {r:List UInt8} (hp:p < l.length) (h:Tat (l.drop p) t r):t.kind=l[p]:=by
 obtain ⟨x,hx⟩:=t.bytes_head
 have h2:=h.2
 rw [List.drop_eq_getElem_cons hp,hx,List.cons_append] at h2
 injection h2 with h2 _
 exact h2.symm
theorem kind_const {t:Tm} (h:t.kind=99):∃ n ls,t=.const n ls:=by
 cases t with
 | const n ls=>exact ⟨n,ls,rfl⟩
 | _=>exact absurd h (by simp only [Tm.kind];decide)
def boxW (w:World) (k:Int):World:=(w.alloc (.cells #[.int .u8 0,.int .i64 0,.int .i64 0,.int .i64 0,.int .i64 0,.string ⟨#[]⟩,.slice none 0 0] 96)).alloc (.cells #[.int .u8 k,.int .i64 0,.int .i64 0,.int .i64 0,.int .i64 0,.string ⟨#[]⟩,.slice none 0 0] 96)
theorem box_res {w w1:World} {k:Int} (hb:Below (boxW w k).heap.size (boxW w k) w1):w1.cell? ⟨w.heap.size,0,none⟩=some (.int .u8 0)∧w1.cell? ⟨w.heap.size,1,none⟩=some (.int .i64 0)∧w1.cell? ⟨w.heap.size,2,none⟩=some (.int .i64 0)∧w1.cell? ⟨w.heap.size,3,none⟩=some (.int .i64 0)∧w1.cell? ⟨w.heap.size,4,none⟩=some (.int .i64 0)∧w1.cell? ⟨w.heap.size,5,none⟩=some (.string ⟨#[]⟩)∧w1.cell? ⟨w.heap.size,6,none⟩=some (.slice none 0 0):=by
 unfold boxW at hb
 have h:=fun i=>(hb.cell (p:=⟨w.heap.size,i,none⟩) (by simp;omega))
 refine ⟨(h 0).trans ?_,(h 1).trans ?_,(h 2).trans ?_,(h 3).trans ?_,(h 4).trans ?_,(h 5).trans ?_,(h 6).trans ?_⟩<;>simp [go_sem]
theorem box_resF {w w1:World} {k:Int} (hb:Below (boxW w k).heap.size (boxW w k) w1):w1.frozen? ⟨w.heap.size,0,none⟩=false∧w1.frozen? ⟨w.heap.size,1,none⟩=false∧w1.frozen? ⟨w.heap.size,2,none⟩=false∧w1.frozen? ⟨w.heap.size,3,none⟩=false∧w1.frozen? ⟨w.heap.size,4,none⟩=false∧w1.frozen? ⟨w.heap.size,5,none⟩=false∧w1.frozen? ⟨w.heap.size,6,none⟩=false:=by
 unfold boxW at hb
 have h:=fun i=>(hb.frozen (p:=⟨w.heap.size,i,none⟩) (by simp;omega))
 refine ⟨(h 0).trans ?_,(h 1).trans ?_,(h 2).trans ?_,(h 3).trans ?_,(h 4).trans ?_,(h 5).trans ?_,(h 6).trans ?_⟩<;>simp
theorem box_node {w w1:World} {k:Int} (hb:Below (boxW w k).heap.size (boxW w k) w1):w1.cell? ⟨w.heap.size+1,0,none⟩=some (.int .u8 k)∧w1.cell? ⟨w.heap.size+1,1,none⟩=some (.int .i64 0)∧w1.cell? ⟨w.heap.size+1,2,none⟩=some (.int .i64 0)∧w1.cell? ⟨w.heap.size+1,3,none⟩=some (.int .i64 0)∧w1.cell? ⟨w.heap.size+1,4,none⟩=some (.int .i64 0)∧w1.cell? ⟨w.heap.size+1,5,none⟩=some (.string ⟨#[]⟩)∧w1.cell? ⟨w.heap.size+1,6,none⟩=some (.slice none 0 0):=by
 unfold boxW at hb
 have h:=fun i=>(hb.cell (p:=⟨w.heap.size+1,i,none⟩) (by simp))
 refine ⟨(h 0).trans ?_,(h 1).trans ?_,(h 2).trans ?_,(h 3).trans ?_,(h 4).trans ?_,(h 5).trans ?_,(h 6).trans ?_⟩<;>simp [go_sem]
theorem box_nodeF {w w1:World} {k:Int} (hb:Below (boxW w k).heap.size (boxW w k) w1):w1.frozen? ⟨w.heap.size+1,0,none⟩=false∧w1.frozen? ⟨w.heap.size+1,1,none⟩=false∧w1.frozen? ⟨w.heap.size+1,2,none⟩=false∧w1.frozen? ⟨w.heap.size+1,3,none⟩=false∧w1.frozen? ⟨w.heap.size+1,4,none⟩=false∧w1.frozen? ⟨w.heap.size+1,5,none⟩=false∧w1.frozen? ⟨w.heap.size+1,6,none⟩=false:=by
 unfold boxW at hb
 have h:=fun i=>(hb.frozen (p:=⟨w.heap.size+1,i,none⟩) (by simp))
 refine ⟨(h 0).trans ?_,(h 1).trans ?_,(h 2).trans ?_,(h 3).trans ?_,(h 4).trans ?_,(h 5).trans ?_,(h 6).trans ?_⟩<;>simp
theorem at_after {l:List UInt8} {p:Nat} {x:List UInt8} {c:UInt8} {r:List UInt8} (h:l.drop p=x ++ c :: r):∃ hj:p+x.length < l.length,l[p+x.length]=c:=by
 have e:(l.drop p)[x.length]?=l[p+x.length]?:=by rw [List.getElem?_drop]
 rw [h,List.getElem?_append_right (Nat.le_refl _),Nat.sub_self,List.getElem?_cons_zero] at e
 by_cases hc:p+x.length < l.length
 ·rw [List.getElem?_eq_getElem hc] at e
  injection e with e
  exact ⟨hc,e.symm⟩
 ·rw [List.getElem?_eq_none (by omega)] at e;cases e
theorem tat_tail {l r:List UInt8} {p:Nat} {t:Tm} {x:List UInt8} (h:Tat (l.drop p) t r) (hx:t.bytes=t.kind :: x):l.drop (p+1)=x ++ r:=by
 have:=congrArg (List.drop 1) h.2
 rw [List.drop_drop,hx,List.cons_append,List.drop_succ_cons,List.drop_zero] at this
 exact this
theorem const_parts {l r:List UInt8} {p:Nat} {nm:List UInt8} {ls:List (List UInt8)} (h:Tat (l.drop p) (.const nm ls) r):l.drop (p+1)=nm ++ 59 :: (lvsB ls ++ 46 :: r):=by
 have:=tat_tail h (x:=nm ++ 59 :: (lvsB ls ++ [46])) rfl
 rw [this]
 simp
def RunN (l:List UInt8) (p j:Nat):Prop :=
 p+1+j≤l.length∧(∀ i (h:p+1+i < l.length),i < j→l[p+1+i]≠59)∧(p+1+j=l.length∨j=41∨∃ h:p+1+j < l.length,l[p+1+j]=59)
theorem runN_of {l R:List UInt8} {p j:Nat} {nm:List UInt8} (hrun:RunN l p j) (hnm:nameOk nm=true) (h2:l.drop (p+1)=nm ++ 59 :: R) :
  (∃ h:p+1+j < l.length,l[p+1+j]=59)∧(l.drop (p+1)).take j=nm∧l.drop (p+1+j+1)=R:=by
 have h40:=nameOk_len hnm
 have h59:=name_no59 hnm
 have hat:∀ i,i < nm.length+1→∃ hi:p+1+i < l.length,l[p+1+i]?=(nm ++ 59 :: R)[i]?:=fun i hi=>by
  have e:(l.drop (p+1))[i]?=l[p+1+i]?:=by rw [List.getElem?_drop]
  rw [h2] at e
  have hlt:i < (nm ++ 59 :: R).length:=by simp;omega
  rw [List.getElem?_eq_getElem hlt] at e
  refine ⟨?_,by rw [← e,List.getElem?_eq_getElem hlt]⟩
  by_cases hc:p+1+i < l.length
  ·exact hc
  ·rw [List.getElem?_eq_none (by omega)] at e;cases e
 obtain ⟨r1,r2,r3⟩:=hrun
 obtain ⟨hkl,ek⟩:=hat nm.length (by omega)
 rw [List.getElem?_eq_getElem hkl,List.getElem?_append_right (Nat.le_refl _),Nat.sub_self,List.getElem?_cons_zero] at ek
 injection ek with ek
 have hjk:j=nm.length:=by
  rcases Nat.lt_trichotomy j nm.length with hlt | heq | hgt
  ·exfalso
   rcases r3 with r3 | r3 | ⟨r3,r4⟩
   ·have:=(hat j (by omega)).1;omega
   ·omega
   ·obtain ⟨_,e⟩:=hat j (by omega)
    rw [List.getElem?_eq_getElem r3,List.getElem?_append_left hlt,List.getElem?_eq_getElem hlt] at e
    injection e with e
    rw [r4] at e
    exact h59 (e ▸ List.getElem_mem hlt)
  ·exact heq
  ·exact absurd ek (r2 _ hkl hgt)
 subst hjk
 refine ⟨⟨hkl,ek⟩,by rw [h2];simp,?_⟩
 have e3:l.drop (p+1+nm.length)=59 :: R:=by rw [← List.drop_drop,h2,List.drop_left]
 rw [← List.drop_drop,e3]
 rfl
theorem lvs_prefix:∀ {a b:List (List UInt8)} {X r:List UInt8},(∀ x∈a,levelOk x=true)→(∀ x∈b,levelOk x=true)→lvsB a ++ X=lvsB b ++ 46 :: r→∃ c,b=a ++ c∧X=lvsB c ++ 46 :: r
 | [],b,X,r,_,_,h=>⟨b,rfl,h⟩
 | x :: a,[],X,r,hx,_,h=>by
  rw [lvsB,lvsB,List.append_assoc] at h
  exact absurd h (levelOk_not46 (hx x List.mem_cons_self))
 | x :: a,y :: b,X,r,hx,hy,h=>by
  rw [lvsB,lvsB,List.append_assoc,List.append_assoc,List.cons_append,List.cons_append] at h
  obtain ⟨h1,h2⟩:=levelOk_uniq (hx x List.mem_cons_self) (hy y List.mem_cons_self) h
  injection h2 with _ h2
  obtain ⟨c,h3,h4⟩:=lvs_prefix (fun z hz=>hx z (List.mem_cons_of_mem _ hz)) (fun z hz=>hy z (List.mem_cons_of_mem _ hz)) h2
  exact ⟨c,by rw [h1,h3];rfl,h4⟩
structure ConstUpTo (l:List UInt8) (p j:Nat) (ls:List (List UInt8)) (q:Nat):Prop where
 run:RunN l p j
 semi:∃ h:p+1+j < l.length,l[p+1+j]=59
 name:nameOk ((l.drop (p+1)).take j)=true
 ok:∀ x∈ls,levelOk x=true
 le:ls.length≤3
 text:l.drop (p+1+j+1)=lvsB ls ++ l.drop q
 at':q=p+1+j+1+(lvsB ls).length
 lt:q≤l.length
theorem ConstUpTo.start {l:List UInt8} {p j:Nat} (h1:RunN l p j) (h2:∃ h:p+1+j < l.length,l[p+1+j]=59) (h3:nameOk ((l.drop (p+1)).take j)=true):ConstUpTo l p j [] (p+1+j+1) := ⟨h1,h2,h3,fun x hx=>by simp at hx,by simp,rfl,by simp [lvsB],by obtain ⟨h,_⟩:=h2;omega⟩
theorem ConstUpTo.next {l:List UInt8} {p j q k:Nat} {ls:List (List UInt8)} (h:ConstUpTo l p j ls q) (hk:lend 1 (l.drop q)=some k) (h60:k≤60) (h3:ls.length < 3) (hm:q+k < l.length) (h44:l[q+k]=44) :
  ConstUpTo l p j (ls ++ [(l.drop q).take k]) (q+k+1):=by
 have hlen:((l.drop q).take k).length=k:=by simp;omega
 have e2:l.drop q=(l.drop q).take k ++ l.drop (q+k):=by rw [show l.drop (q+k)=(l.drop q).drop k by rw [List.drop_drop]];exact (List.take_append_drop _ _).symm
 have e:l.drop (q+k)=44 :: l.drop (q+k+1):=by rw [List.drop_eq_getElem_cons hm,h44]
 refine ⟨h.run,h.semi,h.name,fun x hx=>?_,by simp;omega,?_,?_,by omega⟩
 ·rcases List.mem_append.1 hx with hx | hx
  ·exact h.ok x hx
  ·simp only [List.mem_cons,List.not_mem_nil,or_false] at hx
   subst hx
   exact levelOk_take hk h60
 ·rw [h.text,lvsB_append,List.append_assoc]
  congr 1
  simp only [lvsB,List.append_assoc,List.cons_append,List.nil_append]
  rw [← e]
  exact e2
 ·rw [lvsB_append,List.length_append,← Nat.add_assoc,← h.at']
  simp only [lvsB,List.length_append,List.length_cons,List.length_nil,hlen]
  omega
theorem ConstUpTo.done {l:List UInt8} {p j q:Nat} {ls:List (List UInt8)} (h:ConstUpTo l p j ls q) (hc:∃ hp:p < l.length,l[p]=99) (hm:q < l.length) (h46:l[q]=46) :
  Tat (l.drop p) (.const ((l.drop (p+1)).take j) ls) (l.drop (q+1))∧p+(Tm.const ((l.drop (p+1)).take j) ls).bytes.length=q+1:=by
 obtain ⟨hp,hc⟩:=hc
 obtain ⟨hs,h59⟩:=h.semi
 have hlen:((l.drop (p+1)).take j).length=j:=by simp;omega
 have e46:l.drop q=46 :: l.drop (q+1):=by rw [List.drop_eq_getElem_cons hm,h46]
 have e59:l.drop (p+1+j)=59 :: l.drop (p+1+j+1):=by rw [List.drop_eq_getElem_cons hs,h59]
 have e2:l.drop (p+1)=(l.drop (p+1)).take j ++ l.drop (p+1+j):=by rw [show l.drop (p+1+j)=(l.drop (p+1)).drop j by rw [List.drop_drop]];exact (List.take_append_drop _ _).symm
 refine ⟨⟨⟨h.name,h.le,h.ok⟩,?_⟩,?_⟩
 ·rw [Tm.bytes,List.drop_eq_getElem_cons hp,hc]
  simp only [List.cons_append,List.append_assoc,List.nil_append]
  congr 1
  rw [← e46,← h.text,← e59]
  exact e2
 ·have:=h.at'
  simp only [Tm.bytes,List.length_cons,List.length_append,hlen,List.length_nil]
  omega
theorem ConstUpTo.no {l:List UInt8} {p j q:Nat} {ls:List (List UInt8)} (h:ConstUpTo l p j ls q) (hp:p < l.length) (hc:l[p]=99)
  (hn:l.length≤q∨((∃ hq:q < l.length,l[q]≠46)∧(lend 1 (l.drop q)=none∨3≤ls.length∨∃ k,lend 1 (l.drop q)=some k∧(60 < k∨l.length≤q+k∨∃ h:q+k < l.length,l[q+k]≠44)))):∀ t r,Tat (l.drop p) t r→t.isLeaf=false:=by
 intro t r ht
 exfalso
 obtain ⟨nm,ms,rfl⟩:=kind_const ((tat_head hp ht).trans hc)
 obtain ⟨_,_,h3⟩:=runN_of h.run ht.1.1 (const_parts ht)
 rw [h.text] at h3
 obtain ⟨c,h4,h5⟩:=lvs_prefix h.ok ht.1.2.2 h3
 rcases hn with hn | ⟨⟨hq,h46⟩,hn⟩
 ·rw [List.drop_eq_nil_of_le hn] at h5
  cases c with
  | nil=>cases h5
  | cons x c =>
   have:=congrArg List.length h5
   simp at this
 ·cases c with
  | nil =>
   rw [List.drop_eq_getElem_cons hq] at h5
   injection h5 with h5 _
   exact h46 h5
  | cons x c =>
   have hx:levelOk x=true:=ht.1.2.2 x (by rw [h4];simp)
   have h6:l.drop q=x ++ 44 :: (lvsB c ++ 46 :: r):=by rw [h5,lvsB,List.append_assoc];rfl
   have h7:=levelOk_app (r:=44 :: (lvsB c ++ 46 :: r)) hx
   rw [← h6] at h7
   obtain ⟨h8,h9⟩:=at_after h6
   have h10:=(levelOk_len hx).1
   have h11:=ht.1.2.1
   rw [h4] at h11
   simp at h11
   rcases hn with hn | hn | ⟨k,hn,hn'⟩
   ·rw [hn] at h7;cases h7
   ·omega
   ·rw [hn] at h7
    injection h7 with h7
    subst h7
    rcases hn' with hn' | hn' | ⟨hn',h12⟩
    ·omega
    ·omega
    ·exact h12 h9
structure Box (w wr:World) (k:Int) (tx:ByteArray) (lv:Value):Prop where
 r:∀ i v,[Value.int .u8 0,.int .i64 0,.int .i64 0,.int .i64 0,.int .i64 0,.string ⟨#[]⟩,.slice none 0 0][i]?=some v→wr.cell? ⟨w.heap.size,i,none⟩=some v
 rf:∀ i,i < 7→wr.frozen? ⟨w.heap.size,i,none⟩=false
 n:∀ i v,[Value.int .u8 k,.int .i64 0,.int .i64 0,.int .i64 0,.int .i64 0,.string tx,lv][i]?=some v→wr.cell? ⟨w.heap.size+1,i,none⟩=some v
 nf:∀ i,i < 7→wr.frozen? ⟨w.heap.size+1,i,none⟩=false
 bel:Below w.heap.size w wr
 sz:w.heap.size+2≤wr.heap.size
theorem Box.start (w:World) (k:Int):Box w (boxW w k) k ⟨#[]⟩ (.slice none 0 0):=by
 have hb:=Below.refl (boxW w k).heap.size (boxW w k)
 obtain ⟨r0,r1,r2,r3,r4,r5,r6⟩:=box_res hb
 obtain ⟨z0,z1,z2,z3,z4,z5,z6⟩:=box_resF hb
 obtain ⟨n0,n1,n2,n3,n4,n5,n6⟩:=box_node hb
 obtain ⟨y0,y1,y2,y3,y4,y5,y6⟩:=box_nodeF hb
 refine ⟨fun i v h=>?_,fun i h=>?_,fun i v h=>?_,fun i h=>?_,((Below.refl w.heap.size w).alloc (Nat.le_refl _) _).alloc (by simp) _,by simp [boxW]⟩
 ·match i,h with
  | 0,h=>cases h;exact r0
  | 1,h=>cases h;exact r1
  | 2,h=>cases h;exact r2
  | 3,h=>cases h;exact r3
  | 4,h=>cases h;exact r4
  | 5,h=>cases h;exact r5
  | 6,h=>cases h;exact r6
  | i+7,h=>simp at h
 ·match i,h with
  | 0,_=>exact z0
  | 1,_=>exact z1
  | 2,_=>exact z2
  | 3,_=>exact z3
  | 4,_=>exact z4
  | 5,_=>exact z5
  | 6,_=>exact z6
  | i+7,h=>omega
 ·match i,h with
  | 0,h=>cases h;exact n0
  | 1,h=>cases h;exact n1
  | 2,h=>cases h;exact n2
  | 3,h=>cases h;exact n3
  | 4,h=>cases h;exact n4
  | 5,h=>cases h;exact n5
  | 6,h=>cases h;exact n6
  | i+7,h=>simp at h
 ·match i,h with
  | 0,_=>exact y0
  | 1,_=>exact y1
  | 2,_=>exact y2
  | 3,_=>exact y3
  | 4,_=>exact y4
  | 5,_=>exact y5
  | 6,_=>exact y6
  | i+7,h=>omega
theorem Box.grown {w wr w':World} {k:Int} {tx:ByteArray} {lv:Value} {row:Option Nat} (h:Box w wr k tx lv) (hg:wr.grownBy w' row) (hr:∀ g,row=some g→w.heap.size+2≤g):Box w w' k tx lv:=by
 have b0:w'.heap[w.heap.size]?=wr.heap[w.heap.size]?:=hg.block _ (by have:=h.sz;omega) (fun e=>by have:=hr _ e.symm;omega)
 have b1:w'.heap[w.heap.size+1]?=wr.heap[w.heap.size+1]?:=hg.block _ (by have:=h.sz;omega) (fun e=>by have:=hr _ e.symm;omega)
 exact ⟨fun i v hv=>(World.cell?_of_block (a:=⟨w.heap.size,i,none⟩) b0).trans (h.r i v hv),fun i hi=>(World.frozen?_of_block (a:=⟨w.heap.size,i,none⟩) b0).trans (h.rf i hi),
  fun i v hv=>(World.cell?_of_block (a:=⟨w.heap.size+1,i,none⟩) b1).trans (h.n i v hv),fun i hi=>(World.frozen?_of_block (a:=⟨w.heap.size+1,i,none⟩) b1).trans (h.nf i hi),
  h.bel.grown hg h.bel.size (fun g hg'=>by have:=hr g hg';omega),by have:=h.sz;have:=hg.size;omega⟩
theorem Box.set {w wr:World} {k:Int} {tx tx':ByteArray} {lv lv':Value} (h:Box w wr k tx lv) (j:Nat) (u:Value) (hj:j < 7)
  (hu:∀ i v,[Value.int .u8 k,.int .i64 0,.int .i64 0,.int .i64 0,.int .i64 0,.string tx',lv'][i]?=some v→if i=j then v=u else [Value.int .u8 k,.int .i64 0,.int .i64 0,.int .i64 0,.int .i64 0,.string tx,lv][i]?=some v):Box w (wr.setCell ⟨w.heap.size+1,j,none⟩ u) k tx' lv':=by
 refine ⟨fun i v hv=>(World.cell?_setCell_other _ _ _ _ (by simp)).trans (h.r i v hv),fun i hi=>by simpa using h.rf i hi,fun i v hv=>?_,fun i hi=>by simpa using h.nf i hi,h.bel.setCell (p:=⟨w.heap.size+1,j,none⟩) (by simp) _,by simpa [World.setCell] using h.sz⟩
 have:=hu i v hv
 split at this
 ·rename_i e
  subst e
  subst this
  have hex:∃ old,[Value.int .u8 k,.int .i64 0,.int .i64 0,.int .i64 0,.int .i64 0,.string tx,lv][i]?=some old:=⟨_,List.getElem?_eq_getElem (by simpa using hj)⟩
  obtain ⟨old,hold⟩:=hex
  exact World.cell?_setCell_same _ _ _ (h.n i old hold)
 ·rename_i e
  exact (World.cell?_setCell_other _ _ _ _ (by first | (simp;done) | (simp;omega))).trans (h.n i v this)
end Go.Proofs.YtgonemalnljabaaGreatDoor
