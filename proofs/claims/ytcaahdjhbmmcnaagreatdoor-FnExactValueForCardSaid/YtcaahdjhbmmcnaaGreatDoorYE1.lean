/- EMath ENode EKeep SMath SWalks EUses InP UMath JMath ETarg InS EL4S EDom -/
import Derived.Lib.SlicesCompact
import Derived.Laws.AppendOwnNone
import Derived.Sort.Walk0
import Derived.Laws.Cover1
import Derived.Laws.ResultCell
import Derived.Deep.AppendLies
import Derived.Test.YtcaahdjhbmmcnaaGreatDoorYA1
import Derived.Test.YtcaahdjhbmmcnaaGreatDoorYF1
import Derived.Test.YtcaahdjhbmmcnaaGreatDoorYA4
import Derived.Test.YtcaahdjhbmmcnaaGreatDoorYV1
import Derived.Test.YtcaahdjhbmmcnaaGreatDoorYBase
import Derived.Test.YtcaahdjhbmmcnaaGreatDoorYG1
import Derived.Test.YtcaahdjhbmmcnaaGreatDoorYA2
import Derived.Test.YtcaahdjhbmmcnaaGreatDoorYA5
import Derived.Test.YtcaahdjhbmmcnaaGreatDoorYA6
import Derived.Test.YtcaahdjhbmmcnaaGreatDoorYE2
set_option maxRecDepth 100000
set_option maxHeartbeats 16000000
set_option linter.unusedSimpArgs false
set_option linter.unusedVariables false
namespace Go.Proofs.YtcaahdjhbmmcnaaGreatDoor
open Go
namespace Tm
def args:Tm->List Tm
 | app f a=>f.args ++ [a]
 | _=>[]
end Tm
end Go.Proofs.YtcaahdjhbmmcnaaGreatDoor
namespace Go.Proofs.YtcaahdjhbmmcnaaGreatDoor
open Go.ChangeShapes Go.WideShapes Go.ChangeAt Go.RowKit
def KeepA (B:Nat) (W W':World):Prop:=∀ e z v n xs,W.ownsRow B e z v n xs->W'.ownsRow B e z v n xs
theorem KeepA.refl (B:Nat) (W:World):KeepA B W W:=fun _ _ _ _ _ h=>h
theorem KeepA.strs {B:Nat} {W W':World} (h:KeepA B W W'):KeepS B W W':=fun v n xs hv=>h _ _ v n xs hv
theorem KeepA.step {B:Nat} {W wr w2:World} {ob:Option Nat} (h:KeepA B W wr) (hg:wr.grownBy w2 ob) (ha:∀ k,ob=some k->k < B\/W.heap.size<=k):KeepA B W w2:=fun e z v n xs hv=>by
 refine (h e z v n xs hv).kept hg ?_;rcases hb:v.ownBlock with _ | k
 ·exact .inl rfl
 ·refine .inr fun e=>?_;have h1:=hv.lt k hb;have h2:=ha k e.symm;omega
theorem KeepA.below {B:Nat} {W wr w2:World} (h:KeepA B W wr) (hb:Below wr.heap.size wr w2):KeepA B W w2:=h.step (grownBy_of_below hb none) (fun _ h=>by cases h)
end Go.Proofs.YtcaahdjhbmmcnaaGreatDoor
namespace Go.Proofs.YtcaahdjhbmmcnaaGreatDoor
abbrev BL:=List UInt8
def psh (out:List BL) (s:BL):List BL:=if out.getLast?=some s then out else out ++ [s]
def mrg (a b out:List BL):List BL :=
 match a,b with
 | [],[]=>out
 | x :: a',[]=>mrg a' [] (psh out x)
 | [],y :: b'=>mrg [] b' (psh out y)
 | x :: a',y :: b'=>if x<=y then mrg a' (y :: b') (psh out x) else mrg (x :: a') b' (psh out y)
termination_by a.length+b.length
def srt (l:List BL):List BL :=
 if h:l.length < 2 then l else mrg (srt (l.take (l.length / 2))) (srt (l.drop (l.length / 2))) []
termination_by l.length
decreasing_by
 ·simp;omega
 ·simp;omega
theorem srt_small {l:List BL} (h:l.length < 2):srt l=l:=by rw [srt,dif_pos h]
theorem srt_large {l:List BL} (h:¬ l.length < 2):srt l=mrg (srt (l.take (l.length / 2))) (srt (l.drop (l.length / 2))) []:=by rw [srt,dif_neg h]
theorem psh_len (out:List BL) (s:BL):(psh out s).length<=out.length+1:=by
 unfold psh;split<;>simp
theorem mrg_left {a b:List BL} {i k:Nat} (out:List BL) (hi:i < a.length) (h:∀ hk:k < b.length,a[i]<=b[k]):mrg (a.drop i) (b.drop k) out=mrg (a.drop (i+1)) (b.drop k) (psh out a[i]):=by
 rw [List.drop_eq_getElem_cons hi];by_cases hk:k < b.length
 ·rw [List.drop_eq_getElem_cons hk,mrg,iP (h hk)]
 ·have e:b.drop k=[]:=List.drop_eq_nil_of_le (by omega);rw [e,mrg]
theorem mrg_right {a b:List BL} {i k:Nat} (out:List BL) (hk:k < b.length) (h:∀ hi:i < a.length,¬ a[i]<=b[k]):mrg (a.drop i) (b.drop k) out=mrg (a.drop i) (b.drop (k+1)) (psh out b[k]):=by
 rw [List.drop_eq_getElem_cons hk];by_cases hi:i < a.length
 ·rw [List.drop_eq_getElem_cons hi,mrg,iN (h hi)]
 ·rw [List.drop_eq_nil_of_le (by omega),mrg]
theorem mrg_done {a b:List BL} {i k:Nat} (out:List BL) (hi:¬ i < a.length) (hk:¬ k < b.length):mrg (a.drop i) (b.drop k) out=out:=by
 rw [List.drop_eq_nil_of_le (by omega),List.drop_eq_nil_of_le (by omega),mrg]
def Asc (l:List BL):Prop:=l.Pairwise (· < ·)
theorem lt_ne {x y:BL} (h:x < y):x≠y:=fun e=>List.lt_irrefl x (by rw [← e] at h;exact h)
theorem lt_of_le_ne {x y:BL} (h:x<=y) (hne:x≠y):x < y:=by
 by_cases h2:x < y
 ·exact h2
 ·exact absurd (List.le_antisymm h (List.not_lt.1 h2)) hne
theorem psh_mem {out:List BL} {s z:BL}:z∈psh out s↔z∈out\/z=s:=by
 unfold psh;split
 ·rename_i h;constructor
  ·exact .inl
  ·rintro (h2 | rfl)
   ·exact h2
   ·exact List.mem_of_getLast? h
 ·simp
theorem asc_le_last {out:List BL} {s:BL} (h:Asc out) (hs:out.getLast?=some s):∀ o∈out,o<=s:=by
 intro o ho;obtain ⟨r,rfl⟩:∃ r,out=r ++ [s]:=List.getLast?_eq_some_iff.1 hs;rcases List.mem_append.1 ho with h1 | h1
 ·exact List.le_of_lt ((List.pairwise_append.1 h).2.2 o h1 s (by simp))
 ·rw [List.mem_singleton.1 h1];exact List.le_refl _
theorem psh_asc {out:List BL} {s:BL} (h:Asc out) (hle:∀ o∈out,o<=s):Asc (psh out s):=by
 unfold psh;split
 ·exact h
 ·rename_i hne;refine List.pairwise_append.2 ⟨h,by simp,fun o ho x hx=>?_⟩;rw [List.mem_singleton.1 hx];refine lt_of_le_ne (hle o ho) ?_;rintro rfl;cases hl:out.getLast? with
  | none=>rw [List.getLast?_eq_none_iff.1 hl] at ho;simp at ho
  | some t =>
   have h1:=asc_le_last h hl o ho;have h2:=hle t (List.mem_of_getLast? hl);exact hne (by rw [hl,List.le_antisymm h2 h1])
theorem asc_cons {x:BL} {l:List BL} (h:Asc (x :: l)):Asc l/\∀ y∈l,x < y:=⟨(List.pairwise_cons.1 h).2,(List.pairwise_cons.1 h).1⟩
theorem mrg_spec:∀ (n:Nat) (a b out:List BL),a.length+b.length<=n->Asc a->Asc b->Asc out->(∀ o∈out,(∀ x∈a,o<=x)/\∀ y∈b,o<=y) ->
  Asc (mrg a b out)/\∀ z,z∈mrg a b out↔z∈out\/z∈a\/z∈b:=by
 intro n
 induction n with
 | zero =>
  intro a b out hn _ _ ho _;have h1:a=[]:=List.length_eq_zero_iff.1 (by omega);have h2:b=[]:=List.length_eq_zero_iff.1 (by omega);subst h1 h2;rw [mrg];exact ⟨ho,by simp⟩
 | succ n ih =>
  intro a b out hn ha hb ho hle;cases a with
  | nil =>
   cases b with
   | nil=>rw [mrg];exact ⟨ho,by simp⟩
   | cons y b =>
    rw [mrg];obtain ⟨hb1,hb2⟩:=asc_cons hb
    obtain ⟨h1,h2⟩:=ih [] b (psh out y) (by simp at hn |-;omega) ha hb1 (psh_asc ho fun o h=>(hle o h).2 y (by simp)) (fun o h=>by
     refine ⟨by simp,fun z hz=>?_⟩;rcases psh_mem.1 h with h | rfl
     ·exact (hle o h).2 z (by simp [hz])
     ·exact List.le_of_lt (hb2 z hz))
    refine ⟨h1,fun z=>?_⟩;rw [h2,psh_mem];simp [or_assoc]
  | cons x a =>
   obtain ⟨ha1,ha2⟩:=asc_cons ha;cases b with
   | nil =>
    rw [mrg]
    obtain ⟨h1,h2⟩:=ih a [] (psh out x) (by simp at hn |-;omega) ha1 hb (psh_asc ho fun o h=>(hle o h).1 x (by simp)) (fun o h=>by
     refine ⟨fun z hz=>?_,by simp⟩;rcases psh_mem.1 h with h | rfl
     ·exact (hle o h).1 z (by simp [hz])
     ·exact List.le_of_lt (ha2 z hz))
    refine ⟨h1,fun z=>?_⟩;rw [h2,psh_mem];simp [or_assoc]
   | cons y b =>
    obtain ⟨hb1,hb2⟩:=asc_cons hb;rw [mrg];split
    ·rename_i hxy
     obtain ⟨h1,h2⟩:=ih a (y :: b) (psh out x) (by simp at hn |-;omega) ha1 hb (psh_asc ho fun o h=>(hle o h).1 x (by simp)) (fun o h=>by
      rcases psh_mem.1 h with h | rfl
      ·exact ⟨fun z hz=>(hle o h).1 z (by simp [hz]),(hle o h).2⟩
      ·refine ⟨fun z hz=>List.le_of_lt (ha2 z hz),fun z hz=>?_⟩;rcases List.mem_cons.1 hz with rfl | hz
       ·exact hxy
       ·exact List.le_trans hxy (List.le_of_lt (hb2 z hz)))
     refine ⟨h1,fun z=>?_⟩;rw [h2,psh_mem];simp [or_assoc]
    ·rename_i hxy;have hyx:y<=x:=(List.le_total x y).resolve_left hxy
     obtain ⟨h1,h2⟩:=ih (x :: a) b (psh out y) (by simp at hn |-;omega) ha hb1 (psh_asc ho fun o h=>(hle o h).2 y (by simp)) (fun o h=>by
      rcases psh_mem.1 h with h | rfl
      ·exact ⟨(hle o h).1,fun z hz=>(hle o h).2 z (by simp [hz])⟩
      ·refine ⟨fun z hz=>?_,fun z hz=>List.le_of_lt (hb2 z hz)⟩;rcases List.mem_cons.1 hz with rfl | hz
       ·exact hyx
       ·exact List.le_trans hyx (List.le_of_lt (ha2 z hz)))
     refine ⟨h1,fun z=>?_⟩;rw [h2,psh_mem];simp only [List.mem_cons];constructor
     ·rintro ((h | h) | h | h)
      ·exact .inl h
      ·exact .inr (.inr (.inl h))
      ·exact .inr (.inl h)
      ·exact .inr (.inr (.inr h))
     ·rintro (h | h | h | h)
      ·exact .inl (.inl h)
      ·exact .inr (.inl h)
      ·exact .inl (.inr h)
      ·exact .inr (.inr h)
theorem mrg_len:∀ (n:Nat) (a b out:List BL),a.length+b.length<=n->(mrg a b out).length<=out.length+a.length+b.length:=by
 intro n
 induction n with
 | zero =>
  intro a b out hn;have h1:a=[]:=List.length_eq_zero_iff.1 (by omega);have h2:b=[]:=List.length_eq_zero_iff.1 (by omega);subst h1 h2;rw [mrg];simp
 | succ n ih =>
  intro a b out hn;cases a with
  | nil =>
   cases b with
   | nil=>rw [mrg];simp
   | cons y b =>
    rw [mrg];have:=ih [] b (psh out y) (by simp at hn |-;omega);have:=psh_len out y;simp at *;omega
  | cons x a =>
   cases b with
   | nil =>
    rw [mrg];have:=ih a [] (psh out x) (by simp at hn |-;omega);have:=psh_len out x;simp at *;omega
   | cons y b =>
    rw [mrg];split
    ·have:=ih a (y :: b) (psh out x) (by simp at hn |-;omega);have:=psh_len out x;simp at *;omega
    ·have:=ih (x :: a) b (psh out y) (by simp at hn |-;omega);have:=psh_len out y;simp at *;omega
theorem srt_spec:∀ (n:Nat) (l:List BL),l.length<=n->Asc (srt l)/\(∀ z,z∈srt l↔z∈l)/\(srt l).length<=l.length:=by
 intro n
 induction n using Nat.strongRecOn with
 | ind n ih =>
  intro l hl;by_cases h:l.length < 2
  ·rw [srt_small h];refine ⟨?_,fun z=>Iff.rfl,nR _⟩
   match l,h with
   | [],_=>exact List.Pairwise.nil
   | [x],_=>exact List.pairwise_singleton _ _
  ·have e1:(l.take (l.length / 2)).length=l.length / 2:=(by simp;omega);have e2:(l.drop (l.length / 2)).length=l.length - l.length / 2:=(by simp);obtain ⟨a1,a2,a3⟩:=ih (l.length / 2) (by omega) (l.take (l.length / 2)) (by omega);obtain ⟨b1,b2,b3⟩:=ih (l.length - l.length / 2) (by omega) (l.drop (l.length / 2)) (by omega);rw [srt_large h];obtain ⟨m1,m2⟩:=mrg_spec _ _ _ [] (nR _) a1 b1 List.Pairwise.nil (by simp);refine ⟨m1,fun z=>?_,?_⟩
   ·rw [m2,a2,b2];simp only [List.not_mem_nil,false_or];rw [← List.mem_append,List.take_append_drop]
   ·have:=mrg_len _ (srt (l.take (l.length / 2))) (srt (l.drop (l.length / 2))) [] (nR _);simp only [List.length_nil] at this;omega
end Go.Proofs.YtcaahdjhbmmcnaaGreatDoor
namespace Go.Proofs.YtcaahdjhbmmcnaaGreatDoor
open Go.ChangeShapes Go.WideShapes Go.ChangeAt Go.RowKit
def View (w:World) (v:Value) (l:List BL):Prop :=
 ∃ b off cap:Nat,v=.slice (some ⟨b,off,none⟩) l.length cap/\l.length<=cap/\cap<=maxLen/\b < w.heap.size/\∀ j (h:j < l.length),w.cell? ⟨b,off+j,none⟩=some (sv l[j])
theorem View.below {w w':World} {v:Value} {l:List BL} (h:View w v l) (hb:Below w.heap.size w w'):View w' v l:=by
 obtain ⟨b,off,cap,h1,h2,h3,h4,h5⟩:=h;refine ⟨b,off,cap,h1,h2,h3,Nat.lt_of_lt_of_le h4 hb.size,fun j hj=>?_⟩;rw [hb.cell (p:=⟨b,off+j,none⟩) h4];exact h5 j hj
theorem View.take {w:World} {b off cap:Nat} {l:List BL} (h:View w (.slice (some ⟨b,off,none⟩) l.length cap) l) (k:Nat) (hk:k<=l.length):View w (.slice (some ⟨b,off,none⟩) k cap) (l.take k):=by
 obtain ⟨b',off',cap',h1,h2,h3,h4,h5⟩:=h;simp only [Value.slice.injEq,Option.some.injEq,Addr.mk.injEq,and_true,true_and] at h1;obtain ⟨⟨rfl,rfl⟩,rfl⟩:=h1;have e:(l.take k).length=k:=by simp;omega
 refine ⟨b,off,cap,by rw [e],by omega,h3,h4,fun j hj=>?_⟩;rw [e] at hj;rw [h5 j (by omega),List.getElem_take]
theorem View.drop {w:World} {b off cap:Nat} {l:List BL} (h:View w (.slice (some ⟨b,off,none⟩) l.length cap) l) (k:Nat) (hk:k<=l.length):View w (.slice (some ⟨b,off+k,none⟩) (l.length - k) (cap - k)) (l.drop k):=by
 obtain ⟨b',off',cap',h1,h2,h3,h4,h5⟩:=h;simp only [Value.slice.injEq,Option.some.injEq,Addr.mk.injEq,and_true,true_and] at h1;obtain ⟨⟨rfl,rfl⟩,rfl⟩:=h1;have e:(l.drop k).length=l.length - k:=by simp
 refine ⟨b,off+k,cap - k,by rw [e],by omega,by omega,h4,fun j hj=>?_⟩;rw [e] at hj;rw [Nat.add_assoc,h5 (k+j) (by omega),List.getElem_drop]
theorem srt_pos {l:List BL} (h:0 < l.length):0 < (srt l).length:=by
 obtain ⟨_,s2,_⟩:=srt_spec l.length l (nR _);have:=(s2 l[0]).2 (List.getElem_mem h);exact List.length_pos_of_mem this
theorem one_map (l:List BL):∀ u∈l.map sv,u.oneCell'=true:=by
 intro u hu;obtain ⟨x,_,rfl⟩:=List.mem_map.1 hu;rfl
theorem own_mono' {w:World} {base base':Nat} {e:TypeId} {size:Nat} {v:Value} {n:Nat} {xs:List Value} (h:w.ownsRow base e size v n xs) (hb:base'<=base):w.ownsRow base' e size v n xs:=by
 refine ⟨h.1,?_⟩;rcases h.2 with h | ⟨g,cap,cur,h1,h2,h3⟩
 ·exact .inl h
 ·exact .inr ⟨g,cap,cur,h1,Nat.le_trans hb h2,h3⟩
theorem psh_nil (x:BL):psh [] x=[x]:=by simp [psh]
theorem psh_same (r:List BL) (x:BL):psh (r ++ [x]) x=r ++ [x]:=by simp [psh]
theorem psh_other {r:List BL} {z x:BL} (h:z≠x):psh (r ++ [z]) x=r ++ [z] ++ [x]:=by simp [psh,h]
theorem leq_true {x y:BL} (h:x<=y):(Op.bytesLess x y || x == y)=true:=by
 rw [bytesLess_eq];by_cases e:x=y
 ·simp [e]
 ·simp [lt_of_le_ne h e]
theorem leq_false {x y:BL} (h:¬ x<=y):(Op.bytesLess x y || x == y)=false:=by
 rw [bytesLess_eq,Bool.or_eq_false_iff];refine ⟨dF fun h2=>h (List.le_of_lt h2),?_⟩;rw [bF];rintro rfl;exact h (List.le_refl _)
theorem specSorted (n:Nat):∀ (l:List BL),l.length<=n->l.length<=2097152->∀ (w:World) (v:Value),View w v l->Calls Tryz.prog 39 #[v] w (LRes (srt l) w):=by
 induction n using Nat.strongRecOn with
 | ind n ih =>
  intro l hln hn w v hV;obtain ⟨i0,hi,hz0,hz1,hz2⟩:=info_parts infoStr;by_cases hsm:l.length < 2
  ·obtain ⟨b,off,cap,rfl,hc1,hc2,hb,hcells⟩:=hV;have HR:=Ld (srt_small hsm);have hd:decide ((l.length:Int) < 2)=true:=dT (by omega);have hnews:∀ j u,(l.map sv)[j]?=some u->(w.alloc (.cells #[] 9)).cell? ((⟨b,off,none⟩:Addr).add j)=some u:=by
    intro j u hu;obtain ⟨hj,rfl⟩:=List.getElem?_eq_some_iff.1 hu;have hj2:j < l.length:=(by simpa using hj);rw [add_plain,List.getElem_map,← hcells j hj2];exact (Below.cell ((bR w.heap.size w).alloc (nR _) _) (p:=⟨b,off+j,none⟩) hb)
   clear hcells ih;go_enter Tryz.func39,Tryz.ntmps39;go_wp2_with (at_builtin;refine wpList_append_own _ rfl _ _ 31 rfl w.heap.size 9 i0 _ 1 16 Tryz.underlying31 hi hz0 hz1 hz2 rfl (by decide) _ 0 [] rfl (World.ownsRow_lit w #[] 0 (nR _) (by decide) (by simp)) ⟨b,off,none⟩ l.length cap (l.map sv) rfl (by simp) hnews (one_map l) (by simp only [maxLen];omega) (by omega) (by simp) ?_;intro v1 w1 hown1 hgrow hat);go_ret;rw [HR.out];exact ⟨_,rfl,by simpa using hown1,((bR _ _).alloc (nR _) _).grown hgrow (by simp) (fun j hj=>by cases hj;exact nR _)⟩
  ·have HR:=Ld (srt_large hsm);obtain ⟨b,off,cap,rfl,hc1,hc2,hb,_⟩:=id hV;unfold maxLen at hc2;have hd:decide ((l.length:Int) < 2)=false:=dF (by omega);obtain ⟨m,hm⟩:∃ m,l.length / 2=m:=⟨_,rfl⟩;rw [hm] at HR;have hq:(l.length:Int) / 2=(m:Int):=(by omega);have hm1:1<=m:=(by omega);have hm2:m < l.length:=(by omega);clear hm;have hA:=Ld (hV.take m (by omega));have hB:=Ld (hV.drop m (by omega));have e1:(l.take m).length=m:=(by simp;omega);have e2:(l.drop m).length=l.length - m:=(by simp);have f1:=Ld fun W v h=>ih m (by omega) (l.take m) (by omega) (by omega) W v h;have f2:=Ld fun W v h=>ih (l.length - m) (by omega) (l.drop m) (by omega) (by omega) W v h;have p1:=srt_pos (l:=l.take m) (by omega);have p2:=srt_pos (l:=l.drop m) (by omega);have s1:=(srt_spec _ (l.take m) (nR _)).2.2;have s2:=(srt_spec _ (l.drop m) (nR _)).2.2;rw [e1] at s1;rw [e2] at s2;clear e1 e2 hV ih;generalize srt (l.take m)=A at HR f1 p1 s1;generalize srt (l.drop m)=B at HR f2 p2 s2;go_enter Tryz.func39,Tryz.ntmps39;go_wp2_with fail
   (refine (f1.out _ _ hA.out).mono ?_);rintro e w1 ⟨v1,rfl,ho1,hb1⟩
   go_wp2_with fail
   (refine (f2.out _ _ (hB.out.below hb1)).mono ?_);rintro e w2 ⟨v2,rfl,ho2,hb2⟩
   have hB2:=hb1.trans (hb2.mono hb1.size);have ho1':=own_below ho1 hb2;obtain ⟨g1,c1,rfl,_,hg1⟩:=ho1'.form p1;obtain ⟨g2,c2,rfl,_,hg2⟩:=ho2.form p2;have hzw:=hB2.size;clear ho1 hb1 hb2 hA hB f1 f2;go_wp2;go_loopw [5,6,7] (fun vo iv kv wr=>∃ (i k:Nat) (out:List BL) (g cp:Nat),i<=A.length/\k<=B.length/\out.length<=i+k/\iv=.int .i64 i/\kv=.int .i64 k/\vo=.slice (some ⟨g,0,none⟩) out.length cp/\wr.ownsRow w2.heap.size 9 1 (.slice (some ⟨g,0,none⟩) out.length cp) out.length (out.map sv)/\Below w2.heap.size w2 wr/\Hid (mrg A B []=mrg (A.drop i) (B.drop k) out))
    (fun _ iv kv _=>(A.length - (intOf iv).toNat)+(B.length - (intOf kv).toNat))
   case atStart=>exact ⟨0,0,[],w2.heap.size,0,Nat.zero_le _,Nat.zero_le _,nR _,rfl,rfl,rfl,World.ownsRow_lit w2 #[] 0 (nR _) (by decide) (by simp),(bR _ _).alloc (nR _) _,by simp [Hid]⟩
   case round =>
    obtain ⟨i,k,out,g,cp,hik,hkk,hol,rfl,rfl,rfl,hown,hbel,HS⟩:=hrel;have hl:=hown.lt;have hzz:=hbel.size;have bn:out.length+1<=4194304:=(by omega);by_cases hi1:i < A.length
    ·have ca:=(hbel.cell (p:=⟨g1,i,none⟩) hg1).trans (ho1'.cellAt i (by omega));have exa:(A.map sv)[i]?=some (sv A[i]):=(by simp [hi1]);rw [exa] at ca;unfold sv at ca;have qa1:=zn i;have qa2:(i:Int) < (A.length:Int):=(by omega);have da:decide ((i:Int) < (A.length:Int))=true:=dT qa2;by_cases hk1:k < B.length
     ·have cb:=(hbel.cell (p:=⟨g2,k,none⟩) hg2).trans (ho2.cellAt k (by omega));have exb:(B.map sv)[k]?=some (sv B[k]):=(by simp [hk1]);rw [exb] at cb;unfold sv at cb;have qb1:=zn k;have qb2:(k:Int) < (B.length:Int):=(by omega);have db:decide ((B.length:Int)<=(k:Int))=false:=dF (by omega);have HML:=Ld fun (h:A[i]<=B[k])=>HS.out.trans (mrg_left (b:=B) (k:=k) out hi1 (fun _=>h));have HMR:=Ld fun (h:¬ A[i]<=B[k])=>HS.out.trans (mrg_right (a:=A) (i:=i) out hk1 (fun _=>h));clear exa exb HS;generalize A[i]=xa at ca HML HMR;generalize B[k]=xb at cb HML HMR;have hct:=Ld (leq_true (x:=xa) (y:=xb));have hcf:=Ld (leq_false (x:=xa) (y:=xb));generalize hc:(Op.bytesLess xa xb || xa == xb)=c at hct hcf;go_wp2_with fail;refine wp_region_held_drew (S:=fun w'=>w'.cell? ⟨g1,i,none⟩=some (.string ⟨xa.toArray⟩)/\w'.cell? ⟨g2,k,none⟩=some (.string ⟨xb.toArray⟩)) (by kernel_rfl) ⟨ca,cb⟩ (fun hS0=>?_);refine qW 0 38 (.int .i64 (k:Int)) hS0 (fun W hSW=>?_) ?_
      ·(try dsimp only at hSW);(try obtain ⟨hSA,hSB⟩:=hSW);go_simp<;>omega
      simp only [Act.put,eA,eB,eC];refine qW 1 39 (.slice (some ⟨g2,0,none⟩) B.length c2) hS0 (fun W hSW=>?_) ?_
      ·(try dsimp only at hSW);(try obtain ⟨hSA,hSB⟩:=hSW);go_simp<;>omega
      simp only [Act.put,eA,eB,eC];refine qW 2 40 (.int .i64 (B.length:Int)) hS0 (fun W hSW=>?_) ?_
      ·(try dsimp only at hSW);(try obtain ⟨hSA,hSB⟩:=hSW);go_simp<;>omega
      simp only [Act.put,eA,eB,eC];refine qW 3 41 (.bool false) hS0 (fun W hSW=>?_) ?_
      ·(try dsimp only at hSW);(try obtain ⟨hSA,hSB⟩:=hSW);go_simp<;>omega
      simp only [Act.put,eA,eB,eC];refine qW 4 42 (.bool false) hS0 (fun W hSW=>?_) ?_
      ·(try dsimp only at hSW);(try obtain ⟨hSA,hSB⟩:=hSW);go_simp<;>omega
      simp only [Act.put,eA,eB,eC];refine qW 5 43 (.int .i64 (i:Int)) hS0 (fun W hSW=>?_) ?_
      ·(try dsimp only at hSW);(try obtain ⟨hSA,hSB⟩:=hSW);go_simp<;>omega
      simp only [Act.put,eA,eB,eC];refine qW 6 44 (.slice (some ⟨g1,0,none⟩) A.length c1) hS0 (fun W hSW=>?_) ?_
      ·(try dsimp only at hSW);(try obtain ⟨hSA,hSB⟩:=hSW);go_simp<;>omega
      simp only [Act.put,eA,eB,eC];refine qW 7 45 (.int .i64 (A.length:Int)) hS0 (fun W hSW=>?_) ?_
      ·(try dsimp only at hSW);(try obtain ⟨hSA,hSB⟩:=hSW);go_simp<;>omega
      simp only [Act.put,eA,eB,eC];refine qW 8 46 (.bool true) hS0 (fun W hSW=>?_) ?_
      ·(try dsimp only at hSW);(try obtain ⟨hSA,hSB⟩:=hSW);go_simp<;>omega
      simp only [Act.put,eA,eB,eC];refine qW 9 47 (.bool true) hS0 (fun W hSW=>?_) ?_
      ·(try dsimp only at hSW);(try obtain ⟨hSA,hSB⟩:=hSW);go_simp<;>omega
      simp only [Act.put,eA,eB,eC];refine qW 10 48 (.slice (some ⟨g1,0,none⟩) A.length c1) hS0 (fun W hSW=>?_) ?_
      ·(try dsimp only at hSW);(try obtain ⟨hSA,hSB⟩:=hSW);go_simp<;>omega
      simp only [Act.put,eA,eB,eC];refine qW 11 49 (.int .i64 (i:Int)) hS0 (fun W hSW=>?_) ?_
      ·(try dsimp only at hSW);(try obtain ⟨hSA,hSB⟩:=hSW);go_simp<;>omega
      simp only [Act.put,eA,eB,eC];refine qW 12 50 (.pointer (some ⟨g1,i,none⟩)) hS0 (fun W hSW=>?_) ?_
      ·(try dsimp only at hSW);(try obtain ⟨hSA,hSB⟩:=hSW);go_simp<;>omega
      simp only [Act.put,eA,eB,eC];refine qW 13 51 (.string ⟨xa.toArray⟩) hS0 (fun W hSW=>?_) ?_
      ·(try dsimp only at hSW);(try obtain ⟨hSA,hSB⟩:=hSW);go_simp<;>omega
      simp only [Act.put,eA,eB,eC];refine qW 14 52 (.slice (some ⟨g2,0,none⟩) B.length c2) hS0 (fun W hSW=>?_) ?_
      ·(try dsimp only at hSW);(try obtain ⟨hSA,hSB⟩:=hSW);go_simp<;>omega
      simp only [Act.put,eA,eB,eC];refine qW 15 53 (.int .i64 (k:Int)) hS0 (fun W hSW=>?_) ?_
      ·(try dsimp only at hSW);(try obtain ⟨hSA,hSB⟩:=hSW);go_simp<;>omega
      simp only [Act.put,eA,eB,eC];refine qW 16 54 (.pointer (some ⟨g2,k,none⟩)) hS0 (fun W hSW=>?_) ?_
      ·(try dsimp only at hSW);(try obtain ⟨hSA,hSB⟩:=hSW);go_simp<;>omega
      simp only [Act.put,eA,eB,eC];refine qW 17 55 (.string ⟨xb.toArray⟩) hS0 (fun W hSW=>?_) ?_
      ·(try dsimp only at hSW);(try obtain ⟨hSA,hSB⟩:=hSW);go_simp<;>omega
      simp only [Act.put,eA,eB,eC];refine qW 18 56 (.bool c) hS0 (fun W hSW=>?_) ?_
      ·(try dsimp only at hSW);(try obtain ⟨hSA,hSB⟩:=hSW);go_simp<;>omega
      simp only [Act.put,eA,eB,eC];refine qW 19 57 (.bool c) hS0 (fun W hSW=>?_) ?_
      ·(try dsimp only at hSW);(try obtain ⟨hSA,hSB⟩:=hSW);go_simp<;>omega
      simp only [Act.put,eA,eB,eC];refine qW 20 58 (.bool c) hS0 (fun W hSW=>?_) ?_
      ·(try dsimp only at hSW);(try obtain ⟨hSA,hSB⟩:=hSW);go_simp<;>omega
      simp only [Act.put,eA,eB,eC];refine wpAnyH_done (by kernel_rfl) ?_ _;by_cases hle:xa<=xb
      ·have hcc:=hct.out hle;have HM:=Ld (HML.out hle);subst hcc;clear HML HMR hct hcf hc;rcases List.eq_nil_or_concat out with hout | ⟨r,z,hout⟩
       ·subst hout;have HP:=Ld (HM.out.trans (by rw [psh_nil]));clear HM;go_wp2_with (at_builtin;refine wpList_append_lies _ rfl _ _ _ rfl w2.heap.size 9 i0 _ 1 16 Tryz.underlying31 hi hz0 hz1 hz2 rfl (by decide) _ _ _ rfl ((hown.alloc _).drew) ⟨wr.heap.size,0,none⟩ 1 1 [.string ⟨xa.toArray⟩] rfl rfl (fun j u hu=>oneNew wr _ 9 j u hu) (by simp [Value.oneCell']) (by decide) (by simp only [maxLen];omega) (by omega) (by simp;omega) _ rfl ?_;intro g3 cap3 w3 hown3 hgrow hat hlt3);go_roundw
        case rel=>exact ⟨i+1,k,[xa],g3,cap3,by omega,by omega,by simp only [List.length_singleton];omega,by go_num,by go_num,rfl,by simpa [sv] using hown3,((hbel.alloc hzz _).drew).grown hgrow (by simp;omega) (fun j hj=>(hl j hj).1),HP.out⟩
        case measure=>simp [intOf];omega
       ·rw [List.concat_eq_append] at hout;subst hout;have cz:=hown.cellAt r.length (by simp);have exz:((r ++ [z]).map sv)[r.length]?=some (sv z):=(by simp);rw [exz] at cz;unfold sv at cz;have dz:(((r.length:Int)+1) == 0)=false:=(by rw [bF];omega);have rl:r.length+1<=2097152:=(by simp at hol;omega);have qz0:(0:Int)<=(r.length:Int):=(by omega);have qz1:(r.length:Int) < (r.length:Int)+1:=(by omega);clear exz;by_cases hzx:z=xa
        ·subst hzx;have HP:=Ld (HM.out.trans (by rw [psh_same]));have HO:=Ld hown;clear HM hown;go_wp2;go_roundw
         case rel=>exact ⟨i+1,k,r ++ [z],g,cp,by omega,by omega,by simp at hol |-;omega,by go_num,by go_num,by simp,HO.out,hbel.drew,HP.out⟩
         case measure=>simp [intOf];omega
        ·have HP:=Ld (HM.out.trans (by rw [psh_other hzx]));have hzb:(z == xa)=false:=(by rw [bF];exact hzx);clear HM;go_wp2_with (at_builtin;refine wpList_append_lies _ rfl _ _ _ rfl w2.heap.size 9 i0 _ 1 16 Tryz.underlying31 hi hz0 hz1 hz2 rfl (by decide) _ _ _ rfl ((hown.alloc _).drew) ⟨wr.heap.size,0,none⟩ 1 1 [.string ⟨xa.toArray⟩] rfl rfl (fun j u hu=>oneNew wr _ 9 j u hu) (by simp [Value.oneCell']) (by decide) (by simp only [maxLen];omega) (by omega) (by simp;omega) _ rfl ?_;intro g3 cap3 w3 hown3 hgrow hat hlt3);go_roundw
         case rel=>exact ⟨i+1,k,r ++ [z] ++ [xa],g3,cap3,by omega,by omega,by simp at hol |-;omega,by go_num,by go_num,by simp,by simpa [sv] using hown3,((hbel.alloc hzz _).drew).grown hgrow (by simp;omega) (fun j hj=>(hl j hj).1),HP.out⟩
         case measure=>simp [intOf];omega
      ·have hcc:=hcf.out hle;have HM:=Ld (HMR.out hle);subst hcc;clear HML HMR hct hcf hc;rcases List.eq_nil_or_concat out with hout | ⟨r,z,hout⟩
       ·subst hout;have HP:=Ld (HM.out.trans (by rw [psh_nil]));clear HM;go_wp2_with (at_builtin;refine wpList_append_lies _ rfl _ _ _ rfl w2.heap.size 9 i0 _ 1 16 Tryz.underlying31 hi hz0 hz1 hz2 rfl (by decide) _ _ _ rfl ((hown.alloc _).drew) ⟨wr.heap.size,0,none⟩ 1 1 [.string ⟨xb.toArray⟩] rfl rfl (fun j u hu=>oneNew wr _ 9 j u hu) (by simp [Value.oneCell']) (by decide) (by simp only [maxLen];omega) (by omega) (by simp;omega) _ rfl ?_;intro g3 cap3 w3 hown3 hgrow hat hlt3);go_roundw
        case rel=>exact ⟨i,k+1,[xb],g3,cap3,by omega,by omega,by simp only [List.length_singleton];omega,by go_num,by go_num,rfl,by simpa [sv] using hown3,((hbel.alloc hzz _).drew).grown hgrow (by simp;omega) (fun j hj=>(hl j hj).1),HP.out⟩
        case measure=>simp [intOf];omega
       ·rw [List.concat_eq_append] at hout;subst hout;have cz:=hown.cellAt r.length (by simp);have exz:((r ++ [z]).map sv)[r.length]?=some (sv z):=(by simp);rw [exz] at cz;unfold sv at cz;have dz:(((r.length:Int)+1) == 0)=false:=(by rw [bF];omega);have rl:r.length+1<=2097152:=(by simp at hol;omega);have qz0:(0:Int)<=(r.length:Int):=(by omega);have qz1:(r.length:Int) < (r.length:Int)+1:=(by omega);clear exz;by_cases hzx:z=xb
        ·subst hzx;have HP:=Ld (HM.out.trans (by rw [psh_same]));have HO:=Ld hown;clear HM hown;go_wp2;go_roundw
         case rel=>exact ⟨i,k+1,r ++ [z],g,cp,by omega,by omega,by simp at hol |-;omega,by go_num,by go_num,by simp,HO.out,hbel.drew,HP.out⟩
         case measure=>simp [intOf];omega
        ·have HP:=Ld (HM.out.trans (by rw [psh_other hzx]));have hzb:(z == xb)=false:=(by rw [bF];exact hzx);clear HM;go_wp2_with (at_builtin;refine wpList_append_lies _ rfl _ _ _ rfl w2.heap.size 9 i0 _ 1 16 Tryz.underlying31 hi hz0 hz1 hz2 rfl (by decide) _ _ _ rfl ((hown.alloc _).drew) ⟨wr.heap.size,0,none⟩ 1 1 [.string ⟨xb.toArray⟩] rfl rfl (fun j u hu=>oneNew wr _ 9 j u hu) (by simp [Value.oneCell']) (by decide) (by simp only [maxLen];omega) (by omega) (by simp;omega) _ rfl ?_;intro g3 cap3 w3 hown3 hgrow hat hlt3);go_roundw
         case rel=>exact ⟨i,k+1,r ++ [z] ++ [xb],g3,cap3,by omega,by omega,by simp at hol |-;omega,by go_num,by go_num,by simp,by simpa [sv] using hown3,((hbel.alloc hzz _).drew).grown hgrow (by simp;omega) (fun j hj=>(hl j hj).1),HP.out⟩
         case measure=>simp [intOf];omega
     ·have HM:=Ld (HS.out.trans (mrg_left out hi1 (fun hk=>absurd hk hk1)));have db:decide ((B.length:Int)<=(k:Int))=true:=dT (by omega);clear exa HS;generalize A[i]=xa at ca HM;go_wp2_with fail;refine wp_region_held_drew (S:=fun w'=>w'.cell? ⟨g1,i,none⟩=some (.string ⟨xa.toArray⟩)) (by kernel_rfl) ca (fun hS0=>?_);refine qW 0 38 (.int .i64 (k:Int)) hS0 (fun W hSW=>?_) ?_
      ·(try dsimp only at hSW);(try obtain ⟨hSA,hSB⟩:=hSW);go_simp<;>omega
      simp only [Act.put,eA,eB,eC];refine qW 1 39 (.slice (some ⟨g2,0,none⟩) B.length c2) hS0 (fun W hSW=>?_) ?_
      ·(try dsimp only at hSW);(try obtain ⟨hSA,hSB⟩:=hSW);go_simp<;>omega
      simp only [Act.put,eA,eB,eC];refine qW 2 40 (.int .i64 (B.length:Int)) hS0 (fun W hSW=>?_) ?_
      ·(try dsimp only at hSW);(try obtain ⟨hSA,hSB⟩:=hSW);go_simp<;>omega
      simp only [Act.put,eA,eB,eC];refine qW 3 41 (.bool true) hS0 (fun W hSW=>?_) ?_
      ·(try dsimp only at hSW);(try obtain ⟨hSA,hSB⟩:=hSW);go_simp<;>omega
      simp only [Act.put,eA,eB,eC];refine qW 4 42 (.bool true) hS0 (fun W hSW=>?_) ?_
      ·(try dsimp only at hSW);(try obtain ⟨hSA,hSB⟩:=hSW);go_simp<;>omega
      simp only [Act.put,eA,eB,eC];refine qS 5 43 hS0 ?_;simp only [Act.put,eA,eB,eC];refine qS 6 44 hS0 ?_;simp only [Act.put,eA,eB,eC];refine qS 7 45 hS0 ?_;simp only [Act.put,eA,eB,eC];refine qS 8 46 hS0 ?_;simp only [Act.put,eA,eB,eC];refine qS 9 47 hS0 ?_;simp only [Act.put,eA,eB,eC];refine qS 10 48 hS0 ?_;simp only [Act.put,eA,eB,eC];refine qS 11 49 hS0 ?_;simp only [Act.put,eA,eB,eC];refine qS 12 50 hS0 ?_;simp only [Act.put,eA,eB,eC];refine qS 13 51 hS0 ?_;simp only [Act.put,eA,eB,eC];refine qS 14 52 hS0 ?_;simp only [Act.put,eA,eB,eC];refine qS 15 53 hS0 ?_;simp only [Act.put,eA,eB,eC];refine qS 16 54 hS0 ?_;simp only [Act.put,eA,eB,eC];refine qS 17 55 hS0 ?_;simp only [Act.put,eA,eB,eC];refine qS 18 56 hS0 ?_;simp only [Act.put,eA,eB,eC];refine qS 19 57 hS0 ?_;simp only [Act.put,eA,eB,eC];refine qW 20 58 (.bool true) hS0 (fun W hSW=>?_) ?_
      ·(try dsimp only at hSW);(try obtain ⟨hSA,hSB⟩:=hSW);go_simp<;>omega
      simp only [Act.put,eA,eB,eC];refine wpAnyH_done (by kernel_rfl) ?_ _;rcases List.eq_nil_or_concat out with hout | ⟨r,z,hout⟩
      ·subst hout;have HP:=Ld (HM.out.trans (by rw [psh_nil]));clear HM;go_wp2_with (at_builtin;refine wpList_append_lies _ rfl _ _ _ rfl w2.heap.size 9 i0 _ 1 16 Tryz.underlying31 hi hz0 hz1 hz2 rfl (by decide) _ _ _ rfl ((hown.alloc _).drew) ⟨wr.heap.size,0,none⟩ 1 1 [.string ⟨xa.toArray⟩] rfl rfl (fun j u hu=>oneNew wr _ 9 j u hu) (by simp [Value.oneCell']) (by decide) (by simp only [maxLen];omega) (by omega) (by simp;omega) _ rfl ?_;intro g3 cap3 w3 hown3 hgrow hat hlt3);go_roundw
       case rel=>exact ⟨i+1,k,[xa],g3,cap3,by omega,by omega,by simp only [List.length_singleton];omega,by go_num,by go_num,rfl,by simpa [sv] using hown3,((hbel.alloc hzz _).drew).grown hgrow (by simp;omega) (fun j hj=>(hl j hj).1),HP.out⟩
       case measure=>simp [intOf];omega
      ·rw [List.concat_eq_append] at hout;subst hout;have cz:=hown.cellAt r.length (by simp);have exz:((r ++ [z]).map sv)[r.length]?=some (sv z):=(by simp);rw [exz] at cz;unfold sv at cz;have dz:(((r.length:Int)+1) == 0)=false:=(by rw [bF];omega);have rl:r.length+1<=2097152:=(by simp at hol;omega);have qz0:(0:Int)<=(r.length:Int):=(by omega);have qz1:(r.length:Int) < (r.length:Int)+1:=(by omega);clear exz;by_cases hzx:z=xa
       ·subst hzx;have HP:=Ld (HM.out.trans (by rw [psh_same]));have HO:=Ld hown;clear HM hown;go_wp2;go_roundw
        case rel=>exact ⟨i+1,k,r ++ [z],g,cp,by omega,by omega,by simp at hol |-;omega,by go_num,by go_num,by simp,HO.out,hbel.drew,HP.out⟩
        case measure=>simp [intOf];omega
       ·have HP:=Ld (HM.out.trans (by rw [psh_other hzx]));have hzb:(z == xa)=false:=(by rw [bF];exact hzx);clear HM;go_wp2_with (at_builtin;refine wpList_append_lies _ rfl _ _ _ rfl w2.heap.size 9 i0 _ 1 16 Tryz.underlying31 hi hz0 hz1 hz2 rfl (by decide) _ _ _ rfl ((hown.alloc _).drew) ⟨wr.heap.size,0,none⟩ 1 1 [.string ⟨xa.toArray⟩] rfl rfl (fun j u hu=>oneNew wr _ 9 j u hu) (by simp [Value.oneCell']) (by decide) (by simp only [maxLen];omega) (by omega) (by simp;omega) _ rfl ?_;intro g3 cap3 w3 hown3 hgrow hat hlt3);go_roundw
        case rel=>exact ⟨i+1,k,r ++ [z] ++ [xa],g3,cap3,by omega,by omega,by simp at hol |-;omega,by go_num,by go_num,by simp,by simpa [sv] using hown3,((hbel.alloc hzz _).drew).grown hgrow (by simp;omega) (fun j hj=>(hl j hj).1),HP.out⟩
        case measure=>simp [intOf];omega
    ·have da:decide ((i:Int) < (A.length:Int))=false:=dF (by omega);by_cases hk1:k < B.length
     ·have cb:=(hbel.cell (p:=⟨g2,k,none⟩) hg2).trans (ho2.cellAt k (by omega));have exb:(B.map sv)[k]?=some (sv B[k]):=(by simp [hk1]);rw [exb] at cb;unfold sv at cb;have qb1:=zn k;have qb2:(k:Int) < (B.length:Int):=(by omega);have db:decide ((B.length:Int)<=(k:Int))=false:=dF (by omega);have db2:decide ((k:Int) < (B.length:Int))=true:=dT (by omega);have HM:=Ld (HS.out.trans (mrg_right out hk1 (fun hi=>absurd hi hi1)));clear exb HS;generalize B[k]=xb at cb HM;go_wp2_with fail;refine wp_region_held_drew (S:=fun w'=>w'.cell? ⟨g2,k,none⟩=some (.string ⟨xb.toArray⟩)) (by kernel_rfl) cb (fun hS0=>?_);refine qW 0 38 (.int .i64 (k:Int)) hS0 (fun W hSW=>?_) ?_
      ·(try dsimp only at hSW);(try obtain ⟨hSA,hSB⟩:=hSW);go_simp<;>omega
      simp only [Act.put,eA,eB,eC];refine qW 1 39 (.slice (some ⟨g2,0,none⟩) B.length c2) hS0 (fun W hSW=>?_) ?_
      ·(try dsimp only at hSW);(try obtain ⟨hSA,hSB⟩:=hSW);go_simp<;>omega
      simp only [Act.put,eA,eB,eC];refine qW 2 40 (.int .i64 (B.length:Int)) hS0 (fun W hSW=>?_) ?_
      ·(try dsimp only at hSW);(try obtain ⟨hSA,hSB⟩:=hSW);go_simp<;>omega
      simp only [Act.put,eA,eB,eC];refine qW 3 41 (.bool false) hS0 (fun W hSW=>?_) ?_
      ·(try dsimp only at hSW);(try obtain ⟨hSA,hSB⟩:=hSW);go_simp<;>omega
      simp only [Act.put,eA,eB,eC];refine qW 4 42 (.bool false) hS0 (fun W hSW=>?_) ?_
      ·(try dsimp only at hSW);(try obtain ⟨hSA,hSB⟩:=hSW);go_simp<;>omega
      simp only [Act.put,eA,eB,eC];refine qW 5 43 (.int .i64 (i:Int)) hS0 (fun W hSW=>?_) ?_
      ·(try dsimp only at hSW);(try obtain ⟨hSA,hSB⟩:=hSW);go_simp<;>omega
      simp only [Act.put,eA,eB,eC];refine qW 6 44 (.slice (some ⟨g1,0,none⟩) A.length c1) hS0 (fun W hSW=>?_) ?_
      ·(try dsimp only at hSW);(try obtain ⟨hSA,hSB⟩:=hSW);go_simp<;>omega
      simp only [Act.put,eA,eB,eC];refine qW 7 45 (.int .i64 (A.length:Int)) hS0 (fun W hSW=>?_) ?_
      ·(try dsimp only at hSW);(try obtain ⟨hSA,hSB⟩:=hSW);go_simp<;>omega
      simp only [Act.put,eA,eB,eC];refine qW 8 46 (.bool false) hS0 (fun W hSW=>?_) ?_
      ·(try dsimp only at hSW);(try obtain ⟨hSA,hSB⟩:=hSW);go_simp<;>omega
      simp only [Act.put,eA,eB,eC];refine qW 9 47 (.bool false) hS0 (fun W hSW=>?_) ?_
      ·(try dsimp only at hSW);(try obtain ⟨hSA,hSB⟩:=hSW);go_simp<;>omega
      simp only [Act.put,eA,eB,eC];refine qS 10 48 hS0 ?_;simp only [Act.put,eA,eB,eC];refine qS 11 49 hS0 ?_;simp only [Act.put,eA,eB,eC];refine qS 12 50 hS0 ?_;simp only [Act.put,eA,eB,eC];refine qS 13 51 hS0 ?_;simp only [Act.put,eA,eB,eC];refine qS 14 52 hS0 ?_;simp only [Act.put,eA,eB,eC];refine qS 15 53 hS0 ?_;simp only [Act.put,eA,eB,eC];refine qS 16 54 hS0 ?_;simp only [Act.put,eA,eB,eC];refine qS 17 55 hS0 ?_;simp only [Act.put,eA,eB,eC];refine qS 18 56 hS0 ?_;simp only [Act.put,eA,eB,eC];refine qW 19 57 (.bool false) hS0 (fun W hSW=>?_) ?_
      ·(try dsimp only at hSW);(try obtain ⟨hSA,hSB⟩:=hSW);go_simp<;>omega
      simp only [Act.put,eA,eB,eC];refine qW 20 58 (.bool false) hS0 (fun W hSW=>?_) ?_
      ·(try dsimp only at hSW);(try obtain ⟨hSA,hSB⟩:=hSW);go_simp<;>omega
      simp only [Act.put,eA,eB,eC];refine wpAnyH_done (by kernel_rfl) ?_ _;rcases List.eq_nil_or_concat out with hout | ⟨r,z,hout⟩
      ·subst hout;have HP:=Ld (HM.out.trans (by rw [psh_nil]));clear HM;go_wp2_with (at_builtin;refine wpList_append_lies _ rfl _ _ _ rfl w2.heap.size 9 i0 _ 1 16 Tryz.underlying31 hi hz0 hz1 hz2 rfl (by decide) _ _ _ rfl ((hown.alloc _).drew) ⟨wr.heap.size,0,none⟩ 1 1 [.string ⟨xb.toArray⟩] rfl rfl (fun j u hu=>oneNew wr _ 9 j u hu) (by simp [Value.oneCell']) (by decide) (by simp only [maxLen];omega) (by omega) (by simp;omega) _ rfl ?_;intro g3 cap3 w3 hown3 hgrow hat hlt3);go_roundw
       case rel=>exact ⟨i,k+1,[xb],g3,cap3,by omega,by omega,by simp only [List.length_singleton];omega,by go_num,by go_num,rfl,by simpa [sv] using hown3,((hbel.alloc hzz _).drew).grown hgrow (by simp;omega) (fun j hj=>(hl j hj).1),HP.out⟩
       case measure=>simp [intOf];omega
      ·rw [List.concat_eq_append] at hout;subst hout;have cz:=hown.cellAt r.length (by simp);have exz:((r ++ [z]).map sv)[r.length]?=some (sv z):=(by simp);rw [exz] at cz;unfold sv at cz;have dz:(((r.length:Int)+1) == 0)=false:=(by rw [bF];omega);have rl:r.length+1<=2097152:=(by simp at hol;omega);have qz0:(0:Int)<=(r.length:Int):=(by omega);have qz1:(r.length:Int) < (r.length:Int)+1:=(by omega);clear exz;by_cases hzx:z=xb
       ·subst hzx;have HP:=Ld (HM.out.trans (by rw [psh_same]));have HO:=Ld hown;clear HM hown;go_wp2;go_roundw
        case rel=>exact ⟨i,k+1,r ++ [z],g,cp,by omega,by omega,by simp at hol |-;omega,by go_num,by go_num,by simp,HO.out,hbel.drew,HP.out⟩
        case measure=>simp [intOf];omega
       ·have HP:=Ld (HM.out.trans (by rw [psh_other hzx]));have hzb:(z == xb)=false:=(by rw [bF];exact hzx);clear HM;go_wp2_with (at_builtin;refine wpList_append_lies _ rfl _ _ _ rfl w2.heap.size 9 i0 _ 1 16 Tryz.underlying31 hi hz0 hz1 hz2 rfl (by decide) _ _ _ rfl ((hown.alloc _).drew) ⟨wr.heap.size,0,none⟩ 1 1 [.string ⟨xb.toArray⟩] rfl rfl (fun j u hu=>oneNew wr _ 9 j u hu) (by simp [Value.oneCell']) (by decide) (by simp only [maxLen];omega) (by omega) (by simp;omega) _ rfl ?_;intro g3 cap3 w3 hown3 hgrow hat hlt3);go_roundw
        case rel=>exact ⟨i,k+1,r ++ [z] ++ [xb],g3,cap3,by omega,by omega,by simp at hol |-;omega,by go_num,by go_num,by simp,by simpa [sv] using hown3,((hbel.alloc hzz _).drew).grown hgrow (by simp;omega) (fun j hj=>(hl j hj).1),HP.out⟩
        case measure=>simp [intOf];omega
     ·have db2:decide ((k:Int) < (B.length:Int))=false:=dF (by omega);have HM:=Ld (HS.out.trans (mrg_done out hi1 hk1));have HO:=Ld hown;clear HS hown;go_wp2;go_ret;rw [HR.out,HM.out];exact ⟨_,rfl,own_mono' HO.out hzw,hB2.trans (hbel.mono hzw)⟩
theorem view_of_row {w:World} {b:Nat} {v:Value} {l:List BL} (h:w.ownsRow b 9 1 v l.length (l.map sv)) (hv:v≠.slice none 0 0):View w v l:=by
 rcases h.2 with ⟨e,_⟩ | ⟨g,cap,cur,rfl,hb,hg,hn,hm,hs,ht⟩
 ·exact absurd e hv
 ·have hlt:g < w.heap.size:=(h.lt g rfl).2;refine ⟨g,0,cap,rfl,hn,hm,hlt,fun j hj=>?_⟩;rw [Nat.zero_add,h.cellAt j (by omega)];simp [hj]
theorem own_nil_or {w:World} {b n:Nat} {v:Value} {xs:List Value} (h:w.ownsRow b 9 1 v n xs) (h0:n=0):∃ a cap,v=.slice a 0 cap:=by
 subst h0;rcases h.2 with ⟨rfl,_⟩ | ⟨g,cap,cur,rfl,_⟩
 ·exact ⟨_,_,rfl⟩
 ·exact ⟨_,_,rfl⟩
def inL (l:List (List UInt8)) (y:List UInt8):Bool:=decide (y∈l)
end Go.Proofs.YtcaahdjhbmmcnaaGreatDoor
namespace Go.Proofs.YtcaahdjhbmmcnaaGreatDoor
inductive Lv where
 | z | par (k:Fin 3) | up (t:Lv) | mx (a b:Lv) | im (a b:Lv)
def Lv.bytes:Lv->List UInt8
 | .z=>[122]
 | .par k=>[117,UInt8.ofNat (48+k.val)]
 | .up t=>43 :: t.bytes
 | .mx a b=>109 :: (a.bytes ++ b.bytes)
 | .im a b=>105 :: (a.bytes ++ b.bytes)
def Lv.val (V:Fin 3->Nat):Lv->Nat
 | .z=>0
 | .par k=>V k
 | .up t=>t.val V+1
 | .mx a b=>max (a.val V) (b.val V)
 | .im a b=>if b.val V=0 then 0 else max (a.val V) (b.val V)
def Lv.ups:Lv->Nat
 | .z=>0
 | .par _=>0
 | .up t=>t.ups+1
 | .mx a b=>a.ups+b.ups
 | .im a b=>a.ups+b.ups
def Lv.sub (σ:Fin 3->Lv):Lv->Lv
 | .z=>.z
 | .par k=>σ k
 | .up t=>.up (t.sub σ)
 | .mx a b=>.mx (a.sub σ) (b.sub σ)
 | .im a b=>.im (a.sub σ) (b.sub σ)
theorem Lv.par_byte (k:Fin 3):48<=(UInt8.ofNat (48+k.val)).toNat/\(UInt8.ofNat (48+k.val)).toNat<=50/\(UInt8.ofNat (48+k.val)).toNat - 48=k.val:=by
 have:=k.isLt;have e:(UInt8.ofNat (48+k.val)).toNat=48+k.val:=by
  rw [UInt8.toNat_ofNat'];exact Nat.mod_eq_of_lt (by omega)
 rw [e];omega
theorem Lv.val_le {V:Fin 3->Nat} {M:Nat} (h:∀ k,V k<=M):∀ t:Lv,t.val V<=M+t.ups
 | .z=>Nat.zero_le _
 | .par k=>by simp only [Lv.val,Lv.ups];have:=h k;omega
 | .up t=>by have:=Lv.val_le h t;simp only [Lv.val,Lv.ups];omega
 | .mx a b=>by have:=Lv.val_le h a;have:=Lv.val_le h b;simp only [Lv.val,Lv.ups];omega
 | .im a b=>by have:=Lv.val_le h a;have:=Lv.val_le h b;simp only [Lv.val,Lv.ups];split<;>omega
theorem Lv.ups_lt:∀ t:Lv,t.ups < t.bytes.length
 | .z=>by simp [Lv.ups,Lv.bytes]
 | .par k=>by simp [Lv.ups,Lv.bytes]
 | .up t=>by have:=Lv.ups_lt t;simp only [Lv.ups,Lv.bytes,lC];omega
 | .mx a b=>by have:=Lv.ups_lt a;have:=Lv.ups_lt b;simp only [Lv.ups,Lv.bytes,lC,lA];omega
 | .im a b=>by have:=Lv.ups_lt a;have:=Lv.ups_lt b;simp only [Lv.ups,Lv.bytes,lC,lA];omega
def asV (vs:List Nat) (k:Fin 3):Nat:=vs.getD k.val 0
def lvalS (vs:List Nat):List UInt8->List Nat
 | []=>[]
 | [c]=>if c=122 then [0] else []
 | c :: d :: r =>
  if c=122 then 0 :: lvalS vs (d :: r)
  else if c=117 then vs.getD (d.toNat - 48) 0 :: lvalS vs r
  else match lvalS vs (d :: r) with
   | []=>[]
   | x :: s=>if c=43 then (x+1) :: s else match s with
    | []=>[]
    | y :: q=>if c=109 then max x y :: q else (if y=0 then 0 else max x y) :: q
termination_by l=>l.length
def lval (vs:List Nat) (l:List UInt8):Nat:=(lvalS vs l).headD 0
theorem Lv.bytes_ne (t:Lv):∃ c r,t.bytes=c :: r:=by cases t<;>exact ⟨_,_,rfl⟩
theorem lvalS_tree (vs:List Nat):∀ (t:Lv) (r:List UInt8),lvalS vs (t.bytes ++ r)=t.val (asV vs) :: lvalS vs r
 | .z,r=>by
  cases r with
  | nil=>rw [Lv.bytes,List.append_nil,lvalS,lvalS];rfl
  | cons d r=>rw [Lv.bytes,List.singleton_append,lvalS];rfl
 | .par k,r=>by
  rw [Lv.bytes,List.cons_append,List.cons_append,List.nil_append,lvalS,iN (by decide),iP rfl,(Lv.par_byte k).2.2];rfl
 | .up t,r=>by
  obtain ⟨c,q,e⟩:=t.bytes_ne;have ih:=lvalS_tree vs t r;rw [e,List.cons_append] at ih;rw [Lv.bytes,e,List.cons_append,List.cons_append,lvalS,iN (by decide),iN (by decide),ih];rfl
 | .mx a b,r=>by
  obtain ⟨c,q,e⟩:=a.bytes_ne;have ih:=lvalS_tree vs a (b.bytes ++ r);rw [lvalS_tree vs b r,e,List.cons_append] at ih;rw [Lv.bytes,List.cons_append,List.append_assoc,e,List.cons_append,lvalS,iN (by decide),iN (by decide),ih];rfl
 | .im a b,r=>by
  obtain ⟨c,q,e⟩:=a.bytes_ne;have ih:=lvalS_tree vs a (b.bytes ++ r);rw [lvalS_tree vs b r,e,List.cons_append] at ih;rw [Lv.bytes,List.cons_append,List.append_assoc,e,List.cons_append,lvalS,iN (by decide),iN (by decide),ih];rfl
theorem lval_tree (vs:List Nat) (t:Lv):lval vs t.bytes=t.val (asV vs):=by
 have:=lvalS_tree vs t [];rw [List.append_nil] at this;rw [lval,this];rfl
theorem lend_trees:∀ (l:List UInt8) (n:Nat),lend n l=some l.length->∃ ts:List Lv,ts.length=n/\l=ts.flatMap Lv.bytes:=by
 refine lend_ind (motive:=fun n l=>lend n l=some l.length->∃ ts:List Lv,ts.length=n/\l=ts.flatMap Lv.bytes) ?_ ?_ ?_ ?_ ?_ ?_ ?_
 ·intro l h;rw [lend_zero] at h;have:l=[]:=List.eq_nil_of_length_eq_zero (Option.some.inj h).symm;exact ⟨[],rfl,this⟩
 ·intro n h;rw [lend_nil] at h;cases h
 ·intro n r ih h;rw [lend_z] at h;obtain ⟨j,hj,e⟩:=Option.map_eq_some_iff.1 h;obtain ⟨ts,h1,h2⟩:=ih (by rw [hj];congr 1;simpa using e);exact ⟨.z :: ts,by simp [h1],by rw [List.flatMap_cons,← h2];rfl⟩
 ·intro n r ih h;rw [lend_up] at h;obtain ⟨j,hj,e⟩:=Option.map_eq_some_iff.1 h;obtain ⟨ts,h1,h2⟩:=ih (by rw [hj];congr 1;simpa using e)
  match ts,h1 with
  | t :: ts,h1=>exact ⟨.up t :: ts,h1,by rw [h2,List.flatMap_cons,List.flatMap_cons];rfl⟩
 ·intro n c r hc ih h;rw [lend_two n hc] at h;obtain ⟨j,hj,e⟩:=Option.map_eq_some_iff.1 h;obtain ⟨ts,h1,h2⟩:=ih (by rw [hj];congr 1;simpa using e)
  match ts,h1 with
  | t :: u :: ts,h1 =>
   rcases hc with rfl | rfl
   ·exact ⟨.mx t u :: ts,by simpa using h1,by rw [h2,List.flatMap_cons,List.flatMap_cons,List.flatMap_cons,Lv.bytes,List.cons_append,List.append_assoc]⟩
   ·exact ⟨.im t u :: ts,by simpa using h1,by rw [h2,List.flatMap_cons,List.flatMap_cons,List.flatMap_cons,Lv.bytes,List.cons_append,List.append_assoc]⟩
 ·intro n d r g1 g2 ih h;rw [lend_par n g1 g2] at h;obtain ⟨j,hj,e⟩:=Option.map_eq_some_iff.1 h;obtain ⟨ts,h1,h2⟩:=ih (by rw [hj];congr 1;simpa using e);refine ⟨.par ⟨d.toNat - 48,by omega⟩ :: ts,by simp [h1],?_⟩;rw [List.flatMap_cons,← h2,Lv.bytes];have:UInt8.ofNat (48+(d.toNat - 48))=d:=(by rw [show 48+(d.toNat - 48)=d.toNat by omega];exact UInt8.ofNat_toNat);simp only [this,List.cons_append,List.nil_append]
 ·intro n c r h0 h;rw [h0] at h;cases h
theorem level_tree {l:List UInt8} (h:levelOk l=true):∃ t:Lv,l=t.bytes:=by
 obtain ⟨ts,h1,h2⟩:=lend_trees l 1 (levelOk_len h).2
 match ts,h1 with
 | [t],_=>exact ⟨t,by simpa using h2⟩
theorem lend_tree:∀ (t:Lv) (n:Nat) (r:List UInt8),lend (n+1) (t.bytes ++ r)=(lend n r).map (·+t.bytes.length)
 | .z,n,r=>lend_z n r
 | .par k,n,r=>by
  rw [Lv.bytes,List.cons_append,List.cons_append,List.nil_append,lend_par n (Lv.par_byte k).1 (Lv.par_byte k).2.1];rfl
 | .up t,n,r=>by
  rw [Lv.bytes,List.cons_append,lend_up,lend_tree t n r,Option.map_map];congr 1
 | .mx a b,n,r=>by
  rw [Lv.bytes,List.cons_append,List.append_assoc,lend_two n (.inl rfl),lend_tree a (n+1),lend_tree b n,Option.map_map,Option.map_map];congr 1
  funext x
  simp only [Function.comp,lC,lA];omega
 | .im a b,n,r=>by
  rw [Lv.bytes,List.cons_append,List.append_assoc,lend_two n (.inr rfl),lend_tree a (n+1),lend_tree b n,Option.map_map,Option.map_map];congr 1
  funext x
  simp only [Function.comp,lC,lA];omega
theorem tree_ok (t:Lv) (h:t.bytes.length<=60):levelOk t.bytes=true:=by
 have:=lend_tree t 0 [];rw [List.append_nil,lend_zero] at this;rw [levelOk,dT h,this];simp
def levelAt (l:List UInt8) (vs:List Int):Int :=
 if levelOk l=true/\vs.length<=3/\levelParams l<=vs.length/\(∀ x∈vs,0<=x/\x<=1000) then (lval (vs.map Int.toNat) l:Int) else -1
def tryOne (k i:Nat):Nat:=if i=0 then 0 else if i=1 then 1 else k
def tryTri (k i:Nat):List Nat:=[tryOne k (i / 9),tryOne k (i / 3 % 3),tryOne k (i % 3)]
def above (a b:List UInt8) (vs:List Nat):Bool:=decide (lval vs b < lval vs a)
def witIdx (a b:List UInt8):Option Nat:=(List.range 27).find? fun i=>above a b (tryTri (2+levelUps a+levelUps b) i)
def levelWit (a b:List UInt8):Option (List Nat) :=
 if levelOk a=true/\levelOk b=true then (witIdx a b).map (tryTri (2+levelUps a+levelUps b)) else none
def levelLe (a b:List UInt8):Bool:=levelOk a && levelOk b && (levelWit a b).isNone
end Go.Proofs.YtcaahdjhbmmcnaaGreatDoor
namespace Go.Proofs.YtcaahdjhbmmcnaaGreatDoor
open Go
noncomputable def isData (d:Dc):Bool:=decide (d.kind=4) && declOk d
def levelIn (l:List UInt8):List UInt8:=(l.drop 1).take (l.length - 2)
noncomputable def largeOk (d:Dc):Bool:=isData d && levelLe [43,122] (levelIn d.type)
theorem bytes_two (t:Tm):2<=t.bytes.length:=by
 cases t with
 | var n=>simp [Tm.bytes]
 | sort l=>simp [Tm.bytes]
 | const n ls=>simp [Tm.bytes];omega
 | app a b=>have:=a.bytes_pos;simp [Tm.bytes];omega
 | lam a b=>have:=a.bytes_pos;simp [Tm.bytes];omega
 | pi a b=>have:=a.bytes_pos;simp [Tm.bytes];omega
 | lett a b c=>have:=a.bytes_pos;simp [Tm.bytes];omega
theorem sort_len {l:List UInt8} (h:termKind l=[115]):2<=l.length:=by
 unfold termKind at h;split at h
 ·rename_i h1;unfold termOk at h1;cases ht:termOf l with
  | none=>rw [ht] at h1;cases h1
  | some t =>
   have h2:=(termOf_is ht).2;rw [← h2.1];exact bytes_two t
 ·cases h
end Go.Proofs.YtcaahdjhbmmcnaaGreatDoor
