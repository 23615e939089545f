/- GUse1 KMin KLv KRec -/
import Derived.Deep.RegionHeld3
import Derived.Test.YtcaahdjhbmmcnaaGreatDoorYG3
import Derived.Test.YtcaahdjhbmmcnaaGreatDoorYE1
import Derived.Test.YtcaahdjhbmmcnaaGreatDoorYKA
import Derived.Test.YtcaahdjhbmmcnaaGreatDoorYJ1
import Derived.Test.YtcaahdjhbmmcnaaGreatDoorYG2
set_option maxRecDepth 100000
set_option maxHeartbeats 16000000
set_option linter.unusedSimpArgs false
set_option linter.unusedVariables false
namespace Go.Proofs.YtcaahdjhbmmcnaaGreatDoor
open Go.ChangeShapes Go.WideShapes Go.ChangeAt Go.RowKit
theorem wp_append_rows {w:World} {o:Oper} {a:Act} {K:Act->World->Prop} {Q:Exit->Act->World->Prop} (s x:Operand)
  (ho:o.op=.call { callee:=.builtin .append,args:=#[s,x],argTypes:=#[31,31] }) {base b2:Nat} {v1 v2:Value} {l1 l2:List (List UInt8)}
  (hs:a.eval s=v1) (hx:a.eval x=v2) (h1:w.ownsRow base 9 1 v1 l1.length (l1.map sv)) (h2:w.ownsRow b2 9 1 v2 l2.length (l2.map sv)) (hn:l1.length+l2.length<=1000000) (hb:base<=w.heap.size)
  (h:∀ v' w',w'.ownsRow base 9 1 v' (l1 ++ l2).length ((l1 ++ l2).map sv)->Below base w w'->K (a.put o.dst v') w'):o.wp Tryz.prog a w K Q:=by
 obtain ⟨i0,hi,iz0,iz1,iz2⟩:=info_parts infoStr';rcases id h2.2 with ⟨e,e0⟩ | ⟨g,cap,cur,e,hbg,hg,hnc,hm,hsz,ht⟩
 ·have e2:l2=[]:=List.length_eq_zero_iff.1 e0;subst e2;have hK:K (a.put o.dst v1) w:=h _ _ (by simpa using h1) (bR _ _);have hrun:=run_append_owned_none (P:=Tryz.prog) (w:=w) base 31 o.type 9 i0 1 Tryz.underlying31 hi v1 _ _ h1;have hx':=hx.trans e;clear h h1 h2;unfold Oper.wp;simp [execOp,ho,resolve,invoke,builtin,hs,hx',hrun,Result.andThen];exact hK
 ·refine wp_append_own w s x _ ho base 9 i0 _ 1 16 Tryz.underlying31 hi iz0 iz1 iz2 rfl (by decide) v1 _ _ hs h1 ⟨g,0,none⟩ l2.length cap (l2.map sv) (hx.trans e) (by simp) ?_ (one_map l2) (by simp only [maxLen];omega) (by omega) hb ?_
  ·intro j u hu;obtain ⟨hj,rfl⟩:=List.getElem?_eq_some_iff.1 hu;have hj2:j < l2.length:=(by simpa using hj);subst e;rw [add_plain,Nat.zero_add,h2.cellAt j (by omega)];simp [hj2]
  ·intro v' w' h3 h4 _;refine h v' w' ?_ ((bR base w).grown h4 hb (fun q hq=>(h1.lt q hq).1));rw [lA,List.map_append];exact h3
theorem append_rows {w:World} {ops:Array Oper} {rest:List Oper} {o:Oper} {a:Act} {Q:Exit->Act->World->Prop} (hgd:o.guard=none) (s x:Operand)
  (ho:o.op=.call { callee:=.builtin .append,args:=#[s,x],argTypes:=#[31,31] }) {base b2:Nat} {v1 v2:Value} {l1 l2:List (List UInt8)}
  (hs:a.eval s=v1) (hx:a.eval x=v2) (h1:w.ownsRow base 9 1 v1 l1.length (l1.map sv)) (h2:w.ownsRow b2 9 1 v2 l2.length (l2.map sv)) (hn:l1.length+l2.length<=1000000) (hb:base<=w.heap.size)
  (h:∀ v' w',w'.ownsRow base 9 1 v' (l1 ++ l2).length ((l1 ++ l2).map sv)->Below base w w'->wpList Tryz.prog ops Q rest (a.put o.dst v') w'):wpList Tryz.prog ops Q (o :: rest) a w :=
 wpList_plain hgd fun _ hK=>wp_append_rows s x ho hs hx h1 h2 hn hb fun v' w' h3 h4=>hK _ _ (h v' w' h3 h4)
theorem specSortedR {w:World} {b:Nat} {v:Value} {l:List (List UInt8)} (h:w.ownsRow b 9 1 v l.length (l.map sv)) (hl:l.length<=1000000) :
  Calls Tryz.prog 39 #[v] w (LRes' (srt l) w):=by
 by_cases hv:v=.slice none 0 0
 ·subst hv;have e0:l=[]:=by
   rcases id h.2 with ⟨_,e0⟩ | ⟨g,cap,cur,e,_⟩
   ·exact List.length_eq_zero_iff.1 e0
   ·cases e
  subst e0;have HR:Hid (srt ([]:List (List UInt8))=[]):=srt_small (by decide);clear h hl;go_enter Tryz.func39,Tryz.ntmps39;obtain ⟨i0,hi,iz0,iz1,iz2⟩:=info_parts infoStr';go_wp2_with (at_builtin;refine wpList_append_own_none rfl _ _ 31 rfl w.heap.size 9 i0 1 Tryz.underlying31 hi _ 0 [] rfl (World.ownsRow_lit w #[] 0 (nR _) (by decide) (by simp)) rfl ?_);go_ret;rw [HR.out];exact ⟨_,rfl,World.ownsRow_lit w #[] 0 (nR _) (by decide) (by simp),(bR _ _).alloc (nR _) _⟩
 ·exact specSorted l.length l (nR _) (by omega) w v (view_of_row h hv)
end Go.Proofs.YtcaahdjhbmmcnaaGreatDoor
