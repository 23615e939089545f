/- EJ2 HC4t EJ3 -/
import Derived.Test.YtgonemalnljabaaGreatDoorZE1
import Derived.Test.YtgonemalnljabaaGreatDoorZA6
import Derived.Test.YtgonemalnljabaaGreatDoorZP3
import Derived.Test.YtgonemalnljabaaGreatDoorZKC
import Derived.Test.YtgonemalnljabaaGreatDoorZQ1
set_option maxRecDepth 100000
set_option maxHeartbeats 16000000
set_option linter.unusedSimpArgs false
set_option linter.unusedVariables false
namespace Go.Proofs.YtgonemalnljabaaGreatDoor
open Go.ChangeShapes Go.WideShapes Go.ChangeAt Go.RowKit
def AllTm (ls:List (List UInt8)) (ts:List Tm):Prop:=ts.map Tm.bytes=ls∧∀ t∈ts,IsTm t.bytes t
theorem AllTm.snoc {ls:List (List UInt8)} {ts:List Tm} {x:List UInt8} {t:Tm} (h:AllTm ls ts) (ht:IsTm x t):AllTm (ls ++ [x]) (ts ++ [t]):=by
  refine ⟨?_,fun u hu=>?_⟩
  · rw [List.map_append,h.1]
    simp [ht.2.1]
  · rcases List.mem_append.1 hu with h1 | h1
    · exact h.2 u h1
    · simp only [List.mem_cons,List.not_mem_nil,or_false] at h1
      subst h1
      rw [ht.2.1]
      exact ht
theorem AllTm.len {ls:List (List UInt8)} {ts:List Tm} (h:AllTm ls ts):ts.length=ls.length:=by rw [← h.1,List.length_map]
theorem flat_takeJ (ls:List (List UInt8)) (k:Nat):(ls.take k).flatten.length≤ls.flatten.length:=by
  have h:=congrArg List.length (congrArg List.flatten (List.take_append_drop k ls))
  rw [List.flatten_append,List.length_append] at h
  omega
def ReadsAns (ls:List (List UInt8)) (W:World) (e:Ending) (W':World):Prop :=
  Below W.heap.size W W' ∧
  ((∃ ts u vs,AllTm ls ts∧ls.flatten.length≤2000∧ls.length≤2000∧e=.returned (.tuple #[u,.bool true])∧W'.ownsRow W.heap.size 68 1 u ts.length vs∧IReps W' ts vs) ∨
   (((∃ a∈ls,∀ t,¬ IsTm a t)∨2000 < ls.flatten.length)∧e=.returned (.tuple #[.slice none 0 0,.bool false])))
theorem implReadTerms {W:World} {b:Nat} {v:Value} {ls:List (List UInt8)} (hv:Vars W) (h:W.ownsRow b 9 1 v ls.length (ls.map sv)) (hn:ls.length≤1048576) (hx:∀ x∈ls,x.length≤1048576) :
    Calls Tryz.prog 61 #[v] W (ReadsAns ls W):=by
  obtain ⟨i0,hi,hz0,hz1,hz2⟩:=info_parts infoTerm
  obtain ⟨ua,uc,rfl⟩:=zQ h
  have HX:=Ld hx
  have HV:=Ld hv
  have HH:=Ld h
  clear hx hv h
  go_enter Tryz.func61,Tryz.ntmps61
  go_wp2
  go_loopw [4,5,12] (fun tv zv i wr=>∃ (k z:Nat) (ts:List Tm) (vs:List Value) (oo:Value),k≤ls.length∧i=.int .i64 k∧zv=.int .i64 (z:Int)∧oo=tv∧z≤2000∧k≤z∧Hid (z=(ls.take k).flatten.length∧AllTm (ls.take k) ts)∧Hid (wr.ownsRow W.heap.size 68 1 oo k vs∧IReps wr ts vs)∧Hid (Below W.heap.size W wr)) (fun _ _ i _=>ls.length - (intOf i).toNat)
  case atStart=>exact ⟨0,0,[],[],_,Nat.zero_le _,rfl,rfl,rfl,Nat.zero_le _,Nat.le_refl _,⟨by simp,rfl,by simp⟩,⟨World.ownsRow_nil _ _ _ _,trivial⟩,Below.refl _ _⟩
  case round =>
    obtain ⟨k,z,ts,vs,oo,hk,rfl,rfl,rfl,hz,hkz,HT,HO,HB⟩:=hrel
    by_cases hlt:k < ls.length
    · have hu:=zA HH.out HB.out
      obtain ⟨g,cap',e0,_,hgl⟩:=hu.form (by omega)
      cases e0
      have ex:(ls.map sv)[k]?=some (sv ls[k]):=by simp [hlt]
      have cc:=(hu.cellAt k (by omega)).trans ex
      unfold sv at cc
      have hxl:=HX.out ls[k] (List.getElem_mem hlt)
      have f1:=Ld (xG ⟨ls[k].toArray⟩ wr (HV.out.below HB.out) (by simp only [ByteArray.size,List.size_toArray,maxLen];omega))
      have hzx:=zM ls[k]
      have HS:=Ld (List.take_succ_eq_append_getElem hlt)
      have HM:Hid (ls[k]∈ls):=List.getElem_mem hlt
      have HF:=Ld (flat_takeJ ls (k+1))
      simp only at f1
      generalize ls[k]=x at cc hxl f1 hzx HS HM
      have q1:(0:Int)≤(k:Int):=by omega
      have q2:(k:Int) < (ls.length:Int):=by omega
      clear ex hu hgl
      go_wp2_with fail
      (with_reducible refine f1.out.mono ?_);rintro e w1 ⟨hb1,⟨t,tv',ht,rfl,hr⟩ | ⟨hno,rfl⟩⟩
      rotate_left
      · have HB1:Hid (Below W.heap.size W w1):=HB.out.trans (hb1.mono HB.out.size)
        have HN:=Ld hno
        clear hb1 hno f1
        go_wp2
        go_ret2
        exact ⟨HB1.out,.inr ⟨.inl ⟨x,HM.out,HN.out⟩,rfl⟩⟩
      have HB1:Hid (Below W.heap.size W w1):=HB.out.trans (hb1.mono HB.out.size)
      have hx1:1≤x.length:=by
        obtain ⟨p,hp⟩:=t.bytes_head
        have:=ht.2.1
        rw [hp] at this
        rw [← this,List.length_cons]
        omega
      by_cases hlong:2000 < z+x.length
      · have HL:Hid (2000 < ls.flatten.length):=by
          have h1:=HF.out
          have h2:=HT.out.1
          rw [HS.out,List.flatten_append,List.length_append] at h1
          simp only [List.flatten_cons,List.flatten_nil,List.append_nil] at h1
          show 2000 < ls.flatten.length
          omega
        have d1:decide ((2000:Int) < (z:Int)+(x.length:Int))=true:=decide_eq_true (by omega)
        clear hb1 ht hr f1
        go_wp2
        go_ret2
        exact ⟨HB1.out,.inr ⟨.inr HL.out,rfl⟩⟩
      have d1:decide ((2000:Int) < (z:Int)+(x.length:Int))=false:=decide_eq_false (by omega)
      have ho1:=zA HO.out.1 hb1
      have HI1:Hid (IReps w1 (ts ++ [t]) (vs ++ [tv'])):=IReps.snoc hr (HO.out.2.below hb1)
      have HT1:Hid (z+x.length=(ls.take (k+1)).flatten.length∧AllTm (ls.take (k+1)) (ts ++ [t])):=by
        have h2:=HT.out
        rw [Hid,HS.out]
        refine ⟨?_,h2.2.snoc ht⟩
        simp only [List.flatten_append,List.length_append,List.flatten_cons,List.flatten_nil,List.append_nil]
        omega
      obtain ⟨T,y,rfl⟩:=hr.iface
      have hz1b:=HB1.out.size
      clear hb1 ht hr f1 HO HT HB
      go_wp2_with (at_builtin;refine wpList_append_own _ rfl _ _ 71 rfl W.heap.size 68 i0 _ 1 16 Tryz.underlying71 hi hz0 hz1 hz2 rfl (by decide) _ _ _ rfl (ho1.alloc _) ⟨w1.heap.size,0,none⟩ 1 1 [.iface T y] rfl rfl (yK _ _ _) (by simp [Value.oneCell']) (by simp only [maxLen];omega) (by omega) (by simp;omega) ?_)
      intro v4 w4 ho4 hg4 _
      have HO4:Hid (w4.ownsRow W.heap.size 68 1 v4 (k+1) (vs ++ [.iface T y])):=ho4
      have HI4:Hid (IReps w4 (ts ++ [t]) (vs ++ [.iface T y])):=IReps.grown hg4 (NoStr.own (ho1.alloc _) (by decide)) (HI1.out.below (Below.alloc (Below.refl _ _) (Nat.le_refl _) _))
      have HB4:Hid (Below W.heap.size W w4):=(HB1.out.alloc HB1.out.size _).grown hg4 (by simp;have:=HB1.out.size;omega) (fun j hj=>(ho1.lt j hj).1)
      clear ho4 hg4 ho1 HI1 HB1
      go_wp2
      go_roundw
      case rel=>exact ⟨k+1,z+x.length,_,_,_,by omega,by go_num,by go_num,rfl,by omega,by omega,HT1.out,⟨HO4.out,HI4.out⟩,HB4.out⟩
      case measure=>simp [intOf];omega
    · obtain rfl:k=ls.length:=by omega
      have HT1:Hid (ls.flatten.length≤2000∧AllTm ls ts∧ls.length≤2000):=by
        have h2:=HT.out
        rw [List.take_length] at h2
        refine ⟨by omega,h2.2,by omega⟩
      clear HT
      go_wp2
      go_ret2
      have hl:=HT1.out.2.1.len
      refine ⟨HB.out,.inl ⟨ts,_,vs,HT1.out.2.1,HT1.out.1,HT1.out.2.2,rfl,?_,HO.out.2⟩⟩
      rw [hl]
      exact HO.out.1
theorem given_snoc (h:Tm) (ts:List Tm) (a:Tm):h.given (ts ++ [a])=.app (h.given ts) a:=by simp [Tm.given]
theorem implApplied {W:World} {t:Tm} {v u:Value} {b:Nat} {ts:List Tm} {vs:List Value} (hr:yD W t v) (h:W.ownsRow b 68 1 u ts.length vs) (hs:IReps W ts vs) (hn:ts.length≤100000) :
    Calls Tryz.prog 63 #[v,u] W fun e W'=>Below W.heap.size W W'∧∃ v',e=.returned v'∧yD W' (t.given ts) v':=by
  obtain ⟨ua,uc,rfl⟩:=zQ h
  have hvl:=hs.len
  have hv1:vs.length≤ts.length:=by omega
  have hv2:ts.length≤vs.length:=by omega
  have HR:=Ld hr
  have HS:=Ld hs
  have HH:=Ld h
  clear hr hs h hvl
  go_enter Tryz.func63,Tryz.ntmps63
  go_wp2
  go_loopw [0,9] (fun o i wr=>∃ (k:Nat) (oo:Value),k≤ts.length∧i=.int .i64 k∧oo=o∧Hid (yD wr (t.given (ts.take k)) oo)∧Hid (Below W.heap.size W wr)) (fun _ i _=>ts.length - (intOf i).toNat)
  case atStart=>exact ⟨0,_,Nat.zero_le _,rfl,rfl,HR.out,Below.refl _ _⟩
  case round =>
    obtain ⟨k,oo,hk,rfl,rfl,HI,HB⟩:=hrel
    by_cases hlt:k < ts.length
    · have hu:=zA HH.out HB.out
      obtain ⟨g,cap',e0,_,hgl⟩:=hu.form (by omega)
      cases e0
      have ex:vs[k]?=some vs[k]:=by simp
      have cc:=(hu.cellAt k (by omega)).trans ex
      have hr2:=(HS.out.below HB.out).at k hlt (by omega)
      obtain ⟨T,x,e1⟩:=hr2.iface
      have HR2:Hid (yD wr ts[k] (.iface T x)):=by rw [Hid,← e1];exact hr2
      rw [e1] at cc
      obtain ⟨T0,x0,rfl⟩:=HI.out.iface
      have HG:Hid (t.given (ts.take (k+1))=.app (t.given (ts.take k)) ts[k]):=by rw [Hid,List.take_succ_eq_append_getElem hlt,given_snoc]
      have q1:(0:Int)≤(k:Int):=by omega
      have q2:(k:Int) < (ts.length:Int):=by omega
      clear ex hu hr2 e1
      go_wp2
      go_roundw
      case rel =>
        refine ⟨k+1,_,by omega,by go_num,rfl,?_,HB.out.alloc HB.out.size _⟩
        rw [Hid,HG.out]
        exact ⟨_,_,_,rfl,heap_alloc_new _ _,HI.out.below (Below.alloc (Below.refl _ _) (Nat.le_refl _) _),HR2.out.below (Below.alloc (Below.refl _ _) (Nat.le_refl _) _)⟩
      case measure=>simp [intOf];omega
    · obtain rfl:k=ts.length:=by omega
      have HI2:Hid (yD wr (t.given ts) oo):=by have:=HI.out;rw [List.take_length] at this;exact this
      clear HI
      go_wp2
      go_ret
      exact ⟨HB.out,_,rfl,HI2.out⟩
def TreeAns (t:Tm) (W:World) (e:Ending) (W':World):Prop:=∃ T x,e=.returned (.iface T x)∧yD W' t (.iface T x)∧Below W.heap.size W W'
theorem below_of_grown{W W':World}(h:W.grownBy W' none):Below W.heap.size W W' := ⟨h.os,h.tape,h.output,h.size,fun i hi=>h.block i hi (by simp)⟩
theorem putRes_get(o:Option (List UInt8)):∃ b,yW o=.tuple #[.string ⟨(o.getD []).toArray⟩,.bool b]:=by
 cases o with
|none=>exact⟨_,rfl⟩
|some t=>exact⟨_,rfl⟩
theorem putRes_say(T:Tm)(tb:List UInt8)(h:T.bytes=tb)(hp:T.Pre):yW (sayT (some []) T)=if zX tb=true then .tuple #[.string ⟨tb.toArray⟩,.bool true] else .tuple #[.string ⟨#[]⟩,.bool false]:=by
 subst h
 by_cases hk:zX T.bytes=true
 ·rw[if_pos hk,(sayT_nil T).1 ((termOk_pre hp).1 hk)]
  rfl
 ·rw[if_neg hk,(sayT_nil T).2 (fun h=>hk ((termOk_pre hp).2 h))]
  rfl
theorem implTextWithin{t:Tm}{v:Value}{W:World}(hv:Vars W)(hl:t.Lim 9999)(hp:t.Pre)(hz:t.bytes.length≤100000000)(h:yD W t v) :
  Calls Tryz.prog 62 #[v] W fun e W'=>e=.returned (yW (sayT (some []) t))∧Below W.heap.size W W':=by
 obtain⟨T,x,rfl⟩:=h.iface
 have f1:=Ld (implText hv hl h hz)
 have f2:=Ld fun W1 (hb:Below W.heap.size W W1)=>implTermOk ⟨t.bytes.toArray⟩ W1 (hv.below hb) (by simp only[maxLen,ByteArray.size,List.size_toArray];omega)
 have HE:=Ld (putRes_say t _ rfl hp)
 simp only at f2
 generalize t.bytes=tb at f1 f2 HE
 rw[HE.out]
 clear HE h hl hp hz hv
 generalize zX tb=ok at f2
 go_enter Tryz.func62,Tryz.ntmps62
 go_wp2_with fail
 (with_reducible refine f1.out.mono ?_);rintro e w1 ⟨rfl,hb1⟩
 go_wp2_with fail
 (with_reducible refine(f2.out _ hb1).mono ?_);rintro e w2 ⟨rfl,hb2⟩
 have HB2:=Ld (hb1.trans (hb2.mono hb1.size))
 clear hb1 hb2 f1 f2
 cases ok
 all_goals
  go_wp2
  go_ret2
  exact⟨rfl,HB2.out⟩
theorem termOk_iff{l:List UInt8}:zX l=true↔∃ t,IsTm l t:=by
 unfold zX
 constructor
 ·intro h
  obtain⟨t,ht⟩:=Option.isSome_iff_exists.1 h
  exact⟨t,termOf_is ht⟩
 ·rintro ⟨t,ht⟩
  rw[zY ht]
  rfl
theorem AllTm.flat{ls:List (List UInt8)}{ts:List Tm}(h:AllTm ls ts):catB ts=ls.flatten:=by rw[catB,h.1]
theorem AllTm.ok{ls:List (List UInt8)}{ts:List Tm}(h:AllTm ls ts):∀ t∈ts,t.Ok:=fun t ht=>(h.2 t ht).1
theorem AllTm.all{ls:List (List UInt8)}{ts:List Tm}(h:AllTm ls ts):∀ a∈ls,zX a=true:=fun a ha=>by
 rw[← h.1] at ha
 obtain⟨t,ht,rfl⟩:=List.mem_map.1 ha
 exact termOk_iff.2 ⟨t,h.2 t ht⟩
theorem given_no{h:List UInt8}(ls:List (List UInt8))(hno:∀ t,¬ IsTm h t):yF h ls=none:=by
 unfold yF
 rw[if_neg]
 rintro ⟨h1,_⟩
 obtain⟨t,ht⟩:=termOk_iff.1 h1
 exact hno t ht
theorem given_no2(h:List UInt8){ls:List (List UInt8)}(hno:(∃ a∈ls,∀ t,¬ IsTm a t)∨2000<ls.flatten.length):yF h ls=none:=by
 unfold yF
 rw[if_neg]
 rintro ⟨_,h2,h3⟩
 rcases hno with ⟨a,ha,hx⟩|hl
 ·obtain⟨t,ht⟩:=termOk_iff.1 (h2 a ha)
  exact hx t ht
 ·omega
theorem given_yes{h:List UInt8}{ls:List (List UInt8)}{T:Tm}{ts:List Tm}(ht:IsTm h T)(ha:AllTm ls ts):yF h ls=sayT (some []) (T.given ts):=by
 have hok:=given_ok ts T ht.1 ha.ok
 have hb:=given_bytes ts T
 rw[ha.flat,ht.2.1,ha.len] at hb
 have hl:(T.given ts).bytes.length=h.length+ls.length+ls.flatten.length:=by rw[hb];simp only[List.length_append,List.length_replicate];omega
 unfold yF
 by_cases hk:h.length+ls.length+ls.flatten.length≤2000
 ·rw[if_pos ⟨termOk_iff.2 ⟨T,ht⟩,ha.all,hk⟩,(sayT_nil _).1 ⟨hok,by omega⟩,hb]
 ·rw[if_neg (fun hh=>hk hh.2.2),(sayT_nil _).2 (fun hh=>hk (by have:=hh.2;omega))]
theorem implGiven(s:ByteArray){W:World}{b:Nat}{v:Value}{ls:List (List UInt8)}(hv:Vars W)(hs:s.size≤maxLen)(h:W.ownsRow b 9 1 v ls.length (ls.map sv))(hn:ls.length≤1048576)(hx:∀ x∈ls,x.length≤1048576) :
  Calls Tryz.prog 17 #[.string s,v] W fun e w'=>e=.returned (yW (yF s.data.toList ls))∧Below W.heap.size W w':=by
 have f1:=Ld (xG s W hv hs)
 have f2:=Ld fun W1 (hb:Below W.heap.size W W1)=>implReadTerms (hv.below hb) (zA h hb) hn hx
 have HV:=Ld hv
 obtain⟨ua,uc,rfl⟩:=zQ h
 clear hv h hx hs
 go_enter Tryz.func17,Tryz.ntmps17
 go_wp2_with fail
 (with_reducible refine f1.out.mono ?_);rintro e w1 ⟨hb,⟨t,tv,ht,rfl,hr⟩|⟨hno,rfl⟩⟩
 rotate_left
 ·have HB:=Ld hb
  have HE:Hid (yF s.data.toList ls=none):=given_no ls hno
  clear hno f1 hb
  go_wp2_with fail
  (with_reducible refine(f2.out _ HB.out).mono ?_);rintro e w2 ⟨hb2,⟨ts,u,vs,hA,hfl,hl2,rfl,hu,hvs⟩|⟨hno2,rfl⟩⟩
  ·have HB2:=Ld (HB.out.trans (hb2.mono HB.out.size))
   obtain⟨xa,xc,rfl⟩:=zQ hu
   clear hb2 hA hu hvs f2
   go_wp2
   go_ret2
   rw[HE.out]
   exact⟨rfl,HB2.out⟩
  ·have HB2:=Ld (HB.out.trans (hb2.mono HB.out.size))
   clear hb2 hno2 f2
   go_wp2
   go_ret2
   rw[HE.out]
   exact⟨rfl,HB2.out⟩
 obtain⟨T,x,rfl⟩:=hr.iface
 have HB:=Ld hb
 clear hb f1
 go_wp2_with fail
 (with_reducible refine(f2.out _ HB.out).mono ?_);rintro e w2 ⟨hb2,⟨ts,u,vs,hA,hfl,hl2,rfl,hu,hvs⟩|⟨hno2,rfl⟩⟩
 rotate_left
 ·have HB2:=Ld (HB.out.trans (hb2.mono HB.out.size))
  have HE:Hid (yF s.data.toList ls=none):=given_no2 _ hno2
  clear hb2 hno2 f2 ht hr
  go_wp2
  go_ret2
  rw[HE.out]
  exact⟨rfl,HB2.out⟩
 have HB2:=Ld (HB.out.trans (hb2.mono HB.out.size))
 have HE:=Ld (given_yes ht hA)
 have hok:=given_ok ts t ht.1 hA.ok
 have hbl:=congrArg List.length (given_bytes ts t)
 rw[hA.flat] at hbl
 have hle:=ht.2.2
 rw[← ht.2.1] at hle
 have hll:=hA.len
 simp only[List.length_append,List.length_replicate] at hbl
 have f3:=Ld (implApplied (hr.below hb2) hu hvs (by omega))
 have f4:=Ld fun W2 v' (hb3:Below W.heap.size W W2) (hr3:yD W2 (t.given ts) v')=>implTextWithin (HV.out.below hb3) hok.lim9 hok.pre (by omega) hr3
 obtain⟨xa,xc,rfl⟩:=zQ hu
 generalize t.given ts=R at f3 f4 HE
 clear hb2 hA hu hvs f2 ht hr hok hbl hle hll hfl HB
 go_wp2_with fail
 (with_reducible refine f3.out.mono ?_);rintro e w3 ⟨hb3,v',rfl,hr3⟩
 have HB3:=Ld (HB2.out.trans (hb3.mono HB2.out.size))
 have f5:=Ld (f4.out w3 v' HB3.out hr3)
 obtain⟨T1,x1,rfl⟩:=hr3.iface
 obtain⟨o2,ho⟩:=putRes_get (sayT (some []) R)
 rw[ho] at f5
 have HO:=Ld ho
 clear hr3 hb3 f3 f4 ho
 go_wp2_with fail
 (with_reducible refine f5.out.mono ?_);rintro e w4 ⟨rfl,hb4⟩
 have HB4:=Ld (HB3.out.trans (hb4.mono HB3.out.size))
 clear hb4 f5
 go_wp2
 go_ret2
 rw[HE.out,HO.out]
 exact⟨rfl,HB4.out⟩
end Go.Proofs.YtgonemalnljabaaGreatDoor
