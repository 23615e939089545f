/- UOrd JLib DrD JKn -/
import Derived.Test.YtgonemalnljabaaGreatDoorYJ0
import Derived.Test.YtgonemalnljabaaGreatDoorYE1
import Derived.Test.YtgonemalnljabaaGreatDoorYJF1
import Derived.Test.YtgonemalnljabaaGreatDoorYA6
set_option maxRecDepth 100000
set_option maxHeartbeats 16000000
set_option linter.unusedSimpArgs false
set_option linter.unusedVariables false
namespace Go.Proofs.YtgonemalnljabaaGreatDoor
theorem asV_fun (X Y Z:Nat) (v:Fin 3→Nat) (h0:X=v 0) (h1:Y=v 1) (h2:Z=v 2):asV [X,Y,Z]=v:=by
 funext k
 have:k=0∨k=1∨k=2:=by
  have:=k.isLt
  rcases (by omega:k.val=0∨k.val=1∨k.val=2) with h | h | h
  ·exact .inl (Fin.ext h)
  ·exact .inr (.inl (Fin.ext h))
  ·exact .inr (.inr (Fin.ext h))
 rcases this with rfl | rfl | rfl
 ·exact h0
 ·exact h1
 ·exact h2
theorem tryOne_of {k x:Nat} (h:x=0∨x=1∨x=k):∃ i,i < 3∧tryOne k i=x:=by
 rcases h with rfl | rfl | rfl
 ·exact ⟨0,by omega,rfl⟩
 ·exact ⟨1,by omega,rfl⟩
 ·exact ⟨2,by omega,rfl⟩
theorem levelLe_iff {a b:Lv} (ha:levelOk a.bytes=true) (hb:levelOk b.bytes=true):levelLe a.bytes b.bytes=true↔∀ V:Fin 3→Nat,a.val V≤b.val V:=by
 rw [levelLe,ha,hb,levelWit,if_pos ⟨ha,hb⟩,tree_ups ha,tree_ups hb,witIdx,tree_ups ha,tree_ups hb]
 simp only [Bool.true_and,Option.isNone_map,Option.isNone_iff_eq_none,List.find?_eq_none,above,decide_eq_true_eq,lval_tree,List.mem_range,Nat.not_lt]
 constructor
 ·intro h V
  by_cases hlt:b.val V < a.val V
  ·obtain ⟨v',h1,h2⟩:=Lv.above_small a b (2+a.ups+b.ups) (by omega) V hlt
   obtain ⟨x,hx,ex⟩:=tryOne_of (h1 0)
   obtain ⟨y,hy,ey⟩:=tryOne_of (h1 1)
   obtain ⟨z,hz,ez⟩:=tryOne_of (h1 2)
   have h3:=h (9*x+3*y+z) (by omega)
   rw [tri_form hy hz,asV_fun _ _ _ v' ex ey ez] at h3
   omega
  ·omega
 ·intro h i _
  exact h _
theorem le_of {a b:Lv} {l m:List UInt8} (ea:l=a.bytes) (eb:m=b.bytes) (ha:l.length≤60) (hb:m.length≤60) (h:∀ V:Fin 3→Nat,a.val V≤b.val V):levelLe l m=true:=by
 subst ea eb
 exact (levelLe_iff (tree_ok a ha) (tree_ok b hb)).2 h
structure OrdP (a b:List UInt8) (vs:List Int):Prop where
 x:∃ n:Nat,levelAt a vs=n
 y:∃ n:Nat,levelAt b vs=n
 le:levelLe a b=true→levelAt a vs≤levelAt b vs
 anti:levelLe a b=!(levelWit a b).isSome
 wit:∀ ws,levelWit a b=some ws→∃ n m:Nat,levelAt a (ws.map fun (x:Nat)=>(x:Int))=n∧levelAt b (ws.map fun (x:Nat)=>(x:Int))=m∧m < n
 aa:levelLe a a=true
 am:levelLe a (109 :: (a ++ b))=true
 im:levelLe (105 :: (a ++ b)) (109 :: (a ++ b))=true
 bi:levelLe b (105 :: (a ++ b))=true
 up:levelLe (43 :: a) a=false
 ab:levelLe [43,122] (43 :: a)=true
 ze:levelLe (105 :: (a ++ [122])) [122]=true
 sm:levelSame (109 :: (a ++ b)) (109 :: (b ++ a))=true
end Go.Proofs.YtgonemalnljabaaGreatDoor
namespace Go.Proofs.YtgonemalnljabaaGreatDoor
open Go
theorem termOf_bytes {t:Tm} (hok:t.Ok) (hl:t.bytes.length≤2000):termOf t.bytes=some t:=termOf_some ⟨hok,rfl,hl⟩
theorem inL_uses {t:Tm} (hok:t.Ok) (hl:t.bytes.length≤2000) (name:List UInt8):inL (usesIn t.bytes) name=decide (name∈t.cnames):=by
 unfold usesIn
 rw [termOf_bytes hok hl]
 simp only [inL]
 rw [decide_eq_decide]
 exact (srt_spec _ t.cnames (Nat.le_refl _)).2.1 name
def shapeT (self name:List UInt8) (a:Tm):Int :=
 if name∈a.cnames then (if (a.doms.any fun b=>decide (name∈b.cnames))=true then 2 else if a.targ.bytes=self then 1 else 2) else 0
theorem doms_len {a b:Tm} (h:b∈a.doms):b.bytes.length≤a.bytes.length:=by
 have h2:=congrArg List.length (doms_targ a)
 rw [List.length_append] at h2
 have:=catP_mem h
 omega
theorem any_congr {α:Type} {l:List α} {p q:α→Bool} (h:∀ x∈l,p x=q x):l.any p=l.any q:=by
 induction l with
 | nil=>rfl
 | cons a l ih =>
  rw [List.any_cons,List.any_cons,h a List.mem_cons_self,ih fun x hx=>h x (List.mem_cons_of_mem _ hx)]
theorem argShape_tm {a:Tm} (hok:a.Ok) (hl:a.bytes.length≤2000) (self name:List UInt8):argShape self name a.bytes=shapeT self name a:=by
 have e1:termOk a.bytes=true:=by rw [termOk,termOf_bytes hok hl];rfl
 have e2:domainsOf a.bytes=a.doms.map Tm.bytes:=by rw [domainsOf,termOf_bytes hok hl]
 have e3:targetOf a.bytes=a.targ.bytes:=by rw [targetOf,termOf_bytes hok hl]
 have e4:((a.doms.map Tm.bytes).any fun x=>inL (usesIn x) name)=(a.doms.any fun b=>decide (name∈b.cnames)):=by
  rw [List.any_map]
  exact any_congr fun b hb=>inL_uses (Tm.doms_ok hok b hb) (Nat.le_trans (doms_len hb) hl) name
 unfold argShape shapeT
 rw [e1,e2,e3,e4,inL_uses hok hl]
 simp only [if_true,decide_eq_true_eq]
theorem closed_tm {t:Tm} {p:Int} (hok:t.Ok) (hl:t.bytes.length≤2000) (h0:t.opn=0) (hp:(t.params:Int)≤p):closedOf t.bytes p=true:=by
 unfold closedOf
 rw [termOk,termOpen,paramsIn,termOf_bytes hok hl]
 simp [h0,hp]
theorem levelsN_okL {n:Nat} (hn:n≤3):∀ x∈levelsN n,levelOk x=true∧x.length≤2:=by
 have h0:Lib.decDigits 0=[48]:=Lib.decDigits_one (by decide)
 have h1:Lib.decDigits 1=[49]:=Lib.decDigits_one (by decide)
 have h2:Lib.decDigits 2=[50]:=Lib.decDigits_one (by decide)
 have l0:levelOk [117,48]=true:=by simp [levelOk,lend]
 have l1:levelOk [117,49]=true:=by simp [levelOk,lend]
 have l2:levelOk [117,50]=true:=by simp [levelOk,lend]
 intro x hx
 unfold levelsN at hx
 obtain ⟨i,hi,rfl⟩:=List.mem_map.1 hx
 rw [List.mem_range] at hi
 have e:i=0∨i=1∨i=2:=by omega
 rcases e with rfl | rfl | rfl
 ·rw [h0];exact ⟨l0,by simp⟩
 ·rw [h1];exact ⟨l1,by simp⟩
 ·rw [h2];exact ⟨l2,by simp⟩
def selfT (d:Dc):Tm:=.const d.name (levelsN d.params.toNat)
structure CtorP (d:Dc) (c:Ct) (t:Tm):Prop where
 bytes:t.bytes=c.2
 ok:t.Ok
 len:t.bytes.length≤2000
 opn:t.opn=0
 params:(t.params:Int)≤d.params
 head:headOk d.name c.1=true
 part:(nparts (restOf d.name c.1)).length=1
 notRec:restOf d.name c.1≠recB
 targ:t.targ=selfT d
 shapes:∀ a∈t.doms,shapeT (selfT d).bytes d.name a=0∨shapeT (selfT d).bytes d.name a=1
structure LibP (d:Dc) (lv:List UInt8):Prop where
 kind:d.kind=4
 name:nameOk d.name=true
 rname:nameOk (d.name ++ 46 :: recB)=true
 par0:0≤d.params
 par2:d.params≤2
 flags:d.flags=0∨d.flags=2
 value:d.value=[]
 type:d.type=(Tm.sort lv).bytes
 level:levelOk lv=true
 lparams:(levelParams lv:Int)≤d.params
 count:d.ctors.length≤6
 ctors:∀ (k:Nat) (h:k < d.ctors.length),(∃ t,CtorP d d.ctors[k] t)∧∀ (j:Nat) (hj:j < k),d.ctors[j].1≠d.ctors[k].1
theorem sort_short {lv:List UInt8} (h:levelOk lv=true):(Tm.sort lv).bytes.length≤2000:=by
 have:=(levelOk_len h).1
 simp [Tm.bytes]
 omega
theorem LibP.decl {d:Dc} {lv:List UInt8} (h:LibP d lv):declOk d=true:=by
 have hs:=sort_short h.level
 have hok:(Tm.sort lv).Ok:=h.level
 have hcl:closedOf d.type d.params=true:=by rw [h.type];exact closed_tm hok hs rfl h.lparams
 have hk:termKind d.type=[115]:=by
  rw [h.type,termKind,termOk,termOf_bytes hok hs]
  rfl
 have hcs:ctorsOk d.name d.params d.ctors d.ctors.length=true:=by
  simp only [ctorsOk,decide_eq_true_eq]
  intro i hi _
  obtain ⟨⟨t,ht⟩,hd⟩:=h.ctors i hi
  refine ⟨?_,hd⟩
  simp only [ctorOk,tailOk,Bool.and_eq_true,decide_eq_true_eq]
  refine ⟨ht.head,ht.part,ht.notRec,?_⟩
  rw [← ht.bytes]
  exact closed_tm ht.ok ht.len ht.opn ht.params
 have h0:=h.par0
 have h2:=h.par2
 simp only [declOk,declKindOk,h.kind,Bool.and_eq_true,decide_eq_true_eq,show ((4:Int)=1)=False by simp,show ((4:Int)=2∨(4:Int)=3)=False by simp,if_false,if_true]
 refine ⟨h.name,⟨h0,by omega⟩,?_,hcl,?_⟩
 ·rcases h.flags with e | e<;>omega
 ·simp only [dataOk,Bool.and_eq_true,decide_eq_true_eq]
  refine ⟨?_,h.value,by omega,hk,h.count,⟨h.name,h.rname⟩,hcs⟩
  rcases h.flags with e | e<;>rw [e]<;>decide
theorem LibP.data {d:Dc} {lv:List UInt8} (h:LibP d lv):isData d=true:=by simp [isData,h.kind,h.decl]
theorem LibP.self {d:Dc} {lv:List UInt8} (h:LibP d lv):selfConst d=(selfT d).bytes:=by rw [selfConst,if_pos h.decl];rfl
theorem LibP.selfOk {d:Dc} {lv:List UInt8} (h:LibP d lv):(selfT d).Ok:=by
 have h2:=h.par2
 refine ⟨h.name,?_,fun x hx=>(levelsN_okL (n:=d.params.toNat) (by omega) x hx).1⟩
 simp [levelsN]
 omega
theorem LibP.selfLen {d:Dc} {lv:List UInt8} (h:LibP d lv):(selfT d).bytes.length≤100:=by
 have h2:=h.par2
 have hn:=nameOk_le h.name
 have hl:∀ (ls:List (List UInt8)),(∀ x∈ls,x.length≤2)→(lvsB ls).length≤3*ls.length:=by
  intro ls
  induction ls with
  | nil=>intro _;simp [lvsB]
  | cons a ls ih =>
   intro hx
   have:=hx a List.mem_cons_self
   have:=ih fun x hx'=>hx x (List.mem_cons_of_mem _ hx')
   simp [lvsB]
   omega
 have h3:=hl (levelsN d.params.toNat) (fun x hx=>(levelsN_okL (n:=d.params.toNat) (by omega) x hx).2)
 have h4:(levelsN d.params.toNat).length≤3:=by simp [levelsN];omega
 simp only [selfT,Tm.bytes,List.length_cons,List.length_append,List.length_nil]
 omega
theorem LibP.isCtor {d:Dc} {lv:List UInt8} (h:LibP d lv) {k:Nat} (hk:k < d.ctors.length):isCtor d (k:Int)=true:=by
 simp [Go.Proofs.YtgonemalnljabaaGreatDoor.isCtor,h.data,hk]
theorem LibP.shapes {d:Dc} {lv:List UInt8} (h:LibP d lv) {k:Nat} (hk:k < d.ctors.length):(shapesOf d (k:Int)).length=(domainsOf d.ctors[k].2).length∧∀ s∈shapesOf d (k:Int),s=0∨s=1:=by
 obtain ⟨⟨t,ht⟩,_⟩:=h.ctors k hk
 have e1:shapesOf d (k:Int)=(domainsOf d.ctors[k].2).map fun x=>argShape (selfConst d) d.name x:=by
  rw [shapesOf,if_pos (h.isCtor hk),ctorType_at hk]
 refine ⟨by rw [e1,List.length_map],?_⟩
 rw [e1,← ht.bytes,domainsOf,termOf_bytes ht.ok ht.len,h.self]
 intro s hs
 obtain ⟨x,hx,rfl⟩:=List.mem_map.1 hs
 obtain ⟨a,ha,rfl⟩:=List.mem_map.1 hx
 rw [argShape_tm (Tm.doms_ok ht.ok a ha) (Nat.le_trans (doms_len ha) ht.len)]
 exact ht.shapes a ha
theorem LibP.result {d:Dc} {lv:List UInt8} (h:LibP d lv) {k:Nat} (hk:k < d.ctors.length):resultOk d (k:Int)=true:=by
 obtain ⟨⟨t,ht⟩,_⟩:=h.ctors k hk
 rw [resultOk,h.isCtor hk,ctorType_at hk,← ht.bytes,targetOf,termOf_bytes ht.ok ht.len,h.self]
 simp [ht.targ]
theorem LibP.over {d:Dc} {lv:List UInt8} (h:LibP d lv):resultOk d (d.ctors.length:Int)=false:=by
 simp [resultOk,Go.Proofs.YtgonemalnljabaaGreatDoor.isCtor]
theorem LibP.pos {d:Dc} {lv:List UInt8} (h:LibP d lv):positive d=true:=by
 rw [positive,h.data,Bool.true_and]
 simp only [goodTo,decide_eq_true_eq]
 intro i hi s hs
 rcases (h.shapes hi).2 s hs with e | e<;>omega
theorem LibP.large {d:Dc} {lv:List UInt8} (h:LibP d lv):largeOk d=levelLe [43,122] lv:=by
 rw [largeOk,h.data,Bool.true_and]
 congr 1
 rw [h.type]
 simp [levelIn,Tm.bytes]
theorem LibP.shSelf {d:Dc} {lv:List UInt8} (h:LibP d lv):argShape (selfConst d) d.name (selfConst d)=1:=by
 rw [h.self,argShape_tm h.selfOk (Nat.le_trans h.selfLen (by decide))]
 simp [shapeT,selfT,Tm.cnames,Tm.doms,Tm.targ]
theorem LibP.shBad {d:Dc} {lv:List UInt8} (h:LibP d lv):argShape (selfConst d) d.name (112 :: (selfConst d ++ selfConst d))=2:=by
 have e:112 :: (selfConst d ++ selfConst d)=(Tm.pi (selfT d) (selfT d)).bytes:=by rw [h.self];rfl
 have hl:=h.selfLen
 rw [e,argShape_tm (a:=.pi (selfT d) (selfT d)) ⟨h.selfOk,h.selfOk⟩ (by simp [Tm.bytes];omega)]
 simp [shapeT,selfT,Tm.cnames,Tm.doms]
theorem LibP.shNone {d:Dc} {lv:List UInt8} (h:LibP d lv):argShape (selfConst d) d.name [115,122,46]=0:=by
 have e:([115,122,46]:List UInt8)=(Tm.sort [122]).bytes:=rfl
 rw [e,argShape_tm (a:=.sort [122]) (by simp [Tm.Ok,levelOk,lend]) (by simp [Tm.bytes])]
 simp [shapeT,Tm.cnames]
theorem LibP.rng {d:Dc} {lv:List UInt8} (h:LibP d lv):-9223372036854775808≤d.flags∧d.flags≤9223372036854775807:=by
 rcases h.flags with e | e<;>rw [e]<;>decide
def libNat:Dc:=⟨4,[110,97,116],0,0,[115,43,122,46],[],[([110,97,116,46,122,101,114,111],[99,110,97,116,59,46]),([110,97,116,46,115,117,99,99],[112,99,110,97,116,59,46,99,110,97,116,59,46])]⟩
def libBool:Dc:=⟨4,[98,111,111,108],0,0,[115,43,122,46],[],[([98,111,111,108,46,116,116],[99,98,111,111,108,59,46]),([98,111,111,108,46,102,102],[99,98,111,111,108,59,46])]⟩
def libTree:Dc:=⟨4,[116,114,101,101],0,0,[115,43,122,46],[],[([116,114,101,101,46,108,101,97,102],[99,116,114,101,101,59,46]),([116,114,101,101,46,110,111,100,101],[112,99,110,97,116,59,46,112,112,99,110,97,116,59,46,99,116,114,101,101,59,46,99,116,114,101,101,59,46])]⟩
def libFalse:Dc:=⟨4,[102,97,108,115,101],0,0,[115,122,46],[],[]⟩
def libBig:Dc:=⟨4,[98,105,103],0,2,[115,43,122,46],[],[([98,105,103,46,109,107],[112,115,43,122,46,99,98,105,103,59,46])]⟩
def libBox:Dc:=⟨4,[98,111,120],1,0,[115,43,109,117,48,43,122,46],[],[([98,111,120,46,109,107],[112,115,117,48,46,112,118,48,46,99,98,111,120,59,117,48,44,46])]⟩
theorem libNatC0:CtorP libNat ([110,97,116,46,122,101,114,111],[99,110,97,116,59,46]) (.const [110,97,116] []) where
 bytes:=by rfl
 ok:=by simp [Tm.Ok,levelOk,lend];try decide
 len:=by decide
 opn:=by decide
 params:=by simp [Tm.bytes,Tm.targ,Tm.doms,Tm.cnames,Tm.opn,Tm.params,selfT,levelsN,List.range,List.range.loop,lvsB,libBox,Lib.decDigits_one,levelParams,parF,levelOk,lend,shapeT]<;>decide
 head:=by decide
 part:=by decide
 notRec:=by decide
 targ:=by rfl
 shapes:=by
  intro a ha
  simp only [Tm.doms,List.mem_cons,List.not_mem_nil,or_false] at ha
theorem libNatC1:CtorP libNat ([110,97,116,46,115,117,99,99],[112,99,110,97,116,59,46,99,110,97,116,59,46]) (.pi (.const [110,97,116] []) (.const [110,97,116] [])) where
 bytes:=by rfl
 ok:=by simp [Tm.Ok,levelOk,lend];try decide
 len:=by decide
 opn:=by decide
 params:=by simp [Tm.bytes,Tm.targ,Tm.doms,Tm.cnames,Tm.opn,Tm.params,selfT,levelsN,List.range,List.range.loop,lvsB,libBox,Lib.decDigits_one,levelParams,parF,levelOk,lend,shapeT]<;>decide
 head:=by decide
 part:=by decide
 notRec:=by decide
 targ:=by rfl
 shapes:=by
  intro a ha
  simp only [Tm.doms,List.mem_cons,List.not_mem_nil,or_false] at ha
  rcases ha with rfl
  ·decide
theorem libNatP:LibP libNat [43,122] where
 kind:=rfl
 name:=by decide
 rname:=by decide
 par0:=by decide
 par2:=by decide
 flags:=by decide
 value:=rfl
 type:=rfl
 level:=by simp [levelOk,lend]
 lparams:=by simp [Tm.bytes,Tm.targ,Tm.doms,Tm.cnames,Tm.opn,Tm.params,selfT,levelsN,List.range,List.range.loop,lvsB,libBox,Lib.decDigits_one,levelParams,parF,levelOk,lend,shapeT]<;>decide
 count:=by decide
 ctors:=by
  intro k h
  have h1:k < 2:=h
  have e:k=0∨k=1:=by omega
  rcases e with rfl | rfl
  ·refine ⟨⟨_,libNatC0⟩,fun j hj=>?_⟩
   omega
  ·refine ⟨⟨_,libNatC1⟩,fun j hj=>?_⟩
   obtain rfl:j=0:=by omega
   show ([110,97,116,46,122,101,114,111]:List UInt8)≠[110,97,116,46,115,117,99,99]
   decide
theorem libBoolC0:CtorP libBool ([98,111,111,108,46,116,116],[99,98,111,111,108,59,46]) (.const [98,111,111,108] []) where
 bytes:=by rfl
 ok:=by simp [Tm.Ok,levelOk,lend];try decide
 len:=by decide
 opn:=by decide
 params:=by simp [Tm.bytes,Tm.targ,Tm.doms,Tm.cnames,Tm.opn,Tm.params,selfT,levelsN,List.range,List.range.loop,lvsB,libBox,Lib.decDigits_one,levelParams,parF,levelOk,lend,shapeT]<;>decide
 head:=by decide
 part:=by decide
 notRec:=by decide
 targ:=by rfl
 shapes:=by
  intro a ha
  simp only [Tm.doms,List.mem_cons,List.not_mem_nil,or_false] at ha
theorem libBoolC1:CtorP libBool ([98,111,111,108,46,102,102],[99,98,111,111,108,59,46]) (.const [98,111,111,108] []) where
 bytes:=by rfl
 ok:=by simp [Tm.Ok,levelOk,lend];try decide
 len:=by decide
 opn:=by decide
 params:=by simp [Tm.bytes,Tm.targ,Tm.doms,Tm.cnames,Tm.opn,Tm.params,selfT,levelsN,List.range,List.range.loop,lvsB,libBox,Lib.decDigits_one,levelParams,parF,levelOk,lend,shapeT]<;>decide
 head:=by decide
 part:=by decide
 notRec:=by decide
 targ:=by rfl
 shapes:=by
  intro a ha
  simp only [Tm.doms,List.mem_cons,List.not_mem_nil,or_false] at ha
theorem libBoolP:LibP libBool [43,122] where
 kind:=rfl
 name:=by decide
 rname:=by decide
 par0:=by decide
 par2:=by decide
 flags:=by decide
 value:=rfl
 type:=rfl
 level:=by simp [levelOk,lend]
 lparams:=by simp [Tm.bytes,Tm.targ,Tm.doms,Tm.cnames,Tm.opn,Tm.params,selfT,levelsN,List.range,List.range.loop,lvsB,libBox,Lib.decDigits_one,levelParams,parF,levelOk,lend,shapeT]<;>decide
 count:=by decide
 ctors:=by
  intro k h
  have h1:k < 2:=h
  have e:k=0∨k=1:=by omega
  rcases e with rfl | rfl
  ·refine ⟨⟨_,libBoolC0⟩,fun j hj=>?_⟩
   omega
  ·refine ⟨⟨_,libBoolC1⟩,fun j hj=>?_⟩
   obtain rfl:j=0:=by omega
   show ([98,111,111,108,46,116,116]:List UInt8)≠[98,111,111,108,46,102,102]
   decide
theorem libTreeC0:CtorP libTree ([116,114,101,101,46,108,101,97,102],[99,116,114,101,101,59,46]) (.const [116,114,101,101] []) where
 bytes:=by rfl
 ok:=by simp [Tm.Ok,levelOk,lend];try decide
 len:=by decide
 opn:=by decide
 params:=by simp [Tm.bytes,Tm.targ,Tm.doms,Tm.cnames,Tm.opn,Tm.params,selfT,levelsN,List.range,List.range.loop,lvsB,libBox,Lib.decDigits_one,levelParams,parF,levelOk,lend,shapeT]<;>decide
 head:=by decide
 part:=by decide
 notRec:=by decide
 targ:=by rfl
 shapes:=by
  intro a ha
  simp only [Tm.doms,List.mem_cons,List.not_mem_nil,or_false] at ha
theorem libTreeC1:CtorP libTree ([116,114,101,101,46,110,111,100,101],[112,99,110,97,116,59,46,112,112,99,110,97,116,59,46,99,116,114,101,101,59,46,99,116,114,101,101,59,46]) (.pi (.const [110,97,116] []) (.pi (.pi (.const [110,97,116] []) (.const [116,114,101,101] [])) (.const [116,114,101,101] []))) where
 bytes:=by rfl
 ok:=by simp [Tm.Ok,levelOk,lend];try decide
 len:=by decide
 opn:=by decide
 params:=by simp [Tm.bytes,Tm.targ,Tm.doms,Tm.cnames,Tm.opn,Tm.params,selfT,levelsN,List.range,List.range.loop,lvsB,libBox,Lib.decDigits_one,levelParams,parF,levelOk,lend,shapeT]<;>decide
 head:=by decide
 part:=by decide
 notRec:=by decide
 targ:=by rfl
 shapes:=by
  intro a ha
  simp only [Tm.doms,List.mem_cons,List.not_mem_nil,or_false] at ha
  rcases ha with rfl | rfl
  ·decide
  ·decide
theorem libTreeP:LibP libTree [43,122] where
 kind:=rfl
 name:=by decide
 rname:=by decide
 par0:=by decide
 par2:=by decide
 flags:=by decide
 value:=rfl
 type:=rfl
 level:=by simp [levelOk,lend]
 lparams:=by simp [Tm.bytes,Tm.targ,Tm.doms,Tm.cnames,Tm.opn,Tm.params,selfT,levelsN,List.range,List.range.loop,lvsB,libBox,Lib.decDigits_one,levelParams,parF,levelOk,lend,shapeT]<;>decide
 count:=by decide
 ctors:=by
  intro k h
  have h1:k < 2:=h
  have e:k=0∨k=1:=by omega
  rcases e with rfl | rfl
  ·refine ⟨⟨_,libTreeC0⟩,fun j hj=>?_⟩
   omega
  ·refine ⟨⟨_,libTreeC1⟩,fun j hj=>?_⟩
   obtain rfl:j=0:=by omega
   show ([116,114,101,101,46,108,101,97,102]:List UInt8)≠[116,114,101,101,46,110,111,100,101]
   decide
theorem libFalseP:LibP libFalse [122] where
 kind:=rfl
 name:=by decide
 rname:=by decide
 par0:=by decide
 par2:=by decide
 flags:=by decide
 value:=rfl
 type:=rfl
 level:=by simp [levelOk,lend]
 lparams:=by simp [Tm.bytes,Tm.targ,Tm.doms,Tm.cnames,Tm.opn,Tm.params,selfT,levelsN,List.range,List.range.loop,lvsB,libBox,Lib.decDigits_one,levelParams,parF,levelOk,lend,shapeT]<;>decide
 count:=by decide
 ctors:=by
  intro k h
  have h1:k < 0:=h
  omega
theorem libBigC0:CtorP libBig ([98,105,103,46,109,107],[112,115,43,122,46,99,98,105,103,59,46]) (.pi (.sort [43,122]) (.const [98,105,103] [])) where
 bytes:=by rfl
 ok:=by simp [Tm.Ok,levelOk,lend];try decide
 len:=by decide
 opn:=by decide
 params:=by simp [Tm.bytes,Tm.targ,Tm.doms,Tm.cnames,Tm.opn,Tm.params,selfT,levelsN,List.range,List.range.loop,lvsB,libBox,Lib.decDigits_one,levelParams,parF,levelOk,lend,shapeT]<;>decide
 head:=by decide
 part:=by decide
 notRec:=by decide
 targ:=by rfl
 shapes:=by
  intro a ha
  simp only [Tm.doms,List.mem_cons,List.not_mem_nil,or_false] at ha
  rcases ha with rfl
  ·decide
theorem libBigP:LibP libBig [43,122] where
 kind:=rfl
 name:=by decide
 rname:=by decide
 par0:=by decide
 par2:=by decide
 flags:=by decide
 value:=rfl
 type:=rfl
 level:=by simp [levelOk,lend]
 lparams:=by simp [Tm.bytes,Tm.targ,Tm.doms,Tm.cnames,Tm.opn,Tm.params,selfT,levelsN,List.range,List.range.loop,lvsB,libBox,Lib.decDigits_one,levelParams,parF,levelOk,lend,shapeT]<;>decide
 count:=by decide
 ctors:=by
  intro k h
  have h1:k < 1:=h
  have e:k=0:=by omega
  rcases e with rfl
  ·refine ⟨⟨_,libBigC0⟩,fun j hj=>?_⟩
   omega
theorem libBoxC0:CtorP libBox ([98,111,120,46,109,107],[112,115,117,48,46,112,118,48,46,99,98,111,120,59,117,48,44,46]) (.pi (.sort [117,48]) (.pi (.var 0) (.const [98,111,120] [[117,48]]))) where
 bytes:=by simp [Tm.bytes,Tm.targ,Tm.doms,Tm.cnames,Tm.opn,Tm.params,selfT,levelsN,List.range,List.range.loop,lvsB,libBox,Lib.decDigits_one,levelParams,parF,levelOk,lend,shapeT]
 ok:=by simp [Tm.Ok,levelOk,lend];try decide
 len:=by simp [Tm.bytes,Tm.targ,Tm.doms,Tm.cnames,Tm.opn,Tm.params,selfT,levelsN,List.range,List.range.loop,lvsB,libBox,Lib.decDigits_one,levelParams,parF,levelOk,lend,shapeT]
 opn:=by decide
 params:=by simp [Tm.bytes,Tm.targ,Tm.doms,Tm.cnames,Tm.opn,Tm.params,selfT,levelsN,List.range,List.range.loop,lvsB,libBox,Lib.decDigits_one,levelParams,parF,levelOk,lend,shapeT]<;>decide
 head:=by decide
 part:=by decide
 notRec:=by decide
 targ:=by simp [Tm.bytes,Tm.targ,Tm.doms,Tm.cnames,Tm.opn,Tm.params,selfT,levelsN,List.range,List.range.loop,lvsB,libBox,Lib.decDigits_one,levelParams,parF,levelOk,lend,shapeT]
 shapes:=by
  intro a ha
  simp only [Tm.doms,List.mem_cons,List.not_mem_nil,or_false] at ha
  rcases ha with rfl | rfl
  ·simp [Tm.bytes,Tm.targ,Tm.doms,Tm.cnames,Tm.opn,Tm.params,selfT,levelsN,List.range,List.range.loop,lvsB,libBox,Lib.decDigits_one,levelParams,parF,levelOk,lend,shapeT]
  ·simp [Tm.bytes,Tm.targ,Tm.doms,Tm.cnames,Tm.opn,Tm.params,selfT,levelsN,List.range,List.range.loop,lvsB,libBox,Lib.decDigits_one,levelParams,parF,levelOk,lend,shapeT]
theorem libBoxP:LibP libBox [43,109,117,48,43,122] where
 kind:=rfl
 name:=by decide
 rname:=by decide
 par0:=by decide
 par2:=by decide
 flags:=by decide
 value:=rfl
 type:=rfl
 level:=by simp [levelOk,lend]
 lparams:=by simp [Tm.bytes,Tm.targ,Tm.doms,Tm.cnames,Tm.opn,Tm.params,selfT,levelsN,List.range,List.range.loop,lvsB,libBox,Lib.decDigits_one,levelParams,parF,levelOk,lend,shapeT]<;>decide
 count:=by decide
 ctors:=by
  intro k h
  have h1:k < 1:=h
  have e:k=0:=by omega
  rcases e with rfl
  ·refine ⟨⟨_,libBoxC0⟩,fun j hj=>?_⟩
   omega
theorem libNatL:largeOk libNat=true:=by
 rw [libNatP.large]
 exact le_of (a:=.up .z) (b:=.up .z) (by rfl) (by rfl) (by decide) (by decide) (fun V=>by simp [Lv.val])
theorem libBoolL:largeOk libBool=true:=by
 rw [libBoolP.large]
 exact le_of (a:=.up .z) (b:=.up .z) (by rfl) (by rfl) (by decide) (by decide) (fun V=>by simp [Lv.val])
theorem libTreeL:largeOk libTree=true:=by
 rw [libTreeP.large]
 exact le_of (a:=.up .z) (b:=.up .z) (by rfl) (by rfl) (by decide) (by decide) (fun V=>by simp [Lv.val])
theorem libFalseL:largeOk libFalse=false:=by
 rw [libFalseP.large,Bool.eq_false_iff]
 intro h
 have h1:=(levelLe_iff (a:=.up .z) (b:=.z) (tree_ok _ (by decide)) (tree_ok _ (by decide))).1 h (fun _=>0)
 simp [Lv.val] at h1
theorem libBigL:largeOk libBig=true:=by
 rw [libBigP.large]
 exact le_of (a:=.up .z) (b:=.up .z) (by rfl) (by rfl) (by decide) (by decide) (fun V=>by simp [Lv.val])
theorem libBoxL:largeOk libBox=true:=by
 rw [libBoxP.large]
 exact le_of (a:=.up .z) (b:=.up (.mx (.par 0) (.up .z))) (by rfl) (by rfl) (by decide) (by decide) (fun V=>by simp [Lv.val])
end Go.Proofs.YtgonemalnljabaaGreatDoor
namespace Go.Proofs.YtgonemalnljabaaGreatDoor
open Go.ChangeShapes Go.WideShapes Go.ChangeAt Go.RowKit
def hashTo (l:List UInt8):Nat→Int
 | 0=>94701+(l.length:Int)
 | p+1=>if p < 4000 then bits .and .i64 (wrap64 (wrap64 (wrap64 (hashTo l p*131)+((l.getD p 0).toNat:Int))+7)) 1073741823 else hashTo l p
def hashL (l:List UInt8):Int:=hashTo l (min l.length 4000)
def nextH (h:Int):Int:=wrap64 (wrap64 (h*6364136223846793005)+1442695040888963407)
def rawB (h:Int):Nat:=(bits .xor .i64 (nextH h / 8589934592) (nextH h / 35184372088832) % 256).toNat
def byteV (l:List UInt8) (i:Nat) (h:Int):Nat:=if i < l.length then (((rawB h:Int)+((l.getD i 0).toNat:Int)) % 256).toNat else rawB h
def nextI (l:List UInt8) (i:Nat):Nat:=if i < l.length then i+1 else i
def CurD (w0:World) (v:Value) (l:List UInt8) (cb i:Nat) (h:Int) (w:World):Prop :=
 Below w0.heap.size w0 w∧w0.heap.size≤cb∧cb < w.heap.size∧i≤l.length∧w.cell? ⟨cb,0,none⟩=some v∧w.cell? ⟨cb,1,none⟩=some (.int .i64 i)∧w.cell? ⟨cb,2,none⟩=some (.int .i64 h)∧w.frozen? ⟨cb,1,none⟩=false∧w.frozen? ⟨cb,2,none⟩=false
theorem CurD.cur {w0 w:World} {v:Value} {l:List UInt8} {cb i:Nat} {h:Int} (hc:CurD w0 v l cb i h w):Cur w0 v l cb w:=by
 obtain ⟨h1,h2,h3,h4,c0,c1,c2,z1,z2⟩:=hc
 exact ⟨h1,h2,h3,i,h,h4,c0,c1,c2,z1,z2⟩
theorem CurD.below {w0 w w':World} {v:Value} {l:List UInt8} {cb i:Nat} {x:Int} (h:CurD w0 v l cb i x w) (hb:Below w.heap.size w w'):CurD w0 v l cb i x w':=by
 obtain ⟨h1,h2,h3,h4,c0,c1,c2,z1,z2⟩:=h
 exact ⟨h1.trans (hb.mono h1.size),h2,Nat.lt_of_lt_of_le h3 hb.size,h4,(hb.cell (p:=⟨cb,0,none⟩) h3).trans c0,(hb.cell (p:=⟨cb,1,none⟩) h3).trans c1,(hb.cell (p:=⟨cb,2,none⟩) h3).trans c2,(hb.frozen (p:=⟨cb,1,none⟩) h3).trans z1,(hb.frozen (p:=⟨cb,2,none⟩) h3).trans z2⟩
theorem drawByteD {w0 w:World} {v:Value} {l:List UInt8} {cb i:Nat} {hh:Int} (hl:CameB w0 v l) (hc:CurD w0 v l cb i hh w) (hn:l.length≤2000000) :
  Calls Tryz.prog 122 #[.pointer (some ⟨cb,0,none⟩)] w fun e w'=>e=.returned (.int .i64 (byteV l i hh:Int))∧CurD w0 v l cb (nextI l i) (nextH hh) w'∧w.grownBy w' (some cb):=by
 obtain ⟨a0,cap,b,off,rfl,h2,h3⟩:=hl
 obtain ⟨hbel,hcb,hcw,hi,c0,c1,c2,z1,z2⟩:=hc
 have HN:Hid (nextH hh=wrap64 (wrap64 (hh*6364136223846793005)+1442695040888963407)):=rfl
 have HR:Hid (rawB hh=(bits .xor .i64 (nextH hh / 8589934592) (nextH hh / 35184372088832) % 256).toNat):=rfl
 rw [HN.out] at HR
 have HV:Hid (byteV l i hh=if i < l.length then (((rawB hh:Int)+((l.getD i 0).toNat:Int)) % 256).toNat else rawB hh):=rfl
 have HI:Hid (nextI l i=if i < l.length then i+1 else i):=rfl
 go_enter Tryz.func122,Tryz.ntmps122
 go_wp2
 generalize hgen:wrap64 (wrap64 (hh*6364136223846793005)+1442695040888963407)=h1
 rw [hgen] at HN HR
 clear hgen
 have k0:(w.setCell ⟨cb,2,none⟩ (.int .i64 h1)).cell? ⟨cb,0,none⟩=some (.slice a0 l.length cap):=(World.cell?_setCell_other _ _ _ _ (by simp)).trans c0
 have k1:(w.setCell ⟨cb,2,none⟩ (.int .i64 h1)).cell? ⟨cb,1,none⟩=some (.int .i64 i):=(World.cell?_setCell_other _ _ _ _ (by simp)).trans c1
 have k2:(w.setCell ⟨cb,2,none⟩ (.int .i64 h1)).cell? ⟨cb,2,none⟩=some (.int .i64 h1):=World.cell?_setCell_same _ _ _ c2
 have y1:(w.setCell ⟨cb,2,none⟩ (.int .i64 h1)).frozen? ⟨cb,1,none⟩=false:=by simpa using z1
 have y2:(w.setCell ⟨cb,2,none⟩ (.int .i64 h1)).frozen? ⟨cb,2,none⟩=false:=by simpa using z2
 have B1:=hbel.setCell (p:=⟨cb,2,none⟩) hcb (.int .i64 h1)
 have G1:w.grownBy (w.setCell ⟨cb,2,none⟩ (.int .i64 h1)) (some cb):=⟨rfl,rfl,rfl,by simp [World.setCell],fun k hk hne=>Below.heap_setCell _ _ _ _ (fun e=>hne (by rw [e]))⟩
 have hcw1:cb < (w.setCell ⟨cb,2,none⟩ (.int .i64 h1)).heap.size:=by simpa [World.setCell] using hcw
 generalize w.setCell ⟨cb,2,none⟩ (.int .i64 h1)=w1 at k0 k1 k2 y1 y2 B1 G1 hcw1
 clear c0 c1 c2 z1 z2
 go_quiet (fail)
 obtain ⟨x0,hx0e⟩:∃ x0,rawB hh=x0:=⟨_,rfl⟩
 have ex0:bits .and .i64 (bits BinOp.xor IntKind.i64 (h1 / 8589934592) (h1 / 35184372088832)) 255=(x0:Int):=by
  rw [i64_and255,← hx0e,HR.out]
  omega
 have hx0:x0≤255:=by
  rw [← hx0e,HR.out]
  omega
 rw [hx0e] at HV
 rw [ex0]
 have B2:=below_drewN B1 nq
 have G2:w.grownBy (w1.drewN nq) (some cb):=⟨G1.os,G1.tape,G1.output,G1.size,G1.block⟩
 have k0':(w1.drewN nq).cell? ⟨cb,0,none⟩=some (.slice a0 l.length cap):=k0
 have k1':(w1.drewN nq).cell? ⟨cb,1,none⟩=some (.int .i64 i):=k1
 have k2':(w1.drewN nq).cell? ⟨cb,2,none⟩=some (.int .i64 h1):=k2
 have y1':(w1.drewN nq).frozen? ⟨cb,1,none⟩=false:=y1
 have y2':(w1.drewN nq).frozen? ⟨cb,2,none⟩=false:=y2
 have hcw2:cb < (w1.drewN nq).heap.size:=hcw1
 generalize w1.drewN nq=w2 at k0' k1' k2' y1' y2' B2 G2 hcw2
 clear k0 k1 k2 y1 y2 B1 G1 hcw1 ex0
 by_cases hlt:i < l.length
 ·have d1:decide ((i:Int) < (l.length:Int))=true:=decide_eq_true (by omega)
  obtain ⟨rfl,hb⟩:=h2 (by omega)
  have cc:=(B2.cell (p:=⟨b,off+i,none⟩) hb).trans (h3 i hlt)
  have hby:=l[i].toNat_lt
  have hgd:l.getD i 0=l[i]:=by simp [List.getD,hlt]
  rw [hgd] at HV
  generalize l[i].toNat=u at cc hby HV
  have q1:(0:Int)≤(i:Int):=by omega
  have q2:(i:Int) < (l.length:Int):=by omega
  have e1:IntKind.i64.wrap ((u:Int))=(u:Int):=IntWalk.i64_in _ (by omega)
  have e2:IntKind.i64.wrap ((x0:Int)+(u:Int))=(x0:Int)+(u:Int):=IntWalk.i64_in _ (by omega)
  obtain ⟨x1,hx1e⟩:∃ x1:Nat,x1=(((x0:Int)+(u:Int)) % 256).toNat:=⟨_,rfl⟩
  have ex1:bits .and .i64 ((x0:Int)+(u:Int)) 255=(x1:Int):=by
   rw [i64_and255,hx1e]
   omega
  have HV2:Hid (byteV l i hh=x1):=by rw [Hid,HV.out,if_pos hlt,hx1e]
  have HI2:Hid (nextI l i=i+1):=by rw [Hid,HI.out,if_pos hlt]
  clear hx1e
  clear h2 h3
  go_wp2
  go_quiet (fail)
  have B3:=below_drewN B2 nq
  have G3:w.grownBy (w2.drewN nq) (some cb):=⟨G2.os,G2.tape,G2.output,G2.size,G2.block⟩
  have m0:(w2.drewN nq).cell? ⟨cb,0,none⟩=some (.slice (some ⟨b,off,none⟩) l.length cap):=k0'
  have m1:(w2.drewN nq).cell? ⟨cb,1,none⟩=some (.int .i64 i):=k1'
  have m2:(w2.drewN nq).cell? ⟨cb,2,none⟩=some (.int .i64 h1):=k2'
  have s1:(w2.drewN nq).frozen? ⟨cb,1,none⟩=false:=y1'
  have s2:(w2.drewN nq).frozen? ⟨cb,2,none⟩=false:=y2'
  have hcw3:cb < (w2.drewN nq).heap.size:=hcw2
  have cd:(w2.drewN nq).cell? ⟨b,off+i,none⟩=some (.int .u8 (u:Int)):=cc
  generalize w2.drewN nq=w3 at m0 m1 m2 s1 s2 B3 G3 hcw3 cd
  clear k0' k1' k2' y1' y2' B2 G2 hcw2 cc
  have k0':=m0
  have k1':=m1
  have k2':=m2
  have y1':=s1
  have y2':=s2
  have cc:=cd
  clear m0 m1 m2 s1 s2 cd
  go_wp2
  go_quiet (fail)
  have B4:=below_drewN B3 nq
  have G4:w.grownBy (w3.drewN nq) (some cb):=⟨G3.os,G3.tape,G3.output,G3.size,G3.block⟩
  have m0:(w3.drewN nq).cell? ⟨cb,0,none⟩=some (.slice (some ⟨b,off,none⟩) l.length cap):=k0'
  have m1:(w3.drewN nq).cell? ⟨cb,1,none⟩=some (.int .i64 i):=k1'
  have m2:(w3.drewN nq).cell? ⟨cb,2,none⟩=some (.int .i64 h1):=k2'
  have s1:(w3.drewN nq).frozen? ⟨cb,1,none⟩=false:=y1'
  have s2:(w3.drewN nq).frozen? ⟨cb,2,none⟩=false:=y2'
  have hcw4:cb < (w3.drewN nq).heap.size:=hcw3
  have cd:(w3.drewN nq).cell? ⟨b,off+i,none⟩=some (.int .u8 (u:Int)):=cc
  generalize w3.drewN nq=w4 at m0 m1 m2 s1 s2 B4 G4 hcw4 cd
  clear k0' k1' k2' y1' y2' B3 G3 hcw3 cc
  have k0':=m0
  have k1':=m1
  have k2':=m2
  have y1':=s1
  have y2':=s2
  have cc:=cd
  clear m0 m1 m2 s1 s2 cd
  have K0:=Ld ((World.cell?_setCell_other w4 ⟨cb,1,none⟩ ⟨cb,0,none⟩ (.int .i64 ((i:Int)+1)) (by simp)).trans k0')
  have K1:=Ld (World.cell?_setCell_same w4 ⟨cb,1,none⟩ (.int .i64 ((i:Int)+1)) k1')
  have K2:=Ld ((World.cell?_setCell_other w4 ⟨cb,1,none⟩ ⟨cb,2,none⟩ (.int .i64 ((i:Int)+1)) (by simp)).trans k2')
  have BB:=Ld (B4.setCell (p:=⟨cb,1,none⟩) hcb (.int .i64 ((i:Int)+1)))
  have GG:Hid (w.grownBy (w4.setCell ⟨cb,1,none⟩ (.int .i64 ((i:Int)+1))) (some cb)):=⟨G4.os,G4.tape,G4.output,by simpa [World.setCell] using G4.size,fun k hk hne=>(Below.heap_setCell _ _ _ _ (fun e=>hne (by rw [e]))).trans (G4.block k hk hne)⟩
  go_wp2
  go_ret
  rw [HV2.out,HI2.out,HN.out]
  refine ⟨rfl,⟨BB.out,hcb,by simpa [World.setCell] using hcw4,by omega,K0.out,?_,K2.out,by simpa using y1',by simpa using y2'⟩,GG.out⟩
  rw [K1.out]
  simp
 ·have d1:decide ((i:Int) < (l.length:Int))=false:=decide_eq_false (by omega)
  clear h2 h3
  go_wp2
  go_quiet (fail)
  go_wp2
  go_ret
  have HV2:Hid (byteV l i hh=x0):=by rw [Hid,HV.out,if_neg hlt]
  have HI2:Hid (nextI l i=i):=by rw [Hid,HI.out,if_neg hlt]
  rw [HV2.out,HI2.out,HN.out]
  exact ⟨rfl,⟨below_drewN B2 _,hcb,hcw2,hi,k0',k1',k2',y1',y2'⟩,⟨G2.os,G2.tape,G2.output,G2.size,G2.block⟩⟩
theorem drawBelowD {w0 w:World} {v:Value} {l:List UInt8} {cb i:Nat} {hh:Int} (hl:CameB w0 v l) (hc:CurD w0 v l cb i hh w) (hn:l.length≤2000000) (n:Nat) (h1:1≤n) (h2:n≤256) :
  Calls Tryz.prog 59 #[.pointer (some ⟨cb,0,none⟩),.int .i64 (n:Int)] w fun e w'=>e=.returned (.int .i64 ((byteV l i hh % n:Nat):Int))∧CurD w0 v l cb (nextI l i) (nextH hh) w'∧w.grownBy w' (some cb):=by
 have f1:=Ld (drawByteD hl hc hn)
 have d1:decide ((n:Int)≤0)=false:=decide_eq_false (by omega)
 have d2:decide ((n:Int)≤256)=true:=decide_eq_true (by omega)
 have d3:((n:Int) == 0)=false:=beq_eq_false_iff_ne.2 (by omega)
 generalize byteV l i hh=x at f1 ⊢
 clear hl hc
 go_enter Tryz.func59,Tryz.ntmps59
 go_wp2_with fail
 (with_reducible refine f1.out.mono ?_);rintro e w1 ⟨rfl,hc1,hg1⟩
 have e1:((x:Int)).tmod (n:Int)=((x % n:Nat):Int):=by
  rw [Int.tmod_eq_emod_of_nonneg (by omega)]
  omega
 have hxn:x % n < n:=Nat.mod_lt _ (by omega)
 go_wp2
 go_ret
 refine ⟨?_,hc1,hg1⟩
 simp
theorem drawNewD {w:World} {v:Value} {l:List UInt8} (hl:CameB w v l) (hn:l.length≤2000000) :
  Calls Tryz.prog 58 #[v] w fun e w'=>∃ cb,e=.returned (.pointer (some ⟨cb,0,none⟩))∧CurD w v l cb 0 (hashL l) w':=by
 obtain ⟨a0,cap,b,off,rfl,h2,h3⟩:=hl
 go_enter Tryz.func58,Tryz.ntmps58
 go_wp2
 go_loopw [3,4] (fun hh i wr=>∃ (p:Nat) (x:Int),p≤l.length∧p≤4000∧hh=.int .i64 x∧i=.int .i64 p∧wr=w∧Hid (x=hashTo l p)) (fun _ i _=>l.length - (intOf i).toNat)
 case atStart=>exact ⟨0,_,Nat.zero_le _,Nat.zero_le _,rfl,rfl,rfl,by rw [Hid];simp [hashTo]⟩
 case round =>
  obtain ⟨p,x,hp,hp4,rfl,rfl,rfl,HX⟩:=hrel
  by_cases hlt:p < l.length
  ·by_cases h4:p < 4000
   ·have d1:decide ((p:Int) < (l.length:Int))=true:=decide_eq_true (by omega)
    have d2:decide ((p:Int) < 4000)=true:=decide_eq_true (by omega)
    obtain ⟨rfl,hb⟩:=h2 (by omega)
    have cc:=h3 p hlt
    have hby:=l[p].toNat_lt
    have HS:Hid (hashTo l (p+1)=bits .and .i64 (wrap64 (wrap64 (wrap64 (x*131)+(l[p].toNat:Int))+7)) 1073741823):=by
     rw [Hid,hashTo,if_pos h4,← HX.out,show l.getD p 0=l[p] by simp [List.getD,hlt]]
    generalize l[p].toNat=u at cc hby HS
    have q1:(0:Int)≤(p:Int):=by omega
    have q2:(p:Int) < (l.length:Int):=by omega
    clear h2 h3
    go_wp2
    go_roundw
    case rel=>exact ⟨p+1,_,by omega,by omega,rfl,by go_num,by trivial,HS.out.symm⟩
    case measure=>simp [intOf];omega
   ·have d1:decide ((p:Int) < (l.length:Int))=true:=decide_eq_true (by omega)
    have d2:decide ((p:Int) < 4000)=false:=decide_eq_false (by omega)
    have HF:Hid (x=hashL l):=by rw [Hid,HX.out,hashL,show min l.length 4000=p by omega]
    clear h2 h3
    go_wp2
    go_ret
    rw [← HF.out]
    exact ⟨wr.heap.size,rfl,(Below.refl _ _).alloc (Nat.le_refl _) _,Nat.le_refl _,by simp,Nat.zero_le _,World.news_of_block (cs:=#[.slice a0 l.length cap,.int .i64 0,.int .i64 x]) (t:=129) (fr:=(0,0)) (heap_alloc_new wr _) 0 _ rfl,World.news_of_block (cs:=#[.slice a0 l.length cap,.int .i64 0,.int .i64 x]) (t:=129) (fr:=(0,0)) (heap_alloc_new wr _) 1 _ rfl,World.news_of_block (cs:=#[.slice a0 l.length cap,.int .i64 0,.int .i64 x]) (t:=129) (fr:=(0,0)) (heap_alloc_new wr _) 2 _ rfl,by simp,by simp⟩
  ·have d1:decide ((p:Int) < (l.length:Int))=false:=decide_eq_false (by omega)
   have HF:Hid (x=hashL l):=by rw [Hid,HX.out,hashL,show min l.length 4000=p by omega]
   clear h2 h3
   go_wp2
   go_ret
   rw [← HF.out]
   exact ⟨wr.heap.size,rfl,(Below.refl _ _).alloc (Nat.le_refl _) _,Nat.le_refl _,by simp,Nat.zero_le _,World.news_of_block (cs:=#[.slice a0 l.length cap,.int .i64 0,.int .i64 x]) (t:=129) (fr:=(0,0)) (heap_alloc_new wr _) 0 _ rfl,World.news_of_block (cs:=#[.slice a0 l.length cap,.int .i64 0,.int .i64 x]) (t:=129) (fr:=(0,0)) (heap_alloc_new wr _) 1 _ rfl,World.news_of_block (cs:=#[.slice a0 l.length cap,.int .i64 0,.int .i64 x]) (t:=129) (fr:=(0,0)) (heap_alloc_new wr _) 2 _ rfl,by simp,by simp⟩
theorem drawPickInt {w0 w:World} {v:Value} {l:List UInt8} {cb i:Nat} {hh:Int} (hl:CameB w0 v l) (hc:CurD w0 v l cb i hh w) (hn:l.length≤2000000) {b n:Nat} {u:Value} {zs:List Int} (hu:w.ownsRow b 3 1 u n (zs.map iv)) (h1:1≤n) (h2:n≤256) :
  Calls Tryz.prog 77 #[.pointer (some ⟨cb,0,none⟩),u] w fun e w'=>e=.returned (.int .i64 (zs.getD (byteV l i hh % n) 0))∧Below w0.heap.size w0 w':=by
 have hz:zs.length=n:=by have:=hu.1;simpa using this
 have f1:=Ld (drawBelowD hl hc hn n h1 h2)
 have hlt:byteV l i hh % n < n:=Nat.mod_lt _ (by omega)
 obtain ⟨g,cap,rfl,_,hgl⟩:=hu.form (by omega)
 have cc:=hu.cellAt (byteV l i hh % n) (by omega)
 have ex:(zs.map iv)[byteV l i hh % n]?=some (iv (zs.getD (byteV l i hh % n) 0)):=by
  rw [List.getElem?_map,List.getElem?_eq_getElem (by omega)]
  simp [List.getD,hz,hlt]
 rw [ex] at cc
 unfold iv at cc
 have hne:g≠cb:=by
  intro e
  subst e
  obtain ⟨_,_,_,_,c0,_⟩:=hc
  have c1:=hu.cellAt 0 (by omega)
  obtain ⟨a0,cp,_,_,rfl,_⟩:=hl
  rw [c0] at c1
  cases zs with
  | nil=>simp at hz;omega
  | cons z zs=>simp [iv] at c1
 have hcell:Hid (∀ w',w.grownBy w' (some cb)→w'.cell? ⟨g,byteV l i hh % n,none⟩=some (.int .i64 (zs.getD (byteV l i hh % n) 0))):=fun w' hg=>by
  have hb:=hg.block g hgl (by simpa using hne)
  unfold World.cell? at cc ⊢
  rw [hb]
  exact cc
 generalize zs.getD (byteV l i hh % n) 0=z at hcell ⊢
 generalize byteV l i hh % n=k at f1 hlt hcell
 have q1:(0:Int)≤(k:Int):=by omega
 have q2:(k:Int) < (n:Int):=by omega
 clear hl hc hu cc ex hz
 go_enter Tryz.func77,Tryz.ntmps77
 go_wp2_with fail
 (with_reducible refine f1.out.mono ?_);rintro e w1 ⟨rfl,hc1,hg1⟩
 have c1:=hcell.out _ hg1
 have HB:=Ld hc1.1
 clear hc1 hg1 hcell f1
 go_wp2
 go_ret
 exact ⟨rfl,HB.out⟩
theorem known_libNat (w:World):Calls Tryz.prog 76 #[.int .i64 0] w (DRes libNat w):=by
 have hb1:=alloc_any w (.cells #[.int .i64 4,.string ⟨#[110,97,116]⟩,.int .i64 0,.int .i64 0,.string ⟨#[115,43,122,46]⟩,.string ⟨#[]⟩,.slice (some ⟨w.heap.size+1,0,none⟩) 2 2] 36)
 have hz:(w.alloc (.cells #[.int .i64 4,.string ⟨#[110,97,116]⟩,.int .i64 0,.int .i64 0,.string ⟨#[115,43,122,46]⟩,.string ⟨#[]⟩,.slice (some ⟨w.heap.size+1,0,none⟩) 2 2] 36)).heap.size=w.heap.size+1:=by simp
 have hrow:Hid (((w.alloc (.cells #[.int .i64 4,.string ⟨#[110,97,116]⟩,.int .i64 0,.int .i64 0,.string ⟨#[115,43,122,46]⟩,.string ⟨#[]⟩,.slice (some ⟨w.heap.size+1,0,none⟩) 2 2] 36)).alloc (.cells #[.string ⟨#[110,97,116,46,122,101,114,111]⟩,.string ⟨#[99,110,97,116,59,46]⟩,.string ⟨#[110,97,116,46,115,117,99,99]⟩,.string ⟨#[112,99,110,97,116,59,46,99,110,97,116,59,46]⟩] 42)).ownsRow w.heap.size 42 2 (.slice (some ⟨w.heap.size+1,0,none⟩) 2 2) libNat.ctors.length (flatC libNat.ctors)):=by
  have h1:=World.ownsRow_lit (base:=w.heap.size) (e:=42) (size:=2) (w.alloc (.cells #[.int .i64 4,.string ⟨#[110,97,116]⟩,.int .i64 0,.int .i64 0,.string ⟨#[115,43,122,46]⟩,.string ⟨#[]⟩,.slice (some ⟨w.heap.size+1,0,none⟩) 2 2] 36)) #[.string ⟨#[110,97,116,46,122,101,114,111]⟩,.string ⟨#[99,110,97,116,59,46]⟩,.string ⟨#[110,97,116,46,115,117,99,99]⟩,.string ⟨#[112,99,110,97,116,59,46,99,110,97,116,59,46]⟩] 2 (by rw [hz];omega) (by decide) (by simp)
  rw [hz] at h1
  exact h1
 have HB:=Ld (hb1.trans ((alloc_any (w.alloc (.cells #[.int .i64 4,.string ⟨#[110,97,116]⟩,.int .i64 0,.int .i64 0,.string ⟨#[115,43,122,46]⟩,.string ⟨#[]⟩,.slice (some ⟨w.heap.size+1,0,none⟩) 2 2] 36)) (.cells #[.string ⟨#[110,97,116,46,122,101,114,111]⟩,.string ⟨#[99,110,97,116,59,46]⟩,.string ⟨#[110,97,116,46,115,117,99,99]⟩,.string ⟨#[112,99,110,97,116,59,46,99,110,97,116,59,46]⟩] 42)).mono hb1.size))
 clear hb1 hz
 go_enter Tryz.func76,Tryz.ntmps76
 go_wp2
 exact bodyPost_ret (v:=.agg #[.int .i64 4,.string ⟨#[110,97,116]⟩,.int .i64 0,.int .i64 0,.string ⟨#[115,43,122,46]⟩,.string ⟨#[]⟩,.slice (some ⟨w.heap.size+1,0,none⟩) 2 2]) (by simp [results,Tryz.results76,go_sem]) rfl ⟨.slice (some ⟨w.heap.size+1,0,none⟩) 2 2,rfl,hrow.out,HB.out⟩
theorem known_libBool (w:World):Calls Tryz.prog 76 #[.int .i64 9] w (DRes libBool w):=by
 have hb1:=alloc_any w (.cells #[.int .i64 4,.string ⟨#[98,111,111,108]⟩,.int .i64 0,.int .i64 0,.string ⟨#[115,43,122,46]⟩,.string ⟨#[]⟩,.slice (some ⟨w.heap.size+1,0,none⟩) 2 2] 36)
 have hz:(w.alloc (.cells #[.int .i64 4,.string ⟨#[98,111,111,108]⟩,.int .i64 0,.int .i64 0,.string ⟨#[115,43,122,46]⟩,.string ⟨#[]⟩,.slice (some ⟨w.heap.size+1,0,none⟩) 2 2] 36)).heap.size=w.heap.size+1:=by simp
 have hrow:Hid (((w.alloc (.cells #[.int .i64 4,.string ⟨#[98,111,111,108]⟩,.int .i64 0,.int .i64 0,.string ⟨#[115,43,122,46]⟩,.string ⟨#[]⟩,.slice (some ⟨w.heap.size+1,0,none⟩) 2 2] 36)).alloc (.cells #[.string ⟨#[98,111,111,108,46,116,116]⟩,.string ⟨#[99,98,111,111,108,59,46]⟩,.string ⟨#[98,111,111,108,46,102,102]⟩,.string ⟨#[99,98,111,111,108,59,46]⟩] 42)).ownsRow w.heap.size 42 2 (.slice (some ⟨w.heap.size+1,0,none⟩) 2 2) libBool.ctors.length (flatC libBool.ctors)):=by
  have h1:=World.ownsRow_lit (base:=w.heap.size) (e:=42) (size:=2) (w.alloc (.cells #[.int .i64 4,.string ⟨#[98,111,111,108]⟩,.int .i64 0,.int .i64 0,.string ⟨#[115,43,122,46]⟩,.string ⟨#[]⟩,.slice (some ⟨w.heap.size+1,0,none⟩) 2 2] 36)) #[.string ⟨#[98,111,111,108,46,116,116]⟩,.string ⟨#[99,98,111,111,108,59,46]⟩,.string ⟨#[98,111,111,108,46,102,102]⟩,.string ⟨#[99,98,111,111,108,59,46]⟩] 2 (by rw [hz];omega) (by decide) (by simp)
  rw [hz] at h1
  exact h1
 have HB:=Ld (hb1.trans ((alloc_any (w.alloc (.cells #[.int .i64 4,.string ⟨#[98,111,111,108]⟩,.int .i64 0,.int .i64 0,.string ⟨#[115,43,122,46]⟩,.string ⟨#[]⟩,.slice (some ⟨w.heap.size+1,0,none⟩) 2 2] 36)) (.cells #[.string ⟨#[98,111,111,108,46,116,116]⟩,.string ⟨#[99,98,111,111,108,59,46]⟩,.string ⟨#[98,111,111,108,46,102,102]⟩,.string ⟨#[99,98,111,111,108,59,46]⟩] 42)).mono hb1.size))
 clear hb1 hz
 go_enter Tryz.func76,Tryz.ntmps76
 go_wp2
 exact bodyPost_ret (v:=.agg #[.int .i64 4,.string ⟨#[98,111,111,108]⟩,.int .i64 0,.int .i64 0,.string ⟨#[115,43,122,46]⟩,.string ⟨#[]⟩,.slice (some ⟨w.heap.size+1,0,none⟩) 2 2]) (by simp [results,Tryz.results76,go_sem]) rfl ⟨.slice (some ⟨w.heap.size+1,0,none⟩) 2 2,rfl,hrow.out,HB.out⟩
theorem known_libTree (w:World):Calls Tryz.prog 76 #[.int .i64 12] w (DRes libTree w):=by
 have hb1:=alloc_any w (.cells #[.int .i64 4,.string ⟨#[116,114,101,101]⟩,.int .i64 0,.int .i64 0,.string ⟨#[115,43,122,46]⟩,.string ⟨#[]⟩,.slice (some ⟨w.heap.size+1,0,none⟩) 2 2] 36)
 have hz:(w.alloc (.cells #[.int .i64 4,.string ⟨#[116,114,101,101]⟩,.int .i64 0,.int .i64 0,.string ⟨#[115,43,122,46]⟩,.string ⟨#[]⟩,.slice (some ⟨w.heap.size+1,0,none⟩) 2 2] 36)).heap.size=w.heap.size+1:=by simp
 have hrow:Hid (((w.alloc (.cells #[.int .i64 4,.string ⟨#[116,114,101,101]⟩,.int .i64 0,.int .i64 0,.string ⟨#[115,43,122,46]⟩,.string ⟨#[]⟩,.slice (some ⟨w.heap.size+1,0,none⟩) 2 2] 36)).alloc (.cells #[.string ⟨#[116,114,101,101,46,108,101,97,102]⟩,.string ⟨#[99,116,114,101,101,59,46]⟩,.string ⟨#[116,114,101,101,46,110,111,100,101]⟩,.string ⟨#[112,99,110,97,116,59,46,112,112,99,110,97,116,59,46,99,116,114,101,101,59,46,99,116,114,101,101,59,46]⟩] 42)).ownsRow w.heap.size 42 2 (.slice (some ⟨w.heap.size+1,0,none⟩) 2 2) libTree.ctors.length (flatC libTree.ctors)):=by
  have h1:=World.ownsRow_lit (base:=w.heap.size) (e:=42) (size:=2) (w.alloc (.cells #[.int .i64 4,.string ⟨#[116,114,101,101]⟩,.int .i64 0,.int .i64 0,.string ⟨#[115,43,122,46]⟩,.string ⟨#[]⟩,.slice (some ⟨w.heap.size+1,0,none⟩) 2 2] 36)) #[.string ⟨#[116,114,101,101,46,108,101,97,102]⟩,.string ⟨#[99,116,114,101,101,59,46]⟩,.string ⟨#[116,114,101,101,46,110,111,100,101]⟩,.string ⟨#[112,99,110,97,116,59,46,112,112,99,110,97,116,59,46,99,116,114,101,101,59,46,99,116,114,101,101,59,46]⟩] 2 (by rw [hz];omega) (by decide) (by simp)
  rw [hz] at h1
  exact h1
 have HB:=Ld (hb1.trans ((alloc_any (w.alloc (.cells #[.int .i64 4,.string ⟨#[116,114,101,101]⟩,.int .i64 0,.int .i64 0,.string ⟨#[115,43,122,46]⟩,.string ⟨#[]⟩,.slice (some ⟨w.heap.size+1,0,none⟩) 2 2] 36)) (.cells #[.string ⟨#[116,114,101,101,46,108,101,97,102]⟩,.string ⟨#[99,116,114,101,101,59,46]⟩,.string ⟨#[116,114,101,101,46,110,111,100,101]⟩,.string ⟨#[112,99,110,97,116,59,46,112,112,99,110,97,116,59,46,99,116,114,101,101,59,46,99,116,114,101,101,59,46]⟩] 42)).mono hb1.size))
 clear hb1 hz
 go_enter Tryz.func76,Tryz.ntmps76
 go_wp2
 exact bodyPost_ret (v:=.agg #[.int .i64 4,.string ⟨#[116,114,101,101]⟩,.int .i64 0,.int .i64 0,.string ⟨#[115,43,122,46]⟩,.string ⟨#[]⟩,.slice (some ⟨w.heap.size+1,0,none⟩) 2 2]) (by simp [results,Tryz.results76,go_sem]) rfl ⟨.slice (some ⟨w.heap.size+1,0,none⟩) 2 2,rfl,hrow.out,HB.out⟩
theorem known_libFalse (w:World):Calls Tryz.prog 76 #[.int .i64 13] w (DRes libFalse w):=by
 have hb1:=alloc_any w (.cells #[.int .i64 4,.string ⟨#[102,97,108,115,101]⟩,.int .i64 0,.int .i64 0,.string ⟨#[115,122,46]⟩,.string ⟨#[]⟩,.slice none 0 0] 36)
 have hrow:Hid ((w.alloc (.cells #[.int .i64 4,.string ⟨#[102,97,108,115,101]⟩,.int .i64 0,.int .i64 0,.string ⟨#[115,122,46]⟩,.string ⟨#[]⟩,.slice none 0 0] 36)).ownsRow w.heap.size 42 2 (.slice none 0 0) libFalse.ctors.length (flatC libFalse.ctors)):=World.ownsRow_nil _ _ _ _
 have HB:=Ld hb1
 clear hb1
 go_enter Tryz.func76,Tryz.ntmps76
 go_wp2
 exact bodyPost_ret (v:=.agg #[.int .i64 4,.string ⟨#[102,97,108,115,101]⟩,.int .i64 0,.int .i64 0,.string ⟨#[115,122,46]⟩,.string ⟨#[]⟩,.slice none 0 0]) (by simp [results,Tryz.results76,go_sem]) rfl ⟨.slice none 0 0,rfl,hrow.out,HB.out⟩
theorem known_libBig (w:World):Calls Tryz.prog 76 #[.int .i64 14] w (DRes libBig w):=by
 have hb1:=alloc_any w (.cells #[.int .i64 4,.string ⟨#[98,105,103]⟩,.int .i64 0,.int .i64 2,.string ⟨#[115,43,122,46]⟩,.string ⟨#[]⟩,.slice (some ⟨w.heap.size+1,0,none⟩) 1 1] 36)
 have hz:(w.alloc (.cells #[.int .i64 4,.string ⟨#[98,105,103]⟩,.int .i64 0,.int .i64 2,.string ⟨#[115,43,122,46]⟩,.string ⟨#[]⟩,.slice (some ⟨w.heap.size+1,0,none⟩) 1 1] 36)).heap.size=w.heap.size+1:=by simp
 have hrow:Hid (((w.alloc (.cells #[.int .i64 4,.string ⟨#[98,105,103]⟩,.int .i64 0,.int .i64 2,.string ⟨#[115,43,122,46]⟩,.string ⟨#[]⟩,.slice (some ⟨w.heap.size+1,0,none⟩) 1 1] 36)).alloc (.cells #[.string ⟨#[98,105,103,46,109,107]⟩,.string ⟨#[112,115,43,122,46,99,98,105,103,59,46]⟩] 42)).ownsRow w.heap.size 42 2 (.slice (some ⟨w.heap.size+1,0,none⟩) 1 1) libBig.ctors.length (flatC libBig.ctors)):=by
  have h1:=World.ownsRow_lit (base:=w.heap.size) (e:=42) (size:=2) (w.alloc (.cells #[.int .i64 4,.string ⟨#[98,105,103]⟩,.int .i64 0,.int .i64 2,.string ⟨#[115,43,122,46]⟩,.string ⟨#[]⟩,.slice (some ⟨w.heap.size+1,0,none⟩) 1 1] 36)) #[.string ⟨#[98,105,103,46,109,107]⟩,.string ⟨#[112,115,43,122,46,99,98,105,103,59,46]⟩] 1 (by rw [hz];omega) (by decide) (by simp)
  rw [hz] at h1
  exact h1
 have HB:=Ld (hb1.trans ((alloc_any (w.alloc (.cells #[.int .i64 4,.string ⟨#[98,105,103]⟩,.int .i64 0,.int .i64 2,.string ⟨#[115,43,122,46]⟩,.string ⟨#[]⟩,.slice (some ⟨w.heap.size+1,0,none⟩) 1 1] 36)) (.cells #[.string ⟨#[98,105,103,46,109,107]⟩,.string ⟨#[112,115,43,122,46,99,98,105,103,59,46]⟩] 42)).mono hb1.size))
 clear hb1 hz
 go_enter Tryz.func76,Tryz.ntmps76
 go_wp2
 exact bodyPost_ret (v:=.agg #[.int .i64 4,.string ⟨#[98,105,103]⟩,.int .i64 0,.int .i64 2,.string ⟨#[115,43,122,46]⟩,.string ⟨#[]⟩,.slice (some ⟨w.heap.size+1,0,none⟩) 1 1]) (by simp [results,Tryz.results76,go_sem]) rfl ⟨.slice (some ⟨w.heap.size+1,0,none⟩) 1 1,rfl,hrow.out,HB.out⟩
theorem known_libBox (w:World):Calls Tryz.prog 76 #[.int .i64 16] w (DRes libBox w):=by
 have hb1:=alloc_any w (.cells #[.int .i64 4,.string ⟨#[98,111,120]⟩,.int .i64 1,.int .i64 0,.string ⟨#[115,43,109,117,48,43,122,46]⟩,.string ⟨#[]⟩,.slice (some ⟨w.heap.size+1,0,none⟩) 1 1] 36)
 have hz:(w.alloc (.cells #[.int .i64 4,.string ⟨#[98,111,120]⟩,.int .i64 1,.int .i64 0,.string ⟨#[115,43,109,117,48,43,122,46]⟩,.string ⟨#[]⟩,.slice (some ⟨w.heap.size+1,0,none⟩) 1 1] 36)).heap.size=w.heap.size+1:=by simp
 have hrow:Hid (((w.alloc (.cells #[.int .i64 4,.string ⟨#[98,111,120]⟩,.int .i64 1,.int .i64 0,.string ⟨#[115,43,109,117,48,43,122,46]⟩,.string ⟨#[]⟩,.slice (some ⟨w.heap.size+1,0,none⟩) 1 1] 36)).alloc (.cells #[.string ⟨#[98,111,120,46,109,107]⟩,.string ⟨#[112,115,117,48,46,112,118,48,46,99,98,111,120,59,117,48,44,46]⟩] 42)).ownsRow w.heap.size 42 2 (.slice (some ⟨w.heap.size+1,0,none⟩) 1 1) libBox.ctors.length (flatC libBox.ctors)):=by
  have h1:=World.ownsRow_lit (base:=w.heap.size) (e:=42) (size:=2) (w.alloc (.cells #[.int .i64 4,.string ⟨#[98,111,120]⟩,.int .i64 1,.int .i64 0,.string ⟨#[115,43,109,117,48,43,122,46]⟩,.string ⟨#[]⟩,.slice (some ⟨w.heap.size+1,0,none⟩) 1 1] 36)) #[.string ⟨#[98,111,120,46,109,107]⟩,.string ⟨#[112,115,117,48,46,112,118,48,46,99,98,111,120,59,117,48,44,46]⟩] 1 (by rw [hz];omega) (by decide) (by simp)
  rw [hz] at h1
  exact h1
 have HB:=Ld (hb1.trans ((alloc_any (w.alloc (.cells #[.int .i64 4,.string ⟨#[98,111,120]⟩,.int .i64 1,.int .i64 0,.string ⟨#[115,43,109,117,48,43,122,46]⟩,.string ⟨#[]⟩,.slice (some ⟨w.heap.size+1,0,none⟩) 1 1] 36)) (.cells #[.string ⟨#[98,111,120,46,109,107]⟩,.string ⟨#[112,115,117,48,46,112,118,48,46,99,98,111,120,59,117,48,44,46]⟩] 42)).mono hb1.size))
 clear hb1 hz
 go_enter Tryz.func76,Tryz.ntmps76
 go_wp2
 exact bodyPost_ret (v:=.agg #[.int .i64 4,.string ⟨#[98,111,120]⟩,.int .i64 1,.int .i64 0,.string ⟨#[115,43,109,117,48,43,122,46]⟩,.string ⟨#[]⟩,.slice (some ⟨w.heap.size+1,0,none⟩) 1 1]) (by simp [results,Tryz.results76,go_sem]) rfl ⟨.slice (some ⟨w.heap.size+1,0,none⟩) 1 1,rfl,hrow.out,HB.out⟩
def libAt (i:Nat):Dc:=if i=0 then libNat else if i=1 then libBool else if i=2 then libTree else if i=3 then libFalse else if i=4 then libBig else libBox
def libNo (i:Nat):Int:=([0,9,12,13,14,16]:List Int).getD i 0
theorem known_at {i:Nat} (hi:i < 6) (w:World):Calls Tryz.prog 76 #[.int .i64 (libNo i)] w (DRes (libAt i) w):=by
 have e:i=0∨i=1∨i=2∨i=3∨i=4∨i=5:=by omega
 rcases e with rfl | rfl | rfl | rfl | rfl | rfl
 ·exact known_libNat w
 ·exact known_libBool w
 ·exact known_libTree w
 ·exact known_libFalse w
 ·exact known_libBig w
 ·exact known_libBox w
def dataOf (l:List UInt8):Dc:=libAt (byteV l 0 (hashL l) % 6)
theorem zeroBox (w:World):∀ W,Below (w.alloc (.cells #[.int .i64 0,.string ⟨#[]⟩,.int .i64 0,.int .i64 0,.string ⟨#[]⟩,.string ⟨#[]⟩,.slice none 0 0] 36)).heap.size (w.alloc (.cells #[.int .i64 0,.string ⟨#[]⟩,.int .i64 0,.int .i64 0,.string ⟨#[]⟩,.string ⟨#[]⟩,.slice none 0 0] 36)) W→(W.cell? ⟨w.heap.size,0,none⟩=some (.int .i64 0)∧W.cell? ⟨w.heap.size,1,none⟩=some (.string ⟨#[]⟩)∧W.cell? ⟨w.heap.size,2,none⟩=some (.int .i64 0)∧W.cell? ⟨w.heap.size,3,none⟩=some (.int .i64 0)∧W.cell? ⟨w.heap.size,4,none⟩=some (.string ⟨#[]⟩)∧W.cell? ⟨w.heap.size,5,none⟩=some (.string ⟨#[]⟩)∧W.cell? ⟨w.heap.size,6,none⟩=some (.slice none 0 0))∧(W.frozen? ⟨w.heap.size,0,none⟩=false∧W.frozen? ⟨w.heap.size,1,none⟩=false∧W.frozen? ⟨w.heap.size,2,none⟩=false∧W.frozen? ⟨w.heap.size,3,none⟩=false∧W.frozen? ⟨w.heap.size,4,none⟩=false∧W.frozen? ⟨w.heap.size,5,none⟩=false∧W.frozen? ⟨w.heap.size,6,none⟩=false):=by
 intro W hb
 have h:=fun i=>(hb.cell (p:=⟨w.heap.size,i,none⟩) (by simp))
 have k:=fun i=>(hb.frozen (p:=⟨w.heap.size,i,none⟩) (by simp))
 refine ⟨⟨(h 0).trans ?_,(h 1).trans ?_,(h 2).trans ?_,(h 3).trans ?_,(h 4).trans ?_,(h 5).trans ?_,(h 6).trans ?_⟩,(k 0).trans ?_,(k 1).trans ?_,(k 2).trans ?_,(k 3).trans ?_,(k 4).trans ?_,(k 5).trans ?_,(k 6).trans ?_⟩<;>first | simp | simp [go_sem] | simp [World.frozen?,World.alloc]
theorem drawData {w:World} {v:Value} {l:List UInt8} (hl:CameB w v l) (hn:l.length≤2000000) :
  Calls Tryz.prog 26 #[v] w (DRes (dataOf l) w):=by
 have hb0:=alloc_any w (.cells #[.int .i64 0,.string ⟨#[]⟩,.int .i64 0,.int .i64 0,.string ⟨#[]⟩,.string ⟨#[]⟩,.slice none 0 0] 36)
 have HB0:=Ld hb0
 have hl0:=hl.below hb0
 have HL:=Ld hl0
 have f1:=Ld (drawNewD hl0 hn)
 have HZ:=Ld (zeroBox w)
 have hzs:(w.alloc (.cells #[.int .i64 0,.string ⟨#[]⟩,.int .i64 0,.int .i64 0,.string ⟨#[]⟩,.string ⟨#[]⟩,.slice none 0 0] 36)).heap.size=w.heap.size+1:=by simp
 have hi6:byteV l 0 (hashL l) % 6 < 6:=Nat.mod_lt _ (by omega)
 have HK:=Ld fun W=>known_at hi6 W
 have hd:Hid (dataOf l=libAt (byteV l 0 (hashL l) % 6)):=rfl
 have hp:Hid (∀ W cb b u,CurD (w.alloc (.cells #[.int .i64 0,.string ⟨#[]⟩,.int .i64 0,.int .i64 0,.string ⟨#[]⟩,.string ⟨#[]⟩,.slice none 0 0] 36)) v l cb 0 (hashL l) W→W.ownsRow b 3 1 u 6 (([0,9,12,13,14,16]:List Int).map iv)→Calls Tryz.prog 77 #[.pointer (some ⟨cb,0,none⟩),u] W fun e w'=>e=.returned (.int .i64 (libNo (byteV l 0 (hashL l) % 6)))∧Below (w.alloc (.cells #[.int .i64 0,.string ⟨#[]⟩,.int .i64 0,.int .i64 0,.string ⟨#[]⟩,.string ⟨#[]⟩,.slice none 0 0] 36)).heap.size (w.alloc (.cells #[.int .i64 0,.string ⟨#[]⟩,.int .i64 0,.int .i64 0,.string ⟨#[]⟩,.string ⟨#[]⟩,.slice none 0 0] 36)) w'):=fun W cb b u hc hu=>drawPickInt HL.out hc hn hu (by decide) (by decide)
 rw [← hd.out] at HK
 generalize libNo (byteV l 0 (hashL l) % 6)=no at HK hp
 generalize dataOf l=d at HK ⊢
 unfold DRes at HK
 obtain ⟨kd,nm,ps,fl,ty,vl,cs⟩:=d
 have hval:∀ u,Dc.val ⟨kd,nm,ps,fl,ty,vl,cs⟩ u=.agg #[.int .i64 kd,.string ⟨nm.toArray⟩,.int .i64 ps,.int .i64 fl,.string ⟨ty.toArray⟩,.string ⟨vl.toArray⟩,u]:=fun u=>rfl
 simp only [hval] at HK
 obtain ⟨a0,cap,_,_,rfl,_⟩:=id hl
 clear hl hl0 hb0 hi6 hd HL
 go_enter Tryz.func26,Tryz.ntmps26
 go_wp2_with fail
 (with_reducible refine f1.out.mono ?_);rintro e w1 ⟨cb,rfl,hc1⟩
 have hcb:=hc1.1
 have hrow:=World.ownsRow_lit (base:=0) (e:=3) (size:=1) w1 #[.int .i64 0,.int .i64 9,.int .i64 12,.int .i64 13,.int .i64 14,.int .i64 16] 6 (Nat.zero_le _) (by decide) (by simp)
 have hc2:=hc1.below (alloc_any w1 (.cells #[.int .i64 0,.int .i64 9,.int .i64 12,.int .i64 13,.int .i64 14,.int .i64 16] 3))
 have f2:=Ld (hp.out _ _ _ _ hc2 hrow)
 clear hc1 hc2 hcb hrow f1 hp
 go_wp2_with fail
 (with_reducible refine f2.out.mono ?_);rintro e w2 ⟨rfl,hb2⟩
 have HB2:=Ld (HB0.out.trans (hb2.mono HB0.out.size))
 have HZ2:=Ld hb2
 have hlt2:w.heap.size < w2.heap.size:=by have:=hb2.size;rw [hzs] at this;omega
 clear hb2 f2
 go_wp2_with fail
 (with_reducible refine (HK.out _).mono ?_);rintro e w3 ⟨u,rfl,hu,hb3⟩
 obtain ⟨⟨r0,r1,r2,r3,r4,r5,r6⟩,z0,z1,z2,z3,z4,z5,z6⟩:=HZ.out _ (HZ2.out.trans (hb3.mono HZ2.out.size))
 have HU:=Ld hu
 have HB:=Ld (HB2.out.trans (hb3.mono HB2.out.size))
 obtain ⟨ua,uc,rfl⟩:∃ a c,u=.slice a cs.length c:=by
  rcases hu.2 with ⟨rfl,e⟩ | ⟨g,cap',cur,rfl,_⟩
  ·exact ⟨_,_,by rw [← e]⟩
  ·exact ⟨_,_,rfl⟩
 clear hu hb3 HK HZ HZ2
 have HR:=Ld (own_setD (own_setD (own_setD (own_setD (own_setD (own_setD (own_setD HU.out w.heap.size 0 (.int .i64 kd) (by omega)) w.heap.size 1 (.string ⟨nm.toArray⟩) (by omega)) w.heap.size 2 (.int .i64 ps) (by omega)) w.heap.size 3 (.int .i64 fl) (by omega)) w.heap.size 4 (.string ⟨ty.toArray⟩) (by omega)) w.heap.size 5 (.string ⟨vl.toArray⟩) (by omega)) w.heap.size 6 (.slice ua cs.length uc) (by omega))
 have HBF:=Ld (((((((HB.out.setCell (p:=⟨w.heap.size,0,none⟩) (by show w.heap.size≤w.heap.size;omega) (.int .i64 kd)).setCell (p:=⟨w.heap.size,1,none⟩) (by show w.heap.size≤w.heap.size;omega) (.string ⟨nm.toArray⟩)).setCell (p:=⟨w.heap.size,2,none⟩) (by show w.heap.size≤w.heap.size;omega) (.int .i64 ps)).setCell (p:=⟨w.heap.size,3,none⟩) (by show w.heap.size≤w.heap.size;omega) (.int .i64 fl)).setCell (p:=⟨w.heap.size,4,none⟩) (by show w.heap.size≤w.heap.size;omega) (.string ⟨ty.toArray⟩)).setCell (p:=⟨w.heap.size,5,none⟩) (by show w.heap.size≤w.heap.size;omega) (.string ⟨vl.toArray⟩)).setCell (p:=⟨w.heap.size,6,none⟩) (by show w.heap.size≤w.heap.size;omega) (.slice ua cs.length uc))
 clear HU HB
 go_wp2
 exact bodyPost_ret (v:=.agg #[.int .i64 kd,.string ⟨nm.toArray⟩,.int .i64 ps,.int .i64 fl,.string ⟨ty.toArray⟩,.string ⟨vl.toArray⟩,.slice ua cs.length uc]) (by simp [results,Tryz.results26,go_sem,r0,r1,r2,r3,r4,r5,r6]) rfl ⟨_,rfl,own_lower HR.out (by omega),HBF.out⟩
end Go.Proofs.YtgonemalnljabaaGreatDoor
