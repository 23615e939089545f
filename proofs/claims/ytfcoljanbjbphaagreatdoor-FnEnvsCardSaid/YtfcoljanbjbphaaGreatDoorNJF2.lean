/- UOrd JLib -/
import Derived.Test.YtfcoljanbjbphaaGreatDoorNQB
import Derived.Test.YtfcoljanbjbphaaGreatDoorNE1
set_option maxRecDepth 100000
set_option maxHeartbeats 16000000
set_option linter.unusedSimpArgs false
set_option linter.unusedVariables false
namespace Go.Proofs.YtfcoljanbjbphaaGreatDoor
theorem asV_fun(X Y Z:Nat)(v:Fin 3->Nat)(h0:X=v 0)(h1:Y=v 1)(h2:Z=v 2):asV [X,Y,Z]=v:=by
 funext k
 have:k=0\/k=1\/k=2:=by
  have:=k.isLt;rcases (by omega:k.val=0\/k.val=1\/k.val=2) with h|h|h
  ·exact .inl (Fin.ext h)
  ·exact .inr (.inl (Fin.ext h))
  ·exact .inr (.inr (Fin.ext h))
 rcases this with rfl|rfl|rfl
 ·exact h0
 ·exact h1
 ·exact h2
theorem gT{k x:Nat}(h:x=0\/x=1\/x=k):∃ i,i<3/\vU k i=x:=by
 rcases h with rfl|rfl|rfl
 ·exact⟨0,by omega,rfl⟩
 ·exact⟨1,by omega,rfl⟩
 ·exact⟨2,by omega,rfl⟩
theorem eG{a b:Lv}(ha:zD a.bytes=true)(hb:zD b.bytes=true):xF a.bytes b.bytes=true↔∀ V:Fin 3->Nat,a.val V<=b.val V:=by
 rw[xF,ha,hb,uG,iP ⟨ha,hb⟩,hZ ha,hZ hb,witIdx,hZ ha,hZ hb];simp only[Bool.true_and,Option.isNone_map,Option.isNone_iff_eq_none,List.find?_eq_none,above,decide_eq_true_eq,lval_tree,List.mem_range,Nat.not_lt];constructor
 ·intro h V;by_cases hlt:b.val V<a.val V
  ·obtain⟨v',h1,h2⟩:=Lv.above_small a b (2+a.ups+b.ups) (by omega) V hlt;obtain⟨x,hx,ex⟩:=gT (h1 0);obtain⟨y,hy,ey⟩:=gT (h1 1);obtain⟨z,hz,ez⟩:=gT (h1 2);have h3:=h (9*x+3*y+z) (by omega);rw[tri_form hy hz,asV_fun _ _ _ v' ex ey ez] at h3;omega
  ·omega
 ·intro h i _;exact h _
theorem le_of{a b:Lv}{l m:List UInt8}(ea:l=a.bytes)(eb:m=b.bytes)(ha:l.length<=60)(hb:m.length<=60)(h:∀ V:Fin 3->Nat,a.val V<=b.val V):xF l m=true:=by
 subst ea eb;exact(eG (gV a ha) (gV b hb)).2 h
structure OrdP (a b:List UInt8) (vs:List Int):Prop where
 x:∃ n:Nat,jK a vs=n
 y:∃ n:Nat,jK b vs=n
 le:xF a b=true->jK a vs<=jK b vs
 anti:xF a b=!(uG a b).isSome
 wit:∀ ws,uG a b=some ws->∃ n m:Nat,jK a (ws.map fun (x:Nat)=>(x:Int))=n/\jK b (ws.map fun (x:Nat)=>(x:Int))=m/\m<n
 aa:xF a a=true
 am:xF a (109::(a++b))=true
 im:xF (105::(a++b)) (109::(a++b))=true
 bi:xF b (105::(a++b))=true
 up:xF (43::a) a=false
 ab:xF [43,122] (43::a)=true
 ze:xF (105::(a++[122])) [122]=true
 sm:levelSame (109::(a++b)) (109::(b++a))=true
end Go.Proofs.YtfcoljanbjbphaaGreatDoor
namespace Go.Proofs.YtfcoljanbjbphaaGreatDoor
open Go
theorem xD{t:Tm}(hok:t.Ok)(hl:t.bytes.length<=2000):vM t.bytes=some t:=zX ⟨hok,rfl,hl⟩
theorem inL_uses{t:Tm}(hok:t.Ok)(hl:t.bytes.length<=2000)(name:List UInt8):inL (xY t.bytes) name=decide (name∈t.cnames):=by
 unfold xY;rw[xD hok hl];simp only[inL];rw[decide_eq_decide];exact(srt_spec _ t.cnames (nR _)).2.1 name
def vI (self name:List UInt8) (a:Tm):Int :=
 if name∈a.cnames then (if (a.doms.any fun b=>decide (name∈b.cnames))=true then 2 else if a.targ.bytes=self then 1 else 2) else 0
theorem doms_len{a b:Tm}(h:b∈a.doms):b.bytes.length<=a.bytes.length:=by
 have h2:=congrArg List.length (uP a);rw[lA] at h2;have:=oD h;omega
theorem any_congr{α:Type}{l:List α}{p q:α->Bool}(h:∀ x∈l,p x=q x):l.any p=l.any q:=by
 induction l with
|nil=>rfl
|cons a l ih =>
  rw[List.any_cons,List.any_cons,h a List.mem_cons_self,ih fun x hx=>h x (List.mem_cons_of_mem _ hx)]
theorem lG{a:Tm}(hok:a.Ok)(hl:a.bytes.length<=2000)(self name:List UInt8):yA self name a.bytes=vI self name a:=by
 have e1:yE a.bytes=true:=by rw[yE,xD hok hl];rfl
 have e2:zT a.bytes=a.doms.map Tm.bytes:=by rw[zT,xD hok hl]
 have e3:xR a.bytes=a.targ.bytes:=by rw[xR,xD hok hl]
 have e4:((a.doms.map Tm.bytes).any fun x=>inL (xY x) name)=(a.doms.any fun b=>decide (name∈b.cnames)):=by
  rw[List.any_map];exact any_congr fun b hb=>inL_uses (Tm.doms_ok hok b hb) (Nat.le_trans (doms_len hb) hl) name
 unfold yA vI;rw[e1,e2,e3,e4,inL_uses hok hl];simp only[if_true,decide_eq_true_eq]
theorem yJ{t:Tm}{p:Int}(hok:t.Ok)(hl:t.bytes.length<=2000)(h0:t.opn=0)(hp:(t.params:Int)<=p):zH t.bytes p=true:=by
 unfold zH;rw[yE,yV,yX,xD hok hl];simp[h0,hp]
def uE (d:Dc):Tm:=.const d.name (zM d.params.toNat)
structure CtorP (d:Dc) (c:Ct) (t:Tm):Prop where
 bytes:t.bytes=c.2
 ok:t.Ok
 len:t.bytes.length<=2000
 opn:t.opn=0
 params:(t.params:Int)<=d.params
 head:iR d.name c.1=true
 part:(tQ (tH d.name c.1)).length=1
 notRec:tH d.name c.1≠sD
 targ:t.targ=uE d
 shapes:∀ a∈t.doms,vI (uE d).bytes d.name a=0\/vI (uE d).bytes d.name a=1
structure LibP (d:Dc) (lv:List UInt8):Prop where
 kind:d.kind=4
 name:zI d.name=true
 rname:zI (d.name++46::sD)=true
 par0:0<=d.params
 par2:d.params<=2
 flags:d.flags=0\/d.flags=2
 value:d.value=[]
 type:d.type=(Tm.sort lv).bytes
 level:zD lv=true
 lparams:(zC lv:Int)<=d.params
 count:d.ctors.length<=6
 ctors:∀ (k:Nat) (h:k<d.ctors.length),(∃ t,CtorP d d.ctors[k] t)/\∀ (j:Nat) (hj:j<k),d.ctors[j].1≠d.ctors[k].1
theorem sort_short{lv:List UInt8}(h:zD lv=true):(Tm.sort lv).bytes.length<=2000:=by
 have:=(zU h).1;simp[Tm.bytes];omega
theorem LibP.decl{d:Dc}{lv:List UInt8}(h:LibP d lv):zJ d=true:=by
 have hs:=sort_short h.level;have hok:(Tm.sort lv).Ok:=h.level;have hcl:zH d.type d.params=true:=by rw[h.type];exact yJ hok hs rfl h.lparams
 have hk:yZ d.type=[115]:=by
  rw[h.type,yZ,yE,xD hok hs];rfl
 have hcs:yQ d.name d.params d.ctors d.ctors.length=true:=by
  simp only[yQ,decide_eq_true_eq];intro i hi _;obtain⟨⟨t,ht⟩,hd⟩:=h.ctors i hi;refine⟨?_,hd⟩;simp only[oL,iA,Bool.and_eq_true,decide_eq_true_eq];refine⟨ht.head,ht.part,ht.notRec,?_⟩;rw[← ht.bytes];exact yJ ht.ok ht.len ht.opn ht.params
 have h0:=h.par0;have h2:=h.par2;simp only[zJ,zQ,h.kind,Bool.and_eq_true,decide_eq_true_eq,show ((4:Int)=1)=False by simp,show ((4:Int)=2\/(4:Int)=3)=False by simp,if_false,if_true];refine⟨h.name,⟨h0,by omega⟩,?_,hcl,?_⟩
 ·rcases h.flags with e|e<;>omega
 ·simp only[xV,Bool.and_eq_true,decide_eq_true_eq];refine⟨?_,h.value,by omega,hk,h.count,⟨h.name,h.rname⟩,hcs⟩;rcases h.flags with e|e<;>rw[e]<;>decide
theorem LibP.data{d:Dc}{lv:List UInt8}(h:LibP d lv):xP d=true:=by simp[xP,h.kind,h.decl]
theorem LibP.self{d:Dc}{lv:List UInt8}(h:LibP d lv):zR d=(uE d).bytes:=by rw[zR,iP h.decl];rfl
theorem LibP.isCtor{d:Dc}{lv:List UInt8}(h:LibP d lv){k:Nat}(hk:k<d.ctors.length):isCtor d (k:Int)=true:=by
 simp[Go.Proofs.YtfcoljanbjbphaaGreatDoor.isCtor,h.data,hk]
theorem LibP.shapes{d:Dc}{lv:List UInt8}(h:LibP d lv){k:Nat}(hk:k<d.ctors.length):(xA d (k:Int)).length=(zT d.ctors[k].2).length/\∀ s∈xA d (k:Int),s=0\/s=1:=by
 obtain⟨⟨t,ht⟩,_⟩:=h.ctors k hk;have e1:xA d (k:Int)=(zT d.ctors[k].2).map fun x=>yA (zR d) d.name x:=by
  rw[xA,iP (h.isCtor hk),sA hk]
 refine⟨by rw[e1,List.length_map],?_⟩;rw[e1,← ht.bytes,zT,xD ht.ok ht.len,h.self];intro s hs;obtain⟨x,hx,rfl⟩:=List.mem_map.1 hs;obtain⟨a,ha,rfl⟩:=List.mem_map.1 hx;rw[lG (Tm.doms_ok ht.ok a ha) (Nat.le_trans (doms_len ha) ht.len)];exact ht.shapes a ha
theorem LibP.result{d:Dc}{lv:List UInt8}(h:LibP d lv){k:Nat}(hk:k<d.ctors.length):xS d (k:Int)=true:=by
 obtain⟨⟨t,ht⟩,_⟩:=h.ctors k hk;rw[xS,h.isCtor hk,sA hk,← ht.bytes,xR,xD ht.ok ht.len,h.self];simp[ht.targ]
theorem LibP.pos{d:Dc}{lv:List UInt8}(h:LibP d lv):positive d=true:=by
 rw[positive,h.data,Bool.true_and];simp only[goodTo,decide_eq_true_eq];intro i hi s hs;rcases (h.shapes hi).2 s hs with e|e<;>omega
theorem LibP.large{d:Dc}{lv:List UInt8}(h:LibP d lv):uC d=xF [43,122] lv:=by
 rw[uC,h.data,Bool.true_and];congr 1;rw[h.type];simp[eH,Tm.bytes]
def qB:Dc:=⟨4,[110,97,116],0,0,[115,43,122,46],[],[([110,97,116,46,122,101,114,111],[99,110,97,116,59,46]),([110,97,116,46,115,117,99,99],[112,99,110,97,116,59,46,99,110,97,116,59,46])]⟩
def tK:Dc:=⟨4,[98,111,111,108],0,0,[115,43,122,46],[],[([98,111,111,108,46,116,116],[99,98,111,111,108,59,46]),([98,111,111,108,46,102,102],[99,98,111,111,108,59,46])]⟩
def tJ:Dc:=⟨4,[116,114,101,101],0,0,[115,43,122,46],[],[([116,114,101,101,46,108,101,97,102],[99,116,114,101,101,59,46]),([116,114,101,101,46,110,111,100,101],[112,99,110,97,116,59,46,112,112,99,110,97,116,59,46,99,116,114,101,101,59,46,99,116,114,101,101,59,46])]⟩
def nX:Dc:=⟨4,[102,97,108,115,101],0,0,[115,122,46],[],[]⟩
def mG:Dc:=⟨4,[98,105,103],0,2,[115,43,122,46],[],[([98,105,103,46,109,107],[112,115,43,122,46,99,98,105,103,59,46])]⟩
def xU:Dc:=⟨4,[98,111,120],1,0,[115,43,109,117,48,43,122,46],[],[([98,111,120,46,109,107],[112,115,117,48,46,112,118,48,46,99,98,111,120,59,117,48,44,46])]⟩
theorem libNatC0:CtorP qB ([110,97,116,46,122,101,114,111],[99,110,97,116,59,46]) (.const [110,97,116] []) where
 bytes:=by rfl
 ok:=by simp[Tm.Ok,zD,zY];try decide
 len:=by decide
 opn:=by decide
 params:=by simp[Tm.bytes,Tm.targ,Tm.doms,Tm.cnames,Tm.opn,Tm.params,uE,zM,List.range,List.range.loop,yH,xU,Lib.decDigits_one,zC,xJ,zD,zY,vI]<;>decide
 head:=by decide
 part:=by decide
 notRec:=by decide
 targ:=by rfl
 shapes:=by
  intro a ha;simp only[Tm.doms,List.mem_cons,List.not_mem_nil,or_false] at ha
theorem libNatC1:CtorP qB ([110,97,116,46,115,117,99,99],[112,99,110,97,116,59,46,99,110,97,116,59,46]) (.pi (.const [110,97,116] []) (.const [110,97,116] [])) where
 bytes:=by rfl
 ok:=by simp[Tm.Ok,zD,zY];try decide
 len:=by decide
 opn:=by decide
 params:=by simp[Tm.bytes,Tm.targ,Tm.doms,Tm.cnames,Tm.opn,Tm.params,uE,zM,List.range,List.range.loop,yH,xU,Lib.decDigits_one,zC,xJ,zD,zY,vI]<;>decide
 head:=by decide
 part:=by decide
 notRec:=by decide
 targ:=by rfl
 shapes:=by
  intro a ha;simp only[Tm.doms,List.mem_cons,List.not_mem_nil,or_false] at ha;rcases ha with rfl
  ·decide
theorem mS:LibP qB [43,122] where
 kind:=rfl
 name:=by decide
 rname:=by decide
 par0:=by decide
 par2:=by decide
 flags:=by decide
 value:=rfl
 type:=rfl
 level:=by simp[zD,zY]
 lparams:=by simp[Tm.bytes,Tm.targ,Tm.doms,Tm.cnames,Tm.opn,Tm.params,uE,zM,List.range,List.range.loop,yH,xU,Lib.decDigits_one,zC,xJ,zD,zY,vI]<;>decide
 count:=by decide
 ctors:=by
  intro k h;have h1:k<2:=h;have e:k=0\/k=1:=(by omega);rcases e with rfl|rfl
  ·refine⟨⟨_,libNatC0⟩,fun j hj=>?_⟩;omega
  ·refine⟨⟨_,libNatC1⟩,fun j hj=>?_⟩;obtain rfl:j=0:=(by omega);show ([110,97,116,46,122,101,114,111]:List UInt8)≠[110,97,116,46,115,117,99,99]
   decide
theorem libBoolC0:CtorP tK ([98,111,111,108,46,116,116],[99,98,111,111,108,59,46]) (.const [98,111,111,108] []) where
 bytes:=by rfl
 ok:=by simp[Tm.Ok,zD,zY];try decide
 len:=by decide
 opn:=by decide
 params:=by simp[Tm.bytes,Tm.targ,Tm.doms,Tm.cnames,Tm.opn,Tm.params,uE,zM,List.range,List.range.loop,yH,xU,Lib.decDigits_one,zC,xJ,zD,zY,vI]<;>decide
 head:=by decide
 part:=by decide
 notRec:=by decide
 targ:=by rfl
 shapes:=by
  intro a ha;simp only[Tm.doms,List.mem_cons,List.not_mem_nil,or_false] at ha
theorem libBoolC1:CtorP tK ([98,111,111,108,46,102,102],[99,98,111,111,108,59,46]) (.const [98,111,111,108] []) where
 bytes:=by rfl
 ok:=by simp[Tm.Ok,zD,zY];try decide
 len:=by decide
 opn:=by decide
 params:=by simp[Tm.bytes,Tm.targ,Tm.doms,Tm.cnames,Tm.opn,Tm.params,uE,zM,List.range,List.range.loop,yH,xU,Lib.decDigits_one,zC,xJ,zD,zY,vI]<;>decide
 head:=by decide
 part:=by decide
 notRec:=by decide
 targ:=by rfl
 shapes:=by
  intro a ha;simp only[Tm.doms,List.mem_cons,List.not_mem_nil,or_false] at ha
theorem pR:LibP tK [43,122] where
 kind:=rfl
 name:=by decide
 rname:=by decide
 par0:=by decide
 par2:=by decide
 flags:=by decide
 value:=rfl
 type:=rfl
 level:=by simp[zD,zY]
 lparams:=by simp[Tm.bytes,Tm.targ,Tm.doms,Tm.cnames,Tm.opn,Tm.params,uE,zM,List.range,List.range.loop,yH,xU,Lib.decDigits_one,zC,xJ,zD,zY,vI]<;>decide
 count:=by decide
 ctors:=by
  intro k h;have h1:k<2:=h;have e:k=0\/k=1:=(by omega);rcases e with rfl|rfl
  ·refine⟨⟨_,libBoolC0⟩,fun j hj=>?_⟩;omega
  ·refine⟨⟨_,libBoolC1⟩,fun j hj=>?_⟩;obtain rfl:j=0:=(by omega);show ([98,111,111,108,46,116,116]:List UInt8)≠[98,111,111,108,46,102,102]
   decide
theorem libTreeC0:CtorP tJ ([116,114,101,101,46,108,101,97,102],[99,116,114,101,101,59,46]) (.const [116,114,101,101] []) where
 bytes:=by rfl
 ok:=by simp[Tm.Ok,zD,zY];try decide
 len:=by decide
 opn:=by decide
 params:=by simp[Tm.bytes,Tm.targ,Tm.doms,Tm.cnames,Tm.opn,Tm.params,uE,zM,List.range,List.range.loop,yH,xU,Lib.decDigits_one,zC,xJ,zD,zY,vI]<;>decide
 head:=by decide
 part:=by decide
 notRec:=by decide
 targ:=by rfl
 shapes:=by
  intro a ha;simp only[Tm.doms,List.mem_cons,List.not_mem_nil,or_false] at ha
theorem libTreeC1:CtorP tJ ([116,114,101,101,46,110,111,100,101],[112,99,110,97,116,59,46,112,112,99,110,97,116,59,46,99,116,114,101,101,59,46,99,116,114,101,101,59,46]) (.pi (.const [110,97,116] []) (.pi (.pi (.const [110,97,116] []) (.const [116,114,101,101] [])) (.const [116,114,101,101] []))) where
 bytes:=by rfl
 ok:=by simp[Tm.Ok,zD,zY];try decide
 len:=by decide
 opn:=by decide
 params:=by simp[Tm.bytes,Tm.targ,Tm.doms,Tm.cnames,Tm.opn,Tm.params,uE,zM,List.range,List.range.loop,yH,xU,Lib.decDigits_one,zC,xJ,zD,zY,vI]<;>decide
 head:=by decide
 part:=by decide
 notRec:=by decide
 targ:=by rfl
 shapes:=by
  intro a ha;simp only[Tm.doms,List.mem_cons,List.not_mem_nil,or_false] at ha;rcases ha with rfl|rfl
  ·decide
  ·decide
theorem pP:LibP tJ [43,122] where
 kind:=rfl
 name:=by decide
 rname:=by decide
 par0:=by decide
 par2:=by decide
 flags:=by decide
 value:=rfl
 type:=rfl
 level:=by simp[zD,zY]
 lparams:=by simp[Tm.bytes,Tm.targ,Tm.doms,Tm.cnames,Tm.opn,Tm.params,uE,zM,List.range,List.range.loop,yH,xU,Lib.decDigits_one,zC,xJ,zD,zY,vI]<;>decide
 count:=by decide
 ctors:=by
  intro k h;have h1:k<2:=h;have e:k=0\/k=1:=(by omega);rcases e with rfl|rfl
  ·refine⟨⟨_,libTreeC0⟩,fun j hj=>?_⟩;omega
  ·refine⟨⟨_,libTreeC1⟩,fun j hj=>?_⟩;obtain rfl:j=0:=(by omega);show ([116,114,101,101,46,108,101,97,102]:List UInt8)≠[116,114,101,101,46,110,111,100,101]
   decide
theorem oY:LibP nX [122] where
 kind:=rfl
 name:=by decide
 rname:=by decide
 par0:=by decide
 par2:=by decide
 flags:=by decide
 value:=rfl
 type:=rfl
 level:=by simp[zD,zY]
 lparams:=by simp[Tm.bytes,Tm.targ,Tm.doms,Tm.cnames,Tm.opn,Tm.params,uE,zM,List.range,List.range.loop,yH,xU,Lib.decDigits_one,zC,xJ,zD,zY,vI]<;>decide
 count:=by decide
 ctors:=by
  intro k h;have h1:k<0:=h;omega
theorem libBigC0:CtorP mG ([98,105,103,46,109,107],[112,115,43,122,46,99,98,105,103,59,46]) (.pi (.sort [43,122]) (.const [98,105,103] [])) where
 bytes:=by rfl
 ok:=by simp[Tm.Ok,zD,zY];try decide
 len:=by decide
 opn:=by decide
 params:=by simp[Tm.bytes,Tm.targ,Tm.doms,Tm.cnames,Tm.opn,Tm.params,uE,zM,List.range,List.range.loop,yH,xU,Lib.decDigits_one,zC,xJ,zD,zY,vI]<;>decide
 head:=by decide
 part:=by decide
 notRec:=by decide
 targ:=by rfl
 shapes:=by
  intro a ha;simp only[Tm.doms,List.mem_cons,List.not_mem_nil,or_false] at ha;rcases ha with rfl
  ·decide
theorem jH:LibP mG [43,122] where
 kind:=rfl
 name:=by decide
 rname:=by decide
 par0:=by decide
 par2:=by decide
 flags:=by decide
 value:=rfl
 type:=rfl
 level:=by simp[zD,zY]
 lparams:=by simp[Tm.bytes,Tm.targ,Tm.doms,Tm.cnames,Tm.opn,Tm.params,uE,zM,List.range,List.range.loop,yH,xU,Lib.decDigits_one,zC,xJ,zD,zY,vI]<;>decide
 count:=by decide
 ctors:=by
  intro k h;have h1:k<1:=h;have e:k=0:=(by omega);rcases e with rfl
  ·refine⟨⟨_,libBigC0⟩,fun j hj=>?_⟩;omega
theorem libBoxC0:CtorP xU ([98,111,120,46,109,107],[112,115,117,48,46,112,118,48,46,99,98,111,120,59,117,48,44,46]) (.pi (.sort [117,48]) (.pi (.var 0) (.const [98,111,120] [[117,48]]))) where
 bytes:=by simp[Tm.bytes,Tm.targ,Tm.doms,Tm.cnames,Tm.opn,Tm.params,uE,zM,List.range,List.range.loop,yH,xU,Lib.decDigits_one,zC,xJ,zD,zY,vI]
 ok:=by simp[Tm.Ok,zD,zY];try decide
 len:=by simp[Tm.bytes,Tm.targ,Tm.doms,Tm.cnames,Tm.opn,Tm.params,uE,zM,List.range,List.range.loop,yH,xU,Lib.decDigits_one,zC,xJ,zD,zY,vI]
 opn:=by decide
 params:=by simp[Tm.bytes,Tm.targ,Tm.doms,Tm.cnames,Tm.opn,Tm.params,uE,zM,List.range,List.range.loop,yH,xU,Lib.decDigits_one,zC,xJ,zD,zY,vI]<;>decide
 head:=by decide
 part:=by decide
 notRec:=by decide
 targ:=by simp[Tm.bytes,Tm.targ,Tm.doms,Tm.cnames,Tm.opn,Tm.params,uE,zM,List.range,List.range.loop,yH,xU,Lib.decDigits_one,zC,xJ,zD,zY,vI]
 shapes:=by
  intro a ha;simp only[Tm.doms,List.mem_cons,List.not_mem_nil,or_false] at ha;rcases ha with rfl|rfl
  ·simp[Tm.bytes,Tm.targ,Tm.doms,Tm.cnames,Tm.opn,Tm.params,uE,zM,List.range,List.range.loop,yH,xU,Lib.decDigits_one,zC,xJ,zD,zY,vI]
  ·simp[Tm.bytes,Tm.targ,Tm.doms,Tm.cnames,Tm.opn,Tm.params,uE,zM,List.range,List.range.loop,yH,xU,Lib.decDigits_one,zC,xJ,zD,zY,vI]
theorem jG:LibP xU [43,109,117,48,43,122] where
 kind:=rfl
 name:=by decide
 rname:=by decide
 par0:=by decide
 par2:=by decide
 flags:=by decide
 value:=rfl
 type:=rfl
 level:=by simp[zD,zY]
 lparams:=by simp[Tm.bytes,Tm.targ,Tm.doms,Tm.cnames,Tm.opn,Tm.params,uE,zM,List.range,List.range.loop,yH,xU,Lib.decDigits_one,zC,xJ,zD,zY,vI]<;>decide
 count:=by decide
 ctors:=by
  intro k h;have h1:k<1:=h;have e:k=0:=(by omega);rcases e with rfl
  ·refine⟨⟨_,libBoxC0⟩,fun j hj=>?_⟩;omega
theorem libNatL:uC qB=true:=by
 rw[mS.large];exact le_of (a:=.up .z) (b:=.up .z) (by rfl) (by rfl) (by decide) (by decide) (fun V=>by simp[Lv.val])
theorem libBoolL:uC tK=true:=by
 rw[pR.large];exact le_of (a:=.up .z) (b:=.up .z) (by rfl) (by rfl) (by decide) (by decide) (fun V=>by simp[Lv.val])
theorem libTreeL:uC tJ=true:=by
 rw[pP.large];exact le_of (a:=.up .z) (b:=.up .z) (by rfl) (by rfl) (by decide) (by decide) (fun V=>by simp[Lv.val])
theorem libFalseL:uC nX=false:=by
 rw[oY.large,Bool.eq_false_iff];intro h;have h1:=(eG (a:=.up .z) (b:=.z) (gV _ (by decide)) (gV _ (by decide))).1 h (fun _=>0);simp[Lv.val] at h1
theorem libBigL:uC mG=true:=by
 rw[jH.large];exact le_of (a:=.up .z) (b:=.up .z) (by rfl) (by rfl) (by decide) (by decide) (fun V=>by simp[Lv.val])
theorem libBoxL:uC xU=true:=by
 rw[jG.large];exact le_of (a:=.up .z) (b:=.up (.mx (.par 0) (.up .z))) (by rfl) (by rfl) (by decide) (by decide) (fun V=>by simp[Lv.val])
end Go.Proofs.YtfcoljanbjbphaaGreatDoor
