/- UOrd JLib -/
import Derived.Test.YtgppcegcpiaocaaGreatDoorNQB
import Derived.Test.YtgppcegcpiaocaaGreatDoorNE1
set_option maxRecDepth 100000
set_option maxHeartbeats 16000000
set_option linter.unusedSimpArgs false
set_option linter.unusedVariables false
namespace Go.Proofs.YtgppcegcpiaocaaGreatDoor
theorem asV_fun(X Y Z:Nat)(v:Fin 3->Nat)(h0:X=v 0)(h1:Y=v 1)(h2:Z=v 2):asV [X,Y,Z]=v:=by
 funext k
 have:k=0\/k=1\/k=2:=by
  have:=k.isLt;rcases (by omega:k.val=0\/k.val=1\/k.val=2) with h|h|h
  ·exact .inl (Fin.ext h)
  ·exact .inr (.inl (Fin.ext h))
  ·exact .inr (.inr (Fin.ext h))
 rcases this with rfl|rfl|rfl
 ·exact h0
 ·exact h1
 ·exact h2
theorem gS{k x:Nat}(h:x=0\/x=1\/x=k):∃ i,i<3/\vX k i=x:=by
 rcases h with rfl|rfl|rfl
 ·exact⟨0,by omega,rfl⟩
 ·exact⟨1,by omega,rfl⟩
 ·exact⟨2,by omega,rfl⟩
theorem eF{a b:Lv}(ha:zD a.bytes=true)(hb:zD b.bytes=true):xF a.bytes b.bytes=true↔∀ V:Fin 3->Nat,a.val V<=b.val V:=by
 rw[xF,ha,hb,uG,iP ⟨ha,hb⟩,hJ ha,hJ hb,xF0,hJ ha,hJ hb];simp only[Bool.true_and,Option.isNone_map,Option.isNone_iff_eq_none,List.find?_eq_none,yG3,decide_eq_true_eq,zG9,List.mem_range,Nat.not_lt];constructor
 ·intro h V;by_cases hlt:b.val V<a.val V
  ·obtain⟨v',h1,h2⟩:=Lv.above_small a b (2+a.ups+b.ups) (by omega) V hlt;obtain⟨x,hx,ex⟩:=gS (h1 0);obtain⟨y,hy,ey⟩:=gS (h1 1);obtain⟨z,hz,ez⟩:=gS (h1 2);have h3:=h (9*x+3*y+z) (by omega);rw[zV8 hy hz,asV_fun _ _ _ v' ex ey ez] at h3;omega
  ·omega
 ·intro h i _;exact h _
theorem yO0{a b:Lv}{l m:List UInt8}(ea:l=a.bytes)(eb:m=b.bytes)(ha:l.length<=60)(hb:m.length<=60)(h:∀ V:Fin 3->Nat,a.val V<=b.val V):xF l m=true:=by
 subst ea eb;exact(eF (gU a ha) (gU b hb)).2 h
structure OrdP (a b:List UInt8) (vs:List Int):Prop where
 x:∃ n:Nat,jJ a vs=n
 y:∃ n:Nat,jJ b vs=n
 le:xF a b=true->jJ a vs<=jJ b vs
 anti:xF a b=!(uG a b).isSome
 wit:∀ ws,uG a b=some ws->∃ n m:Nat,jJ a (ws.map fun (x:Nat)=>(x:Int))=n/\jJ b (ws.map fun (x:Nat)=>(x:Int))=m/\m<n
 aa:xF a a=true
 am:xF a (109::(a++b))=true
 im:xF (105::(a++b)) (109::(a++b))=true
 bi:xF b (105::(a++b))=true
 up:xF (43::a) a=false
 ab:xF [43,122] (43::a)=true
 ze:xF (105::(a++[122])) [122]=true
 sm:yN6 (109::(a++b)) (109::(b++a))=true
end Go.Proofs.YtgppcegcpiaocaaGreatDoor
namespace Go.Proofs.YtgppcegcpiaocaaGreatDoor
open Go
theorem xE{t:Tm}(hok:t.Ok)(hl:t.bytes.length<=2000):vN t.bytes=some t:=zW ⟨hok,rfl,hl⟩
theorem zY3{t:Tm}(hok:t.Ok)(hl:t.bytes.length<=2000)(name:List UInt8):inL (xX t.bytes) name=decide (name∈t.cnames):=by
 unfold xX;rw[xE hok hl];simp only[inL];rw[decide_eq_decide];exact(srt_spec _ t.cnames (nR _)).2.1 name
def vI (self name:List UInt8) (a:Tm):Int :=
 if name∈a.cnames then (if (a.doms.any fun b=>decide (name∈b.cnames))=true then 2 else if a.targ.bytes=self then 1 else 2) else 0
theorem doms_len{a b:Tm}(h:b∈a.doms):b.bytes.length<=a.bytes.length:=by
 have h2:=congrArg List.length (uQ a);rw[lA] at h2;have:=oE h;omega
theorem yT2{α:Type}{l:List α}{p q:α->Bool}(h:∀ x∈l,p x=q x):l.any p=l.any q:=by
 induction l with
|nil=>rfl
|cons a l ih =>
  rw[List.any_cons,List.any_cons,h a List.mem_cons_self,ih fun x hx=>h x (List.mem_cons_of_mem _ hx)]
theorem lB{a:Tm}(hok:a.Ok)(hl:a.bytes.length<=2000)(self name:List UInt8):yA self name a.bytes=vI self name a:=by
 have e1:yF a.bytes=true:=by rw[yF,xE hok hl];rfl
 have e2:zT a.bytes=a.doms.map Tm.bytes:=by rw[zT,xE hok hl]
 have e3:xR a.bytes=a.targ.bytes:=by rw[xR,xE hok hl]
 have e4:((a.doms.map Tm.bytes).any fun x=>inL (xX x) name)=(a.doms.any fun b=>decide (name∈b.cnames)):=by
  rw[List.any_map];exact yT2 fun b hb=>zY3 (Tm.doms_ok hok b hb) (Nat.le_trans (doms_len hb) hl) name
 unfold yA vI;rw[e1,e2,e3,e4,zY3 hok hl];simp only[if_true,decide_eq_true_eq]
theorem yJ{t:Tm}{p:Int}(hok:t.Ok)(hl:t.bytes.length<=2000)(h0:t.opn=0)(hp:(t.params:Int)<=p):zH t.bytes p=true:=by
 unfold zH;rw[yF,yW,yY,xE hok hl];simp[h0,hp]
def uE (d:Dc):Tm:=.const d.name (zN d.params.toNat)
structure CtorP (d:Dc) (c:Ct) (t:Tm):Prop where
 bytes:t.bytes=c.2
 ok:t.Ok
 len:t.bytes.length<=2000
 opn:t.opn=0
 params:(t.params:Int)<=d.params
 head:iQ d.name c.1=true
 part:(tQ (tI d.name c.1)).length=1
 notRec:tI d.name c.1≠sD
 targ:t.targ=uE d
 shapes:∀ a∈t.doms,vI (uE d).bytes d.name a=0\/vI (uE d).bytes d.name a=1
structure LibP (d:Dc) (lv:List UInt8):Prop where
 kind:d.kind=4
 name:zI d.name=true
 rname:zI (d.name++46::sD)=true
 par0:0<=d.params
 par2:d.params<=2
 flags:d.flags=0\/d.flags=2
 value:d.value=[]
 type:d.type=(Tm.sort lv).bytes
 level:zD lv=true
 lparams:(zC lv:Int)<=d.params
 count:d.ctors.length<=6
 ctors:∀ (k:Nat) (h:k<d.ctors.length),(∃ t,CtorP d d.ctors[k] t)/\∀ (j:Nat) (hj:j<k),d.ctors[j].1≠d.ctors[k].1
theorem yA9{lv:List UInt8}(h:zD lv=true):(Tm.sort lv).bytes.length<=2000:=by
 have:=(zU h).1;simp[Tm.bytes];omega
theorem LibP.decl{d:Dc}{lv:List UInt8}(h:LibP d lv):zJ d=true:=by
 have hs:=yA9 h.level;have hok:(Tm.sort lv).Ok:=h.level;have hcl:zH d.type d.params=true:=by rw[h.type];exact yJ hok hs rfl h.lparams
 have hk:xA d.type=[115]:=by
  rw[h.type,xA,yF,xE hok hs];rfl
 have hcs:yQ d.name d.params d.ctors d.ctors.length=true:=by
  simp only[yQ,decide_eq_true_eq];intro i hi _;obtain⟨⟨t,ht⟩,hd⟩:=h.ctors i hi;refine⟨?_,hd⟩;simp only[oM,jZ,Bool.and_eq_true,decide_eq_true_eq];refine⟨ht.head,ht.part,ht.notRec,?_⟩;rw[← ht.bytes];exact yJ ht.ok ht.len ht.opn ht.params
 have h0:=h.par0;have h2:=h.par2;simp only[zJ,zQ,h.kind,Bool.and_eq_true,decide_eq_true_eq,show ((4:Int)=1)=False by simp,show ((4:Int)=2\/(4:Int)=3)=False by simp,if_false,if_true];refine⟨h.name,⟨h0,by omega⟩,?_,hcl,?_⟩
 ·rcases h.flags with e|e<;>omega
 ·simp only[xV,Bool.and_eq_true,decide_eq_true_eq];refine⟨?_,h.value,by omega,hk,h.count,⟨h.name,h.rname⟩,hcs⟩;rcases h.flags with e|e<;>rw[e]<;>decide
theorem LibP.data{d:Dc}{lv:List UInt8}(h:LibP d lv):xQ d=true:=by simp[xQ,h.kind,h.decl]
theorem LibP.self{d:Dc}{lv:List UInt8}(h:LibP d lv):zR d=(uE d).bytes:=by rw[zR,iP h.decl];rfl
theorem LibP.isCtor{d:Dc}{lv:List UInt8}(h:LibP d lv){k:Nat}(hk:k<d.ctors.length):isCtor d (k:Int)=true:=by
 simp[Go.Proofs.YtgppcegcpiaocaaGreatDoor.isCtor,h.data,hk]
theorem LibP.shapes{d:Dc}{lv:List UInt8}(h:LibP d lv){k:Nat}(hk:k<d.ctors.length):(xB d (k:Int)).length=(zT d.ctors[k].2).length/\∀ s∈xB d (k:Int),s=0\/s=1:=by
 obtain⟨⟨t,ht⟩,_⟩:=h.ctors k hk;have e1:xB d (k:Int)=(zT d.ctors[k].2).map fun x=>yA (zR d) d.name x:=by
  rw[xB,iP (h.isCtor hk),sA hk]
 refine⟨by rw[e1,List.length_map],?_⟩;rw[e1,← ht.bytes,zT,xE ht.ok ht.len,h.self];intro s hs;obtain⟨x,hx,rfl⟩:=List.mem_map.1 hs;obtain⟨a,ha,rfl⟩:=List.mem_map.1 hx;rw[lB (Tm.doms_ok ht.ok a ha) (Nat.le_trans (doms_len ha) ht.len)];exact ht.shapes a ha
theorem LibP.result{d:Dc}{lv:List UInt8}(h:LibP d lv){k:Nat}(hk:k<d.ctors.length):xS d (k:Int)=true:=by
 obtain⟨⟨t,ht⟩,_⟩:=h.ctors k hk;rw[xS,h.isCtor hk,sA hk,← ht.bytes,xR,xE ht.ok ht.len,h.self];simp[ht.targ]
theorem LibP.pos{d:Dc}{lv:List UInt8}(h:LibP d lv):zW7 d=true:=by
 rw[zW7,h.data,Bool.true_and];simp only[xF6,decide_eq_true_eq];intro i hi s hs;rcases (h.shapes hi).2 s hs with e|e<;>omega
theorem LibP.large{d:Dc}{lv:List UInt8}(h:LibP d lv):uC d=xF [43,122] lv:=by
 rw[uC,h.data,Bool.true_and];congr 1;rw[h.type];simp[eG,Tm.bytes]
def qB:Dc:=⟨4,[110,97,116],0,0,[115,43,122,46],[],[([110,97,116,46,122,101,114,111],[99,110,97,116,59,46]),([110,97,116,46,115,117,99,99],[112,99,110,97,116,59,46,99,110,97,116,59,46])]⟩
def tL:Dc:=⟨4,[98,111,111,108],0,0,[115,43,122,46],[],[([98,111,111,108,46,116,116],[99,98,111,111,108,59,46]),([98,111,111,108,46,102,102],[99,98,111,111,108,59,46])]⟩
def tK:Dc:=⟨4,[116,114,101,101],0,0,[115,43,122,46],[],[([116,114,101,101,46,108,101,97,102],[99,116,114,101,101,59,46]),([116,114,101,101,46,110,111,100,101],[112,99,110,97,116,59,46,112,112,99,110,97,116,59,46,99,116,114,101,101,59,46,99,116,114,101,101,59,46])]⟩
def nV:Dc:=⟨4,[102,97,108,115,101],0,0,[115,122,46],[],[]⟩
def mE:Dc:=⟨4,[98,105,103],0,2,[115,43,122,46],[],[([98,105,103,46,109,107],[112,115,43,122,46,99,98,105,103,59,46])]⟩
def xU:Dc:=⟨4,[98,111,120],1,0,[115,43,109,117,48,43,122,46],[],[([98,111,120,46,109,107],[112,115,117,48,46,112,118,48,46,99,98,111,120,59,117,48,44,46])]⟩
theorem zX6:CtorP qB ([110,97,116,46,122,101,114,111],[99,110,97,116,59,46]) (.const [110,97,116] []) where
 bytes:=by rfl
 ok:=by simp[Tm.Ok,zD,zY];try decide
 len:=by decide
 opn:=by decide
 params:=by simp[Tm.bytes,Tm.targ,Tm.doms,Tm.cnames,Tm.opn,Tm.params,uE,zN,List.range,List.range.loop,yH,xU,Lib.decDigits_one,zC,xJ,zD,zY,vI]<;>decide
 head:=by decide
 part:=by decide
 notRec:=by decide
 targ:=by rfl
 shapes:=by
  intro a ha;simp only[Tm.doms,List.mem_cons,List.not_mem_nil,or_false] at ha
theorem zX5:CtorP qB ([110,97,116,46,115,117,99,99],[112,99,110,97,116,59,46,99,110,97,116,59,46]) (.pi (.const [110,97,116] []) (.const [110,97,116] [])) where
 bytes:=by rfl
 ok:=by simp[Tm.Ok,zD,zY];try decide
 len:=by decide
 opn:=by decide
 params:=by simp[Tm.bytes,Tm.targ,Tm.doms,Tm.cnames,Tm.opn,Tm.params,uE,zN,List.range,List.range.loop,yH,xU,Lib.decDigits_one,zC,xJ,zD,zY,vI]<;>decide
 head:=by decide
 part:=by decide
 notRec:=by decide
 targ:=by rfl
 shapes:=by
  intro a ha;simp only[Tm.doms,List.mem_cons,List.not_mem_nil,or_false] at ha;rcases ha with rfl
  ·decide
theorem mP:LibP qB [43,122] where
 kind:=rfl
 name:=by decide
 rname:=by decide
 par0:=by decide
 par2:=by decide
 flags:=by decide
 value:=rfl
 type:=rfl
 level:=by simp[zD,zY]
 lparams:=by simp[Tm.bytes,Tm.targ,Tm.doms,Tm.cnames,Tm.opn,Tm.params,uE,zN,List.range,List.range.loop,yH,xU,Lib.decDigits_one,zC,xJ,zD,zY,vI]<;>decide
 count:=by decide
 ctors:=by
  intro k h;have h1:k<2:=h;have e:k=0\/k=1:=(by omega);rcases e with rfl|rfl
  ·refine⟨⟨_,zX6⟩,fun j hj=>?_⟩;omega
  ·refine⟨⟨_,zX5⟩,fun j hj=>?_⟩;obtain rfl:j=0:=(by omega);show ([110,97,116,46,122,101,114,111]:List UInt8)≠[110,97,116,46,115,117,99,99]
   decide
theorem zH7:CtorP tL ([98,111,111,108,46,116,116],[99,98,111,111,108,59,46]) (.const [98,111,111,108] []) where
 bytes:=by rfl
 ok:=by simp[Tm.Ok,zD,zY];try decide
 len:=by decide
 opn:=by decide
 params:=by simp[Tm.bytes,Tm.targ,Tm.doms,Tm.cnames,Tm.opn,Tm.params,uE,zN,List.range,List.range.loop,yH,xU,Lib.decDigits_one,zC,xJ,zD,zY,vI]<;>decide
 head:=by decide
 part:=by decide
 notRec:=by decide
 targ:=by rfl
 shapes:=by
  intro a ha;simp only[Tm.doms,List.mem_cons,List.not_mem_nil,or_false] at ha
theorem zH6:CtorP tL ([98,111,111,108,46,102,102],[99,98,111,111,108,59,46]) (.const [98,111,111,108] []) where
 bytes:=by rfl
 ok:=by simp[Tm.Ok,zD,zY];try decide
 len:=by decide
 opn:=by decide
 params:=by simp[Tm.bytes,Tm.targ,Tm.doms,Tm.cnames,Tm.opn,Tm.params,uE,zN,List.range,List.range.loop,yH,xU,Lib.decDigits_one,zC,xJ,zD,zY,vI]<;>decide
 head:=by decide
 part:=by decide
 notRec:=by decide
 targ:=by rfl
 shapes:=by
  intro a ha;simp only[Tm.doms,List.mem_cons,List.not_mem_nil,or_false] at ha
theorem pS:LibP tL [43,122] where
 kind:=rfl
 name:=by decide
 rname:=by decide
 par0:=by decide
 par2:=by decide
 flags:=by decide
 value:=rfl
 type:=rfl
 level:=by simp[zD,zY]
 lparams:=by simp[Tm.bytes,Tm.targ,Tm.doms,Tm.cnames,Tm.opn,Tm.params,uE,zN,List.range,List.range.loop,yH,xU,Lib.decDigits_one,zC,xJ,zD,zY,vI]<;>decide
 count:=by decide
 ctors:=by
  intro k h;have h1:k<2:=h;have e:k=0\/k=1:=(by omega);rcases e with rfl|rfl
  ·refine⟨⟨_,zH7⟩,fun j hj=>?_⟩;omega
  ·refine⟨⟨_,zH6⟩,fun j hj=>?_⟩;obtain rfl:j=0:=(by omega);show ([98,111,111,108,46,116,116]:List UInt8)≠[98,111,111,108,46,102,102]
   decide
theorem zH4:CtorP tK ([116,114,101,101,46,108,101,97,102],[99,116,114,101,101,59,46]) (.const [116,114,101,101] []) where
 bytes:=by rfl
 ok:=by simp[Tm.Ok,zD,zY];try decide
 len:=by decide
 opn:=by decide
 params:=by simp[Tm.bytes,Tm.targ,Tm.doms,Tm.cnames,Tm.opn,Tm.params,uE,zN,List.range,List.range.loop,yH,xU,Lib.decDigits_one,zC,xJ,zD,zY,vI]<;>decide
 head:=by decide
 part:=by decide
 notRec:=by decide
 targ:=by rfl
 shapes:=by
  intro a ha;simp only[Tm.doms,List.mem_cons,List.not_mem_nil,or_false] at ha
theorem zH3:CtorP tK ([116,114,101,101,46,110,111,100,101],[112,99,110,97,116,59,46,112,112,99,110,97,116,59,46,99,116,114,101,101,59,46,99,116,114,101,101,59,46]) (.pi (.const [110,97,116] []) (.pi (.pi (.const [110,97,116] []) (.const [116,114,101,101] [])) (.const [116,114,101,101] []))) where
 bytes:=by rfl
 ok:=by simp[Tm.Ok,zD,zY];try decide
 len:=by decide
 opn:=by decide
 params:=by simp[Tm.bytes,Tm.targ,Tm.doms,Tm.cnames,Tm.opn,Tm.params,uE,zN,List.range,List.range.loop,yH,xU,Lib.decDigits_one,zC,xJ,zD,zY,vI]<;>decide
 head:=by decide
 part:=by decide
 notRec:=by decide
 targ:=by rfl
 shapes:=by
  intro a ha;simp only[Tm.doms,List.mem_cons,List.not_mem_nil,or_false] at ha;rcases ha with rfl|rfl
  ·decide
  ·decide
theorem pQ:LibP tK [43,122] where
 kind:=rfl
 name:=by decide
 rname:=by decide
 par0:=by decide
 par2:=by decide
 flags:=by decide
 value:=rfl
 type:=rfl
 level:=by simp[zD,zY]
 lparams:=by simp[Tm.bytes,Tm.targ,Tm.doms,Tm.cnames,Tm.opn,Tm.params,uE,zN,List.range,List.range.loop,yH,xU,Lib.decDigits_one,zC,xJ,zD,zY,vI]<;>decide
 count:=by decide
 ctors:=by
  intro k h;have h1:k<2:=h;have e:k=0\/k=1:=(by omega);rcases e with rfl|rfl
  ·refine⟨⟨_,zH4⟩,fun j hj=>?_⟩;omega
  ·refine⟨⟨_,zH3⟩,fun j hj=>?_⟩;obtain rfl:j=0:=(by omega);show ([116,114,101,101,46,108,101,97,102]:List UInt8)≠[116,114,101,101,46,110,111,100,101]
   decide
theorem oZ:LibP nV [122] where
 kind:=rfl
 name:=by decide
 rname:=by decide
 par0:=by decide
 par2:=by decide
 flags:=by decide
 value:=rfl
 type:=rfl
 level:=by simp[zD,zY]
 lparams:=by simp[Tm.bytes,Tm.targ,Tm.doms,Tm.cnames,Tm.opn,Tm.params,uE,zN,List.range,List.range.loop,yH,xU,Lib.decDigits_one,zC,xJ,zD,zY,vI]<;>decide
 count:=by decide
 ctors:=by
  intro k h;have h1:k<0:=h;omega
theorem zY1:CtorP mE ([98,105,103,46,109,107],[112,115,43,122,46,99,98,105,103,59,46]) (.pi (.sort [43,122]) (.const [98,105,103] [])) where
 bytes:=by rfl
 ok:=by simp[Tm.Ok,zD,zY];try decide
 len:=by decide
 opn:=by decide
 params:=by simp[Tm.bytes,Tm.targ,Tm.doms,Tm.cnames,Tm.opn,Tm.params,uE,zN,List.range,List.range.loop,yH,xU,Lib.decDigits_one,zC,xJ,zD,zY,vI]<;>decide
 head:=by decide
 part:=by decide
 notRec:=by decide
 targ:=by rfl
 shapes:=by
  intro a ha;simp only[Tm.doms,List.mem_cons,List.not_mem_nil,or_false] at ha;rcases ha with rfl
  ·decide
theorem jG:LibP mE [43,122] where
 kind:=rfl
 name:=by decide
 rname:=by decide
 par0:=by decide
 par2:=by decide
 flags:=by decide
 value:=rfl
 type:=rfl
 level:=by simp[zD,zY]
 lparams:=by simp[Tm.bytes,Tm.targ,Tm.doms,Tm.cnames,Tm.opn,Tm.params,uE,zN,List.range,List.range.loop,yH,xU,Lib.decDigits_one,zC,xJ,zD,zY,vI]<;>decide
 count:=by decide
 ctors:=by
  intro k h;have h1:k<1:=h;have e:k=0:=(by omega);rcases e with rfl
  ·refine⟨⟨_,zY1⟩,fun j hj=>?_⟩;omega
theorem zX9:CtorP xU ([98,111,120,46,109,107],[112,115,117,48,46,112,118,48,46,99,98,111,120,59,117,48,44,46]) (.pi (.sort [117,48]) (.pi (.var 0) (.const [98,111,120] [[117,48]]))) where
 bytes:=by simp[Tm.bytes,Tm.targ,Tm.doms,Tm.cnames,Tm.opn,Tm.params,uE,zN,List.range,List.range.loop,yH,xU,Lib.decDigits_one,zC,xJ,zD,zY,vI]
 ok:=by simp[Tm.Ok,zD,zY];try decide
 len:=by simp[Tm.bytes,Tm.targ,Tm.doms,Tm.cnames,Tm.opn,Tm.params,uE,zN,List.range,List.range.loop,yH,xU,Lib.decDigits_one,zC,xJ,zD,zY,vI]
 opn:=by decide
 params:=by simp[Tm.bytes,Tm.targ,Tm.doms,Tm.cnames,Tm.opn,Tm.params,uE,zN,List.range,List.range.loop,yH,xU,Lib.decDigits_one,zC,xJ,zD,zY,vI]<;>decide
 head:=by decide
 part:=by decide
 notRec:=by decide
 targ:=by simp[Tm.bytes,Tm.targ,Tm.doms,Tm.cnames,Tm.opn,Tm.params,uE,zN,List.range,List.range.loop,yH,xU,Lib.decDigits_one,zC,xJ,zD,zY,vI]
 shapes:=by
  intro a ha;simp only[Tm.doms,List.mem_cons,List.not_mem_nil,or_false] at ha;rcases ha with rfl|rfl
  ·simp[Tm.bytes,Tm.targ,Tm.doms,Tm.cnames,Tm.opn,Tm.params,uE,zN,List.range,List.range.loop,yH,xU,Lib.decDigits_one,zC,xJ,zD,zY,vI]
  ·simp[Tm.bytes,Tm.targ,Tm.doms,Tm.cnames,Tm.opn,Tm.params,uE,zN,List.range,List.range.loop,yH,xU,Lib.decDigits_one,zC,xJ,zD,zY,vI]
theorem jF:LibP xU [43,109,117,48,43,122] where
 kind:=rfl
 name:=by decide
 rname:=by decide
 par0:=by decide
 par2:=by decide
 flags:=by decide
 value:=rfl
 type:=rfl
 level:=by simp[zD,zY]
 lparams:=by simp[Tm.bytes,Tm.targ,Tm.doms,Tm.cnames,Tm.opn,Tm.params,uE,zN,List.range,List.range.loop,yH,xU,Lib.decDigits_one,zC,xJ,zD,zY,vI]<;>decide
 count:=by decide
 ctors:=by
  intro k h;have h1:k<1:=h;have e:k=0:=(by omega);rcases e with rfl
  ·refine⟨⟨_,zX9⟩,fun j hj=>?_⟩;omega
theorem yM8:uC qB=true:=by
 rw[mP.large];exact yO0 (a:=.up .z) (b:=.up .z) (by rfl) (by rfl) (by decide) (by decide) (fun V=>by simp[Lv.val])
theorem zY0:uC tL=true:=by
 rw[pS.large];exact yO0 (a:=.up .z) (b:=.up .z) (by rfl) (by rfl) (by decide) (by decide) (fun V=>by simp[Lv.val])
theorem zX4:uC tK=true:=by
 rw[pQ.large];exact yO0 (a:=.up .z) (b:=.up .z) (by rfl) (by rfl) (by decide) (by decide) (fun V=>by simp[Lv.val])
theorem zH5:uC nV=false:=by
 rw[oZ.large,Bool.eq_false_iff];intro h;have h1:=(eF (a:=.up .z) (b:=.z) (gU _ (by decide)) (gU _ (by decide))).1 h (fun _=>0);simp[Lv.val] at h1
theorem yN5:uC mE=true:=by
 rw[jG.large];exact yO0 (a:=.up .z) (b:=.up .z) (by rfl) (by rfl) (by decide) (by decide) (fun V=>by simp[Lv.val])
theorem yN2:uC xU=true:=by
 rw[jF.large];exact yO0 (a:=.up .z) (b:=.up (.mx (.par 0) (.up .z))) (by rfl) (by rfl) (by decide) (by decide) (fun V=>by simp[Lv.val])
end Go.Proofs.YtgppcegcpiaocaaGreatDoor
