/- IntsP UVal Dr2 VParU UWit FSay KMath KVars EGiv EArr TVarS FOut FLift LftS GAny QEn QMath QEnP QKnM LSortQ -/
import Derived.ChangeSlices
import Derived.StillTailTactics
import Derived.Laws.Cover1
import Derived.Test.YtgppcegcpiaocaaGreatDoorNBase
import Derived.Test.YtgppcegcpiaocaaGreatDoorNG1
import Derived.Test.YtgppcegcpiaocaaGreatDoorNE1
import Derived.Test.YtgppcegcpiaocaaGreatDoorNV1
import Derived.Test.YtgppcegcpiaocaaGreatDoorNA5
import Derived.Test.YtgppcegcpiaocaaGreatDoorNZGOr
import Derived.Test.YtgppcegcpiaocaaGreatDoorNG3
import Derived.Test.YtgppcegcpiaocaaGreatDoorNA4
import Derived.Test.YtgppcegcpiaocaaGreatDoorNLSortP
set_option maxRecDepth 100000
set_option maxHeartbeats 16000000
set_option linter.unusedSimpArgs false
set_option linter.unusedVariables false
namespace Go.Proofs.YtgppcegcpiaocaaGreatDoor
open Go.ChangeShapes Go.WideShapes Go.ChangeAt Go.RowKit
def iv (x:Int):Value:=.int .i64 x
theorem jB{w:World}{b n:Nat}{v:Value}{xs:List Value}(h:w.ownsRow b 3 1 v n xs):∃ a cap,v=.slice a n cap:=by
 rcases h.2 with ⟨rfl,rfl⟩|⟨g,cap,cur,rfl,_⟩
 ·exact⟨_,_,rfl⟩
 ·exact⟨_,_,rfl⟩
def CameI (w:World) (v:Value) (l:List Int):Prop :=
 ∃ (a0:Option Addr) (cap b off:Nat),v=.slice a0 l.length cap/\(0<l.length->a0=some ⟨b,off,none⟩/\b<w.heap.size)/\(∀ j (h:j<l.length),w.cell? ⟨b,off+j,none⟩=some (iv l[j]))/\l.length<=maxLen
theorem CameI.below{w w':World}{v:Value}{l:List Int}(h:CameI w v l)(hb:Below w.heap.size w w'):CameI w' v l:=by
 obtain⟨a0,cap,b,off,h1,h2,h3,h4⟩:=h;refine⟨a0,cap,b,off,h1,fun h0=>⟨(h2 h0).1,Nat.lt_of_lt_of_le (h2 h0).2 hb.size⟩,fun j hj=>?_,h4⟩;rw[hb.cell (p:=⟨b,off+j,none⟩) (h2 (by omega)).2];exact h3 j hj
theorem eJ:(Tryz.prog.info? 3).map (fun i=>(i.zero,i.size,i.bytes))=some (some (.int .i64 0),1,8):=by kernel_rfl
def IRes (r:List Int) (w:World) (e:Ending) (w':World):Prop :=
 ∃ v,e=.returned v/\w'.ownsRow w.heap.size 3 1 v r.length (r.map iv)/\Below w.heap.size w w'
theorem jQ{l:List UInt8}{p:Nat}{c:UInt8}{r:List UInt8}(h:l.drop p=c::r):∃ hp:p<l.length,l[p]=c/\l.drop (p+1)=r:=by
 have hp:p<l.length:=by
  by_cases hp:p<l.length
  ·exact hp
  ·rw[List.drop_eq_nil_of_le (by omega)] at h;cases h
 rw[List.drop_eq_getElem_cons hp] at h;injection h with h1 h2;exact⟨hp,h1,h2⟩
theorem xG0{vs:List Int}(hv:∀ x∈vs,0<=x/\x<=1000)(k:Fin 3):asV (vs.map Int.toNat) k<=1000:=by
 unfold asV;by_cases hk:k.val<vs.length
 ·have:(vs.map Int.toNat).getD k.val 0=(vs[k.val]).toNat:=(by simp[hk]);rw[this];have:=hv _ (List.getElem_mem hk);omega
 ·have:(vs.map Int.toNat).getD k.val 0=0:=(by simp[List.getD,List.getElem?_eq_none (show vs.length<=k.val by omega)]);omega
theorem asV_at{vs:List Int}(hv:∀ x∈vs,0<=x/\x<=1000)(k:Fin 3)(hk:k.val<vs.length):vs[k.val]=(asV (vs.map Int.toNat) k:Int):=by
 unfold asV;have:(vs.map Int.toNat).getD k.val 0=(vs[k.val]).toNat:=by simp[hk]
 rw[this];have:=hv _ (List.getElem_mem hk);omega
end Go.Proofs.YtgppcegcpiaocaaGreatDoor
namespace Go.Proofs.YtgppcegcpiaocaaGreatDoor
def own3:List (List UInt8):=[[117,48],[117,49],[117,50]]
def zer3:List (List UInt8):=[[122],[122],[122]]
def jW (t:List UInt8):Prop:=∀ n r,zY (n+1) (t++r)=(zY n r).map (·+t.length)
structure LvP (t:List UInt8):Prop where
 pos:0<t.length
 run:jW t
 same:∀ r,nY own3 (t++r)=t++nY own3 r
 zs:∃ t',(∀ r,nY zer3 (t++r)=t'++nY zer3 r)/\t'.length<=t.length/\jW t'/\t'.count 43=t.count 43/\117∉t'
theorem zO9:jW [122]:=fun n r=>oK n r
theorem yJ6{d:UInt8}(h1:48<=d.toNat)(h2:d.toNat<=50):jW [117,d]:=fun n r=>uS n h1 h2 r
theorem zW6{t:List UInt8}(h:jW t):jW (43::t):=fun n r=>by
 rw[List.cons_append,sS,h,Option.map_map];congr 1
theorem zF4{c:UInt8}(hc:c=109\/c=105){a b:List UInt8}(ha:jW a)(hb:jW b):jW (c::(a++b)):=fun n r=>by
 rw[List.cons_append,uH n hc,List.append_assoc,ha,hb,Option.map_map,Option.map_map];congr 1
 funext x
 simp;omega
theorem LvP.z:LvP [122] where
 pos:=by decide
 run:=zO9
 same r:=vJ _ (by decide) r
 zs:=⟨[122],fun r=>vJ _ (by decide) r,nR _,zO9,rfl,by decide⟩
theorem LvP.par{d:UInt8}(h1:48<=d.toNat)(h2:d.toNat<=50):LvP [117,d] where
 pos:=by simp
 run:=yJ6 h1 h2
 same r:=by
  have hd:d=48\/d=49\/d=50:=by
   rcases (by omega:d.toNat=48\/d.toNat=49\/d.toNat=50) with h|h|h
   ·exact .inl (UInt8.toNat_inj.1 h)
   ·exact .inr (.inl (UInt8.toNat_inj.1 h))
   ·exact .inr (.inr (UInt8.toNat_inj.1 h))
  show nY own3 (117::d::r)=_;rw[gA];rcases hd with rfl|rfl|rfl<;>rfl
 zs:=by
  have hd:d=48\/d=49\/d=50:=by
   rcases (by omega:d.toNat=48\/d.toNat=49\/d.toNat=50) with h|h|h
   ·exact .inl (UInt8.toNat_inj.1 h)
   ·exact .inr (.inl (UInt8.toNat_inj.1 h))
   ·exact .inr (.inr (UInt8.toNat_inj.1 h))
  refine⟨[122],fun r=>?_,by simp,zO9,?_,by decide⟩
  ·show nY zer3 (117::d::r)=_;rw[gA];rcases hd with rfl|rfl|rfl<;>rfl
  ·rcases hd with rfl|rfl|rfl<;>decide
theorem LvP.up{t:List UInt8}(h:LvP t):LvP (43::t) where
 pos:=by simp
 run:=zW6 h.run
 same r:=by rw[List.cons_append,vJ _ (by decide),h.same];rfl
 zs:=by
  obtain⟨t',h1,h2,h3,h4,h5⟩:=h.zs;refine⟨43::t',fun r=>by rw[List.cons_append,vJ _ (by decide),h1];rfl,by simpa using h2,zW6 h3,by simp[h4],?_⟩;intro hm;rcases List.mem_cons.1 hm with e|e
  ·exact absurd e (by decide)
  ·exact h5 e
theorem LvP.two{c:UInt8}(hc:c=109\/c=105){a b:List UInt8}(ha:LvP a)(hb:LvP b):LvP (c::(a++b)) where
 pos:=by simp
 run:=zF4 hc ha.run hb.run
 same r:=by
  have h1:c≠117:=(by rcases hc with rfl|rfl<;>decide);rw[List.cons_append,vJ _ h1,List.append_assoc,ha.same,hb.same];simp
 zs:=by
  have h1:c≠117:=(by rcases hc with rfl|rfl<;>decide);have h43:c≠43:=(by rcases hc with rfl|rfl<;>decide);obtain⟨a',a1,a2,a3,a4,a5⟩:=ha.zs;obtain⟨b',b1,b2,b3,b4,b5⟩:=hb.zs;refine⟨c::(a'++b'),fun r=>?_,by simp;omega,zF4 hc a3 b3,by simp[h43,a4,b4],?_⟩
  ·rw[List.cons_append,vJ _ h1,List.append_assoc,a1,b1];simp
  ·intro hm;rcases List.mem_cons.1 hm with e|e
   ·exact h1 e.symm
   ·rcases List.mem_append.1 e with e|e
    ·exact a5 e
    ·exact b5 e
theorem jW.whole{t:List UInt8}(h:jW t):zY 1 t=some t.length:=by
 have:=h 0 [];rw[List.append_nil,uB] at this;simpa using this
theorem jW.ok{t:List UInt8}(h:jW t)(hl:t.length<=60):zD t=true:=by
 rw[zD,h.whole];simp[hl]
structure TwoP (a b:List UInt8):Prop where
 own:zS a own3=some a
 zer:∃ t,zS (43::a) zer3=some t/\zC t=0/\xC t=xC a+1
 ok:zD a=true
 end0:zY2 (a++b) 0=a.length
 end1:zY2 (a++b) (a.length:Int)=(a.length:Int)+b.length
 ups:xC (109::(a++b))=xC a+xC b
 not:zD (a++b)=false
end Go.Proofs.YtgppcegcpiaocaaGreatDoor
namespace Go.Proofs.YtgppcegcpiaocaaGreatDoor
open Go.ChangeShapes Go.WideShapes Go.ChangeAt Go.RowKit
def zP3 (x:Nat):Value:=iv (x:Int)
def xG3 (r:Option (List Nat)) (w:World) (e:Ending) (w':World):Prop :=
 ∃ v,e=.returned (.tuple #[v,.bool r.isSome])/\w'.ownsRow w.heap.size 3 1 v (r.getD []).length ((r.getD []).map zP3)/\Below w.heap.size w w'
theorem gT{k:Nat}(hk:2<=k)(i:Nat):vX k i<=k:=by unfold vX;split;omega;split<;>omega
theorem zV8{x y z k:Nat}(hy:y<3)(hz:z<3):xI k (9*x+3*y+z)=[vX k x,vX k y,vX k z]:=by
 rw[xI,show (9*x+3*y+z) / 9=x by omega,show (9*x+3*y+z) / 3 % 3=y by omega,show (9*x+3*y+z) % 3=z by omega]
end Go.Proofs.YtgppcegcpiaocaaGreatDoor
namespace Go.Proofs.YtgppcegcpiaocaaGreatDoor
open Go
open Classical in
noncomputable def kT (st:Option (List UInt8)) (R:Tm):Option (List UInt8):=st.bind fun B=>if R.Ok/\B.length+R.bytes.length<=2000 then some (B++R.bytes) else none
theorem yI9{B:List UInt8}{R:Tm}(h:R.Ok)(hl:B.length+R.bytes.length<=2000):kT (some B) R=some (B++R.bytes):=iP ⟨h,hl⟩
theorem yJ0{B:List UInt8}{R:Tm}(h:¬ (R.Ok/\B.length+R.bytes.length<=2000)):kT (some B) R=none:=iN h
noncomputable def lifted (l:List UInt8) (x y:Int):Option (List UInt8):=match vN l with
|some T=>if 0<=x/\x<=999/\0<=y/\y<=999 then kT (some []) (T.lift x.toNat y.toNat) else none
|none=>none
noncomputable def yU (d:Dc):Int:=if xQ d=true then (if uC d=true then d.params+1 else d.params) else 0
noncomputable def yM (d:Dc):List UInt8:=if xQ d=true then (if uC d=true then 115::117::(Lib.itoa d.params++[46]) else [115,122,46]) else []
def hC (s:Nat):List (List UInt8):=(List.range s).map fun i=>(Tm.var (s - 1 - i)).bytes
noncomputable def zE2 (k n j q:Nat) (dm:List UInt8):Option (List UInt8) :=
 match lifted dm ((n - j+q:Nat):Int) 0 with
|none=>none
|some dom=>match vL (vH ((n - 1 - j+q+(zT dom).length:Nat):Int)) (hC (zT dom).length) with
 |none=>none
 |some arg=>yT (zT dom) (64::((Tm.var (k+n+q+(zT dom).length)).bytes++arg))
noncomputable def vG (k n:Nat) (sh:List UInt8->Int):List (List UInt8)->Nat->Nat->List (List UInt8)->Option (List (List UInt8) × Nat)
|[],_,q,acc=>some (acc,q)
|dm::r,j,q,acc =>
  if sh dm=2 then none
  else if sh dm=1 then match zE2 k n j q dm with
  |none=>none
  |some st=>vG k n sh r (j+1) (q+1) (acc++[st])
  else vG k n sh r (j+1) q acc
def lW (n q:Nat):List (List UInt8):=(List.range n).map fun j=>vH ((n - 1 - j+q:Nat):Int)
def tN (d:Dc) (k:Nat):List UInt8:=match d.ctors[k]? with
|some c=>c.1
|none=>[]
noncomputable def lU (d:Dc) (k n:Nat):Option (List (List UInt8) × Nat)->Option (List UInt8)
|none=>none
|some (all,q)=>match vL (Tm.const (tN d k) (zN d.params.toNat)).bytes (lW n q) with
 |none=>none
 |some made=>yT all (64::((Tm.var (k+n+q)).bytes++made))
noncomputable def sR (d:Dc) (k:Nat):Option (List UInt8) :=
 lU d k (zT (yR d k)).length (vG k (zT (yR d k)).length (yA (zR d) d.name) (zT (yR d k)) 0 0 (zT (yR d k)))
noncomputable def yD (d:Dc) (k:Int):Option (List UInt8):=if xS d k=true then sR d k.toNat else none
noncomputable def tR (d:Dc):Nat->Nat->Option (List (List UInt8))
|0,_=>some []
|m+1,k=>match yD d k with
 |none=>none
 |some t=>match tR d m (k+1) with
  |none=>none
  |some r=>some (t::r)
noncomputable def uJ (d:Dc):Option (List UInt8) :=
 if xQ d=true then (match tR d d.ctors.length 0 with
 |none=>none
 |some ms=>yT ((112::(zR d++yM d))::(ms++[zR d])) (64::((Tm.var (d.ctors.length+1)).bytes++[118,48,46])))
 else none
theorem iV{ds:List (List UInt8)}{t r:List UInt8}(h:yT ds t=some r):r.length<=2000:=by
 unfold yT at h;split at h
 ·rename_i hc;injection h with h;subst h;have hf:∀ ds:List (List UInt8),((ds.map fun d=>(112:UInt8)::d).flatten).length=ds.length+ds.flatten.length:=by
   intro ds
   induction ds with
  |nil=>rfl
  |cons a ds ih =>
    rw[List.map_cons,List.flatten_cons,lA,ih,List.flatten_cons,lA];simp only[lC];omega
  rw[lA,hf];have:=hc.2.2;omega
 ·cases h
theorem aY{d:Dc}{k:Int}{r:List UInt8}(h:yD d k=some r):r.length<=2000:=by
 unfold yD at h;split at h
 ·unfold sR lU at h;split at h
  ·cases h
  ·split at h
   ·cases h
   ·exact iV h
 ·cases h
theorem dA{d:Dc}{k:Nat}(h:k<d.ctors.length):tN d k=d.ctors[k].1:=by
 unfold tN;rw[List.getElem?_eq_getElem h]
theorem yG6(n:Nat)(h:n<=1000000):(Tm.var n).bytes.length<=30:=by
 have hl:(Lib.decDigits n).length<=10:=tY (by omega);simp[Tm.bytes];omega
end Go.Proofs.YtgppcegcpiaocaaGreatDoor
namespace Go.Proofs.YtgppcegcpiaocaaGreatDoor
open Go.ChangeShapes Go.WideShapes Go.ChangeAt Go.RowKit
structure KeepO (ob:Nat) (W W':World):Prop where
 os:W'.os=W.os
 tape:W'.tape=W.tape
 output:W'.output=W.output
 size:W.heap.size<=W'.heap.size
 low:∀ i,i<ob->W'.heap[i]?=W.heap[i]?
 typ:∀ i cur t fr,W.heap[i]?=some (.cells cur t fr)->t≠5->i≠ob->W'.heap[i]?=W.heap[i]?
theorem KeepO.refl(ob:Nat)(W:World):KeepO ob W W:=⟨rfl,rfl,rfl,nR _,fun _ _=>rfl,fun _ _ _ _ _ _ _=>rfl⟩
theorem KeepO.trans{ob:Nat}{W W1 W2:World}(h:KeepO ob W W1)(k:KeepO ob W1 W2):KeepO ob W W2 := ⟨k.os.trans h.os,k.tape.trans h.tape,k.output.trans h.output,Nat.le_trans h.size k.size,fun i hi=>(k.low i hi).trans (h.low i hi),
  fun i cur t fr hc ht hi=>(k.typ i cur t fr ((h.typ i cur t fr hc ht hi).trans hc) ht hi).trans (h.typ i cur t fr hc ht hi)⟩
theorem zB9{W:World}{i:Nat}{o:Obj}(h:W.heap[i]?=some o):i<W.heap.size:=(Array.getElem?_eq_some_iff.1 h).1
theorem KeepO.below{ob:Nat}{W W':World}(hb:Below W.heap.size W W')(hob:ob<=W.heap.size):KeepO ob W W' := ⟨hb.os,hb.tape,hb.output,hb.size,fun i hi=>hb.block i (by omega),fun i _ _ _ hc _ _=>hb.block i (zB9 hc)⟩
theorem KeepO.belowOf{ob:Nat}{w W W':World}(h:KeepO ob W W')(hb:Below w.heap.size w W)(hob:w.heap.size<=ob):Below w.heap.size w W' := ⟨h.os.trans hb.os,h.tape.trans hb.tape,h.output.trans hb.output,Nat.le_trans hb.size h.size,fun i hi=>(h.low i (by omega)).trans (hb.block i hi)⟩
abbrev En:=Dc × List Lbl
abbrev Ev:=En × Value × Value
def rT (x:Ev):List Value:=[.int .i64 x.1.1.kind,sv x.1.1.name,.int .i64 x.1.1.params,.int .i64 x.1.1.flags,sv x.1.1.type,sv x.1.1.value,x.2.1,x.2.2]
def Ev.val (x:Ev):Value:=.agg #[.int .i64 x.1.1.kind,.string ⟨x.1.1.name.toArray⟩,.int .i64 x.1.1.params,.int .i64 x.1.1.flags,.string ⟨x.1.1.type.toArray⟩,.string ⟨x.1.1.value.toArray⟩,x.2.1,x.2.2]
def rR (l:List Ev):List Value:=l.flatMap rT
theorem bM(x:Ev)(l:List Ev):rR (x::l)=rT x++rR l:=rfl
theorem zK5(a b:List Ev):rR (a++b)=rR a++rR b:=by simp[rR]
theorem iR(l:List Ev):(rR l).length=l.length*8:=by
 induction l with
|nil=>rfl
|cons x l ih=>rw[bM,lA,ih];simp only[rT,lC,List.length_nil];omega
theorem yQ1{l:List Ev}:∀ {j:Nat} (h:j<l.length) (i:Nat),i<8->(rR l)[j*8+i]?=(rT l[j])[i]?:=by
 induction l with
|nil=>intro j h;simp at h
|cons x l ih =>
  intro j h i hi;rw[bM];cases j with
 |zero =>
   rw[Nat.zero_mul,Nat.zero_add,List.getElem?_append_left (by simp only[rT,lC,List.length_nil];omega)];rfl
 |succ j =>
   have hj:=ih (j:=j) (by simpa using h) i hi;rw[List.getElem?_append_right (by simp only[rT,lC,List.length_nil];omega)];rw[show (j+1)*8+i - (rT x).length=j*8+i by simp only[rT,lC,List.length_nil];omega,hj];rfl
theorem infoEn:(Tryz.prog.info? 40).map (fun i=>(i.zero,i.size,i.bytes))=some (some (.agg #[.int .i64 0,.string ⟨#[]⟩,.int .i64 0,.int .i64 0,.string ⟨#[]⟩,.string ⟨#[]⟩,.slice none 0 0,.slice none 0 0]),8,120):=by kernel_rfl
def zV4 (W:World) (B:Nat) (x:Ev):Prop:=W.ownsRow B 75 2 x.2.1 x.1.1.ctors.length (xM x.1.1.ctors)/\W.ownsRow B 125 2 x.2.2 x.1.2.length (flat x.1.2)
theorem zV4.below{W W':World}{B:Nat}{x:Ev}(h:zV4 W B x)(hb:Below W.heap.size W W'):zV4 W' B x:=⟨zA h.1 hb,zA h.2 hb⟩
def uL (W:World) (B:Nat) (v:Value) (env:List En):Prop :=
 ∃ xs:List Ev,xs.map (fun x=>x.1)=env/\W.ownsRow B 40 8 v xs.length (rR xs)/\∀ x∈xs,zV4 W B x
theorem uL.below{W W':World}{B:Nat}{v:Value}{env:List En}(h:uL W B v env)(hb:Below W.heap.size W W'):uL W' B v env:=by
 obtain⟨xs,h1,h2,h3⟩:=h;exact⟨xs,h1,zA h2 hb,fun x hx=>(h3 x hx).below hb⟩
def yU3 (w:World) (v:Value) (env:List En):Prop :=
 ∃ (xs:List Ev) (a0:Option Addr) (cap b off:Nat),xs.map (fun x=>x.1)=env/\v=.slice a0 xs.length cap/\(0<xs.length->a0=some ⟨b,off,none⟩/\b<w.heap.size) /\
  (∀ j (h:j<xs.length) i,i<8->w.cell? ⟨b,off+j*8+i,none⟩=(rT xs[j])[i]?)/\xs.length<=maxLen /\
  ∀ x∈xs,xE8 w x.2.1 x.1.1.ctors/\xE7 w x.2.2 x.1.2/\x.1.1.Fits/\-9223372036854775808<=x.1.1.flags/\x.1.1.flags<=9223372036854775807
theorem yU3.below{w w':World}{v:Value}{l:List En}(h:yU3 w v l)(hb:Below w.heap.size w w'):yU3 w' v l:=by
 obtain⟨xs,a0,cap,b,off,h0,h1,h2,h3,h4,h5⟩:=h;refine⟨xs,a0,cap,b,off,h0,h1,fun h0=>⟨(h2 h0).1,Nat.lt_of_lt_of_le (h2 h0).2 hb.size⟩,fun j hj i hi=>?_,h4,fun x hx=>⟨(h5 x hx).1.below hb,(h5 x hx).2.1.below hb,(h5 x hx).2.2⟩⟩;rw[hb.cell (p:=⟨b,off+j*8+i,none⟩) (h2 (by omega)).2];exact h3 j hj i hi
theorem evBox{w:World}{kd ps fl:Int}{nm ty vl:List UInt8}{u v:Value}{T:TypeId}:∀ W,Below (w.alloc (.cells #[.int .i64 kd,.string ⟨nm.toArray⟩,.int .i64 ps,.int .i64 fl,.string ⟨ty.toArray⟩,.string ⟨vl.toArray⟩,u,v] T)).heap.size (w.alloc (.cells #[.int .i64 kd,.string ⟨nm.toArray⟩,.int .i64 ps,.int .i64 fl,.string ⟨ty.toArray⟩,.string ⟨vl.toArray⟩,u,v] T)) W->W.cell? ⟨w.heap.size,0,none⟩=some (.int .i64 kd)/\W.cell? ⟨w.heap.size,1,none⟩=some (.string ⟨nm.toArray⟩)/\W.cell? ⟨w.heap.size,2,none⟩=some (.int .i64 ps)/\W.cell? ⟨w.heap.size,3,none⟩=some (.int .i64 fl)/\W.cell? ⟨w.heap.size,4,none⟩=some (.string ⟨ty.toArray⟩)/\W.cell? ⟨w.heap.size,5,none⟩=some (.string ⟨vl.toArray⟩)/\W.cell? ⟨w.heap.size,6,none⟩=some (u)/\W.cell? ⟨w.heap.size,7,none⟩=some (v):=by
 intro W hb;have h:=fun i=>hb.cell (p:=⟨w.heap.size,i,none⟩) (by simp);have k:=World.news_of_block (cs:=#[.int .i64 kd,.string ⟨nm.toArray⟩,.int .i64 ps,.int .i64 fl,.string ⟨ty.toArray⟩,.string ⟨vl.toArray⟩,u,v]) (t:=T) (fr:=(0,0)) (heap_alloc_new w _);exact⟨(h 0).trans (k 0 _ rfl),(h 1).trans (k 1 _ rfl),(h 2).trans (k 2 _ rfl),(h 3).trans (k 3 _ rfl),(h 4).trans (k 4 _ rfl),(h 5).trans (k 5 _ rfl),(h 6).trans (k 6 _ rfl),(h 7).trans (k 7 _ rfl)⟩
def En.size (e:En):Nat:=e.1.size+e.2.length+totLb e.2
noncomputable def yL (d:Dc) (n:List UInt8):Int :=
 if d.name=n then 0 else match d.ctors.findIdx? (fun c=>decide (c.1=n)) with
 |some k=>(k:Int)+1
 |none=>if d.kind=4/\d.name++46::sD=n then (d.ctors.length:Int)+1 else -1
theorem zP6{d:Dc}{n:List UInt8}(h:d.name=n):yL d n=0:=iP h
theorem zG0{d:Dc}{n:List UInt8}(h:d.name≠n){k:Nat}(hk:k<d.ctors.length)(h1:d.ctors[k].1=n)(h0:∀ j (hj:j<d.ctors.length),j<k->d.ctors[j].1≠n):yL d n=(k:Int)+1:=by
 unfold yL;rw[iN h];have e:d.ctors.findIdx? (fun c=>decide (c.1=n))=some k:=by
  rw[List.findIdx?_eq_some_iff_getElem];exact⟨hk,by simpa using h1,fun j hj=>by simpa using h0 j (by omega) hj⟩
 rw[e]
theorem zP5{d:Dc}{n:List UInt8}(h:d.name≠n)(h0:∀ j (hj:j<d.ctors.length),d.ctors[j].1≠n):yL d n=if d.kind=4/\d.name++46::sD=n then (d.ctors.length:Int)+1 else -1:=by
 unfold yL;rw[iN h];have e:d.ctors.findIdx? (fun c=>decide (c.1=n))=none:=by
  rw[List.findIdx?_eq_none_iff];intro x hx;obtain⟨j,hj,rfl⟩:=List.getElem_of_mem hx;simpa using h0 j hj
 rw[e]
theorem yC1(d:Dc)(n:List UInt8):-1<=yL d n/\yL d n<=(d.ctors.length:Int)+1:=by
 unfold yL;split
 ·omega
 ·split
  ·rename_i k hk;rw[List.findIdx?_eq_some_iff_getElem] at hk;obtain⟨hk,_⟩:=hk;omega
  ·split<;>omega
noncomputable def qN (n:List UInt8):List En->Nat->Int × Int × Int
|[],_=>(0,-1,0)
|e::es,i=>if 0<=yL e.1 n/\zJ e.1=true then
   (if yL e.1 n=0 then (e.1.kind,(i:Int),0) else if yL e.1 n - 1<(e.1.ctors.length:Int) then (5,(i:Int),yL e.1 n - 1) else (6,(i:Int),0))
  else qN n es (i+1)
noncomputable def yC (env:List En) (n:List UInt8):Int × Int × Int:=qN n env 0
theorem yE7{env:List En}{n:List UInt8}{k:Nat}(hk:k<env.length)(h:¬ (0<=yL env[k].1 n/\zJ env[k].1=true)):qN n (env.drop k) k=qN n (env.drop (k+1)) (k+1):=by
 rw[List.drop_eq_getElem_cons hk,qN,iN h]
theorem yP5{env:List En}{n:List UInt8}{k:Nat}(hk:k<env.length)(h:0<=yL env[k].1 n/\zJ env[k].1=true):qN n (env.drop k) k=(if yL env[k].1 n=0 then (env[k].1.kind,(k:Int),0) else if yL env[k].1 n - 1<(env[k].1.ctors.length:Int) then (5,(k:Int),yL env[k].1 n - 1) else (6,(k:Int),0)):=by
 rw[List.drop_eq_getElem_cons hk,qN,iP h]
theorem yP6{env:List En}{n:List UInt8}{k:Nat}(hk:env.length<=k):qN n (env.drop k) k=(0,-1,0):=by
 rw[List.drop_eq_nil_of_le hk,qN]
def vE (env:List En):Prop:=env.length<=1048576/\∀ e∈env,e.1.Small/\e.2.length<=1048576
theorem vE.ctors{env:List En}(h:vE env):∀ e∈env,e.1.ctors.length<=1048576/\e.2.length<=1048576:=fun e he=>⟨(h.2 e he).1.ctors,(h.2 e he).2⟩
theorem zL1{xs:List Ev}{env:List En}(hx:xs.map (fun x=>x.1)=env){k:Nat}(hk:k<env.length):∃ x:Ev,xs[k]?=some x/\x∈xs/\env[k]=x.1:=by
 have hl:xs.length=env.length:=by rw[← hx,List.length_map]
 refine⟨xs[k]'(by omega),List.getElem?_eq_getElem _,List.getElem_mem _,?_⟩;simp[← hx]
theorem nH{W:World}{B g cap n:Nat}{xs:List Ev}(h:W.ownsRow B 40 8 (.slice (some ⟨g,0,none⟩) n cap) n (rR xs)){k:Nat}{x:Ev}(hk:k<n)(hn:xs.length=n)(ex:xs[k]?=some x):∀ i,i<8->W.cell? ⟨g,k*8+i,none⟩=(rT x)[i]?:=fun i hi =>
 (h.cellAt (k*8+i) (by omega)).trans (by rw[yQ1 (by omega) i hi];rw[List.getElem?_eq_getElem (by omega)] at ex;rw[Option.some.inj ex])
theorem yU3.len{w:World}{v:Value}{env:List En}(h:yU3 w v env):∃ a c,v=.slice a env.length c:=by
 obtain⟨xs,a0,cap,b,off,h0,h1,_⟩:=h;exact⟨a0,cap,by rw[h1,← h0,List.length_map]⟩
def kS (env:List En):Prop:=∀ e∈env,-9223372036854775808<=e.1.flags/\e.1.flags<=9223372036854775807
theorem uL.len{w:World}{B:Nat}{v:Value}{env:List En}(h:uL w B v env):∃ a c,v=.slice a env.length c:=by
 obtain⟨xs,h0,h1,_⟩:=h;obtain⟨a,c,rfl⟩:=zK h1;exact⟨a,c,by rw[← h0,List.length_map]⟩
theorem zC2{w:World}{B:Nat}{v:Value}{env:List En}(h:uL w B v env){j:Nat}{e:En}(he:env[j]?=some e) :
  ∃ (g cap:Nat) (ua:Option Addr) (uc:Nat),v=.slice (some ⟨g,0,none⟩) env.length cap/\j<env.length/\w.ownsRow B 75 2 (.slice ua e.1.ctors.length uc) e.1.ctors.length (xM e.1.ctors) /\
   ∀ W,Below w.heap.size w W->W.cell? ⟨g,j*8,none⟩=some (.int .i64 e.1.kind)/\W.cell? ⟨g,j*8+1,none⟩=some (.string ⟨e.1.name.toArray⟩)/\W.cell? ⟨g,j*8+2,none⟩=some (.int .i64 e.1.params)/\W.cell? ⟨g,j*8+3,none⟩=some (.int .i64 e.1.flags)/\W.cell? ⟨g,j*8+4,none⟩=some (.string ⟨e.1.type.toArray⟩)/\W.cell? ⟨g,j*8+5,none⟩=some (.string ⟨e.1.value.toArray⟩)/\W.cell? ⟨g,j*8+6,none⟩=some (.slice ua e.1.ctors.length uc):=by
 obtain⟨xs,hx,hr,ho⟩:=h;have hlx:xs.length=env.length:=by rw[← hx,List.length_map]
 obtain⟨ra,rc,rfl⟩:=zK hr;rw[hlx] at hr |-;have hj:j<env.length:=by
  rw[List.getElem?_eq_some_iff] at he;exact he.1
 obtain⟨x,ex,mx,hek⟩:=zL1 hx hj;have hxe:e=x.1:=by
  rw[List.getElem?_eq_getElem hj] at he;rw[← Option.some.inj he,hek]
 subst hxe;obtain⟨g,cap,e0,_,hgl⟩:=hr.form (by omega);cases e0;have hox:=(ho x mx).1;obtain⟨⟨⟨kd,nm,ps,fl,ty,vl,cs⟩,ls⟩,u,vv⟩:=x;obtain⟨ua,uc,hu⟩:=zK hox;simp only at hu hox;subst hu;refine⟨g,_,ua,uc,rfl,hj,hox,fun W hW=>?_⟩;have a8:=nH (zA hr hW) hj hlx ex;exact⟨a8 0 (by decide),a8 1 (by decide),a8 2 (by decide),a8 3 (by decide),a8 4 (by decide),a8 5 (by decide),a8 6 (by decide)⟩
noncomputable def zX (env:List En):List (List UInt8):=env.flatMap fun e=>zO e.1
noncomputable def tW (env:List En):List (List UInt8):=srt (zX env)
theorem kB{env:List En}{k:Nat}(h:k<env.length):zX (env.take (k+1))=zX (env.take k)++zO env[k].1:=by
 unfold zX;rw[List.take_succ_eq_append_getElem h,List.flatMap_append];simp
theorem iI{env:List En}(k:Nat):(zX (env.take k)).length<=(zX env).length:=by
 conv=>rhs;rw[← List.take_append_drop k env]
 unfold zX;rw[List.flatMap_append,lA];omega
end Go.Proofs.YtgppcegcpiaocaaGreatDoor
namespace Go.Proofs.YtgppcegcpiaocaaGreatDoor.L
open Go.ChangeShapes Go.WideShapes Go.ChangeAt Go.RowKit
theorem zD4{w:World}{b:Nat}{v:Value}{l:List Lbl}(h:w.ownsRow b 125 2 v l.length (flat l))(hv:v≠.slice none 0 0):dK w v l:=by
 rcases h.2 with ⟨e,_⟩|⟨g,cap,cur,rfl,hb,hg,hn,hm,hs,ht⟩
 ·exact absurd e hv
 ·have hlt:g<w.heap.size:=(h.lt g rfl).2;refine⟨g,0,cap,rfl,hn,hm,hlt,fun j hj=>?_⟩;obtain⟨fa,fb⟩:=qO hj;rw[Nat.zero_add,h.cellAt (j*2) (by omega),h.cellAt (j*2+1) (by omega)];exact⟨fa,fb⟩
theorem specSortedOwn{w:World}{b:Nat}{v:Value}{l:List Lbl}(h:w.ownsRow b 125 2 v l.length (flat l))(hn:l.length<=2097152):Calls Tryz.prog 46 #[v] w (yU0 (srt ordL l) w):=by
 by_cases hv:v=.slice none 0 0
 ·subst hv;have h0:l.length=0:=by
   rcases h.2 with ⟨_,e⟩|⟨g,cap,cur,e,_⟩
   ·exact e
   ·cases e
  obtain rfl:l=[]:=List.length_eq_zero_iff.1 h0;obtain⟨i0,hi,hz0,hz1,hz2⟩:=info_parts yO5;have HR:=Ld (sK ordL (l:=[]) (by decide));clear h h0 hn;go_enter Tryz.func46,Tryz.ntmps46;go_wp2_with (at_builtin;refine wpList_append_own_none rfl _ _ 38 rfl w.heap.size 125 i0 2 Tryz.underlying38 hi _ 0 [] rfl (World.ownsRow_lit w #[] 0 (nR _) (by decide) (by simp)) rfl ?_);go_ret;rw[HR.out];exact⟨_,rfl,World.ownsRow_lit w #[] 0 (nR _) (by decide) (by simp),(bR _ _).alloc (nR _) _⟩
 ·exact zN7 _ l (nR _) hn w v (zD4 h hv)
end Go.Proofs.YtgppcegcpiaocaaGreatDoor.L
