/- QIm QIt QNaE QIe -/
import Derived.Maps.OwnIn
import Derived.Test.YtcaahdjhbmmcnaaGreatDoorTQD
import Derived.Test.YtcaahdjhbmmcnaaGreatDoorTQB
import Derived.Test.YtcaahdjhbmmcnaaGreatDoorTG1
import Derived.Test.YtcaahdjhbmmcnaaGreatDoorTQG
import Derived.Test.YtcaahdjhbmmcnaaGreatDoorTKQ
set_option maxRecDepth 100000
set_option maxHeartbeats 16000000
set_option linter.unusedSimpArgs false
set_option linter.unusedVariables false
namespace Go.Proofs.YtcaahdjhbmmcnaaGreatDoor
open Go.ChangeShapes Go.WideShapes Go.ChangeAt Go.RowKit
abbrev Pl:=Int × Int × Int × Int
def p3 (r:Pl):Int × Int × Int:=(r.1,r.2.1,r.2.2.1)
noncomputable def qH (d:Dc) (i k:Nat):Pl:=if k=0 then (d.kind,(i:Int),0,d.params) else if k<=d.ctors.length then (5,(i:Int),(k:Int) - 1,d.params) else (6,(i:Int),0,vX d)
noncomputable def nT (d:Dc) (i m:Nat) (n:List UInt8):Option Pl:=(((yA d).take m).findIdx? (fun x=>decide (x=n))).map (qH d i)
noncomputable def vZ (n:List UInt8):List En->Nat->Option Pl
|[],_=>none
|e::es,i=>(nT e.1 i (yA e.1).length n).or (vZ n es (i+1))
theorem zC8{d:Dc}(i:Nat)(n:List UInt8):nT d i (yA d).length n=if 0<=yV d n/\zT d=true then some (if yV d n=0 then (d.kind,(i:Int),0,d.params) else if yV d n - 1<(d.ctors.length:Int) then (5,(i:Int),yV d n - 1,d.params) else (6,(i:Int),0,vX d)) else none:=by
 unfold nT;rw[List.take_length];by_cases hok:zT d=true;rotate_left
 ·rw[iN (fun h=>hok h.2)];unfold yA;rw[iN hok];rfl
 unfold yA yV;rw[iP hok,List.cons_append,List.findIdx?_cons,List.findIdx?_append,List.findIdx?_map];have e0:((fun x=>decide (x=n)) ∘ fun c:Ct=>c.1)=(fun c:Ct=>decide (c.1=n)):=rfl;rw[e0];by_cases h0:d.name=n
 ·rw[iP h0,iP (by simpa using h0)];simp[qH,hok]
 rw[iN h0,iN (by simpa using h0)];cases hk:d.ctors.findIdx? (fun c=>decide (c.1=n)) with
|some k =>
  have hlt:k<d.ctors.length:=by
   rw[List.findIdx?_eq_some_iff_getElem] at hk;exact hk.1
  simp only[Option.some_or,Option.map_some];rw[iP ⟨by omega,hok⟩,iN (by omega),iP (by omega)];unfold qH;rw[iN (by omega),iP (by omega)];have e1:((k+1:Nat):Int) - 1=(k:Int):=(by omega);have e2:(k:Int)+1 - 1=(k:Int):=(by omega);rw[e1,e2]
|none =>
  simp only[Option.none_or];by_cases h4:d.kind=4
  ·rw[iP h4];by_cases hr:d.name++46::rP=n
   ·have e4:(if d.kind=4/\d.name++46::rP=n then (d.ctors.length:Int)+1 else -1)=(d.ctors.length:Int)+1:=iP ⟨h4,hr⟩;rw[e4,iP ⟨by omega,hok⟩,iN (by omega),iN (by omega)];have e3:([d.name++46::rP].findIdx? (fun x=>decide (x=n)))=some 0:=by
     rw[List.findIdx?_cons,iP (by simpa using hr)]
    rw[e3];simp only[Option.map_some,List.length_map];unfold qH;rw[iN (by omega),iN (by omega)]
   ·have e4:(if d.kind=4/\d.name++46::rP=n then (d.ctors.length:Int)+1 else -1)=-1:=iN (fun h=>hr h.2);rw[e4,iN (fun h=>absurd h.1 (by omega))];have e3:([d.name++46::rP].findIdx? (fun x=>decide (x=n)))=none:=by
     rw[List.findIdx?_cons,iN (by simpa using hr)];rfl
    rw[e3];rfl
  ·have e4:(if d.kind=4/\d.name++46::rP=n then (d.ctors.length:Int)+1 else -1)=-1:=iN (fun h=>h4 h.1);rw[e4,iN h4,iN (fun h=>absurd h.1 (by omega))];rfl
theorem dK{n:List UInt8}:∀ (es:List En) (i:Nat),oG n es i=p3 ((vZ n es i).getD (0,-1,0,-1))
|[],_=>rfl
|e::es,i=>by
  rw[oG,vZ,zC8,dK es (i+1)];split
  ·show _=p3 (ite _ _ _);rw[apply_ite p3,apply_ite p3];rfl
  ·rfl
theorem kR{n:List UInt8}(e:En):∀ (es:List En) (i:Nat),vZ n (es++[e]) i=(vZ n es i).or (nT e.1 (i+es.length) (yA e.1).length n)
|[],i=>by
  show (nT e.1 i (yA e.1).length n).or none=_;rw[Option.or_none];rfl
|a::es,i=>by
  rw[List.cons_append,vZ,kR e es (i+1),vZ,Option.or_assoc];have:i+1+es.length=i+(a::es).length:=(by simp only[lC];omega);rw[this]
theorem eX{d:Dc}{i m:Nat}{n:List UInt8}(hm:m<(yA d).length):nT d i (m+1) n=(nT d i m n).or (if (yA d)[m]=n then some (qH d i m) else none):=by
 unfold nT;rw[List.take_succ_eq_append_getElem hm,List.findIdx?_append];cases h:((yA d).take m).findIdx? (fun x=>decide (x=n)) with
|some k=>rfl
|none =>
  simp only[Option.none_or,Option.map_none];rw[List.findIdx?_cons];by_cases he:(yA d)[m]=n
  ·rw[iP (by simpa using he),iP he];simp only[Option.map_some];rw[List.length_take];have:0+min m (yA d).length=m:=(by omega);rw[this]
  ·rw[iN (by simpa using he),iN he];rfl
noncomputable def uX (env:List En) (k m:Nat) (n:List UInt8):Option Pl:=(vZ n (env.take k) 0).or (match env[k]? with
|some e=>nT e.1 k m n
|none=>none)
theorem oV{env:List En}{k:Nat}(n:List UInt8):uX env k 0 n=vZ n (env.take k) 0:=by
 unfold uX;have:(match env[k]? with
 |some e=>nT e.1 k 0 n
 |none=>none)=none:=by
  cases env[k]?<;>rfl
 rw[this,Option.or_none]
theorem zU7{env:List En}{k:Nat}(hk:k<env.length)(n:List UInt8):uX env k (yA env[k].1).length n=uX env (k+1) 0 n:=by
 rw[oV];unfold uX;rw[List.getElem?_eq_getElem hk,List.take_succ_eq_append_getElem hk,kR,List.length_take];have:0+min k env.length=k:=by omega
 rw[this]
theorem yB9{env:List En}{k m:Nat}(hk:k<env.length)(hm:m<(yA env[k].1).length){n:List UInt8}(h:(uX env k m (yA env[k].1)[m]).isSome=true):uX env k (m+1) n=uX env k m n:=by
 unfold uX at h |-;rw[List.getElem?_eq_getElem hk] at h |-;show (vZ n (env.take k) 0).or (nT env[k].1 k (m+1) n)=(vZ n (env.take k) 0).or (nT env[k].1 k m n);rw[eX hm];by_cases he:(yA env[k].1)[m]=n
 ·subst he;rw[← Option.or_assoc];exact Option.or_of_isSome h
 ·rw[iN he,Option.or_none]
theorem yB8{env:List En}{k m:Nat}(hk:k<env.length)(hm:m<(yA env[k].1).length){n:List UInt8}(h:(uX env k m (yA env[k].1)[m]).isSome=false):uX env k (m+1) n=if (yA env[k].1)[m]=n then some (qH env[k].1 k m) else uX env k m n:=by
 unfold uX at h |-;rw[List.getElem?_eq_getElem hk] at h |-;show (vZ n (env.take k) 0).or (nT env[k].1 k (m+1) n)=if _ then _ else (vZ n (env.take k) 0).or (nT env[k].1 k m n);rw[eX hm];by_cases he:(yA env[k].1)[m]=n
 ·subst he;rw[iP rfl,iP rfl,← Option.or_assoc];have h1:(vZ (yA env[k].1)[m] (env.take k) 0).or (nT env[k].1 k m (yA env[k].1)[m])=none:=by
   rw[Option.isSome_eq_false_iff,Option.isNone_iff_eq_none] at h;exact h
  rw[h1,Option.none_or]
 ·rw[iN he,iN he,Option.or_none]
theorem yC0{env:List En}(n:List UInt8):vN env n=p3 ((uX env env.length 0 n).getD (0,-1,0,-1)):=by
 rw[oV,List.take_length];exact dK env 0
theorem zC7{env:List En}{n:List UInt8}:∀ (es:List En) (i:Nat),env.drop i=es->((vZ n es i).getD (0,-1,0,-1)).2.2.2=tK env (p3 ((vZ n es i).getD (0,-1,0,-1)))
|[],_,_=>rfl
|e::es,i,hd=>by
  have he:env[i]?=some e:=by
   have:=congrArg (fun l=>l[0]?) hd;simpa using this
  have hn:env.drop (i+1)=es:=by
   rw[← List.drop_drop,hd];rfl
  have ih:=zC7 (n:=n) es (i+1) hn;rw[vZ,zC8];split
  ·rename_i h;have hkd:=pJ h.2;show (ite _ _ _:Pl).2.2.2=tK env (p3 (ite _ _ _));split
   ·rw[mS he rfl (by show e.1.kind≠0;omega),iN (by show ¬ e.1.kind=6;omega)]
   ·split
    ·rw[mS he rfl (by show (5:Int)≠0;decide),iN (by show ¬ (5:Int)=6;decide)]
    ·rw[mS he rfl (by show (6:Int)≠0;decide),iP (show (p3 (6,(i:Int),0,vX e.1)).1=6 from rfl)]
  ·exact ih
noncomputable def xH6 (env:List En) (n:List UInt8):Pl:=((vN env n).1,(vN env n).2.1,(vN env n).2.2,iX env n)
theorem yB7{env:List En}(n:List UInt8):(uX env env.length 0 n).getD (0,-1,0,-1)=xH6 env n:=by
 have h1:=yC0 (env:=env) n;have h2:=zC7 (n:=n) env 0 (by rw[List.drop_zero]);rw[oV,List.take_length] at h1 |-;rw[← h1] at h2;unfold xH6 iX;rw[← h2,h1];rfl
theorem kQ(d:Dc):(yA d).length<=d.ctors.length+2:=by
 unfold yA;split
 ·rw[lA,lC,List.length_map];split<;>simp<;>omega
 ·simp
theorem cY{env:List En}(h:∀ e∈env,e.1.ctors.length<=1048576):(vU env).length<=env.length*1048578:=by
 induction env with
|nil=>simp[vU]
|cons e es ih =>
  have h1:=kQ e.1;have h2:=h e (List.mem_cons_self ..);have h3:=ih (fun x hx=>h x (List.mem_cons_of_mem _ hx));unfold vU at h3 |-;rw[List.flatMap_cons,lA,lC];omega
end Go.Proofs.YtcaahdjhbmmcnaaGreatDoor
namespace Go.Proofs.YtcaahdjhbmmcnaaGreatDoor
open Go.ChangeShapes Go.WideShapes Go.ChangeAt Go.RowKit Go.Maps
def yO (r:Pl):Value:=.agg #[.int .i64 r.1,.int .i64 r.2.1,.int .i64 r.2.2.1,.int .i64 r.2.2.2]
def kP (r:Pl):DataW Unit:=.agg [.lit (.int .i64 r.1),.lit (.int .i64 r.2.1),.lit (.int .i64 r.2.2.1),.lit (.int .i64 r.2.2.2)]
theorem zA7{r s:Pl}(h:yO r=yO s):r=s:=by
 obtain⟨a,b,c,d⟩:=r;obtain⟨x,y,z,v⟩:=s;unfold yO at h;simp at h;obtain⟨rfl,rfl,rfl,rfl⟩:=h;rfl
theorem eR{r s:Pl}(h:kP r=kP s):r=s:=by
 obtain⟨a,b,c,d⟩:=r;obtain⟨x,y,z,v⟩:=s;unfold kP at h;simp at h;obtain⟨rfl,rfl,rfl,rfl⟩:=h;rfl
open Classical in
noncomputable def pY (v:Value):Option (DataW Unit × List MemPlace):=if h:∃ r,v=yO r then some (kP h.choose,[]) else none
theorem kO(r:Pl):pY (yO r)=some (kP r,[]):=by
 have h:∃ s,yO r=yO s:=⟨r,rfl⟩;unfold pY;rw[dif_pos h,← zA7 h.choose_spec]
theorem cJ{v:Value}{z:DataW Unit × List MemPlace}(h:pY v=some z):∃ r,v=yO r/\z=(kP r,[]):=by
 unfold pY at h;split at h
 ·rename_i hx;exact⟨_,hx.choose_spec,(Option.some.inj h).symm⟩
 ·cases h
theorem cK(X:World)(r:Pl){n:Nat}(hn:n=X.heap.size):(X.alloc (.cells #[.int .i64 r.1,.int .i64 r.2.1,.int .i64 r.2.2.1,.int .i64 r.2.2.2] 58)).cell? ⟨n,0,none⟩=some (.int .i64 r.1)/\(X.alloc (.cells #[.int .i64 r.1,.int .i64 r.2.1,.int .i64 r.2.2.1,.int .i64 r.2.2.2] 58)).cell? ⟨n,1,none⟩=some (.int .i64 r.2.1)/\(X.alloc (.cells #[.int .i64 r.1,.int .i64 r.2.1,.int .i64 r.2.2.1,.int .i64 r.2.2.2] 58)).cell? ⟨n,2,none⟩=some (.int .i64 r.2.2.1)/\(X.alloc (.cells #[.int .i64 r.1,.int .i64 r.2.1,.int .i64 r.2.2.1,.int .i64 r.2.2.2] 58)).cell? ⟨n,3,none⟩=some (.int .i64 r.2.2.2):=by
 subst hn;have k:=World.news_of_block (cs:=#[.int .i64 r.1,.int .i64 r.2.1,.int .i64 r.2.2.1,.int .i64 r.2.2.2]) (t:=58) (fr:=(0,0)) (heap_alloc_new X _);exact⟨k 0 _ rfl,k 1 _ rfl,k 2 _ rfl,k 3 _ rfl⟩
theorem zA8(X:World)(r:Pl)(o:Obj){n:Nat}(hn:n=X.heap.size):((X.alloc (.cells #[.int .i64 r.1,.int .i64 r.2.1,.int .i64 r.2.2.1,.int .i64 r.2.2.2] 58)).alloc o).cell? ⟨n,0,none⟩=some (.int .i64 r.1)/\((X.alloc (.cells #[.int .i64 r.1,.int .i64 r.2.1,.int .i64 r.2.2.1,.int .i64 r.2.2.2] 58)).alloc o).cell? ⟨n,1,none⟩=some (.int .i64 r.2.1)/\((X.alloc (.cells #[.int .i64 r.1,.int .i64 r.2.1,.int .i64 r.2.2.1,.int .i64 r.2.2.2] 58)).alloc o).cell? ⟨n,2,none⟩=some (.int .i64 r.2.2.1)/\((X.alloc (.cells #[.int .i64 r.1,.int .i64 r.2.1,.int .i64 r.2.2.1,.int .i64 r.2.2.2] 58)).alloc o).cell? ⟨n,3,none⟩=some (.int .i64 r.2.2.2):=by
 have h:=fun i=>((bR _ (X.alloc (.cells #[.int .i64 r.1,.int .i64 r.2.1,.int .i64 r.2.2.1,.int .i64 r.2.2.2] 58))).alloc (nR _) o).cell (p:=⟨n,i,none⟩) (by subst hn;simp);obtain⟨a,b,c,d⟩:=cK X r hn;exact⟨(h 0).trans a,(h 1).trans b,(h 2).trans c,(h 3).trans d⟩
theorem yV9:Keyed Tryz.prog 9:=string_keyed Tryz.underlying9
theorem xC7(w:World):(zeroValue 58).run Tryz.prog w=.ok (yO (0,0,0,0)) w:=by kernel_rfl
theorem zQ9(l:List UInt8):WideAt.IsKeyLit (.string l):=by
 unfold WideAt.IsKeyLit;trivial
def TabIs (w:World) (b m:Nat) (G:List UInt8->Option Pl):Prop :=
 ∃ D:DataW Unit,w.ownsMap Tryz.prog 9 pY b m D/\∀ l,Maps.has D (.string l)=(G l).isSome/\∀ r,G l=some r->D.atKey (.string l) (kP (0,0,0,0))=kP r
theorem TabIs.congr{w:World}{b m:Nat}{G G':List UInt8->Option Pl}(h:TabIs w b m G)(e:∀ l,G l=G' l):TabIs w b m G':=by
 obtain rfl:G=G':=funext e;exact h
theorem TabIs.mono{w:World}{b m m':Nat}{G:List UInt8->Option Pl}(h:TabIs w b m G)(e:m<=m'):TabIs w b m' G:=by
 obtain⟨D,h1,h2⟩:=h;exact⟨D,h1.mono e,h2⟩
theorem TabIs.lt{w:World}{b m:Nat}{G:List UInt8->Option Pl}(h:TabIs w b m G):b<w.heap.size:=by
 obtain⟨D,h1,h2⟩:=h;exact h1.lt
theorem TabIs.kept{w w':World}{row:Option Nat}{b m:Nat}{G:List UInt8->Option Pl}(h:TabIs w b m G)(hg:w.grownBy w' row)(hne:some b≠row):TabIs w' b m G:=by
 obtain⟨D,h1,h2⟩:=h;exact⟨D,h1.kept hg hne,h2⟩
theorem TabIs.below{w w':World}{b m:Nat}{G:List UInt8->Option Pl}(h:TabIs w b m G)(hb:Below w.heap.size w w'):TabIs w' b m G:=h.kept (zC hb none) (by simp)
theorem TabIs.setCell{w:World}{b m:Nat}{G:List UInt8->Option Pl}(h:TabIs w b m G){a:Addr}(ha:b≠a.block)(u:Value):TabIs (w.setCell a u) b m G:=by
 obtain⟨D,h1,h2⟩:=h;exact⟨D,h1.setCell ha u,h2⟩
theorem yX9(w:World):TabIs (w.alloc (.map #[] 0)) w.heap.size 0 (fun _=>none):=⟨.map [],World.ownsMap_made _ _ _ _,fun l=>⟨rfl,fun r h=>by cases h⟩⟩
theorem TabIs.look{w:World}{b m:Nat}{G:List UInt8->Option Pl}(h:TabIs w b m G){s:List UInt8}(hs:s.length<=maxLen) :
  (Instr.lookup 59 (.map (some b)) (.string ⟨s.toArray⟩) true).run Tryz.prog w=.ok (.tuple #[yO ((G s).getD (0,0,0,0)),.bool (G s).isSome]) w:=by
 obtain⟨D,h1,h2⟩:=h;have hkey:keyOf Tryz.prog 9 (.string ⟨s.toArray⟩)=some (.string s):=by
  have:=Go.WideMaps.keyOf_string_mk (P:=Tryz.prog) (k:=9) Tryz.underlying9 (s:=⟨s.toArray⟩) hs;simpa using this
 obtain⟨v,ps,hrun,hv⟩:=h1.look_ok yV9 Tryz.underlying59 (xC7 w) (kO _) hkey;obtain⟨r,rfl,hr⟩:=cJ hv;rw[hrun,(h2 s).1];have hr1:=congrArg Prod.fst hr;simp only at hr1;cases hG:G s with
|some r' =>
  rw[(h2 s).2 r' hG] at hr1;rw[eR hr1];rfl
|none =>
  have hh:Maps.has D (.string s)=false:=(by rw[(h2 s).1,hG];rfl);rw[atKey_of_not_has hh] at hr1;rw[← eR hr1];rfl
theorem TabIs.store{w:World}{b m:Nat}{G:List UInt8->Option Pl}(h:TabIs w b m G)(hm:m<maxLen){s:List UInt8}(hs:s.length<=maxLen)(r:Pl) :
  ∃ w',(Instr.mapUpdate 59 (.map (some b)) (.string ⟨s.toArray⟩) (yO r)).run Tryz.prog w=.ok () w'/\TabIs w' b (m+1) (fun l=>if s=l then some r else G l)/\w.grownBy w' (some b):=by
 obtain⟨D,h1,h2⟩:=h;have hkey:keyOf Tryz.prog 9 (.string ⟨s.toArray⟩)=some (.string s):=by
  have:=Go.WideMaps.keyOf_string_mk (P:=Tryz.prog) (k:=9) Tryz.underlying9 (s:=⟨s.toArray⟩) hs;simpa using this
 obtain⟨w',hrun,r1,r2⟩:=h1.update yV9 Tryz.underlying59 hm hkey (kO r);refine⟨w',hrun,⟨_,r1,fun l=>?_⟩,r2⟩;show Maps.has _ _=(if s=l then some r else G l).isSome/\∀ r',(if s=l then some r else G l)=some r'->_;by_cases e:s=l
 ·subst e;rw[iP rfl];exact⟨has_put_same h1.isMap (zQ9 _) _,fun r' hr'=>by cases hr';exact atKey_put_same h1.isMap (zQ9 _) _ _⟩
 ·have hne:(Lit.string l)≠(Lit.string s):=fun h=>e (by cases h;rfl);rw[iN e,has_put_other hne,atKey_put_other hne];exact h2 l
end Go.Proofs.YtcaahdjhbmmcnaaGreatDoor
namespace Go.Proofs.YtcaahdjhbmmcnaaGreatDoor
open Go.ChangeShapes Go.WideShapes Go.ChangeAt Go.RowKit
theorem zB3{d:Dc}(hs:d.Small){x:List UInt8}(hx:x∈yA d):x.length<=281474976710656:=by
 have s1:=hs.name;have s5:=hs.each;unfold yA at hx;split at hx
 ·rw[List.cons_append,List.mem_cons,List.mem_append] at hx;rcases hx with rfl|hx|hx
  ·omega
  ·obtain⟨c,hc,rfl⟩:=List.mem_map.1 hx;have:=(s5 c hc).1;omega
  ·split at hx
   ·rw[List.mem_singleton] at hx;subst hx;simp[rP];omega
   ·cases hx
 ·cases hx
theorem zM6{d:Dc}{B:Nat}{u:Value}(i k:Nat)(hi:i<=1048576)(hk:k<=1048580){w:World}(h:w.ownsRow B 88 2 u d.ctors.length (xJ d.ctors))(hs:d.Small)(hr:d.Rng)(hv:Vars w)(hm:MaxLenInt w) :
  Rt 52 #[d.val u,.int .i64 i,.int .i64 k] w (yO (qH d i k)):=by
 obtain⟨ua,uc,rfl⟩:=zF h;have hc:=hs.ctors;have FR:=Ld fun (W:World) (hW:Below w.heap.size w W)=>bE (zA h hW) hs hr (hv.below hW) (hm.below hW);clear h hs hr hv hm;obtain⟨rl,hrl⟩:∃ rl,vX d=rl:=⟨_,rfl⟩;obtain⟨kd,nm,ps,fl,ty,vl,cs⟩:=d;have hval:=mE kd nm ps fl ty vl cs (.slice ua cs.length uc);simp only[hrl] at hc FR;rw[hval] at FR |-;clear hval;have HB:=Ld ((zG w (dC kd nm ps fl ty vl (.slice ua cs.length uc) 52)));go_enter Tryz.func52,Tryz.ntmps52;by_cases k0:k=0
 ·subst k0;clear FR hrl;go_wp2;obtain⟨r0,r1,r2,r3⟩:=cK (w.alloc (dC kd nm ps fl ty vl (.slice ua cs.length uc) 52)) (kd,(i:Int),0,ps) (n:=w.heap.size+1) (by simp);refine bodyPost_ret (v:=yO (kd,(i:Int),0,ps)) (by simp[results,Tryz.results52,go_sem,r0,r1,r2,r3,yO]) rfl ⟨rfl,HB.out.alloc HB.out.size _⟩
 have e0:((k:Int)==0)=false:=by rw[bF];omega
 by_cases k1:k<=cs.length
 ·have e1:decide ((k:Int)<=(cs.length:Int))=true:=dT (by omega);have hV:qH ⟨kd,nm,ps,fl,ty,vl,cs⟩ i k=(5,(i:Int),(k:Int) - 1,ps):=by
   unfold qH;rw[iN k0,iP k1]
  rw[hV];clear FR hrl;go_wp2;obtain⟨r0,r1,r2,r3⟩:=cK (w.alloc (dC kd nm ps fl ty vl (.slice ua cs.length uc) 52)) (5,(i:Int),(k:Int) - 1,ps) (n:=w.heap.size+1) (by simp);refine bodyPost_ret (v:=yO (5,(i:Int),(k:Int) - 1,ps)) (by simp[results,Tryz.results52,go_sem,r0,r1,r2,r3,yO]) rfl ⟨rfl,HB.out.alloc HB.out.size _⟩
 ·have e1:decide ((k:Int)<=(cs.length:Int))=false:=dF (by omega);have hV:qH ⟨kd,nm,ps,fl,ty,vl,cs⟩ i k=(6,(i:Int),0,rl):=by
   unfold qH;rw[iN k0,iN k1,hrl]
  rw[hV];clear hrl;have HB2:=Ld (HB.out.alloc HB.out.size (.cells #[.int .i64 0,.int .i64 0,.int .i64 0,.int .i64 0] 58));have f1:=Ld (FR.out _ HB2.out);have HN:=Ld (heap_alloc_new (w.alloc (dC kd nm ps fl ty vl (.slice ua cs.length uc) 52)) (.cells #[.int .i64 0,.int .i64 0,.int .i64 0,.int .i64 0] 58));rw[show (w.alloc (dC kd nm ps fl ty vl (.slice ua cs.length uc) 52)).heap.size=w.heap.size+1 by simp] at HN;clear FR;go_wp2_with fail;(with_reducible refine mo f1.out fun w1 hb1=>?_);have b0:=(hb1.block (w.heap.size+1) (by simp)).trans HN.out;have HB3:=bt HB2.out hb1;have y0:w1.cell? ⟨w.heap.size+1,0,none⟩=some (.int .i64 0):=cell_of_row _ _ _ _ _ _ b0;have y1:w1.cell? ⟨w.heap.size+1,1,none⟩=some (.int .i64 0):=cell_of_row _ _ _ _ _ _ b0;have y2:w1.cell? ⟨w.heap.size+1,2,none⟩=some (.int .i64 0):=cell_of_row _ _ _ _ _ _ b0;have y3:w1.cell? ⟨w.heap.size+1,3,none⟩=some (.int .i64 0):=cell_of_row _ _ _ _ _ _ b0;have z0:w1.frozen? ⟨w.heap.size+1,0,none⟩=false:=(by simp[World.frozen?,b0]);have z1:w1.frozen? ⟨w.heap.size+1,1,none⟩=false:=(by simp[World.frozen?,b0]);have z2:w1.frozen? ⟨w.heap.size+1,2,none⟩=false:=(by simp[World.frozen?,b0]);have z3:w1.frozen? ⟨w.heap.size+1,3,none⟩=false:=(by simp[World.frozen?,b0]);clear f1 hb1 HN b0;go_wp2;refine bodyPost_ret (v:=yO (6,(i:Int),0,rl)) (by simp[results,Tryz.results52,go_sem,y0,y1,y2,y3,z0,z1,z2,z3,yO]) rfl ⟨rfl,(((HB3.out.setCell (Nat.le_succ _) _).setCell (Nat.le_succ _) _).setCell (Nat.le_succ _) _).setCell (Nat.le_succ _) _⟩
theorem xF3{w:World}{s:Value}{m:Value}:∀ W,Below (w.alloc (.cells #[s,m] 61)).heap.size (w.alloc (.cells #[s,m] 61)) W->W.cell? ⟨w.heap.size,0,none⟩=some s/\W.cell? ⟨w.heap.size,1,none⟩=some m:=by
 intro W hb;have h:=fun i=>hb.cell (p:=⟨w.heap.size,i,none⟩) (by simp);have k:=World.news_of_block (cs:=#[s,m]) (t:=61) (fr:=(0,0)) (heap_alloc_new w _);exact⟨(h 0).trans (k 0 _ rfl),(h 1).trans (k 1 _ rfl)⟩
theorem xF2(w:World)(s:Value):∃ W3,((w.alloc (.cells #[.slice none 0 0,.map none] 61)).alloc (.map #[] 0)).alloc (.cells #[s,.map (some (w.heap.size+1))] 61)=W3/\W3.heap.size=w.heap.size+3/\Below w.heap.size w W3/\TabIs W3 (w.heap.size+1) 0 (fun _=>none) /\
  ∀ wr,W3.grownBy wr (some (w.heap.size+1))->(wr.cell? ⟨w.heap.size+1+1,0,none⟩=some s/\wr.cell? ⟨w.heap.size+1+1,1,none⟩=some (.map (some (w.heap.size+1))))/\(wr.cell? ⟨w.heap.size,0,none⟩=some (.slice none 0 0)/\wr.cell? ⟨w.heap.size,1,none⟩=some (.map none))/\wr.frozen? ⟨w.heap.size,0,none⟩=false/\wr.frozen? ⟨w.heap.size,1,none⟩=false:=by
 refine⟨_,rfl,by simp,((zG w _).alloc (by simp) _).alloc (by simp;omega) _,?_,fun wr hg=>?_⟩
 ·have h:=yX9 (w.alloc (.cells #[.slice none 0 0,.map none] 61));rw[show (w.alloc (.cells #[.slice none 0 0,.map none] 61)).heap.size=w.heap.size+1 by simp] at h;exact h.below ((bR _ _).alloc (nR _) _)
 ·have hA:=(((bR _ (w.alloc (.cells #[.slice none 0 0,.map none] 61))).alloc (nR _) (.map #[] 0)).alloc (by simp) (.cells #[s,.map (some (w.heap.size+1))] 61));have b0:=(hg.block w.heap.size (by simp;omega) (by simp)).trans ((hA.block w.heap.size (by simp)).trans (heap_alloc_new w _));have e2:((w.alloc (.cells #[.slice none 0 0,.map none] 61)).alloc (.map #[] 0)).heap.size=w.heap.size+1+1:=(by simp);have hN:=heap_alloc_new ((w.alloc (.cells #[.slice none 0 0,.map none] 61)).alloc (.map #[] 0)) (.cells #[s,.map (some (w.heap.size+1))] 61);rw[e2] at hN;have b2:=(hg.block (w.heap.size+1+1) (by simp) (by simp)).trans hN;exact⟨⟨cell_of_row _ _ _ _ _ _ b2,cell_of_row _ _ _ _ _ _ b2⟩,⟨cell_of_row _ _ _ _ _ _ b0,cell_of_row _ _ _ _ _ _ b0⟩,by simp[World.frozen?,b0],by simp[World.frozen?,b0]⟩
theorem yH6{w:World}{B:Nat}{v:Value}{env:List En}(h:sJ w B v env)(hs:xU env)(hr:zI4 env)(hv:Vars w)(hm:MaxLenInt w) :
  Calls Tryz.prog 30 #[v] w fun e w'=>∃ b,e=.returned (.agg #[v,.map (some b)])/\TabIs w' b (vU env).length (uX env env.length 0)/\Below w.heap.size w w':=by
 obtain⟨xs,hx,hrow,ho⟩:=h;have hlx:xs.length=env.length:=by rw[← hx,List.length_map]
 obtain⟨ra,rc,rfl⟩:=zF hrow;rw[hlx] at hrow |-;have hlen:=hs.1;have HAT:=Ld fun (k:Nat) (hk:k<env.length)=>zG0 hx hk;have HS:=Ld hs.2;have HRg:=Ld hr;have HR:=Ld hrow;have HO:=Ld ho;have HL:=Ld hlx;have HV:=Ld hv;have HM:=Ld hm;have HKL:=Ld fun k=>Nat.le_trans (zD1 (env:=env) k) (cY fun e he=>(hs.2 e he).1.ctors);have HKS:=Ld fun (k:Nat) (hk:k<env.length)=>congrArg List.length (cX hk);obtain⟨W3,hW3,z3,hB3,hT3,hX3⟩:=xF2 w (.slice ra env.length rc);have HB3:=Ld hB3;have HT3:=Ld hT3;have HX3:=Ld hX3;clear hrow ho hx hlx hs hr hv hm hB3 hT3 hX3;have hmm:=@run_makeMap Tryz.prog;go_enter Tryz.func30,Tryz.ntmps30;go_wp2;clear hW3 hmm;go_loopw [15] (fun i wr=>∃ k:Nat,k<=env.length/\i=.int .i64 k/\Hid (TabIs wr (w.heap.size+1) (vU (env.take k)).length (uX env k 0))/\Hid (W3.grownBy wr (some (w.heap.size+1)))) (fun i _=>env.length - (intOf i).toNat)
 case atStart=>exact⟨0,Nat.zero_le _,rfl,HT3.out.congr fun l=>(oV (env:=env) (k:=0) l).symm,World.grownBy.refl _ _⟩
 case round =>
  obtain⟨k,hk,rfl,HT,HG⟩:=hrel;clear HT3;have HW:=Ld (HB3.out.grown HG.out (by omega) (fun q hq=>by cases hq;omega));have hzw:=HG.out.size;by_cases hlt:k<env.length;rotate_left
  ·obtain rfl:k=env.length:=(by omega);rw[List.take_length] at HT;obtain⟨⟨x0,x1⟩,⟨y0,y1⟩,y2,y3⟩:=HX3.out _ HG.out;clear HAT HS HRg HR HO HL HV HM HKL HKS;go_wp2;refine bodyPost_ret (v:=.agg #[.slice ra env.length rc,.map (some (w.heap.size+1))]) (by simp[results,Tryz.results30,go_sem,y0,y1,y2,y3]) rfl ⟨_,rfl,(HT.out.setCell (by simp) _).setCell (by simp) _,(HW.out.setCell (nR _) _).setCell (nR _) _⟩
  obtain⟨x,ex,mx,hek⟩:=HAT.out k hlt;have hsm:=(HS.out _ (List.getElem_mem hlt)).1;have hrg:=HRg.out _ (List.getElem_mem hlt);have hKS:=HKS.out k hlt;have hKL:=HKL.out (k+1);have HTH:Hid (∀ m (hm:m<(yA env[k].1).length) n,(uX env k m (yA env[k].1)[m]).isSome=true->uX env k (m+1) n=uX env k m n):=fun m hm n h=>yB9 hlt hm h;have HTN:Hid (∀ m (hm:m<(yA env[k].1).length) n,(uX env k m (yA env[k].1)[m]).isSome=false->uX env k (m+1) n=if (yA env[k].1)[m]=n then some (qH env[k].1 k m) else uX env k m n):=fun m hm n h=>yB8 hlt hm h;have HTE:Hid (∀ n,uX env k (yA env[k].1).length n=uX env (k+1) 0 n):=fun n=>zU7 hlt n;have HNL:Hid (∀ x∈yA env[k].1,x.length<=281474976710656):=fun x hx=>zB3 hsm hx;rw[hek] at hsm hrg hKS HTH HTN HTE HNL;obtain⟨g,cap,e0,_,hgl⟩:=HR.out.form (by omega);cases e0;have a8:=oI (zA HR.out HW.out) hlt HL.out ex;have p0:=a8 0 (by decide);have p1:=a8 1 (by decide);have p2:=a8 2 (by decide);have p3:=a8 3 (by decide);have p4:=a8 4 (by decide);have p5:=a8 5 (by decide);have p6:=a8 6 (by decide);have p7:=a8 7 (by decide);have hox:=((HO.out x mx).below HW.out).1;have hoy:=((HO.out x mx).below HW.out).2;have HV1:=Ld (HV.out.below HW.out);have HM1:=Ld (HM.out.below HW.out);have hc:=hsm.ctors;have FN:=Ld fun (W:World) (hW:Below wr.heap.size wr W)=>zM9 (zA hox hW) hsm ⟨hrg.1,hrg.2⟩ (HV1.out.below hW) (HM1.out.below hW)
  have FP:=Ld fun (W:World) (hW:Below w.heap.size w W) (i m:Nat) (hi:i<=1048576) (hm:m<=1048580)=>zM6 i m hi hm ((HO.out x mx).below hW).1 hsm ⟨hrg.1,hrg.2⟩ (HV.out.below hW) (HM.out.below hW);clear a8 ex mx hek HAT HS HR HO HL HV HM HKL HKS HV1 HM1 hrg HRg;have hnl:=kQ x.1.1;obtain⟨⟨⟨kd,nm,ps,fl,ty,vl,cs⟩,ls⟩,u,vv⟩:=x;obtain⟨ua,uc,hu⟩:=zF hox;obtain⟨va,vc,hu2⟩:=zF hoy;simp only at hu hu2;subst hu hu2;clear hoy;have hval:=mE kd nm ps fl ty vl cs (.slice ua cs.length uc);simp only[hval] at FN FP;simp only at hKS HTH HTN HTE HNL hc hnl;simp only[uJ,sv,List.getElem?_cons_zero,List.getElem?_cons_succ,Nat.add_zero,Nat.zero_add] at p0 p1 p2 p3 p4 p5 p6 p7;have t1:=zn k;have t2:(k:Int)<(env.length:Int):=(by omega);clear hox hsm hval;generalize hD:(⟨kd,nm,ps,fl,ty,vl,cs⟩:Dc)=d at FN FP hKS HTH HTN HTE HNL hnl;have HB5:=Ld (zG wr (.cells #[.int .i64 kd,.string ⟨nm.toArray⟩,.int .i64 ps,.int .i64 fl,.string ⟨ty.toArray⟩,.string ⟨vl.toArray⟩,.slice ua cs.length uc,.slice va ls.length vc] 55));have f1:=Ld (FN.out _ HB5.out);have HE5:=Ld (yI6 (w:=wr) (kd:=kd) (ps:=ps) (fl:=fl) (nm:=nm) (ty:=ty) (vl:=vl) (u:=.slice ua cs.length uc) (v:=.slice va ls.length vc) (T:=55));clear FN;go_wp2_with fail;(with_reducible refine f1.out.mono ?_);rintro e w5 ⟨v5,rfl,hv5,hb5⟩;have HW5:=bt HB5.out hb5;have HG5:=Ld (HG.out.trans (zC HW5.out (some (w.heap.size+1))));have HT5:=Ld (HT.out.below HW5.out);have hX5:=HE5.out _ hb5;have hz5:=hb5.size
  rw[show (wr.alloc (.cells #[.int .i64 kd,.string ⟨nm.toArray⟩,.int .i64 ps,.int .i64 fl,.string ⟨ty.toArray⟩,.string ⟨vl.toArray⟩,.slice ua cs.length uc,.slice va ls.length vc] 55)).heap.size=wr.heap.size+1 by simp] at hv5 hz5;obtain⟨na,nc,rfl⟩:=zF hv5;have HN:=Ld hv5;have HX5:=Ld hX5;clear hv5 hb5 hX5 f1 HB5 HE5 HT HG p0 p1 p2 p3 p4 p5 p6 p7;generalize hK:(vU (env.take k)).length=K at HT5 hKS;generalize hNl:yA d=nl at HN hKS HTH HTN HTE HNL hnl;rw[lA,hK] at hKS;obtain⟨wa,rfl⟩:∃ wa,wa=wr:=⟨_,rfl⟩;go_wp2;go_loopw [24] (fun i wr=>∃ m:Nat,m<=nl.length/\i=.int .i64 m/\Hid (TabIs wr (w.heap.size+1) (K+m) (uX env k m))/\Hid (w5.grownBy wr (some (w.heap.size+1)))) (fun i _=>nl.length - (intOf i).toNat)
  case atStart=>exact⟨0,Nat.zero_le _,rfl,HT5.out,World.grownBy.refl _ _⟩
  case round =>
   obtain⟨m,hm,rfl,HT6,HG6⟩:=hrel;have HG36:=Ld (HG5.out.trans HG6.out);have HWi:=Ld (HB3.out.grown HG36.out (by omega) (fun q hq=>by cases hq;omega));by_cases hml:m<nl.length;rotate_left
   ·obtain rfl:m=nl.length:=(by omega);have HT7:=Ld ((HT6.out.congr HTE.out).mono (m':=(vU (env.take (k+1))).length) (by omega));clear HTH HTN HTE HNL HN HX5 HX3 HT5 HT6;go_wp2;go_roundw
    case rel=>exact⟨k+1,by omega,by go_num,HT7.out,HG36.out⟩
    case measure=>simp[intOf];omega
   obtain⟨⟨x0,x1⟩,-⟩:=HX3.out _ HG36.out;have hzz:=HG6.out.size;have F6:=Ld fun i (hi:i<8)=>HG6.out.cell_far ⟨wa.heap.size,i,none⟩ (by show wa.heap.size<_;omega) (by show some wa.heap.size≠_;rw[ne_eq,Option.some.injEq];omega);obtain⟨d0,d1,d2,d3,d4,d5,d6,d7⟩:=HX5.out;rw[← F6.out 0 (by decide)] at d0;rw[← F6.out 1 (by decide)] at d1;rw[← F6.out 2 (by decide)] at d2;rw[← F6.out 3 (by decide)] at d3;rw[← F6.out 4 (by decide)] at d4;rw[← F6.out 5 (by decide)] at d5;rw[← F6.out 6 (by decide)] at d6;have hN6:=HN.out.kept HG6.out (.inr (fun e=>by have:=(HN.out.lt _ e).1;omega));obtain⟨gn,cn,en,_,hgn⟩:=hN6.form (by omega);cases en;have s0:=hN6.cellAt m (by omega);rw[List.getElem?_map,List.getElem?_eq_getElem hml] at s0;have hsl:=HNL.out _ (List.getElem_mem hml);have HH:=Ld fun n h=>HTH.out m hml n h;have HI:=Ld fun n h=>HTN.out m hml n h;have u1:=zn m;have u2:(m:Int)<(nl.length:Int):=(by omega);generalize nl[m]=s at s0 hsl HH HI;simp only[Option.map_some,sv] at s0;have L:=HT6.out.look (s:=s) (by unfold maxLen;omega);clear HTH HTN HTE HNL HN HX5 HT5 F6 hN6 d7;obtain⟨o,ho⟩:∃ o,uX env k m s=o:=⟨_,rfl⟩;rw[ho] at L HH HI;cases o with
  |some r =>
    obtain⟨r0,r1,r2,r3⟩:=r;have HT7:=Ld ((HT6.out.congr fun n=>(HH.out n rfl).symm).mono (m':=K+(m+1)) (by omega));simp only[Option.getD_some,Option.isSome_some,yO] at L;clear HH HI HT6 ho;go_wp2;go_roundw
    case rel=>exact⟨m+1,by omega,by go_num,HT7.out.below (zG _ _),HG6.out.trans (World.grownBy_alloc _ _ _)⟩
    case measure=>simp[intOf];omega
  |none =>
    simp only[Option.getD_none,Option.isSome_none,yO] at L;have hA6:=(zG wr (.cells #[.int .i64 0,.int .i64 0,.int .i64 0,.int .i64 0] 58)).drew;have hF:=Ld (FP.out _ (bu HWi.out hA6) k m (by omega) (by omega))
    have HC:=Ld fun (row:Option Nat) (hrow:row=none\/row=some (w.heap.size+1)) (w':World) (hW:wr.grownBy w' row)=>(⟨(hW.cell_far ⟨w.heap.size+1+1,1,none⟩ (by show w.heap.size+1+1<_;omega) (by rcases hrow with rfl|rfl<;>simp)).trans x1,(hW.cell_far ⟨wa.heap.size,0,none⟩ (by show wa.heap.size<_;omega) (by rcases hrow with rfl|rfl<;>simp;omega)).trans d0,(hW.cell_far ⟨wa.heap.size,1,none⟩ (by show wa.heap.size<_;omega) (by rcases hrow with rfl|rfl<;>simp;omega)).trans d1,(hW.cell_far ⟨wa.heap.size,2,none⟩ (by show wa.heap.size<_;omega) (by rcases hrow with rfl|rfl<;>simp;omega)).trans d2,(hW.cell_far ⟨wa.heap.size,3,none⟩ (by show wa.heap.size<_;omega) (by rcases hrow with rfl|rfl<;>simp;omega)).trans d3,(hW.cell_far ⟨wa.heap.size,4,none⟩ (by show wa.heap.size<_;omega) (by rcases hrow with rfl|rfl<;>simp;omega)).trans d4,(hW.cell_far ⟨wa.heap.size,5,none⟩ (by show wa.heap.size<_;omega) (by rcases hrow with rfl|rfl<;>simp;omega)).trans d5,(hW.cell_far ⟨wa.heap.size,6,none⟩ (by show wa.heap.size<_;omega) (by rcases hrow with rfl|rfl<;>simp;omega)).trans d6⟩:w'.cell? ⟨w.heap.size+1+1,1,none⟩=some (.map (some (w.heap.size+1)))/\w'.cell? ⟨wa.heap.size,0,none⟩=some (.int .i64 kd)/\w'.cell? ⟨wa.heap.size,1,none⟩=some (.string ⟨nm.toArray⟩)/\w'.cell? ⟨wa.heap.size,2,none⟩=some (.int .i64 ps)/\w'.cell? ⟨wa.heap.size,3,none⟩=some (.int .i64 fl)/\w'.cell? ⟨wa.heap.size,4,none⟩=some (.string ⟨ty.toArray⟩)/\w'.cell? ⟨wa.heap.size,5,none⟩=some (.string ⟨vl.toArray⟩)/\w'.cell? ⟨wa.heap.size,6,none⟩=some (.slice ua cs.length uc))
    have HT7:=Ld (HT6.out.below (zG wr (.cells #[.int .i64 0,.int .i64 0,.int .i64 0,.int .i64 0] 58)).drew);clear HH ho HT6;go_wp2;refine wp_region_held_drew (S:=fun w'=>w'.cell? ⟨w.heap.size+1+1,1,none⟩=some (.map (some (w.heap.size+1)))/\w'.cell? ⟨wa.heap.size,0,none⟩=some (.int .i64 kd)/\w'.cell? ⟨wa.heap.size,1,none⟩=some (.string ⟨nm.toArray⟩)/\w'.cell? ⟨wa.heap.size,2,none⟩=some (.int .i64 ps)/\w'.cell? ⟨wa.heap.size,3,none⟩=some (.int .i64 fl)/\w'.cell? ⟨wa.heap.size,4,none⟩=some (.string ⟨ty.toArray⟩)/\w'.cell? ⟨wa.heap.size,5,none⟩=some (.string ⟨vl.toArray⟩)/\w'.cell? ⟨wa.heap.size,6,none⟩=some (.slice ua cs.length uc)) (by kernel_rfl) (HC.out none (.inl rfl) _ (zC (zG wr _).drew none)) (fun hS0=>?_);clear x0 x1 d0 d1 d2 d3 d4 d5 d6;refine qV 0 38 (.pointer (some ⟨w.heap.size+1+1,1,none⟩)) hS0 ?_;simp only[Act.put,eA,eB,eC];refine qV 1 39 (.map (some (w.heap.size+1))) hS0 ?_;simp only[Act.put,eA,eB,eC];refine qV 2 40 (.string ⟨s.toArray⟩) hS0 ?_;simp only[Act.put,eA,eB,eC];refine qV 3 41 (.pointer (some ⟨wa.heap.size,0,none⟩)) hS0 ?_;simp only[Act.put,eA,eB,eC];refine qV 4 42 (.agg #[.int .i64 kd,.string ⟨nm.toArray⟩,.int .i64 ps,.int .i64 fl,.string ⟨ty.toArray⟩,.string ⟨vl.toArray⟩,.slice ua cs.length uc]) hS0 ?_;simp only[Act.put,eA,eB,eC];refine qV 5 43 (.int .i64 k) hS0 ?_;simp only[Act.put,eA,eB,eC];refine qV 6 44 (.int .i64 m) hS0 ?_;simp only[Act.put,eA,eB,eC];refine qR 7 fun K hK=>?_;go_simp;(with_reducible refine mo hF.out fun w7 hb7=>?_)
    have HB7:=Ld (((zG wr (.cells #[.int .i64 0,.int .i64 0,.int .i64 0,.int .i64 0] 58)).drew).trans (hb7.mono (zG wr (.cells #[.int .i64 0,.int .i64 0,.int .i64 0,.int .i64 0] 58)).drew.size));have HT8:=Ld (HT7.out.below hb7);refine hK.out _ _ (HC.out none (.inl rfl) _ (zC HB7.out none)) (fun hS1=>?_);clear hK K hS0 hb7 hF HT7
    try simp only[Act.put,eA,eB,eC]
    obtain⟨w8,hrun,hT9,hg9⟩:=HT8.out.store (by unfold maxLen;omega) (s:=s) (by unfold maxLen;omega) (qH d k m);have HG9:=Ld ((zC HB7.out (some (w.heap.size+1))).trans hg9);have HT9:=Ld ((hT9.congr fun n=>(HI.out n rfl).symm).mono (m':=K+(m+1)) (by omega));refine qR 8 fun K' hK'=>?_;go_simp;refine hK'.out _ _ (HC.out _ (.inr rfl) _ HG9.out) (fun hS2=>?_);clear hK' K' hS1 hS2 hrun hT9 hg9 HC HI
    try simp only[Act.put,eA,eB,eC]
    refine wpAnyH_done (by kernel_rfl) ?_ _;go_wp2;go_roundw
    case rel=>exact⟨m+1,by omega,by go_num,HT9.out,HG6.out.trans HG9.out⟩
    case measure=>simp[intOf];omega
end Go.Proofs.YtcaahdjhbmmcnaaGreatDoor
