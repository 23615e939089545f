/- QNaE QIm QIt QIe -/
import Derived.Maps.OwnIn
import Derived.Test.YtgppcegcpiaocaaGreatDoorNQB
import Derived.Test.YtgppcegcpiaocaaGreatDoorNQD
import Derived.Test.YtgppcegcpiaocaaGreatDoorNG1
import Derived.Test.YtgppcegcpiaocaaGreatDoorNQG
import Derived.Test.YtgppcegcpiaocaaGreatDoorNKQ
set_option maxRecDepth 100000
set_option maxHeartbeats 16000000
set_option linter.unusedSimpArgs false
set_option linter.unusedVariables false
namespace Go.Proofs.YtgppcegcpiaocaaGreatDoor
open Go.ChangeShapes Go.WideShapes Go.ChangeAt Go.RowKit
theorem iD{d:Dc}(hs:d.Small){x:List UInt8}(hx:x∈zO d):x.length<=281474976710656:=by
 have s1:=hs.name;have s5:=hs.each;unfold zO at hx;split at hx
 ·rw[List.cons_append,List.mem_cons,List.mem_append] at hx;rcases hx with rfl|hx|hx
  ·omega
  ·obtain⟨c,hc,rfl⟩:=List.mem_map.1 hx;have:=(s5 c hc).1;omega
  ·split at hx
   ·rw[List.mem_singleton] at hx;subst hx;simp[sD];omega
   ·cases hx
 ·cases hx
abbrev Pl:=Int × Int × Int × Int
def p3 (r:Pl):Int × Int × Int:=(r.1,r.2.1,r.2.2.1)
noncomputable def pB (d:Dc) (i k:Nat):Pl:=if k=0 then (d.kind,(i:Int),0,d.params) else if k<=d.ctors.length then (5,(i:Int),(k:Int) - 1,d.params) else (6,(i:Int),0,yU d)
noncomputable def oY (d:Dc) (i m:Nat) (n:List UInt8):Option Pl:=(((zO d).take m).findIdx? (fun x=>decide (x=n))).map (pB d i)
noncomputable def vK (n:List UInt8):List En->Nat->Option Pl
|[],_=>none
|e::es,i=>(oY e.1 i (zO e.1).length n).or (vK n es (i+1))
theorem zH1{d:Dc}(i:Nat)(n:List UInt8):oY d i (zO d).length n=if 0<=yL d n/\zJ d=true then some (if yL d n=0 then (d.kind,(i:Int),0,d.params) else if yL d n - 1<(d.ctors.length:Int) then (5,(i:Int),yL d n - 1,d.params) else (6,(i:Int),0,yU d)) else none:=by
 unfold oY;rw[List.take_length];by_cases hok:zJ d=true;rotate_left
 ·rw[iN (fun h=>hok h.2)];unfold zO;rw[iN hok];rfl
 unfold zO yL;rw[iP hok,List.cons_append,List.findIdx?_cons,List.findIdx?_append,List.findIdx?_map];have e0:((fun x=>decide (x=n)) ∘ fun c:Ct=>c.1)=(fun c:Ct=>decide (c.1=n)):=rfl;rw[e0];by_cases h0:d.name=n
 ·rw[iP h0,iP (by simpa using h0)];simp[pB,hok]
 rw[iN h0,iN (by simpa using h0)];cases hk:d.ctors.findIdx? (fun c=>decide (c.1=n)) with
|some k =>
  have hlt:k<d.ctors.length:=by
   rw[List.findIdx?_eq_some_iff_getElem] at hk;exact hk.1
  simp only[Option.some_or,Option.map_some];rw[iP ⟨by omega,hok⟩,iN (by omega),iP (by omega)];unfold pB;rw[iN (by omega),iP (by omega)];have e1:((k+1:Nat):Int) - 1=(k:Int):=(by omega);have e2:(k:Int)+1 - 1=(k:Int):=(by omega);rw[e1,e2]
|none =>
  simp only[Option.none_or];by_cases h4:d.kind=4
  ·rw[iP h4];by_cases hr:d.name++46::sD=n
   ·have e4:(if d.kind=4/\d.name++46::sD=n then (d.ctors.length:Int)+1 else -1)=(d.ctors.length:Int)+1:=iP ⟨h4,hr⟩;rw[e4,iP ⟨by omega,hok⟩,iN (by omega),iN (by omega)];have e3:([d.name++46::sD].findIdx? (fun x=>decide (x=n)))=some 0:=by
     rw[List.findIdx?_cons,iP (by simpa using hr)]
    rw[e3];simp only[Option.map_some,List.length_map];unfold pB;rw[iN (by omega),iN (by omega)]
   ·have e4:(if d.kind=4/\d.name++46::sD=n then (d.ctors.length:Int)+1 else -1)=-1:=iN (fun h=>hr h.2);rw[e4,iN (fun h=>absurd h.1 (by omega))];have e3:([d.name++46::sD].findIdx? (fun x=>decide (x=n)))=none:=by
     rw[List.findIdx?_cons,iN (by simpa using hr)];rfl
    rw[e3];rfl
  ·have e4:(if d.kind=4/\d.name++46::sD=n then (d.ctors.length:Int)+1 else -1)=-1:=iN (fun h=>h4 h.1);rw[e4,iN h4,iN (fun h=>absurd h.1 (by omega))];rfl
theorem bL{n:List UInt8}:∀ (es:List En) (i:Nat),qN n es i=p3 ((vK n es i).getD (0,-1,0,-1))
|[],_=>rfl
|e::es,i=>by
  rw[qN,vK,zH1,bL es (i+1)];split
  ·show _=p3 (ite _ _ _);rw[apply_ite p3,apply_ite p3];rfl
  ·rfl
theorem iE{n:List UInt8}(e:En):∀ (es:List En) (i:Nat),vK n (es++[e]) i=(vK n es i).or (oY e.1 (i+es.length) (zO e.1).length n)
|[],i=>by
  show (oY e.1 i (zO e.1).length n).or none=_;rw[Option.or_none];rfl
|a::es,i=>by
  rw[List.cons_append,vK,iE e es (i+1),vK,Option.or_assoc];have:i+1+es.length=i+(a::es).length:=(by simp only[lC];omega);rw[this]
theorem cW{d:Dc}{i m:Nat}{n:List UInt8}(hm:m<(zO d).length):oY d i (m+1) n=(oY d i m n).or (if (zO d)[m]=n then some (pB d i m) else none):=by
 unfold oY;rw[List.take_succ_eq_append_getElem hm,List.findIdx?_append];cases h:((zO d).take m).findIdx? (fun x=>decide (x=n)) with
|some k=>rfl
|none =>
  simp only[Option.none_or,Option.map_none];rw[List.findIdx?_cons];by_cases he:(zO d)[m]=n
  ·rw[iP (by simpa using he),iP he];simp only[Option.map_some];rw[List.length_take];have:0+min m (zO d).length=m:=(by omega);rw[this]
  ·rw[iN (by simpa using he),iN he];rfl
noncomputable def uI (env:List En) (k m:Nat) (n:List UInt8):Option Pl:=(vK n (env.take k) 0).or (match env[k]? with
|some e=>oY e.1 k m n
|none=>none)
theorem qZ{env:List En}{k:Nat}(n:List UInt8):uI env k 0 n=vK n (env.take k) 0:=by
 unfold uI;have:(match env[k]? with
 |some e=>oY e.1 k 0 n
 |none=>none)=none:=by
  cases env[k]?<;>rfl
 rw[this,Option.or_none]
theorem yA2{env:List En}{k:Nat}(hk:k<env.length)(n:List UInt8):uI env k (zO env[k].1).length n=uI env (k+1) 0 n:=by
 rw[qZ];unfold uI;rw[List.getElem?_eq_getElem hk,List.take_succ_eq_append_getElem hk,iE,List.length_take];have:0+min k env.length=k:=by omega
 rw[this]
theorem yH5{env:List En}{k m:Nat}(hk:k<env.length)(hm:m<(zO env[k].1).length){n:List UInt8}(h:(uI env k m (zO env[k].1)[m]).isSome=true):uI env k (m+1) n=uI env k m n:=by
 unfold uI at h |-;rw[List.getElem?_eq_getElem hk] at h |-;show (vK n (env.take k) 0).or (oY env[k].1 k (m+1) n)=(vK n (env.take k) 0).or (oY env[k].1 k m n);rw[cW hm];by_cases he:(zO env[k].1)[m]=n
 ·subst he;rw[← Option.or_assoc];exact Option.or_of_isSome h
 ·rw[iN he,Option.or_none]
theorem yH4{env:List En}{k m:Nat}(hk:k<env.length)(hm:m<(zO env[k].1).length){n:List UInt8}(h:(uI env k m (zO env[k].1)[m]).isSome=false):uI env k (m+1) n=if (zO env[k].1)[m]=n then some (pB env[k].1 k m) else uI env k m n:=by
 unfold uI at h |-;rw[List.getElem?_eq_getElem hk] at h |-;show (vK n (env.take k) 0).or (oY env[k].1 k (m+1) n)=if _ then _ else (vK n (env.take k) 0).or (oY env[k].1 k m n);rw[cW hm];by_cases he:(zO env[k].1)[m]=n
 ·subst he;rw[iP rfl,iP rfl,← Option.or_assoc];have h1:(vK (zO env[k].1)[m] (env.take k) 0).or (oY env[k].1 k m (zO env[k].1)[m])=none:=by
   rw[Option.isSome_eq_false_iff,Option.isNone_iff_eq_none] at h;exact h
  rw[h1,Option.none_or]
 ·rw[iN he,iN he,Option.or_none]
theorem yH6{env:List En}(n:List UInt8):yC env n=p3 ((uI env env.length 0 n).getD (0,-1,0,-1)):=by
 rw[qZ,List.take_length];exact bL env 0
theorem zH0{env:List En}{n:List UInt8}:∀ (es:List En) (i:Nat),env.drop i=es->((vK n es i).getD (0,-1,0,-1)).2.2.2=vW env (p3 ((vK n es i).getD (0,-1,0,-1)))
|[],_,_=>rfl
|e::es,i,hd=>by
  have he:env[i]?=some e:=by
   have:=congrArg (fun l=>l[0]?) hd;simpa using this
  have hn:env.drop (i+1)=es:=by
   rw[← List.drop_drop,hd];rfl
  have ih:=zH0 (n:=n) es (i+1) hn;rw[vK,zH1];split
  ·rename_i h;have hkd:=oC h.2;show (ite _ _ _:Pl).2.2.2=vW env (p3 (ite _ _ _));split
   ·rw[lX he rfl (by show e.1.kind≠0;omega),iN (by show ¬ e.1.kind=6;omega)]
   ·split
    ·rw[lX he rfl (by show (5:Int)≠0;decide),iN (by show ¬ (5:Int)=6;decide)]
    ·rw[lX he rfl (by show (6:Int)≠0;decide),iP (show (p3 (6,(i:Int),0,yU e.1)).1=6 from rfl)]
  ·exact ih
noncomputable def fnd4 (env:List En) (n:List UInt8):Pl:=((yC env n).1,(yC env n).2.1,(yC env n).2.2,uN env n)
theorem lJ{env:List En}(n:List UInt8):(uI env env.length 0 n).getD (0,-1,0,-1)=fnd4 env n:=by
 have h1:=yH6 (env:=env) n;have h2:=zH0 (n:=n) env 0 (by rw[List.drop_zero]);rw[qZ,List.take_length] at h1 |-;rw[← h1] at h2;unfold fnd4 uN;rw[← h2,h1];rfl
theorem yM2{d:Dc}{i:Nat}{n:List UInt8}:(oY d i (zO d).length n).isSome=true↔n∈zO d:=by
 unfold oY;rw[List.take_length,Option.isSome_map,List.findIdx?_isSome,List.any_eq_true];constructor
 ·rintro ⟨x,hx,h⟩;rw[decide_eq_true_eq] at h;exact h ▸ hx
 ·intro h;exact⟨n,h,by simp⟩
theorem fX{n:List UInt8}:∀ (es:List En) (i:Nat),(vK n es i).isSome=true↔n∈zX es
|[],_=>by simp[vK,zX]
|e::es,i=>by
  rw[vK,Option.isSome_or,Bool.or_eq_true,yM2,fX es (i+1)];simp[zX]
theorem zN5{env:List En}(n:List UInt8):(uI env env.length 0 n).isSome=true↔n∈zX env:=by
 rw[qZ,List.take_length];exact fX env 0
theorem oV(d:Dc):(zO d).length<=d.ctors.length+2:=by
 unfold zO;split
 ·rw[lA,lC,List.length_map];split<;>simp<;>omega
 ·simp
theorem zA7{env:List En}(h:∀ e∈env,e.1.ctors.length<=1048576):(zX env).length<=env.length*1048578:=by
 induction env with
|nil=>simp[zX]
|cons e es ih =>
  have h1:=oV e.1;have h2:=h e (List.mem_cons_self ..);have h3:=ih (fun x hx=>h x (List.mem_cons_of_mem _ hx));unfold zX at h3 |-;rw[List.flatMap_cons,lA,lC];omega
end Go.Proofs.YtgppcegcpiaocaaGreatDoor
namespace Go.Proofs.YtgppcegcpiaocaaGreatDoor
open Go.ChangeShapes Go.WideShapes Go.ChangeAt Go.RowKit Go.Maps
def yP (r:Pl):Value:=.agg #[.int .i64 r.1,.int .i64 r.2.1,.int .i64 r.2.2.1,.int .i64 r.2.2.2]
def iC (r:Pl):DataW Unit:=.agg [.lit (.int .i64 r.1),.lit (.int .i64 r.2.1),.lit (.int .i64 r.2.2.1),.lit (.int .i64 r.2.2.2)]
theorem zF6{r s:Pl}(h:yP r=yP s):r=s:=by
 obtain⟨a,b,c,d⟩:=r;obtain⟨x,y,z,v⟩:=s;unfold yP at h;simp at h;obtain⟨rfl,rfl,rfl,rfl⟩:=h;rfl
theorem cS{r s:Pl}(h:iC r=iC s):r=s:=by
 obtain⟨a,b,c,d⟩:=r;obtain⟨x,y,z,v⟩:=s;unfold iC at h;simp at h;obtain⟨rfl,rfl,rfl,rfl⟩:=h;rfl
open Classical in
noncomputable def rI (v:Value):Option (DataW Unit × List MemPlace):=if h:∃ r,v=yP r then some (iC h.choose,[]) else none
theorem iB(r:Pl):rI (yP r)=some (iC r,[]):=by
 have h:∃ s,yP r=yP s:=⟨r,rfl⟩;unfold rI;rw[dif_pos h,← zF6 h.choose_spec]
theorem aO{v:Value}{z:DataW Unit × List MemPlace}(h:rI v=some z):∃ r,v=yP r/\z=(iC r,[]):=by
 unfold rI at h;split at h
 ·rename_i hx;exact⟨_,hx.choose_spec,(Option.some.inj h).symm⟩
 ·cases h
theorem gD(X:World)(r:Pl){n:Nat}(hn:n=X.heap.size):(X.alloc (.cells #[.int .i64 r.1,.int .i64 r.2.1,.int .i64 r.2.2.1,.int .i64 r.2.2.2] 49)).cell? ⟨n,0,none⟩=some (.int .i64 r.1)/\(X.alloc (.cells #[.int .i64 r.1,.int .i64 r.2.1,.int .i64 r.2.2.1,.int .i64 r.2.2.2] 49)).cell? ⟨n,1,none⟩=some (.int .i64 r.2.1)/\(X.alloc (.cells #[.int .i64 r.1,.int .i64 r.2.1,.int .i64 r.2.2.1,.int .i64 r.2.2.2] 49)).cell? ⟨n,2,none⟩=some (.int .i64 r.2.2.1)/\(X.alloc (.cells #[.int .i64 r.1,.int .i64 r.2.1,.int .i64 r.2.2.1,.int .i64 r.2.2.2] 49)).cell? ⟨n,3,none⟩=some (.int .i64 r.2.2.2):=by
 subst hn;have k:=World.news_of_block (cs:=#[.int .i64 r.1,.int .i64 r.2.1,.int .i64 r.2.2.1,.int .i64 r.2.2.2]) (t:=49) (fr:=(0,0)) (heap_alloc_new X _);exact⟨k 0 _ rfl,k 1 _ rfl,k 2 _ rfl,k 3 _ rfl⟩
theorem zF7(X:World)(r:Pl)(o:Obj){n:Nat}(hn:n=X.heap.size):((X.alloc (.cells #[.int .i64 r.1,.int .i64 r.2.1,.int .i64 r.2.2.1,.int .i64 r.2.2.2] 49)).alloc o).cell? ⟨n,0,none⟩=some (.int .i64 r.1)/\((X.alloc (.cells #[.int .i64 r.1,.int .i64 r.2.1,.int .i64 r.2.2.1,.int .i64 r.2.2.2] 49)).alloc o).cell? ⟨n,1,none⟩=some (.int .i64 r.2.1)/\((X.alloc (.cells #[.int .i64 r.1,.int .i64 r.2.1,.int .i64 r.2.2.1,.int .i64 r.2.2.2] 49)).alloc o).cell? ⟨n,2,none⟩=some (.int .i64 r.2.2.1)/\((X.alloc (.cells #[.int .i64 r.1,.int .i64 r.2.1,.int .i64 r.2.2.1,.int .i64 r.2.2.2] 49)).alloc o).cell? ⟨n,3,none⟩=some (.int .i64 r.2.2.2):=by
 have h:=fun i=>((bR _ (X.alloc (.cells #[.int .i64 r.1,.int .i64 r.2.1,.int .i64 r.2.2.1,.int .i64 r.2.2.2] 49))).alloc (nR _) o).cell (p:=⟨n,i,none⟩) (by subst hn;simp);obtain⟨a,b,c,d⟩:=gD X r hn;exact⟨(h 0).trans a,(h 1).trans b,(h 2).trans c,(h 3).trans d⟩
theorem yH7:Keyed Tryz.prog 9:=string_keyed Tryz.underlying9
theorem zeroPl(w:World):(zeroValue 49).run Tryz.prog w=.ok (yP (0,0,0,0)) w:=by kernel_rfl
theorem zV9(l:List UInt8):WideAt.IsKeyLit (.string l):=by
 unfold WideAt.IsKeyLit;trivial
def TabIs (w:World) (b m:Nat) (G:List UInt8->Option Pl):Prop :=
 ∃ D:DataW Unit,w.ownsMap Tryz.prog 9 rI b m D/\∀ l,Maps.has D (.string l)=(G l).isSome/\∀ r,G l=some r->D.atKey (.string l) (iC (0,0,0,0))=iC r
theorem TabIs.congr{w:World}{b m:Nat}{G G':List UInt8->Option Pl}(h:TabIs w b m G)(e:∀ l,G l=G' l):TabIs w b m G':=by
 obtain rfl:G=G':=funext e;exact h
theorem TabIs.mono{w:World}{b m m':Nat}{G:List UInt8->Option Pl}(h:TabIs w b m G)(e:m<=m'):TabIs w b m' G:=by
 obtain⟨D,h1,h2⟩:=h;exact⟨D,h1.mono e,h2⟩
theorem TabIs.lt{w:World}{b m:Nat}{G:List UInt8->Option Pl}(h:TabIs w b m G):b<w.heap.size:=by
 obtain⟨D,h1,h2⟩:=h;exact h1.lt
theorem TabIs.kept{w w':World}{row:Option Nat}{b m:Nat}{G:List UInt8->Option Pl}(h:TabIs w b m G)(hg:w.grownBy w' row)(hne:some b≠row):TabIs w' b m G:=by
 obtain⟨D,h1,h2⟩:=h;exact⟨D,h1.kept hg hne,h2⟩
theorem TabIs.below{w w':World}{b m:Nat}{G:List UInt8->Option Pl}(h:TabIs w b m G)(hb:Below w.heap.size w w'):TabIs w' b m G:=h.kept (zF hb none) (by simp)
theorem TabIs.setCell{w:World}{b m:Nat}{G:List UInt8->Option Pl}(h:TabIs w b m G){a:Addr}(ha:b≠a.block)(u:Value):TabIs (w.setCell a u) b m G:=by
 obtain⟨D,h1,h2⟩:=h;exact⟨D,h1.setCell ha u,h2⟩
theorem xH0(w:World):TabIs (w.alloc (.map #[] 0)) w.heap.size 0 (fun _=>none):=⟨.map [],World.ownsMap_made _ _ _ _,fun l=>⟨rfl,fun r h=>by cases h⟩⟩
theorem TabIs.look{w:World}{b m:Nat}{G:List UInt8->Option Pl}(h:TabIs w b m G){s:List UInt8}(hs:s.length<=maxLen) :
  (Instr.lookup 47 (.map (some b)) (.string ⟨s.toArray⟩) true).run Tryz.prog w=.ok (.tuple #[yP ((G s).getD (0,0,0,0)),.bool (G s).isSome]) w:=by
 obtain⟨D,h1,h2⟩:=h;have hkey:keyOf Tryz.prog 9 (.string ⟨s.toArray⟩)=some (.string s):=by
  have:=Go.WideMaps.keyOf_string_mk (P:=Tryz.prog) (k:=9) Tryz.underlying9 (s:=⟨s.toArray⟩) hs;simpa using this
 obtain⟨v,ps,hrun,hv⟩:=h1.look_ok yH7 Tryz.underlying47 (zeroPl w) (iB _) hkey;obtain⟨r,rfl,hr⟩:=aO hv;rw[hrun,(h2 s).1];have hr1:=congrArg Prod.fst hr;simp only at hr1;cases hG:G s with
|some r' =>
  rw[(h2 s).2 r' hG] at hr1;rw[cS hr1];rfl
|none =>
  have hh:Maps.has D (.string s)=false:=(by rw[(h2 s).1,hG];rfl);rw[atKey_of_not_has hh] at hr1;rw[← cS hr1];rfl
theorem TabIs.store{w:World}{b m:Nat}{G:List UInt8->Option Pl}(h:TabIs w b m G)(hm:m<maxLen){s:List UInt8}(hs:s.length<=maxLen)(r:Pl) :
  ∃ w',(Instr.mapUpdate 47 (.map (some b)) (.string ⟨s.toArray⟩) (yP r)).run Tryz.prog w=.ok () w'/\TabIs w' b (m+1) (fun l=>if s=l then some r else G l)/\w.grownBy w' (some b):=by
 obtain⟨D,h1,h2⟩:=h;have hkey:keyOf Tryz.prog 9 (.string ⟨s.toArray⟩)=some (.string s):=by
  have:=Go.WideMaps.keyOf_string_mk (P:=Tryz.prog) (k:=9) Tryz.underlying9 (s:=⟨s.toArray⟩) hs;simpa using this
 obtain⟨w',hrun,r1,r2⟩:=h1.update yH7 Tryz.underlying47 hm hkey (iB r);refine⟨w',hrun,⟨_,r1,fun l=>?_⟩,r2⟩;show Maps.has _ _=(if s=l then some r else G l).isSome/\∀ r',(if s=l then some r else G l)=some r'->_;by_cases e:s=l
 ·subst e;rw[iP rfl];exact⟨has_put_same h1.isMap (zV9 _) _,fun r' hr'=>by cases hr';exact atKey_put_same h1.isMap (zV9 _) _ _⟩
 ·have hne:(Lit.string l)≠(Lit.string s):=fun h=>e (by cases h;rfl);rw[iN e,has_put_other hne,atKey_put_other hne];exact h2 l
end Go.Proofs.YtgppcegcpiaocaaGreatDoor
namespace Go.Proofs.YtgppcegcpiaocaaGreatDoor
open Go.ChangeShapes Go.WideShapes Go.ChangeAt Go.RowKit
theorem zR6{d:Dc}{B:Nat}{u:Value}(i k:Nat)(hi:i<=1048576)(hk:k<=1048580){w:World}(h:w.ownsRow B 75 2 u d.ctors.length (xM d.ctors))(hs:d.Small)(hr:d.Rng)(hv:Vars w)(hm:MaxLenInt w) :
  Rt 36 #[d.val u,.int .i64 i,.int .i64 k] w (yP (pB d i k)):=by
 obtain⟨ua,uc,rfl⟩:=zK h;have hc:=hs.ctors;have FR:=Ld fun (W:World) (hW:Below w.heap.size w W)=>zB2 (zA h hW) hs hr (hv.below hW) (hm.below hW);clear h hs hr hv hm;obtain⟨rl,hrl⟩:∃ rl,yU d=rl:=⟨_,rfl⟩;obtain⟨kd,nm,ps,fl,ty,vl,cs⟩:=d;have hval:=gG kd nm ps fl ty vl cs (.slice ua cs.length uc);simp only[hrl] at hc FR;rw[hval] at FR |-;clear hval;have HB:=Ld ((zE w (dC kd nm ps fl ty vl (.slice ua cs.length uc) 37)));go_enter Tryz.func36,Tryz.ntmps36;by_cases k0:k=0
 ·subst k0;clear FR hrl;go_wp2;obtain⟨r0,r1,r2,r3⟩:=gD (w.alloc (dC kd nm ps fl ty vl (.slice ua cs.length uc) 37)) (kd,(i:Int),0,ps) (n:=w.heap.size+1) (by simp);refine bodyPost_ret (v:=yP (kd,(i:Int),0,ps)) (by simp[results,Tryz.results36,go_sem,r0,r1,r2,r3,yP]) rfl ⟨rfl,HB.out.alloc HB.out.size _⟩
 have e0:((k:Int)==0)=false:=by rw[bF];omega
 by_cases k1:k<=cs.length
 ·have e1:decide ((k:Int)<=(cs.length:Int))=true:=dT (by omega);have hV:pB ⟨kd,nm,ps,fl,ty,vl,cs⟩ i k=(5,(i:Int),(k:Int) - 1,ps):=by
   unfold pB;rw[iN k0,iP k1]
  rw[hV];clear FR hrl;go_wp2;obtain⟨r0,r1,r2,r3⟩:=gD (w.alloc (dC kd nm ps fl ty vl (.slice ua cs.length uc) 37)) (5,(i:Int),(k:Int) - 1,ps) (n:=w.heap.size+1) (by simp);refine bodyPost_ret (v:=yP (5,(i:Int),(k:Int) - 1,ps)) (by simp[results,Tryz.results36,go_sem,r0,r1,r2,r3,yP]) rfl ⟨rfl,HB.out.alloc HB.out.size _⟩
 ·have e1:decide ((k:Int)<=(cs.length:Int))=false:=dF (by omega);have hV:pB ⟨kd,nm,ps,fl,ty,vl,cs⟩ i k=(6,(i:Int),0,rl):=by
   unfold pB;rw[iN k0,iN k1,hrl]
  rw[hV];clear hrl;have HB2:=Ld (HB.out.alloc HB.out.size (.cells #[.int .i64 0,.int .i64 0,.int .i64 0,.int .i64 0] 49));have f1:=Ld (FR.out _ HB2.out);have HN:=Ld (heap_alloc_new (w.alloc (dC kd nm ps fl ty vl (.slice ua cs.length uc) 37)) (.cells #[.int .i64 0,.int .i64 0,.int .i64 0,.int .i64 0] 49));rw[show (w.alloc (dC kd nm ps fl ty vl (.slice ua cs.length uc) 37)).heap.size=w.heap.size+1 by simp] at HN;clear FR;go_wp2_with fail;(with_reducible refine mo f1.out fun w1 hb1=>?_);have b0:=(hb1.block (w.heap.size+1) (by simp)).trans HN.out;have HB3:=bt HB2.out hb1;have y0:w1.cell? ⟨w.heap.size+1,0,none⟩=some (.int .i64 0):=cell_of_row _ _ _ _ _ _ b0;have y1:w1.cell? ⟨w.heap.size+1,1,none⟩=some (.int .i64 0):=cell_of_row _ _ _ _ _ _ b0;have y2:w1.cell? ⟨w.heap.size+1,2,none⟩=some (.int .i64 0):=cell_of_row _ _ _ _ _ _ b0;have y3:w1.cell? ⟨w.heap.size+1,3,none⟩=some (.int .i64 0):=cell_of_row _ _ _ _ _ _ b0;have z0:w1.frozen? ⟨w.heap.size+1,0,none⟩=false:=(by simp[World.frozen?,b0]);have z1:w1.frozen? ⟨w.heap.size+1,1,none⟩=false:=(by simp[World.frozen?,b0]);have z2:w1.frozen? ⟨w.heap.size+1,2,none⟩=false:=(by simp[World.frozen?,b0]);have z3:w1.frozen? ⟨w.heap.size+1,3,none⟩=false:=(by simp[World.frozen?,b0]);clear f1 hb1 HN b0;go_wp2;refine bodyPost_ret (v:=yP (6,(i:Int),0,rl)) (by simp[results,Tryz.results36,go_sem,y0,y1,y2,y3,z0,z1,z2,z3,yP]) rfl ⟨rfl,(((HB3.out.setCell (Nat.le_succ _) _).setCell (Nat.le_succ _) _).setCell (Nat.le_succ _) _).setCell (Nat.le_succ _) _⟩
theorem xF7{w:World}{s:Value}{m:Value}:∀ W,Below (w.alloc (.cells #[s,m] 51)).heap.size (w.alloc (.cells #[s,m] 51)) W->W.cell? ⟨w.heap.size,0,none⟩=some s/\W.cell? ⟨w.heap.size,1,none⟩=some m:=by
 intro W hb;have h:=fun i=>hb.cell (p:=⟨w.heap.size,i,none⟩) (by simp);have k:=World.news_of_block (cs:=#[s,m]) (t:=51) (fr:=(0,0)) (heap_alloc_new w _);exact⟨(h 0).trans (k 0 _ rfl),(h 1).trans (k 1 _ rfl)⟩
theorem envSt3(w:World)(s:Value):∃ W3,((w.alloc (.cells #[.slice none 0 0,.map none] 51)).alloc (.map #[] 0)).alloc (.cells #[s,.map (some (w.heap.size+1))] 51)=W3/\W3.heap.size=w.heap.size+3/\Below w.heap.size w W3/\TabIs W3 (w.heap.size+1) 0 (fun _=>none) /\
  ∀ wr,W3.grownBy wr (some (w.heap.size+1))->(wr.cell? ⟨w.heap.size+1+1,0,none⟩=some s/\wr.cell? ⟨w.heap.size+1+1,1,none⟩=some (.map (some (w.heap.size+1))))/\(wr.cell? ⟨w.heap.size,0,none⟩=some (.slice none 0 0)/\wr.cell? ⟨w.heap.size,1,none⟩=some (.map none))/\wr.frozen? ⟨w.heap.size,0,none⟩=false/\wr.frozen? ⟨w.heap.size,1,none⟩=false:=by
 refine⟨_,rfl,by simp,((zE w _).alloc (by simp) _).alloc (by simp;omega) _,?_,fun wr hg=>?_⟩
 ·have h:=xH0 (w.alloc (.cells #[.slice none 0 0,.map none] 51));rw[show (w.alloc (.cells #[.slice none 0 0,.map none] 51)).heap.size=w.heap.size+1 by simp] at h;exact h.below ((bR _ _).alloc (nR _) _)
 ·have hA:=(((bR _ (w.alloc (.cells #[.slice none 0 0,.map none] 51))).alloc (nR _) (.map #[] 0)).alloc (by simp) (.cells #[s,.map (some (w.heap.size+1))] 51));have b0:=(hg.block w.heap.size (by simp;omega) (by simp)).trans ((hA.block w.heap.size (by simp)).trans (heap_alloc_new w _));have e2:((w.alloc (.cells #[.slice none 0 0,.map none] 51)).alloc (.map #[] 0)).heap.size=w.heap.size+1+1:=(by simp);have hN:=heap_alloc_new ((w.alloc (.cells #[.slice none 0 0,.map none] 51)).alloc (.map #[] 0)) (.cells #[s,.map (some (w.heap.size+1))] 51);rw[e2] at hN;have b2:=(hg.block (w.heap.size+1+1) (by simp) (by simp)).trans hN;exact⟨⟨cell_of_row _ _ _ _ _ _ b2,cell_of_row _ _ _ _ _ _ b2⟩,⟨cell_of_row _ _ _ _ _ _ b0,cell_of_row _ _ _ _ _ _ b0⟩,by simp[World.frozen?,b0],by simp[World.frozen?,b0]⟩
theorem nG{w:World}{B:Nat}{v:Value}{env:List En}(h:uL w B v env)(hs:vE env)(hr:kS env)(hv:Vars w)(hm:MaxLenInt w) :
  Calls Tryz.prog 18 #[v] w fun e w'=>∃ b,e=.returned (.agg #[v,.map (some b)])/\TabIs w' b (zX env).length (uI env env.length 0)/\Below w.heap.size w w':=by
 obtain⟨xs,hx,hrow,ho⟩:=h;have hlx:xs.length=env.length:=by rw[← hx,List.length_map]
 obtain⟨ra,rc,rfl⟩:=zK hrow;rw[hlx] at hrow |-;have hlen:=hs.1;have HAT:=Ld fun (k:Nat) (hk:k<env.length)=>zL1 hx hk;have HS:=Ld hs.2;have HRg:=Ld hr;have HR:=Ld hrow;have HO:=Ld ho;have HL:=Ld hlx;have HV:=Ld hv;have HM:=Ld hm;have HKL:=Ld fun k=>Nat.le_trans (iI (env:=env) k) (zA7 fun e he=>(hs.2 e he).1.ctors);have HKS:=Ld fun (k:Nat) (hk:k<env.length)=>congrArg List.length (kB hk);obtain⟨W3,hW3,z3,hB3,hT3,hX3⟩:=envSt3 w (.slice ra env.length rc);have HB3:=Ld hB3;have HT3:=Ld hT3;have HX3:=Ld hX3;clear hrow ho hx hlx hs hr hv hm hB3 hT3 hX3;have hmm:=@run_makeMap Tryz.prog;go_enter Tryz.func18,Tryz.ntmps18;go_wp2;clear hW3 hmm;go_loopw [15] (fun i wr=>∃ k:Nat,k<=env.length/\i=.int .i64 k/\Hid (TabIs wr (w.heap.size+1) (zX (env.take k)).length (uI env k 0))/\Hid (W3.grownBy wr (some (w.heap.size+1)))) (fun i _=>env.length - (intOf i).toNat)
 case atStart=>exact⟨0,Nat.zero_le _,rfl,HT3.out.congr fun l=>(qZ (env:=env) (k:=0) l).symm,World.grownBy.refl _ _⟩
 case round =>
  obtain⟨k,hk,rfl,HT,HG⟩:=hrel;clear HT3;have HW:=Ld (HB3.out.grown HG.out (by omega) (fun q hq=>by cases hq;omega));have hzw:=HG.out.size;by_cases hlt:k<env.length;rotate_left
  ·obtain rfl:k=env.length:=(by omega);rw[List.take_length] at HT;obtain⟨⟨x0,x1⟩,⟨y0,y1⟩,y2,y3⟩:=HX3.out _ HG.out;clear HAT HS HRg HR HO HL HV HM HKL HKS;go_wp2;refine bodyPost_ret (v:=.agg #[.slice ra env.length rc,.map (some (w.heap.size+1))]) (by simp[results,Tryz.results18,go_sem,y0,y1,y2,y3]) rfl ⟨_,rfl,(HT.out.setCell (by simp) _).setCell (by simp) _,(HW.out.setCell (nR _) _).setCell (nR _) _⟩
  obtain⟨x,ex,mx,hek⟩:=HAT.out k hlt;have hsm:=(HS.out _ (List.getElem_mem hlt)).1;have hrg:=HRg.out _ (List.getElem_mem hlt);have hKS:=HKS.out k hlt;have hKL:=HKL.out (k+1);have HTH:Hid (∀ m (hm:m<(zO env[k].1).length) n,(uI env k m (zO env[k].1)[m]).isSome=true->uI env k (m+1) n=uI env k m n):=fun m hm n h=>yH5 hlt hm h;have HTN:Hid (∀ m (hm:m<(zO env[k].1).length) n,(uI env k m (zO env[k].1)[m]).isSome=false->uI env k (m+1) n=if (zO env[k].1)[m]=n then some (pB env[k].1 k m) else uI env k m n):=fun m hm n h=>yH4 hlt hm h;have HTE:Hid (∀ n,uI env k (zO env[k].1).length n=uI env (k+1) 0 n):=fun n=>yA2 hlt n;have HNL:Hid (∀ x∈zO env[k].1,x.length<=281474976710656):=fun x hx=>iD hsm hx;rw[hek] at hsm hrg hKS HTH HTN HTE HNL;obtain⟨g,cap,e0,_,hgl⟩:=HR.out.form (by omega);cases e0;have a8:=nH (zA HR.out HW.out) hlt HL.out ex;have p0:=a8 0 (by decide);have p1:=a8 1 (by decide);have p2:=a8 2 (by decide);have p3:=a8 3 (by decide);have p4:=a8 4 (by decide);have p5:=a8 5 (by decide);have p6:=a8 6 (by decide);have p7:=a8 7 (by decide);have hox:=((HO.out x mx).below HW.out).1;have hoy:=((HO.out x mx).below HW.out).2;have HV1:=Ld (HV.out.below HW.out);have HM1:=Ld (HM.out.below HW.out);have hc:=hsm.ctors;have FN:=Ld fun (W:World) (hW:Below wr.heap.size wr W)=>zR9 (zA hox hW) hsm ⟨hrg.1,hrg.2⟩ (HV1.out.below hW) (HM1.out.below hW)
  have FP:=Ld fun (W:World) (hW:Below w.heap.size w W) (i m:Nat) (hi:i<=1048576) (hm:m<=1048580)=>zR6 i m hi hm ((HO.out x mx).below hW).1 hsm ⟨hrg.1,hrg.2⟩ (HV.out.below hW) (HM.out.below hW);clear a8 ex mx hek HAT HS HR HO HL HV HM HKL HKS HV1 HM1 hrg HRg;have hnl:=oV x.1.1;obtain⟨⟨⟨kd,nm,ps,fl,ty,vl,cs⟩,ls⟩,u,vv⟩:=x;obtain⟨ua,uc,hu⟩:=zK hox;obtain⟨va,vc,hu2⟩:=zK hoy;simp only at hu hu2;subst hu hu2;clear hoy;have hval:=gG kd nm ps fl ty vl cs (.slice ua cs.length uc);simp only[hval] at FN FP;simp only at hKS HTH HTN HTE HNL hc hnl;simp only[rT,sv,List.getElem?_cons_zero,List.getElem?_cons_succ,Nat.add_zero,Nat.zero_add] at p0 p1 p2 p3 p4 p5 p6 p7;have t1:=zn k;have t2:(k:Int)<(env.length:Int):=(by omega);clear hox hsm hval;generalize hD:(⟨kd,nm,ps,fl,ty,vl,cs⟩:Dc)=d at FN FP hKS HTH HTN HTE HNL hnl;have HB5:=Ld (zE wr (.cells #[.int .i64 kd,.string ⟨nm.toArray⟩,.int .i64 ps,.int .i64 fl,.string ⟨ty.toArray⟩,.string ⟨vl.toArray⟩,.slice ua cs.length uc,.slice va ls.length vc] 40));have f1:=Ld (FN.out _ HB5.out);have HE5:=Ld (evBox (w:=wr) (kd:=kd) (ps:=ps) (fl:=fl) (nm:=nm) (ty:=ty) (vl:=vl) (u:=.slice ua cs.length uc) (v:=.slice va ls.length vc) (T:=40));clear FN;go_wp2_with fail;(with_reducible refine f1.out.mono ?_);rintro e w5 ⟨v5,rfl,hv5,hb5⟩;have HW5:=bt HB5.out hb5;have HG5:=Ld (HG.out.trans (zF HW5.out (some (w.heap.size+1))));have HT5:=Ld (HT.out.below HW5.out);have hX5:=HE5.out _ hb5;have hz5:=hb5.size
  rw[show (wr.alloc (.cells #[.int .i64 kd,.string ⟨nm.toArray⟩,.int .i64 ps,.int .i64 fl,.string ⟨ty.toArray⟩,.string ⟨vl.toArray⟩,.slice ua cs.length uc,.slice va ls.length vc] 40)).heap.size=wr.heap.size+1 by simp] at hv5 hz5;obtain⟨na,nc,rfl⟩:=zK hv5;have HN:=Ld hv5;have HX5:=Ld hX5;clear hv5 hb5 hX5 f1 HB5 HE5 HT HG p0 p1 p2 p3 p4 p5 p6 p7;generalize hK:(zX (env.take k)).length=K at HT5 hKS;generalize hNl:zO d=nl at HN hKS HTH HTN HTE HNL hnl;rw[lA,hK] at hKS;obtain⟨wa,rfl⟩:∃ wa,wa=wr:=⟨_,rfl⟩;go_wp2;go_loopw [24] (fun i wr=>∃ m:Nat,m<=nl.length/\i=.int .i64 m/\Hid (TabIs wr (w.heap.size+1) (K+m) (uI env k m))/\Hid (w5.grownBy wr (some (w.heap.size+1)))) (fun i _=>nl.length - (intOf i).toNat)
  case atStart=>exact⟨0,Nat.zero_le _,rfl,HT5.out,World.grownBy.refl _ _⟩
  case round =>
   obtain⟨m,hm,rfl,HT6,HG6⟩:=hrel;have HG36:=Ld (HG5.out.trans HG6.out);have HWi:=Ld (HB3.out.grown HG36.out (by omega) (fun q hq=>by cases hq;omega));by_cases hml:m<nl.length;rotate_left
   ·obtain rfl:m=nl.length:=(by omega);have HT7:=Ld ((HT6.out.congr HTE.out).mono (m':=(zX (env.take (k+1))).length) (by omega));clear HTH HTN HTE HNL HN HX5 HX3 HT5 HT6;go_wp2;go_roundw
    case rel=>exact⟨k+1,by omega,by go_num,HT7.out,HG36.out⟩
    case measure=>simp[intOf];omega
   obtain⟨⟨x0,x1⟩,-⟩:=HX3.out _ HG36.out;have hzz:=HG6.out.size;have F6:=Ld fun i (hi:i<8)=>HG6.out.cell_far ⟨wa.heap.size,i,none⟩ (by show wa.heap.size<_;omega) (by show some wa.heap.size≠_;rw[ne_eq,Option.some.injEq];omega);obtain⟨d0,d1,d2,d3,d4,d5,d6,d7⟩:=HX5.out;rw[← F6.out 0 (by decide)] at d0;rw[← F6.out 1 (by decide)] at d1;rw[← F6.out 2 (by decide)] at d2;rw[← F6.out 3 (by decide)] at d3;rw[← F6.out 4 (by decide)] at d4;rw[← F6.out 5 (by decide)] at d5;rw[← F6.out 6 (by decide)] at d6;have hN6:=HN.out.kept HG6.out (.inr (fun e=>by have:=(HN.out.lt _ e).1;omega));obtain⟨gn,cn,en,_,hgn⟩:=hN6.form (by omega);cases en;have s0:=hN6.cellAt m (by omega);rw[List.getElem?_map,List.getElem?_eq_getElem hml] at s0;have hsl:=HNL.out _ (List.getElem_mem hml);have HH:=Ld fun n h=>HTH.out m hml n h;have HI:=Ld fun n h=>HTN.out m hml n h;have u1:=zn m;have u2:(m:Int)<(nl.length:Int):=(by omega);generalize nl[m]=s at s0 hsl HH HI;simp only[Option.map_some,sv] at s0;have L:=HT6.out.look (s:=s) (by unfold maxLen;omega);clear HTH HTN HTE HNL HN HX5 HT5 F6 hN6 d7;obtain⟨o,ho⟩:∃ o,uI env k m s=o:=⟨_,rfl⟩;rw[ho] at L HH HI;cases o with
  |some r =>
    obtain⟨r0,r1,r2,r3⟩:=r;have HT7:=Ld ((HT6.out.congr fun n=>(HH.out n rfl).symm).mono (m':=K+(m+1)) (by omega));simp only[Option.getD_some,Option.isSome_some,yP] at L;clear HH HI HT6 ho;go_wp2;go_roundw
    case rel=>exact⟨m+1,by omega,by go_num,HT7.out.below (zE _ _),HG6.out.trans (World.grownBy_alloc _ _ _)⟩
    case measure=>simp[intOf];omega
  |none =>
    simp only[Option.getD_none,Option.isSome_none,yP] at L;have hA6:=(zE wr (.cells #[.int .i64 0,.int .i64 0,.int .i64 0,.int .i64 0] 49)).drew;have hF:=Ld (FP.out _ (bu HWi.out hA6) k m (by omega) (by omega))
    have HC:=Ld fun (row:Option Nat) (hrow:row=none\/row=some (w.heap.size+1)) (w':World) (hW:wr.grownBy w' row)=>(⟨(hW.cell_far ⟨w.heap.size+1+1,1,none⟩ (by show w.heap.size+1+1<_;omega) (by rcases hrow with rfl|rfl<;>simp)).trans x1,(hW.cell_far ⟨wa.heap.size,0,none⟩ (by show wa.heap.size<_;omega) (by rcases hrow with rfl|rfl<;>simp;omega)).trans d0,(hW.cell_far ⟨wa.heap.size,1,none⟩ (by show wa.heap.size<_;omega) (by rcases hrow with rfl|rfl<;>simp;omega)).trans d1,(hW.cell_far ⟨wa.heap.size,2,none⟩ (by show wa.heap.size<_;omega) (by rcases hrow with rfl|rfl<;>simp;omega)).trans d2,(hW.cell_far ⟨wa.heap.size,3,none⟩ (by show wa.heap.size<_;omega) (by rcases hrow with rfl|rfl<;>simp;omega)).trans d3,(hW.cell_far ⟨wa.heap.size,4,none⟩ (by show wa.heap.size<_;omega) (by rcases hrow with rfl|rfl<;>simp;omega)).trans d4,(hW.cell_far ⟨wa.heap.size,5,none⟩ (by show wa.heap.size<_;omega) (by rcases hrow with rfl|rfl<;>simp;omega)).trans d5,(hW.cell_far ⟨wa.heap.size,6,none⟩ (by show wa.heap.size<_;omega) (by rcases hrow with rfl|rfl<;>simp;omega)).trans d6⟩:w'.cell? ⟨w.heap.size+1+1,1,none⟩=some (.map (some (w.heap.size+1)))/\w'.cell? ⟨wa.heap.size,0,none⟩=some (.int .i64 kd)/\w'.cell? ⟨wa.heap.size,1,none⟩=some (.string ⟨nm.toArray⟩)/\w'.cell? ⟨wa.heap.size,2,none⟩=some (.int .i64 ps)/\w'.cell? ⟨wa.heap.size,3,none⟩=some (.int .i64 fl)/\w'.cell? ⟨wa.heap.size,4,none⟩=some (.string ⟨ty.toArray⟩)/\w'.cell? ⟨wa.heap.size,5,none⟩=some (.string ⟨vl.toArray⟩)/\w'.cell? ⟨wa.heap.size,6,none⟩=some (.slice ua cs.length uc))
    have HT7:=Ld (HT6.out.below (zE wr (.cells #[.int .i64 0,.int .i64 0,.int .i64 0,.int .i64 0] 49)).drew);clear HH ho HT6;go_wp2;refine wp_region_held_drew (S:=fun w'=>w'.cell? ⟨w.heap.size+1+1,1,none⟩=some (.map (some (w.heap.size+1)))/\w'.cell? ⟨wa.heap.size,0,none⟩=some (.int .i64 kd)/\w'.cell? ⟨wa.heap.size,1,none⟩=some (.string ⟨nm.toArray⟩)/\w'.cell? ⟨wa.heap.size,2,none⟩=some (.int .i64 ps)/\w'.cell? ⟨wa.heap.size,3,none⟩=some (.int .i64 fl)/\w'.cell? ⟨wa.heap.size,4,none⟩=some (.string ⟨ty.toArray⟩)/\w'.cell? ⟨wa.heap.size,5,none⟩=some (.string ⟨vl.toArray⟩)/\w'.cell? ⟨wa.heap.size,6,none⟩=some (.slice ua cs.length uc)) (by kernel_rfl) (HC.out none (.inl rfl) _ (zF (zE wr _).drew none)) (fun hS0=>?_);clear x0 x1 d0 d1 d2 d3 d4 d5 d6;refine qV 0 38 (.pointer (some ⟨w.heap.size+1+1,1,none⟩)) hS0 ?_;simp only[Act.put,eA,eB,eC];refine qV 1 39 (.map (some (w.heap.size+1))) hS0 ?_;simp only[Act.put,eA,eB,eC];refine qV 2 40 (.string ⟨s.toArray⟩) hS0 ?_;simp only[Act.put,eA,eB,eC];refine qV 3 41 (.pointer (some ⟨wa.heap.size,0,none⟩)) hS0 ?_;simp only[Act.put,eA,eB,eC];refine qV 4 42 (.agg #[.int .i64 kd,.string ⟨nm.toArray⟩,.int .i64 ps,.int .i64 fl,.string ⟨ty.toArray⟩,.string ⟨vl.toArray⟩,.slice ua cs.length uc]) hS0 ?_;simp only[Act.put,eA,eB,eC];refine qV 5 43 (.int .i64 k) hS0 ?_;simp only[Act.put,eA,eB,eC];refine qV 6 44 (.int .i64 m) hS0 ?_;simp only[Act.put,eA,eB,eC];refine qR 7 fun K hK=>?_;go_simp;(with_reducible refine mo hF.out fun w7 hb7=>?_)
    have HB7:=Ld (((zE wr (.cells #[.int .i64 0,.int .i64 0,.int .i64 0,.int .i64 0] 49)).drew).trans (hb7.mono (zE wr (.cells #[.int .i64 0,.int .i64 0,.int .i64 0,.int .i64 0] 49)).drew.size));have HT8:=Ld (HT7.out.below hb7);refine hK.out _ _ (HC.out none (.inl rfl) _ (zF HB7.out none)) (fun hS1=>?_);clear hK K hS0 hb7 hF HT7
    try simp only[Act.put,eA,eB,eC]
    obtain⟨w8,hrun,hT9,hg9⟩:=HT8.out.store (by unfold maxLen;omega) (s:=s) (by unfold maxLen;omega) (pB d k m);have HG9:=Ld ((zF HB7.out (some (w.heap.size+1))).trans hg9);have HT9:=Ld ((hT9.congr fun n=>(HI.out n rfl).symm).mono (m':=K+(m+1)) (by omega));refine qR 8 fun K' hK'=>?_;go_simp;refine hK'.out _ _ (HC.out _ (.inr rfl) _ HG9.out) (fun hS2=>?_);clear hK' K' hS1 hS2 hrun hT9 hg9 HC HI
    try simp only[Act.put,eA,eB,eC]
    refine wpAnyH_done (by kernel_rfl) ?_ _;go_wp2;go_roundw
    case rel=>exact⟨m+1,by omega,by go_num,HT9.out,HG6.out.trans HG9.out⟩
    case measure=>simp[intOf];omega
end Go.Proofs.YtgppcegcpiaocaaGreatDoor
