/- QEn QMath QEnP QKnM -/
import Derived.Test.YtcaahdjhbmmcnaaGreatDoorYA6
import Derived.Test.YtcaahdjhbmmcnaaGreatDoorYQA
import Derived.Test.YtcaahdjhbmmcnaaGreatDoorYJ0
import Derived.Test.YtcaahdjhbmmcnaaGreatDoorYG1
import Derived.Test.YtcaahdjhbmmcnaaGreatDoorYE1
set_option maxRecDepth 100000
set_option maxHeartbeats 16000000
set_option linter.unusedSimpArgs false
set_option linter.unusedVariables false
namespace Go.Proofs.YtcaahdjhbmmcnaaGreatDoor
open Go.ChangeShapes Go.WideShapes Go.ChangeAt Go.RowKit
abbrev En:=Dc × List Lbl
abbrev Ev:=En × Value × Value
def ecells (x:Ev):List Value:=[.int .i64 x.1.1.kind,sv x.1.1.name,.int .i64 x.1.1.params,.int .i64 x.1.1.flags,sv x.1.1.type,sv x.1.1.value,x.2.1,x.2.2]
def Ev.val (x:Ev):Value:=.agg #[.int .i64 x.1.1.kind,.string ⟨x.1.1.name.toArray⟩,.int .i64 x.1.1.params,.int .i64 x.1.1.flags,.string ⟨x.1.1.type.toArray⟩,.string ⟨x.1.1.value.toArray⟩,x.2.1,x.2.2]
def flatE (l:List Ev):List Value:=l.flatMap ecells
theorem flatE_cons (x:Ev) (l:List Ev):flatE (x :: l)=ecells x ++ flatE l:=rfl
theorem flatE_append (a b:List Ev):flatE (a ++ b)=flatE a ++ flatE b:=by simp [flatE]
theorem flatE_length (l:List Ev):(flatE l).length=l.length*8:=by
 induction l with
 | nil=>rfl
 | cons x l ih=>rw [flatE_cons,lA,ih];simp only [ecells,lC,List.length_nil];omega
theorem flatE_get {l:List Ev}:∀ {j:Nat} (h:j < l.length) (i:Nat),i < 8->(flatE l)[j*8+i]?=(ecells l[j])[i]?:=by
 induction l with
 | nil=>intro j h;simp at h
 | cons x l ih =>
  intro j h i hi;rw [flatE_cons];cases j with
  | zero =>
   rw [Nat.zero_mul,Nat.zero_add,List.getElem?_append_left (by simp only [ecells,lC,List.length_nil];omega)];rfl
  | succ j =>
   have hj:=ih (j:=j) (by simpa using h) i hi;rw [List.getElem?_append_right (by simp only [ecells,lC,List.length_nil];omega)];rw [show (j+1)*8+i - (ecells x).length=j*8+i by simp only [ecells,lC,List.length_nil];omega,hj];rfl
theorem infoEn:(Tryz.prog.info? 55).map (fun i=>(i.zero,i.size,i.bytes))=some (some (.agg #[.int .i64 0,.string ⟨#[]⟩,.int .i64 0,.int .i64 0,.string ⟨#[]⟩,.string ⟨#[]⟩,.slice none 0 0,.slice none 0 0]),8,120):=by kernel_rfl
def EvOwn (W:World) (B:Nat) (x:Ev):Prop:=W.ownsRow B 88 2 x.2.1 x.1.1.ctors.length (flatC x.1.1.ctors)/\W.ownsRow B 99 2 x.2.2 x.1.2.length (flat x.1.2)
theorem EvOwn.below {W W':World} {B:Nat} {x:Ev} (h:EvOwn W B x) (hb:Below W.heap.size W W'):EvOwn W' B x:=⟨own_below h.1 hb,own_below h.2 hb⟩
theorem EvOwn.lower {W:World} {B B':Nat} {x:Ev} (h:EvOwn W B x) (hb:B'<=B):EvOwn W B' x:=⟨own_lower h.1 hb,own_lower h.2 hb⟩
def EnvIs (W:World) (B:Nat) (v:Value) (env:List En):Prop :=
 ∃ xs:List Ev,xs.map (fun x=>x.1)=env/\W.ownsRow B 55 8 v xs.length (flatE xs)/\∀ x∈xs,EvOwn W B x
theorem EnvIs.below {W W':World} {B:Nat} {v:Value} {env:List En} (h:EnvIs W B v env) (hb:Below W.heap.size W W'):EnvIs W' B v env:=by
 obtain ⟨xs,h1,h2,h3⟩:=h;exact ⟨xs,h1,own_below h2 hb,fun x hx=>(h3 x hx).below hb⟩
theorem EnvIs.lower {W:World} {B B':Nat} {v:Value} {env:List En} (h:EnvIs W B v env) (hb:B'<=B):EnvIs W B' v env:=by
 obtain ⟨xs,h1,h2,h3⟩:=h;exact ⟨xs,h1,own_lower h2 hb,fun x hx=>(h3 x hx).lower hb⟩
def CameE (w:World) (v:Value) (env:List En):Prop :=
 ∃ (xs:List Ev) (a0:Option Addr) (cap b off:Nat),xs.map (fun x=>x.1)=env/\v=.slice a0 xs.length cap/\(0 < xs.length->a0=some ⟨b,off,none⟩/\b < w.heap.size) /\
  (∀ j (h:j < xs.length) i,i < 8->w.cell? ⟨b,off+j*8+i,none⟩=(ecells xs[j])[i]?)/\xs.length<=maxLen /\
  ∀ x∈xs,CameC w x.2.1 x.1.1.ctors/\CameL w x.2.2 x.1.2/\x.1.1.Fits/\-9223372036854775808<=x.1.1.flags/\x.1.1.flags<=9223372036854775807
theorem CameE.below {w w':World} {v:Value} {l:List En} (h:CameE w v l) (hb:Below w.heap.size w w'):CameE w' v l:=by
 obtain ⟨xs,a0,cap,b,off,h0,h1,h2,h3,h4,h5⟩:=h;refine ⟨xs,a0,cap,b,off,h0,h1,fun h0=>⟨(h2 h0).1,Nat.lt_of_lt_of_le (h2 h0).2 hb.size⟩,fun j hj i hi=>?_,h4,fun x hx=>⟨(h5 x hx).1.below hb,(h5 x hx).2.1.below hb,(h5 x hx).2.2⟩⟩;rw [hb.cell (p:=⟨b,off+j*8+i,none⟩) (h2 (by omega)).2];exact h3 j hj i hi
theorem evBox {w:World} {kd ps fl:Int} {nm ty vl:List UInt8} {u v:Value} {T:TypeId}:∀ W,Below (w.alloc (.cells #[.int .i64 kd,.string ⟨nm.toArray⟩,.int .i64 ps,.int .i64 fl,.string ⟨ty.toArray⟩,.string ⟨vl.toArray⟩,u,v] T)).heap.size (w.alloc (.cells #[.int .i64 kd,.string ⟨nm.toArray⟩,.int .i64 ps,.int .i64 fl,.string ⟨ty.toArray⟩,.string ⟨vl.toArray⟩,u,v] T)) W->W.cell? ⟨w.heap.size,0,none⟩=some (.int .i64 kd)/\W.cell? ⟨w.heap.size,1,none⟩=some (.string ⟨nm.toArray⟩)/\W.cell? ⟨w.heap.size,2,none⟩=some (.int .i64 ps)/\W.cell? ⟨w.heap.size,3,none⟩=some (.int .i64 fl)/\W.cell? ⟨w.heap.size,4,none⟩=some (.string ⟨ty.toArray⟩)/\W.cell? ⟨w.heap.size,5,none⟩=some (.string ⟨vl.toArray⟩)/\W.cell? ⟨w.heap.size,6,none⟩=some (u)/\W.cell? ⟨w.heap.size,7,none⟩=some (v):=by
 intro W hb;have h:=fun i=>hb.cell (p:=⟨w.heap.size,i,none⟩) (by simp);have k:=World.news_of_block (cs:=#[.int .i64 kd,.string ⟨nm.toArray⟩,.int .i64 ps,.int .i64 fl,.string ⟨ty.toArray⟩,.string ⟨vl.toArray⟩,u,v]) (t:=T) (fr:=(0,0)) (heap_alloc_new w _);exact ⟨(h 0).trans (k 0 _ rfl),(h 1).trans (k 1 _ rfl),(h 2).trans (k 2 _ rfl),(h 3).trans (k 3 _ rfl),(h 4).trans (k 4 _ rfl),(h 5).trans (k 5 _ rfl),(h 6).trans (k 6 _ rfl),(h 7).trans (k 7 _ rfl)⟩
def En.size (e:En):Nat:=e.1.size+e.2.length+totLb e.2
def totE (l:List En):Nat:=(l.map En.size).sum
theorem totE_succ {l:List En} {k:Nat} (h:k < l.length):totE (l.take (k+1))=totE (l.take k)+l[k].size:=by
 rw [List.take_succ_eq_append_getElem h,totE,List.map_append,List.sum_append];simp [totE]
theorem totE_mem {l:List En} {x:En} (h:x∈l):x.size<=totE l:=by
 induction l with
 | nil=>simp at h
 | cons a r ih =>
  simp only [totE,List.map_cons,List.sum_cons];rcases List.mem_cons.1 h with rfl | h
  ·omega
  ·have:=ih h;simp only [totE] at this;omega
noncomputable def namedAt (d:Dc) (n:List UInt8):Int :=
 if d.name=n then 0 else match d.ctors.findIdx? (fun c=>decide (c.1=n)) with
  | some k=>(k:Int)+1
  | none=>if d.kind=4/\d.name ++ 46 :: recB=n then (d.ctors.length:Int)+1 else -1
theorem namedAt_own {d:Dc} {n:List UInt8} (h:d.name=n):namedAt d n=0:=iP h
theorem namedAt_ctor {d:Dc} {n:List UInt8} (h:d.name≠n) {k:Nat} (hk:k < d.ctors.length) (h1:d.ctors[k].1=n) (h0:∀ j (hj:j < d.ctors.length),j < k->d.ctors[j].1≠n):namedAt d n=(k:Int)+1:=by
 unfold namedAt;rw [iN h];have e:d.ctors.findIdx? (fun c=>decide (c.1=n))=some k:=by
  rw [List.findIdx?_eq_some_iff_getElem];exact ⟨hk,by simpa using h1,fun j hj=>by simpa using h0 j (by omega) hj⟩
 rw [e]
theorem namedAt_rec {d:Dc} {n:List UInt8} (h:d.name≠n) (h0:∀ j (hj:j < d.ctors.length),d.ctors[j].1≠n):namedAt d n=if d.kind=4/\d.name ++ 46 :: recB=n then (d.ctors.length:Int)+1 else -1:=by
 unfold namedAt;rw [iN h];have e:d.ctors.findIdx? (fun c=>decide (c.1=n))=none:=by
  rw [List.findIdx?_eq_none_iff];intro x hx;obtain ⟨j,hj,rfl⟩:=List.getElem_of_mem hx;simpa using h0 j hj
 rw [e]
theorem namedAt_le (d:Dc) (n:List UInt8):-1<=namedAt d n/\namedAt d n<=(d.ctors.length:Int)+1:=by
 unfold namedAt;split
 ·omega
 ·split
  ·rename_i k hk;rw [List.findIdx?_eq_some_iff_getElem] at hk;obtain ⟨hk,_⟩:=hk;omega
  ·split<;>omega
noncomputable def found (n:List UInt8):List En->Nat->Int × Int × Int
 | [],_=>(0,-1,0)
 | e :: es,i=>if 0<=namedAt e.1 n/\declOk e.1=true then
   (if namedAt e.1 n=0 then (e.1.kind,(i:Int),0) else if namedAt e.1 n - 1 < (e.1.ctors.length:Int) then (5,(i:Int),namedAt e.1 n - 1) else (6,(i:Int),0))
  else found n es (i+1)
noncomputable def foundIn (env:List En) (n:List UInt8):Int × Int × Int:=found n env 0
theorem found_skip {env:List En} {n:List UInt8} {k:Nat} (hk:k < env.length) (h:¬ (0<=namedAt env[k].1 n/\declOk env[k].1=true)):found n (env.drop k) k=found n (env.drop (k+1)) (k+1):=by
 rw [List.drop_eq_getElem_cons hk,found,iN h]
theorem found_hit {env:List En} {n:List UInt8} {k:Nat} (hk:k < env.length) (h:0<=namedAt env[k].1 n/\declOk env[k].1=true):found n (env.drop k) k=(if namedAt env[k].1 n=0 then (env[k].1.kind,(k:Int),0) else if namedAt env[k].1 n - 1 < (env[k].1.ctors.length:Int) then (5,(k:Int),namedAt env[k].1 n - 1) else (6,(k:Int),0)):=by
 rw [List.drop_eq_getElem_cons hk,found,iP h]
theorem found_end {env:List En} {n:List UInt8} {k:Nat} (hk:env.length<=k):found n (env.drop k) k=(0,-1,0):=by
 rw [List.drop_eq_nil_of_le hk,found]
def EnvSmall (env:List En):Prop:=env.length<=1048576/\∀ e∈env,e.1.Small/\e.2.length<=1048576
theorem EnvSmall.ctors {env:List En} (h:EnvSmall env):∀ e∈env,e.1.ctors.length<=1048576/\e.2.length<=1048576:=fun e he=>⟨(h.2 e he).1.ctors,(h.2 e he).2⟩
theorem EnvSmall.of_tot {env:List En} (h:env.length+totE env<=1048576):EnvSmall env:=by
 refine ⟨by omega,fun e he=>?_⟩;have h1:=totE_mem he;unfold En.size at h1;exact ⟨Dc.small (by omega),by omega⟩
theorem env_at {xs:List Ev} {env:List En} (hx:xs.map (fun x=>x.1)=env) {k:Nat} (hk:k < env.length):∃ x:Ev,xs[k]?=some x/\x∈xs/\env[k]=x.1:=by
 have hl:xs.length=env.length:=by rw [← hx,List.length_map]
 refine ⟨xs[k]'(by omega),List.getElem?_eq_getElem _,List.getElem_mem _,?_⟩;simp [← hx]
theorem env_cells {W:World} {B g cap n:Nat} {xs:List Ev} (h:W.ownsRow B 55 8 (.slice (some ⟨g,0,none⟩) n cap) n (flatE xs)) {k:Nat} {x:Ev} (hk:k < n) (hn:xs.length=n) (ex:xs[k]?=some x):∀ i,i < 8->W.cell? ⟨g,k*8+i,none⟩=(ecells x)[i]?:=fun i hi =>
 (h.cellAt (k*8+i) (by omega)).trans (by rw [flatE_get (by omega) i hi];rw [List.getElem?_eq_getElem (by omega)] at ex;rw [Option.some.inj ex])
theorem CameE.len {w:World} {v:Value} {env:List En} (h:CameE w v env):∃ a c,v=.slice a env.length c:=by
 obtain ⟨xs,a0,cap,b,off,h0,h1,_⟩:=h;exact ⟨a0,cap,by rw [h1,← h0,List.length_map]⟩
def EnvRng (env:List En):Prop:=∀ e∈env,-9223372036854775808<=e.1.flags/\e.1.flags<=9223372036854775807
theorem CameE.rng {w:World} {v:Value} {env:List En} (h:CameE w v env):EnvRng env:=by
 obtain ⟨xs,a0,cap,b,off,h0,_,_,_,_,h5⟩:=h;intro e he;rw [← h0] at he;obtain ⟨x,hx,rfl⟩:=List.mem_map.1 he;exact (h5 x hx).2.2.2
theorem EnvIs.len {w:World} {B:Nat} {v:Value} {env:List En} (h:EnvIs w B v env):∃ a c,v=.slice a env.length c:=by
 obtain ⟨xs,h0,h1,_⟩:=h;obtain ⟨a,c,rfl⟩:=row_sliceD h1;exact ⟨a,c,by rw [← h0,List.length_map]⟩
theorem env_open {w:World} {B:Nat} {v:Value} {env:List En} (h:EnvIs w B v env) {j:Nat} {e:En} (he:env[j]?=some e) :
  ∃ (g cap:Nat) (ua:Option Addr) (uc:Nat),v=.slice (some ⟨g,0,none⟩) env.length cap/\j < env.length/\w.ownsRow B 88 2 (.slice ua e.1.ctors.length uc) e.1.ctors.length (flatC e.1.ctors) /\
   ∀ W,Below w.heap.size w W->W.cell? ⟨g,j*8,none⟩=some (.int .i64 e.1.kind)/\W.cell? ⟨g,j*8+1,none⟩=some (.string ⟨e.1.name.toArray⟩)/\W.cell? ⟨g,j*8+2,none⟩=some (.int .i64 e.1.params)/\W.cell? ⟨g,j*8+3,none⟩=some (.int .i64 e.1.flags)/\W.cell? ⟨g,j*8+4,none⟩=some (.string ⟨e.1.type.toArray⟩)/\W.cell? ⟨g,j*8+5,none⟩=some (.string ⟨e.1.value.toArray⟩)/\W.cell? ⟨g,j*8+6,none⟩=some (.slice ua e.1.ctors.length uc):=by
 obtain ⟨xs,hx,hr,ho⟩:=h;have hlx:xs.length=env.length:=by rw [← hx,List.length_map]
 obtain ⟨ra,rc,rfl⟩:=row_sliceD hr;rw [hlx] at hr |-;have hj:j < env.length:=by
  rw [List.getElem?_eq_some_iff] at he;exact he.1
 obtain ⟨x,ex,mx,hek⟩:=env_at hx hj;have hxe:e=x.1:=by
  rw [List.getElem?_eq_getElem hj] at he;rw [← Option.some.inj he,hek]
 subst hxe;obtain ⟨g,cap,e0,_,hgl⟩:=hr.form (by omega);cases e0;have hox:=(ho x mx).1;obtain ⟨⟨⟨kd,nm,ps,fl,ty,vl,cs⟩,ls⟩,u,vv⟩:=x;obtain ⟨ua,uc,hu⟩:=row_sliceD hox;simp only at hu hox;subst hu;refine ⟨g,_,ua,uc,rfl,hj,hox,fun W hW=>?_⟩;have a8:=env_cells (own_below hr hW) hj hlx ex;exact ⟨a8 0 (by decide),a8 1 (by decide),a8 2 (by decide),a8 3 (by decide),a8 4 (by decide),a8 5 (by decide),a8 6 (by decide)⟩
noncomputable def knownAll (env:List En):List (List UInt8):=env.flatMap fun e=>namesOf e.1
noncomputable def known (env:List En):List (List UInt8):=srt (knownAll env)
theorem knownAll_succ {env:List En} {k:Nat} (h:k < env.length):knownAll (env.take (k+1))=knownAll (env.take k) ++ namesOf env[k].1:=by
 unfold knownAll;rw [List.take_succ_eq_append_getElem h,List.flatMap_append];simp
theorem knownAll_len {env:List En} (k:Nat):(knownAll (env.take k)).length<=(knownAll env).length:=by
 conv=>rhs;rw [← List.take_append_drop k env]
 unfold knownAll;rw [List.flatMap_append,lA];omega
end Go.Proofs.YtcaahdjhbmmcnaaGreatDoor
