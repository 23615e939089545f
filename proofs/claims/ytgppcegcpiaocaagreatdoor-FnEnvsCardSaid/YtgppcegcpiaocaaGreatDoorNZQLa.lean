/- QLab QLib QEnv -/
import Derived.Deep.RegionHeld3
import Derived.Deep.DeepCutAuto
import Derived.BigQuiet
import Derived.Deep.RegionWith
import Derived.Test.YtgppcegcpiaocaaGreatDoorNQOwn
import Derived.Test.YtgppcegcpiaocaaGreatDoorNQD
import Derived.Test.YtgppcegcpiaocaaGreatDoorNQB
import Derived.Test.YtgppcegcpiaocaaGreatDoorNZGUs
import Derived.Test.YtgppcegcpiaocaaGreatDoorNQKnw
set_option maxRecDepth 100000
set_option maxHeartbeats 16000000
set_option linter.unusedSimpArgs false
set_option linter.unusedVariables false
namespace Go.Proofs.YtgppcegcpiaocaaGreatDoor
open Go.ChangeShapes Go.WideShapes Go.ChangeAt Go.RowKit
def rM (env:List En) (r:Int × Int × Int):List Lbl:=if r.1=0 then [] else match env[r.2.1.toNat]? with
|some e=>e.2
|none=>[]
noncomputable def qM (env:List En) (d:Dc):List Lbl:=uM d++(oI d).flatMap fun n=>rM env (yC env n)
noncomputable def uO (env:List En) (d:Dc):List Lbl:=L.srt L.ordL (qM env d)
theorem yO2{env:List En}{r:Int × Int × Int}{j:Nat}{e:En}(he:env[j]?=some e)(hj:r.2.1=(j:Int))(h0:r.1≠0):rM env r=e.2:=by
 unfold rM;rw[iN h0,hj,Int.toNat_natCast,he]
theorem aE{w:World}{B b:Nat}{v u:Value}{env:List En}{d:Dc}(h:uL w B v env)(hs:vE env)(hd:w.ownsRow b 75 2 u d.ctors.length (xM d.ctors))(hds:d.Small)(hlen:(qM env d).length<=2000000) :
  Calls Tryz.prog 31 #[v,d.val u] w (yU0 (uO env d) w):=by
 have HUS:=Ld (aA d);have hul:=gQ d;obtain⟨us,hus⟩:∃ us,oI d=us:=⟨_,rfl⟩;obtain⟨lk,hlk⟩:∃ lk:Nat->List Lbl,(fun k=>uM d++(us.take k).flatMap fun n=>rM env (yC env n))=lk:=⟨_,rfl⟩;have E0:Hid (lk 0=uM d):=by rw[Hid,← hlk];simp
 have E9:Hid (uO env d=L.srt L.ordL (lk us.length)):=by rw[Hid,← hlk];simp only[List.take_length];rw[← hus];rfl
 have ES:Hid (∀ (k:Nat) (hk:k<us.length),lk (k+1)=lk k++rM env (yC env us[k])):=by
  intro k hk;rw[← hlk];simp only;rw[List.take_succ_eq_append_getElem hk,List.flatMap_append,← List.append_assoc];simp
 have EL:Hid (∀ k,(lk k).length<=2000000):=by
  intro k;refine Nat.le_trans ?_ hlen;rw[← hlk];unfold qM;rw[hus]
  conv=>rhs;rw[← List.take_append_drop k us]
  rw[List.flatMap_append,← List.append_assoc];simp
 rw[hus] at HUS hul;have FO:=Ld fun (W:World) (hW:Below w.heap.size w W)=>aC (zA hd hW) hds;have FU:=Ld fun (W:World) (hW:Below w.heap.size w W)=>yA5 (zA hd hW) hds;unfold xG4 at FO;unfold nZ at FU;rw[hus] at FU;rw[← E0.out] at FO;have FF:=Ld fun (W:World) (hW:Below w.heap.size w W) (n:List UInt8) (hn:n.length<=1048576)=>zO4 (h.below hW) hs n (by omega);have HAT:Hid (∀ (W:World),Below w.heap.size w W->∀ (r:Int × Int × Int),zN0 env r->r.1≠0->∃ (j g cap:Nat) (u2:Value),j<env.length/\r.2.1=(j:Int)/\v=.slice (some ⟨g,0,none⟩) env.length cap/\W.cell? ⟨g,j*8+7,none⟩=some u2/\W.ownsRow B 125 2 u2 (rM env r).length (flat (rM env r))):=by
  intro W hW r hr h0;rcases hr with rfl|⟨j,e,he,_,hj,_⟩
  ·exact absurd rfl h0
  obtain⟨xs,hx,hrow,ho⟩:=h.below hW;have hlx:xs.length=env.length:=(by rw[← hx,List.length_map]);have hjl:j<env.length:=by
   rw[List.getElem?_eq_some_iff] at he;exact he.1
  obtain⟨x,ex,mx,hek⟩:=zL1 hx hjl;rw[hlx] at hrow;obtain⟨g,cap,e0,_,hgl⟩:=hrow.form (by omega);subst e0;have hxe:e=x.1:=by
   rw[List.getElem?_eq_getElem hjl] at he;rw[← Option.some.inj he,hek]
  rw[yO2 he hj h0];subst hxe;exact⟨j,g,cap,x.2.2,hjl,hj,rfl,nH hrow hjl hlx ex 7 (by decide),(ho x mx).2⟩
 have hv:∃ a c,v=.slice a env.length c:=by
  obtain⟨xs,hx,hr,_⟩:=h;obtain⟨ra,rc,rfl⟩:=zK hr;exact⟨ra,rc,by rw[← hx,List.length_map]⟩
 have HFP:=Ld (kH env);obtain⟨va,vc,hve⟩:=hv;subst hve;generalize uO env d=res at E9 |-;obtain⟨kd,nm,ps,fl,ty,vl,cs⟩:=d;obtain⟨ua,uc,rfl⟩:=zK hd;have hval:=gG kd nm ps fl ty vl cs (.slice ua cs.length uc);simp only[hval] at FO FU |-;have HB0:=Ld (zE w (dC kd nm ps fl ty vl (.slice ua cs.length uc) 37));have HX:=Ld (xG (w:=w) (kd:=kd) (ps:=ps) (fl:=fl) (nm:=nm) (ty:=ty) (vl:=vl) (u:=.slice ua cs.length uc));obtain⟨W0,hW0⟩:∃ W0,w.alloc (dC kd nm ps fl ty vl (.slice ua cs.length uc) 37)=W0:=⟨_,rfl⟩;rw[hW0] at HB0 HX;obtain⟨c0,c1,c2,c3,c4,c5,c6⟩:=HX.out W0 (bR _ _);have f1:=Ld (FO.out W0 HB0.out);clear h hs hd hds hlen hval hus hlk E0 FO;go_enter Tryz.func31,Tryz.ntmps31;go_wp2_with fail;(with_reducible refine f1.out.mono ?_);rintro e w1 ⟨o1,rfl,ho1,hb1⟩;clear hW0;have HX1:=Ld hb1;have HO1:=Ld (yG ho1 HB0.out.size);have HB1:=bt HB0.out hb1;have f2:=Ld (FU.out w1 HB1.out);clear ho1 hb1 f1 FU c0 c1 c2 c3 c4 c5 c6;obtain⟨c0,c1,c2,c3,c4,c5,c6⟩:=HX.out w1 HX1.out;go_wp2_with fail;(with_reducible refine f2.out.mono ?_);rintro e w2 ⟨uv,rfl,hu2,hb2⟩;have HO2:=Ld (zA HO1.out hb2);have HB2:=bt HB1.out hb2;obtain⟨ua2,uc2,rfl⟩:=xZ hu2;have HU:=Ld hu2;have zB:=HB1.out.size;clear hb2 hu2 f2 HO1 HX1 HX c0 c1 c2 c3 c4 c5 c6;go_wp2
 go_loopw [5,7] (fun o i wr=>∃ (k:Nat) (oo:Value),k<=us.length/\i=.int .i64 k/\oo=o/\Hid (wr.ownsRow w.heap.size 125 2 oo (lk k).length (flat (lk k)))/\Hid (Below w.heap.size w wr)/\Hid (wr.ownsRow w1.heap.size 9 1 (.slice ua2 us.length uc2) us.length (us.map sv))) (fun _ i _=>us.length - (intOf i).toNat)
 case atStart=>exact⟨0,_,Nat.zero_le _,rfl,rfl,HO2.out,HB2.out,HU.out⟩
 case round =>
  obtain⟨k,oo,hk,rfl,rfl,HO,HW,HU⟩:=hrel;clear HO2 HB2;have hz:=HW.out.size;have hlk:=EL.out k;by_cases hlt:k<us.length;rotate_left
  ·obtain rfl:k=us.length:=(by omega);have fS:=Ld (L.specSortedOwn HO.out (by omega));unfold yU0 at fS;have HWo:=Ld HW.out;clear HAT HFP HUS EL ES FF HU;generalize L.srt L.ordL (lk us.length)=sl at fS E9;clear hlk;go_wp2_with fail;(with_reducible refine fS.out.mono ?_);rintro e w8 ⟨v8,rfl,hv8,hb8⟩;have HW8:=Ld (HWo.out.trans (hb8.mono hz));have HV8:=Ld (yG hv8 hz);clear hv8 hb8 fS HO HW HWo;go_wp2;go_ret;rw[E9.out];exact⟨_,rfl,HV8.out,HW8.out⟩
  have HT:=Ld (ES.out k hlt);have hlk2:=EL.out (k+1);have hns:=HUS.out us[k] (List.getElem_mem hlt);obtain⟨g0,cap0,eg,_,hgl⟩:=HU.out.form (by omega);cases eg;have x1:=HU.out.cellAt k (by omega);rw[List.getElem?_map,List.getElem?_eq_getElem hlt] at x1;have x2:wr.cell? ⟨g0,k,none⟩=some (.string ⟨us[k].toArray⟩):=x1;have hfp:=HFP.out us[k];have f3:=Ld (FF.out wr HW.out us[k] hns);have q1:=zn k;have q2:(k:Int)<(us.length:Int):=(by omega);have HAT2:=Ld fun W hW=>HAT.out W hW (yC env us[k]) hfp;clear HUS FF EL ES E9 HFP HAT x1 hns;generalize us[k]=nn at x2 hfp f3 HT HAT2;have hl2:(lk k).length+(rM env (yC env nn)).length<=2000000:=by
   have:=congrArg List.length HT.out;rw[lA] at this;omega
  obtain⟨⟨r0,r1,r2⟩,hrr⟩:∃ rr,yC env nn=rr:=⟨_,rfl⟩;rw[hrr] at f3 hfp HT HAT2 hl2;unfold uD at f3;simp only at f3;clear hrr;go_wp2_with fail;(with_reducible refine mo f3.out fun w3 hb3=>?_);have HW3:=Ld (HW.out.trans (hb3.mono hz));have HO3:=Ld (zA HO.out hb3);have HU3:=Ld (zA HU.out hb3);clear hb3 f3 HO HU HW x2 hfp;by_cases h0:r0=0
  ·have e0:(r0 != 0)=false:=(by rw[bne_eq_false_iff_eq];exact h0);have HT2:Hid (lk (k+1)=lk k):=(by rw[Hid,HT.out,rM,iP h0,List.append_nil]);clear HT HAT2 hl2;go_wp2;go_roundw
   case rel=>exact⟨k+1,_,by omega,by go_num,rfl,by rw[HT2.out];exact HO3.out,HW3.out,HU3.out⟩
   case measure=>simp[intOf];omega
  have e0:(r0 != 0)=true:=(by rw[bne_iff_ne];exact h0);obtain⟨j,g,cap,u2,hj,hje,hve,p7,ho7⟩:=HAT2.out w3 HW3.out h0;have hje2:r1=(j:Int):=hje;clear hje;subst hje2;injection hve with e1 e2 e3;subst e1;subst e3;have t1:=zn j;have t2:(j:Int)<(env.length:Int):=(by omega);have HO7:=Ld ho7;generalize rM env (r0,(j:Int),r2)=la at HO7 HT hl2;clear HAT2 h0 ho7 e2;go_wp2_with (at_builtin;refine xD rfl _ _ rfl rfl rfl HO3.out HO7.out (by omega) HW3.out.size ?_;intro vA wA hoA hbA hgA);have HO4:Hid (wA.ownsRow w.heap.size 125 2 vA (lk (k+1)).length (flat (lk (k+1)))):=by
   rw[Hid,HT.out];exact hoA
  have HW4:=Ld (HW3.out.trans hbA);have HU4:=Ld (pC HU3.out HO3.out (by decide) hgA);clear hoA hbA hgA HT p7 HO7 HO3 HU3;go_wp2;go_roundw
  case rel=>exact⟨k+1,_,by omega,by go_num,rfl,HO4.out,HW4.out,HU4.out⟩
  case measure=>simp[intOf];omega
noncomputable def xL:Nat->List En
|0=>[]
|k+1=>xL k++[(pK k,uO (xL k) (pK k))]
theorem pR:∀ k,(xL k).length=k
|0=>rfl
|k+1=>by rw[xL,lA,pR k];rfl
theorem eD:∀ k,(xL k).map (fun e=>e.1)=(List.range k).map pK
|0=>rfl
|k+1=>by rw[xL,List.map_append,eD k,List.range_succ,List.map_append];rfl
theorem yX0{α:Type}[DecidableEq α]:∀ {l S:List α},l.Nodup->(∀ x∈l,x∈S)->l.length<=S.length:=by
 intro l
 induction l with
|nil=>intro S _ _;exact Nat.zero_le _
|cons x l ih =>
  intro S hn hs;rw[List.nodup_cons] at hn;have hx:=hs x (List.mem_cons_self ..);have h1:=ih (S:=S.erase x) hn.2 fun y hy=>by
   have hne:y≠x:=fun e=>hn.1 (e ▸ hy);exact(List.mem_erase_of_ne hne).2 (hs y (List.mem_cons_of_mem _ hy))
  have h2:=List.length_erase_of_mem hx;have h3:=List.length_pos_of_mem hx;rw[lC];omega
def sO:List Lbl:=([1,2,3,4,5]:List Int).flatMap fun k=>((List.range 18).map pK).map fun d=>(k,d.name)
theorem zA4:sO.length=90:=by decide
theorem zA3{k:Int}{i:Nat}(hk:k=1\/k=2\/k=3\/k=4\/k=5)(hi:i<18):(k,(pK i).name)∈sO:=by
 unfold sO;rw[List.mem_flatMap];refine⟨k,by rcases hk with rfl|rfl|rfl|rfl|rfl<;>decide,?_⟩;rw[List.mem_map];exact⟨pK i,List.mem_map.2 ⟨i,List.mem_range.2 hi,rfl⟩,rfl⟩
theorem aQ{d:Dc}{x:Lbl}(h:x∈uM d):(x.1=1\/x.1=2\/x.1=3\/x.1=4\/x.1=5)/\x.2=d.name:=by
 unfold uM at h;split at h
 ·simp only[List.mem_append] at h;rcases h with (((h|h)|h)|h)|h
  all_goals
   split at h
   ·simp only[List.mem_cons,List.not_mem_nil,or_false] at h;subst h;simp
   ·cases h
 ·cases h
theorem aR(d:Dc):(uM d).length<=5:=by
 unfold uM;split
 ·have h:∀ (p:Prop) [Decidable p] (x:Lbl),(if p then [x] else []).length<=1:=fun p _ x=>by split<;>simp
  simp only[lA];have h1:=h (d.kind=1) (1,d.name);have h2:=h (d.kind=3) (2,d.name);have h3:=h (qE d 1=true) (3,d.name);have h4:=h (qE d 2=true) (4,d.name);have h5:=h (qE d 4=true) (5,d.name);omega
 ·simp
theorem yD7{env:List En}{r:Int × Int × Int}{x:Lbl}(h:x∈rM env r):∃ e∈env,x∈e.2:=by
 unfold rM at h;split at h
 ·cases h
 ·split at h
  ·rename_i e he;exact⟨e,List.mem_of_getElem? he,h⟩
  ·cases h
theorem yO1{env:List En}{r:Int × Int × Int}{n:Nat}(hn:∀ e∈env,e.2.length<=n):(rM env r).length<=n:=by
 unfold rM;split
 ·simp
 ·split
  ·rename_i e he;exact hn e (List.mem_of_getElem? he)
  ·simp
theorem yP9{α β:Type}{l:List α}{f:α->List β}{n:Nat}(h:∀ x∈l,(f x).length<=n):(l.flatMap f).length<=l.length*n:=by
 induction l with
|nil=>simp
|cons x l ih =>
  have h1:=h x (List.mem_cons_self ..);have h2:=ih fun y hy=>h y (List.mem_cons_of_mem _ hy);rw[List.flatMap_cons,lA,lC,Nat.succ_mul];omega
theorem kA{k:Nat}(hk:k<18)(h1:∀ e∈xL k,∀ x∈e.2,x∈sO)(h2:∀ e∈xL k,e.2.length<=90) :
  (∀ x∈uO (xL k) (pK k),x∈sO)/\(uO (xL k) (pK k)).length<=90/\(qM (xL k) (pK k)).length<=2000000:=by
 have hm:∀ x∈qM (xL k) (pK k),x∈sO:=by
  intro x hx;unfold qM at hx;rw[List.mem_append] at hx;rcases hx with hx|hx
  ·obtain⟨a,b⟩:=aQ hx;have:=zA3 a hk;rw[← b] at this;exact this
  ·obtain⟨n,_,hn⟩:=List.mem_flatMap.1 hx;obtain⟨e,he,hxe⟩:=yD7 hn;exact h1 e he x hxe
 obtain⟨s1,s2,s3⟩:=L.srt_spec L.ordL (qM (xL k) (pK k)).length (qM (xL k) (pK k)) (nR _);have hm2:∀ x∈uO (xL k) (pK k),x∈sO:=fun x hx=>hm x ((s2 x).1 hx);refine⟨hm2,?_,?_⟩
 ·have hnd:(uO (xL k) (pK k)).Nodup:=by
   refine List.Pairwise.imp ?_ s1;intro a b hab e;subst e;have:=L.ordL.irr a;unfold L.SOrd.ls at hab;rw[this] at hab;cases hab
  have:=yX0 hnd hm2;rw[zA4] at this;exact this
 ·unfold qM;have a1:=aR (pK k);have a2:=gQ (pK k);have a3:=yP9 (l:=oI (pK k)) (f:=fun n=>rM (xL k) (yC (xL k) n)) (n:=90) fun n _=>yO1 h2;rw[lA];have:=Nat.mul_le_mul_right 90 a2;omega
theorem zX7:∀ k,k<=18->(∀ e∈xL k,∀ x∈e.2,x∈sO)/\(∀ e∈xL k,e.2.length<=90):=by
 intro k
 induction k with
|zero=>intro _;exact⟨fun e h=>(by cases h),fun e h=>(by cases h)⟩
|succ k ih =>
  intro hk;obtain⟨i1,i2⟩:=ih (by omega);obtain⟨l1,l2,l3⟩:=kA (by omega) i1 i2;constructor
  ·intro e he;rw[xL,List.mem_append] at he;rcases he with he|he
   ·exact i1 e he
   ·simp only[List.mem_cons,List.not_mem_nil,or_false] at he;subst he;exact l1
  ·intro e he;rw[xL,List.mem_append] at he;rcases he with he|he
   ·exact i2 e he
   ·simp only[List.mem_cons,List.not_mem_nil,or_false] at he;subst he;exact l2
theorem yY6{k:Nat}(hk:k<18):(qM (xL k) (pK k)).length<=2000000:=by
 obtain⟨h1,h2⟩:=zX7 k (by omega);exact(kA hk h1 h2).2.2
theorem yN0{i:Nat}(hi:i<18):(pK i).size<=1048576:=by
 have e:i=0\/i=1\/i=2\/i=3\/i=4\/i=5\/i=6\/i=7\/i=8\/i=9\/i=10\/i=11\/i=12\/i=13\/i=14\/i=15\/i=16\/i=17:=by omega
 rcases e with rfl|rfl|rfl|rfl|rfl|rfl|rfl|rfl|rfl|rfl|rfl|rfl|rfl|rfl|rfl|rfl|rfl|rfl<;>decide
theorem cY{i:Nat}(hi:i<18):(pK i).Small:=Dc.small (yN0 hi)
theorem uY{k:Nat}(hk:k<=18):vE (xL k):=by
 obtain⟨h1,h2⟩:=zX7 k hk;refine⟨by rw[pR];omega,fun e he=>⟨?_,Nat.le_trans (h2 e he) (by decide)⟩⟩;have:=List.mem_map_of_mem (f:=fun e:En=>e.1) he;rw[eD,List.mem_map] at this;obtain⟨i,hi,e2⟩:=this;rw[← e2];exact cY (by have:=List.mem_range.1 hi;omega)
theorem yL1{l:List Ev}(h:∀ x∈l,(∃ a n c,x.2.1=.slice a n c)/\∃ a n c,x.2.2=.slice a n c):∀ u∈rR l,u.oneCell'=true:=by
 intro u hu;obtain⟨x,hm,hx⟩:=List.mem_flatMap.1 hu;obtain⟨⟨a,n,c,e1⟩,⟨a2,n2,c2,e2⟩⟩:=h x hm;simp only[rT,List.mem_cons,List.mem_nil_iff,or_false] at hx;rcases hx with rfl|rfl|rfl|rfl|rfl|rfl|rfl|rfl
 all_goals first|rfl|(rw[e1];rfl)|(rw[e2];rfl)
theorem gK{w:World}{o:Oper}{a:Act}{K:Act->World->Prop}{Q:Exit->Act->World->Prop}(s x:Operand)
  (ho:o.op=.call { callee:=.builtin .append,args:=#[s,x],argTypes:=#[24,24] }) {base b2:Nat} {v1 v2:Value} {l1 l2:List Ev}
  (hs:a.eval s=v1) (hx:a.eval x=v2) (h1:w.ownsRow base 40 8 v1 l1.length (rR l1)) (h2:w.ownsRow b2 40 8 v2 l2.length (rR l2)) (hsl:∀ x∈l2,(∃ a n c,x.2.1=.slice a n c)/\∃ a n c,x.2.2=.slice a n c) (hn:l1.length+l2.length<=2000000) (hb:base<=w.heap.size)
  (h:∀ v' w',w'.ownsRow base 40 8 v' (l1++l2).length (rR (l1++l2))->Below base w w'->w.grownBy w' v1.ownBlock->K (a.put o.dst v') w'):o.wp Tryz.prog a w K Q:=by
 obtain⟨i0,hi,iz0,iz1,iz2⟩:=info_parts infoEn;rcases id h2.2 with ⟨e,e0⟩|⟨g,cap,cur,e,hbg,hg,hnc,hm,hsz,ht⟩
 ·have e2:l2=[]:=List.length_eq_zero_iff.1 e0;subst e2;have hK:K (a.put o.dst v1) w:=h _ _ (by simpa using h1) (bR _ _) (World.grownBy.refl _ _);have hrun:=run_append_owned_none (P:=Tryz.prog) (w:=w) base 24 o.type 40 i0 8 Tryz.underlying24 hi v1 _ _ h1;have hx':=hx.trans e;clear h h1 h2 hsl;unfold Oper.wp;simp[execOp,ho,resolve,invoke,builtin,hs,hx',hrun,Result.andThen];exact hK
 ·refine wp_append_own w s x _ ho base 40 i0 _ 8 120 Tryz.underlying24 hi iz0 iz1 iz2 rfl (by decide) v1 _ _ hs h1 ⟨g,0,none⟩ l2.length cap (rR l2) (hx.trans e) (by rw[iR]) ?_ (yL1 hsl) (by simp only[maxLen];omega) (by omega) hb ?_
  ·intro j u hu;obtain⟨hj,rfl⟩:=List.getElem?_eq_some_iff.1 hu;have hj2:j<l2.length*8:=(by rw[← iR];exact hj);subst e;rw[add_plain,Nat.zero_add,h2.cellAt j (by omega),List.getElem?_eq_getElem hj]
  ·intro v' w' h3 h4 _;refine h v' w' ?_ ((bR base w).grown h4 hb (fun q hq=>(h1.lt q hq).1)) h4;rw[lA,zK5];exact h3
theorem kW{w:World}{ops:Array Oper}{o:Oper}{a:Act}{K:Act->World->Prop}{Q:Exit->Act->World->Prop}{E:Prop}(hgd:o.guard=none)(s x:Operand)
  (ho:o.op=.call { callee:=.builtin .append,args:=#[s,x],argTypes:=#[24,24] }) {base b2:Nat} {v1 v2:Value} {l1 l2:List Ev}
  (hs:a.eval s=v1) (hx:a.eval x=v2) (h1:w.ownsRow base 40 8 v1 l1.length (rR l1)) (h2:w.ownsRow b2 40 8 v2 l2.length (rR l2)) (hsl:∀ x∈l2,(∃ a n c,x.2.1=.slice a n c)/\∃ a n c,x.2.2=.slice a n c) (hn:l1.length+l2.length<=2000000) (hb:base<=w.heap.size)
  (h:∀ v' w',w'.ownsRow base 40 8 v' (l1++l2).length (rR (l1++l2))->Below base w w'->w.grownBy w' v1.ownBlock->K (a.put o.dst v') w'):if Region.wanted o (yielded ops a.tmps)=true then Oper.wp Tryz.prog o a w K Q else E:=by
 have hw:Region.wanted o (yielded ops a.tmps)=true:=by simp[Region.wanted,hgd]
 rw[iP hw];exact gK s x ho hs hx h1 h2 hsl hn hb h
theorem uL.snoc{w w':World}{B:Nat}{v v':Value}{xs:List Ev}{y:Ev}(hr:w.ownsRow B 40 8 v xs.length (rR xs))(ho:∀ x∈xs,zV4 w B x)(hy:zV4 w B y)(hw:w'.ownsRow B 40 8 v' (xs++[y]).length (rR (xs++[y])))(hg:w.grownBy w' v.ownBlock):uL w' B v' (xs.map (fun x=>x.1)++[y.1]):=by
 refine⟨xs++[y],by simp,hw,fun x hx=>?_⟩;have hk:zV4 w B x:=by
  rw[List.mem_append] at hx;rcases hx with hx|hx
  ·exact ho x hx
  ·simp only[List.mem_cons,List.not_mem_nil,or_false] at hx;rw[hx];exact hy
 exact⟨pC hk.1 hr (by decide) hg,pC hk.2 hr (by decide) hg⟩
def zZ6 (env:List En) (w:World) (e:Ending) (w':World):Prop:=∃ v,e=.returned v/\uL w' w.heap.size v env/\Below w.heap.size w w'
theorem yA7(w:World):Calls Tryz.prog 15 #[.int .i64 18] w (zZ6 (xL 18) w):=by
 have hb0:=zE w (.cells #[] 40);have he0:uL (w.alloc (.cells #[] 40)) w.heap.size (.slice (some ⟨w.heap.size,0,none⟩) 0 0) (xL 0):=⟨[],rfl,World.ownsRow_lit w #[] 0 (nR _) (by decide) (by simp[rR]),fun x h=>by cases h⟩;have HB0:=Ld hb0;have HE0:=Ld he0;clear hb0 he0;go_enter Tryz.func15,Tryz.ntmps15;go_wp2;go_loopw [3,4] (fun o i wr=>∃ (k:Nat) (oo:Value),k<=18/\i=.int .i64 k/\oo=o/\Hid (uL wr w.heap.size oo (xL k))/\Hid (Below w.heap.size w wr)) (fun _ i _=>18 - (intOf i).toNat)
 case atStart=>exact⟨0,_,Nat.zero_le _,rfl,rfl,HE0.out,HB0.out⟩
 case round =>
  obtain⟨k,oo,hk,rfl,rfl,HE,HW⟩:=hrel;clear HE0 HB0;have hz:=HW.out.size;by_cases hlt:k<18;rotate_left
  ·obtain rfl:k=18:=(by omega);go_wp2;go_ret;exact⟨_,rfl,HE.out,HW.out⟩
  have f1:=Ld (yO3 hlt wr);have hsm:=cY hlt;have FL:=Ld fun (W:World) (B b:Nat) (v u:Value) (h:uL W B v (xL k)) (hd:W.ownsRow b 75 2 u (pK k).ctors.length (xM (pK k).ctors))=>aE h (uY (Nat.le_of_lt hlt)) hd hsm (yY6 hlt);have HN:Hid (xL (k+1)=xL k++[(pK k,uO (xL k) (pK k))]):=rfl;have hll:(xL k).length<=18:=(by rw[pR];omega);generalize uO (xL k) (pK k)=ll at FL HN;unfold bY at f1;unfold yU0 at FL;clear hsm;generalize pK k=d at f1 FL HN;obtain⟨kd,nm,ps,fl,ty,vl,cs⟩:=d;have hval:∀ u,Dc.val ⟨kd,nm,ps,fl,ty,vl,cs⟩ u=.agg #[.int .i64 kd,.string ⟨nm.toArray⟩,.int .i64 ps,.int .i64 fl,.string ⟨ty.toArray⟩,.string ⟨vl.toArray⟩,u]:=fun u=>rfl;simp only[hval] at f1 FL;clear hval;have q18:(k:Int)<18:=(by omega);go_wp2_with fail;(with_reducible refine f1.out.mono ?_);rintro e w1 ⟨u,rfl,hu,hb1⟩;obtain⟨ua,uc,rfl⟩:=zK hu;have HX:=Ld (xG (w:=w1) (kd:=kd) (ps:=ps) (fl:=fl) (nm:=nm) (ty:=ty) (vl:=vl) (u:=.slice ua cs.length uc));have HBX:=Ld (zE w1 (dC kd nm ps fl ty vl (.slice ua cs.length uc) 37));have HW1:=Ld (HW.out.trans (hb1.mono hz));have HE1:=Ld (HE.out.below hb1);have HNE:Hid (some w1.heap.size≠oo.ownBlock):=by
   obtain⟨xs,_,hr,_⟩:=HE.out;intro e;have h1:=(hr.lt _ e.symm).2;have h2:=hb1.size;omega
  have HU1:Hid (w1.ownsRow w.heap.size 75 2 (.slice ua cs.length uc) cs.length (xM cs)):=yG hu hz;clear hu hb1 f1 HE;obtain⟨W2,hW2⟩:∃ W2,w1.alloc (dC kd nm ps fl ty vl (.slice ua cs.length uc) 37)=W2:=⟨_,rfl⟩;rw[hW2] at HX HBX;have HE2:=Ld (HE1.out.below HBX.out);have HU2:=Ld (zA HU1.out HBX.out);have HW2:=Ld (HW1.out.trans (HBX.out.mono HW1.out.size));have hdr:Below W2.heap.size W2 W2.drew:=(bR _ _).drew;have f5:=Ld (FL.out W2.drew _ _ _ _ (HE2.out.below hdr) (zA HU2.out hdr));obtain⟨c0,c1,c2,c3,c4,c5,c6⟩:=HX.out W2 (bR _ _);clear HE1 HU1 HW1 FL HBX hdr;obtain⟨xs,hx,hr,ho⟩:=HE2.out;have HX2:=Ld hx;have HR2:=Ld hr;have HO2:=Ld ho;have hxl:xs.length<=18:=(by rw[← hx,List.length_map] at hll;exact hll);have zz:=HW2.out.size;clear hx hr ho;go_upto_region 6 with fail;clear hW2;go_region_held3 (fun w'=>w'.cell? ⟨w1.heap.size,0,none⟩=some (.int .i64 kd)/\w'.cell? ⟨w1.heap.size,1,none⟩=some (.string ⟨nm.toArray⟩)/\w'.cell? ⟨w1.heap.size,2,none⟩=some (.int .i64 ps)/\w'.cell? ⟨w1.heap.size,3,none⟩=some (.int .i64 fl)/\w'.cell? ⟨w1.heap.size,4,none⟩=some (.string ⟨ty.toArray⟩)/\w'.cell? ⟨w1.heap.size,5,none⟩=some (.string ⟨vl.toArray⟩)/\w'.cell? ⟨w1.heap.size,6,none⟩=some (.slice ua cs.length uc)) (first|exact XA|exact X6|exact X5|exact⟨c0,c1,c2,c3,c4,c5,c6⟩)
   (first
  |(go_at_call 31;(with_reducible refine f5.out.mono ?_);rintro e w5 ⟨lv,rfl,hlv,hb5⟩;obtain⟨la,lc,rfl⟩:=zK hlv;have hd5:=(bR W2.heap.size W2).drew.trans hb5;have X5:=HX.out _ hd5;have zd:=hd5.size;have hn2:Hid ((w5.alloc (.cells #[.int .i64 kd,.string ⟨nm.toArray⟩,.int .i64 ps,.int .i64 fl,.string ⟨ty.toArray⟩,.string ⟨vl.toArray⟩,.slice ua cs.length uc,.slice la ll.length lc] 40)).ownsRow w.heap.size 40 8 (.slice (some ⟨w5.heap.size,0,none⟩) 1 1) 1 (rR [((⟨kd,nm,ps,fl,ty,vl,cs⟩,ll),.slice ua cs.length uc,.slice la ll.length lc)])):=World.ownsRow_lit w5 #[.int .i64 kd,.string ⟨nm.toArray⟩,.int .i64 ps,.int .i64 fl,.string ⟨ty.toArray⟩,.string ⟨vl.toArray⟩,.slice ua cs.length uc,.slice la ll.length lc] 1 (Nat.le_trans zz zd) (by decide) (by simp[rR,rT,sv]);have hd6:=hd5.alloc zd (.cells #[.int .i64 kd,.string ⟨nm.toArray⟩,.int .i64 ps,.int .i64 fl,.string ⟨ty.toArray⟩,.string ⟨vl.toArray⟩,.slice ua cs.length uc,.slice la ll.length lc] 40);have X6:=HX.out _ hd6)
  |(refine kW (by rfl) _ _ (by rfl) (by rfl) (by rfl) (l2:=[((⟨kd,nm,ps,fl,ty,vl,cs⟩,ll),.slice ua cs.length uc,.slice la ll.length lc)]) (zA HR2.out hd6) hn2.out (fun x hx=>by simp only[List.mem_cons,List.not_mem_nil,or_false] at hx;subst hx;exact⟨⟨_,_,_,rfl⟩,⟨_,_,_,rfl⟩⟩) (by simp only[lC,List.length_nil];omega) (Nat.le_trans zz hd6.size) ?_;intro vA wA hoA hbA hgA;obtain⟨b0,b1,b2,b3,b4,b5,b6⟩:=X6;have XA:=And.intro (hgA.cell b0 HNE.out) (And.intro (hgA.cell b1 HNE.out) (And.intro (hgA.cell b2 HNE.out) (And.intro (hgA.cell b3 HNE.out) (And.intro (hgA.cell b4 HNE.out) (And.intro (hgA.cell b5 HNE.out) (hgA.cell b6 HNE.out))))))))
  all_goals
   have HE6:Hid (uL wA w.heap.size vA (xL (k+1))):=by
    rw[Hid,HN.out,← HX2.out];exact uL.snoc (y:=((⟨kd,nm,ps,fl,ty,vl,cs⟩,ll),.slice ua cs.length uc,.slice la ll.length lc)) (zA HR2.out hd6) (fun x hx=>(HO2.out x hx).below hd6) ⟨zA HU2.out hd6,yG (zA hlv (zE _ _)) (Nat.le_trans zz (nR _))⟩ hoA hgA
   have HW6:=Ld (HW2.out.trans ((hd6.mono zz).trans hbA));clear hoA hgA hbA hlv hb5 hd5 hd6 hn2 XA X5 b0 b1 b2 b3 b4 b5 b6 HR2 HO2 HX2 HE2 HU2 HW2 HN HX HNE f5 c0 c1 c2 c3 c4 c5 c6;go_wp2;go_roundw
   case rel=>exact⟨k+1,_,by omega,by go_num,rfl,HE6.out,HW6.out⟩
   case measure=>simp[intOf];omega
theorem fB(w:World):Calls Tryz.prog 5 #[] w (zZ6 (xL 18) w):=by
 have f1:=Ld (yA7 w);unfold zZ6 at f1;go_enter Tryz.func5,Tryz.ntmps5;go_wp2_with fail;(with_reducible refine f1.out.mono ?_);rintro e w1 ⟨v,rfl,hv,hb1⟩;have HV:=Ld hv;have HB:=Ld hb1;clear hv hb1 f1;go_wp2;go_ret;exact⟨_,rfl,HV.out,HB.out⟩
end Go.Proofs.YtgppcegcpiaocaaGreatDoor
