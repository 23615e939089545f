/- QNam QFind QMany QLawF -/
import Derived.Laws.Cover1
import Derived.Test.YtcaahdjhbmmcnaaGreatDoorYQB
import Derived.Test.YtcaahdjhbmmcnaaGreatDoorYP5
import Derived.Test.YtcaahdjhbmmcnaaGreatDoorYG2
import Derived.Test.YtcaahdjhbmmcnaaGreatDoorYKA
import Derived.Test.YtcaahdjhbmmcnaaGreatDoorYJ1
import Derived.Test.YtcaahdjhbmmcnaaGreatDoorYQC
set_option maxRecDepth 100000
set_option maxHeartbeats 16000000
set_option linter.unusedSimpArgs false
set_option linter.unusedVariables false
namespace Go.Proofs.YtcaahdjhbmmcnaaGreatDoor
open Go.ChangeShapes Go.WideShapes Go.ChangeAt Go.RowKit
theorem recText12 (nm:List UInt8):(⟨nm.toArray⟩:ByteArray) ++ ⟨#[46,114,101,99]⟩=⟨(nm ++ 46 :: recB).toArray⟩:=by
 apply ByteArray.ext;simp [recB]
theorem specNamed {w:World} {d:Dc} {b:Nat} {u:Value} (h:w.ownsRow b 88 2 u d.ctors.length (flatC d.ctors)) (hs:d.Small) (n:List UInt8) (hn:n.length<=281474976710656) :
  Rt 47 #[d.val u,.string ⟨n.toArray⟩] w (.int .i64 (namedAt d n)):=by
 have H1:=Ld fun h=>namedAt_own (d:=d) (n:=n) h;have H2:=Ld fun h k hk h1 h0=>namedAt_ctor (d:=d) (n:=n) h (k:=k) hk h1 h0;have H3:=Ld fun h h0=>namedAt_rec (d:=d) (n:=n) h h0;generalize namedAt d n=r at H1 H2 H3 |-;obtain ⟨kd,nm,ps,fl,ty,vl,cs⟩:=d;obtain ⟨ua,uc,rfl⟩:=row_sliceD h;have HB0:=Ld (alloc_any w (dC kd nm ps fl ty vl (.slice ua cs.length uc) 52));have HR:=Ld (own_below h HB0.out);have hval:=dval kd nm ps fl ty vl cs (.slice ua cs.length uc);rw [hval];have s1:=hs.name;have s4:=hs.ctors;simp only at H1 H2 H3 HR s1 s4;have zq:=size_sv n;have znm:=size_sv nm;obtain ⟨c0,c1,c2,c3,c4,c5,c6⟩:=declBox (w:=w) (kd:=kd) (ps:=ps) (fl:=fl) (nm:=nm) (ty:=ty) (vl:=vl) (u:=.slice ua cs.length uc) _ (bR _ _);clear h hval hs;by_cases hq:nm=n
 ·subst hq;have e1:(nm == nm)=true:=(by rw [beq_iff_eq]);have HF:=Ld (H1.out rfl);clear H1 H2 H3 HR;go_enter Tryz.func47,Tryz.ntmps47;go_wp2;go_ret;rw [HF.out];exact ⟨rfl,HB0.out⟩
 have e1:(nm == n)=false:=by rw [bF];exact hq
 have HQ:=Ld hq;clear hq H1;go_enter Tryz.func47,Tryz.ntmps47;go_wp2;go_loopw [5] (fun i wr=>∃ k:Nat,k<=cs.length/\i=.int .i64 k/\wr=w.alloc (dC kd nm ps fl ty vl (.slice ua cs.length uc) 52)/\Hid (∀ j (hj:j < cs.length),j < k->cs[j].1≠n)) (fun i _=>cs.length - (intOf i).toNat)
 case atStart=>exact ⟨0,Nat.zero_le _,rfl,rfl,fun j _ hj=>by omega⟩
 case round =>
  obtain ⟨k,hk,rfl,rfl,HN⟩:=hrel;by_cases hlt:k < cs.length
  ·obtain ⟨g,cap',e0,_,hgl⟩:=HR.out.form (by omega);cases e0;obtain ⟨fa,fb⟩:=flatC_at hlt;have x1:=(HR.out.cellAt (k*2) (by omega)).trans fa;unfold sv at x1;have q1:=zn k;have q2:(k:Int) < (cs.length:Int):=(by omega);by_cases hx:cs[k].1=n
   ·have HF:=Ld (H2.out HQ.out k hlt hx HN.out);have e2:(cs[k].1 == n)=true:=(by rw [beq_iff_eq];exact hx);clear fa fb HN hx H2 H3 HR;generalize cs[k].1=y at x1 e2;go_wp2;go_ret;rw [HF.out];exact ⟨by go_num,HB0.out⟩
   ·have HN2:Hid (∀ j (hj:j < cs.length),j < k+1->cs[j].1≠n):=fun j hj hjk=>if e:j=k then by subst e;exact hx else HN.out j hj (by omega)
    have e2:(cs[k].1 == n)=false:=(by rw [bF];exact hx);clear fa fb HN hx H2 H3 HR;generalize cs[k].1=y at x1 e2;go_wp2;go_roundw
    case rel=>exact ⟨k+1,by omega,by go_num,trivial,HN2.out⟩
    case measure=>simp [intOf];omega
  ·have HF:=Ld (H3.out HQ.out fun j hj=>HN.out j hj (by omega));have hrt:=recText12 nm;clear HN H2 H3 HR;by_cases k4:kd=4;rotate_left
   ·have b4:(kd == 4)=false:=(by rw [bF];exact k4);have HG:Hid (r=-1):=(by rw [Hid,HF.out,iN (fun h=>k4 h.1)]);clear HF k4;go_wp2;go_ret;rw [HG.out];exact ⟨rfl,HB0.out⟩
   subst k4;by_cases hl:n.length=nm.length+4;rotate_left
   ·have e3:((n.length:Int) == (nm.length:Int)+4)=false:=(by rw [bF];omega);have HG:Hid (r=-1):=by
     rw [Hid,HF.out,iN];rintro ⟨_,h⟩;have:=congrArg List.length h;simp [recB] at this;omega
    clear HF hl;go_wp2;go_ret;rw [HG.out];exact ⟨rfl,HB0.out⟩
   have e3:((n.length:Int) == (nm.length:Int)+4)=true:=(by rw [beq_iff_eq];omega);obtain ⟨rn,hrn⟩:∃ rn,nm ++ 46 :: recB=rn:=⟨_,rfl⟩;rw [hrn] at hrt HF;have zr:nm.length+4<=281474976710656:=(by omega);clear hl hrn;by_cases hr:rn=n
   ·have e4:(rn == n)=true:=(by rw [beq_iff_eq];exact hr);have HG:Hid (r=(cs.length:Int)+1):=(by rw [Hid,HF.out,iP ⟨rfl,hr⟩]);clear HF hr;go_wp2;go_ret;rw [HG.out];exact ⟨by go_num,HB0.out⟩
   ·have e4:(rn == n)=false:=(by rw [bF];exact hr);have HG:Hid (r=-1):=(by rw [Hid,HF.out,iN (fun h=>hr h.2)]);clear HF hr;go_wp2;go_ret;rw [HG.out];exact ⟨rfl,HB0.out⟩
def findRes (r:Int × Int × Int):Value:=.tuple #[.int .i64 r.1,.int .i64 r.2.1,.int .i64 r.2.2]
theorem specFind0 {w:World} {B:Nat} {v:Value} {env:List En} (h:EnvIs w B v env) (hs:EnvSmall env) (oa:Option Addr) (oc:Nat) (n:List UInt8) (hn:n.length<=281474976710656) :
  Rt 28 #[v,.slice oa 0 oc,.string ⟨n.toArray⟩] w (findRes (foundIn env n)):=by
 obtain ⟨xs,hx,hr,ho⟩:=h;have hlx:xs.length=env.length:=by rw [← hx,List.length_map]
 obtain ⟨ra,rc,rfl⟩:=row_sliceD hr;rw [hlx] at hr |-;have HAT:=Ld fun (k:Nat) (hk:k < env.length)=>env_at hx hk;have HS:=Ld hs.2;have hlen:=hs.1;have HR:=Ld hr;have HO:=Ld ho;have HSK:=Ld fun (k:Nat) (hk:k < env.length) h=>found_skip (n:=n) hk h;have HHT:=Ld fun (k:Nat) (hk:k < env.length) h=>found_hit (n:=n) hk h;have HEN:=Ld fun (k:Nat) (hk:env.length<=k)=>found_end (n:=n) hk;have HL:=Ld hlx;obtain ⟨rr,hrr⟩:∃ rr,foundIn env n=rr:=⟨_,rfl⟩;have HF0:Hid (rr=found n (env.drop 0) 0):=by rw [Hid,← hrr,List.drop_zero];rfl
 rw [hrr];clear hr ho hx hlx hs hrr;go_enter Tryz.func28,Tryz.ntmps28;go_wp2;go_loopw [9] (fun i wr=>∃ k:Nat,k<=env.length/\i=.int .i64 k/\Hid (Below w.heap.size w wr)/\Hid (rr=found n (env.drop k) k)) (fun i _=>env.length - (intOf i).toNat)
 case atStart=>exact ⟨0,Nat.zero_le _,rfl,bR _ _,HF0.out⟩
 case round =>
  obtain ⟨k,hk,rfl,HW,HFk⟩:=hrel;clear HF0;have hz:=HW.out.size;by_cases hlt:k < env.length;rotate_left
  ·have HF:Hid (rr=(0,-1,0)):=(by rw [Hid,HFk.out];exact HEN.out k (by omega));clear HAT HS HR HO HSK HHT HEN HL HFk;go_wp2;refine bodyPost_ret (v:=findRes rr) (by rw [HF.out];simp [results,go_sem,findRes]) rfl ⟨rfl,HW.out⟩
  obtain ⟨x,ex,mx,hek⟩:=HAT.out k hlt;have hsm:=HS.out _ (List.getElem_mem hlt);have HSk:=Ld (HSK.out k hlt);have HHk:=Ld (HHT.out k hlt);rw [hek] at hsm HSk HHk;obtain ⟨g,cap,e0,_,hgl⟩:=HR.out.form (by omega);cases e0;have a8:=env_cells (own_below HR.out HW.out) hlt HL.out ex;have p0:=a8 0 (by decide);have p1:=a8 1 (by decide);have p2:=a8 2 (by decide);have p3:=a8 3 (by decide);have p4:=a8 4 (by decide);have p5:=a8 5 (by decide);have p6:=a8 6 (by decide);have p7:=a8 7 (by decide);have hox:=((HO.out x mx).below HW.out).1;have hnm:=namedAt_le x.1.1 n;have f1:=Ld (specNamed hox hsm.1 n hn);have F2:=Ld fun (W:World) (hW:Below wr.heap.size wr W)=>specDeclOk (own_below hox hW) hsm.1;have s4:=hsm.1.ctors;clear a8 ex mx hek HAT HS HR HO HSK HHT HEN HL;generalize namedAt x.1.1 n=z at f1 HSk HHk hnm;obtain ⟨⟨⟨kd,nm,ps,fl,ty,vl,cs⟩,ls⟩,u,vv⟩:=x;obtain ⟨ua,uc,hu⟩:=row_sliceD hox;simp only at hu s4 hnm;subst hu;have hval:=dval kd nm ps fl ty vl cs (.slice ua cs.length uc);simp only [hval] at f1 F2;simp only at HSk HHk;simp only [ecells,sv,List.getElem?_cons_zero,List.getElem?_cons_succ,Nat.add_zero,Nat.zero_add] at p0 p1 p2 p3 p4 p5 p6 p7;have t1:=zn k;have t2:(k:Int) < (env.length:Int):=(by omega);have e0:((0:Int) == (env.length:Int))=false:=(by rw [bF];omega);have e0n:((0:Int) != (env.length:Int))=true:=(by rw [bne,e0];rfl);have hgw:g < wr.heap.size:=Nat.lt_of_lt_of_le hgl hz
  have HPX:Hid (∀ W,Below wr.heap.size wr W->W.cell? ⟨g,k*8,none⟩=some (.int .i64 kd)/\W.cell? ⟨g,k*8+1,none⟩=some (.string ⟨nm.toArray⟩)/\W.cell? ⟨g,k*8+2,none⟩=some (.int .i64 ps)/\W.cell? ⟨g,k*8+3,none⟩=some (.int .i64 fl)/\W.cell? ⟨g,k*8+4,none⟩=some (.string ⟨ty.toArray⟩)/\W.cell? ⟨g,k*8+5,none⟩=some (.string ⟨vl.toArray⟩)/\W.cell? ⟨g,k*8+6,none⟩=some (.slice ua cs.length uc)):=fun W hW=>⟨(hW.cell (p:=⟨g,k*8,none⟩) hgw).trans p0,(hW.cell (p:=⟨g,k*8+1,none⟩) hgw).trans p1,(hW.cell (p:=⟨g,k*8+2,none⟩) hgw).trans p2,(hW.cell (p:=⟨g,k*8+3,none⟩) hgw).trans p3,(hW.cell (p:=⟨g,k*8+4,none⟩) hgw).trans p4,(hW.cell (p:=⟨g,k*8+5,none⟩) hgw).trans p5,(hW.cell (p:=⟨g,k*8+6,none⟩) hgw).trans p6⟩;clear hox hsm hval;go_wp2_with fail;(with_reducible refine mo f1.out fun w1 hb1=>?_);have HW1:=Ld (HW.out.trans (hb1.mono hz));have f2:=Ld (F2.out w1 hb1);have HB1:=Ld hb1;clear p0 p1 p2 p3 p4 p5 p6 p7 f1 F2 hb1;obtain ⟨p0,p1,p2,p3,p4,p5,p6⟩:=HPX.out _ HB1.out;by_cases hz0:z < 0
  ·have d1:decide (z < 0)=true:=dT hz0;have HFN:Hid (rr=found n (env.drop (k+1)) (k+1)):=(by rw [Hid,HFk.out];exact HSk.out (fun h=>by omega));clear f2 HPX HSk HHk HFk;go_wp2;go_roundw
   case rel=>exact ⟨k+1,by omega,by go_num,HW1.out,HFN.out⟩
   case measure=>simp [intOf];omega
  have d1:decide (z < 0)=false:=dF hz0;go_wp2_with fail;(with_reducible refine mo f2.out fun w2 hb2=>?_);have HW2:=bt HW1.out hb2;have HB2:=bt HB1.out hb2;clear p0 p1 p2 p3 p4 p5 p6 hb2 f2;obtain ⟨p0,p1,p2,p3,p4,p5,p6⟩:=HPX.out _ HB2.out;clear HPX;generalize hdk:declOk ⟨kd,nm,ps,fl,ty,vl,cs⟩=ok at HSk HHk |-;clear hdk;cases ok
  ·have HFN:Hid (rr=found n (env.drop (k+1)) (k+1)):=(by rw [Hid,HFk.out];exact HSk.out (fun h=>by cases h.2));clear HSk HHk HFk;go_wp2;go_roundw
   case rel=>exact ⟨k+1,by omega,by go_num,HW2.out,HFN.out⟩
   case measure=>simp [intOf];omega
  have HFk2:=Ld (HFk.out.trans (HHk.out ⟨by omega,rfl⟩));clear HSk HHk HFk;by_cases hz1:z=0
  ·have e1:(z == 0)=true:=(by rw [beq_iff_eq];exact hz1);have HF:Hid (rr=(kd,(k:Int),0)):=(by rw [Hid,HFk2.out,iP hz1]);clear hz0 hz1 HFk2;go_wp2;refine bodyPost_ret (v:=findRes rr) (by rw [HF.out];simp [results,go_sem,findRes]) rfl ⟨rfl,HW2.out⟩
  have e1:(z == 0)=false:=(by rw [bF];exact hz1);by_cases hz2:z - 1 < (cs.length:Int)
  ·have d2:decide (z - 1 < (cs.length:Int))=true:=dT hz2;have HF:Hid (rr=(5,(k:Int),z - 1)):=(by rw [Hid,HFk2.out,iN hz1,iP hz2]);clear HFk2;go_wp2;refine bodyPost_ret (v:=findRes rr) (by rw [HF.out];simp [results,go_sem,findRes]) rfl ⟨rfl,HW2.out⟩
  ·have d2:decide (z - 1 < (cs.length:Int))=false:=dF hz2;have HF:Hid (rr=(6,(k:Int),0)):=(by rw [Hid,HFk2.out,iN hz1,iN hz2]);clear HFk2;go_wp2;refine bodyPost_ret (v:=findRes rr) (by rw [HF.out];simp [results,go_sem,findRes]) rfl ⟨rfl,HW2.out⟩
theorem specFoundIn {w:World} {B:Nat} {v:Value} {env:List En} (h:EnvIs w B v env) (hs:EnvSmall env) (n:List UInt8) (hn:n.length<=281474976710656) :
  Rt 9 #[v,.string ⟨n.toArray⟩] w (findRes (foundIn env n)):=by
 have ha:=alloc_any w (.cells #[] 4);have f1:=Ld (specFind0 (h.below ha) hs (some ⟨w.heap.size,0,none⟩) 0 n hn);have HA:=Ld ha;have hv:∃ a c,v=.slice a env.length c:=by
  obtain ⟨xs,hx,hr,_⟩:=h;obtain ⟨ra,rc,rfl⟩:=row_sliceD hr;exact ⟨ra,rc,by rw [← hx,List.length_map]⟩
 obtain ⟨ra,rc,rfl⟩:=hv;clear h hs ha;obtain ⟨⟨r0,r1,r2⟩,hrr⟩:∃ rr,foundIn env n=rr:=⟨_,rfl⟩;rw [hrr] at f1 |-;unfold findRes at f1 |-;clear hrr;simp only at f1 |-;go_enter Tryz.func9,Tryz.ntmps9;go_wp2_with fail;(with_reducible refine mo f1.out fun w1 hb1=>?_);have HB1:=bt HA.out hb1;clear hb1 f1;go_wp2;exact bodyPost_ret (by simp [results,go_sem]) rfl ⟨rfl,HB1.out⟩
theorem declOk_kind {d:Dc} (h:declOk d=true):1<=d.kind/\d.kind<=4:=by
 simp only [declOk,declKindOk,Bool.and_eq_true,decide_eq_true_eq] at h;have h1:=h.2.2.2.2;split at h1
 ·omega
 ·split at h1
  ·omega
  ·split at h1
   ·omega
   ·cases h1
def FoundP (env:List En) (r:Int × Int × Int):Prop :=
 r=(0,-1,0)\/∃ (j:Nat) (e:En),env[j]?=some e/\declOk e.1=true/\r.2.1=(j:Int)/\((r.1=e.1.kind/\r.2.2=0)\/(r.1=5/\∃ k:Nat,k < e.1.ctors.length/\r.2.2=(k:Int))\/(r.1=6/\e.1.kind=4/\r.2.2=0))
theorem found_P (n:List UInt8) (env:List En):∀ (es:List En) (i:Nat),env.drop i=es->FoundP env (found n es i):=by
 intro es
 induction es with
 | nil=>intro i _;exact .inl rfl
 | cons e es ih =>
  intro i hd;have he:env[i]?=some e:=by
   have:=congrArg (fun l=>l[0]?) hd;simpa using this
  have hn:env.drop (i+1)=es:=by
   rw [← List.drop_drop,hd];rfl
  rw [found];by_cases h:0<=namedAt e.1 n/\declOk e.1=true;rotate_left
  ·rw [iN h];exact ih (i+1) hn
  ·rw [iP h];refine .inr ⟨i,e,he,h.2,?_⟩;by_cases h0:namedAt e.1 n=0
   ·rw [iP h0];exact ⟨rfl,.inl ⟨rfl,rfl⟩⟩
   ·rw [iN h0];by_cases h1:namedAt e.1 n - 1 < (e.1.ctors.length:Int)
    ·rw [iP h1];exact ⟨rfl,.inr (.inl ⟨rfl,(namedAt e.1 n - 1).toNat,by omega,by show namedAt e.1 n - 1=_;omega⟩)⟩
    ·rw [iN h1];refine ⟨rfl,.inr (.inr ⟨rfl,?_,rfl⟩)⟩;unfold namedAt at h0 h1 h;split at h1
     ·omega
     ·rename_i hq;rw [iN hq] at h0 h;split at h1
      ·rename_i k hk;rw [List.findIdx?_eq_some_iff_getElem] at hk;obtain ⟨hk,_⟩:=hk;omega
      ·split at h1
       ·rename_i h4;exact h4.1
       ·omega
theorem foundIn_P (env:List En) (n:List UInt8):FoundP env (foundIn env n):=found_P n env env 0 (by rw [List.drop_zero])
noncomputable def manyOf (env:List En) (r:Int × Int × Int):Int:=if r.1=0 then -1 else match env[r.2.1.toNat]? with
 | some e=>if r.1=6 then recLevels e.1 else e.1.params
 | none=>0
noncomputable def levelsFor (env:List En) (n:List UInt8):Int:=manyOf env (foundIn env n)
theorem manyOf_at {env:List En} {r:Int × Int × Int} {j:Nat} {e:En} (he:env[j]?=some e) (hj:r.2.1=(j:Int)) (h0:r.1≠0):manyOf env r=if r.1=6 then recLevels e.1 else e.1.params:=by
 unfold manyOf;rw [iN h0,hj,Int.toNat_natCast,he]
theorem specMany {w:World} {B:Nat} {v:Value} {env:List En} (h:EnvIs w B v env) (hs:EnvSmall env) {r:Int × Int × Int} (hr:FoundP env r) :
  Rt 33 #[v,.int .i64 r.1,.int .i64 r.2.1] w (.int .i64 (manyOf env r)):=by
 obtain ⟨xs,hx,hrow,ho⟩:=h;have hlx:xs.length=env.length:=by rw [← hx,List.length_map]
 obtain ⟨ra,rc,rfl⟩:=row_sliceD hrow;rw [hlx] at hrow |-;rcases hr with rfl | ⟨j,e,he,hok,hj,hk⟩
 ·have HE:Hid (manyOf env (0,-1,0)=-1):=rfl;simp only;clear hrow ho hs;generalize manyOf env (0,-1,0)=m at HE |-;go_enter Tryz.func33,Tryz.ntmps33;go_wp2;go_ret;rw [HE.out];exact ⟨rfl,bR _ _⟩
 have hjl:j < env.length:=by
  rw [List.getElem?_eq_some_iff] at he;exact he.1
 obtain ⟨x,ex,mx,hek⟩:=env_at hx hjl;have hxe:e=x.1:=by
  rw [List.getElem?_eq_getElem hjl] at he;rw [← Option.some.inj he,hek]
 subst hxe;have hkd:=declOk_kind hok;have h0:r.1≠0:=by
  rcases hk with h | h | h
  ·rw [h.1];omega
  ·rw [h.1];decide
  ·rw [h.1];decide
 have HM:=Ld (manyOf_at he hj h0);have hsm:=(hs.2 _ (List.mem_of_getElem? he)).1;have h6:r.1=6->x.1.1.kind=4:=by
  intro h;rcases hk with k | k | k
  ·rw [k.1] at h;omega
  ·rw [k.1] at h;cases h
  ·exact k.2.1
 have HRL:Hid (r.1=6->recLevels x.1.1=(if levelLe [43,122] (levelIn x.1.1.type)=true then x.1.1.params+1 else x.1.1.params)/\termKind x.1.1.type=[115]):=by
  intro h;have h4:=h6 h;have hd:isData x.1.1=true:=(by rw [isData,h4,hok];rfl);refine ⟨?_,data_kind h4 hok⟩;rw [recLevels,iP hd,largeOk,hd,Bool.true_and]
 have hpar:=declOk_params hok;rw [hj];generalize manyOf env r=m at HM |-;obtain ⟨what,ri,rk⟩:=r;simp only at h0 h6 hk hj HM HRL |-;obtain ⟨g,cap,e0,_,hgl⟩:=hrow.form (by omega);cases e0;have a8:=env_cells hrow hjl hlx ex;have p0:=a8 0 (by decide);have p1:=a8 1 (by decide);have p2:=a8 2 (by decide);have p3:=a8 3 (by decide);have p4:=a8 4 (by decide);have p5:=a8 5 (by decide);have p6:=a8 6 (by decide);have p7:=a8 7 (by decide);have hox:=(ho x mx).1;have s2:=hsm.type;clear a8 ex mx hek he hs hrow ho hk h6 hkd hj hlx hx hsm hok;obtain ⟨⟨⟨kd,nm,ps,fl,ty,vl,cs⟩,ls⟩,u,vv⟩:=x;obtain ⟨ua,uc,hu⟩:=row_sliceD hox;simp only at hu HM HRL s2 hpar;subst hu;simp only [ecells,sv,List.getElem?_cons_zero,List.getElem?_cons_succ,Nat.add_zero,Nat.zero_add] at p0 p1 p2 p3 p4 p5 p6 p7;have t1:=zn j;have t2:(j:Int) < (env.length:Int):=by omega
 have e0:(what == 0)=false:=by rw [bF];exact h0
 have ha:=alloc_any w (dC kd nm ps fl ty vl (.slice ua cs.length uc) 52);have HA:=Ld ha;have hX:=declBox (w:=w) (kd:=kd) (ps:=ps) (fl:=fl) (nm:=nm) (ty:=ty) (vl:=vl) (u:=.slice ua cs.length uc);have HX:=Ld hX;obtain ⟨c0,c1,c2,c3,c4,c5,c6⟩:=hX _ (bR _ _);clear hox ha hX h0;by_cases h6:what=6;rotate_left
 ·have e6:(what == 6)=false:=(by rw [bF];exact h6);have HF:Hid (m=ps):=(by rw [Hid,HM.out,iN h6]);clear HM HRL h6 HX;go_enter Tryz.func33,Tryz.ntmps33;go_wp2;go_ret;rw [HF.out];exact ⟨rfl,HA.out⟩
 have e6:(what == 6)=true:=by rw [beq_iff_eq];exact h6
 obtain ⟨HR1,htk⟩:=HRL.out h6;have HF:Hid (m=(if levelLe [43,122] (levelIn ty)=true then ps+1 else ps)):=by rw [Hid,HM.out,iP h6,HR1]
 have hl2:=sort_len htk;have zty:=size_sv ty;have hsl:(⟨ty.toArray⟩:ByteArray).extract 1 (ty.length - 1)=⟨(levelIn ty).toArray⟩:=by
  have h1:=extract_sv (⟨ty.toArray⟩:ByteArray) 1 (ty.length - 1);unfold sv at h1;injection h1 with h1
 have hli:(levelIn ty).length<=ty.length:=by unfold levelIn;simp;omega
 have f2:=Ld fun W=>specLevelAbove ⟨(levelIn ty).toArray⟩ W (by rw [size_sv];unfold maxLen;omega);simp only at f2;have q1:(1:Int)<=(ty.length:Int) - 1:=by omega
 have q2:(ty.length:Int) - 1<=(ty.length:Int):=by omega
 have q3:((ty.length:Int) - 1).toNat=ty.length - 1:=by omega
 clear HM HRL HR1 htk h6;generalize levelIn ty=li at hsl f2 HF hli;generalize levelLe [43,122] li=bb at f2 HF;go_enter Tryz.func33,Tryz.ntmps33;go_wp2_with fail;(with_reducible refine mo (f2.out _) fun w2 hb2=>?_);have HB2:=bt HA.out hb2;clear c0 c1 c2 c3 c4 c5 c6;obtain ⟨c0,c1,c2,c3,c4,c5,c6⟩:=HX.out _ hb2;clear hb2 f2 HX;cases bb
 ·have HG:Hid (m=ps):=(by rw [Hid,HF.out];rfl);go_wp2;go_ret;rw [HG.out];exact ⟨rfl,HB2.out⟩
 ·have HG:Hid (m=ps+1):=(by rw [Hid,HF.out];rfl);go_wp2;go_ret;rw [HG.out];exact ⟨by go_num,HB2.out⟩
theorem specLevelsFor {w:World} {B:Nat} {v:Value} {env:List En} (h:EnvIs w B v env) (hs:EnvSmall env) (n:List UInt8) (hn:n.length<=281474976710656) :
  Rt 13 #[v,.string ⟨n.toArray⟩] w (.int .i64 (levelsFor env n)):=by
 have f1:=Ld (specFoundIn h hs n hn);have F2:=Ld fun (W:World) (hW:Below w.heap.size w W)=>specMany (h.below hW) hs (foundIn_P env n);have hv:∃ a c,v=.slice a env.length c:=by
  obtain ⟨xs,hx,hr,_⟩:=h;obtain ⟨ra,rc,rfl⟩:=row_sliceD hr;exact ⟨ra,rc,by rw [← hx,List.length_map]⟩
 obtain ⟨ra,rc,rfl⟩:=hv;clear h hs;unfold levelsFor;obtain ⟨⟨r0,r1,r2⟩,hrr⟩:∃ rr,foundIn env n=rr:=⟨_,rfl⟩;rw [hrr] at f1 F2 |-;unfold findRes at f1;clear hrr;simp only at f1 F2;generalize manyOf env (r0,r1,r2)=m at F2 |-;go_enter Tryz.func13,Tryz.ntmps13;go_wp2_with fail;(with_reducible refine mo f1.out fun w1 hb1=>?_);have HB1:=Ld hb1;have f2:=Ld (F2.out _ hb1);clear hb1 f1 F2;go_wp2_with fail;(with_reducible refine mo f2.out fun w2 hb2=>?_);have HB2:=bt HB1.out hb2;clear hb2 f2;go_wp2;go_ret;exact ⟨rfl,HB2.out⟩
theorem lawFoundIn {env:List En} {v:Value} (n:ByteArray) (w:World) (hc:CameE w v env) (hm:n.size<=maxLen)
  (hI:EnvSmall env->n.size<=1048576->∀ (W:World) (B:Nat) (u:Value),Below w.heap.size w W->EnvIs W B u env->Rt 11 #[u,.string n] W (findRes (foundIn env n.data.toList))) :
  Rt 3 #[v,.string n] w (.bool true):=by
 unfold maxLen at hm;obtain ⟨a0,cap,hv⟩:=hc.len;by_cases k1:n.size<=1048576;rotate_left
 ·have d1:decide ((1048576:Int) < (n.size:Int))=true:=dT (by omega);clear hI hc;subst hv;go_enter Tryz.func3,Tryz.ntmps3;go_wp2;go_ret;exact ⟨rfl,bR _ _⟩
 have d1:decide ((1048576:Int) < (n.size:Int))=false:=dF (by omega);have f1:=Ld (szEntryS hc 1048576 (nR _));unfold SzResE at f1;simp only [show ((1048576:Nat):Int)=1048576 from rfl] at f1;have FT:=Ld fun (hs:EnvSmall env) (W:World) (hW:Below w.heap.size w W)=>toEntryS (hc.below hW) hs.1 hs.ctors;unfold LResE at FT;have FS:=Ld fun (hs:EnvSmall env) (W:World) (B:Nat) (u:Value) (h:EnvIs W B u env)=>specFoundIn h hs n.data.toList (by show n.size<=_;omega);simp only [show ∀ s:ByteArray,(⟨s.data.toList.toArray⟩:ByteArray)=s from fun s=>rfl] at FS;have FE:=Ld fun (hs:EnvSmall env) (W:World) (B1 B2:Nat) (u1 u2:Value) (h1:EnvIs W B1 u1 env) (h2:EnvIs W B2 u2 env)=>eqEntryS h1 h2 hs.1 hs.ctors;have HI:=Ld hI;have HSM:=Ld fun (h:env.length+totE env<=1048576)=>EnvSmall.of_tot h;clear hI hc;subst hv;obtain ⟨⟨r0,r1,r2⟩,hrr⟩:∃ rr,foundIn env n.data.toList=rr:=⟨_,rfl⟩;rw [hrr] at FS HI;unfold findRes at FS HI;simp only at FS HI;clear hrr;go_enter Tryz.func3,Tryz.ntmps3;go_wp2_with fail;(with_reducible refine f1.out.mono ?_);rintro e w1 ⟨hb1,(rfl | ⟨z,rfl,hz⟩)⟩
 ·have HB1:=Ld hb1;clear hb1 f1 FT FS FE HI;go_wp2;go_ret;exact ⟨rfl,HB1.out⟩
 have hs:=HSM.out (by omega);have dz:decide ((z:Int) < 0)=false:=dF (by omega);have HB1:=Ld hb1;have FT2:=Ld (FT.out hs);have FS2:=Ld (FS.out hs);have FE2:=Ld (FE.out hs);have HI2:=Ld (HI.out hs k1);clear hb1 hz f1 FT FS FE HI hs HSM;go_wp2_with fail;(with_reducible refine (FT2.out _ HB1.out).mono ?_);rintro e w2 ⟨u2,rfl,hu2,hb2⟩;have HB2:=bt HB1.out hb2;obtain ⟨a2,c2,rfl⟩:=hu2.len;have f3:=Ld (FS2.out _ _ _ hu2);clear hb2 hu2 FS2;go_wp2_with fail;(with_reducible refine mo f3.out fun w3 hb3=>?_);have HB3:=bt HB2.out hb3;clear hb3 f3;go_wp2_with fail;(with_reducible refine (FT2.out _ HB3.out).mono ?_);rintro e w4 ⟨u4,rfl,hu4,hb4⟩;have HB4:=bt HB3.out hb4;obtain ⟨a4,c4,rfl⟩:=hu4.len;have f5:=Ld (HI2.out _ _ _ HB4.out hu4);have HU4:=Ld hu4;clear hb4 hu4 HI2;go_wp2_with fail;(with_reducible refine mo f5.out fun w5 hb5=>?_);have HB5:=bt HB4.out hb5;have HU5:=Ld (HU4.out.below hb5);clear hb5 f5 HU4;go_wp2_with fail;(with_reducible refine (FT2.out _ HB5.out).mono ?_);rintro e w6 ⟨u6,rfl,hu6,hb6⟩;have HB6:=bt HB5.out hb6;obtain ⟨a6,c6,rfl⟩:=hu6.len;have f7:=Ld (FE2.out _ _ _ _ _ (HU5.out.below hb6) hu6);clear hb6 hu6 FE2 FT2 HU5;go_wp2_with fail;(with_reducible refine mo f7.out fun w7 hb7=>?_);have HB7:=bt HB6.out hb7;clear hb7 f7;go_wp2;go_ret;exact ⟨rfl,HB7.out⟩
theorem lawLevelsFor {env:List En} {v:Value} (n:ByteArray) (w:World) (hc:CameE w v env) (hm:n.size<=maxLen)
  (hI:EnvSmall env->n.size<=1048576->∀ (W:World) (B:Nat) (u:Value),Below w.heap.size w W->EnvIs W B u env->Rt 14 #[u,.string n] W (.int .i64 (levelsFor env n.data.toList))) :
  Rt 4 #[v,.string n] w (.bool true):=by
 unfold maxLen at hm;obtain ⟨a0,cap,hv⟩:=hc.len;by_cases k1:n.size<=1048576;rotate_left
 ·have d1:decide ((1048576:Int) < (n.size:Int))=true:=dT (by omega);clear hI hc;subst hv;go_enter Tryz.func4,Tryz.ntmps4;go_wp2;go_ret;exact ⟨rfl,bR _ _⟩
 have d1:decide ((1048576:Int) < (n.size:Int))=false:=dF (by omega);have f1:=Ld (szEntryS hc 1048576 (nR _));unfold SzResE at f1;simp only [show ((1048576:Nat):Int)=1048576 from rfl] at f1;have FT:=Ld fun (hs:EnvSmall env) (W:World) (hW:Below w.heap.size w W)=>toEntryS (hc.below hW) hs.1 hs.ctors;unfold LResE at FT;have FS:=Ld fun (hs:EnvSmall env) (W:World) (B:Nat) (u:Value) (h:EnvIs W B u env)=>specLevelsFor h hs n.data.toList (by show n.size<=_;omega);simp only [show ∀ s:ByteArray,(⟨s.data.toList.toArray⟩:ByteArray)=s from fun s=>rfl] at FS;have FE:=Ld fun (hs:EnvSmall env) (W:World) (B1 B2:Nat) (u1 u2:Value) (h1:EnvIs W B1 u1 env) (h2:EnvIs W B2 u2 env)=>eqEntryS h1 h2 hs.1 hs.ctors;have HI:=Ld hI;have HSM:=Ld fun (h:env.length+totE env<=1048576)=>EnvSmall.of_tot h;clear hI hc;subst hv;generalize levelsFor env n.data.toList=r0 at FS HI;go_enter Tryz.func4,Tryz.ntmps4;go_wp2_with fail;(with_reducible refine f1.out.mono ?_);rintro e w1 ⟨hb1,(rfl | ⟨z,rfl,hz⟩)⟩
 ·have HB1:=Ld hb1;clear hb1 f1 FT FS FE HI;go_wp2;go_ret;exact ⟨rfl,HB1.out⟩
 have hs:=HSM.out (by omega);have dz:decide ((z:Int) < 0)=false:=dF (by omega);have HB1:=Ld hb1;have FT2:=Ld (FT.out hs);have FS2:=Ld (FS.out hs);have FE2:=Ld (FE.out hs);have HI2:=Ld (HI.out hs k1);clear hb1 hz f1 FT FS FE HI hs HSM;go_wp2_with fail;(with_reducible refine (FT2.out _ HB1.out).mono ?_);rintro e w2 ⟨u2,rfl,hu2,hb2⟩;have HB2:=bt HB1.out hb2;obtain ⟨a2,c2,rfl⟩:=hu2.len;have f3:=Ld (FS2.out _ _ _ hu2);clear hb2 hu2 FS2;go_wp2_with fail;(with_reducible refine mo f3.out fun w3 hb3=>?_);have HB3:=bt HB2.out hb3;clear hb3 f3;go_wp2_with fail;(with_reducible refine (FT2.out _ HB3.out).mono ?_);rintro e w4 ⟨u4,rfl,hu4,hb4⟩;have HB4:=bt HB3.out hb4;obtain ⟨a4,c4,rfl⟩:=hu4.len;have f5:=Ld (HI2.out _ _ _ HB4.out hu4);have HU4:=Ld hu4;clear hb4 hu4 HI2;go_wp2_with fail;(with_reducible refine mo f5.out fun w5 hb5=>?_);have HB5:=bt HB4.out hb5;have HU5:=Ld (HU4.out.below hb5);clear hb5 f5 HU4;go_wp2_with fail;(with_reducible refine (FT2.out _ HB5.out).mono ?_);rintro e w6 ⟨u6,rfl,hu6,hb6⟩;have HB6:=bt HB5.out hb6;obtain ⟨a6,c6,rfl⟩:=hu6.len;have f7:=Ld (FE2.out _ _ _ _ _ (HU5.out.below hb6) hu6);clear hb6 hu6 FE2 FT2 HU5;go_wp2_with fail;(with_reducible refine mo f7.out fun w7 hb7=>?_);have HB7:=bt HB6.out hb7;clear hb7 f7;go_wp2;go_ret;exact ⟨rfl,HB7.out⟩
end Go.Proofs.YtcaahdjhbmmcnaaGreatDoor
