/- QKn QMk QLawK -/
import Derived.Deep.RegionHeld3
import Derived.Deep.DeepCutAuto
import Derived.BigQuiet
import Derived.Test.YtcaahdjhbmmcnaaGreatDoorYQD
import Derived.Test.YtcaahdjhbmmcnaaGreatDoorYQB
import Derived.Test.YtcaahdjhbmmcnaaGreatDoorYQG
import Derived.Test.YtcaahdjhbmmcnaaGreatDoorYKB
import Derived.Test.YtcaahdjhbmmcnaaGreatDoorYG3
import Derived.Test.YtcaahdjhbmmcnaaGreatDoorYJS
import Derived.Test.YtcaahdjhbmmcnaaGreatDoorYMK
set_option maxRecDepth 100000
set_option maxHeartbeats 16000000
set_option linter.unusedSimpArgs false
set_option linter.unusedVariables false
namespace Go.Proofs.YtcaahdjhbmmcnaaGreatDoor
open Go.ChangeShapes Go.WideShapes Go.ChangeAt Go.RowKit
theorem nameOk_len12 {l:List UInt8} (h:nameOk l=true):1<=l.length:=by
 cases l with
 | nil=>exact absurd h (by decide)
 | cons _ _=>simp
theorem totC_ge:∀ {l:List Ct},(∀ c∈l,1<=c.1.length)->l.length<=totC l:=by
 intro l
 induction l with
 | nil=>intro _;exact nR _
 | cons c l ih =>
  intro h;have h1:=ih fun x hx=>h x (List.mem_cons_of_mem _ hx);have h2:=h c (List.mem_cons_self ..);simp only [totC,List.map_cons,List.sum_cons,lC] at h1 |-;omega
theorem namesOf_len (d:Dc):3*(namesOf d).length<=2*(1+d.size):=by
 unfold namesOf;split
 ·rename_i h;have h0:=h;simp only [declOk,Bool.and_eq_true,decide_eq_true_eq] at h;have hn:=nameOk_len12 h.1;have ht:1<=d.type.length:=by
   have:=h.2.2.2.1;simp only [closedOf,Bool.and_eq_true] at this;exact termOk_len this.1
  have hk:=h.2.2.2.2;have hc:d.ctors.length<=totC d.ctors:=by
   unfold declKindOk at hk;split at hk
   ·simp only [Bool.and_eq_true,decide_eq_true_eq] at hk;omega
   ·split at hk
    ·simp only [Bool.and_eq_true,decide_eq_true_eq] at hk;omega
    ·split at hk
     ·simp only [dataOk,Bool.and_eq_true,decide_eq_true_eq] at hk;have hcs:=hk.2.2.2.2.2.2;simp only [ctorsOk,decide_eq_true_eq] at hcs;refine totC_ge fun c hc=>?_;obtain ⟨j,hj,rfl⟩:=List.getElem_of_mem hc;have:=(hcs j hj hj).1;simp only [ctorOk,headOk,Bool.and_eq_true] at this;exact nameOk_len12 this.1.1
     ·cases hk
  have hl:(if d.kind=4 then [d.name ++ 46 :: recB] else []).length<=1:=(by split<;>simp);unfold Dc.size;rw [lA,lC,List.length_map];omega
 ·simp
theorem knownAll_take (env:List En):∀ es:List En,3*(knownAll es).length<=2*(es.length+totE es):=by
 intro es
 induction es with
 | nil=>simp [knownAll]
 | cons e es ih =>
  have h1:=namesOf_len e.1;unfold knownAll at ih |-;rw [List.flatMap_cons,lA,lC];simp only [totE,List.map_cons,List.sum_cons,En.size] at ih |-;omega
theorem knownAll_le {env:List En} (h:env.length+totE env<=1048576):(knownAll env).length<=1000000:=by
 have:=knownAll_take env env;omega
theorem specKnown {w:World} {B:Nat} {v:Value} {env:List En} (h:EnvIs w B v env) (hs:EnvSmall env) (hl:(knownAll env).length<=1000000) :
  Calls Tryz.prog 22 #[v] w (LRes' (known env) w):=by
 obtain ⟨xs,hx,hr,ho⟩:=h;have hlx:xs.length=env.length:=by rw [← hx,List.length_map]
 obtain ⟨ra,rc,rfl⟩:=row_sliceD hr;rw [hlx] at hr |-;have HAT:=Ld fun (k:Nat) (hk:k < env.length)=>env_at hx hk;have HS:=Ld hs.2;have hlen:=hs.1;have HR:=Ld hr;have HO:=Ld ho;have HL:=Ld hlx;have HKL:=Ld fun k=>Nat.le_trans (knownAll_len (env:=env) k) hl;have HKS:=Ld fun (k:Nat) (hk:k < env.length)=>knownAll_succ hk;obtain ⟨ka,hka⟩:∃ ka:Nat->List (List UInt8),(fun k=>knownAll (env.take k))=ka:=⟨_,rfl⟩;have E0:ka 0=[]:=by rw [← hka];rfl
 have E9:Hid (known env=srt (ka env.length)):=by rw [Hid,← hka];show _=srt (knownAll (env.take env.length));rw [List.take_length];rfl
 have EL:Hid (∀ k,(ka k).length<=1000000):=by rw [← hka];exact HKL
 have ES:Hid (∀ (k:Nat) (hk:k < env.length),ka (k+1)=ka k ++ namesOf env[k].1):=by rw [← hka];exact HKS
 have hrow0:Hid ((w.alloc (.cells #[] 9)).ownsRow w.heap.size 9 1 (.slice (some ⟨w.heap.size,0,none⟩) 0 0) 0 []):=World.ownsRow_lit w #[] 0 (nR _) (by decide) (by simp);have HA:=Ld (alloc_any w (.cells #[] 9));clear hr ho hx hlx hs hl hka HKL HKS;go_enter Tryz.func22,Tryz.ntmps22;go_wp2;go_loopw [3,4] (fun o i wr=>∃ (k:Nat) (oo:Value),k<=env.length/\i=.int .i64 k/\oo=o/\Hid (wr.ownsRow w.heap.size 9 1 oo (ka k).length ((ka k).map sv))/\Hid (Below w.heap.size w wr)) (fun _ i _=>env.length - (intOf i).toNat)
 case atStart=>exact ⟨0,_,Nat.zero_le _,rfl,rfl,by rw [E0];exact hrow0.out,HA.out⟩
 case round =>
  obtain ⟨k,oo,hk,rfl,rfl,HOut,HW⟩:=hrel;clear hrow0 HA E0;have hz:=HW.out.size;have hlk:=EL.out k;by_cases hlt:k < env.length;rotate_left
  ·obtain rfl:k=env.length:=(by omega);have fS:=Ld (specSortedR HOut.out hlk);clear HAT HS HR HO HL EL ES;generalize srt (ka env.length)=sl at fS E9;clear hlk;go_wp2_with fail;(with_reducible refine fS.out.mono ?_);rintro e w8 ⟨v8,rfl,hv8,hb8⟩;have HW8:=Ld (HW.out.trans (hb8.mono hz));have HV8:=Ld (own_lower hv8 hz);clear hv8 hb8 fS HOut;go_wp2;go_ret;rw [E9.out];exact ⟨_,rfl,HV8.out,HW8.out⟩
  obtain ⟨x,ex,mx,hek⟩:=HAT.out k hlt;have hsm:=HS.out _ (List.getElem_mem hlt);have HT:=Ld (ES.out k hlt);have hl2:=EL.out (k+1);rw [hek] at hsm HT;obtain ⟨g,cap,e0,_,hgl⟩:=HR.out.form (by omega);cases e0;have a8:=env_cells (own_below HR.out HW.out) hlt HL.out ex;have p0:=a8 0 (by decide);have p1:=a8 1 (by decide);have p2:=a8 2 (by decide);have p3:=a8 3 (by decide);have p4:=a8 4 (by decide);have p5:=a8 5 (by decide);have p6:=a8 6 (by decide);have p7:=a8 7 (by decide);have hox:=((HO.out x mx).below HW.out).1;have f1:=Ld (specNamesOf hox hsm.1);clear a8 ex mx hek HAT HS HR HO HL EL ES E9;obtain ⟨⟨⟨kd,nm,ps,fl,ty,vl,cs⟩,ls⟩,u,vv⟩:=x;obtain ⟨ua,uc,hu⟩:=row_sliceD hox;simp only at hu;subst hu;have hval:=dval kd nm ps fl ty vl cs (.slice ua cs.length uc);simp only [hval] at f1;simp only at HT;simp only [ecells,sv,List.getElem?_cons_zero,List.getElem?_cons_succ,Nat.add_zero,Nat.zero_add] at p0 p1 p2 p3 p4 p5 p6 p7;have t1:=zn k;have t2:(k:Int) < (env.length:Int):=(by omega);clear hox hsm hval;generalize namesOf ⟨kd,nm,ps,fl,ty,vl,cs⟩=nl at f1 HT;have hnl:(ka k).length+nl.length<=1000000:=by
   have h1:=congrArg List.length HT.out;rw [lA] at h1;omega
  go_wp2_with fail;(with_reducible refine f1.out.mono ?_);rintro e w5 ⟨v5,rfl,hv5,hb5⟩;go_wp2_with (at_builtin;refine append_rows rfl _ _ rfl rfl rfl (own_below HOut.out hb5) hv5 hnl (Nat.le_trans hz hb5.size) ?_;intro vA wA hoA hbA);have HO2:Hid (wA.ownsRow w.heap.size 9 1 vA (ka (k+1)).length ((ka (k+1)).map sv)):=by
   rw [Hid,HT.out];exact hoA
  have HW2:Hid (Below w.heap.size w wA):=(HW.out.trans (hb5.mono hz)).trans hbA;clear hoA hbA hv5 hb5 f1 HT p0 p1 p2 p3 p4 p5 p6 p7;go_wp2;go_roundw
  case rel=>exact ⟨k+1,_,by omega,by go_num,rfl,HO2.out,HW2.out⟩
  case measure=>simp [intOf];omega
structure GrownIn (lo hi:Nat) (w w':World):Prop where
 os:w'.os=w.os
 tape:w'.tape=w.tape
 output:w'.output=w.output
 size:w.heap.size<=w'.heap.size
 block:∀ k,k < w.heap.size->(k < lo\/hi<=k)->w'.heap[k]?=w.heap[k]?
theorem GrownIn.refl (lo hi:Nat) (w:World):GrownIn lo hi w w:=⟨rfl,rfl,rfl,nR _,fun _ _ _=>rfl⟩
theorem GrownIn.step {lo hi:Nat} {a b c:World} (h:GrownIn lo hi a b) {row:Option Nat} (k:b.grownBy c row) (hr:∀ g,row=some g->lo<=g/\g < hi):GrownIn lo hi a c := ⟨k.os.trans h.os,k.tape.trans h.tape,k.output.trans h.output,Nat.le_trans h.size k.size,fun i h1 h2=>(k.block i (Nat.lt_of_lt_of_le h1 h.size) (fun e=>by have:=hr i e.symm;omega)).trans (h.block i h1 h2)⟩
theorem below_grownIn {B lo hi:Nat} {a w w':World} (h:Below B a w) (hg:GrownIn lo hi w w') (hB:B<=w.heap.size) (hl:B<=lo):Below B a w' :=
 h.trans ⟨hg.os,hg.tape,hg.output,hg.size,fun k hk=>hg.block k (by omega) (.inl (by omega))⟩
theorem own_in {lo hi:Nat} {w w':World} {b n z:Nat} {e:TypeId} {v:Value} {xs:List Value} (h:w.ownsRow b e z v n xs) (hg:GrownIn lo hi w w') (ho:∀ k,v.ownBlock=some k->k < lo\/hi<=k):w'.ownsRow b e z v n xs:=by
 refine ⟨h.1,?_⟩;rcases h.2 with h1 | ⟨g,cap,cur,rfl,h2,h3,h4⟩
 ·exact .inl h1
 ·have hlt:g < w.heap.size:=by
   rw [Array.getElem?_eq_some_iff] at h3;exact h3.1
  exact .inr ⟨g,cap,cur,rfl,h2,(hg.block g hlt (ho g rfl)).trans h3,h4⟩
theorem own_again {w w':World} {b b' n n' z:Nat} {e:TypeId} {v v':Value} {xs xs' ys':List Value} (hz:0 < z) (h:w.ownsRow b e z v n xs) (h':w.ownsRow b' e z v' n' xs') (hw:w'.ownsRow b' e z v' n' ys') (hg:w.grownBy w' v'.ownBlock):∃ ys,w'.ownsRow b e z v n ys:=by
 by_cases hk:v.ownBlock=none\/v.ownBlock≠v'.ownBlock
 ·exact ⟨_,h.kept hg hk⟩
 ·rcases h.2 with ⟨rfl,_⟩ | ⟨g,cap,cur,rfl,h2,h3,h4,h5,h6,h7⟩
  ·exact absurd (.inl rfl) hk
  ·rcases h'.2 with ⟨rfl,_⟩ | ⟨g',cap',cur',rfl,k2,k3,k4,k5,k6,k7⟩
   ·exact absurd (.inr (by simp [Value.ownBlock])) hk
   ·have hgg:g=g':=by
     by_cases e:g=g'
     ·exact e
     ·exact absurd (.inr (by simpa [Value.ownBlock] using e)) hk
    subst hgg;rw [h3] at k3;simp only [Option.some.injEq,Obj.cells.injEq,and_true] at k3;subst k3;have hcc:cap=cap':=Nat.eq_of_mul_eq_mul_right hz (h6.symm.trans k6);subst hcc;rcases hw.2 with ⟨hw1,_⟩ | ⟨g'',cap'',cur'',hw1,l2,l3,l4,l5,l6,l7⟩
    ·cases hw1
    ·injection hw1 with e1 e2 e3;injection e1 with e1;injection e1 with e1;subst e1;subst e3;refine ⟨cur''.toList.take (n*z),?_,.inr ⟨g,cap,cur'',rfl,h2,l3,h4,h5,l6,rfl⟩⟩;have:=Nat.mul_le_mul_right z h4;rw [List.length_take,Array.length_toList];omega
def SubE (w:World) (B:Nat) (xs:List Ev):Prop:=∀ x∈xs,(∃ cs,w.ownsRow B 88 2 x.2.1 x.1.1.ctors.length cs)/\(∃ ls,w.ownsRow B 99 2 x.2.2 x.1.2.length ls)
def HiE (hi:Nat) (xs:List Ev):Prop:=∀ x∈xs,(∀ k,x.2.1.ownBlock=some k->k < hi)/\(∀ k,x.2.2.ownBlock=some k->k < hi)
structure MkSt (w0 w:World) (B hi g n c:Nat) (xs:List Ev) (j:Nat):Prop where
 row:∃ ys,w.ownsRow B 55 8 (.slice (some ⟨g,0,none⟩) n c) n ys/\ys.drop j=(flatE xs).drop j
 sub:SubE w B xs
 inn:GrownIn B hi w0 w
 top:g < hi
 tops:HiE hi xs
theorem MkSt.below {w0 w w':World} {B hi g n c:Nat} {xs:List Ev} {j:Nat} (h:MkSt w0 w B hi g n c xs j) (hb:Below w.heap.size w w'):MkSt w0 w' B hi g n c xs j:=by
 obtain ⟨⟨ys,h1,h2⟩,hs,hi,h4,h5⟩:=h;refine ⟨⟨ys,own_below h1 hb,h2⟩,fun x hx=>?_,hi.step (grownBy_of_below hb none) (fun _ e=>by cases e),h4,h5⟩;obtain ⟨⟨a,ha⟩,⟨b,hb'⟩⟩:=hs x hx;exact ⟨⟨a,own_below ha hb⟩,⟨b,own_below hb' hb⟩⟩
theorem MkSt.drop {w0 w:World} {B hi g n c:Nat} {xs:List Ev} {j k:Nat} (h:MkSt w0 w B hi g n c xs j) (hk:j<=k):MkSt w0 w B hi g n c xs k:=by
 obtain ⟨⟨ys,h1,h2⟩,h3,h4,h5,h6⟩:=h;refine ⟨⟨ys,h1,?_⟩,h3,h4,h5,h6⟩;rw [show k=j+(k - j) by omega,← List.drop_drop,← List.drop_drop,h2]
theorem MkSt.at {w0 w:World} {B hi g n c:Nat} {xs:List Ev} {j:Nat} (h:MkSt w0 w B hi g n c xs j) (i:Nat) (hj:j<=i) (hi':i < n*8):w.cell? ⟨g,i,none⟩=(flatE xs)[i]?:=by
 obtain ⟨⟨ys,h1,h2⟩,h3⟩:=h;rw [h1.cellAt i hi',show i=j+(i - j) by omega,← List.getElem?_drop,← List.getElem?_drop,h2]
theorem MkSt.cell {w0 w:World} {B hi g n c:Nat} {xs:List Ev} {j:Nat} (h:MkSt w0 w B hi g n c xs j) (i:Nat) (hi':i < n*8):(∃ old,w.cell? ⟨g,i,none⟩=some old)/\w.frozen? ⟨g,i,none⟩=false:=by
 obtain ⟨⟨ys,h1,h2⟩,h3⟩:=h;have hl:ys.length=n*8:=h1.1;refine ⟨⟨ys[i]'(by omega),?_⟩,h1.frozenAt i⟩;rw [h1.cellAt i hi',List.getElem?_eq_getElem]
theorem MkSt.store {w0 w:World} {B hi g n c:Nat} {xs:List Ev} {j:Nat} (h:MkSt w0 w B hi g n c xs j) (i:Nat) (hj:i < j) (u:Value):MkSt w0 (w.setCell ⟨g,i,none⟩ u) B hi g n c xs j:=by
 obtain ⟨⟨ys,h1,h2⟩,hs,hin,h4,h5⟩:=h;obtain ⟨k1,k2⟩:=h1.stored i u;have hB:B<=g:=(h1.lt g rfl).1;refine ⟨⟨_,k1,?_⟩,fun x hx=>?_,hin.step k2 (fun k e=>by injection e with e;omega),h4,h5⟩
 ·rw [List.drop_set_of_lt hj,h2]
 ·obtain ⟨⟨a,ha⟩,⟨b,hb⟩⟩:=hs x hx;exact ⟨⟨a,own_other ha h1 (by decide) k2⟩,⟨b,own_other hb h1 (by decide) k2⟩⟩
theorem MkSt.ctor {w0 w w':World} {B hi g n c:Nat} {xs:List Ev} {j:Nat} (h:MkSt w0 w B hi g n c xs j) {x:Ev} (hx:x∈xs) (hg:w.grownBy w' x.2.1.ownBlock) {zs:List Value} (hw:w'.ownsRow B 88 2 x.2.1 x.1.1.ctors.length zs):MkSt w0 w' B hi g n c xs j:=by
 obtain ⟨⟨ys,h1,h2⟩,hs,hin,h4,h5⟩:=h;obtain ⟨⟨a,ha⟩,_⟩:=hs x hx;refine ⟨⟨ys,own_other h1 ha (by decide) hg,h2⟩,fun y hy=>?_,hin.step hg (fun k e=>⟨(ha.lt k e).1,(h5 x hx).1 k e⟩),h4,h5⟩;obtain ⟨⟨a2,ha2⟩,⟨b2,hb2⟩⟩:=hs y hy;exact ⟨own_again (by decide) ha2 ha hw hg,⟨b2,own_other hb2 ha (by decide) hg⟩⟩
theorem MkSt.label {w0 w w':World} {B hi g n c:Nat} {xs:List Ev} {j:Nat} (h:MkSt w0 w B hi g n c xs j) {x:Ev} (hx:x∈xs) (hg:w.grownBy w' x.2.2.ownBlock) {zs:List Value} (hw:w'.ownsRow B 99 2 x.2.2 x.1.2.length zs):MkSt w0 w' B hi g n c xs j:=by
 obtain ⟨⟨ys,h1,h2⟩,hs,hin,h4,h5⟩:=h;obtain ⟨_,⟨a,ha⟩⟩:=hs x hx;refine ⟨⟨ys,own_other h1 ha (by decide) hg,h2⟩,fun y hy=>?_,hin.step hg (fun k e=>⟨(ha.lt k e).1,(h5 x hx).2 k e⟩),h4,h5⟩;obtain ⟨⟨a2,ha2⟩,⟨b2,hb2⟩⟩:=hs y hy;exact ⟨⟨a2,own_other ha2 ha (by decide) hg⟩,own_again (by decide) hb2 ha hw hg⟩
def cntE (l:List Ev):Nat:=(l.map fun x=>6+2*x.1.1.ctors.length+2*x.1.2.length).sum
theorem cntE_drop {l:List Ev} {j:Nat} {x:Ev} (h:l[j]?=some x):cntE (l.drop j)=6+2*x.1.1.ctors.length+2*x.1.2.length+cntE (l.drop (j+1)):=by
 rw [List.getElem?_eq_some_iff] at h;obtain ⟨h1,rfl⟩:=h;rw [List.drop_eq_getElem_cons h1,cntE,List.map_cons,List.sum_cons];rfl
theorem markEntryS {w:World} {B hi:Nat} {v:Value} {xs:List Ev} (hr:w.ownsRow B 55 8 v xs.length (flatE xs)) (ho:∀ x∈xs,EvOwn w B x) (hv:∀ k,v.ownBlock=some k->k < hi) (hvs:HiE hi xs) (hn:xs.length<=1048576) (hn2:∀ x∈xs,x.1.1.ctors.length<=1048576/\x.1.2.length<=1048576) (hc:cntE xs<=20000000) :
  Calls Tryz.prog 24 #[v,.int .i64 1] w fun e w'=>(∃ m:Nat,e=.returned (.int .i64 (m:Int)))/\GrownIn B hi w w':=by
 by_cases h0:xs.length=0
 ·obtain ⟨ra,rc,rfl⟩:=row_sliceD hr;rw [h0];clear hr ho hv hvs hn hn2 hc h0;go_enter Tryz.func24,Tryz.ntmps24;go_wp2;refine wp_loop_rounds 1 ?_;rw [rounds_succ];go_wp2;go_ret;exact ⟨⟨1,rfl⟩,GrownIn.refl _ _ _⟩
 obtain ⟨g,c,rfl,_,_⟩:=hr.form (by omega);have hS0:MkSt w w B hi g xs.length c xs (0*8):=⟨⟨_,hr,rfl⟩,fun x hx=>⟨⟨_,(ho x hx).1⟩,⟨_,(ho x hx).2⟩⟩,GrownIn.refl _ _ _,hv g rfl,hvs⟩;have HS0:=Ld hS0;have HN2:=Ld hn2;have FM:Hid (∀ (z:Int),0 < z->z<=100000000->∀ W,Calls Tryz.prog 42 #[.int .i64 z] W fun e w'=>(∃ mk,e=.returned (.string mk))/\Below W.heap.size W w'):=fun z h1 h2 W=>by
  obtain ⟨k,rfl⟩:=Int.eq_ofNat_of_zero_le (Int.le_of_lt h1);exact (markText k W (by omega) (by omega)).mono fun e w' h=>⟨⟨_,h.1⟩,h.2⟩
 generalize hnn:xs.length=n at hS0 HS0 hn h0 |-;have HLn:=Ld hnn;clear hr ho hv hvs hn2 hS0 hnn;go_enter Tryz.func24,Tryz.ntmps24;go_wp2;go_loopw [1,5] (fun kk i wr=>∃ (j m:Nat),j<=n/\i=.int .i64 j/\kk=.int .i64 (m:Int)/\0 < m/\m+cntE (xs.drop j)<=20000001/\Hid (MkSt w wr B hi g n c xs (j*8))) (fun _ i _=>n - (intOf i).toNat)
 case atStart=>exact ⟨0,1,Nat.zero_le _,rfl,rfl,by decide,by rw [List.drop_zero];omega,HS0.out⟩
 case round =>
  obtain ⟨j,m,hj,rfl,rfl,hm0,hm,HS⟩:=hrel;clear HS0 hc;by_cases hlt:j < n;rotate_left
  ·have HG:=Ld HS.out.inn;clear HS HN2 FM HLn hm;go_wp2;go_ret;exact ⟨⟨m,rfl⟩,HG.out⟩
  obtain ⟨x,ex⟩:∃ x,xs[j]?=some x:=⟨xs[j]'(by rw [HLn.out];exact hlt),List.getElem?_eq_getElem _⟩;have mx:=List.mem_of_getElem? ex;have HMX:=Ld mx;have hx2:=HN2.out x mx;have hcd:=cntE_drop ex;rw [hcd] at hm;have HC:=Ld hcd;have fe:=fun i hi=>flatE_get (l:=xs) (j:=j) (by rw [HLn.out];exact hlt) i hi;have ej:xs[j]'(by rw [HLn.out];exact hlt)=x:=by
   rw [List.getElem?_eq_getElem (by rw [HLn.out];exact hlt)] at ex;exact Option.some.inj ex
  rw [ej] at fe;have F6:Hid ((flatE xs)[j*8+6]?=some x.2.1):=(fe 6 (by decide)).trans rfl;have F7:Hid ((flatE xs)[j*8+7]?=some x.2.2):=(fe 7 (by decide)).trans rfl;have HD:=Ld (HS.out.drop (k:=j*8+6) (by omega));clear ex mx ej fe HS HN2 HLn hcd;generalize hrr:cntE (xs.drop (j+1))=rr at hm;have HRR:=Ld hrr;obtain ⟨nc,hnc⟩:∃ nc,x.1.1.ctors.length=nc:=⟨_,rfl⟩;obtain ⟨nl,hnl⟩:∃ nl,x.1.2.length=nl:=⟨_,rfl⟩;have HNC:=Ld hnc;have HNL:=Ld hnl;rw [hnc,hnl] at hm hx2;clear hrr hnc hnl HC;have q1:=zn j;have q2:(j:Int) < (n:Int):=(by omega);obtain ⟨⟨o0,c0⟩,z0⟩:=HD.out.cell (j*8) (by omega);go_upto_region 6 with fail;have HD0:=Ld (HD.out.store (j*8) (by omega) (.int .i64 (m:Int)));clear c0 z0 HD;generalize wr.setCell ⟨g,j*8,none⟩ (.int .i64 (m:Int))=wa at HD0 |-;go_wp2_with fail
  (refine (FM.out _ (by omega) (by omega) _).mono ?_);rintro e w1 ⟨⟨mk1,rfl⟩,hb⟩
  have HD1:=Ld (HD0.out.below hb);clear hb HD0;obtain ⟨⟨o1,c1⟩,z1⟩:=HD1.out.cell (j*8+1) (by omega);go_upto_region 8 with fail;have HD2:=Ld (HD1.out.store (j*8+1) (by omega) (.string mk1));clear c1 z1 HD1;generalize w1.setCell ⟨g,j*8+1,none⟩ (.string mk1)=wb at HD2 |-;obtain ⟨⟨o2,c2⟩,z2⟩:=HD2.out.cell (j*8+2) (by omega);go_upto_region 10 with fail;have HD3:=Ld (HD2.out.store (j*8+2) (by omega) (.int .i64 ((m:Int)+1+1)));clear c2 z2 HD2;generalize wb.setCell ⟨g,j*8+2,none⟩ (.int .i64 ((m:Int)+1+1))=wc at HD3 |-;obtain ⟨⟨o3,c3⟩,z3⟩:=HD3.out.cell (j*8+3) (by omega);go_upto_region 12 with fail;have HD4:=Ld (HD3.out.store (j*8+3) (by omega) (.int .i64 ((m:Int)+1+1+1)));clear c3 z3 HD3;generalize wc.setCell ⟨g,j*8+3,none⟩ (.int .i64 ((m:Int)+1+1+1))=wd at HD4 |-;go_wp2_with fail
  (refine (FM.out _ (by omega) (by omega) _).mono ?_);rintro e w4 ⟨⟨mk4,rfl⟩,hb⟩
  have HD5:=Ld (HD4.out.below hb);clear hb HD4;obtain ⟨⟨o4,c4⟩,z4⟩:=HD5.out.cell (j*8+4) (by omega);go_upto_region 14 with fail;have HD6:=Ld (HD5.out.store (j*8+4) (by omega) (.string mk4));clear c4 z4 HD5;generalize w4.setCell ⟨g,j*8+4,none⟩ (.string mk4)=we at HD6 |-;go_wp2_with fail
  (refine (FM.out _ (by omega) (by omega) _).mono ?_);rintro e w5 ⟨⟨mk5,rfl⟩,hb⟩
  have HD7:=Ld (HD6.out.below hb);clear hb HD6;obtain ⟨⟨o5,c5⟩,z5⟩:=HD7.out.cell (j*8+5) (by omega);go_upto_region 16 with fail;have HD8:=Ld (HD7.out.store (j*8+5) (by omega) (.string mk5));clear c5 z5 HD7;generalize w5.setCell ⟨g,j*8+5,none⟩ (.string mk5)=wf at HD8 |-;obtain ⟨a6,ha6⟩:=(HD8.out.sub x HMX.out).1;obtain ⟨ua,uc,hu⟩:=row_sliceD ha6;have p6:=(HD8.out.at (j*8+6) (by omega) (by omega)).trans F6.out;rw [HNC.out] at hu ha6;rw [hu] at p6 ha6;have f6:=Ld (markCtorS (k:=m+6) ha6 (by omega) (by omega) (by omega));simp only [Int.natCast_add,Int.natCast_mul,Int.cast_ofNat_Int,Int.natCast_one] at f6;have HU:=Ld hu;clear ha6 hu F6;go_wp2_with fail
  (refine (f6.out).mono ?_);rintro e w6 ⟨rfl,hg6,zs,hw6⟩
  rw [← HU.out] at hg6 hw6;have HD9:=Ld (HD8.out.ctor HMX.out hg6 (by rw [HNC.out];exact hw6));clear hg6 hw6 HD8 f6 HU p6;obtain ⟨a7,ha7⟩:=(HD9.out.sub x HMX.out).2;obtain ⟨va,vc,hu⟩:=row_sliceD ha7;have p7:=(HD9.out.at (j*8+7) (by omega) (by omega)).trans F7.out;rw [HNL.out] at hu ha7;rw [hu] at p7 ha7;have f7:=Ld (markLabelS (k:=m+6+2*nc) ha7 (by omega) (by omega) (by omega));simp only [Int.natCast_add,Int.natCast_mul,Int.cast_ofNat_Int,Int.natCast_one] at f7;have HU:=Ld hu;clear ha7 hu F7;go_wp2_with fail
  (refine (f7.out).mono ?_);rintro e w7 ⟨rfl,hw7,hg7⟩
  rw [← HU.out] at hg7 hw7;have HDA:=Ld (HD9.out.label HMX.out hg7 (by rw [HNL.out];exact hw7));clear hg7 hw7 HD9 f7 HU p7;go_wp2;go_roundw
  case rel=>exact ⟨j+1,m+6+2*nc+2*nl,by omega,by go_num,by go_num,by omega,by rw [HRR.out];omega,HDA.out.drop (by omega)⟩
  case measure=>simp [intOf];omega
theorem cntE_le:∀ {xs:List Ev},cntE xs<=6*xs.length+2*totE (xs.map fun x=>x.1):=by
 intro xs
 induction xs with
 | nil=>simp [cntE]
 | cons x xs ih =>
  simp only [cntE,totE,List.map_cons,List.sum_cons,lC,En.size,Dc.size] at ih |-;omega
theorem known_len {env:List En} (h:(knownAll env).length<=1000000):(known env).length<=1000000:=by
 have h2:=(srt_spec _ (knownAll env) (nR _)).2.2;unfold known;omega
theorem lawKnown {env:List En} {v:Value} (w:World) (hc:CameE w v env)
  (hI:EnvSmall env->(knownAll env).length<=1000000->∀ (W:World) (B:Nat) (u:Value),Below w.heap.size w W->EnvIs W B u env->Calls Tryz.prog 23 #[u] W (LRes' (known env) W)) :
  Rt 7 #[v] w (.bool true):=by
 obtain ⟨a0,cap,hv⟩:=hc.len;have f1:=Ld (szEntryS hc 1048576 (nR _));unfold SzResE at f1;simp only [show ((1048576:Nat):Int)=1048576 from rfl] at f1;have FT:=Ld fun (hs:EnvSmall env) (W:World) (hW:Below w.heap.size w W)=>toEntryS (hc.below hW) hs.1 hs.ctors;unfold LResE at FT;have FS:=Ld fun (hs:EnvSmall env) (hk:(knownAll env).length<=1000000) (W:World) (B:Nat) (u:Value) (h:EnvIs W B u env)=>specKnown h hs hk;unfold LRes' at FS hI;have FE:=Ld fun (hs:EnvSmall env) (W:World) (B1 B2:Nat) (u1 u2:Value) (h1:EnvIs W B1 u1 env) (h2:EnvIs W B2 u2 env)=>eqEntryS h1 h2 hs.1 hs.ctors;have HI:=Ld hI;have HSM:=Ld fun (h:env.length+totE env<=1048576)=>And.intro (EnvSmall.of_tot h) (knownAll_le h);have HKL:=Ld fun (h:(knownAll env).length<=1000000)=>known_len h
 have HCN:=Ld fun (h:env.length+totE env<=1048576) (xs:List Ev) (hx:xs.map (fun x=>x.1)=env)=>(by
  have h1:=cntE_le (xs:=xs);rw [hx] at h1;have h2:xs.length=env.length:=(by rw [← hx,List.length_map]);omega:cntE xs<=20000000)
 clear hI hc;subst hv;obtain ⟨r,hr⟩:∃ r,known env=r:=⟨_,rfl⟩;rw [hr] at FS HI HKL;clear hr;go_enter Tryz.func7,Tryz.ntmps7;go_wp2_with fail;(with_reducible refine f1.out.mono ?_);rintro e w1 ⟨hb1,(rfl | ⟨z,rfl,hz⟩)⟩
 ·have HB1:=Ld hb1;clear hb1 f1 FT FS FE HI HCN;go_wp2;go_ret;exact ⟨rfl,HB1.out⟩
 obtain ⟨hs,hk⟩:=HSM.out (by omega);have hrl:=HKL.out hk;have HCN2:=Ld (HCN.out (by omega));have HS:=Ld hs;have dz:decide ((z:Int) < 0)=false:=dF (by omega);have HB1:=Ld hb1;have FT2:=Ld (FT.out hs);have FS2:=Ld (FS.out hs hk);have FE2:=Ld (FE.out hs);have HI2:=Ld (HI.out hs hk);clear hb1 hz f1 FT FS FE HI hs hk HSM HKL HCN;go_wp2_with fail;(with_reducible refine (FT2.out _ HB1.out).mono ?_);rintro e w2 ⟨u2,rfl,hu2,hb2⟩;have HB2:=bt HB1.out hb2;obtain ⟨a2,c2,rfl⟩:=hu2.len;have f3:=Ld (FS2.out _ _ _ hu2);clear hb2 hu2 FS2;go_wp2_with fail;(with_reducible refine f3.out.mono ?_);rintro e w3 ⟨vW,rfl,hW3,hb3⟩;have HB3:=bt HB2.out hb3;have hiW:Hid (∀ k,vW.ownBlock=some k->k < w3.heap.size):=fun k hk=>(hW3.lt k hk).2;have HW3:=Ld hW3;clear hb3 f3 hW3;go_wp2_with fail;(with_reducible refine (FT2.out _ HB3.out).mono ?_);rintro e w4 ⟨u4,rfl,hu4,hb4⟩;have HB4:=bt HB3.out hb4;have HW4:=Ld (own_below HW3.out hb4);have z34:=hb4.size;have HU4:=Ld hu4;obtain ⟨xs,hx,hr4,ho4⟩:=hu4;have HX:=Ld hx;have HR4:=Ld hr4;have HO4:=Ld ho4;have hiX:Hid (∀ k,u4.ownBlock=some k->k < w4.heap.size):=fun k hk=>(hr4.lt k hk).2;have hiS:Hid (HiE w4.heap.size xs):=fun x hx=>⟨fun k hk=>((ho4 x hx).1.lt k hk).2,fun k hk=>((ho4 x hx).2.lt k hk).2⟩;have f5:=Ld (HI2.out _ _ _ HB4.out HU4.out);obtain ⟨a4,c4,hu4e⟩:=HU4.out.len;subst hu4e;clear hb4 hx hr4 ho4 HW3;go_wp2_with fail;(with_reducible refine f5.out.mono ?_);rintro e w5 ⟨vg,rfl,hg5,hb5⟩;have HB5:=bt HB4.out hb5
 have loG:Hid (∀ k,vg.ownBlock=some k->w4.heap.size<=k):=fun k hk=>(hg5.lt k hk).1;have HL5:=Ld hb5;have HW5:=Ld (own_below HW4.out hb5);have HG5:=Ld hg5;clear hb5 f5 HW4 hg5;go_wp2_with fail
 (refine (eqStringS HG5.out HW5.out (by omega)).mono ?_);rintro e w6 ⟨rfl,q1,rfl⟩
 have HB6:=Ld (below_drewN HB5.out q1);have HL6:=Ld (below_drewN HL5.out q1);have HW6:=Ld (own_drew HW5.out q1);have HG6:=Ld (own_drew HG5.out q1);generalize w5.drewN q1=w6 at HB6 HL6 HW6 HG6 |-;clear HW5 HG5 HL5;go_wp2_with fail;(with_reducible refine (FT2.out _ HB6.out).mono ?_);rintro e w7 ⟨u7,rfl,hu7,hb7⟩;have HB7:=bt HB6.out hb7;have HL7:=bt HL6.out hb7;have HW7:=Ld (own_below HW6.out hb7);have HG7:=Ld (own_below HG6.out hb7);obtain ⟨a7,c7,rfl⟩:=hu7.len;have f8:=Ld (FE2.out _ _ _ _ _ (HU4.out.below HL7.out) hu7);clear hb7 hu7 FE2 HU4 HW6 HG6 HL6;go_wp2_with fail;(with_reducible refine mo f8.out fun w8 hb8=>?_);have HB8:=bt HB7.out hb8;have HL8:=bt HL7.out hb8;have HW8:=Ld (own_below HW7.out hb8);have HG8:=Ld (own_below HG7.out hb8);clear hb8 f8 HW7 HG7 HL7;have hxl:xs.length=env.length:=by rw [← HX.out,List.length_map]
 have f9:=Ld (markEntryS (own_below HR4.out HL8.out) (fun x hx=>(HO4.out x hx).below HL8.out) hiX.out hiS.out (by have:=HS.out.1;omega) (fun x hx=>HS.out.ctors x.1 (by rw [← HX.out];exact List.mem_map.2 ⟨x,hx,rfl⟩)) (HCN2.out xs HX.out));have z38:w3.heap.size<=w8.heap.size:=Nat.le_trans z34 HL8.out.size;clear HR4 HO4 hiX hiS HCN2 HS HX hxl;go_wp2_with fail;(with_reducible refine f9.out.mono ?_);rintro e w9 ⟨⟨mm,rfl⟩,hgr⟩;have HB9:=Ld (below_grownIn HB8.out hgr HB8.out.size HB3.out.size);have HW9:=Ld (own_in HW8.out hgr (fun k hk=>.inl (hiW.out k hk)));have HG9:=Ld (own_in HG8.out hgr (fun k hk=>.inr (loG.out k hk)));have z89:=hgr.size;have dm:decide ((mm:Int) < 0)=false:=dF (by omega);clear hgr f9 HW8 HG8 HL8;go_wp2_with fail
 (refine (eqStringS HG9.out HW9.out (by omega)).mono ?_);rintro e w10 ⟨rfl,q2,rfl⟩
 have HB10:=Ld (below_drewN HB9.out q2);have HW10:=Ld (own_drew HW9.out q2);have HG10:=Ld (own_drew HG9.out q2);generalize w9.drewN q2=w10 at HB10 HW10 HG10 |-;clear HW9 HG9 dm;go_wp2_with fail;(with_reducible refine (markOne HG10.out (by omega)).mono ?_);rintro e w12 ⟨rfl,hm12,hgr⟩;have HB12:=Ld (HB10.out.grown hgr HB10.out.size (fun k hk=>Nat.le_trans HB4.out.size (loG.out k hk)));have HW12:=Ld (own_in (lo:=w3.heap.size) (hi:=w10.heap.size) HW10.out ⟨hgr.os,hgr.tape,hgr.output,hgr.size,fun k h1 h2=>hgr.block k h1 (fun e=>by have:=loG.out k e.symm;omega)⟩ (fun k hk=>.inl (hiW.out k hk)));have HM12:=Ld hm12;clear hgr HG10 HW10 hm12;go_wp2_with fail;(with_reducible refine mo (heldOne HM12.out (by omega)) fun w13 hb13=>?_);have HB13:=bt HB12.out hb13;have HM13:=Ld (own_below HM12.out hb13);have HW13:=Ld (own_below HW12.out hb13);have d17:decide ((r.length:Int)+1 < 0)=false:=dF (by omega);clear hb13 HM12 HW12;go_wp2_with fail;(with_reducible refine (FT2.out _ HB13.out).mono ?_);rintro e w14 ⟨u14,rfl,hu14,hb14⟩;have HB14:=bt HB13.out hb14;have HM14:=Ld (own_below HM13.out hb14);have HW14:=Ld (own_below HW13.out hb14);obtain ⟨a14,c14,rfl⟩:=hu14.len;have f15:=Ld (HI2.out _ _ _ HB14.out hu14);clear hb14 hu14 HM13 HW13 HI2 FT2;go_wp2_with fail;(with_reducible refine f15.out.mono ?_);rintro e w15 ⟨vh,rfl,hh,hb15⟩;have HB15:=bt HB14.out hb15;have HM15:=Ld (own_below HM14.out hb15);have HW15:=Ld (own_below HW14.out hb15);have HH:=Ld hh;clear hb15 f15 HM14 HW14 hh;go_wp2_with fail
 (refine (eqStringS HH.out HW15.out (by omega)).mono ?_);rintro e w16 ⟨rfl,q5,rfl⟩
 have HB16:=Ld (below_drewN HB15.out q5);have HM16:=Ld (own_drew HM15.out q5);generalize w15.drewN q5=w16 at HB16 HM16 |-;clear HM15 HW15 HH;go_wp2_with fail;(with_reducible refine mo (heldOne HM16.out (by omega)) fun w17 hb17=>?_);have HB17:=bt HB16.out hb17;clear HM16 hb17;go_wp2;go_ret;exact ⟨rfl,HB17.out⟩
end Go.Proofs.YtcaahdjhbmmcnaaGreatDoor
