/- QSz QTo QTs QEq -/
import Derived.Deep.RegionHeld3
import Derived.Test.YtfohdgplaimomaaGreatDoorYQB
set_option maxRecDepth 100000
set_option maxHeartbeats 16000000
set_option linter.unusedSimpArgs false
set_option linter.unusedVariables false
namespace Go.Proofs.YtfohdgplaimomaaGreatDoor
open Go.ChangeShapes Go.WideShapes Go.ChangeAt Go.RowKit
def SzResE1 (e:En) (left:Nat) (w:World) (r:Ending) (w':World):Prop :=
 Below w.heap.size w w'∧(r=.returned (.int .i64 (-1))∨∃ z:Nat,r=.returned (.int .i64 (z:Int))∧z+e.size=left)
theorem szEntry {w:World} {x:Ev} (h1:CameC w x.2.1 x.1.1.ctors) (h2:CameL w x.2.2 x.1.2) (hf:x.1.1.Fits) (left:Nat) (hle:left≤1048576) :
  Calls Tryz.prog 27 #[x.val,.int .i64 (left:Int)] w (SzResE1 x.1 left w):=by
 obtain ⟨⟨⟨kd,nm,ps,fl,ty,vl,cs⟩,ls⟩,u,v⟩:=x
 obtain ⟨a1,c1,_,_,hu,_⟩:=id h1
 obtain ⟨a2,c2,_,_,hv,_⟩:=id h2
 simp only at hu hv h1 h2 hf
 subst hu hv
 have hval:Ev.val ⟨⟨⟨kd,nm,ps,fl,ty,vl,cs⟩,ls⟩,.slice a1 cs.length c1,.slice a2 ls.length c2⟩=.agg #[.int .i64 kd,.string ⟨nm.toArray⟩,.int .i64 ps,.int .i64 fl,.string ⟨ty.toArray⟩,.string ⟨vl.toArray⟩,.slice a1 cs.length c1,.slice a2 ls.length c2]:=rfl
 rw [hval]
 have HZ:Hid (En.size ⟨⟨kd,nm,ps,fl,ty,vl,cs⟩,ls⟩=Dc.size ⟨kd,nm,ps,fl,ty,vl,cs⟩+ls.length+totLb ls):=rfl
 have ha:=alloc_any w (.cells #[.int .i64 kd,.string ⟨nm.toArray⟩,.int .i64 ps,.int .i64 fl,.string ⟨ty.toArray⟩,.string ⟨vl.toArray⟩,.slice a1 cs.length c1,.slice a2 ls.length c2] 47)
 have HA:=Ld ha
 obtain ⟨q0,q1,q2,q3,q4,q5,q6,q7⟩:=evBox (w:=w) (kd:=kd) (ps:=ps) (fl:=fl) (nm:=nm) (ty:=ty) (vl:=vl) (u:=.slice a1 cs.length c1) (v:=.slice a2 ls.length c2) (T:=47) _ (Below.refl _ _)
 have HX:=Ld fun W hW=>(evBox (w:=w) (kd:=kd) (ps:=ps) (fl:=fl) (nm:=nm) (ty:=ty) (vl:=vl) (u:=.slice a1 cs.length c1) (v:=.slice a2 ls.length c2) (T:=47) W hW).2.2.2.2.2.2.2
 have f1:=Ld (szDecl (d:=⟨kd,nm,ps,fl,ty,vl,cs⟩) (h1.below ha) hf left hle)
 have hdv:Dc.val ⟨kd,nm,ps,fl,ty,vl,cs⟩ (.slice a1 cs.length c1)=.agg #[.int .i64 kd,.string ⟨nm.toArray⟩,.int .i64 ps,.int .i64 fl,.string ⟨ty.toArray⟩,.string ⟨vl.toArray⟩,.slice a1 cs.length c1]:=rfl
 rw [hdv] at f1
 unfold SzResD at f1
 have F2:=Ld fun (W:World) (hW:Below w.heap.size w W) (r:Nat) (hr:r≤1048576)=>szLabelS (h2.below hW) r hr
 unfold SzResL at F2
 clear ha h1 h2 hf hval hdv
 unfold SzResE1
 go_enter Tryz.func27,Tryz.ntmps27
 go_wp2_with fail
 (with_reducible refine f1.out.mono ?_);rintro e w1 ⟨hb1,(rfl | ⟨r,rfl,hr⟩)⟩
 ·have HB1:=Ld (HA.out.trans (hb1.mono HA.out.size))
  clear hb1 f1 F2 HX
  go_wp2
  go_ret
  exact ⟨HB1.out,.inl rfl⟩
 have HB1:=Ld (HA.out.trans (hb1.mono HA.out.size))
 have d1:decide ((r:Int) < 0)=false:=decide_eq_false (by omega)
 have HR:=Ld hr
 have f2:=Ld (F2.out w1 HB1.out r (by omega))
 have p7:=HX.out _ hb1
 clear hb1 hr f1 F2 HX q0 q1 q2 q3 q4 q5 q6 q7
 go_wp2_with fail
 (with_reducible refine f2.out.mono ?_);rintro e w2 ⟨hb2,(rfl | ⟨z,rfl,hz⟩)⟩
 ·have HB2:=Ld (HB1.out.trans (hb2.mono HB1.out.size))
  clear hb2 f2
  go_wp2
  go_ret
  exact ⟨HB2.out,.inl rfl⟩
 ·have HB2:=Ld (HB1.out.trans (hb2.mono HB1.out.size))
  have d2:decide ((z:Int) < 0)=false:=decide_eq_false (by omega)
  have HF:Hid (z+En.size ⟨⟨kd,nm,ps,fl,ty,vl,cs⟩,ls⟩=left):=by have:=HR.out;rw [Hid,HZ.out];omega
  clear hb2 hz f2
  go_wp2
  go_ret
  exact ⟨HB2.out,.inr ⟨z,rfl,HF.out⟩⟩
def SzResE (l:List En) (left:Nat) (w:World) (e:Ending) (w':World):Prop :=
 Below w.heap.size w w'∧(e=.returned (.int .i64 (-1))∨∃ r:Nat,e=.returned (.int .i64 (r:Int))∧r+l.length+totE l=left)
theorem szEntryS {w:World} {v:Value} {l:List En} (h:CameE w v l) (left:Nat) (hle:left≤1048576) :
  Calls Tryz.prog 8 #[v,.int .i64 (left:Int)] w (SzResE l left w):=by
 obtain ⟨xs,a0,cap,b,off,h0,rfl,h2,h3,h4,h5⟩:=h
 have hll:l.length=xs.length:=by rw [← h0,List.length_map]
 unfold maxLen at h4
 unfold SzResE
 by_cases hn:left < xs.length
 ·have hd:decide ((left:Int) - (xs.length:Int) < 0)=true:=by simp;omega
  clear h2 h3 h5 h0 hll
  go_enter Tryz.func8,Tryz.ntmps8
  go_wp2
  go_ret
  exact ⟨Below.refl _ _,.inl rfl⟩
 ·have hd:decide ((left:Int) - (xs.length:Int) < 0)=false:=by simp;omega
  have HTK:Hid (∀ k,k < xs.length→∀ x,xs[k]?=some x→totE (l.take (k+1))=totE (l.take k)+En.size x.1):=by
   intro k hk x hx
   rw [totE_succ (by omega)]
   congr 1
   have h1:l[k]=(xs[k]).1:=by simp [← h0]
   rw [List.getElem?_eq_getElem hk] at hx
   rw [h1,Option.some.inj hx]
  have H5:=Ld h5
  have hll1:l.length≤xs.length:=by omega
  have hll2:xs.length≤l.length:=by omega
  clear h0 h5 hll
  go_enter Tryz.func8,Tryz.ntmps8
  go_wp2
  go_loopw [1,5] (fun lv i wr=>∃ k r:Nat,k≤xs.length∧i=.int .i64 k∧lv=.int .i64 (r:Int)∧Below w.heap.size w wr∧Hid (r+xs.length+totE (l.take k)=left)) (fun _ i _=>xs.length - (intOf i).toNat)
  case atStart=>exact ⟨0,left - xs.length,Nat.zero_le _,rfl,by go_num,Below.refl _ _,by simp only [List.take_zero,Hid,totE];simp;omega⟩
  case round =>
   obtain ⟨k,r,hk,rfl,rfl,hbel,HT⟩:=hrel
   have hr:r≤1048576:=by have:=HT.out;omega
   have hz:=hbel.size
   by_cases hlt:k < xs.length
   ·obtain ⟨rfl,hb⟩:=h2 (by omega)
    have hx:=H5.out _ (List.getElem_mem hlt)
    have ex:xs[k]?=some xs[k]:=List.getElem?_eq_getElem hlt
    have HT2:=Ld (HTK.out k hlt _ ex)
    have hc:=h3 k hlt
    clear ex h2 h3 HTK H5
    generalize xs[k]=xk at hc hx HT2
    have cc:∀ i,i < 8→wr.cell? ⟨b,off+k*8+i,none⟩=(ecells xk)[i]?:=fun i hi=>(hbel.cell (p:=⟨b,off+k*8+i,none⟩) hb).trans (hc i hi)
    have y0:=cc 0 (by decide)
    have y1:=cc 1 (by decide)
    have y2:=cc 2 (by decide)
    have y3:=cc 3 (by decide)
    have y4:=cc 4 (by decide)
    have y5:=cc 5 (by decide)
    have y6:=cc 6 (by decide)
    have y7:=cc 7 (by decide)
    have f1:=Ld (szEntry (x:=xk) (hx.1.below hbel) (hx.2.1.below hbel) hx.2.2.1 r hr)
    obtain ⟨⟨⟨kd,nm,ps,fl,ty,vl,cs⟩,ls⟩,u,v⟩:=xk
    obtain ⟨a1,c1,_,_,hu,_⟩:=hx.1
    obtain ⟨a2,c2,_,_,hv,_⟩:=hx.2.1
    simp only at hu hv HT2
    subst hu hv
    have hval:Ev.val ⟨⟨⟨kd,nm,ps,fl,ty,vl,cs⟩,ls⟩,.slice a1 cs.length c1,.slice a2 ls.length c2⟩=.agg #[.int .i64 kd,.string ⟨nm.toArray⟩,.int .i64 ps,.int .i64 fl,.string ⟨ty.toArray⟩,.string ⟨vl.toArray⟩,.slice a1 cs.length c1,.slice a2 ls.length c2]:=rfl
    rw [hval] at f1
    unfold SzResE1 at f1
    simp only [ecells,sv,List.getElem?_cons_zero,List.getElem?_cons_succ,Nat.add_zero,Nat.zero_add] at y0 y1 y2 y3 y4 y5 y6 y7
    have q1:(0:Int)≤(k:Int):=by omega
    have q2:(k:Int) < (xs.length:Int):=by omega
    clear hc cc hx hval
    go_wp2_with fail
    (with_reducible refine f1.out.mono ?_);rintro e w1 ⟨hb1,(rfl | ⟨z,rfl,hz1⟩)⟩
    ·go_wp2
     go_ret
     exact ⟨hbel.trans (hb1.mono hz),.inl rfl⟩
    ·have hd2:decide ((z:Int) < 0)=false:=decide_eq_false (by omega)
     have HN:Hid (z+xs.length+totE (l.take (k+1))=left):=by have:=HT.out;have:=HT2.out;simp only [Hid];omega
     have HBN:=Ld (hbel.trans (hb1.mono hz))
     clear hz1 hb1 f1 y0 y1 y2 y3 y4 y5 y6 y7 HT HT2
     go_wp2
     go_roundw
     case rel=>exact ⟨k+1,z,by omega,by go_num,rfl,HBN.out,HN.out⟩
     case measure=>simp [intOf];omega
   ·obtain rfl:k=xs.length:=by omega
    have HT3:Hid (r+l.length+totE l=left):=by
     have h:=HT.out
     rw [List.take_of_length_le (by omega)] at h
     rw [Hid]
     omega
    clear HT h2 h3 HTK H5
    go_wp2
    go_ret
    exact ⟨hbel,.inr ⟨r,rfl,HT3.out⟩⟩
def EvRes (e:En) (w:World) (r:Ending) (w':World):Prop :=
 ∃ y:Ev,r=.returned y.val∧y.1=e∧EvOwn w' w.heap.size y∧Below w.heap.size w w'
theorem toEntry {w:World} {x:Ev} (h1:CameC w x.2.1 x.1.1.ctors) (h2:CameL w x.2.2 x.1.2) (hn1:x.1.1.ctors.length≤1048576) (hn2:x.1.2.length≤1048576) :
  Calls Tryz.prog 29 #[x.val] w (EvRes x.1 w):=by
 obtain ⟨⟨⟨kd,nm,ps,fl,ty,vl,cs⟩,ls⟩,u,v⟩:=x
 obtain ⟨a1,c1,_,_,hu,_⟩:=id h1
 obtain ⟨a2,c2,_,_,hv,_⟩:=id h2
 simp only at hu hv h1 h2 hn1 hn2
 subst hu hv
 have hval:Ev.val ⟨⟨⟨kd,nm,ps,fl,ty,vl,cs⟩,ls⟩,.slice a1 cs.length c1,.slice a2 ls.length c2⟩=.agg #[.int .i64 kd,.string ⟨nm.toArray⟩,.int .i64 ps,.int .i64 fl,.string ⟨ty.toArray⟩,.string ⟨vl.toArray⟩,.slice a1 cs.length c1,.slice a2 ls.length c2]:=rfl
 rw [hval]
 obtain ⟨W3,hW3⟩:∃ W3,((w.alloc (.cells #[.int .i64 kd,.string ⟨nm.toArray⟩,.int .i64 ps,.int .i64 fl,.string ⟨ty.toArray⟩,.string ⟨vl.toArray⟩,.slice a1 cs.length c1,.slice a2 ls.length c2] 47)).alloc (.cells #[.int .i64 0,.string ⟨#[]⟩,.int .i64 0,.int .i64 0,.string ⟨#[]⟩,.string ⟨#[]⟩,.slice none 0 0,.slice none 0 0] 55)).alloc (.cells #[.int .i64 0,.string ⟨#[]⟩,.int .i64 0,.int .i64 0,.string ⟨#[]⟩,.string ⟨#[]⟩,.slice none 0 0,.slice none 0 0] 55)=W3:=⟨_,rfl⟩
 have hs3:W3.heap.size=w.heap.size+3:=by rw [← hW3];simp
 have HB3:Hid (Below w.heap.size w W3):=by
  rw [Hid,← hW3]
  exact (((Below.refl _ _).alloc (Nat.le_refl _) _).alloc (by simp) _).alloc (by simp<;>omega) _
 have HX:Hid (∀ W,Below W3.heap.size W3 W→W.cell? ⟨w.heap.size,7,none⟩=some (.slice a2 ls.length c2)∧(W.cell? ⟨w.heap.size+1,0,none⟩=some (.int .i64 0)∧W.cell? ⟨w.heap.size+1,1,none⟩=some (.string ⟨#[]⟩)∧W.cell? ⟨w.heap.size+1,2,none⟩=some (.int .i64 0)∧W.cell? ⟨w.heap.size+1,3,none⟩=some (.int .i64 0)∧W.cell? ⟨w.heap.size+1,4,none⟩=some (.string ⟨#[]⟩)∧W.cell? ⟨w.heap.size+1,5,none⟩=some (.string ⟨#[]⟩)∧W.cell? ⟨w.heap.size+1,6,none⟩=some (.slice none 0 0)∧W.cell? ⟨w.heap.size+1,7,none⟩=some (.slice none 0 0))∧(W.frozen? ⟨w.heap.size+1,0,none⟩=false∧W.frozen? ⟨w.heap.size+1,1,none⟩=false∧W.frozen? ⟨w.heap.size+1,2,none⟩=false∧W.frozen? ⟨w.heap.size+1,3,none⟩=false∧W.frozen? ⟨w.heap.size+1,4,none⟩=false∧W.frozen? ⟨w.heap.size+1,5,none⟩=false∧W.frozen? ⟨w.heap.size+1,6,none⟩=false∧W.frozen? ⟨w.heap.size+1,7,none⟩=false)∧(W.cell? ⟨w.heap.size+1+1,0,none⟩=some (.int .i64 0)∧W.cell? ⟨w.heap.size+1+1,1,none⟩=some (.string ⟨#[]⟩)∧W.cell? ⟨w.heap.size+1+1,2,none⟩=some (.int .i64 0)∧W.cell? ⟨w.heap.size+1+1,3,none⟩=some (.int .i64 0)∧W.cell? ⟨w.heap.size+1+1,4,none⟩=some (.string ⟨#[]⟩)∧W.cell? ⟨w.heap.size+1+1,5,none⟩=some (.string ⟨#[]⟩)∧W.cell? ⟨w.heap.size+1+1,6,none⟩=some (.slice none 0 0)∧W.cell? ⟨w.heap.size+1+1,7,none⟩=some (.slice none 0 0))∧(W.frozen? ⟨w.heap.size+1+1,0,none⟩=false∧W.frozen? ⟨w.heap.size+1+1,1,none⟩=false∧W.frozen? ⟨w.heap.size+1+1,2,none⟩=false∧W.frozen? ⟨w.heap.size+1+1,3,none⟩=false∧W.frozen? ⟨w.heap.size+1+1,4,none⟩=false∧W.frozen? ⟨w.heap.size+1+1,5,none⟩=false∧W.frozen? ⟨w.heap.size+1+1,6,none⟩=false∧W.frozen? ⟨w.heap.size+1+1,7,none⟩=false)):=by
  intro W hb
  have a:=hb.cell (p:=⟨w.heap.size,7,none⟩) (by show w.heap.size < _;omega)
  have b:=fun i=>hb.cell (p:=⟨w.heap.size+1,i,none⟩) (by show w.heap.size+1 < _;omega)
  have bf:=fun i=>hb.frozen (p:=⟨w.heap.size+1,i,none⟩) (by show w.heap.size+1 < _;omega)
  have c:=fun i=>hb.cell (p:=⟨w.heap.size+1+1,i,none⟩) (by show w.heap.size+1+1 < _;omega)
  have cf:=fun i=>hb.frozen (p:=⟨w.heap.size+1+1,i,none⟩) (by show w.heap.size+1+1 < _;omega)
  rw [← hW3] at a
  simp only [← hW3] at b bf c cf
  refine ⟨a.trans ?_,⟨(b 0).trans ?_,(b 1).trans ?_,(b 2).trans ?_,(b 3).trans ?_,(b 4).trans ?_,(b 5).trans ?_,(b 6).trans ?_,(b 7).trans ?_⟩,⟨(bf 0).trans ?_,(bf 1).trans ?_,(bf 2).trans ?_,(bf 3).trans ?_,(bf 4).trans ?_,(bf 5).trans ?_,(bf 6).trans ?_,(bf 7).trans ?_⟩,⟨(c 0).trans ?_,(c 1).trans ?_,(c 2).trans ?_,(c 3).trans ?_,(c 4).trans ?_,(c 5).trans ?_,(c 6).trans ?_,(c 7).trans ?_⟩,(cf 0).trans ?_,(cf 1).trans ?_,(cf 2).trans ?_,(cf 3).trans ?_,(cf 4).trans ?_,(cf 5).trans ?_,(cf 6).trans ?_,(cf 7).trans ?_⟩<;>first | simp [go_sem] | simp | simp [World.frozen?,World.alloc]
 obtain ⟨q0,q1,q2,q3,q4,q5,q6⟩:W3.cell? ⟨w.heap.size,0,none⟩=some (.int .i64 kd)∧W3.cell? ⟨w.heap.size,1,none⟩=some (.string ⟨nm.toArray⟩)∧W3.cell? ⟨w.heap.size,2,none⟩=some (.int .i64 ps)∧W3.cell? ⟨w.heap.size,3,none⟩=some (.int .i64 fl)∧W3.cell? ⟨w.heap.size,4,none⟩=some (.string ⟨ty.toArray⟩)∧W3.cell? ⟨w.heap.size,5,none⟩=some (.string ⟨vl.toArray⟩)∧W3.cell? ⟨w.heap.size,6,none⟩=some (.slice a1 cs.length c1):=by
  rw [← hW3]
  refine ⟨?_,?_,?_,?_,?_,?_,?_⟩<;>simp [go_sem]
 have f1:=Ld (toDecl (d:=⟨kd,nm,ps,fl,ty,vl,cs⟩) (h1.below HB3.out) hn1)
 have hdv:∀ u,Dc.val ⟨kd,nm,ps,fl,ty,vl,cs⟩ u=.agg #[.int .i64 kd,.string ⟨nm.toArray⟩,.int .i64 ps,.int .i64 fl,.string ⟨ty.toArray⟩,.string ⟨vl.toArray⟩,u]:=fun u=>rfl
 unfold DRes at f1
 simp only [hdv] at f1
 rw [hs3] at f1
 have F2:=Ld fun (W:World) (hW:Below w.heap.size w W)=>toLabelS (h2.below hW) hn2
 unfold LResL at F2
 clear h1 h2 hn1 hn2 hval hdv
 unfold EvRes
 go_enter Tryz.func29,Tryz.ntmps29
 go_wp2_with fail
 (with_reducible refine f1.out.mono ?_);rintro e w1 ⟨u1,rfl,hu1,hb1⟩
 rw [← hs3] at hb1
 have HB1:=Ld (HB3.out.trans (hb1.mono HB3.out.size))
 obtain ⟨x7,⟨r0,r1,r2,r3,r4,r5,r6,r7⟩,⟨z0,z1,z2,z3,z4,z5,z6,z7⟩,⟨n0,n1,n2,n3,n4,n5,n6,n7⟩,⟨y0,y1,y2,y3,y4,y5,y6,y7⟩⟩:=HX.out w1 hb1
 obtain ⟨ua,uc,rfl⟩:=row_sliceD hu1
 have hsz1:w.heap.size+3≤w1.heap.size:=by have:=hb1.size;omega
 have HU1:Hid (w1.ownsRow (w.heap.size+3) 90 2 (.slice ua cs.length uc) cs.length (flatC cs)):=hu1
 obtain ⟨T1,hT1⟩:∃ T1,(((((((w1).setCell ⟨w.heap.size+1+1,0,none⟩ (.int .i64 kd)).setCell ⟨w.heap.size+1+1,1,none⟩ (.string ⟨nm.toArray⟩)).setCell ⟨w.heap.size+1+1,2,none⟩ (.int .i64 ps)).setCell ⟨w.heap.size+1+1,3,none⟩ (.int .i64 fl)).setCell ⟨w.heap.size+1+1,4,none⟩ (.string ⟨ty.toArray⟩)).setCell ⟨w.heap.size+1+1,5,none⟩ (.string ⟨vl.toArray⟩)).setCell ⟨w.heap.size+1+1,6,none⟩ (.slice ua cs.length uc)=T1:=⟨_,rfl⟩
 have HBT:Hid (Below w.heap.size w T1):=by
  rw [Hid,← hT1]
  exact (((((((HB1.out).setCell (p:=⟨w.heap.size+1+1,0,none⟩) (by show w.heap.size≤w.heap.size+1+1;omega) (.int .i64 kd)).setCell (p:=⟨w.heap.size+1+1,1,none⟩) (by show w.heap.size≤w.heap.size+1+1;omega) (.string ⟨nm.toArray⟩)).setCell (p:=⟨w.heap.size+1+1,2,none⟩) (by show w.heap.size≤w.heap.size+1+1;omega) (.int .i64 ps)).setCell (p:=⟨w.heap.size+1+1,3,none⟩) (by show w.heap.size≤w.heap.size+1+1;omega) (.int .i64 fl)).setCell (p:=⟨w.heap.size+1+1,4,none⟩) (by show w.heap.size≤w.heap.size+1+1;omega) (.string ⟨ty.toArray⟩)).setCell (p:=⟨w.heap.size+1+1,5,none⟩) (by show w.heap.size≤w.heap.size+1+1;omega) (.string ⟨vl.toArray⟩)).setCell (p:=⟨w.heap.size+1+1,6,none⟩) (by show w.heap.size≤w.heap.size+1+1;omega) (.slice ua cs.length uc)
 have HUT:Hid (T1.ownsRow (w.heap.size+3) 90 2 (.slice ua cs.length uc) cs.length (flatC cs)):=by
  rw [Hid,← hT1]
  exact own_setD (own_setD (own_setD (own_setD (own_setD (own_setD (own_setD (HU1.out) (w.heap.size+1+1) 0 (.int .i64 kd) (by omega)) (w.heap.size+1+1) 1 (.string ⟨nm.toArray⟩) (by omega)) (w.heap.size+1+1) 2 (.int .i64 ps) (by omega)) (w.heap.size+1+1) 3 (.int .i64 fl) (by omega)) (w.heap.size+1+1) 4 (.string ⟨ty.toArray⟩) (by omega)) (w.heap.size+1+1) 5 (.string ⟨vl.toArray⟩) (by omega)) (w.heap.size+1+1) 6 (.slice ua cs.length uc) (by omega)
 have hszT:w.heap.size+3≤T1.heap.size:=by rw [← hT1];simp [World.setCell];omega
 have HT:Hid (T1.cell? ⟨w.heap.size,7,none⟩=some (.slice a2 ls.length c2)∧(T1.cell? ⟨w.heap.size+1,0,none⟩=some (.int .i64 0)∧T1.cell? ⟨w.heap.size+1,1,none⟩=some (.string ⟨#[]⟩)∧T1.cell? ⟨w.heap.size+1,2,none⟩=some (.int .i64 0)∧T1.cell? ⟨w.heap.size+1,3,none⟩=some (.int .i64 0)∧T1.cell? ⟨w.heap.size+1,4,none⟩=some (.string ⟨#[]⟩)∧T1.cell? ⟨w.heap.size+1,5,none⟩=some (.string ⟨#[]⟩)∧T1.cell? ⟨w.heap.size+1,6,none⟩=some (.slice none 0 0)∧T1.cell? ⟨w.heap.size+1,7,none⟩=some (.slice none 0 0))∧(T1.frozen? ⟨w.heap.size+1,0,none⟩=false∧T1.frozen? ⟨w.heap.size+1,1,none⟩=false∧T1.frozen? ⟨w.heap.size+1,2,none⟩=false∧T1.frozen? ⟨w.heap.size+1,3,none⟩=false∧T1.frozen? ⟨w.heap.size+1,4,none⟩=false∧T1.frozen? ⟨w.heap.size+1,5,none⟩=false∧T1.frozen? ⟨w.heap.size+1,6,none⟩=false∧T1.frozen? ⟨w.heap.size+1,7,none⟩=false)∧(T1.cell? ⟨w.heap.size+1+1,0,none⟩=some (.int .i64 kd)∧T1.cell? ⟨w.heap.size+1+1,1,none⟩=some (.string ⟨nm.toArray⟩)∧T1.cell? ⟨w.heap.size+1+1,2,none⟩=some (.int .i64 ps)∧T1.cell? ⟨w.heap.size+1+1,3,none⟩=some (.int .i64 fl)∧T1.cell? ⟨w.heap.size+1+1,4,none⟩=some (.string ⟨ty.toArray⟩)∧T1.cell? ⟨w.heap.size+1+1,5,none⟩=some (.string ⟨vl.toArray⟩)∧T1.cell? ⟨w.heap.size+1+1,6,none⟩=some (.slice ua cs.length uc)∧T1.cell? ⟨w.heap.size+1+1,7,none⟩=some (.slice none 0 0))∧(T1.frozen? ⟨w.heap.size+1+1,0,none⟩=false∧T1.frozen? ⟨w.heap.size+1+1,1,none⟩=false∧T1.frozen? ⟨w.heap.size+1+1,2,none⟩=false∧T1.frozen? ⟨w.heap.size+1+1,3,none⟩=false∧T1.frozen? ⟨w.heap.size+1+1,4,none⟩=false∧T1.frozen? ⟨w.heap.size+1+1,5,none⟩=false∧T1.frozen? ⟨w.heap.size+1+1,6,none⟩=false∧T1.frozen? ⟨w.heap.size+1+1,7,none⟩=false)):=by
  rw [Hid,← hT1]
  refine ⟨?_,⟨?_,?_,?_,?_,?_,?_,?_,?_⟩,⟨?_,?_,?_,?_,?_,?_,?_,?_⟩,⟨?_,?_,?_,?_,?_,?_,?_,?_⟩,?_,?_,?_,?_,?_,?_,?_,?_⟩<;>simp [go_sem,World.cell?_setCell_other,World.frozen?_setCell,x7,r0,r1,r2,r3,r4,r5,r6,r7,z0,z1,z2,z3,z4,z5,z6,z7,n0,n1,n2,n3,n4,n5,n6,n7,y0,y1,y2,y3,y4,y5,y6,y7]
 have f2:=Ld (F2.out T1 HBT.out)
 have x7T:=HT.out.1
 clear f1 F2 hb1 hu1 q0 q1 q2 q3 q4 q5 q6
 go_wp2_with fail
 (with_reducible refine f2.out.mono ?_);rintro e w2 ⟨v2,rfl,hv2,hb2⟩
 have HB2:=Ld (HBT.out.trans (hb2.mono HBT.out.size))
 obtain ⟨va,vc,rfl⟩:=row_sliceD hv2
 clear r0 z0 n0 y0 r1 z1 n1 y1 r2 z2 n2 y2 r3 z3 n3 y3 r4 z4 n4 y4 r5 z5 n5 y5 r6 z6 n6 y6 r7 z7 n7 y7 x7 x7T
 obtain ⟨-,⟨r0,r1,r2,r3,r4,r5,r6,r7⟩,⟨z0,z1,z2,z3,z4,z5,z6,z7⟩,⟨n0,n1,n2,n3,n4,n5,n6,n7⟩,⟨y0,y1,y2,y3,y4,y5,y6,y7⟩⟩:=HT.out
 have kc:=fun (b i:Nat) (hb:b < w.heap.size+3)=>hb2.cell (p:=⟨b,i,none⟩) (by show b < _;omega)
 have kf:=fun (b i:Nat) (hb:b < w.heap.size+3)=>hb2.frozen (p:=⟨b,i,none⟩) (by show b < _;omega)
 replace r0:=(kc (w.heap.size+1) 0 (by omega)).trans r0
 replace z0:=(kf (w.heap.size+1) 0 (by omega)).trans z0
 replace n0:=(kc (w.heap.size+1+1) 0 (by omega)).trans n0
 replace y0:=(kf (w.heap.size+1+1) 0 (by omega)).trans y0
 replace r1:=(kc (w.heap.size+1) 1 (by omega)).trans r1
 replace z1:=(kf (w.heap.size+1) 1 (by omega)).trans z1
 replace n1:=(kc (w.heap.size+1+1) 1 (by omega)).trans n1
 replace y1:=(kf (w.heap.size+1+1) 1 (by omega)).trans y1
 replace r2:=(kc (w.heap.size+1) 2 (by omega)).trans r2
 replace z2:=(kf (w.heap.size+1) 2 (by omega)).trans z2
 replace n2:=(kc (w.heap.size+1+1) 2 (by omega)).trans n2
 replace y2:=(kf (w.heap.size+1+1) 2 (by omega)).trans y2
 replace r3:=(kc (w.heap.size+1) 3 (by omega)).trans r3
 replace z3:=(kf (w.heap.size+1) 3 (by omega)).trans z3
 replace n3:=(kc (w.heap.size+1+1) 3 (by omega)).trans n3
 replace y3:=(kf (w.heap.size+1+1) 3 (by omega)).trans y3
 replace r4:=(kc (w.heap.size+1) 4 (by omega)).trans r4
 replace z4:=(kf (w.heap.size+1) 4 (by omega)).trans z4
 replace n4:=(kc (w.heap.size+1+1) 4 (by omega)).trans n4
 replace y4:=(kf (w.heap.size+1+1) 4 (by omega)).trans y4
 replace r5:=(kc (w.heap.size+1) 5 (by omega)).trans r5
 replace z5:=(kf (w.heap.size+1) 5 (by omega)).trans z5
 replace n5:=(kc (w.heap.size+1+1) 5 (by omega)).trans n5
 replace y5:=(kf (w.heap.size+1+1) 5 (by omega)).trans y5
 replace r6:=(kc (w.heap.size+1) 6 (by omega)).trans r6
 replace z6:=(kf (w.heap.size+1) 6 (by omega)).trans z6
 replace n6:=(kc (w.heap.size+1+1) 6 (by omega)).trans n6
 replace y6:=(kf (w.heap.size+1+1) 6 (by omega)).trans y6
 replace r7:=(kc (w.heap.size+1) 7 (by omega)).trans r7
 replace z7:=(kf (w.heap.size+1) 7 (by omega)).trans z7
 replace n7:=(kc (w.heap.size+1+1) 7 (by omega)).trans n7
 replace y7:=(kf (w.heap.size+1+1) 7 (by omega)).trans y7
 have HU2:=Ld (own_below HUT.out hb2)
 have HV2:Hid (w2.ownsRow (w.heap.size+3) 101 2 (.slice va ls.length vc) ls.length (flat ls)):=own_lower hv2 hszT
 have HUF:Hid (((((((((((w2).setCell ⟨w.heap.size+1+1,7,none⟩ (.slice va ls.length vc)).setCell ⟨w.heap.size+1,0,none⟩ (.int .i64 kd)).setCell ⟨w.heap.size+1,1,none⟩ (.string ⟨nm.toArray⟩)).setCell ⟨w.heap.size+1,2,none⟩ (.int .i64 ps)).setCell ⟨w.heap.size+1,3,none⟩ (.int .i64 fl)).setCell ⟨w.heap.size+1,4,none⟩ (.string ⟨ty.toArray⟩)).setCell ⟨w.heap.size+1,5,none⟩ (.string ⟨vl.toArray⟩)).setCell ⟨w.heap.size+1,6,none⟩ (.slice ua cs.length uc)).setCell ⟨w.heap.size+1,7,none⟩ (.slice va ls.length vc)).ownsRow (w.heap.size+3) 90 2 (.slice ua cs.length uc) cs.length (flatC cs)):=own_setD (own_setD (own_setD (own_setD (own_setD (own_setD (own_setD (own_setD (own_setD HU2.out (w.heap.size+1+1) 7 (.slice va ls.length vc) (by omega)) (w.heap.size+1) 0 (.int .i64 kd) (by omega)) (w.heap.size+1) 1 (.string ⟨nm.toArray⟩) (by omega)) (w.heap.size+1) 2 (.int .i64 ps) (by omega)) (w.heap.size+1) 3 (.int .i64 fl) (by omega)) (w.heap.size+1) 4 (.string ⟨ty.toArray⟩) (by omega)) (w.heap.size+1) 5 (.string ⟨vl.toArray⟩) (by omega)) (w.heap.size+1) 6 (.slice ua cs.length uc) (by omega)) (w.heap.size+1) 7 (.slice va ls.length vc) (by omega)
 have HVF:Hid (((((((((((w2).setCell ⟨w.heap.size+1+1,7,none⟩ (.slice va ls.length vc)).setCell ⟨w.heap.size+1,0,none⟩ (.int .i64 kd)).setCell ⟨w.heap.size+1,1,none⟩ (.string ⟨nm.toArray⟩)).setCell ⟨w.heap.size+1,2,none⟩ (.int .i64 ps)).setCell ⟨w.heap.size+1,3,none⟩ (.int .i64 fl)).setCell ⟨w.heap.size+1,4,none⟩ (.string ⟨ty.toArray⟩)).setCell ⟨w.heap.size+1,5,none⟩ (.string ⟨vl.toArray⟩)).setCell ⟨w.heap.size+1,6,none⟩ (.slice ua cs.length uc)).setCell ⟨w.heap.size+1,7,none⟩ (.slice va ls.length vc)).ownsRow (w.heap.size+3) 101 2 (.slice va ls.length vc) ls.length (flat ls)):=own_setD (own_setD (own_setD (own_setD (own_setD (own_setD (own_setD (own_setD (own_setD HV2.out (w.heap.size+1+1) 7 (.slice va ls.length vc) (by omega)) (w.heap.size+1) 0 (.int .i64 kd) (by omega)) (w.heap.size+1) 1 (.string ⟨nm.toArray⟩) (by omega)) (w.heap.size+1) 2 (.int .i64 ps) (by omega)) (w.heap.size+1) 3 (.int .i64 fl) (by omega)) (w.heap.size+1) 4 (.string ⟨ty.toArray⟩) (by omega)) (w.heap.size+1) 5 (.string ⟨vl.toArray⟩) (by omega)) (w.heap.size+1) 6 (.slice ua cs.length uc) (by omega)) (w.heap.size+1) 7 (.slice va ls.length vc) (by omega)
 have HBF:Hid (Below w.heap.size w ((((((((((w2).setCell ⟨w.heap.size+1+1,7,none⟩ (.slice va ls.length vc)).setCell ⟨w.heap.size+1,0,none⟩ (.int .i64 kd)).setCell ⟨w.heap.size+1,1,none⟩ (.string ⟨nm.toArray⟩)).setCell ⟨w.heap.size+1,2,none⟩ (.int .i64 ps)).setCell ⟨w.heap.size+1,3,none⟩ (.int .i64 fl)).setCell ⟨w.heap.size+1,4,none⟩ (.string ⟨ty.toArray⟩)).setCell ⟨w.heap.size+1,5,none⟩ (.string ⟨vl.toArray⟩)).setCell ⟨w.heap.size+1,6,none⟩ (.slice ua cs.length uc)).setCell ⟨w.heap.size+1,7,none⟩ (.slice va ls.length vc))):=((((((((HB2.out.setCell (p:=⟨w.heap.size+1+1,7,none⟩) (by show w.heap.size≤w.heap.size+1+1;omega) (.slice va ls.length vc)).setCell (p:=⟨w.heap.size+1,0,none⟩) (by show w.heap.size≤w.heap.size+1;omega) (.int .i64 kd)).setCell (p:=⟨w.heap.size+1,1,none⟩) (by show w.heap.size≤w.heap.size+1;omega) (.string ⟨nm.toArray⟩)).setCell (p:=⟨w.heap.size+1,2,none⟩) (by show w.heap.size≤w.heap.size+1;omega) (.int .i64 ps)).setCell (p:=⟨w.heap.size+1,3,none⟩) (by show w.heap.size≤w.heap.size+1;omega) (.int .i64 fl)).setCell (p:=⟨w.heap.size+1,4,none⟩) (by show w.heap.size≤w.heap.size+1;omega) (.string ⟨ty.toArray⟩)).setCell (p:=⟨w.heap.size+1,5,none⟩) (by show w.heap.size≤w.heap.size+1;omega) (.string ⟨vl.toArray⟩)).setCell (p:=⟨w.heap.size+1,6,none⟩) (by show w.heap.size≤w.heap.size+1;omega) (.slice ua cs.length uc)).setCell (p:=⟨w.heap.size+1,7,none⟩) (by show w.heap.size≤w.heap.size+1;omega) (.slice va ls.length vc)
 clear kc kf hb2 hv2 f2 HX HT HUT HBT HU1 HU2 HV2 HB1 HB2 HB3 hW3 hT1
 go_wp2
 refine bodyPost_ret (v:=.agg #[.int .i64 kd,.string ⟨nm.toArray⟩,.int .i64 ps,.int .i64 fl,.string ⟨ty.toArray⟩,.string ⟨vl.toArray⟩,.slice ua cs.length uc,.slice va ls.length vc]) (by simp [results,Tryz.results29,go_sem,r0,r1,r2,r3,r4,r5,r6,r7]) rfl ?_
 exact ⟨⟨⟨⟨kd,nm,ps,fl,ty,vl,cs⟩,ls⟩,.slice ua cs.length uc,.slice va ls.length vc⟩,rfl,rfl,⟨own_lower HUF.out (by omega),own_lower HVF.out (by omega)⟩,HBF.out⟩
theorem put8 {A B:List Value} {k:Nat} (ha:A.length=k) (hb:8≤B.length) (c0 c1 c2 c3 c4 c5 c6 c7:Value):((((((((A ++ B).set (k) c0).set (k+1) c1).set (k+2) c2).set (k+3) c3).set (k+4) c4).set (k+5) c5).set (k+6) c6).set (k+7) c7=A ++ ([c0,c1,c2,c3,c4,c5,c6,c7] ++ B.drop 8):=by
 subst ha
 match B,hb with
 | b0 :: b1 :: b2 :: b3 :: b4 :: b5 :: b6 :: b7 :: r,_=>simp [List.set_append_right]
theorem stored8 {w:World} {base n cap g k:Nat} {e:TypeId} {A B:List Value} (h:w.ownsRow base e 8 (.slice (some ⟨g,0,none⟩) n cap) n (A ++ B)) (ha:A.length=k) (hb:8≤B.length) (c0 c1 c2 c3 c4 c5 c6 c7:Value) :
  (((((((((w).setCell ⟨g,k,none⟩ c0).setCell ⟨g,k+1,none⟩ c1).setCell ⟨g,k+2,none⟩ c2).setCell ⟨g,k+3,none⟩ c3).setCell ⟨g,k+4,none⟩ c4).setCell ⟨g,k+5,none⟩ c5).setCell ⟨g,k+6,none⟩ c6).setCell ⟨g,k+7,none⟩ c7).ownsRow base e 8 (.slice (some ⟨g,0,none⟩) n cap) n (A ++ ([c0,c1,c2,c3,c4,c5,c6,c7] ++ B.drop 8))∧w.grownBy (((((((((w).setCell ⟨g,k,none⟩ c0).setCell ⟨g,k+1,none⟩ c1).setCell ⟨g,k+2,none⟩ c2).setCell ⟨g,k+3,none⟩ c3).setCell ⟨g,k+4,none⟩ c4).setCell ⟨g,k+5,none⟩ c5).setCell ⟨g,k+6,none⟩ c6).setCell ⟨g,k+7,none⟩ c7) (some g):=by
 have s0:=h.stored k c0
 have s1:=s0.1.stored (k+1) c1
 have s2:=s1.1.stored (k+2) c2
 have s3:=s2.1.stored (k+3) c3
 have s4:=s3.1.stored (k+4) c4
 have s5:=s4.1.stored (k+5) c5
 have s6:=s5.1.stored (k+6) c6
 have s7:=s6.1.stored (k+7) c7
 rw [put8 ha hb] at s7
 exact ⟨s7.1,s0.2.trans (s1.2.trans (s2.2.trans (s3.2.trans (s4.2.trans (s5.2.trans (s6.2.trans s7.2))))))⟩
def LResE (l:List En) (w:World) (e:Ending) (w':World):Prop :=
 ∃ v,e=.returned v∧EnvIs w' w.heap.size v l∧Below w.heap.size w w'
theorem toEntryS {w:World} {v:Value} {l:List En} (h:CameE w v l) (hn:l.length≤1048576) (hn2:∀ e∈l,e.1.ctors.length≤1048576∧e.2.length≤1048576) :
  Calls Tryz.prog 10 #[v] w (LResE l w):=by
 obtain ⟨xs,a0,cap,b,off,h0,rfl,h2,h3,h4,h5⟩:=h
 have hll:l.length=xs.length:=by rw [← h0,List.length_map]
 have hnx:xs.length≤1048576:=by omega
 have HM:Hid (∀ k,k < xs.length→∀ x,xs[k]?=some x→l.take (k+1)=l.take k ++ [x.1]∧x.1.1.ctors.length≤1048576∧x.1.2.length≤1048576):=by
  intro k hk x hx
  have h1:l[k]'(by omega)=(xs[k]).1:=by simp [← h0]
  rw [List.getElem?_eq_getElem hk] at hx
  have e1:xs[k]=x:=Option.some.inj hx
  rw [e1] at h1
  refine ⟨by rw [List.take_succ_eq_append_getElem (by omega),h1],?_⟩
  have:=hn2 (l[k]'(by omega)) (List.getElem_mem _)
  rwa [h1] at this
 have H5:=Ld h5
 have HLE:Hid (l.take xs.length=l):=by rw [Hid,← hll,List.take_length]
 clear h4 h5 h0 hn hn2 hll
 unfold LResE
 obtain ⟨i0,hi,hz0,hz1,hz2⟩:=info_parts infoEn
 go_enter Tryz.func10,Tryz.ntmps10
 go_wp2_with (at_make;refine wpList_make_full _ rfl _ _ 26 rfl w.heap.size 55 i0 (.agg #[.int .i64 0,.string ⟨#[]⟩,.int .i64 0,.int .i64 0,.string ⟨#[]⟩,.string ⟨#[]⟩,.slice none 0 0,.slice none 0 0]) 8 Tryz.underlying26 hi hz0 hz1 _ _ _ _ xs.length rfl rfl rfl rfl (by rw [hz2];omega) (by unfold maxLen;omega) (Nat.le_refl _) ?_;intro w0 hown0 hgrow0)
 have hbel0:Below w.heap.size w w0:=(Below.refl _ _).grown hgrow0 (Nat.le_refl _) (by simp)
 have hxl:=hown0.1
 generalize (madeCells (Value.agg #[.int .i64 0,.string ⟨#[]⟩,.int .i64 0,.int .i64 0,.string ⟨#[]⟩,.string ⟨#[]⟩,.slice none 0 0,.slice none 0 0]).cells (xs.length*8)).toList=zs at hown0 hxl
 go_loopw [4] (fun i wr=>∃ (k:Nat) (ys:List Ev),k≤xs.length∧i=.int .i64 k∧Hid (ys.map (fun x=>x.1)=l.take k∧ys.length=k∧∀ y∈ys,EvOwn wr w.heap.size y)∧Hid (wr.ownsRow w.heap.size 55 8 (.slice (some ⟨w.heap.size,0,none⟩) xs.length xs.length) xs.length (flatE ys ++ zs.drop (k*8)))∧Hid (Below w.heap.size w wr)) (fun i _=>xs.length - (intOf i).toNat)
 case atStart=>exact ⟨0,[],Nat.zero_le _,rfl,⟨rfl,rfl,fun y h=>by cases h⟩,by simpa [Hid,flatE] using hown0,hbel0⟩
 case round =>
  obtain ⟨k,ys,hk,rfl,HY,hown,hbel⟩:=hrel
  clear hown0 hgrow0 hbel0
  have hz:=hbel.out.size
  by_cases hlt:k < xs.length
  ·obtain ⟨rfl,hb⟩:=h2 (by omega)
   have hx:=H5.out _ (List.getElem_mem hlt)
   have ex:xs[k]?=some xs[k]:=List.getElem?_eq_getElem hlt
   have HMk:=Ld (HM.out k hlt _ ex)
   have hc:=h3 k hlt
   clear ex h2 h3 HM H5
   generalize xs[k]=xk at hc hx HMk
   have cc:∀ i,i < 8→wr.cell? ⟨b,off+k*8+i,none⟩=(ecells xk)[i]?:=fun i hi=>(hbel.out.cell (p:=⟨b,off+k*8+i,none⟩) hb).trans (hc i hi)
   have y0:=cc 0 (by decide)
   have y1:=cc 1 (by decide)
   have y2:=cc 2 (by decide)
   have y3:=cc 3 (by decide)
   have y4:=cc 4 (by decide)
   have y5:=cc 5 (by decide)
   have y6:=cc 6 (by decide)
   have y7:=cc 7 (by decide)
   have f1:=Ld (toEntry (x:=xk) (hx.1.below hbel.out) (hx.2.1.below hbel.out) HMk.out.2.1 HMk.out.2.2)
   obtain ⟨⟨⟨kd,nm,ps,fl,ty,vl,cs⟩,ls⟩,u,v⟩:=xk
   obtain ⟨a1,c1,_,_,hu,_⟩:=hx.1
   obtain ⟨a2,c2,_,_,hv,_⟩:=hx.2.1
   simp only at hu hv HMk
   subst hu hv
   have hval:Ev.val ⟨⟨⟨kd,nm,ps,fl,ty,vl,cs⟩,ls⟩,.slice a1 cs.length c1,.slice a2 ls.length c2⟩=.agg #[.int .i64 kd,.string ⟨nm.toArray⟩,.int .i64 ps,.int .i64 fl,.string ⟨ty.toArray⟩,.string ⟨vl.toArray⟩,.slice a1 cs.length c1,.slice a2 ls.length c2]:=rfl
   rw [hval] at f1
   unfold EvRes at f1
   simp only [ecells,sv,List.getElem?_cons_zero,List.getElem?_cons_succ,Nat.add_zero,Nat.zero_add] at y0 y1 y2 y3 y4 y5 y6 y7
   have q1:(0:Int)≤(k:Int):=by omega
   have q2:(k:Int) < (xs.length:Int):=by omega
   clear hc cc hx hval
   go_wp2_with fail
   (with_reducible refine f1.out.mono ?_);rintro e w1 ⟨⟨pp,uu,vv⟩,rfl,hyy,hyo,hb1⟩
   have hyq:pp=(⟨⟨kd,nm,ps,fl,ty,vl,cs⟩,ls⟩:En):=hyy
   subst hyq
   obtain ⟨ua,uc,hua⟩:=row_sliceD hyo.1
   obtain ⟨va,vc,hva⟩:=row_sliceD hyo.2
   simp only at hua hva
   subst hua hva
   have hvl2:Ev.val ⟨⟨⟨kd,nm,ps,fl,ty,vl,cs⟩,ls⟩,.slice ua cs.length uc,.slice va ls.length vc⟩=.agg #[.int .i64 kd,.string ⟨nm.toArray⟩,.int .i64 ps,.int .i64 fl,.string ⟨ty.toArray⟩,.string ⟨vl.toArray⟩,.slice ua cs.length uc,.slice va ls.length vc]:=rfl
   rw [hvl2]
   have hown1:=own_below hown.out hb1
   have B1:=Ld (hbel.out.trans (hb1.mono hz))
   have hyl:(flatE ys).length=k*8:=by rw [flatE_length,HY.out.2.1]
   have hzl:8≤(zs.drop (k*8)).length:=by rw [List.length_drop];omega
   have hlen:(flatE ys ++ zs.drop (k*8)).length=xs.length*8:=by rw [List.length_append,hyl,List.length_drop];omega
   have co0:=hown1.cellAt (k*8) (by omega)
   rw [List.getElem?_eq_getElem (by omega)] at co0
   have cf0:=hown1.frozenAt (k*8)
   generalize (flatE ys ++ zs.drop (k*8))[k*8]=old0 at co0
   have co1:=hown1.cellAt (k*8+1) (by omega)
   rw [List.getElem?_eq_getElem (by omega)] at co1
   have cf1:=hown1.frozenAt (k*8+1)
   generalize (flatE ys ++ zs.drop (k*8))[k*8+1]=old1 at co1
   have co2:=hown1.cellAt (k*8+2) (by omega)
   rw [List.getElem?_eq_getElem (by omega)] at co2
   have cf2:=hown1.frozenAt (k*8+2)
   generalize (flatE ys ++ zs.drop (k*8))[k*8+2]=old2 at co2
   have co3:=hown1.cellAt (k*8+3) (by omega)
   rw [List.getElem?_eq_getElem (by omega)] at co3
   have cf3:=hown1.frozenAt (k*8+3)
   generalize (flatE ys ++ zs.drop (k*8))[k*8+3]=old3 at co3
   have co4:=hown1.cellAt (k*8+4) (by omega)
   rw [List.getElem?_eq_getElem (by omega)] at co4
   have cf4:=hown1.frozenAt (k*8+4)
   generalize (flatE ys ++ zs.drop (k*8))[k*8+4]=old4 at co4
   have co5:=hown1.cellAt (k*8+5) (by omega)
   rw [List.getElem?_eq_getElem (by omega)] at co5
   have cf5:=hown1.frozenAt (k*8+5)
   generalize (flatE ys ++ zs.drop (k*8))[k*8+5]=old5 at co5
   have co6:=hown1.cellAt (k*8+6) (by omega)
   rw [List.getElem?_eq_getElem (by omega)] at co6
   have cf6:=hown1.frozenAt (k*8+6)
   generalize (flatE ys ++ zs.drop (k*8))[k*8+6]=old6 at co6
   have co7:=hown1.cellAt (k*8+7) (by omega)
   rw [List.getElem?_eq_getElem (by omega)] at co7
   have cf7:=hown1.frozenAt (k*8+7)
   generalize (flatE ys ++ zs.drop (k*8))[k*8+7]=old7 at co7
   have hst:=stored8 hown1 hyl hzl (.int .i64 kd) (.string ⟨nm.toArray⟩) (.int .i64 ps) (.int .i64 fl) (.string ⟨ty.toArray⟩) (.string ⟨vl.toArray⟩) (.slice ua cs.length uc) (.slice va ls.length vc)
   have HG:=Ld hst.2
   have HS:Hid ((((((((((w1).setCell ⟨w.heap.size,k*8,none⟩ (.int .i64 kd)).setCell ⟨w.heap.size,k*8+1,none⟩ (.string ⟨nm.toArray⟩)).setCell ⟨w.heap.size,k*8+2,none⟩ (.int .i64 ps)).setCell ⟨w.heap.size,k*8+3,none⟩ (.int .i64 fl)).setCell ⟨w.heap.size,k*8+4,none⟩ (.string ⟨ty.toArray⟩)).setCell ⟨w.heap.size,k*8+5,none⟩ (.string ⟨vl.toArray⟩)).setCell ⟨w.heap.size,k*8+6,none⟩ (.slice ua cs.length uc)).setCell ⟨w.heap.size,k*8+7,none⟩ (.slice va ls.length vc)).ownsRow w.heap.size 55 8 (.slice (some ⟨w.heap.size,0,none⟩) xs.length xs.length) xs.length (flatE (ys ++ [⟨⟨⟨kd,nm,ps,fl,ty,vl,cs⟩,ls⟩,.slice ua cs.length uc,.slice va ls.length vc⟩]) ++ zs.drop ((k+1)*8))):=by
    have h:=hst.1
    rw [List.drop_drop,← List.append_assoc] at h
    rw [Hid,flatE_append,show (k+1)*8=k*8+8 by omega]
    exact h
   have HYN:Hid ((ys ++ [(⟨⟨⟨kd,nm,ps,fl,ty,vl,cs⟩,ls⟩,.slice ua cs.length uc,.slice va ls.length vc⟩:Ev)]).map (fun x=>x.1)=l.take (k+1)∧(ys ++ [(⟨⟨⟨kd,nm,ps,fl,ty,vl,cs⟩,ls⟩,.slice ua cs.length uc,.slice va ls.length vc⟩:Ev)]).length=k+1∧∀ y∈ys ++ [(⟨⟨⟨kd,nm,ps,fl,ty,vl,cs⟩,ls⟩,.slice ua cs.length uc,.slice va ls.length vc⟩:Ev)],EvOwn (((((((((w1).setCell ⟨w.heap.size,k*8,none⟩ (.int .i64 kd)).setCell ⟨w.heap.size,k*8+1,none⟩ (.string ⟨nm.toArray⟩)).setCell ⟨w.heap.size,k*8+2,none⟩ (.int .i64 ps)).setCell ⟨w.heap.size,k*8+3,none⟩ (.int .i64 fl)).setCell ⟨w.heap.size,k*8+4,none⟩ (.string ⟨ty.toArray⟩)).setCell ⟨w.heap.size,k*8+5,none⟩ (.string ⟨vl.toArray⟩)).setCell ⟨w.heap.size,k*8+6,none⟩ (.slice ua cs.length uc)).setCell ⟨w.heap.size,k*8+7,none⟩ (.slice va ls.length vc)) w.heap.size y):=by
    have keep:∀ y,EvOwn w1 w.heap.size y→EvOwn (((((((((w1).setCell ⟨w.heap.size,k*8,none⟩ (.int .i64 kd)).setCell ⟨w.heap.size,k*8+1,none⟩ (.string ⟨nm.toArray⟩)).setCell ⟨w.heap.size,k*8+2,none⟩ (.int .i64 ps)).setCell ⟨w.heap.size,k*8+3,none⟩ (.int .i64 fl)).setCell ⟨w.heap.size,k*8+4,none⟩ (.string ⟨ty.toArray⟩)).setCell ⟨w.heap.size,k*8+5,none⟩ (.string ⟨vl.toArray⟩)).setCell ⟨w.heap.size,k*8+6,none⟩ (.slice ua cs.length uc)).setCell ⟨w.heap.size,k*8+7,none⟩ (.slice va ls.length vc)) w.heap.size y:=fun y hy=>⟨own_other hy.1 hown1 (by decide) HG.out,own_other hy.2 hown1 (by decide) HG.out⟩
    refine ⟨by rw [List.map_append,HY.out.1,HMk.out.1];rfl,by rw [List.length_append,HY.out.2.1];rfl,fun y hy=>keep y ?_⟩
    rcases List.mem_append.1 hy with h | h
    ·exact (HY.out.2.2 y h).below hb1
    ·rw [List.mem_singleton.1 h]
     exact hyo.lower hz
   have HBN:Hid (Below w.heap.size w (((((((((w1).setCell ⟨w.heap.size,k*8,none⟩ (.int .i64 kd)).setCell ⟨w.heap.size,k*8+1,none⟩ (.string ⟨nm.toArray⟩)).setCell ⟨w.heap.size,k*8+2,none⟩ (.int .i64 ps)).setCell ⟨w.heap.size,k*8+3,none⟩ (.int .i64 fl)).setCell ⟨w.heap.size,k*8+4,none⟩ (.string ⟨ty.toArray⟩)).setCell ⟨w.heap.size,k*8+5,none⟩ (.string ⟨vl.toArray⟩)).setCell ⟨w.heap.size,k*8+6,none⟩ (.slice ua cs.length uc)).setCell ⟨w.heap.size,k*8+7,none⟩ (.slice va ls.length vc))):=B1.out.grown HG.out B1.out.size (fun q hq=>by cases hq;exact Nat.le_refl _)
   clear hown1 hlen hyl hzl hst hyo hyy hvl2 hb1 f1 HY HG hown hbel y0 y1 y2 y3 y4 y5 y6 y7 HMk B1
   go_wp2
   go_roundw
   case rel=>exact ⟨k+1,_,by omega,by go_num,HYN.out,HS.out,HBN.out⟩
   case measure=>simp [intOf];omega
  ·obtain rfl:k=xs.length:=by omega
   have HF:Hid (EnvIs wr w.heap.size (.slice (some ⟨w.heap.size,0,none⟩) xs.length xs.length) l):=by
    have h:=hown.out
    rw [List.drop_eq_nil_of_le (by omega),List.append_nil] at h
    refine ⟨ys,by rw [HY.out.1,HLE.out],?_,HY.out.2.2⟩
    rw [HY.out.2.1]
    exact h
   clear hown h2 h3 HY HM H5 HLE
   go_wp2
   go_ret
   exact ⟨_,rfl,HF.out,hbel.out⟩
theorem eqEntry {w:World} {x y:Ev} {B1 B2:Nat} (hxy:x.1=y.1) (h1:EvOwn w B1 x) (h2:EvOwn w B2 y) (hn1:x.1.1.ctors.length≤1048576) (hn2:x.1.2.length≤1048576) :
  Calls Tryz.prog 32 #[x.val,y.val] w fun e w'=>e=.returned (.bool true)∧Below w.heap.size w w':=by
 obtain ⟨⟨⟨kd,nm,ps,fl,ty,vl,cs⟩,ls⟩,u,v⟩:=x
 obtain ⟨yy,u2,v2⟩:=y
 have hyq:((⟨⟨kd,nm,ps,fl,ty,vl,cs⟩,ls⟩:En))=yy:=hxy
 subst hyq
 obtain ⟨a1,c1,hu⟩:=row_sliceD h1.1
 obtain ⟨b1,d1,hv⟩:=row_sliceD h1.2
 obtain ⟨a2,c2,hu2⟩:=row_sliceD h2.1
 obtain ⟨b2,d2,hv2⟩:=row_sliceD h2.2
 simp only at hu hv hu2 hv2 hn1 hn2
 subst hu hv hu2 hv2
 have e1:Ev.val ⟨⟨⟨kd,nm,ps,fl,ty,vl,cs⟩,ls⟩,.slice a1 cs.length c1,.slice b1 ls.length d1⟩=.agg #[.int .i64 kd,.string ⟨nm.toArray⟩,.int .i64 ps,.int .i64 fl,.string ⟨ty.toArray⟩,.string ⟨vl.toArray⟩,.slice a1 cs.length c1,.slice b1 ls.length d1]:=rfl
 have e2:Ev.val ⟨⟨⟨kd,nm,ps,fl,ty,vl,cs⟩,ls⟩,.slice a2 cs.length c2,.slice b2 ls.length d2⟩=.agg #[.int .i64 kd,.string ⟨nm.toArray⟩,.int .i64 ps,.int .i64 fl,.string ⟨ty.toArray⟩,.string ⟨vl.toArray⟩,.slice a2 cs.length c2,.slice b2 ls.length d2]:=rfl
 rw [e1,e2]
 have ha:Below w.heap.size w (w.alloc (.cells #[.int .i64 kd,.string ⟨nm.toArray⟩,.int .i64 ps,.int .i64 fl,.string ⟨ty.toArray⟩,.string ⟨vl.toArray⟩,.slice a1 cs.length c1,.slice b1 ls.length d1] 55)):=alloc_any _ _
 have hb:Below w.heap.size w ((w.alloc (.cells #[.int .i64 kd,.string ⟨nm.toArray⟩,.int .i64 ps,.int .i64 fl,.string ⟨ty.toArray⟩,.string ⟨vl.toArray⟩,.slice a1 cs.length c1,.slice b1 ls.length d1] 55)).alloc (.cells #[.int .i64 kd,.string ⟨nm.toArray⟩,.int .i64 ps,.int .i64 fl,.string ⟨ty.toArray⟩,.string ⟨vl.toArray⟩,.slice a2 cs.length c2,.slice b2 ls.length d2] 55)):=ha.trans ((alloc_any _ _).mono (by simp))
 have HB:=Ld hb
 have HX1:=Ld fun W (hW:Below ((w.alloc (.cells #[.int .i64 kd,.string ⟨nm.toArray⟩,.int .i64 ps,.int .i64 fl,.string ⟨ty.toArray⟩,.string ⟨vl.toArray⟩,.slice a1 cs.length c1,.slice b1 ls.length d1] 55)).alloc (.cells #[.int .i64 kd,.string ⟨nm.toArray⟩,.int .i64 ps,.int .i64 fl,.string ⟨ty.toArray⟩,.string ⟨vl.toArray⟩,.slice a2 cs.length c2,.slice b2 ls.length d2] 55)).heap.size ((w.alloc (.cells #[.int .i64 kd,.string ⟨nm.toArray⟩,.int .i64 ps,.int .i64 fl,.string ⟨ty.toArray⟩,.string ⟨vl.toArray⟩,.slice a1 cs.length c1,.slice b1 ls.length d1] 55)).alloc (.cells #[.int .i64 kd,.string ⟨nm.toArray⟩,.int .i64 ps,.int .i64 fl,.string ⟨ty.toArray⟩,.string ⟨vl.toArray⟩,.slice a2 cs.length c2,.slice b2 ls.length d2] 55)) W)=>evBox (w:=w) (kd:=kd) (ps:=ps) (fl:=fl) (nm:=nm) (ty:=ty) (vl:=vl) (u:=.slice a1 cs.length c1) (v:=.slice b1 ls.length d1) (T:=55) W (((Below.refl _ _).alloc (Nat.le_refl _) _).trans (hW.mono (by simp)))
 have HX2:Hid (∀ W,Below ((w.alloc (.cells #[.int .i64 kd,.string ⟨nm.toArray⟩,.int .i64 ps,.int .i64 fl,.string ⟨ty.toArray⟩,.string ⟨vl.toArray⟩,.slice a1 cs.length c1,.slice b1 ls.length d1] 55)).alloc (.cells #[.int .i64 kd,.string ⟨nm.toArray⟩,.int .i64 ps,.int .i64 fl,.string ⟨ty.toArray⟩,.string ⟨vl.toArray⟩,.slice a2 cs.length c2,.slice b2 ls.length d2] 55)).heap.size ((w.alloc (.cells #[.int .i64 kd,.string ⟨nm.toArray⟩,.int .i64 ps,.int .i64 fl,.string ⟨ty.toArray⟩,.string ⟨vl.toArray⟩,.slice a1 cs.length c1,.slice b1 ls.length d1] 55)).alloc (.cells #[.int .i64 kd,.string ⟨nm.toArray⟩,.int .i64 ps,.int .i64 fl,.string ⟨ty.toArray⟩,.string ⟨vl.toArray⟩,.slice a2 cs.length c2,.slice b2 ls.length d2] 55)) W→W.cell? ⟨w.heap.size+1,0,none⟩=some (.int .i64 kd)∧W.cell? ⟨w.heap.size+1,1,none⟩=some (.string ⟨nm.toArray⟩)∧W.cell? ⟨w.heap.size+1,2,none⟩=some (.int .i64 ps)∧W.cell? ⟨w.heap.size+1,3,none⟩=some (.int .i64 fl)∧W.cell? ⟨w.heap.size+1,4,none⟩=some (.string ⟨ty.toArray⟩)∧W.cell? ⟨w.heap.size+1,5,none⟩=some (.string ⟨vl.toArray⟩)∧W.cell? ⟨w.heap.size+1,6,none⟩=some (.slice a2 cs.length c2)∧W.cell? ⟨w.heap.size+1,7,none⟩=some (.slice b2 ls.length d2)):=by
  intro W hW
  have h:=evBox (w:=(w.alloc (.cells #[.int .i64 kd,.string ⟨nm.toArray⟩,.int .i64 ps,.int .i64 fl,.string ⟨ty.toArray⟩,.string ⟨vl.toArray⟩,.slice a1 cs.length c1,.slice b1 ls.length d1] 55))) (kd:=kd) (ps:=ps) (fl:=fl) (nm:=nm) (ty:=ty) (vl:=vl) (u:=.slice a2 cs.length c2) (v:=.slice b2 ls.length d2) (T:=55) W hW
  rw [World.size_alloc] at h
  exact h
 have f1:=Ld (eqDecl (d:=⟨kd,nm,ps,fl,ty,vl,cs⟩) (own_below h1.1 hb) (own_below h2.1 hb) hn1)
 have hdv:∀ u,Dc.val ⟨kd,nm,ps,fl,ty,vl,cs⟩ u=.agg #[.int .i64 kd,.string ⟨nm.toArray⟩,.int .i64 ps,.int .i64 fl,.string ⟨ty.toArray⟩,.string ⟨vl.toArray⟩,u]:=fun u=>rfl
 simp only [hdv] at f1
 have F2:=Ld fun (W:World) (hW:Below w.heap.size w W)=>eqLabelS (own_below h1.2 hW) (own_below h2.2 hW) (by show ls.length≤100000000;omega)
 obtain ⟨p0,p1,p2,p3,p4,p5,p6,p7⟩:=HX1.out _ (Below.refl _ _)
 obtain ⟨q0,q1,q2,q3,q4,q5,q6,q7⟩:=HX2.out _ (Below.refl _ _)
 have HXB:=Ld fun W hW=>And.intro (HX1.out W hW) (HX2.out W hW)
 clear ha hb h1 h2 hn1 hn2 e1 e2 hdv hxy
 go_enter Tryz.func32,Tryz.ntmps32
 go_wp2_with fail
 (with_reducible refine f1.out.mono ?_);rintro e w1 ⟨rfl,hb1⟩
 have HB1:=Ld (HB.out.trans (hb1.mono HB.out.size))
 clear p0 p1 p2 p3 p4 p5 p6 p7 q0 q1 q2 q3 q4 q5 q6 q7
 obtain ⟨p0,p1,p2,p3,p4,p5,p6,p7⟩:=HX1.out _ hb1
 obtain ⟨q0,q1,q2,q3,q4,q5,q6,q7⟩:=HX2.out _ hb1
 have f2:=Ld (F2.out w1 HB1.out)
 clear hb1 f1 F2 HX1 HX2
 go_wp2_with fail
 (with_reducible refine f2.out.mono ?_);rintro e w2 ⟨rfl,hb2⟩
 have HB2:=Ld (HB1.out.trans (hb2.mono HB1.out.size))
 clear hb2 f2
 go_wp2
 go_ret
 exact ⟨rfl,HB2.out⟩
theorem eqEntryS {w:World} {B1 B2:Nat} {v1 v2:Value} {l:List En} (h1:EnvIs w B1 v1 l) (h2:EnvIs w B2 v2 l) (hn:l.length≤1048576) (hn2:∀ e∈l,e.1.ctors.length≤1048576∧e.2.length≤1048576) :
  Calls Tryz.prog 12 #[v1,v2] w fun e w'=>e=.returned (.bool true)∧Below w.heap.size w w':=by
 obtain ⟨xs,hx,hr1,ho1⟩:=h1
 obtain ⟨ys,hy,hr2,ho2⟩:=h2
 have hlx:xs.length=l.length:=by rw [← hx,List.length_map]
 have hly:ys.length=l.length:=by rw [← hy,List.length_map]
 obtain ⟨r1,k1,rfl⟩:=row_sliceD hr1
 obtain ⟨r2,k2,rfl⟩:=row_sliceD hr2
 rw [hlx] at hr1
 rw [hly] at hr2
 rw [hlx,hly]
 have HK:Hid (∀ k,k < l.length→∃ x y:Ev,xs[k]?=some x∧ys[k]?=some y∧x∈xs∧y∈ys∧x.1=y.1∧x.1.1.ctors.length≤1048576∧x.1.2.length≤1048576):=by
  intro k hk
  have e1:l[k]=(xs[k]'(by omega)).1:=by simp [← hx]
  have e2:l[k]=(ys[k]'(by omega)).1:=by simp [← hy]
  refine ⟨xs[k]'(by omega),ys[k]'(by omega),List.getElem?_eq_getElem _,List.getElem?_eq_getElem _,List.getElem_mem _,List.getElem_mem _,by rw [← e1,← e2],?_⟩
  rw [← e1]
  exact hn2 _ (List.getElem_mem _)
 have HR1:=Ld hr1
 have HR2:=Ld hr2
 have HO1:=Ld ho1
 have HO2:=Ld ho2
 have hx1:l.length≤xs.length:=by omega
 have hy1:l.length≤ys.length:=by omega
 clear hx hy hr1 hr2 ho1 ho2 hlx hly hn2
 go_enter Tryz.func12,Tryz.ntmps12
 go_wp2
 go_loopw [5] (fun i wr=>∃ k:Nat,k≤l.length∧i=.int .i64 k∧Hid (Below w.heap.size w wr)) (fun i _=>l.length - (intOf i).toNat)
 case atStart=>exact ⟨0,Nat.zero_le _,rfl,Below.refl _ _⟩
 case round =>
  obtain ⟨k,hk,rfl,hbel⟩:=hrel
  have hz:=hbel.out.size
  by_cases hlt:k < l.length
  ·obtain ⟨x,y,ex,ey,mx,my,hxy,n1,n2⟩:=HK.out k hlt
   obtain ⟨g1,cap1,e1,_,hg1⟩:=HR1.out.form (by omega)
   obtain ⟨g2,cap2,e2,_,hg2⟩:=HR2.out.form (by omega)
   cases e1
   cases e2
   have hh1:=own_below HR1.out hbel.out
   have hh2:=own_below HR2.out hbel.out
   have a8:∀ i,i < 8→wr.cell? ⟨g1,k*8+i,none⟩=(ecells x)[i]?:=fun i hi=>(hh1.cellAt (k*8+i) (by omega)).trans (by rw [flatE_get (by omega) i hi];rw [List.getElem?_eq_getElem (by omega)] at ex;rw [Option.some.inj ex])
   have b8:∀ i,i < 8→wr.cell? ⟨g2,k*8+i,none⟩=(ecells y)[i]?:=fun i hi=>(hh2.cellAt (k*8+i) (by omega)).trans (by rw [flatE_get (by omega) i hi];rw [List.getElem?_eq_getElem (by omega)] at ey;rw [Option.some.inj ey])
   have p0:=a8 0 (by decide)
   have q0:=b8 0 (by decide)
   have p1:=a8 1 (by decide)
   have q1:=b8 1 (by decide)
   have p2:=a8 2 (by decide)
   have q2:=b8 2 (by decide)
   have p3:=a8 3 (by decide)
   have q3:=b8 3 (by decide)
   have p4:=a8 4 (by decide)
   have q4:=b8 4 (by decide)
   have p5:=a8 5 (by decide)
   have q5:=b8 5 (by decide)
   have p6:=a8 6 (by decide)
   have q6:=b8 6 (by decide)
   have p7:=a8 7 (by decide)
   have q7:=b8 7 (by decide)
   have F1:=Ld fun (W:World) (hW:Below wr.heap.size wr W)=>eqEntry hxy (((HO1.out x mx).below hbel.out).below hW) (((HO2.out y my).below hbel.out).below hW) n1 n2
   have ho1:=HO1.out x mx
   have ho2:=HO2.out y my
   clear a8 b8 ex ey mx my hh1 hh2 HK HO1 HO2
   obtain ⟨⟨⟨kd,nm,ps,fl,ty,vl,cs⟩,ls⟩,u,v⟩:=x
   obtain ⟨yy,uy,vy⟩:=y
   have hyq:((⟨⟨kd,nm,ps,fl,ty,vl,cs⟩,ls⟩:En))=yy:=hxy
   subst hyq
   obtain ⟨a1,c1,hu⟩:=row_sliceD ho1.1
   obtain ⟨b1,d1,hv⟩:=row_sliceD ho1.2
   obtain ⟨a2,c2,hu2⟩:=row_sliceD ho2.1
   obtain ⟨b2,d2,hv2⟩:=row_sliceD ho2.2
   simp only at hu hv hu2 hv2
   subst hu hv hu2 hv2
   have e1:Ev.val ⟨⟨⟨kd,nm,ps,fl,ty,vl,cs⟩,ls⟩,.slice a1 cs.length c1,.slice b1 ls.length d1⟩=.agg #[.int .i64 kd,.string ⟨nm.toArray⟩,.int .i64 ps,.int .i64 fl,.string ⟨ty.toArray⟩,.string ⟨vl.toArray⟩,.slice a1 cs.length c1,.slice b1 ls.length d1]:=rfl
   have e2:Ev.val ⟨⟨⟨kd,nm,ps,fl,ty,vl,cs⟩,ls⟩,.slice a2 cs.length c2,.slice b2 ls.length d2⟩=.agg #[.int .i64 kd,.string ⟨nm.toArray⟩,.int .i64 ps,.int .i64 fl,.string ⟨ty.toArray⟩,.string ⟨vl.toArray⟩,.slice a2 cs.length c2,.slice b2 ls.length d2]:=rfl
   rw [e1,e2] at F1
   simp only [ecells,sv,List.getElem?_cons_zero,List.getElem?_cons_succ,Nat.add_zero,Nat.zero_add] at p0 p1 p2 p3 p4 p5 p6 p7 q0 q1 q2 q3 q4 q5 q6 q7
   have t1:(0:Int)≤(k:Int):=by omega
   have t2:(k:Int) < (l.length:Int):=by omega
   have hgw1:g1 < wr.heap.size:=Nat.lt_of_lt_of_le hg1 hz
   have hgw2:g2 < wr.heap.size:=Nat.lt_of_lt_of_le hg2 hz
   clear ho1 ho2 hxy e1 e2 n1 n2 HR1 HR2
   have HXX:Hid (∀ w',Below wr.heap.size wr w'→w'.cell? ⟨g1,k*8,none⟩=some (.int .i64 kd)∧w'.cell? ⟨g1,k*8+1,none⟩=some (.string ⟨nm.toArray⟩)∧w'.cell? ⟨g1,k*8+2,none⟩=some (.int .i64 ps)∧w'.cell? ⟨g1,k*8+3,none⟩=some (.int .i64 fl)∧w'.cell? ⟨g1,k*8+4,none⟩=some (.string ⟨ty.toArray⟩)∧w'.cell? ⟨g1,k*8+5,none⟩=some (.string ⟨vl.toArray⟩)∧w'.cell? ⟨g1,k*8+6,none⟩=some (.slice a1 cs.length c1)∧w'.cell? ⟨g1,k*8+7,none⟩=some (.slice b1 ls.length d1)∧w'.cell? ⟨g2,k*8,none⟩=some (.int .i64 kd)∧w'.cell? ⟨g2,k*8+1,none⟩=some (.string ⟨nm.toArray⟩)∧w'.cell? ⟨g2,k*8+2,none⟩=some (.int .i64 ps)∧w'.cell? ⟨g2,k*8+3,none⟩=some (.int .i64 fl)∧w'.cell? ⟨g2,k*8+4,none⟩=some (.string ⟨ty.toArray⟩)∧w'.cell? ⟨g2,k*8+5,none⟩=some (.string ⟨vl.toArray⟩)∧w'.cell? ⟨g2,k*8+6,none⟩=some (.slice a2 cs.length c2)∧w'.cell? ⟨g2,k*8+7,none⟩=some (.slice b2 ls.length d2)):=fun w' hw=>⟨(hw.cell (p:=⟨g1,k*8,none⟩) hgw1).trans p0,(hw.cell (p:=⟨g1,k*8+1,none⟩) hgw1).trans p1,(hw.cell (p:=⟨g1,k*8+2,none⟩) hgw1).trans p2,(hw.cell (p:=⟨g1,k*8+3,none⟩) hgw1).trans p3,(hw.cell (p:=⟨g1,k*8+4,none⟩) hgw1).trans p4,(hw.cell (p:=⟨g1,k*8+5,none⟩) hgw1).trans p5,(hw.cell (p:=⟨g1,k*8+6,none⟩) hgw1).trans p6,(hw.cell (p:=⟨g1,k*8+7,none⟩) hgw1).trans p7,(hw.cell (p:=⟨g2,k*8,none⟩) hgw2).trans q0,(hw.cell (p:=⟨g2,k*8+1,none⟩) hgw2).trans q1,(hw.cell (p:=⟨g2,k*8+2,none⟩) hgw2).trans q2,(hw.cell (p:=⟨g2,k*8+3,none⟩) hgw2).trans q3,(hw.cell (p:=⟨g2,k*8+4,none⟩) hgw2).trans q4,(hw.cell (p:=⟨g2,k*8+5,none⟩) hgw2).trans q5,(hw.cell (p:=⟨g2,k*8+6,none⟩) hgw2).trans q6,(hw.cell (p:=⟨g2,k*8+7,none⟩) hgw2).trans q7⟩
   go_wp2
   go_region_held3 (fun w'=>w'.cell? ⟨g1,k*8,none⟩=some (.int .i64 kd)∧w'.cell? ⟨g1,k*8+1,none⟩=some (.string ⟨nm.toArray⟩)∧w'.cell? ⟨g1,k*8+2,none⟩=some (.int .i64 ps)∧w'.cell? ⟨g1,k*8+3,none⟩=some (.int .i64 fl)∧w'.cell? ⟨g1,k*8+4,none⟩=some (.string ⟨ty.toArray⟩)∧w'.cell? ⟨g1,k*8+5,none⟩=some (.string ⟨vl.toArray⟩)∧w'.cell? ⟨g1,k*8+6,none⟩=some (.slice a1 cs.length c1)∧w'.cell? ⟨g1,k*8+7,none⟩=some (.slice b1 ls.length d1)∧w'.cell? ⟨g2,k*8,none⟩=some (.int .i64 kd)∧w'.cell? ⟨g2,k*8+1,none⟩=some (.string ⟨nm.toArray⟩)∧w'.cell? ⟨g2,k*8+2,none⟩=some (.int .i64 ps)∧w'.cell? ⟨g2,k*8+3,none⟩=some (.int .i64 fl)∧w'.cell? ⟨g2,k*8+4,none⟩=some (.string ⟨ty.toArray⟩)∧w'.cell? ⟨g2,k*8+5,none⟩=some (.string ⟨vl.toArray⟩)∧w'.cell? ⟨g2,k*8+6,none⟩=some (.slice a2 cs.length c2)∧w'.cell? ⟨g2,k*8+7,none⟩=some (.slice b2 ls.length d2)) (first | exact ⟨p0,p1,p2,p3,p4,p5,p6,p7,q0,q1,q2,q3,q4,q5,q6,q7⟩ | exact X3)
    (first | (go_at_call 32;(with_reducible refine (F1.out _ (Below.refl _ _).drew).mono ?_);rintro e w1 ⟨rfl,hb1⟩;have X3:=HXX.out _ ((Below.refl wr.heap.size wr).drew.trans hb1)))
   go_wp2
   go_roundw
   case rel=>exact ⟨k+1,by omega,by go_num,hbel.out.trans (((Below.refl wr.heap.size wr).drew.trans hb1).mono hz)⟩
   case measure=>simp [intOf];omega
  ·clear HK HR1 HR2 HO1 HO2
   go_wp2
   go_ret
   exact ⟨rfl,hbel.out⟩
end Go.Proofs.YtfohdgplaimomaaGreatDoor
