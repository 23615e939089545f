/- GData GOk GSelf -/
import Derived.Laws.Cover1
import Derived.Deep.RegionHeld3
import Derived.Test.YtcaahdjhbmmcnaaGreatDoorYP5
import Derived.Test.YtcaahdjhbmmcnaaGreatDoorYG3
import Derived.Test.YtcaahdjhbmmcnaaGreatDoorYG1
import Derived.Test.YtcaahdjhbmmcnaaGreatDoorYA1
set_option maxRecDepth 100000
set_option maxHeartbeats 16000000
set_option linter.unusedSimpArgs false
set_option linter.unusedVariables false
namespace Go.Proofs.YtcaahdjhbmmcnaaGreatDoor
open Go.ChangeShapes Go.WideShapes Go.ChangeAt Go.RowKit
theorem specData {w:World} {d:Dc} {b:Nat} {u:Value} (h:w.ownsRow b 88 2 u d.ctors.length (flatC d.ctors)) (hs:d.Small) :
  Rt 70 #[d.val u] w (.bool (dataOk d)):=by
 obtain ⟨kd,nm,ps,fl,ty,vl,cs⟩:=d;obtain ⟨ua,uc,rfl⟩:=row_sliceD h;rw [show Dc.val ⟨kd,nm,ps,fl,ty,vl,cs⟩ (.slice ua cs.length uc)=.agg #[.int .i64 kd,.string ⟨nm.toArray⟩,.int .i64 ps,.int .i64 fl,.string ⟨ty.toArray⟩,.string ⟨vl.toArray⟩,.slice ua cs.length uc] from rfl];obtain ⟨s1,s2,s3,s4,s5⟩:=hs;simp only at s1 s2 s3 s4 s5 h;obtain ⟨x,hx⟩:=addRec nm;have f1:=Ld fun W=>specNameAdd ⟨nm.toArray⟩ ⟨#[114,101,99]⟩ W (by rw [size_sv];unfold maxLen;omega) (by decide);rw [hx] at f1;have f2:=Ld fun W=>specTermKind ⟨ty.toArray⟩ W (by rw [size_sv];unfold maxLen;omega);simp only at f2;have HE:Hid (dataOk ⟨kd,nm,ps,fl,ty,vl,cs⟩=(decide (fl.tmod 2=0) && (decide (vl=[]) && (decide (ps < 3) && (decide (termKind ty=[115]) && (decide (cs.length<=6) && ((nameOk nm && nameOk (nm ++ 46 :: recB)) && ctorsOk nm ps cs cs.length))))))):=rfl;have HB0:=Ld (alloc_any w (dC kd nm ps fl ty vl (.slice ua cs.length uc) 52));have HX:=Ld (declBox (w:=w) (kd:=kd) (ps:=ps) (fl:=fl) (nm:=nm) (ty:=ty) (vl:=vl) (u:=.slice ua cs.length uc));have HROW:=Ld (own_below h HB0.out);generalize (nameOk nm && nameOk (nm ++ 46 :: recB))=rc at f1 HE;generalize termKind ty=tk at f2 HE;clear h hx;go_enter Tryz.func70,Tryz.ntmps70;go_wp2_with fail;(with_reducible refine mo (f1.out _) fun w1 hb1=>?_);obtain ⟨c0,c1,c2,c3,c4,c5,c6⟩:=HX.out _ hb1;have HB1:=bt HB0.out hb1;have HBX:=Ld hb1;clear hb1 f1;by_cases k1:fl.tmod 2=0;rotate_left
 ·have d1:(fl.tmod 2 == 0)=false:=(by rw [bF];exact k1);have HN:Hid (dataOk ⟨kd,nm,ps,fl,ty,vl,cs⟩=false):=(by rw [Hid,HE.out];simp [k1]);clear f2 HX HROW;go_wp2;go_ret;rw [HN.out];exact ⟨rfl,HB1.out⟩
 have d1:(fl.tmod 2 == 0)=true:=by rw [beq_iff_eq];exact k1
 by_cases k2:vl=[];rotate_left
 ·have d2:(vl == [])=false:=(by rw [bF];exact k2);have HN:Hid (dataOk ⟨kd,nm,ps,fl,ty,vl,cs⟩=false):=(by rw [Hid,HE.out];simp [k2]);clear f2 HX HROW;go_wp2;go_ret;rw [HN.out];exact ⟨rfl,HB1.out⟩
 have d2:(vl == [])=true:=by rw [beq_iff_eq];exact k2
 have K2:=Ld k2;clear k2;by_cases k3:ps < 3;rotate_left
 ·have d3:decide ((3:Int)<=ps)=true:=dT (by omega);have HN:Hid (dataOk ⟨kd,nm,ps,fl,ty,vl,cs⟩=false):=(by rw [Hid,HE.out];simp [k3]);clear f2 HX HROW;go_wp2;go_ret;rw [HN.out];exact ⟨rfl,HB1.out⟩
 have d3:decide ((3:Int)<=ps)=false:=dF (by omega);by_cases k4:tk=[115];rotate_left
 ·have d4:(tk == [115])=false:=(by rw [bF];exact k4);have HN:Hid (dataOk ⟨kd,nm,ps,fl,ty,vl,cs⟩=false):=(by rw [Hid,HE.out];simp [k4]);clear HX HROW;go_wp2_with fail;(with_reducible refine mo (f2.out _) fun w2 hb2=>?_);have HB2:=bt HB1.out hb2;clear hb2 f2;go_wp2;go_ret;rw [HN.out];exact ⟨rfl,HB2.out⟩
 have d4:(tk == [115])=true:=by rw [beq_iff_eq];exact k4
 by_cases k5:cs.length<=6;rotate_left
 ·have d5:decide ((6:Int) < (cs.length:Int))=true:=dT (by omega);have HN:Hid (dataOk ⟨kd,nm,ps,fl,ty,vl,cs⟩=false):=(by rw [Hid,HE.out];simp [k5]);clear HROW;go_wp2_with fail;(with_reducible refine mo (f2.out _) fun w2 hb2=>?_);have HB2:=bt HB1.out hb2;obtain ⟨e0,e1,e2,e3,e4,e5,e6⟩:=HX.out _ (bu HBX.out hb2);clear hb2 f2 HX;go_wp2;go_ret;rw [HN.out];exact ⟨rfl,HB2.out⟩
 have d5:decide ((6:Int) < (cs.length:Int))=false:=dF (by omega);cases rc
 ·have HN:Hid (dataOk ⟨kd,nm,ps,fl,ty,vl,cs⟩=false):=(by rw [Hid,HE.out];simp);clear HROW;go_wp2_with fail;(with_reducible refine mo (f2.out _) fun w2 hb2=>?_);have HB2:=bt HB1.out hb2;obtain ⟨e0,e1,e2,e3,e4,e5,e6⟩:=HX.out _ (bu HBX.out hb2);clear hb2 f2 HX;go_wp2;go_ret;rw [HN.out];exact ⟨rfl,HB2.out⟩
 have HN:Hid (dataOk ⟨kd,nm,ps,fl,ty,vl,cs⟩=ctorsOk nm ps cs cs.length):=by rw [Hid,HE.out];simp [k1,K2.out,k3,k4,k5]
 clear HE;go_wp2_with fail;(with_reducible refine mo (f2.out _) fun w2 hb2=>?_);have HBX2:=bt HBX.out hb2;have HZ0:=Ld HB0.out.size;obtain ⟨e0,e1,e2,e3,e4,e5,e6⟩:=HX.out _ HBX2.out;clear hb2 f2 c0 c1 c2 c3 c4 c5 c6 HB1 HBX;obtain ⟨W0,hW0⟩:∃ W0,(w.alloc (dC kd nm ps fl ty vl (.slice ua cs.length uc) 52))=W0:=⟨_,rfl⟩;rw [hW0] at HX HROW HB0 HBX2 HZ0;clear hW0;go_wp2;go_loopw [5] (fun i wr=>∃ k:Nat,k<=cs.length/\i=.int .i64 k/\Hid (Below W0.heap.size W0 wr)/\Hid (ctorsOk nm ps cs k=true)) (fun i _=>cs.length - (intOf i).toNat)
 case atStart=>exact ⟨0,Nat.zero_le _,rfl,HBX2.out,ctorsOk_zero _ _ _⟩
 case round =>
  obtain ⟨k,hk,rfl,HW,HC⟩:=hrel;clear e0 e1 e2 e3 e4 e5 e6 HBX2;obtain ⟨e0,e1,e2,e3,e4,e5,e6⟩:=HX.out _ HW.out;by_cases hlt:k < cs.length
  ·have hrow:=own_below HROW.out HW.out;obtain ⟨g,cap',eg,_,hgl⟩:=hrow.form (by omega);cases eg;obtain ⟨fa,fb⟩:=flatC_at hlt;have x1:=(hrow.cellAt (k*2) (by omega)).trans fa;have y1:=(hrow.cellAt (k*2+1) (by omega)).trans fb;unfold sv at x1 y1;have q1:=zn k;have q2:(k:Int) < (cs.length:Int):=(by omega);clear fa fb hrow;have HBad:=Ld fun hb=>ctorsOk_bad (nm:=nm) (p:=ps) hlt hb;have HDup:=Ld fun (j:Nat) (hj:j < k) hb=>ctorsOk_dup (nm:=nm) (p:=ps) hlt hj hb;have HGood:=Ld fun h1 h2=>ctorsOk_succ hlt HC.out h1 h2;have hel:=s5 cs[k] (List.getElem_mem hlt);clear HC;generalize cs[k]=ck at x1 y1 HBad HDup HGood hel;obtain ⟨n,t⟩:=ck;simp only at x1 y1 hel;obtain ⟨hl1,hl2⟩:=hel;have f3:=Ld fun W=>specNameOk ⟨n.toArray⟩ W (by rw [size_sv];unfold maxLen;omega);simp only at f3;have zq:=size_sv n;have hwr:IntKind.i64.wrap ((nm.length:Int)+1)=(nm.length:Int)+1:=(by rw [IntKind.wrap_i64];omega);have znm:=size_sv nm;have HH:Hid (headOk nm n=(nameOk n && (decide (nm.length+1 < n.length) && decide (n.take (nm.length+1)=nm ++ [46])))):=rfl;have HCt:Hid (ctorOk nm ps (n,t)=(headOk nm n && tailOk nm ps (n,t))):=rfl;have bwr:=alloc_any wr (.cells #[.string ⟨n.toArray⟩,.string ⟨t.toArray⟩] 88);have m1:(wr.alloc (.cells #[.string ⟨n.toArray⟩,.string ⟨t.toArray⟩] 88)).cell? ⟨wr.heap.size,0,none⟩=some (.string ⟨n.toArray⟩):=World.news_of_block (cs:=#[.string ⟨n.toArray⟩,.string ⟨t.toArray⟩]) (t:=88) (fr:=(0,0)) (heap_alloc_new wr _) 0 _ rfl
   have m2:(wr.alloc (.cells #[.string ⟨n.toArray⟩,.string ⟨t.toArray⟩] 88)).cell? ⟨wr.heap.size,1,none⟩=some (.string ⟨t.toArray⟩):=World.news_of_block (cs:=#[.string ⟨n.toArray⟩,.string ⟨t.toArray⟩]) (t:=88) (fr:=(0,0)) (heap_alloc_new wr _) 1 _ rfl;have HWk:Hid (Below W0.heap.size W0 (wr.alloc (.cells #[.string ⟨n.toArray⟩,.string ⟨t.toArray⟩] 88))):=HW.out.trans (bwr.mono HW.out.size);obtain ⟨_,p1,_,_,_,_,p6⟩:=HX.out _ HWk.out;have hsz:wr.heap.size < (wr.alloc (.cells #[.string ⟨n.toArray⟩,.string ⟨t.toArray⟩] 88)).heap.size:=(by simp);generalize nameOk n=bN at f3 HH;go_wp2;generalize wr.alloc (.cells #[.string ⟨n.toArray⟩,.string ⟨t.toArray⟩] 88)=wk at m1 m2 HWk p1 p6 hsz bwr |-;refine wp_region_held_drew (S:=(fun w'=>w'.cell? ⟨wr.heap.size,0,none⟩=some (.string ⟨n.toArray⟩)/\w'.cell? ⟨w.heap.size,1,none⟩=some (.string ⟨nm.toArray⟩))) (by kernel_rfl) ⟨m1,p1⟩ (fun hS0=>?_);refine qW 0 57 (.pointer (some ⟨wr.heap.size,0,none⟩)) hS0 (fun W hSW=>?_) ?_
   ·(try dsimp only at hSW);(try obtain ⟨hSA,hSB⟩:=hSW);go_simp<;>(first | exact hwr | omega)
   simp only [Act.put,eA,eB,eC];refine qW 1 58 (.string ⟨n.toArray⟩) hS0 (fun W hSW=>?_) ?_
   ·(try dsimp only at hSW);(try obtain ⟨hSA,hSB⟩:=hSW);go_simp<;>(first | exact hwr | omega)
   simp only [Act.put,eA,eB,eC];refine qR 2 fun K hK=>?_;go_simp;(with_reducible refine mo (f3.out _) fun w3 hb3=>?_);have hb3':Below wk.heap.size wk w3:=((bR wk.heap.size wk).drew).trans hb3;have HW3:=Ld (HWk.out.trans (hb3'.mono HWk.out.size));obtain ⟨_,r1,r2,_,_,_,r6⟩:=HX.out _ HW3.out;have t1:w3.cell? ⟨wr.heap.size,0,none⟩=some (.string ⟨n.toArray⟩):=(hb3'.cell (p:=⟨wr.heap.size,0,none⟩) hsz).trans m1;have t2:w3.cell? ⟨wr.heap.size,1,none⟩=some (.string ⟨t.toArray⟩):=(hb3'.cell (p:=⟨wr.heap.size,1,none⟩) hsz).trans m2;have hsz3:wr.heap.size < w3.heap.size:=Nat.lt_of_lt_of_le hsz hb3'.size;refine hK.out _ _ ⟨t1,r1⟩ (fun hS1=>?_);clear hK K
   try simp only [Act.put,eA,eB,eC]
   cases bN
   ·have HF:Hid (dataOk ⟨kd,nm,ps,fl,ty,vl,cs⟩=false):=(by rw [Hid,HN.out];exact HBad.out (by rw [HCt.out,HH.out];rfl));have HBF:=Ld (HB0.out.trans (HW3.out.mono HB0.out.size));refine qW 3 60 (.bool true) hS1 (fun W hSW=>?_) ?_
    ·(try dsimp only at hSW);(try obtain ⟨hSA,hSB⟩:=hSW);go_simp<;>(first | exact hwr | omega)
    simp only [Act.put,eA,eB,eC];refine qW 4 61 (.bool true) hS1 (fun W hSW=>?_) ?_
    ·(try dsimp only at hSW);(try obtain ⟨hSA,hSB⟩:=hSW);go_simp<;>(first | exact hwr | omega)
    simp only [Act.put,eA,eB,eC];refine qS 5 62 hS1 ?_;simp only [Act.put,eA,eB,eC];refine qS 6 63 hS1 ?_;simp only [Act.put,eA,eB,eC];refine qS 7 64 hS1 ?_;simp only [Act.put,eA,eB,eC];refine qS 8 65 hS1 ?_;simp only [Act.put,eA,eB,eC];refine qS 9 66 hS1 ?_;simp only [Act.put,eA,eB,eC];refine qS 10 67 hS1 ?_;simp only [Act.put,eA,eB,eC];refine qS 11 68 hS1 ?_;simp only [Act.put,eA,eB,eC];refine qS 12 69 hS1 ?_;simp only [Act.put,eA,eB,eC];refine qW 13 70 (.bool true) hS1 (fun W hSW=>?_) ?_
    ·(try dsimp only at hSW);(try obtain ⟨hSA,hSB⟩:=hSW);go_simp<;>(first | exact hwr | omega)
    simp only [Act.put,eA,eB,eC];refine qW 14 71 (.bool true) hS1 (fun W hSW=>?_) ?_
    ·(try dsimp only at hSW);(try obtain ⟨hSA,hSB⟩:=hSW);go_simp<;>(first | exact hwr | omega)
    simp only [Act.put,eA,eB,eC];refine qS 15 72 hS1 ?_;simp only [Act.put,eA,eB,eC];refine qS 16 73 hS1 ?_;simp only [Act.put,eA,eB,eC];refine qS 17 74 hS1 ?_;simp only [Act.put,eA,eB,eC];refine qS 18 75 hS1 ?_;simp only [Act.put,eA,eB,eC];refine qS 19 76 hS1 ?_;simp only [Act.put,eA,eB,eC];refine qS 20 77 hS1 ?_;simp only [Act.put,eA,eB,eC];refine qS 21 78 hS1 ?_;simp only [Act.put,eA,eB,eC];refine qS 22 79 hS1 ?_;simp only [Act.put,eA,eB,eC];refine qS 23 80 hS1 ?_;simp only [Act.put,eA,eB,eC];refine qS 24 81 hS1 ?_;simp only [Act.put,eA,eB,eC];refine qS 25 82 hS1 ?_;simp only [Act.put,eA,eB,eC];refine qW 26 83 (.bool true) hS1 (fun W hSW=>?_) ?_
    ·(try dsimp only at hSW);(try obtain ⟨hSA,hSB⟩:=hSW);go_simp<;>(first | exact hwr | omega)
    simp only [Act.put,eA,eB,eC];refine wpAnyH_done (by kernel_rfl) ?_ _;go_wp2;go_ret;rw [HF.out];exact ⟨rfl,HBF.out⟩
   by_cases hlen:nm.length+1 < n.length;rotate_left
   ·have HF:Hid (dataOk ⟨kd,nm,ps,fl,ty,vl,cs⟩=false):=(by rw [Hid,HN.out];exact HBad.out (by rw [HCt.out,HH.out];simp [hlen]));have HBF:=Ld (HB0.out.trans (HW3.out.mono HB0.out.size));have dl:decide ((n.length:Int)<=(nm.length:Int)+1)=true:=dT (by omega);refine qW 3 60 (.bool false) hS1 (fun W hSW=>?_) ?_
    ·(try dsimp only at hSW);(try obtain ⟨hSA,hSB⟩:=hSW);go_simp<;>(first | exact hwr | omega)
    simp only [Act.put,eA,eB,eC];refine qW 4 61 (.bool false) hS1 (fun W hSW=>?_) ?_
    ·(try dsimp only at hSW);(try obtain ⟨hSA,hSB⟩:=hSW);go_simp<;>(first | exact hwr | omega)
    simp only [Act.put,eA,eB,eC];refine qW 5 62 (.pointer (some ⟨wr.heap.size,0,none⟩)) hS1 (fun W hSW=>?_) ?_
    ·(try dsimp only at hSW);(try obtain ⟨hSA,hSB⟩:=hSW);go_simp<;>(first | exact hwr | omega)
    simp only [Act.put,eA,eB,eC];refine qW 6 63 (.string ⟨n.toArray⟩) hS1 (fun W hSW=>?_) ?_
    ·(try dsimp only at hSW);(try obtain ⟨hSA,hSB⟩:=hSW);go_simp<;>(first | exact hwr | omega)
    simp only [Act.put,eA,eB,eC];refine qW 7 64 (.int .i64 (n.length:Int)) hS1 (fun W hSW=>?_) ?_
    ·(try dsimp only at hSW);(try obtain ⟨hSA,hSB⟩:=hSW);go_simp<;>(first | exact hwr | omega)
    simp only [Act.put,eA,eB,eC];refine qW 8 65 (.pointer (some ⟨w.heap.size,1,none⟩)) hS1 (fun W hSW=>?_) ?_
    ·(try dsimp only at hSW);(try obtain ⟨hSA,hSB⟩:=hSW);go_simp<;>(first | exact hwr | omega)
    simp only [Act.put,eA,eB,eC];refine qW 9 66 (.string ⟨nm.toArray⟩) hS1 (fun W hSW=>?_) ?_
    ·(try dsimp only at hSW);(try obtain ⟨hSA,hSB⟩:=hSW);go_simp<;>(first | exact hwr | omega)
    simp only [Act.put,eA,eB,eC];refine qW 10 67 (.int .i64 (nm.length:Int)) hS1 (fun W hSW=>?_) ?_
    ·(try dsimp only at hSW);(try obtain ⟨hSA,hSB⟩:=hSW);go_simp<;>(first | exact hwr | omega)
    simp only [Act.put,eA,eB,eC];refine qW 11 68 (.int .i64 ((nm.length:Int)+1)) hS1 (fun W hSW=>?_) ?_
    ·(try dsimp only at hSW);(try obtain ⟨hSA,hSB⟩:=hSW);go_simp<;>(first | exact hwr | omega)
    simp only [Act.put,eA,eB,eC];refine qW 12 69 (.bool true) hS1 (fun W hSW=>?_) ?_
    ·(try dsimp only at hSW);(try obtain ⟨hSA,hSB⟩:=hSW);go_simp<;>(first | exact hwr | omega)
    simp only [Act.put,eA,eB,eC];refine qW 13 70 (.bool true) hS1 (fun W hSW=>?_) ?_
    ·(try dsimp only at hSW);(try obtain ⟨hSA,hSB⟩:=hSW);go_simp<;>(first | exact hwr | omega)
    simp only [Act.put,eA,eB,eC];refine qW 14 71 (.bool true) hS1 (fun W hSW=>?_) ?_
    ·(try dsimp only at hSW);(try obtain ⟨hSA,hSB⟩:=hSW);go_simp<;>(first | exact hwr | omega)
    simp only [Act.put,eA,eB,eC];refine qS 15 72 hS1 ?_;simp only [Act.put,eA,eB,eC];refine qS 16 73 hS1 ?_;simp only [Act.put,eA,eB,eC];refine qS 17 74 hS1 ?_;simp only [Act.put,eA,eB,eC];refine qS 18 75 hS1 ?_;simp only [Act.put,eA,eB,eC];refine qS 19 76 hS1 ?_;simp only [Act.put,eA,eB,eC];refine qS 20 77 hS1 ?_;simp only [Act.put,eA,eB,eC];refine qS 21 78 hS1 ?_;simp only [Act.put,eA,eB,eC];refine qS 22 79 hS1 ?_;simp only [Act.put,eA,eB,eC];refine qS 23 80 hS1 ?_;simp only [Act.put,eA,eB,eC];refine qS 24 81 hS1 ?_;simp only [Act.put,eA,eB,eC];refine qS 25 82 hS1 ?_;simp only [Act.put,eA,eB,eC];refine qW 26 83 (.bool true) hS1 (fun W hSW=>?_) ?_
    ·(try dsimp only at hSW);(try obtain ⟨hSA,hSB⟩:=hSW);go_simp<;>(first | exact hwr | omega)
    simp only [Act.put,eA,eB,eC];refine wpAnyH_done (by kernel_rfl) ?_ _;go_wp2;go_ret;rw [HF.out];exact ⟨rfl,HBF.out⟩
   have dl:decide ((n.length:Int)<=(nm.length:Int)+1)=false:=dF (by omega);have qa:(0:Int)<=(nm.length:Int)+1:=(by omega);have qb:¬ ((n.length:Int) < (nm.length:Int)+1):=(by omega);have qc:((nm.length:Int)+1).toNat=nm.length+1:=(by omega);refine qW 3 60 (.bool false) hS1 (fun W hSW=>?_) ?_
   ·(try dsimp only at hSW);(try obtain ⟨hSA,hSB⟩:=hSW);go_simp<;>(first | exact hwr | omega)
   simp only [Act.put,eA,eB,eC];refine qW 4 61 (.bool false) hS1 (fun W hSW=>?_) ?_
   ·(try dsimp only at hSW);(try obtain ⟨hSA,hSB⟩:=hSW);go_simp<;>(first | exact hwr | omega)
   simp only [Act.put,eA,eB,eC];refine qW 5 62 (.pointer (some ⟨wr.heap.size,0,none⟩)) hS1 (fun W hSW=>?_) ?_
   ·(try dsimp only at hSW);(try obtain ⟨hSA,hSB⟩:=hSW);go_simp<;>(first | exact hwr | omega)
   simp only [Act.put,eA,eB,eC];refine qW 6 63 (.string ⟨n.toArray⟩) hS1 (fun W hSW=>?_) ?_
   ·(try dsimp only at hSW);(try obtain ⟨hSA,hSB⟩:=hSW);go_simp<;>(first | exact hwr | omega)
   simp only [Act.put,eA,eB,eC];refine qW 7 64 (.int .i64 (n.length:Int)) hS1 (fun W hSW=>?_) ?_
   ·(try dsimp only at hSW);(try obtain ⟨hSA,hSB⟩:=hSW);go_simp<;>(first | exact hwr | omega)
   simp only [Act.put,eA,eB,eC];refine qW 8 65 (.pointer (some ⟨w.heap.size,1,none⟩)) hS1 (fun W hSW=>?_) ?_
   ·(try dsimp only at hSW);(try obtain ⟨hSA,hSB⟩:=hSW);go_simp<;>(first | exact hwr | omega)
   simp only [Act.put,eA,eB,eC];refine qW 9 66 (.string ⟨nm.toArray⟩) hS1 (fun W hSW=>?_) ?_
   ·(try dsimp only at hSW);(try obtain ⟨hSA,hSB⟩:=hSW);go_simp<;>(first | exact hwr | omega)
   simp only [Act.put,eA,eB,eC];refine qW 10 67 (.int .i64 (nm.length:Int)) hS1 (fun W hSW=>?_) ?_
   ·(try dsimp only at hSW);(try obtain ⟨hSA,hSB⟩:=hSW);go_simp<;>(first | exact hwr | omega)
   simp only [Act.put,eA,eB,eC];refine qW 11 68 (.int .i64 ((nm.length:Int)+1)) hS1 (fun W hSW=>?_) ?_
   ·(try dsimp only at hSW);(try obtain ⟨hSA,hSB⟩:=hSW);go_simp<;>(first | exact hwr | omega)
   simp only [Act.put,eA,eB,eC];refine qW 12 69 (.bool false) hS1 (fun W hSW=>?_) ?_
   ·(try dsimp only at hSW);(try obtain ⟨hSA,hSB⟩:=hSW);go_simp<;>(first | exact hwr | omega)
   simp only [Act.put,eA,eB,eC];refine qW 13 70 (.bool false) hS1 (fun W hSW=>?_) ?_
   ·(try dsimp only at hSW);(try obtain ⟨hSA,hSB⟩:=hSW);go_simp<;>(first | exact hwr | omega)
   simp only [Act.put,eA,eB,eC];refine qW 14 71 (.bool false) hS1 (fun W hSW=>?_) ?_
   ·(try dsimp only at hSW);(try obtain ⟨hSA,hSB⟩:=hSW);go_simp<;>(first | exact hwr | omega)
   simp only [Act.put,eA,eB,eC];refine qW 15 72 (.pointer (some ⟨wr.heap.size,0,none⟩)) hS1 (fun W hSW=>?_) ?_
   ·(try dsimp only at hSW);(try obtain ⟨hSA,hSB⟩:=hSW);go_simp<;>(first | exact hwr | omega)
   simp only [Act.put,eA,eB,eC];refine qW 16 73 (.string ⟨n.toArray⟩) hS1 (fun W hSW=>?_) ?_
   ·(try dsimp only at hSW);(try obtain ⟨hSA,hSB⟩:=hSW);go_simp<;>(first | exact hwr | omega)
   simp only [Act.put,eA,eB,eC];refine qW 17 74 (.pointer (some ⟨w.heap.size,1,none⟩)) hS1 (fun W hSW=>?_) ?_
   ·(try dsimp only at hSW);(try obtain ⟨hSA,hSB⟩:=hSW);go_simp<;>(first | exact hwr | omega)
   simp only [Act.put,eA,eB,eC];refine qW 18 75 (.string ⟨nm.toArray⟩) hS1 (fun W hSW=>?_) ?_
   ·(try dsimp only at hSW);(try obtain ⟨hSA,hSB⟩:=hSW);go_simp<;>(first | exact hwr | omega)
   simp only [Act.put,eA,eB,eC];refine qW 19 76 (.int .i64 (nm.length:Int)) hS1 (fun W hSW=>?_) ?_
   ·(try dsimp only at hSW);(try obtain ⟨hSA,hSB⟩:=hSW);go_simp<;>(first | exact hwr | omega)
   simp only [Act.put,eA,eB,eC];refine qW 20 77 (.int .i64 ((nm.length:Int)+1)) hS1 (fun W hSW=>?_) ?_
   ·(try dsimp only at hSW);(try obtain ⟨hSA,hSB⟩:=hSW);go_simp<;>(first | exact hwr | omega)
   simp only [Act.put,eA,eB,eC];have hsl:(⟨n.toArray⟩:ByteArray).extract 0 (nm.length+1)=⟨(n.take (nm.length+1)).toArray⟩:=(by apply ByteArray.ext;simp);have hcat:(⟨nm.toArray⟩:ByteArray) ++ ⟨#[46]⟩=⟨(nm ++ [46]).toArray⟩:=(by apply ByteArray.ext;simp);generalize hpl:n.take (nm.length+1)=pl at hsl HH;generalize hql:nm ++ [46]=ql at hcat HH;clear hpl hql;refine qW 21 78 (.string ⟨pl.toArray⟩) hS1 (fun W hSW=>?_) ?_
   ·(try dsimp only at hSW);(try obtain ⟨hSA,hSB⟩:=hSW);go_simp<;>(first | exact hwr | omega)
   simp only [Act.put,eA,eB,eC];refine qW 22 79 (.pointer (some ⟨w.heap.size,1,none⟩)) hS1 (fun W hSW=>?_) ?_
   ·(try dsimp only at hSW);(try obtain ⟨hSA,hSB⟩:=hSW);go_simp<;>(first | exact hwr | omega)
   simp only [Act.put,eA,eB,eC];refine qW 23 80 (.string ⟨nm.toArray⟩) hS1 (fun W hSW=>?_) ?_
   ·(try dsimp only at hSW);(try obtain ⟨hSA,hSB⟩:=hSW);go_simp<;>(first | exact hwr | omega)
   simp only [Act.put,eA,eB,eC];refine qW 24 81 (.string ⟨ql.toArray⟩) hS1 (fun W hSW=>?_) ?_
   ·(try dsimp only at hSW);(try obtain ⟨hSA,hSB⟩:=hSW);go_simp<;>(first | exact hwr | omega)
   simp only [Act.put,eA,eB,eC];by_cases hpre:pl=ql;rotate_left
   ·have dp:(pl == ql)=false:=(by rw [bF];exact hpre);have HF:Hid (dataOk ⟨kd,nm,ps,fl,ty,vl,cs⟩=false):=(by rw [Hid,HN.out];exact HBad.out (by rw [HCt.out,HH.out];simp [hpre]));have HBF:=Ld (HB0.out.trans (HW3.out.mono HB0.out.size));refine qW 25 82 (.bool true) hS1 (fun W hSW=>?_) ?_
    ·(try dsimp only at hSW);(try obtain ⟨hSA,hSB⟩:=hSW);go_simp<;>(first | exact hwr | omega)
    simp only [Act.put,eA,eB,eC];refine qW 26 83 (.bool true) hS1 (fun W hSW=>?_) ?_
    ·(try dsimp only at hSW);(try obtain ⟨hSA,hSB⟩:=hSW);go_simp<;>(first | exact hwr | omega)
    simp only [Act.put,eA,eB,eC];refine wpAnyH_done (by kernel_rfl) ?_ _;go_wp2;go_ret;rw [HF.out];exact ⟨rfl,HBF.out⟩
   have dp:(pl == ql)=true:=(by rw [beq_iff_eq];exact hpre);have HCt2:Hid (ctorOk nm ps (n,t)=tailOk nm ps (n,t)):=(by rw [Hid,HCt.out,HH.out];simp [hlen,hpre]);refine qW 25 82 (.bool false) hS1 (fun W hSW=>?_) ?_
   ·(try dsimp only at hSW);(try obtain ⟨hSA,hSB⟩:=hSW);go_simp<;>(first | exact hwr | omega)
   simp only [Act.put,eA,eB,eC];refine qW 26 83 (.bool false) hS1 (fun W hSW=>?_) ?_
   ·(try dsimp only at hSW);(try obtain ⟨hSA,hSB⟩:=hSW);go_simp<;>(first | exact hwr | omega)
   simp only [Act.put,eA,eB,eC];refine wpAnyH_done (by kernel_rfl) ?_ _;have HT:Hid (tailOk nm ps (n,t)=(decide ((nparts (restOf nm n)).length=1) && (decide (restOf nm n≠recB) && closedOf t ps))):=rfl;have hdr:(⟨n.toArray⟩:ByteArray).extract (nm.length+1) n.length=⟨(restOf nm n).toArray⟩:=by
    apply ByteArray.ext;simp [restOf,List.take_of_length_le]
   have hrl:(restOf nm n).length<=1048576:=(by simp only [restOf,List.length_drop];omega);have f4:=Ld fun W=>specNameParts ⟨(restOf nm n).toArray⟩ W (by rw [size_sv];unfold maxLen;omega);have f5:=Ld fun W=>specClosed t ps W (by unfold maxLen;omega);simp only at f4;unfold LRes at f4;have hnl:(nparts (restOf nm n)).length<=2000000:=by
    unfold nparts;split
    ·have:=cutF_len 46 (restOf nm n) [];unfold cutL;omega
    ·exact Nat.zero_le _
   generalize restOf nm n=rs at hdr f4 HT hnl;generalize nparts rs=np at f4 HT hnl;generalize hcb:closedOf t ps=cb at f5 HT;clear hcb;go_wp2_with fail;(with_reducible refine (f4.out _).mono ?_);rintro e w4 ⟨pu,rfl,hpu,hb4⟩;obtain ⟨pa,pc,rfl⟩:=row_sliceD hpu;have HW4:=bt HW3.out hb4;have v1:w4.cell? ⟨wr.heap.size,0,none⟩=some (.string ⟨n.toArray⟩):=(hb4.cell (p:=⟨wr.heap.size,0,none⟩) hsz3).trans t1;have v2:w4.cell? ⟨wr.heap.size,1,none⟩=some (.string ⟨t.toArray⟩):=(hb4.cell (p:=⟨wr.heap.size,1,none⟩) hsz3).trans t2;have hsz4:wr.heap.size < w4.heap.size:=Nat.lt_of_lt_of_le hsz3 hb4.size;obtain ⟨_,z1,z2,_,_,_,z6⟩:=HX.out _ HW4.out;clear hpu hb4 f4 r1 r2 r6 t1 t2 e0 e1 e2 e3 e4 e5 e6;generalize np.length=pn at HT hnl |-;by_cases g1:pn=1;rotate_left
   ·have dg:((pn:Int) == 1)=false:=(by rw [bF];omega);have HF:Hid (dataOk ⟨kd,nm,ps,fl,ty,vl,cs⟩=false):=(by rw [Hid,HN.out];exact HBad.out (by rw [HCt2.out,HT.out];simp [g1]));have HBF:=Ld (HB0.out.trans (HW4.out.mono HB0.out.size));clear f5;go_wp2;go_ret;rw [HF.out];exact ⟨rfl,HBF.out⟩
   subst g1;by_cases g2:rs=recB
   ·have dr:(rs == [114,101,99])=true:=(by rw [beq_iff_eq];exact g2);have HF:Hid (dataOk ⟨kd,nm,ps,fl,ty,vl,cs⟩=false):=(by rw [Hid,HN.out];exact HBad.out (by rw [HCt2.out,HT.out];simp [g2]));have HBF:=Ld (HB0.out.trans (HW4.out.mono HB0.out.size));clear f5 g2;go_wp2;go_ret;rw [HF.out];exact ⟨rfl,HBF.out⟩
   have dr:(rs == [114,101,99])=false:=(by rw [bF];exact g2);have G2:=Ld g2;clear g2;go_wp2_with fail;(with_reducible refine mo (f5.out _) fun w5 hb5=>?_);have HW5:=bt HW4.out hb5;have u1:w5.cell? ⟨wr.heap.size,0,none⟩=some (.string ⟨n.toArray⟩):=(hb5.cell (p:=⟨wr.heap.size,0,none⟩) hsz4).trans v1;have hsz5:wr.heap.size < w5.heap.size:=Nat.lt_of_lt_of_le hsz4 hb5.size;clear hb5 f5 v1 v2 z1 z2 z6;cases cb
   ·have HF:Hid (dataOk ⟨kd,nm,ps,fl,ty,vl,cs⟩=false):=(by rw [Hid,HN.out];exact HBad.out (by rw [HCt2.out,HT.out];simp));have HBF:=Ld (HB0.out.trans (HW5.out.mono HB0.out.size));go_wp2;go_ret;rw [HF.out];exact ⟨rfl,HBF.out⟩
   have HG:Hid ((∀ (j:Nat) (hj:j < k),cs[j].1≠n)->ctorsOk nm ps cs (k+1)=true):=fun h2=>HGood.out (by rw [HCt2.out,HT.out];simp [G2.out]) h2;go_wp2;have HSelf:=Ld (bR w5.heap.size w5);have hkl:k<=cs.length:=(by omega);generalize wr.heap.size=Kb at u1 hsz5 |-;go_loopw [8] (fun jv wj=>∃ j:Nat,j<=k/\jv=.int .i64 j/\Hid (Below w5.heap.size w5 wj)/\Hid (∀ (i:Nat) (hi:i < j) (hl:i < cs.length),cs[i].1≠n)) (fun jv _=>k - (intOf jv).toNat)
   case atStart=>exact ⟨0,Nat.zero_le _,rfl,HSelf.out,fun i hi=>absurd hi (Nat.not_lt_zero _)⟩
   case round =>
    obtain ⟨j,hj,rfl,HJ,HA⟩:=hrel;have HWj:Hid (Below W0.heap.size W0 wr):=HW5.out.trans (HJ.out.mono HW5.out.size);obtain ⟨_,_,_,_,_,_,y6⟩:=HX.out _ HWj.out;have uj:wr.cell? ⟨Kb,0,none⟩=some (.string ⟨n.toArray⟩):=(HJ.out.cell (p:=⟨Kb,0,none⟩) hsz5).trans u1;by_cases hjk:j < k
    ·have hrow:=own_below HROW.out HWj.out;have hjl:j < cs.length:=(by omega);obtain ⟨fa,fb⟩:=flatC_at hjl;have xj:=(hrow.cellAt (j*2) (by omega)).trans fa;unfold sv at xj;have HDj:=Ld fun hb=>HDup.out j hjk hb;have HAj:Hid (cs[j].1≠n->∀ (i:Nat) (hi:i < j+1) (hl:i < cs.length),cs[i].1≠n):=fun hne i hi hl=>by
      rcases Nat.lt_succ_iff_lt_or_eq.1 hi with h3 | rfl
      ·exact HA.out i h3 hl
      ·exact hne
     have p1:=zn j;have p2:(j:Int) < (cs.length:Int):=(by omega);have p3:(j:Int) < (k:Int):=(by omega);clear fa fb hrow HA;generalize cs[j].1=nj at xj HDj HAj;by_cases hne:nj=n
     ·have dd:(nj == n)=true:=(by rw [beq_iff_eq];exact hne);have HF:Hid (dataOk ⟨kd,nm,ps,fl,ty,vl,cs⟩=false):=(by rw [Hid,HN.out];exact HDj.out hne);have HBF:=Ld (HB0.out.trans ((below_drewN HWj.out 1).mono HB0.out.size));clear hne;go_wp2;go_region
      all_goals
       go_wp2;go_ret;rw [HF.out];exact ⟨rfl,HBF.out⟩
     ·have dd:(nj == n)=false:=(by rw [bF];exact hne);have HA2:=Ld (HAj.out hne);have HJ2:=Ld (below_drewN HJ.out 1);clear hne;go_wp2;go_region
      all_goals
       go_wp2;go_roundw
       case rel=>exact ⟨j+1,by omega,by go_num,HJ2.out,HA2.out⟩
       case measure=>simp [intOf];omega
    ·have HGk:=Ld (HG.out (fun i hi=>HA.out i (by omega) (by omega)));have p3:¬ ((j:Int) < (k:Int)):=(by omega);have p4:k<=j:=(by omega);go_wp2;go_roundw
     case rel=>exact ⟨k+1,by omega,by go_num,HWj.out,HGk.out⟩
     case measure=>simp [intOf];omega
  ·obtain rfl:k=cs.length:=(by omega);have HF:Hid (dataOk ⟨kd,nm,ps,fl,ty,vl,cs⟩=true):=(by rw [Hid,HN.out];exact HC.out);have HBF:=Ld (HB0.out.trans (HW.out.mono HB0.out.size));go_wp2;go_ret;rw [HF.out];exact ⟨rfl,HBF.out⟩
theorem specDeclOk {w:World} {d:Dc} {b:Nat} {u:Value} (h:w.ownsRow b 88 2 u d.ctors.length (flatC d.ctors)) (hs:d.Small) :
  Rt 48 #[d.val u] w (.bool (declOk d)):=by
 obtain ⟨kd,nm,ps,fl,ty,vl,cs⟩:=d;obtain ⟨ua,uc,rfl⟩:=row_sliceD h;have HB0:=Ld (alloc_any w (dC kd nm ps fl ty vl (.slice ua cs.length uc) 52));have HROW:=Ld (own_below h HB0.out);have fD:=Ld fun W (hb:Below (w.alloc (dC kd nm ps fl ty vl (.slice ua cs.length uc) 52)).heap.size (w.alloc (dC kd nm ps fl ty vl (.slice ua cs.length uc) 52)) W)=>specData (d:=⟨kd,nm,ps,fl,ty,vl,cs⟩) (own_below HROW.out hb) hs;have hval:∀ u,Dc.val ⟨kd,nm,ps,fl,ty,vl,cs⟩ u=.agg #[.int .i64 kd,.string ⟨nm.toArray⟩,.int .i64 ps,.int .i64 fl,.string ⟨ty.toArray⟩,.string ⟨vl.toArray⟩,u]:=fun u=>rfl;rw [hval] at fD |-;obtain ⟨s1,s2,s3,s4,s5⟩:=hs;simp only at s1 s2 s3 s4 s5 h;have f1:=Ld fun W=>specNameOk ⟨nm.toArray⟩ W (by rw [size_sv];unfold maxLen;omega);have f2:=Ld fun W=>specInV ps 0 3 W;have f3:=Ld fun W=>specInV fl 0 7 W;have f4:=Ld fun W=>specClosed ty ps W (by unfold maxLen;omega);have f5:=Ld fun W=>specClosed vl ps W (by unfold maxLen;omega);simp only at f1;have HX:=Ld (declBox (w:=w) (kd:=kd) (ps:=ps) (fl:=fl) (nm:=nm) (ty:=ty) (vl:=vl) (u:=.slice ua cs.length uc));have HE:Hid (declOk ⟨kd,nm,ps,fl,ty,vl,cs⟩=(nameOk nm && ((decide (0<=ps) && decide (ps<=3)) && ((decide (0<=fl) && decide (fl<=7)) && (closedOf ty ps && declKindOk ⟨kd,nm,ps,fl,ty,vl,cs⟩))))):=rfl
 have HK:Hid (declKindOk ⟨kd,nm,ps,fl,ty,vl,cs⟩=(if kd=1 then decide (fl=0) && (decide (vl=[]) && decide (cs.length=0)) else if kd=2\/kd=3 then decide (fl<=1) && (closedOf vl ps && decide (cs.length=0)) else if kd=4 then dataOk ⟨kd,nm,ps,fl,ty,vl,cs⟩ else false)):=rfl;generalize nameOk nm=a1 at f1 HE;generalize (decide (0<=ps) && decide (ps<=3))=a2 at f2 HE;generalize (decide (0<=fl) && decide (fl<=7))=a3 at f3 HE;generalize closedOf ty ps=a4 at f4 HE;clear h hval;go_enter Tryz.func48,Tryz.ntmps48;go_wp2_with fail;(with_reducible refine mo (f1.out _) fun w1 hb1=>?_);obtain ⟨c0,c1,c2,c3,c4,c5,c6⟩:=HX.out _ hb1;have HBX1:=Ld hb1;clear hb1 f1;cases a1
 ·have HF:Hid (declOk ⟨kd,nm,ps,fl,ty,vl,cs⟩=false):=(by rw [Hid,HE.out];rfl);have HBF:=Ld (HB0.out.trans (HBX1.out.mono HB0.out.size));go_wp2;go_ret;rw [HF.out];exact ⟨rfl,HBF.out⟩
 go_wp2_with fail;(with_reducible refine mo (f2.out _) ?_);rintro w2 rfl;clear f2;cases a2
 ·have HF:Hid (declOk ⟨kd,nm,ps,fl,ty,vl,cs⟩=false):=(by rw [Hid,HE.out];rfl);have HBF:=Ld (HB0.out.trans (HBX1.out.mono HB0.out.size));go_wp2;go_ret;rw [HF.out];exact ⟨rfl,HBF.out⟩
 go_wp2_with fail;(with_reducible refine mo (f3.out _) ?_);rintro w3 rfl;clear f3;cases a3
 ·have HF:Hid (declOk ⟨kd,nm,ps,fl,ty,vl,cs⟩=false):=(by rw [Hid,HE.out];rfl);have HBF:=Ld (HB0.out.trans (HBX1.out.mono HB0.out.size));go_wp2;go_ret;rw [HF.out];exact ⟨rfl,HBF.out⟩
 go_wp2_with fail;(with_reducible refine mo (f4.out _) fun w4 hb4=>?_);have HBX4:=bt HBX1.out hb4;clear hb4 f4 c0 c1 c2 c3 c4 c5 c6 HBX1;obtain ⟨c0,c1,c2,c3,c4,c5,c6⟩:=HX.out _ HBX4.out;have HBF:=Ld (HB0.out.trans (HBX4.out.mono HB0.out.size));cases a4
 ·have HF:Hid (declOk ⟨kd,nm,ps,fl,ty,vl,cs⟩=false):=(by rw [Hid,HE.out];rfl);go_wp2;go_ret;rw [HF.out];exact ⟨rfl,HBF.out⟩
 have HE2:Hid (declOk ⟨kd,nm,ps,fl,ty,vl,cs⟩=declKindOk ⟨kd,nm,ps,fl,ty,vl,cs⟩):=by rw [Hid,HE.out];rfl
 clear HE;by_cases k1:kd=1
 ·subst k1;have HV:Hid (declOk ⟨1,nm,ps,fl,ty,vl,cs⟩=(decide (fl=0) && (decide (vl=[]) && decide (cs.length=0)))):=(by rw [Hid,HE2.out,HK.out,iP rfl]);clear HE2 HK f5 fD HX HROW;by_cases z1:fl=0;rotate_left
  ·have d1:(fl == 0)=false:=(by rw [bF];exact z1);have HF:Hid (declOk ⟨1,nm,ps,fl,ty,vl,cs⟩=false):=(by rw [Hid,HV.out];simp [z1]);go_wp2;go_ret;rw [HF.out];exact ⟨rfl,HBF.out⟩
  subst z1;by_cases z2:vl=[];rotate_left
  ·have d2:(vl == [])=false:=(by rw [bF];exact z2);have HF:Hid (declOk ⟨1,nm,ps,0,ty,vl,cs⟩=false):=(by rw [Hid,HV.out];simp [z2]);go_wp2;go_ret;rw [HF.out];exact ⟨rfl,HBF.out⟩
  subst z2;by_cases z3:cs.length=0
  ·have HF:Hid (declOk ⟨1,nm,ps,0,ty,[],cs⟩=true):=(by rw [Hid,HV.out];simp [List.length_eq_zero_iff.1 z3]);generalize cs.length=n at z3 c6 |-;subst z3;go_wp2;go_ret;rw [HF.out];exact ⟨rfl,HBF.out⟩
  ·have d3:((cs.length:Int) == 0)=false:=(by rw [bF];omega);have HF:Hid (declOk ⟨1,nm,ps,0,ty,[],cs⟩=false):=(by rw [Hid,HV.out];simp;intro e;rw [e] at z3;exact z3 rfl);go_wp2;go_ret;rw [HF.out];exact ⟨rfl,HBF.out⟩
 have b1:(kd == 1)=false:=by rw [bF];exact k1
 by_cases k23:kd=2\/kd=3
 ·have HV:Hid (declOk ⟨kd,nm,ps,fl,ty,vl,cs⟩=(decide (fl<=1) && (closedOf vl ps && decide (cs.length=0)))):=(by rw [Hid,HE2.out,HK.out,iN k1,iP k23]);clear HE2 HK fD HROW k1 b1;generalize closedOf vl ps=a5 at f5 HV;by_cases z1:fl<=1;rotate_left
  ·have d1:decide (fl<=1)=false:=dF z1;have HF:Hid (declOk ⟨kd,nm,ps,fl,ty,vl,cs⟩=false):=(by rw [Hid,HV.out];simp [z1]);clear f5 HX HV;rcases k23 with rfl | rfl
   all_goals
    go_wp2;go_ret;rw [HF.out];exact ⟨rfl,HBF.out⟩
  have d1:decide (fl<=1)=true:=dT z1;have HBR:=Ld fun w5 (hb:Below w4.heap.size w4 w5)=>And.intro (HX.out _ (bu HBX4.out hb)) (bu HBF.out hb);clear HBF HBX4 HX;cases a5
  ·have HF:Hid (declOk ⟨kd,nm,ps,fl,ty,vl,cs⟩=false):=(by rw [Hid,HV.out];simp);clear HV;rcases k23 with rfl | rfl
   all_goals
    go_wp2_with fail;(with_reducible refine mo (f5.out _) fun w5 hb5=>?_);have HBF:=Ld (HBR.out _ hb5).2;clear hb5 f5;go_wp2;go_ret;rw [HF.out];exact ⟨rfl,HBF.out⟩
  by_cases z3:cs.length=0
  ·have HF:Hid (declOk ⟨kd,nm,ps,fl,ty,vl,cs⟩=true):=(by rw [Hid,HV.out];simp [List.length_eq_zero_iff.1 z3,z1]);clear HV;generalize cs.length=n at z3 HBR c6 |-;subst z3;rcases k23 with rfl | rfl
   all_goals
    go_wp2_with fail;(with_reducible refine mo (f5.out _) fun w5 hb5=>?_);obtain ⟨⟨e0,e1,e2,e3,e4,e5,e6⟩,hbf⟩:=HBR.out _ hb5;have HBF:=Ld hbf;clear hb5 f5 hbf;go_wp2;go_ret;rw [HF.out];exact ⟨rfl,HBF.out⟩
  ·have d3:((cs.length:Int) == 0)=false:=(by rw [bF];omega);have HF:Hid (declOk ⟨kd,nm,ps,fl,ty,vl,cs⟩=false):=(by rw [Hid,HV.out];simp [z1];intro e;rw [e] at z3;exact z3 rfl);clear HV;rcases k23 with rfl | rfl
   all_goals
    go_wp2_with fail;(with_reducible refine mo (f5.out _) fun w5 hb5=>?_);obtain ⟨⟨e0,e1,e2,e3,e4,e5,e6⟩,hbf⟩:=HBR.out _ hb5;have HBF:=Ld hbf;clear hb5 f5 hbf;go_wp2;go_ret;rw [HF.out];exact ⟨rfl,HBF.out⟩
 have b2:(kd == 2)=false:=by rw [bF];exact fun e=>k23 (.inl e)
 have b3:(kd == 3)=false:=by rw [bF];exact fun e=>k23 (.inr e)
 by_cases k4:kd=4
 ·have HV:Hid (declOk ⟨kd,nm,ps,fl,ty,vl,cs⟩=dataOk ⟨kd,nm,ps,fl,ty,vl,cs⟩):=(by rw [Hid,HE2.out,HK.out,iN k1,iN k23,iP k4]);have fD2:=Ld (fD.out _ HBX4.out);subst k4;obtain ⟨r,hr⟩:∃ r,dataOk ⟨4,nm,ps,fl,ty,vl,cs⟩=r:=⟨_,rfl⟩;rw [hr] at fD2 HV;clear HE2 HK HX f5 fD hr k1 k23 b1 b2 b3;go_wp2_with fail;(with_reducible refine mo fD2.out fun w5 hb5=>?_);have HB5:=bt HBF.out hb5;clear hb5 fD2;go_wp2;go_ret;rw [HV.out];exact ⟨rfl,HB5.out⟩
 ·have b4:(kd == 4)=false:=(by rw [bF];exact k4);have HF:Hid (declOk ⟨kd,nm,ps,fl,ty,vl,cs⟩=false):=(by rw [Hid,HE2.out,HK.out,iN k1,iN k23,iN k4]);clear HE2 HK HX f5 fD k1 k23 k4;go_wp2;go_ret;rw [HF.out];exact ⟨rfl,HBF.out⟩
end Go.Proofs.YtcaahdjhbmmcnaaGreatDoor
