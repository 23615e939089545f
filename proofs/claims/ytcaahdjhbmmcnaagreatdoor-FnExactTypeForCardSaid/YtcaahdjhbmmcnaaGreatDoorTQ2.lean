/- JI1 JI2 JI3 -/
import Derived.RangeFuncBox
import Derived.Maps.AppendAt
import Derived.RangeFuncCalls
import Derived.RangeFuncWrites
import Derived.RangeFuncFrom
import Derived.RegionIn
import Derived.Shelf.RegionOpen
import Derived.Test.YtcaahdjhbmmcnaaGreatDoorTQ1
import Derived.Test.YtcaahdjhbmmcnaaGreatDoorTE1
import Derived.Test.YtcaahdjhbmmcnaaGreatDoorTJ0
set_option maxRecDepth 100000
set_option maxHeartbeats 16000000
set_option linter.unusedSimpArgs false
set_option linter.unusedVariables false
namespace Go.Proofs.YtcaahdjhbmmcnaaGreatDoor
open Go.ChangeShapes Go.WideShapes Go.ChangeAt Go.RowKit Go.Shelf
attribute [local go_sem] Oper.semAt_some
def zG1 (t:Tm) (sf nm:List UInt8):Bool:=!(t.doms.any fun d=>xJ2 d.cnames nm) && decide (t.targ.bytes=sf)
theorem nM {t:Tm} (hok:t.Ok) (hl:t.bytes.length<=2000) (nm:List UInt8):xJ2 (vE t.bytes) nm=xJ2 t.cnames nm:=by
  rw [vE,zY ⟨hok,rfl,hl⟩]
  exact xA1 _ _
theorem zG2 {t d:Tm} (h:d∈t.doms):d.bytes.length<=t.bytes.length:=by
  have h2:=tG t
  have h3:=nB h
  have h4:=congrArg List.length h2
  rw [lA] at h4
  omega
theorem aB {sf nm dm:List UInt8} {t:Tm} (h:qC dm t):zS sf nm dm=if xJ2 t.cnames nm=true then (if zG1 t sf nm=true then 1 else 2) else 0:=by
  obtain ⟨hok,rfl,hl⟩:=h
  have h1:yB t.bytes=true:=by rw [yB,zY ⟨hok,rfl,hl⟩];rfl
  have h2:=nM hok hl nm
  have h3:((zJ t.bytes).any fun x=>xJ2 (vE x) nm)=t.doms.any fun d=>xJ2 d.cnames nm:=by
    rw [zJ,zY ⟨hok,rfl,hl⟩]
    show ((t.doms.map Tm.bytes).any _)=_
    rw [List.any_map,Bool.eq_iff_iff,List.any_eq_true,List.any_eq_true]
    constructor
    · rintro ⟨d,hd,hx⟩
      refine ⟨d,hd,?_⟩
      rw [← nM (Tm.doms_ok hok d hd) (Nat.le_trans (zG2 hd) hl) nm]
      exact hx
    · rintro ⟨d,hd,hx⟩
      refine ⟨d,hd,?_⟩
      show xJ2 (vE d.bytes) nm=true
      rw [nM (Tm.doms_ok hok d hd) (Nat.le_trans (zG2 hd) hl) nm]
      exact hx
  have h4:yN t.bytes=t.targ.bytes:=by rw [yN,zY ⟨hok,rfl,hl⟩]
  unfold zS zG1
  rw [iP h1,h2,h3,h4]
  by_cases k1:xJ2 t.cnames nm=true
  · rw [iP k1,iP k1]
    by_cases k2:(t.doms.any fun d=>xJ2 d.cnames nm)=true
    · rw [iP k2,k2];simp
    · rw [iN k2]
      rw [Bool.not_eq_true] at k2
      rw [k2]
      simp
  · rw [iN k1,iN k1]
theorem yL3 {w:World} {sf nm:List UInt8} {v:Value}:∀ W,Below (w.alloc (.cells #[.string ⟨sf.toArray⟩,.string ⟨nm.toArray⟩,v] 274)).heap.size (w.alloc (.cells #[.string ⟨sf.toArray⟩,.string ⟨nm.toArray⟩,v] 274)) W ->
    W.cell? ⟨w.heap.size,0,none⟩=some (.string ⟨sf.toArray⟩)/\W.cell? ⟨w.heap.size,1,none⟩=some (.string ⟨nm.toArray⟩)/\W.cell? ⟨w.heap.size,2,none⟩=some v:=by
  intro W hb
  have h:=fun i=>hb.cell (p:=⟨w.heap.size,i,none⟩) (by simp)
  have k:=World.news_of_block (cs:=#[.string ⟨sf.toArray⟩,.string ⟨nm.toArray⟩,v]) (t:=274) (fr:=(0,0)) (heap_alloc_new w _)
  exact ⟨(h 0).trans (k 0 _ rfl),(h 1).trans (k 1 _ rfl),(h 2).trans (k 2 _ rfl)⟩
theorem zN6 {t:Tm} {v:Value} {w:World} (hr:yG w t v) (hc:t.cnames.length<=100000) (sf nm:List UInt8) :
    Rt 289 #[.agg #[.string ⟨sf.toArray⟩,.string ⟨nm.toArray⟩,v]] w (.bool (!xJ2 t.cnames nm)):=by
  have HB0:=Ld (zG w (.cells #[.string ⟨sf.toArray⟩,.string ⟨nm.toArray⟩,v] 274))
  have f1:=Ld (kX (hr.below HB0.out) hc ⟨nm.toArray⟩)
  simp only at f1
  obtain ⟨c0,c1,c2⟩:=yL3 (w:=w) (sf:=sf) (nm:=nm) (v:=v) _ (bR _ _)
  obtain ⟨T0,x0,rfl⟩:=hr.iface
  clear hr hc
  generalize xJ2 t.cnames nm=r at f1 |-
  go_enter Tryz.func289,Tryz.ntmps289
  go_wp2_with fail
  (with_reducible refine mo f1.out fun w1 hb=>?_)
  have HB1:=bt HB0.out hb
  clear hb
  go_wp2
  go_ret
  exact ⟨rfl,HB1.out⟩
theorem eG {t:Tm} {v:Value} {w:World} (hr:yG w t v) (hok:t.Ok) (hlen:t.bytes.length<=2000) (hv:Vars w) (sf nm:List UInt8) :
    Rt 290 #[.agg #[.string ⟨sf.toArray⟩,.string ⟨nm.toArray⟩,v]] w (.bool (zG1 t sf nm)):=by
  obtain ⟨T0,x0,rfl⟩:=hr.iface
  have HX0:=yL3 (w:=w) (sf:=sf) (nm:=nm) (v:=.iface T0 x0)
  have b1:=zG w (.cells #[.string ⟨sf.toArray⟩,.string ⟨nm.toArray⟩,.iface T0 x0] 274)
  have b2:=b1.alloc (by simp) (.cells #[.bool false] 4)
  have hB0:Below w.heap.size w (((w.alloc (.cells #[.string ⟨sf.toArray⟩,.string ⟨nm.toArray⟩,.iface T0 x0] 274)).alloc (.cells #[.bool false] 4)).alloc (.cells #[.iface T0 x0] 115)):=b2.alloc (by simp<;>omega) _
  have b0':Below (w.alloc (.cells #[.string ⟨sf.toArray⟩,.string ⟨nm.toArray⟩,.iface T0 x0] 274)).heap.size (w.alloc (.cells #[.string ⟨sf.toArray⟩,.string ⟨nm.toArray⟩,.iface T0 x0] 274)) (((w.alloc (.cells #[.string ⟨sf.toArray⟩,.string ⟨nm.toArray⟩,.iface T0 x0] 274)).alloc (.cells #[.bool false] 4)).alloc (.cells #[.iface T0 x0] 115)):=((bR _ _).alloc (nR _) _).alloc (by simp) _
  have hsz:(((w.alloc (.cells #[.string ⟨sf.toArray⟩,.string ⟨nm.toArray⟩,.iface T0 x0] 274)).alloc (.cells #[.bool false] 4)).alloc (.cells #[.iface T0 x0] 115)).heap.size=w.heap.size+3:=by simp
  obtain ⟨c0,c1,c2⟩:=HX0 _ (((bR _ _).alloc (nR _) (.cells #[.bool false] 4)))
  have HX:Hid (∀ W,Below (((w.alloc (.cells #[.string ⟨sf.toArray⟩,.string ⟨nm.toArray⟩,.iface T0 x0] 274)).alloc (.cells #[.bool false] 4)).alloc (.cells #[.iface T0 x0] 115)).heap.size (((w.alloc (.cells #[.string ⟨sf.toArray⟩,.string ⟨nm.toArray⟩,.iface T0 x0] 274)).alloc (.cells #[.bool false] 4)).alloc (.cells #[.iface T0 x0] 115)) W->W.cell? ⟨w.heap.size,0,none⟩=some (.string ⟨sf.toArray⟩)/\W.cell? ⟨w.heap.size,1,none⟩=some (.string ⟨nm.toArray⟩)/\W.cell? ⟨w.heap.size,2,none⟩=some (.iface T0 x0)):=fun W hW=>HX0 W (b0'.trans (hW.mono (by simp<;>omega)))
  have HbR0:Hid (Boxed (((w.alloc (.cells #[.string ⟨sf.toArray⟩,.string ⟨nm.toArray⟩,.iface T0 x0] 274)).alloc (.cells #[.bool false] 4)).alloc (.cells #[.iface T0 x0] 115)) (w.heap.size+1) 4 (.bool false)):=by
    have h1:=(Boxed.new (w.alloc (.cells #[.string ⟨sf.toArray⟩,.string ⟨nm.toArray⟩,.iface T0 x0] 274)) 4 (.bool false)).alloc (.cells #[.iface T0 x0] 115)
    rw [World.size_alloc] at h1
    exact h1
  have hbt:(((w.alloc (.cells #[.string ⟨sf.toArray⟩,.string ⟨nm.toArray⟩,.iface T0 x0] 274)).alloc (.cells #[.bool false] 4)).alloc (.cells #[.iface T0 x0] 115)).cell? ⟨w.heap.size+1+1,0,none⟩=some (.iface T0 x0):=by
    have h1:=Boxed.cell (Boxed.new ((w.alloc (.cells #[.string ⟨sf.toArray⟩,.string ⟨nm.toArray⟩,.iface T0 x0] 274)).alloc (.cells #[.bool false] 4)) 115 (.iface T0 x0))
    simp only [World.size_alloc] at h1
    exact h1
  have hrl:=hr.below hB0
  have hvl:=hv.below hB0
  have hcn:=t.cnames_len
  have hts:=t.size_le
  have hdl:=t.doms_len
  have HB0:=Ld hB0
  refine (callsIn_wide (n:=3)).1 ?_
  refine callsIn_of_wp_marks Tryz.func290 rfl trivial ?_ rfl
  simp only [Tryz.ntmps290,List.size_toArray,lC,List.length_nil,Nat.reduceAdd,Nat.reduceSub,Array.replicate_succ,Array.replicate_zero,List.push_toArray,List.append_toArray,List.nil_append,List.cons_append]
  gi_wp2_with ((try refine ⟨trivial,?_⟩);gi_at_call 190;refine (callsIn_wide.2 (sO T0 x0 _)).mono ?_;rintro e w' ⟨rfl,rfl⟩)
  refine wpIn_rangeFunc_ownF rfl (by omega) (gf:=227) (lb:=#[.pointer (some ⟨w.heap.size+1+1,0,none⟩)]) rfl trivial (enters_of Tryz.func227 (by kernel_rfl) rfl)
    (zZ4 Fence.wide _ (by omega) trivial rfl (w.heap.size+1+1) (.iface T0 x0) t (((w.alloc (.cells #[.string ⟨sf.toArray⟩,.string ⟨nm.toArray⟩,.iface T0 x0] 274)).alloc (.cells #[.bool false] 4)).alloc (.cells #[.iface T0 x0] 115)) (by rw [hsz];omega) hbt hrl hok hlen) belowK_t (belowK_b (nR _)) (bR _ _) (fun _=>rfl)
    (fun (pre:List (Pt (((w.alloc (.cells #[.string ⟨sf.toArray⟩,.string ⟨nm.toArray⟩,.iface T0 x0] 274)).alloc (.cells #[.bool false] 4)).alloc (.cells #[.iface T0 x0] 115)))) W=>(∀ y∈pre,xJ2 y.1.1.cnames nm=false)/\Below (((w.alloc (.cells #[.string ⟨sf.toArray⟩,.string ⟨nm.toArray⟩,.iface T0 x0] 274)).alloc (.cells #[.bool false] 4)).alloc (.cells #[.iface T0 x0] 115)).heap.size (((w.alloc (.cells #[.string ⟨sf.toArray⟩,.string ⟨nm.toArray⟩,.iface T0 x0] 274)).alloc (.cells #[.bool false] 4)).alloc (.cells #[.iface T0 x0] 115)) W)
    (fun c pre W=>(c=.ret/\(∃ y∈pre,xJ2 y.1.1.cnames nm=true)/\W.cell? ⟨w.heap.size+1,0,none⟩=some (.bool false))/\Below w.heap.size w W)
    (OwnFrom.and (Own.from (fun s A B row hs hg hr=>hs) _) (ownFrom_below (nR _) (nR _)))
    (fun c=>OwnFrom.and (Own.from (fun s A B row hs hg hr=>⟨hs.1,hs.2.1,cell_kept hs.2.2 hg hr⟩) _) (ownFrom_below (nR _) (by simp<;>omega)))
    ⟨by simp,bR _ _⟩
    (fun x=>{ tmps:=#[.agg #[.string ⟨sf.toArray⟩,.string ⟨nm.toArray⟩,.iface T0 x0],.pointer (some ⟨w.heap.size,0,none⟩),.pointer (some ⟨w.heap.size+1,0,none⟩),x.1.2,.pointer (some ⟨w.heap.size,2,none⟩),.iface T0 x0,.func (.func 227) #[] #[.pointer (some ⟨w.heap.size+1+1,0,none⟩)],x.1.2,undef,undef,undef,undef,undef,undef,undef,undef,undef,undef,undef],defers:=[] }) ?assign ?body ?done ?stop
  case assign =>
    intro l x W K hK
    gi_wp2
    exact hK
  case body =>
    rintro l pre ⟨⟨tm,tv⟩,hr1,hok1,hlen1⟩ W ⟨hp,hB⟩ hlt
    obtain ⟨T1,x1,rfl⟩:=yG.iface hr1
    have hlen2:tm.bytes.length<=2000:=hlen1
    have f1:=Ld (kX (yG.below hB hr1) (by have h1:=tm.cnames_len;have h2:=tm.size_le;show tm.cnames.length<=100000;omega) ⟨nm.toArray⟩)
    dsimp only at f1
    obtain ⟨d0,d1,d2⟩:=HX.out _ hB
    have bR0:Boxed W (w.heap.size+1) 4 (.bool false):=(hB.block _ HbR0.out.lt).trans HbR0.out
    by_cases hu:xJ2 tm.cnames nm=true
    · have f2:=f1
      rw [hu] at f2
      clear f1
      gi_wp2_with ((try refine ⟨trivial,?_⟩);gi_at_call 298;refine (CallsIn.inRound l (callsIn_wide.2 f2.out)).mono ?_;rintro e w1 ⟨rfl,hb1⟩;have bR1:Boxed w1 (w.heap.size+1) 4 (.bool false):=(hb1.block _ bR0.lt).trans bR0;have hc3:=Boxed.cell bR1;have hf3:=Boxed.frozen bR1)
      refine ⟨(KeepsOthers.of_grownBy (zC hb1 none) (fun j o e=>by cases e)).trans (KeepsOthers.setCell _ _ _),⟨rfl,⟨_,List.mem_append.2 (.inr (List.mem_singleton.2 rfl)),hu⟩,World.cell?_setCell_same' _ _ _ (by rw [hc3];rfl)⟩,?_⟩
      exact ((bu HB0.out hB).trans (hb1.mono (bu HB0.out hB).size)).setCell (p:=⟨w.heap.size+1,0,none⟩) (by simp) _
    · rw [Bool.not_eq_true] at hu
      have f2:=f1
      rw [hu] at f2
      clear f1
      gi_wp2_with ((try refine ⟨trivial,?_⟩);gi_at_call 298;refine (CallsIn.inRound l (callsIn_wide.2 f2.out)).mono ?_;rintro e w1 ⟨rfl,hb1⟩)
      refine ⟨KeepsOthers.of_grownBy (zC hb1 none) (fun j o e=>by cases e),hb1.mono hB.size,fun y hy=>(List.mem_append.1 hy).elim (hp y) (fun e=>by rw [List.mem_singleton.1 e];exact hu),hB.trans (hb1.mono hB.size)⟩
  case done =>
    rintro D ys W hD hys ⟨hne,hB⟩ hK
    have hany:(t.doms.any fun d=>xJ2 d.cnames nm)=false:=by
      rw [← hys,List.any_eq_false]
      intro d hd
      obtain ⟨y,hy,rfl⟩:=List.mem_map.1 hd
      rw [hne y hy]
      decide
    obtain ⟨r,hrr⟩:∃ r,(t.targ.bytes == sf)=r:=⟨_,rfl⟩
    have HE:Hid (Ending.returned (.bool r)=.returned (.bool (zG1 t sf nm))):=by
      rw [Hid,zG1,hany,← hrr]
      rw [show (t.targ.bytes == sf)=decide (t.targ.bytes=sf) by rw [Bool.eq_iff_iff,beq_iff_eq,decide_eq_true_eq],Bool.not_false,Bool.true_and]
    have hBd:Below (((w.alloc (.cells #[.string ⟨sf.toArray⟩,.string ⟨nm.toArray⟩,.iface T0 x0] 274)).alloc (.cells #[.bool false] 4)).alloc (.cells #[.iface T0 x0] 115)).heap.size (((w.alloc (.cells #[.string ⟨sf.toArray⟩,.string ⟨nm.toArray⟩,.iface T0 x0] 274)).alloc (.cells #[.bool false] 4)).alloc (.cells #[.iface T0 x0] 115)) W.drew:=hB.drew
    have HBd:=Ld hBd
    have hDlt:D < W.drew.heap.size:=(Array.getElem?_eq_some_iff.1 hK).1
    have hKd:W.drew.heap[D]?=some (.deferred (some [])):=hK
    have hrd:=yG.below hBd hrl
    have f2:=Ld (gB hrd)
    have F3:=Ld fun v' (h:yG W.drew t.targ v')=>pG (hvl.below hBd) (Tm.targ_ok hok).lim9 h (by have:=t.targ_len;omega)
    have HbR:Hid (Boxed W.drew (w.heap.size+1) 4 (.bool false)):=(hBd.block _ HbR0.out.lt).trans HbR0.out
    obtain ⟨q0,q1,q2⟩:=HX.out _ hBd
    have hmx:Tryz.prog.follows .mixedOrders=true:=by kernel_rfl
    have hD3:w.heap.size<=D:=by rw [hsz] at hD;omega
    clear hne hys hany hrl hvl hr hv c0 c1 c2 hbt b0' b1 b2 hB0 HX0
    gi_wp2
    refine wpIn_region_any hmx ?_
    change wpAnyIn _ _ _ _ _ _ 8 #[false,false,false,false,false,false,false,false] _ W.drew
    iterate 8 (all_goals (
      (first
        | refine wpAnyIn_ready (rs:=[0,4]) (by decide +kernel) (by simp) ?_
        | refine wpAnyIn_ready (rs:=[1,4]) (by decide +kernel) (by simp) ?_
        | refine wpAnyIn_ready (rs:=[2,4]) (by decide +kernel) (by simp) ?_
        | refine wpAnyIn_ready (rs:=[3,4]) (by decide +kernel) (by simp) ?_
        | refine wpAnyIn_ready (rs:=[4]) (by decide +kernel) (by simp) ?_
        | refine wpAnyIn_ready (rs:=[5]) (by decide +kernel) (by simp) ?_
        | refine wpAnyIn_ready (rs:=[6]) (by decide +kernel) (by simp) ?_
        | refine wpAnyIn_ready (rs:=[7]) (by decide +kernel) (by simp) ?_
        | refine wpAnyIn_ready (rs:=[3,5]) (by decide +kernel) (by simp) ?_
        | refine wpAnyIn_ready (rs:=[3]) (by decide +kernel) (by simp) ?_
        | refine wpAnyIn_ready (rs:=[2,5]) (by decide +kernel) (by simp) ?_
        | refine wpAnyIn_ready (rs:=[2]) (by decide +kernel) (by simp) ?_
        | refine wpAnyIn_ready (rs:=[1,5]) (by decide +kernel) (by simp) ?_
        | refine wpAnyIn_ready (rs:=[1]) (by decide +kernel) (by simp) ?_
        | refine wpAnyIn_ready (rs:=[0,5]) (by decide +kernel) (by simp) ?_
        | refine wpAnyIn_ready (rs:=[0]) (by decide +kernel) (by simp) ?_)
      (first | refine AllReadyIn.cons rfl (fun K hK=>?_) (AllReadyIn.cons rfl (fun K hK=>?_) AllReadyIn.nil) | refine AllReadyIn.cons rfl (fun K hK=>?_) AllReadyIn.nil)
      all_goals (
        rw [iP (by rfl)]
        go_simp
        first
          | (refine hK _ _ ?_;clear hK K)
          | (refine ⟨trivial,?_⟩
             gi_at_call 243
             refine (callsIn_wide.2 f2.out).mono ?_
             rintro e w2 ⟨rfl,v2,rfl,hr2⟩
             have f3:=Ld (F3.out v2 hr2)
             obtain ⟨T2,x2,rfl⟩:=hr2.iface
             refine hK _ _ ?_;clear hK K)
          | (refine ⟨trivial,?_⟩
             gi_at_call 130
             refine (callsIn_wide.2 f3.out).mono ?_
             rintro e w3 ⟨rfl,hb3⟩
             have hB3:Below (((w.alloc (.cells #[.string ⟨sf.toArray⟩,.string ⟨nm.toArray⟩,.iface T0 x0] 274)).alloc (.cells #[.bool false] 4)).alloc (.cells #[.iface T0 x0] 115)).heap.size (((w.alloc (.cells #[.string ⟨sf.toArray⟩,.string ⟨nm.toArray⟩,.iface T0 x0] 274)).alloc (.cells #[.bool false] 4)).alloc (.cells #[.iface T0 x0] 115)) w3:=HBd.out.trans (hb3.mono HBd.out.size)
             obtain ⟨d0,d1,d2⟩:=HX.out _ hB3
             have bR3:=(hb3.block _ HbR.out.lt).trans HbR.out
             have hc3:=Boxed.cell bR3
             have hf3:=Boxed.frozen bR3
             have hK3:=(hb3.block _ hDlt).trans hKd
             have HBw3:=bt HB0.out hB3
             refine hK _ _ ?_;clear hK K))))
    all_goals (
      have hK':=(KeepsOthers.setCell w3 ⟨w.heap.size+1,0,none⟩ (.bool r)).same D _ hK3 rfl
      have hK2:=hK'
      have hc5:=cell_kept (World.cell?_setCell_same' w3 ⟨w.heap.size+1,0,none⟩ (.bool r) (by rw [hc3];rfl)) (grownBy_putObj' _ D (.deferred none)) (fun r e=>by cases e;exact ⟨_,hK',rfl⟩)
      have HBF:=Ld ((HBw3.out.setCell (p:=⟨w.heap.size+1,0,none⟩) (by simp) (.bool r)).trans (belowK_b (w:=w) (nR _) _ D (.deferred (some [])) (.deferred none) hD3 hK' rfl rfl))
      refine wpAnyIn_done (by kernel_rfl) ?_ _
      gi_wp2
      refine ⟨by simp,.inl ⟨_,_,rfl,run_takeDeferred hK2,?_⟩⟩
      exact ⟨_,by simp [results,Tryz.f290,go_sem,hc5],HE.out,HBF.out⟩)
  case stop =>
    rintro D c pre W hD hpre ⟨⟨rfl,hin,hcr⟩,hB⟩ hK
    gi_wp2
    refine ⟨by simp,.inl ⟨_,_,rfl,run_takeDeferred hK,?_⟩⟩
    have hc5:=cell_kept hcr (grownBy_putObj' _ D (.deferred none)) (fun r e=>by cases e;exact ⟨_,hK,rfl⟩)
    refine ⟨.bool false,?_,?_,hB.trans (belowK_b (w:=w) (nR _) W D _ _ (by rw [hsz] at hD;omega) hK rfl rfl)⟩
    · simp [results,Tryz.f290,go_sem,hc5]
    · obtain ⟨y,hy,hyn⟩:=hin
      have hany:(t.doms.any fun d=>xJ2 d.cnames nm)=true:=List.any_eq_true.2 ⟨y.1.1,hpre.subset (List.mem_map.2 ⟨y,hy,rfl⟩),hyn⟩
      rw [zG1,hany]
      rfl
end Go.Proofs.YtcaahdjhbmmcnaaGreatDoor
namespace Go.Proofs.YtcaahdjhbmmcnaaGreatDoor
open Go.ChangeShapes Go.WideShapes Go.ChangeAt Go.RowKit
theorem zU8{P:Program}{w:World}{a:Addr}{m:Mode}(fn:Fn)(first captured:Array Value):(store a (.func fn first captured) m).run P w=stored P w a (.func fn first captured) m:=run_store P w a _ m rfl
attribute [local go_sem] zU8
theorem fY(w:World) :
  Calls Tryz.prog 275 #[] w fun e w'=>e=.returned (.slice (some ⟨w.heap.size,0,none⟩) 2 2)/\w'=w.alloc (.cells #[.int .i64 0,.func (.func 289) #[] #[],.int .i64 1,.func (.func 290) #[] #[]] 290):=by
 go_enter Tryz.func275,Tryz.ntmps275;go_wp2;go_ret;exact⟨rfl,rfl⟩
theorem yH1{t:Tm}{v:Value}{w:World}(hr:yG w t v)(hok:t.Ok)(hlen:t.bytes.length<=2000)(hv:Vars w)(sf nm:List UInt8) :
  Rt 260 #[.agg #[.string ⟨sf.toArray⟩,.string ⟨nm.toArray⟩,v]] w (.int .i64 (if xJ2 t.cnames nm=true then (if zG1 t sf nm=true then 1 else 2) else 0)):=by
 obtain⟨W0,hW0⟩:∃ W0,w.alloc (.cells #[.string ⟨sf.toArray⟩,.string ⟨nm.toArray⟩,v] 274)=W0:=⟨_,rfl⟩;have HX:Hid (∀ W,Below W0.heap.size W0 W->W.cell? ⟨w.heap.size,0,none⟩=some (.string ⟨sf.toArray⟩)/\W.cell? ⟨w.heap.size,1,none⟩=some (.string ⟨nm.toArray⟩)/\W.cell? ⟨w.heap.size,2,none⟩=some v):=by
  rw[Hid,← hW0];exact yL3
 have HB0:Hid (Below w.heap.size w W0):=by rw[Hid,← hW0];exact zG _ _
 obtain⟨W1,hW1⟩:∃ W1,W0.alloc (.cells #[.int .i64 0,.func (.func 289) #[] #[],.int .i64 1,.func (.func 290) #[] #[]] 290)=W1:=⟨_,rfl⟩;have hk:Below W0.heap.size W0 W1:=by rw[← hW1];exact zG _ _
 have HK:=Ld hk;have HXR:Hid (∀ W,Below W1.heap.size W1 W->W.cell? ⟨W0.heap.size,0,none⟩=some (.int .i64 0)/\W.cell? ⟨W0.heap.size,1,none⟩=some (.func (.func 289) #[] #[])/\W.cell? ⟨W0.heap.size,2,none⟩=some (.int .i64 1)/\W.cell? ⟨W0.heap.size,3,none⟩=some (.func (.func 290) #[] #[])):=by
  intro W hW;rw[← hW1] at hW;have h:=fun i=>hW.cell (p:=⟨W0.heap.size,i,none⟩) (by simp);have k:=World.news_of_block (cs:=#[.int .i64 0,.func (.func 289) #[] #[],.int .i64 1,.func (.func 290) #[] #[]]) (t:=290) (fr:=(0,0)) (heap_alloc_new W0 _);exact⟨(h 0).trans (k 0 _ rfl),(h 1).trans (k 1 _ rfl),(h 2).trans (k 2 _ rfl),(h 3).trans (k 3 _ rfl)⟩
 have f0:Hid (Calls Tryz.prog 275 #[] W0 fun e w'=>e=.returned (.slice (some ⟨W0.heap.size,0,none⟩) 2 2)/\W1=w'):=(fY W0).mono fun e w' h=>⟨h.1,hW1.symm.trans h.2.symm⟩;have e1:=enters_of Tryz.func289 (by kernel_rfl) rfl;have e2:=enters_of Tryz.func290 (by kernel_rfl) rfl;have HR:=Ld hr;have hcl:t.cnames.length<=100000:=by have h1:=t.cnames_len;have h2:=t.size_le;omega
 have F1:=Ld fun (W:World) (hW:Below w.heap.size w W)=>zN6 (hr.below hW) hcl sf nm;have F2:=Ld fun (W:World) (hW:Below w.heap.size w W)=>eG (hr.below hW) hok hlen (hv.below hW) sf nm;obtain⟨T0,x0,rfl⟩:=hr.iface;clear hr hok hlen hv hcl hk;generalize xJ2 t.cnames nm=b1 at F1 |-;generalize zG1 t sf nm=b2 at F2 |-;obtain⟨r,hrv⟩:∃ r:Int,(if b1=true then (if b2=true then (1:Int) else 2) else 0)=r:=⟨_,rfl⟩;rw[hrv];have HVr:=Ld hrv;clear hrv;go_enter Tryz.func260,Tryz.ntmps260;go_wp2_with fail;(with_reducible refine mo f0.out ?_);rintro w' rfl;have hz1:W1.heap.size=W0.heap.size+1:=by rw[← hW1];simp
 have hz0:W0.heap.size=w.heap.size+1:=by rw[← hW0];simp
 have hbx:w.heap.size<W0.heap.size:=by omega
 have hbr:W0.heap.size<W1.heap.size:=by omega
 clear hz1 hz0 hW0 hW1 f0;go_wp2;go_loopw [7] (fun i wr=>(i=.int .i64 0\/(i=.int .i64 1/\Hid (b1=true))\/(i=.int .i64 2/\Hid (b1=true/\b2=false)))/\Hid (Below W1.heap.size W1 wr)) (fun i _=>2 - (intOf i).toNat)
 case atStart=>exact⟨.inl rfl,bR _ _⟩
 case round =>
  obtain⟨hi,HW⟩:=hrel;obtain⟨r0,r1,r2,r3⟩:=HXR.out _ HW.out;have HW0:=Ld (HK.out.trans (HW.out.mono HK.out.size));have HWw:=Ld (HB0.out.trans (HW0.out.mono HB0.out.size));have hzr:=HW.out.size;rcases hi with rfl|⟨rfl,HB⟩|⟨rfl,HB⟩
  ·have ha:=zG wr (.cells #[.int .i64 0,.func (.func 289) #[] #[]] 290);have HWk:=Ld (HW.out.trans (ha.mono hzr));obtain⟨d0,d1,d2⟩:=HX.out _ (bu HW0.out ha);have k:=World.news_of_block (cs:=#[.int .i64 0,.func (.func 289) #[] #[]]) (t:=290) (fr:=(0,0)) (heap_alloc_new wr _);have m0:=k 0 _ rfl;have m1:=k 1 _ rfl;have f1:=Ld (F1.out _ (bu HWw.out ha));have hzk:wr.heap.size<(wr.alloc (.cells #[.int .i64 0,.func (.func 289) #[] #[]] 290)).heap.size:=(by simp);clear ha k;go_wp2_with fail;(with_reducible refine mo f1.out fun w3 hb3=>?_);have m3:=(hb3.cell (p:=⟨wr.heap.size,0,none⟩) hzk).trans m0;have HW3:=bt HWk.out hb3;have HF3:=Ld (HB0.out.trans ((HK.out.trans (HW3.out.mono HK.out.size)).mono HB0.out.size));clear hb3 f1 m0 m1 d0 d1 d2;cases b1
   ·have HE:Hid (r=0):=(by rw[Hid,← HVr.out];rfl);go_wp2;go_ret;rw[HE.out];exact⟨rfl,HF3.out⟩
   ·go_wp2;go_roundw
    case rel=>exact⟨.inr (.inl ⟨rfl,trivial⟩),HW3.out⟩
    case measure=>simp[intOf]
  ·have ha:=zG wr (.cells #[.int .i64 1,.func (.func 290) #[] #[]] 290);have HWk:=Ld (HW.out.trans (ha.mono hzr));obtain⟨d0,d1,d2⟩:=HX.out _ (bu HW0.out ha);have k:=World.news_of_block (cs:=#[.int .i64 1,.func (.func 290) #[] #[]]) (t:=290) (fr:=(0,0)) (heap_alloc_new wr _);have m0:=k 0 _ rfl;have m1:=k 1 _ rfl;have f1:=Ld (F2.out _ (bu HWw.out ha));have hzk:wr.heap.size<(wr.alloc (.cells #[.int .i64 1,.func (.func 290) #[] #[]] 290)).heap.size:=(by simp);clear ha k;go_wp2_with fail;(with_reducible refine mo f1.out fun w3 hb3=>?_);have m3:=(hb3.cell (p:=⟨wr.heap.size,0,none⟩) hzk).trans m0;have HW3:=bt HWk.out hb3;have HF3:=Ld (HB0.out.trans ((HK.out.trans (HW3.out.mono HK.out.size)).mono HB0.out.size));clear hb3 f1 m0 m1 d0 d1 d2;cases b2
   ·go_wp2;go_roundw
    case rel=>exact⟨.inr (.inr ⟨rfl,HB.out,trivial⟩),HW3.out⟩
    case measure=>simp[intOf]
   ·have HE:Hid (r=1):=(by rw[Hid,← HVr.out,HB.out];rfl);go_wp2;go_ret;rw[HE.out];exact⟨rfl,HF3.out⟩
  ·have HE:Hid (r=2):=(by rw[Hid,← HVr.out,HB.out.1,HB.out.2];rfl);clear F1 F2 HXR HX HK HB0 r0 r1 r2 r3;go_wp2;go_ret;rw[HE.out];exact⟨rfl,HWw.out⟩
theorem zE5(sf nm dm:List UInt8)(w:World)(hv:Vars w)(hd:dm.length<=maxLen) :
  Rt 242 #[.string ⟨sf.toArray⟩,.string ⟨nm.toArray⟩,.string ⟨dm.toArray⟩] w (.int .i64 (zS sf nm dm)):=by
 have f1:=Ld (xH ⟨dm.toArray⟩ w hv (by rw[zO];exact hd));unfold fB at f1;simp only at f1;have HV:=Ld hv;have HNo:=Ld fun h=>gZ (self:=sf) (name:=nm) (dom:=dm) h;have HYes:=Ld fun t h=>aB (sf:=sf) (nm:=nm) (dm:=dm) (t:=t) h;generalize zS sf nm dm=r at HNo HYes |-;clear hv hd;go_enter Tryz.func242,Tryz.ntmps242;go_wp2_with fail;(with_reducible refine f1.out.mono ?_);rintro e w1 ⟨hb,⟨t,v,ht,rfl,hr⟩|⟨hno,rfl⟩⟩;rotate_left
 ·have HE:Hid (r=2):=HNo.out (by rw[yB,yR hno];rfl);have HB:=Ld hb;clear hno hb f1;go_wp2;go_ret;rw[HE.out];exact⟨rfl,HB.out⟩
 have HE:=Ld (HYes.out t ht);have hle:=ht.2.2;rw[← ht.2.1] at hle;have HB:=Ld hb;have f2:=Ld (yH1 hr ht.1 hle (HV.out.below hb) sf nm);rw[← HE.out] at f2;obtain⟨T0,x0,rfl⟩:=hr.iface;clear hb ht hr hle f1 HV HNo HYes HE;go_wp2_with fail;(with_reducible refine mo f2.out fun w2 hb2=>?_);have HB2:=bt HB.out hb2;clear hb2 f2;go_wp2;go_ret;exact⟨rfl,HB2.out⟩
theorem zD7(ct sf nm:List UInt8)(w:World)(hv:Vars w)(hc:ct.length<=maxLen) :
  Calls Tryz.prog 219 #[.string ⟨ct.toArray⟩,.string ⟨sf.toArray⟩,.string ⟨nm.toArray⟩] w (xC6 ((zJ ct).map fun x=>zS sf nm x) w):=by
 obtain⟨i0,hi,hz0,hz1,hz2⟩:=info_parts hZ;have f1:=Ld (zN7 ⟨ct.toArray⟩ w hv (by rw[zO];exact hc));simp only at f1;unfold oS at f1;have hln:=vP ct;have HSh:=Ld (uC ct);have HV:=Ld hv;generalize zJ ct=l at f1 hln HSh |-;clear hv hc;go_enter Tryz.func219,Tryz.ntmps219;go_wp2_with fail;(with_reducible refine f1.out.mono ?_);rintro e w1 ⟨u,rfl,hu,hb⟩;obtain⟨ua,uc,rfl⟩:=zP hu;have HL1:=Ld hu;have HB1:=Ld hb;clear hu hb f1;go_wp2;go_loopw [7,13] (fun o i wr=>∃ (m:Nat) (oo:Value),m<=l.length/\i=.int .i64 m/\oo=o/\Hid (wr.ownsRow w.heap.size 3 1 oo m ((l.take m).map fun x=>iv (zS sf nm x)))/\Hid (wr.ownsRow w.heap.size 9 1 (.slice ua l.length uc) l.length (l.map sv))/\Hid (Below w.heap.size w wr)) (fun _ i _=>l.length - (intOf i).toNat)
 case atStart=>exact⟨0,_,Nat.zero_le _,rfl,rfl,World.ownsRow_nil _ _ _ _,HL1.out,HB1.out⟩
 case round =>
  obtain⟨m,oo,hm,rfl,rfl,HO,HL,HW⟩:=hrel;clear HL1 HB1;by_cases hlt:m<l.length;rotate_left
  ·obtain rfl:m=l.length:=(by omega);have HRf:Hid (wr.ownsRow w.heap.size 3 1 oo (l.map fun x=>zS sf nm x).length ((l.map fun x=>zS sf nm x).map iv)):=by
    have h1:=HO.out;rw[List.take_length] at h1;rw[Hid,List.length_map,List.map_map];exact h1
   clear HL HO;go_wp2;go_ret;exact⟨_,rfl,HRf.out,HW.out⟩
  obtain⟨g2,cap2,eg2,_,hg2⟩:=HL.out.form (by omega);cases eg2;have cc:=HL.out.cellAt m (by omega);have ex:(l.map sv)[m]?=some (sv l[m]):=(by simp[hlt]);rw[ex] at cc;unfold sv at cc;have p1:=zn m;have p2:(m:Int)<(l.length:Int):=(by omega);have HT:Hid ((l.take (m+1)).map (fun x=>iv (zS sf nm x))=(l.take m).map (fun x=>iv (zS sf nm x))++[iv (zS sf nm l[m])]):=by
   rw[Hid,List.take_succ_eq_append_getElem hlt,List.map_append];rfl
  have hxl:=HSh.out _ (List.getElem_mem hlt);clear ex;generalize l[m]=x at cc HT hxl;have f6:=Ld (zE5 sf nm x wr (HV.out.below HW.out) (by unfold maxLen;omega));generalize zS sf nm x=r at f6 HT;go_wp2_with fail;(with_reducible refine mo f6.out fun w6 hb6=>?_);have HW6:=bt HW.out hb6;have HO6:=Ld (zA HO.out hb6);have HL6:=Ld (zA HL.out hb6);have hz6:=HW6.out.size;clear hb6 f6 HO HL cc;go_wp2_with (at_builtin;refine wpList_append_own _ rfl _ _ 147 rfl w.heap.size 3 i0 _ 1 8 Tryz.underlying147 hi hz0 hz1 hz2 rfl (by decide) _ _ _ rfl (HO6.out.alloc _) ⟨w6.heap.size,0,none⟩ 1 1 [.int .i64 r] rfl rfl (yI _ _ _) (by simp[Value.oneCell']) (by simp only[maxLen];omega) (by omega) (by simp;omega) ?_;intro v7 w7 hown7 hgrow7 hnil7);have HL7:=Ld (sZ (HL6.out.alloc _) (HO6.out.alloc _) (by decide) hgrow7);have HW7:Hid (Below w.heap.size w w7):=(HW6.out.alloc hz6 _).grown hgrow7 (by simp;omega) (fun q hq=>(HO6.out.lt q hq).1);have HO7:Hid (w7.ownsRow w.heap.size 3 1 v7 (m+1) ((l.take (m+1)).map fun x=>iv (zS sf nm x))):=by
   rw[Hid,HT.out];exact hown7
  clear hown7 hgrow7 HO6 HL6 HW6;go_wp2;go_roundw
  case rel=>exact⟨m+1,_,by omega,by go_num,rfl,HO7.out,HL7.out,HW7.out⟩
  case measure=>simp[intOf];omega
end Go.Proofs.YtcaahdjhbmmcnaaGreatDoor
