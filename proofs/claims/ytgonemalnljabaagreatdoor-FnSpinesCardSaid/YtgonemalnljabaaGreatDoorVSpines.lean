/- Spines -/
import Derived.Test.YtgonemalnljabaaGreatDoorVE1
import Derived.Test.YtgonemalnljabaaGreatDoorVSpMath
import Derived.Test.YtgonemalnljabaaGreatDoorVAppR
import Derived.Test.YtgonemalnljabaaGreatDoorVJF1
set_option maxRecDepth 100000
set_option maxHeartbeats 16000000
set_option linter.unusedSimpArgs false
set_option linter.unusedVariables false
namespace Go.Proofs.YtgonemalnljabaaGreatDoor
open Go.ChangeShapes Go.WideShapes Go.ChangeAt Go.RowKit
theorem resRow {r:List (List UInt8)} {n:Nat} (hr:r.length=n) {f:FuncId} {args:Array Value} {W:World} (h:Calls Tryz.prog f args W (LRes' r W)) :
  Calls Tryz.prog f args W fun e w'=>∃ a c,e=.returned (.slice a n c)∧w'.ownsRow W.heap.size 9 1 (.slice a n c) r.length (r.map sv)∧Below W.heap.size W w':=by
 refine h.mono ?_
 rintro e w' ⟨v,rfl,ho,hb⟩
 obtain ⟨a,c,rfl⟩:=own_sliceV ho
 rw [← hr]
 exact ⟨a,c,rfl,ho,hb⟩
theorem lawSpines {v:Value} {l:List UInt8} (w:World) (hl:CameB w v l) (hm:l.length≤maxLen)
  (hHead:∀ (s:ByteArray),s.size≤1048576→∀ W,Below w.heap.size w W→Calls Tryz.prog 18 #[.string s] W fun e w'=>e=.returned (.string ⟨(headOf s.data.toList).toArray⟩)∧Below W.heap.size W w')
  (hArgs:∀ (s:ByteArray),s.size≤1048576→∀ W,Below w.heap.size w W→Calls Tryz.prog 19 #[.string s] W (LRes' (argsOf s.data.toList) W))
  (hDoms:∀ (s:ByteArray),s.size≤1048576→∀ W,Below w.heap.size w W→Calls Tryz.prog 21 #[.string s] W (LRes' (domainsOf s.data.toList) W))
  (hTarg:∀ (s:ByteArray),s.size≤1048576→∀ W,Below w.heap.size w W→Calls Tryz.prog 22 #[.string s] W fun e w'=>e=.returned (.string ⟨(targetOf s.data.toList).toArray⟩)∧Below W.heap.size W w')
  (hGiv:∀ (s:ByteArray) (us:List (List UInt8)),s.size≤1048576→us.length≤1048576→(∀ x∈us,x.length≤1048576)→∀ (W:World) (b:Nat) (u:Value),Below w.heap.size w W→W.ownsRow b 9 1 u us.length (us.map sv)→Calls Tryz.prog 17 #[.string s,u] W fun e w'=>e=.returned (putRes (givenOf s.data.toList us))∧Below W.heap.size W w')
  (hArr:∀ (s:ByteArray) (us:List (List UInt8)),s.size≤1048576→us.length≤1048576→(∀ x∈us,x.length≤1048576)→∀ (W:World) (b:Nat) (u:Value),Below w.heap.size w W→W.ownsRow b 9 1 u us.length (us.map sv)→Calls Tryz.prog 20 #[u,.string s] W fun e w'=>e=.returned (putRes (arrowsOf us s.data.toList))∧Below W.heap.size W w')
  (hUses:∀ (s:ByteArray),s.size≤1048576→∀ W,Below w.heap.size w W→Calls Tryz.prog 23 #[.string s] W (LRes' (usesIn s.data.toList) W))
  (hNs:∀ (us:List (List UInt8)),us.length≤1048576→(∀ x∈us,x.length≤1048576)→∀ (W:World) (b:Nat) (u:Value),Below w.heap.size w W→W.ownsRow b 9 1 u us.length (us.map sv)→Calls Tryz.prog 24 #[u] W fun e w'=>e=.returned (.bool (namesOk us))∧Below W.heap.size W w')
  (hHas:∀ (s y:ByteArray),s.size≤1048576→y.size≤1048576→∀ W,Below w.heap.size w W→Calls Tryz.prog 25 #[.string s,.string y] W fun e w'=>e=.returned (.bool (inL (usesIn s.data.toList) y.data.toList))∧Below W.heap.size W w') :
  Calls Tryz.prog 3 #[v] w fun e w'=>e=.returned (.bool true)∧Below w.heap.size w w':=by
 have f0:=Ld (bigB hl hm)
 by_cases hbig:1048576 < l.length
 ·rw [decide_eq_true hbig] at f0
  obtain ⟨a0,cap,_,_,rfl,_⟩:=hl
  clear hHead hArgs hDoms hTarg hGiv hArr hUses hNs hHas
  go_enter Tryz.func3,Tryz.ntmps3
  go_wp2_with fail
  (with_reducible refine f0.out.mono ?_);rintro e w1 ⟨rfl,rfl⟩
  go_wp2
  go_ret
  exact ⟨rfl,Below.refl _ _⟩
 rw [decide_eq_false hbig] at f0
 have f1:=Ld (drawTermTopD hl (by omega))
 have f2:=Ld fun W (hb:Below w.heap.size w W)=>drawList (hl.below hb) (by omega)
 have gHead:=Ld hHead
 have gArgs:=Ld hArgs
 have gDoms:=Ld hDoms
 have gTarg:=Ld hTarg
 have gGiv:=Ld hGiv
 have gArr:=Ld hArr
 have gUses:=Ld hUses
 have gNs:=Ld hNs
 have gHas:=Ld hHas
 clear hHead hArgs hDoms hTarg hGiv hArr hUses hNs hHas
 obtain ⟨a0,cap,_,_,rfl,_⟩:=hl
 go_enter Tryz.func3,Tryz.ntmps3
 go_wp2_with fail
 (with_reducible refine f0.out.mono ?_);rintro e w1 ⟨rfl,rfl⟩
 go_wp2_with fail
 (with_reducible refine f1.out.mono ?_);rintro e w2 ⟨⟨T,hT,hD,hTl,rfl⟩,B2⟩
 go_wp2_with fail
 (with_reducible refine (f2.out _ B2).mono ?_);rintro e w3 ⟨vl,ts,ht3,hts,rfl,hrowL,hb3⟩
 have B3:=B2.trans (hb3.mono B2.size)
 clear hb3 f0 f1 f2
 have hG:(T.given ts).Ok:=given_ok ts T hT fun a ha=>(hts a ha).1
 have hV:(Tm.arrows ts T).Ok:=arrows_ok ts T hT fun a ha=>(hts a ha).1
 have hcat:=catB_le fun a ha=>(hts a ha).2.2
 have hc3:ts.length*274≤3*274:=Nat.mul_le_mul_right _ ht3
 have hGl:(T.given ts).bytes.length≤1700:=by rw [given_bytes];simp;omega
 have hVl:(Tm.arrows ts T).bytes.length≤1700:=by rw [arrows_bytes,List.length_append,catP_len];omega
 have zT:(⟨T.bytes.toArray⟩:ByteArray).size≤1048576:=by show T.bytes.length≤_;omega
 have zG:(⟨(T.given ts).bytes.toArray⟩:ByteArray).size≤1048576:=by show (T.given ts).bytes.length≤_;omega
 have zV:(⟨(Tm.arrows ts T).bytes.toArray⟩:ByteArray).size≤1048576:=by show (Tm.arrows ts T).bytes.length≤_;omega
 have zH:(⟨T.head.bytes.toArray⟩:ByteArray).size≤1048576:=by have:=T.head_len;show T.head.bytes.length≤_;omega
 have zU:(⟨T.targ.bytes.toArray⟩:ByteArray).size≤1048576:=by have:=T.targ_len;show T.targ.bytes.length≤_;omega
 have hszl:=T.size_le
 have hal:=T.args_len
 have hdl:=T.doms_len
 have hcl:=T.cnames_len
 have hsr:=srt_spec _ T.cnames (Nat.le_refl _)
 have hno:∀ x∈srt T.cnames,nameOk x=true∧x.length≤8:=fun x hx=>theNames_ok x (names_drawn hD x ((hsr.2.1 x).1 hx))
 have hnn:inL (srt T.cnames) [110,111,110,101]=false:=by
  simp only [inL,decide_eq_false_iff_not]
  exact fun h=>none_not (names_drawn hD _ ((hsr.2.1 _).1 h))
 have partA:∀ a∈T.args,a.bytes.length≤1000:=fun a ha=>by have:=catB_len T.args a ha;have h2:=congrArg List.length (head_args T);simp at h2;omega
 have partD:∀ a∈T.doms,a.bytes.length≤1000:=fun a ha=>by have:=catB_len T.doms a ha;have h2:=congrArg List.length (doms_targ T);rw [List.length_append,catP_len] at h2;omega
 have cut:∀ s:List UInt8,(ByteArray.data ⟨s.toArray⟩).toList=s:=fun s=>rfl
 have fHeadT:Hid (∀ W,Below w1.heap.size w1 W→Calls Tryz.prog 18 #[.string ⟨T.bytes.toArray⟩] W fun e w'=>e=.returned (.string ⟨T.head.bytes.toArray⟩)∧Below W.heap.size W w'):=fun W hb=>by
  have:=gHead.out ⟨T.bytes.toArray⟩ zT W hb
  rw [cut,headOf_own hT (by omega)] at this
  exact this
 have fHeadG:Hid (∀ W,Below w1.heap.size w1 W→Calls Tryz.prog 18 #[.string ⟨(T.given ts).bytes.toArray⟩] W fun e w'=>e=.returned (.string ⟨T.head.bytes.toArray⟩)∧Below W.heap.size W w'):=fun W hb=>by
  have:=gHead.out ⟨(T.given ts).bytes.toArray⟩ zG W hb
  rw [cut,headOf_own hG (by omega),given_head] at this
  exact this
 have fTargT:Hid (∀ W,Below w1.heap.size w1 W→Calls Tryz.prog 22 #[.string ⟨T.bytes.toArray⟩] W fun e w'=>e=.returned (.string ⟨T.targ.bytes.toArray⟩)∧Below W.heap.size W w'):=fun W hb=>by
  have:=gTarg.out ⟨T.bytes.toArray⟩ zT W hb
  rw [cut,targetOf_own hT (by omega)] at this
  exact this
 have fTargV:Hid (∀ W,Below w1.heap.size w1 W→Calls Tryz.prog 22 #[.string ⟨(Tm.arrows ts T).bytes.toArray⟩] W fun e w'=>e=.returned (.string ⟨T.targ.bytes.toArray⟩)∧Below W.heap.size W w'):=fun W hb=>by
  have:=gTarg.out ⟨(Tm.arrows ts T).bytes.toArray⟩ zV W hb
  rw [cut,targetOf_own hV (by omega),arrows_targ] at this
  exact this
 have fArgsT:Hid (∀ W,Below w1.heap.size w1 W→Calls Tryz.prog 19 #[.string ⟨T.bytes.toArray⟩] W fun e w'=>∃ a c,e=.returned (.slice a T.args.length c)∧w'.ownsRow W.heap.size 9 1 (.slice a T.args.length c) (T.args.map Tm.bytes).length ((T.args.map Tm.bytes).map sv)∧Below W.heap.size W w'):=fun W hb=>by
  have:=gArgs.out ⟨T.bytes.toArray⟩ zT W hb
  rw [cut,argsOf_own hT (by omega)] at this
  exact resRow (by simp) this
 have fArgsG:Hid (∀ W,Below w1.heap.size w1 W→Calls Tryz.prog 19 #[.string ⟨(T.given ts).bytes.toArray⟩] W fun e w'=>∃ a c,e=.returned (.slice a (T.args.length+ts.length) c)∧Below W.heap.size W w'):=fun W hb=>by
  have:=gArgs.out ⟨(T.given ts).bytes.toArray⟩ zG W hb
  rw [cut,argsOf_own hG (by omega),given_args] at this
  exact (resRow (n:=T.args.length+ts.length) (by simp) this).mono fun _ _ ⟨a,c,h1,_,h3⟩=>⟨a,c,h1,h3⟩
 have fDomsT:Hid (∀ W,Below w1.heap.size w1 W→Calls Tryz.prog 21 #[.string ⟨T.bytes.toArray⟩] W fun e w'=>∃ a c,e=.returned (.slice a T.doms.length c)∧w'.ownsRow W.heap.size 9 1 (.slice a T.doms.length c) (T.doms.map Tm.bytes).length ((T.doms.map Tm.bytes).map sv)∧Below W.heap.size W w'):=fun W hb=>by
  have:=gDoms.out ⟨T.bytes.toArray⟩ zT W hb
  rw [cut,domainsOf_own hT (by omega)] at this
  exact resRow (by simp) this
 have fDomsV:Hid (∀ W,Below w1.heap.size w1 W→Calls Tryz.prog 21 #[.string ⟨(Tm.arrows ts T).bytes.toArray⟩] W fun e w'=>∃ a c,e=.returned (.slice a (T.doms.length+ts.length) c)∧Below W.heap.size W w'):=fun W hb=>by
  have:=gDoms.out ⟨(Tm.arrows ts T).bytes.toArray⟩ zV W hb
  rw [cut,domainsOf_own hV (by omega),arrows_doms] at this
  exact (resRow (n:=T.doms.length+ts.length) (by simp;omega) this).mono fun _ _ ⟨a,c,h1,_,h3⟩=>⟨a,c,h1,h3⟩
 have fGivT:Hid (∀ (W:World) (b:Nat) (u:Value),Below w1.heap.size w1 W→W.ownsRow b 9 1 u (T.args.map Tm.bytes).length ((T.args.map Tm.bytes).map sv)→Calls Tryz.prog 17 #[.string ⟨T.head.bytes.toArray⟩,u] W fun e w'=>e=.returned (.tuple #[.string ⟨T.bytes.toArray⟩,.bool true])∧Below W.heap.size W w'):=fun W b u hb hu=>by
  have:=gGiv.out ⟨T.head.bytes.toArray⟩ (T.args.map Tm.bytes) zH (by simp;omega) (fun x hx=>by obtain ⟨a,ha,rfl⟩:=List.mem_map.1 hx;have:=partA a ha;omega) W b u hb hu
  have hg:=givenOf_own (h:=T.head) (us:=T.args) (Tm.head_ok hT) (fun a ha=>Tm.args_ok hT a ha) (by rw [given_own];omega)
  rw [given_own] at hg
  rw [cut,hg] at this
  exact this
 have fArrT:Hid (∀ (W:World) (b:Nat) (u:Value),Below w1.heap.size w1 W→W.ownsRow b 9 1 u (T.doms.map Tm.bytes).length ((T.doms.map Tm.bytes).map sv)→Calls Tryz.prog 20 #[u,.string ⟨T.targ.bytes.toArray⟩] W fun e w'=>e=.returned (.tuple #[.string ⟨T.bytes.toArray⟩,.bool true])∧Below W.heap.size W w'):=fun W b u hb hu=>by
  have:=gArr.out ⟨T.targ.bytes.toArray⟩ (T.doms.map Tm.bytes) zU (by simp;omega) (fun x hx=>by obtain ⟨a,ha,rfl⟩:=List.mem_map.1 hx;have:=partD a ha;omega) W b u hb hu
  have hg:=arrowsOf_own (t:=T.targ) (ds:=T.doms) (Tm.targ_ok hT) (fun a ha=>Tm.doms_ok hT a ha) (by rw [arrows_own];omega)
  rw [arrows_own] at hg
  rw [cut,hg] at this
  exact this
 have fGivL:Hid (∀ (W:World) (b:Nat) (u:Value),Below w1.heap.size w1 W→W.ownsRow b 9 1 u (ts.map Tm.bytes).length ((ts.map Tm.bytes).map sv)→Calls Tryz.prog 17 #[.string ⟨T.bytes.toArray⟩,u] W fun e w'=>e=.returned (.tuple #[.string ⟨(T.given ts).bytes.toArray⟩,.bool true])∧Below W.heap.size W w'):=fun W b u hb hu=>by
  have:=gGiv.out ⟨T.bytes.toArray⟩ (ts.map Tm.bytes) zT (by simp;omega) (fun x hx=>by obtain ⟨a,ha,rfl⟩:=List.mem_map.1 hx;have:=(hts a ha).2.2;omega) W b u hb hu
  rw [cut,givenOf_own hT (fun a ha=>(hts a ha).1) (by omega)] at this
  exact this
 have fArrL:Hid (∀ (W:World) (b:Nat) (u:Value),Below w1.heap.size w1 W→W.ownsRow b 9 1 u (ts.map Tm.bytes).length ((ts.map Tm.bytes).map sv)→Calls Tryz.prog 20 #[u,.string ⟨T.bytes.toArray⟩] W fun e w'=>e=.returned (.tuple #[.string ⟨(Tm.arrows ts T).bytes.toArray⟩,.bool true])∧Below W.heap.size W w'):=fun W b u hb hu=>by
  have:=gArr.out ⟨T.bytes.toArray⟩ (ts.map Tm.bytes) zT (by simp;omega) (fun x hx=>by obtain ⟨a,ha,rfl⟩:=List.mem_map.1 hx;have:=(hts a ha).2.2;omega) W b u hb hu
  rw [cut,arrowsOf_own hT (fun a ha=>(hts a ha).1) (by omega)] at this
  exact this
 have hnl:(srt T.cnames).length≤1000:=by have:=hsr.2.2;omega
 have fUses:Hid (∀ W,Below w1.heap.size w1 W→Calls Tryz.prog 23 #[.string ⟨T.bytes.toArray⟩] W fun e w'=>∃ a c,e=.returned (.slice a (srt T.cnames).length c)∧w'.ownsRow W.heap.size 9 1 (.slice a (srt T.cnames).length c) (srt T.cnames).length ((srt T.cnames).map sv)∧Below W.heap.size W w'):=fun W hb=>by
  have:=gUses.out ⟨T.bytes.toArray⟩ zT W hb
  rw [cut,usesIn_own hT (by omega)] at this
  exact resRow rfl this
 have fNs:Hid (∀ (W:World) (b:Nat) (u:Value),Below w1.heap.size w1 W→W.ownsRow b 9 1 u (srt T.cnames).length ((srt T.cnames).map sv)→Calls Tryz.prog 24 #[u] W fun e w'=>e=.returned (.bool true)∧Below W.heap.size W w'):=fun W b u hb hu=>by
  have:=gNs.out (srt T.cnames) (by omega) (fun x hx=>by have:=(hno x hx).2;omega) W b u hb hu
  rw [namesOk_asc hsr.1 fun x hx=>(hno x hx).1] at this
  exact this
 have fHasT:Hid (∀ y,y∈srt T.cnames→∀ W,Below w1.heap.size w1 W→Calls Tryz.prog 25 #[.string ⟨T.bytes.toArray⟩,.string ⟨y.toArray⟩] W fun e w'=>e=.returned (.bool true)∧Below W.heap.size W w'):=fun y hy W hb=>by
  have:=gHas.out ⟨T.bytes.toArray⟩ ⟨y.toArray⟩ zT (by have:=(hno y hy).2;show y.length≤_;omega) W hb
  rw [cut,cut,usesIn_own hT (by omega),show inL (srt T.cnames) y=true by simp only [inL,decide_eq_true_eq];exact hy] at this
  exact this
 have fHasG:Hid (∀ y,y∈srt T.cnames→∀ W,Below w1.heap.size w1 W→Calls Tryz.prog 25 #[.string ⟨(T.given ts).bytes.toArray⟩,.string ⟨y.toArray⟩] W fun e w'=>e=.returned (.bool true)∧Below W.heap.size W w'):=fun y hy W hb=>by
  have:=gHas.out ⟨(T.given ts).bytes.toArray⟩ ⟨y.toArray⟩ zG (by have:=(hno y hy).2;show y.length≤_;omega) W hb
  have hsg:=srt_spec _ (T.given ts).cnames (Nat.le_refl _)
  rw [cut,cut,usesIn_own hG (by omega),show inL (srt (T.given ts).cnames) y=true by simp only [inL,decide_eq_true_eq];exact (hsg.2.1 y).2 (given_names ts T y ((hsr.2.1 y).1 hy))] at this
  exact this
 have fNone:Hid (∀ W,Below w1.heap.size w1 W→Calls Tryz.prog 25 #[.string ⟨T.bytes.toArray⟩,.string ⟨#[110,111,110,101]⟩] W fun e w'=>e=.returned (.bool false)∧Below W.heap.size W w'):=fun W hb=>by
  have:=gHas.out ⟨T.bytes.toArray⟩ ⟨([110,111,110,101]:List UInt8).toArray⟩ zT (by decide) W hb
  rw [cut,cut,usesIn_own hT (by omega),hnn] at this
  exact this
 obtain ⟨al,cl,rfl⟩:=own_sliceV hrowL
 have HL:Hid (w3.ownsRow w2.heap.size 9 1 (.slice al ts.length cl) (ts.map Tm.bytes).length ((ts.map Tm.bytes).map sv)):=by
  rw [Hid,List.length_map,List.map_map];exact hrowL
 have HLn:Hid ((ts.map Tm.bytes).length≤1000000):=by rw [Hid,List.length_map];omega
 have HB3:=Ld B3
 have ha2:T.args.length≤1000:=by omega
 have hd2:T.doms.length≤1000:=by omega
 clear gHead gArgs gDoms gTarg gGiv gArr gUses gNs gHas hG hV hcat hc3 hszl hal hdl hcl hsr hno hnn partA partD cut hrowL B3 B2 hT hD hTl hts zT zG zV zH zU
 have hGl2:(T.given ts).bytes.length≤1700:=hGl
 clear hGl hVl hGl2
 generalize T.bytes=tb at *
 generalize T.head.bytes=hb at *
 generalize T.targ.bytes=ub at *
 generalize (T.given ts).bytes=gb at *
 generalize (Tm.arrows ts T).bytes=vb at *
 generalize T.args.map Tm.bytes=LA at *
 generalize T.doms.map Tm.bytes=LD at *
 generalize T.args.length=na at *
 generalize T.doms.length=nd at *
 generalize ts.map Tm.bytes=LL at *
 generalize ts.length=nl at *
 generalize srt T.cnames=NM at *
 generalize hnm:NM.length=nn at *
 have HNM:=Ld hnm
 clear hnm
 have hszW:=HB3.out.size
 have hz3:w3.heap.size≤w3.heap.size:=Nat.le_refl _
 clear hszW hz3
 go_wp2_with fail
 (with_reducible refine (fHeadT.out _ HB3.out).mono ?_);rintro e w4 ⟨rfl,hb4⟩
 have C4:=Ld hb4
 have B4:=Ld (HB3.out.trans (C4.out.mono HB3.out.size))
 clear hb4
 go_wp2_with fail
 (with_reducible refine (fArgsT.out _ B4.out).mono ?_);rintro e w5 ⟨a5,c5,rfl,ho5,hb5⟩
 have C5:=Ld (C4.out.trans (hb5.mono C4.out.size))
 have B5:=Ld (HB3.out.trans (C5.out.mono HB3.out.size))
 have O5:=Ld ho5
 clear hb5 ho5
 go_wp2_with fail
 (with_reducible refine (fGivT.out _ _ _ B5.out O5.out).mono ?_);rintro e w6 ⟨rfl,hb6⟩
 have C6:=Ld (C5.out.trans (hb6.mono C5.out.size))
 have B6:=Ld (HB3.out.trans (C6.out.mono HB3.out.size))
 clear hb6 O5
 go_wp2_with fail
 (with_reducible refine (fDomsT.out _ B6.out).mono ?_);rintro e w7 ⟨a7,c7,rfl,ho7,hb7⟩
 have C7:=Ld (C6.out.trans (hb7.mono C6.out.size))
 have B7:=Ld (HB3.out.trans (C7.out.mono HB3.out.size))
 have O7:=Ld ho7
 clear hb7 ho7
 go_wp2_with fail
 (with_reducible refine (fTargT.out _ B7.out).mono ?_);rintro e w8 ⟨rfl,hb8⟩
 have C8:=Ld (C7.out.trans (hb8.mono C7.out.size))
 have B8:=Ld (HB3.out.trans (C8.out.mono HB3.out.size))
 have O8:=Ld (own_below O7.out hb8)
 clear hb8 O7
 go_wp2_with fail
 (with_reducible refine (fArrT.out _ _ _ B8.out O8.out).mono ?_);rintro e w9 ⟨rfl,hb9⟩
 have C9:=Ld (C8.out.trans (hb9.mono C8.out.size))
 have B9:=Ld (HB3.out.trans (C9.out.mono HB3.out.size))
 have L9:=Ld (own_below HL.out C9.out)
 clear hb9 O8
 go_wp2_with (at_builtin;refine append_copyS rfl _ _ rfl rfl _ _ LL rfl L9.out HLn.out ?_;intro u10 w10 ho10 hb10)
 have C10:=Ld (C9.out.trans (hb10.mono C9.out.size))
 have B10:=Ld (HB3.out.trans (C10.out.mono HB3.out.size))
 have O10:=Ld ho10
 clear ho10 hb10 L9
 go_wp2_with fail
 (with_reducible refine (fGivL.out _ _ _ B10.out O10.out).mono ?_);rintro e w11 ⟨rfl,hb11⟩
 have C11:=Ld (C10.out.trans (hb11.mono C10.out.size))
 have B11:=Ld (HB3.out.trans (C11.out.mono HB3.out.size))
 have L11:=Ld (own_below HL.out C11.out)
 clear hb11 O10
 go_wp2_with (at_builtin;refine append_copyS rfl _ _ rfl rfl _ _ LL rfl L11.out HLn.out ?_;intro u12 w12 ho12 hb12)
 have C12:=Ld (C11.out.trans (hb12.mono C11.out.size))
 have B12:=Ld (HB3.out.trans (C12.out.mono HB3.out.size))
 have O12:=Ld ho12
 clear ho12 hb12 L11
 go_wp2_with fail
 (with_reducible refine (fArrL.out _ _ _ B12.out O12.out).mono ?_);rintro e w13 ⟨rfl,hb13⟩
 have C13:=Ld (C12.out.trans (hb13.mono C12.out.size))
 have B13:=Ld (HB3.out.trans (C13.out.mono HB3.out.size))
 clear hb13 O12
 go_wp2_with fail
 (with_reducible refine (fArgsG.out _ B13.out).mono ?_);rintro e w14 ⟨a14,c14,rfl,hb14⟩
 have C14:=Ld (C13.out.trans (hb14.mono C13.out.size))
 have B14:=Ld (HB3.out.trans (C14.out.mono HB3.out.size))
 clear hb14
 go_wp2_with fail
 (with_reducible refine (fDomsV.out _ B14.out).mono ?_);rintro e w15 ⟨a15,c15,rfl,hb15⟩
 have C15:=Ld (C14.out.trans (hb15.mono C14.out.size))
 have B15:=Ld (HB3.out.trans (C15.out.mono HB3.out.size))
 clear hb15
 go_wp2_with fail
 (with_reducible refine (fUses.out _ B15.out).mono ?_);rintro e w16 ⟨an,cn,rfl,ho16,hb16⟩
 have C16:=Ld (C15.out.trans (hb16.mono C15.out.size))
 have B16:=Ld (HB3.out.trans (C16.out.mono HB3.out.size))
 have HN16:=Ld ho16
 clear hb16 ho16
 go_wp2_with fail
 (with_reducible refine (fArgsT.out _ B16.out).mono ?_);rintro e w17 ⟨a17,c17,rfl,_,hb17⟩
 have E17:=Ld hb17
 have C17:=Ld (C16.out.trans (hb17.mono C16.out.size))
 have B17:=Ld (HB3.out.trans (C17.out.mono HB3.out.size))
 clear hb17
 go_wp2_with fail
 (with_reducible refine (fDomsT.out _ B17.out).mono ?_);rintro e w18 ⟨a18,c18,rfl,_,hb18⟩
 have E18:=Ld (E17.out.trans (hb18.mono E17.out.size))
 have C18:=Ld (C17.out.trans (hb18.mono C17.out.size))
 have B18:=Ld (HB3.out.trans (C18.out.mono HB3.out.size))
 clear hb18
 go_wp2_with fail
 (with_reducible refine (fHeadG.out _ B18.out).mono ?_);rintro e w19 ⟨rfl,hb19⟩
 have E19:=Ld (E18.out.trans (hb19.mono E18.out.size))
 have C19:=Ld (C18.out.trans (hb19.mono C18.out.size))
 have B19:=Ld (HB3.out.trans (C19.out.mono HB3.out.size))
 clear hb19
 go_wp2_with fail
 (with_reducible refine (fHeadT.out _ B19.out).mono ?_);rintro e w20 ⟨rfl,hb20⟩
 have E20:=Ld (E19.out.trans (hb20.mono E19.out.size))
 have C20:=Ld (C19.out.trans (hb20.mono C19.out.size))
 have B20:=Ld (HB3.out.trans (C20.out.mono HB3.out.size))
 clear hb20
 go_wp2_with fail
 (with_reducible refine (fTargV.out _ B20.out).mono ?_);rintro e w21 ⟨rfl,hb21⟩
 have E21:=Ld (E20.out.trans (hb21.mono E20.out.size))
 have C21:=Ld (C20.out.trans (hb21.mono C20.out.size))
 have B21:=Ld (HB3.out.trans (C21.out.mono HB3.out.size))
 clear hb21
 go_wp2_with fail
 (with_reducible refine (fTargT.out _ B21.out).mono ?_);rintro e w22 ⟨rfl,hb22⟩
 have E22:=Ld (E21.out.trans (hb22.mono E21.out.size))
 have C22:=Ld (C21.out.trans (hb22.mono C21.out.size))
 have B22:=Ld (HB3.out.trans (C22.out.mono HB3.out.size))
 have HNL:Hid (NM.length≤1000000):=by rw [Hid,HNM.out];omega
 have N22:Hid (w22.ownsRow w15.heap.size 9 1 (.slice an nn cn) NM.length (NM.map sv)):=by rw [Hid,HNM.out];exact own_below HN16.out E22.out
 clear hb22
 go_wp2_with (at_builtin;refine append_copyS rfl _ _ rfl rfl _ _ NM rfl N22.out HNL.out ?_;intro u23 w23 ho23 hb23)
 have E23:=Ld (E22.out.trans (hb23.mono E22.out.size))
 have C23:=Ld (C22.out.trans (hb23.mono C22.out.size))
 have B23:=Ld (HB3.out.trans (C23.out.mono HB3.out.size))
 have O23:Hid (w23.ownsRow w22.heap.size 9 1 u23 nn (NM.map sv)):=by rw [← HNM.out];exact ho23
 clear ho23 hb23
 go_wp2_with fail
 (with_reducible refine (fNs.out _ _ _ B23.out O23.out).mono ?_);rintro e w24 ⟨rfl,hb24⟩
 have E24:=Ld (E23.out.trans (hb24.mono E23.out.size))
 have C24:=Ld (C23.out.trans (hb24.mono C23.out.size))
 have B24:=Ld (HB3.out.trans (C24.out.mono HB3.out.size))
 have N24:=Ld (own_below HN16.out E24.out)
 clear hb24
 go_wp2
 go_loopw [16] (fun i wr=>∃ k:Nat,k≤nn∧i=.int .i64 (k:Int)∧Below w1.heap.size w1 wr∧wr.ownsRow w15.heap.size 9 1 (.slice an nn cn) nn (NM.map sv)) (fun i _=>nn - (intOf i).toNat)
 case atStart=>exact ⟨0,Nat.zero_le _,rfl,B24.out,N24.out⟩
 case round =>
  obtain ⟨k,hk,rfl,hbel,hrow⟩:=hrel
  clear B24 N24
  have HB:=Ld hbel
  have HR:=Ld hrow
  clear hbel
  have q1:(0:Int)≤(k:Int):=by omega
  by_cases hlt:k < nn
  ·have q2:(k:Int) < (nn:Int):=by omega
   obtain ⟨g,cap',e0,_,hgl⟩:=hrow.form (by omega)
   cases e0
   have hkl:k < NM.length:=by rw [HNM.out];exact hlt
   have ex:(NM.map sv)[k]?=some (sv NM[k]):=by simp [hkl]
   have cc:=(hrow.cellAt k (by omega)).trans ex
   unfold sv at cc
   have gT:=Ld (fHasT.out NM[k] (List.getElem_mem hkl))
   have gG:=Ld (fHasG.out NM[k] (List.getElem_mem hkl))
   generalize NM[k]=y at cc gT gG
   clear ex hrow hkl
   go_wp2_with fail
   (with_reducible refine (gT.out _ HB.out).mono ?_);rintro e w25 ⟨rfl,hb25⟩
   have HB25:=Ld (HB.out.trans (hb25.mono HB.out.size))
   have HR25:=Ld (own_below HR.out hb25)
   have cc25:=(hb25.cell (p:=⟨g,k,none⟩) hgl).trans cc
   clear hb25 cc
   go_wp2_with fail
   (with_reducible refine (gG.out _ HB25.out).mono ?_);rintro e w26 ⟨rfl,hb26⟩
   have HB26:=Ld (HB25.out.trans (hb26.mono HB25.out.size))
   have HR26:=Ld (own_below HR25.out hb26)
   clear hb26 cc25
   go_wp2
   go_roundw
   case rel=>exact ⟨k+1,by omega,by go_num,HB26.out,HR26.out⟩
   case measure=>simp [intOf];omega
  ·obtain rfl:k=nn:=by omega
   clear hrow
   go_wp2_with fail
   (with_reducible refine (fNone.out _ HB.out).mono ?_);rintro e w27 ⟨rfl,hb27⟩
   have HB27:=Ld (HB.out.trans (hb27.mono HB.out.size))
   clear hb27
   go_wp2
   go_ret
   exact ⟨rfl,HB27.out⟩
end Go.Proofs.YtgonemalnljabaaGreatDoor
