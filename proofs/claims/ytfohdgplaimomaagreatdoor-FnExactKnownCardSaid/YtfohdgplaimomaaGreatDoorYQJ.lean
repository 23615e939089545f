/- QIf QIl -/
import Derived.Test.YtfohdgplaimomaaGreatDoorYQI
import Derived.Test.YtfohdgplaimomaaGreatDoorYQD
import Derived.Test.YtfohdgplaimomaaGreatDoorYKQ
set_option maxRecDepth 100000
set_option maxHeartbeats 16000000
set_option linter.unusedSimpArgs false
set_option linter.unusedVariables false
namespace Go.Proofs.YtfohdgplaimomaaGreatDoor
open Go.ChangeShapes Go.WideShapes Go.ChangeAt Go.RowKit
theorem tab_found {env:List En} (n:List UInt8):(tabAt env env.length 0 n).getD (0,-1,0)=foundIn env n:=(tabAt_end n).symm
theorem placeV_eq (r:Int × Int × Int):placeVal r=.agg #[.int .i64 r.1,.int .i64 r.2.1,.int .i64 r.2.2]:=rfl
theorem implFind {w:World} {ra:Option Addr} {rn rc b m:Nat} {G:List UInt8→Option (Int × Int × Int)} (h:TabIs w b m G) (n:List UInt8) (hn:n.length≤281474976710656) :
  Calls Tryz.prog 31 #[.agg #[.slice ra rn rc,.map (some b)],.string ⟨n.toArray⟩] w fun e w'=>e=.returned (placeVal ((G n).getD (0,-1,0)))∧Below w.heap.size w w':=by
 have HB:=Ld (alloc_any w (.cells #[.slice ra rn rc,.map (some b)] 61))
 have HB1:=Ld (HB.out.alloc HB.out.size (.cells #[.int .i64 0,.int .i64 0,.int .i64 0] 58))
 have L:=(h.below HB1.out).look (s:=n) (by unfold maxLen;omega)
 have c1:((w.alloc (.cells #[.slice ra rn rc,.map (some b)] 61)).alloc (.cells #[.int .i64 0,.int .i64 0,.int .i64 0] 58)).cell? ⟨w.heap.size,1,none⟩=some (.map (some b)):=by
  rw [((Below.refl _ _).alloc (Nat.le_refl _) _).cell (p:=⟨w.heap.size,1,none⟩) (by simp)]
  exact World.news_of_block (cs:=#[.slice ra rn rc,.map (some b)]) (t:=61) (fr:=(0,0)) (heap_alloc_new w _) 1 _ rfl
 clear h
 cases hG:G n with
 | none =>
  rw [hG] at L
  simp only [placeV_eq,Option.getD_none,Option.isSome_none] at L ⊢
  clear hG
  go_enter Tryz.func31,Tryz.ntmps31
  go_wp2
  obtain ⟨a0,a1,a2⟩:=placeBox2 (w.alloc (.cells #[.slice ra rn rc,.map (some b)] 61)) ((0:Int),(-1:Int),(0:Int)) (.cells #[.int .i64 0,.int .i64 0,.int .i64 0] 58) (n:=w.heap.size+1) (by simp)
  refine bodyPost_ret (v:=placeVal ((0:Int),(-1:Int),(0:Int))) (by simp [results,Tryz.results31,go_sem,a0,a1,a2,placeVal]) rfl ⟨rfl,(HB.out.alloc HB.out.size _).alloc (HB.out.alloc HB.out.size _).size _⟩
 | some r =>
  obtain ⟨r0,r1,r2⟩:=r
  rw [hG] at L
  simp only [placeV_eq,Option.getD_some,Option.isSome_some] at L ⊢
  clear hG
  go_enter Tryz.func31,Tryz.ntmps31
  go_wp2
  obtain ⟨a0,a1,a2⟩:=placeBox2 (w.alloc (.cells #[.slice ra rn rc,.map (some b)] 61)) (r0,r1,r2) (.cells #[.int .i64 r0,.int .i64 r1,.int .i64 r2] 58) (n:=w.heap.size+1) (by simp)
  refine bodyPost_ret (v:=placeVal (r0,r1,r2)) (by simp [results,Tryz.results31,go_sem,a0,a1,a2,placeVal]) rfl ⟨rfl,(HB.out.alloc HB.out.size _).alloc (HB.out.alloc HB.out.size _).size _⟩
theorem implFoundIn {w:World} {B:Nat} {v:Value} {env:List En} (h:EnvIs w B v env) (hs:EnvSmall env) (hr:EnvRng env) (hv:Vars w) (hm:MaxLenInt w) (n:List UInt8) (hn:n.length≤281474976710656) :
  Calls Tryz.prog 11 #[v,.string ⟨n.toArray⟩] w fun e w'=>e=.returned (findRes (foundIn env n))∧Below w.heap.size w w':=by
 obtain ⟨ra,rc,rfl⟩:=h.len
 have f1:=Ld (implEnvOf h hs hr hv hm)
 have HE:=tab_found (env:=env) n
 generalize foundIn env n=r at HE ⊢
 obtain ⟨r0,r1,r2⟩:=r
 unfold findRes
 clear h hs hr hv hm
 go_enter Tryz.func11,Tryz.ntmps11
 go_wp2_with fail
 (with_reducible refine f1.out.mono ?_);rintro e w1 ⟨b,rfl,ht,hb1⟩
 have f2:=Ld (implFind (ra:=ra) (rn:=env.length) (rc:=rc) ht n hn)
 rw [HE] at f2
 simp only [placeV_eq] at f2
 have HB1:=Ld hb1
 clear f1 HE hb1 ht
 go_wp2_with fail
 (with_reducible refine f2.out.mono ?_);rintro e w2 ⟨rfl,hb2⟩
 have HB2:=Ld (HB1.out.trans (hb2.mono HB1.out.size))
 clear f2 hb2
 obtain ⟨x0,x1,x2⟩:=placeBox w2 (r0,r1,r2) (n:=w2.heap.size) rfl
 go_wp2
 go_quiet (fail)
 go_wp2
 refine bodyPost_ret (v:=.tuple #[.int .i64 r0,.int .i64 r1,.int .i64 r2]) (by simp [results,Tryz.results11,go_sem]) rfl ⟨rfl,below_drewN (HB2.out.alloc HB2.out.size _) _⟩
theorem implLevelsE {w:World} {B:Nat} {ra:Option Addr} {rn rc b m:Nat} {env:List En} (h:EnvIs w B (.slice ra rn rc) env) (hs:EnvSmall env) (hr:EnvRng env) (hv:Vars w) (hm:MaxLenInt w) (ht:TabIs w b m (tabAt env env.length 0)) (n:List UInt8) (hn:n.length≤281474976710656) :
  Calls Tryz.prog 34 #[.agg #[.slice ra rn rc,.map (some b)],.string ⟨n.toArray⟩] w fun e w'=>e=.returned (.int .i64 (levelsFor env n))∧Below w.heap.size w w':=by
 have HB:=Ld (alloc_any w (.cells #[.slice ra rn rc,.map (some b)] 61))
 have f1:=Ld (implFind (ra:=ra) (rn:=rn) (rc:=rc) (ht.below HB.out) n hn)
 rw [tab_found] at f1
 have HX:=Ld (envBox (w:=w) (s:=.slice ra rn rc) (m:=.map (some b)))
 have hP:=foundIn_P env n
 have HE:Hid (levelsFor env n=manyOf env (foundIn env n)):=rfl
 obtain ⟨x0,x1⟩:=HX.out _ (Below.refl _ _)
 generalize levelsFor env n=lv at HE ⊢
 generalize foundIn env n=r at f1 HE hP
 clear ht
 rcases hP with rfl | ⟨j,e,he,hok,hj,hk⟩
 ·have HF:Hid (lv=-1):=by rw [Hid,HE.out];rfl
  simp only [placeV_eq] at f1
  clear h HE hs hr
  go_enter Tryz.func34,Tryz.ntmps34
  go_wp2_with fail
  (with_reducible refine f1.out.mono ?_);rintro e w1 ⟨rfl,hb1⟩
  have HB1:=Ld (HB.out.trans (hb1.mono HB.out.size))
  clear hb1 f1
  go_wp2
  go_ret
  rw [HF.out]
  exact ⟨rfl,HB1.out.alloc HB1.out.size _⟩
 have hkd:=declOk_kind hok
 have h0:r.1≠0:=by
  rcases hk with h | h | h
  ·rw [h.1];omega
  ·rw [h.1];decide
  ·rw [h.1];decide
 have HM:=Ld (manyOf_at he hj h0)
 have hsm:=(hs.2 _ (List.mem_of_getElem? he)).1
 have hrg:=hr _ (List.mem_of_getElem? he)
 rw [← HE.out] at HM
 obtain ⟨g,cap,ua,uc,e1,hjl,hox,HC⟩:=env_open h he
 cases e1
 obtain ⟨what,ri,rk⟩:=r
 simp only at h0 hj HM
 subst hj
 simp only [placeV_eq] at f1
 have HCx:=Ld HC
 have t1:(0:Int)≤(j:Int):=by omega
 have t2:(j:Int) < (env.length:Int):=by omega
 have q0:(what == 0)=false:=by rw [beq_eq_false_iff_ne];exact h0
 have HO:=Ld hox
 have HRL:=Ld fun (W:World) (hW:Below w.heap.size w W)=>implRecLevels (own_below hox hW) hsm ⟨hrg.1,hrg.2⟩ (hv.below hW) (hm.below hW)
 clear h HE hs hr he hok hk hkd HC hox hsm hrg hv hm h0
 obtain ⟨⟨kd,nm,ps,fl,ty,vl,cs⟩,ls⟩:=e
 have hval:Dc.val ⟨kd,nm,ps,fl,ty,vl,cs⟩ (.slice ua cs.length uc)=.agg #[.int .i64 kd,.string ⟨nm.toArray⟩,.int .i64 ps,.int .i64 fl,.string ⟨ty.toArray⟩,.string ⟨vl.toArray⟩,.slice ua cs.length uc]:=rfl
 simp only [hval] at HCx HRL HM HO
 by_cases h6:what=6
 ·subst h6
  rw [if_pos rfl] at HM
  go_enter Tryz.func34,Tryz.ntmps34
  go_wp2_with fail
  (with_reducible refine f1.out.mono ?_);rintro e w1 ⟨rfl,hb1⟩
  have HB1:=Ld (HB.out.trans (hb1.mono HB.out.size))
  have HB2:=Ld (HB1.out.alloc HB1.out.size (.cells #[.int .i64 6,.int .i64 j,.int .i64 rk] 58))
  obtain ⟨y0,y1⟩:=HX.out _ (hb1.alloc hb1.size (.cells #[.int .i64 6,.int .i64 j,.int .i64 rk] 58))
  obtain ⟨c0,c1,c2,c3,c4,c5,c6⟩:=HCx.out _ HB2.out
  clear hb1 f1 HX HCx x0 x1
  have f2:=Ld (HRL.out _ HB2.out)
  go_wp2_with fail
  (with_reducible refine f2.out.mono ?_);rintro e w2 ⟨rfl,hb2⟩
  have HB3:=Ld (HB2.out.trans (hb2.mono HB2.out.size))
  clear f2 hb2 HRL
  rw [← HM.out]
  go_wp2
  go_ret
  exact ⟨rfl,HB3.out⟩
 ·have q6:(what == 6)=false:=by rw [beq_eq_false_iff_ne];exact h6
  rw [if_neg h6] at HM
  go_enter Tryz.func34,Tryz.ntmps34
  go_wp2_with fail
  (with_reducible refine f1.out.mono ?_);rintro e w1 ⟨rfl,hb1⟩
  have HB1:=Ld (HB.out.trans (hb1.mono HB.out.size))
  have HB2:=Ld (HB1.out.alloc HB1.out.size (.cells #[.int .i64 what,.int .i64 j,.int .i64 rk] 58))
  obtain ⟨y0,y1⟩:=HX.out _ (hb1.alloc hb1.size (.cells #[.int .i64 what,.int .i64 j,.int .i64 rk] 58))
  obtain ⟨c0,c1,c2,c3,c4,c5,c6⟩:=HCx.out _ HB2.out
  clear hb1 f1 HX HCx x0 x1
  clear HRL
  go_wp2
  go_ret
  rw [HM.out]
  exact ⟨rfl,HB2.out⟩
theorem implLevelsFor {w:World} {B:Nat} {v:Value} {env:List En} (h:EnvIs w B v env) (hs:EnvSmall env) (hr:EnvRng env) (hv:Vars w) (hm:MaxLenInt w) (n:List UInt8) (hn:n.length≤281474976710656) :
  Calls Tryz.prog 14 #[v,.string ⟨n.toArray⟩] w fun e w'=>e=.returned (.int .i64 (levelsFor env n))∧Below w.heap.size w w':=by
 obtain ⟨ra,rc,rfl⟩:=h.len
 have f1:=Ld (implEnvOf h hs hr hv hm)
 have F2:=Ld fun (W:World) (hW:Below w.heap.size w W) (b:Nat) (ht:TabIs W b (knownAll env).length (tabAt env env.length 0))=>implLevelsE (h.below hW) hs hr (hv.below hW) (hm.below hW) ht n hn
 clear h hs hr hv hm
 go_enter Tryz.func14,Tryz.ntmps14
 go_wp2_with fail
 (with_reducible refine f1.out.mono ?_);rintro e w1 ⟨b,rfl,ht,hb1⟩
 have f2:=Ld (F2.out _ hb1 b ht)
 have HB1:=Ld hb1
 clear f1 F2 hb1 ht
 go_wp2_with fail
 (with_reducible refine f2.out.mono ?_);rintro e w2 ⟨rfl,hb2⟩
 have HB2:=Ld (HB1.out.trans (hb2.mono HB1.out.size))
 clear f2 hb2
 go_wp2
 go_ret
 exact ⟨rfl,HB2.out⟩
end Go.Proofs.YtfohdgplaimomaaGreatDoor
