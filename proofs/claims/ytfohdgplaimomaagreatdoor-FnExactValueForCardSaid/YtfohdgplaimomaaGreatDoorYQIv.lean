/- QIv -/
import Derived.Test.YtfohdgplaimomaaGreatDoorYQJ
import Derived.Test.YtfohdgplaimomaaGreatDoorYQT
import Derived.Test.YtfohdgplaimomaaGreatDoorYHL
set_option maxRecDepth 100000
set_option maxHeartbeats 16000000
set_option linter.unusedSimpArgs false
set_option linter.unusedVariables false
namespace Go.Proofs.YtfohdgplaimomaaGreatDoor
open Go.ChangeShapes Go.WideShapes Go.ChangeAt Go.RowKit
theorem implValueE {w:World} {B:Nat} {ra:Option Addr} {rn rc b m:Nat} {env:List En} (h:EnvIs w B (.slice ra rn rc) env) (hs:EnvSmall env) (hr:EnvRng env) (hv:Vars w) (hm:MaxLenInt w) (ht:TabIs w b m (tabAt env env.length 0)) (n:List UInt8) (hn:n.length≤281474976710656)
  {b2:Nat} {lv:Value} {ls:List (List UInt8)} (hl:w.ownsRow b2 9 1 lv ls.length (ls.map sv)) (hl1:ls.length≤1048576) (hl2:∀ x∈ls,x.length≤1048576) :
  Calls Tryz.prog 38 #[.agg #[.slice ra rn rc,.map (some b)],.string ⟨n.toArray⟩,lv] w fun e w'=>e=.returned (putRes (valueFor env n ls))∧Below w.heap.size w w':=by
 obtain ⟨la,lc,rfl⟩:=own_sliceV hl
 have HB:=Ld (alloc_any w (.cells #[.slice ra rn rc,.map (some b)] 61))
 have f1:=Ld (implFind (ra:=ra) (rn:=rn) (rc:=rc) (ht.below HB.out) n hn)
 rw [tab_found] at f1
 have HX:=Ld (envBox (w:=w) (s:=.slice ra rn rc) (m:=.map (some b)))
 have hP:=foundIn_P env n
 have HE:Hid (valueFor env n ls=valueOf env (foundIn env n) ls):=rfl
 have FL:=Ld fun (W:World) (hW:Below w.heap.size w W)=>implLevelsE (h.below hW) hs hr (hv.below hW) (hm.below hW) (ht.below hW) n hn
 have hLE:levelsFor env n=manyOf env (foundIn env n):=rfl
 rw [hLE] at FL
 have FT:=Ld fun (W:World) (hW:Below w.heap.size w W) (t:List UInt8) (hx:t.length≤1048576)=>implTermLevels ⟨t.toArray⟩ (hv.below hW) (by rw [size_sv];unfold maxLen;omega) (own_below hl hW) (fun x hx=>by have:=hl2 x hx;unfold maxLen;omega) (by omega)
 obtain ⟨x0,x1⟩:=HX.out _ (Below.refl _ _)
 generalize valueFor env n ls=vf at HE ⊢
 generalize foundIn env n=r at f1 HE hP FL
 clear ht hLE hl hl2
 rcases hP with rfl | ⟨j,e,he,hok,hj,hk⟩
 ·have HF:Hid (vf=none):=by rw [Hid,HE.out,valueOf,if_pos (.inl (by decide))]
  simp only [placeV_eq] at f1
  clear h HE hs hr FL FT
  go_enter Tryz.func38,Tryz.ntmps38
  go_wp2_with fail
  (with_reducible refine f1.out.mono ?_);rintro e w1 ⟨rfl,hb1⟩
  have HB1:=Ld (HB.out.trans (hb1.mono HB.out.size))
  clear hb1 f1
  go_wp2
  refine bodyPost_ret (v:=.tuple #[.string ⟨#[]⟩,.bool false]) (by simp [results,Tryz.results38,go_sem]) rfl ⟨by rw [HF.out];rfl,HB1.out.alloc HB1.out.size _⟩
 have hsm:=(hs.2 _ (List.mem_of_getElem? he)).1
 obtain ⟨g,cap,ua,uc,e1,hjl,hox,HC⟩:=env_open h he
 cases e1
 obtain ⟨what,ri,rk⟩:=r
 simp only at hj
 subst hj
 simp only [placeV_eq] at f1
 have HCx:=Ld HC
 have t1:(0:Int)≤(j:Int):=by omega
 have t2:(j:Int) < (env.length:Int):=by omega
 have s3:=hsm.value
 by_cases h2:what=2
 rotate_left
 ·have q2:(what != 2)=true:=by rw [bne_iff_ne];exact h2
  have HF:Hid (vf=none):=by rw [Hid,HE.out,valueOf,if_pos (.inl h2)]
  clear h HE hs hr he hok hk HC hox hsm hv hm FL FT HCx
  go_enter Tryz.func38,Tryz.ntmps38
  go_wp2_with fail
  (with_reducible refine f1.out.mono ?_);rintro e w1 ⟨rfl,hb1⟩
  have HB1:=Ld (HB.out.trans (hb1.mono HB.out.size))
  clear hb1 f1
  go_wp2
  refine bodyPost_ret (v:=.tuple #[.string ⟨#[]⟩,.bool false]) (by simp [results,Tryz.results38,go_sem]) rfl ⟨by rw [HF.out];rfl,HB1.out.alloc HB1.out.size _⟩
 subst h2
 have HVE:Hid (vf=if (ls.length:Int)≠manyOf env (2,(j:Int),rk) then none else termLevels e.1.value ls):=by
  rw [Hid,HE.out,valueOf]
  by_cases hq:(ls.length:Int)≠manyOf env (2,(j:Int),rk)
  ·rw [if_pos (.inr hq),if_pos hq]
  ·rw [if_neg (fun h=>h.elim (fun h=>h rfl) hq),if_neg hq]
   show (match env[((j:Int)).toNat]? with | some e=>termLevels e.1.value ls | none=>none)=_
   rw [Int.toNat_natCast,he]
 clear h HE hs hr he hok hk HC hox hsm hv hm
 generalize manyOf env (2,(j:Int),rk)=mm at FL HVE
 obtain ⟨⟨kd,nm,ps,fl,ty,vl,cs⟩,lbs⟩:=e
 simp only at HCx HVE s3
 have HBP:=Ld fun (w1:World) (hb:Below (w.alloc (.cells #[.slice (some ⟨g,0,none⟩) env.length rc,.map (some b)] 61)).heap.size (w.alloc (.cells #[.slice (some ⟨g,0,none⟩) env.length rc,.map (some b)] 61)) w1)=>hb.alloc hb.size (.cells #[.int .i64 2,.int .i64 j,.int .i64 rk] 58)
 go_enter Tryz.func38,Tryz.ntmps38
 go_wp2_with fail
 (with_reducible refine f1.out.mono ?_);rintro e w1 ⟨rfl,hb1⟩
 have HB1:=Ld (HBP.out _ hb1)
 have HB2:=Ld (HB.out.trans (HB1.out.mono HB.out.size))
 obtain ⟨y0,y1⟩:=HX.out _ HB1.out
 have f2:=Ld (FL.out _ HB2.out)
 obtain ⟨z0,z1,z2⟩:=placeBox w1 (2,(j:Int),rk) (n:=w1.heap.size) rfl
 have HP:=Ld fun (W:World) (hW:Below (w1.alloc (.cells #[.int .i64 2,.int .i64 j,.int .i64 rk] 58)).heap.size (w1.alloc (.cells #[.int .i64 2,.int .i64 j,.int .i64 rk] 58)) W)=>(hW.cell (p:=⟨w1.heap.size,1,none⟩) (by simp)).trans z1
 clear hb1 f1 HBP x0 x1 FL
 go_wp2_with fail
 (with_reducible refine f2.out.mono ?_);rintro e w2 ⟨rfl,hb2⟩
 have HB3:=Ld (HB1.out.trans (hb2.mono HB1.out.size))
 have HB4:=Ld (HB2.out.trans (hb2.mono HB2.out.size))
 have k1:=HP.out _ hb2
 clear f2 hb2 y0 y1 z0 z1 z2 HP
 obtain ⟨y0,y1⟩:=HX.out _ HB3.out
 by_cases hm:(ls.length:Int)=mm
 rotate_left
 ·have em:((ls.length:Int) != mm)=true:=by rw [bne_iff_ne];exact hm
  have HF:Hid (vf=none):=by rw [Hid,HVE.out,if_pos hm]
  clear FT HCx HX HVE hm
  go_wp2
  refine bodyPost_ret (v:=.tuple #[.string ⟨#[]⟩,.bool false]) (by simp [results,Tryz.results38,go_sem]) rfl ⟨by rw [HF.out];rfl,HB4.out⟩
 ·subst hm
  have HF:Hid (vf=termLevels vl ls):=by rw [Hid,HVE.out,if_neg (fun h=>h rfl)]
  obtain ⟨c0,c1,c2,c3,c4,c5,c6⟩:=HCx.out _ HB4.out
  have f3:=Ld (FT.out _ HB4.out vl s3)
  generalize termLevels vl ls=tl at f3 HF
  obtain ⟨tt,tb,hq⟩:=putRes_form12 tl
  rw [hq] at f3
  clear FT HCx HX HVE
  go_wp2_with fail
  (with_reducible refine f3.out.mono ?_);rintro e w3 ⟨rfl,hb3⟩
  have HB5:=Ld (HB4.out.trans (hb3.mono HB4.out.size))
  clear f3 hb3
  go_wp2
  refine bodyPost_ret (v:=.tuple #[.string tt,.bool tb]) (by simp [results,Tryz.results38,go_sem]) rfl ⟨by rw [HF.out,hq],HB5.out⟩
theorem implValueFor {w:World} {B:Nat} {v:Value} {env:List En} (h:EnvIs w B v env) (hs:EnvSmall env) (hr:EnvRng env) (hv:Vars w) (hm:MaxLenInt w) (n:List UInt8) (hn:n.length≤281474976710656)
  {b2:Nat} {lv:Value} {ls:List (List UInt8)} (hl:w.ownsRow b2 9 1 lv ls.length (ls.map sv)) (hl1:ls.length≤1048576) (hl2:∀ x∈ls,x.length≤1048576) :
  Calls Tryz.prog 21 #[v,.string ⟨n.toArray⟩,lv] w fun e w'=>e=.returned (putRes (valueFor env n ls))∧Below w.heap.size w w':=by
 obtain ⟨ra,rc,rfl⟩:=h.len
 obtain ⟨la,lc,rfl⟩:=own_sliceV hl
 have f1:=Ld (implEnvOf h hs hr hv hm)
 have F2:=Ld fun (W:World) (hW:Below w.heap.size w W) (b:Nat) (ht:TabIs W b (knownAll env).length (tabAt env env.length 0))=>implValueE (h.below hW) hs hr (hv.below hW) (hm.below hW) ht n hn (own_below hl hW) hl1 hl2
 generalize valueFor env n ls=vf at F2 ⊢
 obtain ⟨tt,tb,hq⟩:=putRes_form12 vf
 rw [hq] at F2 ⊢
 clear h hs hr hv hm hl hl2 hq
 go_enter Tryz.func21,Tryz.ntmps21
 go_wp2_with fail
 (with_reducible refine f1.out.mono ?_);rintro e w1 ⟨b,rfl,ht,hb1⟩
 have f2:=Ld (F2.out _ hb1 b ht)
 have HB1:=Ld hb1
 clear f1 F2 hb1 ht
 go_wp2_with fail
 (with_reducible refine f2.out.mono ?_);rintro e w2 ⟨rfl,hb2⟩
 have HB2:=Ld (HB1.out.trans (hb2.mono HB1.out.size))
 clear f2 hb2
 go_wp2
 refine bodyPost_ret (v:=.tuple #[.string tt,.bool tb]) (by simp [results,Tryz.results21,go_sem]) rfl ⟨rfl,HB2.out⟩
end Go.Proofs.YtfohdgplaimomaaGreatDoor
